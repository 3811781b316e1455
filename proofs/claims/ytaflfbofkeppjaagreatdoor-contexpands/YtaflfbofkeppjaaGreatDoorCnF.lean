/- The program: cont.fold. -/
import Derived.Test.YtaflfbofkeppjaaGreatDoorJoinF
set_option linter.unusedSimpArgs false
set_option linter.unusedVariables false
set_option maxRecDepth 100000
namespace Go.Proofs.YtaflfbofkeppjaaGreatDoor
open Go.RowKit
attribute [local go_sem] Oper.semAt_some

/-- What is asked of a list that is folded. -/
structure Fl (l : List Int) : Prop where
  n0 : 0 < l.length
  n1 : l.length ≤ 1000
  num : ∀ i, i < l.length → -1000000000000000000 ≤ l.getD i 0 ∧ l.getD i 0 ≤ 1000000000000000000
  tl : CnT.Tl l

def inM (x : Int) : Prop := -1000000000000000000 ≤ x ∧ x ≤ 1000000000000000000

/-- The boxes behind j entries. -/
structure FSt (h b o cap : Nat) (l : List Int) (w : World) (j : Nat) (ob : Option Nat) (W : World) : Prop where
  v : Cl h [.int .i64 0, .int .i64 0] 42 W
  f : Cl (h + 1) [.bool false] 4 W
  x : Cl (h + 2) [.int .i64 (CnQ.cf (l.drop (l.length - j))).1, .int .i64 (CnQ.cf (l.drop (l.length - j))).2] 42 W
  s : Cl (h + 3) [.slice (some ⟨b, o, none⟩) l.length cap] 22 W
  b : Below h w W
  o : ow (h + 4) ob W
  ok : ∀ i, l.length - j ≤ i → i < l.length → inM (CnQ.cf (l.drop i)).1

theorem FSt.step {h b o cap j : Nat} {l : List Int} {w : World} {ob o' : Option Nat} {W W' : World} (s : FSt h b o cap l w j ob W) (hg : W.grownBy W' ob) (ho : o' = ob ∨ ∃ g, o' = some g ∧ W.heap.size ≤ g) : FSt h b o cap l w j o' W' :=
  ⟨s.v.grown hg (s.o.ne (by omega)), s.f.grown hg (s.o.ne (by omega)), s.x.grown hg (s.o.ne (by omega)), s.s.grown hg (s.o.ne (by omega)), s.b.grown hg (by have := s.o.1; omega) (fun k e => by have := s.o.2 k e; omega), s.o.step hg ho, s.ok⟩
theorem FSt.put {h b o cap j : Nat} {l : List Int} {w : World} {ob : Option Nat} {W : World} (s : FSt h b o cap l w j ob W) (x : Obj) (k : Nat) (hk : k = h + 4 ∨ k = h + 5) : FSt h b o cap l w j ob (W.putObj k x) :=
  ⟨s.v.put x (by omega), s.f.put x (by omega), s.x.put x (by omega), s.s.put x (by omega), s.b.grown (grownBy_putObj' W _ x) (by have := s.o.1; omega) (fun k e => by cases e; omega), s.o.put x, s.ok⟩

set_option maxHeartbeats 8000000 in
theorem fold_any (l : List Int) (b o cap : Nat) (w : World) (hl : Fl l) (hr : Rw b o l w) :
    Calls Tryz.prog 65 #[.slice (some ⟨b, o, none⟩) l.length cap] w fun e w' => Below w.heap.size w w' ∧
      (((∀ i, i < l.length → inM (CnQ.cf (l.drop i)).1) ∧ e = .returned (.tuple #[.agg #[.int .i64 (CnQ.cf l).1, .int .i64 (CnQ.cf l).2], .bool true])) ∨ (¬ (∀ i, i < l.length → inM (CnQ.cf (l.drop i)).1) ∧ e = .returned (.tuple #[.agg #[.int .i64 0, .int .i64 0], .bool false]))) := by
  have HL : Hid (Fl l) := hl
  have HR : Hid (Rw b o l w) := hr
  have HSeq : Hid (∀ bb n, 2 ≤ n → YieldsE Fence.wide n Tryz.prog 158 #[.pointer (some ⟨bb, 0, none⟩)] (fun j : Nat => #[.int .i64 ((l.length : Int) - 1 - (j : Int)), .int .i64 (l.getD (l.length - 1 - j) 0)]) (fun W => Cl bb [.slice (some ⟨b, o, none⟩) l.length cap] 22 W ∧ Rw b o l W) (List.range l.length) true) := fun bb n hn => backward_yields l b o cap bb (by have := hl.n1; omega) n hn
  have HBk : Hid (∀ w, Calls Tryz.prog 115 #[.slice (some ⟨b, o, none⟩) l.length cap] w fun e w' => e = .returned (.func (.func 158) #[] #[.pointer (some ⟨w.heap.size, 0, none⟩)]) ∧ w' = w.alloc (.cells #[.slice (some ⟨b, o, none⟩) l.length cap] 22)) := fun w => Backward_any _ w ⟨_, _, _, rfl⟩
  have HUp : Hid (∀ (x P Q V : Int) (w : World), -1000000000000000000 ≤ x ∧ x ≤ 1000000000000000000 → 1 ≤ P ∧ P ≤ 1000000000000000000 → 0 ≤ Q ∧ Q ≤ P → V = x * P + Q → Calls Tryz.prog 116 #[.int .i64 x, .agg #[.int .i64 P, .int .i64 Q]] w fun e w' => (-1000000000000000000 ≤ V ∧ V ≤ 1000000000000000000 → e = .returned (.tuple #[.int .i64 V, .bool true])) ∧ (¬ (-1000000000000000000 ≤ V ∧ V ≤ 1000000000000000000) → e = .returned (.tuple #[.int .i64 0, .bool false])) ∧ Below w.heap.size w w') := fun x P Q V w h1 h2 h3 h4 => upAhead_any x P Q V w h1 h2 h3 h4
  clear hl hr
  refine (callsIn_wide (n := 6)).1 ?_
  refine callsIn_of_wp_marks Tryz.func65 rfl trivial ?_ rfl
  simp only [Tryz.ntmps65, List.size_toArray, List.length_cons, List.length_nil, Nat.reduceAdd, Nat.reduceSub, Array.replicate_succ, Array.replicate_zero, List.push_toArray, List.append_toArray, List.nil_append, List.cons_append]
  gi_wp2
  refine ⟨trivial, ?_⟩
  refine (callsIn_wide.2 (HBk.out _)).mono ?_
  rintro e w1 ⟨rfl, hw1⟩
  obtain ⟨W0, hW0⟩ : ∃ W0, W0 = (((w.alloc (.cells #[.int .i64 0, .int .i64 0] 42)).alloc (.cells #[.bool false] 4)).alloc (.cells #[.int .i64 1, .int .i64 0] 42)) := ⟨_, rfl⟩
  rw [← hW0] at hw1 ⊢
  have z0 : W0.heap.size = w.heap.size + 3 := by rw [hW0]; simp
  have z1 : w1.heap.size = w.heap.size + 4 := by rw [hw1, World.size_alloc, z0]
  have C0 : FSt w.heap.size b o cap l w 0 none w1 := by
    have k0 : Below w.heap.size w W0 := by rw [hW0]; exact (((Below.refl _ _).alloc (Nat.le_refl _) _).alloc (by simp) _).alloc (by simp; omega) _
    have v0 : Cl w.heap.size [.int .i64 0, .int .i64 0] 42 W0 := by
      rw [hW0]; exact ((Cl.new [.int .i64 0, .int .i64 0] 42 w).alloc _).alloc _
    have f0 : Cl (w.heap.size + 1) [.bool false] 4 W0 := by
      rw [hW0]
      have := (Cl.new [.bool false] 4 (w.alloc (.cells #[.int .i64 0, .int .i64 0] 42))).alloc (.cells #[.int .i64 1, .int .i64 0] 42)
      rw [World.size_alloc] at this
      exact this
    have x0 : Cl (w.heap.size + 2) [.int .i64 1, .int .i64 0] 42 W0 := by
      rw [hW0]
      have := Cl.new [.int .i64 1, .int .i64 0] 42 ((w.alloc (.cells #[.int .i64 0, .int .i64 0] 42)).alloc (.cells #[.bool false] 4))
      rw [World.size_alloc, World.size_alloc] at this
      exact this
    have s0 : Cl (w.heap.size + 3) [.slice (some ⟨b, o, none⟩) l.length cap] 22 w1 := by
      rw [hw1, ← z0]; exact Cl.new [.slice (some ⟨b, o, none⟩) l.length cap] _ W0
    refine ⟨?_, ?_, ?_, s0, ?_, ⟨by omega, fun g e => by cases e⟩, fun i h1 h2 => by omega⟩
    · rw [hw1]; exact v0.alloc _
    · rw [hw1]; exact f0.alloc _
    · rw [hw1, Nat.sub_zero, List.drop_length]; exact x0.alloc _
    · rw [hw1]; exact k0.alloc (by omega) _
  rw [z0]
  clear hW0 hw1 z0
  clear W0
  gi_wp2
  refine wpIn_rangeE (F := Fence.wide) (n := 6) rfl (by decide) (gf := 158) (lb := #[.pointer (some ⟨w.heap.size + 3, 0, none⟩)]) rfl trivial (enters_of Tryz.func158 (by kernel_rfl) rfl) (HSeq.out (w.heap.size + 3) _ (by decide)) (fun _ => rfl)
    (fun o' pre W => FSt w.heap.size b o cap l w pre.length o' W)
    (fun c o' pre W => c = .ret ∧ ¬ (∀ i, i < l.length → inM (CnQ.cf (l.drop i)).1) ∧ Cl w.heap.size [.int .i64 0, .int .i64 0] 42 W ∧ Cl (w.heap.size + 1) [.bool false] 4 W ∧ Below w.heap.size w W)
    ?ab ?abp ?abx (fun o' s W h => ⟨h.s, HR.out.below h.b⟩) C0
    (fun x => { tmps := #[.slice (some ⟨b, o, none⟩) l.length cap, undef, .pointer (some ⟨w.heap.size, 0, none⟩), .pointer (some ⟨w.heap.size + 1, 0, none⟩), .pointer (some ⟨w.heap.size + 2, 0, none⟩), undef, .int .i64 (l.getD (l.length - 1 - x) 0), undef, undef, .agg #[.int .i64 1, .int .i64 0], .slice (some ⟨b, o, none⟩) l.length cap, .func (.func 158) #[] #[.pointer (some ⟨w.heap.size + 3, 0, none⟩)], .int .i64 ((l.length : Int) - 1 - (x : Int)), .int .i64 (l.getD (l.length - 1 - x) 0), undef, undef, undef, undef, undef, undef, undef, undef, undef, undef, undef, undef, undef, undef], defers := [] }) ?assign ?body ?hend ?done ?stop
  case ab => exact fun o' s A B o'' h hg ho => h.step hg ho
  case abp => exact fun o' s A ob h => h.put ob _ (by omega)
  case abx =>
    rintro c o' s A ob ⟨h0, h1, h2, h3, h4⟩
    exact ⟨h0, h1, h2.put ob (by omega), h3.put ob (by omega), h4.grown (grownBy_putObj' _ _ _) h4.size (fun k e => by cases e; omega)⟩
  case assign =>
    intro lp x W K hK
    gi_wp2
    simpa using hK
  case hend => intro hf; cases hf
  case body =>
    rintro lp o' pre x W hst hog hpre hz
    obtain ⟨hp1, hx, hpl⟩ := range_prefix hpre
    obtain ⟨j, hj⟩ : ∃ j, j = pre.length := ⟨_, rfl⟩
    rw [← hj] at hx hpl hst
    subst hx
    obtain ⟨i, hi⟩ : ∃ i, l.length = i + 1 + x := ⟨l.length - 1 - x, by omega⟩
    have hix : l.length - 1 - x = i := by omega
    have hix2 : l.length - x = i + 1 := by omega
    have hix3 : l.length - (x + 1) = i := by omega
    have hin : i < l.length := by omega
    obtain ⟨E, hE⟩ : ∃ E, E = l.getD i 0 := ⟨_, rfl⟩
    obtain ⟨P, hP⟩ : ∃ P, P = (CnQ.cf (l.drop (i + 1))).1 := ⟨_, rfl⟩
    obtain ⟨Q, hQ⟩ : ∃ Q, Q = (CnQ.cf (l.drop (i + 1))).2 := ⟨_, rfl⟩
    obtain ⟨V, hV⟩ : ∃ V, V = E * P + Q := ⟨_, rfl⟩
    have hcf : CnQ.cf (l.drop i) = (V, P) := by rw [CnT.cf_step hin, ← hE, ← hP, ← hQ, ← hV]
    have ht := CnT.cf_tail HL.out.tl (l.length - (i + 1)) (i + 1) (by omega) (by omega)
    rw [← hP, ← hQ] at ht
    have hPM : P ≤ 1000000000000000000 := by
      by_cases c : i + 1 < l.length
      · have := (hst.ok (i + 1) (by omega) c).2; rw [← hP] at this; exact this
      · rw [List.drop_of_length_le (by omega)] at hP; rw [hP]; simp [CnQ.cf]
    have hEn : -1000000000000000000 ≤ E ∧ E ≤ 1000000000000000000 := by rw [hE]; exact HL.out.num i hin
    have HU : Hid (∀ w, Calls Tryz.prog 116 #[.int .i64 E, .agg #[.int .i64 P, .int .i64 Q]] w fun e w' => (-1000000000000000000 ≤ V ∧ V ≤ 1000000000000000000 → e = .returned (.tuple #[.int .i64 V, .bool true])) ∧ (¬ (-1000000000000000000 ≤ V ∧ V ≤ 1000000000000000000) → e = .returned (.tuple #[.int .i64 0, .bool false])) ∧ Below w.heap.size w w') := fun w => HUp.out E P Q V w hEn ⟨ht.1, hPM⟩ ⟨ht.2.1, ht.2.2⟩ hV
    have hX := hst.x
    rw [hix2, ← hP, ← hQ] at hX
    have q1 := hX.cell 0
    have q2 := hX.cell 1
    simp only [List.getElem?_cons_zero, List.getElem?_cons_succ] at q1 q2
    have HST : Hid (FSt w.heap.size b o cap l w x o' W) := hst
    have HX : Hid (Cl (w.heap.size + 2) [.int .i64 P, .int .i64 Q] 42 W) := hX
    have HOG : Hid (∀ g, o' = some g → w1.heap.size + 2 ≤ g ∧ g < W.heap.size) := hog
    have HJ : Hid (x = pre.length) := hj
    have HCf : Hid (CnQ.cf (l.drop i) = (V, P) ∧ l.length = i + 1 + x) := ⟨hcf, hi⟩
    rw [hix, ← hE]
    have NK : ∀ k, k < w.heap.size + 4 → ¬ keptE w1.heap.size o' k := by
      rintro k hk (e | e | e)
      · omega
      · omega
      · have := (HOG.out k e).1; omega
    have HNK : Hid (∀ k, k < w.heap.size + 4 → ¬ keptE w1.heap.size o' k) := NK
    have HZW : Hid (w.heap.size + 6 ≤ W.heap.size) := by show _ ≤ _; omega
    clear hE hP hQ hV hcf ht hPM hEn hX hst hog hj hi hix hix2 hix3 hin hpl hp1 hpre NK hz
    gi_wp2
    refine ⟨trivial, ?_⟩
    refine (callsIn_rnd (HU.out W)).mono ?_
    rintro e w2 ⟨hA, hB, k2⟩
    have HK2 : Hid (Below W.heap.size W w2) := k2
    have hzz := HST.out.o.1
    have X2 : Cl (w.heap.size + 2) [.int .i64 P, .int .i64 Q] 42 w2 := HX.out.below k2
    have q3 := X2.cell 0
    have q4 := X2.cell 1
    have q5 := X2.frozen 0
    have q6 := X2.frozen 1
    have V2 := HST.out.v.below k2
    have F2 := HST.out.f.below k2
    simp only [List.getElem?_cons_zero, List.getElem?_cons_succ] at q3 q4
    have HX2 : Hid (Cl (w.heap.size + 2) [.int .i64 P, .int .i64 Q] 42 w2) := X2
    by_cases hc : -1000000000000000000 ≤ V ∧ V ≤ 1000000000000000000
    · obtain rfl := hA hc
      have HC : Hid (inM V) := hc
      clear hA hB hc X2 V2 F2 k2 q1 q2
      gi_wp2
      refine ⟨?_, ?_⟩
      · exact (((KP.refl _ W).below HK2.out).setCell (HNK.out _ (by simp)) _).setCell (HNK.out _ (by simp)) _
      · have hlen : (pre ++ [x]).length = x + 1 := by rw [List.length_append, ← HJ.out]; rfl
        obtain ⟨hcf, hi⟩ := HCf.out
        have hk3 : Below w.heap.size w ((w2.setCell ⟨w.heap.size + 2, 0, none⟩ (.int .i64 V)).setCell ⟨w.heap.size + 2, 1, none⟩ (.int .i64 P)) := ((HST.out.b.trans (HK2.out.mono (by omega))).setCell (by simp) _).setCell (by simp) _
        show FSt w.heap.size b o cap l w (pre ++ [x]).length o' _
        rw [hlen]
        refine ⟨?_, ?_, ?_, ?_, hk3, ?_, ?_⟩
        · exact ((HST.out.v.below HK2.out).other (p := ⟨w.heap.size + 2, 0, none⟩) (by simp) _).other (p := ⟨w.heap.size + 2, 1, none⟩) (by simp) _
        · exact ((HST.out.f.below HK2.out).other (p := ⟨w.heap.size + 2, 0, none⟩) (by simp) _).other (p := ⟨w.heap.size + 2, 1, none⟩) (by simp) _
        · rw [show l.length - (x + 1) = i by omega, hcf]
          exact (HX2.out.set 0 _).set 1 _
        · exact ((HST.out.s.below HK2.out).other (p := ⟨w.heap.size + 2, 0, none⟩) (by simp) _).other (p := ⟨w.heap.size + 2, 1, none⟩) (by simp) _
        · refine HST.out.o.size ?_
          have := HK2.out.size
          simp [World.setCell]
          omega
        · intro i' h1 h2
          rcases Nat.lt_or_ge i i' with h | h
          · exact HST.out.ok i' (by omega) h2
          · obtain rfl : i' = i := by omega
            rw [hcf]; exact HC.out
    · obtain rfl := hB hc
      have HC : Hid (¬ inM V) := hc
      have q7 := V2.frozen 0
      have q8 := V2.frozen 1
      have q9 := F2.frozen 0
      have q10 := V2.cell 0
      have q11 := V2.cell 1
      have q12 := F2.cell 0
      simp only [List.getElem?_cons_zero, List.getElem?_cons_succ] at q10 q11 q12
      have HV2 : Hid (Cl w.heap.size [.int .i64 0, .int .i64 0] 42 w2) := V2
      have HF2 : Hid (Cl (w.heap.size + 1) [.bool false] 4 w2) := F2
      clear hA hB hc X2 V2 F2 k2 q1 q2
      gi_wp2
      refine ⟨?_, rfl, ?_, ?_, ?_, ?_⟩
      · exact ((((KP.refl _ W).below HK2.out).setCell (HNK.out _ (by simp)) _).setCell (HNK.out _ (by simp)) _).setCell (HNK.out _ (by simp)) _
      · intro h
        have := h i (by have := HCf.out.2; omega)
        rw [HCf.out.1] at this
        exact HC.out this
      · have h := (HV2.out.set 0 (.int .i64 0)).set 1 (.int .i64 0)
        exact h.other (p := ⟨w.heap.size + 1, 0, none⟩) (by simp) _
      · have h := (HF2.out.other (p := ⟨w.heap.size, 0, none⟩) (by simp) (.int .i64 0)).other (p := ⟨w.heap.size, 1, none⟩) (by simp) (.int .i64 0)
        exact h.set 0 (.bool false)
      · exact (((HST.out.b.trans (HK2.out.mono (by omega))).setCell (by simp) _).setCell (by simp) _).setCell (by simp) _
  case done =>
    rintro hf o' W hst hK
    rw [List.length_range] at hst
    have q1 := hst.x.cell 0
    have q2 := hst.x.cell 1
    have q3 := hst.v.cell 0
    have q4 := hst.v.cell 1
    have q5 := hst.f.cell 0
    have q6 := hst.v.frozen 0
    have q7 := hst.v.frozen 1
    have q8 := hst.f.frozen 0
    rw [Nat.sub_self, List.drop_zero] at q1 q2
    simp only [List.getElem?_cons_zero, List.getElem?_cons_succ] at q1 q2 q3 q4 q5
    have HST : Hid (FSt w.heap.size b o cap l w l.length o' W) := hst
    have HK : Hid (W.heap[w.heap.size + 4]? = some (.deferred (some []))) := by rw [z1] at hK; exact hK
    obtain ⟨P, hP⟩ : ∃ P, P = (CnQ.cf l).1 := ⟨_, rfl⟩
    obtain ⟨Q, hQ⟩ : ∃ Q, Q = (CnQ.cf l).2 := ⟨_, rfl⟩
    rw [← hP] at q1
    rw [← hQ] at q2
    have HPQ : Hid ((CnQ.cf l).1 = P ∧ (CnQ.cf l).2 = Q) := ⟨hP.symm, hQ.symm⟩
    clear hst hK hP hQ
    gi_wp2
    generalize hWF : ((W.setCell ⟨w.heap.size, 0, none⟩ (.int .i64 P)).setCell ⟨w.heap.size, 1, none⟩ (.int .i64 Q)).setCell ⟨w.heap.size + 1, 0, none⟩ (.bool true) = WF
    have hv : Cl w.heap.size [.int .i64 P, .int .i64 Q] 42 WF := by
      rw [← hWF]
      have h := (HST.out.v.set 0 (.int .i64 P)).set 1 (.int .i64 Q)
      exact h.other (p := ⟨w.heap.size + 1, 0, none⟩) (by simp) _
    have hfl : Cl (w.heap.size + 1) [.bool true] 4 WF := by
      rw [← hWF]
      have h := (HST.out.f.other (p := ⟨w.heap.size, 0, none⟩) (by simp) (.int .i64 P)).other (p := ⟨w.heap.size, 1, none⟩) (by simp) (.int .i64 Q)
      exact h.set 0 (.bool true)
    have hB : Below w.heap.size w WF := by rw [← hWF]; exact ((HST.out.b.setCell (by simp) _).setCell (by simp) _).setCell (by simp) _
    have hK1 : WF.heap[w.heap.size + 4]? = some (.deferred (some [])) := by
      rw [← hWF, Below.heap_setCell _ _ _ _ (by simp), Below.heap_setCell _ _ _ _ (by simp), Below.heap_setCell _ _ _ _ (by simp)]; exact HK.out
    clear hWF q1 q2 q3 q4 q5 q6 q7 q8
    have hv2 := (hv.put (.deferred none) (show w.heap.size ≠ w.heap.size + 4 by omega)).cell 0
    have hv3 := (hv.put (.deferred none) (show w.heap.size ≠ w.heap.size + 4 by omega)).cell 1
    have hf2 := (hfl.put (.deferred none) (show w.heap.size + 1 ≠ w.heap.size + 4 by omega)).cell 0
    simp at hv2 hv3 hf2
    refine ⟨by simp, .inl ⟨_, _, rfl, run_takeDeferred hK1, ?_⟩⟩
    refine ⟨.tuple #[.agg #[.int .i64 P, .int .i64 Q], .bool true], by simp [results, Tryz.results65, go_sem, hv2, hv3, hf2], hB.grown (grownBy_putObj' _ _ _) hB.size (fun k e => by cases e; omega), .inl ⟨fun i hi => HST.out.ok i (by omega) hi, by rw [HPQ.out.1, HPQ.out.2]⟩⟩
  case stop =>
    rintro c o' pre W ⟨rfl, h1, h2, h3, h4⟩ hK
    gi_wp2
    have hv2 := (h2.put (.deferred none) (show w.heap.size ≠ w1.heap.size by omega)).cell 0
    have hv3 := (h2.put (.deferred none) (show w.heap.size ≠ w1.heap.size by omega)).cell 1
    have hf2 := (h3.put (.deferred none) (show w.heap.size + 1 ≠ w1.heap.size by omega)).cell 0
    simp at hv2 hv3 hf2
    refine ⟨by simp, .inl ⟨_, _, rfl, run_takeDeferred hK, ?_⟩⟩
    exact ⟨.tuple #[.agg #[.int .i64 0, .int .i64 0], .bool false], by simp [results, Tryz.results65, go_sem, hv2, hv3, hf2], h4.grown (grownBy_putObj' _ _ _) h4.size (fun k e => by cases e; omega), .inr ⟨h1, rfl⟩⟩

end Go.Proofs.YtaflfbofkeppjaaGreatDoor
