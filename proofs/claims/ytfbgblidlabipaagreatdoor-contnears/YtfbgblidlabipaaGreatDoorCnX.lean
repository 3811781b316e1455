/- The program: cont.near. -/
import Derived.Test.YtfbgblidlabipaaGreatDoorJoinF
import Derived.Test.YtfbgblidlabipaaGreatDoorCnW
import Derived.Test.YtfbgblidlabipaaGreatDoorJoinJ
set_option linter.unusedSimpArgs false
set_option linter.unusedVariables false
set_option maxRecDepth 100000
namespace Go.Proofs.YtfbgblidlabipaaGreatDoor
open Go.RowKit
open CnM CnQ CnR
attribute [local go_sem] Oper.semAt_some

/-- The cells that cont.near reads. -/
abbrev S7 (h : Nat) (most p1 q1 g1 p2 q2 g2 : Int) (W : World) : Prop :=
  W.cell? ⟨h, 0, none⟩ = some (.int .i64 most) ∧ W.cell? ⟨h + 2, 0, none⟩ = some (.int .i64 p1) ∧ W.cell? ⟨h + 2, 1, none⟩ = some (.int .i64 q1) ∧ W.cell? ⟨h + 2, 2, none⟩ = some (.int .i64 g1) ∧
  W.cell? ⟨h + 3, 0, none⟩ = some (.int .i64 p2) ∧ W.cell? ⟨h + 3, 1, none⟩ = some (.int .i64 q2) ∧ W.cell? ⟨h + 3, 2, none⟩ = some (.int .i64 g2)
theorem S7.of {h : Nat} {most p1 q1 g1 p2 q2 g2 : Int} {W : World} (m : Cl h [.int .i64 most] 3 W) (x : Cl (h + 2) [.int .i64 p1, .int .i64 q1, .int .i64 g1] 97 W) (y : Cl (h + 3) [.int .i64 p2, .int .i64 q2, .int .i64 g2] 97 W) : S7 h most p1 q1 g1 p2 q2 g2 W :=
  ⟨m.cell 0, x.cell 0, x.cell 1, x.cell 2, y.cell 0, y.cell 1, y.cell 2⟩
/-- An approach's three cells. -/
abbrev apc (a b p q : Int) : List Value := [.int .i64 p, .int .i64 q, .int .i64 (gp a b p q)]
/-- The boxes behind i quotients. -/
structure NSt (h : Nat) (a b most : Int) (w : World) (i : Nat) (ob : Option Nat) (W : World) : Prop where
  m : Cl h [.int .i64 most] 3 W
  v : Cl (h + 1) [.int .i64 0, .int .i64 0, .int .i64 0] 97 W
  x : Cl (h + 2) (apc a b (cv a b i).p1 (cv a b i).q1) 97 W
  y : Cl (h + 3) (apc a b (cv a b i).p2 (cv a b i).q2) 97 W
  ca : Cl (h + 4) [.int .i64 a] 3 W
  cb : Cl (h + 5) [.int .i64 b] 3 W
  bl : Below h w W
  o : ow (h + 6) ob W
  l1 : (cv a b i).q1 ≤ most
  l2 : (cv a b i).q2 ≤ most
theorem NSt.step {h : Nat} {a b most : Int} {w : World} {i : Nat} {ob o' : Option Nat} {W W' : World} (s : NSt h a b most w i ob W) (hg : W.grownBy W' ob) (ho : o' = ob ∨ ∃ g, o' = some g ∧ W.heap.size ≤ g) : NSt h a b most w i o' W' :=
  ⟨s.m.grown hg (s.o.ne (by omega)), s.v.grown hg (s.o.ne (by omega)), s.x.grown hg (s.o.ne (by omega)), s.y.grown hg (s.o.ne (by omega)), s.ca.grown hg (s.o.ne (by omega)), s.cb.grown hg (s.o.ne (by omega)), s.bl.grown hg (by have := s.o.1; omega) (fun k e => by have := s.o.2 k e; omega), s.o.step hg ho, s.l1, s.l2⟩
theorem NSt.put {h : Nat} {a b most : Int} {w : World} {i : Nat} {ob : Option Nat} {W : World} (s : NSt h a b most w i ob W) (x : Obj) (k : Nat) (hk : k = h + 6 ∨ k = h + 7) : NSt h a b most w i ob (W.putObj k x) :=
  ⟨s.m.put x (by omega), s.v.put x (by omega), s.x.put x (by omega), s.y.put x (by omega), s.ca.put x (by omega), s.cb.put x (by omega), s.bl.grown (grownBy_putObj' W _ x) (by have := s.o.1; omega) (fun k e => by cases e; omega), s.o.put x, s.l1, s.l2⟩

theorem NSt.drew {h : Nat} {a b most : Int} {w : World} {i : Nat} {ob : Option Nat} {W : World} (s : NSt h a b most w i ob W) : NSt h a b most w i ob W.drew :=
  ⟨s.m, s.v, s.x, s.y, s.ca, s.cb, s.bl.drew, s.o, s.l1, s.l2⟩

/-- Three cells of block c written. -/
def put3 (W : World) (c : Nat) (u v r : Value) : World := ((W.setCell ⟨c, 0, none⟩ u).setCell ⟨c, 1, none⟩ v).setCell ⟨c, 2, none⟩ r
theorem Cl.put3 {c : Nat} {x y z : Value} {t : TypeId} {W : World} (h : Cl c [x, y, z] t W) (u v r : Value) : Cl c [u, v, r] t (put3 W c u v r) := ((h.set 0 u).set 1 v).set 2 r
theorem Cl.other3 {b c : Nat} {l : List Value} {t : TypeId} {W : World} (h : Cl b l t W) (hne : b ≠ c) (u v r : Value) : Cl b l t (Go.Proofs.YtfbgblidlabipaaGreatDoor.put3 W c u v r) :=
  ((h.other (p := ⟨c, 0, none⟩) hne u).other (p := ⟨c, 1, none⟩) hne v).other (p := ⟨c, 2, none⟩) hne r
theorem below_put3 {B c : Nat} {w W : World} (h : Below B w W) (hc : B ≤ c) (u v r : Value) : Below B w (put3 W c u v r) :=
  ((h.setCell (p := ⟨c, 0, none⟩) hc u).setCell (p := ⟨c, 1, none⟩) hc v).setCell (p := ⟨c, 2, none⟩) hc r
theorem KP.put3 {S : Nat → Prop} {x y : World} {c : Nat} (h : KP S x y) (hc : ¬ S c) (u v r : Value) : KP S x (Go.Proofs.YtfbgblidlabipaaGreatDoor.put3 y c u v r) :=
  ((h.setCell (p := ⟨c, 0, none⟩) hc u).setCell (p := ⟨c, 1, none⟩) hc v).setCell (p := ⟨c, 2, none⟩) hc r
theorem KP.drew {S : Nat → Prop} {x y : World} (h : KP S x y) : KP S x y.drew := ⟨h.size, h.block⟩
theorem put3_size (W : World) (c : Nat) (u v r : Value) : (put3 W c u v r).heap.size = W.heap.size := by simp [put3, World.setCell]
theorem NSt.next {h : Nat} {a b most : Int} {w : World} {i : Nat} {ob : Option Nat} {W W3 : World} {p2 q2 g2 P Q G : Int} (s : NSt h a b most w i ob W) (k : Below W.heap.size W W3) (hz : h ≤ W.heap.size)
    (e1 : p2 = (cv a b i).p2) (e2 : q2 = (cv a b i).q2) (e3 : g2 = gp a b p2 q2) (e4 : P = (cv a b (i + 1)).p2) (e5 : Q = (cv a b (i + 1)).q2) (e6 : G = gp a b P Q) (hq : ¬ most < Q) :
    NSt h a b most w (i + 1) ob (put3 (put3 W3 (h + 2) (.int .i64 p2) (.int .i64 q2) (.int .i64 g2)) (h + 3) (.int .i64 P) (.int .i64 Q) (.int .i64 G)) := by
  have x1 : apc a b (cv a b (i + 1)).p1 (cv a b (i + 1)).q1 = [.int .i64 p2, .int .i64 q2, .int .i64 g2] := by
    show [Value.int .i64 (cv a b i).p2, .int .i64 (cv a b i).q2, .int .i64 (gp a b (cv a b i).p2 (cv a b i).q2)] = _
    rw [← e1, ← e2, ← e3]
  have x2 : apc a b (cv a b (i + 1)).p2 (cv a b (i + 1)).q2 = [.int .i64 P, .int .i64 Q, .int .i64 G] := by
    unfold apc
    rw [← e4, ← e5, ← e6]
  refine ⟨?_, ?_, ?_, ?_, ?_, ?_, ?_, ?_, ?_, ?_⟩
  · exact ((s.m.below k).other3 (by omega) _ _ _).other3 (by omega) _ _ _
  · exact ((s.v.below k).other3 (by omega) _ _ _).other3 (by omega) _ _ _
  · rw [x1]; exact ((s.x.below k).put3 _ _ _).other3 (by omega) _ _ _
  · rw [x2]; exact ((s.y.below k).other3 (by omega) _ _ _).put3 _ _ _
  · exact ((s.ca.below k).other3 (by omega) _ _ _).other3 (by omega) _ _ _
  · exact ((s.cb.below k).other3 (by omega) _ _ _).other3 (by omega) _ _ _
  · exact below_put3 (below_put3 (s.bl.trans (k.mono hz)) (by omega) _ _ _) (by omega) _ _ _
  · refine s.o.size ?_
    rw [put3_size, put3_size]; exact k.size
  · exact s.l2
  · rw [← e5]; omega

theorem ek_next {a b : Int} {N : Nat} {pre : List Int} {x : Int} (h : pre ++ [x] <+: ek a b N) : pre.length < N ∧ x = kq a b pre.length := by
  have hl := h.length_le
  rw [ek_len] at hl
  simp at hl
  have e := ek_prefix_len a b h
  rw [List.length_append, List.length_cons, List.length_nil, Nat.zero_add, ek_succ] at e
  have e2 := List.append_inj' e rfl
  exact ⟨by omega, by simpa using e2.2⟩

set_option maxHeartbeats 8000000 in
theorem near_any (a b most : Int) (w : World) (ha : a.natAbs ≤ 1000000000000000000) (hb0 : 0 < b) (hb : b ≤ 1000000000000000000) (hm1 : 1 ≤ most) (hm : most ≤ 1000000000000000000) :
    Calls Tryz.prog 58 #[.int .i64 a, .int .i64 b, .int .i64 most] w fun e w' => ∃ P Q G, e = .returned (apv P Q G) ∧ BestF a b most P Q ∧ P.natAbs ≤ 1000000000000000000 ∧ Below w.heap.size w w' := by
  obtain ⟨N, hN, hE⟩ := en_of a b hb0 hb
  have HE : Hid (En a b N) := hE
  have HSeq : Hid (∀ ba bb n, 2 ≤ n → YieldsE Fence.wide n Tryz.prog 174 #[.pointer (some ⟨ba, 0, none⟩), .pointer (some ⟨bb, 0, none⟩)] (fun x : Int => #[.int .i64 x]) (fun W => Cl ba [.int .i64 a] 3 W ∧ Cl bb [.int .i64 b] 3 W) (ek a b N) true) := fun ba bb n hn => quotients_yields a b N ba bb hE ha hb n hn
  have HQu : Hid (∀ w, Calls Tryz.prog 121 #[.int .i64 a, .int .i64 b] w fun e w' => e = .returned (.func (.func 174) #[] #[.pointer (some ⟨w.heap.size, 0, none⟩), .pointer (some ⟨w.heap.size + 1, 0, none⟩)]) ∧ w' = (w.alloc (.cells #[.int .i64 a] 3)).alloc (.cells #[.int .i64 b] 3)) := fun w => quotients_any a b w
  have HSt : Hid (∀ i, i < N → Ap (cv a b i).p1 (cv a b i).q1 (gp a b (cv a b i).p1 (cv a b i).q1) (kq a b i) (cv a b i).p2 (cv a b i).q2 (gp a b (cv a b i).p2 (cv a b i).q2) (cv a b (i + 1)).p2 (cv a b (i + 1)).q2 (gp a b (cv a b (i + 1)).p2 (cv a b (i + 1)).q2)) := fun i hi => ap_step hE ha hb hi
  clear hE
  refine (callsIn_wide (n := 6)).1 ?_
  refine callsIn_of_wp_marks Tryz.func58 rfl trivial ?_ rfl
  simp only [Tryz.ntmps58, List.size_toArray, List.length_cons, List.length_nil, Nat.reduceAdd, Nat.reduceSub, Array.replicate_succ, Array.replicate_zero, List.push_toArray, List.append_toArray, List.nil_append, List.cons_append]
  gi_wp2
  refine ⟨trivial, ?_⟩
  refine (callsIn_wide.2 (HQu.out _)).mono ?_
  rintro e w1 ⟨rfl, hw1⟩
  obtain ⟨W0, hW0⟩ : ∃ W0, W0 = (((w.alloc (.cells #[.int .i64 most] 3)).alloc (.cells #[.int .i64 0, .int .i64 0, .int .i64 0] 97)).alloc (.cells #[.int .i64 0, .int .i64 1, .int .i64 a] 97)).alloc (.cells #[.int .i64 1, .int .i64 0, .int .i64 (-b)] 97) := ⟨_, rfl⟩
  rw [← hW0] at hw1 ⊢
  have z0 : W0.heap.size = w.heap.size + 4 := by rw [hW0]; simp
  have z1 : w1.heap.size = w.heap.size + 6 := by rw [hw1, World.size_alloc, World.size_alloc, z0]
  have C0 : NSt w.heap.size a b most w 0 none w1 := by
    have k0 : Below w.heap.size w W0 := by rw [hW0]; exact ((((Below.refl _ _).alloc (Nat.le_refl _) _).alloc (by simp) _).alloc (by simp; omega) _).alloc (by simp; omega) _
    have c0 : Cl w.heap.size [.int .i64 most] 3 W0 := by
      rw [hW0]; exact (((Cl.new [.int .i64 most] 3 w).alloc _).alloc _).alloc _
    have c1 : Cl (w.heap.size + 1) [.int .i64 0, .int .i64 0, .int .i64 0] 97 W0 := by
      rw [hW0]
      have := ((Cl.new [.int .i64 0, .int .i64 0, .int .i64 0] 97 (w.alloc (.cells #[.int .i64 most] 3))).alloc (.cells #[.int .i64 0, .int .i64 1, .int .i64 a] 97)).alloc (.cells #[.int .i64 1, .int .i64 0, .int .i64 (-b)] 97)
      rw [World.size_alloc] at this
      exact this
    have c2 : Cl (w.heap.size + 2) [.int .i64 0, .int .i64 1, .int .i64 a] 97 W0 := by
      rw [hW0]
      have := (Cl.new [.int .i64 0, .int .i64 1, .int .i64 a] 97 ((w.alloc (.cells #[.int .i64 most] 3)).alloc (.cells #[.int .i64 0, .int .i64 0, .int .i64 0] 97))).alloc (.cells #[.int .i64 1, .int .i64 0, .int .i64 (-b)] 97)
      rw [World.size_alloc, World.size_alloc] at this
      exact this
    have c3 : Cl (w.heap.size + 3) [.int .i64 1, .int .i64 0, .int .i64 (-b)] 97 W0 := by
      rw [hW0]
      have := Cl.new [.int .i64 1, .int .i64 0, .int .i64 (-b)] 97 (((w.alloc (.cells #[.int .i64 most] 3)).alloc (.cells #[.int .i64 0, .int .i64 0, .int .i64 0] 97)).alloc (.cells #[.int .i64 0, .int .i64 1, .int .i64 a] 97))
      rw [World.size_alloc, World.size_alloc, World.size_alloc] at this
      exact this
    have c4 : Cl (w.heap.size + 4) [.int .i64 a] 3 w1 := by
      rw [hw1, ← z0]; exact (Cl.new [.int .i64 a] _ W0).alloc _
    have c5 : Cl (w.heap.size + 5) [.int .i64 b] 3 w1 := by
      have := Cl.new [.int .i64 b] 3 (W0.alloc (.cells #[.int .i64 a] 3))
      rw [World.size_alloc, z0] at this
      rw [hw1]; exact this
    refine ⟨?_, ?_, ?_, ?_, c4, c5, ?_, ⟨by omega, fun g e => by cases e⟩, ?_, ?_⟩
    · rw [hw1]; exact (c0.alloc _).alloc _
    · rw [hw1]; exact (c1.alloc _).alloc _
    · rw [hw1]
      have : apc a b (cv a b 0).p1 (cv a b 0).q1 = [.int .i64 0, .int .i64 1, .int .i64 a] := by simp [apc, cv, gp]
      rw [this]; exact (c2.alloc _).alloc _
    · rw [hw1]
      have : apc a b (cv a b 0).p2 (cv a b 0).q2 = [.int .i64 1, .int .i64 0, .int .i64 (-b)] := by simp [apc, cv, gp]
      rw [this]; exact (c3.alloc _).alloc _
    · rw [hw1]; exact (k0.alloc (by omega) _).alloc (by rw [World.size_alloc]; omega) _
    · simp [cv]; omega
    · simp [cv]; omega
  rw [z0]
  clear hW0 hw1 z0
  clear W0
  gi_wp2
  refine wpIn_rangeE (F := Fence.wide) (n := 6) rfl (by decide) (gf := 174) (lb := #[.pointer (some ⟨w.heap.size + 4, 0, none⟩), .pointer (some ⟨w.heap.size + 5, 0, none⟩)]) rfl trivial (enters_of Tryz.func174 (by kernel_rfl) rfl) (HSeq.out (w.heap.size + 4) (w.heap.size + 5) _ (by decide)) (fun _ => rfl)
    (fun o' pre W => NSt w.heap.size a b most w pre.length o' W)
    (fun c o' pre W => c = .ret ∧ ∃ P Q G, BestF a b most P Q ∧ P.natAbs ≤ 1000000000000000000 ∧ Cl (w.heap.size + 1) [.int .i64 P, .int .i64 Q, .int .i64 G] 97 W ∧ Below w.heap.size w W)
    ?ab ?abp ?abx (fun o' s W h => ⟨h.ca, h.cb⟩) C0
    (fun x => { tmps := #[.int .i64 a, .int .i64 b, .int .i64 most, undef, undef, .pointer (some ⟨w.heap.size, 0, none⟩), .pointer (some ⟨w.heap.size + 1, 0, none⟩), .pointer (some ⟨w.heap.size + 2, 0, none⟩), .pointer (some ⟨w.heap.size + 3, 0, none⟩), .int .i64 x, undef, .int .i64 a, .agg #[.int .i64 0, .int .i64 1, .int .i64 a], .int .i64 b, .int .i64 (-b), .agg #[.int .i64 1, .int .i64 0, .int .i64 (-b)], .int .i64 a, .int .i64 b, .func (.func 174) #[] #[.pointer (some ⟨w.heap.size + 4, 0, none⟩), .pointer (some ⟨w.heap.size + 5, 0, none⟩)], .int .i64 x, undef, undef, undef, undef, undef, undef, undef, undef, undef, undef, undef, undef, undef, undef, undef, undef, undef, undef, undef, undef, undef, undef, undef], defers := [] }) ?assign ?body ?hend ?done ?stop
  case ab => exact fun o' s A B o'' h hg ho => h.step hg ho
  case abp => exact fun o' s A ob h => h.put ob _ (by omega)
  case abx =>
    rintro c o' s A ob ⟨h0, P, Q, G, h1, h2, h3, h4⟩
    exact ⟨h0, P, Q, G, h1, h2, h3.put ob (by omega), h4.grown (grownBy_putObj' _ _ _) h4.size (fun k e => by cases e; omega)⟩
  case assign =>
    intro lp x W K hK
    gi_wp2
    simpa using hK
  case hend => intro hf; cases hf
  case body =>
    rintro lp o' pre x W hst hog hpre hz
    obtain ⟨hi, hx⟩ := ek_next hpre
    obtain ⟨i, hi'⟩ : ∃ i, i = pre.length := ⟨_, rfl⟩
    have hst' : NSt w.heap.size a b most w pre.length o' W := hst
    rw [← hi'] at hi hx hst'
    have hAp := HSt.out i hi
    have SX := hst'.x
    have SY := hst'.y
    rw [← hx] at hAp
    obtain ⟨p1, hp1⟩ : ∃ v, v = (cv a b i).p1 := ⟨_, rfl⟩
    obtain ⟨q1, hq1⟩ : ∃ v, v = (cv a b i).q1 := ⟨_, rfl⟩
    obtain ⟨g1, hg1⟩ : ∃ v, v = gp a b p1 q1 := ⟨_, rfl⟩
    obtain ⟨p2, hp2⟩ : ∃ v, v = (cv a b i).p2 := ⟨_, rfl⟩
    obtain ⟨q2, hq2⟩ : ∃ v, v = (cv a b i).q2 := ⟨_, rfl⟩
    obtain ⟨g2, hg2⟩ : ∃ v, v = gp a b p2 q2 := ⟨_, rfl⟩
    obtain ⟨P, hP⟩ : ∃ v, v = (cv a b (i + 1)).p2 := ⟨_, rfl⟩
    obtain ⟨Q, hQ⟩ : ∃ v, v = (cv a b (i + 1)).q2 := ⟨_, rfl⟩
    obtain ⟨G, hG⟩ : ∃ v, v = gp a b P Q := ⟨_, rfl⟩
    rw [← hp1, ← hq1, ← hg1, ← hp2, ← hq2, ← hg2, ← hP, ← hQ, ← hG] at hAp
    unfold apc at SX SY
    rw [← hp1, ← hq1, ← hg1] at SX
    rw [← hp2, ← hq2, ← hg2] at SY
    have HPl : Hid (∀ w, Calls Tryz.prog 122 #[.agg #[.int .i64 p1, .int .i64 q1, .int .i64 g1], .int .i64 x, .agg #[.int .i64 p2, .int .i64 q2, .int .i64 g2]] w fun e w' => e = .returned (.agg #[.int .i64 P, .int .i64 Q, .int .i64 G]) ∧ Below w.heap.size w w') := fun w => plus_any p1 q1 g1 x p2 q2 g2 P Q G w hAp
    have HNm : Hid ((p1 = (cv a b i).p1 ∧ q1 = (cv a b i).q1 ∧ g1 = gp a b p1 q1) ∧ (p2 = (cv a b i).p2 ∧ q2 = (cv a b i).q2 ∧ g2 = gp a b p2 q2) ∧ (P = (cv a b (i + 1)).p2 ∧ Q = (cv a b (i + 1)).q2 ∧ G = gp a b P Q) ∧ i < N) := ⟨⟨hp1, hq1, hg1⟩, ⟨hp2, hq2, hg2⟩, ⟨hP, hQ, hG⟩, hi⟩
    have HST : Hid (NSt w.heap.size a b most w i o' W ∧ i = pre.length) := ⟨hst', hi'⟩
    have HSX : Hid (Cl (w.heap.size + 2) [.int .i64 p1, .int .i64 q1, .int .i64 g1] 97 W) := SX
    have HSY : Hid (Cl (w.heap.size + 3) [.int .i64 p2, .int .i64 q2, .int .i64 g2] 97 W) := SY
    have HOG : Hid (∀ g, o' = some g → w1.heap.size + 2 ≤ g ∧ g < W.heap.size) := hog
    have NK : ∀ k, k < w.heap.size + 6 → ¬ keptE w1.heap.size o' k := by
      rintro k hk (e | e | e)
      · omega
      · omega
      · have := (HOG.out k e).1; omega
    have HNK : Hid (∀ k, k < w.heap.size + 6 → ¬ keptE w1.heap.size o' k) := NK
    have HZW : Hid (w.heap.size + 8 ≤ W.heap.size) := by show _ ≤ _; omega
    have x0 := SX.cell 0
    have x1 := SX.cell 1
    have x2 := SX.cell 2
    have y0 := SY.cell 0
    have y1 := SY.cell 1
    have y2 := SY.cell 2
    simp only [List.getElem?_cons_zero, List.getElem?_cons_succ] at x0 x1 x2 y0 y1 y2
    clear hst hst' hog hpre hz hi hx hAp SX SY NK hp1 hq1 hg1 hp2 hq2 hg2 hP hQ hG hi'
    gi_wp2
    refine ⟨trivial, ?_⟩
    refine (callsIn_rnd (HPl.out W)).mono ?_
    rintro e w2 ⟨rfl, k2⟩
    have c0 : ∀ ob : Obj, (w2.alloc ob).cell? ⟨w.heap.size, 0, none⟩ = some (.int .i64 most) := fun ob => (((HST.out.1.m.below k2).alloc ob).cell 0)
    have HK2 : Hid (Below W.heap.size W w2) := k2
    clear k2 x0 x1 x2 y0 y1 y2
    by_cases hq : most < Q
    · obtain ⟨t, ht⟩ : ∃ t, t = (most - q1) / q2 := ⟨_, rfl⟩
      obtain ⟨X, hX⟩ : ∃ X, X = p1 + t * p2 := ⟨_, rfl⟩
      obtain ⟨Y, hY⟩ : ∃ Y, Y = q1 + t * q2 := ⟨_, rfl⟩
      obtain ⟨Z, hZ⟩ : ∃ Z, Z = gp a b X Y := ⟨_, rfl⟩
      have hi0 : 0 < i := by
        rcases Nat.eq_zero_or_pos i with e | e
        · exfalso
          have h1 := HNm.out.2.2.1.2.1
          rw [e] at h1
          simp [cv] at h1
          omega
        · exact e
      have hEx := ap_exit HE.out ha hb HNm.out.2.2.2 hi0 hm HST.out.1.l1 HST.out.1.l2 (by rw [← HNm.out.2.2.1.2.1]; exact hq) (t := t) (by rw [← HNm.out.1.2.1, ← HNm.out.2.1.2.1]; exact ht) (P := X) (Q := Y) (G := Z) (by rw [← HNm.out.1.1, ← HNm.out.2.1.1]; exact hX) (by rw [← HNm.out.1.2.1, ← HNm.out.2.1.2.1]; exact hY) hZ
      have hq2p : 1 ≤ q2 := by rw [HNm.out.2.1.2.1]; exact (sz_is HE.out (M := 1000000000000000000) (by omega) (by omega) hb i (by have := HNm.out.2.2.2; omega)).q2p hi0
      have hq10 : 0 ≤ q1 ∧ q1 ≤ most := by
        have h1 := (sz_is HE.out (M := 1000000000000000000) (by omega) (by omega) hb i (by have := HNm.out.2.2.2; omega)).q1
        have h2 := HST.out.1.l1
        rw [← HNm.out.1.2.1] at h1 h2
        omega
      have hbest := near_best HE.out (M := 1000000000000000000) (by omega) (by omega) hb HNm.out.2.2.2 hi0 HST.out.1.l1 HST.out.1.l2 (by rw [← HNm.out.2.2.1.2.1]; exact hq) (t := t) (by rw [← HNm.out.1.2.1, ← HNm.out.2.1.2.1]; exact ht) (P := X) (Q := Y) (by rw [← HNm.out.1.1, ← HNm.out.2.1.1]; exact hX) (by rw [← HNm.out.1.2.1, ← HNm.out.2.1.2.1]; exact hY)
      rw [← HNm.out.1.1, ← HNm.out.1.2.1, ← HNm.out.2.1.1, ← HNm.out.2.1.2.1, ← HNm.out.1.2.2, ← HNm.out.2.1.2.2] at hEx
      rw [← HNm.out.2.1.1, ← HNm.out.2.1.2.1] at hbest
      have hs2 := (sz_is HE.out (M := 1000000000000000000) (by omega) (by omega) hb i (by have := HNm.out.2.2.2; omega))
      have hp2b := hs2.p2
      have hq2b := hs2.q2
      rw [← HNm.out.2.1.1] at hp2b
      rw [← HNm.out.2.1.2.1] at hq2b
      obtain ⟨eAp, eX1, eX2, eY1, eY2, eg2, eZ, em1, em2⟩ := hEx
      have HP2 : Hid (∀ w, Calls Tryz.prog 122 #[.agg #[.int .i64 p1, .int .i64 q1, .int .i64 g1], .int .i64 t, .agg #[.int .i64 p2, .int .i64 q2, .int .i64 g2]] w fun e w' => e = .returned (.agg #[.int .i64 X, .int .i64 Y, .int .i64 Z]) ∧ Below w.heap.size w w') := fun w => plus_any p1 q1 g1 t p2 q2 g2 X Y Z w eAp
      have HNe : Hid (∀ w, Calls Tryz.prog 123 #[.agg #[.int .i64 p2, .int .i64 q2, .int .i64 g2], .agg #[.int .i64 X, .int .i64 Y, .int .i64 Z]] w fun e w' => ∃ U V R, e = .returned (.agg #[.int .i64 U, .int .i64 V, .int .i64 R]) ∧ BestF a b most U V ∧ U.natAbs ≤ 1000000000000000000 ∧ Below w.heap.size w w') := fun w => by
        refine (nearer_any p2 q2 g2 X Y Z w eg2 eZ (by omega) (by omega) em1 em2).mono ?_
        rintro e w' ⟨rfl, k⟩
        have pk := pick (a := a) (b := b) (p := p2) (q := q2) (P := X) (Q := Y)
        have d1 : ds a b p2 q2 = (g2.natAbs : Int) := by rw [HNm.out.2.1.2.2]; rfl
        have d2 : ds a b X Y = (Z.natAbs : Int) := by rw [hZ]; rfl
        rw [d1, d2] at pk
        split
        · rename_i c
          exact ⟨p2, q2, g2, rfl, hbest.1 (pk.1 c), by omega, k⟩
        · rename_i c
          exact ⟨X, Y, Z, rfl, hbest.2 (pk.2 c), by omega, k⟩
      have HT0 : Hid (¬ q2 = 0) := by show ¬ _; omega
      have HT1 : Hid (IntKind.i64.wrap (most - q1) = most - q1) := iw_id (by omega) (by omega)
      have HT : Hid ((most - q1).tdiv q2 = t) := by show _ = _; rw [ht]; exact Int.tdiv_eq_ediv_of_nonneg (by omega)
      have htb : 0 ≤ t ∧ t ≤ 1000000000000000000 := by
        have h1 : 0 ≤ t := by rw [ht]; exact Int.ediv_nonneg (by omega) (by omega)
        have h2 : t ≤ most - q1 := by rw [ht]; exact Int.ediv_le_self _ (by omega)
        omega
      have HT2 : Hid (IntKind.i64.wrap t = t) := iw_id (by omega) (by omega)
      have hq2z : (q2 == 0) = false := beq_eq_false_iff_ne.2 (by omega)
      gi_wp2
      obtain ⟨W3, hW3⟩ : ∃ W3, W3 = w2.alloc (.cells #[.int .i64 P, .int .i64 Q, .int .i64 G] 97) := ⟨_, rfl⟩
      rw [← hW3]
      have k3 : Below W.heap.size W W3 := by rw [hW3]; exact HK2.out.alloc HK2.out.size _
      have HK3 : Hid (Below W.heap.size W W3) := k3
      have hS : S7 w.heap.size most p1 q1 g1 p2 q2 g2 W3 := S7.of (HST.out.1.m.below k3) (HSX.out.below k3) (HSY.out.below k3)
      clear hX hY hZ ht hbest hs2 eAp eX1 eX2 eY1 eY2 eg2 eZ em1 em2 hW3 k3 c0 hp2b
      refine wpIn_region_G (S7 w.heap.size most p1 q1 g1 p2 q2 g2) 12 (by kernel_rfl) hS (fun hHeld => ?_)
      refine wpAnyGIn_take (i := 0) (v := ?v0x1) rfl (by kernel_rfl) (fun _ _ _ h => h) (Or.inl ⟨by rfl, ?y0x1⟩) hHeld ?r0x1
      case y0x1 => (intro wS hSw; obtain ⟨s1, s2, s3, s4, s5, s6, s7⟩ := hSw; go_simp; try with_reducible rfl)
      try simp only [Act.put, List.setIfInBounds_toArray, List.set_cons_zero, List.set_cons_succ]
      refine wpAnyGIn_take (i := 1) (v := ?v1x2) rfl (by kernel_rfl) (fun _ _ _ h => h) (Or.inl ⟨by rfl, ?y1x2⟩) hHeld ?r1x2
      case y1x2 => (intro wS hSw; obtain ⟨s1, s2, s3, s4, s5, s6, s7⟩ := hSw; go_simp; try with_reducible rfl)
      try simp only [Act.put, List.setIfInBounds_toArray, List.set_cons_zero, List.set_cons_succ]
      refine wpAnyGIn_take (i := 2) (v := ?v2x3) rfl (by kernel_rfl) (fun _ _ _ h => h) (Or.inl ⟨by rfl, ?y2x3⟩) hHeld ?r2x3
      case y2x3 => (intro wS hSw; obtain ⟨s1, s2, s3, s4, s5, s6, s7⟩ := hSw; go_simp; try with_reducible rfl)
      try simp only [Act.put, List.setIfInBounds_toArray, List.set_cons_zero, List.set_cons_succ]
      refine wpAnyGIn_take (i := 3) (v := ?v3x4) rfl (by kernel_rfl) (fun _ _ _ h => h) (Or.inl ⟨by rfl, ?y3x4⟩) hHeld ?r3x4
      case y3x4 => (intro wS hSw; obtain ⟨s1, s2, s3, s4, s5, s6, s7⟩ := hSw; go_simp; try with_reducible rfl)
      try simp only [Act.put, List.setIfInBounds_toArray, List.set_cons_zero, List.set_cons_succ]
      refine wpAnyGIn_take (i := 4) (v := ?v4x5) rfl (by kernel_rfl) (fun _ _ _ h => h) (Or.inl ⟨by rfl, ?y4x5⟩) hHeld ?r4x5
      case y4x5 => (intro wS hSw; obtain ⟨s1, s2, s3, s4, s5, s6, s7⟩ := hSw; go_simp; try with_reducible rfl)
      try simp only [Act.put, List.setIfInBounds_toArray, List.set_cons_zero, List.set_cons_succ]
      refine wpAnyGIn_take (i := 5) (v := .int .i64 (most - q1)) rfl (by kernel_rfl) (fun _ _ _ h => h) (Or.inl ⟨by kernel_rfl, ?y5x6⟩) hHeld ?r5x6
      case y5x6 => (intro wS hSw; obtain ⟨s1, s2, s3, s4, s5, s6, s7⟩ := hSw; go_simp; exact HT1.out)
      try simp only [Act.put, List.setIfInBounds_toArray, List.set_cons_zero, List.set_cons_succ]
      refine wpAnyGIn_take (i := 6) (v := ?v6x7) rfl (by kernel_rfl) (fun _ _ _ h => h) (Or.inl ⟨by rfl, ?y6x7⟩) hHeld ?r6x7
      case y6x7 => (intro wS hSw; obtain ⟨s1, s2, s3, s4, s5, s6, s7⟩ := hSw; go_simp; try with_reducible rfl)
      try simp only [Act.put, List.setIfInBounds_toArray, List.set_cons_zero, List.set_cons_succ]
      refine wpAnyGIn_take (i := 7) (v := ?v7x8) rfl (by kernel_rfl) (fun _ _ _ h => h) (Or.inl ⟨by rfl, ?y7x8⟩) hHeld ?r7x8
      case y7x8 => (intro wS hSw; obtain ⟨s1, s2, s3, s4, s5, s6, s7⟩ := hSw; go_simp; try with_reducible rfl)
      try simp only [Act.put, List.setIfInBounds_toArray, List.set_cons_zero, List.set_cons_succ]
      refine wpAnyGIn_take (i := 8) (v := .int .i64 t) rfl (by kernel_rfl) (fun _ _ _ h => h) (Or.inl ⟨by kernel_rfl, ?y8x9⟩) hHeld ?r8x9
      case y8x9 => (intro wS hSw; obtain ⟨s1, s2, s3, s4, s5, s6, s7⟩ := hSw; go_simp; rw [if_neg HT0.out, HT.out, HT2.out])
      try simp only [Act.put, List.setIfInBounds_toArray, List.set_cons_zero, List.set_cons_succ]
      refine wpAnyGIn_take (i := 9) (v := ?v9x10) rfl (by kernel_rfl) (fun _ _ _ h => h) (Or.inl ⟨by rfl, ?y9x10⟩) hHeld ?r9x10
      case y9x10 => (intro wS hSw; obtain ⟨s1, s2, s3, s4, s5, s6, s7⟩ := hSw; go_simp; try with_reducible rfl)
      try simp only [Act.put, List.setIfInBounds_toArray, List.set_cons_zero, List.set_cons_succ]
      refine wpAnyGIn_one (i := 10) rfl (by kernel_rfl) (fun K hK => ?_)
      go_simp
      refine ⟨trivial, ?_⟩
      refine (callsIn_rnd (HP2.out _)).mono ?_
      rintro e ua ⟨rfl, kua⟩
      have HKa : Hid (Below W.heap.size W ua) := HK3.out.drew.trans (kua.mono HK3.out.size)
      have hS2 : S7 w.heap.size most p1 q1 g1 p2 q2 g2 ua := S7.of (HST.out.1.m.below HKa.out) (HSX.out.below HKa.out) (HSY.out.below HKa.out)
      clear kua
      refine hK.out _ _ hS2 ?_
      clear hK K
      try simp only [Act.put, List.setIfInBounds_toArray, List.set_cons_zero, List.set_cons_succ]
      clear hHeld hS
      have hHeld : S7 w.heap.size most p1 q1 g1 p2 q2 g2 ua := hS2
      refine wpAnyGIn_one (i := 11) rfl (by kernel_rfl) (fun K hK => ?_)
      go_simp
      refine ⟨trivial, ?_⟩
      refine (callsIn_rnd (HNe.out _)).mono ?_
      rintro e ub ⟨U, V, R, rfl, hBF, hU, kub⟩
      have HKb : Hid (Below W.heap.size W ub ∧ BestF a b most U V ∧ U.natAbs ≤ 1000000000000000000) := ⟨HKa.out.trans (kub.mono HKa.out.size), hBF, hU⟩
      have hS3 : S7 w.heap.size most p1 q1 g1 p2 q2 g2 ub := S7.of (HST.out.1.m.below HKb.out.1) (HSX.out.below HKb.out.1) (HSY.out.below HKb.out.1)
      clear kub hBF hU
      refine hK.out _ _ hS3 ?_
      clear hK K
      try simp only [Act.put, List.setIfInBounds_toArray, List.set_cons_zero, List.set_cons_succ]
      clear hHeld hS2 hS3
      have HV : Hid (Cl (w.heap.size + 1) [.int .i64 0, .int .i64 0, .int .i64 0] 97 ub) := HST.out.1.v.below HKb.out.1
      have v0 := HV.out.cell 0
      have v1 := HV.out.cell 1
      have v2 := HV.out.cell 2
      have v3 := HV.out.frozen 0
      have v4 := HV.out.frozen 1
      have v5 := HV.out.frozen 2
      simp only [List.getElem?_cons_zero, List.getElem?_cons_succ] at v0 v1 v2
      refine wpAnyGIn_last (i := 12) rfl (by kernel_rfl) (by kernel_rfl) (fun K hK => ?_)
      go_simp
      refine hK.out _ _ ?_
      clear hK K
      try simp only [Act.put, List.setIfInBounds_toArray, List.set_cons_zero, List.set_cons_succ]
      refine wpAnyGIn_done (by kernel_rfl) ?_ _
      gi_wp2
      refine ⟨?_, rfl, U, V, R, HKb.out.2.1, HKb.out.2.2, ?_, ?_⟩
      · exact ((((KP.refl _ W).below HKb.out.1).setCell (HNK.out _ (by simp)) _).setCell (HNK.out _ (by simp)) _).setCell (HNK.out _ (by simp)) _
      · exact ((HV.out.set 0 _).set 1 _).set 2 _
      · exact (((HST.out.1.bl.trans (HKb.out.1.mono (by have := HZW.out; omega))).setCell (by simp) _).setCell (by simp) _).setCell (by simp) _
    · obtain ⟨W3, hW3⟩ : ∃ W3, W3 = w2.alloc (.cells #[.int .i64 P, .int .i64 Q, .int .i64 G] 97) := ⟨_, rfl⟩
      have HW3 : Hid (W3 = w2.alloc (.cells #[.int .i64 P, .int .i64 Q, .int .i64 G] 97)) := hW3
      have k3 : Below W.heap.size W W3 := by rw [hW3]; exact HK2.out.alloc HK2.out.size _
      have n3 : Cl w2.heap.size [.int .i64 P, .int .i64 Q, .int .i64 G] 97 W3 := by rw [hW3]; exact Cl.new [.int .i64 P, .int .i64 Q, .int .i64 G] _ w2
      clear hW3
      gi_wp2
      rw [← HW3.out]
      clear c0
      have hne : w2.heap.size ≠ w.heap.size + 2 := by have := HK2.out.size; have := HZW.out; omega
      have y0 := (HSY.out.below k3).cell 0
      have y1 := (HSY.out.below k3).cell 1
      have y2 := (HSY.out.below k3).cell 2
      have x0 := (HSX.out.below k3).cell 0
      have x1 := (HSX.out.below k3).cell 1
      have x2 := (HSX.out.below k3).cell 2
      have n0 := n3.cell 0
      have n1 := n3.cell 1
      have n2 := n3.cell 2
      have f0 := (HSY.out.below k3).frozen 0
      have f1 := (HSY.out.below k3).frozen 1
      have f2 := (HSY.out.below k3).frozen 2
      have f3 := (HSX.out.below k3).frozen 0
      have f4 := (HSX.out.below k3).frozen 1
      have f5 := (HSX.out.below k3).frozen 2
      simp only [List.getElem?_cons_zero, List.getElem?_cons_succ] at y0 y1 y2 n0 n1 n2 x0 x1 x2
      have HK3 : Hid (Below W.heap.size W W3) := k3
      clear k3 n3
      have HNx : Hid (NSt w.heap.size a b most w (pre ++ [x]).length o' ((((((W3.setCell ⟨w.heap.size + 2, 0, none⟩ (.int .i64 p2)).setCell ⟨w.heap.size + 2, 1, none⟩ (.int .i64 q2)).setCell ⟨w.heap.size + 2, 2, none⟩ (.int .i64 g2)).setCell ⟨w.heap.size + 3, 0, none⟩ (.int .i64 P)).setCell ⟨w.heap.size + 3, 1, none⟩ (.int .i64 Q)).setCell ⟨w.heap.size + 3, 2, none⟩ (.int .i64 G)).drew ∧ KP (keptE w1.heap.size o') W ((((((W3.setCell ⟨w.heap.size + 2, 0, none⟩ (.int .i64 p2)).setCell ⟨w.heap.size + 2, 1, none⟩ (.int .i64 q2)).setCell ⟨w.heap.size + 2, 2, none⟩ (.int .i64 g2)).setCell ⟨w.heap.size + 3, 0, none⟩ (.int .i64 P)).setCell ⟨w.heap.size + 3, 1, none⟩ (.int .i64 Q)).setCell ⟨w.heap.size + 3, 2, none⟩ (.int .i64 G)).drew) := by
        have hlen : (pre ++ [x]).length = i + 1 := by rw [List.length_append, ← HST.out.2]; rfl
        rw [hlen]
        have h1 := (HST.out.1.next HK3.out (by have := HZW.out; omega) HNm.out.2.1.1 HNm.out.2.1.2.1 HNm.out.2.1.2.2 HNm.out.2.2.1.1 HNm.out.2.2.1.2.1 HNm.out.2.2.1.2.2 (by omega)).drew
        have h2 := ((((KP.refl (keptE w1.heap.size o') W).below HK3.out).put3 (c := w.heap.size + 2) (HNK.out _ (by omega)) (.int .i64 p2) (.int .i64 q2) (.int .i64 g2)).put3 (c := w.heap.size + 3) (HNK.out _ (by omega)) (.int .i64 P) (.int .i64 Q) (.int .i64 G)).drew
        unfold put3 at h1 h2
        exact ⟨h1, h2⟩
      gi_region
      all_goals
        gi_wp2
        exact ⟨HNx.out.2, HNx.out.1⟩
  case done =>
    rintro hf o' W hst hK
    have hst' : NSt w.heap.size a b most w (ek a b N).length o' W := hst
    rw [ek_len] at hst'
    have BF := near_end HE.out (M := 1000000000000000000) (by omega) (by omega) hb hst'.l2
    have hs2 := (sz_is HE.out (M := 1000000000000000000) (by omega) (by omega) hb N (Nat.le_refl _)).p2
    have SY := hst'.y
    obtain ⟨p2, hp2⟩ : ∃ v, v = (cv a b N).p2 := ⟨_, rfl⟩
    obtain ⟨q2, hq2⟩ : ∃ v, v = (cv a b N).q2 := ⟨_, rfl⟩
    obtain ⟨g2, hg2⟩ : ∃ v, v = gp a b p2 q2 := ⟨_, rfl⟩
    unfold apc at SY
    rw [← hp2, ← hq2, ← hg2] at SY
    rw [← hp2, ← hq2] at BF
    rw [← hp2] at hs2
    have HBF : Hid (BestF a b most p2 q2 ∧ p2.natAbs ≤ 1000000000000000000) := ⟨BF, by omega⟩
    have HV : Hid (Cl (w.heap.size + 1) [.int .i64 0, .int .i64 0, .int .i64 0] 97 W) := hst'.v
    have HB : Hid (Below w.heap.size w W) := hst'.bl
    have HK : Hid (W.heap[w.heap.size + 6]? = some (.deferred (some []))) := by rw [z1] at hK; exact hK
    have y0 := SY.cell 0
    have y1 := SY.cell 1
    have y2 := SY.cell 2
    have v0 := HV.out.cell 0
    have v1 := HV.out.cell 1
    have v2 := HV.out.cell 2
    have v3 := HV.out.frozen 0
    have v4 := HV.out.frozen 1
    have v5 := HV.out.frozen 2
    simp only [List.getElem?_cons_zero, List.getElem?_cons_succ] at y0 y1 y2 v0 v1 v2
    clear hst hst' hK BF hs2 SY hp2 hq2 hg2
    gi_wp2
    generalize hWF : ((W.setCell ⟨w.heap.size + 1, 0, none⟩ (.int .i64 p2)).setCell ⟨w.heap.size + 1, 1, none⟩ (.int .i64 q2)).setCell ⟨w.heap.size + 1, 2, none⟩ (.int .i64 g2) = WF
    have hv : Cl (w.heap.size + 1) [.int .i64 p2, .int .i64 q2, .int .i64 g2] 97 WF := by
      rw [← hWF]
      exact ((HV.out.set 0 _).set 1 _).set 2 _
    have hB : Below w.heap.size w WF := by rw [← hWF]; exact ((HB.out.setCell (by simp) _).setCell (by simp) _).setCell (by simp) _
    have hK1 : WF.heap[w.heap.size + 6]? = some (.deferred (some [])) := by
      rw [← hWF, Below.heap_setCell _ _ _ _ (by simp), Below.heap_setCell _ _ _ _ (by simp), Below.heap_setCell _ _ _ _ (by simp)]; exact HK.out
    clear hWF y0 y1 y2 v0 v1 v2 v3 v4 v5
    have r0 := (hv.put (.deferred none) (show w.heap.size + 1 ≠ w.heap.size + 6 by omega)).cell 0
    have r1 := (hv.put (.deferred none) (show w.heap.size + 1 ≠ w.heap.size + 6 by omega)).cell 1
    have r2 := (hv.put (.deferred none) (show w.heap.size + 1 ≠ w.heap.size + 6 by omega)).cell 2
    simp at r0 r1 r2
    refine ⟨by simp, .inl ⟨_, _, rfl, run_takeDeferred hK1, ?_⟩⟩
    exact ⟨.agg #[.int .i64 p2, .int .i64 q2, .int .i64 g2], by simp [results, Tryz.results58, go_sem, r0, r1, r2], p2, q2, ⟨g2, rfl⟩, HBF.out.1, HBF.out.2, hB.grown (grownBy_putObj' _ _ _) hB.size (fun k e => by cases e; omega)⟩
  case stop =>
    rintro c o' pre W ⟨rfl, P, Q, G, h1, h2, h3, h4⟩ hK
    gi_wp2
    have r0 := (h3.put (.deferred none) (show w.heap.size + 1 ≠ w1.heap.size by omega)).cell 0
    have r1 := (h3.put (.deferred none) (show w.heap.size + 1 ≠ w1.heap.size by omega)).cell 1
    have r2 := (h3.put (.deferred none) (show w.heap.size + 1 ≠ w1.heap.size by omega)).cell 2
    simp at r0 r1 r2
    refine ⟨by simp, .inl ⟨_, _, rfl, run_takeDeferred hK, ?_⟩⟩
    exact ⟨.agg #[.int .i64 P, .int .i64 Q, .int .i64 G], by simp [results, Tryz.results58, go_sem, r0, r1, r2], P, Q, G, rfl, h1, h2, h4.grown (grownBy_putObj' _ _ _) h4.size (fun k e => by cases e; omega)⟩

end Go.Proofs.YtfbgblidlabipaaGreatDoor
