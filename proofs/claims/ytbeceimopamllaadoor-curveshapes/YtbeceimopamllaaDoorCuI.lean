/- The program: curve.Add. -/
import Derived.Test.YtbeceimopamllaaDoorCuH
set_option linter.unusedSimpArgs false
set_option linter.unusedVariables false
set_option maxRecDepth 100000
namespace Go.Proofs.YtbeceimopamllaaDoor
open Go.RowKit EC

/-- What is told of a curve and of points. -/
def Of (p a b : Int) (l : List Pn) (c d : Int) : Prop := (c ≠ 0 ∧ Cf p a b c d) ∨ (∃ P : Nat, p = P ∧ Cv P a b ∧ rf P a b 0 l = (c, d))
theorem of_ex (p a b : Int) (l : List Pn) : ∃ c d, Of p a b l c d := by
  obtain ⟨c, d, h⟩ := cf_ex p a b
  rcases h.good with ⟨_, _, P, e, hc⟩ | ⟨hc, _⟩
  · exact ⟨(rf P a b 0 l).1, (rf P a b 0 l).2, .inr ⟨P, e, hc, rfl⟩⟩
  · exact ⟨c, d, .inl ⟨hc, h⟩⟩
theorem Of.uniq {p a b c d c' d' : Int} {l : List Pn} (h : Of p a b l c d) (k : Of p a b l c' d') : c = c' ∧ d = d' := by
  rcases h with ⟨h1, h2⟩ | ⟨P, e, hc, h⟩
  · rcases k with ⟨_, k2⟩ | ⟨P, e, kc, k⟩
    · exact h2.uniq k2
    · subst e
      have := (h2.uniq (cf_of kc)).1
      exact absurd this h1
  · rcases k with ⟨k1, k2⟩ | ⟨Q, e', kc, k⟩
    · subst e
      have := (k2.uniq (cf_of hc)).1
      exact absurd this k1
    · obtain rfl : P = Q := by omega
      rw [h] at k
      simpa using k
theorem rf_bd (P : Nat) (a b : Int) : ∀ (l : List Pn) (i : Nat), (rf P a b i l).1 = 0 ∧ (rf P a b i l).2 = 0 ∨ (rf P a b i l).1 = 10
  | [], i => .inl ⟨rfl, rfl⟩
  | q :: r, i => by
    rw [rf]
    split
    · exact rf_bd P a b r (i + 1)
    · exact .inr rfl
theorem rf_all (P : Nat) (a b : Int) : ∀ (l : List Pn) (i : Nat), (rf P a b i l).1 = 0 → ∀ q ∈ l, On P a b q
  | [], i, _, q, hq => by simp at hq
  | r :: l, i, h, q, hq => by
    rw [rf] at h
    split at h
    · rename_i hb
      rcases List.mem_cons.1 hq with e | e
      · subst e; exact hasB_on.1 hb
      · exact rf_all P a b l (i + 1) h q e
    · simp at h
theorem Of.good {p a b c d : Int} {l : List Pn} (h : Of p a b l c d) (hc : c = 0) : d = 0 ∧ ∃ P : Nat, p = P ∧ Cv P a b ∧ ∀ q ∈ l, On P a b q := by
  rcases h with ⟨h1, h2⟩ | ⟨P, e, hv, h⟩
  · exact absurd hc h1
  · subst hc
    refine ⟨?_, P, e, hv, rf_all P a b l 0 (by rw [h])⟩
    rcases rf_bd P a b l 0 with k | k
    · rw [h] at k; exact k.2
    · rw [h] at k; simp at k

def gy (p a b c : Int) : Value := if c = 0 then .agg #[.int .i64 p, .int .i64 a, .int .i64 b] else .agg #[.int .i64 0, .int .i64 0, .int .i64 0]
theorem read_any (p a b c d : Int) (s : Value) (l : List Pn) (w : World) (h : Of p a b l c d) (hs : PS w s l) (hl : l.length ≤ 1000000) (hT : Tb w) :
    Calls Tryd.prog 25 #[.int .i64 p, .int .i64 a, .int .i64 b, s] w fun e w' => e = .returned (.tuple #[gy p a b c, .agg #[.int .i64 c, .int .i64 d]]) ∧ Below w.heap.size w w' := by
  rcases h with ⟨h1, h2⟩ | ⟨P, rfl, hv, h⟩
  · have := read_bad p a b c d s w h2 h1 (by obtain ⟨aa, g, cap, e, _⟩ := hs; exact ⟨aa, _, cap, e⟩) hT
    rw [gy, if_neg h1]
    exact this
  · have := read_ok P a b c d s l w hv hs hl h hT
    unfold Gz0 Gv at this
    exact this

theorem PS.two {w : World} {g : Nat} {q r : Pn} (h : Cl g (Pl q ++ Pl r) 30 w) : PS w (.slice (some ⟨g, 0, none⟩) 2 2) [q, r] := by
  refine ⟨_, g, 2, rfl, fun _ => ⟨rfl, h.lt⟩, fun i hi => ?_⟩
  match i, hi with
  | 0, _ => exact ⟨h.cell 0, h.cell 1, h.cell 2⟩
  | 1, _ => exact ⟨h.cell 3, h.cell 4, h.cell 5⟩
theorem PS.one {w : World} {g : Nat} {q : Pn} (h : Cl g (Pl q) 30 w) : PS w (.slice (some ⟨g, 0, none⟩) 1 1) [q] := by
  refine ⟨_, g, 1, rfl, fun _ => ⟨rfl, h.lt⟩, fun i hi => ?_⟩
  match i, hi with
  | 0, _ => exact ⟨h.cell 0, h.cell 1, h.cell 2⟩

def zP : Pn := ⟨0, 0, false⟩

/-- What Add holds in memory behind read. -/
structure Am (z gb : Nat) (q r : Pn) (x y t c d : Int) (w W : World) : Prop where
  q : Cl z (Pl q) 30 W
  r : Cl (z + 1) (Pl r) 30 W
  o : Cl (z + 2) [.int .i64 0, .int .i64 0, .bool false] 30 W
  f : Cl (z + 3) [.int .i64 0, .int .i64 0] 23 W
  g : Cl gb [.int .i64 x, .int .i64 y, .int .i64 t] 52 W
  e : Cl (gb + 1) [.int .i64 c, .int .i64 d] 23 W
  ne : z + 3 < gb
  k : Below z w W
theorem Am.below {z gb : Nat} {q r : Pn} {x y t c d : Int} {w W W' : World} (m : Am z gb q r x y t c d w W) (n : Below W.heap.size W W') : Am z gb q r x y t c d w W' :=
  ⟨m.q.below n, m.r.below n, m.o.below n, m.f.below n, m.g.below n, m.e.below n, m.ne, m.k.trans (n.mono (by have := m.f.lt; omega))⟩
theorem al5 (w : World) (o1 o2 o3 o4 o5 : Obj) : Below w.heap.size w (((((w.alloc o1).alloc o2).alloc o3).alloc o4).alloc o5) := (al4 _ _ _ _ _).trans ((ala _ _).mono (by simp; omega))

set_option maxHeartbeats 2000000 in
theorem Add_bad (p a b c d : Int) (q r : Pn) (w : World) (h : Of p a b [q, r] c d) (hc : c ≠ 0) (hT : Tb w) :
    Calls Tryd.prog 14 #[.int .i64 p, .int .i64 a, .int .i64 b, Pv q, Pv r] w fun e w' => e = .returned (.tuple #[Pv zP, .agg #[.int .i64 c, .int .i64 d]]) ∧ Below w.heap.size w w' := by
  have HRd : Hid (∀ w s, PS w s [q, r] → Tb w → Calls Tryd.prog 25 #[.int .i64 p, .int .i64 a, .int .i64 b, s] w fun e w' => e = .returned (.tuple #[.agg #[.int .i64 0, .int .i64 0, .int .i64 0], .agg #[.int .i64 c, .int .i64 d]]) ∧ Below w.heap.size w w') := fun w s hs hT => by
    have := read_any p a b c d s [q, r] w h hs (by simp) hT
    rw [gy, if_neg hc] at this
    exact this
  have HT : Hid (Tb w) := hT
  have hcb : (c != 0) = true := by simp [bne]; exact hc
  clear h hT hc
  unfold zP
  unfold Pv
  go_enter Tryd.func14, Tryd.ntmps14
  go_wp2_with fail
  obtain ⟨W0, hW0⟩ : ∃ W0, W0 = ((((w.alloc (.cells #[.int .i64 q.x, .int .i64 q.y, .bool q.far] 30)).alloc (.cells #[.int .i64 r.x, .int .i64 r.y, .bool r.far] 30)).alloc (.cells #[.int .i64 0, .int .i64 0, .bool false] 30)).alloc (.cells #[.int .i64 0, .int .i64 0] 23)).alloc (.cells #[.int .i64 q.x, .int .i64 q.y, .bool q.far, .int .i64 r.x, .int .i64 r.y, .bool r.far] 30) := ⟨_, rfl⟩
  have Cq : Cl w.heap.size (Pl q) 30 W0 := by rw [hW0]; exact ((((Cl.new (Pl q) _ w).alloc _).alloc _).alloc _).alloc _
  have Cr : Cl (w.heap.size + 1) (Pl r) 30 W0 := by rw [hW0]; exact (((cnew _ (Pl r) _ _ (by simp)).alloc _).alloc _).alloc _
  have Co : Cl (w.heap.size + 2) [.int .i64 0, .int .i64 0, .bool false] 30 W0 := by rw [hW0]; exact ((cnew _ [.int .i64 0, .int .i64 0, .bool false] _ _ (by simp)).alloc _).alloc _
  have Ce : Cl (w.heap.size + 3) [.int .i64 0, .int .i64 0] 23 W0 := by rw [hW0]; exact (cnew _ [.int .i64 0, .int .i64 0] _ _ (by simp)).alloc _
  have CS : Cl (w.heap.size + 4) (Pl q ++ Pl r) 30 W0 := by rw [hW0]; exact cnew _ (Pl q ++ Pl r) _ _ (by simp)
  have K0 : Below w.heap.size w W0 := by rw [hW0]; exact al5 _ _ _ _ _ _
  have T0 : Tb W0 := HT.out.below K0
  rw [← hW0]
  clear hW0
  have HRd2 := HRd.out W0 _ (PS.two CS) T0
  refine HRd2.mono ?_
  rintro e w1 ⟨rfl, k1⟩
  have K1 : Below w.heap.size w w1 := K0.trans (k1.mono K0.size)
  have HM : Hid (Am w.heap.size w1.heap.size q r 0 0 0 c d w ((w1.alloc (.cells #[.int .i64 0, .int .i64 0, .int .i64 0] 52)).alloc (.cells #[.int .i64 c, .int .i64 d] 23))) :=
    ⟨((Cq.below k1).alloc _).alloc _, ((Cr.below k1).alloc _).alloc _, ((Co.below k1).alloc _).alloc _, ((Ce.below k1).alloc _).alloc _, (Cl.new [.int .i64 0, .int .i64 0, .int .i64 0] _ w1).alloc _, cnew _ [.int .i64 c, .int .i64 d] _ _ (by simp), (Ce.below k1).lt, (K1.alloc K1.size _).alloc (by have := K1.size; simp; omega) _⟩
  clear Cq Cr Co Ce CS K0 T0 HRd2 K1 k1 HRd
  go_wp2
  generalize hW : World.alloc _ _ = W at HM ⊢
  have n1 : ¬ w.heap.size + 2 = w1.heap.size + 1 := by have := HM.out.ne; omega
  have n2 : ¬ w1.heap.size + 1 = w.heap.size + 2 := by have := HM.out.ne; omega
  have n3 : ¬ w.heap.size + 3 = w1.heap.size + 1 := by have := HM.out.ne; omega
  have n4 : ¬ w1.heap.size + 1 = w.heap.size + 3 := by have := HM.out.ne; omega
  have n5 : ¬ w.heap.size + 2 = w1.heap.size := by have := HM.out.ne; omega
  have n6 : ¬ w1.heap.size = w.heap.size + 2 := by have := HM.out.ne; omega
  clear hW
  have o0 : W.cell? ⟨w.heap.size + 2, 0, none⟩ = some (.int .i64 0) := HM.out.o.cell 0
  have o1 : W.cell? ⟨w.heap.size + 2, 1, none⟩ = some (.int .i64 0) := HM.out.o.cell 1
  have o2 : W.cell? ⟨w.heap.size + 2, 2, none⟩ = some (.bool false) := HM.out.o.cell 2
  have o3 := HM.out.o.frozen 0
  have o4 := HM.out.o.frozen 1
  have o5 := HM.out.o.frozen 2
  have f0 : W.cell? ⟨w.heap.size + 3, 0, none⟩ = some (.int .i64 0) := HM.out.f.cell 0
  have f1 : W.cell? ⟨w.heap.size + 3, 1, none⟩ = some (.int .i64 0) := HM.out.f.cell 1
  have f3 := HM.out.f.frozen 0
  have f4 := HM.out.f.frozen 1
  have c0 : W.cell? ⟨w1.heap.size + 1, 0, none⟩ = some (.int .i64 c) := HM.out.e.cell 0
  have c1 : W.cell? ⟨w1.heap.size + 1, 1, none⟩ = some (.int .i64 d) := HM.out.e.cell 1
  go_region
  all_goals
    go_wp2
    refine bodyPost_ret (v := .tuple #[.agg #[.int .i64 0, .int .i64 0, .bool false], .agg #[.int .i64 c, .int .i64 d]]) (by simp [results, Tryd.results14, go_sem, o0, o1, o2, f0, f1]) rfl ⟨rfl, ?_⟩
    first
    | exact (Below.setCell (Below.setCell (Below.setCell (Below.setCell (Below.setCell HM.out.k.drew (by simp; omega) _) (by simp; omega) _) (by simp; omega) _) (by simp; omega) _) (by simp; omega) _)
    | exact (Below.setCell (Below.setCell (Below.setCell (Below.setCell (Below.setCell HM.out.k (by simp; omega) _) (by simp; omega) _) (by simp; omega) _) (by simp; omega) _) (by simp; omega) _).drew

set_option maxHeartbeats 2000000 in
theorem Add_ok (P : Nat) (a b : Int) (q r : Pn) (w : World) (h : Of P a b [q, r] 0 0) (hv : Cv P a b) (hq : On P a b q) (hr : On P a b r) (hT : Tb w) :
    Calls Tryd.prog 14 #[.int .i64 P, .int .i64 a, .int .i64 b, Pv q, Pv r] w fun e w' => e = .returned (.tuple #[Pv (padd P a q r), .agg #[.int .i64 0, .int .i64 0]]) ∧ Below w.heap.size w w' := by
  have HRd : Hid (∀ w s, PS w s [q, r] → Tb w → Calls Tryd.prog 25 #[.int .i64 P, .int .i64 a, .int .i64 b, s] w fun e w' => e = .returned (.tuple #[.agg #[.int .i64 P, .int .i64 a, .int .i64 b], .agg #[.int .i64 0, .int .i64 0]]) ∧ Below w.heap.size w w') := fun w s hs hT => by
    have := read_any P a b 0 0 s [q, r] w h hs (by simp) hT
    rw [gy, if_pos rfl] at this
    exact this
  have HAd : Hid (∀ w, Calls Tryd.prog 29 #[Gv P a b, Pv q, Pv r] w fun e w' => e = .returned (Pv (padd P a q r)) ∧ Below w.heap.size w w') := fun w => cadd_any P a b q r w hv hq hr
  have HT : Hid (Tb w) := hT
  obtain ⟨s, hs⟩ : ∃ s, padd P a q r = s := ⟨_, rfl⟩
  rw [hs] at HAd ⊢
  clear h hT hs hv hq hr
  unfold Gv Pv at HAd
  unfold Pv
  go_enter Tryd.func14, Tryd.ntmps14
  go_wp2_with fail
  obtain ⟨W0, hW0⟩ : ∃ W0, W0 = ((((w.alloc (.cells #[.int .i64 q.x, .int .i64 q.y, .bool q.far] 30)).alloc (.cells #[.int .i64 r.x, .int .i64 r.y, .bool r.far] 30)).alloc (.cells #[.int .i64 0, .int .i64 0, .bool false] 30)).alloc (.cells #[.int .i64 0, .int .i64 0] 23)).alloc (.cells #[.int .i64 q.x, .int .i64 q.y, .bool q.far, .int .i64 r.x, .int .i64 r.y, .bool r.far] 30) := ⟨_, rfl⟩
  have Cq : Cl w.heap.size (Pl q) 30 W0 := by rw [hW0]; exact ((((Cl.new (Pl q) _ w).alloc _).alloc _).alloc _).alloc _
  have Cr : Cl (w.heap.size + 1) (Pl r) 30 W0 := by rw [hW0]; exact (((cnew _ (Pl r) _ _ (by simp)).alloc _).alloc _).alloc _
  have Co : Cl (w.heap.size + 2) [.int .i64 0, .int .i64 0, .bool false] 30 W0 := by rw [hW0]; exact ((cnew _ [.int .i64 0, .int .i64 0, .bool false] _ _ (by simp)).alloc _).alloc _
  have Ce : Cl (w.heap.size + 3) [.int .i64 0, .int .i64 0] 23 W0 := by rw [hW0]; exact (cnew _ [.int .i64 0, .int .i64 0] _ _ (by simp)).alloc _
  have CS : Cl (w.heap.size + 4) (Pl q ++ Pl r) 30 W0 := by rw [hW0]; exact cnew _ (Pl q ++ Pl r) _ _ (by simp)
  have K0 : Below w.heap.size w W0 := by rw [hW0]; exact al5 _ _ _ _ _ _
  have T0 : Tb W0 := HT.out.below K0
  rw [← hW0]
  clear hW0
  have HRd2 := HRd.out W0 _ (PS.two CS) T0
  refine HRd2.mono ?_
  rintro e w1 ⟨rfl, k1⟩
  have K1 : Below w.heap.size w w1 := K0.trans (k1.mono K0.size)
  have HM : Hid (Am w.heap.size w1.heap.size q r P a b 0 0 w ((w1.alloc (.cells #[.int .i64 P, .int .i64 a, .int .i64 b] 52)).alloc (.cells #[.int .i64 0, .int .i64 0] 23))) :=
    ⟨((Cq.below k1).alloc _).alloc _, ((Cr.below k1).alloc _).alloc _, ((Co.below k1).alloc _).alloc _, ((Ce.below k1).alloc _).alloc _, (Cl.new [.int .i64 P, .int .i64 a, .int .i64 b] _ w1).alloc _, cnew _ [.int .i64 0, .int .i64 0] _ _ (by simp), (Ce.below k1).lt, (K1.alloc K1.size _).alloc (by have := K1.size; simp; omega) _⟩
  clear Cq Cr Co Ce CS K0 T0 HRd2 K1 k1 HRd
  have W0g0 := HM.out.g.cell 0
  have W0g1 := HM.out.g.cell 1
  have W0g2 := HM.out.g.cell 2
  have W0q0 := HM.out.q.cell 0
  have W0q1 := HM.out.q.cell 1
  have W0q2 := HM.out.q.cell 2
  have W0r0 := HM.out.r.cell 0
  have W0r1 := HM.out.r.cell 1
  have W0r2 := HM.out.r.cell 2
  unfold Pl at W0q0 W0q1 W0q2 W0r0 W0r1 W0r2
  simp only [List.getElem?_cons_zero, List.getElem?_cons_succ] at W0g0 W0g1 W0g2 W0q0 W0q1 W0q2 W0r0 W0r1 W0r2
  go_wp2_with fail
  refine (HAd.out _).mono ?_
  rintro e W ⟨rfl, k2⟩
  have M2 := HM.out.below k2
  clear HM W0g0 W0g1 W0g2 W0q0 W0q1 W0q2 W0r0 W0r1 W0r2 k2
  have HM : Hid (Am w.heap.size w1.heap.size q r P a b 0 0 w W) := M2
  clear M2
  have o0 : W.cell? ⟨w.heap.size + 2, 0, none⟩ = some (.int .i64 0) := HM.out.o.cell 0
  have o1 : W.cell? ⟨w.heap.size + 2, 1, none⟩ = some (.int .i64 0) := HM.out.o.cell 1
  have o2 : W.cell? ⟨w.heap.size + 2, 2, none⟩ = some (.bool false) := HM.out.o.cell 2
  have o3 := HM.out.o.frozen 0
  have o4 := HM.out.o.frozen 1
  have o5 := HM.out.o.frozen 2
  have f0 : W.cell? ⟨w.heap.size + 3, 0, none⟩ = some (.int .i64 0) := HM.out.f.cell 0
  have f1 : W.cell? ⟨w.heap.size + 3, 1, none⟩ = some (.int .i64 0) := HM.out.f.cell 1
  have f3 := HM.out.f.frozen 0
  have f4 := HM.out.f.frozen 1
  go_wp2
  refine bodyPost_ret (v := .tuple #[.agg #[.int .i64 s.x, .int .i64 s.y, .bool s.far], .agg #[.int .i64 0, .int .i64 0]]) (by simp [results, Tryd.results14, go_sem, o0, o1, o2, f0, f1]) rfl ⟨rfl, ?_⟩
  exact (Below.setCell (Below.setCell (Below.setCell (Below.setCell (Below.setCell HM.out.k (by simp; omega) _) (by simp; omega) _) (by simp; omega) _) (by simp; omega) _) (by simp; omega) _)

end Go.Proofs.YtbeceimopamllaaDoor
