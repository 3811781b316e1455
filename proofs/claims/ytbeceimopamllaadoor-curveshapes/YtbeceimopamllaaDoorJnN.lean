import Derived.Test.YtbeceimopamllaaDoorCuI
section
/- The program: curve.Times and curve.Order. -/
set_option linter.unusedSimpArgs false
set_option linter.unusedVariables false
set_option maxRecDepth 100000
namespace Go.Proofs.YtbeceimopamllaaDoor
open Go.RowKit EC

/-- What Times holds in memory behind read. -/
structure Bm (z gb : Nat) (q : Pn) (x y t c d : Int) (w W : World) : Prop where
  q : Cl z (Pl q) 30 W
  o : Cl (z + 1) [.int .i64 0, .int .i64 0, .bool false] 30 W
  f : Cl (z + 2) [.int .i64 0, .int .i64 0] 23 W
  g : Cl gb [.int .i64 x, .int .i64 y, .int .i64 t] 52 W
  e : Cl (gb + 1) [.int .i64 c, .int .i64 d] 23 W
  ne : z + 2 < gb
  k : Below z w W
theorem Bm.below {z gb : Nat} {q : Pn} {x y t c d : Int} {w W W' : World} (m : Bm z gb q x y t c d w W) (n : Below W.heap.size W W') : Bm z gb q x y t c d w W' :=
  ⟨m.q.below n, m.o.below n, m.f.below n, m.g.below n, m.e.below n, m.ne, m.k.trans (n.mono (by have := m.f.lt; omega))⟩

set_option maxHeartbeats 2000000 in
theorem Times_bad (p a b c d n : Int) (q : Pn) (w : World) (h : Of p a b [q] c d) (hc : c ≠ 0) (hT : Tb w) :
    Calls Tryd.prog 17 #[.int .i64 p, .int .i64 a, .int .i64 b, .int .i64 n, Pv q] w fun e w' => e = .returned (.tuple #[Pv zP, .agg #[.int .i64 c, .int .i64 d]]) ∧ Below w.heap.size w w' := by
  have HRd : Hid (∀ w s, PS w s [q] → Tb w → Calls Tryd.prog 25 #[.int .i64 p, .int .i64 a, .int .i64 b, s] w fun e w' => e = .returned (.tuple #[.agg #[.int .i64 0, .int .i64 0, .int .i64 0], .agg #[.int .i64 c, .int .i64 d]]) ∧ Below w.heap.size w w') := fun w s hs hT => by
    have := read_any p a b c d s [q] w h hs (by simp) hT
    rw [gy, if_neg hc] at this
    exact this
  have HT : Hid (Tb w) := hT
  have hcb : (c != 0) = true := by simp [bne]; exact hc
  clear h hT hc
  unfold zP
  unfold Pv
  go_enter Tryd.func17, Tryd.ntmps17
  go_wp2_with fail
  obtain ⟨W0, hW0⟩ : ∃ W0, W0 = (((w.alloc (.cells #[.int .i64 q.x, .int .i64 q.y, .bool q.far] 30)).alloc (.cells #[.int .i64 0, .int .i64 0, .bool false] 30)).alloc (.cells #[.int .i64 0, .int .i64 0] 23)).alloc (.cells #[.int .i64 q.x, .int .i64 q.y, .bool q.far] 30) := ⟨_, rfl⟩
  have Cq : Cl w.heap.size (Pl q) 30 W0 := by rw [hW0]; exact (((Cl.new (Pl q) _ w).alloc _).alloc _).alloc _
  have Co : Cl (w.heap.size + 1) [.int .i64 0, .int .i64 0, .bool false] 30 W0 := by rw [hW0]; exact ((cnew _ [.int .i64 0, .int .i64 0, .bool false] _ _ (by simp)).alloc _).alloc _
  have Ce : Cl (w.heap.size + 2) [.int .i64 0, .int .i64 0] 23 W0 := by rw [hW0]; exact (cnew _ [.int .i64 0, .int .i64 0] _ _ (by simp)).alloc _
  have CS : Cl (w.heap.size + 3) (Pl q) 30 W0 := by rw [hW0]; exact cnew _ (Pl q) _ _ (by simp)
  have K0 : Below w.heap.size w W0 := by rw [hW0]; exact al4 _ _ _ _ _
  have T0 : Tb W0 := HT.out.below K0
  rw [← hW0]
  clear hW0
  have HRd2 := HRd.out W0 _ (PS.one CS) T0
  refine HRd2.mono ?_
  rintro e w1 ⟨rfl, k1⟩
  have K1 : Below w.heap.size w w1 := K0.trans (k1.mono K0.size)
  have HM : Hid (Bm w.heap.size w1.heap.size q 0 0 0 c d w ((w1.alloc (.cells #[.int .i64 0, .int .i64 0, .int .i64 0] 52)).alloc (.cells #[.int .i64 c, .int .i64 d] 23))) :=
    ⟨((Cq.below k1).alloc _).alloc _, ((Co.below k1).alloc _).alloc _, ((Ce.below k1).alloc _).alloc _, (Cl.new [.int .i64 0, .int .i64 0, .int .i64 0] _ w1).alloc _, cnew _ [.int .i64 c, .int .i64 d] _ _ (by simp), (Ce.below k1).lt, (K1.alloc K1.size _).alloc (by have := K1.size; simp; omega) _⟩
  clear Cq Co Ce CS K0 T0 HRd2 K1 k1 HRd
  go_wp2
  generalize hW : World.alloc _ _ = W at HM ⊢
  have n1 : ¬ w.heap.size + 1 = w1.heap.size + 1 := by have := HM.out.ne; omega
  have n2 : ¬ w1.heap.size + 1 = w.heap.size + 1 := by have := HM.out.ne; omega
  have n3 : ¬ w.heap.size + 2 = w1.heap.size + 1 := by have := HM.out.ne; omega
  have n4 : ¬ w1.heap.size + 1 = w.heap.size + 2 := by have := HM.out.ne; omega
  have n5 : ¬ w.heap.size = w1.heap.size := by have := HM.out.ne; omega
  have n6 : ¬ w1.heap.size = w.heap.size := by have := HM.out.ne; omega
  have n7 : ¬ w.heap.size + 1 = w1.heap.size := by have := HM.out.ne; omega
  have n8 : ¬ w1.heap.size = w.heap.size + 1 := by have := HM.out.ne; omega
  clear hW
  have o0 : W.cell? ⟨w.heap.size + 1, 0, none⟩ = some (.int .i64 0) := HM.out.o.cell 0
  have o1 : W.cell? ⟨w.heap.size + 1, 1, none⟩ = some (.int .i64 0) := HM.out.o.cell 1
  have o2 : W.cell? ⟨w.heap.size + 1, 2, none⟩ = some (.bool false) := HM.out.o.cell 2
  have o3 := HM.out.o.frozen 0
  have o4 := HM.out.o.frozen 1
  have o5 := HM.out.o.frozen 2
  have f0 : W.cell? ⟨w.heap.size + 2, 0, none⟩ = some (.int .i64 0) := HM.out.f.cell 0
  have f1 : W.cell? ⟨w.heap.size + 2, 1, none⟩ = some (.int .i64 0) := HM.out.f.cell 1
  have f3 := HM.out.f.frozen 0
  have f4 := HM.out.f.frozen 1
  have c0 : W.cell? ⟨w1.heap.size + 1, 0, none⟩ = some (.int .i64 c) := HM.out.e.cell 0
  have c1 : W.cell? ⟨w1.heap.size + 1, 1, none⟩ = some (.int .i64 d) := HM.out.e.cell 1
  go_region
  all_goals
    go_wp2
    refine bodyPost_ret (v := .tuple #[.agg #[.int .i64 0, .int .i64 0, .bool false], .agg #[.int .i64 c, .int .i64 d]]) (by simp [results, Tryd.results17, go_sem, o0, o1, o2, f0, f1]) rfl ⟨rfl, ?_⟩
    first
    | exact (Below.setCell (Below.setCell (Below.setCell (Below.setCell (Below.setCell HM.out.k.drew (by simp <;> omega) _) (by simp <;> omega) _) (by simp <;> omega) _) (by simp <;> omega) _) (by simp <;> omega) _)
    | exact (Below.setCell (Below.setCell (Below.setCell (Below.setCell (Below.setCell HM.out.k (by simp <;> omega) _) (by simp <;> omega) _) (by simp <;> omega) _) (by simp <;> omega) _) (by simp <;> omega) _).drew

set_option maxHeartbeats 2000000 in
theorem Times_far (P : Nat) (a b n : Int) (q : Pn) (w : World) (h : Of P a b [q] 0 0) (hn : numB n = false) (hT : Tb w) :
    Calls Tryd.prog 17 #[.int .i64 P, .int .i64 a, .int .i64 b, .int .i64 n, Pv q] w fun e w' => e = .returned (.tuple #[Pv zP, .agg #[.int .i64 3, .int .i64 4]]) ∧ Below w.heap.size w w' := by
  have HRd : Hid (∀ w s, PS w s [q] → Tb w → Calls Tryd.prog 25 #[.int .i64 P, .int .i64 a, .int .i64 b, s] w fun e w' => e = .returned (.tuple #[.agg #[.int .i64 P, .int .i64 a, .int .i64 b], .agg #[.int .i64 0, .int .i64 0]]) ∧ Below w.heap.size w w') := fun w s hs hT => by
    have := read_any P a b 0 0 s [q] w h hs (by simp) hT
    rw [gy, if_pos rfl] at this
    exact this
  have HT : Hid (Tb w) := hT
  clear h hT
  unfold zP
  unfold Pv
  go_enter Tryd.func17, Tryd.ntmps17
  go_wp2_with fail
  obtain ⟨W0, hW0⟩ : ∃ W0, W0 = (((w.alloc (.cells #[.int .i64 q.x, .int .i64 q.y, .bool q.far] 30)).alloc (.cells #[.int .i64 0, .int .i64 0, .bool false] 30)).alloc (.cells #[.int .i64 0, .int .i64 0] 23)).alloc (.cells #[.int .i64 q.x, .int .i64 q.y, .bool q.far] 30) := ⟨_, rfl⟩
  have Cq : Cl w.heap.size (Pl q) 30 W0 := by rw [hW0]; exact (((Cl.new (Pl q) _ w).alloc _).alloc _).alloc _
  have Co : Cl (w.heap.size + 1) [.int .i64 0, .int .i64 0, .bool false] 30 W0 := by rw [hW0]; exact ((cnew _ [.int .i64 0, .int .i64 0, .bool false] _ _ (by simp)).alloc _).alloc _
  have Ce : Cl (w.heap.size + 2) [.int .i64 0, .int .i64 0] 23 W0 := by rw [hW0]; exact (cnew _ [.int .i64 0, .int .i64 0] _ _ (by simp)).alloc _
  have CS : Cl (w.heap.size + 3) (Pl q) 30 W0 := by rw [hW0]; exact cnew _ (Pl q) _ _ (by simp)
  have K0 : Below w.heap.size w W0 := by rw [hW0]; exact al4 _ _ _ _ _
  have T0 : Tb W0 := HT.out.below K0
  rw [← hW0]
  clear hW0
  have HRd2 := HRd.out W0 _ (PS.one CS) T0
  refine HRd2.mono ?_
  rintro e w1 ⟨rfl, k1⟩
  have K1 : Below w.heap.size w w1 := K0.trans (k1.mono K0.size)
  have HM : Hid (Bm w.heap.size w1.heap.size q P a b 0 0 w ((w1.alloc (.cells #[.int .i64 P, .int .i64 a, .int .i64 b] 52)).alloc (.cells #[.int .i64 0, .int .i64 0] 23))) :=
    ⟨((Cq.below k1).alloc _).alloc _, ((Co.below k1).alloc _).alloc _, ((Ce.below k1).alloc _).alloc _, (Cl.new [.int .i64 P, .int .i64 a, .int .i64 b] _ w1).alloc _, cnew _ [.int .i64 0, .int .i64 0] _ _ (by simp), (Ce.below k1).lt, (K1.alloc K1.size _).alloc (by have := K1.size; simp; omega) _⟩
  clear Cq Co Ce CS K0 T0 HRd2 K1 k1 HRd
  go_wp2_with fail
  generalize hW : World.alloc _ _ = W at HM ⊢
  clear hW
  refine (isNumber_any _ _).mono ?_
  rintro e w2 ⟨rfl, hw2⟩
  rw [hw2, hn]
  clear hw2 w2
  have o0 : W.cell? ⟨w.heap.size + 1, 0, none⟩ = some (.int .i64 0) := HM.out.o.cell 0
  have o1 : W.cell? ⟨w.heap.size + 1, 1, none⟩ = some (.int .i64 0) := HM.out.o.cell 1
  have o2 : W.cell? ⟨w.heap.size + 1, 2, none⟩ = some (.bool false) := HM.out.o.cell 2
  have o3 := HM.out.o.frozen 0
  have o4 := HM.out.o.frozen 1
  have o5 := HM.out.o.frozen 2
  have f0 : W.cell? ⟨w.heap.size + 2, 0, none⟩ = some (.int .i64 0) := HM.out.f.cell 0
  have f1 : W.cell? ⟨w.heap.size + 2, 1, none⟩ = some (.int .i64 0) := HM.out.f.cell 1
  have f3 := HM.out.f.frozen 0
  have f4 := HM.out.f.frozen 1
  go_wp2
  refine bodyPost_ret (v := .tuple #[.agg #[.int .i64 0, .int .i64 0, .bool false], .agg #[.int .i64 3, .int .i64 4]]) (by simp [results, Tryd.results17, go_sem, o0, o1, o2, f0, f1]) rfl ⟨rfl, ?_⟩
  exact (Below.setCell (Below.setCell (Below.setCell (Below.setCell (Below.setCell HM.out.k (by simp <;> omega) _) (by simp <;> omega) _) (by simp <;> omega) _) (by simp <;> omega) _) (by simp <;> omega) _)

set_option maxHeartbeats 2000000 in
theorem Times_ok (P : Nat) (a b n : Int) (q : Pn) (w : World) (h : Of P a b [q] 0 0) (hv : Cv P a b) (hq : On P a b q) (hn : numB n = true) (hT : Tb w) :
    Calls Tryd.prog 17 #[.int .i64 P, .int .i64 a, .int .i64 b, .int .i64 n, Pv q] w fun e w' => e = .returned (.tuple #[Pv (mz P a q n), .agg #[.int .i64 0, .int .i64 0]]) ∧ Below w.heap.size w w' := by
  have HRd : Hid (∀ w s, PS w s [q] → Tb w → Calls Tryd.prog 25 #[.int .i64 P, .int .i64 a, .int .i64 b, s] w fun e w' => e = .returned (.tuple #[.agg #[.int .i64 P, .int .i64 a, .int .i64 b], .agg #[.int .i64 0, .int .i64 0]]) ∧ Below w.heap.size w w') := fun w s hs hT => by
    have := read_any P a b 0 0 s [q] w h hs (by simp) hT
    rw [gy, if_pos rfl] at this
    exact this
  have HT : Hid (Tb w) := hT
  have HTm : Hid (∀ w, Calls Tryd.prog 32 #[Gv P a b, .int .i64 n, Pv q] w fun e w' => e = .returned (Pv (mz P a q n)) ∧ Below w.heap.size w w') := fun w => times_any P a b q n w hv hq (by simp [numB] at hn; omega)
  obtain ⟨s, hs⟩ : ∃ s, mz P a q n = s := ⟨_, rfl⟩
  rw [hs] at HTm ⊢
  clear h hT hs hv hq
  unfold Gv Pv at HTm
  unfold Pv
  go_enter Tryd.func17, Tryd.ntmps17
  go_wp2_with fail
  obtain ⟨W0, hW0⟩ : ∃ W0, W0 = (((w.alloc (.cells #[.int .i64 q.x, .int .i64 q.y, .bool q.far] 30)).alloc (.cells #[.int .i64 0, .int .i64 0, .bool false] 30)).alloc (.cells #[.int .i64 0, .int .i64 0] 23)).alloc (.cells #[.int .i64 q.x, .int .i64 q.y, .bool q.far] 30) := ⟨_, rfl⟩
  have Cq : Cl w.heap.size (Pl q) 30 W0 := by rw [hW0]; exact (((Cl.new (Pl q) _ w).alloc _).alloc _).alloc _
  have Co : Cl (w.heap.size + 1) [.int .i64 0, .int .i64 0, .bool false] 30 W0 := by rw [hW0]; exact ((cnew _ [.int .i64 0, .int .i64 0, .bool false] _ _ (by simp)).alloc _).alloc _
  have Ce : Cl (w.heap.size + 2) [.int .i64 0, .int .i64 0] 23 W0 := by rw [hW0]; exact (cnew _ [.int .i64 0, .int .i64 0] _ _ (by simp)).alloc _
  have CS : Cl (w.heap.size + 3) (Pl q) 30 W0 := by rw [hW0]; exact cnew _ (Pl q) _ _ (by simp)
  have K0 : Below w.heap.size w W0 := by rw [hW0]; exact al4 _ _ _ _ _
  have T0 : Tb W0 := HT.out.below K0
  rw [← hW0]
  clear hW0
  have HRd2 := HRd.out W0 _ (PS.one CS) T0
  refine HRd2.mono ?_
  rintro e w1 ⟨rfl, k1⟩
  have K1 : Below w.heap.size w w1 := K0.trans (k1.mono K0.size)
  have HM : Hid (Bm w.heap.size w1.heap.size q P a b 0 0 w ((w1.alloc (.cells #[.int .i64 P, .int .i64 a, .int .i64 b] 52)).alloc (.cells #[.int .i64 0, .int .i64 0] 23))) :=
    ⟨((Cq.below k1).alloc _).alloc _, ((Co.below k1).alloc _).alloc _, ((Ce.below k1).alloc _).alloc _, (Cl.new [.int .i64 P, .int .i64 a, .int .i64 b] _ w1).alloc _, cnew _ [.int .i64 0, .int .i64 0] _ _ (by simp), (Ce.below k1).lt, (K1.alloc K1.size _).alloc (by have := K1.size; simp; omega) _⟩
  clear Cq Co Ce CS K0 T0 HRd2 K1 k1 HRd
  go_wp2_with fail
  refine (isNumber_any _ _).mono ?_
  rintro e w2 ⟨rfl, hw2⟩
  rw [hw2, hn]
  clear hw2 w2
  have W0g0 := HM.out.g.cell 0
  have W0g1 := HM.out.g.cell 1
  have W0g2 := HM.out.g.cell 2
  have W0q0 := HM.out.q.cell 0
  have W0q1 := HM.out.q.cell 1
  have W0q2 := HM.out.q.cell 2
  unfold Pl at W0q0 W0q1 W0q2
  simp only [List.getElem?_cons_zero, List.getElem?_cons_succ] at W0g0 W0g1 W0g2 W0q0 W0q1 W0q2
  go_wp2_with fail
  refine (HTm.out _).mono ?_
  rintro e W ⟨rfl, k2⟩
  have M2 := HM.out.below k2
  clear HM W0g0 W0g1 W0g2 W0q0 W0q1 W0q2 k2
  have HM : Hid (Bm w.heap.size w1.heap.size q P a b 0 0 w W) := M2
  clear M2
  have o0 : W.cell? ⟨w.heap.size + 1, 0, none⟩ = some (.int .i64 0) := HM.out.o.cell 0
  have o1 : W.cell? ⟨w.heap.size + 1, 1, none⟩ = some (.int .i64 0) := HM.out.o.cell 1
  have o2 : W.cell? ⟨w.heap.size + 1, 2, none⟩ = some (.bool false) := HM.out.o.cell 2
  have o3 := HM.out.o.frozen 0
  have o4 := HM.out.o.frozen 1
  have o5 := HM.out.o.frozen 2
  have f0 : W.cell? ⟨w.heap.size + 2, 0, none⟩ = some (.int .i64 0) := HM.out.f.cell 0
  have f1 : W.cell? ⟨w.heap.size + 2, 1, none⟩ = some (.int .i64 0) := HM.out.f.cell 1
  have f3 := HM.out.f.frozen 0
  have f4 := HM.out.f.frozen 1
  go_wp2
  refine bodyPost_ret (v := .tuple #[.agg #[.int .i64 s.x, .int .i64 s.y, .bool s.far], .agg #[.int .i64 0, .int .i64 0]]) (by simp [results, Tryd.results17, go_sem, o0, o1, o2, f0, f1]) rfl ⟨rfl, ?_⟩
  exact (Below.setCell (Below.setCell (Below.setCell (Below.setCell (Below.setCell HM.out.k (by simp <;> omega) _) (by simp <;> omega) _) (by simp <;> omega) _) (by simp <;> omega) _) (by simp <;> omega) _)

end Go.Proofs.YtbeceimopamllaaDoor
end

section
/- The program: curve.Order. -/
set_option linter.unusedSimpArgs false
set_option linter.unusedVariables false
set_option maxRecDepth 100000
namespace Go.Proofs.YtbeceimopamllaaDoor
open Go.RowKit EC

/-- What Order holds in memory behind read. -/
structure Dm (z gb : Nat) (q : Pn) (x y t c d : Int) (w W : World) : Prop where
  q : Cl z (Pl q) 30 W
  f : Cl (z + 1) [.int .i64 0, .int .i64 0] 23 W
  g : Cl gb [.int .i64 x, .int .i64 y, .int .i64 t] 52 W
  e : Cl (gb + 1) [.int .i64 c, .int .i64 d] 23 W
  ne : z + 1 < gb
  k : Below z w W
theorem Dm.below {z gb : Nat} {q : Pn} {x y t c d : Int} {w W W' : World} (m : Dm z gb q x y t c d w W) (n : Below W.heap.size W W') : Dm z gb q x y t c d w W' :=
  ⟨m.q.below n, m.f.below n, m.g.below n, m.e.below n, m.ne, m.k.trans (n.mono (by have := m.f.lt; omega))⟩

set_option maxHeartbeats 2000000 in
theorem Order_bad (p a b c d : Int) (q : Pn) (w : World) (h : Of p a b [q] c d) (hc : c ≠ 0) (hT : Tb w) :
    Calls Tryd.prog 18 #[.int .i64 p, .int .i64 a, .int .i64 b, Pv q] w fun e w' => e = .returned (.tuple #[.int .i64 0, .agg #[.int .i64 c, .int .i64 d]]) ∧ Below w.heap.size w w' := by
  have HRd : Hid (∀ w s, PS w s [q] → Tb w → Calls Tryd.prog 25 #[.int .i64 p, .int .i64 a, .int .i64 b, s] w fun e w' => e = .returned (.tuple #[.agg #[.int .i64 0, .int .i64 0, .int .i64 0], .agg #[.int .i64 c, .int .i64 d]]) ∧ Below w.heap.size w w') := fun w s hs hT => by
    have := read_any p a b c d s [q] w h hs (by simp) hT
    rw [gy, if_neg hc] at this
    exact this
  have HT : Hid (Tb w) := hT
  have hcb : (c != 0) = true := by simp [bne]; exact hc
  clear h hT hc
  unfold Pv
  go_enter Tryd.func18, Tryd.ntmps18
  go_wp2_with fail
  obtain ⟨W0, hW0⟩ : ∃ W0, W0 = ((w.alloc (.cells #[.int .i64 q.x, .int .i64 q.y, .bool q.far] 30)).alloc (.cells #[.int .i64 0, .int .i64 0] 23)).alloc (.cells #[.int .i64 q.x, .int .i64 q.y, .bool q.far] 30) := ⟨_, rfl⟩
  have Cq : Cl w.heap.size (Pl q) 30 W0 := by rw [hW0]; exact ((Cl.new (Pl q) _ w).alloc _).alloc _
  have Ce : Cl (w.heap.size + 1) [.int .i64 0, .int .i64 0] 23 W0 := by rw [hW0]; exact (cnew _ [.int .i64 0, .int .i64 0] _ _ (by simp)).alloc _
  have CS : Cl (w.heap.size + 2) (Pl q) 30 W0 := by rw [hW0]; exact cnew _ (Pl q) _ _ (by simp)
  have K0 : Below w.heap.size w W0 := by rw [hW0]; exact al3 _ _ _ _
  have T0 : Tb W0 := HT.out.below K0
  rw [← hW0]
  clear hW0
  have HRd2 := HRd.out W0 _ (PS.one CS) T0
  refine HRd2.mono ?_
  rintro e w1 ⟨rfl, k1⟩
  have K1 : Below w.heap.size w w1 := K0.trans (k1.mono K0.size)
  have HM : Hid (Dm w.heap.size w1.heap.size q 0 0 0 c d w ((w1.alloc (.cells #[.int .i64 0, .int .i64 0, .int .i64 0] 52)).alloc (.cells #[.int .i64 c, .int .i64 d] 23))) :=
    ⟨((Cq.below k1).alloc _).alloc _, ((Ce.below k1).alloc _).alloc _, (Cl.new [.int .i64 0, .int .i64 0, .int .i64 0] _ w1).alloc _, cnew _ [.int .i64 c, .int .i64 d] _ _ (by simp), (Ce.below k1).lt, (K1.alloc K1.size _).alloc (by have := K1.size; simp; omega) _⟩
  clear Cq Ce CS K0 T0 HRd2 K1 k1 HRd
  go_wp2
  generalize hW : World.alloc _ _ = W at HM ⊢
  have n1 : ¬ w.heap.size + 1 = w1.heap.size + 1 := by have := HM.out.ne; omega
  have n2 : ¬ w1.heap.size + 1 = w.heap.size + 1 := by have := HM.out.ne; omega
  have n5 : ¬ w.heap.size = w1.heap.size := by have := HM.out.ne; omega
  have n6 : ¬ w1.heap.size = w.heap.size := by have := HM.out.ne; omega
  clear hW
  have f0 : W.cell? ⟨w.heap.size + 1, 0, none⟩ = some (.int .i64 0) := HM.out.f.cell 0
  have f1 : W.cell? ⟨w.heap.size + 1, 1, none⟩ = some (.int .i64 0) := HM.out.f.cell 1
  have f3 := HM.out.f.frozen 0
  have f4 := HM.out.f.frozen 1
  have c0 : W.cell? ⟨w1.heap.size + 1, 0, none⟩ = some (.int .i64 c) := HM.out.e.cell 0
  have c1 : W.cell? ⟨w1.heap.size + 1, 1, none⟩ = some (.int .i64 d) := HM.out.e.cell 1
  go_region
  all_goals
    go_wp2
    refine bodyPost_ret (v := .tuple #[.int .i64 0, .agg #[.int .i64 c, .int .i64 d]]) (by simp [results, Tryd.results18, go_sem, f0, f1]) rfl ⟨rfl, ?_⟩
    first
    | exact (Below.setCell (Below.setCell HM.out.k.drew (by simp) _) (by simp) _)
    | exact (Below.setCell (Below.setCell HM.out.k (by simp) _) (by simp) _).drew

set_option maxHeartbeats 2000000 in
theorem Order_ok (P : Nat) (a b : Int) (q : Pn) (k : Nat) (w : World) (h : Of P a b [q] 0 0) (hv : Cv P a b) (hq : On P a b q) (hk : Od P a q k) (hk2 : k ≤ 4000001) (hT : Tb w) :
    Calls Tryd.prog 18 #[.int .i64 P, .int .i64 a, .int .i64 b, Pv q] w fun e w' => e = .returned (.tuple #[.int .i64 k, .agg #[.int .i64 0, .int .i64 0]]) ∧ Below w.heap.size w w' := by
  have HRd : Hid (∀ w s, PS w s [q] → Tb w → Calls Tryd.prog 25 #[.int .i64 P, .int .i64 a, .int .i64 b, s] w fun e w' => e = .returned (.tuple #[.agg #[.int .i64 P, .int .i64 a, .int .i64 b], .agg #[.int .i64 0, .int .i64 0]]) ∧ Below w.heap.size w w') := fun w s hs hT => by
    have := read_any P a b 0 0 s [q] w h hs (by simp) hT
    rw [gy, if_pos rfl] at this
    exact this
  have HT : Hid (Tb w) := hT
  have HTm : Hid (∀ w, Calls Tryd.prog 33 #[Gv P a b, Pv q] w fun e w' => e = .returned (.int .i64 k) ∧ Below w.heap.size w w') := fun w => order_any P a b q k w hv hq hk hk2
  clear h hT hv hq hk
  unfold Gv Pv at HTm
  unfold Pv
  go_enter Tryd.func18, Tryd.ntmps18
  go_wp2_with fail
  obtain ⟨W0, hW0⟩ : ∃ W0, W0 = ((w.alloc (.cells #[.int .i64 q.x, .int .i64 q.y, .bool q.far] 30)).alloc (.cells #[.int .i64 0, .int .i64 0] 23)).alloc (.cells #[.int .i64 q.x, .int .i64 q.y, .bool q.far] 30) := ⟨_, rfl⟩
  have Cq : Cl w.heap.size (Pl q) 30 W0 := by rw [hW0]; exact ((Cl.new (Pl q) _ w).alloc _).alloc _
  have Ce : Cl (w.heap.size + 1) [.int .i64 0, .int .i64 0] 23 W0 := by rw [hW0]; exact (cnew _ [.int .i64 0, .int .i64 0] _ _ (by simp)).alloc _
  have CS : Cl (w.heap.size + 2) (Pl q) 30 W0 := by rw [hW0]; exact cnew _ (Pl q) _ _ (by simp)
  have K0 : Below w.heap.size w W0 := by rw [hW0]; exact al3 _ _ _ _
  have T0 : Tb W0 := HT.out.below K0
  rw [← hW0]
  clear hW0
  have HRd2 := HRd.out W0 _ (PS.one CS) T0
  refine HRd2.mono ?_
  rintro e w1 ⟨rfl, k1⟩
  have K1 : Below w.heap.size w w1 := K0.trans (k1.mono K0.size)
  have HM : Hid (Dm w.heap.size w1.heap.size q P a b 0 0 w ((w1.alloc (.cells #[.int .i64 P, .int .i64 a, .int .i64 b] 52)).alloc (.cells #[.int .i64 0, .int .i64 0] 23))) :=
    ⟨((Cq.below k1).alloc _).alloc _, ((Ce.below k1).alloc _).alloc _, (Cl.new [.int .i64 P, .int .i64 a, .int .i64 b] _ w1).alloc _, cnew _ [.int .i64 0, .int .i64 0] _ _ (by simp), (Ce.below k1).lt, (K1.alloc K1.size _).alloc (by have := K1.size; simp; omega) _⟩
  clear Cq Ce CS K0 T0 HRd2 K1 k1 HRd
  have W0g0 := HM.out.g.cell 0
  have W0g1 := HM.out.g.cell 1
  have W0g2 := HM.out.g.cell 2
  have W0q0 := HM.out.q.cell 0
  have W0q1 := HM.out.q.cell 1
  have W0q2 := HM.out.q.cell 2
  unfold Pl at W0q0 W0q1 W0q2
  simp only [List.getElem?_cons_zero, List.getElem?_cons_succ] at W0g0 W0g1 W0g2 W0q0 W0q1 W0q2
  go_wp2_with fail
  refine (HTm.out _).mono ?_
  rintro e W ⟨rfl, k2⟩
  have M2 := HM.out.below k2
  clear HM W0g0 W0g1 W0g2 W0q0 W0q1 W0q2 k2
  have HM : Hid (Dm w.heap.size w1.heap.size q P a b 0 0 w W) := M2
  clear M2
  have f0 : W.cell? ⟨w.heap.size + 1, 0, none⟩ = some (.int .i64 0) := HM.out.f.cell 0
  have f1 : W.cell? ⟨w.heap.size + 1, 1, none⟩ = some (.int .i64 0) := HM.out.f.cell 1
  have f3 := HM.out.f.frozen 0
  have f4 := HM.out.f.frozen 1
  go_wp2
  refine bodyPost_ret (v := .tuple #[.int .i64 k, .agg #[.int .i64 0, .int .i64 0]]) (by simp [results, Tryd.results18, go_sem, f0, f1]) rfl ⟨rfl, ?_⟩
  exact (Below.setCell (Below.setCell HM.out.k (by simp) _) (by simp) _)

end Go.Proofs.YtbeceimopamllaaDoor
end
