/- The program: curve.Points. -/
import Derived.Test.YtbeceimopamllaaDoorCuO
set_option linter.unusedSimpArgs false
set_option linter.unusedVariables false
set_option maxRecDepth 100000
namespace Go.Proofs.YtbeceimopamllaaDoor
open Go.RowKit EC

/-- What Points holds in memory behind read. -/
structure Em (z gb : Nat) (x y t c d : Int) (w W : World) : Prop where
  f : Cl z [.int .i64 0, .int .i64 0] 23 W
  g : Cl gb [.int .i64 x, .int .i64 y, .int .i64 t] 52 W
  e : Cl (gb + 1) [.int .i64 c, .int .i64 d] 23 W
  ne : z < gb
  k : Below z w W
theorem Em.below {z gb : Nat} {x y t c d : Int} {w W W' : World} (m : Em z gb x y t c d w W) (n : Below W.heap.size W W') : Em z gb x y t c d w W' :=
  ⟨m.f.below n, m.g.below n, m.e.below n, m.ne, m.k.trans (n.mono (by have := m.f.lt; omega))⟩

set_option maxHeartbeats 2000000 in
theorem Points_bad (p a b c d : Int) (w : World) (h : Cf p a b c d) (hc : c ≠ 0) (hT : Tb w) :
    Calls Tryd.prog 8 #[.int .i64 p, .int .i64 a, .int .i64 b] w fun e w' => e = .returned (.tuple #[.slice none 0 0, .agg #[.int .i64 c, .int .i64 d]]) ∧ Below w.heap.size w w' := by
  have HRd : Hid (∀ w, Tb w → Calls Tryd.prog 25 #[.int .i64 p, .int .i64 a, .int .i64 b, .slice none 0 0] w fun e w' => e = .returned (.tuple #[.agg #[.int .i64 0, .int .i64 0, .int .i64 0], .agg #[.int .i64 c, .int .i64 d]]) ∧ Below w.heap.size w w') := fun w hT => by
    have := read_any p a b c d _ [] w (of_nil_bad h hc) (PS.nil w) (by simp) hT
    rw [gy, if_neg hc] at this
    exact this
  have HT : Hid (Tb w) := hT
  have hcb : (c != 0) = true := by simp [bne]; exact hc
  clear h hT hc
  go_enter Tryd.func8, Tryd.ntmps8
  go_wp2_with fail
  have Ce : Cl w.heap.size [.int .i64 0, .int .i64 0] 23 (w.alloc (.cells #[.int .i64 0, .int .i64 0] 23)) := Cl.new _ _ w
  have K0 := ala w (.cells #[.int .i64 0, .int .i64 0] 23)
  refine (HRd.out _ (HT.out.below K0)).mono ?_
  rintro e w1 ⟨rfl, k1⟩
  have K1 : Below w.heap.size w w1 := K0.trans (k1.mono K0.size)
  have HM : Hid (Em w.heap.size w1.heap.size 0 0 0 c d w ((w1.alloc (.cells #[.int .i64 0, .int .i64 0, .int .i64 0] 52)).alloc (.cells #[.int .i64 c, .int .i64 d] 23))) :=
    ⟨((Ce.below k1).alloc _).alloc _, (Cl.new [.int .i64 0, .int .i64 0, .int .i64 0] _ w1).alloc _, cnew _ [.int .i64 c, .int .i64 d] _ _ (by simp), (Ce.below k1).lt, (K1.alloc K1.size _).alloc (by have := K1.size; simp; omega) _⟩
  clear Ce K0 K1 k1 HRd
  go_wp2
  generalize hW : World.alloc _ _ = W at HM ⊢
  have n5 : ¬ w.heap.size = w1.heap.size + 1 := by have := HM.out.ne; omega
  have n6 : ¬ w1.heap.size + 1 = w.heap.size := by have := HM.out.ne; omega
  clear hW
  have f0 : W.cell? ⟨w.heap.size, 0, none⟩ = some (.int .i64 0) := HM.out.f.cell 0
  have f1 : W.cell? ⟨w.heap.size, 1, none⟩ = some (.int .i64 0) := HM.out.f.cell 1
  have f3 := HM.out.f.frozen 0
  have f4 := HM.out.f.frozen 1
  have c0 : W.cell? ⟨w1.heap.size + 1, 0, none⟩ = some (.int .i64 c) := HM.out.e.cell 0
  have c1 : W.cell? ⟨w1.heap.size + 1, 1, none⟩ = some (.int .i64 d) := HM.out.e.cell 1
  go_region
  all_goals
    go_wp2
    refine bodyPost_ret (v := .tuple #[.slice none 0 0, .agg #[.int .i64 c, .int .i64 d]]) (by simp [results, Tryd.results8, go_sem, f0, f1]) rfl ⟨rfl, ?_⟩
    first
    | exact (Below.setCell (Below.setCell HM.out.k.drew (by simp) _) (by simp) _)
    | exact (Below.setCell (Below.setCell HM.out.k (by simp) _) (by simp) _).drew

set_option maxHeartbeats 2000000 in
theorem Points_ok (P : Nat) (a b : Int) (w : World) (hv : Cv P a b) (hT : Tb w) :
    Calls Tryd.prog 8 #[.int .i64 P, .int .i64 a, .int .i64 b] w fun e w' => ∃ (aa : Option Addr) (cc : Nat), e = .returned (.tuple #[.slice aa (pts P a b P).length cc, .agg #[.int .i64 0, .int .i64 0]]) ∧ PS w' (.slice aa (pts P a b P).length cc) (pts P a b P) ∧ Below w.heap.size w w' := by
  have HRd : Hid (∀ w, Tb w → Calls Tryd.prog 25 #[.int .i64 P, .int .i64 a, .int .i64 b, .slice none 0 0] w fun e w' => e = .returned (.tuple #[.agg #[.int .i64 P, .int .i64 a, .int .i64 b], .agg #[.int .i64 0, .int .i64 0]]) ∧ Below w.heap.size w w') := fun w hT => by
    have := read_any P a b 0 0 _ [] w (of_nil hv) (PS.nil w) (by simp) hT
    rw [gy, if_pos rfl] at this
    exact this
  have HT : Hid (Tb w) := hT
  have HPt : Hid (∀ w, Calls Tryd.prog 26 #[Gv P a b] w fun e w' => ∃ (aa : Option Addr) (cc : Nat), e = .returned (.slice aa (pts P a b P).length cc) ∧ w'.ownsRow w.heap.size 30 3 (.slice aa (pts P a b P).length cc) (pts P a b P).length (pcl (pts P a b P)) ∧ Below w.heap.size w w') := fun w => points_any P a b w hv
  unfold Gv at HPt
  obtain ⟨L, hL⟩ : ∃ L, pts P a b P = L := ⟨_, rfl⟩
  rw [hL] at HPt ⊢
  clear hv hT hL
  go_enter Tryd.func8, Tryd.ntmps8
  go_wp2_with fail
  have Ce : Cl w.heap.size [.int .i64 0, .int .i64 0] 23 (w.alloc (.cells #[.int .i64 0, .int .i64 0] 23)) := Cl.new _ _ w
  have K0 := ala w (.cells #[.int .i64 0, .int .i64 0] 23)
  refine (HRd.out _ (HT.out.below K0)).mono ?_
  rintro e w1 ⟨rfl, k1⟩
  have K1 : Below w.heap.size w w1 := K0.trans (k1.mono K0.size)
  have HM : Hid (Em w.heap.size w1.heap.size P a b 0 0 w ((w1.alloc (.cells #[.int .i64 P, .int .i64 a, .int .i64 b] 52)).alloc (.cells #[.int .i64 0, .int .i64 0] 23))) :=
    ⟨((Ce.below k1).alloc _).alloc _, (Cl.new [.int .i64 P, .int .i64 a, .int .i64 b] _ w1).alloc _, cnew _ [.int .i64 0, .int .i64 0] _ _ (by simp), (Ce.below k1).lt, (K1.alloc K1.size _).alloc (by have := K1.size; simp; omega) _⟩
  clear Ce K0 K1 k1 HRd
  have W0g0 := HM.out.g.cell 0
  have W0g1 := HM.out.g.cell 1
  have W0g2 := HM.out.g.cell 2
  simp only [List.getElem?_cons_zero, List.getElem?_cons_succ] at W0g0 W0g1 W0g2
  go_wp2_with fail
  generalize hW1 : World.alloc _ _ = W1 at HM ⊢
  refine (HPt.out W1).mono ?_
  rintro e W ⟨aa, cc, rfl, hrow, k2⟩
  have M2 := HM.out.below k2
  have hB : w.heap.size < W1.heap.size := HM.out.f.lt
  clear HM W0g0 W0g1 W0g2 hW1
  have HM : Hid (Em w.heap.size w1.heap.size P a b 0 0 w W) := M2
  have HR : Hid (W.ownsRow (w.heap.size + 1) 30 3 (.slice aa L.length cc) L.length (pcl L)) := row_low hrow (by omega)
  clear M2 hrow k2 hB
  have f0 : W.cell? ⟨w.heap.size, 0, none⟩ = some (.int .i64 0) := HM.out.f.cell 0
  have f1 : W.cell? ⟨w.heap.size, 1, none⟩ = some (.int .i64 0) := HM.out.f.cell 1
  have f3 := HM.out.f.frozen 0
  have f4 := HM.out.f.frozen 1
  go_wp2
  refine bodyPost_ret (v := .tuple #[.slice aa L.length cc, .agg #[.int .i64 0, .int .i64 0]]) (by simp [results, Tryd.results8, go_sem, f0, f1]) rfl ⟨aa, cc, rfl, ?_, ?_⟩
  · exact PS.own (row_put (row_put HR.out (by simp) _) (by simp) _)
  · exact (Below.setCell (Below.setCell HM.out.k (by simp) _) (by simp) _)

end Go.Proofs.YtbeceimopamllaaDoor
