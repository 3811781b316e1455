/- The program: curve.Shape. -/
import Derived.Test.YtbeceimopamllaaDoorCuN
set_option linter.unusedSimpArgs false
set_option linter.unusedVariables false
set_option maxRecDepth 100000
namespace Go.Proofs.YtbeceimopamllaaDoor
open Go.RowKit EC

theorem of_nil {P : Nat} {a b : Int} (h : Cv P a b) : Of P a b [] 0 0 := .inr ⟨P, rfl, h, rfl⟩
theorem of_nil_bad {p a b c d : Int} (h : Cf p a b c d) (hc : c ≠ 0) : Of p a b [] c d := .inl ⟨hc, h⟩

theorem PS.own {w : World} {B cc : Nat} {aa : Option Addr} {l : List Pn} (h : w.ownsRow B 30 3 (.slice aa l.length cc) l.length (pcl l)) : PS w (.slice aa l.length cc) l := by
  have h0 := h
  rcases h.2 with ⟨h1, h2⟩ | ⟨g, cap, cur, h2, h3, h4, _⟩
  · exact ⟨aa, 0, cc, rfl, fun hl => by omega, fun i hi => by omega⟩
  · injection h2 with e1 _ _
    subst e1
    refine ⟨_, g, cc, rfl, fun _ => ⟨rfl, (Array.getElem?_eq_some_iff.1 h4).1⟩, fun i hi => ?_⟩
    have hadd : ∀ j, (⟨g, 0, none⟩ : Addr).add j = ⟨g, j, none⟩ := fun j => by unfold Addr.add; split <;> simp_all
    obtain ⟨p0, p1, p2⟩ := pcl_get l i hi
    have c0 := h0.cells (g := g) rfl _ _ p0
    have c1 := h0.cells (g := g) rfl _ _ p1
    have c2 := h0.cells (g := g) rfl _ _ p2
    rw [hadd] at c0 c1 c2
    exact ⟨c0, c1, c2⟩

theorem Ex.pos {P : Nat} {a b : Int} {l : List Pn} {N K : Nat → Nat} (h : Ex P a b l N K) : ∀ i, i ≤ l.length → 0 < N i
  | 0, _ => by rw [h.n0]; omega
  | i + 1, hi => by
    rw [h.step i (by omega)]
    exact Nat.mul_pos (h.pos i (by omega)) (h.od i (by omega)).1

set_option maxHeartbeats 2000000 in
theorem Shape_bad (p a b c d : Int) (w : World) (h : Cf p a b c d) (hc : c ≠ 0) (hT : Tb w) :
    Calls Tryd.prog 23 #[.int .i64 p, .int .i64 a, .int .i64 b] w fun e w' => e = .returned (.tuple #[.int .i64 0, .int .i64 0, .agg #[.int .i64 c, .int .i64 d]]) ∧ Below w.heap.size w w' := by
  have HRd : Hid (∀ w, Tb w → Calls Tryd.prog 25 #[.int .i64 p, .int .i64 a, .int .i64 b, .slice none 0 0] w fun e w' => e = .returned (.tuple #[.agg #[.int .i64 0, .int .i64 0, .int .i64 0], .agg #[.int .i64 c, .int .i64 d]]) ∧ Below w.heap.size w w') := fun w hT => by
    have := read_any p a b c d _ [] w (of_nil_bad h hc) (PS.nil w) (by simp) hT
    rw [gy, if_neg hc] at this
    exact this
  have HT : Hid (Tb (w.alloc (.cells #[.int .i64 0, .int .i64 0] 23))) := hT.alloc _
  have hcb : (c != 0) = true := by simp [bne]; exact hc
  have C0 : Cl w.heap.size [.int .i64 0, .int .i64 0] 23 (w.alloc (.cells #[.int .i64 0, .int .i64 0] 23)) := Cl.new _ _ w
  clear h hT hc
  go_enter Tryd.func23, Tryd.ntmps23
  go_wp2_with fail
  refine (HRd.out _ HT.out).mono ?_
  rintro e w1 ⟨rfl, k1⟩
  have C1 := (C0.below k1).alloc (.cells #[.int .i64 0, .int .i64 0, .int .i64 0] 52)
  have K1 : Below w.heap.size w w1 := (ala w _).trans (k1.mono (by simp))
  have HK1 : Hid (Below w.heap.size w (w1.alloc (.cells #[.int .i64 0, .int .i64 0, .int .i64 0] 52))) := K1.alloc K1.size _
  have q0 : ∀ x : Obj, (w1.alloc x).cell? ⟨w.heap.size, 0, none⟩ = some (.int .i64 0) := fun x => ((C0.below k1).alloc x).cell 0
  have q1 : ∀ x : Obj, (w1.alloc x).cell? ⟨w.heap.size, 1, none⟩ = some (.int .i64 0) := fun x => ((C0.below k1).alloc x).cell 1
  have q2 : ∀ x : Obj, (w1.alloc x).frozen? ⟨w.heap.size, 0, none⟩ = false := fun x => ((C0.below k1).alloc x).frozen 0
  have q3 : ∀ x : Obj, (w1.alloc x).frozen? ⟨w.heap.size, 1, none⟩ = false := fun x => ((C0.below k1).alloc x).frozen 1
  have D := (C1.set 0 (.int .i64 c)).set 1 (.int .i64 d)
  have HD : Hid (Cl w.heap.size [.int .i64 c, .int .i64 d] 23 (((w1.alloc (.cells #[.int .i64 0, .int .i64 0, .int .i64 0] 52)).setCell ⟨w.heap.size, 0, none⟩ (.int .i64 c)).setCell ⟨w.heap.size, 1, none⟩ (.int .i64 d))) := D
  have HKD : Hid (Below w.heap.size w (((w1.alloc (.cells #[.int .i64 0, .int .i64 0, .int .i64 0] 52)).setCell ⟨w.heap.size, 0, none⟩ (.int .i64 c)).setCell ⟨w.heap.size, 1, none⟩ (.int .i64 d))) := (HK1.out.setCell (by simp) _).setCell (by simp) _
  clear C0 C1 K1 k1 HRd D HK1
  go_wp2
  generalize hW : World.setCell _ _ _ = W at HD HKD ⊢
  clear hW q0 q1 q2 q3
  have c0 : W.cell? ⟨w.heap.size, 0, none⟩ = some (.int .i64 c) := HD.out.cell 0
  have c1 : W.cell? ⟨w.heap.size, 1, none⟩ = some (.int .i64 d) := HD.out.cell 1
  have c2 := HD.out.frozen 0
  have c3 := HD.out.frozen 1
  go_region
  all_goals
    go_wp2
    refine bodyPost_ret (v := .tuple #[.int .i64 0, .int .i64 0, .agg #[.int .i64 c, .int .i64 d]]) (by simp [results, Tryd.results23, go_sem, c0, c1]) rfl ⟨rfl, ?_⟩
    first
    | exact (Below.setCell (Below.setCell HKD.out.drew (by simp) _) (by simp) _)
    | exact (Below.setCell (Below.setCell HKD.out (by simp) _) (by simp) _).drew

set_option maxHeartbeats 2000000 in
theorem Shape_ok (P : Nat) (a b : Int) (N K : Nat → Nat) (m n : Nat) (w : World) (hv : Cv P a b) (he : Ex P a b (pts P a b P) N K) (hn : N (pts P a b P).length = n) (hm : (pts P a b P).length / n = m) (hT : Tb w) :
    Calls Tryd.prog 23 #[.int .i64 P, .int .i64 a, .int .i64 b] w fun e w' => e = .returned (.tuple #[.int .i64 m, .int .i64 n, .agg #[.int .i64 0, .int .i64 0]]) ∧ Below w.heap.size w w' := by
  have HRd : Hid (∀ w, Tb w → Calls Tryd.prog 25 #[.int .i64 P, .int .i64 a, .int .i64 b, .slice none 0 0] w fun e w' => e = .returned (.tuple #[.agg #[.int .i64 P, .int .i64 a, .int .i64 b], .agg #[.int .i64 0, .int .i64 0]]) ∧ Below w.heap.size w w') := fun w hT => by
    have := read_any P a b 0 0 _ [] w (of_nil hv) (PS.nil w) (by simp) hT
    rw [gy, if_pos rfl] at this
    exact this
  have HT : Hid (Tb (w.alloc (.cells #[.int .i64 0, .int .i64 0] 23))) := hT.alloc _
  have C0 : Cl w.heap.size [.int .i64 0, .int .i64 0] 23 (w.alloc (.cells #[.int .i64 0, .int .i64 0] 23)) := Cl.new _ _ w
  have hpos := he.pos _ (Nat.le_refl _)
  have hn18 := he.n18 _ (Nat.le_refl _)
  rw [hn] at hpos hn18
  have hlen : (pts P a b P).length ≤ 5000000 := by
    have h1 := pts_len P a b P
    have h2 : P * P ≤ 2000 * 2000 := Nat.mul_le_mul hv.p2 hv.p2
    omega
  have HPt : Hid (∀ w, Calls Tryd.prog 26 #[Gv P a b] w fun e w' => ∃ (aa : Option Addr) (cc : Nat), e = .returned (.slice aa (pts P a b P).length cc) ∧ w'.ownsRow w.heap.size 30 3 (.slice aa (pts P a b P).length cc) (pts P a b P).length (pcl (pts P a b P)) ∧ Below w.heap.size w w') := fun w => points_any P a b w hv
  have HEx : Hid (∀ w s, PS w s (pts P a b P) → Calls Tryd.prog 34 #[Gv P a b, s] w fun e w' => e = .returned (.int .i64 n) ∧ Below w.heap.size w w') := fun w s hs => by
    have := exponent_any P a b s _ N K w hv hs (by omega) he
    rw [hn] at this
    exact this
  unfold Gv at HPt HEx
  have hn0 : ((n : Int) == 0) = false := beq_eq_false_iff_ne.2 (by omega)
  obtain ⟨L, hL⟩ : ∃ L, pts P a b P = L := ⟨_, rfl⟩
  rw [hL] at HPt HEx hm hlen
  have hdiv : (L.length : Int) / (n : Int) = (m : Int) := by rw [← hm, Int.natCast_ediv]
  have hmb : m ≤ 5000000 := by rw [← hm]; exact Nat.le_trans (Nat.div_le_self _ _) hlen
  clear hv hT he hn hm hL
  go_enter Tryd.func23, Tryd.ntmps23
  go_wp2_with fail
  refine (HRd.out _ HT.out).mono ?_
  rintro e w1 ⟨rfl, k1⟩
  have q0 : ∀ x : Obj, (w1.alloc x).cell? ⟨w.heap.size, 0, none⟩ = some (.int .i64 0) := fun x => ((C0.below k1).alloc x).cell 0
  have q1 : ∀ x : Obj, (w1.alloc x).cell? ⟨w.heap.size, 1, none⟩ = some (.int .i64 0) := fun x => ((C0.below k1).alloc x).cell 1
  have q2 : ∀ x : Obj, (w1.alloc x).frozen? ⟨w.heap.size, 0, none⟩ = false := fun x => ((C0.below k1).alloc x).frozen 0
  have q3 : ∀ x : Obj, (w1.alloc x).frozen? ⟨w.heap.size, 1, none⟩ = false := fun x => ((C0.below k1).alloc x).frozen 1
  have C1 := (C0.below k1).alloc (.cells #[.int .i64 P, .int .i64 a, .int .i64 b] 52)
  have K1 : Below w.heap.size w w1 := (ala w _).trans (k1.mono (by simp))
  have hlt : w.heap.size < w1.heap.size := (C0.below k1).lt
  have D := (C1.set 0 (.int .i64 0)).set 1 (.int .i64 0)
  have G1 : Cl w1.heap.size (Gl P a b) 52 (w1.alloc (.cells #[.int .i64 P, .int .i64 a, .int .i64 b] 52)) := Cl.new (Gl P a b) _ w1
  have HD : Hid (Cl w.heap.size [.int .i64 0, .int .i64 0] 23 (((w1.alloc (.cells #[.int .i64 P, .int .i64 a, .int .i64 b] 52)).setCell ⟨w.heap.size, 0, none⟩ (.int .i64 0)).setCell ⟨w.heap.size, 1, none⟩ (.int .i64 0))
      ∧ Cl w1.heap.size (Gl P a b) 52 (((w1.alloc (.cells #[.int .i64 P, .int .i64 a, .int .i64 b] 52)).setCell ⟨w.heap.size, 0, none⟩ (.int .i64 0)).setCell ⟨w.heap.size, 1, none⟩ (.int .i64 0))
      ∧ Below w.heap.size w (((w1.alloc (.cells #[.int .i64 P, .int .i64 a, .int .i64 b] 52)).setCell ⟨w.heap.size, 0, none⟩ (.int .i64 0)).setCell ⟨w.heap.size, 1, none⟩ (.int .i64 0))) :=
    ⟨D, (G1.other (by show w1.heap.size ≠ w.heap.size; omega) _).other (by show w1.heap.size ≠ w.heap.size; omega) _, ((K1.alloc K1.size _).setCell (by simp) _).setCell (by simp) _⟩
  have G0 := HD.out.2.1.cell 0
  have G1' := HD.out.2.1.cell 1
  have G2 := HD.out.2.1.cell 2
  unfold Gl at G0 G1' G2
  simp only [List.getElem?_cons_zero, List.getElem?_cons_succ] at G0 G1' G2
  clear C0 C1 K1 k1 HRd D G1 HT hlt
  go_wp2_with fail
  generalize hW : World.setCell _ _ _ = W at HD ⊢
  refine (HPt.out W).mono ?_
  rintro e w2 ⟨aa, cc, rfl, hrow, k2⟩
  have HE : Hid (Cl w.heap.size [.int .i64 0, .int .i64 0] 23 w2 ∧ Cl w1.heap.size (Gl P a b) 52 w2 ∧ Below w.heap.size w w2) := ⟨HD.out.1.below k2, HD.out.2.1.below k2, HD.out.2.2.trans (k2.mono HD.out.2.2.size)⟩
  have HPs : Hid (PS w2 (.slice aa L.length cc) L) := PS.own hrow
  clear hW hrow k2 HD q0 q1 q2 q3 G0 G1' G2
  have g0 : w2.cell? ⟨w1.heap.size, 0, none⟩ = some (.int .i64 P) := HE.out.2.1.cell 0
  have g1 : w2.cell? ⟨w1.heap.size, 1, none⟩ = some (.int .i64 a) := HE.out.2.1.cell 1
  have g2 : w2.cell? ⟨w1.heap.size, 2, none⟩ = some (.int .i64 b) := HE.out.2.1.cell 2
  go_wp2_with fail
  refine (HEx.out _ _ HPs.out).mono ?_
  rintro e w3 ⟨rfl, k3⟩
  have F := HE.out.1.below k3
  have HF : Hid (Cl w.heap.size [.int .i64 0, .int .i64 0] 23 w3) := F
  have HKF : Hid (Below w.heap.size w w3) := HE.out.2.2.trans (k3.mono HE.out.2.2.size)
  clear g0 g1 g2 k3 HE HPs
  have c0 : w3.cell? ⟨w.heap.size, 0, none⟩ = some (.int .i64 0) := F.cell 0
  have c1 : w3.cell? ⟨w.heap.size, 1, none⟩ = some (.int .i64 0) := F.cell 1
  have c2 := F.frozen 0
  have c3 := F.frozen 1
  clear F
  go_wp2
  refine bodyPost_ret (v := .tuple #[.int .i64 m, .int .i64 n, .agg #[.int .i64 0, .int .i64 0]]) (by simp [results, Tryd.results23, go_sem, c0, c1]) rfl ⟨rfl, ?_⟩
  exact (Below.setCell (Below.setCell HKF.out (by simp) _) (by simp) _)

end Go.Proofs.YtbeceimopamllaaDoor
