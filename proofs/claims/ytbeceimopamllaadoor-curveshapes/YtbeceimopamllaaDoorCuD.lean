/- The program: a curve's order and times. -/
import Derived.Test.YtbeceimopamllaaDoorCuC
set_option linter.unusedSimpArgs false
set_option linter.unusedVariables false
set_option maxRecDepth 100000
namespace Go.Proofs.YtbeceimopamllaaDoor
open Go.RowKit EC

/-- What order holds in memory: the curve, the point, and the sum so far. -/
structure Om (h bb P : Nat) (a b : Int) (q s : Pn) (w W : World) : Prop where
  g : Cl h (Gl P a b) 52 W
  q : Cl (h + 1) (Pl q) 30 W
  s : Cl bb (Pl s) 30 W
  ne : h + 1 < bb
  k : Below h w W
theorem Om.below {h bb P : Nat} {a b : Int} {q s : Pn} {w W W' : World} (x : Om h bb P a b q s w W) (c : Below W.heap.size W W') : Om h bb P a b q s w W' :=
  ⟨x.g.below c, x.q.below c, x.s.below c, x.ne, x.k.trans (c.mono (by have := x.g.lt; omega))⟩
/-- A new sum in a new place. -/
theorem Om.fresh {h bb P : Nat} {a b : Int} {q s : Pn} {w W : World} (x : Om h bb P a b q s w W) (t : Pn) : Om h W.heap.size P a b q t w (W.alloc (.cells #[.int .i64 t.x, .int .i64 t.y, .bool t.far] 30)) :=
  ⟨x.g.alloc _, x.q.alloc _, Cl.new (Pl t) _ W, x.q.lt, x.k.alloc (by have := x.g.lt; omega) _⟩
theorem Om.set {h bb P : Nat} {a b : Int} {q s : Pn} {w W : World} (x : Om h bb P a b q s w W) (t : Pn) :
    Om h bb P a b q t w (((W.setCell ⟨bb, 0, none⟩ (.int .i64 t.x)).setCell ⟨bb, 1, none⟩ (.int .i64 t.y)).setCell ⟨bb, 2, none⟩ (.bool t.far)) := by
  have hn := x.ne
  refine ⟨?_, ?_, ((x.s.set 0 _).set 1 _).set 2 _, hn, ?_⟩
  · exact ((x.g.other (by show h ≠ bb; omega) _).other (by show h ≠ bb; omega) _).other (by show h ≠ bb; omega) _
  · exact ((x.q.other (by show h + 1 ≠ bb; omega) _).other (by show h + 1 ≠ bb; omega) _).other (by show h + 1 ≠ bb; omega) _
  · exact ((x.k.setCell (by show h ≤ bb; omega) _).setCell (by show h ≤ bb; omega) _).setCell (by show h ≤ bb; omega) _

theorem mu_one (p a : Int) (q : Pn) : mu p a q 1 = q := by simp [mu, padd_far]

set_option maxHeartbeats 2000000 in
theorem order_any (P : Nat) (a b : Int) (q : Pn) (k : Nat) (w : World) (hc : Cv P a b) (hq : On P a b q) (hk : Od P a q k) (hk2 : k ≤ 4000001) :
    Calls Tryd.prog 33 #[Gv P a b, Pv q] w fun e w' => e = .returned (.int .i64 k) ∧ Below w.heap.size w w' := by
  haveI := hc.nz
  have HC : Hid (Cv P a b ∧ On P a b q ∧ Od P a q k) := ⟨hc, hq, hk⟩
  have hk1 := hk.1
  have HO0 : Hid (Om w.heap.size (w.heap.size + 2) P a b q (mu P a q 1) w (((w.alloc (.cells #[.int .i64 P, .int .i64 a, .int .i64 b] 52)).alloc (.cells #[.int .i64 q.x, .int .i64 q.y, .bool q.far] 30)).alloc (.cells #[.int .i64 q.x, .int .i64 q.y, .bool q.far] 30))) := by
    show Om _ _ _ _ _ _ _ _ _
    rw [mu_one]
    exact ⟨((Cl.new (Gl P a b) _ w).alloc _).alloc _, (cnew _ (Pl q) _ _ (by simp)).alloc _, cnew _ (Pl q) _ _ (by simp), by omega, al3 _ _ _ _⟩
  clear hc hq hk
  unfold Gv Pv
  go_enter Tryd.func33, Tryd.ntmps33
  go_wp2
  go_loopw [5, 6] (fun nv bv wx => ∃ (j bb : Nat), 1 ≤ j ∧ j ≤ k ∧ nv = .int .i64 j ∧ bv = .pointer (some ⟨bb, 0, none⟩) ∧ Hid (Om w.heap.size bb P a b q (mu P a q j) w wx)) (fun nv _ _ => k - (intOf nv).toNat)
  case atStart => exact ⟨1, w.heap.size + 2, by omega, by omega, rfl, rfl, HO0.out⟩
  case round =>
    obtain ⟨j, bb, j1, jk, rfl, rfl, HO⟩ := hrel
    clear HO0
    have hon : On P a b (mu P a q j) := mu_on HC.out.1 HC.out.2.1 j
    have HA : Hid (∀ w, Calls Tryd.prog 29 #[Gv P a b, Pv (mu P a q j), Pv q] w fun e w' => e = .returned (Pv (mu P a q (j + 1))) ∧ Below w.heap.size w w') := fun w => cadd_any P a b _ q w HC.out.1 hon HC.out.2.1
    have hfar : (j = k ∧ (mu P a q j).far = true) ∨ (j < k ∧ (mu P a q j).far = false) := by
      by_cases e : j = k
      · left; subst e; exact ⟨rfl, by rw [HC.out.2.2.2.1]; rfl⟩
      · right
        refine ⟨by omega, ?_⟩
        cases hf : (mu P a q j).far
        · rfl
        · exact absurd (far_of hon hf) (HC.out.2.2.2.2 j (by omega) (by omega))
    clear hon
    obtain ⟨s, hs⟩ : ∃ s, mu P a q j = s := ⟨_, rfl⟩
    obtain ⟨t, ht⟩ : ∃ t, mu P a q (j + 1) = t := ⟨_, rfl⟩
    have HT : Hid (mu P a q (j + 1) = t) := ht
    rw [hs] at HO HA hfar
    rw [ht] at HA
    clear hs ht
    obtain ⟨sx, sy, sf⟩ := s
    have c0 : wr.cell? ⟨bb, 0, none⟩ = some (.int .i64 sx) := HO.out.s.cell 0
    have c1 : wr.cell? ⟨bb, 1, none⟩ = some (.int .i64 sy) := HO.out.s.cell 1
    have c2 : wr.cell? ⟨bb, 2, none⟩ = some (.bool sf) := HO.out.s.cell 2
    simp only at hfar
    rcases hfar with ⟨rfl, rfl⟩ | ⟨hlt, rfl⟩
    · go_wp2
      go_ret
      exact ⟨rfl, HO.out.k⟩
    · have F := HO.out.fresh ⟨sx, sy, false⟩
      have HF : Hid (Om w.heap.size wr.heap.size P a b q ⟨sx, sy, false⟩ w (wr.alloc (.cells #[.int .i64 sx, .int .i64 sy, .bool false] 30))) := F
      have G0 : ∀ x : Obj, (wr.alloc x).cell? ⟨w.heap.size, 0, none⟩ = some (.int .i64 P) := fun x => (HO.out.g.alloc x).cell 0
      have G1 : ∀ x : Obj, (wr.alloc x).cell? ⟨w.heap.size, 1, none⟩ = some (.int .i64 a) := fun x => (HO.out.g.alloc x).cell 1
      have G2 : ∀ x : Obj, (wr.alloc x).cell? ⟨w.heap.size, 2, none⟩ = some (.int .i64 b) := fun x => (HO.out.g.alloc x).cell 2
      have Q0 : ∀ x : Obj, (wr.alloc x).cell? ⟨w.heap.size + 1, 0, none⟩ = some (.int .i64 q.x) := fun x => (HO.out.q.alloc x).cell 0
      have Q1 : ∀ x : Obj, (wr.alloc x).cell? ⟨w.heap.size + 1, 1, none⟩ = some (.int .i64 q.y) := fun x => (HO.out.q.alloc x).cell 1
      have Q2 : ∀ x : Obj, (wr.alloc x).cell? ⟨w.heap.size + 1, 2, none⟩ = some (.bool q.far) := fun x => (HO.out.q.alloc x).cell 2
      clear F
      unfold Gv Pv at HA
      go_wp2_with fail
      refine (HA.out _).mono ?_
      rintro e w1 ⟨rfl, k1⟩
      have F1 := HF.out.below k1
      have HF1 : Hid (Om w.heap.size wr.heap.size P a b q ⟨sx, sy, false⟩ w w1) := F1
      have d0 : w1.cell? ⟨wr.heap.size, 0, none⟩ = some (.int .i64 sx) := F1.s.cell 0
      have d1 : w1.cell? ⟨wr.heap.size, 1, none⟩ = some (.int .i64 sy) := F1.s.cell 1
      have d2 : w1.cell? ⟨wr.heap.size, 2, none⟩ = some (.bool false) := F1.s.cell 2
      have f0 := F1.s.frozen 0
      have f1 := F1.s.frozen 1
      have f2 := F1.s.frozen 2
      clear F1 k1 HF HO G0 G1 G2 Q0 Q1 Q2 c0 c1 c2
      go_wp2
      go_roundw
      case rel => exact ⟨j + 1, wr.heap.size, by omega, by omega, by go_num, rfl, by rw [HT.out]; exact HF1.out.set t⟩
      case measure => simp [intOf]; omega

end Go.Proofs.YtbeceimopamllaaDoor
