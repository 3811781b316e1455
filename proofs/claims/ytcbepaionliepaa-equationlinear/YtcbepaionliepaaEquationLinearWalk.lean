/- The law EquationLinear: the walk. Written by mkln.py. -/
import Derived.Test.YtcbepaionliepaaLnA
import Derived.Test.YtcbepaionliepaaMkG
import Derived.Test.YtcbepaionliepaaWholeH
set_option linter.unusedSimpArgs false
set_option linter.unusedVariables false
set_option maxRecDepth 100000
namespace Go.Proofs.Ytcbepaionliepaa
open Go.RowKit

/-- The law's boxes: the fault that Linear told, the numbers, the fault that is asked. -/
structure Lb (w W : World) (b9 bl b11 : Nat) (a b c p q p' q' : Int) : Prop where
  f : Sv b9 p q W
  l : Cl bl [.int .i64 a, .int .i64 b, .int .i64 c] 3 W
  v : Sv b11 p' q' W
  n1 : b9 ≠ b11
  n2 : bl ≠ b11
  l11 : w.heap.size ≤ b11
  k : Below w.heap.size w W
theorem Lb.below {w W W' : World} {b9 bl b11 : Nat} {a b c p q p' q' : Int} (h : Lb w W b9 bl b11 a b c p q p' q') (k : Below W.heap.size W W') : Lb w W' b9 bl b11 a b c p q p' q' :=
  ⟨h.f.below k, h.l.below k, h.v.below k, h.n1, h.n2, h.l11, h.k.trans (k.mono h.k.size)⟩
theorem Lb.set {w W : World} {b9 bl b11 : Nat} {a b c p q p' q' : Int} (h : Lb w W b9 bl b11 a b c p q p' q') (x y : Int) : Lb w ((W.setCell ⟨b11, 0, none⟩ (.int .i64 x)).setCell ⟨b11, 1, none⟩ (.int .i64 y)) b9 bl b11 a b c p q x y :=
  ⟨h.f.other _ _ (Ne.symm h.n1), (h.l.other (p := ⟨b11, 0, none⟩) h.n2 _).other (p := ⟨b11, 1, none⟩) h.n2 _, h.v.set x y, h.n1, h.n2, h.l11, (h.k.setCell h.l11 _).setCell h.l11 _⟩
theorem lb_new {w w1 : World} (a b c p q : Int) (k : Below w.heap.size w w1) : Lb w (((w1.alloc (.cells #[.int .i64 p, .int .i64 q] 23)).alloc (.cells #[.int .i64 a, .int .i64 b, .int .i64 c] 3)).alloc (.cells #[.int .i64 0, .int .i64 0] 23)) w1.heap.size (w1.heap.size + 1) (w1.heap.size + 1 + 1) a b c p q 0 0 := by
  have cn : ∀ (W : World) (l : List Value) (t : TypeId) (z : Nat), W.heap.size = z → Cl z l t (W.alloc (.cells l.toArray t)) := fun W l t z hz => by subst hz; exact Cl.new l t W
  have sn : ∀ (W : World) (z : Nat), W.heap.size = z → Sv z 0 0 (W.alloc (.cells #[.int .i64 0, .int .i64 0] 23)) := fun W z hz => by subst hz; exact Sv.new 0 0 W
  have hs := k.size
  refine ⟨((Sv.new p q w1).alloc _ _).alloc _ _, (cn _ [.int .i64 a, .int .i64 b, .int .i64 c] _ _ (by simp)).alloc _, sn _ _ (by simp), by omega, by omega, by omega, ?_⟩
  exact Below.alloc (Below.alloc (Below.alloc k hs _) (by simp; omega) _) (by simp; omega) _

theorem refF_b (c a : Int) (w : World) : Calls Try.prog 7 #[.int .i64 c, .int .i64 a] w fun e w' => e = .returned (.agg #[.int .i64 c, .int .i64 a]) ∧ Below w.heap.size w w' := F_any c a w
/-- The first that is out of range. -/
theorem first_bad {a b c : Int} (h : ¬ (inL a ∧ inL b ∧ inL c)) : ∃ k : Nat, k < 3 ∧ (∀ j, j < k → inL ([a, b, c].getD j 0)) ∧ ¬ inL ([a, b, c].getD k 0) ∧ nw 1000000000 0 [a, b, c] = (3, (k : Int)) := by
  have ib : ∀ x, inB 1000000000 x = true ↔ inL x := fun x => by simp [inB, inL]
  by_cases ha : inL a
  · by_cases hb : inL b
    · by_cases hc : inL c
      · exact absurd ⟨ha, hb, hc⟩ h
      · refine ⟨2, by omega, fun j hj => ?_, hc, ?_⟩
        · match j, hj with
          | 0, _ => exact ha
          | 1, _ => exact hb
        · rw [nw, if_pos ((ib a).2 ha), nw, if_pos ((ib b).2 hb), nw, if_neg (fun e => hc ((ib c).1 e))]; try rfl
    · refine ⟨1, by omega, fun j hj => ?_, hb, ?_⟩
      · match j, hj with
        | 0, _ => exact ha
      · rw [nw, if_pos ((ib a).2 ha), nw, if_neg (fun e => hb ((ib b).1 e))]; try rfl
  · refine ⟨0, by omega, fun j hj => by omega, ha, ?_⟩
    rw [nw, if_neg (fun e => ha ((ib a).1 e))]; try rfl
theorem three_at {a b c : Int} {j : Nat} (h : j < 3) : ([.int .i64 a, .int .i64 b, .int .i64 c] : List Value)[j]? = some (.int .i64 ([a, b, c].getD j 0)) := by
  match j, h with
  | 0, _ => rfl
  | 1, _ => rfl
  | 2, _ => rfl

set_option maxRecDepth 100000 in
set_option maxHeartbeats 8000000 in
theorem ln_range (a b c : Int) (k : Nat) (w : World) (hk : k < 3) (hg : ∀ j, j < k → inL ([a, b, c].getD j 0)) (hb : ¬ inL ([a, b, c].getD k 0)) (hn : nw 1000000000 0 [a, b, c] = (3, (k : Int))) :
    Calls Try.prog 3 #[.int .i64 a, .int .i64 b, .int .i64 c] w fun e w' => e = .returned (.bool true) ∧ Below w.heap.size w w' := by
  have HLn : Hid (∀ w, Calls Try.prog 6 #[.int .i64 a, .int .i64 b, .int .i64 c] w fun e w' => e = .returned (LnV 0 0 3 k) ∧ Below w.heap.size w w') := fun w => Linear_range a b c 3 k w hn (by decide)
  have HG : Hid (∀ j, j < k → inL ([a, b, c].getD j 0)) := hg
  have HBd : Hid (¬ inL ([a, b, c].getD k 0)) := hb
  clear hg hb hn
  go_enter Try.func3, Try.ntmps3
  go_wp2_with fail
  refine (HLn.out _).mono ?_
  rintro e w1 ⟨rfl, k1⟩
  go_wp2
  obtain ⟨W3, hW3⟩ : ∃ W, W = ((w1.alloc (.cells #[.int .i64 3, .int .i64 (k : Int)] 23)).alloc (.cells #[.int .i64 a, .int .i64 b, .int .i64 c] 3)).alloc (.cells #[.int .i64 0, .int .i64 0] 23) := ⟨_, rfl⟩
  have HB3 : Hid (Lb w W3 w1.heap.size (w1.heap.size + 1) (w1.heap.size + 1 + 1) a b c 3 k 0 0) := by show Lb _ _ _ _ _ _ _ _ _ _ _ _; rw [hW3]; exact lb_new a b c 3 k ((k1))
  rw [← hW3]
  clear hW3 k1
  go_loopg [12] 4 (fun gk iv wx => ∃ i : Nat, iv = .int .i64 i ∧ Hid (gk = 4 - i ∧ ((i ≤ k ∧ Lb w wx w1.heap.size (w1.heap.size + 1) (w1.heap.size + 1 + 1) a b c 3 k 0 0) ∨ (i = k + 1 ∧ Lb w wx w1.heap.size (w1.heap.size + 1) (w1.heap.size + 1 + 1) a b c 3 k 3 k))))
  case atStart => exact ⟨0, rfl, rfl, .inl ⟨Nat.zero_le _, HB3.out⟩⟩
  case round =>
    clear HB3
    obtain ⟨i, rfl, HR⟩ := hrel
    obtain ⟨h1, h2⟩ := HR.out
    have HK : Hid (gk = 4 - i) := h1
    clear HR h1
    rcases h2 with ⟨h2, h3⟩ | ⟨rfl, h3⟩
    · have HB : Hid (Lb w wr w1.heap.size (w1.heap.size + 1) (w1.heap.size + 1 + 1) a b c 3 k 0 0) := h3
      obtain ⟨v0, v1, v2, v3, v4⟩ := h3.v
      have c0 : wr.cell? ⟨w1.heap.size + 1, i, none⟩ = some (.int .i64 ([a, b, c].getD i 0)) := by rw [h3.l.cell]; exact three_at (by omega)
      obtain ⟨x, ex⟩ : ∃ x, x = [a, b, c].getD i 0 := ⟨_, rfl⟩
      rw [← ex] at c0
      have ti : decide ((i : Int) < 3) = true := decide_eq_true (by omega)
      have hi3 : i < 3 := by omega
      by_cases hik : i < k
      · have hx := HG.out i hik
        rw [← ex] at hx
        unfold inL at hx
        have t1 : decide (1000000000 < x) = false := decide_eq_false (by omega)
        have t2 : decide (x < -1000000000) = false := decide_eq_false (by omega)
        clear h3 ex hx
        go_wp2
        go_roundg (4 - (i + 1))
        case rel => exact ⟨i + 1, by go_num, rfl, .inl ⟨by omega, HB.out⟩⟩
        case measure => have := HK.out; omega
      · obtain rfl : i = k := by omega
        have hx := HBd.out
        rw [← ex] at hx
        unfold inL at hx
        have HF : Hid (∀ w, Calls Try.prog 7 #[.int .i64 3, .int .i64 (i : Int)] w fun e w' => e = .returned (.agg #[.int .i64 3, .int .i64 (i : Int)]) ∧ Below w.heap.size w w') := fun w => refF_b 3 i w
        by_cases hx1 : 1000000000 < x
        · have t1 : decide (1000000000 < x) = true := decide_eq_true hx1
          clear h3 ex hx
          go_wp2_with fail
          refine (HF.out _).mono ?_
          rintro e w5 ⟨rfl, k5⟩
          have HB5 := HB.out.below k5
          have HB6 : Hid (Lb w ((w5.setCell ⟨w1.heap.size + 1 + 1, 0, none⟩ (.int .i64 3)).setCell ⟨w1.heap.size + 1 + 1, 1, none⟩ (.int .i64 (i : Int))) w1.heap.size (w1.heap.size + 1) (w1.heap.size + 1 + 1) a b c 3 i 3 i) := HB5.set 3 i
          obtain ⟨u0, u1, u2, u3, u4⟩ := HB5.v
          clear HB5 k5 v0 v1 v2 v3 v4 c0
          go_wp2
          go_roundg (4 - (i + 1))
          case rel => exact ⟨i + 1, by go_num, rfl, .inr ⟨rfl, HB6.out⟩⟩
          case measure => have := HK.out; omega
        · have t1 : decide (1000000000 < x) = false := decide_eq_false hx1
          have t2 : decide (x < -1000000000) = true := decide_eq_true (by omega)
          clear h3 ex hx hx1
          go_wp2_with fail
          refine (HF.out _).mono ?_
          rintro e w5 ⟨rfl, k5⟩
          have HB5 := HB.out.below k5
          have HB6 : Hid (Lb w ((w5.setCell ⟨w1.heap.size + 1 + 1, 0, none⟩ (.int .i64 3)).setCell ⟨w1.heap.size + 1 + 1, 1, none⟩ (.int .i64 (i : Int))) w1.heap.size (w1.heap.size + 1) (w1.heap.size + 1 + 1) a b c 3 i 3 i) := HB5.set 3 i
          obtain ⟨u0, u1, u2, u3, u4⟩ := HB5.v
          clear HB5 k5 v0 v1 v2 v3 v4 c0
          go_wp2
          go_roundg (4 - (i + 1))
          case rel => exact ⟨i + 1, by go_num, rfl, .inr ⟨rfl, HB6.out⟩⟩
          case measure => have := HK.out; omega
    · have HBX : Hid (Lb w wr w1.heap.size (w1.heap.size + 1) (w1.heap.size + 1 + 1) a b c 3 k 3 k) := h3
      obtain ⟨v0, v1, v2, v3, v4⟩ := h3.v
      clear h3
      by_cases hk2 : k + 1 < 3
      · have ti : decide (((k + 1 : Nat) : Int) < 3) = true := decide_eq_true (by omega)
        go_wp2_with fail
        refine (equationBegun_any _).mono ?_
        rintro e w9 ⟨rfl, k9⟩
        have HB9 := HBX.out.below k9
        obtain ⟨f0, f1, f2, f3, f4⟩ := HB9.f
        obtain ⟨g0, g1, g2, g3, g4⟩ := HB9.v
        have HK9 : Hid (Below w.heap.size w w9) := HB9.k
        clear HB9 k9
        go_wp2
        go_ret
        exact ⟨rfl, HK9.out⟩
      · have ti : decide (((k + 1 : Nat) : Int) < 3) = false := decide_eq_false (by omega)
        go_wp2_with fail
        refine (equationBegun_any _).mono ?_
        rintro e w9 ⟨rfl, k9⟩
        have HB9 := HBX.out.below k9
        obtain ⟨f0, f1, f2, f3, f4⟩ := HB9.f
        obtain ⟨g0, g1, g2, g3, g4⟩ := HB9.v
        have HK9 : Hid (Below w.heap.size w w9) := HB9.k
        clear HB9 k9
        go_wp2
        go_ret
        exact ⟨rfl, HK9.out⟩

set_option maxRecDepth 100000 in
set_option maxHeartbeats 8000000 in
theorem ln_zero (a b c : Int) (w : World) (ha : inL a) (hb : inL b) (hc : inL c) (h0 : b = 0) :
    Calls Try.prog 3 #[.int .i64 a, .int .i64 b, .int .i64 c] w fun e w' => e = .returned (.bool true) ∧ Below w.heap.size w w' := by
  have HG : Hid (∀ i, i < 3 → inL ([a, b, c].getD i 0)) := fun i hi => by
    match i, hi with
    | 0, _ => exact ha
    | 1, _ => exact hb
    | 2, _ => exact hc
  have HLn : Hid (∀ w, Calls Try.prog 6 #[.int .i64 a, .int .i64 b, .int .i64 c] w fun e w' => e = .returned (LnV 0 0 4 1) ∧ Below w.heap.size w w') := fun w => by rw [h0]; exact Linear_zero a c w ha hc
  have tb : (b == 0) = true := beq_iff_eq.2 h0
  have HZ0 : Hid (b = 0) := h0
  clear ha hb hc h0
  go_enter Try.func3, Try.ntmps3
  go_wp2_with fail
  refine (HLn.out _).mono ?_
  rintro e w1 ⟨rfl, k1⟩
  go_wp2
  obtain ⟨W3, hW3⟩ : ∃ W, W = ((w1.alloc (.cells #[.int .i64 4, .int .i64 1] 23)).alloc (.cells #[.int .i64 a, .int .i64 b, .int .i64 c] 3)).alloc (.cells #[.int .i64 0, .int .i64 0] 23) := ⟨_, rfl⟩
  have HB3 : Hid (Lb w W3 w1.heap.size (w1.heap.size + 1) (w1.heap.size + 1 + 1) a b c 4 1 0 0) := by show Lb _ _ _ _ _ _ _ _ _ _ _ _; rw [hW3]; exact lb_new a b c 4 1 k1
  rw [← hW3]
  clear hW3 k1
  go_loopg [12] 3 (fun gk iv wx => ∃ i : Nat, iv = .int .i64 i ∧ Hid (gk = 3 - i ∧ i ≤ 3 ∧ Lb w wx w1.heap.size (w1.heap.size + 1) (w1.heap.size + 1 + 1) a b c 4 1 0 0))
  case atStart => exact ⟨0, rfl, rfl, by omega, HB3.out⟩
  case round =>
    clear HB3
    obtain ⟨i, rfl, HR⟩ := hrel
    obtain ⟨h1, h2, h3⟩ := HR.out
    have HK : Hid (gk = 3 - i) := h1
    have HB : Hid (Lb w wr w1.heap.size (w1.heap.size + 1) (w1.heap.size + 1 + 1) a b c 4 1 0 0) := h3
    obtain ⟨v0, v1, v2, v3, v4⟩ := h3.v
    by_cases hi : i < 3
    · have c0 : wr.cell? ⟨w1.heap.size + 1, i, none⟩ = some (.int .i64 ([a, b, c].getD i 0)) := by rw [h3.l.cell]; exact three_at hi
      have hx := HG.out i hi
      obtain ⟨x, ex⟩ : ∃ x, x = [a, b, c].getD i 0 := ⟨_, rfl⟩
      rw [← ex] at c0 hx
      unfold inL at hx
      have t1 : decide (1000000000 < x) = false := decide_eq_false (by omega)
      have t2 : decide (x < -1000000000) = false := decide_eq_false (by omega)
      have ti : decide ((i : Int) < 3) = true := decide_eq_true (by omega)
      clear HR h1 h3 ex hx
      go_wp2
      go_roundg (3 - (i + 1))
      case rel => exact ⟨i + 1, by go_num, rfl, by omega, HB.out⟩
      case measure => have := HK.out; omega
    · have ti : decide ((i : Int) < 3) = false := decide_eq_false (by omega)
      clear HR h1 h3
      go_wp2_with fail
      refine (refF_b 4 1 _).mono ?_
      rintro e w5 ⟨rfl, k5⟩
      have HB5 := HB.out.below k5
      have HBX : Hid (Lb w ((w5.setCell ⟨w1.heap.size + 1 + 1, 0, none⟩ (.int .i64 4)).setCell ⟨w1.heap.size + 1 + 1, 1, none⟩ (.int .i64 1)) w1.heap.size (w1.heap.size + 1) (w1.heap.size + 1 + 1) a b c 4 1 4 1) := HB5.set 4 1
      obtain ⟨u0, u1, u2, u3, u4⟩ := HB5.v
      clear HB5 k5 v0 v1 v2 v3 v4
      go_wp2_with fail
      refine (equationBegun_any _).mono ?_
      rintro e w9 ⟨rfl, k9⟩
      have HB9 := HBX.out.below k9
      obtain ⟨f0, f1, f2, f3, f4⟩ := HB9.f
      obtain ⟨g0, g1, g2, g3, g4⟩ := HB9.v
      have HK9 : Hid (Below w.heap.size w w9) := HB9.k
      clear HB9 k9
      go_wp2
      go_ret
      exact ⟨rfl, HK9.out⟩

set_option maxRecDepth 100000 in
set_option maxHeartbeats 8000000 in
theorem ln_none (a b c : Int) (w : World) (ha : inL a) (hb : inL b) (hc : inL c) (h0 : b ≠ 0) (hn : c.tmod (Int.gcd a b : Int) ≠ 0) :
    Calls Try.prog 3 #[.int .i64 a, .int .i64 b, .int .i64 c] w fun e w' => e = .returned (.bool true) ∧ Below w.heap.size w w' := by
  have HG : Hid (∀ i, i < 3 → inL ([a, b, c].getD i 0)) := fun i hi => by
    match i, hi with
    | 0, _ => exact ha
    | 1, _ => exact hb
    | 2, _ => exact hc
  have hgl := gcd_L (a := a) hb h0
  have HGc : Hid (∀ w, Calls Try.prog 8 #[.int .i64 a, .int .i64 b] w fun e w' => e = .returned (.int .i64 (Int.gcd a b : Int)) ∧ w' = w) := fun w => refGcd_nat a.natAbs b.natAbs w (by unfold inL at ha; omega) (by unfold inL at hb; omega) a b rfl rfl
  have tb : (b == 0) = false := beq_eq_false_iff_ne.2 h0
  have HLn : Hid (∀ w, Calls Try.prog 6 #[.int .i64 a, .int .i64 b, .int .i64 c] w fun e w' => e = .returned (LnV 0 0 5 0) ∧ Below w.heap.size w w') := fun w => Linear_none a b c w ha hb hc h0 hn
  obtain ⟨G, hG⟩ : ∃ G, G = Int.gcd a b := ⟨_, rfl⟩
  rw [← hG] at HGc hgl hn
  have tg : ((G : Int) == 0) = false := beq_eq_false_iff_ne.2 (by omega)
  have tn : (c.tmod (G : Int) != 0) = true := bne_iff_ne.2 hn
  obtain ⟨T, hT⟩ : ∃ T, c.tmod (G : Int) = T := ⟨_, rfl⟩
  rw [hT] at tn
  clear ha hb hc h0 hn hG
  go_enter Try.func3, Try.ntmps3
  go_wp2_with fail
  refine (HLn.out _).mono ?_
  rintro e w1 ⟨rfl, k1⟩
  go_wp2
  obtain ⟨W3, hW3⟩ : ∃ W, W = ((w1.alloc (.cells #[.int .i64 5, .int .i64 0] 23)).alloc (.cells #[.int .i64 a, .int .i64 b, .int .i64 c] 3)).alloc (.cells #[.int .i64 0, .int .i64 0] 23) := ⟨_, rfl⟩
  have HB3 : Hid (Lb w W3 w1.heap.size (w1.heap.size + 1) (w1.heap.size + 1 + 1) a b c 5 0 0 0) := by show Lb _ _ _ _ _ _ _ _ _ _ _ _; rw [hW3]; exact lb_new a b c 5 0 k1
  rw [← hW3]
  clear hW3 k1
  go_loopg [12] 3 (fun gk iv wx => ∃ i : Nat, iv = .int .i64 i ∧ Hid (gk = 3 - i ∧ i ≤ 3 ∧ Lb w wx w1.heap.size (w1.heap.size + 1) (w1.heap.size + 1 + 1) a b c 5 0 0 0))
  case atStart => exact ⟨0, rfl, rfl, by omega, HB3.out⟩
  case round =>
    clear HB3
    obtain ⟨i, rfl, HR⟩ := hrel
    obtain ⟨h1, h2, h3⟩ := HR.out
    have HK : Hid (gk = 3 - i) := h1
    have HB : Hid (Lb w wr w1.heap.size (w1.heap.size + 1) (w1.heap.size + 1 + 1) a b c 5 0 0 0) := h3
    obtain ⟨v0, v1, v2, v3, v4⟩ := h3.v
    by_cases hi : i < 3
    · have c0 : wr.cell? ⟨w1.heap.size + 1, i, none⟩ = some (.int .i64 ([a, b, c].getD i 0)) := by rw [h3.l.cell]; exact three_at hi
      have hx := HG.out i hi
      obtain ⟨x, ex⟩ : ∃ x, x = [a, b, c].getD i 0 := ⟨_, rfl⟩
      rw [← ex] at c0 hx
      unfold inL at hx
      have t1 : decide (1000000000 < x) = false := decide_eq_false (by omega)
      have t2 : decide (x < -1000000000) = false := decide_eq_false (by omega)
      have ti : decide ((i : Int) < 3) = true := decide_eq_true (by omega)
      clear HR h1 h3 ex hx
      go_wp2
      go_roundg (3 - (i + 1))
      case rel => exact ⟨i + 1, by go_num, rfl, by omega, HB.out⟩
      case measure => have := HK.out; omega
    · have ti : decide ((i : Int) < 3) = false := decide_eq_false (by omega)
      clear HR h1 h3
      go_wp2_with fail
      refine (HGc.out _).mono ?_
      rintro e w' ⟨rfl, hw'⟩
      rw [hw']
      clear hw' w'
      go_wp2_with fail
      refine (refF_b 5 0 _).mono ?_
      rintro e w5 ⟨rfl, k5⟩
      have HB5 := HB.out.below k5
      have HBX : Hid (Lb w ((w5.setCell ⟨w1.heap.size + 1 + 1, 0, none⟩ (.int .i64 5)).setCell ⟨w1.heap.size + 1 + 1, 1, none⟩ (.int .i64 0)) w1.heap.size (w1.heap.size + 1) (w1.heap.size + 1 + 1) a b c 5 0 5 0) := HB5.set 5 0
      obtain ⟨u0, u1, u2, u3, u4⟩ := HB5.v
      clear HB5 k5 v0 v1 v2 v3 v4
      go_wp2_with fail
      refine (equationBegun_any _).mono ?_
      rintro e w9 ⟨rfl, k9⟩
      have HB9 := HBX.out.below k9
      obtain ⟨f0, f1, f2, f3, f4⟩ := HB9.f
      obtain ⟨g0, g1, g2, g3, g4⟩ := HB9.v
      have HK9 : Hid (Below w.heap.size w w9) := HB9.k
      clear HB9 k9
      go_wp2
      go_ret
      exact ⟨rfl, HK9.out⟩

set_option maxRecDepth 100000 in
set_option maxHeartbeats 8000000 in
theorem ln_ok (a b c : Int) (w : World) (ha : inL a) (hb : inL b) (hc : inL c) (h0 : b ≠ 0) (hn : c.tmod (Int.gcd a b : Int) = 0) :
    Calls Try.prog 3 #[.int .i64 a, .int .i64 b, .int .i64 c] w fun e w' => e = .returned (.bool true) ∧ Below w.heap.size w w' := by
  have HG : Hid (∀ i, i < 3 → inL ([a, b, c].getD i 0)) := fun i hi => by
    match i, hi with
    | 0, _ => exact ha
    | 1, _ => exact hb
    | 2, _ => exact hc
  have hgl := gcd_L (a := a) hb h0
  have HGc : Hid (∀ w, Calls Try.prog 8 #[.int .i64 a, .int .i64 b] w fun e w' => e = .returned (.int .i64 (Int.gcd a b : Int)) ∧ w' = w) := fun w => refGcd_nat a.natAbs b.natAbs w (by unfold inL at ha; omega) (by unfold inL at hb; omega) a b rfl rfl
  have tb : (b == 0) = false := beq_eq_false_iff_ne.2 h0
  have HLn : Hid (∀ w, Calls Try.prog 6 #[.int .i64 a, .int .i64 b, .int .i64 c] w fun e w' => ∃ x y : Int, e = .returned (LnV x y 0 0) ∧ 0 ≤ x ∧ x < (b.natAbs / Int.gcd a b : Nat) ∧ a * x + b * y = c ∧ y.natAbs ≤ 2000000000000000000 ∧ Below w.heap.size w w') := fun w => Linear_ok a b c w ha hb hc h0 hn
  have HSz : Hid (∀ w, Calls Try.prog 10 #[.int .i64 b] w fun e w' => e = .returned (.int .i64 (b.natAbs : Int)) ∧ w' = w) := fun w => refSize_any b w (by unfold inL at hb; omega) (by unfold inL at hb; omega)
  obtain ⟨G, hG⟩ : ∃ G, G = Int.gcd a b := ⟨_, rfl⟩
  rw [← hG] at HGc hgl hn HLn
  have tg : ((G : Int) == 0) = false := beq_eq_false_iff_ne.2 (by omega)
  have tn : (c.tmod (G : Int) != 0) = false := by rw [hn]; rfl
  have tz : c.tmod (G : Int) = 0 := hn
  obtain ⟨St, hSt⟩ : ∃ S, S = b.natAbs / G := ⟨_, rfl⟩
  have hq : (b.natAbs : Int).tdiv (G : Int) = (St : Int) := by rw [hSt]; exact (Int.ofNat_tdiv _ _).symm
  rw [← hSt] at HLn
  have hSt1 : St ≤ 1000000000 := by rw [hSt]; exact Nat.le_trans (Nat.div_le_self _ _) (by unfold inL at hb; omega)
  have HL : Hid (inL a ∧ inL b ∧ inL c) := ⟨ha, hb, hc⟩
  obtain ⟨NB, hNB⟩ : ∃ n, b.natAbs = n := ⟨_, rfl⟩
  rw [hNB] at hq HSz
  clear ha hb hc h0 hn hG hSt hNB
  go_enter Try.func3, Try.ntmps3
  go_wp2_with fail
  refine (HLn.out _).mono ?_
  rintro e w1 ⟨x, y, rfl, x0, x1, xy, yb, k1⟩
  have HXY : Hid (a * x + b * y = c ∧ y.natAbs ≤ 2000000000000000000 ∧ 0 ≤ x ∧ x < (St : Int)) := ⟨xy, yb, x0, x1⟩
  clear xy yb
  go_wp2
  obtain ⟨W3, hW3⟩ : ∃ W, W = ((w1.alloc (.cells #[.int .i64 0, .int .i64 0] 23)).alloc (.cells #[.int .i64 a, .int .i64 b, .int .i64 c] 3)).alloc (.cells #[.int .i64 0, .int .i64 0] 23) := ⟨_, rfl⟩
  have HB3 : Hid (Lb w W3 w1.heap.size (w1.heap.size + 1) (w1.heap.size + 1 + 1) a b c 0 0 0 0) := by show Lb _ _ _ _ _ _ _ _ _ _ _ _; rw [hW3]; exact lb_new a b c 0 0 k1
  rw [← hW3]
  clear hW3 k1
  go_loopg [12] 3 (fun gk iv wx => ∃ i : Nat, iv = .int .i64 i ∧ Hid (gk = 3 - i ∧ i ≤ 3 ∧ Lb w wx w1.heap.size (w1.heap.size + 1) (w1.heap.size + 1 + 1) a b c 0 0 0 0))
  case atStart => exact ⟨0, rfl, rfl, by omega, HB3.out⟩
  case round =>
    clear HB3
    obtain ⟨i, rfl, HR⟩ := hrel
    obtain ⟨h1, h2, h3⟩ := HR.out
    have HK : Hid (gk = 3 - i) := h1
    have HB : Hid (Lb w wr w1.heap.size (w1.heap.size + 1) (w1.heap.size + 1 + 1) a b c 0 0 0 0) := h3
    obtain ⟨v0, v1, v2, v3, v4⟩ := h3.v
    by_cases hi : i < 3
    · have c0 : wr.cell? ⟨w1.heap.size + 1, i, none⟩ = some (.int .i64 ([a, b, c].getD i 0)) := by rw [h3.l.cell]; exact three_at hi
      have hx := HG.out i hi
      obtain ⟨x, ex⟩ : ∃ x, x = [a, b, c].getD i 0 := ⟨_, rfl⟩
      rw [← ex] at c0 hx
      unfold inL at hx
      have t1 : decide (1000000000 < x) = false := decide_eq_false (by omega)
      have t2 : decide (x < -1000000000) = false := decide_eq_false (by omega)
      have ti : decide ((i : Int) < 3) = true := decide_eq_true (by omega)
      clear HR h1 h3 ex hx
      go_wp2
      go_roundg (3 - (i + 1))
      case rel => exact ⟨i + 1, by go_num, rfl, by omega, HB.out⟩
      case measure => have := HK.out; omega
    · have ti : decide ((i : Int) < 3) = false := decide_eq_false (by omega)
      clear HR h1 h3
      go_wp2_with fail
      refine (HGc.out _).mono ?_
      rintro e w' ⟨rfl, hw'⟩
      rw [hw']
      clear hw' w'
      have HBX : Hid (Lb w wr w1.heap.size (w1.heap.size + 1) (w1.heap.size + 1 + 1) a b c 0 0 0 0) := HB.out
      go_wp2_with fail
      refine (equationBegun_any _).mono ?_
      rintro e w9 ⟨rfl, k9⟩
      have HB9 := HBX.out.below k9
      obtain ⟨f0, f1, f2, f3, f4⟩ := HB9.f
      obtain ⟨g0, g1, g2, g3, g4⟩ := HB9.v
      have HK9 : Hid (Below w.heap.size w w9) := HB9.k
      clear HB9 k9
      go_wp2_with fail
      refine (HSz.out _).mono ?_
      rintro e w' ⟨rfl, hw'⟩
      rw [hw']
      clear hw' w'
      go_wp2_with fail
      refine (HGc.out _).mono ?_
      rintro e w' ⟨rfl, hw'⟩
      rw [hw']
      clear hw' w'
      go_wp2_with fail
      refine (Combined_any a x b y _ (by have := HL.out.1; unfold inL at this; omega) (by omega) (by have := HL.out.2.1; unfold inL at this; omega) (by have := HXY.out.2.1; omega)).mono ?_
      rintro e w6 ⟨z, rfl, gz, iz, kz⟩
      go_wp2_with fail
      refine (B_any c _ (by have := HL.out.2.2; unfold inL at this; omega) (by have := HL.out.2.2; unfold inL at this; omega)).mono ?_
      rintro e w7 ⟨yy, rfl, gy, iy, ky⟩
      have hc7 : cmpZ (a * x + b * y) c = 0 := by rw [HXY.out.1]; simp [cmpZ]
      have HCm : Hid (∃ q1 q2 : Nat, True) := ⟨0, 0, trivial⟩
      go_wp2_with fail
      have bnd1 : ∀ t : Int, t.natAbs ≤ 9223372036854775807 → t.natAbs < pw 2 := fun t ht => lt_pw2 (by omega) (by omega)
      have ha9 := HL.out.1
      have hb9 := HL.out.2.1
      have hc9 := HL.out.2.2
      have hy9 := HXY.out.2.1
      unfold inL at ha9 hb9 hc9
      refine (Cmp_any z yy (a * x + b * y) c 5 2 _ (iz.below ky (Nat.le_refl _)) iy (add_lt_pw (mul_lt_pw (lt_pw2 (by omega) (by omega)) (lt_pw2 (by omega) (by omega))) (mul_lt_pw (lt_pw2 (by omega) (by omega)) (lt_pw2 (by omega) (by omega)))) (lt_pw2 (by omega) (by omega)) (by omega) (by omega)).mono ?_
      rw [hc7]
      rintro e w8 ⟨rfl, nq, hw8⟩
      have HK8 : Hid (Below w.heap.size w w8) := by
        show Below _ _ _
        rw [hw8]
        exact below_drewN' ((HK9.out.trans (kz.mono HK9.out.size)).trans (ky.mono (Nat.le_trans HK9.out.size kz.size)))
      clear hw8 kz ky iz iy gz gy ha9 hb9 hc9 hy9 hc7 bnd1 HCm
      go_wp2
      go_ret
      exact ⟨rfl, HK8.out⟩

theorem equation_linear (a b c : Int) (w : World) :
    Calls Try.prog 3 #[.int .i64 a, .int .i64 b, .int .i64 c] w fun e w' => e = .returned (.bool true) ∧ Below w.heap.size w w' := by
  by_cases h : inL a ∧ inL b ∧ inL c
  · obtain ⟨ha, hb, hc⟩ := h
    by_cases h0 : b = 0
    · exact ln_zero a b c w ha hb hc h0
    · by_cases hn : c.tmod (Int.gcd a b : Int) = 0
      · exact ln_ok a b c w ha hb hc h0 hn
      · exact ln_none a b c w ha hb hc h0 hn
  · obtain ⟨k, h1, h2, h3, h4⟩ := first_bad h
    exact ln_range a b c k w h1 h2 h3 h4

end Go.Proofs.Ytcbepaionliepaa
