import Derived.Test.YtcnfhndejkngkaaGreatDoorJdC
import Derived.Test.YtcnfhndejkngkaaGreatDoorJdD
import Derived.Test.YtcnfhndejkngkaaGreatDoorJdA
section
/- The laws' examples fracBegun, out of what is asked of Path and Decimal. -/
set_option linter.unusedSimpArgs false
set_option linter.unusedVariables false
set_option maxRecDepth 100000
namespace Go.Proofs.YtcnfhndejkngkaaGreatDoor
open Go.RowKit

set_option maxHeartbeats 1000000 in
theorem fracBegun_of (w : World) (hP : ∀ W, Below w.heap.size w W → Calls Tryz.prog 15 #[.agg #[.int .i64 3, .int .i64 5]] W fun e w' => e = .returned (.tuple #[.string ⟨#[76, 82, 76]⟩, .agg #[.int .i64 0, .int .i64 0]]) ∧ Below W.heap.size W w')
    (hD : ∀ W, Below w.heap.size w W → Calls Tryz.prog 32 #[.agg #[.int .i64 1, .int .i64 6]] W fun e w' => e = .returned (.tuple #[.string ⟨#[48, 46, 49, 40, 54, 41]⟩, .agg #[.int .i64 0, .int .i64 0]]) ∧ Below W.heap.size W w') :
    Calls Tryz.prog 11 #[] w fun e w' => e = .returned (.bool true) ∧ Below w.heap.size w w' := by
  have HP : Hid _ := hP
  have HD : Hid _ := hD
  clear hP hD
  go_enter Tryz.func11, Tryz.ntmps11
  go_wp2_with fail
  refine (HP.out _ (Below.refl _ _)).mono ?_
  rintro e w1 ⟨rfl, k1⟩
  have C1 : Cl w1.heap.size [.int .i64 0, .int .i64 0] 25 (w1.alloc (.cells #[.int .i64 0, .int .i64 0] 25)) := Cl.new [.int .i64 0, .int .i64 0] _ _
  have HK : Hid (Below w.heap.size w (w1.alloc (.cells #[.int .i64 0, .int .i64 0] 25)) ∧ Cl w1.heap.size [.int .i64 0, .int .i64 0] 25 (w1.alloc (.cells #[.int .i64 0, .int .i64 0] 25))) := ⟨k1.alloc k1.size _, C1⟩
  have HS : Hid (w.heap.size ≤ w1.heap.size) := k1.size
  clear k1 HP C1
  obtain ⟨W1, hW1⟩ : ∃ W, W = w1.alloc (.cells #[.int .i64 0, .int .i64 0] 25) := ⟨_, rfl⟩
  rw [← hW1] at HK
  go_wp2_with fail
  rw [← hW1]
  refine (HD.out _ HK.out.1).mono ?_
  rintro e w2 ⟨rfl, k2⟩
  have C2 := HK.out.2.below k2
  have C3 := C2.alloc (.cells #[.int .i64 0, .int .i64 0] 25)
  have HK2 : Hid (Below w.heap.size w (w2.alloc (.cells #[.int .i64 0, .int .i64 0] 25))) := (HK.out.1.trans (k2.mono HK.out.1.size)).alloc (HK.out.1.trans (k2.mono HK.out.1.size)).size _
  have q0 := C2.cell 0
  have q1 := C2.cell 1
  simp at q0 q1
  have q2 := C2.lt
  clear C2 C3 k2 HD HK
  go_wp2
  go_ret
  exact ⟨rfl, HK2.out⟩
end Go.Proofs.YtcnfhndejkngkaaGreatDoor
end

section
/- Plain facts for frac.Path and frac.Node: Stern's and Brocot's tree. true is a step to the right. -/
set_option linter.unusedSimpArgs false
set_option linter.unusedVariables false
set_option maxRecDepth 100000
namespace Go.Proofs.YtcnfhndejkngkaaGreatDoor
namespace ST
/-- Where steps lead: Up, Down. -/
def nd : List Bool → Nat × Nat
  | [] => (1, 1)
  | true :: l => ((nd l).1 + (nd l).2, (nd l).2)
  | false :: l => ((nd l).1, (nd l).1 + (nd l).2)
theorem nd_pos : ∀ l, 0 < (nd l).1 ∧ 0 < (nd l).2
  | [] => by decide
  | true :: l => by have := nd_pos l; exact ⟨by show 0 < (nd l).1 + (nd l).2; omega, this.2⟩
  | false :: l => by have := nd_pos l; exact ⟨this.1, by show 0 < (nd l).1 + (nd l).2; omega⟩
theorem nd_gcd : ∀ l, Nat.gcd (nd l).1 (nd l).2 = 1
  | [] => by decide
  | true :: l => by
    have h := nd_gcd l
    show Nat.gcd ((nd l).1 + (nd l).2) (nd l).2 = 1
    rw [Nat.gcd_add_self_left]; exact h
  | false :: l => by
    have h := nd_gcd l
    show Nat.gcd (nd l).1 ((nd l).1 + (nd l).2) = 1
    rw [Nat.gcd_self_add_right]; exact h
/-- The four numbers that go down with the steps. -/
structure Q where
  a : Nat
  b : Nat
  c : Nat
  d : Nat
def Q.step (s : Q) (r : Bool) : Q := if r then ⟨s.a + s.c, s.b + s.d, s.c, s.d⟩ else ⟨s.a, s.b, s.a + s.c, s.b + s.d⟩
def Q.run (s : Q) : List Bool → Q
  | [] => s
  | r :: l => (s.step r).run l
theorem Q.run_app (s : Q) : ∀ l m, s.run (l ++ m) = (s.run l).run m
  | [], _ => rfl
  | r :: l, m => Q.run_app (s.step r) l m
theorem Q.run_nd : ∀ (l : List Bool) (s : Q), (s.run l).a + (s.run l).c = s.a * (nd l).2 + s.c * (nd l).1 ∧ (s.run l).b + (s.run l).d = s.b * (nd l).2 + s.d * (nd l).1
  | [], s => by show s.a + s.c = s.a * 1 + s.c * 1 ∧ s.b + s.d = s.b * 1 + s.d * 1; omega
  | true :: l, s => by
    have h := Q.run_nd l (s.step true)
    show ((s.step true).run l).a + ((s.step true).run l).c = s.a * (nd l).2 + s.c * ((nd l).1 + (nd l).2) ∧ ((s.step true).run l).b + ((s.step true).run l).d = s.b * (nd l).2 + s.d * ((nd l).1 + (nd l).2)
    rw [h.1, h.2]
    show (s.a + s.c) * (nd l).2 + s.c * (nd l).1 = _ ∧ (s.b + s.d) * (nd l).2 + s.d * (nd l).1 = _
    constructor <;> grind
  | false :: l, s => by
    have h := Q.run_nd l (s.step false)
    show ((s.step false).run l).a + ((s.step false).run l).c = s.a * ((nd l).1 + (nd l).2) + s.c * (nd l).1 ∧ ((s.step false).run l).b + ((s.step false).run l).d = s.b * ((nd l).1 + (nd l).2) + s.d * (nd l).1
    rw [h.1, h.2]
    show s.a * (nd l).2 + (s.a + s.c) * (nd l).1 = _ ∧ s.b * (nd l).2 + (s.b + s.d) * (nd l).1 = _
    constructor <;> grind
def q0 : Q := ⟨0, 1, 1, 0⟩
theorem run_q0 (l : List Bool) : (q0.run l).a + (q0.run l).c = (nd l).1 ∧ (q0.run l).b + (q0.run l).d = (nd l).2 := by
  have h := Q.run_nd l q0
  have e : q0.a = 0 ∧ q0.b = 1 ∧ q0.c = 1 ∧ q0.d = 0 := ⟨rfl, rfl, rfl, rfl⟩
  rw [e.1, e.2.1, e.2.2.1, e.2.2.2] at h
  rw [h.1, h.2]
  omega
/-- One step more. -/
theorem run_more (s : Q) (l : List Bool) (r : Bool) : s.run (l ++ [r]) = (s.run l).step r := by rw [Q.run_app]; rfl
/-- The numbers grow on the way. -/
theorem step_le (s : Q) (r : Bool) : s.a + s.c ≤ (s.step r).a + (s.step r).c ∧ s.b + s.d ≤ (s.step r).b + (s.step r).d := by
  unfold Q.step
  cases r
  · show s.a + s.c ≤ s.a + (s.a + s.c) ∧ s.b + s.d ≤ s.b + (s.b + s.d); omega
  · show s.a + s.c ≤ s.a + s.c + s.c ∧ s.b + s.d ≤ s.b + s.d + s.d; omega
theorem run_le (s : Q) : ∀ l, s.a + s.c ≤ (s.run l).a + (s.run l).c ∧ s.b + s.d ≤ (s.run l).b + (s.run l).d := by
  intro l
  induction l generalizing s with
  | nil => exact ⟨Nat.le_refl _, Nat.le_refl _⟩
  | cons r l ih =>
    have h1 := step_le s r
    have h2 := ih (s.step r)
    show s.a + s.c ≤ ((s.step r).run l).a + ((s.step r).run l).c ∧ s.b + s.d ≤ ((s.step r).run l).b + ((s.step r).run l).d
    omega
theorem nd_take (l : List Bool) (i : Nat) : (nd (l.take i)).1 ≤ (nd l).1 ∧ (nd (l.take i)).2 ≤ (nd l).2 := by
  have h1 := run_q0 (l.take i)
  have h2 := run_q0 l
  have h3 := run_le (q0.run (l.take i)) (l.drop i)
  rw [← Q.run_app, List.take_append_drop] at h3
  omega
/-- How a fraction is reached. -/
def pth : Nat → Nat → Nat → List Bool
  | 0, _, _ => []
  | f + 1, x, y => if x < y then false :: pth f x (y - x) else if y < x then true :: pth f (x - y) y else []
def path (x y : Nat) : List Bool := pth (x + y) x y
theorem pth_nd : ∀ f x y, 0 < x → 0 < y → Nat.gcd x y = 1 → x + y ≤ f + 1 → nd (pth f x y) = (x, y)
  | 0, x, y, hx, hy, _, hf => by omega
  | f + 1, x, y, hx, hy, hg, hf => by
    unfold pth
    by_cases h1 : x < y
    · rw [if_pos h1]
      have hg' : Nat.gcd x (y - x) = 1 := by
        rw [← hg]
        conv => rhs; rw [show y = y - x + x by omega]
        rw [Nat.gcd_add_self_right]
      have h := pth_nd f x (y - x) hx (by omega) hg' (by omega)
      show ((nd (pth f x (y - x))).1, (nd (pth f x (y - x))).1 + (nd (pth f x (y - x))).2) = (x, y)
      rw [h]
      show (x, x + (y - x)) = (x, y)
      rw [show x + (y - x) = y by omega]
    · rw [if_neg h1]
      by_cases h2 : y < x
      · rw [if_pos h2]
        have hg' : Nat.gcd (x - y) y = 1 := by
          rw [← hg]
          conv => rhs; rw [show x = x - y + y by omega]
          rw [Nat.gcd_add_self_left]
        have h := pth_nd f (x - y) y (by omega) hy hg' (by omega)
        show ((nd (pth f (x - y) y)).1 + (nd (pth f (x - y) y)).2, (nd (pth f (x - y) y)).2) = (x, y)
        rw [h]
        show (x - y + y, y) = (x, y)
        rw [show x - y + y = x by omega]
      · rw [if_neg h2]
        have e : x = y := by omega
        subst e
        rw [Nat.gcd_self] at hg
        subst hg
        rfl
theorem path_nd {x y : Nat} (hx : 0 < x) (hy : 0 < y) (hg : Nat.gcd x y = 1) : nd (path x y) = (x, y) := pth_nd _ x y hx hy hg (by omega)
/-- Each fraction has just one path. -/
theorem nd_pth : ∀ (l : List Bool) (f : Nat), (nd l).1 + (nd l).2 ≤ f + 1 → pth f (nd l).1 (nd l).2 = l
  | [], f, h => by
    cases f with
    | zero => rfl
    | succ f => rfl
  | true :: l, f, h => by
    have hp := nd_pos l
    have h : (nd l).1 + (nd l).2 + (nd l).2 ≤ f + 1 := h
    cases f with
    | zero => omega
    | succ f =>
      show pth (f + 1) ((nd l).1 + (nd l).2) (nd l).2 = _
      unfold pth
      rw [if_neg (by omega), if_pos (by omega), show (nd l).1 + (nd l).2 - (nd l).2 = (nd l).1 by omega, nd_pth l f (by omega)]
  | false :: l, f, h => by
    have hp := nd_pos l
    have h : (nd l).1 + ((nd l).1 + (nd l).2) ≤ f + 1 := h
    cases f with
    | zero => omega
    | succ f =>
      show pth (f + 1) (nd l).1 ((nd l).1 + (nd l).2) = _
      unfold pth
      rw [if_pos (by omega), show (nd l).1 + (nd l).2 - (nd l).1 = (nd l).2 by omega, nd_pth l f (by omega)]
theorem nd_path (l : List Bool) : path (nd l).1 (nd l).2 = l := nd_pth l _ (by omega)
/-- How many steps: Euclid's quotients. -/
def qs : Nat → Nat → Nat → Nat
  | 0, _, _ => 0
  | f + 1, x, y => if y = 0 then 0 else x / y + qs f y (x % y)
theorem qs_fuel : ∀ f g x y, y < f → y < g → qs f x y = qs g x y
  | 0, _, _, _, h, _ => by omega
  | _ + 1, 0, _, _, _, h => by omega
  | f + 1, g + 1, x, y, h1, h2 => by
    unfold qs
    by_cases h : y = 0
    · rw [if_pos h, if_pos h]
    · rw [if_neg h, if_neg h]
      have := Nat.mod_lt x (show 0 < y by omega)
      rw [qs_fuel f g y (x % y) (by omega) (by omega)]
def qsum (x y : Nat) : Nat := qs (y + 1) x y
theorem qsum_zero (x : Nat) : qsum x 0 = 0 := by unfold qsum qs; rw [if_pos rfl]
theorem qsum_step {x y : Nat} (hy : 0 < y) : qsum x y = x / y + qsum y (x % y) := by
  have := Nat.mod_lt x hy
  show qs (y + 1) x y = _
  unfold qs
  rw [if_neg (by omega)]
  unfold qsum
  rw [qs_fuel y (x % y + 1) y (x % y) (by omega) (by omega)]
theorem qsum_less {x y : Nat} (h : x < y) : qsum x y = qsum y x := by
  rw [qsum_step (by omega), Nat.div_eq_of_lt h, Nat.mod_eq_of_lt h, Nat.zero_add]
theorem qsum_more {x y : Nat} (hy : 0 < y) (h : y ≤ x) : qsum x y = qsum (x - y) y + 1 := by
  have h1 := Nat.sub_mul_mod (x := x) (k := 1) (n := y) (by omega)
  rw [Nat.mul_one] at h1
  have h2 := Nat.div_eq_sub_div (a := x) (b := y) hy h
  rw [qsum_step hy, qsum_step (x := x - y) hy, h1]
  omega
/-- There are as many steps as Euclid's quotients come to, less one. -/
theorem pth_len : ∀ f x y, 0 < x → 0 < y → Nat.gcd x y = 1 → x + y ≤ f + 1 → (pth f x y).length + 1 = qsum x y
  | 0, x, y, hx, hy, _, hf => by omega
  | f + 1, x, y, hx, hy, hg, hf => by
    unfold pth
    by_cases h1 : x < y
    · rw [if_pos h1]
      have hg' : Nat.gcd x (y - x) = 1 := by
        rw [← hg]
        conv => rhs; rw [show y = y - x + x by omega]
        rw [Nat.gcd_add_self_right]
      have h := pth_len f x (y - x) hx (by omega) hg' (by omega)
      show (pth f x (y - x)).length + 1 + 1 = _
      rw [h, qsum_less h1, qsum_more hx (by omega)]
      rcases Nat.lt_trichotomy x (y - x) with h2 | h2 | h2
      · rw [qsum_less h2]
      · rw [← h2]
      · rw [← qsum_less h2]
    · rw [if_neg h1]
      by_cases h2 : y < x
      · rw [if_pos h2]
        have hg' : Nat.gcd (x - y) y = 1 := by
          rw [← hg]
          conv => rhs; rw [show x = x - y + y by omega]
          rw [Nat.gcd_add_self_left]
        have h := pth_len f (x - y) y (by omega) hy hg' (by omega)
        show (pth f (x - y) y).length + 1 + 1 = _
        rw [h]
        exact (qsum_more hy (by omega)).symm
      · rw [if_neg h2]
        have e : x = y := by omega
        subst e
        rw [Nat.gcd_self] at hg
        subst hg
        rfl
theorem path_len {x y : Nat} (hx : 0 < x) (hy : 0 < y) (hg : Nat.gcd x y = 1) : (path x y).length + 1 = qsum x y := pth_len _ x y hx hy hg (by omega)
end ST
end Go.Proofs.YtcnfhndejkngkaaGreatDoor
end
