import Derived.Test.YtcnfhndejkngkaaGreatDoorRaP
import Derived.Test.YtcnfhndejkngkaaGreatDoorJpA
import Derived.Test.YtcnfhndejkngkaaGreatDoorBigN
import Derived.Test.YtcnfhndejkngkaaGreatDoorBigG
import Derived.Test.YtcnfhndejkngkaaGreatDoorJpK
import Derived.Deep.LoopGhost
import Derived.Test.YtcnfhndejkngkaaGreatDoorJpJ
section
set_option linter.unusedSimpArgs false
set_option linter.unusedVariables false
set_option maxRecDepth 100000
namespace Go.Proofs.YtcnfhndejkngkaaGreatDoor
open Go.RowKit
theorem SetFrac_any (bz ba oa bb ob : Nat) (x y : Int) (m : Nat) (w : World) (hz : RSlot w bz) (hx : IntAt w ba oa x) (hy : IntAt w bb ob y) (hy0 : y ≠ 0) (hx1 : x.natAbs < pw m) (hy1 : y.natAbs < pw m) (hm' : m ≤ 100000000) :
    Calls Tryz.prog 31 #[.pointer (some ⟨bz, 0, none⟩), .pointer (some ⟨ba, oa, none⟩), .pointer (some ⟨bb, ob, none⟩)] w fun e w' => e = .returned (.pointer (some ⟨bz, 0, none⟩)) ∧ ∃ P Q : Int, Rt w' bz P Q ∧ P * y = x * Q ∧ P.natAbs ≤ x.natAbs ∧ Q.natAbs ≤ y.natAbs ∧ Upd bz w w' := by
  rcases Int.lt_or_le 0 y with h1 | h1
  · refine (SetFrac_pos bz ba oa bb ob x y m w hz hx hy h1 hx1 hy1 hm').mono ?_
    rintro e w' ⟨h, P, Q, a1, a2, a3, a4, a5, a6, a7⟩
    exact ⟨h, P, Q, ⟨a1, a2, a4⟩, a3, a5, a6, a7⟩
  · refine (SetFrac_neg bz ba oa bb ob x y m w hz hx hy (by omega) hx1 hy1 hm').mono ?_
    rintro e w' ⟨h, P, Q, a1, a2, a3, a4, a5, a6, a7⟩
    exact ⟨h, P, Q, ⟨a1, a2, a4⟩, a3, a5, a6, a7⟩
end Go.Proofs.YtcnfhndejkngkaaGreatDoor
end

section
set_option linter.unusedSimpArgs false
set_option linter.unusedVariables false
set_option maxRecDepth 100000
namespace Go.Proofs.YtcnfhndejkngkaaGreatDoor
namespace ST
def nd : List Bool → Nat × Nat
  | [] => (1, 1)
  | true :: l => ((nd l).1 + (nd l).2, (nd l).2)
  | false :: l => ((nd l).1, (nd l).1 + (nd l).2)
theorem nd_pos : ∀ l, 0 < (nd l).1 ∧ 0 < (nd l).2
  | [] => by decide
  | true :: l => by have := nd_pos l; exact ⟨by show 0 < (nd l).1 + (nd l).2; omega, this.2⟩
  | false :: l => by have := nd_pos l; exact ⟨this.1, by show 0 < (nd l).1 + (nd l).2; omega⟩
structure Q where
  a : Nat
  b : Nat
  c : Nat
  d : Nat
def Q.step (s : Q) (r : Bool) : Q := if r then ⟨s.a + s.c, s.b + s.d, s.c, s.d⟩ else ⟨s.a, s.b, s.a + s.c, s.b + s.d⟩
def Q.run (s : Q) : List Bool → Q
  | [] => s
  | r :: l => (s.step r).run l
def q0 : Q := ⟨0, 1, 1, 0⟩
def pth : Nat → Nat → Nat → List Bool
  | 0, _, _ => []
  | f + 1, x, y => if x < y then false :: pth f x (y - x) else if y < x then true :: pth f (x - y) y else []
def path (x y : Nat) : List Bool := pth (x + y) x y
theorem nd_pth : ∀ (l : List Bool) (f : Nat), (nd l).1 + (nd l).2 ≤ f + 1 → pth f (nd l).1 (nd l).2 = l
  | [], f, h => by
    cases f with
    | zero => rfl
    | succ f => rfl
  | true :: l, f, h => by
    have hp := nd_pos l
    have h : (nd l).1 + (nd l).2 + (nd l).2 ≤ f + 1 := h
    cases f with
    | zero => omega
    | succ f =>
      show pth (f + 1) ((nd l).1 + (nd l).2) (nd l).2 = _
      unfold pth
      rw [if_neg (by omega), if_pos (by omega), show (nd l).1 + (nd l).2 - (nd l).2 = (nd l).1 by omega, nd_pth l f (by omega)]
  | false :: l, f, h => by
    have hp := nd_pos l
    have h : (nd l).1 + ((nd l).1 + (nd l).2) ≤ f + 1 := h
    cases f with
    | zero => omega
    | succ f =>
      show pth (f + 1) (nd l).1 ((nd l).1 + (nd l).2) = _
      unfold pth
      rw [if_pos (by omega), show (nd l).1 + (nd l).2 - (nd l).1 = (nd l).2 by omega, nd_pth l f (by omega)]
theorem nd_path (l : List Bool) : path (nd l).1 (nd l).2 = l := nd_pth l _ (by omega)
def qs : Nat → Nat → Nat → Nat
  | 0, _, _ => 0
  | f + 1, x, y => if y = 0 then 0 else x / y + qs f y (x % y)
theorem qs_fuel : ∀ f g x y, y < f → y < g → qs f x y = qs g x y
  | 0, _, _, _, h, _ => by omega
  | _ + 1, 0, _, _, _, h => by omega
  | f + 1, g + 1, x, y, h1, h2 => by
    unfold qs
    by_cases h : y = 0
    · rw [if_pos h, if_pos h]
    · rw [if_neg h, if_neg h]
      have := Nat.mod_lt x (show 0 < y by omega)
      rw [qs_fuel f g y (x % y) (by omega) (by omega)]
def qsum (x y : Nat) : Nat := qs (y + 1) x y
theorem qsum_step {x y : Nat} (hy : 0 < y) : qsum x y = x / y + qsum y (x % y) := by
  have := Nat.mod_lt x hy
  show qs (y + 1) x y = _
  unfold qs
  rw [if_neg (by omega)]
  unfold qsum
  rw [qs_fuel y (x % y + 1) y (x % y) (by omega) (by omega)]
theorem qsum_less {x y : Nat} (h : x < y) : qsum x y = qsum y x := by
  rw [qsum_step (by omega), Nat.div_eq_of_lt h, Nat.mod_eq_of_lt h, Nat.zero_add]
theorem qsum_more {x y : Nat} (hy : 0 < y) (h : y ≤ x) : qsum x y = qsum (x - y) y + 1 := by
  have h1 := Nat.sub_mul_mod (x := x) (k := 1) (n := y) (by omega)
  rw [Nat.mul_one] at h1
  have h2 := Nat.div_eq_sub_div (a := x) (b := y) hy h
  rw [qsum_step hy, qsum_step (x := x - y) hy, h1]
  omega
theorem pth_len : ∀ f x y, 0 < x → 0 < y → Nat.gcd x y = 1 → x + y ≤ f + 1 → (pth f x y).length + 1 = qsum x y
  | 0, x, y, hx, hy, _, hf => by omega
  | f + 1, x, y, hx, hy, hg, hf => by
    unfold pth
    by_cases h1 : x < y
    · rw [if_pos h1]
      have hg' : Nat.gcd x (y - x) = 1 := by
        rw [← hg]
        conv => rhs; rw [show y = y - x + x by omega]
        rw [Nat.gcd_add_self_right]
      have h := pth_len f x (y - x) hx (by omega) hg' (by omega)
      show (pth f x (y - x)).length + 1 + 1 = _
      rw [h, qsum_less h1, qsum_more hx (by omega)]
      rcases Nat.lt_trichotomy x (y - x) with h2 | h2 | h2
      · rw [qsum_less h2]
      · rw [← h2]
      · rw [← qsum_less h2]
    · rw [if_neg h1]
      by_cases h2 : y < x
      · rw [if_pos h2]
        have hg' : Nat.gcd (x - y) y = 1 := by
          rw [← hg]
          conv => rhs; rw [show x = x - y + y by omega]
          rw [Nat.gcd_add_self_left]
        have h := pth_len f (x - y) y (by omega) hy hg' (by omega)
        show (pth f (x - y) y).length + 1 + 1 = _
        rw [h]
        exact (qsum_more hy (by omega)).symm
      · rw [if_neg h2]
        have e : x = y := by omega
        subst e
        rw [Nat.gcd_self] at hg
        subst hg
        rfl
theorem path_len {x y : Nat} (hx : 0 < x) (hy : 0 < y) (hg : Nat.gcd x y = 1) : (path x y).length + 1 = qsum x y := pth_len _ x y hx hy hg (by omega)
end ST
end Go.Proofs.YtcnfhndejkngkaaGreatDoor
end

section
set_option linter.unusedSimpArgs false
set_option linter.unusedVariables false
set_option maxRecDepth 100000
namespace Go.Proofs.YtcnfhndejkngkaaGreatDoor
open Go.RowKit
structure Bk (w0 w : World) (B : Nat) (L : List (Nat × Int)) (F : List Nat) : Prop where
  bel : Below B w0 w
  le : B ≤ w.heap.size
  big : ∀ p ∈ L, BigAt w p.1 p.2
  fr : ∀ b ∈ F, Slot w b
end Go.Proofs.YtcnfhndejkngkaaGreatDoor
end

section
set_option linter.unusedSimpArgs false
set_option linter.unusedVariables false
set_option maxRecDepth 100000
namespace Go.Proofs.YtcnfhndejkngkaaGreatDoor
open Go.RowKit
structure Bo (w0 w : World) (B : Nat) (L O : List (Nat × Int)) (F : List Nat) : Prop where
  bel : Below B w0 w
  le : B ≤ w.heap.size
  big : ∀ p ∈ L, BigAt w p.1 p.2
  own : ∀ p ∈ O, BigAt w p.1 p.2
  fr : ∀ c ∈ F, Slot w c
  nd : (O.map Prod.fst ++ F).Nodup
  ap : ∀ c ∈ O.map Prod.fst ++ F, ∀ p ∈ L, p.1 ≠ c
  lo : ∀ c ∈ O.map Prod.fst ++ F, B ≤ c
end Go.Proofs.YtcnfhndejkngkaaGreatDoor
end

section
set_option linter.unusedSimpArgs false
set_option linter.unusedVariables false
set_option maxRecDepth 100000
namespace Go.Proofs.YtcnfhndejkngkaaGreatDoor
open Go.RowKit
structure Wk (w W : World) (pa pb pc pd : Nat) (s : ST.Q) : Prop where
  a : BigAt W pa (s.a : Int)
  b : BigAt W pb (s.b : Int)
  c : BigAt W pc (s.c : Int)
  d : BigAt W pd (s.d : Int)
  k : Below w.heap.size w W
  la : w.heap.size ≤ pa
  lb : w.heap.size ≤ pb
  n1 : pa ≠ pb
  n2 : pa ≠ pd
def near (l : List Bool) (j : Nat) : Prop := (ST.nd (l.take (j + 1))).1 ≤ 1000000000000000000 ∧ (ST.nd (l.take (j + 1))).2 ≤ 1000000000000000000
def pathS (l : List Bool) : ByteArray := ⟨(l.map fun r => if r then (82 : UInt8) else 76).toArray⟩
def WkOut (w w' : World) (l : List Bool) (e : Ending) : Prop :=
  ((∃ i, i < l.length ∧ (∀ j, j < i → near l j) ∧ ¬ near l i ∧ e = .returned (.tuple #[.pointer none, .pointer none, .int .i64 (i : Int)])) ∨
   ((∀ j, j < l.length → near l j) ∧ ∃ pa pb, e = .returned (.tuple #[.pointer (some ⟨pa, 0, none⟩), .pointer (some ⟨pb, 0, none⟩), .int .i64 (-1)]) ∧ BigAt w' pa ((ST.nd l).1 : Int) ∧ BigAt w' pb ((ST.nd l).2 : Int))) ∧ Below w.heap.size w w'
end Go.Proofs.YtcnfhndejkngkaaGreatDoor
end

section
set_option linter.unusedSimpArgs false
set_option linter.unusedVariables false
set_option maxRecDepth 100000
namespace Go.Proofs.YtcnfhndejkngkaaGreatDoor
open Go.RowKit
theorem Sv.newT (c d : Int) (w : World) (t : TypeId) : Sv w.heap.size c d (w.alloc (.cells #[.int .i64 c, .int .i64 d] t)) :=
  ⟨by simp, by simp, by simp, by simp, by simp⟩
set_option maxHeartbeats 1000000 in
theorem together_any (a b c d : Nat) (w : World) (h1 : a + c ≤ 9000000000000000000) (h2 : b + d ≤ 9000000000000000000) :
    Calls Tryz.prog 80 #[.agg #[.int .i64 (a : Int), .int .i64 (b : Int)], .agg #[.int .i64 (c : Int), .int .i64 (d : Int)]] w fun e w' => e = .returned (.agg #[.int .i64 ((a + c : Nat) : Int), .int .i64 ((b + d : Nat) : Int)]) ∧ Below w.heap.size w w' := by
  obtain ⟨u, hu⟩ : ∃ u, u = a + c := ⟨_, rfl⟩
  obtain ⟨v, hv⟩ : ∃ v, v = b + d := ⟨_, rfl⟩
  have eu : (a : Int) + (c : Int) = (u : Int) := by omega
  have ev : (b : Int) + (d : Int) = (v : Int) := by omega
  have wu : IntKind.i64.wrap (u : Int) = (u : Int) := by rw [IntKind.wrap_i64]; omega
  have wv : IntKind.i64.wrap (v : Int) = (v : Int) := by rw [IntKind.wrap_i64]; omega
  rw [← hu, ← hv]
  clear hu hv
  go_enter Tryz.func80, Tryz.ntmps80
  have HK : Hid (Below w.heap.size w ((((w.alloc (.cells #[.int .i64 (a : Int), .int .i64 (b : Int)] 23)).alloc (.cells #[.int .i64 (c : Int), .int .i64 (d : Int)] 23)).alloc (.cells #[.int .i64 (u : Int), .int .i64 (v : Int)] 23)))) := ((((Below.refl _ _).alloc (Nat.le_refl _) _).alloc (by simp) _).alloc (by simp; omega) _)
  go_wp2
  exact bodyPost_ret (v := .agg #[.int .i64 (u : Int), .int .i64 (v : Int)]) (by simp [results, Tryz.results80, go_sem]) rfl ⟨rfl, HK.out⟩
def WdOut (l : List Bool) (x y c d : Int) : Prop :=
  (∃ i, i < l.length ∧ (∀ j, j < i → near l j) ∧ ¬ near l i ∧ x = 0 ∧ y = 0 ∧ c = 9 ∧ d = (i : Int)) ∨ ((∀ j, j < l.length → near l j) ∧ x = ((ST.nd l).1 : Int) ∧ y = ((ST.nd l).2 : Int) ∧ c = 0 ∧ d = 0)
end Go.Proofs.YtcnfhndejkngkaaGreatDoor
end
