import Derived.Test.YtnkjadpmigpneaaGreatDoorJpA
section
set_option linter.unusedSimpArgs false
set_option linter.unusedVariables false
set_option maxRecDepth 100000
namespace Go.Proofs.YtnkjadpmigpneaaGreatDoor.DtM
def sm : Nat → (Nat → Int) → Int
  | 0, _ => 0
  | n + 1, f => sm n f + f n
def sgi (i : Nat) : Int := if i % 2 = 0 then 1 else -1
def mn (i : Nat) (a : Nat → Nat → Int) : Nat → Nat → Int := fun r c => a (if r < i then r else r + 1) (c + 1)
def det : Nat → (Nat → Nat → Int) → Int
  | 0, _ => 1
  | n + 1, a => sm (n + 1) (fun i => sgi i * a i 0 * det n (mn i a))
def rp (k : Nat) (v : Nat → Int) (a : Nat → Nat → Int) : Nat → Nat → Int := fun r c => if r = k then v c else a r c
def sw (k : Nat) (a : Nat → Nat → Int) : Nat → Nat → Int := fun r c => a (if r = k then k + 1 else if r = k + 1 then k else r) c
def dg (a : Nat → Nat → Int) : Nat → Int
  | 0 => 1
  | n + 1 => dg a n * a n n
end Go.Proofs.YtnkjadpmigpneaaGreatDoor.DtM
end

section
set_option linter.unusedSimpArgs false
set_option linter.unusedVariables false
set_option maxRecDepth 100000
namespace Go.Proofs.YtnkjadpmigpneaaGreatDoor.DtM
def fact : Nat → Nat
  | 0 => 1
  | n + 1 => (n + 1) * fact n
def pb (b : Nat → Nat) : Nat → Nat
  | 0 => 1
  | n + 1 => pb b n * b n
def mx (k : Nat) (F E : Nat → Nat → Int) (c : Nat → Nat) : Nat → Nat → Int := fun r j => if r < k then F r (c j) else E r (c j)
def RO (k : Nat) (F M : Nat → Nat → Int) : Prop := ∃ e : Int, (e = 1 ∨ e = -1) ∧ ∀ n E c, k ≤ n → det n (mx k F E c) = e * det n (mx k M E c)
def ins (at' : Nat) (v : Nat → Int) (F : Nat → Nat → Int) : Nat → Nat → Int := fun r => if r < at' then F r else if r = at' then v else F (r - 1)
structure He (k N : Nat) (F : Nat → Nat → Int) (c : Nat → Nat) : Prop where
  lt : ∀ r, r < k → c r < N
  inc : ∀ r s, r < s → s < k → c r < c s
  zero : ∀ r, r < k → ∀ j, j < c r → F r j = 0
  pos : ∀ r, r < k → 0 < F r (c r)
structure Hr (k N : Nat) (F : Nat → Nat → Int) (c : Nat → Nat) : Prop extends He k N F c where
  red : ∀ r s, r < s → s < k → 0 ≤ F r (c s) ∧ F r (c s) < F s (c s)
end Go.Proofs.YtnkjadpmigpneaaGreatDoor.DtM
end

section
set_option linter.unusedSimpArgs false
set_option linter.unusedVariables false
set_option maxRecDepth 100000
namespace Go.Proofs.YtnkjadpmigpneaaGreatDoor.DtM
def Rw (k : Nat) (F' F : Nat → Nat → Int) : Prop :=
  ∀ R : (Nat → Nat → Int) → Prop, (∀ G r s x, R G → r < k → s < k → r ≠ s → R (rp r (fun j => G r j + x * G s j) G)) → (∀ G r, R G → r < k → R (rp r (fun j => -G r j) G)) → (∀ G H, R G → (∀ r, r < k → ∀ j, H r j = G r j) → R H) → R F → R F'
def Eu (x y x' y' : Nat → Int) : Prop := ∀ R : (Nat → Int) → (Nat → Int) → Prop, (∀ a b t, R a b → R b (fun j => a j - t * b j)) → (∀ a b, R a b → R (fun j => -a j) b) → R x y → R x' y'
theorem fd_rest (x y : Int) (hy : y ≠ 0) : (x - x.fdiv y * y).natAbs < y.natAbs ∧ (0 ≤ y → 0 ≤ x - x.fdiv y * y) ∧ (y ≤ 0 → x - x.fdiv y * y ≤ 0) := by
  have e := Int.mul_fdiv_add_fmod x y
  have e2 : x - x.fdiv y * y = x.fmod y := by rw [Int.mul_comm]; omega
  rw [e2]
  rcases Int.lt_or_gt_of_ne hy with h | h
  · have h1 : (x.fmod y) = -((-x).fmod (-y)) := by
      have := Int.neg_fmod_neg (-x) (-y)
      rw [Int.neg_neg, Int.neg_neg] at this
      exact this
    have h2 := Int.fmod_nonneg_of_pos (-x) (show 0 < -y by omega)
    have h3 := Int.fmod_lt_of_pos (-x) (show 0 < -y by omega)
    rw [h1]; omega
  · have h2 := Int.fmod_nonneg_of_pos x h
    have h3 := Int.fmod_lt_of_pos x h
    omega
end Go.Proofs.YtnkjadpmigpneaaGreatDoor.DtM
end
