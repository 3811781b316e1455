import Derived.Test.YtnkjadpmigpneaaGreatDoorJpT
import Derived.Test.YtnkjadpmigpneaaGreatDoorRegionG
import Derived.Test.YtnkjadpmigpneaaGreatDoorRegionM
import Derived.Test.YtnkjadpmigpneaaGreatDoorBigA
import Derived.Test.YtnkjadpmigpneaaGreatDoorBnP
import Derived.Test.YtnkjadpmigpneaaGreatDoorJpE
section
set_option linter.unusedSimpArgs false
set_option linter.unusedVariables false
set_option maxRecDepth 100000
namespace Go.Proofs.YtnkjadpmigpneaaGreatDoor
open Go.RowKit
end Go.Proofs.YtnkjadpmigpneaaGreatDoor
end

section
set_option linter.unusedSimpArgs false
set_option linter.unusedVariables false
set_option maxRecDepth 100000
namespace Go.Proofs.YtnkjadpmigpneaaGreatDoor
open Go.RowKit
def RatAt (w : World) (b : Nat) (p q : Int) : Prop := ∃ s t, Cl b [.bool (decide (p < 0)), s, .bool (decide (q < 0)), t] 39 w ∧ NS w s p.natAbs ∧ NS w t q.natAbs
end Go.Proofs.YtnkjadpmigpneaaGreatDoor
end

section
set_option linter.unusedSimpArgs false
set_option linter.unusedVariables false
set_option maxRecDepth 100000
namespace Go.Proofs.YtnkjadpmigpneaaGreatDoor
open Go.RowKit
def CmR (G m : Nat) (w : World) (B : Nat) (av bv : Value) (wx : World) : Prop := ∃ A, NS wx av A ∧ NS wx bv B ∧ A < pw m ∧ B < pw m ∧ Nat.gcd A B = G ∧ 0 < A ∧ Below w.heap.size w wx
end Go.Proofs.YtnkjadpmigpneaaGreatDoor
end

section
set_option linter.unusedSimpArgs false
set_option linter.unusedVariables false
set_option maxRecDepth 100000
namespace Go.Proofs.YtnkjadpmigpneaaGreatDoor
open Go.RowKit
end Go.Proofs.YtnkjadpmigpneaaGreatDoor
end

section
set_option linter.unusedSimpArgs false
set_option linter.unusedVariables false
set_option maxRecDepth 100000
namespace Go.Proofs.YtnkjadpmigpneaaGreatDoor
open Go.RowKit
end Go.Proofs.YtnkjadpmigpneaaGreatDoor
end

section
set_option linter.unusedSimpArgs false
set_option linter.unusedVariables false
set_option maxRecDepth 100000
namespace Go.Proofs.YtnkjadpmigpneaaGreatDoor
open Go.RowKit
end Go.Proofs.YtnkjadpmigpneaaGreatDoor
end

section
set_option linter.unusedSimpArgs false
set_option linter.unusedVariables false
set_option maxRecDepth 100000
namespace Go.Proofs.YtnkjadpmigpneaaGreatDoor
open Go.RowKit
def RSlot (w : World) (b : Nat) : Prop := ∃ x0 x1 x2 x3, Cl b [x0, x1, x2, x3] 39 w
end Go.Proofs.YtnkjadpmigpneaaGreatDoor
end

section
set_option linter.unusedSimpArgs false
set_option linter.unusedVariables false
set_option maxRecDepth 100000
namespace Go.Proofs.YtnkjadpmigpneaaGreatDoor
open Go.RowKit
structure Rt (w : World) (b : Nat) (P Q : Int) : Prop where
  at' : RatAt w b P Q
  pos : 0 < Q
  low : Nat.gcd P.natAbs Q.natAbs = 1
theorem low_uniq {P Q p q : Int} (hQ : 0 < Q) (hq : 0 < q) (h : P * q = p * Q) (h1 : Nat.gcd P.natAbs Q.natAbs = 1) (h2 : Nat.gcd p.natAbs q.natAbs = 1) : P = p ∧ Q = q := by
  have hd1 : Q.natAbs ∣ q.natAbs := by
    refine Nat.Coprime.dvd_of_dvd_mul_left (show Nat.Coprime Q.natAbs P.natAbs by rw [Nat.Coprime, Nat.gcd_comm]; exact h1) ?_
    refine ⟨p.natAbs, ?_⟩
    rw [← Int.natAbs_mul, h, Int.natAbs_mul, Nat.mul_comm]
  have hd2 : q.natAbs ∣ Q.natAbs := by
    refine Nat.Coprime.dvd_of_dvd_mul_left (show Nat.Coprime q.natAbs p.natAbs by rw [Nat.Coprime, Nat.gcd_comm]; exact h2) ?_
    refine ⟨P.natAbs, ?_⟩
    rw [← Int.natAbs_mul, ← h, Int.natAbs_mul, Nat.mul_comm]
  have e : Q.natAbs = q.natAbs := Nat.dvd_antisymm hd1 hd2
  have e2 : Q = q := by omega
  subst e2
  exact ⟨Int.eq_of_mul_eq_mul_right (by omega) h, rfl⟩
end Go.Proofs.YtnkjadpmigpneaaGreatDoor
end

section
set_option linter.unusedSimpArgs false
set_option linter.unusedVariables false
set_option maxRecDepth 100000
namespace Go.Proofs.YtnkjadpmigpneaaGreatDoor
open Go.RowKit LgM
end Go.Proofs.YtnkjadpmigpneaaGreatDoor
end

section
set_option linter.unusedSimpArgs false
set_option linter.unusedVariables false
set_option maxRecDepth 100000
namespace Go.Proofs.YtnkjadpmigpneaaGreatDoor
open Go.RowKit
end Go.Proofs.YtnkjadpmigpneaaGreatDoor
end

section
set_option linter.unusedSimpArgs false
set_option linter.unusedVariables false
set_option maxRecDepth 100000
namespace Go.Proofs.YtnkjadpmigpneaaGreatDoor
open Go.RowKit
structure Rb (P Q p q : Int) (m : Nat) : Prop where
  P : P.natAbs < pw m
  Q : Q.natAbs < pw m
  p : p.natAbs < pw m
  q : q.natAbs < pw m
  m : m ≤ 40000000
end Go.Proofs.YtnkjadpmigpneaaGreatDoor
end

section
set_option linter.unusedSimpArgs false
set_option linter.unusedVariables false
set_option maxRecDepth 100000
namespace Go.Proofs.YtnkjadpmigpneaaGreatDoor
open Go.RowKit
end Go.Proofs.YtnkjadpmigpneaaGreatDoor
end

section
set_option linter.unusedSimpArgs false
set_option linter.unusedVariables false
set_option maxRecDepth 100000
namespace Go.Proofs.YtnkjadpmigpneaaGreatDoor
open Go.RowKit
end Go.Proofs.YtnkjadpmigpneaaGreatDoor
end

section
set_option linter.unusedSimpArgs false
set_option linter.unusedVariables false
set_option maxRecDepth 100000
namespace Go.Proofs.YtnkjadpmigpneaaGreatDoor
open Go.RowKit
end Go.Proofs.YtnkjadpmigpneaaGreatDoor
end

section
set_option linter.unusedSimpArgs false
set_option linter.unusedVariables false
set_option maxRecDepth 100000
namespace Go.Proofs.YtnkjadpmigpneaaGreatDoor
open Go.RowKit
end Go.Proofs.YtnkjadpmigpneaaGreatDoor
end

section
set_option linter.unusedSimpArgs false
set_option linter.unusedVariables false
set_option maxRecDepth 100000
namespace Go.Proofs.YtnkjadpmigpneaaGreatDoor
open Go.RowKit
end Go.Proofs.YtnkjadpmigpneaaGreatDoor
end

section
set_option linter.unusedSimpArgs false
set_option linter.unusedVariables false
set_option maxRecDepth 100000
namespace Go.Proofs.YtnkjadpmigpneaaGreatDoor
open Go.RowKit
end Go.Proofs.YtnkjadpmigpneaaGreatDoor
end

section
set_option linter.unusedSimpArgs false
set_option linter.unusedVariables false
set_option maxRecDepth 100000
namespace Go.Proofs.YtnkjadpmigpneaaGreatDoor
open Go.RowKit
structure Rk (w0 w : World) (B : Nat) (L : List (Nat × Int × Int)) (F : List Nat) : Prop where
  bel : Below B w0 w
  le : B ≤ w.heap.size
  rat : ∀ p ∈ L, Rt w p.1 p.2.1 p.2.2
  fr : ∀ b ∈ F, RSlot w b
end Go.Proofs.YtnkjadpmigpneaaGreatDoor
end

section
set_option linter.unusedSimpArgs false
set_option linter.unusedVariables false
set_option maxRecDepth 100000
namespace Go.Proofs.YtnkjadpmigpneaaGreatDoor
open Go.RowKit
end Go.Proofs.YtnkjadpmigpneaaGreatDoor
end

section
set_option linter.unusedSimpArgs false
set_option linter.unusedVariables false
set_option maxRecDepth 100000
namespace Go.Proofs.YtnkjadpmigpneaaGreatDoor
open Go.RowKit
def Rv (w : World) (b : Nat) (v : Rat) (m : Nat) : Prop := ∃ P Q : Int, Rt w b P Q ∧ (P : Rat) / (Q : Rat) = v ∧ P.natAbs < pw m ∧ Q.natAbs < pw m
theorem rcast {a b : Int} (h : a = b) : (a : Rat) = (b : Rat) := by rw [h]
theorem rne {a : Int} (h : a ≠ 0) : (a : Rat) ≠ 0 := fun e => h (Rat.intCast_eq_zero_iff.1 e)
theorem rv_eq {P Q p q : Int} (hQ : 0 < Q) (hq : 0 < q) : (P : Rat) / Q = (p : Rat) / q ↔ P * q = p * Q := by
  have h1 := rne (show q ≠ 0 by omega); have h2 := rne (show Q ≠ 0 by omega)
  constructor
  · intro h
    have : (P : Rat) * q = p * Q := by grind
    rw [← Rat.intCast_mul, ← Rat.intCast_mul] at this
    exact Rat.intCast_inj.1 this
  · intro h
    have h' := rcast h
    simp only [Rat.intCast_mul] at h'
    grind
end Go.Proofs.YtnkjadpmigpneaaGreatDoor
end

section
set_option linter.unusedSimpArgs false
set_option linter.unusedVariables false
set_option maxRecDepth 100000
namespace Go.Proofs.YtnkjadpmigpneaaGreatDoor
open Go.RowKit
end Go.Proofs.YtnkjadpmigpneaaGreatDoor
end

section
set_option linter.unusedSimpArgs false
set_option linter.unusedVariables false
set_option maxRecDepth 100000
namespace Go.Proofs.YtnkjadpmigpneaaGreatDoor
open Go.RowKit LgM
def rtx (P Q : Int) : List UInt8 := if Q = 1 then decZ P else decZ P ++ 47 :: decZ Q
theorem str_app (a b : List UInt8) : (⟨a.toArray⟩ : ByteArray) ++ ⟨b.toArray⟩ = ⟨(a ++ b).toArray⟩ := by
  apply ByteArray.ext
  simp
end Go.Proofs.YtnkjadpmigpneaaGreatDoor
end

section
set_option linter.unusedSimpArgs false
set_option linter.unusedVariables false
set_option maxRecDepth 100000
namespace Go.Proofs.YtnkjadpmigpneaaGreatDoor
open Go.RowKit LgM
theorem frac_val (v : Rat) : ((v.num : Int) : Rat) / ((v.den : Int) : Rat) = v := by
  rw [← Rat.divInt_eq_div]
  exact Rat.num_divInt_den v
def vtx (v : Rat) : List UInt8 := rtx v.num (v.den : Int)
end Go.Proofs.YtnkjadpmigpneaaGreatDoor
end

section
set_option linter.unusedSimpArgs false
set_option linter.unusedVariables false
set_option maxRecDepth 100000
namespace Go.Proofs.YtnkjadpmigpneaaGreatDoor
open Go.RowKit LgM
def bnv (m : Nat) : Rat := ((BN.bt m : Int) : Rat) / (((BN.dN : Nat) : Int) : Rat)
theorem vtx_of {P Q : Int} {v : Rat} (hQ : 0 < Q) (low : Nat.gcd P.natAbs Q.natAbs = 1) (hv : (P : Rat) / (Q : Rat) = v) : vtx v = rtx P Q := by
  have hd : (0 : Int) < (v.den : Int) := by have := v.den_pos; omega
  have e := (rv_eq hQ hd).1 (hv.trans (frac_val v).symm)
  obtain ⟨e1, e2⟩ := low_uniq hQ hd e low (by rw [Int.natAbs_natCast]; exact v.reduced)
  unfold vtx
  rw [← e1, ← e2]
theorem bn_12 : BN.bt 12 * 2730 = -691 * ((BN.dN : Nat) : Int) := by decide +kernel
theorem dN_pos : (0 : Int) < ((BN.dN : Nat) : Int) := by decide +kernel
theorem text_12 : vtx (bnv 12) = [45, 54, 57, 49, 47, 50, 55, 51, 48] := by
  rw [vtx_of (v := bnv 12) (P := -691) (Q := 2730) (by decide) (by decide) ((rv_eq (by decide) dN_pos).2 bn_12.symm)]
  unfold rtx
  rw [if_neg (by decide), decZ_neg (by decide), decZ_pos (by decide)]
  simp [dec_ge, dec_lt]
set_option maxHeartbeats 1000000 in
theorem bernBegun_of (w : World) (hN : Calls Tryz.prog 7 #[.int .i64 12] w fun e w' => e = .returned (.tuple #[.string ⟨(vtx (bnv 12)).toArray⟩, .agg #[.int .i64 0, .int .i64 0]]) ∧ Below w.heap.size w w') :
    Calls Tryz.prog 8 #[] w fun e w' => e = .returned (.bool true) ∧ Below w.heap.size w w' := by
  rw [text_12] at hN
  have HN : Hid (Calls Tryz.prog 7 #[.int .i64 12] w fun e w' => e = .returned (.tuple #[.string ⟨[45, 54, 57, 49, 47, 50, 55, 51, 48].toArray⟩, .agg #[.int .i64 0, .int .i64 0]]) ∧ Below w.heap.size w w') := hN
  clear hN
  go_enter Tryz.func8, Tryz.ntmps8
  go_wp2_with fail
  refine HN.out.mono ?_
  rintro e w1 ⟨rfl, k1⟩
  have HK : Hid (Below w.heap.size w (w1.alloc (.cells #[.int .i64 0, .int .i64 0] 23))) := k1.alloc k1.size _
  clear k1 HN
  go_wp2
  go_ret
  exact ⟨rfl, HK.out⟩
end Go.Proofs.YtnkjadpmigpneaaGreatDoor
end
