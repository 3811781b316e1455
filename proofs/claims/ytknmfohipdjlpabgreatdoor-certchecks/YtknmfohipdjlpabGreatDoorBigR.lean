/- Numbers of any length: Bit, Rsh (of numbers that are not below 0). -/
import Derived.Test.YtknmfohipdjlpabGreatDoorBigP
import Derived.Test.YtknmfohipdjlpabGreatDoorWholeH
set_option linter.unusedSimpArgs false
set_option linter.unusedVariables false
set_option maxRecDepth 100000
namespace Go.Proofs.YtknmfohipdjlpabGreatDoor
open Go.RowKit

theorem Bit_nat (bx A i m : Nat) (w : World) (hx : BigAt w bx (A : Int)) (hm : A < pw m) (hm' : m ≤ 100000000) (hi : i ≤ 4000000000) :
    Calls Tryz.prog 32 #[.pointer (some ⟨bx, 0, none⟩), .int .i64 i] w fun e w' => e = .returned (.int .u64 ((A / 2 ^ i % 2 : Nat) : Int)) ∧ ∃ q, w' = w.drewN q := by
  obtain ⟨xa, xl, xc, cx0, cx1, nx, _⟩ := hx.open
  have hneg : decide ((A : Int) < 0) = false := by simp
  rw [hneg] at cx0
  rw [Int.natAbs_natCast] at nx
  have NX : Hid (NS w (.slice xa xl xc) A) := nx
  have HM : Hid (A < pw m) := hm
  clear hx nx hm hneg
  go_enter Tryz.func32, Tryz.ntmps32
  go_wp2_with fail
  refine (bit_any _ A i m _ NX.out HM.out hm' hi).mono ?_
  rintro e w1 ⟨rfl, q, rfl⟩
  go_wp2
  go_ret
  exact ⟨rfl, q, rfl⟩

theorem Rsh_nat (bz bx A n m : Nat) (w : World) (hz : Slot w bz) (hx : BigAt w bx (A : Int)) (hm : A < pw m) (hm' : m ≤ 100000000) (hn : n ≤ 1000000000) :
    Calls Tryz.prog 33 #[.pointer (some ⟨bz, 0, none⟩), .pointer (some ⟨bx, 0, none⟩), .int .u64 n] w fun e w' => e = .returned (.pointer (some ⟨bz, 0, none⟩)) ∧ BigAt w' bz ((A / 2 ^ n : Nat) : Int) ∧ Upd bz w w' := by
  obtain ⟨xa, xl, xc, cx0, cx1, nx, _⟩ := hx.open
  have hneg : decide ((A : Int) < 0) = false := by simp
  rw [hneg] at cx0
  rw [Int.natAbs_natCast] at nx
  have NX : Hid (NS w (.slice xa xl xc) A) := nx
  have HZ : Hid (Slot w bz) := hz
  have HM : Hid (A < pw m) := hm
  clear hx hz nx hm hneg
  go_enter Tryz.func33, Tryz.ntmps33
  go_wp2_with fail
  refine (rightW_any _ A n m _ NX.out HM.out hm' hn).mono ?_
  rintro e w1 ⟨r, rfl, hr, hb⟩
  have HR : Hid (NS w1 r (A / 2 ^ n)) := hr
  have HB : Hid (Below w.heap.size w w1) := hb
  clear hr hb
  go_wp2_with fail
  refine (give_any bz false r (A / 2 ^ n) w1 (HZ.out.below HB.out (Nat.le_refl _)) HR.out).mono ?_
  rintro e w2 ⟨rfl, hbig, hu⟩
  have HG : Hid (BigAt w2 bz ((A / 2 ^ n : Nat) : Int)) := hbig
  have HU : Hid (Upd bz w w2) := (Upd.of_below HB.out).trans hu
  clear hbig hu
  go_wp2
  go_ret
  exact ⟨rfl, HG.out, HU.out⟩

end Go.Proofs.YtknmfohipdjlpabGreatDoor
