/- Contracts of the document's answer for layer 1: F, NumbersFault, Gcd, Size, Left. -/
import Derived.Test.YtmifenflbaohnaaGreatDoorJnA
set_option linter.unusedSimpArgs false
set_option linter.unusedVariables false
set_option maxRecDepth 100000
namespace Go.Proofs.YtmifenflbaohnaaGreatDoor
open Go.RowKit
theorem gcd_sub_left (p q : Nat) : Nat.gcd (p % q) q = Nat.gcd p q := by
  rw [Nat.gcd_comm p q, Nat.gcd_rec q p]
theorem gcd_sub_right (p q : Nat) : Nat.gcd p (q % p) = Nat.gcd p q := by
  rw [Nat.gcd_rec p q, Nat.gcd_comm]

end Go.Proofs.YtmifenflbaohnaaGreatDoor
