/- Bhaskara's way comes to Pell's solution by the list of the root, for all d up to 5000: reckoned in the kernel. -/
import Derived.Test.YtfbgblidlabipaaGreatDoorJnL
set_option linter.unusedSimpArgs false
set_option linter.unusedVariables false
set_option maxRecDepth 100000
set_option maxRecDepth 100000
namespace Go.Proofs.YtfbgblidlabipaaGreatDoor.CfM
def sqf (d : Nat) : Nat → Nat
  | 0 => 0
  | n + 1 => if (n + 1) * (n + 1) ≤ d then n + 1 else sqf d n
def rst (d r : Nat) : Nat := if (r + 1) * (r + 1) - d < d - r * r then r + 1 else r
def cyc0 (d r : Nat) : Option (Nat × Nat) :=
  let r1 := rst d r
  let up := decide (d < r1 * r1)
  cyc d r 200 r1 1 (if up then r1 * r1 - d else d - r1 * r1) (!up) r1
def chk (d : Nat) : Bool :=
  let r := sqf d 71
  if r * r == d then true else
    match cyc0 d r, pel d r 400 r (d - r * r) 1 0 r 1 false with
    | some (a, b), some (x, y) => a == x && b == y
    | _, _ => false
def chkl (a n : Nat) : Bool := (List.range n).all (fun i => chk (a + i))
theorem c0 : chkl 2 500 = true := by decide +kernel
theorem c1 : chkl 502 500 = true := by decide +kernel
theorem c2 : chkl 1002 500 = true := by decide +kernel
theorem c3 : chkl 1502 500 = true := by decide +kernel
theorem c4 : chkl 2002 500 = true := by decide +kernel
end Go.Proofs.YtfbgblidlabipaaGreatDoor.CfM
