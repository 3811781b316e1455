/- Every prime from 5 to 2000 is in the table; Hasse's bound for all of them. Written by mkhs.py. -/
import Derived.Test.YtbeceimopamllaaDoorHsA
import Derived.Test.YtbeceimopamllaaDoorHsB
import Derived.Test.YtbeceimopamllaaDoorHsC
import Derived.Test.YtbeceimopamllaaDoorHsD
import Derived.Test.YtbeceimopamllaaDoorHsE
import Derived.Test.YtbeceimopamllaaDoorHsF
import Derived.Test.YtbeceimopamllaaDoorHsG
import Derived.Test.YtbeceimopamllaaDoorHsH
set_option linter.unusedVariables false
set_option maxRecDepth 100000
namespace Go.Proofs.YtbeceimopamllaaDoor
namespace HS

def tab : List (List (Nat × Nat)) := tbA ++ (tbB ++ (tbC ++ (tbD ++ (tbE ++ (tbF ++ (tbG ++ tbH))))))
theorem tab_ok : ∀ l ∈ tab, chkL l = true := by
  intro l hl
  unfold tab at hl
  simp only [List.mem_append] at hl
  rcases hl with h | h | h | h | h | h | h | h
  · exact tbA_ok l h
  · exact tbB_ok l h
  · exact tbC_ok l h
  · exact tbD_ok l h
  · exact tbE_ok l h
  · exact tbF_ok l h
  · exact tbG_ok l h
  · exact tbH_ok l h

def hasP (n : Nat) : Bool := tab.any fun l => l.any fun x => x.1 == n
def hasD (n : Nat) : Bool := (List.range 45).any fun d => Nat.ble 2 d && (Nat.blt d n && n % d == 0)
theorem all_in : (List.range 2001).all (fun n => Nat.blt n 5 || (hasD n || hasP n)) = true := by decide +kernel

theorem table {P : Nat} (hp : Pr P) (h5 : 5 ≤ P) (h2 : P ≤ 2000) : ∃ g, Gen P g ∧ chkA P 0 = true ∧ chkA P 1 = true ∧ chkA P g = true := by
  have h := List.all_eq_true.1 all_in P (List.mem_range.2 (by omega))
  rw [Bool.or_eq_true, Bool.or_eq_true] at h
  rcases h with h | h | h
  · rw [Nat.blt_eq] at h; omega
  · exfalso
    unfold hasD at h
    obtain ⟨d, _, h⟩ := List.any_eq_true.1 h
    rw [Bool.and_eq_true, Bool.and_eq_true] at h
    have h1 := Nat.le_of_ble_eq_true h.1
    have h3 : d < P := by have := h.2.1; rwa [Nat.blt_eq] at this
    have h4 : P % d = 0 := by simpa using h.2.2
    have := hp.2 d (Nat.dvd_of_mod_eq_zero h4)
    omega
  · unfold hasP at h
    obtain ⟨l, hl, h⟩ := List.any_eq_true.1 h
    obtain ⟨x, hx, h⟩ := List.any_eq_true.1 h
    have e : x.1 = P := by simpa using h
    have hc := chkL_at (tab_ok l hl) x hx
    rw [e] at hc
    unfold chkP at hc
    rw [Bool.and_eq_true, Bool.and_eq_true, Bool.and_eq_true] at hc
    exact ⟨x.2, genB_at hp h5 hc.1, hc.2.1, hc.2.2.1, hc.2.2.2⟩

/-- HASSE, up to 2000. -/
theorem hasse {P : Nat} (hp : Pr P) (h5 : 5 ≤ P) (h2 : P ≤ 2000) (a b : Nat) (ha : a < P) (hb : b < P) : Hs P (aff P a b) := by
  obtain ⟨g, hg, c0, c1, cg⟩ := table hp h5 h2
  exact hs_all hg h2 c0 c1 cg a b ha hb

end HS
end Go.Proofs.YtbeceimopamllaaDoor
