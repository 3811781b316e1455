/- Plain: lists of d up to 20000 end; units and Pell solutions up to 3000. -/
import Derived.Test.YtfbgblidlabipaaGreatDoorUtK
import Derived.Test.YtfbgblidlabipaaGreatDoorUtL
import Derived.Test.YtfbgblidlabipaaGreatDoorUtO
set_option linter.unusedSimpArgs false
set_option linter.unusedVariables false
set_option maxRecDepth 100000
set_option maxRecDepth 100000
namespace Go.Proofs.YtfbgblidlabipaaGreatDoor.UtM
open CfM

theorem rn_le {d r m : Nat} (hr : Rn d r) (h : d < (m + 1) * (m + 1)) : r ≤ m := by
  rcases Nat.lt_or_ge m r with c | c
  · have := Nat.mul_le_mul (show m + 1 ≤ r by omega) (show m + 1 ≤ r by omega)
    have := hr.lo
    omega
  · exact c
theorem ue_all {d r : Nat} (hr : Rn d r) (hd : d ≤ 20000) : (d % 4 ≠ 1 ∧ ∃ N, Ue d r r (d - r * r) 1 N) ∨ (d % 4 = 1 ∧ ∃ N, Ue d r (oddr r) ((d - oddr r * oddr r) / 2) 2 N) := by
  have h1 : r ≤ 141 := rn_le hr (by omega)
  have h2 : chkd d r = true := by
    by_cases c : r ≤ 110
    · exact chkd_low hr c
    · exact chkd_high hr (by omega) h1
  unfold chkd at h2
  by_cases e : d % 4 = 1
  · rw [if_pos (by simpa using e)] at h2
    exact .inr ⟨e, ue_of h2⟩
  · rw [if_neg (by simpa using e)] at h2
    exact .inl ⟨e, ue_of h2⟩
theorem mt_all {d r p0 q0 P Q X Y N : Nat} (h : Kd d r p0 q0 P Q X Y) (hk : q0 = 1 → d % 4 ≠ 1) (hd : d ≤ 3000) (hN : Ue d r P Q q0 N) {u v : Nat} (hp : pel d r 400 r (d - r * r) 1 0 r 1 false = some (u, v)) : Mt d (tf d r P Q X Y (N - 1)).2.1 (tf d r P Q X Y (N - 1)).2.2 u v := by
  have h2 := chkp_all h.rn (rn_le h.rn (m := 54) (by omega))
  have h3 := uend_ue (X := X) (Y := Y) hN
  unfold chkp at h2
  rcases h.two with ⟨e0, _, e1, e2, e3, e4⟩ | ⟨e0, _, e5, e6, e7, e8, e3, e4⟩
  · have c := hk e0
    subst e0 e1 e2 e3 e4
    rw [if_neg (by simpa using c), h3, hp] at h2
    exact mt_of h2
  · have ho : P = oddr r := by
      unfold oddr
      by_cases c : r % 2 = 1
      · rw [if_pos (by simpa using c)]; omega
      · rw [if_neg (by simpa using c)]; omega
    have hQ : Q = (d - oddr r * oddr r) / 2 := by rw [← ho]; omega
    subst e0 ho
    rw [hQ] at h3
    rw [if_pos (by simpa using e5), ← hQ] at h2
    rw [← hQ] at h3
    subst e3 e4
    rw [h3, hp] at h2
    exact mt_of h2

end Go.Proofs.YtfbgblidlabipaaGreatDoor.UtM
