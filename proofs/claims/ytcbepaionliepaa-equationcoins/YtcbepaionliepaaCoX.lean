/- Coins: what the program answers is what the reference finds. -/
import Derived.Test.YtcbepaionliepaaCoW
set_option linter.unusedSimpArgs false
set_option linter.unusedVariables false
set_option maxRecDepth 100000
namespace Go.Proofs.Ytcbepaionliepaa
open Go.RowKit

/-- What is asked of the answer. -/
theorem co_fin {l : List Nat} {L : Nat → Nat} {m : Nat} (h0 : 1 ≤ l.length) (hM : ∀ j, j < l.length → 1 ≤ l.getD j 0 ∧ l.getD j 0 ≤ 1000) (hg1 : CO.gl l = 1) (hm : m = lw l l.length) (h : CO.G m l l.length L) :
    1 ≤ m ∧ m ≤ 1000 ∧ m ∈ l ∧ m ≤ hg l l.length ∧ CO.Fi m (hg l l.length) L ∧ ((mx L (m - 1) : Nat) : Int) - (m : Int) = CO.ls (CO.gap m L) (m * hg l l.length + 1) ∧ CO.su (fun r => L r / m) m = CO.cn (CO.gap m L) (m * hg l l.length + 1) ∧ Gp l (CO.gap m L) (m * hg l l.length) := by
  have hu : ∀ j, j < l.length → l.getD j 0 ≤ 1000 := fun j hj => (hM j hj).2
  have e : lw l l.length = mn (fun j => l.getD j 0) (l.length - 1) := by
    have := lw_mn hu (l.length - 1) (by omega)
    rw [show l.length - 1 + 1 = l.length by omega] at this
    exact this
  have gm : ∀ c, c ∈ l → ∃ j, j < l.length ∧ l.getD j 0 = c := fun c hc => by
    obtain ⟨j, hj, ej⟩ := List.getElem_of_mem hc
    exact ⟨j, hj, by rw [List.getD_eq_getElem?_getD, List.getElem?_eq_getElem hj, Option.getD_some, ej]⟩
  obtain ⟨j, j1, j2⟩ := mn_at (fun j => l.getD j 0) (l.length - 1)
  have hmj : m = l.getD j 0 := by rw [hm, e, j2]
  have hml : m ∈ l := by
    rw [hmj, List.getD_eq_getElem?_getD, List.getElem?_eq_getElem (by omega), Option.getD_some]
    exact List.getElem_mem _
  have hb := hM j (by omega)
  have hh : ∀ c, c ∈ l → c ≤ hg l l.length := fun c hc => by
    obtain ⟨i, i1, i2⟩ := gm c hc
    rw [← i2]; exact hg_ge l.length i i1
  have hhi : hg l l.length ≤ 1000 := hg_le hu
  have m0 : 0 < m := by omega
  have hf : CO.Fi m (hg l l.length) L := CO.Fi.step m0 hml h hg1 hh hhi
  have hpos : ∀ c, c ∈ l → 0 < c := fun c hc => by
    obtain ⟨i, i1, i2⟩ := gm c hc
    have := hM i i1; omega
  have hprod : m * hg l l.length ≤ 1000 * 1000 := Nat.mul_le_mul (by omega) hhi
  refine ⟨by omega, by omega, hml, hh m hml, hf, ?_, hf.many, ?_, ?_, ?_⟩
  · refine (hf.last (fun r hr => mx_le L (m - 1) r (by omega)) ?_).symm
    obtain ⟨r, r1, r2⟩ := mx_at L (m - 1)
    exact ⟨r, by omega, r2.symm⟩
  · unfold CO.gap
    rw [Nat.zero_mod, h.z]; rfl
  · intro n hn hnM
    exact CO.gap_rec m0 hml h hpos (by omega) hn
  · intro c hc
    exact hpos c hc
/-- Two coins. -/
theorem co_syl {l : List Nat} {L : Nat → Nat} {m : Nat} (h2 : l.length = 2) (hM : ∀ j, j < l.length → 1 ≤ l.getD j 0 ∧ l.getD j 0 ≤ 1000) (hg1 : CO.gl l = 1) (hm : m = lw l l.length) (hm1 : 1 < m) (h : CO.G m l l.length L) :
    ((mx L (m - 1) : Nat) : Int) - (m : Int) = (l.getD 0 0 : Int) * (l.getD 1 0 : Int) - (l.getD 0 0 : Int) - (l.getD 1 0 : Int) ∧ 2 * ((CO.su (fun r => L r / m) m : Nat) : Int) = ((mx L (m - 1) : Nat) : Int) - (m : Int) + 1 := by
  obtain ⟨f1, f2, f3, f4, f5, f6, f7, f8⟩ := co_fin (by omega) hM hg1 hm h
  obtain ⟨p, q, rfl⟩ : ∃ p q, l = [p, q] := by
    match l, h2 with
    | [p, q], _ => exact ⟨p, q, rfl⟩
  have hp := hM 0 (by simp)
  have hq := hM 1 (by simp)
  simp only [List.getD_cons_zero, List.getD_cons_succ] at hp hq ⊢
  have em : m = min p q := by
    rw [hm]
    show min (min 1001 p) q = min p q
    omega
  have eg : Nat.gcd p q = 1 := by
    have : CO.gl [p, q] = Nat.gcd p (Nat.gcd q 0) := rfl
    rw [hg1, Nat.gcd_zero_right] at this
    exact this.symm
  have fin : ∀ c, m ≤ c → ([p, q] = [m, c] ∨ [p, q] = [c, m]) → Nat.gcd m c = 1 → ((mx L (m - 1) : Nat) : Int) - (m : Int) = (m : Int) * (c : Int) - m - c ∧ 2 * ((CO.su (fun r => L r / m) m : Nat) : Int) = (m : Int) * (c : Int) - m - c + 1 := fun c hc hl hgc => by
    obtain ⟨s1, ⟨r, r1, r2⟩, s3⟩ := CO.syl hm1 hc hl hgc h f5 (hg_le (fun j hj => (hM j hj).2))
    have top : mx L (m - 1) = (m - 1) * c := by
      obtain ⟨j, j1, j2⟩ := mx_at L (m - 1)
      have a := s1 j (by omega)
      have b := mx_le L (m - 1) r (by omega)
      omega
    have e1 : ((m - 1 : Nat) * c : Nat) + c = m * c := by
      obtain ⟨n, rfl⟩ : ∃ n, m = n + 1 := ⟨m - 1, by omega⟩
      rw [Nat.add_mul]; simp
    have e2 : ((m * c : Nat) : Int) = (m : Int) * (c : Int) := by push_cast; rfl
    refine ⟨?_, by rw [f7]; exact s3⟩
    rw [top]; omega
  rcases Nat.le_total p q with hpq | hpq
  · have e : m = p := by omega
    subst e
    obtain ⟨a, b⟩ := fin q hpq (.inl rfl) eg
    exact ⟨a, by rw [b, a]⟩
  · have e : m = q := by omega
    subst e
    obtain ⟨a, b⟩ := fin p hpq (.inr rfl) (by rw [Nat.gcd_comm]; exact eg)
    refine ⟨?_, by rw [b, a]⟩
    rw [a, Int.mul_comm]; omega

end Go.Proofs.Ytcbepaionliepaa
