/- Plain facts: the table's first triple, its order, the neighbours that the law asks. -/
import Derived.Test.YtcbepaionliepaaMkM
set_option linter.unusedSimpArgs false
set_option linter.unusedVariables false
set_option maxRecDepth 100000
namespace Go.Proofs.Ytcbepaionliepaa
namespace MV

theorem um_first {m : Nat} (h : 1 ≤ m) : ∃ l, um m = (1, 1, 1) :: l := by
  unfold um
  rw [show tab = (1, 1, 1) :: tab.tail from rfl, List.filter_cons_of_pos (by rw [Nat.ble_eq]; exact h)]
  exact ⟨_, rfl⟩
theorem um_lt {m i j : Nat} (hi : i < (um m).length) (hj : j < (um m).length) (h : i < j) : tz (um m)[i] < tz (um m)[j] :=
  List.pairwise_iff_getElem.1 (um_rises m) i j hi hj h
/-- The first or second number of a triple. -/
def tk (t : T3) (k : Nat) : Nat := if k = 0 then t.1 else t.2.1
theorem tk_le {t : T3} (g : Good t) (k : Nat) : 1 ≤ tk t k ∧ tk t k ≤ t.2.2 := by
  have h1 := g.x1
  have h2 := g.xy
  have h3 := g.yz
  unfold tk; split <;> omega
theorem um_good {m : Nat} {t : T3} (h : t ∈ um m) : Good t ∧ t.2.2 ≤ m := ⟨good_of (mem_um.1 h).1, (mem_um.1 h).2⟩
/-- The third number of the neighbour lies above. -/
theorem nb_ge {t : T3} (g : Good t) (k : Nat) : t.2.2 + tk t (1 - k) ≤ 3 * (tk t k * t.2.2) := by
  have h1 := tk_le g k
  have h2 := tk_le g (1 - k)
  have h3 : 1 * t.2.2 ≤ tk t k * t.2.2 := Nat.mul_le_mul_right _ h1.1
  omega
theorem um_nbr {m : Nat} {t : T3} (hm : m ≤ 1000000000000000000) (ht : t ∈ um m) {k n : Nat} (hk : k < 2) (hn : n + tk t (1 - k) = 3 * (tk t k * t.2.2)) (h1 : n ≤ m) : (tk t k, t.2.2, n) ∈ um m := by
  have g := (um_good ht).1
  have h2 : t.2.2 ≤ n := by have := nb_ge g k; omega
  have gx := g.xy
  have gy := g.yz
  rw [mem_um] at ht
  match k, hk with
  | 0, _ =>
    have e : nw3 t 1 = n := by
      show 3 * t.2.2 * t.1 - t.2.1 = n
      have e1 : n + t.2.1 = 3 * (t.1 * t.2.2) := hn
      have e2 : 3 * t.2.2 * t.1 = 3 * (t.1 * t.2.2) := by rw [Nat.mul_assoc, Nat.mul_comm t.2.2]
      omega
    have h := nbr_in (i := 1) hm ht.1 ht.2 (by omega) (by
      rw [okN_iff]
      show 3 * t.2.2 * t.1 ≤ m + t.2.1
      have e1 : n + t.2.1 = 3 * (t.1 * t.2.2) := hn
      have e2 : 3 * t.2.2 * t.1 = 3 * (t.1 * t.2.2) := by rw [Nat.mul_assoc, Nat.mul_comm t.2.2]
      omega)
    have q : nbr t 1 = (t.1, t.2.2, n) := by
      show srt t.1 (nw3 t 1) t.2.2 = _
      rw [e]; unfold srt
      rw [if_pos (by omega)]
      split
      · rw [show n = t.2.2 by omega]
      · rw [if_pos (by omega)]
    rw [q] at h
    exact mem_um.2 h
  | 1, _ =>
    have e1 : n + t.1 = 3 * (t.2.1 * t.2.2) := hn
    have e2 : 3 * t.2.1 * t.2.2 = 3 * (t.2.1 * t.2.2) := by rw [Nat.mul_assoc]
    have e : nw3 t 0 = n := by
      show 3 * t.2.1 * t.2.2 - t.1 = n
      omega
    have h := nbr_in (i := 0) hm ht.1 ht.2 (by omega) (by
      rw [okN_iff]
      show 3 * t.2.1 * t.2.2 ≤ m + t.1
      omega)
    have q : nbr t 0 = (t.2.1, t.2.2, n) := by
      show srt (nw3 t 0) t.2.1 t.2.2 = _
      rw [e]; unfold srt
      split
      · rw [show n = t.2.2 by omega, show t.2.1 = t.2.2 by omega]
      · split
        · rw [show n = t.2.2 by omega]
        · rfl
    rw [q] at h
    exact mem_um.2 h

end MV
end Go.Proofs.Ytcbepaionliepaa
