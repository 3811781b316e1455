/- Contracts of numbers of any length: sum, Mul, Add, Sub, Cmp. -/
import Derived.Test.YtmifenflbaohnaaDoorJnB
import Derived.Test.YtmifenflbaohnaaDoorRegionG
set_option linter.unusedSimpArgs false
set_option linter.unusedVariables false
set_option maxRecDepth 100000
namespace Go.Proofs.YtmifenflbaohnaaDoor
open Go.RowKit

theorem NS.drew {w : World} {s : Value} {n : Nat} (h : NS w s n) : NS w.drew s n := h.below (Below.refl w.heap.size w).drew (Nat.le_refl _)
theorem Slot.drew {w : World} {b : Nat} (h : Slot w b) : Slot w.drew b := h
theorem BigAt.drewN {w : World} {b n : Nat} {x : Int} (h : BigAt w b x) : BigAt (w.drewN n) b x := h.below (below_drewN' (Below.refl w.heap.size w)) (Nat.le_refl _)
theorem NS.drewN {w : World} {s : Value} {q n : Nat} (h : NS w s n) : NS (w.drewN q) s n := h.below (below_drewN' (Below.refl w.heap.size w)) (Nat.le_refl _)

/-- A struct opened: its cells, and that its slice holds the number. -/
theorem BigAt.open {w : World} {b : Nat} {n : Int} (h : BigAt w b n) : ∃ aa len cap, w.cell? ⟨b, 0, none⟩ = some (.bool (decide (n < 0))) ∧ w.cell? ⟨b, 1, none⟩ = some (.slice aa len cap) ∧ NS w (.slice aa len cap) n.natAbs ∧ (0 < len ↔ 0 < n.natAbs) := by
  obtain ⟨s, h1, h2⟩ := h
  obtain ⟨aa, len, cap, rfl, hl⟩ := h2.shape
  exact ⟨aa, len, cap, by simp [World.cell?, h1], by simp [World.cell?, h1], h2, hl⟩

theorem sgd_self (x : Int) : sgd (decide (x < 0)) x.natAbs = x := by unfold sgd; by_cases h : x < 0 <;> simp [h] <;> omega
theorem sgd_mul (p q : Bool) (a b : Nat) : sgd (p != q) (a * b) = sgd p a * sgd q b := by
  cases p <;> cases q <;> simp [sgd, Int.neg_mul, Int.mul_neg]
theorem sgd_not (q : Bool) (b : Nat) : sgd (!q) b = -sgd q b := by cases q <;> simp [sgd]

/-- A sum of two signed numbers. -/
theorem sum_any (p q : Bool) (s t : Value) (a b m n : Nat) (w : World) (ha : NS w s a) (hb : NS w t b) (hm : a < pw m) (hn : b < pw n) (hm' : m ≤ 100000000) (hn' : n ≤ 100000000) :
    Calls Tryd.prog 46 #[.bool p, s, .bool q, t] w fun e w' => ∃ o r c, e = .returned (.tuple #[.bool o, r]) ∧ NS w' r c ∧ sgd o c = sgd p a + sgd q b ∧ Below w.heap.size w w' := by
  obtain ⟨xa, xl, xc, rfl, _⟩ := ha.shape
  obtain ⟨ya, yl, yc, rfl, _⟩ := hb.shape
  have HA : Hid (NS w (.slice xa xl xc) a) := ha
  have HB : Hid (NS w (.slice ya yl yc) b) := hb
  have HM : Hid (a < pw m) := hm
  have HN : Hid (b < pw n) := hn
  clear ha hb hm hn
  by_cases hpq : p = q
  · subst hpq
    go_enter Tryd.func46, Tryd.ntmps46
    go_wp2_with fail
    refine (add_any _ _ a b m n w HA.out HB.out HM.out HN.out hm' hn').mono ?_
    rintro e w1 ⟨r, rfl, hr, hbl⟩
    go_wp2
    go_ret2
    exact ⟨p, r, a + b, rfl, hr, by cases p <;> simp [sgd] <;> omega, hbl⟩
  · have h0 : (p == q) = false := by simpa using hpq
    go_enter Tryd.func46, Tryd.ntmps46
    go_wp2_with fail
    refine (cmp_any _ _ a b m n w HA.out HB.out HM.out HN.out hm' hn').mono ?_
    rintro e w1 ⟨rfl, nq, rfl⟩
    by_cases hab : b ≤ a
    · have hc : 0 ≤ cmpN a b := by unfold cmpN; split <;> (try split) <;> omega
      go_wp2_with fail
      refine (sub_any _ _ a b m _ HA.out.drewN HB.out.drewN hab HM.out hm').mono ?_
      rintro e w1 ⟨r, rfl, hr, hbl⟩
      go_wp2
      go_ret2
      exact ⟨p, r, a - b, rfl, hr, by cases p <;> cases q <;> simp_all [sgd] <;> omega, (below_drewN' (Below.refl _ _)).trans hbl⟩
    · have hc : cmpN a b < 0 := by unfold cmpN; split <;> (try split) <;> omega
      go_wp2_with fail
      refine (sub_any _ _ b a n _ HB.out.drewN HA.out.drewN (by omega) HN.out hn').mono ?_
      rintro e w1 ⟨r, rfl, hr, hbl⟩
      go_wp2
      go_ret2
      exact ⟨q, r, b - a, rfl, hr, by cases p <;> cases q <;> simp_all [sgd] <;> omega, (below_drewN' (Below.refl _ _)).trans hbl⟩

end Go.Proofs.YtmifenflbaohnaaDoor
