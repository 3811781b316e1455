import Derived.Test.YtnkjadpmigpneaaGreatDoorLgW
import Derived.Test.YtnkjadpmigpneaaGreatDoorJpB
section
set_option linter.unusedSimpArgs false
set_option linter.unusedVariables false
set_option maxRecDepth 100000
namespace Go.Proofs.YtnkjadpmigpneaaGreatDoor
open Go.RowKit LgM
theorem Tryz.infoSg : (Tryz.prog.info? 66).map (fun i => (i.zero, i.size, i.bytes)) = some (some (.agg #[.slice none 0 0, .bool false]), 2, 32) := by kernel_rfl
def NI (u : Value) : Prop := ∀ k n, u ≠ .int k n
theorem LN.setB {w : World} {v : Value} {n b i : Nat} {cells : List Value} {t : TypeId} (h : LN w v n) (hc : Cl b cells t w) (hn : ∀ u ∈ cells, NI u) (u : Value) : LN (w.setCell ⟨b, i, none⟩ u) v n := by
  obtain ⟨j, hj, ⟨aa, g, o, c', e, p, cell, lt⟩, hty⟩ := h
  refine ⟨j, hj, ⟨aa, g, o, c', e, p, fun t ht => ?_, fun hp => by have := lt hp; simp; omega⟩, hty.set _ _⟩
  have hne : g ≠ b := by
    intro e2
    subst e2
    have h1 := cell t ht
    rw [hc.cell] at h1
    exact hn _ (List.mem_of_getElem? h1) _ _ rfl
  rw [World.cell?, Below.heap_setCell _ _ _ g (by simpa using hne)]
  exact cell t ht
def VA (w : World) (v : Value) (N : Nat) (x : Nat → Int) : Prop :=
  ∃ a g o c, v = .slice a N c ∧ (0 < N → a = some ⟨g, o, none⟩ ∧ g < w.heap.size) ∧ (∀ j, j < N → ∃ sa sk sc, w.cell? ⟨g, o + j * 2, none⟩ = some (.slice sa sk sc) ∧ w.cell? ⟨g, o + j * 2 + 1, none⟩ = some (.bool (decide (x j < 0))) ∧ LN w (.slice sa sk sc) (x j).natAbs) ∧ (0 < N → ∃ arr fr, w.heap[g]? = some (.cells arr 66 fr))
theorem VA.open {w : World} {v : Value} {N : Nat} {x : Nat → Int} (h : VA w v N x) : ∃ a g o c, v = .slice a N c ∧ (0 < N → a = some ⟨g, o, none⟩ ∧ g < w.heap.size) ∧ ∀ j, j < N → ∃ sa sk sc, w.cell? ⟨g, o + j * 2, none⟩ = some (.slice sa sk sc) ∧ w.cell? ⟨g, o + j * 2 + 1, none⟩ = some (.bool (decide (x j < 0))) ∧ LN w (.slice sa sk sc) (x j).natAbs := by
  obtain ⟨a, g, o, c, e, h1, h2, _⟩ := h; exact ⟨a, g, o, c, e, h1, h2⟩
structure Wv (b N i : Nat) (f : Nat → Int) (w : World) : Prop where
  ex : ∃ cells : List Value, Cl b cells 66 w ∧ cells.length = N * 2 ∧ (∀ u ∈ cells, NI u) ∧ ∀ j, j < i → ∃ sa sk sc, cells[j * 2]? = some (.slice sa sk sc) ∧ cells[j * 2 + 1]? = some (.bool (decide (f j < 0))) ∧ LN w (.slice sa sk sc) (f j).natAbs
theorem Wv.below {b N i : Nat} {f : Nat → Int} {w w' : World} (h : Wv b N i f w) (k : Below w.heap.size w w') : Wv b N i f w' := by
  obtain ⟨cells, h1, h2, h3, h4⟩ := h.ex
  refine ⟨cells, h1.below k, h2, h3, fun j hj => ?_⟩
  obtain ⟨sa, sk, sc, c1, c2, c3⟩ := h4 j hj
  exact ⟨sa, sk, sc, c1, c2, c3.below k⟩
theorem Wv.cellAt {b N i j : Nat} {f : Nat → Int} {w : World} (h : Wv b N i f w) (hj : j < N * 2) : ∃ u, w.cell? ⟨b, j, none⟩ = some u ∧ w.frozen? ⟨b, j, none⟩ = false := by
  obtain ⟨cells, h1, h2, _⟩ := h.ex
  exact ⟨cells[j]'(by omega), by rw [h1.cell, List.getElem?_eq_getElem], h1.frozen _⟩
theorem Wv.lt {b N i : Nat} {f : Nat → Int} {w : World} (h : Wv b N i f w) : b < w.heap.size := by
  obtain ⟨cells, h1, _⟩ := h.ex
  exact h1.lt
theorem ni_slice (a : Option Addr) (k c : Nat) : NI (.slice a k c) := fun _ _ h => by simp at h
theorem ni_bool (z : Bool) : NI (.bool z) := fun _ _ h => by simp at h
theorem Wv.done {b N : Nat} {f : Nat → Int} {w : World} (h : Wv b N N f w) : VA w (.slice (some ⟨b, 0, none⟩) N N) N f := by
  obtain ⟨cells, h1, h2, h3, h4⟩ := h.ex
  refine ⟨some ⟨b, 0, none⟩, b, 0, N, rfl, fun _ => ⟨rfl, h1.lt⟩, fun j hj => ?_, fun _ => ⟨_, _, h1⟩⟩
  obtain ⟨sa, sk, sc, c1, c2, c3⟩ := h4 j hj
  exact ⟨sa, sk, sc, by rw [h1.cell, Nat.zero_add]; exact c1, by rw [h1.cell, Nat.zero_add]; exact c2, c3⟩
theorem wv_of_mk {w' : World} {b N : Nat} (f : Nat → Int) (h : w'.ownsRow b 66 2 (.slice (some ⟨b, 0, none⟩) N N) N (madeCells #[Value.slice none 0 0, .bool false] (N * 2)).toList) : Wv b N 0 f w' := by
  obtain ⟨h1, h2 | ⟨g, cap, cur, e1, e2, e3, e4, e5, e6, e7⟩⟩ := h
  · obtain ⟨h2, rfl⟩ := h2
    simp at h2
  · simp at e1
    obtain ⟨rfl, rfl⟩ := e1
    refine ⟨cur.toList, by unfold Cl; rw [e3], by simpa using e6, fun u hu => ?_, fun j hj => by omega⟩
    have : cur.toList = (madeCells #[Value.slice none 0 0, .bool false] (N * 2)).toList := by
      rw [← e7, List.take_of_length_le (by simp; omega)]
    rw [this] at hu
    simp only [madeCells, Array.toList_map, List.mem_map] at hu
    obtain ⟨i, _, rfl⟩ := hu
    have hi : i % 2 = 0 ∨ i % 2 = 1 := by omega
    rcases hi with hi | hi
    · simp [hi]; exact ni_slice _ _ _
    · simp [hi]; exact ni_bool _
end Go.Proofs.YtnkjadpmigpneaaGreatDoor
end

section
set_option linter.unusedSimpArgs false
set_option linter.unusedVariables false
set_option maxRecDepth 100000
namespace Go.Proofs.YtnkjadpmigpneaaGreatDoor
namespace BN
def ch : Nat → Nat → Nat
  | _, 0 => 1
  | 0, _ + 1 => 0
  | n + 1, k + 1 => ch n k + ch n (k + 1)
theorem ch_zero (n : Nat) : ch n 0 = 1 := by cases n <;> rfl
theorem ch_none (k : Nat) : ch 0 (k + 1) = 0 := rfl
theorem ch_succ (n k : Nat) : ch (n + 1) (k + 1) = ch n k + ch n (k + 1) := rfl
theorem ch_over : ∀ n k : Nat, n < k → ch n k = 0
  | 0, 0, h => by omega
  | 0, k + 1, _ => rfl
  | n + 1, 0, h => by omega
  | n + 1, k + 1, h => by rw [ch_succ, ch_over n k (by omega), ch_over n (k + 1) (by omega)]
theorem ch_all : ∀ n : Nat, ch n n = 1
  | 0 => rfl
  | n + 1 => by rw [ch_succ, ch_all n, ch_over n (n + 1) (by omega)]
theorem ch_mul : ∀ n k : Nat, (k + 1) * ch (n + 1) (k + 1) = (n + 1) * ch n k
  | 0, 0 => rfl
  | 0, k + 1 => by rw [ch_succ, ch_none, ch_none]; simp
  | n + 1, 0 => by
    have h := ch_mul n 0
    rw [ch_zero] at h
    rw [ch_succ (n + 1) 0, ch_zero]
    omega
  | n + 1, k + 1 => by
    have h1 := ch_mul n k
    have h2 := ch_mul n (k + 1)
    rw [ch_succ (n + 1) (k + 1)]
    have e : (k + 1 + 1) * (ch (n + 1) (k + 1) + ch (n + 1) (k + 1 + 1)) = ((k + 1) * ch (n + 1) (k + 1) + ch (n + 1) (k + 1)) + (k + 1 + 1) * ch (n + 1) (k + 1 + 1) := by
      rw [Nat.mul_add, Nat.add_mul (k + 1) 1, Nat.one_mul]
    rw [e, h1, h2, ch_succ n k]
    generalize ch n k = a
    generalize ch n (k + 1) = b
    grind
theorem ch_step (n k : Nat) (h : k ≤ n) : ch n k * (n - k) = ch n (k + 1) * (k + 1) := by
  have h1 := ch_mul n k
  rw [ch_succ] at h1
  obtain ⟨d, rfl⟩ : ∃ d, n = k + d := ⟨n - k, by omega⟩
  rw [show k + d - k = d by omega]
  generalize ch (k + d) k = a at *
  generalize ch (k + d) (k + 1) = b at *
  have e1 : (k + 1) * (a + b) = (k + 1) * a + b * (k + 1) := by rw [Nat.mul_add, Nat.mul_comm (k + 1) b]
  have e2 : (k + d + 1) * a = (k + 1) * a + a * d := by rw [show k + d + 1 = (k + 1) + d by omega, Nat.add_mul, Nat.mul_comm d a]
  omega
theorem ch_le : ∀ n k : Nat, ch n k ≤ 2 ^ n
  | 0, 0 => by decide
  | 0, k + 1 => by rw [ch_none]; omega
  | n + 1, 0 => by rw [ch_zero]; exact Nat.pow_pos (by decide)
  | n + 1, k + 1 => by
    have h1 := ch_le n k
    have h2 := ch_le n (k + 1)
    rw [ch_succ, Nat.pow_succ]
    omega
def sm (f : Nat → Int) : Nat → Int
  | 0 => 0
  | j + 1 => sm f j + f j
theorem sm_succ (f : Nat → Int) (j : Nat) : sm f (j + 1) = sm f j + f j := rfl
theorem sm_first (f : Nat → Int) : ∀ j, sm f (j + 1) = f 0 + sm (fun i => f (i + 1)) j
  | 0 => by simp [sm]
  | j + 1 => by rw [sm_succ, sm_first f j, sm_succ]; omega
theorem sm_congr {f g : Nat → Int} : ∀ j, (∀ i, i < j → f i = g i) → sm f j = sm g j
  | 0, _ => rfl
  | j + 1, h => by rw [sm_succ, sm_succ, sm_congr j (fun i hi => h i (by omega)), h j (by omega)]
theorem sm_add (f g : Nat → Int) : ∀ j, sm (fun i => f i + g i) j = sm f j + sm g j
  | 0 => rfl
  | j + 1 => by rw [sm_succ, sm_add f g j, sm_succ, sm_succ]; omega
theorem sm_mul (c : Int) (f : Nat → Int) : ∀ j, sm (fun i => c * f i) j = c * sm f j
  | 0 => by simp [sm]
  | j + 1 => by rw [sm_succ, sm_mul c f j, sm_succ, Int.mul_add]
theorem sm_abs {f : Nat → Int} {M : Nat} : ∀ j, (∀ i, i < j → (f i).natAbs ≤ M) → (sm f j).natAbs ≤ j * M
  | 0, _ => by simp [sm]
  | j + 1, h => by
    have h1 := sm_abs j (fun i hi => h i (by omega))
    have h2 := h j (by omega)
    rw [sm_succ, Nat.add_mul, Nat.one_mul]
    omega
def sgn : Nat → Int
  | 0 => 1
  | i + 1 => -sgn i
def tm (n k j : Nat) : Int := sgn j * ((ch k j : Int) * ((k : Int) - j) ^ n)
def al (n k : Nat) : Int := sm (tm n k) (k + 1)
def st : Nat → Nat → Nat
  | 0, 0 => 1
  | 0, _ + 1 => 0
  | _ + 1, 0 => 0
  | n + 1, k + 1 => (k + 1) * st n (k + 1) + st n k
def fac : Nat → Nat
  | 0 => 1
  | k + 1 => fac k * (k + 1)
def md (n k i : Nat) : Int := sgn i * ((ch k i : Int) * ((k : Int) + 1 - i) ^ n)
def pk (k : Nat) : Nat → Nat
  | 0 => 0
  | n + 1 => pk k n + (n + 1) ^ k
theorem pk_le (k : Nat) : ∀ n, pk k n ≤ n * n ^ k
  | 0 => Nat.zero_le _
  | n + 1 => by
    have h := pk_le k n
    have h2 : n ^ k ≤ (n + 1) ^ k := Nat.pow_le_pow_left (by omega) k
    have h3 : n * n ^ k ≤ n * (n + 1) ^ k := Nat.mul_le_mul_left _ h2
    show pk k n + (n + 1) ^ k ≤ (n + 1) * (n + 1) ^ k
    rw [Nat.add_mul, Nat.one_mul]
    omega
end BN
end Go.Proofs.YtnkjadpmigpneaaGreatDoor
end
