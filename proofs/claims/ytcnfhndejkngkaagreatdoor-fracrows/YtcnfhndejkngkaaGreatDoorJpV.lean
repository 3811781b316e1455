import Derived.Test.YtcnfhndejkngkaaGreatDoorJpO
import Derived.Test.YtcnfhndejkngkaaGreatDoorJpU
import Derived.Test.YtcnfhndejkngkaaGreatDoorJpJ
import Derived.Test.YtcnfhndejkngkaaGreatDoorJpQ
import Derived.Test.YtcnfhndejkngkaaGreatDoorJpK
import Derived.Maps.AppendAt
import Derived.Test.YtcnfhndejkngkaaGreatDoorJpE
section
set_option linter.unusedSimpArgs false
set_option linter.unusedVariables false
set_option maxRecDepth 100000
namespace Go.Proofs.YtcnfhndejkngkaaGreatDoor
namespace ST
def rl : Bool → List Nat → List Bool
  | _, [] => []
  | b, q :: l => List.replicate q b ++ rl (!b) l
theorem nd_rep_true (l : List Bool) : ∀ k, nd (List.replicate k true ++ l) = ((nd l).1 + k * (nd l).2, (nd l).2)
  | 0 => by simp
  | k + 1 => by
    show ((nd (List.replicate k true ++ l)).1 + (nd (List.replicate k true ++ l)).2, (nd (List.replicate k true ++ l)).2) = _
    rw [nd_rep_true l k]
    show ((nd l).1 + k * (nd l).2 + (nd l).2, (nd l).2) = _
    rw [Nat.succ_mul, Nat.add_assoc]
theorem nd_rep_false (l : List Bool) : ∀ k, nd (List.replicate k false ++ l) = ((nd l).1, (nd l).2 + k * (nd l).1)
  | 0 => by simp
  | k + 1 => by
    show ((nd (List.replicate k false ++ l)).1, (nd (List.replicate k false ++ l)).1 + (nd (List.replicate k false ++ l)).2) = _
    rw [nd_rep_false l k]
    show ((nd l).1, (nd l).1 + ((nd l).2 + k * (nd l).1)) = _
    rw [Nat.succ_mul, show (nd l).1 + ((nd l).2 + k * (nd l).1) = (nd l).2 + (k * (nd l).1 + (nd l).1) by omega]
theorem rl_len : ∀ (l : List Nat) (b : Bool), (rl b l).length = l.sum
  | [], _ => rfl
  | q :: l, b => by
    show (List.replicate q b ++ rl (!b) l).length = _
    rw [List.length_append, List.length_replicate, rl_len l, List.sum_cons]
theorem rl_take : ∀ (l : List Nat) (b : Bool) (i : Nat), i < l.length → rl b (l.take (i + 1)) = rl b (l.take i) ++ List.replicate (l.getD i 0) (if i % 2 = 0 then b else !b)
  | [], _, _, h => by simp at h
  | q :: l, b, 0, h => by simp [rl]
  | q :: l, b, i + 1, h => by
    have ih := rl_take l (!b) i (by simpa using h)
    show List.replicate q b ++ rl (!b) (l.take (i + 1)) = List.replicate q b ++ rl (!b) (l.take i) ++ List.replicate (l.getD i 0) _
    rw [ih, List.append_assoc]
    congr 2
    by_cases h2 : i % 2 = 0
    · rw [if_pos h2, if_neg (by omega)]
    · rw [if_neg h2, if_pos (by omega), Bool.not_not]
def sfx : Nat → Nat → Nat → List Nat
  | a, b, 0 => [a / b - 1]
  | a, b, j + 1 => (a / b) :: sfx b (a % b) j
def Eu : Nat → Nat → Nat → Prop
  | a, b, 0 => 0 < b ∧ a % b = 0
  | a, b, j + 1 => 0 < b ∧ Eu b (a % b) j
theorem sfx_len : ∀ j a b, (sfx a b j).length = j + 1
  | 0, _, _ => rfl
  | j + 1, a, b => by show (sfx b (a % b) j).length + 1 = _; rw [sfx_len j]
theorem nd_sfx : ∀ j a b, Eu a b j → Nat.gcd a b = 1 → 0 < a → nd (rl true (sfx a b j)) = (a, b) ∧ nd (rl false (sfx a b j)) = (b, a)
  | 0, a, b, h, hg, ha => by
    have h1 : Nat.gcd a b = b := Nat.gcd_eq_right (Nat.dvd_of_mod_eq_zero h.2)
    obtain rfl : b = 1 := by omega
    have e : (sfx a 1 0) = [a - 1] := by show [a / 1 - 1] = _; rw [Nat.div_one]
    rw [e]
    constructor
    · show nd (List.replicate (a - 1) true ++ []) = _
      rw [nd_rep_true]
      show (1 + (a - 1) * 1, 1) = _
      rw [show 1 + (a - 1) * 1 = a by omega]
    · show nd (List.replicate (a - 1) false ++ []) = _
      rw [nd_rep_false]
      show (1, 1 + (a - 1) * 1) = _
      rw [show 1 + (a - 1) * 1 = a by omega]
  | j + 1, a, b, h, hg, ha => by
    have hg2 : Nat.gcd b (a % b) = 1 := by rw [Nat.gcd_comm, ← Nat.gcd_rec, Nat.gcd_comm]; exact hg
    have ih := nd_sfx j b (a % b) h.2 hg2 h.1
    have e := Nat.mod_add_div a b
    rw [Nat.mul_comm] at e
    constructor
    · show nd (List.replicate (a / b) true ++ rl false (sfx b (a % b) j)) = _
      rw [nd_rep_true, ih.2]
      show (a % b + a / b * b, b) = _
      rw [e]
    · show nd (List.replicate (a / b) false ++ rl true (sfx b (a % b) j)) = _
      rw [nd_rep_false, ih.1]
      show (b, a % b + a / b * b) = _
      rw [e]
def en (x y : Nat) : Nat → Nat × Nat
  | 0 => (x, y)
  | i + 1 => ((en x y i).2, (en x y i).1 % (en x y i).2)
theorem es_en (x y : Nat) : ∀ i, CnQ.es (x : Int) (y : Int) i = (((en x y i).1 : Int), ((en x y i).2 : Int))
  | 0 => rfl
  | i + 1 => by
    show ((CnQ.es (x : Int) (y : Int) i).2, (CnQ.es (x : Int) (y : Int) i).1 % (CnQ.es (x : Int) (y : Int) i).2) = _
    rw [es_en x y i]
    rfl
theorem kq_en (x y i : Nat) : CnQ.kq (x : Int) (y : Int) i = (((en x y i).1 / (en x y i).2 : Nat) : Int) := by
  unfold CnQ.kq
  rw [es_en]
  rfl
theorem en_shift (x y : Nat) : ∀ i, en x y (i + 1) = en y (x % y) i
  | 0 => rfl
  | i + 1 => by
    show ((en x y (i + 1)).2, (en x y (i + 1)).1 % (en x y (i + 1)).2) = ((en y (x % y) i).2, (en y (x % y) i).1 % (en y (x % y) i).2)
    rw [en_shift x y i]
theorem sfx_get : ∀ j a b i, i ≤ j → (sfx a b j).getD i 0 = if i = j then (en a b i).1 / (en a b i).2 - 1 else (en a b i).1 / (en a b i).2
  | 0, a, b, i, h => by obtain rfl : i = 0 := by omega
                        rw [if_pos rfl]; rfl
  | j + 1, a, b, 0, h => by rw [if_neg (by omega)]; rfl
  | j + 1, a, b, i + 1, h => by
    have ih := sfx_get j b (a % b) i (by omega)
    rw [← en_shift] at ih
    show (sfx b (a % b) j).getD i 0 = _
    rw [ih]
    by_cases e : i = j
    · rw [if_pos e, if_pos (by omega)]
    · rw [if_neg e, if_neg (by omega)]
theorem eu_of : ∀ j a b, (∀ i, i ≤ j → 0 < (en a b i).2) → (en a b (j + 1)).2 = 0 → Eu a b j
  | 0, a, b, h, h0 => ⟨h 0 (Nat.le_refl _), h0⟩
  | j + 1, a, b, h, h0 => ⟨h 0 (by omega), eu_of j b (a % b) (fun i hi => by rw [← en_shift]; exact h (i + 1) (by omega)) (by rw [← en_shift]; exact h0)⟩
theorem runs_of {x y N : Nat} (hx : 0 < x) (hg : Nat.gcd x y = 1) (h : CnQ.En (x : Int) (y : Int) N) : ∃ L : List Nat, L.length = N ∧ (∀ i, i < N → CnQ.kq (x : Int) (y : Int) i = (((L.getD i 0) + (if i + 1 = N then 1 else 0) : Nat) : Int)) ∧ rl true L = path x y ∧ L.sum = (path x y).length ∧ L.sum + 1 = qsum x y := by
  have h1 := h.one
  have hy : 0 < y := by have := h.b0; omega
  obtain ⟨j, rfl⟩ : ∃ j, N = j + 1 := ⟨N - 1, by omega⟩
  have hE : Eu x y j := eu_of j x y (fun i hi => by
    have := h.pos i (by omega)
    rw [es_en] at this
    exact Int.natCast_pos.1 this) (by
    have := h.zero
    rw [es_en] at this
    exact Int.natCast_eq_zero.1 this)
  have hn := (nd_sfx j x y hE hg hx).1
  have hp : rl true (sfx x y j) = path x y := by
    rw [← nd_path (rl true (sfx x y j)), hn]
  refine ⟨sfx x y j, sfx_len j x y, fun i hi => ?_, hp, by rw [← hp, rl_len], by rw [← rl_len _ true, hp, path_len hx hy hg]⟩
  rw [kq_en, sfx_get j x y i (by omega)]
  by_cases e : i = j
  · subst e
    rw [if_pos rfl, if_pos rfl]
    -- the last quotient is at least one
    have h2 : 1 ≤ (en x y i).1 / (en x y i).2 := by
      have h3 : 0 < (en x y i).2 := by
        have := h.pos i (by omega)
        rw [es_en] at this
        exact Int.natCast_pos.1 this
      rw [Nat.le_div_iff_mul_le h3, Nat.one_mul]
      rcases Nat.eq_zero_or_pos i with h4 | h4
      · subst h4
        have h5 : x % y = 0 := by
          have := h.zero
          rw [es_en] at this
          exact Int.natCast_eq_zero.1 this
        exact Nat.le_of_dvd hx (Nat.dvd_of_mod_eq_zero h5)
      · have := (h.up (i := i) (by omega) h4).1
        rw [es_en] at this
        have h6 : ((en x y i).2 : Int) < ((en x y i).1 : Int) := this
        omega
    omega
  · rw [if_neg e, if_neg (by omega)]; rfl
theorem pos_left {a k : Int} (h : 0 < a * k) (hk : 0 < k) : 0 < a := by
  rcases Int.lt_or_le 0 a with h1 | h1
  · exact h1
  · have := Int.mul_le_mul_of_nonneg_right h1 (show 0 ≤ k by omega)
    rw [Int.zero_mul] at this
    omega
theorem es_scale (a b k : Int) (hk : 0 < k) : ∀ i, CnQ.es (a * k) (b * k) i = ((CnQ.es a b i).1 * k, (CnQ.es a b i).2 * k)
  | 0 => rfl
  | i + 1 => by
    show ((CnQ.es (a * k) (b * k) i).2, (CnQ.es (a * k) (b * k) i).1 % (CnQ.es (a * k) (b * k) i).2) = _
    rw [es_scale a b k hk i]
    show ((CnQ.es a b i).2 * k, (CnQ.es a b i).1 * k % ((CnQ.es a b i).2 * k)) = ((CnQ.es a b i).2 * k, (CnQ.es a b i).1 % (CnQ.es a b i).2 * k)
    rw [Int.mul_comm (CnQ.es a b i).1 k, Int.mul_comm (CnQ.es a b i).2 k, Int.mul_emod_mul_of_pos _ _ hk, Int.mul_comm k ((CnQ.es a b i).1 % (CnQ.es a b i).2)]
theorem en_scale {a b k : Int} {N : Nat} (hk : 0 < k) (h : CnQ.En (a * k) (b * k) N) : CnQ.En a b N ∧ CnQ.ek (a * k) (b * k) N = CnQ.ek a b N := by
  refine ⟨⟨?_, fun i hi => ?_, ?_⟩, ?_⟩
  · have := h.b0
    exact pos_left this hk
  · have := h.pos i hi
    rw [es_scale a b k hk] at this
    exact pos_left this hk
  · have := h.zero
    rw [es_scale a b k hk] at this
    have h2 : (CnQ.es a b N).2 * k = 0 := this
    rcases Int.mul_eq_zero.1 h2 with h3 | h3
    · exact h3
    · omega
  · unfold CnQ.ek
    apply List.map_congr_left
    intro i _
    unfold CnQ.kq
    rw [es_scale a b k hk]
    show (CnQ.es a b i).1 * k / ((CnQ.es a b i).2 * k) = _
    rw [Int.mul_comm _ k, Int.mul_comm _ k, Int.mul_ediv_mul_of_pos _ _ hk]
theorem en_low {A B : Int} {x y N : Nat} (hg : Nat.gcd x y = 1) (hy : 0 < y) (h : CnQ.En A B N) (he : A * (y : Int) = (x : Int) * B) : CnQ.En (x : Int) (y : Int) N ∧ CnQ.ek A B N = CnQ.ek (x : Int) (y : Int) N := by
  have h1 : (y : Int) ∣ (x : Int) * B := ⟨A, by rw [← he, Int.mul_comm]⟩
  have h3 : (y : Int) ∣ B := by
    have h4 : y ∣ x * B.natAbs := by
      have := Int.natAbs_dvd_natAbs.2 h1
      rw [Int.natAbs_mul] at this
      simpa using this
    have h5 := Nat.Coprime.dvd_of_dvd_mul_left (show Nat.Coprime y x from by rw [Nat.coprime_comm]; exact hg) h4
    exact Int.natAbs_dvd_natAbs.1 (by simpa using h5)
  obtain ⟨k, hk⟩ := h3
  have hB := h.b0
  have hk0 : 0 < k := by
    rw [hk, Int.mul_comm] at hB
    exact pos_left hB (by omega)
  have hA : A = (x : Int) * k := by
    rw [hk] at he
    have h3 : (y : Int) * A = (y : Int) * ((x : Int) * k) := by rw [Int.mul_comm, he]; grind
    exact Int.eq_of_mul_eq_mul_left (by omega) h3
  have hB2 : B = (y : Int) * k := hk
  rw [hA, hB2] at h ⊢
  exact en_scale hk0 h
end ST
end Go.Proofs.YtcnfhndejkngkaaGreatDoor
end

section
set_option linter.unusedSimpArgs false
set_option linter.unusedVariables false
set_option maxRecDepth 100000
namespace Go.Proofs.YtcnfhndejkngkaaGreatDoor.CfM
structure Cq (d r p q : Int) : Prop where
  dvd : q ∣ d - p * p
  qp : 1 ≤ q
  p1 : 1 ≤ p
  pr : p ≤ r
  lo : r + 1 ≤ p + q
  hi : q ≤ p + r
structure Rt (d r : Int) : Prop where
  r1 : 1 ≤ r
  lo : r * r < d
  hi : d < (r + 1) * (r + 1)
def kq (r p q : Int) : Int := (p + r) / q
def np (r p q : Int) : Int := kq r p q * q - p
def nq (d r p q : Int) : Int := (d - np r p q * np r p q) / q
structure Nr (d s P0 Q0 P1 Q1 p q : Int) : Prop where
  c : P1 * P1 - d * (Q1 * Q1) = -s * q
  m : P1 * P0 - d * (Q1 * Q0) = s * p
  b : (P0 * P0 - d * (Q0 * Q0)) * q = s * (d - p * p)
def cs (d r : Nat) : Nat → Nat × Nat
  | 0 => (r, d - r * r)
  | i + 1 => let k := ((cs d r i).1 + r) / (cs d r i).2
             let p := k * (cs d r i).2 - (cs d r i).1
             (p, (d - p * p) / (cs d r i).2)
def cl (d r i : Nat) : Nat := ((cs d r i).1 + r) / (cs d r i).2
def st (d r : Nat) : Nat → (Nat × Nat) × (Nat × Nat)
  | 0 => ((1, 0), (r, 1))
  | i + 1 => ((st d r i).2, ((st d r i).1.1 + cl d r i * (st d r i).2.1, (st d r i).1.2 + cl d r i * (st d r i).2.2))
structure Rn (d r : Nat) : Prop where
  r1 : 1 ≤ r
  lo : r * r < d
  hi : d < (r + 1) * (r + 1)
def sgn (i : Nat) : Int := if i % 2 = 0 then 1 else -1
def pel (d r : Nat) : Nat → Nat → Nat → Nat → Nat → Nat → Nat → Bool → Option (Nat × Nat)
  | 0, _, _, _, _, _, _, _ => none
  | n + 1, p, q, P0, Q0, P1, Q1, s =>
    if q == 1 && s then some (P1, Q1) else
      let k := (p + r) / q
      let p' := k * q - p
      pel d r n p' ((d - p' * p') / q) P1 Q1 (P0 + k * P1) (Q0 + k * Q1) (!s)
def NN (n : Nat) : Nat := if n % 2 = 0 then n else 2 * n
def pickm (d r K m : Nat) : Nat :=
  let t0 := (K - m % K) % K
  if t0 ≤ r then
    let lo := r - (r - t0) % K
    if lo ≥ 1 ∧ d - lo * lo ≤ (lo + K) * (lo + K) - d then lo else lo + K
  else t0
def di (d t : Nat) : Nat := ((t : Int) * t - d).natAbs
structure Bst (d : Nat) (C : Nat → Prop) (m : Nat) : Prop where
  c : C m
  le : ∀ t, C t → di d m ≤ di d t
  lt : ∀ t, C t → t < m → di d m < di d t
def cyc (d r : Nat) : Nat → Nat → Nat → Nat → Bool → Nat → Option (Nat × Nat)
  | 0, _, _, _, _, _ => none
  | n + 1, a, b, K, neg, m =>
    if K == 1 && !neg then some (a, b) else
      let m' := pickm d r K m
      if Nat.gcd b K == 1 && (a + b * m') % K == 0 && decide (m' * m' < 4 * d + 4) && decide (1 ≤ m') && decide (1 ≤ K) then
        let up := decide (d < m' * m')
        let D := if up then m' * m' - d else d - m' * m'
        cyc d r n ((a * m' + d * b) / K) ((a + b * m') / K) (D / K) (if up then neg else !neg) m'
      else none
def Cd (d a b K t : Nat) : Prop := (1 ≤ t ∧ t * t < 4 * d + 4) ∧ (a + b * t) % K = 0
def sg (neg : Bool) (K : Nat) : Int := if neg then -(K : Int) else K
end Go.Proofs.YtcnfhndejkngkaaGreatDoor.CfM
end

section
set_option linter.unusedSimpArgs false
set_option linter.unusedVariables false
set_option maxRecDepth 100000
namespace Go.Proofs.YtcnfhndejkngkaaGreatDoor
open Go.RowKit
structure JOne (r m : Nat) (a b : Int) (R M c : Int) : Prop where
  cases : (c = 3 ∧ R = 0 ∧ M = 0 ∧ (numB a = false ∨ b < 1 ∨ 1000000000000000000 < b)) ∨
    (numB a = true ∧ ∃ n : Nat, b = (n : Int) ∧ 1 ≤ n ∧ (n : Int) ≤ 1000000000000000000 ∧
      ((c = 5 ∧ R = 0 ∧ M = 0 ∧ ¬ (Nat.gcd m n : Int) ∣ a - (r : Int)) ∨
       (c = 9 ∧ R = 0 ∧ M = 0 ∧ (Nat.gcd m n : Int) ∣ a - (r : Int) ∧ 1000000000000000000 < m * (n / Nat.gcd m n)) ∨
       (c = 0 ∧ ∃ R' : Nat, R = R' ∧ M = ((m * (n / Nat.gcd m n) : Nat) : Int) ∧ m * (n / Nat.gcd m n) ≤ 1000000000000000000 ∧ R' < m * (n / Nat.gcd m n) ∧ (m : Int) ∣ (R' : Int) - (r : Int) ∧ (n : Int) ∣ (R' : Int) - a ∧ (Nat.gcd m n : Int) ∣ a - (r : Int))))
structure IS (w : World) (s : Value) (xs : List Int) : Prop where
  shape : ∃ (aa : Option Addr) (g o cap : Nat), s = .slice aa xs.length cap ∧ (0 < xs.length → aa = some ⟨g, o, none⟩) ∧ (∀ i, i < xs.length → w.cell? ⟨g, o + i, none⟩ = some (.int .i64 (xs.getD i 0))) ∧ (0 < xs.length → g < w.heap.size)
structure JOut (rs ms : List Int) (R M c at' : Int) : Prop where
  cases : ((1000 < rs.length ∨ 1000 < ms.length) ∧ R = 0 ∧ M = 0 ∧ c = 2 ∧ at' = 0) ∨
    (rs.length ≤ 1000 ∧ ms.length ≤ 1000 ∧ rs.length ≠ ms.length ∧ R = 0 ∧ M = 0 ∧ c = 8 ∧ at' = 0) ∨
    (rs.length ≤ 1000 ∧ rs.length = ms.length ∧ ∃ (k r m : Nat) (R' M' : Int), k < rs.length ∧ MathC.JSt rs ms k r m ∧ at' = k ∧ R = 0 ∧ M = 0 ∧ c ≠ 0 ∧ JOne r m (rs.getD k 0) (ms.getD k 0) R' M' c) ∨
    (rs.length ≤ 1000 ∧ rs.length = ms.length ∧ ∃ r m : Nat, MathC.JSt rs ms rs.length r m ∧ R = r ∧ M = m ∧ c = 0 ∧ at' = 0)
end Go.Proofs.YtcnfhndejkngkaaGreatDoor
end

section
set_option linter.unusedSimpArgs false
set_option linter.unusedVariables false
set_option maxRecDepth 100000
namespace Go.Proofs.YtcnfhndejkngkaaGreatDoor
open Go.RowKit LgM
def nz (l : List Nat) : List Int := l.map (fun x : Nat => (x : Int))
def TyB (w : World) (b : Nat) : Prop := ∃ arr fr, w.heap[b]? = some (.cells arr 3 fr)
def TyI (w : World) (v : Value) : Prop := ∀ a k c, v = .slice (some a) k c → 0 < k → TyB w a.block
def LN (w : World) (v : Value) (n : Nat) : Prop := ∃ k, Nd k n ∧ IS w v (nz (dgl k n)) ∧ TyI w v
end Go.Proofs.YtcnfhndejkngkaaGreatDoor
end

section
set_option linter.unusedSimpArgs false
set_option linter.unusedVariables false
set_option maxRecDepth 100000
namespace Go.Proofs.YtcnfhndejkngkaaGreatDoor
open Go.RowKit
def sgv (d r p q : Nat) : Value := .agg #[.int .i64 (d : Int), .int .i64 (r : Int), .int .i64 (p : Int), .int .i64 (q : Int)]
def sgc (d r p q : Nat) : List Value := [.int .i64 (d : Int), .int .i64 (r : Int), .int .i64 (p : Int), .int .i64 (q : Int)]
abbrev S4c (b : Nat) (d r p q : Nat) (w : World) : Prop := w.cell? ⟨b, 0, none⟩ = some (.int .i64 (d : Int)) ∧ w.cell? ⟨b, 1, none⟩ = some (.int .i64 (r : Int)) ∧ w.cell? ⟨b, 2, none⟩ = some (.int .i64 (p : Int)) ∧ w.cell? ⟨b, 3, none⟩ = some (.int .i64 (q : Int))
end Go.Proofs.YtcnfhndejkngkaaGreatDoor
end
