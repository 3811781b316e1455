import Derived.Test.YtmifenflbaohnaaDoorRows
import Derived.WalkKit
import Derived.WalkSpells
import Derived.WalkLawsBesides
import Derived.Deep.QuietTactic
import Derived.BigQuiet
section
/- Plain facts on whole numbers: Euclid's way with its cofactors, signs and bounds. Nothing of the program. -/
set_option linter.unusedSimpArgs false
set_option maxRecDepth 100000
namespace Go.Proofs.YtmifenflbaohnaaDoor.MathA

theorem gcd_step (a b : Int) : Int.gcd b (a.tmod b) = Int.gcd a b := by
  unfold Int.gcd
  rw [Int.natAbs_tmod, Nat.gcd_comm b.natAbs, ← Nat.gcd_rec, Nat.gcd_comm]

theorem natAbs_tmod_lt (a b : Int) (hb : b ≠ 0) : (a.tmod b).natAbs < b.natAbs := by
  rw [Int.natAbs_tmod]; exact Nat.mod_lt _ (by omega)

/-- The state of the loop: what it started from, and the signs. -/
structure Eu (A B a b u v nu nv : Int) : Prop where
  lin : a = u * A + v * B
  lin2 : b = nu * A + nv * B
  st : ∃ (p r t s : Int) (α β U N V M : Nat), (p = 1 ∨ p = -1) ∧ (r = 1 ∨ r = -1) ∧ (t = 1 ∨ t = -1) ∧ (s = 1 ∨ s = -1) ∧
    a = p * α ∧ b = r * β ∧ u = -(p * r * t) * U ∧ nu = t * N ∧ v = -(p * r * s) * V ∧ nv = s * M ∧
    α * N + β * U = B.natAbs ∧ α * M + β * V = A.natAbs ∧ Nat.gcd α β = Int.gcd A B ∧
    U ≤ 1000000000000000000 ∧ N ≤ 1000000000000000000 ∧ V ≤ 1000000000000000000 ∧ M ≤ 1000000000000000000 ∧
    α ≤ 1000000000000000000 ∧ β ≤ 1000000000000000000 ∧ ((N = 0 ∧ U = 1 ∧ 0 < β) ∨ (β < α ∧ 1 ≤ N ∧ (β = 0 → U < N)))

theorem sgn_form (x : Int) : ∃ p : Int, (p = 1 ∨ p = -1) ∧ x = p * (x.natAbs : Nat) := by
  by_cases h : 0 ≤ x
  · exact ⟨1, Or.inl rfl, by omega⟩
  · exact ⟨-1, Or.inr rfl, by omega⟩

theorem eu_start (A B : Int) (hA : A.natAbs ≤ 1000000000000000000) (hB : B.natAbs ≤ 1000000000000000000) (hb : B ≠ 0) : Eu A B A B 1 0 0 1 := by
  refine ⟨by omega, by omega, ?_⟩
  obtain ⟨p, hp, ep⟩ := sgn_form A
  obtain ⟨r, hr, er⟩ := sgn_form B
  refine ⟨p, r, -(p * r), 1, A.natAbs, B.natAbs, 1, 0, 0, 1, hp, hr, ?_, Or.inl rfl, ep, er, ?_, by simp, by simp, by simp, by omega, by omega, rfl, by omega, by omega, by omega, by omega, hA, hB, Or.inl ⟨rfl, rfl, by omega⟩⟩
  · rcases hp with rfl | rfl <;> rcases hr with rfl | rfl <;> decide
  · rcases hp with rfl | rfl <;> rcases hr with rfl | rfl <;> decide

theorem tdiv_sgn (p r : Int) (α β : Nat) (hp : p = 1 ∨ p = -1) (hr : r = 1 ∨ r = -1) : (p * α).tdiv (r * β) = p * r * ((α / β : Nat) : Int) := by
  have e : (α : Int).tdiv (β : Int) = ((α / β : Nat) : Int) := (Int.ofNat_tdiv α β).symm
  rcases hp with rfl | rfl <;> rcases hr with rfl | rfl <;> simp [Int.neg_tdiv, Int.tdiv_neg, -Int.natCast_ediv, e]

theorem div_bound (α β K : Nat) (h : α ≤ K) : α / β * β ≤ K := Nat.le_trans (Nat.div_mul_le_self α β) h

/-- One round. -/
theorem eu_step {A B a b u v nu nv : Int} (hA : A.natAbs ≤ 1000000000000000000) (hB : B.natAbs ≤ 1000000000000000000) (h : Eu A B a b u v nu nv) (hb : b ≠ 0) :
    Eu A B b (a - a.tdiv b * b) nu nv (u - a.tdiv b * nu) (v - a.tdiv b * nv) ∧
    (a - a.tdiv b * b).natAbs < b.natAbs ∧
    (a.tdiv b).natAbs ≤ 1000000000000000000 ∧ (a.tdiv b * b).natAbs ≤ 1000000000000000000 ∧ (a.tdiv b * nu).natAbs ≤ 1000000000000000000 ∧ (a.tdiv b * nv).natAbs ≤ 1000000000000000000 := by
  obtain ⟨l1, l2, p, r, t, s, α, β, U, N, V, M, hp, hr, ht, hs, ea, eb, eu, enu, ev, env, i1, i2, ig, bU, bN, bV, bM, bα, bβ, hd⟩ := h
  have hβ : 0 < β := by
    rcases Nat.eq_zero_or_pos β with h0 | h0
    · subst h0; simp at eb; exact absurd eb hb
    · exact h0
  have q1 : a.tdiv b = p * r * ((α / β : Nat) : Int) := by rw [ea, eb]; exact tdiv_sgn p r α β hp hr
  have hmod : α % β < β := Nat.mod_lt _ hβ
  have hdm : β * (α / β) + α % β = α := Nat.div_add_mod α β
  generalize hq : α / β = q at *
  generalize hρ : α % β = ρ at *
  -- the new cofactors
  have j1 : β * (U + q * N) + ρ * N = B.natAbs := by
    rw [← i1, ← hdm]; simp only [Nat.mul_add, Nat.add_mul, Nat.mul_assoc, Nat.mul_comm, Nat.mul_left_comm]; omega
  have j2 : β * (V + q * M) + ρ * M = A.natAbs := by
    rw [← i2, ← hdm]; simp only [Nat.mul_add, Nat.add_mul, Nat.mul_assoc, Nat.mul_comm, Nat.mul_left_comm]; omega
  have k1 : U + q * N ≤ B.natAbs := by
    have : 1 * (U + q * N) ≤ β * (U + q * N) := Nat.mul_le_mul_right _ hβ
    omega
  have k2 : V + q * M ≤ A.natAbs := by
    have : 1 * (V + q * M) ≤ β * (V + q * M) := Nat.mul_le_mul_right _ hβ
    omega
  have kq : q ≤ α := by
    have : 1 * q ≤ β * q := Nat.mul_le_mul_right _ hβ
    omega
  have e1 : a.tdiv b * b = p * ((q * β : Nat) : Int) := by
    rw [q1, eb]; rcases hp with rfl | rfl <;> rcases hr with rfl | rfl <;> simp [Int.neg_mul, Int.mul_neg]
  have e2 : a.tdiv b * nu = p * r * t * ((q * N : Nat) : Int) := by
    rw [q1, enu]; rcases hp with rfl | rfl <;> rcases hr with rfl | rfl <;> rcases ht with rfl | rfl <;> simp [Int.neg_mul, Int.mul_neg]
  have e3 : a.tdiv b * nv = p * r * s * ((q * M : Nat) : Int) := by
    rw [q1, env]; rcases hp with rfl | rfl <;> rcases hr with rfl | rfl <;> rcases hs with rfl | rfl <;> simp [Int.neg_mul, Int.mul_neg]
  have e4 : a - a.tdiv b * b = p * (ρ : Int) := by
    rw [e1, ea]; have : (α : Int) = ((q * β : Nat) : Int) + ρ := by rw [← hdm, Nat.mul_comm β q]; omega
    rw [this]; rcases hp with rfl | rfl <;> omega
  refine ⟨⟨l2, ?_, r, p, -(p * r * t), -(p * r * s), β, ρ, N, U + q * N, M, V + q * M, hr, hp, ?_, ?_, eb, e4, ?_, ?_, ?_, ?_, j1, j2, ?_, bN, by omega, bM, by omega, bβ, by omega, ?_⟩, ?_, ?_, ?_, ?_, ?_⟩
  · have x1 : (u - a.tdiv b * nu) * A + (v - a.tdiv b * nv) * B = (u * A + v * B) - a.tdiv b * (nu * A + nv * B) := by
      simp only [Int.sub_mul, Int.mul_add, Int.mul_assoc]; omega
    rw [x1, ← l1, ← l2]
  · rcases hp with rfl | rfl <;> rcases hr with rfl | rfl <;> rcases ht with rfl | rfl <;> decide
  · rcases hp with rfl | rfl <;> rcases hr with rfl | rfl <;> rcases hs with rfl | rfl <;> decide
  · rw [enu]; rcases hp with rfl | rfl <;> rcases hr with rfl | rfl <;> rcases ht with rfl | rfl <;> simp [Int.neg_mul, Int.mul_neg]
  · rw [e2, eu]; rcases hp with rfl | rfl <;> rcases hr with rfl | rfl <;> rcases ht with rfl | rfl <;> omega
  · rw [env]; rcases hp with rfl | rfl <;> rcases hr with rfl | rfl <;> rcases hs with rfl | rfl <;> simp [Int.neg_mul, Int.mul_neg]
  · rw [e3, ev]; rcases hp with rfl | rfl <;> rcases hr with rfl | rfl <;> rcases hs with rfl | rfl <;> omega
  · rw [← ig, ← hρ, Nat.gcd_comm β, ← Nat.gcd_rec, Nat.gcd_comm]
  · right
    rcases hd with ⟨h1, h2, h3⟩ | ⟨h1, h2, h3⟩
    · subst h1 h2
      exact ⟨hmod, by omega, fun _ => by omega⟩
    · refine ⟨hmod, ?_, fun h0 => ?_⟩
      · have : 1 ≤ q := by
          rcases Nat.eq_zero_or_pos q with hz | hz
          · subst hz; omega
          · exact hz
        have : 1 * N ≤ q * N := Nat.mul_le_mul_right _ this
        omega
      · have : 2 ≤ q := by
          rcases Nat.lt_or_ge q 2 with hz | hz
          · have : q = 0 ∨ q = 1 := by omega
            rcases this with h | h <;> subst h <;> omega
          · exact hz
        have : 2 * N ≤ q * N := Nat.mul_le_mul_right _ this
        omega
  · rw [e4, eb]; rcases hp with rfl | rfl <;> rcases hr with rfl | rfl <;> omega
  · rw [q1]; rcases hp with rfl | rfl <;> rcases hr with rfl | rfl <;> omega
  · have : q * β ≤ α := by rw [Nat.mul_comm]; omega
    rw [e1]; rcases hp with rfl | rfl <;> omega
  · rw [e2]; rcases hp with rfl | rfl <;> rcases hr with rfl | rfl <;> rcases ht with rfl | rfl <;> omega
  · rw [e3]; rcases hp with rfl | rfl <;> rcases hr with rfl | rfl <;> rcases hs with rfl | rfl <;> omega

theorem eu_bounds {A B a b u v nu nv : Int} (h : Eu A B a b u v nu nv) :
    a.natAbs ≤ 1000000000000000000 ∧ b.natAbs ≤ 1000000000000000000 ∧ u.natAbs ≤ 1000000000000000000 ∧ v.natAbs ≤ 1000000000000000000 ∧ nu.natAbs ≤ 1000000000000000000 ∧ nv.natAbs ≤ 1000000000000000000 := by
  obtain ⟨_, _, p, r, t, s, α, β, U, N, V, M, hp, hr, ht, hs, ea, eb, eu, enu, ev, env, _, _, _, bU, bN, bV, bM, bα, bβ, _⟩ := h
  rw [ea, eb, eu, enu, ev, env]
  rcases hp with rfl | rfl <;> rcases hr with rfl | rfl <;> rcases ht with rfl | rfl <;> rcases hs with rfl | rfl <;> omega

/-- At the end: the greatest divisor, and a cofactor that is small. -/
theorem eu_end {A B a u v nu nv : Int} (hB : B ≠ 0) (h : Eu A B a 0 u v nu nv) :
    a.natAbs = Int.gcd A B ∧ u.natAbs < B.natAbs / Int.gcd A B ∧ a = u * A + v * B ∧ 0 < Int.gcd A B := by
  have hg : 0 < Int.gcd A B := Int.gcd_pos_of_ne_zero_right _ hB
  obtain ⟨l1, _, p, r, t, s, α, β, U, N, V, M, hp, hr, ht, hs, ea, eb, eu, enu, ev, env, i1, i2, ig, bU, bN, bV, bM, bα, bβ, hd⟩ := h
  have hβ : β = 0 := by rcases hr with rfl | rfl <;> omega
  subst hβ
  simp only [Nat.gcd_zero_right] at ig
  have hd' : U < N := by
    rcases hd with ⟨_, _, h3⟩ | ⟨_, _, h3⟩
    · omega
    · exact h3 rfl
  refine ⟨?_, ?_, l1, hg⟩
  · rw [ea, ← ig]; rcases hp with rfl | rfl <;> omega
  · have : B.natAbs / Int.gcd A B = N := by
      rw [← ig, ← i1]; simp only [Nat.zero_mul, Nat.add_zero]
      exact Nat.mul_div_cancel_left _ (by omega)
    rw [this, eu]; rcases hp with rfl | rfl <;> rcases hr with rfl | rfl <;> rcases ht with rfl | rfl <;> omega

end Go.Proofs.YtmifenflbaohnaaDoor.MathA
end

section
/- Contracts of package whole's plain functions (isNumber, size, sign, gcd, euclid, bezout, left) over this translation. -/
set_option linter.unusedSimpArgs false
set_option linter.unusedVariables false
set_option maxRecDepth 100000
namespace Go.Proofs.YtmifenflbaohnaaDoor
open Go.RowKit

theorem ret_int {k : IntKind} {a b : Int} (h : a = b) : Ending.returned (.int k a) = .returned (.int k b) := by rw [h]
theorem ret3 {k1 k2 k3 : IntKind} {a b c a' b' c' : Int} (h1 : a = a') (h2 : b = b') (h3 : c = c') : Ending.returned (.tuple #[.int k1 a, .int k2 b, .int k3 c]) = .returned (.tuple #[.int k1 a', .int k2 b', .int k3 c']) := by rw [h1, h2, h3]
theorem ret_bool {a b : Bool} (h : a = b) : Ending.returned (.bool a) = .returned (.bool b) := by rw [h]

def numB (n : Int) : Bool := decide (-1000000000000000000 ≤ n) && decide (n ≤ 1000000000000000000)
theorem numB_true {n : Int} (h : numB n = true) : -1000000000000000000 ≤ n ∧ n ≤ 1000000000000000000 := by
  simpa [numB] using h
theorem numB_mk {n : Int} (h1 : -1000000000000000000 ≤ n) (h2 : n ≤ 1000000000000000000) : numB n = true := by
  simp [numB, h1, h2]
theorem numB_false {n : Int} (h : numB n = false) : n < -1000000000000000000 ∨ 1000000000000000000 < n := by
  simp [numB] at h; omega

end Go.Proofs.YtmifenflbaohnaaDoor
end

section
/- Contracts of package whole's bezout, left, Gcd, Bezout and what they call. -/
set_option linter.unusedSimpArgs false
set_option linter.unusedVariables false
set_option maxRecDepth 100000
namespace Go.Proofs.YtmifenflbaohnaaDoor
open Go.RowKit

theorem sign_self (x : Int) : x.sign * x = (x.natAbs : Int) := by
  rcases Int.lt_trichotomy x 0 with h | h | h
  · rw [Int.sign_eq_neg_one_of_neg h]; omega
  · subst h; rfl
  · rw [Int.sign_eq_one_of_pos h]; omega

theorem bez_fix (a b g u v : Int) (hg : 0 < g) (h : u * a + v * b = g) (ha : ∃ k, a = g * k) (hb : ∃ k, b = g * k) :
    (u + (b.natAbs : Int).tdiv g) * a + (v - b.sign * a.tdiv g) * b = g := by
  obtain ⟨x, rfl⟩ := ha
  obtain ⟨y, rfl⟩ := hb
  have e1 : (g * x).tdiv g = x := Int.mul_tdiv_cancel_left _ (by omega)
  have e2 : ((g * y).natAbs : Int).tdiv g = (y.natAbs : Int) := by
    rw [Int.natAbs_mul, Int.natCast_mul, Int.natAbs_of_nonneg (by omega)]; exact Int.mul_tdiv_cancel_left _ (by omega)
  have e3 : (g * y).sign = y.sign := by rw [Int.sign_mul, Int.sign_eq_one_of_pos hg, Int.one_mul]
  have e4 : (y.natAbs : Int) = y.sign * y := (sign_self y).symm
  rw [e1, e2, e3, e4, Int.add_mul, Int.sub_mul]
  have e5 : y.sign * y * (g * x) = y.sign * x * (g * y) := by simp only [Int.mul_assoc, Int.mul_comm, Int.mul_left_comm]
  omega

/-- What Bezout promises. -/
structure Bez (a b u v : Int) : Prop where
  lin : u * a + v * b = (Int.gcd a b : Int)
  nul : b = 0 → v = 0 ∧ u = a.sign
  low : b ≠ 0 → 0 ≤ u
  high : b ≠ 0 → u < (b.natAbs / Int.gcd a b : Nat)
  vb : v.natAbs ≤ 2000000000000000000

end Go.Proofs.YtmifenflbaohnaaDoor
end

section
/- The program: bound.Between, bound.Within. -/
set_option linter.unusedSimpArgs false
set_option linter.unusedVariables false
set_option maxRecDepth 100000
namespace Go.Proofs.YtmifenflbaohnaaDoor
open Go.RowKit

def bwB (lo hi x : Int) : Bool := decide (lo ≤ x) && decide (x ≤ hi)
/-- The fault of the first that is not from lo to hi: its code and place. -/
def nb (lo hi : Int) : Nat → List Int → Int × Int
  | _, [] => (0, 0)
  | i, x :: r => if bwB lo hi x = true then nb lo hi (i + 1) r else (3, i)
theorem nb_skip (lo hi : Int) (xs : List Int) (k : Nat) (hk : k ≤ xs.length) (h : ∀ j, j < k → bwB lo hi (xs.getD j 0) = true) : nb lo hi 0 xs = nb lo hi k (xs.drop k) := by
  induction k with
  | zero => rfl
  | succ n ih =>
    rw [ih (by omega) (fun j hj => h j (by omega)), List.drop_eq_getElem_cons (by omega), nb]
    have := h n (by omega)
    rw [List.getD_eq_getElem?_getD, List.getElem?_eq_getElem (by omega), Option.getD_some] at this
    rw [if_pos this]
theorem nb_none (lo hi : Int) (xs : List Int) (h : ∀ j, j < xs.length → bwB lo hi (xs.getD j 0) = true) : nb lo hi 0 xs = (0, 0) := by
  rw [nb_skip lo hi xs xs.length (Nat.le_refl _) h, List.drop_length]; rfl
theorem nb_hit (lo hi : Int) (xs : List Int) (k : Nat) (hk : k < xs.length) (h : ∀ j, j < k → bwB lo hi (xs.getD j 0) = true) (hb : bwB lo hi (xs.getD k 0) = false) : nb lo hi 0 xs = (3, (k : Int)) := by
  rw [nb_skip lo hi xs k (by omega) h, List.drop_eq_getElem_cons hk, nb]
  rw [List.getD_eq_getElem?_getD, List.getElem?_eq_getElem hk, Option.getD_some] at hb
  rw [if_neg (by simp [hb])]

def inB (m x : Int) : Bool := decide (-m ≤ x) && decide (x ≤ m)
/-- The fault of the first that is above m in size: its code and place. -/
def nw (m : Int) : Nat → List Int → Int × Int
  | _, [] => (0, 0)
  | i, x :: r => if inB m x = true then nw m (i + 1) r else (3, i)
theorem nw_skip (m : Int) (xs : List Int) (k : Nat) (hk : k ≤ xs.length) (h : ∀ j, j < k → inB m (xs.getD j 0) = true) : nw m 0 xs = nw m k (xs.drop k) := by
  induction k with
  | zero => rfl
  | succ n ih =>
    rw [ih (by omega) (fun j hj => h j (by omega)), List.drop_eq_getElem_cons (by omega), nw]
    have := h n (by omega)
    rw [List.getD_eq_getElem?_getD, List.getElem?_eq_getElem (by omega), Option.getD_some] at this
    rw [if_pos this]
theorem nw_none (m : Int) (xs : List Int) (h : ∀ j, j < xs.length → inB m (xs.getD j 0) = true) : nw m 0 xs = (0, 0) := by
  rw [nw_skip m xs xs.length (Nat.le_refl _) h, List.drop_length]; rfl
theorem nw_hit (m : Int) (xs : List Int) (k : Nat) (hk : k < xs.length) (h : ∀ j, j < k → inB m (xs.getD j 0) = true) (hb : inB m (xs.getD k 0) = false) : nw m 0 xs = (3, (k : Int)) := by
  rw [nw_skip m xs k (by omega) h, List.drop_eq_getElem_cons hk, nw]
  rw [List.getD_eq_getElem?_getD, List.getElem?_eq_getElem hk, Option.getD_some] at hb
  rw [if_neg (by simp [hb])]

set_option maxHeartbeats 400000 in
theorem between_any (lo hi : Int) (xs : List Int) (b o cap : Nat) (w : World) (hl : xs.length ≤ 1000000000) (hb : b < w.heap.size)
    (hc : ∀ j, j < xs.length → w.cell? ⟨b, o + j, none⟩ = some (.int .i64 (xs.getD j 0))) :
    Calls Tryd.prog 22 #[.int .i64 lo, .int .i64 hi, .slice (some ⟨b, o, none⟩) xs.length cap] w fun e w' => e = .returned (.agg #[.int .i64 (nb lo hi 0 xs).1, .int .i64 (nb lo hi 0 xs).2]) ∧ Below w.heap.size w w' := by
  go_enter Tryd.func22, Tryd.ntmps22
  go_wp2
  go_loop [11] (fun i => ∃ k : Nat, k ≤ xs.length ∧ i = .int .i64 k ∧ ∀ j, j < k → bwB lo hi (xs.getD j 0) = true) (fun i => xs.length - (intOf i).toNat)
  case atStart => exact ⟨0, Nat.zero_le _, rfl, fun j hj => absurd hj (Nat.not_lt_zero _)⟩
  case round =>
    obtain ⟨k, hk, rfl, hok⟩ := hrel
    have HOK : Hid (∀ j, j < k → bwB lo hi (xs.getD j 0) = true) := hok
    have HC := hc
    clear hok hc
    by_cases hlt : k < xs.length
    · have hck := HC k hlt
      obtain ⟨x, hx⟩ : ∃ x, x = xs.getD k 0 := ⟨_, rfl⟩
      rw [← hx] at hck
      have HX : Hid (x = xs.getD k 0) := hx
      clear HC hx
      by_cases h1 : x < lo
      · have t1 : decide (x < lo) = true := decide_eq_true h1
        have hn : Hid (bwB lo hi x = false) := by show _ = _; simp [bwB]; omega
        clear h1
        go_wp2
        refine bodyPost_ret (v := .agg #[.int .i64 3, .int .i64 k]) (by simp [results, Tryd.results22, go_sem]) rfl ⟨?_, ?_⟩
        · rw [nb_hit lo hi xs k hlt HOK.out (by rw [← HX.out]; exact hn.out)]
        · exact Below.alloc (Below.refl _ _) (Nat.le_refl _) _
      · have t1 : decide (x < lo) = false := decide_eq_false h1
        by_cases h2 : hi < x
        · have t2 : decide (hi < x) = true := decide_eq_true h2
          have hn : Hid (bwB lo hi x = false) := by show _ = _; simp [bwB]; omega
          clear h1 h2
          go_wp2
          refine bodyPost_ret (v := .agg #[.int .i64 3, .int .i64 k]) (by simp [results, Tryd.results22, go_sem]) rfl ⟨?_, ?_⟩
          · rw [nb_hit lo hi xs k hlt HOK.out (by rw [← HX.out]; exact hn.out)]
          · exact Below.alloc (Below.refl _ _) (Nat.le_refl _) _
        · have t2 : decide (hi < x) = false := decide_eq_false h2
          have hn : Hid (bwB lo hi x = true) := by show _ = _; simp [bwB]; omega
          clear h1 h2
          go_wp2
          go_round
          case rel =>
            refine ⟨k + 1, by omega, by go_num, fun j hj => ?_⟩
            by_cases hjk : j = k
            · subst hjk; rw [← HX.out]; exact hn.out
            · exact HOK.out j (by omega)
          case measure => simp [intOf]; omega
    · go_wp2
      refine bodyPost_ret (v := .agg #[.int .i64 0, .int .i64 0]) (by simp [results, Tryd.results22, go_sem]) rfl ⟨?_, ?_⟩
      · rw [nb_none lo hi xs (fun j hj => HOK.out j (by omega))]
      · exact Below.alloc (Below.refl _ _) (Nat.le_refl _) _


theorem nw_nb (m : Int) : ∀ (xs : List Int) (i : Nat), nw m i xs = nb (-m) m i xs
  | [], _ => rfl
  | x :: r, i => by rw [nw, nb, nw_nb m r (i + 1)]; rfl

end Go.Proofs.YtmifenflbaohnaaDoor
end

section
/- Contracts: the faults of numbers, and the calls Gcd and Bezout. -/
set_option linter.unusedSimpArgs false
set_option linter.unusedVariables false
set_option maxRecDepth 100000
namespace Go.Proofs.YtmifenflbaohnaaDoor
open Go.RowKit

/-- The fault of the first that is no number: its code and place. -/
def nf : Nat → List Int → Int × Int
  | _, [] => (0, 0)
  | i, x :: r => if numB x = true then nf (i + 1) r else (3, i)

theorem nf_skip (xs : List Int) (k : Nat) (hk : k ≤ xs.length) (h : ∀ j, j < k → numB (xs.getD j 0) = true) : nf 0 xs = nf k (xs.drop k) := by
  induction k with
  | zero => rfl
  | succ n ih =>
    rw [ih (by omega) (fun j hj => h j (by omega)), List.drop_eq_getElem_cons (by omega), nf]
    have := h n (by omega)
    rw [List.getD_eq_getElem?_getD, List.getElem?_eq_getElem (by omega), Option.getD_some] at this
    rw [if_pos this]
theorem nf_none (xs : List Int) (h : ∀ j, j < xs.length → numB (xs.getD j 0) = true) : nf 0 xs = (0, 0) := by
  rw [nf_skip xs xs.length (Nat.le_refl _) h, List.drop_length]; rfl
theorem nf_hit (xs : List Int) (k : Nat) (hk : k < xs.length) (h : ∀ j, j < k → numB (xs.getD j 0) = true) (hb : numB (xs.getD k 0) = false) : nf 0 xs = (3, (k : Int)) := by
  rw [nf_skip xs k (by omega) h, List.drop_eq_getElem_cons hk, nf]
  rw [List.getD_eq_getElem?_getD, List.getElem?_eq_getElem hk, Option.getD_some] at hb
  rw [if_neg (by simp [hb])]

theorem nf_nw : ∀ (xs : List Int) (i : Nat), nf i xs = nw 1000000000000000000 i xs
  | [], _ => rfl
  | x :: r, i => by rw [nf, nw, nf_nw r (i + 1)]; rfl

theorem bcell {W w1 : World} (hb : Below W.heap.size W w1) : (∀ b o, b < W.heap.size → w1.cell? ⟨b, o, none⟩ = W.cell? ⟨b, o, none⟩) ∧ (∀ b o, b < W.heap.size → w1.frozen? ⟨b, o, none⟩ = W.frozen? ⟨b, o, none⟩) :=
  ⟨fun b o h => hb.cell (p := ⟨b, o, none⟩) h, fun b o h => hb.frozen (p := ⟨b, o, none⟩) h⟩

theorem below_drewN' {B n : Nat} {a w : World} (h : Below B a w) : Below B a (w.drewN n) := ⟨h.os, h.tape, h.output, h.size, h.block⟩

theorem two_cells (a b : Int) (W : World) (B : Nat) (h0 : W.cell? ⟨B, 0, none⟩ = some (.int .i64 a)) (h1 : W.cell? ⟨B, 1, none⟩ = some (.int .i64 b)) :
    ∀ j, j < [a, b].length → W.cell? ⟨B, 0 + j, none⟩ = some (.int .i64 ([a, b].getD j 0)) := by
  intro j hj
  match j, hj with
  | 0, _ => exact h0
  | 1, _ => exact h1

def okB (a b : Int) : Bool := numB a && numB b

theorem okB_bounds {a b : Int} (h : okB a b = true) : a.natAbs ≤ 1000000000000000000 ∧ b.natAbs ≤ 1000000000000000000 := by
  unfold okB at h; rw [Bool.and_eq_true] at h
  have h1 := numB_true h.1; have h2 := numB_true h.2; omega
theorem okB_nf {a b : Int} (h : okB a b = true) : nf 0 [a, b] = (0, 0) := by
  unfold okB at h; rw [Bool.and_eq_true] at h
  simp [nf, h.1, h.2]

end Go.Proofs.YtmifenflbaohnaaDoor
end
