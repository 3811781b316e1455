import Derived.Test.YtbeceimopamllaaDoorJnB
section
/- Contracts of package whole's bezout, left, Gcd, Bezout and what they call. -/
set_option linter.unusedSimpArgs false
set_option linter.unusedVariables false
set_option maxRecDepth 100000
namespace Go.Proofs.YtbeceimopamllaaDoor
open Go.RowKit

theorem sign_self (x : Int) : x.sign * x = (x.natAbs : Int) := by
  rcases Int.lt_trichotomy x 0 with h | h | h
  · rw [Int.sign_eq_neg_one_of_neg h]; omega
  · subst h; rfl
  · rw [Int.sign_eq_one_of_pos h]; omega

theorem bez_fix (a b g u v : Int) (hg : 0 < g) (h : u * a + v * b = g) (ha : ∃ k, a = g * k) (hb : ∃ k, b = g * k) :
    (u + (b.natAbs : Int).tdiv g) * a + (v - b.sign * a.tdiv g) * b = g := by
  obtain ⟨x, rfl⟩ := ha
  obtain ⟨y, rfl⟩ := hb
  have e1 : (g * x).tdiv g = x := Int.mul_tdiv_cancel_left _ (by omega)
  have e2 : ((g * y).natAbs : Int).tdiv g = (y.natAbs : Int) := by
    rw [Int.natAbs_mul, Int.natCast_mul, Int.natAbs_of_nonneg (by omega)]; exact Int.mul_tdiv_cancel_left _ (by omega)
  have e3 : (g * y).sign = y.sign := by rw [Int.sign_mul, Int.sign_eq_one_of_pos hg, Int.one_mul]
  have e4 : (y.natAbs : Int) = y.sign * y := (sign_self y).symm
  rw [e1, e2, e3, e4, Int.add_mul, Int.sub_mul]
  have e5 : y.sign * y * (g * x) = y.sign * x * (g * y) := by simp only [Int.mul_assoc, Int.mul_comm, Int.mul_left_comm]
  omega

/-- What Bezout promises. -/
structure Bez (a b u v : Int) : Prop where
  lin : u * a + v * b = (Int.gcd a b : Int)
  nul : b = 0 → v = 0 ∧ u = a.sign
  low : b ≠ 0 → 0 ≤ u
  high : b ≠ 0 → u < (b.natAbs / Int.gcd a b : Nat)
  vb : v.natAbs ≤ 2000000000000000000

set_option maxHeartbeats 1000000 in
theorem bezout_any (a b : Int) (w : World) (ha : a.natAbs ≤ 1000000000000000000) (hb : b.natAbs ≤ 1000000000000000000) :
    Calls Tryd.prog 81 #[.int .i64 a, .int .i64 b] w fun e w' => ∃ u v : Int, e = .returned (.tuple #[.int .i64 (Int.gcd a b : Int), .int .i64 u, .int .i64 v]) ∧
      Bez a b u v ∧ ∃ n, w' = w.drewN n := by
  by_cases h0 : b = 0
  · subst h0
    have hq : (a.sign * a = (a.natAbs : Int)) := sign_self a
    have HQ : Hid (a.sign * a = (a.natAbs : Int)) := hq
    clear hq
    go_enter Tryd.func81, Tryd.ntmps81
    go_wp2_with (first | (go_at_call 88; refine (size_any _ _ (by omega) (by omega)).mono ?_; rintro e w' ⟨rfl, rfl⟩) | (go_at_call 89; refine (sign_any _ _).mono ?_; rintro e w' ⟨rfl, rfl⟩))
    go_ret3
    refine ⟨a.sign, 0, ret3 (by rw [Int.gcd_zero_right]) rfl rfl, ⟨?_, fun _ => ⟨rfl, rfl⟩, fun h => absurd rfl h, fun h => absurd rfl h, by decide⟩, 0, rfl⟩
    rw [Int.gcd_zero_right, HQ.out]; omega
  · have hgp : 0 < Int.gcd a b := Int.gcd_pos_of_ne_zero_right _ h0
    have hgb : (Int.gcd a b : Int) ∣ b := Int.gcd_dvd_right ..
    have hga : (Int.gcd a b : Int) ∣ a := Int.gcd_dvd_left ..
    have hdb : (b.natAbs : Int) / (Int.gcd a b : Int) ≤ 1000000000000000000 ∧ 0 ≤ (b.natAbs : Int) / (Int.gcd a b : Int) := by
      rw [← Int.natCast_ediv]; have := Nat.div_le_self b.natAbs (Int.gcd a b); generalize b.natAbs / Int.gcd a b = z at *; omega
    have hda : -1000000000000000000 ≤ b.sign * a.tdiv (Int.gcd a b : Int) ∧ b.sign * a.tdiv (Int.gcd a b : Int) ≤ 1000000000000000000 := by
      have h1 : (a.tdiv (Int.gcd a b : Int)).natAbs ≤ 1000000000000000000 := by
        rw [Int.natAbs_tdiv]; exact Nat.le_trans (Nat.div_le_self ..) ha
      rcases Int.lt_trichotomy b 0 with h | h | h
      · rw [Int.sign_eq_neg_one_of_neg h]; omega
      · exact absurd h h0
      · rw [Int.sign_eq_one_of_pos h]; omega
    go_enter Tryd.func81, Tryd.ntmps81
    go_wp2_with fail
    refine (euclid_any a b _ ha hb h0).mono ?_
    rintro e w1 ⟨u, v, rfl, hl, hu, hv, hw1⟩
    have HW : Hid (∃ n, w1 = w.drewN n) := hw1
    clear hw1
    have HL : Hid (u * a + v * b = (Int.gcd a b : Int)) := hl
    have HU : Hid (u.natAbs < b.natAbs / Int.gcd a b) := hu
    have hu2 : -1000000000000000000 ≤ u ∧ u ≤ 1000000000000000000 := by
      have := Nat.div_le_self b.natAbs (Int.gcd a b); omega
    clear hl hu
    by_cases hneg : u < 0
    · go_wp2_with (go_at_call 88; refine (size_any _ _ (by omega) (by omega)).mono ?_; rintro e w' ⟨rfl, rfl⟩)
      go_quiet ((go_at_call 89; exact Calls.quiet_of_same (sign_any _ _)))
      go_wp2
      go_ret3
      refine ⟨_, _, rfl, ⟨?_, fun h => absurd h h0, fun _ => ?_, fun _ => ?_, by omega⟩, ?_⟩
      · have := bez_fix a b (Int.gcd a b) u v (by omega) HL.out hga hgb
        rwa [Int.tdiv_eq_ediv_of_nonneg (by omega)] at this
      · have := HU.out; rw [← Int.natCast_ediv]; omega
      · rw [← Int.natCast_ediv]; omega
      · obtain ⟨n, rfl⟩ := HW.out; exact ⟨_, World.drewN_drewN ..⟩
    · go_wp2
      go_ret3
      exact ⟨u, v, rfl, ⟨HL.out, fun h => absurd h h0, fun _ => by omega, fun _ => by have := HU.out; omega, by omega⟩, HW.out⟩

end Go.Proofs.YtbeceimopamllaaDoor
end

section
/- Contracts: the faults of numbers, and the calls Gcd and Bezout. -/
set_option linter.unusedSimpArgs false
set_option linter.unusedVariables false
set_option maxRecDepth 100000
namespace Go.Proofs.YtbeceimopamllaaDoor
open Go.RowKit

/-- The fault of the first that is no number: its code and place. -/
def nf : Nat → List Int → Int × Int
  | _, [] => (0, 0)
  | i, x :: r => if numB x = true then nf (i + 1) r else (3, i)

theorem nf_skip (xs : List Int) (k : Nat) (hk : k ≤ xs.length) (h : ∀ j, j < k → numB (xs.getD j 0) = true) : nf 0 xs = nf k (xs.drop k) := by
  induction k with
  | zero => rfl
  | succ n ih =>
    rw [ih (by omega) (fun j hj => h j (by omega)), List.drop_eq_getElem_cons (by omega), nf]
    have := h n (by omega)
    rw [List.getD_eq_getElem?_getD, List.getElem?_eq_getElem (by omega), Option.getD_some] at this
    rw [if_pos this]
theorem nf_none (xs : List Int) (h : ∀ j, j < xs.length → numB (xs.getD j 0) = true) : nf 0 xs = (0, 0) := by
  rw [nf_skip xs xs.length (Nat.le_refl _) h, List.drop_length]; rfl
theorem nf_hit (xs : List Int) (k : Nat) (hk : k < xs.length) (h : ∀ j, j < k → numB (xs.getD j 0) = true) (hb : numB (xs.getD k 0) = false) : nf 0 xs = (3, (k : Int)) := by
  rw [nf_skip xs k (by omega) h, List.drop_eq_getElem_cons hk, nf]
  rw [List.getD_eq_getElem?_getD, List.getElem?_eq_getElem hk, Option.getD_some] at hb
  rw [if_neg (by simp [hb])]

theorem number_any (n : Int) (w : World) :
    Calls Tryd.prog 19 #[.int .i64 n] w fun e w' => e = .returned (.bool (numB n)) ∧ w' = w := by
  by_cases h1 : -1000000000000000000 ≤ n <;> by_cases h2 : n ≤ 1000000000000000000
  all_goals
    go_enter Tryd.func19, Tryd.ntmps19
    go_wp2
    go_ret
    exact ⟨ret_bool (by simp [numB, *] <;> omega), rfl⟩

set_option maxHeartbeats 400000 in
theorem numbersFault_any (xs : List Int) (b o cap : Nat) (w : World) (hl : xs.length ≤ 1000000000) (hb : b < w.heap.size)
    (hc : ∀ j, j < xs.length → w.cell? ⟨b, o + j, none⟩ = some (.int .i64 (xs.getD j 0))) :
    Calls Tryd.prog 35 #[.slice (some ⟨b, o, none⟩) xs.length cap] w fun e w' => e = .returned (.agg #[.int .i64 (nf 0 xs).1, .int .i64 (nf 0 xs).2]) ∧ Below w.heap.size w w' := by
  go_enter Tryd.func35, Tryd.ntmps35
  go_wp2
  go_loop [7] (fun i => ∃ k : Nat, k ≤ xs.length ∧ i = .int .i64 k ∧ ∀ j, j < k → numB (xs.getD j 0) = true) (fun i => xs.length - (intOf i).toNat)
  case atStart => exact ⟨0, Nat.zero_le _, rfl, fun j hj => absurd hj (Nat.not_lt_zero _)⟩
  case round =>
    obtain ⟨k, hk, rfl, hok⟩ := hrel
    have HOK : Hid (∀ j, j < k → numB (xs.getD j 0) = true) := hok
    have HC := hc
    clear hok hc
    by_cases hlt : k < xs.length
    · have hck := HC k hlt
      obtain ⟨x, hx⟩ : ∃ x, x = xs.getD k 0 := ⟨_, rfl⟩
      rw [← hx] at hck
      have HX : Hid (x = xs.getD k 0) := hx
      clear HC hx
      cases hn : numB x
      · go_wp2_with (go_at_call 31; refine (isNumber_any _ _).mono ?_; rintro e w' ⟨rfl, rfl⟩)
        refine bodyPost_ret (v := .agg #[.int .i64 3, .int .i64 k]) (by simp [results, Tryd.results35, go_sem]) rfl ⟨?_, ?_⟩
        · rw [nf_hit xs k hlt HOK.out (by rw [← HX.out]; exact hn)]
        · exact Below.alloc (Below.refl _ _) (Nat.le_refl _) _
      · go_wp2_with (go_at_call 31; refine (isNumber_any _ _).mono ?_; rintro e w' ⟨rfl, rfl⟩)
        go_round
        case rel =>
          refine ⟨k + 1, by omega, by go_num, fun j hj => ?_⟩
          by_cases hjk : j = k
          · subst hjk; rw [← HX.out]; exact hn
          · exact HOK.out j (by omega)
        case measure => simp [intOf]; omega
    · go_wp2
      refine bodyPost_ret (v := .agg #[.int .i64 0, .int .i64 0]) (by simp [results, Tryd.results35, go_sem]) rfl ⟨?_, ?_⟩
      · rw [nf_none xs (fun j hj => HOK.out j (by omega))]
      · exact Below.alloc (Below.refl _ _) (Nat.le_refl _) _

theorem bcell {W w1 : World} (hb : Below W.heap.size W w1) : (∀ b o, b < W.heap.size → w1.cell? ⟨b, o, none⟩ = W.cell? ⟨b, o, none⟩) ∧ (∀ b o, b < W.heap.size → w1.frozen? ⟨b, o, none⟩ = W.frozen? ⟨b, o, none⟩) :=
  ⟨fun b o h => hb.cell (p := ⟨b, o, none⟩) h, fun b o h => hb.frozen (p := ⟨b, o, none⟩) h⟩

theorem below_drewN' {B n : Nat} {a w : World} (h : Below B a w) : Below B a (w.drewN n) := ⟨h.os, h.tape, h.output, h.size, h.block⟩

theorem two_cells (a b : Int) (W : World) (B : Nat) (h0 : W.cell? ⟨B, 0, none⟩ = some (.int .i64 a)) (h1 : W.cell? ⟨B, 1, none⟩ = some (.int .i64 b)) :
    ∀ j, j < [a, b].length → W.cell? ⟨B, 0 + j, none⟩ = some (.int .i64 ([a, b].getD j 0)) := by
  intro j hj
  match j, hj with
  | 0, _ => exact h0
  | 1, _ => exact h1

def okB (a b : Int) : Bool := numB a && numB b

theorem okB_bounds {a b : Int} (h : okB a b = true) : a.natAbs ≤ 1000000000000000000 ∧ b.natAbs ≤ 1000000000000000000 := by
  unfold okB at h; rw [Bool.and_eq_true] at h
  have h1 := numB_true h.1; have h2 := numB_true h.2; omega
theorem okB_nf {a b : Int} (h : okB a b = true) : nf 0 [a, b] = (0, 0) := by
  unfold okB at h; rw [Bool.and_eq_true] at h
  simp [nf, h.1, h.2]

end Go.Proofs.YtbeceimopamllaaDoor
end

section
/- Contracts of the document's answer for layer 1: F, NumbersFault, Gcd, Size, Left. -/
set_option linter.unusedSimpArgs false
set_option linter.unusedVariables false
set_option maxRecDepth 100000
namespace Go.Proofs.YtbeceimopamllaaDoor
open Go.RowKit

theorem F_any (c a : Int) (w : World) :
    Calls Tryd.prog 20 #[.int .i64 c, .int .i64 a] w fun e w' => e = .returned (.agg #[.int .i64 c, .int .i64 a]) ∧ Below w.heap.size w w' := by
  go_enter Tryd.func20, Tryd.ntmps20
  go_wp2
  refine bodyPost_ret (v := .agg #[.int .i64 c, .int .i64 a]) (by simp [results, Tryd.results20, go_sem]) rfl ⟨rfl, ?_⟩
  exact Below.alloc (Below.refl _ _) (Nat.le_refl _) _

theorem gcd_sub_left (p q : Nat) : Nat.gcd (p % q) q = Nat.gcd p q := by
  rw [Nat.gcd_comm p q, Nat.gcd_rec q p]
theorem gcd_sub_right (p q : Nat) : Nat.gcd p (q % p) = Nat.gcd p q := by
  rw [Nat.gcd_rec p q, Nat.gcd_comm]

end Go.Proofs.YtbeceimopamllaaDoor
end

section
/- Plain facts: joining two remainders, and a list of them. Nothing of the program. -/
set_option linter.unusedSimpArgs false
set_option linter.unusedVariables false
set_option maxRecDepth 100000
namespace Go.Proofs.YtbeceimopamllaaDoor.MathC

/-- One joining: steps of m that fill the gap. -/
theorem join_step (r m mk u v g gap q : Int) (st : Int) (more : Int) (hg : g ≠ 0) (hmk : mk = g * more) (hm : ∃ x, m = g * x) (hl : u * m + v * mk = g) (hgap : gap = g * q) (hst : ∃ k, st = q * u + k * more) :
    ∃ z, st * m - gap = mk * z := by
  obtain ⟨x, rfl⟩ := hm
  obtain ⟨k, rfl⟩ := hst
  subst hmk hgap
  refine ⟨k * x - q * v, ?_⟩
  have e1 : (q * u + k * more) * (g * x) = q * (u * (g * x)) + (g * more) * (k * x) := by
    rw [Int.add_mul]; congr 1 <;> simp only [Int.mul_assoc, Int.mul_comm, Int.mul_left_comm]
  have e2 : u * (g * x) = g - v * (g * more) := by omega
  rw [e1, e2, Int.mul_sub, Int.mul_sub]
  have e3 : q * (v * (g * more)) = g * more * (q * v) := by simp only [Int.mul_assoc, Int.mul_comm, Int.mul_left_comm]
  have e4 : q * g = g * q := Int.mul_comm ..
  omega

/-- The least number that the first k of ms divide. -/
def jl (ms : List Int) : Nat → Nat
  | 0 => 1
  | k + 1 => Nat.lcm (jl ms k) (ms.getD k 0).toNat

def K : Int := 1000000000000000000

/-- The state behind k places. -/
structure JSt (rs ms : List Int) (k : Nat) (r m : Nat) : Prop where
  hi : r < m
  cap : (m : Int) ≤ 1000000000000000000
  ok : ∀ j, j < k → -1000000000000000000 ≤ rs.getD j 0 ∧ rs.getD j 0 ≤ 1000000000000000000 ∧ 1 ≤ ms.getD j 0 ∧ ms.getD j 0 ≤ 1000000000000000000
  lcm : m = jl ms k
  cong : ∀ j, j < k → ms.getD j 0 ∣ (r : Int) - rs.getD j 0

theorem jst_start (rs ms : List Int) : JSt rs ms 0 0 1 := ⟨by omega, by omega, fun j hj => absurd hj (Nat.not_lt_zero _), rfl, fun j hj => absurd hj (Nat.not_lt_zero _)⟩

theorem jl_dvd (ms : List Int) (d : Int) : ∀ k, (∀ j, j < k → 1 ≤ ms.getD j 0 ∧ ms.getD j 0 ∣ d) → (jl ms k : Int) ∣ d := by
  intro k
  induction k with
  | zero => intro _; exact ⟨d, by simp [jl]⟩
  | succ n ih =>
    intro h
    have h1 := ih (fun j hj => h j (by omega))
    obtain ⟨h2, h3⟩ := h n (by omega)
    have e : ((ms.getD n 0).toNat : Int) = ms.getD n 0 := by omega
    have h4 : ((ms.getD n 0).toNat : Int) ∣ d := by rw [e]; exact h3
    rw [Int.ofNat_dvd_left] at h1 h4 ⊢
    exact Nat.lcm_dvd h1 h4

theorem jl_mem (ms : List Int) (j : Nat) : ∀ k, j < k → 1 ≤ ms.getD j 0 → ms.getD j 0 ∣ (jl ms k : Int) := by
  intro k
  induction k with
  | zero => intro h; exact absurd h (Nat.not_lt_zero _)
  | succ q ih =>
    intro h h1
    by_cases e : j = q
    · subst e
      have e2 : ((ms.getD j 0).toNat : Int) = ms.getD j 0 := by omega
      have : ((ms.getD j 0).toNat : Int) ∣ ((Nat.lcm (jl ms j) (ms.getD j 0).toNat : Nat) : Int) := by
        rw [Int.ofNat_dvd_left]; exact Nat.dvd_lcm_right _ _
      rw [e2] at this; exact this
    · refine Int.dvd_trans (ih (by omega) h1) ?_
      rw [Int.ofNat_dvd_left]; exact Nat.dvd_lcm_left _ _

theorem jst_unique {rs ms : List Int} {k r m r' m' : Nat} (h : JSt rs ms k r m) (h' : JSt rs ms k r' m') : r = r' ∧ m = m' := by
  have hm : m = m' := h.lcm.trans h'.lcm.symm
  subst hm
  refine ⟨?_, rfl⟩
  have hd : (m : Int) ∣ (r : Int) - (r' : Int) := by
    rw [h.lcm]
    refine jl_dvd ms _ k fun j hj => ⟨(h.ok j hj).2.2.1, ?_⟩
    have h1 := h.cong j hj
    have h2 := h'.cong j hj
    have : (r : Int) - (r' : Int) = ((r : Int) - rs.getD j 0) - ((r' : Int) - rs.getD j 0) := by omega
    rw [this]; exact Int.dvd_sub h1 h2
  obtain ⟨z, hz⟩ := hd
  have h1 := h.hi
  have h2 := h'.hi
  have hz0 : z = 0 := by
    rcases Int.lt_trichotomy z 0 with c | c | c
    · have : (m : Int) * z ≤ (m : Int) * (-1) := Int.mul_le_mul_of_nonneg_left (by omega) (by omega)
      omega
    · exact c
    · have : (m : Int) * 1 ≤ (m : Int) * z := Int.mul_le_mul_of_nonneg_left (by omega) (by omega)
      omega
  subst hz0
  omega

theorem lcm_mul (a b : Nat) : Nat.lcm a b = a * (b / Nat.gcd a b) := by
  unfold Nat.lcm
  exact Nat.mul_div_assoc a (Nat.gcd_dvd_right a b)

theorem jst_next {rs ms : List Int} {k r m R : Nat} (h : JSt rs ms k r m) (n : Nat) (hn : ms.getD k 0 = (n : Int)) (h1 : 1 ≤ n) (h2 : (n : Int) ≤ 1000000000000000000) (h3 : -1000000000000000000 ≤ rs.getD k 0) (h4 : rs.getD k 0 ≤ 1000000000000000000)
    (hcap : ((m * (n / Nat.gcd m n) : Nat) : Int) ≤ 1000000000000000000) (hR : R < m * (n / Nat.gcd m n)) (d1 : (m : Int) ∣ (R : Int) - (r : Int)) (d2 : (n : Int) ∣ (R : Int) - rs.getD k 0) :
    JSt rs ms (k + 1) R (m * (n / Nat.gcd m n)) := by
  refine ⟨hR, hcap, fun j hj => ?_, ?_, fun j hj => ?_⟩
  · by_cases e : j = k
    · subst e; rw [hn]; omega
    · exact h.ok j (by omega)
  · show _ = Nat.lcm (jl ms k) (ms.getD k 0).toNat
    rw [hn, Int.toNat_natCast, ← h.lcm, lcm_mul]
  · by_cases e : j = k
    · subst e; rw [hn]; exact d2
    · have h5 := h.cong j (by omega)
      have h6 : ms.getD j 0 ∣ (m : Int) := by
        rw [h.lcm]
        exact jl_mem ms j k (by omega) (h.ok j (by omega)).2.2.1
      have : (R : Int) - rs.getD j 0 = ((R : Int) - (r : Int)) + ((r : Int) - rs.getD j 0) := by omega
      rw [this]
      exact Int.dvd_add (Int.dvd_trans h6 d1) h5

theorem bezout_nat : ∀ (n m : Nat), ∃ u v : Int, u * (m : Int) + v * (n : Int) = (Nat.gcd m n : Int) := by
  intro n
  induction n using Nat.strongRecOn with
  | ind n ih =>
    intro m
    by_cases h0 : n = 0
    · subst h0; exact ⟨1, 0, by simp⟩
    · obtain ⟨u, v, h⟩ := ih (m % n) (Nat.mod_lt _ (by omega)) n
      refine ⟨v, u - v * ((m / n : Nat) : Int), ?_⟩
      have e : Nat.gcd n (m % n) = Nat.gcd m n := by rw [Nat.gcd_comm n, ← Nat.gcd_rec, Nat.gcd_comm]
      rw [e] at h
      have e2 : (m : Int) = (n : Int) * ((m / n : Nat) : Int) + ((m % n : Nat) : Int) := by rw [← Int.natCast_mul, ← Int.natCast_add, Nat.div_add_mod]
      rw [← h, Int.sub_mul]
      have e3 : v * (m : Int) = v * ((m / n : Nat) : Int) * (n : Int) + v * ((m % n : Nat) : Int) := by
        rw [Int.mul_assoc, ← Int.mul_add, Int.mul_comm ((m / n : Nat) : Int), ← e2]
      omega

theorem crt_exists (r m n : Nat) (a : Int) (hr : r < m) (h1 : 1 ≤ n) (hd : (Nat.gcd m n : Int) ∣ a - (r : Int)) :
    ∃ R : Nat, R < m * (n / Nat.gcd m n) ∧ (m : Int) ∣ (R : Int) - (r : Int) ∧ (n : Int) ∣ (R : Int) - a := by
  obtain ⟨u, v, hl⟩ := bezout_nat n m
  have hg0 : 0 < Nat.gcd m n := Nat.gcd_pos_of_pos_left _ (by omega)
  obtain ⟨xm, hxm⟩ := Nat.gcd_dvd_left m n
  obtain ⟨mo, hmo⟩ := Nat.gcd_dvd_right m n
  obtain ⟨q, hq⟩ := hd
  generalize hg : Nat.gcd m n = g at *
  have e : n / g = mo := by rw [hmo]; exact Nat.mul_div_cancel_left _ hg0
  rw [e]
  have hmo0 : 0 < mo := by
    rcases Nat.eq_zero_or_pos mo with c | c
    · subst c; omega
    · exact c
  obtain ⟨st, hst⟩ := Int.eq_ofNat_of_zero_le (Int.emod_nonneg (q * u) (show (mo : Int) ≠ 0 by omega))
  have hlt : st < mo := by have := Int.emod_lt_of_pos (q * u) (show 0 < (mo : Int) by omega); omega
  refine ⟨r + st * m, ?_, ⟨(st : Int), by simp [Int.mul_comm]; omega⟩, ?_⟩
  · have : (st + 1) * m ≤ mo * m := Nat.mul_le_mul_right _ hlt
    rw [Nat.add_mul, Nat.mul_comm mo] at this; omega
  · obtain ⟨z, hz⟩ := join_step (r : Int) (m : Int) (n : Int) u v (g : Int) (a - (r : Int)) q (st : Int) (mo : Int) (by omega) (by rw [hmo]; simp) ⟨(xm : Int), by rw [hxm]; simp⟩ hl hq
      ⟨-(q * u / (mo : Int)), by rw [← hst, Int.emod_def, Int.neg_mul, Int.mul_comm (mo : Int)]; omega⟩
    exact ⟨z, by rw [← hz]; simp; omega⟩

end Go.Proofs.YtbeceimopamllaaDoor.MathC
end

section
/- Contracts of package whole's left and joinOne. -/
set_option linter.unusedSimpArgs false
set_option linter.unusedVariables false
set_option maxRecDepth 100000
namespace Go.Proofs.YtbeceimopamllaaDoor
open Go.RowKit

theorem left_any (a : Int) (m : Nat) (w : World) (ha : a.natAbs ≤ 4000000000000000000) (h0 : 0 < m) (hm : (m : Int) ≤ 1000000000000000000) :
    Calls Tryd.prog 45 #[.int .i64 a, .int .i64 m] w fun e w' => e = .returned (.int .i64 (a % (m : Int))) ∧ w' = w := by
  have hb : (a.tmod (m : Int)).natAbs < m := by rw [Int.natAbs_tmod]; exact Nat.mod_lt _ h0
  have t1 : ((m : Int) == 0) = false := beq_eq_false_iff_ne.2 (by omega)
  by_cases h : 0 ≤ a
  · have e : a.tmod (m : Int) = a % (m : Int) := Int.tmod_eq_emod_of_nonneg h
    have h1 : 0 ≤ a % (m : Int) := Int.emod_nonneg _ (by omega)
    have h2 : a % (m : Int) < (m : Int) := Int.emod_lt_of_pos _ (by omega)
    clear hb e
    go_enter Tryd.func45, Tryd.ntmps45
    go_wp2
    go_ret
    exact ⟨rfl, rfl⟩
  · by_cases hz : a.tmod (m : Int) < 0
    · have HE : Hid (a.tmod (m : Int) + (m : Int) = a % (m : Int)) := by
        show _ = _
        have e1 := Int.tmod_eq_emod (a := a) (b := (m : Int))
        rw [e1] at hz ⊢
        split at hz
        · have := Int.emod_nonneg a (show (m : Int) ≠ 0 by omega); omega
        · rename_i hc; rw [if_neg hc]; simp
      go_enter Tryd.func45, Tryd.ntmps45
      go_wp2
      go_ret
      exact ⟨ret_int HE.out, rfl⟩
    · have HE : Hid (a.tmod (m : Int) = a % (m : Int)) := by
        show _ = _
        have e1 := Int.tmod_eq_emod (a := a) (b := (m : Int))
        rw [e1] at hz ⊢
        split at hz
        · rename_i hc; rw [if_pos hc]; omega
        · have := Int.emod_lt_of_pos a (show 0 < (m : Int) by omega); simp at hz; omega
      go_enter Tryd.func45, Tryd.ntmps45
      go_wp2
      go_ret
      exact ⟨ret_int HE.out, rfl⟩

theorem gcd_nat (m n : Nat) : Int.gcd (m : Int) (n : Int) = Nat.gcd m n := by simp [Int.gcd]

theorem join_fill {r m n uu mo l st g : Nat} {v q a : Int} (hnm : n = g * mo) (hgm : g ∣ m) (hl : (uu : Int) * (m : Int) + v * (n : Int) = (g : Int)) (hq : a - (r : Int) = (g : Int) * q) (hlq : q % (mo : Int) = (l : Int)) (hst : st = l * uu % mo) (hg : g ≠ 0) :
    (n : Int) ∣ (((r + st * m : Nat) : Int)) - a := by
  obtain ⟨xm, hxm⟩ := hgm
  obtain ⟨z, hz⟩ := MathC.join_step (r : Int) (m : Int) (n : Int) (uu : Int) v (g : Int) (a - (r : Int)) q (st : Int) (mo : Int) (by omega)
    (by rw [hnm]; simp) ⟨(xm : Int), by rw [hxm]; simp⟩ hl hq
    (by
      have e1 : (st : Int) = ((l : Int) * (uu : Int)) % (mo : Int) := by rw [hst]; simp
      have e2 : (l : Int) * (uu : Int) = q * (uu : Int) - (mo : Int) * (q / (mo : Int)) * (uu : Int) := by rw [← hlq, Int.emod_def, Int.sub_mul]
      refine ⟨-(q / (mo : Int) * (uu : Int)) - ((l : Int) * (uu : Int)) / (mo : Int), ?_⟩
      rw [e1, Int.emod_def, Int.sub_mul, Int.neg_mul]
      have e3 : (mo : Int) * (q / (mo : Int)) * (uu : Int) = q / (mo : Int) * (uu : Int) * (mo : Int) := by simp only [Int.mul_assoc, Int.mul_comm, Int.mul_left_comm]
      have e4 : (mo : Int) * ((l : Int) * (uu : Int) / (mo : Int)) = (l : Int) * (uu : Int) / (mo : Int) * (mo : Int) := Int.mul_comm ..
      omega)
  refine ⟨z, ?_⟩
  rw [← hz]; simp; omega

end Go.Proofs.YtbeceimopamllaaDoor
end
