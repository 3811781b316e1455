import Derived.Test.YtcnfhndejkngkaaGreatDoorJtM
import Derived.Test.YtcnfhndejkngkaaGreatDoorJtG
import Derived.Test.YtcnfhndejkngkaaGreatDoorJtH
import Derived.Lib.ItoaNum
import Derived.Test.YtcnfhndejkngkaaGreatDoorJtA
section
/- The laws' examples fracBegun, out of what is asked of Path and Decimal. -/
set_option linter.unusedSimpArgs false
set_option linter.unusedVariables false
set_option maxRecDepth 100000
namespace Go.Proofs.YtcnfhndejkngkaaGreatDoor
open Go.RowKit

set_option maxHeartbeats 1000000 in
theorem fracBegun_of (w : World) (hP : ∀ W, Below w.heap.size w W → Calls Tryz.prog 15 #[.agg #[.int .i64 3, .int .i64 5]] W fun e w' => e = .returned (.tuple #[.string ⟨#[76, 82, 76]⟩, .agg #[.int .i64 0, .int .i64 0]]) ∧ Below W.heap.size W w')
    (hD : ∀ W, Below w.heap.size w W → Calls Tryz.prog 32 #[.agg #[.int .i64 1, .int .i64 6]] W fun e w' => e = .returned (.tuple #[.string ⟨#[48, 46, 49, 40, 54, 41]⟩, .agg #[.int .i64 0, .int .i64 0]]) ∧ Below W.heap.size W w') :
    Calls Tryz.prog 11 #[] w fun e w' => e = .returned (.bool true) ∧ Below w.heap.size w w' := by
  have HP : Hid _ := hP
  have HD : Hid _ := hD
  clear hP hD
  go_enter Tryz.func11, Tryz.ntmps11
  go_wp2_with fail
  refine (HP.out _ (Below.refl _ _)).mono ?_
  rintro e w1 ⟨rfl, k1⟩
  have C1 : Cl w1.heap.size [.int .i64 0, .int .i64 0] 25 (w1.alloc (.cells #[.int .i64 0, .int .i64 0] 25)) := Cl.new [.int .i64 0, .int .i64 0] _ _
  have HK : Hid (Below w.heap.size w (w1.alloc (.cells #[.int .i64 0, .int .i64 0] 25)) ∧ Cl w1.heap.size [.int .i64 0, .int .i64 0] 25 (w1.alloc (.cells #[.int .i64 0, .int .i64 0] 25))) := ⟨k1.alloc k1.size _, C1⟩
  have HS : Hid (w.heap.size ≤ w1.heap.size) := k1.size
  clear k1 HP C1
  obtain ⟨W1, hW1⟩ : ∃ W, W = w1.alloc (.cells #[.int .i64 0, .int .i64 0] 25) := ⟨_, rfl⟩
  rw [← hW1] at HK
  go_wp2_with fail
  rw [← hW1]
  refine (HD.out _ HK.out.1).mono ?_
  rintro e w2 ⟨rfl, k2⟩
  have C2 := HK.out.2.below k2
  have C3 := C2.alloc (.cells #[.int .i64 0, .int .i64 0] 25)
  have HK2 : Hid (Below w.heap.size w (w2.alloc (.cells #[.int .i64 0, .int .i64 0] 25))) := (HK.out.1.trans (k2.mono HK.out.1.size)).alloc (HK.out.1.trans (k2.mono HK.out.1.size)).size _
  have q0 := C2.cell 0
  have q1 := C2.cell 1
  simp at q0 q1
  have q2 := C2.lt
  clear C2 C3 k2 HD HK
  go_wp2
  go_ret
  exact ⟨rfl, HK2.out⟩
end Go.Proofs.YtcnfhndejkngkaaGreatDoor
end

section
/- Numbers by limbs of nine decimal digits, and their texts: plain facts. -/
set_option linter.unusedSimpArgs false
set_option linter.unusedVariables false
set_option maxRecDepth 100000
namespace Go.Proofs.YtcnfhndejkngkaaGreatDoor.LgM
/-- What one limb is below. -/
abbrev Bs : Nat := 1000000000
/-- The lowest k limbs of n. -/
def dgl (k n : Nat) : List Nat := (List.range k).map (fun j => n / Bs ^ j % Bs)
theorem dgl_len (k n : Nat) : (dgl k n).length = k := by simp [dgl]
theorem dgl_succ (k n : Nat) : dgl (k + 1) n = dgl k n ++ [n / Bs ^ k % Bs] := by simp [dgl, List.range_succ]
theorem dgl_get (k n i : Nat) (h : i < k) : (dgl k n)[i]? = some (n / Bs ^ i % Bs) := by simp [dgl, h]
theorem dgl_lt (k n x : Nat) (h : x ∈ dgl k n) : x < Bs := by
  simp [dgl] at h; obtain ⟨j, _, rfl⟩ := h; exact Nat.mod_lt _ (by decide)
theorem bs_pos (k : Nat) : 0 < Bs ^ k := Nat.pow_pos (by decide)
theorem pow_s (k : Nat) : Bs ^ (k + 1) = Bs ^ k * Bs := Nat.pow_succ ..
theorem div_s (n k : Nat) : n / Bs ^ (k + 1) = n / Bs ^ k / Bs := by rw [pow_s, Nat.div_div_eq_div_mul]
/-- n mod B^(k+1) -/
theorem mod_s (n k : Nat) : n % Bs ^ (k + 1) = n % Bs ^ k + Bs ^ k * (n / Bs ^ k % Bs) := by rw [pow_s, Nat.mod_mul]
theorem plus_step (x y k : Nat) : (x % Bs ^ k + y % Bs ^ k) / Bs ^ k + (x / Bs ^ k % Bs + y / Bs ^ k % Bs) = (x % Bs ^ (k+1) + y % Bs ^ (k+1)) / Bs ^ k := by
  rw [mod_s, mod_s]
  have e : x % Bs ^ k + Bs ^ k * (x / Bs ^ k % Bs) + (y % Bs ^ k + Bs ^ k * (y / Bs ^ k % Bs)) = (x % Bs ^ k + y % Bs ^ k) + Bs ^ k * (x / Bs ^ k % Bs + y / Bs ^ k % Bs) := by rw [Nat.mul_add]; omega
  rw [e, Nat.add_mul_div_left _ _ (bs_pos k)]
theorem add_div_mod (x y k : Nat) : (x + y) / Bs ^ k % Bs = (x % Bs ^ (k+1) + y % Bs ^ (k+1)) / Bs ^ k % Bs := by
  have h1 : ∀ z, z / Bs ^ k % Bs = z % Bs ^ (k + 1) / Bs ^ k := fun z => by rw [pow_s, Nat.mod_mul_right_div_self]
  rw [h1, h1 (x % Bs ^ (k+1) + y % Bs ^ (k+1)), ← Nat.add_mod]
theorem plus_carry (x y k : Nat) : (x % Bs ^ k + y % Bs ^ k) / Bs ^ k ≤ 1 := by
  have h1 := Nat.mod_lt x (bs_pos k)
  have h2 := Nat.mod_lt y (bs_pos k)
  have : (x % Bs ^ k + y % Bs ^ k) / Bs ^ k < 2 := by rw [Nat.div_lt_iff_lt_mul (bs_pos k)]; omega
  omega
theorem times_step (x t k : Nat) : x % Bs ^ k * t / Bs ^ k + x / Bs ^ k % Bs * t = x % Bs ^ (k+1) * t / Bs ^ k := by
  rw [mod_s, Nat.add_mul, Nat.mul_assoc, Nat.add_mul_div_left _ _ (bs_pos k)]
theorem mul_div_mod (x t k : Nat) : x * t / Bs ^ k % Bs = x % Bs ^ (k+1) * t / Bs ^ k % Bs := by
  have h1 : ∀ z, z / Bs ^ k % Bs = z % Bs ^ (k + 1) / Bs ^ k := fun z => by rw [pow_s, Nat.mod_mul_right_div_self]
  rw [h1, h1 (x % Bs ^ (k+1) * t), Nat.mod_mul_mod]
theorem times_carry (x t k : Nat) (ht : 0 < t) : x % Bs ^ k * t / Bs ^ k < t := by
  rw [Nat.div_lt_iff_lt_mul (bs_pos k), Nat.mul_comm]
  exact Nat.mul_lt_mul_of_pos_left (Nat.mod_lt x (bs_pos k)) ht
/-- k limbs are just those of n. -/
structure Nd (k n : Nat) : Prop where
  lt : n < Bs ^ k
  ge : k = 0 ∨ Bs ^ (k - 1) ≤ n
theorem Nd.limb {k n : Nat} (h : Nd k n) (i : Nat) (hi : k ≤ i) : n / Bs ^ i % Bs = 0 := by
  have := Nat.pow_le_pow_right (show 0 < Bs by decide) hi
  rw [Nat.div_eq_of_lt (Nat.lt_of_lt_of_le h.lt this)]; rfl
theorem Nd.le {k n m : Nat} (h : Nd k n) (hm : n < Bs ^ m) : k ≤ m := by
  rcases h.ge with h1 | h1
  · omega
  · rcases Nat.lt_or_ge m k with h2 | h2
    · have := Nat.pow_le_pow_right (show 0 < Bs by decide) (show m ≤ k - 1 by omega)
      omega
    · exact h2
theorem Nd.mod {k n i : Nat} (h : Nd k n) (hi : k ≤ i) : n % Bs ^ i = n :=
  Nat.mod_eq_of_lt (Nat.lt_of_lt_of_le h.lt (Nat.pow_le_pow_right (by decide) hi))
theorem Nd.zero : Nd 0 0 := ⟨by decide, .inl rfl⟩
theorem Nd.mono {k n m : Nat} (h : Nd k n) (hm : n ≤ m) : k = 0 ∨ Bs ^ (k - 1) ≤ m := by
  rcases h.ge with h1 | h1
  · exact .inl h1
  · exact .inr (by omega)
theorem lim_le {a : Nat} (h : a < Bs) : a ≤ 999999999 := by unfold Bs at h; omega
open Go
/-- The lowest k decimal digits of r. -/
def pk : Nat → Nat → List UInt8
  | 0, _ => []
  | k + 1, r => pk k (r / 10) ++ [UInt8.ofNat (48 + r % 10)]
theorem pk_len (k r : Nat) : (pk k r).length = k := by
  induction k generalizing r with
  | zero => rfl
  | succ k ih => simp [pk, ih]
theorem dec_ge {u : Nat} (h : ¬ u < 10) : Lib.decDigits u = Lib.decDigits (u / 10) ++ [UInt8.ofNat (48 + u % 10)] := by
  rw [Lib.decDigits, dif_neg h]
theorem dec_lt {u : Nat} (h : u < 10) : Lib.decDigits u = [UInt8.ofNat (48 + u)] := by
  rw [Lib.decDigits, dif_pos h]
theorem dec_join (k q r : Nat) (hq : 0 < q) (hr : r < 10 ^ k) : Lib.decDigits (q * 10 ^ k + r) = Lib.decDigits q ++ pk k r := by
  induction k generalizing r with
  | zero => have : r = 0 := by simpa using hr
            subst this; simp [pk]
  | succ k ih =>
    have h1 : 10 ≤ q * 10 ^ (k + 1) + r := by
      have h2 : 1 * 10 ≤ q * 10 ^ (k + 1) := Nat.mul_le_mul hq (by rw [Nat.pow_succ]; have := Nat.pow_pos (n := k) (show 0 < 10 by decide); omega)
      omega
    have e : q * 10 ^ (k + 1) + r = (q * 10 ^ k) * 10 + r := by rw [Nat.pow_succ, Nat.mul_assoc]
    have e1 : (q * 10 ^ (k + 1) + r) / 10 = q * 10 ^ k + r / 10 := by rw [e]; omega
    have e2 : (q * 10 ^ (k + 1) + r) % 10 = r % 10 := by rw [e]; omega
    rw [dec_ge (by omega), e1, e2, ih (r / 10) (by rw [Nat.pow_succ] at hr; omega)]
    simp [pk]
theorem pk_zero (k : Nat) : pk k 0 = List.replicate k 48 := by
  induction k with
  | zero => rfl
  | succ k ih => simp only [pk]; rw [show (0 : Nat) / 10 = 0 from rfl, ih]; rw [List.replicate_succ']; rfl
theorem pk_pad (k r : Nat) (hk : 1 ≤ k) (hr : r < 10 ^ k) : pk k r = List.replicate (k - (Lib.decDigits r).length) 48 ++ Lib.decDigits r ∧ (Lib.decDigits r).length ≤ k := by
  induction k generalizing r with
  | zero => omega
  | succ k ih =>
    by_cases h : r < 10
    · rw [dec_lt h]
      have e : r / 10 = 0 := by omega
      refine ⟨?_, by simp⟩
      simp only [pk, e, pk_zero]
      rw [Nat.mod_eq_of_lt h]; simp
    · have hk1 : 1 ≤ k := by
        rcases k with _ | k
        · simp at hr; omega
        · omega
      obtain ⟨h1, h2⟩ := ih (r / 10) hk1 (by rw [Nat.pow_succ] at hr; omega)
      rw [dec_ge h]
      refine ⟨?_, by simp; omega⟩
      simp only [pk, h1, List.length_append, List.length_cons, List.length_nil]
      rw [show k + 1 - ((Lib.decDigits (r / 10)).length + (0 + 1)) = k - (Lib.decDigits (r / 10)).length by omega]
      simp
/-- The text of the highest limbs, from the i-th on. -/
theorem dec_limb (n i : Nat) (h : Bs ^ (i + 1) ≤ n) : Lib.decDigits (n / Bs ^ i) = Lib.decDigits (n / Bs ^ (i + 1)) ++ (List.replicate (9 - (Lib.decDigits (n / Bs ^ i % Bs)).length) 48 ++ Lib.decDigits (n / Bs ^ i % Bs)) := by
  have hp : 0 < Bs ^ i := Nat.pow_pos (by decide)
  have e : n / Bs ^ (i + 1) = n / Bs ^ i / Bs := by rw [Nat.pow_succ, Nat.div_div_eq_div_mul]
  have hm : n / Bs ^ i % Bs < Bs := Nat.mod_lt _ (by decide)
  have h9 : Bs = 10 ^ 9 := by decide
  rw [← (pk_pad 9 (n / Bs ^ i % Bs) (by decide) (by rw [← h9]; exact hm)).1, ← dec_join 9 _ _ ?_ (by rw [← h9]; exact hm), ← h9, e, Nat.mul_comm, Nat.div_add_mod]
  exact Nat.div_pos h (Nat.pow_pos (by decide))
/-- What a text of digits stands for, behind a. -/
def rd (a : Nat) (l : List UInt8) : Nat := l.foldl (fun a c => a * 10 + (c.toNat - 48)) a
theorem rd_dec (n : Nat) : rd 0 (Lib.decDigits n) = n := by
  induction n using Nat.strongRecOn with
  | _ n ih =>
    have hc : ∀ x, x < 10 → (UInt8.ofNat (48 + x)).toNat - 48 = x := fun x hx => by simp [UInt8.toNat_ofNat']; omega
    by_cases h : n < 10
    · rw [dec_lt h]; simp only [rd, List.foldl_cons, List.foldl_nil]; rw [hc n h]; omega
    · rw [dec_ge h, rd, List.foldl_append]
      show (rd 0 (Lib.decDigits (n / 10))) * 10 + ((UInt8.ofNat (48 + n % 10)).toNat - 48) = n
      rw [ih (n / 10) (by omega), hc _ (by omega)]; omega
theorem dec_digit (n : Nat) : ∀ c ∈ Lib.decDigits n, 48 ≤ c.toNat ∧ c.toNat ≤ 57 := by
  induction n using Nat.strongRecOn with
  | _ n ih =>
    have hc : ∀ x, x < 10 → 48 ≤ (UInt8.ofNat (48 + x)).toNat ∧ (UInt8.ofNat (48 + x)).toNat ≤ 57 := fun x hx => by simp [UInt8.toNat_ofNat']; omega
    by_cases h : n < 10
    · rw [dec_lt h]; intro c hm; rw [List.mem_singleton] at hm; subst hm; exact hc n h
    · rw [dec_ge h]
      intro c hm
      rcases List.mem_append.1 hm with h1 | h1
      · exact ih _ (by omega) c h1
      · rw [List.mem_singleton] at h1; subst h1; exact hc _ (by omega)
theorem dec_head (n : Nat) (hn : 0 < n) : ∃ c r, Lib.decDigits n = c :: r ∧ 49 ≤ c.toNat := by
  induction n using Nat.strongRecOn with
  | _ n ih =>
    by_cases h : n < 10
    · rw [dec_lt h]; exact ⟨_, [], rfl, by simp [UInt8.toNat_ofNat']; omega⟩
    · obtain ⟨c, r, h1, h2⟩ := ih (n / 10) (by omega) (by omega)
      rw [dec_ge h, h1]; exact ⟨c, _, rfl, h2⟩
theorem dec_len (n k : Nat) (hk : 1 ≤ k) (h : n < 10 ^ k) : (Lib.decDigits n).length ≤ k := (pk_pad k n hk h).2
end Go.Proofs.YtcnfhndejkngkaaGreatDoor.LgM
end

section
/- Plain: Euclid's quotients, and what a list of them comes to. -/
set_option linter.unusedSimpArgs false
set_option linter.unusedVariables false
set_option maxRecDepth 100000
namespace Go.Proofs.YtcnfhndejkngkaaGreatDoor.CnQ

/-- Euclid's states: what is divided, and by what. -/
def es (a b : Int) : Nat → Int × Int
  | 0 => (a, b)
  | i + 1 => ((es a b i).2, (es a b i).1 % (es a b i).2)
def kq (a b : Int) (i : Nat) : Int := (es a b i).1 / (es a b i).2
def ek (a b : Int) (n : Nat) : List Int := (List.range n).map (kq a b)
theorem ek_succ (a b : Int) (n : Nat) : ek a b (n + 1) = ek a b n ++ [kq a b n] := by simp [ek, List.range_succ]
theorem ek_len (a b : Int) (n : Nat) : (ek a b n).length = n := by simp [ek]
theorem ek_prefix (a b : Int) {m n : Nat} (h : m ≤ n) : ek a b m <+: ek a b n := by
  induction n with
  | zero => obtain rfl : m = 0 := by omega
            exact List.prefix_refl _
  | succ n ih =>
    by_cases e : m = n + 1
    · subst e; exact List.prefix_refl _
    · rw [ek_succ]; exact (ih (by omega)).trans (List.prefix_append _ _)
theorem ek_prefix_len (a b : Int) {n : Nat} {pre : List Int} (h : pre <+: ek a b n) : pre = ek a b pre.length := by
  have h1 := h.length_le
  rw [ek_len] at h1
  exact List.IsPrefix.eq_of_length (List.prefix_of_prefix_length_le h (ek_prefix a b h1) (by rw [ek_len]; exact Nat.le_refl _)) (by rw [ek_len])

/-- N is where the way ends. -/
structure En (a b : Int) (N : Nat) : Prop where
  b0 : 0 < b
  pos : ∀ i, i < N → 0 < (es a b i).2
  zero : (es a b N).2 = 0
theorem En.one {a b : Int} {N : Nat} (h : En a b N) : 1 ≤ N := by
  rcases Nat.eq_zero_or_pos N with e | e
  · subst e; have := h.zero; have := h.b0; simp [es] at *; omega
  · exact e
theorem En.step {a b : Int} {N : Nat} (h : En a b N) {i : Nat} (hi : i < N) : (es a b (i + 1)).1 = (es a b i).2 ∧ (es a b (i + 1)).2 = (es a b i).1 % (es a b i).2 ∧ 0 ≤ (es a b (i + 1)).2 ∧ (es a b (i + 1)).2 < (es a b i).2 := by
  have := h.pos i hi
  exact ⟨rfl, rfl, Int.emod_nonneg _ (by omega), Int.emod_lt_of_pos _ this⟩
theorem En.up {a b : Int} {N : Nat} (h : En a b N) {i : Nat} (hi : i < N) (h0 : 0 < i) : (es a b i).2 < (es a b i).1 ∧ (es a b i).1 ≤ b := by
  induction i with
  | zero => omega
  | succ i ih =>
    have s := h.step (i := i) (by omega)
    refine ⟨by rw [s.1]; exact s.2.2.2, ?_⟩
    rw [s.1]
    rcases Nat.eq_zero_or_pos i with e | e
    · subst e; simp [es]
    · have := ih (by omega) e; omega
theorem En.down_le {a b : Int} {N : Nat} (h : En a b N) {i : Nat} (hi : i ≤ N) : 0 ≤ (es a b i).2 ∧ (es a b i).2 ≤ b := by
  induction i with
  | zero => have := h.b0; simp [es]; omega
  | succ i ih => have s := h.step (i := i) (by omega); have := ih (by omega); omega
/-- The halves. -/
theorem half (n : Nat) : ∀ (a b : Int), 0 < b → b < 2 ^ n → ∃ N, N ≤ 2 * n ∧ En a b N := by
  induction n with
  | zero => intro a b h1 h2; simp at h2; omega
  | succ n ih =>
    intro a b h1 h2
    have m0 := Int.emod_nonneg a (show b ≠ 0 by omega)
    have m1 := Int.emod_lt_of_pos a h1
    by_cases c : a % b = 0
    · refine ⟨1, by omega, h1, fun i hi => ?_, ?_⟩
      · obtain rfl : i = 0 := by omega
        exact h1
      · simp [es]; exact c
    have c0 : 0 < a % b := by omega
    have r0 := Int.emod_nonneg b (show a % b ≠ 0 by omega)
    have r1 := Int.emod_lt_of_pos b c0
    by_cases d : b % (a % b) = 0
    · refine ⟨2, by omega, h1, fun i hi => ?_, ?_⟩
      · rcases i with _ | _ | i
        · exact h1
        · exact c0
        · omega
      · exact d
    have d0 : 0 < b % (a % b) := by omega
    have hl : b % (a % b) < 2 ^ n := by
      have e := Int.mul_ediv_add_emod b (a % b)
      have hq : 1 ≤ b / (a % b) := by
        have := Int.ediv_nonneg (show 0 ≤ b by omega) (show 0 ≤ a % b by omega)
        rcases Int.lt_or_le (b / (a % b)) 1 with h | h
        · have : b / (a % b) = 0 := by omega
          rw [this] at e; omega
        · exact h
      have := Int.mul_le_mul_of_nonneg_left hq (show 0 ≤ a % b by omega)
      rw [Int.pow_succ] at h2
      omega
    obtain ⟨N, hN, hE⟩ := ih (a % b) (b % (a % b)) d0 hl
    have sh : ∀ i, es a b (i + 2) = es (a % b) (b % (a % b)) i := by
      intro i
      induction i with
      | zero => rfl
      | succ i ih2 => rw [show es a b (i + 1 + 2) = ((es a b (i + 2)).2, (es a b (i + 2)).1 % (es a b (i + 2)).2) from rfl, ih2]; rfl
    refine ⟨N + 2, by omega, h1, fun i hi => ?_, ?_⟩
    · rcases i with _ | _ | i
      · exact h1
      · exact c0
      · rw [sh]; exact hE.pos i (by omega)
    · rw [sh]; exact hE.zero

/-- What a list comes to. -/
def cf : List Int → Int × Int
  | [] => (1, 0)
  | x :: r => (x * (cf r).1 + (cf r).2, (cf r).1)
theorem cf_pos (l : List Int) (h : ∀ x ∈ l, 1 ≤ x) : 1 ≤ (cf l).1 ∧ 0 ≤ (cf l).2 := by
  induction l with
  | nil => simp [cf]
  | cons x r ih =>
    have := ih (fun y hy => h y (by simp [hy]))
    have hx := h x (by simp)
    simp only [cf]
    have := Int.mul_le_mul_of_nonneg_right hx (show 0 ≤ (cf r).1 by omega)
    omega
theorem cf_low (l : List Int) : Nat.gcd (cf l).1.natAbs (cf l).2.natAbs = 1 := by
  induction l with
  | nil => simp [cf]
  | cons x r ih =>
    simp only [cf]
    have h : Int.gcd (x * (cf r).1 + (cf r).2) (cf r).1 = 1 := by
      rw [Int.gcd_comm, show x * (cf r).1 + (cf r).2 = (cf r).2 + (cf r).1 * x by rw [Int.mul_comm]; omega, Int.gcd_add_mul_left_right]; exact ih
    exact h

theorem cf_bound (l : List Int) (h : ∀ x ∈ l, x.natAbs ≤ 1000000000000000000) : (cf l).1.natAbs ≤ 18446744073709551616 ^ l.length ∧ (cf l).2.natAbs ≤ 18446744073709551616 ^ l.length := by
  induction l with
  | nil => simp [cf]
  | cons x r ih =>
    obtain ⟨h1, h2⟩ := ih (fun y hy => h y (by simp [hy]))
    have hx := h x (by simp)
    simp only [cf, List.length_cons, Nat.pow_succ]
    generalize 18446744073709551616 ^ r.length = B at *
    refine ⟨?_, by omega⟩
    have a1 := Int.natAbs_add_le (x * (cf r).1) (cf r).2
    rw [Int.natAbs_mul] at a1
    have a2 := Nat.mul_le_mul hx h1
    omega

/-- What is left of Euclid's list comes to what is left of the two. -/
theorem En.drop {a b : Int} {N : Nat} (h : En a b N) : ∀ k i, i + k + 1 = N → ∃ P Q, cf ((List.range' i (k + 1)).map (kq a b)) = (P, Q) ∧ P * (es a b i).2 = (es a b i).1 * Q ∧ 0 < Q ∧ (0 < i → 0 < P) := by
  intro k
  induction k with
  | zero =>
    intro i hi
    refine ⟨kq a b i, 1, by simp [cf], ?_, by omega, ?_⟩
    · have s := h.step (i := i) (by omega)
      have z := h.zero
      rw [show N = i + 1 by omega, s.2.1] at z
      have e := Int.mul_ediv_add_emod (es a b i).1 (es a b i).2
      rw [z] at e
      rw [Int.mul_one]
      unfold kq
      rw [Int.mul_comm]; omega
    · intro h0
      have u := h.up (i := i) (by omega) h0
      have p := h.pos i (by omega)
      unfold kq
      exact Int.ediv_pos_of_pos_of_dvd (by omega) (by omega) (by
        have s := h.step (i := i) (by omega)
        have z := h.zero
        rw [show N = i + 1 by omega, s.2.1] at z
        exact Int.dvd_of_emod_eq_zero z)
  | succ k ih =>
    intro i hi
    obtain ⟨P, Q, e1, e2, e3, e4⟩ := ih (i + 1) (by omega)
    have s := h.step (i := i) (by omega)
    refine ⟨kq a b i * P + Q, P, ?_, ?_, e4 (by omega), ?_⟩
    · rw [List.range'_succ, List.map_cons, cf, e1]
    · rw [s.1, s.2.1] at e2
      have e := Int.mul_ediv_add_emod (es a b i).1 (es a b i).2
      unfold kq
      generalize (es a b i).1 / (es a b i).2 = k at *
      generalize (es a b i).1 % (es a b i).2 = r at *
      generalize (es a b i).1 = u at *
      generalize (es a b i).2 = v at *
      clear s e4
      grind
    · intro h0
      have u := h.up (i := i) (by omega) h0
      have p := h.pos i (by omega)
      have : 0 ≤ kq a b i := Int.ediv_nonneg (by omega) (by omega)
      have := Int.mul_nonneg this (show 0 ≤ P by have := e4 (by omega); omega)
      omega
theorem En.whole {a b : Int} {N : Nat} (h : En a b N) : (cf (ek a b N)).1 * b = a * (cf (ek a b N)).2 ∧ 0 < (cf (ek a b N)).2 := by
  obtain ⟨P, Q, e1, e2, e3, _⟩ := h.drop (N - 1) 0 (by have := h.one; omega)
  have e : ek a b N = (List.range' 0 (N - 1 + 1)).map (kq a b) := by unfold ek; rw [List.range_eq_range', show N - 1 + 1 = N by have := h.one; omega]
  rw [e, e1]
  exact ⟨e2, e3⟩
theorem En.entry {a b : Int} {N : Nat} (h : En a b N) {i : Nat} (h0 : 0 < i) (hi : i < N) : 1 ≤ kq a b i ∧ (i + 1 = N → 2 ≤ kq a b i) := by
  have u := h.up hi h0
  have p := h.pos i hi
  have e := Int.mul_ediv_add_emod (es a b i).1 (es a b i).2
  have m := Int.emod_lt_of_pos (es a b i).1 p
  have s := h.step hi
  have z := h.zero
  have q0 : 0 ≤ kq a b i := Int.ediv_nonneg (by omega) (by omega)
  have k1 : 1 ≤ kq a b i := by
    rcases Int.lt_or_le (kq a b i) 1 with c | c
    · have c' : (es a b i).1 / (es a b i).2 = 0 := by unfold kq at c q0; omega
      rw [c'] at e; omega
    · exact c
  refine ⟨k1, fun hN => ?_⟩
  rcases Int.lt_or_le (kq a b i) 2 with c | c
  · have c' : (es a b i).1 / (es a b i).2 = 1 := by unfold kq at c k1; omega
    rw [← hN, s.2.1] at z
    rw [c', z] at e; omega
  · exact c
/-- The entries are numbers. -/
theorem En.size {a b : Int} {N M : Nat} (h : En a b N) (ha : a.natAbs ≤ M) (hb : b.natAbs ≤ M) {i : Nat} (hi : i < N) : (kq a b i).natAbs ≤ M := by
  have p := h.pos i hi
  have hu : (es a b i).1.natAbs ≤ M := by
    rcases Nat.eq_zero_or_pos i with e | e
    · subst e; exact ha
    · have := h.up hi e; omega
  unfold kq
  exact Nat.le_trans (Int.natAbs_ediv_le_natAbs _ _) hu

end Go.Proofs.YtcnfhndejkngkaaGreatDoor.CnQ
end

section
/- Plain: a path's steps stand in runs, and these are Euclid's quotients, the last one less one. -/
set_option linter.unusedSimpArgs false
set_option linter.unusedVariables false
set_option maxRecDepth 100000
namespace Go.Proofs.YtcnfhndejkngkaaGreatDoor
namespace ST
def rl : Bool → List Nat → List Bool
  | _, [] => []
  | b, q :: l => List.replicate q b ++ rl (!b) l
theorem nd_rep_true (l : List Bool) : ∀ k, nd (List.replicate k true ++ l) = ((nd l).1 + k * (nd l).2, (nd l).2)
  | 0 => by simp
  | k + 1 => by
    show ((nd (List.replicate k true ++ l)).1 + (nd (List.replicate k true ++ l)).2, (nd (List.replicate k true ++ l)).2) = _
    rw [nd_rep_true l k]
    show ((nd l).1 + k * (nd l).2 + (nd l).2, (nd l).2) = _
    rw [Nat.succ_mul, Nat.add_assoc]
theorem nd_rep_false (l : List Bool) : ∀ k, nd (List.replicate k false ++ l) = ((nd l).1, (nd l).2 + k * (nd l).1)
  | 0 => by simp
  | k + 1 => by
    show ((nd (List.replicate k false ++ l)).1, (nd (List.replicate k false ++ l)).1 + (nd (List.replicate k false ++ l)).2) = _
    rw [nd_rep_false l k]
    show ((nd l).1, (nd l).1 + ((nd l).2 + k * (nd l).1)) = _
    rw [Nat.succ_mul, show (nd l).1 + ((nd l).2 + k * (nd l).1) = (nd l).2 + (k * (nd l).1 + (nd l).1) by omega]
theorem rl_len : ∀ (l : List Nat) (b : Bool), (rl b l).length = l.sum
  | [], _ => rfl
  | q :: l, b => by
    show (List.replicate q b ++ rl (!b) l).length = _
    rw [List.length_append, List.length_replicate, rl_len l, List.sum_cons]
theorem rl_take : ∀ (l : List Nat) (b : Bool) (i : Nat), i < l.length → rl b (l.take (i + 1)) = rl b (l.take i) ++ List.replicate (l.getD i 0) (if i % 2 = 0 then b else !b)
  | [], _, _, h => by simp at h
  | q :: l, b, 0, h => by simp [rl]
  | q :: l, b, i + 1, h => by
    have ih := rl_take l (!b) i (by simpa using h)
    show List.replicate q b ++ rl (!b) (l.take (i + 1)) = List.replicate q b ++ rl (!b) (l.take i) ++ List.replicate (l.getD i 0) _
    rw [ih, List.append_assoc]
    congr 2
    by_cases h2 : i % 2 = 0
    · rw [if_pos h2, if_neg (by omega)]
    · rw [if_neg h2, if_pos (by omega), Bool.not_not]
/-- Euclid's way, from a and b on: j more steps. -/
def sfx : Nat → Nat → Nat → List Nat
  | a, b, 0 => [a / b - 1]
  | a, b, j + 1 => (a / b) :: sfx b (a % b) j
def Eu : Nat → Nat → Nat → Prop
  | a, b, 0 => 0 < b ∧ a % b = 0
  | a, b, j + 1 => 0 < b ∧ Eu b (a % b) j
theorem sfx_len : ∀ j a b, (sfx a b j).length = j + 1
  | 0, _, _ => rfl
  | j + 1, a, b => by show (sfx b (a % b) j).length + 1 = _; rw [sfx_len j]
theorem nd_sfx : ∀ j a b, Eu a b j → Nat.gcd a b = 1 → 0 < a → nd (rl true (sfx a b j)) = (a, b) ∧ nd (rl false (sfx a b j)) = (b, a)
  | 0, a, b, h, hg, ha => by
    have h1 : Nat.gcd a b = b := Nat.gcd_eq_right (Nat.dvd_of_mod_eq_zero h.2)
    obtain rfl : b = 1 := by omega
    have e : (sfx a 1 0) = [a - 1] := by show [a / 1 - 1] = _; rw [Nat.div_one]
    rw [e]
    constructor
    · show nd (List.replicate (a - 1) true ++ []) = _
      rw [nd_rep_true]
      show (1 + (a - 1) * 1, 1) = _
      rw [show 1 + (a - 1) * 1 = a by omega]
    · show nd (List.replicate (a - 1) false ++ []) = _
      rw [nd_rep_false]
      show (1, 1 + (a - 1) * 1) = _
      rw [show 1 + (a - 1) * 1 = a by omega]
  | j + 1, a, b, h, hg, ha => by
    have hg2 : Nat.gcd b (a % b) = 1 := by rw [Nat.gcd_comm, ← Nat.gcd_rec, Nat.gcd_comm]; exact hg
    have ih := nd_sfx j b (a % b) h.2 hg2 h.1
    have e := Nat.mod_add_div a b
    rw [Nat.mul_comm] at e
    constructor
    · show nd (List.replicate (a / b) true ++ rl false (sfx b (a % b) j)) = _
      rw [nd_rep_true, ih.2]
      show (a % b + a / b * b, b) = _
      rw [e]
    · show nd (List.replicate (a / b) false ++ rl true (sfx b (a % b) j)) = _
      rw [nd_rep_false, ih.1]
      show (b, a % b + a / b * b) = _
      rw [e]
def en (x y : Nat) : Nat → Nat × Nat
  | 0 => (x, y)
  | i + 1 => ((en x y i).2, (en x y i).1 % (en x y i).2)
theorem es_en (x y : Nat) : ∀ i, CnQ.es (x : Int) (y : Int) i = (((en x y i).1 : Int), ((en x y i).2 : Int))
  | 0 => rfl
  | i + 1 => by
    show ((CnQ.es (x : Int) (y : Int) i).2, (CnQ.es (x : Int) (y : Int) i).1 % (CnQ.es (x : Int) (y : Int) i).2) = _
    rw [es_en x y i]
    rfl
theorem kq_en (x y i : Nat) : CnQ.kq (x : Int) (y : Int) i = (((en x y i).1 / (en x y i).2 : Nat) : Int) := by
  unfold CnQ.kq
  rw [es_en]
  rfl
theorem en_shift (x y : Nat) : ∀ i, en x y (i + 1) = en y (x % y) i
  | 0 => rfl
  | i + 1 => by
    show ((en x y (i + 1)).2, (en x y (i + 1)).1 % (en x y (i + 1)).2) = ((en y (x % y) i).2, (en y (x % y) i).1 % (en y (x % y) i).2)
    rw [en_shift x y i]
theorem sfx_get : ∀ j a b i, i ≤ j → (sfx a b j).getD i 0 = if i = j then (en a b i).1 / (en a b i).2 - 1 else (en a b i).1 / (en a b i).2
  | 0, a, b, i, h => by obtain rfl : i = 0 := by omega
                        rw [if_pos rfl]; rfl
  | j + 1, a, b, 0, h => by rw [if_neg (by omega)]; rfl
  | j + 1, a, b, i + 1, h => by
    have ih := sfx_get j b (a % b) i (by omega)
    rw [← en_shift] at ih
    show (sfx b (a % b) j).getD i 0 = _
    rw [ih]
    by_cases e : i = j
    · rw [if_pos e, if_pos (by omega)]
    · rw [if_neg e, if_neg (by omega)]
theorem eu_of : ∀ j a b, (∀ i, i ≤ j → 0 < (en a b i).2) → (en a b (j + 1)).2 = 0 → Eu a b j
  | 0, a, b, h, h0 => ⟨h 0 (Nat.le_refl _), h0⟩
  | j + 1, a, b, h, h0 => ⟨h 0 (by omega), eu_of j b (a % b) (fun i hi => by rw [← en_shift]; exact h (i + 1) (by omega)) (by rw [← en_shift]; exact h0)⟩
/-- What the program makes of Expand's list. -/
theorem runs_of {x y N : Nat} (hx : 0 < x) (hg : Nat.gcd x y = 1) (h : CnQ.En (x : Int) (y : Int) N) : ∃ L : List Nat, L.length = N ∧ (∀ i, i < N → CnQ.kq (x : Int) (y : Int) i = (((L.getD i 0) + (if i + 1 = N then 1 else 0) : Nat) : Int)) ∧ rl true L = path x y ∧ L.sum = (path x y).length ∧ L.sum + 1 = qsum x y := by
  have h1 := h.one
  have hy : 0 < y := by have := h.b0; omega
  obtain ⟨j, rfl⟩ : ∃ j, N = j + 1 := ⟨N - 1, by omega⟩
  have hE : Eu x y j := eu_of j x y (fun i hi => by
    have := h.pos i (by omega)
    rw [es_en] at this
    exact Int.natCast_pos.1 this) (by
    have := h.zero
    rw [es_en] at this
    exact Int.natCast_eq_zero.1 this)
  have hn := (nd_sfx j x y hE hg hx).1
  have hp : rl true (sfx x y j) = path x y := by
    rw [← nd_path (rl true (sfx x y j)), hn]
  refine ⟨sfx x y j, sfx_len j x y, fun i hi => ?_, hp, by rw [← hp, rl_len], by rw [← rl_len _ true, hp, path_len hx hy hg]⟩
  rw [kq_en, sfx_get j x y i (by omega)]
  by_cases e : i = j
  · subst e
    rw [if_pos rfl, if_pos rfl]
    -- the last quotient is at least one
    have h2 : 1 ≤ (en x y i).1 / (en x y i).2 := by
      have h3 : 0 < (en x y i).2 := by
        have := h.pos i (by omega)
        rw [es_en] at this
        exact Int.natCast_pos.1 this
      rw [Nat.le_div_iff_mul_le h3, Nat.one_mul]
      rcases Nat.eq_zero_or_pos i with h4 | h4
      · subst h4
        have h5 : x % y = 0 := by
          have := h.zero
          rw [es_en] at this
          exact Int.natCast_eq_zero.1 this
        exact Nat.le_of_dvd hx (Nat.dvd_of_mod_eq_zero h5)
      · have := (h.up (i := i) (by omega) h4).1
        rw [es_en] at this
        have h6 : ((en x y i).2 : Int) < ((en x y i).1 : Int) := this
        omega
    omega
  · rw [if_neg e, if_neg (by omega)]; rfl
theorem pos_left {a k : Int} (h : 0 < a * k) (hk : 0 < k) : 0 < a := by
  rcases Int.lt_or_le 0 a with h1 | h1
  · exact h1
  · have := Int.mul_le_mul_of_nonneg_right h1 (show 0 ≤ k by omega)
    rw [Int.zero_mul] at this
    omega
theorem es_scale (a b k : Int) (hk : 0 < k) : ∀ i, CnQ.es (a * k) (b * k) i = ((CnQ.es a b i).1 * k, (CnQ.es a b i).2 * k)
  | 0 => rfl
  | i + 1 => by
    show ((CnQ.es (a * k) (b * k) i).2, (CnQ.es (a * k) (b * k) i).1 % (CnQ.es (a * k) (b * k) i).2) = _
    rw [es_scale a b k hk i]
    show ((CnQ.es a b i).2 * k, (CnQ.es a b i).1 * k % ((CnQ.es a b i).2 * k)) = ((CnQ.es a b i).2 * k, (CnQ.es a b i).1 % (CnQ.es a b i).2 * k)
    rw [Int.mul_comm (CnQ.es a b i).1 k, Int.mul_comm (CnQ.es a b i).2 k, Int.mul_emod_mul_of_pos _ _ hk, Int.mul_comm k ((CnQ.es a b i).1 % (CnQ.es a b i).2)]
theorem en_scale {a b k : Int} {N : Nat} (hk : 0 < k) (h : CnQ.En (a * k) (b * k) N) : CnQ.En a b N ∧ CnQ.ek (a * k) (b * k) N = CnQ.ek a b N := by
  refine ⟨⟨?_, fun i hi => ?_, ?_⟩, ?_⟩
  · have := h.b0
    exact pos_left this hk
  · have := h.pos i hi
    rw [es_scale a b k hk] at this
    exact pos_left this hk
  · have := h.zero
    rw [es_scale a b k hk] at this
    have h2 : (CnQ.es a b N).2 * k = 0 := this
    rcases Int.mul_eq_zero.1 h2 with h3 | h3
    · exact h3
    · omega
  · unfold CnQ.ek
    apply List.map_congr_left
    intro i _
    unfold CnQ.kq
    rw [es_scale a b k hk]
    show (CnQ.es a b i).1 * k / ((CnQ.es a b i).2 * k) = _
    rw [Int.mul_comm _ k, Int.mul_comm _ k, Int.mul_ediv_mul_of_pos _ _ hk]
/-- The list of a fraction in lowest terms is that of each way to write it. -/
theorem en_low {A B : Int} {x y N : Nat} (hg : Nat.gcd x y = 1) (hy : 0 < y) (h : CnQ.En A B N) (he : A * (y : Int) = (x : Int) * B) : CnQ.En (x : Int) (y : Int) N ∧ CnQ.ek A B N = CnQ.ek (x : Int) (y : Int) N := by
  have h1 : (y : Int) ∣ (x : Int) * B := ⟨A, by rw [← he, Int.mul_comm]⟩
  have h3 : (y : Int) ∣ B := by
    have h4 : y ∣ x * B.natAbs := by
      have := Int.natAbs_dvd_natAbs.2 h1
      rw [Int.natAbs_mul] at this
      simpa using this
    have h5 := Nat.Coprime.dvd_of_dvd_mul_left (show Nat.Coprime y x from by rw [Nat.coprime_comm]; exact hg) h4
    exact Int.natAbs_dvd_natAbs.1 (by simpa using h5)
  obtain ⟨k, hk⟩ := h3
  have hB := h.b0
  have hk0 : 0 < k := by
    rw [hk, Int.mul_comm] at hB
    exact pos_left hB (by omega)
  have hA : A = (x : Int) * k := by
    rw [hk] at he
    have h3 : (y : Int) * A = (y : Int) * ((x : Int) * k) := by rw [Int.mul_comm, he]; grind
    exact Int.eq_of_mul_eq_mul_left (by omega) h3
  have hB2 : B = (y : Int) * k := hk
  rw [hA, hB2] at h ⊢
  exact en_scale hk0 h
end ST
end Go.Proofs.YtcnfhndejkngkaaGreatDoor
end
