import Derived.Lib.ItoaNum
import Derived.Test.YtnkjadpmigpneaaGreatDoorRows
import Derived.WalkKit
import Derived.WalkSpells
import Derived.WalkLawsBesides
import Derived.Deep.QuietTactic
import Derived.BigQuiet
section
set_option linter.unusedSimpArgs false
set_option linter.unusedVariables false
set_option maxRecDepth 100000
namespace Go.Proofs.YtnkjadpmigpneaaGreatDoor.LgM
abbrev Bs : Nat := 1000000000
def dgl (k n : Nat) : List Nat := (List.range k).map (fun j => n / Bs ^ j % Bs)
theorem dgl_len (k n : Nat) : (dgl k n).length = k := by simp [dgl]
theorem dgl_succ (k n : Nat) : dgl (k + 1) n = dgl k n ++ [n / Bs ^ k % Bs] := by simp [dgl, List.range_succ]
theorem bs_pos (k : Nat) : 0 < Bs ^ k := Nat.pow_pos (by decide)
theorem pow_s (k : Nat) : Bs ^ (k + 1) = Bs ^ k * Bs := Nat.pow_succ ..
theorem div_s (n k : Nat) : n / Bs ^ (k + 1) = n / Bs ^ k / Bs := by rw [pow_s, Nat.div_div_eq_div_mul]
theorem mod_s (n k : Nat) : n % Bs ^ (k + 1) = n % Bs ^ k + Bs ^ k * (n / Bs ^ k % Bs) := by rw [pow_s, Nat.mod_mul]
theorem plus_step (x y k : Nat) : (x % Bs ^ k + y % Bs ^ k) / Bs ^ k + (x / Bs ^ k % Bs + y / Bs ^ k % Bs) = (x % Bs ^ (k+1) + y % Bs ^ (k+1)) / Bs ^ k := by
  rw [mod_s, mod_s]
  have e : x % Bs ^ k + Bs ^ k * (x / Bs ^ k % Bs) + (y % Bs ^ k + Bs ^ k * (y / Bs ^ k % Bs)) = (x % Bs ^ k + y % Bs ^ k) + Bs ^ k * (x / Bs ^ k % Bs + y / Bs ^ k % Bs) := by rw [Nat.mul_add]; omega
  rw [e, Nat.add_mul_div_left _ _ (bs_pos k)]
theorem add_div_mod (x y k : Nat) : (x + y) / Bs ^ k % Bs = (x % Bs ^ (k+1) + y % Bs ^ (k+1)) / Bs ^ k % Bs := by
  have h1 : ∀ z, z / Bs ^ k % Bs = z % Bs ^ (k + 1) / Bs ^ k := fun z => by rw [pow_s, Nat.mod_mul_right_div_self]
  rw [h1, h1 (x % Bs ^ (k+1) + y % Bs ^ (k+1)), ← Nat.add_mod]
theorem times_step (x t k : Nat) : x % Bs ^ k * t / Bs ^ k + x / Bs ^ k % Bs * t = x % Bs ^ (k+1) * t / Bs ^ k := by
  rw [mod_s, Nat.add_mul, Nat.mul_assoc, Nat.add_mul_div_left _ _ (bs_pos k)]
theorem mul_div_mod (x t k : Nat) : x * t / Bs ^ k % Bs = x % Bs ^ (k+1) * t / Bs ^ k % Bs := by
  have h1 : ∀ z, z / Bs ^ k % Bs = z % Bs ^ (k + 1) / Bs ^ k := fun z => by rw [pow_s, Nat.mod_mul_right_div_self]
  rw [h1, h1 (x % Bs ^ (k+1) * t), Nat.mod_mul_mod]
structure Nd (k n : Nat) : Prop where
  lt : n < Bs ^ k
  ge : k = 0 ∨ Bs ^ (k - 1) ≤ n
theorem Nd.limb {k n : Nat} (h : Nd k n) (i : Nat) (hi : k ≤ i) : n / Bs ^ i % Bs = 0 := by
  have := Nat.pow_le_pow_right (show 0 < Bs by decide) hi
  rw [Nat.div_eq_of_lt (Nat.lt_of_lt_of_le h.lt this)]; rfl
theorem Nd.le {k n m : Nat} (h : Nd k n) (hm : n < Bs ^ m) : k ≤ m := by
  rcases h.ge with h1 | h1
  · omega
  · rcases Nat.lt_or_ge m k with h2 | h2
    · have := Nat.pow_le_pow_right (show 0 < Bs by decide) (show m ≤ k - 1 by omega)
      omega
    · exact h2
theorem Nd.mod {k n i : Nat} (h : Nd k n) (hi : k ≤ i) : n % Bs ^ i = n :=
  Nat.mod_eq_of_lt (Nat.lt_of_lt_of_le h.lt (Nat.pow_le_pow_right (by decide) hi))
theorem Nd.zero : Nd 0 0 := ⟨by decide, .inl rfl⟩
theorem Nd.mono {k n m : Nat} (h : Nd k n) (hm : n ≤ m) : k = 0 ∨ Bs ^ (k - 1) ≤ m := by
  rcases h.ge with h1 | h1
  · exact .inl h1
  · exact .inr (by omega)
theorem lim_le {a : Nat} (h : a < Bs) : a ≤ 999999999 := by unfold Bs at h; omega
open Go
def pk : Nat → Nat → List UInt8
  | 0, _ => []
  | k + 1, r => pk k (r / 10) ++ [UInt8.ofNat (48 + r % 10)]
theorem dec_ge {u : Nat} (h : ¬ u < 10) : Lib.decDigits u = Lib.decDigits (u / 10) ++ [UInt8.ofNat (48 + u % 10)] := by
  rw [Lib.decDigits, dif_neg h]
theorem dec_lt {u : Nat} (h : u < 10) : Lib.decDigits u = [UInt8.ofNat (48 + u)] := by
  rw [Lib.decDigits, dif_pos h]
theorem dec_join (k q r : Nat) (hq : 0 < q) (hr : r < 10 ^ k) : Lib.decDigits (q * 10 ^ k + r) = Lib.decDigits q ++ pk k r := by
  induction k generalizing r with
  | zero => have : r = 0 := by simpa using hr
            subst this; simp [pk]
  | succ k ih =>
    have h1 : 10 ≤ q * 10 ^ (k + 1) + r := by
      have h2 : 1 * 10 ≤ q * 10 ^ (k + 1) := Nat.mul_le_mul hq (by rw [Nat.pow_succ]; have := Nat.pow_pos (n := k) (show 0 < 10 by decide); omega)
      omega
    have e : q * 10 ^ (k + 1) + r = (q * 10 ^ k) * 10 + r := by rw [Nat.pow_succ, Nat.mul_assoc]
    have e1 : (q * 10 ^ (k + 1) + r) / 10 = q * 10 ^ k + r / 10 := by rw [e]; omega
    have e2 : (q * 10 ^ (k + 1) + r) % 10 = r % 10 := by rw [e]; omega
    rw [dec_ge (by omega), e1, e2, ih (r / 10) (by rw [Nat.pow_succ] at hr; omega)]
    simp [pk]
theorem pk_zero (k : Nat) : pk k 0 = List.replicate k 48 := by
  induction k with
  | zero => rfl
  | succ k ih => simp only [pk]; rw [show (0 : Nat) / 10 = 0 from rfl, ih]; rw [List.replicate_succ']; rfl
theorem pk_pad (k r : Nat) (hk : 1 ≤ k) (hr : r < 10 ^ k) : pk k r = List.replicate (k - (Lib.decDigits r).length) 48 ++ Lib.decDigits r ∧ (Lib.decDigits r).length ≤ k := by
  induction k generalizing r with
  | zero => omega
  | succ k ih =>
    by_cases h : r < 10
    · rw [dec_lt h]
      have e : r / 10 = 0 := by omega
      refine ⟨?_, by simp⟩
      simp only [pk, e, pk_zero]
      rw [Nat.mod_eq_of_lt h]; simp
    · have hk1 : 1 ≤ k := by
        rcases k with _ | k
        · simp at hr; omega
        · omega
      obtain ⟨h1, h2⟩ := ih (r / 10) hk1 (by rw [Nat.pow_succ] at hr; omega)
      rw [dec_ge h]
      refine ⟨?_, by simp; omega⟩
      simp only [pk, h1, List.length_append, List.length_cons, List.length_nil]
      rw [show k + 1 - ((Lib.decDigits (r / 10)).length + (0 + 1)) = k - (Lib.decDigits (r / 10)).length by omega]
      simp
theorem dec_limb (n i : Nat) (h : Bs ^ (i + 1) ≤ n) : Lib.decDigits (n / Bs ^ i) = Lib.decDigits (n / Bs ^ (i + 1)) ++ (List.replicate (9 - (Lib.decDigits (n / Bs ^ i % Bs)).length) 48 ++ Lib.decDigits (n / Bs ^ i % Bs)) := by
  have hp : 0 < Bs ^ i := Nat.pow_pos (by decide)
  have e : n / Bs ^ (i + 1) = n / Bs ^ i / Bs := by rw [Nat.pow_succ, Nat.div_div_eq_div_mul]
  have hm : n / Bs ^ i % Bs < Bs := Nat.mod_lt _ (by decide)
  have h9 : Bs = 10 ^ 9 := by decide
  rw [← (pk_pad 9 (n / Bs ^ i % Bs) (by decide) (by rw [← h9]; exact hm)).1, ← dec_join 9 _ _ ?_ (by rw [← h9]; exact hm), ← h9, e, Nat.mul_comm, Nat.div_add_mod]
  exact Nat.div_pos h (Nat.pow_pos (by decide))
def rd (a : Nat) (l : List UInt8) : Nat := l.foldl (fun a c => a * 10 + (c.toNat - 48)) a
theorem rd_dec (n : Nat) : rd 0 (Lib.decDigits n) = n := by
  induction n using Nat.strongRecOn with
  | _ n ih =>
    have hc : ∀ x, x < 10 → (UInt8.ofNat (48 + x)).toNat - 48 = x := fun x hx => by simp [UInt8.toNat_ofNat']; omega
    by_cases h : n < 10
    · rw [dec_lt h]; simp only [rd, List.foldl_cons, List.foldl_nil]; rw [hc n h]; omega
    · rw [dec_ge h, rd, List.foldl_append]
      show (rd 0 (Lib.decDigits (n / 10))) * 10 + ((UInt8.ofNat (48 + n % 10)).toNat - 48) = n
      rw [ih (n / 10) (by omega), hc _ (by omega)]; omega
theorem dec_digit (n : Nat) : ∀ c ∈ Lib.decDigits n, 48 ≤ c.toNat ∧ c.toNat ≤ 57 := by
  induction n using Nat.strongRecOn with
  | _ n ih =>
    have hc : ∀ x, x < 10 → 48 ≤ (UInt8.ofNat (48 + x)).toNat ∧ (UInt8.ofNat (48 + x)).toNat ≤ 57 := fun x hx => by simp [UInt8.toNat_ofNat']; omega
    by_cases h : n < 10
    · rw [dec_lt h]; intro c hm; rw [List.mem_singleton] at hm; subst hm; exact hc n h
    · rw [dec_ge h]
      intro c hm
      rcases List.mem_append.1 hm with h1 | h1
      · exact ih _ (by omega) c h1
      · rw [List.mem_singleton] at h1; subst h1; exact hc _ (by omega)
theorem dec_head (n : Nat) (hn : 0 < n) : ∃ c r, Lib.decDigits n = c :: r ∧ 49 ≤ c.toNat := by
  induction n using Nat.strongRecOn with
  | _ n ih =>
    by_cases h : n < 10
    · rw [dec_lt h]; exact ⟨_, [], rfl, by simp [UInt8.toNat_ofNat']; omega⟩
    · obtain ⟨c, r, h1, h2⟩ := ih (n / 10) (by omega) (by omega)
      rw [dec_ge h, h1]; exact ⟨c, _, rfl, h2⟩
theorem dec_len (n k : Nat) (hk : 1 ≤ k) (h : n < 10 ^ k) : (Lib.decDigits n).length ≤ k := (pk_pad k n hk h).2
end Go.Proofs.YtnkjadpmigpneaaGreatDoor.LgM
end

section
set_option linter.unusedSimpArgs false
set_option maxRecDepth 100000
namespace Go.Proofs.YtnkjadpmigpneaaGreatDoor.MathA
structure Eu (A B a b u v nu nv : Int) : Prop where
  lin : a = u * A + v * B
  lin2 : b = nu * A + nv * B
  st : ∃ (p r t s : Int) (α β U N V M : Nat), (p = 1 ∨ p = -1) ∧ (r = 1 ∨ r = -1) ∧ (t = 1 ∨ t = -1) ∧ (s = 1 ∨ s = -1) ∧
    a = p * α ∧ b = r * β ∧ u = -(p * r * t) * U ∧ nu = t * N ∧ v = -(p * r * s) * V ∧ nv = s * M ∧
    α * N + β * U = B.natAbs ∧ α * M + β * V = A.natAbs ∧ Nat.gcd α β = Int.gcd A B ∧
    U ≤ 1000000000000000000 ∧ N ≤ 1000000000000000000 ∧ V ≤ 1000000000000000000 ∧ M ≤ 1000000000000000000 ∧
    α ≤ 1000000000000000000 ∧ β ≤ 1000000000000000000 ∧ ((N = 0 ∧ U = 1 ∧ 0 < β) ∨ (β < α ∧ 1 ≤ N ∧ (β = 0 → U < N)))
end Go.Proofs.YtnkjadpmigpneaaGreatDoor.MathA
end

section
set_option linter.unusedSimpArgs false
set_option linter.unusedVariables false
set_option maxRecDepth 100000
namespace Go.Proofs.YtnkjadpmigpneaaGreatDoor
open Go.RowKit
theorem ret_int {k : IntKind} {a b : Int} (h : a = b) : Ending.returned (.int k a) = .returned (.int k b) := by rw [h]
def numB (n : Int) : Bool := decide (-1000000000000000000 ≤ n) && decide (n ≤ 1000000000000000000)
end Go.Proofs.YtnkjadpmigpneaaGreatDoor
end

section
set_option linter.unusedSimpArgs false
set_option linter.unusedVariables false
set_option maxRecDepth 100000
namespace Go.Proofs.YtnkjadpmigpneaaGreatDoor
open Go.RowKit
structure Bez (a b u v : Int) : Prop where
  lin : u * a + v * b = (Int.gcd a b : Int)
  nul : b = 0 → v = 0 ∧ u = a.sign
  low : b ≠ 0 → 0 ≤ u
  high : b ≠ 0 → u < (b.natAbs / Int.gcd a b : Nat)
  vb : v.natAbs ≤ 2000000000000000000
end Go.Proofs.YtnkjadpmigpneaaGreatDoor
end

section
set_option linter.unusedSimpArgs false
set_option linter.unusedVariables false
set_option maxRecDepth 100000
namespace Go.Proofs.YtnkjadpmigpneaaGreatDoor
open Go.RowKit
def bwB (lo hi x : Int) : Bool := decide (lo ≤ x) && decide (x ≤ hi)
def nb (lo hi : Int) : Nat → List Int → Int × Int
  | _, [] => (0, 0)
  | i, x :: r => if bwB lo hi x = true then nb lo hi (i + 1) r else (3, i)
theorem nb_skip (lo hi : Int) (xs : List Int) (k : Nat) (hk : k ≤ xs.length) (h : ∀ j, j < k → bwB lo hi (xs.getD j 0) = true) : nb lo hi 0 xs = nb lo hi k (xs.drop k) := by
  induction k with
  | zero => rfl
  | succ n ih =>
    rw [ih (by omega) (fun j hj => h j (by omega)), List.drop_eq_getElem_cons (by omega), nb]
    have := h n (by omega)
    rw [List.getD_eq_getElem?_getD, List.getElem?_eq_getElem (by omega), Option.getD_some] at this
    rw [if_pos this]
theorem nb_none (lo hi : Int) (xs : List Int) (h : ∀ j, j < xs.length → bwB lo hi (xs.getD j 0) = true) : nb lo hi 0 xs = (0, 0) := by
  rw [nb_skip lo hi xs xs.length (Nat.le_refl _) h, List.drop_length]; rfl
theorem nb_hit (lo hi : Int) (xs : List Int) (k : Nat) (hk : k < xs.length) (h : ∀ j, j < k → bwB lo hi (xs.getD j 0) = true) (hb : bwB lo hi (xs.getD k 0) = false) : nb lo hi 0 xs = (3, (k : Int)) := by
  rw [nb_skip lo hi xs k (by omega) h, List.drop_eq_getElem_cons hk, nb]
  rw [List.getD_eq_getElem?_getD, List.getElem?_eq_getElem hk, Option.getD_some] at hb
  rw [if_neg (by simp [hb])]
def inB (m x : Int) : Bool := decide (-m ≤ x) && decide (x ≤ m)
def nw (m : Int) : Nat → List Int → Int × Int
  | _, [] => (0, 0)
  | i, x :: r => if inB m x = true then nw m (i + 1) r else (3, i)
set_option maxHeartbeats 400000 in
theorem between_any (lo hi : Int) (xs : List Int) (b o cap : Nat) (w : World) (hl : xs.length ≤ 1000000000) (hb : b < w.heap.size)
    (hc : ∀ j, j < xs.length → w.cell? ⟨b, o + j, none⟩ = some (.int .i64 (xs.getD j 0))) :
    Calls Tryz.prog 35 #[.int .i64 lo, .int .i64 hi, .slice (some ⟨b, o, none⟩) xs.length cap] w fun e w' => e = .returned (.agg #[.int .i64 (nb lo hi 0 xs).1, .int .i64 (nb lo hi 0 xs).2]) ∧ Below w.heap.size w w' := by
  go_enter Tryz.func35, Tryz.ntmps35
  go_wp2
  go_loop [11] (fun i => ∃ k : Nat, k ≤ xs.length ∧ i = .int .i64 k ∧ ∀ j, j < k → bwB lo hi (xs.getD j 0) = true) (fun i => xs.length - (intOf i).toNat)
  case atStart => exact ⟨0, Nat.zero_le _, rfl, fun j hj => absurd hj (Nat.not_lt_zero _)⟩
  case round =>
    obtain ⟨k, hk, rfl, hok⟩ := hrel
    have HOK : Hid (∀ j, j < k → bwB lo hi (xs.getD j 0) = true) := hok
    have HC := hc
    clear hok hc
    by_cases hlt : k < xs.length
    · have hck := HC k hlt
      obtain ⟨x, hx⟩ : ∃ x, x = xs.getD k 0 := ⟨_, rfl⟩
      rw [← hx] at hck
      have HX : Hid (x = xs.getD k 0) := hx
      clear HC hx
      by_cases h1 : x < lo
      · have t1 : decide (x < lo) = true := decide_eq_true h1
        have hn : Hid (bwB lo hi x = false) := by show _ = _; simp [bwB]; omega
        clear h1
        go_wp2
        refine bodyPost_ret (v := .agg #[.int .i64 3, .int .i64 k]) (by simp [results, Tryz.results35, go_sem]) rfl ⟨?_, ?_⟩
        · rw [nb_hit lo hi xs k hlt HOK.out (by rw [← HX.out]; exact hn.out)]
        · exact Below.alloc (Below.refl _ _) (Nat.le_refl _) _
      · have t1 : decide (x < lo) = false := decide_eq_false h1
        by_cases h2 : hi < x
        · have t2 : decide (hi < x) = true := decide_eq_true h2
          have hn : Hid (bwB lo hi x = false) := by show _ = _; simp [bwB]; omega
          clear h1 h2
          go_wp2
          refine bodyPost_ret (v := .agg #[.int .i64 3, .int .i64 k]) (by simp [results, Tryz.results35, go_sem]) rfl ⟨?_, ?_⟩
          · rw [nb_hit lo hi xs k hlt HOK.out (by rw [← HX.out]; exact hn.out)]
          · exact Below.alloc (Below.refl _ _) (Nat.le_refl _) _
        · have t2 : decide (hi < x) = false := decide_eq_false h2
          have hn : Hid (bwB lo hi x = true) := by show _ = _; simp [bwB]; omega
          clear h1 h2
          go_wp2
          go_round
          case rel =>
            refine ⟨k + 1, by omega, by go_num, fun j hj => ?_⟩
            by_cases hjk : j = k
            · subst hjk; rw [← HX.out]; exact hn.out
            · exact HOK.out j (by omega)
          case measure => simp [intOf]; omega
    · go_wp2
      refine bodyPost_ret (v := .agg #[.int .i64 0, .int .i64 0]) (by simp [results, Tryz.results35, go_sem]) rfl ⟨?_, ?_⟩
      · rw [nb_none lo hi xs (fun j hj => HOK.out j (by omega))]
      · exact Below.alloc (Below.refl _ _) (Nat.le_refl _) _
theorem nw_nb (m : Int) : ∀ (xs : List Int) (i : Nat), nw m i xs = nb (-m) m i xs
  | [], _ => rfl
  | x :: r, i => by rw [nw, nb, nw_nb m r (i + 1)]; rfl
set_option maxHeartbeats 400000 in
theorem bwithin_any (m : Int) (xs : List Int) (b o cap : Nat) (w : World) (hm0 : 0 ≤ m) (hm1 : m ≤ 1000000000000000000) (hl : xs.length ≤ 1000000000) (hb : b < w.heap.size)
    (hc : ∀ j, j < xs.length → w.cell? ⟨b, o + j, none⟩ = some (.int .i64 (xs.getD j 0))) :
    Calls Tryz.prog 134 #[.int .i64 m, .slice (some ⟨b, o, none⟩) xs.length cap] w fun e w' => e = .returned (.agg #[.int .i64 (nw m 0 xs).1, .int .i64 (nw m 0 xs).2]) ∧ Below w.heap.size w w' := by
  obtain ⟨K, hK⟩ : ∃ K, K = nw m 0 xs := ⟨_, rfl⟩
  have HB : Hid (∀ w', Below w.heap.size w w' → Calls Tryz.prog 35 #[.int .i64 (-m), .int .i64 m, .slice (some ⟨b, o, none⟩) xs.length cap] w' fun e w'' => e = .returned (.agg #[.int .i64 K.1, .int .i64 K.2]) ∧ Below w'.heap.size w' w'') := fun w' k => by
    rw [hK, nw_nb]
    exact between_any (-m) m xs b o cap w' hl (Nat.lt_of_lt_of_le hb k.size) (fun j hj => (k.cell (p := ⟨b, o + j, none⟩) hb).trans (hc j hj))
  rw [← hK]
  clear hK hc hl hb
  go_enter Tryz.func134, Tryz.ntmps134
  go_wp2_with fail
  have K0 : Below w.heap.size w (w.alloc (.cells #[.int .i64 0, .int .i64 0] 23)) := Below.alloc (Below.refl _ _) (Nat.le_refl _) _
  refine (HB.out _ K0).mono ?_
  rintro e w1 ⟨rfl, k1⟩
  have hz : w.heap.size < w1.heap.size := by have := k1.size; simp at this; omega
  have q0 : w1.cell? ⟨w.heap.size, 0, none⟩ = some (.int .i64 0) := cell_later k1 (by simp)
  have q1 : w1.cell? ⟨w.heap.size, 1, none⟩ = some (.int .i64 0) := cell_later k1 (by simp)
  have q2 : w1.frozen? ⟨w.heap.size, 0, none⟩ = false := (k1.frozen (p := ⟨w.heap.size, 0, none⟩) (by simp)).trans (by simp)
  have q3 : w1.frozen? ⟨w.heap.size, 1, none⟩ = false := (k1.frozen (p := ⟨w.heap.size, 1, none⟩) (by simp)).trans (by simp)
  have HK : Hid (Below w.heap.size w w1) := K0.trans (k1.mono (by simp))
  clear K0 k1 HB
  go_wp2
  refine bodyPost_ret (v := .agg #[.int .i64 K.1, .int .i64 K.2]) (by simp [results, Tryz.results134, go_sem, q0, q1, hz]) rfl ⟨rfl, ?_⟩
  exact Below.setCell (Below.setCell HK.out (Nat.le_refl _) _) (Nat.le_refl _) _
end Go.Proofs.YtnkjadpmigpneaaGreatDoor
end
