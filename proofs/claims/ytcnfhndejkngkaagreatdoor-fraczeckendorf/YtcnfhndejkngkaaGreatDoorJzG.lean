import Derived.Test.YtcnfhndejkngkaaGreatDoorJzF
import Derived.Test.YtcnfhndejkngkaaGreatDoorBitsB
import Derived.Test.YtcnfhndejkngkaaGreatDoorJzD
import Derived.Test.YtcnfhndejkngkaaGreatDoorJzE
section
/- Plain facts: joining two remainders, and a list of them. Nothing of the program. -/
set_option linter.unusedSimpArgs false
set_option linter.unusedVariables false
set_option maxRecDepth 100000
namespace Go.Proofs.YtcnfhndejkngkaaGreatDoor.MathC

/-- One joining: steps of m that fill the gap. -/
theorem join_step (r m mk u v g gap q : Int) (st : Int) (more : Int) (hg : g ≠ 0) (hmk : mk = g * more) (hm : ∃ x, m = g * x) (hl : u * m + v * mk = g) (hgap : gap = g * q) (hst : ∃ k, st = q * u + k * more) :
    ∃ z, st * m - gap = mk * z := by
  obtain ⟨x, rfl⟩ := hm
  obtain ⟨k, rfl⟩ := hst
  subst hmk hgap
  refine ⟨k * x - q * v, ?_⟩
  have e1 : (q * u + k * more) * (g * x) = q * (u * (g * x)) + (g * more) * (k * x) := by
    rw [Int.add_mul]; congr 1 <;> simp only [Int.mul_assoc, Int.mul_comm, Int.mul_left_comm]
  have e2 : u * (g * x) = g - v * (g * more) := by omega
  rw [e1, e2, Int.mul_sub, Int.mul_sub]
  have e3 : q * (v * (g * more)) = g * more * (q * v) := by simp only [Int.mul_assoc, Int.mul_comm, Int.mul_left_comm]
  have e4 : q * g = g * q := Int.mul_comm ..
  omega

/-- The least number that the first k of ms divide. -/
def jl (ms : List Int) : Nat → Nat
  | 0 => 1
  | k + 1 => Nat.lcm (jl ms k) (ms.getD k 0).toNat

def K : Int := 1000000000000000000

/-- The state behind k places. -/
structure JSt (rs ms : List Int) (k : Nat) (r m : Nat) : Prop where
  hi : r < m
  cap : (m : Int) ≤ 1000000000000000000
  ok : ∀ j, j < k → -1000000000000000000 ≤ rs.getD j 0 ∧ rs.getD j 0 ≤ 1000000000000000000 ∧ 1 ≤ ms.getD j 0 ∧ ms.getD j 0 ≤ 1000000000000000000
  lcm : m = jl ms k
  cong : ∀ j, j < k → ms.getD j 0 ∣ (r : Int) - rs.getD j 0

theorem jst_start (rs ms : List Int) : JSt rs ms 0 0 1 := ⟨by omega, by omega, fun j hj => absurd hj (Nat.not_lt_zero _), rfl, fun j hj => absurd hj (Nat.not_lt_zero _)⟩

theorem jl_dvd (ms : List Int) (d : Int) : ∀ k, (∀ j, j < k → 1 ≤ ms.getD j 0 ∧ ms.getD j 0 ∣ d) → (jl ms k : Int) ∣ d := by
  intro k
  induction k with
  | zero => intro _; exact ⟨d, by simp [jl]⟩
  | succ n ih =>
    intro h
    have h1 := ih (fun j hj => h j (by omega))
    obtain ⟨h2, h3⟩ := h n (by omega)
    have e : ((ms.getD n 0).toNat : Int) = ms.getD n 0 := by omega
    have h4 : ((ms.getD n 0).toNat : Int) ∣ d := by rw [e]; exact h3
    rw [Int.ofNat_dvd_left] at h1 h4 ⊢
    exact Nat.lcm_dvd h1 h4

theorem jl_mem (ms : List Int) (j : Nat) : ∀ k, j < k → 1 ≤ ms.getD j 0 → ms.getD j 0 ∣ (jl ms k : Int) := by
  intro k
  induction k with
  | zero => intro h; exact absurd h (Nat.not_lt_zero _)
  | succ q ih =>
    intro h h1
    by_cases e : j = q
    · subst e
      have e2 : ((ms.getD j 0).toNat : Int) = ms.getD j 0 := by omega
      have : ((ms.getD j 0).toNat : Int) ∣ ((Nat.lcm (jl ms j) (ms.getD j 0).toNat : Nat) : Int) := by
        rw [Int.ofNat_dvd_left]; exact Nat.dvd_lcm_right _ _
      rw [e2] at this; exact this
    · refine Int.dvd_trans (ih (by omega) h1) ?_
      rw [Int.ofNat_dvd_left]; exact Nat.dvd_lcm_left _ _

theorem jst_unique {rs ms : List Int} {k r m r' m' : Nat} (h : JSt rs ms k r m) (h' : JSt rs ms k r' m') : r = r' ∧ m = m' := by
  have hm : m = m' := h.lcm.trans h'.lcm.symm
  subst hm
  refine ⟨?_, rfl⟩
  have hd : (m : Int) ∣ (r : Int) - (r' : Int) := by
    rw [h.lcm]
    refine jl_dvd ms _ k fun j hj => ⟨(h.ok j hj).2.2.1, ?_⟩
    have h1 := h.cong j hj
    have h2 := h'.cong j hj
    have : (r : Int) - (r' : Int) = ((r : Int) - rs.getD j 0) - ((r' : Int) - rs.getD j 0) := by omega
    rw [this]; exact Int.dvd_sub h1 h2
  obtain ⟨z, hz⟩ := hd
  have h1 := h.hi
  have h2 := h'.hi
  have hz0 : z = 0 := by
    rcases Int.lt_trichotomy z 0 with c | c | c
    · have : (m : Int) * z ≤ (m : Int) * (-1) := Int.mul_le_mul_of_nonneg_left (by omega) (by omega)
      omega
    · exact c
    · have : (m : Int) * 1 ≤ (m : Int) * z := Int.mul_le_mul_of_nonneg_left (by omega) (by omega)
      omega
  subst hz0
  omega

theorem lcm_mul (a b : Nat) : Nat.lcm a b = a * (b / Nat.gcd a b) := by
  unfold Nat.lcm
  exact Nat.mul_div_assoc a (Nat.gcd_dvd_right a b)

theorem jst_next {rs ms : List Int} {k r m R : Nat} (h : JSt rs ms k r m) (n : Nat) (hn : ms.getD k 0 = (n : Int)) (h1 : 1 ≤ n) (h2 : (n : Int) ≤ 1000000000000000000) (h3 : -1000000000000000000 ≤ rs.getD k 0) (h4 : rs.getD k 0 ≤ 1000000000000000000)
    (hcap : ((m * (n / Nat.gcd m n) : Nat) : Int) ≤ 1000000000000000000) (hR : R < m * (n / Nat.gcd m n)) (d1 : (m : Int) ∣ (R : Int) - (r : Int)) (d2 : (n : Int) ∣ (R : Int) - rs.getD k 0) :
    JSt rs ms (k + 1) R (m * (n / Nat.gcd m n)) := by
  refine ⟨hR, hcap, fun j hj => ?_, ?_, fun j hj => ?_⟩
  · by_cases e : j = k
    · subst e; rw [hn]; omega
    · exact h.ok j (by omega)
  · show _ = Nat.lcm (jl ms k) (ms.getD k 0).toNat
    rw [hn, Int.toNat_natCast, ← h.lcm, lcm_mul]
  · by_cases e : j = k
    · subst e; rw [hn]; exact d2
    · have h5 := h.cong j (by omega)
      have h6 : ms.getD j 0 ∣ (m : Int) := by
        rw [h.lcm]
        exact jl_mem ms j k (by omega) (h.ok j (by omega)).2.2.1
      have : (R : Int) - rs.getD j 0 = ((R : Int) - (r : Int)) + ((r : Int) - rs.getD j 0) := by omega
      rw [this]
      exact Int.dvd_add (Int.dvd_trans h6 d1) h5

theorem bezout_nat : ∀ (n m : Nat), ∃ u v : Int, u * (m : Int) + v * (n : Int) = (Nat.gcd m n : Int) := by
  intro n
  induction n using Nat.strongRecOn with
  | ind n ih =>
    intro m
    by_cases h0 : n = 0
    · subst h0; exact ⟨1, 0, by simp⟩
    · obtain ⟨u, v, h⟩ := ih (m % n) (Nat.mod_lt _ (by omega)) n
      refine ⟨v, u - v * ((m / n : Nat) : Int), ?_⟩
      have e : Nat.gcd n (m % n) = Nat.gcd m n := by rw [Nat.gcd_comm n, ← Nat.gcd_rec, Nat.gcd_comm]
      rw [e] at h
      have e2 : (m : Int) = (n : Int) * ((m / n : Nat) : Int) + ((m % n : Nat) : Int) := by rw [← Int.natCast_mul, ← Int.natCast_add, Nat.div_add_mod]
      rw [← h, Int.sub_mul]
      have e3 : v * (m : Int) = v * ((m / n : Nat) : Int) * (n : Int) + v * ((m % n : Nat) : Int) := by
        rw [Int.mul_assoc, ← Int.mul_add, Int.mul_comm ((m / n : Nat) : Int), ← e2]
      omega

theorem crt_exists (r m n : Nat) (a : Int) (hr : r < m) (h1 : 1 ≤ n) (hd : (Nat.gcd m n : Int) ∣ a - (r : Int)) :
    ∃ R : Nat, R < m * (n / Nat.gcd m n) ∧ (m : Int) ∣ (R : Int) - (r : Int) ∧ (n : Int) ∣ (R : Int) - a := by
  obtain ⟨u, v, hl⟩ := bezout_nat n m
  have hg0 : 0 < Nat.gcd m n := Nat.gcd_pos_of_pos_left _ (by omega)
  obtain ⟨xm, hxm⟩ := Nat.gcd_dvd_left m n
  obtain ⟨mo, hmo⟩ := Nat.gcd_dvd_right m n
  obtain ⟨q, hq⟩ := hd
  generalize hg : Nat.gcd m n = g at *
  have e : n / g = mo := by rw [hmo]; exact Nat.mul_div_cancel_left _ hg0
  rw [e]
  have hmo0 : 0 < mo := by
    rcases Nat.eq_zero_or_pos mo with c | c
    · subst c; omega
    · exact c
  obtain ⟨st, hst⟩ := Int.eq_ofNat_of_zero_le (Int.emod_nonneg (q * u) (show (mo : Int) ≠ 0 by omega))
  have hlt : st < mo := by have := Int.emod_lt_of_pos (q * u) (show 0 < (mo : Int) by omega); omega
  refine ⟨r + st * m, ?_, ⟨(st : Int), by simp [Int.mul_comm]; omega⟩, ?_⟩
  · have : (st + 1) * m ≤ mo * m := Nat.mul_le_mul_right _ hlt
    rw [Nat.add_mul, Nat.mul_comm mo] at this; omega
  · obtain ⟨z, hz⟩ := join_step (r : Int) (m : Int) (n : Int) u v (g : Int) (a - (r : Int)) q (st : Int) (mo : Int) (by omega) (by rw [hmo]; simp) ⟨(xm : Int), by rw [hxm]; simp⟩ hl hq
      ⟨-(q * u / (mo : Int)), by rw [← hst, Int.emod_def, Int.neg_mul, Int.mul_comm (mo : Int)]; omega⟩
    exact ⟨z, by rw [← hz]; simp; omega⟩

end Go.Proofs.YtcnfhndejkngkaaGreatDoor.MathC
end

section
/- Contracts of package whole's left and joinOne. -/
set_option linter.unusedSimpArgs false
set_option linter.unusedVariables false
set_option maxRecDepth 100000
namespace Go.Proofs.YtcnfhndejkngkaaGreatDoor
open Go.RowKit

theorem left_any (a : Int) (m : Nat) (w : World) (ha : a.natAbs ≤ 4000000000000000000) (h0 : 0 < m) (hm : (m : Int) ≤ 1000000000000000000) :
    Calls Tryz.prog 129 #[.int .i64 a, .int .i64 m] w fun e w' => e = .returned (.int .i64 (a % (m : Int))) ∧ w' = w := by
  have hb : (a.tmod (m : Int)).natAbs < m := by rw [Int.natAbs_tmod]; exact Nat.mod_lt _ h0
  have t1 : ((m : Int) == 0) = false := beq_eq_false_iff_ne.2 (by omega)
  by_cases h : 0 ≤ a
  · have e : a.tmod (m : Int) = a % (m : Int) := Int.tmod_eq_emod_of_nonneg h
    have h1 : 0 ≤ a % (m : Int) := Int.emod_nonneg _ (by omega)
    have h2 : a % (m : Int) < (m : Int) := Int.emod_lt_of_pos _ (by omega)
    clear hb e
    go_enter Tryz.func129, Tryz.ntmps129
    go_wp2
    go_ret
    exact ⟨rfl, rfl⟩
  · by_cases hz : a.tmod (m : Int) < 0
    · have HE : Hid (a.tmod (m : Int) + (m : Int) = a % (m : Int)) := by
        show _ = _
        have e1 := Int.tmod_eq_emod (a := a) (b := (m : Int))
        rw [e1] at hz ⊢
        split at hz
        · have := Int.emod_nonneg a (show (m : Int) ≠ 0 by omega); omega
        · rename_i hc; rw [if_neg hc]; simp
      go_enter Tryz.func129, Tryz.ntmps129
      go_wp2
      go_ret
      exact ⟨ret_int HE.out, rfl⟩
    · have HE : Hid (a.tmod (m : Int) = a % (m : Int)) := by
        show _ = _
        have e1 := Int.tmod_eq_emod (a := a) (b := (m : Int))
        rw [e1] at hz ⊢
        split at hz
        · rename_i hc; rw [if_pos hc]; omega
        · have := Int.emod_lt_of_pos a (show 0 < (m : Int) by omega); simp at hz; omega
      go_enter Tryz.func129, Tryz.ntmps129
      go_wp2
      go_ret
      exact ⟨ret_int HE.out, rfl⟩

theorem gcd_nat (m n : Nat) : Int.gcd (m : Int) (n : Int) = Nat.gcd m n := by simp [Int.gcd]

theorem join_fill {r m n uu mo l st g : Nat} {v q a : Int} (hnm : n = g * mo) (hgm : g ∣ m) (hl : (uu : Int) * (m : Int) + v * (n : Int) = (g : Int)) (hq : a - (r : Int) = (g : Int) * q) (hlq : q % (mo : Int) = (l : Int)) (hst : st = l * uu % mo) (hg : g ≠ 0) :
    (n : Int) ∣ (((r + st * m : Nat) : Int)) - a := by
  obtain ⟨xm, hxm⟩ := hgm
  obtain ⟨z, hz⟩ := MathC.join_step (r : Int) (m : Int) (n : Int) (uu : Int) v (g : Int) (a - (r : Int)) q (st : Int) (mo : Int) (by omega)
    (by rw [hnm]; simp) ⟨(xm : Int), by rw [hxm]; simp⟩ hl hq
    (by
      have e1 : (st : Int) = ((l : Int) * (uu : Int)) % (mo : Int) := by rw [hst]; simp
      have e2 : (l : Int) * (uu : Int) = q * (uu : Int) - (mo : Int) * (q / (mo : Int)) * (uu : Int) := by rw [← hlq, Int.emod_def, Int.sub_mul]
      refine ⟨-(q / (mo : Int) * (uu : Int)) - ((l : Int) * (uu : Int)) / (mo : Int), ?_⟩
      rw [e1, Int.emod_def, Int.sub_mul, Int.neg_mul]
      have e3 : (mo : Int) * (q / (mo : Int)) * (uu : Int) = q / (mo : Int) * (uu : Int) * (mo : Int) := by simp only [Int.mul_assoc, Int.mul_comm, Int.mul_left_comm]
      have e4 : (mo : Int) * ((l : Int) * (uu : Int) / (mo : Int)) = (l : Int) * (uu : Int) / (mo : Int) * (mo : Int) := Int.mul_comm ..
      omega)
  refine ⟨z, ?_⟩
  rw [← hz]; simp; omega

end Go.Proofs.YtcnfhndejkngkaaGreatDoor
end

section
/- The contract of Join, and the document's examples. -/
set_option linter.unusedSimpArgs false
set_option linter.unusedVariables false
set_option maxRecDepth 100000
namespace Go.Proofs.YtcnfhndejkngkaaGreatDoor
open Go.RowKit

/-- What one place comes to, as three numbers. -/
structure JOne (r m : Nat) (a b : Int) (R M c : Int) : Prop where
  cases : (c = 3 ∧ R = 0 ∧ M = 0 ∧ (numB a = false ∨ b < 1 ∨ 1000000000000000000 < b)) ∨
    (numB a = true ∧ ∃ n : Nat, b = (n : Int) ∧ 1 ≤ n ∧ (n : Int) ≤ 1000000000000000000 ∧
      ((c = 5 ∧ R = 0 ∧ M = 0 ∧ ¬ (Nat.gcd m n : Int) ∣ a - (r : Int)) ∨
       (c = 9 ∧ R = 0 ∧ M = 0 ∧ (Nat.gcd m n : Int) ∣ a - (r : Int) ∧ 1000000000000000000 < m * (n / Nat.gcd m n)) ∨
       (c = 0 ∧ ∃ R' : Nat, R = R' ∧ M = ((m * (n / Nat.gcd m n) : Nat) : Int) ∧ m * (n / Nat.gcd m n) ≤ 1000000000000000000 ∧ R' < m * (n / Nat.gcd m n) ∧ (m : Int) ∣ (R' : Int) - (r : Int) ∧ (n : Int) ∣ (R' : Int) - a ∧ (Nat.gcd m n : Int) ∣ a - (r : Int))))

theorem crt_unique {m n R R' : Nat} {r a : Int} (h1 : R < Nat.lcm m n) (h2 : R' < Nat.lcm m n) (d1 : (m : Int) ∣ (R : Int) - r) (d2 : (n : Int) ∣ (R : Int) - a) (e1 : (m : Int) ∣ (R' : Int) - r) (e2 : (n : Int) ∣ (R' : Int) - a) : R = R' := by
  have f1 : (m : Int) ∣ (R : Int) - (R' : Int) := by
    have : (R : Int) - (R' : Int) = ((R : Int) - r) - ((R' : Int) - r) := by omega
    rw [this]; exact Int.dvd_sub d1 e1
  have f2 : (n : Int) ∣ (R : Int) - (R' : Int) := by
    have : (R : Int) - (R' : Int) = ((R : Int) - a) - ((R' : Int) - a) := by omega
    rw [this]; exact Int.dvd_sub d2 e2
  rw [Int.ofNat_dvd_left] at f1 f2
  have f3 := Nat.lcm_dvd f1 f2
  have f4 := Nat.eq_zero_of_dvd_of_lt f3 (by omega)
  omega

/-- The slice s holds the numbers xs. -/
structure IS (w : World) (s : Value) (xs : List Int) : Prop where
  shape : ∃ (aa : Option Addr) (g o cap : Nat), s = .slice aa xs.length cap ∧ (0 < xs.length → aa = some ⟨g, o, none⟩) ∧ (∀ i, i < xs.length → w.cell? ⟨g, o + i, none⟩ = some (.int .i64 (xs.getD i 0))) ∧ (0 < xs.length → g < w.heap.size)

/-- What Join comes to. -/
structure JOut (rs ms : List Int) (R M c at' : Int) : Prop where
  cases : ((1000 < rs.length ∨ 1000 < ms.length) ∧ R = 0 ∧ M = 0 ∧ c = 2 ∧ at' = 0) ∨
    (rs.length ≤ 1000 ∧ ms.length ≤ 1000 ∧ rs.length ≠ ms.length ∧ R = 0 ∧ M = 0 ∧ c = 8 ∧ at' = 0) ∨
    (rs.length ≤ 1000 ∧ rs.length = ms.length ∧ ∃ (k r m : Nat) (R' M' : Int), k < rs.length ∧ MathC.JSt rs ms k r m ∧ at' = k ∧ R = 0 ∧ M = 0 ∧ c ≠ 0 ∧ JOne r m (rs.getD k 0) (ms.getD k 0) R' M' c) ∨
    (rs.length ≤ 1000 ∧ rs.length = ms.length ∧ ∃ r m : Nat, MathC.JSt rs ms rs.length r m ∧ R = r ∧ M = m ∧ c = 0 ∧ at' = 0)

theorem jst_of_one {rs ms : List Int} {k r m : Nat} {R M c : Int} (h : MathC.JSt rs ms k r m) (h1 : JOne r m (rs.getD k 0) (ms.getD k 0) R M c) (hc : c = 0) :
    ∃ r' m' : Nat, R = r' ∧ M = m' ∧ MathC.JSt rs ms (k + 1) r' m' := by
  subst hc
  rcases h1.cases with h2 | ⟨ha, n, hn, n1, n2, h2 | h2 | ⟨_, R', rfl, rfl, p1, p2, p3, p4, p5⟩⟩
  · omega
  · omega
  · omega
  · obtain ⟨a1, a2⟩ := numB_true ha
    exact ⟨R', m * (n / Nat.gcd m n), rfl, rfl, MathC.jst_next h n hn n1 n2 a1 a2 (by omega) p2 p3 p4⟩

end Go.Proofs.YtcnfhndejkngkaaGreatDoor
end

section
/- A fault that a variable holds. -/
set_option linter.unusedSimpArgs false
set_option linter.unusedVariables false
set_option maxRecDepth 100000
namespace Go.Proofs.YtcnfhndejkngkaaGreatDoor
open Go.RowKit

/-- A fault that a variable holds, in block b. -/
structure Sv (b : Nat) (c d : Int) (w : World) : Prop where
  c0 : w.cell? ⟨b, 0, none⟩ = some (.int .i64 c)
  c1 : w.cell? ⟨b, 1, none⟩ = some (.int .i64 d)
  f0 : w.frozen? ⟨b, 0, none⟩ = false
  f1 : w.frozen? ⟨b, 1, none⟩ = false
  lt : b < w.heap.size

theorem Sv.below {b : Nat} {c d : Int} {w w' : World} (h : Sv b c d w) (k : Below w.heap.size w w') : Sv b c d w' :=
  ⟨cell_later k h.c0, cell_later k h.c1, (k.frozen (p := ⟨b, 0, none⟩) h.lt).trans h.f0, (k.frozen (p := ⟨b, 1, none⟩) h.lt).trans h.f1, Nat.lt_of_lt_of_le h.lt k.size⟩
theorem Sv.drew {b : Nat} {c d : Int} {w : World} (h : Sv b c d w) : Sv b c d w.drew := ⟨h.c0, h.c1, h.f0, h.f1, h.lt⟩
theorem Sv.drewN {b n : Nat} {c d : Int} {w : World} (h : Sv b c d w) : Sv b c d (w.drewN n) := h.below (below_drewN' (Below.refl _ _))
theorem Sv.alloc {b : Nat} {c d : Int} {w : World} (h : Sv b c d w) (C : Array Value) (t : TypeId) : Sv b c d (w.alloc (.cells C t)) := h.below (Below.alloc (Below.refl _ _) (Nat.le_refl _) _)
theorem Sv.new (c d : Int) (w : World) : Sv w.heap.size c d (w.alloc (.cells #[.int .i64 c, .int .i64 d] 25)) :=
  ⟨by simp, by simp, by simp, by simp, by simp⟩
theorem Sv.set {b : Nat} {c d : Int} {w : World} (h : Sv b c d w) (x y : Int) : Sv b x y ((w.setCell ⟨b, 0, none⟩ (.int .i64 x)).setCell ⟨b, 1, none⟩ (.int .i64 y)) := by
  obtain ⟨c0, c1, f0, f1, lt⟩ := h
  exact ⟨by go_simp, by go_simp, by go_simp, by go_simp, by simpa using lt⟩
theorem Sv.other {b b' : Nat} {c d : Int} {w : World} (h : Sv b c d w) (x y : Value) (hne : b' ≠ b) : Sv b c d ((w.setCell ⟨b', 0, none⟩ x).setCell ⟨b', 1, none⟩ y) := by
  have k : ∀ v : World, ∀ o : Nat, ∀ z : Value, (v.setCell ⟨b', o, none⟩ z).heap[b]? = v.heap[b]? := fun v o z => Below.heap_setCell _ _ _ _ (Ne.symm hne)
  have e : ((w.setCell ⟨b', 0, none⟩ x).setCell ⟨b', 1, none⟩ y).heap[b]? = w.heap[b]? := (k _ _ _).trans (k _ _ _)
  refine ⟨?_, ?_, ?_, ?_, by simpa using h.lt⟩
  · exact (World.cell?_of_block e).trans h.c0
  · exact (World.cell?_of_block e).trans h.c1
  · exact (World.frozen?_of_block e).trans h.f0
  · exact (World.frozen?_of_block e).trans h.f1

end Go.Proofs.YtcnfhndejkngkaaGreatDoor
end

section
/- A block of cells, known whole. -/
set_option linter.unusedSimpArgs false
set_option linter.unusedVariables false
set_option maxRecDepth 100000
namespace Go.Proofs.YtcnfhndejkngkaaGreatDoor
open Go.RowKit

/-- The block b holds these cells, none of them frozen. -/
def Cl (b : Nat) (l : List Value) (t : TypeId) (w : World) : Prop := w.heap[b]? = some (.cells l.toArray t (0, 0))
theorem Cl.lt {b : Nat} {l : List Value} {t : TypeId} {w : World} (h : Cl b l t w) : b < w.heap.size := (Array.getElem?_eq_some_iff.1 h).1
theorem Cl.cell {b : Nat} {l : List Value} {t : TypeId} {w : World} (h : Cl b l t w) (i : Nat) : w.cell? ⟨b, i, none⟩ = l[i]? := by
  unfold Cl at h
  simp [World.cell?, h]
theorem Cl.frozen {b : Nat} {l : List Value} {t : TypeId} {w : World} (h : Cl b l t w) (i : Nat) : w.frozen? ⟨b, i, none⟩ = false := by
  unfold Cl at h
  simp [World.frozen?, h]
theorem Cl.below {b : Nat} {l : List Value} {t : TypeId} {w w' : World} (h : Cl b l t w) (k : Below w.heap.size w w') : Cl b l t w' := (k.block b h.lt).trans h
theorem Cl.new (l : List Value) (t : TypeId) (w : World) : Cl w.heap.size l t (w.alloc (.cells l.toArray t)) := World.alloc_heap_new w _
theorem Cl.alloc {b : Nat} {l : List Value} {t : TypeId} {w : World} (h : Cl b l t w) (o : Obj) : Cl b l t (w.alloc o) := h.below (Below.alloc (Below.refl _ _) (Nat.le_refl _) _)
theorem Cl.drewN {b n : Nat} {l : List Value} {t : TypeId} {w : World} (h : Cl b l t w) : Cl b l t (w.drewN n) := h.below (below_drewN' (Below.refl _ _))
theorem Cl.drew {b : Nat} {l : List Value} {t : TypeId} {w : World} (h : Cl b l t w) : Cl b l t w.drew := h
theorem Cl.set {b : Nat} {l : List Value} {t : TypeId} {w : World} (h : Cl b l t w) (i : Nat) (v : Value) : Cl b (l.set i v) t (w.setCell ⟨b, i, none⟩ v) := by
  have := heap_setCell_same w b i l.toArray t v h
  unfold Cl
  rw [this]
  simp
theorem Cl.other {b : Nat} {l : List Value} {t : TypeId} {w : World} (h : Cl b l t w) {p : Addr} (hp : b ≠ p.block) (v : Value) : Cl b l t (w.setCell p v) :=
  (Below.heap_setCell w p v b hp).trans h
theorem Cl.grown {b : Nat} {l : List Value} {t : TypeId} {w w' : World} {row : Option Nat} (h : Cl b l t w) (hg : w.grownBy w' row) (hr : row ≠ some b) : Cl b l t w' :=
  (hg.block b h.lt (fun e => hr e.symm)).trans h

end Go.Proofs.YtcnfhndejkngkaaGreatDoor
end
