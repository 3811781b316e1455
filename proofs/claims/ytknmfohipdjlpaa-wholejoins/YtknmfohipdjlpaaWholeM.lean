/- Joining: what comes out is one thing alone; and the reference's Ints. -/
import Derived.Test.YtknmfohipdjlpaaRefB
set_option linter.unusedSimpArgs false
set_option linter.unusedVariables false
namespace Go.Proofs.Ytknmfohipdjlpaa
open Go.RowKit

theorem jl_more (ms : List Int) (k : Nat) : ∀ k', k ≤ k' → MathC.jl ms k ∣ MathC.jl ms k' := by
  intro k'
  induction k' with
  | zero => intro h; have e : k = 0 := by omega
            rw [e]; exact Nat.dvd_refl _
  | succ q ih =>
    intro h
    by_cases e : k = q + 1
    · subst e; exact Nat.dvd_refl _
    · exact Nat.dvd_trans (ih (by omega)) (Nat.dvd_lcm_left _ _)

theorem jst_passes {rs ms : List Int} {k r m k' r' m' : Nat} {R M c : Int} (h1 : MathC.JSt rs ms k r m) (h2 : MathC.JSt rs ms k' r' m') (hk : k < k') (ho : JOne r m (rs.getD k 0) (ms.getD k 0) R M c) : c = 0 := by
  obtain ⟨o1, o2, o3, o4⟩ := h2.ok k hk
  rcases ho.cases with ⟨_, _, _, hb⟩ | ⟨ha, n, hn, n1, n2, ⟨_, _, _, h5⟩ | ⟨_, _, _, _, h9⟩ | ⟨h0, _⟩⟩
  · exfalso
    have : numB (rs.getD k 0) = true := by generalize rs.getD k 0 = x at o1 o2 ⊢; simp [numB]; omega
    rcases hb with hb | hb | hb
    · rw [this] at hb; cases hb
    · omega
    · omega
  · exfalso
    apply h5
    have d1 : (m : Int) ∣ (r' : Int) - (r : Int) := by
      rw [h1.lcm]
      refine MathC.jl_dvd ms _ k fun j hj => ⟨(h1.ok j hj).2.2.1, ?_⟩
      have e1 := h1.cong j hj
      have e2 := h2.cong j (by omega)
      have : (r' : Int) - (r : Int) = ((r' : Int) - rs.getD j 0) - ((r : Int) - rs.getD j 0) := by omega
      rw [this]; exact Int.dvd_sub e2 e1
    have d2 : (n : Int) ∣ (r' : Int) - rs.getD k 0 := by rw [← hn]; exact h2.cong k hk
    have g1 : (Nat.gcd m n : Int) ∣ (m : Int) := by rw [Int.ofNat_dvd_left]; exact Nat.gcd_dvd_left m n
    have g2 : (Nat.gcd m n : Int) ∣ (n : Int) := by rw [Int.ofNat_dvd_left]; exact Nat.gcd_dvd_right m n
    have : rs.getD k 0 - (r : Int) = ((r' : Int) - (r : Int)) - ((r' : Int) - rs.getD k 0) := by omega
    rw [this]; exact Int.dvd_sub (Int.dvd_trans g1 d1) (Int.dvd_trans g2 d2)
  · exfalso
    have e : m * (n / Nat.gcd m n) = MathC.jl ms (k + 1) := by
      show _ = Nat.lcm (MathC.jl ms k) (ms.getD k 0).toNat
      rw [hn, Int.toNat_natCast, ← h1.lcm, MathC.lcm_mul]
    have d := jl_more ms (k + 1) k' (by omega)
    rw [← h2.lcm, ← e] at d
    have hle := Nat.le_of_dvd (by have := h2.hi; omega) d
    have := h2.cap
    omega
  · exact h0

theorem jone_same {r m : Nat} {a b R M c R' M' c' : Int} (h : JOne r m a b R M c) (h' : JOne r m a b R' M' c') : c = c' := by
  rcases h.cases with ⟨c1, _, _, hb⟩ | ⟨ha, n, hn, n1, n2, h3⟩
  · rcases h'.cases with ⟨c2, _⟩ | ⟨ha', n', hn', n1', n2', _⟩
    · omega
    · exfalso
      rcases hb with hb | hb | hb
      · rw [ha'] at hb; cases hb
      · omega
      · omega
  · rcases h'.cases with ⟨c2, _, _, hb⟩ | ⟨ha', n', hn', n1', n2', h4⟩
    · exfalso
      rcases hb with hb | hb | hb
      · rw [ha] at hb; cases hb
      · omega
      · omega
    · obtain rfl : n = n' := by omega
      rcases h3 with ⟨c1, _, _, p⟩ | ⟨c1, _, _, p, q⟩ | ⟨c1, _, _, _, q, _, _, _, p⟩ <;> rcases h4 with ⟨c2, _, _, p'⟩ | ⟨c2, _, _, p', q'⟩ | ⟨c2, _, _, _, q', _, _, _, p'⟩
      · omega
      · exact absurd p' p
      · exact absurd p' p
      · exact absurd p p'
      · omega
      · omega
      · exact absurd p p'
      · omega
      · omega

theorem jout_unique {rs ms : List Int} {R M c a R' M' c' a' : Int} (h : JOut rs ms R M c a) (h' : JOut rs ms R' M' c' a') : R = R' ∧ M = M' ∧ c = c' ∧ a = a' := by
  rcases h.cases with ⟨p, r1, r2, r3, r4⟩ | ⟨p1, p2, p3, r1, r2, r3, r4⟩ | ⟨p1, p2, k, r, m, _, _, hk, hj, e1, e2, e3, e4, ho⟩ | ⟨p1, p2, r, m, hj, e1, e2, e3, e4⟩ <;>
    rcases h'.cases with ⟨q, s1, s2, s3, s4⟩ | ⟨q1, q2, q3, s1, s2, s3, s4⟩ | ⟨q1, q2, k', r', m', _, _, hk', hj', f1, f2, f3, f4, ho'⟩ | ⟨q1, q2, r', m', hj', f1, f2, f3, f4⟩
  · omega
  · omega
  · omega
  · omega
  · omega
  · omega
  · omega
  · omega
  · omega
  · omega
  · rcases Nat.lt_trichotomy k k' with l | l | l
    · exact absurd (jst_passes hj hj' l ho) e4
    · subst l
      obtain ⟨rfl, rfl⟩ := MathC.jst_unique hj hj'
      have := jone_same ho ho'
      omega
    · exact absurd (jst_passes hj' hj l ho') f4
  · exact absurd (jst_passes hj hj' hk ho) e4
  · omega
  · omega
  · exact absurd (jst_passes hj' hj hk' ho') f4
  · obtain ⟨rfl, rfl⟩ := MathC.jst_unique hj hj'
    omega

set_option maxHeartbeats 1000000 in
theorem refInts_same (s t : Value) (xs : List Int) (w : World) (hs : IS w s xs) (ht : IS w t xs) (hl : xs.length ≤ 9000000000000000000) :
    Calls Try.prog 26 #[s, t] w fun e w' => e = .returned (.bool true) ∧ ∃ q, w' = w.drewN q := by
  obtain ⟨a1, g1, o1, c1, rfl, p1, cell1, lt1⟩ := hs.shape
  obtain ⟨a2, g2, o2, c2, rfl, p2, cell2, lt2⟩ := ht.shape
  clear hs ht
  have P1 : Hid (0 < xs.length → a1 = some ⟨g1, o1, none⟩) := p1
  have P2 : Hid (0 < xs.length → a2 = some ⟨g2, o2, none⟩) := p2
  have C1 : Hid (∀ i, i < xs.length → w.cell? ⟨g1, o1 + i, none⟩ = some (.int .i64 (xs.getD i 0))) := cell1
  have C2 : Hid (∀ i, i < xs.length → w.cell? ⟨g2, o2 + i, none⟩ = some (.int .i64 (xs.getD i 0))) := cell2
  clear p1 p2 cell1 cell2 lt1 lt2
  go_enter Try.func26, Try.ntmps26
  go_wp2
  go_loopw [5] (fun iv wx => ∃ k : Nat, k ≤ xs.length ∧ iv = .int .i64 k ∧ Hid (∃ q, wx = w.drewN q)) (fun iv _ => xs.length - (intOf iv).toNat)
  case atStart => exact ⟨0, Nat.zero_le _, rfl, 0, rfl⟩
  case round =>
    obtain ⟨k, hk, rfl, HW⟩ := hrel
    by_cases hlt : k < xs.length
    · obtain rfl := P1.out (by omega)
      obtain rfl := P2.out (by omega)
      have q1 : wr.cell? ⟨g1, o1 + k, none⟩ = some (.int .i64 (xs.getD k 0)) := by obtain ⟨q, e⟩ := HW.out; rw [e]; exact C1.out k hlt
      have q2 : wr.cell? ⟨g2, o2 + k, none⟩ = some (.int .i64 (xs.getD k 0)) := by obtain ⟨q, e⟩ := HW.out; rw [e]; exact C2.out k hlt
      generalize xs.getD k 0 = x at q1 q2
      go_wp2
      go_quiet (fail)
      go_wp2
      go_roundw
      case rel => exact ⟨k + 1, by omega, by go_num, drewN_more HW.out _⟩
      case measure => simp [intOf]; omega
    · obtain rfl : k = xs.length := by omega
      go_wp2
      go_ret
      exact ⟨rfl, HW.out⟩

end Go.Proofs.Ytknmfohipdjlpaa
