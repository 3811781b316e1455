/- The contract of Join, and the document's examples. -/
import Derived.Test.YtoionlnbodfhlacGreatDoorWholeE
set_option linter.unusedSimpArgs false
set_option linter.unusedVariables false
set_option maxRecDepth 100000
namespace Go.Proofs.YtoionlnbodfhlacGreatDoor
open Go.RowKit

/-- What one place comes to, as three numbers. -/
structure JOne (r m : Nat) (a b : Int) (R M c : Int) : Prop where
  cases : (c = 3 ∧ R = 0 ∧ M = 0 ∧ (numB a = false ∨ b < 1 ∨ 1000000000000000000 < b)) ∨
    (numB a = true ∧ ∃ n : Nat, b = (n : Int) ∧ 1 ≤ n ∧ (n : Int) ≤ 1000000000000000000 ∧
      ((c = 5 ∧ R = 0 ∧ M = 0 ∧ ¬ (Nat.gcd m n : Int) ∣ a - (r : Int)) ∨
       (c = 9 ∧ R = 0 ∧ M = 0 ∧ (Nat.gcd m n : Int) ∣ a - (r : Int) ∧ 1000000000000000000 < m * (n / Nat.gcd m n)) ∨
       (c = 0 ∧ ∃ R' : Nat, R = R' ∧ M = ((m * (n / Nat.gcd m n) : Nat) : Int) ∧ m * (n / Nat.gcd m n) ≤ 1000000000000000000 ∧ R' < m * (n / Nat.gcd m n) ∧ (m : Int) ∣ (R' : Int) - (r : Int) ∧ (n : Int) ∣ (R' : Int) - a ∧ (Nat.gcd m n : Int) ∣ a - (r : Int))))

theorem crt_unique {m n R R' : Nat} {r a : Int} (h1 : R < Nat.lcm m n) (h2 : R' < Nat.lcm m n) (d1 : (m : Int) ∣ (R : Int) - r) (d2 : (n : Int) ∣ (R : Int) - a) (e1 : (m : Int) ∣ (R' : Int) - r) (e2 : (n : Int) ∣ (R' : Int) - a) : R = R' := by
  have f1 : (m : Int) ∣ (R : Int) - (R' : Int) := by
    have : (R : Int) - (R' : Int) = ((R : Int) - r) - ((R' : Int) - r) := by omega
    rw [this]; exact Int.dvd_sub d1 e1
  have f2 : (n : Int) ∣ (R : Int) - (R' : Int) := by
    have : (R : Int) - (R' : Int) = ((R : Int) - a) - ((R' : Int) - a) := by omega
    rw [this]; exact Int.dvd_sub d2 e2
  rw [Int.ofNat_dvd_left] at f1 f2
  have f3 := Nat.lcm_dvd f1 f2
  have f4 := Nat.eq_zero_of_dvd_of_lt f3 (by omega)
  omega

/-- One place: the same three numbers in whatever world. -/
theorem joinOne_val (r m : Nat) (a b : Int) (hr : r < m) (hm : (m : Int) ≤ 1000000000000000000) :
    ∃ R M c : Int, JOne r m a b R M c ∧ ∀ w, Calls Tryz.prog 120 #[.int .i64 r, .int .i64 m, .int .i64 a, .int .i64 b] w fun e w' => e = .returned (.tuple #[.int .i64 R, .int .i64 M, .int .i64 c]) ∧ ∃ q, w' = w.drewN q := by
  by_cases hbad : numB a = false ∨ b < 1 ∨ 1000000000000000000 < b
  · exact ⟨0, 0, 3, ⟨Or.inl ⟨rfl, rfl, rfl, hbad⟩⟩, fun w => (joinOne_range r m a b w hbad).mono fun e w' h => ⟨h.1, 0, h.2⟩⟩
  · have ha : numB a = true := by cases h : numB a <;> simp_all
    obtain ⟨n, rfl⟩ := Int.eq_ofNat_of_zero_le (show 0 ≤ b by omega)
    have h1 : 1 ≤ n := by omega
    have h2 : (n : Int) ≤ 1000000000000000000 := by omega
    by_cases hd : (Nat.gcd m n : Int) ∣ a - (r : Int)
    · by_cases hk : 1000000000000000000 < m * (n / Nat.gcd m n)
      · refine ⟨0, 0, 9, ⟨Or.inr ⟨ha, n, rfl, h1, h2, Or.inr (Or.inl ⟨rfl, rfl, rfl, hd, hk⟩)⟩⟩, fun w => (joinOne_any r m n a w hr hm h1 h2 ha).mono fun e w' h => ?_⟩
        obtain ⟨hw, h | h | h⟩ := h
        · exact absurd hd h.1
        · exact ⟨h.2.2, hw⟩
        · omega
      · have hex := MathC.crt_exists r m n a hr h1 hd
        · obtain ⟨R', p1, p2, p3⟩ := hex
          refine ⟨R', ((m * (n / Nat.gcd m n) : Nat) : Int), 0, ⟨Or.inr ⟨ha, n, rfl, h1, h2, Or.inr (Or.inr ⟨rfl, R', rfl, rfl, by omega, p1, p2, p3, hd⟩)⟩⟩, fun w => (joinOne_any r m n a w hr hm h1 h2 ha).mono fun e w' h => ?_⟩
          obtain ⟨hw, h | h | h⟩ := h
          · exact absurd hd h.1
          · omega
          · obtain ⟨_, _, R, rfl, q1, q2, q3⟩ := h
            rw [← MathC.lcm_mul] at p1 q1
            obtain rfl := crt_unique q1 p1 q2 q3 p2 p3
            exact ⟨rfl, hw⟩
    · refine ⟨0, 0, 5, ⟨Or.inr ⟨ha, n, rfl, h1, h2, Or.inl ⟨rfl, rfl, rfl, hd⟩⟩⟩, fun w => (joinOne_any r m n a w hr hm h1 h2 ha).mono fun e w' h => ?_⟩
      obtain ⟨hw, h | h | h⟩ := h
      · exact ⟨h.2, hw⟩
      · exact absurd h.1 hd
      · exact absurd h.1 hd

/-- The slice s holds the numbers xs. -/
structure IS (w : World) (s : Value) (xs : List Int) : Prop where
  shape : ∃ (aa : Option Addr) (g o cap : Nat), s = .slice aa xs.length cap ∧ (0 < xs.length → aa = some ⟨g, o, none⟩) ∧ (∀ i, i < xs.length → w.cell? ⟨g, o + i, none⟩ = some (.int .i64 (xs.getD i 0))) ∧ (0 < xs.length → g < w.heap.size)

/-- What Join comes to. -/
structure JOut (rs ms : List Int) (R M c at' : Int) : Prop where
  cases : ((1000 < rs.length ∨ 1000 < ms.length) ∧ R = 0 ∧ M = 0 ∧ c = 2 ∧ at' = 0) ∨
    (rs.length ≤ 1000 ∧ ms.length ≤ 1000 ∧ rs.length ≠ ms.length ∧ R = 0 ∧ M = 0 ∧ c = 8 ∧ at' = 0) ∨
    (rs.length ≤ 1000 ∧ rs.length = ms.length ∧ ∃ (k r m : Nat) (R' M' : Int), k < rs.length ∧ MathC.JSt rs ms k r m ∧ at' = k ∧ R = 0 ∧ M = 0 ∧ c ≠ 0 ∧ JOne r m (rs.getD k 0) (ms.getD k 0) R' M' c) ∨
    (rs.length ≤ 1000 ∧ rs.length = ms.length ∧ ∃ r m : Nat, MathC.JSt rs ms rs.length r m ∧ R = r ∧ M = m ∧ c = 0 ∧ at' = 0)

theorem jst_of_one {rs ms : List Int} {k r m : Nat} {R M c : Int} (h : MathC.JSt rs ms k r m) (h1 : JOne r m (rs.getD k 0) (ms.getD k 0) R M c) (hc : c = 0) :
    ∃ r' m' : Nat, R = r' ∧ M = m' ∧ MathC.JSt rs ms (k + 1) r' m' := by
  subst hc
  rcases h1.cases with h2 | ⟨ha, n, hn, n1, n2, h2 | h2 | ⟨_, R', rfl, rfl, p1, p2, p3, p4, p5⟩⟩
  · omega
  · omega
  · omega
  · obtain ⟨a1, a2⟩ := numB_true ha
    exact ⟨R', m * (n / Nat.gcd m n), rfl, rfl, MathC.jst_next h n hn n1 n2 a1 a2 (by omega) p2 p3 p4⟩

set_option maxHeartbeats 2000000 in
theorem Join_any (s t : Value) (rs ms : List Int) (w : World) (hs : IS w s rs) (ht : IS w t ms) (hl1 : rs.length ≤ 9000000000000000000) (hl2 : ms.length ≤ 9000000000000000000) :
    Calls Tryz.prog 80 #[s, t] w fun e w' => ∃ R M c at' : Int, e = .returned (.tuple #[.int .i64 R, .int .i64 M, .agg #[.int .i64 c, .int .i64 at']]) ∧ JOut rs ms R M c at' ∧ Below w.heap.size w w' := by
  obtain ⟨a1, g1, o1, c1, rfl, p1, cell1, lt1⟩ := hs.shape
  obtain ⟨a2, g2, o2, c2, rfl, p2, cell2, lt2⟩ := ht.shape
  clear hs ht
  have P1 : Hid (0 < rs.length → a1 = some ⟨g1, o1, none⟩) := p1
  have P2 : Hid (0 < ms.length → a2 = some ⟨g2, o2, none⟩) := p2
  have C1 : Hid (∀ i, i < rs.length → w.cell? ⟨g1, o1 + i, none⟩ = some (.int .i64 (rs.getD i 0))) := cell1
  have C2 : Hid (∀ i, i < ms.length → w.cell? ⟨g2, o2 + i, none⟩ = some (.int .i64 (ms.getD i 0))) := cell2
  have L1 : Hid (0 < rs.length → g1 < w.heap.size) := lt1
  have L2 : Hid (0 < ms.length → g2 < w.heap.size) := lt2
  clear p1 p2 cell1 cell2 lt1 lt2
  by_cases hm : 1000 < rs.length ∨ 1000 < ms.length
  · have HO : Hid (JOut rs ms 0 0 2 0) := ⟨Or.inl ⟨hm, rfl, rfl, rfl, rfl⟩⟩
    by_cases hm1 : 1000 < rs.length
    · clear hm
      go_enter Tryz.func80, Tryz.ntmps80
      go_wp2
      exact bodyPost_ret (v := .tuple #[.int .i64 0, .int .i64 0, .agg #[.int .i64 2, .int .i64 0]]) (by simp [results, Tryz.results80, go_sem]) rfl ⟨0, 0, 2, 0, rfl, HO.out, Below.alloc (Below.refl _ _) (Nat.le_refl _) _⟩
    · have hm2 : 1000 < ms.length := by omega
      clear hm
      go_enter Tryz.func80, Tryz.ntmps80
      go_wp2
      exact bodyPost_ret (v := .tuple #[.int .i64 0, .int .i64 0, .agg #[.int .i64 2, .int .i64 0]]) (by simp [results, Tryz.results80, go_sem]) rfl ⟨0, 0, 2, 0, rfl, HO.out, Below.alloc (Below.refl _ _) (Nat.le_refl _) _⟩
  · have b1 : rs.length ≤ 1000 := by omega
    have b2 : ms.length ≤ 1000 := by omega
    clear hm hl1 hl2
    by_cases he : rs.length = ms.length
    · have t1 : ((rs.length : Int) != (ms.length : Int)) = false := by simp; omega
      have HE : Hid (rs.length = ms.length) := he
      have he1 : rs.length ≤ ms.length := by omega
      have he2 : ms.length ≤ rs.length := by omega
      clear he
      go_enter Tryz.func80, Tryz.ntmps80
      go_wp2
      go_loopw [4, 5, 26] (fun x y i wr => ∃ k r m : Nat, k ≤ rs.length ∧ i = .int .i64 k ∧ x = .int .i64 r ∧ y = .int .i64 m ∧ MathC.JSt rs ms k r m ∧ ∃ q, wr = (w.alloc (.cells #[.int .i64 0, .int .i64 0] 23)).drewN q) (fun _ _ i _ => rs.length - (intOf i).toNat)
      case atStart => exact ⟨0, 0, 1, Nat.zero_le _, rfl, rfl, rfl, MathC.jst_start rs ms, 0, rfl⟩
      case round =>
        obtain ⟨k, r, m, hk, rfl, rfl, rfl, hj, hw⟩ := hrel
        have HJ : Hid (MathC.JSt rs ms k r m) := hj
        have HW : Hid (∃ q, wr = (w.alloc (.cells #[.int .i64 0, .int .i64 0] 23)).drewN q) := hw
        have hsz : w.heap.size < wr.heap.size := by obtain ⟨q, e⟩ := hw; rw [e]; simp
        have f0 : wr.cell? ⟨w.heap.size, 0, none⟩ = some (.int .i64 0) := by obtain ⟨q, e⟩ := hw; rw [e]; simp
        have f1 : wr.cell? ⟨w.heap.size, 1, none⟩ = some (.int .i64 0) := by obtain ⟨q, e⟩ := hw; rw [e]; simp
        have f2 : wr.frozen? ⟨w.heap.size, 0, none⟩ = false := by obtain ⟨q, e⟩ := hw; rw [e]; simp
        have f3 : wr.frozen? ⟨w.heap.size, 1, none⟩ = false := by obtain ⟨q, e⟩ := hw; rw [e]; simp
        have HB : Hid (Below w.heap.size w wr) := by obtain ⟨q, e⟩ := hw; show Below _ _ _; rw [e]; exact below_drewN' (Below.alloc (Below.refl _ _) (Nat.le_refl _) _)
        have hrm := hj.hi
        have hcap := hj.cap
        clear hj hw
        by_cases hlt : k < rs.length
        · obtain rfl := P1.out (by omega)
          obtain rfl := P2.out (by omega)
          have q1 : wr.cell? ⟨g1, o1 + k, none⟩ = some (.int .i64 (rs.getD k 0)) := (HB.out.cell (p := ⟨g1, o1 + k, none⟩) (L1.out (by omega))).trans (C1.out k hlt)
          have q2 : wr.cell? ⟨g2, o2 + k, none⟩ = some (.int .i64 (ms.getD k 0)) := (HB.out.cell (p := ⟨g2, o2 + k, none⟩) (L2.out (by omega))).trans (C2.out k (by omega))
          obtain ⟨R, M, c, hone, hcalls⟩ := joinOne_val r m (rs.getD k 0) (ms.getD k 0) hrm hcap
          obtain ⟨x, hx⟩ : ∃ x, x = rs.getD k 0 := ⟨_, rfl⟩
          obtain ⟨y, hy⟩ : ∃ y, y = ms.getD k 0 := ⟨_, rfl⟩
          rw [← hx] at q1 hcalls
          rw [← hy] at q2 hcalls
          have HONE : Hid (JOne r m (rs.getD k 0) (ms.getD k 0) R M c) := hone
          have HC : Hid (∀ w, Calls Tryz.prog 120 #[.int .i64 r, .int .i64 m, .int .i64 x, .int .i64 y] w fun e w' => e = .returned (.tuple #[.int .i64 R, .int .i64 M, .int .i64 c]) ∧ ∃ q, w' = w.drewN q) := hcalls
          clear hone hcalls hx hy
          by_cases hc : c = 0
          · have t5 : (c != 0) = false := by simp [hc]
            have HN := jst_of_one HJ.out HONE.out hc
            have HNN : Hid (∃ r' m' : Nat, R = r' ∧ M = m' ∧ MathC.JSt rs ms (k + 1) r' m') := HN
            clear HN hc
            go_wp2
            go_quiet ((go_at_call 120; exact Calls.quiet_of (HC.out _)))
            go_wp2
            go_roundw
            case rel =>
              obtain ⟨r', m', rfl, rfl, h3⟩ := HNN.out
              refine ⟨k + 1, r', m', by omega, by go_num, rfl, rfl, h3, ?_⟩
              obtain ⟨q, rfl⟩ := HW.out
              exact ⟨_, World.drewN_drewN ..⟩
            case measure => simp [intOf]; omega
          · have t5 : (c != 0) = true := by simp [hc]
            have HO : Hid (JOut rs ms 0 0 c k) := ⟨Or.inr (Or.inr (Or.inl ⟨b1, HE.out, k, r, m, R, M, hlt, HJ.out, rfl, rfl, rfl, hc, HONE.out⟩))⟩
            clear hc
            go_wp2
            go_quiet ((go_at_call 120; exact Calls.quiet_of (HC.out _)))
            go_wp2
            refine bodyPost_ret (v := .tuple #[.int .i64 0, .int .i64 0, .agg #[.int .i64 c, .int .i64 k]]) (by simp [results, Tryz.results80, go_sem, f0, f1]) rfl ⟨0, 0, c, k, rfl, HO.out, ?_⟩
            exact Below.setCell (Below.setCell (below_drewN' HB.out) (Nat.le_refl _) _) (Nat.le_refl _) _
        · obtain rfl : k = rs.length := by omega
          have HO : Hid (JOut rs ms r m 0 0) := ⟨Or.inr (Or.inr (Or.inr ⟨b1, HE.out, r, m, HJ.out, rfl, rfl, rfl, rfl⟩))⟩
          go_wp2
          refine bodyPost_ret (v := .tuple #[.int .i64 r, .int .i64 m, .agg #[.int .i64 0, .int .i64 0]]) (by simp [results, Tryz.results80, go_sem, f0, f1]) rfl ⟨r, m, 0, 0, rfl, HO.out, ?_⟩
          exact Below.setCell (Below.setCell HB.out (Nat.le_refl _) _) (Nat.le_refl _) _
    · have t1 : ((rs.length : Int) != (ms.length : Int)) = true := by rw [bne_iff_ne]; omega
      have HO : Hid (JOut rs ms 0 0 8 0) := ⟨Or.inr (Or.inl ⟨b1, b2, he, rfl, rfl, rfl, rfl⟩)⟩
      clear he
      go_enter Tryz.func80, Tryz.ntmps80
      go_wp2
      exact bodyPost_ret (v := .tuple #[.int .i64 0, .int .i64 0, .agg #[.int .i64 8, .int .i64 0]]) (by simp [results, Tryz.results80, go_sem]) rfl ⟨0, 0, 8, 0, rfl, HO.out, Below.alloc (Below.refl _ _) (Nat.le_refl _) _⟩

end Go.Proofs.YtoionlnbodfhlacGreatDoor
