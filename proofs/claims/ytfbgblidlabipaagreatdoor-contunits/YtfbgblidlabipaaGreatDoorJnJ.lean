import Derived.Test.YtfbgblidlabipaaGreatDoorJnG
import Derived.Test.YtfbgblidlabipaaGreatDoorJnB
import Derived.Test.YtfbgblidlabipaaGreatDoorJnI
import Derived.Maps.AppendAt
section
/- The contract of Join, and the document's examples. -/
set_option linter.unusedSimpArgs false
set_option linter.unusedVariables false
set_option maxRecDepth 100000
namespace Go.Proofs.YtfbgblidlabipaaGreatDoor
open Go.RowKit

/-- What one place comes to, as three numbers. -/
structure JOne (r m : Nat) (a b : Int) (R M c : Int) : Prop where
  cases : (c = 3 ∧ R = 0 ∧ M = 0 ∧ (numB a = false ∨ b < 1 ∨ 1000000000000000000 < b)) ∨
    (numB a = true ∧ ∃ n : Nat, b = (n : Int) ∧ 1 ≤ n ∧ (n : Int) ≤ 1000000000000000000 ∧
      ((c = 5 ∧ R = 0 ∧ M = 0 ∧ ¬ (Nat.gcd m n : Int) ∣ a - (r : Int)) ∨
       (c = 9 ∧ R = 0 ∧ M = 0 ∧ (Nat.gcd m n : Int) ∣ a - (r : Int) ∧ 1000000000000000000 < m * (n / Nat.gcd m n)) ∨
       (c = 0 ∧ ∃ R' : Nat, R = R' ∧ M = ((m * (n / Nat.gcd m n) : Nat) : Int) ∧ m * (n / Nat.gcd m n) ≤ 1000000000000000000 ∧ R' < m * (n / Nat.gcd m n) ∧ (m : Int) ∣ (R' : Int) - (r : Int) ∧ (n : Int) ∣ (R' : Int) - a ∧ (Nat.gcd m n : Int) ∣ a - (r : Int))))

theorem crt_unique {m n R R' : Nat} {r a : Int} (h1 : R < Nat.lcm m n) (h2 : R' < Nat.lcm m n) (d1 : (m : Int) ∣ (R : Int) - r) (d2 : (n : Int) ∣ (R : Int) - a) (e1 : (m : Int) ∣ (R' : Int) - r) (e2 : (n : Int) ∣ (R' : Int) - a) : R = R' := by
  have f1 : (m : Int) ∣ (R : Int) - (R' : Int) := by
    have : (R : Int) - (R' : Int) = ((R : Int) - r) - ((R' : Int) - r) := by omega
    rw [this]; exact Int.dvd_sub d1 e1
  have f2 : (n : Int) ∣ (R : Int) - (R' : Int) := by
    have : (R : Int) - (R' : Int) = ((R : Int) - a) - ((R' : Int) - a) := by omega
    rw [this]; exact Int.dvd_sub d2 e2
  rw [Int.ofNat_dvd_left] at f1 f2
  have f3 := Nat.lcm_dvd f1 f2
  have f4 := Nat.eq_zero_of_dvd_of_lt f3 (by omega)
  omega

/-- One place: the same three numbers in whatever world. -/
theorem joinOne_val (r m : Nat) (a b : Int) (hr : r < m) (hm : (m : Int) ≤ 1000000000000000000) :
    ∃ R M c : Int, JOne r m a b R M c ∧ ∀ w, Calls Tryz.prog 311 #[.int .i64 r, .int .i64 m, .int .i64 a, .int .i64 b] w fun e w' => e = .returned (.tuple #[.int .i64 R, .int .i64 M, .int .i64 c]) ∧ ∃ q, w' = w.drewN q := by
  by_cases hbad : numB a = false ∨ b < 1 ∨ 1000000000000000000 < b
  · exact ⟨0, 0, 3, ⟨Or.inl ⟨rfl, rfl, rfl, hbad⟩⟩, fun w => (joinOne_range r m a b w hbad).mono fun e w' h => ⟨h.1, 0, h.2⟩⟩
  · have ha : numB a = true := by cases h : numB a <;> simp_all
    obtain ⟨n, rfl⟩ := Int.eq_ofNat_of_zero_le (show 0 ≤ b by omega)
    have h1 : 1 ≤ n := by omega
    have h2 : (n : Int) ≤ 1000000000000000000 := by omega
    by_cases hd : (Nat.gcd m n : Int) ∣ a - (r : Int)
    · by_cases hk : 1000000000000000000 < m * (n / Nat.gcd m n)
      · refine ⟨0, 0, 9, ⟨Or.inr ⟨ha, n, rfl, h1, h2, Or.inr (Or.inl ⟨rfl, rfl, rfl, hd, hk⟩)⟩⟩, fun w => (joinOne_any r m n a w hr hm h1 h2 ha).mono fun e w' h => ?_⟩
        obtain ⟨hw, h | h | h⟩ := h
        · exact absurd hd h.1
        · exact ⟨h.2.2, hw⟩
        · omega
      · have hex := MathC.crt_exists r m n a hr h1 hd
        · obtain ⟨R', p1, p2, p3⟩ := hex
          refine ⟨R', ((m * (n / Nat.gcd m n) : Nat) : Int), 0, ⟨Or.inr ⟨ha, n, rfl, h1, h2, Or.inr (Or.inr ⟨rfl, R', rfl, rfl, by omega, p1, p2, p3, hd⟩)⟩⟩, fun w => (joinOne_any r m n a w hr hm h1 h2 ha).mono fun e w' h => ?_⟩
          obtain ⟨hw, h | h | h⟩ := h
          · exact absurd hd h.1
          · omega
          · obtain ⟨_, _, R, rfl, q1, q2, q3⟩ := h
            rw [← MathC.lcm_mul] at p1 q1
            obtain rfl := crt_unique q1 p1 q2 q3 p2 p3
            exact ⟨rfl, hw⟩
    · refine ⟨0, 0, 5, ⟨Or.inr ⟨ha, n, rfl, h1, h2, Or.inl ⟨rfl, rfl, rfl, hd⟩⟩⟩, fun w => (joinOne_any r m n a w hr hm h1 h2 ha).mono fun e w' h => ?_⟩
      obtain ⟨hw, h | h | h⟩ := h
      · exact ⟨h.2, hw⟩
      · exact absurd h.1 hd
      · exact absurd h.1 hd

/-- The slice s holds the numbers xs. -/
structure IS (w : World) (s : Value) (xs : List Int) : Prop where
  shape : ∃ (aa : Option Addr) (g o cap : Nat), s = .slice aa xs.length cap ∧ (0 < xs.length → aa = some ⟨g, o, none⟩) ∧ (∀ i, i < xs.length → w.cell? ⟨g, o + i, none⟩ = some (.int .i64 (xs.getD i 0))) ∧ (0 < xs.length → g < w.heap.size)

/-- What Join comes to. -/
structure JOut (rs ms : List Int) (R M c at' : Int) : Prop where
  cases : ((1000 < rs.length ∨ 1000 < ms.length) ∧ R = 0 ∧ M = 0 ∧ c = 2 ∧ at' = 0) ∨
    (rs.length ≤ 1000 ∧ ms.length ≤ 1000 ∧ rs.length ≠ ms.length ∧ R = 0 ∧ M = 0 ∧ c = 8 ∧ at' = 0) ∨
    (rs.length ≤ 1000 ∧ rs.length = ms.length ∧ ∃ (k r m : Nat) (R' M' : Int), k < rs.length ∧ MathC.JSt rs ms k r m ∧ at' = k ∧ R = 0 ∧ M = 0 ∧ c ≠ 0 ∧ JOne r m (rs.getD k 0) (ms.getD k 0) R' M' c) ∨
    (rs.length ≤ 1000 ∧ rs.length = ms.length ∧ ∃ r m : Nat, MathC.JSt rs ms rs.length r m ∧ R = r ∧ M = m ∧ c = 0 ∧ at' = 0)

theorem jst_of_one {rs ms : List Int} {k r m : Nat} {R M c : Int} (h : MathC.JSt rs ms k r m) (h1 : JOne r m (rs.getD k 0) (ms.getD k 0) R M c) (hc : c = 0) :
    ∃ r' m' : Nat, R = r' ∧ M = m' ∧ MathC.JSt rs ms (k + 1) r' m' := by
  subst hc
  rcases h1.cases with h2 | ⟨ha, n, hn, n1, n2, h2 | h2 | ⟨_, R', rfl, rfl, p1, p2, p3, p4, p5⟩⟩
  · omega
  · omega
  · omega
  · obtain ⟨a1, a2⟩ := numB_true ha
    exact ⟨R', m * (n / Nat.gcd m n), rfl, rfl, MathC.jst_next h n hn n1 n2 a1 a2 (by omega) p2 p3 p4⟩

set_option maxHeartbeats 2000000 in
theorem Join_any (s t : Value) (rs ms : List Int) (w : World) (hs : IS w s rs) (ht : IS w t ms) (hl1 : rs.length ≤ 9000000000000000000) (hl2 : ms.length ≤ 9000000000000000000) :
    Calls Tryz.prog 306 #[s, t] w fun e w' => ∃ R M c at' : Int, e = .returned (.tuple #[.int .i64 R, .int .i64 M, .agg #[.int .i64 c, .int .i64 at']]) ∧ JOut rs ms R M c at' ∧ Below w.heap.size w w' := by
  obtain ⟨a1, g1, o1, c1, rfl, p1, cell1, lt1⟩ := hs.shape
  obtain ⟨a2, g2, o2, c2, rfl, p2, cell2, lt2⟩ := ht.shape
  clear hs ht
  have P1 : Hid (0 < rs.length → a1 = some ⟨g1, o1, none⟩) := p1
  have P2 : Hid (0 < ms.length → a2 = some ⟨g2, o2, none⟩) := p2
  have C1 : Hid (∀ i, i < rs.length → w.cell? ⟨g1, o1 + i, none⟩ = some (.int .i64 (rs.getD i 0))) := cell1
  have C2 : Hid (∀ i, i < ms.length → w.cell? ⟨g2, o2 + i, none⟩ = some (.int .i64 (ms.getD i 0))) := cell2
  have L1 : Hid (0 < rs.length → g1 < w.heap.size) := lt1
  have L2 : Hid (0 < ms.length → g2 < w.heap.size) := lt2
  clear p1 p2 cell1 cell2 lt1 lt2
  by_cases hm : 1000 < rs.length ∨ 1000 < ms.length
  · have HO : Hid (JOut rs ms 0 0 2 0) := ⟨Or.inl ⟨hm, rfl, rfl, rfl, rfl⟩⟩
    by_cases hm1 : 1000 < rs.length
    · clear hm
      go_enter Tryz.func306, Tryz.ntmps306
      go_wp2
      exact bodyPost_ret (v := .tuple #[.int .i64 0, .int .i64 0, .agg #[.int .i64 2, .int .i64 0]]) (by simp [results, Tryz.results306, go_sem]) rfl ⟨0, 0, 2, 0, rfl, HO.out, Below.alloc (Below.refl _ _) (Nat.le_refl _) _⟩
    · have hm2 : 1000 < ms.length := by omega
      clear hm
      go_enter Tryz.func306, Tryz.ntmps306
      go_wp2
      exact bodyPost_ret (v := .tuple #[.int .i64 0, .int .i64 0, .agg #[.int .i64 2, .int .i64 0]]) (by simp [results, Tryz.results306, go_sem]) rfl ⟨0, 0, 2, 0, rfl, HO.out, Below.alloc (Below.refl _ _) (Nat.le_refl _) _⟩
  · have b1 : rs.length ≤ 1000 := by omega
    have b2 : ms.length ≤ 1000 := by omega
    clear hm hl1 hl2
    by_cases he : rs.length = ms.length
    · have t1 : ((rs.length : Int) != (ms.length : Int)) = false := by simp; omega
      have HE : Hid (rs.length = ms.length) := he
      have he1 : rs.length ≤ ms.length := by omega
      have he2 : ms.length ≤ rs.length := by omega
      clear he
      go_enter Tryz.func306, Tryz.ntmps306
      go_wp2
      go_loopw [4, 5, 26] (fun x y i wr => ∃ k r m : Nat, k ≤ rs.length ∧ i = .int .i64 k ∧ x = .int .i64 r ∧ y = .int .i64 m ∧ MathC.JSt rs ms k r m ∧ ∃ q, wr = (w.alloc (.cells #[.int .i64 0, .int .i64 0] 25)).drewN q) (fun _ _ i _ => rs.length - (intOf i).toNat)
      case atStart => exact ⟨0, 0, 1, Nat.zero_le _, rfl, rfl, rfl, MathC.jst_start rs ms, 0, rfl⟩
      case round =>
        obtain ⟨k, r, m, hk, rfl, rfl, rfl, hj, hw⟩ := hrel
        have HJ : Hid (MathC.JSt rs ms k r m) := hj
        have HW : Hid (∃ q, wr = (w.alloc (.cells #[.int .i64 0, .int .i64 0] 25)).drewN q) := hw
        have hsz : w.heap.size < wr.heap.size := by obtain ⟨q, e⟩ := hw; rw [e]; simp
        have f0 : wr.cell? ⟨w.heap.size, 0, none⟩ = some (.int .i64 0) := by obtain ⟨q, e⟩ := hw; rw [e]; simp
        have f1 : wr.cell? ⟨w.heap.size, 1, none⟩ = some (.int .i64 0) := by obtain ⟨q, e⟩ := hw; rw [e]; simp
        have f2 : wr.frozen? ⟨w.heap.size, 0, none⟩ = false := by obtain ⟨q, e⟩ := hw; rw [e]; simp
        have f3 : wr.frozen? ⟨w.heap.size, 1, none⟩ = false := by obtain ⟨q, e⟩ := hw; rw [e]; simp
        have HB : Hid (Below w.heap.size w wr) := by obtain ⟨q, e⟩ := hw; show Below _ _ _; rw [e]; exact below_drewN' (Below.alloc (Below.refl _ _) (Nat.le_refl _) _)
        have hrm := hj.hi
        have hcap := hj.cap
        clear hj hw
        by_cases hlt : k < rs.length
        · obtain rfl := P1.out (by omega)
          obtain rfl := P2.out (by omega)
          have q1 : wr.cell? ⟨g1, o1 + k, none⟩ = some (.int .i64 (rs.getD k 0)) := (HB.out.cell (p := ⟨g1, o1 + k, none⟩) (L1.out (by omega))).trans (C1.out k hlt)
          have q2 : wr.cell? ⟨g2, o2 + k, none⟩ = some (.int .i64 (ms.getD k 0)) := (HB.out.cell (p := ⟨g2, o2 + k, none⟩) (L2.out (by omega))).trans (C2.out k (by omega))
          obtain ⟨R, M, c, hone, hcalls⟩ := joinOne_val r m (rs.getD k 0) (ms.getD k 0) hrm hcap
          obtain ⟨x, hx⟩ : ∃ x, x = rs.getD k 0 := ⟨_, rfl⟩
          obtain ⟨y, hy⟩ : ∃ y, y = ms.getD k 0 := ⟨_, rfl⟩
          rw [← hx] at q1 hcalls
          rw [← hy] at q2 hcalls
          have HONE : Hid (JOne r m (rs.getD k 0) (ms.getD k 0) R M c) := hone
          have HC : Hid (∀ w, Calls Tryz.prog 311 #[.int .i64 r, .int .i64 m, .int .i64 x, .int .i64 y] w fun e w' => e = .returned (.tuple #[.int .i64 R, .int .i64 M, .int .i64 c]) ∧ ∃ q, w' = w.drewN q) := hcalls
          clear hone hcalls hx hy
          by_cases hc : c = 0
          · have t5 : (c != 0) = false := by simp [hc]
            have HN := jst_of_one HJ.out HONE.out hc
            have HNN : Hid (∃ r' m' : Nat, R = r' ∧ M = m' ∧ MathC.JSt rs ms (k + 1) r' m') := HN
            clear HN hc
            go_wp2
            go_quiet ((go_at_call 311; exact Calls.quiet_of (HC.out _)))
            go_wp2
            go_roundw
            case rel =>
              obtain ⟨r', m', rfl, rfl, h3⟩ := HNN.out
              refine ⟨k + 1, r', m', by omega, by go_num, rfl, rfl, h3, ?_⟩
              obtain ⟨q, rfl⟩ := HW.out
              exact ⟨_, World.drewN_drewN ..⟩
            case measure => simp [intOf]; omega
          · have t5 : (c != 0) = true := by simp [hc]
            have HO : Hid (JOut rs ms 0 0 c k) := ⟨Or.inr (Or.inr (Or.inl ⟨b1, HE.out, k, r, m, R, M, hlt, HJ.out, rfl, rfl, rfl, hc, HONE.out⟩))⟩
            clear hc
            go_wp2
            go_quiet ((go_at_call 311; exact Calls.quiet_of (HC.out _)))
            go_wp2
            refine bodyPost_ret (v := .tuple #[.int .i64 0, .int .i64 0, .agg #[.int .i64 c, .int .i64 k]]) (by simp [results, Tryz.results306, go_sem, f0, f1]) rfl ⟨0, 0, c, k, rfl, HO.out, ?_⟩
            exact Below.setCell (Below.setCell (below_drewN' HB.out) (Nat.le_refl _) _) (Nat.le_refl _) _
        · obtain rfl : k = rs.length := by omega
          have HO : Hid (JOut rs ms r m 0 0) := ⟨Or.inr (Or.inr (Or.inr ⟨b1, HE.out, r, m, HJ.out, rfl, rfl, rfl, rfl⟩))⟩
          go_wp2
          refine bodyPost_ret (v := .tuple #[.int .i64 r, .int .i64 m, .agg #[.int .i64 0, .int .i64 0]]) (by simp [results, Tryz.results306, go_sem, f0, f1]) rfl ⟨r, m, 0, 0, rfl, HO.out, ?_⟩
          exact Below.setCell (Below.setCell HB.out (Nat.le_refl _) _) (Nat.le_refl _) _
    · have t1 : ((rs.length : Int) != (ms.length : Int)) = true := by rw [bne_iff_ne]; omega
      have HO : Hid (JOut rs ms 0 0 8 0) := ⟨Or.inr (Or.inl ⟨b1, b2, he, rfl, rfl, rfl, rfl⟩)⟩
      clear he
      go_enter Tryz.func306, Tryz.ntmps306
      go_wp2
      exact bodyPost_ret (v := .tuple #[.int .i64 0, .int .i64 0, .agg #[.int .i64 8, .int .i64 0]]) (by simp [results, Tryz.results306, go_sem]) rfl ⟨0, 0, 8, 0, rfl, HO.out, Below.alloc (Below.refl _ _) (Nat.le_refl _) _⟩

end Go.Proofs.YtfbgblidlabipaaGreatDoor
end

section
/- A fault that a variable holds. -/
set_option linter.unusedSimpArgs false
set_option linter.unusedVariables false
set_option maxRecDepth 100000
namespace Go.Proofs.YtfbgblidlabipaaGreatDoor
open Go.RowKit

/-- A fault that a variable holds, in block b. -/
structure Sv (b : Nat) (c d : Int) (w : World) : Prop where
  c0 : w.cell? ⟨b, 0, none⟩ = some (.int .i64 c)
  c1 : w.cell? ⟨b, 1, none⟩ = some (.int .i64 d)
  f0 : w.frozen? ⟨b, 0, none⟩ = false
  f1 : w.frozen? ⟨b, 1, none⟩ = false
  lt : b < w.heap.size

theorem Sv.below {b : Nat} {c d : Int} {w w' : World} (h : Sv b c d w) (k : Below w.heap.size w w') : Sv b c d w' :=
  ⟨cell_later k h.c0, cell_later k h.c1, (k.frozen (p := ⟨b, 0, none⟩) h.lt).trans h.f0, (k.frozen (p := ⟨b, 1, none⟩) h.lt).trans h.f1, Nat.lt_of_lt_of_le h.lt k.size⟩
theorem Sv.drew {b : Nat} {c d : Int} {w : World} (h : Sv b c d w) : Sv b c d w.drew := ⟨h.c0, h.c1, h.f0, h.f1, h.lt⟩
theorem Sv.drewN {b n : Nat} {c d : Int} {w : World} (h : Sv b c d w) : Sv b c d (w.drewN n) := h.below (below_drewN' (Below.refl _ _))
theorem Sv.alloc {b : Nat} {c d : Int} {w : World} (h : Sv b c d w) (C : Array Value) (t : TypeId) : Sv b c d (w.alloc (.cells C t)) := h.below (Below.alloc (Below.refl _ _) (Nat.le_refl _) _)
theorem Sv.new (c d : Int) (w : World) : Sv w.heap.size c d (w.alloc (.cells #[.int .i64 c, .int .i64 d] 25)) :=
  ⟨by simp, by simp, by simp, by simp, by simp⟩
theorem Sv.set {b : Nat} {c d : Int} {w : World} (h : Sv b c d w) (x y : Int) : Sv b x y ((w.setCell ⟨b, 0, none⟩ (.int .i64 x)).setCell ⟨b, 1, none⟩ (.int .i64 y)) := by
  obtain ⟨c0, c1, f0, f1, lt⟩ := h
  exact ⟨by go_simp, by go_simp, by go_simp, by go_simp, by simpa using lt⟩
theorem Sv.other {b b' : Nat} {c d : Int} {w : World} (h : Sv b c d w) (x y : Value) (hne : b' ≠ b) : Sv b c d ((w.setCell ⟨b', 0, none⟩ x).setCell ⟨b', 1, none⟩ y) := by
  have k : ∀ v : World, ∀ o : Nat, ∀ z : Value, (v.setCell ⟨b', o, none⟩ z).heap[b]? = v.heap[b]? := fun v o z => Below.heap_setCell _ _ _ _ (Ne.symm hne)
  have e : ((w.setCell ⟨b', 0, none⟩ x).setCell ⟨b', 1, none⟩ y).heap[b]? = w.heap[b]? := (k _ _ _).trans (k _ _ _)
  refine ⟨?_, ?_, ?_, ?_, by simpa using h.lt⟩
  · exact (World.cell?_of_block e).trans h.c0
  · exact (World.cell?_of_block e).trans h.c1
  · exact (World.frozen?_of_block e).trans h.f0
  · exact (World.frozen?_of_block e).trans h.f1

end Go.Proofs.YtfbgblidlabipaaGreatDoor
end

section
/- A block of cells, known whole. -/
set_option linter.unusedSimpArgs false
set_option linter.unusedVariables false
set_option maxRecDepth 100000
namespace Go.Proofs.YtfbgblidlabipaaGreatDoor
open Go.RowKit

/-- The block b holds these cells, none of them frozen. -/
def Cl (b : Nat) (l : List Value) (t : TypeId) (w : World) : Prop := w.heap[b]? = some (.cells l.toArray t (0, 0))
theorem Cl.lt {b : Nat} {l : List Value} {t : TypeId} {w : World} (h : Cl b l t w) : b < w.heap.size := (Array.getElem?_eq_some_iff.1 h).1
theorem Cl.cell {b : Nat} {l : List Value} {t : TypeId} {w : World} (h : Cl b l t w) (i : Nat) : w.cell? ⟨b, i, none⟩ = l[i]? := by
  unfold Cl at h
  simp [World.cell?, h]
theorem Cl.frozen {b : Nat} {l : List Value} {t : TypeId} {w : World} (h : Cl b l t w) (i : Nat) : w.frozen? ⟨b, i, none⟩ = false := by
  unfold Cl at h
  simp [World.frozen?, h]
theorem Cl.below {b : Nat} {l : List Value} {t : TypeId} {w w' : World} (h : Cl b l t w) (k : Below w.heap.size w w') : Cl b l t w' := (k.block b h.lt).trans h
theorem Cl.new (l : List Value) (t : TypeId) (w : World) : Cl w.heap.size l t (w.alloc (.cells l.toArray t)) := World.alloc_heap_new w _
theorem Cl.alloc {b : Nat} {l : List Value} {t : TypeId} {w : World} (h : Cl b l t w) (o : Obj) : Cl b l t (w.alloc o) := h.below (Below.alloc (Below.refl _ _) (Nat.le_refl _) _)
theorem Cl.drewN {b n : Nat} {l : List Value} {t : TypeId} {w : World} (h : Cl b l t w) : Cl b l t (w.drewN n) := h.below (below_drewN' (Below.refl _ _))
theorem Cl.drew {b : Nat} {l : List Value} {t : TypeId} {w : World} (h : Cl b l t w) : Cl b l t w.drew := h
theorem Cl.set {b : Nat} {l : List Value} {t : TypeId} {w : World} (h : Cl b l t w) (i : Nat) (v : Value) : Cl b (l.set i v) t (w.setCell ⟨b, i, none⟩ v) := by
  have := heap_setCell_same w b i l.toArray t v h
  unfold Cl
  rw [this]
  simp
theorem Cl.other {b : Nat} {l : List Value} {t : TypeId} {w : World} (h : Cl b l t w) {p : Addr} (hp : b ≠ p.block) (v : Value) : Cl b l t (w.setCell p v) :=
  (Below.heap_setCell w p v b hp).trans h
theorem Cl.grown {b : Nat} {l : List Value} {t : TypeId} {w w' : World} {row : Option Nat} (h : Cl b l t w) (hg : w.grownBy w' row) (hr : row ≠ some b) : Cl b l t w' :=
  (hg.block b h.lt (fun e => hr e.symm)).trans h

end Go.Proofs.YtfbgblidlabipaaGreatDoor
end

section
/- Package long: numbers by limbs: what a slice holds; carried, Of, limb. -/
set_option linter.unusedSimpArgs false
set_option linter.unusedVariables false
set_option maxRecDepth 100000
namespace Go.Proofs.YtfbgblidlabipaaGreatDoor
open Go.RowKit LgM

def nz (l : List Nat) : List Int := l.map (fun x : Nat => (x : Int))
theorem nz_len (l : List Nat) : (nz l).length = l.length := by simp [nz]
theorem nz_append (x y : List Nat) : nz (x ++ y) = nz x ++ nz y := by simp [nz]

theorem IS.ownL {w : World} {base k : Nat} {v : Value} {l : List Int} (hk : l.length = k) (h : w.ownsRow base 3 1 v k (ints l)) : IS w v l := by
  subst hk
  obtain ⟨_, ⟨h1, h2⟩ | ⟨g, cap, cur, e1, _, e3, e4, _, e6, e7⟩⟩ := h
  · exact ⟨none, 0, 0, 0, by rw [h1, h2], fun h => by omega, fun i hi => by omega, fun h => by omega⟩
  · refine ⟨some ⟨g, 0, none⟩, g, 0, cap, e1, fun _ => rfl, fun i hi => ?_, fun _ => lt_of_some e3⟩
    have h3 : (cur.toList.take (l.length * 1))[i]? = (ints l)[i]? := by rw [e7]
    rw [List.getElem?_take, if_pos (by omega)] at h3
    simp only [World.cell?, e3, Nat.zero_add]
    rw [← Array.getElem?_toList, h3]
    simp [ints, hi, List.getD_eq_getElem?_getD]
theorem IS.belowL {w w' : World} {s : Value} {xs : List Int} (h : IS w s xs) (k : Below w.heap.size w w') : IS w' s xs := by
  obtain ⟨a, g, o, c, e, p, cell, lt⟩ := h.shape
  refine ⟨a, g, o, c, e, p, fun i hi => ?_, fun hp => Nat.lt_of_lt_of_le (lt hp) k.size⟩
  rw [k.cell (p := ⟨g, o + i, none⟩) (lt (by omega))]; exact cell i hi
theorem IS.nilL (w : World) : IS w (.slice none 0 0) [] := ⟨none, 0, 0, 0, rfl, fun h => by simp at h, fun i hi => by simp at hi, fun h => by simp at h⟩

/-- The slice holds the number n: its limbs, no more. -/
def LN (w : World) (v : Value) (n : Nat) : Prop := ∃ k, Nd k n ∧ IS w v (nz (dgl k n))
theorem LN.below {w w' : World} {v : Value} {n : Nat} (h : LN w v n) (k : Below w.heap.size w w') : LN w' v n := by
  obtain ⟨i, h1, h2⟩ := h; exact ⟨i, h1, h2.belowL k⟩
theorem LN.zero (w : World) : LN w (.slice none 0 0) 0 := ⟨0, Nd.zero, IS.nilL w⟩

theorem ints_snoc (l : List Nat) (x : Int) : ints (nz l) ++ [.int .i64 x] = ints (nz l ++ [x]) := by simp [ints]
theorem limb_int (q : Nat) : ((q : Int) % 1000000000) = ((q % Bs : Nat) : Int) := by rw [Int.natCast_emod]; rfl

set_option maxHeartbeats 1000000 in
theorem carried_any (B i n m : Nat) (a : Option Addr) (c : Nat) (w : World) (hrow : w.ownsRow B 3 1 (.slice a i c) i (ints (nz (dgl i n)))) (hB : B ≤ w.heap.size) (hq : n / Bs ^ i ≤ 9000000000000000000) (hm : n < Bs ^ m) (him : i ≤ m) (hm2 : m ≤ 1000000) :
    Calls Tryz.prog 184 #[.slice a i c, .int .i64 ((n / Bs ^ i : Nat) : Int)] w fun e w' => ∃ k a' c', e = .returned (.slice a' k c') ∧ (n < Bs ^ k ∧ (k = i ∨ Bs ^ (k - 1) ≤ n)) ∧ w'.ownsRow B 3 1 (.slice a' k c') k (ints (nz (dgl k n))) ∧ Below B w w' := by
  obtain ⟨i0, hi, hz0, hz1, hz2⟩ := info_parts Tryz.infoInt
  have HI : Hid (Tryz.prog.info? 3 = some i0 ∧ i0.zero = some (.int .i64 0) ∧ i0.size = 1 ∧ i0.bytes = 8) := ⟨hi, hz0, hz1, hz2⟩
  clear hi hz0 hz1 hz2
  have HR0 : Hid (w.ownsRow B 3 1 (.slice a i c) i (ints (nz (dgl i n)))) := hrow
  clear hrow
  obtain ⟨q, hqe⟩ : ∃ q, q = n / Bs ^ i := ⟨_, rfl⟩
  have HQ : Hid (q = n / Bs ^ i) := hqe
  have HM : Hid (n < Bs ^ m) := hm
  rw [← hqe] at hq ⊢
  clear hqe hm
  go_enter Tryz.func184, Tryz.ntmps184
  go_wp2
  go_loopw [0, 1] (fun lv cv wx => ∃ (k q : Nat) (a' : Option Addr) (c' : Nat), lv = .slice a' k c' ∧ cv = .int .i64 (q : Int) ∧ q ≤ 9000000000000000000 ∧ k ≤ m ∧ Hid ((q = n / Bs ^ k ∧ (k = i ∨ Bs ^ (k - 1) ≤ n)) ∧ wx.ownsRow B 3 1 (.slice a' k c') k (ints (nz (dgl k n))) ∧ Below B w wx)) (fun _ cv _ => (intOf cv).toNat)
  case atStart => exact ⟨i, q, a, c, rfl, rfl, hq, him, ⟨HQ.out, .inl rfl⟩, HR0.out, Below.refl _ _⟩
  case round =>
    clear HQ HR0 him hq
    obtain ⟨k, q, a', c', rfl, rfl, hq, hkm, HR⟩ := hrel
    by_cases h0 : q = 0
    · subst h0
      go_wp2
      go_ret
      obtain ⟨⟨e1, e2⟩, e3, e4⟩ := HR.out
      refine ⟨k, a', c', rfl, ⟨?_, e2⟩, e3, e4⟩
      rcases Nat.lt_or_ge n (Bs ^ k) with h | h
      · exact h
      · have := Nat.div_pos h (bs_pos k); omega
    · have hge : Bs ^ k ≤ n := by
        have := HR.out.1.1
        rcases Nat.lt_or_ge n (Bs ^ k) with h | h
        · rw [Nat.div_eq_of_lt h] at this; omega
        · exact h
      have hkm2 : k < m := by
        rcases Nat.lt_or_ge k m with h | h
        · exact h
        · have := Nat.pow_le_pow_right (show 0 < Bs by decide) h; have := HM.out; omega
      have HGE : Hid (Bs ^ k ≤ n) := hge
      have hpos : decide ((0 : Int) < (q : Int)) = true := decide_eq_true (by omega)
      have hwz := HR.out.2.2.size
      clear hge
      go_wp2_with (at_builtin; refine wpList_append_own _ rfl _ _ 80 rfl B 3 i0 (.int .i64 0) 1 8 Tryz.underlying80 HI.out.1 HI.out.2.1 HI.out.2.2.1 HI.out.2.2.2 rfl (by decide) (.slice a' k c') k (ints (nz (dgl k n))) rfl (HR.out.2.1.alloc _) ⟨wr.heap.size, 0, none⟩ 1 1 [.int .i64 ((q : Int) % 1000000000)] rfl rfl (cell_one_new _ _ _) (by simp [Value.oneCell']) (by simp only [maxLen]; omega) (by omega) (by simp; omega) ?_; intro v' w1 hown' hgrow _; obtain ⟨g', cap', rfl⟩ := ownsRow_succ hown')
      have HN : Hid (w1.ownsRow B 3 1 (.slice (some ⟨g', 0, none⟩) (k + 1) cap') (k + 1) (ints (nz (dgl (k + 1) n))) ∧ Below B w w1) := by
        refine ⟨?_, ((HR.out.2.2.alloc (by omega) _).grown hgrow (by simp; omega) (fun g e => (HR.out.2.1.lt g e).1))⟩
        rw [dgl_succ, nz_append]
        have e : nz [n / Bs ^ k % Bs] = [(q : Int) % 1000000000] := by rw [← HR.out.1.1, limb_int]; rfl
        rw [e, ← ints_snoc]
        exact hown'
      clear hown' hgrow
      go_roundw
      case rel =>
        refine ⟨k + 1, q / 1000000000, _, _, rfl, by go_num, by omega, by omega, ⟨?_, .inr ?_⟩, HN.out⟩
        · rw [div_s, ← HR.out.1.1]
        · exact HGE.out
      case measure => simp [intOf]; omega

end Go.Proofs.YtfbgblidlabipaaGreatDoor
end
