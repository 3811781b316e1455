/- Markov: how triples are held against each other; slices.SortFunc of triples. -/
import Derived.Test.YtcbepaionliepaaMkD
import Derived.Test.YtcbepaionliepaaRegionG
import Derived.Sort.Grow
set_option linter.unusedSimpArgs false
set_option linter.unusedVariables false
set_option maxRecDepth 100000
namespace Go.Proofs.Ytcbepaionliepaa
open Go.RowKit Go.Shelf Go.Sort

def cmI (x y : Nat) : Int := if x < y then -1 else if y < x then 1 else 0
def cm3 (p q : T3) : Int := if p.2.2 ≠ q.2.2 then cmI p.2.2 q.2.2 else if p.2.1 ≠ q.2.1 then cmI p.2.1 q.2.1 else if p.1 ≠ q.1 then cmI p.1 q.1 else 0
def lt3 (p q : T3) : Prop := p.2.2 < q.2.2 ∨ (p.2.2 = q.2.2 ∧ (p.2.1 < q.2.1 ∨ (p.2.1 = q.2.1 ∧ p.1 < q.1)))
theorem lt_cm3 (p q : T3) : ltOf cm3 p q = true ↔ lt3 p q := by
  unfold ltOf cm3 cmI lt3
  rw [decide_eq_true_eq]
  split <;> (try split) <;> (try split) <;> (try split) <;> (try split) <;> (try split) <;> omega
theorem swo_cm3 : SWO (ltOf cm3) where
  irrefl x := by
    rw [Bool.eq_false_iff, ne_eq, lt_cm3]; unfold lt3; omega
  trans x y z h1 h2 := by
    rw [lt_cm3] at *; unfold lt3 at *; omega
  ntrans x y z h1 h2 := by
    rw [Bool.eq_false_iff, ne_eq, lt_cm3] at *; unfold lt3 at *; omega
theorem tot_cm3 (x y : T3) (h1 : ltOf cm3 x y = false) (h2 : ltOf cm3 y x = false) : x = y := by
  rw [Bool.eq_false_iff, ne_eq, lt_cm3] at h1 h2
  unfold lt3 at h1 h2
  obtain ⟨a, b, c⟩ := x
  obtain ⟨d, e, f⟩ := y
  simp only [Prod.mk.injEq] at *
  omega

set_option maxHeartbeats 2000000 in
theorem Compare_m (x y : Nat) (w : World) (c : Int) (hc : cmI x y = c) : Calls Try.prog 67 #[.int .i64 (x : Int), .int .i64 (y : Int)] w fun e w' => e = .returned (.int .i64 c) ∧ w' = w := by
  by_cases h1 : x < y
  · have e : c = -1 := by rw [← hc]; exact if_pos h1
    rw [e]
    have t1 : decide ((x : Int) < (y : Int)) = true := decide_eq_true (by omega)
    clear hc e
    go_enter Try.func67, Try.ntmps67
    go_wp2
    go_ret
    exact ⟨rfl, rfl⟩
  · have t1 : decide ((x : Int) < (y : Int)) = false := decide_eq_false (by omega)
    by_cases h2 : y < x
    · have e : c = 1 := by rw [← hc, cmI, if_neg h1, if_pos h2]
      rw [e]
      have t2 : decide ((y : Int) < (x : Int)) = true := decide_eq_true (by omega)
      clear hc e
      go_enter Try.func67, Try.ntmps67
      go_wp2
      go_ret
      exact ⟨rfl, rfl⟩
    · have e : c = 0 := by rw [← hc, cmI, if_neg h1, if_neg h2]
      rw [e]
      have t2 : decide ((y : Int) < (x : Int)) = false := decide_eq_false (by omega)
      clear hc e
      go_enter Try.func67, Try.ntmps67
      go_wp2
      go_ret
      exact ⟨rfl, rfl⟩

/-- The places by which Markov's triples are held against each other. -/
structure Pc (bp bq : Nat) (W : World) : Prop where
  p : Cl bp [.slice (some ⟨bq, 0, none⟩) 3 3] 26 W
  q : Cl bq [.int .i64 2, .int .i64 1, .int .i64 0] 3 W

abbrev S2p (b k c c' : Nat) (W : World) : Prop := W.cell? ⟨b, k, none⟩ = some (.int .i64 (c : Int)) ∧ W.cell? ⟨b + 1, k, none⟩ = some (.int .i64 (c' : Int))

set_option maxRecDepth 100000 in
set_option maxHeartbeats 4000000 in
theorem places_any (p q : T3) (bp bq : Nat) (w : World) (h : Pc bp bq w) :
    Calls Try.prog 66 #[tv3 p, tv3 q, .pointer (some ⟨bp, 0, none⟩)] w fun e w' => e = .returned (.int .i64 (cm3 p q)) ∧ ∃ n os', w' = Sort.grow (w.drewN n) os' := by
  have HC : Hid (∀ (x y : Nat) (w : World), Calls Try.prog 67 #[.int .i64 (x : Int), .int .i64 (y : Int)] w fun e w' => e = .returned (.int .i64 (cmI x y)) ∧ w' = w) := fun x y w => Compare_m x y w _ rfl
  obtain ⟨R, hR⟩ : ∃ R, R = cm3 p q := ⟨_, rfl⟩
  have HRR : Hid (R = cm3 p q) := hR
  rw [← hR]
  unfold tv3
  obtain ⟨x, y, z⟩ := p
  obtain ⟨x', y', z'⟩ := q
  simp only []
  have HW : Hid (∀ n, Cl w.heap.size [.int .i64 (x : Int), .int .i64 (y : Int), .int .i64 (z : Int)] 42 (((w.alloc (.cells #[.int .i64 (x : Int), .int .i64 (y : Int), .int .i64 (z : Int)] 42)).alloc (.cells #[.int .i64 (x' : Int), .int .i64 (y' : Int), .int .i64 (z' : Int)] 42)).drewN n) ∧ Cl (w.heap.size + 1) [.int .i64 (x' : Int), .int .i64 (y' : Int), .int .i64 (z' : Int)] 42 (((w.alloc (.cells #[.int .i64 (x : Int), .int .i64 (y : Int), .int .i64 (z : Int)] 42)).alloc (.cells #[.int .i64 (x' : Int), .int .i64 (y' : Int), .int .i64 (z' : Int)] 42)).drewN n) ∧ Pc bp bq (((w.alloc (.cells #[.int .i64 (x : Int), .int .i64 (y : Int), .int .i64 (z : Int)] 42)).alloc (.cells #[.int .i64 (x' : Int), .int .i64 (y' : Int), .int .i64 (z' : Int)] 42)).drewN n)) := fun n => by
    refine ⟨((Cl.new [.int .i64 (x : Int), .int .i64 (y : Int), .int .i64 (z : Int)] 42 w).alloc _).drewN, ?_, ((h.p.alloc _).alloc _).drewN, ((h.q.alloc _).alloc _).drewN⟩
    have := (Cl.new [.int .i64 (x' : Int), .int .i64 (y' : Int), .int .i64 (z' : Int)] 42 (w.alloc (.cells #[.int .i64 (x : Int), .int .i64 (y : Int), .int .i64 (z : Int)] 42))).drewN (n := n)
    rw [World.size_alloc] at this
    exact this
  have HG : Hid (∀ n, ((w.alloc (.cells #[.int .i64 (x : Int), .int .i64 (y : Int), .int .i64 (z : Int)] 42)).alloc (.cells #[.int .i64 (x' : Int), .int .i64 (y' : Int), .int .i64 (z' : Int)] 42)).drewN n = Sort.grow (w.drewN n) #[.cells #[.int .i64 (x : Int), .int .i64 (y : Int), .int .i64 (z : Int)] 42, .cells #[.int .i64 (x' : Int), .int .i64 (y' : Int), .int .i64 (z' : Int)] 42]) := fun n => by
    rw [Sort.alloc_eq_grow, Sort.alloc_eq_grow, Sort.grow_grow]; rfl
  have p0 : ∀ o o' : Obj, ((w.alloc o).alloc o').cell? ⟨bp, 0, none⟩ = some (.slice (some ⟨bq, 0, none⟩) 3 3) := fun o o' => ((h.p.alloc o).alloc o').cell 0
  clear h hR
  go_enter Try.func66, Try.ntmps66
  go_wp2
  obtain ⟨W1, hW1⟩ : ∃ W1, W1 = (w.alloc (.cells #[.int .i64 (x : Int), .int .i64 (y : Int), .int .i64 (z : Int)] 42)).alloc (.cells #[.int .i64 (x' : Int), .int .i64 (y' : Int), .int .i64 (z' : Int)] 42) := ⟨_, rfl⟩
  rw [← hW1] at HW HG
  rw [← hW1]
  clear hW1 p0
  go_loopg [10] 3 (fun gk iv wx => ∃ (i n : Nat), iv = .int .i64 i ∧ Hid (gk = 3 - i ∧ i ≤ 3 ∧ wx = W1.drewN n ∧ (0 < i → z = z') ∧ (1 < i → y = y') ∧ (2 < i → x = x')))
  case atStart => exact ⟨0, 0, rfl, rfl, by omega, rfl, fun h => by omega, fun h => by omega, fun h => by omega⟩
  case round =>
    obtain ⟨i, n, rfl, HR⟩ := hrel
    obtain ⟨h1, h2, h3, h4, h5, h6⟩ := HR.out
    have HK : Hid (gk = 3 - i) := h1
    have HN : Hid (wr = W1.drewN n) := h3
    obtain ⟨b1, b2, b3⟩ := HW.out n
    rw [← h3] at b1 b2 b3
    have q0 : wr.cell? ⟨bq, 0, none⟩ = some (.int .i64 2) := b3.q.cell 0
    have q1 : wr.cell? ⟨bq, 1, none⟩ = some (.int .i64 1) := b3.q.cell 1
    have q2 : wr.cell? ⟨bq, 2, none⟩ = some (.int .i64 0) := b3.q.cell 2
    have u0 : wr.cell? ⟨w.heap.size, 0, none⟩ = some (.int .i64 (x : Int)) := b1.cell 0
    have u1 : wr.cell? ⟨w.heap.size, 1, none⟩ = some (.int .i64 (y : Int)) := b1.cell 1
    have u2 : wr.cell? ⟨w.heap.size, 2, none⟩ = some (.int .i64 (z : Int)) := b1.cell 2
    have v0 : wr.cell? ⟨w.heap.size + 1, 0, none⟩ = some (.int .i64 (x' : Int)) := b2.cell 0
    have v1 : wr.cell? ⟨w.heap.size + 1, 1, none⟩ = some (.int .i64 (y' : Int)) := b2.cell 1
    have v2 : wr.cell? ⟨w.heap.size + 1, 2, none⟩ = some (.int .i64 (z' : Int)) := b2.cell 2
    clear b1 b2 b3 HR h1 h3
    have hi3 : i = 0 ∨ i = 1 ∨ i = 2 ∨ i = 3 := by omega
    rcases hi3 with rfl | rfl | rfl | rfl
    · skip
      by_cases hz : z = z'
      · have t1 : ((z : Int) != (z' : Int)) = false := by rw [hz]; simp
        have HZ : Hid (z = z') := hz
        clear h4 h5 h6 hz
        go_wp2
        go_region
        go_wp2
        go_roundg (3 - (0 + 1))
        case rel => exact ⟨0 + 1, n + 1, by first | rfl | go_num, rfl, by omega, by rw [HN.out]; rfl, fun _ => HZ.out, fun h => by omega, fun h => by omega⟩
        case measure => have := HK.out; omega
      · have t1 : ((z : Int) != (z' : Int)) = true := bne_iff_ne.2 (by omega)
        have HE : Hid (R = cmI z z') := by show _ = _; rw [HRR.out]; exact if_pos hz
        clear h4 h5 h6 hz
        go_wp2
        go_region
        go_wp2
        obtain ⟨wq, hwq⟩ : ∃ wq, wq = wr.drew := ⟨_, rfl⟩
        have u4 : wq.cell? ⟨w.heap.size, 2, none⟩ = some (.int .i64 (z : Int)) := by rw [hwq]; exact u2
        have v4 : wq.cell? ⟨w.heap.size + 1, 2, none⟩ = some (.int .i64 (z' : Int)) := by rw [hwq]; exact v2
        have HQ : Hid (wq = W1.drewN (n + 1)) := by show _ = _; rw [hwq, HN.out]; rfl
        rw [← hwq]
        clear hwq u0 u1 u2 v0 v1 v2 q0 q1 q2
        go_wp2_with fail
        refine wp_region_G (S2p w.heap.size 2 z z') 7 (by kernel_rfl) ⟨u4, v4⟩ (fun hHeld => ?_)
        refine wpAnyG_take (i := 0) (v := ?v0x1) rfl (by kernel_rfl) (fun _ _ _ h => h) (Or.inl ⟨by rfl, ?y0x1⟩) hHeld ?r0x1
        case y0x1 => (intro wS hSw; obtain ⟨s1, s2⟩ := hSw; go_simp; try with_reducible rfl)
        try simp only [Act.put, List.setIfInBounds_toArray, List.set_cons_zero, List.set_cons_succ]
        refine wpAnyG_take (i := 1) (v := ?v1x2) rfl (by kernel_rfl) (fun _ _ _ h => h) (Or.inl ⟨by rfl, ?y1x2⟩) hHeld ?r1x2
        case y1x2 => (intro wS hSw; obtain ⟨s1, s2⟩ := hSw; go_simp; try with_reducible rfl)
        try simp only [Act.put, List.setIfInBounds_toArray, List.set_cons_zero, List.set_cons_succ]
        refine wpAnyG_take (i := 2) (v := ?v2x3) rfl (by kernel_rfl) (fun _ _ _ h => h) (Or.inl ⟨by rfl, ?y2x3⟩) hHeld ?r2x3
        case y2x3 => (intro wS hSw; obtain ⟨s1, s2⟩ := hSw; go_simp; try with_reducible rfl)
        try simp only [Act.put, List.setIfInBounds_toArray, List.set_cons_zero, List.set_cons_succ]
        refine wpAnyG_take (i := 3) (v := ?v3x4) rfl (by kernel_rfl) (fun _ _ _ h => h) (Or.inl ⟨by rfl, ?y3x4⟩) hHeld ?r3x4
        case y3x4 => (intro wS hSw; obtain ⟨s1, s2⟩ := hSw; go_simp; try with_reducible rfl)
        try simp only [Act.put, List.setIfInBounds_toArray, List.set_cons_zero, List.set_cons_succ]
        refine wpAnyG_take (i := 4) (v := ?v4x5) rfl (by kernel_rfl) (fun _ _ _ h => h) (Or.inl ⟨by rfl, ?y4x5⟩) hHeld ?r4x5
        case y4x5 => (intro wS hSw; obtain ⟨s1, s2⟩ := hSw; go_simp; try with_reducible rfl)
        try simp only [Act.put, List.setIfInBounds_toArray, List.set_cons_zero, List.set_cons_succ]
        refine wpAnyG_take (i := 5) (v := ?v5x6) rfl (by kernel_rfl) (fun _ _ _ h => h) (Or.inl ⟨by rfl, ?y5x6⟩) hHeld ?r5x6
        case y5x6 => (intro wS hSw; obtain ⟨s1, s2⟩ := hSw; go_simp; try with_reducible rfl)
        try simp only [Act.put, List.setIfInBounds_toArray, List.set_cons_zero, List.set_cons_succ]
        refine wpAnyG_one (i := 6) rfl (by kernel_rfl) (fun K hK => ?_)
        go_simp
        refine (HC.out z z' _).mono ?_
        rintro e ua ⟨rfl, hua⟩
        rw [hua]
        clear hua ua
        refine hK.out _ _ ⟨u4, v4⟩ ?_
        clear hK K
        try simp only [Act.put, List.setIfInBounds_toArray, List.set_cons_zero, List.set_cons_succ]
        refine wpAnyG_last (i := 7) rfl (by kernel_rfl) (by kernel_rfl) (fun K hK => ?_)
        go_simp
        refine hK.out _ _ ?_
        clear hK K
        try simp only [Act.put, List.setIfInBounds_toArray, List.set_cons_zero, List.set_cons_succ]
        refine wpAnyG_done (by kernel_rfl) ?_ _
        clear hHeld
        go_wp2_with fail
        go_ret
        exact ⟨by rw [HE.out]; rfl, n + 2, _, by rw [← HG.out, HQ.out]; rfl⟩
    · have HP : Hid (z = z' ∧ z = z') := ⟨h4 (by omega), h4 (by omega)⟩
      by_cases hz : y = y'
      · have t1 : ((y : Int) != (y' : Int)) = false := by rw [hz]; simp
        have HZ : Hid (y = y') := hz
        clear h4 h5 h6 hz
        go_wp2
        go_region
        go_wp2
        go_roundg (3 - (1 + 1))
        case rel => exact ⟨1 + 1, n + 1, by first | rfl | go_num, rfl, by omega, by rw [HN.out]; rfl, fun _ => HP.out.1, fun _ => HZ.out, fun h => by omega⟩
        case measure => have := HK.out; omega
      · have t1 : ((y : Int) != (y' : Int)) = true := bne_iff_ne.2 (by omega)
        have HE : Hid (R = cmI y y') := by show _ = _; rw [HRR.out]; rw [cm3, if_neg (by simp; exact HP.out.1)]; exact if_pos hz
        clear h4 h5 h6 hz
        go_wp2
        go_region
        go_wp2
        obtain ⟨wq, hwq⟩ : ∃ wq, wq = wr.drew := ⟨_, rfl⟩
        have u4 : wq.cell? ⟨w.heap.size, 1, none⟩ = some (.int .i64 (y : Int)) := by rw [hwq]; exact u1
        have v4 : wq.cell? ⟨w.heap.size + 1, 1, none⟩ = some (.int .i64 (y' : Int)) := by rw [hwq]; exact v1
        have HQ : Hid (wq = W1.drewN (n + 1)) := by show _ = _; rw [hwq, HN.out]; rfl
        rw [← hwq]
        clear hwq u0 u1 u2 v0 v1 v2 q0 q1 q2
        go_wp2_with fail
        refine wp_region_G (S2p w.heap.size 1 y y') 7 (by kernel_rfl) ⟨u4, v4⟩ (fun hHeld => ?_)
        refine wpAnyG_take (i := 0) (v := ?v0x7) rfl (by kernel_rfl) (fun _ _ _ h => h) (Or.inl ⟨by rfl, ?y0x7⟩) hHeld ?r0x7
        case y0x7 => (intro wS hSw; obtain ⟨s1, s2⟩ := hSw; go_simp; try with_reducible rfl)
        try simp only [Act.put, List.setIfInBounds_toArray, List.set_cons_zero, List.set_cons_succ]
        refine wpAnyG_take (i := 1) (v := ?v1x8) rfl (by kernel_rfl) (fun _ _ _ h => h) (Or.inl ⟨by rfl, ?y1x8⟩) hHeld ?r1x8
        case y1x8 => (intro wS hSw; obtain ⟨s1, s2⟩ := hSw; go_simp; try with_reducible rfl)
        try simp only [Act.put, List.setIfInBounds_toArray, List.set_cons_zero, List.set_cons_succ]
        refine wpAnyG_take (i := 2) (v := ?v2x9) rfl (by kernel_rfl) (fun _ _ _ h => h) (Or.inl ⟨by rfl, ?y2x9⟩) hHeld ?r2x9
        case y2x9 => (intro wS hSw; obtain ⟨s1, s2⟩ := hSw; go_simp; try with_reducible rfl)
        try simp only [Act.put, List.setIfInBounds_toArray, List.set_cons_zero, List.set_cons_succ]
        refine wpAnyG_take (i := 3) (v := ?v3x10) rfl (by kernel_rfl) (fun _ _ _ h => h) (Or.inl ⟨by rfl, ?y3x10⟩) hHeld ?r3x10
        case y3x10 => (intro wS hSw; obtain ⟨s1, s2⟩ := hSw; go_simp; try with_reducible rfl)
        try simp only [Act.put, List.setIfInBounds_toArray, List.set_cons_zero, List.set_cons_succ]
        refine wpAnyG_take (i := 4) (v := ?v4x11) rfl (by kernel_rfl) (fun _ _ _ h => h) (Or.inl ⟨by rfl, ?y4x11⟩) hHeld ?r4x11
        case y4x11 => (intro wS hSw; obtain ⟨s1, s2⟩ := hSw; go_simp; try with_reducible rfl)
        try simp only [Act.put, List.setIfInBounds_toArray, List.set_cons_zero, List.set_cons_succ]
        refine wpAnyG_take (i := 5) (v := ?v5x12) rfl (by kernel_rfl) (fun _ _ _ h => h) (Or.inl ⟨by rfl, ?y5x12⟩) hHeld ?r5x12
        case y5x12 => (intro wS hSw; obtain ⟨s1, s2⟩ := hSw; go_simp; try with_reducible rfl)
        try simp only [Act.put, List.setIfInBounds_toArray, List.set_cons_zero, List.set_cons_succ]
        refine wpAnyG_one (i := 6) rfl (by kernel_rfl) (fun K hK => ?_)
        go_simp
        refine (HC.out y y' _).mono ?_
        rintro e ua ⟨rfl, hua⟩
        rw [hua]
        clear hua ua
        refine hK.out _ _ ⟨u4, v4⟩ ?_
        clear hK K
        try simp only [Act.put, List.setIfInBounds_toArray, List.set_cons_zero, List.set_cons_succ]
        refine wpAnyG_last (i := 7) rfl (by kernel_rfl) (by kernel_rfl) (fun K hK => ?_)
        go_simp
        refine hK.out _ _ ?_
        clear hK K
        try simp only [Act.put, List.setIfInBounds_toArray, List.set_cons_zero, List.set_cons_succ]
        refine wpAnyG_done (by kernel_rfl) ?_ _
        clear hHeld
        go_wp2_with fail
        go_ret
        exact ⟨by rw [HE.out]; rfl, n + 2, _, by rw [← HG.out, HQ.out]; rfl⟩
    · have HP : Hid (z = z' ∧ y = y') := ⟨h4 (by omega), h5 (by omega)⟩
      by_cases hz : x = x'
      · have t1 : ((x : Int) != (x' : Int)) = false := by rw [hz]; simp
        have HZ : Hid (x = x') := hz
        clear h4 h5 h6 hz
        go_wp2
        go_region
        go_wp2
        go_roundg (3 - (2 + 1))
        case rel => exact ⟨2 + 1, n + 1, by first | rfl | go_num, rfl, by omega, by rw [HN.out]; rfl, fun _ => HP.out.1, fun _ => HP.out.2, fun _ => HZ.out⟩
        case measure => have := HK.out; omega
      · have t1 : ((x : Int) != (x' : Int)) = true := bne_iff_ne.2 (by omega)
        have HE : Hid (R = cmI x x') := by show _ = _; rw [HRR.out]; rw [cm3, if_neg (by simp; exact HP.out.1), if_neg (by simp; exact HP.out.2)]; exact if_pos hz
        clear h4 h5 h6 hz
        go_wp2
        go_region
        go_wp2
        obtain ⟨wq, hwq⟩ : ∃ wq, wq = wr.drew := ⟨_, rfl⟩
        have u4 : wq.cell? ⟨w.heap.size, 0, none⟩ = some (.int .i64 (x : Int)) := by rw [hwq]; exact u0
        have v4 : wq.cell? ⟨w.heap.size + 1, 0, none⟩ = some (.int .i64 (x' : Int)) := by rw [hwq]; exact v0
        have HQ : Hid (wq = W1.drewN (n + 1)) := by show _ = _; rw [hwq, HN.out]; rfl
        rw [← hwq]
        clear hwq u0 u1 u2 v0 v1 v2 q0 q1 q2
        go_wp2_with fail
        refine wp_region_G (S2p w.heap.size 0 x x') 7 (by kernel_rfl) ⟨u4, v4⟩ (fun hHeld => ?_)
        refine wpAnyG_take (i := 0) (v := ?v0x13) rfl (by kernel_rfl) (fun _ _ _ h => h) (Or.inl ⟨by rfl, ?y0x13⟩) hHeld ?r0x13
        case y0x13 => (intro wS hSw; obtain ⟨s1, s2⟩ := hSw; go_simp; try with_reducible rfl)
        try simp only [Act.put, List.setIfInBounds_toArray, List.set_cons_zero, List.set_cons_succ]
        refine wpAnyG_take (i := 1) (v := ?v1x14) rfl (by kernel_rfl) (fun _ _ _ h => h) (Or.inl ⟨by rfl, ?y1x14⟩) hHeld ?r1x14
        case y1x14 => (intro wS hSw; obtain ⟨s1, s2⟩ := hSw; go_simp; try with_reducible rfl)
        try simp only [Act.put, List.setIfInBounds_toArray, List.set_cons_zero, List.set_cons_succ]
        refine wpAnyG_take (i := 2) (v := ?v2x15) rfl (by kernel_rfl) (fun _ _ _ h => h) (Or.inl ⟨by rfl, ?y2x15⟩) hHeld ?r2x15
        case y2x15 => (intro wS hSw; obtain ⟨s1, s2⟩ := hSw; go_simp; try with_reducible rfl)
        try simp only [Act.put, List.setIfInBounds_toArray, List.set_cons_zero, List.set_cons_succ]
        refine wpAnyG_take (i := 3) (v := ?v3x16) rfl (by kernel_rfl) (fun _ _ _ h => h) (Or.inl ⟨by rfl, ?y3x16⟩) hHeld ?r3x16
        case y3x16 => (intro wS hSw; obtain ⟨s1, s2⟩ := hSw; go_simp; try with_reducible rfl)
        try simp only [Act.put, List.setIfInBounds_toArray, List.set_cons_zero, List.set_cons_succ]
        refine wpAnyG_take (i := 4) (v := ?v4x17) rfl (by kernel_rfl) (fun _ _ _ h => h) (Or.inl ⟨by rfl, ?y4x17⟩) hHeld ?r4x17
        case y4x17 => (intro wS hSw; obtain ⟨s1, s2⟩ := hSw; go_simp; try with_reducible rfl)
        try simp only [Act.put, List.setIfInBounds_toArray, List.set_cons_zero, List.set_cons_succ]
        refine wpAnyG_take (i := 5) (v := ?v5x18) rfl (by kernel_rfl) (fun _ _ _ h => h) (Or.inl ⟨by rfl, ?y5x18⟩) hHeld ?r5x18
        case y5x18 => (intro wS hSw; obtain ⟨s1, s2⟩ := hSw; go_simp; try with_reducible rfl)
        try simp only [Act.put, List.setIfInBounds_toArray, List.set_cons_zero, List.set_cons_succ]
        refine wpAnyG_one (i := 6) rfl (by kernel_rfl) (fun K hK => ?_)
        go_simp
        refine (HC.out x x' _).mono ?_
        rintro e ua ⟨rfl, hua⟩
        rw [hua]
        clear hua ua
        refine hK.out _ _ ⟨u4, v4⟩ ?_
        clear hK K
        try simp only [Act.put, List.setIfInBounds_toArray, List.set_cons_zero, List.set_cons_succ]
        refine wpAnyG_last (i := 7) rfl (by kernel_rfl) (by kernel_rfl) (fun K hK => ?_)
        go_simp
        refine hK.out _ _ ?_
        clear hK K
        try simp only [Act.put, List.setIfInBounds_toArray, List.set_cons_zero, List.set_cons_succ]
        refine wpAnyG_done (by kernel_rfl) ?_ _
        clear hHeld
        go_wp2_with fail
        go_ret
        exact ⟨by rw [HE.out]; rfl, n + 2, _, by rw [← HG.out, HQ.out]; rfl⟩
    · have HE : Hid (R = 0) := by
        show _ = _
        rw [HRR.out, cm3, if_neg (by simp; exact h4 (by omega)), if_neg (by simp; exact h5 (by omega)), if_neg (by simp; exact h6 (by omega))]
      clear h4 h5 h6
      go_wp2
      go_ret
      exact ⟨by rw [HE.out]; rfl, n, _, by rw [← HG.out, HN.out]⟩

end Go.Proofs.Ytcbepaionliepaa
