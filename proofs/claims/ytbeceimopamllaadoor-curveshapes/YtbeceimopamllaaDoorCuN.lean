/- The program: a curve's exponent, and Shape. -/
import Derived.Test.YtbeceimopamllaaDoorCuM
import Derived.Test.YtbeceimopamllaaDoorCuI
import Derived.Test.YtbeceimopamllaaDoorCuD
import Derived.Test.YtbeceimopamllaaDoorCuE
set_option linter.unusedSimpArgs false
set_option linter.unusedVariables false
set_option maxRecDepth 100000
namespace Go.Proofs.YtbeceimopamllaaDoor
open Go.RowKit EC

/-- What a curve and a point hold, in two blocks. -/
abbrev S6 (h pb P : Nat) (a b : Int) (q : Pn) (w : World) : Prop :=
  w.cell? ⟨h, 0, none⟩ = some (.int .i64 P) ∧ w.cell? ⟨h, 1, none⟩ = some (.int .i64 a) ∧ w.cell? ⟨h, 2, none⟩ = some (.int .i64 b) ∧ w.cell? ⟨pb, 0, none⟩ = some (.int .i64 q.x) ∧ w.cell? ⟨pb, 1, none⟩ = some (.int .i64 q.y) ∧ w.cell? ⟨pb, 2, none⟩ = some (.bool q.far)
theorem s6_of {h pb P : Nat} {a b : Int} {q : Pn} {w : World} (h0 : Cl h (Gl P a b) 52 w) (h1 : Cl pb (Pl q) 30 w) : S6 h pb P a b q w :=
  ⟨h0.cell 0, h0.cell 1, h0.cell 2, h1.cell 0, h1.cell 1, h1.cell 2⟩

/-- How the exponent grows along a list of points. -/
structure Ex (P : Nat) (a b : Int) (l : List Pn) (N K : Nat → Nat) : Prop where
  n0 : N 0 = 1
  step : ∀ i, i < l.length → N (i + 1) = N i * K i
  on : ∀ i, i < l.length → On P a b (l.getD i farP)
  od : ∀ i, i < l.length → Od P a (mz P a (l.getD i farP) (N i)) (K i)
  k6 : ∀ i, i < l.length → K i ≤ 4000001
  n18 : ∀ i, i ≤ l.length → N i ≤ 1000000000000

set_option maxHeartbeats 2000000 in
theorem exponent_any (P : Nat) (a b : Int) (s : Value) (l : List Pn) (N K : Nat → Nat) (w : World) (hc : Cv P a b) (hs : PS w s l) (hl : l.length ≤ 100000000) (he : Ex P a b l N K) :
    Calls Tryd.prog 34 #[Gv P a b, s] w fun e w' => e = .returned (.int .i64 (N l.length)) ∧ Below w.heap.size w w' := by
  haveI := hc.nz
  have HC : Hid (Cv P a b ∧ Ex P a b l N K) := ⟨hc, he⟩
  have HPS : Hid (PS w s l) := hs
  obtain ⟨aa, g, cap, rfl, hg, hcl⟩ := hs
  obtain ⟨L, hL⟩ : ∃ L, l.length = L := ⟨_, rfl⟩
  have HL : Hid (l.length = L) := hL
  have HG : Hid (0 < L → aa = some ⟨g, 0, none⟩) := fun h => (hg (by omega)).1
  rw [hL] at hl HPS ⊢
  have HM0 : Hid (Cl w.heap.size (Gl P a b) 52 (w.alloc (.cells #[.int .i64 P, .int .i64 a, .int .i64 b] 52)) ∧ Below w.heap.size w (w.alloc (.cells #[.int .i64 P, .int .i64 a, .int .i64 b] 52))) := ⟨Cl.new (Gl P a b) _ w, ala _ _⟩
  have hn0 := he.n0
  clear hc he hg hcl hL
  unfold Gv
  go_enter Tryd.func34, Tryd.ntmps34
  go_wp2
  go_loopw [5, 10] (fun nv iv wx => ∃ i : Nat, i ≤ L ∧ nv = .int .i64 (N i) ∧ iv = .int .i64 i ∧ Hid (Cl w.heap.size (Gl P a b) 52 wx ∧ Below w.heap.size w wx)) (fun _ iv _ => L - (intOf iv).toNat)
  case atStart => exact ⟨0, by omega, by rw [hn0]; rfl, rfl, HM0.out⟩
  case round =>
    obtain ⟨i, hi, rfl, rfl, HM⟩ := hrel
    clear HM0
    by_cases hlt : i < L
    · obtain rfl := HG.out (by omega)
      have hil : i < l.length := by rw [HL.out]; exact hlt
      obtain ⟨q, hq⟩ : ∃ q, l.getD i farP = q := ⟨_, rfl⟩
      obtain ⟨aa', g', cap', e', h1', h2'⟩ := HPS.out.below HM.out.2
      rw [HL.out] at e' h1' h2'
      injection e' with e1 e2 e3
      rw [(h1' (by omega)).1] at e1
      injection e1 with e1
      injection e1 with e1
      subst e1
      have hcell := h2' i hlt
      rw [hq] at hcell
      obtain ⟨x0, x1, x2⟩ := hcell
      have hon := HC.out.2.on i hil
      have hod := HC.out.2.od i hil
      have hk6 := HC.out.2.k6 i hil
      have hst := HC.out.2.step i hil
      have hn1 := HC.out.2.n18 i (by omega)
      have hn2 := HC.out.2.n18 (i + 1) (by omega)
      rw [hq] at hon hod
      have HTm : Hid (∀ w, Calls Tryd.prog 32 #[Gv P a b, .int .i64 (N i), Pv q] w fun e w' => e = .returned (Pv (mz P a q (N i))) ∧ Below w.heap.size w w') := fun w => times_any P a b q (N i) w HC.out.1 hon (by omega)
      have HOr : Hid (∀ w, Calls Tryd.prog 33 #[Gv P a b, Pv (mz P a q (N i))] w fun e w' => e = .returned (.int .i64 (K i)) ∧ Below w.heap.size w w') := fun w => order_any P a b _ (K i) w HC.out.1 (mz_on HC.out.1 hon _) hod hk6
      obtain ⟨r, hr⟩ : ∃ r, mz P a q (N i) = r := ⟨_, rfl⟩
      rw [hr] at HTm HOr
      unfold Gv Pv at HTm HOr
      have hmul : (N i : Int) * (K i : Int) = ((N (i + 1) : Nat) : Int) := by rw [hst, Int.natCast_mul]
      obtain ⟨n, hn⟩ : ∃ n, N i = n := ⟨_, rfl⟩
      obtain ⟨k, hk⟩ : ∃ k, K i = k := ⟨_, rfl⟩
      obtain ⟨m, hm⟩ : ∃ m, N (i + 1) = m := ⟨_, rfl⟩
      rw [hn] at HTm hmul hn1 ⊢
      rw [hk] at HOr hmul hk6
      rw [hm] at hmul hn2
      have HN1 : Hid (N (i + 1) = m) := hm
      have C1 : Cl w.heap.size (Gl P a b) 52 (wr.alloc (.cells #[.int .i64 q.x, .int .i64 q.y, .bool q.far] 30)) := HM.out.1.alloc _
      have C2 : Cl wr.heap.size (Pl q) 30 (wr.alloc (.cells #[.int .i64 q.x, .int .i64 q.y, .bool q.far] 30)) := Cl.new (Pl q) _ wr
      have K1 : Below w.heap.size w (wr.alloc (.cells #[.int .i64 q.x, .int .i64 q.y, .bool q.far] 30)) := HM.out.2.alloc HM.out.2.size _
      clear hq hr hn hk hm hst hod hon h1' h2' e2 e3 HM
      go_wp2_with fail
      obtain ⟨W, hW⟩ : ∃ W, W = wr.alloc (.cells #[.int .i64 q.x, .int .i64 q.y, .bool q.far] 30) := ⟨_, rfl⟩
      rw [← hW] at C1 C2 K1 ⊢
      clear hW
      have hG := s6_of C1 C2
      refine wp_region_G (S6 w.heap.size wr.heap.size P a b q) 8 (by kernel_rfl) hG (fun hHeld => ?_)
      refine wpAnyG_take (i := 0) (v := ?v0) rfl (by kernel_rfl) (fun _ _ _ h => h) (Or.inl ⟨by rfl, ?y0⟩) hHeld ?r0
      case y0 => (intro wS hSw; obtain ⟨s1, s2, s3, s4, s5, s6⟩ := hSw; go_simp; try with_reducible rfl)
      try simp only [Act.put, List.setIfInBounds_toArray, List.set_cons_zero, List.set_cons_succ]
      refine wpAnyG_take (i := 1) (v := ?v1) rfl (by kernel_rfl) (fun _ _ _ h => h) (Or.inl ⟨by rfl, ?y1⟩) hHeld ?r1
      case y1 => (intro wS hSw; obtain ⟨s1, s2, s3, s4, s5, s6⟩ := hSw; go_simp; try with_reducible rfl)
      try simp only [Act.put, List.setIfInBounds_toArray, List.set_cons_zero, List.set_cons_succ]
      refine wpAnyG_take (i := 2) (v := ?v2) rfl (by kernel_rfl) (fun _ _ _ h => h) (Or.inl ⟨by rfl, ?y2⟩) hHeld ?r2
      case y2 => (intro wS hSw; obtain ⟨s1, s2, s3, s4, s5, s6⟩ := hSw; go_simp; try with_reducible rfl)
      try simp only [Act.put, List.setIfInBounds_toArray, List.set_cons_zero, List.set_cons_succ]
      refine wpAnyG_take (i := 3) (v := ?v3) rfl (by kernel_rfl) (fun _ _ _ h => h) (Or.inl ⟨by rfl, ?y3⟩) hHeld ?r3
      case y3 => (intro wS hSw; obtain ⟨s1, s2, s3, s4, s5, s6⟩ := hSw; go_simp; try with_reducible rfl)
      try simp only [Act.put, List.setIfInBounds_toArray, List.set_cons_zero, List.set_cons_succ]
      refine wpAnyG_take (i := 4) (v := ?v4) rfl (by kernel_rfl) (fun _ _ _ h => h) (Or.inl ⟨by rfl, ?y4⟩) hHeld ?r4
      case y4 => (intro wS hSw; obtain ⟨s1, s2, s3, s4, s5, s6⟩ := hSw; go_simp; try with_reducible rfl)
      try simp only [Act.put, List.setIfInBounds_toArray, List.set_cons_zero, List.set_cons_succ]
      refine wpAnyG_one (i := 5) rfl (by kernel_rfl) (fun K hK => ?_)
      go_simp
      refine (HTm.out _).mono ?_
      rintro e w1 ⟨rfl, k1⟩
      have k0 : Below W.heap.size W w1 := (Below.refl _ _).drew.trans k1
      have D1 := C1.below k0
      have D2 := C2.below k0
      have K2 : Below w.heap.size w w1 := K1.trans (k0.mono K1.size)
      have hG1 := s6_of D1 D2
      clear C1 C2 K1 k0 k1
      refine hK.out _ _ hG1 ?_
      clear hK K
      try simp only [Act.put, List.setIfInBounds_toArray, List.set_cons_zero, List.set_cons_succ]
      clear hHeld
      have hHeld := hG1
      refine wpAnyG_one (i := 6) rfl (by kernel_rfl) (fun K hK => ?_)
      go_simp
      refine (HOr.out _).mono ?_
      rintro e w2 ⟨rfl, k2⟩
      have E1 := D1.below k2
      have E2 := D2.below k2
      have K3 : Below w.heap.size w w2 := K2.trans (k2.mono K2.size)
      have hG2 := s6_of E1 E2
      have HF : Hid (Cl w.heap.size (Gl P a b) 52 w2 ∧ Below w.heap.size w w2) := ⟨E1, K3⟩
      clear D1 D2 K2 k2 E1 E2 K3
      refine hK.out _ _ hG2 ?_
      clear hK K
      try simp only [Act.put, List.setIfInBounds_toArray, List.set_cons_zero, List.set_cons_succ]
      clear hHeld hG1
      have hHeld := hG2
      refine wpAnyG_take (i := 7) (v := ?v7) rfl (by kernel_rfl) (fun _ _ _ h => h) (Or.inl ⟨by rfl, ?y7⟩) hHeld ?r7
      case y7 => (intro wS hSw; obtain ⟨s1, s2, s3, s4, s5, s6⟩ := hSw; go_simp; try with_reducible rfl)
      try simp only [Act.put, List.setIfInBounds_toArray, List.set_cons_zero, List.set_cons_succ]
      refine wpAnyG_last (i := 8) rfl (by kernel_rfl) (by kernel_rfl) (fun K hK => ?_)
      go_simp
      refine hK.out _ _ ?_
      clear hK K
      try simp only [Act.put, List.setIfInBounds_toArray, List.set_cons_zero, List.set_cons_succ]
      refine wpAnyG_done (by kernel_rfl) ?_ _
      clear hHeld hG2 hG x0 x1 x2
      have hw0 : IntKind.i64.wrap (m : Int) = (m : Int) := by rw [IntKind.wrap_i64]; omega
      simp only [hmul, hw0]
      clear hw0 hmul
      go_wp2
      go_roundw
      case rel => exact ⟨i + 1, by omega, by rw [HN1.out], by go_num, HF.out⟩
      case measure => simp [intOf]; omega
    · obtain rfl : L = i := by omega
      go_wp2
      go_ret
      exact ⟨rfl, HM.out.2⟩

end Go.Proofs.YtbeceimopamllaaDoor
