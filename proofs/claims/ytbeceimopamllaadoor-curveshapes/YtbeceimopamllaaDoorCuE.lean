/- The program: a curve's times. -/
import Derived.Test.YtbeceimopamllaaDoorCuD
import Derived.Test.YtbeceimopamllaaDoorJnB
set_option linter.unusedSimpArgs false
set_option linter.unusedVariables false
set_option maxRecDepth 100000
namespace Go.Proofs.YtbeceimopamllaaDoor
open Go.RowKit EC

/-- What times holds in memory: the curve, what was doubled, the sum so far. -/
structure Tt (h bb P : Nat) (a b : Int) (q s : Pn) (w W : World) : Prop where
  g : Cl h (Gl P a b) 52 W
  q : Cl (h + 1) (Pl q) 30 W
  o : Cl (h + 2) [.int .i64 0, .int .i64 0, .bool false] 30 W
  s : Cl bb (Pl s) 30 W
  ne : h + 2 < bb
  k : Below h w W
theorem Tt.below {h bb P : Nat} {a b : Int} {q s : Pn} {w W W' : World} (x : Tt h bb P a b q s w W) (c : Below W.heap.size W W') : Tt h bb P a b q s w W' :=
  ⟨x.g.below c, x.q.below c, x.o.below c, x.s.below c, x.ne, x.k.trans (c.mono (by have := x.g.lt; omega))⟩
theorem Tt.setS {h bb P : Nat} {a b : Int} {q s : Pn} {w W : World} (x : Tt h bb P a b q s w W) (t : Pn) :
    Tt h bb P a b q t w (((W.setCell ⟨bb, 0, none⟩ (.int .i64 t.x)).setCell ⟨bb, 1, none⟩ (.int .i64 t.y)).setCell ⟨bb, 2, none⟩ (.bool t.far)) := by
  have hn := x.ne
  refine ⟨?_, ?_, ?_, ((x.s.set 0 _).set 1 _).set 2 _, hn, ?_⟩
  · exact ((x.g.other (by show h ≠ bb; omega) _).other (by show h ≠ bb; omega) _).other (by show h ≠ bb; omega) _
  · exact ((x.q.other (by show h + 1 ≠ bb; omega) _).other (by show h + 1 ≠ bb; omega) _).other (by show h + 1 ≠ bb; omega) _
  · exact ((x.o.other (by show h + 2 ≠ bb; omega) _).other (by show h + 2 ≠ bb; omega) _).other (by show h + 2 ≠ bb; omega) _
  · exact ((x.k.setCell (by show h ≤ bb; omega) _).setCell (by show h ≤ bb; omega) _).setCell (by show h ≤ bb; omega) _
theorem Tt.setQ {h bb P : Nat} {a b : Int} {q s : Pn} {w W : World} (x : Tt h bb P a b q s w W) (t : Pn) :
    Tt h bb P a b t s w (((W.setCell ⟨h + 1, 0, none⟩ (.int .i64 t.x)).setCell ⟨h + 1, 1, none⟩ (.int .i64 t.y)).setCell ⟨h + 1, 2, none⟩ (.bool t.far)) := by
  have hn := x.ne
  refine ⟨?_, ((x.q.set 0 _).set 1 _).set 2 _, ?_, ?_, hn, ?_⟩
  · exact ((x.g.other (by show h ≠ h + 1; omega) _).other (by show h ≠ h + 1; omega) _).other (by show h ≠ h + 1; omega) _
  · exact ((x.o.other (by show h + 2 ≠ h + 1; omega) _).other (by show h + 2 ≠ h + 1; omega) _).other (by show h + 2 ≠ h + 1; omega) _
  · exact ((x.s.other (by show bb ≠ h + 1; omega) _).other (by show bb ≠ h + 1; omega) _).other (by show bb ≠ h + 1; omega) _
  · exact ((x.k.setCell (by show h ≤ h + 1; omega) _).setCell (by show h ≤ h + 1; omega) _).setCell (by show h ≤ h + 1; omega) _

theorem bit_step (N i : Nat) : N % 2 ^ (i + 1) = N % 2 ^ i + N / 2 ^ i % 2 * 2 ^ i := by
  rw [Nat.pow_succ, Nat.mod_mul, Nat.mul_comm (2 ^ i)]

set_option maxHeartbeats 2000000 in
theorem times_pos (P : Nat) (a b : Int) (q : Pn) (N : Nat) (w : World) (hc : Cv P a b) (hq : On P a b q) (hN : N ≤ 1000000000000000000) :
    Calls Tryd.prog 32 #[Gv P a b, .int .i64 N, Pv q] w fun e w' => e = .returned (Pv (mu P a q N)) ∧ Below w.heap.size w w' := by
  haveI := hc.nz
  have HC : Hid (Cv P a b ∧ On P a b q) := ⟨hc, hq⟩
  obtain ⟨L, hL⟩ : ∃ L, Lib.bitLen N = L := ⟨_, rfl⟩
  have hL64 : L ≤ 64 := by rw [← hL]; exact Lib.bitLen_le N 64 (by omega) (by omega)
  have HNL : Hid (N < 2 ^ L) := by show N < 2 ^ L; rw [← hL]; exact (bl_spec N (by omega)).1
  have HLn : Hid (∀ w, Calls Tryd.prog 47 #[.int .u64 N] w fun e w' => e = .returned (.int .i64 L) ∧ w' = w) := by
    intro w
    have := Len64_int N w (by omega) (by omega)
    rw [Int.toNat_natCast, hL] at this
    exact this
  have hN0 : decide ((N : Int) < 0) = false := decide_eq_false (by omega)
  have HT0 : Hid (Tt w.heap.size (w.heap.size + 3) P a b (mu P a q (2 ^ 0)) (mu P a q (N % 2 ^ 0)) w ((((w.alloc (.cells #[.int .i64 P, .int .i64 a, .int .i64 b] 52)).alloc (.cells #[.int .i64 q.x, .int .i64 q.y, .bool q.far] 30)).alloc (.cells #[.int .i64 0, .int .i64 0, .bool false] 30)).alloc (.cells #[.int .i64 0, .int .i64 0, .bool true] 30))) := by
    show Tt _ _ _ _ _ _ _ _ _
    rw [Nat.pow_zero, mu_one, Nat.mod_one]
    exact ⟨(((Cl.new (Gl P a b) _ w).alloc _).alloc _).alloc _, ((cnew _ (Pl q) _ _ (by simp)).alloc _).alloc _, (cnew _ [.int .i64 0, .int .i64 0, .bool false] _ _ (by simp)).alloc _, cnew _ (Pl farP) _ _ (by simp), by omega, al4 _ _ _ _ _⟩
  obtain ⟨s, hs⟩ : ∃ s, mu P a q N = s := ⟨_, rfl⟩
  have HFin : Hid (mu P a q N = s) := hs
  rw [hs]
  clear hc hq hL hs
  unfold Gv Pv
  go_enter Tryd.func32, Tryd.ntmps32
  go_wp2_with fail
  refine (HLn.out _).mono ?_
  rintro e w1 ⟨rfl, hw1⟩
  rw [hw1]
  clear hw1 w1
  go_wp2
  go_loopw [20] (fun iv wx => ∃ i : Nat, i ≤ L ∧ iv = .int .i64 i ∧ Hid (Tt w.heap.size (w.heap.size + 3) P a b (mu P a q (2 ^ i)) (mu P a q (N % 2 ^ i)) w wx)) (fun iv _ => L - (intOf iv).toNat)
  case atStart => exact ⟨0, by omega, rfl, HT0.out⟩
  case round =>
    obtain ⟨i, hi, rfl, HO⟩ := hrel
    clear HT0
    by_cases hlt : i < L
    · have hi0 : decide ((i : Int) < 0) = false := decide_eq_false (by omega)
      have HA2 : Hid (∀ w, Calls Tryd.prog 29 #[Gv P a b, Pv (mu P a q (2 ^ i)), Pv (mu P a q (2 ^ i))] w fun e w' => e = .returned (Pv (mu P a q (2 ^ (i + 1)))) ∧ Below w.heap.size w w') := fun w => by
        have := cadd_any P a b _ _ w HC.out.1 (mu_on HC.out.1 HC.out.2 (2 ^ i)) (mu_on HC.out.1 HC.out.2 (2 ^ i))
        rw [← mu_add HC.out.1 HC.out.2, show 2 ^ i + 2 ^ i = 2 ^ (i + 1) by rw [Nat.pow_succ]; omega] at this
        exact this
      have HA1 : Hid (N / 2 ^ i % 2 = 1 → ∀ w, Calls Tryd.prog 29 #[Gv P a b, Pv (mu P a q (N % 2 ^ i)), Pv (mu P a q (2 ^ i))] w fun e w' => e = .returned (Pv (mu P a q (N % 2 ^ (i + 1)))) ∧ Below w.heap.size w w') := fun h w => by
        have := cadd_any P a b _ _ w HC.out.1 (mu_on HC.out.1 HC.out.2 (N % 2 ^ i)) (mu_on HC.out.1 HC.out.2 (2 ^ i))
        rw [← mu_add HC.out.1 HC.out.2, show N % 2 ^ i + 2 ^ i = N % 2 ^ (i + 1) by rw [bit_step, h]; omega] at this
        exact this
      have HE : Hid (N / 2 ^ i % 2 = 0 → mu P a q (N % 2 ^ (i + 1)) = mu P a q (N % 2 ^ i)) := fun h => by rw [bit_step, h]; simp
      obtain ⟨c, hc⟩ : ∃ c, mu P a q (2 ^ i) = c := ⟨_, rfl⟩
      obtain ⟨c', hc'⟩ : ∃ c, mu P a q (2 ^ (i + 1)) = c := ⟨_, rfl⟩
      obtain ⟨z, hs⟩ : ∃ c, mu P a q (N % 2 ^ i) = c := ⟨_, rfl⟩
      obtain ⟨s', hs'⟩ : ∃ c, mu P a q (N % 2 ^ (i + 1)) = c := ⟨_, rfl⟩
      have HN1 : Hid (mu P a q (2 ^ (i + 1)) = c' ∧ mu P a q (N % 2 ^ (i + 1)) = s') := ⟨hc', hs'⟩
      rw [hc] at HO HA2 HA1
      rw [hc'] at HA2
      rw [hs] at HO HA1 HE
      rw [hs'] at HA1 HE
      clear hc hc' hs hs'
      have hbit : N / 2 ^ i % 2 = 0 ∨ N / 2 ^ i % 2 = 1 := by omega
      have g0 : wr.cell? ⟨w.heap.size, 0, none⟩ = some (.int .i64 P) := HO.out.g.cell 0
      have g1 : wr.cell? ⟨w.heap.size, 1, none⟩ = some (.int .i64 a) := HO.out.g.cell 1
      have g2 : wr.cell? ⟨w.heap.size, 2, none⟩ = some (.int .i64 b) := HO.out.g.cell 2
      have q0 : wr.cell? ⟨w.heap.size + 1, 0, none⟩ = some (.int .i64 c.x) := HO.out.q.cell 0
      have q1 : wr.cell? ⟨w.heap.size + 1, 1, none⟩ = some (.int .i64 c.y) := HO.out.q.cell 1
      have q2 : wr.cell? ⟨w.heap.size + 1, 2, none⟩ = some (.bool c.far) := HO.out.q.cell 2
      have s0 : wr.cell? ⟨(w.heap.size + 3), 0, none⟩ = some (.int .i64 z.x) := HO.out.s.cell 0
      have s1 : wr.cell? ⟨(w.heap.size + 3), 1, none⟩ = some (.int .i64 z.y) := HO.out.s.cell 1
      have s2 : wr.cell? ⟨(w.heap.size + 3), 2, none⟩ = some (.bool z.far) := HO.out.s.cell 2
      unfold Gv Pv at HA1 HA2
      rcases hbit with hbit | hbit
      · have hb := bit_i64 N i 0 (by omega) hbit
        obtain rfl := HE.out hbit
        clear HE HA1 hbit
        go_wp2_with fail
        refine (HA2.out _).mono ?_
        rintro e w4 ⟨rfl, k4⟩
        have F := HO.out.below k4
        clear g0 g1 g2 q0 q1 q2
        have q0 : w4.cell? ⟨w.heap.size + 1, 0, none⟩ = some (.int .i64 c.x) := F.q.cell 0
        have q1 : w4.cell? ⟨w.heap.size + 1, 1, none⟩ = some (.int .i64 c.y) := F.q.cell 1
        have q2 : w4.cell? ⟨w.heap.size + 1, 2, none⟩ = some (.bool c.far) := F.q.cell 2
        have f0 := F.q.frozen 0
        have f1 := F.q.frozen 1
        have f2 := F.q.frozen 2
        have HF : Hid (Tt w.heap.size (w.heap.size + 3) P a b c _ w w4) := F
        clear F k4 HA2 HO
        go_wp2
        go_roundw
        case rel => exact ⟨i + 1, by omega, by go_num, by rw [HN1.out.1, HN1.out.2]; exact HF.out.setQ c'⟩
        case measure => simp [intOf]; omega
      · have hb := bit_i64 N i 1 (by omega) hbit
        have HA1' := HA1.out hbit
        have HA1 : Hid _ := HA1'
        clear HE hbit HA1'
        go_wp2_with fail
        refine (HA1.out _).mono ?_
        rintro e w3 ⟨rfl, k3⟩
        have E := HO.out.below k3
        clear g0 g1 g2 q0 q1 q2 s0 s1 s2
        have s0 : w3.cell? ⟨(w.heap.size + 3), 0, none⟩ = some (.int .i64 z.x) := E.s.cell 0
        have s1 : w3.cell? ⟨(w.heap.size + 3), 1, none⟩ = some (.int .i64 z.y) := E.s.cell 1
        have s2 : w3.cell? ⟨(w.heap.size + 3), 2, none⟩ = some (.bool z.far) := E.s.cell 2
        have f0 := E.s.frozen 0
        have f1 := E.s.frozen 1
        have f2 := E.s.frozen 2
        have E1 := E.setS s'
        have g0 : (((w3.setCell ⟨(w.heap.size + 3), 0, none⟩ (.int .i64 s'.x)).setCell ⟨(w.heap.size + 3), 1, none⟩ (.int .i64 s'.y)).setCell ⟨(w.heap.size + 3), 2, none⟩ (.bool s'.far)).cell? ⟨w.heap.size, 0, none⟩ = some (.int .i64 P) := E1.g.cell 0
        have g1 : (((w3.setCell ⟨(w.heap.size + 3), 0, none⟩ (.int .i64 s'.x)).setCell ⟨(w.heap.size + 3), 1, none⟩ (.int .i64 s'.y)).setCell ⟨(w.heap.size + 3), 2, none⟩ (.bool s'.far)).cell? ⟨w.heap.size, 1, none⟩ = some (.int .i64 a) := E1.g.cell 1
        have g2 : (((w3.setCell ⟨(w.heap.size + 3), 0, none⟩ (.int .i64 s'.x)).setCell ⟨(w.heap.size + 3), 1, none⟩ (.int .i64 s'.y)).setCell ⟨(w.heap.size + 3), 2, none⟩ (.bool s'.far)).cell? ⟨w.heap.size, 2, none⟩ = some (.int .i64 b) := E1.g.cell 2
        have q0 : (((w3.setCell ⟨(w.heap.size + 3), 0, none⟩ (.int .i64 s'.x)).setCell ⟨(w.heap.size + 3), 1, none⟩ (.int .i64 s'.y)).setCell ⟨(w.heap.size + 3), 2, none⟩ (.bool s'.far)).cell? ⟨w.heap.size + 1, 0, none⟩ = some (.int .i64 c.x) := E1.q.cell 0
        have q1 : (((w3.setCell ⟨(w.heap.size + 3), 0, none⟩ (.int .i64 s'.x)).setCell ⟨(w.heap.size + 3), 1, none⟩ (.int .i64 s'.y)).setCell ⟨(w.heap.size + 3), 2, none⟩ (.bool s'.far)).cell? ⟨w.heap.size + 1, 1, none⟩ = some (.int .i64 c.y) := E1.q.cell 1
        have q2 : (((w3.setCell ⟨(w.heap.size + 3), 0, none⟩ (.int .i64 s'.x)).setCell ⟨(w.heap.size + 3), 1, none⟩ (.int .i64 s'.y)).setCell ⟨(w.heap.size + 3), 2, none⟩ (.bool s'.far)).cell? ⟨w.heap.size + 1, 2, none⟩ = some (.bool c.far) := E1.q.cell 2
        have HE1 : Hid (Tt w.heap.size (w.heap.size + 3) P a b c s' w (((w3.setCell ⟨(w.heap.size + 3), 0, none⟩ (.int .i64 s'.x)).setCell ⟨(w.heap.size + 3), 1, none⟩ (.int .i64 s'.y)).setCell ⟨(w.heap.size + 3), 2, none⟩ (.bool s'.far))) := E1
        clear E E1 k3 HA1
        go_wp2_with fail
        refine (HA2.out _).mono ?_
        rintro e w4 ⟨rfl, k4⟩
        have F := HE1.out.below k4
        clear s0 s1 s2 f0 f1 f2 HE1
        clear g0 g1 g2 q0 q1 q2
        have q0 : w4.cell? ⟨w.heap.size + 1, 0, none⟩ = some (.int .i64 c.x) := F.q.cell 0
        have q1 : w4.cell? ⟨w.heap.size + 1, 1, none⟩ = some (.int .i64 c.y) := F.q.cell 1
        have q2 : w4.cell? ⟨w.heap.size + 1, 2, none⟩ = some (.bool c.far) := F.q.cell 2
        have f0 := F.q.frozen 0
        have f1 := F.q.frozen 1
        have f2 := F.q.frozen 2
        have HF : Hid (Tt w.heap.size (w.heap.size + 3) P a b c _ w w4) := F
        clear F k4 HA2 HO
        go_wp2
        go_roundw
        case rel => exact ⟨i + 1, by omega, by go_num, by rw [HN1.out.1, HN1.out.2]; exact HF.out.setQ c'⟩
        case measure => simp [intOf]; omega
    · obtain rfl : i = L := by omega
      have hfin : mu P a q (N % 2 ^ i) = s := by rw [Nat.mod_eq_of_lt HNL.out]; exact HFin.out
      rw [hfin] at HO
      clear hfin
      have s0 : wr.cell? ⟨(w.heap.size + 3), 0, none⟩ = some (.int .i64 s.x) := HO.out.s.cell 0
      have s1 : wr.cell? ⟨(w.heap.size + 3), 1, none⟩ = some (.int .i64 s.y) := HO.out.s.cell 1
      have s2 : wr.cell? ⟨(w.heap.size + 3), 2, none⟩ = some (.bool s.far) := HO.out.s.cell 2
      have o0 : wr.cell? ⟨w.heap.size + 2, 0, none⟩ = some (.int .i64 0) := HO.out.o.cell 0
      have o1 : wr.cell? ⟨w.heap.size + 2, 1, none⟩ = some (.int .i64 0) := HO.out.o.cell 1
      have o2 : wr.cell? ⟨w.heap.size + 2, 2, none⟩ = some (.bool false) := HO.out.o.cell 2
      have f0 := HO.out.o.frozen 0
      have f1 := HO.out.o.frozen 1
      have f2 := HO.out.o.frozen 2
      go_wp2
      have Z := ((HO.out.o.set 0 (.int .i64 s.x)).set 1 (.int .i64 s.y)).set 2 (.bool s.far)
      have z0 := Z.cell 0
      have z1 := Z.cell 1
      have z2 := Z.cell 2
      simp at z0 z1 z2
      refine bodyPost_ret (v := .agg #[.int .i64 s.x, .int .i64 s.y, .bool s.far]) (by simp [results, Tryd.results32, go_sem, z0, z1, z2]) rfl ⟨rfl, ?_⟩
      exact ((HO.out.k.setCell (by simp; omega) _).setCell (by simp; omega) _).setCell (by simp; omega) _

theorem mu_negs (P : Nat) (a : Int) (q : Pn) (N : Nat) (h : 0 < N) : mz P a q (-(N : Int)) = mu P a (pneg P q) N := by
  unfold mz
  rw [if_neg (by omega)]
  congr 1
  omega

set_option maxHeartbeats 2000000 in
theorem times_neg (P : Nat) (a b : Int) (q : Pn) (N : Nat) (w : World) (hc : Cv P a b) (hq : On P a b q) (hN0 : 0 < N) (hN : N ≤ 1000000000000000000) :
    Calls Tryd.prog 32 #[Gv P a b, .int .i64 (-(N : Int)), Pv q] w fun e w' => e = .returned (Pv (mu P a (pneg P q) N)) ∧ Below w.heap.size w w' := by
  haveI := hc.nz
  have HOp : Hid (∀ w, Calls Tryd.prog 46 #[Gv P a b, Pv q] w fun e w' => e = .returned (Pv (pneg P q)) ∧ Below w.heap.size w w') := fun w => opposite_any P a b q w hc hq
  have HC : Hid (Cv P a b ∧ On P a b (pneg P q)) := ⟨hc, pneg_on hc hq⟩
  obtain ⟨r, hr⟩ : ∃ r, pneg P q = r := ⟨_, rfl⟩
  rw [hr] at HC HOp ⊢
  obtain ⟨L, hL⟩ : ∃ L, Lib.bitLen N = L := ⟨_, rfl⟩
  have hL64 : L ≤ 64 := by rw [← hL]; exact Lib.bitLen_le N 64 (by omega) (by omega)
  have HNL : Hid (N < 2 ^ L) := by show N < 2 ^ L; rw [← hL]; exact (bl_spec N (by omega)).1
  have HLn : Hid (∀ w, Calls Tryd.prog 47 #[.int .u64 N] w fun e w' => e = .returned (.int .i64 L) ∧ w' = w) := by
    intro w
    have := Len64_int N w (by omega) (by omega)
    rw [Int.toNat_natCast, hL] at this
    exact this
  have hNb : decide (-(N : Int) < 0) = true := decide_eq_true (by omega)
  have hNb2 : decide (0 < N) = true := decide_eq_true (by omega)
  have C0 : Cl w.heap.size (Gl P a b) 52 (((w.alloc (.cells #[.int .i64 P, .int .i64 a, .int .i64 b] 52)).alloc (.cells #[.int .i64 q.x, .int .i64 q.y, .bool q.far] 30)).alloc (.cells #[.int .i64 0, .int .i64 0, .bool false] 30)) := ((Cl.new (Gl P a b) _ w).alloc _).alloc _
  have C1 : Cl (w.heap.size + 1) (Pl q) 30 (((w.alloc (.cells #[.int .i64 P, .int .i64 a, .int .i64 b] 52)).alloc (.cells #[.int .i64 q.x, .int .i64 q.y, .bool q.far] 30)).alloc (.cells #[.int .i64 0, .int .i64 0, .bool false] 30)) := (cnew _ (Pl q) _ _ (by simp)).alloc _
  have C2 : Cl (w.heap.size + 2) [.int .i64 0, .int .i64 0, .bool false] 30 (((w.alloc (.cells #[.int .i64 P, .int .i64 a, .int .i64 b] 52)).alloc (.cells #[.int .i64 q.x, .int .i64 q.y, .bool q.far] 30)).alloc (.cells #[.int .i64 0, .int .i64 0, .bool false] 30)) := cnew _ [.int .i64 0, .int .i64 0, .bool false] _ _ (by simp)
  have K0 := al3 w (.cells #[.int .i64 P, .int .i64 a, .int .i64 b] 52) (.cells #[.int .i64 q.x, .int .i64 q.y, .bool q.far] 30) (.cells #[.int .i64 0, .int .i64 0, .bool false] 30)
  obtain ⟨s, hs⟩ : ∃ s, mu P a r N = s := ⟨_, rfl⟩
  have HFin : Hid (mu P a r N = s) := hs
  rw [hs]
  clear hc hq hL hr hs
  unfold Gv Pv
  unfold Gv Pv at HOp
  go_enter Tryd.func32, Tryd.ntmps32
  go_wp2_with fail
  refine (HOp.out _).mono ?_
  rintro e w1 ⟨rfl, k1⟩
  have D0 := C0.below k1
  have D1 := C1.below k1
  have D2 := C2.below k1
  have K1 : Below w.heap.size w w1 := K0.trans (k1.mono K0.size)
  have q0 : w1.cell? ⟨w.heap.size + 1, 0, none⟩ = some (.int .i64 q.x) := D1.cell 0
  have q1 : w1.cell? ⟨w.heap.size + 1, 1, none⟩ = some (.int .i64 q.y) := D1.cell 1
  have q2 : w1.cell? ⟨w.heap.size + 1, 2, none⟩ = some (.bool q.far) := D1.cell 2
  have f0 := D1.frozen 0
  have f1 := D1.frozen 1
  have f2 := D1.frozen 2
  have HT0 : Hid (Tt w.heap.size w1.heap.size P a b (mu P a r (2 ^ 0)) (mu P a r (N % 2 ^ 0)) w ((((w1.setCell ⟨w.heap.size + 1, 0, none⟩ (.int .i64 r.x)).setCell ⟨w.heap.size + 1, 1, none⟩ (.int .i64 r.y)).setCell ⟨w.heap.size + 1, 2, none⟩ (.bool r.far)).alloc (.cells #[.int .i64 0, .int .i64 0, .bool true] 30))) := by
    show Tt _ _ _ _ _ _ _ _ _
    rw [Nat.pow_zero, mu_one, Nat.mod_one]
    refine ⟨?_, (((D1.set 0 _).set 1 _).set 2 _).alloc _, ?_, cnew _ (Pl farP) _ _ (by simp), D2.lt, ?_⟩
    · exact (((D0.other (by show w.heap.size ≠ w.heap.size + 1; omega) _).other (by show w.heap.size ≠ w.heap.size + 1; omega) _).other (by show w.heap.size ≠ w.heap.size + 1; omega) _).alloc _
    · exact (((D2.other (by show w.heap.size + 2 ≠ w.heap.size + 1; omega) _).other (by show w.heap.size + 2 ≠ w.heap.size + 1; omega) _).other (by show w.heap.size + 2 ≠ w.heap.size + 1; omega) _).alloc _
    · exact (((K1.setCell (by show w.heap.size ≤ w.heap.size + 1; omega) _).setCell (by show w.heap.size ≤ w.heap.size + 1; omega) _).setCell (by show w.heap.size ≤ w.heap.size + 1; omega) _).alloc (by have := D0.lt; simp; omega) _
  clear C0 C1 C2 K0 D0 D1 D2 K1 k1 HOp
  go_wp2_with fail
  refine (HLn.out _).mono ?_
  rintro e w2 ⟨rfl, hw2⟩
  rw [hw2]
  clear hw2 w2 q0 q1 q2 f0 f1 f2
  go_wp2
  go_loopw [20] (fun iv wx => ∃ i : Nat, i ≤ L ∧ iv = .int .i64 i ∧ Hid (Tt w.heap.size w1.heap.size P a b (mu P a r (2 ^ i)) (mu P a r (N % 2 ^ i)) w wx)) (fun iv _ => L - (intOf iv).toNat)
  case atStart => exact ⟨0, by omega, rfl, HT0.out⟩
  case round =>
    obtain ⟨i, hi, rfl, HO⟩ := hrel
    clear HT0
    by_cases hlt : i < L
    · have hi0 : decide ((i : Int) < 0) = false := decide_eq_false (by omega)
      have HA2 : Hid (∀ w, Calls Tryd.prog 29 #[Gv P a b, Pv (mu P a r (2 ^ i)), Pv (mu P a r (2 ^ i))] w fun e w' => e = .returned (Pv (mu P a r (2 ^ (i + 1)))) ∧ Below w.heap.size w w') := fun w => by
        have := cadd_any P a b _ _ w HC.out.1 (mu_on HC.out.1 HC.out.2 (2 ^ i)) (mu_on HC.out.1 HC.out.2 (2 ^ i))
        rw [← mu_add HC.out.1 HC.out.2, show 2 ^ i + 2 ^ i = 2 ^ (i + 1) by rw [Nat.pow_succ]; omega] at this
        exact this
      have HA1 : Hid (N / 2 ^ i % 2 = 1 → ∀ w, Calls Tryd.prog 29 #[Gv P a b, Pv (mu P a r (N % 2 ^ i)), Pv (mu P a r (2 ^ i))] w fun e w' => e = .returned (Pv (mu P a r (N % 2 ^ (i + 1)))) ∧ Below w.heap.size w w') := fun h w => by
        have := cadd_any P a b _ _ w HC.out.1 (mu_on HC.out.1 HC.out.2 (N % 2 ^ i)) (mu_on HC.out.1 HC.out.2 (2 ^ i))
        rw [← mu_add HC.out.1 HC.out.2, show N % 2 ^ i + 2 ^ i = N % 2 ^ (i + 1) by rw [bit_step, h]; omega] at this
        exact this
      have HE : Hid (N / 2 ^ i % 2 = 0 → mu P a r (N % 2 ^ (i + 1)) = mu P a r (N % 2 ^ i)) := fun h => by rw [bit_step, h]; simp
      obtain ⟨c, hc⟩ : ∃ c, mu P a r (2 ^ i) = c := ⟨_, rfl⟩
      obtain ⟨c', hc'⟩ : ∃ c, mu P a r (2 ^ (i + 1)) = c := ⟨_, rfl⟩
      obtain ⟨z, hs⟩ : ∃ c, mu P a r (N % 2 ^ i) = c := ⟨_, rfl⟩
      obtain ⟨s', hs'⟩ : ∃ c, mu P a r (N % 2 ^ (i + 1)) = c := ⟨_, rfl⟩
      have HN1 : Hid (mu P a r (2 ^ (i + 1)) = c' ∧ mu P a r (N % 2 ^ (i + 1)) = s') := ⟨hc', hs'⟩
      rw [hc] at HO HA2 HA1
      rw [hc'] at HA2
      rw [hs] at HO HA1 HE
      rw [hs'] at HA1 HE
      clear hc hc' hs hs'
      have hbit : N / 2 ^ i % 2 = 0 ∨ N / 2 ^ i % 2 = 1 := by omega
      have g0 : wr.cell? ⟨w.heap.size, 0, none⟩ = some (.int .i64 P) := HO.out.g.cell 0
      have g1 : wr.cell? ⟨w.heap.size, 1, none⟩ = some (.int .i64 a) := HO.out.g.cell 1
      have g2 : wr.cell? ⟨w.heap.size, 2, none⟩ = some (.int .i64 b) := HO.out.g.cell 2
      have q0 : wr.cell? ⟨w.heap.size + 1, 0, none⟩ = some (.int .i64 c.x) := HO.out.q.cell 0
      have q1 : wr.cell? ⟨w.heap.size + 1, 1, none⟩ = some (.int .i64 c.y) := HO.out.q.cell 1
      have q2 : wr.cell? ⟨w.heap.size + 1, 2, none⟩ = some (.bool c.far) := HO.out.q.cell 2
      have s0 : wr.cell? ⟨w1.heap.size, 0, none⟩ = some (.int .i64 z.x) := HO.out.s.cell 0
      have s1 : wr.cell? ⟨w1.heap.size, 1, none⟩ = some (.int .i64 z.y) := HO.out.s.cell 1
      have s2 : wr.cell? ⟨w1.heap.size, 2, none⟩ = some (.bool z.far) := HO.out.s.cell 2
      unfold Gv Pv at HA1 HA2
      rcases hbit with hbit | hbit
      · have hb := bit_i64 N i 0 (by omega) hbit
        obtain rfl := HE.out hbit
        clear HE HA1 hbit
        go_wp2_with fail
        refine (HA2.out _).mono ?_
        rintro e w4 ⟨rfl, k4⟩
        have F := HO.out.below k4
        clear g0 g1 g2 q0 q1 q2
        have q0 : w4.cell? ⟨w.heap.size + 1, 0, none⟩ = some (.int .i64 c.x) := F.q.cell 0
        have q1 : w4.cell? ⟨w.heap.size + 1, 1, none⟩ = some (.int .i64 c.y) := F.q.cell 1
        have q2 : w4.cell? ⟨w.heap.size + 1, 2, none⟩ = some (.bool c.far) := F.q.cell 2
        have f0 := F.q.frozen 0
        have f1 := F.q.frozen 1
        have f2 := F.q.frozen 2
        have HF : Hid (Tt w.heap.size w1.heap.size P a b c _ w w4) := F
        clear F k4 HA2 HO
        go_wp2
        go_roundw
        case rel => exact ⟨i + 1, by omega, by go_num, by rw [HN1.out.1, HN1.out.2]; exact HF.out.setQ c'⟩
        case measure => simp [intOf]; omega
      · have hb := bit_i64 N i 1 (by omega) hbit
        have HA1' := HA1.out hbit
        have HA1 : Hid _ := HA1'
        clear HE hbit HA1'
        go_wp2_with fail
        refine (HA1.out _).mono ?_
        rintro e w3 ⟨rfl, k3⟩
        have E := HO.out.below k3
        clear g0 g1 g2 q0 q1 q2 s0 s1 s2
        have s0 : w3.cell? ⟨w1.heap.size, 0, none⟩ = some (.int .i64 z.x) := E.s.cell 0
        have s1 : w3.cell? ⟨w1.heap.size, 1, none⟩ = some (.int .i64 z.y) := E.s.cell 1
        have s2 : w3.cell? ⟨w1.heap.size, 2, none⟩ = some (.bool z.far) := E.s.cell 2
        have f0 := E.s.frozen 0
        have f1 := E.s.frozen 1
        have f2 := E.s.frozen 2
        have E1 := E.setS s'
        have g0 : (((w3.setCell ⟨w1.heap.size, 0, none⟩ (.int .i64 s'.x)).setCell ⟨w1.heap.size, 1, none⟩ (.int .i64 s'.y)).setCell ⟨w1.heap.size, 2, none⟩ (.bool s'.far)).cell? ⟨w.heap.size, 0, none⟩ = some (.int .i64 P) := E1.g.cell 0
        have g1 : (((w3.setCell ⟨w1.heap.size, 0, none⟩ (.int .i64 s'.x)).setCell ⟨w1.heap.size, 1, none⟩ (.int .i64 s'.y)).setCell ⟨w1.heap.size, 2, none⟩ (.bool s'.far)).cell? ⟨w.heap.size, 1, none⟩ = some (.int .i64 a) := E1.g.cell 1
        have g2 : (((w3.setCell ⟨w1.heap.size, 0, none⟩ (.int .i64 s'.x)).setCell ⟨w1.heap.size, 1, none⟩ (.int .i64 s'.y)).setCell ⟨w1.heap.size, 2, none⟩ (.bool s'.far)).cell? ⟨w.heap.size, 2, none⟩ = some (.int .i64 b) := E1.g.cell 2
        have q0 : (((w3.setCell ⟨w1.heap.size, 0, none⟩ (.int .i64 s'.x)).setCell ⟨w1.heap.size, 1, none⟩ (.int .i64 s'.y)).setCell ⟨w1.heap.size, 2, none⟩ (.bool s'.far)).cell? ⟨w.heap.size + 1, 0, none⟩ = some (.int .i64 c.x) := E1.q.cell 0
        have q1 : (((w3.setCell ⟨w1.heap.size, 0, none⟩ (.int .i64 s'.x)).setCell ⟨w1.heap.size, 1, none⟩ (.int .i64 s'.y)).setCell ⟨w1.heap.size, 2, none⟩ (.bool s'.far)).cell? ⟨w.heap.size + 1, 1, none⟩ = some (.int .i64 c.y) := E1.q.cell 1
        have q2 : (((w3.setCell ⟨w1.heap.size, 0, none⟩ (.int .i64 s'.x)).setCell ⟨w1.heap.size, 1, none⟩ (.int .i64 s'.y)).setCell ⟨w1.heap.size, 2, none⟩ (.bool s'.far)).cell? ⟨w.heap.size + 1, 2, none⟩ = some (.bool c.far) := E1.q.cell 2
        have HE1 : Hid (Tt w.heap.size w1.heap.size P a b c s' w (((w3.setCell ⟨w1.heap.size, 0, none⟩ (.int .i64 s'.x)).setCell ⟨w1.heap.size, 1, none⟩ (.int .i64 s'.y)).setCell ⟨w1.heap.size, 2, none⟩ (.bool s'.far))) := E1
        clear E E1 k3 HA1
        go_wp2_with fail
        refine (HA2.out _).mono ?_
        rintro e w4 ⟨rfl, k4⟩
        have F := HE1.out.below k4
        clear s0 s1 s2 f0 f1 f2 HE1
        clear g0 g1 g2 q0 q1 q2
        have q0 : w4.cell? ⟨w.heap.size + 1, 0, none⟩ = some (.int .i64 c.x) := F.q.cell 0
        have q1 : w4.cell? ⟨w.heap.size + 1, 1, none⟩ = some (.int .i64 c.y) := F.q.cell 1
        have q2 : w4.cell? ⟨w.heap.size + 1, 2, none⟩ = some (.bool c.far) := F.q.cell 2
        have f0 := F.q.frozen 0
        have f1 := F.q.frozen 1
        have f2 := F.q.frozen 2
        have HF : Hid (Tt w.heap.size w1.heap.size P a b c _ w w4) := F
        clear F k4 HA2 HO
        go_wp2
        go_roundw
        case rel => exact ⟨i + 1, by omega, by go_num, by rw [HN1.out.1, HN1.out.2]; exact HF.out.setQ c'⟩
        case measure => simp [intOf]; omega
    · obtain rfl : i = L := by omega
      have hfin : mu P a r (N % 2 ^ i) = s := by rw [Nat.mod_eq_of_lt HNL.out]; exact HFin.out
      rw [hfin] at HO
      clear hfin
      have s0 : wr.cell? ⟨w1.heap.size, 0, none⟩ = some (.int .i64 s.x) := HO.out.s.cell 0
      have s1 : wr.cell? ⟨w1.heap.size, 1, none⟩ = some (.int .i64 s.y) := HO.out.s.cell 1
      have s2 : wr.cell? ⟨w1.heap.size, 2, none⟩ = some (.bool s.far) := HO.out.s.cell 2
      have o0 : wr.cell? ⟨w.heap.size + 2, 0, none⟩ = some (.int .i64 0) := HO.out.o.cell 0
      have o1 : wr.cell? ⟨w.heap.size + 2, 1, none⟩ = some (.int .i64 0) := HO.out.o.cell 1
      have o2 : wr.cell? ⟨w.heap.size + 2, 2, none⟩ = some (.bool false) := HO.out.o.cell 2
      have f0 := HO.out.o.frozen 0
      have f1 := HO.out.o.frozen 1
      have f2 := HO.out.o.frozen 2
      go_wp2
      have Z := ((HO.out.o.set 0 (.int .i64 s.x)).set 1 (.int .i64 s.y)).set 2 (.bool s.far)
      have z0 := Z.cell 0
      have z1 := Z.cell 1
      have z2 := Z.cell 2
      simp at z0 z1 z2
      refine bodyPost_ret (v := .agg #[.int .i64 s.x, .int .i64 s.y, .bool s.far]) (by simp [results, Tryd.results32, go_sem, z0, z1, z2]) rfl ⟨rfl, ?_⟩
      exact ((HO.out.k.setCell (by simp; omega) _).setCell (by simp; omega) _).setCell (by simp; omega) _

/-- Times, by whatever number. -/
theorem times_any (P : Nat) (a b : Int) (q : Pn) (n : Int) (w : World) (hc : Cv P a b) (hq : On P a b q) (hn : n.natAbs ≤ 1000000000000000000) :
    Calls Tryd.prog 32 #[Gv P a b, .int .i64 n, Pv q] w fun e w' => e = .returned (Pv (mz P a q n)) ∧ Below w.heap.size w w' := by
  by_cases h : 0 ≤ n
  · obtain ⟨N, rfl⟩ : ∃ N : Nat, n = N := ⟨n.toNat, by omega⟩
    have := times_pos P a b q N w hc hq (by omega)
    rw [mz, if_pos h, Int.toNat_natCast]
    exact this
  · obtain ⟨N, rfl⟩ : ∃ N : Nat, n = -(N : Int) := ⟨(-n).toNat, by omega⟩
    have := times_neg P a b q N w hc hq (by omega) (by omega)
    rw [mu_negs P a q N (by omega)]
    exact this

end Go.Proofs.YtbeceimopamllaaDoor
