/- Package bound's Pairs; package ring's nearest. -/
import Derived.Test.YtogdggdaaiajnadGreatDoorGsA
import Derived.Test.YtogdggdaaiajnadGreatDoorWholeE
import Derived.Laws.EntriesVeiled
set_option linter.unusedSimpArgs false
set_option linter.unusedVariables false
set_option maxRecDepth 100000
namespace Go.Proofs.YtogdggdaaiajnadGreatDoor
open Go.RowKit

set_option maxHeartbeats 1000000 in
theorem Pairs_any (l : List Pp) (b cap : Nat) (w : World) (hl : l.length ≤ 1000000) (hb : b < w.heap.size)
    (hc : ∀ j, j < l.length → w.cell? ⟨b, j * 2, none⟩ = some (.int .i64 (l.getD j ⟨0, 0⟩).a) ∧ w.cell? ⟨b, j * 2 + 1, none⟩ = some (.int .i64 (l.getD j ⟨0, 0⟩).b)) :
    Calls Tryz.prog 53 #[.slice (some ⟨b, 0, none⟩) l.length cap] w fun e w' => e = .returned (.agg #[.int .i64 (pfl 0 l).1, .int .i64 (pfl 0 l).2]) ∧ Below w.heap.size w w' := by
  go_enter Tryz.func53, Tryz.ntmps53
  go_wp2
  go_loopw [7] (fun iv wx => ∃ k : Nat, k ≤ l.length ∧ iv = .int .i64 k ∧ Hid ((∀ j, j < k → okP (l.getD j ⟨0, 0⟩) = true) ∧ Sv w.heap.size 0 0 wx ∧ Below w.heap.size w wx)) (fun iv _ => l.length - (intOf iv).toNat)
  case atStart => exact ⟨0, Nat.zero_le _, rfl, fun j hj => absurd hj (Nat.not_lt_zero _), sv_new _ _ _ rfl _ _, Below.alloc (Below.refl _ _) (Nat.le_refl _) _⟩
  case round =>
    obtain ⟨k, hk, rfl, HR⟩ := hrel
    have HC := hc
    have z0 := HR.out.2.1.c0
    have z1 := HR.out.2.1.c1
    have z2 := HR.out.2.1.f0
    have z3 := HR.out.2.1.f1
    have z4 := HR.out.2.1.lt
    by_cases hlt : k < l.length
    · obtain ⟨hc0, hc1⟩ := HC k hlt
      obtain ⟨x, hx⟩ : ∃ x, x = l.getD k ⟨0, 0⟩ := ⟨_, rfl⟩
      rw [← hx] at hc0 hc1
      replace hc0 := (HR.out.2.2.cell (p := ⟨b, k * 2, none⟩) hb).trans hc0
      replace hc1 := (HR.out.2.2.cell (p := ⟨b, k * 2 + 1, none⟩) hb).trans hc1
      have HX : Hid (x = l.getD k ⟨0, 0⟩) := hx
      have HI : Hid (∀ w, Calls Tryz.prog 64 #[pv x] w fun e w' => e = .returned (.bool (okP x)) ∧ Below w.heap.size w w') := fun w => IsPair_any x w
      obtain ⟨p, hp⟩ : ∃ p, okP x = p := ⟨_, rfl⟩
      have HP : Hid (okP x = p) := hp
      rw [hp] at HI
      clear HC hx hc hp
      cases p
      · go_wp2_with fail
        refine (HI.out _).mono ?_
        rintro e w1 ⟨rfl, k1⟩
        have S1 := (sv_alloc HR.out.2.1 _).below k1
        have HK1 : Hid (Below w.heap.size w w1) := (HR.out.2.2.alloc (by omega) _).trans (k1.mono (by simp; omega))
        clear z0 z1 z2 z3 z4 hc0 hc1
        have z0 := S1.c0
        have z1 := S1.c1
        have z2 := S1.f0
        have z3 := S1.f1
        have z4 := S1.lt
        clear S1 k1
        go_wp2
        refine bodyPost_ret (v := .agg #[.int .i64 3, .int .i64 k]) (by simp [results, Tryz.results53, go_sem, z0, z1, z4]) rfl ⟨?_, ?_⟩
        · rw [pfl_hit l k 0 hlt HR.out.1 (by rw [← HX.out]; exact HP.out)]; simp
        · exact (HK1.out.setCell (by simp) _).setCell (by simp) _
      · go_wp2_with fail
        refine (HI.out _).mono ?_
        rintro e w1 ⟨rfl, k1⟩
        have HS1 : Hid (Sv w.heap.size 0 0 w1) := (sv_alloc HR.out.2.1 _).below k1
        have HK1 : Hid (Below w.heap.size w w1) := (HR.out.2.2.alloc (by omega) _).trans (k1.mono (by simp; omega))
        clear z0 z1 z2 z3 z4 hc0 hc1 k1
        go_wp2
        go_roundw
        case rel =>
          refine ⟨k + 1, by omega, by go_num, fun j hj => ?_, HS1.out, HK1.out⟩
          by_cases hjk : j = k
          · subst hjk; rw [← HX.out]; exact HP.out
          · exact HR.out.1 j (by omega)
        case measure => simp [intOf]; omega
    · clear hc HC
      go_wp2
      refine bodyPost_ret (v := .agg #[.int .i64 0, .int .i64 0]) (by simp [results, Tryz.results53, go_sem, z0, z1, z4]) rfl ⟨?_, ?_⟩
      · rw [pfl_none l (fun j hj => HR.out.1 j (by omega)) 0]
      · exact (HR.out.2.2.setCell (by simp) _).setCell (by simp) _

theorem near_hlf {a n l : Int} (hn : 1 ≤ n) (hl : l = a % n) : (n - l ≤ l → (a - l).tdiv n + 1 = hlf a n) ∧ (¬ n - l ≤ l → (a - l).tdiv n = hlf a n) := by
  have h1 : 0 ≤ l := by rw [hl]; exact Int.emod_nonneg _ (by omega)
  have h2 : l < n := by rw [hl]; exact Int.emod_lt_of_pos _ (by omega)
  have h3 : a - l = n * (a / n) := by rw [hl]; have := Int.mul_ediv_add_emod a n; omega
  obtain ⟨q, hq⟩ : ∃ q, q = a / n := ⟨_, rfl⟩
  rw [← hq] at h3
  have h4 : (a - l).tdiv n = q := by rw [h3]; exact Int.mul_tdiv_cancel_left _ (by omega)
  rw [h4]
  have h5 : n * q = q * n := Int.mul_comm _ _
  have h6 : (q + 1) * n = q * n + n := by rw [Int.add_mul]; omega
  constructor
  · intro h; exact hlf_unique hn (by omega) (by omega)
  · intro h; exact hlf_unique hn (by omega) (by omega)

theorem nearest_any (a n : Int) (w : World) (ha : -2000000000000000000 ≤ a ∧ a ≤ 2000000000000000000) (hn : 1 ≤ n ∧ n ≤ 1000000000000000000) :
    Calls Tryz.prog 89 #[.int .i64 a, .int .i64 n] w fun e w' => e = .returned (.int .i64 (hlf a n)) ∧ w' = w := by
  have HL : Hid (Calls Tryz.prog 118 #[.int .i64 a, .int .i64 n] w fun e w' => e = .returned (.int .i64 (a % n)) ∧ w' = w) := by
    have h := left_any a n.toNat w (by omega) (by omega) (by omega)
    rw [Int.toNat_of_nonneg (by omega)] at h
    exact h
  obtain ⟨l, hl⟩ : ∃ l, l = a % n := ⟨_, rfl⟩
  have hs := near_hlf hn.1 hl
  have h1 : 0 ≤ l := by rw [hl]; exact Int.emod_nonneg _ (by omega)
  have h2 : l < n := by rw [hl]; exact Int.emod_lt_of_pos _ (by omega)
  rw [← hl] at HL
  obtain ⟨h, hh⟩ : ∃ h, h = hlf a n := ⟨_, rfl⟩
  rw [← hh] at hs ⊢
  obtain ⟨q, hq⟩ : ∃ q, q = (a - l).tdiv n := ⟨_, rfl⟩
  have hqb : -3000000000000000000 ≤ q ∧ q ≤ 3000000000000000000 := by
    have h3 := Int.natAbs_tdiv (a - l) n
    rw [← hq] at h3
    have h4 : (a - l).natAbs.div n.natAbs ≤ (a - l).natAbs := Nat.div_le_self (a - l).natAbs n.natAbs
    omega
  rw [← hq] at hs
  have HS : Hid ((n - l ≤ l → q + 1 = h) ∧ (¬ n - l ≤ l → q = h)) := hs
  have hqe : (a - l).tdiv n = q := hq.symm
  have hn0 : (n == 0) = false := beq_eq_false_iff_ne.2 (by omega)
  have hw1 : wrap64 (a - l) = a - l := by unfold wrap64; omega
  have hw2 : wrap64 (n - l) = n - l := by unfold wrap64; omega
  clear hs hq hl hh
  by_cases hle : n - l ≤ l
  · go_enter Tryz.func89, Tryz.ntmps89
    go_wp2_with fail
    refine HL.out.mono ?_
    rintro e w1 ⟨rfl, rfl⟩
    go_wp2
    go_ret
    exact ⟨ret_int (HS.out.1 hle), rfl⟩
  · go_enter Tryz.func89, Tryz.ntmps89
    go_wp2_with fail
    refine HL.out.mono ?_
    rintro e w1 ⟨rfl, rfl⟩
    go_wp2
    go_ret
    exact ⟨ret_int (HS.out.2 hle), rfl⟩

/-- A ring, as a value: its unit, how often i goes, and its functions. -/
structure Kd where
  u : Pp
  o : Int
  ft : Nat
  fm : Nat
  fc : Nat
  fs : Nat
abbrev Kd.cells (k : Kd) : Array Value := #[.int .i64 k.u.a, .int .i64 k.u.b, .int .i64 k.o, .func (.func k.ft) #[] #[], .func (.func k.fm) #[] #[], .func (.func k.fc) #[] #[], .func (.func k.fs) #[] #[]]
abbrev Kd.v (k : Kd) : Value := .agg k.cells
def gaussK : Kd := ⟨⟨0, 1⟩, 4, 49, 50, 51, 52⟩

theorem numbers_any (w : World) :
    Calls Tryz.prog 35 #[] w fun e w' => e = .returned gaussK.v ∧ Below w.heap.size w w' := by
  go_enter Tryz.func35, Tryz.ntmps35
  go_wp2
  refine bodyPost_ret (v := gaussK.v) (by simp [results, Tryz.results35, go_sem, gaussK]) rfl ⟨rfl, ?_⟩
  exact Below.alloc (Below.refl _ _) (Nat.le_refl _) _

end Go.Proofs.YtogdggdaaiajnadGreatDoor
