/- The reference's rings of pairs: Quotient, chiefs, Greatest. -/
import Derived.Test.YtogdggdaaiajnadGreatDoorRefR
import Derived.Test.YtogdggdaaiajnadGreatDoorRegionG
set_option linter.unusedSimpArgs false
set_option linter.unusedVariables false
set_option maxRecDepth 100000
namespace Go.Proofs.YtogdggdaaiajnadGreatDoor
open Go.RowKit

def quo (T : Int) (x y : Pp) : Pp := ⟨hlf (x.mul T (y.conj T)).a (y.norm T), hlf (x.mul T (y.conj T)).b (y.norm T)⟩

/-- A norm that is small enough. -/
def Nb (T : Int) (x : Pp) : Prop := x.norm T ≤ 750000000000000000
theorem Nb.bd {T : Int} (hT : TT T) {x : Pp} (h : Nb T x) : Bd 1000000000 x := part_bd hT (by omega) (by unfold Nb at h; omega)
theorem Nb.of {T : Int} (hT : TT T) {x : Pp} (h : Bd 500000000 x) : Nb T x := by
  have h1 := mul_bd h.a1 h.a2 h.a1 h.a2
  have h2 := T_bd hT x.a h.a1 h.a2
  have h3 := mul_bd h2.1 h2.2 h.b1 h.b2
  have h4 := mul_bd h.b1 h.b2 h.b1 h.b2
  unfold Nb Pp.norm
  omega
theorem over_bd {T : Int} (hT : TT T) {x y : Pp} (hx : Nb T x) (hy : Nb T y) : Bd 1000000000000000000 (x.mul T (y.conj T)) := by
  refine part_bd hT (by omega) ?_
  rw [norm_mul, norm_conj]
  have h1 := Int.mul_le_mul hx hy (norm_nonneg T hT y) (by omega)
  omega
theorem quo_near {T : Int} (hT : TT T) (x y : Pp) (hy : y ≠ Pp.zero) : Near T x y (quo T x y) := by
  have hn := norm_pos T hT y hy
  have h1 := hlf_spec (x.mul T (y.conj T)).a (y.norm T) hn
  have h2 := hlf_spec (x.mul T (y.conj T)).b (y.norm T) hn
  exact ⟨⟨h1.1, by have := h1.2; simp only [quo]; omega⟩, h2.1, by have := h2.2; simp only [quo]; omega⟩

/-- A ring, or a pair, in memory. -/
structure Rg (b : Nat) (T U : Int) (u : Pp) (W : World) : Prop where
  c0 : W.cell? ⟨b, 0, none⟩ = some (.int .i64 T)
  c1 : W.cell? ⟨b, 1, none⟩ = some (.int .i64 U)
  c2 : W.cell? ⟨b, 2, none⟩ = some (.int .i64 u.a)
  c3 : W.cell? ⟨b, 3, none⟩ = some (.int .i64 u.b)
  lt : b < W.heap.size
theorem Rg.below {b : Nat} {T U : Int} {u : Pp} {w w' : World} (h : Rg b T U u w) (k : Below w.heap.size w w') : Rg b T U u w' :=
  ⟨(k.cell (p := ⟨b, 0, none⟩) h.lt).trans h.c0, (k.cell (p := ⟨b, 1, none⟩) h.lt).trans h.c1, (k.cell (p := ⟨b, 2, none⟩) h.lt).trans h.c2, (k.cell (p := ⟨b, 3, none⟩) h.lt).trans h.c3, Nat.lt_of_lt_of_le h.lt k.size⟩
theorem Rg.alloc {b : Nat} {T U : Int} {u : Pp} {w : World} (h : Rg b T U u w) (o : Obj) : Rg b T U u (w.alloc o) := h.below (Below.alloc (Below.refl _ _) (Nat.le_refl _) _)
theorem Rg.drew {b : Nat} {T U : Int} {u : Pp} {w : World} (h : Rg b T U u w) : Rg b T U u w.drew := ⟨h.c0, h.c1, h.c2, h.c3, h.lt⟩
theorem Rg.set {b b' i : Nat} {T U : Int} {u : Pp} {w : World} (h : Rg b T U u w) (v : Value) (hb : b ≠ b') : Rg b T U u (w.setCell ⟨b', i, none⟩ v) := by
  have e := Below.heap_setCell w ⟨b', i, none⟩ v b hb
  exact ⟨(World.cell?_of_block (a := ⟨b, 0, none⟩) e).trans h.c0, (World.cell?_of_block (a := ⟨b, 1, none⟩) e).trans h.c1, (World.cell?_of_block (a := ⟨b, 2, none⟩) e).trans h.c2, (World.cell?_of_block (a := ⟨b, 3, none⟩) e).trans h.c3, by simpa using h.lt⟩
theorem rg_new (x : World) (t : TypeId) (z : Nat) (hz : x.heap.size = z) (T U : Int) (u : Pp) : Rg z T U u (x.alloc (.cells #[.int .i64 T, .int .i64 U, .int .i64 u.a, .int .i64 u.b] t)) :=
  ⟨by rw [cell_new_at _ _ _ _ _ hz]; rfl, by rw [cell_new_at _ _ _ _ _ hz]; rfl, by rw [cell_new_at _ _ _ _ _ hz]; rfl, by rw [cell_new_at _ _ _ _ _ hz]; rfl, by simp; omega⟩
theorem sv_alloc {b : Nat} {c d : Int} {w : World} (h : Sv b c d w) (o : Obj) : Sv b c d (w.alloc o) := h.below (Below.alloc (Below.refl _ _) (Nat.le_refl _) _)
/-- What lies in memory when a call with a ring and two pairs has begun. -/
structure Mem3 (b : Nat) (T U : Int) (u x y z : Pp) (W : World) : Prop where
  r : Rg b T U u W
  x : Sv (b + 1) x.a x.b W
  y : Sv (b + 2) y.a y.b W
  z : Sv (b + 3) z.a z.b W
theorem mem3_new (w : World) (t1 t2 t3 t4 : TypeId) (T U : Int) (u x y : Pp) : Mem3 w.heap.size T U u x y ⟨0, 0⟩ ((((w.alloc (.cells #[.int .i64 T, .int .i64 U, .int .i64 u.a, .int .i64 u.b] t1)).alloc (.cells #[.int .i64 x.a, .int .i64 x.b] t2)).alloc (.cells #[.int .i64 y.a, .int .i64 y.b] t3)).alloc (.cells #[.int .i64 0, .int .i64 0] t4)) :=
  ⟨(((rg_new _ _ _ rfl _ _ _).alloc _).alloc _).alloc _, sv_alloc (sv_alloc (sv_new _ _ _ (by simp) _ _) _) _, sv_alloc (sv_new _ _ _ (by simp) _ _) _, sv_new _ _ _ (by simp) _ _⟩
theorem Mem3.below {b : Nat} {T U : Int} {u x y z : Pp} {w w' : World} (h : Mem3 b T U u x y z w) (k : Below w.heap.size w w') : Mem3 b T U u x y z w' := ⟨h.r.below k, h.x.below k, h.y.below k, h.z.below k⟩
theorem Mem3.alloc {b : Nat} {T U : Int} {u x y z : Pp} {w : World} (h : Mem3 b T U u x y z w) (o : Obj) : Mem3 b T U u x y z (w.alloc o) := h.below (Below.alloc (Below.refl _ _) (Nat.le_refl _) _)

set_option maxHeartbeats 1000000 in
theorem Quotient_any (T U : Int) (u x y : Pp) (w : World) (hT : TT T) (hx : Nb T x) (hy : Nb T y) (h0 : y ≠ Pp.zero) :
    Calls Tryz.prog 23 #[rv T U u, pv x, pv y] w fun e w' => e = .returned (pv (quo T x y)) ∧ Below w.heap.size w w' := by
  have hz := over_bd hT hx hy
  have hn1 := norm_pos T hT y h0
  have hn2 : y.norm T ≤ 750000000000000000 := hy
  obtain ⟨n, hn⟩ : ∃ n, n = y.norm T := ⟨_, rfl⟩
  obtain ⟨z, hzz⟩ : ∃ z, z = x.mul T (y.conj T) := ⟨_, rfl⟩
  have HO : Hid (∀ w, Calls Tryz.prog 32 #[rv T U u, pv x, pv y] w fun e w' => e = .returned (pv z) ∧ Below w.heap.size w w') := by
    rw [hzz]; exact fun w => over_any T U u x y w hT (hx.bd hT) (hy.bd hT)
  have HNo : Hid (∀ w, Calls Tryz.prog 14 #[rv T U u, pv y] w fun e w' => e = .returned (.int .i64 n) ∧ Below w.heap.size w w') := by
    rw [hn]; exact fun w => Norm_any T U u y w hT (hy.bd hT)
  have hq : quo T x y = ⟨hlf z.a n, hlf z.b n⟩ := by rw [hn, hzz]; rfl
  rw [hq]
  rw [← hzz] at hz
  rw [← hn] at hn1 hn2
  have HA : Hid (∀ w, Calls Tryz.prog 42 #[.int .i64 z.a, .int .i64 n] w fun e w' => e = .returned (.int .i64 (hlf z.a n)) ∧ w' = w) := fun w => half_any z.a n w ⟨by have := hz.a1; omega, by have := hz.a2; omega⟩ ⟨hn1, by omega⟩
  have HB : Hid (∀ w, Calls Tryz.prog 42 #[.int .i64 z.b, .int .i64 n] w fun e w' => e = .returned (.int .i64 (hlf z.b n)) ∧ w' = w) := fun w => half_any z.b n w ⟨by have := hz.b1; omega, by have := hz.b2; omega⟩ ⟨hn1, by omega⟩
  obtain ⟨ha, hha⟩ : ∃ ha, ha = hlf z.a n := ⟨_, rfl⟩
  obtain ⟨hb, hhb⟩ : ∃ hb, hb = hlf z.b n := ⟨_, rfl⟩
  rw [← hha] at HA ⊢
  rw [← hhb] at HB ⊢
  clear hx hy h0 hz hn1 hn2 hn hzz hq hha hhb hT
  go_enter Tryz.func23, Tryz.ntmps23
  go_wp2_with fail
  have M0 := mem3_new w 26 23 23 23 T U u x y
  have K0 := below4 w (.cells #[.int .i64 T, .int .i64 U, .int .i64 u.a, .int .i64 u.b] 26) (.cells #[.int .i64 x.a, .int .i64 x.b] 23) (.cells #[.int .i64 y.a, .int .i64 y.b] 23) (.cells #[.int .i64 0, .int .i64 0] 23)
  refine (HO.out _).mono ?_
  rintro e w1 ⟨rfl, k1⟩
  have HK1 : Hid (Below w.heap.size w w1) := K0.trans (k1.mono K0.size)
  have M1 := (M0.below k1).alloc (.cells #[.int .i64 z.a, .int .i64 z.b] 23)
  have HM1 : Hid (Mem3 w.heap.size T U u x y ⟨0, 0⟩ (w1.alloc (.cells #[.int .i64 z.a, .int .i64 z.b] 23))) := M1
  have hz1 : w.heap.size + 4 ≤ w1.heap.size := by have := k1.size; simp at this; omega
  have r0 := M1.r.c0
  have r1 := M1.r.c1
  have r2 := M1.r.c2
  have r3 := M1.r.c3
  have y0 := M1.y.c0
  have y1 := M1.y.c1
  clear HO M0 K0 k1 M1
  go_wp2_with fail
  refine (HNo.out _).mono ?_
  rintro e w2 ⟨rfl, k2⟩
  have M2 := HM1.out.below k2
  have Z2 := (sv_new w1 23 _ rfl z.a z.b).below k2
  have HK2 : Hid (Below w.heap.size w w2) := (HK1.out.alloc (by omega) _).trans (k2.mono (by simp; omega))
  have hz2 : w1.heap.size + 1 ≤ w2.heap.size := by have := k2.size; simp at this; omega
  have c0 := Z2.c0
  have c1 := Z2.c1
  have s0 := M2.z.c0
  have s1 := M2.z.c1
  have s2 := M2.z.f0
  have s3 := M2.z.f1
  clear HNo HM1 HK1 k2 M2 Z2 r0 r1 r2 r3 y0 y1
  go_wp2
  refine wp_region_G (fun w' => w'.cell? ⟨w1.heap.size, 0, none⟩ = some (.int .i64 z.a) ∧ w'.cell? ⟨w1.heap.size, 1, none⟩ = some (.int .i64 z.b)) 9 (by kernel_rfl) ⟨c0, c1⟩ (fun hHeld => ?_)
  refine wpAnyG_take (i := 0) (v := ?v0) rfl (by kernel_rfl) (fun _ _ _ h => h) (Or.inl ⟨by rfl, ?y0⟩) hHeld ?r0
  case y0 => (intro wS hSw; obtain ⟨s1, s2⟩ := hSw; go_simp; try with_reducible rfl)
  try simp only [Act.put, List.setIfInBounds_toArray, List.set_cons_zero, List.set_cons_succ]
  refine wpAnyG_take (i := 1) (v := ?v1) rfl (by kernel_rfl) (fun _ _ _ h => h) (Or.inl ⟨by rfl, ?y1⟩) hHeld ?r1
  case y1 => (intro wS hSw; obtain ⟨s1, s2⟩ := hSw; go_simp; try with_reducible rfl)
  try simp only [Act.put, List.setIfInBounds_toArray, List.set_cons_zero, List.set_cons_succ]
  refine wpAnyG_take (i := 2) (v := ?v2) rfl (by kernel_rfl) (fun _ _ _ h => h) (Or.inl ⟨by rfl, ?y2⟩) hHeld ?r2
  case y2 => (intro wS hSw; obtain ⟨s1, s2⟩ := hSw; go_simp; try with_reducible rfl)
  try simp only [Act.put, List.setIfInBounds_toArray, List.set_cons_zero, List.set_cons_succ]
  refine wpAnyG_take (i := 4) (v := ?v4) rfl (by kernel_rfl) (fun _ _ _ h => h) (Or.inl ⟨by rfl, ?y4⟩) hHeld ?r4
  case y4 => (intro wS hSw; obtain ⟨s1, s2⟩ := hSw; go_simp; try with_reducible rfl)
  try simp only [Act.put, List.setIfInBounds_toArray, List.set_cons_zero, List.set_cons_succ]
  refine wpAnyG_take (i := 5) (v := ?v5) rfl (by kernel_rfl) (fun _ _ _ h => h) (Or.inl ⟨by rfl, ?y5⟩) hHeld ?r5
  case y5 => (intro wS hSw; obtain ⟨s1, s2⟩ := hSw; go_simp; try with_reducible rfl)
  try simp only [Act.put, List.setIfInBounds_toArray, List.set_cons_zero, List.set_cons_succ]
  refine wpAnyG_take (i := 6) (v := ?v6) rfl (by kernel_rfl) (fun _ _ _ h => h) (Or.inl ⟨by rfl, ?y6⟩) hHeld ?r6
  case y6 => (intro wS hSw; obtain ⟨s1, s2⟩ := hSw; go_simp; try with_reducible rfl)
  try simp only [Act.put, List.setIfInBounds_toArray, List.set_cons_zero, List.set_cons_succ]
  refine wpAnyG_one (i := 3) rfl (by kernel_rfl) (fun K hK => ?_)
  go_simp
  refine (HA.out _).mono ?_
  rintro e w4 ⟨rfl, rfl⟩
  refine hK.out _ _ hHeld ?_
  clear hK K
  try simp only [Act.put, List.setIfInBounds_toArray, List.set_cons_zero, List.set_cons_succ]
  refine wpAnyG_one (i := 7) rfl (by kernel_rfl) (fun K hK => ?_)
  go_simp
  refine (HB.out _).mono ?_
  rintro e w4 ⟨rfl, rfl⟩
  refine hK.out _ _ hHeld ?_
  clear hK K
  try simp only [Act.put, List.setIfInBounds_toArray, List.set_cons_zero, List.set_cons_succ]
  refine wpAnyG_one (i := 8) rfl (by kernel_rfl) (fun K hK => ?_)
  go_simp
  refine hK.out _ _ hHeld ?_
  clear hK K
  try simp only [Act.put, List.setIfInBounds_toArray, List.set_cons_zero, List.set_cons_succ]
  refine wpAnyG_last (i := 9) rfl (by kernel_rfl) (by kernel_rfl) (fun K hK => ?_)
  go_simp
  refine hK.out _ _ ?_
  clear hK K
  try simp only [Act.put, List.setIfInBounds_toArray, List.set_cons_zero, List.set_cons_succ]
  refine wpAnyG_done (by kernel_rfl) ?_ _
  go_wp2
  have hz3 : w.heap.size + 3 < w2.heap.size := by omega
  refine bodyPost_ret (v := pv ⟨ha, hb⟩) (by simp [results, Tryz.results23, go_sem, s0, s1, hz3]) rfl ⟨rfl, ?_⟩
  exact ((HK2.out.setCell (by simp <;> omega) _).setCell (by simp <;> omega) _).drew

theorem ischief_zero (x : Pp) : decide (IsCh 0 x) = (decide (0 < x.a) && decide (0 ≤ x.b)) := by simp [IsCh]
theorem ischief_one (x : Pp) : decide (IsCh (-1) x) = (decide (x.b < x.a) && decide (0 ≤ x.b)) := by simp [IsCh]

set_option maxHeartbeats 400000 in
theorem IsChief_any (T U : Int) (u x : Pp) (w : World) (hT : TT T) :
    Calls Tryz.prog 26 #[rv T U u, pv x] w fun e w' => e = .returned (.bool (decide (IsCh T x))) ∧ Below w.heap.size w w' := by
  rcases hT with rfl | rfl
  · rw [ischief_zero]
    obtain ⟨p, hp⟩ : ∃ p, decide (0 < x.a) = p := ⟨_, rfl⟩
    obtain ⟨q, hq⟩ : ∃ q, decide (0 ≤ x.b) = q := ⟨_, rfl⟩
    rw [hp, hq]
    cases p <;> cases q
    all_goals
      go_enter Tryz.func26, Tryz.ntmps26
      go_wp2
      go_ret
      exact ⟨rfl, below2 _ _ _⟩
  · rw [ischief_one]
    obtain ⟨p, hp⟩ : ∃ p, decide (x.b < x.a) = p := ⟨_, rfl⟩
    obtain ⟨q, hq⟩ : ∃ q, decide (0 ≤ x.b) = q := ⟨_, rfl⟩
    rw [hp, hq]
    cases p <;> cases q
    all_goals
      go_enter Tryz.func26, Tryz.ntmps26
      go_wp2
      go_ret
      exact ⟨rfl, below2 _ _ _⟩

end Go.Proofs.YtogdggdaaiajnadGreatDoor
