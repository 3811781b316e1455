/- Package ring: norm, div. -/
import Derived.Test.YtogdggdaaiajnadGreatDoorGsB
import Derived.Test.YtogdggdaaiajnadGreatDoorRefU
import Derived.Test.YtogdggdaaiajnadGreatDoorRegionH
import Derived.Test.YtogdggdaaiajnadGreatDoorRsK
import Derived.Deep.CutBlock
set_option linter.unusedSimpArgs false
set_option linter.unusedVariables false
set_option maxRecDepth 100000
namespace Go.Proofs.YtogdggdaaiajnadGreatDoor
open Go.RowKit

/-- What is asked of a ring's functions. -/
structure KdIs (T : Int) (k : Kd) : Prop where
  times : ∀ (x y : Pp) (w : World), Mb x y → Calls Tryz.prog k.ft #[pv x, pv y] w fun e w' => e = .returned (pv (x.mul T y)) ∧ Below w.heap.size w w'
  mirror : ∀ (x : Pp) (w : World), Bd 2000000000000000000 x → Calls Tryz.prog k.fm #[pv x] w fun e w' => e = .returned (pv (x.conj T)) ∧ Below w.heap.size w w'
  chief : ∀ (x : Pp) (w : World), Calls Tryz.prog k.fc #[pv x] w fun e w' => e = .returned (.bool (decide (IsCh T x))) ∧ Below w.heap.size w w'
  unit : k.u = unitOf T
  et : ∀ (args : Array Value) (w : World), (callFunc k.ft args).run Tryz.prog w = .ok (.enter k.ft args) w
  em : ∀ (args : Array Value) (w : World), (callFunc k.fm args).run Tryz.prog w = .ok (.enter k.fm args) w
  ec : ∀ (args : Array Value) (w : World), (callFunc k.fc args).run Tryz.prog w = .ok (.enter k.fc args) w

theorem gk_is : KdIs 0 gaussK := ⟨fun x y w h => gtimes_any x y w h, fun x w h => gmirror_any x w (bd_mono h (by omega)), fun x w => gchief_any x w, rfl, fun args w => by show (callFunc 49 args).run Tryz.prog w = .ok (.enter 49 args) w; go_simp, fun args w => by show (callFunc 50 args).run Tryz.prog w = .ok (.enter 50 args) w; go_simp, fun args w => by show (callFunc 51 args).run Tryz.prog w = .ok (.enter 51 args) w; go_simp⟩

/-- A ring in memory. -/
abbrev Kd.list (k : Kd) : List Value := [.int .i64 k.u.a, .int .i64 k.u.b, .int .i64 k.o, .func (.func k.ft) #[] #[], .func (.func k.fm) #[] #[], .func (.func k.fc) #[] #[], .func (.func k.fs) #[] #[]]
abbrev Kt (b : Nat) (k : Kd) (w : World) : Prop := Cl b k.list 55 w
/-- The cells that are read. -/
abbrev Rk (b : Nat) (k : Kd) (w' : World) : Prop :=
  w'.cell? ⟨b, 0, none⟩ = some (.int .i64 k.u.a) ∧ w'.cell? ⟨b, 1, none⟩ = some (.int .i64 k.u.b) ∧ w'.cell? ⟨b, 2, none⟩ = some (.int .i64 k.o) ∧ w'.cell? ⟨b, 3, none⟩ = some (.func (.func k.ft) #[] #[]) ∧ w'.cell? ⟨b, 4, none⟩ = some (.func (.func k.fm) #[] #[]) ∧ w'.cell? ⟨b, 5, none⟩ = some (.func (.func k.fc) #[] #[]) ∧ w'.cell? ⟨b, 6, none⟩ = some (.func (.func k.fs) #[] #[])
theorem Kt.rd {b : Nat} {k : Kd} {w : World} (h : Kt b k w) : Rk b k w := ⟨h.cell 0, h.cell 1, h.cell 2, h.cell 3, h.cell 4, h.cell 5, h.cell 6⟩
abbrev Rp (b : Nat) (x : Pp) (w' : World) : Prop := w'.cell? ⟨b, 0, none⟩ = some (.int .i64 x.a) ∧ w'.cell? ⟨b, 1, none⟩ = some (.int .i64 x.b)

theorem conj_bd {T : Int} (hT : TT T) {x : Pp} (h : Bd 1000000000 x) : Bd 2000000000 (x.conj T) := by
  have e1 := T_bd hT x.b h.b1 h.b2
  have e2 := h.a1
  have e3 := h.a2
  have e4 := h.b1
  have e5 := h.b2
  exact ⟨by show -2000000000 ≤ x.a + T * x.b; omega, by show x.a + T * x.b ≤ 2000000000; omega, by show -2000000000 ≤ -x.b; omega, by show -x.b ≤ 2000000000; omega⟩

set_option maxHeartbeats 400000 in
theorem rnorm_any (T : Int) (k : Kd) (K : KdIs T k) (x : Pp) (w : World) (hT : TT T) (hx : Bd 1000000000 x) :
    Calls Tryz.prog 55 #[k.v, pv x] w fun e w' => e = .returned (.int .i64 (x.norm T)) ∧ Below w.heap.size w w' := by
  have HM : Hid (∀ w, Calls Tryz.prog k.fm #[pv x] w fun e w' => e = .returned (pv (x.conj T)) ∧ Below w.heap.size w w') := fun w => K.mirror x w (bd_mono hx (by omega))
  have HT : Hid (∀ w, Calls Tryz.prog k.ft #[pv x, pv (x.conj T)] w fun e w' => e = .returned (pv ⟨x.norm T, 0⟩) ∧ Below w.heap.size w w') := fun w => by
    have h := K.times x (x.conj T) w (Mb.of hx (conj_bd hT hx) (by omega))
    rw [mul_conj] at h
    exact h
  have et := K.et
  have em := K.em
  clear K
  obtain ⟨c, hc⟩ : ∃ c, c = x.conj T := ⟨_, rfl⟩
  obtain ⟨n, hn⟩ : ∃ n, n = x.norm T := ⟨_, rfl⟩
  rw [← hc, ← hn] at HT
  rw [← hc] at HM
  rw [← hn]
  clear hc hn hx hT
  obtain ⟨u, o, ft, fm, fc, fs⟩ := k
  go_enter Tryz.func55, Tryz.ntmps55
  go_wp2_with fail
  have R0 : Kt w.heap.size ⟨u, o, ft, fm, fc, fs⟩ ((w.alloc (.cells (Kd.cells ⟨u, o, ft, fm, fc, fs⟩) 55)).alloc (.cells #[.int .i64 x.a, .int .i64 x.b] 23)) := (Cl.new (Kd.list ⟨u, o, ft, fm, fc, fs⟩) 55 w).alloc _
  have X0 := sv_new (w.alloc (.cells (Kd.cells ⟨u, o, ft, fm, fc, fs⟩) 55)) 23 (w.heap.size + 1) (by simp) x.a x.b
  have K0 := below2 w (.cells (Kd.cells ⟨u, o, ft, fm, fc, fs⟩) 55) (.cells #[.int .i64 x.a, .int .i64 x.b] 23)
  refine wp_region_G (fun W => Rk w.heap.size ⟨u, o, ft, fm, fc, fs⟩ W ∧ Rp (w.heap.size + 1) x W) 9 (by kernel_rfl) ⟨R0.rd, X0.c0, X0.c1⟩ (fun hHeld => ?_)
  refine wpAnyG_take (i := 0) (v := ?v0x1) rfl (by kernel_rfl) (fun _ _ _ h => h) (Or.inl ⟨by rfl, ?y0x1⟩) hHeld ?r0x1
  case y0x1 => (intro wS hSw; obtain ⟨⟨s1, s2, s3, s4, s5, s6, s7⟩, s8, s9⟩ := hSw; go_simp; try with_reducible rfl)
  try simp only [Act.put, List.setIfInBounds_toArray, List.set_cons_zero, List.set_cons_succ]
  refine wpAnyG_take (i := 1) (v := ?v1x2) rfl (by kernel_rfl) (fun _ _ _ h => h) (Or.inl ⟨by rfl, ?y1x2⟩) hHeld ?r1x2
  case y1x2 => (intro wS hSw; obtain ⟨⟨s1, s2, s3, s4, s5, s6, s7⟩, s8, s9⟩ := hSw; go_simp; try with_reducible rfl)
  try simp only [Act.put, List.setIfInBounds_toArray, List.set_cons_zero, List.set_cons_succ]
  refine wpAnyG_take (i := 2) (v := ?v2x3) rfl (by kernel_rfl) (fun _ _ _ h => h) (Or.inl ⟨by rfl, ?y2x3⟩) hHeld ?r2x3
  case y2x3 => (intro wS hSw; obtain ⟨⟨s1, s2, s3, s4, s5, s6, s7⟩, s8, s9⟩ := hSw; go_simp; try with_reducible rfl)
  try simp only [Act.put, List.setIfInBounds_toArray, List.set_cons_zero, List.set_cons_succ]
  refine wpAnyG_take (i := 3) (v := ?v3x4) rfl (by kernel_rfl) (fun _ _ _ h => h) (Or.inl ⟨by rfl, ?y3x4⟩) hHeld ?r3x4
  case y3x4 => (intro wS hSw; obtain ⟨⟨s1, s2, s3, s4, s5, s6, s7⟩, s8, s9⟩ := hSw; go_simp; try with_reducible rfl)
  try simp only [Act.put, List.setIfInBounds_toArray, List.set_cons_zero, List.set_cons_succ]
  refine wpAnyG_take (i := 4) (v := ?v4x5) rfl (by kernel_rfl) (fun _ _ _ h => h) (Or.inl ⟨by rfl, ?y4x5⟩) hHeld ?r4x5
  case y4x5 => (intro wS hSw; obtain ⟨⟨s1, s2, s3, s4, s5, s6, s7⟩, s8, s9⟩ := hSw; go_simp; try with_reducible rfl)
  try simp only [Act.put, List.setIfInBounds_toArray, List.set_cons_zero, List.set_cons_succ]
  refine wpAnyG_take (i := 5) (v := ?v5x6) rfl (by kernel_rfl) (fun _ _ _ h => h) (Or.inl ⟨by rfl, ?y5x6⟩) hHeld ?r5x6
  case y5x6 => (intro wS hSw; obtain ⟨⟨s1, s2, s3, s4, s5, s6, s7⟩, s8, s9⟩ := hSw; go_simp; try with_reducible rfl)
  try simp only [Act.put, List.setIfInBounds_toArray, List.set_cons_zero, List.set_cons_succ]
  refine wpAnyG_one (i := 6) rfl (by kernel_rfl) (fun K hK => ?_)
  go_simp
  refine (HM.out _).mono ?_
  rintro e w1 ⟨rfl, k1⟩
  have R1 : Kt w.heap.size ⟨u, o, ft, fm, fc, fs⟩ w1 := R0.below (((Below.refl _ _).drew).trans k1)
  have X1 := X0.below (((Below.refl _ _).drew).trans k1)
  have K1 : Below w.heap.size w w1 := K0.trans (((((Below.refl _ _).drew).trans k1)).mono K0.size)
  refine hK.out _ _ ⟨R1.rd, X1.c0, X1.c1⟩ ?_
  clear hK K
  try simp only [Act.put, List.setIfInBounds_toArray, List.set_cons_zero, List.set_cons_succ]
  refine wpAnyG_one (i := 7) rfl (by kernel_rfl) (fun K hK => ?_)
  go_simp
  refine (HT.out _).mono ?_
  rintro e w2 ⟨rfl, k2⟩
  have R2 : Kt w.heap.size ⟨u, o, ft, fm, fc, fs⟩ w2 := R1.below k2
  have X2 := X1.below k2
  have K2 : Below w.heap.size w w2 := K1.trans (k2.mono K1.size)
  refine hK.out _ _ ⟨R2.rd, X2.c0, X2.c1⟩ ?_
  clear hK K
  try simp only [Act.put, List.setIfInBounds_toArray, List.set_cons_zero, List.set_cons_succ]
  refine wpAnyG_one (i := 8) rfl (by kernel_rfl) (fun K hK => ?_)
  go_simp
  refine hK.out _ _ ⟨R2.rd, X2.c0, X2.c1⟩ ?_
  clear hK K
  try simp only [Act.put, List.setIfInBounds_toArray, List.set_cons_zero, List.set_cons_succ]
  refine wpAnyG_last (i := 9) rfl (by kernel_rfl) (by kernel_rfl) (fun K hK => ?_)
  go_simp
  refine hK.out _ _ ?_
  clear hK K
  try simp only [Act.put, List.setIfInBounds_toArray, List.set_cons_zero, List.set_cons_succ]
  refine wpAnyG_done (by kernel_rfl) ?_ _
  go_wp2
  go_ret
  exact ⟨rfl, K2⟩

/-- The memory of a division: the ring, x, y, and the two answers. -/
structure Dm (b : Nat) (k : Kd) (x y q : Pp) (w W : World) : Prop where
  r : Kt b k W
  x : Sv (b + 1) x.a x.b W
  y : Sv (b + 2) y.a y.b W
  q : Sv (b + 3) q.a q.b W
  l : Sv (b + 4) 0 0 W
  k : Below b w W
theorem Dm.below {b : Nat} {k : Kd} {x y q : Pp} {w W W' : World} (h : Dm b k x y q w W) (c : Below W.heap.size W W') : Dm b k x y q w W' :=
  ⟨h.r.below c, h.x.below c, h.y.below c, h.q.below c, h.l.below c, h.k.trans (c.mono (by have := h.l.lt; omega))⟩
theorem Dm.drew {b : Nat} {k : Kd} {x y q : Pp} {w W : World} (h : Dm b k x y q w W) : Dm b k x y q w W.drew := h.below ((Below.refl _ _).drew)
theorem Dm.alloc {b : Nat} {k : Kd} {x y q : Pp} {w W : World} (h : Dm b k x y q w W) (o : Obj) : Dm b k x y q w (W.alloc o) := h.below (Below.alloc (Below.refl _ _) (Nat.le_refl _) _)
theorem Dm.set {b B : Nat} {k : Kd} {x y q : Pp} {w W : World} (h : Dm b k x y q w W) (hB : b + 4 < B) (v1 v2 : Value) : Dm b k x y q w ((W.setCell ⟨B, 0, none⟩ v1).setCell ⟨B, 1, none⟩ v2) :=
  ⟨(h.r.other (by show b ≠ B; omega) _).other (by show b ≠ B; omega) _, h.x.other _ _ (by omega), h.y.other _ _ (by omega), h.q.other _ _ (by omega), h.l.other _ _ (by omega), (h.k.setCell (by show b ≤ B; omega) _).setCell (by show b ≤ B; omega) _⟩
theorem Dm.setq {b : Nat} {k : Kd} {x y q : Pp} {w W : World} (h : Dm b k x y q w W) (p : Pp) : Dm b k x y p w ((W.setCell ⟨b + 3, 0, none⟩ (.int .i64 p.a)).setCell ⟨b + 3, 1, none⟩ (.int .i64 p.b)) :=
  ⟨(h.r.other (by show b ≠ b + 3; omega) _).other (by show b ≠ b + 3; omega) _, h.x.other _ _ (by omega), h.y.other _ _ (by omega), h.q.set _ _, h.l.other _ _ (by omega), (h.k.setCell (by show b ≤ b + 3; omega) _).setCell (by show b ≤ b + 3; omega) _⟩
/-- How it ends. -/
structure Df (b : Nat) (q l : Pp) (w W : World) : Prop where
  q : Sv (b + 1 + 1 + 1) q.a q.b W
  l : Sv (b + 1 + 1 + 1 + 1) l.a l.b W
  k : Below b w W
theorem Dm.fin {b : Nat} {k : Kd} {x y p : Pp} {w W : World} (h : Dm b k x y p w W) (q : Pp) (l1 l2 : Int) : Df b q ⟨l1, l2⟩ w ((((W.setCell ⟨b + 1 + 1 + 1, 0, none⟩ (.int .i64 q.a)).setCell ⟨b + 1 + 1 + 1, 1, none⟩ (.int .i64 q.b)).setCell ⟨b + 1 + 1 + 1 + 1, 0, none⟩ (.int .i64 l1)).setCell ⟨b + 1 + 1 + 1 + 1, 1, none⟩ (.int .i64 l2)).drew :=
  have h2 := h.setq q
  ⟨(h2.q.other _ _ (by omega)).drew, (h2.l.set l1 l2).drew, ((h2.k.setCell (by show b ≤ b + 4; omega) _).setCell (by show b ≤ b + 4; omega) _).drew⟩
abbrev Rdm (b : Nat) (k : Kd) (x y : Pp) (W : World) : Prop := Rk b k W ∧ Rp (b + 1) x W ∧ Rp (b + 2) y W
theorem Dm.rd {b : Nat} {k : Kd} {x y q : Pp} {w W : World} (h : Dm b k x y q w W) : Rdm b k x y W := ⟨Kt.rd h.r, ⟨h.x.c0, h.x.c1⟩, h.y.c0, h.y.c1⟩
theorem dm_new (w : World) (k : Kd) (x y : Pp) : Dm w.heap.size k x y Pp.zero w (((((w.alloc (.cells k.cells 55)).alloc (.cells #[.int .i64 x.a, .int .i64 x.b] 23)).alloc (.cells #[.int .i64 y.a, .int .i64 y.b] 23)).alloc (.cells #[.int .i64 0, .int .i64 0] 23)).alloc (.cells #[.int .i64 0, .int .i64 0] 23)) :=
  ⟨((((Cl.new k.list 55 w).alloc _).alloc _).alloc _).alloc _, sv_alloc (sv_alloc (sv_alloc (sv_new _ _ _ (by simp) _ _) _) _) _, sv_alloc (sv_alloc (sv_new _ _ _ (by simp) _ _) _) _, sv_alloc (sv_new _ _ _ (by simp) _ _) _, sv_new _ _ _ (by simp) _ _, (below4 _ _ _ _ _).alloc (by simp; omega) _⟩


set_option maxHeartbeats 1000000 in
theorem rdiv_any (T : Int) (k : Kd) (K : KdIs T k) (x y : Pp) (w : World) (hT : TT T) (hx : Nb T x) (hy : Nb T y) (h0 : y ≠ Pp.zero) :
    Calls Tryz.prog 65 #[k.v, pv x, pv y] w fun e w' => e = .returned (.tuple #[pv (quo T x y), pv (x.sub ((quo T x y).mul T y))]) ∧ Below w.heap.size w w' := by
  have hz := over_bd hT hx hy
  have hn1 := norm_pos T hT y h0
  have hn2 : y.norm T ≤ 750000000000000000 := hy
  have hQ := quo_bd hT hx hy h0
  have hqm := hQ.mul
  have hxb := hx.bd hT
  obtain ⟨n, hn⟩ : ∃ n, n = y.norm T := ⟨_, rfl⟩
  obtain ⟨z, hzz⟩ : ∃ z, z = x.mul T (y.conj T) := ⟨_, rfl⟩
  obtain ⟨c, hc⟩ : ∃ c, c = y.conj T := ⟨_, rfl⟩
  have HM : Hid (∀ w, Calls Tryz.prog k.fm #[pv y] w fun e w' => e = .returned (pv c) ∧ Below w.heap.size w w') := by rw [hc]; exact fun w => K.mirror y w (bd_mono (hy.bd hT) (by omega))
  have HT : Hid (∀ w, Calls Tryz.prog k.ft #[pv x, pv c] w fun e w' => e = .returned (pv z) ∧ Below w.heap.size w w') := by
    rw [hzz, hc]; exact fun w => K.times x (y.conj T) w (Mb.of hxb (conj_bd hT (hy.bd hT)) (by omega))
  have HN : Hid (∀ w, Calls Tryz.prog 55 #[k.v, pv y] w fun e w' => e = .returned (.int .i64 n) ∧ Below w.heap.size w w') := by
    rw [hn]; exact fun w => rnorm_any T k K y w hT (hy.bd hT)
  have hq : quo T x y = ⟨hlf z.a n, hlf z.b n⟩ := by rw [hn, hzz]; rfl
  rw [← hzz] at hz
  rw [← hn] at hn1 hn2
  have HA : Hid (∀ w, Calls Tryz.prog 89 #[.int .i64 z.a, .int .i64 n] w fun e w' => e = .returned (.int .i64 (hlf z.a n)) ∧ w' = w) := fun w => nearest_any z.a n w ⟨by have := hz.a1; omega, by have := hz.a2; omega⟩ ⟨hn1, by omega⟩
  have HB : Hid (∀ w, Calls Tryz.prog 89 #[.int .i64 z.b, .int .i64 n] w fun e w' => e = .returned (.int .i64 (hlf z.b n)) ∧ w' = w) := fun w => nearest_any z.b n w ⟨by have := hz.b1; omega, by have := hz.b2; omega⟩ ⟨hn1, by omega⟩
  obtain ⟨ha, hha⟩ : ∃ ha, ha = hlf z.a n := ⟨_, rfl⟩
  obtain ⟨hb, hhb⟩ : ∃ hb, hb = hlf z.b n := ⟨_, rfl⟩
  obtain ⟨q, hqq⟩ : ∃ q, q = quo T x y := ⟨_, rfl⟩
  rw [← hqq] at hQ hqm ⊢
  have hqa : q.a = ha := by rw [hqq, hq, hha]
  have hqb : q.b = hb := by rw [hqq, hq, hhb]
  rw [← hha, ← hqa] at HA
  rw [← hhb, ← hqb] at HB
  have HB2 : Hid (∀ w, Calls Tryz.prog k.ft #[pv q, pv y] w fun e w' => e = .returned (pv (q.mul T y)) ∧ Below w.heap.size w w') := fun w => K.times q y w (by obtain ⟨a1, a2, a3, a4, _, _⟩ := hQ; exact ⟨by omega, by omega, by omega, by omega⟩)
  obtain ⟨p, hp⟩ : ∃ p, p = q.mul T y := ⟨_, rfl⟩
  rw [← hp] at HB2 hqm ⊢
  have et := K.et
  have em := K.em
  obtain ⟨p1, p2, p3, p4⟩ := hqm
  obtain ⟨x1, x2, x3, x4⟩ := hxb
  clear hx hy h0 hz hn1 hn2 hn hzz hq hha hhb hT hqq hQ K hp hqa hqb hc
  obtain ⟨u, o, ft, fm, fc, fs⟩ := k
  go_enter Tryz.func65, Tryz.ntmps65
  go_wp2_with fail
  have M0 := dm_new w ⟨u, o, ft, fm, fc, fs⟩ x y
  obtain ⟨W0, hW0⟩ : ∃ W0, W0 = (((((w.alloc (.cells (Kd.cells ⟨u, o, ft, fm, fc, fs⟩) 55)).alloc (.cells #[.int .i64 x.a, .int .i64 x.b] 23)).alloc (.cells #[.int .i64 y.a, .int .i64 y.b] 23)).alloc (.cells #[.int .i64 0, .int .i64 0] 23)).alloc (.cells #[.int .i64 0, .int .i64 0] 23)) := ⟨_, rfl⟩
  rw [← hW0] at M0 ⊢
  clear hW0
  go_cut [8, 9] from 11 to 21 (fun uv dv wx => ∃ B : Nat, uv = .pointer (some ⟨B, 0, none⟩) ∧ dv = .int .i64 n ∧ Hid (Sv B z.a z.b wx ∧ w.heap.size + 4 < B ∧ Dm w.heap.size ⟨u, o, ft, fm, fc, fs⟩ x y Pp.zero w wx))
  case first =>
    refine wp_region_G (Rdm w.heap.size ⟨u, o, ft, fm, fc, fs⟩ x y) 13 (by kernel_rfl) M0.rd (fun hHeld => ?_)
    have M0 := M0.drew
    refine wpAnyG_take (i := 0) (v := ?v0x7) rfl (by kernel_rfl) (fun _ _ _ h => h) (Or.inl ⟨by rfl, ?y0x7⟩) hHeld ?r0x7
    case y0x7 => (intro wS hSw; obtain ⟨⟨s1, s2, s3, s4, s5, s6, s7⟩, ⟨s8, s9⟩, s10, s11⟩ := hSw; go_simp; try with_reducible rfl)
    try simp only [Act.put, List.setIfInBounds_toArray, List.set_cons_zero, List.set_cons_succ]
    refine wpAnyG_take (i := 1) (v := ?v1x8) rfl (by kernel_rfl) (fun _ _ _ h => h) (Or.inl ⟨by rfl, ?y1x8⟩) hHeld ?r1x8
    case y1x8 => (intro wS hSw; obtain ⟨⟨s1, s2, s3, s4, s5, s6, s7⟩, ⟨s8, s9⟩, s10, s11⟩ := hSw; go_simp; try with_reducible rfl)
    try simp only [Act.put, List.setIfInBounds_toArray, List.set_cons_zero, List.set_cons_succ]
    refine wpAnyG_take (i := 2) (v := ?v2x9) rfl (by kernel_rfl) (fun _ _ _ h => h) (Or.inl ⟨by rfl, ?y2x9⟩) hHeld ?r2x9
    case y2x9 => (intro wS hSw; obtain ⟨⟨s1, s2, s3, s4, s5, s6, s7⟩, ⟨s8, s9⟩, s10, s11⟩ := hSw; go_simp; try with_reducible rfl)
    try simp only [Act.put, List.setIfInBounds_toArray, List.set_cons_zero, List.set_cons_succ]
    refine wpAnyG_take (i := 3) (v := ?v3x10) rfl (by kernel_rfl) (fun _ _ _ h => h) (Or.inl ⟨by rfl, ?y3x10⟩) hHeld ?r3x10
    case y3x10 => (intro wS hSw; obtain ⟨⟨s1, s2, s3, s4, s5, s6, s7⟩, ⟨s8, s9⟩, s10, s11⟩ := hSw; go_simp; try with_reducible rfl)
    try simp only [Act.put, List.setIfInBounds_toArray, List.set_cons_zero, List.set_cons_succ]
    refine wpAnyG_take (i := 4) (v := ?v4x11) rfl (by kernel_rfl) (fun _ _ _ h => h) (Or.inl ⟨by rfl, ?y4x11⟩) hHeld ?r4x11
    case y4x11 => (intro wS hSw; obtain ⟨⟨s1, s2, s3, s4, s5, s6, s7⟩, ⟨s8, s9⟩, s10, s11⟩ := hSw; go_simp; try with_reducible rfl)
    try simp only [Act.put, List.setIfInBounds_toArray, List.set_cons_zero, List.set_cons_succ]
    refine wpAnyG_take (i := 5) (v := ?v5x12) rfl (by kernel_rfl) (fun _ _ _ h => h) (Or.inl ⟨by rfl, ?y5x12⟩) hHeld ?r5x12
    case y5x12 => (intro wS hSw; obtain ⟨⟨s1, s2, s3, s4, s5, s6, s7⟩, ⟨s8, s9⟩, s10, s11⟩ := hSw; go_simp; try with_reducible rfl)
    try simp only [Act.put, List.setIfInBounds_toArray, List.set_cons_zero, List.set_cons_succ]
    refine wpAnyG_take (i := 8) (v := ?v8x13) rfl (by kernel_rfl) (fun _ _ _ h => h) (Or.inl ⟨by rfl, ?y8x13⟩) hHeld ?r8x13
    case y8x13 => (intro wS hSw; obtain ⟨⟨s1, s2, s3, s4, s5, s6, s7⟩, ⟨s8, s9⟩, s10, s11⟩ := hSw; go_simp; try with_reducible rfl)
    try simp only [Act.put, List.setIfInBounds_toArray, List.set_cons_zero, List.set_cons_succ]
    refine wpAnyG_take (i := 9) (v := ?v9x14) rfl (by kernel_rfl) (fun _ _ _ h => h) (Or.inl ⟨by rfl, ?y9x14⟩) hHeld ?r9x14
    case y9x14 => (intro wS hSw; obtain ⟨⟨s1, s2, s3, s4, s5, s6, s7⟩, ⟨s8, s9⟩, s10, s11⟩ := hSw; go_simp; try with_reducible rfl)
    try simp only [Act.put, List.setIfInBounds_toArray, List.set_cons_zero, List.set_cons_succ]
    --WAYS
    refine wpAnyG_two (i := 6) (j := 11) rfl rfl (by kernel_rfl) (fun K hK => ?_) (fun K hK => ?_)
    · go_simp
      refine (HM.out _).mono ?_
      rintro e w1 ⟨rfl, k1⟩
      have M1 := M0.below k1
      refine hK.out _ _ M1.rd ?_
      clear hK K
      try simp only [Act.put, List.setIfInBounds_toArray, List.set_cons_zero, List.set_cons_succ]
      refine wpAnyG_two (i := 7) (j := 11) rfl rfl (by kernel_rfl) (fun K hK => ?_) (fun K hK => ?_)
      · go_simp
        refine (HT.out _).mono ?_
        rintro e w2 ⟨rfl, k2⟩
        have M2 := M1.below k2
        refine hK.out _ _ M2.rd ?_
        clear hK K
        try simp only [Act.put, List.setIfInBounds_toArray, List.set_cons_zero, List.set_cons_succ]
        refine wpAnyG_two (i := 10) (j := 11) rfl rfl (by kernel_rfl) (fun K hK => ?_) (fun K hK => ?_)
        · go_simp
          refine (HN.out _).mono ?_
          rintro e w3 ⟨rfl, k3⟩
          have M3 := M2.below k3
          refine hK.out _ _ M3.rd ?_
          clear hK K
          try simp only [Act.put, List.setIfInBounds_toArray, List.set_cons_zero, List.set_cons_succ]
          refine wpAnyG_one (i := 11) rfl (by kernel_rfl) (fun K hK => ?_)
          go_simp
          have M4 := M3.alloc (.cells #[.int .i64 0, .int .i64 0] 23)
          have z4 := M3.l.lt
          have Z4 := sv_new w3 23 w3.heap.size rfl 0 0
          refine hK.out _ _ M4.rd ?_
          clear hK K
          try simp only [Act.put, List.setIfInBounds_toArray, List.set_cons_zero, List.set_cons_succ]
          refine wpAnyG_one (i := 12) rfl (by kernel_rfl) (fun K hK => ?_)
          go_simp
          refine hK.out _ _ (M3.alloc (.cells #[.int .i64 z.a, .int .i64 z.b] 23)).rd ?_
          clear hK K
          try simp only [Act.put, List.setIfInBounds_toArray, List.set_cons_zero, List.set_cons_succ]
          refine wpAnyG_last (i := 13) rfl (by kernel_rfl) (by kernel_rfl) (fun K hK => ?_)
          go_simp
          refine hK.out _ _ ?_
          clear hK K
          try simp only [Act.put, List.setIfInBounds_toArray, List.set_cons_zero, List.set_cons_succ]
          refine wpAnyG_done (by kernel_rfl) ?_ _
          go_wp2
          go_meet
          exact ⟨_, rfl, rfl, sv_new w3 23 w3.heap.size rfl _ _, z4, (M3.alloc (.cells #[.int .i64 z.a, .int .i64 z.b] 23))⟩
        · go_simp
          have M5 := M2.alloc (.cells #[.int .i64 0, .int .i64 0] 23)
          have z5 := M2.l.lt
          have Z5 := sv_new w2 23 w2.heap.size rfl 0 0
          refine hK.out _ _ M5.rd ?_
          clear hK K
          try simp only [Act.put, List.setIfInBounds_toArray, List.set_cons_zero, List.set_cons_succ]
          refine wpAnyG_one (i := 10) rfl (by kernel_rfl) (fun K hK => ?_)
          go_simp
          refine (HN.out _).mono ?_
          rintro e w6 ⟨rfl, k6⟩
          have M6 := M5.below k6
          have Z6 := Z5.below k6
          refine hK.out _ _ M6.rd ?_
          clear hK K
          try simp only [Act.put, List.setIfInBounds_toArray, List.set_cons_zero, List.set_cons_succ]
          have c0 := Z6.c0
          have c1 := Z6.c1
          have c2 := Z6.f0
          have c3 := Z6.f1
          have c4 := Z6.lt
          refine wpAnyG_one (i := 12) rfl (by kernel_rfl) (fun K hK => ?_)
          go_simp
          refine hK.out _ _ (M6.set z5 _ _).rd ?_
          clear hK K
          try simp only [Act.put, List.setIfInBounds_toArray, List.set_cons_zero, List.set_cons_succ]
          refine wpAnyG_last (i := 13) rfl (by kernel_rfl) (by kernel_rfl) (fun K hK => ?_)
          go_simp
          refine hK.out _ _ ?_
          clear hK K
          try simp only [Act.put, List.setIfInBounds_toArray, List.set_cons_zero, List.set_cons_succ]
          refine wpAnyG_done (by kernel_rfl) ?_ _
          go_wp2
          go_meet
          exact ⟨_, rfl, rfl, Z6.set _ _, z5, M6.set z5 _ _⟩
      · go_simp
        have M7 := M1.alloc (.cells #[.int .i64 0, .int .i64 0] 23)
        have z7 := M1.l.lt
        have Z7 := sv_new w1 23 w1.heap.size rfl 0 0
        refine hK.out _ _ M7.rd ?_
        clear hK K
        try simp only [Act.put, List.setIfInBounds_toArray, List.set_cons_zero, List.set_cons_succ]
        refine wpAnyG_one (i := 7) rfl (by kernel_rfl) (fun K hK => ?_)
        go_simp
        refine (HT.out _).mono ?_
        rintro e w8 ⟨rfl, k8⟩
        have M8 := M7.below k8
        have Z8 := Z7.below k8
        refine hK.out _ _ M8.rd ?_
        clear hK K
        try simp only [Act.put, List.setIfInBounds_toArray, List.set_cons_zero, List.set_cons_succ]
        refine wpAnyG_one (i := 10) rfl (by kernel_rfl) (fun K hK => ?_)
        go_simp
        refine (HN.out _).mono ?_
        rintro e w9 ⟨rfl, k9⟩
        have M9 := M8.below k9
        have Z9 := Z8.below k9
        refine hK.out _ _ M9.rd ?_
        clear hK K
        try simp only [Act.put, List.setIfInBounds_toArray, List.set_cons_zero, List.set_cons_succ]
        have c0 := Z9.c0
        have c1 := Z9.c1
        have c2 := Z9.f0
        have c3 := Z9.f1
        have c4 := Z9.lt
        refine wpAnyG_one (i := 12) rfl (by kernel_rfl) (fun K hK => ?_)
        go_simp
        refine hK.out _ _ (M9.set z7 _ _).rd ?_
        clear hK K
        try simp only [Act.put, List.setIfInBounds_toArray, List.set_cons_zero, List.set_cons_succ]
        refine wpAnyG_last (i := 13) rfl (by kernel_rfl) (by kernel_rfl) (fun K hK => ?_)
        go_simp
        refine hK.out _ _ ?_
        clear hK K
        try simp only [Act.put, List.setIfInBounds_toArray, List.set_cons_zero, List.set_cons_succ]
        refine wpAnyG_done (by kernel_rfl) ?_ _
        go_wp2
        go_meet
        exact ⟨_, rfl, rfl, Z9.set _ _, z7, M9.set z7 _ _⟩
    · go_simp
      have M10 := M0.alloc (.cells #[.int .i64 0, .int .i64 0] 23)
      have z10 := M0.l.lt
      have Z10 := sv_new W0.drew 23 W0.heap.size rfl 0 0
      refine hK.out _ _ M10.rd ?_
      clear hK K
      try simp only [Act.put, List.setIfInBounds_toArray, List.set_cons_zero, List.set_cons_succ]
      refine wpAnyG_one (i := 6) rfl (by kernel_rfl) (fun K hK => ?_)
      go_simp
      refine (HM.out _).mono ?_
      rintro e w11 ⟨rfl, k11⟩
      have M11 := M10.below k11
      have Z11 := Z10.below k11
      refine hK.out _ _ M11.rd ?_
      clear hK K
      try simp only [Act.put, List.setIfInBounds_toArray, List.set_cons_zero, List.set_cons_succ]
      refine wpAnyG_one (i := 7) rfl (by kernel_rfl) (fun K hK => ?_)
      go_simp
      refine (HT.out _).mono ?_
      rintro e w12 ⟨rfl, k12⟩
      have M12 := M11.below k12
      have Z12 := Z11.below k12
      refine hK.out _ _ M12.rd ?_
      clear hK K
      try simp only [Act.put, List.setIfInBounds_toArray, List.set_cons_zero, List.set_cons_succ]
      refine wpAnyG_one (i := 10) rfl (by kernel_rfl) (fun K hK => ?_)
      go_simp
      refine (HN.out _).mono ?_
      rintro e w13 ⟨rfl, k13⟩
      have M13 := M12.below k13
      have Z13 := Z12.below k13
      refine hK.out _ _ M13.rd ?_
      clear hK K
      try simp only [Act.put, List.setIfInBounds_toArray, List.set_cons_zero, List.set_cons_succ]
      have c0 := Z13.c0
      have c1 := Z13.c1
      have c2 := Z13.f0
      have c3 := Z13.f1
      have c4 := Z13.lt
      refine wpAnyG_one (i := 12) rfl (by kernel_rfl) (fun K hK => ?_)
      go_simp
      refine hK.out _ _ (M13.set z10 _ _).rd ?_
      clear hK K
      try simp only [Act.put, List.setIfInBounds_toArray, List.set_cons_zero, List.set_cons_succ]
      refine wpAnyG_last (i := 13) rfl (by kernel_rfl) (by kernel_rfl) (fun K hK => ?_)
      go_simp
      refine hK.out _ _ ?_
      clear hK K
      try simp only [Act.put, List.setIfInBounds_toArray, List.set_cons_zero, List.set_cons_succ]
      refine wpAnyG_done (by kernel_rfl) ?_ _
      go_wp2
      go_meet
      exact ⟨_, rfl, rfl, Z13.set _ _, z10, M13.set z10 _ _⟩
    --ENDWAYS
  case rest =>
    clear M0
    obtain ⟨B, rfl, rfl, HC⟩ := hcut
    obtain ⟨U1, b1, M1⟩ := HC.out
    have HM1 : Hid (Dm w.heap.size ⟨u, o, ft, fm, fc, fs⟩ x y Pp.zero w wc) := M1
    have HU1 : Hid (Sv B z.a z.b wc) := U1
    have c0 := U1.c0
    have c1 := U1.c1
    have q0 := M1.q.c0
    have q1 := M1.q.c1
    have q2 := M1.q.f0
    have q3 := M1.q.f1
    have q4 := M1.q.lt
    clear HM HT HN HC U1 M1 em
    go_wp2_with fail
    refine wp_region_G (fun W => Rp B z W) 9 (by kernel_rfl) ⟨c0, c1⟩ (fun hHeld => ?_)
    refine wpAnyG_take (i := 0) (v := ?v0x15) rfl (by kernel_rfl) (fun _ _ _ h => h) (Or.inl ⟨by rfl, ?y0x15⟩) hHeld ?r0x15
    case y0x15 => (intro wS hSw; obtain ⟨s1, s2⟩ := hSw; go_simp; try with_reducible rfl)
    try simp only [Act.put, List.setIfInBounds_toArray, List.set_cons_zero, List.set_cons_succ]
    refine wpAnyG_take (i := 1) (v := ?v1x16) rfl (by kernel_rfl) (fun _ _ _ h => h) (Or.inl ⟨by rfl, ?y1x16⟩) hHeld ?r1x16
    case y1x16 => (intro wS hSw; obtain ⟨s1, s2⟩ := hSw; go_simp; try with_reducible rfl)
    try simp only [Act.put, List.setIfInBounds_toArray, List.set_cons_zero, List.set_cons_succ]
    refine wpAnyG_take (i := 2) (v := ?v2x17) rfl (by kernel_rfl) (fun _ _ _ h => h) (Or.inl ⟨by rfl, ?y2x17⟩) hHeld ?r2x17
    case y2x17 => (intro wS hSw; obtain ⟨s1, s2⟩ := hSw; go_simp; try with_reducible rfl)
    try simp only [Act.put, List.setIfInBounds_toArray, List.set_cons_zero, List.set_cons_succ]
    refine wpAnyG_take (i := 4) (v := ?v4x18) rfl (by kernel_rfl) (fun _ _ _ h => h) (Or.inl ⟨by rfl, ?y4x18⟩) hHeld ?r4x18
    case y4x18 => (intro wS hSw; obtain ⟨s1, s2⟩ := hSw; go_simp; try with_reducible rfl)
    try simp only [Act.put, List.setIfInBounds_toArray, List.set_cons_zero, List.set_cons_succ]
    refine wpAnyG_take (i := 5) (v := ?v5x19) rfl (by kernel_rfl) (fun _ _ _ h => h) (Or.inl ⟨by rfl, ?y5x19⟩) hHeld ?r5x19
    case y5x19 => (intro wS hSw; obtain ⟨s1, s2⟩ := hSw; go_simp; try with_reducible rfl)
    try simp only [Act.put, List.setIfInBounds_toArray, List.set_cons_zero, List.set_cons_succ]
    refine wpAnyG_take (i := 6) (v := ?v6x20) rfl (by kernel_rfl) (fun _ _ _ h => h) (Or.inl ⟨by rfl, ?y6x20⟩) hHeld ?r6x20
    case y6x20 => (intro wS hSw; obtain ⟨s1, s2⟩ := hSw; go_simp; try with_reducible rfl)
    try simp only [Act.put, List.setIfInBounds_toArray, List.set_cons_zero, List.set_cons_succ]
    refine wpAnyG_one (i := 3) rfl (by kernel_rfl) (fun K hK => ?_)
    go_simp
    refine (HA.out _).mono ?_
    rintro e w4 ⟨rfl, rfl⟩
    refine hK.out _ _ hHeld ?_
    clear hK K
    try simp only [Act.put, List.setIfInBounds_toArray, List.set_cons_zero, List.set_cons_succ]
    refine wpAnyG_one (i := 7) rfl (by kernel_rfl) (fun K hK => ?_)
    go_simp
    refine (HB.out _).mono ?_
    rintro e w4 ⟨rfl, rfl⟩
    refine hK.out _ _ hHeld ?_
    clear hK K
    try simp only [Act.put, List.setIfInBounds_toArray, List.set_cons_zero, List.set_cons_succ]
    refine wpAnyG_one (i := 8) rfl (by kernel_rfl) (fun K hK => ?_)
    go_simp
    refine hK.out _ _ hHeld ?_
    clear hK K
    try simp only [Act.put, List.setIfInBounds_toArray, List.set_cons_zero, List.set_cons_succ]
    refine wpAnyG_last (i := 9) rfl (by kernel_rfl) (by kernel_rfl) (fun K hK => ?_)
    go_simp
    refine hK.out _ _ ?_
    clear hK K
    try simp only [Act.put, List.setIfInBounds_toArray, List.set_cons_zero, List.set_cons_succ]
    refine wpAnyG_done (by kernel_rfl) ?_ _
    have M2 : Dm w.heap.size ⟨u, o, ft, fm, fc, fs⟩ x y q w ((wc.setCell ⟨w.heap.size + 1 + 1 + 1, 0, none⟩ (.int .i64 q.a)).setCell ⟨w.heap.size + 1 + 1 + 1, 1, none⟩ (.int .i64 q.b)).drew := (HM1.out.setq q).drew
    clear HA HB HM1 HU1 c0 c1 q0 q1 q2 q3 q4 hHeld
    obtain ⟨W2, hW2⟩ : ∃ W2, W2 = ((wc.setCell ⟨w.heap.size + 1 + 1 + 1, 0, none⟩ (.int .i64 q.a)).setCell ⟨w.heap.size + 1 + 1 + 1, 1, none⟩ (.int .i64 q.b)).drew := ⟨_, rfl⟩
    rw [← hW2] at M2 ⊢
    clear hW2
    have HM2 : Hid (Dm w.heap.size ⟨u, o, ft, fm, fc, fs⟩ x y q w W2) := M2
    have r3 := (Kt.rd M2.r).2.2.2.1
    have q0 := M2.q.c0
    have q1 := M2.q.c1
    have y0 := M2.y.c0
    have y1 := M2.y.c1
    clear M2
    go_wp2_with fail
    refine (HB2.out _).mono ?_
    rintro e w3 ⟨rfl, k3⟩
    have M3 := HM2.out.below k3
    have M4 := M3.alloc (.cells #[.int .i64 p.a, .int .i64 p.b] 23)
    have HM4 : Hid (Dm w.heap.size ⟨u, o, ft, fm, fc, fs⟩ x y q w (w3.alloc (.cells #[.int .i64 p.a, .int .i64 p.b] 23))) := M4
    clear r3 q0 q1 y0 y1 k3 HM2 HB2
    have P4 := sv_new w3 23 w3.heap.size rfl p.a p.b
    have q0 := M4.q.c0
    have q1 := M4.q.c1
    have q2 := M4.q.f0
    have q3 := M4.q.f1
    have q4 := M4.q.lt
    have z3 : w.heap.size + 4 < w3.heap.size := M3.l.lt
    have ew1 : IntKind.i64.wrap (x.a - p.a) = x.a - p.a := by rw [IntKind.wrap_i64]; omega
    have ew2 : IntKind.i64.wrap (x.b - p.b) = x.b - p.b := by rw [IntKind.wrap_i64]; omega
    have l0 := M3.l.c0
    have l1 := M3.l.c1
    have l2 := M3.l.f0
    have l3 := M3.l.f1
    have l4 := M3.l.lt
    go_wp2
    refine wp_region_G (fun W => Rp (w.heap.size + 3) q W ∧ Rp (w.heap.size + 1) x W ∧ Rp w3.heap.size p W) 13 (by kernel_rfl) ⟨⟨q0, q1⟩, ⟨M4.x.c0, M4.x.c1⟩, P4.c0, P4.c1⟩ (fun hHeld => ?_)
    refine wpAnyG_take (i := 0) (v := ?v0x21) rfl (by kernel_rfl) (fun _ _ _ h => h) (Or.inl ⟨by rfl, ?y0x21⟩) hHeld ?r0x21
    case y0x21 => (intro wS hSw; obtain ⟨⟨s1, s2⟩, ⟨s3, s4⟩, s5, s6⟩ := hSw; go_simp; try with_reducible rfl)
    try simp only [Act.put, List.setIfInBounds_toArray, List.set_cons_zero, List.set_cons_succ]
    refine wpAnyG_take (i := 1) (v := ?v1x22) rfl (by kernel_rfl) (fun _ _ _ h => h) (Or.inl ⟨by rfl, ?y1x22⟩) hHeld ?r1x22
    case y1x22 => (intro wS hSw; obtain ⟨⟨s1, s2⟩, ⟨s3, s4⟩, s5, s6⟩ := hSw; go_simp; try with_reducible rfl)
    try simp only [Act.put, List.setIfInBounds_toArray, List.set_cons_zero, List.set_cons_succ]
    refine wpAnyG_take (i := 2) (v := ?v2x23) rfl (by kernel_rfl) (fun _ _ _ h => h) (Or.inl ⟨by rfl, ?y2x23⟩) hHeld ?r2x23
    case y2x23 => (intro wS hSw; obtain ⟨⟨s1, s2⟩, ⟨s3, s4⟩, s5, s6⟩ := hSw; go_simp; try with_reducible rfl)
    try simp only [Act.put, List.setIfInBounds_toArray, List.set_cons_zero, List.set_cons_succ]
    refine wpAnyG_take (i := 3) (v := ?v3x24) rfl (by kernel_rfl) (fun _ _ _ h => h) (Or.inl ⟨by rfl, ?y3x24⟩) hHeld ?r3x24
    case y3x24 => (intro wS hSw; obtain ⟨⟨s1, s2⟩, ⟨s3, s4⟩, s5, s6⟩ := hSw; go_simp; try with_reducible rfl)
    try simp only [Act.put, List.setIfInBounds_toArray, List.set_cons_zero, List.set_cons_succ]
    refine wpAnyG_take (i := 4) (v := ?v4x25) rfl (by kernel_rfl) (fun _ _ _ h => h) (Or.inl ⟨by rfl, ?y4x25⟩) hHeld ?r4x25
    case y4x25 => (intro wS hSw; obtain ⟨⟨s1, s2⟩, ⟨s3, s4⟩, s5, s6⟩ := hSw; go_simp; try with_reducible rfl)
    try simp only [Act.put, List.setIfInBounds_toArray, List.set_cons_zero, List.set_cons_succ]
    refine wpAnyG_take (i := 5) (v := ?v5x26) rfl (by kernel_rfl) (fun _ _ _ h => h) (Or.inl ⟨by rfl, ?y5x26⟩) hHeld ?r5x26
    case y5x26 => (intro wS hSw; obtain ⟨⟨s1, s2⟩, ⟨s3, s4⟩, s5, s6⟩ := hSw; go_simp; try with_reducible rfl)
    try simp only [Act.put, List.setIfInBounds_toArray, List.set_cons_zero, List.set_cons_succ]
    refine wpAnyG_take (i := 6) (v := ?v6x27) rfl (by kernel_rfl) (fun _ _ _ h => h) (Or.inl ⟨by rfl, ?y6x27⟩) hHeld ?r6x27
    case y6x27 => (intro wS hSw; obtain ⟨⟨s1, s2⟩, ⟨s3, s4⟩, s5, s6⟩ := hSw; go_simp; try with_reducible rfl)
    try simp only [Act.put, List.setIfInBounds_toArray, List.set_cons_zero, List.set_cons_succ]
    refine wpAnyG_take (i := 7) (v := ?v7x28) rfl (by kernel_rfl) (fun _ _ _ h => h) (Or.inl ⟨by rfl, ?y7x28⟩) hHeld ?r7x28
    case y7x28 => (intro wS hSw; obtain ⟨⟨s1, s2⟩, ⟨s3, s4⟩, s5, s6⟩ := hSw; go_simp; try with_reducible rfl)
    try simp only [Act.put, List.setIfInBounds_toArray, List.set_cons_zero, List.set_cons_succ]
    refine wpAnyG_take (i := 8) (v := ?v8x29) rfl (by kernel_rfl) (fun _ _ _ h => h) (Or.inl ⟨by rfl, ?y8x29⟩) hHeld ?r8x29
    case y8x29 => (intro wS hSw; obtain ⟨⟨s1, s2⟩, ⟨s3, s4⟩, s5, s6⟩ := hSw; go_simp; try with_reducible rfl)
    try simp only [Act.put, List.setIfInBounds_toArray, List.set_cons_zero, List.set_cons_succ]
    refine wpAnyG_take (i := 9) (v := ?v9x30) rfl (by kernel_rfl) (fun _ _ _ h => h) (Or.inl ⟨by rfl, ?y9x30⟩) hHeld ?r9x30
    case y9x30 => (intro wS hSw; obtain ⟨⟨s1, s2⟩, ⟨s3, s4⟩, s5, s6⟩ := hSw; go_simp; try with_reducible rfl)
    try simp only [Act.put, List.setIfInBounds_toArray, List.set_cons_zero, List.set_cons_succ]
    refine wpAnyG_take (i := 10) (v := ?v10x31) rfl (by kernel_rfl) (fun _ _ _ h => h) (Or.inl ⟨by rfl, ?y10x31⟩) hHeld ?r10x31
    case y10x31 => (intro wS hSw; obtain ⟨⟨s1, s2⟩, ⟨s3, s4⟩, s5, s6⟩ := hSw; go_simp; try with_reducible rfl)
    try simp only [Act.put, List.setIfInBounds_toArray, List.set_cons_zero, List.set_cons_succ]
    refine wpAnyG_take (i := 11) (v := ?v11x32) rfl (by kernel_rfl) (fun _ _ _ h => h) (Or.inl ⟨by rfl, ?y11x32⟩) hHeld ?r11x32
    case y11x32 => (intro wS hSw; obtain ⟨⟨s1, s2⟩, ⟨s3, s4⟩, s5, s6⟩ := hSw; go_simp; try with_reducible rfl)
    try simp only [Act.put, List.setIfInBounds_toArray, List.set_cons_zero, List.set_cons_succ]
    try simp only [ew1, ew2]
    refine wpAnyG_one (i := 12) rfl (by kernel_rfl) (fun K hK => ?_)
    go_simp
    have M5 := (M4.setq q).drew
    have P5 := (P4.other (.int .i64 q.a) (.int .i64 q.b) (show w.heap.size + 3 ≠ w3.heap.size by omega)).drew
    refine hK.out _ _ ⟨⟨M5.q.c0, M5.q.c1⟩, ⟨M5.x.c0, M5.x.c1⟩, P5.c0, P5.c1⟩ ?_
    clear hK K
    try simp only [Act.put, List.setIfInBounds_toArray, List.set_cons_zero, List.set_cons_succ]
    refine wpAnyG_last (i := 13) rfl (by kernel_rfl) (by kernel_rfl) (fun K hK => ?_)
    go_simp
    refine hK.out _ _ ?_
    clear hK K
    try simp only [Act.put, List.setIfInBounds_toArray, List.set_cons_zero, List.set_cons_succ]
    refine wpAnyG_done (by kernel_rfl) ?_ _
    have F := M4.fin q (x.a - p.a) (x.b - p.b)
    clear hHeld P4 P5 M5 M4 M3 HM4 q0 q1 q2 q3 q4 l0 l1 l2 l3 l4
    go_wp2
    generalize hWF : World.drew _ = WF
    replace F : Df w.heap.size q ⟨x.a - p.a, x.b - p.b⟩ w WF := hWF ▸ F
    clear hWF
    have e0 := F.q.c0
    have e1 := F.q.c1
    have e4 := F.q.lt
    have l0 := F.l.c0
    have l1 := F.l.c1
    have l4 := F.l.lt
    refine bodyPost_ret (v := .tuple #[pv q, pv (x.sub p)]) (by simp [results, Tryz.results65, go_sem, Pp.sub, e0, e1, e4, l0, l1, l4]) rfl ⟨rfl, F.k⟩

end Go.Proofs.YtogdggdaaiajnadGreatDoor
