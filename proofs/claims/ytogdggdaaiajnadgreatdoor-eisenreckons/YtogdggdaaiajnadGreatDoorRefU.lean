/- The reference's rings of pairs: Greatest. -/
import Derived.Test.YtogdggdaaiajnadGreatDoorRefT
import Derived.Laws.StructEq
set_option linter.unusedSimpArgs false
set_option linter.unusedVariables false
set_option maxRecDepth 100000
namespace Go.Proofs.YtogdggdaaiajnadGreatDoor
open Go.RowKit

theorem scale_bd {q n a B : Int} (hn : 0 ≤ n) (h1 : -B ≤ q * n) (h2 : q * n ≤ B) (a1 : -n ≤ a) (a2 : a ≤ n) : -B ≤ q * a ∧ q * a ≤ B := by
  rcases Int.le_total 0 q with h | h
  · have e1 := Int.mul_le_mul_of_nonneg_left a2 h
    have e2 := Int.mul_le_mul_of_nonneg_left a1 h
    have e3 : q * -n = -(q * n) := by grind
    omega
  · have e1 := Int.mul_le_mul_of_nonneg_left a2 (show 0 ≤ -q by omega)
    have e2 := Int.mul_le_mul_of_nonneg_left a1 (show 0 ≤ -q by omega)
    have e3 : -q * -n = q * n := by grind
    have e4 : -q * n = -(q * n) := by grind
    have e5 : -q * a = -(q * a) := by grind
    omega

/-- What is told of a quotient's product. -/
structure Qb (T : Int) (q y : Pp) : Prop where
  h1 : -1300000000000000000 ≤ q.a * y.a ∧ q.a * y.a ≤ 1300000000000000000
  h2 : -1300000000000000000 ≤ q.b * y.b ∧ q.b * y.b ≤ 1300000000000000000
  h3 : -1300000000000000000 ≤ q.a * y.b ∧ q.a * y.b ≤ 1300000000000000000
  h4 : -1300000000000000000 ≤ q.b * y.a ∧ q.b * y.a ≤ 1300000000000000000
  h5 : -1300000000000000000 ≤ T * q.b ∧ T * q.b ≤ 1300000000000000000
  h6 : -1300000000000000000 ≤ T * q.b * y.b ∧ T * q.b * y.b ≤ 1300000000000000000

theorem quo_bd {T : Int} (hT : TT T) {x y : Pp} (hx : Nb T x) (hy : Nb T y) (h0 : y ≠ Pp.zero) : Qb T (quo T x y) y := by
  have hn := norm_pos T hT y h0
  have hz : Bd 870000000000000000 (x.mul T (y.conj T)) := by
    refine part_bd hT (by omega) ?_
    rw [norm_mul, norm_conj]
    have h1 := Int.mul_le_mul hx hy (norm_nonneg T hT y) (by omega)
    omega
  have hyb := part_le_norm hT h0
  have hyn : y.norm T ≤ 750000000000000000 := hy
  obtain ⟨n, hnn⟩ : ∃ n, n = y.norm T := ⟨_, rfl⟩
  have sa := hlf_spec (x.mul T (y.conj T)).a (y.norm T) hn
  have sb := hlf_spec (x.mul T (y.conj T)).b (y.norm T) hn
  obtain ⟨p, hp⟩ : ∃ p, p = (quo T x y).a := ⟨_, rfl⟩
  obtain ⟨r, hr⟩ : ∃ r, r = (quo T x y).b := ⟨_, rfl⟩
  have hp' : hlf (x.mul T (y.conj T)).a (y.norm T) = p := hp.symm
  have hr' : hlf (x.mul T (y.conj T)).b (y.norm T) = r := hr.symm
  rw [hp', ← hnn] at sa
  rw [hr', ← hnn] at sb
  rw [← hnn] at hn hyn hyb
  have a1 := hz.a1
  have a2 := hz.a2
  have b1 := hz.b1
  have b2 := hz.b2
  have e1 : -1300000000000000000 ≤ p * n ∧ p * n ≤ 1300000000000000000 := by omega
  have e2 : -1300000000000000000 ≤ r * n ∧ r * n ≤ 1300000000000000000 := by omega
  have e3 := scale_bd (a := 1) (show 0 ≤ n by omega) e2.1 e2.2 (by omega) (by omega)
  have f4 := scale_bd (show 0 ≤ n by omega) e2.1 e2.2 hyb.b1 hyb.b2
  have f5 := T_bd hT (r * y.b) f4.1 f4.2
  refine ⟨?_, ?_, ?_, ?_, ?_, ?_⟩
  · rw [← hp]; exact scale_bd (show 0 ≤ n by omega) e1.1 e1.2 hyb.a1 hyb.a2
  · rw [← hr]; exact f4
  · rw [← hp]; exact scale_bd (show 0 ≤ n by omega) e1.1 e1.2 hyb.b1 hyb.b2
  · rw [← hr]; exact scale_bd (show 0 ≤ n by omega) e2.1 e2.2 hyb.a1 hyb.a2
  · rw [← hr]; exact T_bd hT r (by omega) (by omega)
  · rw [← hr, Int.mul_assoc]; exact f5

theorem Qb.mul {T : Int} {q y : Pp} (h : Qb T q y) : Bd 4000000000000000000 (q.mul T y) := by
  obtain ⟨h1, h2, h3, h4, h5, h6⟩ := h
  constructor <;> simp only [Pp.mul] <;> omega

/-- One of Euclid's steps. -/
theorem step_less {T : Int} (hT : TT T) {x y : Pp} (hy : Nb T y) (h0 : y ≠ Pp.zero) : Nb T (x.sub ((quo T x y).mul T y)) ∧ (x.sub ((quo T x y).mul T y)).norm T < y.norm T := by
  have h1 := near_less T hT x y _ h0 (quo_near hT x y h0)
  have h2 := norm_pos T hT y h0
  have h3 := norm_nonneg T hT (x.sub ((quo T x y).mul T y))
  have h4 : y.norm T ≤ 750000000000000000 := hy
  unfold Nb
  omega

/-- A pair, read off the world. -/
def rdI (b i : Nat) (W : World) : Int := match W.cell? ⟨b, i, none⟩ with
  | some (.int _ q) => q
  | _ => 0
def rdP (b : Nat) (W : World) : Pp := ⟨rdI b 0 W, rdI b 1 W⟩
theorem Sv.rd {b : Nat} {x : Pp} {W : World} (h : Sv b x.a x.b W) : rdP b W = x := by
  apply Pp.ext'
  · show rdI b 0 W = _; unfold rdI; rw [h.c0]
  · show rdI b 1 W = _; unfold rdI; rw [h.c1]

theorem Gd.to {T : Int} {X Y Z g : Pp} (h : Gd T X Y Z) (d1 : Dv T Z g) (d2 : Dv T g Z) : Gd T X Y g := fun d => (h d).trans ⟨fun k => k.trans d1, fun k => k.trans d2⟩

/-- The state of Euclid's loop. -/
structure Eu2 (b : Nat) (T U : Int) (u x y X Y : Pp) (w W : World) : Prop where
  m : Mem3 b T U u X Y ⟨0, 0⟩ W
  o : Sv (b + 4) 0 0 W
  k : Below b w W
  nx : Nb T X
  ny : Nb T Y
  g : ∀ g, Gd T X Y g → Gd T x y g

theorem Eu2.below {b : Nat} {T U : Int} {u x y X Y : Pp} {w W W' : World} (h : Eu2 b T U u x y X Y w W) (k : Below W.heap.size W W') (hb : b ≤ W.heap.size) : Eu2 b T U u x y X Y w W' :=
  ⟨h.m.below k, h.o.below k, h.k.trans (k.mono hb), h.nx, h.ny, h.g⟩
theorem Eu2.le {b : Nat} {T U : Int} {u x y X Y : Pp} {w W : World} (h : Eu2 b T U u x y X Y w W) : b ≤ W.heap.size := by have := h.o.lt; omega
theorem Eu2.sety {b : Nat} {T U : Int} {u x y X Y : Pp} {w W : World} (h : Eu2 b T U u x y X Y w W) (R : Pp) (hR : Nb T R) (hg : ∀ g, Gd T X R g → Gd T X Y g) : Eu2 b T U u x y X R w ((W.setCell ⟨b + 2, 0, none⟩ (.int .i64 R.a)).setCell ⟨b + 2, 1, none⟩ (.int .i64 R.b)) :=
  ⟨⟨(h.m.r.set _ (by omega)).set _ (by omega), h.m.x.other _ _ (by omega), h.m.y.set _ _, h.m.z.other _ _ (by omega)⟩, h.o.other _ _ (by omega), (h.k.setCell (by show b ≤ b + 2; omega) _).setCell (by show b ≤ b + 2; omega) _, h.nx, hR, fun g k => h.g g (hg g k)⟩
theorem Eu2.setx {b : Nat} {T U : Int} {u x y X Y : Pp} {w W : World} (h : Eu2 b T U u x y X Y w W) (R : Pp) (hR : Nb T R) (hg : ∀ g, Gd T R Y g → Gd T X Y g) : Eu2 b T U u x y R Y w ((W.setCell ⟨b + 1, 0, none⟩ (.int .i64 R.a)).setCell ⟨b + 1, 1, none⟩ (.int .i64 R.b)) :=
  ⟨⟨(h.m.r.set _ (by omega)).set _ (by omega), h.m.x.set _ _, h.m.y.other _ _ (by omega), h.m.z.other _ _ (by omega)⟩, h.o.other _ _ (by omega), (h.k.setCell (by show b ≤ b + 1; omega) _).setCell (by show b ≤ b + 1; omega) _, hR, h.ny, fun g k => h.g g (hg g k)⟩
theorem Eu2.meas {b : Nat} {T U : Int} {u x y X Y X' Y' : Pp} {w W W' : World} (h : Eu2 b T U u x y X Y w W) (k : Eu2 b T U u x y X' Y' w W') (n1 : 0 ≤ X.norm T) (n2 : 0 ≤ Y.norm T) (n3 : 0 ≤ X'.norm T) (n4 : 0 ≤ Y'.norm T) (hl : X'.norm T + Y'.norm T < X.norm T + Y.norm T) :
    ((rdP (b + 1) W').norm T).toNat + ((rdP (b + 2) W').norm T).toNat < ((rdP (b + 1) W).norm T).toNat + ((rdP (b + 2) W).norm T).toNat := by
  rw [h.m.x.rd, h.m.y.rd, k.m.x.rd, k.m.y.rd]; omega
/-- The cells that are read. -/
abbrev Rd3 (b : Nat) (T U : Int) (u X Y : Pp) (w' : World) : Prop :=
  w'.cell? ⟨b, 0, none⟩ = some (.int .i64 T) ∧ w'.cell? ⟨b, 1, none⟩ = some (.int .i64 U) ∧ w'.cell? ⟨b, 2, none⟩ = some (.int .i64 u.a) ∧ w'.cell? ⟨b, 3, none⟩ = some (.int .i64 u.b) ∧ w'.cell? ⟨b + 1, 0, none⟩ = some (.int .i64 X.a) ∧ w'.cell? ⟨b + 1, 1, none⟩ = some (.int .i64 X.b) ∧ w'.cell? ⟨b + 2, 0, none⟩ = some (.int .i64 Y.a) ∧ w'.cell? ⟨b + 2, 1, none⟩ = some (.int .i64 Y.b)
theorem Eu2.rd {b : Nat} {T U : Int} {u x y X Y : Pp} {w W : World} (h : Eu2 b T U u x y X Y w W) : Rd3 b T U u X Y W := ⟨h.m.r.c0, h.m.r.c1, h.m.r.c2, h.m.r.c3, h.m.x.c0, h.m.x.c1, h.m.y.c0, h.m.y.c1⟩

def GreatPost (T : Int) (x y : Pp) (w : World) (e : Ending) (w' : World) : Prop :=
  ∃ g, e = .returned (pv g) ∧ Gd T x y g ∧ (IsCh T g ∨ g = Pp.zero) ∧ Below w.heap.size w w'

set_option maxHeartbeats 8000000 in
theorem Greatest_any (T : Int) (x y : Pp) (w : World) (hT : TT T) (hx : Nb T x) (hy : Nb T y) :
    Calls Tryz.prog 24 #[rv T (unitsN T) (unitOf T), pv x, pv y] w (GreatPost T x y w) := by
  have HX : Hid (Nb T x) := hx
  have HY : Hid (Nb T y) := hy
  have HT : Hid (TT T) := hT
  obtain ⟨U, hU⟩ : ∃ U : Int, U = unitsN T := ⟨_, rfl⟩
  obtain ⟨u, hu⟩ : ∃ u, u = unitOf T := ⟨_, rfl⟩
  have HCh : Hid (∀ x w, Nb T x → Calls Tryz.prog 34 #[rv T U u, pv x] w (ChiefPost T x w)) := by rw [hU, hu]; exact fun x w h => Chief_any T x w hT h
  rw [← hU, ← hu]
  clear hx hy hT hU hu
  go_enter Tryz.func24, Tryz.ntmps24
  go_wp2
  have M0 := (mem3_new w 26 23 23 23 T U u x y).alloc (.cells #[.int .i64 0, .int .i64 0] 23)
  have K0 := (below4 w (.cells #[.int .i64 T, .int .i64 U, .int .i64 u.a, .int .i64 u.b] 26) (.cells #[.int .i64 x.a, .int .i64 x.b] 23) (.cells #[.int .i64 y.a, .int .i64 y.b] 23) (.cells #[.int .i64 0, .int .i64 0] 23)).alloc (by simp; omega) (.cells #[.int .i64 0, .int .i64 0] 23)
  go_loopw [9] (fun _ wx => Hid (∃ X Y, Eu2 w.heap.size T U u x y X Y w wx)) (fun _ wx => ((rdP (w.heap.size + 1) wx).norm T).toNat + ((rdP (w.heap.size + 2) wx).norm T).toNat)
  case atStart => exact ⟨x, y, M0, sv_new _ _ _ (by simp) _ _, K0, HX.out, HY.out, fun g h => h⟩
  case round =>
    clear M0 K0
    have HR := hrel
    clear hrel
    obtain ⟨X, Y, E⟩ := HR.out
    have HE : Hid (Eu2 w.heap.size T U u x y X Y w wr) := E
    have r0 := E.m.r.c0
    have r1 := E.m.r.c1
    have r2 := E.m.r.c2
    have r3 := E.m.r.c3
    have x0 := E.m.x.c0
    have x1 := E.m.x.c1
    have y0 := E.m.y.c0
    have y1 := E.m.y.c1
    have o0 := E.o.c0
    have o1 := E.o.c1
    have lt := E.o.lt
    clear HR E
    by_cases hX : X = Pp.zero
    · subst hX
      go_wp2_with fail
      refine (HCh.out Y wr HE.out.ny).mono ?_
      rintro e w1 ⟨g, rfl, d1, d2, hc, k1⟩
      have Z1 := HE.out.m.z.below k1
      have s0 := Z1.c0
      have s1 := Z1.c1
      have s2 := Z1.f0
      have s3 := Z1.f1
      have s4 := Z1.lt
      have HK : Hid (Below w.heap.size w w1) := HE.out.k.trans (k1.mono HE.out.k.size)
      have HG : Hid (Gd T x y g) := HE.out.g g ((Gd.zero T Y).symm.to d1 d2)
      have HC : Hid (IsCh T g ∨ g = Pp.zero) := hc.imp id (fun h => h.2)
      clear Z1 d1 d2 hc k1 r0 r1 r2 r3 x0 x1 y0 y1 o0 o1
      go_wp2
      refine bodyPost_ret (v := pv g) (by simp [results, Tryz.results24, go_sem, s0, s1, s4]) rfl ⟨g, rfl, HG.out, HC.out, ?_⟩
      exact (HK.out.setCell (by simp <;> omega) _).setCell (by simp <;> omega) _
    · have hXe : (X.a == 0) = false ∨ ((X.a == 0) = true ∧ (X.b == 0) = false) := by
        rcases Decidable.em (X.a = 0) with h | h
        · exact .inr ⟨beq_iff_eq.2 h, beq_eq_false_iff_ne.2 (fun k => hX (Pp.ext' h k))⟩
        · exact .inl (beq_eq_false_iff_ne.2 h)
      by_cases hY : Y = Pp.zero
      · subst hY
        have HZX : Hid (X ≠ Pp.zero) := hX
        clear hX
        have hz1 : Pp.zero.a = 0 := rfl
        have hz2 : Pp.zero.b = 0 := rfl
        rw [hz1] at y0
        rw [hz2] at y1
        clear hz1 hz2
        rcases hXe with hXe | ⟨hXe, hXf⟩
        all_goals
          go_wp2_with fail
          refine (HCh.out X wr HE.out.nx).mono ?_
          rintro e w1 ⟨g, rfl, d1, d2, hc, k1⟩
          have Z1 := HE.out.m.z.below k1
          have s0 := Z1.c0
          have s1 := Z1.c1
          have s2 := Z1.f0
          have s3 := Z1.f1
          have s4 := Z1.lt
          have HK : Hid (Below w.heap.size w w1) := HE.out.k.trans (k1.mono HE.out.k.size)
          have HG : Hid (Gd T x y g) := HE.out.g g ((Gd.zero T X).to d1 d2)
          have HC : Hid (IsCh T g ∨ g = Pp.zero) := hc.imp id (fun h => h.2)
          clear Z1 d1 d2 hc k1 r0 r1 r2 r3 x0 x1 y0 y1 o0 o1
          go_wp2
          refine bodyPost_ret (v := pv g) (by simp [results, Tryz.results24, go_sem, s0, s1, s4]) rfl ⟨g, rfl, HG.out, HC.out, ?_⟩
          exact (HK.out.setCell (by simp <;> omega) _).setCell (by simp <;> omega) _
      · have hYe : (Y.a == 0) = false ∨ ((Y.a == 0) = true ∧ (Y.b == 0) = false) := by
          rcases Decidable.em (Y.a = 0) with h | h
          · exact .inr ⟨beq_iff_eq.2 h, beq_eq_false_iff_ne.2 (fun k => hY (Pp.ext' h k))⟩
          · exact .inl (beq_eq_false_iff_ne.2 h)
        have HZX : Hid (X ≠ Pp.zero) := hX
        have HZY : Hid (Y ≠ Pp.zero) := hY
        clear hX hY
        rcases hXe with hXe | ⟨hXe, hXf⟩ <;> rcases hYe with hYe | ⟨hYe, hYf⟩
        · go_wp2_with fail
          have HXB : Hid (Bd 1000000000 X) := HE.out.nx.bd HT.out
          have HYB : Hid (Bd 1000000000 Y) := HE.out.ny.bd HT.out
          refine wp_region_G (Rd3 w.heap.size T U u X Y) 6 (by kernel_rfl) HE.out.rd (fun hHeld => ?_)
          refine wpAnyG_take (i := 0) (v := ?v0x1) rfl (by kernel_rfl) (fun _ _ _ h => h) (Or.inl ⟨by rfl, ?y0x1⟩) hHeld ?r0x1
          case y0x1 => (intro wS hSw; obtain ⟨s1, s2, s3, s4, s5, s6, s7, s8⟩ := hSw; go_simp; try with_reducible rfl)
          try simp only [Act.put, List.setIfInBounds_toArray, List.set_cons_zero, List.set_cons_succ]
          refine wpAnyG_take (i := 1) (v := ?v1x2) rfl (by kernel_rfl) (fun _ _ _ h => h) (Or.inl ⟨by rfl, ?y1x2⟩) hHeld ?r1x2
          case y1x2 => (intro wS hSw; obtain ⟨s1, s2, s3, s4, s5, s6, s7, s8⟩ := hSw; go_simp; try with_reducible rfl)
          try simp only [Act.put, List.setIfInBounds_toArray, List.set_cons_zero, List.set_cons_succ]
          refine wpAnyG_take (i := 3) (v := ?v3x3) rfl (by kernel_rfl) (fun _ _ _ h => h) (Or.inl ⟨by rfl, ?y3x3⟩) hHeld ?r3x3
          case y3x3 => (intro wS hSw; obtain ⟨s1, s2, s3, s4, s5, s6, s7, s8⟩ := hSw; go_simp; try with_reducible rfl)
          try simp only [Act.put, List.setIfInBounds_toArray, List.set_cons_zero, List.set_cons_succ]
          refine wpAnyG_take (i := 4) (v := ?v4x4) rfl (by kernel_rfl) (fun _ _ _ h => h) (Or.inl ⟨by rfl, ?y4x4⟩) hHeld ?r4x4
          case y4x4 => (intro wS hSw; obtain ⟨s1, s2, s3, s4, s5, s6, s7, s8⟩ := hSw; go_simp; try with_reducible rfl)
          try simp only [Act.put, List.setIfInBounds_toArray, List.set_cons_zero, List.set_cons_succ]
          refine wpAnyG_one (i := 2) rfl (by kernel_rfl) (fun K hK => ?_)
          go_simp
          refine (Norm_any T U u X _ HT.out HXB.out).mono ?_
          rintro e w1 ⟨rfl, k1⟩
          have E1 := HE.out.below (((Below.refl _ _).drew).trans k1) HE.out.le
          refine hK.out _ _ E1.rd ?_
          clear hK K
          try simp only [Act.put, List.setIfInBounds_toArray, List.set_cons_zero, List.set_cons_succ]
          refine wpAnyG_one (i := 5) rfl (by kernel_rfl) (fun K hK => ?_)
          go_simp
          refine (Norm_any T U u Y _ HT.out HYB.out).mono ?_
          rintro e w2 ⟨rfl, k2⟩
          have E2 := E1.below k2 E1.le
          refine hK.out _ _ E2.rd ?_
          clear hK K
          try simp only [Act.put, List.setIfInBounds_toArray, List.set_cons_zero, List.set_cons_succ]
          refine wpAnyG_last (i := 6) rfl (by kernel_rfl) (by kernel_rfl) (fun K hK => ?_)
          go_simp
          refine hK.out _ _ ?_
          clear hK K
          try simp only [Act.put, List.setIfInBounds_toArray, List.set_cons_zero, List.set_cons_succ]
          refine wpAnyG_done (by kernel_rfl) ?_ _
          clear E1 k1 k2 hHeld r0 r1 r2 r3 x0 x1 y0 y1 o0 o1 lt HXB HYB
          obtain ⟨nX, hnX⟩ : ∃ nX, nX = X.norm T := ⟨_, rfl⟩
          obtain ⟨nY, hnY⟩ : ∃ nY, nY = Y.norm T := ⟨_, rfl⟩
          rw [← hnX, ← hnY]
          have HnX : Hid (nX = X.norm T) := hnX
          have HnY : Hid (nY = Y.norm T) := hnY
          clear hnX hnY
          by_cases hlt : nX < nY
          · have hlb : decide (nX < nY) = true := decide_eq_true hlt
            go_wp2_with fail
            have HQ : Hid (Qb T (quo T Y X) X) := quo_bd HT.out E2.ny E2.nx HZX.out
            have HS : Hid (Nb T (Y.sub ((quo T Y X).mul T X)) ∧ (Y.sub ((quo T Y X).mul T X)).norm T < X.norm T) := step_less HT.out E2.nx HZX.out
            have HBd : Hid (Bd 4000000000000000000 Y) := bd_mono (E2.ny.bd HT.out) (by omega)
            refine wp_region_G (Rd3 w.heap.size T U u X Y) 10 (by kernel_rfl) E2.rd (fun hHeld => ?_)
            refine wpAnyG_take (i := 0) (v := ?v0x5) rfl (by kernel_rfl) (fun _ _ _ h => h) (Or.inl ⟨by rfl, ?y0x5⟩) hHeld ?r0x5
            case y0x5 => (intro wS hSw; obtain ⟨s1, s2, s3, s4, s5, s6, s7, s8⟩ := hSw; go_simp; try with_reducible rfl)
            try simp only [Act.put, List.setIfInBounds_toArray, List.set_cons_zero, List.set_cons_succ]
            refine wpAnyG_take (i := 1) (v := ?v1x6) rfl (by kernel_rfl) (fun _ _ _ h => h) (Or.inl ⟨by rfl, ?y1x6⟩) hHeld ?r1x6
            case y1x6 => (intro wS hSw; obtain ⟨s1, s2, s3, s4, s5, s6, s7, s8⟩ := hSw; go_simp; try with_reducible rfl)
            try simp only [Act.put, List.setIfInBounds_toArray, List.set_cons_zero, List.set_cons_succ]
            refine wpAnyG_take (i := 2) (v := ?v2x7) rfl (by kernel_rfl) (fun _ _ _ h => h) (Or.inl ⟨by rfl, ?y2x7⟩) hHeld ?r2x7
            case y2x7 => (intro wS hSw; obtain ⟨s1, s2, s3, s4, s5, s6, s7, s8⟩ := hSw; go_simp; try with_reducible rfl)
            try simp only [Act.put, List.setIfInBounds_toArray, List.set_cons_zero, List.set_cons_succ]
            refine wpAnyG_take (i := 3) (v := ?v3x8) rfl (by kernel_rfl) (fun _ _ _ h => h) (Or.inl ⟨by rfl, ?y3x8⟩) hHeld ?r3x8
            case y3x8 => (intro wS hSw; obtain ⟨s1, s2, s3, s4, s5, s6, s7, s8⟩ := hSw; go_simp; try with_reducible rfl)
            try simp only [Act.put, List.setIfInBounds_toArray, List.set_cons_zero, List.set_cons_succ]
            refine wpAnyG_take (i := 4) (v := ?v4x9) rfl (by kernel_rfl) (fun _ _ _ h => h) (Or.inl ⟨by rfl, ?y4x9⟩) hHeld ?r4x9
            case y4x9 => (intro wS hSw; obtain ⟨s1, s2, s3, s4, s5, s6, s7, s8⟩ := hSw; go_simp; try with_reducible rfl)
            try simp only [Act.put, List.setIfInBounds_toArray, List.set_cons_zero, List.set_cons_succ]
            refine wpAnyG_take (i := 5) (v := ?v5x10) rfl (by kernel_rfl) (fun _ _ _ h => h) (Or.inl ⟨by rfl, ?y5x10⟩) hHeld ?r5x10
            case y5x10 => (intro wS hSw; obtain ⟨s1, s2, s3, s4, s5, s6, s7, s8⟩ := hSw; go_simp; try with_reducible rfl)
            try simp only [Act.put, List.setIfInBounds_toArray, List.set_cons_zero, List.set_cons_succ]
            refine wpAnyG_take (i := 7) (v := ?v7x11) rfl (by kernel_rfl) (fun _ _ _ h => h) (Or.inl ⟨by rfl, ?y7x11⟩) hHeld ?r7x11
            case y7x11 => (intro wS hSw; obtain ⟨s1, s2, s3, s4, s5, s6, s7, s8⟩ := hSw; go_simp; try with_reducible rfl)
            try simp only [Act.put, List.setIfInBounds_toArray, List.set_cons_zero, List.set_cons_succ]
            refine wpAnyG_one (i := 6) rfl (by kernel_rfl) (fun K hK => ?_)
            go_simp
            refine (Quotient_any T U u Y X _ HT.out E2.ny E2.nx HZX.out).mono ?_
            rintro e w3 ⟨rfl, k3⟩
            have E3 := E2.below (((Below.refl _ _).drew).trans k3) E2.le
            refine hK.out _ _ E3.rd ?_
            clear hK K
            try simp only [Act.put, List.setIfInBounds_toArray, List.set_cons_zero, List.set_cons_succ]
            refine wpAnyG_one (i := 8) rfl (by kernel_rfl) (fun K hK => ?_)
            go_simp
            refine (Times_any T U u (quo T Y X) X _ (by have := HQ.out.h1; omega) (by have := HQ.out.h2; omega) (by have := HQ.out.h3; omega) (by have := HQ.out.h4; omega) (by have := HQ.out.h5; omega) (by have := HQ.out.h6; omega)).mono ?_
            rintro e w4 ⟨rfl, k4⟩
            have E4 := E3.below k4 E3.le
            refine hK.out _ _ E4.rd ?_
            clear hK K
            try simp only [Act.put, List.setIfInBounds_toArray, List.set_cons_zero, List.set_cons_succ]
            refine wpAnyG_one (i := 9) rfl (by kernel_rfl) (fun K hK => ?_)
            go_simp
            refine (Less_ring T U u Y _ _ HBd.out HQ.out.mul).mono ?_
            rintro e w5 ⟨rfl, k5⟩
            have E5 := E4.below k5 E4.le
            refine hK.out _ _ E5.rd ?_
            clear hK K
            try simp only [Act.put, List.setIfInBounds_toArray, List.set_cons_zero, List.set_cons_succ]
            have q0 := E5.m.y.c0
            have q1 := E5.m.y.c1
            have q2 := E5.m.y.f0
            have q3 := E5.m.y.f1
            have q4 := E5.o.lt
            refine wpAnyG_last (i := 10) rfl (by kernel_rfl) (by kernel_rfl) (fun K hK => ?_)
            go_simp
            refine hK.out _ _ ?_
            clear hK K
            try simp only [Act.put, List.setIfInBounds_toArray, List.set_cons_zero, List.set_cons_succ]
            refine wpAnyG_done (by kernel_rfl) ?_ _
            go_wp2
            go_roundw
            case rel => exact ⟨X, _, E5.sety _ HS.out.1 (fun g h => (Gd.step h.symm).symm)⟩
            case measure =>
              have h1 := HS.out.2
              have h2 := HnX.out
              have h3 := HnY.out
              exact HE.out.meas (E5.sety _ HS.out.1 (fun g h => (Gd.step h.symm).symm)) (norm_nonneg T HT.out _) (norm_nonneg T HT.out _) (norm_nonneg T HT.out _) (norm_nonneg T HT.out _) (by omega)
          · have hlb : decide (nX < nY) = false := decide_eq_false hlt
            go_wp2_with fail
            have HQ : Hid (Qb T (quo T X Y) Y) := quo_bd HT.out E2.nx E2.ny HZY.out
            have HS : Hid (Nb T (X.sub ((quo T X Y).mul T Y)) ∧ (X.sub ((quo T X Y).mul T Y)).norm T < Y.norm T) := step_less HT.out E2.ny HZY.out
            have HBd : Hid (Bd 4000000000000000000 X) := bd_mono (E2.nx.bd HT.out) (by omega)
            refine wp_region_G (Rd3 w.heap.size T U u X Y) 10 (by kernel_rfl) E2.rd (fun hHeld => ?_)
            refine wpAnyG_take (i := 0) (v := ?v0x12) rfl (by kernel_rfl) (fun _ _ _ h => h) (Or.inl ⟨by rfl, ?y0x12⟩) hHeld ?r0x12
            case y0x12 => (intro wS hSw; obtain ⟨s1, s2, s3, s4, s5, s6, s7, s8⟩ := hSw; go_simp; try with_reducible rfl)
            try simp only [Act.put, List.setIfInBounds_toArray, List.set_cons_zero, List.set_cons_succ]
            refine wpAnyG_take (i := 1) (v := ?v1x13) rfl (by kernel_rfl) (fun _ _ _ h => h) (Or.inl ⟨by rfl, ?y1x13⟩) hHeld ?r1x13
            case y1x13 => (intro wS hSw; obtain ⟨s1, s2, s3, s4, s5, s6, s7, s8⟩ := hSw; go_simp; try with_reducible rfl)
            try simp only [Act.put, List.setIfInBounds_toArray, List.set_cons_zero, List.set_cons_succ]
            refine wpAnyG_take (i := 2) (v := ?v2x14) rfl (by kernel_rfl) (fun _ _ _ h => h) (Or.inl ⟨by rfl, ?y2x14⟩) hHeld ?r2x14
            case y2x14 => (intro wS hSw; obtain ⟨s1, s2, s3, s4, s5, s6, s7, s8⟩ := hSw; go_simp; try with_reducible rfl)
            try simp only [Act.put, List.setIfInBounds_toArray, List.set_cons_zero, List.set_cons_succ]
            refine wpAnyG_take (i := 3) (v := ?v3x15) rfl (by kernel_rfl) (fun _ _ _ h => h) (Or.inl ⟨by rfl, ?y3x15⟩) hHeld ?r3x15
            case y3x15 => (intro wS hSw; obtain ⟨s1, s2, s3, s4, s5, s6, s7, s8⟩ := hSw; go_simp; try with_reducible rfl)
            try simp only [Act.put, List.setIfInBounds_toArray, List.set_cons_zero, List.set_cons_succ]
            refine wpAnyG_take (i := 4) (v := ?v4x16) rfl (by kernel_rfl) (fun _ _ _ h => h) (Or.inl ⟨by rfl, ?y4x16⟩) hHeld ?r4x16
            case y4x16 => (intro wS hSw; obtain ⟨s1, s2, s3, s4, s5, s6, s7, s8⟩ := hSw; go_simp; try with_reducible rfl)
            try simp only [Act.put, List.setIfInBounds_toArray, List.set_cons_zero, List.set_cons_succ]
            refine wpAnyG_take (i := 5) (v := ?v5x17) rfl (by kernel_rfl) (fun _ _ _ h => h) (Or.inl ⟨by rfl, ?y5x17⟩) hHeld ?r5x17
            case y5x17 => (intro wS hSw; obtain ⟨s1, s2, s3, s4, s5, s6, s7, s8⟩ := hSw; go_simp; try with_reducible rfl)
            try simp only [Act.put, List.setIfInBounds_toArray, List.set_cons_zero, List.set_cons_succ]
            refine wpAnyG_take (i := 7) (v := ?v7x18) rfl (by kernel_rfl) (fun _ _ _ h => h) (Or.inl ⟨by rfl, ?y7x18⟩) hHeld ?r7x18
            case y7x18 => (intro wS hSw; obtain ⟨s1, s2, s3, s4, s5, s6, s7, s8⟩ := hSw; go_simp; try with_reducible rfl)
            try simp only [Act.put, List.setIfInBounds_toArray, List.set_cons_zero, List.set_cons_succ]
            refine wpAnyG_one (i := 6) rfl (by kernel_rfl) (fun K hK => ?_)
            go_simp
            refine (Quotient_any T U u X Y _ HT.out E2.nx E2.ny HZY.out).mono ?_
            rintro e w3 ⟨rfl, k3⟩
            have E3 := E2.below (((Below.refl _ _).drew).trans k3) E2.le
            refine hK.out _ _ E3.rd ?_
            clear hK K
            try simp only [Act.put, List.setIfInBounds_toArray, List.set_cons_zero, List.set_cons_succ]
            refine wpAnyG_one (i := 8) rfl (by kernel_rfl) (fun K hK => ?_)
            go_simp
            refine (Times_any T U u (quo T X Y) Y _ (by have := HQ.out.h1; omega) (by have := HQ.out.h2; omega) (by have := HQ.out.h3; omega) (by have := HQ.out.h4; omega) (by have := HQ.out.h5; omega) (by have := HQ.out.h6; omega)).mono ?_
            rintro e w4 ⟨rfl, k4⟩
            have E4 := E3.below k4 E3.le
            refine hK.out _ _ E4.rd ?_
            clear hK K
            try simp only [Act.put, List.setIfInBounds_toArray, List.set_cons_zero, List.set_cons_succ]
            refine wpAnyG_one (i := 9) rfl (by kernel_rfl) (fun K hK => ?_)
            go_simp
            refine (Less_ring T U u X _ _ HBd.out HQ.out.mul).mono ?_
            rintro e w5 ⟨rfl, k5⟩
            have E5 := E4.below k5 E4.le
            refine hK.out _ _ E5.rd ?_
            clear hK K
            try simp only [Act.put, List.setIfInBounds_toArray, List.set_cons_zero, List.set_cons_succ]
            have q0 := E5.m.x.c0
            have q1 := E5.m.x.c1
            have q2 := E5.m.x.f0
            have q3 := E5.m.x.f1
            have q4 := E5.o.lt
            refine wpAnyG_last (i := 10) rfl (by kernel_rfl) (by kernel_rfl) (fun K hK => ?_)
            go_simp
            refine hK.out _ _ ?_
            clear hK K
            try simp only [Act.put, List.setIfInBounds_toArray, List.set_cons_zero, List.set_cons_succ]
            refine wpAnyG_done (by kernel_rfl) ?_ _
            go_wp2
            go_roundw
            case rel => exact ⟨_, Y, E5.setx _ HS.out.1 (fun g h => Gd.step h)⟩
            case measure =>
              have h1 := HS.out.2
              have h2 := HnX.out
              have h3 := HnY.out
              exact HE.out.meas (E5.setx _ HS.out.1 (fun g h => Gd.step h)) (norm_nonneg T HT.out _) (norm_nonneg T HT.out _) (norm_nonneg T HT.out _) (norm_nonneg T HT.out _) (by omega)
        · go_wp2_with fail
          have HXB : Hid (Bd 1000000000 X) := HE.out.nx.bd HT.out
          have HYB : Hid (Bd 1000000000 Y) := HE.out.ny.bd HT.out
          refine wp_region_G (Rd3 w.heap.size T U u X Y) 6 (by kernel_rfl) HE.out.rd (fun hHeld => ?_)
          refine wpAnyG_take (i := 0) (v := ?v0x19) rfl (by kernel_rfl) (fun _ _ _ h => h) (Or.inl ⟨by rfl, ?y0x19⟩) hHeld ?r0x19
          case y0x19 => (intro wS hSw; obtain ⟨s1, s2, s3, s4, s5, s6, s7, s8⟩ := hSw; go_simp; try with_reducible rfl)
          try simp only [Act.put, List.setIfInBounds_toArray, List.set_cons_zero, List.set_cons_succ]
          refine wpAnyG_take (i := 1) (v := ?v1x20) rfl (by kernel_rfl) (fun _ _ _ h => h) (Or.inl ⟨by rfl, ?y1x20⟩) hHeld ?r1x20
          case y1x20 => (intro wS hSw; obtain ⟨s1, s2, s3, s4, s5, s6, s7, s8⟩ := hSw; go_simp; try with_reducible rfl)
          try simp only [Act.put, List.setIfInBounds_toArray, List.set_cons_zero, List.set_cons_succ]
          refine wpAnyG_take (i := 3) (v := ?v3x21) rfl (by kernel_rfl) (fun _ _ _ h => h) (Or.inl ⟨by rfl, ?y3x21⟩) hHeld ?r3x21
          case y3x21 => (intro wS hSw; obtain ⟨s1, s2, s3, s4, s5, s6, s7, s8⟩ := hSw; go_simp; try with_reducible rfl)
          try simp only [Act.put, List.setIfInBounds_toArray, List.set_cons_zero, List.set_cons_succ]
          refine wpAnyG_take (i := 4) (v := ?v4x22) rfl (by kernel_rfl) (fun _ _ _ h => h) (Or.inl ⟨by rfl, ?y4x22⟩) hHeld ?r4x22
          case y4x22 => (intro wS hSw; obtain ⟨s1, s2, s3, s4, s5, s6, s7, s8⟩ := hSw; go_simp; try with_reducible rfl)
          try simp only [Act.put, List.setIfInBounds_toArray, List.set_cons_zero, List.set_cons_succ]
          refine wpAnyG_one (i := 2) rfl (by kernel_rfl) (fun K hK => ?_)
          go_simp
          refine (Norm_any T U u X _ HT.out HXB.out).mono ?_
          rintro e w1 ⟨rfl, k1⟩
          have E1 := HE.out.below (((Below.refl _ _).drew).trans k1) HE.out.le
          refine hK.out _ _ E1.rd ?_
          clear hK K
          try simp only [Act.put, List.setIfInBounds_toArray, List.set_cons_zero, List.set_cons_succ]
          refine wpAnyG_one (i := 5) rfl (by kernel_rfl) (fun K hK => ?_)
          go_simp
          refine (Norm_any T U u Y _ HT.out HYB.out).mono ?_
          rintro e w2 ⟨rfl, k2⟩
          have E2 := E1.below k2 E1.le
          refine hK.out _ _ E2.rd ?_
          clear hK K
          try simp only [Act.put, List.setIfInBounds_toArray, List.set_cons_zero, List.set_cons_succ]
          refine wpAnyG_last (i := 6) rfl (by kernel_rfl) (by kernel_rfl) (fun K hK => ?_)
          go_simp
          refine hK.out _ _ ?_
          clear hK K
          try simp only [Act.put, List.setIfInBounds_toArray, List.set_cons_zero, List.set_cons_succ]
          refine wpAnyG_done (by kernel_rfl) ?_ _
          clear E1 k1 k2 hHeld r0 r1 r2 r3 x0 x1 y0 y1 o0 o1 lt HXB HYB
          obtain ⟨nX, hnX⟩ : ∃ nX, nX = X.norm T := ⟨_, rfl⟩
          obtain ⟨nY, hnY⟩ : ∃ nY, nY = Y.norm T := ⟨_, rfl⟩
          rw [← hnX, ← hnY]
          have HnX : Hid (nX = X.norm T) := hnX
          have HnY : Hid (nY = Y.norm T) := hnY
          clear hnX hnY
          by_cases hlt : nX < nY
          · have hlb : decide (nX < nY) = true := decide_eq_true hlt
            go_wp2_with fail
            have HQ : Hid (Qb T (quo T Y X) X) := quo_bd HT.out E2.ny E2.nx HZX.out
            have HS : Hid (Nb T (Y.sub ((quo T Y X).mul T X)) ∧ (Y.sub ((quo T Y X).mul T X)).norm T < X.norm T) := step_less HT.out E2.nx HZX.out
            have HBd : Hid (Bd 4000000000000000000 Y) := bd_mono (E2.ny.bd HT.out) (by omega)
            refine wp_region_G (Rd3 w.heap.size T U u X Y) 10 (by kernel_rfl) E2.rd (fun hHeld => ?_)
            refine wpAnyG_take (i := 0) (v := ?v0x23) rfl (by kernel_rfl) (fun _ _ _ h => h) (Or.inl ⟨by rfl, ?y0x23⟩) hHeld ?r0x23
            case y0x23 => (intro wS hSw; obtain ⟨s1, s2, s3, s4, s5, s6, s7, s8⟩ := hSw; go_simp; try with_reducible rfl)
            try simp only [Act.put, List.setIfInBounds_toArray, List.set_cons_zero, List.set_cons_succ]
            refine wpAnyG_take (i := 1) (v := ?v1x24) rfl (by kernel_rfl) (fun _ _ _ h => h) (Or.inl ⟨by rfl, ?y1x24⟩) hHeld ?r1x24
            case y1x24 => (intro wS hSw; obtain ⟨s1, s2, s3, s4, s5, s6, s7, s8⟩ := hSw; go_simp; try with_reducible rfl)
            try simp only [Act.put, List.setIfInBounds_toArray, List.set_cons_zero, List.set_cons_succ]
            refine wpAnyG_take (i := 2) (v := ?v2x25) rfl (by kernel_rfl) (fun _ _ _ h => h) (Or.inl ⟨by rfl, ?y2x25⟩) hHeld ?r2x25
            case y2x25 => (intro wS hSw; obtain ⟨s1, s2, s3, s4, s5, s6, s7, s8⟩ := hSw; go_simp; try with_reducible rfl)
            try simp only [Act.put, List.setIfInBounds_toArray, List.set_cons_zero, List.set_cons_succ]
            refine wpAnyG_take (i := 3) (v := ?v3x26) rfl (by kernel_rfl) (fun _ _ _ h => h) (Or.inl ⟨by rfl, ?y3x26⟩) hHeld ?r3x26
            case y3x26 => (intro wS hSw; obtain ⟨s1, s2, s3, s4, s5, s6, s7, s8⟩ := hSw; go_simp; try with_reducible rfl)
            try simp only [Act.put, List.setIfInBounds_toArray, List.set_cons_zero, List.set_cons_succ]
            refine wpAnyG_take (i := 4) (v := ?v4x27) rfl (by kernel_rfl) (fun _ _ _ h => h) (Or.inl ⟨by rfl, ?y4x27⟩) hHeld ?r4x27
            case y4x27 => (intro wS hSw; obtain ⟨s1, s2, s3, s4, s5, s6, s7, s8⟩ := hSw; go_simp; try with_reducible rfl)
            try simp only [Act.put, List.setIfInBounds_toArray, List.set_cons_zero, List.set_cons_succ]
            refine wpAnyG_take (i := 5) (v := ?v5x28) rfl (by kernel_rfl) (fun _ _ _ h => h) (Or.inl ⟨by rfl, ?y5x28⟩) hHeld ?r5x28
            case y5x28 => (intro wS hSw; obtain ⟨s1, s2, s3, s4, s5, s6, s7, s8⟩ := hSw; go_simp; try with_reducible rfl)
            try simp only [Act.put, List.setIfInBounds_toArray, List.set_cons_zero, List.set_cons_succ]
            refine wpAnyG_take (i := 7) (v := ?v7x29) rfl (by kernel_rfl) (fun _ _ _ h => h) (Or.inl ⟨by rfl, ?y7x29⟩) hHeld ?r7x29
            case y7x29 => (intro wS hSw; obtain ⟨s1, s2, s3, s4, s5, s6, s7, s8⟩ := hSw; go_simp; try with_reducible rfl)
            try simp only [Act.put, List.setIfInBounds_toArray, List.set_cons_zero, List.set_cons_succ]
            refine wpAnyG_one (i := 6) rfl (by kernel_rfl) (fun K hK => ?_)
            go_simp
            refine (Quotient_any T U u Y X _ HT.out E2.ny E2.nx HZX.out).mono ?_
            rintro e w3 ⟨rfl, k3⟩
            have E3 := E2.below (((Below.refl _ _).drew).trans k3) E2.le
            refine hK.out _ _ E3.rd ?_
            clear hK K
            try simp only [Act.put, List.setIfInBounds_toArray, List.set_cons_zero, List.set_cons_succ]
            refine wpAnyG_one (i := 8) rfl (by kernel_rfl) (fun K hK => ?_)
            go_simp
            refine (Times_any T U u (quo T Y X) X _ (by have := HQ.out.h1; omega) (by have := HQ.out.h2; omega) (by have := HQ.out.h3; omega) (by have := HQ.out.h4; omega) (by have := HQ.out.h5; omega) (by have := HQ.out.h6; omega)).mono ?_
            rintro e w4 ⟨rfl, k4⟩
            have E4 := E3.below k4 E3.le
            refine hK.out _ _ E4.rd ?_
            clear hK K
            try simp only [Act.put, List.setIfInBounds_toArray, List.set_cons_zero, List.set_cons_succ]
            refine wpAnyG_one (i := 9) rfl (by kernel_rfl) (fun K hK => ?_)
            go_simp
            refine (Less_ring T U u Y _ _ HBd.out HQ.out.mul).mono ?_
            rintro e w5 ⟨rfl, k5⟩
            have E5 := E4.below k5 E4.le
            refine hK.out _ _ E5.rd ?_
            clear hK K
            try simp only [Act.put, List.setIfInBounds_toArray, List.set_cons_zero, List.set_cons_succ]
            have q0 := E5.m.y.c0
            have q1 := E5.m.y.c1
            have q2 := E5.m.y.f0
            have q3 := E5.m.y.f1
            have q4 := E5.o.lt
            refine wpAnyG_last (i := 10) rfl (by kernel_rfl) (by kernel_rfl) (fun K hK => ?_)
            go_simp
            refine hK.out _ _ ?_
            clear hK K
            try simp only [Act.put, List.setIfInBounds_toArray, List.set_cons_zero, List.set_cons_succ]
            refine wpAnyG_done (by kernel_rfl) ?_ _
            go_wp2
            go_roundw
            case rel => exact ⟨X, _, E5.sety _ HS.out.1 (fun g h => (Gd.step h.symm).symm)⟩
            case measure =>
              have h1 := HS.out.2
              have h2 := HnX.out
              have h3 := HnY.out
              exact HE.out.meas (E5.sety _ HS.out.1 (fun g h => (Gd.step h.symm).symm)) (norm_nonneg T HT.out _) (norm_nonneg T HT.out _) (norm_nonneg T HT.out _) (norm_nonneg T HT.out _) (by omega)
          · have hlb : decide (nX < nY) = false := decide_eq_false hlt
            go_wp2_with fail
            have HQ : Hid (Qb T (quo T X Y) Y) := quo_bd HT.out E2.nx E2.ny HZY.out
            have HS : Hid (Nb T (X.sub ((quo T X Y).mul T Y)) ∧ (X.sub ((quo T X Y).mul T Y)).norm T < Y.norm T) := step_less HT.out E2.ny HZY.out
            have HBd : Hid (Bd 4000000000000000000 X) := bd_mono (E2.nx.bd HT.out) (by omega)
            refine wp_region_G (Rd3 w.heap.size T U u X Y) 10 (by kernel_rfl) E2.rd (fun hHeld => ?_)
            refine wpAnyG_take (i := 0) (v := ?v0x30) rfl (by kernel_rfl) (fun _ _ _ h => h) (Or.inl ⟨by rfl, ?y0x30⟩) hHeld ?r0x30
            case y0x30 => (intro wS hSw; obtain ⟨s1, s2, s3, s4, s5, s6, s7, s8⟩ := hSw; go_simp; try with_reducible rfl)
            try simp only [Act.put, List.setIfInBounds_toArray, List.set_cons_zero, List.set_cons_succ]
            refine wpAnyG_take (i := 1) (v := ?v1x31) rfl (by kernel_rfl) (fun _ _ _ h => h) (Or.inl ⟨by rfl, ?y1x31⟩) hHeld ?r1x31
            case y1x31 => (intro wS hSw; obtain ⟨s1, s2, s3, s4, s5, s6, s7, s8⟩ := hSw; go_simp; try with_reducible rfl)
            try simp only [Act.put, List.setIfInBounds_toArray, List.set_cons_zero, List.set_cons_succ]
            refine wpAnyG_take (i := 2) (v := ?v2x32) rfl (by kernel_rfl) (fun _ _ _ h => h) (Or.inl ⟨by rfl, ?y2x32⟩) hHeld ?r2x32
            case y2x32 => (intro wS hSw; obtain ⟨s1, s2, s3, s4, s5, s6, s7, s8⟩ := hSw; go_simp; try with_reducible rfl)
            try simp only [Act.put, List.setIfInBounds_toArray, List.set_cons_zero, List.set_cons_succ]
            refine wpAnyG_take (i := 3) (v := ?v3x33) rfl (by kernel_rfl) (fun _ _ _ h => h) (Or.inl ⟨by rfl, ?y3x33⟩) hHeld ?r3x33
            case y3x33 => (intro wS hSw; obtain ⟨s1, s2, s3, s4, s5, s6, s7, s8⟩ := hSw; go_simp; try with_reducible rfl)
            try simp only [Act.put, List.setIfInBounds_toArray, List.set_cons_zero, List.set_cons_succ]
            refine wpAnyG_take (i := 4) (v := ?v4x34) rfl (by kernel_rfl) (fun _ _ _ h => h) (Or.inl ⟨by rfl, ?y4x34⟩) hHeld ?r4x34
            case y4x34 => (intro wS hSw; obtain ⟨s1, s2, s3, s4, s5, s6, s7, s8⟩ := hSw; go_simp; try with_reducible rfl)
            try simp only [Act.put, List.setIfInBounds_toArray, List.set_cons_zero, List.set_cons_succ]
            refine wpAnyG_take (i := 5) (v := ?v5x35) rfl (by kernel_rfl) (fun _ _ _ h => h) (Or.inl ⟨by rfl, ?y5x35⟩) hHeld ?r5x35
            case y5x35 => (intro wS hSw; obtain ⟨s1, s2, s3, s4, s5, s6, s7, s8⟩ := hSw; go_simp; try with_reducible rfl)
            try simp only [Act.put, List.setIfInBounds_toArray, List.set_cons_zero, List.set_cons_succ]
            refine wpAnyG_take (i := 7) (v := ?v7x36) rfl (by kernel_rfl) (fun _ _ _ h => h) (Or.inl ⟨by rfl, ?y7x36⟩) hHeld ?r7x36
            case y7x36 => (intro wS hSw; obtain ⟨s1, s2, s3, s4, s5, s6, s7, s8⟩ := hSw; go_simp; try with_reducible rfl)
            try simp only [Act.put, List.setIfInBounds_toArray, List.set_cons_zero, List.set_cons_succ]
            refine wpAnyG_one (i := 6) rfl (by kernel_rfl) (fun K hK => ?_)
            go_simp
            refine (Quotient_any T U u X Y _ HT.out E2.nx E2.ny HZY.out).mono ?_
            rintro e w3 ⟨rfl, k3⟩
            have E3 := E2.below (((Below.refl _ _).drew).trans k3) E2.le
            refine hK.out _ _ E3.rd ?_
            clear hK K
            try simp only [Act.put, List.setIfInBounds_toArray, List.set_cons_zero, List.set_cons_succ]
            refine wpAnyG_one (i := 8) rfl (by kernel_rfl) (fun K hK => ?_)
            go_simp
            refine (Times_any T U u (quo T X Y) Y _ (by have := HQ.out.h1; omega) (by have := HQ.out.h2; omega) (by have := HQ.out.h3; omega) (by have := HQ.out.h4; omega) (by have := HQ.out.h5; omega) (by have := HQ.out.h6; omega)).mono ?_
            rintro e w4 ⟨rfl, k4⟩
            have E4 := E3.below k4 E3.le
            refine hK.out _ _ E4.rd ?_
            clear hK K
            try simp only [Act.put, List.setIfInBounds_toArray, List.set_cons_zero, List.set_cons_succ]
            refine wpAnyG_one (i := 9) rfl (by kernel_rfl) (fun K hK => ?_)
            go_simp
            refine (Less_ring T U u X _ _ HBd.out HQ.out.mul).mono ?_
            rintro e w5 ⟨rfl, k5⟩
            have E5 := E4.below k5 E4.le
            refine hK.out _ _ E5.rd ?_
            clear hK K
            try simp only [Act.put, List.setIfInBounds_toArray, List.set_cons_zero, List.set_cons_succ]
            have q0 := E5.m.x.c0
            have q1 := E5.m.x.c1
            have q2 := E5.m.x.f0
            have q3 := E5.m.x.f1
            have q4 := E5.o.lt
            refine wpAnyG_last (i := 10) rfl (by kernel_rfl) (by kernel_rfl) (fun K hK => ?_)
            go_simp
            refine hK.out _ _ ?_
            clear hK K
            try simp only [Act.put, List.setIfInBounds_toArray, List.set_cons_zero, List.set_cons_succ]
            refine wpAnyG_done (by kernel_rfl) ?_ _
            go_wp2
            go_roundw
            case rel => exact ⟨_, Y, E5.setx _ HS.out.1 (fun g h => Gd.step h)⟩
            case measure =>
              have h1 := HS.out.2
              have h2 := HnX.out
              have h3 := HnY.out
              exact HE.out.meas (E5.setx _ HS.out.1 (fun g h => Gd.step h)) (norm_nonneg T HT.out _) (norm_nonneg T HT.out _) (norm_nonneg T HT.out _) (norm_nonneg T HT.out _) (by omega)
        · go_wp2_with fail
          have HXB : Hid (Bd 1000000000 X) := HE.out.nx.bd HT.out
          have HYB : Hid (Bd 1000000000 Y) := HE.out.ny.bd HT.out
          refine wp_region_G (Rd3 w.heap.size T U u X Y) 6 (by kernel_rfl) HE.out.rd (fun hHeld => ?_)
          refine wpAnyG_take (i := 0) (v := ?v0x37) rfl (by kernel_rfl) (fun _ _ _ h => h) (Or.inl ⟨by rfl, ?y0x37⟩) hHeld ?r0x37
          case y0x37 => (intro wS hSw; obtain ⟨s1, s2, s3, s4, s5, s6, s7, s8⟩ := hSw; go_simp; try with_reducible rfl)
          try simp only [Act.put, List.setIfInBounds_toArray, List.set_cons_zero, List.set_cons_succ]
          refine wpAnyG_take (i := 1) (v := ?v1x38) rfl (by kernel_rfl) (fun _ _ _ h => h) (Or.inl ⟨by rfl, ?y1x38⟩) hHeld ?r1x38
          case y1x38 => (intro wS hSw; obtain ⟨s1, s2, s3, s4, s5, s6, s7, s8⟩ := hSw; go_simp; try with_reducible rfl)
          try simp only [Act.put, List.setIfInBounds_toArray, List.set_cons_zero, List.set_cons_succ]
          refine wpAnyG_take (i := 3) (v := ?v3x39) rfl (by kernel_rfl) (fun _ _ _ h => h) (Or.inl ⟨by rfl, ?y3x39⟩) hHeld ?r3x39
          case y3x39 => (intro wS hSw; obtain ⟨s1, s2, s3, s4, s5, s6, s7, s8⟩ := hSw; go_simp; try with_reducible rfl)
          try simp only [Act.put, List.setIfInBounds_toArray, List.set_cons_zero, List.set_cons_succ]
          refine wpAnyG_take (i := 4) (v := ?v4x40) rfl (by kernel_rfl) (fun _ _ _ h => h) (Or.inl ⟨by rfl, ?y4x40⟩) hHeld ?r4x40
          case y4x40 => (intro wS hSw; obtain ⟨s1, s2, s3, s4, s5, s6, s7, s8⟩ := hSw; go_simp; try with_reducible rfl)
          try simp only [Act.put, List.setIfInBounds_toArray, List.set_cons_zero, List.set_cons_succ]
          refine wpAnyG_one (i := 2) rfl (by kernel_rfl) (fun K hK => ?_)
          go_simp
          refine (Norm_any T U u X _ HT.out HXB.out).mono ?_
          rintro e w1 ⟨rfl, k1⟩
          have E1 := HE.out.below (((Below.refl _ _).drew).trans k1) HE.out.le
          refine hK.out _ _ E1.rd ?_
          clear hK K
          try simp only [Act.put, List.setIfInBounds_toArray, List.set_cons_zero, List.set_cons_succ]
          refine wpAnyG_one (i := 5) rfl (by kernel_rfl) (fun K hK => ?_)
          go_simp
          refine (Norm_any T U u Y _ HT.out HYB.out).mono ?_
          rintro e w2 ⟨rfl, k2⟩
          have E2 := E1.below k2 E1.le
          refine hK.out _ _ E2.rd ?_
          clear hK K
          try simp only [Act.put, List.setIfInBounds_toArray, List.set_cons_zero, List.set_cons_succ]
          refine wpAnyG_last (i := 6) rfl (by kernel_rfl) (by kernel_rfl) (fun K hK => ?_)
          go_simp
          refine hK.out _ _ ?_
          clear hK K
          try simp only [Act.put, List.setIfInBounds_toArray, List.set_cons_zero, List.set_cons_succ]
          refine wpAnyG_done (by kernel_rfl) ?_ _
          clear E1 k1 k2 hHeld r0 r1 r2 r3 x0 x1 y0 y1 o0 o1 lt HXB HYB
          obtain ⟨nX, hnX⟩ : ∃ nX, nX = X.norm T := ⟨_, rfl⟩
          obtain ⟨nY, hnY⟩ : ∃ nY, nY = Y.norm T := ⟨_, rfl⟩
          rw [← hnX, ← hnY]
          have HnX : Hid (nX = X.norm T) := hnX
          have HnY : Hid (nY = Y.norm T) := hnY
          clear hnX hnY
          by_cases hlt : nX < nY
          · have hlb : decide (nX < nY) = true := decide_eq_true hlt
            go_wp2_with fail
            have HQ : Hid (Qb T (quo T Y X) X) := quo_bd HT.out E2.ny E2.nx HZX.out
            have HS : Hid (Nb T (Y.sub ((quo T Y X).mul T X)) ∧ (Y.sub ((quo T Y X).mul T X)).norm T < X.norm T) := step_less HT.out E2.nx HZX.out
            have HBd : Hid (Bd 4000000000000000000 Y) := bd_mono (E2.ny.bd HT.out) (by omega)
            refine wp_region_G (Rd3 w.heap.size T U u X Y) 10 (by kernel_rfl) E2.rd (fun hHeld => ?_)
            refine wpAnyG_take (i := 0) (v := ?v0x41) rfl (by kernel_rfl) (fun _ _ _ h => h) (Or.inl ⟨by rfl, ?y0x41⟩) hHeld ?r0x41
            case y0x41 => (intro wS hSw; obtain ⟨s1, s2, s3, s4, s5, s6, s7, s8⟩ := hSw; go_simp; try with_reducible rfl)
            try simp only [Act.put, List.setIfInBounds_toArray, List.set_cons_zero, List.set_cons_succ]
            refine wpAnyG_take (i := 1) (v := ?v1x42) rfl (by kernel_rfl) (fun _ _ _ h => h) (Or.inl ⟨by rfl, ?y1x42⟩) hHeld ?r1x42
            case y1x42 => (intro wS hSw; obtain ⟨s1, s2, s3, s4, s5, s6, s7, s8⟩ := hSw; go_simp; try with_reducible rfl)
            try simp only [Act.put, List.setIfInBounds_toArray, List.set_cons_zero, List.set_cons_succ]
            refine wpAnyG_take (i := 2) (v := ?v2x43) rfl (by kernel_rfl) (fun _ _ _ h => h) (Or.inl ⟨by rfl, ?y2x43⟩) hHeld ?r2x43
            case y2x43 => (intro wS hSw; obtain ⟨s1, s2, s3, s4, s5, s6, s7, s8⟩ := hSw; go_simp; try with_reducible rfl)
            try simp only [Act.put, List.setIfInBounds_toArray, List.set_cons_zero, List.set_cons_succ]
            refine wpAnyG_take (i := 3) (v := ?v3x44) rfl (by kernel_rfl) (fun _ _ _ h => h) (Or.inl ⟨by rfl, ?y3x44⟩) hHeld ?r3x44
            case y3x44 => (intro wS hSw; obtain ⟨s1, s2, s3, s4, s5, s6, s7, s8⟩ := hSw; go_simp; try with_reducible rfl)
            try simp only [Act.put, List.setIfInBounds_toArray, List.set_cons_zero, List.set_cons_succ]
            refine wpAnyG_take (i := 4) (v := ?v4x45) rfl (by kernel_rfl) (fun _ _ _ h => h) (Or.inl ⟨by rfl, ?y4x45⟩) hHeld ?r4x45
            case y4x45 => (intro wS hSw; obtain ⟨s1, s2, s3, s4, s5, s6, s7, s8⟩ := hSw; go_simp; try with_reducible rfl)
            try simp only [Act.put, List.setIfInBounds_toArray, List.set_cons_zero, List.set_cons_succ]
            refine wpAnyG_take (i := 5) (v := ?v5x46) rfl (by kernel_rfl) (fun _ _ _ h => h) (Or.inl ⟨by rfl, ?y5x46⟩) hHeld ?r5x46
            case y5x46 => (intro wS hSw; obtain ⟨s1, s2, s3, s4, s5, s6, s7, s8⟩ := hSw; go_simp; try with_reducible rfl)
            try simp only [Act.put, List.setIfInBounds_toArray, List.set_cons_zero, List.set_cons_succ]
            refine wpAnyG_take (i := 7) (v := ?v7x47) rfl (by kernel_rfl) (fun _ _ _ h => h) (Or.inl ⟨by rfl, ?y7x47⟩) hHeld ?r7x47
            case y7x47 => (intro wS hSw; obtain ⟨s1, s2, s3, s4, s5, s6, s7, s8⟩ := hSw; go_simp; try with_reducible rfl)
            try simp only [Act.put, List.setIfInBounds_toArray, List.set_cons_zero, List.set_cons_succ]
            refine wpAnyG_one (i := 6) rfl (by kernel_rfl) (fun K hK => ?_)
            go_simp
            refine (Quotient_any T U u Y X _ HT.out E2.ny E2.nx HZX.out).mono ?_
            rintro e w3 ⟨rfl, k3⟩
            have E3 := E2.below (((Below.refl _ _).drew).trans k3) E2.le
            refine hK.out _ _ E3.rd ?_
            clear hK K
            try simp only [Act.put, List.setIfInBounds_toArray, List.set_cons_zero, List.set_cons_succ]
            refine wpAnyG_one (i := 8) rfl (by kernel_rfl) (fun K hK => ?_)
            go_simp
            refine (Times_any T U u (quo T Y X) X _ (by have := HQ.out.h1; omega) (by have := HQ.out.h2; omega) (by have := HQ.out.h3; omega) (by have := HQ.out.h4; omega) (by have := HQ.out.h5; omega) (by have := HQ.out.h6; omega)).mono ?_
            rintro e w4 ⟨rfl, k4⟩
            have E4 := E3.below k4 E3.le
            refine hK.out _ _ E4.rd ?_
            clear hK K
            try simp only [Act.put, List.setIfInBounds_toArray, List.set_cons_zero, List.set_cons_succ]
            refine wpAnyG_one (i := 9) rfl (by kernel_rfl) (fun K hK => ?_)
            go_simp
            refine (Less_ring T U u Y _ _ HBd.out HQ.out.mul).mono ?_
            rintro e w5 ⟨rfl, k5⟩
            have E5 := E4.below k5 E4.le
            refine hK.out _ _ E5.rd ?_
            clear hK K
            try simp only [Act.put, List.setIfInBounds_toArray, List.set_cons_zero, List.set_cons_succ]
            have q0 := E5.m.y.c0
            have q1 := E5.m.y.c1
            have q2 := E5.m.y.f0
            have q3 := E5.m.y.f1
            have q4 := E5.o.lt
            refine wpAnyG_last (i := 10) rfl (by kernel_rfl) (by kernel_rfl) (fun K hK => ?_)
            go_simp
            refine hK.out _ _ ?_
            clear hK K
            try simp only [Act.put, List.setIfInBounds_toArray, List.set_cons_zero, List.set_cons_succ]
            refine wpAnyG_done (by kernel_rfl) ?_ _
            go_wp2
            go_roundw
            case rel => exact ⟨X, _, E5.sety _ HS.out.1 (fun g h => (Gd.step h.symm).symm)⟩
            case measure =>
              have h1 := HS.out.2
              have h2 := HnX.out
              have h3 := HnY.out
              exact HE.out.meas (E5.sety _ HS.out.1 (fun g h => (Gd.step h.symm).symm)) (norm_nonneg T HT.out _) (norm_nonneg T HT.out _) (norm_nonneg T HT.out _) (norm_nonneg T HT.out _) (by omega)
          · have hlb : decide (nX < nY) = false := decide_eq_false hlt
            go_wp2_with fail
            have HQ : Hid (Qb T (quo T X Y) Y) := quo_bd HT.out E2.nx E2.ny HZY.out
            have HS : Hid (Nb T (X.sub ((quo T X Y).mul T Y)) ∧ (X.sub ((quo T X Y).mul T Y)).norm T < Y.norm T) := step_less HT.out E2.ny HZY.out
            have HBd : Hid (Bd 4000000000000000000 X) := bd_mono (E2.nx.bd HT.out) (by omega)
            refine wp_region_G (Rd3 w.heap.size T U u X Y) 10 (by kernel_rfl) E2.rd (fun hHeld => ?_)
            refine wpAnyG_take (i := 0) (v := ?v0x48) rfl (by kernel_rfl) (fun _ _ _ h => h) (Or.inl ⟨by rfl, ?y0x48⟩) hHeld ?r0x48
            case y0x48 => (intro wS hSw; obtain ⟨s1, s2, s3, s4, s5, s6, s7, s8⟩ := hSw; go_simp; try with_reducible rfl)
            try simp only [Act.put, List.setIfInBounds_toArray, List.set_cons_zero, List.set_cons_succ]
            refine wpAnyG_take (i := 1) (v := ?v1x49) rfl (by kernel_rfl) (fun _ _ _ h => h) (Or.inl ⟨by rfl, ?y1x49⟩) hHeld ?r1x49
            case y1x49 => (intro wS hSw; obtain ⟨s1, s2, s3, s4, s5, s6, s7, s8⟩ := hSw; go_simp; try with_reducible rfl)
            try simp only [Act.put, List.setIfInBounds_toArray, List.set_cons_zero, List.set_cons_succ]
            refine wpAnyG_take (i := 2) (v := ?v2x50) rfl (by kernel_rfl) (fun _ _ _ h => h) (Or.inl ⟨by rfl, ?y2x50⟩) hHeld ?r2x50
            case y2x50 => (intro wS hSw; obtain ⟨s1, s2, s3, s4, s5, s6, s7, s8⟩ := hSw; go_simp; try with_reducible rfl)
            try simp only [Act.put, List.setIfInBounds_toArray, List.set_cons_zero, List.set_cons_succ]
            refine wpAnyG_take (i := 3) (v := ?v3x51) rfl (by kernel_rfl) (fun _ _ _ h => h) (Or.inl ⟨by rfl, ?y3x51⟩) hHeld ?r3x51
            case y3x51 => (intro wS hSw; obtain ⟨s1, s2, s3, s4, s5, s6, s7, s8⟩ := hSw; go_simp; try with_reducible rfl)
            try simp only [Act.put, List.setIfInBounds_toArray, List.set_cons_zero, List.set_cons_succ]
            refine wpAnyG_take (i := 4) (v := ?v4x52) rfl (by kernel_rfl) (fun _ _ _ h => h) (Or.inl ⟨by rfl, ?y4x52⟩) hHeld ?r4x52
            case y4x52 => (intro wS hSw; obtain ⟨s1, s2, s3, s4, s5, s6, s7, s8⟩ := hSw; go_simp; try with_reducible rfl)
            try simp only [Act.put, List.setIfInBounds_toArray, List.set_cons_zero, List.set_cons_succ]
            refine wpAnyG_take (i := 5) (v := ?v5x53) rfl (by kernel_rfl) (fun _ _ _ h => h) (Or.inl ⟨by rfl, ?y5x53⟩) hHeld ?r5x53
            case y5x53 => (intro wS hSw; obtain ⟨s1, s2, s3, s4, s5, s6, s7, s8⟩ := hSw; go_simp; try with_reducible rfl)
            try simp only [Act.put, List.setIfInBounds_toArray, List.set_cons_zero, List.set_cons_succ]
            refine wpAnyG_take (i := 7) (v := ?v7x54) rfl (by kernel_rfl) (fun _ _ _ h => h) (Or.inl ⟨by rfl, ?y7x54⟩) hHeld ?r7x54
            case y7x54 => (intro wS hSw; obtain ⟨s1, s2, s3, s4, s5, s6, s7, s8⟩ := hSw; go_simp; try with_reducible rfl)
            try simp only [Act.put, List.setIfInBounds_toArray, List.set_cons_zero, List.set_cons_succ]
            refine wpAnyG_one (i := 6) rfl (by kernel_rfl) (fun K hK => ?_)
            go_simp
            refine (Quotient_any T U u X Y _ HT.out E2.nx E2.ny HZY.out).mono ?_
            rintro e w3 ⟨rfl, k3⟩
            have E3 := E2.below (((Below.refl _ _).drew).trans k3) E2.le
            refine hK.out _ _ E3.rd ?_
            clear hK K
            try simp only [Act.put, List.setIfInBounds_toArray, List.set_cons_zero, List.set_cons_succ]
            refine wpAnyG_one (i := 8) rfl (by kernel_rfl) (fun K hK => ?_)
            go_simp
            refine (Times_any T U u (quo T X Y) Y _ (by have := HQ.out.h1; omega) (by have := HQ.out.h2; omega) (by have := HQ.out.h3; omega) (by have := HQ.out.h4; omega) (by have := HQ.out.h5; omega) (by have := HQ.out.h6; omega)).mono ?_
            rintro e w4 ⟨rfl, k4⟩
            have E4 := E3.below k4 E3.le
            refine hK.out _ _ E4.rd ?_
            clear hK K
            try simp only [Act.put, List.setIfInBounds_toArray, List.set_cons_zero, List.set_cons_succ]
            refine wpAnyG_one (i := 9) rfl (by kernel_rfl) (fun K hK => ?_)
            go_simp
            refine (Less_ring T U u X _ _ HBd.out HQ.out.mul).mono ?_
            rintro e w5 ⟨rfl, k5⟩
            have E5 := E4.below k5 E4.le
            refine hK.out _ _ E5.rd ?_
            clear hK K
            try simp only [Act.put, List.setIfInBounds_toArray, List.set_cons_zero, List.set_cons_succ]
            have q0 := E5.m.x.c0
            have q1 := E5.m.x.c1
            have q2 := E5.m.x.f0
            have q3 := E5.m.x.f1
            have q4 := E5.o.lt
            refine wpAnyG_last (i := 10) rfl (by kernel_rfl) (by kernel_rfl) (fun K hK => ?_)
            go_simp
            refine hK.out _ _ ?_
            clear hK K
            try simp only [Act.put, List.setIfInBounds_toArray, List.set_cons_zero, List.set_cons_succ]
            refine wpAnyG_done (by kernel_rfl) ?_ _
            go_wp2
            go_roundw
            case rel => exact ⟨_, Y, E5.setx _ HS.out.1 (fun g h => Gd.step h)⟩
            case measure =>
              have h1 := HS.out.2
              have h2 := HnX.out
              have h3 := HnY.out
              exact HE.out.meas (E5.setx _ HS.out.1 (fun g h => Gd.step h)) (norm_nonneg T HT.out _) (norm_nonneg T HT.out _) (norm_nonneg T HT.out _) (norm_nonneg T HT.out _) (by omega)
        · go_wp2_with fail
          have HXB : Hid (Bd 1000000000 X) := HE.out.nx.bd HT.out
          have HYB : Hid (Bd 1000000000 Y) := HE.out.ny.bd HT.out
          refine wp_region_G (Rd3 w.heap.size T U u X Y) 6 (by kernel_rfl) HE.out.rd (fun hHeld => ?_)
          refine wpAnyG_take (i := 0) (v := ?v0x55) rfl (by kernel_rfl) (fun _ _ _ h => h) (Or.inl ⟨by rfl, ?y0x55⟩) hHeld ?r0x55
          case y0x55 => (intro wS hSw; obtain ⟨s1, s2, s3, s4, s5, s6, s7, s8⟩ := hSw; go_simp; try with_reducible rfl)
          try simp only [Act.put, List.setIfInBounds_toArray, List.set_cons_zero, List.set_cons_succ]
          refine wpAnyG_take (i := 1) (v := ?v1x56) rfl (by kernel_rfl) (fun _ _ _ h => h) (Or.inl ⟨by rfl, ?y1x56⟩) hHeld ?r1x56
          case y1x56 => (intro wS hSw; obtain ⟨s1, s2, s3, s4, s5, s6, s7, s8⟩ := hSw; go_simp; try with_reducible rfl)
          try simp only [Act.put, List.setIfInBounds_toArray, List.set_cons_zero, List.set_cons_succ]
          refine wpAnyG_take (i := 3) (v := ?v3x57) rfl (by kernel_rfl) (fun _ _ _ h => h) (Or.inl ⟨by rfl, ?y3x57⟩) hHeld ?r3x57
          case y3x57 => (intro wS hSw; obtain ⟨s1, s2, s3, s4, s5, s6, s7, s8⟩ := hSw; go_simp; try with_reducible rfl)
          try simp only [Act.put, List.setIfInBounds_toArray, List.set_cons_zero, List.set_cons_succ]
          refine wpAnyG_take (i := 4) (v := ?v4x58) rfl (by kernel_rfl) (fun _ _ _ h => h) (Or.inl ⟨by rfl, ?y4x58⟩) hHeld ?r4x58
          case y4x58 => (intro wS hSw; obtain ⟨s1, s2, s3, s4, s5, s6, s7, s8⟩ := hSw; go_simp; try with_reducible rfl)
          try simp only [Act.put, List.setIfInBounds_toArray, List.set_cons_zero, List.set_cons_succ]
          refine wpAnyG_one (i := 2) rfl (by kernel_rfl) (fun K hK => ?_)
          go_simp
          refine (Norm_any T U u X _ HT.out HXB.out).mono ?_
          rintro e w1 ⟨rfl, k1⟩
          have E1 := HE.out.below (((Below.refl _ _).drew).trans k1) HE.out.le
          refine hK.out _ _ E1.rd ?_
          clear hK K
          try simp only [Act.put, List.setIfInBounds_toArray, List.set_cons_zero, List.set_cons_succ]
          refine wpAnyG_one (i := 5) rfl (by kernel_rfl) (fun K hK => ?_)
          go_simp
          refine (Norm_any T U u Y _ HT.out HYB.out).mono ?_
          rintro e w2 ⟨rfl, k2⟩
          have E2 := E1.below k2 E1.le
          refine hK.out _ _ E2.rd ?_
          clear hK K
          try simp only [Act.put, List.setIfInBounds_toArray, List.set_cons_zero, List.set_cons_succ]
          refine wpAnyG_last (i := 6) rfl (by kernel_rfl) (by kernel_rfl) (fun K hK => ?_)
          go_simp
          refine hK.out _ _ ?_
          clear hK K
          try simp only [Act.put, List.setIfInBounds_toArray, List.set_cons_zero, List.set_cons_succ]
          refine wpAnyG_done (by kernel_rfl) ?_ _
          clear E1 k1 k2 hHeld r0 r1 r2 r3 x0 x1 y0 y1 o0 o1 lt HXB HYB
          obtain ⟨nX, hnX⟩ : ∃ nX, nX = X.norm T := ⟨_, rfl⟩
          obtain ⟨nY, hnY⟩ : ∃ nY, nY = Y.norm T := ⟨_, rfl⟩
          rw [← hnX, ← hnY]
          have HnX : Hid (nX = X.norm T) := hnX
          have HnY : Hid (nY = Y.norm T) := hnY
          clear hnX hnY
          by_cases hlt : nX < nY
          · have hlb : decide (nX < nY) = true := decide_eq_true hlt
            go_wp2_with fail
            have HQ : Hid (Qb T (quo T Y X) X) := quo_bd HT.out E2.ny E2.nx HZX.out
            have HS : Hid (Nb T (Y.sub ((quo T Y X).mul T X)) ∧ (Y.sub ((quo T Y X).mul T X)).norm T < X.norm T) := step_less HT.out E2.nx HZX.out
            have HBd : Hid (Bd 4000000000000000000 Y) := bd_mono (E2.ny.bd HT.out) (by omega)
            refine wp_region_G (Rd3 w.heap.size T U u X Y) 10 (by kernel_rfl) E2.rd (fun hHeld => ?_)
            refine wpAnyG_take (i := 0) (v := ?v0x59) rfl (by kernel_rfl) (fun _ _ _ h => h) (Or.inl ⟨by rfl, ?y0x59⟩) hHeld ?r0x59
            case y0x59 => (intro wS hSw; obtain ⟨s1, s2, s3, s4, s5, s6, s7, s8⟩ := hSw; go_simp; try with_reducible rfl)
            try simp only [Act.put, List.setIfInBounds_toArray, List.set_cons_zero, List.set_cons_succ]
            refine wpAnyG_take (i := 1) (v := ?v1x60) rfl (by kernel_rfl) (fun _ _ _ h => h) (Or.inl ⟨by rfl, ?y1x60⟩) hHeld ?r1x60
            case y1x60 => (intro wS hSw; obtain ⟨s1, s2, s3, s4, s5, s6, s7, s8⟩ := hSw; go_simp; try with_reducible rfl)
            try simp only [Act.put, List.setIfInBounds_toArray, List.set_cons_zero, List.set_cons_succ]
            refine wpAnyG_take (i := 2) (v := ?v2x61) rfl (by kernel_rfl) (fun _ _ _ h => h) (Or.inl ⟨by rfl, ?y2x61⟩) hHeld ?r2x61
            case y2x61 => (intro wS hSw; obtain ⟨s1, s2, s3, s4, s5, s6, s7, s8⟩ := hSw; go_simp; try with_reducible rfl)
            try simp only [Act.put, List.setIfInBounds_toArray, List.set_cons_zero, List.set_cons_succ]
            refine wpAnyG_take (i := 3) (v := ?v3x62) rfl (by kernel_rfl) (fun _ _ _ h => h) (Or.inl ⟨by rfl, ?y3x62⟩) hHeld ?r3x62
            case y3x62 => (intro wS hSw; obtain ⟨s1, s2, s3, s4, s5, s6, s7, s8⟩ := hSw; go_simp; try with_reducible rfl)
            try simp only [Act.put, List.setIfInBounds_toArray, List.set_cons_zero, List.set_cons_succ]
            refine wpAnyG_take (i := 4) (v := ?v4x63) rfl (by kernel_rfl) (fun _ _ _ h => h) (Or.inl ⟨by rfl, ?y4x63⟩) hHeld ?r4x63
            case y4x63 => (intro wS hSw; obtain ⟨s1, s2, s3, s4, s5, s6, s7, s8⟩ := hSw; go_simp; try with_reducible rfl)
            try simp only [Act.put, List.setIfInBounds_toArray, List.set_cons_zero, List.set_cons_succ]
            refine wpAnyG_take (i := 5) (v := ?v5x64) rfl (by kernel_rfl) (fun _ _ _ h => h) (Or.inl ⟨by rfl, ?y5x64⟩) hHeld ?r5x64
            case y5x64 => (intro wS hSw; obtain ⟨s1, s2, s3, s4, s5, s6, s7, s8⟩ := hSw; go_simp; try with_reducible rfl)
            try simp only [Act.put, List.setIfInBounds_toArray, List.set_cons_zero, List.set_cons_succ]
            refine wpAnyG_take (i := 7) (v := ?v7x65) rfl (by kernel_rfl) (fun _ _ _ h => h) (Or.inl ⟨by rfl, ?y7x65⟩) hHeld ?r7x65
            case y7x65 => (intro wS hSw; obtain ⟨s1, s2, s3, s4, s5, s6, s7, s8⟩ := hSw; go_simp; try with_reducible rfl)
            try simp only [Act.put, List.setIfInBounds_toArray, List.set_cons_zero, List.set_cons_succ]
            refine wpAnyG_one (i := 6) rfl (by kernel_rfl) (fun K hK => ?_)
            go_simp
            refine (Quotient_any T U u Y X _ HT.out E2.ny E2.nx HZX.out).mono ?_
            rintro e w3 ⟨rfl, k3⟩
            have E3 := E2.below (((Below.refl _ _).drew).trans k3) E2.le
            refine hK.out _ _ E3.rd ?_
            clear hK K
            try simp only [Act.put, List.setIfInBounds_toArray, List.set_cons_zero, List.set_cons_succ]
            refine wpAnyG_one (i := 8) rfl (by kernel_rfl) (fun K hK => ?_)
            go_simp
            refine (Times_any T U u (quo T Y X) X _ (by have := HQ.out.h1; omega) (by have := HQ.out.h2; omega) (by have := HQ.out.h3; omega) (by have := HQ.out.h4; omega) (by have := HQ.out.h5; omega) (by have := HQ.out.h6; omega)).mono ?_
            rintro e w4 ⟨rfl, k4⟩
            have E4 := E3.below k4 E3.le
            refine hK.out _ _ E4.rd ?_
            clear hK K
            try simp only [Act.put, List.setIfInBounds_toArray, List.set_cons_zero, List.set_cons_succ]
            refine wpAnyG_one (i := 9) rfl (by kernel_rfl) (fun K hK => ?_)
            go_simp
            refine (Less_ring T U u Y _ _ HBd.out HQ.out.mul).mono ?_
            rintro e w5 ⟨rfl, k5⟩
            have E5 := E4.below k5 E4.le
            refine hK.out _ _ E5.rd ?_
            clear hK K
            try simp only [Act.put, List.setIfInBounds_toArray, List.set_cons_zero, List.set_cons_succ]
            have q0 := E5.m.y.c0
            have q1 := E5.m.y.c1
            have q2 := E5.m.y.f0
            have q3 := E5.m.y.f1
            have q4 := E5.o.lt
            refine wpAnyG_last (i := 10) rfl (by kernel_rfl) (by kernel_rfl) (fun K hK => ?_)
            go_simp
            refine hK.out _ _ ?_
            clear hK K
            try simp only [Act.put, List.setIfInBounds_toArray, List.set_cons_zero, List.set_cons_succ]
            refine wpAnyG_done (by kernel_rfl) ?_ _
            go_wp2
            go_roundw
            case rel => exact ⟨X, _, E5.sety _ HS.out.1 (fun g h => (Gd.step h.symm).symm)⟩
            case measure =>
              have h1 := HS.out.2
              have h2 := HnX.out
              have h3 := HnY.out
              exact HE.out.meas (E5.sety _ HS.out.1 (fun g h => (Gd.step h.symm).symm)) (norm_nonneg T HT.out _) (norm_nonneg T HT.out _) (norm_nonneg T HT.out _) (norm_nonneg T HT.out _) (by omega)
          · have hlb : decide (nX < nY) = false := decide_eq_false hlt
            go_wp2_with fail
            have HQ : Hid (Qb T (quo T X Y) Y) := quo_bd HT.out E2.nx E2.ny HZY.out
            have HS : Hid (Nb T (X.sub ((quo T X Y).mul T Y)) ∧ (X.sub ((quo T X Y).mul T Y)).norm T < Y.norm T) := step_less HT.out E2.ny HZY.out
            have HBd : Hid (Bd 4000000000000000000 X) := bd_mono (E2.nx.bd HT.out) (by omega)
            refine wp_region_G (Rd3 w.heap.size T U u X Y) 10 (by kernel_rfl) E2.rd (fun hHeld => ?_)
            refine wpAnyG_take (i := 0) (v := ?v0x66) rfl (by kernel_rfl) (fun _ _ _ h => h) (Or.inl ⟨by rfl, ?y0x66⟩) hHeld ?r0x66
            case y0x66 => (intro wS hSw; obtain ⟨s1, s2, s3, s4, s5, s6, s7, s8⟩ := hSw; go_simp; try with_reducible rfl)
            try simp only [Act.put, List.setIfInBounds_toArray, List.set_cons_zero, List.set_cons_succ]
            refine wpAnyG_take (i := 1) (v := ?v1x67) rfl (by kernel_rfl) (fun _ _ _ h => h) (Or.inl ⟨by rfl, ?y1x67⟩) hHeld ?r1x67
            case y1x67 => (intro wS hSw; obtain ⟨s1, s2, s3, s4, s5, s6, s7, s8⟩ := hSw; go_simp; try with_reducible rfl)
            try simp only [Act.put, List.setIfInBounds_toArray, List.set_cons_zero, List.set_cons_succ]
            refine wpAnyG_take (i := 2) (v := ?v2x68) rfl (by kernel_rfl) (fun _ _ _ h => h) (Or.inl ⟨by rfl, ?y2x68⟩) hHeld ?r2x68
            case y2x68 => (intro wS hSw; obtain ⟨s1, s2, s3, s4, s5, s6, s7, s8⟩ := hSw; go_simp; try with_reducible rfl)
            try simp only [Act.put, List.setIfInBounds_toArray, List.set_cons_zero, List.set_cons_succ]
            refine wpAnyG_take (i := 3) (v := ?v3x69) rfl (by kernel_rfl) (fun _ _ _ h => h) (Or.inl ⟨by rfl, ?y3x69⟩) hHeld ?r3x69
            case y3x69 => (intro wS hSw; obtain ⟨s1, s2, s3, s4, s5, s6, s7, s8⟩ := hSw; go_simp; try with_reducible rfl)
            try simp only [Act.put, List.setIfInBounds_toArray, List.set_cons_zero, List.set_cons_succ]
            refine wpAnyG_take (i := 4) (v := ?v4x70) rfl (by kernel_rfl) (fun _ _ _ h => h) (Or.inl ⟨by rfl, ?y4x70⟩) hHeld ?r4x70
            case y4x70 => (intro wS hSw; obtain ⟨s1, s2, s3, s4, s5, s6, s7, s8⟩ := hSw; go_simp; try with_reducible rfl)
            try simp only [Act.put, List.setIfInBounds_toArray, List.set_cons_zero, List.set_cons_succ]
            refine wpAnyG_take (i := 5) (v := ?v5x71) rfl (by kernel_rfl) (fun _ _ _ h => h) (Or.inl ⟨by rfl, ?y5x71⟩) hHeld ?r5x71
            case y5x71 => (intro wS hSw; obtain ⟨s1, s2, s3, s4, s5, s6, s7, s8⟩ := hSw; go_simp; try with_reducible rfl)
            try simp only [Act.put, List.setIfInBounds_toArray, List.set_cons_zero, List.set_cons_succ]
            refine wpAnyG_take (i := 7) (v := ?v7x72) rfl (by kernel_rfl) (fun _ _ _ h => h) (Or.inl ⟨by rfl, ?y7x72⟩) hHeld ?r7x72
            case y7x72 => (intro wS hSw; obtain ⟨s1, s2, s3, s4, s5, s6, s7, s8⟩ := hSw; go_simp; try with_reducible rfl)
            try simp only [Act.put, List.setIfInBounds_toArray, List.set_cons_zero, List.set_cons_succ]
            refine wpAnyG_one (i := 6) rfl (by kernel_rfl) (fun K hK => ?_)
            go_simp
            refine (Quotient_any T U u X Y _ HT.out E2.nx E2.ny HZY.out).mono ?_
            rintro e w3 ⟨rfl, k3⟩
            have E3 := E2.below (((Below.refl _ _).drew).trans k3) E2.le
            refine hK.out _ _ E3.rd ?_
            clear hK K
            try simp only [Act.put, List.setIfInBounds_toArray, List.set_cons_zero, List.set_cons_succ]
            refine wpAnyG_one (i := 8) rfl (by kernel_rfl) (fun K hK => ?_)
            go_simp
            refine (Times_any T U u (quo T X Y) Y _ (by have := HQ.out.h1; omega) (by have := HQ.out.h2; omega) (by have := HQ.out.h3; omega) (by have := HQ.out.h4; omega) (by have := HQ.out.h5; omega) (by have := HQ.out.h6; omega)).mono ?_
            rintro e w4 ⟨rfl, k4⟩
            have E4 := E3.below k4 E3.le
            refine hK.out _ _ E4.rd ?_
            clear hK K
            try simp only [Act.put, List.setIfInBounds_toArray, List.set_cons_zero, List.set_cons_succ]
            refine wpAnyG_one (i := 9) rfl (by kernel_rfl) (fun K hK => ?_)
            go_simp
            refine (Less_ring T U u X _ _ HBd.out HQ.out.mul).mono ?_
            rintro e w5 ⟨rfl, k5⟩
            have E5 := E4.below k5 E4.le
            refine hK.out _ _ E5.rd ?_
            clear hK K
            try simp only [Act.put, List.setIfInBounds_toArray, List.set_cons_zero, List.set_cons_succ]
            have q0 := E5.m.x.c0
            have q1 := E5.m.x.c1
            have q2 := E5.m.x.f0
            have q3 := E5.m.x.f1
            have q4 := E5.o.lt
            refine wpAnyG_last (i := 10) rfl (by kernel_rfl) (by kernel_rfl) (fun K hK => ?_)
            go_simp
            refine hK.out _ _ ?_
            clear hK K
            try simp only [Act.put, List.setIfInBounds_toArray, List.set_cons_zero, List.set_cons_succ]
            refine wpAnyG_done (by kernel_rfl) ?_ _
            go_wp2
            go_roundw
            case rel => exact ⟨_, Y, E5.setx _ HS.out.1 (fun g h => Gd.step h)⟩
            case measure =>
              have h1 := HS.out.2
              have h2 := HnX.out
              have h3 := HnY.out
              exact HE.out.meas (E5.setx _ HS.out.1 (fun g h => Gd.step h)) (norm_nonneg T HT.out _) (norm_nonneg T HT.out _) (norm_nonneg T HT.out _) (norm_nonneg T HT.out _) (by omega)

end Go.Proofs.YtogdggdaaiajnadGreatDoor
