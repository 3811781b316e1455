/- The reference's rings of pairs: Chief. -/
import Derived.Test.YtogdggdaaiajnadGreatDoorRefS
set_option linter.unusedSimpArgs false
set_option linter.unusedVariables false
set_option maxRecDepth 100000
namespace Go.Proofs.YtogdggdaaiajnadGreatDoor
open Go.RowKit

/-- Turned so often. -/
def rotN (T : Int) (x : Pp) : Nat → Pp
  | 0 => x
  | i + 1 => (rotN T x i).mul T (unitOf T)
/-- How many units there are. -/
def unitsN (T : Int) : Nat := if T = 0 then 4 else 6

theorem rot_norm {T : Int} (hT : TT T) (x : Pp) (i : Nat) : (rotN T x i).norm T = x.norm T := by
  induction i with
  | zero => rfl
  | succ i ih =>
    show ((rotN T x i).mul T (unitOf T)).norm T = _
    rw [norm_mul, ih]
    have : (unitOf T).norm T = 1 := by rcases hT with rfl | rfl <;> decide
    rw [this, Int.mul_one]
theorem unit_back {T : Int} (hT : TT T) : ∃ e, (unitOf T).mul T e = Pp.one := by
  rcases hT with rfl | rfl
  · exact ⟨⟨0, -1⟩, by decide⟩
  · exact ⟨⟨0, -1⟩, by decide⟩
theorem rot_dv {T : Int} (hT : TT T) (x : Pp) (i : Nat) : Dv T x (rotN T x i) ∧ Dv T (rotN T x i) x := by
  induction i with
  | zero => exact ⟨Dv.refl T x, Dv.refl T x⟩
  | succ i ih =>
    obtain ⟨e, he⟩ := unit_back hT
    refine ⟨ih.1.trans ⟨unitOf T, rfl⟩, Dv.trans ⟨e, ?_⟩ ih.2⟩
    show _ = ((rotN T x i).mul T (unitOf T)).mul T e
    rw [mul_assoc', he, mul_one']

/-- One of them is a chief. -/
theorem rot_chief {T : Int} (hT : TT T) (x : Pp) (h : ∀ j, j < unitsN T → ¬ IsCh T (rotN T x j)) : x = Pp.zero := by
  obtain ⟨a, b⟩ := x
  rcases hT with rfl | rfl
  · have h0 := h 0 (by decide)
    have h1 := h 1 (by decide)
    have h2 := h 2 (by decide)
    have h3 := h 3 (by decide)
    simp [rotN, unitOf, Pp.mul, IsCh] at h0 h1 h2 h3
    apply Pp.ext' <;> simp only [Pp.zero] <;> omega
  · have h0 := h 0 (by decide)
    have h1 := h 1 (by decide)
    have h2 := h 2 (by decide)
    have h3 := h 3 (by decide)
    have h4 := h 4 (by decide)
    have h5 := h 5 (by decide)
    simp [rotN, unitOf, Pp.mul, IsCh] at h0 h1 h2 h3 h4 h5
    apply Pp.ext' <;> simp only [Pp.zero] <;> omega

theorem unit_bd {T : Int} (hT : TT T) : Bd 1 (unitOf T) := by rcases hT with rfl | rfl <;> constructor <;> decide

structure Mem2 (b : Nat) (T U : Int) (u x z : Pp) (W : World) : Prop where
  r : Rg b T U u W
  x : Sv (b + 1) x.a x.b W
  z : Sv (b + 2) z.a z.b W
theorem mem2_new (w : World) (t1 t2 t4 : TypeId) (T U : Int) (u x : Pp) : Mem2 w.heap.size T U u x ⟨0, 0⟩ (((w.alloc (.cells #[.int .i64 T, .int .i64 U, .int .i64 u.a, .int .i64 u.b] t1)).alloc (.cells #[.int .i64 x.a, .int .i64 x.b] t2)).alloc (.cells #[.int .i64 0, .int .i64 0] t4)) :=
  ⟨((rg_new _ _ _ rfl _ _ _).alloc _).alloc _, sv_alloc (sv_new _ _ _ (by simp) _ _) _, sv_new _ _ _ (by simp) _ _⟩
theorem Mem2.below {b : Nat} {T U : Int} {u x z : Pp} {w w' : World} (h : Mem2 b T U u x z w) (k : Below w.heap.size w w') : Mem2 b T U u x z w' := ⟨h.r.below k, h.x.below k, h.z.below k⟩
theorem Mem2.setx {b : Nat} {T U : Int} {u x z : Pp} {w : World} (h : Mem2 b T U u x z w) (y : Pp) : Mem2 b T U u y z ((w.setCell ⟨b + 1, 0, none⟩ (.int .i64 y.a)).setCell ⟨b + 1, 1, none⟩ (.int .i64 y.b)) :=
  ⟨(h.r.set _ (by omega)).set _ (by omega), h.x.set _ _, h.z.other _ _ (by omega)⟩

def ChiefPost (T : Int) (x : Pp) (w : World) (e : Ending) (w' : World) : Prop :=
  ∃ g, e = .returned (pv g) ∧ Dv T x g ∧ Dv T g x ∧ (IsCh T g ∨ (x = Pp.zero ∧ g = Pp.zero)) ∧ Below w.heap.size w w'

set_option maxHeartbeats 1000000 in
theorem Chief_any (T : Int) (x : Pp) (w : World) (hT : TT T) (hx : Nb T x) :
    Calls Tryz.prog 34 #[rv T (unitsN T) (unitOf T), pv x] w (ChiefPost T x w) := by
  have HX : Hid (Nb T x) := hx
  have HT : Hid (TT T) := hT
  obtain ⟨U, hU⟩ : ∃ U, U = unitsN T := ⟨_, rfl⟩
  obtain ⟨u, hu⟩ : ∃ u, u = unitOf T := ⟨_, rfl⟩
  rw [← hU, ← hu]
  have HU : Hid (U = unitsN T) := hU
  have Hu : Hid (u = unitOf T) := hu
  have hUb : U ≤ 6 := by rw [hU]; rcases hT with rfl | rfl <;> decide
  clear hx hT hU hu
  go_enter Tryz.func34, Tryz.ntmps34
  go_wp2
  have M0 := mem2_new w 26 23 23 T U u x
  have K0 := below3 w (.cells #[.int .i64 T, .int .i64 U, .int .i64 u.a, .int .i64 u.b] 26) (.cells #[.int .i64 x.a, .int .i64 x.b] 23) (.cells #[.int .i64 0, .int .i64 0] 23)
  go_loopw [5] (fun iv wx => ∃ i : Nat, iv = .int .i64 i ∧ i ≤ U ∧ Hid ((∀ j, j < i → ¬ IsCh T (rotN T x j)) ∧ Mem2 w.heap.size T U u (rotN T x i) ⟨0, 0⟩ wx ∧ Below w.heap.size w wx)) (fun iv _ => U - (intOf iv).toNat)
  case atStart => exact ⟨0, rfl, Nat.zero_le _, fun j h => absurd h (Nat.not_lt_zero _), M0, K0⟩
  case round =>
    clear M0 K0
    obtain ⟨i, rfl, hi, HR⟩ := hrel
    obtain ⟨hno, M, K⟩ := HR.out
    obtain ⟨y, hy⟩ : ∃ y, y = rotN T x i := ⟨_, rfl⟩
    rw [← hy] at M
    have HNO : Hid (∀ j, j < i → ¬ IsCh T (rotN T x j)) := hno
    have HM : Hid (Mem2 w.heap.size T U u y ⟨0, 0⟩ wr) := M
    have HK : Hid (Below w.heap.size w wr) := K
    have HY : Hid (y = rotN T x i) := hy
    have r0 := M.r.c0
    have r1 := M.r.c1
    have r2 := M.r.c2
    have r3 := M.r.c3
    have x0 := M.x.c0
    have x1 := M.x.c1
    have lt := M.z.lt
    clear hno M K hy HR
    by_cases hlt : i < U
    · have hlb : decide (i < U) = true := decide_eq_true hlt
      go_wp2_with fail
      refine (IsChief_any T U u y wr HT.out).mono ?_
      rintro e w1 ⟨rfl, k1⟩
      have M1 := HM.out.below k1
      have HM1 : Hid (Mem2 w.heap.size T U u y ⟨0, 0⟩ w1) := M1
      have HK1 : Hid (Below w.heap.size w w1) := HK.out.trans (k1.mono HK.out.size)
      clear r0 r1 r2 r3 x0 x1 lt HM HK k1
      have r0 := M1.r.c0
      have r1 := M1.r.c1
      have r2 := M1.r.c2
      have r3 := M1.r.c3
      have x0 := M1.x.c0
      have x1 := M1.x.c1
      have x2 := M1.x.f0
      have x3 := M1.x.f1
      have s0 := M1.z.c0
      have s1 := M1.z.c1
      have s2 := M1.z.f0
      have s3 := M1.z.f1
      have lt := M1.z.lt
      clear M1
      by_cases hc : IsCh T y
      · have hcb : decide (IsCh T y) = true := decide_eq_true hc
        have HC : Hid (IsCh T y) := hc
        clear hc
        go_wp2
        refine bodyPost_ret (v := pv y) (by simp [results, Tryz.results34, go_sem, s0, s1, lt]) rfl ⟨y, rfl, ?_, ?_, .inl HC.out, ?_⟩
        · rw [HY.out]; exact (rot_dv HT.out x i).1
        · rw [HY.out]; exact (rot_dv HT.out x i).2
        · exact (HK1.out.setCell (by simp <;> omega) _).setCell (by simp <;> omega) _
      · have hcb : decide (IsCh T y) = false := decide_eq_false hc
        have HC : Hid (¬ IsCh T y) := hc
        clear hc
        go_wp2_with fail
        have hb : Bd 1000000000 y := by
          have h1 : Nb T y := by unfold Nb; rw [HY.out, rot_norm HT.out]; exact HX.out
          exact h1.bd HT.out
        have hub : Bd 1 u := by rw [Hu.out]; exact unit_bd HT.out
        have t1 := T_bd HT.out y.b hb.b1 hb.b2
        have m1 := mul_bd hb.a1 hb.a2 hub.a1 hub.a2
        have m2 := mul_bd hb.b1 hb.b2 hub.b1 hub.b2
        have m3 := mul_bd hb.a1 hb.a2 hub.b1 hub.b2
        have m4 := mul_bd hb.b1 hb.b2 hub.a1 hub.a2
        have m6 := mul_bd t1.1 t1.2 hub.b1 hub.b2
        refine (Times_any T U u y u _ (by omega) (by omega) (by omega) (by omega) (by omega) (by omega)).mono ?_
        rintro e w2 ⟨rfl, k2⟩
        clear hb hub t1 m1 m2 m3 m4 m6
        have M2 := HM1.out.below k2
        have HM2 : Hid (Mem2 w.heap.size T U u y ⟨0, 0⟩ w2) := M2
        have HK2 : Hid (Below w.heap.size w w2) := HK1.out.trans (k2.mono HK1.out.size)
        clear r0 r1 r2 r3 x0 x1 x2 x3 s0 s1 s2 s3 lt HM1 HK1 k2
        have x0 := M2.x.c0
        have x1 := M2.x.c1
        have x2 := M2.x.f0
        have x3 := M2.x.f1
        have lt := M2.z.lt
        obtain ⟨v, hv⟩ : ∃ v, v = y.mul T u := ⟨_, rfl⟩
        rw [← hv]
        have HV : Hid (v = y.mul T u) := hv
        clear M2 hv
        go_wp2
        go_roundw
        case rel =>
          refine ⟨i + 1, by go_num, by omega, ?_, ?_, ?_⟩
          · intro j hj
            by_cases hji : j = i
            · subst hji; rw [← HY.out]; exact HC.out
            · exact HNO.out j (by omega)
          · have e : rotN T x (i + 1) = v := by rw [HV.out, HY.out, Hu.out]; rfl
            rw [e]; exact HM2.out.setx v
          · exact (HK2.out.setCell (by simp <;> omega) _).setCell (by simp <;> omega) _
        case measure => simp [intOf]; omega
    · have hlb : decide (i < U) = false := decide_eq_false hlt
      have hiU : i = U := by omega
      have M := HM.out
      have s0 := M.z.c0
      have s1 := M.z.c1
      have s2 := M.z.f0
      have s3 := M.z.f1
      clear M
      go_wp2
      have hx0 : x = Pp.zero := rot_chief HT.out x (fun j hj => HNO.out j (by rw [hiU, HU.out]; exact hj))
      have hy0 : y = Pp.zero := by
        refine norm_zero T HT.out y ?_
        rw [HY.out, rot_norm HT.out, hx0]
        rcases HT.out with rfl | rfl <;> decide
      refine bodyPost_ret (v := pv y) (by simp [results, Tryz.results34, go_sem, s0, s1, lt]) rfl ⟨y, rfl, ?_, ?_, .inr ⟨hx0, hy0⟩, ?_⟩
      · rw [HY.out]; exact (rot_dv HT.out x i).1
      · rw [HY.out]; exact (rot_dv HT.out x i).2
      · exact (HK.out.setCell (by simp <;> omega) _).setCell (by simp <;> omega) _

end Go.Proofs.YtogdggdaaiajnadGreatDoor
