/- The program: package torsion's add. -/
import Derived.Test.YtknnidbdgfimbaaTpA
import Derived.BigQuiet
set_option linter.unusedSimpArgs false
set_option linter.unusedVariables false
set_option maxRecDepth 100000
namespace Go.Proofs.Ytknnidbdgfimbaa
open Go.RowKit TN

def Ql (x y : Int) (f : Bool) : List Value := [.int .i64 x, .int .i64 y, .bool f]
/-- What add answers. -/
def AdV : Option (Option (Int × Int)) → Value
  | none => .tuple #[.agg #[.int .i64 0, .int .i64 0, .bool false], .bool false]
  | some none => .tuple #[.agg #[.int .i64 0, .int .i64 0, .bool true], .bool true]
  | some (some q) => .tuple #[.agg #[.int .i64 q.1, .int .i64 q.2, .bool false], .bool true]

/-- What add holds in memory. -/
structure Ta (h : Nat) (a b X Y x y : Int) (w W : World) : Prop where
  g : Cl h (Tl a b) 45 W
  q : Cl (h + 1) (Ql X Y false) 30 W
  r : Cl (h + 2) (Ql x y false) 30 W
  o : Cl (h + 3) (Ql 0 0 false) 30 W
  k : Below h w W
theorem Ta.below {h : Nat} {a b X Y x y : Int} {w W W' : World} (t : Ta h a b X Y x y w W) (c : Below W.heap.size W W') : Ta h a b X Y x y w W' :=
  ⟨t.g.below c, t.q.below c, t.r.below c, t.o.below c, t.k.trans (c.mono (by have := t.g.lt; omega))⟩
theorem tal4 (w : World) (o1 o2 o3 o4 : Obj) : Below w.heap.size w ((((w.alloc o1).alloc o2).alloc o3).alloc o4) :=
  (((tala _ _).trans ((tala _ _).mono (by simp))).trans ((tala _ _).mono (by simp; omega))).trans ((tala _ _).mono (by simp; omega))
theorem Ta.new (a b X Y x y : Int) (w : World) : Ta w.heap.size a b X Y x y w
    ((((w.alloc (.cells #[.int .i64 a, .int .i64 b, .int .i64 (dis a b)] 45)).alloc (.cells #[.int .i64 X, .int .i64 Y, .bool false] 30)).alloc (.cells #[.int .i64 x, .int .i64 y, .bool false] 30)).alloc (.cells #[.int .i64 0, .int .i64 0, .bool false] 30)) :=
  ⟨(((Cl.new (Tl a b) _ w).alloc _).alloc _).alloc _, ((tcnew _ (Ql X Y false) _ _ (by simp)).alloc _).alloc _, (tcnew _ (Ql x y false) _ _ (by simp)).alloc _, tcnew _ (Ql 0 0 false) _ _ (by simp), tal4 _ _ _ _ _⟩

/-- Behind the slope: what the rest of add wants to know. -/
theorem ok_iff {a b v u y : Int} {ok : Bool} (hu : u * u = cub a b v) (h : LyOut a b v y ok) : ok = true ↔ (u = 0 ∨ dis a b % (u * u) = 0) := by
  cases ok with
  | true =>
    have h1 := (h.1 rfl).2
    refine ⟨fun _ => ?_, fun _ => rfl⟩
    have e : y * y = u * u := h1.on.trans hu.symm
    rcases h1.dv with g | g
    · left
      rw [g] at e
      rcases Int.mul_eq_zero.1 e.symm with k | k <;> exact k
    · right; rw [← e]; exact g
  | false =>
    refine ⟨fun e => by simp at e, fun e => ?_⟩
    exact absurd ⟨hu, e⟩ (h.2 rfl u)

theorem td_bd {n d : Int} (h1 : -7700000 ≤ n) (h2 : n ≤ 7700000) : -7700000 ≤ n.tdiv d ∧ n.tdiv d ≤ 7700000 := by
  have h : (n.tdiv d).natAbs = n.natAbs / d.natAbs := Int.natAbs_tdiv n d
  have h3 : n.natAbs / d.natAbs ≤ n.natAbs := Nat.div_le_self _ _
  omega

set_option maxHeartbeats 4000000 in
theorem tadd_any (a b X Y x y : Int) (w : World) (h : Cu a b) (hq : Lk a b X Y) (hr : Lk a b x y) :
    Calls Try.prog 55 #[Tv a b, .agg #[.int .i64 X, .int .i64 Y, .bool false], .agg #[.int .i64 x, .int .i64 y, .bool false]] w fun e w' => e = .returned (AdV (pAdd a b x y X Y)) ∧ Below w.heap.size w w' := by
  have HC : Hid (Cu a b) := h
  have HQ : Hid (Lk a b X Y) := hq
  have HR : Hid (Lk a b x y) := hr
  have ha1 := h.a1
  have ha2 := h.a2
  obtain ⟨X1, X2⟩ := hq.range h
  obtain ⟨Y1, Y2⟩ := hq.yb h
  obtain ⟨x1, x2⟩ := hr.range h
  obtain ⟨y1, y2⟩ := hr.yb h
  clear h hq hr
  have T0 := Ta.new a b X Y x y w
  by_cases c1 : X = x ∧ Y = -y
  · rw [show pAdd a b x y X Y = some none by rw [pAdd, if_pos c1]]
    obtain ⟨e1, e2⟩ := c1
    have t1 : (X == x) = true := beq_iff_eq.2 e1
    have t2 : (Y == -y) = true := beq_iff_eq.2 e2
    have HT0 : Hid (Ta w.heap.size a b X Y x y w _) := T0
    clear T0 e1 e2
    unfold Tv AdV
    go_enter Try.func55, Try.ntmps55
    go_wp2
    exact bodyPost_ret (v := .tuple #[.agg #[.int .i64 0, .int .i64 0, .bool true], .bool true]) (by simp [results, Try.results55, go_sem]) rfl ⟨rfl, tal4 _ _ _ _ _⟩
  have c1' : ∃ t, (X == x) = t ∧ (t = true → (Y == -y) = false) := by
    by_cases e : X = x
    · exact ⟨true, beq_iff_eq.2 e, fun _ => beq_eq_false_iff_ne.2 fun g => c1 ⟨e, g⟩⟩
    · exact ⟨false, beq_eq_false_iff_ne.2 e, fun g => by simp at g⟩
  by_cases c2 : X = x ∧ Y = y
  · rw [pAdd, if_neg c1, if_pos c2]
    obtain ⟨e1, e2⟩ := c2
    have hy0 : y ≠ 0 := fun e => c1 ⟨e1, by omega⟩
    clear c1' T0
    subst e1 e2
    have tn : (Y == -Y) = false := beq_eq_false_iff_ne.2 (by omega)
    have tz : (2 * Y == 0) = false := beq_eq_false_iff_ne.2 (by omega)
    obtain ⟨p, hp⟩ : ∃ p, 3 * X * X = p := ⟨_, rfl⟩
    have e1 := tn_abs (M := 4797) (N := 1599) (show -4797 ≤ 3 * X by omega) (by omega) (show -1599 ≤ X by omega) (by omega)
    rw [hp] at e1 ⊢
    have HP : Hid (3 * X * X = p) := hp
    have HTn : Hid (Ta w.heap.size a b X Y X Y w _) := Ta.new a b X Y X Y w
    by_cases c3 : (p + a).tmod (2 * Y) ≠ 0
    · rw [if_pos c3]
      have t3 : ((p + a).tmod (2 * Y) == 0) = false := beq_eq_false_iff_ne.2 c3
      clear c1 c3
      unfold Tv AdV
      go_enter Try.func55, Try.ntmps55
      go_wp2
      go_quiet (fail)
      generalize hw0 : World.drewN _ _ = w0
      have T0 : Ta w.heap.size a b X Y X Y w w0 := by
        rw [← hw0]; exact (HTn.out).below (below_drewN' (Below.refl _ _))
      clear hw0
      have HT0 : Hid (Ta w.heap.size a b X Y X Y w w0) := T0
      have g0 : w0.cell? ⟨w.heap.size, 0, none⟩ = some (.int .i64 a) := T0.g.cell 0
      have g1 : w0.cell? ⟨w.heap.size, 1, none⟩ = some (.int .i64 b) := T0.g.cell 1
      have g2 : w0.cell? ⟨w.heap.size, 2, none⟩ = some (.int .i64 (dis a b)) := T0.g.cell 2
      have q0 : w0.cell? ⟨w.heap.size + 1, 0, none⟩ = some (.int .i64 X) := T0.q.cell 0
      have q1 : w0.cell? ⟨w.heap.size + 1, 1, none⟩ = some (.int .i64 Y) := T0.q.cell 1
      have q2 : w0.cell? ⟨w.heap.size + 1, 2, none⟩ = some (.bool false) := T0.q.cell 2
      have r0 : w0.cell? ⟨w.heap.size + 2, 0, none⟩ = some (.int .i64 X) := T0.r.cell 0
      have r1 : w0.cell? ⟨w.heap.size + 2, 1, none⟩ = some (.int .i64 Y) := T0.r.cell 1
      have r2 : w0.cell? ⟨w.heap.size + 2, 2, none⟩ = some (.bool false) := T0.r.cell 2
      have o0 : w0.cell? ⟨w.heap.size + 3, 0, none⟩ = some (.int .i64 0) := T0.o.cell 0
      have o1 : w0.cell? ⟨w.heap.size + 3, 1, none⟩ = some (.int .i64 0) := T0.o.cell 1
      have o2 : w0.cell? ⟨w.heap.size + 3, 2, none⟩ = some (.bool false) := T0.o.cell 2
      have f0 := T0.o.frozen 0
      have f1 := T0.o.frozen 1
      have f2 := T0.o.frozen 2
      clear T0
      go_wp2
      go_quiet (fail)
      clear g0 g1 g2 q0 q1 q2 r0 r1 r2 o0 o1 o2 f0 f1 f2 HTn
      have HTn := HT0
      clear HT0
      generalize hw0 : World.drewN _ _ = w0
      have T0 : Ta w.heap.size a b X Y X Y w w0 := by
        rw [← hw0]; exact (HTn.out).below (below_drewN' (Below.refl _ _))
      clear hw0
      have HT0 : Hid (Ta w.heap.size a b X Y X Y w w0) := T0
      have g0 : w0.cell? ⟨w.heap.size, 0, none⟩ = some (.int .i64 a) := T0.g.cell 0
      have g1 : w0.cell? ⟨w.heap.size, 1, none⟩ = some (.int .i64 b) := T0.g.cell 1
      have g2 : w0.cell? ⟨w.heap.size, 2, none⟩ = some (.int .i64 (dis a b)) := T0.g.cell 2
      have q0 : w0.cell? ⟨w.heap.size + 1, 0, none⟩ = some (.int .i64 X) := T0.q.cell 0
      have q1 : w0.cell? ⟨w.heap.size + 1, 1, none⟩ = some (.int .i64 Y) := T0.q.cell 1
      have q2 : w0.cell? ⟨w.heap.size + 1, 2, none⟩ = some (.bool false) := T0.q.cell 2
      have r0 : w0.cell? ⟨w.heap.size + 2, 0, none⟩ = some (.int .i64 X) := T0.r.cell 0
      have r1 : w0.cell? ⟨w.heap.size + 2, 1, none⟩ = some (.int .i64 Y) := T0.r.cell 1
      have r2 : w0.cell? ⟨w.heap.size + 2, 2, none⟩ = some (.bool false) := T0.r.cell 2
      have o0 : w0.cell? ⟨w.heap.size + 3, 0, none⟩ = some (.int .i64 0) := T0.o.cell 0
      have o1 : w0.cell? ⟨w.heap.size + 3, 1, none⟩ = some (.int .i64 0) := T0.o.cell 1
      have o2 : w0.cell? ⟨w.heap.size + 3, 2, none⟩ = some (.bool false) := T0.o.cell 2
      have f0 := T0.o.frozen 0
      have f1 := T0.o.frozen 1
      have f2 := T0.o.frozen 2
      clear T0
      go_wp2
      have Z := ((HT0.out.o.set 0 (.int .i64 0)).set 1 (.int .i64 0)).set 2 (.bool false)
      have z0 := Z.cell 0
      have z1 := Z.cell 1
      have z2 := Z.cell 2
      simp [Ql] at z0 z1 z2
      refine bodyPost_ret (v := .tuple #[.agg #[.int .i64 0, .int .i64 0, .bool false], .bool false]) (by simp [results, Try.results55, go_sem, z0, z1, z2]) rfl ⟨rfl, ?_⟩
      exact ((HT0.out.k.setCell (by show w.heap.size ≤ w.heap.size + 3; omega) _).setCell (by show w.heap.size ≤ w.heap.size + 3; omega) _).setCell (by show w.heap.size ≤ w.heap.size + 3; omega) _
    · rw [if_neg c3]
      have c3' : (p + a).tmod (2 * Y) = 0 := by simpa using c3
      have t3 : ((p + a).tmod (2 * Y) == 0) = true := beq_iff_eq.2 c3'
      obtain ⟨k, hk⟩ : ∃ k, (p + a).tdiv (2 * Y) = k := ⟨_, rfl⟩
      have hkm : k * (2 * Y) = 3 * X * X + a := by rw [HP.out, ← hk]; exact tm c3'
      have hkb := td_bd (d := 2 * Y) (show -7700000 ≤ p + a by omega) (show p + a ≤ 7700000 by omega)
      rw [hk] at hkb ⊢
      dsimp only
      obtain ⟨k2, k3⟩ : -8000000 ≤ k ∧ k ≤ 8000000 := by omega
      obtain ⟨kk, hkk⟩ : ∃ kk, k * k = kk := ⟨_, rfl⟩
      have ekk := tn_abs k2 k3 k2 k3
      rw [hkk] at ekk ⊢
      obtain ⟨v, hv0⟩ : ∃ v, kk - X - X = v := ⟨_, rfl⟩
      have HU : Hid ((k * (X - v) - Y) * (k * (X - v) - Y) = cub a b v) := by
        have := on_tangent HQ.out.on hkm
        rw [hkk, hv0] at this
        exact this
      rw [hv0]
      obtain ⟨u, hu⟩ : ∃ u, k * (X - v) - Y = u := ⟨_, rfl⟩
      rw [hu] at HU ⊢
      obtain ⟨R, hR⟩ : ∃ R, AdV (if u = 0 ∨ dis a b % (u * u) = 0 then some (some (v, u)) else none) = R := ⟨_, rfl⟩
      rw [hR]
      have HRr : Hid (AdV (if u = 0 ∨ dis a b % (u * u) = 0 then some (some (v, u)) else none) = R) := hR
      clear hR
      have HL : Hid (∀ w, Calls Try.prog 54 #[Tv a b, .int .i64 v] w fun e w' => ∃ (y : Int) (ok : Bool), e = .returned (.tuple #[.int .i64 y, .bool ok]) ∧ LyOut a b v y ok ∧ Below w.heap.size w w') := fun w => likelyY_any a b v w HC.out
      clear c1 c3 c3' hkm hkb
      unfold Tv at HL ⊢
      go_enter Try.func55, Try.ntmps55
      go_wp2
      go_quiet (fail)
      generalize hw0 : World.drewN _ _ = w0
      have T0 : Ta w.heap.size a b X Y X Y w w0 := by
        rw [← hw0]; exact (HTn.out).below (below_drewN' (Below.refl _ _))
      clear hw0
      have HT0 : Hid (Ta w.heap.size a b X Y X Y w w0) := T0
      have g0 : w0.cell? ⟨w.heap.size, 0, none⟩ = some (.int .i64 a) := T0.g.cell 0
      have g1 : w0.cell? ⟨w.heap.size, 1, none⟩ = some (.int .i64 b) := T0.g.cell 1
      have g2 : w0.cell? ⟨w.heap.size, 2, none⟩ = some (.int .i64 (dis a b)) := T0.g.cell 2
      have q0 : w0.cell? ⟨w.heap.size + 1, 0, none⟩ = some (.int .i64 X) := T0.q.cell 0
      have q1 : w0.cell? ⟨w.heap.size + 1, 1, none⟩ = some (.int .i64 Y) := T0.q.cell 1
      have q2 : w0.cell? ⟨w.heap.size + 1, 2, none⟩ = some (.bool false) := T0.q.cell 2
      have r0 : w0.cell? ⟨w.heap.size + 2, 0, none⟩ = some (.int .i64 X) := T0.r.cell 0
      have r1 : w0.cell? ⟨w.heap.size + 2, 1, none⟩ = some (.int .i64 Y) := T0.r.cell 1
      have r2 : w0.cell? ⟨w.heap.size + 2, 2, none⟩ = some (.bool false) := T0.r.cell 2
      have o0 : w0.cell? ⟨w.heap.size + 3, 0, none⟩ = some (.int .i64 0) := T0.o.cell 0
      have o1 : w0.cell? ⟨w.heap.size + 3, 1, none⟩ = some (.int .i64 0) := T0.o.cell 1
      have o2 : w0.cell? ⟨w.heap.size + 3, 2, none⟩ = some (.bool false) := T0.o.cell 2
      have f0 := T0.o.frozen 0
      have f1 := T0.o.frozen 1
      have f2 := T0.o.frozen 2
      clear T0
      go_wp2
      go_quiet (fail)
      clear g0 g1 g2 q0 q1 q2 r0 r1 r2 o0 o1 o2 f0 f1 f2 HTn
      have HTn := HT0
      clear HT0
      generalize hw0 : World.drewN _ _ = w0
      have T0 : Ta w.heap.size a b X Y X Y w w0 := by
        rw [← hw0]; exact (HTn.out).below (below_drewN' (Below.refl _ _))
      clear hw0
      have HT0 : Hid (Ta w.heap.size a b X Y X Y w w0) := T0
      have g0 : w0.cell? ⟨w.heap.size, 0, none⟩ = some (.int .i64 a) := T0.g.cell 0
      have g1 : w0.cell? ⟨w.heap.size, 1, none⟩ = some (.int .i64 b) := T0.g.cell 1
      have g2 : w0.cell? ⟨w.heap.size, 2, none⟩ = some (.int .i64 (dis a b)) := T0.g.cell 2
      have q0 : w0.cell? ⟨w.heap.size + 1, 0, none⟩ = some (.int .i64 X) := T0.q.cell 0
      have q1 : w0.cell? ⟨w.heap.size + 1, 1, none⟩ = some (.int .i64 Y) := T0.q.cell 1
      have q2 : w0.cell? ⟨w.heap.size + 1, 2, none⟩ = some (.bool false) := T0.q.cell 2
      have r0 : w0.cell? ⟨w.heap.size + 2, 0, none⟩ = some (.int .i64 X) := T0.r.cell 0
      have r1 : w0.cell? ⟨w.heap.size + 2, 1, none⟩ = some (.int .i64 Y) := T0.r.cell 1
      have r2 : w0.cell? ⟨w.heap.size + 2, 2, none⟩ = some (.bool false) := T0.r.cell 2
      have o0 : w0.cell? ⟨w.heap.size + 3, 0, none⟩ = some (.int .i64 0) := T0.o.cell 0
      have o1 : w0.cell? ⟨w.heap.size + 3, 1, none⟩ = some (.int .i64 0) := T0.o.cell 1
      have o2 : w0.cell? ⟨w.heap.size + 3, 2, none⟩ = some (.bool false) := T0.o.cell 2
      have f0 := T0.o.frozen 0
      have f1 := T0.o.frozen 1
      have f2 := T0.o.frozen 2
      clear T0
      clear HTn
      go_wp2_with fail
      refine (HL.out _).mono ?_
      rintro e w1 ⟨y', ok, rfl, ho, k1⟩
      have T1 := HT0.out.below k1
      clear HT0
      have HT0 : Hid (Ta w.heap.size a b X Y X Y w w1) := T1
      have q0 : w1.cell? ⟨w.heap.size + 1, 0, none⟩ = some (.int .i64 X) := T1.q.cell 0
      have q1 : w1.cell? ⟨w.heap.size + 1, 1, none⟩ = some (.int .i64 Y) := T1.q.cell 1
      have o0 : w1.cell? ⟨w.heap.size + 3, 0, none⟩ = some (.int .i64 0) := T1.o.cell 0
      have o1 : w1.cell? ⟨w.heap.size + 3, 1, none⟩ = some (.int .i64 0) := T1.o.cell 1
      have o2 : w1.cell? ⟨w.heap.size + 3, 2, none⟩ = some (.bool false) := T1.o.cell 2
      have f0 := T1.o.frozen 0
      have f1 := T1.o.frozen 1
      have f2 := T1.o.frozen 2
      have hok := ok_iff HU.out ho
      clear T1 k1
      cases ok with
      | false =>
        have HF : Hid (¬ (u = 0 ∨ dis a b % (u * u) = 0)) := fun h => by have := hok.2 h; simp at this
        have hRv : R = .tuple #[.agg #[.int .i64 0, .int .i64 0, .bool false], .bool false] := by rw [← HRr.out, if_neg HF.out]; rfl
        clear HRr
        subst hRv
        clear hok ho
        go_wp2
        have Z := ((HT0.out.o.set 0 (.int .i64 0)).set 1 (.int .i64 0)).set 2 (.bool false)
        have z0 := Z.cell 0
        have z1 := Z.cell 1
        have z2 := Z.cell 2
        simp [Ql] at z0 z1 z2
        refine bodyPost_ret (v := .tuple #[.agg #[.int .i64 0, .int .i64 0, .bool false], .bool false]) (by simp [results, Try.results55, go_sem, z0, z1, z2]) rfl ⟨rfl, ?_⟩
        exact ((HT0.out.k.setCell (by show w.heap.size ≤ w.heap.size + 3; omega) _).setCell (by show w.heap.size ≤ w.heap.size + 3; omega) _).setCell (by show w.heap.size ≤ w.heap.size + 3; omega) _
      | true =>
        have HF : Hid (u = 0 ∨ dis a b % (u * u) = 0) := hok.1 rfl
        have hRv : R = .tuple #[.agg #[.int .i64 v, .int .i64 u, .bool false], .bool true] := by rw [← HRr.out, if_pos HF.out]; rfl
        clear HRr
        subst hRv
        have hv := (ho.1 rfl).2.range HC.out
        have hub := tn_abs (M := 8000000) (N := 1700) k2 k3 (show -1700 ≤ X - v by omega) (by omega)
        obtain ⟨m, hm⟩ : ∃ m, k * (X - v) = m := ⟨_, rfl⟩
        rw [hm] at hub hu
        clear hok ho
        go_wp2
        have Z := ((HT0.out.o.set 0 (.int .i64 v)).set 1 (.int .i64 u)).set 2 (.bool false)
        have z0 := Z.cell 0
        have z1 := Z.cell 1
        have z2 := Z.cell 2
        simp [Ql] at z0 z1 z2
        refine bodyPost_ret (v := .tuple #[.agg #[.int .i64 v, .int .i64 u, .bool false], .bool true]) (by simp [results, Try.results55, go_sem, z0, z1, z2]) rfl ⟨rfl, ?_⟩
        exact ((HT0.out.k.setCell (by show w.heap.size ≤ w.heap.size + 3; omega) _).setCell (by show w.heap.size ≤ w.heap.size + 3; omega) _).setCell (by show w.heap.size ≤ w.heap.size + 3; omega) _
  · rw [pAdd, if_neg c1, if_neg c2]
    have hx : X ≠ x := by
      intro e; subst e
      rcases eq_or_neg (HQ.out.on.trans HR.out.on.symm) with g | g
      · exact c2 ⟨rfl, g⟩
      · exact c1 ⟨rfl, g⟩
    have tx : (X == x) = false := beq_eq_false_iff_ne.2 hx
    obtain ⟨dd, hdd⟩ : ∃ dd, x - X = dd := ⟨_, rfl⟩
    have tz : dd ≠ 0 := by omega
    rw [hdd]
    clear c1' T0
    have HTn : Hid (Ta w.heap.size a b X Y x y w _) := Ta.new a b X Y x y w
    by_cases c3 : (y - Y).tmod dd ≠ 0
    · rw [if_pos c3]
      have t3 : ((y - Y).tmod dd == 0) = false := beq_eq_false_iff_ne.2 c3
      clear c1 c2 c3 hx
      unfold Tv AdV
      go_enter Try.func55, Try.ntmps55
      go_wp2
      go_quiet (fail)
      generalize hw0 : World.drewN _ _ = w0
      have T0 : Ta w.heap.size a b X Y x y w w0 := by
        rw [← hw0]; exact (HTn.out).below (below_drewN' (Below.refl _ _))
      clear hw0
      have HT0 : Hid (Ta w.heap.size a b X Y x y w w0) := T0
      have g0 : w0.cell? ⟨w.heap.size, 0, none⟩ = some (.int .i64 a) := T0.g.cell 0
      have g1 : w0.cell? ⟨w.heap.size, 1, none⟩ = some (.int .i64 b) := T0.g.cell 1
      have g2 : w0.cell? ⟨w.heap.size, 2, none⟩ = some (.int .i64 (dis a b)) := T0.g.cell 2
      have q0 : w0.cell? ⟨w.heap.size + 1, 0, none⟩ = some (.int .i64 X) := T0.q.cell 0
      have q1 : w0.cell? ⟨w.heap.size + 1, 1, none⟩ = some (.int .i64 Y) := T0.q.cell 1
      have q2 : w0.cell? ⟨w.heap.size + 1, 2, none⟩ = some (.bool false) := T0.q.cell 2
      have r0 : w0.cell? ⟨w.heap.size + 2, 0, none⟩ = some (.int .i64 x) := T0.r.cell 0
      have r1 : w0.cell? ⟨w.heap.size + 2, 1, none⟩ = some (.int .i64 y) := T0.r.cell 1
      have r2 : w0.cell? ⟨w.heap.size + 2, 2, none⟩ = some (.bool false) := T0.r.cell 2
      have o0 : w0.cell? ⟨w.heap.size + 3, 0, none⟩ = some (.int .i64 0) := T0.o.cell 0
      have o1 : w0.cell? ⟨w.heap.size + 3, 1, none⟩ = some (.int .i64 0) := T0.o.cell 1
      have o2 : w0.cell? ⟨w.heap.size + 3, 2, none⟩ = some (.bool false) := T0.o.cell 2
      have f0 := T0.o.frozen 0
      have f1 := T0.o.frozen 1
      have f2 := T0.o.frozen 2
      clear T0
      go_wp2
      have Z := ((HT0.out.o.set 0 (.int .i64 0)).set 1 (.int .i64 0)).set 2 (.bool false)
      have z0 := Z.cell 0
      have z1 := Z.cell 1
      have z2 := Z.cell 2
      simp [Ql] at z0 z1 z2
      refine bodyPost_ret (v := .tuple #[.agg #[.int .i64 0, .int .i64 0, .bool false], .bool false]) (by simp [results, Try.results55, go_sem, z0, z1, z2]) rfl ⟨rfl, ?_⟩
      exact ((HT0.out.k.setCell (by show w.heap.size ≤ w.heap.size + 3; omega) _).setCell (by show w.heap.size ≤ w.heap.size + 3; omega) _).setCell (by show w.heap.size ≤ w.heap.size + 3; omega) _
    · rw [if_neg c3]
      have c3' : (y - Y).tmod dd = 0 := by simpa using c3
      have t3 : ((y - Y).tmod dd == 0) = true := beq_iff_eq.2 c3'
      obtain ⟨k, hk⟩ : ∃ k, (y - Y).tdiv dd = k := ⟨_, rfl⟩
      have hkm : k * (x - X) = y - Y := by rw [hdd, ← hk]; exact tm c3'
      have hkb := td_bd (d := dd) (show -7700000 ≤ y - Y by omega) (show y - Y ≤ 7700000 by omega)
      rw [hk] at hkb ⊢
      dsimp only
      obtain ⟨k2, k3⟩ : -8000000 ≤ k ∧ k ≤ 8000000 := by omega
      obtain ⟨kk, hkk⟩ : ∃ kk, k * k = kk := ⟨_, rfl⟩
      have ekk := tn_abs k2 k3 k2 k3
      rw [hkk] at ekk ⊢
      obtain ⟨v, hv0⟩ : ∃ v, kk - X - x = v := ⟨_, rfl⟩
      have HU : Hid ((k * (X - v) - Y) * (k * (X - v) - Y) = cub a b v) := by
        have := on_chord HQ.out.on HR.out.on hx hkm
        rw [hkk, hv0] at this
        exact this
      rw [hv0]
      obtain ⟨u, hu⟩ : ∃ u, k * (X - v) - Y = u := ⟨_, rfl⟩
      rw [hu] at HU ⊢
      obtain ⟨R, hR⟩ : ∃ R, AdV (if u = 0 ∨ dis a b % (u * u) = 0 then some (some (v, u)) else none) = R := ⟨_, rfl⟩
      rw [hR]
      have HRr : Hid (AdV (if u = 0 ∨ dis a b % (u * u) = 0 then some (some (v, u)) else none) = R) := hR
      clear hR
      have HL : Hid (∀ w, Calls Try.prog 54 #[Tv a b, .int .i64 v] w fun e w' => ∃ (y : Int) (ok : Bool), e = .returned (.tuple #[.int .i64 y, .bool ok]) ∧ LyOut a b v y ok ∧ Below w.heap.size w w') := fun w => likelyY_any a b v w HC.out
      clear c1 c2 c3 c3' hkm hkb hx
      unfold Tv at HL ⊢
      go_enter Try.func55, Try.ntmps55
      go_wp2
      go_quiet (fail)
      generalize hw0 : World.drewN _ _ = w0
      have T0 : Ta w.heap.size a b X Y x y w w0 := by
        rw [← hw0]; exact (HTn.out).below (below_drewN' (Below.refl _ _))
      clear hw0
      have HT0 : Hid (Ta w.heap.size a b X Y x y w w0) := T0
      have g0 : w0.cell? ⟨w.heap.size, 0, none⟩ = some (.int .i64 a) := T0.g.cell 0
      have g1 : w0.cell? ⟨w.heap.size, 1, none⟩ = some (.int .i64 b) := T0.g.cell 1
      have g2 : w0.cell? ⟨w.heap.size, 2, none⟩ = some (.int .i64 (dis a b)) := T0.g.cell 2
      have q0 : w0.cell? ⟨w.heap.size + 1, 0, none⟩ = some (.int .i64 X) := T0.q.cell 0
      have q1 : w0.cell? ⟨w.heap.size + 1, 1, none⟩ = some (.int .i64 Y) := T0.q.cell 1
      have q2 : w0.cell? ⟨w.heap.size + 1, 2, none⟩ = some (.bool false) := T0.q.cell 2
      have r0 : w0.cell? ⟨w.heap.size + 2, 0, none⟩ = some (.int .i64 x) := T0.r.cell 0
      have r1 : w0.cell? ⟨w.heap.size + 2, 1, none⟩ = some (.int .i64 y) := T0.r.cell 1
      have r2 : w0.cell? ⟨w.heap.size + 2, 2, none⟩ = some (.bool false) := T0.r.cell 2
      have o0 : w0.cell? ⟨w.heap.size + 3, 0, none⟩ = some (.int .i64 0) := T0.o.cell 0
      have o1 : w0.cell? ⟨w.heap.size + 3, 1, none⟩ = some (.int .i64 0) := T0.o.cell 1
      have o2 : w0.cell? ⟨w.heap.size + 3, 2, none⟩ = some (.bool false) := T0.o.cell 2
      have f0 := T0.o.frozen 0
      have f1 := T0.o.frozen 1
      have f2 := T0.o.frozen 2
      clear T0
      clear HTn
      go_wp2_with fail
      refine (HL.out _).mono ?_
      rintro e w1 ⟨y', ok, rfl, ho, k1⟩
      have T1 := HT0.out.below k1
      clear HT0
      have HT0 : Hid (Ta w.heap.size a b X Y x y w w1) := T1
      have q0 : w1.cell? ⟨w.heap.size + 1, 0, none⟩ = some (.int .i64 X) := T1.q.cell 0
      have q1 : w1.cell? ⟨w.heap.size + 1, 1, none⟩ = some (.int .i64 Y) := T1.q.cell 1
      have o0 : w1.cell? ⟨w.heap.size + 3, 0, none⟩ = some (.int .i64 0) := T1.o.cell 0
      have o1 : w1.cell? ⟨w.heap.size + 3, 1, none⟩ = some (.int .i64 0) := T1.o.cell 1
      have o2 : w1.cell? ⟨w.heap.size + 3, 2, none⟩ = some (.bool false) := T1.o.cell 2
      have f0 := T1.o.frozen 0
      have f1 := T1.o.frozen 1
      have f2 := T1.o.frozen 2
      have hok := ok_iff HU.out ho
      clear T1 k1
      cases ok with
      | false =>
        have HF : Hid (¬ (u = 0 ∨ dis a b % (u * u) = 0)) := fun h => by have := hok.2 h; simp at this
        have hRv : R = .tuple #[.agg #[.int .i64 0, .int .i64 0, .bool false], .bool false] := by rw [← HRr.out, if_neg HF.out]; rfl
        clear HRr
        subst hRv
        clear hok ho
        go_wp2
        have Z := ((HT0.out.o.set 0 (.int .i64 0)).set 1 (.int .i64 0)).set 2 (.bool false)
        have z0 := Z.cell 0
        have z1 := Z.cell 1
        have z2 := Z.cell 2
        simp [Ql] at z0 z1 z2
        refine bodyPost_ret (v := .tuple #[.agg #[.int .i64 0, .int .i64 0, .bool false], .bool false]) (by simp [results, Try.results55, go_sem, z0, z1, z2]) rfl ⟨rfl, ?_⟩
        exact ((HT0.out.k.setCell (by show w.heap.size ≤ w.heap.size + 3; omega) _).setCell (by show w.heap.size ≤ w.heap.size + 3; omega) _).setCell (by show w.heap.size ≤ w.heap.size + 3; omega) _
      | true =>
        have HF : Hid (u = 0 ∨ dis a b % (u * u) = 0) := hok.1 rfl
        have hRv : R = .tuple #[.agg #[.int .i64 v, .int .i64 u, .bool false], .bool true] := by rw [← HRr.out, if_pos HF.out]; rfl
        clear HRr
        subst hRv
        have hv := (ho.1 rfl).2.range HC.out
        have hub := tn_abs (M := 8000000) (N := 1700) k2 k3 (show -1700 ≤ X - v by omega) (by omega)
        obtain ⟨m, hm⟩ : ∃ m, k * (X - v) = m := ⟨_, rfl⟩
        rw [hm] at hub hu
        clear hok ho
        go_wp2
        have Z := ((HT0.out.o.set 0 (.int .i64 v)).set 1 (.int .i64 u)).set 2 (.bool false)
        have z0 := Z.cell 0
        have z1 := Z.cell 1
        have z2 := Z.cell 2
        simp [Ql] at z0 z1 z2
        refine bodyPost_ret (v := .tuple #[.agg #[.int .i64 v, .int .i64 u, .bool false], .bool true]) (by simp [results, Try.results55, go_sem, z0, z1, z2]) rfl ⟨rfl, ?_⟩
        exact ((HT0.out.k.setCell (by show w.heap.size ≤ w.heap.size + 3; omega) _).setCell (by show w.heap.size ≤ w.heap.size + 3; omega) _).setCell (by show w.heap.size ≤ w.heap.size + 3; omega) _

end Go.Proofs.Ytknnidbdgfimbaa
