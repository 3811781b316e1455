/- The reference: Plus. Written by mktr.py. -/
import Derived.Test.YtknnidbdgfimbaaTrA
set_option linter.unusedSimpArgs false
set_option linter.unusedVariables false
set_option maxRecDepth 100000
namespace Go.Proofs.Ytknnidbdgfimbaa
open Go.RowKit

/-- What Plus holds in memory: the two places, the answer's, and the ratios that it reads. -/
structure Pm (h qx qy rx ry : Nat) (X Y x y : Rat) (m : Nat) (w W : World) : Prop where
  q : Cl h [.pointer (some ⟨qx, 0, none⟩), .pointer (some ⟨qy, 0, none⟩), .bool false] 38 W
  r : Cl (h + 1) [.pointer (some ⟨rx, 0, none⟩), .pointer (some ⟨ry, 0, none⟩), .bool false] 38 W
  o : Cl (h + 2) [.pointer none, .pointer none, .bool false] 38 W
  vX : Rv W qx X m
  vY : Rv W qy Y m
  vx : Rv W rx x m
  vy : Rv W ry y m
  lt : qx < h ∧ qy < h ∧ rx < h ∧ ry < h
  k : Below h w W
theorem Pm.below {h qx qy rx ry : Nat} {X Y x y : Rat} {m : Nat} {w W W' : World} (p : Pm h qx qy rx ry X Y x y m w W) (c : Below W.heap.size W W') : Pm h qx qy rx ry X Y x y m w W' :=
  ⟨p.q.below c, p.r.below c, p.o.below c, p.vX.below c, p.vY.below c, p.vx.below c, p.vy.below c, p.lt, p.k.trans (c.mono (by have := p.q.lt; omega))⟩
theorem Pm.upd {h qx qy rx ry z : Nat} {X Y x y : Rat} {m : Nat} {w W W' : World} (p : Pm h qx qy rx ry X Y x y m w W) (u : Upd z W W') (hz : RSlot W z) (h3 : h + 3 ≤ z) : Pm h qx qy rx ry X Y x y m w W' := by
  obtain ⟨l1, l2, l3, l4⟩ := p.lt
  exact ⟨(u.block _ p.q.lt (by omega)).trans p.q, (u.block _ p.r.lt (by omega)).trans p.r, (u.block _ p.o.lt (by omega)).trans p.o, p.vX.updR u hz (by omega), p.vY.updR u hz (by omega), p.vx.updR u hz (by omega), p.vy.updR u hz (by omega), p.lt, p.k.trans (u.below (by have := p.q.lt; omega) (by omega))⟩
theorem tal3 (w : World) (o1 o2 o3 : Obj) : Below w.heap.size w (((w.alloc o1).alloc o2).alloc o3) :=
  ((tala _ _).trans ((tala _ _).mono (by simp))).trans ((tala _ _).mono (by simp; omega))
theorem Pm.new {qx qy rx ry : Nat} {X Y x y : Rat} {m : Nat} {w : World} (hX : Rv w qx X m) (hY : Rv w qy Y m) (hx : Rv w rx x m) (hy : Rv w ry y m) : Pm w.heap.size qx qy rx ry X Y x y m w
    (((w.alloc (.cells #[.pointer (some ⟨qx, 0, none⟩), .pointer (some ⟨qy, 0, none⟩), .bool false] 38)).alloc (.cells #[.pointer (some ⟨rx, 0, none⟩), .pointer (some ⟨ry, 0, none⟩), .bool false] 38)).alloc (.cells #[.pointer none, .pointer none, .bool false] 38)) := by
  have K := tal3 w (.cells #[.pointer (some ⟨qx, 0, none⟩), .pointer (some ⟨qy, 0, none⟩), .bool false] 38) (.cells #[.pointer (some ⟨rx, 0, none⟩), .pointer (some ⟨ry, 0, none⟩), .bool false] 38) (.cells #[.pointer none, .pointer none, .bool false] 38)
  exact ⟨((Cl.new [.pointer (some ⟨qx, 0, none⟩), .pointer (some ⟨qy, 0, none⟩), .bool false] _ w).alloc _).alloc _, (tcnew _ [.pointer (some ⟨rx, 0, none⟩), .pointer (some ⟨ry, 0, none⟩), .bool false] _ _ (by simp)).alloc _, tcnew _ [.pointer none, .pointer none, .bool false] _ _ (by simp), hX.below K, hY.below K, hx.below K, hy.below K, ⟨hX.lt, hY.lt, hx.lt, hy.lt⟩, K⟩
/-- The cells that Plus reads. -/
abbrev S4p (h qx qy rx ry : Nat) (W : World) : Prop :=
  W.cell? ⟨h, 0, none⟩ = some (.pointer (some ⟨qx, 0, none⟩)) ∧ W.cell? ⟨h, 1, none⟩ = some (.pointer (some ⟨qy, 0, none⟩)) ∧ W.cell? ⟨h, 2, none⟩ = some (.bool false) ∧ W.cell? ⟨h + 1, 0, none⟩ = some (.pointer (some ⟨rx, 0, none⟩)) ∧ W.cell? ⟨h + 1, 1, none⟩ = some (.pointer (some ⟨ry, 0, none⟩)) ∧ W.cell? ⟨h + 1, 2, none⟩ = some (.bool false)
theorem Pm.s {h qx qy rx ry : Nat} {X Y x y : Rat} {m : Nat} {w W : World} (p : Pm h qx qy rx ry X Y x y m w W) : S4p h qx qy rx ry W := ⟨p.q.cell 0, p.q.cell 1, p.q.cell 2, p.r.cell 0, p.r.cell 1, p.r.cell 2⟩
theorem Pm.sa {h qx qy rx ry : Nat} {X Y x y : Rat} {m : Nat} {w W : World} (p : Pm h qx qy rx ry X Y x y m w W) :
    (∀ o : Obj, (W.alloc o).cell? ⟨h, 0, none⟩ = some (.pointer (some ⟨qx, 0, none⟩))) ∧ (∀ o : Obj, (W.alloc o).cell? ⟨h, 1, none⟩ = some (.pointer (some ⟨qy, 0, none⟩))) ∧ (∀ o : Obj, (W.alloc o).cell? ⟨h + 1, 0, none⟩ = some (.pointer (some ⟨rx, 0, none⟩))) ∧ (∀ o : Obj, (W.alloc o).cell? ⟨h + 1, 1, none⟩ = some (.pointer (some ⟨ry, 0, none⟩))) :=
  ⟨fun o => (p.q.alloc o).cell 0, fun o => (p.q.alloc o).cell 1, fun o => (p.r.alloc o).cell 0, fun o => (p.r.alloc o).cell 1⟩
theorem NewRatC (n : Nat) (v : Rat) (i : Int) (w : World) (h1 : 1 ≤ n) (h2 : n < 1000) (hi : i = n) (hv : v = (n : Rat)) :
    Calls Try.prog 30 #[.int .i64 i, .int .i64 1] w fun e w' => ∃ b, e = .returned (.pointer (some ⟨b, 0, none⟩)) ∧ w.heap.size ≤ b ∧ Rv w' b v 2 ∧ Below w.heap.size w w' := by
  subst hi hv
  exact NewRatV n w h1 h2

set_option maxHeartbeats 4000000 in
theorem Plus_far (a : Int) (qx qy rx ry : Nat) (X Y x y : Rat) (m : Nat) (w : World) (hX : Rv w qx X m) (hY : Rv w qy Y m) (hx : Rv w rx x m) (hy : Rv w ry y m) (hm : m ≤ 40000000) (hxx : X = x) (hyy : Y + y = 0) :
    Calls Try.prog 12 #[.int .i64 a, .agg #[.pointer (some ⟨qx, 0, none⟩), .pointer (some ⟨qy, 0, none⟩), .bool false], .agg #[.pointer (some ⟨rx, 0, none⟩), .pointer (some ⟨ry, 0, none⟩), .bool false]] w fun e w' => e = .returned (.agg #[.pointer none, .pointer none, .bool true]) ∧ Below w.heap.size w w' := by
  have HP0 : Hid (Pm w.heap.size qx qy rx ry X Y x y m w _) := Pm.new hX hY hx hy
  clear hX hY hx hy
  go_enter Try.func12, Try.ntmps12
  go_wp2_with fail
  refine (RCmpV qx rx X x m _ (HP0.out.vX.below (tala _ _)) (HP0.out.vx.below (tala _ _)) hm).mono ?_
  rintro e w1 ⟨⟨c, rfl, hc⟩, k1⟩
  have P1 := HP0.out.below ((tala _ _).trans (k1.mono (by simp)))
  have R1 : RSlot w1 (w.heap.size + 3) := RSlot.below (by have := RSlot.new (((w.alloc (.cells #[.pointer (some ⟨qx, 0, none⟩), .pointer (some ⟨qy, 0, none⟩), .bool false] 38)).alloc (.cells #[.pointer (some ⟨rx, 0, none⟩), .pointer (some ⟨ry, 0, none⟩), .bool false] 38)).alloc (.cells #[.pointer none, .pointer none, .bool false] 38)) (.bool false) (.slice none 0 0) (.bool false) (.slice none 0 0); simpa using this) k1
  clear HP0
  have HP : Hid (Pm w.heap.size qx qy rx ry X Y x y m w w1 ∧ RSlot w1 (w.heap.size + 3)) := ⟨P1, R1⟩
  obtain ⟨s0, s1, s2, s3, s4, s5⟩ := P1.s
  obtain ⟨a0, a1, a2, a3⟩ := P1.sa
  clear P1 R1 k1
  have hc0 : (c == 0) = true := beq_iff_eq.2 (hc.2 hxx)
  clear hc
  go_wp2_with fail
  refine (RAddV w1.heap.size qy ry Y y m _ (RSlot.new w1 _ _ _ _) (HP.out.1.vY.below (tala _ _)) (HP.out.1.vy.below (tala _ _)) hm).mono ?_
  rintro e w2 ⟨rfl, v2, u2⟩
  have P2 := (HP.out.1.below (tala w1 (.cells #[.bool false, .slice none 0 0, .bool false, .slice none 0 0] 59))).upd u2 (RSlot.new w1 _ _ _ _) (by have := HP.out.1.o.lt; have := HP.out.2.lt; omega)
  have HP2 : Hid (Pm w.heap.size qx qy rx ry X Y x y m w w2) := P2
  have HV2 : Hid (Rv w2 w1.heap.size (Y + y) (m + m + 1)) := v2
  clear v2 u2 P2 HP s0 s1 s2 s3 s4 s5 a0 a1 a2 a3
  go_wp2_with fail
  refine (RSignV w1.heap.size (Y + y) (m + m + 1) w2 HV2.out).mono ?_
  rintro e w3 ⟨⟨d, rfl, hd⟩, hw3⟩
  rw [hw3]
  clear hw3 w3
  have hd0 : (d == 0) = true := beq_iff_eq.2 (hd.2 hyy)
  have o0 : w2.cell? ⟨w.heap.size + 2, 0, none⟩ = some (.pointer none) := HP2.out.o.cell 0
  have o1 : w2.cell? ⟨w.heap.size + 2, 1, none⟩ = some (.pointer none) := HP2.out.o.cell 1
  have o2 : w2.cell? ⟨w.heap.size + 2, 2, none⟩ = some (.bool false) := HP2.out.o.cell 2
  have f0 := HP2.out.o.frozen 0
  have f1 := HP2.out.o.frozen 1
  have f2 := HP2.out.o.frozen 2
  clear hd
  go_wp2
  have Z := ((HP2.out.o.set 0 (.pointer none)).set 1 (.pointer none)).set 2 (.bool true)
  have z0 := Z.cell 0
  have z1 := Z.cell 1
  have z2 := Z.cell 2
  simp at z0 z1 z2
  refine bodyPost_ret (v := .agg #[.pointer none, .pointer none, .bool true]) (by simp [results, Try.results12, go_sem, z0, z1, z2]) rfl ⟨rfl, ?_⟩
  exact ((HP2.out.k.setCell (by show w.heap.size ≤ w.heap.size + 2; omega) _).setCell (by show w.heap.size ≤ w.heap.size + 2; omega) _).setCell (by show w.heap.size ≤ w.heap.size + 2; omega) _


end Go.Proofs.Ytknnidbdgfimbaa
