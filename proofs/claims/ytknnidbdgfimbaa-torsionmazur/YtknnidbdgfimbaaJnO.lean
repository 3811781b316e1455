import Derived.Test.YtknnidbdgfimbaaTnO
import Derived.Test.YtknnidbdgfimbaaJnM
import Derived.Test.YtknnidbdgfimbaaTrC
import Derived.Test.YtknnidbdgfimbaaTrD
section
/- Plain facts: the reference's multiples as ratios: how they go on, and how great they are. -/
set_option linter.unusedVariables false
set_option maxRecDepth 100000
namespace Go.Proofs.Ytknnidbdgfimbaa
open Go.RowKit TN

theorem pw_bits : ∀ m, pw m = 2 ^ (32 * m) := by
  intro m
  induction m with
  | zero => rfl
  | succ n ih => rw [show pw (n + 1) = 4294967296 * pw n from rfl, ih, show 32 * (n + 1) = 32 + 32 * n by omega, Nat.pow_add]
theorem bt_mul {x y : Int} {a b : Nat} (h1 : x.natAbs < 2 ^ a) (h2 : y.natAbs < 2 ^ b) : (x * y).natAbs < 2 ^ (a + b) := by
  rw [Int.natAbs_mul, Nat.pow_add]
  exact Nat.mul_lt_mul_of_lt_of_le h1 (Nat.le_of_lt h2) (Nat.pow_pos (by decide))
theorem bt_le {x : Int} {a b : Nat} (h1 : x.natAbs < 2 ^ a) (h : a ≤ b) : x.natAbs < 2 ^ b := Nat.lt_of_lt_of_le h1 (Nat.pow_le_pow_right (by decide) h)
theorem bt_sub {x y : Int} {a : Nat} (h1 : x.natAbs < 2 ^ a) (h2 : y.natAbs < 2 ^ a) : (x - y).natAbs < 2 ^ (a + 1) := by
  rw [Nat.pow_succ]; have := Int.natAbs_sub_le x y; omega
theorem bt_add {x y : Int} {a : Nat} (h1 : x.natAbs < 2 ^ a) (h2 : y.natAbs < 2 ^ a) : (x + y).natAbs < 2 ^ (a + 1) := by
  rw [Nat.pow_succ]; have := Int.natAbs_add_le x y; omega
theorem bits_pw {n : Int} {s m : Nat} (h : n.natAbs < 2 ^ s) (hs : s ≤ 32 * m) : n.natAbs < pw m := by
  rw [pw_bits]
  exact bt_le h hs
/-- Bits of the j-th. -/
def sz : Nat → Nat
  | 0 => 24
  | n + 1 => 3 * sz n + 19
structure Zb (t : Int × Int × Int) (s : Nat) : Prop where
  u : t.1.natAbs < 2 ^ (2 * s)
  v : t.2.1.natAbs < 2 ^ (3 * s)
  z : t.2.2.natAbs < 2 ^ s
theorem zb_step {x y : Int} {t : Int × Int × Int} {s : Nat} (hx : x.natAbs < 2 ^ 11) (hy : y.natAbs < 2 ^ 16) (h : Zb t s) : Zb (zst x y t) (3 * s + 19) := by
  obtain ⟨u, v, z⟩ := t
  obtain ⟨h1, h2, h3⟩ := h
  simp only at h1 h2 h3
  have xz : (x * z * z).natAbs < 2 ^ (11 + s + s) := bt_mul (bt_mul hx h3) h3
  have hh : (x * z * z - u).natAbs < 2 ^ (2 * s + 12) := bt_le (bt_sub xz (bt_le h1 (show 2 * s ≤ 11 + s + s by omega))) (by omega)
  have hg : (y * z * z * z - v).natAbs < 2 ^ (3 * s + 17) := bt_le (bt_sub (bt_mul (bt_mul (bt_mul hy h3) h3) h3) (bt_le h2 (show 3 * s ≤ 16 + s + s + s by omega))) (by omega)
  have hu : ((y * z * z * z - v) * (y * z * z * z - v) - (x * z * z - u) * (x * z * z - u) * (u + x * z * z)).natAbs < 2 ^ (6 * s + 37) :=
    bt_le (bt_sub (bt_le (bt_mul hg hg) (show 3 * s + 17 + (3 * s + 17) ≤ 6 * s + 36 by omega)) (bt_le (bt_mul (bt_mul hh hh) (bt_add (bt_le h1 (show 2 * s ≤ 11 + s + s by omega)) xz)) (show 2 * s + 12 + (2 * s + 12) + (11 + s + s + 1) ≤ 6 * s + 36 by omega))) (by omega)
  refine ⟨?_, ?_, ?_⟩
  · exact bt_le hu (by omega)
  · show ((y * z * z * z - v) * (u * (x * z * z - u) * (x * z * z - u) - ((y * z * z * z - v) * (y * z * z * z - v) - (x * z * z - u) * (x * z * z - u) * (u + x * z * z))) - v * (x * z * z - u) * (x * z * z - u) * (x * z * z - u)).natAbs < 2 ^ (3 * (3 * s + 19))
    refine bt_le (bt_sub (a := 9 * s + 55) (bt_le (bt_mul hg (bt_sub (a := 6 * s + 37) (bt_le (bt_mul (bt_mul h1 hh) hh) (by omega)) hu)) (by omega)) (bt_le (bt_mul (bt_mul (bt_mul h2 hh) hh) hh) (by omega))) (by omega)
  · show (z * (x * z * z - u)).natAbs < 2 ^ (3 * s + 19)
    exact bt_le (bt_mul h3 hh) (by omega)
theorem zb_zero {a x y : Int} (ha : -1000 ≤ a ∧ a ≤ 1000) (hx : -1599 ≤ x ∧ x ≤ 1599) (hy : -64000 ≤ y ∧ y ≤ 64000) : Zb (zs0 a x y) 24 := by
  have hs : (3 * x * x + a).natAbs < 2 ^ 23 := by
    have h1 := sq_nn x
    have h2 : x * x ≤ 1599 * 1599 := by
      have := Int.mul_nonneg (show 0 ≤ 1599 - x by omega) (show 0 ≤ 1599 + x by omega)
      have e : (1599 - x) * (1599 + x) = 1599 * 1599 - x * x := by grind
      omega
    have e : 3 * x * x = 3 * (x * x) := by grind
    rw [e]
    omega
  have hxb : x.natAbs < 2 ^ 11 := by omega
  have hyb : y.natAbs < 2 ^ 16 := by omega
  have h2y : (2 * y).natAbs < 2 ^ 17 := by omega
  have h2x : (2 * x).natAbs < 2 ^ 12 := by omega
  have hu : ((3 * x * x + a) * (3 * x * x + a) - 2 * x * (2 * y) * (2 * y)).natAbs < 2 ^ 47 := bt_sub (bt_mul hs hs) (bt_mul (bt_mul h2x h2y) h2y)
  refine ⟨bt_le hu (by omega), ?_, bt_le h2y (by omega)⟩
  show ((3 * x * x + a) * (x * (2 * y) * (2 * y) - ((3 * x * x + a) * (3 * x * x + a) - 2 * x * (2 * y) * (2 * y))) - y * (2 * y) * (2 * y) * (2 * y)).natAbs < 2 ^ 72
  exact bt_sub (bt_mul hs (bt_sub (a := 47) (bt_le (bt_mul (bt_mul hxb h2y) h2y) (by omega)) hu)) (bt_le (bt_mul (bt_mul (bt_mul hyb h2y) h2y) h2y) (by omega))
theorem zb_all {a x y : Int} (ha : -1000 ≤ a ∧ a ≤ 1000) (hx : -1599 ≤ x ∧ x ≤ 1599) (hy : -64000 ≤ y ∧ y ≤ 64000) : ∀ j, Zb (zs a x y j) (sz j) := by
  intro j
  induction j with
  | zero => exact zb_zero ha hx hy
  | succ j ih => exact zb_step (by omega) (by omega) ih
theorem sz_bd {j : Nat} (h : j ≤ 10) : 3 * sz j ≤ 6400000 := by
  have : ∀ i : Fin 11, 3 * sz i.1 ≤ 6400000 := by decide
  exact this ⟨j, by omega⟩

/-- A ratio in lowest terms is no greater than what it is equal to. -/
theorem Rv.frac {w : World} {b : Nat} {v : Rat} {M m : Nat} {U Z : Int} (h : Rv w b v M) (hZ : Z ≠ 0) (hv : v * (Z : Rat) = (U : Rat)) (hU : U.natAbs < pw m) (hZ2 : Z.natAbs < pw m) : Rv w b v m := by
  obtain ⟨P, Q, h1, h2, h3, h4⟩ := h
  have hQ := h1.pos
  have e : P * Z = U * Q := by
    have hq := rne (show Q ≠ 0 by omega)
    have : (P : Rat) * Z = U * Q := by rw [← hv, ← h2]; grind
    rw [← Rat.intCast_mul, ← Rat.intCast_mul] at this
    exact Rat.intCast_inj.1 this
  have e1 : P.natAbs * Z.natAbs = U.natAbs * Q.natAbs := by rw [← Int.natAbs_mul, e, Int.natAbs_mul]
  have hd : Q.natAbs ∣ Z.natAbs := Nat.Coprime.dvd_of_dvd_mul_left (show Nat.Coprime Q.natAbs P.natAbs by rw [Nat.Coprime, Nat.gcd_comm]; exact h1.low) ⟨U.natAbs, by rw [e1, Nat.mul_comm]⟩
  have hq : Q.natAbs ≤ Z.natAbs := Nat.le_of_dvd (by omega) hd
  have hp : P.natAbs ≤ U.natAbs := by
    have : P.natAbs * Z.natAbs ≤ U.natAbs * Z.natAbs := by rw [e1]; exact Nat.mul_le_mul_left _ hq
    exact Nat.le_of_mul_le_mul_right this (by omega)
  exact ⟨P, Q, h1, h2, by omega, by omega⟩
theorem Rv.int {w : World} {b : Nat} {M : Nat} {v : Int} (h : Rv w b (v : Rat) M) (h1 : -1000000000000 ≤ v) (h2 : v ≤ 1000000000000) : Rv w b (v : Rat) 2 :=
  h.frac (Z := 1) (U := v) (by decide) (by grind) (by rw [show pw 2 = 4294967296 * 4294967296 from rfl]; omega) (by decide)

/-- The reference's multiple, as the j-th of the row has it. -/
structure Zr (t : Int × Int × Int) (X Y : Rat) : Prop where
  z : t.2.2 ≠ 0
  x : X * (t.2.2 : Rat) * (t.2.2 : Rat) = (t.1 : Rat)
  y : Y * (t.2.2 : Rat) * (t.2.2 : Rat) * (t.2.2 : Rat) = (t.2.1 : Rat)
theorem zr_zero {a x y : Int} {k : Rat} (hy : y ≠ 0) (hk : ((x : Rat) * x * 3 + (a : Rat)) / (2 * (y : Rat)) = k) : Zr (zs0 a x y) (k * k - x - x) (k * ((x : Rat) - (k * k - x - x)) - y) := by
  have hy' := rne hy
  have h2 : 2 * (y : Rat) ≠ 0 := by grind
  have hk2 : k * (2 * (y : Rat)) = (x : Rat) * x * 3 + (a : Rat) := by rw [← hk]; exact Rat.div_mul_cancel h2
  refine ⟨by show 2 * y ≠ 0; omega, ?_, ?_⟩
  · show (k * k - (x : Rat) - x) * ((2 * y : Int) : Rat) * ((2 * y : Int) : Rat) = (((3 * x * x + a) * (3 * x * x + a) - 2 * x * (2 * y) * (2 * y) : Int) : Rat)
    simp only [Rat.intCast_mul, Rat.intCast_add, Rat.intCast_sub]
    have e2 : ((2 : Int) : Rat) = 2 := rfl
    have e3 : ((3 : Int) : Rat) = 3 := rfl
    rw [e2, e3]
    grind
  · show (k * ((x : Rat) - (k * k - x - x)) - y) * ((2 * y : Int) : Rat) * ((2 * y : Int) : Rat) * ((2 * y : Int) : Rat) = (((3 * x * x + a) * (x * (2 * y) * (2 * y) - ((3 * x * x + a) * (3 * x * x + a) - 2 * x * (2 * y) * (2 * y))) - y * (2 * y) * (2 * y) * (2 * y) : Int) : Rat)
    simp only [Rat.intCast_mul, Rat.intCast_add, Rat.intCast_sub]
    have e2 : ((2 : Int) : Rat) = 2 := rfl
    have e3 : ((3 : Int) : Rat) = 3 := rfl
    rw [e2, e3]
    grind
theorem zr_ne {x y : Int} {t : Int × Int × Int} {X Y : Rat} (h : Zr t X Y) (hz : (zst x y t).2.2 ≠ 0) : X ≠ (x : Rat) := by
  intro e
  apply hz
  show t.2.2 * (x * t.2.2 * t.2.2 - t.1) = 0
  have h1 := h.x
  rw [e, ← Rat.intCast_mul, ← Rat.intCast_mul] at h1
  have h2 := Rat.intCast_inj.1 h1
  rw [h2]
  grind
theorem zr_step {x y : Int} {t : Int × Int × Int} {X Y k : Rat} (h : Zr t X Y) (hz : (zst x y t).2.2 ≠ 0) (hk : ((y : Rat) - Y) / ((x : Rat) - X) = k) : Zr (zst x y t) (k * k - X - x) (k * (X - (k * k - X - x)) - Y) := by
  have hne := zr_ne h hz
  obtain ⟨u, v, z⟩ := t
  have hx : (x : Rat) - X ≠ 0 := fun e => hne (by grind)
  have hk2 : k * ((x : Rat) - X) = (y : Rat) - Y := by rw [← hk]; exact Rat.div_mul_cancel hx
  have h1 := h.x
  have h2 := h.y
  simp only at h1 h2
  refine ⟨hz, ?_, ?_⟩
  · show (k * k - X - x) * ((z * (x * z * z - u) : Int) : Rat) * ((z * (x * z * z - u) : Int) : Rat) = (((y * z * z * z - v) * (y * z * z * z - v) - (x * z * z - u) * (x * z * z - u) * (u + x * z * z) : Int) : Rat)
    simp only [Rat.intCast_mul, Rat.intCast_add, Rat.intCast_sub]
    rw [← h1, ← h2]
    grind
  · show (k * (X - (k * k - X - x)) - Y) * ((z * (x * z * z - u) : Int) : Rat) * ((z * (x * z * z - u) : Int) : Rat) * ((z * (x * z * z - u) : Int) : Rat) = (((y * z * z * z - v) * (u * (x * z * z - u) * (x * z * z - u) - ((y * z * z * z - v) * (y * z * z * z - v) - (x * z * z - u) * (x * z * z - u) * (u + x * z * z))) - v * (x * z * z - u) * (x * z * z - u) * (x * z * z - u) : Int) : Rat)
    simp only [Rat.intCast_mul, Rat.intCast_add, Rat.intCast_sub]
    rw [← h1, ← h2]
    grind
/-- How great the j-th is. -/
theorem Zr.bd {a x y : Int} {j M1 M2 : Nat} {X Y : Rat} {w : World} {bx bY : Nat} (ha : -1000 ≤ a ∧ a ≤ 1000) (hx : -1599 ≤ x ∧ x ≤ 1599) (hy : -64000 ≤ y ∧ y ≤ 64000) (hj : j ≤ 10) (h : Zr (zs a x y j) X Y) (h1 : Rv w bx X M1) (h2 : Rv w bY Y M2) : Rv w bx X 200000 ∧ Rv w bY Y 200000 := by
  have hb := zb_all ha hx hy j
  have hs := sz_bd hj
  obtain ⟨t, ht⟩ : ∃ t, zs a x y j = t := ⟨_, rfl⟩
  rw [ht] at hb h
  obtain ⟨u, v, z⟩ := t
  obtain ⟨b1, b2, b3⟩ := hb
  simp only at b1 b2 b3
  have hz : z ≠ 0 := h.z
  have c1 : ∀ {n : Int} {s : Nat}, n.natAbs < 2 ^ s → s ≤ 6400000 → n.natAbs < pw 200000 := by
    intro n s hn hs
    exact @bits_pw n s 200000 hn (by omega)
  refine ⟨h1.frac (Z := z * z) (U := u) (Int.mul_ne_zero hz hz) ?_ (c1 b1 (by omega)) (c1 (bt_mul b3 b3) (by omega)), h2.frac (Z := z * z * z) (U := v) (Int.mul_ne_zero (Int.mul_ne_zero hz hz) hz) ?_ (c1 b2 (by omega)) (c1 (bt_mul (bt_mul b3 b3) b3) (by omega))⟩
  · have := h.x
    simp only at this
    rw [Rat.intCast_mul, ← this]; grind
  · have := h.y
    simp only at this
    rw [Rat.intCast_mul, Rat.intCast_mul, ← this]; grind

end Go.Proofs.Ytknnidbdgfimbaa
end

section
/- The reference: FiniteOrder, by the row of the multiples. -/
set_option linter.unusedSimpArgs false
set_option linter.unusedVariables false
set_option maxRecDepth 100000
namespace Go.Proofs.Ytknnidbdgfimbaa
open Go.RowKit TN

/-- A place: far, or two ratios. -/
def PlOut (o : Option (Rat × Rat)) (m : Nat) (e : Ending) (W w' : World) : Prop :=
  match o with
  | none => e = .returned (.agg #[.pointer none, .pointer none, .bool true]) ∧ Below W.heap.size W w'
  | some q => ∃ bx bY : Nat, e = .returned (.agg #[.pointer (some ⟨bx, 0, none⟩), .pointer (some ⟨bY, 0, none⟩), .bool false]) ∧ Rv w' bx q.1 m ∧ Rv w' bY q.2 m ∧ Below W.heap.size W w'
/-- A place's cells. -/
def PlAt (o : Option (Rat × Rat)) (m : Nat) (v0 v1 : Value) (f : Bool) (W : World) : Prop :=
  match o with
  | none => f = true
  | some q => f = false ∧ ∃ bx bY : Nat, v0 = .pointer (some ⟨bx, 0, none⟩) ∧ v1 = .pointer (some ⟨bY, 0, none⟩) ∧ Rv W bx q.1 m ∧ Rv W bY q.2 m
/-- What FiniteOrder holds in memory. -/
structure Fm (h hp bx bY : Nat) (x y : Rat) (v0 v1 : Value) (f : Bool) (w W : World) : Prop where
  p : Cl hp [.pointer (some ⟨bx, 0, none⟩), .pointer (some ⟨bY, 0, none⟩), .bool false] 38 W
  r : Cl (hp + 1) [v0, v1, .bool f] 38 W
  vx : Rv W bx x 2
  vy : Rv W bY y 2
  ge : h ≤ hp
  k : Below h w W
theorem Fm.below {h hp bx bY : Nat} {x y : Rat} {v0 v1 : Value} {f : Bool} {w W W' : World} (q : Fm h hp bx bY x y v0 v1 f w W) (c : Below W.heap.size W W') : Fm h hp bx bY x y v0 v1 f w W' :=
  ⟨q.p.below c, q.r.below c, q.vx.below c, q.vy.below c, q.ge, q.k.trans (c.mono (by have := q.p.lt; have := q.ge; omega))⟩
theorem Fm.set {h hp bx bY : Nat} {x y : Rat} {v0 v1 : Value} {f : Bool} {w W : World} (q : Fm h hp bx bY x y v0 v1 f w W) (u0 u1 : Value) (g : Bool) :
    Fm h hp bx bY x y u0 u1 g w (((W.setCell ⟨hp + 1, 0, none⟩ u0).setCell ⟨hp + 1, 1, none⟩ u1).setCell ⟨hp + 1, 2, none⟩ (.bool g)) := by
  have U := upd3 W (hp + 1) u0 u1 (.bool g)
  exact ⟨(U.block _ q.p.lt (by omega)).trans q.p, ((q.r.set 0 _).set 1 _).set 2 _, q.vx.updP U q.r, q.vy.updP U q.r, q.ge, q.k.trans (U.below (by have := q.p.lt; have := q.ge; omega) (by have := q.ge; omega))⟩

set_option maxHeartbeats 4000000 in
theorem FiniteOrder_seq (a x y : Int) (sq : Nat → Option (Rat × Rat)) (ms : Nat → Nat) (N : Nat) (w : World) (x1 : -1000000000000 ≤ x) (x2 : x ≤ 1000000000000) (y1 : -1000000000000 ≤ y) (y2 : y ≤ 1000000000000)
    (h1 : sq 1 = some ((x : Rat), (y : Rat))) (hm1 : 2 ≤ ms 1) (hN1 : 2 ≤ N) (hN2 : N ≤ 13) (hN : N ≤ 12 → sq N = none) (hs : ∀ i, 1 ≤ i → i < N → ∃ q, sq i = some q)
    (hP : ∀ (i rx ry bx bY : Nat) (q : Rat × Rat) (W : World), 1 ≤ i → i < N → sq i = some q → Rv W rx q.1 (ms i) → Rv W ry q.2 (ms i) → Rv W bx (x : Rat) 2 → Rv W bY (y : Rat) 2 →
      Calls Try.prog 12 #[.int .i64 a, .agg #[.pointer (some ⟨rx, 0, none⟩), .pointer (some ⟨ry, 0, none⟩), .bool false], .agg #[.pointer (some ⟨bx, 0, none⟩), .pointer (some ⟨bY, 0, none⟩), .bool false]] W fun e w' => PlOut (sq (i + 1)) (ms (i + 1)) e W w') :
    Calls Try.prog 10 #[.int .i64 a, .agg #[.int .i64 x, .int .i64 y, .bool false]] w fun e w' => e = .returned (.int .i64 (if N ≤ 12 then (N : Int) else 0)) ∧ Below w.heap.size w w' := by
  have HPl : Hid (∀ (i rx ry bx bY : Nat) (q : Rat × Rat) (W : World), 1 ≤ i → i < N → sq i = some q → Rv W rx q.1 (ms i) → Rv W ry q.2 (ms i) → Rv W bx (x : Rat) 2 → Rv W bY (y : Rat) 2 →
      Calls Try.prog 12 #[.int .i64 a, .agg #[.pointer (some ⟨rx, 0, none⟩), .pointer (some ⟨ry, 0, none⟩), .bool false], .agg #[.pointer (some ⟨bx, 0, none⟩), .pointer (some ⟨bY, 0, none⟩), .bool false]] W fun e w' => PlOut (sq (i + 1)) (ms (i + 1)) e W w') := hP
  have HSq : Hid (∀ i, 1 ≤ i → i < N → ∃ q, sq i = some q) := hs
  have HN : Hid (N ≤ 12 → sq N = none) := hN
  have H1 : Hid (sq 1 = some ((x : Rat), (y : Rat)) ∧ 2 ≤ ms 1) := ⟨h1, hm1⟩
  clear hP hs hN h1 hm1
  go_enter Try.func10, Try.ntmps10
  go_wp2_with fail
  refine (PlaceOf_any x y false _ x1 x2 y1 y2).mono ?_
  rintro e w1 ⟨bx, bY, rfl, g1, g2, v1, v2, k1⟩
  have K1 : Below w.heap.size w w1 := (tala w _).trans (k1.mono (by simp))
  have HF0 : Hid (Fm w.heap.size w1.heap.size bx bY x y (.pointer (some ⟨bx, 0, none⟩)) (.pointer (some ⟨bY, 0, none⟩)) false w ((w1.alloc (.cells #[.pointer (some ⟨bx, 0, none⟩), .pointer (some ⟨bY, 0, none⟩), .bool false] 38)).alloc (.cells #[.pointer (some ⟨bx, 0, none⟩), .pointer (some ⟨bY, 0, none⟩), .bool false] 38))) := by
    have KA : Below w1.heap.size w1 ((w1.alloc (.cells #[.pointer (some ⟨bx, 0, none⟩), .pointer (some ⟨bY, 0, none⟩), .bool false] 38)).alloc (.cells #[.pointer (some ⟨bx, 0, none⟩), .pointer (some ⟨bY, 0, none⟩), .bool false] 38)) := (tala w1 _).trans ((tala _ _).mono (by simp))
    exact ⟨(Cl.new [.pointer (some ⟨bx, 0, none⟩), .pointer (some ⟨bY, 0, none⟩), .bool false] _ w1).alloc _, tcnew _ [.pointer (some ⟨bx, 0, none⟩), .pointer (some ⟨bY, 0, none⟩), .bool false] _ _ (by simp), v1.below KA, v2.below KA, K1.size, K1.trans (KA.mono K1.size)⟩
  clear g1 g2 v1 v2 k1 K1
  go_wp2
  go_loopw [7] (fun nv wx => ∃ (i : Nat) (u0 u1 : Value) (f : Bool), 1 ≤ i ∧ i ≤ N ∧ nv = .int .i64 i ∧ Hid (Fm w.heap.size w1.heap.size bx bY x y u0 u1 f w wx ∧ PlAt (sq i) (ms i) u0 u1 f wx)) (fun nv _ => 14 - (intOf nv).toNat)
  case atStart => exact ⟨1, _, _, false, by omega, by omega, rfl, HF0.out, by rw [H1.out.1]; exact ⟨rfl, bx, bY, rfl, rfl, HF0.out.vx.le H1.out.2, HF0.out.vy.le H1.out.2⟩⟩
  case round =>
    obtain ⟨i, u0, u1, f, i1, i2, rfl, HF⟩ := hrel
    clear HF0
    by_cases hi : i ≤ 12
    · have r0 : wr.cell? ⟨w1.heap.size + 1, 0, none⟩ = some u0 := HF.out.1.r.cell 0
      have r1 : wr.cell? ⟨w1.heap.size + 1, 1, none⟩ = some u1 := HF.out.1.r.cell 1
      have r2 : wr.cell? ⟨w1.heap.size + 1, 2, none⟩ = some (.bool f) := HF.out.1.r.cell 2
      rcases Nat.lt_or_ge i N with hlt | hge
      · obtain ⟨q, hq⟩ := HSq.out i i1 hlt
        have hpl := HF.out.2
        rw [hq] at hpl
        obtain ⟨rfl, rx, ry, rfl, rfl, vx, vy⟩ := hpl
        have HC : Hid (∀ W, Rv W rx q.1 (ms i) → Rv W ry q.2 (ms i) → Rv W bx (x : Rat) 2 → Rv W bY (y : Rat) 2 → Calls Try.prog 12 #[.int .i64 a, .agg #[.pointer (some ⟨rx, 0, none⟩), .pointer (some ⟨ry, 0, none⟩), .bool false], .agg #[.pointer (some ⟨bx, 0, none⟩), .pointer (some ⟨bY, 0, none⟩), .bool false]] W fun e w' => PlOut (sq (i + 1)) (ms (i + 1)) e W w') := fun W a1 a2 a3 a4 => HPl.out i rx ry bx bY q W i1 hlt hq a1 a2 a3 a4
        have HV : Hid (Rv wr rx q.1 (ms i) ∧ Rv wr ry q.2 (ms i)) := ⟨vx, vy⟩
        have HFm : Hid (Fm w.heap.size w1.heap.size bx bY x y (.pointer (some ⟨rx, 0, none⟩)) (.pointer (some ⟨ry, 0, none⟩)) false w wr) := HF.out.1
        have p0 : wr.cell? ⟨w1.heap.size, 0, none⟩ = some (.pointer (some ⟨bx, 0, none⟩)) := HF.out.1.p.cell 0
        have p1 : wr.cell? ⟨w1.heap.size, 1, none⟩ = some (.pointer (some ⟨bY, 0, none⟩)) := HF.out.1.p.cell 1
        have p2 : wr.cell? ⟨w1.heap.size, 2, none⟩ = some (.bool false) := HF.out.1.p.cell 2
        clear vx vy hq HF
        go_wp2_with fail
        refine (HC.out wr HV.out.1 HV.out.2 HFm.out.vx HFm.out.vy).mono ?_
        intro e w2 hout
        cases hn : sq (i + 1) with
        | none =>
          rw [hn] at hout
          obtain ⟨rfl, k2⟩ := hout
          have F2 := HFm.out.below k2
          have HF2 : Hid (Fm w.heap.size w1.heap.size bx bY x y (.pointer (some ⟨rx, 0, none⟩)) (.pointer (some ⟨ry, 0, none⟩)) false w w2) := F2
          have c0 : w2.cell? ⟨w1.heap.size + 1, 0, none⟩ = some (.pointer (some ⟨rx, 0, none⟩)) := F2.r.cell 0
          have c1 : w2.cell? ⟨w1.heap.size + 1, 1, none⟩ = some (.pointer (some ⟨ry, 0, none⟩)) := F2.r.cell 1
          have c2 : w2.cell? ⟨w1.heap.size + 1, 2, none⟩ = some (.bool false) := F2.r.cell 2
          have f0 := F2.r.frozen 0
          have f1 := F2.r.frozen 1
          have f2 := F2.r.frozen 2
          have HNx : Hid (sq (i + 1) = none) := hn
          clear F2 k2 p0 p1 p2 r0 r1 r2 HC HV HFm hn
          go_wp2
          go_roundw
          case rel => exact ⟨i + 1, _, _, true, by omega, by omega, by go_num, HF2.out.set _ _ true, by rw [HNx.out]; rfl⟩
          case measure => simp [intOf]; omega
        | some q' =>
          rw [hn] at hout
          obtain ⟨bx', bY', rfl, vx', vy', k2⟩ := hout
          have F2 := HFm.out.below k2
          have HF2 : Hid (Fm w.heap.size w1.heap.size bx bY x y (.pointer (some ⟨rx, 0, none⟩)) (.pointer (some ⟨ry, 0, none⟩)) false w w2) := F2
          have c0 : w2.cell? ⟨w1.heap.size + 1, 0, none⟩ = some (.pointer (some ⟨rx, 0, none⟩)) := F2.r.cell 0
          have c1 : w2.cell? ⟨w1.heap.size + 1, 1, none⟩ = some (.pointer (some ⟨ry, 0, none⟩)) := F2.r.cell 1
          have c2 : w2.cell? ⟨w1.heap.size + 1, 2, none⟩ = some (.bool false) := F2.r.cell 2
          have f0 := F2.r.frozen 0
          have f1 := F2.r.frozen 1
          have f2 := F2.r.frozen 2
          have HNx : Hid (sq (i + 1) = some q' ∧ Rv w2 bx' q'.1 (ms (i + 1)) ∧ Rv w2 bY' q'.2 (ms (i + 1))) := ⟨hn, vx', vy'⟩
          clear F2 k2 p0 p1 p2 r0 r1 r2 HC HV HFm hn vx' vy'
          go_wp2
          go_roundw
          case rel =>
            refine ⟨i + 1, _, _, false, by omega, by omega, by go_num, HF2.out.set _ _ false, ?_⟩
            rw [HNx.out.1]
            have U := upd3 w2 (w1.heap.size + 1) (.pointer (some ⟨bx', 0, none⟩)) (.pointer (some ⟨bY', 0, none⟩)) (.bool false)
            exact ⟨rfl, bx', bY', rfl, rfl, HNx.out.2.1.updP U HF2.out.r, HNx.out.2.2.updP U HF2.out.r⟩
          case measure => simp [intOf]; omega
      · obtain rfl : i = N := by omega
        have hpl := HF.out.2
        rw [HN.out hi] at hpl
        obtain rfl : f = true := hpl
        have HK : Hid (Below w.heap.size w wr) := HF.out.1.k
        have HI : Hid ((if i ≤ 12 then (i : Int) else 0) = (i : Int)) := if_pos hi
        clear HF
        go_wp2
        go_ret
        exact ⟨rfl, HK.out⟩
    · obtain rfl : i = 13 := by omega
      obtain rfl : N = 13 := by omega
      have HK : Hid (Below w.heap.size w wr) := HF.out.1.k
      clear HF
      go_wp2
      go_ret
      exact ⟨rfl, HK.out⟩

end Go.Proofs.Ytknnidbdgfimbaa
end

section
/- The reference: FiniteOrder of every likely point. -/
set_option linter.unusedSimpArgs false
set_option linter.unusedVariables false
set_option maxRecDepth 100000
namespace Go.Proofs.Ytknnidbdgfimbaa
open Go.RowKit TN

/-! ### Points without an order -/
def zX (a x y : Int) (j : Nat) : Rat := ((zs a x y j).1 : Rat) / (((zs a x y j).2.2 : Rat) * ((zs a x y j).2.2 : Rat))
def zY (a x y : Int) (j : Nat) : Rat := ((zs a x y j).2.1 : Rat) / (((zs a x y j).2.2 : Rat) * ((zs a x y j).2.2 : Rat) * ((zs a x y j).2.2 : Rat))
theorem zr_eq {a x y : Int} {j : Nat} {X Y : Rat} (h : Zr (zs a x y j) X Y) : X = zX a x y j ∧ Y = zY a x y j := by
  have hz := rne h.z
  have h1 := h.x
  have h2 := h.y
  unfold zX zY
  rw [← h1, ← h2]
  constructor <;> grind
theorem zr_of {a x y : Int} {j : Nat} (hz : (zs a x y j).2.2 ≠ 0) : Zr (zs a x y j) (zX a x y j) (zY a x y j) := by
  have hz' := rne hz
  refine ⟨hz, ?_, ?_⟩
  · unfold zX; grind
  · unfold zY; grind
def sqI (a x y : Int) (i : Nat) : Option (Rat × Rat) := if i ≤ 1 then some ((x : Rat), (y : Rat)) else some (zX a x y (i - 2), zY a x y (i - 2))
def msI (i : Nat) : Nat := if i ≤ 1 then 2 else if i ≤ 12 then 200000 else 64 * (4 * 200000 + 2) + 29
theorem fo_inf (a x y : Int) (w : World) (ha : -1000 ≤ a ∧ a ≤ 1000) (hx : -1599 ≤ x ∧ x ≤ 1599) (hy : -64000 ≤ y ∧ y ≤ 64000) (hy0 : y ≠ 0) (hz : ∀ n, n ≤ 11 → (zs a x y n).2.2 ≠ 0) :
    Calls Try.prog 10 #[.int .i64 a, .agg #[.int .i64 x, .int .i64 y, .bool false]] w fun e w' => e = .returned (.int .i64 0) ∧ Below w.heap.size w w' := by
  have := FiniteOrder_seq a x y (sqI a x y) msI 13 w (by omega) (by omega) (by omega) (by omega) rfl (by decide) (by decide) (by decide) (by omega) (by
    intro i h1 h2
    unfold sqI
    split
    · exact ⟨_, rfl⟩
    · exact ⟨_, rfl⟩) (by
    intro i rx ry bx bY q W h1 h2 hq v1 v2 v3 v4
    have e1 : sqI a x y (i + 1) = some (zX a x y (i - 1), zY a x y (i - 1)) := by unfold sqI; rw [if_neg (by omega)]; rfl
    rw [e1]
    by_cases hi : i ≤ 1
    · obtain rfl : i = 1 := by omega
      unfold sqI at hq
      rw [if_pos hi] at hq
      injection hq with hq
      subst hq
      have hy' := rne hy0
      refine (Plus_tan a rx ry bx bY (x : Rat) (y : Rat) (x : Rat) (y : Rat) _ 2 W v1 v2 v3 v4 (by omega) ha.1 ha.2 rfl (by grind) hy' rfl).mono ?_
      rintro e w' ⟨bx', bY', rfl, r1, r2, k, _, _⟩
      have hr := zr_zero (a := a) (x := x) (y := y) hy0 rfl
      obtain ⟨e2, e3⟩ := zr_eq (j := 0) hr
      have hb := Zr.bd (j := 0) ha hx hy (by omega) hr r1 r2
      rw [e3, e2] at hb
      exact ⟨bx', bY', rfl, hb.1, hb.2, k⟩
    · unfold sqI at hq
      rw [if_neg hi] at hq
      injection hq with hq
      subst hq
      have hm : msI i = 200000 := by unfold msI; rw [if_neg hi, if_pos (by omega)]
      rw [hm] at v1 v2
      have z1 := hz (i - 2) (by omega)
      have z2 := hz (i - 1) (by omega)
      obtain ⟨j, rfl⟩ : ∃ j, i = j + 2 := ⟨i - 2, by omega⟩
      simp only [Nat.add_sub_cancel, show j + 2 - 1 = j + 1 by omega] at z1 z2 v1 v2 ⊢
      have hr := zr_of z1
      have hne := zr_ne hr z2
      refine (Plus_chord a rx ry bx bY _ _ (x : Rat) (y : Rat) _ 200000 W v1 v2 (v3.le (by omega)) (v4.le (by omega)) (by omega) hne rfl).mono ?_
      rintro e w' ⟨bx', bY', rfl, r1, r2, k, _, _⟩
      have hr2 := zr_step hr z2 rfl
      obtain ⟨e2, e3⟩ := zr_eq (j := j + 1) hr2
      by_cases hj : j + 1 ≤ 10
      · have hb := Zr.bd (j := j + 1) ha hx hy hj hr2 r1 r2
        rw [e3, e2] at hb
        refine ⟨bx', bY', rfl, ?_, ?_, k⟩
        · rw [show msI (j + 2 + 1) = 200000 by unfold msI; rw [if_neg (by omega), if_pos (by omega)]]; exact hb.1
        · rw [show msI (j + 2 + 1) = 200000 by unfold msI; rw [if_neg (by omega), if_pos (by omega)]]; exact hb.2
      · rw [e3] at r2
        rw [e2] at r1
        refine ⟨bx', bY', rfl, ?_, ?_, k⟩
        · rw [show msI (j + 2 + 1) = 64 * (4 * 200000 + 2) + 29 by unfold msI; rw [if_neg (by omega), if_neg (by omega)]]; exact r1
        · rw [show msI (j + 2 + 1) = 64 * (4 * 200000 + 2) + 29 by unfold msI; rw [if_neg (by omega), if_neg (by omega)]]; exact r2)
  simpa using this

/-! ### Points with an order -/
def cs (a b x y : Int) : Nat → Option (Int × Int)
  | 0 => none
  | 1 => some (x, y)
  | n + 2 => match cs a b x y (n + 1) with
    | none => none
    | some q => (pAdd a b x y q.1 q.2).getD none
theorem cs_next {a b x y : Int} {i : Nat} {q : Int × Int} (hi : 1 ≤ i) (h : cs a b x y i = some q) : cs a b x y (i + 1) = (pAdd a b x y q.1 q.2).getD none := by
  obtain ⟨n, rfl⟩ : ∃ n, i = n + 1 := ⟨i - 1, by omega⟩
  rw [cs, h]
theorem cs_run {a b x y : Int} {N : Nat} (hp : Lk a b x y) : ∀ (F i : Nat) (X Y : Int), 1 ≤ i → pOrd a b x y F i X Y = some (some N) → cs a b x y i = some (X, Y) → Lk a b X Y →
    (∀ k, i ≤ k → k < N → ∃ q, cs a b x y k = some q ∧ Lk a b q.1 q.2 ∧ pAdd a b x y q.1 q.2 ≠ none) ∧ cs a b x y N = none := by
  intro F
  induction F with
  | zero => intro i X Y _ h; simp [pOrd] at h
  | succ F ih =>
    intro i X Y hi h hc hl
    unfold pOrd at h
    cases e : pAdd a b x y X Y with
    | none => rw [e] at h; simp at h
    | some o =>
      rw [e] at h
      cases o with
      | none =>
        simp at h
        subst h
        refine ⟨fun k h1 h2 => ?_, ?_⟩
        · obtain rfl : k = i := by omega
          exact ⟨(X, Y), hc, hl, by rw [e]; simp⟩
        · rw [cs_next hi hc, e]; rfl
      | some q =>
        have hc2 : cs a b x y (i + 1) = some (q.1, q.2) := by rw [cs_next hi hc, e]; rfl
        have hl2 := pAdd_lk hp hl e
        have := ih (i + 1) q.1 q.2 (by omega) h hc2 hl2
        refine ⟨fun k h1 h2 => ?_, this.2⟩
        by_cases hk : k = i
        · subst hk; exact ⟨(X, Y), hc, hl, by rw [e]; simp⟩
        · exact this.1 k (by omega) h2
def cst (o : Option (Int × Int)) : Option (Rat × Rat) := o.map fun q => ((q.1 : Rat), (q.2 : Rat))
theorem rdiv_int {n d k : Int} (hd : d ≠ 0) (h : k * d = n) : ((n : Rat)) / (d : Rat) = (k : Rat) := by
  have := rne hd
  rw [← h, Rat.intCast_mul]
  grind
theorem pts_int {k X x Y : Int} : ((k : Rat) * k - X - x) = ((k * k - X - x : Int) : Rat) ∧ ((k : Rat) * ((X : Rat) - ((k : Rat) * k - X - x)) - Y) = ((k * (X - (k * k - X - x)) - Y : Int) : Rat) := by
  simp only [Rat.intCast_mul, Rat.intCast_sub]
  exact ⟨trivial, trivial⟩
theorem fo_fin (a b x y : Int) (N : Nat) (w : World) (hc : Cu a b) (hl : Lk a b x y) (hN : pOrd a b x y 11 1 x y = some (some N)) :
    Calls Try.prog 10 #[.int .i64 a, .agg #[.int .i64 x, .int .i64 y, .bool false]] w fun e w' => e = .returned (.int .i64 N) ∧ Below w.heap.size w w' := by
  have hb := pOrd_ge 11 1 x y N hN
  have hr := cs_run hl 11 1 x y (by omega) hN rfl hl
  have hx := hl.range hc
  have hy := hl.yb hc
  have := FiniteOrder_seq a x y (fun i => cst (cs a b x y i)) (fun _ => 2) N w (by omega) (by omega) (by omega) (by omega) rfl (by decide) (by omega) (by omega) (fun _ => by show cst _ = none; rw [hr.2]; rfl) (by
    intro i h1 h2
    obtain ⟨q, e, _⟩ := hr.1 i h1 h2
    show ∃ q, cst (cs a b x y i) = some q
    rw [e]
    exact ⟨_, rfl⟩) (by
    intro i rx ry bx bY q W h1 h2 hq v1 v2 v3 v4
    obtain ⟨⟨X, Y⟩, e, hlq, hne⟩ := hr.1 i h1 h2
    have hq' : cst (cs a b x y i) = some q := hq
    rw [e] at hq'
    injection hq' with hq'
    subst hq'
    simp only at v1 v2 hlq hne
    have e1 : cs a b x y (i + 1) = (pAdd a b x y X Y).getD none := cs_next h1 e
    show Calls _ _ _ _ fun e w' => PlOut (cst (cs a b x y (i + 1))) 2 e W w'
    rw [e1]
    have hX := hlq.range hc
    have hY := hlq.yb hc
    cases ep : pAdd a b x y X Y with
    | none => exact absurd ep hne
    | some o =>
      cases o with
      | none =>
        have hc1 : X = x ∧ Y = -y := by
          unfold pAdd at ep
          by_cases c : X = x ∧ Y = -y
          · exact c
          · rw [if_neg c] at ep
            split at ep
            · split at ep
              · simp at ep
              · dsimp only at ep
                split at ep <;> simp at ep
            · split at ep
              · simp at ep
              · dsimp only at ep
                split at ep <;> simp at ep
        refine (Plus_far a rx ry bx bY (X : Rat) (Y : Rat) (x : Rat) (y : Rat) 2 W v1 v2 v3 v4 (by omega) (by rw [hc1.1]) (by rw [hc1.2, Rat.intCast_neg]; grind)).mono ?_
        rintro e w' h
        exact h
      | some q2 =>
        have hl2 := pAdd_lk hl hlq ep
        have hX2 := hl2.range hc
        have hY2 := hl2.yb hc
        unfold pAdd at ep
        by_cases c : X = x ∧ Y = -y
        · rw [if_pos c] at ep; simp at ep
        rw [if_neg c] at ep
        by_cases c2 : X = x ∧ Y = y
        · rw [if_pos c2] at ep
          by_cases c3 : (3 * X * X + a).tmod (2 * Y) ≠ 0
          · rw [if_pos c3] at ep; simp at ep
          rw [if_neg c3] at ep
          dsimp only at ep
          split at ep
          · injection ep with ep; injection ep with ep
            have hY0 : Y ≠ 0 := fun e => c ⟨c2.1, by omega⟩
            have hk := tm (show (3 * X * X + a).tmod (2 * Y) = 0 by simpa using c3)
            obtain ⟨k, hkk⟩ : ∃ k, (3 * X * X + a).tdiv (2 * Y) = k := ⟨_, rfl⟩
            rw [hkk] at ep hk
            have hkr : ((X : Rat) * X * 3 + (a : Rat)) / (2 * (Y : Rat)) = (k : Rat) := by
              have h2 := rdiv_int (show 2 * Y ≠ 0 by omega) hk
              rw [← h2]
              simp only [Rat.intCast_mul, Rat.intCast_add]
              have e2 : ((2 : Int) : Rat) = 2 := rfl
              have e3 : ((3 : Int) : Rat) = 3 := rfl
              rw [e2, e3]
              congr 1
              grind
            refine (Plus_tan a rx ry bx bY (X : Rat) (Y : Rat) (x : Rat) (y : Rat) (k : Rat) 2 W v1 v2 v3 v4 (by omega) hc.a1 hc.a2 (by rw [c2.1]) (by rw [← c2.2]; have := rne hY0; grind) (rne hY0) hkr).mono ?_
            rintro e w' ⟨bx', bY', rfl, r1, r2, kb, _, _⟩
            rw [(pts_int (k := k) (X := X) (x := x) (Y := Y)).2] at r2
            rw [(pts_int (k := k) (X := X) (x := x) (Y := Y)).1] at r1
            rw [← ep] at hX2 hY2 ⊢
            exact ⟨bx', bY', rfl, r1.int (by omega) (by omega), r2.int (by omega) (by omega), kb⟩
          · simp at ep
        · rw [if_neg c2] at ep
          have hxx : X ≠ x := by
            intro e; subst e
            rcases eq_or_neg (hlq.on.trans hl.on.symm) with g | g
            · exact c2 ⟨rfl, g⟩
            · exact c ⟨rfl, g⟩
          by_cases c3 : (y - Y).tmod (x - X) ≠ 0
          · rw [if_pos c3] at ep; simp at ep
          rw [if_neg c3] at ep
          dsimp only at ep
          split at ep
          · injection ep with ep; injection ep with ep
            have hk := tm (show (y - Y).tmod (x - X) = 0 by simpa using c3)
            obtain ⟨k, hkk⟩ : ∃ k, (y - Y).tdiv (x - X) = k := ⟨_, rfl⟩
            rw [hkk] at ep hk
            have hkr : ((y : Rat) - Y) / ((x : Rat) - X) = (k : Rat) := by
              have h2 := rdiv_int (show x - X ≠ 0 by omega) hk
              rw [← h2, Rat.intCast_sub, Rat.intCast_sub]
            refine (Plus_chord a rx ry bx bY (X : Rat) (Y : Rat) (x : Rat) (y : Rat) (k : Rat) 2 W v1 v2 v3 v4 (by omega) (fun e => hxx (Rat.intCast_inj.1 e)) hkr).mono ?_
            rintro e w' ⟨bx', bY', rfl, r1, r2, kb, _, _⟩
            rw [(pts_int (k := k) (X := X) (x := x) (Y := Y)).2] at r2
            rw [(pts_int (k := k) (X := X) (x := x) (Y := Y)).1] at r1
            rw [← ep] at hX2 hY2 ⊢
            exact ⟨bx', bY', rfl, r1.int (by omega) (by omega), r2.int (by omega) (by omega), kb⟩
          · simp at ep)
  rw [if_pos (by omega)] at this
  exact this

/-- What FiniteOrder answers. -/
def fov : Option Nat → Int
  | none => 0
  | some n => n
theorem FiniteOrder_any (a b x y : Int) (w : World) (hc : Cu a b) (hl : Lk a b x y) :
    Calls Try.prog 10 #[.int .i64 a, .agg #[.int .i64 x, .int .i64 y, .bool false]] w fun e w' => e = .returned (.int .i64 (fov (ordR a b x y))) ∧ Below w.heap.size w w' := by
  have hi := ord_is hc hl
  cases ho : ordR a b x y with
  | some n => rw [ho] at hi; exact fo_fin a b x y n w hc hl hi
  | none =>
    rw [ho] at hi
    have hx := hl.range hc
    have hy := hl.yb hc
    rcases Int.lt_trichotomy y 0 with h | h | h
    · rcases ord_neg hc h hl with ⟨m, e, _⟩ | ⟨e, hz⟩
      · rw [hi] at e; simp at e
      · exact fo_inf a x y w ⟨hc.a1, hc.a2⟩ (by omega) hy (by omega) hz
    · subst h; rw [ord_zero] at hi; simp at hi
    · rcases ord_pos hc h hl with ⟨m, e, _⟩ | ⟨e, hz⟩
      · rw [hi] at e; simp at e
      · exact fo_inf a x y w ⟨hc.a1, hc.a2⟩ (by omega) hy (by omega) hz

end Go.Proofs.Ytknnidbdgfimbaa
end
