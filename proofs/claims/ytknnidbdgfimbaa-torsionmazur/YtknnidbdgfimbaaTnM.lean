/- Points of finite order of the curves y^2 = x^3 + a x + b with a and b up to 1000: what Nagell and Lutz leave, the program's sums and the reference's, and how the kernel goes through all of them. -/
import Derived.Test.YtknnidbdgfimbaaRows
set_option linter.unusedVariables false
set_option maxRecDepth 100000
namespace Go.Proofs.Ytknnidbdgfimbaa
namespace TN

def dis (a b : Int) : Int := 4 * a * a * a + 27 * b * b
def cub (a b x : Int) : Int := x * x * x + a * x + b
/-- What Nagell and Lutz leave. -/
structure Lk (a b x y : Int) : Prop where
  on : y * y = cub a b x
  dv : y = 0 ∨ dis a b % (y * y) = 0
/-- The curves that are asked for. -/
structure Cu (a b : Int) : Prop where
  a1 : -1000 ≤ a
  a2 : a ≤ 1000
  b1 : -1000 ≤ b
  b2 : b ≤ 1000
  d0 : dis a b ≠ 0

theorem cube_bd {a : Int} (h1 : -1000 ≤ a) (h2 : a ≤ 1000) : -1000000000 ≤ a * a * a ∧ a * a * a ≤ 1000000000 := by
  have hs : 0 ≤ a * a := by
    rcases Int.le_total 0 a with h | h
    · exact Int.mul_nonneg h h
    · exact Int.mul_nonneg_of_nonpos_of_nonpos h h
  have hs2 : a * a ≤ 1000000 := by
    have := Int.mul_nonneg (show 0 ≤ 1000 - a by omega) (show 0 ≤ 1000 + a by omega)
    grind
  constructor
  · have := Int.mul_nonneg hs (show 0 ≤ a + 1000 by omega)
    have e : a * a * (a + 1000) = a * a * a + 1000 * (a * a) := by grind
    omega
  · have := Int.mul_nonneg hs (show 0 ≤ 1000 - a by omega)
    have e : a * a * (1000 - a) = 1000 * (a * a) - a * a * a := by grind
    omega
theorem sq_bd {b : Int} (h1 : -1000 ≤ b) (h2 : b ≤ 1000) : 0 ≤ b * b ∧ b * b ≤ 1000000 := by
  constructor
  · rcases Int.le_total 0 b with h | h
    · exact Int.mul_nonneg h h
    · exact Int.mul_nonneg_of_nonpos_of_nonpos h h
  · have := Int.mul_nonneg (show 0 ≤ 1000 - b by omega) (show 0 ≤ 1000 + b by omega)
    have e : (1000 - b) * (1000 + b) = 1000000 - b * b := by grind
    omega
theorem Cu.bd {a b : Int} (h : Cu a b) : -4000000000 ≤ dis a b ∧ dis a b ≤ 4027000000 := by
  have h1 := cube_bd h.a1 h.a2
  have h2 := sq_bd h.b1 h.b2
  have e : dis a b = 4 * (a * a * a) + 27 * (b * b) := by unfold dis; grind
  omega
theorem sq_nn (y : Int) : 0 ≤ y * y := by
  rcases Int.le_total 0 y with h | h
  · exact Int.mul_nonneg h h
  · exact Int.mul_nonneg_of_nonpos_of_nonpos h h
theorem cub_low {a b x : Int} (h : Cu a b) (hx : x ≤ -33) : cub a b x < 0 := by
  have h1 : 1089 ≤ x * x := by
    have := Int.mul_nonneg (show 0 ≤ -33 - x by omega) (show 0 ≤ 33 - x by omega)
    have e : (-33 - x) * (33 - x) = x * x - 1089 := by grind
    omega
  have := Int.mul_nonneg (show 0 ≤ -33 - x by omega) (show 0 ≤ x * x + a - 89 by have := h.a1; omega)
  have e : (-33 - x) * (x * x + a - 89) = 2937 + 89 * x - 33 * (x * x) - 33 * a - (x * x * x + a * x) := by grind
  have := h.b2; have := h.a1
  unfold cub
  omega
theorem cub_high {a b x : Int} (h : Cu a b) (hx : 1600 ≤ x) : 4027000000 < cub a b x := by
  have h1 : 2560000 ≤ x * x := by
    have := Int.mul_nonneg (show 0 ≤ x - 1600 by omega) (show 0 ≤ x + 1600 by omega)
    have e : (x - 1600) * (x + 1600) = x * x - 2560000 := by grind
    omega
  have := Int.mul_nonneg (show 0 ≤ x - 1600 by omega) (show 0 ≤ x * x + a - 2559000 by have := h.a1; omega)
  have e : (x - 1600) * (x * x + a - 2559000) = x * x * x + a * x - 2559000 * x - 1600 * (x * x) - 1600 * a + 1600 * 2559000 := by grind
  have := h.b1; have := h.a1
  unfold cub
  omega
theorem cub_root {a b x : Int} (h : Cu a b) (hx : 33 ≤ x) : 0 < cub a b x := by
  have h1 : 1089 ≤ x * x := by
    have := Int.mul_nonneg (show 0 ≤ x - 33 by omega) (show 0 ≤ x + 33 by omega)
    have e : (x - 33) * (x + 33) = x * x - 1089 := by grind
    omega
  have := Int.mul_nonneg (show 0 ≤ x - 33 by omega) (show 0 ≤ x * x + a - 89 by have := h.a1; omega)
  have e : (x - 33) * (x * x + a - 89) = x * x * x + a * x - 89 * x - 33 * (x * x) - 33 * a + 2937 := by grind
  have := h.b1; have := h.a1
  unfold cub
  omega
/-- A divisor of dis is not above it. -/
theorem dv_le {a b v : Int} (h : Cu a b) (hv : 0 < v) (hd : dis a b % v = 0) : v ≤ 4027000000 := by
  have hb := h.bd
  have hd' : v ∣ dis a b := Int.dvd_of_emod_eq_zero hd
  rcases Int.lt_or_le (dis a b) 0 with h1 | h1
  · have := Int.le_of_dvd (by omega) (Int.dvd_neg.2 hd'); omega
  · have := Int.le_of_dvd (by have := h.d0; omega) hd'; omega
theorem Lk.range {a b x y : Int} (h : Cu a b) (hl : Lk a b x y) : -32 ≤ x ∧ x ≤ 1599 := by
  have h1 := hl.on
  have h2 := sq_nn y
  constructor
  · rcases Int.lt_or_le x (-32) with g | g
    · have := cub_low h (show x ≤ -33 by omega); omega
    · exact g
  · rcases Int.lt_or_le 1599 x with g | g
    · have := cub_high h (show 1600 ≤ x by omega)
      rcases hl.dv with e | e
      · subst e; omega
      · have := dv_le h (show 0 < y * y by omega) e; omega
    · exact g
theorem Lk.yb {a b x y : Int} (h : Cu a b) (hl : Lk a b x y) : -64000 ≤ y ∧ y ≤ 64000 := by
  have h1 : y * y ≤ 4027000000 := by
    rcases hl.dv with e | e
    · subst e; omega
    · rcases Int.lt_or_le 0 (y * y) with g | g
      · exact dv_le h g e
      · omega
  constructor
  · rcases Int.lt_or_le y (-64000) with g | g
    · have := Int.mul_nonneg (show 0 ≤ -64000 - y by omega) (show 0 ≤ 64000 - y by omega)
      have e : (-64000 - y) * (64000 - y) = y * y - 4096000000 := by grind
      omega
    · exact g
  · rcases Int.lt_or_le 64000 y with g | g
    · have := Int.mul_nonneg (show 0 ≤ y - 64000 by omega) (show 0 ≤ y + 64000 by omega)
      have e : (y - 64000) * (y + 64000) = y * y - 4096000000 := by grind
      omega
    · exact g

/-! ### The program's sums -/
theorem on_tangent {x y k a b : Int} (h2 : y * y = cub a b x) (hk : k * (2 * y) = 3 * x * x + a) :
    (k * (x - (k * k - x - x)) - y) * (k * (x - (k * k - x - x)) - y) = cub a b (k * k - x - x) := by
  unfold cub at *
  grind
theorem on_chord {X Y x y k a b : Int} (h1 : Y * Y = cub a b X) (h2 : y * y = cub a b x) (hx : X ≠ x) (hk : k * (x - X) = y - Y) :
    (k * (X - (k * k - X - x)) - Y) * (k * (X - (k * k - X - x)) - Y) = cub a b (k * k - X - x) := by
  unfold cub at *
  obtain ⟨al, hal⟩ : ∃ al, al = a - 2 * k * (Y - k * X) - (X * x + (X + x) * (k * k - X - x)) := ⟨_, rfl⟩
  obtain ⟨be, hbe⟩ : ∃ be, be = b - (Y - k * X) * (Y - k * X) + X * x * (k * k - X - x) := ⟨_, rfl⟩
  have e1 : al * X + be = 0 := by subst hal hbe; grind
  have e2 : al * x + be = 0 := by
    have hy : y = Y + k * (x - X) := by omega
    subst hy hal hbe; grind
  have e3 : al * (x - X) = 0 := by grind
  have e4 : al = 0 := by
    rcases Int.mul_eq_zero.1 e3 with h | h
    · exact h
    · omega
  have e5 : be = 0 := by rw [e4] at e1; omega
  rw [e4] at hal; rw [e5] at hbe
  grind

/-- What the program's add answers of two likely points: nothing, the far one, a point. -/
def pAdd (a b x y X Y : Int) : Option (Option (Int × Int)) :=
  if X = x ∧ Y = -y then some none else
  if X = x ∧ Y = y then
    if (3 * X * X + a).tmod (2 * Y) ≠ 0 then none else
    (fun k : Int => (fun v : Int => (fun u : Int => if u = 0 ∨ dis a b % (u * u) = 0 then some (some (v, u)) else none) (k * (X - v) - Y)) (k * k - X - x)) ((3 * X * X + a).tdiv (2 * Y))
  else
    if (y - Y).tmod (x - X) ≠ 0 then none else
    (fun k : Int => (fun v : Int => (fun u : Int => if u = 0 ∨ dis a b % (u * u) = 0 then some (some (v, u)) else none) (k * (X - v) - Y)) (k * k - X - x)) ((y - Y).tdiv (x - X))
/-- The program's order: how long it goes is counted. -/
def pOrd (a b x y : Int) : Nat → Nat → Int → Int → Option (Option Nat)
  | 0, _, _, _ => none
  | F + 1, n, X, Y => match pAdd a b x y X Y with
    | none => some none
    | some none => some (some (n + 1))
    | some (some q) => pOrd a b x y F (n + 1) q.1 q.2

theorem eq_or_neg {Y y : Int} (h : Y * Y = y * y) : Y = y ∨ Y = -y := by
  have : (Y - y) * (Y + y) = 0 := by grind
  rcases Int.mul_eq_zero.1 this with h | h
  · left; omega
  · right; omega
theorem tm {u d : Int} (h : u.tmod d = 0) : u.tdiv d * d = u := by
  have := Int.tmod_add_mul_tdiv u d
  rw [h, Int.zero_add, Int.mul_comm] at this
  exact this
/-- What comes of add is likely. -/
theorem pAdd_lk {a b x y X Y : Int} {q : Int × Int} (h1 : Lk a b x y) (h2 : Lk a b X Y) (h : pAdd a b x y X Y = some (some q)) : Lk a b q.1 q.2 := by
  unfold pAdd at h
  split at h
  · exact absurd h (by simp)
  rename_i hne
  split at h
  · rename_i he
    split at h
    · exact absurd h (by simp)
    rename_i hm
    simp only [ne_eq, Decidable.not_not] at hm
    dsimp only at h
    split at h
    · rename_i hd
      injection h with h; injection h with h
      subst h
      refine ⟨?_, hd⟩
      have := tm hm
      obtain ⟨e1, e2⟩ := he
      subst e1 e2
      exact on_tangent h2.on this
    · exact absurd h (by simp)
  · rename_i he
    have hx : X ≠ x := by
      intro e; subst e
      rcases eq_or_neg (h2.on.trans h1.on.symm) with g | g
      · exact he ⟨rfl, g⟩
      · exact hne ⟨rfl, g⟩
    split at h
    · exact absurd h (by simp)
    rename_i hm
    simp only [ne_eq, Decidable.not_not] at hm
    dsimp only at h
    split at h
    · rename_i hd
      injection h with h; injection h with h
      subst h
      exact ⟨on_chord h2.on h1.on hx (tm hm), hd⟩
    · exact absurd h (by simp)

/-- The opposite point goes the opposite way. -/
theorem pAdd_neg (a b x y X Y : Int) : pAdd a b x (-y) X (-Y) = (pAdd a b x y X Y).map (fun o => o.map fun q => (q.1, -q.2)) := by
  unfold pAdd
  have c1 : (X = x ∧ -Y = - -y) ↔ (X = x ∧ Y = -y) := by constructor <;> rintro ⟨h, g⟩ <;> exact ⟨h, by omega⟩
  have c2 : (X = x ∧ -Y = -y) ↔ (X = x ∧ Y = y) := by constructor <;> rintro ⟨h, g⟩ <;> exact ⟨h, by omega⟩
  simp only [c1, c2]
  have m1 : (3 * X * X + a).tmod (2 * -Y) = (3 * X * X + a).tmod (2 * Y) := by rw [Int.mul_neg, Int.tmod_neg]
  have m2 : (-y - -Y).tmod (x - X) = -((y - Y).tmod (x - X)) := by rw [show -y - -Y = -(y - Y) by omega, Int.neg_tmod]
  have d1 : (3 * X * X + a).tdiv (2 * -Y) = -((3 * X * X + a).tdiv (2 * Y)) := by rw [Int.mul_neg, Int.tdiv_neg]
  have d2 : (-y - -Y).tdiv (x - X) = -((y - Y).tdiv (x - X)) := by rw [show -y - -Y = -(y - Y) by omega, Int.neg_tdiv]
  have core : ∀ k : Int, (if -k * (X - (-k * -k - X - x)) - -Y = 0 ∨ dis a b % ((-k * (X - (-k * -k - X - x)) - -Y) * (-k * (X - (-k * -k - X - x)) - -Y)) = 0 then some (some (-k * -k - X - x, -k * (X - (-k * -k - X - x)) - -Y)) else none)
      = (if k * (X - (k * k - X - x)) - Y = 0 ∨ dis a b % ((k * (X - (k * k - X - x)) - Y) * (k * (X - (k * k - X - x)) - Y)) = 0 then some (some (k * k - X - x, k * (X - (k * k - X - x)) - Y)) else none).map (fun o : Option (Int × Int) => o.map fun q => (q.1, -q.2)) := by
    intro k
    have e1 : -k * -k = k * k := by grind
    have e2 : -k * (X - (k * k - X - x)) - -Y = -(k * (X - (k * k - X - x)) - Y) := by grind
    rw [e1, e2]
    generalize k * (X - (k * k - X - x)) - Y = u
    have e3 : -u * -u = u * u := by grind
    rw [e3]
    have c3 : (-u = 0 ∨ dis a b % (u * u) = 0) ↔ (u = 0 ∨ dis a b % (u * u) = 0) := by
      constructor <;> rintro (h | h)
      · left; omega
      · right; exact h
      · left; omega
      · right; exact h
    simp only [c3]
    split <;> rfl
  by_cases g1 : X = x ∧ Y = -y
  · rw [if_pos g1, if_pos g1]; rfl
  rw [if_neg g1, if_neg g1]
  by_cases g2 : X = x ∧ Y = y
  · rw [if_pos g2, if_pos g2, m1, d1]
    by_cases g3 : (3 * X * X + a).tmod (2 * Y) ≠ 0
    · rw [if_pos g3, if_pos g3]; rfl
    · rw [if_neg g3, if_neg g3]; exact core _
  · rw [if_neg g2, if_neg g2, m2, d2]
    by_cases g3 : (y - Y).tmod (x - X) ≠ 0
    · rw [if_pos g3, if_pos (show -((y - Y).tmod (x - X)) ≠ 0 by omega)]; rfl
    · rw [if_neg g3, if_neg (show ¬ -((y - Y).tmod (x - X)) ≠ 0 by omega)]; exact core _
theorem pOrd_neg (a b x y : Int) : ∀ (F n : Nat) (X Y : Int), pOrd a b x (-y) F n X (-Y) = pOrd a b x y F n X Y := by
  intro F
  induction F with
  | zero => intro n X Y; rfl
  | succ F ih =>
    intro n X Y
    unfold pOrd
    rw [pAdd_neg]
    cases h : pAdd a b x y X Y with
    | none => rfl
    | some o =>
      cases o with
      | none => rfl
      | some q => exact ih (n + 1) q.1 q.2

/-! ### The reference's sums: X = U / Z^2, Y = V / Z^3 -/
def zst (x y : Int) (t : Int × Int × Int) : Int × Int × Int :=
  (fun h : Int => (fun g : Int => (fun u : Int => (u, g * (t.1 * h * h - u) - t.2.1 * h * h * h, t.2.2 * h)) (g * g - h * h * (t.1 + x * t.2.2 * t.2.2))) (y * t.2.2 * t.2.2 * t.2.2 - t.2.1)) (x * t.2.2 * t.2.2 - t.1)
/-- The double. -/
def zs0 (a x y : Int) : Int × Int × Int :=
  (fun u : Int => (u, (3 * x * x + a) * (x * (2 * y) * (2 * y) - u) - y * (2 * y) * (2 * y) * (2 * y), 2 * y)) ((3 * x * x + a) * (3 * x * x + a) - 2 * x * (2 * y) * (2 * y))
def zs (a x y : Int) : Nat → Int × Int × Int
  | 0 => zs0 a x y
  | n + 1 => zst x y (zs a x y n)
theorem zs_neg (a x y : Int) : ∀ n, zs a x (-y) n = ((zs a x y n).1, (zs a x y n).2.1, -(zs a x y n).2.2) := by
  intro n
  induction n with
  | zero =>
    unfold zs zs0
    simp only [Prod.mk.injEq]
    refine ⟨by grind, by grind, by omega⟩
  | succ n ih =>
    show zst x (-y) (zs a x (-y) n) = _
    rw [ih]
    show _ = ((zst x y (zs a x y n)).1, (zst x y (zs a x y n)).2.1, -(zst x y (zs a x y n)).2.2)
    generalize zs a x y n = t
    obtain ⟨u, v, z⟩ := t
    unfold zst
    simp only [Prod.mk.injEq]
    refine ⟨by grind, by grind, by grind⟩
/-! ### For the kernel: values are forced -/
noncomputable def st {β : Type} (v : Nat) (f : Nat → β) : β := Nat.rec (f 0) (fun n _ => f (Nat.succ n)) v
noncomputable def ife {β : Type} (c : Bool) (a b : β) : β := Bool.rec b a c
noncomputable def sti {β : Type} (v : Int) (f : Int → β) : β := Int.rec (fun n => st n fun m => f (Int.ofNat m)) (fun n => st n fun m => f (Int.negSucc m)) v
theorem st_eq {β : Type} (v : Nat) (f : Nat → β) : st v f = f v := by cases v <;> rfl
theorem ife_eq {β : Type} (c : Bool) (a b : β) : ife c a b = if c = true then a else b := by cases c <;> rfl
theorem sti_eq {β : Type} (v : Int) (f : Int → β) : sti v f = f v := by
  cases v with
  | ofNat n => show st n (fun m => f (Int.ofNat m)) = f (Int.ofNat n); rw [st_eq]
  | negSucc n => show st n (fun m => f (Int.negSucc m)) = f (Int.negSucc n); rw [st_eq]

/-- A rest by 2147483647. -/
structure Cg (U : Nat) (u : Int) : Prop where
  lt : U < 2147483647
  dv : (2147483647 : Int) ∣ u - U
theorem Cg.of (n : Nat) (u : Int) (h : (2147483647 : Int) ∣ u - n) : Cg (n % 2147483647) u := by
  refine ⟨Nat.mod_lt _ (by decide), ?_⟩
  have e : ((n % 2147483647 : Nat) : Int) = n - 2147483647 * ((n / 2147483647 : Nat) : Int) := by omega
  rw [e]
  obtain ⟨k, hk⟩ := h
  exact ⟨k + ((n / 2147483647 : Nat) : Int), by omega⟩
theorem Cg.mul {U V : Nat} {u v : Int} (h : Cg U u) (g : Cg V v) : Cg (U * V % 2147483647) (u * v) := by
  apply Cg.of
  obtain ⟨k, hk⟩ := h.dv
  obtain ⟨l, hl⟩ := g.dv
  refine ⟨k * v + U * l, ?_⟩
  rw [Int.natCast_mul]
  have e1 : u = U + 2147483647 * k := by omega
  have e2 : v = V + 2147483647 * l := by omega
  subst e1 e2
  grind
theorem Cg.add {U V : Nat} {u v : Int} (h : Cg U u) (g : Cg V v) : Cg ((U + V) % 2147483647) (u + v) := by
  apply Cg.of
  obtain ⟨k, hk⟩ := h.dv
  obtain ⟨l, hl⟩ := g.dv
  exact ⟨k + l, by omega⟩
theorem Cg.sub {U V : Nat} {u v : Int} (h : Cg U u) (g : Cg V v) : Cg ((U + (2147483647 - V)) % 2147483647) (u - v) := by
  apply Cg.of
  obtain ⟨k, hk⟩ := h.dv
  obtain ⟨l, hl⟩ := g.dv
  have := g.lt
  exact ⟨k - l - 1, by omega⟩
theorem Cg.ne {U : Nat} {u : Int} (h : Cg U u) (h0 : U ≠ 0) : u ≠ 0 := by
  intro e
  subst e
  obtain ⟨k, hk⟩ := h.dv
  have := h.lt
  omega
theorem Cg.int (u : Int) : Cg (Int.toNat (Int.emod u 2147483647)) u := by
  have h1 : 0 ≤ Int.emod u 2147483647 := Int.emod_nonneg u (by decide)
  have h2 : Int.emod u 2147483647 < 2147483647 := Int.emod_lt_of_pos u (by decide)
  have h3 : Int.emod u 2147483647 + 2147483647 * (u / 2147483647) = u := Int.emod_add_mul_ediv u 2147483647
  refine ⟨by omega, ⟨u / 2147483647, ?_⟩⟩
  rw [Int.toNat_of_nonneg h1]
  omega

noncomputable def zk (x y : Nat) (k : Nat) : Nat → Nat → Nat → Bool :=
  Nat.rec (fun _ _ _ => true) (fun _ r U V Z =>
    st (Nat.mod (Nat.mul x Z) 2147483647) fun xz1 => st (Nat.mod (Nat.mul xz1 Z) 2147483647) fun xz =>
    st (Nat.mod (Nat.add xz (Nat.sub 2147483647 U)) 2147483647) fun h =>
    st (Nat.mod (Nat.mul Z h) 2147483647) fun Z1 =>
    ife (Nat.beq Z1 0) false (
    st (Nat.mod (Nat.mul (Nat.mod (Nat.mul (Nat.mod (Nat.mul y Z) 2147483647) Z) 2147483647) Z) 2147483647) fun yz =>
    st (Nat.mod (Nat.add yz (Nat.sub 2147483647 V)) 2147483647) fun g =>
    st (Nat.mod (Nat.mul h h) 2147483647) fun hh =>
    st (Nat.mod (Nat.mul hh (Nat.mod (Nat.add U xz) 2147483647)) 2147483647) fun s =>
    st (Nat.mod (Nat.add (Nat.mod (Nat.mul g g) 2147483647) (Nat.sub 2147483647 s)) 2147483647) fun U1 =>
    st (Nat.mod (Nat.mul (Nat.mod (Nat.mul U h) 2147483647) h) 2147483647) fun uh =>
    st (Nat.mod (Nat.mul g (Nat.mod (Nat.add uh (Nat.sub 2147483647 U1)) 2147483647)) 2147483647) fun gu =>
    st (Nat.mod (Nat.mul (Nat.mod (Nat.mul (Nat.mod (Nat.mul V h) 2147483647) h) 2147483647) h) 2147483647) fun vh =>
    st (Nat.mod (Nat.add gu (Nat.sub 2147483647 vh)) 2147483647) fun V1 => r U1 V1 Z1)) k
def zh (x U Z : Nat) : Nat := (x * Z % 2147483647 * Z % 2147483647 + (2147483647 - U)) % 2147483647
def zg (y V Z : Nat) : Nat := (y * Z % 2147483647 * Z % 2147483647 * Z % 2147483647 + (2147483647 - V)) % 2147483647
def zU (x y U V Z : Nat) : Nat := (zg y V Z * zg y V Z % 2147483647 + (2147483647 - zh x U Z * zh x U Z % 2147483647 * ((U + x * Z % 2147483647 * Z % 2147483647) % 2147483647) % 2147483647)) % 2147483647
def zV (x y U V Z : Nat) : Nat := (zg y V Z * ((U * zh x U Z % 2147483647 * zh x U Z % 2147483647 + (2147483647 - zU x y U V Z)) % 2147483647) % 2147483647 + (2147483647 - V * zh x U Z % 2147483647 * zh x U Z % 2147483647 * zh x U Z % 2147483647)) % 2147483647
theorem zk_succ (x y k U V Z : Nat) : zk x y (k + 1) U V Z = if Nat.beq (Z * zh x U Z % 2147483647) 0 = true then false else zk x y k (zU x y U V Z) (zV x y U V Z) (Z * zh x U Z % 2147483647) := by
  unfold zk
  simp only [st_eq, ife_eq]
  rfl
theorem zk_ok {x y : Nat} {xi yi : Int} (hx : Cg x xi) (hy : Cg y yi) (a : Int) (f : Nat → Int × Int × Int) (hf : ∀ n, f (n + 1) = zst xi yi (f n)) : ∀ (k m U V Z : Nat), Cg U (f m).1 → Cg V (f m).2.1 → Cg Z (f m).2.2 →
    zk x y k U V Z = true → ∀ i, i < k → (f (m + i + 1)).2.2 ≠ 0 := by
  intro k
  induction k with
  | zero => intro m U V Z _ _ _ _ i hi; omega
  | succ k ih =>
    intro m U V Z hU hV hZ h i hi
    have hxz := (hx.mul hZ).mul hZ
    have hh : Cg (zh x U Z) _ := hxz.sub hU
    have hg : Cg (zg y V Z) _ := (((hy.mul hZ).mul hZ).mul hZ).sub hV
    have hU1 : Cg (zU x y U V Z) _ := (hg.mul hg).sub ((hh.mul hh).mul (hU.add hxz))
    have hV1 : Cg (zV x y U V Z) _ := (hg.mul (((hU.mul hh).mul hh).sub hU1)).sub (((hV.mul hh).mul hh).mul hh)
    have hZ1 := hZ.mul hh
    rw [zk_succ] at h
    have h' := h
    by_cases hb : Nat.beq (Z * zh x U Z % 2147483647) 0 = true
    · rw [if_pos hb] at h'; exact absurd h' (by simp)
    · rw [if_neg hb] at h'
      have hz : (f (m + 1)).2.2 ≠ 0 := by
        rw [hf]
        refine hZ1.ne ?_
        intro e
        apply hb
        rw [e]; rfl
      rcases Nat.eq_zero_or_pos i with e | e
      · subst e; exact hz
      · obtain ⟨j, rfl⟩ : ∃ j, i = j + 1 := ⟨i - 1, by omega⟩
        rw [show m + (j + 1) + 1 = m + 1 + j + 1 by omega]
        refine ih (m + 1) _ _ _ ?_ ?_ ?_ h' j (by omega)
        · rw [hf]; exact hU1
        · rw [hf]; exact hV1
        · rw [hf]; exact hZ1
/-- No multiple up to the thirteenth is far. -/
noncomputable def zc (a x y : Int) : Bool :=
  sti (3 * x * x + a) fun s => sti (2 * y) fun z => sti (s * s - 2 * x * z * z) fun u => sti (s * (x * z * z - u) - y * z * z * z) fun v =>
    st (Int.toNat (Int.emod x 2147483647)) fun xm => st (Int.toNat (Int.emod y 2147483647)) fun ym => st (Int.toNat (Int.emod u 2147483647)) fun um => st (Int.toNat (Int.emod v 2147483647)) fun vm => st (Int.toNat (Int.emod z 2147483647)) fun zm =>
      zk xm ym 11 um vm zm
theorem zc_ok {a x y : Int} (hy : y ≠ 0) (h : zc a x y = true) : ∀ n, n ≤ 11 → (zs a x y n).2.2 ≠ 0 := by
  unfold zc at h
  simp only [st_eq, sti_eq] at h
  have := zk_ok (Cg.int x) (Cg.int y) a (zs a x y) (fun n => rfl) 11 0 _ _ _ (Cg.int _) (Cg.int _) (Cg.int _) h
  intro n hn
  rcases Nat.eq_zero_or_pos n with e | e
  · subst e; show 2 * y ≠ 0; omega
  · have := this (n - 1) (by omega)
    rwa [show 0 + (n - 1) + 1 = n by omega] at this

/-- The program's way, for the kernel. -/
noncomputable def kO (a b x y : Int) (far : Nat → Bool) (no : Bool) (F : Nat) : Nat → Int → Int → Bool :=
  Nat.rec (fun _ _ _ => false) (fun _ r n X Y =>
    ife (decide (X = x ∧ Y = -y)) (far (n + 1))
      (ife (decide (X = x ∧ Y = y))
        (ife (decide ((3 * X * X + a).tmod (2 * Y) ≠ 0)) no (sti ((3 * X * X + a).tdiv (2 * Y)) fun k => sti (k * k - X - x) fun v => sti (k * (X - v) - Y) fun u => ife (decide (u = 0 ∨ dis a b % (u * u) = 0)) (r (n + 1) v u) no))
        (ife (decide ((y - Y).tmod (x - X) ≠ 0)) no (sti ((y - Y).tdiv (x - X)) fun k => sti (k * k - X - x) fun v => sti (k * (X - v) - Y) fun u => ife (decide (u = 0 ∨ dis a b % (u * u) = 0)) (r (n + 1) v u) no)))) F
theorem kO_succ (a b x y : Int) (far : Nat → Bool) (no : Bool) (F n : Nat) (X Y : Int) : kO a b x y far no (F + 1) n X Y =
    ife (decide (X = x ∧ Y = -y)) (far (n + 1))
      (ife (decide (X = x ∧ Y = y))
        (ife (decide ((3 * X * X + a).tmod (2 * Y) ≠ 0)) no (sti ((3 * X * X + a).tdiv (2 * Y)) fun k => sti (k * k - X - x) fun v => sti (k * (X - v) - Y) fun u => ife (decide (u = 0 ∨ dis a b % (u * u) = 0)) (kO a b x y far no F (n + 1) v u) no))
        (ife (decide ((y - Y).tmod (x - X) ≠ 0)) no (sti ((y - Y).tdiv (x - X)) fun k => sti (k * k - X - x) fun v => sti (k * (X - v) - Y) fun u => ife (decide (u = 0 ∨ dis a b % (u * u) = 0)) (kO a b x y far no F (n + 1) v u) no))) := rfl
theorem kO_ok {a b x y : Int} {far : Nat → Bool} {no : Bool} : ∀ (F n : Nat) (X Y : Int), kO a b x y far no F n X Y = true →
    (∃ m, pOrd a b x y F n X Y = some (some m) ∧ m ≤ n + F ∧ far m = true) ∨ (pOrd a b x y F n X Y = some none ∧ no = true) := by
  intro F
  induction F with
  | zero => intro n X Y h; exact absurd h (by simp [kO])
  | succ F ih =>
    intro n X Y h
    have h' := h
    rw [kO_succ] at h'
    simp only [sti_eq, ife_eq, decide_eq_true_eq] at h'
    unfold pOrd pAdd
    by_cases c1 : X = x ∧ Y = -y
    · rw [if_pos c1] at h' ⊢
      exact Or.inl ⟨n + 1, rfl, by omega, h'⟩
    rw [if_neg c1] at h' ⊢
    have step : ∀ v u : Int, (if u = 0 ∨ dis a b % (u * u) = 0 then kO a b x y far no F (n + 1) v u else no) = true →
        (∃ m, (match (if u = 0 ∨ dis a b % (u * u) = 0 then some (some (v, u)) else none : Option (Option (Int × Int))) with
          | none => some none
          | some none => some (some (n + 1))
          | some (some q) => pOrd a b x y F (n + 1) q.1 q.2) = some (some m) ∧ m ≤ n + (F + 1) ∧ far m = true) ∨
        ((match (if u = 0 ∨ dis a b % (u * u) = 0 then some (some (v, u)) else none : Option (Option (Int × Int))) with
          | none => some none
          | some none => some (some (n + 1))
          | some (some q) => pOrd a b x y F (n + 1) q.1 q.2) = some none ∧ no = true) := by
      intro v u hh
      by_cases c : u = 0 ∨ dis a b % (u * u) = 0
      · rw [if_pos c] at hh ⊢
        rcases ih (n + 1) v u hh with ⟨m, g1, g2, g3⟩ | g
        · exact Or.inl ⟨m, g1, by omega, g3⟩
        · exact Or.inr g
      · rw [if_neg c] at hh ⊢
        exact Or.inr ⟨rfl, hh⟩
    by_cases c2 : X = x ∧ Y = y
    · rw [if_pos c2] at h' ⊢
      by_cases c3 : (3 * X * X + a).tmod (2 * Y) ≠ 0
      · rw [if_pos c3] at h' ⊢
        exact Or.inr ⟨rfl, h'⟩
      · rw [if_neg c3] at h' ⊢
        exact step _ _ h'
    · rw [if_neg c2] at h' ⊢
      by_cases c3 : (y - Y).tmod (x - X) ≠ 0
      · rw [if_pos c3] at h' ⊢
        exact Or.inr ⟨rfl, h'⟩
      · rw [if_neg c3] at h' ⊢
        exact step _ _ h'
/-- One point that may be likely, with y above 0; a is A - 1000, b is B - 1000. -/
noncomputable def tst (far : Int → Int → Int → Int → Nat → Bool) (A B y : Nat) (x : Int) : Bool :=
  st (Nat.mul y y) fun y2 => st (Nat.add (Nat.sub A 1000) (Nat.sub 1000 A)) fun al => st (Nat.add (Nat.sub B 1000) (Nat.sub 1000 B)) fun be =>
  st (Nat.mul 4 (Nat.mul al (Nat.mul al al))) fun p => st (Nat.mul 27 (Nat.mul be be)) fun q =>
    ife (ife (Nat.ble 1000 A) (Nat.beq (Nat.mod (Nat.add p q) y2) 0) (Nat.beq (Nat.mod p y2) (Nat.mod q y2)))
      (ife (ife (Nat.ble 1000 A) (Nat.beq (Nat.add p q) 0) (Nat.beq p q)) true
        (sti (Int.subNatNat A 1000) fun a => sti (Int.subNatNat B 1000) fun b => kO a b x (Int.ofNat y) (far a b x (Int.ofNat y)) (zc a x (Int.ofNat y)) 11 1 x (Int.ofNat y))) true
noncomputable def inner (far : Int → Int → Int → Int → Nat → Bool) (neg : Bool) (x y T : Nat) : Bool :=
  st (Nat.div T x) fun A1 => st (Nat.mod T x) fun B1 => sti (ife neg (Int.neg (Int.ofNat x)) (Int.ofNat x)) fun xi =>
    Nat.rec true (fun j r => ife (ife (Nat.ble j A1) (st (Nat.sub A1 j) fun A => ife (Nat.ble A 2000) (st (Nat.add B1 (Nat.mul j x)) fun B => ife (Nat.ble B 2000) (st (ife neg (Nat.sub 2000 A) A) fun A2 => tst far A2 B y xi) true) true) true) r false) (Nat.succ (Nat.div 2000 x))
/-- All points with one x. -/
noncomputable def ent (far : Int → Int → Int → Int → Nat → Bool) (neg : Bool) (x lo cnt : Nat) : Bool :=
  st (Nat.mul x (Nat.mul x x)) fun x3 => st (Nat.add (Nat.mul 1000 x) 1000) fun k =>
    Nat.rec true (fun i r => ife (st (Nat.add lo i) fun y => st (ife neg (Nat.add (Nat.add (Nat.mul y y) x3) k) (Nat.sub (Nat.add (Nat.mul y y) k) x3)) fun T => inner far neg x y T) r false) cnt
def bnd (neg : Bool) (x lo cnt : Nat) : Bool :=
  decide (1 ≤ x) && (if neg then decide (lo = 1) && decide (1000 * x + 1000 < (1 + cnt) * (1 + cnt) + x * x * x) else decide (1 ≤ lo) && (decide (lo = 1) || decide ((lo - 1) * (lo - 1) + (1000 * x + 1000) < x * x * x)) && decide (x * x * x + 1000 * x + 1000 < (lo + cnt) * (lo + cnt)))
noncomputable def row0 (far : Int → Int → Int → Int → Nat → Bool) (B y n : Nat) : Bool := Nat.rec true (fun A r => ife (st A fun A => tst far A B y 0) r false) n
/-- The points with x = 0. -/
noncomputable def ent0 (far : Int → Int → Int → Int → Nat → Bool) (lo cnt : Nat) : Bool :=
  Nat.rec true (fun i r => ife (st (Nat.add lo i) fun y => st (Nat.add (Nat.mul y y) 1000) fun B => row0 far B y 2001) r false) cnt
theorem rec_all (f : Nat → Bool) : ∀ n, Nat.rec (motive := fun _ => Bool) true (fun j r => ife (f j) r false) n = true → ∀ j, j < n → f j = true := by
  intro n
  induction n with
  | zero => intro _ j hj; omega
  | succ n ih =>
    intro h j hj
    have h' : ife (f n) (Nat.rec (motive := fun _ => Bool) true (fun j r => ife (f j) r false) n) false = true := h
    rw [ife_eq] at h'
    by_cases c : f n = true
    · rw [if_pos c] at h'
      rcases Nat.lt_or_ge j n with g | g
      · exact ih h' j g
      · rw [show j = n by omega]; exact c
    · rw [if_neg c] at h'; exact absurd h' (by simp)
theorem rec_mk (f : Nat → Bool) : ∀ n, (∀ j, j < n → f j = true) → Nat.rec (motive := fun _ => Bool) true (fun j r => ife (f j) r false) n = true := by
  intro n
  induction n with
  | zero => intro _; rfl
  | succ n ih =>
    intro h
    show ife (f n) (Nat.rec (motive := fun _ => Bool) true (fun j r => ife (f j) r false) n) false = true
    rw [ife_eq, if_pos (h n (by omega))]
    exact ih fun j hj => h j (by omega)
theorem ent_join {far : Int → Int → Int → Int → Nat → Bool} {neg : Bool} {x lo c d : Nat} (h1 : ent far neg x lo c = true) (h2 : ent far neg x (lo + c) d = true) : ent far neg x lo (c + d) = true := by
  unfold ent at *
  simp only [st_eq] at *
  apply rec_mk
  intro j hj
  have g1 := rec_all _ _ h1
  have g2 := rec_all _ _ h2
  rcases Nat.lt_or_ge j c with k | k
  · exact g1 j k
  · have := g2 (j - c) (by omega)
    rwa [show Nat.add (lo + c) (j - c) = Nat.add lo j by show lo + c + (j - c) = lo + j; omega] at this
theorem ent0_join {far : Int → Int → Int → Int → Nat → Bool} {lo c d : Nat} (h1 : ent0 far lo c = true) (h2 : ent0 far (lo + c) d = true) : ent0 far lo (c + d) = true := by
  unfold ent0 at *
  simp only [st_eq] at *
  apply rec_mk
  intro j hj
  have g1 := rec_all _ _ h1
  have g2 := rec_all _ _ h2
  rcases Nat.lt_or_ge j c with k | k
  · exact g1 j k
  · have := g2 (j - c) (by omega)
    rwa [show Nat.add (lo + c) (j - c) = Nat.add lo j by show lo + c + (j - c) = lo + j; omega] at this
/-- What the kernel finds of a likely point with y above 0. -/
def Good (far : Int → Int → Int → Int → Nat → Bool) (a b x y : Int) : Prop := kO a b x y (far a b x y) (zc a x y) 11 1 x y = true
theorem sub_nat (A k : Nat) : Int.subNatNat A k = (A : Int) - k := Int.subNatNat_eq_coe
theorem tst_ok {far : Int → Int → Int → Int → Nat → Bool} {A B y : Nat} {x : Int} (h : tst far A B y x = true) (hy : 0 < y) (hc : Cu ((A : Int) - 1000) ((B : Int) - 1000)) (hd : dis ((A : Int) - 1000) ((B : Int) - 1000) % ((y : Int) * y) = 0) :
    Good far ((A : Int) - 1000) ((B : Int) - 1000) x y := by
  unfold tst at h
  simp only [st_eq, sti_eq, ife_eq, sub_nat] at h
  obtain ⟨al, hal⟩ : ∃ al, al = Nat.add (Nat.sub A 1000) (Nat.sub 1000 A) := ⟨_, rfl⟩
  obtain ⟨be, hbe⟩ : ∃ be, be = Nat.add (Nat.sub B 1000) (Nat.sub 1000 B) := ⟨_, rfl⟩
  rw [← hal, ← hbe] at h
  have hal' : al = (A - 1000) + (1000 - A) := hal
  have hbe' : be = (B - 1000) + (1000 - B) := hbe
  have hb2 : ((B : Int) - 1000) * ((B : Int) - 1000) = (be : Int) * be := by
    rcases Nat.le_total B 1000 with g | g
    · rw [show ((be : Nat) : Int) = -((B : Int) - 1000) by omega]; grind
    · rw [show ((be : Nat) : Int) = (B : Int) - 1000 by omega]
  obtain ⟨p, hp⟩ : ∃ p, p = Nat.mul 4 (Nat.mul al (Nat.mul al al)) := ⟨_, rfl⟩
  obtain ⟨q, hq⟩ : ∃ q, q = Nat.mul 27 (Nat.mul be be) := ⟨_, rfl⟩
  rw [← hp, ← hq] at h
  have hp' : (p : Int) = 4 * ((al : Int) * ((al : Int) * al)) := by rw [hp]; show ((4 * (al * (al * al)) : Nat) : Int) = _; simp
  have hq' : (q : Int) = 27 * ((be : Int) * be) := by rw [hq]; show ((27 * (be * be) : Nat) : Int) = _; simp
  have hd0 := hc.d0
  have hdis : dis ((A : Int) - 1000) ((B : Int) - 1000) = 4 * (((A : Int) - 1000) * (((A : Int) - 1000) * ((A : Int) - 1000))) + 27 * ((be : Int) * be) := by
    rw [← hb2]; unfold dis; grind
  rw [show Nat.mul y y = y * y from rfl] at h
  by_cases g : Nat.ble 1000 A = true
  · simp only [if_pos g] at h
    have g' : 1000 ≤ A := Nat.le_of_ble_eq_true g
    have e : dis ((A : Int) - 1000) ((B : Int) - 1000) = ((p + q : Nat) : Int) := by
      rw [hdis, Int.natCast_add, hp', hq', show ((A : Int) - 1000) = al by omega]
    rw [e] at hd hd0
    have e1 : (p + q) % (y * y) = 0 := by
      have : (((p + q) % (y * y) : Nat) : Int) = 0 := by rw [Int.natCast_emod, Int.natCast_mul]; exact hd
      omega
    rw [if_pos (show Nat.beq (Nat.mod (Nat.add p q) (y * y)) 0 = true by show Nat.beq ((p + q) % (y * y)) 0 = true; rw [e1]; rfl)] at h
    rw [if_neg (show ¬ Nat.beq (Nat.add p q) 0 = true by
      intro e2; have e3 : p + q = 0 := Nat.eq_of_beq_eq_true e2; omega)] at h
    exact h
  · simp only [if_neg g] at h
    have g' : A < 1000 := by
      rcases Nat.lt_or_ge A 1000 with k | k
      · exact k
      · exact absurd (Nat.ble_eq_true_of_le k) g
    have e : dis ((A : Int) - 1000) ((B : Int) - 1000) = (q : Int) - p := by
      rw [hdis, hp', hq', show ((A : Int) - 1000) = -(al : Int) by omega]
      grind
    rw [e] at hd hd0
    have e1 : p % (y * y) = q % (y * y) := by
      have := (Int.emod_eq_emod_iff_emod_sub_eq_zero (m := (q : Int)) (n := (y : Int) * y) (k := (p : Int))).2 hd
      have : (((q % (y * y) : Nat)) : Int) = ((p % (y * y) : Nat) : Int) := by rw [Int.natCast_emod, Int.natCast_emod, Int.natCast_mul]; exact this
      omega
    rw [if_pos (show Nat.beq (Nat.mod p (y * y)) (Nat.mod q (y * y)) = true by show Nat.beq (p % (y * y)) (q % (y * y)) = true; rw [e1]; exact Nat.beq_refl _)] at h
    rw [if_neg (show ¬ Nat.beq p q = true by
      intro e2; have e3 : p = q := Nat.eq_of_beq_eq_true e2; omega)] at h
    exact h
theorem inner_ok {far : Int → Int → Int → Int → Nat → Bool} {neg : Bool} {x y T : Nat} (h : inner far neg x y T = true) (hx : 1 ≤ x) {A B : Nat} (hA : A ≤ 2000) (hB : B ≤ 2000) (hT : A * x + B = T) :
    tst far (if neg = true then 2000 - A else A) B y (if neg = true then -(x : Int) else x) = true := by
  unfold inner at h
  simp only [st_eq, sti_eq] at h
  have h1 := rec_all _ _ h (B / x) (by
    have : B / x ≤ 2000 / x := Nat.div_le_div_right hB
    show B / x < 2000 / x + 1
    omega)
  have e1 : Nat.div T x = A + B / x := by
    show T / x = _
    rw [← hT, Nat.add_comm, Nat.mul_comm, Nat.add_mul_div_left B A (by omega), Nat.add_comm]
  have e2 : Nat.mod T x = B % x := by
    show T % x = _
    rw [← hT, Nat.add_comm, Nat.mul_comm, Nat.add_mul_mod_self_left]
  have e3 : Nat.add (B % x) (Nat.mul (B / x) x) = B := by
    show B % x + B / x * x = B
    rw [Nat.mul_comm]; exact Nat.mod_add_div B x
  have e4 : Nat.sub (A + B / x) (B / x) = A := by show A + B / x - B / x = A; omega
  rw [e1, e2, e4, e3] at h1
  simp only [ife_eq] at h1
  rw [if_pos (Nat.ble_eq_true_of_le (by omega)), if_pos (Nat.ble_eq_true_of_le hA), if_pos (Nat.ble_eq_true_of_le hB)] at h1
  exact h1
theorem ent_ok {far : Int → Int → Int → Int → Nat → Bool} {neg : Bool} {x lo cnt : Nat} (hb : bnd neg x lo cnt = true) (h : ent far neg x lo cnt = true) {a b y : Int} (hc : Cu a b) (hy : 0 < y) (hl : Lk a b (if neg = true then -(x : Int) else x) y) :
    Good far a b (if neg = true then -(x : Int) else x) y := by
  obtain ⟨A, hA⟩ : ∃ A : Nat, (A : Int) = a + 1000 := ⟨(a + 1000).toNat, by have := hc.a1; omega⟩
  obtain ⟨B, hB⟩ : ∃ B : Nat, (B : Int) = b + 1000 := ⟨(b + 1000).toNat, by have := hc.b1; omega⟩
  obtain ⟨Y, rfl⟩ : ∃ Y : Nat, y = Y := ⟨y.toNat, by omega⟩
  have ea : a = (A : Int) - 1000 := by omega
  have eb : b = (B : Int) - 1000 := by omega
  have hA2 : A ≤ 2000 := by have := hc.a2; omega
  have hB2 : B ≤ 2000 := by have := hc.b2; omega
  have hd : dis a b % ((Y : Int) * Y) = 0 := by
    rcases hl.dv with e | e
    · omega
    · exact e
  unfold bnd at hb
  unfold ent at h
  simp only [st_eq] at h
  rw [Bool.and_eq_true, decide_eq_true_eq] at hb
  obtain ⟨hx, hb⟩ := hb
  cases neg with
  | true =>
    simp only [if_true, Bool.and_eq_true, decide_eq_true_eq] at hb
    obtain ⟨e1, hb⟩ := hb
    subst e1
    simp only [if_true] at hl ⊢
    have on := hl.on
    unfold cub at on
    have on' : (Y * Y + x * x * x + A * x : Nat) = 1000 * x + B - 1000 + 0 ∨ True := Or.inr trivial
    have oi : (Y : Int) * Y + (x : Int) * x * x + A * x = 1000 * x + B - 1000 := by
      rw [on, ea, eb]; grind
    have on2 : Y * Y + x * x * x + A * x + 1000 = 1000 * x + B := by
      have : ((Y * Y + x * x * x + A * x + 1000 : Nat) : Int) = ((1000 * x + B : Nat) : Int) := by
        simp only [Int.natCast_add, Int.natCast_mul]
        omega
      omega
    have hY : Y < 1 + cnt := by
      rcases Nat.lt_or_ge Y (1 + cnt) with g | g
      · exact g
      · have := Nat.mul_le_mul g g; omega
    have h1 := rec_all _ _ h (Y - 1) (by omega)
    have eY : Nat.add 1 (Y - 1) = Y := by show 1 + (Y - 1) = Y; omega
    rw [eY] at h1
    have hAx : A * x ≤ 2000 * x := Nat.mul_le_mul_right x hA2
    have h2 := inner_ok h1 hx (A := 2000 - A) (B := B) (by omega) hB2 (by
      show (2000 - A) * x + B = Y * Y + x * (x * x) + (1000 * x + 1000)
      rw [Nat.sub_mul, ← Nat.mul_assoc x x x]
      omega)
    simp only [if_true] at h2
    rw [show 2000 - (2000 - A) = A by omega] at h2
    rw [ea, eb] at hc hd ⊢
    exact tst_ok h2 (by omega) hc hd
  | false =>
    simp only [Bool.false_eq_true, if_false, Bool.and_eq_true, Bool.or_eq_true, decide_eq_true_eq] at hb
    obtain ⟨⟨hl1, hb1⟩, hb2⟩ := hb
    simp only [Bool.false_eq_true, if_false] at hl ⊢
    have on := hl.on
    unfold cub at on
    have oi : (Y : Int) * Y + 1000 * x + 1000 = (x : Int) * x * x + A * x + B := by
      rw [on, ea, eb]; grind
    have on2 : Y * Y + 1000 * x + 1000 = x * x * x + A * x + B := by
      have : ((Y * Y + 1000 * x + 1000 : Nat) : Int) = ((x * x * x + A * x + B : Nat) : Int) := by
        simp only [Int.natCast_add, Int.natCast_mul]
        omega
      omega
    have hAx : A * x ≤ 2000 * x := Nat.mul_le_mul_right x hA2
    have hY : Y < lo + cnt := by
      rcases Nat.lt_or_ge Y (lo + cnt) with g | g
      · exact g
      · have := Nat.mul_le_mul g g; omega
    have hY2 : lo ≤ Y := by
      rcases hb1 with g | g
      · omega
      · rcases Nat.lt_or_ge Y lo with k | k
        · have := Nat.mul_le_mul (show Y ≤ lo - 1 by omega) (show Y ≤ lo - 1 by omega); omega
        · exact k
    have h1 := rec_all _ _ h (Y - lo) (by omega)
    have eY : Nat.add lo (Y - lo) = Y := by show lo + (Y - lo) = Y; omega
    rw [eY] at h1
    have h2 := inner_ok h1 hx hA2 hB2 (by
      show A * x + B = Y * Y + (1000 * x + 1000) - x * (x * x)
      rw [← Nat.mul_assoc x x x]
      omega)
    simp only [Bool.false_eq_true, if_false] at h2
    rw [ea, eb] at hc hd ⊢
    exact tst_ok h2 (by omega) hc hd
theorem row0_ok {far : Int → Int → Int → Int → Nat → Bool} {B y n : Nat} (h : row0 far B y n = true) : ∀ A, A < n → tst far A B y 0 = true := by
  unfold row0 at h
  simp only [st_eq] at h
  exact rec_all _ _ h
theorem ent0_ok {far : Int → Int → Int → Int → Nat → Bool} (h : ent0 far 1 31 = true) {a b y : Int} (hc : Cu a b) (hy : 0 < y) (hl : Lk a b 0 y) : Good far a b 0 y := by
  obtain ⟨A, hA⟩ : ∃ A : Nat, (A : Int) = a + 1000 := ⟨(a + 1000).toNat, by have := hc.a1; omega⟩
  obtain ⟨B, hB⟩ : ∃ B : Nat, (B : Int) = b + 1000 := ⟨(b + 1000).toNat, by have := hc.b1; omega⟩
  obtain ⟨Y, rfl⟩ : ∃ Y : Nat, y = Y := ⟨y.toNat, by omega⟩
  have ea : a = (A : Int) - 1000 := by omega
  have eb : b = (B : Int) - 1000 := by omega
  have hA2 : A ≤ 2000 := by have := hc.a2; omega
  have hB2 : B ≤ 2000 := by have := hc.b2; omega
  have hd : dis a b % ((Y : Int) * Y) = 0 := by
    rcases hl.dv with e | e
    · omega
    · exact e
  have on := hl.on
  unfold cub at on
  have on2 : Y * Y + 1000 = B := by
    have : ((Y * Y + 1000 : Nat) : Int) = (B : Int) := by
      simp only [Int.natCast_add, Int.natCast_mul]
      omega
    omega
  have hY : Y < 32 := by
    rcases Nat.lt_or_ge Y 32 with g | g
    · exact g
    · have := Nat.mul_le_mul g g; omega
  unfold ent0 at h
  simp only [st_eq] at h
  have h1 : row0 far (Nat.add (Nat.mul (Nat.add 1 (Y - 1)) (Nat.add 1 (Y - 1))) 1000) (Nat.add 1 (Y - 1)) 2001 = true := rec_all (fun i => row0 far (Nat.add (Nat.mul (Nat.add 1 i) (Nat.add 1 i)) 1000) (Nat.add 1 i) 2001) 31 h (Y - 1) (by omega)
  have h2 := row0_ok (n := 2001) h1 A (by omega)
  have eY : Nat.add 1 (Y - 1) = Y := by show 1 + (Y - 1) = Y; omega
  rw [eY, show Nat.add (Nat.mul Y Y) 1000 = B from on2] at h2
  rw [ea, eb] at hc hd ⊢
  exact tst_ok h2 (by omega) hc hd
/-- Many of them. -/
noncomputable def entL (far : Int → Int → Int → Int → Nat → Bool) : List (Bool × Nat × Nat × Nat) → Bool := fun l => List.rec true (fun e _ r => ife (bnd e.1 e.2.1 e.2.2.1 e.2.2.2) (ife (ent far e.1 e.2.1 e.2.2.1 e.2.2.2) r false) false) l
theorem entL_ok {far : Int → Int → Int → Int → Nat → Bool} : ∀ l, entL far l = true → ∀ e ∈ l, bnd e.1 e.2.1 e.2.2.1 e.2.2.2 = true ∧ ent far e.1 e.2.1 e.2.2.1 e.2.2.2 = true := by
  intro l
  induction l with
  | nil => intro _ e he; exact absurd he (by simp)
  | cons d l ih =>
    intro h e he
    have h' : ife (bnd d.1 d.2.1 d.2.2.1 d.2.2.2) (ife (ent far d.1 d.2.1 d.2.2.1 d.2.2.2) (entL far l) false) false = true := h
    simp only [ife_eq] at h'
    by_cases c1 : bnd d.1 d.2.1 d.2.2.1 d.2.2.2 = true
    · rw [if_pos c1] at h'
      by_cases c2 : ent far d.1 d.2.1 d.2.2.1 d.2.2.2 = true
      · rw [if_pos c2] at h'
        rcases List.mem_cons.1 he with g | g
        · subst g; exact ⟨c1, c2⟩
        · exact ih h' e g
      · rw [if_neg c2] at h'; exact absurd h' (by simp)
    · rw [if_neg c1] at h'; exact absurd h' (by simp)
/-- The points of finite order with y above 0, and their orders. -/
def tab : List (Int × Int × Int × Int × Nat) := [(-842, 29, 70, 533, 4), (-752, -896, -12, 80, 4), (-659, -442, -11, 74, 4), (-572, -96, -10, 68, 4), (-491, 154, -9, 62, 4), (-482, 861, 50, 319, 4), (-416, 320, -8, 56, 4), (-387, 766, -13, 60, 6), (-387, 766, 27, 100, 3), (-369, 481, 27, 101, 3), (-351, 198, 27, 102, 3), (-347, 414, -7, 50, 4), (-333, -83, 27, 103, 3), (-315, -362, 27, 104, 3), (-297, -639, 27, 105, 3), (-284, 448, -6, 44, 4), (-279, -914, 27, 106, 3), (-242, -799, -8, 25, 4), (-227, 434, -5, 38, 4), (-192, 976, 12, 20, 3), (-191, -510, -7, 22, 4), (-180, 873, 12, 21, 3), (-176, 384, -4, 32, 4), (-176, 896, 4, 16, 4), (-168, 772, 12, 22, 3), (-165, 997, 3, 23, 3), (-162, 729, 0, 27, 4), (-159, 934, 3, 22, 3), (-156, 673, 12, 23, 3), (-156, 736, 14, 36, 4), (-153, 873, 3, 21, 3), (-147, 814, 3, 20, 3), (-146, -299, -6, 19, 4), (-144, 576, 12, 24, 3), (-143, 658, 9, 10, 4), (-141, 757, 3, 19, 3), (-135, 702, 3, 18, 3), (-132, 481, 2, 15, 6), (-132, 481, 12, 25, 3), (-131, 310, -3, 26, 4), (-129, 649, 3, 17, 3), (-123, 598, 3, 16, 3), (-123, 598, 11, 24, 6), (-122, 369, 20, 77, 4), (-120, 388, 12, 26, 3), (-117, 549, 3, 15, 3), (-111, 434, 1, 18, 4), (-111, 502, 3, 14, 3), (-108, 297, -6, 27, 6), (-108, 297, 12, 27, 3), (-107, -154, -5, 16, 4), (-107, 426, 5, 4, 4), (-107, 806, 7, 20, 4), (-105, 457, 3, 13, 3), (-99, 414, 3, 12, 3), (-96, 208, 12, 28, 3), (-93, 373, 3, 11, 3), (-92, 224, -2, 20, 4), (-87, 334, 3, 10, 3), (-84, 121, 12, 29, 3), (-81, 297, 3, 9, 3), (-75, 262, 3, 8, 3), (-74, -63, -4, 13, 4), (-74, 517, 6, 17, 4), (-72, 36, 12, 30, 3), (-69, 229, 3, 7, 3), (-66, 205, 2, 9, 4), (-63, 198, 3, 6, 3), (-60, -47, 12, 31, 3), (-59, 138, -1, 14, 4), (-57, 169, 3, 5, 3), (-51, 142, 3, 4, 3), (-50, 125, 10, 25, 4), (-47, -14, -3, 10, 4), (-47, 306, 5, 14, 4), (-45, 117, 3, 3, 3), (-44, 112, 6, 8, 4), (-43, 166, -5, 16, 7), (-43, 166, 3, 8, 7), (-43, 166, 11, 32, 7), (-39, 94, 3, 2, 3), (-36, -207, 12, 33, 3), (-33, 73, 3, 1, 3), (-32, 64, 0, 8, 4), (-26, 5, -2, 7, 4), (-26, 161, 4, 11, 4), (-24, -284, 12, 34, 3), (-21, 37, 3, 1, 3), (-15, 22, -1, 6, 6), (-15, 22, 3, 2, 3), (-12, -359, 12, 35, 3), (-11, -890, 27, 136, 4), (-11, 6, -1, 4, 4), (-11, 14, 1, 2, 4), (-11, 70, 3, 8, 4), (-11, 890, 7, 34, 4), (-9, 9, 3, 3, 3), (-2, 1, 0, 1, 4), (-2, 21, 2, 5, 4), (0, -432, 12, 36, 3), (0, 1, 0, 1, 3), (0, 1, 2, 3, 6), (0, 4, 0, 2, 3), (0, 9, 0, 3, 3), (0, 16, 0, 4, 3), (0, 25, 0, 5, 3), (0, 36, 0, 6, 3), (0, 49, 0, 7, 3), (0, 64, 0, 8, 3), (0, 64, 8, 24, 6), (0, 81, 0, 9, 3), (0, 100, 0, 10, 3), (0, 121, 0, 11, 3), (0, 144, 0, 12, 3), (0, 169, 0, 13, 3), (0, 196, 0, 14, 3), (0, 225, 0, 15, 3), (0, 256, 0, 16, 3), (0, 289, 0, 17, 3), (0, 324, 0, 18, 3), (0, 361, 0, 19, 3), (0, 400, 0, 20, 3), (0, 441, 0, 21, 3), (0, 484, 0, 22, 3), (0, 529, 0, 23, 3), (0, 576, 0, 24, 3), (0, 625, 0, 25, 3), (0, 676, 0, 26, 3), (0, 729, 0, 27, 3), (0, 729, 18, 81, 6), (0, 784, 0, 28, 3), (0, 841, 0, 29, 3), (0, 900, 0, 30, 3), (0, 961, 0, 31, 3), (1, 2, 1, 2, 4), (3, -11, 3, 5, 3), (4, 0, 2, 4, 4), (4, 544, 6, 28, 4), (6, -7, 4, 9, 4), (9, -18, 3, 6, 3), (12, -503, 12, 37, 3), (13, -34, 7, 20, 4), (13, 34, 3, 10, 4), (13, 294, 5, 22, 4), (15, -23, 3, 7, 3), (16, 128, 4, 16, 4), (21, -26, 3, 8, 3), (24, -572, 12, 38, 3), (27, -27, 3, 9, 3), (33, -26, 3, 10, 3), (33, 34, 5, 18, 4), (36, -639, 12, 39, 3), (37, -138, 11, 40, 4), (39, -23, 3, 11, 3), (45, -18, 3, 12, 3), (48, -704, 12, 40, 3), (49, -686, 21, 98, 4), (51, -11, 3, 13, 3), (54, 189, 6, 27, 4), (57, -2, 3, 14, 3), (60, -767, 12, 41, 3), (63, 9, 3, 15, 3), (64, 0, 8, 32, 4), (69, 22, 3, 16, 3), (69, 470, 7, 36, 4), (72, -828, 12, 42, 3), (75, 37, 3, 17, 3), (78, 889, 8, 45, 4), (81, 54, 3, 18, 3), (84, -887, 12, 43, 3), (87, 73, 3, 19, 3), (93, 94, 3, 20, 3), (93, 94, 23, 120, 6), (96, -944, 12, 44, 3), (96, -448, 16, 72, 4), (99, 117, 3, 21, 3), (105, 142, 3, 22, 3), (108, -999, 12, 45, 3), (109, 226, 9, 44, 4), (111, 169, 3, 23, 3), (117, 198, 3, 24, 3), (118, -119, 12, 55, 4), (123, 229, 3, 25, 3), (129, 262, 3, 26, 3), (135, 297, 3, 27, 3), (141, 334, 3, 28, 3), (147, 373, 3, 29, 3), (148, 656, 10, 56, 4), (153, 414, 3, 30, 3), (159, 457, 3, 31, 3), (165, 502, 3, 32, 3), (171, 549, 3, 33, 3), (177, 598, 3, 34, 3), (183, 649, 3, 35, 3), (189, 702, 3, 36, 3), (193, 194, 13, 70, 4), (195, 757, 3, 37, 3), (201, 814, 3, 38, 3), (207, 873, 3, 39, 3), (213, -434, 17, 90, 4), (213, 934, 3, 40, 3), (219, 997, 3, 41, 3), (262, 813, 14, 85, 4), (324, 0, 18, 108, 4), (429, 866, 19, 126, 4), (526, -527, 24, 161, 4), (673, 674, 25, 182, 4), (756, -999, 12, 99, 3), (768, -944, 12, 100, 3), (780, -887, 12, 101, 3), (792, -828, 12, 102, 3), (804, -767, 12, 103, 3), (816, -704, 12, 104, 3), (828, -639, 12, 105, 3), (840, -572, 12, 106, 3), (852, -503, 12, 107, 3), (864, -432, 12, 108, 3), (876, -359, 12, 109, 3), (888, -284, 12, 110, 3), (900, -207, 12, 111, 3), (912, -128, 12, 112, 3), (924, -47, 12, 113, 3), (936, 36, 12, 114, 3), (948, 121, 12, 115, 3), (960, 208, 12, 116, 3), (972, 297, 12, 117, 3), (984, 388, 12, 118, 3), (996, 481, 12, 119, 3)]
def tabB (a b x y : Int) (n : Nat) : Bool := tab.any fun t => decide (t.1 = a) && (decide (t.2.1 = b) && (decide (t.2.2.1 = x) && (decide (t.2.2.2.1 = y) && decide (t.2.2.2.2 = n))))

end TN
end Go.Proofs.Ytknnidbdgfimbaa
