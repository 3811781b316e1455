import Derived.Test.YtijkanilpblogaeQfVd
import Derived.Test.YtijkanilpblogaeQcVd
import Derived.Test.YtijkanilpblogaeQfV
import Derived.Test.YtijkanilpblogaeQfL
import Derived.Test.YtijkanilpblogaeRegionG
import Derived.Deep.LoopGhost
import Derived.Maps.OwnSet
import Derived.Maps.RangeWalk
section
/- The points of a form, and how many there are: plain facts. -/
set_option linter.unusedSimpArgs false
set_option linter.unusedVariables false
set_option maxRecDepth 100000
namespace Go.Proofs.Ytijkanilpblogae

/-- By x, then by y. -/
def plt (a b : Int × Int) : Prop := a.1 < b.1 ∨ (a.1 = b.1 ∧ a.2 < b.2)
theorem plt_nodup {l : List (Int × Int)} (h : l.Pairwise plt) : l.Nodup :=
  h.imp fun {a b} k e => by subst e; unfold plt at k; omega
theorem plt_at {l : List (Int × Int)} (h : l.Pairwise plt) {i : Nat} {a b : Int × Int} (ha : l[i]? = some a) (hb : l[i + 1]? = some b) : plt a b := by
  obtain ⟨h1, rfl⟩ := List.getElem?_eq_some_iff.1 ha
  obtain ⟨h2, rfl⟩ := List.getElem?_eq_some_iff.1 hb
  exact List.pairwise_iff_getElem.1 h i (i + 1) h1 h2 (by omega)

/-- There is a reduced form that a form is like. -/
theorem red_ex {f : Qf} : ∀ (N : Nat) (g : Qf) (m : Mt), mu g = N → Rw f g m → ∃ g' m', Rd f g' m' := by
  intro N
  induction N using Nat.strongRecOn with
  | ind N ih =>
    intro g m hN h
    have ha := h.pos.1
    have hb : -1000000 ≤ g.b ∧ g.b ≤ 1000000 := ⟨h.up.2.2.1, h.up.2.2.2.1⟩
    cases hrb : g.redB
    · by_cases hac : g.c < g.a
      · exact ih _ (by rw [← hN]; exact mu_swp h.up h.pos.2 hac) (swp g) _ rfl h.swapped
      · have step : ∀ k, Kc g k → ∃ g' m', Rd f g' m' := fun k hk => ih _ (by rw [← hN]; exact hk.mu) (shf g k) _ rfl (h.shifted k hk.sq hk.b1 hk.b2)
        by_cases hB : g.a < g.b
        · by_cases hq : (-g.b).tdiv (2 * g.a) = 0
          · exact step (-1) (kc_choice ha hb rfl (.inl ⟨hB, .inl ⟨hq, rfl⟩⟩))
          · exact step _ (kc_choice ha hb rfl (.inl ⟨hB, .inr ⟨hq, rfl⟩⟩))
        · by_cases hB2 : g.b ≤ -g.a
          · by_cases hq : (-g.b).tdiv (2 * g.a) = 0
            · exact step 1 (kc_choice ha hb rfl (.inr ⟨hB2, .inl ⟨hq, rfl⟩⟩))
            · exact step _ (kc_choice ha hb rfl (.inr ⟨hB2, .inr ⟨hq, rfl⟩⟩))
          · have hs : g.a = g.c ∧ g.b < 0 := by
              unfold Qf.redB at hrb
              rw [decide_eq_true (show (g.b.natAbs : Int) ≤ g.a by omega), decide_eq_true (show g.a ≤ g.c by omega)] at hrb
              simp only [Bool.true_and, Bool.or_eq_false_iff, decide_eq_false_iff_not, Bool.and_eq_false_iff, bne_eq_false_iff_eq] at hrb
              omega
            exact ih _ (by rw [← hN]; exact mu_same hs.1 hs.2) (swp g) _ rfl h.swapped
    · exact ⟨g, m, h.rd hrb⟩
theorem red_has {f : Qf} (h : ffault f = (0, 0)) : ∃ g m, Rd f g m := red_ex _ f _ rfl (Rw.start h)

/-- All points of f where it is n, rising. -/
structure Pts (f : Qf) (n : Int) (l : List (Int × Int)) : Prop where
  has : ∀ a ∈ l, f.at a.1 a.2 = n
  all : ∀ x y, f.at x y = n → (x, y) ∈ l
  ord : l.Pairwise plt

theorem pts_count {f g : Qf} {m : Mt} {n : Int} {l : List (Int × Int)} {k : Nat} (h : Rd f g m) (ga : 1 ≤ g.a) (gd : g.disc < 0) (hn : 0 ≤ n ∧ n ≤ 1000000) (hl : Pts f n l) (hk : 4 * g.a * n < -g.disc * ((k : Int) * k)) :
    l.length = (allP g n (fun _ => 2400) k).length := by
  have top : 4 * g.a * n < -g.disc * ((1155 : Nat) * (1155 : Nat) : Int) := by
    rcases Int.lt_or_le (4 * g.a * n) (-g.disc * ((1155 : Nat) * (1155 : Nat) : Int)) with h1 | h1
    · exact h1
    · have := y_top (y := 1155) h.red ga hn (by rw [Int.mul_assoc]; exact h1)
      omega
  refine points_len h l _ (plt_nodup hl.ord) (allP_nodup g n _ k) hl.has hl.all (fun a ha => allP_at ha) (fun x y hxy => ?_)
  have hy : y.natAbs < k := by
    rcases Nat.lt_or_ge y.natAbs k with h1 | h1
    · exact h1
    · have := rows_none (p := x) ga gd hk h1; omega
  have hy2 : y.natAbs < 1155 := by
    rcases Nat.lt_or_ge y.natAbs 1155 with h1 | h1
    · exact h1
    · have := rows_none (p := x) ga gd top h1; omega
  have hx : x.natAbs < 2400 := by
    rcases Nat.lt_or_ge x.natAbs 2400 with h1 | h1
    · exact h1
    · obtain ⟨t1, t2⟩ := x_top (g := g) (n := n) (y := y.natAbs) h.red ga hn.2 (by omega)
      have := row_none (g := g) (n := n) (x := 2400) (y := y.natAbs) (p := x) (q := y) ga t1 t2 h1 rfl
      omega
  exact mem_allP hxy hy hx

theorem pts_few {f g : Qf} {m : Mt} {n : Int} {l : List (Int × Int)} (h : Rd f g m) (ga : 1 ≤ g.a) (gd : g.disc < 0) (hn : 0 ≤ n ∧ n ≤ 1000000) (hl : Pts f n l) : l.length ≤ 11088000 := by
  have top : 4 * g.a * n < -g.disc * ((1155 : Nat) * (1155 : Nat) : Int) := by
    rcases Int.lt_or_le (4 * g.a * n) (-g.disc * ((1155 : Nat) * (1155 : Nat) : Int)) with h1 | h1
    · exact h1
    · have := y_top (y := 1155) h.red ga hn (by rw [Int.mul_assoc]; exact h1)
      omega
  have h1 := pts_count h ga gd hn hl top
  have h2 := allP_len g n 1155
  omega

/-- The points' cells. -/
def pcells (l : List (Int × Int)) : List Value := l.flatMap fun a => [.int .i64 a.1, .int .i64 a.2]
theorem pcells_cons (a : Int × Int) (l : List (Int × Int)) : pcells (a :: l) = [.int .i64 a.1, .int .i64 a.2] ++ pcells l := by simp [pcells]
theorem pcells_at : ∀ (l : List (Int × Int)) (i : Nat) (a : Int × Int), l[i]? = some a → (pcells l)[i * 2]? = some (.int .i64 a.1) ∧ (pcells l)[i * 2 + 1]? = some (.int .i64 a.2)
  | [], i, a, h => by simp at h
  | b :: l, 0, a, h => by
    simp at h; subst h
    rw [pcells_cons]; simp
  | b :: l, i + 1, a, h => by
    have ih := pcells_at l i a (by simpa using h)
    rw [pcells_cons]
    have e : ∀ k, ([Value.int .i64 b.1, Value.int .i64 b.2] ++ pcells l)[(i + 1) * 2 + k]? = (pcells l)[i * 2 + k]? := fun k => by
      rw [List.getElem?_append_right (by simp; omega)]
      congr 1
      simp; omega
    exact ⟨(e 0).trans ih.1, (e 1).trans ih.2⟩

end Go.Proofs.Ytijkanilpblogae
end

section
/- Plain facts of the program's points: roots, rows, and that all are there. -/
set_option linter.unusedSimpArgs false
set_option linter.unusedVariables false
set_option maxRecDepth 100000
namespace Go.Proofs.Ytijkanilpblogae

/-- The root of a number, left to whole ones. -/
def isq : Nat → Nat
  | 0 => 0
  | n + 1 => if (isq n + 1) * (isq n + 1) ≤ n + 1 then isq n + 1 else isq n
theorem isq_is : ∀ n, isq n * isq n ≤ n ∧ n < (isq n + 1) * (isq n + 1)
  | 0 => by simp [isq]
  | n + 1 => by
    obtain ⟨h1, h2⟩ := isq_is n
    unfold isq
    split
    · rename_i h3
      refine ⟨h3, ?_⟩
      have : (isq n + 1 + 1) * (isq n + 1 + 1) = (isq n + 1) * (isq n + 1) + 2 * (isq n + 1) + 1 := by grind
      omega
    · rename_i h3
      exact ⟨by omega, by omega⟩
theorem sq_lt_of {a b : Nat} (h : a * a < (b + 1) * (b + 1)) : a ≤ b := by
  rcases Nat.lt_or_ge b a with h1 | h1
  · have := Nat.mul_le_mul (show b + 1 ≤ a by omega) (show b + 1 ≤ a by omega)
    omega
  · exact h1
theorem isq_one {n r : Nat} (h1 : r * r ≤ n) (h2 : n < (r + 1) * (r + 1)) : r = isq n := by
  obtain ⟨h3, h4⟩ := isq_is n
  have := sq_lt_of (a := r) (b := isq n) (by omega)
  have := sq_lt_of (a := isq n) (b := r) (by omega)
  omega
def sqr (n : Int) : Int := (isq n.toNat : Int)
theorem sqr_nn (n : Int) : 0 ≤ sqr n := by unfold sqr; omega
theorem sqr_le {n : Int} (h : 0 ≤ n) : sqr n * sqr n ≤ n := by
  have := (isq_is n.toNat).1
  unfold sqr
  have e : ((isq n.toNat * isq n.toNat : Nat) : Int) = (isq n.toNat : Int) * (isq n.toNat : Int) := Int.natCast_mul ..
  omega
/-- What is t, if its square is n. -/
theorem sqr_sq {t : Int} : sqr (t * t) = t.natAbs := by
  unfold sqr
  have e : (t * t).toNat = t.natAbs * t.natAbs := by
    have : ((t.natAbs * t.natAbs : Nat) : Int) = t * t := by simp [Int.natAbs_mul_self']
    omega
  rw [e, ← isq_one (n := t.natAbs * t.natAbs) (r := t.natAbs) (Nat.le_refl _) (Nat.mul_lt_mul_of_lt_of_le (by omega) (by omega) (by omega))]
theorem le_sqr {t n : Int} (h : t * t ≤ n) : (t.natAbs : Int) ≤ sqr n := by
  have h2 := (isq_is n.toNat).2
  have e : ((t.natAbs * t.natAbs : Nat) : Int) = t * t := by simp [Int.natAbs_mul_self']
  have := sq_lt_of (a := t.natAbs) (b := isq n.toNat) (by omega)
  unfold sqr; omega

/-- All x for which (2 a x + b y)^2 is sq. -/
def ac1 (a b y r : Int) : List Int := if (r - b * y).tmod (2 * a) = 0 then [(r - b * y).tdiv (2 * a)] else []
def acr (a b y sq : Int) : List Int := if sqr sq * sqr sq = sq then (if sqr sq = 0 then ac1 a b y 0 else ac1 a b y (-sqr sq) ++ ac1 a b y (sqr sq)) else []

theorem mem_ac1 {a b y r x : Int} (ha : 1 ≤ a) : x ∈ ac1 a b y r ↔ 2 * a * x + b * y = r := by
  unfold ac1
  have h0 := Int.mul_tdiv_add_tmod (r - b * y) (2 * a)
  split
  · rename_i h
    rw [h] at h0
    simp only [List.mem_singleton]
    constructor
    · rintro rfl; omega
    · intro h1
      have : r - b * y = x * (2 * a) := by rw [Int.mul_comm x]; omega
      rw [this, Int.mul_tdiv_cancel _ (by omega)]
  · rename_i h
    constructor
    · intro h1; simp at h1
    · intro h1
      exfalso
      apply h
      have : r - b * y = x * (2 * a) := by rw [Int.mul_comm x]; omega
      rw [this]; exact Int.mul_tmod_left ..
theorem mem_acr {a b y sq x : Int} (ha : 1 ≤ a) : x ∈ acr a b y sq ↔ (2 * a * x + b * y) * (2 * a * x + b * y) = sq := by
  unfold acr
  generalize ht : 2 * a * x + b * y = t
  constructor
  · intro h
    split at h
    · rename_i h1
      split at h
      · rename_i h2
        rw [mem_ac1 ha, ht] at h
        rw [h2] at h1; subst h; exact h1
      · rw [List.mem_append, mem_ac1 ha, mem_ac1 ha, ht] at h
        rcases h with h | h
        · rw [h, Int.neg_mul_neg]; exact h1
        · rw [h]; exact h1
    · simp at h
  · rintro rfl
    have e := sqr_sq (t := t)
    rw [e]
    have e2 : (t.natAbs : Int) * (t.natAbs : Int) = t * t := by simp [Int.natAbs_mul_self']
    rw [if_pos e2]
    split
    · rw [mem_ac1 ha, ht]; omega
    · rw [List.mem_append, mem_ac1 ha, mem_ac1 ha, ht]; omega
theorem ac1_nodup (a b y r : Int) : (ac1 a b y r).Nodup := by unfold ac1; split <;> simp
theorem ac1_len (a b y r : Int) : (ac1 a b y r).length ≤ 1 := by unfold ac1; split <;> simp
theorem acr_nodup {a b y sq : Int} (ha : 1 ≤ a) : (acr a b y sq).Nodup := by
  unfold acr
  split
  · split
    · exact ac1_nodup ..
    · rename_i h1 h2
      refine List.nodup_append.2 ⟨ac1_nodup .., ac1_nodup .., fun x hx z hz e => ?_⟩
      subst e
      rw [mem_ac1 ha] at hx hz
      omega
  · simp
theorem acr_len (a b y sq : Int) : (acr a b y sq).length ≤ 2 := by
  unfold acr
  have h1 := ac1_len a b y 0
  have h2 := ac1_len a b y (-sqr sq)
  have h3 := ac1_len a b y (sqr sq)
  split
  · split
    · omega
    · rw [List.length_append]; omega
  · simp

/-- 4 A n, as a square and the rest. -/
theorem four_an (g : Qf) (x y : Int) : 4 * g.a * g.at x y = (2 * g.a * x + g.b * y) * (2 * g.a * x + g.b * y) + -g.disc * y * y := by
  unfold Qf.at Qf.disc; grind
theorem at_iff {g : Qf} (ha : 1 ≤ g.a) {x y n : Int} : g.at x y = n ↔ (2 * g.a * x + g.b * y) * (2 * g.a * x + g.b * y) = 4 * g.a * n - -g.disc * y * y := by
  have h := four_an g x y
  constructor
  · rintro rfl; omega
  · intro h1
    refine Int.eq_of_mul_eq_mul_left (a := 4 * g.a) (by omega) ?_
    omega

/-- One row, turned back. -/
def prow (g : Qf) (m : Mt) (n y : Int) : List (Int × Int) := (acr g.a g.b y (4 * g.a * n - -g.disc * y * y)).map fun x => (m.p * x + m.q * y, m.r * x + m.s * y)
/-- The first k rows from -M on. -/
def prows (g : Qf) (m : Mt) (n M : Int) (k : Nat) : List (Int × Int) := (List.range k).flatMap fun i : Nat => prow g m n ((i : Int) - M)
theorem prows_succ (g : Qf) (m : Mt) (n M : Int) (k : Nat) : prows g m n M (k + 1) = prows g m n M k ++ prow g m n ((k : Int) - M) := by
  unfold prows; rw [List.range_succ, List.flatMap_append]; simp
theorem prow_len (g : Qf) (m : Mt) (n y : Int) : (prow g m n y).length ≤ 2 := by unfold prow; rw [List.length_map]; exact acr_len ..
theorem prows_len (g : Qf) (m : Mt) (n M : Int) : ∀ k, (prows g m n M k).length ≤ 2 * k
  | 0 => by simp [prows]
  | k + 1 => by
    rw [prows_succ, List.length_append]
    have := prows_len g m n M k
    have := prow_len g m n ((k : Int) - M)
    omega
theorem mem_prow {g : Qf} {m : Mt} {n y : Int} (ha : 1 ≤ g.a) {a : Int × Int} : a ∈ prow g m n y ↔ ∃ x, g.at x y = n ∧ a = (m.p * x + m.q * y, m.r * x + m.s * y) := by
  unfold prow
  rw [List.mem_map]
  constructor
  · rintro ⟨x, hx, rfl⟩
    exact ⟨x, (at_iff ha).2 ((mem_acr ha).1 hx), rfl⟩
  · rintro ⟨x, hx, rfl⟩
    exact ⟨x, (mem_acr ha).2 ((at_iff ha).1 hx), rfl⟩

theorem turn_inj {m : Mt} (hd : m.p * m.s - m.q * m.r = 1) {x y x' y' : Int} (h1 : m.p * x + m.q * y = m.p * x' + m.q * y') (h2 : m.r * x + m.s * y = m.r * x' + m.s * y') : x = x' ∧ y = y' := by
  have e1 : (m.p * m.s - m.q * m.r) * x = (m.p * m.s - m.q * m.r) * x' := by
    have a1 : m.s * (m.p * x + m.q * y) = m.s * (m.p * x' + m.q * y') := by rw [h1]
    have a2 : m.q * (m.r * x + m.s * y) = m.q * (m.r * x' + m.s * y') := by rw [h2]
    grind
  have e2 : (m.p * m.s - m.q * m.r) * y = (m.p * m.s - m.q * m.r) * y' := by
    have a1 : m.r * (m.p * x + m.q * y) = m.r * (m.p * x' + m.q * y') := by rw [h1]
    have a2 : m.p * (m.r * x + m.s * y) = m.p * (m.r * x' + m.s * y') := by rw [h2]
    grind
  rw [hd] at e1 e2
  omega

theorem prow_nodup {g : Qf} {m : Mt} {n y : Int} (ha : 1 ≤ g.a) (hd : m.p * m.s - m.q * m.r = 1) : (prow g m n y).Nodup := by
  unfold prow
  refine List.Pairwise.map _ (fun a b hab e => ?_) (acr_nodup ha)
  simp only [Prod.mk.injEq] at e
  exact hab (turn_inj hd e.1 e.2).1
theorem prows_nodup {g : Qf} {m : Mt} {n M : Int} (ha : 1 ≤ g.a) (hd : m.p * m.s - m.q * m.r = 1) : ∀ k, (prows g m n M k).Nodup
  | 0 => by simp [prows]
  | k + 1 => by
    rw [prows_succ]
    refine List.nodup_append.2 ⟨prows_nodup ha hd k, prow_nodup ha hd, fun a h1 b h2 e => ?_⟩
    subst e
    unfold prows at h1
    rw [List.mem_flatMap] at h1
    obtain ⟨i, hi, h1⟩ := h1
    rw [List.mem_range] at hi
    rw [mem_prow ha] at h1 h2
    obtain ⟨x, _, rfl⟩ := h1
    obtain ⟨x', _, e⟩ := h2
    simp only [Prod.mk.injEq] at e
    have := (turn_inj hd e.1 e.2).2
    omega

/-- All of them. -/
theorem prows_all {f g : Qf} {m : Mt} {n D M : Int} (h : Rd f g m) (ha : 1 ≤ g.a) (hD : -g.disc = D) (hD0 : 1 ≤ D) (hn : 0 ≤ n) (hM : M = sqr ((4 * g.a * n).tdiv D)) {k : Nat} (hk : (k : Int) = 2 * M + 1) {l : List (Int × Int)} (hp : l.Perm (prows g m n M k)) (hs : l.Pairwise plt) : Pts f n l := by
  have key : ∀ a, a ∈ prows g m n M k ↔ f.at a.1 a.2 = n := fun a => by
    unfold prows
    rw [List.mem_flatMap]
    constructor
    · rintro ⟨i, _, ha2⟩
      rw [mem_prow ha] at ha2
      obtain ⟨x, hx, rfl⟩ := ha2
      rw [← hx]; exact h.like x _
    · intro he
      obtain ⟨X, Y⟩ := a
      simp only [] at he
      have hb := h.back X Y
      rw [he] at hb
      obtain ⟨x, hx⟩ : ∃ x, x = m.s * X - m.q * Y := ⟨_, rfl⟩
      obtain ⟨y, hy⟩ : ∃ y, y = m.p * Y - m.r * X := ⟨_, rfl⟩
      rw [← hx, ← hy] at hb
      have h4 := four_an g x y
      rw [← hb, hD] at h4
      have h5 := sq_nn (2 * g.a * x + g.b * y)
      have h6 : y * y * D ≤ 4 * g.a * n := by
        have : D * y * y = y * y * D := by grind
        omega
      have h7 : y * y ≤ (4 * g.a * n).tdiv D := by
        rw [Int.tdiv_eq_ediv_of_nonneg (Int.mul_nonneg (by omega) hn)]
        exact (Int.le_ediv_iff_mul_le (by omega)).2 h6
      have h8 := le_sqr h7
      rw [← hM] at h8
      refine ⟨(y + M).toNat, List.mem_range.2 (by omega), ?_⟩
      have e : (((y + M).toNat : Nat) : Int) - M = y := by omega
      rw [e, mem_prow ha]
      refine ⟨x, hb.symm, ?_⟩
      have hdt := h.det
      simp only [Prod.mk.injEq]
      constructor
      · have : (m.p * m.s - m.q * m.r) * X = 1 * X := by rw [hdt]
        rw [hx, hy]; grind
      · have : (m.p * m.s - m.q * m.r) * Y = 1 * Y := by rw [hdt]
        rw [hx, hy]; grind
  exact ⟨fun a ha => (key a).1 (hp.mem_iff.1 ha), fun x y hxy => hp.mem_iff.2 ((key (x, y)).2 hxy), hs⟩
end Go.Proofs.Ytijkanilpblogae
end

section
/- Plain facts of the program's genus: a unit among the values, and that the first form's units make all. -/
set_option linter.unusedSimpArgs false
set_option linter.unusedVariables false
set_option maxRecDepth 100000
namespace Go.Proofs.Ytijkanilpblogae
namespace MQ
variable {s n : Int}

theorem Cp.self_one {d : Int} (h0 : 1 ≤ d) (h : Cp d d) : d = 1 := cp_pos_one h h0
theorem cp_of_common {a b : Int} (hb : 1 ≤ b) (h : ∀ d : Int, 1 ≤ d → d ∣ a → d ∣ b → d = 1) : Cp a b := by
  refine Cp.of_gcd ?_
  have h1 : (Int.gcd a b : Int) ∣ a := Int.gcd_dvd_left ..
  have h2 : (Int.gcd a b : Int) ∣ b := Int.gcd_dvd_right ..
  have h3 : Int.gcd a b ≠ 0 := fun e => by have := (Int.gcd_eq_zero_iff.1 e).2; omega
  have := h _ (by omega) h1 h2
  omega
theorem gcd_dvd_ex (a b : Int) (hb : 1 ≤ a) : ∃ g : Int, 1 ≤ g ∧ g ∣ a ∧ g ∣ b ∧ (g = 1 → Cp a b) := by
  refine ⟨Int.gcd a b, ?_, Int.gcd_dvd_left .., Int.gcd_dvd_right .., fun e => Cp.of_gcd (by omega)⟩
  have : Int.gcd a b ≠ 0 := fun e => by have := (Int.gcd_eq_zero_iff.1 e).1; omega
  omega

/-- What divides D and a value at y = 1 has no divisor with A. -/
theorem cp_a {f : Qf} {D x d : Int} (pf : Pm f) (hD : f.b * f.b = 4 * f.a * f.c - D) (h0 : 1 ≤ d) (h1 : d ∣ D) (h2 : d ∣ f.at x 1) : Cp d f.a := by
  obtain ⟨q, q0, q1, q2, q3⟩ := gcd_dvd_ex d f.a h0
  refine q3 ?_
  obtain ⟨r, r0, r1, r2, r3⟩ := gcd_dvd_ex q f.b q0
  have e1 : r = 1 := by
    obtain ⟨X, Y, Z, e⟩ := pf
    have ra : r ∣ f.a := Int.dvd_trans r1 q2
    have rc : r ∣ f.c := by
      have h3 : r ∣ f.at x 1 := Int.dvd_trans r1 (Int.dvd_trans q1 h2)
      have h4 : f.c = f.at x 1 - (x * x * f.a + x * f.b) := by simp only [Qf.at]; grind
      rw [h4]
      exact Int.dvd_sub h3 (Int.dvd_add (Int.dvd_trans ra (Int.dvd_mul_left ..)) (Int.dvd_trans r2 (Int.dvd_mul_left ..)))
    have : r ∣ 1 := by
      rw [← e]
      exact Int.dvd_add (Int.dvd_add (Int.dvd_trans ra (Int.dvd_mul_left ..)) (Int.dvd_trans r2 (Int.dvd_mul_left ..))) (Int.dvd_trans rc (Int.dvd_mul_left ..))
    have := Int.le_of_dvd (by decide) this
    omega
  have e2 := (r3 e1).mul (r3 e1)
  have e3 : q ∣ f.b * f.b := by
    rw [hD]
    exact Int.dvd_sub (Int.dvd_trans (Int.dvd_trans q2 (Int.dvd_mul_left 4 f.a)) (Int.dvd_mul_right ..)) (Int.dvd_trans q1 h1)
  exact (e2.of_dvd e3).self_one q0

theorem unit_ex {f : Qf} {D : Int} (pf : Pm f) (hD : f.b * f.b = 4 * f.a * f.c - D) (h0 : 1 ≤ D) : ∃ x : Int, Cp (f.at x 1) D := by
  obtain ⟨u, v, e1, u0, v0, cu, sv⟩ := split_by f.a D.toNat D (by omega) h0
  obtain ⟨p, t, e2, p0, t0, cp2, st⟩ := split_by 2 u.toNat u (by omega) u0
  -- p: odd, without a divisor with a
  have cpa : Cp (2 * f.a) p := by
    have h1 : Cp p f.a := by
      have := cu.symm
      rw [e2] at this
      exact (this.of_mul).symm
    exact (cp2.mul h1).symm
  obtain ⟨X, Y, hXY⟩ := cpa
  -- x = X (1 - b) + p z, of the right parity
  have key : ∀ z : Int, Cp (f.at (X * (1 - f.b) + p * z) 1) p := fun z => by
    have h4 : 4 * f.a * f.at (X * (1 - f.b) + p * z) 1 = (2 * f.a * (X * (1 - f.b) + p * z) + f.b) * (2 * f.a * (X * (1 - f.b) + p * z) + f.b) + D := by
      simp only [Qf.at]; grind
    have h5 : 2 * f.a * (X * (1 - f.b) + p * z) + f.b = 1 + p * (2 * f.a * z - Y * (1 - f.b)) := by
      have : X * (2 * f.a) = 1 - Y * p := by omega
      have h6 : 2 * f.a * (X * (1 - f.b)) = (X * (2 * f.a)) * (1 - f.b) := by grind
      rw [Int.mul_add, h6, this]; grind
    rw [h5, e1, e2] at h4
    generalize f.at (X * (1 - f.b) + p * z) 1 = F at *
    generalize 2 * f.a * z - Y * (1 - f.b) = W at *
    exact ⟨4 * f.a, -(2 * W + p * (W * W) + t * v), by grind⟩
  have odd : ∃ z : Int, (2 ∣ D → Cp (f.at (X * (1 - f.b) + p * z) 1) 2) := by
    by_cases h2 : (2 : Int) ∣ D
    · obtain ⟨D2, hD2⟩ := h2
      -- b is even
      have hb : f.b % 2 = 0 := by
        have h6 : f.b * f.b = 2 * (2 * (f.a * f.c) - D2) := by rw [hD, hD2]; grind
        rcases Int.emod_two_eq f.b with h | h
        · exact h
        · have h7 := Int.emod_add_mul_ediv f.b 2
          rw [h] at h7
          rw [← h7] at h6
          generalize f.b / 2 = q at h6
          have : (1 + 2 * q) * (1 + 2 * q) = 2 * (2 * (q * q) + 2 * q) + 1 := by grind
          omega
      have hpo : p % 2 = 1 := by
        obtain ⟨a, b, e⟩ := cp2
        rcases Int.emod_two_eq p with h | h
        · have h7 := Int.emod_add_mul_ediv p 2
          rw [h] at h7
          rw [← h7] at e
          have : a * (0 + 2 * (p / 2)) + b * 2 = 2 * (a * (p / 2) + b) := by grind
          omega
        · exact h
      have par : ∀ x : Int, f.at x 1 % 2 = (x * f.a + f.c) % 2 := fun x => by
        obtain ⟨b2, hb2⟩ : ∃ b2, f.b = 2 * b2 := ⟨f.b / 2, by omega⟩
        simp only [Qf.at]
        rw [hb2]
        have h8 : ∃ m, x * x = 2 * m + x := by
          rcases Int.emod_two_eq x with h | h
          · exact ⟨(x / 2) * x - x / 2, by have := Int.emod_add_mul_ediv x 2; rw [h] at this; generalize x / 2 = q at *; subst this; grind⟩
          · exact ⟨(x / 2) * x, by have := Int.emod_add_mul_ediv x 2; rw [h] at this; generalize x / 2 = q at *; subst this; grind⟩
        obtain ⟨m, hm⟩ := h8
        rw [hm]
        have : (2 * m + x) * f.a + x * 1 * (2 * b2) + 1 * 1 * f.c = 2 * (m * f.a + x * b2) + (x * f.a + f.c) := by grind
        rw [this]; omega
      have two : ∀ F : Int, F % 2 = 1 → Cp F 2 := fun F h => ⟨1, -(F / 2), by omega⟩
      obtain ⟨Xp, Yp, Zp, ep⟩ := pf
      have nac : ¬ (f.a % 2 = 0 ∧ f.c % 2 = 0) := fun ⟨h1, h3⟩ => by
        obtain ⟨a2, ha2⟩ : ∃ a2, f.a = 2 * a2 := ⟨f.a / 2, by omega⟩
        obtain ⟨b2, hb2⟩ : ∃ b2, f.b = 2 * b2 := ⟨f.b / 2, by omega⟩
        obtain ⟨c2, hc2⟩ : ∃ c2, f.c = 2 * c2 := ⟨f.c / 2, by omega⟩
        rw [ha2, hb2, hc2] at ep
        have : Xp * (2 * a2) + Yp * (2 * b2) + Zp * (2 * c2) = 2 * (Xp * a2 + Yp * b2 + Zp * c2) := by grind
        omega
      obtain ⟨p2, hp2⟩ : ∃ p2, p = 1 + 2 * p2 := ⟨p / 2, by omega⟩
      -- the two choices differ by p, which is odd
      have ch : (f.at (X * (1 - f.b) + p * 0) 1) % 2 = 1 ∨ (f.at (X * (1 - f.b) + p * 1) 1) % 2 = 1 := by
        rw [par, par]
        generalize X * (1 - f.b) = x0
        have e5 : (x0 + p * 1) * f.a + f.c = (x0 + p * 0) * f.a + f.c + f.a + 2 * (p2 * f.a) := by rw [hp2]; grind
        rw [e5]
        rcases Int.emod_two_eq f.a with ha | ha
        · have hc : f.c % 2 = 1 := by
            rcases Int.emod_two_eq f.c with h | h
            · exact absurd ⟨ha, h⟩ nac
            · exact h
          left
          obtain ⟨a2, ha2⟩ : ∃ a2, f.a = 2 * a2 := ⟨f.a / 2, by omega⟩
          have : (x0 + p * 0) * f.a = 2 * (x0 * a2) := by rw [ha2]; grind
          rw [this]; omega
        · generalize (x0 + p * 0) * f.a = A0
          generalize p2 * f.a = A1
          omega
      rcases ch with h | h
      · exact ⟨0, fun _ => two _ h⟩
      · exact ⟨1, fun _ => two _ h⟩
    · exact ⟨0, fun h => absurd h h2⟩
  obtain ⟨z, hz⟩ := odd
  obtain ⟨x, hx⟩ : ∃ x, x = X * (1 - f.b) + p * z := ⟨_, rfl⟩
  rw [← hx] at hz
  have kp := key z
  rw [← hx] at kp
  refine ⟨x, ?_⟩
  -- three parts of D
  have kt : Cp (f.at x 1) t := by
    by_cases h2 : (2 : Int) ∣ D
    · exact st _ (hz h2)
    · -- t is odd and smooth over 2: it is 1
      have : Cp t 2 := by
        rcases Int.emod_two_eq t with h | h
        · exfalso
          apply h2
          rw [e1, e2]
          obtain ⟨t2, ht2⟩ : ∃ t2, t = 2 * t2 := ⟨t / 2, by omega⟩
          exact ⟨p * t2 * v, by rw [ht2]; grind⟩
        · exact ⟨1, -(t / 2), by omega⟩
      have := (st _ this).self_one t0
      rw [this]; exact Cp.one _
  have kv : Cp (f.at x 1) v := by
    refine cp_of_common v0 fun d d0 d1 d2 => ?_
    have hdD : d ∣ D := by rw [e1]; exact Int.dvd_trans d2 (Int.dvd_mul_left ..)
    have h1 := cp_a pf hD d0 hdD d1
    have h2 := sv d h1
    exact (h2.of_dvd d2).self_one d0
  rw [e1, e2]
  exact (kp.mul kt).mul kv

theorem Eqm.cp {D a b : Int} (h : Eqm D a b) (k : Cp a D) : Cp b D := by
  obtain ⟨z, hz⟩ := h
  obtain ⟨x, y, e⟩ := k
  exact ⟨x, y + x * z, by have : a = b + D * z := by omega
                          rw [this] at e; grind⟩
/-- .. not far from 1. -/
theorem unit_near {f : Qf} {D : Int} (pf : Pm f) (hD : f.b * f.b = 4 * f.a * f.c - D) (h0 : 1 ≤ D) : ∃ x : Int, 1 ≤ x ∧ x ≤ D ∧ Cp (f.at x 1) D := by
  obtain ⟨x, hx⟩ := unit_ex pf hD h0
  have h1 := Int.emod_nonneg (x - 1) (show D ≠ 0 by omega)
  have h2 := Int.emod_lt_of_pos (x - 1) (show 0 < D by omega)
  have h3 := Int.emod_add_mul_ediv (x - 1) D
  refine ⟨(x - 1) % D + 1, by omega, by omega, ?_⟩
  refine Eqm.cp ?_ hx
  have e : x = (x - 1) % D + 1 + D * ((x - 1) / D) := by omega
  generalize (x - 1) % D + 1 = y at e ⊢
  generalize (x - 1) / D = k at e
  refine ⟨f.a * (2 * y * k + D * (k * k)) + f.b * k, ?_⟩
  rw [e]; simp only [Qf.at]; grind

/-- The rests of f: one of them, times those of the first form. -/
theorem genus_is {f o : Qf} {D x0 v : Int} (hf : 0 < f.a) (hd : f.disc < 0) (ho : Fst f o) (cp : Cp (f.at x0 1) D) (cv : Cp v D) : Vl D f v ↔ ∃ m, Vl D o m ∧ Cp m D ∧ Eqm D (f.at x0 1 * m) v := by
  obtain ⟨s, n, hs, e⟩ := disc_sn f
  obtain ⟨ok, _⟩ := ho.root hs e
  have oa := ho.a
  obtain ⟨f', hf'⟩ : ∃ f' : Qf, f' = ⟨f.at x0 1, -(2 * f.a * x0 + f.b), f.a⟩ := ⟨_, rfl⟩
  have lk : Lk f f' ⟨x0, -1, 1, 0⟩ := by
    refine ⟨by simp, fun x y => ?_⟩
    rw [hf']; simp only [Qf.at]; grind
  have fd : f'.disc = f.disc := by rw [hf']; simp only [Qf.disc, Qf.at]; grind
  have fa' : f'.a = f.at x0 1 := by rw [hf']
  have hpos : 0 < f'.a := by
    rw [fa']
    have h4 := four_an f x0 1
    have h5 := sq_nn (2 * f.a * x0 + f.b * 1)
    have h6 : 0 < 4 * f.a * f.at x0 1 := by
      have : -f.disc * 1 * 1 = -f.disc := by grind
      omega
    rcases Int.lt_or_le 0 (f.at x0 1) with h | h
    · exact h
    · have := Int.mul_nonpos_of_nonneg_of_nonpos (show 0 ≤ 4 * f.a by omega) h
      omega
  have k' := Fk.of hpos hs (fd.trans e)
  have g1 : Vl D f v ↔ Vl D o (f.at x0 1 * v) := (Vl.iff lk).trans (genus_a k' ok oa fa' cp)
  rw [g1]
  generalize f.at x0 1 = a at *
  obtain ⟨t, ht⟩ := inv_ex cp
  constructor
  · intro h
    have h1 := Vl.mul ok oa (Vl.sq (D := D) ok oa t) h
    have e1 : Eqm D (a * (t * t * (a * v))) v := by
      have := (ht.mul ht).mul (Eqm.refl D v)
      have e2 : a * t * (a * t) * v = a * (t * t * (a * v)) := by grind
      rw [e2] at this
      simpa using this
    refine ⟨t * t * (a * v), h1, ?_, e1⟩
    -- coprime: a times it is v
    have c1 := e1.symm.cp cv
    exact ((Cp.symm c1).of_dvd (Int.dvd_mul_left ..)).symm
  · rintro ⟨m, h1, _, h3⟩
    have h2 := Vl.mul ok oa (Vl.sq (D := D) ok oa a) h1
    refine h2.eqm ?_
    have := (Eqm.refl D a).mul h3
    have e2 : a * (a * m) = a * a * m := by grind
    rw [e2] at this
    exact this

/-- It is enough to go through y of 0 and 1. -/
theorem first_two {o : Qf} {D : Nat} {v : Int} (oa : o.a = 1) (ob : o.b = (D : Int) % 2) (oc : 4 * o.c = (D : Int) + o.b) (hD : 1 ≤ D) (h : Vl (D : Int) o v) : ∃ (x y : Nat), x < D ∧ y < 2 ∧ Eqm (D : Int) (o.at x y) v := by
  obtain ⟨x, y, e⟩ := h
  have red : ∀ (x y : Int), ∃ x' : Nat, x' < D ∧ Eqm (D : Int) (o.at x' y) (o.at x y) := fun x y => by
    have h1 := Int.emod_nonneg x (show (D : Int) ≠ 0 by omega)
    have h2 := Int.emod_lt_of_pos x (show 0 < (D : Int) by omega)
    have h3 := Int.emod_add_mul_ediv x (D : Int)
    refine ⟨(x % (D : Int)).toNat, by omega, ?_⟩
    rw [Int.toNat_of_nonneg h1]
    generalize x % (D : Int) = x0 at *
    generalize x / (D : Int) = k at *
    refine ⟨-(o.a * (2 * x0 * k + D * (k * k)) + o.b * (k * y)), ?_⟩
    rw [← h3]; simp only [Qf.at]; grind
  rcases (show (D : Int) % 2 = 0 ∨ (D : Int) % 2 = 1 by omega) with h0 | h0
  · rw [h0] at ob
    rw [ob] at oc
    -- even: y^2 leaves 0 or 1 by 4
    obtain ⟨y2, hy2⟩ : ∃ q, y = 2 * q + y % 2 := ⟨y / 2, by omega⟩
    obtain ⟨x', hx', e'⟩ := red x (y % 2)
    have e1 : Eqm (D : Int) (o.at x (y % 2)) (o.at x y) := by
      rw [hy2]
      have : (2 * y2 + y % 2) % 2 = y % 2 := by omega
      rw [this]
      generalize y % 2 = r
      refine ⟨-(y2 * y2 + y2 * r), ?_⟩
      simp only [Qf.at, oa, ob]
      have : (D : Int) = 4 * o.c := by omega
      rw [this]; grind
    refine ⟨x', (y % 2).toNat, hx', by omega, ?_⟩
    have e2 : (((y % 2).toNat : Nat) : Int) = y % 2 := by omega
    rw [e2]
    exact (e'.trans e1).trans e
  · rw [h0] at ob
    rw [ob] at oc
    -- odd: all are squares
    obtain ⟨h2, hh⟩ : ∃ q : Int, (D : Int) = 2 * q - 1 := ⟨((D : Int) + 1) / 2, by omega⟩
    -- the half of 1 is h2
    obtain ⟨x', hx', e'⟩ := red (h2 * (2 * x + y)) 0
    have e1 : Eqm (D : Int) (o.at (h2 * (2 * x + y)) 0) (o.at x y) := by
      have h3 : o.at (h2 * (2 * x + y)) 0 = h2 * h2 * ((2 * x + y) * (2 * x + y)) := by simp only [Qf.at, oa]; grind
      have h4 : 4 * o.at x y = (2 * x + y) * (2 * x + y) + D * (y * y) := by
        simp only [Qf.at, oa, ob]
        have : 4 * (x * x * 1 + x * y * 1 + y * y * o.c) = 4 * (x * x) + 4 * (x * y) + y * y * (4 * o.c) := by grind
        rw [this, oc]; grind
      rw [h3]
      have h5 : (2 * x + y) * (2 * x + y) = 4 * o.at x y - D * (y * y) := by omega
      rw [h5]
      generalize o.at x y = V
      -- 4 h2^2 = (D + 1)^2
      have h6 : 2 * h2 = D + 1 := by omega
      refine ⟨(D + 2) * V - h2 * h2 * (y * y), ?_⟩
      have h7 : h2 * h2 * (4 * V - D * (y * y)) = (2 * h2) * (2 * h2) * V - D * (h2 * h2 * (y * y)) := by grind
      rw [h7, h6]; grind
    refine ⟨x', 0, hx', by omega, ?_⟩
    exact (e'.trans e1).trans e
end MQ
end Go.Proofs.Ytijkanilpblogae
end

section
/- The program: value, isUnit, formOfOne, unitValue. -/
set_option linter.unusedSimpArgs false
set_option linter.unusedVariables false
set_option maxRecDepth 100000
namespace Go.Proofs.Ytijkanilpblogae
open Go.RowKit

theorem mul_bd {x y M N : Int} (hM : 0 ≤ M) (hN : 0 ≤ N) (h1 : -M ≤ x ∧ x ≤ M) (h2 : -N ≤ y ∧ y ≤ N) : -(M * N) ≤ x * y ∧ x * y ≤ M * N := by
  have y1 : (x * y).natAbs = x.natAbs * y.natAbs := Int.natAbs_mul ..
  have y2 : x.natAbs * y.natAbs ≤ M.natAbs * N.natAbs := Nat.mul_le_mul (by omega) (by omega)
  have y3 : ((M.natAbs * N.natAbs : Nat) : Int) = M * N := by rw [Int.natCast_mul, Int.natAbs_of_nonneg hM, Int.natAbs_of_nonneg hN]
  omega

set_option maxHeartbeats 2000000 in
theorem value_any (f : Qf) (x y : Int) (w : World) (hf : f.upto 1000000) (hx : -2000 ≤ x ∧ x ≤ 2000) (hy : -2000 ≤ y ∧ y ≤ 2000) :
    Calls Try.prog 70 #[f.v, .int .i64 x, .int .i64 y] w fun e w' => e = .returned (.int .i64 (f.at x y)) ∧ Below w.heap.size w w' := by
  obtain ⟨a, b, c⟩ := f
  obtain ⟨u1, u2, u3, u4, u5, u6⟩ := hf
  simp only [] at u1 u2 u3 u4 u5 u6
  obtain ⟨A1, hA1⟩ : ∃ A, a * x = A := ⟨_, rfl⟩
  obtain ⟨A2, hA2⟩ : ∃ A, A1 * x = A := ⟨_, rfl⟩
  obtain ⟨B1, hB1⟩ : ∃ A, b * x = A := ⟨_, rfl⟩
  obtain ⟨B2, hB2⟩ : ∃ A, B1 * y = A := ⟨_, rfl⟩
  obtain ⟨C1, hC1⟩ : ∃ A, c * y = A := ⟨_, rfl⟩
  obtain ⟨C2, hC2⟩ : ∃ A, C1 * y = A := ⟨_, rfl⟩
  have k1 := mul_bd (M := 1000000) (N := 2000) (x := a) (y := x) (by decide) (by decide) ⟨u1, u2⟩ hx
  have k2 := mul_bd (M := 1000000) (N := 2000) (x := b) (y := x) (by decide) (by decide) ⟨u3, u4⟩ hx
  have k3 := mul_bd (M := 1000000) (N := 2000) (x := c) (y := y) (by decide) (by decide) ⟨u5, u6⟩ hy
  rw [hA1] at k1
  rw [hB1] at k2
  rw [hC1] at k3
  have k4 := mul_bd (M := 2000000000) (N := 2000) (x := A1) (y := x) (by decide) (by decide) (by omega) hx
  have k5 := mul_bd (M := 2000000000) (N := 2000) (x := B1) (y := y) (by decide) (by decide) (by omega) hy
  have k6 := mul_bd (M := 2000000000) (N := 2000) (x := C1) (y := y) (by decide) (by decide) (by omega) hy
  rw [hA2] at k4
  rw [hB2] at k5
  rw [hC2] at k6
  have e : Qf.at ⟨a, b, c⟩ x y = A2 + B2 + C2 := by rw [← hA2, ← hB2, ← hC2, ← hA1, ← hB1, ← hC1]; simp only [Qf.at]; grind
  rw [e]
  clear e
  unfold Qf.v
  go_enter Try.func70, Try.ntmps70
  go_wp2
  go_ret
  exact ⟨rfl, al1 _ _⟩

set_option maxHeartbeats 2000000 in
theorem isUnit_any (n D : Int) (w : World) (hn : n.natAbs ≤ 1000000000000000000) (hD : D.natAbs ≤ 1000000000000000000) :
    Calls Try.prog 69 #[.int .i64 n, .int .i64 D] w fun e w' => e = .returned (.bool ((Int.gcd n D : Int) == 1)) ∧ Below w.heap.size w w' := by
  have HG : Hid (∀ w, Calls Try.prog 64 #[.int .i64 n, .int .i64 D] w fun e w' => e = .returned (.tuple #[.int .i64 (Int.gcd n D : Int), .agg #[.int .i64 0, .int .i64 0]]) ∧ Below w.heap.size w w') := fun w => Gcd_ok _ _ w (okB_of hn hD)
  obtain ⟨G, hG⟩ : ∃ G : Int, (Int.gcd n D : Int) = G := ⟨_, rfl⟩
  rw [hG] at HG ⊢
  clear hG hn hD
  go_enter Try.func69, Try.ntmps69
  go_wp2_with fail
  refine (HG.out _).mono ?_
  rintro e w1 ⟨rfl, k1⟩
  have HK : Hid (Below w.heap.size w w1) := k1
  clear k1
  go_wp2
  go_ret
  exact ⟨rfl, HK.out.trans ((al1 _ _).mono HK.out.size)⟩

set_option maxHeartbeats 2000000 in
theorem formOfOne_any (D : Int) (w : World) (hD : 0 ≤ D ∧ D ≤ 1000000) : Calls Try.prog 71 #[.int .i64 D] w fun e w' => e = .returned (Qf.v ⟨1, D % 2, (D + D % 2) / 4⟩) ∧ Below w.heap.size w w' := by
  obtain ⟨R, hR⟩ : ∃ R, D.tmod 2 = R := ⟨_, rfl⟩
  obtain ⟨C, hC⟩ : ∃ C, (D + R).tdiv 4 = C := ⟨_, rfl⟩
  have h1 : D % 2 = R := by rw [← hR]; exact (Int.tmod_eq_emod_of_nonneg hD.1).symm
  have hR2 : 0 ≤ R ∧ R ≤ 1 := by omega
  have h2 : (D + D % 2) / 4 = C := by rw [h1, ← hC]; exact (Int.tdiv_eq_ediv_of_nonneg (by omega)).symm
  rw [h1] at h2 ⊢
  rw [h2]
  have hC2 : 0 ≤ C ∧ C ≤ 1000000 := by omega
  have hR3 : D % 2 = R := h1
  clear h1 h2
  unfold Qf.v
  go_enter Try.func71, Try.ntmps71
  go_wp2
  refine bodyPost_ret (v := .agg #[.int .i64 1, .int .i64 R, .int .i64 C]) (by simp [results, Try.results71, go_sem]) rfl ⟨rfl, ?_⟩
  exact al1 _ _

end Go.Proofs.Ytijkanilpblogae
end

section
/- The program: unitValue. -/
set_option linter.unusedSimpArgs false
set_option linter.unusedVariables false
set_option maxRecDepth 100000
namespace Go.Proofs.Ytijkanilpblogae
open Go.RowKit

/-- What the closure reads. -/
structure Uv (bf bs : Nat) (f : Qf) (D : Int) (W : World) : Prop where
  f : Cl bf f.l 32 W
  s : Cl bs [.int .i64 D] 3 W
theorem Uv.below {bf bs : Nat} {f : Qf} {D : Int} {W W' : World} (x : Uv bf bs f D W) (k : Below W.heap.size W W') : Uv bf bs f D W' := ⟨x.f.below k, x.s.below k⟩
abbrev S4u (bf bs : Nat) (f : Qf) (D : Int) (W : World) : Prop :=
  W.cell? ⟨bf, 0, none⟩ = some (.int .i64 f.a) ∧ W.cell? ⟨bf, 1, none⟩ = some (.int .i64 f.b) ∧ W.cell? ⟨bf, 2, none⟩ = some (.int .i64 f.c) ∧ W.cell? ⟨bs, 0, none⟩ = some (.int .i64 D)
theorem s4u_of {bf bs : Nat} {f : Qf} {D : Int} {W : World} (x : Uv bf bs f D W) : S4u bf bs f D W := ⟨x.f.cell 0, x.f.cell 1, x.f.cell 2, x.s.cell 0⟩

theorem at_bd {f : Qf} {x y : Int} (hf : f.upto 1000000) (hx : -2000 ≤ x ∧ x ≤ 2000) (hy : -2000 ≤ y ∧ y ≤ 2000) : (f.at x y).natAbs ≤ 20000000000000 := by
  obtain ⟨u1, u2, u3, u4, u5, u6⟩ := hf
  have k1 := mul_bd (M := 2000) (N := 2000) (x := x) (y := x) (by decide) (by decide) hx hx
  have k2 := mul_bd (M := 2000) (N := 2000) (x := x) (y := y) (by decide) (by decide) hx hy
  have k3 := mul_bd (M := 2000) (N := 2000) (x := y) (y := y) (by decide) (by decide) hy hy
  have k4 := mul_bd (M := 4000000) (N := 1000000) (x := x * x) (y := f.a) (by decide) (by decide) (by omega) ⟨u1, u2⟩
  have k5 := mul_bd (M := 4000000) (N := 1000000) (x := x * y) (y := f.b) (by decide) (by decide) (by omega) ⟨u3, u4⟩
  have k6 := mul_bd (M := 4000000) (N := 1000000) (x := y * y) (y := f.c) (by decide) (by decide) (by omega) ⟨u5, u6⟩
  unfold Qf.at
  omega

set_option maxHeartbeats 2000000 in
theorem closure_any (f : Qf) (D x : Int) (bf bs : Nat) (w : World) (hf : f.upto 1000000) (hD : 0 ≤ D ∧ D ≤ 2000) (hx : 0 ≤ x ∧ x ≤ 2000) (h : Uv bf bs f D w) :
    Calls Try.prog 68 #[.int .i64 x, .pointer (some ⟨bf, 0, none⟩), .pointer (some ⟨bs, 0, none⟩)] w fun e w' => e = .returned (.bool ((Int.gcd (f.at x 1) D : Int) == 1)) ∧ Below w.heap.size w w' := by
  have HV : Hid (∀ w, Calls Try.prog 70 #[f.v, .int .i64 x, .int .i64 1] w fun e w' => e = .returned (.int .i64 (f.at x 1)) ∧ Below w.heap.size w w') := fun w => value_any f x 1 w hf (by omega) (by omega)
  have HU : Hid (∀ w, Calls Try.prog 69 #[.int .i64 (f.at x 1), .int .i64 D] w fun e w' => e = .returned (.bool ((Int.gcd (f.at x 1) D : Int) == 1)) ∧ Below w.heap.size w w') := fun w => isUnit_any _ _ w (by have := at_bd hf (show -2000 ≤ x ∧ x ≤ 2000 by omega) (show -2000 ≤ (1 : Int) ∧ (1 : Int) ≤ 2000 by omega); omega) (by omega)
  obtain ⟨V, hV⟩ : ∃ V, f.at x 1 = V := ⟨_, rfl⟩
  obtain ⟨b, hb⟩ : ∃ b, ((Int.gcd V D : Int) == 1) = b := ⟨_, rfl⟩
  rw [hV] at HV HU ⊢
  rw [hb] at HU ⊢
  clear hV hb hf hD hx
  unfold Qf.v at HV
  have s4 := s4u_of h
  go_enter Try.func68, Try.ntmps68
  go_wp2_with fail
  have N3 := h.below ((Below.refl w.heap.size w).drew)
  refine wp_region_G (S4u bf bs f D) 5 (by kernel_rfl) (s4u_of N3) (fun hHeld => ?_)
  refine wpAnyG_take (i := 0) (v := ?v0x1) rfl (by kernel_rfl) (fun _ _ _ h => h) (Or.inl ⟨by rfl, ?y0x1⟩) hHeld ?r0x1
  case y0x1 => (intro wS hSw; obtain ⟨s1, s2, s3, s5⟩ := hSw; go_simp; try with_reducible rfl)
  try simp only [Act.put, List.setIfInBounds_toArray, List.set_cons_zero, List.set_cons_succ]
  refine wpAnyG_take (i := 1) (v := ?v1x2) rfl (by kernel_rfl) (fun _ _ _ h => h) (Or.inl ⟨by rfl, ?y1x2⟩) hHeld ?r1x2
  case y1x2 => (intro wS hSw; obtain ⟨s1, s2, s3, s5⟩ := hSw; go_simp; try with_reducible rfl)
  try simp only [Act.put, List.setIfInBounds_toArray, List.set_cons_zero, List.set_cons_succ]
  refine wpAnyG_take (i := 3) (v := ?v3x3) rfl (by kernel_rfl) (fun _ _ _ h => h) (Or.inl ⟨by rfl, ?y3x3⟩) hHeld ?r3x3
  case y3x3 => (intro wS hSw; obtain ⟨s1, s2, s3, s5⟩ := hSw; go_simp; try with_reducible rfl)
  try simp only [Act.put, List.setIfInBounds_toArray, List.set_cons_zero, List.set_cons_succ]
  refine wpAnyG_one (i := 2) rfl (by kernel_rfl) (fun K hK => ?_)
  go_simp
  refine (HV.out _).mono ?_
  rintro e ua ⟨rfl, ka⟩
  have N4 := N3.below ka
  refine hK.out _ _ (s4u_of N4) ?_
  clear hK K
  try simp only [Act.put, List.setIfInBounds_toArray, List.set_cons_zero, List.set_cons_succ]
  refine wpAnyG_one (i := 4) rfl (by kernel_rfl) (fun K hK => ?_)
  go_simp
  refine (HU.out _).mono ?_
  rintro e ub ⟨rfl, kb⟩
  have N5 := N4.below kb
  refine hK.out _ _ (s4u_of N5) ?_
  clear hK K
  try simp only [Act.put, List.setIfInBounds_toArray, List.set_cons_zero, List.set_cons_succ]
  clear hHeld
  have hHeld := s4u_of N5
  refine wpAnyG_last (i := 5) rfl (by kernel_rfl) (by kernel_rfl) (fun K hK => ?_)
  go_simp
  refine hK.out _ _ ?_
  clear hK K
  try simp only [Act.put, List.setIfInBounds_toArray, List.set_cons_zero, List.set_cons_succ]
  refine wpAnyG_done (by kernel_rfl) ?_ _
  have HKe : Hid (Below w.heap.size w ub) := (((Below.refl w.heap.size w).drew).trans (ka.mono (Nat.le_refl _))).trans (kb.mono ka.size)
  clear hHeld N3 N4 N5 ka kb
  go_wp2_with fail
  go_ret
  exact ⟨rfl, HKe.out⟩

set_option maxHeartbeats 2000000 in
/-- The least that is one. -/
theorem Least_unit (f : Qf) (D : Int) (bf bs : Nat) (w : World) (hf : f.upto 1000000) (hD : 0 ≤ D ∧ D ≤ 2000) (hex : ∃ x : Nat, 1 ≤ x ∧ x ≤ 2000 ∧ Int.gcd (f.at x 1) D = 1) (h : Uv bf bs f D w) :
    Calls Try.prog 67 #[.func (.func 68) #[] #[.pointer (some ⟨bf, 0, none⟩), .pointer (some ⟨bs, 0, none⟩)]] w fun e w' => (∃ x : Nat, e = .returned (.int .i64 x) ∧ 1 ≤ x ∧ x ≤ 2000 ∧ Int.gcd (f.at x 1) D = 1) ∧ Below w.heap.size w w' := by
  have HC : Hid (∀ (x : Nat) (W : World), x ≤ 2000 → Uv bf bs f D W → Calls Try.prog 68 #[.int .i64 x, .pointer (some ⟨bf, 0, none⟩), .pointer (some ⟨bs, 0, none⟩)] W fun e w' => e = .returned (.bool ((Int.gcd (f.at x 1) D : Int) == 1)) ∧ Below W.heap.size W w') := fun x W hx h => closure_any f D x bf bs W hf hD (by omega) h
  have HX : Hid (∃ x : Nat, 1 ≤ x ∧ x ≤ 2000 ∧ Int.gcd (f.at x 1) D = 1) := hex
  have HU0 : Hid (Uv bf bs f D w) := h
  clear hf hD hex h
  go_enter Try.func67, Try.ntmps67
  go_wp2
  go_loopg [3] 2000 (fun gk nv wx => ∃ n : Nat, nv = .int .i64 n ∧ Hid (gk = 2001 - n ∧ 1 ≤ n ∧ n ≤ 2000 ∧ (∀ m : Nat, 1 ≤ m → m < n → Int.gcd (f.at m 1) D ≠ 1) ∧ Uv bf bs f D wx ∧ Below w.heap.size w wx))
  case atStart => exact ⟨1, rfl, rfl, by omega, by omega, fun m h1 h2 => by omega, HU0.out, Below.refl _ _⟩
  case round =>
    obtain ⟨n, rfl, HR⟩ := hrel
    clear HU0
    have hnb : 1 ≤ n ∧ n ≤ 2000 := ⟨HR.out.2.1, HR.out.2.2.1⟩
    have HCn : Hid (Calls Try.prog 68 #[.int .i64 n, .pointer (some ⟨bf, 0, none⟩), .pointer (some ⟨bs, 0, none⟩)] wr fun e w' => e = .returned (.bool ((Int.gcd (f.at n 1) D : Int) == 1)) ∧ Below wr.heap.size wr w') := HC.out n wr hnb.2 HR.out.2.2.2.2.1
    obtain ⟨b, hb⟩ : ∃ b, ((Int.gcd (f.at n 1) D : Int) == 1) = b := ⟨_, rfl⟩
    rw [hb] at HCn
    have HBb : Hid (((Int.gcd (f.at n 1) D : Int) == 1) = b) := hb
    clear hb
    go_wp2_with fail
    refine HCn.out.mono ?_
    rintro e w1 ⟨rfl, k1⟩
    have HU1 : Hid (Uv bf bs f D w1 ∧ Below w.heap.size w w1) := ⟨HR.out.2.2.2.2.1.below k1, HR.out.2.2.2.2.2.trans (k1.mono HR.out.2.2.2.2.2.size)⟩
    clear k1
    cases b
    · have HN : Hid (n + 1 ≤ 2000 ∧ ∀ m : Nat, 1 ≤ m → m < n + 1 → Int.gcd (f.at m 1) D ≠ 1) := by
        have h1 : Int.gcd (f.at n 1) D ≠ 1 := by
          have := HBb.out
          intro h; rw [h] at this; simp at this
        have h2 : ∀ m : Nat, 1 ≤ m → m < n + 1 → Int.gcd (f.at m 1) D ≠ 1 := fun m m1 m2 => by
          by_cases hm : m = n
          · subst hm; exact h1
          · exact HR.out.2.2.2.1 m m1 (by omega)
        obtain ⟨x, x1, x2, x3⟩ := HX.out
        refine ⟨?_, h2⟩
        rcases Nat.lt_or_ge n x with h | h
        · omega
        · exact absurd x3 (h2 x x1 (by omega))
      go_wp2
      go_roundg (2001 - (n + 1))
      case rel => exact ⟨n + 1, by go_num, rfl, by omega, HN.out.1, HN.out.2, HU1.out.1, HU1.out.2⟩
      case measure => have := HR.out.1; omega
    · go_wp2
      go_ret
      exact ⟨⟨n, rfl, hnb.1, hnb.2, by have := HBb.out; simp at this; omega⟩, HU1.out.2⟩

set_option maxHeartbeats 2000000 in
theorem unitValue_any (f : Qf) (D : Int) (w : World) (hf : f.upto 1000000) (hD : 1 ≤ D ∧ D ≤ 2000) (pf : MQ.Pm f) (hd : -f.disc = D) :
    Calls Try.prog 51 #[f.v, .int .i64 D] w fun e w' => (∃ x : Nat, e = .returned (.int .i64 (f.at x 1)) ∧ x ≤ 2000 ∧ MQ.Cp (f.at x 1) D) ∧ Below w.heap.size w w' := by
  have hex : ∃ x : Nat, 1 ≤ x ∧ x ≤ 2000 ∧ Int.gcd (f.at x 1) D = 1 := by
    obtain ⟨x, x1, x2, x3⟩ := MQ.unit_near pf (D := D) (by have : f.disc = f.b * f.b - 4 * f.a * f.c := rfl; omega) hD.1
    refine ⟨x.toNat, by omega, by omega, ?_⟩
    rw [show ((x.toNat : Nat) : Int) = x by omega]
    exact x3.gcd
  have HL : Hid (∀ bf bs W, Uv bf bs f D W → Calls Try.prog 67 #[.func (.func 68) #[] #[.pointer (some ⟨bf, 0, none⟩), .pointer (some ⟨bs, 0, none⟩)]] W fun e w' => (∃ x : Nat, e = .returned (.int .i64 x) ∧ 1 ≤ x ∧ x ≤ 2000 ∧ Int.gcd (f.at x 1) D = 1) ∧ Below W.heap.size W w') := fun bf bs W h => Least_unit f D bf bs W hf (by omega) hex h
  have HV : Hid (∀ (x : Nat) w, x ≤ 2000 → Calls Try.prog 70 #[f.v, .int .i64 x, .int .i64 1] w fun e w' => e = .returned (.int .i64 (f.at x 1)) ∧ Below w.heap.size w w') := fun x w hx => value_any f x 1 w hf (by omega) (by omega)
  clear hf hD pf hd hex
  unfold Qf.v at HV ⊢
  go_enter Try.func51, Try.ntmps51
  go_wp2_with fail
  obtain ⟨W1, hW1⟩ : ∃ W1, W1 = (w.alloc (.cells #[.int .i64 f.a, .int .i64 f.b, .int .i64 f.c] 32)).alloc (.cells #[.int .i64 D] 3) := ⟨_, rfl⟩
  have U1 : Uv w.heap.size (w.heap.size + 1) f D W1 := by rw [hW1]; exact ⟨(Cl.new f.l _ w).alloc _, cl_new0 _ [.int .i64 D] _ _ (by simp)⟩
  have K1 : Below w.heap.size w W1 := by rw [hW1]; exact Below.alloc (Below.alloc (Below.refl _ _) (Nat.le_refl _) _) (by simp) _
  rw [← hW1]
  clear hW1
  refine (HL.out _ _ _ U1).mono ?_
  rintro e w1 ⟨⟨x, rfl, x1, x2, x3⟩, k1⟩
  have U2 := U1.below k1
  have HK2 : Hid (Below w.heap.size w w1) := K1.trans (k1.mono K1.size)
  have HX : Hid (x ≤ 2000 ∧ MQ.Cp (f.at x 1) D) := ⟨x2, MQ.Cp.of_gcd x3⟩
  have HVx : Hid (∀ w, Calls Try.prog 70 #[.agg #[.int .i64 f.a, .int .i64 f.b, .int .i64 f.c], .int .i64 x, .int .i64 1] w fun e w' => e = .returned (.int .i64 (f.at x 1)) ∧ Below w.heap.size w w') := fun w => HV.out x w x2
  have c0 := U2.f.cell 0
  have c1 := U2.f.cell 1
  have c2 := U2.f.cell 2
  simp at c0 c1 c2
  clear U1 U2 K1 k1 HL HV x1 x2 x3
  go_wp2_with fail
  refine (HVx.out _).mono ?_
  rintro e w2 ⟨rfl, k2⟩
  have HK3 : Hid (Below w.heap.size w w2) := HK2.out.trans (k2.mono HK2.out.size)
  clear k2 c0 c1 c2 HVx
  go_wp2
  go_ret
  exact ⟨⟨x, rfl, HX.out⟩, HK3.out⟩

end Go.Proofs.Ytijkanilpblogae
end

section
/- The program: unitsOfOne. -/
set_option linter.unusedSimpArgs false
set_option linter.unusedVariables false
set_option maxRecDepth 100000
namespace Go.Proofs.Ytijkanilpblogae
open Go.RowKit Go.Maps

theorem lawI : Keyed Try.prog 3 := int_keyed Try.underlying3
theorem om_below {H : Type} {P : Program} {k : TypeId} {R : Value → Option (DataW H × List MemPlace)} {b n : Nat} {D : DataW H} {w w' : World} (h : w.ownsMap P k R b n D) (c : Below w.heap.size w w') : w'.ownsMap P k R b n D := by
  have hlt := h.lt
  obtain ⟨es, clock, hb, r⟩ := h
  exact ⟨es, clock, (c.block b hlt).trans hb, r⟩

/-- The form of 1. -/
def oneF (D : Int) : Qf := ⟨1, D % 2, (D + D % 2) / 4⟩
/-- Its rest at x, y. -/
def orest (D : Int) (x y : Nat) : Int := (oneF D).at x y % D
/-- Which rests have been met ahead of y, x. -/
def Met (D : Int) (y x : Nat) (i : Int) : Prop := ∃ x' y' : Nat, (x' : Int) < D ∧ y' < 2 ∧ (y' < y ∨ (y' = y ∧ x' < x)) ∧ Int.gcd (orest D x' y') D = 1 ∧ i = orest D x' y'
/-- The set holds just these. -/
def Hs (E : DataW Unit) (D : Int) (y x : Nat) : Prop := ∀ kl, Maps.has E kl = true ↔ ∃ i, kl = .int .i64 i ∧ Met D y x i
theorem Hs.start (D : Int) : Hs (.map []) D 0 0 := fun kl => by
  constructor
  · intro h; simp [Maps.has] at h
  · rintro ⟨i, _, x', y', _, _, h, _⟩; omega
theorem Hs.skip {E : DataW Unit} {D : Int} {y x : Nat} (h : Hs E D y x) (hn : Int.gcd (orest D x y) D ≠ 1) : Hs E D y (x + 1) := fun kl => by
  rw [h kl]
  constructor
  · rintro ⟨i, e, x', y', a, b, c, d⟩
    exact ⟨i, e, x', y', a, b, by omega, d⟩
  · rintro ⟨i, e, x', y', a, b, c, d, e2⟩
    by_cases hc : y' < y ∨ (y' = y ∧ x' < x)
    · exact ⟨i, e, x', y', a, b, hc, d, e2⟩
    · obtain ⟨rfl, rfl⟩ : x' = x ∧ y' = y := by omega
      exact absurd d hn
theorem Hs.take {E : DataW Unit} {D : Int} {y x : Nat} (hE : IsMap E) (h : Hs E D y x) (hx : (x : Int) < D) (hy : y < 2) (hn : Int.gcd (orest D x y) D = 1) (u : DataW Unit) : Hs (E.put (.int .i64 (orest D x y)) u) D y (x + 1) := fun kl => by
  by_cases hk : kl = .int .i64 (orest D x y)
  · subst hk
    rw [has_put_same hE (by exact trivial) u]
    exact ⟨fun _ => ⟨_, rfl, x, y, hx, hy, by omega, hn, rfl⟩, fun _ => rfl⟩
  · rw [has_put_other hk, h kl]
    constructor
    · rintro ⟨i, e, x', y', a, b, c, d⟩
      exact ⟨i, e, x', y', a, b, by omega, d⟩
    · rintro ⟨i, e, x', y', a, b, c, d, e2⟩
      by_cases hc : y' < y ∨ (y' = y ∧ x' < x)
      · exact ⟨i, e, x', y', a, b, hc, d, e2⟩
      · obtain ⟨rfl, rfl⟩ : x' = x ∧ y' = y := by omega
        exact absurd (by rw [e, e2]) hk
theorem Hs.next {E : DataW Unit} {D : Int} {y X : Nat} (hX : D ≤ X) (h : Hs E D y X) : Hs E D (y + 1) 0 := fun kl => by
  rw [h kl]
  constructor
  · rintro ⟨i, e, x', y', a, b, c, d⟩
    exact ⟨i, e, x', y', a, b, by omega, d⟩
  · rintro ⟨i, e, x', y', a, b, c, d⟩
    exact ⟨i, e, x', y', a, b, by omega, d⟩

theorem one_upto {D : Int} (hD : 1 ≤ D ∧ D ≤ 2000) : (oneF D).upto 1000000 := ⟨by show -1000000 ≤ (1 : Int); omega, by show (1 : Int) ≤ 1000000; omega, by show -1000000 ≤ D % 2; omega, by show D % 2 ≤ 1000000; omega, by show -1000000 ≤ (D + D % 2) / 4; omega, by show (D + D % 2) / 4 ≤ 1000000; omega⟩
theorem one_nn {D : Int} (hD : 1 ≤ D ∧ D ≤ 2000) (x y : Nat) : 0 ≤ (oneF D).at x y := by
  unfold oneF Qf.at
  simp only []
  have h1 : 0 ≤ (x : Int) * x := sq_nn _
  have h2 : 0 ≤ (x : Int) * y * (D % 2) := Int.mul_nonneg (Int.mul_nonneg (by omega) (by omega)) (by omega)
  have h3 : 0 ≤ (y : Int) * y * ((D + D % 2) / 4) := Int.mul_nonneg (sq_nn _) (by omega)
  omega

set_option maxRecDepth 100000 in
set_option maxHeartbeats 8000000 in
theorem unitsOfOne_any (D : Int) (w : World) (hD : 1 ≤ D ∧ D ≤ 2000) :
    Calls Try.prog 52 #[.int .i64 D] w fun e w' => ∃ (b n : Nat) (E : DataW Unit), e = .returned (.map (some b)) ∧ w'.ownsMap Try.prog 3 (unitElem (H := Unit)) b n E ∧ n ≤ 4000 ∧ w.heap.size ≤ b ∧ Hs E D 2 0 ∧ Below w.heap.size w w' := by
  have hmm := @run_makeMap Try.prog
  have HF : Hid (∀ w, Calls Try.prog 71 #[.int .i64 D] w fun e w' => e = .returned (oneF D).v ∧ Below w.heap.size w w') := fun w => formOfOne_any D w (by omega)
  have HV : Hid (∀ (x y : Nat) w, (x : Int) < D → y < 2 → Calls Try.prog 70 #[(oneF D).v, .int .i64 x, .int .i64 y] w fun e w' => e = .returned (.int .i64 ((oneF D).at x y)) ∧ Below w.heap.size w w') := fun x y w hx hy => value_any (oneF D) x y w (one_upto hD) (by omega) (by omega)
  have HRe : Hid (∀ x y : Nat, ((oneF D).at x y).tmod D = orest D x y ∧ 0 ≤ orest D x y ∧ orest D x y < D) := fun x y => ⟨Int.tmod_eq_emod_of_nonneg (one_nn hD x y), Int.emod_nonneg _ (by omega), Int.emod_lt_of_pos _ (by omega)⟩
  have HVb : Hid (∀ x y : Nat, (x : Int) < D → y < 2 → -20000000000000 ≤ (oneF D).at x y ∧ (oneF D).at x y ≤ 20000000000000) := fun x y hx hy => by
    have := at_bd (x := x) (y := y) (one_upto hD) (by omega) (by omega)
    omega
  obtain ⟨o, ho⟩ : ∃ o, oneF D = o := ⟨_, rfl⟩
  rw [ho] at HF HV HRe HVb
  clear ho
  have t0 : (D == 0) = false := beq_eq_false_iff_ne.2 (by omega)
  unfold Qf.v at HF HV
  go_enter Try.func52, Try.ntmps52
  go_wp2_with fail
  refine (HF.out _).mono ?_
  rintro e w1 ⟨rfl, k1⟩
  obtain ⟨W2, hW2⟩ : ∃ W2, W2 = (w1.alloc (.cells #[.int .i64 o.a, .int .i64 o.b, .int .i64 o.c] 32)).alloc (.map #[] 0) := ⟨_, rfl⟩
  have C2 : Cl w1.heap.size o.l 32 W2 := by rw [hW2]; exact (Cl.new o.l _ w1).alloc _
  have M2 : W2.ownsMap Try.prog 3 (unitElem (H := Unit)) (w1.heap.size + 1) 0 (.map []) := by
    rw [hW2]
    have := World.ownsMap_made (w1.alloc (.cells #[.int .i64 o.a, .int .i64 o.b, .int .i64 o.c] 32)) Try.prog 3 (unitElem (H := Unit))
    rw [World.size_alloc] at this
    exact this
  have K2 : Below w.heap.size w W2 := by rw [hW2]; exact (k1.trans ((al1 _ _).mono k1.size)).trans ((al1 _ _).mono (by simp; have := k1.size; omega))
  have HLo : Hid (w.heap.size ≤ w1.heap.size) := k1.size
  have HM2 : Hid (W2.ownsMap Try.prog 3 (unitElem (H := Unit)) (w1.heap.size + 1) 0 (.map []) ∧ Cl w1.heap.size o.l 32 W2 ∧ Below w.heap.size w W2) := ⟨M2, C2, K2⟩
  clear k1 C2 M2 K2 HF
  go_wp2
  rw [← hW2]
  clear hW2
  go_loopg [11] 2 (fun gk yv wx => ∃ (y k : Nat) (E : DataW Unit), yv = .int .i64 y ∧ Hid (gk = 2 - y ∧ y ≤ 2 ∧ k ≤ y * 2000 ∧ wx.ownsMap Try.prog 3 (unitElem (H := Unit)) (w1.heap.size + 1) k E ∧ Hs E D y 0 ∧ Cl w1.heap.size o.l 32 wx ∧ Below w.heap.size w wx))
  case atStart => exact ⟨0, 0, .map [], rfl, rfl, by omega, by omega, HM2.out.1, Hs.start D, HM2.out.2.1, HM2.out.2.2⟩
  case round =>
    clear HM2
    obtain ⟨y, k, E, rfl, HR⟩ := hrel
    obtain ⟨hgk, hy, hk, hom, hhs, hcl, hbe⟩ := HR.out
    by_cases hy2 : y < 2
    · have by1 : decide ((y : Int) < 2) = true := decide_eq_true (by omega)
      have HY : Hid (gk = 2 - y) := hgk
      have HM3 : Hid (wr.ownsMap Try.prog 3 (unitElem (H := Unit)) (w1.heap.size + 1) k E ∧ Hs E D y 0 ∧ Cl w1.heap.size o.l 32 wr ∧ Below w.heap.size w wr) := ⟨hom, hhs, hcl, hbe⟩
      clear HR hgk hom hhs hcl hbe
      go_wp2
      go_loopg [15] D.toNat (fun gk xv wx => ∃ (x k' : Nat) (E' : DataW Unit), xv = .int .i64 x ∧ Hid (gk = D.toNat - x ∧ (x : Int) ≤ D ∧ k' ≤ k + x ∧ wx.ownsMap Try.prog 3 (unitElem (H := Unit)) (w1.heap.size + 1) k' E' ∧ Hs E' D y x ∧ Cl w1.heap.size o.l 32 wx ∧ Below w.heap.size w wx))
      case atStart => exact ⟨0, k, E, rfl, rfl, by omega, by omega, HM3.out⟩
      case round =>
        clear HM3
        obtain ⟨x, k', E', rfl, HR⟩ := hrel
        obtain ⟨hgx, hx, hk', hom, hhs, hcl, hbe⟩ := HR.out
        by_cases hx2 : (x : Int) < D
        · have bx1 : decide ((x : Int) < D) = true := decide_eq_true hx2
          have HX : Hid (D.toNat - x = D.toNat - x ∧ k' ≤ k + x) := ⟨rfl, hk'⟩
          have HGx : Hid (_ = D.toNat - x) := hgx
          have HM : Hid (wr.ownsMap Try.prog 3 (unitElem (H := Unit)) (w1.heap.size + 1) k' E' ∧ Hs E' D y x ∧ Cl w1.heap.size o.l 32 wr ∧ Below w.heap.size w wr) := ⟨hom, hhs, hcl, hbe⟩
          have c0 := hcl.cell 0
          have c1 := hcl.cell 1
          have c2 := hcl.cell 2
          simp at c0 c1 c2
          have HVx : Hid (∀ w, Calls Try.prog 70 #[.agg #[.int .i64 o.a, .int .i64 o.b, .int .i64 o.c], .int .i64 x, .int .i64 y] w fun e w' => e = .returned (.int .i64 (o.at x y)) ∧ Below w.heap.size w w') := fun w => HV.out x y w hx2 hy2
          obtain ⟨V, hV⟩ : ∃ V, o.at x y = V := ⟨_, rfl⟩
          obtain ⟨R, hR⟩ : ∃ R, orest D x y = R := ⟨_, rfl⟩
          have h1 := HRe.out x y
          have hVb := HVb.out x y hx2 hy2
          rw [hV, hR] at h1
          rw [hV] at HVx hVb
          obtain ⟨h1, h2, h3⟩ := h1
          have HU : Hid (∀ w, Calls Try.prog 69 #[.int .i64 R, .int .i64 D] w fun e w' => e = .returned (.bool ((Int.gcd R D : Int) == 1)) ∧ Below w.heap.size w w') := fun w => isUnit_any _ _ w (by omega) (by omega)
          obtain ⟨bu, hbu⟩ : ∃ b, ((Int.gcd R D : Int) == 1) = b := ⟨_, rfl⟩
          rw [hbu] at HU
          have HRR : Hid (orest D x y = R ∧ ((Int.gcd R D : Int) == 1) = bu) := ⟨hR, hbu⟩
          clear HR hgx hk' hom hhs hcl hbe hV hR hbu
          go_wp2_with fail
          refine (HVx.out _).mono ?_
          rintro e w2 ⟨rfl, k2⟩
          have HMa : Hid (w2.ownsMap Try.prog 3 (unitElem (H := Unit)) (w1.heap.size + 1) k' E' ∧ Cl w1.heap.size o.l 32 w2 ∧ Below w.heap.size w w2) := ⟨om_below HM.out.1 k2, HM.out.2.2.1.below k2, HM.out.2.2.2.trans (k2.mono HM.out.2.2.2.size)⟩
          clear k2 c0 c1 c2 HVx
          go_wp2_with fail
          refine (HU.out _).mono ?_
          rintro e w3 ⟨rfl, k3⟩
          have HMb : Hid (w3.ownsMap Try.prog 3 (unitElem (H := Unit)) (w1.heap.size + 1) k' E' ∧ Cl w1.heap.size o.l 32 w3 ∧ Below w.heap.size w w3) := ⟨om_below HMa.out.1 k3, HMa.out.2.1.below k3, HMa.out.2.2.trans (k3.mono HMa.out.2.2.size)⟩
          clear k3 HMa HU
          cases bu
          · have HN : Hid (Hs E' D y (x + 1)) := HM.out.2.1.skip (by rw [HRR.out.1]; intro h; have := HRR.out.2; rw [h] at this; simp at this)
            go_wp2
            go_roundg (D.toNat - (x + 1))
            case rel => exact ⟨x + 1, k', E', by go_num, rfl, by omega, by have := HX.out.2; omega, HMb.out.1, HN.out, HMb.out.2⟩
            case measure => have := HGx.out; omega
          · have HN : Hid (Hs (E'.put (.int .i64 R) (.agg [])) D y (x + 1)) := by
              have := HM.out.2.1.take HM.out.1.isMap hx2 hy2 (by rw [HRR.out.1]; have := HRR.out.2; simp at this; omega) (.agg [])
              rw [HRR.out.1] at this
              exact this
            have hkb : k' ≤ 4000 := by have := HX.out.2; omega
            have hkey : keyOf Try.prog 3 (.int .i64 R) = some (.int .i64 R) := keyOf_int_mk Try.underlying3 (by simp [Lit.wf, IntKind.min, IntKind.max, IntKind.signed, IntKind.bits]; omega)
            go_wp2_with (at_mapUpdate; refine wpList_mapUpdate_own _ rfl _ _ _ 81 rfl 3 100 lawI Try.underlying81 (unitElem (H := Unit)) (w1.heap.size + 1) k' _ rfl HMb.out.1 (by unfold maxLen; omega) _ _ _ rfl rfl hkey _ [] unitElem_mk ?_; intro w4 hown4 hgrow4)
            have HE : Hid (w4.ownsMap Try.prog 3 (unitElem (H := Unit)) (w1.heap.size + 1) (k' + 1) (E'.put (.int .i64 R) (.agg [])) ∧ Cl w1.heap.size o.l 32 w4 ∧ Below w.heap.size w w4) := ⟨hown4, HMb.out.2.1.grown hgrow4 (by simp), HMb.out.2.2.grown hgrow4 HMb.out.2.2.size (fun j hj => by simp at hj; have := HLo.out; omega)⟩
            clear hown4 hgrow4 hkey
            go_wp2
            go_roundg (D.toNat - (x + 1))
            case rel => exact ⟨x + 1, k' + 1, E'.put (.int .i64 R) (.agg []), by go_num, rfl, by omega, by have := HX.out.2; omega, HE.out.1, HN.out, HE.out.2⟩
            case measure => have := HGx.out; omega
        · have bx1 : decide ((x : Int) < D) = false := decide_eq_false hx2
          have HN : Hid (wr.ownsMap Try.prog 3 (unitElem (H := Unit)) (w1.heap.size + 1) k' E' ∧ Hs E' D (y + 1) 0 ∧ Cl w1.heap.size o.l 32 wr ∧ Below w.heap.size w wr ∧ k' ≤ k + 2000) := ⟨hom, hhs.next (by omega), hcl, hbe, by omega⟩
          clear HR hgx hk' hom hhs hcl hbe
          go_wp2
          go_roundg (2 - (y + 1))
          case rel => exact ⟨y + 1, k', E', by go_num, rfl, by omega, by have := HN.out.2.2.2.2; omega, HN.out.1, HN.out.2.1, HN.out.2.2.1, HN.out.2.2.2.1⟩
          case measure => have := HY.out; omega
    · have by1 : decide ((y : Int) < 2) = false := decide_eq_false (by omega)
      obtain rfl : y = 2 := by omega
      have HN : Hid (wr.ownsMap Try.prog 3 (unitElem (H := Unit)) (w1.heap.size + 1) k E ∧ k ≤ 4000 ∧ Hs E D 2 0 ∧ Below w.heap.size w wr) := ⟨hom, by omega, hhs, hbe⟩
      clear HR hgk hom hhs hcl hbe hk
      go_wp2
      go_ret
      exact ⟨_, k, E, rfl, HN.out.1, HN.out.2.1, by have := HLo.out; omega, HN.out.2.2⟩

end Go.Proofs.Ytijkanilpblogae
end
