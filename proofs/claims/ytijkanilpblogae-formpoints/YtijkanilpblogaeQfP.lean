/- The points of a form, and how many there are: plain facts. -/
import Derived.Test.YtijkanilpblogaeQfJ
set_option linter.unusedSimpArgs false
set_option linter.unusedVariables false
set_option maxRecDepth 100000
namespace Go.Proofs.Ytijkanilpblogae

/-- By x, then by y. -/
def plt (a b : Int × Int) : Prop := a.1 < b.1 ∨ (a.1 = b.1 ∧ a.2 < b.2)
theorem plt_nodup {l : List (Int × Int)} (h : l.Pairwise plt) : l.Nodup :=
  h.imp fun {a b} k e => by subst e; unfold plt at k; omega
theorem plt_at {l : List (Int × Int)} (h : l.Pairwise plt) {i : Nat} {a b : Int × Int} (ha : l[i]? = some a) (hb : l[i + 1]? = some b) : plt a b := by
  obtain ⟨h1, rfl⟩ := List.getElem?_eq_some_iff.1 ha
  obtain ⟨h2, rfl⟩ := List.getElem?_eq_some_iff.1 hb
  exact List.pairwise_iff_getElem.1 h i (i + 1) h1 h2 (by omega)

/-- There is a reduced form that a form is like. -/
theorem red_ex {f : Qf} : ∀ (N : Nat) (g : Qf) (m : Mt), mu g = N → Rw f g m → ∃ g' m', Rd f g' m' := by
  intro N
  induction N using Nat.strongRecOn with
  | ind N ih =>
    intro g m hN h
    have ha := h.pos.1
    have hb : -1000000 ≤ g.b ∧ g.b ≤ 1000000 := ⟨h.up.2.2.1, h.up.2.2.2.1⟩
    cases hrb : g.redB
    · by_cases hac : g.c < g.a
      · exact ih _ (by rw [← hN]; exact mu_swp h.up h.pos.2 hac) (swp g) _ rfl h.swapped
      · have step : ∀ k, Kc g k → ∃ g' m', Rd f g' m' := fun k hk => ih _ (by rw [← hN]; exact hk.mu) (shf g k) _ rfl (h.shifted k hk.sq hk.b1 hk.b2)
        by_cases hB : g.a < g.b
        · by_cases hq : (-g.b).tdiv (2 * g.a) = 0
          · exact step (-1) (kc_choice ha hb rfl (.inl ⟨hB, .inl ⟨hq, rfl⟩⟩))
          · exact step _ (kc_choice ha hb rfl (.inl ⟨hB, .inr ⟨hq, rfl⟩⟩))
        · by_cases hB2 : g.b ≤ -g.a
          · by_cases hq : (-g.b).tdiv (2 * g.a) = 0
            · exact step 1 (kc_choice ha hb rfl (.inr ⟨hB2, .inl ⟨hq, rfl⟩⟩))
            · exact step _ (kc_choice ha hb rfl (.inr ⟨hB2, .inr ⟨hq, rfl⟩⟩))
          · have hs : g.a = g.c ∧ g.b < 0 := by
              unfold Qf.redB at hrb
              rw [decide_eq_true (show (g.b.natAbs : Int) ≤ g.a by omega), decide_eq_true (show g.a ≤ g.c by omega)] at hrb
              simp only [Bool.true_and, Bool.or_eq_false_iff, decide_eq_false_iff_not, Bool.and_eq_false_iff, bne_eq_false_iff_eq] at hrb
              omega
            exact ih _ (by rw [← hN]; exact mu_same hs.1 hs.2) (swp g) _ rfl h.swapped
    · exact ⟨g, m, h.rd hrb⟩
theorem red_has {f : Qf} (h : ffault f = (0, 0)) : ∃ g m, Rd f g m := red_ex _ f _ rfl (Rw.start h)

/-- All points of f where it is n, rising. -/
structure Pts (f : Qf) (n : Int) (l : List (Int × Int)) : Prop where
  has : ∀ a ∈ l, f.at a.1 a.2 = n
  all : ∀ x y, f.at x y = n → (x, y) ∈ l
  ord : l.Pairwise plt

theorem pts_count {f g : Qf} {m : Mt} {n : Int} {l : List (Int × Int)} {k : Nat} (h : Rd f g m) (ga : 1 ≤ g.a) (gd : g.disc < 0) (hn : 0 ≤ n ∧ n ≤ 1000000) (hl : Pts f n l) (hk : 4 * g.a * n < -g.disc * ((k : Int) * k)) :
    l.length = (allP g n (fun _ => 2400) k).length := by
  have top : 4 * g.a * n < -g.disc * ((1155 : Nat) * (1155 : Nat) : Int) := by
    rcases Int.lt_or_le (4 * g.a * n) (-g.disc * ((1155 : Nat) * (1155 : Nat) : Int)) with h1 | h1
    · exact h1
    · have := y_top (y := 1155) h.red ga hn (by rw [Int.mul_assoc]; exact h1)
      omega
  refine points_len h l _ (plt_nodup hl.ord) (allP_nodup g n _ k) hl.has hl.all (fun a ha => allP_at ha) (fun x y hxy => ?_)
  have hy : y.natAbs < k := by
    rcases Nat.lt_or_ge y.natAbs k with h1 | h1
    · exact h1
    · have := rows_none (p := x) ga gd hk h1; omega
  have hy2 : y.natAbs < 1155 := by
    rcases Nat.lt_or_ge y.natAbs 1155 with h1 | h1
    · exact h1
    · have := rows_none (p := x) ga gd top h1; omega
  have hx : x.natAbs < 2400 := by
    rcases Nat.lt_or_ge x.natAbs 2400 with h1 | h1
    · exact h1
    · obtain ⟨t1, t2⟩ := x_top (g := g) (n := n) (y := y.natAbs) h.red ga hn.2 (by omega)
      have := row_none (g := g) (n := n) (x := 2400) (y := y.natAbs) (p := x) (q := y) ga t1 t2 h1 rfl
      omega
  exact mem_allP hxy hy hx

theorem pts_few {f g : Qf} {m : Mt} {n : Int} {l : List (Int × Int)} (h : Rd f g m) (ga : 1 ≤ g.a) (gd : g.disc < 0) (hn : 0 ≤ n ∧ n ≤ 1000000) (hl : Pts f n l) : l.length ≤ 11088000 := by
  have top : 4 * g.a * n < -g.disc * ((1155 : Nat) * (1155 : Nat) : Int) := by
    rcases Int.lt_or_le (4 * g.a * n) (-g.disc * ((1155 : Nat) * (1155 : Nat) : Int)) with h1 | h1
    · exact h1
    · have := y_top (y := 1155) h.red ga hn (by rw [Int.mul_assoc]; exact h1)
      omega
  have h1 := pts_count h ga gd hn hl top
  have h2 := allP_len g n 1155
  omega

/-- The points' cells. -/
def pcells (l : List (Int × Int)) : List Value := l.flatMap fun a => [.int .i64 a.1, .int .i64 a.2]
theorem pcells_cons (a : Int × Int) (l : List (Int × Int)) : pcells (a :: l) = [.int .i64 a.1, .int .i64 a.2] ++ pcells l := by simp [pcells]
theorem pcells_at : ∀ (l : List (Int × Int)) (i : Nat) (a : Int × Int), l[i]? = some a → (pcells l)[i * 2]? = some (.int .i64 a.1) ∧ (pcells l)[i * 2 + 1]? = some (.int .i64 a.2)
  | [], i, a, h => by simp at h
  | b :: l, 0, a, h => by
    simp at h; subst h
    rw [pcells_cons]; simp
  | b :: l, i + 1, a, h => by
    have ih := pcells_at l i a (by simpa using h)
    rw [pcells_cons]
    have e : ∀ k, ([Value.int .i64 b.1, Value.int .i64 b.2] ++ pcells l)[(i + 1) * 2 + k]? = (pcells l)[i * 2 + k]? := fun k => by
      rw [List.getElem?_append_right (by simp; omega)]
      congr 1
      simp; omega
    exact ⟨(e 0).trans ih.1, (e 1).trans ih.2⟩

end Go.Proofs.Ytijkanilpblogae
