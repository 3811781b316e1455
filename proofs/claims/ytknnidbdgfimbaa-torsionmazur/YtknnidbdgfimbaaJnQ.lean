import Derived.Test.YtknnidbdgfimbaaTnO
section
/- Plain facts: the points of finite order are a group, and Mazur's list is met. -/
set_option linter.unusedVariables false
set_option maxRecDepth 100000
namespace Go.Proofs.Ytknnidbdgfimbaa
namespace TN

/-! ### What is in the list -/
theorem lkL_has {a b x y : Int} (h : Lk a b x y) : (x, y) ∈ lkL a b x := by
  rcases Int.lt_trichotomy y 0 with g | g | g
  · rw [lkL_pos (y := -y) (by omega) h.neg]; simp
  · subst g; rw [lkL_zero h]; simp
  · rw [lkL_pos g h]; simp
theorem lkA_has {a b lo : Int} {q : Int × Int} : ∀ n, (∃ i : Nat, i < n ∧ q ∈ lkL a b (lo + i)) → q ∈ lkA a b lo n := by
  intro n
  induction n with
  | zero => rintro ⟨i, hi, _⟩; omega
  | succ n ih =>
    rintro ⟨i, hi, h⟩
    rw [lkA, List.mem_append]
    by_cases e : i = n
    · subst e; right; exact h
    · left; exact ih ⟨i, by omega, h⟩
theorem mem_lkI {a b : Int} (hc : Cu a b) (x y : Int) (f : Bool) (n : Nat) : (x, y, f, n) ∈ lkI a b ↔ f = false ∧ Lk a b x y ∧ ordR a b x y = some n := by
  unfold lkI
  rw [List.mem_flatMap]
  constructor
  · rintro ⟨q, h1, h2⟩
    have hl := lkA_mem 1632 h1
    unfold itm at h2
    cases e : ordR a b q.1 q.2 with
    | none => rw [e] at h2; simp at h2
    | some m =>
      rw [e] at h2
      simp at h2
      obtain ⟨rfl, rfl, rfl, rfl⟩ := h2
      exact ⟨rfl, hl, e⟩
  · rintro ⟨rfl, hl, ho⟩
    refine ⟨(x, y), lkA_has 1632 ⟨(x + 32).toNat, ?_, ?_⟩, ?_⟩
    · have := hl.range hc; omega
    · have hr := hl.range hc
      rw [show -32 + (((x + 32).toNat : Nat) : Int) = x by omega]
      exact lkL_has hl
    · unfold itm; simp [ho]
theorem lkL_nodup (a b x : Int) : (lkL a b x).Nodup := by
  by_cases hex : ∃ y, 0 ≤ y ∧ Lk a b x y
  · obtain ⟨y, hy, hl⟩ := hex
    rcases Int.lt_or_le 0 y with g | g
    · rw [lkL_pos g hl]; simp; omega
    · obtain rfl : y = 0 := by omega
      rw [lkL_zero hl]; simp
  · unfold lkL; rw [dif_neg hex]; simp
theorem lkA_lt {a b lo : Int} {q : Int × Int} : ∀ n : Nat, q ∈ lkA a b lo n → q.1 < lo + n := by
  intro n
  induction n with
  | zero => intro h; simp [lkA] at h
  | succ n ih =>
    intro h
    rw [lkA, List.mem_append] at h
    rcases h with h | h
    · have := ih h; omega
    · have := (lkL_mem h).1; omega
theorem lkA_nodup (a b lo : Int) : ∀ n, (lkA a b lo n).Nodup := by
  intro n
  induction n with
  | zero => simp [lkA]
  | succ n ih =>
    rw [lkA, List.nodup_append]
    refine ⟨ih, lkL_nodup a b _, ?_⟩
    intro p hp q hq e
    subst e
    have h1 := lkA_lt n hp
    have h2 := (lkL_mem hq).1
    omega
theorem itms_nodup (a b : Int) : ∀ l : List (Int × Int), l.Nodup → (l.flatMap (itm a b)).Nodup := by
  intro l
  induction l with
  | nil => intro _; simp
  | cons q l ih =>
    intro h
    rw [List.nodup_cons] at h
    rw [List.flatMap_cons, List.nodup_append]
    refine ⟨?_, ih h.2, ?_⟩
    · unfold itm; split <;> simp
    · intro p hp r hr e
      subst e
      obtain ⟨s, hs, hr⟩ := List.mem_flatMap.1 hr
      unfold itm at hp hr
      cases e1 : ordR a b q.1 q.2 with
      | none => rw [e1] at hp; simp at hp
      | some m =>
        rw [e1] at hp
        cases e2 : ordR a b s.1 s.2 with
        | none => rw [e2] at hr; simp at hr
        | some k =>
          rw [e2] at hr
          simp at hp hr
          rw [hp] at hr
          simp only [Prod.mk.injEq] at hr
          apply h.1
          have : q = s := Prod.ext hr.1 hr.2.1
          rw [this]; exact hs
theorem lkI_nodup (a b : Int) : (lkI a b).Nodup := itms_nodup a b _ (lkA_nodup a b _ _)
/-- Two lists without doubles that have the same members are of one length. -/
theorem len_same {α : Type} [DecidableEq α] : ∀ (l k : List α), l.Nodup → k.Nodup → (∀ x, x ∈ l ↔ x ∈ k) → l.length = k.length := by
  intro l k h1 h2 h
  exact ((List.perm_ext_iff_of_nodup h1 h2).2 h).length_eq
theorem foldl_mx (l : List (Int × Int × Bool × Nat)) (m : Nat) : l.foldl (fun m q => max m q.2.2.2) m = max m (l.foldl (fun m q => max m q.2.2.2) 0) := by
  induction l generalizing m with
  | nil => simp
  | cons q l ih => rw [List.foldl_cons, List.foldl_cons, ih, ih (max 0 q.2.2.2)]; omega
theorem mx_same {l k : List (Int × Int × Bool × Nat)} (h : ∀ x, x ∈ l → x ∈ k) : l.foldl (fun m q => max m q.2.2.2) 0 ≤ k.foldl (fun m q => max m q.2.2.2) 0 := by
  have hk : ∀ (k : List (Int × Int × Bool × Nat)) x, x ∈ k → x.2.2.2 ≤ k.foldl (fun m q => max m q.2.2.2) 0 := by
    intro k
    induction k with
    | nil => intro x hx; simp at hx
    | cons q k ih =>
      intro x hx
      rw [List.foldl_cons, foldl_mx]
      rcases List.mem_cons.1 hx with g | g
      · subst g; omega
      · have := ih x g; omega
  induction l with
  | nil => simp
  | cons q l ih =>
    rw [List.foldl_cons, foldl_mx]
    have h1 := hk k q (h q (by simp))
    have h2 := ih (fun x hx => h x (List.mem_cons_of_mem _ hx))
    omega

/-- What is asked of a curve's points with their orders: how many there are, the greatest order, and that sums stay. -/
structure Mz (a b : Int) (l : List (Int × Int × Bool × Nat)) : Prop where
  len : l.length + 1 ≤ 16
  dv : (l.length + 1) % (l.foldl (fun m q => max m q.2.2.2) 1) = 0
  sh : ((l.length + 1) / (l.foldl (fun m q => max m q.2.2.2) 1) = 1 ∧ (l.foldl (fun m q => max m q.2.2.2) 1 ≤ 10 ∨ l.foldl (fun m q => max m q.2.2.2) 1 = 12)) ∨ ((l.length + 1) / (l.foldl (fun m q => max m q.2.2.2) 1) = 2 ∧ (l.foldl (fun m q => max m q.2.2.2) 1 = 2 ∨ l.foldl (fun m q => max m q.2.2.2) 1 = 4 ∨ l.foldl (fun m q => max m q.2.2.2) 1 = 6 ∨ l.foldl (fun m q => max m q.2.2.2) 1 = 8))
  ad : ∀ p, p ∈ l → ∀ q, q ∈ l → pAdd a b q.1 q.2.1 p.1 p.2.1 = some none ∨ ∃ r, r ∈ l ∧ pAdd a b q.1 q.2.1 p.1 p.2.1 = some (some (r.1, r.2.1))
theorem Mz.same {a b : Int} {l k : List (Int × Int × Bool × Nat)} (h : Mz a b k) (h1 : l.Nodup) (h2 : k.Nodup) (hm : ∀ x, x ∈ l ↔ x ∈ k) : Mz a b l := by
  have e1 := len_same l k h1 h2 hm
  have e2 : l.foldl (fun m q => max m q.2.2.2) 1 = k.foldl (fun m q => max m q.2.2.2) 1 := by
    rw [foldl_mx l, foldl_mx k]
    have a1 := mx_same (fun x => (hm x).1)
    have a2 := mx_same (fun x => (hm x).2)
    omega
  obtain ⟨b1, b2, b3, b4⟩ := h
  rw [← e1, ← e2] at b2 b3
  rw [← e1] at b1
  refine ⟨b1, b2, b3, fun p hp q hq => ?_⟩
  rcases b4 p ((hm p).1 hp) q ((hm q).1 hq) with g | ⟨r, g1, g2⟩
  · exact Or.inl g
  · exact Or.inr ⟨r, (hm r).2 g1, g2⟩

/-! ### The curves of the table, by the kernel -/
def xs65 : List Int := (List.range 65).map fun (n : Nat) => (n : Int) - 32
def exl (a b : Int) : List (Int × Int × Bool × Nat) :=
  ((xs65.filter fun x => decide (cub a b x = 0)).map fun x => (x, 0, false, 2)) ++ ((tab.filter fun t => decide (t.1 = a) && decide (t.2.1 = b)).flatMap fun t => [(t.2.2.1, t.2.2.2.1, false, t.2.2.2.2), (t.2.2.1, -t.2.2.2.1, false, t.2.2.2.2)])
def mzB (a b : Int) (l : List (Int × Int × Bool × Nat)) : Bool :=
  decide (l.length + 1 ≤ 16) && (decide ((l.length + 1) % (l.foldl (fun m q => max m q.2.2.2) 1) = 0) && (decide (((l.length + 1) / (l.foldl (fun m q => max m q.2.2.2) 1) = 1 ∧ (l.foldl (fun m q => max m q.2.2.2) 1 ≤ 10 ∨ l.foldl (fun m q => max m q.2.2.2) 1 = 12)) ∨ ((l.length + 1) / (l.foldl (fun m q => max m q.2.2.2) 1) = 2 ∧ (l.foldl (fun m q => max m q.2.2.2) 1 = 2 ∨ l.foldl (fun m q => max m q.2.2.2) 1 = 4 ∨ l.foldl (fun m q => max m q.2.2.2) 1 = 6 ∨ l.foldl (fun m q => max m q.2.2.2) 1 = 8))) &&
    (decide l.Nodup && (l.all (fun q => decide (q.2.1 * q.2.1 = cub a b q.1) && (decide (q.2.1 = 0 ∨ dis a b % (q.2.1 * q.2.1) = 0) && (decide (q.2.2.1 = false) && decide (ordR a b q.1 q.2.1 = some q.2.2.2)))) && l.all (fun p => l.all fun q => match pAdd a b q.1 q.2.1 p.1 p.2.1 with
      | none => false
      | some none => true
      | some (some r) => l.any fun s => decide (s.1 = r.1) && decide (s.2.1 = r.2))))))
theorem tab_mz : (tab.all fun t => mzB t.1 t.2.1 (exl t.1 t.2.1)) = true := by decide +kernel
theorem tab_pos : (tab.all fun t => decide (0 < t.2.2.2.1)) = true := by decide +kernel
theorem mz_of {a b : Int} {l : List (Int × Int × Bool × Nat)} (h : mzB a b l = true) : Mz a b l ∧ l.Nodup ∧ ∀ q ∈ l, Lk a b q.1 q.2.1 ∧ q.2.2.1 = false ∧ ordR a b q.1 q.2.1 = some q.2.2.2 := by
  unfold mzB at h
  simp only [Bool.and_eq_true, decide_eq_true_eq, List.all_eq_true] at h
  obtain ⟨h1, h2, h3, h4, h5, h6⟩ := h
  refine ⟨⟨h1, h2, h3, fun p hp q hq => ?_⟩, h4, fun q hq => ?_⟩
  · have := h6 p hp q hq
    cases e : pAdd a b q.1 q.2.1 p.1 p.2.1 with
    | none => rw [e] at this; simp at this
    | some o =>
      cases o with
      | none => exact Or.inl rfl
      | some r =>
        rw [e] at this
        obtain ⟨s, hs, g⟩ := List.any_eq_true.1 this
        simp only [Bool.and_eq_true, decide_eq_true_eq] at g
        exact Or.inr ⟨s, hs, by rw [g.1, g.2]⟩
  · obtain ⟨g1, g2, g3, g4⟩ := h5 q hq
    exact ⟨⟨g1, g2⟩, g3, g4⟩
theorem tabB_mem {a b x y : Int} {n : Nat} (h : tabB a b x y n = true) : (a, b, x, y, n) ∈ tab := by
  unfold tabB at h
  obtain ⟨t, ht, g⟩ := List.any_eq_true.1 h
  simp only [Bool.and_eq_true, decide_eq_true_eq] at g
  obtain ⟨rfl, rfl, rfl, rfl, rfl⟩ := g
  exact ht
theorem root_x {a b x : Int} (hc : Cu a b) (h : cub a b x = 0) : x ∈ xs65 := by
  have h1 : -32 ≤ x := by
    rcases Int.lt_or_le x (-32) with g | g
    · have := cub_low hc (show x ≤ -33 by omega); omega
    · exact g
  have h2 : x ≤ 32 := by
    rcases Int.lt_or_le 32 x with g | g
    · have := cub_root hc (show 33 ≤ x by omega); omega
    · exact g
  unfold xs65
  rw [List.mem_map]
  exact ⟨(x + 32).toNat, List.mem_range.2 (by omega), by omega⟩
/-- Every point of finite order is in the table, or has y = 0. -/
theorem lkI_in {a b : Int} (hc : Cu a b) (q : Int × Int × Bool × Nat) (h : q ∈ lkI a b) : q ∈ exl a b := by
  obtain ⟨x, y, f, n⟩ := q
  obtain ⟨rfl, hl, ho⟩ := (mem_lkI hc x y f n).1 h
  unfold exl
  rw [List.mem_append]
  have hp := ord_is hc hl
  rw [ho] at hp
  rcases Int.lt_trichotomy y 0 with g | g | g
  · right
    rcases ord_neg hc g hl with ⟨m, e1, _, e2⟩ | ⟨e1, _⟩
    · rw [hp] at e1
      simp at e1
      subst e1
      rw [List.mem_flatMap]
      refine ⟨(a, b, x, -y, n), List.mem_filter.2 ⟨tabB_mem e2, by simp⟩, ?_⟩
      simp
    · rw [hp] at e1; simp at e1
  · left
    subst g
    rw [ord_zero] at hp
    simp at hp
    subst hp
    rw [List.mem_map]
    have := hl.on
    exact ⟨x, List.mem_filter.2 ⟨root_x hc (by omega), by simp; omega⟩, rfl⟩
  · right
    rcases ord_pos hc g hl with ⟨m, e1, _, e2⟩ | ⟨e1, _⟩
    · rw [hp] at e1
      simp at e1
      subst e1
      rw [List.mem_flatMap]
      refine ⟨(a, b, x, y, n), List.mem_filter.2 ⟨tabB_mem e2, by simp⟩, ?_⟩
      simp
    · rw [hp] at e1; simp at e1
theorem mz_tab {a b : Int} (hc : Cu a b) {t : Int × Int × Int × Int × Nat} (ht : t ∈ tab) (ha : t.1 = a) (hb : t.2.1 = b) : Mz a b (lkI a b) := by
  have h := List.all_eq_true.1 tab_mz t ht
  rw [ha, hb] at h
  obtain ⟨h1, h2, h3⟩ := mz_of h
  refine h1.same (lkI_nodup a b) h2 fun q => ⟨lkI_in hc q, fun hq => ?_⟩
  obtain ⟨g1, g2, g3⟩ := h3 q hq
  obtain ⟨x, y, f, n⟩ := q
  exact (mem_lkI hc x y f n).2 ⟨g2, g1, g3⟩

end TN
end Go.Proofs.Ytknnidbdgfimbaa
end

section
/- Plain facts: Mazur's list and sums of points, of every curve. -/
set_option linter.unusedVariables false
set_option maxRecDepth 100000
namespace Go.Proofs.Ytknnidbdgfimbaa
namespace TN

theorem two_roots {a b e f : Int} (hc : Cu a b) (h1 : cub a b e = 0) (h2 : cub a b f = 0) (hne : e ≠ f) : cub a b (-e - f) = 0 ∧ -e - f ≠ e ∧ -e - f ≠ f ∧ ∀ x, cub a b x = 0 → x = e ∨ x = f ∨ x = -e - f := by
  unfold cub at *
  have h3 : (e - f) * (e * e + e * f + f * f + a) = 0 := by grind
  have h4 : e * e + e * f + f * f + a = 0 := by
    rcases Int.mul_eq_zero.1 h3 with g | g
    · omega
    · exact g
  have ea : a = -(e * e + e * f + f * f) := by omega
  have eb : b = e * f * (e + f) := by subst ea; grind
  subst ea
  subst eb
  have hd := hc.d0
  refine ⟨by grind, ?_, ?_, ?_⟩
  · intro g
    apply hd
    have : f = -2 * e := by omega
    subst this
    unfold dis
    grind
  · intro g
    apply hd
    have : e = -2 * f := by omega
    subst this
    unfold dis
    grind
  · intro x hx
    have h5 : (x - e) * ((x - f) * (x + e + f)) = 0 := by grind
    rcases Int.mul_eq_zero.1 h5 with g | g
    · left; omega
    · rcases Int.mul_eq_zero.1 g with g | g
      · right; left; omega
      · right; right; omega
theorem add_self (a b x : Int) : pAdd a b x 0 x 0 = some none := by unfold pAdd; rw [if_pos ⟨rfl, by omega⟩]
theorem add_roots (a b : Int) {x X : Int} (h : X ≠ x) : pAdd a b x 0 X 0 = some (some (-X - x, 0)) := by
  unfold pAdd
  rw [if_neg (fun g => h g.1), if_neg (fun g => h g.1), if_neg (by simp)]
  simp
theorem mz_roots {a b : Int} (hc : Cu a b) (hno : ∀ t ∈ tab, ¬ (t.1 = a ∧ t.2.1 = b)) : Mz a b (lkI a b) := by
  have hx : ∀ q : Int × Int × Bool × Nat, q ∈ lkI a b ↔ q.2 = (0, false, 2) ∧ cub a b q.1 = 0 := by
    intro q
    constructor
    · intro h
      have h1 := lkI_in hc q h
      unfold exl at h1
      rw [List.mem_append] at h1
      rcases h1 with h1 | h1
      · obtain ⟨x, hx, rfl⟩ := List.mem_map.1 h1
        have := (List.mem_filter.1 hx).2
        exact ⟨rfl, by simpa using this⟩
      · obtain ⟨t, ht, _⟩ := List.mem_flatMap.1 h1
        have h2 := List.mem_filter.1 ht
        simp only [Bool.and_eq_true, decide_eq_true_eq] at h2
        exact absurd h2.2 (hno t h2.1)
    · rintro ⟨h1, h2⟩
      obtain ⟨x, y, f, n⟩ := q
      simp only [Prod.mk.injEq] at h1
      obtain ⟨rfl, rfl, rfl⟩ := h1
      refine (mem_lkI hc x 0 false 2).2 ⟨rfl, ⟨by rw [h2]; rfl, Or.inl rfl⟩, ?_⟩
      unfold ordR
      rw [ord_zero]
      rfl
  cases hl : lkI a b with
  | nil => exact ⟨by decide, by decide, by decide, fun p hp => by simp at hp⟩
  | cons p l =>
    cases hl2 : l with
    | nil =>
      have hp := (hx p).1 (by rw [hl]; simp)
      obtain ⟨x, r⟩ := p
      obtain ⟨rfl, hr⟩ := hp
      refine ⟨by simp, by simp, by simp, fun s hs q hq => ?_⟩
      simp only [List.mem_cons, List.not_mem_nil, or_false] at hs hq
      subst hs hq
      exact Or.inl (add_self a b x)
    | cons q l' =>
      rw [← hl2, ← hl]
      have hp := (hx p).1 (by rw [hl]; simp)
      have hq := (hx q).1 (by rw [hl, hl2]; simp)
      have hnd := lkI_nodup a b
      have hpq : p ≠ q := by
        rw [hl, hl2] at hnd
        intro e
        subst e
        simp at hnd
      obtain ⟨e, r1⟩ := p
      obtain ⟨f, r2⟩ := q
      simp only at hp hq
      obtain ⟨rfl, he⟩ := hp
      obtain ⟨rfl, hf⟩ := hq
      have hef : e ≠ f := fun g => hpq (by rw [g])
      obtain ⟨t1, t2, t3, t4⟩ := two_roots hc he hf hef
      have key : Mz a b [(e, 0, false, 2), (f, 0, false, 2), (-e - f, 0, false, 2)] := by
        refine ⟨by simp, by simp, by simp, fun s hs u hu => ?_⟩
        simp only [List.mem_cons, List.not_mem_nil, or_false] at hs hu
        rcases hs with rfl | rfl | rfl <;> rcases hu with rfl | rfl | rfl
        · exact Or.inl (add_self a b e)
        · exact Or.inr ⟨(-e - f, 0, false, 2), by simp, add_roots a b hef⟩
        · exact Or.inr ⟨(f, 0, false, 2), by simp, by rw [add_roots a b (by omega)]; simp; omega⟩
        · exact Or.inr ⟨(-e - f, 0, false, 2), by simp, by rw [add_roots a b (by omega)]; simp; omega⟩
        · exact Or.inl (add_self a b f)
        · exact Or.inr ⟨(e, 0, false, 2), by simp, by rw [add_roots a b (by omega)]; simp; omega⟩
        · exact Or.inr ⟨(f, 0, false, 2), by simp, by rw [add_roots a b (by omega)]; simp; omega⟩
        · exact Or.inr ⟨(e, 0, false, 2), by simp, by rw [add_roots a b (by omega)]; simp; omega⟩
        · exact Or.inl (add_self a b _)
      refine key.same hnd ?_ fun z => ?_
      · simp; omega
      · rw [hx]
        constructor
        · rintro ⟨g1, g2⟩
          obtain ⟨x, r⟩ := z
          simp only at g1 g2
          subst g1
          rcases t4 x g2 with g | g | g <;> subst g <;> simp
        · intro h
          simp only [List.mem_cons, List.not_mem_nil, or_false] at h
          rcases h with rfl | rfl | rfl
          · exact ⟨rfl, he⟩
          · exact ⟨rfl, hf⟩
          · exact ⟨rfl, t1⟩
/-- MAZUR, up to 1000: of every curve. -/
theorem mz_all {a b : Int} (hc : Cu a b) : Mz a b (lkI a b) := by
  by_cases h : ∃ t ∈ tab, t.1 = a ∧ t.2.1 = b
  · obtain ⟨t, h1, h2, h3⟩ := h
    exact mz_tab hc h1 h2 h3
  · exact mz_roots hc fun t ht g => h ⟨t, ht, g⟩

end TN
end Go.Proofs.Ytknnidbdgfimbaa
end
