import Derived.Test.YtbeceimopamllaaDoorJnA
section
/- Plain facts: commutative groups with a list of all their members: Lagrange, a member whose order kills all, Cauchy, the way to the exponent, and what makes the number of members split as m n with m dividing n and t. -/
set_option linter.unusedVariables false
set_option maxRecDepth 100000
namespace Go.Proofs.YtbeceimopamllaaDoor
namespace AB

/-- A commutative group on what On holds of. -/
structure Gp (α : Type) where
  On : α → Prop
  z : α
  ad : α → α → α
  ng : α → α
  onz : On z
  onad : ∀ {q r}, On q → On r → On (ad q r)
  onng : ∀ {q}, On q → On (ng q)
  comm : ∀ {q r}, On q → On r → ad q r = ad r q
  assoc : ∀ {q r s}, On q → On r → On s → ad (ad q r) s = ad q (ad r s)
  zad : ∀ {q}, On q → ad z q = q
  inv : ∀ {q}, On q → ad q (ng q) = z

def ml {α : Type} (G : Gp α) (q : α) : Nat → α
  | 0 => G.z
  | n + 1 => G.ad (ml G q n) q

theorem adz {α : Type} (G : Gp α) {q : α} (hq : G.On q) : G.ad q G.z = q := by rw [G.comm hq G.onz, G.zad hq]
theorem ml_on {α : Type} (G : Gp α) {q : α} (hq : G.On q) : ∀ n, G.On (ml G q n)
  | 0 => G.onz
  | n + 1 => G.onad (ml_on G hq n) hq
theorem ml_add {α : Type} (G : Gp α) {q : α} (hq : G.On q) (m : Nat) : ∀ n, ml G q (m + n) = G.ad (ml G q m) (ml G q n)
  | 0 => by rw [Nat.add_zero, ml, adz G (ml_on G hq m)]
  | n + 1 => by rw [← Nat.add_assoc, ml, ml_add G hq m n, G.assoc (ml_on G hq m) (ml_on G hq n) hq]; rfl
theorem ml_one {α : Type} (G : Gp α) {q : α} (hq : G.On q) : ml G q 1 = q := by rw [ml, ml, G.zad hq]
theorem ml_mul {α : Type} (G : Gp α) {q : α} (hq : G.On q) (m : Nat) : ∀ n, ml G q (m * n) = ml G (ml G q m) n
  | 0 => rfl
  | n + 1 => by rw [Nat.mul_succ, ml_add G hq, ml_mul G hq m n, ml]
theorem swap4 {α : Type} (G : Gp α) {a b c d : α} (ha : G.On a) (hb : G.On b) (hc : G.On c) (hd : G.On d) : G.ad (G.ad a b) (G.ad c d) = G.ad (G.ad a c) (G.ad b d) := by
  rw [G.assoc ha hb (G.onad hc hd), ← G.assoc hb hc hd, G.comm hb hc, G.assoc hc hb hd, ← G.assoc ha hc (G.onad hb hd)]
theorem ml_ad {α : Type} (G : Gp α) {q r : α} (hq : G.On q) (hr : G.On r) : ∀ n, ml G (G.ad q r) n = G.ad (ml G q n) (ml G r n)
  | 0 => (G.zad G.onz).symm
  | n + 1 => by rw [ml, ml_ad G hq hr n, swap4 G (ml_on G hq n) (ml_on G hr n) hq hr]; rfl
theorem ml_z {α : Type} (G : Gp α) : ∀ n, ml G G.z n = G.z
  | 0 => rfl
  | n + 1 => by rw [ml, ml_z G n, G.zad G.onz]
theorem cancel {α : Type} (G : Gp α) {q r s : α} (hq : G.On q) (hr : G.On r) (hs : G.On s) (h : G.ad q s = G.ad r s) : q = r := by
  have e : G.ad (G.ad q s) (G.ng s) = G.ad (G.ad r s) (G.ng s) := by rw [h]
  rwa [G.assoc hq hs (G.onng hs), G.assoc hr hs (G.onng hs), G.inv hs, adz G hq, adz G hr] at e

/-- The order. -/
def Or {α : Type} (G : Gp α) (q : α) (k : Nat) : Prop := 0 < k ∧ ∀ n, ml G q n = G.z ↔ k ∣ n

theorem or_of {α : Type} (G : Gp α) {q : α} (hq : G.On q) {k : Nat} (h0 : 0 < k) (h1 : ml G q k = G.z) (h2 : ∀ j, 0 < j → j < k → ml G q j ≠ G.z) : Or G q k := by
  refine ⟨h0, fun n => ⟨fun h => ?_, fun ⟨c, hc⟩ => by rw [hc, ml_mul G hq, h1, ml_z]⟩⟩
  have e : ml G q (n % k) = G.z := by
    have e := Nat.div_add_mod n k
    rw [← e, ml_add G hq, ml_mul G hq, h1, ml_z, G.zad (ml_on G hq _)] at h
    exact h
  apply Classical.byContradiction
  intro hn
  have : n % k ≠ 0 := fun h => hn (Nat.dvd_of_mod_eq_zero h)
  exact h2 (n % k) (by omega) (Nat.mod_lt _ h0) e
theorem or_ex {α : Type} (G : Gp α) {q : α} (hq : G.On q) {n : Nat} (h0 : 0 < n) (h : ml G q n = G.z) : ∃ k, Or G q k ∧ k ∣ n := by
  have hleast : ∀ n, 0 < n → ml G q n = G.z → ∃ k, Or G q k := by
    intro n
    induction n using Nat.strongRecOn with
    | _ n ih =>
      intro hn hm
      by_cases h : ∃ m, 0 < m ∧ m < n ∧ ml G q m = G.z
      · obtain ⟨m, h1, h2, h3⟩ := h
        exact ih m h2 h1 h3
      · exact ⟨n, or_of G hq hn hm fun m h1 h2 h3 => h ⟨m, h1, h2, h3⟩⟩
  obtain ⟨k, hk⟩ := hleast n h0 h
  exact ⟨k, hk, (hk.2 n).1 h⟩
theorem or_mul {α : Type} (G : Gp α) {q : α} (hq : G.On q) {x y : Nat} (hx : 0 < x) (hy : 0 < y) (h : Or G q (x * y)) : Or G (ml G q x) y :=
  ⟨hy, fun n => by rw [← ml_mul G hq, h.2]; exact ⟨fun k => Nat.dvd_of_mul_dvd_mul_left hx k, fun k => Nat.mul_dvd_mul_left x k⟩⟩
theorem or_ad {α : Type} (G : Gp α) {q r : α} (hq : G.On q) (hr : G.On r) {u v : Nat} (hu : Or G q u) (hv : Or G r v) (hc : Nat.Coprime u v) : Or G (G.ad q r) (u * v) := by
  refine ⟨Nat.mul_pos hu.1 hv.1, fun n => ⟨fun h => ?_, fun ⟨c, hc⟩ => ?_⟩⟩
  · rw [ml_ad G hq hr] at h
    have h1 : u ∣ n := by
      have e : ml G (G.ad (ml G q n) (ml G r n)) v = G.z := by rw [h, ml_z]
      rw [ml_ad G (ml_on G hq n) (ml_on G hr n), ← ml_mul G hq, ← ml_mul G hr, (hv.2 (n * v)).2 ⟨n, Nat.mul_comm _ _⟩, adz G (ml_on G hq _)] at e
      exact hc.dvd_of_dvd_mul_right ((hu.2 _).1 e)
    have h2 : v ∣ n := by
      have e : ml G (G.ad (ml G q n) (ml G r n)) u = G.z := by rw [h, ml_z]
      rw [ml_ad G (ml_on G hq n) (ml_on G hr n), ← ml_mul G hq, ← ml_mul G hr, (hu.2 (n * u)).2 ⟨n, Nat.mul_comm _ _⟩, G.zad (ml_on G hr _)] at e
      exact hc.symm.dvd_of_dvd_mul_right ((hv.2 _).1 e)
    exact hc.mul_dvd_of_dvd_of_dvd h1 h2
  · rw [ml_ad G hq hr, (hu.2 n).2 ⟨v * c, by rw [hc, Nat.mul_assoc]⟩, (hv.2 n).2 ⟨u * c, by rw [hc, Nat.mul_comm u v, Nat.mul_assoc]⟩, G.zad G.onz]

/-- A list's sum. -/
def sm {α : Type} (G : Gp α) : List α → α
  | [] => G.z
  | q :: l => G.ad q (sm G l)
theorem sm_on {α : Type} (G : Gp α) : ∀ l : List α, (∀ q ∈ l, G.On q) → G.On (sm G l)
  | [], _ => G.onz
  | q :: l, h => G.onad (h q (by simp)) (sm_on G l fun r hr => h r (by simp [hr]))
theorem sm_perm {α : Type} (G : Gp α) {l k : List α} (h : l.Perm k) : (∀ q ∈ l, G.On q) → sm G l = sm G k := by
  induction h with
  | nil => intro _; rfl
  | cons x h ih => intro ho; rw [sm, sm, ih fun q hq => ho q (by simp [hq])]
  | swap x y l =>
    intro ho
    have hx := ho x (by simp)
    have hy := ho y (by simp)
    have hl := sm_on G l fun q hq => ho q (by simp [hq])
    rw [sm, sm, sm, sm, ← G.assoc hy hx hl, G.comm hy hx, G.assoc hx hy hl]
  | trans h1 h2 ih1 ih2 => intro ho; rw [ih1 ho, ih2 fun q hq => ho q (h1.mem_iff.2 hq)]
theorem sm_shift {α : Type} (G : Gp α) {q : α} (hq : G.On q) : ∀ l : List α, (∀ r ∈ l, G.On r) → sm G (l.map fun r => G.ad r q) = G.ad (sm G l) (ml G q l.length)
  | [], _ => (G.zad G.onz).symm
  | r :: l, h => by
    have hr := h r (by simp)
    have hl : ∀ s ∈ l, G.On s := fun s hs => h s (by simp [hs])
    rw [List.map_cons, sm, sm_shift G hq l hl, sm, List.length_cons, ml, swap4 G hr hq (sm_on G l hl) (ml_on G hq _), G.comm hq (ml_on G hq _)]

theorem perm_of {α : Type} [DecidableEq α] : ∀ {l k : List α}, l.Nodup → (∀ x ∈ l, x ∈ k) → k.length ≤ l.length → l.Perm k
  | [], k, _, _, hl => by
    have : k = [] := List.eq_nil_of_length_eq_zero (by simpa using hl)
    rw [this]
  | x :: l, k, nd, hs, hl => by
    have hx := hs x (by simp)
    have nd' := List.nodup_cons.1 nd
    refine (List.Perm.cons x (perm_of nd'.2 (fun y hy => ?_) ?_)).trans (List.perm_cons_erase hx).symm
    · have : y ≠ x := fun e => nd'.1 (e ▸ hy)
      exact (List.mem_erase_of_ne this).2 (hs y (by simp [hy]))
    · rw [List.length_erase_of_mem hx]; simp at hl; omega

/-- Lagrange. -/
theorem lagrange {α : Type} [DecidableEq α] (G : Gp α) {l : List α} (nd : l.Nodup) (hm : ∀ q, q ∈ l ↔ G.On q) {q : α} (hq : G.On q) : ml G q l.length = G.z := by
  have ho : ∀ r ∈ l, G.On r := fun r hr => (hm r).1 hr
  have nd' : (l.map fun r => G.ad r q).Nodup := by
    unfold List.Nodup
    rw [List.pairwise_map]
    refine List.Pairwise.imp_of_mem ?_ nd
    intro r s hr hs hne e
    exact hne (cancel G (ho r hr) (ho s hs) hq e)
  have hp : (l.map fun r => G.ad r q).Perm l := perm_of nd' (fun x hx => by
    obtain ⟨r, hr, rfl⟩ := List.mem_map.1 hx
    exact (hm _).2 (G.onad (ho r hr) hq)) (by simp)
  have e := sm_perm G hp (fun x hx => by
    obtain ⟨r, hr, rfl⟩ := List.mem_map.1 hx
    exact G.onad (ho r hr) hq)
  rw [sm_shift G hq l ho, G.comm (sm_on G l ho) (ml_on G hq _)] at e
  exact cancel G (ml_on G hq _) G.onz (sm_on G l ho) (by rw [e, G.zad (sm_on G l ho)])

theorem pr_cop {r c : Nat} (hr : Pr r) (h : ¬ r ∣ c) : Nat.Coprime r c := by
  rcases hr.2 (Nat.gcd r c) (Nat.gcd_dvd_left ..) with hg | hg
  · exact hg
  · exact absurd (hg ▸ Nat.gcd_dvd_right r c) h
theorem pr_split {r : Nat} (hr : Pr r) (n : Nat) (hn : 0 < n) : ∃ a m, n = r ^ a * m ∧ ¬ r ∣ m := by
  induction n using Nat.strongRecOn with
  | _ n ih =>
    by_cases h : r ∣ n
    · obtain ⟨m, rfl⟩ := h
      have h2 := hr.1
      have hm : 0 < m := Nat.pos_of_ne_zero (by rintro rfl; simp at hn)
      obtain ⟨a, k, h3, h4⟩ := ih m (by have := Nat.mul_le_mul_right m h2; omega) hm
      exact ⟨a + 1, k, by rw [Nat.pow_succ, Nat.mul_comm (r ^ a) r, Nat.mul_assoc, ← h3], h4⟩
    · exact ⟨0, n, by simp, h⟩
/-- What does not divide fails at a power of a prime. -/
theorem dvd_fail {n : Nat} (hn : 0 < n) (d : Nat) (hd : 0 < d) (h : ¬ d ∣ n) : ∃ r a m e, Pr r ∧ n = r ^ a * m ∧ ¬ r ∣ m ∧ d = r ^ (a + 1) * e := by
  induction d using Nat.strongRecOn with
  | _ d ih =>
    have hd2 : 2 ≤ d := by
      have : d ≠ 1 := by rintro rfl; exact h (Nat.one_dvd n)
      omega
    obtain ⟨r, hr, d1, rfl⟩ := pr_divisor d hd2
    have hr2 := hr.1
    have hd1 : 0 < d1 := Nat.pos_of_ne_zero (by rintro rfl; simp at hd)
    by_cases h1 : d1 ∣ n
    · obtain ⟨a, m, hm, hrm⟩ := pr_split hr n hn
      obtain ⟨i, c, hc, hrc⟩ := pr_split hr d1 hd1
      have hcm : c ∣ m := by
        have : c ∣ r ^ a * m := by rw [← hm]; exact Nat.dvd_trans ⟨r ^ i, by rw [hc, Nat.mul_comm]⟩ h1
        exact Nat.Coprime.dvd_of_dvd_mul_left (Nat.Coprime.pow_right a (pr_cop hr hrc).symm) this
      have hi : a ≤ i := by
        apply Classical.byContradiction
        intro hlt
        refine h ?_
        rw [hc, hm, ← Nat.mul_assoc, Nat.mul_comm r, ← Nat.pow_succ]
        exact Nat.mul_dvd_mul (Nat.pow_dvd_pow r (by omega)) hcm
      refine ⟨r, a, m, r ^ (i - a) * c, hr, hm, hrm, ?_⟩
      rw [hc, ← Nat.mul_assoc, ← Nat.mul_assoc, ← Nat.pow_add, show a + 1 + (i - a) = i + 1 by omega, Nat.pow_succ, Nat.mul_comm r]
    · obtain ⟨s, a, m, e, h2, h3, h4, h5⟩ := ih d1 (by have := Nat.mul_le_mul_right d1 hr2; omega) hd1 h1
      exact ⟨s, a, m, e * r, h2, h3, h4, by rw [← Nat.mul_assoc, ← h5, Nat.mul_comm]⟩

/-- One point's order kills all. -/
theorem max_or {α : Type} [DecidableEq α] (G : Gp α) {l : List α} (nd : l.Nodup) (hm : ∀ q, q ∈ l ↔ G.On q) : ∃ g n, G.On g ∧ Or G g n ∧ n ∣ l.length ∧ ∀ q, G.On q → ml G q n = G.z := by
  have hl : 0 < l.length := List.length_pos_of_mem ((hm _).2 G.onz)
  have key : ∀ k g n, G.On g → Or G g n → l.length - n ≤ k → ∃ g n, G.On g ∧ Or G g n ∧ n ∣ l.length ∧ ∀ q, G.On q → ml G q n = G.z := by
    intro k
    induction k with
    | zero =>
      intro g n hg hn hk
      have hd : n ∣ l.length := (hn.2 _).1 (lagrange G nd hm hg)
      have hle := Nat.le_of_dvd hl hd
      obtain rfl : n = l.length := by omega
      exact ⟨g, _, hg, hn, hd, fun q hq => lagrange G nd hm hq⟩
    | succ k ih =>
      intro g n hg hn hk
      by_cases hall : ∀ q, G.On q → ml G q n = G.z
      · exact ⟨g, n, hg, hn, (hn.2 _).1 (lagrange G nd hm hg), hall⟩
      · obtain ⟨q, hq⟩ := Classical.not_forall.1 hall
        obtain ⟨hq, hne⟩ := Classical.not_imp.1 hq
        obtain ⟨d, hd, _⟩ := or_ex G hq hl (lagrange G nd hm hq)
        obtain ⟨r, a, m, e, hr, e1, hrm, e2⟩ := dvd_fail hn.1 d hd.1 (fun h => hne ((hd.2 n).2 h))
        have hr2 := hr.1
        have hra : 0 < r ^ a := Nat.pow_pos (by omega)
        have hm0 : 0 < m := Nat.pos_of_ne_zero (by rintro rfl; exact hrm ⟨0, by simp⟩)
        have he0 : 0 < e := Nat.pos_of_ne_zero (by rintro rfl; have := hd.1; simp [e2] at this)
        have o1 := or_mul G hg hra hm0 (by rw [← e1]; exact hn)
        have o2 := or_mul G hq he0 (Nat.pow_pos (n := a + 1) (by omega : 0 < r)) (by rw [Nat.mul_comm, ← e2]; exact hd)
        have o3 := or_ad G (ml_on G hg _) (ml_on G hq _) o1 o2 (Nat.Coprime.pow_right (a + 1) (pr_cop hr hrm).symm)
        have e3 : m * r ^ (a + 1) = n * r := by rw [e1, Nat.pow_succ, ← Nat.mul_assoc, Nat.mul_comm m]
        rw [e3] at o3
        have hn0 := hn.1
        have : n * 2 ≤ n * r := Nat.mul_le_mul_left n hr2
        have hon := G.onad (ml_on G hg (r ^ a)) (ml_on G hq e)
        have hle := Nat.le_of_dvd hl ((o3.2 _).1 (lagrange G nd hm hon))
        exact ih _ _ hon o3 (by omega)
  exact key l.length G.z 1 G.onz ⟨by omega, fun n => ⟨fun _ => Nat.one_dvd n, fun _ => ml_z G n⟩⟩ (by omega)

/-- A group within. -/
structure Sub {α : Type} (G : Gp α) (H : List α) : Prop where
  nd : H.Nodup
  on : ∀ x ∈ H, G.On x
  z : G.z ∈ H
  ad : ∀ x ∈ H, ∀ y ∈ H, G.ad x y ∈ H
theorem Sub.ml {α : Type} {G : Gp α} {H : List α} (h : Sub G H) {x : α} (hx : x ∈ H) : ∀ n, ml G x n ∈ H
  | 0 => h.z
  | n + 1 => h.ad _ (Sub.ml h hx n) _ hx
theorem Sub.sub {α : Type} {G : Gp α} {H : List α} (h : Sub G H) {n : Nat} (hn : 0 < n) (hk : ∀ q, G.On q → AB.ml G q n = G.z) {x y t : α} (hx : x ∈ H) (hy : y ∈ H) (ht : G.On t) (e : x = G.ad y t) : t ∈ H := by
  have h1 := h.ad _ (h.ml hy (n - 1)) _ hx
  have e2 : AB.ml G y n = G.ad (AB.ml G y (n - 1)) y := by
    conv => lhs; rw [show n = n - 1 + 1 by omega]
    rfl
  rw [e, ← G.assoc (ml_on G (h.on y hy) _) (h.on y hy) ht, ← e2, hk y (h.on y hy), G.zad ht] at h1
  exact h1
def gr {α : Type} (G : Gp α) (H : List α) (q : α) : Nat → List α
  | 0 => []
  | k + 1 => gr G H q k ++ H.map fun h => G.ad h (ml G q k)
theorem gr_len {α : Type} (G : Gp α) (H : List α) (q : α) : ∀ k, (gr G H q k).length = H.length * k
  | 0 => rfl
  | k + 1 => by rw [gr, List.length_append, gr_len G H q k, List.length_map, Nat.mul_succ]
theorem gr_mem {α : Type} (G : Gp α) (H : List α) (q x : α) : ∀ k, x ∈ gr G H q k ↔ ∃ i, i < k ∧ ∃ h ∈ H, x = G.ad h (ml G q i)
  | 0 => by simp [gr]
  | k + 1 => by
    rw [gr, List.mem_append, gr_mem G H q x k, List.mem_map]
    constructor
    · rintro (⟨i, hi, h⟩ | ⟨h, hh, rfl⟩)
      · exact ⟨i, by omega, h⟩
      · exact ⟨k, by omega, h, hh, rfl⟩
    · rintro ⟨i, hi, h, hh, rfl⟩
      by_cases e : i = k
      · subst e; exact .inr ⟨h, hh, rfl⟩
      · exact .inl ⟨i, by omega, h, hh, rfl⟩
theorem grow {α : Type} {G : Gp α} {H : List α} (h : Sub G H) {n : Nat} (hn : 0 < n) (hk : ∀ q, G.On q → ml G q n = G.z) {q : α} (hq : G.On q) (hqn : ¬ q ∈ H) :
    ∃ k, 2 ≤ k ∧ k ∣ n ∧ Sub G (gr G H q k) := by
  have hex : ∀ m, 0 < m → ml G q m ∈ H → ∃ k, 0 < k ∧ ml G q k ∈ H ∧ ∀ j, 0 < j → j < k → ¬ ml G q j ∈ H := by
    intro m
    induction m using Nat.strongRecOn with
    | _ m ih =>
      intro h0 h1
      by_cases hx : ∃ j, 0 < j ∧ j < m ∧ ml G q j ∈ H
      · obtain ⟨j, h2, h3, h4⟩ := hx
        exact ih j h3 h2 h4
      · exact ⟨m, h0, h1, fun j h2 h3 h4 => hx ⟨j, h2, h3, h4⟩⟩
  obtain ⟨k, k0, kH, kl⟩ := hex n hn (by rw [hk q hq]; exact h.z)
  have hk2 : 2 ≤ k := by
    have : k ≠ 1 := by rintro rfl; rw [ml_one G hq] at kH; exact hqn kH
    omega
  have hsub : ∀ i j, i ≤ j → ml G q i ∈ H → ml G q j ∈ H → ml G q (j - i) ∈ H := by
    intro i j hij hi hj
    refine h.sub hn hk hj hi (ml_on G hq _) ?_
    rw [← ml_add G hq]; congr 1; omega
  have hdv : k ∣ n := by
    have e := Nat.div_add_mod n k
    have h1 : ml G q (k * (n / k)) ∈ H := by rw [ml_mul G hq]; exact h.ml kH _
    have h2 : ml G q n ∈ H := by rw [hk q hq]; exact h.z
    have h3 := hsub _ _ (by omega) h1 h2
    rw [show n - k * (n / k) = n % k by omega] at h3
    apply Classical.byContradiction
    intro hnd
    have : n % k ≠ 0 := fun e => hnd (Nat.dvd_of_mod_eq_zero e)
    exact kl _ (by omega) (Nat.mod_lt _ k0) h3
  refine ⟨k, hk2, hdv, ?_, ?_, ?_, ?_⟩
  · have : ∀ m, m ≤ k → (gr G H q m).Nodup := by
      intro m
      induction m with
      | zero => intro _; exact List.nodup_nil
      | succ m ih =>
        intro hm
        unfold List.Nodup
        rw [gr, List.pairwise_append]
        refine ⟨ih (by omega), ?_, ?_⟩
        · rw [List.pairwise_map]
          refine List.Pairwise.imp_of_mem ?_ h.nd
          intro r s hr hs hne e
          exact hne (cancel G (h.on r hr) (h.on s hs) (ml_on G hq m) e)
        · intro x hx y hy e
          obtain ⟨i, hi, u, hu, rfl⟩ := (gr_mem G H q x m).1 hx
          obtain ⟨v, hv, rfl⟩ := List.mem_map.1 hy
          rw [show m = m - i + i by omega, ml_add G hq, ← G.assoc (h.on v hv) (ml_on G hq _) (ml_on G hq _)] at e
          have e2 := cancel G (h.on u hu) (G.onad (h.on v hv) (ml_on G hq _)) (ml_on G hq i) e
          exact kl (m - i) (by omega) (by omega) (h.sub hn hk hu hv (ml_on G hq _) e2)
    exact this k (Nat.le_refl _)
  · intro x hx
    obtain ⟨i, hi, u, hu, rfl⟩ := (gr_mem G H q x k).1 hx
    exact G.onad (h.on u hu) (ml_on G hq i)
  · exact (gr_mem G H q _ k).2 ⟨0, k0, G.z, h.z, (G.zad G.onz).symm⟩
  · intro x hx y hy
    obtain ⟨i, hi, u, hu, rfl⟩ := (gr_mem G H q x k).1 hx
    obtain ⟨j, hj, v, hv, rfl⟩ := (gr_mem G H q y k).1 hy
    rw [swap4 G (h.on u hu) (ml_on G hq i) (h.on v hv) (ml_on G hq j), ← ml_add G hq]
    by_cases hij : i + j < k
    · exact (gr_mem G H q _ k).2 ⟨i + j, hij, _, h.ad _ hu _ hv, rfl⟩
    · refine (gr_mem G H q _ k).2 ⟨i + j - k, by omega, G.ad (G.ad u v) (ml G q k), h.ad _ (h.ad _ hu _ hv) _ kH, ?_⟩
      rw [G.assoc (G.onad (h.on u hu) (h.on v hv)) (ml_on G hq _) (ml_on G hq _), ← ml_add G hq]
      congr 2; omega

/-- Cauchy: a prime that divides their number divides what kills all. -/
theorem cauchy {α : Type} [DecidableEq α] (G : Gp α) {l : List α} (nd : l.Nodup) (hm : ∀ q, q ∈ l ↔ G.On q) {n : Nat} (hn : 0 < n) (hk : ∀ q, G.On q → ml G q n = G.z) {r : Nat} (hr : Pr r) (hd : r ∣ l.length) : r ∣ n := by
  have key : ∀ m H, Sub G H → l.length - H.length ≤ m → (r ∣ H.length → r ∣ n) → r ∣ n := by
    intro m
    induction m with
    | zero =>
      intro H hH hle himp
      have hp := perm_of hH.nd (fun x hx => (hm x).2 (hH.on x hx)) (by omega : l.length ≤ H.length)
      exact himp (by rw [hp.length_eq]; exact hd)
    | succ m ih =>
      intro H hH hle himp
      by_cases hall : ∀ q ∈ l, q ∈ H
      · have hp := perm_of nd hall (by
          have := (perm_of hH.nd (fun x hx => (hm x).2 (hH.on x hx)))
          apply Classical.byContradiction
          intro hlt
          have h2 := (this (by omega)).length_eq
          omega)
        exact himp (by rw [← hp.length_eq]; exact hd)
      · obtain ⟨q, hq⟩ := Classical.not_forall.1 hall
        obtain ⟨hq, hqn⟩ := Classical.not_imp.1 hq
        obtain ⟨k, hk2, hkn, hs⟩ := grow hH hn hk ((hm q).1 hq) hqn
        refine ih _ hs ?_ ?_
        · rw [gr_len]
          have hpos : 0 < H.length := List.length_pos_of_mem hH.z
          have : H.length * 2 ≤ H.length * k := Nat.mul_le_mul_left _ hk2
          omega
        · rw [gr_len]
          intro h
          rcases pr_mul hr h with h | h
          · exact himp h
          · exact Nat.dvd_trans h hkn
  refine key l.length [G.z] ⟨by simp, by simp [G.onz], by simp, by simp [G.zad G.onz]⟩ (by omega) ?_
  intro h
  have := hr.1
  have := Nat.le_of_dvd (by simp) h
  simp at this
  omega

theorem pow_le_of {r : Nat} (hr : Pr r) {x i j : Nat} (hx : ¬ r ∣ x) (h : r ^ i ∣ r ^ j * x) : i ≤ j := by
  apply Classical.byContradiction
  intro hlt
  refine hx ?_
  have h2 := hr.1
  have h1 : r ^ j * r ∣ r ^ j * x := Nat.dvd_trans (by rw [← Nat.pow_succ]; exact Nat.pow_dvd_pow r (by omega)) h
  exact Nat.dvd_of_mul_dvd_mul_left (Nat.pow_pos (by omega)) h1

/-- What is asked of a group's number N by its points, so that it splits as it should. -/
def Fl {α : Type} (G : Gp α) (N t : Nat) : Prop :=
  ∀ r, Pr r → r * r ∣ N → ∃ e, r ^ e ∣ t ∧ r ^ (e + e) ∣ N ∧ ((e = 1 ∧ ¬ r ^ 3 ∣ N) ∨ (r ^ (e + 1) ∣ N ∧ ∃ q, G.On q ∧ ml G q (N / r ^ (e + 1)) ≠ G.z))

theorem shape_of {α : Type} [DecidableEq α] (G : Gp α) {l : List α} (nd : l.Nodup) (hm : ∀ q, q ∈ l ↔ G.On q) {n m t : Nat} (hn : 0 < n) (hk : ∀ q, G.On q → ml G q n = G.z) (he : m * n = l.length) (ht : 0 < t) (hf : Fl G l.length t) : m ∣ n ∧ m ∣ t := by
  have hl : 0 < l.length := List.length_pos_of_mem ((hm _).2 G.onz)
  have hm0 : 0 < m := Nat.pos_of_ne_zero (by rintro rfl; simp at he; omega)
  have hno : ∀ r e, Pr r → r ^ (e + 1) ∣ m → (∃ q, G.On q ∧ ml G q (l.length / r ^ (e + 1)) ≠ G.z) → False := by
    intro r e hr ⟨c, hc⟩ ⟨q, hq, hne⟩
    refine hne ?_
    have h2 := hr.1
    have hpos : 0 < r ^ (e + 1) := Nat.pow_pos (by omega)
    rw [← he, hc, Nat.mul_assoc, Nat.mul_div_cancel_left _ hpos, Nat.mul_comm, ml_mul G hq, hk q hq, ml_z]
  have hrn : ∀ r, Pr r → r ∣ m → r ∣ n := fun r hr h => cauchy G nd hm hn hk hr (Nat.dvd_trans h ⟨n, he.symm⟩)
  have hrr : ∀ r, Pr r → r ∣ m → r * r ∣ l.length := fun r hr h => by rw [← he]; exact Nat.mul_dvd_mul h (hrn r hr h)
  have h3 : ∀ r, Pr r → r ^ 2 ∣ m → r ^ 3 ∣ l.length := fun r hr h => by
    rw [← he, Nat.pow_succ]
    exact Nat.mul_dvd_mul h (hrn r hr (Nat.dvd_trans ⟨r, by rw [Nat.pow_succ, Nat.pow_one]⟩ h))
  constructor
  · apply Classical.byContradiction
    intro hnd
    obtain ⟨r, a, M, E, hr, e1, hrM, e2⟩ := dvd_fail hn m hm0 hnd
    have hrm : r ∣ m := by rw [e2, Nat.pow_succ, Nat.mul_comm (r ^ a), Nat.mul_assoc]; exact ⟨_, rfl⟩
    have ha : 1 ≤ a := by
      have := hrn r hr hrm
      apply Classical.byContradiction
      intro h0
      obtain rfl : a = 0 := by omega
      rw [Nat.pow_zero, Nat.one_mul] at e1
      exact hrM (e1 ▸ this)
    obtain ⟨e, h1, h2, h4 | ⟨h5, h6⟩⟩ := hf r hr (hrr r hr hrm)
    · refine h4.2 (h3 r hr ?_)
      rw [e2]
      exact Nat.dvd_trans (Nat.pow_dvd_pow r (by omega)) ⟨E, rfl⟩
    · obtain ⟨c, x, hc, hx⟩ := pr_split hr m hm0
      have hce : c ≤ e := by
        apply Classical.byContradiction
        intro hlt
        refine hno r e hr ?_ h6
        rw [hc]
        exact Nat.dvd_trans (Nat.pow_dvd_pow r (by omega)) ⟨x, rfl⟩
      have hca : a + 1 ≤ c := by
        refine pow_le_of hr hx ?_
        rw [← hc, e2]; exact ⟨E, rfl⟩
      have hxM : ¬ r ∣ x * M := fun h => (pr_mul hr h).elim hx hrM
      have h7 : e + e ≤ c + a := by
        refine pow_le_of hr hxM ?_
        rw [Nat.pow_add r c a, Nat.mul_assoc, Nat.mul_left_comm (r ^ a), ← Nat.mul_assoc (r ^ c), ← hc, ← e1, he]
        exact h2
      omega
  · apply Classical.byContradiction
    intro hnd
    obtain ⟨r, a, M, E, hr, e1, hrM, e2⟩ := dvd_fail ht m hm0 hnd
    have hrm : r ∣ m := by rw [e2, Nat.pow_succ, Nat.mul_comm (r ^ a), Nat.mul_assoc]; exact ⟨_, rfl⟩
    obtain ⟨e, h1, h2, h4 | ⟨h5, h6⟩⟩ := hf r hr (hrr r hr hrm)
    · have hea : e ≤ a := pow_le_of hr hrM (e1 ▸ h1)
      refine h4.2 (h3 r hr ?_)
      rw [e2]
      exact Nat.dvd_trans (Nat.pow_dvd_pow r (by omega)) ⟨E, rfl⟩
    · have hea : e ≤ a := pow_le_of hr hrM (e1 ▸ h1)
      refine hno r e hr ?_ h6
      rw [e2]
      exact Nat.dvd_trans (Nat.pow_dvd_pow r (by omega)) ⟨E, rfl⟩

theorem getD_at {α : Type} (l : List α) (d : α) {i : Nat} (h : i < l.length) : l.getD i d = l[i] := by simp [List.getD, h]
/-- The program's way to the exponent. -/
theorem chain_ex {α : Type} [DecidableEq α] (G : Gp α) {l : List α} (nd : l.Nodup) (hm : ∀ q, q ∈ l ↔ G.On q) : ∃ N K : Nat → Nat, ∃ g, N 0 = 1 ∧ (∀ i, i < l.length → N (i + 1) = N i * K i ∧ Or G (ml G (l.getD i G.z) (N i)) (K i)) ∧
    (∀ i, i ≤ l.length → N i ∣ N l.length) ∧ N l.length ∣ l.length ∧ g ∈ l ∧ Or G g (N l.length) ∧ (∀ q, G.On q → ml G q (N l.length) = G.z) := by
  obtain ⟨g, n, hg, hgn, hnl, hk⟩ := max_or G nd hm
  have hoe : ∀ q, ∃ k, G.On q → Or G q k := fun q => by
    by_cases h : G.On q
    · obtain ⟨k, h1, _⟩ := or_ex G h hgn.1 (hk q h)
      exact ⟨k, fun _ => h1⟩
    · exact ⟨0, fun h2 => absurd h2 h⟩
  let ko : α → Nat := fun q => (hoe q).choose
  have hko : ∀ q, G.On q → Or G q (ko q) := fun q => (hoe q).choose_spec
  let N : Nat → Nat := fun i => Nat.rec (motive := fun _ => Nat) 1 (fun i x => x * ko (ml G (l.getD i G.z) x)) i
  have hget : ∀ i, i < l.length → G.On (l.getD i G.z) := fun i hi => by
    rw [getD_at l G.z hi]
    exact (hm _).1 (List.getElem_mem hi)
  have hstep : ∀ i, N (i + 1) = N i * ko (ml G (l.getD i G.z) (N i)) := fun i => rfl
  have hdiv : ∀ i, i ≤ l.length → N i ∣ n := by
    intro i
    induction i with
    | zero => intro _; exact Nat.one_dvd n
    | succ i ih =>
      intro hi
      obtain ⟨c, hc⟩ := ih (by omega)
      have h1 := hget i (by omega)
      have h2 : ml G (ml G (l.getD i G.z) (N i)) c = G.z := by rw [← ml_mul G h1, ← hc, hk _ h1]
      obtain ⟨d, hd⟩ := ((hko _ (ml_on G h1 (N i))).2 c).1 h2
      exact ⟨d, by rw [hstep, Nat.mul_assoc, ← hd, ← hc]⟩
  have hkill : ∀ i j, j < i → i ≤ l.length → ml G (l.getD j G.z) (N i) = G.z := by
    intro i j hji
    induction i with
    | zero => omega
    | succ i ih =>
      intro hi
      have h1 := hget j (by omega)
      rw [hstep, ml_mul G h1]
      by_cases e : j = i
      · subst e
        exact ((hko _ (ml_on G h1 _)).2 _).2 (Nat.dvd_refl _)
      · rw [ih (by omega) (by omega), ml_z]
  have hNn : N l.length = n := by
    refine Nat.dvd_antisymm (hdiv _ (Nat.le_refl _)) ?_
    obtain ⟨j, hj, hgj⟩ := List.getElem_of_mem ((hm g).2 hg)
    have h1 := hkill l.length j hj (Nat.le_refl _)
    rw [getD_at l G.z hj, hgj] at h1
    exact (hgn.2 _).1 h1
  refine ⟨N, fun i => ko (ml G (l.getD i G.z) (N i)), g, rfl, fun i hi => ⟨hstep i, hko _ (ml_on G (hget i hi) _)⟩, ?_, ?_, (hm g).2 hg, ?_, ?_⟩
  · rw [hNn]; exact hdiv
  · rw [hNn]; exact hnl
  · rw [hNn]; exact hgn
  · rw [hNn]; exact hk

end AB
end Go.Proofs.YtbeceimopamllaaDoor
end

section
/- Plain facts: curves stretched by u; a curve's group; what is asked of its number goes over. -/
set_option linter.unusedVariables false
set_option maxRecDepth 100000
namespace Go.Proofs.YtbeceimopamllaaDoor
namespace EC
/-- A point on a curve that is stretched by u. -/
def sc {p : Nat} [NeZero p] (u : Fin p) : Pt p → Pt p
  | none => none
  | some (x, y) => some (u * u * x, u * u * u * y)
theorem Slp.sc {p : Nat} [NeZero p] {a x1 y1 x2 y2 l u : Fin p} (h : Slp a x1 y1 x2 y2 l) : Slp (u * u * u * u * a) (u * u * x1) (u * u * u * y1) (u * u * x2) (u * u * u * y2) (u * l) := by
  obtain ⟨h1, h2⟩ := h
  exact ⟨by grobner, by grobner⟩
theorem Opp.sc {p : Nat} [NeZero p] {x1 y1 x2 y2 u v : Fin p} (hv : u * v = 1) : Opp (u * u * x1) (u * u * u * y1) (u * u * x2) (u * u * u * y2) ↔ Opp x1 y1 x2 y2 := by
  constructor
  · rintro ⟨h1, h2⟩; exact ⟨by grobner, by grobner⟩
  · rintro ⟨h1, h2⟩; exact ⟨by grobner, by grobner⟩
theorem Ad.sc {p : Nat} [NeZero p] {a u v : Fin p} (hv : u * v = 1) {P Q S : Pt p} (h : Ad a P Q S) : Ad (u * u * u * u * a) (EC.sc u P) (EC.sc u Q) (EC.sc u S) := by
  match P, Q with
  | none, Q => simp only [Ad] at h; rw [h]; simp only [EC.sc, Ad]
  | some (x1, y1), none => simp only [Ad] at h; rw [h]; simp only [EC.sc, Ad]
  | some (x1, y1), some (x2, y2) =>
    simp only [Ad] at h
    simp only [EC.sc, Ad]
    rcases h with ⟨h1, h2⟩ | ⟨h1, l, h2, h3⟩
    · refine .inl ⟨(Opp.sc hv).2 h1, ?_⟩
      rw [h2]
    · refine .inr ⟨fun k => h1 ((Opp.sc hv).1 k), u * l, h2.sc, ?_⟩
      rw [h3]
      simp only [Option.some.injEq, Prod.mk.injEq]
      exact ⟨by grobner, by grobner⟩

def sg (p u : Int) (q : Pn) : Pn := if q.far = true then farP else ⟨(u * u * q.x) % p, (u * u * u * q.y) % p, false⟩
theorem sg_far {p u : Int} {q : Pn} : (sg p u q).far = q.far := by
  unfold sg
  by_cases h : q.far = true
  · rw [if_pos h, h]; rfl
  · rw [if_neg h]; simp at h; rw [h]
theorem phi_sg {P : Nat} [NeZero P] (u : Int) (q : Pn) : (phi (sg P u q) : Pt P) = sc (cF u) (phi q) := by
  unfold phi
  rw [sg_far]
  by_cases h : q.far = true
  · rw [if_pos h, if_pos h]; rfl
  · rw [if_neg h, if_neg h]
    unfold sg
    rw [if_neg h]
    simp only [sc, cF_mod, cF_mul]
structure Sc (P : Nat) (u a b a' b' : Int) : Prop where
  u0 : u % (P : Int) ≠ 0
  a : a' % (P : Int) = (u * u * u * u * a) % (P : Int)
  b : b' % (P : Int) = (u * u * u * u * u * u * b) % (P : Int)
theorem sg_on {P : Nat} [NeZero P] {u a b a' b' : Int} (hs : Sc P u a b a' b') {q : Pn} (hq : On P a b q) : On P a' b' (sg P u q) := by
  have hP : (P : Int) ≠ 0 := by have := NeZero.ne P; omega
  have hP' : 0 < (P : Int) := by have := NeZero.ne P; omega
  rcases hq with ⟨h1, _⟩ | ⟨h1, h2, h3, h4, h5, h6⟩
  · unfold sg; rw [if_pos h1]; exact far_on _ _ _
  · unfold sg
    rw [if_neg (by rw [h1]; simp)]
    refine .inr ⟨rfl, Int.emod_nonneg _ hP, Int.emod_lt_of_pos _ hP', Int.emod_nonneg _ hP, Int.emod_lt_of_pos _ hP', ?_⟩
    have ha : (cF a' : Fin P) = cF u * cF u * cF u * cF u * cF a := by rw [cF_eq.2 hs.a]; simp only [cF_mul]
    have hb : (cF b' : Fin P) = cF u * cF u * cF u * cF u * cF u * cF u * cF b := by rw [cF_eq.2 hs.b]; simp only [cF_mul]
    have h7 : (cF (q.x * q.x * q.x + a * q.x + b - q.y * q.y) : Fin P) = 0 := cF_z.2 h6
    refine cF_z.1 ?_
    simp only [cF_sub, cF_add, cF_mul, cF_mod] at h7 ⊢
    rw [ha, hb]
    grobner
theorem sg_add {P : Nat} {u a b a' b' : Int} (hc : Cv P a b) (hc' : Cv P a' b') (hs : Sc P u a b a' b') {q r : Pn} (hq : On P a b q) (hr : On P a b r) : sg P u (padd P a q r) = padd P a' (sg P u q) (sg P u r) := by
  haveI := hc.nz
  obtain ⟨v, hv⟩ := fld_of hc.pr (cF u) (fun h => hs.u0 (cF_z.1 h))
  have h1 := (phi_add hc hq hr).sc hv
  have ha : (cF a' : Fin P) = cF u * cF u * cF u * cF u * cF a := by rw [cF_eq.2 hs.a]; simp only [cF_mul]
  rw [← phi_sg, ← phi_sg, ← phi_sg, ← ha] at h1
  exact phi_inj (sg_on hs (padd_on hc hq hr)) (padd_on hc' (sg_on hs hq) (sg_on hs hr)) (h1.uniq (fld_of hc.pr) (phi_add hc' (sg_on hs hq) (sg_on hs hr)))
theorem sg_mu {P : Nat} {u a b a' b' : Int} (hc : Cv P a b) (hc' : Cv P a' b') (hs : Sc P u a b a' b') {q : Pn} (hq : On P a b q) : ∀ n, sg P u (mu P a q n) = mu P a' (sg P u q) n
  | 0 => rfl
  | n + 1 => by
    haveI := hc.nz
    rw [mu, sg_add hc hc' hs (mu_on hc hq n) hq, sg_mu hc hc' hs hq n]; rfl
/-- What is not far stays so. -/
theorem sg_ne {P : Nat} {u a b a' b' : Int} (hc : Cv P a b) (hc' : Cv P a' b') (hs : Sc P u a b a' b') {q : Pn} (hq : On P a b q) {n : Nat} (h : mu P a q n ≠ farP) : mu P a' (sg P u q) n ≠ farP := by
  haveI := hc.nz
  intro e
  rw [← sg_mu hc hc' hs hq] at e
  have h1 : (sg P u (mu P a q n)).far = true := by rw [e]; rfl
  rw [sg_far] at h1
  exact h (far_of (mu_on hc hq n) h1)

/-- The curve's group. -/
def grp {P : Nat} {a b : Int} (hc : Cv P a b) : AB.Gp Pn :=
  haveI := hc.nz
  { On := On P a b, z := farP, ad := padd P a, ng := pneg P, onz := far_on _ _ _, onad := padd_on hc, onng := pneg_on hc, comm := padd_comm hc, assoc := padd_assoc hc, zad := fun {q} _ => padd_far P a q, inv := padd_neg hc }
theorem grp_ml {P : Nat} {a b : Int} (hc : Cv P a b) (q : Pn) : ∀ n, AB.ml (grp hc) q n = mu P a q n
  | 0 => rfl
  | n + 1 => by rw [AB.ml, grp_ml hc q n]; rfl
theorem Od.or {P : Nat} {a b : Int} (hc : Cv P a b) {q : Pn} (hq : On P a b q) {k : Nat} (h : Od P a q k) : AB.Or (grp hc) q k :=
  AB.or_of (grp hc) hq h.1 (by rw [grp_ml]; exact h.2.1) (fun j h1 h2 => by rw [grp_ml]; exact h.2.2 j h1 h2)
theorem Od.of {P : Nat} {a b : Int} (hc : Cv P a b) {q : Pn} {k : Nat} (h : AB.Or (grp hc) q k) : Od P a q k :=
  ⟨h.1, by rw [← grp_ml hc]; exact (h.2 k).2 (Nat.dvd_refl k), fun j h1 h2 e => by
    rw [← grp_ml hc] at e
    have := Nat.le_of_dvd h1 ((h.2 j).1 e)
    omega⟩
theorem fl_sc {P : Nat} {u a b a' b' : Int} (hc : Cv P a b) (hc' : Cv P a' b') (hs : Sc P u a b a' b') {N t : Nat} (h : AB.Fl (grp hc) N t) : AB.Fl (grp hc') N t := by
  haveI := hc.nz
  intro r hr hd
  obtain ⟨e, h1, h2, h3 | ⟨h3, q, hq, h4⟩⟩ := h r hr hd
  · exact ⟨e, h1, h2, .inl h3⟩
  · refine ⟨e, h1, h2, .inr ⟨h3, sg P u q, sg_on hs hq, ?_⟩⟩
    rw [grp_ml] at h4 ⊢
    exact sg_ne hc hc' hs hq h4
end EC
end Go.Proofs.YtbeceimopamllaaDoor
end
