/- What Genus answers. -/
import Derived.Test.YtijkanilpblogaeQgB
set_option linter.unusedSimpArgs false
set_option linter.unusedVariables false
set_option maxRecDepth 100000
namespace Go.Proofs.Ytijkanilpblogae
open Go.RowKit

/-- The fault of Genus. -/
def gfault (f : Qf) : Int × Int := if ffault f ≠ (0, 0) then ffault f else if f.disc < -2000 then (2, 0) else (0, 0)
theorem gfault_code {f : Qf} {c d : Int} (h : gfault f = (c, d)) : (c = 0 ∧ d = 0) ∨ c ≠ 0 := by
  unfold gfault at h
  split at h
  · exact ffault_code h
  · split at h
    · simp at h; omega
    · simp at h; omega
theorem gfault_ok {f : Qf} (h : gfault f = (0, 0)) : ffault f = (0, 0) ∧ -2000 ≤ f.disc := by
  unfold gfault at h
  split at h
  · rename_i h1; exact absurd h h1
  · rename_i h1
    split at h
    · simp at h
    · exact ⟨by simpa using h1, by omega⟩
/-- What it answers: nothing, or all rests without a divisor, rising. -/
structure GeOut (f : Qf) (l : List Int) : Prop where
  bad : gfault f ≠ (0, 0) → l = []
  good : gfault f = (0, 0) → l.Pairwise (· < ·) ∧ ∀ v, v ∈ l ↔ 0 ≤ v ∧ v < -f.disc ∧ MQ.Cp v (-f.disc) ∧ MQ.Vl (-f.disc) f v

/-- Two rising lists of the same are one. -/
theorem rise_ext : ∀ {l l' : List Int}, l.Pairwise (· < ·) → l'.Pairwise (· < ·) → (∀ v, v ∈ l ↔ v ∈ l') → l = l' := fun {l l'} h1 h2 h => by
  have n1 : l.Nodup := h1.imp (fun h e => by omega)
  have n2 : l'.Nodup := h2.imp (fun h e => by omega)
  exact ((List.perm_ext_iff_of_nodup n1 n2).2 h).eq_of_pairwise (le := (· < ·)) (fun a b _ _ h3 h4 => by omega) h1 h2
theorem gl_rise (B : Nat → Bool) (D i : Nat) : (gl B D i).Pairwise (· < ·) := by
  unfold gl
  refine List.pairwise_map.2 ?_
  refine (List.Pairwise.filter _ List.pairwise_lt_range).imp ?_
  intro a b h; omega
theorem mem_gl (B : Nat → Bool) (D : Nat) (v : Int) : v ∈ gl B D D ↔ ∃ i : Nat, v = (i : Int) ∧ i < D ∧ B i = true ∧ Nat.gcd i D = 1 := by
  unfold gl
  simp only [List.mem_map, List.mem_filter, List.mem_range, Bool.and_eq_true, beq_iff_eq]
  constructor
  · rintro ⟨j, ⟨h1, h2, h3⟩, rfl⟩
    exact ⟨j, rfl, h1, h2, h3⟩
  · rintro ⟨i, rfl, h1, h2, h3⟩
    exact ⟨i, ⟨h1, h2, h3⟩, rfl⟩
/-- The list is the reference's. -/
theorem ge_gl {f : Qf} {l : List Int} {D : Nat} {B : Nat → Bool} (h : GeOut f l) (hf : gfault f = (0, 0)) (hD : f.disc = -(D : Int)) (h1 : 1 ≤ D) (hm : Mk f D D 0 B) : l = gl B D D := by
  obtain ⟨h2, h3⟩ := h.good hf
  have e : -f.disc = (D : Int) := by omega
  rw [e] at h3
  refine rise_ext h2 (gl_rise B D D) (fun v => ?_)
  rw [h3 v, mem_gl]
  constructor
  · rintro ⟨v0, v1, cv, hv⟩
    obtain ⟨i, rfl⟩ : ∃ i : Nat, v = (i : Int) := ⟨v.toNat, by omega⟩
    exact ⟨i, rfl, by omega, (mk_vl h1 hm (by omega)).2 hv, by simpa [Int.gcd] using cv.gcd⟩
  · rintro ⟨i, rfl, h4, h5, h6⟩
    exact ⟨by omega, by omega, MQ.Cp.of_gcd (by simpa [Int.gcd] using h6), (mk_vl h1 hm h4).1 h5⟩
/-- Two lists are the same just if the genera are. -/
theorem ge_same {f o : Qf} {l l' : List Int} (h : GeOut f l) (k : GeOut o l') (hf : gfault f = (0, 0)) (hk : gfault o = (0, 0)) (hd : o.disc = f.disc) : l = l' ↔ ∀ v, MQ.Cp v (-f.disc) → (MQ.Vl (-f.disc) f v ↔ MQ.Vl (-f.disc) o v) := by
  obtain ⟨h2, h3⟩ := h.good hf
  obtain ⟨k2, k3⟩ := k.good hk
  have hneg := (ffault_ok (gfault_ok hf).1).2.2.1
  rw [hd] at k3
  generalize hD : -f.disc = D at *
  have D0 : 0 < D := by omega
  have em : ∀ a, MQ.Eqm D (a % D) a := fun a => ⟨-(a / D), by rw [Int.mul_neg]; have := Int.emod_add_mul_ediv a D; omega⟩
  have cpe : ∀ {a b : Int}, MQ.Eqm D a b → MQ.Cp a D → MQ.Cp b D := fun {a b} h k => by
    obtain ⟨q, hq⟩ := h
    obtain ⟨x, y, e⟩ := k
    exact ⟨x, y + x * q, by have : a = b + D * q := by omega
                            rw [this] at e; grind⟩
  constructor
  · rintro rfl v cv
    have hr := Int.emod_nonneg v (show D ≠ 0 by omega)
    have hr2 := Int.emod_lt_of_pos v D0
    have c2 := cpe (em v).symm cv
    have a1 := h3 (v % D)
    have a2 := k3 (v % D)
    constructor
    · intro hv
      exact ((a2.1 (a1.2 ⟨hr, hr2, c2, hv.eqm (em v).symm⟩)).2.2.2).eqm (em v)
    · intro hv
      exact ((a1.1 (a2.2 ⟨hr, hr2, c2, hv.eqm (em v).symm⟩)).2.2.2).eqm (em v)
  · intro hv
    refine rise_ext h2 k2 (fun v => ?_)
    rw [h3 v, k3 v]
    constructor
    · rintro ⟨a, b, c, d⟩; exact ⟨a, b, c, (hv v c).1 d⟩
    · rintro ⟨a, b, c, d⟩; exact ⟨a, b, c, (hv v c).2 d⟩

end Go.Proofs.Ytijkanilpblogae
