import Derived.Test.YtijkanilpblogaeRegionG
import Derived.Test.YtijkanilpblogaeQfM
import Derived.Test.YtijkanilpblogaeFormReducesWalk
import Derived.Test.YtijkanilpblogaeWholeD
import Derived.Test.YtijkanilpblogaeQfF
import Derived.Deep.LoopGhost
import Derived.Test.YtijkanilpblogaeQfL
import Derived.Test.YtijkanilpblogaeQfH
import Derived.Deep.CutBlock
import Derived.Test.YtijkanilpblogaeBigC
section
/- A region that draws its order: two may come up. -/
set_option linter.unusedSimpArgs false
set_option linter.unusedVariables false
set_option maxRecDepth 100000
namespace Go.Proofs.Ytijkanilpblogae
open Go.RowKit

section
variable {P : Program} {ops : Array Oper} {Q : Exit → Act → World → Prop} {md : Region.Mode} {S : World → Prop}

/-- Two may come up, and neither is g. -/
theorem wpAnyG_two {i j g : Nat} {oi oj : Oper} {fuel : Nat} {listed : Array Bool} {a : Act} {w : World} (hi : ops[i]? = some oi) (hj : ops[j]? = some oj) (hr : Region.ready md ops listed = [i, j])
    (h1 : ∀ K' : Act → World → Prop, Hid (∀ a w, S w → wpAnyG P md ops Q S g fuel (listed.setIfInBounds i true) a w → K' a w) → if Region.wanted oi (yielded ops a.tmps) = true then Oper.wp P oi a w K' Q else K' (a.put oi.dst undef) w)
    (h2 : ∀ K' : Act → World → Prop, Hid (∀ a w, S w → wpAnyG P md ops Q S g fuel (listed.setIfInBounds j true) a w → K' a w) → if Region.wanted oj (yielded ops a.tmps) = true then Oper.wp P oj a w K' Q else K' (a.put oj.dst undef) w) :
    wpAnyG P md ops Q S g (fuel + 1) listed a w := by
  refine ⟨fun h0 => (by rw [hr] at h0; cases h0), fun m hm => ?_⟩
  rw [hr] at hm
  simp at hm
  rcases hm with rfl | rfl
  · exact wpOp_step hi fun K' hK => h1 K' (fun a w h1 h2 => hK a w ⟨fun _ _ => h1, h2⟩)
  · exact wpOp_step hj fun K' hK => h2 K' (fun a w h1 h2 => hK a w ⟨fun _ _ => h1, h2⟩)
end
end Go.Proofs.Ytijkanilpblogae
end

section
/- A region that draws its order: three may come up. -/
set_option linter.unusedSimpArgs false
set_option linter.unusedVariables false
set_option maxRecDepth 100000
namespace Go.Proofs.Ytijkanilpblogae
open Go.RowKit

section
variable {P : Program} {ops : Array Oper} {Q : Exit → Act → World → Prop} {md : Region.Mode} {S : World → Prop}

/-- Three may come up, and none is g. -/
theorem wpAnyG_three {i j k g : Nat} {oi oj ok : Oper} {fuel : Nat} {listed : Array Bool} {a : Act} {w : World} (hi : ops[i]? = some oi) (hj : ops[j]? = some oj) (hk : ops[k]? = some ok) (hr : Region.ready md ops listed = [i, j, k])
    (h1 : ∀ K' : Act → World → Prop, Hid (∀ a w, S w → wpAnyG P md ops Q S g fuel (listed.setIfInBounds i true) a w → K' a w) → if Region.wanted oi (yielded ops a.tmps) = true then Oper.wp P oi a w K' Q else K' (a.put oi.dst undef) w)
    (h2 : ∀ K' : Act → World → Prop, Hid (∀ a w, S w → wpAnyG P md ops Q S g fuel (listed.setIfInBounds j true) a w → K' a w) → if Region.wanted oj (yielded ops a.tmps) = true then Oper.wp P oj a w K' Q else K' (a.put oj.dst undef) w)
    (h3 : ∀ K' : Act → World → Prop, Hid (∀ a w, S w → wpAnyG P md ops Q S g fuel (listed.setIfInBounds k true) a w → K' a w) → if Region.wanted ok (yielded ops a.tmps) = true then Oper.wp P ok a w K' Q else K' (a.put ok.dst undef) w) :
    wpAnyG P md ops Q S g (fuel + 1) listed a w := by
  refine ⟨fun h0 => (by rw [hr] at h0; cases h0), fun m hm => ?_⟩
  rw [hr] at hm
  simp at hm
  rcases hm with rfl | rfl | rfl
  · exact wpOp_step hi fun K' hK => h1 K' (fun a w h1 h2 => hK a w ⟨fun _ _ => h1, h2⟩)
  · exact wpOp_step hj fun K' hK => h2 K' (fun a w h1 h2 => hK a w ⟨fun _ _ => h1, h2⟩)
  · exact wpOp_step hk fun K' hK => h3 K' (fun a w h1 h2 => hK a w ⟨fun _ _ => h1, h2⟩)
end
end Go.Proofs.Ytijkanilpblogae
end

section
/- The reference's First; Disc of any form; blocks that are known whole. -/
set_option linter.unusedSimpArgs false
set_option linter.unusedVariables false
set_option maxRecDepth 100000
namespace Go.Proofs.Ytijkanilpblogae
open Go.RowKit

/-- The first form of a discriminant. -/
def firstOf (d : Int) : Qf := if d % 4 = 0 then ⟨1, 0, -d / 4⟩ else ⟨1, 1, (1 - d) / 4⟩

theorem firstOf_is {f : Qf} : MQ.Fst f (firstOf f.disc) := by
  obtain ⟨s, n, hs, e⟩ := MQ.disc_sn f
  unfold firstOf
  rw [e]
  rcases hs with rfl | rfl
  · rw [if_pos (by omega)]
    exact ⟨rfl, .inl rfl, by rw [e]; simp only [Qf.disc]; omega⟩
  · rw [if_neg (by omega)]
    exact ⟨rfl, .inr rfl, by rw [e]; simp only [Qf.disc]; omega⟩

theorem First_any (d : Int) (w : World) (h : -5000000000000 ≤ d ∧ d < 0) :
    Calls Try.prog 19 #[.int .i64 d] w fun e w' => e = .returned (firstOf d).v ∧ Below w.heap.size w w' := by
  have e1 : (-d).tdiv 4 = -d / 4 := Int.tdiv_eq_ediv_of_nonneg (by omega)
  have e2 : (1 - d).tdiv 4 = (1 - d) / 4 := Int.tdiv_eq_ediv_of_nonneg (by omega)
  have b1 : 0 ≤ -d / 4 ∧ -d / 4 ≤ 1250000000000 := by omega
  have b2 : 0 ≤ (1 - d) / 4 ∧ (1 - d) / 4 ≤ 1250000000000 := by omega
  have hm : (d.tmod 4 = 0) ↔ d % 4 = 0 := by
    constructor
    · intro h; exact Int.emod_eq_zero_of_dvd (Int.dvd_of_tmod_eq_zero h)
    · intro h; exact Int.tmod_eq_zero_of_dvd (Int.dvd_of_emod_eq_zero h)
  unfold firstOf
  by_cases h4 : d % 4 = 0
  · have h5 : d.tmod 4 = 0 := hm.2 h4
    rw [if_pos h4]
    generalize -d / 4 = q at *
    go_enter Try.func19, Try.ntmps19
    go_wp2
    refine bodyPost_ret (v := Qf.v ⟨1, 0, q⟩) (by simp [results, Try.results19, go_sem, Qf.v]) rfl ⟨rfl, ?_⟩
    exact al1 _ _
  · have h5 : d.tmod 4 ≠ 0 := fun h => h4 (hm.1 h)
    have h6 : (d.tmod 4 == 0) = false := by simpa using h5
    rw [if_neg h4]
    generalize (1 - d) / 4 = q at *
    go_enter Try.func19, Try.ntmps19
    go_wp2
    refine bodyPost_ret (v := Qf.v ⟨1, 1, q⟩) (by simp [results, Try.results19, go_sem, Qf.v]) rfl ⟨rfl, ?_⟩
    exact al1 _ _

/-- Whatever a form is, Disc answers a number. -/
theorem refDisc_wild (f : Qf) (w : World) : Calls Try.prog 15 #[f.v] w fun e w' => (∃ D : Int, e = .returned (.int .i64 D) ∧ (f.upto 1000000 → D = f.disc)) ∧ Below w.heap.size w w' := by
  by_cases hu : f.upto 1000000
  · refine (refDisc_any f w hu).mono ?_
    rintro e w' ⟨rfl, k⟩
    exact ⟨⟨_, rfl, fun _ => rfl⟩, k⟩
  · obtain ⟨a, b, c⟩ := f
    have HU : Hid (¬ Qf.upto 1000000 ⟨a, b, c⟩) := hu
    clear hu
    unfold Qf.v
    go_enter Try.func15, Try.ntmps15
    go_wp2
    go_ret
    exact ⟨⟨_, rfl, fun h => absurd h HU.out⟩, al1 _ _⟩

/-- Blocks that are known whole. -/
def Ms (l : List (Nat × List Value × TypeId)) (w W : World) : Prop := (∀ x ∈ l, Cl x.1 x.2.1 x.2.2 W) ∧ Below w.heap.size w W
theorem Ms.below {l : List (Nat × List Value × TypeId)} {w W W' : World} (h : Ms l w W) (k : Below W.heap.size W W') : Ms l w W' :=
  ⟨fun x hx => (h.1 x hx).below k, h.2.trans (k.mono h.2.size)⟩

theorem Ms.lt {l : List (Nat × List Value × TypeId)} {w W : World} (h : Ms l w W) : ∀ x ∈ l, x.1 < W.heap.size := fun x hx => (h.1 x hx).lt
theorem Ms.mono {l l' : List (Nat × List Value × TypeId)} {w W : World} (h : Ms l w W) (k : ∀ x ∈ l', x ∈ l) : Ms l' w W := ⟨fun x hx => h.1 x (k x hx), h.2⟩
theorem Ms.cons {l : List (Nat × List Value × TypeId)} {w W : World} (h : Ms l w W) {b : Nat} {xs : List Value} {t : TypeId} (k : Cl b xs t W) : Ms ((b, xs, t) :: l) w W :=
  ⟨fun x hx => by rcases List.mem_cons.1 hx with rfl | hx
                  · exact k
                  · exact h.1 x hx, h.2⟩
/-- A new block. -/
theorem Ms.new {l : List (Nat × List Value × TypeId)} {w W : World} (h : Ms l w W) (xs : List Value) (t : TypeId) : Ms ((W.heap.size, xs, t) :: l) w (W.alloc (.cells xs.toArray t)) := (h.below (al1 W _)).cons (Cl.new xs t W)
theorem Ms.other {l : List (Nat × List Value × TypeId)} {w W : World} (h : Ms l w W) {B : Nat} (hb : ∀ x ∈ l, x.1 < B) (hB : w.heap.size ≤ B) (i : Nat) (v : Value) : Ms l w (W.setCell ⟨B, i, none⟩ v) :=
  ⟨fun x hx => (h.1 x hx).other (show x.1 ≠ B by have := hb x hx; omega) v, h.2.setCell hB v⟩
/-- A block's three cells are written. -/
theorem Ms.set3 {l : List (Nat × List Value × TypeId)} {w W : World} {B : Nat} {t : TypeId} {x y z : Value} (h : Ms l w W) (k : Cl B [x, y, z] t W) (hb : ∀ x ∈ l, x.1 ≠ B) (hB : w.heap.size ≤ B) (a b c : Value) :
    Ms ((B, [a, b, c], t) :: l) w (((W.setCell ⟨B, 0, none⟩ a).setCell ⟨B, 1, none⟩ b).setCell ⟨B, 2, none⟩ c) :=
  Ms.cons ⟨fun x hx => (((h.1 x hx).other (hb x hx) a).other (hb x hx) b).other (hb x hx) c, ((h.2.setCell hB a).setCell hB b).setCell hB c⟩ (((k.set 0 a).set 1 b).set 2 c)
theorem Ms.set2 {l : List (Nat × List Value × TypeId)} {w W : World} {B : Nat} {t : TypeId} {x y : Value} (h : Ms l w W) (k : Cl B [x, y] t W) (hb : ∀ x ∈ l, x.1 ≠ B) (hB : w.heap.size ≤ B) (a b : Value) :
    Ms ((B, [a, b], t) :: l) w ((W.setCell ⟨B, 0, none⟩ a).setCell ⟨B, 1, none⟩ b) :=
  Ms.cons ⟨fun x hx => ((h.1 x hx).other (hb x hx) a).other (hb x hx) b, (h.2.setCell hB a).setCell hB b⟩ ((k.set 0 a).set 1 b)

end Go.Proofs.Ytijkanilpblogae
end

section
/- The reference's Left. -/
set_option linter.unusedSimpArgs false
set_option linter.unusedVariables false
set_option maxRecDepth 100000
namespace Go.Proofs.Ytijkanilpblogae
open Go.RowKit

theorem refLeft_any (a : Int) (m : Nat) (w : World) (ha : a.natAbs ≤ 4000000000000000000) (h0 : 0 < m) (hm : (m : Int) ≤ 1000000000000000000) :
    Calls Try.prog 11 #[.int .i64 a, .int .i64 m] w fun e w' => e = .returned (.int .i64 (a % (m : Int))) ∧ w' = w := by
  have hb : (a.tmod (m : Int)).natAbs < m := by rw [Int.natAbs_tmod]; exact Nat.mod_lt _ h0
  have t1 : ((m : Int) == 0) = false := beq_eq_false_iff_ne.2 (by omega)
  by_cases h : 0 ≤ a
  · have e : a.tmod (m : Int) = a % (m : Int) := Int.tmod_eq_emod_of_nonneg h
    have h1 : 0 ≤ a % (m : Int) := Int.emod_nonneg _ (by omega)
    have h2 : a % (m : Int) < (m : Int) := Int.emod_lt_of_pos _ (by omega)
    clear hb e
    go_enter Try.func11, Try.ntmps11
    go_wp2
    go_ret
    exact ⟨rfl, rfl⟩
  · by_cases hz : a.tmod (m : Int) < 0
    · have HE : Hid (a.tmod (m : Int) + (m : Int) = a % (m : Int)) := by
        show _ = _
        have e1 := Int.tmod_eq_emod (a := a) (b := (m : Int))
        rw [e1] at hz ⊢
        split at hz
        · have := Int.emod_nonneg a (show (m : Int) ≠ 0 by omega); omega
        · rename_i hc; rw [if_neg hc]; simp
      go_enter Try.func11, Try.ntmps11
      go_wp2
      go_ret
      exact ⟨ret_int HE.out, rfl⟩
    · have HE : Hid (a.tmod (m : Int) = a % (m : Int)) := by
        show _ = _
        have e1 := Int.tmod_eq_emod (a := a) (b := (m : Int))
        rw [e1] at hz ⊢
        split at hz
        · rename_i hc; rw [if_pos hc]; omega
        · have := Int.emod_lt_of_pos a (show 0 < (m : Int) by omega); simp at hz; omega
      go_enter Try.func11, Try.ntmps11
      go_wp2
      go_ret
      exact ⟨ret_int HE.out, rfl⟩

end Go.Proofs.Ytijkanilpblogae
end

section
/- The reference's ReducedOf. -/
set_option linter.unusedSimpArgs false
set_option linter.unusedVariables false
set_option maxRecDepth 100000
namespace Go.Proofs.Ytijkanilpblogae
open Go.RowKit

/-- On the way from f to a reduced form. -/
structure Rw (f g : Qf) (m : Mt) : Prop where
  up : g.upto 1000000
  pos : 1 ≤ g.a ∧ 1 ≤ g.c
  det : m.p * m.s - m.q * m.r = 1
  like : ∀ x y : Int, f.at (m.p * x + m.q * y) (m.r * x + m.s * y) = g.at x y
  neg : g.disc < 0

/-- How far it is at most. -/
def mu (g : Qf) : Nat := g.a.toNat * 4000000 + 2 * g.b.natAbs + if g.b < 0 then 1 else 0

def swp (g : Qf) : Qf := ⟨g.c, -g.b, g.a⟩
def shf (g : Qf) (k : Int) : Qf := ⟨g.a, g.b + 2 * k * g.a, g.c + k * g.b + k * k * g.a⟩

theorem pos_c {g : Qf} (ha : 1 ≤ g.a) (hd : g.disc < 0) : 1 ≤ g.c := by
  unfold Qf.disc at hd
  rcases Int.lt_or_le 0 g.c with h | h
  · omega
  · exfalso
    have h1 := sq_nn g.b
    have h2 : 4 * g.a * g.c ≤ 0 := by
      have := Int.mul_le_mul_of_nonneg_left h (show 0 ≤ 4 * g.a by omega)
      omega
    omega

theorem Rw.start {f : Qf} (h : ffault f = (0, 0)) : Rw f f ⟨1, 0, 0, 1⟩ := by
  obtain ⟨u, a, d, _⟩ := ffault_ok h
  exact ⟨u, ⟨a, pos_c a d⟩, by decide, fun x y => by simp, d⟩

theorem Rw.swapped {f g : Qf} {m : Mt} (h : Rw f g m) : Rw f (swp g) ⟨m.q, -m.p, m.s, -m.r⟩ := by
  obtain ⟨⟨a1, a2, a3, a4, a5, a6⟩, ⟨p1, p2⟩, dt, lk, ng⟩ := h
  refine ⟨⟨a5, a6, by show -1000000 ≤ -g.b; omega, by show -g.b ≤ 1000000; omega, a1, a2⟩, ⟨p2, p1⟩, ?_, ?_, ?_⟩
  · show m.q * -m.r - -m.p * m.s = 1
    grind
  · intro x y
    show f.at (m.q * x + -m.p * y) (m.s * x + -m.r * y) = _
    have := lk (-y) x
    rw [show m.p * -y + m.q * x = m.q * x + -m.p * y by grind, show m.r * -y + m.s * x = m.s * x + -m.r * y by grind] at this
    rw [this]
    simp only [Qf.at, swp]
    grind
  · unfold Qf.disc at ng ⊢
    show -g.b * -g.b - 4 * g.c * g.a < 0
    have : -g.b * -g.b = g.b * g.b := Int.neg_mul_neg ..
    have : 4 * g.c * g.a = 4 * g.a * g.c := by grind
    omega

/-- A shift that does not make B greater in size. -/
theorem Rw.shifted {f g : Qf} {m : Mt} (h : Rw f g m) (k : Int) (hb : (g.b + 2 * k * g.a) * (g.b + 2 * k * g.a) ≤ g.b * g.b) (hb1 : -1000000 ≤ g.b + 2 * k * g.a) (hb2 : g.b + 2 * k * g.a ≤ 1000000) : Rw f (shf g k) ⟨m.p, m.q + k * m.p, m.r, m.s + k * m.r⟩ := by
  obtain ⟨⟨a1, a2, a3, a4, a5, a6⟩, ⟨p1, p2⟩, dt, lk, ng⟩ := h
  have e : (shf g k).disc = g.disc := by simp only [Qf.disc, shf]; grind
  have hc1 := pos_c (g := shf g k) p1 (by rw [e]; exact ng)
  have hc2 : (shf g k).c ≤ g.c := by
    have e1 : 4 * g.a * (shf g k).c = (g.b + 2 * k * g.a) * (g.b + 2 * k * g.a) - g.disc := by simp only [Qf.disc, shf]; grind
    have e2 : 4 * g.a * g.c = g.b * g.b - g.disc := by simp only [Qf.disc]; omega
    rcases Int.lt_or_le g.c (shf g k).c with h | h
    · exfalso
      have := Int.mul_lt_mul_of_pos_left h (show 0 < 4 * g.a by omega)
      omega
    · exact h
  refine ⟨⟨a1, a2, hb1, hb2, by omega, by omega⟩, ⟨p1, hc1⟩, ?_, ?_, by rw [e]; exact ng⟩
  · show m.p * (m.s + k * m.r) - (m.q + k * m.p) * m.r = 1
    grind
  · intro x y
    show f.at (m.p * x + (m.q + k * m.p) * y) (m.r * x + (m.s + k * m.r) * y) = _
    have := lk (x + k * y) y
    rw [show m.p * (x + k * y) + m.q * y = m.p * x + (m.q + k * m.p) * y by grind, show m.r * (x + k * y) + m.s * y = m.r * x + (m.s + k * m.r) * y by grind] at this
    rw [this]
    simp only [Qf.at, shf]
    grind

theorem mu_swp {g : Qf} (hu : g.upto 1000000) (h0 : 1 ≤ g.c) (h : g.c < g.a) : mu (swp g) < mu g := by
  obtain ⟨a1, a2, a3, a4, a5, a6⟩ := hu
  unfold mu swp
  simp only []
  split <;> split <;> omega
theorem mu_same {g : Qf} (h : g.a = g.c) (hb : g.b < 0) : mu (swp g) < mu g := by
  unfold mu swp
  simp only []
  rw [if_pos hb]
  split <;> omega

/-- The k that is chosen. -/
structure Kc (g : Qf) (k : Int) : Prop where
  k1 : -1000000 ≤ k
  k2 : k ≤ 1000000
  b1 : -1000000 ≤ g.b + 2 * k * g.a
  b2 : g.b + 2 * k * g.a ≤ 1000000
  sq : (g.b + 2 * k * g.a) * (g.b + 2 * k * g.a) ≤ g.b * g.b
  mu : mu (shf g k) < mu g

theorem sq_of {x y : Int} (h1 : -y ≤ x) (h2 : x ≤ y) : x * x ≤ y * y := by
  have := sq_bd h1 h2 h1 h2
  exact this.2

theorem kc_of {g : Qf} {k : Int} (ha : 1 ≤ g.a) (hb : -1000000 ≤ g.b ∧ g.b ≤ 1000000) (E : Int) (hE : 2 * k * g.a = E) (hk : -1000000 ≤ k ∧ k ≤ 1000000)
    (h : (0 < g.b ∧ -g.b < g.b + E ∧ g.b + E < g.b) ∨ (g.b < 0 ∧ g.b < g.b + E ∧ g.b + E ≤ -g.b)) : Kc g k := by
  have hs : (g.b + 2 * k * g.a) * (g.b + 2 * k * g.a) ≤ g.b * g.b := by
    rw [hE]
    rcases h with h | h
    · exact sq_of (by omega) (by omega)
    · have := sq_of (x := g.b + E) (y := -g.b) (by omega) (by omega)
      rwa [Int.neg_mul_neg] at this
  refine ⟨hk.1, hk.2, by rw [hE]; omega, by rw [hE]; omega, hs, ?_⟩
  unfold mu shf
  simp only []
  rw [hE]
  split <;> split <;> omega

theorem kc_choice {g : Qf} {q k : Int} (ha : 1 ≤ g.a) (hb : -1000000 ≤ g.b ∧ g.b ≤ 1000000) (hq : (-g.b).tdiv (2 * g.a) = q)
    (h : (g.a < g.b ∧ ((q = 0 ∧ k = -1) ∨ (q ≠ 0 ∧ k = q))) ∨ (g.b ≤ -g.a ∧ ((q = 0 ∧ k = 1) ∨ (q ≠ 0 ∧ k = q)))) : Kc g k := by
  obtain ⟨E, hE⟩ : ∃ E, 2 * k * g.a = E := ⟨_, rfl⟩
  rcases h with ⟨h1, h2⟩ | ⟨h1, h2⟩
  · have e1 : q = -(g.b / (2 * g.a)) := by rw [← hq, Int.neg_tdiv, Int.tdiv_eq_ediv_of_nonneg (by omega)]
    have d1 := Int.mul_ediv_add_emod g.b (2 * g.a)
    have d2 := Int.emod_nonneg g.b (show 2 * g.a ≠ 0 by omega)
    have d3 := Int.emod_lt_of_pos g.b (show 0 < 2 * g.a by omega)
    obtain ⟨t, ht⟩ : ∃ t, t = g.b / (2 * g.a) := ⟨_, rfl⟩
    obtain ⟨r, hr⟩ : ∃ r, r = g.b % (2 * g.a) := ⟨_, rfl⟩
    rw [← ht] at e1 d1
    rw [← hr] at d1 d2 d3
    have ht0 : 0 ≤ t := by rw [ht]; exact Int.ediv_nonneg (by omega) (by omega)
    have ht1 : t ≤ g.b := by rw [ht]; exact Int.ediv_le_self _ (by omega)
    rcases h2 with ⟨h3, rfl⟩ | ⟨h3, rfl⟩
    · have t0 : t = 0 := by omega
      rw [t0] at d1
      exact kc_of ha hb E hE (by omega) (.inl ⟨by omega, by omega, by omega⟩)
    · have hM : E = -(2 * g.a * t) := by rw [← hE, e1]; grind
      have ht2 : 2 * g.a * 1 ≤ 2 * g.a * t := Int.mul_le_mul_of_nonneg_left (by omega) (by omega)
      exact kc_of ha hb E hE (by omega) (.inl ⟨by omega, by omega, by omega⟩)
  · have e1 : q = (-g.b) / (2 * g.a) := by rw [← hq, Int.tdiv_eq_ediv_of_nonneg (by omega)]
    have d1 := Int.mul_ediv_add_emod (-g.b) (2 * g.a)
    have d2 := Int.emod_nonneg (-g.b) (show 2 * g.a ≠ 0 by omega)
    have d3 := Int.emod_lt_of_pos (-g.b) (show 0 < 2 * g.a by omega)
    obtain ⟨t, ht⟩ : ∃ t, t = (-g.b) / (2 * g.a) := ⟨_, rfl⟩
    obtain ⟨r, hr⟩ : ∃ r, r = (-g.b) % (2 * g.a) := ⟨_, rfl⟩
    rw [← ht] at e1 d1
    rw [← hr] at d1 d2 d3
    have ht0 : 0 ≤ t := by rw [ht]; exact Int.ediv_nonneg (by omega) (by omega)
    have ht1 : t ≤ -g.b := by rw [ht]; exact Int.ediv_le_self _ (by omega)
    rcases h2 with ⟨h3, rfl⟩ | ⟨h3, rfl⟩
    · have t0 : t = 0 := by omega
      rw [t0] at d1
      exact kc_of ha hb E hE (by omega) (.inr ⟨by omega, by omega, by omega⟩)
    · have hM : E = 2 * g.a * t := by rw [← hE, e1]; grind
      have ht2 : 2 * g.a * 1 ≤ 2 * g.a * t := Int.mul_le_mul_of_nonneg_left (by omega) (by omega)
      exact kc_of ha hb E hE (by omega) (.inr ⟨by omega, by omega, by omega⟩)

/-- The memory of the walk. -/
structure Fo (b : Nat) (g : Qf) (w W : World) : Prop where
  f : Cl b g.l 32 W
  o : Cl (b + 1) [.int .i64 0, .int .i64 0, .int .i64 0] 32 W
  k : Below b w W
theorem Fo.below {b : Nat} {g : Qf} {w W W' : World} (h : Fo b g w W) (c : Below W.heap.size W W') : Fo b g w W' := ⟨h.f.below c, h.o.below c, h.k.trans (c.mono (Nat.le_of_lt h.f.lt))⟩
theorem Fo.set {b : Nat} {g : Qf} {w W : World} (h : Fo b g w W) (g' : Qf) : Fo b g' w (((W.setCell ⟨b, 0, none⟩ (.int .i64 g'.a)).setCell ⟨b, 1, none⟩ (.int .i64 g'.b)).setCell ⟨b, 2, none⟩ (.int .i64 g'.c)) :=
  ⟨((h.f.set 0 _).set 1 _).set 2 _, ((h.o.other (by show b + 1 ≠ b; omega) _).other (by show b + 1 ≠ b; omega) _).other (by show b + 1 ≠ b; omega) _, ((h.k.setCell (by show b ≤ b; omega) _).setCell (by show b ≤ b; omega) _).setCell (by show b ≤ b; omega) _⟩
theorem Fo.eq {b : Nat} {g g' : Qf} {w W : World} (h : Fo b g w W) (e : g = g') : Fo b g' w W := e ▸ h
theorem fo_new (w : World) (g : Qf) : Fo w.heap.size g w ((w.alloc (.cells #[.int .i64 g.a, .int .i64 g.b, .int .i64 g.c] 32)).alloc (.cells #[.int .i64 0, .int .i64 0, .int .i64 0] 32)) :=
  ⟨(Cl.new g.l _ w).alloc _, cl_new0 _ [.int .i64 0, .int .i64 0, .int .i64 0] _ _ (by simp), (al1 _ _).trans ((al1 _ _).mono (by simp))⟩

theorem Rw.rd {f g : Qf} {m : Mt} (h : Rw f g m) (hr : g.redB = true) : Rd f g m := ⟨hr, h.det, h.like⟩

set_option maxRecDepth 100000 in
set_option maxHeartbeats 4000000 in
theorem ReducedOf_any (f : Qf) (w : World) (hf : ffault f = (0, 0)) :
    Calls Try.prog 18 #[f.v] w fun e w' => (∃ g m, e = .returned g.v ∧ Rd f g m) ∧ Below w.heap.size w w' := by
  have HR0 : Hid (Rw f f ⟨1, 0, 0, 1⟩) := Rw.start hf
  have M0 := fo_new w f
  clear hf
  unfold Qf.v
  go_enter Try.func18, Try.ntmps18
  go_wp2
  go_loopg [6] (mu f) (fun gk _ wx => ∃ (g : Qf) (m : Mt), Hid (Rw f g m ∧ gk = mu g ∧ Fo w.heap.size g w wx))
  case atStart => exact ⟨f, ⟨1, 0, 0, 1⟩, HR0.out, rfl, M0⟩
  case round =>
    clear M0 HR0
    obtain ⟨g, m, HH⟩ := hrel
    have HR : Hid (Rw f g m) := HH.out.1
    have HG : Hid (gk = mu g) := HH.out.2.1
    have HF : Hid (Fo w.heap.size g w wr) := HH.out.2.2
    have HRed : Hid (∀ w, Calls Try.prog 16 #[g.v] w fun e w' => e = .returned (.bool g.redB) ∧ Below w.heap.size w w') := fun w => refReduced_any g w (by obtain ⟨a1, a2, a3, a4, a5, a6⟩ := HR.out.up; exact ⟨by omega, by omega, by omega, by omega, by omega, by omega⟩)
    unfold Qf.v at HRed
    have c0 := HF.out.f.cell 0
    have c1 := HF.out.f.cell 1
    have c2 := HF.out.f.cell 2
    simp at c0 c1 c2
    have lim1 := HR.out.pos.1
    have lim2 := HR.out.up.2.1
    have lim3 := HR.out.up.2.2.1
    have lim4 := HR.out.up.2.2.2.1
    have lim5 := HR.out.pos.2
    have lim6 := HR.out.up.2.2.2.2.2
    clear HH
    cases hrb : g.redB
    · rw [hrb] at HRed
      have HRb : Hid (g.redB = false) := hrb
      clear hrb lim1 lim2 lim3 lim4 lim5 lim6
      go_wp2_with fail
      refine (HRed.out _).mono ?_
      rintro e w1 ⟨rfl, k1⟩
      have HF1 : Hid (Fo w.heap.size g w w1) := HF.out.below k1
      clear c0 c1 c2 k1 HF
      have c0 := HF1.out.f.cell 0
      have c1 := HF1.out.f.cell 1
      have c2 := HF1.out.f.cell 2
      have d0 := HF1.out.f.frozen 0
      have d1 := HF1.out.f.frozen 1
      have d2 := HF1.out.f.frozen 2
      simp at c0 c1 c2
      have lim1 := HR.out.pos.1
      have lim2 := HR.out.up.2.1
      have lim3 := HR.out.up.2.2.1
      have lim4 := HR.out.up.2.2.2.1
      have lim5 := HR.out.pos.2
      have lim6 := HR.out.up.2.2.2.2.2
      by_cases hac : g.c < g.a
      · have b1 : decide (g.c < g.a) = true := decide_eq_true hac
        go_wp2
        go_roundg (mu (swp g))
        case rel => exact ⟨swp g, ⟨m.q, -m.p, m.s, -m.r⟩, HR.out.swapped, rfl, HF1.out.set (swp g)⟩
        case measure => rw [HG.out]; exact mu_swp HR.out.up HR.out.pos.2 hac
      · have b1 : decide (g.c < g.a) = false := decide_eq_false hac
        obtain ⟨q, hq⟩ : ∃ q, (-g.b).tdiv (2 * g.a) = q := ⟨_, rfl⟩
        have hz : (2 * g.a == 0) = false := beq_eq_false_iff_ne.2 (by omega)
        have hqb : -1000000 ≤ q ∧ q ≤ 1000000 := by
          have h2 := Int.natAbs_tdiv (-g.b) (2 * g.a)
          have h3 : (-g.b).natAbs.div (2 * g.a).natAbs ≤ (-g.b).natAbs := Nat.div_le_self _ _
          rw [hq] at h2
          omega
        by_cases hB : g.a < g.b
        · have b2 : decide (g.a < g.b) = true := decide_eq_true hB
          cases hq0 : (q == 0)
          · have hqn : q ≠ 0 := by simpa using hq0
            have HKc : Hid (Kc g q) := kc_choice HR.out.pos.1 ⟨HR.out.up.2.2.1, HR.out.up.2.2.2.1⟩ hq (.inl ⟨hB, .inr ⟨hqn, rfl⟩⟩)
            obtain ⟨E1, e1⟩ : ∃ E1, 2 * q * g.a = E1 := ⟨_, rfl⟩
            obtain ⟨E2, e2⟩ : ∃ E2, q * g.b = E2 := ⟨_, rfl⟩
            obtain ⟨E3, e3⟩ : ∃ E3, q * q = E3 := ⟨_, rfl⟩
            obtain ⟨E4, e4⟩ : ∃ E4, E3 * g.a = E4 := ⟨_, rfl⟩
            have x1 : -3000000 ≤ E1 ∧ E1 ≤ 3000000 := by have h1 := HKc.out.b1; have h2 := HKc.out.b2; rw [e1] at h1 h2; omega
            have x2 : -1000000000000 ≤ E2 ∧ E2 ≤ 1000000000000 := by rw [← e2]; exact sq_bd HKc.out.k1 HKc.out.k2 HR.out.up.2.2.1 HR.out.up.2.2.2.1
            have x3 : 0 ≤ E3 ∧ E3 ≤ 1000000000000 := by rw [← e3]; exact ⟨sq_nn _, (sq_bd HKc.out.k1 HKc.out.k2 HKc.out.k1 HKc.out.k2).2⟩
            have x4 : 0 ≤ E4 ∧ E4 ≤ 1000000000000000000 := by
              rw [← e4]
              exact ⟨Int.mul_nonneg x3.1 (by omega), by have h1 := Int.mul_le_mul x3.2 lim2 (by omega) (by omega); omega⟩
            have xk1 := HKc.out.k1
            have xk2 := HKc.out.k2
            have HSh : Hid (shf g q = ⟨g.a, g.b + E1, g.c + E2 + E4⟩) := by show shf g q = _; unfold shf; rw [e1, e2, e3, e4]
            go_wp2
            go_roundg (mu (shf g q))
            case rel => exact ⟨shf g q, ⟨m.p, m.q + q * m.p, m.r, m.s + q * m.r⟩, HR.out.shifted q HKc.out.sq HKc.out.b1 HKc.out.b2, rfl, by rw [HSh.out]; exact HF1.out.set ⟨g.a, g.b + E1, g.c + E2 + E4⟩⟩
            case measure => rw [HG.out]; exact HKc.out.mu
          · have hqn : q = 0 := by simpa using hq0
            have HKc : Hid (Kc g (-1)) := kc_choice HR.out.pos.1 ⟨HR.out.up.2.2.1, HR.out.up.2.2.2.1⟩ hq (.inl ⟨hB, .inl ⟨hqn, rfl⟩⟩)
            clear hqn
            go_wp2
            go_roundg (mu (shf g (-1)))
            case rel => exact ⟨shf g (-1), ⟨m.p, m.q + (-1) * m.p, m.r, m.s + (-1) * m.r⟩, HR.out.shifted (-1) HKc.out.sq HKc.out.b1 HKc.out.b2, rfl, Fo.eq (HF1.out.set ⟨g.a, g.b + -2 * g.a, g.c + -g.b + g.a⟩) (by unfold shf; congr 1 <;> omega)⟩
            case measure => rw [HG.out]; exact HKc.out.mu
        · have b2 : decide (g.a < g.b) = false := decide_eq_false hB
          by_cases hB2 : g.b ≤ -g.a
          · have b3 : decide (g.b ≤ -g.a) = true := decide_eq_true hB2
            cases hq0 : (q == 0)
            · have hqn : q ≠ 0 := by simpa using hq0
              have HKc : Hid (Kc g q) := kc_choice HR.out.pos.1 ⟨HR.out.up.2.2.1, HR.out.up.2.2.2.1⟩ hq (.inr ⟨hB2, .inr ⟨hqn, rfl⟩⟩)
              obtain ⟨E1, e1⟩ : ∃ E1, 2 * q * g.a = E1 := ⟨_, rfl⟩
              obtain ⟨E2, e2⟩ : ∃ E2, q * g.b = E2 := ⟨_, rfl⟩
              obtain ⟨E3, e3⟩ : ∃ E3, q * q = E3 := ⟨_, rfl⟩
              obtain ⟨E4, e4⟩ : ∃ E4, E3 * g.a = E4 := ⟨_, rfl⟩
              have x1 : -3000000 ≤ E1 ∧ E1 ≤ 3000000 := by have h1 := HKc.out.b1; have h2 := HKc.out.b2; rw [e1] at h1 h2; omega
              have x2 : -1000000000000 ≤ E2 ∧ E2 ≤ 1000000000000 := by rw [← e2]; exact sq_bd HKc.out.k1 HKc.out.k2 HR.out.up.2.2.1 HR.out.up.2.2.2.1
              have x3 : 0 ≤ E3 ∧ E3 ≤ 1000000000000 := by rw [← e3]; exact ⟨sq_nn _, (sq_bd HKc.out.k1 HKc.out.k2 HKc.out.k1 HKc.out.k2).2⟩
              have x4 : 0 ≤ E4 ∧ E4 ≤ 1000000000000000000 := by
                rw [← e4]
                exact ⟨Int.mul_nonneg x3.1 (by omega), by have h1 := Int.mul_le_mul x3.2 lim2 (by omega) (by omega); omega⟩
              have xk1 := HKc.out.k1
              have xk2 := HKc.out.k2
              have HSh : Hid (shf g q = ⟨g.a, g.b + E1, g.c + E2 + E4⟩) := by show shf g q = _; unfold shf; rw [e1, e2, e3, e4]
              go_wp2
              go_roundg (mu (shf g q))
              case rel => exact ⟨shf g q, ⟨m.p, m.q + q * m.p, m.r, m.s + q * m.r⟩, HR.out.shifted q HKc.out.sq HKc.out.b1 HKc.out.b2, rfl, by rw [HSh.out]; exact HF1.out.set ⟨g.a, g.b + E1, g.c + E2 + E4⟩⟩
              case measure => rw [HG.out]; exact HKc.out.mu
            · have hqn : q = 0 := by simpa using hq0
              have HKc : Hid (Kc g 1) := kc_choice HR.out.pos.1 ⟨HR.out.up.2.2.1, HR.out.up.2.2.2.1⟩ hq (.inr ⟨hB2, .inl ⟨hqn, rfl⟩⟩)
              clear hqn
              go_wp2
              go_roundg (mu (shf g (1)))
              case rel => exact ⟨shf g (1), ⟨m.p, m.q + (1) * m.p, m.r, m.s + (1) * m.r⟩, HR.out.shifted (1) HKc.out.sq HKc.out.b1 HKc.out.b2, rfl, Fo.eq (HF1.out.set ⟨g.a, g.b + 2 * g.a, g.c + g.b + g.a⟩) (by unfold shf; congr 1 <;> omega)⟩
              case measure => rw [HG.out]; exact HKc.out.mu
          · have b3 : decide (g.b ≤ -g.a) = false := decide_eq_false hB2
            have hsm : g.a = g.c ∧ g.b < 0 := by
              have h := HRb.out
              unfold Qf.redB at h
              simp at h
              omega
            have HSm : Hid (g.a = g.c ∧ g.b < 0) := hsm
            clear hsm
            go_wp2
            go_roundg (mu (swp g))
            case rel => exact ⟨swp g, ⟨m.q, -m.p, m.s, -m.r⟩, HR.out.swapped, rfl, HF1.out.set (swp g)⟩
            case measure => rw [HG.out]; exact mu_same HSm.out.1 HSm.out.2
    · rw [hrb] at HRed
      have HRd : Hid (Rd f g m) := HR.out.rd hrb
      clear hrb lim1 lim2 lim3 lim4 lim5 lim6
      go_wp2_with fail
      refine (HRed.out _).mono ?_
      rintro e w1 ⟨rfl, k1⟩
      have F1 := HF.out.below k1
      have HK1 : Hid (Below w.heap.size w w1) := F1.k
      clear c0 c1 c2 k1 HF
      have c0 := F1.f.cell 0
      have c1 := F1.f.cell 1
      have c2 := F1.f.cell 2
      have o0 := F1.o.cell 0
      have o1 := F1.o.cell 1
      have o2 := F1.o.cell 2
      have o3 := F1.o.frozen 0
      have o4 := F1.o.frozen 1
      have o5 := F1.o.frozen 2
      have o6 := F1.o.lt
      simp at c0 c1 c2 o0 o1 o2
      clear F1
      go_wp2
      refine bodyPost_ret (v := .agg #[.int .i64 g.a, .int .i64 g.b, .int .i64 g.c]) (by simp [results, Try.results18, go_sem, o0, o1, o2, o6]) rfl ⟨⟨g, m, rfl, HRd.out⟩, ?_⟩
      exact ((HK1.out.setCell (by simp <;> omega) _).setCell (by simp <;> omega) _).setCell (by simp <;> omega) _

end Go.Proofs.Ytijkanilpblogae
end

section
/- The reference's ReducedOf, of greater forms: made of QfG. -/
set_option linter.unusedSimpArgs false
set_option linter.unusedVariables false
set_option maxRecDepth 100000
namespace Go.Proofs.Ytijkanilpblogae.RB
open Go.RowKit

/-- On the way from f to a reduced form. -/
structure Rw (f g : Qf) (m : Mt) : Prop where
  up : g.upto 2800000000
  pos : 1 ≤ g.a ∧ 1 ≤ g.c
  det : m.p * m.s - m.q * m.r = 1
  like : ∀ x y : Int, f.at (m.p * x + m.q * y) (m.r * x + m.s * y) = g.at x y
  neg : g.disc < 0

/-- How far it is at most. -/
def mu (g : Qf) : Nat := g.a.toNat * 11200000000 + 2 * g.b.natAbs + if g.b < 0 then 1 else 0

theorem Rw.start {f : Qf} (u : f.upto 2800000000) (a : 1 ≤ f.a) (d : f.disc < 0) : Rw f f ⟨1, 0, 0, 1⟩ := ⟨u, ⟨a, pos_c a d⟩, by decide, fun x y => by simp, d⟩

theorem Rw.swapped {f g : Qf} {m : Mt} (h : Rw f g m) : Rw f (swp g) ⟨m.q, -m.p, m.s, -m.r⟩ := by
  obtain ⟨⟨a1, a2, a3, a4, a5, a6⟩, ⟨p1, p2⟩, dt, lk, ng⟩ := h
  refine ⟨⟨a5, a6, by show -2800000000 ≤ -g.b; omega, by show -g.b ≤ 2800000000; omega, a1, a2⟩, ⟨p2, p1⟩, ?_, ?_, ?_⟩
  · show m.q * -m.r - -m.p * m.s = 1
    grind
  · intro x y
    show f.at (m.q * x + -m.p * y) (m.s * x + -m.r * y) = _
    have := lk (-y) x
    rw [show m.p * -y + m.q * x = m.q * x + -m.p * y by grind, show m.r * -y + m.s * x = m.s * x + -m.r * y by grind] at this
    rw [this]
    simp only [Qf.at, swp]
    grind
  · unfold Qf.disc at ng ⊢
    show -g.b * -g.b - 4 * g.c * g.a < 0
    have : -g.b * -g.b = g.b * g.b := Int.neg_mul_neg ..
    have : 4 * g.c * g.a = 4 * g.a * g.c := by grind
    omega

/-- A shift that does not make B greater in size. -/
theorem Rw.shifted {f g : Qf} {m : Mt} (h : Rw f g m) (k : Int) (hb : (g.b + 2 * k * g.a) * (g.b + 2 * k * g.a) ≤ g.b * g.b) (hb1 : -2800000000 ≤ g.b + 2 * k * g.a) (hb2 : g.b + 2 * k * g.a ≤ 2800000000) : Rw f (shf g k) ⟨m.p, m.q + k * m.p, m.r, m.s + k * m.r⟩ := by
  obtain ⟨⟨a1, a2, a3, a4, a5, a6⟩, ⟨p1, p2⟩, dt, lk, ng⟩ := h
  have e : (shf g k).disc = g.disc := by simp only [Qf.disc, shf]; grind
  have hc1 := pos_c (g := shf g k) p1 (by rw [e]; exact ng)
  have hc2 : (shf g k).c ≤ g.c := by
    have e1 : 4 * g.a * (shf g k).c = (g.b + 2 * k * g.a) * (g.b + 2 * k * g.a) - g.disc := by simp only [Qf.disc, shf]; grind
    have e2 : 4 * g.a * g.c = g.b * g.b - g.disc := by simp only [Qf.disc]; omega
    rcases Int.lt_or_le g.c (shf g k).c with h | h
    · exfalso
      have := Int.mul_lt_mul_of_pos_left h (show 0 < 4 * g.a by omega)
      omega
    · exact h
  refine ⟨⟨a1, a2, hb1, hb2, by omega, by omega⟩, ⟨p1, hc1⟩, ?_, ?_, by rw [e]; exact ng⟩
  · show m.p * (m.s + k * m.r) - (m.q + k * m.p) * m.r = 1
    grind
  · intro x y
    show f.at (m.p * x + (m.q + k * m.p) * y) (m.r * x + (m.s + k * m.r) * y) = _
    have := lk (x + k * y) y
    rw [show m.p * (x + k * y) + m.q * y = m.p * x + (m.q + k * m.p) * y by grind, show m.r * (x + k * y) + m.s * y = m.r * x + (m.s + k * m.r) * y by grind] at this
    rw [this]
    simp only [Qf.at, shf]
    grind

theorem mu_swp {g : Qf} (hu : g.upto 2800000000) (h0 : 1 ≤ g.c) (h : g.c < g.a) : mu (swp g) < mu g := by
  obtain ⟨a1, a2, a3, a4, a5, a6⟩ := hu
  unfold mu swp
  simp only []
  split <;> split <;> omega
theorem mu_same {g : Qf} (h : g.a = g.c) (hb : g.b < 0) : mu (swp g) < mu g := by
  unfold mu swp
  simp only []
  rw [if_pos hb]
  split <;> omega

/-- The k that is chosen. -/
structure Kc (g : Qf) (k : Int) : Prop where
  k1 : -2800000000 ≤ k
  k2 : k ≤ 2800000000
  b1 : -2800000000 ≤ g.b + 2 * k * g.a
  b2 : g.b + 2 * k * g.a ≤ 2800000000
  sq : (g.b + 2 * k * g.a) * (g.b + 2 * k * g.a) ≤ g.b * g.b
  mu : mu (shf g k) < mu g

theorem kc_of {g : Qf} {k : Int} (ha : 1 ≤ g.a) (hb : -2800000000 ≤ g.b ∧ g.b ≤ 2800000000) (E : Int) (hE : 2 * k * g.a = E) (hk : -2800000000 ≤ k ∧ k ≤ 2800000000)
    (h : (0 < g.b ∧ -g.b < g.b + E ∧ g.b + E < g.b) ∨ (g.b < 0 ∧ g.b < g.b + E ∧ g.b + E ≤ -g.b)) : Kc g k := by
  have hs : (g.b + 2 * k * g.a) * (g.b + 2 * k * g.a) ≤ g.b * g.b := by
    rw [hE]
    rcases h with h | h
    · exact sq_of (by omega) (by omega)
    · have := sq_of (x := g.b + E) (y := -g.b) (by omega) (by omega)
      rwa [Int.neg_mul_neg] at this
  refine ⟨hk.1, hk.2, by rw [hE]; omega, by rw [hE]; omega, hs, ?_⟩
  unfold mu shf
  simp only []
  rw [hE]
  split <;> split <;> omega

theorem kc_choice {g : Qf} {q k : Int} (ha : 1 ≤ g.a) (hb : -2800000000 ≤ g.b ∧ g.b ≤ 2800000000) (hq : (-g.b).tdiv (2 * g.a) = q)
    (h : (g.a < g.b ∧ ((q = 0 ∧ k = -1) ∨ (q ≠ 0 ∧ k = q))) ∨ (g.b ≤ -g.a ∧ ((q = 0 ∧ k = 1) ∨ (q ≠ 0 ∧ k = q)))) : Kc g k := by
  obtain ⟨E, hE⟩ : ∃ E, 2 * k * g.a = E := ⟨_, rfl⟩
  rcases h with ⟨h1, h2⟩ | ⟨h1, h2⟩
  · have e1 : q = -(g.b / (2 * g.a)) := by rw [← hq, Int.neg_tdiv, Int.tdiv_eq_ediv_of_nonneg (by omega)]
    have d1 := Int.mul_ediv_add_emod g.b (2 * g.a)
    have d2 := Int.emod_nonneg g.b (show 2 * g.a ≠ 0 by omega)
    have d3 := Int.emod_lt_of_pos g.b (show 0 < 2 * g.a by omega)
    obtain ⟨t, ht⟩ : ∃ t, t = g.b / (2 * g.a) := ⟨_, rfl⟩
    obtain ⟨r, hr⟩ : ∃ r, r = g.b % (2 * g.a) := ⟨_, rfl⟩
    rw [← ht] at e1 d1
    rw [← hr] at d1 d2 d3
    have ht0 : 0 ≤ t := by rw [ht]; exact Int.ediv_nonneg (by omega) (by omega)
    have ht1 : t ≤ g.b := by rw [ht]; exact Int.ediv_le_self _ (by omega)
    rcases h2 with ⟨h3, rfl⟩ | ⟨h3, rfl⟩
    · have t0 : t = 0 := by omega
      rw [t0] at d1
      exact kc_of ha hb E hE (by omega) (.inl ⟨by omega, by omega, by omega⟩)
    · have hM : E = -(2 * g.a * t) := by rw [← hE, e1]; grind
      have ht2 : 2 * g.a * 1 ≤ 2 * g.a * t := Int.mul_le_mul_of_nonneg_left (by omega) (by omega)
      exact kc_of ha hb E hE (by omega) (.inl ⟨by omega, by omega, by omega⟩)
  · have e1 : q = (-g.b) / (2 * g.a) := by rw [← hq, Int.tdiv_eq_ediv_of_nonneg (by omega)]
    have d1 := Int.mul_ediv_add_emod (-g.b) (2 * g.a)
    have d2 := Int.emod_nonneg (-g.b) (show 2 * g.a ≠ 0 by omega)
    have d3 := Int.emod_lt_of_pos (-g.b) (show 0 < 2 * g.a by omega)
    obtain ⟨t, ht⟩ : ∃ t, t = (-g.b) / (2 * g.a) := ⟨_, rfl⟩
    obtain ⟨r, hr⟩ : ∃ r, r = (-g.b) % (2 * g.a) := ⟨_, rfl⟩
    rw [← ht] at e1 d1
    rw [← hr] at d1 d2 d3
    have ht0 : 0 ≤ t := by rw [ht]; exact Int.ediv_nonneg (by omega) (by omega)
    have ht1 : t ≤ -g.b := by rw [ht]; exact Int.ediv_le_self _ (by omega)
    rcases h2 with ⟨h3, rfl⟩ | ⟨h3, rfl⟩
    · have t0 : t = 0 := by omega
      rw [t0] at d1
      exact kc_of ha hb E hE (by omega) (.inr ⟨by omega, by omega, by omega⟩)
    · have hM : E = 2 * g.a * t := by rw [← hE, e1]; grind
      have ht2 : 2 * g.a * 1 ≤ 2 * g.a * t := Int.mul_le_mul_of_nonneg_left (by omega) (by omega)
      exact kc_of ha hb E hE (by omega) (.inr ⟨by omega, by omega, by omega⟩)

theorem Rw.rd {f g : Qf} {m : Mt} (h : Rw f g m) (hr : g.redB = true) : Rd f g m := ⟨hr, h.det, h.like⟩

theorem e4_bd {q a : Int} (h1 : -2800000000 ≤ q) (h2 : q ≤ 2800000000) (ha : 1 ≤ a) (h3 : -5600000000 ≤ 2 * q * a) (h4 : 2 * q * a ≤ 5600000000) : 0 ≤ q * q * a ∧ q * q * a ≤ 7840000000000000000 := by
  have e : q * q * a = q * (q * a) := Int.mul_assoc ..
  have e2 : 2 * q * a = 2 * (q * a) := Int.mul_assoc ..
  refine ⟨Int.mul_nonneg (sq_nn q) (by omega), ?_⟩
  rw [e]
  have := sq_bd (N := 2800000000) h1 h2 (show -2800000000 ≤ q * a by omega) (show q * a ≤ 2800000000 by omega)
  omega

set_option maxRecDepth 100000 in
set_option maxHeartbeats 4000000 in
theorem ReducedOf_any (f : Qf) (w : World) (u : f.upto 2800000000) (a : 1 ≤ f.a) (d : f.disc < 0) :
    Calls Try.prog 18 #[f.v] w fun e w' => (∃ g m, e = .returned g.v ∧ Rd f g m) ∧ Below w.heap.size w w' := by
  have HR0 : Hid (Rw f f ⟨1, 0, 0, 1⟩) := Rw.start u a d
  have M0 := fo_new w f
  clear u a d
  unfold Qf.v
  go_enter Try.func18, Try.ntmps18
  go_wp2
  go_loopg [6] (mu f) (fun gk _ wx => ∃ (g : Qf) (m : Mt), Hid (Rw f g m ∧ gk = mu g ∧ Fo w.heap.size g w wx))
  case atStart => exact ⟨f, ⟨1, 0, 0, 1⟩, HR0.out, rfl, M0⟩
  case round =>
    clear M0 HR0
    obtain ⟨g, m, HH⟩ := hrel
    have HR : Hid (Rw f g m) := HH.out.1
    have HG : Hid (gk = mu g) := HH.out.2.1
    have HF : Hid (Fo w.heap.size g w wr) := HH.out.2.2
    have HRed : Hid (∀ w, Calls Try.prog 16 #[g.v] w fun e w' => e = .returned (.bool g.redB) ∧ Below w.heap.size w w') := fun w => refReduced_any g w (by obtain ⟨a1, a2, a3, a4, a5, a6⟩ := HR.out.up; exact ⟨by omega, by omega, by omega, by omega, by omega, by omega⟩)
    unfold Qf.v at HRed
    have c0 := HF.out.f.cell 0
    have c1 := HF.out.f.cell 1
    have c2 := HF.out.f.cell 2
    simp at c0 c1 c2
    have lim1 := HR.out.pos.1
    have lim2 := HR.out.up.2.1
    have lim3 := HR.out.up.2.2.1
    have lim4 := HR.out.up.2.2.2.1
    have lim5 := HR.out.pos.2
    have lim6 := HR.out.up.2.2.2.2.2
    clear HH
    cases hrb : g.redB
    · rw [hrb] at HRed
      have HRb : Hid (g.redB = false) := hrb
      clear hrb lim1 lim2 lim3 lim4 lim5 lim6
      go_wp2_with fail
      refine (HRed.out _).mono ?_
      rintro e w1 ⟨rfl, k1⟩
      have HF1 : Hid (Fo w.heap.size g w w1) := HF.out.below k1
      clear c0 c1 c2 k1 HF
      have c0 := HF1.out.f.cell 0
      have c1 := HF1.out.f.cell 1
      have c2 := HF1.out.f.cell 2
      have d0 := HF1.out.f.frozen 0
      have d1 := HF1.out.f.frozen 1
      have d2 := HF1.out.f.frozen 2
      simp at c0 c1 c2
      have lim1 := HR.out.pos.1
      have lim2 := HR.out.up.2.1
      have lim3 := HR.out.up.2.2.1
      have lim4 := HR.out.up.2.2.2.1
      have lim5 := HR.out.pos.2
      have lim6 := HR.out.up.2.2.2.2.2
      by_cases hac : g.c < g.a
      · have b1 : decide (g.c < g.a) = true := decide_eq_true hac
        go_wp2
        go_roundg (mu (swp g))
        case rel => exact ⟨swp g, ⟨m.q, -m.p, m.s, -m.r⟩, HR.out.swapped, rfl, HF1.out.set (swp g)⟩
        case measure => rw [HG.out]; exact mu_swp HR.out.up HR.out.pos.2 hac
      · have b1 : decide (g.c < g.a) = false := decide_eq_false hac
        obtain ⟨q, hq⟩ : ∃ q, (-g.b).tdiv (2 * g.a) = q := ⟨_, rfl⟩
        have hz : (2 * g.a == 0) = false := beq_eq_false_iff_ne.2 (by omega)
        have hqb : -2800000000 ≤ q ∧ q ≤ 2800000000 := by
          have h2 := Int.natAbs_tdiv (-g.b) (2 * g.a)
          have h3 : (-g.b).natAbs.div (2 * g.a).natAbs ≤ (-g.b).natAbs := Nat.div_le_self _ _
          rw [hq] at h2
          omega
        by_cases hB : g.a < g.b
        · have b2 : decide (g.a < g.b) = true := decide_eq_true hB
          cases hq0 : (q == 0)
          · have hqn : q ≠ 0 := by simpa using hq0
            have HKc : Hid (Kc g q) := kc_choice HR.out.pos.1 ⟨HR.out.up.2.2.1, HR.out.up.2.2.2.1⟩ hq (.inl ⟨hB, .inr ⟨hqn, rfl⟩⟩)
            obtain ⟨E1, e1⟩ : ∃ E1, 2 * q * g.a = E1 := ⟨_, rfl⟩
            obtain ⟨E2, e2⟩ : ∃ E2, q * g.b = E2 := ⟨_, rfl⟩
            obtain ⟨E3, e3⟩ : ∃ E3, q * q = E3 := ⟨_, rfl⟩
            obtain ⟨E4, e4⟩ : ∃ E4, E3 * g.a = E4 := ⟨_, rfl⟩
            have x1 : -5600000000 ≤ E1 ∧ E1 ≤ 5600000000 := by have h1 := HKc.out.b1; have h2 := HKc.out.b2; rw [e1] at h1 h2; omega
            have x2 : -7840000000000000000 ≤ E2 ∧ E2 ≤ 7840000000000000000 := by rw [← e2]; exact sq_bd HKc.out.k1 HKc.out.k2 HR.out.up.2.2.1 HR.out.up.2.2.2.1
            have x3 : 0 ≤ E3 ∧ E3 ≤ 7840000000000000000 := by rw [← e3]; exact ⟨sq_nn _, (sq_bd HKc.out.k1 HKc.out.k2 HKc.out.k1 HKc.out.k2).2⟩
            have x4 : 0 ≤ E4 ∧ E4 ≤ 7840000000000000000 := by
              rw [← e4, ← e3]
              exact e4_bd HKc.out.k1 HKc.out.k2 lim1 (by rw [e1]; omega) (by rw [e1]; omega)
            have xk1 := HKc.out.k1
            have xk2 := HKc.out.k2
            have HSh : Hid (shf g q = ⟨g.a, g.b + E1, g.c + E2 + E4⟩) := by show shf g q = _; unfold shf; rw [e1, e2, e3, e4]
            have xs : 1 ≤ g.c + E2 + E4 ∧ g.c + E2 + E4 ≤ 2800000000 := by
              have h := HR.out.shifted q HKc.out.sq HKc.out.b1 HKc.out.b2
              have hc := h.pos.2
              have hu := h.up.2.2.2.2.2
              rw [HSh.out] at hc hu
              exact ⟨hc, hu⟩
            go_wp2
            go_roundg (mu (shf g q))
            case rel => exact ⟨shf g q, ⟨m.p, m.q + q * m.p, m.r, m.s + q * m.r⟩, HR.out.shifted q HKc.out.sq HKc.out.b1 HKc.out.b2, rfl, by rw [HSh.out]; exact HF1.out.set ⟨g.a, g.b + E1, g.c + E2 + E4⟩⟩
            case measure => rw [HG.out]; exact HKc.out.mu
          · have hqn : q = 0 := by simpa using hq0
            have HKc : Hid (Kc g (-1)) := kc_choice HR.out.pos.1 ⟨HR.out.up.2.2.1, HR.out.up.2.2.2.1⟩ hq (.inl ⟨hB, .inl ⟨hqn, rfl⟩⟩)
            clear hqn
            go_wp2
            go_roundg (mu (shf g (-1)))
            case rel => exact ⟨shf g (-1), ⟨m.p, m.q + (-1) * m.p, m.r, m.s + (-1) * m.r⟩, HR.out.shifted (-1) HKc.out.sq HKc.out.b1 HKc.out.b2, rfl, Fo.eq (HF1.out.set ⟨g.a, g.b + -2 * g.a, g.c + -g.b + g.a⟩) (by unfold shf; congr 1 <;> omega)⟩
            case measure => rw [HG.out]; exact HKc.out.mu
        · have b2 : decide (g.a < g.b) = false := decide_eq_false hB
          by_cases hB2 : g.b ≤ -g.a
          · have b3 : decide (g.b ≤ -g.a) = true := decide_eq_true hB2
            cases hq0 : (q == 0)
            · have hqn : q ≠ 0 := by simpa using hq0
              have HKc : Hid (Kc g q) := kc_choice HR.out.pos.1 ⟨HR.out.up.2.2.1, HR.out.up.2.2.2.1⟩ hq (.inr ⟨hB2, .inr ⟨hqn, rfl⟩⟩)
              obtain ⟨E1, e1⟩ : ∃ E1, 2 * q * g.a = E1 := ⟨_, rfl⟩
              obtain ⟨E2, e2⟩ : ∃ E2, q * g.b = E2 := ⟨_, rfl⟩
              obtain ⟨E3, e3⟩ : ∃ E3, q * q = E3 := ⟨_, rfl⟩
              obtain ⟨E4, e4⟩ : ∃ E4, E3 * g.a = E4 := ⟨_, rfl⟩
              have x1 : -5600000000 ≤ E1 ∧ E1 ≤ 5600000000 := by have h1 := HKc.out.b1; have h2 := HKc.out.b2; rw [e1] at h1 h2; omega
              have x2 : -7840000000000000000 ≤ E2 ∧ E2 ≤ 7840000000000000000 := by rw [← e2]; exact sq_bd HKc.out.k1 HKc.out.k2 HR.out.up.2.2.1 HR.out.up.2.2.2.1
              have x3 : 0 ≤ E3 ∧ E3 ≤ 7840000000000000000 := by rw [← e3]; exact ⟨sq_nn _, (sq_bd HKc.out.k1 HKc.out.k2 HKc.out.k1 HKc.out.k2).2⟩
              have x4 : 0 ≤ E4 ∧ E4 ≤ 7840000000000000000 := by
                rw [← e4, ← e3]
                exact e4_bd HKc.out.k1 HKc.out.k2 lim1 (by rw [e1]; omega) (by rw [e1]; omega)
              have xk1 := HKc.out.k1
              have xk2 := HKc.out.k2
              have HSh : Hid (shf g q = ⟨g.a, g.b + E1, g.c + E2 + E4⟩) := by show shf g q = _; unfold shf; rw [e1, e2, e3, e4]
              have xs : 1 ≤ g.c + E2 + E4 ∧ g.c + E2 + E4 ≤ 2800000000 := by
                have h := HR.out.shifted q HKc.out.sq HKc.out.b1 HKc.out.b2
                have hc := h.pos.2
                have hu := h.up.2.2.2.2.2
                rw [HSh.out] at hc hu
                exact ⟨hc, hu⟩
              go_wp2
              go_roundg (mu (shf g q))
              case rel => exact ⟨shf g q, ⟨m.p, m.q + q * m.p, m.r, m.s + q * m.r⟩, HR.out.shifted q HKc.out.sq HKc.out.b1 HKc.out.b2, rfl, by rw [HSh.out]; exact HF1.out.set ⟨g.a, g.b + E1, g.c + E2 + E4⟩⟩
              case measure => rw [HG.out]; exact HKc.out.mu
            · have hqn : q = 0 := by simpa using hq0
              have HKc : Hid (Kc g 1) := kc_choice HR.out.pos.1 ⟨HR.out.up.2.2.1, HR.out.up.2.2.2.1⟩ hq (.inr ⟨hB2, .inl ⟨hqn, rfl⟩⟩)
              clear hqn
              go_wp2
              go_roundg (mu (shf g (1)))
              case rel => exact ⟨shf g (1), ⟨m.p, m.q + (1) * m.p, m.r, m.s + (1) * m.r⟩, HR.out.shifted (1) HKc.out.sq HKc.out.b1 HKc.out.b2, rfl, Fo.eq (HF1.out.set ⟨g.a, g.b + 2 * g.a, g.c + g.b + g.a⟩) (by unfold shf; congr 1 <;> omega)⟩
              case measure => rw [HG.out]; exact HKc.out.mu
          · have b3 : decide (g.b ≤ -g.a) = false := decide_eq_false hB2
            have hsm : g.a = g.c ∧ g.b < 0 := by
              have h := HRb.out
              unfold Qf.redB at h
              simp at h
              omega
            have HSm : Hid (g.a = g.c ∧ g.b < 0) := hsm
            clear hsm
            go_wp2
            go_roundg (mu (swp g))
            case rel => exact ⟨swp g, ⟨m.q, -m.p, m.s, -m.r⟩, HR.out.swapped, rfl, HF1.out.set (swp g)⟩
            case measure => rw [HG.out]; exact mu_same HSm.out.1 HSm.out.2
    · rw [hrb] at HRed
      have HRd : Hid (Rd f g m) := HR.out.rd hrb
      clear hrb lim1 lim2 lim3 lim4 lim5 lim6
      go_wp2_with fail
      refine (HRed.out _).mono ?_
      rintro e w1 ⟨rfl, k1⟩
      have F1 := HF.out.below k1
      have HK1 : Hid (Below w.heap.size w w1) := F1.k
      clear c0 c1 c2 k1 HF
      have c0 := F1.f.cell 0
      have c1 := F1.f.cell 1
      have c2 := F1.f.cell 2
      have o0 := F1.o.cell 0
      have o1 := F1.o.cell 1
      have o2 := F1.o.cell 2
      have o3 := F1.o.frozen 0
      have o4 := F1.o.frozen 1
      have o5 := F1.o.frozen 2
      have o6 := F1.o.lt
      simp at c0 c1 c2 o0 o1 o2
      clear F1
      go_wp2
      refine bodyPost_ret (v := .agg #[.int .i64 g.a, .int .i64 g.b, .int .i64 g.c]) (by simp [results, Try.results18, go_sem, o0, o1, o2, o6]) rfl ⟨⟨g, m, rfl, HRd.out⟩, ?_⟩
      exact ((HK1.out.setCell (by simp <;> omega) _).setCell (by simp <;> omega) _).setCell (by simp <;> omega) _

end Go.Proofs.Ytijkanilpblogae.RB
end

section
/- What the reference's Composed finds, and that it is what two forms make: plain facts. -/
set_option linter.unusedSimpArgs false
set_option linter.unusedVariables false
set_option maxRecDepth 100000
namespace Go.Proofs.Ytijkanilpblogae.MQ

/-- What the reference's Composed asks of two forms. -/
structure Cin (f g : Qf) (D : Int) : Prop where
  rf : f.redB = true
  rg : g.redB = true
  fa : 1 ≤ f.a
  ga : 1 ≤ g.a
  df : f.disc = D
  dg : g.disc = D
  lo : -20000 ≤ D
  hi : D < 0
  pf : Pm f
  pg : Pm g

theorem red_small {f : Qf} {D : Int} (hr : f.redB = true) (ha : 1 ≤ f.a) (hd : f.disc = D) (lo : -20000 ≤ D) : f.a ≤ 81 ∧ f.c ≤ 5000 ∧ (2 ≤ f.a → f.c ≤ 2500) ∧ -f.a ≤ f.b ∧ f.b ≤ f.a ∧ f.a ≤ f.c := by
  obtain ⟨h1, h2, h3⟩ := redB_parts hr
  simp only [Qf.disc] at hd
  have e1 : f.b * f.b ≤ f.a * f.a := by
    have := Int.mul_nonneg (show 0 ≤ f.a - f.b by omega) (show 0 ≤ f.a + f.b by omega)
    grind
  have e2 : f.a * f.a ≤ f.a * f.c := Int.mul_le_mul_of_nonneg_left h3 (by omega)
  have e3 : 4 * f.a * f.c = 4 * (f.a * f.c) := Int.mul_assoc ..
  have a81 : f.a ≤ 81 := by
    rcases Int.lt_or_le f.a 82 with h | h
    · omega
    · have := Int.mul_le_mul h h (by omega) (by omega)
      omega
  have a2 : f.a * f.a ≤ 6561 := by
    have := Int.mul_le_mul a81 a81 (by omega) (by omega)
    omega
  refine ⟨a81, ?_, fun h => ?_, h1, h2, h3⟩
  · -- a = 1 or more
    rcases Int.lt_or_le 5000 f.c with h | h
    · exfalso
      have e4 : f.a * 5001 ≤ f.a * f.c := Int.mul_le_mul_of_nonneg_left (by omega) (by omega)
      have e5 : f.a * f.a ≤ 81 * f.a := Int.mul_le_mul_of_nonneg_right a81 (by omega)
      by_cases h1a : f.a = 1
      · rw [h1a] at e1 e4 hd e3; omega
      · omega
    · exact h
  · rcases Int.lt_or_le 2500 f.c with h4 | h4
    · exfalso
      have e4 : f.a * 2501 ≤ f.a * f.c := Int.mul_le_mul_of_nonneg_left (by omega) (by omega)
      have e5 : f.a * f.a ≤ 81 * f.a := Int.mul_le_mul_of_nonneg_right a81 (by omega)
      by_cases h2a : f.a = 2
      · rw [h2a] at e1 e4 hd e3; omega
      · omega
    · exact h4

/-- How far the search for x and y goes at most. -/
theorem search_xy {f g : Qf} {D : Int} (h : Cin f g D) : ∃ x y : Nat, Int.gcd x y = 1 ∧ Int.gcd (g.at x y) f.a = 1 ∧ ((g.a = 1 ∧ x + y = 1) ∨ (2 ≤ g.a ∧ x + y ≤ 82)) := by
  obtain ⟨a81, _, _, _, _, _⟩ := red_small h.rf h.fa h.df h.lo
  by_cases hg : g.a = 1
  · refine ⟨1, 0, by decide, ?_, .inl ⟨hg, rfl⟩⟩
    have : g.at (1 : Nat) (0 : Nat) = 1 := by simp [Qf.at, hg]
    rw [this]; simp
  · obtain ⟨x, y, x1, y1, hxy, c1, c2⟩ := choice h.pg h.fa
    refine ⟨x.toNat, y.toNat, ?_, ?_, .inr ⟨by have := h.ga; omega, ?_⟩⟩
    · rw [Int.toNat_of_nonneg (by omega), Int.toNat_of_nonneg (by omega)]; exact c1.gcd
    · rw [Int.toNat_of_nonneg (by omega), Int.toNat_of_nonneg (by omega)]; exact c2.gcd
    · have := Int.mul_nonneg (show 0 ≤ x - 1 by omega) (show 0 ≤ y - 1 by omega)
      have : x + y ≤ x * y + 1 := by grind
      omega

/-- What a form is at x and y up to k. -/
theorem at_few {g : Qf} {D : Int} (hr : g.redB = true) (ha : 1 ≤ g.a) (hd : g.disc = D) (lo : -20000 ≤ D) (hi : D < 0) {x y : Nat} (hk : (g.a = 1 ∧ x + y ≤ 1) ∨ (2 ≤ g.a ∧ x + y ≤ 82)) (h0 : 0 < x + y) : 1 ≤ g.at x y ∧ g.at x y ≤ 16810000 := by
  obtain ⟨_, c5, c2, b1, b2, ac⟩ := red_small hr ha hd lo
  have hx : (0 : Int) ≤ x := by omega
  have hy : (0 : Int) ≤ y := by omega
  have hxy : 0 ≤ (x : Int) * y := Int.mul_nonneg hx hy
  constructor
  · have hp := sq_nn (2 * g.a * x + g.b * y)
    have e : 4 * g.a * g.at x y = (2 * g.a * x + g.b * y) * (2 * g.a * x + g.b * y) + (-g.disc) * ((y : Int) * y) := by simp only [Qf.at, Qf.disc]; grind
    rw [hd] at e
    rcases Int.lt_or_le 0 (g.at x y) with h | h
    · omega
    · exfalso
      have h1 := Int.mul_le_mul_of_nonneg_left h (show 0 ≤ 4 * g.a by omega)
      rw [Int.mul_zero, e] at h1
      by_cases hy0 : y = 0
      · subst hy0
        have hx1 : (1 : Int) ≤ x := by omega
        have h2 : (2 : Int) * 1 ≤ 2 * g.a * x := by
          have := Int.mul_le_mul (show (2 : Int) ≤ 2 * g.a by omega) hx1 (by omega) (by omega)
          omega
        have h3 := Int.mul_le_mul h2 h2 (by omega) (by omega)
        simp at h1
        omega
      · have h2 : (1 : Int) ≤ (y : Int) * y := by
          have := Int.mul_le_mul (show (1 : Int) ≤ y by omega) (show (1 : Int) ≤ y by omega) (by omega) (by omega)
          omega
        have h3 := Int.mul_le_mul_of_nonneg_left h2 (show 0 ≤ -D by omega)
        omega
  · have e1 : g.a * ((x : Int) * x) ≤ g.c * ((x : Int) * x) := Int.mul_le_mul_of_nonneg_right ac (Int.mul_nonneg hx hx)
    have e2 : g.b * ((x : Int) * y) ≤ g.c * ((x : Int) * y) := Int.mul_le_mul_of_nonneg_right (by omega) hxy
    have e3 : 0 ≤ g.c * ((x : Int) * y) := Int.mul_nonneg (by omega) hxy
    have e4 : g.at x y ≤ g.c * (((x : Int) + y) * (x + y)) := by
      simp only [Qf.at]
      grind
    have hs : ((x : Int) + y) * (x + y) ≤ 1 ∧ g.c ≤ 5000 ∨ ((x : Int) + y) * (x + y) ≤ 6724 ∧ g.c ≤ 2500 := by
      rcases hk with ⟨_, h⟩ | ⟨h2, h⟩
      · left
        have := Int.mul_le_mul (show (x : Int) + y ≤ 1 by omega) (show (x : Int) + y ≤ 1 by omega) (by omega) (by omega)
        exact ⟨by omega, c5⟩
      · right
        have := Int.mul_le_mul (show (x : Int) + y ≤ 82 by omega) (show (x : Int) + y ≤ 82 by omega) (by omega) (by omega)
        exact ⟨by omega, c2 h2⟩
    have hq : 0 ≤ ((x : Int) + y) * (x + y) := Int.mul_nonneg (by omega) (by omega)
    rcases hs with ⟨h1, h2⟩ | ⟨h1, h2⟩
    · have := Int.mul_le_mul h2 h1 hq (by omega)
      omega
    · have := Int.mul_le_mul h2 h1 hq (by omega)
      omega

/-- r and s are found. -/
theorem search_rs {x y : Nat} (h : Int.gcd x y = 1) : ∃ r s : Int, -((x : Int) + y) ≤ r ∧ r ≤ (x : Int) + y + 1 ∧ -((x : Int) + y) ≤ s ∧ s ≤ (x : Int) + y + 1 ∧ (x : Int) * s - y * r = 1 := by
  obtain ⟨u, v, e⟩ := Cp.of_gcd h
  by_cases hy : y = 0
  · subst hy
    have hx : x = 1 := by simpa using h
    subst hx
    exact ⟨0, 1, by omega, by omega, by omega, by omega, by simp⟩
  · -- s = u mod y
    obtain ⟨q, hq⟩ : ∃ q, q = u / (y : Int) := ⟨_, rfl⟩
    have d1 := Int.mul_ediv_add_emod u (y : Int)
    have d2 := Int.emod_nonneg u (show (y : Int) ≠ 0 by omega)
    have d3 := Int.emod_lt_of_pos u (show (0 : Int) < y by omega)
    obtain ⟨s, hs⟩ : ∃ s, s = u % (y : Int) := ⟨_, rfl⟩
    rw [← hq, ← hs] at d1
    rw [← hs] at d2 d3
    have e2 : (x : Int) * s - y * (-(v + q * x)) = 1 := by
      have : u = y * q + s := d1.symm
      rw [this] at e
      grind
    obtain ⟨r, hr⟩ : ∃ r, r = -(v + q * x) := ⟨_, rfl⟩
    rw [← hr] at e2
    refine ⟨r, s, ?_, ?_, by omega, by omega, e2⟩
    · -- y r = x s - 1 >= -1
      rcases Int.lt_or_le r (-1) with h1 | h1
      · exfalso
        have h2 := Int.mul_le_mul_of_nonneg_left (show r ≤ -2 by omega) (show (0 : Int) ≤ y by omega)
        have h3 : 0 ≤ (x : Int) * s := Int.mul_nonneg (by omega) d2
        omega
      · omega
    · rcases Int.lt_or_le ((x : Int) + y + 1) r with h1 | h1
      · exfalso
        have h2 := Int.mul_le_mul_of_nonneg_left (show (x : Int) + 1 ≤ r by omega) (show (0 : Int) ≤ y by omega)
        have h3 : (x : Int) * s ≤ x * y := Int.mul_le_mul_of_nonneg_left (by omega) (by omega)
        grind
      · exact h1

/-- b is found. -/
theorem search_b {A B p q : Int} (hA : 1 ≤ A) (hB : 1 ≤ B) (h : Int.gcd A B = 1) (he : (p - q) % 2 = 0) : ∃ t : Nat, (t : Int) < B ∧ (p + 2 * A * t - q) % (2 * B) = 0 := by
  obtain ⟨u, v, e⟩ := Cp.of_gcd h
  obtain ⟨m, hm⟩ : ∃ m, q - p = 2 * m := ⟨(q - p) / 2, by omega⟩
  have d1 := Int.mul_ediv_add_emod (u * m) B
  have d2 := Int.emod_nonneg (u * m) (show B ≠ 0 by omega)
  have d3 := Int.emod_lt_of_pos (u * m) (show 0 < B by omega)
  generalize u * m / B = w at *
  obtain ⟨t, ht⟩ : ∃ t, t = u * m % B := ⟨_, rfl⟩
  rw [← ht] at d1 d2 d3
  refine ⟨t.toNat, by omega, ?_⟩
  rw [Int.toNat_of_nonneg d2]
  have e2 : p + 2 * A * t - q = 2 * B * (-(v * m) - A * w) := by
    have h1 : t = u * m - B * w := by omega
    rw [h1]
    have h2 : p - q = -(2 * m) := by omega
    have h3 : (u * A + v * B) * m = m := by rw [e]; simp
    grind
  rw [e2]
  exact Int.mul_emod_right ..

/-- What is answered is what f and g make. -/
theorem composed_is {f g h r : Qf} {D b c : Int} {m m' : Mt} (H : Cin f g D) (ha : 1 ≤ h.a) (cp : Int.gcd h.a f.a = 1) (lk : Lk g h m) (hb1 : (b - f.b) % (2 * f.a) = 0) (hb2 : (b - h.b) % (2 * h.a) = 0)
    (hc : b * b - D = 4 * (f.a * h.a) * c) (hr : 0 < r.a) (rd : Rd ⟨f.a * h.a, b, c⟩ r m') : Cz f g r := by
  have hpos : 0 < f.a * h.a := Int.mul_pos (by have := H.fa; omega) (by omega)
  have dh : h.disc = D := by
    obtain ⟨e1, e2, e3⟩ := lk.coef
    have hdet := lk.det
    have hg := H.dg
    have : h.disc = g.disc * ((m.p * m.s - m.q * m.r) * (m.p * m.s - m.q * m.r)) := by
      simp only [Qf.disc, e1, e2, e3, Qf.at]; grind
    rw [this, hdet, hg]; omega
  have dn : Qf.disc ⟨f.a * h.a, b, c⟩ = D := by simp only [Qf.disc]; grind
  refine Cz.of (f' := f) (g' := h) (h' := ⟨f.a * h.a, b, c⟩) (by have := H.fa; omega) (by have := H.ga; omega) (by have := H.fa; omega) (by omega) hpos hr (by rw [H.df]; exact H.hi) (by rw [H.dg, H.df]) rfl (by rw [dh, H.df]) (by rw [dn, H.df]) (Lk.refl f) lk rd ?_
  intro s n hs e
  have k1 := Fk.of (show 0 < f.a by have := H.fa; omega) hs e
  have k2 := Fk.of (show 0 < h.a by omega) hs (show h.disc = s * s + 4 * n by rw [dh, ← H.df, e])
  have k3 := Fk.of (f := ⟨f.a * h.a, b, c⟩) hpos hs (show _ = s * s + 4 * n by rw [dn, ← H.df, e])
  have b1 := k1.b
  have b2 := k2.b
  have b3 : b = 2 * ((b - s) / 2) + s := k3.b
  obtain ⟨t1, ht1⟩ := Int.dvd_of_emod_eq_zero hb1
  obtain ⟨t2, ht2⟩ := Int.dvd_of_emod_eq_zero hb2
  refine Co.both (t1 := -t1) (t2 := -t2) k1 k2 k3 H.pf (Cp.of_gcd cp).symm rfl ?_ ?_
  · show (f.b - s) / 2 - (b - s) / 2 = f.a * -t1
    have : 2 * f.a * t1 = 2 * (f.a * t1) := Int.mul_assoc ..
    have : f.a * -t1 = -(f.a * t1) := Int.mul_neg ..
    omega
  · show (h.b - s) / 2 - (b - s) / 2 = h.a * -t2
    have : 2 * h.a * t2 = 2 * (h.a * t2) := Int.mul_assoc ..
    have : h.a * -t2 = -(h.a * t2) := Int.mul_neg ..
    omega

end Go.Proofs.Ytijkanilpblogae.MQ
end

section
/- Points of a form: as many as its reduced form has; what the reference counts: plain facts. -/
set_option linter.unusedSimpArgs false
set_option linter.unusedVariables false
set_option maxRecDepth 100000
namespace Go.Proofs.Ytijkanilpblogae

/-- Of two lists without repetition, of which the one lies in the other by a map that parts what is different, the one is no longer. -/
theorem nodup_len {α β : Type} [DecidableEq β] : ∀ (A : List α) (B : List β) (φ : α → β), A.Nodup → (∀ a ∈ A, φ a ∈ B) → (∀ a ∈ A, ∀ b ∈ A, φ a = φ b → a = b) → A.length ≤ B.length
  | [], _, _, _, _, _ => Nat.zero_le _
  | a :: A, B, φ, hn, hm, hi => by
    have hb := hm a (List.mem_cons_self ..)
    have hn' := List.nodup_cons.1 hn
    have ih := nodup_len A (B.erase (φ a)) φ hn'.2
      (fun x hx => by
        have hne : φ x ≠ φ a := fun e => by
          have := hi x (List.mem_cons_of_mem _ hx) a (List.mem_cons_self ..) e
          subst this
          exact hn'.1 hx
        exact (List.mem_erase_of_ne hne).2 (hm x (List.mem_cons_of_mem _ hx)))
      (fun x hx y hy e => hi x (List.mem_cons_of_mem _ hx) y (List.mem_cons_of_mem _ hy) e)
    rw [List.length_erase_of_mem hb] at ih
    have : 0 < B.length := List.length_pos_of_mem hb
    simp
    omega

theorem nodup_fm {α : Type} (F : Nat → List α) (key : α → Nat) (h1 : ∀ i, (F i).Nodup) (h2 : ∀ i a, a ∈ F i → key a = i) : ∀ k, ((List.range k).flatMap F).Nodup
  | 0 => by simp
  | k + 1 => by
    rw [List.range_succ, List.flatMap_append]
    refine List.nodup_append.2 ⟨nodup_fm F key h1 h2 k, by simpa using h1 k, ?_⟩
    intro a ha b hb e
    subst e
    obtain ⟨i, hi, hai⟩ := List.mem_flatMap.1 ha
    have e1 := h2 i a hai
    have e2 := h2 k a (by simpa using hb)
    have := List.mem_range.1 hi
    omega

/-- What PointsMany counts at x, y and s. -/
def pk (g : Qf) (n : Int) (x y s : Nat) : List (Int × Int) :=
  if (x = 0 ∧ s % 2 = 1) ∨ (y = 0 ∧ 1 < s) then []
  else if g.at (if s % 2 = 1 then -(x : Int) else x) (if 1 < s then -(y : Int) else y) = n then [((if s % 2 = 1 then -(x : Int) else x), (if 1 < s then -(y : Int) else y))] else []
def quad4 (g : Qf) (n : Int) (x y k : Nat) : List (Int × Int) := (List.range k).flatMap (pk g n x y)
def rowP (g : Qf) (n : Int) (y k : Nat) : List (Int × Int) := (List.range k).flatMap fun x => quad4 g n x y 4
def allP (g : Qf) (n : Int) (K : Nat → Nat) (k : Nat) : List (Int × Int) := (List.range k).flatMap fun y => rowP g n y (K y)

theorem pk_mem {g : Qf} {n : Int} {x y s : Nat} {a : Int × Int} (h : a ∈ pk g n x y s) : ¬((x = 0 ∧ s % 2 = 1) ∨ (y = 0 ∧ 1 < s)) ∧ g.at a.1 a.2 = n ∧ a = ((if s % 2 = 1 then -(x : Int) else x), (if 1 < s then -(y : Int) else y)) := by
  unfold pk at h
  by_cases h0 : (x = 0 ∧ s % 2 = 1) ∨ (y = 0 ∧ 1 < s)
  · rw [if_pos h0] at h; simp at h
  · rw [if_neg h0] at h
    by_cases h1 : g.at (if s % 2 = 1 then -(x : Int) else x) (if 1 < s then -(y : Int) else y) = n
    · rw [if_pos h1] at h
      simp only [List.mem_singleton] at h
      subst h
      exact ⟨h0, h1, rfl⟩
    · rw [if_neg h1] at h; simp at h
theorem pk_nodup (g : Qf) (n : Int) (x y s : Nat) : (pk g n x y s).Nodup := by
  unfold pk
  by_cases h0 : (x = 0 ∧ s % 2 = 1) ∨ (y = 0 ∧ 1 < s)
  · rw [if_pos h0]; simp
  · rw [if_neg h0]
    by_cases h1 : g.at (if s % 2 = 1 then -(x : Int) else x) (if 1 < s then -(y : Int) else y) = n
    · rw [if_pos h1]; simp
    · rw [if_neg h1]; simp
def key4 (a : Int × Int) : Nat := (if a.1 < 0 then 1 else 0) + (if a.2 < 0 then 2 else 0)
theorem pk_key {g : Qf} {n : Int} {x y s : Nat} (hs : s < 4) {a : Int × Int} (h : a ∈ pk g n x y s) : key4 a = s ∧ a.1.natAbs = x ∧ a.2.natAbs = y := by
  obtain ⟨h0, _, e⟩ := pk_mem h
  subst e
  have hs4 : s = 0 ∨ s = 1 ∨ s = 2 ∨ s = 3 := by omega
  rcases hs4 with rfl | rfl | rfl | rfl
  · refine ⟨?_, by simp, by simp⟩
    have : ¬ ((x : Int) < 0) := by omega
    have : ¬ ((y : Int) < 0) := by omega
    simp [key4, *]
  · have hx : (-(x : Int)) < 0 := by simp at h0; omega
    have hy : ¬ ((y : Int) < 0) := by omega
    refine ⟨?_, by simp, by simp⟩
    show (if (if 1 % 2 = 1 then -(x : Int) else x) < 0 then 1 else 0) + (if (if 1 < 1 then -(y : Int) else y) < 0 then 2 else 0) = 1
    rw [if_pos (show 1 % 2 = 1 from rfl), if_neg (show ¬ 1 < 1 by omega), if_pos hx, if_neg hy]
  · have hx : ¬ ((x : Int) < 0) := by omega
    have hy : (-(y : Int)) < 0 := by simp at h0; omega
    refine ⟨?_, by simp, by simp⟩
    show (if (if 2 % 2 = 1 then -(x : Int) else x) < 0 then 1 else 0) + (if (if 1 < 2 then -(y : Int) else y) < 0 then 2 else 0) = 2
    rw [if_neg (show ¬ 2 % 2 = 1 by decide), if_pos (show 1 < 2 by omega), if_neg hx, if_pos hy]
  · have hx : (-(x : Int)) < 0 := by simp at h0; omega
    have hy : (-(y : Int)) < 0 := by simp at h0; omega
    refine ⟨?_, by simp, by simp⟩
    show (if (if 3 % 2 = 1 then -(x : Int) else x) < 0 then 1 else 0) + (if (if 1 < 3 then -(y : Int) else y) < 0 then 2 else 0) = 3
    rw [if_pos (show 3 % 2 = 1 by decide), if_pos (show 1 < 3 by omega), if_pos hx, if_pos hy]
theorem quad4_mem {g : Qf} {n : Int} {x y k : Nat} (hk : k ≤ 4) {a : Int × Int} (h : a ∈ quad4 g n x y k) : a.1.natAbs = x ∧ a.2.natAbs = y ∧ g.at a.1 a.2 = n := by
  obtain ⟨s, hs, h⟩ := List.mem_flatMap.1 h
  have hs := List.mem_range.1 hs
  have := pk_key (by omega) h
  exact ⟨this.2.1, this.2.2, (pk_mem h).2.1⟩
theorem quad4_nodup (g : Qf) (n : Int) (x y : Nat) : (quad4 g n x y 4).Nodup := by
  have h : quad4 g n x y 4 = (List.range 4).flatMap (fun s => if s < 4 then pk g n x y s else []) := by
    unfold quad4
    simp [List.range, List.range.loop]
  rw [h]
  refine nodup_fm _ key4 (fun s => ?_) (fun s a ha => ?_) 4
  · split
    · exact pk_nodup ..
    · simp
  · split at ha
    · rename_i hs; exact (pk_key hs ha).1
    · simp at ha
theorem rowP_nodup (g : Qf) (n : Int) (y k : Nat) : (rowP g n y k).Nodup :=
  nodup_fm _ (fun a => a.1.natAbs) (fun x => quad4_nodup g n x y) (fun x a ha => (quad4_mem (by omega) ha).1) k
theorem rowP_mem {g : Qf} {n : Int} {y k : Nat} {a : Int × Int} (h : a ∈ rowP g n y k) : a.2.natAbs = y ∧ g.at a.1 a.2 = n := by
  obtain ⟨x, hx, h⟩ := List.mem_flatMap.1 h
  exact ⟨(quad4_mem (by omega) h).2.1, (quad4_mem (by omega) h).2.2⟩
theorem allP_nodup (g : Qf) (n : Int) (K : Nat → Nat) (k : Nat) : (allP g n K k).Nodup :=
  nodup_fm _ (fun a => a.2.natAbs) (fun y => rowP_nodup g n y (K y)) (fun y a ha => (rowP_mem ha).1) k
theorem allP_at {g : Qf} {n : Int} {K : Nat → Nat} {k : Nat} {a : Int × Int} (h : a ∈ allP g n K k) : g.at a.1 a.2 = n := by
  obtain ⟨y, hy, h⟩ := List.mem_flatMap.1 h
  exact (rowP_mem h).2
theorem mem_quad4 {g : Qf} {n p q : Int} (h : g.at p q = n) : (p, q) ∈ quad4 g n p.natAbs q.natAbs 4 := by
  unfold quad4
  rw [List.mem_flatMap]
  have hp : p < 0 ∨ 0 ≤ p := by omega
  have hq : q < 0 ∨ 0 ≤ q := by omega
  refine ⟨(if p < 0 then 1 else 0) + (if q < 0 then 2 else 0), List.mem_range.2 (by split <;> split <;> omega), ?_⟩
  unfold pk
  rcases hp with hp | hp <;> rcases hq with hq | hq
  · have e1 : -(p.natAbs : Int) = p := by omega
    have e2 : -(q.natAbs : Int) = q := by omega
    rw [if_pos hp, if_pos hq, if_neg (by omega)]
    simp [e1, e2, h]
  · have e1 : -(p.natAbs : Int) = p := by omega
    have e2 : (q.natAbs : Int) = q := by omega
    rw [if_pos hp, if_neg (show ¬ q < 0 by omega), if_neg (by omega)]
    simp [e1, e2, h]
  · have e1 : (p.natAbs : Int) = p := by omega
    have e2 : -(q.natAbs : Int) = q := by omega
    rw [if_neg (show ¬ p < 0 by omega), if_pos hq, if_neg (by omega)]
    simp [e1, e2, h]
  · have e1 : (p.natAbs : Int) = p := by omega
    have e2 : (q.natAbs : Int) = q := by omega
    rw [if_neg (show ¬ p < 0 by omega), if_neg (show ¬ q < 0 by omega), if_neg (by omega)]
    simp [e1, e2, h]
theorem mem_allP {g : Qf} {n : Int} {K : Nat → Nat} {k : Nat} {p q : Int} (h : g.at p q = n) (hq : q.natAbs < k) (hp : p.natAbs < K q.natAbs) : (p, q) ∈ allP g n K k :=
  List.mem_flatMap.2 ⟨q.natAbs, List.mem_range.2 hq, List.mem_flatMap.2 ⟨p.natAbs, List.mem_range.2 hp, mem_quad4 h⟩⟩

/-- At these sizes of p and q the value is at least so great. -/
theorem at_ge (g : Qf) (p q : Int) : g.a * ((p.natAbs : Int) * p.natAbs) - (g.b.natAbs : Int) * ((p.natAbs : Int) * q.natAbs) + g.c * ((q.natAbs : Int) * q.natAbs) ≤ g.at p q := by
  have e1 : (p.natAbs : Int) * p.natAbs = p * p := by rw [← Int.natCast_mul, ← Int.natAbs_mul]; exact Int.natAbs_of_nonneg (sq_nn p)
  have e2 : (q.natAbs : Int) * q.natAbs = q * q := by rw [← Int.natCast_mul, ← Int.natAbs_mul]; exact Int.natAbs_of_nonneg (sq_nn q)
  have e3 : (g.b.natAbs : Int) * ((p.natAbs : Int) * q.natAbs) = ((p * q * g.b).natAbs : Int) := by rw [Int.natAbs_mul, Int.natAbs_mul, Int.natCast_mul, Int.natCast_mul, Int.mul_comm]
  rw [e1, e2, e3]
  unfold Qf.at
  have e4 : g.a * (p * p) = p * p * g.a := Int.mul_comm ..
  have e5 : g.c * (q * q) = q * q * g.c := Int.mul_comm ..
  rw [e4, e5]
  omega

theorem row_none {g : Qf} {n : Int} {x y : Nat} (ha : 1 ≤ g.a) (h1 : n < g.a * ((x : Int) * x) - (g.b.natAbs : Int) * ((x : Int) * y) + g.c * ((y : Int) * y)) (h2 : (g.b.natAbs : Int) * y < 2 * g.a * x) {p q : Int} (hp : x ≤ p.natAbs) (hq : q.natAbs = y) : n < g.at p q := by
  have h := at_ge g p q
  rw [hq] at h
  obtain ⟨X, hX⟩ : ∃ X : Int, X = (p.natAbs : Int) := ⟨_, rfl⟩
  obtain ⟨z, hz⟩ : ∃ z : Int, z = (x : Int) := ⟨_, rfl⟩
  obtain ⟨Y, hY⟩ : ∃ Y : Int, Y = (y : Int) := ⟨_, rfl⟩
  obtain ⟨B, hB⟩ : ∃ B : Int, B = (g.b.natAbs : Int) := ⟨_, rfl⟩
  rw [← hX, ← hY, ← hB] at h
  rw [← hz, ← hY, ← hB] at h1 h2
  have hzX : z ≤ X := by omega
  have k1 : 0 ≤ (X - z) * (g.a * (X + z) - B * Y) := by
    refine Int.mul_nonneg (by omega) ?_
    have : g.a * (2 * z) ≤ g.a * (X + z) := Int.mul_le_mul_of_nonneg_left (by omega) (by omega)
    have e : g.a * (2 * z) = 2 * g.a * z := by grind
    omega
  have k2 : (X - z) * (g.a * (X + z) - B * Y) = (g.a * (X * X) - B * (X * Y)) - (g.a * (z * z) - B * (z * Y)) := by grind
  omega

theorem rows_none {g : Qf} {n : Int} {k : Nat} (ha : 1 ≤ g.a) (hd : g.disc < 0) (h : 4 * g.a * n < -g.disc * ((k : Int) * k)) {p q : Int} (hq : k ≤ q.natAbs) : n < g.at p q := by
  have e1 : 4 * g.a * g.at p q = (2 * g.a * p + g.b * q) * (2 * g.a * p + g.b * q) + (-g.disc) * (q * q) := by simp only [Qf.at, Qf.disc]; grind
  have s1 := sq_nn (2 * g.a * p + g.b * q)
  have e2 : (q.natAbs : Int) * q.natAbs = q * q := by rw [← Int.natCast_mul, ← Int.natAbs_mul]; exact Int.natAbs_of_nonneg (sq_nn q)
  have h2 : (k : Int) * k ≤ (q.natAbs : Int) * q.natAbs := Int.mul_le_mul (by omega) (by omega) (by omega) (by omega)
  have h3 := Int.mul_le_mul_of_nonneg_left h2 (show 0 ≤ -g.disc by omega)
  rw [e2] at h3
  rcases Int.lt_or_le n (g.at p q) with h4 | h4
  · exact h4
  · exfalso
    have := Int.mul_le_mul_of_nonneg_left h4 (show 0 ≤ 4 * g.a by omega)
    omega

theorem quad4_nil {g : Qf} {n : Int} {x y : Nat} (h : ∀ p q : Int, p.natAbs = x → q.natAbs = y → n < g.at p q) : quad4 g n x y 4 = [] := by
  cases e : quad4 g n x y 4 with
  | nil => rfl
  | cons a l =>
    exfalso
    have hm : a ∈ quad4 g n x y 4 := by rw [e]; simp
    obtain ⟨h1, h2, h3⟩ := quad4_mem (by omega) hm
    have := h a.1 a.2 h1 h2
    omega
theorem rowP_succ (g : Qf) (n : Int) (y k : Nat) : rowP g n y (k + 1) = rowP g n y k ++ quad4 g n k y 4 := by
  unfold rowP; rw [List.range_succ, List.flatMap_append]; simp
theorem allP_succ (g : Qf) (n : Int) (K : Nat → Nat) (k : Nat) : allP g n K (k + 1) = allP g n K k ++ rowP g n k (K k) := by
  unfold allP; rw [List.range_succ, List.flatMap_append]; simp
theorem quad4_succ (g : Qf) (n : Int) (x y k : Nat) : quad4 g n x y (k + 1) = quad4 g n x y k ++ pk g n x y k := by
  unfold quad4; rw [List.range_succ, List.flatMap_append]; simp
/-- Behind the break nothing comes. -/
theorem rowP_end {g : Qf} {n : Int} {x y : Nat} (ha : 1 ≤ g.a) (h1 : n < g.a * ((x : Int) * x) - (g.b.natAbs : Int) * ((x : Int) * y) + g.c * ((y : Int) * y)) (h2 : (g.b.natAbs : Int) * y < 2 * g.a * x) : ∀ k, x ≤ k → rowP g n y k = rowP g n y x := by
  intro k hk
  induction k with
  | zero => obtain rfl : x = 0 := by omega
            rfl
  | succ k ih =>
    by_cases e : x = k + 1
    · rw [e]
    · rw [rowP_succ, ih (by omega), quad4_nil (fun p q hp hq => row_none ha h1 h2 (by omega) hq)]; simp

/-- As many points as the reduced form has. -/
theorem points_len {f g : Qf} {m : Mt} {n : Int} (h : Rd f g m) (L P : List (Int × Int)) (hL : L.Nodup) (hP : P.Nodup) (l1 : ∀ a ∈ L, f.at a.1 a.2 = n) (l2 : ∀ x y, f.at x y = n → (x, y) ∈ L) (p1 : ∀ a ∈ P, g.at a.1 a.2 = n) (p2 : ∀ x y, g.at x y = n → (x, y) ∈ P) : L.length = P.length := by
  have hd := h.det
  apply Nat.le_antisymm
  · refine nodup_len L P (fun a => (m.s * a.1 - m.q * a.2, m.p * a.2 - m.r * a.1)) hL (fun a ha => p2 _ _ (by rw [← h.back]; exact l1 a ha)) ?_
    intro a ha b hb e
    simp only [Prod.mk.injEq] at e
    obtain ⟨e1, e2⟩ := e
    have x1 : m.p * (m.s * a.1 - m.q * a.2) + m.q * (m.p * a.2 - m.r * a.1) = (m.p * m.s - m.q * m.r) * a.1 := by grind
    have x2 : m.p * (m.s * b.1 - m.q * b.2) + m.q * (m.p * b.2 - m.r * b.1) = (m.p * m.s - m.q * m.r) * b.1 := by grind
    have y1 : m.r * (m.s * a.1 - m.q * a.2) + m.s * (m.p * a.2 - m.r * a.1) = (m.p * m.s - m.q * m.r) * a.2 := by grind
    have y2 : m.r * (m.s * b.1 - m.q * b.2) + m.s * (m.p * b.2 - m.r * b.1) = (m.p * m.s - m.q * m.r) * b.2 := by grind
    rw [e1, e2, x2, hd] at x1
    rw [e1, e2, y2, hd] at y1
    exact Prod.ext (by omega) (by omega)
  · refine nodup_len P L (fun a => (m.p * a.1 + m.q * a.2, m.r * a.1 + m.s * a.2)) hP (fun a ha => l2 _ _ (by rw [h.like]; exact p1 a ha)) ?_
    intro a ha b hb e
    simp only [Prod.mk.injEq] at e
    obtain ⟨e1, e2⟩ := e
    have x1 : m.s * (m.p * a.1 + m.q * a.2) - m.q * (m.r * a.1 + m.s * a.2) = (m.p * m.s - m.q * m.r) * a.1 := by grind
    have x2 : m.s * (m.p * b.1 + m.q * b.2) - m.q * (m.r * b.1 + m.s * b.2) = (m.p * m.s - m.q * m.r) * b.1 := by grind
    have y1 : m.p * (m.r * a.1 + m.s * a.2) - m.r * (m.p * a.1 + m.q * a.2) = (m.p * m.s - m.q * m.r) * a.2 := by grind
    have y2 : m.p * (m.r * b.1 + m.s * b.2) - m.r * (m.p * b.1 + m.q * b.2) = (m.p * m.s - m.q * m.r) * b.2 := by grind
    rw [e1, e2, x2, hd] at x1
    rw [e1, e2, y2, hd] at y1
    exact Prod.ext (by omega) (by omega)

end Go.Proofs.Ytijkanilpblogae
end

section
/- The reference's Value and PointsMany. -/
set_option linter.unusedSimpArgs false
set_option linter.unusedVariables false
set_option maxRecDepth 100000
namespace Go.Proofs.Ytijkanilpblogae
open Go.RowKit

theorem bd3 {a b M N : Int} (h1 : -M ≤ a) (h2 : a ≤ M) (h3 : -N ≤ b) (h4 : b ≤ N) : -(M * N) ≤ a * b ∧ a * b ≤ M * N := by
  have hM : 0 ≤ M := by omega
  have hN : 0 ≤ N := by omega
  have h := Int.natAbs_mul a b
  have e : (a * b).natAbs ≤ M.natAbs * N.natAbs := by rw [h]; exact Nat.mul_le_mul (by omega) (by omega)
  have e2 : (M.natAbs * N.natAbs : Nat) = (M * N).natAbs := (Int.natAbs_mul M N).symm
  have hMN := Int.mul_nonneg hM hN
  omega

set_option maxHeartbeats 1000000 in
theorem Value_any (g : Qf) (p q : Int) (w : World) (hu : g.upto 1000000) (hp : -3000 ≤ p ∧ p ≤ 3000) (hq : -3000 ≤ q ∧ q ≤ 3000) :
    Calls Try.prog 37 #[g.v, .int .i64 p, .int .i64 q] w fun e w' => e = .returned (.int .i64 (g.at p q)) ∧ Below w.heap.size w w' := by
  obtain ⟨a1, a2, a3, a4, a5, a6⟩ := hu
  have h1 := bd3 a1 a2 hp.1 hp.2
  have h2 := bd3 h1.1 h1.2 hp.1 hp.2
  have h3 := bd3 a3 a4 hp.1 hp.2
  have h4 := bd3 h3.1 h3.2 hq.1 hq.2
  have h5 := bd3 a5 a6 hq.1 hq.2
  have h6 := bd3 h5.1 h5.2 hq.1 hq.2
  have HE : Hid (g.a * p * p + g.b * p * q + g.c * q * q = g.at p q) := by show _ = _; unfold Qf.at; grind
  obtain ⟨t1, e1⟩ : ∃ t, g.a * p = t := ⟨_, rfl⟩
  obtain ⟨t3, e3⟩ : ∃ t, g.b * p = t := ⟨_, rfl⟩
  obtain ⟨t5, e5⟩ : ∃ t, g.c * q = t := ⟨_, rfl⟩
  rw [e1] at h1 h2
  rw [e3] at h3 h4
  rw [e5] at h5 h6
  rw [e1, e3, e5] at HE
  obtain ⟨t2, e2⟩ : ∃ t, t1 * p = t := ⟨_, rfl⟩
  obtain ⟨t4, e4⟩ : ∃ t, t3 * q = t := ⟨_, rfl⟩
  obtain ⟨t6, e6⟩ : ∃ t, t5 * q = t := ⟨_, rfl⟩
  rw [e2] at h2
  rw [e4] at h4
  rw [e6] at h6
  rw [e2, e4, e6] at HE
  unfold Qf.v
  clear a1 a2 a3 a4 a5 a6
  go_enter Try.func37, Try.ntmps37
  go_wp2
  go_ret
  exact ⟨ret_int HE.out, al1 _ _⟩

theorem pk_len (g : Qf) (n : Int) (x y s : Nat) : (pk g n x y s).length ≤ 1 := by
  unfold pk
  by_cases h0 : (x = 0 ∧ s % 2 = 1) ∨ (y = 0 ∧ 1 < s)
  · rw [if_pos h0]; simp
  · rw [if_neg h0]
    by_cases h1 : g.at (if s % 2 = 1 then -(x : Int) else x) (if 1 < s then -(y : Int) else y) = n
    · rw [if_pos h1]; simp
    · rw [if_neg h1]; simp
theorem pk_skip (g : Qf) (n : Int) (x y s : Nat) (h : (x = 0 ∧ s % 2 = 1) ∨ (y = 0 ∧ 1 < s)) : pk g n x y s = [] := by unfold pk; rw [if_pos h]
theorem pk_yes (g : Qf) (n : Int) (x y s : Nat) (p q : Int) (h : ¬((x = 0 ∧ s % 2 = 1) ∨ (y = 0 ∧ 1 < s))) (hp : (if s % 2 = 1 then -(x : Int) else x) = p) (hq : (if 1 < s then -(y : Int) else y) = q) (h1 : g.at p q = n) : (pk g n x y s).length = 1 := by
  unfold pk; rw [if_neg h, hp, hq, if_pos h1]; simp
theorem pk_no (g : Qf) (n : Int) (x y s : Nat) (p q : Int) (h : ¬((x = 0 ∧ s % 2 = 1) ∨ (y = 0 ∧ 1 < s))) (hp : (if s % 2 = 1 then -(x : Int) else x) = p) (hq : (if 1 < s then -(y : Int) else y) = q) (h1 : ¬ g.at p q = n) : (pk g n x y s).length = 0 := by
  unfold pk; rw [if_neg h, hp, hq, if_neg h1]; simp
theorem quad4_len (g : Qf) (n : Int) (x y : Nat) : ∀ k, (quad4 g n x y k).length ≤ k
  | 0 => by simp [quad4]
  | k + 1 => by rw [quad4_succ, List.length_append]; have := quad4_len g n x y k; have := pk_len g n x y k; omega
theorem rowP_len (g : Qf) (n : Int) (y : Nat) : ∀ k, (rowP g n y k).length ≤ 4 * k
  | 0 => by simp [rowP]
  | k + 1 => by rw [rowP_succ, List.length_append]; have := rowP_len g n y k; have := quad4_len g n k y 4; omega
theorem allP_len (g : Qf) (n : Int) : ∀ k, (allP g n (fun _ => 2400) k).length ≤ 9600 * k
  | 0 => by simp [allP]
  | k + 1 => by rw [allP_succ, List.length_append]; have := allP_len g n k; have := rowP_len g n k 2400; omega
theorem red_disc {g : Qf} (hr : g.redB = true) : 3 * (g.a * g.a) ≤ -g.disc := by
  obtain ⟨h1, h2, h3⟩ := redB_parts hr
  have ha : 0 ≤ g.a := by omega
  have x1 := (sq_bd h1 h2 h1 h2).2
  have x2 := Int.mul_le_mul_of_nonneg_left h3 ha
  have x3 : 4 * g.a * g.c = 4 * (g.a * g.c) := Int.mul_assoc ..
  unfold Qf.disc
  omega
/-- How far y goes. -/
theorem y_top {g : Qf} {n : Int} {y : Nat} (hr : g.redB = true) (ha : 1 ≤ g.a) (hn : 0 ≤ n ∧ n ≤ 1000000) (h : -g.disc * y * y ≤ 4 * g.a * n) : y ≤ 1154 := by
  rcases Nat.lt_or_ge 1154 y with hy | hy
  · exfalso
    have h1 := red_disc hr
    have h2 : (1155 : Int) * 1155 ≤ (y : Int) * y := Int.mul_le_mul (by omega) (by omega) (by omega) (by omega)
    have h3 : 3 * (g.a * g.a) * ((y : Int) * y) ≤ -g.disc * ((y : Int) * y) := Int.mul_le_mul_of_nonneg_right h1 (sq_nn _)
    have h4 : 3 * (g.a * g.a) * (1155 * 1155) ≤ 3 * (g.a * g.a) * ((y : Int) * y) := Int.mul_le_mul_of_nonneg_left h2 (by have := sq_nn g.a; omega)
    have e1 : -g.disc * y * y = -g.disc * ((y : Int) * y) := Int.mul_assoc ..
    have h5 : 4 * g.a * n ≤ 4 * g.a * 1000000 := Int.mul_le_mul_of_nonneg_left hn.2 (by omega)
    have h6 : g.a * 1 ≤ g.a * g.a := Int.mul_le_mul_of_nonneg_left ha (by omega)
    omega
  · exact hy
/-- At 2400 the break comes. -/
theorem x_top {g : Qf} {n : Int} {y : Nat} (hr : g.redB = true) (ha : 1 ≤ g.a) (hn : n ≤ 1000000) (hy : y ≤ 1155) : n < g.a * ((2400 : Int) * 2400) - (g.b.natAbs : Int) * ((2400 : Int) * y) + g.c * ((y : Int) * y) ∧ (g.b.natAbs : Int) * y < 2 * g.a * 2400 := by
  obtain ⟨h1, h2, h3⟩ := redB_parts hr
  have hb : (g.b.natAbs : Int) ≤ g.a := by omega
  have e1 : (g.b.natAbs : Int) * y ≤ g.a * y := Int.mul_le_mul_of_nonneg_right hb (by omega)
  have e2 : g.a * (y : Int) ≤ g.a * 1155 := Int.mul_le_mul_of_nonneg_left (by omega) (by omega)
  have e3 : (g.b.natAbs : Int) * ((2400 : Int) * y) = 2400 * ((g.b.natAbs : Int) * y) := by grind
  have e4 : 0 ≤ g.c * ((y : Int) * y) := Int.mul_nonneg (by omega) (sq_nn _)
  constructor
  · rw [e3]; omega
  · omega

end Go.Proofs.Ytijkanilpblogae
end

section
/- The reference's Turned. -/
set_option linter.unusedSimpArgs false
set_option linter.unusedVariables false
set_option maxRecDepth 100000
namespace Go.Proofs.Ytijkanilpblogae
open Go.RowKit

/-- A form, turned. -/
def tur (g : Qf) (m : Mt) : Qf := ⟨g.at m.p m.r, 2 * g.a * m.p * m.q + g.b * (m.p * m.s + m.q * m.r) + 2 * g.c * m.r * m.s, g.at m.q m.s⟩
theorem tur_lk {g : Qf} {m : Mt} (h : m.p * m.s - m.q * m.r = 1) : MQ.Lk g (tur g m) m := ⟨h, fun x y => by simp only [Qf.at, tur]; grind⟩

/-- The cells that are read. -/
abbrev S7t (g : Qf) (m : Mt) (b : Nat) (W : World) : Prop :=
  W.cell? ⟨b, 0, none⟩ = some (.int .i64 g.a) ∧ W.cell? ⟨b, 1, none⟩ = some (.int .i64 g.b) ∧ W.cell? ⟨b, 2, none⟩ = some (.int .i64 g.c) ∧
  W.cell? ⟨b + 1, 0, none⟩ = some (.int .i64 m.p) ∧ W.cell? ⟨b + 1, 1, none⟩ = some (.int .i64 m.q) ∧ W.cell? ⟨b + 1, 2, none⟩ = some (.int .i64 m.r) ∧ W.cell? ⟨b + 1, 3, none⟩ = some (.int .i64 m.s)
theorem s7t_of {g : Qf} {m : Mt} {w W : World} {e : Nat × List Value × TypeId} (h : Ms [e, (w.heap.size + 1, m.l, 43), (w.heap.size, g.l, 32)] w W) : S7t g m w.heap.size W := by
  have h1 := h.1 _ (.tail _ (.head _))
  have h2 := h.1 _ (.tail _ (.tail _ (.head _)))
  exact ⟨h2.cell 0, h2.cell 1, h2.cell 2, h1.cell 0, h1.cell 1, h1.cell 2, h1.cell 3⟩

set_option maxRecDepth 100000 in
set_option maxHeartbeats 4000000 in
theorem Turned_any (g : Qf) (m : Mt) (w : World) (hu : g.upto 1000000) (hm : m.upto 3000) :
    Calls Try.prog 38 #[g.v, m.v] w fun e w' => e = .returned (tur g m).v ∧ Below w.heap.size w w' := by
  have HV1 : Hid (∀ w, Calls Try.prog 37 #[g.v, .int .i64 m.p, .int .i64 m.r] w fun e w' => e = .returned (.int .i64 (g.at m.p m.r)) ∧ Below w.heap.size w w') := fun w => Value_any g m.p m.r w hu hm.1 hm.2.2.1
  have HV2 : Hid (∀ w, Calls Try.prog 37 #[g.v, .int .i64 m.q, .int .i64 m.s] w fun e w' => e = .returned (.int .i64 (g.at m.q m.s)) ∧ Below w.heap.size w w') := fun w => Value_any g m.q m.s w hu hm.2.1 hm.2.2.2
  obtain ⟨a1, a2, a3, a4, a5, a6⟩ := hu
  obtain ⟨⟨p1, p2⟩, ⟨q1, q2⟩, ⟨r1, r2⟩, s1', s2'⟩ := hm
  obtain ⟨V1, hV1⟩ : ∃ V, g.at m.p m.r = V := ⟨_, rfl⟩
  obtain ⟨V2, hV2⟩ : ∃ V, g.at m.q m.s = V := ⟨_, rfl⟩
  rw [hV1] at HV1
  rw [hV2] at HV2
  obtain ⟨t2, e2⟩ : ∃ t, 2 * g.a * m.p = t := ⟨_, rfl⟩
  obtain ⟨t3, e3⟩ : ∃ t, t2 * m.q = t := ⟨_, rfl⟩
  obtain ⟨u1, f1⟩ : ∃ t, m.p * m.s = t := ⟨_, rfl⟩
  obtain ⟨u2, f2⟩ : ∃ t, m.q * m.r = t := ⟨_, rfl⟩
  obtain ⟨u4, f4⟩ : ∃ t, g.b * (u1 + u2) = t := ⟨_, rfl⟩
  obtain ⟨v2, g2⟩ : ∃ t, 2 * g.c * m.r = t := ⟨_, rfl⟩
  obtain ⟨v3, g3⟩ : ∃ t, v2 * m.s = t := ⟨_, rfl⟩
  have HT : Hid (tur g m = ⟨V1, t3 + u4 + v3, V2⟩) := by
    show tur g m = _
    unfold tur
    rw [hV1, hV2, ← e3, ← e2, ← f4, ← f1, ← f2, ← g3, ← g2]
  have b2 : -6000000000 ≤ t2 ∧ t2 ≤ 6000000000 := by have := bd3 (show -2000000 ≤ 2 * g.a by omega) (show 2 * g.a ≤ 2000000 by omega) p1 p2; rw [e2] at this; omega
  have b3 : -18000000000000 ≤ t3 ∧ t3 ≤ 18000000000000 := by have := bd3 b2.1 b2.2 q1 q2; rw [e3] at this; omega
  have c1 : -9000000 ≤ u1 ∧ u1 ≤ 9000000 := by have := bd3 p1 p2 s1' s2'; rw [f1] at this; omega
  have c2 : -9000000 ≤ u2 ∧ u2 ≤ 9000000 := by have := bd3 q1 q2 r1 r2; rw [f2] at this; omega
  have c4 : -18000000000000 ≤ u4 ∧ u4 ≤ 18000000000000 := by have := bd3 a3 a4 (show -18000000 ≤ u1 + u2 by omega) (show u1 + u2 ≤ 18000000 by omega); rw [f4] at this; omega
  have d2 : -6000000000 ≤ v2 ∧ v2 ≤ 6000000000 := by have := bd3 (show -2000000 ≤ 2 * g.c by omega) (show 2 * g.c ≤ 2000000 by omega) r1 r2; rw [g2] at this; omega
  have d3 : -18000000000000 ≤ v3 ∧ v3 ≤ 18000000000000 := by have := bd3 d2.1 d2.2 s1' s2'; rw [g3] at this; omega
  have x1 : IntKind.i64.wrap (2 * g.a) = 2 * g.a := by rw [IntKind.wrap_i64]; omega
  have x2 : IntKind.i64.wrap t2 = t2 := by rw [IntKind.wrap_i64]; omega
  have x3 : IntKind.i64.wrap t3 = t3 := by rw [IntKind.wrap_i64]; omega
  have x4 : IntKind.i64.wrap u1 = u1 := by rw [IntKind.wrap_i64]; omega
  have x5 : IntKind.i64.wrap u2 = u2 := by rw [IntKind.wrap_i64]; omega
  have x6 : IntKind.i64.wrap (u1 + u2) = u1 + u2 := by rw [IntKind.wrap_i64]; omega
  have x7 : IntKind.i64.wrap u4 = u4 := by rw [IntKind.wrap_i64]; omega
  have x8 : IntKind.i64.wrap (t3 + u4) = t3 + u4 := by rw [IntKind.wrap_i64]; omega
  have x9 : IntKind.i64.wrap (2 * g.c) = 2 * g.c := by rw [IntKind.wrap_i64]; omega
  have x10 : IntKind.i64.wrap v2 = v2 := by rw [IntKind.wrap_i64]; omega
  have x11 : IntKind.i64.wrap v3 = v3 := by rw [IntKind.wrap_i64]; omega
  have x12 : IntKind.i64.wrap (t3 + u4 + v3) = t3 + u4 + v3 := by rw [IntKind.wrap_i64]; omega
  rw [HT.out]
  unfold Qf.v at HV1 HV2 ⊢
  unfold Mt.v
  clear a1 a2 a3 a4 a5 a6 p1 p2 q1 q2 r1 r2 s1' s2' b2 b3 c1 c2 c4 d2 d3 hV1 hV2 HT
  go_enter Try.func38, Try.ntmps38
  have M0 : Ms [(w.heap.size + 1 + 1, [.int .i64 0, .int .i64 0, .int .i64 0], 32), (w.heap.size + 1, m.l, 43), (w.heap.size, g.l, 32)] w (((w.alloc (.cells #[.int .i64 g.a, .int .i64 g.b, .int .i64 g.c] 32)).alloc (.cells #[.int .i64 m.p, .int .i64 m.q, .int .i64 m.r, .int .i64 m.s] 43)).alloc (.cells #[.int .i64 0, .int .i64 0, .int .i64 0] 32)) := by
    have h1 := Ms.new (l := []) (w := w) (W := w) ⟨fun x hx => (by cases hx), Below.refl _ _⟩ g.l 32
    have h2 := h1.new m.l 43
    have h3 := h2.new [.int .i64 0, .int .i64 0, .int .i64 0] 32
    rw [World.size_alloc, World.size_alloc] at h3
    exact h3
  have HM0 : Hid (Ms [(w.heap.size + 1 + 1, [.int .i64 0, .int .i64 0, .int .i64 0], 32), (w.heap.size + 1, m.l, 43), (w.heap.size, g.l, 32)] w (((w.alloc (.cells #[.int .i64 g.a, .int .i64 g.b, .int .i64 g.c] 32)).alloc (.cells #[.int .i64 m.p, .int .i64 m.q, .int .i64 m.r, .int .i64 m.s] 43)).alloc (.cells #[.int .i64 0, .int .i64 0, .int .i64 0] 32))) := M0
  clear M0
  go_wp2_with fail
  obtain ⟨W0, hW0⟩ : ∃ W, W = ((w.alloc (.cells #[.int .i64 g.a, .int .i64 g.b, .int .i64 g.c] 32)).alloc (.cells #[.int .i64 m.p, .int .i64 m.q, .int .i64 m.r, .int .i64 m.s] 43)).alloc (.cells #[.int .i64 0, .int .i64 0, .int .i64 0] 32) := ⟨_, rfl⟩
  rw [← hW0]
  rw [← hW0] at HM0
  clear hW0
  refine wp_region_G (S7t g m w.heap.size) 47 (by kernel_rfl) (s7t_of (HM0.out.below ((Below.refl W0.heap.size W0).drew))) (fun hHeld => ?_)
  have N0 := HM0.out.below ((Below.refl W0.heap.size W0).drew)
  refine wpAnyG_take (i := 0) (v := ?v0x1) rfl (by kernel_rfl) (fun _ _ _ h => h) (Or.inl ⟨by rfl, ?y0x1⟩) hHeld ?r0x1
  case y0x1 => (intro wS hSw; obtain ⟨s1, s2, s3, s4, s5, s6, s7⟩ := hSw; go_simp; try with_reducible rfl)
  try simp only [Act.put, List.setIfInBounds_toArray, List.set_cons_zero, List.set_cons_succ]
  refine wpAnyG_take (i := 1) (v := ?v1x2) rfl (by kernel_rfl) (fun _ _ _ h => h) (Or.inl ⟨by rfl, ?y1x2⟩) hHeld ?r1x2
  case y1x2 => (intro wS hSw; obtain ⟨s1, s2, s3, s4, s5, s6, s7⟩ := hSw; go_simp; try with_reducible rfl)
  try simp only [Act.put, List.setIfInBounds_toArray, List.set_cons_zero, List.set_cons_succ]
  refine wpAnyG_take (i := 2) (v := ?v2x3) rfl (by kernel_rfl) (fun _ _ _ h => h) (Or.inl ⟨by rfl, ?y2x3⟩) hHeld ?r2x3
  case y2x3 => (intro wS hSw; obtain ⟨s1, s2, s3, s4, s5, s6, s7⟩ := hSw; go_simp; try with_reducible rfl)
  try simp only [Act.put, List.setIfInBounds_toArray, List.set_cons_zero, List.set_cons_succ]
  refine wpAnyG_take (i := 3) (v := ?v3x4) rfl (by kernel_rfl) (fun _ _ _ h => h) (Or.inl ⟨by rfl, ?y3x4⟩) hHeld ?r3x4
  case y3x4 => (intro wS hSw; obtain ⟨s1, s2, s3, s4, s5, s6, s7⟩ := hSw; go_simp; try with_reducible rfl)
  try simp only [Act.put, List.setIfInBounds_toArray, List.set_cons_zero, List.set_cons_succ]
  refine wpAnyG_take (i := 4) (v := ?v4x5) rfl (by kernel_rfl) (fun _ _ _ h => h) (Or.inl ⟨by rfl, ?y4x5⟩) hHeld ?r4x5
  case y4x5 => (intro wS hSw; obtain ⟨s1, s2, s3, s4, s5, s6, s7⟩ := hSw; go_simp; try with_reducible rfl)
  try simp only [Act.put, List.setIfInBounds_toArray, List.set_cons_zero, List.set_cons_succ]
  refine wpAnyG_take (i := 6) (v := ?v6x6) rfl (by kernel_rfl) (fun _ _ _ h => h) (Or.inl ⟨by rfl, ?y6x6⟩) hHeld ?r6x6
  case y6x6 => (intro wS hSw; obtain ⟨s1, s2, s3, s4, s5, s6, s7⟩ := hSw; go_simp; try with_reducible rfl)
  try simp only [Act.put, List.setIfInBounds_toArray, List.set_cons_zero, List.set_cons_succ]
  refine wpAnyG_take (i := 7) (v := ?v7x7) rfl (by kernel_rfl) (fun _ _ _ h => h) (Or.inl ⟨by rfl, ?y7x7⟩) hHeld ?r7x7
  case y7x7 => (intro wS hSw; obtain ⟨s1, s2, s3, s4, s5, s6, s7⟩ := hSw; go_simp; try with_reducible rfl)
  try simp only [Act.put, List.setIfInBounds_toArray, List.set_cons_zero, List.set_cons_succ]
  refine wpAnyG_take (i := 8) (v := .int .i64 (2 * g.a)) rfl (by kernel_rfl) (fun _ _ _ h => h) (Or.inl ⟨by kernel_rfl, ?y8x8⟩) hHeld ?r8x8
  case y8x8 => (intro wS hSw; (obtain ⟨s1, s2, s3, s4, s5, s6, s7⟩ := hSw; go_simp; try simp only [x1]))
  try simp only [Act.put, List.setIfInBounds_toArray, List.set_cons_zero, List.set_cons_succ]
  refine wpAnyG_take (i := 9) (v := ?v9x9) rfl (by kernel_rfl) (fun _ _ _ h => h) (Or.inl ⟨by rfl, ?y9x9⟩) hHeld ?r9x9
  case y9x9 => (intro wS hSw; obtain ⟨s1, s2, s3, s4, s5, s6, s7⟩ := hSw; go_simp; try with_reducible rfl)
  try simp only [Act.put, List.setIfInBounds_toArray, List.set_cons_zero, List.set_cons_succ]
  refine wpAnyG_take (i := 10) (v := ?v10x10) rfl (by kernel_rfl) (fun _ _ _ h => h) (Or.inl ⟨by rfl, ?y10x10⟩) hHeld ?r10x10
  case y10x10 => (intro wS hSw; obtain ⟨s1, s2, s3, s4, s5, s6, s7⟩ := hSw; go_simp; try with_reducible rfl)
  try simp only [Act.put, List.setIfInBounds_toArray, List.set_cons_zero, List.set_cons_succ]
  refine wpAnyG_take (i := 11) (v := .int .i64 t2) rfl (by kernel_rfl) (fun _ _ _ h => h) (Or.inl ⟨by kernel_rfl, ?y11x11⟩) hHeld ?r11x11
  case y11x11 => (intro wS hSw; (obtain ⟨s1, s2, s3, s4, s5, s6, s7⟩ := hSw; go_simp; try simp only [e2, x2]))
  try simp only [Act.put, List.setIfInBounds_toArray, List.set_cons_zero, List.set_cons_succ]
  refine wpAnyG_take (i := 12) (v := ?v12x12) rfl (by kernel_rfl) (fun _ _ _ h => h) (Or.inl ⟨by rfl, ?y12x12⟩) hHeld ?r12x12
  case y12x12 => (intro wS hSw; obtain ⟨s1, s2, s3, s4, s5, s6, s7⟩ := hSw; go_simp; try with_reducible rfl)
  try simp only [Act.put, List.setIfInBounds_toArray, List.set_cons_zero, List.set_cons_succ]
  refine wpAnyG_take (i := 13) (v := ?v13x13) rfl (by kernel_rfl) (fun _ _ _ h => h) (Or.inl ⟨by rfl, ?y13x13⟩) hHeld ?r13x13
  case y13x13 => (intro wS hSw; obtain ⟨s1, s2, s3, s4, s5, s6, s7⟩ := hSw; go_simp; try with_reducible rfl)
  try simp only [Act.put, List.setIfInBounds_toArray, List.set_cons_zero, List.set_cons_succ]
  refine wpAnyG_take (i := 14) (v := .int .i64 t3) rfl (by kernel_rfl) (fun _ _ _ h => h) (Or.inl ⟨by kernel_rfl, ?y14x14⟩) hHeld ?r14x14
  case y14x14 => (intro wS hSw; (obtain ⟨s1, s2, s3, s4, s5, s6, s7⟩ := hSw; go_simp; try simp only [e3, x3]))
  try simp only [Act.put, List.setIfInBounds_toArray, List.set_cons_zero, List.set_cons_succ]
  refine wpAnyG_take (i := 15) (v := ?v15x15) rfl (by kernel_rfl) (fun _ _ _ h => h) (Or.inl ⟨by rfl, ?y15x15⟩) hHeld ?r15x15
  case y15x15 => (intro wS hSw; obtain ⟨s1, s2, s3, s4, s5, s6, s7⟩ := hSw; go_simp; try with_reducible rfl)
  try simp only [Act.put, List.setIfInBounds_toArray, List.set_cons_zero, List.set_cons_succ]
  refine wpAnyG_take (i := 16) (v := ?v16x16) rfl (by kernel_rfl) (fun _ _ _ h => h) (Or.inl ⟨by rfl, ?y16x16⟩) hHeld ?r16x16
  case y16x16 => (intro wS hSw; obtain ⟨s1, s2, s3, s4, s5, s6, s7⟩ := hSw; go_simp; try with_reducible rfl)
  try simp only [Act.put, List.setIfInBounds_toArray, List.set_cons_zero, List.set_cons_succ]
  refine wpAnyG_take (i := 17) (v := ?v17x17) rfl (by kernel_rfl) (fun _ _ _ h => h) (Or.inl ⟨by rfl, ?y17x17⟩) hHeld ?r17x17
  case y17x17 => (intro wS hSw; obtain ⟨s1, s2, s3, s4, s5, s6, s7⟩ := hSw; go_simp; try with_reducible rfl)
  try simp only [Act.put, List.setIfInBounds_toArray, List.set_cons_zero, List.set_cons_succ]
  refine wpAnyG_take (i := 18) (v := ?v18x18) rfl (by kernel_rfl) (fun _ _ _ h => h) (Or.inl ⟨by rfl, ?y18x18⟩) hHeld ?r18x18
  case y18x18 => (intro wS hSw; obtain ⟨s1, s2, s3, s4, s5, s6, s7⟩ := hSw; go_simp; try with_reducible rfl)
  try simp only [Act.put, List.setIfInBounds_toArray, List.set_cons_zero, List.set_cons_succ]
  refine wpAnyG_take (i := 19) (v := ?v19x19) rfl (by kernel_rfl) (fun _ _ _ h => h) (Or.inl ⟨by rfl, ?y19x19⟩) hHeld ?r19x19
  case y19x19 => (intro wS hSw; obtain ⟨s1, s2, s3, s4, s5, s6, s7⟩ := hSw; go_simp; try with_reducible rfl)
  try simp only [Act.put, List.setIfInBounds_toArray, List.set_cons_zero, List.set_cons_succ]
  refine wpAnyG_take (i := 20) (v := ?v20x20) rfl (by kernel_rfl) (fun _ _ _ h => h) (Or.inl ⟨by rfl, ?y20x20⟩) hHeld ?r20x20
  case y20x20 => (intro wS hSw; obtain ⟨s1, s2, s3, s4, s5, s6, s7⟩ := hSw; go_simp; try with_reducible rfl)
  try simp only [Act.put, List.setIfInBounds_toArray, List.set_cons_zero, List.set_cons_succ]
  refine wpAnyG_take (i := 21) (v := .int .i64 u1) rfl (by kernel_rfl) (fun _ _ _ h => h) (Or.inl ⟨by kernel_rfl, ?y21x21⟩) hHeld ?r21x21
  case y21x21 => (intro wS hSw; (obtain ⟨s1, s2, s3, s4, s5, s6, s7⟩ := hSw; go_simp; try simp only [f1, x4]))
  try simp only [Act.put, List.setIfInBounds_toArray, List.set_cons_zero, List.set_cons_succ]
  refine wpAnyG_take (i := 22) (v := ?v22x22) rfl (by kernel_rfl) (fun _ _ _ h => h) (Or.inl ⟨by rfl, ?y22x22⟩) hHeld ?r22x22
  case y22x22 => (intro wS hSw; obtain ⟨s1, s2, s3, s4, s5, s6, s7⟩ := hSw; go_simp; try with_reducible rfl)
  try simp only [Act.put, List.setIfInBounds_toArray, List.set_cons_zero, List.set_cons_succ]
  refine wpAnyG_take (i := 23) (v := ?v23x23) rfl (by kernel_rfl) (fun _ _ _ h => h) (Or.inl ⟨by rfl, ?y23x23⟩) hHeld ?r23x23
  case y23x23 => (intro wS hSw; obtain ⟨s1, s2, s3, s4, s5, s6, s7⟩ := hSw; go_simp; try with_reducible rfl)
  try simp only [Act.put, List.setIfInBounds_toArray, List.set_cons_zero, List.set_cons_succ]
  refine wpAnyG_take (i := 24) (v := ?v24x24) rfl (by kernel_rfl) (fun _ _ _ h => h) (Or.inl ⟨by rfl, ?y24x24⟩) hHeld ?r24x24
  case y24x24 => (intro wS hSw; obtain ⟨s1, s2, s3, s4, s5, s6, s7⟩ := hSw; go_simp; try with_reducible rfl)
  try simp only [Act.put, List.setIfInBounds_toArray, List.set_cons_zero, List.set_cons_succ]
  refine wpAnyG_take (i := 25) (v := ?v25x25) rfl (by kernel_rfl) (fun _ _ _ h => h) (Or.inl ⟨by rfl, ?y25x25⟩) hHeld ?r25x25
  case y25x25 => (intro wS hSw; obtain ⟨s1, s2, s3, s4, s5, s6, s7⟩ := hSw; go_simp; try with_reducible rfl)
  try simp only [Act.put, List.setIfInBounds_toArray, List.set_cons_zero, List.set_cons_succ]
  refine wpAnyG_take (i := 26) (v := .int .i64 u2) rfl (by kernel_rfl) (fun _ _ _ h => h) (Or.inl ⟨by kernel_rfl, ?y26x26⟩) hHeld ?r26x26
  case y26x26 => (intro wS hSw; (obtain ⟨s1, s2, s3, s4, s5, s6, s7⟩ := hSw; go_simp; try simp only [f2, x5]))
  try simp only [Act.put, List.setIfInBounds_toArray, List.set_cons_zero, List.set_cons_succ]
  refine wpAnyG_take (i := 27) (v := .int .i64 (u1 + u2)) rfl (by kernel_rfl) (fun _ _ _ h => h) (Or.inl ⟨by kernel_rfl, ?y27x27⟩) hHeld ?r27x27
  case y27x27 => (intro wS hSw; (obtain ⟨s1, s2, s3, s4, s5, s6, s7⟩ := hSw; go_simp; try simp only [x6]))
  try simp only [Act.put, List.setIfInBounds_toArray, List.set_cons_zero, List.set_cons_succ]
  refine wpAnyG_take (i := 28) (v := .int .i64 u4) rfl (by kernel_rfl) (fun _ _ _ h => h) (Or.inl ⟨by kernel_rfl, ?y28x28⟩) hHeld ?r28x28
  case y28x28 => (intro wS hSw; (obtain ⟨s1, s2, s3, s4, s5, s6, s7⟩ := hSw; go_simp; try simp only [f4, x7]))
  try simp only [Act.put, List.setIfInBounds_toArray, List.set_cons_zero, List.set_cons_succ]
  refine wpAnyG_take (i := 29) (v := .int .i64 (t3 + u4)) rfl (by kernel_rfl) (fun _ _ _ h => h) (Or.inl ⟨by kernel_rfl, ?y29x29⟩) hHeld ?r29x29
  case y29x29 => (intro wS hSw; (obtain ⟨s1, s2, s3, s4, s5, s6, s7⟩ := hSw; go_simp; try simp only [x8]))
  try simp only [Act.put, List.setIfInBounds_toArray, List.set_cons_zero, List.set_cons_succ]
  refine wpAnyG_take (i := 30) (v := ?v30x30) rfl (by kernel_rfl) (fun _ _ _ h => h) (Or.inl ⟨by rfl, ?y30x30⟩) hHeld ?r30x30
  case y30x30 => (intro wS hSw; obtain ⟨s1, s2, s3, s4, s5, s6, s7⟩ := hSw; go_simp; try with_reducible rfl)
  try simp only [Act.put, List.setIfInBounds_toArray, List.set_cons_zero, List.set_cons_succ]
  refine wpAnyG_take (i := 31) (v := ?v31x31) rfl (by kernel_rfl) (fun _ _ _ h => h) (Or.inl ⟨by rfl, ?y31x31⟩) hHeld ?r31x31
  case y31x31 => (intro wS hSw; obtain ⟨s1, s2, s3, s4, s5, s6, s7⟩ := hSw; go_simp; try with_reducible rfl)
  try simp only [Act.put, List.setIfInBounds_toArray, List.set_cons_zero, List.set_cons_succ]
  refine wpAnyG_take (i := 32) (v := .int .i64 (2 * g.c)) rfl (by kernel_rfl) (fun _ _ _ h => h) (Or.inl ⟨by kernel_rfl, ?y32x32⟩) hHeld ?r32x32
  case y32x32 => (intro wS hSw; (obtain ⟨s1, s2, s3, s4, s5, s6, s7⟩ := hSw; go_simp; try simp only [x9]))
  try simp only [Act.put, List.setIfInBounds_toArray, List.set_cons_zero, List.set_cons_succ]
  refine wpAnyG_take (i := 33) (v := ?v33x33) rfl (by kernel_rfl) (fun _ _ _ h => h) (Or.inl ⟨by rfl, ?y33x33⟩) hHeld ?r33x33
  case y33x33 => (intro wS hSw; obtain ⟨s1, s2, s3, s4, s5, s6, s7⟩ := hSw; go_simp; try with_reducible rfl)
  try simp only [Act.put, List.setIfInBounds_toArray, List.set_cons_zero, List.set_cons_succ]
  refine wpAnyG_take (i := 34) (v := ?v34x34) rfl (by kernel_rfl) (fun _ _ _ h => h) (Or.inl ⟨by rfl, ?y34x34⟩) hHeld ?r34x34
  case y34x34 => (intro wS hSw; obtain ⟨s1, s2, s3, s4, s5, s6, s7⟩ := hSw; go_simp; try with_reducible rfl)
  try simp only [Act.put, List.setIfInBounds_toArray, List.set_cons_zero, List.set_cons_succ]
  refine wpAnyG_take (i := 35) (v := .int .i64 v2) rfl (by kernel_rfl) (fun _ _ _ h => h) (Or.inl ⟨by kernel_rfl, ?y35x35⟩) hHeld ?r35x35
  case y35x35 => (intro wS hSw; (obtain ⟨s1, s2, s3, s4, s5, s6, s7⟩ := hSw; go_simp; try simp only [g2, x10]))
  try simp only [Act.put, List.setIfInBounds_toArray, List.set_cons_zero, List.set_cons_succ]
  refine wpAnyG_take (i := 36) (v := ?v36x36) rfl (by kernel_rfl) (fun _ _ _ h => h) (Or.inl ⟨by rfl, ?y36x36⟩) hHeld ?r36x36
  case y36x36 => (intro wS hSw; obtain ⟨s1, s2, s3, s4, s5, s6, s7⟩ := hSw; go_simp; try with_reducible rfl)
  try simp only [Act.put, List.setIfInBounds_toArray, List.set_cons_zero, List.set_cons_succ]
  refine wpAnyG_take (i := 37) (v := ?v37x37) rfl (by kernel_rfl) (fun _ _ _ h => h) (Or.inl ⟨by rfl, ?y37x37⟩) hHeld ?r37x37
  case y37x37 => (intro wS hSw; obtain ⟨s1, s2, s3, s4, s5, s6, s7⟩ := hSw; go_simp; try with_reducible rfl)
  try simp only [Act.put, List.setIfInBounds_toArray, List.set_cons_zero, List.set_cons_succ]
  refine wpAnyG_take (i := 38) (v := .int .i64 v3) rfl (by kernel_rfl) (fun _ _ _ h => h) (Or.inl ⟨by kernel_rfl, ?y38x38⟩) hHeld ?r38x38
  case y38x38 => (intro wS hSw; (obtain ⟨s1, s2, s3, s4, s5, s6, s7⟩ := hSw; go_simp; try simp only [g3, x11]))
  try simp only [Act.put, List.setIfInBounds_toArray, List.set_cons_zero, List.set_cons_succ]
  refine wpAnyG_take (i := 39) (v := .int .i64 (t3 + u4 + v3)) rfl (by kernel_rfl) (fun _ _ _ h => h) (Or.inl ⟨by kernel_rfl, ?y39x39⟩) hHeld ?r39x39
  case y39x39 => (intro wS hSw; (obtain ⟨s1, s2, s3, s4, s5, s6, s7⟩ := hSw; go_simp; try simp only [x12]))
  try simp only [Act.put, List.setIfInBounds_toArray, List.set_cons_zero, List.set_cons_succ]
  refine wpAnyG_take (i := 40) (v := ?v40x40) rfl (by kernel_rfl) (fun _ _ _ h => h) (Or.inl ⟨by rfl, ?y40x40⟩) hHeld ?r40x40
  case y40x40 => (intro wS hSw; obtain ⟨s1, s2, s3, s4, s5, s6, s7⟩ := hSw; go_simp; try with_reducible rfl)
  try simp only [Act.put, List.setIfInBounds_toArray, List.set_cons_zero, List.set_cons_succ]
  refine wpAnyG_take (i := 41) (v := ?v41x41) rfl (by kernel_rfl) (fun _ _ _ h => h) (Or.inl ⟨by rfl, ?y41x41⟩) hHeld ?r41x41
  case y41x41 => (intro wS hSw; obtain ⟨s1, s2, s3, s4, s5, s6, s7⟩ := hSw; go_simp; try with_reducible rfl)
  try simp only [Act.put, List.setIfInBounds_toArray, List.set_cons_zero, List.set_cons_succ]
  refine wpAnyG_take (i := 42) (v := ?v42x42) rfl (by kernel_rfl) (fun _ _ _ h => h) (Or.inl ⟨by rfl, ?y42x42⟩) hHeld ?r42x42
  case y42x42 => (intro wS hSw; obtain ⟨s1, s2, s3, s4, s5, s6, s7⟩ := hSw; go_simp; try with_reducible rfl)
  try simp only [Act.put, List.setIfInBounds_toArray, List.set_cons_zero, List.set_cons_succ]
  refine wpAnyG_take (i := 43) (v := ?v43x43) rfl (by kernel_rfl) (fun _ _ _ h => h) (Or.inl ⟨by rfl, ?y43x43⟩) hHeld ?r43x43
  case y43x43 => (intro wS hSw; obtain ⟨s1, s2, s3, s4, s5, s6, s7⟩ := hSw; go_simp; try with_reducible rfl)
  try simp only [Act.put, List.setIfInBounds_toArray, List.set_cons_zero, List.set_cons_succ]
  refine wpAnyG_take (i := 44) (v := ?v44x44) rfl (by kernel_rfl) (fun _ _ _ h => h) (Or.inl ⟨by rfl, ?y44x44⟩) hHeld ?r44x44
  case y44x44 => (intro wS hSw; obtain ⟨s1, s2, s3, s4, s5, s6, s7⟩ := hSw; go_simp; try with_reducible rfl)
  try simp only [Act.put, List.setIfInBounds_toArray, List.set_cons_zero, List.set_cons_succ]
  refine wpAnyG_one (i := 5) rfl (by kernel_rfl) (fun K hK => ?_)
  go_simp
  refine (HV1.out _).mono ?_
  rintro e w1 ⟨rfl, k1⟩
  have N1 := N0.below k1
  refine hK.out _ _ (s7t_of N1) ?_
  clear hK K
  try simp only [Act.put, List.setIfInBounds_toArray, List.set_cons_zero, List.set_cons_succ]
  refine wpAnyG_one (i := 45) rfl (by kernel_rfl) (fun K hK => ?_)
  go_simp
  refine (HV2.out _).mono ?_
  rintro e w2 ⟨rfl, k2⟩
  have N2 := N1.below k2
  refine hK.out _ _ (s7t_of N2) ?_
  clear hK K
  try simp only [Act.put, List.setIfInBounds_toArray, List.set_cons_zero, List.set_cons_succ]
  clear hHeld
  have hHeld : S7t g m w.heap.size w2 := s7t_of N2
  refine wpAnyG_take (i := 46) (v := ?v46x45) rfl (by kernel_rfl) (fun _ _ _ h => h) (Or.inl ⟨by rfl, ?y46x45⟩) hHeld ?r46x45
  case y46x45 => (intro wS hSw; obtain ⟨s1, s2, s3, s4, s5, s6, s7⟩ := hSw; go_simp; try with_reducible rfl)
  try simp only [Act.put, List.setIfInBounds_toArray, List.set_cons_zero, List.set_cons_succ]
  have z0 := (N2.1 _ (.head _)).cell 0
  have z1 := (N2.1 _ (.head _)).cell 1
  have z2 := (N2.1 _ (.head _)).cell 2
  have z3 := (N2.1 _ (.head _)).frozen 0
  have z4 := (N2.1 _ (.head _)).frozen 1
  have z5 := (N2.1 _ (.head _)).frozen 2
  have z6 : w.heap.size + 1 + 1 < w2.heap.size := (N2.1 _ (.head _)).lt
  simp at z0 z1 z2
  have HE : Hid (Ms [(w.heap.size + 1 + 1, [.int .i64 V1, .int .i64 (t3 + u4 + v3), .int .i64 V2], 32)] w (((w2.setCell ⟨w.heap.size + 1 + 1, 0, none⟩ (.int .i64 V1)).setCell ⟨w.heap.size + 1 + 1, 1, none⟩ (.int .i64 (t3 + u4 + v3))).setCell ⟨w.heap.size + 1 + 1, 2, none⟩ (.int .i64 V2))) :=
    (N2.mono (l' := []) (fun x hx => (by cases hx))).set3 (N2.1 _ (.head _)) (fun x hx => (by cases hx)) (by omega) _ _ _
  refine wpAnyG_last (i := 47) rfl (by kernel_rfl) (by kernel_rfl) (fun K hK => ?_)
  go_simp
  refine hK.out _ _ ?_
  clear hK K
  try simp only [Act.put, List.setIfInBounds_toArray, List.set_cons_zero, List.set_cons_succ]
  refine wpAnyG_done (by kernel_rfl) ?_ _
  clear hHeld N0 N1 N2 z0 z1 z2 z3 z4 z5
  go_wp2_with fail
  generalize hWF : World.setCell _ _ _ = WF
  have E : Ms [(w.heap.size + 1 + 1, [.int .i64 V1, .int .i64 (t3 + u4 + v3), .int .i64 V2], 32)] w WF := hWF ▸ HE.out
  have y0 := (E.1 _ (.head _)).cell 0
  have y1 := (E.1 _ (.head _)).cell 1
  have y2 := (E.1 _ (.head _)).cell 2
  have y3 : w.heap.size + 1 + 1 < WF.heap.size := (E.1 _ (.head _)).lt
  simp at y0 y1 y2
  exact bodyPost_ret (v := .agg #[.int .i64 V1, .int .i64 (t3 + u4 + v3), .int .i64 V2]) (by simp [results, Try.results38, go_sem, y0, y1, y2, y3]) rfl ⟨rfl, E.2⟩

end Go.Proofs.Ytijkanilpblogae
end

section
/- The reference's Composed. -/
set_option linter.unusedSimpArgs false
set_option linter.unusedVariables false
set_option maxRecDepth 100000
namespace Go.Proofs.Ytijkanilpblogae
open Go.RowKit

theorem left_int (a n : Int) (w : World) (ha : a.natAbs ≤ 4000000000000000000) (h0 : 1 ≤ n) (hn : n ≤ 1000000000000000000) :
    Calls Try.prog 11 #[.int .i64 a, .int .i64 n] w fun e w' => e = .returned (.int .i64 (a % n)) ∧ w' = w := by
  obtain ⟨m, rfl⟩ : ∃ m : Nat, n = m := ⟨n.toNat, by omega⟩
  exact refLeft_any a m w ha (by omega) hn

theorem red_pos {r : Qf} (h : r.redB = true) (hd : r.disc < 0) : 1 ≤ r.a := by
  obtain ⟨h1, h2, h3⟩ := redB_parts h
  rcases Int.lt_or_le 0 r.a with h4 | h4
  · omega
  · exfalso
    have ha : r.a = 0 := by omega
    have hb : r.b = 0 := by omega
    unfold Qf.disc at hd
    rw [ha, hb] at hd
    simp at hd

theorem tur_bd {g : Qf} {D : Int} (hr : g.redB = true) (ha : 1 ≤ g.a) (hd : g.disc = D) (lo : -20000 ≤ D) {m : Mt} (hm : m.upto 83) : -200000000 ≤ (tur g m).b ∧ (tur g m).b ≤ 200000000 := by
  obtain ⟨a81, c5, _, b1, b2, ac⟩ := MQ.red_small hr ha hd lo
  obtain ⟨⟨p1, p2⟩, ⟨q1, q2⟩, ⟨r1, r2⟩, s1, s2⟩ := hm
  have x1 := bd3 (show (-162 : Int) ≤ 2 * g.a by omega) (show 2 * g.a ≤ 162 by omega) p1 p2
  have x2 := bd3 x1.1 x1.2 q1 q2
  have y1 := bd3 p1 p2 s1 s2
  have y2 := bd3 q1 q2 r1 r2
  have y3 := bd3 (show (-81 : Int) ≤ g.b by omega) (show g.b ≤ 81 by omega) (show (-13778 : Int) ≤ m.p * m.s + m.q * m.r by omega) (show m.p * m.s + m.q * m.r ≤ 13778 by omega)
  have z1 := bd3 (show (-10000 : Int) ≤ 2 * g.c by omega) (show 2 * g.c ≤ 10000 by omega) r1 r2
  have z2 := bd3 z1.1 z1.2 s1 s2
  show -200000000 ≤ 2 * g.a * m.p * m.q + g.b * (m.p * m.s + m.q * m.r) + 2 * g.c * m.r * m.s ∧ _ ≤ _
  refine ⟨?_, ?_⟩
  · omega
  · show 2 * g.a * m.p * m.q + g.b * (m.p * m.s + m.q * m.r) + 2 * g.c * m.r * m.s ≤ 200000000
    omega

/-- What is known when r and s are found. -/
structure Found (f g : Qf) (D : Int) (m : Mt) : Prop where
  c : MQ.Cin f g D
  det : m.p * m.s - m.q * m.r = 1
  up : m.upto 83
  a : 1 ≤ (tur g m).a ∧ (tur g m).a ≤ 16810000
  cp : Int.gcd (tur g m).a f.a = 1

theorem Found.disc {f g : Qf} {D : Int} {m : Mt} (h : Found f g D m) : (tur g m).disc = D := by
  have h1 : (tur g m).disc = g.disc * ((m.p * m.s - m.q * m.r) * (m.p * m.s - m.q * m.r)) := by
    simp only [Qf.disc, tur, Qf.at]; grind
  rw [h1, h.det, h.c.dg]; omega
/-- How far the search for b goes. -/
theorem Found.search {f g : Qf} {D : Int} {m : Mt} (h : Found f g D m) : ∃ t : Nat, (t : Int) < (tur g m).a ∧ (f.b % (2 * f.a) + 2 * f.a * t - (tur g m).b) % (2 * (tur g m).a) = 0 := by
  refine MQ.search_b h.c.fa h.a.1 (by rw [Int.gcd_comm]; exact h.cp) ?_
  have e1 := h.disc
  have e2 := h.c.df
  obtain ⟨s, n, hs, e⟩ := MQ.disc_sn f
  have k1 := (MQ.Fk.of (show 0 < f.a by have := h.c.fa; omega) hs e).b
  have k2 := (MQ.Fk.of (show 0 < (tur g m).a by have := h.a.1; omega) hs (show (tur g m).disc = s * s + 4 * n by rw [e1, ← e2, e])).b
  have k3 := Int.mul_ediv_add_emod f.b (2 * f.a)
  have k4 : 2 * f.a * (f.b / (2 * f.a)) = 2 * (f.a * (f.b / (2 * f.a))) := Int.mul_assoc ..
  omega
/-- The form that is reduced at the end. -/
theorem Found.last {f g : Qf} {D : Int} {m : Mt} (h : Found f g D m) {b : Int} {t : Nat} (ht : (t : Int) < (tur g m).a) (hb : b = f.b % (2 * f.a) + 2 * f.a * t) (h0 : (b - (tur g m).b) % (2 * (tur g m).a) = 0) :
    ∃ c : Int, b * b - D = 4 * (f.a * (tur g m).a) * c ∧ (0 ≤ b ∧ b < 2 * (f.a * (tur g m).a)) ∧ f.a * (tur g m).a ≤ 1361610000 ∧ Qf.upto 2800000000 ⟨f.a * (tur g m).a, b, c⟩ ∧ 1 ≤ f.a * (tur g m).a ∧ Qf.disc ⟨f.a * (tur g m).a, b, c⟩ = D ∧ (b - f.b) % (2 * f.a) = 0 := by
  obtain ⟨a81, _, _, _, _, _⟩ := MQ.red_small h.c.rf h.c.fa h.c.df h.c.lo
  have fa := h.c.fa
  have ha := h.a
  have hlo := h.c.lo
  have hhi := h.c.hi
  have hb1 : (b - f.b) % (2 * f.a) = 0 := by
    have k3 := Int.mul_ediv_add_emod f.b (2 * f.a)
    rw [hb, show f.b % (2 * f.a) + 2 * f.a * t - f.b = 2 * f.a * (t - f.b / (2 * f.a)) by
      have : 2 * f.a * (t - f.b / (2 * f.a)) = 2 * f.a * t - 2 * f.a * (f.b / (2 * f.a)) := Int.mul_sub ..
      omega]
    exact Int.mul_emod_right ..
  have hbr : 0 ≤ b ∧ b < 2 * (f.a * (tur g m).a) := by
    have e1 := Int.emod_nonneg f.b (show 2 * f.a ≠ 0 by omega)
    have e2 := Int.emod_lt_of_pos f.b (show 0 < 2 * f.a by omega)
    have e3 : 0 ≤ 2 * f.a * (t : Int) := Int.mul_nonneg (by omega) (by omega)
    have e4 : 2 * f.a * (t : Int) ≤ 2 * f.a * ((tur g m).a - 1) := Int.mul_le_mul_of_nonneg_left (by omega) (by omega)
    have e5 : 2 * f.a * ((tur g m).a - 1) = 2 * (f.a * (tur g m).a) - 2 * f.a := by rw [Int.mul_sub, Int.mul_assoc]; omega
    omega
  have hA : f.a * (tur g m).a ≤ 1361610000 := by
    have := Int.mul_le_mul a81 ha.2 (by omega) (by omega)
    omega
  have hA1 : 1 ≤ f.a * (tur g m).a := by
    have := Int.mul_le_mul fa ha.1 (by omega) (by omega)
    omega
  -- the division goes up
  obtain ⟨s, n, hs, e⟩ := MQ.disc_sn f
  have k1 := MQ.Fk.of (show 0 < f.a by omega) hs e
  have k2 := MQ.Fk.of (show 0 < (tur g m).a by omega) hs (show (tur g m).disc = s * s + 4 * n by rw [h.disc, ← h.c.df, e])
  obtain ⟨t1, ht1⟩ := Int.dvd_of_emod_eq_zero hb1
  obtain ⟨t2, ht2⟩ := Int.dvd_of_emod_eq_zero h0
  have b1 := k1.b
  have b2 := k2.b
  obtain ⟨μ, hμ⟩ : ∃ μ, b = 2 * μ + s := ⟨(f.b - s) / 2 + f.a * t1, by have : 2 * f.a * t1 = 2 * (f.a * t1) := Int.mul_assoc ..; omega⟩
  have m1 : μ = (f.b - s) / 2 + f.a * t1 := by have : 2 * f.a * t1 = 2 * (f.a * t1) := Int.mul_assoc ..; omega
  have m2 : μ = ((tur g m).b - s) / 2 + (tur g m).a * t2 := by have : 2 * (tur g m).a * t2 = 2 * ((tur g m).a * t2) := Int.mul_assoc ..; omega
  have a1 := k1.ac
  have a2 := k2.ac
  have d1 : f.a ∣ μ * μ + s * μ - n := by
    generalize (f.b - s) / 2 = k at *
    exact ⟨f.c + 2 * k * t1 + f.a * t1 * t1 + s * t1, by rw [m1]; grind⟩
  have d2 : (tur g m).a ∣ μ * μ + s * μ - n := by
    generalize ((tur g m).b - s) / 2 = k at *
    exact ⟨(tur g m).c + 2 * k * t2 + (tur g m).a * t2 * t2 + s * t2, by rw [m2]; grind⟩
  obtain ⟨c, hc⟩ : f.a * (tur g m).a ∣ μ * μ + s * μ - n := by
    obtain ⟨u, hu⟩ := d1
    rw [hu] at d2 ⊢
    obtain ⟨v, hv⟩ := (MQ.Cp.of_gcd h.cp).dvd d2
    exact ⟨v, by rw [hv, Int.mul_assoc]⟩
  have hD : D = s * s + 4 * n := by rw [← h.c.df, e]
  have hcc : b * b - D = 4 * (f.a * (tur g m).a) * c := by
    rw [hμ, hD, Int.mul_assoc, ← hc]; grind
  have hdd : Qf.disc ⟨f.a * (tur g m).a, b, c⟩ = D := by simp only [Qf.disc]; omega
  refine ⟨c, hcc, hbr, hA, ⟨by show -2800000000 ≤ f.a * (tur g m).a; omega, by show f.a * (tur g m).a ≤ 2800000000; omega, by show -2800000000 ≤ b; omega, by show b ≤ 2800000000; omega, ?_, ?_⟩, hA1, hdd, hb1⟩
  · have := pos_c (g := ⟨f.a * (tur g m).a, b, c⟩) hA1 (by rw [hdd]; exact hhi)
    show -2800000000 ≤ c
    have h3 : 1 ≤ c := this
    omega
  · show c ≤ 2800000000
    rcases Int.lt_or_le 2800000000 c with h4 | h4
    · exfalso
      have e1 : b * b ≤ (2 * (f.a * (tur g m).a)) * (2 * (f.a * (tur g m).a)) := Int.mul_le_mul (by omega) (by omega) (by omega) (by omega)
      generalize f.a * (tur g m).a = A at *
      have e2 : 4 * A * 2800000001 ≤ 4 * A * c := Int.mul_le_mul_of_nonneg_left (by omega) (by omega)
      have e3 : 2 * A * (2 * A) ≤ 2 * A * 2723220000 := Int.mul_le_mul_of_nonneg_left (by omega) (by omega)
      omega
    · exact h4

end Go.Proofs.Ytijkanilpblogae
end

section
/- The reference's GenusOf: the marks. -/
set_option linter.unusedSimpArgs false
set_option linter.unusedVariables false
set_option maxRecDepth 100000
namespace Go.Proofs.Ytijkanilpblogae
open Go.RowKit

theorem Try.infoBool : (Try.prog.info? 4).map (fun i => (i.zero, i.size, i.bytes)) = some (some (.bool false), 1, 1) := by kernel_rfl
theorem cl_of_make {w w' : World} {n : Nat} (h : w'.ownsRow w.heap.size 4 1 (.slice (some ⟨w.heap.size, 0, none⟩) n n) n (madeCells #[Value.bool false] n).toList) : Cl w.heap.size (List.replicate n (.bool false)) 4 w' := by
  obtain ⟨h1, h2 | ⟨g, cap, cur, e1, e2, e3, e4, e5, e6, e7⟩⟩ := h
  · obtain ⟨h2, rfl⟩ := h2
    simp at h2
  · simp at e1
    obtain ⟨rfl, rfl⟩ := e1
    unfold Cl
    rw [e3]
    have : cur.toList = (madeCells #[Value.bool false] n).toList := by
      rw [← e7, List.take_of_length_le (by simp; omega)]
    have e8 : cur = madeCells #[Value.bool false] n := Array.toList_inj.1 this
    rw [e8]
    congr 2
    apply Array.ext
    · simp [madeCells]
    · intro i h1 h2
      simp [madeCells, Nat.mod_one]

/-- The rest that f leaves at x and y. -/
def vl (f : Qf) (D x y : Nat) : Nat := (f.at x y % (D : Int)).toNat
/-- Which rests have been met ahead of x, y. -/
def Mk (f : Qf) (D x y : Nat) (B : Nat → Bool) : Prop := ∀ i, B i = true ↔ ∃ x' y', x' < D ∧ y' < D ∧ (x' < x ∨ (x' = x ∧ y' < y)) ∧ vl f D x' y' = i
theorem Mk.start (f : Qf) (D : Nat) : Mk f D 0 0 (fun _ => false) := fun i => ⟨fun h => (by cases h), fun ⟨x', y', _, _, h, _⟩ => (by omega)⟩
theorem Mk.step {f : Qf} {D x y : Nat} {B : Nat → Bool} (h : Mk f D x y B) (hx : x < D) (hy : y < D) : Mk f D x (y + 1) (fun i => B i || i == vl f D x y) := fun i => by
  rw [Bool.or_eq_true, h i, beq_iff_eq]
  constructor
  · rintro (⟨x', y', a, b, c, d⟩ | rfl)
    · exact ⟨x', y', a, b, by omega, d⟩
    · exact ⟨x, y, hx, hy, by omega, rfl⟩
  · rintro ⟨x', y', a, b, c, d⟩
    by_cases hc : x' < x ∨ (x' = x ∧ y' < y)
    · exact .inl ⟨x', y', a, b, hc, d⟩
    · obtain ⟨rfl, rfl⟩ : x' = x ∧ y' = y := by omega
      exact .inr d.symm
theorem Mk.next {f : Qf} {D x : Nat} {B : Nat → Bool} (h : Mk f D x D B) : Mk f D (x + 1) 0 B := fun i => by
  rw [h i]
  constructor
  · rintro ⟨x', y', a, b, c, d⟩
    exact ⟨x', y', a, b, by omega, d⟩
  · rintro ⟨x', y', a, b, c, d⟩
    exact ⟨x', y', a, b, by omega, d⟩
/-- The marks' cells. -/
def mcells (D : Nat) (B : Nat → Bool) : List Value := (List.range D).map fun i => .bool (B i)
theorem mcells_false (D : Nat) : List.replicate D (.bool false) = mcells D (fun _ => false) := by
  apply List.ext_getElem?
  intro i
  simp only [mcells, List.getElem?_map, List.getElem?_replicate, List.getElem?_range']
  by_cases h : i < D
  · simp [h]
  · simp [h]
theorem mcells_at {D i : Nat} (B : Nat → Bool) (h : i < D) : (mcells D B)[i]? = some (.bool (B i)) := by simp [mcells, h]
theorem mcells_set {D j : Nat} (B : Nat → Bool) (h : j < D) : (mcells D B).set j (.bool true) = mcells D (fun i => B i || i == j) := by
  apply List.ext_getElem?
  intro i
  rw [List.getElem?_set]
  by_cases hj : j = i
  · subst hj
    rw [if_pos rfl, mcells_at _ h]
    simp [mcells, h]
  · rw [if_neg hj]
    have hij : (i == j) = false := beq_eq_false_iff_ne.2 (fun k => hj k.symm)
    by_cases hi : i < D
    · rw [mcells_at _ hi, mcells_at _ hi, hij, Bool.or_false]
    · rw [List.getElem?_eq_none (by simp [mcells]; omega), List.getElem?_eq_none (by simp [mcells]; omega)]

/-- What is reckoned is f's rest. -/
theorem vl_is (f : Qf) (D x y : Nat) (hD : 0 < D) : (f.a % (D : Int) * x * x + f.b % (D : Int) * x * y + f.c % (D : Int) * y * y) % (D : Int) = (vl f D x y : Int) := by
  have h0 := Int.emod_nonneg (f.at x y) (show (D : Int) ≠ 0 by omega)
  rw [vl, Int.toNat_of_nonneg h0]
  apply Int.emod_eq_emod_iff_emod_sub_eq_zero.2
  apply Int.emod_eq_zero_of_dvd
  have ea := Int.mul_ediv_add_emod f.a (D : Int)
  have eb := Int.mul_ediv_add_emod f.b (D : Int)
  have ec := Int.mul_ediv_add_emod f.c (D : Int)
  refine ⟨-(f.a / (D : Int) * x * x + f.b / (D : Int) * x * y + f.c / (D : Int) * y * y), ?_⟩
  simp only [Qf.at]
  generalize f.a / (D : Int) = p at *
  generalize f.b / (D : Int) = q at *
  generalize f.c / (D : Int) = r at *
  generalize f.a % (D : Int) = p0 at *
  generalize f.b % (D : Int) = q0 at *
  generalize f.c % (D : Int) = r0 at *
  rw [← ea, ← eb, ← ec]
  grind

end Go.Proofs.Ytijkanilpblogae
end
