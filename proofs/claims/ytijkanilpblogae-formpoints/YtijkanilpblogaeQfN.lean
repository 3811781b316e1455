/- The reference's First; Disc of any form; blocks that are known whole. -/
import Derived.Test.YtijkanilpblogaeQfM
import Derived.Test.YtijkanilpblogaeFormReducesWalk
import Derived.Test.YtijkanilpblogaeRegionK
set_option linter.unusedSimpArgs false
set_option linter.unusedVariables false
set_option maxRecDepth 100000
namespace Go.Proofs.Ytijkanilpblogae
open Go.RowKit

/-- The first form of a discriminant. -/
def firstOf (d : Int) : Qf := if d % 4 = 0 then ⟨1, 0, -d / 4⟩ else ⟨1, 1, (1 - d) / 4⟩

theorem firstOf_is {f : Qf} : MQ.Fst f (firstOf f.disc) := by
  obtain ⟨s, n, hs, e⟩ := MQ.disc_sn f
  unfold firstOf
  rw [e]
  rcases hs with rfl | rfl
  · rw [if_pos (by omega)]
    exact ⟨rfl, .inl rfl, by rw [e]; simp only [Qf.disc]; omega⟩
  · rw [if_neg (by omega)]
    exact ⟨rfl, .inr rfl, by rw [e]; simp only [Qf.disc]; omega⟩

theorem First_any (d : Int) (w : World) (h : -5000000000000 ≤ d ∧ d < 0) :
    Calls Try.prog 19 #[.int .i64 d] w fun e w' => e = .returned (firstOf d).v ∧ Below w.heap.size w w' := by
  have e1 : (-d).tdiv 4 = -d / 4 := Int.tdiv_eq_ediv_of_nonneg (by omega)
  have e2 : (1 - d).tdiv 4 = (1 - d) / 4 := Int.tdiv_eq_ediv_of_nonneg (by omega)
  have b1 : 0 ≤ -d / 4 ∧ -d / 4 ≤ 1250000000000 := by omega
  have b2 : 0 ≤ (1 - d) / 4 ∧ (1 - d) / 4 ≤ 1250000000000 := by omega
  have hm : (d.tmod 4 = 0) ↔ d % 4 = 0 := by
    constructor
    · intro h; exact Int.emod_eq_zero_of_dvd (Int.dvd_of_tmod_eq_zero h)
    · intro h; exact Int.tmod_eq_zero_of_dvd (Int.dvd_of_emod_eq_zero h)
  unfold firstOf
  by_cases h4 : d % 4 = 0
  · have h5 : d.tmod 4 = 0 := hm.2 h4
    rw [if_pos h4]
    generalize -d / 4 = q at *
    go_enter Try.func19, Try.ntmps19
    go_wp2
    refine bodyPost_ret (v := Qf.v ⟨1, 0, q⟩) (by simp [results, Try.results19, go_sem, Qf.v]) rfl ⟨rfl, ?_⟩
    exact al1 _ _
  · have h5 : d.tmod 4 ≠ 0 := fun h => h4 (hm.1 h)
    have h6 : (d.tmod 4 == 0) = false := by simpa using h5
    rw [if_neg h4]
    generalize (1 - d) / 4 = q at *
    go_enter Try.func19, Try.ntmps19
    go_wp2
    refine bodyPost_ret (v := Qf.v ⟨1, 1, q⟩) (by simp [results, Try.results19, go_sem, Qf.v]) rfl ⟨rfl, ?_⟩
    exact al1 _ _

/-- Whatever a form is, Disc answers a number. -/
theorem refDisc_wild (f : Qf) (w : World) : Calls Try.prog 15 #[f.v] w fun e w' => (∃ D : Int, e = .returned (.int .i64 D) ∧ (f.upto 1000000 → D = f.disc)) ∧ Below w.heap.size w w' := by
  by_cases hu : f.upto 1000000
  · refine (refDisc_any f w hu).mono ?_
    rintro e w' ⟨rfl, k⟩
    exact ⟨⟨_, rfl, fun _ => rfl⟩, k⟩
  · obtain ⟨a, b, c⟩ := f
    have HU : Hid (¬ Qf.upto 1000000 ⟨a, b, c⟩) := hu
    clear hu
    unfold Qf.v
    go_enter Try.func15, Try.ntmps15
    go_wp2
    go_ret
    exact ⟨⟨_, rfl, fun h => absurd h HU.out⟩, al1 _ _⟩

/-- Blocks that are known whole. -/
def Ms (l : List (Nat × List Value × TypeId)) (w W : World) : Prop := (∀ x ∈ l, Cl x.1 x.2.1 x.2.2 W) ∧ Below w.heap.size w W
theorem Ms.below {l : List (Nat × List Value × TypeId)} {w W W' : World} (h : Ms l w W) (k : Below W.heap.size W W') : Ms l w W' :=
  ⟨fun x hx => (h.1 x hx).below k, h.2.trans (k.mono h.2.size)⟩

theorem Ms.lt {l : List (Nat × List Value × TypeId)} {w W : World} (h : Ms l w W) : ∀ x ∈ l, x.1 < W.heap.size := fun x hx => (h.1 x hx).lt
theorem Ms.mono {l l' : List (Nat × List Value × TypeId)} {w W : World} (h : Ms l w W) (k : ∀ x ∈ l', x ∈ l) : Ms l' w W := ⟨fun x hx => h.1 x (k x hx), h.2⟩
theorem Ms.cons {l : List (Nat × List Value × TypeId)} {w W : World} (h : Ms l w W) {b : Nat} {xs : List Value} {t : TypeId} (k : Cl b xs t W) : Ms ((b, xs, t) :: l) w W :=
  ⟨fun x hx => by rcases List.mem_cons.1 hx with rfl | hx
                  · exact k
                  · exact h.1 x hx, h.2⟩
/-- A new block. -/
theorem Ms.new {l : List (Nat × List Value × TypeId)} {w W : World} (h : Ms l w W) (xs : List Value) (t : TypeId) : Ms ((W.heap.size, xs, t) :: l) w (W.alloc (.cells xs.toArray t)) := (h.below (al1 W _)).cons (Cl.new xs t W)
theorem Ms.other {l : List (Nat × List Value × TypeId)} {w W : World} (h : Ms l w W) {B : Nat} (hb : ∀ x ∈ l, x.1 < B) (hB : w.heap.size ≤ B) (i : Nat) (v : Value) : Ms l w (W.setCell ⟨B, i, none⟩ v) :=
  ⟨fun x hx => (h.1 x hx).other (show x.1 ≠ B by have := hb x hx; omega) v, h.2.setCell hB v⟩
/-- A block's three cells are written. -/
theorem Ms.set3 {l : List (Nat × List Value × TypeId)} {w W : World} {B : Nat} {t : TypeId} {x y z : Value} (h : Ms l w W) (k : Cl B [x, y, z] t W) (hb : ∀ x ∈ l, x.1 ≠ B) (hB : w.heap.size ≤ B) (a b c : Value) :
    Ms ((B, [a, b, c], t) :: l) w (((W.setCell ⟨B, 0, none⟩ a).setCell ⟨B, 1, none⟩ b).setCell ⟨B, 2, none⟩ c) :=
  Ms.cons ⟨fun x hx => (((h.1 x hx).other (hb x hx) a).other (hb x hx) b).other (hb x hx) c, ((h.2.setCell hB a).setCell hB b).setCell hB c⟩ (((k.set 0 a).set 1 b).set 2 c)
theorem Ms.set2 {l : List (Nat × List Value × TypeId)} {w W : World} {B : Nat} {t : TypeId} {x y : Value} (h : Ms l w W) (k : Cl B [x, y] t W) (hb : ∀ x ∈ l, x.1 ≠ B) (hB : w.heap.size ≤ B) (a b : Value) :
    Ms ((B, [a, b], t) :: l) w ((W.setCell ⟨B, 0, none⟩ a).setCell ⟨B, 1, none⟩ b) :=
  Ms.cons ⟨fun x hx => ((h.1 x hx).other (hb x hx) a).other (hb x hx) b, (h.2.setCell hB a).setCell hB b⟩ ((k.set 0 a).set 1 b)

end Go.Proofs.Ytijkanilpblogae
