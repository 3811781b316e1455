/- What the laws GaussReckons and EisenReckons share: faults, what lies in memory, what is read. -/
import Derived.Test.YtogdggdaaiajnadGreatDoorRefU
import Derived.Test.YtogdggdaaiajnadGreatDoorRefV
set_option linter.unusedSimpArgs false
set_option linter.unusedVariables false
set_option maxRecDepth 100000
namespace Go.Proofs.YtogdggdaaiajnadGreatDoor
open Go.RowKit

/-- A fault, as a value. -/
abbrev fv (f : Int × Int) : Value := .agg #[.int .i64 f.1, .int .i64 f.2]
def mulF (T : Int) (x y : Pp) : Int × Int := if pfl 0 [x, y] ≠ (0, 0) then pfl 0 [x, y] else if okP (x.mul T y) then (0, 0) else (9, 0)
def mulV (T : Int) (x y : Pp) : Pp := if mulF T x y = (0, 0) then x.mul T y else Pp.zero
def divF (x y : Pp) : Int × Int := if pfl 0 [x, y] ≠ (0, 0) then pfl 0 [x, y] else if y = Pp.zero then (4, 1) else (0, 0)
def divQ (T : Int) (x y : Pp) : Pp := if divF x y = (0, 0) then quo T x y else Pp.zero
def divR (T : Int) (x y : Pp) : Pp := if divF x y = (0, 0) then x.sub ((quo T x y).mul T y) else Pp.zero

/-- What lies in memory behind the four calls. -/
structure Mg (h b1 b2 b3 b4 : Nat) (T U : Int) (u x y p q r g : Pp) (f1 f2 f3 f4 : Int × Int) (w W : World) : Prop where
  x : Sv h x.a x.b W
  y : Sv (h + 1) y.a y.b W
  rg : Rg (h + 2) T U u W
  f1 : Sv b1 f1.1 f1.2 W
  p : Sv b2 p.a p.b W
  f2 : Sv (b2 + 1) f2.1 f2.2 W
  q : Sv b3 q.a q.b W
  r : Sv (b3 + 1) r.a r.b W
  f3 : Sv (b3 + 2) f3.1 f3.2 W
  g : Sv b4 g.a g.b W
  f4 : Sv (b4 + 1) f4.1 f4.2 W
  k : Below h w W
theorem Mg.below {h b1 b2 b3 b4 : Nat} {T U : Int} {u x y p q r g : Pp} {f1 f2 f3 f4 : Int × Int} {w W W' : World} (m : Mg h b1 b2 b3 b4 T U u x y p q r g f1 f2 f3 f4 w W) (k : Below W.heap.size W W') : Mg h b1 b2 b3 b4 T U u x y p q r g f1 f2 f3 f4 w W' :=
  ⟨m.x.below k, m.y.below k, m.rg.below k, m.f1.below k, m.p.below k, m.f2.below k, m.q.below k, m.r.below k, m.f3.below k, m.g.below k, m.f4.below k, m.k.trans (k.mono (Nat.le_of_lt m.x.lt))⟩

theorem Mg.setv {h b1 b2 b3 b4 : Nat} {T U : Int} {u x y p q r g : Pp} {f1 f2 f3 f4 : Int × Int} {w W : World} (m : Mg h b1 b2 b3 b4 T U u x y p q r g f1 f2 f3 f4 w W) (b : Nat) (v1 v2 : Value) (n1 : h + 2 < b) (n2 : b1 < b) (n3 : b2 + 1 < b) (n4 : b3 + 2 < b) (n5 : b4 + 1 < b) : Mg h b1 b2 b3 b4 T U u x y p q r g f1 f2 f3 f4 w ((W.setCell ⟨b, 0, none⟩ v1).setCell ⟨b, 1, none⟩ v2) :=
  ⟨m.x.other _ _ (by omega), m.y.other _ _ (by omega), (m.rg.set _ (by omega)).set _ (by omega), m.f1.other _ _ (by omega), m.p.other _ _ (by omega), m.f2.other _ _ (by omega), m.q.other _ _ (by omega), m.r.other _ _ (by omega), m.f3.other _ _ (by omega), m.g.other _ _ (by omega), m.f4.other _ _ (by omega), (m.k.setCell (by show h ≤ b; omega) _).setCell (by show h ≤ b; omega) _⟩

theorem field_fault (w : World) (x y : Int) : (Instr.field 28 (.agg #[.int .i64 x, .int .i64 y]) 0).run Tryz.prog w = .ok (.int .i64 x) w := by
  kernel_rfl

theorem alloc1 (W : World) (o : Obj) : Below W.heap.size W (W.alloc o) := Below.alloc (Below.refl _ _) (Nat.le_refl _) _

abbrev S15 (b2 b7 : Nat) (w' : World) : Prop := w'.cell? ⟨b2 + 1, 0, none⟩ = some (.int .i64 (9)) ∧ w'.cell? ⟨b2 + 1, 1, none⟩ = some (.int .i64 (0)) ∧ w'.cell? ⟨b2, 0, none⟩ = some (.int .i64 (0)) ∧ w'.cell? ⟨b2, 1, none⟩ = some (.int .i64 (0)) ∧ w'.cell? ⟨b7, 0, none⟩ = some (.int .i64 (0)) ∧ w'.cell? ⟨b7, 1, none⟩ = some (.int .i64 (0))
abbrev S20 (b3 b7 : Nat) (w' : World) : Prop := w'.cell? ⟨b3 + 2, 0, none⟩ = some (.int .i64 (4)) ∧ w'.cell? ⟨b3 + 2, 1, none⟩ = some (.int .i64 (1)) ∧ w'.cell? ⟨b3, 0, none⟩ = some (.int .i64 (0)) ∧ w'.cell? ⟨b3, 1, none⟩ = some (.int .i64 (0)) ∧ w'.cell? ⟨b3 + 1, 0, none⟩ = some (.int .i64 (0)) ∧ w'.cell? ⟨b3 + 1, 1, none⟩ = some (.int .i64 (0)) ∧ w'.cell? ⟨b7, 0, none⟩ = some (.int .i64 (0)) ∧ w'.cell? ⟨b7, 1, none⟩ = some (.int .i64 (0))
abbrev S22 (h b3 : Nat) (T U : Int) (u x y q r : Pp) (w' : World) : Prop := w'.cell? ⟨b3 + 2, 0, none⟩ = some (.int .i64 (0)) ∧ w'.cell? ⟨b3, 0, none⟩ = some (.int .i64 (q.a)) ∧ w'.cell? ⟨b3, 1, none⟩ = some (.int .i64 (q.b)) ∧ w'.cell? ⟨b3 + 1, 0, none⟩ = some (.int .i64 (r.a)) ∧ w'.cell? ⟨b3 + 1, 1, none⟩ = some (.int .i64 (r.b)) ∧ w'.cell? ⟨h + 2, 0, none⟩ = some (.int .i64 (T)) ∧ w'.cell? ⟨h + 2, 1, none⟩ = some (.int .i64 (U)) ∧ w'.cell? ⟨h + 2, 2, none⟩ = some (.int .i64 (u.a)) ∧ w'.cell? ⟨h + 2, 3, none⟩ = some (.int .i64 (u.b)) ∧ w'.cell? ⟨h, 0, none⟩ = some (.int .i64 (x.a)) ∧ w'.cell? ⟨h, 1, none⟩ = some (.int .i64 (x.b)) ∧ w'.cell? ⟨h + 1, 0, none⟩ = some (.int .i64 (y.a)) ∧ w'.cell? ⟨h + 1, 1, none⟩ = some (.int .i64 (y.b))
abbrev S24 (h b4 : Nat) (T U : Int) (u x y g : Pp) (w' : World) : Prop := w'.cell? ⟨b4 + 1, 0, none⟩ = some (.int .i64 (0)) ∧ w'.cell? ⟨b4, 0, none⟩ = some (.int .i64 (g.a)) ∧ w'.cell? ⟨b4, 1, none⟩ = some (.int .i64 (g.b)) ∧ w'.cell? ⟨h + 2, 0, none⟩ = some (.int .i64 (T)) ∧ w'.cell? ⟨h + 2, 1, none⟩ = some (.int .i64 (U)) ∧ w'.cell? ⟨h + 2, 2, none⟩ = some (.int .i64 (u.a)) ∧ w'.cell? ⟨h + 2, 3, none⟩ = some (.int .i64 (u.b)) ∧ w'.cell? ⟨h, 0, none⟩ = some (.int .i64 (x.a)) ∧ w'.cell? ⟨h, 1, none⟩ = some (.int .i64 (x.b)) ∧ w'.cell? ⟨h + 1, 0, none⟩ = some (.int .i64 (y.a)) ∧ w'.cell? ⟨h + 1, 1, none⟩ = some (.int .i64 (y.b))
theorem Mg.s15 {h b1 b2 b3 b4 b7 : Nat} {T U : Int} {u x y q r g : Pp} {f1 f3 f4 : Int × Int} {w W : World} (m : Mg h b1 b2 b3 b4 T U u x y Pp.zero q r g f1 (9, 0) f3 f4 w W) (n : Sv b7 0 0 W) : S15 b2 b7 W := ⟨m.f2.c0, m.f2.c1, m.p.c0, m.p.c1, n.c0, n.c1⟩
theorem Mg.s20 {h b1 b2 b3 b4 b7 : Nat} {T U : Int} {u x y p g : Pp} {f1 f2 f4 : Int × Int} {w W : World} (m : Mg h b1 b2 b3 b4 T U u x y p Pp.zero Pp.zero g f1 f2 (4, 1) f4 w W) (n : Sv b7 0 0 W) : S20 b3 b7 W := ⟨m.f3.c0, m.f3.c1, m.q.c0, m.q.c1, m.r.c0, m.r.c1, n.c0, n.c1⟩
theorem Mg.s22 {h b1 b2 b3 b4 : Nat} {T U : Int} {u x y p q r g : Pp} {f1 f2 f4 : Int × Int} {w W : World} (m : Mg h b1 b2 b3 b4 T U u x y p q r g f1 f2 (0, 0) f4 w W) : S22 h b3 T U u x y q r W := ⟨m.f3.c0, m.q.c0, m.q.c1, m.r.c0, m.r.c1, m.rg.c0, m.rg.c1, m.rg.c2, m.rg.c3, m.x.c0, m.x.c1, m.y.c0, m.y.c1⟩
theorem Mg.s24 {h b1 b2 b3 b4 : Nat} {T U : Int} {u x y p q r g : Pp} {f1 f2 f3 : Int × Int} {w W : World} (m : Mg h b1 b2 b3 b4 T U u x y p q r g f1 f2 f3 (0, 0) w W) : S24 h b4 T U u x y g W := ⟨m.f4.c0, m.g.c0, m.g.c1, m.rg.c0, m.rg.c1, m.rg.c2, m.rg.c3, m.x.c0, m.x.c1, m.y.c0, m.y.c1⟩
theorem okP_zero : okP Pp.zero = true := by decide
theorem hid {p : Prop} (h : p) : Hid p := h

/-- Two greatest ones, each a chief or 0, are the same. -/
theorem great_one {T : Int} (hT : TT T) {x y g k : Pp} (h1 : Gd T x y g) (h2 : Gd T x y k) (c1 : IsCh T g ∨ g = Pp.zero) (c2 : IsCh T k ∨ k = Pp.zero) : g = k := by
  obtain ⟨d1, d2⟩ := h1.assoc h2
  have hz : ∀ a b : Pp, Dv T a b → a = Pp.zero → b = Pp.zero := by
    rintro a b ⟨e, rfl⟩ rfl
    rw [mul_comm', mul_zero']
  rcases c1 with c1 | c1
  · rcases c2 with c2 | c2
    · exact chief_one T hT g k d1 d2 c1 c2
    · rw [c2]; exact hz k g d2 c2
  · rw [c1]; exact (hz g k d1 c1).symm

end Go.Proofs.YtogdggdaaiajnadGreatDoor
