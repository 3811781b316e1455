/- Genera: which rests a form's values have; a form by itself. Plain facts. -/
import Derived.Test.YtijkanilpblogaeQfM
set_option linter.unusedSimpArgs false
set_option linter.unusedVariables false
set_option maxRecDepth 100000
namespace Go.Proofs.Ytijkanilpblogae.MQ
variable {s n : Int}

/-- The same by D. -/
def Eqm (D a b : Int) : Prop := D ∣ a - b
theorem Eqm.refl (D a : Int) : Eqm D a a := ⟨0, by simp⟩
theorem Eqm.symm {D a b : Int} (h : Eqm D a b) : Eqm D b a := by obtain ⟨k, e⟩ := h; exact ⟨-k, by rw [Int.mul_neg, ← e]; omega⟩
theorem Eqm.trans {D a b c : Int} (h : Eqm D a b) (k : Eqm D b c) : Eqm D a c := by
  obtain ⟨x, e⟩ := h; obtain ⟨y, e2⟩ := k; exact ⟨x + y, by rw [Int.mul_add, ← e, ← e2]; omega⟩
theorem Eqm.mul {D a b c d : Int} (h : Eqm D a b) (k : Eqm D c d) : Eqm D (a * c) (b * d) := by
  obtain ⟨x, e⟩ := h; obtain ⟨y, e2⟩ := k
  exact ⟨x * c + b * y, by
    have h1 : a = b + D * x := by omega
    have h2 : c = d + D * y := by omega
    rw [h1, h2]; grind⟩
/-- One whose product with a is 1 by D. -/
theorem inv_ex {D a : Int} (h : Cp a D) : ∃ t, Eqm D (a * t) 1 := by
  obtain ⟨x, y, e⟩ := h
  exact ⟨x, ⟨-y, by grind⟩⟩
theorem Eqm.cancel {D a b c : Int} (h : Cp a D) (k : Eqm D (a * b) (a * c)) : Eqm D b c := by
  obtain ⟨t, ht⟩ := inv_ex h
  have h1 : Eqm D (t * (a * b)) (t * (a * c)) := (Eqm.refl D t).mul k
  have h2 : Eqm D (t * (a * b)) b := by
    have := ht.mul (Eqm.refl D b)
    rw [show a * t * b = t * (a * b) by grind, Int.one_mul] at this
    exact this
  have h3 : Eqm D (t * (a * c)) c := by
    have := ht.mul (Eqm.refl D c)
    rw [show a * t * c = t * (a * c) by grind, Int.one_mul] at this
    exact this
  exact h2.symm.trans (h1.trans h3)

/-- v is what some value of f leaves by D. -/
def Vl (D : Int) (f : Qf) (v : Int) : Prop := ∃ x y, Eqm D (f.at x y) v
theorem Vl.eqm {D v v' : Int} {f : Qf} (h : Vl D f v) (k : Eqm D v v') : Vl D f v' := by obtain ⟨x, y, e⟩ := h; exact ⟨x, y, e.trans k⟩
theorem Vl.like {D v : Int} {f g : Qf} {m : Mt} (h : Lk f g m) (k : Vl D g v) : Vl D f v := by
  obtain ⟨x, y, e⟩ := k
  exact ⟨_, _, by rw [h.like x y]; exact e⟩
theorem Lk.back {f g : Qf} {m : Mt} (h : Lk f g m) : Lk g f ⟨m.s, -m.q, -m.r, m.p⟩ := by
  have hd := h.det
  refine ⟨by show m.s * m.p - -m.q * -m.r = 1; grind, fun x y => ?_⟩
  rw [← h.like]
  show f.at (m.p * (m.s * x + -m.q * y) + m.q * (-m.r * x + m.p * y)) (m.r * (m.s * x + -m.q * y) + m.s * (-m.r * x + m.p * y)) = f.at x y
  rw [show m.p * (m.s * x + -m.q * y) + m.q * (-m.r * x + m.p * y) = (m.p * m.s - m.q * m.r) * x by grind, show m.r * (m.s * x + -m.q * y) + m.s * (-m.r * x + m.p * y) = (m.p * m.s - m.q * m.r) * y by grind, hd]
  simp
theorem Vl.iff {D v : Int} {f g : Qf} {m : Mt} (h : Lk f g m) : Vl D f v ↔ Vl D g v := ⟨Vl.like h.back, Vl.like h⟩

/-- The first form's values are norms. -/
theorem first_at {o : Qf} (h : Fk s n o 0) (oa : o.a = 1) (u v : Int) : o.at u v = u * u + s * (u * v) - n * (v * v) := by
  have hb := h.b
  have hc := h.ac
  rw [oa] at hc
  simp only [Qf.at, oa, hb]
  grind
theorem first_mul {o : Qf} (h : Fk s n o 0) (oa : o.a = 1) (u v x y : Int) : o.at u v * o.at x y = o.at (u * x + n * (v * y)) (u * y + v * x + s * (v * y)) := by
  rw [first_at h oa, first_at h oa, first_at h oa]; grind
/-- a times a value of a form that opens with a is a value of the first form. -/
theorem first_of {f o : Qf} {k : Int} (hf : Fk s n f k) (h : Fk s n o 0) (oa : o.a = 1) (x y : Int) : f.a * f.at x y = o.at (f.a * x + k * y) y := by
  obtain ⟨_, f1, f2⟩ := hf
  rw [first_at h oa]
  simp only [Qf.at]
  grind

theorem Vl.mul {D a b : Int} {o : Qf} (h : Fk s n o 0) (oa : o.a = 1) (k : Vl D o a) (l : Vl D o b) : Vl D o (a * b) := by
  obtain ⟨u, v, e⟩ := k
  obtain ⟨x, y, e2⟩ := l
  exact ⟨_, _, by rw [← first_mul h oa]; exact e.mul e2⟩
theorem Vl.sq {D : Int} {o : Qf} (h : Fk s n o 0) (oa : o.a = 1) (t : Int) : Vl D o (t * t) := ⟨t, 0, by rw [first_at h oa]; simp; exact Eqm.refl _ _⟩

/-- Which rests a form has that opens with a: a's, times the first form's. -/
theorem genus_a {D a v : Int} {f o : Qf} {k : Int} (hf : Fk s n f k) (h : Fk s n o 0) (oa : o.a = 1) (fa : f.a = a) (cp : Cp a D) : Vl D f v ↔ Vl D o (a * v) := by
  constructor
  · rintro ⟨x, y, e⟩
    refine ⟨f.a * x + k * y, y, ?_⟩
    rw [← first_of hf h oa x y, fa]
    exact (Eqm.refl D a).mul e
  · rintro ⟨u, w, e⟩
    obtain ⟨t, ht⟩ := inv_ex cp
    refine ⟨t * (u - k * w), w, Eqm.cancel cp ?_⟩
    have h1 := first_of hf h oa (t * (u - k * w)) w
    rw [fa] at h1
    rw [h1]
    refine Eqm.trans ?_ e
    obtain ⟨z, hz⟩ := ht
    -- a t (u - k w) + k w is u, by D
    rw [first_at h oa, first_at h oa]
    have e1 : a * (t * (u - k * w)) + k * w = u + D * (z * (u - k * w)) := by
      have : a * t = 1 + D * z := by omega
      rw [← Int.mul_assoc, this]; grind
    rw [e1]
    exact ⟨2 * u * (z * (u - k * w)) + D * (z * (u - k * w)) * (z * (u - k * w)) + s * (z * (u - k * w)) * w, by grind⟩

/-- The genus is the first one's just if a is one of its rests. -/
theorem genus_first {D a : Int} {f o : Qf} {k : Int} (hf : Fk s n f k) (h : Fk s n o 0) (oa : o.a = 1) (fa : f.a = a) (cp : Cp a D) : (∀ v, Cp v D → (Vl D f v ↔ Vl D o v)) ↔ Vl D o a := by
  constructor
  · intro hh
    have h1 : Vl D f 1 := (hh 1 ((Cp.one D).symm)).2 (by have := Vl.sq (D := D) h oa 1; simpa using this)
    have := (genus_a hf h oa fa cp).1 h1
    rwa [Int.mul_one] at this
  · intro ha v _
    rw [genus_a hf h oa fa cp]
    obtain ⟨t, ht⟩ := inv_ex cp
    constructor
    · intro hv
      -- v = (t t) (a (a v))
      have h1 := Vl.mul h oa (Vl.sq (D := D) h oa t) (Vl.mul h oa ha hv)
      refine h1.eqm ?_
      have h2 := (ht.mul ht).mul (Eqm.refl D v)
      rw [show a * t * (a * t) * v = t * t * (a * (a * v)) by grind] at h2
      simpa using h2
    · exact fun hv => Vl.mul h oa ha hv

/-- A form that opens with a, by itself, makes one that opens with a a. -/
theorem Co.square {f : Qf} {k : Int} (hf : Fk s n f k) (hs : Cp f.a f.b) (pf : Pm f) : ∃ (h : Qf) (m : Int), h.a = f.a * f.a ∧ Fk s n h m ∧ Co s n f f h k k m := by
  obtain ⟨x, y, e⟩ := hs
  have fb := hf.b
  have fc := hf.ac
  have ha := hf.a
  -- t with a | c + b t : t = -y c
  have e2 : k * k + s * k - n = f.a * f.c := fc.symm
  refine ⟨⟨f.a * f.a, 2 * (k + f.a * (-(y * f.c))) + s, (f.c * x) + y * y * f.c * f.c⟩, k + f.a * (-(y * f.c)), rfl, ⟨Int.mul_pos ha ha, rfl, ?_⟩, ?_⟩
  · show f.a * f.a * (f.c * x + y * y * f.c * f.c) = (k + f.a * (-(y * f.c))) * (k + f.a * (-(y * f.c))) + s * (k + f.a * (-(y * f.c))) - n
    have : f.c = f.c * (x * f.a + y * (2 * k + s)) := by rw [← fb, e, Int.mul_one]
    grind
  · obtain ⟨w1, w2, w3, w4, hw⟩ := four_of (s := s) (k := k) (l := k) (e := 1) (A := f.a) (S := k + k + s) (c2 := f.c) fb (by omega) (by omega) pf
    refine ⟨1, f.a, f.a, k + k + s, y * f.c, y * f.c, -(f.c * x), x, 0, y, w1, w2, w3, w4, by decide, by omega, by omega, rfl, by omega, ?_, ?_, ?_, ?_, hw⟩
    · rw [← e, fb]; grind
    · grind
    · grind
    · have : f.c = f.c * (x * f.a + y * (2 * k + s)) := by rw [← fb, e, Int.mul_one]
      grind

end Go.Proofs.Ytijkanilpblogae.MQ
