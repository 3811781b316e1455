/- Squares of forms, and characters that part genera: plain facts. -/
import Derived.Test.YtijkanilpblogaeQfV
import Derived.Test.YtijkanilpblogaeQfL
set_option linter.unusedSimpArgs false
set_option linter.unusedVariables false
set_option maxRecDepth 100000
namespace Go.Proofs.Ytijkanilpblogae.MQ
variable {s n : Int}

/-- On the way to a reduced form, with fuel: reckoned in the kernel. -/
def redn : Nat → Qf → Qf
  | 0, f => f
  | i + 1, f =>
    if f.c < f.a then redn i ⟨f.c, -f.b, f.a⟩
    else
      let k := (f.a - f.b) / (2 * f.a)
      if k == 0 then (if f.a == f.c && f.b < 0 then ⟨f.c, -f.b, f.a⟩ else f)
      else redn i ⟨f.a, f.b + 2 * k * f.a, f.c + k * f.b + k * k * f.a⟩

theorem Lk.comp {f g h : Qf} {m m' : Mt} (k : Lk f g m) (l : Lk g h m') : Lk f h ⟨m.p * m'.p + m.q * m'.r, m.p * m'.q + m.q * m'.s, m.r * m'.p + m.s * m'.r, m.r * m'.q + m.s * m'.s⟩ := by
  have h1 := k.det
  have h2 := l.det
  refine ⟨?_, fun x y => ?_⟩
  · show (m.p * m'.p + m.q * m'.r) * (m.r * m'.q + m.s * m'.s) - (m.p * m'.q + m.q * m'.s) * (m.r * m'.p + m.s * m'.r) = 1
    rw [show (m.p * m'.p + m.q * m'.r) * (m.r * m'.q + m.s * m'.s) - (m.p * m'.q + m.q * m'.s) * (m.r * m'.p + m.s * m'.r) = (m.p * m.s - m.q * m.r) * (m'.p * m'.s - m'.q * m'.r) by grind, h1, h2]; rfl
  · rw [← l.like, ← k.like]
    show f.at ((m.p * m'.p + m.q * m'.r) * x + (m.p * m'.q + m.q * m'.s) * y) ((m.r * m'.p + m.s * m'.r) * x + (m.r * m'.q + m.s * m'.s) * y) = _
    congr 1 <;> grind
theorem lk_swap (f : Qf) : Lk f ⟨f.c, -f.b, f.a⟩ ⟨0, -1, 1, 0⟩ := ⟨by decide, fun x y => by simp only [Qf.at]; grind⟩
theorem lk_shift (f : Qf) (k : Int) : Lk f ⟨f.a, f.b + 2 * k * f.a, f.c + k * f.b + k * k * f.a⟩ ⟨1, k, 0, 1⟩ := ⟨by simp, fun x y => by simp only [Qf.at]; grind⟩
theorem redn_lk : ∀ (i : Nat) (f : Qf), ∃ m, Lk f (redn i f) m
  | 0, f => ⟨_, Lk.refl f⟩
  | i + 1, f => by
    unfold redn
    split
    · obtain ⟨m, h⟩ := redn_lk i ⟨f.c, -f.b, f.a⟩
      exact ⟨_, (lk_swap f).comp h⟩
    · simp only []
      split
      · split
        · exact ⟨_, lk_swap f⟩
        · exact ⟨_, Lk.refl f⟩
      · obtain ⟨m, h⟩ := redn_lk i ⟨f.a, f.b + 2 * ((f.a - f.b) / (2 * f.a)) * f.a, f.c + ((f.a - f.b) / (2 * f.a)) * f.b + ((f.a - f.b) / (2 * f.a)) * ((f.a - f.b) / (2 * f.a)) * f.a⟩
        exact ⟨_, (lk_shift f _).comp h⟩

/-- Euclid's way, with fuel; what it answers is looked at. -/
def eg : Nat → Int → Int → Int × Int
  | 0, _, _ => (1, 0)
  | i + 1, a, b => if b == 0 then (1, 0) else
      let r := eg i b (a % b)
      (r.2, r.1 - (a / b) * r.2)
/-- Forms that are like q. -/
def prep (q : Qf) : List Qf := [q, ⟨q.c, -q.b, q.a⟩, ⟨q.a + q.b + q.c, q.b + 2 * q.c, q.c⟩, ⟨q.a - q.b + q.c, q.b - 2 * q.c, q.c⟩, ⟨4 * q.a + 2 * q.b + q.c, -(q.b + 4 * q.a), q.a⟩]
theorem prep_lk {q g : Qf} (h : g ∈ prep q) : ∃ m, Lk q g m := by
  simp only [prep, List.mem_cons, List.not_mem_nil, or_false] at h
  rcases h with rfl | rfl | rfl | rfl | rfl
  · exact ⟨_, Lk.refl _⟩
  · exact ⟨_, lk_swap q⟩
  · exact ⟨⟨1, 0, 1, 1⟩, by decide, fun x y => by simp only [Qf.at]; grind⟩
  · exact ⟨⟨1, 0, -1, 1⟩, by decide, fun x y => by simp only [Qf.at]; grind⟩
  · exact ⟨⟨2, -1, 1, 0⟩, by decide, fun x y => by simp only [Qf.at]; grind⟩

/-- A form by itself: what comes out is looked at. -/
def sq1 (q : Qf) : Option Qf :=
  let t := (-((eg 40 q.a (q.b % q.a)).2 * q.c)) % q.a
  let B := q.b + 2 * q.a * t
  let N := B * B - (q.b * q.b - 4 * q.a * q.c)
  if 0 < q.a && Int.gcd q.a q.b == 1 && N % (4 * (q.a * q.a)) == 0 then some (redn 60 ⟨q.a * q.a, B, N / (4 * (q.a * q.a))⟩) else none

theorem sq1_cz {q r : Qf} (h : sq1 q = some r) (hr : r.redB = true) (hra : 0 < r.a) (hd : q.disc < 0) (pq : Pm q) : Cz q q r := by
  unfold sq1 at h
  simp only [] at h
  split at h
  · rename_i hc
    simp only [Bool.and_eq_true, decide_eq_true_eq, beq_iff_eq] at hc
    obtain ⟨⟨ha, hg⟩, hm⟩ := hc
    generalize (-((eg 40 q.a (q.b % q.a)).2 * q.c)) % q.a = t at h hm
    obtain ⟨c, hc⟩ := Int.dvd_of_emod_eq_zero hm
    rw [hc, Int.mul_ediv_cancel_left _ (by have := Int.mul_pos ha ha; omega)] at h
    simp only [Option.some.injEq] at h
    obtain ⟨m, hm2⟩ := redn_lk 60 ⟨q.a * q.a, q.b + 2 * q.a * t, c⟩
    rw [h] at hm2
    have hp := Int.mul_pos ha ha
    have dd : Qf.disc ⟨q.a * q.a, q.b + 2 * q.a * t, c⟩ = q.disc := by simp only [Qf.disc]; grind
    refine Cz.of (f' := q) (g' := q) (h' := ⟨q.a * q.a, q.b + 2 * q.a * t, c⟩) ha ha ha ha hp hra hd rfl rfl rfl dd (Lk.refl q) (Lk.refl q) ⟨hr, hm2.det, hm2.like⟩ ?_
    intro s n hs e
    have k1 := Fk.of ha hs e
    have k3 := Fk.of (f := ⟨q.a * q.a, q.b + 2 * q.a * t, c⟩) hp hs (by rw [dd, e])
    obtain ⟨x, y, exy⟩ := Cp.of_gcd hg
    obtain ⟨w1, w2, w3, w4, hw⟩ := four_of (s := s) (k := (q.b - s) / 2) (l := (q.b - s) / 2) (e := 1) (A := q.a) (S := q.b) (c2 := q.c) k1.b (by omega) (by have := k1.b; omega) pq
    have hmm : (q.b + 2 * q.a * t - s) / 2 = (q.b - s) / 2 + q.a * t := by
      have h1 := k1.b
      have h2 : 2 * q.a * t = 2 * (q.a * t) := Int.mul_assoc ..
      omega
    have h3 := k3.ac
    simp only [] at h3
    rw [hmm] at h3
    refine ⟨1, q.a, q.a, q.b, -t, -t, t * t - c, x, 0, y, w1, w2, w3, w4, by decide, by omega, by omega, rfl, by have := k1.b; omega, by rw [← exy]; grind, ?_, ?_, ?_, hw⟩
    · show (q.b - s) / 2 - (q.b + 2 * q.a * t - s) / 2 = q.a * -t
      rw [hmm]; grind
    · show (q.b - s) / 2 - (q.b + 2 * q.a * t - s) / 2 = q.a * -t
      rw [hmm]; grind
    · show (q.b - s) / 2 * ((q.b - s) / 2) + n - 1 * q.b * ((q.b + 2 * q.a * t - s) / 2) = 1 * q.a * q.a * (t * t - c)
      rw [hmm]
      have hb := k1.b
      generalize (q.b - s) / 2 = k at *
      rw [hb]
      grind
  · cases h
def sqf (q : Qf) : Option Qf := (prep q).findSome? sq1
theorem sqf_cz {q r : Qf} (h : sqf q = some r) (hr : r.redB = true) (hra : 0 < r.a) (hqa : 0 < q.a) (hd : q.disc < 0) (pq : Pm q) (hdisc : ∀ g m, Lk q g m → g.disc = q.disc) (hpm : ∀ g m, Lk q g m → Pm g) : Cz q q r := by
  obtain ⟨g, hg, h2⟩ := List.exists_of_findSome?_eq_some h
  obtain ⟨m, hm⟩ := prep_lk hg
  have hga : 0 < g.a := by
    unfold sq1 at h2
    simp only [] at h2
    split at h2
    · rename_i hc
      simp only [Bool.and_eq_true, decide_eq_true_eq, beq_iff_eq] at hc
      exact hc.1.1
    · cases h2
  have e := hdisc g m hm
  exact Cz.like hqa hqa hga hga hd rfl e e hm hm (sq1_cz h2 hr hra (by rw [e]; exact hd) (hpm g m hm))
theorem Lk.disc {f g : Qf} {m : Mt} (h : Lk f g m) : g.disc = f.disc := by
  obtain ⟨e1, e2, e3⟩ := h.coef
  have hd := h.det
  have : g.disc = f.disc * ((m.p * m.s - m.q * m.r) * (m.p * m.s - m.q * m.r)) := by simp only [Qf.disc, e1, e2, e3, Qf.at]; grind
  rw [this, hd]; omega
theorem Lk.pm {f g : Qf} {m : Mt} (h : Lk f g m) (p : Pm f) : Pm g := by
  obtain ⟨x, y, z, e⟩ := p
  obtain ⟨e1, e2, e3⟩ := h.back.coef
  simp only [Qf.at] at e1 e2 e3
  rw [e1, e2, e3] at e
  refine ⟨x * (m.s * m.s) + y * (2 * (m.s * -m.q)) + z * (m.q * m.q), x * (m.s * -m.r) + y * (m.s * m.p + -m.q * -m.r) + z * (-m.q * m.p), x * (m.r * m.r) + y * (2 * (-m.r * m.p)) + z * (m.p * m.p), ?_⟩
  rw [← e]
  grind

/-- A square by itself has the first genus. -/
theorem dup_back {q r o : Qf} {D : Int} (qa : 0 < q.a) (hD : q.disc = -D) (D0 : 1 ≤ D) (pq : Pm q) (ho : Fst q o) (h : Cz q q r) : ∀ v, Cp v D → (Vl D r v ↔ Vl D o v) := by
  obtain ⟨s, n, hs, e⟩ := disc_sn q
  have hneg : s * s + 4 * n < 0 := by omega
  obtain ⟨ok, _⟩ := ho.root hs e
  obtain ⟨x, y, x1, y1, _, cxy, cv⟩ := choice pq D0
  obtain ⟨u, w, euw⟩ := cxy
  -- turned by x, -w / y, u
  have l1 : Lk q ⟨q.at x y, 2 * q.a * x * (-w) + q.b * (x * u + (-w) * y) + 2 * q.c * y * u, q.at (-w) u⟩ ⟨x, -w, y, u⟩ := ⟨by show x * u - -w * y = 1; grind, fun X Y => by simp only [Qf.at]; grind⟩
  generalize hq' : (⟨q.at x y, 2 * q.a * x * (-w) + q.b * (x * u + (-w) * y) + 2 * q.c * y * u, q.at (-w) u⟩ : Qf) = q' at l1
  have ea : q'.a = q.at x y := by rw [← hq']
  have dq : q'.disc = q.disc := l1.disc
  have kq := Fk.of qa hs e
  have q'a : 0 < q'.a := by
    have h1 := norm_at kq x y
    have h2 : (⟨q.a * x + (q.b - s) / 2 * y, y⟩ : Zw s n) ≠ Zw.zero := fun k => by
      simp only [Zw.zero, Zw.mk.injEq] at k
      omega
    have h3 := Zw.norm_pos hneg h2
    rw [h1] at h3
    rw [ea]
    exact Int.pos_of_mul_pos_left (by rw [Int.mul_comm]; exact h3) qa
  have kq' := Fk.of q'a hs (show q'.disc = s * s + 4 * n by rw [dq, e])
  have cpa : Cp q'.a D := by rw [ea]; exact cv
  have cab : Cp q'.a q'.b := by
    -- D = 4 a c - b b
    obtain ⟨X, Y, eXY⟩ := cpa
    have : D = 4 * q'.a * q'.c - q'.b * q'.b := by have := dq; rw [hD] at this; simp only [Qf.disc] at this; omega
    exact ⟨X + Y * (4 * q'.c), -(Y * q'.b), by rw [this] at eXY; grind⟩
  obtain ⟨g, m, ga, kg, cg⟩ := Co.square kq' cab (l1.pm pq)
  have s1 : Sim (La s n r ((r.b - s) / 2)) (La s n g m) := by
    have a1 := h.sim s n hs e
    have a2 := l1.sim hneg kq kq'
    exact a1.symm.trans hneg ((Sim.mul hneg a2 a2).trans hneg (cg.sim kq' kq' kg))
  have kr := Fk.of h.pos hs (show r.disc = s * s + 4 * n by rw [h.disc, e])
  obtain ⟨M, hM⟩ := s1.lk hneg kr kg
  have hg := (genus_first kg ok ho.a ga (cpa.symm.mul cpa.symm).symm).2 (Vl.sq ok ho.a q'.a)
  intro v hv
  rw [Vl.iff hM]
  exact hg v hv

def mts : List Mt := [⟨1, 0, 0, 1⟩, ⟨0, -1, 1, 0⟩, ⟨1, 0, 1, 1⟩, ⟨1, 0, -1, 1⟩, ⟨2, -1, 1, 0⟩, ⟨1, 0, 2, 1⟩, ⟨2, 1, -1, 0⟩, ⟨1, 0, -2, 1⟩, ⟨3, -1, 1, 0⟩, ⟨1, 0, 3, 1⟩]
def cop (D : Int) (r : Qf) : Option Mt := mts.find? fun m => Int.gcd (r.at m.p m.r) D == 1
theorem cop_is {D : Int} {r : Qf} {m : Mt} (h : cop D r = some m) : m.p * m.s - m.q * m.r = 1 ∧ Cp (r.at m.p m.r) D := by
  have h1 := List.find?_some h
  have h2 := List.mem_of_find?_eq_some h
  refine ⟨?_, Cp.of_gcd (by simpa using h1)⟩
  have : ∀ m ∈ mts, m.p * m.s - m.q * m.r = 1 := by decide
  exact this m h2

def isSq (p v : Nat) : Bool := (List.range (p / 2 + 1)).any fun u => u * u % p == v
def charp (D : Nat) (v : Int) : Bool := (List.range 1001).any fun p => (decide (3 ≤ p) && p % 2 == 1) && D % p == 0 && !isSq p (v % (p : Int)).toNat
theorem isSq_of {p : Nat} {v z : Int} (hp : 3 ≤ p) (h : (p : Int) ∣ z * z - v) : isSq p (v % (p : Int)).toNat = true := by
  have d2 := Int.emod_nonneg z (show (p : Int) ≠ 0 by omega)
  have d3 := Int.emod_lt_of_pos z (show (0 : Int) < p by omega)
  have key : ∀ u : Nat, (p : Int) ∣ (u : Int) * u - v → u * u % p = (v % (p : Int)).toNat := fun u hu => by
    have h1 : ((u : Int) * u) % p = v % p := Int.emod_eq_emod_iff_emod_sub_eq_zero.2 (Int.emod_eq_zero_of_dvd hu)
    have h2 : ((u * u % p : Nat) : Int) = v % (p : Int) := by rw [Int.natCast_emod, Int.natCast_mul]; exact h1
    omega
  have e1 := Int.mul_ediv_add_emod z (p : Int)
  generalize z / (p : Int) = w at *
  obtain ⟨t, ht⟩ : ∃ t : Nat, (t : Int) = z % (p : Int) := ⟨(z % (p : Int)).toNat, by omega⟩
  rw [← ht] at e1 d3
  obtain ⟨c, hc⟩ := h
  have hz : z = p * w + t := e1.symm
  unfold isSq
  rw [List.any_eq_true]
  by_cases hle : t ≤ p / 2
  · refine ⟨t, List.mem_range.2 (by omega), ?_⟩
    rw [beq_iff_eq]
    refine key t ⟨c - w * (p * w + 2 * t), ?_⟩
    rw [hz] at hc
    grind
  · refine ⟨p - t, List.mem_range.2 (by omega), ?_⟩
    rw [beq_iff_eq]
    refine key (p - t) ?_
    rw [show ((p - t : Nat) : Int) = p - t by omega]
    refine ⟨c - w * (p * w + 2 * t) + p - 2 * t, ?_⟩
    rw [hz] at hc
    grind
theorem charp_no {D : Nat} {v : Int} {o : Qf} (h : charp D v = true) (ok : Fk s n o 0) (oa : o.a = 1) (hd : s * s + 4 * n = -(D : Int)) : ¬ Vl (D : Int) o v := by
  rintro ⟨u, w, hv⟩
  unfold charp at h
  rw [List.any_eq_true] at h
  obtain ⟨p, _, hp⟩ := h
  simp only [Bool.and_eq_true, decide_eq_true_eq, beq_iff_eq, Bool.not_eq_true'] at hp
  obtain ⟨⟨⟨p3, podd⟩, pd⟩, psq⟩ := hp
  have pD : (p : Int) ∣ (D : Int) := Int.natCast_dvd_natCast.2 (Nat.dvd_of_mod_eq_zero pd)
  obtain ⟨E, hE⟩ := pD
  obtain ⟨c, hc⟩ := hv
  rw [first_at ok oa] at hc
  obtain ⟨j, hj⟩ : ∃ j : Int, 2 * j = (p : Int) + 1 := ⟨((p : Int) + 1) / 2, by omega⟩
  have : isSq p (v % (p : Int)).toNat = true := by
    refine isSq_of (z := (2 * u + s * w) * j) p3 ?_
    -- z z - v = 4 j j (o - ..) ..
    have e1 : (2 * u + s * w) * (2 * u + s * w) = 4 * (v + D * c) - D * (w * w) := by
      have : u * u + s * (u * w) - n * (w * w) = v + D * c := by omega
      have h4 : 4 * n = -(D : Int) - s * s := by omega
      rw [← this]
      have : (2 * u + s * w) * (2 * u + s * w) = 4 * (u * u + s * (u * w)) + s * s * (w * w) := by grind
      rw [this]
      have : 4 * (u * u + s * (u * w) - n * (w * w)) = 4 * (u * u + s * (u * w)) - 4 * n * (w * w) := by grind
      rw [this, h4]; grind
    have e2 : (2 * u + s * w) * j * ((2 * u + s * w) * j) = ((2 * u + s * w) * (2 * u + s * w)) * (j * j) := by grind
    rw [e2, e1, hE]
    have e3 : 4 * (j * j) = (p + 1) * (p + 1) := by rw [← hj]; grind
    refine ⟨v * (p + 2) + 4 * E * c * (j * j) - E * (w * w) * (j * j), ?_⟩
    have : (4 * (v + p * E * c) - p * E * (w * w)) * (j * j) = v * (4 * (j * j)) + p * (4 * E * c * (j * j)) - p * (E * (w * w) * (j * j)) := by grind
    rw [this, e3]; grind
  rw [this] at psq
  cases psq
def char2 (d v : Int) : Bool := ([4, 8] : List Int).any fun m => -d % m == 0 && !((List.range 8).any fun u => (List.range 8).any fun w => ((u : Int) * u + (-d / 4) * w * w - v) % m == 0)
theorem char2_no {D : Int} {v : Int} {o : Qf} (h : char2 (-D) v = true) (ok : Fk 0 n o 0) (oa : o.a = 1) (hd : 4 * n = -D) : ¬ Vl D o v := by
  rintro ⟨u, w, hv⟩
  unfold char2 at h
  rw [List.any_eq_true] at h
  obtain ⟨m, hm, hp⟩ := h
  simp only [Bool.and_eq_true, beq_iff_eq, Bool.not_eq_true'] at hp
  obtain ⟨md, hno⟩ := hp
  have hm8 : m ∣ 8 ∧ 0 < m := by simp only [List.mem_cons, List.not_mem_nil, or_false] at hm; rcases hm with rfl | rfl <;> decide
  obtain ⟨E, hE⟩ := Int.dvd_of_emod_eq_zero md
  rw [Int.neg_neg] at hE
  obtain ⟨c, hc⟩ := hv
  rw [first_at ok oa] at hc
  have hn : - -D / 4 = -n := by omega
  have : ((List.range 8).any fun u => (List.range 8).any fun w => ((u : Int) * u + (- -D / 4) * w * w - v) % m == 0) = true := by
    rw [List.any_eq_true]
    refine ⟨(u % 8).toNat, List.mem_range.2 (by omega), ?_⟩
    rw [List.any_eq_true]
    refine ⟨(w % 8).toNat, List.mem_range.2 (by omega), ?_⟩
    rw [beq_iff_eq, hn, Int.toNat_of_nonneg (by omega), Int.toNat_of_nonneg (by omega)]
    obtain ⟨a, ha⟩ := hm8.1
    have e1 := Int.mul_ediv_add_emod u 8
    have e2 := Int.mul_ediv_add_emod w 8
    generalize u / 8 = U at *
    generalize w / 8 = W at *
    generalize u % 8 = u0 at *
    generalize w % 8 = w0 at *
    apply Int.emod_eq_zero_of_dvd
    have h5 : u * u + 0 * (u * w) - n * (w * w) = v + D * c := by omega
    rw [← e1, ← e2, ha, hE] at h5
    refine ⟨E * c - a * U * (m * a * U + 2 * u0) + n * (a * W * (m * a * W + 2 * w0)), ?_⟩
    grind
  rw [this] at hno
  cases hno

end Go.Proofs.Ytijkanilpblogae.MQ
