/- Gauss's group of forms: plain facts on compositions. -/
import Derived.Test.YtijkanilpblogaeQfK
set_option linter.unusedSimpArgs false
set_option linter.unusedVariables false
set_option maxRecDepth 100000
namespace Go.Proofs.Ytijkanilpblogae.MQ

/-- h is what f and g make: reduced, of their discriminant, and its lattice is like the product of theirs. -/
structure Cz (f g h : Qf) : Prop where
  red : h.redB = true
  pos : 0 < h.a
  disc : h.disc = f.disc
  sim : ∀ s n : Int, (s = 0 ∨ s = 1) → f.disc = s * s + 4 * n → Sim (Mu (La s n f ((f.b - s) / 2)) (La s n g ((g.b - s) / 2))) (La s n h ((h.b - s) / 2))

/-- A discriminant, taken apart. -/
theorem disc_sn (f : Qf) : ∃ s n : Int, (s = 0 ∨ s = 1) ∧ f.disc = s * s + 4 * n := by
  have hb : f.b = 2 * (f.b / 2) + f.b % 2 := by omega
  have hr : f.b % 2 = 0 ∨ f.b % 2 = 1 := by omega
  generalize f.b / 2 = q at *
  generalize f.b % 2 = r at *
  refine ⟨r, q * q + q * r - f.a * f.c, hr, ?_⟩
  simp only [Qf.disc]
  rw [hb]
  grind

theorem Cz.comm {f g a b : Qf} (hf : 0 < f.a) (hg : 0 < g.a) (hd : f.disc < 0) (he : g.disc = f.disc) (h1 : Cz f g a) (h2 : Cz g f b) : a = b := by
  obtain ⟨s, n, hs, e⟩ := disc_sn f
  have hD : s * s + 4 * n < 0 := by omega
  have s1 := h1.sim s n hs e
  have s2 := h2.sim s n hs (by omega)
  exact Sim.one hD (Fk.of h1.pos hs (by rw [h1.disc, e])) (Fk.of h2.pos hs (by rw [h2.disc, he, e])) h1.red h2.red (s1.symm.trans hD ((Mu.comm _ _).trans hD s2))

theorem Cz.assoc {f g h a c d k : Qf} (hf : 0 < f.a) (hd : f.disc < 0) (he : g.disc = f.disc) (hh : h.disc = f.disc) (h1 : Cz f g a) (h2 : Cz a h c) (h3 : Cz g h d) (h4 : Cz f d k) : c = k := by
  obtain ⟨s, n, hs, e⟩ := disc_sn f
  have hD : s * s + 4 * n < 0 := by omega
  have s1 := h1.sim s n hs e
  have s2 := h2.sim s n hs (by rw [h1.disc, e])
  have s3 := h3.sim s n hs (by omega)
  have s4 := h4.sim s n hs e
  refine Sim.one hD (Fk.of h2.pos hs (by rw [h2.disc, h1.disc, e])) (Fk.of h4.pos hs (by rw [h4.disc, e])) h2.red h4.red ?_
  refine s2.symm.trans hD (.trans hD (Sim.mul hD s1.symm (.refl _)) ?_)
  exact .trans hD (Mu.assoc _ _ _) (.trans hD (Sim.mul hD (.refl _) s3) s4)

/-- The reference's first form of a discriminant. -/
structure Fst (f o : Qf) : Prop where
  a : o.a = 1
  b : o.b = 0 ∨ o.b = 1
  disc : o.disc = f.disc
theorem Fst.root {f o : Qf} (h : Fst f o) {s n : Int} (hs : s = 0 ∨ s = 1) (e : f.disc = s * s + 4 * n) : Fk s n o 0 ∧ (o.b - s) / 2 = 0 := by
  have h1 := Fk.of (by rw [h.a]; decide) hs (show o.disc = s * s + 4 * n by rw [h.disc, e])
  have h2 : (o.b - s) / 2 = 0 := by
    have := h1.b
    have := h.b
    omega
  rw [h2] at h1
  exact ⟨h1, h2⟩

theorem Cz.first {f o h r : Qf} {m : Mt} (hf : 0 < f.a) (hr : 0 < r.a) (hd : f.disc < 0) (ho : Fst f o) (h1 : Cz f o h) (h2 : Rd f r m) : h = r := by
  obtain ⟨s, n, hs, e⟩ := disc_sn f
  have hD : s * s + 4 * n < 0 := by omega
  have s1 := h1.sim s n hs e
  obtain ⟨ok, o0⟩ := ho.root hs e
  rw [o0] at s1
  have kf := Fk.of hf hs e
  have kr := Fk.of hr hs (show r.disc = s * s + 4 * n by rw [h2.disc, e])
  have s2 := (Co.first kf ok ho.a).sim kf ok kf
  exact Sim.one hD (Fk.of h1.pos hs (by rw [h1.disc, e])) kr h1.red h2.red (s1.symm.trans hD (s2.trans hD ((Lk.of h2).sim hD kf kr)))

theorem Cz.back {f g o h r : Qf} {m : Mt} (hf : 0 < f.a) (hr : 0 < r.a) (hd : f.disc < 0) (pf : Pm f) (ga : g.a = f.a) (gb : g.b = -f.b) (gc : g.c = f.c) (ho : Fst f o) (h1 : Cz f g h) (h2 : Rd o r m) : h = r := by
  obtain ⟨s, n, hs, e⟩ := disc_sn f
  have hD : s * s + 4 * n < 0 := by omega
  have s1 := h1.sim s n hs e
  obtain ⟨ok, o0⟩ := ho.root hs e
  have kf := Fk.of hf hs e
  have hb := kf.b
  have eg : g.disc = s * s + 4 * n := by
    rw [← e]; simp only [Qf.disc, ga, gb, gc]; grind
  have kg := Fk.of (show 0 < g.a by omega) hs eg
  have el : (g.b - s) / 2 = -((f.b - s) / 2) - s := by
    have := kg.b
    omega
  rw [el] at s1 kg
  have kr := Fk.of hr hs (show r.disc = s * s + 4 * n by rw [h2.disc, ho.disc, e])
  have s2 := (Co.back kf pf ga gc ho.a).sim kf kg ok
  exact Sim.one hD (Fk.of h1.pos hs (by rw [h1.disc, e])) kr h1.red h2.red (s1.symm.trans hD (s2.trans hD ((Lk.of h2).sim hD ok kr)))

/-- How a composition is known: by a form that is like the answer, and that comes of forms that are like the two. -/
theorem Cz.of {f g f' g' h' h : Qf} {m m1 m2 : Mt} (hf : 0 < f.a) (hg : 0 < g.a) (hf' : 0 < f'.a) (hg' : 0 < g'.a) (hh' : 0 < h'.a) (hh : 0 < h.a) (hd : f.disc < 0) (he : g.disc = f.disc) (ef : f'.disc = f.disc) (eg : g'.disc = f.disc) (eh : h'.disc = f.disc)
    (l1 : Lk f f' m1) (l2 : Lk g g' m2) (r : Rd h' h m) (c : ∀ s n : Int, (s = 0 ∨ s = 1) → f.disc = s * s + 4 * n → Co s n f' g' h' ((f'.b - s) / 2) ((g'.b - s) / 2) ((h'.b - s) / 2)) : Cz f g h := by
  have ed : h.disc = f.disc := by rw [r.disc, eh]
  refine ⟨r.red, hh, ed, fun s n hs e => ?_⟩
  have hD : s * s + 4 * n < 0 := by omega
  have k1 := Fk.of hf hs e
  have k2 := Fk.of hg hs (show g.disc = s * s + 4 * n by omega)
  have k3 := Fk.of hf' hs (show f'.disc = s * s + 4 * n by omega)
  have k4 := Fk.of hg' hs (show g'.disc = s * s + 4 * n by omega)
  have k5 := Fk.of hh' hs (show h'.disc = s * s + 4 * n by omega)
  have k6 := Fk.of hh hs (show h.disc = s * s + 4 * n by omega)
  exact (Sim.mul hD (l1.sim hD k1 k3) (l2.sim hD k2 k4)).trans hD (((c s n hs e).sim k3 k4 k5).trans hD ((Lk.of r).sim hD k5 k6))

/-- There is just one. -/
theorem Cz.one {f g h h' : Qf} (hd : f.disc < 0) (h1 : Cz f g h) (h2 : Cz f g h') : h = h' := by
  obtain ⟨s, n, hs, e⟩ := disc_sn f
  have hD : s * s + 4 * n < 0 := by omega
  exact Sim.one hD (Fk.of h1.pos hs (by rw [h1.disc, e])) (Fk.of h2.pos hs (by rw [h2.disc, e])) h1.red h2.red ((h1.sim s n hs e).symm.trans hD (h2.sim s n hs e))
/-- Of forms that are like others, too. -/
theorem Cz.like {f g f' g' h : Qf} {m1 m2 : Mt} (hf : 0 < f.a) (hg : 0 < g.a) (hf' : 0 < f'.a) (hg' : 0 < g'.a) (hd : f.disc < 0) (he : g.disc = f.disc) (ef : f'.disc = f.disc) (eg : g'.disc = f.disc) (l1 : Lk f f' m1) (l2 : Lk g g' m2) (h1 : Cz f' g' h) : Cz f g h := by
  refine ⟨h1.red, h1.pos, by rw [h1.disc, ef], fun s n hs e => ?_⟩
  have hD : s * s + 4 * n < 0 := by omega
  exact (Sim.mul hD (l1.sim hD (Fk.of hf hs e) (Fk.of hf' hs (by omega))) (l2.sim hD (Fk.of hg hs (by omega)) (Fk.of hg' hs (by omega)))).trans hD (h1.sim s n hs (by omega))

end Go.Proofs.Ytijkanilpblogae.MQ
