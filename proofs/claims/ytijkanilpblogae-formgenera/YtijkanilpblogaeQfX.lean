/- Gauss's theorem of duplication, by going through all reduced forms down to -2000: plain facts. -/
import Derived.Test.YtijkanilpblogaeQfW
set_option linter.unusedSimpArgs false
set_option linter.unusedVariables false
set_option maxRecDepth 100000
namespace Go.Proofs.Ytijkanilpblogae.MQ
variable {s n : Int}

/-- One row of the reduced forms of a discriminant: reckoned in the kernel. -/
def rowB (d a : Int) : List Qf := (List.range (2 * a.toNat + 1)).filterMap fun (i : Nat) =>
  if (((i : Int) - a) * ((i : Int) - a) - d) % (4 * a) == 0 then
    if Qf.redB ⟨a, (i : Int) - a, (((i : Int) - a) * ((i : Int) - a) - d) / (4 * a)⟩ && Int.gcd (Int.gcd a ((i : Int) - a)) ((((i : Int) - a) * ((i : Int) - a) - d) / (4 * a)) == 1 then some ⟨a, (i : Int) - a, (((i : Int) - a) * ((i : Int) - a) - d) / (4 * a)⟩ else none
  else none
def cls (d : Int) : List Qf := (List.range 25).flatMap fun (i : Nat) => if 3 * ((i : Int) + 1) * ((i : Int) + 1) ≤ -d then rowB d ((i : Int) + 1) else []
/-- A reduced form without a common divisor. -/
structure Rf (d : Int) (r : Qf) : Prop where
  red : r.redB = true
  a : 1 ≤ r.a
  disc : r.disc = d
  pm : Pm r
theorem cls_is {d : Int} {r : Qf} (h : r ∈ cls d) : Rf d r := by
  unfold cls at h
  rw [List.mem_flatMap] at h
  obtain ⟨i, _, h⟩ := h
  split at h
  · unfold rowB at h
    rw [List.mem_filterMap] at h
    obtain ⟨j, _, h⟩ := h
    split at h
    · rename_i h1
      split at h
      · rename_i h2
        simp only [Option.some.injEq] at h
        simp only [beq_iff_eq] at h1
        rw [Bool.and_eq_true, beq_iff_eq] at h2
        subst h
        obtain ⟨c, hc⟩ := Int.dvd_of_emod_eq_zero h1
        have hq : ((((j : Int) - ((i : Int) + 1)) * ((j : Int) - ((i : Int) + 1)) - d) / (4 * ((i : Int) + 1))) = c := by rw [hc, Int.mul_ediv_cancel_left _ (by omega)]
        rw [hq] at h2 ⊢
        exact ⟨h2.1, by show (1 : Int) ≤ (i : Int) + 1; omega, by simp only [Qf.disc]; omega, Pm.of_gcd h2.2⟩
      · cases h
    · cases h
  · cases h
theorem mem_cls {d : Int} {r : Qf} (hd : -2000 ≤ d) (h : Rf d r) (hg : Int.gcd (Int.gcd r.a r.b) r.c = 1) : r ∈ cls d := by
  obtain ⟨b1, b2, b3⟩ := redB_parts h.red
  have ha := h.a
  have hdis := h.disc
  simp only [Qf.disc] at hdis
  have e1 : r.b * r.b ≤ r.a * r.a := by
    have := Int.mul_nonneg (show 0 ≤ r.a - r.b by omega) (show 0 ≤ r.a + r.b by omega)
    grind
  have e2 : r.a * r.a ≤ r.a * r.c := Int.mul_le_mul_of_nonneg_left b3 (by omega)
  have e3 : 4 * r.a * r.c = 4 * (r.a * r.c) := Int.mul_assoc ..
  have e4 : 3 * (r.a * r.a) ≤ -d := by omega
  have a25 : r.a ≤ 25 := by
    rcases Int.lt_or_le r.a 26 with k | k
    · omega
    · have := Int.mul_le_mul k k (by omega) (by omega)
      omega
  unfold cls
  rw [List.mem_flatMap]
  refine ⟨(r.a - 1).toNat, List.mem_range.2 (by omega), ?_⟩
  rw [show ((r.a - 1).toNat : Int) + 1 = r.a by omega, if_pos (by rw [Int.mul_assoc]; exact e4)]
  unfold rowB
  rw [List.mem_filterMap]
  refine ⟨(r.b + r.a).toNat, List.mem_range.2 (by omega), ?_⟩
  rw [show ((r.b + r.a).toNat : Int) - r.a = r.b by omega]
  have e5 : r.b * r.b - d = 4 * r.a * r.c := by omega
  rw [e5, Int.mul_ediv_cancel_left _ (show 4 * r.a ≠ 0 by omega), if_pos (by simp [Int.mul_emod_right]), if_pos (by rw [Bool.and_eq_true, beq_iff_eq]; exact ⟨h.red, hg⟩)]

def isR (x : Option Qf) (r : Qf) : Bool := match x with
  | some y => y.a == r.a && y.b == r.b && y.c == r.c
  | none => false
theorem isR_is {x : Option Qf} {r : Qf} (h : isR x r = true) : x = some r := by
  unfold isR at h
  split at h
  · rename_i y
    simp only [Bool.and_eq_true, beq_iff_eq] at h
    obtain ⟨y1, y2, y3⟩ := y
    obtain ⟨r1, r2, r3⟩ := r
    simp only at h
    rw [h.1.1, h.1.2, h.2]
  · cases h
/-- Each is a square, or a character parts it from the first genus. -/
def parted (d : Int) (r : Qf) : Bool := match cop (-d) r with
  | some m => charp (-d).toNat (r.at m.p m.r) || (d % 4 == 0 && char2 d (r.at m.p m.r))
  | none => false
def chk1 (d : Int) : Bool := (fun l => (fun s => l.all fun r => s.any (fun x => isR x r) || parted d r) (l.map sqf)) (cls d)
def chk (lo i : Nat) : Bool := (List.range i).all fun j => if (-((j + lo : Nat) : Int)) % 4 == 0 || (-((j + lo : Nat) : Int)) % 4 == 1 then chk1 (-((j + lo : Nat) : Int)) else true

/-- What has the first genus is a square. -/
theorem dup {d : Int} {r o : Qf} (hd : -2000 ≤ d) (h0 : d < 0) (hr : Rf d r) (hg : Int.gcd (Int.gcd r.a r.b) r.c = 1) (ho : Fst r o) (hc : chk1 d = true) (hh : ∀ v, Cp v (-d) → (Vl (-d) r v ↔ Vl (-d) o v)) : ∃ q, q ∈ cls d ∧ Cz q q r := by
  unfold chk1 at hc
  have h1 := List.all_eq_true.1 hc r (mem_cls hd hr hg)
  rw [Bool.or_eq_true] at h1
  rcases h1 with h1 | h1
  · rw [List.any_eq_true] at h1
    obtain ⟨x, hx, h2⟩ := h1
    rw [List.mem_map] at hx
    obtain ⟨q, hq, rfl⟩ := hx
    have hq2 := cls_is hq
    exact ⟨q, hq, sqf_cz (isR_is h2) hr.red (by have := hr.a; omega) (by have := hq2.a; omega) (by rw [hq2.disc]; exact h0) hq2.pm (fun g m k => k.disc) (fun g m k => k.pm hq2.pm)⟩
  · exfalso
    unfold parted at h1
    split at h1
    · rename_i m hm
      obtain ⟨hdet, hcp⟩ := cop_is hm
      obtain ⟨s, n, hs, e⟩ := disc_sn r
      obtain ⟨ok, _⟩ := ho.root hs e
      have lk : Lk r ⟨r.at m.p m.r, 2 * r.a * m.p * m.q + r.b * (m.p * m.s + m.q * m.r) + 2 * r.c * m.r * m.s, r.at m.q m.s⟩ m := ⟨hdet, fun X Y => by simp only [Qf.at]; grind⟩
      generalize hg' : (⟨r.at m.p m.r, 2 * r.a * m.p * m.q + r.b * (m.p * m.s + m.q * m.r) + 2 * r.c * m.r * m.s, r.at m.q m.s⟩ : Qf) = g at lk
      have ga : g.a = r.at m.p m.r := by rw [← hg']
      have ra := hr.a
      have kr := Fk.of (show 0 < r.a by omega) hs e
      have gpos : 0 < g.a := by
        have hneg : s * s + 4 * n < 0 := by have := hr.disc; omega
        have k1 := norm_at kr m.p m.r
        have k2 : (⟨r.a * m.p + (r.b - s) / 2 * m.r, m.r⟩ : Zw s n) ≠ Zw.zero := fun k => by
          simp only [Zw.zero, Zw.mk.injEq] at k
          obtain ⟨k3, k4⟩ := k
          rw [k4] at k3 hdet
          have : r.a * m.p = 0 := by simpa using k3
          rcases Int.mul_eq_zero.1 this with k | k
          · omega
          · rw [k] at hdet; simp at hdet
        have k3 := Zw.norm_pos hneg k2
        rw [k1] at k3
        rw [ga]
        exact Int.pos_of_mul_pos_left (by rw [Int.mul_comm]; exact k3) (by omega)
      have kg := Fk.of gpos hs (show g.disc = s * s + 4 * n by rw [lk.disc, e])
      have hV := (genus_first kg ok ho.a ga hcp).1 (fun v hv => by rw [← Vl.iff lk]; exact hh v hv)
      rw [Bool.or_eq_true] at h1
      rcases h1 with h1 | h1
      · refine charp_no (D := (-d).toNat) h1 ok ho.a ?_ ?_
        · have := hr.disc; omega
        · rw [show ((-d).toNat : Int) = -d by omega]; exact hV
      · rw [Bool.and_eq_true, beq_iff_eq] at h1
        have hs0 : s = 0 := by
          have := hr.disc
          rcases hs with rfl | rfl
          · rfl
          · omega
        subst hs0
        refine char2_no (D := -d) (by rw [Int.neg_neg]; exact h1.2) ok ho.a ?_ hV
        have := hr.disc
        omega
    · cases h1

end Go.Proofs.Ytijkanilpblogae.MQ
