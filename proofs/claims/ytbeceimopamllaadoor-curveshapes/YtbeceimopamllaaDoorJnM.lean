import Derived.Test.YtbeceimopamllaaDoorShA
import Derived.Test.YtbeceimopamllaaDoorShB
import Derived.Test.YtbeceimopamllaaDoorShC
import Derived.Test.YtbeceimopamllaaDoorShD
import Derived.Test.YtbeceimopamllaaDoorShE
import Derived.Test.YtbeceimopamllaaDoorShF
import Derived.Test.YtbeceimopamllaaDoorShG
import Derived.Test.YtbeceimopamllaaDoorShH
import Derived.Test.YtbeceimopamllaaDoorShI
import Derived.Test.YtbeceimopamllaaDoorShJ
import Derived.Test.YtbeceimopamllaaDoorCuO
section
/- Every prime from 5 to 2000 is in the table. Written by mksh.py. -/
set_option linter.unusedVariables false
set_option maxRecDepth 100000
namespace Go.Proofs.YtbeceimopamllaaDoor
namespace SH

def tab : List (List (Nat × Nat)) := tbA ++ (tbB ++ (tbC ++ (tbD ++ (tbE ++ (tbF ++ (tbG ++ (tbH ++ (tbI ++ tbJ))))))))
theorem tab_ok : ∀ l ∈ tab, chkTL l = true := by
  intro l hl
  unfold tab at hl
  simp only [List.mem_append] at hl
  rcases hl with h | h | h | h | h | h | h | h | h | h
  · exact tbA_ok l h
  · exact tbB_ok l h
  · exact tbC_ok l h
  · exact tbD_ok l h
  · exact tbE_ok l h
  · exact tbF_ok l h
  · exact tbG_ok l h
  · exact tbH_ok l h
  · exact tbI_ok l h
  · exact tbJ_ok l h

def hasP (n : Nat) : Bool := tab.any fun l => l.any fun x => x.1 == n
def hasD (n : Nat) : Bool := (List.range 45).any fun d => Nat.ble 2 d && (Nat.blt d n && n % d == 0)
theorem all_in : (List.range 2001).all (fun n => Nat.blt n 5 || (hasD n || hasP n)) = true := by decide +kernel

theorem table {P : Nat} (hp : Pr P) (h5 : 5 ≤ P) (h2 : P ≤ 2000) : ∃ g, HS.Gen P g ∧ chkT P g = true := by
  have h := List.all_eq_true.1 all_in P (List.mem_range.2 (by omega))
  rw [Bool.or_eq_true, Bool.or_eq_true] at h
  rcases h with h | h | h
  · rw [Nat.blt_eq] at h; omega
  · exfalso
    unfold hasD at h
    obtain ⟨d, _, h⟩ := List.any_eq_true.1 h
    rw [Bool.and_eq_true, Bool.and_eq_true] at h
    have h1 := Nat.le_of_ble_eq_true h.1
    have h3 : d < P := by have := h.2.1; rwa [Nat.blt_eq] at this
    have h4 : P % d = 0 := by simpa using h.2.2
    have := hp.2 d (Nat.dvd_of_mod_eq_zero h4)
    omega
  · unfold hasP at h
    obtain ⟨l, hl, h⟩ := List.any_eq_true.1 h
    obtain ⟨x, hx, h⟩ := List.any_eq_true.1 h
    have e : x.1 = P := by simpa using h
    have hc := chkTL_at l (tab_ok l hl) x hx
    rw [e] at hc
    exact ⟨x.2, HS.genB_at hp h5 hc.1, hc.2⟩

end SH
end Go.Proofs.YtbeceimopamllaaDoor
end

section
/- Plain facts: what is asked of a curve's number of points holds of every curve by a prime from 5 to 2000: the classes by stretching. -/
set_option linter.unusedVariables false
set_option maxRecDepth 100000
namespace Go.Proofs.YtbeceimopamllaaDoor
namespace SH
open EC
theorem aff_sc {P g : Nat} (h : HS.Gen P g) (a b : Nat) : ∀ j, HS.aff P (g ^ (4 * j) * a) (g ^ (6 * j) * b) = HS.aff P a b
  | 0 => by simp
  | j + 1 => by
    have e1 := HS.aff_step h (g ^ (4 * j) * a) (g ^ (6 * j) * b)
    have e2 := HS.aff_step h (g * g * (g ^ (4 * j) * a)) (g * g * g * (g ^ (6 * j) * b))
    have e3 := aff_sc h a b j
    rw [show g ^ (4 * (j + 1)) * a = g * g * (g * g * (g ^ (4 * j) * a)) by
      rw [Nat.mul_succ, Nat.pow_add]; simp only [Nat.pow_succ, Nat.pow_zero, Nat.one_mul]; grind,
      show g ^ (6 * (j + 1)) * b = g * g * g * (g * g * g * (g ^ (6 * j) * b)) by
      rw [Nat.mul_succ, Nat.pow_add]; simp only [Nat.pow_succ, Nat.pow_zero, Nat.one_mul]; grind]
    omega
theorem pow4 (g j : Nat) : g ^ (4 * j) = g ^ j * g ^ j * g ^ j * g ^ j := by
  rw [Nat.mul_comm, Nat.pow_mul]; simp only [Nat.pow_succ, Nat.pow_zero, Nat.one_mul]
theorem pow6 (g j : Nat) : g ^ (6 * j) = g ^ j * g ^ j * g ^ j * g ^ j * g ^ j * g ^ j := by
  rw [Nat.mul_comm, Nat.pow_mul]; simp only [Nat.pow_succ, Nat.pow_zero, Nat.one_mul]
theorem sc_of {P g j a0 b0 A b : Nat} (h : HS.Gen P g) (hA : g ^ (4 * j) * a0 % P = A % P) (hb : g ^ (6 * j) * b0 % P = b % P) : Sc P ((g ^ j : Nat) : Int) a0 b0 A b := by
  refine ⟨fun e => h.ne j ?_, ?_, ?_⟩
  · rw [← Int.natCast_emod] at e; exact Int.ofNat.inj e
  · rw [pow4] at hA
    rw [← Int.natCast_emod, ← hA, Int.natCast_emod]
    simp only [Int.natCast_mul]
  · rw [pow6] at hb
    rw [← Int.natCast_emod, ← hb, Int.natCast_emod]
    simp only [Int.natCast_mul]
theorem cv_sc {P : Nat} {u : Int} {a0 b0 A b : Nat} (hc : Cv P A b) (hs : Sc P u a0 b0 A b) (ha : a0 < P) (hb : b0 < P) : Cv P a0 b0 := by
  haveI := hc.nz
  refine ⟨hc.pr, hc.p5, hc.p2, Int.natCast_nonneg _, by omega, Int.natCast_nonneg _, by omega, fun e => hc.dis ?_⟩
  have hA : (cF (A : Int) : Fin P) = cF u * cF u * cF u * cF u * cF a0 := by rw [cF_eq.2 hs.a]; simp only [cF_mul]
  have hB : (cF (b : Int) : Fin P) = cF u * cF u * cF u * cF u * cF u * cF u * cF b0 := by rw [cF_eq.2 hs.b]; simp only [cF_mul]
  have h7 : (cF (4 * (a0 : Int) * a0 * a0 + 27 * b0 * b0) : Fin P) = 0 := cF_z.2 e
  refine cF_z.1 ?_
  simp only [cF_add, cF_mul] at h7 ⊢
  rw [hA, hB]
  grobner
theorem fl_cls {n P g i e0 e1 e2 R : Nat} (hg : HS.Gen P g) (hP : P ≤ 2000) (hE : e0 + 16 * e1 + 256 * e2 = P - 2) (hk : chkS n P (g ^ i % P) e0 e1 e2 R = true) {A b : Nat} (hc : Cv P A b) (j b0 : Nat)
    (hA : g ^ (4 * j + i) % P = A) (hb0 : b0 < n) (hbP : b0 < P) (hb : g ^ (6 * j) * b0 % P = b) : AB.Fl (grp hc) (HS.aff P A b + 1) (P - 1) := by
  have h5 := hg.p5
  have hAP : A < P := by have := hc.a1; omega
  have hbP' : b < P := by have := hc.b1; omega
  have hA' : g ^ (4 * j) * (g ^ i % P) % P = A % P := by
    rw [Nat.mod_eq_of_lt hAP, ← hA, Nat.pow_add, Nat.mul_mod (g ^ (4 * j)) (g ^ i % P), Nat.mod_mod, ← Nat.mul_mod]
  have hb' : g ^ (6 * j) * b0 % P = b % P := by rw [Nat.mod_eq_of_lt hbP', hb]
  have hs := sc_of hg hA' hb'
  have hc0 := cv_sc hc hs (Nat.mod_lt _ (by omega)) hbP
  have h1 := chkS_at hg hP hE hk hb0 hc0
  rw [← aff_sc hg (g ^ i % P) b0 j, HS.aff_mod P _ _ A b hA' hb'] at h1
  exact fl_sc hc0 hc hs h1
theorem inv_b {P g : Nat} (hg : HS.Gen P g) (j b : Nat) (hb : b < P) : ∃ b0, b0 < P ∧ g ^ (6 * j) * b0 % P = b := by
  have h5 := hg.p5
  refine ⟨b * (g ^ (6 * j)) ^ (P - 2) % P, Nat.mod_lt _ (by omega), ?_⟩
  rw [Nat.mul_mod, Nat.mod_mod, ← Nat.mul_mod, Nat.mul_left_comm, ← Nat.pow_succ', show (P - 2).succ = P - 1 by omega, ← Nat.pow_mul, Nat.mul_comm (6 * j), Nat.mul_mod, pow_mod_one (by omega) hg.one, Nat.mul_one, Nat.mod_mod, Nat.mod_eq_of_lt hb]
theorem half_neg {P g : Nat} (hg : HS.Gen P g) (h4 : P % 4 = 1) : (g ^ (6 * ((P - 1) / 4)) + 1) % P = 0 := by
  have h5 := hg.p5
  have h1 : g ^ ((P - 1) / 2) % P * (g ^ ((P - 1) / 2) % P) % P = 1 := by
    rw [← Nat.mul_mod, ← Nat.pow_add, show (P - 1) / 2 + (P - 1) / 2 = P - 1 by omega]; exact hg.one
  have h2 : g ^ ((P - 1) / 2) % P = P - 1 := by
    rcases root_one hg.pr (Nat.mod_lt _ (by omega)) h1 with h | h
    · exact absurd h (hg.less _ (by omega) (by omega))
    · exact h
  have h3 : g ^ (6 * ((P - 1) / 4)) % P = P - 1 := by
    rw [show 6 * ((P - 1) / 4) = (P - 1) + (P - 1) / 2 by omega, Nat.pow_add, Nat.mul_mod, hg.one, h2, Nat.one_mul, Nat.mod_eq_of_lt (by omega)]
  rw [Nat.add_mod, h3, Nat.mod_eq_of_lt (show 1 < P by omega), show P - 1 + 1 = P by omega, Nat.mod_self]
theorem neg_b {P c H b0 : Nat} (hH : (H + 1) % P = 0) (hb0 : 0 < b0) (hb : b0 < P) : c * H * (P - b0) % P = c * b0 % P := by
  obtain ⟨m, hm⟩ := Nat.dvd_of_mod_eq_zero hH
  have h1 : H * (P - b0) % P = b0 := by
    have h2 : H * (P - b0) + (P - b0) = P * (m * (P - b0)) := by rw [← Nat.mul_assoc, ← hm, Nat.add_mul, Nat.one_mul]
    have h3 : (H * (P - b0) + P) % P = b0 := by
      rw [show H * (P - b0) + P = b0 + P * (m * (P - b0)) by omega, Nat.add_mul_mod_self_left, Nat.mod_eq_of_lt hb]
    rwa [Nat.add_mod_right] at h3
  rw [Nat.mul_assoc, Nat.mul_mod, h1, Nat.mod_eq_of_lt hb |> fun e => (show c % P * b0 % P = c * b0 % P by rw [Nat.mul_mod, Nat.mod_mod, ← Nat.mul_mod])]
/-- What is asked of a curve's number, of every curve by a prime that is in order. -/
theorem fl_all {P g : Nat} (hg : HS.Gen P g) (hP : P ≤ 2000) (h : chkT P g = true) {A b : Nat} (hc : Cv P A b) : AB.Fl (grp hc) (HS.aff P A b + 1) (P - 1) := by
  have h5 := hg.p5
  have hAP : A < P := by have := hc.a1; omega
  have hbP : b < P := by have := hc.b1; omega
  unfold chkT at h
  rw [ife_eq, ifb, st_eq] at h
  by_cases cz : chkZ P g = true
  · rw [if_pos cz] at h
    have hper : ∀ k, g ^ (k + (P - 1)) % P = g ^ k % P := fun k => by rw [Nat.pow_add, Nat.mul_mod, hg.one, Nat.mul_one, Nat.mod_mod]
    by_cases hA0 : A = 0
    · subst hA0
      have hb0 : 0 < b := Nat.pos_of_ne_zero (fun e => hc.dis (by subst e; simp))
      obtain ⟨k, hk, hkb⟩ := hg.all hb0 hbP
      have hi : k % 6 ∈ [0, 1, 2, 3, 4, 5] := by
        have : k % 6 < 6 := Nat.mod_lt _ (by omega)
        generalize k % 6 = i at this
        simp only [List.mem_cons, List.not_mem_nil, or_false]
        omega
      have hb' : g ^ (6 * (k / 6)) * (g ^ (k % 6) % P) % P = b % P := by
        rw [Nat.mod_eq_of_lt hbP, ← hkb, Nat.mul_mod, Nat.mod_mod, ← Nat.mul_mod, ← Nat.pow_add, Nat.div_add_mod]
      have hA' : g ^ (4 * (k / 6)) * 0 % P = 0 % P := by rw [Nat.mul_zero]
      have hs := sc_of hg hA' hb'
      have hc0 := cv_sc hc hs (by omega) (Nat.mod_lt _ (by omega))
      have h1 := chkZ_at hg hP cz hi hc0
      rw [← aff_sc hg 0 (g ^ (k % 6) % P) (k / 6), HS.aff_mod P _ _ 0 b hA' hb'] at h1
      exact fl_sc hc0 hc hs h1
    · obtain ⟨k, hk, hkA⟩ := hg.all (Nat.pos_of_ne_zero hA0) hAP
      by_cases c4 : P % 4 = 1
      · rw [if_pos (show Nat.mod P 4 = 1 from c4)] at h
        obtain ⟨e0, e1, e2, R, hE, hl⟩ := chkR_at h
        have hi : k % 4 ∈ [0, 1, 2, 3] := by
          have : k % 4 < 4 := Nat.mod_lt _ (by omega)
          generalize k % 4 = i at this
          simp only [List.mem_cons, List.not_mem_nil, or_false]
          omega
        obtain ⟨b0, hb0, hb0b⟩ := inv_b hg (k / 4) b hbP
        have hA1 : g ^ (4 * (k / 4) + k % 4) % P = A := by rw [Nat.div_add_mod]; exact hkA
        by_cases hlt : b0 < P / 2 + 1
        · exact fl_cls hg hP hE (hl _ hi) hc (k / 4) b0 hA1 hlt hb0 hb0b
        · refine fl_cls hg hP hE (hl _ hi) hc (k / 4 + (P - 1) / 4) (P - b0) ?_ (show P - b0 < P / 2 + 1 by omega) (by omega) ?_
          · rw [show 4 * (k / 4 + (P - 1) / 4) + k % 4 = (4 * (k / 4) + k % 4) + (P - 1) by omega, hper]; exact hA1
          · rw [Nat.mul_add, Nat.pow_add, neg_b (half_neg hg c4) (by omega) hb0]; exact hb0b
      · rw [if_neg (show ¬ Nat.mod P 4 = 1 from c4)] at h
        obtain ⟨e0, e1, e2, R, hE, hl⟩ := chkR_at h
        have hodd := hg.odd
        obtain ⟨k', hkA', hk'⟩ : ∃ k', g ^ k' % P = A ∧ k' % 4 < 2 := by
          by_cases c : k % 4 < 2
          · exact ⟨k, hkA, c⟩
          · exact ⟨k + (P - 1), by rw [hper]; exact hkA, by omega⟩
        have hi : k' % 4 ∈ [0, 1] := by
          generalize k' % 4 = i at hk'
          simp only [List.mem_cons, List.not_mem_nil, or_false]
          omega
        obtain ⟨b0, hb0, hb0b⟩ := inv_b hg (k' / 4) b hbP
        exact fl_cls hg hP hE (hl _ hi) hc (k' / 4) b0 (by rw [Nat.div_add_mod]; exact hkA') hb0 hb0 hb0b
  · rw [if_neg cz] at h; cases h
end SH
namespace SH
open EC
theorem fl_curve {P A b : Nat} (hc : Cv P A b) : AB.Fl (grp hc) (HS.aff P A b + 1) (P - 1) := by
  obtain ⟨g, hg, h⟩ := table hc.pr hc.p5 hc.p2
  exact fl_all hg hc.p2 h hc
end SH
end Go.Proofs.YtbeceimopamllaaDoor
end

section
/- Plain facts: a curve's points as the program lists them are its group, each once; the way to the exponent; the shape. -/
set_option linter.unusedSimpArgs false
set_option linter.unusedVariables false
set_option maxRecDepth 100000
namespace Go.Proofs.YtbeceimopamllaaDoor
open Go.RowKit EC
namespace CP

theorem sqs_cnt (P s : Nat) : ∀ y, (sqs P s y).length = HS.cnt (fun t => t * t % P) s y
  | 0 => rfl
  | y + 1 => by
    rw [sqs_succ, List.length_append, HS.cnt, sqs_cnt P s y]
    congr 1
    by_cases h : y * y % P = s
    · simp [h]
    · simp [h]
theorem sqx_nat (P A B x : Nat) : sqx P (A : Int) (B : Int) x = (x * x * x + A * x + B) % P := by
  unfold sqx
  congr 1
theorem pts_cnt (P A B : Nat) : ∀ x, (pts P (A : Int) (B : Int) x).length = 1 + HS.sg (fun z => HS.rt P ((z * z * z + A * z + B) % P)) x
  | 0 => rfl
  | x + 1 => by
    rw [pts, List.length_append, pts_cnt P A B x, HS.sg]
    unfold rowx
    rw [List.length_map, sqs_cnt, sqx_nat]
    unfold HS.rt
    omega
theorem rowx_iff {P A B : Nat} {x : Nat} {q : Pn} : q ∈ rowx P (A : Int) (B : Int) x ↔ ∃ u : Nat, q = ⟨x, u, false⟩ ∧ u < P ∧ u * u % P = (x * x * x + A * x + B) % P := by
  unfold rowx
  rw [List.mem_map]
  constructor
  · rintro ⟨v, hv, rfl⟩
    obtain ⟨u, rfl, h1, h2⟩ := sqs_mem hv
    exact ⟨u, rfl, h1, by rw [h2, sqx_nat]⟩
  · rintro ⟨u, rfl, h1, h2⟩
    exact ⟨(u : Int), mem_sqs h1 (by rw [h2, sqx_nat]), rfl⟩
theorem pts_iff {P A B : Nat} {q : Pn} : ∀ x, q ∈ pts P (A : Int) (B : Int) x ↔ (q = farP ∨ ∃ z u : Nat, z < x ∧ q = ⟨z, u, false⟩ ∧ u < P ∧ u * u % P = (z * z * z + A * z + B) % P)
  | 0 => by
    rw [pts, List.mem_singleton]
    exact ⟨.inl, fun h => h.elim id (fun ⟨z, u, h, _⟩ => by omega)⟩
  | x + 1 => by
    rw [pts, List.mem_append, pts_iff x, rowx_iff]
    constructor
    · rintro ((h | ⟨z, u, h1, h2⟩) | ⟨u, h⟩)
      · exact .inl h
      · exact .inr ⟨z, u, by omega, h2⟩
      · exact .inr ⟨x, u, by omega, h⟩
    · rintro (h | ⟨z, u, h1, h2⟩)
      · exact .inl (.inl h)
      · by_cases e : z = x
        · subst e; exact .inr ⟨u, h2⟩
        · exact .inl (.inr ⟨z, u, by omega, h2⟩)
theorem on_nat {P A B z u : Nat} (hz : z < P) (hu : u < P) : On P A B ⟨z, u, false⟩ ↔ u * u % P = (z * z * z + A * z + B) % P := by
  have key : ((z : Int) * z * z + A * z + B - u * u) % (P : Int) = 0 ↔ u * u % P = (z * z * z + A * z + B) % P := by
    have e1 : (z : Int) * z * z + A * z + B = ((z * z * z + A * z + B : Nat) : Int) := by simp only [Int.natCast_add, Int.natCast_mul]
    have e2 : (u : Int) * u = ((u * u : Nat) : Int) := by simp only [Int.natCast_mul]
    rw [e1, e2, ← Int.emod_eq_emod_iff_emod_sub_eq_zero, ← Int.natCast_emod, ← Int.natCast_emod]
    exact ⟨fun h => (Int.ofNat.inj h).symm, fun h => by rw [h]⟩
  constructor
  · rintro (⟨h, _⟩ | ⟨_, _, _, _, _, h⟩)
    · cases h
    · exact key.1 h
  · intro h
    exact .inr ⟨rfl, Int.natCast_nonneg _, by show (z : Int) < P; omega, Int.natCast_nonneg _, by show (u : Int) < P; omega, key.2 h⟩
/-- All points, and no others. -/
theorem pts_all {P A B : Nat} (q : Pn) : q ∈ pts P (A : Int) (B : Int) P ↔ On P A B q := by
  rw [pts_iff]
  constructor
  · rintro (rfl | ⟨z, u, h1, rfl, h2, h3⟩)
    · exact far_on _ _ _
    · exact (on_nat h1 h2).2 h3
  · intro h
    by_cases hf : q.far = true
    · exact .inl (far_of h hf)
    · obtain ⟨h1, h2, h3⟩ := SH.pn_nat h hf
      have h2' : q.x.toNat < P := by omega
      have h3' : q.y.toNat < P := by omega
      rw [h1] at h
      exact .inr ⟨q.x.toNat, q.y.toNat, h2', h1, h3', (on_nat h2' h3').1 h⟩
theorem sqs_nodup (P s y : Nat) : (sqs P s y).Nodup := by
  unfold sqs List.Nodup
  rw [List.pairwise_map]
  exact (List.pairwise_lt_range.filter _).imp (fun h => by omega)
theorem pts_nodup (P A B : Nat) : ∀ x, (pts P (A : Int) (B : Int) x).Nodup
  | 0 => by simp [pts]
  | x + 1 => by
    unfold List.Nodup
    rw [pts, List.pairwise_append]
    refine ⟨pts_nodup P A B x, ?_, fun q hq r hr e => ?_⟩
    · unfold rowx
      rw [List.pairwise_map]
      exact (sqs_nodup P _ P).imp (fun h e => h (by cases e; rfl))
    · subst e
      obtain ⟨u, rfl, _⟩ := rowx_iff.1 hr
      rcases (pts_iff x).1 hq with h | ⟨z, v, h1, h2, _⟩
      · cases h
      · have : (x : Int) = z := congrArg Pn.x h2
        omega

theorem mz_nat (p a : Int) (q : Pn) (n : Nat) : mz p a q (n : Int) = mu p a q n := by
  unfold mz
  rw [if_pos (Int.natCast_nonneg n), Int.toNat_natCast]

/-- THE SHAPE: the program's way to the exponent, and what it comes to. -/
theorem shape {P A B : Nat} (hc : Cv P (A : Int) (B : Int)) : ∃ N K : Nat → Nat, ∃ m n : Nat, ∃ g, Ex P A B (pts P (A : Int) (B : Int) P) N K ∧ N (pts P (A : Int) (B : Int) P).length = n ∧ (pts P (A : Int) (B : Int) P).length / n = m ∧ 1 ≤ m ∧ 1 ≤ n ∧
    m * n = (pts P (A : Int) (B : Int) P).length ∧ m ∣ n ∧ m ∣ (P - 1) ∧ g ∈ pts P (A : Int) (B : Int) P ∧ Od P A g n ∧ (∀ q ∈ pts P (A : Int) (B : Int) P, ∀ k, Od P A q k → k ≤ n) := by
  haveI := hc.nz
  haveI : DecidableEq Pn := fun a b => Classical.propDecidable _
  have hP := hc.p2
  have hp5 := hc.p5
  have hm : ∀ q, q ∈ pts P (A : Int) (B : Int) P ↔ (grp hc).On q := pts_all
  have nd := pts_nodup P A B P
  have hlen : (pts P (A : Int) (B : Int) P).length = HS.aff P A B + 1 := by rw [pts_cnt P A B P, Nat.add_comm]; rfl
  have hL4 : (pts P (A : Int) (B : Int) P).length ≤ 4000001 := by
    have h1 := pts_len P (A : Int) (B : Int) P
    have h2 : P * P ≤ 2000 * 2000 := Nat.mul_le_mul hP hP
    omega
  obtain ⟨N, K, g, h0, hst, hdv, hnl, hg, hgo, hk⟩ := AB.chain_ex (grp hc) nd hm
  have hn0 : 0 < N (pts P (A : Int) (B : Int) P).length := hgo.1
  obtain ⟨m, hmn⟩ := hnl
  have hl0 : 0 < (pts P (A : Int) (B : Int) P).length := by omega
  have hm0 : 0 < m := Nat.pos_of_ne_zero (fun e => by rw [e, Nat.mul_zero] at hmn; omega)
  have hfl := SH.fl_curve hc
  rw [← hlen] at hfl
  have hsh := AB.shape_of (grp hc) nd hm hn0 hk (by rw [Nat.mul_comm]; exact hmn.symm) (by omega) hfl
  have hnle : N (pts P (A : Int) (B : Int) P).length ≤ (pts P (A : Int) (B : Int) P).length := Nat.le_of_dvd hl0 ⟨m, hmn⟩
  have hNle : ∀ i, i ≤ (pts P (A : Int) (B : Int) P).length → N i ≤ (pts P (A : Int) (B : Int) P).length := fun i hi => Nat.le_trans (Nat.le_of_dvd hn0 (hdv i hi)) hnle
  have hon : ∀ i, i < (pts P (A : Int) (B : Int) P).length → On P A B ((pts P (A : Int) (B : Int) P).getD i farP) := fun i hi => by
    rw [AB.getD_at _ farP hi]; exact (hm _).1 (List.getElem_mem hi)
  refine ⟨N, K, m, N (pts P (A : Int) (B : Int) P).length, g, ⟨h0, fun i hi => (hst i hi).1, hon, ?_, ?_, ?_⟩, rfl, ?_, hm0, hn0, by rw [Nat.mul_comm]; exact hmn.symm, hsh.1, hsh.2, hg, Od.of hc hgo, ?_⟩
  · intro i hi
    rw [mz_nat, ← grp_ml hc]
    exact Od.of hc (hst i hi).2
  · intro i hi
    have h1 := (hst i hi).1
    have h2 := hNle (i + 1) (by omega)
    have h3 : K i ≤ N (i + 1) := by
      rw [h1]
      refine Nat.le_mul_of_pos_left _ (Nat.pos_of_ne_zero (fun e => ?_))
      have := Nat.pos_of_dvd_of_pos (hdv i (by omega)) hn0
      omega
    omega
  · intro i hi
    have := hNle i hi
    omega
  · conv => lhs; arg 1; rw [hmn]
    exact Nat.mul_div_cancel_left m hn0
  · intro q hq k hok
    exact Nat.le_of_dvd hn0 (((hok.or hc ((hm q).1 hq)).2 _).1 (hk q ((hm q).1 hq)))
end CP
end Go.Proofs.YtbeceimopamllaaDoor
end
