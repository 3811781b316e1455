/- Certificates as trees in memory; what Check says of one, in plain words. -/
import Derived.Test.YtknmfohipdjlpabGreatDoorCertM
import Derived.Test.YtknmfohipdjlpabGreatDoorWholeC
set_option linter.unusedSimpArgs false
set_option linter.unusedVariables false
set_option maxRecDepth 100000
namespace Go.Proofs.YtknmfohipdjlpabGreatDoor
open Go.RowKit

/-- A certificate, with where its Parts lie. -/
inductive Ct where
  | mk (n r : Int) (a : Option Addr) (cap : Nat) (ps : List Ct)

namespace Ct
def n : Ct → Int | mk n _ _ _ _ => n
def r : Ct → Int | mk _ r _ _ _ => r
def a : Ct → Option Addr | mk _ _ a _ _ => a
def cap : Ct → Nat | mk _ _ _ c _ => c
def ps : Ct → List Ct | mk _ _ _ _ ps => ps
def sl (c : Ct) : Value := .slice c.a c.ps.length c.cap
def val (c : Ct) : Value := .agg #[.int .i64 c.n, .int .i64 c.r, c.sl]
def qs (c : Ct) : List Int := c.ps.map n
def code (c : Ct) : Int := codeOf c.n c.r c.qs
theorem n_mk (n r : Int) (a : Option Addr) (cap : Nat) (ps : List Ct) : (mk n r a cap ps).n = n := rfl
theorem r_mk (n r : Int) (a : Option Addr) (cap : Nat) (ps : List Ct) : (mk n r a cap ps).r = r := rfl
theorem a_mk (n r : Int) (a : Option Addr) (cap : Nat) (ps : List Ct) : (mk n r a cap ps).a = a := rfl
theorem cap_mk (n r : Int) (a : Option Addr) (cap : Nat) (ps : List Ct) : (mk n r a cap ps).cap = cap := rfl
theorem ps_mk (n r : Int) (a : Option Addr) (cap : Nat) (ps : List Ct) : (mk n r a cap ps).ps = ps := rfl
theorem sl_mk (n r : Int) (a : Option Addr) (cap : Nat) (ps : List Ct) : (mk n r a cap ps).sl = .slice a ps.length cap := rfl
theorem qs_mk (n r : Int) (a : Option Addr) (cap : Nat) (ps : List Ct) : (mk n r a cap ps).qs = ps.map Ct.n := rfl
mutual
def flat : Ct → List Ct
  | mk n r a cap ps => mk n r a cap ps :: flats ps
def flats : List Ct → List Ct
  | [] => []
  | c :: t => flat c ++ flats t
end
theorem flat_eq (c : Ct) : c.flat = c :: flats c.ps := by cases c; rw [flat]; rfl
theorem flats_append (x y : List Ct) : flats (x ++ y) = flats x ++ flats y := by
  induction x with
  | nil => simp [flats]
  | cons c t ih => simp [flats, ih]
theorem flats_cons (c : Ct) (t : List Ct) : flats (c :: t) = c.flat ++ flats t := by rw [flats]
end Ct

/-- What is wrong with parts in their order: a code and a place. -/
def goF : List Ct → Nat → Int × Int
  | [], _ => (0, 0)
  | c :: t, i => if i = 1000 then (2, 0) else if c.code = 0 then goF t (i + 1) else (c.code, i)

theorem goF_append (x y : List Ct) : ∀ i, goF (x ++ y) i = if (goF x i).1 = 0 then goF y (i + x.length) else goF x i := by
  induction x with
  | nil => intro i; simp [goF]
  | cons c t ih =>
    intro i
    simp only [List.cons_append, goF]
    split
    · rfl
    · split
      · rw [ih, List.length_cons, show i + 1 + t.length = i + (t.length + 1) by omega]
      · rename_i h; simp [h]

theorem goF_le (x : List Ct) : ∀ i, i ≤ 1000 → (goF x i).1 = 0 → i + x.length ≤ 1000 := by
  induction x with
  | nil => intro i h _; simpa using h
  | cons c t ih =>
    intro i h h0
    simp only [goF] at h0
    split at h0
    · cases h0
    · split at h0
      · have := ih (i + 1) (by omega) h0
        simp; omega
      · simp at h0; contradiction

theorem goF_all (x : List Ct) : ∀ i, (goF x i).1 = 0 → ∀ c ∈ x, c.code = 0 := by
  induction x with
  | nil => intro i _ c hc; cases hc
  | cons c t ih =>
    intro i h0 d hd
    simp only [goF] at h0
    split at h0
    · cases h0
    · split at h0
      · rename_i hc
        rcases List.mem_cons.1 hd with h | h
        · rw [h]; exact hc
        · exact ih _ h0 d h
      · simp at h0; contradiction

/-- The numbers fit, and where the Parts lie: below block B. -/
structure NodeOk (B : Nat) (w : World) (c : Ct) : Prop where
  n1 : -9223372036854775808 ≤ c.n
  n2 : c.n ≤ 9223372036854775807
  r1 : -9223372036854775808 ≤ c.r
  r2 : c.r ≤ 9223372036854775807
  len : c.ps.length ≤ 9223372036854775807
  le : c.ps.length ≤ c.cap
  at_ : 0 < c.ps.length → ∃ b o, c.a = some ⟨b, o, none⟩ ∧ b < B ∧ ∀ i (h : i < c.ps.length), w.cell? ⟨b, o + i * 3, none⟩ = some (.int .i64 c.ps[i].n) ∧ w.cell? ⟨b, o + i * 3 + 1, none⟩ = some (.int .i64 c.ps[i].r) ∧ w.cell? ⟨b, o + i * 3 + 2, none⟩ = some c.ps[i].sl

inductive InW (B : Nat) (w : World) : Ct → Prop
  | mk {c : Ct} (ok : NodeOk B w c) (ps : ∀ i (h : i < c.ps.length), InW B w c.ps[i]) : InW B w c

theorem InW.ok {B : Nat} {w : World} {c : Ct} (h : InW B w c) : NodeOk B w c := by cases h; assumption
theorem InW.part {B : Nat} {w : World} {c : Ct} (h : InW B w c) (i : Nat) (hi : i < c.ps.length) : InW B w c.ps[i] := by cases h; rename_i h; exact h i hi

theorem InW.under {B : Nat} {w w' : World} {c : Ct} (h : InW B w c) (hb : Below B w w') : InW B w' c := by
  induction h with
  | mk ok ps ih =>
    refine .mk ⟨ok.n1, ok.n2, ok.r1, ok.r2, ok.len, ok.le, fun h0 => ?_⟩ ih
    obtain ⟨b, o, h1, h2, h3⟩ := ok.at_ h0
    refine ⟨b, o, h1, h2, fun i hi => ?_⟩
    rw [hb.cell (p := ⟨b, o + i * 3, none⟩) h2, hb.cell (p := ⟨b, o + i * 3 + 1, none⟩) h2, hb.cell (p := ⟨b, o + i * 3 + 2, none⟩) h2]
    exact h3 i hi

/-- Each part has few Parts. -/
inductive Slim : Ct → Prop
  | mk {c : Ct} (few : c.ps.length ≤ 1100) (ps : ∀ i (h : i < c.ps.length), Slim c.ps[i]) : Slim c
theorem Slim.few {c : Ct} (h : Slim c) : c.ps.length ≤ 1100 := by cases h; assumption
theorem Slim.part {c : Ct} (h : Slim c) (i : Nat) (hi : i < c.ps.length) : Slim c.ps[i] := by cases h; rename_i h; exact h i hi

/-- All parts right: a prime's certificate. -/
theorem InW.prime {B : Nat} {w : World} {c : Ct} (h : InW B w c) (h0 : ∀ d ∈ c.flat, d.code = 0) : 2 ≤ c.n ∧ c.n ≤ 1000000000000000000 ∧ Fp c.n.toNat := by
  induction h with
  | @mk c ok ps ih =>
    have hin : ∀ (l : List Ct) (x : Ct), x ∈ l → ∀ d ∈ x.flat, d ∈ Ct.flats l := by
      intro l
      induction l with
      | nil => intro x hx; cases hx
      | cons y t iht =>
        intro x hx d hd
        rw [Ct.flats_cons, List.mem_append]
        rcases List.mem_cons.1 hx with h | h
        · subst h; exact .inl hd
        · exact .inr (iht x h d hd)
    rw [Ct.flat_eq] at h0
    refine pratt (h0 c (by simp)) (fun q hq => ?_)
    obtain ⟨x, hx, rfl⟩ := List.mem_map.1 hq
    obtain ⟨i, hi, rfl⟩ := List.mem_iff_getElem.1 hx
    exact (ih i hi (fun d hd => h0 d (by simp [hin _ _ hx d hd]))).2.2.1

end Go.Proofs.YtknmfohipdjlpabGreatDoor
