/- Markov: keys of a set of triples; triples as values. -/
import Derived.Test.YtcbepaionliepaaMkM
import Derived.Test.YtcbepaionliepaaCoC
import Derived.DeepKeys4
import Derived.WideKeyPair
import Derived.Maps.OwnSet
import Derived.Maps.AppendAt
set_option linter.unusedSimpArgs false
set_option linter.unusedVariables false
set_option maxRecDepth 100000
namespace Go.Proofs.Ytcbepaionliepaa
open Go.RowKit Go.Maps Go.WideMaps

theorem Try.laidOutM : laidOutB Try.prog = true := by kernel_rfl
theorem Try.row3 : (42 : TypeId) < Try.prog.types.size := of_decide_eq_true (by kernel_rfl)
theorem Try.cells3 : Try.prog.cellsOf 42 = 3 := by kernel_rfl
theorem Try.arr3 : ArrKey Try.prog 42 3 3 := ⟨Try.underlying42, by kernel_rfl, by kernel_rfl, Try.cells3⟩
theorem Try.wide3 : (match Try.prog.underlying 42 with | some (.array _ _) | some (.struct _) => true | _ => false) = true := by rw [Try.underlying42]
theorem Try.keyLaw3 : KeyLaw Try.prog 42 := deep_law_laid Try.laidOutM (m := 2) (by omega) Try.row3 (by kernel_rfl) Try.wide3
theorem law3 : Keyed Try.prog 42 := Keyed.of_law Try.keyLaw3
theorem keyOf_three {P : Program} {k e : TypeId} {q : IntKind} (A : ArrKey P k e 3) (he : P.underlying e = some (.int q)) (hsz : ∃ m, P.types.size = m + 1) {a b c : Int} (wa : (Lit.int q a).wf = true) (wb : (Lit.int q b).wf = true) (wc : (Lit.int q c).wf = true) :
    keyOf P k (.agg #[.int q a, .int q b, .int q c]) = some (.string (keyBytes [.int q a, .int q b, .int q c])) := by
  have hkt := A.keyType hsz
  obtain ⟨m, hm⟩ := hsz
  unfold keyOf
  simp only [A.hu]
  rw [if_pos (by simp [hkt, Value.formed, A.hu, A.size]), hm]
  unfold Program.keyLits
  simp only [A.hu, Value.cells]
  rw [if_pos (by rw [A.size]; rfl), show List.range 3 = [0, 1, 2] from rfl, List.mapM_cons, List.mapM_cons, List.mapM_cons, List.mapM_nil]
  simp [A.one, Program.keyLits, he, wa, wb, wc]

abbrev T3 := MV.T3
/-- A triple's cells, its value, its key. -/
def tl3 (t : T3) : List Value := [.int .i64 (t.1 : Int), .int .i64 (t.2.1 : Int), .int .i64 (t.2.2 : Int)]
abbrev tv3 (t : T3) : Value := .agg #[.int .i64 (t.1 : Int), .int .i64 (t.2.1 : Int), .int .i64 (t.2.2 : Int)]
def kt3 (t : T3) : Lit := .string (keyBytes [.int .i64 (t.1 : Int), .int .i64 (t.2.1 : Int), .int .i64 (t.2.2 : Int)])
structure Fit3 (t : T3) : Prop where
  x : t.1 ≤ 1000000000000000000
  y : t.2.1 ≤ 1000000000000000000
  z : t.2.2 ≤ 1000000000000000000
theorem Fit3.of {t : T3} (h : t ∈ MV.tab) : Fit3 t := by
  have g := MV.good_of h
  have g1 := g.xy
  have g2 := g.yz
  have g3 := g.zm
  exact ⟨by omega, by omega, by omega⟩
theorem wf18 {n : Nat} (h : n ≤ 1000000000000000000) : (Lit.int .i64 (n : Int)).wf = true := by
  simp [Lit.wf, IntKind.min, IntKind.max, IntKind.signed, IntKind.bits]; omega
theorem key3 {t : T3} (h : Fit3 t) : keyOf Try.prog 42 (tv3 t) = some (kt3 t) := keyOf_three Try.arr3 Try.underlying3 ⟨Try.prog.types.size - 1, by kernel_rfl⟩ (wf18 h.x) (wf18 h.y) (wf18 h.z)
theorem tv3_inj {t u : T3} (h : tv3 t = tv3 u) : t = u := by
  obtain ⟨a, b, c⟩ := t
  obtain ⟨d, e, f⟩ := u
  simp [tv3] at h
  obtain ⟨h1, h2, h3⟩ := h
  have a1 : a = d := by omega
  have a2 : b = e := by omega
  have a3 : c = f := by omega
  rw [a1, a2, a3]
theorem kt3_inj {t u : T3} (ht : Fit3 t) (hu : Fit3 u) (h : kt3 t = kt3 u) : t = u := tv3_inj (law3.inj (key3 ht) (h ▸ key3 hu))
theorem kt3_lit (t : T3) : WideAt.IsKeyLit (kt3 t) := trivial
/-- The set holds just these. -/
def Hs3 (E : DataW Unit) (S : List T3) : Prop := ∀ kl, Maps.has E kl = true ↔ ∃ t, t ∈ S ∧ kl = kt3 t
theorem Hs3.start : Hs3 (.map []) [] := fun kl => by
  constructor
  · intro h; simp [Maps.has] at h
  · rintro ⟨t, h, _⟩; cases h
theorem Hs3.has {E : DataW Unit} {S : List T3} (h : Hs3 E S) (hS : ∀ t ∈ S, Fit3 t) {t : T3} (ht : Fit3 t) : Maps.has E (kt3 t) = decide (t ∈ S) := by
  rw [Bool.eq_iff_iff, h, decide_eq_true_eq]
  constructor
  · rintro ⟨u, hu, e⟩; rw [kt3_inj ht (hS u hu) e]; exact hu
  · intro hm; exact ⟨t, hm, rfl⟩
theorem Hs3.put {E : DataW Unit} {S : List T3} (hE : IsMap E) (h : Hs3 E S) (t : T3) (u : DataW Unit) : Hs3 (E.put (kt3 t) u) (S ++ [t]) := fun kl => by
  by_cases hk : kl = kt3 t
  · subst hk
    rw [has_put_same hE (kt3_lit t) u]
    exact ⟨fun _ => ⟨t, by simp, rfl⟩, fun _ => rfl⟩
  · rw [has_put_other hk, h kl]
    constructor
    · rintro ⟨v, hv, e⟩; exact ⟨v, List.mem_append_left _ hv, e⟩
    · rintro ⟨v, hv, e⟩
      rcases List.mem_append.1 hv with hv | hv
      · exact ⟨v, hv, e⟩
      · obtain rfl : v = t := by simpa using hv
        exact absurd e hk
/-- The cells of a row of triples. -/
def tcl3 : List T3 → List Value
  | [] => []
  | t :: l => tl3 t ++ tcl3 l
theorem tcl3_append (l k : List T3) : tcl3 (l ++ k) = tcl3 l ++ tcl3 k := by
  induction l with
  | nil => rfl
  | cons q l ih => rw [List.cons_append, tcl3, ih, tcl3, List.append_assoc]
theorem tcl3_len (l : List T3) : (tcl3 l).length = l.length * 3 := by
  induction l with
  | nil => rfl
  | cons a l ih => rw [tcl3, List.length_append, ih]; simp [tl3]; omega

end Go.Proofs.Ytcbepaionliepaa
