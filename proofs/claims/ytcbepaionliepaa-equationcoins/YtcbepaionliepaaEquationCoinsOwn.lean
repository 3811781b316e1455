/- Proved: whatever slice of ints is given (a nil one and an empty one too), EquationCoins returns true, and all that was in memory before the call is as it was. No conditions beyond the row's own (the slice within the form's own reach). -/
import Derived.Test.YtcbepaionliepaaRows
import Derived.Test.YtcbepaionliepaaEquationCoinsWalk
import Derived.WalkKit
import Derived.ProofKit
import Derived.OpenShut
import Derived.SizedLaws
set_option maxRecDepth 100000
namespace Go.Proofs.Ytcbepaionliepaa.equationCoins
open Go.ChangeShapes Go.WideShapes Go.ChangeAt Go.RowKit
set_option linter.unusedVariables false

theorem own : ownKnob Try.prog.godebug = none := by kernel_rfl
theorem laidOut : laidOutB Try.prog = true := by kernel_rfl
theorem cellsInt : Try.prog.cellsOf 3 = 1 := by kernel_rfl
theorem bytesInt : Try.prog.bytesOf 3 = 8 := by kernel_rfl

theorem wf_bounds {n : Int} (h : (Lit.int .i64 n).wf = true) : -9223372036854775808 ≤ n ∧ n ≤ 9223372036854775807 := by
  simpa [Lit.wf, IntKind.min, IntKind.max, IntKind.signed, IntKind.bits] using h

/-- A slice that came in, opened once: its numbers, where they lie, what it reads as. -/
theorem opened {H : Type} {enc : TypeId × Value → H} {W : World} {fuel : Nat} {a0 : Option Addr} {len cap : Nat} {d : DataW H} {p : List MemPlace}
    (hf : DataW.trod enc Try.prog W 0 (fun _ => true) true fuel 26 (Value.slice a0 len cap).cells.toList = some (d, p)) :
    ∃ Z : List Int, Z.length = len ∧ (a0 = none → Z = [] ∧ len = 0 ∧ cap = 0) ∧ (∀ ad, a0 = some ad → ∀ t, t < Z.length → W.cell? (ad.add t) = some (.int .i64 (Z.getD t 0))) ∧
      (∀ n ∈ Z, (Lit.int .i64 n).wf = true) ∧ ((d = .nil ∧ len = 0) ∨ ∃ sp, d = .slice (lits .i64 Z) sp) := by
  rcases open_ints Try.underlying26 Try.underlying3 cellsInt hf with ⟨hcs, hx⟩ | ⟨a, len', cap', zs, hcs, _, hl, hm, hz, hx, hcell, hwz⟩
  · simp [Value.cells] at hcs
    obtain ⟨rfl, rfl, rfl⟩ := hcs
    simp only [Prod.mk.injEq] at hx
    obtain ⟨rfl, rfl⟩ := hx
    exact ⟨[], rfl, fun _ => ⟨rfl, rfl, rfl⟩, (fun ad h => by cases h), (fun n hn => by cases hn), Or.inl ⟨rfl, rfl⟩⟩
  · simp [Value.cells] at hcs
    obtain ⟨rfl, rfl, rfl⟩ := hcs
    simp only [Prod.mk.injEq] at hx
    obtain ⟨rfl, rfl⟩ := hx
    simp only [if_true] at hz
    refine ⟨zs.take len, (by simp; omega), (fun h => by cases h), fun ad h t ht => ?_, fun n hn => hwz n (List.mem_of_mem_take hn), Or.inr ⟨_, rfl⟩⟩
    obtain rfl := Option.some.inj h
    simp at ht
    have h1 : t < len := by omega
    have h2 : t < zs.length := by omega
    rw [hcell t h2]
    simp [List.getD, h1, h2]

theorem is_some {W : World} {ad : Addr} {cap : Nat} {Z : List Int} (h : ∀ t, t < Z.length → W.cell? (ad.add t) = some (.int .i64 (Z.getD t 0))) : IS W (.slice (some ad) Z.length cap) Z := by
  rcases Nat.eq_zero_or_pos Z.length with c | c
  · exact ⟨some ad, 0, 0, cap, rfl, fun h => by omega, fun i hi => by omega, fun h => by omega⟩
  · obtain ⟨b, off, rfl, hc⟩ := ints_at h c
    exact ⟨some ⟨b, off, none⟩, b, off, cap, rfl, fun _ => rfl, hc, fun _ => World.block_lt_of_cell? _ _ (hc 0 c)⟩

theorem cells_some {W : World} {ad : Addr} {Z : List Int} (h : ∀ t, t < Z.length → W.cell? (ad.add t) = some (.int .i64 (Z.getD t 0))) : ∀ j u, (Z.map fun x : Int => Value.int .i64 x)[j]? = some u → W.cell? (ad.add j) = some u := by
  intro j u hj
  have hl : j < Z.length := by
    rcases Nat.lt_or_ge j Z.length with c | c
    · exact c
    · rw [List.getElem?_eq_none (by simpa using c)] at hj; cases hj
  rw [h j hl, ← hj]
  simp [hl]

set_option maxRecDepth 100000 in
theorem lifted (os : Os) (started : os.Started) (H : Type) (enc : TypeId × Value → H) :
    ReturnsInHanded {} Try.checked os 5 .any (Rows.equationCoinsSpec.pre6 enc Try.prog Try.f5 Rows.equationCoinsRow.domain false) (Rows.equationCoinsSpec.post enc Try.prog Try.f5 false true false false) := by
  refine returnsInHanded_of_change_sized (C := Try.checked) own started (by kernel_rfl) Try.func5
    (ChangeSpec.witness6 (enc := enc) (C := Try.checked) false ⟨#[], #[.slice none 0 0], []⟩ 8 (by kernel_rfl) (by kernel_rfl) (by kernel_rfl) (by kernel_rfl)) ?_
  intro W base args ds gs before hval0 hW _ hsz0 _
  have hsz : (DataW.weightsEach Try.prog (Try.f5.params.toList ++ Rows.equationCoinsSpec.plain.varTypes Try.prog) (ds ++ gs)).all (· ≤ reachBytes) = true := hsz0
  clear hsz0
  have hval : ∀ (j : Nat) t v, Try.f5.params[j]? = some t → args[j]? = some v → Value.okWide Try.prog W .any base t v := hval0
  have hW' := hW
  obtain ⟨p, q, hA0, hV, rfl, _, _⟩ := hW
  have hA : DataW.TrodAll enc Try.prog W 0 (fun _ => true) true Try.f5.params.toList args.toList ds p := hA0
  rw [Try.params5] at hA hval hsz
  obtain ⟨v0, vs0, d0, ds0, p0, q0, hargs, rfl, rfl, h0, r0⟩ := trodAll_cons hA
  obtain ⟨rfl, rfl, rfl⟩ := trodAll_nil r0
  obtain rfl : args = #[v0] := by cases args; simp_all
  obtain ⟨rfl, rfl⟩ := trodVars_none hV
  obtain ⟨a0, la, ca, rfl⟩ := okWide_slice Try.underlying26 (hval 0 26 v0 rfl rfl)
  have h0k := h0
  obtain ⟨fa, hfa⟩ := h0
  clear hA0 hval0
  simp only [List.append_nil] at hW'
  have hlt : ∀ x ∈ p0, x.block < W.heap.size := fun x hx => by simpa using hW'.lt x (by simpa using hx)
  obtain ⟨A, hAl, haN, hca, hwA, hdA⟩ := opened hfa
  have ra : A.length * 8 ≤ 140737488351232 := by
    rcases hdA with ⟨_, h⟩ | ⟨sa, h⟩
    · rw [hAl, h]; decide
    · have := sized_slice hsz (j := 0) (t := 26) (e := 3) rfl (by rw [h]; rfl) Try.underlying26
      rw [bytesInt] at this
      simp only [lits, List.length_map, reachBytes] at this
      omega
  have fin : ∀ (e : Ending) (W' : World), (e = .returned (.bool true) ∧ Below W.heap.size W W') →
      ∃ v, e = Ending.returned v ∧ Rows.equationCoinsSpec.post enc Try.checked.prog Try.f5 false true false false W #[.slice a0 la ca] v W' := by
    rintro e W' ⟨rfl, hnx⟩
    exact ⟨_, rfl, _, _, _, [], _, [], hW', trodAll_cons_mk (shut_bool Try.underlying4 _) trodAll_mk0, trodAll_cons_mk (Below.trod laidOut (by kernel_rfl) (of_decide_eq_true (by kernel_rfl)) h0k hnx (fun x hx => hlt x hx)) trodAll_mk0, rfl, hnx.frame _, fun h => by cases h⟩
  subst hAl
  cases a0 with
  | none =>
    obtain ⟨rfl, -, rfl⟩ := haN rfl
    exact (co_nil W).mono fin
  | some ad => exact (equation_coins ad ca A W ra (cells_some (hca ad rfl)) (is_some (hca ad rfl))).mono fin

theorem over : Rows.equationCoinsRow.holds Try.pinned (OpenSpec.ofChange Rows.equationCoinsSpec) :=
  OpenClaim.holds_of_wide 5 Try.f5 rfl rfl rfl rfl rfl rfl rfl ⟨rfl, rfl, rfl, rfl, rfl⟩ rfl rfl rfl rfl rfl (by kernel_rfl) Try.func5 (by kernel_rfl)
    (of_decide_eq_true (by kernel_rfl)) (by unfold Func.isWrapper; first | (rw [if_pos (by decide +kernel)]; kernel_rfl) | (rw [if_neg (by decide +kernel)]; exact ⟨rfl, rfl⟩))
    (fun os started H enc _ => lifted os started H enc)

/-- ████ THE STATEMENT ████ -/
theorem proved : Rows.EquationCoinsSaid :=
  over
#print axioms proved
end Go.Proofs.Ytcbepaionliepaa.equationCoins
