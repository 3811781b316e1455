/- FormGenera, out of GeneraIs: whatever is given, it returns true, and all that was in memory before the call is as it was. No conditions beyond the row's own. Written by own.py. -/
import Derived.Test.YtijkanilpblogaeRows
import Derived.Test.YtijkanilpblogaeFormGeneraWalk
import Derived.Test.YtijkanilpblogaeQgWd
import Derived.WalkKit
import Derived.ProofKit
import Derived.OpenShut
set_option maxRecDepth 100000
namespace Go.Proofs.Ytijkanilpblogae.formGenera
open Go.ChangeShapes Go.WideShapes Go.ChangeAt Go.RowKit
set_option linter.unusedVariables false

theorem own : ownKnob Try.prog.godebug = none := by kernel_rfl
theorem laidOut : laidOutB Try.prog = true := by kernel_rfl
theorem cellsForm : Try.prog.cellsOf 32 = 3 := by kernel_rfl
theorem cellsInt : Try.prog.cellsOf 3 = 1 := by kernel_rfl
theorem open_form {H : Type} {enc : TypeId × Value → H} {w : World} {sh : Bool} {fuel : Nat} {cs : List Value} {y : DataW H × List MemPlace}
    (h : DataW.trod enc Try.prog w 0 (fun _ => true) sh fuel 32 cs = some y) : ∃ x : Qf, cs = [.int .i64 x.a, .int .i64 x.b, .int .i64 x.c] := by
  obtain ⟨xs, m, rfl, hy, hl, hxl, hf⟩ := DataW.trod_struct Try.underlying32 h
  rw [cellsForm] at hl
  match cs, hl with
  | [v0, v1, v2], _ =>
    match xs, hxl with
    | [x0, x1, x2], _ =>
      have f0 := hf 0 _ rfl
      have f1 := hf 1 _ rfl
      have f2 := hf 2 _ rfl
      replace f0 : DataW.trod enc Try.prog w 0 (fun _ => true) sh m 3 (([v0, v1, v2].drop 0).take (Try.prog.cellsOf 3)) = some x0 := f0
      replace f1 : DataW.trod enc Try.prog w 0 (fun _ => true) sh m 3 (([v0, v1, v2].drop 1).take (Try.prog.cellsOf 3)) = some x1 := f1
      replace f2 : DataW.trod enc Try.prog w 0 (fun _ => true) sh m 3 (([v0, v1, v2].drop 2).take (Try.prog.cellsOf 3)) = some x2 := f2
      rw [cellsInt] at f0 f1 f2
      replace f0 : DataW.trod enc Try.prog w 0 (fun _ => true) sh m 3 [v0] = some x0 := f0
      replace f1 : DataW.trod enc Try.prog w 0 (fun _ => true) sh m 3 [v1] = some x1 := f1
      replace f2 : DataW.trod enc Try.prog w 0 (fun _ => true) sh m 3 [v2] = some x2 := f2
      obtain ⟨a, e0, _, _⟩ := DataW.trod_int Try.underlying3 f0
      obtain ⟨b, e1, _, _⟩ := DataW.trod_int Try.underlying3 f1
      obtain ⟨c, e2, _, _⟩ := DataW.trod_int Try.underlying3 f2
      simp only [List.cons.injEq, and_true] at e0 e1 e2
      subst e0 e1 e2
      exact ⟨⟨a, b, c⟩, rfl⟩

set_option maxRecDepth 100000 in
theorem lifted (G : GeneraIs (fun _ => True)) (os : Os) (started : os.Started) (H : Type) (enc : TypeId × Value → H) :
    ReturnsInHanded {} Try.checked os 6 .any (Rows.formGeneraSpec.pre6 enc Try.prog Try.f6 Rows.formGeneraRow.domain false) (Rows.formGeneraSpec.post enc Try.prog Try.f6 false true false false) := by
  refine returnsInHanded_of_change (C := Try.checked) own started (by kernel_rfl) Try.func6
    (ChangeSpec.witness6 (enc := enc) (C := Try.checked) false ⟨#[], #[.agg #[.int .i64 0, .int .i64 0, .int .i64 0]], []⟩ 8 (by kernel_rfl) (by kernel_rfl) (by kernel_rfl) (by kernel_rfl)) ?_
  intro W base args ds gs before hval0 hW hcnd _
  have hval : ∀ (j : Nat) t v, Try.f6.params[j]? = some t → args[j]? = some v → Value.okWide Try.prog W .any base t v := hval0
  have hW' := hW
  obtain ⟨p, q, hA0, hV, rfl, hfz, hnd⟩ := hW
  have hA : DataW.TrodAll enc Try.prog W 0 (fun _ => true) true Try.f6.params.toList args.toList ds p := hA0
  rw [Try.params6] at hA hval
  obtain ⟨v0, vs0, d0, ds0, p0, q0, hargs, rfl, rfl, h0, r0⟩ := trodAll_cons hA
  obtain ⟨rfl, rfl, rfl⟩ := trodAll_nil r0
  obtain rfl : args = #[v0] := by cases args; simp_all
  obtain ⟨rfl, rfl⟩ := trodVars_none hV
  have h0' := h0
  obtain ⟨cs0, rfl, hs0⟩ := okWide_struct Try.underlying32 (hval 0 32 v0 rfl rfl)
  obtain ⟨fuel0, hf0⟩ := h0'
  obtain ⟨x0, hx0⟩ := open_form hf0
  have hx0' : cs0 = #[.int .i64 x0.a, .int .i64 x0.b, .int .i64 x0.c] := by
    cases cs0; simpa [Value.cells] using hx0
  subst hx0'
  clear hA0 hval0
  simp only [List.append_nil] at hW'
  refine (fge_start (fun _ => True) G x0 W trivial).mono fun e W' ⟨he, hb⟩ => ?_
  subst he
  have hlt : ∀ z ∈ p0, z.block < W.heap.size := fun z hz => by simpa using hW'.lt z (by simpa using hz)
  exact ⟨_, rfl, _, _, _, [], p0, [], hW', trodAll_cons_mk (shut_bool Try.underlying4 _) trodAll_mk0, (trodAll_mk1 (Below.trod laidOut (by kernel_rfl) (of_decide_eq_true (by kernel_rfl)) h0 hb (fun z hz => hlt z (hz)))), rfl, hb.frame _, fun h => by cases h⟩

theorem over (G : GeneraIs (fun _ => True)) : Rows.formGeneraRow.holds Try.pinned (OpenSpec.ofChange Rows.formGeneraSpec) :=
  OpenClaim.holds_of_wide 6 Try.f6 rfl rfl rfl rfl rfl rfl rfl ⟨rfl, rfl, rfl, rfl, rfl⟩ rfl rfl rfl rfl rfl (by kernel_rfl) Try.func6 (by kernel_rfl)
    (of_decide_eq_true (by kernel_rfl)) (by unfold Func.isWrapper; first | (rw [if_pos (by decide +kernel)]; kernel_rfl) | (rw [if_neg (by decide +kernel)]; exact ⟨rfl, rfl⟩))
    (fun os started H enc _ => lifted G os started H enc)

/-- The statement, where the code is as asked. -/
theorem said_of (G : GeneraIs (fun _ => True)) : Rows.FormGeneraSaid := over G
/-- The statement. -/
theorem proved : Rows.FormGeneraSaid := said_of genera_is
#print axioms proved
end Go.Proofs.Ytijkanilpblogae.formGenera
