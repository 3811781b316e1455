/- Proved: whatever arguments are given (5 ints, 3 points, on the curve or not), CurveGroup returns true, and all that was in memory before the call is as it was. No conditions beyond the row's own (the table of math/bits as the program lays it, tied by the card). Written by own3.py. -/
import Derived.Test.YtbeceimopamllaaDoorRows
import Derived.Test.YtbeceimopamllaaDoorCards
import Derived.Test.YtbeceimopamllaaDoorTie
import Derived.Test.YtbeceimopamllaaDoorCurveGroupWalk
import Derived.WalkKit
import Derived.ProofKit
import Derived.OpenShut
import Derived.LaidMore
import Derived.Stop.Joined
import Derived.SevenTiedAt
import Derived.Deep.Slices
set_option maxRecDepth 100000
namespace Go.Proofs.YtbeceimopamllaaDoor.curveGroup
open Go.ChangeShapes Go.WideShapes Go.ChangeAt Go.RowKit Go.Deep
set_option linter.unusedVariables false

theorem own : ownKnob Tryd.prog.godebug = none := by kernel_rfl
theorem laidOut : laidOutB Tryd.prog = true := by kernel_rfl
theorem cellsU8 : Tryd.prog.cellsOf 5 = 1 := by kernel_rfl
theorem cellsTab : Tryd.prog.cellsOf 106 = 64 := by kernel_rfl
theorem gTab : Tryd.prog.globalNamed "math/bits.deBruijn64tab" = some 0 := by kernel_rfl
theorem tTab : (Tryd.prog.globals[0]?).map (·.type) = some 106 := by kernel_rfl

theorem door_met (os : Os) (args : Array Value) : laidMetH Tryd.prog Rows.curveGroupRow.laid ((World.doorLaid Tryd.prog 2000 os).forCall (fun _ _ => 0) ⟨#[], args, []⟩).memory :=
  laidMetH_of_parts3 (fuel := 8) (laidMet_of_run' 8 (by kernel_rfl) (by kernel_rfl)) (by kernel_rfl) (by kernel_rfl)

theorem laid_list {H : Type} : (Rows.laid_math_bits_deBruijn64tab : DataW H) = .agg (Lib.deBruijn64tab.map fun k : Nat => .lit (.int .u8 (k : Int))) := rfl

theorem of_laid {W : World} (h : laidMetH Tryd.prog Rows.curveGroupRow.laid W) : Tb W := by
  rw [MakeChecks.laidMetH_plain _ _ _ (by kernel_rfl)] at h
  obtain ⟨ps, ⟨g0, t0, cs0, f0, p0, q0, hg0, ht0, hv0, hd0, _, _⟩, _, _⟩ := h
  obtain rfl := Option.some.inj (gTab.symm.trans hg0)
  obtain rfl := Option.some.inj (tTab.symm.trans ht0)
  obtain ⟨xs, m, rfl, hy, hl, hxl, hf⟩ := DataW.trod_array Tryd.underlying106 hd0
  have c := World.var?_cell hg0 hv0
  rw [cellsU8] at hf
  rw [cellsTab] at hl
  simp only [Prod.mk.injEq] at hy
  have hy1 := hy.1
  rw [laid_list, DataW.agg.injEq] at hy1
  intro j hj
  have hj64 : j < 64 := hj
  have f := hf j hj64
  rw [List.getElem?_eq_getElem (by omega)] at f
  have hdr : (cs0.toList.drop (j * 1)).take 1 = [cs0.toList[j]'(by omega)] := by
    rw [Nat.mul_one, List.drop_eq_getElem_cons (by omega)]; rfl
  rw [hdr] at f
  obtain ⟨n, e0, e1, _⟩ := DataW.trod_int Tryd.underlying5 f
  have h3 := congrArg (fun l => l[j]?) hy1
  simp only [List.getElem?_map, List.getElem?_eq_getElem (show j < xs.length by omega), List.getElem?_eq_getElem hj, Option.map_some, e1, Option.some.injEq, DataW.lit.injEq, Lit.int.injEq, true_and] at h3
  have e2 : cs0.toList[j]'(by omega) = .int .u8 n := by simpa using e0
  rw [c j, ← Array.getElem?_toList, List.getElem?_eq_getElem (by omega), e2, List.getD_eq_getElem?_getD, List.getElem?_eq_getElem hj, ← h3]
  rfl

theorem cellsPt : Tryd.prog.cellsOf 30 = 3 := by kernel_rfl
theorem cellsI : Tryd.prog.cellsOf 3 = 1 := by kernel_rfl
theorem cellsB : Tryd.prog.cellsOf 4 = 1 := by kernel_rfl
theorem open_pt {H : Type} {enc : TypeId × Value → H} {w : World} {sh : Bool} {fuel : Nat} {cs : List Value} {y : DataW H × List MemPlace}
    (h : DataW.trod enc Tryd.prog w 0 (fun _ => true) sh fuel 30 cs = some y) : ∃ x : EC.Pn, cs = [.int .i64 x.x, .int .i64 x.y, .bool x.far] := by
  obtain ⟨xs, m, rfl, hy, hl, hxl, hf⟩ := DataW.trod_struct Tryd.underlying30 h
  rw [cellsPt] at hl
  match cs, hl with
  | [v0, v1, v2], _ =>
    match xs, hxl with
    | [x0, x1, x2], _ =>
      have f0 := hf 0 _ rfl
      have f1 := hf 1 _ rfl
      have f2 := hf 2 _ rfl
      replace f0 : DataW.trod enc Tryd.prog w 0 (fun _ => true) sh m 3 (([v0, v1, v2].drop 0).take (Tryd.prog.cellsOf 3)) = some x0 := f0
      replace f1 : DataW.trod enc Tryd.prog w 0 (fun _ => true) sh m 3 (([v0, v1, v2].drop 1).take (Tryd.prog.cellsOf 3)) = some x1 := f1
      replace f2 : DataW.trod enc Tryd.prog w 0 (fun _ => true) sh m 4 (([v0, v1, v2].drop 2).take (Tryd.prog.cellsOf 4)) = some x2 := f2
      rw [cellsI] at f0 f1
      rw [cellsB] at f2
      replace f0 : DataW.trod enc Tryd.prog w 0 (fun _ => true) sh m 3 [v0] = some x0 := f0
      replace f1 : DataW.trod enc Tryd.prog w 0 (fun _ => true) sh m 3 [v1] = some x1 := f1
      replace f2 : DataW.trod enc Tryd.prog w 0 (fun _ => true) sh m 4 [v2] = some x2 := f2
      obtain ⟨a, e0, _, _⟩ := DataW.trod_int Tryd.underlying3 f0
      obtain ⟨b, e1, _, _⟩ := DataW.trod_int Tryd.underlying3 f1
      obtain ⟨c, e2, _⟩ := DataW.trod_bool Tryd.underlying4 f2
      simp only [List.cons.injEq, and_true] at e0 e1 e2
      subst e0 e1 e2
      exact ⟨⟨a, b, c⟩, rfl⟩

set_option maxHeartbeats 2000000 in
set_option maxRecDepth 100000 in
theorem lifted (os : Os) (started : os.Started) (H : Type) (enc : TypeId × Value → H) :
    ReturnsInHanded {} Tryd.checked os 5 .any (fun w args => (Rows.curveGroupSpec.pre enc Tryd.prog Tryd.f5 [] false w args ∧ laidMetH Tryd.prog Rows.curveGroupRow.laid w) ∧ sizedMet enc Tryd.prog Tryd.f5 (OpenSpec.ofChange Rows.curveGroupSpec) false w args)
      (Rows.curveGroupSpec.post enc Tryd.prog Tryd.f5 false true false false) := by
  refine returnsInHanded_of_change_and (C := Tryd.checked) (X := fun w _ => laidMetH Tryd.prog Rows.curveGroupRow.laid w) (fun _ _ _ hh h => h.of_heap hh) own started (by kernel_rfl) Tryd.func5
    (ChangeSpec.witness_shaped (enc := enc) (C := Tryd.checked) (os := os) (X := fun w _ => laidMetH Tryd.prog Rows.curveGroupRow.laid w) false (World.doorLaid Tryd.prog 2000 os) #[.int .i64 0, .int .i64 0, .int .i64 0, .agg #[.int .i64 0, .int .i64 0, .bool false], .agg #[.int .i64 0, .int .i64 0, .bool false], .agg #[.int .i64 0, .int .i64 0, .bool false], .int .i64 0, .int .i64 0] 8 rfl (World.shaped_of_RefB (by kernel_rfl) (by kernel_rfl)) (by kernel_rfl) (by kernel_rfl) (by kernel_rfl) (door_met os _)) ?_
  intro W base args ds gs before hval0 hW _ _ hL _
  have hval : ∀ (j : Nat) t v, Tryd.f5.params[j]? = some t → args[j]? = some v → Value.okWide Tryd.prog W .any base t v := hval0
  have hW' := hW
  obtain ⟨p, q, hA0, hV, rfl, hfz, hnd⟩ := hW
  have hA : DataW.TrodAll enc Tryd.prog W 0 (fun _ => true) true Tryd.f5.params.toList args.toList ds p := hA0
  rw [Tryd.params5] at hA hval
  obtain ⟨v0, vs0, d0, ds0, p0, q0, hargs, rfl, rfl, h0, r0⟩ := trodAll_cons hA
  obtain ⟨v1, vs1, d1, ds1, p1, q1, rfl, rfl, rfl, h1, r1⟩ := trodAll_cons r0
  obtain ⟨v2, vs2, d2, ds2, p2, q2, rfl, rfl, rfl, h2, r2⟩ := trodAll_cons r1
  obtain ⟨v3, vs3, d3, ds3, p3, q3, rfl, rfl, rfl, h3, r3⟩ := trodAll_cons r2
  obtain ⟨v4, vs4, d4, ds4, p4, q4, rfl, rfl, rfl, h4, r4⟩ := trodAll_cons r3
  obtain ⟨v5, vs5, d5, ds5, p5, q5, rfl, rfl, rfl, h5, r5⟩ := trodAll_cons r4
  obtain ⟨v6, vs6, d6, ds6, p6, q6, rfl, rfl, rfl, h6, r6⟩ := trodAll_cons r5
  obtain ⟨v7, vs7, d7, ds7, p7, q7, rfl, rfl, rfl, h7, r7⟩ := trodAll_cons r6
  obtain ⟨rfl, rfl, rfl⟩ := trodAll_nil r7
  obtain rfl : args = #[v0, v1, v2, v3, v4, v5, v6, v7] := by cases args; simp_all
  obtain ⟨rfl, rfl⟩ := trodVars_none hV
  obtain ⟨a0, rfl, rfl, rfl, w0⟩ := open_int Tryd.underlying3 (hval 0 3 v0 rfl rfl) h0
  obtain ⟨a1, rfl, rfl, rfl, w1⟩ := open_int Tryd.underlying3 (hval 1 3 v1 rfl rfl) h1
  obtain ⟨a2, rfl, rfl, rfl, w2⟩ := open_int Tryd.underlying3 (hval 2 3 v2 rfl rfl) h2
  have h3' := h3
  obtain ⟨cs3, rfl, hs3⟩ := okWide_struct Tryd.underlying30 (hval 3 30 v3 rfl rfl)
  obtain ⟨fuel3, hf3⟩ := h3'
  obtain ⟨a3, hx3⟩ := open_pt hf3
  have hy3 : cs3 = #[.int .i64 a3.x, .int .i64 a3.y, .bool a3.far] := by
    cases cs3; simpa [Value.cells] using hx3
  subst hy3
  have h4' := h4
  obtain ⟨cs4, rfl, hs4⟩ := okWide_struct Tryd.underlying30 (hval 4 30 v4 rfl rfl)
  obtain ⟨fuel4, hf4⟩ := h4'
  obtain ⟨a4, hx4⟩ := open_pt hf4
  have hy4 : cs4 = #[.int .i64 a4.x, .int .i64 a4.y, .bool a4.far] := by
    cases cs4; simpa [Value.cells] using hx4
  subst hy4
  have h5' := h5
  obtain ⟨cs5, rfl, hs5⟩ := okWide_struct Tryd.underlying30 (hval 5 30 v5 rfl rfl)
  obtain ⟨fuel5, hf5⟩ := h5'
  obtain ⟨a5, hx5⟩ := open_pt hf5
  have hy5 : cs5 = #[.int .i64 a5.x, .int .i64 a5.y, .bool a5.far] := by
    cases cs5; simpa [Value.cells] using hx5
  subst hy5
  obtain ⟨a6, rfl, rfl, rfl, w6⟩ := open_int Tryd.underlying3 (hval 6 3 v6 rfl rfl) h6
  obtain ⟨a7, rfl, rfl, rfl, w7⟩ := open_int Tryd.underlying3 (hval 7 3 v7 rfl rfl) h7
  have hg := of_laid hL
  clear hA0 hval0 hL
  simp only [List.append_nil, List.nil_append] at hW'
  refine (curve_group a0 a1 a2 a3 a4 a5 a6 a7 W hg).mono fun e W' ⟨he, hb⟩ => ?_
  subst he
  have hlt : ∀ z ∈ p3 ++ (p4 ++ p5), z.block < W.heap.size := fun z hz => by simpa using hW'.lt z (by simpa using hz)
  exact ⟨_, rfl, _, _, _, [], p3 ++ (p4 ++ p5), [], hW', trodAll_cons_mk (shut_bool Tryd.underlying4 _) trodAll_mk0, (by have k := (trodAll_cons_mk (shut_int Tryd.underlying3 w0) (trodAll_cons_mk (shut_int Tryd.underlying3 w1) (trodAll_cons_mk (shut_int Tryd.underlying3 w2) (trodAll_cons_mk (Below.trod laidOut (by kernel_rfl) (of_decide_eq_true (by kernel_rfl)) h3 hb (fun z hz => hlt z (List.mem_append_left _ hz))) (trodAll_cons_mk (Below.trod laidOut (by kernel_rfl) (of_decide_eq_true (by kernel_rfl)) h4 hb (fun z hz => hlt z (List.mem_append_right _ (List.mem_append_left _ hz)))) (trodAll_cons_mk (Below.trod laidOut (by kernel_rfl) (of_decide_eq_true (by kernel_rfl)) h5 hb (fun z hz => hlt z (List.mem_append_right _ (List.mem_append_right _ (hz))))) (trodAll_cons_mk (shut_int Tryd.underlying3 w6) (trodAll_cons_mk (shut_int Tryd.underlying3 w7) trodAll_mk0)))))))); simp only [List.append_nil, List.nil_append] at k; exact k), rfl, hb.frame _, fun h => by cases h⟩

theorem over : Rows.CurveGroupSaid :=
  OpenClaim.holds_of_wide 5 Tryd.f5 rfl rfl rfl rfl rfl rfl rfl ⟨rfl, rfl, rfl, rfl, rfl⟩ rfl rfl rfl rfl rfl (by kernel_rfl) Tryd.func5 (by kernel_rfl)
    (of_decide_eq_true (by kernel_rfl)) (by unfold Func.isWrapper; first | (rw [if_pos (by decide +kernel)]; kernel_rfl) | (rw [if_neg (by decide +kernel)]; exact ⟨rfl, rfl⟩))
    (fun os started H enc _ => lifted os started H enc)

/-- ████ THE STATEMENT ████ -/
theorem proved : Rows.CurveGroupCardSaid :=
  Claim7.holds_tied_plain_at .later [] [.data] true Rows.curveGroupCard.stood.harness false
    over (fun _ h => by cases h) (by kernel_rfl) (fun _ h => by cases h) curveGroup_row_tie rfl ⟨rfl, rfl⟩ (by kernel_rfl) rfl
    (fun f fn hf hfn => by
      obtain rfl : f = 5 := Option.some.inj ((show Tryd.prog.funcNamed "arithmetica/arithmeticalaw.CurveGroup" = some 5 by kernel_rfl).symm.trans hf) |>.symm
      obtain rfl : fn = Tryd.f5 := (Option.some.inj (Tryd.func5.symm.trans hfn)).symm
      exact ⟨by kernel_rfl, fun j t ht => by
        rw [Tryd.params5] at ht
        have h3 : t = 3 ∨ t = 30 := by
          rcases j with _ | _ | _ | _ | _ | _ | _ | _ | j
          · exact .inl (by simpa using ht.symm)
          · exact .inl (by simpa using ht.symm)
          · exact .inl (by simpa using ht.symm)
          · exact .inr (by simpa using ht.symm)
          · exact .inr (by simpa using ht.symm)
          · exact .inr (by simpa using ht.symm)
          · exact .inl (by simpa using ht.symm)
          · exact .inl (by simpa using ht.symm)
          · simp at ht
        rcases h3 with rfl | rfl
        · exact (show Tryd.prog.wantsStandIn 3 = false by kernel_rfl)
        · exact (show Tryd.prog.wantsStandIn 30 = false by kernel_rfl)⟩)
    (by kernel_rfl)
#print axioms proved
end Go.Proofs.YtbeceimopamllaaDoor.curveGroup
