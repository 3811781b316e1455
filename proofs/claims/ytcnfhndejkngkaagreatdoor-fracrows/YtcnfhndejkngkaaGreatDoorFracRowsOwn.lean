/- Proved: whatever int d is given, FracRows returns true, and all that was in memory before the call is as it was. No conditions beyond the row's own (the tables of math/bits and of internal/strconv as the program lays them, tied by the card). -/
import Derived.Test.YtcnfhndejkngkaaGreatDoorRows
import Derived.Test.YtcnfhndejkngkaaGreatDoorCards
import Derived.Test.YtcnfhndejkngkaaGreatDoorTie
import Derived.Test.YtcnfhndejkngkaaGreatDoorJpAd
import Derived.WalkKit
import Derived.ProofKit
import Derived.OpenShut
import Derived.LaidMore
import Derived.Stop.Joined
import Derived.SevenTiedAt
import Derived.Deep.Slices
set_option maxRecDepth 100000
namespace Go.Proofs.YtcnfhndejkngkaaGreatDoor.fracRows
open Go.ChangeShapes Go.WideShapes Go.ChangeAt Go.RowKit Go.Deep
set_option linter.unusedVariables false

theorem own : ownKnob Tryz.prog.godebug = none := by kernel_rfl
theorem laidOut : laidOutB Tryz.prog = true := by kernel_rfl
theorem cellsU64 : Tryz.prog.cellsOf 94 = 1 := by kernel_rfl
theorem cellsTab : Tryz.prog.cellsOf 192 = 20 := by kernel_rfl
theorem gTab : Tryz.prog.globalNamed "internal/strconv.uint64pow10" = some 3 := by kernel_rfl
theorem tTab : (Tryz.prog.globals[3]?).map (·.type) = some 192 := by kernel_rfl

theorem door_met (os : Os) (args : Array Value) : laidMetH Tryz.prog Rows.fracRowsRow.laid ((World.doorLaid Tryz.prog 2000 os).forCall (fun _ _ => 0) ⟨#[], args, []⟩).memory :=
  laidMetH_of_parts3 (fuel := 8) (laidMet_of_run' 8 (by kernel_rfl) (by kernel_rfl)) (by kernel_rfl) (by kernel_rfl)

theorem laid_list {H : Type} : (Rows.laid_internal_strconv_uint64pow10 : DataW H) = Lib.tabData .u64 Lib.pow10Tab := rfl

theorem of_laid {W : World} (h : laidMetH Tryz.prog Rows.fracRowsRow.laid W) : Tq W := by
  rw [MakeChecks.laidMetH_plain _ _ _ (by kernel_rfl)] at h
  obtain ⟨ps, ⟨ga, ta, csa, fa, pa, qa, _, _, _, _, hr, _⟩, _, _⟩ := h
  obtain ⟨gb, tb, csb, fb, pb, qb, _, _, _, _, hs, _⟩ := hr
  obtain ⟨g0, t0, cs0, f0, p0, q0, hg0, ht0, hv0, hd0, _, _⟩ := hs
  obtain rfl := Option.some.inj (gTab.symm.trans hg0)
  obtain rfl := Option.some.inj (tTab.symm.trans ht0)
  rw [laid_list] at hd0
  unfold Tq Lib.TabIs
  rw [hv0, ← Lib.cells_of_tab Tryz.underlying192 Tryz.underlying94 cellsU64 cellsTab hd0]

theorem cellsU8 : Tryz.prog.cellsOf 5 = 1 := by kernel_rfl
theorem cellsTabB : Tryz.prog.cellsOf 204 = 64 := by kernel_rfl
theorem gTabB : Tryz.prog.globalNamed "math/bits.deBruijn64tab" = some 5 := by kernel_rfl
theorem tTabB : (Tryz.prog.globals[5]?).map (·.type) = some 204 := by kernel_rfl

theorem laid_listB {H : Type} : (Rows.laid_math_bits_deBruijn64tab : DataW H) = .agg (Lib.deBruijn64tab.map fun k : Nat => .lit (.int .u8 (k : Int))) := rfl

theorem of_laidB {W : World} (h : laidMetH Tryz.prog Rows.fracRowsRow.laid W) : Tb W := by
  rw [MakeChecks.laidMetH_plain _ _ _ (by kernel_rfl)] at h
  obtain ⟨ps, ⟨ga, ta, csa, fa, pa, qa, _, _, _, _, hr, _⟩, _, _⟩ := h
  obtain ⟨g0, t0, cs0, f0, p0, q0, hg0, ht0, hv0, hd0, _, _⟩ := hr
  obtain rfl := Option.some.inj (gTabB.symm.trans hg0)
  obtain rfl := Option.some.inj (tTabB.symm.trans ht0)
  obtain ⟨xs, m, rfl, hy, hl, hxl, hf⟩ := DataW.trod_array Tryz.underlying204 hd0
  have c := World.var?_cell hg0 hv0
  rw [cellsU8] at hf
  rw [cellsTabB] at hl
  simp only [Prod.mk.injEq] at hy
  have hy1 := hy.1
  rw [laid_listB, DataW.agg.injEq] at hy1
  intro j hj
  have hj64 : j < 64 := hj
  have f := hf j hj64
  rw [List.getElem?_eq_getElem (by omega)] at f
  have hdr : (cs0.toList.drop (j * 1)).take 1 = [cs0.toList[j]'(by omega)] := by
    rw [Nat.mul_one, List.drop_eq_getElem_cons (by omega)]; rfl
  rw [hdr] at f
  obtain ⟨n, e0, e1, _⟩ := DataW.trod_int Tryz.underlying5 f
  have h3 := congrArg (fun l => l[j]?) hy1
  simp only [List.getElem?_map, List.getElem?_eq_getElem (show j < xs.length by omega), List.getElem?_eq_getElem hj, Option.map_some, e1, Option.some.injEq, DataW.lit.injEq, Lit.int.injEq, true_and] at h3
  have e2 : cs0.toList[j]'(by omega) = .int .u8 n := by simpa using e0
  rw [c j, ← Array.getElem?_toList, List.getElem?_eq_getElem (by omega), e2, List.getD_eq_getElem?_getD, List.getElem?_eq_getElem hj, ← h3]
  rfl


theorem cellsFrac : Tryz.prog.cellsOf 23 = 2 := by kernel_rfl
theorem cellsInt : Tryz.prog.cellsOf 3 = 1 := by kernel_rfl
theorem open_frac {H : Type} {enc : TypeId × Value → H} {w : World} {sh : Bool} {fuel : Nat} {cs : List Value} {y : DataW H × List MemPlace}
    (h : DataW.trod enc Tryz.prog w 0 (fun _ => true) sh fuel 23 cs = some y) : ∃ x : Int × Int, cs = [.int .i64 x.1, .int .i64 x.2] := by
  obtain ⟨xs, m, rfl, hy, hl, hxl, hf⟩ := DataW.trod_struct Tryz.underlying23 h
  rw [cellsFrac] at hl
  match cs, hl with
  | [v0, v1], _ =>
    match xs, hxl with
    | [x0, x1], _ =>
      have f0 := hf 0 _ rfl
      have f1 := hf 1 _ rfl
      replace f0 : DataW.trod enc Tryz.prog w 0 (fun _ => true) sh m 3 (([v0, v1].drop 0).take (Tryz.prog.cellsOf 3)) = some x0 := f0
      replace f1 : DataW.trod enc Tryz.prog w 0 (fun _ => true) sh m 3 (([v0, v1].drop 1).take (Tryz.prog.cellsOf 3)) = some x1 := f1
      rw [cellsInt] at f0 f1
      replace f0 : DataW.trod enc Tryz.prog w 0 (fun _ => true) sh m 3 [v0] = some x0 := f0
      replace f1 : DataW.trod enc Tryz.prog w 0 (fun _ => true) sh m 3 [v1] = some x1 := f1
      obtain ⟨a, e0, _, _⟩ := DataW.trod_int Tryz.underlying3 f0
      obtain ⟨b, e1, _, _⟩ := DataW.trod_int Tryz.underlying3 f1
      simp only [List.cons.injEq, and_true] at e0 e1
      subst e0 e1
      exact ⟨(a, b), rfl⟩

set_option maxRecDepth 100000 in
theorem lifted (os : Os) (started : os.Started) (H : Type) (enc : TypeId × Value → H) :
    ReturnsInHanded {} Tryz.checked os 3 .any (fun w args => (Rows.fracRowsSpec.pre enc Tryz.prog Tryz.f3 [] false w args ∧ laidMetH Tryz.prog Rows.fracRowsRow.laid w) ∧ sizedMet enc Tryz.prog Tryz.f3 (OpenSpec.ofChange Rows.fracRowsSpec) false w args)
      (Rows.fracRowsSpec.post enc Tryz.prog Tryz.f3 false true false false) := by
  refine returnsInHanded_of_change_and (C := Tryz.checked) (X := fun w _ => laidMetH Tryz.prog Rows.fracRowsRow.laid w) (fun _ _ _ hh h => h.of_heap hh) own started (by kernel_rfl) Tryz.func3
    (ChangeSpec.witness_shaped (enc := enc) (C := Tryz.checked) (os := os) (X := fun w _ => laidMetH Tryz.prog Rows.fracRowsRow.laid w) false (World.doorLaid Tryz.prog 2000 os) #[.agg #[.int .i64 0, .int .i64 0], .int .i64 0] 8 rfl (World.shaped_of_RefB (by kernel_rfl) (by kernel_rfl)) (by kernel_rfl) (by kernel_rfl) (by kernel_rfl) (door_met os _)) ?_
  intro W base args ds gs before hval0 hW _ _ hL _
  have hval : ∀ (j : Nat) t v, Tryz.f3.params[j]? = some t → args[j]? = some v → Value.okWide Tryz.prog W .any base t v := hval0
  have hW' := hW
  obtain ⟨p, q, hA0, hV, rfl, hfz, hnd⟩ := hW
  have hA : DataW.TrodAll enc Tryz.prog W 0 (fun _ => true) true Tryz.f3.params.toList args.toList ds p := hA0
  rw [Tryz.params3] at hA hval
  obtain ⟨v0, vs0, d0, ds0, p0, q0, hargs, rfl, rfl, h0, r0⟩ := trodAll_cons hA
  obtain ⟨v1, vs1, d1, ds1, p1, q1, rfl, rfl, rfl, h1, r1⟩ := trodAll_cons r0
  obtain ⟨rfl, rfl, rfl⟩ := trodAll_nil r1
  obtain rfl : args = #[v0, v1] := by cases args; simp_all
  obtain ⟨rfl, rfl⟩ := trodVars_none hV
  have h0' := h0
  obtain ⟨cs0, rfl, hs0⟩ := okWide_struct Tryz.underlying23 (hval 0 23 v0 rfl rfl)
  obtain ⟨fuel0, hf0⟩ := h0'
  obtain ⟨x0, hx0⟩ := open_frac hf0
  have hx0' : cs0 = #[.int .i64 x0.1, .int .i64 x0.2] := by
    cases cs0; simpa [Value.cells] using hx0
  subst hx0'
  obtain ⟨a1, rfl, rfl, rfl, w1⟩ := open_int Tryz.underlying3 (hval 1 3 v1 rfl rfl) h1
  have hg := And.intro (of_laid hL) (of_laidB hL)
  clear hA0 hval0 hL
  simp only [List.append_nil] at hW'
  refine (frac_rows_all x0.1 x0.2 a1 W hg.1 hg.2).mono fun e W' ⟨he, hb⟩ => ?_
  subst he
  have hlt0 : ∀ z ∈ p0, z.block < W.heap.size := fun z hz => by simpa using hW'.lt z (by simpa using hz)
  exact ⟨_, rfl, _, _, _, [], p0, [], hW', trodAll_cons_mk (shut_bool Tryz.underlying4 _) trodAll_mk0, (by have k := (trodAll_cons_mk (Below.trod laidOut (by kernel_rfl) (of_decide_eq_true (by kernel_rfl)) h0 hb (fun z hz => hlt0 z hz)) (trodAll_cons_mk (shut_int Tryz.underlying3 w1) trodAll_mk0)); simp only [List.append_nil] at k; exact k), rfl, hb.frame _, fun h => by cases h⟩

theorem over : Rows.FracRowsSaid :=
  OpenClaim.holds_of_wide 3 Tryz.f3 rfl rfl rfl rfl rfl rfl rfl ⟨rfl, rfl, rfl, rfl, rfl⟩ rfl rfl rfl rfl rfl (by kernel_rfl) Tryz.func3 (by kernel_rfl)
    (of_decide_eq_true (by kernel_rfl)) (by unfold Func.isWrapper; first | (rw [if_pos (by decide +kernel)]; kernel_rfl) | (rw [if_neg (by decide +kernel)]; exact ⟨rfl, rfl⟩))
    (fun os started H enc _ => lifted os started H enc)

/-- ████ THE STATEMENT ████ -/
theorem proved : Rows.FracRowsCardSaid :=
  Claim7.holds_tied_plain_at .later [] [.data, .data, .data] true Rows.fracRowsCard.stood.harness false
    over (fun _ h => by cases h) (by kernel_rfl) (fun _ h => by cases h) fracRows_row_tie rfl ⟨rfl, rfl⟩ (by kernel_rfl) rfl
    (fun f fn hf hfn => by
      obtain rfl : f = 3 := Option.some.inj ((show Tryz.prog.funcNamed "arithmetica/arithmeticalaw.FracRows" = some 3 by kernel_rfl).symm.trans hf) |>.symm
      obtain rfl : fn = Tryz.f3 := (Option.some.inj (Tryz.func3.symm.trans hfn)).symm
      exact ⟨by kernel_rfl, fun j t ht => by
        rw [Tryz.params3] at ht
        rcases j with _ | _ | j
        · obtain rfl : t = 23 := by simpa using ht.symm
          exact (show Tryz.prog.wantsStandIn 23 = false by kernel_rfl)
        · obtain rfl : t = 3 := by simpa using ht.symm
          exact (show Tryz.prog.wantsStandIn 3 = false by kernel_rfl)
        · simp at ht⟩)
    (by kernel_rfl)
#print axioms proved
end Go.Proofs.YtcnfhndejkngkaaGreatDoor.fracRows
