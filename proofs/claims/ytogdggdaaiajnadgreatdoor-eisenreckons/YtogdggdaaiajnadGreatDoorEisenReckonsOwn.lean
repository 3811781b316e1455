/- Proved: whatever two pairs x and y are given, EisenReckons returns true, and all that was in memory before the call is as it was. No conditions beyond the row's own (the ring and the table of math/bits as the program lays them, tied by the card). -/
import Derived.Test.YtogdggdaaiajnadGreatDoorRows
import Derived.Test.YtogdggdaaiajnadGreatDoorCards
import Derived.Test.YtogdggdaaiajnadGreatDoorTie
import Derived.Test.YtogdggdaaiajnadGreatDoorEisenReckonsWalk
import Derived.Test.YtogdggdaaiajnadGreatDoorRsA
import Derived.Test.YtogdggdaaiajnadGreatDoorEfD
import Derived.WalkKit
import Derived.ProofKit
import Derived.OpenShut
import Derived.LaidMore
import Derived.Stop.Joined
import Derived.SevenTiedAt
import Derived.Deep.Slices
set_option maxRecDepth 100000
namespace Go.Proofs.YtogdggdaaiajnadGreatDoor.eisenReckons
open Go.ChangeShapes Go.WideShapes Go.ChangeAt Go.RowKit Go.Deep
set_option linter.unusedVariables false

theorem own : ownKnob Tryz.prog.godebug = none := by kernel_rfl
theorem laidOut : laidOutB Tryz.prog = true := by kernel_rfl
theorem cellsPair : Tryz.prog.cellsOf 23 = 2 := by kernel_rfl
theorem cellsInt : Tryz.prog.cellsOf 3 = 1 := by kernel_rfl
theorem cellsRing : Tryz.prog.cellsOf 26 = 4 := by kernel_rfl
theorem gRing : Tryz.prog.globalNamed "arithmetica/arithmeticaref.EisenRing" = some 1 := by kernel_rfl
theorem tRing : (Tryz.prog.globals[1]?).map (·.type) = some 26 := by kernel_rfl

theorem door_met (os : Os) (args : Array Value) : laidMetH Tryz.prog Rows.eisenReckonsRow.laid ((World.doorLaid Tryz.prog 2000 os).forCall (fun _ _ => 0) ⟨#[], args, []⟩).memory :=
  laidMetH_of_parts3 (fuel := 8) (laidMet_of_run' 8 (by kernel_rfl) (by kernel_rfl)) (by kernel_rfl) (by kernel_rfl)

theorem open_pair {H : Type} {enc : TypeId × Value → H} {w : World} {sh : Bool} {fuel : Nat} {cs : List Value} {y : DataW H × List MemPlace}
    (h : DataW.trod enc Tryz.prog w 0 (fun _ => true) sh fuel 23 cs = some y) : ∃ x : Pp, cs = [.int .i64 x.a, .int .i64 x.b] ∧ y.1 = .agg [.lit (.int .i64 x.a), .lit (.int .i64 x.b)] := by
  obtain ⟨xs, m, rfl, hy, hl, hxl, hf⟩ := DataW.trod_struct Tryz.underlying23 h
  rw [cellsPair] at hl
  match cs, hl with
  | [v0, v1], _ =>
    match xs, hxl with
    | [x0, x1], _ =>
      have f0 := hf 0 _ rfl
      have f1 := hf 1 _ rfl
      replace f0 : DataW.trod enc Tryz.prog w 0 (fun _ => true) sh m 3 (([v0, v1].drop 0).take (Tryz.prog.cellsOf 3)) = some x0 := f0
      replace f1 : DataW.trod enc Tryz.prog w 0 (fun _ => true) sh m 3 (([v0, v1].drop 1).take (Tryz.prog.cellsOf 3)) = some x1 := f1
      rw [cellsInt] at f0 f1
      replace f0 : DataW.trod enc Tryz.prog w 0 (fun _ => true) sh m 3 [v0] = some x0 := f0
      replace f1 : DataW.trod enc Tryz.prog w 0 (fun _ => true) sh m 3 [v1] = some x1 := f1
      obtain ⟨n, e0, e0', w0⟩ := DataW.trod_int Tryz.underlying3 f0
      obtain ⟨r, e1, e1', w1⟩ := DataW.trod_int Tryz.underlying3 f1
      simp only [List.cons.injEq, and_true] at e0 e1
      subst e0 e1
      exact ⟨⟨n, r⟩, rfl, by rw [hy, e0', e1']; rfl⟩

theorem cellsU8 : Tryz.prog.cellsOf 5 = 1 := by kernel_rfl
theorem cellsTab : Tryz.prog.cellsOf 181 = 64 := by kernel_rfl
theorem gTab : Tryz.prog.globalNamed "math/bits.deBruijn64tab" = some 2 := by kernel_rfl
theorem tTab : (Tryz.prog.globals[2]?).map (·.type) = some 181 := by kernel_rfl
theorem laid_list {H : Type} : (Rows.laid_math_bits_deBruijn64tab : DataW H) = .agg (Lib.deBruijn64tab.map fun k : Nat => .lit (.int .u8 (k : Int))) := rfl

theorem of_tab {W : World} {g0 t0 : Nat} {cs0 : Array Value} {f0 : Nat} {p0 : List MemPlace} (hg0 : Tryz.prog.globalNamed "math/bits.deBruijn64tab" = some g0) (ht0 : (Tryz.prog.globals[g0]?).map (·.type) = some t0) (hv0 : W.var? Tryz.prog "math/bits.deBruijn64tab" = some cs0)
    (hd0 : DataW.trod (fun _ => ()) Tryz.prog W 0 (fun _ => true) false f0 t0 cs0.toList = some (Rows.laid_math_bits_deBruijn64tab, p0)) : Tb W := by
  obtain rfl := Option.some.inj (gTab.symm.trans hg0)
  obtain rfl := Option.some.inj (tTab.symm.trans ht0)
  obtain ⟨xs, m, rfl, hy, hl, hxl, hf⟩ := DataW.trod_array Tryz.underlying181 hd0
  have c := World.var?_cell hg0 hv0
  rw [cellsU8] at hf
  rw [cellsTab] at hl
  simp only [Prod.mk.injEq] at hy
  have hy1 := hy.1
  rw [laid_list, DataW.agg.injEq] at hy1
  intro j hj
  have hj64 : j < 64 := hj
  have f := hf j hj64
  rw [List.getElem?_eq_getElem (by omega)] at f
  have hdr : (cs0.toList.drop (j * 1)).take 1 = [cs0.toList[j]'(by omega)] := by
    rw [Nat.mul_one, List.drop_eq_getElem_cons (by omega)]; rfl
  rw [hdr] at f
  obtain ⟨n, e0, e1, _⟩ := DataW.trod_int Tryz.underlying5 f
  have h3 := congrArg (fun l => l[j]?) hy1
  simp only [List.getElem?_map, List.getElem?_eq_getElem (show j < xs.length by omega), List.getElem?_eq_getElem hj, Option.map_some, e1, Option.some.injEq, DataW.lit.injEq, Lit.int.injEq, true_and] at h3
  have e2 : cs0.toList[j]'(by omega) = .int .u8 n := by simpa using e0
  rw [c j, ← Array.getElem?_toList, List.getElem?_eq_getElem (by omega), e2, List.getD_eq_getElem?_getD, List.getElem?_eq_getElem hj, ← h3]
  rfl

theorem of_laid {W : World} (h : laidMetH Tryz.prog Rows.eisenReckonsRow.laid W) : Rg 1 (-1) 6 ⟨1, 1⟩ W ∧ Tb W := by
  rw [MakeChecks.laidMetH_plain _ _ _ (by kernel_rfl)] at h
  obtain ⟨ps, ⟨ga, ta, csa, fa, pa, qa, hga, hta, hva, hda, hrest, _⟩, _, _⟩ := h
  refine ⟨?_, of_tab hga hta hva hda⟩
  obtain ⟨g0, t0, cs0, f0, p0, q0, hg0, ht0, hv0, hd0, _, _⟩ := hrest
  clear hga hta hva hda
  obtain rfl := Option.some.inj (gRing.symm.trans hg0)
  obtain rfl := Option.some.inj (tRing.symm.trans ht0)
  obtain ⟨xs, m, rfl, hy, hl, hxl, hf⟩ := DataW.trod_struct Tryz.underlying26 hd0
  rw [cellsRing] at hl
  have c := World.var?_cell hg0 hv0
  obtain ⟨l⟩ := cs0
  match l, hl with
  | [v0, v1, v2, v3], _ =>
    match xs, hxl with
    | [x0, x1, x2], _ =>
      have f0 := hf 0 _ rfl
      have f1 := hf 1 _ rfl
      have f2 := hf 2 _ rfl
      replace f0 : DataW.trod (fun x => ()) Tryz.prog W 0 (fun x => true) false m 3 (([v0, v1, v2, v3].drop 0).take (Tryz.prog.cellsOf 3)) = some x0 := f0
      replace f1 : DataW.trod (fun x => ()) Tryz.prog W 0 (fun x => true) false m 3 (([v0, v1, v2, v3].drop 1).take (Tryz.prog.cellsOf 3)) = some x1 := f1
      replace f2 : DataW.trod (fun x => ()) Tryz.prog W 0 (fun x => true) false m 23 (([v0, v1, v2, v3].drop 2).take (Tryz.prog.cellsOf 23)) = some x2 := f2
      rw [cellsInt] at f0 f1
      rw [cellsPair] at f2
      replace f0 : DataW.trod (fun x => ()) Tryz.prog W 0 (fun x => true) false m 3 [v0] = some x0 := f0
      replace f1 : DataW.trod (fun x => ()) Tryz.prog W 0 (fun x => true) false m 3 [v1] = some x1 := f1
      replace f2 : DataW.trod (fun x => ()) Tryz.prog W 0 (fun x => true) false m 23 [v2, v3] = some x2 := f2
      obtain ⟨n, e0, e0', _⟩ := DataW.trod_int Tryz.underlying3 f0
      obtain ⟨k, e1, e1', _⟩ := DataW.trod_int Tryz.underlying3 f1
      obtain ⟨z, e2, e2'⟩ := open_pair f2
      simp only [List.cons.injEq, and_true] at e0 e1 e2
      obtain ⟨e3, e4⟩ := e2
      simp only [Prod.mk.injEq] at hy
      have hy1 := hy.1
      simp only [List.map_cons, List.map_nil, e0', e1', e2', Rows.laid_arithmetica_arithmeticaref_EisenRing, DataW.agg.injEq, List.cons.injEq, DataW.lit.injEq, Lit.int.injEq, true_and, and_true] at hy1
      obtain ⟨rfl, rfl, h3, h4⟩ := hy1
      subst e0 e1 e3 e4
      have c0 := c 0
      have c1 := c 1
      have c2 := c 2
      have c3 := c 3
      simp at c0 c1 c2 c3
      refine ⟨c0, c1, by rw [c2, ← h3], by rw [c3, ← h4], ?_⟩
      rcases Nat.lt_or_ge 1 W.heap.size with h | h
      · exact h
      · simp only [World.cell?, Array.getElem?_eq_none h] at c0; cases c0

set_option maxRecDepth 100000 in
theorem lifted (G : EisenIs (-1) Tb) (os : Os) (started : os.Started) (H : Type) (enc : TypeId × Value → H) :
    ReturnsInHanded {} Tryz.checked os 4 .any (fun w args => (Rows.eisenReckonsSpec.pre enc Tryz.prog Tryz.f4 [] false w args ∧ laidMetH Tryz.prog Rows.eisenReckonsRow.laid w) ∧ sizedMet enc Tryz.prog Tryz.f4 (OpenSpec.ofChange Rows.eisenReckonsSpec) false w args)
      (Rows.eisenReckonsSpec.post enc Tryz.prog Tryz.f4 false true false false) := by
  refine returnsInHanded_of_change_and (C := Tryz.checked) (X := fun w _ => laidMetH Tryz.prog Rows.eisenReckonsRow.laid w) (fun _ _ _ hh h => h.of_heap hh) own started (by kernel_rfl) Tryz.func4
    (ChangeSpec.witness_shaped (enc := enc) (C := Tryz.checked) (os := os) (X := fun w _ => laidMetH Tryz.prog Rows.eisenReckonsRow.laid w) false (World.doorLaid Tryz.prog 2000 os) #[.agg #[.int .i64 0, .int .i64 0], .agg #[.int .i64 0, .int .i64 0]] 8 rfl (World.shaped_of_RefB (by kernel_rfl) (by kernel_rfl)) (by kernel_rfl) (by kernel_rfl) (by kernel_rfl) (door_met os _)) ?_
  intro W base args ds gs before hval0 hW _ _ hL _
  have hval : ∀ (j : Nat) t v, Tryz.f4.params[j]? = some t → args[j]? = some v → Value.okWide Tryz.prog W .any base t v := hval0
  have hW' := hW
  obtain ⟨p, q, hA0, hV, rfl, hfz, hnd⟩ := hW
  have hA : DataW.TrodAll enc Tryz.prog W 0 (fun _ => true) true Tryz.f4.params.toList args.toList ds p := hA0
  rw [Tryz.params4] at hA hval
  obtain ⟨v0, vs0, d0, ds0, p0, q0, hargs, rfl, rfl, h0, r0⟩ := trodAll_cons hA
  obtain ⟨v1, vs1, d1, ds1, p1, q1, rfl, rfl, rfl, h1, r1⟩ := trodAll_cons r0
  obtain ⟨rfl, rfl, rfl⟩ := trodAll_nil r1
  obtain rfl : args = #[v0, v1] := by cases args; simp_all
  obtain ⟨rfl, rfl⟩ := trodVars_none hV
  have h0' := h0
  have h1' := h1
  obtain ⟨cs0, rfl, hs0⟩ := okWide_struct Tryz.underlying23 (hval 0 23 v0 rfl rfl)
  obtain ⟨cs1, rfl, hs1⟩ := okWide_struct Tryz.underlying23 (hval 1 23 v1 rfl rfl)
  obtain ⟨fuel0, hf0⟩ := h0'
  obtain ⟨fuel1, hf1⟩ := h1'
  obtain ⟨x, hx, _⟩ := open_pair hf0
  obtain ⟨y, hy, _⟩ := open_pair hf1
  have hx' : cs0 = #[.int .i64 x.a, .int .i64 x.b] := by
    cases cs0; simpa [Value.cells] using hx
  have hy' : cs1 = #[.int .i64 y.a, .int .i64 y.b] := by
    cases cs1; simpa [Value.cells] using hy
  subst hx' hy'
  obtain ⟨hg, hbt⟩ := of_laid hL
  clear hA0 hval0 hL
  simp only [List.append_nil] at hW'
  refine (er_start (-1) Tb (.inr rfl) G x y W hbt hg).mono fun e W' ⟨he, hb⟩ => ?_
  subst he
  have hlt : ∀ z ∈ p0 ++ p1, z.block < W.heap.size := fun z hz => by simpa using hW'.lt z (by simpa using hz)
  exact ⟨_, rfl, _, _, _, [], p0 ++ p1, [], hW', trodAll_cons_mk (shut_bool Tryz.underlying4 _) trodAll_mk0, trodAll_cons_mk (Below.trod laidOut (by kernel_rfl) (of_decide_eq_true (by kernel_rfl)) h0 hb (fun z hz => hlt z (List.mem_append_left _ hz))) (trodAll_mk1 (Below.trod laidOut (by kernel_rfl) (of_decide_eq_true (by kernel_rfl)) h1 hb (fun z hz => hlt z (List.mem_append_right _ hz)))), rfl, hb.frame _, fun h => by cases h⟩

theorem over (G : EisenIs (-1) Tb) : Rows.EisenReckonsSaid :=
  OpenClaim.holds_of_wide 4 Tryz.f4 rfl rfl rfl rfl rfl rfl rfl ⟨rfl, rfl, rfl, rfl, rfl⟩ rfl rfl rfl rfl rfl (by kernel_rfl) Tryz.func4 (by kernel_rfl)
    (of_decide_eq_true (by kernel_rfl)) (by unfold Func.isWrapper; first | (rw [if_pos (by decide +kernel)]; kernel_rfl) | (rw [if_neg (by decide +kernel)]; exact ⟨rfl, rfl⟩))
    (fun os started H enc _ => lifted G os started H enc)

theorem card_of (G : EisenIs (-1) Tb) : Rows.EisenReckonsCardSaid :=
  Claim7.holds_tied_plain_at .later [] [.data, .data] true Rows.eisenReckonsCard.stood.harness false
    (over G) (fun _ h => by cases h) (by kernel_rfl) (fun _ h => by cases h) eisenReckons_row_tie rfl ⟨rfl, rfl⟩ (by kernel_rfl) rfl
    (fun f fn hf hfn => by
      obtain rfl : f = 4 := Option.some.inj ((show Tryz.prog.funcNamed "arithmetica/arithmeticalaw.EisenReckons" = some 4 by kernel_rfl).symm.trans hf) |>.symm
      obtain rfl : fn = Tryz.f4 := (Option.some.inj (Tryz.func4.symm.trans hfn)).symm
      exact ⟨by kernel_rfl, fun j t ht => by
        rw [Tryz.params4] at ht
        have h3 : t = 23 := by
          rcases j with _ | _ | j
          · simpa using ht.symm
          · simpa using ht.symm
          · simp at ht
        subst h3
        exact (show Tryz.prog.wantsStandIn 23 = false by kernel_rfl)⟩)
    (by kernel_rfl)

/-- The example and the four, as the code has them. -/
theorem eisen_is : EisenIs (-1) Tb :=
  ⟨fun w w' h k => h.below k, fun w _ => E3.eisen_begun w, fun x w => eNorm_any x w, fun x y w => eMul_any x y w, fun x y w => eDiv_any x y w, fun x y w => eGcd_any x y w⟩

/-- ████ THE STATEMENT ████ -/
theorem proved : Rows.EisenReckonsCardSaid := card_of eisen_is
#print axioms proved
end Go.Proofs.YtogdggdaaiajnadGreatDoor.eisenReckons
