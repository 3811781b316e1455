/- Proved: whatever two ints a and b and whatever slice of ints l are given (a nil one and an empty one too), ContExpands returns true, and all that was in memory before the call is as it was. No conditions beyond the row's own (the tables of math/bits and of internal/strconv as the program lays them, tied by the card). -/
import Derived.Test.YtaflfbofkeppjaaGreatDoorRows
import Derived.Test.YtaflfbofkeppjaaGreatDoorCards
import Derived.Test.YtaflfbofkeppjaaGreatDoorTie
import Derived.Test.YtaflfbofkeppjaaGreatDoorContExpandsWalk
import Derived.WalkKit
import Derived.ProofKit
import Derived.OpenShut
import Derived.LaidMore
import Derived.Stop.Joined
import Derived.SevenTiedAt
import Derived.Deep.Slices
import Derived.SizedLaws
set_option maxRecDepth 100000
namespace Go.Proofs.YtaflfbofkeppjaaGreatDoor.contExpands
open Go.ChangeShapes Go.WideShapes Go.ChangeAt Go.RowKit Go.Deep
set_option linter.unusedVariables false

theorem own : ownKnob Tryz.prog.godebug = none := by kernel_rfl
theorem laidOut : laidOutB Tryz.prog = true := by kernel_rfl
theorem cellsInt : Tryz.prog.cellsOf 3 = 1 := by kernel_rfl
theorem bytesInt : Tryz.prog.bytesOf 3 = 8 := by kernel_rfl
theorem cellsU64 : Tryz.prog.cellsOf 158 = 1 := by kernel_rfl
theorem cellsTab : Tryz.prog.cellsOf 240 = 20 := by kernel_rfl
theorem gTab : Tryz.prog.globalNamed "internal/strconv.uint64pow10" = some 1 := by kernel_rfl
theorem tTab : (Tryz.prog.globals[1]?).map (·.type) = some 240 := by kernel_rfl

theorem door_met (os : Os) (args : Array Value) : laidMetH Tryz.prog Rows.contExpandsRow.laid ((World.doorLaid Tryz.prog 2000 os).forCall (fun _ _ => 0) ⟨#[], args, []⟩).memory :=
  laidMetH_of_parts3 (fuel := 8) (laidMet_of_run' 8 (by kernel_rfl) (by kernel_rfl)) (by kernel_rfl) (by kernel_rfl)

theorem laid_list {H : Type} : (Rows.laid_internal_strconv_uint64pow10 : DataW H) = Lib.tabData .u64 Lib.pow10Tab := rfl

theorem of_laid {W : World} (h : laidMetH Tryz.prog Rows.contExpandsRow.laid W) : Tq W := by
  rw [MakeChecks.laidMetH_plain _ _ _ (by kernel_rfl)] at h
  obtain ⟨ps, ⟨ga, ta, csa, fa, pa, qa, _, _, _, _, hr, _⟩, _, _⟩ := h
  obtain ⟨gb, tb, csb, fb, pb, qb, _, _, _, _, hs, _⟩ := hr
  obtain ⟨g0, t0, cs0, f0, p0, q0, hg0, ht0, hv0, hd0, _, _⟩ := hs
  obtain rfl := Option.some.inj (gTab.symm.trans hg0)
  obtain rfl := Option.some.inj (tTab.symm.trans ht0)
  rw [laid_list] at hd0
  unfold Tq Lib.TabIs
  rw [hv0, ← Lib.cells_of_tab Tryz.underlying240 Tryz.underlying158 cellsU64 cellsTab hd0]

/-- A slice that came in, opened once: its numbers, where they lie, what it reads as. -/
theorem opened {H : Type} {enc : TypeId × Value → H} {W : World} {fuel : Nat} {a0 : Option Addr} {len cap : Nat} {d : DataW H} {p : List MemPlace}
    (hf : DataW.trod enc Tryz.prog W 0 (fun _ => true) true fuel 22 (Value.slice a0 len cap).cells.toList = some (d, p)) :
    ∃ Z : List Int, Z.length = len ∧ (a0 = none → Z = [] ∧ len = 0 ∧ cap = 0) ∧ (∀ ad, a0 = some ad → ∀ t, t < Z.length → W.cell? (ad.add t) = some (.int .i64 (Z.getD t 0))) ∧
      (∀ n ∈ Z, (Lit.int .i64 n).wf = true) ∧ ((d = .nil ∧ len = 0) ∨ ∃ sp, d = .slice (lits .i64 Z) sp) := by
  rcases open_ints Tryz.underlying22 Tryz.underlying3 cellsInt hf with ⟨hcs, hx⟩ | ⟨a, len', cap', zs, hcs, _, hl, hm, hz, hx, hcell, hwz⟩
  · simp [Value.cells] at hcs
    obtain ⟨rfl, rfl, rfl⟩ := hcs
    simp only [Prod.mk.injEq] at hx
    obtain ⟨rfl, rfl⟩ := hx
    exact ⟨[], rfl, fun _ => ⟨rfl, rfl, rfl⟩, (fun ad h => by cases h), (fun n hn => by cases hn), Or.inl ⟨rfl, rfl⟩⟩
  · simp [Value.cells] at hcs
    obtain ⟨rfl, rfl, rfl⟩ := hcs
    simp only [Prod.mk.injEq] at hx
    obtain ⟨rfl, rfl⟩ := hx
    simp only [if_true] at hz
    refine ⟨zs.take len, (by simp; omega), (fun h => by cases h), fun ad h t ht => ?_, fun n hn => hwz n (List.mem_of_mem_take hn), Or.inr ⟨_, rfl⟩⟩
    obtain rfl := Option.some.inj h
    simp at ht
    have h1 : t < len := by omega
    have h2 : t < zs.length := by omega
    rw [hcell t h2]
    simp [List.getD, h1, h2]

theorem is_some {W : World} {ad : Addr} {cap : Nat} {Z : List Int} (h : ∀ t, t < Z.length → W.cell? (ad.add t) = some (.int .i64 (Z.getD t 0))) : IS W (.slice (some ad) Z.length cap) Z := by
  rcases Nat.eq_zero_or_pos Z.length with c | c
  · exact ⟨some ad, 0, 0, cap, rfl, fun h => by omega, fun i hi => by omega, fun h => by omega⟩
  · obtain ⟨b, off, rfl, hc⟩ := ints_at h c
    exact ⟨some ⟨b, off, none⟩, b, off, cap, rfl, fun _ => rfl, hc, fun _ => World.block_lt_of_cell? _ _ (hc 0 c)⟩

theorem cells_some {W : World} {ad : Addr} {Z : List Int} (h : ∀ t, t < Z.length → W.cell? (ad.add t) = some (.int .i64 (Z.getD t 0))) : ∀ j u, (Z.map fun x : Int => Value.int .i64 x)[j]? = some u → W.cell? (ad.add j) = some u := by
  intro j u hj
  have hl : j < Z.length := by
    rcases Nat.lt_or_ge j Z.length with c | c
    · exact c
    · rw [List.getElem?_eq_none (by simpa using c)] at hj; cases hj
  rw [h j hl, ← hj]
  simp [hl]

set_option maxRecDepth 100000 in
theorem lifted (os : Os) (started : os.Started) (H : Type) (enc : TypeId × Value → H) :
    ReturnsInHanded {} Tryz.checked os 3 .any (fun w args => (Rows.contExpandsSpec.pre enc Tryz.prog Tryz.f3 [] false w args ∧ laidMetH Tryz.prog Rows.contExpandsRow.laid w) ∧ sizedMet enc Tryz.prog Tryz.f3 (OpenSpec.ofChange Rows.contExpandsSpec) false w args)
      (Rows.contExpandsSpec.post enc Tryz.prog Tryz.f3 false true false false) := by
  refine returnsInHanded_of_change_and (C := Tryz.checked) (X := fun w _ => laidMetH Tryz.prog Rows.contExpandsRow.laid w) (fun _ _ _ hh h => h.of_heap hh) own started (by kernel_rfl) Tryz.func3
    (ChangeSpec.witness_shaped (enc := enc) (C := Tryz.checked) (os := os) (X := fun w _ => laidMetH Tryz.prog Rows.contExpandsRow.laid w) false (World.doorLaid Tryz.prog 2000 os) #[.int .i64 0, .int .i64 0, .slice none 0 0] 8 rfl (World.shaped_of_RefB (by kernel_rfl) (by kernel_rfl)) (by kernel_rfl) (by kernel_rfl) (by kernel_rfl) (door_met os _)) ?_
  intro W base args ds gs before hval0 hW hq1 hq2 hL hq3
  have hval : ∀ (j : Nat) t v, Tryz.f3.params[j]? = some t → args[j]? = some v → Value.okWide Tryz.prog W .any base t v := hval0
  have hW' := hW
  obtain ⟨p, q, hA0, hV, rfl, hfz, hnd⟩ := hW
  have hA : DataW.TrodAll enc Tryz.prog W 0 (fun _ => true) true Tryz.f3.params.toList args.toList ds p := hA0
  have hsz : (DataW.weightsEach Tryz.prog (Tryz.f3.params.toList ++ Rows.contExpandsSpec.plain.varTypes Tryz.prog) (ds ++ gs)).all (· ≤ reachBytes) = true := hq2
  clear hq1 hq2 hq3
  rw [Tryz.params3] at hA hval hsz
  obtain ⟨v0, vs0, d0, ds0, p0, q0, hargs, rfl, rfl, h0, r0⟩ := trodAll_cons hA
  obtain ⟨v1, vs1, d1, ds1, p1, q1, rfl, rfl, rfl, h1, r1⟩ := trodAll_cons r0
  obtain ⟨v2, vs2, d2, ds2, p2, q2, rfl, rfl, rfl, h2, r2⟩ := trodAll_cons r1
  obtain ⟨rfl, rfl, rfl⟩ := trodAll_nil r2
  obtain rfl : args = #[v0, v1, v2] := by cases args; simp_all
  obtain ⟨rfl, rfl⟩ := trodVars_none hV
  obtain ⟨a0, rfl, rfl, rfl, w0⟩ := open_int Tryz.underlying3 (hval 0 3 v0 rfl rfl) h0
  obtain ⟨a1, rfl, rfl, rfl, w1⟩ := open_int Tryz.underlying3 (hval 1 3 v1 rfl rfl) h1
  obtain ⟨b0, la, ca, rfl⟩ := okWide_slice Tryz.underlying22 (hval 2 22 v2 rfl rfl)
  have hg := of_laid hL
  have h2k := h2
  obtain ⟨fa, hfa⟩ := h2
  clear hA0 hval0 hL
  simp only [List.append_nil, List.nil_append] at hW'
  have hlt : ∀ z ∈ p2, z.block < W.heap.size := fun z hz => by simpa using hW'.lt z (by simpa using hz)
  obtain ⟨A, hAl, haN, hca, hwA, hdA⟩ := opened hfa
  have ra : A.length * 8 ≤ 140737488351232 := by
    rcases hdA with ⟨_, h⟩ | ⟨sa, h⟩
    · rw [hAl, h]; decide
    · have := sized_slice hsz (j := 2) (t := 22) (e := 3) rfl (by rw [h]; rfl) Tryz.underlying22
      rw [bytesInt] at this
      simp only [lits, List.length_map, reachBytes] at this
      omega
  have fin : ∀ (e : Ending) (W' : World), (e = .returned (.bool true) ∧ Below W.heap.size W W') →
      ∃ v, e = Ending.returned v ∧ Rows.contExpandsSpec.post enc Tryz.checked.prog Tryz.f3 false true false false W #[.int .i64 a0, .int .i64 a1, .slice b0 la ca] v W' := by
    rintro e W' ⟨rfl, hb⟩
    exact ⟨_, rfl, _, _, _, [], p2, [], hW', trodAll_cons_mk (shut_bool Tryz.underlying4 _) trodAll_mk0, (by have k := (trodAll_cons_mk (shut_int Tryz.underlying3 w0) (trodAll_cons_mk (shut_int Tryz.underlying3 w1) (trodAll_cons_mk (Below.trod laidOut (by kernel_rfl) (of_decide_eq_true (by kernel_rfl)) h2k hb (fun z hz => hlt z hz)) trodAll_mk0))); simp only [List.append_nil, List.nil_append] at k; exact k), rfl, hb.frame _, fun h => by cases h⟩
  subst hAl
  cases b0 with
  | none =>
    obtain ⟨rfl, -, rfl⟩ := haN rfl
    exact (cont_expands a0 a1 [] none 0 W hg ⟨none, 0, 0, 0, rfl, fun h => by simp at h, fun i hi => by simp at hi, fun h => by simp at h⟩ (by simp) (fun ad h => by cases h) (fun _ => ⟨rfl, rfl⟩)).mono fin
  | some ad => exact (cont_expands a0 a1 A (some ad) ca W hg (is_some (hca ad rfl)) ra (fun ad' h => by cases h; exact cells_some (hca ad rfl)) (fun h => by cases h)).mono fin

theorem over : Rows.ContExpandsSaid :=
  OpenClaim.holds_of_wide 3 Tryz.f3 rfl rfl rfl rfl rfl rfl rfl ⟨rfl, rfl, rfl, rfl, rfl⟩ rfl rfl rfl rfl rfl (by kernel_rfl) Tryz.func3 (by kernel_rfl)
    (of_decide_eq_true (by kernel_rfl)) (by unfold Func.isWrapper; first | (rw [if_pos (by decide +kernel)]; kernel_rfl) | (rw [if_neg (by decide +kernel)]; exact ⟨rfl, rfl⟩))
    (fun os started H enc _ => lifted os started H enc)

/-- ████ THE STATEMENT ████ -/
theorem proved : Rows.ContExpandsCardSaid :=
  Claim7.holds_tied_plain_at .later [] [.data, .data, .data] true Rows.contExpandsCard.stood.harness false
    over (fun _ h => by cases h) (by kernel_rfl) (fun _ h => by cases h) contExpands_row_tie rfl ⟨rfl, rfl⟩ (by kernel_rfl) rfl
    (fun f fn hf hfn => by
      obtain rfl : f = 3 := Option.some.inj ((show Tryz.prog.funcNamed "arithmetica/arithmeticalaw.ContExpands" = some 3 by kernel_rfl).symm.trans hf) |>.symm
      obtain rfl : fn = Tryz.f3 := (Option.some.inj (Tryz.func3.symm.trans hfn)).symm
      exact ⟨by kernel_rfl, fun j t ht => by
        rw [Tryz.params3] at ht
        have h3 : t = 3 ∨ t = 22 := by
          rcases j with _ | _ | _ | j
          · exact .inl (by simpa using ht.symm)
          · exact .inl (by simpa using ht.symm)
          · exact .inr (by simpa using ht.symm)
          · simp at ht
        rcases h3 with rfl | rfl
        · exact (show Tryz.prog.wantsStandIn 3 = false by kernel_rfl)
        · exact (show Tryz.prog.wantsStandIn 22 = false by kernel_rfl)⟩)
    (by kernel_rfl)
#print axioms proved
end Go.Proofs.YtaflfbofkeppjaaGreatDoor.contExpands
