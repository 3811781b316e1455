/- Proved: whatever slice of ints is given (a nil one and an empty one too), PartitionTurns returns true, and all that was in memory before the call is as it was. No conditions beyond the row's own (the slice within the form's own reach; the tables of math/bits and of internal/strconv as the program lays them, tied by the card). -/
import Derived.Test.YtmifenflbaohnaaDoorRows
import Derived.Test.YtmifenflbaohnaaDoorCards
import Derived.Test.YtmifenflbaohnaaDoorTie
import Derived.Test.YtmifenflbaohnaaDoorPartitionTurnsNil
import Derived.Test.YtmifenflbaohnaaDoorPartitionTurnsWalk
import Derived.Test.YtmifenflbaohnaaDoorPuB
import Derived.Test.YtmifenflbaohnaaDoorPuK
import Derived.WalkKit
import Derived.ProofKit
import Derived.OpenShut
import Derived.LaidMore
import Derived.Stop.Joined
import Derived.SevenTiedAt
import Derived.Deep.Slices
import Derived.SizedLaws
set_option maxRecDepth 100000
namespace Go.Proofs.YtmifenflbaohnaaDoor.partitionTurns
open Go.ChangeShapes Go.WideShapes Go.ChangeAt Go.RowKit Go.Deep
set_option linter.unusedVariables false

theorem own : ownKnob Tryd.prog.godebug = none := by kernel_rfl
theorem laidOut : laidOutB Tryd.prog = true := by kernel_rfl
theorem cellsInt : Tryd.prog.cellsOf 3 = 1 := by kernel_rfl
theorem bytesInt : Tryd.prog.bytesOf 3 = 8 := by kernel_rfl
theorem cellsU64 : Tryd.prog.cellsOf 97 = 1 := by kernel_rfl
theorem cellsTab : Tryd.prog.cellsOf 128 = 20 := by kernel_rfl
theorem gTab : Tryd.prog.globalNamed "internal/strconv.uint64pow10" = some 0 := by kernel_rfl
theorem tTab : (Tryd.prog.globals[0]?).map (·.type) = some 128 := by kernel_rfl

theorem door_met (os : Os) (args : Array Value) : laidMetH Tryd.prog Rows.partitionTurnsRow.laid ((World.doorLaid Tryd.prog 2000 os).forCall (fun _ _ => 0) ⟨#[], args, []⟩).memory :=
  laidMetH_of_parts3 (fuel := 8) (laidMet_of_run' 8 (by kernel_rfl) (by kernel_rfl)) (by kernel_rfl) (by kernel_rfl)

theorem laid_list {H : Type} : (Rows.laid_internal_strconv_uint64pow10 : DataW H) = Lib.tabData .u64 Lib.pow10Tab := rfl

theorem of_laid {W : World} (h : laidMetH Tryd.prog Rows.partitionTurnsRow.laid W) : Tq W := by
  rw [MakeChecks.laidMetH_plain _ _ _ (by kernel_rfl)] at h
  obtain ⟨ps, ⟨ga, ta, csa, fa, pa, qa, _, _, _, _, hr, _⟩, _, _⟩ := h
  obtain ⟨gb, tb, csb, fb, pb, qb, _, _, _, _, hs, _⟩ := hr
  obtain ⟨g0, t0, cs0, f0, p0, q0, hg0, ht0, hv0, hd0, _, _⟩ := hs
  obtain rfl := Option.some.inj (gTab.symm.trans hg0)
  obtain rfl := Option.some.inj (tTab.symm.trans ht0)
  rw [laid_list] at hd0
  unfold Tq Lib.TabIs
  rw [hv0, ← Lib.cells_of_tab Tryd.underlying128 Tryd.underlying97 cellsU64 cellsTab hd0]

/-- A slice that came in, opened once: its numbers, where they lie, what it reads as. -/
theorem opened {H : Type} {enc : TypeId × Value → H} {W : World} {fuel : Nat} {a0 : Option Addr} {len cap : Nat} {d : DataW H} {p : List MemPlace}
    (hf : DataW.trod enc Tryd.prog W 0 (fun _ => true) true fuel 36 (Value.slice a0 len cap).cells.toList = some (d, p)) :
    ∃ Z : List Int, Z.length = len ∧ (a0 = none → Z = [] ∧ len = 0 ∧ cap = 0) ∧ (∀ ad, a0 = some ad → ∀ t, t < Z.length → W.cell? (ad.add t) = some (.int .i64 (Z.getD t 0))) ∧
      (∀ n ∈ Z, (Lit.int .i64 n).wf = true) ∧ ((d = .nil ∧ len = 0) ∨ ∃ sp, d = .slice (lits .i64 Z) sp) := by
  rcases open_ints Tryd.underlying36 Tryd.underlying3 cellsInt hf with ⟨hcs, hx⟩ | ⟨a, len', cap', zs, hcs, _, hl, hm, hz, hx, hcell, hwz⟩
  · simp [Value.cells] at hcs
    obtain ⟨rfl, rfl, rfl⟩ := hcs
    simp only [Prod.mk.injEq] at hx
    obtain ⟨rfl, rfl⟩ := hx
    exact ⟨[], rfl, fun _ => ⟨rfl, rfl, rfl⟩, (fun ad h => by cases h), (fun n hn => by cases hn), Or.inl ⟨rfl, rfl⟩⟩
  · simp [Value.cells] at hcs
    obtain ⟨rfl, rfl, rfl⟩ := hcs
    simp only [Prod.mk.injEq] at hx
    obtain ⟨rfl, rfl⟩ := hx
    simp only [if_true] at hz
    refine ⟨zs.take len, (by simp; omega), (fun h => by cases h), fun ad h t ht => ?_, fun n hn => hwz n (List.mem_of_mem_take hn), Or.inr ⟨_, rfl⟩⟩
    obtain rfl := Option.some.inj h
    simp at ht
    have h1 : t < len := by omega
    have h2 : t < zs.length := by omega
    rw [hcell t h2]
    simp [List.getD, h1, h2]

theorem is_someP {W : World} {ad : Addr} {cap : Nat} {Z : List Int} (h : ∀ t, t < Z.length → W.cell? (ad.add t) = some (.int .i64 (Z.getD t 0))) : IS W (.slice (some ad) Z.length cap) Z := by
  rcases Nat.eq_zero_or_pos Z.length with c | c
  · exact ⟨some ad, 0, 0, cap, rfl, fun h => by omega, fun i hi => by omega, fun h => by omega⟩
  · obtain ⟨b, off, rfl, hc⟩ := ints_at h c
    exact ⟨some ⟨b, off, none⟩, b, off, cap, rfl, fun _ => rfl, hc, fun _ => World.block_lt_of_cell? _ _ (hc 0 c)⟩

theorem cells_someP {W : World} {ad : Addr} {Z : List Int} (h : ∀ t, t < Z.length → W.cell? (ad.add t) = some (.int .i64 (Z.getD t 0))) : ∀ j u, (Z.map fun x : Int => Value.int .i64 x)[j]? = some u → W.cell? (ad.add j) = some u := by
  intro j u hj
  have hl : j < Z.length := by
    rcases Nat.lt_or_ge j Z.length with c | c
    · exact c
    · rw [List.getElem?_eq_none (by simpa using c)] at hj; cases hj
  rw [h j hl, ← hj]
  simp [hl]

set_option maxRecDepth 100000 in
theorem lifted (os : Os) (started : os.Started) (H : Type) (enc : TypeId × Value → H) :
    ReturnsInHanded {} Tryd.checked os 4 .any (fun w args => (Rows.partitionTurnsSpec.pre enc Tryd.prog Tryd.f4 [] false w args ∧ laidMetH Tryd.prog Rows.partitionTurnsRow.laid w) ∧ sizedMet enc Tryd.prog Tryd.f4 (OpenSpec.ofChange Rows.partitionTurnsSpec) false w args)
      (Rows.partitionTurnsSpec.post enc Tryd.prog Tryd.f4 false true false false) := by
  refine returnsInHanded_of_change_and (C := Tryd.checked) (X := fun w _ => laidMetH Tryd.prog Rows.partitionTurnsRow.laid w) (fun _ _ _ hh h => h.of_heap hh) own started (by kernel_rfl) Tryd.func4
    (ChangeSpec.witness_shaped (enc := enc) (C := Tryd.checked) (os := os) (X := fun w _ => laidMetH Tryd.prog Rows.partitionTurnsRow.laid w) false (World.doorLaid Tryd.prog 2000 os) #[.slice none 0 0] 8 rfl (World.shaped_of_RefB (by kernel_rfl) (by kernel_rfl)) (by kernel_rfl) (by kernel_rfl) (by kernel_rfl) (door_met os _)) ?_
  intro W base args ds gs before hval0 hW hq1 hq2 hL hq3
  have hval : ∀ (j : Nat) t v, Tryd.f4.params[j]? = some t → args[j]? = some v → Value.okWide Tryd.prog W .any base t v := hval0
  have hW' := hW
  obtain ⟨p, q, hA0, hV, rfl, hfz, hnd⟩ := hW
  have hA : DataW.TrodAll enc Tryd.prog W 0 (fun _ => true) true Tryd.f4.params.toList args.toList ds p := hA0
  have hsz : (DataW.weightsEach Tryd.prog (Tryd.f4.params.toList ++ Rows.partitionTurnsSpec.plain.varTypes Tryd.prog) (ds ++ gs)).all (· ≤ reachBytes) = true := hq2
  clear hq1 hq2 hq3
  rw [Tryd.params4] at hA hval hsz
  obtain ⟨v0, vs0, d0, ds0, p0, q0, hargs, rfl, rfl, h0, r0⟩ := trodAll_cons hA
  obtain ⟨rfl, rfl, rfl⟩ := trodAll_nil r0
  obtain rfl : args = #[v0] := by cases args; simp_all
  obtain ⟨rfl, rfl⟩ := trodVars_none hV
  obtain ⟨b0, la, ca, rfl⟩ := okWide_slice Tryd.underlying36 (hval 0 36 v0 rfl rfl)
  have hg := of_laid hL
  have h0k := h0
  obtain ⟨fa, hfa⟩ := h0
  clear hA0 hval0 hL
  simp only [List.append_nil] at hW'
  have hlt : ∀ z ∈ p0, z.block < W.heap.size := fun z hz => by simpa using hW'.lt z (by simpa using hz)
  obtain ⟨A, hAl, haN, hca, hwA, hdA⟩ := opened hfa
  have rl : A.length * 8 ≤ 140737488351232 := by
    rcases hdA with ⟨_, h⟩ | ⟨sa, h⟩
    · rw [hAl, h]; decide
    · have := sized_slice hsz (j := 0) (t := 36) (e := 3) rfl (by rw [h]; rfl) Tryd.underlying36
      rw [bytesInt] at this
      simp only [lits, List.length_map, reachBytes] at this
      omega
  have ra : I64 A := ⟨rl, fun x hx => by simpa [Lit.wf, IntKind.min, IntKind.max, IntKind.signed, IntKind.bits] using hwA x hx⟩
  have fin : ∀ (e : Ending) (W' : World), (e = .returned (.bool true) ∧ Below W.heap.size W W') →
      ∃ v, e = Ending.returned v ∧ Rows.partitionTurnsSpec.post enc Tryd.checked.prog Tryd.f4 false true false false W #[.slice b0 la ca] v W' := by
    rintro e W' ⟨rfl, hb⟩
    exact ⟨_, rfl, _, _, _, [], _, [], hW', trodAll_cons_mk (shut_bool Tryd.underlying4 _) trodAll_mk0, trodAll_cons_mk (Below.trod laidOut (by kernel_rfl) (of_decide_eq_true (by kernel_rfl)) h0k hb (fun z hz => hlt z hz)) trodAll_mk0, rfl, hb.frame _, fun h => by cases h⟩
  subst hAl
  cases b0 with
  | none =>
    obtain ⟨rfl, -, rfl⟩ := haN rfl
    exact (partition_turns_nil turns_is W (pBegun_any W hg)).mono fin
  | some ad => exact (partition_turns turns_is ad ca A W ra (pBegun_any W hg) (cells_someP (hca ad rfl)) (is_someP (hca ad rfl))).mono fin

theorem over : Rows.PartitionTurnsSaid :=
  OpenClaim.holds_of_wide 4 Tryd.f4 rfl rfl rfl rfl rfl rfl rfl ⟨rfl, rfl, rfl, rfl, rfl⟩ rfl rfl rfl rfl rfl (by kernel_rfl) Tryd.func4 (by kernel_rfl)
    (of_decide_eq_true (by kernel_rfl)) (by unfold Func.isWrapper; first | (rw [if_pos (by decide +kernel)]; kernel_rfl) | (rw [if_neg (by decide +kernel)]; exact ⟨rfl, rfl⟩))
    (fun os started H enc _ => lifted os started H enc)

/-- ████ THE STATEMENT ████ -/
theorem proved : Rows.PartitionTurnsCardSaid :=
  Claim7.holds_tied_plain_at .later [] [.data, .data, .data] true Rows.partitionTurnsCard.stood.harness false
    over (fun _ h => by cases h) (by kernel_rfl) (fun _ h => by cases h) partitionTurns_row_tie rfl ⟨rfl, rfl⟩ (by kernel_rfl) rfl
    (fun f fn hf hfn => by
      obtain rfl : f = 4 := Option.some.inj ((show Tryd.prog.funcNamed "arithmetica/arithmeticalaw.PartitionTurns" = some 4 by kernel_rfl).symm.trans hf) |>.symm
      obtain rfl : fn = Tryd.f4 := (Option.some.inj (Tryd.func4.symm.trans hfn)).symm
      exact ⟨by kernel_rfl, fun j t ht => by
        rw [Tryd.params4] at ht
        have h3 : t = 36 := by
          rcases j with _ | j
          · simpa using ht.symm
          · simp at ht
        subst h3
        exact (show Tryd.prog.wantsStandIn 36 = false by kernel_rfl)⟩)
    (by kernel_rfl)
#print axioms proved
end Go.Proofs.YtmifenflbaohnaaDoor.partitionTurns
