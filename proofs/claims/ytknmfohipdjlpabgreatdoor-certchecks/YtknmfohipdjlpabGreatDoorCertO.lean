/- A certificate that came in, opened: a tree in memory. -/
import Derived.Test.YtknmfohipdjlpabGreatDoorCertT
import Derived.Deep.Slices
import Derived.Deep.Strs
import Derived.ProofKit
set_option linter.unusedSimpArgs false
set_option linter.unusedVariables false
set_option maxRecDepth 100000
namespace Go.Proofs.YtknmfohipdjlpabGreatDoor
open Go.RowKit Go.Deep

theorem Tryz.cellsCert : Tryz.prog.cellsOf 24 = 3 := by kernel_rfl
theorem Tryz.cellsInt : Tryz.prog.cellsOf 3 = 1 := by kernel_rfl
theorem Tryz.cellsCerts : Tryz.prog.cellsOf 22 = 1 := by kernel_rfl

theorem wf_bounds {n : Int} (h : (Lit.int .i64 n).wf = true) : -9223372036854775808 ≤ n ∧ n ≤ 9223372036854775807 := by
  simp [Lit.wf] at h
  have e : IntKind.i64.min = -9223372036854775808 := by decide
  omega

theorem cell_plain {w : World} {a : Addr} {v : Value} (h : w.cell? a = some v) : a.spot = none := by
  unfold World.cell? at h
  split at h
  · split at h
    · cases h
    · rename_i hs
      cases hh : a.spot with
      | none => rfl
      | some x => simp [hh] at hs
  · cases h

theorem add_plain (b o n : Nat) : (⟨b, o, none⟩ : Addr).add n = ⟨b, o + n, none⟩ := by
  unfold Addr.add; split
  · rename_i h; subst h; rfl
  · rfl
theorem add_block (a : Addr) (n : Nat) : (a.add n).block = a.block := by unfold Addr.add; split <;> rfl

theorem exists_list {Q : Nat → Ct → Prop} (len : Nat) (h : ∀ i, i < len → ∃ c, Q i c) : ∃ ps : List Ct, ps.length = len ∧ ∀ i (hi : i < ps.length), Q i ps[i] := by
  have h' : ∀ i, ∃ c, i < len → Q i c := fun i => by
    by_cases hi : i < len
    · obtain ⟨c, hc⟩ := h i hi; exact ⟨c, fun _ => hc⟩
    · exact ⟨.mk 0 0 none 0 [], fun k => absurd k hi⟩
  refine ⟨(List.range len).map (fun i => Classical.choose (h' i)), by simp, fun i hi => ?_⟩
  have hl : i < len := by simpa using hi
  rw [List.getElem_map, List.getElem_range]
  exact Classical.choose_spec (h' i) hl

theorem open_cert {H : Type} {enc : TypeId × Value → H} {w : World} : ∀ (fuel : Nat) (cs : List Value) (y : DataW H × List MemPlace),
    DataW.trod enc Tryz.prog w 0 (fun _ => true) true fuel 24 cs = some y → ∃ c : Ct, cs = [.int .i64 c.n, .int .i64 c.r, c.sl] ∧ InW w.heap.size w c := by
  intro fuel
  induction fuel using Nat.strongRecOn with
  | ind fuel ih =>
    intro cs y h
    obtain ⟨xs, m, rfl, _, hl, hxl, hf⟩ := DataW.trod_struct Tryz.underlying24 h
    rw [Tryz.cellsCert] at hl
    match cs, hl with
    | [v0, v1, v2], _ =>
      match xs, hxl with
      | [x0, x1, x2], _ =>
        have f0 := hf 0 _ rfl
        have f1 := hf 1 _ rfl
        have f2 := hf 2 _ rfl
        replace f0 : DataW.trod enc Tryz.prog w 0 (fun _ => true) true m 3 (([v0, v1, v2].drop 0).take (Tryz.prog.cellsOf 3)) = some x0 := f0
        replace f1 : DataW.trod enc Tryz.prog w 0 (fun _ => true) true m 3 (([v0, v1, v2].drop 1).take (Tryz.prog.cellsOf 3)) = some x1 := f1
        replace f2 : DataW.trod enc Tryz.prog w 0 (fun _ => true) true m 22 (([v0, v1, v2].drop 2).take (Tryz.prog.cellsOf 22)) = some x2 := f2
        rw [Tryz.cellsInt] at f0 f1
        rw [Tryz.cellsCerts] at f2
        replace f0 : DataW.trod enc Tryz.prog w 0 (fun _ => true) true m 3 [v0] = some x0 := f0
        replace f1 : DataW.trod enc Tryz.prog w 0 (fun _ => true) true m 3 [v1] = some x1 := f1
        replace f2 : DataW.trod enc Tryz.prog w 0 (fun _ => true) true m 22 [v2] = some x2 := f2
        obtain ⟨n, e0, _, w0⟩ := DataW.trod_int Tryz.underlying3 f0
        obtain ⟨r, e1, _, w1⟩ := DataW.trod_int Tryz.underlying3 f1
        have b0 := wf_bounds w0
        have b1 := wf_bounds w1
        simp only [List.cons.injEq, and_true] at e0 e1
        subst e0 e1
        rcases DataW.trod_slice Tryz.underlying22 f2 with ⟨e2, _⟩ | ⟨a, len, cap, elems, rest, k, rfl, e2, _, _, hle, hmax, hel, hat, _⟩
        · simp only [List.cons.injEq, and_true] at e2
          subst e2
          exact ⟨.mk n r none 0 [], rfl, .mk ⟨b0.1, b0.2, b1.1, b1.2, by simp [Ct.ps], by simp [Ct.ps], fun h0 => by simp [Ct.ps] at h0⟩ (fun i hi => by simp [Ct.ps] at hi)⟩
        · simp only [List.cons.injEq, and_true] at e2
          subst e2
          rw [Tryz.cellsCert] at hat
          have hch : ∀ i, i < len → ∃ c : Ct, (w.cell? (a.add (i * 3)) = some (.int .i64 c.n) ∧ w.cell? ((a.add (i * 3)).add 1) = some (.int .i64 c.r) ∧ w.cell? ((a.add (i * 3)).add 2) = some c.sl) ∧ InW w.heap.size w c ∧ a.block < w.heap.size := by
            intro i hi
            have h1 := hat i hi
            rw [List.getElem?_eq_getElem (by omega)] at h1
            obtain ⟨ci, hci, hti⟩ := Option.bind_eq_some_iff.1 h1
            obtain ⟨c, rfl, hin⟩ := ih k (by omega) ci _ hti
            obtain ⟨_, _, hcell⟩ := World.cells?_some hci
            have hblk := World.cells?_block hci (by omega)
            rw [add_block] at hblk
            refine ⟨c, ⟨?_, ?_, ?_⟩, hin, hblk⟩
            · have := hcell 0 (by omega); simpa [Addr.add] using this
            · exact hcell 1 (by omega)
            · exact hcell 2 (by omega)
          obtain ⟨ps, hpl, hps⟩ := exists_list len hch
          subst hpl
          refine ⟨.mk n r (some a) cap ps, rfl, .mk ⟨b0.1, b0.2, b1.1, b1.2, by simp only [Ct.ps_mk]; simp only [maxLen] at hmax; omega, by simp only [Ct.ps_mk, Ct.cap_mk]; exact hle, fun h0 => ?_⟩ (fun i hi => (hps i hi).2.1)⟩
          simp only [Ct.ps_mk] at h0
          have h00 := (hps 0 h0).1.1
          have hs : a.spot = none := cell_plain (by simpa [Addr.add] using h00)
          obtain ⟨b, o, sp⟩ := a
          simp only at hs
          subst hs
          refine ⟨b, o, rfl, (hps 0 h0).2.2, fun i hi => ?_⟩
          have := (hps i hi).1
          simp only [add_plain] at this
          exact this

end Go.Proofs.YtknmfohipdjlpabGreatDoor
