/- The program: partitions and its iterator. -/
import Derived.Test.YtmifenflbaohnaaDoorRangeS
import Derived.Test.YtmifenflbaohnaaDoorJnP
import Derived.Test.YtmifenflbaohnaaDoorRsK
import Derived.Test.YtmifenflbaohnaaDoorJnE
import Derived.Test.YtmifenflbaohnaaDoorRegionN
import Derived.Test.YtmifenflbaohnaaDoorTxA
import Derived.Test.YtmifenflbaohnaaDoorPtF
import Derived.Laws.OwnMore
import Derived.Maps.AppendAt
import Derived.Sort.LoopGhostIn
set_option linter.unusedSimpArgs false
set_option linter.unusedVariables false
set_option maxRecDepth 100000
namespace Go.Proofs.YtmifenflbaohnaaDoor
open Go.RowKit
attribute [local go_sem] Oper.semAt_some

theorem Tryd.infoIntL : (Tryd.prog.info? 3).map (fun i => (i.zero, i.size, i.bytes)) = some (some (.int .i64 0), 1, 8) := by kernel_rfl
/-- A row that is handed over: its array is none of O's. -/
def FrL (O : Nat → Prop) (W : World) (v : Value) (x : List Int) : Prop := (x = [] ∧ v = .slice none 0 0) ∨ (0 < x.length ∧ ∃ (g cap : Nat) (arr : Array Value) (fr : Nat × Nat), v = .slice (some ⟨g, 0, none⟩) x.length cap ∧ W.heap[g]? = some (.cells arr 3 fr) ∧ (∀ j, j < x.length → arr[j]? = some (.int .i64 (x.getD j 0))) ∧ ¬ O g)
theorem FrL.kept {O O' : Nat → Prop} {W W' : World} {v : Value} {x : List Int} (h : FrL O W v x) (k : ∀ g, g < W.heap.size → ¬ O g → (∃ arr fr, W.heap[g]? = some (.cells arr 3 fr)) → W'.heap[g]? = W.heap[g]? ∧ ¬ O' g) : FrL O' W' v x := by
  rcases h with h | ⟨h0, g, cap, arr, fr, h1, h2, h3, h4⟩
  · exact .inl h
  · obtain ⟨a, b⟩ := k g (Array.getElem?_eq_some_iff.1 h2).1 h4 ⟨arr, fr, h2⟩
    exact .inr ⟨h0, g, cap, arr, fr, h1, a.trans h2, h3, b⟩
theorem FrL.is {O : Nat → Prop} {W : World} {v : Value} {x : List Int} (h : FrL O W v x) : IS W v x := by
  rcases h with ⟨rfl, rfl⟩ | ⟨h0, g, cap, arr, fr, h1, h2, h3, h4⟩
  · exact ⟨none, 0, 0, 0, rfl, fun h => by simp at h, fun i hi => by simp at hi, fun h => by simp at h⟩
  · refine ⟨some ⟨g, 0, none⟩, g, 0, cap, h1, fun _ => rfl, fun i hi => ?_, fun _ => (Array.getElem?_eq_some_iff.1 h2).1⟩
    simp only [World.cell?, h2, Nat.zero_add]
    exact h3 i hi
/-- The first part and the others. -/
theorem append_fr {O O' : Nat → Prop} {W : World} {v : Value} {x : List Int} (ty : TypeId) (k : Int) (s : Nat) (h : FrL O W v x) (hl : x.length ≤ 1000) (hs : Cl s [.int .i64 k] 3 W) (hO1 : ¬ O' s) (hO2 : ¬ O' W.heap.size) :
    ∃ v' w', (Builtin.append_ #[36, 36] ty #[.slice (some ⟨s, 0, none⟩) 1 1, v]).run Tryd.prog W = .ok v' w' ∧ FrL O' w' v' (k :: x) ∧ W.grownBy w' (some s) := by
  obtain ⟨i0, hi, hz0, hz1, hz2⟩ := info_parts Tryd.infoIntL
  have hrow : W.ownsRow 0 3 1 (.slice (some ⟨s, 0, none⟩) 1 1) 1 [.int .i64 k] := by
    refine ⟨rfl, .inr ⟨s, 1, #[.int .i64 k], rfl, Nat.zero_le _, ?_, Nat.le_refl _, by simp [maxLen], rfl, rfl⟩⟩
    exact hs
  have fin : ∀ (v' : Value) (w' : World) (n : Nat), n = 1 + x.length → w'.ownsRow 0 3 1 v' n ([.int .i64 k] ++ ints x) → (v'.ownBlock = some s ∨ v'.ownBlock = some W.heap.size) → FrL O' w' v' (k :: x) := by
    intro v' w' n hn hr hb
    obtain ⟨h1, h2 | ⟨g, cap, cur, e1, e2, e3, e4, e5, e6, e7⟩⟩ := hr
    · omega
    · refine .inr ⟨by simp, g, cap, cur, _, by rw [e1, hn]; simp [Nat.add_comm], e3, fun j hj => ?_, ?_⟩
      · have h3 : (cur.toList.take (n * 1))[j]? = ([Value.int .i64 k] ++ ints x)[j]? := by rw [e7]
        simp only [List.length_cons] at hj
        rw [List.getElem?_take, if_pos (by omega)] at h3
        rw [← Array.getElem?_toList, h3]
        cases j with
        | zero => rfl
        | succ j =>
          have : j < x.length := by omega
          simp [ints, List.getD_eq_getElem?_getD, this]
      · rw [e1] at hb
        rcases hb with hb | hb
        · have : g = s := Option.some.inj hb
          rw [this]; exact hO1
        · have : g = W.heap.size := Option.some.inj hb
          rw [this]; exact hO2
  rcases h with ⟨rfl, rfl⟩ | ⟨h0, g, cap, arr, fr, rfl, h2, h3, h4⟩
  · have hrun := run_append_owned_none (P := Tryd.prog) (w := W) 0 36 ty 3 i0 1 Tryd.underlying36 hi _ _ _ hrow
    exact ⟨_, _, hrun, fin _ _ 1 rfl hrow (.inl rfl), ⟨rfl, rfl, rfl, Nat.le_refl _, fun _ _ _ => rfl⟩⟩
  · have hnews : ∀ j u, (ints x)[j]? = some u → W.cell? ((⟨g, 0, none⟩ : Addr).add j) = some u := by
      intro j u hj
      have hjl : j < x.length := by
        rcases Nat.lt_or_ge j x.length with c | c
        · exact c
        · rw [List.getElem?_eq_none (by simp [ints]; omega)] at hj; cases hj
      have hadd : (⟨g, 0, none⟩ : Addr).add j = ⟨g, j, none⟩ := by unfold Addr.add; split <;> simp_all
      rw [hadd]
      simp only [World.cell?, h2]
      rw [h3 j hjl, ← hj]
      simp [ints, hjl, List.getD_eq_getElem?_getD]
    obtain ⟨v', w', hr, h5, h6, h7, h8⟩ := run_append_own_at (P := Tryd.prog) W 0 36 ty 3 i0 (.int .i64 0) 1 8 Tryd.underlying36 hi hz0 hz1 hz2 rfl (by decide) _ _ _ hrow ⟨g, 0, none⟩ x.length cap (ints x) (by simp [ints]) hnews (by intro u hu; simp [ints] at hu; obtain ⟨y, _, rfl⟩ := hu; rfl) (by simp only [maxLen]; omega) (by omega) (Nat.zero_le _)
    exact ⟨v', w', hr, fin _ _ _ rfl h5 h8, h6⟩
/-- append, at an operation that stands alone, within a fence. -/
theorem operIn_append {F : Fence} {nF : Nat} {o : Oper} {a : Act} {K : Act → World → Prop} {Q : Exit → Act → World → Prop} (w : World) (s x : Operand) (t : TypeId)
    (ho : o.op = .call { callee := .builtin .append, args := #[s, x], argTypes := #[t, t] }) (vs vx v' : Value) (w' : World) (hs : a.eval s = vs) (hx : a.eval x = vx)
    (hr : (Builtin.append_ #[t, t] o.type #[vs, vx]).run Tryd.prog w = .ok v' w') (h : K (a.put o.dst v') w') : Oper.wpIn F nF Tryd.prog o a w K Q := by
  unfold Oper.wpIn
  refine ⟨by simp [Oper.about, ho, resolve, Target.leads, Sem.run_pure], ?_⟩
  rw [Oper.semAt_plain F _ _ (by rw [ho]; intro c hc'; cases hc')]
  simp [execOp, ho, resolve, invoke, builtin, hs, hx, hr, Result.andThen]
  exact h

set_option maxHeartbeats 1000000 in
theorem partitions_any (n m : Int) (w : World) :
    Calls Tryd.prog 26 #[.int .i64 n, .int .i64 m] w fun e w' => e = .returned (.func (.func 44) #[] #[.pointer (some ⟨w.heap.size, 0, none⟩), .pointer (some ⟨w.heap.size + 1, 0, none⟩)]) ∧ w' = (w.alloc (.cells #[.int .i64 n] 3)).alloc (.cells #[.int .i64 m] 3) := by
  go_enter Tryd.func26, Tryd.ntmps26
  go_wp2
  go_ret
  exact ⟨rfl, rfl⟩

def enL (x : List Int) (O : Nat → Prop) (W : World) (vs : Array Value) : Prop := ∃ v, vs = #[v] ∧ FrL O W v x
def AnyO (_ : Nat → Prop) : Prop := True
def CL (n m bn bm : Nat) (W : World) : Prop := Cl bn [.int .i64 (n : Int)] 3 W ∧ Cl bm [.int .i64 (m : Int)] 3 W

end Go.Proofs.YtmifenflbaohnaaDoor
