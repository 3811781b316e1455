/- The program: curve.read. -/
import Derived.Test.YtbeceimopamllaaDoorCuF
set_option linter.unusedSimpArgs false
set_option linter.unusedVariables false
set_option maxRecDepth 100000
namespace Go.Proofs.YtbeceimopamllaaDoor
open Go.RowKit EC

/-- A slice of points. -/
def PS (w : World) (s : Value) (l : List Pn) : Prop :=
  ∃ (aa : Option Addr) (g cap : Nat), s = .slice aa l.length cap ∧ (0 < l.length → aa = some ⟨g, 0, none⟩ ∧ g < w.heap.size) ∧
    ∀ i, i < l.length → w.cell? ⟨g, i * 3, none⟩ = some (.int .i64 (l.getD i farP).x) ∧ w.cell? ⟨g, i * 3 + 1, none⟩ = some (.int .i64 (l.getD i farP).y) ∧ w.cell? ⟨g, i * 3 + 2, none⟩ = some (.bool (l.getD i farP).far)
theorem PS.below {w w' : World} {s : Value} {l : List Pn} (h : PS w s l) (k : Below w.heap.size w w') : PS w' s l := by
  obtain ⟨aa, g, cap, e, h1, h2⟩ := h
  refine ⟨aa, g, cap, e, fun h => ⟨(h1 h).1, Nat.lt_of_lt_of_le (h1 h).2 k.size⟩, fun i hi => ?_⟩
  have hg := (h1 (by omega)).2
  have b := k.block g hg
  have e1 : ∀ o, w'.cell? ⟨g, o, none⟩ = w.cell? ⟨g, o, none⟩ := fun o => World.cell?_of_block b
  rw [e1, e1, e1]
  exact h2 i hi
theorem PS.nil (w : World) : PS w (.slice none 0 0) [] := ⟨none, 0, 0, rfl, fun h => by simp at h, fun i hi => by simp at hi⟩

/-- The fault of the first point that is none of the curve. -/
def rf (P : Nat) (a b : Int) : Nat → List Pn → Int × Int
  | _, [] => (0, 0)
  | i, q :: r => if hasB P a b q = true then rf P a b (i + 1) r else (10, 3 + i)
theorem rf_drop (P : Nat) (a b : Int) (l : List Pn) (i : Nat) (hi : i < l.length) : rf P a b i (l.drop i) = if hasB P a b (l.getD i farP) = true then rf P a b (i + 1) (l.drop (i + 1)) else (10, 3 + (i : Int)) := by
  rw [List.drop_eq_getElem_cons hi, rf, List.getD_eq_getElem?_getD, List.getElem?_eq_getElem hi, Option.getD_some]

/-- What read holds in memory. -/
structure Rm (h gb P : Nat) (a b : Int) (s : Value) (l : List Pn) (w W : World) : Prop where
  o : Cl h [.int .i64 0, .int .i64 0, .int .i64 0] 52 W
  f : Cl (h + 1) [.int .i64 0, .int .i64 0] 23 W
  g : Cl gb (Gl P a b) 52 W
  s : PS W s l
  ne : h + 1 < gb
  k : Below h w W
theorem Rm.below {h gb P : Nat} {a b : Int} {s : Value} {l : List Pn} {w W W' : World} (x : Rm h gb P a b s l w W) (c : Below W.heap.size W W') : Rm h gb P a b s l w W' :=
  ⟨x.o.below c, x.f.below c, x.g.below c, x.s.below c, x.ne, x.k.trans (c.mono (by have := x.o.lt; omega))⟩

/-- What read answers. -/
def Gz0 (P : Nat) (a b c : Int) : Value := if c = 0 then Gv P a b else .agg #[.int .i64 0, .int .i64 0, .int .i64 0]

set_option maxHeartbeats 2000000 in
theorem read_bad (p a b c d : Int) (s : Value) (w : World) (h : Cf p a b c d) (hc : c ≠ 0) (hs : ∃ aa n cap, s = .slice aa n cap) (hT : Tb w) :
    Calls Tryd.prog 25 #[.int .i64 p, .int .i64 a, .int .i64 b, s] w fun e w' => e = .returned (.tuple #[.agg #[.int .i64 0, .int .i64 0, .int .i64 0], .agg #[.int .i64 c, .int .i64 d]]) ∧ Below w.heap.size w w' := by
  obtain ⟨aa, n, cap, rfl⟩ := hs
  have HCk : Hid (∀ w, Tb w → Calls Tryd.prog 7 #[.int .i64 p, .int .i64 a, .int .i64 b] w fun e w' => e = .returned (.agg #[.int .i64 c, .int .i64 d]) ∧ Below w.heap.size w w') := fun w hT => cCheck_any p a b c d w h hT
  have HT : Hid (Tb w) := hT
  have hcb : (c != 0) = true := by simp [bne]; exact hc
  have O0 : Cl w.heap.size [.int .i64 0, .int .i64 0, .int .i64 0] 52 ((w.alloc (.cells #[.int .i64 0, .int .i64 0, .int .i64 0] 52)).alloc (.cells #[.int .i64 0, .int .i64 0] 23)) := (Cl.new _ _ w).alloc _
  have F0 : Cl (w.heap.size + 1) [.int .i64 0, .int .i64 0] 23 ((w.alloc (.cells #[.int .i64 0, .int .i64 0, .int .i64 0] 52)).alloc (.cells #[.int .i64 0, .int .i64 0] 23)) := cnew _ [.int .i64 0, .int .i64 0] _ _ (by simp)
  have K0 := al2 w (.cells #[.int .i64 0, .int .i64 0, .int .i64 0] 52) (.cells #[.int .i64 0, .int .i64 0] 23)
  have HTb : Hid (Tb ((w.alloc (.cells #[.int .i64 0, .int .i64 0, .int .i64 0] 52)).alloc (.cells #[.int .i64 0, .int .i64 0] 23))) := (hT.alloc _).alloc _
  clear h hc hT
  go_enter Tryd.func25, Tryd.ntmps25
  go_wp2_with fail
  refine (HCk.out _ HTb.out).mono ?_
  rintro e w1 ⟨rfl, k1⟩
  have O1 := (O0.below k1).alloc (.cells #[.int .i64 c, .int .i64 d] 23)
  have F1 := (F0.below k1).alloc (.cells #[.int .i64 c, .int .i64 d] 23)
  have C1 : Cl w1.heap.size [.int .i64 c, .int .i64 d] 23 (w1.alloc (.cells #[.int .i64 c, .int .i64 d] 23)) := Cl.new [.int .i64 c, .int .i64 d] _ w1
  have K1 : Below w.heap.size w w1 := K0.trans (k1.mono K0.size)
  have HK : Hid (Below w.heap.size w (w1.alloc (.cells #[.int .i64 c, .int .i64 d] 23))) := K1.alloc K1.size _
  have hz : w.heap.size + 1 < w1.heap.size := (F0.below k1).lt
  have n1 : ¬ w.heap.size = w1.heap.size := by omega
  have n2 : ¬ w1.heap.size = w.heap.size := by omega
  have n3 : ¬ w.heap.size + 1 = w1.heap.size := by omega
  have n4 : ¬ w1.heap.size = w.heap.size + 1 := by omega
  clear k1 O0 F0 K0 K1 HCk HTb hz
  go_wp2
  obtain ⟨W, hW⟩ : ∃ W, W = w1.alloc (.cells #[.int .i64 c, .int .i64 d] 23) := ⟨_, rfl⟩
  rw [← hW] at O1 F1 C1 HK ⊢
  clear hW
  have o0 : W.cell? ⟨w.heap.size, 0, none⟩ = some (.int .i64 0) := O1.cell 0
  have o1 : W.cell? ⟨w.heap.size, 1, none⟩ = some (.int .i64 0) := O1.cell 1
  have o2 : W.cell? ⟨w.heap.size, 2, none⟩ = some (.int .i64 0) := O1.cell 2
  have o3 := O1.frozen 0
  have o4 := O1.frozen 1
  have o5 := O1.frozen 2
  have f0 : W.cell? ⟨w.heap.size + 1, 0, none⟩ = some (.int .i64 0) := F1.cell 0
  have f1 : W.cell? ⟨w.heap.size + 1, 1, none⟩ = some (.int .i64 0) := F1.cell 1
  have f3 := F1.frozen 0
  have f4 := F1.frozen 1
  have c0 : W.cell? ⟨w1.heap.size, 0, none⟩ = some (.int .i64 c) := C1.cell 0
  have c1 : W.cell? ⟨w1.heap.size, 1, none⟩ = some (.int .i64 d) := C1.cell 1
  have HO : Hid (Cl w.heap.size [.int .i64 0, .int .i64 0, .int .i64 0] 52 W ∧ Cl (w.heap.size + 1) [.int .i64 0, .int .i64 0] 23 W) := ⟨O1, F1⟩
  clear O1 F1 C1
  go_region
  all_goals
    go_wp2
    refine bodyPost_ret (v := .tuple #[.agg #[.int .i64 0, .int .i64 0, .int .i64 0], .agg #[.int .i64 c, .int .i64 d]]) (by simp [results, Tryd.results25, go_sem, o0, o1, o2, f0, f1]) rfl ⟨rfl, ?_⟩
    first
    | exact (Below.setCell (Below.setCell (Below.setCell (Below.setCell (Below.setCell HK.out.drew (by simp) _) (by simp) _) (by simp) _) (by simp) _) (by simp) _)
    | exact (Below.setCell (Below.setCell (Below.setCell (Below.setCell (Below.setCell HK.out (by simp) _) (by simp) _) (by simp) _) (by simp) _) (by simp) _).drew
  done
end Go.Proofs.YtbeceimopamllaaDoor
