/- The examples of the document: formBegun. -/
import Derived.Test.YtijkanilpblogaeQcJ
import Derived.Test.YtijkanilpblogaeQcG
set_option linter.unusedSimpArgs false
set_option linter.unusedVariables false
set_option maxRecDepth 100000
namespace Go.Proofs.Ytijkanilpblogae
open Go.RowKit

theorem begun_cz : MQ.Cz ⟨2, 1, 3⟩ ⟨2, 1, 3⟩ ⟨2, -1, 3⟩ := by
  have pm : MQ.Pm ⟨2, 1, 3⟩ := ⟨0, 1, 0, by decide⟩
  obtain ⟨c, hc, hdc, hco⟩ := MQ.comp_all (f := ⟨2, 1, 3⟩) (g := ⟨2, 1, 3⟩) (e := 1) (A := 2) (B := 2) (S := 1) (u := 0) (v := 0) (w := 1) (d2 := 0) (L := 1) (by decide) (by decide) rfl pm (by decide) (by decide) (by decide) (by decide) (by decide) (by decide) (by decide)
  obtain rfl : c = 3 := by simp only [] at hc; omega
  refine (MQ.comp_cz (h := ⟨4, 5, 3⟩) (m := ⟨-1, 0, 1, -1⟩) (by decide) (by decide) (by decide) (by decide) (by decide) rfl (by decide) pm pm hco ⟨by decide, by decide, fun x y => ?_⟩).1
  simp only [Qf.at]; grind

theorem begun_fault : ffault ⟨2, 1, 3⟩ = (0, 0) := by decide
theorem begun_len : (classesTo (-23) 2).length = 3 := by decide +kernel

set_option maxHeartbeats 4000000 in
theorem formBegun_any (w : World) : Calls Try.prog 9 #[] w fun e w' => e = .returned (.bool true) ∧ Below w.heap.size w w' := by
  have HC : Hid (∀ w, Calls Try.prog 13 #[.agg #[.int .i64 2, .int .i64 1, .int .i64 3], .agg #[.int .i64 2, .int .i64 1, .int .i64 3]] w fun e w' => e = .returned (.tuple #[.agg #[.int .i64 2, .int .i64 (-1), .int .i64 3], .agg #[.int .i64 0, .int .i64 0]]) ∧ Below w.heap.size w w') := fun w => by
    have hc : compF ⟨2, 1, 3⟩ ⟨2, 1, 3⟩ = (0, 0) := compF_ok begun_fault begun_fault rfl
    refine (Compose_any ⟨2, 1, 3⟩ ⟨2, 1, 3⟩ w).mono ?_
    rintro e w' ⟨h, rfl, ho, k⟩
    have h1 := MQ.Cz.one (by decide) (ho.good hc).1 begun_cz
    rw [h1, hc]
    exact ⟨rfl, k⟩
  have HK : Hid (∀ w, Calls Try.prog 8 #[.int .i64 (-23)] w fun e w' => (∃ (a : Option Addr) (c : Nat), e = .returned (.tuple #[.slice a 3 c, .agg #[.int .i64 0, .int .i64 0]])) ∧ Below w.heap.size w w') := fun w => by
    refine (Classes_any (-23) w).mono ?_
    rintro e w' ⟨a, c, l, rfl, _, hl, _, k⟩
    have hcf : cfault (-23) = (0, 0) := by decide
    obtain ⟨n, hn, hl2⟩ := hl hcf
    obtain rfl : n = 2 := top_one hn.1 hn.2 (by decide) (by decide)
    refine ⟨⟨a, c, ?_⟩, k⟩
    rw [hl2, begun_len, hcf]
  go_enter Try.func9, Try.ntmps9
  go_wp2_with fail
  refine (HC.out _).mono ?_
  rintro e w1 ⟨rfl, k1⟩
  obtain ⟨W2, hW2⟩ : ∃ W2, W2 = (w1.alloc (.cells #[.int .i64 2, .int .i64 (-1), .int .i64 3] 32)).alloc (.cells #[.int .i64 0, .int .i64 0] 24) := ⟨_, rfl⟩
  have K1 : Below w.heap.size w w1 := (al1 w (.cells #[.int .i64 2, .int .i64 1, .int .i64 3] 32)).trans (k1.mono (by simp))
  have k2 : Below w1.heap.size w1 W2 := by rw [hW2]; exact (al1 w1 _).trans ((al1 _ _).mono (by simp))
  have K2 : Below w.heap.size w W2 := K1.trans (k2.mono K1.size)
  have G2 : Cl w1.heap.size [.int .i64 2, .int .i64 (-1), .int .i64 3] 32 W2 := by rw [hW2]; exact (Cl.new [.int .i64 2, .int .i64 (-1), .int .i64 3] _ w1).alloc _
  have E2 : Sv (w1.heap.size + 1) 0 0 W2 := by rw [hW2]; exact sv_new0 _ _ _ (by simp) _ _
  go_wp2_with fail
  rw [← hW2]
  clear hW2
  refine (HK.out _).mono ?_
  rintro e w3 ⟨⟨a, c, rfl⟩, k3⟩
  have k4 := k3.trans ((al1 w3 (.cells #[.int .i64 0, .int .i64 0] 24)).mono k3.size)
  have G4 := G2.below k4
  have E4 := E2.below k4
  have HK4 : Hid (Below w.heap.size w (w3.alloc (.cells #[.int .i64 0, .int .i64 0] 24))) := K2.trans (k4.mono K2.size)
  have g0 := G4.cell 0
  have g1 := G4.cell 1
  have g2 := G4.cell 2
  have e0 := E4.c0
  have e1 := E4.c1
  simp at g0 g1 g2
  clear k1 k2 k3 k4 K1 K2 G2 E2 G4 E4 HC HK
  go_wp2
  go_ret
  exact ⟨rfl, HK4.out⟩

/-- What the laws ask of the program. -/
theorem form_is : FormIs (fun _ => True) := ⟨fun _ _ _ _ => trivial, fun w _ => formBegun_any w, Check_any, Reduce_any⟩
theorem classes_is : ClassesIs (fun _ => True) := ⟨fun _ _ _ _ => trivial, fun w _ => formBegun_any w, Classes_any⟩

end Go.Proofs.Ytijkanilpblogae
