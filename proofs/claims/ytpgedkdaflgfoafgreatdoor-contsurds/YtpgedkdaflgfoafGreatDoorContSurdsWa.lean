/- ContSurds: the ways with a fault. -/
import Derived.Test.YtpgedkdaflgfoafGreatDoorRqC
import Derived.Test.YtpgedkdaflgfoafGreatDoorRqE
import Derived.Test.YtpgedkdaflgfoafGreatDoorRqF
import Derived.Test.YtpgedkdaflgfoafGreatDoorCgL
set_option linter.unusedSimpArgs false
set_option linter.unusedVariables false
set_option maxRecDepth 100000
namespace Go.Proofs.YtpgedkdaflgfoafGreatDoor
open Go.RowKit LgM CfM

/-- Boxes of two numbers that stand, and the table. -/
structure Bx (w W : World) (L : List (Nat × List Value)) : Prop where
  k : Below w.heap.size w W
  t0 : Tq w
  cl : ∀ b l, (b, l) ∈ L → Cl b l 25 W
theorem Bx.t {w W : World} {L : List (Nat × List Value)} (h : Bx w W L) : Tq W := h.t0.below h.k
theorem Bx.go {w W V : World} {L : List (Nat × List Value)} (h : Bx w W L) (k : Below W.heap.size W V) : Bx w V L :=
  ⟨h.k.trans (k.mono h.k.size), h.t0, fun b l hb => (h.cl b l hb).below k⟩
theorem Bx.box {w W : World} {L : List (Nat × List Value)} (h : Bx w W L) (x y : Value) : Bx w (W.alloc (.cells #[x, y] 25)) ((W.heap.size, [x, y]) :: L) := by
  have k := h.go (Below.alloc_self' W (.cells #[x, y] 25))
  refine ⟨k.k, k.t0, fun b l hb => ?_⟩
  rcases List.mem_cons.1 hb with e | e
  · simp only [Prod.mk.injEq] at e
    obtain ⟨rfl, rfl⟩ := e
    exact Cl.new [x, y] _ W
  · exact k.cl b l e
theorem Bx.one {w w1 : World} (hT : Tq w) (k : Below w.heap.size w w1) (x y : Value) : Bx w (w1.alloc (.cells #[x, y] 25)) [(w1.heap.size, [x, y])] :=
  (Bx.box (L := []) ⟨k, hT, fun _ _ h => by cases h⟩ x y)
theorem Bx.set {w W : World} {b : Nat} {x y u v : Value} {L : List (Nat × List Value)} (h : Bx w W ((b, [x, y]) :: L)) (hb : w.heap.size ≤ b) (hL : ∀ p ∈ L, p.1 ≠ b) : Bx w ((W.setCell ⟨b, 0, none⟩ u).setCell ⟨b, 1, none⟩ v) ((b, [u, v]) :: L) := by
  refine ⟨(h.k.setCell (p := ⟨b, 0, none⟩) hb u).setCell (p := ⟨b, 1, none⟩) hb v, h.t0, fun c l hc => ?_⟩
  rcases List.mem_cons.1 hc with e | e
  · simp only [Prod.mk.injEq] at e
    obtain ⟨rfl, rfl⟩ := e
    exact ((h.cl c [x, y] (by simp)).set 0 u).set 1 v
  · have hne : c ≠ b := hL (c, l) e
    exact ((h.cl c l (List.mem_cons_of_mem _ e)).other (p := ⟨b, 0, none⟩) hne u).other (p := ⟨b, 1, none⟩) hne v

theorem sq_uniq {n r s : Nat} (h : Rn n r) (k : (s : Int) * s = (n : Int)) : False := rn_nosq h (s := s) (by rw [← Int.natCast_mul] at k; omega)

set_option maxHeartbeats 4000000 in
theorem cs_fault (d c : Int) (w : World) (hc : c = 3 ∨ c = 7) (hT : Tq w)
    (hSu : ∀ w, Calls Tryz.prog 12 #[.int .i64 d] w fun e w' => e = .returned (.tuple #[.int .i64 0, .slice none 0 0, .agg #[.int .i64 c, .int .i64 0]]) ∧ Below w.heap.size w w')
    (hPe : ∀ w, Tq w → Calls Tryz.prog 13 #[.int .i64 d] w fun e w' => e = .returned (.tuple #[.string ⟨#[]⟩, .string ⟨#[]⟩, .agg #[.int .i64 c, .int .i64 0]]) ∧ Below w.heap.size w w')
    (hSf : ∀ w, Calls Tryz.prog 14 #[.int .i64 d] w fun e w' => e = .returned (.agg #[.int .i64 c, .int .i64 0]) ∧ Below w.heap.size w w') :
    Calls Tryz.prog 4 #[.int .i64 d] w fun e w' => e = .returned (.bool true) ∧ Below w.heap.size w w' := by
  have HT : Hid (Tq w) := hT
  have HSu : Hid (∀ w, Calls Tryz.prog 12 #[.int .i64 d] w fun e w' => e = .returned (.tuple #[.int .i64 0, .slice none 0 0, .agg #[.int .i64 c, .int .i64 0]]) ∧ Below w.heap.size w w') := hSu
  have HPe : Hid (∀ w, Tq w → Calls Tryz.prog 13 #[.int .i64 d] w fun e w' => e = .returned (.tuple #[.string ⟨#[]⟩, .string ⟨#[]⟩, .agg #[.int .i64 c, .int .i64 0]]) ∧ Below w.heap.size w w') := hPe
  have HSf : Hid (∀ w, Calls Tryz.prog 14 #[.int .i64 d] w fun e w' => e = .returned (.agg #[.int .i64 c, .int .i64 0]) ∧ Below w.heap.size w w') := hSf
  clear hT hSu hPe hSf
  rcases hc with rfl | rfl
  · go_enter Tryz.func4, Tryz.ntmps4
    go_wp2_with fail
    refine (HSu.out w).mono ?_
    rintro e w1 ⟨rfl, k1⟩
    have hM1 := Bx.one HT.out k1 (.int .i64 3) (.int .i64 0)
    clear HT HSu k1
    go_wp2_with fail
    generalize hW1 : (w1.alloc (.cells #[.int .i64 3, .int .i64 0] 25)) = W1 at hM1 ⊢
    have HM1 : Hid (Bx w W1 [(w1.heap.size, [.int .i64 3, .int .i64 0])]) := hM1
    have z1 : W1.heap.size = w1.heap.size + 1 := by rw [← hW1]; simp
    clear hM1 hW1
    refine (HPe.out W1 HM1.out.t).mono ?_
    rintro e w2 ⟨rfl, k2⟩
    have s2 := k2.size
    have hM2 := (HM1.out.go k2).box (.int .i64 3) (.int .i64 0)
    clear HM1 HPe k2
    go_wp2_with fail
    generalize hW2 : (w2.alloc (.cells #[.int .i64 3, .int .i64 0] 25)) = W2 at hM2 ⊢
    have HM2 : Hid (Bx w W2 [(w2.heap.size, [.int .i64 3, .int .i64 0]), (w1.heap.size, [.int .i64 3, .int .i64 0])]) := hM2
    have z2 : W2.heap.size = w2.heap.size + 1 := by rw [← hW2]; simp
    clear hM2 hW2
    refine (HSf.out W2).mono ?_
    rintro e w3 ⟨rfl, k3⟩
    have s3 := k3.size
    have hM3 := (HM2.out.go k3).box (.int .i64 3) (.int .i64 0)
    clear HM2 HSf k3
    have c0 := (hM3.cl w3.heap.size [.int .i64 3, .int .i64 0] (by simp)).cell 0
    simp only [List.getElem?_cons_zero] at c0
    go_wp2_with fail
    generalize hW3 : (w3.alloc (.cells #[.int .i64 3, .int .i64 0] 25)) = W3 at hM3 ⊢
    have HM3 : Hid (Bx w W3 [(w3.heap.size, [.int .i64 3, .int .i64 0]), (w2.heap.size, [.int .i64 3, .int .i64 0]), (w1.heap.size, [.int .i64 3, .int .i64 0])]) := hM3
    clear hM3 hW3 c0
    refine (contBegun_any W3 HM3.out.t).mono ?_
    rintro e w4 ⟨rfl, k4⟩
    have hM4 := HM3.out.go k4
    clear HM3 k4
    have HB : Hid (Below w.heap.size w w4) := hM4.k
    have a0 := (hM4.cl w3.heap.size [.int .i64 3, .int .i64 0] (by simp)).cell 0
    have a1 := (hM4.cl w3.heap.size [.int .i64 3, .int .i64 0] (by simp)).cell 1
    have b0 := (hM4.cl w2.heap.size [.int .i64 3, .int .i64 0] (by simp)).cell 0
    have b1 := (hM4.cl w2.heap.size [.int .i64 3, .int .i64 0] (by simp)).cell 1
    have d0 := (hM4.cl w1.heap.size [.int .i64 3, .int .i64 0] (by simp)).cell 0
    have d1 := (hM4.cl w1.heap.size [.int .i64 3, .int .i64 0] (by simp)).cell 1
    simp at a0 a1 b0 b1 d0 d1
    clear hM4
    go_wp2
    go_ret
    exact ⟨rfl, HB.out⟩
  · go_enter Tryz.func4, Tryz.ntmps4
    go_wp2_with fail
    refine (HSu.out w).mono ?_
    rintro e w1 ⟨rfl, k1⟩
    have hM1 := Bx.one HT.out k1 (.int .i64 7) (.int .i64 0)
    clear HT HSu k1
    go_wp2_with fail
    generalize hW1 : (w1.alloc (.cells #[.int .i64 7, .int .i64 0] 25)) = W1 at hM1 ⊢
    have HM1 : Hid (Bx w W1 [(w1.heap.size, [.int .i64 7, .int .i64 0])]) := hM1
    have z1 : W1.heap.size = w1.heap.size + 1 := by rw [← hW1]; simp
    clear hM1 hW1
    refine (HPe.out W1 HM1.out.t).mono ?_
    rintro e w2 ⟨rfl, k2⟩
    have s2 := k2.size
    have hM2 := (HM1.out.go k2).box (.int .i64 7) (.int .i64 0)
    clear HM1 HPe k2
    go_wp2_with fail
    generalize hW2 : (w2.alloc (.cells #[.int .i64 7, .int .i64 0] 25)) = W2 at hM2 ⊢
    have HM2 : Hid (Bx w W2 [(w2.heap.size, [.int .i64 7, .int .i64 0]), (w1.heap.size, [.int .i64 7, .int .i64 0])]) := hM2
    have z2 : W2.heap.size = w2.heap.size + 1 := by rw [← hW2]; simp
    clear hM2 hW2
    refine (HSf.out W2).mono ?_
    rintro e w3 ⟨rfl, k3⟩
    have s3 := k3.size
    have hM3 := (HM2.out.go k3).box (.int .i64 7) (.int .i64 0)
    clear HM2 HSf k3
    have c0 := (hM3.cl w3.heap.size [.int .i64 7, .int .i64 0] (by simp)).cell 0
    simp only [List.getElem?_cons_zero] at c0
    go_wp2_with fail
    generalize hW3 : (w3.alloc (.cells #[.int .i64 7, .int .i64 0] 25)) = W3 at hM3 ⊢
    have HM3 : Hid (Bx w W3 [(w3.heap.size, [.int .i64 7, .int .i64 0]), (w2.heap.size, [.int .i64 7, .int .i64 0]), (w1.heap.size, [.int .i64 7, .int .i64 0])]) := hM3
    clear hM3 hW3 c0
    refine (contBegun_any W3 HM3.out.t).mono ?_
    rintro e w4 ⟨rfl, k4⟩
    have hM4 := HM3.out.go k4
    clear HM3 k4
    have HB : Hid (Below w.heap.size w w4) := hM4.k
    have a0 := (hM4.cl w3.heap.size [.int .i64 7, .int .i64 0] (by simp)).cell 0
    have a1 := (hM4.cl w3.heap.size [.int .i64 7, .int .i64 0] (by simp)).cell 1
    have b0 := (hM4.cl w2.heap.size [.int .i64 7, .int .i64 0] (by simp)).cell 0
    have b1 := (hM4.cl w2.heap.size [.int .i64 7, .int .i64 0] (by simp)).cell 1
    have d0 := (hM4.cl w1.heap.size [.int .i64 7, .int .i64 0] (by simp)).cell 0
    have d1 := (hM4.cl w1.heap.size [.int .i64 7, .int .i64 0] (by simp)).cell 1
    simp at a0 a1 b0 b1 d0 d1
    clear hM4
    go_wp2
    go_ret
    exact ⟨rfl, HB.out⟩

end Go.Proofs.YtpgedkdaflgfoafGreatDoor
