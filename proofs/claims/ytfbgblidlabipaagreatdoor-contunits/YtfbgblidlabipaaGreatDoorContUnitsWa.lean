/- The law ContUnits: faults, numbers that a square divides, lists that are too long. Written by mkcu.py. -/
import Derived.Test.YtfbgblidlabipaaGreatDoorJnT
import Derived.Test.YtfbgblidlabipaaGreatDoorUtA
import Derived.Test.YtfbgblidlabipaaGreatDoorJnG
import Derived.Deep.LoopGhost
set_option linter.unusedSimpArgs false
set_option linter.unusedVariables false
set_option maxRecDepth 100000
namespace Go.Proofs.YtfbgblidlabipaaGreatDoor
open Go.RowKit LgM CfM UtM

set_option maxHeartbeats 8000000 in
theorem cu_f3 (d : Int) (w : World) (hT : Tq w) (hUn : Calls Tryz.prog 15 #[.int .i64 d] w fun e w' => e = unF 3 ∧ Below w.heap.size w w') (hSf : ∀ w, Calls Tryz.prog 16 #[.int .i64 d] w fun e w' => e = .returned (.agg #[.int .i64 3, .int .i64 0]) ∧ Below w.heap.size w w') :
    Calls Tryz.prog 4 #[.int .i64 d] w fun e w' => e = .returned (.bool true) ∧ Below w.heap.size w w' := by
  have HT : Hid (Tq w) := hT
  have HUn : Hid (Calls Tryz.prog 15 #[.int .i64 d] w fun e w' => e = .returned (.tuple #[.string ⟨#[]⟩, .string ⟨#[]⟩, .int .i64 0, .agg #[.int .i64 3, .int .i64 0]]) ∧ Below w.heap.size w w') := hUn
  have HSf : Hid (∀ w, Calls Tryz.prog 16 #[.int .i64 d] w fun e w' => e = .returned (.agg #[.int .i64 3, .int .i64 0]) ∧ Below w.heap.size w w') := hSf
  clear hT hUn hSf
  go_enter Tryz.func4, Tryz.ntmps4
  go_wp2_with fail
  refine HUn.out.mono ?_
  rintro e w1 ⟨rfl, k1⟩
  have hM1 := Bx.one HT.out k1 (.int .i64 3) (.int .i64 0)
  have hwz : w.heap.size ≤ w1.heap.size := k1.size
  clear HT HUn k1
  go_wp2_with fail
  generalize hW1 : (w1.alloc (.cells #[.int .i64 3, .int .i64 0] 25)) = W1 at hM1 ⊢
  have HM1 : Hid (Bx w W1 [(w1.heap.size, [.int .i64 3, .int .i64 0])]) := hM1
  have z1 : W1.heap.size = w1.heap.size + 1 := by rw [← hW1]; simp
  clear hM1 hW1
  refine (HSf.out W1).mono ?_
  rintro e w2 ⟨rfl, k2⟩
  have s2 := k2.size
  have hM2 := (HM1.out.go k2).box (.int .i64 3) (.int .i64 0)
  clear HM1 HSf k2
  go_wp2_with fail
  generalize hW2 : (w2.alloc (.cells #[.int .i64 3, .int .i64 0] 25)) = W2 at hM2 ⊢
  have HM2 : Hid (Bx w W2 [(w2.heap.size, [.int .i64 3, .int .i64 0]), (w1.heap.size, [.int .i64 3, .int .i64 0])]) := hM2
  clear hM2 hW2
  refine (contBegun_any W2 HM2.out.t).mono ?_
  rintro e w3 ⟨rfl, k3⟩
  have HM3 : Hid (Bx w w3 [(w2.heap.size, [.int .i64 3, .int .i64 0]), (w1.heap.size, [.int .i64 3, .int .i64 0])]) := HM2.out.go k3
  clear HM2 k3
  have a0 := (HM3.out.cl w2.heap.size [.int .i64 3, .int .i64 0] (by simp)).cell 0
  have a1 := (HM3.out.cl w2.heap.size [.int .i64 3, .int .i64 0] (by simp)).cell 1
  have d0 := (HM3.out.cl w1.heap.size [.int .i64 3, .int .i64 0] (by simp)).cell 0
  have d1 := (HM3.out.cl w1.heap.size [.int .i64 3, .int .i64 0] (by simp)).cell 1
  simp only [List.getElem?_cons_zero, List.getElem?_cons_succ] at a0 a1 d0 d1
  go_wp2
  go_ret
  exact ⟨rfl, HM3.out.k⟩

set_option maxHeartbeats 8000000 in
theorem cu_f7 (d : Int) (w : World) (hT : Tq w) (hUn : Calls Tryz.prog 15 #[.int .i64 d] w fun e w' => e = unF 7 ∧ Below w.heap.size w w') (hSf : ∀ w, Calls Tryz.prog 16 #[.int .i64 d] w fun e w' => e = .returned (.agg #[.int .i64 7, .int .i64 0]) ∧ Below w.heap.size w w') :
    Calls Tryz.prog 4 #[.int .i64 d] w fun e w' => e = .returned (.bool true) ∧ Below w.heap.size w w' := by
  have HT : Hid (Tq w) := hT
  have HUn : Hid (Calls Tryz.prog 15 #[.int .i64 d] w fun e w' => e = .returned (.tuple #[.string ⟨#[]⟩, .string ⟨#[]⟩, .int .i64 0, .agg #[.int .i64 7, .int .i64 0]]) ∧ Below w.heap.size w w') := hUn
  have HSf : Hid (∀ w, Calls Tryz.prog 16 #[.int .i64 d] w fun e w' => e = .returned (.agg #[.int .i64 7, .int .i64 0]) ∧ Below w.heap.size w w') := hSf
  clear hT hUn hSf
  go_enter Tryz.func4, Tryz.ntmps4
  go_wp2_with fail
  refine HUn.out.mono ?_
  rintro e w1 ⟨rfl, k1⟩
  have hM1 := Bx.one HT.out k1 (.int .i64 7) (.int .i64 0)
  have hwz : w.heap.size ≤ w1.heap.size := k1.size
  clear HT HUn k1
  go_wp2_with fail
  generalize hW1 : (w1.alloc (.cells #[.int .i64 7, .int .i64 0] 25)) = W1 at hM1 ⊢
  have HM1 : Hid (Bx w W1 [(w1.heap.size, [.int .i64 7, .int .i64 0])]) := hM1
  have z1 : W1.heap.size = w1.heap.size + 1 := by rw [← hW1]; simp
  clear hM1 hW1
  refine (HSf.out W1).mono ?_
  rintro e w2 ⟨rfl, k2⟩
  have s2 := k2.size
  have hM2 := (HM1.out.go k2).box (.int .i64 7) (.int .i64 0)
  clear HM1 HSf k2
  go_wp2_with fail
  generalize hW2 : (w2.alloc (.cells #[.int .i64 7, .int .i64 0] 25)) = W2 at hM2 ⊢
  have HM2 : Hid (Bx w W2 [(w2.heap.size, [.int .i64 7, .int .i64 0]), (w1.heap.size, [.int .i64 7, .int .i64 0])]) := hM2
  clear hM2 hW2
  refine (contBegun_any W2 HM2.out.t).mono ?_
  rintro e w3 ⟨rfl, k3⟩
  have HM3 : Hid (Bx w w3 [(w2.heap.size, [.int .i64 7, .int .i64 0]), (w1.heap.size, [.int .i64 7, .int .i64 0])]) := HM2.out.go k3
  clear HM2 k3
  have a0 := (HM3.out.cl w2.heap.size [.int .i64 7, .int .i64 0] (by simp)).cell 0
  have a1 := (HM3.out.cl w2.heap.size [.int .i64 7, .int .i64 0] (by simp)).cell 1
  have d0 := (HM3.out.cl w1.heap.size [.int .i64 7, .int .i64 0] (by simp)).cell 0
  have d1 := (HM3.out.cl w1.heap.size [.int .i64 7, .int .i64 0] (by simp)).cell 1
  simp only [List.getElem?_cons_zero, List.getElem?_cons_succ] at a0 a1 d0 d1
  go_wp2
  go_ret
  exact ⟨rfl, HM3.out.k⟩

set_option maxHeartbeats 8000000 in
theorem cu_sq (n r : Nat) (w : World) (hT : Tq w) (hn1 : 2 ≤ n) (hn : n ≤ 1000000) (hs : SqF n) (hUn : Calls Tryz.prog 15 #[.int .i64 (n : Int)] w fun e w' => e = unF 7 ∧ Below w.heap.size w w') (hSf : ∀ w, Calls Tryz.prog 16 #[.int .i64 (n : Int)] w fun e w' => e = .returned (.agg #[.int .i64 0, .int .i64 0]) ∧ Below w.heap.size w w') :
    Calls Tryz.prog 4 #[.int .i64 (n : Int)] w fun e w' => e = .returned (.bool true) ∧ Below w.heap.size w w' := by
  have HN : Hid (2 ≤ n ∧ n ≤ 1000000) := ⟨hn1, hn⟩
  have HS : Hid (SqF n) := hs
  clear hs hn1
  have HT : Hid (Tq w) := hT
  have HUn : Hid (Calls Tryz.prog 15 #[.int .i64 (n : Int)] w fun e w' => e = .returned (.tuple #[.string ⟨#[]⟩, .string ⟨#[]⟩, .int .i64 0, .agg #[.int .i64 7, .int .i64 0]]) ∧ Below w.heap.size w w') := hUn
  have HSf : Hid (∀ w, Calls Tryz.prog 16 #[.int .i64 (n : Int)] w fun e w' => e = .returned (.agg #[.int .i64 0, .int .i64 0]) ∧ Below w.heap.size w w') := hSf
  clear hT hUn hSf
  go_enter Tryz.func4, Tryz.ntmps4
  go_wp2_with fail
  refine HUn.out.mono ?_
  rintro e w1 ⟨rfl, k1⟩
  have hM1 := Bx.one HT.out k1 (.int .i64 7) (.int .i64 0)
  have hwz : w.heap.size ≤ w1.heap.size := k1.size
  clear HT HUn k1
  go_wp2_with fail
  generalize hW1 : (w1.alloc (.cells #[.int .i64 7, .int .i64 0] 25)) = W1 at hM1 ⊢
  have HM1 : Hid (Bx w W1 [(w1.heap.size, [.int .i64 7, .int .i64 0])]) := hM1
  have z1 : W1.heap.size = w1.heap.size + 1 := by rw [← hW1]; simp
  clear hM1 hW1
  refine (HSf.out W1).mono ?_
  rintro e w2 ⟨rfl, k2⟩
  have s2 := k2.size
  have hM2 := (HM1.out.go k2).box (.int .i64 0) (.int .i64 0)
  clear HM1 HSf k2
  go_wp2_with fail
  generalize hW2 : (w2.alloc (.cells #[.int .i64 0, .int .i64 0] 25)) = W2 at hM2 ⊢
  have HM2 : Hid (Bx w W2 [(w2.heap.size, [.int .i64 0, .int .i64 0]), (w1.heap.size, [.int .i64 7, .int .i64 0])]) := hM2
  clear hM2 hW2
  refine (contBegun_any W2 HM2.out.t).mono ?_
  rintro e w3 ⟨rfl, k3⟩
  have HM3 : Hid (Bx w w3 [(w2.heap.size, [.int .i64 0, .int .i64 0]), (w1.heap.size, [.int .i64 7, .int .i64 0])]) := HM2.out.go k3
  clear HM2 k3
  have a0 := (HM3.out.cl w2.heap.size [.int .i64 0, .int .i64 0] (by simp)).cell 0
  simp only [List.getElem?_cons_zero] at a0
  have hb12 : w1.heap.size < w2.heap.size := by omega
  go_wp2
  clear a0
  go_loopg [8] 1001 (fun k v8 wx => ∃ (p : Nat) (c : Int), v8 = .int .i64 (p : Int) ∧ 2 ≤ p ∧ p + k = 1003 ∧ Hid (Bx w wx [(w2.heap.size, [.int .i64 c, .int .i64 0]), (w1.heap.size, [.int .i64 7, .int .i64 0])] ∧ (c = 0 ∧ (∀ p', 2 ≤ p' → p' < p → ¬ p' * p' ∣ n) ∨ c = 7 ∧ SqF n)))
  case atStart => exact ⟨2, 0, rfl, by omega, by omega, HM3.out, .inl ⟨rfl, fun p' h1 h2 => by omega⟩⟩
  case round =>
    clear HM3
    obtain ⟨p, c, rfl, hp2, hpk, HI⟩ := hrel
    obtain ⟨PP, hPP⟩ : ∃ PP : Nat, PP = p * p := ⟨_, rfl⟩
    have hPPI : (p : Int) * (p : Int) = (PP : Int) := by rw [hPP, Int.natCast_mul]
    have hPPb : PP ≤ 1006009 := by rw [hPP]; exact Nat.mul_le_mul (show p ≤ 1003 by omega) (show p ≤ 1003 by omega)
    have hPP4 : 4 ≤ PP := by rw [hPP]; exact Nat.mul_le_mul hp2 hp2
    have HPP : Hid (PP = p * p) := hPP
    clear hPP
    by_cases hle : PP ≤ n
    · have hleb : decide ((PP : Int) ≤ (n : Int)) = true := decide_eq_true (by omega)
      have hz : ((PP : Int) == 0) = false := beq_eq_false_iff_ne.2 (by omega)
      have hp1000 : p ≤ 1000 := by
        rcases Nat.lt_or_ge 1000 p with h | h
        · have h2 := Nat.mul_le_mul h h
          have h3 := HPP.out
          have h4 := HN.out
          omega
        · exact h
      by_cases hdv : n % PP = 0
      · have hm0 : ((n : Int) % (PP : Int) == 0) = true := beq_iff_eq.2 (by rw [← Int.natCast_emod, hdv]; rfl)
        have HDv : Hid (SqF n) := ⟨p, hp2, by rw [← HPP.out]; exact Nat.dvd_of_mod_eq_zero hdv⟩
        clear hdv
        go_wp2_with fail
        refine (F_any 7 0 wr).mono ?_
        rintro e w5 ⟨rfl, k5⟩
        have HM5 : Hid (Bx w w5 [(w2.heap.size, [.int .i64 c, .int .i64 0]), (w1.heap.size, [.int .i64 7, .int .i64 0])]) := HI.out.1.go k5
        have C5 := HM5.out.cl w2.heap.size [.int .i64 c, .int .i64 0] (by simp)
        have c0 := C5.cell 0
        have c1 := C5.cell 1
        have f0 := C5.frozen 0
        have f1 := C5.frozen 1
        simp only [List.getElem?_cons_zero, List.getElem?_cons_succ] at c0 c1
        have HM6 : Hid (Bx w ((w5.setCell ⟨w2.heap.size, 0, none⟩ (.int .i64 7)).setCell ⟨w2.heap.size, 1, none⟩ (.int .i64 0)) [(w2.heap.size, [.int .i64 7, .int .i64 0]), (w1.heap.size, [.int .i64 7, .int .i64 0])]) := HM5.out.set (by omega) (by simp; omega)
        clear C5 k5 HM5
        go_wp2
        go_roundg (gk - 1)
        case rel => exact ⟨p + 1, 7, by simp, by omega, by omega, HM6.out, .inr ⟨rfl, HDv.out⟩⟩
        case measure => omega
      · have hm0 : ((n : Int) % (PP : Int) == 0) = false := beq_eq_false_iff_ne.2 (by intro e; rw [← Int.natCast_emod] at e; exact hdv (by omega))
        have HDv : Hid (¬ n % PP = 0) := hdv
        clear hdv
        go_wp2
        go_roundg (gk - 1)
        case rel =>
          refine ⟨p + 1, c, by simp, by omega, by omega, HI.out.1, ?_⟩
          rcases HI.out.2 with ⟨h1, h2⟩ | h
          · refine .inl ⟨h1, fun p' h3 h4 => ?_⟩
            rcases Nat.lt_or_ge p' p with h5 | h5
            · exact h2 p' h3 h5
            · obtain rfl : p' = p := by omega
              intro h6
              exact HDv.out (by rw [HPP.out]; exact Nat.mod_eq_zero_of_dvd h6)
          · exact .inr h
        case measure => omega
    · have hleb : decide ((PP : Int) ≤ (n : Int)) = false := decide_eq_false (by omega)
      have hend : c = 0 ∧ ¬ SqF n ∨ c = 7 ∧ SqF n := by
        rcases HI.out.2 with ⟨h1, h2⟩ | h
        · refine .inl ⟨h1, ?_⟩
          rintro ⟨p', h3, h4⟩
          have h5 : p' < p := by
            rcases Nat.lt_or_ge p' p with h6 | h6
            · exact h6
            · have h7 := Nat.mul_le_mul h6 h6
              have h8 := Nat.le_of_dvd (by have := HN.out; omega) h4
              have h9 := HPP.out
              omega
          exact h2 p' h3 h5 h4
        · exact .inr h

      obtain rfl : c = 7 := by rcases hend with ⟨h1, h2⟩ | ⟨h1, h2⟩ <;> first | exact h1 | exact absurd h2 HS.out | exact absurd HS.out h2
      have HM9 : Hid (Bx w wr [(w2.heap.size, [.int .i64 7, .int .i64 0]), (w1.heap.size, [.int .i64 7, .int .i64 0])]) := HI.out.1
      clear hend HI
      have a0 := (HM9.out.cl w2.heap.size [.int .i64 7, .int .i64 0] (by simp)).cell 0
      have a1 := (HM9.out.cl w2.heap.size [.int .i64 7, .int .i64 0] (by simp)).cell 1
      have d0 := (HM9.out.cl w1.heap.size [.int .i64 7, .int .i64 0] (by simp)).cell 0
      have d1 := (HM9.out.cl w1.heap.size [.int .i64 7, .int .i64 0] (by simp)).cell 1
      simp only [List.getElem?_cons_zero, List.getElem?_cons_succ] at a0 a1 d0 d1
      go_wp2
      go_ret
      exact ⟨rfl, HM9.out.k⟩

set_option maxHeartbeats 8000000 in
theorem cu_much (n r : Nat) (w : World) (hT : Tq w) (hn1 : 2 ≤ n) (hn : n ≤ 1000000) (hs : ¬ SqF n) (h2 : 20000 < n) (hUn : Calls Tryz.prog 15 #[.int .i64 (n : Int)] w fun e w' => e = unF 9 ∧ Below w.heap.size w w') (hSf : ∀ w, Calls Tryz.prog 16 #[.int .i64 (n : Int)] w fun e w' => e = .returned (.agg #[.int .i64 0, .int .i64 0]) ∧ Below w.heap.size w w') :
    Calls Tryz.prog 4 #[.int .i64 (n : Int)] w fun e w' => e = .returned (.bool true) ∧ Below w.heap.size w w' := by
  have HN : Hid (2 ≤ n ∧ n ≤ 1000000) := ⟨hn1, hn⟩
  have HS : Hid (¬ SqF n) := hs
  clear hs hn1
  have HT : Hid (Tq w) := hT
  have HUn : Hid (Calls Tryz.prog 15 #[.int .i64 (n : Int)] w fun e w' => e = .returned (.tuple #[.string ⟨#[]⟩, .string ⟨#[]⟩, .int .i64 0, .agg #[.int .i64 9, .int .i64 0]]) ∧ Below w.heap.size w w') := hUn
  have HSf : Hid (∀ w, Calls Tryz.prog 16 #[.int .i64 (n : Int)] w fun e w' => e = .returned (.agg #[.int .i64 0, .int .i64 0]) ∧ Below w.heap.size w w') := hSf
  clear hT hUn hSf
  go_enter Tryz.func4, Tryz.ntmps4
  go_wp2_with fail
  refine HUn.out.mono ?_
  rintro e w1 ⟨rfl, k1⟩
  have hM1 := Bx.one HT.out k1 (.int .i64 9) (.int .i64 0)
  have hwz : w.heap.size ≤ w1.heap.size := k1.size
  clear HT HUn k1
  go_wp2_with fail
  generalize hW1 : (w1.alloc (.cells #[.int .i64 9, .int .i64 0] 25)) = W1 at hM1 ⊢
  have HM1 : Hid (Bx w W1 [(w1.heap.size, [.int .i64 9, .int .i64 0])]) := hM1
  have z1 : W1.heap.size = w1.heap.size + 1 := by rw [← hW1]; simp
  clear hM1 hW1
  refine (HSf.out W1).mono ?_
  rintro e w2 ⟨rfl, k2⟩
  have s2 := k2.size
  have hM2 := (HM1.out.go k2).box (.int .i64 0) (.int .i64 0)
  clear HM1 HSf k2
  go_wp2_with fail
  generalize hW2 : (w2.alloc (.cells #[.int .i64 0, .int .i64 0] 25)) = W2 at hM2 ⊢
  have HM2 : Hid (Bx w W2 [(w2.heap.size, [.int .i64 0, .int .i64 0]), (w1.heap.size, [.int .i64 9, .int .i64 0])]) := hM2
  clear hM2 hW2
  refine (contBegun_any W2 HM2.out.t).mono ?_
  rintro e w3 ⟨rfl, k3⟩
  have HM3 : Hid (Bx w w3 [(w2.heap.size, [.int .i64 0, .int .i64 0]), (w1.heap.size, [.int .i64 9, .int .i64 0])]) := HM2.out.go k3
  clear HM2 k3
  have a0 := (HM3.out.cl w2.heap.size [.int .i64 0, .int .i64 0] (by simp)).cell 0
  simp only [List.getElem?_cons_zero] at a0
  have hb12 : w1.heap.size < w2.heap.size := by omega
  go_wp2
  clear a0
  go_loopg [8] 1001 (fun k v8 wx => ∃ (p : Nat) (c : Int), v8 = .int .i64 (p : Int) ∧ 2 ≤ p ∧ p + k = 1003 ∧ Hid (Bx w wx [(w2.heap.size, [.int .i64 c, .int .i64 0]), (w1.heap.size, [.int .i64 9, .int .i64 0])] ∧ (c = 0 ∧ (∀ p', 2 ≤ p' → p' < p → ¬ p' * p' ∣ n) ∨ c = 7 ∧ SqF n)))
  case atStart => exact ⟨2, 0, rfl, by omega, by omega, HM3.out, .inl ⟨rfl, fun p' h1 h2 => by omega⟩⟩
  case round =>
    clear HM3
    obtain ⟨p, c, rfl, hp2, hpk, HI⟩ := hrel
    obtain ⟨PP, hPP⟩ : ∃ PP : Nat, PP = p * p := ⟨_, rfl⟩
    have hPPI : (p : Int) * (p : Int) = (PP : Int) := by rw [hPP, Int.natCast_mul]
    have hPPb : PP ≤ 1006009 := by rw [hPP]; exact Nat.mul_le_mul (show p ≤ 1003 by omega) (show p ≤ 1003 by omega)
    have hPP4 : 4 ≤ PP := by rw [hPP]; exact Nat.mul_le_mul hp2 hp2
    have HPP : Hid (PP = p * p) := hPP
    clear hPP
    by_cases hle : PP ≤ n
    · have hleb : decide ((PP : Int) ≤ (n : Int)) = true := decide_eq_true (by omega)
      have hz : ((PP : Int) == 0) = false := beq_eq_false_iff_ne.2 (by omega)
      have hp1000 : p ≤ 1000 := by
        rcases Nat.lt_or_ge 1000 p with h | h
        · have h2 := Nat.mul_le_mul h h
          have h3 := HPP.out
          have h4 := HN.out
          omega
        · exact h
      by_cases hdv : n % PP = 0
      · have hm0 : ((n : Int) % (PP : Int) == 0) = true := beq_iff_eq.2 (by rw [← Int.natCast_emod, hdv]; rfl)
        have HDv : Hid (SqF n) := ⟨p, hp2, by rw [← HPP.out]; exact Nat.dvd_of_mod_eq_zero hdv⟩
        clear hdv
        go_wp2_with fail
        refine (F_any 7 0 wr).mono ?_
        rintro e w5 ⟨rfl, k5⟩
        have HM5 : Hid (Bx w w5 [(w2.heap.size, [.int .i64 c, .int .i64 0]), (w1.heap.size, [.int .i64 9, .int .i64 0])]) := HI.out.1.go k5
        have C5 := HM5.out.cl w2.heap.size [.int .i64 c, .int .i64 0] (by simp)
        have c0 := C5.cell 0
        have c1 := C5.cell 1
        have f0 := C5.frozen 0
        have f1 := C5.frozen 1
        simp only [List.getElem?_cons_zero, List.getElem?_cons_succ] at c0 c1
        have HM6 : Hid (Bx w ((w5.setCell ⟨w2.heap.size, 0, none⟩ (.int .i64 7)).setCell ⟨w2.heap.size, 1, none⟩ (.int .i64 0)) [(w2.heap.size, [.int .i64 7, .int .i64 0]), (w1.heap.size, [.int .i64 9, .int .i64 0])]) := HM5.out.set (by omega) (by simp; omega)
        clear C5 k5 HM5
        go_wp2
        go_roundg (gk - 1)
        case rel => exact ⟨p + 1, 7, by simp, by omega, by omega, HM6.out, .inr ⟨rfl, HDv.out⟩⟩
        case measure => omega
      · have hm0 : ((n : Int) % (PP : Int) == 0) = false := beq_eq_false_iff_ne.2 (by intro e; rw [← Int.natCast_emod] at e; exact hdv (by omega))
        have HDv : Hid (¬ n % PP = 0) := hdv
        clear hdv
        go_wp2
        go_roundg (gk - 1)
        case rel =>
          refine ⟨p + 1, c, by simp, by omega, by omega, HI.out.1, ?_⟩
          rcases HI.out.2 with ⟨h1, h2⟩ | h
          · refine .inl ⟨h1, fun p' h3 h4 => ?_⟩
            rcases Nat.lt_or_ge p' p with h5 | h5
            · exact h2 p' h3 h5
            · obtain rfl : p' = p := by omega
              intro h6
              exact HDv.out (by rw [HPP.out]; exact Nat.mod_eq_zero_of_dvd h6)
          · exact .inr h
        case measure => omega
    · have hleb : decide ((PP : Int) ≤ (n : Int)) = false := decide_eq_false (by omega)
      have hend : c = 0 ∧ ¬ SqF n ∨ c = 7 ∧ SqF n := by
        rcases HI.out.2 with ⟨h1, h2⟩ | h
        · refine .inl ⟨h1, ?_⟩
          rintro ⟨p', h3, h4⟩
          have h5 : p' < p := by
            rcases Nat.lt_or_ge p' p with h6 | h6
            · exact h6
            · have h7 := Nat.mul_le_mul h6 h6
              have h8 := Nat.le_of_dvd (by have := HN.out; omega) h4
              have h9 := HPP.out
              omega
          exact h2 p' h3 h5 h4
        · exact .inr h

      obtain rfl : c = 0 := by rcases hend with ⟨h1, h2⟩ | ⟨h1, h2⟩ <;> first | exact h1 | exact absurd h2 HS.out | exact absurd HS.out h2
      have HM9 : Hid (Bx w wr [(w2.heap.size, [.int .i64 0, .int .i64 0]), (w1.heap.size, [.int .i64 9, .int .i64 0])]) := HI.out.1
      clear hend HI
      have a0 := (HM9.out.cl w2.heap.size [.int .i64 0, .int .i64 0] (by simp)).cell 0
      have a1 := (HM9.out.cl w2.heap.size [.int .i64 0, .int .i64 0] (by simp)).cell 1
      have d0 := (HM9.out.cl w1.heap.size [.int .i64 9, .int .i64 0] (by simp)).cell 0
      have d1 := (HM9.out.cl w1.heap.size [.int .i64 9, .int .i64 0] (by simp)).cell 1
      simp only [List.getElem?_cons_zero, List.getElem?_cons_succ] at a0 a1 d0 d1
      have hgt : decide ((20000 : Int) < (n : Int)) = true := decide_eq_true (by omega)
      go_wp2
      go_ret
      exact ⟨rfl, HM9.out.k⟩

end Go.Proofs.YtfbgblidlabipaaGreatDoor
