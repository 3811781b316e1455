import Derived.Test.YtnkjadpmigpneaaGreatDoorJpN
import Derived.Test.YtnkjadpmigpneaaGreatDoorJpD
import Derived.Test.YtnkjadpmigpneaaGreatDoorPwB
import Derived.Test.YtnkjadpmigpneaaGreatDoorJpE
import Derived.Test.YtnkjadpmigpneaaGreatDoorBrA
section
set_option linter.unusedSimpArgs false
set_option linter.unusedVariables false
set_option maxRecDepth 100000
namespace Go.Proofs.YtnkjadpmigpneaaGreatDoor
open Go.RowKit
def okB3 (a b c : Int) : Bool := numB a && numB b && numB c
end Go.Proofs.YtnkjadpmigpneaaGreatDoor
end

section
set_option linter.unusedSimpArgs false
set_option linter.unusedVariables false
set_option maxRecDepth 100000
namespace Go.Proofs.YtnkjadpmigpneaaGreatDoor
open Go.RowKit
def Pf (p k M c a : Int) : Prop :=
  ((p < 2 ∨ 1000000 < p) ∧ M = 0 ∧ c = 3 ∧ a = 0) ∨
  (∃ P : Nat, p = P ∧ 2 ≤ P ∧ P ≤ 1000000 ∧ ((¬ Pr P ∧ M = 0 ∧ c = 7 ∧ a = 0) ∨ (Pr P ∧ (((k < 1 ∨ 60 < k) ∧ M = 0 ∧ c = 3 ∧ a = 1) ∨
    ∃ K : Nat, k = K ∧ 1 ≤ K ∧ K ≤ 60 ∧ ((1000000000000000000 < P ^ K ∧ M = 0 ∧ c = 9 ∧ a = 1) ∨ (P ^ K ≤ 1000000000000000000 ∧ M = (P ^ K : Nat) ∧ c = 0 ∧ a = 0))))))
structure Pg (p k M : Int) (P K : Nat) : Prop where
  p : p = P
  k : k = K
  pr : Pr P
  p2 : 2 ≤ P
  p6 : P ≤ 1000000
  k1 : 1 ≤ K
  k6 : K ≤ 60
  m : M = (P ^ K : Nat)
  m18 : P ^ K ≤ 1000000000000000000
theorem one_cell (a : Int) (W : World) (B : Nat) (h0 : W.cell? ⟨B, 0, none⟩ = some (.int .i64 a)) :
    ∀ j, j < [a].length → W.cell? ⟨B, 0 + j, none⟩ = some (.int .i64 ([a].getD j 0)) := by
  intro j hj
  simp at hj
  subst hj
  simpa using h0
theorem nf_one {a : Int} (h : numB a = true) : nf 0 [a] = (0, 0) := nf_none _ (fun j hj => by simp at hj; subst hj; simpa using h)
set_option maxHeartbeats 400000 in
theorem Is_any (n : Nat) (b : Bool) (w : World) (hn : 2 ≤ n) (hn2 : n ≤ 1000000) (hb : b = true ↔ Pr n) (hT : Tb w) :
    Calls Tryz.prog 103 #[.int .i64 n] w fun e w' => e = .returned (.tuple #[.bool b, .agg #[.int .i64 0, .int .i64 0]]) ∧ Below w.heap.size w w' := by
  have HCD : Hid (nf 0 [(n : Int)] = (0, 0)) := nf_one (by simp [numB]; omega)
  have HI : Hid (∀ w, Tb w → Calls Tryz.prog 124 #[.int .i64 n] w fun e w' => e = .returned (.bool b) ∧ Below w.heap.size w w') := fun w h => isPrime_any n b w hn hn2 hb h
  have HT : Hid (Tb w) := hT
  clear hT hb
  go_enter Tryz.func103, Tryz.ntmps103
  go_wp2_with fail
  refine (numbersFault_any [(n : Int)] _ 0 _ _ (by simp) ?_ ?_).mono ?_
  · simp
  · exact one_cell n _ _ (by simp)
  rw [HCD.out]
  rintro e w1 ⟨rfl, hb⟩
  have hz : w.heap.size < w1.heap.size := by have := hb.size; simp at this; omega
  have q0 : w1.cell? ⟨w.heap.size, 0, none⟩ = some (.int .i64 0) := cell_later hb (by simp)
  have q1 : w1.cell? ⟨w.heap.size, 1, none⟩ = some (.int .i64 0) := cell_later hb (by simp)
  have q2 : w1.frozen? ⟨w.heap.size, 0, none⟩ = false := (hb.frozen (p := ⟨w.heap.size, 0, none⟩) (by simp; omega)).trans (by simp)
  have q3 : w1.frozen? ⟨w.heap.size, 1, none⟩ = false := (hb.frozen (p := ⟨w.heap.size, 1, none⟩) (by simp; omega)).trans (by simp)
  have K1 : Below w.heap.size w w1 := (((Below.refl _ w).alloc (Nat.le_refl _) _).alloc (by simp) _).trans (hb.mono (by simp; omega))
  have S1 : Sv w.heap.size 0 0 w1 := ⟨q0, q1, q2, q3, hz⟩
  have HS1 : Hid (Sv w.heap.size 0 0 w1) := S1
  have HK1 : Hid (Below w.heap.size w w1) := K1
  clear S1 K1 hb q0 q1 q2 q3
  go_wp2_with fail
  obtain ⟨W2, hW2⟩ : ∃ W2, W2 = w1.alloc (.cells #[.int .i64 0, .int .i64 0] 23) := ⟨_, rfl⟩
  rw [← hW2]
  have K2 : Below w.heap.size w W2 := by rw [hW2]; exact HK1.out.alloc (by omega) _
  have S2 : Sv w.heap.size 0 0 W2 := by rw [hW2]; exact HS1.out.alloc _ _
  refine (HI.out W2 (HT.out.below K2)).mono ?_
  rintro e w3 ⟨rfl, k3⟩
  have K3 : Below w.heap.size w w3 := K2.trans (k3.mono (by have := S2.lt; omega))
  have S3 := S2.below k3
  have q0 := S3.c0
  have q1 := S3.c1
  have q2 := S3.f0
  have q3 := S3.f1
  have hz := S3.lt
  clear hW2 K2 S2 k3
  go_wp2
  exact bodyPost_ret (v := .tuple #[.bool b, .agg #[.int .i64 0, .int .i64 0]]) (by simp [results, Tryz.results103, go_sem, q0, q1, hz]) rfl ⟨rfl, (K3.setCell (by simp) _).setCell (by simp) _⟩
end Go.Proofs.YtnkjadpmigpneaaGreatDoor
end

section
set_option linter.unusedSimpArgs false
set_option linter.unusedVariables false
set_option maxRecDepth 100000
namespace Go.Proofs.YtnkjadpmigpneaaGreatDoor
open Go.RowKit LgM
set_option maxHeartbeats 1000000 in
theorem choicesOf_any (n : Nat) (w : World) (hn : n ≤ 205) :
    Calls Tryz.prog 72 #[.int .i64 (n : Int)] w fun e w' => ∃ v', e = .returned v' ∧ SO w.heap.size w' v' (n + 1) (fun j => ((BN.ch n j : Nat) : Int)) ∧ Below w.heap.size w w' := by
  have H1 : Hid (∀ W, Calls Tryz.prog 86 #[.int .i64 1] W fun e w' => ∃ v, e = .returned (.agg #[v, .bool false]) ∧ LN w' v 1 ∧ Below W.heap.size W w') := fun W => SignedOf_any 1 W (by omega) (by omega)
  go_enter Tryz.func72, Tryz.ntmps72
  go_wp2_with fail
  refine (H1.out w).mono ?_
  rintro e w1 ⟨v1, rfl, l1, k1⟩
  obtain ⟨a1, m1, c1, rfl⟩ := l1.shape
  have HS0 : Hid (SO w.heap.size (w1.alloc (.cells #[.slice a1 m1 c1, .bool false] 66)) (.slice (some ⟨w1.heap.size, 0, none⟩) 1 1) 1 (fun j => ((BN.ch 0 j : Nat) : Int)) ∧ Below w.heap.size w (w1.alloc (.cells #[.slice a1 m1 c1, .bool false] 66))) :=
    ⟨SO.lit (y := 1) k1.size l1 rfl _ (by rw [BN.ch_zero]; rfl), k1.alloc k1.size _⟩
  clear l1 k1 H1
  go_wp2
  go_loopw [3, 7] (fun lv iv wx => ∃ i : Nat, i ≤ n ∧ iv = .int .i64 (i : Int) ∧ Hid (SO w.heap.size wx lv (i + 1) (fun j => ((BN.ch i j : Nat) : Int)) ∧ Below w.heap.size w wx)) (fun _ iv _ => n - (intOf iv).toNat)
  case atStart => exact ⟨0, Nat.zero_le _, rfl, HS0.out⟩
  case round =>
    clear HS0
    obtain ⟨i, hin, rfl, HR⟩ := hrel
    by_cases hlt : i < n
    · go_wp2_with fail
      refine (oneMore_any _ i wr HR.out.1.va (by omega)).mono ?_
      rintro e w2 ⟨v2, rfl, s2, k2⟩
      have HN : Hid (SO w.heap.size w2 v2 (i + 1 + 1) (fun j => ((BN.ch (i + 1) j : Nat) : Int)) ∧ Below w.heap.size w w2) := ⟨s2.low HR.out.2.size, HR.out.2.trans (k2.mono HR.out.2.size)⟩
      clear s2 k2
      go_wp2
      go_roundw
      case rel => exact ⟨i + 1, by omega, by go_num, HN.out⟩
      case measure => simp [intOf]; omega
    · obtain rfl : i = n := by omega
      go_wp2
      go_ret
      exact ⟨_, rfl, HR.out⟩
set_option maxHeartbeats 1000000 in
theorem isPrime_low (n : Nat) (w : World) (hn : n < 2) :
    Calls Tryz.prog 124 #[.int .i64 n] w fun e w' => e = .returned (.bool false) ∧ Below w.heap.size w w' := by
  have h1 : decide ((n : Int) < 2) = true := decide_eq_true (by omega)
  go_enter Tryz.func124, Tryz.ntmps124
  go_wp2
  refine bodyPost_ret (v := .bool false) (by simp [results, Tryz.f124, go_sem]) rfl ⟨rfl, ?_⟩
  exact ((Below.refl _ _).alloc (Nat.le_refl _) _).alloc (by simp) _
set_option maxHeartbeats 400000 in
theorem Is_of (n : Nat) (b : Bool) (w : World) (hn2 : n ≤ 1000000) (HI : Hid (∀ w, Tb w → Calls Tryz.prog 124 #[.int .i64 n] w fun e w' => e = .returned (.bool b) ∧ Below w.heap.size w w')) (hT : Tb w) :
    Calls Tryz.prog 103 #[.int .i64 n] w fun e w' => e = .returned (.tuple #[.bool b, .agg #[.int .i64 0, .int .i64 0]]) ∧ Below w.heap.size w w' := by
  have HCD : Hid (nf 0 [(n : Int)] = (0, 0)) := nf_one (by simp [numB]; omega)
  have HT : Hid (Tb w) := hT
  clear hT
  go_enter Tryz.func103, Tryz.ntmps103
  go_wp2_with fail
  refine (numbersFault_any [(n : Int)] _ 0 _ _ (by simp) ?_ ?_).mono ?_
  · simp
  · exact one_cell n _ _ (by simp)
  rw [HCD.out]
  rintro e w1 ⟨rfl, hb⟩
  have hz : w.heap.size < w1.heap.size := by have := hb.size; simp at this; omega
  have q0 : w1.cell? ⟨w.heap.size, 0, none⟩ = some (.int .i64 0) := cell_later hb (by simp)
  have q1 : w1.cell? ⟨w.heap.size, 1, none⟩ = some (.int .i64 0) := cell_later hb (by simp)
  have q2 : w1.frozen? ⟨w.heap.size, 0, none⟩ = false := (hb.frozen (p := ⟨w.heap.size, 0, none⟩) (by simp; omega)).trans (by simp)
  have q3 : w1.frozen? ⟨w.heap.size, 1, none⟩ = false := (hb.frozen (p := ⟨w.heap.size, 1, none⟩) (by simp; omega)).trans (by simp)
  have K1 : Below w.heap.size w w1 := (((Below.refl _ w).alloc (Nat.le_refl _) _).alloc (by simp) _).trans (hb.mono (by simp; omega))
  have S1 : Sv w.heap.size 0 0 w1 := ⟨q0, q1, q2, q3, hz⟩
  have HS1 : Hid (Sv w.heap.size 0 0 w1) := S1
  have HK1 : Hid (Below w.heap.size w w1) := K1
  clear S1 K1 hb q0 q1 q2 q3
  go_wp2_with fail
  obtain ⟨W2, hW2⟩ : ∃ W2, W2 = w1.alloc (.cells #[.int .i64 0, .int .i64 0] 23) := ⟨_, rfl⟩
  rw [← hW2]
  have K2 : Below w.heap.size w W2 := by rw [hW2]; exact HK1.out.alloc (by omega) _
  have S2 : Sv w.heap.size 0 0 W2 := by rw [hW2]; exact HS1.out.alloc _ _
  refine (HI.out W2 (HT.out.below K2)).mono ?_
  rintro e w3 ⟨rfl, k3⟩
  have K3 : Below w.heap.size w w3 := K2.trans (k3.mono (by have := S2.lt; omega))
  have S3 := S2.below k3
  have q0 := S3.c0
  have q1 := S3.c1
  have q2 := S3.f0
  have q3 := S3.f1
  have hz := S3.lt
  clear hW2 K2 S2 k3
  go_wp2
  exact bodyPost_ret (v := .tuple #[.bool b, .agg #[.int .i64 0, .int .i64 0]]) (by simp [results, Tryz.results103, go_sem, q0, q1, hz]) rfl ⟨rfl, (K3.setCell (by simp) _).setCell (by simp) _⟩
theorem Is_small (n : Nat) (w : World) (hn : n ≤ 1000) (hT : Tb w) :
    Calls Tryz.prog 103 #[.int .i64 n] w fun e w' => e = .returned (.tuple #[.bool (BN.isp n), .agg #[.int .i64 0, .int .i64 0]]) ∧ Below w.heap.size w w' := by
  by_cases h : n < 2
  · have e : BN.isp n = false := by unfold BN.isp; rw [decide_eq_false (by omega)]; rfl
    rw [e]
    exact Is_of n false w (by omega) (fun w _ => isPrime_low n w h) hT
  · exact Is_any n (BN.isp n) w (by omega) (by omega) (BN.isp_iff n) hT
theorem prm_bs {n : Nat} (h : n < 202) : BN.prm n < Bs ^ 12 := Nat.lt_of_le_of_lt (BN.prm_chk n h) (by decide +kernel)
def Pbx (b i : Nat) (w : World) : Prop := ∃ a k c, Cl b [.slice a k c, .bool false] 66 w ∧ LN w (.slice a k c) (BN.prm (i - 1))
theorem Pbx.below {b i : Nat} {w w' : World} (h : Pbx b i w) (k : Below w.heap.size w w') : Pbx b i w' := by
  obtain ⟨a, m, c, h1, h2⟩ := h
  exact ⟨a, m, c, h1.below k, h2.below k⟩
theorem prm_no {i : Nat} (h : BN.isp i = false) : BN.prm (i + 1 - 1) = BN.prm (i - 1) := by
  cases i with
  | zero => rfl
  | succ i =>
    show (if BN.isp (i + 1) then BN.prm i * (i + 1) else BN.prm i) = BN.prm i
    rw [h]; rfl
theorem prm_yes {i : Nat} (h : BN.isp i = true) : BN.prm (i + 1 - 1) = BN.prm (i - 1) * i := by
  cases i with
  | zero => exact absurd h (by decide)
  | succ i =>
    show (if BN.isp (i + 1) then BN.prm i * (i + 1) else BN.prm i) = BN.prm i * (i + 1)
    rw [h]; rfl
set_option maxHeartbeats 4000000 in
theorem primorial_any (n : Nat) (w : World) (hn : n ≤ 201) (hT : Tb w) :
    Calls Tryz.prog 71 #[.int .i64 (n : Int)] w fun e w' => ∃ v, e = .returned (.agg #[v, .bool false]) ∧ LN w' v (BN.prm n) ∧ Below w.heap.size w w' := by
  have H1 : Hid (∀ (i : Nat) W, i ≤ 300 → Calls Tryz.prog 86 #[.int .i64 (i : Int)] W fun e w' => ∃ v, e = .returned (.agg #[v, .bool false]) ∧ LN w' v i ∧ Below W.heap.size W w') := fun i W hi => by
    have := SignedOf_any (i : Int) W (by omega) (by omega)
    rw [show decide ((i : Int) < 0) = false from decide_eq_false (by omega), show (i : Int).natAbs = i by omega] at this
    exact this
  have HT : Hid (Tb w) := hT
  have h11 := H1.out 1 (w.alloc (.cells #[.slice none 0 0, .bool false] 66)) (by omega)
  have H11 : Hid (Calls Tryz.prog 86 #[.int .i64 1] (w.alloc (.cells #[.slice none 0 0, .bool false] 66)) fun e w' => ∃ v, e = .returned (.agg #[v, .bool false]) ∧ LN w' v 1 ∧ Below (w.alloc (.cells #[.slice none 0 0, .bool false] 66)).heap.size (w.alloc (.cells #[.slice none 0 0, .bool false] 66)) w') := h11
  clear hT h11
  go_enter Tryz.func71, Tryz.ntmps71
  go_wp2_with fail
  refine H11.out.mono ?_
  rintro e w1 ⟨v1, rfl, l1, k1⟩
  obtain ⟨a1, m1, c1, rfl⟩ := l1.shape
  have hz1 : w.heap.size < w1.heap.size := by have := k1.size; simp at this; omega
  have HC0 : Hid (Cl w.heap.size [.slice none 0 0, .bool false] 66 w1) := (Cl.new [.slice none 0 0, .bool false] 66 w).below k1
  have HZ1 : Hid (w.heap.size < w1.heap.size) := hz1
  obtain ⟨W1, hW1⟩ : ∃ W1, W1 = w1.alloc (.cells #[.slice a1 m1 c1, .bool false] 66) := ⟨_, rfl⟩
  have HP0 : Hid (Pbx w1.heap.size 0 W1 ∧ Cl w.heap.size [.slice none 0 0, .bool false] 66 W1 ∧ Below w.heap.size w W1) := by
    show _ ∧ _
    rw [hW1]
    exact ⟨⟨_, _, _, Cl.new [.slice a1 m1 c1, .bool false] 66 w1, l1.below ((Below.refl _ _).alloc (Nat.le_refl _) _)⟩, HC0.out.alloc _, ((((Below.refl _ _).alloc (Nat.le_refl _) _).trans (k1.mono (by simp))).alloc (by omega) _)⟩
  clear l1 k1 hz1 H11 HC0
  go_wp2
  rw [← hW1]
  clear hW1
  obtain ⟨bP, hbP⟩ : ∃ bP, bP = w1.heap.size := ⟨_, rfl⟩
  rw [← hbP] at HP0 ⊢
  have HB : Hid (w.heap.size < bP) := by show _ < _; rw [hbP]; exact HZ1.out
  clear hbP HZ1
  go_loopw [10] (fun iv wx => ∃ i : Nat, i ≤ n + 1 ∧ iv = .int .i64 (i : Int) ∧ Hid (Pbx bP i wx ∧ Cl w.heap.size [.slice none 0 0, .bool false] 66 wx ∧ Below w.heap.size w wx)) (fun iv _ => n + 1 - (intOf iv).toNat)
  case atStart => exact ⟨0, Nat.zero_le _, rfl, HP0.out⟩
  case round =>
    clear HP0
    obtain ⟨i, hin, rfl, HR⟩ := hrel
    by_cases hlt : i < n + 1
    · obtain ⟨b, hb⟩ : ∃ b, b = BN.isp i := ⟨_, rfl⟩
      have HBb : Hid (b = BN.isp i) := hb
      have HIs : Hid (Calls Tryz.prog 103 #[.int .i64 (i : Int)] wr fun e w' => e = .returned (.tuple #[.bool b, .agg #[.int .i64 0, .int .i64 0]]) ∧ Below wr.heap.size wr w') := by
        have := Is_small i wr (by omega) (HT.out.below HR.out.2.2)
        rw [← hb] at this
        exact this
      clear hb
      go_wp2_with fail
      refine HIs.out.mono ?_
      rintro e w2 ⟨rfl, k2⟩
      obtain ⟨W3, hW3⟩ : ∃ W3, W3 = w2.alloc (.cells #[.int .i64 0, .int .i64 0] 23) := ⟨_, rfl⟩
      have k3 : Below wr.heap.size wr W3 := by rw [hW3]; exact k2.alloc k2.size _
      have HR3 : Hid (Pbx bP i W3 ∧ Cl w.heap.size [.slice none 0 0, .bool false] 66 W3 ∧ Below w.heap.size w W3) := ⟨HR.out.1.below k3, HR.out.2.1.below k3, HR.out.2.2.trans (k3.mono HR.out.2.2.size)⟩
      clear k2 k3 HIs HR
      cases b
      · have HN : Hid (Pbx bP (i + 1) W3 ∧ Cl w.heap.size [.slice none 0 0, .bool false] 66 W3 ∧ Below w.heap.size w W3) := by
          refine ⟨?_, HR3.out.2⟩
          obtain ⟨a, m, c, p1, p2⟩ := HR3.out.1
          exact ⟨a, m, c, p1, by rw [prm_no HBb.out.symm]; exact p2⟩
        go_wp2
        rw [← hW3]
        clear hW3
        go_roundw
        case rel => exact ⟨i + 1, by omega, by go_num, HN.out⟩
        case measure => simp [intOf]; omega
      · go_wp2
        rw [← hW3]
        clear hW3
        obtain ⟨a, m, c, p1, p2⟩ := HR3.out.1
        have HPx : Hid (Cl bP [.slice a m c, .bool false] 66 W3 ∧ LN W3 (.slice a m c) (BN.prm (i - 1))) := ⟨p1, p2⟩
        have HK : Hid (∀ W, Below W3.heap.size W3 W → W.cell? ⟨bP, 0, none⟩ = some (.slice a m c) ∧ W.cell? ⟨bP, 1, none⟩ = some (.bool false)) := fun W k => by
          have h := p1.below k
          have a1 := h.cell 0
          have a2 := h.cell 1
          simp at a1 a2
          exact ⟨a1, a2⟩
        clear p1 p2
        refine wp_region_G (fun W => W.cell? ⟨bP, 0, none⟩ = some (.slice a m c) ∧ W.cell? ⟨bP, 1, none⟩ = some (.bool false)) 4 (by kernel_rfl) (HK.out _ (Below.refl _ _).drew) (fun hHeld => ?_)
        refine wpAnyG_take (i := 0) (v := ?v0x1) rfl (by kernel_rfl) (fun _ _ _ h => h) (Or.inl ⟨by rfl, ?y0x1⟩) hHeld ?r0x1
        case y0x1 => (intro wS hSw; obtain ⟨s1, s2⟩ := hSw; go_simp; try with_reducible rfl)
        simp only [Act.put, List.getElem_toArray, List.getElem_cons_zero, List.getElem_cons_succ, List.setIfInBounds_toArray, List.set_cons_zero, List.set_cons_succ]
        refine wpAnyG_take (i := 1) (v := ?v1x2) rfl (by kernel_rfl) (fun _ _ _ h => h) (Or.inl ⟨by rfl, ?y1x2⟩) hHeld ?r1x2
        case y1x2 => (intro wS hSw; obtain ⟨s1, s2⟩ := hSw; go_simp; try with_reducible rfl)
        simp only [Act.put, List.getElem_toArray, List.getElem_cons_zero, List.getElem_cons_succ, List.setIfInBounds_toArray, List.set_cons_zero, List.set_cons_succ]
        refine wpAnyG_one (i := 2) rfl (by kernel_rfl) (fun K hK => ?_)
        go_simp
        refine (H1.out i _ (by omega)).mono ?_
        rintro e w4 ⟨v4, rfl, l4, k4⟩
        obtain ⟨a4, m4, c4, rfl⟩ := l4.shape
        have HL4 : Hid (LN w4 (.slice a4 m4 c4) i ∧ Below W3.heap.size W3 w4) := ⟨l4, (Below.refl _ _).drew.trans k4⟩
        clear l4 k4
        refine hK.out _ _ (HK.out _ HL4.out.2) ?_
        clear hK K hHeld
        have hHeld := HK.out _ HL4.out.2
        refine wpAnyG_one (i := 3) rfl (by kernel_rfl) (fun K hK => ?_)
        go_simp
        have hpr := SProduct_any (.slice a m c) (.slice a4 m4 c4) ((BN.prm (i - 1) : Nat) : Int) (i : Int) 12 w4 (by rw [Int.natAbs_natCast]; exact HPx.out.2.below HL4.out.2) (by rw [Int.natAbs_natCast]; exact HL4.out.1) (by rw [Int.natAbs_natCast]; exact prm_bs (by omega)) (by rw [Int.natAbs_natCast]; exact Nat.lt_of_lt_of_le (show i < Bs by show i < 1000000000; omega) (Nat.le_self_pow (by decide) _)) (by omega)
        rw [decide_eq_false (show ¬ ((BN.prm (i - 1) : Nat) : Int) < 0 by omega), decide_eq_false (show ¬ (i : Int) < 0 by omega), ← Int.natCast_mul, decide_eq_false (show ¬ ((BN.prm (i - 1) * i : Nat) : Int) < 0 by omega), Int.natAbs_natCast, ← prm_yes HBb.out.symm] at hpr
        refine hpr.mono ?_
        clear hpr
        rintro e w5 ⟨v5, rfl, l5, k5⟩
        obtain ⟨a5, m5, c5, rfl⟩ := l5.shape
        have HK5 : Hid (Below W3.heap.size W3 w5) := HL4.out.2.trans (k5.mono HL4.out.2.size)
        have HC5 : Hid (Cl bP [.slice a m c, .bool false] 66 w5) := HPx.out.1.below HK5.out
        have HN : Hid (Pbx bP (i + 1) ((w5.setCell ⟨bP, 0, none⟩ (.slice a5 m5 c5)).setCell ⟨bP, 1, none⟩ (.bool false)) ∧ Cl w.heap.size [.slice none 0 0, .bool false] 66 ((w5.setCell ⟨bP, 0, none⟩ (.slice a5 m5 c5)).setCell ⟨bP, 1, none⟩ (.bool false)) ∧ Below w.heap.size w ((w5.setCell ⟨bP, 0, none⟩ (.slice a5 m5 c5)).setCell ⟨bP, 1, none⟩ (.bool false))) := by
          have hb := HB.out
          refine ⟨⟨a5, m5, c5, HC5.out.two _ _, l5.setTwo HC5.out⟩, ((HR3.out.2.1.below HK5.out).other (by simp; omega) _).other (by simp; omega) _, (((HR3.out.2.2.trans (HK5.out.mono HR3.out.2.2.size)).setCell (by simp; omega) _).setCell (by simp; omega) _)⟩
        have u1 := HC5.out.cell 0
        have u2 := HC5.out.cell 1
        have u3 := HC5.out.frozen 0
        have u4 := HC5.out.frozen 1
        simp at u1 u2
        clear l5 k5
        refine hK.out _ _ (HK.out _ HK5.out) ?_
        clear hK K hHeld
        have hHeld := HK.out _ HK5.out
        refine wpAnyG_last (i := 4) rfl (by kernel_rfl) (by kernel_rfl) (fun K hK => ?_)
        go_simp
        refine hK.out _ _ ?_
        clear hK K
        refine wpAnyG_done (by kernel_rfl) ?_ _
        clear u1 u2 u3 u4 hHeld
        go_wp2
        go_roundw
        case rel => exact ⟨i + 1, by omega, by go_num, HN.out⟩
        case measure => simp [intOf]; omega
    · obtain rfl : i = n + 1 := by omega
      obtain ⟨a, m, c, p1, p2⟩ := HR.out.1
      have HPx : Hid (LN wr (.slice a m c) (BN.prm n)) := p2
      have u1 := p1.cell 0
      have u2 := p1.cell 1
      have u3 := HR.out.2.1.cell 0
      have u4 := HR.out.2.1.cell 1
      have u5 := HR.out.2.1.frozen 0
      have u6 := HR.out.2.1.frozen 1
      simp at u1 u2 u3 u4
      clear p1 p2
      go_wp2
      have C3 := HR.out.2.1.two (.slice a m c) (.bool false)
      have e1 := C3.cell 0
      have e2 := C3.cell 1
      simp at e1 e2
      refine bodyPost_ret (v := .agg #[.slice a m c, .bool false]) (by simp [results, Tryz.results71, go_sem, e1, e2]) rfl ⟨_, rfl, ?_, ?_⟩
      · exact HPx.out.setTwo HR.out.2.1
      · exact (HR.out.2.2.setCell (by simp) _).setCell (by simp) _
end Go.Proofs.YtnkjadpmigpneaaGreatDoor
end
