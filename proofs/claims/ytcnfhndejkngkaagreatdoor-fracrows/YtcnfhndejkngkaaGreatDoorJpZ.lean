import Derived.Test.YtcnfhndejkngkaaGreatDoorRoC
import Derived.Test.YtcnfhndejkngkaaGreatDoorJpA
import Derived.BigRegion
import Derived.Test.YtcnfhndejkngkaaGreatDoorJpJ
import Derived.Test.YtcnfhndejkngkaaGreatDoorJpK
import Derived.Test.YtcnfhndejkngkaaGreatDoorJpY
import Derived.Test.YtcnfhndejkngkaaGreatDoorJpP
section
set_option linter.unusedSimpArgs false
set_option linter.unusedVariables false
set_option maxRecDepth 100000
namespace Go.Proofs.YtcnfhndejkngkaaGreatDoor
open Go.RowKit
theorem own_low2 {B B' n sz : Nat} {w : World} {v : Value} {xs : List Value} {e : TypeId} (h : w.ownsRow B e sz v n xs) (hB : B' ≤ B) : w.ownsRow B' e sz v n xs := by
  refine ⟨h.1, ?_⟩
  rcases h.2 with hn | ⟨g, cap, cur, h1, h2, h3⟩
  · exact .inl hn
  · exact .inr ⟨g, cap, cur, h1, Nat.le_trans hB h2, h3⟩
set_option maxHeartbeats 4000000 in
theorem row_any (n : Nat) (w : World) (h1 : 1 ≤ n) (hn : n ≤ 50) :
    Calls Tryz.prog 45 #[.int .i64 (n : Int)] w fun e w' => ∃ (N g c : Nat), e = .returned (.slice (some ⟨g, 0, none⟩) N c) ∧ Fw (FR.row n) N g w' ∧ w.heap.size ≤ g ∧ Below w.heap.size w w' := by
  obtain ⟨m, rfl⟩ : ∃ m, n = m + 1 := ⟨n - 1, by omega⟩
  obtain ⟨n, hn1⟩ : ∃ n, n = m + 1 := ⟨_, rfl⟩
  have em : (n : Int) - 1 = (m : Int) := by omega
  have HN : Hid (n = m + 1) := hn1
  have hm : m ≤ 49 := by omega
  rw [← hn1]
  clear hn1 h1 hn
  obtain ⟨W0, hW0⟩ : ∃ W, W = w.alloc (.cells #[.int .i64 0, .int .i64 1, .int .i64 1, .int .i64 1] 23) := ⟨_, rfl⟩
  have HS : Hid (W0.ownsRow w.heap.size 23 2 (.slice (some ⟨w.heap.size, 0, none⟩) 2 2) 2 (pvI (FR.rowc 0)) ∧ Below w.heap.size w W0) := by
    show _ ∧ _
    rw [hW0]
    exact ⟨⟨rfl, .inr ⟨w.heap.size, 2, #[.int .i64 0, .int .i64 1, .int .i64 1, .int .i64 1], rfl, Nat.le_refl _, Cl.new [.int .i64 0, .int .i64 1, .int .i64 1, .int .i64 1] 23 w, by omega, by unfold maxLen; omega, rfl, rfl⟩⟩, (Below.refl _ _).alloc (Nat.le_refl _) _⟩
  go_enter Tryz.func45, Tryz.ntmps45
  go_wp2
  rw [← hW0]
  clear hW0
  go_loopg [3, 10] m (fun gk lv iv wx => ∃ (i : Nat) (a : Option Addr) (k c' : Nat), lv = .slice a k c' ∧ iv = .int .i64 (i : Int) ∧ Hid (gk = m - i ∧ i ≤ m ∧ k = (FR.rowc i).length ∧ wx.ownsRow w.heap.size 23 2 (.slice a k c') k (pvI (FR.rowc i)) ∧ Below w.heap.size w wx))
  case atStart => exact ⟨0, _, 2, 2, rfl, rfl, by omega, by omega, rfl, HS.out⟩
  case round =>
    clear HS
    obtain ⟨i, a, k, c', rfl, rfl, HR⟩ := hrel
    obtain ⟨h1, him, h3, h4, h5⟩ := HR.out
    have HG : Hid (gk = m - i) := h1
    have HK : Hid (wr.ownsRow w.heap.size 23 2 (.slice a k c') k (pvI (FR.rowc i)) ∧ Below w.heap.size w wr ∧ k = (FR.rowc i).length) := ⟨h4, h5, h3⟩
    have hsz := FR.rsz_all i (by omega)
    obtain ⟨g, c2, hv, hfw, hkc⟩ := Fw.of h3 h4 (by omega)
    cases hv
    have hk2 : 2 ≤ k := by omega
    have hk1000 : k ≤ 1000 := by omega
    clear HR h1 h3 h4 h5
    by_cases hi : i < m
    · have ti : decide ((i : Int) < (m : Int)) = true := decide_eq_true (by omega)
      obtain ⟨d, hd⟩ : ∃ d, d = i + 2 := ⟨_, rfl⟩
      have ed : (i : Int) + 2 = (d : Int) := by omega
      have HWd : Hid (Calls Tryz.prog 70 #[.slice (some ⟨g, 0, none⟩) k c', .int .i64 (d : Int)] wr fun e w' => ∃ v, e = .returned v ∧ w'.ownsRow wr.heap.size 23 2 v (FR.wd (FR.rowc i) d).length (pvI (FR.wd (FR.rowc i) d)) ∧ Below wr.heap.size wr w') := withDown_any (FR.rowc i) d k g c' wr hfw hkc hk2 hk1000 hsz.2.2 (by omega)
      have HRc : Hid (FR.wd (FR.rowc i) d = FR.rowc (i + 1)) := by rw [hd]; rfl
      have hl2 : 2 ≤ (FR.rowc (i + 1)).length := (FR.rsz_all (i + 1) (by omega)).2.1
      have hdb : d ≤ 60 := by omega
      clear hd hfw hsz
      go_wp2_with fail
      refine HWd.out.mono ?_
      rintro e w2 ⟨v, rfl, hrow, k2⟩
      rw [HRc.out] at hrow
      have hrow2 := own_low2 hrow HK.out.2.1.size
      obtain ⟨k9, hk9⟩ : ∃ k, k = (FR.rowc (i + 1)).length := ⟨_, rfl⟩
      rw [← hk9] at hrow2
      obtain ⟨g9, c9, rfl, _, _⟩ := Fw.of hk9 hrow2 (by omega)
      have HO : Hid (w2.ownsRow w.heap.size 23 2 (.slice (some ⟨g9, 0, none⟩) k9 c9) k9 (pvI (FR.rowc (i + 1))) ∧ Below w.heap.size w w2 ∧ k9 = (FR.rowc (i + 1)).length) := ⟨hrow2, HK.out.2.1.trans (k2.mono HK.out.2.1.size), hk9⟩
      clear hrow hrow2 k2 hk9 HWd HK hl2
      go_wp2
      go_roundg (m - (i + 1))
      case rel => exact ⟨i + 1, _, k9, c9, rfl, by go_num, rfl, by omega, HO.out.2.2, HO.out.1, HO.out.2.1⟩
      case measure => have := HG.out; omega
    · have ti : decide ((i : Int) < (m : Int)) = false := decide_eq_false (by omega)
      obtain rfl : i = m := by omega
      have HE : Hid (Fw (FR.row (i + 1)) k g wr ∧ w.heap.size ≤ g) := ⟨by rw [← FR.rowc_is i (by omega)]; exact hfw, (HK.out.1.lt g rfl).1⟩
      clear hfw hsz
      go_wp2
      go_ret
      exact ⟨k, g, c', rfl, by rw [HN.out]; exact HE.out.1, HE.out.2, HK.out.2.1⟩
theorem bel_oneR (w : World) (o : Obj) : Below w.heap.size w (w.alloc o) := Below.alloc (Below.refl _ _) (Nat.le_refl _) o
theorem nb_oneR (lo hi n : Int) : nb lo hi 0 [n] = if lo ≤ n ∧ n ≤ hi then (0, 0) else (3, 0) := by
  by_cases h : lo ≤ n ∧ n ≤ hi
  · rw [if_pos h]
    exact nb_none lo hi [n] (fun j hj => by obtain rfl : j = 0 := by simpa using hj
                                            simp [bwB]; omega)
  · rw [if_neg h]
    have := nb_hit lo hi [n] 0 (by simp) (fun j hj => by omega) (by simp [bwB]; omega)
    simpa using this
theorem one_cellR (n : Int) (W : World) : ∀ j, j < [n].length → (W.alloc (.cells #[.int .i64 n] 3)).cell? ⟨W.heap.size, 0 + j, none⟩ = some (.int .i64 ([n].getD j 0)) := by
  intro j hj
  obtain rfl : j = 0 := by simpa using hj
  simp
set_option maxHeartbeats 2000000 in
theorem Row_bad (n : Int) (w : World) (hn : n < 1 ∨ 50 < n) :
    Calls Tryz.prog 13 #[.int .i64 n] w fun e w' => e = .returned (.tuple #[.slice none 0 0, .agg #[.int .i64 3, .int .i64 0]]) ∧ Below w.heap.size w w' := by
  have HB : Hid (∀ W : World, Calls Tryz.prog 44 #[.int .i64 1, .int .i64 50, .slice (some ⟨W.heap.size, 0, none⟩) 1 1] (W.alloc (.cells #[.int .i64 n] 3)) fun e w' => e = .returned (.agg #[.int .i64 3, .int .i64 0]) ∧ Below (W.heap.size + 1) (W.alloc (.cells #[.int .i64 n] 3)) w') := fun W => by
    have := between_any 1 50 [n] W.heap.size 0 1 (W.alloc (.cells #[.int .i64 n] 3)) (by simp) (by simp) (one_cellR n W)
    rw [nb_oneR, if_neg (by omega)] at this
    simpa using this
  clear hn
  go_enter Tryz.func13, Tryz.ntmps13
  obtain ⟨W0, hW0⟩ : ∃ W, w.alloc (.cells #[.int .i64 0, .int .i64 0] 25) = W := ⟨_, rfl⟩
  have S0 := Sv.new 0 0 w
  have k0 := bel_oneR w (.cells #[.int .i64 0, .int .i64 0] 25)
  have z0 : W0.heap.size = w.heap.size + 1 := by rw [← hW0]; simp
  rw [hW0] at S0 k0
  go_wp2_with fail
  rw [← z0]
  refine (HB.out W0).mono ?_
  rintro e w1 ⟨rfl, hb⟩
  have k1 : Below W0.heap.size W0 (W0.alloc (.cells #[.int .i64 n] 3)) := bel_oneR W0 _
  have k2 : Below w.heap.size w w1 := (k0.trans (k1.mono (by omega))).trans (hb.mono (by omega))
  have S1 : Sv w.heap.size 0 0 w1 := (S0.below k1).below (hb.mono (by simp))
  obtain ⟨q0, q1, q2, q3, hz⟩ := S1
  have HK2 : Hid (Below w.heap.size w w1) := k2
  clear HB hb k1 k2 k0 hW0 z0
  go_wp2
  go_region
  all_goals
    go_wp2
    refine bodyPost_ret (v := .tuple #[.slice none 0 0, .agg #[.int .i64 3, .int .i64 0]]) (by simp [results, Tryz.results13, go_sem, q0, q1, hz]) rfl ⟨rfl, ?_⟩
    refine Below.drew (Below.alloc (Below.setCell (Below.setCell HK2.out ?_ _) ?_ _) ?_ _) <;> first | omega | (simp; done) | (simp; omega)
set_option maxHeartbeats 2000000 in
theorem Row_ok (n : Nat) (w : World) (h1 : 1 ≤ n) (hn : n ≤ 50) :
    Calls Tryz.prog 13 #[.int .i64 (n : Int)] w fun e w' => ∃ (N g c : Nat), e = .returned (.tuple #[.slice (some ⟨g, 0, none⟩) N c, .agg #[.int .i64 0, .int .i64 0]]) ∧ Fw (FR.row n) N g w' ∧ Below w.heap.size w w' := by
  have HB : Hid (∀ W : World, Calls Tryz.prog 44 #[.int .i64 1, .int .i64 50, .slice (some ⟨W.heap.size, 0, none⟩) 1 1] (W.alloc (.cells #[.int .i64 (n : Int)] 3)) fun e w' => e = .returned (.agg #[.int .i64 0, .int .i64 0]) ∧ Below (W.heap.size + 1) (W.alloc (.cells #[.int .i64 (n : Int)] 3)) w') := fun W => by
    have := between_any 1 50 [(n : Int)] W.heap.size 0 1 (W.alloc (.cells #[.int .i64 (n : Int)] 3)) (by simp) (by simp) (one_cellR (n : Int) W)
    rw [nb_oneR, if_pos (by omega)] at this
    simpa using this
  have HZ : Hid (∀ W, Calls Tryz.prog 45 #[.int .i64 (n : Int)] W fun e w' => ∃ (N g c : Nat), e = .returned (.slice (some ⟨g, 0, none⟩) N c) ∧ Fw (FR.row n) N g w' ∧ W.heap.size ≤ g ∧ Below W.heap.size W w') := fun W => row_any n W h1 hn
  clear h1
  clear hn
  go_enter Tryz.func13, Tryz.ntmps13
  obtain ⟨W0, hW0⟩ : ∃ W, w.alloc (.cells #[.int .i64 0, .int .i64 0] 25) = W := ⟨_, rfl⟩
  have S0 := Sv.new 0 0 w
  have k0 := bel_oneR w (.cells #[.int .i64 0, .int .i64 0] 25)
  have z0 : W0.heap.size = w.heap.size + 1 := by rw [← hW0]; simp
  rw [hW0] at S0 k0
  go_wp2_with fail
  rw [← z0]
  refine (HB.out W0).mono ?_
  rintro e w1 ⟨rfl, hb⟩
  have k1 : Below W0.heap.size W0 (W0.alloc (.cells #[.int .i64 (n : Int)] 3)) := bel_oneR W0 _
  have k2 : Below w.heap.size w w1 := (k0.trans (k1.mono (by omega))).trans (hb.mono (by omega))
  have S1 : Sv w.heap.size 0 0 w1 := (S0.below k1).below (hb.mono (by simp))
  have HS1 : Hid (Sv w.heap.size 0 0 w1 ∧ Below w.heap.size w w1) := ⟨S1, k2⟩
  clear HB hb k1 k2 k0 hW0 z0 S1 S0
  go_wp2_with fail
  obtain ⟨W2, hW2⟩ : ∃ W2, W2 = w1.alloc (.cells #[.int .i64 0, .int .i64 0] 25) := ⟨_, rfl⟩
  rw [← hW2]
  have HS2 : Hid (Sv w.heap.size 0 0 W2 ∧ Below w.heap.size w W2) := by
    show _ ∧ _
    rw [hW2]
    exact ⟨HS1.out.1.alloc _ _, Below.alloc HS1.out.2 HS1.out.2.size _⟩
  clear hW2
  refine (HZ.out W2).mono ?_
  rintro e w3 ⟨N, g, c, rfl, hfw, hg, k3⟩
  have HS3 : Hid (Sv w.heap.size 0 0 w3 ∧ Below w.heap.size w w3) := ⟨HS2.out.1.below k3, HS2.out.2.trans (k3.mono HS2.out.2.size)⟩
  have hlt := HS2.out.1.lt
  have HL : Hid (Fw (FR.row n) N g w3 ∧ w.heap.size < g) := ⟨hfw, by omega⟩
  obtain ⟨q0, q1, q2, q3, hz⟩ := HS3.out.1
  clear HS1 HS2 hfw hg k3 hlt
  go_wp2
  refine bodyPost_ret (v := .tuple #[.slice (some ⟨g, 0, none⟩) N c, .agg #[.int .i64 0, .int .i64 0]]) (by simp [results, Tryz.results13, go_sem, q0, q1, hz]) rfl ?_
  have hK : Below w.heap.size w ((w3.setCell ⟨w.heap.size, 0, none⟩ (.int .i64 0)).setCell ⟨w.heap.size, 1, none⟩ (.int .i64 0)) := Below.setCell (Below.setCell HS3.out.2 (Nat.le_refl _) _) (Nat.le_refl _) _
  have hne : g ≠ w.heap.size := by have := HL.out.2; omega
  have hc : ∀ o, ((w3.setCell ⟨w.heap.size, 0, none⟩ (.int .i64 0)).setCell ⟨w.heap.size, 1, none⟩ (.int .i64 0)).cell? ⟨g, o, none⟩ = w3.cell? ⟨g, o, none⟩ := fun o => by
    rw [World.cell?_setCell_other _ _ _ _ (by intro e; cases e; exact hne rfl), World.cell?_setCell_other _ _ _ _ (by intro e; cases e; exact hne rfl)]
  exact ⟨N, g, c, rfl, ⟨HL.out.1.len, by simpa using HL.out.1.lt, fun i hi => (hc _).trans (HL.out.1.c0 i hi), fun i hi => (hc _).trans (HL.out.1.c1 i hi)⟩, hK⟩
end Go.Proofs.YtcnfhndejkngkaaGreatDoor
end

section
set_option linter.unusedSimpArgs false
set_option linter.unusedVariables false
set_option maxRecDepth 100000
namespace Go.Proofs.YtcnfhndejkngkaaGreatDoor
open Go.RowKit
set_option maxHeartbeats 1000000 in
theorem fracBegun_of (w : World) (hP : ∀ W, Below w.heap.size w W → Calls Tryz.prog 15 #[.agg #[.int .i64 3, .int .i64 5]] W fun e w' => e = .returned (.tuple #[.string ⟨#[76, 82, 76]⟩, .agg #[.int .i64 0, .int .i64 0]]) ∧ Below W.heap.size W w')
    (hD : ∀ W, Below w.heap.size w W → Calls Tryz.prog 32 #[.agg #[.int .i64 1, .int .i64 6]] W fun e w' => e = .returned (.tuple #[.string ⟨#[48, 46, 49, 40, 54, 41]⟩, .agg #[.int .i64 0, .int .i64 0]]) ∧ Below W.heap.size W w') :
    Calls Tryz.prog 11 #[] w fun e w' => e = .returned (.bool true) ∧ Below w.heap.size w w' := by
  have HP : Hid _ := hP
  have HD : Hid _ := hD
  clear hP hD
  go_enter Tryz.func11, Tryz.ntmps11
  go_wp2_with fail
  refine (HP.out _ (Below.refl _ _)).mono ?_
  rintro e w1 ⟨rfl, k1⟩
  have C1 : Cl w1.heap.size [.int .i64 0, .int .i64 0] 25 (w1.alloc (.cells #[.int .i64 0, .int .i64 0] 25)) := Cl.new [.int .i64 0, .int .i64 0] _ _
  have HK : Hid (Below w.heap.size w (w1.alloc (.cells #[.int .i64 0, .int .i64 0] 25)) ∧ Cl w1.heap.size [.int .i64 0, .int .i64 0] 25 (w1.alloc (.cells #[.int .i64 0, .int .i64 0] 25))) := ⟨k1.alloc k1.size _, C1⟩
  have HS : Hid (w.heap.size ≤ w1.heap.size) := k1.size
  clear k1 HP C1
  obtain ⟨W1, hW1⟩ : ∃ W, W = w1.alloc (.cells #[.int .i64 0, .int .i64 0] 25) := ⟨_, rfl⟩
  rw [← hW1] at HK
  go_wp2_with fail
  rw [← hW1]
  refine (HD.out _ HK.out.1).mono ?_
  rintro e w2 ⟨rfl, k2⟩
  have C2 := HK.out.2.below k2
  have C3 := C2.alloc (.cells #[.int .i64 0, .int .i64 0] 25)
  have HK2 : Hid (Below w.heap.size w (w2.alloc (.cells #[.int .i64 0, .int .i64 0] 25))) := (HK.out.1.trans (k2.mono HK.out.1.size)).alloc (HK.out.1.trans (k2.mono HK.out.1.size)).size _
  have q0 := C2.cell 0
  have q1 := C2.cell 1
  simp at q0 q1
  have q2 := C2.lt
  clear C2 C3 k2 HD HK
  go_wp2
  go_ret
  exact ⟨rfl, HK2.out⟩
end Go.Proofs.YtcnfhndejkngkaaGreatDoor
end

section
set_option linter.unusedSimpArgs false
set_option linter.unusedVariables false
set_option maxRecDepth 100000
namespace Go.Proofs.YtcnfhndejkngkaaGreatDoor
open Go.RowKit LgM
set_option maxHeartbeats 4000000 in
theorem Path_any (x y : Int) (w : World) :
    Calls Tryz.prog 15 #[.agg #[.int .i64 x, .int .i64 y]] w fun e w' => e = .returned (.tuple #[.string (ptext x y), .agg #[.int .i64 (pcode x y), .int .i64 0]]) ∧ Below w.heap.size w w' := by
  have HPc : Hid _ := path_cases x y
  have HOk : Hid (ffF x y = 0 → -1000000000000000000 ≤ x ∧ x ≤ 1000000000000000000 ∧ 1 ≤ y ∧ y ≤ 1000000000000000000 ∧ Int.gcd x y = 1) := fun h => ffF_ok h
  obtain ⟨c0, hc0⟩ : ∃ c, c = ffF x y := ⟨_, rfl⟩
  have HCh : Hid (∀ W, Calls Tryz.prog 37 #[.agg #[.int .i64 x, .int .i64 y]] W fun e w' => e = .returned (.agg #[.int .i64 c0, .int .i64 0]) ∧ Below W.heap.size W w') := fun W => by rw [hc0]; exact check_any x y W
  have HC0 : Hid (c0 = ffF x y) := hc0
  clear hc0
  obtain ⟨bf, hbf⟩ : ∃ b, b = w.heap.size + 1 := ⟨_, rfl⟩
  obtain ⟨W0, hW0⟩ : ∃ W, W = (w.alloc (.cells #[.int .i64 x, .int .i64 y] 23)).alloc (.cells #[.int .i64 0, .int .i64 0] 25) := ⟨_, rfl⟩
  have K0 : Hid (Cl w.heap.size [.int .i64 x, .int .i64 y] 23 W0 ∧ Cl bf [.int .i64 0, .int .i64 0] 25 W0 ∧ Below w.heap.size w W0 ∧ w.heap.size ≤ bf) := by
    have h1 := Cl.new [.int .i64 0, .int .i64 0] 25 (w.alloc (.cells #[.int .i64 x, .int .i64 y] 23))
    show _ ∧ _
    rw [hW0, hbf]
    exact ⟨(Cl.new _ _ _).alloc _, by simpa using h1, ((Below.refl _ _).alloc (Nat.le_refl _) _).alloc (by simp) _, by omega⟩
  have p0 := K0.out.1.cell 0
  have p1 := K0.out.1.cell 1
  simp at p0 p1
  go_enter Tryz.func15, Tryz.ntmps15
  go_wp2_with fail
  rw [← hW0]
  simp only [← hbf]
  clear hW0 hbf
  refine (HCh.out W0).mono ?_
  rintro e w1 ⟨rfl, k1⟩
  obtain ⟨W2, hW2⟩ : ∃ W, W = w1.alloc (.cells #[.int .i64 c0, .int .i64 0] 25) := ⟨_, rfl⟩
  have K1 : Hid (Cl w.heap.size [.int .i64 x, .int .i64 y] 23 w1 ∧ Cl bf [.int .i64 0, .int .i64 0] 25 w1 ∧ Below w.heap.size w w1 ∧ w.heap.size ≤ bf) := ⟨K0.out.1.below k1, K0.out.2.1.below k1, K0.out.2.2.1.trans (k1.mono K0.out.2.2.1.size), K0.out.2.2.2⟩
  have K2 : Hid (Cl w.heap.size [.int .i64 x, .int .i64 y] 23 W2 ∧ Cl bf [.int .i64 0, .int .i64 0] 25 W2 ∧ Below w.heap.size w W2 ∧ w.heap.size ≤ bf) := by
    show _ ∧ _
    rw [hW2]
    exact ⟨K1.out.1.alloc _, K1.out.2.1.alloc _, K1.out.2.2.1.alloc K1.out.2.2.1.size _, K1.out.2.2.2⟩
  have HW2 : Hid (W2 = w1.alloc (.cells #[.int .i64 c0, .int .i64 0] 25)) := hW2
  clear k1 K0 hW2 p0 p1
  have p0 := K1.out.1.cell 0
  have p1 := K1.out.1.cell 1
  have p2 := K1.out.1.lt
  have p3 := K1.out.2.1.cell 0
  have p4 := K1.out.2.1.cell 1
  have p5 := K1.out.2.1.lt
  have p6 := K1.out.2.1.frozen 0
  have p7 := K1.out.2.1.frozen 1
  simp at p0 p1 p3 p4
  rcases HPc.out with ⟨h0, h1, h2⟩ | ⟨h0, h1, h2, h3⟩ | ⟨h0, h1, h2, h3, h4⟩ | ⟨h0, h1, h2, h3, h4⟩
  · have HC : Hid (pcode x y = c0 ∧ ptext x y = ⟨#[]⟩) := ⟨by rw [h1, HC0.out], h2⟩
    have tc : (c0 != 0) = true := by
      rw [HC0.out]
      rcases h0 with h | h <;> rw [h] <;> rfl
    have HF : Hid (Below w.heap.size w (((w1.setCell ⟨bf, 0, none⟩ (.int .i64 c0)).setCell ⟨bf, 1, none⟩ (.int .i64 0)).alloc (.cells #[.int .i64 c0, .int .i64 0] 25)) ∧ Cl bf [.int .i64 c0, .int .i64 0] 25 (((w1.setCell ⟨bf, 0, none⟩ (.int .i64 c0)).setCell ⟨bf, 1, none⟩ (.int .i64 0)).alloc (.cells #[.int .i64 c0, .int .i64 0] 25))) := by
      have h := (K1.out.2.2.1.setCell (p := ⟨bf, 0, none⟩) K1.out.2.2.2 (.int .i64 c0)).setCell (p := ⟨bf, 1, none⟩) K1.out.2.2.2 (.int .i64 0)
      exact ⟨h.alloc h.size _, ((K1.out.2.1.set 0 _).set 1 _).alloc _⟩
    clear h0 h1 h2 HPc HOk HCh HC0 HW2 K2
    go_wp2
    go_region
    all_goals
      go_wp2
      have e1 := HF.out.2.drew.cell 0
      have e2 := HF.out.2.drew.cell 1
      simp at e1 e2
      exact bodyPost_ret (v := .tuple #[.string ⟨#[]⟩, .agg #[.int .i64 c0, .int .i64 0]]) (by simp [results, Tryz.results15, go_sem, e1, e2]) rfl ⟨by rw [HC.out.1, HC.out.2], HF.out.1.drew⟩
  · have HC : Hid (pcode x y = 3 ∧ ptext x y = ⟨#[]⟩) := ⟨h2, h3⟩
    have tx : decide (x < 1) = true := decide_eq_true h1
    have tc : c0 = 0 := by rw [HC0.out, h0]
    subst tc
    have HF : Hid (Below w.heap.size w (((w1.setCell ⟨bf, 0, none⟩ (.int .i64 3)).setCell ⟨bf, 1, none⟩ (.int .i64 0)).alloc (.cells #[.int .i64 0, .int .i64 0] 25)) ∧ Cl bf [.int .i64 3, .int .i64 0] 25 (((w1.setCell ⟨bf, 0, none⟩ (.int .i64 3)).setCell ⟨bf, 1, none⟩ (.int .i64 0)).alloc (.cells #[.int .i64 0, .int .i64 0] 25))) := by
      have h := (K1.out.2.2.1.setCell (p := ⟨bf, 0, none⟩) K1.out.2.2.2 (.int .i64 3)).setCell (p := ⟨bf, 1, none⟩) K1.out.2.2.2 (.int .i64 0)
      exact ⟨h.alloc h.size _, ((K1.out.2.1.set 0 _).set 1 _).alloc _⟩
    clear h0 h1 h2 h3 HPc HOk HCh HC0 HW2 K2
    go_wp2
    have e1 := HF.out.2.cell 0
    have e2 := HF.out.2.cell 1
    simp at e1 e2
    exact bodyPost_ret (v := .tuple #[.string ⟨#[]⟩, .agg #[.int .i64 3, .int .i64 0]]) (by simp [results, Tryz.results15, go_sem, e1, e2]) rfl ⟨by rw [HC.out.1, HC.out.2], HF.out.1⟩
  · have HC : Hid (pcode x y = 9 ∧ ptext x y = ⟨#[]⟩) := ⟨h3, h4⟩
    have tx : decide (x < 1) = false := decide_eq_false (by omega)
    have h5 := HOk.out h0
    obtain ⟨X, hX⟩ : ∃ X : Nat, X = x.toNat := ⟨_, rfl⟩
    obtain ⟨Y, hY⟩ : ∃ Y : Nat, Y = y.toNat := ⟨_, rfl⟩
    try rw [← hX, ← hY] at h2
    try rw [← hX, ← hY] at h4
    have eX : x = (X : Int) := by omega
    have eY : y = (Y : Int) := by omega
    have HRn : Hid (∀ W, Calls Tryz.prog 46 #[.agg #[.int .i64 x, .int .i64 y]] W fun e w' => ∃ (L : List Nat) (n g c : Nat), e = .returned (.tuple #[.slice (some ⟨g, 0, none⟩) n c, .bool (decide (ST.qsum X Y ≤ 20001))]) ∧ Rw9 L n g w' ∧ n ≤ 120 ∧ ST.rl true L = ST.path X Y ∧ L.sum + 1 = ST.qsum X Y ∧ Below W.heap.size W w') := fun W => by
      rw [eX, eY]
      exact runsTo_any X Y W (by omega) (by omega) (by omega) (by omega) (by
        have := h5.2.2.2.2
        rw [eX, eY] at this
        exact this)
    have tc : c0 = 0 := by rw [HC0.out, h0]
    subst tc
    clear h5 eX eY hX hY h0 HPc HOk HCh HC0
    go_wp2_with fail
    rw [← HW2.out]
    clear HW2 p0 p1 p2 p3 p4 p5 p6 p7
    refine (HRn.out W2).mono ?_
    rintro e w3 ⟨L, n, g, c, rfl, hrw, hn, hrl, hsum, k3⟩
    have K3 : Hid (Cl bf [.int .i64 0, .int .i64 0] 25 w3 ∧ Below w.heap.size w w3 ∧ w.heap.size ≤ bf) := ⟨K2.out.2.1.below k3, K2.out.2.2.1.trans (k3.mono K2.out.2.2.1.size), K2.out.2.2.2⟩
    clear k3 K1 K2
    have td : decide (ST.qsum X Y ≤ 20001) = false := decide_eq_false (by omega)
    have f0 := K3.out.1.cell 0
    have f1 := K3.out.1.cell 1
    have f2 := K3.out.1.frozen 0
    have f3 := K3.out.1.frozen 1
    simp at f0 f1
    have HF : Hid (Below w.heap.size w ((w3.setCell ⟨bf, 0, none⟩ (.int .i64 9)).setCell ⟨bf, 1, none⟩ (.int .i64 0)) ∧ Cl bf [.int .i64 9, .int .i64 0] 25 ((w3.setCell ⟨bf, 0, none⟩ (.int .i64 9)).setCell ⟨bf, 1, none⟩ (.int .i64 0))) :=
      ⟨(K3.out.2.1.setCell K3.out.2.2 _).setCell K3.out.2.2 _, (K3.out.1.set 0 _).set 1 _⟩
    clear hrw hrl hsum h1 h2 h3 h4 K3
    rw [td]
    clear td
    go_wp2
    have e1 := HF.out.2.cell 0
    have e2 := HF.out.2.cell 1
    simp at e1 e2
    exact bodyPost_ret (v := .tuple #[.string ⟨#[]⟩, .agg #[.int .i64 9, .int .i64 0]]) (by simp [results, Tryz.results15, go_sem, e1, e2]) rfl ⟨by rw [HC.out.1, HC.out.2], HF.out.1⟩
  · obtain ⟨T, hT⟩ : ∃ T, T = ptext x y := ⟨_, rfl⟩
    have HC : Hid (pcode x y = 0 ∧ ptext x y = T) := ⟨h3, hT.symm⟩
    rw [← hT] at h4
    clear hT
    have tx : decide (x < 1) = false := decide_eq_false (by omega)
    have h5 := HOk.out h0
    obtain ⟨X, hX⟩ : ∃ X : Nat, X = x.toNat := ⟨_, rfl⟩
    obtain ⟨Y, hY⟩ : ∃ Y : Nat, Y = y.toNat := ⟨_, rfl⟩
    try rw [← hX, ← hY] at h2
    try rw [← hX, ← hY] at h4
    have eX : x = (X : Int) := by omega
    have eY : y = (Y : Int) := by omega
    have HRn : Hid (∀ W, Calls Tryz.prog 46 #[.agg #[.int .i64 x, .int .i64 y]] W fun e w' => ∃ (L : List Nat) (n g c : Nat), e = .returned (.tuple #[.slice (some ⟨g, 0, none⟩) n c, .bool (decide (ST.qsum X Y ≤ 20001))]) ∧ Rw9 L n g w' ∧ n ≤ 120 ∧ ST.rl true L = ST.path X Y ∧ L.sum + 1 = ST.qsum X Y ∧ Below W.heap.size W w') := fun W => by
      rw [eX, eY]
      exact runsTo_any X Y W (by omega) (by omega) (by omega) (by omega) (by
        have := h5.2.2.2.2
        rw [eX, eY] at this
        exact this)
    have tc : c0 = 0 := by rw [HC0.out, h0]
    subst tc
    clear h5 eX eY hX hY h0 HPc HOk HCh HC0
    go_wp2_with fail
    rw [← HW2.out]
    clear HW2 p0 p1 p2 p3 p4 p5 p6 p7
    refine (HRn.out W2).mono ?_
    rintro e w3 ⟨L, n, g, c, rfl, hrw, hn, hrl, hsum, k3⟩
    have K3 : Hid (Cl bf [.int .i64 0, .int .i64 0] 25 w3 ∧ Below w.heap.size w w3 ∧ w.heap.size ≤ bf) := ⟨K2.out.2.1.below k3, K2.out.2.2.1.trans (k3.mono K2.out.2.2.1.size), K2.out.2.2.2⟩
    clear k3 K1 K2
    have td : decide (ST.qsum X Y ≤ 20001) = true := decide_eq_true (by omega)
    have HSt : Hid (∀ W, Below w3.heap.size w3 W → Calls Tryz.prog 47 #[.slice (some ⟨g, 0, none⟩) n c] W fun e w' => e = .returned (.string T) ∧ Below W.heap.size W w') := fun W kk => by
      rw [h4, ← hrl]
      exact steps_any L n g c W (hrw.below kk) hn (by omega)
    clear hrw hrl hsum h1 h2 h3 h4
    rw [td]
    clear td
    go_wp2_with fail
    refine (HSt.out w3 (Below.refl _ _)).mono ?_
    rintro e w4 ⟨rfl, k4⟩
    have K4 : Hid (Cl bf [.int .i64 0, .int .i64 0] 25 w4 ∧ Below w.heap.size w w4 ∧ w.heap.size ≤ bf) := ⟨K3.out.1.below k4, K3.out.2.1.trans (k4.mono K3.out.2.1.size), K3.out.2.2⟩
    clear k4 K3 HSt
    have f0 := K4.out.1.cell 0
    have f1 := K4.out.1.cell 1
    have f2 := K4.out.1.frozen 0
    have f3 := K4.out.1.frozen 1
    simp at f0 f1
    have HF : Hid (Below w.heap.size w ((w4.setCell ⟨bf, 0, none⟩ (.int .i64 0)).setCell ⟨bf, 1, none⟩ (.int .i64 0)) ∧ Cl bf [.int .i64 0, .int .i64 0] 25 ((w4.setCell ⟨bf, 0, none⟩ (.int .i64 0)).setCell ⟨bf, 1, none⟩ (.int .i64 0))) :=
      ⟨(K4.out.2.1.setCell K4.out.2.2 _).setCell K4.out.2.2 _, (K4.out.1.set 0 _).set 1 _⟩
    clear K4
    go_wp2
    have e1 := HF.out.2.cell 0
    have e2 := HF.out.2.cell 1
    simp at e1 e2
    exact bodyPost_ret (v := .tuple #[.string T, .agg #[.int .i64 0, .int .i64 0]]) (by simp [results, Tryz.results15, go_sem, e1, e2]) rfl ⟨by rw [HC.out.1, HC.out.2], HF.out.1⟩
end Go.Proofs.YtcnfhndejkngkaaGreatDoor
end
