/- The law FracTree, out of what is asked of the code: Path, Node, and the examples fracBegun. -/
import Derived.Test.YtcnfhndejkngkaaGreatDoorJtM
import Derived.Test.YtcnfhndejkngkaaGreatDoorJtN
import Derived.Test.YtcnfhndejkngkaaGreatDoorJtF
import Derived.BigQuiet
import Derived.Deep.LoopGhost
set_option linter.unusedSimpArgs false
set_option linter.unusedVariables false
set_option maxRecDepth 100000
namespace Go.Proofs.YtcnfhndejkngkaaGreatDoor
open Go.RowKit

set_option maxHeartbeats 4000000 in
theorem frac_tree (x y : Int) (P : List UInt8) (w : World) (hD : ∀ W, Below w.heap.size w W → Calls Tryz.prog 15 #[.agg #[.int .i64 x, .int .i64 y]] W fun e w' => e = .returned (.tuple #[.string (ptext x y), .agg #[.int .i64 (pcode x y), .int .i64 0]]) ∧ Below W.heap.size W w')
    (hPa : ∀ x y W, Calls Tryz.prog 15 #[.agg #[.int .i64 x, .int .i64 y]] W fun e w' => e = .returned (.tuple #[.string (ptext x y), .agg #[.int .i64 (pcode x y), .int .i64 0]]) ∧ Below W.heap.size W w')
    (hP9 : P.length ≤ 9223372036854775807)
    (hNd : ∀ W, Calls Tryz.prog 20 #[.string ⟨P.toArray⟩] W fun e w' => ∃ x y c d : Int, e = .returned (.tuple #[.agg #[.int .i64 x, .int .i64 y], .agg #[.int .i64 c, .int .i64 d]]) ∧ NdIs P x y c d ∧ Below W.heap.size W w')
    (hBg : ∀ W, Below w.heap.size w W → Calls Tryz.prog 11 #[] W fun e w' => e = .returned (.bool true) ∧ Below W.heap.size W w') :
    Calls Tryz.prog 4 #[.agg #[.int .i64 x, .int .i64 y], .string ⟨P.toArray⟩] w fun e w' => e = .returned (.bool true) ∧ Below w.heap.size w w' := by
  obtain ⟨PS, hPS⟩ : ∃ S : ByteArray, S = ⟨P.toArray⟩ := ⟨_, rfl⟩
  obtain ⟨pn, hpn⟩ : ∃ n, n = P.length := ⟨_, rfl⟩
  have hpz : PS.size = pn := by rw [hPS, hpn]; simp [ByteArray.size]
  have hpn9 : pn ≤ 9223372036854775807 := by omega
  have HPX : Hid (∀ (i : Nat) (h : i < PS.size) (h2 : i < P.length), (((PS[i]'h).toNat : Nat) : Int) = (((P[i]'h2).toNat : Nat) : Int)) := fun i h h2 => by
    subst hPS
    rfl
  have HPS : Hid (PS = ⟨P.toArray⟩ ∧ pn = P.length) := ⟨hPS, hpn⟩
  have HPa : Hid _ := hPa
  have HNd : Hid (∀ W, Calls Tryz.prog 20 #[.string PS] W fun e w' => ∃ x y c d : Int, e = .returned (.tuple #[.agg #[.int .i64 x, .int .i64 y], .agg #[.int .i64 c, .int .i64 d]]) ∧ NdIs P x y c d ∧ Below W.heap.size W w') := by rw [hPS]; exact hNd
  rw [← hPS]
  clear hPS hpn hNd hPa hP9
  obtain ⟨S, hS⟩ : ∃ S : ByteArray, S = ptext x y := ⟨_, rfl⟩
  obtain ⟨cf, hcf⟩ : ∃ c, c = pcode x y := ⟨_, rfl⟩
  obtain ⟨c0, hc0⟩ : ∃ c, c = ffF x y := ⟨_, rfl⟩
  have HFf : Hid (∀ W, Calls Tryz.prog 9 #[.agg #[.int .i64 x, .int .i64 y]] W fun e w' => e = .returned (.agg #[.int .i64 c0, .int .i64 0]) ∧ Below W.heap.size W w') := fun W => by
    rw [hc0]; exact FracFault_any x y W
  rw [← hS, ← hcf] at hD
  have HC : Hid (((c0 = 3 ∨ c0 = 6) ∧ cf = c0 ∧ S = ⟨#[]⟩) ∨ (c0 = 0 ∧ x < 1 ∧ cf = 3 ∧ S = ⟨#[]⟩) ∨ (c0 = 0 ∧ 1 ≤ x ∧ 20001 < ST.qsum x.toNat y.toNat ∧ cf = 9 ∧ S = ⟨#[]⟩) ∨ (c0 = 0 ∧ 1 ≤ x ∧ ST.qsum x.toNat y.toNat ≤ 20001 ∧ cf = 0 ∧ S = pathS (ST.path x.toNat y.toNat))) := by
    show _ ∨ _
    rw [hS, hcf, hc0]
    exact path_cases x y
  have HXY : Hid (c0 = 0 → x ≤ 1000000000000000000 ∧ 1 ≤ y ∧ y ≤ 1000000000000000000) := fun h => by
    rw [hc0] at h
    have h2 := ffF_ok h
    exact ⟨h2.2.1, h2.2.2.1, h2.2.2.2.1⟩
  have HXg : Hid (c0 = 0 → Int.gcd x y = 1) := fun h => by
    rw [hc0] at h
    exact (ffF_ok h).2.2.2.2
  have HD : Hid _ := hD
  have HBg : Hid _ := hBg
  clear hD hBg hS hcf hc0
  obtain ⟨b1, hb1⟩ : ∃ b, b = w.heap.size := ⟨_, rfl⟩
  obtain ⟨W0, hW0⟩ : ∃ W, W = w.alloc (.cells #[.int .i64 x, .int .i64 y] 23) := ⟨_, rfl⟩
  have K0 : Hid (Sv b1 x y W0 ∧ Below w.heap.size w W0) := by
    show _ ∧ _
    rw [hW0, hb1]
    exact ⟨Sv.newT x y w _, (Below.refl _ _).alloc (Nat.le_refl _) _⟩
  go_enter Tryz.func4, Tryz.ntmps4
  go_wp2_with fail
  rw [← hW0]
  simp only [← hb1]
  clear hW0 hb1
  refine (HD.out _ K0.out.2).mono ?_
  rintro e w1 ⟨rfl, k1⟩
  obtain ⟨b4, hb4⟩ : ∃ b, b = w1.heap.size := ⟨_, rfl⟩
  obtain ⟨W2, hW2⟩ : ∃ W, W = w1.alloc (.cells #[.int .i64 cf, .int .i64 0] 25) := ⟨_, rfl⟩
  have K1 : Hid (Sv b1 x y w1 ∧ Below w.heap.size w w1) := ⟨K0.out.1.below k1, K0.out.2.trans (k1.mono K0.out.2.size)⟩
  have K2 : Hid (Sv b1 x y W2 ∧ Sv b4 cf 0 W2 ∧ Below w.heap.size w W2) := by
    show _ ∧ _
    rw [hW2, hb4]
    exact ⟨K1.out.1.alloc _ _, Sv.newT cf 0 w1 _, K1.out.2.alloc K1.out.2.size _⟩
  have HBb : w.heap.size ≤ b4 := by rw [hb4]; exact K1.out.2.size
  have q0 := K1.out.1.c0
  have q1 := K1.out.1.c1
  have q2 := K1.out.1.lt
  clear k1 K0
  go_wp2_with fail
  rw [← hW2]
  simp only [← hb4]
  clear hW2 hb4 q0 q1 q2 K1
  refine (HFf.out _).mono ?_
  rintro e w3 ⟨rfl, k3⟩
  obtain ⟨b5, hb5⟩ : ∃ b, b = w3.heap.size := ⟨_, rfl⟩
  obtain ⟨W4, hW4⟩ : ∃ W, W = w3.alloc (.cells #[.int .i64 c0, .int .i64 0] 25) := ⟨_, rfl⟩
  have K3 : Hid (Sv b1 x y w3 ∧ Sv b4 cf 0 w3 ∧ Below w.heap.size w w3) := ⟨K2.out.1.below k3, K2.out.2.1.below k3, K2.out.2.2.trans (k3.mono K2.out.2.2.size)⟩
  have HK : Hid (Sv b1 x y W4 ∧ Sv b4 cf 0 W4 ∧ Sv b5 c0 0 W4 ∧ Below w.heap.size w W4) := by
    show _ ∧ _
    rw [hW4, hb5]
    exact ⟨K3.out.1.alloc _ _, K3.out.2.1.alloc _ _, Sv.newT c0 0 w3 _, K3.out.2.2.alloc K3.out.2.2.size _⟩
  have HB4 : Hid (w.heap.size ≤ b4) := HBb
  have HN : Hid (b1 ≠ b5 ∧ b4 ≠ b5 ∧ w.heap.size ≤ b5) := by
    have := K3.out.1.lt
    have := K3.out.2.1.lt
    have := K3.out.2.2.size
    exact ⟨by omega, by omega, by omega⟩
  have p0 := K3.out.1.c0
  have p1 := K3.out.1.c1
  have p2 := K3.out.1.lt
  clear k3 K2 K3 HFf
  rcases HC.out with ⟨h0, rfl, rfl⟩ | ⟨rfl, h1, rfl, rfl⟩ | ⟨rfl, h1, h2, rfl, rfl⟩ | ⟨rfl, h1, h2, rfl, hS⟩
  · clear HC
    rcases h0 with rfl | rfl
    · skip
      go_wp2_with fail
      rw [← hW4]
      simp only [← hb5]
      clear hW4 hb5 p0 p1 p2
      refine (HBg.out _ HK.out.2.2.2).mono ?_
      rintro e w7 ⟨rfl, k7⟩
      have HK7 : Hid (Sv b1 x y w7 ∧ Sv b4 3 0 w7 ∧ Sv b5 3 0 w7 ∧ Below w.heap.size w w7) := ⟨HK.out.1.below k7, HK.out.2.1.below k7, HK.out.2.2.1.below k7, HK.out.2.2.2.trans (k7.mono HK.out.2.2.2.size)⟩
      have q0 := HK7.out.1.c0
      have q1 := HK7.out.1.c1
      have q2 := HK7.out.2.1.c0
      have q3 := HK7.out.2.1.c1
      have q4 := HK7.out.2.2.1.c0
      have q5 := HK7.out.2.2.1.c1
      clear k7 HK
      go_wp2_with fail
      clear q0 q1 q2 q3 q4 q5
      refine (HNd.out w7).mono ?_
      rintro e w8 ⟨ux, uy, fc, fd, rfl, hnd, k8⟩
      have HND : Hid (NdIs P ux uy fc fd) := hnd
      have K8 : Hid (Sv b4 3 0 w8 ∧ Sv b5 3 0 w8 ∧ Below w.heap.size w w8) := ⟨HK7.out.2.1.below k8, HK7.out.2.2.1.below k8, HK7.out.2.2.2.trans (k8.mono HK7.out.2.2.2.size)⟩
      have n45 : b4 ≠ b5 := HN.out.2.1
      have n54 : b5 ≠ b4 := fun e => HN.out.2.1 e.symm
      clear k8 HK7 hnd
      obtain ⟨b12, hb12⟩ : ∃ b, b = w8.heap.size := ⟨_, rfl⟩
      obtain ⟨W9, hW9⟩ : ∃ W, W = ((((w8.setCell ⟨b4, 0, none⟩ (.int .i64 fc)).setCell ⟨b4, 1, none⟩ (.int .i64 fd)).setCell ⟨b5, 0, none⟩ (.int .i64 0)).setCell ⟨b5, 1, none⟩ (.int .i64 0)).alloc (.cells #[.int .i64 ux, .int .i64 uy] 23) := ⟨_, rfl⟩
      have K9 : Hid (Sv b4 fc fd W9 ∧ Sv b5 0 0 W9 ∧ Sv b12 ux uy W9 ∧ Below w.heap.size w W9) := by
        have h1 := ((((K8.out.2.2.setCell (p := ⟨b4, 0, none⟩) HB4.out (.int .i64 fc)).setCell (p := ⟨b4, 1, none⟩) HB4.out (.int .i64 fd)).setCell (p := ⟨b5, 0, none⟩) HN.out.2.2 (.int .i64 0)).setCell (p := ⟨b5, 1, none⟩) HN.out.2.2 (.int .i64 0))
        have h2 := Sv.newT ux uy ((((w8.setCell ⟨b4, 0, none⟩ (.int .i64 fc)).setCell ⟨b4, 1, none⟩ (.int .i64 fd)).setCell ⟨b5, 0, none⟩ (.int .i64 0)).setCell ⟨b5, 1, none⟩ (.int .i64 0)) 23
        simp only [World.size_setCell] at h2
        show _ ∧ _
        rw [hW9, hb12]
        exact ⟨((K8.out.1.set fc fd).other _ _ n54).alloc _ _, ((K8.out.2.1.other _ _ n45).set 0 0).alloc _ _, h2, h1.alloc h1.size _⟩
      have r0 := K8.out.1.c0
      have r1 := K8.out.1.c1
      have r2 := K8.out.1.f0
      have r3 := K8.out.1.f1
      have r4 := K8.out.2.1.c0
      have r5 := K8.out.2.1.c1
      have r6 := K8.out.2.1.f0
      have r7 := K8.out.2.1.f1
      have r8 := K8.out.1.lt
      have r9 := K8.out.2.1.lt
      have n12 : b12 ≠ b5 := by omega
      have n13 : b5 ≠ b12 := by omega
      clear K8
      rcases TR.three P with hT | ⟨hT, hT2⟩ | ⟨hT, i0, hi0, hT2, hT3⟩
      · have tn : decide (20000 < (pn : Int)) = true := decide_eq_true (by have := HPS.out.2; omega)
        have tn2 : decide (20000 < pn) = true := decide_eq_true (by have := HPS.out.2; omega)
        have HE : Hid (fc = 2 ∧ fd = 0 ∧ ux = 0 ∧ uy = 0) := by
          rcases HND.out with ⟨_, h2, h3, h4⟩ | ⟨h1, _⟩
          · rw [TR.tf_long hT] at h2
            obtain ⟨h5, h6⟩ := Prod.mk.inj h2
            exact ⟨h5, h6, h3, h4⟩
          · omega
        have hp0 : decide (0 < (pn : Int)) = true := decide_eq_true (by have := HPS.out.2; omega)
        have hp1 : 0 < pn := by have := HPS.out.2; omega
        clear hT HND
        obtain ⟨rfl, rfl, rfl, rfl⟩ := HE.out
        go_wp2_with fail
        rw [← hW9]
        simp only [← hb12]
        clear hW9 hb12 r0 r1 r2 r3 r4 r5 r6 r7 r8 r9 HE
        refine (F_any 2 0 _).mono ?_
        rintro e wa ⟨rfl, ka⟩
        have KA : Hid (Sv b4 2 0 wa ∧ Sv b5 0 0 wa ∧ Sv b12 0 0 wa ∧ Below w.heap.size w wa) := ⟨K9.out.1.below ka, K9.out.2.1.below ka, K9.out.2.2.1.below ka, K9.out.2.2.2.trans (ka.mono K9.out.2.2.2.size)⟩
        clear ka K9
        have K10 : Hid (Sv b4 2 0 ((wa.setCell ⟨b5, 0, none⟩ (.int .i64 2)).setCell ⟨b5, 1, none⟩ (.int .i64 0)) ∧ Sv b5 2 0 ((wa.setCell ⟨b5, 0, none⟩ (.int .i64 2)).setCell ⟨b5, 1, none⟩ (.int .i64 0)) ∧ Sv b12 0 0 ((wa.setCell ⟨b5, 0, none⟩ (.int .i64 2)).setCell ⟨b5, 1, none⟩ (.int .i64 0)) ∧ Below w.heap.size w ((wa.setCell ⟨b5, 0, none⟩ (.int .i64 2)).setCell ⟨b5, 1, none⟩ (.int .i64 0))) :=
          ⟨KA.out.1.other _ _ n54, KA.out.2.1.set _ _, KA.out.2.2.1.other _ _ n13, (KA.out.2.2.2.setCell HN.out.2.2 _).setCell HN.out.2.2 _⟩
        have q0 := KA.out.2.1.c0
        have q1 := KA.out.2.1.c1
        have q2 := KA.out.2.1.f0
        have q3 := KA.out.2.1.f1
        have q4 := KA.out.2.1.lt
        clear KA
        go_wp2
        clear q0 q1 q2 q3 q4
        go_loopg [13] 0 (fun gk iv wx => iv = .int .i64 0 ∧ Hid (gk = 0 ∧ Sv b4 2 0 wx ∧ Sv b5 2 0 wx ∧ Sv b12 0 0 wx ∧ Below w.heap.size w wx))
        case atStart => exact ⟨rfl, rfl, K10.out⟩
        case round =>
          clear K10
          obtain ⟨rfl, HR⟩ := hrel
          have q0 := HR.out.2.1.c0
          have q1 := HR.out.2.1.c1
          have q2 := HR.out.2.2.1.c0
          have q3 := HR.out.2.2.1.c1
          have q4 := HR.out.2.2.2.1.c0
          have q5 := HR.out.2.2.2.1.c1
          have HK : Hid (Below w.heap.size w wr) := HR.out.2.2.2.2
          clear HR
          go_wp2
          go_ret
          exact ⟨rfl, HK.out⟩
      · have tn : decide (20000 < (pn : Int)) = false := decide_eq_false (by have := HPS.out.2; omega)
        have tn2 : decide (20000 < pn) = false := decide_eq_false (by have := HPS.out.2; omega)
        have HWd : Hid (WdOut (TR.steps P) ux uy fc fd) := by
          rcases HND.out with ⟨h1, _⟩ | ⟨_, _, h2⟩
          · rw [TR.tf_ok hT hT2] at h1; exact absurd rfl h1
          · exact h2
        have HWk : Hid (∀ W, Calls Tryz.prog 19 #[.string PS] W fun e w' => WkOut W w' (TR.steps P) e) := fun W => by
          have h := Walked_any (TR.steps P) W (by unfold TR.steps; rw [List.length_map]; omega)
          rw [TR.steps_back hT2, ← HPS.out.1] at h
          exact h
        have HT : Hid (P.length ≤ 20000 ∧ ∀ c ∈ P, TR.okb c = true) := ⟨hT, hT2⟩
        clear hT hT2 HND
        go_wp2
        rw [← hW9]
        simp only [← hb12]
        clear hW9 hb12 r0 r1 r2 r3 r4 r5 r6 r7 r8 r9
        go_loopg [13] pn (fun gk iv wx => ∃ i : Nat, iv = .int .i64 (i : Int) ∧ Hid (gk = pn - i ∧ i ≤ pn ∧ Sv b4 fc fd wx ∧ Sv b5 0 0 wx ∧ Sv b12 ux uy wx ∧ Below w.heap.size w wx))
        case atStart => exact ⟨0, rfl, by omega, by omega, K9.out⟩
        case round =>
          clear K9
          obtain ⟨i, rfl, HR⟩ := hrel
          obtain ⟨h1, h2, h3⟩ := HR.out
          have HG : Hid (gk = pn - i) := h1
          have HK : Hid (Sv b4 fc fd wr ∧ Sv b5 0 0 wr ∧ Sv b12 ux uy wr ∧ Below w.heap.size w wr) := h3
          have q2 := h3.2.1.c0
          have q3 := h3.2.1.c1
          clear HR h1 h3
          by_cases hi : i < pn
          · have ti : decide ((i : Int) < (pn : Int)) = true := decide_eq_true (by omega)
            have xi : (i : Int) < (pn : Int) := by omega
            have xi2 : i < PS.size := by omega
            have hil : i < P.length := by rw [← HPS.out.2]; exact hi
            have tz := HPX.out i xi2 hil
            have hok := HT.out.2 _ (List.getElem_mem hil)
            have hcase : ((P[i]'hil).toNat : Int) = 76 ∨ ((P[i]'hil).toNat : Int) = 82 := by
              unfold TR.okb at hok
              rw [Bool.or_eq_true, beq_iff_eq, beq_iff_eq] at hok
              rcases hok with h | h
              · left; rw [h]; rfl
              · right; rw [h]; rfl
            rw [← tz] at hcase
            clear tz hok
            rcases hcase with tz | tz
            · have tz2 : ∀ h : i < PS.size, (((PS[i]'h).toNat : Nat) : Int) = 76 := fun _ => tz
              have tz3 : ∀ h : i < PS.size, (PS[i]'h).toNat = 76 := fun h => by have := tz2 h; omega
              clear tz
              go_wp2
              go_roundg (pn - (i + 1))
              case rel => exact ⟨i + 1, by go_num, rfl, by omega, HK.out⟩
              case measure => have := HG.out; omega
            · have tz2 : ∀ h : i < PS.size, (((PS[i]'h).toNat : Nat) : Int) = 82 := fun _ => tz
              have u1 : ∀ h : i < PS.size, ((((PS[i]'h).toNat : Nat) : Int) != 76) = true := fun h => by rw [tz2 h]; rfl
              have u2 : ∀ h : i < PS.size, ((((PS[i]'h).toNat : Nat) : Int) != 82) = false := fun h => by rw [tz2 h]; rfl
              clear tz2 tz
              go_wp2
              go_roundg (pn - (i + 1))
              case rel => exact ⟨i + 1, by go_num, rfl, by omega, HK.out⟩
              case measure => have := HG.out; omega
          · have ti : decide ((i : Int) < (pn : Int)) = false := decide_eq_false (by omega)
            clear h2
            go_wp2_with fail
            refine (HWk.out wr).mono ?_
            rintro e w5 ⟨hwk, k5⟩
            have K5 : Hid (Sv b4 fc fd w5 ∧ Sv b12 ux uy w5 ∧ Below w.heap.size w w5) := ⟨HK.out.1.below k5, HK.out.2.2.1.below k5, HK.out.2.2.2.trans (k5.mono HK.out.2.2.2.size)⟩
            clear HK q2 q3 k5
            rcases hwk with ⟨j, hj1, hj2, hj3, rfl⟩ | ⟨hj, pa, pb, rfl, hba, hbb⟩
            · have HE : Hid (fc = 9 ∧ fd = (j : Int) ∧ ux = 0 ∧ uy = 0) := by
                rcases HWd.out with ⟨k, _, g2, g3, g4, g5, g6, g7⟩ | ⟨g1, _⟩
                · have := TR.near_uniq hj2 hj3 g2 g3
                  exact ⟨g6, by rw [g7, this], g4, g5⟩
                · exact absurd (g1 j hj1) hj3
              have tj : decide ((0 : Int) ≤ (j : Int)) = true := decide_eq_true (by omega)
              clear hj1 hj2 hj3 HWd
              obtain ⟨rfl, rfl, rfl, rfl⟩ := HE.out
              have HR5 : Hid (∀ W, Below w5.heap.size w5 W → (W.cell? ⟨b4, 0, none⟩ = some (.int .i64 9) ∧ W.cell? ⟨b4, 1, none⟩ = some (.int .i64 (j : Int))) ∧ W.cell? ⟨b12, 0, none⟩ = some (.int .i64 0) ∧ W.cell? ⟨b12, 1, none⟩ = some (.int .i64 0)) := fun W kk => ⟨⟨(K5.out.1.below kk).c0, (K5.out.1.below kk).c1⟩, (K5.out.2.1.below kk).c0, (K5.out.2.1.below kk).c1⟩
              go_wp2_with fail
              refine wp_region_G (fun W => (W.cell? ⟨b4, 0, none⟩ = some (.int .i64 9) ∧ W.cell? ⟨b4, 1, none⟩ = some (.int .i64 (j : Int))) ∧ W.cell? ⟨b12, 0, none⟩ = some (.int .i64 0) ∧ W.cell? ⟨b12, 1, none⟩ = some (.int .i64 0)) 9 (by kernel_rfl) (HR5.out _ (Below.refl _ _).drew) (fun hHeld => ?_)
              refine wpAnyG_take (i := 0) (v := ?v0x1) rfl (by kernel_rfl) (fun _ _ _ h => h) (Or.inl ⟨by rfl, ?y0x1⟩) hHeld ?r0x1
              case y0x1 => (intro wS hSw; obtain ⟨⟨s1, s2⟩, s3, s4⟩ := hSw; go_simp; try with_reducible rfl)
              simp only [Act.put, List.getElem_toArray, List.getElem_cons_zero, List.getElem_cons_succ, List.setIfInBounds_toArray, List.set_cons_zero, List.set_cons_succ]
              refine wpAnyG_take (i := 1) (v := ?v1x2) rfl (by kernel_rfl) (fun _ _ _ h => h) (Or.inl ⟨by rfl, ?y1x2⟩) hHeld ?r1x2
              case y1x2 => (intro wS hSw; obtain ⟨⟨s1, s2⟩, s3, s4⟩ := hSw; go_simp; try with_reducible rfl)
              simp only [Act.put, List.getElem_toArray, List.getElem_cons_zero, List.getElem_cons_succ, List.setIfInBounds_toArray, List.set_cons_zero, List.set_cons_succ]
              refine wpAnyG_one (i := 2) rfl (by kernel_rfl) (fun K hK => ?_)
              go_simp
              refine (F_any 9 (j : Int) _).mono ?_
              rintro e w6 ⟨rfl, k6⟩
              have HK6 : Hid (Below w5.heap.size w5 w6) := (Below.refl _ _).drew.trans k6
              clear k6
              refine hK.out _ _ (HR5.out _ HK6.out) ?_
              clear hK K hHeld
              have hHeld := HR5.out _ HK6.out
              refine wpAnyG_take (i := 3) (v := .bool true) rfl (by kernel_rfl) (fun _ _ _ h => h) (Or.inl ⟨by kernel_rfl, ?y3x3⟩) hHeld ?r3x3
              case y3x3 => (intro wS hSw; (go_simp))
              simp only [Act.put, List.getElem_toArray, List.getElem_cons_zero, List.getElem_cons_succ, List.setIfInBounds_toArray, List.set_cons_zero, List.set_cons_succ]
              refine wpAnyG_take (i := 4) (v := .bool true) rfl (by kernel_rfl) (fun _ _ _ h => h) (Or.inl ⟨by kernel_rfl, ?y4x4⟩) hHeld ?r4x4
              case y4x4 => (intro wS hSw; (go_simp))
              simp only [Act.put, List.getElem_toArray, List.getElem_cons_zero, List.getElem_cons_succ, List.setIfInBounds_toArray, List.set_cons_zero, List.set_cons_succ]
              refine wpAnyG_take (i := 5) (v := .agg #[.int .i64 0, .int .i64 0]) rfl (by kernel_rfl) (fun _ _ _ h => h) (Or.inl ⟨by kernel_rfl, ?y5x5⟩) hHeld ?r5x5
              case y5x5 => (intro wS hSw; (obtain ⟨⟨s1, s2⟩, s3, s4⟩ := hSw; go_simp))
              simp only [Act.put, List.getElem_toArray, List.getElem_cons_zero, List.getElem_cons_succ, List.setIfInBounds_toArray, List.set_cons_zero, List.set_cons_succ]
              refine wpAnyG_take (i := 6) (v := ?v6x6) rfl (by kernel_rfl) (fun _ _ _ h => h) (Or.inl ⟨by kernel_rfl, ?y6x6⟩) hHeld ?r6x6
              case y6x6 => (intro wS hSw; have s1 := hSw; go_simp; try with_reducible rfl)
              simp only [Act.put, List.getElem_toArray, List.getElem_cons_zero, List.getElem_cons_succ, List.setIfInBounds_toArray, List.set_cons_zero, List.set_cons_succ]
              refine wpAnyG_take (i := 7) (v := .bool true) rfl (by kernel_rfl) (fun _ _ _ h => h) (Or.inl ⟨by kernel_rfl, ?y7x7⟩) hHeld ?r7x7
              case y7x7 => (intro wS hSw; (go_simp))
              simp only [Act.put, List.getElem_toArray, List.getElem_cons_zero, List.getElem_cons_succ, List.setIfInBounds_toArray, List.set_cons_zero, List.set_cons_succ]
              refine wpAnyG_take (i := 8) (v := .bool true) rfl (by kernel_rfl) (fun _ _ _ h => h) (Or.inl ⟨by kernel_rfl, ?y8x8⟩) hHeld ?r8x8
              case y8x8 => (intro wS hSw; (go_simp))
              simp only [Act.put, List.getElem_toArray, List.getElem_cons_zero, List.getElem_cons_succ, List.setIfInBounds_toArray, List.set_cons_zero, List.set_cons_succ]
              refine wpAnyG_last (i := 9) rfl (by kernel_rfl) (by kernel_rfl) (fun K hK => ?_)
              go_simp
              refine hK.out _ _ ?_
              clear hK K
              refine wpAnyG_done (by kernel_rfl) ?_ _
              clear hHeld
              go_wp2
              go_ret
              exact ⟨rfl, K5.out.2.2.trans (HK6.out.mono K5.out.2.2.size)⟩
            · obtain ⟨X9, hX9⟩ : ∃ X, X = (ST.nd (TR.steps P)).1 := ⟨_, rfl⟩
              obtain ⟨Y9, hY9⟩ : ∃ Y, Y = (ST.nd (TR.steps P)).2 := ⟨_, rfl⟩
              have hnb := TR.of_near hj
              have hpb := TR.path_back (l := TR.steps P) (by unfold TR.steps; rw [List.length_map]; exact HT.out.1) hnb
              rw [TR.steps_back HT.out.2, ← HPS.out.1] at hpb
              have HE : Hid (fc = 0 ∧ fd = 0 ∧ ux = (X9 : Int) ∧ uy = (Y9 : Int)) := by
                rcases HWd.out with ⟨k, g0, g2, g3, _⟩ | ⟨_, g2, g3, g4, g5⟩
                · exact absurd (hj k g0) g3
                · exact ⟨g4, g5, by rw [g2, hX9], by rw [g3, hY9]⟩
              rw [← hX9, ← hY9] at hpb hnb
              rw [← hX9] at hba
              rw [← hY9] at hbb
              have HBg2 : Hid (BigAt w5 pa (X9 : Int) ∧ BigAt w5 pb (Y9 : Int)) := ⟨hba, hbb⟩
              have HPb : Hid (∀ W, Calls Tryz.prog 15 #[.agg #[.int .i64 (X9 : Int), .int .i64 (Y9 : Int)]] W fun e w' => e = .returned (.tuple #[.string PS, .agg #[.int .i64 0, .int .i64 0]]) ∧ Below W.heap.size W w') := fun W => by
                have h := HPa.out (X9 : Int) (Y9 : Int) W
                rw [hpb.1, hpb.2] at h
                exact h
              have hx9 := hnb.1
              have hy9 := hnb.2
              clear hj hba hbb hpb HWd hX9 hY9 hnb
              obtain ⟨rfl, rfl, rfl, rfl⟩ := HE.out
              have q0 := K5.out.1.c0
              have q1 := K5.out.1.c1
              have q2 := K5.out.2.1.c0
              have q3 := K5.out.2.1.c1
              go_wp2_with fail
              clear q0 q1 q2 q3
              refine (B_any (X9 : Int) _ (by omega) (by omega)).mono ?_
              rintro e w6 ⟨bt, rfl, m6⟩
              have K6 : Hid (Sv b4 0 0 w6 ∧ Sv b12 X9 Y9 w6 ∧ Below w.heap.size w w6 ∧ BigAt w6 pa (X9 : Int) ∧ BigAt w6 pb (Y9 : Int) ∧ BigAt w6 bt (X9 : Int)) := ⟨K5.out.1.below m6.2.2, K5.out.2.1.below m6.2.2, K5.out.2.2.trans (m6.2.2.mono K5.out.2.2.size), HBg2.out.1.below m6.2.2 (Nat.le_refl _), HBg2.out.2.below m6.2.2 (Nat.le_refl _), m6.2.1⟩
              clear m6 K5 HBg2
              go_wp2_with fail
              refine (Cmp_any pa bt _ _ 3 3 w6 K6.out.2.2.2.1 K6.out.2.2.2.2.2 (Nat.lt_of_le_of_lt (show _ ≤ 2000000000000000001 by omega) (by decide +kernel)) (Nat.lt_of_le_of_lt (show _ ≤ 2000000000000000001 by omega) (by decide +kernel)) (by omega) (by omega)).mono ?_
              rintro e w7 ⟨rfl, q7, hq7⟩
              have tc1 : cmpZ (X9 : Int) (X9 : Int) = 0 := by unfold cmpZ; rw [if_neg (by omega), if_neg (by omega)]
              rw [tc1]
              clear tc1
              have K7 : Hid (Sv b4 0 0 w7 ∧ Sv b12 X9 Y9 w7 ∧ Below w.heap.size w w7 ∧ BigAt w7 pb (Y9 : Int)) := by
                have k : Below w6.heap.size w6 w7 := by rw [hq7]; exact below_drewN' (Below.refl _ _)
                exact ⟨K6.out.1.below k, K6.out.2.1.below k, K6.out.2.2.1.trans (k.mono K6.out.2.2.1.size), K6.out.2.2.2.2.1.below k (Nat.le_refl _)⟩
              clear hq7 K6
              have q2 := K7.out.2.1.c0
              have q3 := K7.out.2.1.c1
              go_wp2_with fail
              clear q2 q3
              refine (B_any (Y9 : Int) _ (by omega) (by omega)).mono ?_
              rintro e w6 ⟨bu, rfl, m6⟩
              have K6 : Hid (Sv b4 0 0 w6 ∧ Sv b12 X9 Y9 w6 ∧ Below w.heap.size w w6 ∧ BigAt w6 pb (Y9 : Int) ∧ BigAt w6 bu (Y9 : Int)) := ⟨K7.out.1.below m6.2.2, K7.out.2.1.below m6.2.2, K7.out.2.2.1.trans (m6.2.2.mono K7.out.2.2.1.size), K7.out.2.2.2.below m6.2.2 (Nat.le_refl _), m6.2.1⟩
              clear m6 K7
              go_wp2_with fail
              refine (Cmp_any pb bu _ _ 3 3 w6 K6.out.2.2.2.1 K6.out.2.2.2.2 (Nat.lt_of_le_of_lt (show _ ≤ 2000000000000000001 by omega) (by decide +kernel)) (Nat.lt_of_le_of_lt (show _ ≤ 2000000000000000001 by omega) (by decide +kernel)) (by omega) (by omega)).mono ?_
              rintro e w7 ⟨rfl, q7, hq7⟩
              have tc1 : cmpZ (Y9 : Int) (Y9 : Int) = 0 := by unfold cmpZ; rw [if_neg (by omega), if_neg (by omega)]
              rw [tc1]
              clear tc1
              have K7 : Hid (Sv b4 0 0 w7 ∧ Sv b12 X9 Y9 w7 ∧ Below w.heap.size w w7) := by
                have k : Below w6.heap.size w6 w7 := by rw [hq7]; exact below_drewN' (Below.refl _ _)
                exact ⟨K6.out.1.below k, K6.out.2.1.below k, K6.out.2.2.1.trans (k.mono K6.out.2.2.1.size)⟩
              clear hq7 K6
              have q2 := K7.out.2.1.c0
              have q3 := K7.out.2.1.c1
              go_wp2_with fail
              clear q2 q3
              refine (HPb.out _).mono ?_
              rintro e w9 ⟨rfl, k9⟩
              have K11 : Hid (Sv b4 0 0 w9 ∧ Below w.heap.size w w9) := ⟨K7.out.1.below k9, K7.out.2.2.trans (k9.mono K7.out.2.2.size)⟩
              clear k9 K7 HPb
              have q0 := K11.out.1.c0
              have q1 := K11.out.1.c1
              have q2 := K11.out.1.f0
              have q3 := K11.out.1.f1
              have q4 := K11.out.1.lt
              go_wp2
              go_ret
              exact ⟨rfl, (K11.out.2.setCell HB4.out _).setCell HB4.out _⟩
      · have tn : decide (20000 < (pn : Int)) = false := decide_eq_false (by have := HPS.out.2; omega)
        have tn2 : decide (20000 < pn) = false := decide_eq_false (by have := HPS.out.2; omega)
        have HE : Hid (fc = 1 ∧ fd = (i0 : Int) ∧ ux = 0 ∧ uy = 0) := by
          rcases HND.out with ⟨_, h2, h3, h4⟩ | ⟨_, h1, _⟩
          · rw [TR.tf_bad hT hi0 hT2 hT3] at h2
            obtain ⟨h5, h6⟩ := Prod.mk.inj h2
            exact ⟨h5, h6, h3, h4⟩
          · have := h1 _ (List.getElem_mem hi0)
            rw [hT3] at this
            exact absurd this (by decide)
        have hi0n : i0 < pn := by rw [HPS.out.2]; exact hi0
        have hi0k : i0 ≤ 20000 := by omega
        have HT : Hid ((∀ j (hj : j < i0), TR.okb (P[j]'(by omega)) = true) ∧ TR.okb (P[i0]'hi0) = false) := ⟨hT2, hT3⟩
        clear hT hT2 hT3 HND
        obtain ⟨rfl, rfl, rfl, rfl⟩ := HE.out
        go_wp2
        rw [← hW9]
        simp only [← hb12]
        clear hW9 hb12 r0 r1 r2 r3 r4 r5 r6 r7 r8 r9 HE
        go_loopg [13] (i0 + 2) (fun gk iv wx => ∃ (i : Nat) (c5 d5 : Int), iv = .int .i64 (i : Int) ∧ Hid (gk = i0 + 2 - i ∧ ((i ≤ i0 ∧ c5 = 0 ∧ d5 = 0) ∨ (i = i0 + 1 ∧ c5 = 1 ∧ d5 = (i0 : Int))) ∧ Sv b4 1 (i0 : Int) wx ∧ Sv b5 c5 d5 wx ∧ Sv b12 0 0 wx ∧ Below w.heap.size w wx))
        case atStart => exact ⟨0, 0, 0, rfl, by omega, .inl ⟨by omega, rfl, rfl⟩, K9.out⟩
        case round =>
          clear K9
          obtain ⟨i, c5, d5, rfl, HR⟩ := hrel
          obtain ⟨h1, h2, h3⟩ := HR.out
          have HG : Hid (gk = i0 + 2 - i) := h1
          have HK : Hid (Sv b4 1 (i0 : Int) wr ∧ Sv b5 c5 d5 wr ∧ Sv b12 0 0 wr ∧ Below w.heap.size w wr) := h3
          clear HR h1 h3
          rcases h2 with ⟨hi, rfl, rfl⟩ | ⟨rfl, rfl, rfl⟩
          · have ti : decide ((i : Int) < (pn : Int)) = true := decide_eq_true (by omega)
            have xi : (i : Int) < (pn : Int) := by omega
            have xi2 : i < PS.size := by omega
            have hil : i < P.length := by rw [← HPS.out.2]; omega
            have tz := HPX.out i xi2 hil
            have q2 := HK.out.2.1.c0
            have q3 := HK.out.2.1.c1
            by_cases hlt : i < i0
            · have hok := HT.out.1 i hlt
              have hcase : ((P[i]'hil).toNat : Int) = 76 ∨ ((P[i]'hil).toNat : Int) = 82 := by
                unfold TR.okb at hok
                rw [Bool.or_eq_true, beq_iff_eq, beq_iff_eq] at hok
                rcases hok with h | h
                · left; rw [h]; rfl
                · right; rw [h]; rfl
              rw [← tz] at hcase
              clear tz hok
              rcases hcase with tz | tz
              · have tz2 : ∀ h : i < PS.size, (((PS[i]'h).toNat : Nat) : Int) = 76 := fun _ => tz
                have tz3 : ∀ h : i < PS.size, (PS[i]'h).toNat = 76 := fun h => by have := tz2 h; omega
                clear tz
                go_wp2
                go_roundg (i0 + 2 - (i + 1))
                case rel => exact ⟨i + 1, 0, 0, by go_num, rfl, .inl ⟨by omega, rfl, rfl⟩, HK.out⟩
                case measure => have := HG.out; omega
              · have tz2 : ∀ h : i < PS.size, (((PS[i]'h).toNat : Nat) : Int) = 82 := fun _ => tz
                have u1 : ∀ h : i < PS.size, ((((PS[i]'h).toNat : Nat) : Int) != 76) = true := fun h => by rw [tz2 h]; rfl
                have u2 : ∀ h : i < PS.size, ((((PS[i]'h).toNat : Nat) : Int) != 82) = false := fun h => by rw [tz2 h]; rfl
                clear tz2 tz
                go_wp2
                go_roundg (i0 + 2 - (i + 1))
                case rel => exact ⟨i + 1, 0, 0, by go_num, rfl, .inl ⟨by omega, rfl, rfl⟩, HK.out⟩
                case measure => have := HG.out; omega
            · obtain rfl : i = i0 := by omega
              have hno := HT.out.2
              have hcase : ((P[i]'hil).toNat : Int) ≠ 76 ∧ ((P[i]'hil).toNat : Int) ≠ 82 := by
                unfold TR.okb at hno
                rw [Bool.or_eq_false_iff, beq_eq_false_iff_ne, beq_eq_false_iff_ne] at hno
                refine ⟨fun h => hno.1 ?_, fun h => hno.2 ?_⟩
                · apply UInt8.toNat_inj.1; exact_mod_cast h
                · apply UInt8.toNat_inj.1; exact_mod_cast h
              rw [← tz] at hcase
              have u1 : ∀ h : i < PS.size, ((((PS[i]'h).toNat : Nat) : Int) != 76) = true := fun h => by simpa using hcase.1
              have u2 : ∀ h : i < PS.size, ((((PS[i]'h).toNat : Nat) : Int) != 82) = true := fun h => by simpa using hcase.2
              have u3 : ∀ h : i < PS.size, ¬ (PS[i]'h).toNat = 76 := fun h e => hcase.1 (by exact_mod_cast e)
              have u4 : ∀ h : i < PS.size, ¬ (PS[i]'h).toNat = 82 := fun h e => hcase.2 (by exact_mod_cast e)
              clear tz hno hcase hlt
              go_wp2_with fail
              refine (F_any 1 (i : Int) _).mono ?_
              rintro e wa ⟨rfl, ka⟩
              have KA : Hid (Sv b4 1 (i : Int) wa ∧ Sv b5 0 0 wa ∧ Sv b12 0 0 wa ∧ Below w.heap.size w wa) := ⟨HK.out.1.below ka, HK.out.2.1.below ka, HK.out.2.2.1.below ka, HK.out.2.2.2.trans (ka.mono HK.out.2.2.2.size)⟩
              clear ka HK q2 q3
              have K10 : Hid (Sv b4 1 (i : Int) ((wa.setCell ⟨b5, 0, none⟩ (.int .i64 1)).setCell ⟨b5, 1, none⟩ (.int .i64 (i : Int))) ∧ Sv b5 1 (i : Int) ((wa.setCell ⟨b5, 0, none⟩ (.int .i64 1)).setCell ⟨b5, 1, none⟩ (.int .i64 (i : Int))) ∧ Sv b12 0 0 ((wa.setCell ⟨b5, 0, none⟩ (.int .i64 1)).setCell ⟨b5, 1, none⟩ (.int .i64 (i : Int))) ∧ Below w.heap.size w ((wa.setCell ⟨b5, 0, none⟩ (.int .i64 1)).setCell ⟨b5, 1, none⟩ (.int .i64 (i : Int)))) :=
                ⟨KA.out.1.other _ _ n54, KA.out.2.1.set _ _, KA.out.2.2.1.other _ _ n13, (KA.out.2.2.2.setCell HN.out.2.2 _).setCell HN.out.2.2 _⟩
              have q0 := KA.out.2.1.c0
              have q1 := KA.out.2.1.c1
              have q2 := KA.out.2.1.f0
              have q3 := KA.out.2.1.f1
              have q4 := KA.out.2.1.lt
              clear KA
              go_wp2
              go_roundg (i + 2 - (i + 1))
              case rel => exact ⟨i + 1, 1, (i : Int), by go_num, rfl, .inr ⟨rfl, rfl, rfl⟩, K10.out⟩
              case measure => have := HG.out; omega
          · obtain ⟨i1, hi1⟩ : ∃ i1, i1 = i0 + 1 := ⟨_, rfl⟩
            rw [← hi1]
            have q0 := HK.out.1.c0
            have q1 := HK.out.1.c1
            have q2 := HK.out.2.1.c0
            have q3 := HK.out.2.1.c1
            have q4 := HK.out.2.2.1.c0
            have q5 := HK.out.2.2.1.c1
            by_cases hi : i1 < pn
            · have ti : decide ((i1 : Int) < (pn : Int)) = true := decide_eq_true (by omega)
              clear hi1
              go_wp2
              go_ret
              exact ⟨rfl, HK.out.2.2.2⟩
            · have ti : decide ((i1 : Int) < (pn : Int)) = false := decide_eq_false (by omega)
              clear hi1
              go_wp2
              go_ret
              exact ⟨rfl, HK.out.2.2.2⟩
    · skip
      go_wp2_with fail
      rw [← hW4]
      simp only [← hb5]
      clear hW4 hb5 p0 p1 p2
      refine (HBg.out _ HK.out.2.2.2).mono ?_
      rintro e w7 ⟨rfl, k7⟩
      have HK7 : Hid (Sv b1 x y w7 ∧ Sv b4 6 0 w7 ∧ Sv b5 6 0 w7 ∧ Below w.heap.size w w7) := ⟨HK.out.1.below k7, HK.out.2.1.below k7, HK.out.2.2.1.below k7, HK.out.2.2.2.trans (k7.mono HK.out.2.2.2.size)⟩
      have q0 := HK7.out.1.c0
      have q1 := HK7.out.1.c1
      have q2 := HK7.out.2.1.c0
      have q3 := HK7.out.2.1.c1
      have q4 := HK7.out.2.2.1.c0
      have q5 := HK7.out.2.2.1.c1
      clear k7 HK
      go_wp2_with fail
      clear q0 q1 q2 q3 q4 q5
      refine (HNd.out w7).mono ?_
      rintro e w8 ⟨ux, uy, fc, fd, rfl, hnd, k8⟩
      have HND : Hid (NdIs P ux uy fc fd) := hnd
      have K8 : Hid (Sv b4 6 0 w8 ∧ Sv b5 6 0 w8 ∧ Below w.heap.size w w8) := ⟨HK7.out.2.1.below k8, HK7.out.2.2.1.below k8, HK7.out.2.2.2.trans (k8.mono HK7.out.2.2.2.size)⟩
      have n45 : b4 ≠ b5 := HN.out.2.1
      have n54 : b5 ≠ b4 := fun e => HN.out.2.1 e.symm
      clear k8 HK7 hnd
      obtain ⟨b12, hb12⟩ : ∃ b, b = w8.heap.size := ⟨_, rfl⟩
      obtain ⟨W9, hW9⟩ : ∃ W, W = ((((w8.setCell ⟨b4, 0, none⟩ (.int .i64 fc)).setCell ⟨b4, 1, none⟩ (.int .i64 fd)).setCell ⟨b5, 0, none⟩ (.int .i64 0)).setCell ⟨b5, 1, none⟩ (.int .i64 0)).alloc (.cells #[.int .i64 ux, .int .i64 uy] 23) := ⟨_, rfl⟩
      have K9 : Hid (Sv b4 fc fd W9 ∧ Sv b5 0 0 W9 ∧ Sv b12 ux uy W9 ∧ Below w.heap.size w W9) := by
        have h1 := ((((K8.out.2.2.setCell (p := ⟨b4, 0, none⟩) HB4.out (.int .i64 fc)).setCell (p := ⟨b4, 1, none⟩) HB4.out (.int .i64 fd)).setCell (p := ⟨b5, 0, none⟩) HN.out.2.2 (.int .i64 0)).setCell (p := ⟨b5, 1, none⟩) HN.out.2.2 (.int .i64 0))
        have h2 := Sv.newT ux uy ((((w8.setCell ⟨b4, 0, none⟩ (.int .i64 fc)).setCell ⟨b4, 1, none⟩ (.int .i64 fd)).setCell ⟨b5, 0, none⟩ (.int .i64 0)).setCell ⟨b5, 1, none⟩ (.int .i64 0)) 23
        simp only [World.size_setCell] at h2
        show _ ∧ _
        rw [hW9, hb12]
        exact ⟨((K8.out.1.set fc fd).other _ _ n54).alloc _ _, ((K8.out.2.1.other _ _ n45).set 0 0).alloc _ _, h2, h1.alloc h1.size _⟩
      have r0 := K8.out.1.c0
      have r1 := K8.out.1.c1
      have r2 := K8.out.1.f0
      have r3 := K8.out.1.f1
      have r4 := K8.out.2.1.c0
      have r5 := K8.out.2.1.c1
      have r6 := K8.out.2.1.f0
      have r7 := K8.out.2.1.f1
      have r8 := K8.out.1.lt
      have r9 := K8.out.2.1.lt
      have n12 : b12 ≠ b5 := by omega
      have n13 : b5 ≠ b12 := by omega
      clear K8
      rcases TR.three P with hT | ⟨hT, hT2⟩ | ⟨hT, i0, hi0, hT2, hT3⟩
      · have tn : decide (20000 < (pn : Int)) = true := decide_eq_true (by have := HPS.out.2; omega)
        have tn2 : decide (20000 < pn) = true := decide_eq_true (by have := HPS.out.2; omega)
        have HE : Hid (fc = 2 ∧ fd = 0 ∧ ux = 0 ∧ uy = 0) := by
          rcases HND.out with ⟨_, h2, h3, h4⟩ | ⟨h1, _⟩
          · rw [TR.tf_long hT] at h2
            obtain ⟨h5, h6⟩ := Prod.mk.inj h2
            exact ⟨h5, h6, h3, h4⟩
          · omega
        have hp0 : decide (0 < (pn : Int)) = true := decide_eq_true (by have := HPS.out.2; omega)
        have hp1 : 0 < pn := by have := HPS.out.2; omega
        clear hT HND
        obtain ⟨rfl, rfl, rfl, rfl⟩ := HE.out
        go_wp2_with fail
        rw [← hW9]
        simp only [← hb12]
        clear hW9 hb12 r0 r1 r2 r3 r4 r5 r6 r7 r8 r9 HE
        refine (F_any 2 0 _).mono ?_
        rintro e wa ⟨rfl, ka⟩
        have KA : Hid (Sv b4 2 0 wa ∧ Sv b5 0 0 wa ∧ Sv b12 0 0 wa ∧ Below w.heap.size w wa) := ⟨K9.out.1.below ka, K9.out.2.1.below ka, K9.out.2.2.1.below ka, K9.out.2.2.2.trans (ka.mono K9.out.2.2.2.size)⟩
        clear ka K9
        have K10 : Hid (Sv b4 2 0 ((wa.setCell ⟨b5, 0, none⟩ (.int .i64 2)).setCell ⟨b5, 1, none⟩ (.int .i64 0)) ∧ Sv b5 2 0 ((wa.setCell ⟨b5, 0, none⟩ (.int .i64 2)).setCell ⟨b5, 1, none⟩ (.int .i64 0)) ∧ Sv b12 0 0 ((wa.setCell ⟨b5, 0, none⟩ (.int .i64 2)).setCell ⟨b5, 1, none⟩ (.int .i64 0)) ∧ Below w.heap.size w ((wa.setCell ⟨b5, 0, none⟩ (.int .i64 2)).setCell ⟨b5, 1, none⟩ (.int .i64 0))) :=
          ⟨KA.out.1.other _ _ n54, KA.out.2.1.set _ _, KA.out.2.2.1.other _ _ n13, (KA.out.2.2.2.setCell HN.out.2.2 _).setCell HN.out.2.2 _⟩
        have q0 := KA.out.2.1.c0
        have q1 := KA.out.2.1.c1
        have q2 := KA.out.2.1.f0
        have q3 := KA.out.2.1.f1
        have q4 := KA.out.2.1.lt
        clear KA
        go_wp2
        clear q0 q1 q2 q3 q4
        go_loopg [13] 0 (fun gk iv wx => iv = .int .i64 0 ∧ Hid (gk = 0 ∧ Sv b4 2 0 wx ∧ Sv b5 2 0 wx ∧ Sv b12 0 0 wx ∧ Below w.heap.size w wx))
        case atStart => exact ⟨rfl, rfl, K10.out⟩
        case round =>
          clear K10
          obtain ⟨rfl, HR⟩ := hrel
          have q0 := HR.out.2.1.c0
          have q1 := HR.out.2.1.c1
          have q2 := HR.out.2.2.1.c0
          have q3 := HR.out.2.2.1.c1
          have q4 := HR.out.2.2.2.1.c0
          have q5 := HR.out.2.2.2.1.c1
          have HK : Hid (Below w.heap.size w wr) := HR.out.2.2.2.2
          clear HR
          go_wp2
          go_ret
          exact ⟨rfl, HK.out⟩
      · have tn : decide (20000 < (pn : Int)) = false := decide_eq_false (by have := HPS.out.2; omega)
        have tn2 : decide (20000 < pn) = false := decide_eq_false (by have := HPS.out.2; omega)
        have HWd : Hid (WdOut (TR.steps P) ux uy fc fd) := by
          rcases HND.out with ⟨h1, _⟩ | ⟨_, _, h2⟩
          · rw [TR.tf_ok hT hT2] at h1; exact absurd rfl h1
          · exact h2
        have HWk : Hid (∀ W, Calls Tryz.prog 19 #[.string PS] W fun e w' => WkOut W w' (TR.steps P) e) := fun W => by
          have h := Walked_any (TR.steps P) W (by unfold TR.steps; rw [List.length_map]; omega)
          rw [TR.steps_back hT2, ← HPS.out.1] at h
          exact h
        have HT : Hid (P.length ≤ 20000 ∧ ∀ c ∈ P, TR.okb c = true) := ⟨hT, hT2⟩
        clear hT hT2 HND
        go_wp2
        rw [← hW9]
        simp only [← hb12]
        clear hW9 hb12 r0 r1 r2 r3 r4 r5 r6 r7 r8 r9
        go_loopg [13] pn (fun gk iv wx => ∃ i : Nat, iv = .int .i64 (i : Int) ∧ Hid (gk = pn - i ∧ i ≤ pn ∧ Sv b4 fc fd wx ∧ Sv b5 0 0 wx ∧ Sv b12 ux uy wx ∧ Below w.heap.size w wx))
        case atStart => exact ⟨0, rfl, by omega, by omega, K9.out⟩
        case round =>
          clear K9
          obtain ⟨i, rfl, HR⟩ := hrel
          obtain ⟨h1, h2, h3⟩ := HR.out
          have HG : Hid (gk = pn - i) := h1
          have HK : Hid (Sv b4 fc fd wr ∧ Sv b5 0 0 wr ∧ Sv b12 ux uy wr ∧ Below w.heap.size w wr) := h3
          have q2 := h3.2.1.c0
          have q3 := h3.2.1.c1
          clear HR h1 h3
          by_cases hi : i < pn
          · have ti : decide ((i : Int) < (pn : Int)) = true := decide_eq_true (by omega)
            have xi : (i : Int) < (pn : Int) := by omega
            have xi2 : i < PS.size := by omega
            have hil : i < P.length := by rw [← HPS.out.2]; exact hi
            have tz := HPX.out i xi2 hil
            have hok := HT.out.2 _ (List.getElem_mem hil)
            have hcase : ((P[i]'hil).toNat : Int) = 76 ∨ ((P[i]'hil).toNat : Int) = 82 := by
              unfold TR.okb at hok
              rw [Bool.or_eq_true, beq_iff_eq, beq_iff_eq] at hok
              rcases hok with h | h
              · left; rw [h]; rfl
              · right; rw [h]; rfl
            rw [← tz] at hcase
            clear tz hok
            rcases hcase with tz | tz
            · have tz2 : ∀ h : i < PS.size, (((PS[i]'h).toNat : Nat) : Int) = 76 := fun _ => tz
              have tz3 : ∀ h : i < PS.size, (PS[i]'h).toNat = 76 := fun h => by have := tz2 h; omega
              clear tz
              go_wp2
              go_roundg (pn - (i + 1))
              case rel => exact ⟨i + 1, by go_num, rfl, by omega, HK.out⟩
              case measure => have := HG.out; omega
            · have tz2 : ∀ h : i < PS.size, (((PS[i]'h).toNat : Nat) : Int) = 82 := fun _ => tz
              have u1 : ∀ h : i < PS.size, ((((PS[i]'h).toNat : Nat) : Int) != 76) = true := fun h => by rw [tz2 h]; rfl
              have u2 : ∀ h : i < PS.size, ((((PS[i]'h).toNat : Nat) : Int) != 82) = false := fun h => by rw [tz2 h]; rfl
              clear tz2 tz
              go_wp2
              go_roundg (pn - (i + 1))
              case rel => exact ⟨i + 1, by go_num, rfl, by omega, HK.out⟩
              case measure => have := HG.out; omega
          · have ti : decide ((i : Int) < (pn : Int)) = false := decide_eq_false (by omega)
            clear h2
            go_wp2_with fail
            refine (HWk.out wr).mono ?_
            rintro e w5 ⟨hwk, k5⟩
            have K5 : Hid (Sv b4 fc fd w5 ∧ Sv b12 ux uy w5 ∧ Below w.heap.size w w5) := ⟨HK.out.1.below k5, HK.out.2.2.1.below k5, HK.out.2.2.2.trans (k5.mono HK.out.2.2.2.size)⟩
            clear HK q2 q3 k5
            rcases hwk with ⟨j, hj1, hj2, hj3, rfl⟩ | ⟨hj, pa, pb, rfl, hba, hbb⟩
            · have HE : Hid (fc = 9 ∧ fd = (j : Int) ∧ ux = 0 ∧ uy = 0) := by
                rcases HWd.out with ⟨k, _, g2, g3, g4, g5, g6, g7⟩ | ⟨g1, _⟩
                · have := TR.near_uniq hj2 hj3 g2 g3
                  exact ⟨g6, by rw [g7, this], g4, g5⟩
                · exact absurd (g1 j hj1) hj3
              have tj : decide ((0 : Int) ≤ (j : Int)) = true := decide_eq_true (by omega)
              clear hj1 hj2 hj3 HWd
              obtain ⟨rfl, rfl, rfl, rfl⟩ := HE.out
              have HR5 : Hid (∀ W, Below w5.heap.size w5 W → (W.cell? ⟨b4, 0, none⟩ = some (.int .i64 9) ∧ W.cell? ⟨b4, 1, none⟩ = some (.int .i64 (j : Int))) ∧ W.cell? ⟨b12, 0, none⟩ = some (.int .i64 0) ∧ W.cell? ⟨b12, 1, none⟩ = some (.int .i64 0)) := fun W kk => ⟨⟨(K5.out.1.below kk).c0, (K5.out.1.below kk).c1⟩, (K5.out.2.1.below kk).c0, (K5.out.2.1.below kk).c1⟩
              go_wp2_with fail
              refine wp_region_G (fun W => (W.cell? ⟨b4, 0, none⟩ = some (.int .i64 9) ∧ W.cell? ⟨b4, 1, none⟩ = some (.int .i64 (j : Int))) ∧ W.cell? ⟨b12, 0, none⟩ = some (.int .i64 0) ∧ W.cell? ⟨b12, 1, none⟩ = some (.int .i64 0)) 9 (by kernel_rfl) (HR5.out _ (Below.refl _ _).drew) (fun hHeld => ?_)
              refine wpAnyG_take (i := 0) (v := ?v0x9) rfl (by kernel_rfl) (fun _ _ _ h => h) (Or.inl ⟨by rfl, ?y0x9⟩) hHeld ?r0x9
              case y0x9 => (intro wS hSw; obtain ⟨⟨s1, s2⟩, s3, s4⟩ := hSw; go_simp; try with_reducible rfl)
              simp only [Act.put, List.getElem_toArray, List.getElem_cons_zero, List.getElem_cons_succ, List.setIfInBounds_toArray, List.set_cons_zero, List.set_cons_succ]
              refine wpAnyG_take (i := 1) (v := ?v1x10) rfl (by kernel_rfl) (fun _ _ _ h => h) (Or.inl ⟨by rfl, ?y1x10⟩) hHeld ?r1x10
              case y1x10 => (intro wS hSw; obtain ⟨⟨s1, s2⟩, s3, s4⟩ := hSw; go_simp; try with_reducible rfl)
              simp only [Act.put, List.getElem_toArray, List.getElem_cons_zero, List.getElem_cons_succ, List.setIfInBounds_toArray, List.set_cons_zero, List.set_cons_succ]
              refine wpAnyG_one (i := 2) rfl (by kernel_rfl) (fun K hK => ?_)
              go_simp
              refine (F_any 9 (j : Int) _).mono ?_
              rintro e w6 ⟨rfl, k6⟩
              have HK6 : Hid (Below w5.heap.size w5 w6) := (Below.refl _ _).drew.trans k6
              clear k6
              refine hK.out _ _ (HR5.out _ HK6.out) ?_
              clear hK K hHeld
              have hHeld := HR5.out _ HK6.out
              refine wpAnyG_take (i := 3) (v := .bool true) rfl (by kernel_rfl) (fun _ _ _ h => h) (Or.inl ⟨by kernel_rfl, ?y3x11⟩) hHeld ?r3x11
              case y3x11 => (intro wS hSw; (go_simp))
              simp only [Act.put, List.getElem_toArray, List.getElem_cons_zero, List.getElem_cons_succ, List.setIfInBounds_toArray, List.set_cons_zero, List.set_cons_succ]
              refine wpAnyG_take (i := 4) (v := .bool true) rfl (by kernel_rfl) (fun _ _ _ h => h) (Or.inl ⟨by kernel_rfl, ?y4x12⟩) hHeld ?r4x12
              case y4x12 => (intro wS hSw; (go_simp))
              simp only [Act.put, List.getElem_toArray, List.getElem_cons_zero, List.getElem_cons_succ, List.setIfInBounds_toArray, List.set_cons_zero, List.set_cons_succ]
              refine wpAnyG_take (i := 5) (v := .agg #[.int .i64 0, .int .i64 0]) rfl (by kernel_rfl) (fun _ _ _ h => h) (Or.inl ⟨by kernel_rfl, ?y5x13⟩) hHeld ?r5x13
              case y5x13 => (intro wS hSw; (obtain ⟨⟨s1, s2⟩, s3, s4⟩ := hSw; go_simp))
              simp only [Act.put, List.getElem_toArray, List.getElem_cons_zero, List.getElem_cons_succ, List.setIfInBounds_toArray, List.set_cons_zero, List.set_cons_succ]
              refine wpAnyG_take (i := 6) (v := ?v6x14) rfl (by kernel_rfl) (fun _ _ _ h => h) (Or.inl ⟨by kernel_rfl, ?y6x14⟩) hHeld ?r6x14
              case y6x14 => (intro wS hSw; have s1 := hSw; go_simp; try with_reducible rfl)
              simp only [Act.put, List.getElem_toArray, List.getElem_cons_zero, List.getElem_cons_succ, List.setIfInBounds_toArray, List.set_cons_zero, List.set_cons_succ]
              refine wpAnyG_take (i := 7) (v := .bool true) rfl (by kernel_rfl) (fun _ _ _ h => h) (Or.inl ⟨by kernel_rfl, ?y7x15⟩) hHeld ?r7x15
              case y7x15 => (intro wS hSw; (go_simp))
              simp only [Act.put, List.getElem_toArray, List.getElem_cons_zero, List.getElem_cons_succ, List.setIfInBounds_toArray, List.set_cons_zero, List.set_cons_succ]
              refine wpAnyG_take (i := 8) (v := .bool true) rfl (by kernel_rfl) (fun _ _ _ h => h) (Or.inl ⟨by kernel_rfl, ?y8x16⟩) hHeld ?r8x16
              case y8x16 => (intro wS hSw; (go_simp))
              simp only [Act.put, List.getElem_toArray, List.getElem_cons_zero, List.getElem_cons_succ, List.setIfInBounds_toArray, List.set_cons_zero, List.set_cons_succ]
              refine wpAnyG_last (i := 9) rfl (by kernel_rfl) (by kernel_rfl) (fun K hK => ?_)
              go_simp
              refine hK.out _ _ ?_
              clear hK K
              refine wpAnyG_done (by kernel_rfl) ?_ _
              clear hHeld
              go_wp2
              go_ret
              exact ⟨rfl, K5.out.2.2.trans (HK6.out.mono K5.out.2.2.size)⟩
            · obtain ⟨X9, hX9⟩ : ∃ X, X = (ST.nd (TR.steps P)).1 := ⟨_, rfl⟩
              obtain ⟨Y9, hY9⟩ : ∃ Y, Y = (ST.nd (TR.steps P)).2 := ⟨_, rfl⟩
              have hnb := TR.of_near hj
              have hpb := TR.path_back (l := TR.steps P) (by unfold TR.steps; rw [List.length_map]; exact HT.out.1) hnb
              rw [TR.steps_back HT.out.2, ← HPS.out.1] at hpb
              have HE : Hid (fc = 0 ∧ fd = 0 ∧ ux = (X9 : Int) ∧ uy = (Y9 : Int)) := by
                rcases HWd.out with ⟨k, g0, g2, g3, _⟩ | ⟨_, g2, g3, g4, g5⟩
                · exact absurd (hj k g0) g3
                · exact ⟨g4, g5, by rw [g2, hX9], by rw [g3, hY9]⟩
              rw [← hX9, ← hY9] at hpb hnb
              rw [← hX9] at hba
              rw [← hY9] at hbb
              have HBg2 : Hid (BigAt w5 pa (X9 : Int) ∧ BigAt w5 pb (Y9 : Int)) := ⟨hba, hbb⟩
              have HPb : Hid (∀ W, Calls Tryz.prog 15 #[.agg #[.int .i64 (X9 : Int), .int .i64 (Y9 : Int)]] W fun e w' => e = .returned (.tuple #[.string PS, .agg #[.int .i64 0, .int .i64 0]]) ∧ Below W.heap.size W w') := fun W => by
                have h := HPa.out (X9 : Int) (Y9 : Int) W
                rw [hpb.1, hpb.2] at h
                exact h
              have hx9 := hnb.1
              have hy9 := hnb.2
              clear hj hba hbb hpb HWd hX9 hY9 hnb
              obtain ⟨rfl, rfl, rfl, rfl⟩ := HE.out
              have q0 := K5.out.1.c0
              have q1 := K5.out.1.c1
              have q2 := K5.out.2.1.c0
              have q3 := K5.out.2.1.c1
              go_wp2_with fail
              clear q0 q1 q2 q3
              refine (B_any (X9 : Int) _ (by omega) (by omega)).mono ?_
              rintro e w6 ⟨bt, rfl, m6⟩
              have K6 : Hid (Sv b4 0 0 w6 ∧ Sv b12 X9 Y9 w6 ∧ Below w.heap.size w w6 ∧ BigAt w6 pa (X9 : Int) ∧ BigAt w6 pb (Y9 : Int) ∧ BigAt w6 bt (X9 : Int)) := ⟨K5.out.1.below m6.2.2, K5.out.2.1.below m6.2.2, K5.out.2.2.trans (m6.2.2.mono K5.out.2.2.size), HBg2.out.1.below m6.2.2 (Nat.le_refl _), HBg2.out.2.below m6.2.2 (Nat.le_refl _), m6.2.1⟩
              clear m6 K5 HBg2
              go_wp2_with fail
              refine (Cmp_any pa bt _ _ 3 3 w6 K6.out.2.2.2.1 K6.out.2.2.2.2.2 (Nat.lt_of_le_of_lt (show _ ≤ 2000000000000000001 by omega) (by decide +kernel)) (Nat.lt_of_le_of_lt (show _ ≤ 2000000000000000001 by omega) (by decide +kernel)) (by omega) (by omega)).mono ?_
              rintro e w7 ⟨rfl, q7, hq7⟩
              have tc1 : cmpZ (X9 : Int) (X9 : Int) = 0 := by unfold cmpZ; rw [if_neg (by omega), if_neg (by omega)]
              rw [tc1]
              clear tc1
              have K7 : Hid (Sv b4 0 0 w7 ∧ Sv b12 X9 Y9 w7 ∧ Below w.heap.size w w7 ∧ BigAt w7 pb (Y9 : Int)) := by
                have k : Below w6.heap.size w6 w7 := by rw [hq7]; exact below_drewN' (Below.refl _ _)
                exact ⟨K6.out.1.below k, K6.out.2.1.below k, K6.out.2.2.1.trans (k.mono K6.out.2.2.1.size), K6.out.2.2.2.2.1.below k (Nat.le_refl _)⟩
              clear hq7 K6
              have q2 := K7.out.2.1.c0
              have q3 := K7.out.2.1.c1
              go_wp2_with fail
              clear q2 q3
              refine (B_any (Y9 : Int) _ (by omega) (by omega)).mono ?_
              rintro e w6 ⟨bu, rfl, m6⟩
              have K6 : Hid (Sv b4 0 0 w6 ∧ Sv b12 X9 Y9 w6 ∧ Below w.heap.size w w6 ∧ BigAt w6 pb (Y9 : Int) ∧ BigAt w6 bu (Y9 : Int)) := ⟨K7.out.1.below m6.2.2, K7.out.2.1.below m6.2.2, K7.out.2.2.1.trans (m6.2.2.mono K7.out.2.2.1.size), K7.out.2.2.2.below m6.2.2 (Nat.le_refl _), m6.2.1⟩
              clear m6 K7
              go_wp2_with fail
              refine (Cmp_any pb bu _ _ 3 3 w6 K6.out.2.2.2.1 K6.out.2.2.2.2 (Nat.lt_of_le_of_lt (show _ ≤ 2000000000000000001 by omega) (by decide +kernel)) (Nat.lt_of_le_of_lt (show _ ≤ 2000000000000000001 by omega) (by decide +kernel)) (by omega) (by omega)).mono ?_
              rintro e w7 ⟨rfl, q7, hq7⟩
              have tc1 : cmpZ (Y9 : Int) (Y9 : Int) = 0 := by unfold cmpZ; rw [if_neg (by omega), if_neg (by omega)]
              rw [tc1]
              clear tc1
              have K7 : Hid (Sv b4 0 0 w7 ∧ Sv b12 X9 Y9 w7 ∧ Below w.heap.size w w7) := by
                have k : Below w6.heap.size w6 w7 := by rw [hq7]; exact below_drewN' (Below.refl _ _)
                exact ⟨K6.out.1.below k, K6.out.2.1.below k, K6.out.2.2.1.trans (k.mono K6.out.2.2.1.size)⟩
              clear hq7 K6
              have q2 := K7.out.2.1.c0
              have q3 := K7.out.2.1.c1
              go_wp2_with fail
              clear q2 q3
              refine (HPb.out _).mono ?_
              rintro e w9 ⟨rfl, k9⟩
              have K11 : Hid (Sv b4 0 0 w9 ∧ Below w.heap.size w w9) := ⟨K7.out.1.below k9, K7.out.2.2.trans (k9.mono K7.out.2.2.size)⟩
              clear k9 K7 HPb
              have q0 := K11.out.1.c0
              have q1 := K11.out.1.c1
              have q2 := K11.out.1.f0
              have q3 := K11.out.1.f1
              have q4 := K11.out.1.lt
              go_wp2
              go_ret
              exact ⟨rfl, (K11.out.2.setCell HB4.out _).setCell HB4.out _⟩
      · have tn : decide (20000 < (pn : Int)) = false := decide_eq_false (by have := HPS.out.2; omega)
        have tn2 : decide (20000 < pn) = false := decide_eq_false (by have := HPS.out.2; omega)
        have HE : Hid (fc = 1 ∧ fd = (i0 : Int) ∧ ux = 0 ∧ uy = 0) := by
          rcases HND.out with ⟨_, h2, h3, h4⟩ | ⟨_, h1, _⟩
          · rw [TR.tf_bad hT hi0 hT2 hT3] at h2
            obtain ⟨h5, h6⟩ := Prod.mk.inj h2
            exact ⟨h5, h6, h3, h4⟩
          · have := h1 _ (List.getElem_mem hi0)
            rw [hT3] at this
            exact absurd this (by decide)
        have hi0n : i0 < pn := by rw [HPS.out.2]; exact hi0
        have hi0k : i0 ≤ 20000 := by omega
        have HT : Hid ((∀ j (hj : j < i0), TR.okb (P[j]'(by omega)) = true) ∧ TR.okb (P[i0]'hi0) = false) := ⟨hT2, hT3⟩
        clear hT hT2 hT3 HND
        obtain ⟨rfl, rfl, rfl, rfl⟩ := HE.out
        go_wp2
        rw [← hW9]
        simp only [← hb12]
        clear hW9 hb12 r0 r1 r2 r3 r4 r5 r6 r7 r8 r9 HE
        go_loopg [13] (i0 + 2) (fun gk iv wx => ∃ (i : Nat) (c5 d5 : Int), iv = .int .i64 (i : Int) ∧ Hid (gk = i0 + 2 - i ∧ ((i ≤ i0 ∧ c5 = 0 ∧ d5 = 0) ∨ (i = i0 + 1 ∧ c5 = 1 ∧ d5 = (i0 : Int))) ∧ Sv b4 1 (i0 : Int) wx ∧ Sv b5 c5 d5 wx ∧ Sv b12 0 0 wx ∧ Below w.heap.size w wx))
        case atStart => exact ⟨0, 0, 0, rfl, by omega, .inl ⟨by omega, rfl, rfl⟩, K9.out⟩
        case round =>
          clear K9
          obtain ⟨i, c5, d5, rfl, HR⟩ := hrel
          obtain ⟨h1, h2, h3⟩ := HR.out
          have HG : Hid (gk = i0 + 2 - i) := h1
          have HK : Hid (Sv b4 1 (i0 : Int) wr ∧ Sv b5 c5 d5 wr ∧ Sv b12 0 0 wr ∧ Below w.heap.size w wr) := h3
          clear HR h1 h3
          rcases h2 with ⟨hi, rfl, rfl⟩ | ⟨rfl, rfl, rfl⟩
          · have ti : decide ((i : Int) < (pn : Int)) = true := decide_eq_true (by omega)
            have xi : (i : Int) < (pn : Int) := by omega
            have xi2 : i < PS.size := by omega
            have hil : i < P.length := by rw [← HPS.out.2]; omega
            have tz := HPX.out i xi2 hil
            have q2 := HK.out.2.1.c0
            have q3 := HK.out.2.1.c1
            by_cases hlt : i < i0
            · have hok := HT.out.1 i hlt
              have hcase : ((P[i]'hil).toNat : Int) = 76 ∨ ((P[i]'hil).toNat : Int) = 82 := by
                unfold TR.okb at hok
                rw [Bool.or_eq_true, beq_iff_eq, beq_iff_eq] at hok
                rcases hok with h | h
                · left; rw [h]; rfl
                · right; rw [h]; rfl
              rw [← tz] at hcase
              clear tz hok
              rcases hcase with tz | tz
              · have tz2 : ∀ h : i < PS.size, (((PS[i]'h).toNat : Nat) : Int) = 76 := fun _ => tz
                have tz3 : ∀ h : i < PS.size, (PS[i]'h).toNat = 76 := fun h => by have := tz2 h; omega
                clear tz
                go_wp2
                go_roundg (i0 + 2 - (i + 1))
                case rel => exact ⟨i + 1, 0, 0, by go_num, rfl, .inl ⟨by omega, rfl, rfl⟩, HK.out⟩
                case measure => have := HG.out; omega
              · have tz2 : ∀ h : i < PS.size, (((PS[i]'h).toNat : Nat) : Int) = 82 := fun _ => tz
                have u1 : ∀ h : i < PS.size, ((((PS[i]'h).toNat : Nat) : Int) != 76) = true := fun h => by rw [tz2 h]; rfl
                have u2 : ∀ h : i < PS.size, ((((PS[i]'h).toNat : Nat) : Int) != 82) = false := fun h => by rw [tz2 h]; rfl
                clear tz2 tz
                go_wp2
                go_roundg (i0 + 2 - (i + 1))
                case rel => exact ⟨i + 1, 0, 0, by go_num, rfl, .inl ⟨by omega, rfl, rfl⟩, HK.out⟩
                case measure => have := HG.out; omega
            · obtain rfl : i = i0 := by omega
              have hno := HT.out.2
              have hcase : ((P[i]'hil).toNat : Int) ≠ 76 ∧ ((P[i]'hil).toNat : Int) ≠ 82 := by
                unfold TR.okb at hno
                rw [Bool.or_eq_false_iff, beq_eq_false_iff_ne, beq_eq_false_iff_ne] at hno
                refine ⟨fun h => hno.1 ?_, fun h => hno.2 ?_⟩
                · apply UInt8.toNat_inj.1; exact_mod_cast h
                · apply UInt8.toNat_inj.1; exact_mod_cast h
              rw [← tz] at hcase
              have u1 : ∀ h : i < PS.size, ((((PS[i]'h).toNat : Nat) : Int) != 76) = true := fun h => by simpa using hcase.1
              have u2 : ∀ h : i < PS.size, ((((PS[i]'h).toNat : Nat) : Int) != 82) = true := fun h => by simpa using hcase.2
              have u3 : ∀ h : i < PS.size, ¬ (PS[i]'h).toNat = 76 := fun h e => hcase.1 (by exact_mod_cast e)
              have u4 : ∀ h : i < PS.size, ¬ (PS[i]'h).toNat = 82 := fun h e => hcase.2 (by exact_mod_cast e)
              clear tz hno hcase hlt
              go_wp2_with fail
              refine (F_any 1 (i : Int) _).mono ?_
              rintro e wa ⟨rfl, ka⟩
              have KA : Hid (Sv b4 1 (i : Int) wa ∧ Sv b5 0 0 wa ∧ Sv b12 0 0 wa ∧ Below w.heap.size w wa) := ⟨HK.out.1.below ka, HK.out.2.1.below ka, HK.out.2.2.1.below ka, HK.out.2.2.2.trans (ka.mono HK.out.2.2.2.size)⟩
              clear ka HK q2 q3
              have K10 : Hid (Sv b4 1 (i : Int) ((wa.setCell ⟨b5, 0, none⟩ (.int .i64 1)).setCell ⟨b5, 1, none⟩ (.int .i64 (i : Int))) ∧ Sv b5 1 (i : Int) ((wa.setCell ⟨b5, 0, none⟩ (.int .i64 1)).setCell ⟨b5, 1, none⟩ (.int .i64 (i : Int))) ∧ Sv b12 0 0 ((wa.setCell ⟨b5, 0, none⟩ (.int .i64 1)).setCell ⟨b5, 1, none⟩ (.int .i64 (i : Int))) ∧ Below w.heap.size w ((wa.setCell ⟨b5, 0, none⟩ (.int .i64 1)).setCell ⟨b5, 1, none⟩ (.int .i64 (i : Int)))) :=
                ⟨KA.out.1.other _ _ n54, KA.out.2.1.set _ _, KA.out.2.2.1.other _ _ n13, (KA.out.2.2.2.setCell HN.out.2.2 _).setCell HN.out.2.2 _⟩
              have q0 := KA.out.2.1.c0
              have q1 := KA.out.2.1.c1
              have q2 := KA.out.2.1.f0
              have q3 := KA.out.2.1.f1
              have q4 := KA.out.2.1.lt
              clear KA
              go_wp2
              go_roundg (i + 2 - (i + 1))
              case rel => exact ⟨i + 1, 1, (i : Int), by go_num, rfl, .inr ⟨rfl, rfl, rfl⟩, K10.out⟩
              case measure => have := HG.out; omega
          · obtain ⟨i1, hi1⟩ : ∃ i1, i1 = i0 + 1 := ⟨_, rfl⟩
            rw [← hi1]
            have q0 := HK.out.1.c0
            have q1 := HK.out.1.c1
            have q2 := HK.out.2.1.c0
            have q3 := HK.out.2.1.c1
            have q4 := HK.out.2.2.1.c0
            have q5 := HK.out.2.2.1.c1
            by_cases hi : i1 < pn
            · have ti : decide ((i1 : Int) < (pn : Int)) = true := decide_eq_true (by omega)
              clear hi1
              go_wp2
              go_ret
              exact ⟨rfl, HK.out.2.2.2⟩
            · have ti : decide ((i1 : Int) < (pn : Int)) = false := decide_eq_false (by omega)
              clear hi1
              go_wp2
              go_ret
              exact ⟨rfl, HK.out.2.2.2⟩
  · clear HC
    have d1 : decide (x < 1) = true := decide_eq_true h1
    clear h1
    go_wp2_with fail
    rw [← hW4]
    simp only [← hb5]
    clear hW4 hb5 p0 p1 p2
    refine (F_any 3 0 _).mono ?_
    rintro e w5 ⟨rfl, k5⟩
    have H5 : Hid (Sv b1 x y w5 ∧ Sv b4 3 0 w5 ∧ Sv b5 0 0 w5 ∧ Below w.heap.size w w5) := ⟨HK.out.1.below k5, HK.out.2.1.below k5, HK.out.2.2.1.below k5, HK.out.2.2.2.trans (k5.mono HK.out.2.2.2.size)⟩
    clear k5 HK
    obtain ⟨W6, hW6⟩ : ∃ W, W = (w5.setCell ⟨b5, 0, none⟩ (.int .i64 3)).setCell ⟨b5, 1, none⟩ (.int .i64 0) := ⟨_, rfl⟩
    have HK : Hid (Sv b1 x y W6 ∧ Sv b4 3 0 W6 ∧ Sv b5 3 0 W6 ∧ Below w.heap.size w W6) := by
      show _ ∧ _
      rw [hW6]
      exact ⟨H5.out.1.other _ _ (Ne.symm HN.out.1), H5.out.2.1.other _ _ (Ne.symm HN.out.2.1), H5.out.2.2.1.set 3 0, (H5.out.2.2.2.setCell HN.out.2.2 _).setCell HN.out.2.2 _⟩
    have p0 := H5.out.2.2.1.c0
    have p1 := H5.out.2.2.1.c1
    have p2 := H5.out.2.2.1.f0
    have p3 := H5.out.2.2.1.f1
    go_wp2_with fail
    rw [← hW6]
    clear hW6 p0 p1 p2 p3 H5
    refine (HBg.out _ HK.out.2.2.2).mono ?_
    rintro e w7 ⟨rfl, k7⟩
    have HK7 : Hid (Sv b1 x y w7 ∧ Sv b4 3 0 w7 ∧ Sv b5 3 0 w7 ∧ Below w.heap.size w w7) := ⟨HK.out.1.below k7, HK.out.2.1.below k7, HK.out.2.2.1.below k7, HK.out.2.2.2.trans (k7.mono HK.out.2.2.2.size)⟩
    have q0 := HK7.out.1.c0
    have q1 := HK7.out.1.c1
    have q2 := HK7.out.2.1.c0
    have q3 := HK7.out.2.1.c1
    have q4 := HK7.out.2.2.1.c0
    have q5 := HK7.out.2.2.1.c1
    clear k7 HK
    go_wp2_with fail
    clear q0 q1 q2 q3 q4 q5
    refine (HNd.out w7).mono ?_
    rintro e w8 ⟨ux, uy, fc, fd, rfl, hnd, k8⟩
    have HND : Hid (NdIs P ux uy fc fd) := hnd
    have K8 : Hid (Sv b4 3 0 w8 ∧ Sv b5 3 0 w8 ∧ Below w.heap.size w w8) := ⟨HK7.out.2.1.below k8, HK7.out.2.2.1.below k8, HK7.out.2.2.2.trans (k8.mono HK7.out.2.2.2.size)⟩
    have n45 : b4 ≠ b5 := HN.out.2.1
    have n54 : b5 ≠ b4 := fun e => HN.out.2.1 e.symm
    clear k8 HK7 hnd
    obtain ⟨b12, hb12⟩ : ∃ b, b = w8.heap.size := ⟨_, rfl⟩
    obtain ⟨W9, hW9⟩ : ∃ W, W = ((((w8.setCell ⟨b4, 0, none⟩ (.int .i64 fc)).setCell ⟨b4, 1, none⟩ (.int .i64 fd)).setCell ⟨b5, 0, none⟩ (.int .i64 0)).setCell ⟨b5, 1, none⟩ (.int .i64 0)).alloc (.cells #[.int .i64 ux, .int .i64 uy] 23) := ⟨_, rfl⟩
    have K9 : Hid (Sv b4 fc fd W9 ∧ Sv b5 0 0 W9 ∧ Sv b12 ux uy W9 ∧ Below w.heap.size w W9) := by
      have h1 := ((((K8.out.2.2.setCell (p := ⟨b4, 0, none⟩) HB4.out (.int .i64 fc)).setCell (p := ⟨b4, 1, none⟩) HB4.out (.int .i64 fd)).setCell (p := ⟨b5, 0, none⟩) HN.out.2.2 (.int .i64 0)).setCell (p := ⟨b5, 1, none⟩) HN.out.2.2 (.int .i64 0))
      have h2 := Sv.newT ux uy ((((w8.setCell ⟨b4, 0, none⟩ (.int .i64 fc)).setCell ⟨b4, 1, none⟩ (.int .i64 fd)).setCell ⟨b5, 0, none⟩ (.int .i64 0)).setCell ⟨b5, 1, none⟩ (.int .i64 0)) 23
      simp only [World.size_setCell] at h2
      show _ ∧ _
      rw [hW9, hb12]
      exact ⟨((K8.out.1.set fc fd).other _ _ n54).alloc _ _, ((K8.out.2.1.other _ _ n45).set 0 0).alloc _ _, h2, h1.alloc h1.size _⟩
    have r0 := K8.out.1.c0
    have r1 := K8.out.1.c1
    have r2 := K8.out.1.f0
    have r3 := K8.out.1.f1
    have r4 := K8.out.2.1.c0
    have r5 := K8.out.2.1.c1
    have r6 := K8.out.2.1.f0
    have r7 := K8.out.2.1.f1
    have r8 := K8.out.1.lt
    have r9 := K8.out.2.1.lt
    have n12 : b12 ≠ b5 := by omega
    have n13 : b5 ≠ b12 := by omega
    clear K8
    rcases TR.three P with hT | ⟨hT, hT2⟩ | ⟨hT, i0, hi0, hT2, hT3⟩
    · have tn : decide (20000 < (pn : Int)) = true := decide_eq_true (by have := HPS.out.2; omega)
      have tn2 : decide (20000 < pn) = true := decide_eq_true (by have := HPS.out.2; omega)
      have HE : Hid (fc = 2 ∧ fd = 0 ∧ ux = 0 ∧ uy = 0) := by
        rcases HND.out with ⟨_, h2, h3, h4⟩ | ⟨h1, _⟩
        · rw [TR.tf_long hT] at h2
          obtain ⟨h5, h6⟩ := Prod.mk.inj h2
          exact ⟨h5, h6, h3, h4⟩
        · omega
      have hp0 : decide (0 < (pn : Int)) = true := decide_eq_true (by have := HPS.out.2; omega)
      have hp1 : 0 < pn := by have := HPS.out.2; omega
      clear hT HND
      obtain ⟨rfl, rfl, rfl, rfl⟩ := HE.out
      go_wp2_with fail
      rw [← hW9]
      simp only [← hb12]
      clear hW9 hb12 r0 r1 r2 r3 r4 r5 r6 r7 r8 r9 HE
      refine (F_any 2 0 _).mono ?_
      rintro e wa ⟨rfl, ka⟩
      have KA : Hid (Sv b4 2 0 wa ∧ Sv b5 0 0 wa ∧ Sv b12 0 0 wa ∧ Below w.heap.size w wa) := ⟨K9.out.1.below ka, K9.out.2.1.below ka, K9.out.2.2.1.below ka, K9.out.2.2.2.trans (ka.mono K9.out.2.2.2.size)⟩
      clear ka K9
      have K10 : Hid (Sv b4 2 0 ((wa.setCell ⟨b5, 0, none⟩ (.int .i64 2)).setCell ⟨b5, 1, none⟩ (.int .i64 0)) ∧ Sv b5 2 0 ((wa.setCell ⟨b5, 0, none⟩ (.int .i64 2)).setCell ⟨b5, 1, none⟩ (.int .i64 0)) ∧ Sv b12 0 0 ((wa.setCell ⟨b5, 0, none⟩ (.int .i64 2)).setCell ⟨b5, 1, none⟩ (.int .i64 0)) ∧ Below w.heap.size w ((wa.setCell ⟨b5, 0, none⟩ (.int .i64 2)).setCell ⟨b5, 1, none⟩ (.int .i64 0))) :=
        ⟨KA.out.1.other _ _ n54, KA.out.2.1.set _ _, KA.out.2.2.1.other _ _ n13, (KA.out.2.2.2.setCell HN.out.2.2 _).setCell HN.out.2.2 _⟩
      have q0 := KA.out.2.1.c0
      have q1 := KA.out.2.1.c1
      have q2 := KA.out.2.1.f0
      have q3 := KA.out.2.1.f1
      have q4 := KA.out.2.1.lt
      clear KA
      go_wp2
      clear q0 q1 q2 q3 q4
      go_loopg [13] 0 (fun gk iv wx => iv = .int .i64 0 ∧ Hid (gk = 0 ∧ Sv b4 2 0 wx ∧ Sv b5 2 0 wx ∧ Sv b12 0 0 wx ∧ Below w.heap.size w wx))
      case atStart => exact ⟨rfl, rfl, K10.out⟩
      case round =>
        clear K10
        obtain ⟨rfl, HR⟩ := hrel
        have q0 := HR.out.2.1.c0
        have q1 := HR.out.2.1.c1
        have q2 := HR.out.2.2.1.c0
        have q3 := HR.out.2.2.1.c1
        have q4 := HR.out.2.2.2.1.c0
        have q5 := HR.out.2.2.2.1.c1
        have HK : Hid (Below w.heap.size w wr) := HR.out.2.2.2.2
        clear HR
        go_wp2
        go_ret
        exact ⟨rfl, HK.out⟩
    · have tn : decide (20000 < (pn : Int)) = false := decide_eq_false (by have := HPS.out.2; omega)
      have tn2 : decide (20000 < pn) = false := decide_eq_false (by have := HPS.out.2; omega)
      have HWd : Hid (WdOut (TR.steps P) ux uy fc fd) := by
        rcases HND.out with ⟨h1, _⟩ | ⟨_, _, h2⟩
        · rw [TR.tf_ok hT hT2] at h1; exact absurd rfl h1
        · exact h2
      have HWk : Hid (∀ W, Calls Tryz.prog 19 #[.string PS] W fun e w' => WkOut W w' (TR.steps P) e) := fun W => by
        have h := Walked_any (TR.steps P) W (by unfold TR.steps; rw [List.length_map]; omega)
        rw [TR.steps_back hT2, ← HPS.out.1] at h
        exact h
      have HT : Hid (P.length ≤ 20000 ∧ ∀ c ∈ P, TR.okb c = true) := ⟨hT, hT2⟩
      clear hT hT2 HND
      go_wp2
      rw [← hW9]
      simp only [← hb12]
      clear hW9 hb12 r0 r1 r2 r3 r4 r5 r6 r7 r8 r9
      go_loopg [13] pn (fun gk iv wx => ∃ i : Nat, iv = .int .i64 (i : Int) ∧ Hid (gk = pn - i ∧ i ≤ pn ∧ Sv b4 fc fd wx ∧ Sv b5 0 0 wx ∧ Sv b12 ux uy wx ∧ Below w.heap.size w wx))
      case atStart => exact ⟨0, rfl, by omega, by omega, K9.out⟩
      case round =>
        clear K9
        obtain ⟨i, rfl, HR⟩ := hrel
        obtain ⟨h1, h2, h3⟩ := HR.out
        have HG : Hid (gk = pn - i) := h1
        have HK : Hid (Sv b4 fc fd wr ∧ Sv b5 0 0 wr ∧ Sv b12 ux uy wr ∧ Below w.heap.size w wr) := h3
        have q2 := h3.2.1.c0
        have q3 := h3.2.1.c1
        clear HR h1 h3
        by_cases hi : i < pn
        · have ti : decide ((i : Int) < (pn : Int)) = true := decide_eq_true (by omega)
          have xi : (i : Int) < (pn : Int) := by omega
          have xi2 : i < PS.size := by omega
          have hil : i < P.length := by rw [← HPS.out.2]; exact hi
          have tz := HPX.out i xi2 hil
          have hok := HT.out.2 _ (List.getElem_mem hil)
          have hcase : ((P[i]'hil).toNat : Int) = 76 ∨ ((P[i]'hil).toNat : Int) = 82 := by
            unfold TR.okb at hok
            rw [Bool.or_eq_true, beq_iff_eq, beq_iff_eq] at hok
            rcases hok with h | h
            · left; rw [h]; rfl
            · right; rw [h]; rfl
          rw [← tz] at hcase
          clear tz hok
          rcases hcase with tz | tz
          · have tz2 : ∀ h : i < PS.size, (((PS[i]'h).toNat : Nat) : Int) = 76 := fun _ => tz
            have tz3 : ∀ h : i < PS.size, (PS[i]'h).toNat = 76 := fun h => by have := tz2 h; omega
            clear tz
            go_wp2
            go_roundg (pn - (i + 1))
            case rel => exact ⟨i + 1, by go_num, rfl, by omega, HK.out⟩
            case measure => have := HG.out; omega
          · have tz2 : ∀ h : i < PS.size, (((PS[i]'h).toNat : Nat) : Int) = 82 := fun _ => tz
            have u1 : ∀ h : i < PS.size, ((((PS[i]'h).toNat : Nat) : Int) != 76) = true := fun h => by rw [tz2 h]; rfl
            have u2 : ∀ h : i < PS.size, ((((PS[i]'h).toNat : Nat) : Int) != 82) = false := fun h => by rw [tz2 h]; rfl
            clear tz2 tz
            go_wp2
            go_roundg (pn - (i + 1))
            case rel => exact ⟨i + 1, by go_num, rfl, by omega, HK.out⟩
            case measure => have := HG.out; omega
        · have ti : decide ((i : Int) < (pn : Int)) = false := decide_eq_false (by omega)
          clear h2
          go_wp2_with fail
          refine (HWk.out wr).mono ?_
          rintro e w5 ⟨hwk, k5⟩
          have K5 : Hid (Sv b4 fc fd w5 ∧ Sv b12 ux uy w5 ∧ Below w.heap.size w w5) := ⟨HK.out.1.below k5, HK.out.2.2.1.below k5, HK.out.2.2.2.trans (k5.mono HK.out.2.2.2.size)⟩
          clear HK q2 q3 k5
          rcases hwk with ⟨j, hj1, hj2, hj3, rfl⟩ | ⟨hj, pa, pb, rfl, hba, hbb⟩
          · have HE : Hid (fc = 9 ∧ fd = (j : Int) ∧ ux = 0 ∧ uy = 0) := by
              rcases HWd.out with ⟨k, _, g2, g3, g4, g5, g6, g7⟩ | ⟨g1, _⟩
              · have := TR.near_uniq hj2 hj3 g2 g3
                exact ⟨g6, by rw [g7, this], g4, g5⟩
              · exact absurd (g1 j hj1) hj3
            have tj : decide ((0 : Int) ≤ (j : Int)) = true := decide_eq_true (by omega)
            clear hj1 hj2 hj3 HWd
            obtain ⟨rfl, rfl, rfl, rfl⟩ := HE.out
            have HR5 : Hid (∀ W, Below w5.heap.size w5 W → (W.cell? ⟨b4, 0, none⟩ = some (.int .i64 9) ∧ W.cell? ⟨b4, 1, none⟩ = some (.int .i64 (j : Int))) ∧ W.cell? ⟨b12, 0, none⟩ = some (.int .i64 0) ∧ W.cell? ⟨b12, 1, none⟩ = some (.int .i64 0)) := fun W kk => ⟨⟨(K5.out.1.below kk).c0, (K5.out.1.below kk).c1⟩, (K5.out.2.1.below kk).c0, (K5.out.2.1.below kk).c1⟩
            go_wp2_with fail
            refine wp_region_G (fun W => (W.cell? ⟨b4, 0, none⟩ = some (.int .i64 9) ∧ W.cell? ⟨b4, 1, none⟩ = some (.int .i64 (j : Int))) ∧ W.cell? ⟨b12, 0, none⟩ = some (.int .i64 0) ∧ W.cell? ⟨b12, 1, none⟩ = some (.int .i64 0)) 9 (by kernel_rfl) (HR5.out _ (Below.refl _ _).drew) (fun hHeld => ?_)
            refine wpAnyG_take (i := 0) (v := ?v0x17) rfl (by kernel_rfl) (fun _ _ _ h => h) (Or.inl ⟨by rfl, ?y0x17⟩) hHeld ?r0x17
            case y0x17 => (intro wS hSw; obtain ⟨⟨s1, s2⟩, s3, s4⟩ := hSw; go_simp; try with_reducible rfl)
            simp only [Act.put, List.getElem_toArray, List.getElem_cons_zero, List.getElem_cons_succ, List.setIfInBounds_toArray, List.set_cons_zero, List.set_cons_succ]
            refine wpAnyG_take (i := 1) (v := ?v1x18) rfl (by kernel_rfl) (fun _ _ _ h => h) (Or.inl ⟨by rfl, ?y1x18⟩) hHeld ?r1x18
            case y1x18 => (intro wS hSw; obtain ⟨⟨s1, s2⟩, s3, s4⟩ := hSw; go_simp; try with_reducible rfl)
            simp only [Act.put, List.getElem_toArray, List.getElem_cons_zero, List.getElem_cons_succ, List.setIfInBounds_toArray, List.set_cons_zero, List.set_cons_succ]
            refine wpAnyG_one (i := 2) rfl (by kernel_rfl) (fun K hK => ?_)
            go_simp
            refine (F_any 9 (j : Int) _).mono ?_
            rintro e w6 ⟨rfl, k6⟩
            have HK6 : Hid (Below w5.heap.size w5 w6) := (Below.refl _ _).drew.trans k6
            clear k6
            refine hK.out _ _ (HR5.out _ HK6.out) ?_
            clear hK K hHeld
            have hHeld := HR5.out _ HK6.out
            refine wpAnyG_take (i := 3) (v := .bool true) rfl (by kernel_rfl) (fun _ _ _ h => h) (Or.inl ⟨by kernel_rfl, ?y3x19⟩) hHeld ?r3x19
            case y3x19 => (intro wS hSw; (go_simp))
            simp only [Act.put, List.getElem_toArray, List.getElem_cons_zero, List.getElem_cons_succ, List.setIfInBounds_toArray, List.set_cons_zero, List.set_cons_succ]
            refine wpAnyG_take (i := 4) (v := .bool true) rfl (by kernel_rfl) (fun _ _ _ h => h) (Or.inl ⟨by kernel_rfl, ?y4x20⟩) hHeld ?r4x20
            case y4x20 => (intro wS hSw; (go_simp))
            simp only [Act.put, List.getElem_toArray, List.getElem_cons_zero, List.getElem_cons_succ, List.setIfInBounds_toArray, List.set_cons_zero, List.set_cons_succ]
            refine wpAnyG_take (i := 5) (v := .agg #[.int .i64 0, .int .i64 0]) rfl (by kernel_rfl) (fun _ _ _ h => h) (Or.inl ⟨by kernel_rfl, ?y5x21⟩) hHeld ?r5x21
            case y5x21 => (intro wS hSw; (obtain ⟨⟨s1, s2⟩, s3, s4⟩ := hSw; go_simp))
            simp only [Act.put, List.getElem_toArray, List.getElem_cons_zero, List.getElem_cons_succ, List.setIfInBounds_toArray, List.set_cons_zero, List.set_cons_succ]
            refine wpAnyG_take (i := 6) (v := ?v6x22) rfl (by kernel_rfl) (fun _ _ _ h => h) (Or.inl ⟨by kernel_rfl, ?y6x22⟩) hHeld ?r6x22
            case y6x22 => (intro wS hSw; have s1 := hSw; go_simp; try with_reducible rfl)
            simp only [Act.put, List.getElem_toArray, List.getElem_cons_zero, List.getElem_cons_succ, List.setIfInBounds_toArray, List.set_cons_zero, List.set_cons_succ]
            refine wpAnyG_take (i := 7) (v := .bool true) rfl (by kernel_rfl) (fun _ _ _ h => h) (Or.inl ⟨by kernel_rfl, ?y7x23⟩) hHeld ?r7x23
            case y7x23 => (intro wS hSw; (go_simp))
            simp only [Act.put, List.getElem_toArray, List.getElem_cons_zero, List.getElem_cons_succ, List.setIfInBounds_toArray, List.set_cons_zero, List.set_cons_succ]
            refine wpAnyG_take (i := 8) (v := .bool true) rfl (by kernel_rfl) (fun _ _ _ h => h) (Or.inl ⟨by kernel_rfl, ?y8x24⟩) hHeld ?r8x24
            case y8x24 => (intro wS hSw; (go_simp))
            simp only [Act.put, List.getElem_toArray, List.getElem_cons_zero, List.getElem_cons_succ, List.setIfInBounds_toArray, List.set_cons_zero, List.set_cons_succ]
            refine wpAnyG_last (i := 9) rfl (by kernel_rfl) (by kernel_rfl) (fun K hK => ?_)
            go_simp
            refine hK.out _ _ ?_
            clear hK K
            refine wpAnyG_done (by kernel_rfl) ?_ _
            clear hHeld
            go_wp2
            go_ret
            exact ⟨rfl, K5.out.2.2.trans (HK6.out.mono K5.out.2.2.size)⟩
          · obtain ⟨X9, hX9⟩ : ∃ X, X = (ST.nd (TR.steps P)).1 := ⟨_, rfl⟩
            obtain ⟨Y9, hY9⟩ : ∃ Y, Y = (ST.nd (TR.steps P)).2 := ⟨_, rfl⟩
            have hnb := TR.of_near hj
            have hpb := TR.path_back (l := TR.steps P) (by unfold TR.steps; rw [List.length_map]; exact HT.out.1) hnb
            rw [TR.steps_back HT.out.2, ← HPS.out.1] at hpb
            have HE : Hid (fc = 0 ∧ fd = 0 ∧ ux = (X9 : Int) ∧ uy = (Y9 : Int)) := by
              rcases HWd.out with ⟨k, g0, g2, g3, _⟩ | ⟨_, g2, g3, g4, g5⟩
              · exact absurd (hj k g0) g3
              · exact ⟨g4, g5, by rw [g2, hX9], by rw [g3, hY9]⟩
            rw [← hX9, ← hY9] at hpb hnb
            rw [← hX9] at hba
            rw [← hY9] at hbb
            have HBg2 : Hid (BigAt w5 pa (X9 : Int) ∧ BigAt w5 pb (Y9 : Int)) := ⟨hba, hbb⟩
            have HPb : Hid (∀ W, Calls Tryz.prog 15 #[.agg #[.int .i64 (X9 : Int), .int .i64 (Y9 : Int)]] W fun e w' => e = .returned (.tuple #[.string PS, .agg #[.int .i64 0, .int .i64 0]]) ∧ Below W.heap.size W w') := fun W => by
              have h := HPa.out (X9 : Int) (Y9 : Int) W
              rw [hpb.1, hpb.2] at h
              exact h
            have hx9 := hnb.1
            have hy9 := hnb.2
            clear hj hba hbb hpb HWd hX9 hY9 hnb
            obtain ⟨rfl, rfl, rfl, rfl⟩ := HE.out
            have q0 := K5.out.1.c0
            have q1 := K5.out.1.c1
            have q2 := K5.out.2.1.c0
            have q3 := K5.out.2.1.c1
            go_wp2_with fail
            clear q0 q1 q2 q3
            refine (B_any (X9 : Int) _ (by omega) (by omega)).mono ?_
            rintro e w6 ⟨bt, rfl, m6⟩
            have K6 : Hid (Sv b4 0 0 w6 ∧ Sv b12 X9 Y9 w6 ∧ Below w.heap.size w w6 ∧ BigAt w6 pa (X9 : Int) ∧ BigAt w6 pb (Y9 : Int) ∧ BigAt w6 bt (X9 : Int)) := ⟨K5.out.1.below m6.2.2, K5.out.2.1.below m6.2.2, K5.out.2.2.trans (m6.2.2.mono K5.out.2.2.size), HBg2.out.1.below m6.2.2 (Nat.le_refl _), HBg2.out.2.below m6.2.2 (Nat.le_refl _), m6.2.1⟩
            clear m6 K5 HBg2
            go_wp2_with fail
            refine (Cmp_any pa bt _ _ 3 3 w6 K6.out.2.2.2.1 K6.out.2.2.2.2.2 (Nat.lt_of_le_of_lt (show _ ≤ 2000000000000000001 by omega) (by decide +kernel)) (Nat.lt_of_le_of_lt (show _ ≤ 2000000000000000001 by omega) (by decide +kernel)) (by omega) (by omega)).mono ?_
            rintro e w7 ⟨rfl, q7, hq7⟩
            have tc1 : cmpZ (X9 : Int) (X9 : Int) = 0 := by unfold cmpZ; rw [if_neg (by omega), if_neg (by omega)]
            rw [tc1]
            clear tc1
            have K7 : Hid (Sv b4 0 0 w7 ∧ Sv b12 X9 Y9 w7 ∧ Below w.heap.size w w7 ∧ BigAt w7 pb (Y9 : Int)) := by
              have k : Below w6.heap.size w6 w7 := by rw [hq7]; exact below_drewN' (Below.refl _ _)
              exact ⟨K6.out.1.below k, K6.out.2.1.below k, K6.out.2.2.1.trans (k.mono K6.out.2.2.1.size), K6.out.2.2.2.2.1.below k (Nat.le_refl _)⟩
            clear hq7 K6
            have q2 := K7.out.2.1.c0
            have q3 := K7.out.2.1.c1
            go_wp2_with fail
            clear q2 q3
            refine (B_any (Y9 : Int) _ (by omega) (by omega)).mono ?_
            rintro e w6 ⟨bu, rfl, m6⟩
            have K6 : Hid (Sv b4 0 0 w6 ∧ Sv b12 X9 Y9 w6 ∧ Below w.heap.size w w6 ∧ BigAt w6 pb (Y9 : Int) ∧ BigAt w6 bu (Y9 : Int)) := ⟨K7.out.1.below m6.2.2, K7.out.2.1.below m6.2.2, K7.out.2.2.1.trans (m6.2.2.mono K7.out.2.2.1.size), K7.out.2.2.2.below m6.2.2 (Nat.le_refl _), m6.2.1⟩
            clear m6 K7
            go_wp2_with fail
            refine (Cmp_any pb bu _ _ 3 3 w6 K6.out.2.2.2.1 K6.out.2.2.2.2 (Nat.lt_of_le_of_lt (show _ ≤ 2000000000000000001 by omega) (by decide +kernel)) (Nat.lt_of_le_of_lt (show _ ≤ 2000000000000000001 by omega) (by decide +kernel)) (by omega) (by omega)).mono ?_
            rintro e w7 ⟨rfl, q7, hq7⟩
            have tc1 : cmpZ (Y9 : Int) (Y9 : Int) = 0 := by unfold cmpZ; rw [if_neg (by omega), if_neg (by omega)]
            rw [tc1]
            clear tc1
            have K7 : Hid (Sv b4 0 0 w7 ∧ Sv b12 X9 Y9 w7 ∧ Below w.heap.size w w7) := by
              have k : Below w6.heap.size w6 w7 := by rw [hq7]; exact below_drewN' (Below.refl _ _)
              exact ⟨K6.out.1.below k, K6.out.2.1.below k, K6.out.2.2.1.trans (k.mono K6.out.2.2.1.size)⟩
            clear hq7 K6
            have q2 := K7.out.2.1.c0
            have q3 := K7.out.2.1.c1
            go_wp2_with fail
            clear q2 q3
            refine (HPb.out _).mono ?_
            rintro e w9 ⟨rfl, k9⟩
            have K11 : Hid (Sv b4 0 0 w9 ∧ Below w.heap.size w w9) := ⟨K7.out.1.below k9, K7.out.2.2.trans (k9.mono K7.out.2.2.size)⟩
            clear k9 K7 HPb
            have q0 := K11.out.1.c0
            have q1 := K11.out.1.c1
            have q2 := K11.out.1.f0
            have q3 := K11.out.1.f1
            have q4 := K11.out.1.lt
            go_wp2
            go_ret
            exact ⟨rfl, (K11.out.2.setCell HB4.out _).setCell HB4.out _⟩
    · have tn : decide (20000 < (pn : Int)) = false := decide_eq_false (by have := HPS.out.2; omega)
      have tn2 : decide (20000 < pn) = false := decide_eq_false (by have := HPS.out.2; omega)
      have HE : Hid (fc = 1 ∧ fd = (i0 : Int) ∧ ux = 0 ∧ uy = 0) := by
        rcases HND.out with ⟨_, h2, h3, h4⟩ | ⟨_, h1, _⟩
        · rw [TR.tf_bad hT hi0 hT2 hT3] at h2
          obtain ⟨h5, h6⟩ := Prod.mk.inj h2
          exact ⟨h5, h6, h3, h4⟩
        · have := h1 _ (List.getElem_mem hi0)
          rw [hT3] at this
          exact absurd this (by decide)
      have hi0n : i0 < pn := by rw [HPS.out.2]; exact hi0
      have hi0k : i0 ≤ 20000 := by omega
      have HT : Hid ((∀ j (hj : j < i0), TR.okb (P[j]'(by omega)) = true) ∧ TR.okb (P[i0]'hi0) = false) := ⟨hT2, hT3⟩
      clear hT hT2 hT3 HND
      obtain ⟨rfl, rfl, rfl, rfl⟩ := HE.out
      go_wp2
      rw [← hW9]
      simp only [← hb12]
      clear hW9 hb12 r0 r1 r2 r3 r4 r5 r6 r7 r8 r9 HE
      go_loopg [13] (i0 + 2) (fun gk iv wx => ∃ (i : Nat) (c5 d5 : Int), iv = .int .i64 (i : Int) ∧ Hid (gk = i0 + 2 - i ∧ ((i ≤ i0 ∧ c5 = 0 ∧ d5 = 0) ∨ (i = i0 + 1 ∧ c5 = 1 ∧ d5 = (i0 : Int))) ∧ Sv b4 1 (i0 : Int) wx ∧ Sv b5 c5 d5 wx ∧ Sv b12 0 0 wx ∧ Below w.heap.size w wx))
      case atStart => exact ⟨0, 0, 0, rfl, by omega, .inl ⟨by omega, rfl, rfl⟩, K9.out⟩
      case round =>
        clear K9
        obtain ⟨i, c5, d5, rfl, HR⟩ := hrel
        obtain ⟨h1, h2, h3⟩ := HR.out
        have HG : Hid (gk = i0 + 2 - i) := h1
        have HK : Hid (Sv b4 1 (i0 : Int) wr ∧ Sv b5 c5 d5 wr ∧ Sv b12 0 0 wr ∧ Below w.heap.size w wr) := h3
        clear HR h1 h3
        rcases h2 with ⟨hi, rfl, rfl⟩ | ⟨rfl, rfl, rfl⟩
        · have ti : decide ((i : Int) < (pn : Int)) = true := decide_eq_true (by omega)
          have xi : (i : Int) < (pn : Int) := by omega
          have xi2 : i < PS.size := by omega
          have hil : i < P.length := by rw [← HPS.out.2]; omega
          have tz := HPX.out i xi2 hil
          have q2 := HK.out.2.1.c0
          have q3 := HK.out.2.1.c1
          by_cases hlt : i < i0
          · have hok := HT.out.1 i hlt
            have hcase : ((P[i]'hil).toNat : Int) = 76 ∨ ((P[i]'hil).toNat : Int) = 82 := by
              unfold TR.okb at hok
              rw [Bool.or_eq_true, beq_iff_eq, beq_iff_eq] at hok
              rcases hok with h | h
              · left; rw [h]; rfl
              · right; rw [h]; rfl
            rw [← tz] at hcase
            clear tz hok
            rcases hcase with tz | tz
            · have tz2 : ∀ h : i < PS.size, (((PS[i]'h).toNat : Nat) : Int) = 76 := fun _ => tz
              have tz3 : ∀ h : i < PS.size, (PS[i]'h).toNat = 76 := fun h => by have := tz2 h; omega
              clear tz
              go_wp2
              go_roundg (i0 + 2 - (i + 1))
              case rel => exact ⟨i + 1, 0, 0, by go_num, rfl, .inl ⟨by omega, rfl, rfl⟩, HK.out⟩
              case measure => have := HG.out; omega
            · have tz2 : ∀ h : i < PS.size, (((PS[i]'h).toNat : Nat) : Int) = 82 := fun _ => tz
              have u1 : ∀ h : i < PS.size, ((((PS[i]'h).toNat : Nat) : Int) != 76) = true := fun h => by rw [tz2 h]; rfl
              have u2 : ∀ h : i < PS.size, ((((PS[i]'h).toNat : Nat) : Int) != 82) = false := fun h => by rw [tz2 h]; rfl
              clear tz2 tz
              go_wp2
              go_roundg (i0 + 2 - (i + 1))
              case rel => exact ⟨i + 1, 0, 0, by go_num, rfl, .inl ⟨by omega, rfl, rfl⟩, HK.out⟩
              case measure => have := HG.out; omega
          · obtain rfl : i = i0 := by omega
            have hno := HT.out.2
            have hcase : ((P[i]'hil).toNat : Int) ≠ 76 ∧ ((P[i]'hil).toNat : Int) ≠ 82 := by
              unfold TR.okb at hno
              rw [Bool.or_eq_false_iff, beq_eq_false_iff_ne, beq_eq_false_iff_ne] at hno
              refine ⟨fun h => hno.1 ?_, fun h => hno.2 ?_⟩
              · apply UInt8.toNat_inj.1; exact_mod_cast h
              · apply UInt8.toNat_inj.1; exact_mod_cast h
            rw [← tz] at hcase
            have u1 : ∀ h : i < PS.size, ((((PS[i]'h).toNat : Nat) : Int) != 76) = true := fun h => by simpa using hcase.1
            have u2 : ∀ h : i < PS.size, ((((PS[i]'h).toNat : Nat) : Int) != 82) = true := fun h => by simpa using hcase.2
            have u3 : ∀ h : i < PS.size, ¬ (PS[i]'h).toNat = 76 := fun h e => hcase.1 (by exact_mod_cast e)
            have u4 : ∀ h : i < PS.size, ¬ (PS[i]'h).toNat = 82 := fun h e => hcase.2 (by exact_mod_cast e)
            clear tz hno hcase hlt
            go_wp2_with fail
            refine (F_any 1 (i : Int) _).mono ?_
            rintro e wa ⟨rfl, ka⟩
            have KA : Hid (Sv b4 1 (i : Int) wa ∧ Sv b5 0 0 wa ∧ Sv b12 0 0 wa ∧ Below w.heap.size w wa) := ⟨HK.out.1.below ka, HK.out.2.1.below ka, HK.out.2.2.1.below ka, HK.out.2.2.2.trans (ka.mono HK.out.2.2.2.size)⟩
            clear ka HK q2 q3
            have K10 : Hid (Sv b4 1 (i : Int) ((wa.setCell ⟨b5, 0, none⟩ (.int .i64 1)).setCell ⟨b5, 1, none⟩ (.int .i64 (i : Int))) ∧ Sv b5 1 (i : Int) ((wa.setCell ⟨b5, 0, none⟩ (.int .i64 1)).setCell ⟨b5, 1, none⟩ (.int .i64 (i : Int))) ∧ Sv b12 0 0 ((wa.setCell ⟨b5, 0, none⟩ (.int .i64 1)).setCell ⟨b5, 1, none⟩ (.int .i64 (i : Int))) ∧ Below w.heap.size w ((wa.setCell ⟨b5, 0, none⟩ (.int .i64 1)).setCell ⟨b5, 1, none⟩ (.int .i64 (i : Int)))) :=
              ⟨KA.out.1.other _ _ n54, KA.out.2.1.set _ _, KA.out.2.2.1.other _ _ n13, (KA.out.2.2.2.setCell HN.out.2.2 _).setCell HN.out.2.2 _⟩
            have q0 := KA.out.2.1.c0
            have q1 := KA.out.2.1.c1
            have q2 := KA.out.2.1.f0
            have q3 := KA.out.2.1.f1
            have q4 := KA.out.2.1.lt
            clear KA
            go_wp2
            go_roundg (i + 2 - (i + 1))
            case rel => exact ⟨i + 1, 1, (i : Int), by go_num, rfl, .inr ⟨rfl, rfl, rfl⟩, K10.out⟩
            case measure => have := HG.out; omega
        · obtain ⟨i1, hi1⟩ : ∃ i1, i1 = i0 + 1 := ⟨_, rfl⟩
          rw [← hi1]
          have q0 := HK.out.1.c0
          have q1 := HK.out.1.c1
          have q2 := HK.out.2.1.c0
          have q3 := HK.out.2.1.c1
          have q4 := HK.out.2.2.1.c0
          have q5 := HK.out.2.2.1.c1
          by_cases hi : i1 < pn
          · have ti : decide ((i1 : Int) < (pn : Int)) = true := decide_eq_true (by omega)
            clear hi1
            go_wp2
            go_ret
            exact ⟨rfl, HK.out.2.2.2⟩
          · have ti : decide ((i1 : Int) < (pn : Int)) = false := decide_eq_false (by omega)
            clear hi1
            go_wp2
            go_ret
            exact ⟨rfl, HK.out.2.2.2⟩
  · clear HC
    have d1 : decide (x < 1) = false := decide_eq_false (by omega)
    obtain ⟨X, hX⟩ : ∃ X : Nat, X = x.toNat := ⟨_, rfl⟩
    obtain ⟨Y, hY⟩ : ∃ Y : Nat, Y = y.toNat := ⟨_, rfl⟩
    rw [← hX, ← hY] at h2
    have HX : Hid (X ≤ 1000000000000000000 ∧ Y ≤ 1000000000000000000 ∧ x = (X : Int) ∧ y = (Y : Int)) := by have := HXY.out (by omega); exact ⟨by omega, by omega, by omega, by omega⟩
    have HSt : Hid (∀ W, Calls Tryz.prog 16 #[.agg #[.int .i64 x, .int .i64 y]] W fun e w' => ∃ b, e = .returned (.pointer (some ⟨b, 0, none⟩)) ∧ Stp W w' b ((ST.qsum X Y : Nat) - 1)) := fun W => by
      rw [HX.out.2.2.1, HX.out.2.2.2]
      exact Steps_any X Y W HX.out.1 HX.out.2.1
    have HXn : Hid (X = x.toNat ∧ Y = y.toNat) := ⟨hX, hY⟩
    clear hX hY
    go_wp2_with fail
    rw [← hW4]
    simp only [← hb5]
    clear hW4 hb5 p0 p1 p2
    refine (HSt.out _).mono ?_
    rintro e w5 ⟨bs, rfl, hs⟩
    have HK5 : Hid (Sv b1 x y w5 ∧ Sv b4 9 0 w5 ∧ Sv b5 0 0 w5 ∧ Below w.heap.size w w5 ∧ BigAt w5 bs ((ST.qsum X Y : Nat) - 1)) := ⟨HK.out.1.below hs.k, HK.out.2.1.below hs.k, HK.out.2.2.1.below hs.k, HK.out.2.2.2.trans (hs.k.mono HK.out.2.2.2.size), hs.s⟩
    clear hs HK
    go_wp2_with fail
    refine (B_any 20000 _ (by omega) (by omega)).mono ?_
    rintro e w6 ⟨bt, rfl, m6⟩
    have HK6 : Hid (Sv b1 x y w6 ∧ Sv b4 9 0 w6 ∧ Sv b5 0 0 w6 ∧ Below w.heap.size w w6 ∧ BigAt w6 bs ((ST.qsum X Y : Nat) - 1) ∧ BigAt w6 bt 20000) := ⟨HK5.out.1.below m6.2.2, HK5.out.2.1.below m6.2.2, HK5.out.2.2.1.below m6.2.2, HK5.out.2.2.2.1.trans (m6.2.2.mono HK5.out.2.2.2.1.size), HK5.out.2.2.2.2.below m6.2.2 (Nat.le_refl _), m6.2.1⟩
    clear m6 HK5
    have hqb := ST.qsum_le X Y
    have hqx := HX.out.1
    have hqy := HX.out.2.1
    go_wp2_with fail
    refine (Cmp_any bs bt _ _ 3 3 w6 HK6.out.2.2.2.2.1 HK6.out.2.2.2.2.2 (Nat.lt_of_le_of_lt (show _ ≤ 2000000000000000001 by omega) (by decide +kernel)) (by decide +kernel) (by omega) (by omega)).mono ?_
    rintro e w7 ⟨rfl, q7, hq7⟩
    have HK : Hid (Sv b1 x y w7 ∧ Sv b4 9 0 w7 ∧ Sv b5 0 0 w7 ∧ Below w.heap.size w w7) := by
      have k : Below w6.heap.size w6 w7 := by rw [hq7]; exact below_drewN' (Below.refl _ _)
      exact ⟨HK6.out.1.below k, HK6.out.2.1.below k, HK6.out.2.2.1.below k, HK6.out.2.2.2.1.trans (k.mono HK6.out.2.2.2.1.size)⟩
    clear hq7 HK6 hqb hqx hqy
    have tc : decide (0 < cmpZ ((ST.qsum X Y : Nat) - 1 : Int) 20000) = true := by
      unfold cmpZ
      rw [if_neg (by omega), if_pos (by omega)]
      rfl
    clear h1 h2
    go_wp2_with fail
    refine (F_any 9 0 _).mono ?_
    rintro e w5 ⟨rfl, k5⟩
    have H5 : Hid (Sv b1 x y w5 ∧ Sv b4 9 0 w5 ∧ Sv b5 0 0 w5 ∧ Below w.heap.size w w5) := ⟨HK.out.1.below k5, HK.out.2.1.below k5, HK.out.2.2.1.below k5, HK.out.2.2.2.trans (k5.mono HK.out.2.2.2.size)⟩
    clear k5 HK
    obtain ⟨W6, hW6⟩ : ∃ W, W = (w5.setCell ⟨b5, 0, none⟩ (.int .i64 9)).setCell ⟨b5, 1, none⟩ (.int .i64 0) := ⟨_, rfl⟩
    have HK : Hid (Sv b1 x y W6 ∧ Sv b4 9 0 W6 ∧ Sv b5 9 0 W6 ∧ Below w.heap.size w W6) := by
      show _ ∧ _
      rw [hW6]
      exact ⟨H5.out.1.other _ _ (Ne.symm HN.out.1), H5.out.2.1.other _ _ (Ne.symm HN.out.2.1), H5.out.2.2.1.set 9 0, (H5.out.2.2.2.setCell HN.out.2.2 _).setCell HN.out.2.2 _⟩
    have p0 := H5.out.2.2.1.c0
    have p1 := H5.out.2.2.1.c1
    have p2 := H5.out.2.2.1.f0
    have p3 := H5.out.2.2.1.f1
    go_wp2_with fail
    rw [← hW6]
    clear hW6 p0 p1 p2 p3 H5
    refine (HBg.out _ HK.out.2.2.2).mono ?_
    rintro e w7 ⟨rfl, k7⟩
    have HK7 : Hid (Sv b1 x y w7 ∧ Sv b4 9 0 w7 ∧ Sv b5 9 0 w7 ∧ Below w.heap.size w w7) := ⟨HK.out.1.below k7, HK.out.2.1.below k7, HK.out.2.2.1.below k7, HK.out.2.2.2.trans (k7.mono HK.out.2.2.2.size)⟩
    have q0 := HK7.out.1.c0
    have q1 := HK7.out.1.c1
    have q2 := HK7.out.2.1.c0
    have q3 := HK7.out.2.1.c1
    have q4 := HK7.out.2.2.1.c0
    have q5 := HK7.out.2.2.1.c1
    clear k7 HK
    go_wp2_with fail
    clear q0 q1 q2 q3 q4 q5
    refine (HNd.out w7).mono ?_
    rintro e w8 ⟨ux, uy, fc, fd, rfl, hnd, k8⟩
    have HND : Hid (NdIs P ux uy fc fd) := hnd
    have K8 : Hid (Sv b4 9 0 w8 ∧ Sv b5 9 0 w8 ∧ Below w.heap.size w w8) := ⟨HK7.out.2.1.below k8, HK7.out.2.2.1.below k8, HK7.out.2.2.2.trans (k8.mono HK7.out.2.2.2.size)⟩
    have n45 : b4 ≠ b5 := HN.out.2.1
    have n54 : b5 ≠ b4 := fun e => HN.out.2.1 e.symm
    clear k8 HK7 hnd
    obtain ⟨b12, hb12⟩ : ∃ b, b = w8.heap.size := ⟨_, rfl⟩
    obtain ⟨W9, hW9⟩ : ∃ W, W = ((((w8.setCell ⟨b4, 0, none⟩ (.int .i64 fc)).setCell ⟨b4, 1, none⟩ (.int .i64 fd)).setCell ⟨b5, 0, none⟩ (.int .i64 0)).setCell ⟨b5, 1, none⟩ (.int .i64 0)).alloc (.cells #[.int .i64 ux, .int .i64 uy] 23) := ⟨_, rfl⟩
    have K9 : Hid (Sv b4 fc fd W9 ∧ Sv b5 0 0 W9 ∧ Sv b12 ux uy W9 ∧ Below w.heap.size w W9) := by
      have h1 := ((((K8.out.2.2.setCell (p := ⟨b4, 0, none⟩) HB4.out (.int .i64 fc)).setCell (p := ⟨b4, 1, none⟩) HB4.out (.int .i64 fd)).setCell (p := ⟨b5, 0, none⟩) HN.out.2.2 (.int .i64 0)).setCell (p := ⟨b5, 1, none⟩) HN.out.2.2 (.int .i64 0))
      have h2 := Sv.newT ux uy ((((w8.setCell ⟨b4, 0, none⟩ (.int .i64 fc)).setCell ⟨b4, 1, none⟩ (.int .i64 fd)).setCell ⟨b5, 0, none⟩ (.int .i64 0)).setCell ⟨b5, 1, none⟩ (.int .i64 0)) 23
      simp only [World.size_setCell] at h2
      show _ ∧ _
      rw [hW9, hb12]
      exact ⟨((K8.out.1.set fc fd).other _ _ n54).alloc _ _, ((K8.out.2.1.other _ _ n45).set 0 0).alloc _ _, h2, h1.alloc h1.size _⟩
    have r0 := K8.out.1.c0
    have r1 := K8.out.1.c1
    have r2 := K8.out.1.f0
    have r3 := K8.out.1.f1
    have r4 := K8.out.2.1.c0
    have r5 := K8.out.2.1.c1
    have r6 := K8.out.2.1.f0
    have r7 := K8.out.2.1.f1
    have r8 := K8.out.1.lt
    have r9 := K8.out.2.1.lt
    have n12 : b12 ≠ b5 := by omega
    have n13 : b5 ≠ b12 := by omega
    clear K8
    rcases TR.three P with hT | ⟨hT, hT2⟩ | ⟨hT, i0, hi0, hT2, hT3⟩
    · have tn : decide (20000 < (pn : Int)) = true := decide_eq_true (by have := HPS.out.2; omega)
      have tn2 : decide (20000 < pn) = true := decide_eq_true (by have := HPS.out.2; omega)
      have HE : Hid (fc = 2 ∧ fd = 0 ∧ ux = 0 ∧ uy = 0) := by
        rcases HND.out with ⟨_, h2, h3, h4⟩ | ⟨h1, _⟩
        · rw [TR.tf_long hT] at h2
          obtain ⟨h5, h6⟩ := Prod.mk.inj h2
          exact ⟨h5, h6, h3, h4⟩
        · omega
      have hp0 : decide (0 < (pn : Int)) = true := decide_eq_true (by have := HPS.out.2; omega)
      have hp1 : 0 < pn := by have := HPS.out.2; omega
      clear hT HND
      obtain ⟨rfl, rfl, rfl, rfl⟩ := HE.out
      go_wp2_with fail
      rw [← hW9]
      simp only [← hb12]
      clear hW9 hb12 r0 r1 r2 r3 r4 r5 r6 r7 r8 r9 HE
      refine (F_any 2 0 _).mono ?_
      rintro e wa ⟨rfl, ka⟩
      have KA : Hid (Sv b4 2 0 wa ∧ Sv b5 0 0 wa ∧ Sv b12 0 0 wa ∧ Below w.heap.size w wa) := ⟨K9.out.1.below ka, K9.out.2.1.below ka, K9.out.2.2.1.below ka, K9.out.2.2.2.trans (ka.mono K9.out.2.2.2.size)⟩
      clear ka K9
      have K10 : Hid (Sv b4 2 0 ((wa.setCell ⟨b5, 0, none⟩ (.int .i64 2)).setCell ⟨b5, 1, none⟩ (.int .i64 0)) ∧ Sv b5 2 0 ((wa.setCell ⟨b5, 0, none⟩ (.int .i64 2)).setCell ⟨b5, 1, none⟩ (.int .i64 0)) ∧ Sv b12 0 0 ((wa.setCell ⟨b5, 0, none⟩ (.int .i64 2)).setCell ⟨b5, 1, none⟩ (.int .i64 0)) ∧ Below w.heap.size w ((wa.setCell ⟨b5, 0, none⟩ (.int .i64 2)).setCell ⟨b5, 1, none⟩ (.int .i64 0))) :=
        ⟨KA.out.1.other _ _ n54, KA.out.2.1.set _ _, KA.out.2.2.1.other _ _ n13, (KA.out.2.2.2.setCell HN.out.2.2 _).setCell HN.out.2.2 _⟩
      have q0 := KA.out.2.1.c0
      have q1 := KA.out.2.1.c1
      have q2 := KA.out.2.1.f0
      have q3 := KA.out.2.1.f1
      have q4 := KA.out.2.1.lt
      clear KA
      go_wp2
      clear q0 q1 q2 q3 q4
      go_loopg [13] 0 (fun gk iv wx => iv = .int .i64 0 ∧ Hid (gk = 0 ∧ Sv b4 2 0 wx ∧ Sv b5 2 0 wx ∧ Sv b12 0 0 wx ∧ Below w.heap.size w wx))
      case atStart => exact ⟨rfl, rfl, K10.out⟩
      case round =>
        clear K10
        obtain ⟨rfl, HR⟩ := hrel
        have q0 := HR.out.2.1.c0
        have q1 := HR.out.2.1.c1
        have q2 := HR.out.2.2.1.c0
        have q3 := HR.out.2.2.1.c1
        have q4 := HR.out.2.2.2.1.c0
        have q5 := HR.out.2.2.2.1.c1
        have HK : Hid (Below w.heap.size w wr) := HR.out.2.2.2.2
        clear HR
        go_wp2
        go_ret
        exact ⟨rfl, HK.out⟩
    · have tn : decide (20000 < (pn : Int)) = false := decide_eq_false (by have := HPS.out.2; omega)
      have tn2 : decide (20000 < pn) = false := decide_eq_false (by have := HPS.out.2; omega)
      have HWd : Hid (WdOut (TR.steps P) ux uy fc fd) := by
        rcases HND.out with ⟨h1, _⟩ | ⟨_, _, h2⟩
        · rw [TR.tf_ok hT hT2] at h1; exact absurd rfl h1
        · exact h2
      have HWk : Hid (∀ W, Calls Tryz.prog 19 #[.string PS] W fun e w' => WkOut W w' (TR.steps P) e) := fun W => by
        have h := Walked_any (TR.steps P) W (by unfold TR.steps; rw [List.length_map]; omega)
        rw [TR.steps_back hT2, ← HPS.out.1] at h
        exact h
      have HT : Hid (P.length ≤ 20000 ∧ ∀ c ∈ P, TR.okb c = true) := ⟨hT, hT2⟩
      clear hT hT2 HND
      go_wp2
      rw [← hW9]
      simp only [← hb12]
      clear hW9 hb12 r0 r1 r2 r3 r4 r5 r6 r7 r8 r9
      go_loopg [13] pn (fun gk iv wx => ∃ i : Nat, iv = .int .i64 (i : Int) ∧ Hid (gk = pn - i ∧ i ≤ pn ∧ Sv b4 fc fd wx ∧ Sv b5 0 0 wx ∧ Sv b12 ux uy wx ∧ Below w.heap.size w wx))
      case atStart => exact ⟨0, rfl, by omega, by omega, K9.out⟩
      case round =>
        clear K9
        obtain ⟨i, rfl, HR⟩ := hrel
        obtain ⟨h1, h2, h3⟩ := HR.out
        have HG : Hid (gk = pn - i) := h1
        have HK : Hid (Sv b4 fc fd wr ∧ Sv b5 0 0 wr ∧ Sv b12 ux uy wr ∧ Below w.heap.size w wr) := h3
        have q2 := h3.2.1.c0
        have q3 := h3.2.1.c1
        clear HR h1 h3
        by_cases hi : i < pn
        · have ti : decide ((i : Int) < (pn : Int)) = true := decide_eq_true (by omega)
          have xi : (i : Int) < (pn : Int) := by omega
          have xi2 : i < PS.size := by omega
          have hil : i < P.length := by rw [← HPS.out.2]; exact hi
          have tz := HPX.out i xi2 hil
          have hok := HT.out.2 _ (List.getElem_mem hil)
          have hcase : ((P[i]'hil).toNat : Int) = 76 ∨ ((P[i]'hil).toNat : Int) = 82 := by
            unfold TR.okb at hok
            rw [Bool.or_eq_true, beq_iff_eq, beq_iff_eq] at hok
            rcases hok with h | h
            · left; rw [h]; rfl
            · right; rw [h]; rfl
          rw [← tz] at hcase
          clear tz hok
          rcases hcase with tz | tz
          · have tz2 : ∀ h : i < PS.size, (((PS[i]'h).toNat : Nat) : Int) = 76 := fun _ => tz
            have tz3 : ∀ h : i < PS.size, (PS[i]'h).toNat = 76 := fun h => by have := tz2 h; omega
            clear tz
            go_wp2
            go_roundg (pn - (i + 1))
            case rel => exact ⟨i + 1, by go_num, rfl, by omega, HK.out⟩
            case measure => have := HG.out; omega
          · have tz2 : ∀ h : i < PS.size, (((PS[i]'h).toNat : Nat) : Int) = 82 := fun _ => tz
            have u1 : ∀ h : i < PS.size, ((((PS[i]'h).toNat : Nat) : Int) != 76) = true := fun h => by rw [tz2 h]; rfl
            have u2 : ∀ h : i < PS.size, ((((PS[i]'h).toNat : Nat) : Int) != 82) = false := fun h => by rw [tz2 h]; rfl
            clear tz2 tz
            go_wp2
            go_roundg (pn - (i + 1))
            case rel => exact ⟨i + 1, by go_num, rfl, by omega, HK.out⟩
            case measure => have := HG.out; omega
        · have ti : decide ((i : Int) < (pn : Int)) = false := decide_eq_false (by omega)
          clear h2
          go_wp2_with fail
          refine (HWk.out wr).mono ?_
          rintro e w5 ⟨hwk, k5⟩
          have K5 : Hid (Sv b4 fc fd w5 ∧ Sv b12 ux uy w5 ∧ Below w.heap.size w w5) := ⟨HK.out.1.below k5, HK.out.2.2.1.below k5, HK.out.2.2.2.trans (k5.mono HK.out.2.2.2.size)⟩
          clear HK q2 q3 k5
          rcases hwk with ⟨j, hj1, hj2, hj3, rfl⟩ | ⟨hj, pa, pb, rfl, hba, hbb⟩
          · have HE : Hid (fc = 9 ∧ fd = (j : Int) ∧ ux = 0 ∧ uy = 0) := by
              rcases HWd.out with ⟨k, _, g2, g3, g4, g5, g6, g7⟩ | ⟨g1, _⟩
              · have := TR.near_uniq hj2 hj3 g2 g3
                exact ⟨g6, by rw [g7, this], g4, g5⟩
              · exact absurd (g1 j hj1) hj3
            have tj : decide ((0 : Int) ≤ (j : Int)) = true := decide_eq_true (by omega)
            clear hj1 hj2 hj3 HWd
            obtain ⟨rfl, rfl, rfl, rfl⟩ := HE.out
            have HR5 : Hid (∀ W, Below w5.heap.size w5 W → (W.cell? ⟨b4, 0, none⟩ = some (.int .i64 9) ∧ W.cell? ⟨b4, 1, none⟩ = some (.int .i64 (j : Int))) ∧ W.cell? ⟨b12, 0, none⟩ = some (.int .i64 0) ∧ W.cell? ⟨b12, 1, none⟩ = some (.int .i64 0)) := fun W kk => ⟨⟨(K5.out.1.below kk).c0, (K5.out.1.below kk).c1⟩, (K5.out.2.1.below kk).c0, (K5.out.2.1.below kk).c1⟩
            go_wp2_with fail
            refine wp_region_G (fun W => (W.cell? ⟨b4, 0, none⟩ = some (.int .i64 9) ∧ W.cell? ⟨b4, 1, none⟩ = some (.int .i64 (j : Int))) ∧ W.cell? ⟨b12, 0, none⟩ = some (.int .i64 0) ∧ W.cell? ⟨b12, 1, none⟩ = some (.int .i64 0)) 9 (by kernel_rfl) (HR5.out _ (Below.refl _ _).drew) (fun hHeld => ?_)
            refine wpAnyG_take (i := 0) (v := ?v0x25) rfl (by kernel_rfl) (fun _ _ _ h => h) (Or.inl ⟨by rfl, ?y0x25⟩) hHeld ?r0x25
            case y0x25 => (intro wS hSw; obtain ⟨⟨s1, s2⟩, s3, s4⟩ := hSw; go_simp; try with_reducible rfl)
            simp only [Act.put, List.getElem_toArray, List.getElem_cons_zero, List.getElem_cons_succ, List.setIfInBounds_toArray, List.set_cons_zero, List.set_cons_succ]
            refine wpAnyG_take (i := 1) (v := ?v1x26) rfl (by kernel_rfl) (fun _ _ _ h => h) (Or.inl ⟨by rfl, ?y1x26⟩) hHeld ?r1x26
            case y1x26 => (intro wS hSw; obtain ⟨⟨s1, s2⟩, s3, s4⟩ := hSw; go_simp; try with_reducible rfl)
            simp only [Act.put, List.getElem_toArray, List.getElem_cons_zero, List.getElem_cons_succ, List.setIfInBounds_toArray, List.set_cons_zero, List.set_cons_succ]
            refine wpAnyG_one (i := 2) rfl (by kernel_rfl) (fun K hK => ?_)
            go_simp
            refine (F_any 9 (j : Int) _).mono ?_
            rintro e w6 ⟨rfl, k6⟩
            have HK6 : Hid (Below w5.heap.size w5 w6) := (Below.refl _ _).drew.trans k6
            clear k6
            refine hK.out _ _ (HR5.out _ HK6.out) ?_
            clear hK K hHeld
            have hHeld := HR5.out _ HK6.out
            refine wpAnyG_take (i := 3) (v := .bool true) rfl (by kernel_rfl) (fun _ _ _ h => h) (Or.inl ⟨by kernel_rfl, ?y3x27⟩) hHeld ?r3x27
            case y3x27 => (intro wS hSw; (go_simp))
            simp only [Act.put, List.getElem_toArray, List.getElem_cons_zero, List.getElem_cons_succ, List.setIfInBounds_toArray, List.set_cons_zero, List.set_cons_succ]
            refine wpAnyG_take (i := 4) (v := .bool true) rfl (by kernel_rfl) (fun _ _ _ h => h) (Or.inl ⟨by kernel_rfl, ?y4x28⟩) hHeld ?r4x28
            case y4x28 => (intro wS hSw; (go_simp))
            simp only [Act.put, List.getElem_toArray, List.getElem_cons_zero, List.getElem_cons_succ, List.setIfInBounds_toArray, List.set_cons_zero, List.set_cons_succ]
            refine wpAnyG_take (i := 5) (v := .agg #[.int .i64 0, .int .i64 0]) rfl (by kernel_rfl) (fun _ _ _ h => h) (Or.inl ⟨by kernel_rfl, ?y5x29⟩) hHeld ?r5x29
            case y5x29 => (intro wS hSw; (obtain ⟨⟨s1, s2⟩, s3, s4⟩ := hSw; go_simp))
            simp only [Act.put, List.getElem_toArray, List.getElem_cons_zero, List.getElem_cons_succ, List.setIfInBounds_toArray, List.set_cons_zero, List.set_cons_succ]
            refine wpAnyG_take (i := 6) (v := ?v6x30) rfl (by kernel_rfl) (fun _ _ _ h => h) (Or.inl ⟨by kernel_rfl, ?y6x30⟩) hHeld ?r6x30
            case y6x30 => (intro wS hSw; have s1 := hSw; go_simp; try with_reducible rfl)
            simp only [Act.put, List.getElem_toArray, List.getElem_cons_zero, List.getElem_cons_succ, List.setIfInBounds_toArray, List.set_cons_zero, List.set_cons_succ]
            refine wpAnyG_take (i := 7) (v := .bool true) rfl (by kernel_rfl) (fun _ _ _ h => h) (Or.inl ⟨by kernel_rfl, ?y7x31⟩) hHeld ?r7x31
            case y7x31 => (intro wS hSw; (go_simp))
            simp only [Act.put, List.getElem_toArray, List.getElem_cons_zero, List.getElem_cons_succ, List.setIfInBounds_toArray, List.set_cons_zero, List.set_cons_succ]
            refine wpAnyG_take (i := 8) (v := .bool true) rfl (by kernel_rfl) (fun _ _ _ h => h) (Or.inl ⟨by kernel_rfl, ?y8x32⟩) hHeld ?r8x32
            case y8x32 => (intro wS hSw; (go_simp))
            simp only [Act.put, List.getElem_toArray, List.getElem_cons_zero, List.getElem_cons_succ, List.setIfInBounds_toArray, List.set_cons_zero, List.set_cons_succ]
            refine wpAnyG_last (i := 9) rfl (by kernel_rfl) (by kernel_rfl) (fun K hK => ?_)
            go_simp
            refine hK.out _ _ ?_
            clear hK K
            refine wpAnyG_done (by kernel_rfl) ?_ _
            clear hHeld
            go_wp2
            go_ret
            exact ⟨rfl, K5.out.2.2.trans (HK6.out.mono K5.out.2.2.size)⟩
          · obtain ⟨X9, hX9⟩ : ∃ X, X = (ST.nd (TR.steps P)).1 := ⟨_, rfl⟩
            obtain ⟨Y9, hY9⟩ : ∃ Y, Y = (ST.nd (TR.steps P)).2 := ⟨_, rfl⟩
            have hnb := TR.of_near hj
            have hpb := TR.path_back (l := TR.steps P) (by unfold TR.steps; rw [List.length_map]; exact HT.out.1) hnb
            rw [TR.steps_back HT.out.2, ← HPS.out.1] at hpb
            have HE : Hid (fc = 0 ∧ fd = 0 ∧ ux = (X9 : Int) ∧ uy = (Y9 : Int)) := by
              rcases HWd.out with ⟨k, g0, g2, g3, _⟩ | ⟨_, g2, g3, g4, g5⟩
              · exact absurd (hj k g0) g3
              · exact ⟨g4, g5, by rw [g2, hX9], by rw [g3, hY9]⟩
            rw [← hX9, ← hY9] at hpb hnb
            rw [← hX9] at hba
            rw [← hY9] at hbb
            have HBg2 : Hid (BigAt w5 pa (X9 : Int) ∧ BigAt w5 pb (Y9 : Int)) := ⟨hba, hbb⟩
            have HPb : Hid (∀ W, Calls Tryz.prog 15 #[.agg #[.int .i64 (X9 : Int), .int .i64 (Y9 : Int)]] W fun e w' => e = .returned (.tuple #[.string PS, .agg #[.int .i64 0, .int .i64 0]]) ∧ Below W.heap.size W w') := fun W => by
              have h := HPa.out (X9 : Int) (Y9 : Int) W
              rw [hpb.1, hpb.2] at h
              exact h
            have hx9 := hnb.1
            have hy9 := hnb.2
            clear hj hba hbb hpb HWd hX9 hY9 hnb
            obtain ⟨rfl, rfl, rfl, rfl⟩ := HE.out
            have q0 := K5.out.1.c0
            have q1 := K5.out.1.c1
            have q2 := K5.out.2.1.c0
            have q3 := K5.out.2.1.c1
            go_wp2_with fail
            clear q0 q1 q2 q3
            refine (B_any (X9 : Int) _ (by omega) (by omega)).mono ?_
            rintro e w6 ⟨bt, rfl, m6⟩
            have K6 : Hid (Sv b4 0 0 w6 ∧ Sv b12 X9 Y9 w6 ∧ Below w.heap.size w w6 ∧ BigAt w6 pa (X9 : Int) ∧ BigAt w6 pb (Y9 : Int) ∧ BigAt w6 bt (X9 : Int)) := ⟨K5.out.1.below m6.2.2, K5.out.2.1.below m6.2.2, K5.out.2.2.trans (m6.2.2.mono K5.out.2.2.size), HBg2.out.1.below m6.2.2 (Nat.le_refl _), HBg2.out.2.below m6.2.2 (Nat.le_refl _), m6.2.1⟩
            clear m6 K5 HBg2
            go_wp2_with fail
            refine (Cmp_any pa bt _ _ 3 3 w6 K6.out.2.2.2.1 K6.out.2.2.2.2.2 (Nat.lt_of_le_of_lt (show _ ≤ 2000000000000000001 by omega) (by decide +kernel)) (Nat.lt_of_le_of_lt (show _ ≤ 2000000000000000001 by omega) (by decide +kernel)) (by omega) (by omega)).mono ?_
            rintro e w7 ⟨rfl, q7, hq7⟩
            have tc1 : cmpZ (X9 : Int) (X9 : Int) = 0 := by unfold cmpZ; rw [if_neg (by omega), if_neg (by omega)]
            rw [tc1]
            clear tc1
            have K7 : Hid (Sv b4 0 0 w7 ∧ Sv b12 X9 Y9 w7 ∧ Below w.heap.size w w7 ∧ BigAt w7 pb (Y9 : Int)) := by
              have k : Below w6.heap.size w6 w7 := by rw [hq7]; exact below_drewN' (Below.refl _ _)
              exact ⟨K6.out.1.below k, K6.out.2.1.below k, K6.out.2.2.1.trans (k.mono K6.out.2.2.1.size), K6.out.2.2.2.2.1.below k (Nat.le_refl _)⟩
            clear hq7 K6
            have q2 := K7.out.2.1.c0
            have q3 := K7.out.2.1.c1
            go_wp2_with fail
            clear q2 q3
            refine (B_any (Y9 : Int) _ (by omega) (by omega)).mono ?_
            rintro e w6 ⟨bu, rfl, m6⟩
            have K6 : Hid (Sv b4 0 0 w6 ∧ Sv b12 X9 Y9 w6 ∧ Below w.heap.size w w6 ∧ BigAt w6 pb (Y9 : Int) ∧ BigAt w6 bu (Y9 : Int)) := ⟨K7.out.1.below m6.2.2, K7.out.2.1.below m6.2.2, K7.out.2.2.1.trans (m6.2.2.mono K7.out.2.2.1.size), K7.out.2.2.2.below m6.2.2 (Nat.le_refl _), m6.2.1⟩
            clear m6 K7
            go_wp2_with fail
            refine (Cmp_any pb bu _ _ 3 3 w6 K6.out.2.2.2.1 K6.out.2.2.2.2 (Nat.lt_of_le_of_lt (show _ ≤ 2000000000000000001 by omega) (by decide +kernel)) (Nat.lt_of_le_of_lt (show _ ≤ 2000000000000000001 by omega) (by decide +kernel)) (by omega) (by omega)).mono ?_
            rintro e w7 ⟨rfl, q7, hq7⟩
            have tc1 : cmpZ (Y9 : Int) (Y9 : Int) = 0 := by unfold cmpZ; rw [if_neg (by omega), if_neg (by omega)]
            rw [tc1]
            clear tc1
            have K7 : Hid (Sv b4 0 0 w7 ∧ Sv b12 X9 Y9 w7 ∧ Below w.heap.size w w7) := by
              have k : Below w6.heap.size w6 w7 := by rw [hq7]; exact below_drewN' (Below.refl _ _)
              exact ⟨K6.out.1.below k, K6.out.2.1.below k, K6.out.2.2.1.trans (k.mono K6.out.2.2.1.size)⟩
            clear hq7 K6
            have q2 := K7.out.2.1.c0
            have q3 := K7.out.2.1.c1
            go_wp2_with fail
            clear q2 q3
            refine (HPb.out _).mono ?_
            rintro e w9 ⟨rfl, k9⟩
            have K11 : Hid (Sv b4 0 0 w9 ∧ Below w.heap.size w w9) := ⟨K7.out.1.below k9, K7.out.2.2.trans (k9.mono K7.out.2.2.size)⟩
            clear k9 K7 HPb
            have q0 := K11.out.1.c0
            have q1 := K11.out.1.c1
            have q2 := K11.out.1.f0
            have q3 := K11.out.1.f1
            have q4 := K11.out.1.lt
            go_wp2
            go_ret
            exact ⟨rfl, (K11.out.2.setCell HB4.out _).setCell HB4.out _⟩
    · have tn : decide (20000 < (pn : Int)) = false := decide_eq_false (by have := HPS.out.2; omega)
      have tn2 : decide (20000 < pn) = false := decide_eq_false (by have := HPS.out.2; omega)
      have HE : Hid (fc = 1 ∧ fd = (i0 : Int) ∧ ux = 0 ∧ uy = 0) := by
        rcases HND.out with ⟨_, h2, h3, h4⟩ | ⟨_, h1, _⟩
        · rw [TR.tf_bad hT hi0 hT2 hT3] at h2
          obtain ⟨h5, h6⟩ := Prod.mk.inj h2
          exact ⟨h5, h6, h3, h4⟩
        · have := h1 _ (List.getElem_mem hi0)
          rw [hT3] at this
          exact absurd this (by decide)
      have hi0n : i0 < pn := by rw [HPS.out.2]; exact hi0
      have hi0k : i0 ≤ 20000 := by omega
      have HT : Hid ((∀ j (hj : j < i0), TR.okb (P[j]'(by omega)) = true) ∧ TR.okb (P[i0]'hi0) = false) := ⟨hT2, hT3⟩
      clear hT hT2 hT3 HND
      obtain ⟨rfl, rfl, rfl, rfl⟩ := HE.out
      go_wp2
      rw [← hW9]
      simp only [← hb12]
      clear hW9 hb12 r0 r1 r2 r3 r4 r5 r6 r7 r8 r9 HE
      go_loopg [13] (i0 + 2) (fun gk iv wx => ∃ (i : Nat) (c5 d5 : Int), iv = .int .i64 (i : Int) ∧ Hid (gk = i0 + 2 - i ∧ ((i ≤ i0 ∧ c5 = 0 ∧ d5 = 0) ∨ (i = i0 + 1 ∧ c5 = 1 ∧ d5 = (i0 : Int))) ∧ Sv b4 1 (i0 : Int) wx ∧ Sv b5 c5 d5 wx ∧ Sv b12 0 0 wx ∧ Below w.heap.size w wx))
      case atStart => exact ⟨0, 0, 0, rfl, by omega, .inl ⟨by omega, rfl, rfl⟩, K9.out⟩
      case round =>
        clear K9
        obtain ⟨i, c5, d5, rfl, HR⟩ := hrel
        obtain ⟨h1, h2, h3⟩ := HR.out
        have HG : Hid (gk = i0 + 2 - i) := h1
        have HK : Hid (Sv b4 1 (i0 : Int) wr ∧ Sv b5 c5 d5 wr ∧ Sv b12 0 0 wr ∧ Below w.heap.size w wr) := h3
        clear HR h1 h3
        rcases h2 with ⟨hi, rfl, rfl⟩ | ⟨rfl, rfl, rfl⟩
        · have ti : decide ((i : Int) < (pn : Int)) = true := decide_eq_true (by omega)
          have xi : (i : Int) < (pn : Int) := by omega
          have xi2 : i < PS.size := by omega
          have hil : i < P.length := by rw [← HPS.out.2]; omega
          have tz := HPX.out i xi2 hil
          have q2 := HK.out.2.1.c0
          have q3 := HK.out.2.1.c1
          by_cases hlt : i < i0
          · have hok := HT.out.1 i hlt
            have hcase : ((P[i]'hil).toNat : Int) = 76 ∨ ((P[i]'hil).toNat : Int) = 82 := by
              unfold TR.okb at hok
              rw [Bool.or_eq_true, beq_iff_eq, beq_iff_eq] at hok
              rcases hok with h | h
              · left; rw [h]; rfl
              · right; rw [h]; rfl
            rw [← tz] at hcase
            clear tz hok
            rcases hcase with tz | tz
            · have tz2 : ∀ h : i < PS.size, (((PS[i]'h).toNat : Nat) : Int) = 76 := fun _ => tz
              have tz3 : ∀ h : i < PS.size, (PS[i]'h).toNat = 76 := fun h => by have := tz2 h; omega
              clear tz
              go_wp2
              go_roundg (i0 + 2 - (i + 1))
              case rel => exact ⟨i + 1, 0, 0, by go_num, rfl, .inl ⟨by omega, rfl, rfl⟩, HK.out⟩
              case measure => have := HG.out; omega
            · have tz2 : ∀ h : i < PS.size, (((PS[i]'h).toNat : Nat) : Int) = 82 := fun _ => tz
              have u1 : ∀ h : i < PS.size, ((((PS[i]'h).toNat : Nat) : Int) != 76) = true := fun h => by rw [tz2 h]; rfl
              have u2 : ∀ h : i < PS.size, ((((PS[i]'h).toNat : Nat) : Int) != 82) = false := fun h => by rw [tz2 h]; rfl
              clear tz2 tz
              go_wp2
              go_roundg (i0 + 2 - (i + 1))
              case rel => exact ⟨i + 1, 0, 0, by go_num, rfl, .inl ⟨by omega, rfl, rfl⟩, HK.out⟩
              case measure => have := HG.out; omega
          · obtain rfl : i = i0 := by omega
            have hno := HT.out.2
            have hcase : ((P[i]'hil).toNat : Int) ≠ 76 ∧ ((P[i]'hil).toNat : Int) ≠ 82 := by
              unfold TR.okb at hno
              rw [Bool.or_eq_false_iff, beq_eq_false_iff_ne, beq_eq_false_iff_ne] at hno
              refine ⟨fun h => hno.1 ?_, fun h => hno.2 ?_⟩
              · apply UInt8.toNat_inj.1; exact_mod_cast h
              · apply UInt8.toNat_inj.1; exact_mod_cast h
            rw [← tz] at hcase
            have u1 : ∀ h : i < PS.size, ((((PS[i]'h).toNat : Nat) : Int) != 76) = true := fun h => by simpa using hcase.1
            have u2 : ∀ h : i < PS.size, ((((PS[i]'h).toNat : Nat) : Int) != 82) = true := fun h => by simpa using hcase.2
            have u3 : ∀ h : i < PS.size, ¬ (PS[i]'h).toNat = 76 := fun h e => hcase.1 (by exact_mod_cast e)
            have u4 : ∀ h : i < PS.size, ¬ (PS[i]'h).toNat = 82 := fun h e => hcase.2 (by exact_mod_cast e)
            clear tz hno hcase hlt
            go_wp2_with fail
            refine (F_any 1 (i : Int) _).mono ?_
            rintro e wa ⟨rfl, ka⟩
            have KA : Hid (Sv b4 1 (i : Int) wa ∧ Sv b5 0 0 wa ∧ Sv b12 0 0 wa ∧ Below w.heap.size w wa) := ⟨HK.out.1.below ka, HK.out.2.1.below ka, HK.out.2.2.1.below ka, HK.out.2.2.2.trans (ka.mono HK.out.2.2.2.size)⟩
            clear ka HK q2 q3
            have K10 : Hid (Sv b4 1 (i : Int) ((wa.setCell ⟨b5, 0, none⟩ (.int .i64 1)).setCell ⟨b5, 1, none⟩ (.int .i64 (i : Int))) ∧ Sv b5 1 (i : Int) ((wa.setCell ⟨b5, 0, none⟩ (.int .i64 1)).setCell ⟨b5, 1, none⟩ (.int .i64 (i : Int))) ∧ Sv b12 0 0 ((wa.setCell ⟨b5, 0, none⟩ (.int .i64 1)).setCell ⟨b5, 1, none⟩ (.int .i64 (i : Int))) ∧ Below w.heap.size w ((wa.setCell ⟨b5, 0, none⟩ (.int .i64 1)).setCell ⟨b5, 1, none⟩ (.int .i64 (i : Int)))) :=
              ⟨KA.out.1.other _ _ n54, KA.out.2.1.set _ _, KA.out.2.2.1.other _ _ n13, (KA.out.2.2.2.setCell HN.out.2.2 _).setCell HN.out.2.2 _⟩
            have q0 := KA.out.2.1.c0
            have q1 := KA.out.2.1.c1
            have q2 := KA.out.2.1.f0
            have q3 := KA.out.2.1.f1
            have q4 := KA.out.2.1.lt
            clear KA
            go_wp2
            go_roundg (i + 2 - (i + 1))
            case rel => exact ⟨i + 1, 1, (i : Int), by go_num, rfl, .inr ⟨rfl, rfl, rfl⟩, K10.out⟩
            case measure => have := HG.out; omega
        · obtain ⟨i1, hi1⟩ : ∃ i1, i1 = i0 + 1 := ⟨_, rfl⟩
          rw [← hi1]
          have q0 := HK.out.1.c0
          have q1 := HK.out.1.c1
          have q2 := HK.out.2.1.c0
          have q3 := HK.out.2.1.c1
          have q4 := HK.out.2.2.1.c0
          have q5 := HK.out.2.2.1.c1
          by_cases hi : i1 < pn
          · have ti : decide ((i1 : Int) < (pn : Int)) = true := decide_eq_true (by omega)
            clear hi1
            go_wp2
            go_ret
            exact ⟨rfl, HK.out.2.2.2⟩
          · have ti : decide ((i1 : Int) < (pn : Int)) = false := decide_eq_false (by omega)
            clear hi1
            go_wp2
            go_ret
            exact ⟨rfl, HK.out.2.2.2⟩
  · clear HC
    have d1 : decide (x < 1) = false := decide_eq_false (by omega)
    have HS : Hid (S = pathS (ST.path x.toNat y.toNat)) := hS
    clear hS
    obtain ⟨X, hX⟩ : ∃ X : Nat, X = x.toNat := ⟨_, rfl⟩
    obtain ⟨Y, hY⟩ : ∃ Y : Nat, Y = y.toNat := ⟨_, rfl⟩
    rw [← hX, ← hY] at h2
    have HX : Hid (X ≤ 1000000000000000000 ∧ Y ≤ 1000000000000000000 ∧ x = (X : Int) ∧ y = (Y : Int)) := by have := HXY.out (by omega); exact ⟨by omega, by omega, by omega, by omega⟩
    have HSt : Hid (∀ W, Calls Tryz.prog 16 #[.agg #[.int .i64 x, .int .i64 y]] W fun e w' => ∃ b, e = .returned (.pointer (some ⟨b, 0, none⟩)) ∧ Stp W w' b ((ST.qsum X Y : Nat) - 1)) := fun W => by
      rw [HX.out.2.2.1, HX.out.2.2.2]
      exact Steps_any X Y W HX.out.1 HX.out.2.1
    have HXn : Hid (X = x.toNat ∧ Y = y.toNat) := ⟨hX, hY⟩
    clear hX hY
    go_wp2_with fail
    rw [← hW4]
    simp only [← hb5]
    clear hW4 hb5 p0 p1 p2
    refine (HSt.out _).mono ?_
    rintro e w5 ⟨bs, rfl, hs⟩
    have HK5 : Hid (Sv b1 x y w5 ∧ Sv b4 0 0 w5 ∧ Sv b5 0 0 w5 ∧ Below w.heap.size w w5 ∧ BigAt w5 bs ((ST.qsum X Y : Nat) - 1)) := ⟨HK.out.1.below hs.k, HK.out.2.1.below hs.k, HK.out.2.2.1.below hs.k, HK.out.2.2.2.trans (hs.k.mono HK.out.2.2.2.size), hs.s⟩
    clear hs HK
    go_wp2_with fail
    refine (B_any 20000 _ (by omega) (by omega)).mono ?_
    rintro e w6 ⟨bt, rfl, m6⟩
    have HK6 : Hid (Sv b1 x y w6 ∧ Sv b4 0 0 w6 ∧ Sv b5 0 0 w6 ∧ Below w.heap.size w w6 ∧ BigAt w6 bs ((ST.qsum X Y : Nat) - 1) ∧ BigAt w6 bt 20000) := ⟨HK5.out.1.below m6.2.2, HK5.out.2.1.below m6.2.2, HK5.out.2.2.1.below m6.2.2, HK5.out.2.2.2.1.trans (m6.2.2.mono HK5.out.2.2.2.1.size), HK5.out.2.2.2.2.below m6.2.2 (Nat.le_refl _), m6.2.1⟩
    clear m6 HK5
    have hqb := ST.qsum_le X Y
    have hqx := HX.out.1
    have hqy := HX.out.2.1
    go_wp2_with fail
    refine (Cmp_any bs bt _ _ 3 3 w6 HK6.out.2.2.2.2.1 HK6.out.2.2.2.2.2 (Nat.lt_of_le_of_lt (show _ ≤ 2000000000000000001 by omega) (by decide +kernel)) (by decide +kernel) (by omega) (by omega)).mono ?_
    rintro e w7 ⟨rfl, q7, hq7⟩
    have HK : Hid (Sv b1 x y w7 ∧ Sv b4 0 0 w7 ∧ Sv b5 0 0 w7 ∧ Below w.heap.size w w7) := by
      have k : Below w6.heap.size w6 w7 := by rw [hq7]; exact below_drewN' (Below.refl _ _)
      exact ⟨HK6.out.1.below k, HK6.out.2.1.below k, HK6.out.2.2.1.below k, HK6.out.2.2.2.1.trans (k.mono HK6.out.2.2.2.1.size)⟩
    clear hq7 HK6 hqb hqx hqy
    have tc : decide (0 < cmpZ ((ST.qsum X Y : Nat) - 1 : Int) 20000) = false := by
      unfold cmpZ
      split
      · rfl
      · rw [if_neg (by omega)]; rfl
    obtain ⟨l, hl⟩ : ∃ l, l = ST.path X Y := ⟨_, rfl⟩
    obtain ⟨n, hn⟩ : ∃ n, n = l.length := ⟨_, rfl⟩
    have HL : Hid (l = ST.path X Y ∧ n = l.length ∧ n ≤ 20000 ∧ ST.nd l = (X, Y) ∧ S = pathS l) := by
      have hg := HXg.out (by trivial)
      rw [HX.out.2.2.1, HX.out.2.2.2, Int.gcd_natCast_natCast] at hg
      have hX1 : 0 < X := by have := HX.out.2.2.1; omega
      have hY1 : 0 < Y := by have := (HXY.out (by trivial)).2.1; have := HX.out.2.2.2; omega
      have := ST.path_len hX1 hY1 hg
      refine ⟨hl, hn, by rw [hn, hl]; omega, by rw [hl]; exact ST.path_nd hX1 hY1 hg, by rw [hl, HS.out, HXn.out.1, HXn.out.2]⟩
    have hsz : S.size = n := by rw [HL.out.2.2.2.2, hn]; unfold pathS; simp [ByteArray.size]
    have HXb : Hid (∀ (i : Nat) (h : i < S.size) (h2 : i < l.length), (((S[i]'h).toNat : Nat) : Int) = if l[i]'h2 then 82 else 76) := fun i h h2 => by
      have : S[i]'h = if l[i]'h2 then (82 : UInt8) else 76 := by
        have e := HL.out.2.2.2.2
        subst e
        show (pathS l).data[i]'_ = _
        unfold pathS
        exact (List.getElem_toArray _).trans (List.getElem_map _)
      rw [this]
      split <;> rfl
    have hn5 : n ≤ 20000 := HL.out.2.2.1
    have HWk2 : Hid (∀ W, Calls Tryz.prog 19 #[.string S] W fun e w' => WkOut W w' l e) := fun W => by
      have h := Walked_any l W (by have := HL.out.2.1; have := HL.out.2.2.1; omega)
      rw [← HL.out.2.2.2.2] at h
      exact h
    clear h1 h2 hl hn
    go_wp2_with fail
    refine (HBg.out _ HK.out.2.2.2).mono ?_
    rintro e w7 ⟨rfl, k7⟩
    have HK7 : Hid (Sv b1 x y w7 ∧ Sv b4 0 0 w7 ∧ Sv b5 0 0 w7 ∧ Below w.heap.size w w7) := ⟨HK.out.1.below k7, HK.out.2.1.below k7, HK.out.2.2.1.below k7, HK.out.2.2.2.trans (k7.mono HK.out.2.2.2.size)⟩
    have q0 := HK7.out.1.c0
    have q1 := HK7.out.1.c1
    have q2 := HK7.out.2.1.c0
    have q3 := HK7.out.2.1.c1
    have q4 := HK7.out.2.2.1.c0
    have q5 := HK7.out.2.2.1.c1
    clear k7 HK
    clear HBg
    go_wp2
    clear q0 q1 q2 q3 q4 q5
    go_loopg [8] n (fun gk iv wx => ∃ i : Nat, iv = .int .i64 (i : Int) ∧ Hid (gk = n - i ∧ i ≤ n ∧ Sv b1 x y wx ∧ Sv b4 0 0 wx ∧ Sv b5 0 0 wx ∧ Below w.heap.size w wx))
    case atStart => exact ⟨0, rfl, rfl, by omega, HK7.out⟩
    case round =>
      clear HK7
      obtain ⟨i, rfl, HR⟩ := hrel
      obtain ⟨h1, h2, h3⟩ := HR.out
      have HK : Hid (gk = n - i) := h1
      have HK7 : Hid (Sv b1 x y wr ∧ Sv b4 0 0 wr ∧ Sv b5 0 0 wr ∧ Below w.heap.size w wr) := h3
      clear HR h1 h3
      by_cases hi : i < n
      · have ti : decide ((i : Int) < (n : Int)) = true := decide_eq_true (by omega)
        have xi : (i : Int) < (n : Int) := by omega
        have xi2 : i < S.size := by omega
        have tz := HXb.out i xi2 (by rw [← HL.out.2.1]; exact hi)
        obtain ⟨rb, hrb⟩ : ∃ r, r = l[i]'(by rw [← HL.out.2.1]; exact hi) := ⟨_, rfl⟩
        rw [← hrb] at tz
        clear hrb
        cases rb with
        | false =>
          have tz2 : ∀ h : i < S.size, (((S[i]'h).toNat : Nat) : Int) = 76 := fun _ => tz
          have tz3 : ∀ h : i < S.size, (S[i]'h).toNat = 76 := fun h => by have := tz2 h; omega
          clear tz
          go_wp2
          go_roundg (n - (i + 1))
          case rel => exact ⟨i + 1, by go_num, rfl, by omega, HK7.out⟩
          case measure => have := HK.out; omega
        | true =>
          have tz2 : ∀ h : i < S.size, (((S[i]'h).toNat : Nat) : Int) = 82 := fun _ => tz
          have u1 : ∀ h : i < S.size, ((((S[i]'h).toNat : Nat) : Int) != 76) = true := fun h => by rw [tz2 h]; rfl
          have u2 : ∀ h : i < S.size, ((((S[i]'h).toNat : Nat) : Int) != 82) = false := fun h => by rw [tz2 h]; rfl
          clear tz2
          clear tz
          go_wp2
          go_roundg (n - (i + 1))
          case rel => exact ⟨i + 1, by go_num, rfl, by omega, HK7.out⟩
          case measure => have := HK.out; omega
      · have ti : decide ((i : Int) < (n : Int)) = false := decide_eq_false (by omega)
        clear h2
        go_wp2_with fail
        refine (HWk2.out wr).mono ?_
        rintro e w5 ⟨hwk, k5⟩
        have K5 : Hid (Sv b1 x y w5 ∧ Sv b4 0 0 w5 ∧ Sv b5 0 0 w5 ∧ Below w.heap.size w w5) := ⟨HK7.out.1.below k5, HK7.out.2.1.below k5, HK7.out.2.2.1.below k5, HK7.out.2.2.2.trans (k5.mono HK7.out.2.2.2.size)⟩
        clear HK7 k5
        have hnd2 := HL.out.2.2.2.1
        have hXb := HX.out.1
        have hYb := HX.out.2.1
        have exX := HX.out.2.2.1
        have eyY := HX.out.2.2.2
        rcases hwk with ⟨j, hj1, hj2, hj3, rfl⟩ | ⟨hj, pa, pb, rfl, hba, hbb⟩
        · exact absurd (TR.near_of (by rw [hnd2]; exact ⟨hXb, hYb⟩) j) hj3
        rw [hnd2] at hba hbb
        have HBx : Hid (BigAt w5 pa x ∧ BigAt w5 pb y) := ⟨by rw [exX]; exact hba, by rw [eyY]; exact hbb⟩
        have hxa : x.natAbs ≤ 1000000000000000000 := by omega
        have hya : y.natAbs ≤ 1000000000000000000 := by omega
        clear hj hba hbb hnd2 exX eyY
        have q0 := K5.out.1.c0
        have q1 := K5.out.1.c1
        go_wp2_with fail
        clear q0 q1
        refine (B_any x _ (by omega) (by omega)).mono ?_
        rintro e w6 ⟨bt, rfl, m6⟩
        have K6 : Hid (Sv b1 x y w6 ∧ Sv b4 0 0 w6 ∧ Sv b5 0 0 w6 ∧ Below w.heap.size w w6 ∧ BigAt w6 pa x ∧ BigAt w6 pb y ∧ BigAt w6 bt x) := ⟨K5.out.1.below m6.2.2, K5.out.2.1.below m6.2.2, K5.out.2.2.1.below m6.2.2, K5.out.2.2.2.trans (m6.2.2.mono K5.out.2.2.2.size), HBx.out.1.below m6.2.2 (Nat.le_refl _), HBx.out.2.below m6.2.2 (Nat.le_refl _), m6.2.1⟩
        clear m6 K5 HBx
        go_wp2_with fail
        refine (Cmp_any pa bt _ _ 3 3 w6 K6.out.2.2.2.2.1 K6.out.2.2.2.2.2.2 (Nat.lt_of_le_of_lt (show _ ≤ 2000000000000000001 by omega) (by decide +kernel)) (Nat.lt_of_le_of_lt (show _ ≤ 2000000000000000001 by omega) (by decide +kernel)) (by omega) (by omega)).mono ?_
        rintro e w7 ⟨rfl, q7, hq7⟩
        have tc1 : cmpZ x x = 0 := by unfold cmpZ; rw [if_neg (by omega), if_neg (by omega)]
        rw [tc1]
        clear tc1
        have K5 : Hid (Sv b1 x y w7 ∧ Sv b4 0 0 w7 ∧ Sv b5 0 0 w7 ∧ Below w.heap.size w w7 ∧ BigAt w7 pb y) := by
          have k : Below w6.heap.size w6 w7 := by rw [hq7]; exact below_drewN' (Below.refl _ _)
          exact ⟨K6.out.1.below k, K6.out.2.1.below k, K6.out.2.2.1.below k, K6.out.2.2.2.1.trans (k.mono K6.out.2.2.2.1.size), K6.out.2.2.2.2.2.1.below k (Nat.le_refl _)⟩
        clear hq7 K6
        have q0 := K5.out.1.c0
        have q1 := K5.out.1.c1
        go_wp2_with fail
        clear q0 q1
        refine (B_any y _ (by omega) (by omega)).mono ?_
        rintro e w6 ⟨bu, rfl, m6⟩
        have K6 : Hid (Sv b1 x y w6 ∧ Sv b4 0 0 w6 ∧ Sv b5 0 0 w6 ∧ Below w.heap.size w w6 ∧ BigAt w6 pb y ∧ BigAt w6 bu y) := ⟨K5.out.1.below m6.2.2, K5.out.2.1.below m6.2.2, K5.out.2.2.1.below m6.2.2, K5.out.2.2.2.1.trans (m6.2.2.mono K5.out.2.2.2.1.size), K5.out.2.2.2.2.below m6.2.2 (Nat.le_refl _), m6.2.1⟩
        clear m6 K5
        go_wp2_with fail
        refine (Cmp_any pb bu _ _ 3 3 w6 K6.out.2.2.2.2.1 K6.out.2.2.2.2.2 (Nat.lt_of_le_of_lt (show _ ≤ 2000000000000000001 by omega) (by decide +kernel)) (Nat.lt_of_le_of_lt (show _ ≤ 2000000000000000001 by omega) (by decide +kernel)) (by omega) (by omega)).mono ?_
        rintro e w7 ⟨rfl, q7, hq7⟩
        have tc1 : cmpZ y y = 0 := by unfold cmpZ; rw [if_neg (by omega), if_neg (by omega)]
        rw [tc1]
        clear tc1
        have HK7 : Hid (Sv b1 x y w7 ∧ Sv b4 0 0 w7 ∧ Sv b5 0 0 w7 ∧ Below w.heap.size w w7) := by
          have k : Below w6.heap.size w6 w7 := by rw [hq7]; exact below_drewN' (Below.refl _ _)
          exact ⟨K6.out.1.below k, K6.out.2.1.below k, K6.out.2.2.1.below k, K6.out.2.2.2.1.trans (k.mono K6.out.2.2.2.1.size)⟩
        clear hq7 K6 HWk2 HXb hsz hn5 HL HX HK HS
        go_wp2_with fail
        refine (HNd.out w7).mono ?_
        rintro e w8 ⟨ux, uy, fc, fd, rfl, hnd, k8⟩
        have HND : Hid (NdIs P ux uy fc fd) := hnd
        have K8 : Hid (Sv b4 0 0 w8 ∧ Sv b5 0 0 w8 ∧ Below w.heap.size w w8) := ⟨HK7.out.2.1.below k8, HK7.out.2.2.1.below k8, HK7.out.2.2.2.trans (k8.mono HK7.out.2.2.2.size)⟩
        have n45 : b4 ≠ b5 := HN.out.2.1
        have n54 : b5 ≠ b4 := fun e => HN.out.2.1 e.symm
        clear k8 HK7 hnd
        obtain ⟨b12, hb12⟩ : ∃ b, b = w8.heap.size := ⟨_, rfl⟩
        obtain ⟨W9, hW9⟩ : ∃ W, W = ((((w8.setCell ⟨b4, 0, none⟩ (.int .i64 fc)).setCell ⟨b4, 1, none⟩ (.int .i64 fd)).setCell ⟨b5, 0, none⟩ (.int .i64 0)).setCell ⟨b5, 1, none⟩ (.int .i64 0)).alloc (.cells #[.int .i64 ux, .int .i64 uy] 23) := ⟨_, rfl⟩
        have K9 : Hid (Sv b4 fc fd W9 ∧ Sv b5 0 0 W9 ∧ Sv b12 ux uy W9 ∧ Below w.heap.size w W9) := by
          have h1 := ((((K8.out.2.2.setCell (p := ⟨b4, 0, none⟩) HB4.out (.int .i64 fc)).setCell (p := ⟨b4, 1, none⟩) HB4.out (.int .i64 fd)).setCell (p := ⟨b5, 0, none⟩) HN.out.2.2 (.int .i64 0)).setCell (p := ⟨b5, 1, none⟩) HN.out.2.2 (.int .i64 0))
          have h2 := Sv.newT ux uy ((((w8.setCell ⟨b4, 0, none⟩ (.int .i64 fc)).setCell ⟨b4, 1, none⟩ (.int .i64 fd)).setCell ⟨b5, 0, none⟩ (.int .i64 0)).setCell ⟨b5, 1, none⟩ (.int .i64 0)) 23
          simp only [World.size_setCell] at h2
          show _ ∧ _
          rw [hW9, hb12]
          exact ⟨((K8.out.1.set fc fd).other _ _ n54).alloc _ _, ((K8.out.2.1.other _ _ n45).set 0 0).alloc _ _, h2, h1.alloc h1.size _⟩
        have r0 := K8.out.1.c0
        have r1 := K8.out.1.c1
        have r2 := K8.out.1.f0
        have r3 := K8.out.1.f1
        have r4 := K8.out.2.1.c0
        have r5 := K8.out.2.1.c1
        have r6 := K8.out.2.1.f0
        have r7 := K8.out.2.1.f1
        have r8 := K8.out.1.lt
        have r9 := K8.out.2.1.lt
        have n12 : b12 ≠ b5 := by omega
        have n13 : b5 ≠ b12 := by omega
        clear K8
        rcases TR.three P with hT | ⟨hT, hT2⟩ | ⟨hT, i0, hi0, hT2, hT3⟩
        · have tn : decide (20000 < (pn : Int)) = true := decide_eq_true (by have := HPS.out.2; omega)
          have tn2 : decide (20000 < pn) = true := decide_eq_true (by have := HPS.out.2; omega)
          have HE : Hid (fc = 2 ∧ fd = 0 ∧ ux = 0 ∧ uy = 0) := by
            rcases HND.out with ⟨_, h2, h3, h4⟩ | ⟨h1, _⟩
            · rw [TR.tf_long hT] at h2
              obtain ⟨h5, h6⟩ := Prod.mk.inj h2
              exact ⟨h5, h6, h3, h4⟩
            · omega
          have hp0 : decide (0 < (pn : Int)) = true := decide_eq_true (by have := HPS.out.2; omega)
          have hp1 : 0 < pn := by have := HPS.out.2; omega
          clear hT HND
          obtain ⟨rfl, rfl, rfl, rfl⟩ := HE.out
          go_wp2_with fail
          rw [← hW9]
          simp only [← hb12]
          clear hW9 hb12 r0 r1 r2 r3 r4 r5 r6 r7 r8 r9 HE
          refine (F_any 2 0 _).mono ?_
          rintro e wa ⟨rfl, ka⟩
          have KA : Hid (Sv b4 2 0 wa ∧ Sv b5 0 0 wa ∧ Sv b12 0 0 wa ∧ Below w.heap.size w wa) := ⟨K9.out.1.below ka, K9.out.2.1.below ka, K9.out.2.2.1.below ka, K9.out.2.2.2.trans (ka.mono K9.out.2.2.2.size)⟩
          clear ka K9
          have K10 : Hid (Sv b4 2 0 ((wa.setCell ⟨b5, 0, none⟩ (.int .i64 2)).setCell ⟨b5, 1, none⟩ (.int .i64 0)) ∧ Sv b5 2 0 ((wa.setCell ⟨b5, 0, none⟩ (.int .i64 2)).setCell ⟨b5, 1, none⟩ (.int .i64 0)) ∧ Sv b12 0 0 ((wa.setCell ⟨b5, 0, none⟩ (.int .i64 2)).setCell ⟨b5, 1, none⟩ (.int .i64 0)) ∧ Below w.heap.size w ((wa.setCell ⟨b5, 0, none⟩ (.int .i64 2)).setCell ⟨b5, 1, none⟩ (.int .i64 0))) :=
            ⟨KA.out.1.other _ _ n54, KA.out.2.1.set _ _, KA.out.2.2.1.other _ _ n13, (KA.out.2.2.2.setCell HN.out.2.2 _).setCell HN.out.2.2 _⟩
          have q0 := KA.out.2.1.c0
          have q1 := KA.out.2.1.c1
          have q2 := KA.out.2.1.f0
          have q3 := KA.out.2.1.f1
          have q4 := KA.out.2.1.lt
          clear KA
          go_wp2
          clear q0 q1 q2 q3 q4
          go_loopg [13] 0 (fun gk iv wx => iv = .int .i64 0 ∧ Hid (gk = 0 ∧ Sv b4 2 0 wx ∧ Sv b5 2 0 wx ∧ Sv b12 0 0 wx ∧ Below w.heap.size w wx))
          case atStart => exact ⟨rfl, rfl, K10.out⟩
          case round =>
            clear K10
            obtain ⟨rfl, HR⟩ := hrel
            have q0 := HR.out.2.1.c0
            have q1 := HR.out.2.1.c1
            have q2 := HR.out.2.2.1.c0
            have q3 := HR.out.2.2.1.c1
            have q4 := HR.out.2.2.2.1.c0
            have q5 := HR.out.2.2.2.1.c1
            have HK : Hid (Below w.heap.size w wr) := HR.out.2.2.2.2
            clear HR
            go_wp2
            go_ret
            exact ⟨rfl, HK.out⟩
        · have tn : decide (20000 < (pn : Int)) = false := decide_eq_false (by have := HPS.out.2; omega)
          have tn2 : decide (20000 < pn) = false := decide_eq_false (by have := HPS.out.2; omega)
          have HWd : Hid (WdOut (TR.steps P) ux uy fc fd) := by
            rcases HND.out with ⟨h1, _⟩ | ⟨_, _, h2⟩
            · rw [TR.tf_ok hT hT2] at h1; exact absurd rfl h1
            · exact h2
          have HWk : Hid (∀ W, Calls Tryz.prog 19 #[.string PS] W fun e w' => WkOut W w' (TR.steps P) e) := fun W => by
            have h := Walked_any (TR.steps P) W (by unfold TR.steps; rw [List.length_map]; omega)
            rw [TR.steps_back hT2, ← HPS.out.1] at h
            exact h
          have HT : Hid (P.length ≤ 20000 ∧ ∀ c ∈ P, TR.okb c = true) := ⟨hT, hT2⟩
          clear hT hT2 HND
          go_wp2
          rw [← hW9]
          simp only [← hb12]
          clear hW9 hb12 r0 r1 r2 r3 r4 r5 r6 r7 r8 r9
          go_loopg [13] pn (fun gk iv wx => ∃ i : Nat, iv = .int .i64 (i : Int) ∧ Hid (gk = pn - i ∧ i ≤ pn ∧ Sv b4 fc fd wx ∧ Sv b5 0 0 wx ∧ Sv b12 ux uy wx ∧ Below w.heap.size w wx))
          case atStart => exact ⟨0, rfl, by omega, by omega, K9.out⟩
          case round =>
            clear K9
            obtain ⟨i, rfl, HR⟩ := hrel
            obtain ⟨h1, h2, h3⟩ := HR.out
            have HG : Hid (gk = pn - i) := h1
            have HK : Hid (Sv b4 fc fd wr ∧ Sv b5 0 0 wr ∧ Sv b12 ux uy wr ∧ Below w.heap.size w wr) := h3
            have q2 := h3.2.1.c0
            have q3 := h3.2.1.c1
            clear HR h1 h3
            by_cases hi : i < pn
            · have ti : decide ((i : Int) < (pn : Int)) = true := decide_eq_true (by omega)
              have xi : (i : Int) < (pn : Int) := by omega
              have xi2 : i < PS.size := by omega
              have hil : i < P.length := by rw [← HPS.out.2]; exact hi
              have tz := HPX.out i xi2 hil
              have hok := HT.out.2 _ (List.getElem_mem hil)
              have hcase : ((P[i]'hil).toNat : Int) = 76 ∨ ((P[i]'hil).toNat : Int) = 82 := by
                unfold TR.okb at hok
                rw [Bool.or_eq_true, beq_iff_eq, beq_iff_eq] at hok
                rcases hok with h | h
                · left; rw [h]; rfl
                · right; rw [h]; rfl
              rw [← tz] at hcase
              clear tz hok
              rcases hcase with tz | tz
              · have tz2 : ∀ h : i < PS.size, (((PS[i]'h).toNat : Nat) : Int) = 76 := fun _ => tz
                have tz3 : ∀ h : i < PS.size, (PS[i]'h).toNat = 76 := fun h => by have := tz2 h; omega
                clear tz
                go_wp2
                go_roundg (pn - (i + 1))
                case rel => exact ⟨i + 1, by go_num, rfl, by omega, HK.out⟩
                case measure => have := HG.out; omega
              · have tz2 : ∀ h : i < PS.size, (((PS[i]'h).toNat : Nat) : Int) = 82 := fun _ => tz
                have u1 : ∀ h : i < PS.size, ((((PS[i]'h).toNat : Nat) : Int) != 76) = true := fun h => by rw [tz2 h]; rfl
                have u2 : ∀ h : i < PS.size, ((((PS[i]'h).toNat : Nat) : Int) != 82) = false := fun h => by rw [tz2 h]; rfl
                clear tz2 tz
                go_wp2
                go_roundg (pn - (i + 1))
                case rel => exact ⟨i + 1, by go_num, rfl, by omega, HK.out⟩
                case measure => have := HG.out; omega
            · have ti : decide ((i : Int) < (pn : Int)) = false := decide_eq_false (by omega)
              clear h2
              go_wp2_with fail
              refine (HWk.out wr).mono ?_
              rintro e w5 ⟨hwk, k5⟩
              have K5 : Hid (Sv b4 fc fd w5 ∧ Sv b12 ux uy w5 ∧ Below w.heap.size w w5) := ⟨HK.out.1.below k5, HK.out.2.2.1.below k5, HK.out.2.2.2.trans (k5.mono HK.out.2.2.2.size)⟩
              clear HK q2 q3 k5
              rcases hwk with ⟨j, hj1, hj2, hj3, rfl⟩ | ⟨hj, pa, pb, rfl, hba, hbb⟩
              · have HE : Hid (fc = 9 ∧ fd = (j : Int) ∧ ux = 0 ∧ uy = 0) := by
                  rcases HWd.out with ⟨k, _, g2, g3, g4, g5, g6, g7⟩ | ⟨g1, _⟩
                  · have := TR.near_uniq hj2 hj3 g2 g3
                    exact ⟨g6, by rw [g7, this], g4, g5⟩
                  · exact absurd (g1 j hj1) hj3
                have tj : decide ((0 : Int) ≤ (j : Int)) = true := decide_eq_true (by omega)
                clear hj1 hj2 hj3 HWd
                obtain ⟨rfl, rfl, rfl, rfl⟩ := HE.out
                have HR5 : Hid (∀ W, Below w5.heap.size w5 W → (W.cell? ⟨b4, 0, none⟩ = some (.int .i64 9) ∧ W.cell? ⟨b4, 1, none⟩ = some (.int .i64 (j : Int))) ∧ W.cell? ⟨b12, 0, none⟩ = some (.int .i64 0) ∧ W.cell? ⟨b12, 1, none⟩ = some (.int .i64 0)) := fun W kk => ⟨⟨(K5.out.1.below kk).c0, (K5.out.1.below kk).c1⟩, (K5.out.2.1.below kk).c0, (K5.out.2.1.below kk).c1⟩
                go_wp2_with fail
                refine wp_region_G (fun W => (W.cell? ⟨b4, 0, none⟩ = some (.int .i64 9) ∧ W.cell? ⟨b4, 1, none⟩ = some (.int .i64 (j : Int))) ∧ W.cell? ⟨b12, 0, none⟩ = some (.int .i64 0) ∧ W.cell? ⟨b12, 1, none⟩ = some (.int .i64 0)) 9 (by kernel_rfl) (HR5.out _ (Below.refl _ _).drew) (fun hHeld => ?_)
                refine wpAnyG_take (i := 0) (v := ?v0x33) rfl (by kernel_rfl) (fun _ _ _ h => h) (Or.inl ⟨by rfl, ?y0x33⟩) hHeld ?r0x33
                case y0x33 => (intro wS hSw; obtain ⟨⟨s1, s2⟩, s3, s4⟩ := hSw; go_simp; try with_reducible rfl)
                simp only [Act.put, List.getElem_toArray, List.getElem_cons_zero, List.getElem_cons_succ, List.setIfInBounds_toArray, List.set_cons_zero, List.set_cons_succ]
                refine wpAnyG_take (i := 1) (v := ?v1x34) rfl (by kernel_rfl) (fun _ _ _ h => h) (Or.inl ⟨by rfl, ?y1x34⟩) hHeld ?r1x34
                case y1x34 => (intro wS hSw; obtain ⟨⟨s1, s2⟩, s3, s4⟩ := hSw; go_simp; try with_reducible rfl)
                simp only [Act.put, List.getElem_toArray, List.getElem_cons_zero, List.getElem_cons_succ, List.setIfInBounds_toArray, List.set_cons_zero, List.set_cons_succ]
                refine wpAnyG_one (i := 2) rfl (by kernel_rfl) (fun K hK => ?_)
                go_simp
                refine (F_any 9 (j : Int) _).mono ?_
                rintro e w6 ⟨rfl, k6⟩
                have HK6 : Hid (Below w5.heap.size w5 w6) := (Below.refl _ _).drew.trans k6
                clear k6
                refine hK.out _ _ (HR5.out _ HK6.out) ?_
                clear hK K hHeld
                have hHeld := HR5.out _ HK6.out
                refine wpAnyG_take (i := 3) (v := .bool true) rfl (by kernel_rfl) (fun _ _ _ h => h) (Or.inl ⟨by kernel_rfl, ?y3x35⟩) hHeld ?r3x35
                case y3x35 => (intro wS hSw; (go_simp))
                simp only [Act.put, List.getElem_toArray, List.getElem_cons_zero, List.getElem_cons_succ, List.setIfInBounds_toArray, List.set_cons_zero, List.set_cons_succ]
                refine wpAnyG_take (i := 4) (v := .bool true) rfl (by kernel_rfl) (fun _ _ _ h => h) (Or.inl ⟨by kernel_rfl, ?y4x36⟩) hHeld ?r4x36
                case y4x36 => (intro wS hSw; (go_simp))
                simp only [Act.put, List.getElem_toArray, List.getElem_cons_zero, List.getElem_cons_succ, List.setIfInBounds_toArray, List.set_cons_zero, List.set_cons_succ]
                refine wpAnyG_take (i := 5) (v := .agg #[.int .i64 0, .int .i64 0]) rfl (by kernel_rfl) (fun _ _ _ h => h) (Or.inl ⟨by kernel_rfl, ?y5x37⟩) hHeld ?r5x37
                case y5x37 => (intro wS hSw; (obtain ⟨⟨s1, s2⟩, s3, s4⟩ := hSw; go_simp))
                simp only [Act.put, List.getElem_toArray, List.getElem_cons_zero, List.getElem_cons_succ, List.setIfInBounds_toArray, List.set_cons_zero, List.set_cons_succ]
                refine wpAnyG_take (i := 6) (v := ?v6x38) rfl (by kernel_rfl) (fun _ _ _ h => h) (Or.inl ⟨by kernel_rfl, ?y6x38⟩) hHeld ?r6x38
                case y6x38 => (intro wS hSw; have s1 := hSw; go_simp; try with_reducible rfl)
                simp only [Act.put, List.getElem_toArray, List.getElem_cons_zero, List.getElem_cons_succ, List.setIfInBounds_toArray, List.set_cons_zero, List.set_cons_succ]
                refine wpAnyG_take (i := 7) (v := .bool true) rfl (by kernel_rfl) (fun _ _ _ h => h) (Or.inl ⟨by kernel_rfl, ?y7x39⟩) hHeld ?r7x39
                case y7x39 => (intro wS hSw; (go_simp))
                simp only [Act.put, List.getElem_toArray, List.getElem_cons_zero, List.getElem_cons_succ, List.setIfInBounds_toArray, List.set_cons_zero, List.set_cons_succ]
                refine wpAnyG_take (i := 8) (v := .bool true) rfl (by kernel_rfl) (fun _ _ _ h => h) (Or.inl ⟨by kernel_rfl, ?y8x40⟩) hHeld ?r8x40
                case y8x40 => (intro wS hSw; (go_simp))
                simp only [Act.put, List.getElem_toArray, List.getElem_cons_zero, List.getElem_cons_succ, List.setIfInBounds_toArray, List.set_cons_zero, List.set_cons_succ]
                refine wpAnyG_last (i := 9) rfl (by kernel_rfl) (by kernel_rfl) (fun K hK => ?_)
                go_simp
                refine hK.out _ _ ?_
                clear hK K
                refine wpAnyG_done (by kernel_rfl) ?_ _
                clear hHeld
                go_wp2
                go_ret
                exact ⟨rfl, K5.out.2.2.trans (HK6.out.mono K5.out.2.2.size)⟩
              · obtain ⟨X9, hX9⟩ : ∃ X, X = (ST.nd (TR.steps P)).1 := ⟨_, rfl⟩
                obtain ⟨Y9, hY9⟩ : ∃ Y, Y = (ST.nd (TR.steps P)).2 := ⟨_, rfl⟩
                have hnb := TR.of_near hj
                have hpb := TR.path_back (l := TR.steps P) (by unfold TR.steps; rw [List.length_map]; exact HT.out.1) hnb
                rw [TR.steps_back HT.out.2, ← HPS.out.1] at hpb
                have HE : Hid (fc = 0 ∧ fd = 0 ∧ ux = (X9 : Int) ∧ uy = (Y9 : Int)) := by
                  rcases HWd.out with ⟨k, g0, g2, g3, _⟩ | ⟨_, g2, g3, g4, g5⟩
                  · exact absurd (hj k g0) g3
                  · exact ⟨g4, g5, by rw [g2, hX9], by rw [g3, hY9]⟩
                rw [← hX9, ← hY9] at hpb hnb
                rw [← hX9] at hba
                rw [← hY9] at hbb
                have HBg2 : Hid (BigAt w5 pa (X9 : Int) ∧ BigAt w5 pb (Y9 : Int)) := ⟨hba, hbb⟩
                have HPb : Hid (∀ W, Calls Tryz.prog 15 #[.agg #[.int .i64 (X9 : Int), .int .i64 (Y9 : Int)]] W fun e w' => e = .returned (.tuple #[.string PS, .agg #[.int .i64 0, .int .i64 0]]) ∧ Below W.heap.size W w') := fun W => by
                  have h := HPa.out (X9 : Int) (Y9 : Int) W
                  rw [hpb.1, hpb.2] at h
                  exact h
                have hx9 := hnb.1
                have hy9 := hnb.2
                clear hj hba hbb hpb HWd hX9 hY9 hnb
                obtain ⟨rfl, rfl, rfl, rfl⟩ := HE.out
                have q0 := K5.out.1.c0
                have q1 := K5.out.1.c1
                have q2 := K5.out.2.1.c0
                have q3 := K5.out.2.1.c1
                go_wp2_with fail
                clear q0 q1 q2 q3
                refine (B_any (X9 : Int) _ (by omega) (by omega)).mono ?_
                rintro e w6 ⟨bt, rfl, m6⟩
                have K6 : Hid (Sv b4 0 0 w6 ∧ Sv b12 X9 Y9 w6 ∧ Below w.heap.size w w6 ∧ BigAt w6 pa (X9 : Int) ∧ BigAt w6 pb (Y9 : Int) ∧ BigAt w6 bt (X9 : Int)) := ⟨K5.out.1.below m6.2.2, K5.out.2.1.below m6.2.2, K5.out.2.2.trans (m6.2.2.mono K5.out.2.2.size), HBg2.out.1.below m6.2.2 (Nat.le_refl _), HBg2.out.2.below m6.2.2 (Nat.le_refl _), m6.2.1⟩
                clear m6 K5 HBg2
                go_wp2_with fail
                refine (Cmp_any pa bt _ _ 3 3 w6 K6.out.2.2.2.1 K6.out.2.2.2.2.2 (Nat.lt_of_le_of_lt (show _ ≤ 2000000000000000001 by omega) (by decide +kernel)) (Nat.lt_of_le_of_lt (show _ ≤ 2000000000000000001 by omega) (by decide +kernel)) (by omega) (by omega)).mono ?_
                rintro e w7 ⟨rfl, q7, hq7⟩
                have tc1 : cmpZ (X9 : Int) (X9 : Int) = 0 := by unfold cmpZ; rw [if_neg (by omega), if_neg (by omega)]
                rw [tc1]
                clear tc1
                have K7 : Hid (Sv b4 0 0 w7 ∧ Sv b12 X9 Y9 w7 ∧ Below w.heap.size w w7 ∧ BigAt w7 pb (Y9 : Int)) := by
                  have k : Below w6.heap.size w6 w7 := by rw [hq7]; exact below_drewN' (Below.refl _ _)
                  exact ⟨K6.out.1.below k, K6.out.2.1.below k, K6.out.2.2.1.trans (k.mono K6.out.2.2.1.size), K6.out.2.2.2.2.1.below k (Nat.le_refl _)⟩
                clear hq7 K6
                have q2 := K7.out.2.1.c0
                have q3 := K7.out.2.1.c1
                go_wp2_with fail
                clear q2 q3
                refine (B_any (Y9 : Int) _ (by omega) (by omega)).mono ?_
                rintro e w6 ⟨bu, rfl, m6⟩
                have K6 : Hid (Sv b4 0 0 w6 ∧ Sv b12 X9 Y9 w6 ∧ Below w.heap.size w w6 ∧ BigAt w6 pb (Y9 : Int) ∧ BigAt w6 bu (Y9 : Int)) := ⟨K7.out.1.below m6.2.2, K7.out.2.1.below m6.2.2, K7.out.2.2.1.trans (m6.2.2.mono K7.out.2.2.1.size), K7.out.2.2.2.below m6.2.2 (Nat.le_refl _), m6.2.1⟩
                clear m6 K7
                go_wp2_with fail
                refine (Cmp_any pb bu _ _ 3 3 w6 K6.out.2.2.2.1 K6.out.2.2.2.2 (Nat.lt_of_le_of_lt (show _ ≤ 2000000000000000001 by omega) (by decide +kernel)) (Nat.lt_of_le_of_lt (show _ ≤ 2000000000000000001 by omega) (by decide +kernel)) (by omega) (by omega)).mono ?_
                rintro e w7 ⟨rfl, q7, hq7⟩
                have tc1 : cmpZ (Y9 : Int) (Y9 : Int) = 0 := by unfold cmpZ; rw [if_neg (by omega), if_neg (by omega)]
                rw [tc1]
                clear tc1
                have K7 : Hid (Sv b4 0 0 w7 ∧ Sv b12 X9 Y9 w7 ∧ Below w.heap.size w w7) := by
                  have k : Below w6.heap.size w6 w7 := by rw [hq7]; exact below_drewN' (Below.refl _ _)
                  exact ⟨K6.out.1.below k, K6.out.2.1.below k, K6.out.2.2.1.trans (k.mono K6.out.2.2.1.size)⟩
                clear hq7 K6
                have q2 := K7.out.2.1.c0
                have q3 := K7.out.2.1.c1
                go_wp2_with fail
                clear q2 q3
                refine (HPb.out _).mono ?_
                rintro e w9 ⟨rfl, k9⟩
                have K11 : Hid (Sv b4 0 0 w9 ∧ Below w.heap.size w w9) := ⟨K7.out.1.below k9, K7.out.2.2.trans (k9.mono K7.out.2.2.size)⟩
                clear k9 K7 HPb
                have q0 := K11.out.1.c0
                have q1 := K11.out.1.c1
                have q2 := K11.out.1.f0
                have q3 := K11.out.1.f1
                have q4 := K11.out.1.lt
                go_wp2
                go_ret
                exact ⟨rfl, (K11.out.2.setCell HB4.out _).setCell HB4.out _⟩
        · have tn : decide (20000 < (pn : Int)) = false := decide_eq_false (by have := HPS.out.2; omega)
          have tn2 : decide (20000 < pn) = false := decide_eq_false (by have := HPS.out.2; omega)
          have HE : Hid (fc = 1 ∧ fd = (i0 : Int) ∧ ux = 0 ∧ uy = 0) := by
            rcases HND.out with ⟨_, h2, h3, h4⟩ | ⟨_, h1, _⟩
            · rw [TR.tf_bad hT hi0 hT2 hT3] at h2
              obtain ⟨h5, h6⟩ := Prod.mk.inj h2
              exact ⟨h5, h6, h3, h4⟩
            · have := h1 _ (List.getElem_mem hi0)
              rw [hT3] at this
              exact absurd this (by decide)
          have hi0n : i0 < pn := by rw [HPS.out.2]; exact hi0
          have hi0k : i0 ≤ 20000 := by omega
          have HT : Hid ((∀ j (hj : j < i0), TR.okb (P[j]'(by omega)) = true) ∧ TR.okb (P[i0]'hi0) = false) := ⟨hT2, hT3⟩
          clear hT hT2 hT3 HND
          obtain ⟨rfl, rfl, rfl, rfl⟩ := HE.out
          go_wp2
          rw [← hW9]
          simp only [← hb12]
          clear hW9 hb12 r0 r1 r2 r3 r4 r5 r6 r7 r8 r9 HE
          go_loopg [13] (i0 + 2) (fun gk iv wx => ∃ (i : Nat) (c5 d5 : Int), iv = .int .i64 (i : Int) ∧ Hid (gk = i0 + 2 - i ∧ ((i ≤ i0 ∧ c5 = 0 ∧ d5 = 0) ∨ (i = i0 + 1 ∧ c5 = 1 ∧ d5 = (i0 : Int))) ∧ Sv b4 1 (i0 : Int) wx ∧ Sv b5 c5 d5 wx ∧ Sv b12 0 0 wx ∧ Below w.heap.size w wx))
          case atStart => exact ⟨0, 0, 0, rfl, by omega, .inl ⟨by omega, rfl, rfl⟩, K9.out⟩
          case round =>
            clear K9
            obtain ⟨i, c5, d5, rfl, HR⟩ := hrel
            obtain ⟨h1, h2, h3⟩ := HR.out
            have HG : Hid (gk = i0 + 2 - i) := h1
            have HK : Hid (Sv b4 1 (i0 : Int) wr ∧ Sv b5 c5 d5 wr ∧ Sv b12 0 0 wr ∧ Below w.heap.size w wr) := h3
            clear HR h1 h3
            rcases h2 with ⟨hi, rfl, rfl⟩ | ⟨rfl, rfl, rfl⟩
            · have ti : decide ((i : Int) < (pn : Int)) = true := decide_eq_true (by omega)
              have xi : (i : Int) < (pn : Int) := by omega
              have xi2 : i < PS.size := by omega
              have hil : i < P.length := by rw [← HPS.out.2]; omega
              have tz := HPX.out i xi2 hil
              have q2 := HK.out.2.1.c0
              have q3 := HK.out.2.1.c1
              by_cases hlt : i < i0
              · have hok := HT.out.1 i hlt
                have hcase : ((P[i]'hil).toNat : Int) = 76 ∨ ((P[i]'hil).toNat : Int) = 82 := by
                  unfold TR.okb at hok
                  rw [Bool.or_eq_true, beq_iff_eq, beq_iff_eq] at hok
                  rcases hok with h | h
                  · left; rw [h]; rfl
                  · right; rw [h]; rfl
                rw [← tz] at hcase
                clear tz hok
                rcases hcase with tz | tz
                · have tz2 : ∀ h : i < PS.size, (((PS[i]'h).toNat : Nat) : Int) = 76 := fun _ => tz
                  have tz3 : ∀ h : i < PS.size, (PS[i]'h).toNat = 76 := fun h => by have := tz2 h; omega
                  clear tz
                  go_wp2
                  go_roundg (i0 + 2 - (i + 1))
                  case rel => exact ⟨i + 1, 0, 0, by go_num, rfl, .inl ⟨by omega, rfl, rfl⟩, HK.out⟩
                  case measure => have := HG.out; omega
                · have tz2 : ∀ h : i < PS.size, (((PS[i]'h).toNat : Nat) : Int) = 82 := fun _ => tz
                  have u1 : ∀ h : i < PS.size, ((((PS[i]'h).toNat : Nat) : Int) != 76) = true := fun h => by rw [tz2 h]; rfl
                  have u2 : ∀ h : i < PS.size, ((((PS[i]'h).toNat : Nat) : Int) != 82) = false := fun h => by rw [tz2 h]; rfl
                  clear tz2 tz
                  go_wp2
                  go_roundg (i0 + 2 - (i + 1))
                  case rel => exact ⟨i + 1, 0, 0, by go_num, rfl, .inl ⟨by omega, rfl, rfl⟩, HK.out⟩
                  case measure => have := HG.out; omega
              · obtain rfl : i = i0 := by omega
                have hno := HT.out.2
                have hcase : ((P[i]'hil).toNat : Int) ≠ 76 ∧ ((P[i]'hil).toNat : Int) ≠ 82 := by
                  unfold TR.okb at hno
                  rw [Bool.or_eq_false_iff, beq_eq_false_iff_ne, beq_eq_false_iff_ne] at hno
                  refine ⟨fun h => hno.1 ?_, fun h => hno.2 ?_⟩
                  · apply UInt8.toNat_inj.1; exact_mod_cast h
                  · apply UInt8.toNat_inj.1; exact_mod_cast h
                rw [← tz] at hcase
                have u1 : ∀ h : i < PS.size, ((((PS[i]'h).toNat : Nat) : Int) != 76) = true := fun h => by simpa using hcase.1
                have u2 : ∀ h : i < PS.size, ((((PS[i]'h).toNat : Nat) : Int) != 82) = true := fun h => by simpa using hcase.2
                have u3 : ∀ h : i < PS.size, ¬ (PS[i]'h).toNat = 76 := fun h e => hcase.1 (by exact_mod_cast e)
                have u4 : ∀ h : i < PS.size, ¬ (PS[i]'h).toNat = 82 := fun h e => hcase.2 (by exact_mod_cast e)
                clear tz hno hcase hlt
                go_wp2_with fail
                refine (F_any 1 (i : Int) _).mono ?_
                rintro e wa ⟨rfl, ka⟩
                have KA : Hid (Sv b4 1 (i : Int) wa ∧ Sv b5 0 0 wa ∧ Sv b12 0 0 wa ∧ Below w.heap.size w wa) := ⟨HK.out.1.below ka, HK.out.2.1.below ka, HK.out.2.2.1.below ka, HK.out.2.2.2.trans (ka.mono HK.out.2.2.2.size)⟩
                clear ka HK q2 q3
                have K10 : Hid (Sv b4 1 (i : Int) ((wa.setCell ⟨b5, 0, none⟩ (.int .i64 1)).setCell ⟨b5, 1, none⟩ (.int .i64 (i : Int))) ∧ Sv b5 1 (i : Int) ((wa.setCell ⟨b5, 0, none⟩ (.int .i64 1)).setCell ⟨b5, 1, none⟩ (.int .i64 (i : Int))) ∧ Sv b12 0 0 ((wa.setCell ⟨b5, 0, none⟩ (.int .i64 1)).setCell ⟨b5, 1, none⟩ (.int .i64 (i : Int))) ∧ Below w.heap.size w ((wa.setCell ⟨b5, 0, none⟩ (.int .i64 1)).setCell ⟨b5, 1, none⟩ (.int .i64 (i : Int)))) :=
                  ⟨KA.out.1.other _ _ n54, KA.out.2.1.set _ _, KA.out.2.2.1.other _ _ n13, (KA.out.2.2.2.setCell HN.out.2.2 _).setCell HN.out.2.2 _⟩
                have q0 := KA.out.2.1.c0
                have q1 := KA.out.2.1.c1
                have q2 := KA.out.2.1.f0
                have q3 := KA.out.2.1.f1
                have q4 := KA.out.2.1.lt
                clear KA
                go_wp2
                go_roundg (i + 2 - (i + 1))
                case rel => exact ⟨i + 1, 1, (i : Int), by go_num, rfl, .inr ⟨rfl, rfl, rfl⟩, K10.out⟩
                case measure => have := HG.out; omega
            · obtain ⟨i1, hi1⟩ : ∃ i1, i1 = i0 + 1 := ⟨_, rfl⟩
              rw [← hi1]
              have q0 := HK.out.1.c0
              have q1 := HK.out.1.c1
              have q2 := HK.out.2.1.c0
              have q3 := HK.out.2.1.c1
              have q4 := HK.out.2.2.1.c0
              have q5 := HK.out.2.2.1.c1
              by_cases hi : i1 < pn
              · have ti : decide ((i1 : Int) < (pn : Int)) = true := decide_eq_true (by omega)
                clear hi1
                go_wp2
                go_ret
                exact ⟨rfl, HK.out.2.2.2⟩
              · have ti : decide ((i1 : Int) < (pn : Int)) = false := decide_eq_false (by omega)
                clear hi1
                go_wp2
                go_ret
                exact ⟨rfl, HK.out.2.2.2⟩
end Go.Proofs.YtcnfhndejkngkaaGreatDoor
