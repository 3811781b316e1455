/- frac.together and frac.walk. -/
import Derived.Test.YtcnfhndejkngkaaGreatDoorStB
import Derived.Test.YtcnfhndejkngkaaGreatDoorJtG
import Derived.Test.YtcnfhndejkngkaaGreatDoorJtH
import Derived.Deep.LoopGhost
set_option linter.unusedSimpArgs false
set_option linter.unusedVariables false
set_option maxRecDepth 100000
namespace Go.Proofs.YtcnfhndejkngkaaGreatDoor
open Go.RowKit

theorem Sv.newT (c d : Int) (w : World) (t : TypeId) : Sv w.heap.size c d (w.alloc (.cells #[.int .i64 c, .int .i64 d] t)) :=
  ⟨by simp, by simp, by simp, by simp, by simp⟩

set_option maxHeartbeats 1000000 in
theorem together_any (a b c d : Nat) (w : World) (h1 : a + c ≤ 9000000000000000000) (h2 : b + d ≤ 9000000000000000000) :
    Calls Tryz.prog 80 #[.agg #[.int .i64 (a : Int), .int .i64 (b : Int)], .agg #[.int .i64 (c : Int), .int .i64 (d : Int)]] w fun e w' => e = .returned (.agg #[.int .i64 ((a + c : Nat) : Int), .int .i64 ((b + d : Nat) : Int)]) ∧ Below w.heap.size w w' := by
  obtain ⟨u, hu⟩ : ∃ u, u = a + c := ⟨_, rfl⟩
  obtain ⟨v, hv⟩ : ∃ v, v = b + d := ⟨_, rfl⟩
  have eu : (a : Int) + (c : Int) = (u : Int) := by omega
  have ev : (b : Int) + (d : Int) = (v : Int) := by omega
  have wu : IntKind.i64.wrap (u : Int) = (u : Int) := by rw [IntKind.wrap_i64]; omega
  have wv : IntKind.i64.wrap (v : Int) = (v : Int) := by rw [IntKind.wrap_i64]; omega
  rw [← hu, ← hv]
  clear hu hv
  go_enter Tryz.func80, Tryz.ntmps80
  have HK : Hid (Below w.heap.size w ((((w.alloc (.cells #[.int .i64 (a : Int), .int .i64 (b : Int)] 23)).alloc (.cells #[.int .i64 (c : Int), .int .i64 (d : Int)] 23)).alloc (.cells #[.int .i64 (u : Int), .int .i64 (v : Int)] 23)))) := ((((Below.refl _ _).alloc (Nat.le_refl _) _).alloc (by simp) _).alloc (by simp; omega) _)
  go_wp2
  exact bodyPost_ret (v := .agg #[.int .i64 (u : Int), .int .i64 (v : Int)]) (by simp [results, Tryz.results80, go_sem]) rfl ⟨rfl, HK.out⟩

/-- What walk answers. -/
def WdOut (l : List Bool) (x y c d : Int) : Prop :=
  (∃ i, i < l.length ∧ (∀ j, j < i → near l j) ∧ ¬ near l i ∧ x = 0 ∧ y = 0 ∧ c = 9 ∧ d = (i : Int)) ∨ ((∀ j, j < l.length → near l j) ∧ x = ((ST.nd l).1 : Int) ∧ y = ((ST.nd l).2 : Int) ∧ c = 0 ∧ d = 0)

set_option maxHeartbeats 4000000 in
theorem walk_any (l : List Bool) (w : World) (hl : l.length ≤ 20000) :
    Calls Tryz.prog 51 #[.string (pathS l)] w fun e w' => ∃ x y c d : Int, e = .returned (.tuple #[.agg #[.int .i64 x, .int .i64 y], .agg #[.int .i64 c, .int .i64 d]]) ∧ WdOut l x y c d ∧ Below w.heap.size w w' := by
  obtain ⟨S, hS⟩ : ∃ S, S = pathS l := ⟨_, rfl⟩
  obtain ⟨n, hn⟩ : ∃ n, n = l.length := ⟨_, rfl⟩
  have hsz : S.size = n := by rw [hS, hn]; unfold pathS; simp [ByteArray.size]
  have HX : Hid (∀ (i : Nat) (h : i < S.size) (h2 : i < l.length), (((S[i]'h).toNat : Nat) : Int) = if l[i]'h2 then 82 else 76) := fun i h h2 => by
    have : S[i]'h = if l[i]'h2 then (82 : UInt8) else 76 := by
      subst hS
      show (pathS l).data[i]'_ = _
      unfold pathS
      exact (List.getElem_toArray _).trans (List.getElem_map _)
    rw [this]
    split <;> rfl
  have HNl : Hid (n = l.length) := hn
  have hn2 : n ≤ 20000 := by omega
  rw [← hS]
  clear hS hn
  have HTg0 : Hid (∀ W, Calls Tryz.prog 80 #[.agg #[.int .i64 0, .int .i64 1], .agg #[.int .i64 1, .int .i64 0]] W fun e w' => e = .returned (.agg #[.int .i64 1, .int .i64 1]) ∧ Below W.heap.size W w') := fun W => together_any 0 1 1 0 W (by omega) (by omega)
  obtain ⟨W0, hW0⟩ : ∃ W, W = (((w.alloc (.cells #[.int .i64 0, .int .i64 0] 23)).alloc (.cells #[.int .i64 0, .int .i64 0] 25)).alloc (.cells #[.int .i64 0, .int .i64 1] 23)).alloc (.cells #[.int .i64 1, .int .i64 0] 23) := ⟨_, rfl⟩
  have K0 : Hid (Sv (w.heap.size + 1 + 1) 0 1 W0 ∧ Sv (w.heap.size + 1 + 1 + 1) 1 0 W0 ∧ Sv w.heap.size 0 0 W0 ∧ Sv (w.heap.size + 1) 0 0 W0 ∧ Below w.heap.size w W0 ∧ W0.heap.size = w.heap.size + 4) := by
    show _ ∧ _
    rw [hW0]
    have a1 := Sv.newT 0 0 w 23
    have a2 := Sv.newT 0 0 (w.alloc (.cells #[.int .i64 0, .int .i64 0] 23)) 25
    have a3 := Sv.newT 0 1 ((w.alloc (.cells #[.int .i64 0, .int .i64 0] 23)).alloc (.cells #[.int .i64 0, .int .i64 0] 25)) 23
    have a4 := Sv.newT 1 0 (((w.alloc (.cells #[.int .i64 0, .int .i64 0] 23)).alloc (.cells #[.int .i64 0, .int .i64 0] 25)).alloc (.cells #[.int .i64 0, .int .i64 1] 23)) 23
    simp only [World.size_alloc] at a2 a3 a4
    exact ⟨a3.alloc _ _, a4, ((a1.alloc _ _).alloc _ _).alloc _ _, (a2.alloc _ _).alloc _ _, ((((Below.refl _ _).alloc (Nat.le_refl _) _).alloc (by simp) _).alloc (by simp; omega) _).alloc (by simp; omega) _, by simp⟩
  go_enter Tryz.func51, Tryz.ntmps51
  go_wp2_with fail
  rw [← hW0]
  clear hW0
  refine (HTg0.out W0).mono ?_
  rintro e w1 ⟨rfl, k1⟩
  obtain ⟨b2, hb2⟩ : ∃ b, b = w.heap.size := ⟨_, rfl⟩
  obtain ⟨b3, hb3⟩ : ∃ b, b = w.heap.size + 1 := ⟨_, rfl⟩
  obtain ⟨b4, hb4⟩ : ∃ b, b = w.heap.size + 1 + 1 := ⟨_, rfl⟩
  obtain ⟨b5, hb5⟩ : ∃ b, b = w.heap.size + 1 + 1 + 1 := ⟨_, rfl⟩
  obtain ⟨b6, hb6⟩ : ∃ b, b = w1.heap.size := ⟨_, rfl⟩
  obtain ⟨W2, hW2⟩ : ∃ W, W = w1.alloc (.cells #[.int .i64 1, .int .i64 1] 23) := ⟨_, rfl⟩
  have HN : Hid (b4 ≠ b5 ∧ b5 ≠ b4 ∧ b6 ≠ b4 ∧ b6 ≠ b5 ∧ b6 ≠ b2 ∧ b6 ≠ b3 ∧ w.heap.size ≤ b6 ∧ w.heap.size ≤ b4 ∧ w.heap.size ≤ b5 ∧ b4 ≠ b2 ∧ b4 ≠ b3 ∧ b5 ≠ b2 ∧ b5 ≠ b3 ∧ b4 ≠ b6 ∧ b5 ≠ b6 ∧ w.heap.size ≤ b2 ∧ w.heap.size ≤ b3 ∧ b2 ≠ b3 ∧ b3 ≠ b2) := by
    have h1 := K0.out.2.2.2.2.2
    have h2 := k1.size
    exact ⟨by omega, by omega, by omega, by omega, by omega, by omega, by omega, by omega, by omega, by omega, by omega, by omega, by omega, by omega, by omega, by omega, by omega, by omega, by omega⟩
  have HS : Hid (Sv b4 0 1 W2 ∧ Sv b5 1 0 W2 ∧ Sv b6 1 1 W2 ∧ Sv b2 0 0 W2 ∧ Sv b3 0 0 W2 ∧ Below w.heap.size w W2) := by
    have hB := K0.out.2.2.2.2.1.trans (k1.mono K0.out.2.2.2.2.1.size)
    show _ ∧ _
    rw [hW2, hb2, hb3, hb4, hb5, hb6]
    exact ⟨(K0.out.1.below k1).alloc _ _, (K0.out.2.1.below k1).alloc _ _, Sv.newT 1 1 w1 _, (K0.out.2.2.1.below k1).alloc _ _, (K0.out.2.2.2.1.below k1).alloc _ _, hB.alloc hB.size _⟩
  clear k1 K0 HTg0
  go_wp2
  rw [← hW2]
  simp only [← hb6]
  simp only [← hb5]
  simp only [← hb4]
  simp only [← hb3]
  simp only [← hb2]
  clear hW2 hb2 hb3 hb4 hb5 hb6
  go_loopg [15] n (fun gk iv wx => ∃ i a b c d : Nat, iv = .int .i64 (i : Int) ∧ Hid (gk = n - i ∧ i ≤ n ∧ (∀ j, j < i → near l j) ∧ ST.q0.run (l.take i) = ⟨a, b, c, d⟩ ∧ a + c ≤ 1000000000000000000 ∧ b + d ≤ 1000000000000000000 ∧ Sv b4 a b wx ∧ Sv b5 c d wx ∧ Sv b6 ((a + c : Nat) : Int) ((b + d : Nat) : Int) wx ∧ Sv b2 0 0 wx ∧ Sv b3 0 0 wx ∧ Below w.heap.size w wx))
  case atStart => exact ⟨0, 0, 1, 1, 0, rfl, by omega, by omega, fun j hj => by omega, rfl, by omega, by omega, HS.out⟩
  case round =>
    clear HS
    obtain ⟨i, a, b, c, d, rfl, HR⟩ := hrel
    obtain ⟨h1, h2, h3, h4, h5, h6, h7⟩ := HR.out
    have HG : Hid (gk = n - i) := h1
    have HNr : Hid (∀ j, j < i → near l j) := h3
    have HQ : Hid (ST.q0.run (l.take i) = ⟨a, b, c, d⟩) := h4
    obtain ⟨u0, hu0⟩ : ∃ u, u = a + c := ⟨_, rfl⟩
    obtain ⟨v0, hv0⟩ : ∃ v, v = b + d := ⟨_, rfl⟩
    rw [← hu0, ← hv0] at h7
    have K0 : Hid (Sv b4 a b wr ∧ Sv b5 c d wr ∧ Sv b6 u0 v0 wr ∧ Sv b2 0 0 wr ∧ Sv b3 0 0 wr ∧ Below w.heap.size w wr) := h7
    clear HR h1 h3 h4 h7
    by_cases hi : i < n
    · have ti : decide ((i : Int) < (n : Int)) = true := decide_eq_true (by omega)
      have xi : (i : Int) < (n : Int) := by omega
      have xi2 : i < S.size := by omega
      have tz := HX.out i xi2 (by rw [← HNl.out]; exact hi)
      have hstep : ST.q0.run (l.take (i + 1)) = (⟨a, b, c, d⟩ : ST.Q).step (l[i]'(by rw [← HNl.out]; exact hi)) := by
        rw [List.take_succ_eq_append_getElem (by rw [← HNl.out]; exact hi), ST.run_more, HQ.out]
      obtain ⟨rb, hrb⟩ : ∃ r, r = l[i]'(by rw [← HNl.out]; exact hi) := ⟨_, rfl⟩
      rw [← hrb] at tz hstep
      clear hrb
      have p0 := K0.out.2.2.1.c0
      have p1 := K0.out.2.2.1.c1
      cases rb with
      | false =>
        have tz2 : ∀ h : i < S.size, (((S[i]'h).toNat : Nat) : Int) = 76 := fun _ => tz
        have tz3 : ∀ h : i < S.size, (S[i]'h).toNat = 76 := fun h => by have := tz2 h; omega
        clear tz
        have hq1 : ST.q0.run (l.take (i + 1)) = ⟨a, b, u0, v0⟩ := by rw [hstep, hu0, hv0]; rfl
        obtain ⟨W1, hW1⟩ : ∃ W, W = (wr.setCell ⟨b5, 0, none⟩ (.int .i64 (u0 : Int))).setCell ⟨b5, 1, none⟩ (.int .i64 (v0 : Int)) := ⟨_, rfl⟩
        have K1 : Hid (Sv b4 a b W1 ∧ Sv b5 u0 v0 W1 ∧ Sv b6 u0 v0 W1 ∧ Sv b2 0 0 W1 ∧ Sv b3 0 0 W1 ∧ Below w.heap.size w W1) := by
          show _ ∧ _
          rw [hW1]
          exact ⟨K0.out.1.other _ _ HN.out.2.1, K0.out.2.1.set _ _, K0.out.2.2.1.other _ _ (Ne.symm HN.out.2.2.2.1), K0.out.2.2.2.1.other _ _ HN.out.2.2.2.2.2.2.2.2.2.2.2.1, K0.out.2.2.2.2.1.other _ _ HN.out.2.2.2.2.2.2.2.2.2.2.2.2.1, (K0.out.2.2.2.2.2.setCell HN.out.2.2.2.2.2.2.2.2.1 _).setCell HN.out.2.2.2.2.2.2.2.2.1 _⟩
        have p2 := K0.out.1.c0
        have p3 := K0.out.1.c1
        have p4 := K0.out.2.1.c0
        have p5 := K0.out.2.1.c1
        have p6 := K0.out.2.1.f0
        have p7 := K0.out.2.1.f1
        have p8 := K0.out.2.1.lt
        have p9 := HN.out.2.1
        have HQ1 : Hid (ST.q0.run (l.take (i + 1)) = ⟨a, b, u0, v0⟩) := hq1
        obtain ⟨u, hu⟩ : ∃ u, u = a + u0 := ⟨_, rfl⟩
        obtain ⟨v, hv⟩ : ∃ v, v = b + v0 := ⟨_, rfl⟩
        have hle : u ≤ 2000000000000000000 ∧ v ≤ 2000000000000000000 := by omega
        have HNe : Hid (near l i ↔ u ≤ 1000000000000000000 ∧ v ≤ 1000000000000000000) := by
          have h5 := ST.run_q0 (l.take (i + 1))
          rw [HQ1.out] at h5
          show near l i ↔ _
          unfold near
          rw [← h5.1, ← h5.2, hu, hv]
        have HTg : Hid (∀ W, Calls Tryz.prog 80 #[.agg #[.int .i64 (a : Int), .int .i64 (b : Int)], .agg #[.int .i64 (u0 : Int), .int .i64 (v0 : Int)]] W fun e w' => e = .returned (.agg #[.int .i64 (u : Int), .int .i64 (v : Int)]) ∧ Below W.heap.size W w') := fun W => by
          rw [hu, hv]; exact together_any a b u0 v0 W (by omega) (by omega)
        have HUV : Hid (u = a + u0 ∧ v = b + v0) := ⟨hu, hv⟩
        clear hq1 hstep K0 hu0 hv0 hu hv
        go_wp2_with fail
        rw [← hW1]
        clear hW1 p0 p1 p2 p3 p4 p5 p6 p7 p8 p9
        refine (HTg.out W1).mono ?_
        rintro e w2 ⟨rfl, k2⟩
        have K2 : Hid (Sv b4 a b w2 ∧ Sv b5 u0 v0 w2 ∧ Sv b6 u0 v0 w2 ∧ Sv b2 0 0 w2 ∧ Sv b3 0 0 w2 ∧ Below w.heap.size w w2) := ⟨K1.out.1.below k2, K1.out.2.1.below k2, K1.out.2.2.1.below k2, K1.out.2.2.2.1.below k2, K1.out.2.2.2.2.1.below k2, K1.out.2.2.2.2.2.trans (k2.mono K1.out.2.2.2.2.2.size)⟩
        clear k2 K1 HTg
        obtain ⟨W3, hW3⟩ : ∃ W, W = (w2.setCell ⟨b6, 0, none⟩ (.int .i64 (u : Int))).setCell ⟨b6, 1, none⟩ (.int .i64 (v : Int)) := ⟨_, rfl⟩
        have K3 : Hid (Sv b4 a b W3 ∧ Sv b5 u0 v0 W3 ∧ Sv b6 u v W3 ∧ Sv b2 0 0 W3 ∧ Sv b3 0 0 W3 ∧ Below w.heap.size w W3) := by
          show _ ∧ _
          rw [hW3]
          exact ⟨K2.out.1.other _ _ HN.out.2.2.1, K2.out.2.1.other _ _ HN.out.2.2.2.1, K2.out.2.2.1.set _ _, K2.out.2.2.2.1.other _ _ HN.out.2.2.2.2.1, K2.out.2.2.2.2.1.other _ _ HN.out.2.2.2.2.2.1, (K2.out.2.2.2.2.2.setCell HN.out.2.2.2.2.2.2.1 _).setCell HN.out.2.2.2.2.2.2.1 _⟩
        have p2 := K2.out.2.2.1.c0
        have p3 := K2.out.2.2.1.c1
        have p4 := K2.out.2.2.1.f0
        have p5 := K2.out.2.2.1.f1
        have p6 := K2.out.2.2.1.lt
        by_cases hnr : u ≤ 1000000000000000000 ∧ v ≤ 1000000000000000000
        · have tm : decide (1000000000000000000 < max (u : Int) (v : Int)) = false := decide_eq_false (by omega)
          have tm3 : decide (1000000000000000000 < max u v) = false := decide_eq_false (by omega)
          have HR2 : Hid (∀ j, j < i + 1 → near l j) := fun j hj => by
            by_cases e : j = i
            · subst e; exact HNe.out.2 hnr
            · exact HNr.out j (by omega)
          clear K2
          go_wp2
          rw [← hW3]
          clear hW3 p2 p3 p4 p5 p6
          go_roundg (n - (i + 1))
          case rel => exact ⟨i + 1, a, b, u0, v0, by go_num, rfl, by omega, HR2.out, HQ1.out, by rw [← HUV.out.1]; exact hnr.1, by rw [← HUV.out.2]; exact hnr.2, by rw [← HUV.out.1, ← HUV.out.2]; exact K3.out⟩
          case measure => have := HG.out; omega
        · have tm : decide (1000000000000000000 < max (u : Int) (v : Int)) = true := decide_eq_true (by omega)
          have tm3 : decide (1000000000000000000 < max u v) = true := decide_eq_true (by omega)
          have r0 := K2.out.2.2.2.1.c0
          have r1 := K2.out.2.2.2.1.c1
          have r2 := K2.out.2.2.2.1.f0
          have r3 := K2.out.2.2.2.1.f1
          have r4 := K2.out.2.2.2.2.1.c0
          have r5 := K2.out.2.2.2.2.1.c1
          have r6 := K2.out.2.2.2.2.1.f0
          have r7 := K2.out.2.2.2.2.1.f1
          have r8 := K2.out.2.2.2.1.lt
          have r9 := K2.out.2.2.2.2.1.lt
          have n1 := HN.out.2.2.2.2.1
          have n2 := HN.out.2.2.2.2.2.1
          have HNn : Hid (¬ near l i) := fun h => hnr (HNe.out.1 h)
          have n3 : b2 ≠ b3 := HN.out.2.2.2.2.2.2.2.2.2.2.2.2.2.2.2.2.2.1
          have n4 : b3 ≠ b2 := HN.out.2.2.2.2.2.2.2.2.2.2.2.2.2.2.2.2.2.2
          have HF : Hid (Sv b2 0 0 ((((W3.setCell ⟨b2, 0, none⟩ (.int .i64 0)).setCell ⟨b2, 1, none⟩ (.int .i64 0)).setCell ⟨b3, 0, none⟩ (.int .i64 9)).setCell ⟨b3, 1, none⟩ (.int .i64 (i : Int))) ∧ Sv b3 9 i ((((W3.setCell ⟨b2, 0, none⟩ (.int .i64 0)).setCell ⟨b2, 1, none⟩ (.int .i64 0)).setCell ⟨b3, 0, none⟩ (.int .i64 9)).setCell ⟨b3, 1, none⟩ (.int .i64 (i : Int))) ∧ Below w.heap.size w ((((W3.setCell ⟨b2, 0, none⟩ (.int .i64 0)).setCell ⟨b2, 1, none⟩ (.int .i64 0)).setCell ⟨b3, 0, none⟩ (.int .i64 9)).setCell ⟨b3, 1, none⟩ (.int .i64 (i : Int)))) :=
            ⟨(K3.out.2.2.2.1.set 0 0).other _ _ n4, (K3.out.2.2.2.2.1.other _ _ n3).set _ _, (((K3.out.2.2.2.2.2.setCell HN.out.2.2.2.2.2.2.2.2.2.2.2.2.2.2.2.1 _).setCell HN.out.2.2.2.2.2.2.2.2.2.2.2.2.2.2.2.1 _).setCell HN.out.2.2.2.2.2.2.2.2.2.2.2.2.2.2.2.2.1 _).setCell HN.out.2.2.2.2.2.2.2.2.2.2.2.2.2.2.2.2.1 _⟩
          clear K2 K3 hnr
          go_wp2
          rw [← hW3]
          have e0 := HF.out.1.c0
          have e1 := HF.out.1.c1
          have e2 := HF.out.2.1.c0
          have e3 := HF.out.2.1.c1
          exact bodyPost_ret (v := .tuple #[.agg #[.int .i64 0, .int .i64 0], .agg #[.int .i64 9, .int .i64 (i : Int)]]) (by simp [results, Tryz.results51, go_sem, e0, e1, e2, e3]) rfl ⟨0, 0, 9, (i : Int), rfl, .inl ⟨i, by rw [← HNl.out]; exact hi, HNr.out, HNn.out, rfl, rfl, rfl, rfl⟩, HF.out.2.2⟩
      | true =>
        have tz2 : ∀ h : i < S.size, (((S[i]'h).toNat : Nat) : Int) = 82 := fun _ => tz
        have tz3 : ∀ h : i < S.size, (S[i]'h).toNat = 82 := fun h => by have := tz2 h; omega
        clear tz
        have hq1 : ST.q0.run (l.take (i + 1)) = ⟨u0, v0, c, d⟩ := by rw [hstep, hu0, hv0]; rfl
        obtain ⟨W1, hW1⟩ : ∃ W, W = (wr.setCell ⟨b4, 0, none⟩ (.int .i64 (u0 : Int))).setCell ⟨b4, 1, none⟩ (.int .i64 (v0 : Int)) := ⟨_, rfl⟩
        have K1 : Hid (Sv b4 u0 v0 W1 ∧ Sv b5 c d W1 ∧ Sv b6 u0 v0 W1 ∧ Sv b2 0 0 W1 ∧ Sv b3 0 0 W1 ∧ Below w.heap.size w W1) := by
          show _ ∧ _
          rw [hW1]
          exact ⟨K0.out.1.set _ _, K0.out.2.1.other _ _ HN.out.1, K0.out.2.2.1.other _ _ (Ne.symm HN.out.2.2.1), K0.out.2.2.2.1.other _ _ HN.out.2.2.2.2.2.2.2.2.2.1, K0.out.2.2.2.2.1.other _ _ HN.out.2.2.2.2.2.2.2.2.2.2.1, (K0.out.2.2.2.2.2.setCell HN.out.2.2.2.2.2.2.2.1 _).setCell HN.out.2.2.2.2.2.2.2.1 _⟩
        have p2 := K0.out.1.c0
        have p3 := K0.out.1.c1
        have p4 := K0.out.2.1.c0
        have p5 := K0.out.2.1.c1
        have p6 := K0.out.1.f0
        have p7 := K0.out.1.f1
        have p8 := K0.out.1.lt
        have p9 := HN.out.1
        have HQ1 : Hid (ST.q0.run (l.take (i + 1)) = ⟨u0, v0, c, d⟩) := hq1
        obtain ⟨u, hu⟩ : ∃ u, u = u0 + c := ⟨_, rfl⟩
        obtain ⟨v, hv⟩ : ∃ v, v = v0 + d := ⟨_, rfl⟩
        have hle : u ≤ 2000000000000000000 ∧ v ≤ 2000000000000000000 := by omega
        have HNe : Hid (near l i ↔ u ≤ 1000000000000000000 ∧ v ≤ 1000000000000000000) := by
          have h5 := ST.run_q0 (l.take (i + 1))
          rw [HQ1.out] at h5
          show near l i ↔ _
          unfold near
          rw [← h5.1, ← h5.2, hu, hv]
        have HTg : Hid (∀ W, Calls Tryz.prog 80 #[.agg #[.int .i64 (u0 : Int), .int .i64 (v0 : Int)], .agg #[.int .i64 (c : Int), .int .i64 (d : Int)]] W fun e w' => e = .returned (.agg #[.int .i64 (u : Int), .int .i64 (v : Int)]) ∧ Below W.heap.size W w') := fun W => by
          rw [hu, hv]; exact together_any u0 v0 c d W (by omega) (by omega)
        have HUV : Hid (u = u0 + c ∧ v = v0 + d) := ⟨hu, hv⟩
        clear hq1 hstep K0 hu0 hv0 hu hv
        go_wp2_with fail
        rw [← hW1]
        clear hW1 p0 p1 p2 p3 p4 p5 p6 p7 p8 p9
        refine (HTg.out W1).mono ?_
        rintro e w2 ⟨rfl, k2⟩
        have K2 : Hid (Sv b4 u0 v0 w2 ∧ Sv b5 c d w2 ∧ Sv b6 u0 v0 w2 ∧ Sv b2 0 0 w2 ∧ Sv b3 0 0 w2 ∧ Below w.heap.size w w2) := ⟨K1.out.1.below k2, K1.out.2.1.below k2, K1.out.2.2.1.below k2, K1.out.2.2.2.1.below k2, K1.out.2.2.2.2.1.below k2, K1.out.2.2.2.2.2.trans (k2.mono K1.out.2.2.2.2.2.size)⟩
        clear k2 K1 HTg
        obtain ⟨W3, hW3⟩ : ∃ W, W = (w2.setCell ⟨b6, 0, none⟩ (.int .i64 (u : Int))).setCell ⟨b6, 1, none⟩ (.int .i64 (v : Int)) := ⟨_, rfl⟩
        have K3 : Hid (Sv b4 u0 v0 W3 ∧ Sv b5 c d W3 ∧ Sv b6 u v W3 ∧ Sv b2 0 0 W3 ∧ Sv b3 0 0 W3 ∧ Below w.heap.size w W3) := by
          show _ ∧ _
          rw [hW3]
          exact ⟨K2.out.1.other _ _ HN.out.2.2.1, K2.out.2.1.other _ _ HN.out.2.2.2.1, K2.out.2.2.1.set _ _, K2.out.2.2.2.1.other _ _ HN.out.2.2.2.2.1, K2.out.2.2.2.2.1.other _ _ HN.out.2.2.2.2.2.1, (K2.out.2.2.2.2.2.setCell HN.out.2.2.2.2.2.2.1 _).setCell HN.out.2.2.2.2.2.2.1 _⟩
        have p2 := K2.out.2.2.1.c0
        have p3 := K2.out.2.2.1.c1
        have p4 := K2.out.2.2.1.f0
        have p5 := K2.out.2.2.1.f1
        have p6 := K2.out.2.2.1.lt
        by_cases hnr : u ≤ 1000000000000000000 ∧ v ≤ 1000000000000000000
        · have tm : decide (1000000000000000000 < max (u : Int) (v : Int)) = false := decide_eq_false (by omega)
          have tm3 : decide (1000000000000000000 < max u v) = false := decide_eq_false (by omega)
          have HR2 : Hid (∀ j, j < i + 1 → near l j) := fun j hj => by
            by_cases e : j = i
            · subst e; exact HNe.out.2 hnr
            · exact HNr.out j (by omega)
          clear K2
          go_wp2
          rw [← hW3]
          clear hW3 p2 p3 p4 p5 p6
          go_roundg (n - (i + 1))
          case rel => exact ⟨i + 1, u0, v0, c, d, by go_num, rfl, by omega, HR2.out, HQ1.out, by rw [← HUV.out.1]; exact hnr.1, by rw [← HUV.out.2]; exact hnr.2, by rw [← HUV.out.1, ← HUV.out.2]; exact K3.out⟩
          case measure => have := HG.out; omega
        · have tm : decide (1000000000000000000 < max (u : Int) (v : Int)) = true := decide_eq_true (by omega)
          have tm3 : decide (1000000000000000000 < max u v) = true := decide_eq_true (by omega)
          have r0 := K2.out.2.2.2.1.c0
          have r1 := K2.out.2.2.2.1.c1
          have r2 := K2.out.2.2.2.1.f0
          have r3 := K2.out.2.2.2.1.f1
          have r4 := K2.out.2.2.2.2.1.c0
          have r5 := K2.out.2.2.2.2.1.c1
          have r6 := K2.out.2.2.2.2.1.f0
          have r7 := K2.out.2.2.2.2.1.f1
          have r8 := K2.out.2.2.2.1.lt
          have r9 := K2.out.2.2.2.2.1.lt
          have n1 := HN.out.2.2.2.2.1
          have n2 := HN.out.2.2.2.2.2.1
          have HNn : Hid (¬ near l i) := fun h => hnr (HNe.out.1 h)
          have n3 : b2 ≠ b3 := HN.out.2.2.2.2.2.2.2.2.2.2.2.2.2.2.2.2.2.1
          have n4 : b3 ≠ b2 := HN.out.2.2.2.2.2.2.2.2.2.2.2.2.2.2.2.2.2.2
          have HF : Hid (Sv b2 0 0 ((((W3.setCell ⟨b2, 0, none⟩ (.int .i64 0)).setCell ⟨b2, 1, none⟩ (.int .i64 0)).setCell ⟨b3, 0, none⟩ (.int .i64 9)).setCell ⟨b3, 1, none⟩ (.int .i64 (i : Int))) ∧ Sv b3 9 i ((((W3.setCell ⟨b2, 0, none⟩ (.int .i64 0)).setCell ⟨b2, 1, none⟩ (.int .i64 0)).setCell ⟨b3, 0, none⟩ (.int .i64 9)).setCell ⟨b3, 1, none⟩ (.int .i64 (i : Int))) ∧ Below w.heap.size w ((((W3.setCell ⟨b2, 0, none⟩ (.int .i64 0)).setCell ⟨b2, 1, none⟩ (.int .i64 0)).setCell ⟨b3, 0, none⟩ (.int .i64 9)).setCell ⟨b3, 1, none⟩ (.int .i64 (i : Int)))) :=
            ⟨(K3.out.2.2.2.1.set 0 0).other _ _ n4, (K3.out.2.2.2.2.1.other _ _ n3).set _ _, (((K3.out.2.2.2.2.2.setCell HN.out.2.2.2.2.2.2.2.2.2.2.2.2.2.2.2.1 _).setCell HN.out.2.2.2.2.2.2.2.2.2.2.2.2.2.2.2.1 _).setCell HN.out.2.2.2.2.2.2.2.2.2.2.2.2.2.2.2.2.1 _).setCell HN.out.2.2.2.2.2.2.2.2.2.2.2.2.2.2.2.2.1 _⟩
          clear K2 K3 hnr
          go_wp2
          rw [← hW3]
          have e0 := HF.out.1.c0
          have e1 := HF.out.1.c1
          have e2 := HF.out.2.1.c0
          have e3 := HF.out.2.1.c1
          exact bodyPost_ret (v := .tuple #[.agg #[.int .i64 0, .int .i64 0], .agg #[.int .i64 9, .int .i64 (i : Int)]]) (by simp [results, Tryz.results51, go_sem, e0, e1, e2, e3]) rfl ⟨0, 0, 9, (i : Int), rfl, .inl ⟨i, by rw [← HNl.out]; exact hi, HNr.out, HNn.out, rfl, rfl, rfl, rfl⟩, HF.out.2.2⟩
    · have ti : decide ((i : Int) < (n : Int)) = false := decide_eq_false (by omega)
      obtain rfl : i = n := by omega
      have HE : Hid (u0 = (ST.nd l).1 ∧ v0 = (ST.nd l).2) := by
        have h8 := ST.run_q0 l
        have h9 := HQ.out
        rw [HNl.out, List.take_length] at h9
        rw [h9] at h8
        exact ⟨by rw [hu0, ← h8.1], by rw [hv0, ← h8.2]⟩
      have p0 := K0.out.2.2.1.c0
      have p1 := K0.out.2.2.1.c1
      have r0 := K0.out.2.2.2.1.c0
      have r1 := K0.out.2.2.2.1.c1
      have r2 := K0.out.2.2.2.1.f0
      have r3 := K0.out.2.2.2.1.f1
      have r4 := K0.out.2.2.2.2.1.c0
      have r5 := K0.out.2.2.2.2.1.c1
      have r6 := K0.out.2.2.2.2.1.f0
      have r7 := K0.out.2.2.2.2.1.f1
      have r8 := K0.out.2.2.2.1.lt
      have r9 := K0.out.2.2.2.2.1.lt
      have n3 : b2 ≠ b3 := HN.out.2.2.2.2.2.2.2.2.2.2.2.2.2.2.2.2.2.1
      have n4 : b3 ≠ b2 := HN.out.2.2.2.2.2.2.2.2.2.2.2.2.2.2.2.2.2.2
      have HF : Hid (Sv b2 u0 v0 ((((wr.setCell ⟨b2, 0, none⟩ (.int .i64 (u0 : Int))).setCell ⟨b2, 1, none⟩ (.int .i64 (v0 : Int))).setCell ⟨b3, 0, none⟩ (.int .i64 0)).setCell ⟨b3, 1, none⟩ (.int .i64 0)) ∧ Sv b3 0 0 ((((wr.setCell ⟨b2, 0, none⟩ (.int .i64 (u0 : Int))).setCell ⟨b2, 1, none⟩ (.int .i64 (v0 : Int))).setCell ⟨b3, 0, none⟩ (.int .i64 0)).setCell ⟨b3, 1, none⟩ (.int .i64 0)) ∧ Below w.heap.size w ((((wr.setCell ⟨b2, 0, none⟩ (.int .i64 (u0 : Int))).setCell ⟨b2, 1, none⟩ (.int .i64 (v0 : Int))).setCell ⟨b3, 0, none⟩ (.int .i64 0)).setCell ⟨b3, 1, none⟩ (.int .i64 0))) :=
        ⟨(K0.out.2.2.2.1.set _ _).other _ _ n4, (K0.out.2.2.2.2.1.other _ _ n3).set _ _, (((K0.out.2.2.2.2.2.setCell HN.out.2.2.2.2.2.2.2.2.2.2.2.2.2.2.2.1 _).setCell HN.out.2.2.2.2.2.2.2.2.2.2.2.2.2.2.2.1 _).setCell HN.out.2.2.2.2.2.2.2.2.2.2.2.2.2.2.2.2.1 _).setCell HN.out.2.2.2.2.2.2.2.2.2.2.2.2.2.2.2.2.1 _⟩
      clear K0 hu0 hv0
      go_wp2
      have e0 := HF.out.1.c0
      have e1 := HF.out.1.c1
      have e2 := HF.out.2.1.c0
      have e3 := HF.out.2.1.c1
      exact bodyPost_ret (v := .tuple #[.agg #[.int .i64 (u0 : Int), .int .i64 (v0 : Int)], .agg #[.int .i64 0, .int .i64 0]]) (by simp [results, Tryz.results51, go_sem, e0, e1, e2, e3]) rfl ⟨(u0 : Int), (v0 : Int), 0, 0, rfl, .inr ⟨by rw [← HNl.out]; exact HNr.out, by rw [HE.out.1], by rw [HE.out.2], rfl, rfl⟩, HF.out.2.2⟩
end Go.Proofs.YtcnfhndejkngkaaGreatDoor
