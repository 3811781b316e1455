/- The program: package torsion's each, eachLikely. -/
import Derived.Test.YtknnidbdgfimbaaTpC
import Derived.Test.YtknnidbdgfimbaaTnO
import Derived.Laws.EntriesVeiled
set_option linter.unusedSimpArgs false
set_option linter.unusedVariables false
set_option maxRecDepth 100000
namespace Go.Proofs.Ytknnidbdgfimbaa
open Go.RowKit TN

/-- Blocks that hold a curve or a function stay. -/
structure Kp (W W' : World) : Prop where
  size : W.heap.size ≤ W'.heap.size
  g : ∀ b c, Cl b c 45 W → Cl b c 45 W'
  f : ∀ b c, Cl b c 48 W → Cl b c 48 W'
theorem Kp.trans {A B C : World} (h : Kp A B) (k : Kp B C) : Kp A C := ⟨Nat.le_trans h.size k.size, fun b c x => k.g b c (h.g b c x), fun b c x => k.f b c (h.f b c x)⟩
theorem Kp.below {A B : World} (h : Below A.heap.size A B) : Kp A B := ⟨h.size, fun b c x => x.below h, fun b c x => x.below h⟩
abbrev Its := List (Int × Int × Bool × Nat)

/-- What is asked of the function that each point is handed to, with the lists so far. -/
structure Dc (FD : Nat) (cap : Array Value) (St : Its → World → Prop) : Prop where
  mono : ∀ l W W', St l W → Below W.heap.size W W' → St l W'
  call : ∀ (l : Its) (x y : Int) (f : Bool) (n : Nat) (W : World), St l W → l.length ≤ 4000 → n ≤ 12 → Calls Try.prog FD (#[.agg #[.int .i64 x, .int .i64 y, .bool f], .int .i64 n] ++ cap) W fun e w' => (∃ v, e = .returned v) ∧ St (l ++ [(x, y, f, n)]) w' ∧ Kp W w'

/-- What each holds beside. -/
structure Sx (FD : Nat) (cap : Array Value) (St : Its → World → Prop) (bg bd : Nat) (a b : Int) (l : Its) (W : World) : Prop where
  s : St l W
  g : Cl bg (Tl a b) 45 W
  d : Cl bd [.func (.func FD) #[] cap] 48 W
theorem Sx.below {FD : Nat} {cap : Array Value} {St : Its → World → Prop} {bg bd : Nat} {a b : Int} {l : Its} {W W' : World} (hD : Dc FD cap St) (h : Sx FD cap St bg bd a b l W) (k : Below W.heap.size W W') : Sx FD cap St bg bd a b l W' :=
  ⟨hD.mono _ _ _ h.s k, h.g.below k, h.d.below k⟩

set_option maxHeartbeats 2000000 in
theorem eachOneP (bL : Nat) (St : Its → World → Prop) (hD : Dc 19 #[.pointer (some ⟨bL, 0, none⟩)] St) (a b x y : Int) (l : Its) (bg bd : Nat) (w : World) (h : Cu a b) (hq : Lk a b x y) (hs : Sx 19 #[.pointer (some ⟨bL, 0, none⟩)] St bg bd a b l w) (hl : l.length ≤ 4000) :
    Calls Try.prog 38 #[.agg #[.int .i64 x, .int .i64 y, .bool false], .pointer (some ⟨bg, 0, none⟩), .pointer (some ⟨bd, 0, none⟩)] w fun e w' => (∃ v, e = .returned v) ∧ Sx 19 #[.pointer (some ⟨bL, 0, none⟩)] St bg bd a b (l ++ itm a b (x, y)) w' ∧ Kp w w' := by
  have HOr : Hid (∀ w, Calls Try.prog 39 #[Tv a b, .agg #[.int .i64 x, .int .i64 y, .bool false]] w fun e w' => e = .returned (OrV (ordR a b x y)) ∧ Below w.heap.size w w') := fun w => torder_any a b x y 11 (ordR a b x y) w h hq (ord_is h hq) (by omega)
  have HI : Hid (itm a b (x, y) = match ordR a b x y with | some n => [(x, y, false, n)] | none => []) := rfl
  have HB : Hid (∀ m, ordR a b x y = some m → 2 ≤ m ∧ m ≤ 12) := fun m e => ordR_bd h hq e
  have HD : Hid (Dc 19 #[.pointer (some ⟨bL, 0, none⟩)] St) := hD
  have HS : Hid (Sx 19 #[.pointer (some ⟨bL, 0, none⟩)] St bg bd a b l w) := hs
  obtain ⟨R, hR⟩ : ∃ R, ordR a b x y = R := ⟨_, rfl⟩
  rw [hR] at HOr HI HB
  clear hR
  have HS0 : Hid (Sx 19 #[.pointer (some ⟨bL, 0, none⟩)] St bg bd a b l (w.alloc (.cells #[.int .i64 x, .int .i64 y, .bool false] 30))) := hs.below hD (tala _ _)
  have q0 : ∀ o : Obj, (w.alloc o).cell? ⟨bg, 0, none⟩ = some (.int .i64 a) := fun o => (hs.g.alloc o).cell 0
  have q1 : ∀ o : Obj, (w.alloc o).cell? ⟨bg, 1, none⟩ = some (.int .i64 b) := fun o => (hs.g.alloc o).cell 1
  have q2 : ∀ o : Obj, (w.alloc o).cell? ⟨bg, 2, none⟩ = some (.int .i64 (dis a b)) := fun o => (hs.g.alloc o).cell 2
  have P0 : Hid (Cl w.heap.size (Ql x y false) 30 (w.alloc (.cells #[.int .i64 x, .int .i64 y, .bool false] 30))) := Cl.new (Ql x y false) _ w
  clear h hq hs hD
  unfold Tv at HOr
  go_enter Try.func38, Try.ntmps38
  go_wp2_with fail
  refine (HOr.out _).mono ?_
  rintro e w1 ⟨rfl, k1⟩
  have S1 := HS0.out.below HD.out k1
  have HS1 : Hid (Sx 19 #[.pointer (some ⟨bL, 0, none⟩)] St bg bd a b l w1) := S1
  have p1 := P0.out.below k1
  have d0 : w1.cell? ⟨bd, 0, none⟩ = some (.func (.func 19) #[] #[.pointer (some ⟨bL, 0, none⟩)]) := S1.d.cell 0
  have x0 : w1.cell? ⟨w.heap.size, 0, none⟩ = some (.int .i64 x) := p1.cell 0
  have x1 : w1.cell? ⟨w.heap.size, 1, none⟩ = some (.int .i64 y) := p1.cell 1
  have x2 : w1.cell? ⟨w.heap.size, 2, none⟩ = some (.bool false) := p1.cell 2
  have HK : Hid (Kp w w1) := Kp.below ((tala w _).trans (k1.mono (by simp)))
  clear S1 p1 k1 q0 q1 q2 P0 HS0 HOr HS
  cases R with
  | none =>
    have HI' : Hid (itm a b (x, y) = []) := HI.out
    unfold OrV
    clear HI HB
    go_wp2
    refine bodyPost_end (results_none rfl _ _ _) rfl ⟨⟨_, rfl⟩, ?_, HK.out⟩
    rw [HI'.out, List.append_nil]
    exact HS1.out
  | some n =>
    have HI' : Hid (itm a b (x, y) = [(x, y, false, n)]) := HI.out
    have hn := HB.out n rfl
    unfold OrV
    clear HI HB
    go_wp2_with fail
    refine (HD.out.call l x y false n _ HS1.out.s hl (by omega)).mono ?_
    rintro e w2 ⟨⟨v, rfl⟩, s2, k2⟩
    have HE : Hid (Sx 19 #[.pointer (some ⟨bL, 0, none⟩)] St bg bd a b (l ++ itm a b (x, y)) w2 ∧ Kp w w2) := by
      refine ⟨?_, HK.out.trans k2⟩
      rw [HI'.out]
      exact ⟨s2, k2.g _ _ HS1.out.g, k2.f _ _ HS1.out.d⟩
    clear s2 k2
    go_wp2
    exact bodyPost_end (results_none rfl _ _ _) rfl ⟨⟨_, rfl⟩, HE.out⟩

set_option maxHeartbeats 2000000 in
theorem eachOneS (bM bN : Nat) (St : Its → World → Prop) (hD : Dc 26 #[.pointer (some ⟨bM, 0, none⟩), .pointer (some ⟨bN, 0, none⟩)] St) (a b x y : Int) (l : Its) (bg bd : Nat) (w : World) (h : Cu a b) (hq : Lk a b x y) (hs : Sx 26 #[.pointer (some ⟨bM, 0, none⟩), .pointer (some ⟨bN, 0, none⟩)] St bg bd a b l w) (hl : l.length ≤ 4000) :
    Calls Try.prog 38 #[.agg #[.int .i64 x, .int .i64 y, .bool false], .pointer (some ⟨bg, 0, none⟩), .pointer (some ⟨bd, 0, none⟩)] w fun e w' => (∃ v, e = .returned v) ∧ Sx 26 #[.pointer (some ⟨bM, 0, none⟩), .pointer (some ⟨bN, 0, none⟩)] St bg bd a b (l ++ itm a b (x, y)) w' ∧ Kp w w' := by
  have HOr : Hid (∀ w, Calls Try.prog 39 #[Tv a b, .agg #[.int .i64 x, .int .i64 y, .bool false]] w fun e w' => e = .returned (OrV (ordR a b x y)) ∧ Below w.heap.size w w') := fun w => torder_any a b x y 11 (ordR a b x y) w h hq (ord_is h hq) (by omega)
  have HI : Hid (itm a b (x, y) = match ordR a b x y with | some n => [(x, y, false, n)] | none => []) := rfl
  have HB : Hid (∀ m, ordR a b x y = some m → 2 ≤ m ∧ m ≤ 12) := fun m e => ordR_bd h hq e
  have HD : Hid (Dc 26 #[.pointer (some ⟨bM, 0, none⟩), .pointer (some ⟨bN, 0, none⟩)] St) := hD
  have HS : Hid (Sx 26 #[.pointer (some ⟨bM, 0, none⟩), .pointer (some ⟨bN, 0, none⟩)] St bg bd a b l w) := hs
  obtain ⟨R, hR⟩ : ∃ R, ordR a b x y = R := ⟨_, rfl⟩
  rw [hR] at HOr HI HB
  clear hR
  have HS0 : Hid (Sx 26 #[.pointer (some ⟨bM, 0, none⟩), .pointer (some ⟨bN, 0, none⟩)] St bg bd a b l (w.alloc (.cells #[.int .i64 x, .int .i64 y, .bool false] 30))) := hs.below hD (tala _ _)
  have q0 : ∀ o : Obj, (w.alloc o).cell? ⟨bg, 0, none⟩ = some (.int .i64 a) := fun o => (hs.g.alloc o).cell 0
  have q1 : ∀ o : Obj, (w.alloc o).cell? ⟨bg, 1, none⟩ = some (.int .i64 b) := fun o => (hs.g.alloc o).cell 1
  have q2 : ∀ o : Obj, (w.alloc o).cell? ⟨bg, 2, none⟩ = some (.int .i64 (dis a b)) := fun o => (hs.g.alloc o).cell 2
  have P0 : Hid (Cl w.heap.size (Ql x y false) 30 (w.alloc (.cells #[.int .i64 x, .int .i64 y, .bool false] 30))) := Cl.new (Ql x y false) _ w
  clear h hq hs hD
  unfold Tv at HOr
  go_enter Try.func38, Try.ntmps38
  go_wp2_with fail
  refine (HOr.out _).mono ?_
  rintro e w1 ⟨rfl, k1⟩
  have S1 := HS0.out.below HD.out k1
  have HS1 : Hid (Sx 26 #[.pointer (some ⟨bM, 0, none⟩), .pointer (some ⟨bN, 0, none⟩)] St bg bd a b l w1) := S1
  have p1 := P0.out.below k1
  have d0 : w1.cell? ⟨bd, 0, none⟩ = some (.func (.func 26) #[] #[.pointer (some ⟨bM, 0, none⟩), .pointer (some ⟨bN, 0, none⟩)]) := S1.d.cell 0
  have x0 : w1.cell? ⟨w.heap.size, 0, none⟩ = some (.int .i64 x) := p1.cell 0
  have x1 : w1.cell? ⟨w.heap.size, 1, none⟩ = some (.int .i64 y) := p1.cell 1
  have x2 : w1.cell? ⟨w.heap.size, 2, none⟩ = some (.bool false) := p1.cell 2
  have HK : Hid (Kp w w1) := Kp.below ((tala w _).trans (k1.mono (by simp)))
  clear S1 p1 k1 q0 q1 q2 P0 HS0 HOr HS
  cases R with
  | none =>
    have HI' : Hid (itm a b (x, y) = []) := HI.out
    unfold OrV
    clear HI HB
    go_wp2
    refine bodyPost_end (results_none rfl _ _ _) rfl ⟨⟨_, rfl⟩, ?_, HK.out⟩
    rw [HI'.out, List.append_nil]
    exact HS1.out
  | some n =>
    have HI' : Hid (itm a b (x, y) = [(x, y, false, n)]) := HI.out
    have hn := HB.out n rfl
    unfold OrV
    clear HI HB
    go_wp2_with fail
    refine (HD.out.call l x y false n _ HS1.out.s hl (by omega)).mono ?_
    rintro e w2 ⟨⟨v, rfl⟩, s2, k2⟩
    have HE : Hid (Sx 26 #[.pointer (some ⟨bM, 0, none⟩), .pointer (some ⟨bN, 0, none⟩)] St bg bd a b (l ++ itm a b (x, y)) w2 ∧ Kp w w2) := by
      refine ⟨?_, HK.out.trans k2⟩
      rw [HI'.out]
      exact ⟨s2, k2.g _ _ HS1.out.g, k2.f _ _ HS1.out.d⟩
    clear s2 k2
    go_wp2
    exact bodyPost_end (results_none rfl _ _ _) rfl ⟨⟨_, rfl⟩, HE.out⟩

theorem lk_next {a b x : Int} {i : Nat} {l0 : Its} (hx : -32 + (i : Int) = x) : l0 ++ (lkA a b (-32) (i + 1)).flatMap (itm a b) = l0 ++ (lkA a b (-32) i).flatMap (itm a b) ++ (lkL a b x).flatMap (itm a b) := by
  rw [lkA, hx, List.flatMap_append, List.append_assoc]
set_option maxHeartbeats 4000000 in
theorem eachLikely_any (FD : Nat) (cap : Array Value) (St : Its → World → Prop) (a b : Int) (l0 : Its) (bg bd : Nat) (w : World) (h : Cu a b) (hl0 : l0.length ≤ 10) (hD : Dc FD cap St)
    (hE : ∀ (l : Its) (x y : Int) (W : World), Lk a b x y → l.length ≤ 4000 → Sx FD cap St bg bd a b l W → Calls Try.prog 38 #[.agg #[.int .i64 x, .int .i64 y, .bool false], .pointer (some ⟨bg, 0, none⟩), .pointer (some ⟨bd, 0, none⟩)] W fun e w' => (∃ v, e = .returned v) ∧ Sx FD cap St bg bd a b (l ++ itm a b (x, y)) w' ∧ Kp W w')
    (hs : Sx FD cap St bg bd a b l0 w) :
    Calls Try.prog 37 #[Tv a b, .func (.func 38) #[] #[.pointer (some ⟨bg, 0, none⟩), .pointer (some ⟨bd, 0, none⟩)]] w fun e w' => (∃ v, e = .returned v) ∧ Sx FD cap St bg bd a b (l0 ++ lkI a b) w' := by
  have HC : Hid (Cu a b) := h
  have HE : Hid (∀ (l : Its) (x y : Int) (W : World), Lk a b x y → l.length ≤ 4000 → Sx FD cap St bg bd a b l W → Calls Try.prog 38 #[.agg #[.int .i64 x, .int .i64 y, .bool false], .pointer (some ⟨bg, 0, none⟩), .pointer (some ⟨bd, 0, none⟩)] W fun e w' => (∃ v, e = .returned v) ∧ Sx FD cap St bg bd a b (l ++ itm a b (x, y)) w' ∧ Kp W w') := hE
  have HD : Hid (Dc FD cap St) := hD
  have HS0 : Hid (Sx FD cap St bg bd a b l0 (w.alloc (.cells #[.int .i64 a, .int .i64 b, .int .i64 (dis a b)] 45)) ∧ Cl w.heap.size (Tl a b) 45 (w.alloc (.cells #[.int .i64 a, .int .i64 b, .int .i64 (dis a b)] 45))) := ⟨hs.below hD (tala _ _), Cl.new (Tl a b) _ w⟩
  have HL : Hid (∀ x w, Calls Try.prog 54 #[.agg #[.int .i64 a, .int .i64 b, .int .i64 (dis a b)], .int .i64 x] w fun e w' => ∃ (y : Int) (ok : Bool), e = .returned (.tuple #[.int .i64 y, .bool ok]) ∧ LyOut a b x y ok ∧ Below w.heap.size w w') := fun x w => likelyY_any a b x w h
  clear h hE hs hD
  unfold Tv
  go_enter Try.func37, Try.ntmps37
  go_wp2
  go_loopw [4, 5, 6] (fun xv _ _ wx => ∃ i : Nat, i ≤ 1632 ∧ xv = .int .i64 (-32 + (i : Int)) ∧ Hid (Sx FD cap St bg bd a b (l0 ++ (lkA a b (-32) i).flatMap (itm a b)) wx ∧ Cl w.heap.size (Tl a b) 45 wx)) (fun xv _ _ _ => (1600 - intOf xv).toNat)
  case atStart => exact ⟨0, by omega, rfl, by simpa [lkA] using HS0.out.1, HS0.out.2⟩
  case round =>
    obtain ⟨i, hi, rfl, HS⟩ := hrel
    clear HS0
    obtain ⟨l, hl⟩ : ∃ l, l0 ++ (lkA a b (-32) i).flatMap (itm a b) = l := ⟨_, rfl⟩
    have hll : l.length ≤ 3900 := by
      rw [← hl, List.length_append]
      have h1 := itms_len a b (lkA a b (-32) i)
      have h2 := lkA_len a b (-32) i
      omega
    have HLL : Hid (l0 ++ (lkA a b (-32) i).flatMap (itm a b) = l) := hl
    rw [hl] at HS
    clear hl
    by_cases hlt : i < 1632
    · have t1 : decide (-32 + (i : Int) ≤ 1599) = true := decide_eq_true (by omega)
      have g0 : wr.cell? ⟨w.heap.size, 0, none⟩ = some (.int .i64 a) := HS.out.2.cell 0
      have g1 : wr.cell? ⟨w.heap.size, 1, none⟩ = some (.int .i64 b) := HS.out.2.cell 1
      have g2 : wr.cell? ⟨w.heap.size, 2, none⟩ = some (.int .i64 (dis a b)) := HS.out.2.cell 2
      obtain ⟨x, hx⟩ : ∃ x, -32 + (i : Int) = x := ⟨_, rfl⟩
      have hx1 : -32 ≤ x ∧ x ≤ 1599 := by omega
      have HX : Hid (-32 + (i : Int) = x ∧ i < 1632) := ⟨hx, hlt⟩
      rw [hx] at t1 ⊢
      clear hx hlt hi
      go_wp2_with fail
      refine (HL.out x _).mono ?_
      rintro e w1 ⟨y, ok, rfl, ho, k1⟩
      have HS1 : Hid (Sx FD cap St bg bd a b l w1 ∧ Cl w.heap.size (Tl a b) 45 w1) := ⟨HS.out.1.below HD.out k1, HS.out.2.below k1⟩
      clear k1 HS g0 g1 g2
      cases ok with
      | false =>
        have HO : Hid (lkL a b x = []) := lkL_none (ho.2 rfl)
        clear ho
        go_wp2
        refine ⟨⟨i + 1, by have := HX.out.2; omega, by rw [← HX.out.1]; congr 1; omega, ?_, HS1.out.2⟩, by simp [intOf]; omega⟩
        rw [lk_next HX.out.1, HO.out, List.flatMap_nil, HLL.out, List.append_nil]
        exact HS1.out.1
      | true =>
        obtain ⟨hy, hlk⟩ := ho.1 rfl
        clear ho
        have hyb := hlk.yb HC.out
        rcases Int.lt_or_le 0 y with hy0 | hy0
        · have t2 : decide (0 < y) = true := decide_eq_true hy0
          have HO : Hid (lkL a b x = [(x, -y), (x, y)]) := lkL_pos hy0 hlk
          have HLk : Hid (Lk a b x y) := hlk
          clear hlk hy0
          go_wp2_with fail
          refine (HE.out l x (-y) _ HLk.out.neg (by omega) HS1.out.1).mono ?_
          rintro e w2 ⟨⟨v, rfl⟩, s2, k2⟩
          have HS2 : Hid (Sx FD cap St bg bd a b (l ++ itm a b (x, -y)) w2 ∧ Cl w.heap.size (Tl a b) 45 w2) := ⟨s2, k2.g _ _ HS1.out.2⟩
          have hl2 : (l ++ itm a b (x, -y)).length ≤ 3901 := by rw [List.length_append]; have := itm_len a b (x, -y); omega
          clear s2 k2 HS1
          go_wp2_with fail
          refine (HE.out (l ++ itm a b (x, -y)) x y _ HLk.out (by omega) HS2.out.1).mono ?_
          rintro e w3 ⟨⟨v3, rfl⟩, s3, k3⟩
          have HS3 : Hid (Sx FD cap St bg bd a b (l ++ itm a b (x, -y) ++ itm a b (x, y)) w3 ∧ Cl w.heap.size (Tl a b) 45 w3) := ⟨s3, k3.g _ _ HS2.out.2⟩
          clear s3 k3 HS2
          go_wp2
          refine ⟨⟨i + 1, by have := HX.out.2; omega, by rw [← HX.out.1]; congr 1; omega, ?_, HS3.out.2⟩, by simp [intOf]; omega⟩
          rw [lk_next HX.out.1, HO.out, HLL.out]
          have := HS3.out.1
          rw [List.append_assoc] at this
          simpa using this
        · have t2 : decide (0 < y) = false := decide_eq_false (by omega)
          obtain rfl : y = 0 := by omega
          have HO : Hid (lkL a b x = [(x, 0)]) := lkL_zero hlk
          have HLk : Hid (Lk a b x 0) := hlk
          clear hlk hy0
          go_wp2_with fail
          refine (HE.out l x 0 _ HLk.out (by omega) HS1.out.1).mono ?_
          rintro e w2 ⟨⟨v, rfl⟩, s2, k2⟩
          have HS2 : Hid (Sx FD cap St bg bd a b (l ++ itm a b (x, 0)) w2 ∧ Cl w.heap.size (Tl a b) 45 w2) := ⟨s2, k2.g _ _ HS1.out.2⟩
          clear s2 k2 HS1
          go_wp2
          refine ⟨⟨i + 1, by have := HX.out.2; omega, by rw [← HX.out.1]; congr 1; omega, ?_, HS2.out.2⟩, by simp [intOf]; omega⟩
          rw [lk_next HX.out.1, HO.out, HLL.out]
          simpa using HS2.out.1
    · obtain rfl : i = 1632 := by omega
      have HE2 : Hid (Sx FD cap St bg bd a b (l0 ++ lkI a b) wr) := by show Sx _ _ _ _ _ _ _ _ _; rw [lkI, HLL.out]; exact HS.out.1
      have t1 : decide (-32 + ((1632 : Nat) : Int) ≤ 1599) = false := by decide
      clear HS HLL hll hlt hi
      go_wp2
      exact bodyPost_end (results_none rfl _ _ _) rfl ⟨⟨_, rfl⟩, HE2.out⟩

end Go.Proofs.Ytknnidbdgfimbaa
