import Derived.Test.YtnkjadpmigpneaaGreatDoorBigH
import Derived.Test.YtnkjadpmigpneaaGreatDoorJpA
import Derived.Test.YtnkjadpmigpneaaGreatDoorJpE
import Derived.Laws.IdiomStrings
import Derived.Test.YtnkjadpmigpneaaGreatDoorJpQ
import Derived.Test.YtnkjadpmigpneaaGreatDoorJpB
import Derived.BigRegion
import Derived.Test.YtnkjadpmigpneaaGreatDoorLgK
import Derived.Deep.LoopGhost
section
set_option linter.unusedSimpArgs false
set_option linter.unusedVariables false
set_option maxRecDepth 100000
namespace Go.Proofs.YtnkjadpmigpneaaGreatDoor
open Go.RowKit LgM
def decZ (x : Int) : List UInt8 := if x < 0 then 45 :: Lib.decDigits x.natAbs else Lib.decDigits x.natAbs
theorem decZ_nat (n : Nat) : decZ (n : Int) = Lib.decDigits n := by unfold decZ; rw [if_neg (by omega)]; rfl
theorem decZ_neg {x : Int} (h : x < 0) : decZ x = 45 :: Lib.decDigits x.natAbs := by unfold decZ; rw [if_pos h]
theorem decZ_pos {x : Int} (h : ¬ x < 0) : decZ x = Lib.decDigits x.natAbs := by unfold decZ; rw [if_neg h]
theorem pw_ten (m : Nat) : pw m ≤ 10 ^ (10 * m) := by
  induction m with
  | zero => decide
  | succ m ih =>
    rw [show 10 * (m + 1) = 10 * m + 10 by omega, Nat.pow_add, Nat.mul_comm]
    exact Nat.mul_le_mul (by decide) ih
theorem dec_pos (n : Nat) : 1 ≤ (Lib.decDigits n).length := by
  by_cases h : n < 10
  · rw [dec_lt h]; simp
  · rw [dec_ge h]; simp
theorem dec_pw {n m : Nat} (h : n < pw m) (hm : 1 ≤ m) : (Lib.decDigits n).length ≤ 10 * m := dec_len n (10 * m) (by omega) (Nat.lt_of_lt_of_le h (pw_ten m))
theorem Tryz.infoU8 : (Tryz.prog.info? 5).map (fun i => (i.zero, i.size, i.bytes)) = some (some (.int .u8 0), 1, 1) := by kernel_rfl
theorem own_later {B n size : Nat} {w w' : World} {v : Value} {xs : List Value} {e : TypeId} (h : w.ownsRow B e size v n xs) (k : Below w.heap.size w w') : w'.ownsRow B e size v n xs := by
  refine ⟨h.1, ?_⟩
  rcases h.2 with hn | ⟨g, cap, cur, rfl, hb, hgg, rest⟩
  · exact .inl hn
  · exact .inr ⟨g, cap, cur, rfl, hb, (k.block g (Array.getElem?_eq_some_iff.1 hgg).1).trans hgg, rest⟩
def u8s (l : List UInt8) : List Value := l.map fun c => .int .u8 (c.toNat : Int)
structure Dg (w wx : World) (v : Value) (cs : List UInt8) : Prop where
  row : wx.ownsRow w.heap.size 5 1 v cs.length (u8s cs)
  k : Below w.heap.size w wx
theorem Dg.below {w wx wy : World} {v : Value} {cs : List UInt8} (h : Dg w wx v cs) (k : Below wx.heap.size wx wy) : Dg w wy v cs := ⟨own_later h.row k, h.k.trans (k.mono h.k.size)⟩
theorem own_news {b : Nat} {l : List Value} {t : TypeId} {w : World} (h : Cl b l t w) : ∀ j u, l[j]? = some u → w.cell? ((⟨b, 0, none⟩ : Addr).add j) = some u := by
  intro j u hu
  have hadd : (⟨b, 0, none⟩ : Addr).add j = ⟨b, j, none⟩ := by unfold Addr.add; split <;> simp_all
  rw [hadd, h.cell j]
  exact hu
def Lf (n a : Nat) (cs : List UInt8) : Prop := (0 < a ∧ Lib.decDigits n = Lib.decDigits a ++ cs.reverse) ∨ (a = 0 ∧ Lib.decDigits n = cs.reverse)
theorem Lf.step {n a : Nat} {cs : List UInt8} (h : Lf n a cs) (ha : 0 < a) : Lf n (a / 10) (cs ++ [UInt8.ofNat (48 + a % 10)]) := by
  rcases h with ⟨_, h⟩ | ⟨h, _⟩
  · by_cases h1 : a < 10
    · refine .inr ⟨by omega, ?_⟩
      rw [h, dec_lt h1, List.reverse_append, Nat.mod_eq_of_lt h1]; rfl
    · refine .inl ⟨by omega, ?_⟩
      rw [h, dec_ge h1, List.reverse_append, List.append_assoc]; rfl
  · omega
theorem Lf.len {n a : Nat} {cs : List UInt8} (h : Lf n a cs) : cs.length ≤ (Lib.decDigits n).length := by
  rcases h with ⟨_, h⟩ | ⟨_, h⟩
  · rw [h]; simp
  · rw [h]; simp
def rv (T : List UInt8) (i j : Nat) : Nat := if j < i ∨ T.length - 1 - i < j then (T.getD (T.length - 1 - j) 0).toNat else (T.getD j 0).toNat
def Rvd (T : List UInt8) (g i : Nat) (W : World) : Prop := ∀ j, j < T.length → W.cell? ⟨g, j, none⟩ = some (.int .u8 (rv T i j : Int)) ∧ W.frozen? ⟨g, j, none⟩ = false
theorem rv_zero (T : List UInt8) {j : Nat} (h : j < T.length) : rv T 0 j = (T.getD j 0).toNat := by unfold rv; rw [if_neg (by omega)]
theorem rv_end {T : List UInt8} {i j : Nat} (h : j < T.length) (hi : T.length - 1 - i ≤ i) (hi2 : i < T.length) : rv T i j = (T.getD (T.length - 1 - j) 0).toNat := by
  unfold rv
  split
  · rfl
  · rw [show T.length - 1 - j = j by omega]
theorem rv_step {T : List UInt8} {i j : Nat} (h : j < T.length) (hi : i < T.length - 1 - i) : rv T (i + 1) j = if j = T.length - 1 - i then rv T i i else if j = i then rv T i (T.length - 1 - i) else rv T i j := by
  have e1 : rv T i i = (T.getD i 0).toNat := by unfold rv; rw [if_neg (by omega)]
  have e2 : rv T i (T.length - 1 - i) = (T.getD (T.length - 1 - i) 0).toNat := by unfold rv; rw [if_neg (by omega)]
  rw [e1, e2]
  by_cases h1 : j = T.length - 1 - i
  · rw [if_pos h1]; unfold rv
    rw [if_pos (by omega), h1, show T.length - 1 - (T.length - 1 - i) = i by omega]
  · rw [if_neg h1]
    by_cases h2 : j = i
    · rw [if_pos h2]; unfold rv
      rw [if_pos (by omega), h2]
    · rw [if_neg h2]; unfold rv
      by_cases h3 : j < i ∨ T.length - 1 - i < j
      · rw [if_pos h3, if_pos (by omega)]
      · rw [if_neg h3, if_neg (by omega)]
end Go.Proofs.YtnkjadpmigpneaaGreatDoor
end

section
set_option linter.unusedSimpArgs false
set_option linter.unusedVariables false
set_option maxRecDepth 100000
namespace Go.Proofs.YtnkjadpmigpneaaGreatDoor
open Go.RowKit LgM
theorem bel_oneB (w : World) (o : Obj) : Below w.heap.size w (w.alloc o) := Below.alloc (Below.refl _ _) (Nat.le_refl _) o
theorem nb_oneB (lo hi n : Int) : nb lo hi 0 [n] = if lo ≤ n ∧ n ≤ hi then (0, 0) else (3, 0) := by
  by_cases h : lo ≤ n ∧ n ≤ hi
  · rw [if_pos h]
    exact nb_none lo hi [n] (fun j hj => by obtain rfl : j = 0 := by simpa using hj
                                            simp [bwB]; omega)
  · rw [if_neg h]
    have := nb_hit lo hi [n] 0 (by simp) (fun j hj => by omega) (by simp [bwB]; omega)
    simpa using this
theorem nb_twoB (lo hi n k : Int) : nb lo hi 0 [n, k] = if lo ≤ n ∧ n ≤ hi then (if lo ≤ k ∧ k ≤ hi then (0, 0) else (3, 1)) else (3, 0) := by
  by_cases h : lo ≤ n ∧ n ≤ hi
  · rw [if_pos h]
    by_cases h2 : lo ≤ k ∧ k ≤ hi
    · rw [if_pos h2]
      exact nb_none lo hi [n, k] (fun j hj => by
        have : j = 0 ∨ j = 1 := by simp at hj; omega
        rcases this with rfl | rfl <;> simp [bwB] <;> omega)
    · rw [if_neg h2]
      have := nb_hit lo hi [n, k] 1 (by simp) (fun j hj => by obtain rfl : j = 0 := by omega
                                                              simp [bwB]; omega) (by simp [bwB]; omega)
      simpa using this
  · rw [if_neg h]
    have := nb_hit lo hi [n, k] 0 (by simp) (fun j hj => by omega) (by simp [bwB]; omega)
    simpa using this
theorem one_cellB (n : Int) (W : World) : ∀ j, j < [n].length → (W.alloc (.cells #[.int .i64 n] 3)).cell? ⟨W.heap.size, 0 + j, none⟩ = some (.int .i64 ([n].getD j 0)) := by
  intro j hj
  obtain rfl : j = 0 := by simpa using hj
  simp
theorem two_cellB (n k : Int) (w : World) : ∀ j, j < [n, k].length → (w.alloc (.cells #[.int .i64 n, .int .i64 k] 3)).cell? ⟨w.heap.size, 0 + j, none⟩ = some (.int .i64 ([n, k].getD j 0)) := by
  intro j hj
  have : j = 0 ∨ j = 1 := by simp at hj; omega
  rcases this with rfl | rfl <;> simp
set_option maxHeartbeats 2000000 in
theorem Sets_bad0 (n k : Int) (w : World) (hn : n < 0 ∨ 200 < n) :
    Calls Tryz.prog 33 #[.int .i64 n, .int .i64 k] w fun e w' => e = .returned (.tuple #[.string ⟨#[]⟩, .agg #[.int .i64 3, .int .i64 0]]) ∧ Below w.heap.size w w' := by
  have HB : Hid (∀ W : World, Calls Tryz.prog 35 #[.int .i64 0, .int .i64 200, .slice (some ⟨W.heap.size, 0, none⟩) 2 2] (W.alloc (.cells #[.int .i64 n, .int .i64 k] 3)) fun e w' => e = .returned (.agg #[.int .i64 3, .int .i64 0]) ∧ Below (W.heap.size + 1) (W.alloc (.cells #[.int .i64 n, .int .i64 k] 3)) w') := fun W => by
    have := between_any 0 200 [n, k] W.heap.size 0 2 (W.alloc (.cells #[.int .i64 n, .int .i64 k] 3)) (by simp) (by simp) (fun j hj => two_cellB n k W j hj)
    rw [nb_twoB, if_neg (by omega)] at this
    simpa using this
  clear hn
  go_enter Tryz.func33, Tryz.ntmps33
  obtain ⟨W0, hW0⟩ : ∃ W, w.alloc (.cells #[.int .i64 0, .int .i64 0] 23) = W := ⟨_, rfl⟩
  have S0 := Sv.new 0 0 w
  have k0 := bel_oneB w (.cells #[.int .i64 0, .int .i64 0] 23)
  have z0 : W0.heap.size = w.heap.size + 1 := by rw [← hW0]; simp
  rw [hW0] at S0 k0
  go_wp2_with fail
  rw [← z0]
  refine (HB.out W0).mono ?_
  rintro e w1 ⟨rfl, hb⟩
  have k1 : Below W0.heap.size W0 (W0.alloc (.cells #[.int .i64 n, .int .i64 k] 3)) := bel_oneB W0 _
  have k2 : Below w.heap.size w w1 := (k0.trans (k1.mono (by omega))).trans (hb.mono (by omega))
  have S1 : Sv w.heap.size 0 0 w1 := (S0.below k1).below (hb.mono (by simp))
  obtain ⟨q0, q1, q2, q3, hz⟩ := S1
  have HK2 : Hid (Below w.heap.size w w1) := k2
  clear HB hb k1 k2 k0 hW0 z0
  go_wp2
  go_region
  all_goals
    go_wp2
    refine bodyPost_ret (v := .tuple #[.string ⟨#[]⟩, .agg #[.int .i64 3, .int .i64 0]]) (by simp [results, Tryz.results33, go_sem, q0, q1, hz]) rfl ⟨rfl, ?_⟩
    refine Below.drew (Below.alloc (Below.setCell (Below.setCell HK2.out ?_ _) ?_ _) ?_ _) <;> first | omega | (simp; done) | (simp; omega)
set_option maxHeartbeats 2000000 in
theorem Sets_bad1 (n k : Int) (w : World) (hn : 0 ≤ n ∧ n ≤ 200) (hk : k < 0 ∨ 200 < k) :
    Calls Tryz.prog 33 #[.int .i64 n, .int .i64 k] w fun e w' => e = .returned (.tuple #[.string ⟨#[]⟩, .agg #[.int .i64 3, .int .i64 1]]) ∧ Below w.heap.size w w' := by
  have HB : Hid (∀ W : World, Calls Tryz.prog 35 #[.int .i64 0, .int .i64 200, .slice (some ⟨W.heap.size, 0, none⟩) 2 2] (W.alloc (.cells #[.int .i64 n, .int .i64 k] 3)) fun e w' => e = .returned (.agg #[.int .i64 3, .int .i64 1]) ∧ Below (W.heap.size + 1) (W.alloc (.cells #[.int .i64 n, .int .i64 k] 3)) w') := fun W => by
    have := between_any 0 200 [n, k] W.heap.size 0 2 (W.alloc (.cells #[.int .i64 n, .int .i64 k] 3)) (by simp) (by simp) (fun j hj => two_cellB n k W j hj)
    rw [nb_twoB, if_pos (by omega), if_neg (by omega)] at this
    simpa using this
  clear hn hk
  go_enter Tryz.func33, Tryz.ntmps33
  obtain ⟨W0, hW0⟩ : ∃ W, w.alloc (.cells #[.int .i64 0, .int .i64 0] 23) = W := ⟨_, rfl⟩
  have S0 := Sv.new 0 0 w
  have k0 := bel_oneB w (.cells #[.int .i64 0, .int .i64 0] 23)
  have z0 : W0.heap.size = w.heap.size + 1 := by rw [← hW0]; simp
  rw [hW0] at S0 k0
  go_wp2_with fail
  rw [← z0]
  refine (HB.out W0).mono ?_
  rintro e w1 ⟨rfl, hb⟩
  have k1 : Below W0.heap.size W0 (W0.alloc (.cells #[.int .i64 n, .int .i64 k] 3)) := bel_oneB W0 _
  have k2 : Below w.heap.size w w1 := (k0.trans (k1.mono (by omega))).trans (hb.mono (by omega))
  have S1 : Sv w.heap.size 0 0 w1 := (S0.below k1).below (hb.mono (by simp))
  obtain ⟨q0, q1, q2, q3, hz⟩ := S1
  have HK2 : Hid (Below w.heap.size w w1) := k2
  clear HB hb k1 k2 k0 hW0 z0
  go_wp2
  go_region
  all_goals
    go_wp2
    refine bodyPost_ret (v := .tuple #[.string ⟨#[]⟩, .agg #[.int .i64 3, .int .i64 1]]) (by simp [results, Tryz.results33, go_sem, q0, q1, hz]) rfl ⟨rfl, ?_⟩
    refine Below.drew (Below.alloc (Below.setCell (Below.setCell HK2.out ?_ _) ?_ _) ?_ _) <;> first | omega | (simp; done) | (simp; omega)
end Go.Proofs.YtnkjadpmigpneaaGreatDoor
end

section
set_option linter.unusedSimpArgs false
set_option linter.unusedVariables false
set_option maxRecDepth 100000
namespace Go.Proofs.YtnkjadpmigpneaaGreatDoor
open Go.RowKit LgM
set_option maxHeartbeats 2000000 in
theorem NGcd_any (vx vy : Value) (x y m : Nat) (w : World) (hx : LN w vx x) (hy : LN w vy y) (hxm : x < Bs ^ m) (hym : y < Bs ^ m) (hm : m ≤ 1000000) :
    Calls Tryz.prog 76 #[.agg #[vx], .agg #[vy]] w fun e w' => ∃ v, e = .returned (.agg #[v]) ∧ LN w' v (Nat.gcd x y) ∧ Below w.heap.size w w' := by
  obtain ⟨ax, kx, cx, rfl⟩ := hx.shape
  obtain ⟨ay, ky, cy, rfl⟩ := hy.shape
  have P0 := Pb.start (.slice ax kx cx) (.slice ay ky cy) w
  obtain ⟨W0, hW0⟩ : ∃ W0, W0 = (((w.alloc (.cells #[.slice ax kx cx] 64)).alloc (.cells #[.slice ay ky cy] 64)).alloc (.cells #[.slice none 0 0] 64)) := ⟨_, rfl⟩
  rw [← hW0] at P0
  have KB0 : Below w.heap.size w W0 := by
    rw [hW0]; exact (((Below.refl _ _).alloc (Nat.le_refl _) _).alloc (by simp) _).alloc (by simp; omega) _
  have HR0 : Hid (Pb w.heap.size (.slice ax kx cx) (.slice ay ky cy) W0 ∧ LN W0 (.slice ax kx cx) x ∧ LN W0 (.slice ay ky cy) y ∧ x < Bs ^ m ∧ y < Bs ^ m ∧ Below w.heap.size w W0) := ⟨P0, hx.below KB0, hy.below KB0, hxm, hym, KB0⟩
  clear P0 hx hy hxm hym KB0
  go_enter Tryz.func76, Tryz.ntmps76
  go_wp2
  rw [← hW0]
  clear hW0
  go_loopg [] y (fun gk wx => ∃ (X Y : Nat) (ax ay : Option Addr) (kx ky cx cy : Nat), Hid (gk = Y ∧ Nat.gcd X Y = Nat.gcd x y ∧ Pb w.heap.size (.slice ax kx cx) (.slice ay ky cy) wx ∧ LN wx (.slice ax kx cx) X ∧ LN wx (.slice ay ky cy) Y ∧ X < Bs ^ m ∧ Y < Bs ^ m ∧ Below w.heap.size w wx))
  case atStart => exact ⟨x, y, ax, ay, kx, ky, cx, cy, rfl, rfl, HR0.out⟩
  case round =>
    clear HR0
    obtain ⟨X, Y, ax, ay, kx, ky, cx, cy, HR⟩ := hrel
    have q1 := HR.out.2.2.1.y.cell 0
    simp at q1
    have HZw : Hid (w.heap.size + 3 ≤ wr.heap.size) := by have := HR.out.2.2.1.z.lt; show _ ≤ _; omega
    have HIz : Hid (Calls Tryz.prog 104 #[.agg #[.slice ay ky cy]] wr fun e w' => e = .returned (.bool (decide (Y = 0))) ∧ Below wr.heap.size wr w') := IsZero_any _ Y wr HR.out.2.2.2.2.1
    by_cases h0 : Y = 0
    · rw [decide_eq_true h0] at HIz
      have HY0 : Hid (Y = 0) := h0
      clear h0
      go_wp2_with fail
      refine HIz.out.mono ?_
      rintro e w2 ⟨rfl, k2⟩
      have HP2 : Hid (Pb w.heap.size (.slice ax kx cx) (.slice ay ky cy) w2 ∧ LN w2 (.slice ax kx cx) X ∧ Below w.heap.size w w2) := ⟨HR.out.2.2.1.below k2 HZw.out, HR.out.2.2.2.1.below k2, HR.out.2.2.2.2.2.2.2.trans (k2.mono (by have := HZw.out; omega))⟩
      have q2 := HP2.out.1.x.cell 0
      have q3 := HP2.out.1.z.cell 0
      have q4 := HP2.out.1.z.frozen 0
      simp at q2 q3
      clear k2 q1 HIz
      go_wp2
      have C2 := HP2.out.1.z.set 0 (.slice ax kx cx)
      have q5 := C2.cell 0
      simp at q5
      refine bodyPost_ret (v := .agg #[.slice ax kx cx]) (by simp [results, Tryz.results76, go_sem, q5]) rfl ⟨_, rfl, ?_, ?_⟩
      · have e : X = Nat.gcd x y := by rw [← HR.out.2.1, HY0.out, Nat.gcd_zero_right]
        rw [← e]; exact HP2.out.2.1.set HP2.out.1.z _
      · exact HP2.out.2.2.setCell (by simp; omega) _
    · rw [decide_eq_false h0] at HIz
      have HYp : Hid (0 < Y) := by show 0 < Y; omega
      clear h0
      go_wp2_with fail
      refine HIz.out.mono ?_
      rintro e w2 ⟨rfl, k2⟩
      have HP2 : Hid (Pb w.heap.size (.slice ax kx cx) (.slice ay ky cy) w2 ∧ LN w2 (.slice ax kx cx) X ∧ LN w2 (.slice ay ky cy) Y ∧ Below w.heap.size w w2) := ⟨HR.out.2.2.1.below k2 HZw.out, HR.out.2.2.2.1.below k2, HR.out.2.2.2.2.1.below k2, HR.out.2.2.2.2.2.2.2.trans (k2.mono (by have := HZw.out; omega))⟩
      have q2 := HP2.out.1.x.cell 0
      have q3 := HP2.out.1.y.cell 0
      simp at q2 q3
      have HZ2 : Hid (w.heap.size + 3 ≤ w2.heap.size) := by have := HP2.out.1.z.lt; show _ ≤ _; omega
      have HDv : Hid (Calls Tryz.prog 77 #[.agg #[.slice ax kx cx], .agg #[.slice ay ky cy]] w2 fun e w' => ∃ v u, e = .returned (.tuple #[.agg #[v], .agg #[u]]) ∧ LN w' v (X / Y) ∧ LN w' u (X % Y) ∧ Below w2.heap.size w2 w') := NDivide_any _ _ X Y m w2 HP2.out.2.1 HP2.out.2.2.1 HR.out.2.2.2.2.2.1 HR.out.2.2.2.2.2.2.1 hm HYp.out
      clear k2 q1 HIz
      go_wp2_with fail
      refine HDv.out.mono ?_
      rintro e w3 ⟨v, u, rfl, hv, hu, k3⟩
      obtain ⟨av, kv, cv, rfl⟩ := hv.shape
      obtain ⟨au, ku, cu, rfl⟩ := hu.shape
      obtain ⟨W4, hW4⟩ : ∃ W4, W4 = ((w3.alloc (.cells #[.slice av kv cv] 64)).alloc (.cells #[.slice au ku cu] 64)) := ⟨_, rfl⟩
      have hB4 : Below w3.heap.size w3 W4 := by rw [hW4]; exact ((Below.refl _ _).alloc (Nat.le_refl _) _).alloc (by simp) _
      have HP4 : Hid (Pb w.heap.size (.slice ax kx cx) (.slice ay ky cy) W4 ∧ LN W4 (.slice ay ky cy) Y ∧ LN W4 (.slice au ku cu) (X % Y) ∧ Cl (w3.heap.size + 1) [.slice au ku cu] 64 W4 ∧ Below w.heap.size w W4) := by
        have hz3 : w2.heap.size ≤ w3.heap.size := k3.size
        refine ⟨(HP2.out.1.below k3 HZ2.out).below hB4 (by have := HZ2.out; omega), (HP2.out.2.2.1.below k3).below hB4, hu.below hB4, ?_, (HP2.out.2.2.2.trans (k3.mono (by have := HZ2.out; omega))).trans (hB4.mono (by have := HZ2.out; omega))⟩
        rw [hW4]
        have := Cl.new [.slice au ku cu] 64 (w3.alloc (.cells #[.slice av kv cv] 64))
        simpa using this
      have hz3 : w2.heap.size ≤ w3.heap.size := k3.size
      have HZ3 : Hid (w.heap.size + 3 ≤ w3.heap.size) := by have := HZ2.out; show _ ≤ _; omega
      clear hv hu k3 HDv q2 q3 hB4 hz3
      go_wp2
      rw [← hW4]
      clear hW4
      have q2 := HP4.out.1.x.cell 0
      have q3 := HP4.out.1.y.cell 0
      have q4 := HP4.out.1.x.frozen 0
      have q5 := HP4.out.1.y.frozen 0
      have q6 := HP4.out.2.2.2.1.cell 0
      simp at q2 q3 q6
      have q7 : ∀ z : Value, (W4.setCell ⟨w.heap.size, 0, none⟩ z).cell? ⟨w3.heap.size + 1, 0, none⟩ = some (.slice au ku cu) := fun z => by
        have h := HP4.out.2.2.2.1.other (p := ⟨w.heap.size, 0, none⟩) (by have := HZ3.out; simp; omega) z
        have := h.cell 0
        simpa using this
      go_region
      have HNw : Hid (Pb w.heap.size (.slice ay ky cy) (.slice au ku cu) ((W4.setCell ⟨w.heap.size, 0, none⟩ (.slice ay ky cy)).setCell ⟨w.heap.size + 1, 0, none⟩ (.slice au ku cu)) ∧ LN ((W4.setCell ⟨w.heap.size, 0, none⟩ (.slice ay ky cy)).setCell ⟨w.heap.size + 1, 0, none⟩ (.slice au ku cu)) (.slice ay ky cy) Y ∧ LN ((W4.setCell ⟨w.heap.size, 0, none⟩ (.slice ay ky cy)).setCell ⟨w.heap.size + 1, 0, none⟩ (.slice au ku cu)) (.slice au ku cu) (X % Y) ∧ Below w.heap.size w ((W4.setCell ⟨w.heap.size, 0, none⟩ (.slice ay ky cy)).setCell ⟨w.heap.size + 1, 0, none⟩ (.slice au ku cu))) := by
        have cx := HP4.out.1.x
        have cy' := HP4.out.1.y.other (p := ⟨w.heap.size, 0, none⟩) (by simp) (.slice ay ky cy)
        refine ⟨⟨(cx.set 0 _).other (by simp) _, cy'.set 0 _, (HP4.out.1.z.other (by simp) _).other (by simp) _⟩, (HP4.out.2.1.set cx _).set cy' _, (HP4.out.2.2.1.set cx _).set cy' _, (HP4.out.2.2.2.2.setCell (by simp) _).setCell (by simp) _⟩
      clear q2 q3 q4 q5 q6 q7
      go_wp2
      go_roundg (X % Y)
      case rel =>
        have hd : ∀ {b : Nat} {vx vy : Value} {W : World}, Pb b vx vy W → Pb b vx vy W.drew := fun h => ⟨h.x.drew, h.y.drew, h.z.drew⟩
        have hl : ∀ {v : Value} {n : Nat} {W : World}, LN W v n → LN W.drew v n := fun h => h.below (Below.refl _ _).drew
        refine ⟨Y, X % Y, ay, au, ky, ku, cy, cu, rfl, ?_, hd HNw.out.1, hl HNw.out.2.1, hl HNw.out.2.2.1, HR.out.2.2.2.2.2.2.1, Nat.lt_trans (Nat.mod_lt _ HYp.out) HR.out.2.2.2.2.2.2.1, HNw.out.2.2.2.drew⟩
        rw [← HR.out.2.1, Nat.gcd_comm Y, ← Nat.gcd_rec, Nat.gcd_comm]
      case measure => rw [HR.out.1]; exact Nat.mod_lt _ HYp.out
end Go.Proofs.YtnkjadpmigpneaaGreatDoor
end
