import Derived.Test.YtnkjadpmigpneaaGreatDoorBigG
import Derived.Test.YtnkjadpmigpneaaGreatDoorBitsB
import Derived.Laws.AppendOwnNone
import Derived.Test.YtnkjadpmigpneaaGreatDoorJpA
import Derived.Test.YtnkjadpmigpneaaGreatDoorJpE
import Derived.Laws.IdiomStrings
import Derived.Test.YtnkjadpmigpneaaGreatDoorBrH
import Derived.BigRegion
import Derived.Test.YtnkjadpmigpneaaGreatDoorLgK
import Derived.Deep.LoopGhost
section
set_option linter.unusedSimpArgs false
set_option linter.unusedVariables false
set_option maxRecDepth 100000
namespace Go.Proofs.YtnkjadpmigpneaaGreatDoor
open Go.RowKit
theorem Sl.of_own {w : World} {base : Nat} {v : Value} {l : List Nat} (h : w.ownsRow base 106 1 v l.length (l.map fun x : Nat => Value.int .u32 (x : Int))) (hs : ∀ x ∈ l, x < 4294967296) : Sl w v l := by
  obtain ⟨_, ⟨h1, h2⟩ | ⟨g, cap, cur, e1, _, e3, e4, _, e6, e7⟩⟩ := h
  · exact ⟨hs, Or.inl ⟨List.length_eq_zero_iff.1 h2, h1⟩⟩
  · refine ⟨hs, Or.inr ⟨g, cap, cur, e1, e4, e3, fun i hi => ?_⟩⟩
    have h3 : (cur.toList.take (l.length * 1))[i]? = (l.map fun x : Nat => Value.int .u32 (x : Int))[i]? := by rw [e7]
    rw [List.getElem?_take, if_pos (by omega)] at h3
    rw [← Array.getElem?_toList, h3]
    simp [hi]
set_option maxHeartbeats 400000 in
theorem twin_any (s : Value) (a m : Nat) (w : World) (ha : NS w s a) (hm : a < pw m) (hm' : m ≤ 100000000) :
    Calls Tryz.prog 62 #[s] w fun e w' => ∃ r, e = .returned r ∧ NS w' r a ∧ Below w.heap.size w w' := by
  obtain ⟨l, hsl, hv, hn⟩ := ha
  subst hv
  have l1 : l.length ≤ 100000000 := Nat.le_trans (hn.len hm) hm'
  have HN : Hid (Nm l) := hn
  have HS : Hid (∀ x ∈ l, x < 4294967296) := hsl.small
  clear hm hn
  obtain ⟨i0, hi, hz0, hz1, hz2⟩ := info_parts Tryz.info32
  rcases hsl.shape with ⟨rfl, rfl⟩ | ⟨g, cap, C, rfl, h2, h3, h4⟩
  · go_enter Tryz.func62, Tryz.ntmps62
    go_wp2_with (at_builtin; refine wpList_append_own_none rfl _ _ 35 rfl w.heap.size 106 i0 1 Tryz.underlying35 hi _ 0 [] rfl (World.ownsRow_nil _ _ _ _) rfl ?_)
    go_wp2
    go_ret
    exact ⟨_, rfl, ⟨[], ⟨by simp, Or.inl ⟨rfl, rfl⟩⟩, rfl, Or.inl rfl⟩, Below.refl _ _⟩
  · have hcell : ∀ (j : Nat) (u : Value), (l.map fun x : Nat => Value.int .u32 (x : Int))[j]? = some u → w.cell? ((⟨g, 0, none⟩ : Addr).add j) = some u := by
      intro j u hj
      have hjl : j < l.length := by
        rcases Nat.lt_or_ge j l.length with c | c
        · exact c
        · rw [List.getElem?_eq_none (by simpa using c)] at hj; cases hj
      have := h4 j hjl
      have e : ((⟨g, 0, none⟩ : Addr).add j) = ⟨g, j, none⟩ := by
        cases j with
        | zero => rfl
        | succ n => simp [Addr.add]
      rw [e]
      simp only [World.cell?, h3]
      simp only [Option.isSome_none, Bool.false_eq_true, if_false]
      rw [this, ← hj]; simp [hjl]
    have hone : ∀ u ∈ (l.map fun x : Nat => Value.int .u32 (x : Int)), u.oneCell' = true := by
      intro u hu; simp at hu; obtain ⟨x, _, rfl⟩ := hu; rfl
    have HC : Hid (∀ (j : Nat) (u : Value), (l.map fun x : Nat => Value.int .u32 (x : Int))[j]? = some u → w.cell? ((⟨g, 0, none⟩ : Addr).add j) = some u) := hcell
    have HO : Hid (∀ u ∈ (l.map fun x : Nat => Value.int .u32 (x : Int)), u.oneCell' = true) := hone
    clear hcell hone h4 h3 hsl
    go_enter Tryz.func62, Tryz.ntmps62
    go_wp2_with (at_builtin; refine wpList_append_own _ rfl _ _ 35 rfl w.heap.size 106 i0 (.int .u32 0) 1 4 Tryz.underlying35 hi hz0 hz1 hz2 rfl (by decide) _ 0 [] rfl (World.ownsRow_nil _ _ _ _) ⟨g, 0, none⟩ l.length cap (l.map fun x : Nat => Value.int .u32 (x : Int)) rfl (by simp) HC.out HO.out (by unfold maxLen; omega) (by omega) (Nat.le_refl _) ?_)
    intro v' w1 hown hgrow _
    try simp only [Nat.zero_add, List.nil_append] at hown
    have hsl' := Sl.of_own hown HS.out
    have hbel : Below w.heap.size w w1 := (Below.refl _ _).grown hgrow (Nat.le_refl _) (by simp [Value.ownBlock])
    have HF : Hid (NS w1 v' (val l)) := ⟨l, hsl', rfl, HN.out⟩
    clear hown hgrow hsl'
    go_wp2
    go_ret
    exact ⟨v', rfl, HF.out, hbel⟩
theorem drop_step (l : List Nat) (k : Nat) (hk : k < l.length) : val (l.drop k) = l.getD k 0 + 4294967296 * val (l.drop (k + 1)) := by
  rw [List.drop_eq_getElem_cons hk, List.getD_eq_getElem?_getD, List.getElem?_eq_getElem hk]; rfl
end Go.Proofs.YtnkjadpmigpneaaGreatDoor
end

section
set_option linter.unusedSimpArgs false
set_option linter.unusedVariables false
set_option maxRecDepth 100000
namespace Go.Proofs.YtnkjadpmigpneaaGreatDoor
open Go.RowKit LgM
def decZ (x : Int) : List UInt8 := if x < 0 then 45 :: Lib.decDigits x.natAbs else Lib.decDigits x.natAbs
theorem decZ_neg {x : Int} (h : x < 0) : decZ x = 45 :: Lib.decDigits x.natAbs := by unfold decZ; rw [if_pos h]
theorem decZ_pos {x : Int} (h : ¬ x < 0) : decZ x = Lib.decDigits x.natAbs := by unfold decZ; rw [if_neg h]
theorem pw_ten (m : Nat) : pw m ≤ 10 ^ (10 * m) := by
  induction m with
  | zero => decide
  | succ m ih =>
    rw [show 10 * (m + 1) = 10 * m + 10 by omega, Nat.pow_add, Nat.mul_comm]
    exact Nat.mul_le_mul (by decide) ih
theorem dec_pos (n : Nat) : 1 ≤ (Lib.decDigits n).length := by
  by_cases h : n < 10
  · rw [dec_lt h]; simp
  · rw [dec_ge h]; simp
theorem dec_pw {n m : Nat} (h : n < pw m) (hm : 1 ≤ m) : (Lib.decDigits n).length ≤ 10 * m := dec_len n (10 * m) (by omega) (Nat.lt_of_lt_of_le h (pw_ten m))
def u8s (l : List UInt8) : List Value := l.map fun c => .int .u8 (c.toNat : Int)
structure Dg (w wx : World) (v : Value) (cs : List UInt8) : Prop where
  row : wx.ownsRow w.heap.size 5 1 v cs.length (u8s cs)
  k : Below w.heap.size w wx
def Lf (n a : Nat) (cs : List UInt8) : Prop := (0 < a ∧ Lib.decDigits n = Lib.decDigits a ++ cs.reverse) ∨ (a = 0 ∧ Lib.decDigits n = cs.reverse)
def rv (T : List UInt8) (i j : Nat) : Nat := if j < i ∨ T.length - 1 - i < j then (T.getD (T.length - 1 - j) 0).toNat else (T.getD j 0).toNat
def Rvd (T : List UInt8) (g i : Nat) (W : World) : Prop := ∀ j, j < T.length → W.cell? ⟨g, j, none⟩ = some (.int .u8 (rv T i j : Int)) ∧ W.frozen? ⟨g, j, none⟩ = false
end Go.Proofs.YtnkjadpmigpneaaGreatDoor
end

section
set_option linter.unusedSimpArgs false
set_option linter.unusedVariables false
set_option maxRecDepth 100000
namespace Go.Proofs.YtnkjadpmigpneaaGreatDoor
open Go.RowKit LgM
theorem bel_oneB (w : World) (o : Obj) : Below w.heap.size w (w.alloc o) := Below.alloc (Below.refl _ _) (Nat.le_refl _) o
theorem nb_oneB (lo hi n : Int) : nb lo hi 0 [n] = if lo ≤ n ∧ n ≤ hi then (0, 0) else (3, 0) := by
  by_cases h : lo ≤ n ∧ n ≤ hi
  · rw [if_pos h]
    exact nb_none lo hi [n] (fun j hj => by obtain rfl : j = 0 := by simpa using hj
                                            simp [bwB]; omega)
  · rw [if_neg h]
    have := nb_hit lo hi [n] 0 (by simp) (fun j hj => by omega) (by simp [bwB]; omega)
    simpa using this
theorem one_cellB (n : Int) (W : World) : ∀ j, j < [n].length → (W.alloc (.cells #[.int .i64 n] 3)).cell? ⟨W.heap.size, 0 + j, none⟩ = some (.int .i64 ([n].getD j 0)) := by
  intro j hj
  obtain rfl : j = 0 := by simpa using hj
  simp
theorem pk_bs {k n : Nat} (hk : k ≤ 60) (hn : n ≤ 1000000000000000000) : BN.pk k n < Bs ^ 130 := by
  have h1 := BN.pk_le k n
  have h2 : n * n ^ k ≤ Bs ^ 3 * (Bs ^ 2) ^ 60 := Nat.mul_le_mul (Nat.le_trans hn (by decide +kernel)) (Nat.le_trans (Nat.pow_le_pow_left (Nat.le_trans hn (show _ ≤ Bs ^ 2 by decide +kernel)) k) (Nat.pow_le_pow_right (by decide +kernel) hk))
  have h3 : Bs ^ 3 * (Bs ^ 2) ^ 60 < Bs ^ 130 := by decide +kernel
  omega
set_option maxHeartbeats 2000000 in
theorem Sum_ok (k n : Nat) (w : World) (hk : k ≤ 60) (hn : n ≤ 1000000000000000000) (hT : Tb w) (hQ : Tq w) :
    Calls Tryz.prog 20 #[.int .i64 (k : Int), .int .i64 (n : Int)] w fun e w' => e = .returned (.tuple #[.string ⟨(Lib.decDigits (BN.pk k n)).toArray⟩, .agg #[.int .i64 0, .int .i64 0]]) ∧ Below w.heap.size w w' := by
  have HB : Hid (∀ W : World, Calls Tryz.prog 35 #[.int .i64 0, .int .i64 60, .slice (some ⟨W.heap.size, 0, none⟩) 1 1] (W.alloc (.cells #[.int .i64 (k : Int)] 3)) fun e w' => e = .returned (.agg #[.int .i64 0, .int .i64 0]) ∧ Below (W.heap.size + 1) (W.alloc (.cells #[.int .i64 (k : Int)] 3)) w') := fun W => by
    have := between_any 0 60 [(k : Int)] W.heap.size 0 1 (W.alloc (.cells #[.int .i64 (k : Int)] 3)) (by simp) (by simp) (one_cellB _ W)
    rw [nb_oneB, if_pos (by omega)] at this
    simpa using this
  have HCn : Hid (∀ W, Below w.heap.size w W → Calls Tryz.prog 51 #[.int .i64 (k : Int), .int .i64 (n : Int)] W fun e w' => ∃ u, e = .returned (.agg #[u, .bool false]) ∧ LN w' u (BN.pk k n) ∧ Below W.heap.size W w') := fun W kk => bsum_any k n W hk hn (hT.below kk)
  obtain ⟨st, hst⟩ : ∃ st : ByteArray, st = ⟨(Lib.decDigits (BN.pk k n)).toArray⟩ := ⟨_, rfl⟩
  have HSt : Hid (∀ (v : Value) (W : World), LN W v (BN.pk k n) → Below w.heap.size w W → Calls Tryz.prog 52 #[.agg #[v, .bool false]] W fun e w' => e = .returned (.string st) ∧ Below W.heap.size W w') := fun v W h kk => by
    rw [hst]; exact SString_any v _ 130 W h (pk_bs hk hn) (by omega) (by omega) (hQ.below kk)
  rw [← hst]
  have d0 : decide ((n : Int) < 0) = false := decide_eq_false (by omega)
  have d1 : decide (1000000000000000000 < (n : Int)) = false := decide_eq_false (by omega)
  clear hT hQ hst
  go_enter Tryz.func20, Tryz.ntmps20
  obtain ⟨W0, hW0⟩ : ∃ W, w.alloc (.cells #[.int .i64 0, .int .i64 0] 23) = W := ⟨_, rfl⟩
  have S0 := Sv.new 0 0 w
  have k0 := bel_oneB w (.cells #[.int .i64 0, .int .i64 0] 23)
  have z0 : W0.heap.size = w.heap.size + 1 := by rw [← hW0]; simp
  rw [hW0] at S0 k0
  go_wp2_with fail
  rw [← z0]
  refine (HB.out W0).mono ?_
  rintro e w1 ⟨rfl, hb⟩
  have k1 : Below W0.heap.size W0 (W0.alloc (.cells #[.int .i64 (k : Int)] 3)) := bel_oneB W0 _
  have k2 : Below w.heap.size w w1 := (k0.trans (k1.mono (by omega))).trans (hb.mono (by omega))
  have S1 : Sv w.heap.size 0 0 w1 := (S0.below k1).below (hb.mono (by simp))
  have HS1 : Hid (Sv w.heap.size 0 0 w1 ∧ Below w.heap.size w w1) := ⟨S1, k2⟩
  clear HB hb k1 k2 k0 hW0 z0 S1 S0
  go_wp2_with fail
  obtain ⟨W2, hW2⟩ : ∃ W2, W2 = w1.alloc (.cells #[.int .i64 0, .int .i64 0] 23) := ⟨_, rfl⟩
  rw [← hW2]
  have HS2 : Hid (Sv w.heap.size 0 0 W2 ∧ Below w.heap.size w W2) := by
    show _ ∧ _
    rw [hW2]
    exact ⟨HS1.out.1.alloc _ _, Below.alloc HS1.out.2 HS1.out.2.size _⟩
  clear hW2
  refine (HCn.out W2 HS2.out.2).mono ?_
  rintro e w3 ⟨v, rfl, hv, k3⟩
  have HS3 : Hid (Sv w.heap.size 0 0 w3 ∧ Below w.heap.size w w3) := ⟨HS2.out.1.below k3, HS2.out.2.trans (k3.mono HS2.out.2.size)⟩
  have HLn : Hid (LN w3 v (BN.pk k n)) := hv
  clear HS1 HS2 hv k3 HCn
  go_wp2_with fail
  refine (HSt.out _ _ HLn.out HS3.out.2).mono ?_
  rintro e w4 ⟨rfl, k4⟩
  have HK4 : Hid (Below w.heap.size w w4) := HS3.out.2.trans (k4.mono HS3.out.2.size)
  obtain ⟨q0, q1, q2, q3, hz⟩ := HS3.out.1.below k4
  clear k4 HS3 HLn HSt
  go_wp2
  refine bodyPost_ret (v := .tuple #[.string st, .agg #[.int .i64 0, .int .i64 0]]) (by simp [results, Tryz.results20, go_sem, q0, q1, hz]) rfl ⟨rfl, ?_⟩
  exact Below.setCell (Below.setCell HK4.out (Nat.le_refl _) _) (Nat.le_refl _) _
end Go.Proofs.YtnkjadpmigpneaaGreatDoor
end

section
set_option linter.unusedSimpArgs false
set_option linter.unusedVariables false
set_option maxRecDepth 100000
namespace Go.Proofs.YtnkjadpmigpneaaGreatDoor
open Go.RowKit LgM
set_option maxHeartbeats 2000000 in
theorem NGcd_any (vx vy : Value) (x y m : Nat) (w : World) (hx : LN w vx x) (hy : LN w vy y) (hxm : x < Bs ^ m) (hym : y < Bs ^ m) (hm : m ≤ 1000000) :
    Calls Tryz.prog 76 #[.agg #[vx], .agg #[vy]] w fun e w' => ∃ v, e = .returned (.agg #[v]) ∧ LN w' v (Nat.gcd x y) ∧ Below w.heap.size w w' := by
  obtain ⟨ax, kx, cx, rfl⟩ := hx.shape
  obtain ⟨ay, ky, cy, rfl⟩ := hy.shape
  have P0 := Pb.start (.slice ax kx cx) (.slice ay ky cy) w
  obtain ⟨W0, hW0⟩ : ∃ W0, W0 = (((w.alloc (.cells #[.slice ax kx cx] 64)).alloc (.cells #[.slice ay ky cy] 64)).alloc (.cells #[.slice none 0 0] 64)) := ⟨_, rfl⟩
  rw [← hW0] at P0
  have KB0 : Below w.heap.size w W0 := by
    rw [hW0]; exact (((Below.refl _ _).alloc (Nat.le_refl _) _).alloc (by simp) _).alloc (by simp; omega) _
  have HR0 : Hid (Pb w.heap.size (.slice ax kx cx) (.slice ay ky cy) W0 ∧ LN W0 (.slice ax kx cx) x ∧ LN W0 (.slice ay ky cy) y ∧ x < Bs ^ m ∧ y < Bs ^ m ∧ Below w.heap.size w W0) := ⟨P0, hx.below KB0, hy.below KB0, hxm, hym, KB0⟩
  clear P0 hx hy hxm hym KB0
  go_enter Tryz.func76, Tryz.ntmps76
  go_wp2
  rw [← hW0]
  clear hW0
  go_loopg [] y (fun gk wx => ∃ (X Y : Nat) (ax ay : Option Addr) (kx ky cx cy : Nat), Hid (gk = Y ∧ Nat.gcd X Y = Nat.gcd x y ∧ Pb w.heap.size (.slice ax kx cx) (.slice ay ky cy) wx ∧ LN wx (.slice ax kx cx) X ∧ LN wx (.slice ay ky cy) Y ∧ X < Bs ^ m ∧ Y < Bs ^ m ∧ Below w.heap.size w wx))
  case atStart => exact ⟨x, y, ax, ay, kx, ky, cx, cy, rfl, rfl, HR0.out⟩
  case round =>
    clear HR0
    obtain ⟨X, Y, ax, ay, kx, ky, cx, cy, HR⟩ := hrel
    have q1 := HR.out.2.2.1.y.cell 0
    simp at q1
    have HZw : Hid (w.heap.size + 3 ≤ wr.heap.size) := by have := HR.out.2.2.1.z.lt; show _ ≤ _; omega
    have HIz : Hid (Calls Tryz.prog 104 #[.agg #[.slice ay ky cy]] wr fun e w' => e = .returned (.bool (decide (Y = 0))) ∧ Below wr.heap.size wr w') := IsZero_any _ Y wr HR.out.2.2.2.2.1
    by_cases h0 : Y = 0
    · rw [decide_eq_true h0] at HIz
      have HY0 : Hid (Y = 0) := h0
      clear h0
      go_wp2_with fail
      refine HIz.out.mono ?_
      rintro e w2 ⟨rfl, k2⟩
      have HP2 : Hid (Pb w.heap.size (.slice ax kx cx) (.slice ay ky cy) w2 ∧ LN w2 (.slice ax kx cx) X ∧ Below w.heap.size w w2) := ⟨HR.out.2.2.1.below k2 HZw.out, HR.out.2.2.2.1.below k2, HR.out.2.2.2.2.2.2.2.trans (k2.mono (by have := HZw.out; omega))⟩
      have q2 := HP2.out.1.x.cell 0
      have q3 := HP2.out.1.z.cell 0
      have q4 := HP2.out.1.z.frozen 0
      simp at q2 q3
      clear k2 q1 HIz
      go_wp2
      have C2 := HP2.out.1.z.set 0 (.slice ax kx cx)
      have q5 := C2.cell 0
      simp at q5
      refine bodyPost_ret (v := .agg #[.slice ax kx cx]) (by simp [results, Tryz.results76, go_sem, q5]) rfl ⟨_, rfl, ?_, ?_⟩
      · have e : X = Nat.gcd x y := by rw [← HR.out.2.1, HY0.out, Nat.gcd_zero_right]
        rw [← e]; exact HP2.out.2.1.set HP2.out.1.z _
      · exact HP2.out.2.2.setCell (by simp; omega) _
    · rw [decide_eq_false h0] at HIz
      have HYp : Hid (0 < Y) := by show 0 < Y; omega
      clear h0
      go_wp2_with fail
      refine HIz.out.mono ?_
      rintro e w2 ⟨rfl, k2⟩
      have HP2 : Hid (Pb w.heap.size (.slice ax kx cx) (.slice ay ky cy) w2 ∧ LN w2 (.slice ax kx cx) X ∧ LN w2 (.slice ay ky cy) Y ∧ Below w.heap.size w w2) := ⟨HR.out.2.2.1.below k2 HZw.out, HR.out.2.2.2.1.below k2, HR.out.2.2.2.2.1.below k2, HR.out.2.2.2.2.2.2.2.trans (k2.mono (by have := HZw.out; omega))⟩
      have q2 := HP2.out.1.x.cell 0
      have q3 := HP2.out.1.y.cell 0
      simp at q2 q3
      have HZ2 : Hid (w.heap.size + 3 ≤ w2.heap.size) := by have := HP2.out.1.z.lt; show _ ≤ _; omega
      have HDv : Hid (Calls Tryz.prog 77 #[.agg #[.slice ax kx cx], .agg #[.slice ay ky cy]] w2 fun e w' => ∃ v u, e = .returned (.tuple #[.agg #[v], .agg #[u]]) ∧ LN w' v (X / Y) ∧ LN w' u (X % Y) ∧ Below w2.heap.size w2 w') := NDivide_any _ _ X Y m w2 HP2.out.2.1 HP2.out.2.2.1 HR.out.2.2.2.2.2.1 HR.out.2.2.2.2.2.2.1 hm HYp.out
      clear k2 q1 HIz
      go_wp2_with fail
      refine HDv.out.mono ?_
      rintro e w3 ⟨v, u, rfl, hv, hu, k3⟩
      obtain ⟨av, kv, cv, rfl⟩ := hv.shape
      obtain ⟨au, ku, cu, rfl⟩ := hu.shape
      obtain ⟨W4, hW4⟩ : ∃ W4, W4 = ((w3.alloc (.cells #[.slice av kv cv] 64)).alloc (.cells #[.slice au ku cu] 64)) := ⟨_, rfl⟩
      have hB4 : Below w3.heap.size w3 W4 := by rw [hW4]; exact ((Below.refl _ _).alloc (Nat.le_refl _) _).alloc (by simp) _
      have HP4 : Hid (Pb w.heap.size (.slice ax kx cx) (.slice ay ky cy) W4 ∧ LN W4 (.slice ay ky cy) Y ∧ LN W4 (.slice au ku cu) (X % Y) ∧ Cl (w3.heap.size + 1) [.slice au ku cu] 64 W4 ∧ Below w.heap.size w W4) := by
        have hz3 : w2.heap.size ≤ w3.heap.size := k3.size
        refine ⟨(HP2.out.1.below k3 HZ2.out).below hB4 (by have := HZ2.out; omega), (HP2.out.2.2.1.below k3).below hB4, hu.below hB4, ?_, (HP2.out.2.2.2.trans (k3.mono (by have := HZ2.out; omega))).trans (hB4.mono (by have := HZ2.out; omega))⟩
        rw [hW4]
        have := Cl.new [.slice au ku cu] 64 (w3.alloc (.cells #[.slice av kv cv] 64))
        simpa using this
      have hz3 : w2.heap.size ≤ w3.heap.size := k3.size
      have HZ3 : Hid (w.heap.size + 3 ≤ w3.heap.size) := by have := HZ2.out; show _ ≤ _; omega
      clear hv hu k3 HDv q2 q3 hB4 hz3
      go_wp2
      rw [← hW4]
      clear hW4
      have q2 := HP4.out.1.x.cell 0
      have q3 := HP4.out.1.y.cell 0
      have q4 := HP4.out.1.x.frozen 0
      have q5 := HP4.out.1.y.frozen 0
      have q6 := HP4.out.2.2.2.1.cell 0
      simp at q2 q3 q6
      have q7 : ∀ z : Value, (W4.setCell ⟨w.heap.size, 0, none⟩ z).cell? ⟨w3.heap.size + 1, 0, none⟩ = some (.slice au ku cu) := fun z => by
        have h := HP4.out.2.2.2.1.other (p := ⟨w.heap.size, 0, none⟩) (by have := HZ3.out; simp; omega) z
        have := h.cell 0
        simpa using this
      go_region
      have HNw : Hid (Pb w.heap.size (.slice ay ky cy) (.slice au ku cu) ((W4.setCell ⟨w.heap.size, 0, none⟩ (.slice ay ky cy)).setCell ⟨w.heap.size + 1, 0, none⟩ (.slice au ku cu)) ∧ LN ((W4.setCell ⟨w.heap.size, 0, none⟩ (.slice ay ky cy)).setCell ⟨w.heap.size + 1, 0, none⟩ (.slice au ku cu)) (.slice ay ky cy) Y ∧ LN ((W4.setCell ⟨w.heap.size, 0, none⟩ (.slice ay ky cy)).setCell ⟨w.heap.size + 1, 0, none⟩ (.slice au ku cu)) (.slice au ku cu) (X % Y) ∧ Below w.heap.size w ((W4.setCell ⟨w.heap.size, 0, none⟩ (.slice ay ky cy)).setCell ⟨w.heap.size + 1, 0, none⟩ (.slice au ku cu))) := by
        have cx := HP4.out.1.x
        have cy' := HP4.out.1.y.other (p := ⟨w.heap.size, 0, none⟩) (by simp) (.slice ay ky cy)
        refine ⟨⟨(cx.set 0 _).other (by simp) _, cy'.set 0 _, (HP4.out.1.z.other (by simp) _).other (by simp) _⟩, (HP4.out.2.1.set cx _).set cy' _, (HP4.out.2.2.1.set cx _).set cy' _, (HP4.out.2.2.2.2.setCell (by simp) _).setCell (by simp) _⟩
      clear q2 q3 q4 q5 q6 q7
      go_wp2
      go_roundg (X % Y)
      case rel =>
        have hd : ∀ {b : Nat} {vx vy : Value} {W : World}, Pb b vx vy W → Pb b vx vy W.drew := fun h => ⟨h.x.drew, h.y.drew, h.z.drew⟩
        have hl : ∀ {v : Value} {n : Nat} {W : World}, LN W v n → LN W.drew v n := fun h => h.below (Below.refl _ _).drew
        refine ⟨Y, X % Y, ay, au, ky, ku, cy, cu, rfl, ?_, hd HNw.out.1, hl HNw.out.2.1, hl HNw.out.2.2.1, HR.out.2.2.2.2.2.2.1, Nat.lt_trans (Nat.mod_lt _ HYp.out) HR.out.2.2.2.2.2.2.1, HNw.out.2.2.2.drew⟩
        rw [← HR.out.2.1, Nat.gcd_comm Y, ← Nat.gcd_rec, Nat.gcd_comm]
      case measure => rw [HR.out.1]; exact Nat.mod_lt _ HYp.out
end Go.Proofs.YtnkjadpmigpneaaGreatDoor
end
