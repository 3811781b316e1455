/- padic.derivative, padic.slopeAt. -/
import Derived.Test.YtidndbdjhapfaaaGreatDoorPaA
import Derived.Test.YtidndbdjhapfaaaGreatDoorRegionG
import Derived.Maps.AppendAt
set_option linter.unusedSimpArgs false
set_option linter.unusedVariables false
set_option maxRecDepth 100000
namespace Go.Proofs.YtidndbdjhapfaaaGreatDoor
open Go.RowKit

/-- append onto a row of one's own, at an operation that stands alone. -/
theorem oper_append_ownP {P : Program} {o : Oper} {a : Act} {K : Act → World → Prop} {Q : Exit → Act → World → Prop} (w : World) (s x : Operand) (t : TypeId)
    (ho : o.op = .call { callee := .builtin .append, args := #[s, x], argTypes := #[t, t] })
    (base : Nat) (e : TypeId) (i : TypeInfo) (z : Value) (size bytes : Nat) (ht : P.underlying t = some (.slice e)) (hi : P.info? e = some i) (hz : i.zero = some z)
    (hsize : i.size = size) (hby : i.bytes = bytes) (hzs : z.cells.size = size) (hsz : 0 < size)
    (v : Value) (n : Nat) (xs : List Value) (hs : a.eval s = v) (hown : w.ownsRow base e size v n xs)
    (ad : Addr) (m c : Nat) (news : List Value) (hx : a.eval x = .slice (some ad) m c) (hl : news.length = m * size) (hnews : ∀ j u, news[j]? = some u → w.cell? (ad.add j) = some u) (h1 : ∀ u ∈ news, u.oneCell' = true)
    (h63 : n + m ≤ maxLen) (hbytes : (n + m) * bytes ≤ 140737488355328) (hbase : base ≤ w.heap.size)
    (h : ∀ v' w', w'.ownsRow base e size v' (n + m) (xs ++ news) → w.grownBy w' v.ownBlock → K (a.put o.dst v') w') : Oper.wp P o a w K Q := by
  obtain ⟨v', w', hr, h2, h3, _, _⟩ := run_append_own_at (P := P) w base t o.type e i z size bytes ht hi hz hsize hby hzs hsz v n xs hown ad m c news hl hnews h1 h63 hbytes hbase
  unfold Oper.wp execOp
  simp only [ho, resolve, invoke, builtin, Sem.run_bind, Sem.run_pure, Result.andThen_ok, List.map_toArray, List.map_cons, List.map_nil, hs, hx, hr]
  exact h v' w' h2 h3

/-- The derivative's numbers, left by m. -/
def dml (l : List Int) (m : Nat) : List Int := (List.range (l.length - 1)).map fun j : Nat => (((j : Int) + 1) * l.getD (j + 1) 0) % (m : Int)
theorem dml_len (l : List Int) (m : Nat) : (dml l m).length = l.length - 1 := by simp [dml]
theorem dml_take (l : List Int) (m k : Nat) (hk : k + 1 < l.length) : (dml l m).take (k + 1) = (dml l m).take k ++ [(((k : Int) + 1) * l.getD (k + 1) 0) % (m : Int)] := by
  rw [List.take_succ_eq_append_getElem (by rw [dml_len]; omega)]
  simp [dml]
theorem dl_get : ∀ (l : List Int) (k j : Nat), j < l.length → (dl k l).getD j 0 = ((k : Int) + j) * l.getD j 0 := by
  intro l
  induction l with
  | nil => intro k j h; simp at h
  | cons a l ih =>
    intro k j h
    cases j with
    | zero => simp [dl]
    | succ j =>
      have := ih (k + 1) j (by simpa using h)
      simp only [dl, List.getD_cons_succ, this]
      congr 1; push_cast; omega
theorem dl_len : ∀ (l : List Int) (k : Nat), (dl k l).length = l.length := by
  intro l
  induction l with
  | nil => intro k; rfl
  | cons a l ih => intro k; simp [dl, ih]
theorem dml_pv (l : List Int) (m : Nat) (x : Int) : pv (dml l m) x % (m : Int) = dv l x % (m : Int) := by
  cases l with
  | nil => simp [dml, pv, dv]
  | cons a l =>
    rw [dv_dl]
    have h : (m : Int) ∣ pv (dml (a :: l) m) x - pv (dl 1 l) x := by
      refine pv_congr _ _ _ _ (by rw [dml_len, dl_len]; simp) (fun i hi => ?_)
      rw [dml_len] at hi
      simp at hi
      rw [dl_get l 1 i hi]
      have e : (dml (a :: l) m).getD i 0 = (((i : Int) + 1) * l.getD i 0) % (m : Int) := by
        simp [dml, List.getD_eq_getElem?_getD, hi]
      rw [e, Int.emod_def]
      refine ⟨-((((i : Int) + 1) * l.getD i 0) / m), ?_⟩
      push_cast
      grind
    exact Int.emod_eq_emod_iff_emod_sub_eq_zero.2 (Int.emod_eq_zero_of_dvd h)

set_option maxHeartbeats 2000000 in
theorem derivative_any (s : Value) (l : List Int) (m : Nat) (w : World) (hs : IS w s l) (hl : l.length ≤ 1000) (hn : ∀ i, i < l.length → (l.getD i 0).natAbs ≤ 4000000000000000000) (h0 : 0 < m) (hm : m ≤ 1000000000000000000) :
    Calls Tryz.prog 56 #[s, .int .i64 m] w fun e w' => ∃ v, e = .returned v ∧ IS w' v (dml l m) ∧ Below w.heap.size w w' := by
  obtain ⟨i0, hi, hz0, hz1, hz2⟩ := info_parts Tryz.infoInt
  have HI : Hid (Tryz.prog.info? 3 = some i0 ∧ i0.zero = some (.int .i64 0) ∧ i0.size = 1 ∧ i0.bytes = 8) := ⟨hi, hz0, hz1, hz2⟩
  clear hi hz0 hz1 hz2
  obtain ⟨aa, g, o, cap, rfl, haa, hc, hg⟩ := hs
  obtain ⟨L, hL⟩ : ∃ L, L = l.length := ⟨_, rfl⟩
  rw [← hL] at hc hn haa hl hg ⊢
  have HC : Hid (∀ i, i < L → w.cell? ⟨g, o + i, none⟩ = some (.int .i64 (l.getD i 0))) := hc
  have HN : Hid (∀ i, i < L → (l.getD i 0).natAbs ≤ 4000000000000000000) := hn
  have HAA : Hid (0 < L → aa = some ⟨g, o, none⟩) := haa
  have HL : Hid (L = l.length) := hL
  have HG : Hid (0 < L → g < w.heap.size) := hg
  clear hc hn haa hL hg
  go_enter Tryz.func56, Tryz.ntmps56
  go_wp2
  go_loopw [5, 6] (fun av iv wx => ∃ (k : Nat) (a : Option Addr) (c : Nat), (k = 0 ∨ k < L) ∧ iv = .int .i64 ((k : Int) + 1) ∧ av = .slice a k c ∧ Hid (wx.ownsRow w.heap.size 3 1 (.slice a k c) k (ints ((dml l m).take k)) ∧ Below w.heap.size w wx)) (fun _ iv _ => L + 2 - (intOf iv).toNat)
  case atStart => exact ⟨0, none, 0, .inl rfl, rfl, rfl, by simp [ints]; exact World.ownsRow_nil _ _ _ _, Below.refl _ _⟩
  case round =>
    obtain ⟨k, a, c, hk, rfl, rfl, HR⟩ := hrel
    by_cases hlt : k + 1 < L
    · obtain rfl := HAA.out (by omega)
      have hgl := HG.out (by omega)
      obtain ⟨j, hj⟩ : ∃ j, j = k + 1 := ⟨_, rfl⟩
      have hji : (k : Int) + 1 = (j : Int) := by omega
      have hjL : j < L := by omega
      have hcell : wr.cell? ⟨g, o + j, none⟩ = some (.int .i64 (l.getD j 0)) := (HR.out.2.cell (p := ⟨g, o + j, none⟩) hgl).trans (HC.out j hjL)
      have htb := HN.out j hjL
      obtain ⟨t, ht⟩ : ∃ t, t = l.getD j 0 := ⟨_, rfl⟩
      rw [← ht] at hcell htb
      have t0 := Int.emod_nonneg t (show (m : Int) ≠ 0 by omega)
      have t1 := Int.emod_lt_of_pos t (show 0 < (m : Int) by omega)
      obtain ⟨T, hT⟩ : ∃ T : Nat, (T : Int) = t % m := ⟨(t % m).toNat, by omega⟩
      have hTm : T < m := by omega
      obtain ⟨J, hJ⟩ : ∃ J : Nat, J = j % m := ⟨_, rfl⟩
      have hJm : J < m := by rw [hJ]; exact Nat.mod_lt _ h0
      have hJi : (j : Int) % (m : Int) = (J : Int) := by rw [hJ]; simp
      obtain ⟨y, hy⟩ : ∃ y, y = J * T % m := ⟨_, rfl⟩
      have HJi : Hid ((j : Int) % (m : Int) = (J : Int)) := hJi
      have HT : Hid ((T : Int) = t % m) := hT
      have HY : Hid (J * T % m = y) := hy.symm
      have HYE : Hid ((y : Int) = (((k : Int) + 1) * l.getD (k + 1) 0) % (m : Int)) := by
        show _ = _
        rw [hy]
        push_cast
        rw [← hj, ← ht, hji, hT, ← hJi, ← Int.mul_emod]
      have HTk : Hid ((dml l m).take (k + 1) = (dml l m).take k ++ [(y : Int)]) := by show _ = _; rw [HYE.out]; exact dml_take l m k (by rw [← HL.out]; exact hlt)
      have HJk : Hid (j = k + 1) := hj
      have HZR : Hid (w.heap.size ≤ wr.heap.size) := HR.out.2.size
      have HGL : Hid (g < w.heap.size) := hgl
      rw [hji]
      clear t0 t1 hT hy hJ ht hJi hj hji hlt hgl
      go_wp2_with fail
      refine wp_region_G (fun w' => w'.cell? ⟨g, o + j, none⟩ = some (.int .i64 t)) 14 (by kernel_rfl) hcell (fun hHeld => ?_)
      refine wpAnyG_take (i := 0) (v := ?v0) rfl (by kernel_rfl) (fun _ _ _ h => h) (Or.inl ⟨by rfl, ?y0⟩) hHeld ?r0
      case y0 => (intro wS hSw; obtain s1 := hSw; go_simp; try with_reducible rfl)
      try simp only [Act.put, List.setIfInBounds_toArray, List.set_cons_zero, List.set_cons_succ]
      refine wpAnyG_take (i := 1) (v := ?v1) rfl (by kernel_rfl) (fun _ _ _ h => h) (Or.inl ⟨by rfl, ?y1⟩) hHeld ?r1
      case y1 => (intro wS hSw; obtain s1 := hSw; go_simp; try with_reducible rfl)
      try simp only [Act.put, List.setIfInBounds_toArray, List.set_cons_zero, List.set_cons_succ]
      refine wpAnyG_take (i := 2) (v := ?v2) rfl (by kernel_rfl) (fun _ _ _ h => h) (Or.inl ⟨by rfl, ?y2⟩) hHeld ?r2
      case y2 => (intro wS hSw; obtain s1 := hSw; go_simp; try with_reducible rfl)
      try simp only [Act.put, List.setIfInBounds_toArray, List.set_cons_zero, List.set_cons_succ]
      refine wpAnyG_take (i := 4) (v := ?v4) rfl (by kernel_rfl) (fun _ _ _ h => h) (Or.inl ⟨by rfl, ?y4⟩) hHeld ?r4
      case y4 => (intro wS hSw; obtain s1 := hSw; go_simp; try with_reducible rfl)
      try simp only [Act.put, List.setIfInBounds_toArray, List.set_cons_zero, List.set_cons_succ]
      refine wpAnyG_take (i := 5) (v := ?v5) rfl (by kernel_rfl) (fun _ _ _ h => h) (Or.inl ⟨by rfl, ?y5⟩) hHeld ?r5
      case y5 => (intro wS hSw; obtain s1 := hSw; go_simp; try with_reducible rfl)
      try simp only [Act.put, List.setIfInBounds_toArray, List.set_cons_zero, List.set_cons_succ]
      refine wpAnyG_take (i := 6) (v := ?v6) rfl (by kernel_rfl) (fun _ _ _ h => h) (Or.inl ⟨by rfl, ?y6⟩) hHeld ?r6
      case y6 => (intro wS hSw; obtain s1 := hSw; go_simp; try with_reducible rfl)
      try simp only [Act.put, List.setIfInBounds_toArray, List.set_cons_zero, List.set_cons_succ]
      refine wpAnyG_take (i := 7) (v := ?v7) rfl (by kernel_rfl) (fun _ _ _ h => h) (Or.inl ⟨by rfl, ?y7⟩) hHeld ?r7
      case y7 => (intro wS hSw; obtain s1 := hSw; go_simp; try with_reducible rfl)
      try simp only [Act.put, List.setIfInBounds_toArray, List.set_cons_zero, List.set_cons_succ]
      refine wpAnyG_take (i := 8) (v := ?v8) rfl (by kernel_rfl) (fun _ _ _ h => h) (Or.inl ⟨by rfl, ?y8⟩) hHeld ?r8
      case y8 => (intro wS hSw; obtain s1 := hSw; go_simp; try with_reducible rfl)
      try simp only [Act.put, List.setIfInBounds_toArray, List.set_cons_zero, List.set_cons_succ]
      refine wpAnyG_take (i := 10) (v := ?v10) rfl (by kernel_rfl) (fun _ _ _ h => h) (Or.inl ⟨by rfl, ?y10⟩) hHeld ?r10
      case y10 => (intro wS hSw; obtain s1 := hSw; go_simp; try with_reducible rfl)
      try simp only [Act.put, List.setIfInBounds_toArray, List.set_cons_zero, List.set_cons_succ]
      refine wpAnyG_one (i := 3) rfl (by kernel_rfl) (fun K hK => ?_)
      go_simp
      refine (left_any (j : Int) m _ (by omega) h0 (by omega)).mono ?_
      rw [HJi.out]
      rintro e w2 ⟨rfl, hw2⟩
      rw [hw2]
      clear hw2 w2
      refine hK.out _ _ hHeld ?_
      clear hK K
      try simp only [Act.put, List.setIfInBounds_toArray, List.set_cons_zero, List.set_cons_succ]
      refine wpAnyG_one (i := 9) rfl (by kernel_rfl) (fun K hK => ?_)
      go_simp
      refine (left_any t m _ htb h0 (by omega)).mono ?_
      rw [← HT.out]
      rintro e w2 ⟨rfl, hw2⟩
      rw [hw2]
      clear hw2 w2
      refine hK.out _ _ hHeld ?_
      clear hK K
      try simp only [Act.put, List.setIfInBounds_toArray, List.set_cons_zero, List.set_cons_succ]
      refine wpAnyG_one (i := 11) rfl (by kernel_rfl) (fun K hK => ?_)
      go_simp
      refine (productLeft_any J T m _ hJm hTm hm).mono ?_
      rw [HY.out]
      rintro e w3 ⟨rfl, q3, hw3⟩
      have K3 : Below wr.heap.size wr w3 := by rw [hw3]; exact below_drewN' ((Below.refl _ _).drew)
      have h3 : w3.cell? ⟨g, o + j, none⟩ = some (.int .i64 t) := by rw [hw3]; exact hcell
      have HK3 : Hid (Below wr.heap.size wr w3) := K3
      clear hw3 hHeld K3
      refine hK.out _ _ h3 ?_
      clear hK K
      try simp only [Act.put, List.setIfInBounds_toArray, List.set_cons_zero, List.set_cons_succ]
      have hHeld := h3
      refine wpAnyG_one (i := 12) rfl (by kernel_rfl) (fun K hK => ?_)
      go_simp
      clear hHeld
      obtain ⟨w4, hw4⟩ : ∃ w4, w3.alloc (.cells #[.int .i64 (y : Int)] 3) = w4 := ⟨_, rfl⟩
      have HNew : Hid (∀ j u, [Value.int .i64 (y : Int)][j]? = some u → w4.cell? ((⟨w3.heap.size, 0, none⟩ : Addr).add j) = some u) := by rw [← hw4]; exact cell_one_new w3 _ _
      have K4 : Below wr.heap.size wr w4 := by rw [← hw4]; exact HK3.out.alloc HK3.out.size _
      have HK4 : Hid (Below wr.heap.size wr w4) := K4
      have hHeld : w4.cell? ⟨g, o + j, none⟩ = some (.int .i64 t) := (K4.cell (p := ⟨g, o + j, none⟩) (Nat.lt_of_lt_of_le HGL.out HZR.out)).trans hcell
      rw [hw4]
      refine hK.out _ _ hHeld ?_
      clear hK K
      try simp only [Act.put, List.setIfInBounds_toArray, List.set_cons_zero, List.set_cons_succ]
      clear h3 HK3 hw4 K4
      have row4 : w4.ownsRow w.heap.size 3 1 (.slice a k c) k (ints ((dml l m).take k)) := row_kept HR.out.1 (fun g e => HK4.out.block g (HR.out.1.lt g e).2)
      have hk2 : k ≤ 1000 := by omega
      refine wpAnyG_one (i := 13) rfl (by kernel_rfl) (fun K hK => ?_)
      refine oper_append_ownP w4 _ _ 22 rfl w.heap.size 3 i0 (.int .i64 0) 1 8 Tryz.underlying22 HI.out.1 HI.out.2.1 HI.out.2.2.1 HI.out.2.2.2 rfl (by decide) (.slice a k c) k (ints ((dml l m).take k)) rfl row4 ⟨w3.heap.size, 0, none⟩ 1 1 [.int .i64 (y : Int)] rfl rfl HNew.out (by simp [Value.oneCell']) (by simp only [maxLen]; omega) (by omega) (Nat.le_trans HZR.out HK4.out.size) ?_
      intro v' w5 hown hgrow
      obtain ⟨g', cap', rfl⟩ := ownsRow_succ hown
      have K5 : Below w.heap.size w w5 := (HR.out.2.trans (HK4.out.mono HZR.out)).grown hgrow (Nat.le_trans HZR.out HK4.out.size) (fun k e => (row4.lt k e).1)
      clear hHeld
      have hHeld : w5.cell? ⟨g, o + j, none⟩ = some (.int .i64 t) := by
        rw [K5.cell (p := ⟨g, o + j, none⟩) HGL.out, ← hcell, HR.out.2.cell (p := ⟨g, o + j, none⟩) HGL.out]
      have HNext : Hid (w5.ownsRow w.heap.size 3 1 (.slice (some ⟨g', 0, none⟩) (k + 1) cap') (k + 1) (ints ((dml l m).take (k + 1)))) := by
        show World.ownsRow _ _ _ _ _ _ _
        rw [HTk.out, ints, List.map_append]; exact hown
      have HK5 : Hid (Below w.heap.size w w5) := K5
      clear K5 hown hgrow row4 HK4
      refine hK.out _ _ hHeld ?_
      clear hK K
      try simp only [Act.put, List.setIfInBounds_toArray, List.set_cons_zero, List.set_cons_succ]
      refine wpAnyG_last (i := 14) rfl (by kernel_rfl) (by kernel_rfl) (fun K hK => ?_)
      go_simp
      refine hK.out _ _ ?_
      clear hK K
      try simp only [Act.put, List.setIfInBounds_toArray, List.set_cons_zero, List.set_cons_succ]
      refine wpAnyG_done (by kernel_rfl) ?_ _
      go_wp2
      go_roundw
      case rel => exact ⟨k + 1, some ⟨g', 0, none⟩, cap', .inr (by have := HJk.out; omega), by have := HJk.out; go_num, rfl, HNext.out, HK5.out⟩
      case measure => have := HJk.out; simp [intOf]; omega
    · have hdec : decide ((k : Int) + 1 < (L : Int)) = false := decide_eq_false (by omega)
      have HRow : Hid (wr.ownsRow w.heap.size 3 1 (.slice a k c) k (ints (dml l m))) := by
        have h := HR.out.1
        rw [List.take_of_length_le (by rw [dml_len, ← HL.out]; omega)] at h
        exact h
      have HKL : Hid ((dml l m).length = k) := by show _ = _; rw [dml_len, ← HL.out]; omega
      go_wp2
      go_ret
      exact ⟨_, rfl, IS.ownP HKL.out HRow.out, HR.out.2⟩

theorem slopeAt_any (s : Value) (l : List Int) (x : Int) (m : Nat) (w : World) (hs : IS w s l) (hl : l.length ≤ 1000) (hn : ∀ i, i < l.length → (l.getD i 0).natAbs ≤ 4000000000000000000) (hx : x.natAbs ≤ 4000000000000000000) (h0 : 0 < m) (hm : m ≤ 1000000000000000000) :
    Calls Tryz.prog 27 #[s, .int .i64 x, .int .i64 m] w fun e w' => e = .returned (.int .i64 (dv l x % (m : Int))) ∧ Below w.heap.size w w' := by
  have HD : Hid (∀ w, IS w s l → Calls Tryz.prog 56 #[s, .int .i64 m] w fun e w' => ∃ v, e = .returned v ∧ IS w' v (dml l m) ∧ Below w.heap.size w w') := fun w h => derivative_any s l m w h hl hn h0 hm
  have HS : Hid (IS w s l) := hs
  have HV : Hid (∀ v w, IS w v (dml l m) → Calls Tryz.prog 30 #[v, .int .i64 x, .int .i64 m] w fun e w' => e = .returned (.int .i64 (dv l x % (m : Int))) ∧ ∃ q, w' = w.drewN q) := by
    intro v w h
    rw [← dml_pv]
    refine valueAt_any v (dml l m) x m w h (by rw [dml_len]; omega) (fun i hi => ?_) hx h0 hm
    have e : (dml l m).getD i 0 = (((i : Int) + 1) * l.getD (i + 1) 0) % (m : Int) := by
      rw [dml_len] at hi
      simp [dml, List.getD_eq_getElem?_getD, hi]
    have := Int.emod_nonneg (((i : Int) + 1) * l.getD (i + 1) 0) (show (m : Int) ≠ 0 by omega)
    have := Int.emod_lt_of_pos (((i : Int) + 1) * l.getD (i + 1) 0) (show 0 < (m : Int) by omega)
    omega
  obtain ⟨aa, g, o, cap, rfl, _⟩ := hs
  clear hl hn
  go_enter Tryz.func27, Tryz.ntmps27
  go_wp2_with fail
  refine (HD.out w HS.out).mono ?_
  rintro e w1 ⟨v, rfl, h1, k1⟩
  have HIS : Hid (IS w1 v (dml l m)) := h1
  have HK : Hid (Below w.heap.size w w1) := k1
  clear h1 k1
  obtain ⟨aa', g', o', cap', rfl, _⟩ := HIS.out
  go_wp2_with fail
  refine (HV.out _ _ HIS.out).mono ?_
  rintro e w2 ⟨rfl, q2, rfl⟩
  go_wp2
  go_ret
  exact ⟨rfl, below_drewN' HK.out⟩

end Go.Proofs.YtidndbdjhapfaaaGreatDoor
