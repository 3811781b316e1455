/- frac.fibonacci and frac.zeck. -/
import Derived.Test.YtcnfhndejkngkaaGreatDoorJzA
import Derived.Test.YtcnfhndejkngkaaGreatDoorFpA
import Derived.Test.YtcnfhndejkngkaaGreatDoorJzT
import Derived.Test.YtcnfhndejkngkaaGreatDoorJzH
import Derived.Maps.AppendAt
import Derived.ArgAppend
import Derived.Laws.OwnMore
set_option linter.unusedSimpArgs false
set_option linter.unusedVariables false
set_option maxRecDepth 100000
namespace Go.Proofs.YtcnfhndejkngkaaGreatDoor
open Go.RowKit

/-- append onto a row of one's own, of which the old cells stay where they were. -/
theorem oper_append_keep {P : Program} {o : Oper} {a : Act} {K : Act → World → Prop} {Q : Exit → Act → World → Prop} (w : World) (s x : Operand) (t : TypeId)
    (ho : o.op = .call { callee := .builtin .append, args := #[s, x], argTypes := #[t, t] })
    (base : Nat) (e : TypeId) (i : TypeInfo) (z : Value) (bytes : Nat) (ht : P.underlying t = some (.slice e)) (hi : P.info? e = some i) (hz : i.zero = some z)
    (hsize : i.size = 1) (hby : i.bytes = bytes) (hzs : z.cells.size = 1)
    (g n c : Nat) (xs : List Value) (hn : 0 < n) (hs : a.eval s = .slice (some ⟨g, 0, none⟩) n c) (hown : w.ownsRow base e 1 (.slice (some ⟨g, 0, none⟩) n c) n xs)
    (ad : Addr) (m d : Nat) (news : List Value) (hx : a.eval x = .slice (some ad) m d) (hl : news.length = m * 1) (hnews : ∀ j u, news[j]? = some u → w.cell? (ad.add j) = some u) (h1 : ∀ u ∈ news, u.oneCell' = true)
    (h63 : n + m ≤ maxLen) (hbytes : (n + m) * bytes ≤ 140737488355328) (hbase : base ≤ w.heap.size)
    (h : ∀ v' w', w'.ownsRow base e 1 v' (n + m) (xs ++ news) → w.grownBy w' (some g) → (∀ j, j < n → w'.cell? ⟨g, j, none⟩ = w.cell? ⟨g, j, none⟩) → K (a.put o.dst v') w') : Oper.wp P o a w K Q := by
  have hlx : xs.length = n * 1 := hown.1
  obtain ⟨g', cap', he, hg1, hg2, hcl⟩ := own_shape hown hn
  cases he
  have main : ∃ v' w', (Builtin.append_ #[t, t] o.type #[.slice (some ⟨g, 0, none⟩) n c, .slice (some ad) m d]).run P w = .ok v' w' ∧ w'.ownsRow base e 1 v' (n + m) (xs ++ news) ∧ w.grownBy w' (some g) ∧ (∀ j, j < n → w'.cell? ⟨g, j, none⟩ = w.cell? ⟨g, j, none⟩) := by
    by_cases hr : n + m ≤ c
    · obtain ⟨w', r1, r2, r3⟩ := run_append_fits (P := P) w base t o.type e i 1 ht hi hsize g n c xs hown ad m d news hl hnews h1 hr
      refine ⟨_, w', r1, r2, r3, fun j hj => ?_⟩
      obtain ⟨g2, cap2, he2, _, _, hcl2⟩ := own_shape r2 (by omega)
      cases he2
      rw [(hcl2 j (by omega)).1, (hcl j hj).1, List.getElem?_append_left (by omega)]
    · obtain ⟨v', w', r1, r2, r3⟩ := run_append_arg_grows (P := P) w t o.type e i z 1 bytes ht hi hz hsize hby hzs (by decide) ⟨g, 0, none⟩ n c xs hlx (fun j u hj => by
        have hjl : j < n := by
          rcases Nat.lt_or_ge j n with h5 | h5
          · exact h5
          · rw [List.getElem?_eq_none (by omega)] at hj; cases hj
        have hadd : (⟨g, 0, none⟩ : Addr).add j = ⟨g, j, none⟩ := by unfold Addr.add; split <;> simp_all
        rw [hadd, (hcl j hjl).1]; exact hj) ad m d news hl hnews (by omega) h63 hbytes
      refine ⟨v', w', r1, ?_, ⟨r3.os, r3.tape, r3.output, r3.size, fun k hk _ => r3.block k hk (by simp)⟩, fun j _ => World.cell?_of_block (r3.block g hg2 (by simp))⟩
      obtain ⟨q1, q2⟩ := r2
      refine ⟨q1, ?_⟩
      rcases q2 with q2 | ⟨g3, cap3, cur3, b1, b2, b3⟩
      · exact .inl q2
      · exact .inr ⟨g3, cap3, cur3, b1, Nat.le_trans hbase b2, b3⟩
  obtain ⟨v', w', hr, h2, h3, h4⟩ := main
  unfold Oper.wp execOp
  simp only [ho, resolve, invoke, builtin, Sem.run_bind, Sem.run_pure, Result.andThen_ok, List.map_toArray, List.map_cons, List.map_nil, hs, hx, hr]
  exact h v' w' h2 h3 h4
/-- A row of one's own stays where what is below the world's end stays. -/
theorem own_belF {B n sz : Nat} {w w' : World} {v : Value} {xs : List Value} {e : TypeId} (h : w.ownsRow B e sz v n xs) (k : Below w.heap.size w w') : w'.ownsRow B e sz v n xs := by
  refine ⟨h.1, ?_⟩
  rcases h.2 with hn | ⟨g, cap, cur, h1, h2, h3, h4⟩
  · exact .inl hn
  · exact .inr ⟨g, cap, cur, h1, h2, (k.block g (lt_of_some h3)).trans h3, h4⟩
def fbl (n : Nat) : List Int := (List.range n).map fun k => (FZ.fib k : Int)
theorem fbl_len (n : Nat) : (fbl n).length = n := by simp [fbl]
theorem fbl_succ (n : Nat) : fbl (n + 1) = fbl n ++ [(FZ.fib n : Int)] := by simp [fbl, List.range_succ]
theorem fbl_at {n i : Nat} (h : i < n) : (ints (fbl n))[i]? = some (.int .i64 ((FZ.fib i : Nat) : Int)) := by
  unfold ints fbl
  rw [List.getElem?_map, List.getElem?_map, List.getElem?_range h]
  rfl

set_option maxHeartbeats 4000000 in
theorem fibonacci_any (w : World) : Calls Tryz.prog 95 #[] w fun e w' => ∃ g c, e = .returned (.slice (some ⟨g, 0, none⟩) 88 c) ∧ g < w'.heap.size ∧ (∀ i, i < 88 → w'.cell? ⟨g, i, none⟩ = some (.int .i64 ((FZ.fib i : Nat) : Int))) ∧ Below w.heap.size w w' := by
  obtain ⟨i0, hi, hz0, hz1, hz2⟩ := info_parts Tryz.infoIntD
  have HI : Hid (Tryz.prog.info? 3 = some i0 ∧ i0.zero = some (.int .i64 0) ∧ i0.size = 1 ∧ i0.bytes = 8) := ⟨hi, hz0, hz1, hz2⟩
  clear hi hz0 hz1 hz2
  obtain ⟨W0, hW0⟩ : ∃ W, W = w.alloc (.cells #[.int .i64 0, .int .i64 1] 3) := ⟨_, rfl⟩
  have HS : Hid (W0.ownsRow w.heap.size 3 1 (.slice (some ⟨w.heap.size, 0, none⟩) 2 2) 2 (ints (fbl 2)) ∧ Below w.heap.size w W0) := by
    show _ ∧ _
    rw [hW0]
    exact ⟨⟨rfl, .inr ⟨w.heap.size, 2, #[.int .i64 0, .int .i64 1], rfl, Nat.le_refl _, Cl.new [.int .i64 0, .int .i64 1] 3 w, by omega, by unfold maxLen; omega, rfl, rfl⟩⟩, (Below.refl _ _).alloc (Nat.le_refl _) _⟩
  go_enter Tryz.func95, Tryz.ntmps95
  go_wp2_with fail
  rw [← hW0]
  clear hW0
  go_loopg [1, 4] 86 (fun gk lv iv wx => ∃ (i : Nat) (a : Option Addr) (c : Nat), lv = .slice a (i + 2) c ∧ iv = .int .i64 (i : Int) ∧ Hid (gk = 86 - i ∧ i ≤ 86 ∧ wx.ownsRow w.heap.size 3 1 (.slice a (i + 2) c) (i + 2) (ints (fbl (i + 2))) ∧ Below w.heap.size w wx))
  case atStart => exact ⟨0, _, _, rfl, rfl, rfl, by omega, HS.out⟩
  case round =>
    clear HS
    obtain ⟨i, a, c, rfl, rfl, HR⟩ := hrel
    obtain ⟨h1, h2, h3, h4⟩ := HR.out
    have HG : Hid (gk = 86 - i) := h1
    have HC : Hid (wr.ownsRow w.heap.size 3 1 (.slice a (i + 2) c) (i + 2) (ints (fbl (i + 2))) ∧ Below w.heap.size w wr) := ⟨h3, h4⟩
    obtain ⟨g, cap, hv, hg1, hg2, hcl⟩ := own_shape h3 (by omega)
    cases hv
    clear HR h1 h3 h4
    by_cases hi : i < 86
    · have ti : decide ((i : Int) < 86) = true := decide_eq_true (by omega)
      obtain ⟨x, hx⟩ : ∃ x, x = FZ.fib i := ⟨_, rfl⟩
      obtain ⟨y, hy⟩ : ∃ y, y = FZ.fib (i + 1) := ⟨_, rfl⟩
      obtain ⟨z, hz⟩ : ∃ z, z = FZ.fib (i + 2) := ⟨_, rfl⟩
      obtain ⟨i1, hi1⟩ : ∃ i1, i1 = i + 1 := ⟨_, rfl⟩
      obtain ⟨n, hn⟩ : ∃ n, n = i + 2 := ⟨_, rfl⟩
      have ei1 : (i : Int) + 1 = (i1 : Int) := by omega
      have hxyz : (x : Int) + (y : Int) = (z : Int) := by rw [hx, hy, hz, FZ.fib_step]; omega
      have hz2 : z ≤ 2880067194370816120 := by rw [hz]; exact FZ.fib_87 (by omega)
      have wz : IntKind.i64.wrap (z : Int) = (z : Int) := by rw [IntKind.wrap_i64]; omega
      have w1 : IntKind.i64.wrap (i1 : Int) = (i1 : Int) := by rw [IntKind.wrap_i64]; omega
      have q0 : wr.cell? ⟨g, i, none⟩ = some (.int .i64 (x : Int)) := by rw [(hcl i (by omega)).1, fbl_at (by omega), hx]
      have q1 : wr.cell? ⟨g, i1, none⟩ = some (.int .i64 (y : Int)) := by rw [hi1, (hcl (i + 1) (by omega)).1, fbl_at (by omega), hy]
      have xi : (i : Int) < (n : Int) := by omega
      have xi1 : (i1 : Int) < (n : Int) := by omega
      have HN : Hid (ints (fbl (i + 2)) ++ [.int .i64 (z : Int)] = ints (fbl (i + 1 + 2)) ∧ n = i + 2) := by
        refine ⟨?_, hn⟩
        have key := fbl_succ (i + 2)
        rw [show i + 1 + 2 = i + 2 + 1 by omega, key, hz]
        unfold ints
        rw [List.map_append]
        rfl
      have hn90 : n ≤ 90 := by omega
      have hgz : g < wr.heap.size := hg2
      have HC2 : Hid (wr.ownsRow w.heap.size 3 1 (.slice (some ⟨g, 0, none⟩) n c) n (ints (fbl (i + 2))) ∧ Below w.heap.size w wr) := by rw [hn]; exact HC.out
      rw [← hn]
      clear hx hy hz hcl hn hi1 hg1 HC
      go_wp2
      refine wp_region_G (fun W => W.cell? ⟨g, i, none⟩ = some (.int .i64 (x : Int)) ∧ W.cell? ⟨g, i1, none⟩ = some (.int .i64 (y : Int))) 13 (by kernel_rfl) ⟨q0, q1⟩ (fun hHeld => ?_)
      refine wpAnyG_take (i := 0) (v := ?v0x1) rfl (by kernel_rfl) (fun _ _ _ h => h) (Or.inl ⟨by rfl, ?y0x1⟩) hHeld ?r0x1
      case y0x1 => (intro wS hSw; obtain ⟨s1, s2⟩ := hSw; go_simp; try with_reducible rfl)
      try simp only [Act.put, List.setIfInBounds_toArray, List.set_cons_zero, List.set_cons_succ]
      refine wpAnyG_take (i := 1) (v := ?v1x2) rfl (by kernel_rfl) (fun _ _ _ h => h) (Or.inl ⟨by rfl, ?y1x2⟩) hHeld ?r1x2
      case y1x2 => (intro wS hSw; obtain ⟨s1, s2⟩ := hSw; go_simp; try with_reducible rfl)
      try simp only [Act.put, List.setIfInBounds_toArray, List.set_cons_zero, List.set_cons_succ]
      refine wpAnyG_take (i := 2) (v := ?v2x3) rfl (by kernel_rfl) (fun _ _ _ h => h) (Or.inl ⟨by rfl, ?y2x3⟩) hHeld ?r2x3
      case y2x3 => (intro wS hSw; obtain ⟨s1, s2⟩ := hSw; go_simp; try with_reducible rfl)
      try simp only [Act.put, List.setIfInBounds_toArray, List.set_cons_zero, List.set_cons_succ]
      refine wpAnyG_take (i := 3) (v := ?v3x4) rfl (by kernel_rfl) (fun _ _ _ h => h) (Or.inl ⟨by rfl, ?y3x4⟩) hHeld ?r3x4
      case y3x4 => (intro wS hSw; obtain ⟨s1, s2⟩ := hSw; go_simp; try with_reducible rfl)
      try simp only [Act.put, List.setIfInBounds_toArray, List.set_cons_zero, List.set_cons_succ]
      refine wpAnyG_take (i := 4) (v := ?v4x5) rfl (by kernel_rfl) (fun _ _ _ h => h) (Or.inl ⟨by rfl, ?y4x5⟩) hHeld ?r4x5
      case y4x5 => (intro wS hSw; obtain ⟨s1, s2⟩ := hSw; go_simp; try with_reducible rfl)
      try simp only [Act.put, List.setIfInBounds_toArray, List.set_cons_zero, List.set_cons_succ]
      refine wpAnyG_take (i := 5) (v := ?v5x6) rfl (by kernel_rfl) (fun _ _ _ h => h) (Or.inl ⟨by rfl, ?y5x6⟩) hHeld ?r5x6
      case y5x6 => (intro wS hSw; obtain ⟨s1, s2⟩ := hSw; go_simp; try with_reducible rfl)
      try simp only [Act.put, List.setIfInBounds_toArray, List.set_cons_zero, List.set_cons_succ]
      refine wpAnyG_take (i := 6) (v := ?v6x7) rfl (by kernel_rfl) (fun _ _ _ h => h) (Or.inl ⟨by rfl, ?y6x7⟩) hHeld ?r6x7
      case y6x7 => (intro wS hSw; obtain ⟨s1, s2⟩ := hSw; go_simp; try with_reducible rfl)
      try simp only [Act.put, List.setIfInBounds_toArray, List.set_cons_zero, List.set_cons_succ]
      refine wpAnyG_take (i := 7) (v := ?v7x8) rfl (by kernel_rfl) (fun _ _ _ h => h) (Or.inl ⟨by rfl, ?y7x8⟩) hHeld ?r7x8
      case y7x8 => (intro wS hSw; obtain ⟨s1, s2⟩ := hSw; go_simp; try with_reducible rfl)
      try simp only [Act.put, List.setIfInBounds_toArray, List.set_cons_zero, List.set_cons_succ]
      refine wpAnyG_take (i := 8) (v := ?v8x9) rfl (by kernel_rfl) (fun _ _ _ h => h) (Or.inl ⟨by rfl, ?y8x9⟩) hHeld ?r8x9
      case y8x9 => (intro wS hSw; obtain ⟨s1, s2⟩ := hSw; go_simp; try with_reducible rfl)
      try simp only [Act.put, List.setIfInBounds_toArray, List.set_cons_zero, List.set_cons_succ]
      refine wpAnyG_take (i := 9) (v := ?v9x10) rfl (by kernel_rfl) (fun _ _ _ h => h) (Or.inl ⟨by rfl, ?y9x10⟩) hHeld ?r9x10
      case y9x10 => (intro wS hSw; obtain ⟨s1, s2⟩ := hSw; go_simp; try with_reducible rfl)
      try simp only [Act.put, List.setIfInBounds_toArray, List.set_cons_zero, List.set_cons_succ]
      refine wpAnyG_take (i := 10) (v := ?v10x11) rfl (by kernel_rfl) (fun _ _ _ h => h) (Or.inl ⟨by rfl, ?y10x11⟩) hHeld ?r10x11
      case y10x11 => (intro wS hSw; obtain ⟨s1, s2⟩ := hSw; go_simp; try with_reducible rfl)
      try simp only [Act.put, List.setIfInBounds_toArray, List.set_cons_zero, List.set_cons_succ]
      refine wpAnyG_one (i := 11) rfl (by kernel_rfl) (fun K hK => ?_)
      go_simp
      clear hHeld
      obtain ⟨w4, hw4⟩ : ∃ w4, (wr.alloc (.cells #[.int .i64 (z : Int)] 3)).drew = w4 := ⟨_, rfl⟩
      have k4 : Below wr.heap.size wr w4 := by rw [← hw4]; exact ((Below.refl _ _).alloc (Nat.le_refl _) _).drew
      have HNew : Hid (∀ j u, [Value.int .i64 (z : Int)][j]? = some u → w4.cell? ((⟨wr.heap.size, 0, none⟩ : Addr).add j) = some u) := by
        show ∀ j u, _
        rw [← hw4]; exact own_news (Cl.new [.int .i64 (z : Int)] 3 wr).drew
      have HK4 : Hid (Below wr.heap.size wr w4) := k4
      rw [hw4]
      have hq4 : w4.cell? ⟨g, i, none⟩ = some (.int .i64 (x : Int)) ∧ w4.cell? ⟨g, i1, none⟩ = some (.int .i64 (y : Int)) := ⟨(k4.cell (p := ⟨g, i, none⟩) hgz).trans q0, (k4.cell (p := ⟨g, i1, none⟩) hgz).trans q1⟩
      refine hK.out _ _ hq4 ?_
      clear hK K hw4 k4
      have hHeld := hq4
      refine wpAnyG_one (i := 12) rfl (by kernel_rfl) (fun K hK => ?_)
      refine oper_append_keep w4 _ _ 65 rfl w.heap.size 3 i0 (.int .i64 0) 8 Tryz.underlying65 HI.out.1 HI.out.2.1 HI.out.2.2.1 HI.out.2.2.2 rfl g n c (ints (fbl (i + 2))) (by omega) rfl (own_belF HC2.out.1 HK4.out) ⟨wr.heap.size, 0, none⟩ 1 1 [.int .i64 (z : Int)] rfl rfl HNew.out (by simp [Value.oneCell']) (by simp only [maxLen]; omega) (by omega) (Nat.le_trans HC2.out.2.size HK4.out.size) ?_
      intro v' w5 hown hgrow hold
      rw [HN.out.1] at hown
      obtain ⟨a', c', rfl⟩ := own_anyD hown
      have HN5 : Hid (w5.ownsRow w.heap.size 3 1 (.slice a' (n + 1) c') (n + 1) (ints (fbl (i + 1 + 2))) ∧ Below w.heap.size w w5) :=
        ⟨hown, (HC2.out.2.trans (HK4.out.mono HC2.out.2.size)).grown hgrow (Nat.le_trans HC2.out.2.size HK4.out.size) (fun k e => by obtain rfl := Option.some.inj e; exact (HC2.out.1.lt _ rfl).1)⟩
      have hq5 : w5.cell? ⟨g, i, none⟩ = some (.int .i64 (x : Int)) ∧ w5.cell? ⟨g, i1, none⟩ = some (.int .i64 (y : Int)) := ⟨(hold i (by omega)).trans hq4.1, (hold i1 (by omega)).trans hq4.2⟩
      refine hK.out _ _ hq5 ?_
      clear hK K hHeld hown hgrow hold
      have hHeld := hq5
      refine wpAnyG_last (i := 13) rfl (by kernel_rfl) (by kernel_rfl) (fun K hK => ?_)
      go_simp
      refine hK.out _ _ ?_
      clear hK K
      refine wpAnyG_done (by kernel_rfl) ?_ _
      clear hHeld hq4 hq5 q0 q1
      go_wp2
      go_roundg (86 - (i + 1))
      case rel => exact ⟨i + 1, a', c', by rw [HN.out.2], by go_num, rfl, by omega, by have := HN5.out.1; rw [HN.out.2] at this; exact this, HN5.out.2⟩
      case measure => have := HG.out; omega
    · have ti : decide ((i : Int) < 86) = false := decide_eq_false (by omega)
      obtain rfl : i = 86 := by omega
      go_wp2
      go_ret
      exact ⟨g, c, rfl, hg2, fun j hj => by rw [(hcl j hj).1, fbl_at hj], HC.out.2⟩
def nzl (L : List Nat) : List Int := List.map (fun k : Nat => (k : Int)) L
theorem nzl_at {L : List Nat} {i : Nat} (h : i < L.length) : (ints (nzl L))[i]? = some (.int .i64 ((L.getD i 0 : Nat) : Int)) := by
  unfold ints nzl
  rw [List.getElem?_map, List.getElem?_map, List.getElem?_eq_getElem h, List.getD_eq_getElem?_getD, List.getElem?_eq_getElem h]
  rfl

set_option maxHeartbeats 4000000 in
theorem zeck_any (n : Nat) (hn : n ≤ 1000000000000000000) (w : World) : Calls Tryz.prog 63 #[.int .i64 (n : Int)] w fun e w' => ∃ (L : List Nat) (a : Option Addr) (c B : Nat), e = .returned (.slice a L.length c) ∧ FZ.Zk L n ∧ w'.ownsRow B 3 1 (.slice a L.length c) L.length (ints (nzl L)) ∧ w.heap.size ≤ B ∧ Below w.heap.size w w' := by
  obtain ⟨i0, hi, hz0, hz1, hz2⟩ := info_parts Tryz.infoIntD
  have HI : Hid (Tryz.prog.info? 3 = some i0 ∧ i0.zero = some (.int .i64 0) ∧ i0.size = 1 ∧ i0.bytes = 8) := ⟨hi, hz0, hz1, hz2⟩
  clear hi hz0 hz1 hz2
  have HZ0 : Hid (FZ.Zs n 0 n []) := FZ.zs_start hn
  have HF := fibonacci_any w
  go_enter Tryz.func63, Tryz.ntmps63
  go_wp2_with fail
  refine HF.mono ?_
  rintro e w1 ⟨g, cf, rfl, hg, hcl, k1⟩
  have HFb : Hid (g < w1.heap.size ∧ (∀ W, Below w1.heap.size w1 W → ∀ i, i < 88 → W.cell? ⟨g, i, none⟩ = some (.int .i64 ((FZ.fib i : Nat) : Int))) ∧ Below w.heap.size w w1) := ⟨hg, fun W k i hi => (k.cell (p := ⟨g, i, none⟩) hg).trans (hcl i hi), k1⟩
  clear HF hg hcl k1
  have hn0 : n ≤ 1000000000000000000 := hn
  clear hn
  go_wp2
  go_loopg [0, 4, 8] 86 (fun gk rv lv iv wx => ∃ (i R : Nat) (L : List Nat) (a : Option Addr) (c : Nat), rv = .int .i64 (R : Int) ∧ lv = .slice a L.length c ∧ iv = .int .i64 (i : Int) ∧ Hid (gk = 86 - i ∧ i ≤ 86 ∧ FZ.Zs n i R L ∧ R ≤ n ∧ wx.ownsRow w1.heap.size 3 1 (.slice a L.length c) L.length (ints (nzl L)) ∧ Below w1.heap.size w1 wx))
  case atStart => exact ⟨0, n, [], none, 0, rfl, rfl, rfl, rfl, by omega, HZ0.out, Nat.le_refl _, ⟨rfl, .inl ⟨rfl, rfl⟩⟩, Below.refl _ _⟩
  case round =>
    clear HZ0
    obtain ⟨i, R, L, a, c, rfl, rfl, rfl, HR⟩ := hrel
    obtain ⟨h1, h2, h3, h4, h5, h6⟩ := HR.out
    have HG : Hid (gk = 86 - i) := h1
    have HC : Hid (FZ.Zs n i R L ∧ wr.ownsRow w1.heap.size 3 1 (.slice a L.length c) L.length (ints (nzl L)) ∧ Below w1.heap.size w1 wr ∧ R ≤ n) := ⟨h3, h5, h6, h4⟩
    have hl100 := h3.len h2
    clear HR h1 h3 h4 h5 h6
    by_cases hi : i < 86
    · have ti : decide ((i : Int) < 86) = true := decide_eq_true (by omega)
      obtain ⟨k, hk⟩ : ∃ k, k = 87 - i := ⟨_, rfl⟩
      have ek : 87 - (i : Int) = (k : Int) := by omega
      have wk : IntKind.i64.wrap (k : Int) = (k : Int) := by rw [IntKind.wrap_i64]; omega
      have xk : (k : Int) < 88 := by omega
      obtain ⟨F, hF⟩ : ∃ F, F = FZ.fib k := ⟨_, rfl⟩
      have q0 : wr.cell? ⟨g, k, none⟩ = some (.int .i64 (F : Int)) := by rw [hF]; exact HFb.out.2.1 wr HC.out.2.2.1 k (by omega)
      have HK : Hid (k = 87 - i ∧ F = FZ.fib k) := ⟨hk, hF⟩
      have hRn : R ≤ n := HC.out.2.2.2
      clear hk hF
      by_cases hle : F ≤ R
      · have tl : decide ((F : Int) ≤ (R : Int)) = true := decide_eq_true (by omega)
        obtain ⟨R', hR'⟩ : ∃ R', R' = R - F := ⟨_, rfl⟩
        have eR : (R : Int) - (F : Int) = (R' : Int) := by omega
        have HZ : Hid (FZ.Zs n (i + 1) R' (L ++ [k]) ∧ R' ≤ n) := by
          have h7 := HC.out.1.take hi (by rw [← HK.out.1, ← HK.out.2]; exact hle)
          rw [← HK.out.1, ← HK.out.2, ← hR'] at h7
          exact ⟨h7, by omega⟩
        have HN : Hid (n ≤ 1000000000000000000) := by
          have := HC.out.1.sum
          have h8 := HC.out.1
          show _ ≤ _
          exact hn0
        have wR : IntKind.i64.wrap (R' : Int) = (R' : Int) := by rw [IntKind.wrap_i64]; have := HN.out; omega
        obtain ⟨N, hN⟩ : ∃ N, N = L.length := ⟨_, rfl⟩
        have HNl : Hid (N = L.length) := hN
        rw [← hN] at HC ⊢
        rw [← hN] at hl100
        clear hR' hN hle
        go_wp2_with (at_builtin; refine wpList_append_own _ rfl _ _ 65 rfl w1.heap.size 3 i0 (.int .i64 0) 1 8 Tryz.underlying65 HI.out.1 HI.out.2.1 HI.out.2.2.1 HI.out.2.2.2 rfl (by decide) (.slice a N c) N (ints (nzl L)) rfl (HC.out.2.1.alloc _) ⟨wr.heap.size, 0, none⟩ 1 1 [.int .i64 (k : Int)] rfl rfl (own_news (Cl.new [.int .i64 (k : Int)] 3 wr)) (by simp [Value.oneCell']) (by simp only [maxLen]; omega) (by omega) (by have := HC.out.2.2.1.size; simp; omega) ?_; intro v' w6 hown' hgrow _; have HO6 : Hid (w6.ownsRow w1.heap.size 3 1 v' (N + 1) (ints (nzl (L ++ [k]))) ∧ Below w1.heap.size w1 w6) := ⟨by have e : ints (nzl (L ++ [k])) = ints (nzl L) ++ [.int .i64 (k : Int)] := (by unfold ints nzl; rw [List.map_append, List.map_append]; rfl); rw [e]; exact hown', (HC.out.2.2.1.alloc HC.out.2.2.1.size _).grown hgrow (by have := HC.out.2.2.1.size; simp; omega) (fun j hj => (HC.out.2.1.lt j hj).1)⟩; clear hown' hgrow q0; have q0 : w6.cell? ⟨g, k, none⟩ = some (.int .i64 (F : Int)) := (by rw [HK.out.2]; exact HFb.out.2.1 w6 HO6.out.2 k (by omega)))
        obtain ⟨a', c', rfl⟩ := own_anyD HO6.out.1
        go_roundg (86 - (i + 1))
        case rel => exact ⟨i + 1, R', L ++ [k], a', c', rfl, by rw [List.length_append, List.length_singleton, HNl.out], by go_num, rfl, by omega, HZ.out.1, HZ.out.2, by rw [List.length_append, List.length_singleton, ← HNl.out]; exact HO6.out.1, HO6.out.2⟩
        case measure => have := HG.out; omega
      · have tl : decide ((F : Int) ≤ (R : Int)) = false := decide_eq_false (by omega)
        have HZ : Hid (FZ.Zs n (i + 1) R L) := HC.out.1.skip hi (by rw [← HK.out.1, ← HK.out.2]; omega)
        have tl2 : decide (F ≤ R) = false := decide_eq_false hle
        go_wp2
        go_roundg (86 - (i + 1))
        case rel => exact ⟨i + 1, R, L, a, c, rfl, rfl, by go_num, rfl, by omega, HZ.out, HC.out.2.2.2, HC.out.2.1, HC.out.2.2.1⟩
        case measure => have := HG.out; omega
    · have ti : decide ((i : Int) < 86) = false := decide_eq_false (by omega)
      obtain rfl : i = 86 := by omega
      go_wp2
      go_ret
      exact ⟨L, a, c, w1.heap.size, rfl, HC.out.1.zk, HC.out.2.1, HFb.out.2.2.size, HFb.out.2.2.trans (HC.out.2.2.1.mono HFb.out.2.2.size)⟩
end Go.Proofs.YtcnfhndejkngkaaGreatDoor
