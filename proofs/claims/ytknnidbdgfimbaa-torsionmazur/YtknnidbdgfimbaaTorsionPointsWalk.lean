/- The law TorsionPoints, walked: of every a and b. -/
import Derived.Test.YtknnidbdgfimbaaJnF
import Derived.Test.YtknnidbdgfimbaaJnO
import Derived.Test.YtknnidbdgfimbaaTrH
import Derived.BigQuiet
set_option linter.unusedSimpArgs false
set_option linter.unusedVariables false
set_option maxRecDepth 100000
namespace Go.Proofs.Ytknnidbdgfimbaa
open Go.RowKit TN

theorem qcl_get : ∀ (l : List (Int × Int)) (i : Nat) (q : Int × Int), l[i]? = some q → (qcl l)[i * 3]? = some (.int .i64 q.1) ∧ (qcl l)[i * 3 + 1]? = some (.int .i64 q.2) ∧ (qcl l)[i * 3 + 2]? = some (.bool false) := by
  intro l
  induction l with
  | nil => intro i q h; simp at h
  | cons p l ih =>
    intro i q h
    cases i with
    | zero =>
      simp at h
      subst h
      exact ⟨rfl, rfl, rfl⟩
    | succ i =>
      have := ih i q (by simpa using h)
      rw [show (i + 1) * 3 = i * 3 + 3 by omega]
      exact this
theorem icl'_get : ∀ (l : Its) (i : Nat) (q : Int × Int × Bool × Nat), l[i]? = some q → (icl' l)[i * 3]? = some (.int .i64 q.1) ∧ (icl' l)[i * 3 + 1]? = some (.int .i64 q.2.1) ∧ (icl' l)[i * 3 + 2]? = some (.bool q.2.2.1) := by
  intro l
  induction l with
  | nil => intro i q h; simp at h
  | cons p l ih =>
    intro i q h
    cases i with
    | zero =>
      simp at h
      subst h
      exact ⟨rfl, rfl, rfl⟩
    | succ i =>
      have := ih i q (by simpa using h)
      rw [show (i + 1) * 3 = i * 3 + 3 by omega]
      exact this
/-- What is wanted so far. -/
noncomputable def lwt (a b : Int) (i : Nat) : Its := (0, 0, true, 1) :: ((lkA a b (-1700) 3401).take i).flatMap (itm a b)
theorem lwt_next {a b : Int} {i : Nat} {q : Int × Int} (h : (lkA a b (-1700) 3401)[i]? = some q) : lwt a b (i + 1) = lwt a b i ++ itm a b q := by
  unfold lwt
  rw [List.take_add_one, h, List.flatMap_append, List.cons_append]
  simp
theorem lwt_len (a b : Int) (i : Nat) : (lwt a b i).length ≤ 6803 := by
  unfold lwt
  rw [List.length_cons]
  have h1 := itms_len a b ((lkA a b (-1700) 3401).take i)
  have h2 := lkA_len a b (-1700) 3401
  rw [List.length_take] at h1
  omega
theorem lwt_all {a b : Int} (hc : Cu a b) : lwt a b (lkA a b (-1700) 3401).length = (0, 0, true, 1) :: lkI a b := by
  unfold lwt lkI
  rw [List.take_length, lkA_all hc]
/-- What the law holds in memory: the program's list below z, what is wanted, and all points. -/
structure Lw (z gl ga gw : Nat) (lt lw : Its) (A : List (Int × Int)) (wc : Nat) (W0 W : World) : Prop where
  l : ∀ j u, (icl' lt)[j]? = some u → W.cell? ⟨gl, j, none⟩ = some u
  lz : gl < z
  w : W.ownsRow z 30 3 (.slice (some ⟨gw, 0, none⟩) lw.length wc) lw.length (icl' lw)
  a : 0 < A.length → ga < W.heap.size ∧ gw ≠ ga ∧ ∀ j u, (qcl A)[j]? = some u → W.cell? ⟨ga, j, none⟩ = some u
  zz : z = W0.heap.size
  k : Below z W0 W
theorem Lw.below {z gl ga gw : Nat} {lt lw : Its} {A : List (Int × Int)} {wc : Nat} {W0 W W' : World} (h : Lw z gl ga gw lt lw A wc W0 W) (c : Below W.heap.size W W') : Lw z gl ga gw lt lw A wc W0 W' := by
  have hz : z ≤ W.heap.size := by rw [h.zz]; exact (h.zz ▸ h.k).size
  refine ⟨fun j u hu => ((c.cell (p := ⟨gl, j, none⟩) (Nat.lt_of_lt_of_le h.lz hz))).trans (h.l j u hu), h.lz, trow_bel h.w c, fun ha => ?_, h.zz, h.k.trans (c.mono hz)⟩
  obtain ⟨a1, a2, a3⟩ := h.a ha
  exact ⟨Nat.lt_of_lt_of_le a1 c.size, a2, fun j u hu => (c.cell (p := ⟨ga, j, none⟩) a1).trans (a3 j u hu)⟩

theorem lw_grow {z gl ga gw g7 c7 n : Nat} {lt lw : Its} {A : List (Int × Int)} {wc : Nat} {W0 W w7 : World} {x y : Int} (h : Lw z gl ga gw lt lw A wc W0 W)
    (hown : w7.ownsRow z 30 3 (.slice (some ⟨g7, 0, none⟩) (lw.length + 1) c7) (lw.length + 1) (icl' lw ++ [.int .i64 x, .int .i64 y, .bool false]))
    (hgrow : World.grownBy (W.alloc (.cells #[.int .i64 x, .int .i64 y, .bool false] 30)) w7 (Value.slice (some ⟨gw, 0, none⟩) lw.length wc).ownBlock)
    (hob : (Value.slice (some ⟨g7, 0, none⟩) (lw.length + 1) c7).ownBlock = (Value.slice (some ⟨gw, 0, none⟩) lw.length wc).ownBlock ∨ (Value.slice (some ⟨g7, 0, none⟩) (lw.length + 1) c7).ownBlock = some (W.alloc (.cells #[.int .i64 x, .int .i64 y, .bool false] 30)).heap.size) :
    Lw z gl ga g7 lt (lw ++ [(x, y, false, n)]) A c7 W0 w7 := by
  have h1 := h.below (tala W (.cells #[.int .i64 x, .int .i64 y, .bool false] 30))
  generalize W.alloc (.cells #[.int .i64 x, .int .i64 y, .bool false] 30) = V at h1 hgrow hob
  simp [Value.ownBlock] at hgrow hob
  have hz : z ≤ V.heap.size := by rw [h1.zz]; exact (h1.zz ▸ h1.k).size
  have hgw : z ≤ gw := (h1.w.lt gw rfl).1
  refine ⟨fun j u hu => ?_, h1.lz, ?_, fun ha => ?_, h1.zz, ?_⟩
  · have := hgrow.block gl (Nat.lt_of_lt_of_le h1.lz hz) (by have := h1.lz; simp; omega)
    rw [World.cell?_of_block (a := ⟨gl, j, none⟩) this]
    exact h1.l j u hu
  · rw [List.length_append, icl'_append]; exact hown
  · obtain ⟨a1, a2, a3⟩ := h1.a ha
    have := hgrow.block ga a1 (by simp; omega)
    refine ⟨Nat.lt_of_lt_of_le a1 hgrow.size, ?_, fun j u hu => ?_⟩
    · rcases hob with e | e
      · omega
      · omega
    · rw [World.cell?_of_block (a := ⟨ga, j, none⟩) this]
      exact a3 j u hu
  · exact h1.k.grown hgrow hz (fun k e => by simp at e; omega)

set_option maxHeartbeats 4000000 in
theorem tp_bad (a b : Int) (w : World) (hc : (tf a b).1 ≠ 0) :
    Calls Try.prog 3 #[.int .i64 a, .int .i64 b] w fun e w' => e = .returned (.bool true) ∧ Below w.heap.size w w' := by
  have HCk : Hid (∀ w, Calls Try.prog 5 #[.int .i64 a, .int .i64 b] w fun e w' => e = .returned (.agg #[.int .i64 (tf a b).1, .int .i64 (tf a b).2]) ∧ Below w.heap.size w w') := fun w => tCheck_any a b w
  have HPo : Hid (∀ w, Calls Try.prog 6 #[.int .i64 a, .int .i64 b] w fun e w' => e = .returned (.tuple #[.slice none 0 0, .agg #[.int .i64 (tf a b).1, .int .i64 (tf a b).2]]) ∧ Below w.heap.size w w') := fun w => tPoints_bad a b w hc
  have HRf : Hid (∀ w, Calls Try.prog 7 #[.int .i64 a, .int .i64 b] w fun e w' => e = .returned (.agg #[.int .i64 (tf a b).1, .int .i64 (tf a b).2]) ∧ Below w.heap.size w w') := fun w => refTorsionFault_any a b w
  obtain ⟨c, hc1⟩ : ∃ c, (tf a b).1 = c := ⟨_, rfl⟩
  obtain ⟨d, hd1⟩ : ∃ d, (tf a b).2 = d := ⟨_, rfl⟩
  rw [hc1, hd1] at HCk HPo HRf
  rw [hc1] at hc
  have hcb : (c != 0) = true := by simp [bne]; exact hc
  clear hc hc1 hd1
  go_enter Try.func3, Try.ntmps3
  go_wp2_with fail
  refine (HCk.out _).mono ?_
  rintro e w1 ⟨rfl, k1⟩
  have C1 := Cl.new [.int .i64 c, .int .i64 d] 23 w1
  have K1 : Below w.heap.size w (w1.alloc (.cells #[.int .i64 c, .int .i64 d] 23)) := k1.alloc k1.size _
  go_wp2_with fail
  refine (HPo.out _).mono ?_
  rintro e w2 ⟨rfl, k2⟩
  have C1' := (C1.below k2).alloc (.cells #[.int .i64 c, .int .i64 d] 23)
  have C2 := Cl.new [.int .i64 c, .int .i64 d] 23 w2
  have K2 : Below w.heap.size w (w2.alloc (.cells #[.int .i64 c, .int .i64 d] 23)) := by
    have := K1.trans (k2.mono K1.size)
    exact this.alloc this.size _
  clear k1 k2 C1 K1 HCk HPo
  go_wp2_with fail
  refine (HRf.out _).mono ?_
  rintro e w3 ⟨rfl, k3⟩
  have K3 : Below w.heap.size w (w3.alloc (.cells #[.int .i64 c, .int .i64 d] 23)) := by
    have := K2.trans (k3.mono K2.size)
    exact this.alloc this.size _
  have D1 := (C1'.below k3).alloc (.cells #[.int .i64 c, .int .i64 d] 23)
  have D2 := (C2.below k3).alloc (.cells #[.int .i64 c, .int .i64 d] 23)
  have D3 := Cl.new [.int .i64 c, .int .i64 d] 23 w3
  clear k3 C1' C2 K2 HRf
  go_wp2_with fail
  refine (torsionBegun_any _).mono ?_
  rintro e w4 ⟨rfl, k4⟩
  have HK4 : Hid (Below w.heap.size w w4) := K3.trans (k4.mono K3.size)
  have E1 := D1.below k4
  have E2 := D2.below k4
  have E3 := D3.below k4
  have x0 : w4.cell? ⟨w1.heap.size, 0, none⟩ = some (.int .i64 c) := E1.cell 0
  have x1 : w4.cell? ⟨w1.heap.size, 1, none⟩ = some (.int .i64 d) := E1.cell 1
  have x2 : w4.cell? ⟨w2.heap.size, 0, none⟩ = some (.int .i64 c) := E2.cell 0
  have x3 : w4.cell? ⟨w2.heap.size, 1, none⟩ = some (.int .i64 d) := E2.cell 1
  have x4 : w4.cell? ⟨w3.heap.size, 0, none⟩ = some (.int .i64 c) := E3.cell 0
  have x5 : w4.cell? ⟨w3.heap.size, 1, none⟩ = some (.int .i64 d) := E3.cell 1
  clear D1 D2 D3 E1 E2 E3 K3 k4
  go_wp2
  go_ret
  exact ⟨rfl, HK4.out⟩

/-- Both lists, behind the first loop. -/
structure Tw (gl gw : Nat) (lt : Its) (w W : World) : Prop where
  l : ∀ j u, (icl' lt)[j]? = some u → W.cell? ⟨gl, j, none⟩ = some u
  g : ∀ j u, (icl' lt)[j]? = some u → W.cell? ⟨gw, j, none⟩ = some u
  lt : gl < W.heap.size ∧ gw < W.heap.size
  k : Below w.heap.size w W
theorem Tw.below {gl gw : Nat} {lt : Its} {w W W' : World} (h : Tw gl gw lt w W) (c : Below W.heap.size W W') : Tw gl gw lt w W' :=
  ⟨fun j u hu => (c.cell (p := ⟨gl, j, none⟩) h.lt.1).trans (h.l j u hu), fun j u hu => (c.cell (p := ⟨gw, j, none⟩) h.lt.2).trans (h.g j u hu), ⟨Nat.lt_of_lt_of_le h.lt.1 c.size, Nat.lt_of_lt_of_le h.lt.2 c.size⟩, h.k.trans (c.mono h.k.size)⟩

set_option maxHeartbeats 8000000 in
theorem tp_good (a b : Int) (w : World) (hc : Cu a b) :
    Calls Try.prog 3 #[.int .i64 a, .int .i64 b] w fun e w' => e = .returned (.bool true) ∧ Below w.heap.size w w' := by
  obtain ⟨k0, hk, hx0, hx1, hx2⟩ := info_parts Try.infoPq
  have HPt : Hid (Try.prog.info? 30 = some k0 ∧ k0.zero = some (.agg #[.int .i64 0, .int .i64 0, .bool false]) ∧ k0.size = 3 ∧ k0.bytes = 24) := ⟨hk, hx0, hx1, hx2⟩
  clear hk hx0 hx1 hx2
  have HCk : Hid (∀ w, Calls Try.prog 5 #[.int .i64 a, .int .i64 b] w fun e w' => e = .returned (.agg #[.int .i64 0, .int .i64 0]) ∧ Below w.heap.size w w') := fun w => by
    have := tCheck_any a b w
    rw [tf_cu hc] at this
    exact this
  have HRf : Hid (∀ w, Calls Try.prog 7 #[.int .i64 a, .int .i64 b] w fun e w' => e = .returned (.agg #[.int .i64 0, .int .i64 0]) ∧ Below w.heap.size w w') := fun w => by
    have := refTorsionFault_any a b w
    rw [tf_cu hc] at this
    exact this
  obtain ⟨lt, hlt⟩ : ∃ lt, ((0, 0, true, 1) :: lkI a b : Its) = lt := ⟨_, rfl⟩
  obtain ⟨A, hA⟩ : ∃ A, lkA a b (-1700) 3401 = A := ⟨_, rfl⟩
  obtain ⟨K, hK⟩ : ∃ K, A.length = K := ⟨_, rfl⟩
  obtain ⟨N, hN⟩ : ∃ N, lt.length = N := ⟨_, rfl⟩
  have HPo : Hid (∀ w, Calls Try.prog 6 #[.int .i64 a, .int .i64 b] w fun e w' => ∃ (g cc : Nat), e = .returned (.tuple #[.slice (some ⟨g, 0, none⟩) N cc, .agg #[.int .i64 0, .int .i64 0]]) ∧ g < w'.heap.size ∧ (∀ j u, (icl' lt)[j]? = some u → w'.cell? ⟨g, j, none⟩ = some u) ∧ Below w.heap.size w w') := by
    intro w
    refine (tPoints_ok a b w hc).mono ?_
    rintro e w' ⟨aa, cc, rfl, r, k⟩
    obtain ⟨g, rfl, hg, _, hcl⟩ := trow_at r (by omega)
    rw [hlt] at hcl
    refine ⟨g, cc, ?_, hg, hcl, k⟩
    rw [← hN, ← hlt, List.length_cons]
  have HWp : Hid (∀ w, Calls Try.prog 9 #[.int .i64 a, .int .i64 b] w fun e w' => ∃ (aa : Option Addr) (cc : Nat), e = .returned (.slice aa K cc) ∧ Wq A aa cc w w') := by
    intro w
    have := WholePoints_any a b w hc
    rw [hA, hK] at this
    exact this
  have HFo : Hid (∀ (i : Nat) (q : Int × Int) (w : World), A[i]? = some q → Calls Try.prog 10 #[.int .i64 a, .agg #[.int .i64 q.1, .int .i64 q.2, .bool false]] w fun e w' => e = .returned (.int .i64 (fov (ordR a b q.1 q.2))) ∧ Below w.heap.size w w') := by
    intro i q w hq
    have hm := List.mem_of_getElem? hq
    rw [← hA] at hm
    exact FiniteOrder_any a b q.1 q.2 w hc (lkA_mem 3401 hm)
  have HOr : Hid (∀ (i : Nat) (q : Int × Int), A[i]? = some q → lwt a b (i + 1) = lwt a b i ++ itm a b q ∧ ∀ n, ordR a b q.1 q.2 = some n → 2 ≤ n ∧ n ≤ 12) := by
    intro i q hq
    refine ⟨lwt_next (by rw [hA]; exact hq), fun n hn => ?_⟩
    have hm := List.mem_of_getElem? hq
    rw [← hA] at hm
    exact ordR_bd hc (lkA_mem 3401 hm) hn
  have HAll : Hid (lwt a b K = lt ∧ A.length = K ∧ lt.length = N) := ⟨by rw [← hK, ← hA, lwt_all hc, hlt], hK, hN⟩
  have hKb : K ≤ 6802 := by rw [← hK, ← hA]; have := lkA_len a b (-1700) 3401; omega
  have hNb : 1 ≤ N ∧ N ≤ 3265 := by rw [← hN, ← hlt, List.length_cons]; have := lkI_len a b; omega
  clear hc hlt hA hK hN
  go_enter Try.func3, Try.ntmps3
  go_wp2_with fail
  refine (HCk.out _).mono ?_
  rintro e w1 ⟨rfl, k1⟩
  have C1 := Cl.new [.int .i64 0, .int .i64 0] 23 w1
  have K1 : Below w.heap.size w (w1.alloc (.cells #[.int .i64 0, .int .i64 0] 23)) := k1.alloc k1.size _
  go_wp2_with fail
  refine (HPo.out _).mono ?_
  rintro e w2 ⟨gl, cl, rfl, g2, l2, k2⟩
  have C1' := (C1.below k2).alloc (.cells #[.int .i64 0, .int .i64 0] 23)
  have C2 := Cl.new [.int .i64 0, .int .i64 0] 23 w2
  have K2' := K1.trans (k2.mono K1.size)
  have K2 : Below w.heap.size w (w2.alloc (.cells #[.int .i64 0, .int .i64 0] 23)) := K2'.alloc K2'.size _
  have J2 : Below w2.heap.size w2 (w2.alloc (.cells #[.int .i64 0, .int .i64 0] 23)) := tala _ _
  clear k1 k2 C1 K1 HCk HPo K2'
  go_wp2_with fail
  refine (HRf.out _).mono ?_
  rintro e w3 ⟨rfl, k3⟩
  have K3' := K2.trans (k3.mono K2.size)
  have K3 : Below w.heap.size w (w3.alloc (.cells #[.int .i64 0, .int .i64 0] 23)) := K3'.alloc K3'.size _
  have J3' := J2.trans (k3.mono J2.size)
  have J3 : Below w2.heap.size w2 (w3.alloc (.cells #[.int .i64 0, .int .i64 0] 23)) := J3'.alloc J3'.size _
  have D1 := (C1'.below k3).alloc (.cells #[.int .i64 0, .int .i64 0] 23)
  have D2 := (C2.below k3).alloc (.cells #[.int .i64 0, .int .i64 0] 23)
  have D3 := Cl.new [.int .i64 0, .int .i64 0] 23 w3
  clear k3 C1' C2 K2 HRf J2 J3' K3'
  go_wp2_with fail
  refine (torsionBegun_any _).mono ?_
  rintro e w4 ⟨rfl, k4⟩
  have K4 : Below w.heap.size w w4 := K3.trans (k4.mono K3.size)
  have J4 : Below w2.heap.size w2 w4 := J3.trans (k4.mono J3.size)
  have HK4 : Hid (Below w.heap.size w w4 ∧ gl < w4.heap.size ∧ ∀ j u, (icl' lt)[j]? = some u → w4.cell? ⟨gl, j, none⟩ = some u) := ⟨K4, Nat.lt_of_lt_of_le g2 J4.size, fun j u hu => (J4.cell (p := ⟨gl, j, none⟩) g2).trans (l2 j u hu)⟩
  have E1 := D1.below k4
  have E2 := D2.below k4
  have E3 := D3.below k4
  have x0 : w4.cell? ⟨w1.heap.size, 0, none⟩ = some (.int .i64 0) := E1.cell 0
  have x1 : w4.cell? ⟨w1.heap.size, 1, none⟩ = some (.int .i64 0) := E1.cell 1
  have x2 : w4.cell? ⟨w2.heap.size, 0, none⟩ = some (.int .i64 0) := E2.cell 0
  have x3 : w4.cell? ⟨w2.heap.size, 1, none⟩ = some (.int .i64 0) := E2.cell 1
  have x4 : w4.cell? ⟨w3.heap.size, 0, none⟩ = some (.int .i64 0) := E3.cell 0
  have x5 : w4.cell? ⟨w3.heap.size, 1, none⟩ = some (.int .i64 0) := E3.cell 1
  clear D1 D2 D3 E1 E2 E3 K3 k4 J3 J4 K4 g2 l2
  go_wp2_with fail
  refine (HWp.out _).mono ?_
  rintro e w5 ⟨ba, bc, rfl, q5⟩
  have HL0 : Hid (∃ ga, (0 < K → ba = some ⟨ga, 0, none⟩) ∧ Lw w4.heap.size gl ga w4.heap.size lt (lwt a b 0) A 1 w4 w5) := by
    obtain ⟨b1, b2, b3⟩ := HK4.out
    have R0 : (w4.alloc (.cells #[.int .i64 0, .int .i64 0, .bool true] 30)).ownsRow w4.heap.size 30 3 (.slice (some ⟨w4.heap.size, 0, none⟩) 1 1) 1 (icl' (lwt a b 0)) :=
      ⟨rfl, .inr ⟨w4.heap.size, 1, #[.int .i64 0, .int .i64 0, .bool true], rfl, Nat.le_refl _, Cl.new [.int .i64 0, .int .i64 0, .bool true] 30 w4, by simp, by unfold maxLen; omega, rfl, rfl⟩⟩
    have J5 : Below w4.heap.size w4 w5 := (tala w4 _).trans (q5.k.mono (by simp))
    by_cases h0 : 0 < K
    · have hr := q5.row
      rw [HAll.out.2.1] at hr
      obtain ⟨ga, e1, e2, e3, e4⟩ := trow_at hr h0
      refine ⟨ga, fun _ => e1, ⟨fun j u hu => (J5.cell (p := ⟨gl, j, none⟩) b2).trans (b3 j u hu), b2, trow_bel R0 q5.k, fun _ => ⟨e2, by simp at e3; omega, e4⟩, rfl, J5⟩⟩
    · refine ⟨0, fun h => absurd h h0, ⟨fun j u hu => (J5.cell (p := ⟨gl, j, none⟩) b2).trans (b3 j u hu), b2, trow_bel R0 q5.k, fun h => absurd (HAll.out.2.1 ▸ h) h0, rfl, J5⟩⟩
  clear q5 HWp x0 x1 x2 x3 x4 x5
  obtain ⟨ga, hL0⟩ := HL0.out
  have Hba : Hid (0 < K → ba = some ⟨ga, 0, none⟩) := hL0.1
  have HLw : Hid (Lw w4.heap.size gl ga w4.heap.size lt (lwt a b 0) A 1 w4 w5) := hL0.2
  clear HL0 hL0
  go_wp2
  go_loopw [9, 11] (fun wv iv wx => ∃ (i gw wc : Nat), i ≤ K ∧ wv = .slice (some ⟨gw, 0, none⟩) (lwt a b i).length wc ∧ iv = .int .i64 i ∧ Hid (Lw w4.heap.size gl ga gw lt (lwt a b i) A wc w4 wx)) (fun _ iv _ => K - (intOf iv).toNat)
  case atStart => exact ⟨0, w4.heap.size, 1, by omega, rfl, rfl, HLw.out⟩
  case round =>
    obtain ⟨i, gw, wc, hi, rfl, rfl, HL⟩ := hrel
    clear HLw
    obtain ⟨lw, hlw⟩ : ∃ lw, lwt a b i = lw := ⟨_, rfl⟩
    have hlb : lw.length ≤ 6803 := by rw [← hlw]; exact lwt_len a b i
    have HLW : Hid (lwt a b i = lw) := hlw
    rw [hlw] at HL ⊢
    clear hlw
    by_cases hik : i < K
    · have e := Hba.out (by omega)
      subst e
      obtain ⟨q, hq⟩ : ∃ q, A[i]? = some q := ⟨A[i]'(by rw [HAll.out.2.1]; exact hik), List.getElem?_eq_getElem _⟩
      obtain ⟨a1, a2, a3⟩ := HL.out.a (by rw [HAll.out.2.1]; omega)
      obtain ⟨q0, q1, q2⟩ := qcl_get A i q hq
      have c0 : wr.cell? ⟨ga, i * 3, none⟩ = some (.int .i64 q.1) := a3 _ _ q0
      have c1 : wr.cell? ⟨ga, i * 3 + 1, none⟩ = some (.int .i64 q.2) := a3 _ _ q1
      have c2 : wr.cell? ⟨ga, i * 3 + 2, none⟩ = some (.bool false) := a3 _ _ q2
      have HF : Hid (∀ w, Calls Try.prog 10 #[.int .i64 a, .agg #[.int .i64 q.1, .int .i64 q.2, .bool false]] w fun e w' => e = .returned (.int .i64 (fov (ordR a b q.1 q.2))) ∧ Below w.heap.size w w') := fun w => HFo.out i q w hq
      have HQ : Hid ((qcl A)[i * 3]? = some (.int .i64 q.1) ∧ (qcl A)[i * 3 + 1]? = some (.int .i64 q.2) ∧ (qcl A)[i * 3 + 2]? = some (.bool false)) := ⟨q0, q1, q2⟩
      have HNx : Hid (lwt a b (i + 1) = lw ++ itm a b q ∧ (itm a b q = match ordR a b q.1 q.2 with | some n => [(q.1, q.2, false, n)] | none => []) ∧ ∀ n, ordR a b q.1 q.2 = some n → 2 ≤ n ∧ n ≤ 12) := ⟨by rw [(HOr.out i q hq).1, HLW.out], rfl, (HOr.out i q hq).2⟩
      obtain ⟨qx, qy⟩ := q
      simp only at c0 c1 c2 HF HQ HNx
      obtain ⟨R, hR⟩ : ∃ R, ordR a b qx qy = R := ⟨_, rfl⟩
      rw [hR] at HF HNx
      clear hq a1 a2 a3 q0 q1 q2 hR
      go_wp2_with fail
      refine (HF.out _).mono ?_
      rintro e w6 ⟨rfl, k6⟩
      have L6 := HL.out.below k6
      obtain ⟨a1, a2, a3⟩ := L6.a (by rw [HAll.out.2.1]; omega)
      have d0 : w6.cell? ⟨ga, i * 3, none⟩ = some (.int .i64 qx) := a3 _ _ HQ.out.1
      have d1 : w6.cell? ⟨ga, i * 3 + 1, none⟩ = some (.int .i64 qy) := a3 _ _ HQ.out.2.1
      have d2 : w6.cell? ⟨ga, i * 3 + 2, none⟩ = some (.bool false) := a3 _ _ HQ.out.2.2
      have HL6 : Hid (Lw w4.heap.size gl ga gw lt lw A wc w4 w6) := L6
      clear L6 a1 a2 a3 k6 HL c0 c1 c2 HF
      cases R with
      | none =>
        have HI : Hid (lwt a b (i + 1) = lw) := by
          have := HNx.out
          show _ = _
          rw [this.1, this.2.1, List.append_nil]
        unfold fov
        clear HNx
        go_wp2
        refine ⟨⟨i + 1, gw, wc, by omega, by rw [HI.out], by go_num, ?_⟩, by simp [intOf]; omega⟩
        rw [HI.out]
        exact HL6.out
      | some n =>
        have HI : Hid (lwt a b (i + 1) = lw ++ [(qx, qy, false, n)]) := by
          have := HNx.out
          show _ = _
          rw [this.1, this.2.1]
        have hn := HNx.out.2.2 n rfl
        unfold fov
        clear HNx
        go_wp2_with (at_builtin; refine wpList_append_own_at _ rfl _ _ 25 rfl w4.heap.size 30 k0 (.agg #[.int .i64 0, .int .i64 0, .bool false]) 3 24 Try.underlying25 HPt.out.1 HPt.out.2.1 HPt.out.2.2.1 HPt.out.2.2.2 rfl (by decide) (.slice (some ⟨gw, 0, none⟩) lw.length wc) lw.length (icl' lw) rfl (HL6.out.w.alloc _) ⟨w6.heap.size, 0, none⟩ 1 1 [.int .i64 qx, .int .i64 qy, .bool false] rfl rfl (tnewsP (Cl.new [.int .i64 qx, .int .i64 qy, .bool false] 30 w6)) (by simp [Value.oneCell']) (by simp only [maxLen]; omega) (by omega) (by have := HL6.out.k.size; have := HL6.out.zz; simp <;> omega) ?_; intro v' w7 hown' hgrow _ hob; obtain ⟨g7, c7, rfl⟩ := ownsRow_succ hown'; have HN7 : Hid (Lw w4.heap.size gl ga g7 lt (lw ++ [(qx, qy, false, n)]) A c7 w4 w7) := lw_grow HL6.out hown' hgrow hob; clear hown' hgrow hob)
        refine ⟨⟨i + 1, g7, c7, by omega, by rw [HI.out, List.length_append]; rfl, by go_num, ?_⟩, by simp [intOf]; omega⟩
        rw [HI.out]
        exact HN7.out
    · obtain rfl : i = K := by omega
      have e : lw = lt := HLW.out.symm.trans HAll.out.1
      subst e
      have hNN : lw.length = N := HAll.out.2.2
      have HT0 : Hid (Tw gl gw lw w wr) := by
        have h1 := HL.out
        obtain ⟨g', e1, e2, _, e4⟩ := trow_at h1.w (by omega)
        injection e1 with e1
        injection e1 with e1 _ _
        subst e1
        have hz : w4.heap.size ≤ wr.heap.size := h1.k.size
        exact ⟨h1.l, e4, ⟨Nat.lt_of_lt_of_le h1.lz hz, e2⟩, HK4.out.1.trans (h1.k.mono HK4.out.1.size)⟩
      clear HL HLW hi hik
      rw [hNN]
      go_wp2
      go_loopw [12] (fun iv wx => ∃ j : Nat, j ≤ N ∧ iv = .int .i64 j ∧ Hid (Tw gl gw lw w wx)) (fun iv _ => N - (intOf iv).toNat)
      case atStart => exact ⟨0, by omega, rfl, HT0.out⟩
      case round =>
        obtain ⟨j, hj, rfl, HT⟩ := hrel
        clear HT0
        by_cases hjn : j < N
        · obtain ⟨q, hq⟩ : ∃ q, lw[j]? = some q := ⟨lw[j]'(by omega), List.getElem?_eq_getElem _⟩
          obtain ⟨q0, q1, q2⟩ := icl'_get lw j q hq
          have c0 := HT.out.l _ _ q0
          have c1 := HT.out.l _ _ q1
          have c2 := HT.out.l _ _ q2
          have d0 := HT.out.g _ _ q0
          have d1 := HT.out.g _ _ q1
          have d2 := HT.out.g _ _ q2
          obtain ⟨qx, qy, qf, qn⟩ := q
          simp only at c0 c1 c2 d0 d1 d2
          clear hq q0 q1 q2
          go_wp2
          go_quiet (fail)
          go_wp2
          exact ⟨⟨j + 1, by omega, by go_num, HT.out.below (below_drewN' (Below.refl _ _))⟩, by simp [intOf]; omega⟩
        · obtain rfl : j = N := by omega
          have HK : Hid (Below w.heap.size w wr) := HT.out.k
          clear HT
          go_wp2
          go_ret
          exact ⟨rfl, HK.out⟩

theorem torsion_points (a b : Int) (w : World) :
    Calls Try.prog 3 #[.int .i64 a, .int .i64 b] w fun e w' => e = .returned (.bool true) ∧ Below w.heap.size w w' := by
  by_cases h : (tf a b).1 = 0
  · exact tp_good a b w (tf_zero h)
  · exact tp_bad a b w h

end Go.Proofs.Ytknnidbdgfimbaa
