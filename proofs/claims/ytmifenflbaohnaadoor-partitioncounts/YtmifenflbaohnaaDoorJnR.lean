import Derived.Test.YtmifenflbaohnaaDoorJnB
import Derived.Test.YtmifenflbaohnaaDoorTxA
import Derived.Test.YtmifenflbaohnaaDoorJnQ
import Derived.Test.YtmifenflbaohnaaDoorRegionM
import Derived.Deep.LoopGhost
section
/- The reference: PartitionsMany. Written by mkpt.py. -/
set_option linter.unusedSimpArgs false
set_option linter.unusedVariables false
set_option maxRecDepth 100000
namespace Go.Proofs.YtmifenflbaohnaaDoor
open Go.RowKit

theorem Tryd.infoPt : (Tryd.prog.info? 31).map (fun i => (i.zero, i.size, i.bytes)) = some (some (.pointer none), 1, 8) := by kernel_rfl
theorem cl_of_makeP {w w' : World} {n : Nat} (h : w'.ownsRow w.heap.size 31 1 (.slice (some ⟨w.heap.size, 0, none⟩) n n) n (madeCells #[Value.pointer none] n).toList) : Cl w.heap.size (List.replicate n (.pointer none)) 31 w' := by
  obtain ⟨h1, h2 | ⟨g, cap, cur, e1, e2, e3, e4, e5, e6, e7⟩⟩ := h
  · obtain ⟨h2, rfl⟩ := h2
    simp at h2
  · simp at e1
    obtain ⟨rfl, rfl⟩ := e1
    unfold Cl
    rw [e3]
    have : cur.toList = (madeCells #[Value.pointer none] n).toList := by
      rw [← e7, List.take_of_length_le (by simp; omega)]
    have e8 : cur = madeCells #[Value.pointer none] n := Array.toList_inj.1 this
    rw [e8]
    congr 2
    apply Array.ext
    · simp [madeCells]
    · intro i h1 h2
      simp [madeCells, Nat.mod_one]
def vcells (m : Nat) (c : Nat → Value) : List Value := (List.range m).map c
theorem vcells_len (m : Nat) (c : Nat → Value) : (vcells m c).length = m := by simp [vcells]
theorem vcells_at {m i : Nat} (c : Nat → Value) (h : i < m) : (vcells m c)[i]? = some (c i) := by simp [vcells, h]
theorem vcells_rep (m : Nat) (v : Value) : List.replicate m v = vcells m (fun _ => v) := by
  apply List.ext_getElem?
  intro i
  by_cases h : i < m
  · rw [vcells_at _ h, List.getElem?_replicate, if_pos h]
  · rw [List.getElem?_eq_none (by simp; omega), List.getElem?_eq_none (by rw [vcells_len]; omega)]
theorem vcells_set {m j : Nat} (c : Nat → Value) (v : Value) (h : j < m) : (vcells m c).set j v = vcells m (fun i => if i = j then v else c i) := by
  apply List.ext_getElem?
  intro i
  rw [List.getElem?_set]
  by_cases hj : j = i
  · subst hj
    rw [if_pos rfl, vcells_at _ h, vcells_len, if_pos h, if_pos rfl]
  · rw [if_neg hj]
    by_cases hi : i < m
    · rw [vcells_at _ hi, vcells_at _ hi, if_neg (fun e => hj e.symm)]
    · rw [List.getElem?_eq_none (by rw [vcells_len]; omega), List.getElem?_eq_none (by rw [vcells_len]; omega)]
/-- A number stays where a row of pointers is written. -/
theorem BigAt.setQ {W : World} {g b j : Nat} {C : List Value} {x : Int} (hC : Cl g C 31 W) (h : BigAt W b x) (v : Value) : BigAt (W.setCell ⟨g, j, none⟩ v) b x := by
  obtain ⟨s, h1, l, h2, h3⟩ := h
  have hg : W.heap[g]? = some (.cells C.toArray 31 (0, 0)) := hC
  refine ⟨s, ?_, l, ⟨h2.small, ?_⟩, h3⟩
  · rw [Below.heap_setCell _ _ _ _ (by show b ≠ g; intro e; subst e; rw [h1] at hg; simp at hg)]; exact h1
  · rcases h2.shape with h4 | ⟨g', cap, C', h4, h5, h6, h7⟩
    · exact .inl h4
    · refine .inr ⟨g', cap, C', h4, h5, ?_, h7⟩
      rw [Below.heap_setCell _ _ _ _ (by show g' ≠ g; intro e; subst e; rw [h6] at hg; simp at hg)]; exact h6

/-- The row of pointers, the first d of them to the numbers f. -/
structure Pp (w W : World) (g n d : Nat) (c : Nat → Value) (f : Nat → Nat) : Prop where
  row : Cl g (vcells (n + 1) c) 31 W
  num : ∀ j, j < d → ∃ b, c j = .pointer (some ⟨b, 0, none⟩) ∧ BigAt W b (f j : Nat)
  g0 : w.heap.size ≤ g
  k : Below w.heap.size w W
theorem Pp.below {w W W' : World} {g n d : Nat} {c : Nat → Value} {f : Nat → Nat} (h : Pp w W g n d c f) (k : Below W.heap.size W W') : Pp w W' g n d c f :=
  ⟨h.row.below k, fun j hj => by obtain ⟨b, h1, h2⟩ := h.num j hj; exact ⟨b, h1, h2.below k (Nat.le_refl _)⟩, h.g0, h.k.trans (k.mono h.k.size)⟩
/-- A new number is made and its place is written into the row. -/
theorem Pp.set {w W : World} {g n d j b x : Nat} {c : Nat → Value} {f : Nat → Nat} (h : Pp w W g n d c f) (hj : j ≤ n) (hb : BigAt W b (x : Nat)) : Pp w (W.setCell ⟨g, j, none⟩ (.pointer (some ⟨b, 0, none⟩))) g n d (fun i => if i = j then .pointer (some ⟨b, 0, none⟩) else c i) (fun i => if i = j then x else f i) := by
  refine ⟨?_, fun i hi => ?_, h.g0, h.k.setCell h.g0 _⟩
  · rw [← vcells_set _ _ (by omega)]; exact h.row.set j _
  · by_cases e : i = j
    · subst e
      exact ⟨b, if_pos rfl, by rw [if_pos rfl]; exact hb.setQ h.row _⟩
    · obtain ⟨b', h1, h2⟩ := h.num i hi
      exact ⟨b', by rw [if_neg e]; exact h1, by rw [if_neg e]; exact h2.setQ h.row _⟩
theorem Pp.more {w W : World} {g n d : Nat} {c : Nat → Value} {f : Nat → Nat} (h : Pp w W g n d c f) (hd : ∃ b, c d = .pointer (some ⟨b, 0, none⟩) ∧ BigAt W b (f d : Nat)) : Pp w W g n (d + 1) c f :=
  ⟨h.row, fun j hj => by
    by_cases e : j = d
    · subst e; exact hd
    · exact h.num j (by omega), h.g0, h.k⟩
theorem Pp.congr {w W : World} {g n d : Nat} {c : Nat → Value} {f f' : Nat → Nat} (h : Pp w W g n d c f) (e : ∀ j, j < d → f j = f' j) : Pp w W g n d c f' :=
  ⟨h.row, fun j hj => by rw [← e j hj]; exact h.num j hj, h.g0, h.k⟩
theorem two_pw : (2 : Nat) ^ 2000 < pw 64 := by decide +kernel
theorem ptr_pw {k m j : Nat} (h : j ≤ 2000) : PT.ptr k m j < pw 64 := Nat.lt_of_le_of_lt (PT.ptr_le k m j) (Nat.lt_of_le_of_lt (Nat.pow_le_pow_right (by decide) h) two_pw)

set_option maxRecDepth 100000 in
set_option maxHeartbeats 4000000 in
theorem refPartitionsMany_any (nM : Nat) (w : World) (hn : nM ≤ 2000) :
    Calls Tryd.prog 10 #[.int .i64 (nM : Int)] w fun e w' => ∃ (g : Nat) (c : Nat → Value), e = .returned (.slice (some ⟨g, 0, none⟩) (nM + 1) (nM + 1)) ∧ Pp w w' g nM (nM + 1) c (PT.pt nM) := by
  obtain ⟨i0, hi, hz0, hz1, hz2⟩ := info_parts Tryd.infoPt
  have HI : Hid (Tryd.prog.info? 31 = some i0 ∧ i0.zero = some (.pointer none) ∧ i0.size = 1 ∧ i0.bytes = 8) := ⟨hi, hz0, hz1, hz2⟩
  clear hi hz0 hz1 hz2
  go_enter Tryd.func10, Tryd.ntmps10
  go_wp2_with (at_make; refine wpList_make_full _ rfl _ _ 32 rfl w.heap.size 31 i0 (.pointer none) 1 Tryd.underlying32 HI.out.1 HI.out.2.1 HI.out.2.2.1 .i64 .i64 _ _ (nM + 1) rfl rfl (by omega) (by omega) (by rw [HI.out.2.2.2]; omega) (by unfold maxLen; omega) (Nat.le_refl _) ?_)
  intro w2 hown hgrow
  have HS2 : Hid (Pp w w2 w.heap.size nM 0 (fun _ => .pointer none) (fun _ => 0)) := ⟨by rw [← vcells_rep]; exact cl_of_makeP hown, fun j hj => by omega, Nat.le_refl _, (Below.refl _ _).grown hgrow (Nat.le_refl _) (by simp)⟩
  clear hown hgrow HI
  obtain ⟨g, hg⟩ : ∃ g, g = w.heap.size := ⟨_, rfl⟩
  rw [← hg] at HS2
  rw [← hg]
  clear hg
  go_wp2
  go_loopg [12] (nM + 1) (fun gk iv wx => ∃ (i : Nat) (c : Nat → Value), iv = .int .i64 (i : Int) ∧ Hid (gk = nM + 1 - i ∧ i ≤ nM + 1 ∧ Pp w wx g nM i c (fun _ => 0)))
  case atStart => exact ⟨0, _, rfl, by omega, by omega, HS2.out⟩
  case round =>
    clear HS2
    obtain ⟨i, c, rfl, HR⟩ := hrel
    obtain ⟨h1, h2, h3⟩ := HR.out
    have HK : Hid (gk = nM + 1 - i) := h1
    have HP : Hid (Pp w wr g nM i c (fun _ => 0)) := h3
    clear HR h1 h3
    by_cases hi : i ≤ nM
    · have ti : decide ((i : Int) < ((nM + 1 : Nat) : Int)) = true := decide_eq_true (by omega)
      go_wp2_with fail
      refine (B_any 0 wr (by omega) (by omega)).mono ?_
      rintro e w3 ⟨b, rfl, m⟩
      have HP3 : Hid (Pp w w3 g nM i c (fun _ => 0) ∧ BigAt w3 b (0 : Nat)) := ⟨HP.out.below m.2.2, m.2.1⟩
      have c0 : w3.cell? ⟨g, i, none⟩ = some (c i) := by rw [HP3.out.1.row.cell]; exact vcells_at _ (by omega)
      have f0 : w3.frozen? ⟨g, i, none⟩ = false := HP3.out.1.row.frozen i
      have HP4 : Hid (Pp w (w3.setCell ⟨g, i, none⟩ (.pointer (some ⟨b, 0, none⟩))) g nM (i + 1) (fun j => if j = i then .pointer (some ⟨b, 0, none⟩) else c j) (fun _ => 0)) := by
        have h := HP3.out.1.set (j := i) (by omega) HP3.out.2
        refine (Pp.more h ⟨b, if_pos rfl, ?_⟩).congr (fun j hj => by simp)
        rw [if_pos rfl]
        exact HP3.out.2.setQ HP3.out.1.row _
      clear m HP
      go_wp2
      go_roundg (nM + 1 - (i + 1))
      case rel => exact ⟨i + 1, _, by go_num, rfl, by omega, HP4.out⟩
      case measure => have := HK.out; omega
    · have ti : decide ((i : Int) < ((nM + 1 : Nat) : Int)) = false := decide_eq_false (by omega)
      obtain rfl : i = nM + 1 := by omega
      go_wp2_with fail
      refine (B_any 1 wr (by omega) (by omega)).mono ?_
      rintro e w3 ⟨b, rfl, m⟩
      have HP3 : Hid (Pp w w3 g nM (nM + 1) c (fun _ => 0) ∧ BigAt w3 b (1 : Nat)) := ⟨HP.out.below m.2.2, m.2.1⟩
      have c0 : w3.cell? ⟨g, 0, none⟩ = some (c 0) := by rw [HP3.out.1.row.cell]; exact vcells_at _ (by omega)
      have f0 : w3.frozen? ⟨g, 0, none⟩ = false := HP3.out.1.row.frozen 0
      have HP4 : Hid (Pp w (w3.setCell ⟨g, 0, none⟩ (.pointer (some ⟨b, 0, none⟩))) g nM (nM + 1) (fun j => if j = 0 then .pointer (some ⟨b, 0, none⟩) else c j) (PT.pt 0)) := (HP3.out.1.set (j := 0) (by omega) HP3.out.2).congr (fun j hj => by rw [PT.pt_null])
      clear m HP
      go_wp2
      clear c0 f0
      go_loopg [5] nM (fun gk kv wx => ∃ (k : Nat) (c : Nat → Value), kv = .int .i64 ((k + 1 : Nat) : Int) ∧ Hid (gk = nM - k ∧ k ≤ nM ∧ Pp w wx g nM (nM + 1) c (PT.pt k)))
      case atStart => exact ⟨0, _, rfl, rfl, by omega, HP4.out⟩
      case round =>
        clear HP4
        obtain ⟨k, c, rfl, HR⟩ := hrel
        obtain ⟨h1, h2, h3⟩ := HR.out
        have HKk : Hid (gk = nM - k) := h1
        have HP : Hid (Pp w wr g nM (nM + 1) c (PT.pt k)) := h3
        obtain ⟨K, hK⟩ : ∃ K, K = k + 1 := ⟨_, rfl⟩
        have HKe : Hid (K = k + 1) := hK
        have hK1 : 1 ≤ K := by omega
        have hK2 : K ≤ 2001 := by omega
        rw [← hK]
        by_cases hk : K ≤ nM
        · have tk : decide ((K : Int) ≤ (nM : Int)) = true := decide_eq_true (by omega)
          clear HR h1 h3 hK
          go_wp2
          go_loopg [6] (nM + 1 - K) (fun gj mv wx => ∃ (m : Nat) (c : Nat → Value), mv = .int .i64 (m : Int) ∧ Hid (gj = nM + 1 - m ∧ K ≤ m ∧ m ≤ nM + 1 ∧ Pp w wx g nM (nM + 1) c (PT.ptr k m)))
          case atStart => exact ⟨K, _, rfl, rfl, by omega, by omega, HP.out.congr (fun j _ => by rw [HKe.out, PT.ptr_start])⟩
          case round =>
            clear HP
            obtain ⟨m, c, rfl, HR⟩ := hrel
            obtain ⟨h1, h2', h3, h4⟩ := HR.out
            have HKm : Hid (gk = nM + 1 - m) := h1
            have HP : Hid (Pp w wr g nM (nM + 1) c (PT.ptr k m)) := h4
            clear HR h1 h4
            by_cases hm : m ≤ nM
            · have tm : decide ((m : Int) ≤ (nM : Int)) = true := decide_eq_true (by omega)
              obtain ⟨bp, ep, hp⟩ := HP.out.num m (by omega)
              obtain ⟨bq, eq, hq⟩ := HP.out.num (m - K) (by omega)
              have c0 : wr.cell? ⟨g, m, none⟩ = some (.pointer (some ⟨bp, 0, none⟩)) := by rw [HP.out.row.cell, vcells_at _ (by omega), ep]
              have c1 : wr.cell? ⟨g, m - K, none⟩ = some (.pointer (some ⟨bq, 0, none⟩)) := by rw [HP.out.row.cell, vcells_at _ (by omega), eq]
              obtain ⟨d, hd⟩ : ∃ d, d = m - K := ⟨_, rfl⟩
              have hmk : (m : Int) - (K : Int) = (d : Int) := by omega
              have hwd : IntKind.i64.wrap (d : Int) = (d : Int) := by rw [IntKind.wrap_i64]; omega
              have HBp : Hid (BigAt wr bp ((PT.ptr k m m : Nat) : Int)) := hp
              have HBq : Hid (BigAt wr bq ((PT.ptr k m (m - K) : Nat) : Int)) := hq
              rw [← hd] at c1
              have hd1 : (d : Int) < (nM : Int) + 1 := by omega
              have hm1 : (m : Int) < (nM : Int) + 1 := by omega
              have HD : Hid (d = m - K) := hd
              clear hd ep eq hp hq
              go_wp2_with fail
              obtain ⟨x, hx⟩ : ∃ x, x = PT.ptr k m m := ⟨_, rfl⟩
              obtain ⟨y, hy⟩ : ∃ y, y = PT.ptr k m (m - K) := ⟨_, rfl⟩
              have HF : Hid (∀ j, (if j = m then x + y else PT.ptr k m j) = PT.ptr k (m + 1) j) := fun j => by
                rw [PT.ptr_step (by have := HKe.out; omega), hx, hy, HKe.out]
              have HXY : Hid (BigAt wr bp (x : Nat) ∧ BigAt wr bq (y : Nat) ∧ ((x : Nat) : Int).natAbs < pw 64 ∧ ((y : Nat) : Int).natAbs < pw 64) := by
                have b1 : x < pw 64 := by rw [hx]; exact ptr_pw (by omega)
                have b2 : y < pw 64 := by rw [hy]; exact ptr_pw (by omega)
                refine ⟨by rw [hx]; exact HBp.out, by rw [hy]; exact HBq.out, ?_, ?_⟩
                · rw [Int.natAbs_natCast]; exact b1
                · rw [Int.natAbs_natCast]; exact b2
              have HS : Hid (∀ W', Below wr.heap.size wr W' → W'.cell? ⟨g, m, none⟩ = some (.pointer (some ⟨bp, 0, none⟩)) ∧ W'.cell? ⟨g, d, none⟩ = some (.pointer (some ⟨bq, 0, none⟩))) := fun W' kb => ⟨((HP.out.row.below kb).cell m).trans ((HP.out.row.cell m).symm.trans c0), ((HP.out.row.below kb).cell d).trans ((HP.out.row.cell d).symm.trans c1)⟩
              clear hx hy HBp HBq
              refine wp_region_G (fun W' => W'.cell? ⟨g, m, none⟩ = some (.pointer (some ⟨bp, 0, none⟩)) ∧ W'.cell? ⟨g, d, none⟩ = some (.pointer (some ⟨bq, 0, none⟩))) 15 (by kernel_rfl) (HS.out _ (Below.refl _ _).drew) (fun hHeld => ?_)
              clear c0 c1
              refine wpAnyG_take (i := 0) (v := ?v0x1) rfl (by kernel_rfl) (fun _ _ _ h => h) (Or.inl ⟨by rfl, ?y0x1⟩) hHeld ?r0x1
              case y0x1 => (intro wS hSw; obtain ⟨s1, s2⟩ := hSw; go_simp; try with_reducible rfl)
              simp only [Act.put, List.getElem_toArray, List.getElem_cons_zero, List.getElem_cons_succ, List.setIfInBounds_toArray, List.set_cons_zero, List.set_cons_succ]
              refine wpAnyG_take (i := 1) (v := ?v1x2) rfl (by kernel_rfl) (fun _ _ _ h => h) (Or.inl ⟨by rfl, ?y1x2⟩) hHeld ?r1x2
              case y1x2 => (intro wS hSw; obtain ⟨s1, s2⟩ := hSw; go_simp; try with_reducible rfl)
              simp only [Act.put, List.getElem_toArray, List.getElem_cons_zero, List.getElem_cons_succ, List.setIfInBounds_toArray, List.set_cons_zero, List.set_cons_succ]
              refine wpAnyG_take (i := 3) (v := ?v3x3) rfl (by kernel_rfl) (fun _ _ _ h => h) (Or.inl ⟨by rfl, ?y3x3⟩) hHeld ?r3x3
              case y3x3 => (intro wS hSw; obtain ⟨s1, s2⟩ := hSw; go_simp; try with_reducible rfl)
              simp only [Act.put, List.getElem_toArray, List.getElem_cons_zero, List.getElem_cons_succ, List.setIfInBounds_toArray, List.set_cons_zero, List.set_cons_succ]
              refine wpAnyG_take (i := 4) (v := ?v4x4) rfl (by kernel_rfl) (fun _ _ _ h => h) (Or.inl ⟨by rfl, ?y4x4⟩) hHeld ?r4x4
              case y4x4 => (intro wS hSw; obtain ⟨s1, s2⟩ := hSw; go_simp; try with_reducible rfl)
              simp only [Act.put, List.getElem_toArray, List.getElem_cons_zero, List.getElem_cons_succ, List.setIfInBounds_toArray, List.set_cons_zero, List.set_cons_succ]
              refine wpAnyG_take (i := 5) (v := ?v5x5) rfl (by kernel_rfl) (fun _ _ _ h => h) (Or.inl ⟨by rfl, ?y5x5⟩) hHeld ?r5x5
              case y5x5 => (intro wS hSw; obtain ⟨s1, s2⟩ := hSw; go_simp; try with_reducible rfl)
              simp only [Act.put, List.getElem_toArray, List.getElem_cons_zero, List.getElem_cons_succ, List.setIfInBounds_toArray, List.set_cons_zero, List.set_cons_succ]
              refine wpAnyG_take (i := 6) (v := ?v6x6) rfl (by kernel_rfl) (fun _ _ _ h => h) (Or.inl ⟨by rfl, ?y6x6⟩) hHeld ?r6x6
              case y6x6 => (intro wS hSw; obtain ⟨s1, s2⟩ := hSw; go_simp; try with_reducible rfl)
              simp only [Act.put, List.getElem_toArray, List.getElem_cons_zero, List.getElem_cons_succ, List.setIfInBounds_toArray, List.set_cons_zero, List.set_cons_succ]
              refine wpAnyG_take (i := 7) (v := ?v7x7) rfl (by kernel_rfl) (fun _ _ _ h => h) (Or.inl ⟨by rfl, ?y7x7⟩) hHeld ?r7x7
              case y7x7 => (intro wS hSw; obtain ⟨s1, s2⟩ := hSw; go_simp; try with_reducible rfl)
              simp only [Act.put, List.getElem_toArray, List.getElem_cons_zero, List.getElem_cons_succ, List.setIfInBounds_toArray, List.set_cons_zero, List.set_cons_succ]
              refine wpAnyG_take (i := 8) (v := ?v8x8) rfl (by kernel_rfl) (fun _ _ _ h => h) (Or.inl ⟨by rfl, ?y8x8⟩) hHeld ?r8x8
              case y8x8 => (intro wS hSw; obtain ⟨s1, s2⟩ := hSw; go_simp; try with_reducible rfl)
              simp only [Act.put, List.getElem_toArray, List.getElem_cons_zero, List.getElem_cons_succ, List.setIfInBounds_toArray, List.set_cons_zero, List.set_cons_succ]
              refine wpAnyG_take (i := 9) (v := ?v9x9) rfl (by kernel_rfl) (fun _ _ _ h => h) (Or.inl ⟨by rfl, ?y9x9⟩) hHeld ?r9x9
              case y9x9 => (intro wS hSw; obtain ⟨s1, s2⟩ := hSw; go_simp; try with_reducible rfl)
              simp only [Act.put, List.getElem_toArray, List.getElem_cons_zero, List.getElem_cons_succ, List.setIfInBounds_toArray, List.set_cons_zero, List.set_cons_succ]
              refine wpAnyG_take (i := 10) (v := ?v10x10) rfl (by kernel_rfl) (fun _ _ _ h => h) (Or.inl ⟨by rfl, ?y10x10⟩) hHeld ?r10x10
              case y10x10 => (intro wS hSw; obtain ⟨s1, s2⟩ := hSw; go_simp; try with_reducible rfl)
              simp only [Act.put, List.getElem_toArray, List.getElem_cons_zero, List.getElem_cons_succ, List.setIfInBounds_toArray, List.set_cons_zero, List.set_cons_succ]
              refine wpAnyG_take (i := 11) (v := ?v11x11) rfl (by kernel_rfl) (fun _ _ _ h => h) (Or.inl ⟨by rfl, ?y11x11⟩) hHeld ?r11x11
              case y11x11 => (intro wS hSw; obtain ⟨s1, s2⟩ := hSw; go_simp; try with_reducible rfl)
              simp only [Act.put, List.getElem_toArray, List.getElem_cons_zero, List.getElem_cons_succ, List.setIfInBounds_toArray, List.set_cons_zero, List.set_cons_succ]
              refine wpAnyG_take (i := 12) (v := ?v12x12) rfl (by kernel_rfl) (fun _ _ _ h => h) (Or.inl ⟨by rfl, ?y12x12⟩) hHeld ?r12x12
              case y12x12 => (intro wS hSw; obtain ⟨s1, s2⟩ := hSw; go_simp; try with_reducible rfl)
              simp only [Act.put, List.getElem_toArray, List.getElem_cons_zero, List.getElem_cons_succ, List.setIfInBounds_toArray, List.set_cons_zero, List.set_cons_succ]
              clear hHeld
              refine wpAnyG_inv (fun n l a w1 => (n = 4 ∧ l = #[true, true, false, true, true, true, true, true, true, true, true, true, true, false, false, false] ∧ a = { tmps := ((Value.int IntKind.i64 ↑nM) :: (undef) :: (Value.slice none 0 0) :: (Value.slice (some { block := g, off := 0 }) (nM + 1) (nM + 1)) :: (u4) :: (Value.int IntKind.i64 ↑K) :: (Value.int IntKind.i64 ↑m) :: (Value.int IntKind.i64 ↑nM) :: (Value.int IntKind.i64 (↑nM + 1)) :: (Value.slice (some { block := g, off := 0 }) (nM + 1) (nM + 1)) :: (Value.slice (some { block := g, off := 0 }) (nM + 1) (nM + 1)) :: (Value.int IntKind.i64 (↑nM + 1)) :: (Value.int IntKind.i64 (↑nM + 1)) :: (Value.bool false) :: (u14) :: (u15) :: (u16) :: (u17) :: (u18) :: (u19) :: (Value.slice (some { block := g, off := 0 }) (nM + 1) (nM + 1)) :: (Value.pointer (some { block := b, off := 0 })) :: (Value.pointer (some { block := g, off := 0 })) :: (Value.int IntKind.i64 ↑K) :: (Value.int IntKind.i64 ↑nM) :: (Value.bool true) :: (u26) :: (u27) :: (Value.int IntKind.i64 ↑K) :: (Value.int IntKind.i64 ↑m) :: (Value.int IntKind.i64 ↑nM) :: (Value.bool true) :: (u32) :: (u33) :: (.slice (some ⟨g, 0, none⟩) (nM + 1) (nM + 1)) :: (.int .i64 (m : Int)) :: (u36) :: (.slice (some ⟨g, 0, none⟩) (nM + 1) (nM + 1)) :: (.int .i64 (m : Int)) :: (.pointer (some ⟨g, m, none⟩)) :: (.pointer (some ⟨bp, 0, none⟩)) :: (.slice (some ⟨g, 0, none⟩) (nM + 1) (nM + 1)) :: (.int .i64 (m : Int)) :: (.int .i64 (K : Int)) :: (.int .i64 (d : Int)) :: (.pointer (some ⟨g, d, none⟩)) :: (.pointer (some ⟨bq, 0, none⟩)) :: (u47) :: (u48) :: (undef) :: []).toArray, defers := [] } ∧ Hid (Below wr.heap.size wr w1)) ∨ (∃ b0 : Nat, n = 3 ∧ l = #[true, true, true, true, true, true, true, true, true, true, true, true, true, false, false, false] ∧ a = { tmps := ((Value.int IntKind.i64 ↑nM) :: (undef) :: (Value.slice none 0 0) :: (Value.slice (some { block := g, off := 0 }) (nM + 1) (nM + 1)) :: (u4) :: (Value.int IntKind.i64 ↑K) :: (Value.int IntKind.i64 ↑m) :: (Value.int IntKind.i64 ↑nM) :: (Value.int IntKind.i64 (↑nM + 1)) :: (Value.slice (some { block := g, off := 0 }) (nM + 1) (nM + 1)) :: (Value.slice (some { block := g, off := 0 }) (nM + 1) (nM + 1)) :: (Value.int IntKind.i64 (↑nM + 1)) :: (Value.int IntKind.i64 (↑nM + 1)) :: (Value.bool false) :: (u14) :: (u15) :: (u16) :: (u17) :: (u18) :: (u19) :: (Value.slice (some { block := g, off := 0 }) (nM + 1) (nM + 1)) :: (Value.pointer (some { block := b, off := 0 })) :: (Value.pointer (some { block := g, off := 0 })) :: (Value.int IntKind.i64 ↑K) :: (Value.int IntKind.i64 ↑nM) :: (Value.bool true) :: (u26) :: (u27) :: (Value.int IntKind.i64 ↑K) :: (Value.int IntKind.i64 ↑m) :: (Value.int IntKind.i64 ↑nM) :: (Value.bool true) :: (u32) :: (u33) :: (.slice (some ⟨g, 0, none⟩) (nM + 1) (nM + 1)) :: (.int .i64 (m : Int)) :: (.pointer (some ⟨b0, 0, none⟩)) :: (.slice (some ⟨g, 0, none⟩) (nM + 1) (nM + 1)) :: (.int .i64 (m : Int)) :: (.pointer (some ⟨g, m, none⟩)) :: (.pointer (some ⟨bp, 0, none⟩)) :: (.slice (some ⟨g, 0, none⟩) (nM + 1) (nM + 1)) :: (.int .i64 (m : Int)) :: (.int .i64 (K : Int)) :: (.int .i64 (d : Int)) :: (.pointer (some ⟨g, d, none⟩)) :: (.pointer (some ⟨bq, 0, none⟩)) :: (u47) :: (u48) :: (undef) :: []).toArray, defers := [] } ∧ Hid (Below wr.heap.size wr w1 ∧ wr.heap.size ≤ b0 ∧ Slot w1 b0)) ∨ (∃ b0 : Nat, n = 2 ∧ l = #[true, true, true, true, true, true, true, true, true, true, true, true, true, true, false, false] ∧ a = { tmps := ((Value.int IntKind.i64 ↑nM) :: (undef) :: (Value.slice none 0 0) :: (Value.slice (some { block := g, off := 0 }) (nM + 1) (nM + 1)) :: (u4) :: (Value.int IntKind.i64 ↑K) :: (Value.int IntKind.i64 ↑m) :: (Value.int IntKind.i64 ↑nM) :: (Value.int IntKind.i64 (↑nM + 1)) :: (Value.slice (some { block := g, off := 0 }) (nM + 1) (nM + 1)) :: (Value.slice (some { block := g, off := 0 }) (nM + 1) (nM + 1)) :: (Value.int IntKind.i64 (↑nM + 1)) :: (Value.int IntKind.i64 (↑nM + 1)) :: (Value.bool false) :: (u14) :: (u15) :: (u16) :: (u17) :: (u18) :: (u19) :: (Value.slice (some { block := g, off := 0 }) (nM + 1) (nM + 1)) :: (Value.pointer (some { block := b, off := 0 })) :: (Value.pointer (some { block := g, off := 0 })) :: (Value.int IntKind.i64 ↑K) :: (Value.int IntKind.i64 ↑nM) :: (Value.bool true) :: (u26) :: (u27) :: (Value.int IntKind.i64 ↑K) :: (Value.int IntKind.i64 ↑m) :: (Value.int IntKind.i64 ↑nM) :: (Value.bool true) :: (u32) :: (u33) :: (.slice (some ⟨g, 0, none⟩) (nM + 1) (nM + 1)) :: (.int .i64 (m : Int)) :: (.pointer (some ⟨b0, 0, none⟩)) :: (.slice (some ⟨g, 0, none⟩) (nM + 1) (nM + 1)) :: (.int .i64 (m : Int)) :: (.pointer (some ⟨g, m, none⟩)) :: (.pointer (some ⟨bp, 0, none⟩)) :: (.slice (some ⟨g, 0, none⟩) (nM + 1) (nM + 1)) :: (.int .i64 (m : Int)) :: (.int .i64 (K : Int)) :: (.int .i64 (d : Int)) :: (.pointer (some ⟨g, d, none⟩)) :: (.pointer (some ⟨bq, 0, none⟩)) :: (.pointer (some ⟨b0, 0, none⟩)) :: (u48) :: (undef) :: []).toArray, defers := [] } ∧ Hid (Below wr.heap.size wr w1 ∧ wr.heap.size ≤ b0 ∧ BigAt w1 b0 ((x : Int) + (y : Int)))) ∨ (∃ b0 : Nat, n = 1 ∧ l = #[true, true, true, true, true, true, true, true, true, true, true, true, true, true, true, false] ∧ a = { tmps := ((Value.int IntKind.i64 ↑nM) :: (undef) :: (Value.slice none 0 0) :: (Value.slice (some { block := g, off := 0 }) (nM + 1) (nM + 1)) :: (u4) :: (Value.int IntKind.i64 ↑K) :: (Value.int IntKind.i64 ↑m) :: (Value.int IntKind.i64 ↑nM) :: (Value.int IntKind.i64 (↑nM + 1)) :: (Value.slice (some { block := g, off := 0 }) (nM + 1) (nM + 1)) :: (Value.slice (some { block := g, off := 0 }) (nM + 1) (nM + 1)) :: (Value.int IntKind.i64 (↑nM + 1)) :: (Value.int IntKind.i64 (↑nM + 1)) :: (Value.bool false) :: (u14) :: (u15) :: (u16) :: (u17) :: (u18) :: (u19) :: (Value.slice (some { block := g, off := 0 }) (nM + 1) (nM + 1)) :: (Value.pointer (some { block := b, off := 0 })) :: (Value.pointer (some { block := g, off := 0 })) :: (Value.int IntKind.i64 ↑K) :: (Value.int IntKind.i64 ↑nM) :: (Value.bool true) :: (u26) :: (u27) :: (Value.int IntKind.i64 ↑K) :: (Value.int IntKind.i64 ↑m) :: (Value.int IntKind.i64 ↑nM) :: (Value.bool true) :: (u32) :: (u33) :: (.slice (some ⟨g, 0, none⟩) (nM + 1) (nM + 1)) :: (.int .i64 (m : Int)) :: (.pointer (some ⟨b0, 0, none⟩)) :: (.slice (some ⟨g, 0, none⟩) (nM + 1) (nM + 1)) :: (.int .i64 (m : Int)) :: (.pointer (some ⟨g, m, none⟩)) :: (.pointer (some ⟨bp, 0, none⟩)) :: (.slice (some ⟨g, 0, none⟩) (nM + 1) (nM + 1)) :: (.int .i64 (m : Int)) :: (.int .i64 (K : Int)) :: (.int .i64 (d : Int)) :: (.pointer (some ⟨g, d, none⟩)) :: (.pointer (some ⟨bq, 0, none⟩)) :: (.pointer (some ⟨b0, 0, none⟩)) :: (.pointer (some ⟨g, m, none⟩)) :: (undef) :: []).toArray, defers := [] } ∧ Hid (Below wr.heap.size wr w1 ∧ wr.heap.size ≤ b0 ∧ BigAt w1 b0 ((x : Int) + (y : Int)))) ∨ (∃ b0 : Nat, n = 0 ∧ l = #[true, true, true, true, true, true, true, true, true, true, true, true, true, true, true, true] ∧ a = { tmps := ((Value.int IntKind.i64 ↑nM) :: (undef) :: (Value.slice none 0 0) :: (Value.slice (some { block := g, off := 0 }) (nM + 1) (nM + 1)) :: (u4) :: (Value.int IntKind.i64 ↑K) :: (Value.int IntKind.i64 ↑m) :: (Value.int IntKind.i64 ↑nM) :: (Value.int IntKind.i64 (↑nM + 1)) :: (Value.slice (some { block := g, off := 0 }) (nM + 1) (nM + 1)) :: (Value.slice (some { block := g, off := 0 }) (nM + 1) (nM + 1)) :: (Value.int IntKind.i64 (↑nM + 1)) :: (Value.int IntKind.i64 (↑nM + 1)) :: (Value.bool false) :: (u14) :: (u15) :: (u16) :: (u17) :: (u18) :: (u19) :: (Value.slice (some { block := g, off := 0 }) (nM + 1) (nM + 1)) :: (Value.pointer (some { block := b, off := 0 })) :: (Value.pointer (some { block := g, off := 0 })) :: (Value.int IntKind.i64 ↑K) :: (Value.int IntKind.i64 ↑nM) :: (Value.bool true) :: (u26) :: (u27) :: (Value.int IntKind.i64 ↑K) :: (Value.int IntKind.i64 ↑m) :: (Value.int IntKind.i64 ↑nM) :: (Value.bool true) :: (u32) :: (u33) :: (.slice (some ⟨g, 0, none⟩) (nM + 1) (nM + 1)) :: (.int .i64 (m : Int)) :: (.pointer (some ⟨b0, 0, none⟩)) :: (.slice (some ⟨g, 0, none⟩) (nM + 1) (nM + 1)) :: (.int .i64 (m : Int)) :: (.pointer (some ⟨g, m, none⟩)) :: (.pointer (some ⟨bp, 0, none⟩)) :: (.slice (some ⟨g, 0, none⟩) (nM + 1) (nM + 1)) :: (.int .i64 (m : Int)) :: (.int .i64 (K : Int)) :: (.int .i64 (d : Int)) :: (.pointer (some ⟨g, d, none⟩)) :: (.pointer (some ⟨bq, 0, none⟩)) :: (.pointer (some ⟨b0, 0, none⟩)) :: (.pointer (some ⟨g, m, none⟩)) :: (undef) :: []).toArray, defers := [] } ∧ Hid (wr.heap.size ≤ w1.heap.size ∧ (∃ c', Pp w w1 g nM (nM + 1) c' (fun i => if i = m then x + y else PT.ptr k m i))))) ?steps _ _ _ _ ?start
              case start => exact Or.inl (⟨rfl, rfl, rfl, (Below.refl wr.heap.size wr).drew⟩)
              case steps =>
                intro n l a w1 hI
                rcases hI with hI | hI | hI | hI | hI
                · obtain ⟨rfl, rfl, rfl, HH⟩ := hI
                  right
                  refine ⟨3, [2], rfl, by kernel_rfl, by simp, fun i hi => ?_⟩
                  simp only [List.mem_cons, List.not_mem_nil, or_false] at hi
                  subst hi
                  refine ⟨_, rfl, fun K' hK => ?_⟩
                  go_simp
                  have K := HH.out
                  refine hK.out _ _ (fun _ _ => (HS.out _ (K.alloc K.size _))) (Or.inr (Or.inl (⟨w1.heap.size, rfl, rfl, rfl, K.alloc K.size _, K.size, slot_new w1 _ _⟩)))
                · obtain ⟨b0, rfl, rfl, rfl, HH⟩ := hI
                  right
                  refine ⟨2, [13], rfl, by kernel_rfl, by simp, fun i hi => ?_⟩
                  simp only [List.mem_cons, List.not_mem_nil, or_false] at hi
                  subst hi
                  refine ⟨_, rfl, fun K' hK => ?_⟩
                  go_simp
                  obtain ⟨K, ge_b0, at_b0⟩ := HH.out
                  refine (Add_any b0 bp bq (x : Int) (y : Int) 64 64 w1 at_b0 (HXY.out.1.below K (Nat.le_refl _)) (HXY.out.2.1.below K (Nat.le_refl _)) HXY.out.2.2.1 HXY.out.2.2.2 (by omega) (by omega)).mono ?_
                  rintro e w2 ⟨rfl, h2, u2⟩
                  refine hK.out _ _ (fun _ _ => (HS.out _ (K.trans (u2.below K.size ge_b0)))) (Or.inr (Or.inr (Or.inl (⟨b0, rfl, rfl, rfl, (K.trans (u2.below K.size ge_b0)), ge_b0, h2⟩))))
                · obtain ⟨b0, rfl, rfl, rfl, HH⟩ := hI
                  right
                  refine ⟨1, [14], rfl, by kernel_rfl, by simp, fun i hi => ?_⟩
                  simp only [List.mem_cons, List.not_mem_nil, or_false] at hi
                  subst hi
                  refine ⟨_, rfl, fun K' hK => ?_⟩
                  go_simp
                  obtain ⟨K, ge_b0, at_b0⟩ := HH.out
                  refine hK.out _ _ (fun _ _ => (HS.out _ K)) (Or.inr (Or.inr (Or.inr (Or.inl (⟨b0, rfl, rfl, rfl, K, ge_b0, at_b0⟩)))))
                · obtain ⟨b0, rfl, rfl, rfl, HH⟩ := hI
                  right
                  refine ⟨0, [15], rfl, by kernel_rfl, by simp, fun i hi => ?_⟩
                  simp only [List.mem_cons, List.not_mem_nil, or_false] at hi
                  subst hi
                  refine ⟨_, rfl, fun K' hK => ?_⟩
                  have D1 := HP.out.row.below HH.out.1
                  have cc0 : w1.cell? ⟨g, m, none⟩ = some (.pointer (some ⟨bp, 0, none⟩)) := (HS.out _ HH.out.1).1
                  have cf0 := D1.frozen m
                  go_simp
                  obtain ⟨K, ge_b0, at_b0⟩ := HH.out
                  have E0 : Pp w (w1.setCell ⟨g, m, none⟩ (.pointer (some ⟨b0, 0, none⟩))) g nM (nM + 1) (fun i => if i = m then .pointer (some ⟨b0, 0, none⟩) else c i) (fun i => if i = m then x + y else PT.ptr k m i) := (HP.out.below K).set (by omega) (by have := at_b0; simpa using this)
                  have E : ∃ c', Pp w (w1.setCell ⟨g, m, none⟩ (.pointer (some ⟨b0, 0, none⟩))) g nM (nM + 1) c' (fun i => if i = m then x + y else PT.ptr k m i) := ⟨_, E0⟩
                  have Z := Nat.le_trans K.size (Nat.le_of_eq (World.size_setCell w1 ⟨g, m, none⟩ (.pointer (some ⟨b0, 0, none⟩))).symm)
                  refine hK.out _ _ (fun _ h => absurd rfl h) (Or.inr (Or.inr (Or.inr (Or.inr (⟨b0, rfl, rfl, rfl, Z, E⟩)))))
                · obtain ⟨b0, rfl, rfl, rfl, HH⟩ := hI
                  obtain ⟨Z, E⟩ := HH.out
                  left
                  refine ⟨by kernel_rfl, ?_⟩
                  obtain ⟨c', hc'⟩ := E
                  have HP6 : Hid (Pp w w1 g nM (nM + 1) c' (PT.ptr k (m + 1))) := hc'.congr (fun j _ => HF.out j)
                  clear HH hc' Z
                  go_wp2
                  go_roundg (nM + 1 - (m + 1))
                  case rel => exact ⟨m + 1, _, by go_num, rfl, by omega, by omega, HP6.out⟩
                  case measure => have := HKm.out; omega
            · have tm : decide ((m : Int) ≤ (nM : Int)) = false := decide_eq_false (by omega)
              obtain rfl : m = nM + 1 := by omega
              have HP5 : Hid (Pp w wr g nM (nM + 1) c (PT.pt (k + 1))) := HP.out.congr (fun j hj => PT.ptr_end hj)
              have hkn : k + 1 ≤ nM := by have := HKe.out; omega
              go_wp2
              go_roundg (nM - (k + 1))
              case rel => exact ⟨k + 1, _, by rw [HKe.out]; go_num, rfl, by omega, HP5.out⟩
              case measure => have := HKk.out; omega
        · have tk : decide ((K : Int) ≤ (nM : Int)) = false := decide_eq_false (by omega)
          obtain rfl : k = nM := by omega
          go_wp2
          go_ret
          exact ⟨g, c, rfl, HP.out⟩

end Go.Proofs.YtmifenflbaohnaaDoor
end

section
/- Contracts: (*Int).Text in base 10, (*Int).String. -/
set_option linter.unusedSimpArgs false
set_option linter.unusedVariables false
set_option maxRecDepth 100000
namespace Go.Proofs.YtmifenflbaohnaaDoor
open Go.RowKit LgM

theorem NS.grownU {B k n : Nat} {w w' : World} {s v : Value} {xs : List Value} (h : NS w s n) (hr : w.ownsRow B 5 1 v k xs) (hg : w.grownBy w' v.ownBlock) : NS w' s n := by
  obtain ⟨l, h1, h2⟩ := h
  refine ⟨l, ⟨h1.small, ?_⟩, h2⟩
  rcases h1.shape with h3 | ⟨g, cap, C, h3, h4, h5, h6⟩
  · exact .inl h3
  · refine .inr ⟨g, cap, C, h3, h4, ?_, h6⟩
    rw [hg.block g (lt_of_some h5) ?_]
    · exact h5
    · intro e
      rcases hr.2 with ⟨rfl, _⟩ | ⟨g', cap', cur, rfl, _, hgg, _⟩
      · cases e
      · obtain rfl : g' = g := by have := e.symm; simpa [Value.ownBlock] using this
        rw [h5] at hgg
        simp at hgg
theorem BigAt.grownU {B k b : Nat} {n : Int} {w w' : World} {v : Value} {xs : List Value} (h : BigAt w b n) (hr : w.ownsRow B 5 1 v k xs) (hg : w.grownBy w' v.ownBlock) : BigAt w' b n := by
  obtain ⟨s, h1, h2⟩ := h
  refine ⟨s, ?_, h2.grownU hr hg⟩
  rw [hg.block b (lt_of_some h1) ?_]
  · exact h1
  · intro e
    rcases hr.2 with ⟨rfl, _⟩ | ⟨g', cap', cur, rfl, _, hgg, _⟩
    · cases e
    · obtain rfl : g' = b := by have := e.symm; simpa [Value.ownBlock] using this
      rw [h1] at hgg
      simp at hgg

theorem w64_id {x : Int} (h : -9223372036854775808 ≤ x ∧ x ≤ 9223372036854775807) : wrap64 x = x := by
  simp only [wrap64]; omega

set_option maxHeartbeats 4000000 in
theorem own_shape {B n : Nat} {w : World} {v : Value} {xs : List Value} {e : TypeId} (h : w.ownsRow B e 1 v n xs) (hn : 0 < n) : ∃ g cap, v = .slice (some ⟨g, 0, none⟩) n cap ∧ B ≤ g ∧ g < w.heap.size ∧ ∀ j, j < n → w.cell? ⟨g, j, none⟩ = xs[j]? ∧ w.frozen? ⟨g, j, none⟩ = false := by
  rcases h.2 with ⟨_, h0⟩ | ⟨g, cap, cur, h1, h2, h3, h4, h5, h6, h7⟩
  · omega
  · refine ⟨g, cap, h1, h2, lt_of_some h3, fun j hj => ⟨?_, ?_⟩⟩
    · rw [← h7, List.getElem?_take_of_lt (by omega)]
      simp [World.cell?, h3]
    · simp [World.frozen?, h3]
theorem rvd_zero {w wx : World} {g : Nat} {T : List UInt8} (h : ∀ j, j < T.length → wx.cell? ⟨g, j, none⟩ = (u8s T)[j]? ∧ wx.frozen? ⟨g, j, none⟩ = false) : Rvd T g 0 wx := fun j hj => by
  obtain ⟨h1, h2⟩ := h j hj
  refine ⟨?_, h2⟩
  rw [h1, rv_zero T hj, u8s, List.getElem?_map, List.getD_eq_getElem?_getD, List.getElem?_eq_getElem hj]; rfl
theorem ne_at {g i j : Nat} (h : i ≠ j) : (⟨g, i, none⟩ : Addr) ≠ ⟨g, j, none⟩ := fun e => h (by injection e)
theorem rvd_step {W : World} {g i J : Nat} {T : List UInt8} (h : Rvd T g i W) (hJ : i + J + 1 = T.length) (hi : i < J) : Rvd T g (i + 1) ((W.setCell ⟨g, i, none⟩ (.int .u8 (rv T i J : Int))).setCell ⟨g, J, none⟩ (.int .u8 (rv T i i : Int))) := fun j hj => by
  have hi' : i < T.length - 1 - i := by omega
  have eJ : T.length - 1 - i = J := by omega
  refine ⟨?_, by rw [World.frozen?_setCell, World.frozen?_setCell]; exact (h j hj).2⟩
  rw [rv_step hj hi', eJ]
  by_cases h1 : j = J
  · subst h1
    rw [if_pos rfl]
    exact World.cell?_setCell_same' _ _ _ (by rw [World.cell?_setCell_other _ _ _ _ (ne_at (by omega)), (h j hj).1]; rfl)
  · rw [if_neg h1, World.cell?_setCell_other _ _ _ _ (ne_at (fun e => h1 e.symm))]
    by_cases h2 : j = i
    · subst h2
      rw [if_pos rfl]
      exact World.cell?_setCell_same' _ _ _ (by rw [(h j hj).1]; rfl)
    · rw [if_neg h2, World.cell?_setCell_other _ _ _ _ (ne_at (fun e => h2 e.symm))]
      exact (h j hj).1
theorem rvd_end {W : World} {g i : Nat} {T : List UInt8} (h : Rvd T g i W) (hi : T.length - 1 - i ≤ i) (hi2 : i < T.length) : ∀ j (hj : j < T.reverse.length), W.cell? ((⟨g, 0, none⟩ : Addr).add j) = some (.int .u8 ((T.reverse[j]'hj).toNat : Int)) := fun j hj => by
  have hadd : (⟨g, 0, none⟩ : Addr).add j = ⟨g, j, none⟩ := by unfold Addr.add; split <;> simp_all
  have hj' : j < T.length := by simpa using hj
  rw [hadd, (h j hj').1, rv_end hj' hi hi2, List.getElem_reverse, List.getD_eq_getElem?_getD, List.getElem?_eq_getElem (by omega)]
  rfl
theorem rvd_rev {P : Program} {W : World} {g i cap : Nat} {T : List UInt8} (src dst e : TypeId) (hs : P.underlying src = some (.slice e)) (he : P.underlying e = some (.int .u8)) (hd : P.underlying dst = some .string) (h : Rvd T g i W) (hi : T.length - 1 - i ≤ i) (hi2 : i < T.length) :
    (convert src dst (.slice (some ⟨g, 0, none⟩) T.length cap)).run P W = .ok (.string ⟨T.reverse.toArray⟩) W := by
  have := run_convert_bytes_back (P := P) W src dst e ⟨g, 0, none⟩ cap T.reverse hs he hd (rvd_end h hi hi2)
  rw [List.length_reverse] at this
  exact this

set_option maxRecDepth 100000 in
set_option maxHeartbeats 4000000 in
/-- The way from the digits, the last one first, to the text. -/
theorem Text_any (bx : Nat) (x : Int) (m : Nat) (w : World) (hx : BigAt w bx x) (hm : x.natAbs < pw m) (hm1 : 1 ≤ m) (hm' : m ≤ 10000000) :
    Calls Tryd.prog 28 #[.pointer (some ⟨bx, 0, none⟩), .int .i64 10] w fun e w' => e = .returned (.string ⟨(decZ x).toArray⟩) ∧ Below w.heap.size w w' := by
  obtain ⟨xa, xl, xc, cx0, cx1, nx, hxl⟩ := hx.open
  have hbx := hx.lt
  have HX : Hid (BigAt w bx x) := hx
  have HNX : Hid (NS w (.slice xa xl xc) x.natAbs) := nx
  have HM : Hid (x.natAbs < pw m) := hm
  have hN : (Lib.decDigits x.natAbs).length ≤ 100000000 := Nat.le_trans (dec_pw hm hm1) (by omega)
  obtain ⟨n, hn⟩ : ∃ n, n = x.natAbs := ⟨_, rfl⟩
  have Hn : Hid (n = x.natAbs) := hn
  by_cases h0 : n = 0
  · have hz : x = 0 := by omega
    have hl0 : xl = 0 := by
      rcases Nat.eq_zero_or_pos xl with h | h
      · exact h
      · have := hxl.1 h; omega
    have HD : Hid ((⟨(decZ x).toArray⟩ : ByteArray) = ⟨#[48]⟩) := by show _ = _; rw [hz, show decZ 0 = Lib.decDigits 0 from decZ_nat 0, dec_lt (by omega)]; rfl
    subst hl0
    clear hx nx hm hN hn hz
    go_enter Tryd.func28, Tryd.ntmps28
    go_wp2
    go_ret
    exact ⟨by rw [HD.out]; rfl, Below.refl _ _⟩
  · have hl1 : 0 < xl := hxl.2 (by omega)
    have tl0 : ((xl : Int) == 0) = false := beq_eq_false_iff_ne.2 (by omega)
    have Hlen : Hid ((Lib.decDigits n).length ≤ 100000000) := by show _ ≤ _; rw [hn]; exact hN
    have Hn0 : Hid (0 < n) := Nat.pos_of_ne_zero h0
    rw [← hn] at HNX HM
    obtain ⟨k0, hk, hx0, hx1, hx2⟩ := info_parts Tryd.infoU8
    have HP : Hid (Tryd.prog.info? 5 = some k0 ∧ k0.zero = some (.int .u8 0) ∧ k0.size = 1 ∧ k0.bytes = 1) := ⟨hk, hx0, hx1, hx2⟩
    clear hx nx hm hN hn hxl h0 hk hx0 hx1 hx2
    go_enter Tryd.func28, Tryd.ntmps28
    go_wp2_with fail
    refine (twin_any _ n m w HNX.out HM.out (by omega)).mono ?_
    rintro e w1 ⟨s1, rfl, n1, k1⟩
    have H1 : Hid (NS w1 s1 n ∧ Below w.heap.size w w1) := ⟨n1, k1⟩
    clear n1 k1 cx1
    go_wp2
    go_loopg [5, 6] n (fun gk bv av wx => ∃ (v s : Value) (a : Nat) (cs : List UInt8), bv = v ∧ av = s ∧ Hid (gk = a ∧ a ≤ n ∧ NS wx s a ∧ Dg w wx v cs ∧ Lf n a cs))
    case atStart => exact ⟨_, _, n, [], rfl, rfl, rfl, Nat.le_refl _, H1.out.1, ⟨⟨rfl, .inl ⟨rfl, rfl⟩⟩, H1.out.2⟩, .inl ⟨Hn0.out, by simp⟩⟩
    case round =>
      clear H1
      obtain ⟨v, s, a, cs, hv, hs, HR⟩ := hrel
      have hv2 := hv.symm
      have hs2 := hs.symm
      clear hv hs
      subst hv2 hs2
      obtain ⟨hgk, h2, h3, h4, h5⟩ := HR.out
      obtain ⟨sa, sl, sc, rfl, hsl⟩ := h3.shape
      have HD : Hid (Dg w wr v cs) := h4
      have HL : Hid (Lf n a cs) := h5
      have HK : Hid (gk = a) := hgk
      have HS : Hid (NS wr (.slice sa sl sc) a) := h3
      clear HR hgk h3 h4 h5
      by_cases ha : 0 < a
      · have tl : decide (0 < (sl : Int)) = true := decide_eq_true (by have := hsl.2 ha; omega)
        have HLs : Hid (Lf n (a / 10) (cs ++ [UInt8.ofNat (48 + a % 10)])) := HL.out.step ha
        have HLl : Hid (cs.length ≤ 100000000) := Nat.le_trans HL.out.len Hlen.out
        obtain ⟨d, hd⟩ : ∃ d, d = a % 10 := ⟨_, rfl⟩
        have hd9 : d ≤ 9 := by omega
        have HDd : Hid (((UInt8.ofNat (48 + d)).toNat : Int) = ((48 + d : Nat) : Int)) := by
          show _ = _
          rw [UInt8.toNat_ofNat', Nat.mod_eq_of_lt (by omega)]
        rw [← hd] at HLs
        have HA : Hid (a < pw m) := Nat.lt_of_le_of_lt h2 HM.out
        go_wp2_with fail
        refine (small_any _ a 10 m wr HS.out HA.out (by omega) (by omega) (by omega)).mono ?_
        rw [← hd]
        rintro e w2 ⟨r, rfl, nr, k2⟩
        obtain ⟨ra, rl, rc, rfl, _⟩ := nr.shape
        have H2 : Hid (NS w2 (.slice ra rl rc) (a / 10) ∧ Dg w w2 v cs) := ⟨nr, HD.out.below k2⟩
        clear nr k2 HD HS hd
        have td : decide ((d : Int) < 10) = true := decide_eq_true (by omega)
        have w1' : IntKind.u32.wrap (48 + (d : Int)) = ((48 + d : Nat) : Int) := by rw [IntKind.wrap_u32]; omega
        have w2' : IntKind.u8.wrap ((48 + d : Nat) : Int) = ((48 + d : Nat) : Int) := by rw [IntKind.wrap_u8]; omega
        generalize hD48 : 48 + d = D48 at *
        go_wp2_with (at_builtin; refine wpList_append_own _ rfl _ _ 64 rfl w.heap.size 5 k0 (.int .u8 0) 1 1 Tryd.underlying64 HP.out.1 HP.out.2.1 HP.out.2.2.1 HP.out.2.2.2 rfl (by decide) v cs.length (u8s cs) rfl (H2.out.2.row.alloc _) ⟨w2.heap.size, 0, none⟩ 1 1 [.int .u8 (D48 : Int)] rfl rfl (own_news (Cl.new [.int .u8 (D48 : Int)] 5 w2)) (by simp [Value.oneCell']) (by have := HLl.out; simp only [maxLen]; omega) (by have := HLl.out; omega) (by have := H2.out.2.k.size; simp; omega) ?_; intro v' w6 hown' hgrow _; have HO6 : Hid (Dg w w6 v' (cs ++ [UInt8.ofNat D48]) ∧ NS w6 (.slice ra rl rc) (a / 10)) := ⟨⟨by rw [List.length_append, u8s, List.map_append]; simp only [List.map_cons, List.map_nil, HDd.out]; exact hown', (Below.alloc H2.out.2.k H2.out.2.k.size _).grown hgrow (by have := H2.out.2.k.size; simp; omega) (fun j hj => (H2.out.2.row.lt j hj).1)⟩, (H2.out.1.below (Below.alloc (Below.refl w2.heap.size w2) (Nat.le_refl _) _) (Nat.le_refl _)).grownU (H2.out.2.row.alloc _) hgrow⟩; clear hown' hgrow)
        go_roundg (a / 10)
        case rel => exact ⟨_, _, a / 10, _, rfl, rfl, rfl, by omega, HO6.out.2, HO6.out.1, HLs.out⟩
        case measure => have := HK.out; omega
      · have tl : decide (0 < (sl : Int)) = false := decide_eq_false (by have := hsl.1; omega)
        have HT : Hid (Lib.decDigits n = cs.reverse ∧ 1 ≤ cs.length ∧ cs.length ≤ 100000000) := by
          have hl := HL.out.len
          have h1 := dec_pos n
          rcases HL.out with ⟨h, _⟩ | ⟨_, h⟩
          · omega
          · have e : cs.length = (Lib.decDigits n).length := by rw [h]; simp
            exact ⟨h, by omega, by have := Hlen.out; omega⟩
        have HB0 : Hid (BigAt wr bx x) := HX.out.below HD.out.k (Nat.le_refl _)
        obtain ⟨_, _, _, cxn, _, _, _⟩ := HB0.out.open
        clear HL HS HK h2
        by_cases hneg : x < 0
        · rw [decide_eq_true hneg] at cxn
          have HTT : Hid (decZ x = (cs ++ [45]).reverse) := by
            show _ = _
            rw [decZ_neg hneg, ← Hn.out, HT.out.1]; simp
          clear hneg
          go_wp2_with (at_builtin; refine wpList_append_own _ rfl _ _ 64 rfl w.heap.size 5 k0 (.int .u8 0) 1 1 Tryd.underlying64 HP.out.1 HP.out.2.1 HP.out.2.2.1 HP.out.2.2.2 rfl (by decide) v cs.length (u8s cs) rfl (HD.out.row.alloc _) ⟨wr.heap.size, 0, none⟩ 1 1 [.int .u8 45] rfl rfl (own_news (Cl.new [.int .u8 45] 5 wr)) (by simp [Value.oneCell']) (by have := HT.out.2.2; simp only [maxLen]; omega) (by have := HT.out.2.2; omega) (by have := HD.out.k.size; simp; omega) ?_; intro v' w6 hown' hgrow _; have HO6 : Hid (w6.ownsRow w.heap.size 5 1 v' (cs.length + 1) (u8s (cs ++ [45])) ∧ Below w.heap.size w w6) := ⟨by rw [u8s, List.map_append]; exact hown', (Below.alloc HD.out.k HD.out.k.size _).grown hgrow (by have := HD.out.k.size; simp; omega) (fun j hj => (HD.out.row.lt j hj).1)⟩; obtain ⟨g, cap, hv6, hg1, hg2, hg3⟩ := own_shape HO6.out.1 (by omega); obtain ⟨LT, hLL⟩ : ∃ L, L = cs.length + 1 := ⟨_, rfl⟩; rw [← hLL] at hv6; subst hv6; obtain ⟨T, hTe⟩ : ∃ T, T = cs ++ [45] := ⟨_, rfl⟩; rw [← hTe] at HTT; have HTl : Hid (T.length = LT ∧ 1 ≤ LT ∧ LT ≤ 100000001) := ⟨by rw [hTe, hLL, List.length_append]; rfl, by omega, by have := HT.out.2; omega⟩; have HG : Hid (w.heap.size ≤ g) := hg1; have HR0 : Hid (Rvd T g 0 w6 ∧ Below w.heap.size w w6) := (by refine ⟨?_, HO6.out.2⟩; rw [hTe]; exact rvd_zero (w := w6) (fun j hj => hg3 j (by simpa using hj))); clear hown' hgrow hg1 hg2 hg3 HO6 hTe hLL)
          have hLT : T.length = LT := HTl.out.1
          obtain ⟨J0, hJ0⟩ : ∃ J : Nat, (LT : Int) - 1 = (J : Int) := ⟨LT - 1, by have := HTl.out.2.1; omega⟩
          have hwJ : IntKind.i64.wrap (J0 : Int) = (J0 : Int) := by rw [IntKind.wrap_i64]; have := HTl.out.2.2; omega
          have HJ : Hid (0 + J0 + 1 = LT) := by show _ = _; omega
          clear hLT
          go_wp2
          go_loopg [8, 9] LT (fun gk iv jv wx => ∃ i J : Nat, iv = .int .i64 (i : Int) ∧ jv = .int .i64 (J : Int) ∧ Hid (gk = LT - i ∧ i + J + 1 = LT ∧ Rvd T g i wx ∧ Below w.heap.size w wx))
          case atStart => exact ⟨0, J0, rfl, by first | rfl | (have e : wrap64 ((LT : Int) - 1) = (J0 : Int) := (by rw [hJ0]; exact w64_id (by have := HTl.out.2.2; omega)); exact congrArg (Value.int .i64) e), by omega, HJ.out, HR0.out⟩
          case round =>
            clear HR0 HJ hJ0 hwJ
            obtain ⟨i, J, rfl, rfl, HR⟩ := hrel
            obtain ⟨h1, h2, h3, h4⟩ := HR.out
            have HK2 : Hid (gk = LT - i) := h1
            have HR2 : Hid (i + J + 1 = LT ∧ Rvd T g i wr ∧ Below w.heap.size w wr) := ⟨h2, h3, h4⟩
            by_cases hij : i < J
            · have tij : decide ((i : Int) < (J : Int)) = true := decide_eq_true (by omega)
              have hLT := HTl.out.1
              obtain ⟨c1, f1⟩ := h3 i (by omega)
              obtain ⟨c2, f2⟩ := h3 J (by omega)
              obtain ⟨p, hp⟩ : ∃ p, p = rv T i i := ⟨_, rfl⟩
              obtain ⟨q, hq⟩ : ∃ q, q = rv T i J := ⟨_, rfl⟩
              have HW : Hid (Rvd T g (i + 1) ((wr.setCell ⟨g, i, none⟩ (.int .u8 (q : Int))).setCell ⟨g, J, none⟩ (.int .u8 (p : Int))) ∧ Below w.heap.size w ((wr.setCell ⟨g, i, none⟩ (.int .u8 (q : Int))).setCell ⟨g, J, none⟩ (.int .u8 (p : Int)))) := by
                rw [hp, hq]
                exact ⟨rvd_step h3 (by omega) hij, (h4.setCell HG.out _).setCell HG.out _⟩
              rw [← hp] at c1
              rw [← hq] at c2
              obtain ⟨J', rfl⟩ : ∃ J', J = J' + 1 := ⟨J - 1, by omega⟩
              have x1 : (i : Int) < (LT : Int) := by omega
              have x3 : LT ≤ 100000001 := HTl.out.2.2
              have x2 : ((J' + 1 : Nat) : Int) < (LT : Int) := by omega
              clear HR h1 h2 h3 h4 hp hq hLT
              go_wp2
              go_roundg (LT - (i + 1))
              case rel => exact ⟨i + 1, J', by go_num, by go_num, rfl, by have := HR2.out.1; omega, HW.out⟩
              case measure => have := HK2.out; have := HR2.out.1; omega
            · have tij : decide ((i : Int) < (J : Int)) = false := decide_eq_false (by omega)
              have hi1 : T.length - 1 - i ≤ i := by rw [HTl.out.1]; omega
              have hi2 : i < T.length := by rw [HTl.out.1]; omega
              have kc := rvd_rev (P := Tryd.prog) (cap := cap) 64 9 5 Tryd.underlying64 Tryd.underlying5 Tryd.underlying9 h3 hi1 hi2
              rw [HTl.out.1] at kc
              clear hi1 hi2
              have HKb : Hid (Below w.heap.size w wr) := h4
              clear HR h1 h2 h3 h4 HR2
              go_wp2
              go_ret
              exact ⟨by rw [HTT.out]; rfl, HKb.out⟩
        · rw [decide_eq_false hneg] at cxn
          have HTT : Hid (decZ x = cs.reverse) := by
            show _ = _
            rw [decZ_pos hneg, ← Hn.out, HT.out.1]
          obtain ⟨g, cap, hv6, hg1, hg2, hg3⟩ := own_shape HD.out.row HT.out.2.1
          obtain ⟨T, hTe⟩ : ∃ T, T = cs := ⟨_, rfl⟩
          obtain ⟨LT, hLL⟩ : ∃ L, L = cs.length := ⟨_, rfl⟩
          have HTl : Hid (T.length = LT ∧ 1 ≤ LT ∧ LT ≤ 100000001) := by
            have := HT.out.2
            refine ⟨?_, ?_, ?_⟩ <;> (try rw [hTe]) <;> omega
          have HG : Hid (w.heap.size ≤ g) := hg1
          have HR0 : Hid (Rvd T g 0 wr ∧ Below w.heap.size w wr) := by
            refine ⟨?_, HD.out.k⟩
            rw [hTe]
            exact rvd_zero (w := wr) hg3
          rw [← hTe] at HTT
          rw [← hLL] at hv6
          have hv7 := hv6.symm
          clear hg1 hg2 hg3 HD hTe hLL hneg hv6
          subst hv7
          have hLT : T.length = LT := HTl.out.1
          obtain ⟨J0, hJ0⟩ : ∃ J : Nat, (LT : Int) - 1 = (J : Int) := ⟨LT - 1, by have := HTl.out.2.1; omega⟩
          have hwJ : IntKind.i64.wrap (J0 : Int) = (J0 : Int) := by rw [IntKind.wrap_i64]; have := HTl.out.2.2; omega
          have HJ : Hid (0 + J0 + 1 = LT) := by show _ = _; omega
          clear hLT
          go_wp2
          go_loopg [8, 9] LT (fun gk iv jv wx => ∃ i J : Nat, iv = .int .i64 (i : Int) ∧ jv = .int .i64 (J : Int) ∧ Hid (gk = LT - i ∧ i + J + 1 = LT ∧ Rvd T g i wx ∧ Below w.heap.size w wx))
          case atStart => exact ⟨0, J0, rfl, by first | rfl | (have e : wrap64 ((LT : Int) - 1) = (J0 : Int) := (by rw [hJ0]; exact w64_id (by have := HTl.out.2.2; omega)); exact congrArg (Value.int .i64) e), by omega, HJ.out, HR0.out⟩
          case round =>
            clear HR0 HJ hJ0 hwJ
            obtain ⟨i, J, rfl, rfl, HR⟩ := hrel
            obtain ⟨h1, h2, h3, h4⟩ := HR.out
            have HK2 : Hid (gk = LT - i) := h1
            have HR2 : Hid (i + J + 1 = LT ∧ Rvd T g i wr ∧ Below w.heap.size w wr) := ⟨h2, h3, h4⟩
            by_cases hij : i < J
            · have tij : decide ((i : Int) < (J : Int)) = true := decide_eq_true (by omega)
              have hLT := HTl.out.1
              obtain ⟨c1, f1⟩ := h3 i (by omega)
              obtain ⟨c2, f2⟩ := h3 J (by omega)
              obtain ⟨p, hp⟩ : ∃ p, p = rv T i i := ⟨_, rfl⟩
              obtain ⟨q, hq⟩ : ∃ q, q = rv T i J := ⟨_, rfl⟩
              have HW : Hid (Rvd T g (i + 1) ((wr.setCell ⟨g, i, none⟩ (.int .u8 (q : Int))).setCell ⟨g, J, none⟩ (.int .u8 (p : Int))) ∧ Below w.heap.size w ((wr.setCell ⟨g, i, none⟩ (.int .u8 (q : Int))).setCell ⟨g, J, none⟩ (.int .u8 (p : Int)))) := by
                rw [hp, hq]
                exact ⟨rvd_step h3 (by omega) hij, (h4.setCell HG.out _).setCell HG.out _⟩
              rw [← hp] at c1
              rw [← hq] at c2
              obtain ⟨J', rfl⟩ : ∃ J', J = J' + 1 := ⟨J - 1, by omega⟩
              have x1 : (i : Int) < (LT : Int) := by omega
              have x3 : LT ≤ 100000001 := HTl.out.2.2
              have x2 : ((J' + 1 : Nat) : Int) < (LT : Int) := by omega
              clear HR h1 h2 h3 h4 hp hq hLT
              go_wp2
              go_roundg (LT - (i + 1))
              case rel => exact ⟨i + 1, J', by go_num, by go_num, rfl, by have := HR2.out.1; omega, HW.out⟩
              case measure => have := HK2.out; have := HR2.out.1; omega
            · have tij : decide ((i : Int) < (J : Int)) = false := decide_eq_false (by omega)
              have hi1 : T.length - 1 - i ≤ i := by rw [HTl.out.1]; omega
              have hi2 : i < T.length := by rw [HTl.out.1]; omega
              have kc := rvd_rev (P := Tryd.prog) (cap := cap) 64 9 5 Tryd.underlying64 Tryd.underlying5 Tryd.underlying9 h3 hi1 hi2
              rw [HTl.out.1] at kc
              clear hi1 hi2
              have HKb : Hid (Below w.heap.size w wr) := h4
              clear HR h1 h2 h3 h4 HR2
              go_wp2
              go_ret
              exact ⟨by rw [HTT.out]; rfl, HKb.out⟩

set_option maxHeartbeats 1000000 in
theorem IString_any (bx : Nat) (x : Int) (m : Nat) (w : World) (hx : BigAt w bx x) (hm : x.natAbs < pw m) (hm1 : 1 ≤ m) (hm' : m ≤ 10000000) :
    Calls Tryd.prog 11 #[.pointer (some ⟨bx, 0, none⟩)] w fun e w' => e = .returned (.string ⟨(decZ x).toArray⟩) ∧ Below w.heap.size w w' := by
  have HT : Hid (∀ w', BigAt w' bx x → Calls Tryd.prog 28 #[.pointer (some ⟨bx, 0, none⟩), .int .i64 10] w' fun e w'' => e = .returned (.string ⟨(decZ x).toArray⟩) ∧ Below w'.heap.size w' w'') := fun w' h => Text_any bx x m w' h hm hm1 hm'
  have HX : Hid (BigAt w bx x) := hx
  clear hx hm hm1 hm'
  go_enter Tryd.func11, Tryd.ntmps11
  go_wp2_with fail
  refine (HT.out _ HX.out).mono ?_
  rintro e w1 ⟨rfl, k1⟩
  go_wp2
  go_ret
  exact ⟨rfl, k1⟩

end Go.Proofs.YtmifenflbaohnaaDoor
end
