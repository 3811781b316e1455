import Derived.Test.YtcnfhndejkngkaaGreatDoorJpB
section
set_option linter.unusedSimpArgs false
set_option linter.unusedVariables false
set_option maxRecDepth 100000
namespace Go.Proofs.YtcnfhndejkngkaaGreatDoor
open Go.RowKit
def Row (w : World) (g : Nat) (R : List Nat) : Prop := w.heap[g]? = some (.cells (R.map (fun x : Nat => Value.int .u32 (x : Int))).toArray 106 (0, 0))
theorem Row.lt {w : World} {g : Nat} {R : List Nat} (h : Row w g R) : g < w.heap.size := lt_of_some h
theorem Row.cell {w : World} {g : Nat} {R : List Nat} (h : Row w g R) (i : Nat) (hi : i < R.length) : w.cell? ⟨g, i, none⟩ = some (.int .u32 (R.getD i 0 : Int)) := by
  unfold Row at h
  simp [World.cell?, h, hi]
theorem Row.frozen {w : World} {g : Nat} {R : List Nat} (h : Row w g R) (i : Nat) : w.frozen? ⟨g, i, none⟩ = false := by
  unfold Row at h
  simp [World.frozen?, h]
theorem Row.set {w : World} {g : Nat} {R : List Nat} (h : Row w g R) (i : Nat) (y : Int) (x : Nat) (e : y = x) : Row (w.setCell ⟨g, i, none⟩ (.int .u32 y)) g (R.set i x) := by
  subst e
  unfold Row at h ⊢
  simp [World.setCell, Array.getElem?_modify, h, List.map_set]
theorem Row.below {B g : Nat} {w w' : World} {R : List Nat} (h : Row w g R) (hb : Below B w w') (hg : g < B) : Row w' g R := by
  unfold Row at h ⊢; rw [hb.block g hg]; exact h
theorem Row.sl {w : World} {g : Nat} {R : List Nat} (h : Row w g R) (hs : ∀ x ∈ R, x < 4294967296) : Sl w (.slice (some ⟨g, 0, none⟩) R.length R.length) R := by
  refine ⟨hs, Or.inr ⟨g, _, _, rfl, Nat.le_refl _, h, fun i hi => ?_⟩⟩
  simp [hi]
theorem Row.drewN {w : World} {g n : Nat} {R : List Nat} (h : Row w g R) : Row (w.drewN n) g R := h
theorem Row.of_make {w w' : World} {n : Nat} (h : w'.ownsRow w.heap.size 106 1 (.slice (some ⟨w.heap.size, 0, none⟩) n n) n (madeCells #[Value.int .u32 0] n).toList) : Row w' w.heap.size (List.replicate n 0) := by
  obtain ⟨h1, h2 | ⟨g, cap, cur, e1, e2, e3, e4, e5, e6, e7⟩⟩ := h
  · obtain ⟨h2, rfl⟩ := h2
    simp at h2
  · simp at e1
    obtain ⟨rfl, rfl⟩ := e1
    unfold Row
    rw [e3]
    have : cur.toList = (madeCells #[Value.int .u32 0] n).toList := by
      rw [← e7, List.take_of_length_le (by simp; omega)]
    have e8 : cur = madeCells #[Value.int .u32 0] n := Array.toList_inj.1 this
    rw [e8]
    congr 2
    apply Array.ext
    · simp [madeCells]
    · intro i h1 h2
      simp [madeCells, Nat.mod_one]
def cmpN (a b : Nat) : Int := if a < b then -1 else if b < a then 1 else 0
theorem val_split (l : List Nat) (k : Nat) (hk : k < l.length) : val l = val (l.take k) + pw k * (l.getD k 0 + 4294967296 * val (l.drop (k + 1))) := by
  have e : l = l.take k ++ (l.getD k 0 :: l.drop (k + 1)) := by
    rw [List.getD_eq_getElem?_getD, List.getElem?_eq_getElem hk, Option.getD_some, ← List.drop_eq_getElem_cons hk, List.take_append_drop]
  have h := val_append (l.take k) (l.getD k 0 :: l.drop (k + 1))
  rw [← e, List.length_take, Nat.min_eq_left (by omega)] at h
  rw [h]; rfl
theorem take_lt (l : List Nat) (k : Nat) (hk : k ≤ l.length) (h : ∀ x ∈ l, x < 4294967296) : val (l.take k) < pw k := by
  have := val_lt (l.take k) (fun x hx => h x (List.mem_of_mem_take hx))
  rwa [List.length_take, Nat.min_eq_left hk] at this
theorem drop_same (a b : List Nat) (k : Nat) (hl : a.length = b.length) (h : ∀ j, k ≤ j → j < a.length → a.getD j 0 = b.getD j 0) : a.drop k = b.drop k := by
  apply List.ext_getElem
  · simp [hl]
  · intro i h1 h2
    simp at h1 h2
    have := h (k + i) (by omega) (by omega)
    rw [List.getD_eq_getElem?_getD, List.getElem?_eq_getElem (by omega), List.getD_eq_getElem?_getD, List.getElem?_eq_getElem (by omega)] at this
    simpa using this
theorem val_lt_of (a b : List Nat) (k : Nat) (hk : k < a.length) (hl : a.length = b.length) (ha : ∀ x ∈ a, x < 4294967296)
    (h : ∀ j, k + 1 ≤ j → j < a.length → a.getD j 0 = b.getD j 0) (hlt : a.getD k 0 < b.getD k 0) : val a < val b := by
  rw [val_split a k hk, val_split b k (by omega), drop_same a b (k + 1) hl h]
  have h1 := take_lt a k (by omega) ha
  have h2 : pw k * (a.getD k 0 + 4294967296 * val (b.drop (k + 1)) + 1) ≤ pw k * (b.getD k 0 + 4294967296 * val (b.drop (k + 1))) := Nat.mul_le_mul_left _ (by omega)
  rw [Nat.mul_add, Nat.mul_one] at h2
  omega
theorem val_len_lt (a b : List Nat) (ha : ∀ x ∈ a, x < 4294967296) (hb : Nm b) (h : a.length < b.length) : val a < val b := by
  have h1 := val_lt a ha
  rcases hb with hb | hb
  · subst hb; simp at h
  · have := pw_le (show a.length ≤ b.length - 1 by omega); omega
theorem cmpN_lt {a b : Nat} (h : a < b) : cmpN a b = -1 := by simp [cmpN, h]
theorem cmpN_gt {a b : Nat} (h : b < a) : cmpN a b = 1 := by simp [cmpN]; omega
theorem cmpN_eq {a b : Nat} (h : a = b) : cmpN a b = 0 := by simp [cmpN, h]
theorem NS.open {w : World} {s : Value} {n : Nat} (h : NS w s n) : ∃ (l : List Nat) (aa : Option Addr) (g cap : Nat), s = .slice aa l.length cap ∧ val l = n ∧ Nm l ∧ (∀ x ∈ l, x < 4294967296) ∧ (0 < l.length → aa = some ⟨g, 0, none⟩) ∧
    (∀ i, i < l.length → w.cell? ⟨g, i, none⟩ = some (.int .u32 (l.getD i 0 : Int))) ∧ l.length ≤ cap ∧ (0 < l.length → g < w.heap.size) := by
  obtain ⟨l, h1, h2, h3⟩ := h
  rcases h1.shape with ⟨rfl, rfl⟩ | ⟨g, cap, C, rfl, k2, k3, k4⟩
  · exact ⟨[], none, 0, 0, rfl, h2, h3, by simp, by simp, by simp, by simp, by simp⟩
  · refine ⟨l, _, g, cap, rfl, h2, h3, h1.small, fun _ => rfl, fun i hi => ?_, k2, fun _ => lt_of_some k3⟩
    simp only [World.cell?, k3]; exact k4 i hi
theorem drewN_more {w wr : World} (h : ∃ q, wr = w.drewN q) (n : Nat) : ∃ q, wr.drewN n = w.drewN q := by
  obtain ⟨q, rfl⟩ := h
  exact ⟨q + n, World.drewN_drewN ..⟩
set_option maxHeartbeats 1000000 in
theorem cmp_any (s t : Value) (a b m n : Nat) (w : World) (ha : NS w s a) (hb : NS w t b) (hm : a < pw m) (hn : b < pw n) (hm' : m ≤ 100000000) (hn' : n ≤ 100000000) :
    Calls Tryz.prog 48 #[s, t] w fun e w' => e = .returned (.int .i64 (cmpN a b)) ∧ ∃ q, w' = w.drewN q := by
  obtain ⟨la, aa, ga, ca, rfl, va, na, sa, pa, cella, _, _⟩ := ha.open
  obtain ⟨lb, ab, gb, cb, rfl, vb, nb, sb, pb, cellb, _, _⟩ := hb.open
  subst va vb
  have l1 : la.length ≤ 100000000 := Nat.le_trans (na.len hm) hm'
  have l2 : lb.length ≤ 100000000 := Nat.le_trans (nb.len hn) hn'
  have NA : Hid (Nm la) := na
  have NB : Hid (Nm lb) := nb
  have SA : Hid (∀ x ∈ la, x < 4294967296) := sa
  have SB : Hid (∀ x ∈ lb, x < 4294967296) := sb
  have CA : Hid (∀ i, i < la.length → w.cell? ⟨ga, i, none⟩ = some (.int .u32 (la.getD i 0 : Int))) := cella
  have CB : Hid (∀ i, i < lb.length → w.cell? ⟨gb, i, none⟩ = some (.int .u32 (lb.getD i 0 : Int))) := cellb
  have PA : Hid (0 < la.length → aa = some ⟨ga, 0, none⟩) := pa
  have PB : Hid (0 < lb.length → ab = some ⟨gb, 0, none⟩) := pb
  clear na nb sa sb cella cellb pa pb ha hb hm hn
  rcases Nat.lt_trichotomy la.length lb.length with h | h | h
  · have h0 : ((la.length : Int) != (lb.length : Int)) = true := by rw [bne_iff_ne]; omega
    go_enter Tryz.func48, Tryz.ntmps48
    go_wp2
    go_ret
    exact ⟨ret_int (cmpN_lt (val_len_lt la lb SA.out NB.out h)).symm, 0, rfl⟩
  · have h0 : ((la.length : Int) != (lb.length : Int)) = false := by simp; omega
    have HL : Hid (la.length = lb.length) := h
    have hle1 : la.length ≤ lb.length := by omega
    have hle2 : lb.length ≤ la.length := by omega
    clear h
    go_enter Tryz.func48, Tryz.ntmps48
    go_wp2
    go_loopw [5] (fun i wr => ∃ k : Nat, k ≤ la.length ∧ i = .int .i64 ((k : Int) - 1) ∧ (∀ j, k ≤ j → j < la.length → la.getD j 0 = lb.getD j 0) ∧ ∃ q, wr = w.drewN q) (fun i _ => (intOf i + 1).toNat)
    case atStart => exact ⟨la.length, Nat.le_refl _, rfl, fun j h1 h2 => by omega, 0, rfl⟩
    case round =>
      obtain ⟨k, hk, rfl, hs, hw⟩ := hrel
      have HS : Hid (∀ j, k ≤ j → j < la.length → la.getD j 0 = lb.getD j 0) := hs
      have HW : Hid (∃ q, wr = w.drewN q) := hw
      clear hs hw
      by_cases h00 : k = 0
      · subst h00
        go_wp2
        go_ret
        refine ⟨ret_int (cmpN_eq ?_).symm, HW.out⟩
        have := drop_same la lb 0 HL.out HS.out
        simpa using congrArg val this
      · obtain ⟨m', rfl⟩ : ∃ m', k = m' + 1 := ⟨k - 1, by omega⟩
        have hca : wr.cell? ⟨ga, m', none⟩ = some (.int .u32 (la.getD m' 0 : Int)) := by obtain ⟨q, e⟩ := HW.out; rw [e]; exact CA.out m' (by omega)
        have hcb : wr.cell? ⟨gb, m', none⟩ = some (.int .u32 (lb.getD m' 0 : Int)) := by obtain ⟨q, e⟩ := HW.out; rw [e]; exact CB.out m' (by omega)
        obtain ⟨x, hx⟩ : ∃ x, x = la.getD m' 0 := ⟨_, rfl⟩
        obtain ⟨y, hy⟩ : ∃ y, y = lb.getD m' 0 := ⟨_, rfl⟩
        rw [← hx] at hca
        rw [← hy] at hcb
        have HX : Hid (x = la.getD m' 0) := hx
        have HY : Hid (y = lb.getD m' 0) := hy
        obtain rfl := PA.out (by omega)
        obtain rfl := PB.out (by omega)
        clear hx hy
        rcases Nat.lt_trichotomy x y with c | c | c
        · have d : ((x : Int) != (y : Int)) = true := by rw [bne_iff_ne]; omega
          go_wp2
          go_quiet (fail)
          go_wp2
          go_quiet (fail)
          go_wp2
          go_ret
          exact ⟨ret_int (cmpN_lt (val_lt_of la lb m' (by omega) HL.out SA.out HS.out (by rw [← HX.out, ← HY.out]; exact c))).symm, drewN_more (drewN_more HW.out _) _⟩
        · have d : ((x : Int) != (y : Int)) = false := by simp; omega
          go_wp2
          go_quiet (fail)
          go_wp2
          go_roundw
          case rel =>
            refine ⟨m', by omega, by go_num, fun j h1 h2 => ?_, drewN_more HW.out _⟩
            by_cases e : j = m'
            · subst e; rw [← HX.out, ← HY.out]; exact c
            · exact HS.out j (by omega) h2
          case measure => simp [intOf]
        · have d : ((x : Int) != (y : Int)) = true := by rw [bne_iff_ne]; omega
          go_wp2
          go_quiet (fail)
          go_wp2
          go_quiet (fail)
          go_wp2
          go_ret
          exact ⟨ret_int (cmpN_gt (val_lt_of lb la m' (by omega) HL.out.symm SB.out (fun j h1 h2 => (HS.out j h1 (by omega)).symm) (by rw [← HX.out, ← HY.out]; exact c))).symm, drewN_more (drewN_more HW.out _) _⟩
  · have h0 : ((la.length : Int) != (lb.length : Int)) = true := by rw [bne_iff_ne]; omega
    go_enter Tryz.func48, Tryz.ntmps48
    go_wp2
    go_ret
    exact ⟨ret_int (cmpN_gt (val_len_lt lb la SB.out NA.out h)).symm, 0, rfl⟩
end Go.Proofs.YtcnfhndejkngkaaGreatDoor
end

section
set_option linter.unusedSimpArgs false
set_option linter.unusedVariables false
set_option maxRecDepth 100000
namespace Go.Proofs.YtcnfhndejkngkaaGreatDoor
open Go.RowKit
theorem Tryz.info32 : (Tryz.prog.info? 106).map (fun i => (i.zero, i.size, i.bytes)) = some (some (.int .u32 0), 1, 4) := by kernel_rfl
theorem val_take_succ (l : List Nat) (k : Nat) : val (l.take (k + 1)) = val (l.take k) + pw k * l.getD k 0 := by
  by_cases h : k < l.length
  · rw [List.take_succ_eq_append_getElem h, val_append, List.length_take, Nat.min_eq_left (by omega), List.getD_eq_getElem?_getD, List.getElem?_eq_getElem h, Option.getD_some]
    simp [val]
  · rw [List.take_of_length_le (by omega), List.take_of_length_le (by omega), List.getD_eq_getElem?_getD, List.getElem?_eq_none (by omega)]
    simp
theorem set_app (D : List Nat) (m x k : Nat) (h : D.length = k) : (D ++ List.replicate (m + 1) 0).set k x = (D ++ [x]) ++ List.replicate m 0 := by
  subst h
  rw [List.set_append_right _ _ (Nat.le_refl _)]
  simp [List.replicate_succ]
theorem val_zeros (D : List Nat) (m : Nat) : val (D ++ List.replicate m 0) = val D := by
  have : val (List.replicate m 0) = 0 := by
    induction m with
    | zero => rfl
    | succ n ih => simp [List.replicate_succ, val, ih]
  rw [val_append, this]; simp
theorem carry_step (D : List Nat) (k c t S x y : Nat) (h : D.length = k) (hv : val D + pw k * c = S) (ht : t = c + x + y) :
    val (D ++ [t % 4294967296]) + pw (k + 1) * (t / 4294967296) = S + pw k * x + pw k * y := by
  have e1 : val (D ++ [t % 4294967296]) = val D + pw k * (t % 4294967296) := by rw [val_append, h]; simp [val]
  have e2 : pw (k + 1) * (t / 4294967296) = pw k * (4294967296 * (t / 4294967296)) := by
    show 4294967296 * pw k * (t / 4294967296) = _
    rw [Nat.mul_comm 4294967296 (pw k), Nat.mul_assoc]
  have e3 : pw k * (t % 4294967296) + pw k * (4294967296 * (t / 4294967296)) = pw k * t := by rw [← Nat.mul_add, Nat.mod_add_div]
  rw [e1, e2]
  have e4 : pw k * t = pw k * c + pw k * x + pw k * y := by rw [ht, Nat.mul_add, Nat.mul_add]
  omega
theorem List.getD_lt_of {l : List Nat} (h : ∀ x ∈ l, x < 4294967296) (k : Nat) : l.getD k 0 < 4294967296 := by
  by_cases hk : k < l.length
  · rw [List.getD_eq_getElem?_getD, List.getElem?_eq_getElem hk, Option.getD_some]; exact h _ (List.getElem_mem hk)
  · rw [List.getD_eq_getElem?_getD, List.getElem?_eq_none (by omega)]; decide
set_option maxHeartbeats 1000000 in
theorem add_ge (lA lB : List Nat) (aA aB : Option Addr) (gA gB cA cB : Nat) (w : World) (hl1 : lA.length ≤ 100000000) (hle : lB.length ≤ lA.length)
    (SA : Hid (∀ x ∈ lA, x < 4294967296)) (SB : Hid (∀ x ∈ lB, x < 4294967296)) (PA : Hid (0 < lA.length → aA = some ⟨gA, 0, none⟩)) (PB : Hid (0 < lB.length → aB = some ⟨gB, 0, none⟩))
    (CA : Hid (∀ i, i < lA.length → w.cell? ⟨gA, i, none⟩ = some (.int .u32 (lA.getD i 0 : Int)))) (CB : Hid (∀ i, i < lB.length → w.cell? ⟨gB, i, none⟩ = some (.int .u32 (lB.getD i 0 : Int))))
    (GA : Hid (0 < lA.length → gA < w.heap.size)) (GB : Hid (0 < lB.length → gB < w.heap.size)) :
    Calls Tryz.prog 85 #[.slice aA lA.length cA, .slice aB lB.length cB] w fun e w' => ∃ s, e = .returned s ∧ NS w' s (val lA + val lB) ∧ Below w.heap.size w w' := by
  go_enter Tryz.func85, Tryz.ntmps85
  obtain ⟨i0, hi, hz0, hz1, hz2⟩ := info_parts Tryz.info32
  go_wp2_with (at_make; refine wpList_make_full _ rfl _ _ 53 rfl w.heap.size 106 i0 (.int .u32 0) 1 Tryz.underlying53 hi hz0 hz1 .i64 .i64 _ _ (lA.length + 1) rfl rfl (by omega) (by omega) (by rw [hz2]; omega) (by unfold maxLen; omega) (Nat.le_refl _) ?_)
  intro w1 hown hgrow
  have hrow := Row.of_make hown
  have hbel : Below w.heap.size w w1 := (Below.refl _ _).grown hgrow (Nat.le_refl _) (by simp)
  have HR : Hid (Row w1 w.heap.size (List.replicate (lA.length + 1) 0)) := hrow
  have HB : Hid (Below w.heap.size w w1) := hbel
  clear hown hgrow hrow hbel hi hz0 hz1 hz2
  go_wp2
  go_loopw [6, 7] (fun c i wr => ∃ (k c' : Nat) (D : List Nat), k ≤ lA.length ∧ i = .int .i64 k ∧ c = .int .u64 c' ∧ c' ≤ 1 ∧ D.length = k ∧ (∀ x ∈ D, x < 4294967296) ∧ val D + pw k * c' = val (lA.take k) + val (lB.take k) ∧ Row wr w.heap.size (D ++ List.replicate (lA.length + 1 - k) 0) ∧ Below w.heap.size w wr) (fun _ i _ => lA.length - (intOf i).toNat)
  case atStart => exact ⟨0, 0, [], Nat.zero_le _, rfl, rfl, by omega, rfl, by simp, by simp [val, pw], by simpa using HR.out, HB.out⟩
  case round =>
    obtain ⟨k, c', D, hk, rfl, rfl, hc', hD, hDs, hv, hrow, hbel⟩ := hrel
    have HV : Hid (val D + pw k * c' = val (lA.take k) + val (lB.take k)) := hv
    have HD : Hid (D.length = k) := hD
    have HDs : Hid (∀ x ∈ D, x < 4294967296) := hDs
    have HRr : Hid (Row wr w.heap.size (D ++ List.replicate (lA.length + 1 - k) 0)) := hrow
    have HBr : Hid (Below w.heap.size w wr) := hbel
    have hsz : (D ++ List.replicate (lA.length + 1 - k) 0).length = lA.length + 1 := by simp; omega
    have cr : wr.cell? ⟨w.heap.size, k, none⟩ = some (.int .u32 ((D ++ List.replicate (lA.length + 1 - k) 0).getD k 0 : Int)) := hrow.cell k (by omega)
    have fr : wr.frozen? ⟨w.heap.size, k, none⟩ = false := hrow.frozen k
    clear hv hD hDs hrow hbel hsz HR HB
    generalize hqq : ((D ++ List.replicate (lA.length + 1 - k) 0).getD k 0 : Int) = qq at cr
    clear hqq
    by_cases hlt : k < lA.length
    · have ca : wr.cell? ⟨gA, k, none⟩ = some (.int .u32 (lA.getD k 0 : Int)) := (HBr.out.cell (p := ⟨gA, k, none⟩) (GA.out (by omega))).trans (CA.out k hlt)
      have sx := List.getD_lt_of SA.out k
      obtain ⟨x, hx⟩ : ∃ x, x = lA.getD k 0 := ⟨_, rfl⟩
      rw [← hx] at ca sx
      have HX : Hid (x = lA.getD k 0) := hx
      obtain rfl := PA.out (by omega)
      clear hx
      by_cases hlb : k < lB.length
      · have cb : wr.cell? ⟨gB, k, none⟩ = some (.int .u32 (lB.getD k 0 : Int)) := (HBr.out.cell (p := ⟨gB, k, none⟩) (GB.out (by omega))).trans (CB.out k hlb)
        have sy := List.getD_lt_of SB.out k
        obtain ⟨y, hy⟩ : ∃ y, y = lB.getD k 0 := ⟨_, rfl⟩
        rw [← hy] at cb sy
        have HY : Hid (y = lB.getD k 0) := hy
        obtain rfl := PB.out (by omega)
        clear hy
        go_wp2
        go_roundw
        case rel =>
          refine ⟨k + 1, (c' + x + y) / 4294967296, D ++ [(c' + x + y) % 4294967296], by omega, by go_num, by go_num, by omega, by simp [HD.out], ?_, ?_, ?_, ?_⟩
          · intro z hz; rw [List.mem_append] at hz; rcases hz with hz | hz
            · exact HDs.out z hz
            · simp at hz; omega
          · rw [carry_step D k c' _ _ x y HD.out HV.out rfl, val_take_succ lA k, val_take_succ lB k, HX.out, HY.out]; omega
          · have e : lA.length + 1 - k = (lA.length + 1 - (k + 1)) + 1 := by omega
            have := HRr.out
            rw [e] at this
            rw [← set_app D _ _ k HD.out]
            exact this.set k _ _ (by omega)
          · exact HBr.out.setCell (Nat.le_refl _) _
        case measure => simp [intOf]; omega
      · go_wp2
        go_roundw
        case rel =>
          refine ⟨k + 1, (c' + x + 0) / 4294967296, D ++ [(c' + x + 0) % 4294967296], by omega, by go_num, by go_num, by omega, by simp [HD.out], ?_, ?_, ?_, ?_⟩
          · intro z hz; rw [List.mem_append] at hz; rcases hz with hz | hz
            · exact HDs.out z hz
            · simp at hz; omega
          · have e0 : lB.getD k 0 = 0 := by rw [List.getD_eq_getElem?_getD, List.getElem?_eq_none (by omega)]; rfl
            rw [carry_step D k c' _ _ x 0 HD.out HV.out rfl, val_take_succ lA k, val_take_succ lB k, HX.out, e0]; omega
          · have e : lA.length + 1 - k = (lA.length + 1 - (k + 1)) + 1 := by omega
            have := HRr.out
            rw [e] at this
            rw [← set_app D _ _ k HD.out]
            exact this.set k _ _ (by omega)
          · exact HBr.out.setCell (Nat.le_refl _) _
        case measure => simp [intOf]; omega
    · obtain rfl : k = lA.length := by omega
      have hrow2 : Row (wr.setCell ⟨w.heap.size, lA.length, none⟩ (.int .u32 c')) w.heap.size (D ++ [c']) := by
        have := HRr.out.set lA.length (c' : Int) c' rfl
        rw [show lA.length + 1 - lA.length = 0 + 1 by omega, set_app D 0 c' lA.length HD.out] at this
        simpa using this
      have hsl := hrow2.sl (fun z hz => by
        rw [List.mem_append] at hz; rcases hz with hz | hz
        · exact HDs.out z hz
        · simp at hz; omega)
      have hlen : (D ++ [c']).length = lA.length + 1 := by simp [HD.out]
      rw [hlen] at hsl
      have HSL : Hid (Sl (wr.setCell ⟨w.heap.size, lA.length, none⟩ (.int .u32 c')) (.slice (some ⟨w.heap.size, 0, none⟩) (lA.length + 1) (lA.length + 1)) (D ++ [c'])) := hsl
      have HVV : Hid (val (D ++ [c']) = val lA + val lB) := by
        show val (D ++ [c']) = _
        have := HV.out
        rw [List.take_of_length_le (Nat.le_refl _), List.take_of_length_le (by omega)] at this
        rw [← this, val_append, HD.out]; simp [val]
      have HLN : Hid ((D ++ [c']).length ≤ 1000000000) := by show _ ≤ _; omega
      clear hsl hlen hrow2
      go_wp2_with fail
      refine (trim_any (D ++ [c']) _ _ HLN.out HSL.out).mono ?_
      rw [HVV.out]
      rintro e w2 ⟨s', rfl, hns, rfl⟩
      go_wp2
      go_ret
      exact ⟨s', rfl, hns, HBr.out.setCell (Nat.le_refl _) _⟩
set_option maxHeartbeats 1000000 in
theorem add_lt (lA lB : List Nat) (aA aB : Option Addr) (gA gB cA cB : Nat) (w : World) (hl1 : lA.length ≤ 100000000) (hlt' : lB.length < lA.length)
    (SA : Hid (∀ x ∈ lA, x < 4294967296)) (SB : Hid (∀ x ∈ lB, x < 4294967296)) (PA : Hid (0 < lA.length → aA = some ⟨gA, 0, none⟩)) (PB : Hid (0 < lB.length → aB = some ⟨gB, 0, none⟩))
    (CA : Hid (∀ i, i < lA.length → w.cell? ⟨gA, i, none⟩ = some (.int .u32 (lA.getD i 0 : Int)))) (CB : Hid (∀ i, i < lB.length → w.cell? ⟨gB, i, none⟩ = some (.int .u32 (lB.getD i 0 : Int))))
    (GA : Hid (0 < lA.length → gA < w.heap.size)) (GB : Hid (0 < lB.length → gB < w.heap.size)) :
    Calls Tryz.prog 85 #[.slice aB lB.length cB, .slice aA lA.length cA] w fun e w' => ∃ s, e = .returned s ∧ NS w' s (val lA + val lB) ∧ Below w.heap.size w w' := by
  have hle : lB.length ≤ lA.length := by omega
  go_enter Tryz.func85, Tryz.ntmps85
  obtain ⟨i0, hi, hz0, hz1, hz2⟩ := info_parts Tryz.info32
  go_wp2_with (at_make; refine wpList_make_full _ rfl _ _ 53 rfl w.heap.size 106 i0 (.int .u32 0) 1 Tryz.underlying53 hi hz0 hz1 .i64 .i64 _ _ (lA.length + 1) rfl rfl (by omega) (by omega) (by rw [hz2]; omega) (by unfold maxLen; omega) (Nat.le_refl _) ?_)
  intro w1 hown hgrow
  have hrow := Row.of_make hown
  have hbel : Below w.heap.size w w1 := (Below.refl _ _).grown hgrow (Nat.le_refl _) (by simp)
  have HR : Hid (Row w1 w.heap.size (List.replicate (lA.length + 1) 0)) := hrow
  have HB : Hid (Below w.heap.size w w1) := hbel
  clear hown hgrow hrow hbel hi hz0 hz1 hz2
  go_wp2
  go_loopw [6, 7] (fun c i wr => ∃ (k c' : Nat) (D : List Nat), k ≤ lA.length ∧ i = .int .i64 k ∧ c = .int .u64 c' ∧ c' ≤ 1 ∧ D.length = k ∧ (∀ x ∈ D, x < 4294967296) ∧ val D + pw k * c' = val (lA.take k) + val (lB.take k) ∧ Row wr w.heap.size (D ++ List.replicate (lA.length + 1 - k) 0) ∧ Below w.heap.size w wr) (fun _ i _ => lA.length - (intOf i).toNat)
  case atStart => exact ⟨0, 0, [], Nat.zero_le _, rfl, rfl, by omega, rfl, by simp, by simp [val, pw], by simpa using HR.out, HB.out⟩
  case round =>
    obtain ⟨k, c', D, hk, rfl, rfl, hc', hD, hDs, hv, hrow, hbel⟩ := hrel
    have HV : Hid (val D + pw k * c' = val (lA.take k) + val (lB.take k)) := hv
    have HD : Hid (D.length = k) := hD
    have HDs : Hid (∀ x ∈ D, x < 4294967296) := hDs
    have HRr : Hid (Row wr w.heap.size (D ++ List.replicate (lA.length + 1 - k) 0)) := hrow
    have HBr : Hid (Below w.heap.size w wr) := hbel
    have hsz : (D ++ List.replicate (lA.length + 1 - k) 0).length = lA.length + 1 := by simp; omega
    have cr : wr.cell? ⟨w.heap.size, k, none⟩ = some (.int .u32 ((D ++ List.replicate (lA.length + 1 - k) 0).getD k 0 : Int)) := hrow.cell k (by omega)
    have fr : wr.frozen? ⟨w.heap.size, k, none⟩ = false := hrow.frozen k
    clear hv hD hDs hrow hbel hsz HR HB
    generalize hqq : ((D ++ List.replicate (lA.length + 1 - k) 0).getD k 0 : Int) = qq at cr
    clear hqq
    by_cases hlt : k < lA.length
    · have ca : wr.cell? ⟨gA, k, none⟩ = some (.int .u32 (lA.getD k 0 : Int)) := (HBr.out.cell (p := ⟨gA, k, none⟩) (GA.out (by omega))).trans (CA.out k hlt)
      have sx := List.getD_lt_of SA.out k
      obtain ⟨x, hx⟩ : ∃ x, x = lA.getD k 0 := ⟨_, rfl⟩
      rw [← hx] at ca sx
      have HX : Hid (x = lA.getD k 0) := hx
      obtain rfl := PA.out (by omega)
      clear hx
      by_cases hlb : k < lB.length
      · have cb : wr.cell? ⟨gB, k, none⟩ = some (.int .u32 (lB.getD k 0 : Int)) := (HBr.out.cell (p := ⟨gB, k, none⟩) (GB.out (by omega))).trans (CB.out k hlb)
        have sy := List.getD_lt_of SB.out k
        obtain ⟨y, hy⟩ : ∃ y, y = lB.getD k 0 := ⟨_, rfl⟩
        rw [← hy] at cb sy
        have HY : Hid (y = lB.getD k 0) := hy
        obtain rfl := PB.out (by omega)
        clear hy
        go_wp2
        go_roundw
        case rel =>
          refine ⟨k + 1, (c' + x + y) / 4294967296, D ++ [(c' + x + y) % 4294967296], by omega, by go_num, by go_num, by omega, by simp [HD.out], ?_, ?_, ?_, ?_⟩
          · intro z hz; rw [List.mem_append] at hz; rcases hz with hz | hz
            · exact HDs.out z hz
            · simp at hz; omega
          · rw [carry_step D k c' _ _ x y HD.out HV.out rfl, val_take_succ lA k, val_take_succ lB k, HX.out, HY.out]; omega
          · have e : lA.length + 1 - k = (lA.length + 1 - (k + 1)) + 1 := by omega
            have := HRr.out
            rw [e] at this
            rw [← set_app D _ _ k HD.out]
            exact this.set k _ _ (by omega)
          · exact HBr.out.setCell (Nat.le_refl _) _
        case measure => simp [intOf]; omega
      · go_wp2
        go_roundw
        case rel =>
          refine ⟨k + 1, (c' + x + 0) / 4294967296, D ++ [(c' + x + 0) % 4294967296], by omega, by go_num, by go_num, by omega, by simp [HD.out], ?_, ?_, ?_, ?_⟩
          · intro z hz; rw [List.mem_append] at hz; rcases hz with hz | hz
            · exact HDs.out z hz
            · simp at hz; omega
          · have e0 : lB.getD k 0 = 0 := by rw [List.getD_eq_getElem?_getD, List.getElem?_eq_none (by omega)]; rfl
            rw [carry_step D k c' _ _ x 0 HD.out HV.out rfl, val_take_succ lA k, val_take_succ lB k, HX.out, e0]; omega
          · have e : lA.length + 1 - k = (lA.length + 1 - (k + 1)) + 1 := by omega
            have := HRr.out
            rw [e] at this
            rw [← set_app D _ _ k HD.out]
            exact this.set k _ _ (by omega)
          · exact HBr.out.setCell (Nat.le_refl _) _
        case measure => simp [intOf]; omega
    · obtain rfl : k = lA.length := by omega
      have hrow2 : Row (wr.setCell ⟨w.heap.size, lA.length, none⟩ (.int .u32 c')) w.heap.size (D ++ [c']) := by
        have := HRr.out.set lA.length (c' : Int) c' rfl
        rw [show lA.length + 1 - lA.length = 0 + 1 by omega, set_app D 0 c' lA.length HD.out] at this
        simpa using this
      have hsl := hrow2.sl (fun z hz => by
        rw [List.mem_append] at hz; rcases hz with hz | hz
        · exact HDs.out z hz
        · simp at hz; omega)
      have hlen : (D ++ [c']).length = lA.length + 1 := by simp [HD.out]
      rw [hlen] at hsl
      have HSL : Hid (Sl (wr.setCell ⟨w.heap.size, lA.length, none⟩ (.int .u32 c')) (.slice (some ⟨w.heap.size, 0, none⟩) (lA.length + 1) (lA.length + 1)) (D ++ [c'])) := hsl
      have HVV : Hid (val (D ++ [c']) = val lA + val lB) := by
        show val (D ++ [c']) = _
        have := HV.out
        rw [List.take_of_length_le (Nat.le_refl _), List.take_of_length_le (by omega)] at this
        rw [← this, val_append, HD.out]; simp [val]
      have HLN : Hid ((D ++ [c']).length ≤ 1000000000) := by show _ ≤ _; omega
      clear hsl hlen hrow2
      go_wp2_with fail
      refine (trim_any (D ++ [c']) _ _ HLN.out HSL.out).mono ?_
      rw [HVV.out]
      rintro e w2 ⟨s', rfl, hns, rfl⟩
      go_wp2
      go_ret
      exact ⟨s', rfl, hns, HBr.out.setCell (Nat.le_refl _) _⟩
theorem add_any (s t : Value) (a b m n : Nat) (w : World) (ha : NS w s a) (hb : NS w t b) (hm : a < pw m) (hn : b < pw n) (hm' : m ≤ 100000000) (hn' : n ≤ 100000000) :
    Calls Tryz.prog 85 #[s, t] w fun e w' => ∃ r, e = .returned r ∧ NS w' r (a + b) ∧ Below w.heap.size w w' := by
  obtain ⟨la, aa, ga, ca, rfl, va, na, sa, pa, cella, _, lta⟩ := ha.open
  obtain ⟨lb, ab, gb, cb, rfl, vb, nb, sb, pb, cellb, _, ltb⟩ := hb.open
  subst va vb
  have l1 : la.length ≤ 100000000 := Nat.le_trans (na.len hm) hm'
  have l2 : lb.length ≤ 100000000 := Nat.le_trans (nb.len hn) hn'
  rcases Nat.lt_or_ge la.length lb.length with h | h
  · rw [Nat.add_comm]
    exact add_lt lb la ab aa gb ga cb ca w l2 h sb sa pb pa cellb cella ltb lta
  · exact add_ge la lb aa ab ga gb ca cb w l1 h sa sb pa pb cella cellb lta ltb
end Go.Proofs.YtcnfhndejkngkaaGreatDoor
end
