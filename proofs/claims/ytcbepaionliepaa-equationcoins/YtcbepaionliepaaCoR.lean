/- The reference: Gaps. -/
import Derived.Test.YtcbepaionliepaaCoC
set_option linter.unusedSimpArgs false
set_option linter.unusedVariables false
set_option maxRecDepth 100000
namespace Go.Proofs.Ytcbepaionliepaa
open Go.RowKit

theorem Try.infoBoolC : (Try.prog.info? 4).map (fun i => (i.zero, i.size, i.bytes)) = some (some (.bool false), 1, 1) := by kernel_rfl
theorem cl_of_makeB {w w' : World} {n : Nat} (h : w'.ownsRow w.heap.size 4 1 (.slice (some ⟨w.heap.size, 0, none⟩) n n) n (madeCells #[Value.bool false] n).toList) : Cl w.heap.size (List.replicate n (.bool false)) 4 w' := by
  obtain ⟨h1, h2 | ⟨g, cap, cur, e1, e2, e3, e4, e5, e6, e7⟩⟩ := h
  · obtain ⟨h2, rfl⟩ := h2
    simp at h2
  · simp at e1
    obtain ⟨rfl, rfl⟩ := e1
    unfold Cl
    rw [e3]
    have : cur.toList = (madeCells #[Value.bool false] n).toList := by
      rw [← e7, List.take_of_length_le (by simp; omega)]
    have e8 : cur = madeCells #[Value.bool false] n := Array.toList_inj.1 this
    rw [e8]
    congr 2
    apply Array.ext
    · simp [madeCells]
    · intro i h1 h2
      simp [madeCells, Nat.mod_one]
def bcells (m : Nat) (B : Nat → Bool) : List Value := (List.range m).map fun i => .bool (B i)
theorem bcells_len (m : Nat) (B : Nat → Bool) : (bcells m B).length = m := by simp [bcells]
theorem bcells_at {m i : Nat} (B : Nat → Bool) (h : i < m) : (bcells m B)[i]? = some (.bool (B i)) := by simp [bcells, h]
theorem bcells_congr {m : Nat} {L L' : Nat → Bool} (h : ∀ r, r < m → L r = L' r) : bcells m L = bcells m L' := by
  unfold bcells
  refine List.map_congr_left (fun r hr => ?_)
  rw [h r (List.mem_range.1 hr)]
theorem bcells_false (m : Nat) : List.replicate m (.bool false) = bcells m (fun _ => false) := by
  apply List.ext_getElem?
  intro i
  by_cases h : i < m
  · rw [bcells_at _ h, List.getElem?_replicate, if_pos h]
  · rw [List.getElem?_eq_none (by simp; omega), List.getElem?_eq_none (by rw [bcells_len]; omega)]
theorem bcells_set {m j : Nat} (B : Nat → Bool) (v : Bool) (h : j < m) : (bcells m B).set j (.bool v) = bcells m (fun i => if i = j then v else B i) := by
  apply List.ext_getElem?
  intro i
  rw [List.getElem?_set]
  by_cases hj : j = i
  · subst hj
    rw [if_pos rfl, bcells_at _ h, bcells_len, if_pos h, if_pos rfl]
  · rw [if_neg hj]
    by_cases hi : i < m
    · rw [bcells_at _ hi, bcells_at _ hi, if_neg (fun e => hj e.symm)]
    · rw [List.getElem?_eq_none (by rw [bcells_len]; omega), List.getElem?_eq_none (by rw [bcells_len]; omega)]

/-- The marks: below n all are told, at n what the first i coins tell, above nothing. -/
def mk1 (l : List Nat) (p : Nat → Bool) (n i : Nat) : Bool := decide (n = 0) || (l.take i).any (fun c => decide (c ≤ n) && !p (n - c))
def mks (l : List Nat) (p : Nat → Bool) (n i j : Nat) : Bool := if j = n then mk1 l p n i else (decide (j < n) && !p j)
/-- What is asked of the gaps. -/
structure Gp (l : List Nat) (p : Nat → Bool) (M : Nat) : Prop where
  z : p 0 = false
  r : ∀ n, 0 < n → n ≤ M → (p n = false ↔ ∃ c, c ∈ l ∧ c ≤ n ∧ p (n - c) = false)
  c : ∀ c, c ∈ l → 1 ≤ c
theorem mk1_all {l : List Nat} {p : Nat → Bool} {M n : Nat} (h : Gp l p M) (hn : n ≤ M) : mk1 l p n l.length = !p n := by
  unfold mk1
  rw [List.take_length]
  by_cases h0 : n = 0
  · subst h0; rw [h.z]; simp
  · rw [decide_eq_false h0, Bool.false_or, Bool.eq_iff_iff, List.any_eq_true]
    have := h.r n (by omega) hn
    simp only [Bool.and_eq_true, decide_eq_true_eq, Bool.not_eq_true']
    rw [this]
theorem mk1_next {l : List Nat} {p : Nat → Bool} {n i : Nat} (hi : i < l.length) : mk1 l p n (i + 1) = (mk1 l p n i || (decide (l.getD i 0 ≤ n) && !p (n - l.getD i 0))) := by
  unfold mk1
  rw [List.take_succ_eq_append_getElem hi, List.any_append, List.getD_eq_getElem?_getD, List.getElem?_eq_getElem hi, Option.getD_some]
  simp [Bool.or_assoc]
theorem mks_start (l : List Nat) (p : Nat → Bool) (M : Nat) : bcells M (fun i => if i = 0 then true else false) = bcells M (mks l p 0 0) := bcells_congr (fun r _ => by
  unfold mks mk1
  by_cases e : r = 0
  · rw [if_pos e, if_pos e]; simp
  · rw [if_neg e, if_neg e]; simp)
theorem mks_row {l : List Nat} {p : Nat → Bool} {M n : Nat} (h : Gp l p M) (hn : n ≤ M) (N : Nat) : bcells N (mks l p n l.length) = bcells N (mks l p (n + 1) 0) := bcells_congr (fun r _ => by
  unfold mks
  by_cases e : r = n
  · subst e
    rw [if_pos rfl, if_neg (by omega), mk1_all h hn, decide_eq_true (by omega), Bool.true_and]
  · rw [if_neg e]
    by_cases e1 : r = n + 1
    · subst e1
      rw [if_pos rfl, decide_eq_false (by omega)]
      unfold mk1
      simp
    · rw [if_neg e1]
      by_cases e2 : r < n
      · rw [decide_eq_true e2, decide_eq_true (by omega)]
      · rw [decide_eq_false e2, decide_eq_false (by omega)])
theorem mks_yes {l : List Nat} {p : Nat → Bool} {n i : Nat} (hi : i < l.length) (h : (decide (l.getD i 0 ≤ n) && !p (n - l.getD i 0)) = true) (N : Nat) : bcells N (fun j => if j = n then true else mks l p n i j) = bcells N (mks l p n (i + 1)) := bcells_congr (fun r _ => by
  unfold mks
  by_cases e : r = n
  · rw [if_pos e, if_pos e, mk1_next hi, h, Bool.or_true]
  · rw [if_neg e, if_neg e, if_neg e])
theorem mks_no {l : List Nat} {p : Nat → Bool} {n i : Nat} (hi : i < l.length) (h : (decide (l.getD i 0 ≤ n) && !p (n - l.getD i 0)) = false) (N : Nat) : bcells N (mks l p n i) = bcells N (mks l p n (i + 1)) := bcells_congr (fun r _ => by
  unfold mks
  by_cases e : r = n
  · rw [if_pos e, if_pos e, mk1_next hi, h, Bool.or_false]
  · rw [if_neg e, if_neg e])

set_option maxRecDepth 100000 in
set_option maxHeartbeats 8000000 in
theorem Gaps_any (l : List Nat) (p : Nat → Bool) (M g o cap : Nat) (w : World) (hM : M ≤ 1000000) (hl : l.length ≤ 1000) (hG : Gp l p M) (hx : ∀ j, j < l.length → 1 ≤ l.getD j 0 ∧ l.getD j 0 ≤ 1000) (h : Ro g o l.length (fun j => l.getD j 0) w) :
    Calls Try.prog 25 #[.slice (some ⟨g, o, none⟩) l.length cap, .int .i64 (M : Int)] w fun e w' => e = .returned (.tuple #[.int .i64 (CO.ls p (M + 1)), .int .i64 (CO.cn p (M + 1) : Nat)]) ∧ Below w.heap.size w w' := by
  obtain ⟨i0, hi, hz0, hz1, hz2⟩ := info_parts Try.infoBoolC
  have HI : Hid (Try.prog.info? 4 = some i0 ∧ i0.zero = some (.bool false) ∧ i0.size = 1 ∧ i0.bytes = 1) := ⟨hi, hz0, hz1, hz2⟩
  have HR0 : Hid (Ro g o l.length (fun j => l.getD j 0) w) := h
  have HG : Hid (Gp l p M) := hG
  have HX : Hid (∀ j, j < l.length → 1 ≤ l.getD j 0 ∧ l.getD j 0 ≤ 1000) := hx
  obtain ⟨N, hN⟩ : ∃ n, n = l.length := ⟨_, rfl⟩
  have HN : Hid (N = l.length) := hN
  rw [← hN] at HR0 HX hl ⊢
  clear hi hz0 hz1 hz2 h hG hx hN
  go_enter Try.func25, Try.ntmps25
  go_wp2_with (at_make; refine wpList_make_full _ rfl _ _ 70 rfl w.heap.size 4 i0 (.bool false) 1 Try.underlying70 HI.out.1 HI.out.2.1 HI.out.2.2.1 .i64 .i64 _ _ (M + 1) rfl rfl (by omega) (by omega) (by rw [HI.out.2.2.2]; omega) (by unfold maxLen; omega) (Nat.le_refl _) ?_)
  intro w2 hown hgrow
  have C2 : Cl w.heap.size (bcells (M + 1) (fun _ => false)) 4 w2 := by rw [← bcells_false]; exact cl_of_makeB hown
  have HS2 : Hid (Cl w.heap.size (bcells (M + 1) (fun _ => false)) 4 w2 ∧ Below w.heap.size w w2) := ⟨C2, (Below.refl _ _).grown hgrow (Nat.le_refl _) (by simp)⟩
  have c0 : w2.cell? ⟨w.heap.size, 0, none⟩ = some (.bool false) := by rw [C2.cell]; exact bcells_at _ (by omega)
  have f0 : w2.frozen? ⟨w.heap.size, 0, none⟩ = false := C2.frozen 0
  clear hown hgrow HI C2
  go_wp2
  clear c0 f0
  go_loopg [7, 8, 9] (M + 1) (fun gk lv mv nv wx => ∃ n : Nat, lv = .int .i64 (CO.ls p n) ∧ mv = .int .i64 (CO.cn p n : Nat) ∧ nv = .int .i64 n ∧ Hid (gk = M + 1 - n ∧ n ≤ M + 1 ∧ Cl w.heap.size (bcells (M + 1) (mks l p n 0)) 4 wx ∧ Ro g o N (fun j => l.getD j 0) wx ∧ Below w.heap.size w wx))
  case atStart =>
    have k3 : Below w.heap.size w (w2.setCell ⟨w.heap.size, 0, none⟩ (.bool true)) := Below.setCell HS2.out.2 (Nat.le_refl _) _
    refine ⟨0, rfl, rfl, rfl, by omega, by omega, ?_, HR0.out.belowA k3, k3⟩
    have := HS2.out.1.set 0 (.bool true)
    rw [bcells_set _ _ (by omega), mks_start l p] at this
    exact this
  case round =>
    clear HS2
    obtain ⟨n, rfl, rfl, rfl, HR⟩ := hrel
    obtain ⟨h1, h2, h3, h4, h5⟩ := HR.out
    have HK : Hid (gk = M + 1 - n) := h1
    have HS : Hid (Cl w.heap.size (bcells (M + 1) (mks l p n 0)) 4 wr ∧ Ro g o N (fun j => l.getD j 0) wr ∧ Below w.heap.size w wr) := ⟨h3, h4, h5⟩
    obtain ⟨V, hV⟩ : ∃ V, V = CO.ls p n := ⟨_, rfl⟩
    obtain ⟨C, hC⟩ : ∃ V, V = CO.cn p n := ⟨_, rfl⟩
    have bC : C ≤ 1000001 := by rw [hC]; have := CO.cn_le p n; omega
    have HVC : Hid (V = CO.ls p n ∧ C = CO.cn p n) := ⟨hV, hC⟩
    rw [← hV, ← hC]
    clear HR h1 h3 h4 h5 hV hC
    by_cases hn : n ≤ M
    · have tn : decide ((n : Int) ≤ (M : Int)) = true := decide_eq_true (by omega)
      go_wp2
      go_loopg [10] N (fun gk iv wx => ∃ i : Nat, iv = .int .i64 i ∧ Hid (gk = N - i ∧ i ≤ N ∧ Cl w.heap.size (bcells (M + 1) (mks l p n i)) 4 wx ∧ Ro g o N (fun j => l.getD j 0) wx ∧ Below w.heap.size w wx))
      case atStart => exact ⟨0, rfl, by omega, by omega, HS.out⟩
      case round =>
        clear HS
        obtain ⟨i, rfl, HR⟩ := hrel
        obtain ⟨h1, h2', h3, h4, h5⟩ := HR.out
        by_cases hi : i < N
        · have ti : decide ((i : Int) < (N : Int)) = true := decide_eq_true (by omega)
          have hil : i < l.length := by have := HN.out; omega
          have HKi : Hid (gk = N - i) := h1
          have HS : Hid (Cl w.heap.size (bcells (M + 1) (mks l p n i)) 4 wr ∧ Ro g o N (fun j => l.getD j 0) wr ∧ Below w.heap.size w wr) := ⟨h3, h4, h5⟩
          have c0 : wr.cell? ⟨g, o + i, none⟩ = some (.int .i64 ((l.getD i 0 : Nat) : Int)) := h4.c i hi
          obtain ⟨x, hx⟩ : ∃ x : Nat, x = l.getD i 0 := ⟨_, rfl⟩
          have bx : 1 ≤ x ∧ x ≤ 1000 := by rw [hx]; exact HX.out i hi
          have HXx : Hid (x = l.getD i 0) := hx
          rw [← hx] at c0
          by_cases hxn : x ≤ n
          · have tx : decide ((x : Int) ≤ (n : Int)) = true := decide_eq_true (by omega)
            have c1 : wr.cell? ⟨w.heap.size, n - x, none⟩ = some (.bool (!p (n - x))) := by
              rw [h3.cell, bcells_at _ (by omega)]
              unfold mks
              rw [if_neg (by omega), decide_eq_true (by omega), Bool.true_and]
            have ix : (n : Int) - (x : Int) = ((n - x : Nat) : Int) := by omega
            have c2 : wr.cell? ⟨w.heap.size, n, none⟩ = some (.bool (mks l p n i n)) := by rw [h3.cell, bcells_at _ (by omega)]
            have f2 : wr.frozen? ⟨w.heap.size, n, none⟩ = false := h3.frozen n
            obtain ⟨b, hb⟩ : ∃ b, b = !p (n - x) := ⟨_, rfl⟩
            have HB : Hid (b = (decide (l.getD i 0 ≤ n) && !p (n - l.getD i 0))) := by
              show _ = _
              rw [← hx, decide_eq_true hxn, Bool.true_and, hb]
            rw [← hb] at c1
            clear HR h1 h3 h4 h5 hx hb
            cases b
            · go_wp2
              go_roundg (N - (i + 1))
              case rel =>
                refine ⟨i + 1, by go_num, rfl, by omega, ?_, HS.out.2⟩
                rw [← mks_no hil HB.out.symm]
                exact HS.out.1
              case measure => have := HKi.out; omega
            · go_wp2
              go_roundg (N - (i + 1))
              case rel =>
                have k3 : Below w.heap.size w (wr.setCell ⟨w.heap.size, n, none⟩ (.bool true)) := Below.setCell HS.out.2.2 (Nat.le_refl _) _
                refine ⟨i + 1, by go_num, rfl, by omega, ?_, HR0.out.belowA k3, k3⟩
                have := HS.out.1.set n (.bool true)
                rw [bcells_set _ _ (by omega), mks_yes hil HB.out.symm] at this
                exact this
              case measure => have := HKi.out; omega
          · have tx : decide ((x : Int) ≤ (n : Int)) = false := decide_eq_false (by omega)
            have HB : Hid ((decide (l.getD i 0 ≤ n) && !p (n - l.getD i 0)) = false) := by
              show _ = _
              rw [← hx, decide_eq_false hxn, Bool.false_and]
            clear HR h1 h3 h4 h5 hx
            go_wp2
            go_roundg (N - (i + 1))
            case rel =>
              refine ⟨i + 1, by go_num, rfl, by omega, ?_, HS.out.2⟩
              rw [← mks_no hil HB.out]
              exact HS.out.1
            case measure => have := HKi.out; omega
        · have ti : decide ((i : Int) < (N : Int)) = false := decide_eq_false (by omega)
          obtain rfl : i = N := by omega
          have HS : Hid (Cl w.heap.size (bcells (M + 1) (mks l p (n + 1) 0)) 4 wr ∧ Ro g o i (fun j => l.getD j 0) wr ∧ Below w.heap.size w wr) := by
            refine ⟨?_, h4, h5⟩
            rw [← mks_row HG.out hn, ← HN.out]
            exact h3
          have c1 : wr.cell? ⟨w.heap.size, n, none⟩ = some (.bool (!p n)) := by
            rw [h3.cell, bcells_at _ (by omega)]
            unfold mks
            rw [if_pos rfl, HN.out, mk1_all HG.out hn]
          obtain ⟨b, hb⟩ : ∃ b, b = !p n := ⟨_, rfl⟩
          have HB : Hid (b = !p n) := hb
          rw [← hb] at c1
          clear HR h1 h3 h4 h5 hb
          cases b
          · have HE : Hid (CO.ls p (n + 1) = n ∧ CO.cn p (n + 1) = C + 1) := by
              have e : p n = true := by have := HB.out; simpa using this.symm
              exact ⟨by rw [CO.ls, if_pos e], by rw [CO.cn, if_pos e, HVC.out.2]⟩
            go_wp2
            go_roundg (M + 1 - (n + 1))
            case rel => exact ⟨n + 1, by rw [HE.out.1], by rw [HE.out.2]; go_num, by go_num, rfl, by omega, HS.out⟩
            case measure => have := HK.out; omega
          · have HE : Hid (CO.ls p (n + 1) = V ∧ CO.cn p (n + 1) = C) := by
              have e : p n = false := by have := HB.out; simpa using this.symm
              exact ⟨by rw [CO.ls, if_neg (by simp [e]), HVC.out.1], by rw [CO.cn, if_neg (by simp [e]), HVC.out.2, Nat.add_zero]⟩
            go_wp2
            go_roundg (M + 1 - (n + 1))
            case rel => exact ⟨n + 1, by rw [HE.out.1], by rw [HE.out.2], by go_num, rfl, by omega, HS.out⟩
            case measure => have := HK.out; omega
    · have tn : decide ((n : Int) ≤ (M : Int)) = false := decide_eq_false (by omega)
      obtain rfl : n = M + 1 := by omega
      go_wp2
      refine bodyPost_ret (v := .tuple #[.int .i64 V, .int .i64 (C : Int)]) (by simp [results, Try.results25, go_sem]) rfl ⟨?_, HS.out.2.2⟩
      rw [HVC.out.1, HVC.out.2]

end Go.Proofs.Ytcbepaionliepaa
