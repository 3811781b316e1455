/- The program: equation.leastSums, equation.coins. -/
import Derived.Test.YtcbepaionliepaaCoB
import Derived.Deep.CutBlock
set_option linter.unusedSimpArgs false
set_option linter.unusedVariables false
set_option maxRecDepth 100000
namespace Go.Proofs.Ytcbepaionliepaa
open Go.RowKit

theorem Try.infoIntC : (Try.prog.info? 3).map (fun i => (i.zero, i.size, i.bytes)) = some (some (.int .i64 0), 1, 8) := by kernel_rfl
theorem cl_of_makeC {w w' : World} {n : Nat} (h : w'.ownsRow w.heap.size 3 1 (.slice (some ⟨w.heap.size, 0, none⟩) n n) n (madeCells #[Value.int .i64 0] n).toList) : Cl w.heap.size (List.replicate n (.int .i64 0)) 3 w' := by
  obtain ⟨h1, h2 | ⟨g, cap, cur, e1, e2, e3, e4, e5, e6, e7⟩⟩ := h
  · obtain ⟨h2, rfl⟩ := h2
    simp at h2
  · simp at e1
    obtain ⟨rfl, rfl⟩ := e1
    unfold Cl
    rw [e3]
    have : cur.toList = (madeCells #[Value.int .i64 0] n).toList := by
      rw [← e7, List.take_of_length_le (by simp; omega)]
    have e8 : cur = madeCells #[Value.int .i64 0] n := Array.toList_inj.1 this
    rw [e8]
    congr 2
    apply Array.ext
    · simp [madeCells]
    · intro i h1 h2
      simp [madeCells, Nat.mod_one]
def stL (i r : Nat) : Nat := if r = 0 then 0 else if r < i then 1000000000000000000 else 0
theorem lcells_congr {m : Nat} {L L' : Nat → Nat} (h : ∀ r, r < m → L r = L' r) : lcells m L = lcells m L' := by
  unfold lcells
  refine List.map_congr_left (fun r hr => ?_)
  rw [h r (List.mem_range.1 hr)]
theorem lcells_zero (m : Nat) : List.replicate m (.int .i64 0) = lcells m (stL 1) := by
  apply List.ext_getElem?
  intro i
  by_cases h : i < m
  · rw [lcells_at _ h, List.getElem?_replicate, if_pos h]
    have : stL 1 i = 0 := by
      unfold stL
      by_cases e : i = 0
      · rw [if_pos e]
      · rw [if_neg e, if_neg (by omega)]
    rw [this]; rfl
  · rw [List.getElem?_eq_none (by simp; omega), List.getElem?_eq_none (by rw [lcells_len]; omega)]
theorem stL_next (m i : Nat) (hi : 1 ≤ i) : lcells m (CO.upd (stL i) i 1000000000000000000) = lcells m (stL (i + 1)) := lcells_congr (fun r _ => by
  unfold CO.upd stL
  by_cases e : r = i
  · subst e; rw [if_pos rfl, if_neg (by omega), if_pos (by omega)]
  · rw [if_neg e]
    by_cases e0 : r = 0
    · rw [if_pos e0, if_pos e0]
    · rw [if_neg e0, if_neg e0]
      by_cases e1 : r < i
      · rw [if_pos e1, if_pos (by omega)]
      · rw [if_neg e1, if_neg (by omega)])
theorem stL_end (m : Nat) (l : List Nat) : CO.G m l 0 (fun r => if r = 0 then 0 else 1000000000000000000) := CO.G.start m l

set_option maxRecDepth 100000 in
set_option maxHeartbeats 4000000 in
theorem leastSums_any (l : List Nat) (m g o cap : Nat) (w : World) (hm : 1 ≤ m ∧ m ≤ 1000) (hl : l.length ≤ 1000) (hM : ∀ j, j < l.length → 1 ≤ l.getD j 0 ∧ l.getD j 0 ≤ 1000) (h : Ro g o l.length (fun j => l.getD j 0) w) :
    Calls Try.prog 56 #[.slice (some ⟨g, o, none⟩) l.length cap, .int .i64 (m : Int)] w fun e w' => ∃ L, CO.G m l l.length L ∧ e = .returned (.slice (some ⟨w.heap.size, 0, none⟩) m m) ∧ Cl w.heap.size (lcells m L) 3 w' ∧ Below w.heap.size w w' := by
  obtain ⟨i0, hi, hz0, hz1, hz2⟩ := info_parts Try.infoIntC
  have HI : Hid (Try.prog.info? 3 = some i0 ∧ i0.zero = some (.int .i64 0) ∧ i0.size = 1 ∧ i0.bytes = 8) := ⟨hi, hz0, hz1, hz2⟩
  have HR0 : Hid (Ro g o l.length (fun j => l.getD j 0) w) := h
  have HMj : Hid (∀ j, j < l.length → 1 ≤ l.getD j 0 ∧ l.getD j 0 ≤ 1000) := hM
  obtain ⟨n, hn⟩ : ∃ n, n = l.length := ⟨_, rfl⟩
  have HN : Hid (n = l.length) := hn
  rw [← hn] at hl HR0 HMj ⊢
  clear h hM hn hi hz0 hz1 hz2
  go_enter Try.func56, Try.ntmps56
  go_wp2_with (at_make; refine wpList_make_full _ rfl _ _ 26 rfl w.heap.size 3 i0 (.int .i64 0) 1 Try.underlying26 HI.out.1 HI.out.2.1 HI.out.2.2.1 .i64 .i64 _ _ m rfl rfl (by omega) (by omega) (by rw [HI.out.2.2.2]; omega) (by unfold maxLen; omega) (Nat.le_refl _) ?_)
  intro w2 hown hgrow
  have HS2 : Hid (Cl w.heap.size (lcells m (stL 1)) 3 w2 ∧ Below w.heap.size w w2) := ⟨by rw [← lcells_zero]; exact cl_of_makeC hown, (Below.refl _ _).grown hgrow (Nat.le_refl _) (by simp)⟩
  clear hown hgrow HI
  go_wp2
  go_loopg [6] (m - 1) (fun gk iv wx => ∃ i : Nat, iv = .int .i64 i ∧ Hid (gk = m - i ∧ 1 ≤ i ∧ i ≤ m ∧ Cl w.heap.size (lcells m (stL i)) 3 wx ∧ Below w.heap.size w wx))
  case atStart => exact ⟨1, rfl, by omega, by omega, by omega, HS2.out⟩
  case round =>
    clear HS2
    obtain ⟨i, rfl, HR⟩ := hrel
    obtain ⟨h1, h2, h3, h4, h5⟩ := HR.out
    by_cases hi : i < m
    · have ti : decide ((i : Int) < (m : Int)) = true := decide_eq_true (by omega)
      have c0 : wr.cell? ⟨w.heap.size, i, none⟩ = some (.int .i64 ((stL i i : Nat) : Int)) := by rw [h4.cell]; exact lcells_at _ hi
      have f0 : wr.frozen? ⟨w.heap.size, i, none⟩ = false := h4.frozen i
      have HS : Hid (gk = m - i ∧ Cl w.heap.size (lcells m (stL i)) 3 wr ∧ Below w.heap.size w wr) := ⟨h1, h4, h5⟩
      clear HR h1 h4 h5
      go_wp2
      go_roundg (m - (i + 1))
      case rel =>
        refine ⟨i + 1, by go_num, rfl, by omega, by omega, ?_, Below.setCell HS.out.2.2 (Nat.le_refl _) _⟩
        have := HS.out.2.1.set i (.int .i64 ((1000000000000000000 : Nat) : Int))
        rw [lcells_set _ _ hi, stL_next m i h2] at this
        exact this
      case measure => have := HS.out.1; omega
    · have ti : decide ((i : Int) < (m : Int)) = false := decide_eq_false (by omega)
      obtain rfl : i = m := by omega
      have HS : Hid (CO.G i l 0 (fun r => if r = 0 then 0 else 1000000000000000000) ∧ Cl w.heap.size (lcells i (fun r => if r = 0 then 0 else 1000000000000000000)) 3 wr ∧ Ro g o n (fun j => l.getD j 0) wr ∧ Below w.heap.size w wr) := by
        refine ⟨stL_end i l, ?_, HR0.out.belowA h5, h5⟩
        have e : lcells i (stL i) = lcells i (fun r => if r = 0 then 0 else 1000000000000000000) := lcells_congr (fun r hr => by
          unfold stL
          by_cases e0 : r = 0
          · rw [if_pos e0, if_pos e0]
          · rw [if_neg e0, if_neg e0, if_pos hr])
        rw [← e]; exact h4
      clear HR h1 h4 h5
      go_wp2
      go_loopg [21] n (fun gk kv wx => ∃ (k : Nat) (A : Nat → Nat), kv = .int .i64 k ∧ Hid (gk = n - k ∧ k ≤ n ∧ CO.G i l k A ∧ Cl w.heap.size (lcells i A) 3 wx ∧ Ro g o n (fun j => l.getD j 0) wx ∧ Below w.heap.size w wx))
      case atStart => exact ⟨0, _, rfl, by omega, by omega, HS.out⟩
      case round =>
        clear HS
        obtain ⟨k, A, rfl, HR⟩ := hrel
        obtain ⟨h1, h2', h3', h4, h5, h6⟩ := HR.out
        by_cases hk : k < n
        · have tk : decide ((k : Int) < (n : Int)) = true := decide_eq_true (by omega)
          have c0 : wr.cell? ⟨g, o + k, none⟩ = some (.int .i64 ((l.getD k 0 : Nat) : Int)) := h5.c k hk
          have HS : Hid (gk = n - k ∧ CO.G i l k A ∧ Cl w.heap.size (lcells i A) 3 wr ∧ Ro g o n (fun j => l.getD j 0) wr ∧ Below w.heap.size w wr) := ⟨h1, h3', h4, h5, h6⟩
          obtain ⟨x, hx⟩ : ∃ x : Nat, x = l.getD k 0 := ⟨_, rfl⟩
          have bx : 1 ≤ x ∧ x ≤ 1000 := by rw [hx]; exact HMj.out k hk
          have HA : Hid (Calls Try.prog 69 #[.slice (some ⟨w.heap.size, 0, none⟩) i i, .int .i64 (x : Int)] wr fun e w' => (∃ v, e = .returned v) ∧ ∃ L', CO.J i x A L' ∧ (∀ s, s < Nat.gcd i x → CO.Cy i x s L') ∧ Cl w.heap.size (lcells i L') 3 w' ∧ Below w.heap.size wr w') := addCoin_any i x A w.heap.size i wr hm bx h3'.le h4
          have HX : Hid (x = l.getD k 0) := hx
          rw [← hx] at c0
          clear HR h1 h3' h4 h5 h6 hx
          go_wp2_with fail
          refine HA.out.mono ?_
          rintro e w3 ⟨⟨v, rfl⟩, L', j1, j2, j3, j4⟩
          have HS3 : Hid (CO.G i l (k + 1) L' ∧ Cl w.heap.size (lcells i L') 3 w3 ∧ Ro g o n (fun j => l.getD j 0) w3 ∧ Below w.heap.size w w3) := by
            have hkl : k < l.length := by have := HN.out; omega
            have e : x = l[k] := by rw [HX.out, List.getD_eq_getElem?_getD, List.getElem?_eq_getElem hkl, Option.getD_some]
            rw [e] at j1 j2
            exact ⟨HS.out.2.1.next (by omega) hkl j1 j2, j3, HS.out.2.2.2.1.below j4 HR0.out.lt, HS.out.2.2.2.2.trans j4⟩
          clear j1 j2 j3 j4 c0
          go_wp2
          go_roundg (n - (k + 1))
          case rel => exact ⟨k + 1, L', by go_num, rfl, by omega, HS3.out⟩
          case measure => have := HS.out.1; omega
        · have tk : decide ((k : Int) < (n : Int)) = false := decide_eq_false (by omega)
          obtain rfl : k = n := by omega
          have HS : Hid (CO.G i l k A ∧ Cl w.heap.size (lcells i A) 3 wr ∧ Below w.heap.size w wr) := ⟨h3', h4, h6⟩
          clear HR h1 h3' h4 h5 h6
          go_wp2
          go_ret
          exact ⟨A, HS.out.1, rfl, HS.out.2⟩

theorem su_le {L : Nat → Nat} {m M : Nat} (hL : ∀ r, r < m → L r ≤ M) : ∀ i, i ≤ m → CO.su (fun r => L r / m) i ≤ i * M := fun i => by
  induction i with
  | zero => intro _; simp [CO.su]
  | succ i ih =>
    intro hi
    have a := ih (by omega)
    have b := hL i (by omega)
    have c := Nat.div_le_self (L i) m
    rw [CO.su, Nat.add_mul]; omega

set_option maxRecDepth 100000 in
set_option maxHeartbeats 4000000 in
theorem coins_any (l : List Nat) (g o cap : Nat) (w : World) (h0 : 1 ≤ l.length) (hl : l.length ≤ 1000) (hM : ∀ j, j < l.length → 1 ≤ l.getD j 0 ∧ l.getD j 0 ≤ 1000) (hg : CO.gl l = 1) (h : Ro g o l.length (fun j => l.getD j 0) w) :
    Calls Try.prog 41 #[.slice (some ⟨g, o, none⟩) l.length cap] w fun e w' => ∃ (m : Nat) (L : Nat → Nat), m = mn (fun j => l.getD j 0) (l.length - 1) ∧ CO.G m l l.length L ∧ e = .returned (.tuple #[.int .i64 ((mx L (m - 1) : Nat) - (m : Int)), .int .i64 (CO.su (fun r => L r / m) m : Nat)]) ∧ Below w.heap.size w w' := by
  obtain ⟨m, hm⟩ : ∃ m, m = mn (fun j => l.getD j 0) (l.length - 1) := ⟨_, rfl⟩
  have hmm : 1 ≤ m ∧ m ≤ 1000 ∧ m ∈ l := by
    obtain ⟨j, j1, j2⟩ := mn_at (fun j => l.getD j 0) (l.length - 1)
    rw [← hm] at j2
    have := hM j (by omega)
    have e : l.getD j 0 = l[j] := by rw [List.getD_eq_getElem?_getD, List.getElem?_eq_getElem (by omega), Option.getD_some]
    exact ⟨by rw [j2]; exact this.1, by rw [j2]; exact this.2, by rw [j2]; show l.getD j 0 ∈ l; rw [e]; exact List.getElem_mem _⟩
  have HF : Hid (∀ L, CO.G m l l.length L → CO.Fi m 1000 L) := fun L hG => CO.Fi.step (by omega) hmm.2.2 hG hg (fun c hc => by
    obtain ⟨j, hj, e⟩ := List.getElem_of_mem hc
    have := hM j hj
    rw [List.getD_eq_getElem?_getD, List.getElem?_eq_getElem hj, Option.getD_some, e] at this
    exact this.2) (Nat.le_refl _)
  have HMin : Hid (Calls Try.prog 55 #[.slice (some ⟨g, o, none⟩) l.length cap] w fun e w' => e = .returned (.int .i64 (m : Int)) ∧ w' = w) := by
    have := Min_any l.length g o cap (fun j => l.getD j 0) w h0 (by omega) h
    rw [← hm] at this
    exact this
  have HLs : Hid (Calls Try.prog 56 #[.slice (some ⟨g, o, none⟩) l.length cap, .int .i64 (m : Int)] w fun e w' => ∃ L, CO.G m l l.length L ∧ e = .returned (.slice (some ⟨w.heap.size, 0, none⟩) m m) ∧ Cl w.heap.size (lcells m L) 3 w' ∧ Below w.heap.size w w') := leastSums_any l m g o cap w (by omega) hl hM h
  have HE : Hid (m = mn (fun j => l.getD j 0) (l.length - 1)) := hm
  have hm1 : 1 ≤ m ∧ m ≤ 1000 := by omega
  have tm : ((m : Int) == 0) = false := beq_eq_false_iff_ne.2 (by omega)
  obtain ⟨n, hn⟩ : ∃ n, n = l.length := ⟨_, rfl⟩
  have HN : Hid (n = l.length) := hn
  rw [← hn] at HMin HLs hl
  rw [← hn]
  clear hm hmm hM hg h hn h0
  go_enter Try.func41, Try.ntmps41
  go_wp2_with fail
  refine HMin.out.mono ?_
  rintro e w' ⟨rfl, hw'⟩
  rw [hw']
  clear hw' w' HMin
  go_wp2_with fail
  refine HLs.out.mono ?_
  rintro e w1 ⟨L, hG, rfl, c1, k1⟩
  have HS : Hid (Cl w.heap.size (lcells m L) 3 w1 ∧ Below w.heap.size w w1 ∧ CO.G m l l.length L) := ⟨c1, k1, by rw [HN.out] at hG; exact hG⟩
  have HLb : Hid (∀ r, r < m → L r ≤ 1000000) := fun r hr => by
    have a := (HF.out L HS.out.2.2).le r hr
    have : (m - 1) * 1000 ≤ 1000 * 1000 := Nat.mul_le_mul (by omega) (Nat.le_refl _)
    omega
  have HMax : Hid (Calls Try.prog 57 #[.slice (some ⟨w.heap.size, 0, none⟩) m m] w1 fun e w' => e = .returned (.int .i64 (mx L (m - 1) : Nat)) ∧ w' = w1) := Max_any m w.heap.size 0 m L w1 hm1.1 (by omega) (Ro.of c1)
  have HMb : Hid (mx L (m - 1) ≤ 1000000) := by
    obtain ⟨j, j1, j2⟩ := mx_at L (m - 1)
    show _ ≤ _
    rw [j2]; exact HLb.out j (by omega)
  have HSu : Hid (∀ i, i ≤ m → CO.su (fun r => L r / m) i ≤ i * 1000000) := su_le HLb.out
  clear hG c1 k1 HLs
  go_wp2
  go_loopg [3, 15] m (fun gk sv iv wx => ∃ i : Nat, sv = .int .i64 (CO.su (fun r => L r / m) i : Nat) ∧ iv = .int .i64 i ∧ Hid (gk = m - i ∧ i ≤ m ∧ wx = w1))
  case atStart => exact ⟨0, rfl, rfl, by omega, by omega, rfl⟩
  case round =>
    obtain ⟨i, rfl, rfl, HR⟩ := hrel
    obtain ⟨h1, h2, hwr⟩ := HR.out
    rw [hwr]
    clear hwr HR
    have HK : Hid (gk = m - i) := h1
    clear h1
    by_cases hi : i < m
    · have ti : decide ((i : Int) < (m : Int)) = true := decide_eq_true (by omega)
      have c0 : w1.cell? ⟨w.heap.size, i, none⟩ = some (.int .i64 ((L i : Nat) : Int)) := by rw [HS.out.1.cell]; exact lcells_at _ hi
      obtain ⟨A, hA⟩ : ∃ A : Nat, A = CO.su (fun r => L r / m) i := ⟨_, rfl⟩
      obtain ⟨X, hX⟩ : ∃ A : Nat, A = L i := ⟨_, rfl⟩
      have bA : A ≤ 1000000000 := by rw [hA]; have := HSu.out i h2; omega
      have bX : X ≤ 1000000 := by rw [hX]; exact HLb.out i hi
      have hq : (X : Int).tdiv (m : Int) = ((X / m : Nat) : Int) := (Int.ofNat_tdiv X m).symm
      have hq2 : X / m ≤ X := Nat.div_le_self _ _
      obtain ⟨Y, hY⟩ : ∃ Y : Nat, Y = X / m := ⟨_, rfl⟩
      rw [← hY] at hq hq2
      have HE2 : Hid (CO.su (fun r => L r / m) (i + 1) = A + Y) := by show _ = _; rw [CO.su, hA, hY, hX]
      rw [← hX] at c0
      rw [← hA]
      clear hA hX hY
      go_wp2
      go_roundg (m - (i + 1))
      case rel => exact ⟨i + 1, by rw [HE2.out]; go_num, by go_num, rfl, by omega, rfl⟩
      case measure => have := HK.out; omega
    · have ti : decide ((i : Int) < (m : Int)) = false := decide_eq_false (by omega)
      obtain rfl : i = m := by omega
      have bM := HMb.out
      clear HK
      go_wp2_with fail
      refine HMax.out.mono ?_
      rintro e w' ⟨rfl, hw'⟩
      rw [hw']
      clear hw' w' HMax
      obtain ⟨M, hM⟩ : ∃ M : Nat, M = mx L (i - 1) := ⟨_, rfl⟩
      have HMM : Hid (M = mx L (i - 1)) := hM
      rw [← hM] at bM ⊢
      clear hM
      go_wp2
      refine bodyPost_ret (v := .tuple #[.int .i64 ((M : Int) - (i : Int)), .int .i64 (CO.su (fun r => L r / i) i : Nat)]) (by simp [results, Try.results41, go_sem]) rfl ?_
      refine ⟨i, L, by rw [HN.out]; exact HE.out, by rw [HN.out]; exact HS.out.2.2, ?_, HS.out.2.1⟩
      rw [← HMM.out]

end Go.Proofs.Ytcbepaionliepaa
