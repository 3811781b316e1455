import Derived.Test.YtmifenflbaohnaaDoorJnC
import Derived.Test.YtmifenflbaohnaaDoorPrimeL
import Derived.Test.YtmifenflbaohnaaDoorJnM
import Derived.Test.YtmifenflbaohnaaDoorRsK
import Derived.Test.YtmifenflbaohnaaDoorJnF
import Derived.Test.YtmifenflbaohnaaDoorTxA
import Derived.Test.YtmifenflbaohnaaDoorWholeD
import Derived.Deep.LoopGhost
import Derived.Test.YtmifenflbaohnaaDoorSv
import Derived.BigQuiet
section
/- padic.valueAt. -/
set_option linter.unusedSimpArgs false
set_option linter.unusedVariables false
set_option maxRecDepth 100000
namespace Go.Proofs.YtmifenflbaohnaaDoor
open Go.RowKit

theorem IS.ownP {w : World} {base k : Nat} {v : Value} {l : List Int} (hk : l.length = k) (h : w.ownsRow base 3 1 v k (ints l)) : IS w v l := by
  subst hk
  obtain ⟨h1, h2⟩ := h
  rcases h2 with ⟨h3, h4⟩ | ⟨g, cap, cur, h3, h4, h5, h6⟩
  · subst h3
    exact ⟨none, 0, 0, 0, by rw [h4], fun h => by omega, fun i hi => by omega, fun h => by omega⟩
  · have hrow : w.ownsRow base 3 1 v l.length (ints l) := ⟨h1, .inr ⟨g, cap, cur, h3, h4, h5, h6⟩⟩
    subst h3
    refine ⟨some ⟨g, 0, none⟩, g, 0, cap, rfl, fun _ => rfl, fun i hi => ?_, fun _ => (hrow.lt g rfl).2⟩
    rw [Nat.zero_add, hrow.cellAt i (by omega), ints, List.getElem?_map, List.getD_eq_getElem?_getD, List.getElem?_eq_getElem hi]; rfl
theorem IS.belowP {w w' : World} {s : Value} {xs : List Int} (h : IS w s xs) (k : Below w.heap.size w w') : IS w' s xs := by
  obtain ⟨aa, g, o, cap, h1, h2, h3, h4⟩ := h
  exact ⟨aa, g, o, cap, h1, h2, fun i hi => (k.cell (p := ⟨g, o + i, none⟩) (h4 (by omega))).trans (h3 i hi), fun hp => Nat.lt_of_lt_of_le (h4 hp) k.size⟩

theorem horner {a x p : Int} {v X T m : Nat} (h0 : 0 < m) (hv : (v : Int) = p % m) (hX : (X : Int) = x % m) (hT : (T : Int) = a % m) : (((v * X % m + T) % m : Nat) : Int) = (a + x * p) % m := by
  push_cast
  rw [Int.emod_add_emod]
  have e1 := Int.emod_add_mul_ediv p m
  have e2 := Int.emod_add_mul_ediv x m
  have e3 := Int.emod_add_mul_ediv a m
  rw [← hv] at e1
  rw [← hX] at e2
  rw [← hT] at e3
  obtain ⟨k1, hk1⟩ : ∃ k, k = p / m := ⟨_, rfl⟩
  obtain ⟨k2, hk2⟩ : ∃ k, k = x / m := ⟨_, rfl⟩
  obtain ⟨k3, hk3⟩ : ∃ k, k = a / m := ⟨_, rfl⟩
  rw [← hk1] at e1
  rw [← hk2] at e2
  rw [← hk3] at e3
  have e : a + x * p = (v * X + T) + m * (k3 + X * k1 + k2 * p) := by rw [← e3, ← e2]; rw [← e1]; grind
  rw [e, Int.add_mul_emod_self_left]

end Go.Proofs.YtmifenflbaohnaaDoor
end

section
/- The reference: Times, TurnedOf, PartitionFault. -/
set_option linter.unusedSimpArgs false
set_option linter.unusedVariables false
set_option maxRecDepth 100000
namespace Go.Proofs.YtmifenflbaohnaaDoor
open Go.RowKit

theorem Tryd.infoIntT : (Tryd.prog.info? 3).map (fun i => (i.zero, i.size, i.bytes)) = some (some (.int .i64 0), 1, 8) := by kernel_rfl
theorem IS.open' {w : World} {v : Value} {l : List Int} (h : IS w v l) : ∃ (aa : Option Addr) (g o cap : Nat), v = .slice aa l.length cap ∧ (0 < l.length → aa = some ⟨g, o, none⟩) ∧ ∀ W, Below w.heap.size w W → ∀ i, i < l.length → W.cell? ⟨g, o + i, none⟩ = some (.int .i64 (l.getD i 0)) := by
  obtain ⟨aa, g, o, cap, h1, h2, h3, h4⟩ := h.shape
  exact ⟨aa, g, o, cap, h1, h2, fun W k i hi => (k.cell (p := ⟨g, o + i, none⟩) (h4 (by omega))).trans (h3 i hi)⟩

set_option maxHeartbeats 1000000 in
theorem refTimes_any (v : Value) (l : List Int) (n : Int) (w : World) (h : IS w v l) (hl : l.length ≤ 1000000) :
    Calls Tryd.prog 36 #[v, .int .i64 n] w fun e w' => e = .returned (.int .i64 (PT.cnt l n : Int)) ∧ w' = w := by
  obtain ⟨aa, g, o, cap, rfl, ha, hc⟩ := h.open'
  have HA : Hid (0 < l.length → aa = some ⟨g, o, none⟩) := ha
  have HC : Hid (∀ i, i < l.length → w.cell? ⟨g, o + i, none⟩ = some (.int .i64 (l.getD i 0))) := hc w (Below.refl _ _)
  obtain ⟨N, hN⟩ : ∃ N, N = l.length := ⟨_, rfl⟩
  have HN : Hid (N = l.length) := hN
  rw [← hN] at hl
  rw [← hN]
  clear h ha hc hN
  go_enter Tryd.func36, Tryd.ntmps36
  go_wp2
  go_loopg [5, 6] N (fun gk cv iv wx => ∃ i c : Nat, cv = .int .i64 (c : Int) ∧ iv = .int .i64 (i : Int) ∧ Hid (gk = N - i ∧ i ≤ N ∧ c = PT.cnt (l.take i) n ∧ c ≤ i ∧ wx = w))
  case atStart => exact ⟨0, 0, rfl, rfl, by omega, by omega, rfl, Nat.le_refl _, rfl⟩
  case round =>
    obtain ⟨i, c, rfl, rfl, HR⟩ := hrel
    obtain ⟨h1, h2, h3, h4, hw⟩ := HR.out
    rw [hw]
    have HK : Hid (gk = N - i) := h1
    have HCc : Hid (c = PT.cnt (l.take i) n) := h3
    clear HR h1 h3 hw
    by_cases hi : i < N
    · have ti : decide ((i : Int) < (N : Int)) = true := decide_eq_true (by omega)
      have hil : i < l.length := by have := HN.out; omega
      obtain rfl := HA.out (by omega)
      have c0 := HC.out i hil
      have HS : Hid (PT.cnt (l.take (i + 1)) n = PT.cnt (l.take i) n + (if l.getD i 0 = n then 1 else 0)) := PT.cnt_take hil
      obtain ⟨x, hx⟩ : ∃ x, l.getD i 0 = x := ⟨_, rfl⟩
      rw [hx] at c0 HS
      clear hx
      have x1 : (i : Int) < (N : Int) := by omega
      by_cases e : x = n
      · have te : (x == n) = true := beq_iff_eq.2 e
        have HS2 : Hid (c + 1 = PT.cnt (l.take (i + 1)) n) := by show _ = _; rw [HS.out, if_pos e, HCc.out]
        clear e HS
        go_wp2
        go_roundg (N - (i + 1))
        case rel => exact ⟨i + 1, c + 1, by go_num, by go_num, rfl, by omega, HS2.out, by omega, rfl⟩
        case measure => have := HK.out; omega
      · have te : (x == n) = false := beq_eq_false_iff_ne.2 e
        have HS2 : Hid (c = PT.cnt (l.take (i + 1)) n) := by show _ = _; rw [HS.out, if_neg e, HCc.out]; rfl
        clear e HS
        go_wp2
        go_roundg (N - (i + 1))
        case rel => exact ⟨i + 1, c, rfl, by go_num, rfl, by omega, HS2.out, by omega, rfl⟩
        case measure => have := HK.out; omega
    · have ti : decide ((i : Int) < (N : Int)) = false := decide_eq_false (by omega)
      have HE : Hid (c = PT.cnt l n) := by
        show _ = _
        rw [HCc.out, List.take_of_length_le (by have := HN.out; omega)]
      go_wp2
      go_ret
      exact ⟨by rw [← HE.out]; rfl, rfl⟩

/-- The parts of the turned partition. -/
def PT.tl (l : List Int) : Nat → List Int
  | 0 => []
  | k + 1 => PT.tl l k ++ [((PT.tge l ((k + 1 : Nat) : Int) : Nat) : Int)]
theorem PT.tl_len (l : List Int) (k : Nat) : (PT.tl l k).length = k := by
  induction k with
  | zero => rfl
  | succ k ih => rw [PT.tl, List.length_append, ih]; rfl

set_option maxRecDepth 100000 in
set_option maxHeartbeats 2000000 in
theorem refTurnedOf_any (v : Value) (l : List Int) (K : Nat) (w : World) (h : IS w v l) (hl : l.length ≤ 1000000) (hK : K ≤ 1000000) (hp : ∀ k, 1 ≤ k → k ≤ K → 0 < PT.tge l (k : Int)) (hz : PT.tge l ((K + 1 : Nat) : Int) = 0) :
    Calls Tryd.prog 18 #[v] w fun e w' => ∃ v', e = .returned v' ∧ w'.ownsRow w.heap.size 3 1 v' K (ints (PT.tl l K)) ∧ Below w.heap.size w w' := by
  obtain ⟨aa, g, o, cap, rfl, ha, hc⟩ := h.open'
  have HA : Hid (0 < l.length → aa = some ⟨g, o, none⟩) := ha
  have HC : Hid (∀ W, Below w.heap.size w W → ∀ i, i < l.length → W.cell? ⟨g, o + i, none⟩ = some (.int .i64 (l.getD i 0))) := hc
  have HPp : Hid (∀ k, 1 ≤ k → k ≤ K → 0 < PT.tge l (k : Int)) := hp
  have HZ : Hid (PT.tge l ((K + 1 : Nat) : Int) = 0) := hz
  obtain ⟨N, hN⟩ : ∃ N, N = l.length := ⟨_, rfl⟩
  have HN : Hid (N = l.length) := hN
  obtain ⟨k0, hk, hx0, hx1, hx2⟩ := info_parts Tryd.infoIntT
  have HP : Hid (Tryd.prog.info? 3 = some k0 ∧ k0.zero = some (.int .i64 0) ∧ k0.size = 1 ∧ k0.bytes = 8) := ⟨hk, hx0, hx1, hx2⟩
  rw [← hN] at hl
  rw [← hN]
  clear h ha hc hN hp hz hk hx0 hx1 hx2
  go_enter Tryd.func18, Tryd.ntmps18
  go_wp2
  go_loopg [3, 4] (K + 1) (fun gk ov kv wx => ∃ (v : Value) (k : Nat), ov = v ∧ kv = .int .i64 ((k + 1 : Nat) : Int) ∧ Hid (gk = K + 1 - k ∧ k ≤ K ∧ wx.ownsRow w.heap.size 3 1 v k (ints (PT.tl l k)) ∧ Below w.heap.size w wx))
  case atStart => exact ⟨_, 0, rfl, rfl, by omega, by omega, ⟨rfl, .inl ⟨rfl, rfl⟩⟩, Below.refl _ _⟩
  case round =>
    obtain ⟨v, k, hv, rfl, HR⟩ := hrel
    have hv2 := hv.symm
    clear hv
    subst hv2
    obtain ⟨h1, h2, h3, h4⟩ := HR.out
    have HKk : Hid (gk = K + 1 - k) := h1
    have HO : Hid (wr.ownsRow w.heap.size 3 1 v k (ints (PT.tl l k)) ∧ Below w.heap.size w wr) := ⟨h3, h4⟩
    have HWr : Hid (∀ i, i < l.length → wr.cell? ⟨g, o + i, none⟩ = some (.int .i64 (l.getD i 0))) := HC.out wr h4
    obtain ⟨wq, hwq⟩ : ∃ wq, wq = wr := ⟨_, rfl⟩
    rw [← hwq] at HO HWr
    rw [← hwq]
    obtain ⟨Kk, hKk⟩ : ∃ Kk, Kk = k + 1 := ⟨_, rfl⟩
    have HKe : Hid (Kk = k + 1) := hKk
    have bK : Kk ≤ 1000001 := by omega
    rw [← hKk]
    clear HR h1 h3 h4 hwq hKk
    go_wp2
    go_loopg [5, 6] N (fun gj nv iv wx => ∃ i c : Nat, nv = .int .i64 (c : Int) ∧ iv = .int .i64 (i : Int) ∧ Hid (gj = N - i ∧ i ≤ N ∧ c = PT.tge (l.take i) (Kk : Int) ∧ c ≤ i ∧ wx = wq))
    case atStart => exact ⟨0, 0, rfl, rfl, rfl, by omega, rfl, Nat.le_refl _, rfl⟩
    case round =>
      obtain ⟨i, c, rfl, rfl, HR⟩ := hrel
      obtain ⟨h1, h2', h3, h4, hw⟩ := HR.out
      rw [hw]
      have HK : Hid (gk = N - i) := h1
      have HCc : Hid (c = PT.tge (l.take i) (Kk : Int)) := h3
      clear HR h1 h3 hw
      by_cases hi : i < N
      · have ti : decide ((i : Int) < (N : Int)) = true := decide_eq_true (by omega)
        have hil : i < l.length := by have := HN.out; omega
        obtain rfl := HA.out (by omega)
        have c0 := HWr.out i hil
        have HS : Hid (PT.tge (l.take (i + 1)) (Kk : Int) = PT.tge (l.take i) (Kk : Int) + (if (Kk : Int) ≤ l.getD i 0 then 1 else 0)) := PT.tge_take hil
        obtain ⟨x, hx⟩ : ∃ x, l.getD i 0 = x := ⟨_, rfl⟩
        rw [hx] at c0 HS
        clear hx
        have x1 : (i : Int) < (N : Int) := by omega
        by_cases e : (Kk : Int) ≤ x
        · have te : decide ((Kk : Int) ≤ x) = true := decide_eq_true e
          have HS2 : Hid (c + 1 = PT.tge (l.take (i + 1)) (Kk : Int)) := by show _ = _; rw [HS.out, if_pos e, HCc.out]
          clear e HS
          go_wp2
          go_roundg (N - (i + 1))
          case rel => exact ⟨i + 1, c + 1, by go_num, by go_num, rfl, by omega, HS2.out, by omega, rfl⟩
          case measure => have := HK.out; omega
        · have te : decide ((Kk : Int) ≤ x) = false := decide_eq_false e
          have HS2 : Hid (c = PT.tge (l.take (i + 1)) (Kk : Int)) := by show _ = _; rw [HS.out, if_neg e, HCc.out]; rfl
          clear e HS
          go_wp2
          go_roundg (N - (i + 1))
          case rel => exact ⟨i + 1, c, rfl, by go_num, rfl, by omega, HS2.out, by omega, rfl⟩
          case measure => have := HK.out; omega
      · have ti : decide ((i : Int) < (N : Int)) = false := decide_eq_false (by omega)
        have HE : Hid (c = PT.tge l (Kk : Int)) := by
          show _ = _
          rw [HCc.out, List.take_of_length_le (by have := HN.out; omega)]
        by_cases hkK : k = K
        · have hc0 : c = 0 := by rw [HE.out, HKe.out, hkK]; exact HZ.out
          have tc : ((c : Int) == 0) = true := beq_iff_eq.2 (by omega)
          have HF : Hid (wq.ownsRow w.heap.size 3 1 v K (ints (PT.tl l K)) ∧ Below w.heap.size w wq) := by rw [← hkK]; exact HO.out
          clear hc0 hkK
          go_wp2
          go_ret
          exact ⟨_, rfl, HF.out⟩
        · have hc0 : 0 < c := by rw [HE.out, HKe.out]; exact HPp.out (k + 1) (by omega) (by omega)
          have tc : ((c : Int) == 0) = false := beq_eq_false_iff_ne.2 (by omega)
          have HT : Hid (PT.tl l (k + 1) = PT.tl l k ++ [(c : Int)]) := by show _ = _; rw [PT.tl, ← HKe.out, ← HE.out]
          have HLn : Hid (k ≤ 1000000) := by show _ ≤ _; omega
          go_wp2_with (at_builtin; refine wpList_append_own _ rfl _ _ 36 rfl w.heap.size 3 k0 (.int .i64 0) 1 8 Tryd.underlying36 HP.out.1 HP.out.2.1 HP.out.2.2.1 HP.out.2.2.2 rfl (by decide) v k (ints (PT.tl l k)) rfl (HO.out.1.alloc _) ⟨wq.heap.size, 0, none⟩ 1 1 [.int .i64 (c : Int)] rfl rfl (own_news (Cl.new [.int .i64 (c : Int)] 3 wq)) (by simp [Value.oneCell']) (by have := HLn.out; simp only [maxLen]; omega) (by have := HLn.out; omega) (by have := HO.out.2.size; simp; omega) ?_; intro v' w6 hown' hgrow _; have HO6 : Hid (w6.ownsRow w.heap.size 3 1 v' (k + 1) (ints (PT.tl l (k + 1))) ∧ Below w.heap.size w w6) := ⟨by rw [HT.out, ints, List.map_append]; exact hown', (Below.alloc HO.out.2 HO.out.2.size _).grown hgrow (by have := HO.out.2.size; simp; omega) (fun j hj => (HO.out.1.lt j hj).1)⟩; clear hown' hgrow)
          go_roundg (K + 1 - (k + 1))
          case rel => exact ⟨_, k + 1, rfl, by rw [HKe.out]; go_num, rfl, by omega, HO6.out⟩
          case measure => have := HKk.out; omega

end Go.Proofs.YtmifenflbaohnaaDoor
end

section
/- Plain facts: partitions without a fault; the turned partition. -/
set_option linter.unusedSimpArgs false
set_option linter.unusedVariables false
set_option maxRecDepth 100000
namespace Go.Proofs.YtmifenflbaohnaaDoor
namespace PT

/-- A partition without a fault. -/
structure Vp (l : List Int) : Prop where
  len : l.length ≤ 1000
  rng : ∀ j, j < l.length → 1 ≤ l.getD j 0 ∧ l.getD j 0 ≤ 2000
  dn : ∀ j, j + 1 < l.length → l.getD (j + 1) 0 ≤ l.getD j 0
  sum : l.sum ≤ 2000
theorem sum_nn : ∀ {l : List Int}, (∀ j, j < l.length → 1 ≤ l.getD j 0) → 0 ≤ l.sum
  | [], _ => by simp
  | x :: r, h => by
    have h1 := h 0 (by simp)
    have h2 := sum_nn (l := r) (fun j hj => by have := h (j + 1) (by simp; omega); simpa using this)
    simp only [List.sum_cons]
    simp at h1
    omega
theorem take_sum_le {l : List Int} (h : ∀ j, j < l.length → 1 ≤ l.getD j 0) (i : Nat) : (l.take i).sum ≤ l.sum := by
  have e : l.sum = (l.take i).sum + (l.drop i).sum := by rw [← List.sum_append, List.take_append_drop]
  have := sum_nn (l := l.drop i) (fun j hj => by
    have := h (i + j) (by simp at hj; omega)
    rw [List.getD_eq_getElem?_getD] at this ⊢
    rw [List.getElem?_drop]; exact this)
  omega
theorem vp_at {l : List Int} (h : Vp l) : ∀ i, i ≤ l.length → At l i
  | 0, _ => At.zero l
  | i + 1, hi => by
    have a := vp_at h i (by omega)
    obtain ⟨r1, r2⟩ := h.rng i (by omega)
    refine a.step (by omega) r1 r2 ?_ ?_
    · rintro ⟨q1, q2⟩
      obtain ⟨p, rfl⟩ : ∃ p, i = p + 1 := ⟨i - 1, by omega⟩
      rw [prv_s] at q2
      have := h.dn p (by omega)
      omega
    · rw [← sum_s (by omega)]
      exact Int.le_trans (take_sum_le (fun j hj => (h.rng j hj).1) _) h.sum
theorem vp_pf {l : List Int} (h : Vp l) : pf l = (0, 0) := by
  unfold pf
  rw [if_neg (by have := h.len; omega)]
  exact (vp_at h l.length (Nat.le_refl _)).fin
/-- What the fault says. -/
theorem pfr_ok : ∀ (l : List Int) (i : Nat) (p s : Int), pfr i p s l = (0, 0) → (∀ j, j < l.length → 1 ≤ l.getD j 0 ∧ l.getD j 0 ≤ 2000) ∧ (∀ j, j + 1 < l.length → l.getD (j + 1) 0 ≤ l.getD j 0) ∧ (0 < i → 0 < l.length → l.getD 0 0 ≤ p) ∧ (0 < l.length → s + l.sum ≤ 2000)
  | [], i, p, s, _ => ⟨fun j hj => by simp at hj, fun j hj => by simp at hj, fun _ h => by simp at h, fun h => by simp at h⟩
  | x :: r, i, p, s, h => by
    rw [pfr] at h
    by_cases h1 : x < 1 ∨ 2000 < x
    · rw [if_pos h1] at h; simp at h
    · rw [if_neg h1] at h
      by_cases h2 : 0 < i ∧ p < x
      · rw [if_pos h2] at h; simp at h
      · rw [if_neg h2] at h
        by_cases h3 : 2000 < s + x
        · rw [if_pos h3] at h; simp at h
        · rw [if_neg h3] at h
          obtain ⟨a, b, c, d⟩ := pfr_ok r (i + 1) x (s + x) h
          refine ⟨fun j hj => ?_, fun j hj => ?_, fun hi _ => ?_, fun _ => ?_⟩
          · cases j with
            | zero => simp; omega
            | succ j => simpa using a j (by simpa using hj)
          · cases j with
            | zero => simpa using c (by omega) (by simpa using hj)
            | succ j => simpa using b j (by simpa using hj)
          · simp; omega
          · by_cases hr : 0 < r.length
            · have := d hr; simp; omega
            · have : r = [] := List.eq_nil_of_length_eq_zero (by omega)
              subst this; simp; omega
theorem pf_vp {l : List Int} (h : pf l = (0, 0)) : Vp l := by
  unfold pf at h
  by_cases h0 : 1000 < l.length
  · rw [if_pos h0] at h; simp at h
  · rw [if_neg h0] at h
    obtain ⟨a, b, _, d⟩ := pfr_ok l 0 0 0 h
    refine ⟨by omega, a, b, ?_⟩
    by_cases hl : 0 < l.length
    · have := d hl; omega
    · have : l = [] := List.eq_nil_of_length_eq_zero (by omega)
      subst this; simp
theorem pf_zero {l : List Int} (h : (pf l).1 = 0) : pf l = (0, 0) := by
  unfold pf at h ⊢
  by_cases h0 : 1000 < l.length
  · rw [if_pos h0] at h; simp at h
  · rw [if_neg h0] at h ⊢
    have key : ∀ (l : List Int) (i : Nat) (p s : Int), (pfr i p s l).1 = 0 → pfr i p s l = (0, 0) := by
      intro l
      induction l with
      | nil => intro i p s _; rfl
      | cons x r ih =>
        intro i p s h
        rw [pfr] at h ⊢
        by_cases h1 : x < 1 ∨ 2000 < x
        · rw [if_pos h1] at h; simp at h
        · rw [if_neg h1] at h ⊢
          by_cases h2 : 0 < i ∧ p < x
          · rw [if_pos h2] at h; simp at h
          · rw [if_neg h2] at h ⊢
            by_cases h3 : 2000 < s + x
            · rw [if_pos h3] at h; simp at h
            · rw [if_neg h3] at h ⊢; exact ih _ _ _ h
    exact key l 0 0 0 h
theorem dn_le {l : List Int} (h : Vp l) : ∀ i k, i + k < l.length → l.getD (i + k) 0 ≤ l.getD i 0
  | i, 0, _ => Int.le_refl _
  | i, k + 1, hk => Int.le_trans (h.dn (i + k) (by omega)) (dn_le h i k (by omega))
/-- At least k: just the first ones. -/
theorem tge_iff {l : List Int} (h : Vp l) (k : Int) (i : Nat) : i < tge l k ↔ i < l.length ∧ k ≤ l.getD i 0 := by
  have key : ∀ n, n ≤ l.length → ∀ i, (i < tge (l.take n) k ↔ i < n ∧ k ≤ l.getD i 0) := by
    intro n
    induction n with
    | zero => intro _ i; simp [tge]
    | succ n ih =>
      intro hn i
      have ih := ih (by omega)
      rw [tge_take (by omega)]
      by_cases hk : k ≤ l.getD n 0
      · have e : tge (l.take n) k = n := by
          have h1 := tge_le l k n
          rcases Nat.lt_or_ge (tge (l.take n) k) n with h2 | h2
          · have h3 := (ih (tge (l.take n) k)).2 ⟨h2, by
              have := dn_le h (tge (l.take n) k) (n - tge (l.take n) k) (by omega)
              rw [show tge (l.take n) k + (n - tge (l.take n) k) = n by omega] at this
              omega⟩
            omega
          · omega
        rw [if_pos hk, e]
        constructor
        · intro hi
          refine ⟨hi, ?_⟩
          have := dn_le h i (n - i) (by omega)
          rw [show i + (n - i) = n by omega] at this
          omega
        · exact fun hi => hi.1
      · rw [if_neg hk, Nat.add_zero, ih i]
        constructor
        · rintro ⟨a, b⟩; exact ⟨by omega, b⟩
        · rintro ⟨a, b⟩
          refine ⟨?_, b⟩
          rcases Nat.lt_or_ge i n with q | q
          · exact q
          · obtain rfl : i = n := by omega
            exact absurd b hk
  have := key l.length (Nat.le_refl _) i
  rwa [List.take_length] at this
/-- The greatest part. -/
def mx (l : List Int) : Nat := (l.getD 0 0).toNat
/-- The turned partition. -/
def trn (l : List Int) : List Int := tl l (mx l)
theorem tl_map (l : List Int) (k : Nat) : tl l k = (List.range k).map fun j => (tge l ((j + 1 : Nat) : Int) : Int) := by
  induction k with
  | zero => rfl
  | succ k ih => rw [tl, ih, List.range_succ, List.map_append]; rfl
theorem tl_get {l : List Int} {k j : Nat} (h : j < k) : (tl l k).getD j 0 = (tge l ((j + 1 : Nat) : Int) : Int) := by
  rw [tl_map, List.getD_eq_getElem?_getD]; simp [h]
theorem mx_le {l : List Int} (h : Vp l) : mx l ≤ 2000 := by
  unfold mx
  by_cases h0 : 0 < l.length
  · have := h.rng 0 h0; omega
  · have : l = [] := List.eq_nil_of_length_eq_zero (by omega)
    subst this; simp
theorem mx_pos {l : List Int} (h : Vp l) {k : Nat} (h1 : 1 ≤ k) (h2 : k ≤ mx l) : 0 < tge l (k : Int) := by
  unfold mx at h2
  rw [tge_iff h]
  by_cases h0 : 0 < l.length
  · refine ⟨h0, by omega⟩
  · have : l = [] := List.eq_nil_of_length_eq_zero (by omega)
    subst this; simp at h2; omega
theorem mx_end {l : List Int} (h : Vp l) : tge l ((mx l + 1 : Nat) : Int) = 0 := by
  unfold mx
  rcases Nat.eq_zero_or_pos (tge l (((l.getD 0 0).toNat + 1 : Nat) : Int)) with h1 | h1
  · exact h1
  · have := (tge_iff h _ 0).1 h1
    omega
theorem trn_len (l : List Int) : (trn l).length = mx l := tl_len l _
theorem tl_sum (l : List Int) (h : ∀ x ∈ l, 0 ≤ x) : ∀ K : Nat, (tl l K).sum = (l.map fun x => min x (K : Int)).sum := by
  intro K
  induction K with
  | zero =>
    have : (l.map fun x => min x ((0 : Nat) : Int)) = l.map fun _ => 0 := List.map_congr_left (fun x hx => by have := h x hx; omega)
    rw [this]
    have z : ∀ l : List Int, (l.map fun _ => (0 : Int)).sum = 0 := fun l => by induction l with
      | nil => rfl
      | cons x r ih => rw [List.map_cons, List.sum_cons, ih]; rfl
    rw [z]; rfl
  | succ K ih =>
    rw [tl, List.sum_append, ih]
    clear ih
    unfold tge
    induction l with
    | nil => simp
    | cons x r ihr =>
      have hx := h x (by simp)
      have ihr := ihr (fun y hy => h y (by simp [hy]))
      simp only [List.map_cons, List.sum_cons, List.sum_nil, List.countP_cons] at ihr ⊢
      by_cases e : ((K + 1 : Nat) : Int) ≤ x
      · rw [decide_eq_true e] at *
        simp only [if_true] at *
        rw [show min x ((K + 1 : Nat) : Int) = ((K + 1 : Nat) : Int) by omega, show min x ((K : Nat) : Int) = (K : Int) by omega]
        omega
      · rw [decide_eq_false e] at *
        simp only [Bool.false_eq_true, if_false] at *
        rw [show min x ((K + 1 : Nat) : Int) = x by omega, show min x ((K : Nat) : Int) = x by omega]
        omega
theorem trn_sum {l : List Int} (h : Vp l) : (trn l).sum = l.sum := by
  unfold trn
  have hm : ∀ x ∈ l, 0 ≤ x ∧ x ≤ (mx l : Int) := fun x hx => by
    obtain ⟨i, hi, e⟩ := List.getElem_of_mem hx
    have h1 := h.rng i hi
    have h2 := dn_le h 0 i (by omega)
    have h3 := h.rng 0 (by omega)
    rw [Nat.zero_add] at h2
    have e2 : l.getD i 0 = x := by rw [List.getD_eq_getElem?_getD, List.getElem?_eq_getElem hi]; exact e
    unfold mx
    omega
  rw [tl_sum l (fun x hx => (hm x hx).1)]
  congr 1
  have : (l.map fun x => min x (mx l : Int)) = l.map id := List.map_congr_left (fun x hx => by have := hm x hx; simp; omega)
  rw [this]; simp
theorem tge_len (l : List Int) (k : Int) : tge l k ≤ l.length := List.countP_le_length
/-- The turned partition is one, but for its length. -/
theorem trn_vp {l : List Int} (h : Vp l) (hl : mx l ≤ 1000) : Vp (trn l) := by
  refine ⟨by rw [trn_len]; exact hl, fun j hj => ?_, fun j hj => ?_, by rw [trn_sum h]; exact h.sum⟩
  · rw [trn_len] at hj
    unfold trn
    rw [tl_get hj]
    have h1 := mx_pos h (k := j + 1) (by omega) (by omega)
    have h2 := tge_len l ((j + 1 : Nat) : Int)
    have h3 := h.len
    omega
  · rw [trn_len] at hj
    unfold trn
    rw [tl_get hj, tl_get (by omega)]
    have := tge_mono l (k := ((j + 1 : Nat) : Int)) (j := ((j + 1 + 1 : Nat) : Int)) (by omega)
    omega
theorem cnt_range (n K : Nat) (h : n ≤ K) : (List.range K).countP (fun j => decide (j + 1 ≤ n)) = n := by
  induction K generalizing n with
  | zero => simp; omega
  | succ K ih =>
    rw [List.range_succ, List.countP_append, List.countP_singleton]
    by_cases e : n = K + 1
    · subst e
      have : (List.range K).countP (fun j => decide (j + 1 ≤ K + 1)) = (List.range K).countP (fun j => decide (j + 1 ≤ K)) := by
        apply List.countP_congr
        intro x hx
        have := List.mem_range.1 hx
        simp; omega
      rw [this, ih K (Nat.le_refl _)]; simp
    · rw [ih n (by omega), if_neg (by simp; omega), Nat.add_zero]
/-- Turned twice it is what it was. -/
theorem trn_trn {l : List Int} (h : Vp l) : trn (trn l) = l := by
  have hml : mx (trn l) = l.length := by
    by_cases h0 : 0 < l.length
    · have h1 := h.rng 0 h0
      have hm : 0 < mx l := by unfold mx; omega
      have e : (trn l).getD 0 0 = (tge l 1 : Int) := by unfold trn; rw [tl_get hm]; rfl
      have e2 : tge l 1 = l.length := by
        have a := tge_len l 1
        rcases Nat.lt_or_ge (tge l 1) l.length with q | q
        · have := (tge_iff h 1 (tge l 1)).2 ⟨q, (h.rng _ q).1⟩
          omega
        · omega
      show ((trn l).getD 0 0).toNat = _
      rw [e, e2]; omega
    · have : l = [] := List.eq_nil_of_length_eq_zero (by omega)
      subst this; rfl
  have el : (trn (trn l)).length = l.length := by rw [trn_len, hml]
  apply List.ext_getElem el
  intro i h1 h2
  have g1 : (trn (trn l)).getD i 0 = l.getD i 0 := by
    show (tl (trn l) (mx (trn l))).getD i 0 = _
    rw [tl_get (by rw [hml]; exact h2)]
    have hr := h.rng i h2
    have e3 : tge (trn l) ((i + 1 : Nat) : Int) = (l.getD i 0).toNat := by
      unfold tge trn
      rw [tl_map, List.countP_map]
      have e4 : (List.range (mx l)).countP ((fun x => decide (((i + 1 : Nat) : Int) ≤ x)) ∘ fun j => (tge l ((j + 1 : Nat) : Int) : Int)) = (List.range (mx l)).countP (fun j => decide (j + 1 ≤ (l.getD i 0).toNat)) := by
        apply List.countP_congr
        intro j _
        simp only [Function.comp, decide_eq_true_eq]
        have := tge_iff h ((j + 1 : Nat) : Int) i
        constructor
        · intro q
          have := (this.1 (by omega)).2
          omega
        · intro q
          have := this.2 ⟨h2, by omega⟩
          omega
      rw [e4]
      refine cnt_range _ _ ?_
      unfold mx
      have := dn_le h 0 i (by omega)
      rw [Nat.zero_add] at this
      omega
    rw [e3]; omega
  rw [List.getD_eq_getElem?_getD, List.getD_eq_getElem?_getD, List.getElem?_eq_getElem h1, List.getElem?_eq_getElem h2] at g1
  exact g1

end PT
end Go.Proofs.YtmifenflbaohnaaDoor
end

section
/- The reference: PartitionFault. -/
set_option linter.unusedSimpArgs false
set_option linter.unusedVariables false
set_option maxRecDepth 100000
namespace Go.Proofs.YtmifenflbaohnaaDoor
open Go.RowKit

set_option maxRecDepth 100000 in
set_option maxHeartbeats 2000000 in
theorem refPartitionFault_any (v : Value) (l : List Int) (w : World) (h : IS w v l) (hl0 : l.length ≤ 140737488355328) (hb : ∀ x ∈ l, -9223372036854775808 ≤ x ∧ x ≤ 9223372036854775807) :
    Calls Tryd.prog 16 #[v] w fun e w' => e = .returned (.agg #[.int .i64 (PT.pf l).1, .int .i64 (PT.pf l).2]) ∧ Below w.heap.size w w' := by
  obtain ⟨aa, g, o, cap, rfl, ha, hc⟩ := h.open'
  have HA : Hid (0 < l.length → aa = some ⟨g, o, none⟩) := ha
  have HC : Hid (∀ W, Below w.heap.size w W → ∀ i, i < l.length → W.cell? ⟨g, o + i, none⟩ = some (.int .i64 (l.getD i 0))) := hc
  have HBd : Hid (∀ i, i < l.length → -9223372036854775808 ≤ l.getD i 0 ∧ l.getD i 0 ≤ 9223372036854775807) := fun i hi => by
    rw [List.getD_eq_getElem?_getD, List.getElem?_eq_getElem hi]; exact hb _ (List.getElem_mem hi)
  obtain ⟨N, hN⟩ : ∃ N, N = l.length := ⟨_, rfl⟩
  have HN : Hid (N = l.length) := hN
  rw [← hN] at hl0
  rw [← hN]
  clear h ha hc hb hN
  by_cases hl : 1000 < N
  · have HPf : Hid (PT.pf l = (2, 0)) := by show _ = _; unfold PT.pf; rw [if_pos (by have := HN.out; omega)]
    have tl : decide (1000 < (N : Int)) = true := decide_eq_true (by omega)
    go_enter Tryd.func16, Tryd.ntmps16
    go_wp2_with fail
    have S1 := Sv.new 0 0 w
    have K1 : Below w.heap.size w (w.alloc (.cells #[.int .i64 0, .int .i64 0] 23)) := Below.alloc (Below.refl _ _) (Nat.le_refl _) _
    refine (F_any 2 0 _).mono ?_
    rintro e w5 ⟨rfl, k5⟩
    have S5 := S1.below k5
    have K5 : Below w.heap.size w w5 := K1.trans (k5.mono K1.size)
    obtain ⟨u0, u1, u2, u3, u4⟩ := S5
    have HK6 : Hid (Below w.heap.size w ((w5.setCell ⟨w.heap.size, 0, none⟩ (.int .i64 2)).setCell ⟨w.heap.size, 1, none⟩ (.int .i64 0))) := (K5.setCell (Nat.le_refl _) _).setCell (Nat.le_refl _) _
    clear k5 K5 K1 S1
    go_wp2
    refine bodyPost_ret (v := .agg #[.int .i64 2, .int .i64 0]) (by simp [results, Tryd.results16, go_sem, u0, u1, u4]) rfl ⟨?_, HK6.out⟩
    rw [HPf.out]
  · have HPe : Hid (PT.pf l = PT.pfr 0 0 0 l) := by show _ = _; unfold PT.pf; rw [if_neg (by have := HN.out; omega)]
    have tl : decide (1000 < (N : Int)) = false := decide_eq_false (by omega)
    have hl1 : N ≤ 1000 := by omega
    go_enter Tryd.func16, Tryd.ntmps16
    go_wp2
    have S1 := Sv.new 0 0 w
    have K1 : Below w.heap.size w (w.alloc (.cells #[.int .i64 0, .int .i64 0] 23)) := Below.alloc (Below.refl _ _) (Nat.le_refl _) _
    obtain ⟨W1, hW1⟩ : ∃ W, W = w.alloc (.cells #[.int .i64 0, .int .i64 0] 23) := ⟨_, rfl⟩
    rw [← hW1] at S1 K1
    rw [← hW1]
    have HB0 : Hid (Sv w.heap.size 0 0 W1 ∧ Below w.heap.size w W1) := ⟨S1, K1⟩
    clear hW1 S1 K1
    go_loopg [3, 4] N (fun gk sv iv wx => ∃ (i : Nat) (s : Int), sv = .int .i64 s ∧ iv = .int .i64 (i : Int) ∧ Hid (gk = N - i ∧ i ≤ N ∧ s = (l.take i).sum ∧ PT.At l i ∧ Sv w.heap.size 0 0 wx ∧ Below w.heap.size w wx))
    case atStart => exact ⟨0, 0, rfl, rfl, rfl, by omega, by simp, PT.At.zero l, HB0.out⟩
    case round =>
      clear HB0
      obtain ⟨i, s, rfl, rfl, HR⟩ := hrel
      obtain ⟨h1, h2, h3, h4, h5, h6⟩ := HR.out
      have HW : Hid (Sv w.heap.size 0 0 wr ∧ Below w.heap.size w wr) := ⟨h5, h6⟩
      have HK : Hid (gk = N - i) := h1
      have HAt : Hid (PT.At l i) := h4
      have HSs : Hid (s = (l.take i).sum) := h3
      have hs0 : 0 ≤ s ∧ s ≤ 2000 := by rw [h3]; exact h4.2
      clear HR h1 h3 h4 h5 h6
      by_cases hi : i < N
      · have ti : decide ((i : Int) < (N : Int)) = true := decide_eq_true (by omega)
        have hil : i < l.length := by have := HN.out; omega
        obtain rfl := HA.out (by omega)
        have c0 := HC.out _ HW.out.2 i hil
        have hbx := HBd.out i hil
        obtain ⟨x, hx⟩ : ∃ x, l.getD i 0 = x := ⟨_, rfl⟩
        have HX : Hid (l.getD i 0 = x) := hx
        rw [hx] at c0 hbx
        have x1 : (i : Int) < (N : Int) := by omega
        clear hx
        by_cases e1 : x < 1
        · have te : decide (x < 1) = true := decide_eq_true e1
          have HPf : Hid (PT.pf l = (3, (i : Int))) := by show _ = _; rw [HPe.out]; exact HAt.out.f3 hil (by rw [HX.out]; exact .inl e1)
          clear e1
          go_wp2_with fail
          refine (F_any 3 (i : Int) _).mono ?_
          rintro e w5 ⟨rfl, k5⟩
          have S5 := HW.out.1.below k5
          have K5 : Below w.heap.size w w5 := HW.out.2.trans (k5.mono HW.out.2.size)
          obtain ⟨u0, u1, u2, u3, u4⟩ := S5
          have HK6 : Hid (Below w.heap.size w ((w5.setCell ⟨w.heap.size, 0, none⟩ (.int .i64 3)).setCell ⟨w.heap.size, 1, none⟩ (.int .i64 (i : Int)))) := (K5.setCell (Nat.le_refl _) _).setCell (Nat.le_refl _) _
          clear k5 K5
          go_wp2
          refine bodyPost_ret (v := .agg #[.int .i64 3, .int .i64 (i : Int)]) (by simp [results, Tryd.results16, go_sem, u0, u1, u4]) rfl ⟨?_, HK6.out⟩
          rw [HPf.out]
        · have te : decide (x < 1) = false := decide_eq_false e1
          by_cases e2 : 2000 < x
          · have te2 : decide (2000 < x) = true := decide_eq_true e2
            have HPf : Hid (PT.pf l = (3, (i : Int))) := by show _ = _; rw [HPe.out]; exact HAt.out.f3 hil (by rw [HX.out]; exact .inr e2)
            clear e2
            go_wp2_with fail
            refine (F_any 3 (i : Int) _).mono ?_
            rintro e w5 ⟨rfl, k5⟩
            have S5 := HW.out.1.below k5
            have K5 : Below w.heap.size w w5 := HW.out.2.trans (k5.mono HW.out.2.size)
            obtain ⟨u0, u1, u2, u3, u4⟩ := S5
            have HK6 : Hid (Below w.heap.size w ((w5.setCell ⟨w.heap.size, 0, none⟩ (.int .i64 3)).setCell ⟨w.heap.size, 1, none⟩ (.int .i64 (i : Int)))) := (K5.setCell (Nat.le_refl _) _).setCell (Nat.le_refl _) _
            clear k5 K5
            go_wp2
            refine bodyPost_ret (v := .agg #[.int .i64 3, .int .i64 (i : Int)]) (by simp [results, Tryd.results16, go_sem, u0, u1, u4]) rfl ⟨?_, HK6.out⟩
            rw [HPf.out]
          · have te2 : decide (2000 < x) = false := decide_eq_false e2
            have hsx : s + x ≤ 4000 ∧ 0 ≤ s + x := by omega
            have hgd : ¬ (l.getD i 0 < 1 ∨ 2000 < l.getD i 0) := by rw [HX.out]; omega
            by_cases h0 : i = 0
            · have HNp : Hid (¬ (0 < i ∧ PT.prv l i < l.getD i 0)) := by show ¬ _; omega
              have t0 : decide (0 < (i : Int)) = false := decide_eq_false (by omega)
              have t0n : decide (0 < i) = false := decide_eq_false (by omega)
              clear h0
              by_cases e4 : 2000 < s + x
              · have te4 : decide (2000 < s + x) = true := decide_eq_true e4
                have HPf : Hid (PT.pf l = (9, (i : Int))) := by show _ = _; rw [HPe.out]; exact HAt.out.f9 hil hgd HNp.out (by rw [HX.out, ← HSs.out]; exact e4)
                clear e4 hgd
                go_wp2_with fail
                go_quiet (fail)
                go_wp2_with fail
                refine (F_any 9 (i : Int) _).mono ?_
                rintro e w5 ⟨rfl, k5⟩
                have S5 := (Sv.drewN HW.out.1).below k5
                have K5 : Below w.heap.size w w5 := (below_drewN' HW.out.2).trans (k5.mono (below_drewN' HW.out.2).size)
                obtain ⟨u0, u1, u2, u3, u4⟩ := S5
                have HK6 : Hid (Below w.heap.size w ((w5.setCell ⟨w.heap.size, 0, none⟩ (.int .i64 9)).setCell ⟨w.heap.size, 1, none⟩ (.int .i64 (i : Int)))) := (K5.setCell (Nat.le_refl _) _).setCell (Nat.le_refl _) _
                clear k5 K5
                go_wp2
                refine bodyPost_ret (v := .agg #[.int .i64 9, .int .i64 (i : Int)]) (by simp [results, Tryd.results16, go_sem, u0, u1, u4]) rfl ⟨?_, HK6.out⟩
                rw [HPf.out]
              · have te4 : decide (2000 < s + x) = false := decide_eq_false e4
                have HSt : Hid (PT.At l (i + 1) ∧ s + x = (l.take (i + 1)).sum) := ⟨HAt.out.step hil (by rw [HX.out]; omega) (by rw [HX.out]; omega) HNp.out (by rw [HX.out, ← HSs.out]; omega), by rw [PT.sum_s hil, HX.out, HSs.out]⟩
                clear e4 hgd
                go_wp2_with fail
                go_quiet (fail)
                go_wp2
                go_roundg (N - (i + 1))
                case rel => exact ⟨i + 1, s + x, by go_num, by go_num, rfl, by omega, HSt.out.2, HSt.out.1, Sv.drewN HW.out.1, below_drewN' HW.out.2⟩
                case measure => have := HK.out; omega
            · obtain ⟨p, hp⟩ : ∃ p, i = p + 1 := ⟨i - 1, by omega⟩
              have t0 : decide (0 < (i : Int)) = true := decide_eq_true (by omega)
              have t0n : decide (0 < i) = true := decide_eq_true (by omega)
              have hpl : p < l.length := by omega
              have c1 := HC.out _ HW.out.2 p hpl
              have hip : (i : Int) - 1 = (p : Int) := by omega
              obtain ⟨y, hy⟩ : ∃ y, l.getD p 0 = y := ⟨_, rfl⟩
              have HY : Hid (PT.prv l i = y) := by show _ = _; rw [hp, PT.prv_s]; exact hy
              rw [hy] at c1
              have x2 : (p : Int) < (N : Int) := by omega
              have hwp : IntKind.i64.wrap (p : Int) = (p : Int) := by rw [IntKind.wrap_i64]; omega
              have hp0 : (0 : Int) ≤ (p : Int) := by omega
              have HI0 : Hid (0 < i) := by show _ < _; omega
              clear hy hp h0
              by_cases e3 : y < x
              · have te3 : decide (y < x) = true := decide_eq_true e3
                have HPf : Hid (PT.pf l = (6, (i : Int))) := by show _ = _; rw [HPe.out]; exact HAt.out.f6 hil hgd ⟨HI0.out, by rw [HX.out, HY.out]; exact e3⟩
                clear e3 hgd
                go_wp2_with fail
                go_quiet (fail)
                go_wp2_with fail
                refine (F_any 6 (i : Int) _).mono ?_
                rintro e w5 ⟨rfl, k5⟩
                have S5 := (Sv.drewN HW.out.1).below k5
                have K5 : Below w.heap.size w w5 := (below_drewN' HW.out.2).trans (k5.mono (below_drewN' HW.out.2).size)
                obtain ⟨u0, u1, u2, u3, u4⟩ := S5
                have HK6 : Hid (Below w.heap.size w ((w5.setCell ⟨w.heap.size, 0, none⟩ (.int .i64 6)).setCell ⟨w.heap.size, 1, none⟩ (.int .i64 (i : Int)))) := (K5.setCell (Nat.le_refl _) _).setCell (Nat.le_refl _) _
                clear k5 K5
                go_wp2
                refine bodyPost_ret (v := .agg #[.int .i64 6, .int .i64 (i : Int)]) (by simp [results, Tryd.results16, go_sem, u0, u1, u4]) rfl ⟨?_, HK6.out⟩
                rw [HPf.out]
              · have te3 : decide (y < x) = false := decide_eq_false e3
                have HNp : Hid (¬ (0 < i ∧ PT.prv l i < l.getD i 0)) := by show ¬ _; rw [HX.out, HY.out]; exact fun h => e3 h.2
                clear e3
                by_cases e4 : 2000 < s + x
                · have te4 : decide (2000 < s + x) = true := decide_eq_true e4
                  have HPf : Hid (PT.pf l = (9, (i : Int))) := by show _ = _; rw [HPe.out]; exact HAt.out.f9 hil hgd HNp.out (by rw [HX.out, ← HSs.out]; exact e4)
                  clear e4 hgd
                  go_wp2_with fail
                  go_quiet (fail)
                  go_wp2_with fail
                  refine (F_any 9 (i : Int) _).mono ?_
                  rintro e w5 ⟨rfl, k5⟩
                  have S5 := (Sv.drewN HW.out.1).below k5
                  have K5 : Below w.heap.size w w5 := (below_drewN' HW.out.2).trans (k5.mono (below_drewN' HW.out.2).size)
                  obtain ⟨u0, u1, u2, u3, u4⟩ := S5
                  have HK6 : Hid (Below w.heap.size w ((w5.setCell ⟨w.heap.size, 0, none⟩ (.int .i64 9)).setCell ⟨w.heap.size, 1, none⟩ (.int .i64 (i : Int)))) := (K5.setCell (Nat.le_refl _) _).setCell (Nat.le_refl _) _
                  clear k5 K5
                  go_wp2
                  refine bodyPost_ret (v := .agg #[.int .i64 9, .int .i64 (i : Int)]) (by simp [results, Tryd.results16, go_sem, u0, u1, u4]) rfl ⟨?_, HK6.out⟩
                  rw [HPf.out]
                · have te4 : decide (2000 < s + x) = false := decide_eq_false e4
                  have HSt : Hid (PT.At l (i + 1) ∧ s + x = (l.take (i + 1)).sum) := ⟨HAt.out.step hil (by rw [HX.out]; omega) (by rw [HX.out]; omega) HNp.out (by rw [HX.out, ← HSs.out]; omega), by rw [PT.sum_s hil, HX.out, HSs.out]⟩
                  clear e4 hgd
                  go_wp2_with fail
                  go_quiet (fail)
                  go_wp2
                  go_roundg (N - (i + 1))
                  case rel => exact ⟨i + 1, s + x, by go_num, by go_num, rfl, by omega, HSt.out.2, HSt.out.1, Sv.drewN HW.out.1, below_drewN' HW.out.2⟩
                  case measure => have := HK.out; omega
      · have ti : decide ((i : Int) < (N : Int)) = false := decide_eq_false (by omega)
        have HPf : Hid (PT.pf l = (0, 0)) := by
          show _ = _
          rw [HPe.out]
          have := HAt.out
          rw [show i = l.length by have := HN.out; omega] at this
          exact this.fin
        obtain ⟨u0, u1, u2, u3, u4⟩ := HW.out.1
        have HK6 : Hid (Below w.heap.size w ((wr.setCell ⟨w.heap.size, 0, none⟩ (.int .i64 0)).setCell ⟨w.heap.size, 1, none⟩ (.int .i64 0))) := (HW.out.2.setCell (Nat.le_refl _) _).setCell (Nat.le_refl _) _
        go_wp2
        refine bodyPost_ret (v := .agg #[.int .i64 0, .int .i64 0]) (by simp [results, Tryd.results16, go_sem, u0, u1, u4]) rfl ⟨?_, HK6.out⟩
        rw [HPf.out]

end Go.Proofs.YtmifenflbaohnaaDoor
end
