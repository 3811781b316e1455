/- The reference: Times, TurnedOf, PartitionFault. -/
import Derived.Test.YtmifenflbaohnaaDoorPtM
import Derived.Test.YtmifenflbaohnaaDoorTxA
import Derived.Test.YtmifenflbaohnaaDoorPaA
import Derived.Test.YtmifenflbaohnaaDoorWholeD
import Derived.Deep.LoopGhost
set_option linter.unusedSimpArgs false
set_option linter.unusedVariables false
set_option maxRecDepth 100000
namespace Go.Proofs.YtmifenflbaohnaaDoor
open Go.RowKit

theorem Tryd.infoIntT : (Tryd.prog.info? 3).map (fun i => (i.zero, i.size, i.bytes)) = some (some (.int .i64 0), 1, 8) := by kernel_rfl
theorem IS.open' {w : World} {v : Value} {l : List Int} (h : IS w v l) : ∃ (aa : Option Addr) (g o cap : Nat), v = .slice aa l.length cap ∧ (0 < l.length → aa = some ⟨g, o, none⟩) ∧ ∀ W, Below w.heap.size w W → ∀ i, i < l.length → W.cell? ⟨g, o + i, none⟩ = some (.int .i64 (l.getD i 0)) := by
  obtain ⟨aa, g, o, cap, h1, h2, h3, h4⟩ := h.shape
  exact ⟨aa, g, o, cap, h1, h2, fun W k i hi => (k.cell (p := ⟨g, o + i, none⟩) (h4 (by omega))).trans (h3 i hi)⟩

set_option maxHeartbeats 1000000 in
theorem refTimes_any (v : Value) (l : List Int) (n : Int) (w : World) (h : IS w v l) (hl : l.length ≤ 1000000) :
    Calls Tryd.prog 36 #[v, .int .i64 n] w fun e w' => e = .returned (.int .i64 (PT.cnt l n : Int)) ∧ w' = w := by
  obtain ⟨aa, g, o, cap, rfl, ha, hc⟩ := h.open'
  have HA : Hid (0 < l.length → aa = some ⟨g, o, none⟩) := ha
  have HC : Hid (∀ i, i < l.length → w.cell? ⟨g, o + i, none⟩ = some (.int .i64 (l.getD i 0))) := hc w (Below.refl _ _)
  obtain ⟨N, hN⟩ : ∃ N, N = l.length := ⟨_, rfl⟩
  have HN : Hid (N = l.length) := hN
  rw [← hN] at hl
  rw [← hN]
  clear h ha hc hN
  go_enter Tryd.func36, Tryd.ntmps36
  go_wp2
  go_loopg [5, 6] N (fun gk cv iv wx => ∃ i c : Nat, cv = .int .i64 (c : Int) ∧ iv = .int .i64 (i : Int) ∧ Hid (gk = N - i ∧ i ≤ N ∧ c = PT.cnt (l.take i) n ∧ c ≤ i ∧ wx = w))
  case atStart => exact ⟨0, 0, rfl, rfl, by omega, by omega, rfl, Nat.le_refl _, rfl⟩
  case round =>
    obtain ⟨i, c, rfl, rfl, HR⟩ := hrel
    obtain ⟨h1, h2, h3, h4, hw⟩ := HR.out
    rw [hw]
    have HK : Hid (gk = N - i) := h1
    have HCc : Hid (c = PT.cnt (l.take i) n) := h3
    clear HR h1 h3 hw
    by_cases hi : i < N
    · have ti : decide ((i : Int) < (N : Int)) = true := decide_eq_true (by omega)
      have hil : i < l.length := by have := HN.out; omega
      obtain rfl := HA.out (by omega)
      have c0 := HC.out i hil
      have HS : Hid (PT.cnt (l.take (i + 1)) n = PT.cnt (l.take i) n + (if l.getD i 0 = n then 1 else 0)) := PT.cnt_take hil
      obtain ⟨x, hx⟩ : ∃ x, l.getD i 0 = x := ⟨_, rfl⟩
      rw [hx] at c0 HS
      clear hx
      have x1 : (i : Int) < (N : Int) := by omega
      by_cases e : x = n
      · have te : (x == n) = true := beq_iff_eq.2 e
        have HS2 : Hid (c + 1 = PT.cnt (l.take (i + 1)) n) := by show _ = _; rw [HS.out, if_pos e, HCc.out]
        clear e HS
        go_wp2
        go_roundg (N - (i + 1))
        case rel => exact ⟨i + 1, c + 1, by go_num, by go_num, rfl, by omega, HS2.out, by omega, rfl⟩
        case measure => have := HK.out; omega
      · have te : (x == n) = false := beq_eq_false_iff_ne.2 e
        have HS2 : Hid (c = PT.cnt (l.take (i + 1)) n) := by show _ = _; rw [HS.out, if_neg e, HCc.out]; rfl
        clear e HS
        go_wp2
        go_roundg (N - (i + 1))
        case rel => exact ⟨i + 1, c, rfl, by go_num, rfl, by omega, HS2.out, by omega, rfl⟩
        case measure => have := HK.out; omega
    · have ti : decide ((i : Int) < (N : Int)) = false := decide_eq_false (by omega)
      have HE : Hid (c = PT.cnt l n) := by
        show _ = _
        rw [HCc.out, List.take_of_length_le (by have := HN.out; omega)]
      go_wp2
      go_ret
      exact ⟨by rw [← HE.out]; rfl, rfl⟩

/-- The parts of the turned partition. -/
def PT.tl (l : List Int) : Nat → List Int
  | 0 => []
  | k + 1 => PT.tl l k ++ [((PT.tge l ((k + 1 : Nat) : Int) : Nat) : Int)]
theorem PT.tl_len (l : List Int) (k : Nat) : (PT.tl l k).length = k := by
  induction k with
  | zero => rfl
  | succ k ih => rw [PT.tl, List.length_append, ih]; rfl

set_option maxRecDepth 100000 in
set_option maxHeartbeats 2000000 in
theorem refTurnedOf_any (v : Value) (l : List Int) (K : Nat) (w : World) (h : IS w v l) (hl : l.length ≤ 1000000) (hK : K ≤ 1000000) (hp : ∀ k, 1 ≤ k → k ≤ K → 0 < PT.tge l (k : Int)) (hz : PT.tge l ((K + 1 : Nat) : Int) = 0) :
    Calls Tryd.prog 18 #[v] w fun e w' => ∃ v', e = .returned v' ∧ w'.ownsRow w.heap.size 3 1 v' K (ints (PT.tl l K)) ∧ Below w.heap.size w w' := by
  obtain ⟨aa, g, o, cap, rfl, ha, hc⟩ := h.open'
  have HA : Hid (0 < l.length → aa = some ⟨g, o, none⟩) := ha
  have HC : Hid (∀ W, Below w.heap.size w W → ∀ i, i < l.length → W.cell? ⟨g, o + i, none⟩ = some (.int .i64 (l.getD i 0))) := hc
  have HPp : Hid (∀ k, 1 ≤ k → k ≤ K → 0 < PT.tge l (k : Int)) := hp
  have HZ : Hid (PT.tge l ((K + 1 : Nat) : Int) = 0) := hz
  obtain ⟨N, hN⟩ : ∃ N, N = l.length := ⟨_, rfl⟩
  have HN : Hid (N = l.length) := hN
  obtain ⟨k0, hk, hx0, hx1, hx2⟩ := info_parts Tryd.infoIntT
  have HP : Hid (Tryd.prog.info? 3 = some k0 ∧ k0.zero = some (.int .i64 0) ∧ k0.size = 1 ∧ k0.bytes = 8) := ⟨hk, hx0, hx1, hx2⟩
  rw [← hN] at hl
  rw [← hN]
  clear h ha hc hN hp hz hk hx0 hx1 hx2
  go_enter Tryd.func18, Tryd.ntmps18
  go_wp2
  go_loopg [3, 4] (K + 1) (fun gk ov kv wx => ∃ (v : Value) (k : Nat), ov = v ∧ kv = .int .i64 ((k + 1 : Nat) : Int) ∧ Hid (gk = K + 1 - k ∧ k ≤ K ∧ wx.ownsRow w.heap.size 3 1 v k (ints (PT.tl l k)) ∧ Below w.heap.size w wx))
  case atStart => exact ⟨_, 0, rfl, rfl, by omega, by omega, ⟨rfl, .inl ⟨rfl, rfl⟩⟩, Below.refl _ _⟩
  case round =>
    obtain ⟨v, k, hv, rfl, HR⟩ := hrel
    have hv2 := hv.symm
    clear hv
    subst hv2
    obtain ⟨h1, h2, h3, h4⟩ := HR.out
    have HKk : Hid (gk = K + 1 - k) := h1
    have HO : Hid (wr.ownsRow w.heap.size 3 1 v k (ints (PT.tl l k)) ∧ Below w.heap.size w wr) := ⟨h3, h4⟩
    have HWr : Hid (∀ i, i < l.length → wr.cell? ⟨g, o + i, none⟩ = some (.int .i64 (l.getD i 0))) := HC.out wr h4
    obtain ⟨wq, hwq⟩ : ∃ wq, wq = wr := ⟨_, rfl⟩
    rw [← hwq] at HO HWr
    rw [← hwq]
    obtain ⟨Kk, hKk⟩ : ∃ Kk, Kk = k + 1 := ⟨_, rfl⟩
    have HKe : Hid (Kk = k + 1) := hKk
    have bK : Kk ≤ 1000001 := by omega
    rw [← hKk]
    clear HR h1 h3 h4 hwq hKk
    go_wp2
    go_loopg [5, 6] N (fun gj nv iv wx => ∃ i c : Nat, nv = .int .i64 (c : Int) ∧ iv = .int .i64 (i : Int) ∧ Hid (gj = N - i ∧ i ≤ N ∧ c = PT.tge (l.take i) (Kk : Int) ∧ c ≤ i ∧ wx = wq))
    case atStart => exact ⟨0, 0, rfl, rfl, rfl, by omega, rfl, Nat.le_refl _, rfl⟩
    case round =>
      obtain ⟨i, c, rfl, rfl, HR⟩ := hrel
      obtain ⟨h1, h2', h3, h4, hw⟩ := HR.out
      rw [hw]
      have HK : Hid (gk = N - i) := h1
      have HCc : Hid (c = PT.tge (l.take i) (Kk : Int)) := h3
      clear HR h1 h3 hw
      by_cases hi : i < N
      · have ti : decide ((i : Int) < (N : Int)) = true := decide_eq_true (by omega)
        have hil : i < l.length := by have := HN.out; omega
        obtain rfl := HA.out (by omega)
        have c0 := HWr.out i hil
        have HS : Hid (PT.tge (l.take (i + 1)) (Kk : Int) = PT.tge (l.take i) (Kk : Int) + (if (Kk : Int) ≤ l.getD i 0 then 1 else 0)) := PT.tge_take hil
        obtain ⟨x, hx⟩ : ∃ x, l.getD i 0 = x := ⟨_, rfl⟩
        rw [hx] at c0 HS
        clear hx
        have x1 : (i : Int) < (N : Int) := by omega
        by_cases e : (Kk : Int) ≤ x
        · have te : decide ((Kk : Int) ≤ x) = true := decide_eq_true e
          have HS2 : Hid (c + 1 = PT.tge (l.take (i + 1)) (Kk : Int)) := by show _ = _; rw [HS.out, if_pos e, HCc.out]
          clear e HS
          go_wp2
          go_roundg (N - (i + 1))
          case rel => exact ⟨i + 1, c + 1, by go_num, by go_num, rfl, by omega, HS2.out, by omega, rfl⟩
          case measure => have := HK.out; omega
        · have te : decide ((Kk : Int) ≤ x) = false := decide_eq_false e
          have HS2 : Hid (c = PT.tge (l.take (i + 1)) (Kk : Int)) := by show _ = _; rw [HS.out, if_neg e, HCc.out]; rfl
          clear e HS
          go_wp2
          go_roundg (N - (i + 1))
          case rel => exact ⟨i + 1, c, rfl, by go_num, rfl, by omega, HS2.out, by omega, rfl⟩
          case measure => have := HK.out; omega
      · have ti : decide ((i : Int) < (N : Int)) = false := decide_eq_false (by omega)
        have HE : Hid (c = PT.tge l (Kk : Int)) := by
          show _ = _
          rw [HCc.out, List.take_of_length_le (by have := HN.out; omega)]
        by_cases hkK : k = K
        · have hc0 : c = 0 := by rw [HE.out, HKe.out, hkK]; exact HZ.out
          have tc : ((c : Int) == 0) = true := beq_iff_eq.2 (by omega)
          have HF : Hid (wq.ownsRow w.heap.size 3 1 v K (ints (PT.tl l K)) ∧ Below w.heap.size w wq) := by rw [← hkK]; exact HO.out
          clear hc0 hkK
          go_wp2
          go_ret
          exact ⟨_, rfl, HF.out⟩
        · have hc0 : 0 < c := by rw [HE.out, HKe.out]; exact HPp.out (k + 1) (by omega) (by omega)
          have tc : ((c : Int) == 0) = false := beq_eq_false_iff_ne.2 (by omega)
          have HT : Hid (PT.tl l (k + 1) = PT.tl l k ++ [(c : Int)]) := by show _ = _; rw [PT.tl, ← HKe.out, ← HE.out]
          have HLn : Hid (k ≤ 1000000) := by show _ ≤ _; omega
          go_wp2_with (at_builtin; refine wpList_append_own _ rfl _ _ 36 rfl w.heap.size 3 k0 (.int .i64 0) 1 8 Tryd.underlying36 HP.out.1 HP.out.2.1 HP.out.2.2.1 HP.out.2.2.2 rfl (by decide) v k (ints (PT.tl l k)) rfl (HO.out.1.alloc _) ⟨wq.heap.size, 0, none⟩ 1 1 [.int .i64 (c : Int)] rfl rfl (own_news (Cl.new [.int .i64 (c : Int)] 3 wq)) (by simp [Value.oneCell']) (by have := HLn.out; simp only [maxLen]; omega) (by have := HLn.out; omega) (by have := HO.out.2.size; simp; omega) ?_; intro v' w6 hown' hgrow _; have HO6 : Hid (w6.ownsRow w.heap.size 3 1 v' (k + 1) (ints (PT.tl l (k + 1))) ∧ Below w.heap.size w w6) := ⟨by rw [HT.out, ints, List.map_append]; exact hown', (Below.alloc HO.out.2 HO.out.2.size _).grown hgrow (by have := HO.out.2.size; simp; omega) (fun j hj => (HO.out.1.lt j hj).1)⟩; clear hown' hgrow)
          go_roundg (K + 1 - (k + 1))
          case rel => exact ⟨_, k + 1, rfl, by rw [HKe.out]; go_num, rfl, by omega, HO6.out⟩
          case measure => have := HKk.out; omega

end Go.Proofs.YtmifenflbaohnaaDoor
