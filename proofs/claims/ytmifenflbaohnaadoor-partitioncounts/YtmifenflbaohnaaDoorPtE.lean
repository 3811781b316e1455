/- The law's own glaisher: true where the counts are right. -/
import Derived.Test.YtmifenflbaohnaaDoorJnV
import Derived.Test.YtmifenflbaohnaaDoorJnL
import Derived.BigQuiet
set_option linter.unusedSimpArgs false
set_option linter.unusedVariables false
set_option maxRecDepth 100000
namespace Go.Proofs.YtmifenflbaohnaaDoor
open Go.RowKit

set_option maxRecDepth 100000 in
set_option maxHeartbeats 4000000 in
theorem glaisher_yes (v v' : Value) (l o : List Int) (w : World) (h : IS w v l) (h' : IS w v' o) (hl : l.length ≤ 10000) (hl' : o.length ≤ 10000) (hG : PT.Gl l o) :
    Calls Tryd.prog 21 #[v, v'] w fun e w' => e = .returned (.bool true) ∧ Below w.heap.size w w' := by
  have HTm : Hid (∀ (n : Int) (W : World), Below w.heap.size w W → Calls Tryd.prog 36 #[v', .int .i64 n] W fun e w' => e = .returned (.int .i64 (PT.cnt o n : Int)) ∧ w' = W) := fun n W k => refTimes_any v' o n W (h'.belowP k) (by omega)
  obtain ⟨aa, g, oo, cap, rfl, ha, hc⟩ := h.open'
  obtain ⟨aa', g', oo', cap', rfl, ha', hc'⟩ := h'.open'
  have HA : Hid (0 < l.length → aa = some ⟨g, oo, none⟩) := ha
  have HA' : Hid (0 < o.length → aa' = some ⟨g', oo', none⟩) := ha'
  have HC : Hid (∀ W, Below w.heap.size w W → ∀ i, i < l.length → W.cell? ⟨g, oo + i, none⟩ = some (.int .i64 (l.getD i 0))) := hc
  have HC' : Hid (∀ W, Below w.heap.size w W → ∀ i, i < o.length → W.cell? ⟨g', oo' + i, none⟩ = some (.int .i64 (o.getD i 0))) := hc'
  have HG : Hid (PT.Gl l o) := hG
  obtain ⟨N, hN⟩ : ∃ N, N = l.length := ⟨_, rfl⟩
  have HN : Hid (N = l.length) := hN
  obtain ⟨M, hM⟩ : ∃ N, N = o.length := ⟨_, rfl⟩
  have HM : Hid (M = o.length) := hM
  rw [← hN] at hl
  rw [← hM] at hl'
  rw [← hM] at HTm
  rw [← hN, ← hM]
  clear h h' ha hc ha' hc' hN hM hG
  go_enter Tryd.func21, Tryd.ntmps21
  go_wp2
  go_loopg [5] M (fun gk iv wx => ∃ i : Nat, iv = .int .i64 (i : Int) ∧ Hid (gk = M - i ∧ i ≤ M ∧ Below w.heap.size w wx))
  case atStart => exact ⟨0, rfl, rfl, by omega, Below.refl _ _⟩
  case round =>
    obtain ⟨i, rfl, HR⟩ := hrel
    obtain ⟨h1, h2, h3⟩ := HR.out
    have HK : Hid (gk = M - i) := h1
    have HW : Hid (Below w.heap.size w wr) := h3
    clear HR h1 h3
    by_cases hi : i < M
    · have ti : decide ((i : Int) < (M : Int)) = true := decide_eq_true (by omega)
      have hil : i < o.length := by have := HM.out; omega
      obtain rfl := HA'.out (by omega)
      have c0 := HC'.out _ HW.out i hil
      obtain ⟨b1, b2, b3⟩ := HG.out.ob i hil
      obtain ⟨x, hx⟩ : ∃ x : Nat, o.getD i 0 = (x : Int) := ⟨(o.getD i 0).toNat, by omega⟩
      have HX : Hid (o.getD i 0 = (x : Int)) := hx
      rw [hx] at c0 b1 b2 b3
      have x1 : (i : Int) < (M : Int) := by omega
      have t1 : decide ((x : Int) < 1) = false := decide_eq_false (by omega)
      have t2 : decide (2000 < (x : Int)) = false := decide_eq_false (by omega)
      have t2n : decide (2000 < x) = false := decide_eq_false (by omega)
      have t3 : ((x : Int) % 2 == 0) = false := beq_eq_false_iff_ne.2 (by omega)
      have b0 : (0 : Int) ≤ (x : Int) := by omega
      clear hx b1 b2 b3
      by_cases h0 : i = 0
      · have t0 : decide (0 < (i : Int)) = false := decide_eq_false (by omega)
        have t0n : decide (0 < i) = false := decide_eq_false (by omega)
        clear h0
        go_wp2_with fail
        go_quiet (fail)
        go_wp2
        go_roundg (M - (i + 1))
        case rel => exact ⟨i + 1, by go_num, rfl, by omega, below_drewN' HW.out⟩
        case measure => have := HK.out; omega
      · obtain ⟨p, hp⟩ : ∃ p, i = p + 1 := ⟨i - 1, by omega⟩
        have t0 : decide (0 < (i : Int)) = true := decide_eq_true (by omega)
        have t0n : decide (0 < i) = true := decide_eq_true (by omega)
        have hpl : p < o.length := by omega
        have c1 := HC'.out _ HW.out p hpl
        have hip : (i : Int) - 1 = (p : Int) := by omega
        obtain ⟨y, hy⟩ : ∃ y, o.getD p 0 = y := ⟨_, rfl⟩
        have hxy : (x : Int) ≤ y := by
          have := HG.out.od p (by omega)
          rw [← hp, HX.out, hy] at this
          exact this
        rw [hy] at c1
        have t4 : decide (y < (x : Int)) = false := decide_eq_false (by omega)
        have x2 : (p : Int) < (M : Int) := by omega
        have hwp : IntKind.i64.wrap (p : Int) = (p : Int) := by rw [IntKind.wrap_i64]; omega
        have hp0 : (0 : Int) ≤ (p : Int) := by omega
        clear hy hp h0 hxy
        go_wp2_with fail
        go_quiet (fail)
        go_wp2
        go_roundg (M - (i + 1))
        case rel => exact ⟨i + 1, by go_num, rfl, by omega, below_drewN' HW.out⟩
        case measure => have := HK.out; omega
    · have ti : decide ((i : Int) < (M : Int)) = false := decide_eq_false (by omega)
      clear HK
      go_wp2
      go_loopg [6] 2002 (fun gk nv wx => ∃ n : Nat, nv = .int .i64 (n : Int) ∧ Hid (gk = 2003 - n ∧ n ≤ 2001 ∧ n % 2 = 1 ∧ Below w.heap.size w wx))
      case atStart => exact ⟨1, rfl, rfl, by omega, rfl, HW.out⟩
      case round =>
        clear HW
        obtain ⟨n, rfl, HR⟩ := hrel
        obtain ⟨h1, h2', h3, h4⟩ := HR.out
        have HKn : Hid (gk = 2003 - n ∧ n % 2 = 1) := ⟨h1, h3⟩
        have HW : Hid (Below w.heap.size w wr) := h4
        by_cases hn : n ≤ 2000
        · have tn : decide ((n : Int) ≤ 2000) = true := decide_eq_true (by omega)
          have HCt : Hid (PT.cnt o (n : Int) = PT.wsum l (n : Int)) := HG.out.ct n hn h3
          clear HR h1 h3 h4
          go_wp2
          go_loopg [7, 8] N (fun gj cv iv wx => ∃ i c : Nat, cv = .int .i64 (c : Int) ∧ iv = .int .i64 (i : Int) ∧ Hid (gj = N - i ∧ i ≤ N ∧ c = PT.wsum (l.take i) (n : Int) ∧ Below w.heap.size w wx))
          case atStart => exact ⟨0, 0, rfl, rfl, rfl, by omega, rfl, HW.out⟩
          case round =>
            clear HW
            obtain ⟨j, c, rfl, rfl, HR⟩ := hrel
            obtain ⟨h1, h2'', h3, h4⟩ := HR.out
            have HKj : Hid (gk = N - j) := h1
            have HW : Hid (Below w.heap.size w wr) := h4
            have HCc : Hid (c = PT.wsum (l.take j) (n : Int)) := h3
            have hcb : c ≤ 2000 * j := by rw [h3]; exact PT.wsum_le HG.out.lb j (by have := HN.out; omega)
            clear HR h1 h3 h4
            by_cases hj : j < N
            · have tj : decide ((j : Int) < (N : Int)) = true := decide_eq_true (by omega)
              have hjl : j < l.length := by have := HN.out; omega
              obtain rfl := HA.out (by omega)
              have c0 := HC.out _ HW.out j hjl
              obtain ⟨b1, b2⟩ := HG.out.lb j hjl
              have HS : Hid (PT.wsum (l.take (j + 1)) (n : Int) = PT.wsum (l.take j) (n : Int) + (if (PT.od (l.getD j 0).toNat : Int) = (n : Int) then PT.p2 (l.getD j 0).toNat else 0)) := PT.wsum_take hjl
              obtain ⟨x, hx⟩ : ∃ x : Nat, l.getD j 0 = (x : Int) := ⟨(l.getD j 0).toNat, by omega⟩
              have HX : Hid (l.getD j 0 = (x : Int)) := hx
              rw [hx] at c0 b1 b2 HS
              rw [Int.toNat_natCast] at HS
              have x1 : (j : Int) < (N : Int) := by omega
              have hx1 : 1 ≤ x := by omega
              have hx2 : x ≤ 2000 := by omega
              clear hx b1 b2
              go_wp2
              go_loopg [9, 10] x (fun gm kv mv wx => ∃ k m : Nat, kv = .int .i64 (k : Int) ∧ mv = .int .i64 (m : Int) ∧ Hid (gm = m ∧ 0 < m ∧ m ≤ 2000 ∧ k ≤ 2000 ∧ k * PT.p2 m = PT.p2 x ∧ PT.od m = PT.od x ∧ Below w.heap.size w wx))
              case atStart => exact ⟨1, x, rfl, rfl, rfl, by omega, by omega, by omega, by rw [Nat.one_mul], rfl, HW.out⟩
              case round =>
                obtain ⟨k, m, rfl, rfl, HR⟩ := hrel
                obtain ⟨h1, h2a, h2b, h2c, h3, h4, h5⟩ := HR.out
                have HKm : Hid (gk = m) := h1
                have HI : Hid (k * PT.p2 m = PT.p2 x ∧ PT.od m = PT.od x ∧ Below w.heap.size w wr) := ⟨h3, h4, h5⟩
                clear HR h1 h3 h4 h5
                have m0 : (0 : Int) ≤ (m : Int) := by omega
                by_cases he : m % 2 = 0
                · have te : ((m : Int) % 2 == 0) = true := beq_iff_eq.2 (by omega)
                  have HI2 : Hid (2 * k * PT.p2 (m / 2) = PT.p2 x ∧ PT.od (m / 2) = PT.od x ∧ Below w.heap.size w wr ∧ 2 * k ≤ 2000 ∧ 0 < m / 2) := by
                    obtain ⟨q1, q2, q3⟩ := HI.out
                    rw [PT.p2_even h2a he] at q1
                    rw [PT.od_even h2a he] at q2
                    have q4 : 2 * k * PT.p2 (m / 2) = PT.p2 x := by rw [← q1, Nat.mul_comm 2 k, Nat.mul_assoc]
                    have q5 : 1 ≤ PT.p2 (m / 2) := (PT.od_p2 (m / 2) (by omega)).2.2.1
                    have q6 := Nat.mul_le_mul_left (2 * k) q5
                    have q7 := PT.p2_le (show 0 < x by omega)
                    exact ⟨q4, q2, q3, by omega, by omega⟩
                  clear he
                  go_wp2
                  go_roundg (m / 2)
                  case rel => exact ⟨2 * k, m / 2, by go_num, by go_num, rfl, HI2.out.2.2.2.2, by omega, HI2.out.2.2.2.1, HI2.out.1, HI2.out.2.1, HI2.out.2.2.1⟩
                  case measure => have := HKm.out; omega
                · have te : ((m : Int) % 2 == 0) = false := beq_eq_false_iff_ne.2 (by omega)
                  have hk : k = PT.p2 x := by
                    have q := HI.out.1
                    rw [PT.p2_odd (by omega), Nat.mul_one] at q
                    exact q
                  have HW3 : Hid (Below w.heap.size w wr) := HI.out.2.2
                  have c3 := HC.out _ HW3.out j hjl
                  rw [HX.out] at c3
                  obtain ⟨NK, hNK⟩ : ∃ NK, NK = n * k := ⟨_, rfl⟩
                  have hNKI : (n : Int) * (k : Int) = (NK : Int) := by rw [hNK, Int.natCast_mul]
                  have hNKb : NK ≤ 4002000 := by rw [hNK]; exact Nat.mul_le_mul h2' h2c
                  have hiff : x = NK ↔ PT.od x = n := by rw [hNK, hk]; exact PT.od_iff (by omega)
                  clear he HI hNK
                  by_cases hxe : x = NK
                  · have tx : ((x : Int) == (NK : Int)) = true := beq_iff_eq.2 (by omega)
                    have HS2 : Hid (c + k = PT.wsum (l.take (j + 1)) (n : Int)) := by
                      show _ = _
                      rw [HS.out, if_pos (by rw [hiff.1 hxe]), HCc.out, hk]
                    clear hiff hxe hk
                    go_wp2
                    go_roundg (N - (j + 1))
                    case rel => exact ⟨j + 1, c + k, by go_num, by go_num, rfl, by omega, HS2.out, HW3.out⟩
                    case measure => have := HKj.out; omega
                  · have tx : ((x : Int) == (NK : Int)) = false := beq_eq_false_iff_ne.2 (by omega)
                    have HS2 : Hid (c = PT.wsum (l.take (j + 1)) (n : Int)) := by
                      show _ = _
                      rw [HS.out, if_neg (fun e => hxe (hiff.2 (by omega))), HCc.out]; rfl
                    clear hiff hxe hk
                    go_wp2
                    go_roundg (N - (j + 1))
                    case rel => exact ⟨j + 1, c, rfl, by go_num, rfl, by omega, HS2.out, HW3.out⟩
                    case measure => have := HKj.out; omega
            · have tj : decide ((j : Int) < (N : Int)) = false := decide_eq_false (by omega)
              have HE : Hid (PT.cnt o (n : Int) = c) := by
                show _ = _
                rw [HCt.out, HCc.out, List.take_of_length_le (by have := HN.out; omega)]
              go_wp2_with fail
              refine (HTm.out (n : Int) wr HW.out).mono ?_
              rw [HE.out]
              rintro e w5 ⟨rfl, hw5⟩
              rw [hw5]
              clear hw5 w5
              go_wp2
              go_roundg (2003 - (n + 2))
              case rel => exact ⟨n + 2, by go_num, rfl, by have := HKn.out.2; omega, by have := HKn.out.2; omega, HW.out⟩
              case measure => have := HKn.out; omega
        · have tn : decide ((n : Int) ≤ 2000) = false := decide_eq_false (by omega)
          clear HR h1 h3 h4
          go_wp2
          go_ret
          exact ⟨rfl, HW.out⟩

end Go.Proofs.YtmifenflbaohnaaDoor
