/- padic.valueAt. -/
import Derived.Test.YtidndbdjhapfaaaGreatDoorJoinB
import Derived.Test.YtidndbdjhapfaaaGreatDoorPrimeL
import Derived.Test.YtidndbdjhapfaaaGreatDoorMathP
import Derived.Test.YtidndbdjhapfaaaGreatDoorRsK
import Derived.Test.YtidndbdjhapfaaaGreatDoorBigB
set_option linter.unusedSimpArgs false
set_option linter.unusedVariables false
set_option maxRecDepth 100000
namespace Go.Proofs.YtidndbdjhapfaaaGreatDoor
open Go.RowKit

theorem IS.ownP {w : World} {base k : Nat} {v : Value} {l : List Int} (hk : l.length = k) (h : w.ownsRow base 3 1 v k (ints l)) : IS w v l := by
  subst hk
  obtain ⟨h1, h2⟩ := h
  rcases h2 with ⟨h3, h4⟩ | ⟨g, cap, cur, h3, h4, h5, h6⟩
  · subst h3
    exact ⟨none, 0, 0, 0, by rw [h4], fun h => by omega, fun i hi => by omega, fun h => by omega⟩
  · have hrow : w.ownsRow base 3 1 v l.length (ints l) := ⟨h1, .inr ⟨g, cap, cur, h3, h4, h5, h6⟩⟩
    subst h3
    refine ⟨some ⟨g, 0, none⟩, g, 0, cap, rfl, fun _ => rfl, fun i hi => ?_, fun _ => (hrow.lt g rfl).2⟩
    rw [Nat.zero_add, hrow.cellAt i (by omega), ints, List.getElem?_map, List.getD_eq_getElem?_getD, List.getElem?_eq_getElem hi]; rfl
theorem IS.belowP {w w' : World} {s : Value} {xs : List Int} (h : IS w s xs) (k : Below w.heap.size w w') : IS w' s xs := by
  obtain ⟨aa, g, o, cap, h1, h2, h3, h4⟩ := h
  exact ⟨aa, g, o, cap, h1, h2, fun i hi => (k.cell (p := ⟨g, o + i, none⟩) (h4 (by omega))).trans (h3 i hi), fun hp => Nat.lt_of_lt_of_le (h4 hp) k.size⟩

theorem horner {a x p : Int} {v X T m : Nat} (h0 : 0 < m) (hv : (v : Int) = p % m) (hX : (X : Int) = x % m) (hT : (T : Int) = a % m) : (((v * X % m + T) % m : Nat) : Int) = (a + x * p) % m := by
  push_cast
  rw [Int.emod_add_emod]
  have e1 := Int.emod_add_mul_ediv p m
  have e2 := Int.emod_add_mul_ediv x m
  have e3 := Int.emod_add_mul_ediv a m
  rw [← hv] at e1
  rw [← hX] at e2
  rw [← hT] at e3
  obtain ⟨k1, hk1⟩ : ∃ k, k = p / m := ⟨_, rfl⟩
  obtain ⟨k2, hk2⟩ : ∃ k, k = x / m := ⟨_, rfl⟩
  obtain ⟨k3, hk3⟩ : ∃ k, k = a / m := ⟨_, rfl⟩
  rw [← hk1] at e1
  rw [← hk2] at e2
  rw [← hk3] at e3
  have e : a + x * p = (v * X + T) + m * (k3 + X * k1 + k2 * p) := by rw [← e3, ← e2]; rw [← e1]; grind
  rw [e, Int.add_mul_emod_self_left]

set_option maxHeartbeats 1000000 in
theorem valueAt_any (s : Value) (l : List Int) (x : Int) (m : Nat) (w : World) (hs : IS w s l) (hl : l.length ≤ 1000) (hn : ∀ i, i < l.length → (l.getD i 0).natAbs ≤ 4000000000000000000) (hx : x.natAbs ≤ 4000000000000000000) (h0 : 0 < m) (hm : m ≤ 1000000000000000000) :
    Calls Tryz.prog 30 #[s, .int .i64 x, .int .i64 m] w fun e w' => e = .returned (.int .i64 (pv l x % (m : Int))) ∧ ∃ q, w' = w.drewN q := by
  obtain ⟨aa, g, o, cap, rfl, haa, hc, hg⟩ := hs
  obtain ⟨L, hL⟩ : ∃ L, L = l.length := ⟨_, rfl⟩
  rw [← hL] at hc hn haa hl ⊢
  have HC : Hid (∀ i, i < L → w.cell? ⟨g, o + i, none⟩ = some (.int .i64 (l.getD i 0))) := hc
  have HN : Hid (∀ i, i < L → (l.getD i 0).natAbs ≤ 4000000000000000000) := hn
  have HAA : Hid (0 < L → aa = some ⟨g, o, none⟩) := haa
  have HL : Hid (L = l.length) := hL
  have x0 := Int.emod_nonneg x (show (m : Int) ≠ 0 by omega)
  have x1 := Int.emod_lt_of_pos x (show 0 < (m : Int) by omega)
  obtain ⟨X, hX⟩ : ∃ X : Nat, (X : Int) = x % m := ⟨(x % m).toNat, by omega⟩
  have HX : Hid ((X : Int) = x % m) := hX
  have hXm : X < m := by omega
  clear hc hn haa hg hL x0 x1
  go_enter Tryz.func30, Tryz.ntmps30
  go_wp2_with fail
  refine (left_any x m w hx h0 (by omega)).mono ?_
  rw [← HX.out]
  rintro e w1 ⟨rfl, hw⟩
  rw [hw]
  clear hw w1 hX
  go_wp2
  go_loopw [7, 15] (fun vv iv wx => ∃ i v : Nat, i ≤ L ∧ iv = .int .i64 i ∧ vv = .int .i64 v ∧ v < m ∧ Hid ((v : Int) = pv (l.drop (L - i)) x % m ∧ ∃ q, wx = w.drewN q)) (fun _ iv _ => L - (intOf iv).toNat)
  case atStart =>
    refine ⟨0, 0, Nat.zero_le _, rfl, rfl, h0, ?_, 0, rfl⟩
    rw [HL.out, Nat.sub_zero, List.drop_length]; simp [pv]
  case round =>
    obtain ⟨i, v, hi, rfl, rfl, hv, HR⟩ := hrel
    by_cases hlt : i < L
    · obtain ⟨j, hj⟩ : ∃ j, j = L - 1 - i := ⟨_, rfl⟩
      have hji : (L : Int) - 1 - (i : Int) = (j : Int) := by omega
      have hjL : j < L := by omega
      obtain rfl := HAA.out (by omega)
      obtain ⟨q, hq⟩ := HR.out.2
      have hcell : wr.cell? ⟨g, o + j, none⟩ = some (.int .i64 (l.getD j 0)) := by rw [hq]; exact HC.out j hjL
      have htb := HN.out j hjL
      obtain ⟨t, ht⟩ : ∃ t, t = l.getD j 0 := ⟨_, rfl⟩
      rw [← ht] at hcell htb
      have t0 := Int.emod_nonneg t (show (m : Int) ≠ 0 by omega)
      have t1 := Int.emod_lt_of_pos t (show 0 < (m : Int) by omega)
      obtain ⟨T, hT⟩ : ∃ T : Nat, (T : Int) = t % m := ⟨(t % m).toNat, by omega⟩
      have hTm : T < m := by omega
      have HT : Hid ((T : Int) = t % m) := hT
      obtain ⟨y, hy⟩ : ∃ y, y = v * X % m := ⟨_, rfl⟩
      have hym : y < m := by rw [hy]; exact Nat.mod_lt _ h0
      obtain ⟨z, hz⟩ : ∃ z, z = (y + T) % m := ⟨_, rfl⟩
      have hzm : z < m := by rw [hz]; exact Nat.mod_lt _ h0
      have hzi : ((y : Int) + (T : Int)) % (m : Int) = (z : Int) := by rw [hz]; simp
      have hm0 : ((m : Int) == 0) = false := beq_eq_false_iff_ne.2 (by omega)
      have HY : Hid (v * X % m = y) := hy.symm
      have HZ : Hid ((z : Int) = pv (l.drop (L - (i + 1))) x % m) := by
        show _ = _
        rw [hz, hy, show L - (i + 1) = j by omega, pv_drop l x j (by rw [← HL.out]; exact hjL), ← ht, show j + 1 = L - i by omega]
        exact horner h0 HR.out.1 HX.out hT
      have HQ : Hid (∃ q, wr = w.drewN q) := ⟨q, hq⟩
      clear hq ht t0 t1 hT hy hz hj
      go_wp2_with fail
      refine (productLeft_any v X m _ hv hXm hm).mono ?_
      rw [HY.out]
      rintro e w2 ⟨rfl, q2, rfl⟩
      go_wp2_with fail
      refine (left_any t m _ htb h0 (by omega)).mono ?_
      rw [← HT.out]
      rintro e w3 ⟨rfl, hw3⟩
      rw [hw3]
      clear hw3 w3
      go_wp2
      go_roundw
      case rel => refine ⟨i + 1, z, by omega, by go_num, by rw [hzi], hzm, HZ.out, drewN_more HQ.out _⟩
      case measure => simp [intOf]; omega
    · obtain rfl : i = L := by omega
      have HV : Hid ((v : Int) = pv l x % m) := by
        have := HR.out.1
        rw [Nat.sub_self, List.drop_zero] at this
        exact this
      obtain ⟨q, rfl⟩ := HR.out.2
      go_wp2
      go_ret
      rw [HV.out]
      exact ⟨rfl, q, rfl⟩

end Go.Proofs.YtidndbdjhapfaaaGreatDoor
