/- The reference's DecimalOf. -/
import Derived.Test.YtcnfhndejkngkaaGreatDoorJtV
set_option linter.unusedSimpArgs false
set_option linter.unusedVariables false
set_option maxRecDepth 100000
namespace Go.Proofs.YtcnfhndejkngkaaGreatDoor
open Go.RowKit LgM

theorem DC.sapp (a b : List UInt8) : (⟨a.toArray⟩ : ByteArray) ++ ⟨b.toArray⟩ = ⟨(a ++ b).toArray⟩ := by
  apply ByteArray.ext
  simp
theorem own_shapeD {B n : Nat} {w : World} {v : Value} {xs : List Value} {e : TypeId} (h : w.ownsRow B e 1 v n xs) (hn : 0 < n) : ∃ g cap, v = .slice (some ⟨g, 0, none⟩) n cap ∧ n ≤ cap ∧ ∀ j, j < n → w.cell? ⟨g, j, none⟩ = xs[j]? := by
  obtain ⟨g, cap, h1, h2, h3, h4⟩ := own_shape h hn
  refine ⟨g, cap, h1, ?_, fun j hj => (h4 j hj).1⟩
  rcases h.2 with ⟨h5, h6⟩ | ⟨g', cap', cur, h5, _, _, h6, _⟩
  · omega
  · rw [h1] at h5
    cases h5
    exact h6
theorem conv_at {W : World} {gd o cap : Nat} {T L : List UInt8} (h : ∀ j, j < T.length → W.cell? ⟨gd, j, none⟩ = (u8s T)[j]?) (hL : ∀ j, j < L.length → o + j < T.length ∧ T[o + j]? = L[j]?) : (convert 89 9 (.slice (some ⟨gd, o, none⟩) L.length cap)).run Tryz.prog W = .ok (.string ⟨L.toArray⟩) W :=
  run_convert_bytes_back W 89 9 5 ⟨gd, o, none⟩ cap L Tryz.underlying89 Tryz.underlying5 Tryz.underlying9 (fun j hj => by
    have hadd : (⟨gd, o, none⟩ : Addr).add j = ⟨gd, o + j, none⟩ := by unfold Addr.add; split <;> simp_all
    rw [hadd, h _ (hL j hj).1]
    unfold u8s
    rw [List.getElem?_map, (hL j hj).2, List.getElem?_eq_getElem hj]
    rfl)
theorem text_zeros {x : Int} {d : Nat} (h : x.natAbs % d ≠ 0) (h2 : DC.rs x.natAbs d (DC.stop x.natAbs d) = 0) : DC.text x d = (if x < 0 then [45] else []) ++ Lib.decDigits (x.natAbs / d) ++ [46] ++ DC.dtl x.natAbs d (DC.stop x.natAbs d) := by
  unfold DC.text DC.tail
  rw [if_neg h, if_pos h2, List.append_assoc _ [46]]
  rfl
theorem text_per {x : Int} {d : Nat} (h : x.natAbs % d ≠ 0) (h2 : DC.rs x.natAbs d (DC.stop x.natAbs d) ≠ 0) : DC.text x d = (if x < 0 then [45] else []) ++ Lib.decDigits (x.natAbs / d) ++ [46] ++ DC.dtl x.natAbs d (DC.back x.natAbs d) ++ [40] ++ (DC.dtl x.natAbs d (DC.stop x.natAbs d)).drop (DC.back x.natAbs d) ++ [41] := by
  unfold DC.text DC.tail
  rw [if_neg h, if_neg h2]
  simp [List.append_assoc]
theorem text_zero {x : Int} {d : Nat} (h : x.natAbs % d = 0) : DC.text x d = (if x < 0 then [45] else []) ++ Lib.decDigits (x.natAbs / d) := by
  unfold DC.text DC.tail
  rw [if_pos h, List.append_nil]

set_option maxRecDepth 100000 in
set_option maxHeartbeats 4000000 in
theorem DecimalOf_any (x : Int) (N : Nat) (w : World) (hx : x.natAbs ≤ 1000000000000000000) (hN : 1 ≤ N) (hN5 : N ≤ 5000) :
    Calls Tryz.prog 33 #[.agg #[.int .i64 x, .int .i64 (N : Int)]] w fun e w' => e = .returned (.string ⟨(DC.text x N).toArray⟩) ∧ Below w.heap.size w w' := by
  obtain ⟨i0, hi, hz0, hz1, hz2⟩ := info_parts Tryz.infoIntD
  have HI : Hid (Tryz.prog.info? 3 = some i0 ∧ i0.zero = some (.int .i64 0) ∧ i0.size = 1 ∧ i0.bytes = 8) := ⟨hi, hz0, hz1, hz2⟩
  obtain ⟨k0, hk, hx0, hx1, hx2⟩ := info_parts Tryz.infoU8
  have HP : Hid (Tryz.prog.info? 5 = some k0 ∧ k0.zero = some (.int .u8 0) ∧ k0.size = 1 ∧ k0.bytes = 1) := ⟨hk, hx0, hx1, hx2⟩
  clear hi hz0 hz1 hz2 hk hx0 hx1 hx2
  obtain ⟨U, hU⟩ : ∃ U, U = x.natAbs := ⟨_, rfl⟩
  obtain ⟨Q, hQ⟩ : ∃ Q, Q = U / N := ⟨_, rfl⟩
  obtain ⟨R0, hR0⟩ : ∃ R, R = U % N := ⟨_, rfl⟩
  obtain ⟨SG, hSG⟩ : ∃ S : ByteArray, S = ⟨(if x < 0 then [45] else [] : List UInt8).toArray⟩ := ⟨_, rfl⟩
  obtain ⟨SQ, hSQ⟩ : ∃ S : ByteArray, S = ⟨(Lib.decDigits Q).toArray⟩ := ⟨_, rfl⟩
  obtain ⟨S1, hS1⟩ : ∃ S : ByteArray, S = SG ++ SQ := ⟨_, rfl⟩
  have hQl : Q ≤ 1000000000000000000 := by rw [hQ]; exact Nat.le_trans (Nat.div_le_self _ _) (by omega)
  have hRl : R0 < N := by rw [hR0]; exact Nat.mod_lt _ (by omega)
  have HQ : Hid (Q = U / N ∧ Q ≤ 1000000000000000000) := ⟨hQ, hQl⟩
  have HSQ : Hid (SQ = ⟨(Lib.decDigits Q).toArray⟩) := hSQ
  have z1 : SG.size ≤ 1 := by rw [hSG]; split <;> decide
  have z2 : SQ.size ≤ 30 := by
    rw [hSQ]
    have := dec_pw (n := Q) (m := 3) (Nat.lt_of_le_of_lt hQl (by decide +kernel)) (by omega)
    exact this
  have hadd1 : ∀ w : World, (Op.stringOp .add SG SQ).run Tryz.prog w = .ok (.string S1) w := fun w => by
    rw [hS1]
    exact run_string_add_sum w _ _ (by omega)
  have z3 : S1.size ≤ 31 := by rw [hS1, ByteArray.size_append]; omega
  have HZ : Hid (S1.size ≤ 31) := z3
  have HTX : Hid ((R0 = 0 → (⟨(DC.text x N).toArray⟩ : ByteArray) = S1) ∧ S1 = ⟨((if x < 0 then [45] else []) ++ Lib.decDigits Q).toArray⟩) := by
    have e : S1 = ⟨((if x < 0 then [45] else []) ++ Lib.decDigits Q).toArray⟩ := by rw [hS1, hSG, hSQ, DC.sapp]
    refine ⟨fun h => ?_, e⟩
    rw [e, text_zero (by rw [← hU, ← hR0]; exact h), hQ, hU]
  have HR0 : Hid (R0 = U % N) := hR0
  have nN : ¬ N = 0 := by omega
  have nNi : ¬ (N : Int) = 0 := by omega
  have tq : Int.tdiv (U : Int) (N : Int) = (Q : Int) := by rw [hQ]; rfl
  have trm : Int.tmod (U : Int) (N : Int) = (R0 : Int) := by rw [hR0]; rfl
  have wq : IntKind.i64.wrap (Q : Int) = (Q : Int) := by rw [IntKind.wrap_i64]; omega
  have wr0 : IntKind.i64.wrap (R0 : Int) = (R0 : Int) := by rw [IntKind.wrap_i64]; omega
  clear hQ hR0 hSQ hS1 z1 z2 z3 hQl
  obtain ⟨W0, hW0⟩ : ∃ W, W = w.alloc (.cells #[.int .i64 x, .int .i64 (N : Int)] 23) := ⟨_, rfl⟩
  have K0 : Hid (Cl w.heap.size [.int .i64 x, .int .i64 (N : Int)] 23 W0 ∧ Below w.heap.size w W0) := by
    show _ ∧ _
    rw [hW0]
    exact ⟨Cl.new [.int .i64 x, .int .i64 (N : Int)] _ w, (Below.refl _ _).alloc (Nat.le_refl _) _⟩
  go_enter Tryz.func33, Tryz.ntmps33
  by_cases hneg : x < 0
  · have tn : decide (x < 0) = true := decide_eq_true hneg
    have eU : -x = (U : Int) := by omega
    have wU : IntKind.i64.wrap (U : Int) = (U : Int) := by rw [IntKind.wrap_i64]; omega
    rw [if_pos hneg] at hSG
    have hSG2 : SG = ⟨#[45]⟩ := hSG
    subst hSG2
    have HUx : Hid (U = x.natAbs) := hU
    clear hneg hU hSG hx
    go_wp2_with fail
    rw [← hW0]
    clear hW0
    refine (B_any (Q : Int) _ (by have := HQ.out.2; omega) (by have := HQ.out.2; omega)).mono ?_
    rintro e w2 ⟨bq, rfl, m2⟩
    have K2 : Hid (Cl w.heap.size [.int .i64 x, .int .i64 (N : Int)] 23 w2 ∧ BigAt w2 bq (Q : Int) ∧ Below w.heap.size w w2) := ⟨K0.out.1.below m2.2.2, m2.2.1, K0.out.2.trans (m2.2.2.mono K0.out.2.size)⟩
    clear m2 K0
    go_wp2_with fail
    have hst := IString_any bq (Q : Int) 3 w2 K2.out.2.1 (by rw [Int.natAbs_natCast]; have := HQ.out.2; exact Nat.lt_of_le_of_lt this (by decide +kernel)) (by omega) (by omega)
    rw [decZ_nat, ← HSQ.out] at hst
    refine hst.mono ?_
    clear hst
    rintro e w3 ⟨rfl, k3⟩
    have K3 : Hid (Cl w.heap.size [.int .i64 x, .int .i64 (N : Int)] 23 w3 ∧ Below w.heap.size w w3) := ⟨K2.out.1.below k3, K2.out.2.2.trans (k3.mono K2.out.2.2.size)⟩
    clear k3 K2
    have p0 := K3.out.1.cell 0
    have p1 := K3.out.1.cell 1
    simp at p0 p1
    by_cases hr0 : R0 = 0
    · have tr : ((R0 : Int) == 0) = true := by rw [hr0]; rfl
      have HR : Hid (R0 = 0) := hr0
      clear hr0
      go_wp2
      go_ret
      refine ⟨?_, K3.out.2⟩
      rw [HTX.out.1 HR.out]
      rfl
    · have tr : ((R0 : Int) == 0) = false := by rw [beq_eq_false_iff_ne]; omega
      have HR : Hid (R0 ≠ 0) := hr0
      clear hr0
      go_wp2_with (at_make; refine wpList_make_full _ rfl _ _ 65 rfl w3.heap.size 3 i0 (.int .i64 0) 1 Tryz.underlying65 HI.out.1 HI.out.2.1 HI.out.2.2.1 .i64 .i64 _ _ N rfl rfl (by omega) (by omega) (by rw [HI.out.2.2.2]; omega) (by unfold maxLen; omega) (Nat.le_refl _) ?_)
      intro w4 hown hgrow
      have HS : Hid (Dq x (N : Int) N w w4 w3.heap.size (fun _ => 0) (.slice none 0 0) 0 [] ∧ w3.heap.size = w3.heap.size) := ⟨⟨K3.out.1.grown hgrow (by simp), by have h := cl_of_makeD hown; rw [vcells_rep] at h; exact h, ⟨rfl, .inl ⟨rfl, rfl⟩⟩, K3.out.1.lt, K3.out.2.grown hgrow K3.out.2.size (by simp)⟩, rfl⟩
      clear hown hgrow K3 p0 p1 HI
      obtain ⟨g, hg⟩ : ∃ g, g = w3.heap.size := ⟨_, rfl⟩
      rw [← hg] at HS
      rw [← hg]
      clear hg
      go_wp2
      go_loopg [36] N (fun gk iv wx => ∃ i : Nat, iv = .int .i64 (i : Int) ∧ Hid (gk = N - i ∧ i ≤ N ∧ Dq x (N : Int) N w wx g (fun j => if j < i then -1 else 0) (.slice none 0 0) 0 []))
      case atStart => exact ⟨0, rfl, rfl, by omega, HS.out.1.congr (fun i _ => by simp)⟩
      case round =>
        clear HS
        obtain ⟨i, rfl, HR1⟩ := hrel
        obtain ⟨h1, h2, h3⟩ := HR1.out
        have HK : Hid (gk = N - i) := h1
        have HD : Hid (Dq x (N : Int) N w wr g (fun j => if j < i then -1 else 0) (.slice none 0 0) 0 []) := h3
        clear HR1 h1 h3
        by_cases hi : i < N
        · have ti : decide ((i : Int) < (N : Int)) = true := decide_eq_true (by omega)
          have xi : (i : Int) < (N : Int) := by omega
          have c0 : wr.cell? ⟨g, i, none⟩ = some (.int .i64 (if i < i then -1 else 0)) := by rw [HD.out.row.cell]; exact icells_at _ hi
          have f0 : wr.frozen? ⟨g, i, none⟩ = false := HD.out.row.frozen i
          have HD2 : Hid (Dq x (N : Int) N w (wr.setCell ⟨g, i, none⟩ (.int .i64 (-1))) g (fun j => if j < i + 1 then -1 else 0) (.slice none 0 0) 0 []) := (HD.out.set hi (-1)).congr (fun j _ => by
            by_cases e1 : j = i
            · rw [if_pos e1, if_pos (by omega)]
            · rw [if_neg e1]
              by_cases e2 : j < i
              · rw [if_pos e2, if_pos (by omega)]
              · rw [if_neg e2, if_neg (by omega)])
          go_wp2
          go_roundg (N - (i + 1))
          case rel => exact ⟨i + 1, by go_num, rfl, by omega, HD2.out⟩
          case measure => have := HK.out; omega
        · have ti : decide ((i : Int) < (N : Int)) = false := decide_eq_false (by omega)
          obtain rfl : i = N := by omega
          have HD2 : Hid (Dq x (i : Int) i w wr g (DC.sn U i 0) (.slice none 0 0) 0 (DC.dtl U i 0)) := HD.out.congr (fun j hj => by rw [if_pos hj]; rfl)
          clear HD ti
          go_wp2
          go_loopg [5, 8] i (fun gk rv dv wx => ∃ (n : Nat) (v : Value), rv = .int .i64 ((DC.rs U i n : Nat) : Int) ∧ dv = v ∧ Hid (gk = i - n ∧ DC.on U i n ∧ Dq x (i : Int) i w wx g (DC.sn U i n) v n (DC.dtl U i n)))
          case atStart => exact ⟨0, _, by rw [HR0.out]; rfl, rfl, rfl, fun j hj => by omega, HD2.out⟩
          case round =>
            clear HD2
            obtain ⟨n, v, rfl, hv, HR2⟩ := hrel
            have hv2 := hv.symm
            clear hv
            subst hv2
            obtain ⟨h1, h2, h3⟩ := HR2.out
            have HK : Hid (gk = i - n) := h1
            have HO : Hid (DC.on U i n ∧ n < i) := ⟨h2, DC.on_lt (by omega) h2⟩
            have HD : Hid (Dq x (i : Int) i w wr g (DC.sn U i n) v n (DC.dtl U i n)) := h3
            obtain ⟨va, vc, rfl⟩ := own_anyD h3.dig
            clear HR2 h1 h2 h3
            obtain ⟨r, hr⟩ : ∃ r, r = DC.rs U i n := ⟨_, rfl⟩
            have hri : r < i := by rw [hr]; exact DC.rs_lt (by omega) n
            have HRr : Hid (r = DC.rs U i n) := hr
            rw [← hr]
            clear hr
            have xr : (r : Int) < (i : Int) := by omega
            have c0 : wr.cell? ⟨g, r, none⟩ = some (.int .i64 (DC.sn U i n r)) := by rw [HD.out.row.cell]; exact icells_at _ hri
            have f0 : wr.frozen? ⟨g, r, none⟩ = false := HD.out.row.frozen r
            have p0 := HD.out.xs.cell 0
            have p1 := HD.out.xs.cell 1
            simp at p0 p1
            by_cases r0 : r = 0
            · have hn0 : 0 < n := by
                rcases Nat.eq_zero_or_pos n with h | h
                · have := HRr.out
                  rw [h] at this
                  have h2 := HR.out
                  rw [HR0.out] at h2
                  exact absurd (this.symm.trans r0) h2
                · exact h
              have hen : DC.ends U i n = true := (DC.ends_iff U i n).2 (.inl (by rw [← HRr.out, r0]))
              have hst := DC.stop_uniq (by omega) HO.out.1 hen
              obtain ⟨gd, cap, hv6, hcap, hcl⟩ := own_shapeD HD.out.dig hn0
              cases hv6
              have kc := conv_at (cap := vc) (W := wr) (o := 0) (L := DC.dtl U i n) (by rw [DC.dtl_len]; exact hcl) (fun j hj => ⟨by omega, by rw [Nat.zero_add]⟩)
              rw [DC.dtl_len] at kc
              obtain ⟨SD, hSD⟩ : ∃ S : ByteArray, S = ⟨(DC.dtl U i n).toArray⟩ := ⟨_, rfl⟩
              rw [← hSD] at kc
              obtain ⟨S2, hS2⟩ : ∃ S : ByteArray, S = S1 ++ ⟨#[46]⟩ := ⟨_, rfl⟩
              obtain ⟨S3, hS3⟩ : ∃ S : ByteArray, S = S2 ++ SD := ⟨_, rfl⟩
              have z4 : (⟨#[46]⟩ : ByteArray).size = 1 := rfl
              have z5 : S2.size ≤ 32 := by rw [hS2, ByteArray.size_append]; have := HZ.out; omega
              have z6 : SD.size = n := by rw [hSD]; exact DC.dtl_len U i n
              have hadd2 : ∀ w : World, (Op.stringOp .add S1 ⟨#[46]⟩).run Tryz.prog w = .ok (.string S2) w := fun w => by
                rw [hS2]
                exact run_string_add_sum w _ _ (by have := HZ.out; omega)
              have hadd3 : ∀ w : World, (Op.stringOp .add S2 SD).run Tryz.prog w = .ok (.string S3) w := fun w => by
                rw [hS3]
                exact run_string_add_sum w _ _ (by have := HO.out.2; omega)
              have HE : Hid (S3 = ⟨(DC.text x i).toArray⟩) := by
                show _ = _
                rw [hS3, hS2, hSD, HTX.out.2, show (⟨#[46]⟩ : ByteArray) = ⟨[46].toArray⟩ from rfl, DC.sapp, DC.sapp, text_zeros (x := x) (d := i) (by rw [← HUx.out, ← HR0.out]; exact HR.out) (by rw [← HUx.out, ← hst, ← HRr.out, r0]), ← HUx.out, ← hst, HQ.out.1]
              have tr0 : ((r : Int) != 0) = false := by rw [r0]; rfl
              have tr1 : ((r : Int) == 0) = true := by rw [r0]; rfl
              clear hen hst hcl hSD hS2 hS3 z4 z5 z6 r0 c0 f0
              go_wp2
              go_ret
              exact ⟨by rw [HE.out]; rfl, HD.out.k⟩
            · have tr0 : ((r : Int) != 0) = true := by simp; omega
              rcases DC.sn_or U i n r with ⟨e1, e2⟩ | ⟨k, e1, e2, e3⟩
              · have HS1 : Hid (∀ k, k < n → DC.rs U i k ≠ r) := e2
                rw [e1] at c0
                have Hr0 : Hid (r ≠ 0) := r0
                obtain ⟨D, hD⟩ : ∃ D, D = r * 10 / i := ⟨_, rfl⟩
                obtain ⟨r', hr'⟩ : ∃ r', r' = r * 10 % i := ⟨_, rfl⟩
                have hD9 : D ≤ 9 := by
                  have : D < 10 := by rw [hD, Nat.div_lt_iff_lt_mul (by omega)]; omega
                  omega
                obtain ⟨D48, hD48⟩ : ∃ D', D' = 48 + D := ⟨_, rfl⟩
                have e48 : 48 + (D : Int) = (D48 : Int) := by omega
                have l48 : D48 ≤ 57 := by omega
                have wr10 : IntKind.i64.wrap ((r * 10 : Nat) : Int) = ((r * 10 : Nat) : Int) := by rw [IntKind.wrap_i64]; omega
                obtain ⟨T, hT⟩ : ∃ T, T = r * 10 := ⟨_, rfl⟩
                have eT : (r : Int) * 10 = (T : Int) := by omega
                have wT : IntKind.i64.wrap (T : Int) = (T : Int) := by rw [IntKind.wrap_i64]; omega
                have tqT : Int.tdiv (T : Int) (i : Int) = (D : Int) := by rw [hD, hT]; rfl
                have trT : Int.tmod (T : Int) (i : Int) = (r' : Int) := by rw [hr', hT]; rfl
                have wD : IntKind.i64.wrap (D : Int) = (D : Int) := by rw [IntKind.wrap_i64]; omega
                have w48 : IntKind.i64.wrap (D48 : Int) = (D48 : Int) := by rw [IntKind.wrap_i64]; omega
                have w48u : IntKind.u8.wrap (D48 : Int) = (D48 : Int) := by rw [IntKind.wrap_u8]; omega
                have hrl' : r' < i := by rw [hr']; exact Nat.mod_lt _ (by omega)
                have wr' : IntKind.i64.wrap (r' : Int) = (r' : Int) := by rw [IntKind.wrap_i64]; omega
                have HD48 : Hid (((UInt8.ofNat D48).toNat : Int) = (D48 : Int)) := by
                  show _ = _
                  rw [UInt8.toNat_ofNat', Nat.mod_eq_of_lt (by omega)]
                have HNx : Hid (DC.rs U i (n + 1) = r' ∧ DC.dtl U i (n + 1) = DC.dtl U i n ++ [UInt8.ofNat D48] ∧ DC.on U i (n + 1)) := by
                  refine ⟨?_, ?_, ?_⟩
                  · show DC.rs U i n * 10 % i = r'
                    rw [← HRr.out, hr']
                  · rw [DC.dtl_succ, hD48, hD]
                    unfold DC.dg
                    rw [← HRr.out]
                  · intro j hj
                    by_cases ej : j = n
                    · subst ej
                      have : ¬ DC.ends U i j = true := by
                        rw [DC.ends_iff, ← HRr.out]
                        rintro (h | ⟨a, h1, h2⟩)
                        · exact Hr0.out h
                        · exact HS1.out a h1 h2
                      simpa using this
                    · exact HO.out.1 j (by omega)
                have HD1 : Hid (Dq x (i : Int) i w (wr.setCell ⟨g, r, none⟩ (.int .i64 (n : Int))) g (DC.sn U i (n + 1)) (.slice va n vc) n (DC.dtl U i n)) := (HD.out.set hri (n : Int)).congr (fun j _ => by
                  show _ = if j = DC.rs U i n then (n : Int) else DC.sn U i n j
                  rw [← HRr.out])
                have hne1 : ¬ w.heap.size = g := by have := HD.out.g0; omega
                have hne2 : ¬ g = w.heap.size := by have := HD.out.g0; omega
                clear hD hr' hD48 hT e1 e2 hrl' wr10 HS1 r0
                go_wp2_with (at_builtin; refine wpList_append_own _ rfl _ _ 89 rfl (g + 1) 5 k0 (.int .u8 0) 1 1 Tryz.underlying89 HP.out.1 HP.out.2.1 HP.out.2.2.1 HP.out.2.2.2 rfl (by decide) (.slice va n vc) n (u8s (DC.dtl U i n)) rfl (HD1.out.dig.alloc _) ⟨wr.heap.size, 0, none⟩ 1 1 [.int .u8 (D48 : Int)] rfl rfl (by have h := own_news (Cl.new [.int .u8 (D48 : Int)] 5 (wr.setCell ⟨g, r, none⟩ (.int .i64 (n : Int)))); rw [World.size_setCell] at h; exact h) (by simp [Value.oneCell']) (by have := HO.out.2; simp only [maxLen]; omega) (by have := HO.out.2; omega) (by have := HD1.out.row.lt; simp at this ⊢; omega) ?_; intro v' w6 hown' hgrow _; have HO6 : Hid (Dq x (i : Int) i w w6 g (DC.sn U i (n + 1)) v' (n + 1) (DC.dtl U i n ++ [UInt8.ofNat D48])) := HD1.out.more _ (by rw [HD48.out]; exact hown') hgrow; clear hown' hgrow p0 p1; have p0 := HO6.out.xs.cell 0; have p1 := HO6.out.xs.cell 1; simp at p0 p1)
                go_roundg (i - (n + 1))
                case rel => exact ⟨n + 1, _, by rw [HNx.out.1], rfl, rfl, HNx.out.2.2, by rw [HNx.out.2.1]; exact HO6.out⟩
                case measure => have := HK.out; have := HO.out.2; omega
              · have hn0 : 0 < n := by omega
                have hen : DC.ends U i n = true := (DC.ends_iff U i n).2 (.inr ⟨k, e1, by rw [e3, HRr.out]⟩)
                have hst := DC.stop_uniq (by omega) HO.out.1 hen
                have hbk := DC.back_is (u := U) (d := i) (k := k) (by omega) (by rw [← hst]; exact e1) (by rw [← hst, e3, HRr.out])
                obtain ⟨gd, cap, hv6, hcap, hcl⟩ := own_shapeD HD.out.dig hn0
                cases hv6
                rw [e2] at c0
                obtain ⟨m, hm⟩ : ∃ m, m = n - k := ⟨_, rfl⟩
                have hL1 : (DC.dtl U i k).length = k := DC.dtl_len U i k
                have hL2 : ((DC.dtl U i n).drop k).length = m := by rw [List.length_drop, DC.dtl_len, hm]
                have hTk : (DC.dtl U i n).take k = DC.dtl U i k := DC.dtl_take (by omega)
                obtain ⟨SA, hSA⟩ : ∃ S : ByteArray, S = ⟨(DC.dtl U i k).toArray⟩ := ⟨_, rfl⟩
                obtain ⟨SB, hSB⟩ : ∃ S : ByteArray, S = ⟨((DC.dtl U i n).drop k).toArray⟩ := ⟨_, rfl⟩
                have kcA : ∀ M : Nat, (convert 89 9 (.slice (some ⟨gd, 0, none⟩) k vc)).run Tryz.prog (wr.drewN M) = .ok (.string SA) (wr.drewN M) := fun M => by
                  have h := conv_at (cap := vc) (W := wr.drewN M) (o := 0) (T := DC.dtl U i n) (L := DC.dtl U i k) (by rw [DC.dtl_len]; exact fun j hj => (by simp : (wr.drewN M).cell? ⟨gd, j, none⟩ = wr.cell? ⟨gd, j, none⟩).trans (hcl j hj)) (fun j hj => ⟨by rw [DC.dtl_len]; omega, by rw [← hTk, Nat.zero_add, List.getElem?_take, if_pos (by omega)]⟩)
                  rw [hL1, ← hSA] at h
                  exact h
                have kcB : ∀ M : Nat, (convert 89 9 (.slice (some ⟨gd, k, none⟩) m (vc - k))).run Tryz.prog (wr.drewN M) = .ok (.string SB) (wr.drewN M) := fun M => by
                  have h := conv_at (cap := vc - k) (W := wr.drewN M) (o := k) (T := DC.dtl U i n) (L := (DC.dtl U i n).drop k) (by rw [DC.dtl_len]; exact fun j hj => (by simp : (wr.drewN M).cell? ⟨gd, j, none⟩ = wr.cell? ⟨gd, j, none⟩).trans (hcl j hj)) (fun j hj => ⟨by rw [DC.dtl_len]; omega, by rw [List.getElem?_drop]⟩)
                  rw [hL2, ← hSB] at h
                  exact h
                obtain ⟨S2, hS2⟩ : ∃ S : ByteArray, S = S1 ++ ⟨#[46]⟩ := ⟨_, rfl⟩
                obtain ⟨S3, hS3⟩ : ∃ S : ByteArray, S = S2 ++ SA := ⟨_, rfl⟩
                obtain ⟨S4, hS4⟩ : ∃ S : ByteArray, S = S3 ++ ⟨#[40]⟩ := ⟨_, rfl⟩
                obtain ⟨S5, hS5⟩ : ∃ S : ByteArray, S = S4 ++ SB := ⟨_, rfl⟩
                obtain ⟨S6, hS6⟩ : ∃ S : ByteArray, S = S5 ++ ⟨#[41]⟩ := ⟨_, rfl⟩
                have y1 : (⟨#[46]⟩ : ByteArray).size = 1 := rfl
                have y2 : (⟨#[40]⟩ : ByteArray).size = 1 := rfl
                have y3 : (⟨#[41]⟩ : ByteArray).size = 1 := rfl
                have y4 : SA.size = k := by rw [hSA]; exact hL1
                have y5 : SB.size = m := by rw [hSB]; exact hL2
                have y6 : S2.size ≤ 32 := by rw [hS2, ByteArray.size_append]; have := HZ.out; omega
                have y7 : S3.size ≤ 5032 := by rw [hS3, ByteArray.size_append]; have := HO.out.2; omega
                have y8 : S4.size ≤ 5033 := by rw [hS4, ByteArray.size_append]; omega
                have y9 : S5.size ≤ 10033 := by rw [hS5, ByteArray.size_append]; have := HO.out.2; omega
                have hadd2 : ∀ w : World, (Op.stringOp .add S1 ⟨#[46]⟩).run Tryz.prog w = .ok (.string S2) w := fun w => by
                  rw [hS2]
                  exact run_string_add_sum w _ _ (by have := HZ.out; omega)
                have hadd3 : ∀ w : World, (Op.stringOp .add S2 SA).run Tryz.prog w = .ok (.string S3) w := fun w => by
                  rw [hS3]
                  exact run_string_add_sum w _ _ (by have := HO.out.2; omega)
                have hadd4 : ∀ w : World, (Op.stringOp .add S3 ⟨#[40]⟩).run Tryz.prog w = .ok (.string S4) w := fun w => by
                  rw [hS4]
                  exact run_string_add_sum w _ _ (by omega)
                have hadd5 : ∀ w : World, (Op.stringOp .add S4 SB).run Tryz.prog w = .ok (.string S5) w := fun w => by
                  rw [hS5]
                  exact run_string_add_sum w _ _ (by have := HO.out.2; omega)
                have hadd6 : ∀ w : World, (Op.stringOp .add S5 ⟨#[41]⟩).run Tryz.prog w = .ok (.string S6) w := fun w => by
                  rw [hS6]
                  exact run_string_add_sum w _ _ (by omega)
                have HE : Hid (S6 = ⟨(DC.text x i).toArray⟩) := by
                  show _ = _
                  rw [hS6, hS5, hS4, hS3, hS2, hSA, hSB, HTX.out.2, show (⟨#[46]⟩ : ByteArray) = ⟨[46].toArray⟩ from rfl, show (⟨#[40]⟩ : ByteArray) = ⟨[40].toArray⟩ from rfl, show (⟨#[41]⟩ : ByteArray) = ⟨[41].toArray⟩ from rfl, DC.sapp, DC.sapp, DC.sapp, DC.sapp, DC.sapp, text_per (x := x) (d := i) (by rw [← HUx.out, ← HR0.out]; exact HR.out) (by rw [← HUx.out, ← hst, ← HRr.out]; exact r0), ← HUx.out, ← hst, hbk, HQ.out.1]
                have tk : decide ((k : Int) < 0) = false := decide_eq_false (by omega)
                have tr1 : ((r : Int) == 0) = false := by rw [beq_eq_false_iff_ne]; omega
                have hk1 : k ≤ vc := by omega
                have hk2 : k ≤ n := by omega
                have hmk : n - k = m := hm.symm
                clear hen hst hbk hcl hSA hSB hS2 hS3 hS4 hS5 hS6 y1 y2 y3 y4 y5 y6 y7 y8 y9 e2 e3 hL1 hL2 hTk hm
                have HDk : Hid (Below w.heap.size w wr) := HD.out.k
                have hk1i : (k : Int) ≤ (vc : Int) := by omega
                have hk2i : (k : Int) ≤ (n : Int) := by omega
                have hk3i : (n : Int) ≤ (vc : Int) := by omega
                have hvk : ¬ vc = k := by omega
                have haddk : (⟨gd, 0, none⟩ : Addr).add k = ⟨gd, k, none⟩ := by unfold Addr.add; split <;> simp_all
                go_wp2_with fail
                go_quiet (fail)
                go_wp2
                go_ret
                exact ⟨by rw [HE.out]; rfl, below_drewN' HDk.out⟩
  · have tn : decide (x < 0) = false := decide_eq_false hneg
    have eX : x = (U : Int) := by omega
    have tqx : Int.tdiv x (N : Int) = (Q : Int) := by rw [eX]; exact tq
    have trx : Int.tmod x (N : Int) = (R0 : Int) := by rw [eX]; exact trm
    rw [if_neg hneg] at hSG
    have hSG2 : SG = ⟨#[]⟩ := hSG
    subst hSG2
    have HUx : Hid (U = x.natAbs) := hU
    clear hneg hU hSG hx eX tq trm
    go_wp2_with fail
    rw [← hW0]
    clear hW0
    refine (B_any (Q : Int) _ (by have := HQ.out.2; omega) (by have := HQ.out.2; omega)).mono ?_
    rintro e w2 ⟨bq, rfl, m2⟩
    have K2 : Hid (Cl w.heap.size [.int .i64 x, .int .i64 (N : Int)] 23 w2 ∧ BigAt w2 bq (Q : Int) ∧ Below w.heap.size w w2) := ⟨K0.out.1.below m2.2.2, m2.2.1, K0.out.2.trans (m2.2.2.mono K0.out.2.size)⟩
    clear m2 K0
    go_wp2_with fail
    have hst := IString_any bq (Q : Int) 3 w2 K2.out.2.1 (by rw [Int.natAbs_natCast]; have := HQ.out.2; exact Nat.lt_of_le_of_lt this (by decide +kernel)) (by omega) (by omega)
    rw [decZ_nat, ← HSQ.out] at hst
    refine hst.mono ?_
    clear hst
    rintro e w3 ⟨rfl, k3⟩
    have K3 : Hid (Cl w.heap.size [.int .i64 x, .int .i64 (N : Int)] 23 w3 ∧ Below w.heap.size w w3) := ⟨K2.out.1.below k3, K2.out.2.2.trans (k3.mono K2.out.2.2.size)⟩
    clear k3 K2
    have p0 := K3.out.1.cell 0
    have p1 := K3.out.1.cell 1
    simp at p0 p1
    by_cases hr0 : R0 = 0
    · have tr : ((R0 : Int) == 0) = true := by rw [hr0]; rfl
      have HR : Hid (R0 = 0) := hr0
      clear hr0
      go_wp2
      go_ret
      refine ⟨?_, K3.out.2⟩
      rw [HTX.out.1 HR.out]
      rfl
    · have tr : ((R0 : Int) == 0) = false := by rw [beq_eq_false_iff_ne]; omega
      have HR : Hid (R0 ≠ 0) := hr0
      clear hr0
      go_wp2_with (at_make; refine wpList_make_full _ rfl _ _ 65 rfl w3.heap.size 3 i0 (.int .i64 0) 1 Tryz.underlying65 HI.out.1 HI.out.2.1 HI.out.2.2.1 .i64 .i64 _ _ N rfl rfl (by omega) (by omega) (by rw [HI.out.2.2.2]; omega) (by unfold maxLen; omega) (Nat.le_refl _) ?_)
      intro w4 hown hgrow
      have HS : Hid (Dq x (N : Int) N w w4 w3.heap.size (fun _ => 0) (.slice none 0 0) 0 [] ∧ w3.heap.size = w3.heap.size) := ⟨⟨K3.out.1.grown hgrow (by simp), by have h := cl_of_makeD hown; rw [vcells_rep] at h; exact h, ⟨rfl, .inl ⟨rfl, rfl⟩⟩, K3.out.1.lt, K3.out.2.grown hgrow K3.out.2.size (by simp)⟩, rfl⟩
      clear hown hgrow K3 p0 p1 HI
      obtain ⟨g, hg⟩ : ∃ g, g = w3.heap.size := ⟨_, rfl⟩
      rw [← hg] at HS
      rw [← hg]
      clear hg
      go_wp2
      go_loopg [36] N (fun gk iv wx => ∃ i : Nat, iv = .int .i64 (i : Int) ∧ Hid (gk = N - i ∧ i ≤ N ∧ Dq x (N : Int) N w wx g (fun j => if j < i then -1 else 0) (.slice none 0 0) 0 []))
      case atStart => exact ⟨0, rfl, rfl, by omega, HS.out.1.congr (fun i _ => by simp)⟩
      case round =>
        clear HS
        obtain ⟨i, rfl, HR1⟩ := hrel
        obtain ⟨h1, h2, h3⟩ := HR1.out
        have HK : Hid (gk = N - i) := h1
        have HD : Hid (Dq x (N : Int) N w wr g (fun j => if j < i then -1 else 0) (.slice none 0 0) 0 []) := h3
        clear HR1 h1 h3
        by_cases hi : i < N
        · have ti : decide ((i : Int) < (N : Int)) = true := decide_eq_true (by omega)
          have xi : (i : Int) < (N : Int) := by omega
          have c0 : wr.cell? ⟨g, i, none⟩ = some (.int .i64 (if i < i then -1 else 0)) := by rw [HD.out.row.cell]; exact icells_at _ hi
          have f0 : wr.frozen? ⟨g, i, none⟩ = false := HD.out.row.frozen i
          have HD2 : Hid (Dq x (N : Int) N w (wr.setCell ⟨g, i, none⟩ (.int .i64 (-1))) g (fun j => if j < i + 1 then -1 else 0) (.slice none 0 0) 0 []) := (HD.out.set hi (-1)).congr (fun j _ => by
            by_cases e1 : j = i
            · rw [if_pos e1, if_pos (by omega)]
            · rw [if_neg e1]
              by_cases e2 : j < i
              · rw [if_pos e2, if_pos (by omega)]
              · rw [if_neg e2, if_neg (by omega)])
          go_wp2
          go_roundg (N - (i + 1))
          case rel => exact ⟨i + 1, by go_num, rfl, by omega, HD2.out⟩
          case measure => have := HK.out; omega
        · have ti : decide ((i : Int) < (N : Int)) = false := decide_eq_false (by omega)
          obtain rfl : i = N := by omega
          have HD2 : Hid (Dq x (i : Int) i w wr g (DC.sn U i 0) (.slice none 0 0) 0 (DC.dtl U i 0)) := HD.out.congr (fun j hj => by rw [if_pos hj]; rfl)
          clear HD ti
          go_wp2
          go_loopg [5, 8] i (fun gk rv dv wx => ∃ (n : Nat) (v : Value), rv = .int .i64 ((DC.rs U i n : Nat) : Int) ∧ dv = v ∧ Hid (gk = i - n ∧ DC.on U i n ∧ Dq x (i : Int) i w wx g (DC.sn U i n) v n (DC.dtl U i n)))
          case atStart => exact ⟨0, _, by rw [HR0.out]; rfl, rfl, rfl, fun j hj => by omega, HD2.out⟩
          case round =>
            clear HD2
            obtain ⟨n, v, rfl, hv, HR2⟩ := hrel
            have hv2 := hv.symm
            clear hv
            subst hv2
            obtain ⟨h1, h2, h3⟩ := HR2.out
            have HK : Hid (gk = i - n) := h1
            have HO : Hid (DC.on U i n ∧ n < i) := ⟨h2, DC.on_lt (by omega) h2⟩
            have HD : Hid (Dq x (i : Int) i w wr g (DC.sn U i n) v n (DC.dtl U i n)) := h3
            obtain ⟨va, vc, rfl⟩ := own_anyD h3.dig
            clear HR2 h1 h2 h3
            obtain ⟨r, hr⟩ : ∃ r, r = DC.rs U i n := ⟨_, rfl⟩
            have hri : r < i := by rw [hr]; exact DC.rs_lt (by omega) n
            have HRr : Hid (r = DC.rs U i n) := hr
            rw [← hr]
            clear hr
            have xr : (r : Int) < (i : Int) := by omega
            have c0 : wr.cell? ⟨g, r, none⟩ = some (.int .i64 (DC.sn U i n r)) := by rw [HD.out.row.cell]; exact icells_at _ hri
            have f0 : wr.frozen? ⟨g, r, none⟩ = false := HD.out.row.frozen r
            have p0 := HD.out.xs.cell 0
            have p1 := HD.out.xs.cell 1
            simp at p0 p1
            by_cases r0 : r = 0
            · have hn0 : 0 < n := by
                rcases Nat.eq_zero_or_pos n with h | h
                · have := HRr.out
                  rw [h] at this
                  have h2 := HR.out
                  rw [HR0.out] at h2
                  exact absurd (this.symm.trans r0) h2
                · exact h
              have hen : DC.ends U i n = true := (DC.ends_iff U i n).2 (.inl (by rw [← HRr.out, r0]))
              have hst := DC.stop_uniq (by omega) HO.out.1 hen
              obtain ⟨gd, cap, hv6, hcap, hcl⟩ := own_shapeD HD.out.dig hn0
              cases hv6
              have kc := conv_at (cap := vc) (W := wr) (o := 0) (L := DC.dtl U i n) (by rw [DC.dtl_len]; exact hcl) (fun j hj => ⟨by omega, by rw [Nat.zero_add]⟩)
              rw [DC.dtl_len] at kc
              obtain ⟨SD, hSD⟩ : ∃ S : ByteArray, S = ⟨(DC.dtl U i n).toArray⟩ := ⟨_, rfl⟩
              rw [← hSD] at kc
              obtain ⟨S2, hS2⟩ : ∃ S : ByteArray, S = S1 ++ ⟨#[46]⟩ := ⟨_, rfl⟩
              obtain ⟨S3, hS3⟩ : ∃ S : ByteArray, S = S2 ++ SD := ⟨_, rfl⟩
              have z4 : (⟨#[46]⟩ : ByteArray).size = 1 := rfl
              have z5 : S2.size ≤ 32 := by rw [hS2, ByteArray.size_append]; have := HZ.out; omega
              have z6 : SD.size = n := by rw [hSD]; exact DC.dtl_len U i n
              have hadd2 : ∀ w : World, (Op.stringOp .add S1 ⟨#[46]⟩).run Tryz.prog w = .ok (.string S2) w := fun w => by
                rw [hS2]
                exact run_string_add_sum w _ _ (by have := HZ.out; omega)
              have hadd3 : ∀ w : World, (Op.stringOp .add S2 SD).run Tryz.prog w = .ok (.string S3) w := fun w => by
                rw [hS3]
                exact run_string_add_sum w _ _ (by have := HO.out.2; omega)
              have HE : Hid (S3 = ⟨(DC.text x i).toArray⟩) := by
                show _ = _
                rw [hS3, hS2, hSD, HTX.out.2, show (⟨#[46]⟩ : ByteArray) = ⟨[46].toArray⟩ from rfl, DC.sapp, DC.sapp, text_zeros (x := x) (d := i) (by rw [← HUx.out, ← HR0.out]; exact HR.out) (by rw [← HUx.out, ← hst, ← HRr.out, r0]), ← HUx.out, ← hst, HQ.out.1]
              have tr0 : ((r : Int) != 0) = false := by rw [r0]; rfl
              have tr1 : ((r : Int) == 0) = true := by rw [r0]; rfl
              clear hen hst hcl hSD hS2 hS3 z4 z5 z6 r0 c0 f0
              go_wp2
              go_ret
              exact ⟨by rw [HE.out]; rfl, HD.out.k⟩
            · have tr0 : ((r : Int) != 0) = true := by simp; omega
              rcases DC.sn_or U i n r with ⟨e1, e2⟩ | ⟨k, e1, e2, e3⟩
              · have HS1 : Hid (∀ k, k < n → DC.rs U i k ≠ r) := e2
                rw [e1] at c0
                have Hr0 : Hid (r ≠ 0) := r0
                obtain ⟨D, hD⟩ : ∃ D, D = r * 10 / i := ⟨_, rfl⟩
                obtain ⟨r', hr'⟩ : ∃ r', r' = r * 10 % i := ⟨_, rfl⟩
                have hD9 : D ≤ 9 := by
                  have : D < 10 := by rw [hD, Nat.div_lt_iff_lt_mul (by omega)]; omega
                  omega
                obtain ⟨D48, hD48⟩ : ∃ D', D' = 48 + D := ⟨_, rfl⟩
                have e48 : 48 + (D : Int) = (D48 : Int) := by omega
                have l48 : D48 ≤ 57 := by omega
                have wr10 : IntKind.i64.wrap ((r * 10 : Nat) : Int) = ((r * 10 : Nat) : Int) := by rw [IntKind.wrap_i64]; omega
                obtain ⟨T, hT⟩ : ∃ T, T = r * 10 := ⟨_, rfl⟩
                have eT : (r : Int) * 10 = (T : Int) := by omega
                have wT : IntKind.i64.wrap (T : Int) = (T : Int) := by rw [IntKind.wrap_i64]; omega
                have tqT : Int.tdiv (T : Int) (i : Int) = (D : Int) := by rw [hD, hT]; rfl
                have trT : Int.tmod (T : Int) (i : Int) = (r' : Int) := by rw [hr', hT]; rfl
                have wD : IntKind.i64.wrap (D : Int) = (D : Int) := by rw [IntKind.wrap_i64]; omega
                have w48 : IntKind.i64.wrap (D48 : Int) = (D48 : Int) := by rw [IntKind.wrap_i64]; omega
                have w48u : IntKind.u8.wrap (D48 : Int) = (D48 : Int) := by rw [IntKind.wrap_u8]; omega
                have hrl' : r' < i := by rw [hr']; exact Nat.mod_lt _ (by omega)
                have wr' : IntKind.i64.wrap (r' : Int) = (r' : Int) := by rw [IntKind.wrap_i64]; omega
                have HD48 : Hid (((UInt8.ofNat D48).toNat : Int) = (D48 : Int)) := by
                  show _ = _
                  rw [UInt8.toNat_ofNat', Nat.mod_eq_of_lt (by omega)]
                have HNx : Hid (DC.rs U i (n + 1) = r' ∧ DC.dtl U i (n + 1) = DC.dtl U i n ++ [UInt8.ofNat D48] ∧ DC.on U i (n + 1)) := by
                  refine ⟨?_, ?_, ?_⟩
                  · show DC.rs U i n * 10 % i = r'
                    rw [← HRr.out, hr']
                  · rw [DC.dtl_succ, hD48, hD]
                    unfold DC.dg
                    rw [← HRr.out]
                  · intro j hj
                    by_cases ej : j = n
                    · subst ej
                      have : ¬ DC.ends U i j = true := by
                        rw [DC.ends_iff, ← HRr.out]
                        rintro (h | ⟨a, h1, h2⟩)
                        · exact Hr0.out h
                        · exact HS1.out a h1 h2
                      simpa using this
                    · exact HO.out.1 j (by omega)
                have HD1 : Hid (Dq x (i : Int) i w (wr.setCell ⟨g, r, none⟩ (.int .i64 (n : Int))) g (DC.sn U i (n + 1)) (.slice va n vc) n (DC.dtl U i n)) := (HD.out.set hri (n : Int)).congr (fun j _ => by
                  show _ = if j = DC.rs U i n then (n : Int) else DC.sn U i n j
                  rw [← HRr.out])
                have hne1 : ¬ w.heap.size = g := by have := HD.out.g0; omega
                have hne2 : ¬ g = w.heap.size := by have := HD.out.g0; omega
                clear hD hr' hD48 hT e1 e2 hrl' wr10 HS1 r0
                go_wp2_with (at_builtin; refine wpList_append_own _ rfl _ _ 89 rfl (g + 1) 5 k0 (.int .u8 0) 1 1 Tryz.underlying89 HP.out.1 HP.out.2.1 HP.out.2.2.1 HP.out.2.2.2 rfl (by decide) (.slice va n vc) n (u8s (DC.dtl U i n)) rfl (HD1.out.dig.alloc _) ⟨wr.heap.size, 0, none⟩ 1 1 [.int .u8 (D48 : Int)] rfl rfl (by have h := own_news (Cl.new [.int .u8 (D48 : Int)] 5 (wr.setCell ⟨g, r, none⟩ (.int .i64 (n : Int)))); rw [World.size_setCell] at h; exact h) (by simp [Value.oneCell']) (by have := HO.out.2; simp only [maxLen]; omega) (by have := HO.out.2; omega) (by have := HD1.out.row.lt; simp at this ⊢; omega) ?_; intro v' w6 hown' hgrow _; have HO6 : Hid (Dq x (i : Int) i w w6 g (DC.sn U i (n + 1)) v' (n + 1) (DC.dtl U i n ++ [UInt8.ofNat D48])) := HD1.out.more _ (by rw [HD48.out]; exact hown') hgrow; clear hown' hgrow p0 p1; have p0 := HO6.out.xs.cell 0; have p1 := HO6.out.xs.cell 1; simp at p0 p1)
                go_roundg (i - (n + 1))
                case rel => exact ⟨n + 1, _, by rw [HNx.out.1], rfl, rfl, HNx.out.2.2, by rw [HNx.out.2.1]; exact HO6.out⟩
                case measure => have := HK.out; have := HO.out.2; omega
              · have hn0 : 0 < n := by omega
                have hen : DC.ends U i n = true := (DC.ends_iff U i n).2 (.inr ⟨k, e1, by rw [e3, HRr.out]⟩)
                have hst := DC.stop_uniq (by omega) HO.out.1 hen
                have hbk := DC.back_is (u := U) (d := i) (k := k) (by omega) (by rw [← hst]; exact e1) (by rw [← hst, e3, HRr.out])
                obtain ⟨gd, cap, hv6, hcap, hcl⟩ := own_shapeD HD.out.dig hn0
                cases hv6
                rw [e2] at c0
                obtain ⟨m, hm⟩ : ∃ m, m = n - k := ⟨_, rfl⟩
                have hL1 : (DC.dtl U i k).length = k := DC.dtl_len U i k
                have hL2 : ((DC.dtl U i n).drop k).length = m := by rw [List.length_drop, DC.dtl_len, hm]
                have hTk : (DC.dtl U i n).take k = DC.dtl U i k := DC.dtl_take (by omega)
                obtain ⟨SA, hSA⟩ : ∃ S : ByteArray, S = ⟨(DC.dtl U i k).toArray⟩ := ⟨_, rfl⟩
                obtain ⟨SB, hSB⟩ : ∃ S : ByteArray, S = ⟨((DC.dtl U i n).drop k).toArray⟩ := ⟨_, rfl⟩
                have kcA : ∀ M : Nat, (convert 89 9 (.slice (some ⟨gd, 0, none⟩) k vc)).run Tryz.prog (wr.drewN M) = .ok (.string SA) (wr.drewN M) := fun M => by
                  have h := conv_at (cap := vc) (W := wr.drewN M) (o := 0) (T := DC.dtl U i n) (L := DC.dtl U i k) (by rw [DC.dtl_len]; exact fun j hj => (by simp : (wr.drewN M).cell? ⟨gd, j, none⟩ = wr.cell? ⟨gd, j, none⟩).trans (hcl j hj)) (fun j hj => ⟨by rw [DC.dtl_len]; omega, by rw [← hTk, Nat.zero_add, List.getElem?_take, if_pos (by omega)]⟩)
                  rw [hL1, ← hSA] at h
                  exact h
                have kcB : ∀ M : Nat, (convert 89 9 (.slice (some ⟨gd, k, none⟩) m (vc - k))).run Tryz.prog (wr.drewN M) = .ok (.string SB) (wr.drewN M) := fun M => by
                  have h := conv_at (cap := vc - k) (W := wr.drewN M) (o := k) (T := DC.dtl U i n) (L := (DC.dtl U i n).drop k) (by rw [DC.dtl_len]; exact fun j hj => (by simp : (wr.drewN M).cell? ⟨gd, j, none⟩ = wr.cell? ⟨gd, j, none⟩).trans (hcl j hj)) (fun j hj => ⟨by rw [DC.dtl_len]; omega, by rw [List.getElem?_drop]⟩)
                  rw [hL2, ← hSB] at h
                  exact h
                obtain ⟨S2, hS2⟩ : ∃ S : ByteArray, S = S1 ++ ⟨#[46]⟩ := ⟨_, rfl⟩
                obtain ⟨S3, hS3⟩ : ∃ S : ByteArray, S = S2 ++ SA := ⟨_, rfl⟩
                obtain ⟨S4, hS4⟩ : ∃ S : ByteArray, S = S3 ++ ⟨#[40]⟩ := ⟨_, rfl⟩
                obtain ⟨S5, hS5⟩ : ∃ S : ByteArray, S = S4 ++ SB := ⟨_, rfl⟩
                obtain ⟨S6, hS6⟩ : ∃ S : ByteArray, S = S5 ++ ⟨#[41]⟩ := ⟨_, rfl⟩
                have y1 : (⟨#[46]⟩ : ByteArray).size = 1 := rfl
                have y2 : (⟨#[40]⟩ : ByteArray).size = 1 := rfl
                have y3 : (⟨#[41]⟩ : ByteArray).size = 1 := rfl
                have y4 : SA.size = k := by rw [hSA]; exact hL1
                have y5 : SB.size = m := by rw [hSB]; exact hL2
                have y6 : S2.size ≤ 32 := by rw [hS2, ByteArray.size_append]; have := HZ.out; omega
                have y7 : S3.size ≤ 5032 := by rw [hS3, ByteArray.size_append]; have := HO.out.2; omega
                have y8 : S4.size ≤ 5033 := by rw [hS4, ByteArray.size_append]; omega
                have y9 : S5.size ≤ 10033 := by rw [hS5, ByteArray.size_append]; have := HO.out.2; omega
                have hadd2 : ∀ w : World, (Op.stringOp .add S1 ⟨#[46]⟩).run Tryz.prog w = .ok (.string S2) w := fun w => by
                  rw [hS2]
                  exact run_string_add_sum w _ _ (by have := HZ.out; omega)
                have hadd3 : ∀ w : World, (Op.stringOp .add S2 SA).run Tryz.prog w = .ok (.string S3) w := fun w => by
                  rw [hS3]
                  exact run_string_add_sum w _ _ (by have := HO.out.2; omega)
                have hadd4 : ∀ w : World, (Op.stringOp .add S3 ⟨#[40]⟩).run Tryz.prog w = .ok (.string S4) w := fun w => by
                  rw [hS4]
                  exact run_string_add_sum w _ _ (by omega)
                have hadd5 : ∀ w : World, (Op.stringOp .add S4 SB).run Tryz.prog w = .ok (.string S5) w := fun w => by
                  rw [hS5]
                  exact run_string_add_sum w _ _ (by have := HO.out.2; omega)
                have hadd6 : ∀ w : World, (Op.stringOp .add S5 ⟨#[41]⟩).run Tryz.prog w = .ok (.string S6) w := fun w => by
                  rw [hS6]
                  exact run_string_add_sum w _ _ (by omega)
                have HE : Hid (S6 = ⟨(DC.text x i).toArray⟩) := by
                  show _ = _
                  rw [hS6, hS5, hS4, hS3, hS2, hSA, hSB, HTX.out.2, show (⟨#[46]⟩ : ByteArray) = ⟨[46].toArray⟩ from rfl, show (⟨#[40]⟩ : ByteArray) = ⟨[40].toArray⟩ from rfl, show (⟨#[41]⟩ : ByteArray) = ⟨[41].toArray⟩ from rfl, DC.sapp, DC.sapp, DC.sapp, DC.sapp, DC.sapp, text_per (x := x) (d := i) (by rw [← HUx.out, ← HR0.out]; exact HR.out) (by rw [← HUx.out, ← hst, ← HRr.out]; exact r0), ← HUx.out, ← hst, hbk, HQ.out.1]
                have tk : decide ((k : Int) < 0) = false := decide_eq_false (by omega)
                have tr1 : ((r : Int) == 0) = false := by rw [beq_eq_false_iff_ne]; omega
                have hk1 : k ≤ vc := by omega
                have hk2 : k ≤ n := by omega
                have hmk : n - k = m := hm.symm
                clear hen hst hbk hcl hSA hSB hS2 hS3 hS4 hS5 hS6 y1 y2 y3 y4 y5 y6 y7 y8 y9 e2 e3 hL1 hL2 hTk hm
                have HDk : Hid (Below w.heap.size w wr) := HD.out.k
                have hk1i : (k : Int) ≤ (vc : Int) := by omega
                have hk2i : (k : Int) ≤ (n : Int) := by omega
                have hk3i : (n : Int) ≤ (vc : Int) := by omega
                have hvk : ¬ vc = k := by omega
                have haddk : (⟨gd, 0, none⟩ : Addr).add k = ⟨gd, k, none⟩ := by unfold Addr.add; split <;> simp_all
                go_wp2_with fail
                go_quiet (fail)
                go_wp2
                go_ret
                exact ⟨by rw [HE.out]; rfl, below_drewN' HDk.out⟩
end Go.Proofs.YtcnfhndejkngkaaGreatDoor
