/- Contracts: (*Int).Text in base 10, (*Int).String. -/
import Derived.Test.YtcnfhndejkngkaaGreatDoorJtT
import Derived.Deep.LoopGhost
set_option linter.unusedSimpArgs false
set_option linter.unusedVariables false
set_option maxRecDepth 100000
namespace Go.Proofs.YtcnfhndejkngkaaGreatDoor
open Go.RowKit LgM

theorem NS.grownU {B k n : Nat} {w w' : World} {s v : Value} {xs : List Value} (h : NS w s n) (hr : w.ownsRow B 5 1 v k xs) (hg : w.grownBy w' v.ownBlock) : NS w' s n := by
  obtain ⟨l, h1, h2⟩ := h
  refine ⟨l, ⟨h1.small, ?_⟩, h2⟩
  rcases h1.shape with h3 | ⟨g, cap, C, h3, h4, h5, h6⟩
  · exact .inl h3
  · refine .inr ⟨g, cap, C, h3, h4, ?_, h6⟩
    rw [hg.block g (lt_of_some h5) ?_]
    · exact h5
    · intro e
      rcases hr.2 with ⟨rfl, _⟩ | ⟨g', cap', cur, rfl, _, hgg, _⟩
      · cases e
      · obtain rfl : g' = g := by have := e.symm; simpa [Value.ownBlock] using this
        rw [h5] at hgg
        simp at hgg
theorem BigAt.grownU {B k b : Nat} {n : Int} {w w' : World} {v : Value} {xs : List Value} (h : BigAt w b n) (hr : w.ownsRow B 5 1 v k xs) (hg : w.grownBy w' v.ownBlock) : BigAt w' b n := by
  obtain ⟨s, h1, h2⟩ := h
  refine ⟨s, ?_, h2.grownU hr hg⟩
  rw [hg.block b (lt_of_some h1) ?_]
  · exact h1
  · intro e
    rcases hr.2 with ⟨rfl, _⟩ | ⟨g', cap', cur, rfl, _, hgg, _⟩
    · cases e
    · obtain rfl : g' = b := by have := e.symm; simpa [Value.ownBlock] using this
      rw [h1] at hgg
      simp at hgg

theorem w64_idT {x : Int} (h : -9223372036854775808 ≤ x ∧ x ≤ 9223372036854775807) : wrap64 x = x := by
  simp only [wrap64]; omega

set_option maxHeartbeats 4000000 in
theorem own_shape {B n : Nat} {w : World} {v : Value} {xs : List Value} {e : TypeId} (h : w.ownsRow B e 1 v n xs) (hn : 0 < n) : ∃ g cap, v = .slice (some ⟨g, 0, none⟩) n cap ∧ B ≤ g ∧ g < w.heap.size ∧ ∀ j, j < n → w.cell? ⟨g, j, none⟩ = xs[j]? ∧ w.frozen? ⟨g, j, none⟩ = false := by
  rcases h.2 with ⟨_, h0⟩ | ⟨g, cap, cur, h1, h2, h3, h4, h5, h6, h7⟩
  · omega
  · refine ⟨g, cap, h1, h2, lt_of_some h3, fun j hj => ⟨?_, ?_⟩⟩
    · rw [← h7, List.getElem?_take_of_lt (by omega)]
      simp [World.cell?, h3]
    · simp [World.frozen?, h3]
theorem rvd_zero {w wx : World} {g : Nat} {T : List UInt8} (h : ∀ j, j < T.length → wx.cell? ⟨g, j, none⟩ = (u8s T)[j]? ∧ wx.frozen? ⟨g, j, none⟩ = false) : Rvd T g 0 wx := fun j hj => by
  obtain ⟨h1, h2⟩ := h j hj
  refine ⟨?_, h2⟩
  rw [h1, rv_zero T hj, u8s, List.getElem?_map, List.getD_eq_getElem?_getD, List.getElem?_eq_getElem hj]; rfl
theorem ne_at {g i j : Nat} (h : i ≠ j) : (⟨g, i, none⟩ : Addr) ≠ ⟨g, j, none⟩ := fun e => h (by injection e)
theorem rvd_step {W : World} {g i J : Nat} {T : List UInt8} (h : Rvd T g i W) (hJ : i + J + 1 = T.length) (hi : i < J) : Rvd T g (i + 1) ((W.setCell ⟨g, i, none⟩ (.int .u8 (rv T i J : Int))).setCell ⟨g, J, none⟩ (.int .u8 (rv T i i : Int))) := fun j hj => by
  have hi' : i < T.length - 1 - i := by omega
  have eJ : T.length - 1 - i = J := by omega
  refine ⟨?_, by rw [World.frozen?_setCell, World.frozen?_setCell]; exact (h j hj).2⟩
  rw [rv_step hj hi', eJ]
  by_cases h1 : j = J
  · subst h1
    rw [if_pos rfl]
    exact World.cell?_setCell_same' _ _ _ (by rw [World.cell?_setCell_other _ _ _ _ (ne_at (by omega)), (h j hj).1]; rfl)
  · rw [if_neg h1, World.cell?_setCell_other _ _ _ _ (ne_at (fun e => h1 e.symm))]
    by_cases h2 : j = i
    · subst h2
      rw [if_pos rfl]
      exact World.cell?_setCell_same' _ _ _ (by rw [(h j hj).1]; rfl)
    · rw [if_neg h2, World.cell?_setCell_other _ _ _ _ (ne_at (fun e => h2 e.symm))]
      exact (h j hj).1
theorem rvd_end {W : World} {g i : Nat} {T : List UInt8} (h : Rvd T g i W) (hi : T.length - 1 - i ≤ i) (hi2 : i < T.length) : ∀ j (hj : j < T.reverse.length), W.cell? ((⟨g, 0, none⟩ : Addr).add j) = some (.int .u8 ((T.reverse[j]'hj).toNat : Int)) := fun j hj => by
  have hadd : (⟨g, 0, none⟩ : Addr).add j = ⟨g, j, none⟩ := by unfold Addr.add; split <;> simp_all
  have hj' : j < T.length := by simpa using hj
  rw [hadd, (h j hj').1, rv_end hj' hi hi2, List.getElem_reverse, List.getD_eq_getElem?_getD, List.getElem?_eq_getElem (by omega)]
  rfl
theorem rvd_rev {P : Program} {W : World} {g i cap : Nat} {T : List UInt8} (src dst e : TypeId) (hs : P.underlying src = some (.slice e)) (he : P.underlying e = some (.int .u8)) (hd : P.underlying dst = some .string) (h : Rvd T g i W) (hi : T.length - 1 - i ≤ i) (hi2 : i < T.length) :
    (convert src dst (.slice (some ⟨g, 0, none⟩) T.length cap)).run P W = .ok (.string ⟨T.reverse.toArray⟩) W := by
  have := run_convert_bytes_back (P := P) W src dst e ⟨g, 0, none⟩ cap T.reverse hs he hd (rvd_end h hi hi2)
  rw [List.length_reverse] at this
  exact this

set_option maxRecDepth 100000 in
set_option maxHeartbeats 4000000 in
/-- The way from the digits, the last one first, to the text. -/
theorem Text_any (bx : Nat) (x : Int) (m : Nat) (w : World) (hx : BigAt w bx x) (hm : x.natAbs < pw m) (hm1 : 1 ≤ m) (hm' : m ≤ 10000000) :
    Calls Tryz.prog 60 #[.pointer (some ⟨bx, 0, none⟩), .int .i64 10] w fun e w' => e = .returned (.string ⟨(decZ x).toArray⟩) ∧ Below w.heap.size w w' := by
  obtain ⟨xa, xl, xc, cx0, cx1, nx, hxl⟩ := hx.open
  have hbx := hx.lt
  have HX : Hid (BigAt w bx x) := hx
  have HNX : Hid (NS w (.slice xa xl xc) x.natAbs) := nx
  have HM : Hid (x.natAbs < pw m) := hm
  have hN : (Lib.decDigits x.natAbs).length ≤ 100000000 := Nat.le_trans (dec_pw hm hm1) (by omega)
  obtain ⟨n, hn⟩ : ∃ n, n = x.natAbs := ⟨_, rfl⟩
  have Hn : Hid (n = x.natAbs) := hn
  by_cases h0 : n = 0
  · have hz : x = 0 := by omega
    have hl0 : xl = 0 := by
      rcases Nat.eq_zero_or_pos xl with h | h
      · exact h
      · have := hxl.1 h; omega
    have HD : Hid ((⟨(decZ x).toArray⟩ : ByteArray) = ⟨#[48]⟩) := by show _ = _; rw [hz, show decZ 0 = Lib.decDigits 0 from decZ_nat 0, dec_lt (by omega)]; rfl
    subst hl0
    clear hx nx hm hN hn hz
    go_enter Tryz.func60, Tryz.ntmps60
    go_wp2
    go_ret
    exact ⟨by rw [HD.out]; rfl, Below.refl _ _⟩
  · have hl1 : 0 < xl := hxl.2 (by omega)
    have tl0 : ((xl : Int) == 0) = false := beq_eq_false_iff_ne.2 (by omega)
    have Hlen : Hid ((Lib.decDigits n).length ≤ 100000000) := by show _ ≤ _; rw [hn]; exact hN
    have Hn0 : Hid (0 < n) := Nat.pos_of_ne_zero h0
    rw [← hn] at HNX HM
    obtain ⟨k0, hk, hx0, hx1, hx2⟩ := info_parts Tryz.infoU8
    have HP : Hid (Tryz.prog.info? 5 = some k0 ∧ k0.zero = some (.int .u8 0) ∧ k0.size = 1 ∧ k0.bytes = 1) := ⟨hk, hx0, hx1, hx2⟩
    clear hx nx hm hN hn hxl h0 hk hx0 hx1 hx2
    go_enter Tryz.func60, Tryz.ntmps60
    go_wp2_with fail
    refine (twin_any _ n m w HNX.out HM.out (by omega)).mono ?_
    rintro e w1 ⟨s1, rfl, n1, k1⟩
    have H1 : Hid (NS w1 s1 n ∧ Below w.heap.size w w1) := ⟨n1, k1⟩
    clear n1 k1 cx1
    go_wp2
    go_loopg [5, 6] n (fun gk bv av wx => ∃ (v s : Value) (a : Nat) (cs : List UInt8), bv = v ∧ av = s ∧ Hid (gk = a ∧ a ≤ n ∧ NS wx s a ∧ Dg w wx v cs ∧ Lf n a cs))
    case atStart => exact ⟨_, _, n, [], rfl, rfl, rfl, Nat.le_refl _, H1.out.1, ⟨⟨rfl, .inl ⟨rfl, rfl⟩⟩, H1.out.2⟩, .inl ⟨Hn0.out, by simp⟩⟩
    case round =>
      clear H1
      obtain ⟨v, s, a, cs, hv, hs, HR⟩ := hrel
      have hv2 := hv.symm
      have hs2 := hs.symm
      clear hv hs
      subst hv2 hs2
      obtain ⟨hgk, h2, h3, h4, h5⟩ := HR.out
      obtain ⟨sa, sl, sc, rfl, hsl⟩ := h3.shape
      have HD : Hid (Dg w wr v cs) := h4
      have HL : Hid (Lf n a cs) := h5
      have HK : Hid (gk = a) := hgk
      have HS : Hid (NS wr (.slice sa sl sc) a) := h3
      clear HR hgk h3 h4 h5
      by_cases ha : 0 < a
      · have tl : decide (0 < (sl : Int)) = true := decide_eq_true (by have := hsl.2 ha; omega)
        have HLs : Hid (Lf n (a / 10) (cs ++ [UInt8.ofNat (48 + a % 10)])) := HL.out.step ha
        have HLl : Hid (cs.length ≤ 100000000) := Nat.le_trans HL.out.len Hlen.out
        obtain ⟨d, hd⟩ : ∃ d, d = a % 10 := ⟨_, rfl⟩
        have hd9 : d ≤ 9 := by omega
        have HDd : Hid (((UInt8.ofNat (48 + d)).toNat : Int) = ((48 + d : Nat) : Int)) := by
          show _ = _
          rw [UInt8.toNat_ofNat', Nat.mod_eq_of_lt (by omega)]
        rw [← hd] at HLs
        have HA : Hid (a < pw m) := Nat.lt_of_le_of_lt h2 HM.out
        go_wp2_with fail
        refine (small_any _ a 10 m wr HS.out HA.out (by omega) (by omega) (by omega)).mono ?_
        rw [← hd]
        rintro e w2 ⟨r, rfl, nr, k2⟩
        obtain ⟨ra, rl, rc, rfl, _⟩ := nr.shape
        have H2 : Hid (NS w2 (.slice ra rl rc) (a / 10) ∧ Dg w w2 v cs) := ⟨nr, HD.out.below k2⟩
        clear nr k2 HD HS hd
        have td : decide ((d : Int) < 10) = true := decide_eq_true (by omega)
        have w1' : IntKind.u32.wrap (48 + (d : Int)) = ((48 + d : Nat) : Int) := by rw [IntKind.wrap_u32]; omega
        have w2' : IntKind.u8.wrap ((48 + d : Nat) : Int) = ((48 + d : Nat) : Int) := by rw [IntKind.wrap_u8]; omega
        generalize hD48 : 48 + d = D48 at *
        go_wp2_with (at_builtin; refine wpList_append_own _ rfl _ _ 89 rfl w.heap.size 5 k0 (.int .u8 0) 1 1 Tryz.underlying89 HP.out.1 HP.out.2.1 HP.out.2.2.1 HP.out.2.2.2 rfl (by decide) v cs.length (u8s cs) rfl (H2.out.2.row.alloc _) ⟨w2.heap.size, 0, none⟩ 1 1 [.int .u8 (D48 : Int)] rfl rfl (own_news (Cl.new [.int .u8 (D48 : Int)] 5 w2)) (by simp [Value.oneCell']) (by have := HLl.out; simp only [maxLen]; omega) (by have := HLl.out; omega) (by have := H2.out.2.k.size; simp; omega) ?_; intro v' w6 hown' hgrow _; have HO6 : Hid (Dg w w6 v' (cs ++ [UInt8.ofNat D48]) ∧ NS w6 (.slice ra rl rc) (a / 10)) := ⟨⟨by rw [List.length_append, u8s, List.map_append]; simp only [List.map_cons, List.map_nil, HDd.out]; exact hown', (Below.alloc H2.out.2.k H2.out.2.k.size _).grown hgrow (by have := H2.out.2.k.size; simp; omega) (fun j hj => (H2.out.2.row.lt j hj).1)⟩, (H2.out.1.below (Below.alloc (Below.refl w2.heap.size w2) (Nat.le_refl _) _) (Nat.le_refl _)).grownU (H2.out.2.row.alloc _) hgrow⟩; clear hown' hgrow)
        go_roundg (a / 10)
        case rel => exact ⟨_, _, a / 10, _, rfl, rfl, rfl, by omega, HO6.out.2, HO6.out.1, HLs.out⟩
        case measure => have := HK.out; omega
      · have tl : decide (0 < (sl : Int)) = false := decide_eq_false (by have := hsl.1; omega)
        have HT : Hid (Lib.decDigits n = cs.reverse ∧ 1 ≤ cs.length ∧ cs.length ≤ 100000000) := by
          have hl := HL.out.len
          have h1 := dec_pos n
          rcases HL.out with ⟨h, _⟩ | ⟨_, h⟩
          · omega
          · have e : cs.length = (Lib.decDigits n).length := by rw [h]; simp
            exact ⟨h, by omega, by have := Hlen.out; omega⟩
        have HB0 : Hid (BigAt wr bx x) := HX.out.below HD.out.k (Nat.le_refl _)
        obtain ⟨_, _, _, cxn, _, _, _⟩ := HB0.out.open
        clear HL HS HK h2
        by_cases hneg : x < 0
        · rw [decide_eq_true hneg] at cxn
          have HTT : Hid (decZ x = (cs ++ [45]).reverse) := by
            show _ = _
            rw [decZ_neg hneg, ← Hn.out, HT.out.1]; simp
          clear hneg
          go_wp2_with (at_builtin; refine wpList_append_own _ rfl _ _ 89 rfl w.heap.size 5 k0 (.int .u8 0) 1 1 Tryz.underlying89 HP.out.1 HP.out.2.1 HP.out.2.2.1 HP.out.2.2.2 rfl (by decide) v cs.length (u8s cs) rfl (HD.out.row.alloc _) ⟨wr.heap.size, 0, none⟩ 1 1 [.int .u8 45] rfl rfl (own_news (Cl.new [.int .u8 45] 5 wr)) (by simp [Value.oneCell']) (by have := HT.out.2.2; simp only [maxLen]; omega) (by have := HT.out.2.2; omega) (by have := HD.out.k.size; simp; omega) ?_; intro v' w6 hown' hgrow _; have HO6 : Hid (w6.ownsRow w.heap.size 5 1 v' (cs.length + 1) (u8s (cs ++ [45])) ∧ Below w.heap.size w w6) := ⟨by rw [u8s, List.map_append]; exact hown', (Below.alloc HD.out.k HD.out.k.size _).grown hgrow (by have := HD.out.k.size; simp; omega) (fun j hj => (HD.out.row.lt j hj).1)⟩; obtain ⟨g, cap, hv6, hg1, hg2, hg3⟩ := own_shape HO6.out.1 (by omega); obtain ⟨LT, hLL⟩ : ∃ L, L = cs.length + 1 := ⟨_, rfl⟩; rw [← hLL] at hv6; subst hv6; obtain ⟨T, hTe⟩ : ∃ T, T = cs ++ [45] := ⟨_, rfl⟩; rw [← hTe] at HTT; have HTl : Hid (T.length = LT ∧ 1 ≤ LT ∧ LT ≤ 100000001) := ⟨by rw [hTe, hLL, List.length_append]; rfl, by omega, by have := HT.out.2; omega⟩; have HG : Hid (w.heap.size ≤ g) := hg1; have HR0 : Hid (Rvd T g 0 w6 ∧ Below w.heap.size w w6) := (by refine ⟨?_, HO6.out.2⟩; rw [hTe]; exact rvd_zero (w := w6) (fun j hj => hg3 j (by simpa using hj))); clear hown' hgrow hg1 hg2 hg3 HO6 hTe hLL)
          have hLT : T.length = LT := HTl.out.1
          obtain ⟨J0, hJ0⟩ : ∃ J : Nat, (LT : Int) - 1 = (J : Int) := ⟨LT - 1, by have := HTl.out.2.1; omega⟩
          have hwJ : IntKind.i64.wrap (J0 : Int) = (J0 : Int) := by rw [IntKind.wrap_i64]; have := HTl.out.2.2; omega
          have HJ : Hid (0 + J0 + 1 = LT) := by show _ = _; omega
          clear hLT
          go_wp2
          go_loopg [8, 9] LT (fun gk iv jv wx => ∃ i J : Nat, iv = .int .i64 (i : Int) ∧ jv = .int .i64 (J : Int) ∧ Hid (gk = LT - i ∧ i + J + 1 = LT ∧ Rvd T g i wx ∧ Below w.heap.size w wx))
          case atStart => exact ⟨0, J0, rfl, by first | rfl | (have e : wrap64 ((LT : Int) - 1) = (J0 : Int) := (by rw [hJ0]; exact w64_idT (by have := HTl.out.2.2; omega)); exact congrArg (Value.int .i64) e), by omega, HJ.out, HR0.out⟩
          case round =>
            clear HR0 HJ hJ0 hwJ
            obtain ⟨i, J, rfl, rfl, HR⟩ := hrel
            obtain ⟨h1, h2, h3, h4⟩ := HR.out
            have HK2 : Hid (gk = LT - i) := h1
            have HR2 : Hid (i + J + 1 = LT ∧ Rvd T g i wr ∧ Below w.heap.size w wr) := ⟨h2, h3, h4⟩
            by_cases hij : i < J
            · have tij : decide ((i : Int) < (J : Int)) = true := decide_eq_true (by omega)
              have hLT := HTl.out.1
              obtain ⟨c1, f1⟩ := h3 i (by omega)
              obtain ⟨c2, f2⟩ := h3 J (by omega)
              obtain ⟨p, hp⟩ : ∃ p, p = rv T i i := ⟨_, rfl⟩
              obtain ⟨q, hq⟩ : ∃ q, q = rv T i J := ⟨_, rfl⟩
              have HW : Hid (Rvd T g (i + 1) ((wr.setCell ⟨g, i, none⟩ (.int .u8 (q : Int))).setCell ⟨g, J, none⟩ (.int .u8 (p : Int))) ∧ Below w.heap.size w ((wr.setCell ⟨g, i, none⟩ (.int .u8 (q : Int))).setCell ⟨g, J, none⟩ (.int .u8 (p : Int)))) := by
                rw [hp, hq]
                exact ⟨rvd_step h3 (by omega) hij, (h4.setCell HG.out _).setCell HG.out _⟩
              rw [← hp] at c1
              rw [← hq] at c2
              obtain ⟨J', rfl⟩ : ∃ J', J = J' + 1 := ⟨J - 1, by omega⟩
              have x1 : (i : Int) < (LT : Int) := by omega
              have x3 : LT ≤ 100000001 := HTl.out.2.2
              have x2 : ((J' + 1 : Nat) : Int) < (LT : Int) := by omega
              clear HR h1 h2 h3 h4 hp hq hLT
              go_wp2
              go_roundg (LT - (i + 1))
              case rel => exact ⟨i + 1, J', by go_num, by go_num, rfl, by have := HR2.out.1; omega, HW.out⟩
              case measure => have := HK2.out; have := HR2.out.1; omega
            · have tij : decide ((i : Int) < (J : Int)) = false := decide_eq_false (by omega)
              have hi1 : T.length - 1 - i ≤ i := by rw [HTl.out.1]; omega
              have hi2 : i < T.length := by rw [HTl.out.1]; omega
              have kc := rvd_rev (P := Tryz.prog) (cap := cap) 89 9 5 Tryz.underlying89 Tryz.underlying5 Tryz.underlying9 h3 hi1 hi2
              rw [HTl.out.1] at kc
              clear hi1 hi2
              have HKb : Hid (Below w.heap.size w wr) := h4
              clear HR h1 h2 h3 h4 HR2
              go_wp2
              go_ret
              exact ⟨by rw [HTT.out]; rfl, HKb.out⟩
        · rw [decide_eq_false hneg] at cxn
          have HTT : Hid (decZ x = cs.reverse) := by
            show _ = _
            rw [decZ_pos hneg, ← Hn.out, HT.out.1]
          obtain ⟨g, cap, hv6, hg1, hg2, hg3⟩ := own_shape HD.out.row HT.out.2.1
          obtain ⟨T, hTe⟩ : ∃ T, T = cs := ⟨_, rfl⟩
          obtain ⟨LT, hLL⟩ : ∃ L, L = cs.length := ⟨_, rfl⟩
          have HTl : Hid (T.length = LT ∧ 1 ≤ LT ∧ LT ≤ 100000001) := by
            have := HT.out.2
            refine ⟨?_, ?_, ?_⟩ <;> (try rw [hTe]) <;> omega
          have HG : Hid (w.heap.size ≤ g) := hg1
          have HR0 : Hid (Rvd T g 0 wr ∧ Below w.heap.size w wr) := by
            refine ⟨?_, HD.out.k⟩
            rw [hTe]
            exact rvd_zero (w := wr) hg3
          rw [← hTe] at HTT
          rw [← hLL] at hv6
          have hv7 := hv6.symm
          clear hg1 hg2 hg3 HD hTe hLL hneg hv6
          subst hv7
          have hLT : T.length = LT := HTl.out.1
          obtain ⟨J0, hJ0⟩ : ∃ J : Nat, (LT : Int) - 1 = (J : Int) := ⟨LT - 1, by have := HTl.out.2.1; omega⟩
          have hwJ : IntKind.i64.wrap (J0 : Int) = (J0 : Int) := by rw [IntKind.wrap_i64]; have := HTl.out.2.2; omega
          have HJ : Hid (0 + J0 + 1 = LT) := by show _ = _; omega
          clear hLT
          go_wp2
          go_loopg [8, 9] LT (fun gk iv jv wx => ∃ i J : Nat, iv = .int .i64 (i : Int) ∧ jv = .int .i64 (J : Int) ∧ Hid (gk = LT - i ∧ i + J + 1 = LT ∧ Rvd T g i wx ∧ Below w.heap.size w wx))
          case atStart => exact ⟨0, J0, rfl, by first | rfl | (have e : wrap64 ((LT : Int) - 1) = (J0 : Int) := (by rw [hJ0]; exact w64_idT (by have := HTl.out.2.2; omega)); exact congrArg (Value.int .i64) e), by omega, HJ.out, HR0.out⟩
          case round =>
            clear HR0 HJ hJ0 hwJ
            obtain ⟨i, J, rfl, rfl, HR⟩ := hrel
            obtain ⟨h1, h2, h3, h4⟩ := HR.out
            have HK2 : Hid (gk = LT - i) := h1
            have HR2 : Hid (i + J + 1 = LT ∧ Rvd T g i wr ∧ Below w.heap.size w wr) := ⟨h2, h3, h4⟩
            by_cases hij : i < J
            · have tij : decide ((i : Int) < (J : Int)) = true := decide_eq_true (by omega)
              have hLT := HTl.out.1
              obtain ⟨c1, f1⟩ := h3 i (by omega)
              obtain ⟨c2, f2⟩ := h3 J (by omega)
              obtain ⟨p, hp⟩ : ∃ p, p = rv T i i := ⟨_, rfl⟩
              obtain ⟨q, hq⟩ : ∃ q, q = rv T i J := ⟨_, rfl⟩
              have HW : Hid (Rvd T g (i + 1) ((wr.setCell ⟨g, i, none⟩ (.int .u8 (q : Int))).setCell ⟨g, J, none⟩ (.int .u8 (p : Int))) ∧ Below w.heap.size w ((wr.setCell ⟨g, i, none⟩ (.int .u8 (q : Int))).setCell ⟨g, J, none⟩ (.int .u8 (p : Int)))) := by
                rw [hp, hq]
                exact ⟨rvd_step h3 (by omega) hij, (h4.setCell HG.out _).setCell HG.out _⟩
              rw [← hp] at c1
              rw [← hq] at c2
              obtain ⟨J', rfl⟩ : ∃ J', J = J' + 1 := ⟨J - 1, by omega⟩
              have x1 : (i : Int) < (LT : Int) := by omega
              have x3 : LT ≤ 100000001 := HTl.out.2.2
              have x2 : ((J' + 1 : Nat) : Int) < (LT : Int) := by omega
              clear HR h1 h2 h3 h4 hp hq hLT
              go_wp2
              go_roundg (LT - (i + 1))
              case rel => exact ⟨i + 1, J', by go_num, by go_num, rfl, by have := HR2.out.1; omega, HW.out⟩
              case measure => have := HK2.out; have := HR2.out.1; omega
            · have tij : decide ((i : Int) < (J : Int)) = false := decide_eq_false (by omega)
              have hi1 : T.length - 1 - i ≤ i := by rw [HTl.out.1]; omega
              have hi2 : i < T.length := by rw [HTl.out.1]; omega
              have kc := rvd_rev (P := Tryz.prog) (cap := cap) 89 9 5 Tryz.underlying89 Tryz.underlying5 Tryz.underlying9 h3 hi1 hi2
              rw [HTl.out.1] at kc
              clear hi1 hi2
              have HKb : Hid (Below w.heap.size w wr) := h4
              clear HR h1 h2 h3 h4 HR2
              go_wp2
              go_ret
              exact ⟨by rw [HTT.out]; rfl, HKb.out⟩

set_option maxHeartbeats 1000000 in
theorem IString_any (bx : Nat) (x : Int) (m : Nat) (w : World) (hx : BigAt w bx x) (hm : x.natAbs < pw m) (hm1 : 1 ≤ m) (hm' : m ≤ 10000000) :
    Calls Tryz.prog 29 #[.pointer (some ⟨bx, 0, none⟩)] w fun e w' => e = .returned (.string ⟨(decZ x).toArray⟩) ∧ Below w.heap.size w w' := by
  have HT : Hid (∀ w', BigAt w' bx x → Calls Tryz.prog 60 #[.pointer (some ⟨bx, 0, none⟩), .int .i64 10] w' fun e w'' => e = .returned (.string ⟨(decZ x).toArray⟩) ∧ Below w'.heap.size w' w'') := fun w' h => Text_any bx x m w' h hm hm1 hm'
  have HX : Hid (BigAt w bx x) := hx
  clear hx hm hm1 hm'
  go_enter Tryz.func29, Tryz.ntmps29
  go_wp2_with fail
  refine (HT.out _ HX.out).mono ?_
  rintro e w1 ⟨rfl, k1⟩
  go_wp2
  go_ret
  exact ⟨rfl, k1⟩

end Go.Proofs.YtcnfhndejkngkaaGreatDoor
