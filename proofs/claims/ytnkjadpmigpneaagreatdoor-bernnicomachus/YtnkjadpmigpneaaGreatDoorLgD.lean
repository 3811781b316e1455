import Derived.Test.YtnkjadpmigpneaaGreatDoorLgB
import Derived.Test.YtnkjadpmigpneaaGreatDoorShelfT
import Derived.Lib.AppendIntMem
set_option linter.unusedSimpArgs false
set_option linter.unusedVariables false
set_option maxRecDepth 100000
namespace Go.Proofs.YtnkjadpmigpneaaGreatDoor
open Go.RowKit LgM
def Tq (w : World) : Prop := Lib.TabIs Tryz.prog w "internal/strconv.uint64pow10" .u64 Lib.pow10Tab
theorem Tq.below {w w' : World} (h : Tq w) (k : Below w.heap.size w w') : Tq w' := Lib.tabBelow_of_tabIs h w' k
theorem below_grow (w : World) (k : Nat) (os : Array Obj) : Below w.heap.size w (Sort.grow (w.drewN k) os) := by
  refine ⟨rfl, rfl, rfl, by simp [Sort.grow, World.drewN], fun j hj => ?_⟩
  have : (w.drewN k).heap = w.heap := rfl
  simp [Sort.grow, this, Array.getElem?_append_left hj]
def Bd (b : Nat) (l : List UInt8) (w : World) : Prop := Lib.IsBuilderF 117 5 b b (Lib.byteCells l) w
theorem BuilderAtF_below {T e : TypeId} {B b : Nat} {p : Value} {bs : List Value} {w w' : World} (h : Lib.BuilderAtF T e B b p bs w) (k : Below w.heap.size w w') : Lib.BuilderAtF T e B b p bs w' := by
  obtain ⟨h1, v, h2, h3, h4⟩ := h
  refine ⟨h1, v, (k.block b (lt_of_some h2)).trans h2, ?_, h4⟩
  obtain ⟨h5, h6 | ⟨g, cap, cur, fz, a1, a2, a3, a4⟩⟩ := h3
  · exact ⟨h5, .inl h6⟩
  · exact ⟨h5, .inr ⟨g, cap, cur, fz, a1, a2, (k.block g (lt_of_some a3)).trans a3, a4⟩⟩
theorem Bd.below {b : Nat} {l : List UInt8} {w w' : World} (h : Bd b l w) (k : Below w.heap.size w w') : Bd b l w' := by
  rcases h with h | h
  · exact .inl (BuilderAtF_below h k)
  · exact .inr (BuilderAtF_below h k)
theorem Bd.new (w : World) : Bd w.heap.size [] (w.alloc (.cells #[.pointer none, .slice none 0 0] 117)) := Lib.IsBuilderF.of (Lib.fresh_isBuilder _ _ w)
theorem repeatL_one (c : Nat) : Lib.repeatL [48] c = List.replicate c 48 := by
  induction c with
  | zero => rfl
  | succ c ih => rw [Lib.repeatL, ih]; rfl
theorem Itoa_nat (n : Nat) (h : n ≤ 9000000000000000000) (w : World) (hT : Tq w) :
    Calls Tryz.prog 99 #[.int .i64 (n : Int)] w fun e w' => e = .returned (.string ⟨(Lib.decDigits n).toArray⟩) ∧ Below w.heap.size w w' := by
  refine (Tryz.strconv_Itoa n (by omega) (by omega) w hT).mono ?_
  rintro e w' ⟨rfl, k, os, rfl⟩
  refine ⟨?_, below_grow w k os⟩
  unfold Lib.itoa
  rw [if_neg (by omega)]
  rfl
theorem Tryz.Write_k (B b : Nat) (bs : List Value) (s : ByteArray) (w : World) (h : Lib.IsBuilderF 117 5 B b bs w) (hlen : bs.length + s.size ≤ 140737488355328) (hBw : B ≤ w.heap.size) :
    Calls Tryz.prog 98 #[.pointer (some ⟨b, 0, none⟩), .string s] w fun e w' => e = .returned (.tuple #[.int .i64 s.size, .nilIface]) ∧ (Lib.BuilderAtF 117 5 B b (.pointer (some ⟨b, 0, none⟩)) (bs ++ Lib.strCells s) w' ∧ Below B w w' ∧ Lib.OthersKept 5 (some b) w w') :=
  Any.Builder_WriteString_k (ρ := Tryz.lays105_ren) { Tryz.lays105 with } Tryz.Builder_Extra_105 B b bs s w h hlen hBw
theorem Write_text (b : Nat) (l s : List UInt8) (w : World) (h : Bd b l w) (hb : b ≤ w.heap.size) (hl : l.length + s.length ≤ 100000000) :
    Calls Tryz.prog 98 #[.pointer (some ⟨b, 0, none⟩), .string ⟨s.toArray⟩] w fun e w' => e = .returned (.tuple #[.int .i64 s.length, .nilIface]) ∧ Bd b (l ++ s) w' ∧ Below b w w' := by
  refine (Tryz.Write_k b b _ ⟨s.toArray⟩ w h (by rw [Lib.byteCells_length]; show l.length + s.toArray.size ≤ _; simp; omega) hb).mono ?_
  rintro e w' ⟨rfl, h1, h2, _⟩
  refine ⟨rfl, .inr ?_, h2⟩
  rw [Lib.byteCells_append]
  exact h1
theorem pow9 (m : Nat) : Bs ^ m = 10 ^ (9 * m) := by rw [Nat.pow_mul]
theorem text_len (x m : Nat) (hm : 1 ≤ m) (h : x < Bs ^ m) : (Lib.decDigits x).length ≤ 9 * m := dec_len x (9 * m) (by omega) (by rw [← pow9]; exact h)
set_option maxHeartbeats 4000000 in
theorem String_any (v : Value) (n m : Nat) (w : World) (h : LN w v n) (hn : n < Bs ^ m) (hm1 : 1 ≤ m) (hm : m ≤ 1000000) (hT : Tq w) :
    Calls Tryz.prog 68 #[.agg #[v]] w fun e w' => e = .returned (.string ⟨(Lib.decDigits n).toArray⟩) ∧ Below w.heap.size w w' := by
  obtain ⟨k, ax, gx, ox, cx, rfl, nx, hpx, hcx, hlx⟩ := h.open
  have hkm := nx.le hn
  have HNX : Hid (Nd k n) := nx
  have HN : Hid (n < Bs ^ m) := hn
  have HT : Hid (Tq w) := hT
  clear h nx hn hT
  by_cases hk0 : k = 0
  · subst hk0
    have hn0 : n = 0 := by have := HNX.out.lt; simpa using this
    subst hn0
    clear hpx hcx hlx
    go_enter Tryz.func68, Tryz.ntmps68
    go_wp2
    go_ret
    exact ⟨by rw [dec_lt (by decide)]; rfl, (Below.refl _ _).alloc (Nat.le_refl _) _⟩
  · obtain ⟨L, rfl⟩ : ∃ L, k = L + 1 := ⟨k - 1, by omega⟩
    obtain rfl := hpx (by omega)
    have hlx := hlx (by omega)
    have HCX : Hid (∀ W, Below w.heap.size w W → ∀ i, i < L + 1 → W.cell? ⟨gx, ox + i, none⟩ = some (.int .i64 ((n / Bs ^ i % Bs : Nat) : Int))) := fun W k i hi => (k.cell (p := ⟨gx, ox + i, none⟩) hlx).trans (hcx i hi)
    have hge : Bs ^ L ≤ n := by rcases HNX.out.ge with h | h; omega; simpa using h
    have HGE : Hid (Bs ^ L ≤ n) := hge
    clear hpx hcx hge hk0
    obtain ⟨W0, hW0⟩ : ∃ W0, W0 = ((w.alloc (.cells #[.slice (some ⟨gx, ox, none⟩) (L + 1) cx] 64)).alloc (.cells #[.pointer none, .slice none 0 0] 117)) := ⟨_, rfl⟩
    have z0 : W0.heap.size = w.heap.size + 2 := by rw [hW0]; simp
    have KB0 : Hid (Below w.heap.size w W0) := by
      show Below _ _ _
      rw [hW0]; exact ((Below.refl _ _).alloc (Nat.le_refl _) _).alloc (by simp) _
    have X0 : Cl w.heap.size [.slice (some ⟨gx, ox, none⟩) (L + 1) cx] 64 W0 := by rw [hW0]; exact (Cl.new [.slice (some ⟨gx, ox, none⟩) (L + 1) cx] _ w).alloc _
    have B0 : Bd (w.heap.size + 1) [] W0 := by rw [hW0]; have := Bd.new (w.alloc (.cells #[.slice (some ⟨gx, ox, none⟩) (L + 1) cx] 64)); simpa using this
    have HX0 : Hid (Cl w.heap.size [.slice (some ⟨gx, ox, none⟩) (L + 1) cx] 64 W0) := X0
    have HB0 : Hid (Bd (w.heap.size + 1) [] W0) := B0
    obtain ⟨d, hd⟩ : ∃ d, d = n / Bs ^ L % Bs := ⟨_, rfl⟩
    have htop : n / Bs ^ L % Bs = n / Bs ^ L := Nat.mod_eq_of_lt (by rw [Nat.div_lt_iff_lt_mul (bs_pos L), Nat.mul_comm, ← pow_s]; exact HNX.out.lt)
    have q0 : ∀ x y : Obj, ((w.alloc x).alloc y).cell? ⟨gx, ox + L, none⟩ = some (.int .i64 (d : Int)) := fun x y => by
      rw [hd]; exact HCX.out _ (((Below.refl _ _).alloc (Nat.le_refl _) _).alloc (by simp) _) L (by omega)
    have hd1 : d ≤ 999999999 := by rw [hd]; exact lim_le (Nat.mod_lt _ (by decide))
    have HD : Hid (d = n / Bs ^ L) := by show _ = _; rw [hd]; exact htop
    have HI0 : Hid (∀ W, Tq W → Calls Tryz.prog 99 #[.int .i64 (d : Int)] W fun e w' => e = .returned (.string ⟨(Lib.decDigits d).toArray⟩) ∧ Below W.heap.size W w') := fun W h => Itoa_nat d (by omega) W h
    clear hd htop X0 B0
    go_enter Tryz.func68, Tryz.ntmps68
    go_wp2_with fail
    rw [← hW0]
    clear q0 hW0
    refine (HI0.out W0 (HT.out.below KB0.out)).mono ?_
    rintro e w1 ⟨rfl, k1⟩
    have D1 := HB0.out.below k1
    go_wp2_with fail
    refine (Write_text (w.heap.size + 1) [] (Lib.decDigits d) w1 D1 (by have := k1.size; omega) (by have := text_len d 1 (by omega) (by rw [Nat.pow_one]; exact Nat.lt_of_le_of_lt hd1 (by decide)); simp; omega)).mono ?_
    rintro e w2 ⟨rfl, D2, k2⟩
    rw [List.nil_append, HD.out] at D2
    have HB2 : Hid (Bd (w.heap.size + 1) (Lib.decDigits (n / Bs ^ L)) w2) := D2
    have HK2 : Hid (Below (w.heap.size + 1) W0 w2) := (k1.mono (by omega)).trans k2
    have z2 : w.heap.size + 2 ≤ w2.heap.size := by have := HK2.out.size; omega
    clear D1 k1 D2 k2 HI0 HB0
    go_wp2
    go_loopw [21] (fun iv wx => ∃ i : Nat, i ≤ L ∧ iv = .int .i64 (i : Int) ∧ Hid (Bd (w.heap.size + 1) (Lib.decDigits (n / Bs ^ (L - i))) wx ∧ Below (w.heap.size + 1) W0 wx)) (fun iv _ => L - (intOf iv).toNat)
    case atStart => exact ⟨0, Nat.zero_le _, rfl, HB2.out, HK2.out⟩
    case round =>
      clear HB2 HK2
      obtain ⟨i, hiL, rfl, HR⟩ := hrel
      have hzr : w.heap.size + 2 ≤ wr.heap.size := by have := HR.out.2.size; omega
      by_cases hlt : i < L
      · obtain ⟨j, hj⟩ : ∃ j, j = L - 1 - i := ⟨_, rfl⟩
        obtain ⟨d, hd⟩ : ∃ d, d = n / Bs ^ j % Bs := ⟨_, rfl⟩
        have hd1 : d ≤ 999999999 := by rw [hd]; exact lim_le (Nat.mod_lt _ (by decide))
        have q1 : wr.cell? ⟨w.heap.size, 0, none⟩ = some (.slice (some ⟨gx, ox, none⟩) (L + 1) cx) := by
          have a := HX0.out.cell 0
          rw [HR.out.2.cell (p := ⟨w.heap.size, 0, none⟩) (by show w.heap.size < _; omega)]
          simpa using a
        have q0 : wr.cell? ⟨gx, ox + (L - 1 - i), none⟩ = some (.int .i64 (d : Int)) := by
          rw [hd, hj]; exact HCX.out _ (KB0.out.trans (HR.out.2.mono (by omega))) (L - 1 - i) (by omega)
        have hjI : (L : Int) - 1 - (i : Int) = ((L - 1 - i : Nat) : Int) := by omega
        rw [← hj] at q0 hjI
        have HJ : Hid (j = L - 1 - i) := hj
        have hjL : j < L := by omega
        have HDd : Hid (d = n / Bs ^ j % Bs) := hd
        have HTr : Hid (Tq wr) := HT.out.below (KB0.out.trans (HR.out.2.mono (by omega)))
        have hdl : (Lib.decDigits d).length ≤ 9 := text_len d 1 (by omega) (by rw [Nat.pow_one]; exact Nat.lt_of_le_of_lt hd1 (by decide))
        obtain ⟨s, hs⟩ : ∃ s, s = Lib.decDigits d := ⟨_, rfl⟩
        rw [← hs] at hdl
        obtain ⟨c, hc⟩ : ∃ c : Nat, c = 9 - s.length := ⟨_, rfl⟩
        have hcI : (9 : Int) - (s.length : Int) = (c : Int) := by omega
        have HS : Hid (s = Lib.decDigits d) := hs
        have HCc : Hid (c = 9 - s.length) := hc
        have hc9 : c ≤ 9 := by omega
        have HI0 : Hid (∀ W, Tq W → Calls Tryz.prog 99 #[.int .i64 (d : Int)] W fun e w' => e = .returned (.string ⟨s.toArray⟩) ∧ Below W.heap.size W w') := fun W h => by rw [hs]; exact Itoa_nat d (by omega) W h
        clear hj hd hs hc
        go_wp2_with fail
        refine (HI0.out wr HTr.out).mono ?_
        rintro e w1 ⟨rfl, k1⟩
        have D1 : Hid (Bd (w.heap.size + 1) (Lib.decDigits (n / Bs ^ (L - i))) w1) := HR.out.1.below k1
        have z1 := k1.size
        have HK1 : Hid (Below (w.heap.size + 1) W0 w1) := HR.out.2.trans (k1.mono (by omega))
        clear k1 q0 q1
        have HRep : Hid (∀ W, Calls Tryz.prog 100 #[.string ⟨#[48]⟩, .int .i64 (c : Int)] W fun e w' => e = .returned (.string ⟨(List.replicate c (48 : UInt8)).toArray⟩) ∧ Below W.heap.size W w') := fun W => by
          have := Tryz.strings_Repeat ⟨#[48]⟩ c W (by omega) (by show 1 * c ≤ _; omega)
          rw [← repeatL_one]; exact this
        have hTx : (Lib.decDigits (n / Bs ^ (L - i))).length ≤ 9000000 := by
          have h1 : n / Bs ^ (L - i) < Bs ^ m := Nat.lt_of_le_of_lt (Nat.div_le_self _ _) HN.out
          have := text_len _ m hm1 h1
          omega
        have HTx : Hid ((Lib.decDigits (n / Bs ^ (L - i))).length ≤ 9000000) := hTx
        have HStep : Hid (Lib.decDigits (n / Bs ^ (L - i)) ++ List.replicate c 48 ++ s = Lib.decDigits (n / Bs ^ (L - (i + 1)))) := by
          show _ = _
          have h1 := dec_limb n j (by
            have := HGE.out
            have h2 := Nat.pow_le_pow_right (show 0 < Bs by decide) (show j + 1 ≤ L by omega)
            omega)
          rw [show L - (i + 1) = j by have := HJ.out; omega, h1, show L - i = j + 1 by have := HJ.out; omega, HCc.out, HS.out, HDd.out, List.append_assoc]
        clear hTx
        go_wp2_with fail
        refine (HRep.out w1).mono ?_
        rintro e w3 ⟨rfl, k3⟩
        have D3 : Hid (Bd (w.heap.size + 1) (Lib.decDigits (n / Bs ^ (L - i))) w3) := D1.out.below k3
        have z3 := k3.size
        have HK3 : Hid (Below (w.heap.size + 1) W0 w3) := HK1.out.trans (k3.mono (by omega))
        clear k3
        go_wp2_with fail
        refine (Write_text (w.heap.size + 1) _ (List.replicate c 48) w3 D3.out (by omega) (by have := HTx.out; simp; omega)).mono ?_
        rintro e w4 ⟨rfl, D4, k4⟩
        have HD4 : Hid (Bd (w.heap.size + 1) (Lib.decDigits (n / Bs ^ (L - i)) ++ List.replicate c 48) w4) := D4
        have z4 := k4.size
        have HK4 : Hid (Below (w.heap.size + 1) W0 w4) := HK3.out.trans k4
        clear D4 k4
        go_wp2_with fail
        refine (Write_text (w.heap.size + 1) _ s w4 HD4.out (by omega) (by have := HTx.out; simp; omega)).mono ?_
        rintro e w5 ⟨rfl, D5, k5⟩
        rw [HStep.out] at D5
        have HD5 : Hid (Bd (w.heap.size + 1) (Lib.decDigits (n / Bs ^ (L - (i + 1)))) w5) := D5
        have HK5 : Hid (Below (w.heap.size + 1) W0 w5) := HK4.out.trans k5
        clear D5 k5
        go_wp2
        go_roundw
        case rel => exact ⟨i + 1, by omega, by go_num, HD5.out, HK5.out⟩
        case measure => simp [intOf]; omega
      · obtain rfl : i = L := by omega
        have HB9 : Hid (Bd (w.heap.size + 1) (Lib.decDigits n) wr) := by
          have := HR.out.1
          rw [Nat.sub_self, Nat.pow_zero, Nat.div_one] at this
          exact this
        go_wp2_with fail
        refine (Tryz.Builder_String_any_k (w.heap.size + 1) (w.heap.size + 1) (Lib.decDigits n) wr HB9.out (by omega)).mono ?_
        rintro e w1 ⟨rfl, _, k1, _⟩
        have HK9 : Hid (Below w.heap.size w w1) := KB0.out.trans ((HR.out.2.trans k1).mono (by omega))
        clear k1
        go_wp2
        go_ret
        exact ⟨rfl, HK9.out⟩
end Go.Proofs.YtnkjadpmigpneaaGreatDoor
