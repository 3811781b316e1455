/- The reference's LongValue: a form's value as a number of any length. (Written by longvalue.py.) -/
import Derived.Test.YtijkanilpblogaeQfB
import Derived.Test.YtijkanilpblogaeWholeH
set_option linter.unusedSimpArgs false
set_option linter.unusedVariables false
set_option maxRecDepth 100000
namespace Go.Proofs.Ytijkanilpblogae
open Go.RowKit

def Qf.at (f : Qf) (x y : Int) : Int := x * x * f.a + x * y * f.b + y * y * f.c
def i64 (x : Int) : Prop := -9223372036854775808 ≤ x ∧ x ≤ 9223372036854775807
theorem i64.lt {x : Int} (h : i64 x) : x.natAbs < pw 2 := lt_pw2 h.1 h.2

set_option maxHeartbeats 2000000 in
theorem LongValue_any (f : Qf) (x y : Int) (w : World) (ha : i64 f.a) (hb : i64 f.b) (hc : i64 f.c) (hx : i64 x) (hy : i64 y) :
    Calls Try.prog 25 #[f.v, .int .i64 x, .int .i64 y] w fun e w' => ∃ z, e = .returned (.pointer (some ⟨z, 0, none⟩)) ∧ Made w w' z (f.at x y) := by
  have HA : Hid (i64 f.a) := ha
  have HBb : Hid (i64 f.b) := hb
  have HCc : Hid (i64 f.c) := hc
  have HX : Hid (i64 x) := hx
  have HY : Hid (i64 y) := hy
  have HV : Hid (f.at x y = x * x * f.a + x * y * f.b + y * y * f.c) := rfl
  rw [HV.out]
  clear ha hb hc hx hy HV
  unfold Qf.v
  go_enter Try.func25, Try.ntmps25
  go_wp2_with fail
  have cf0 : Cl w.heap.size [.int .i64 f.a, .int .i64 f.b, .int .i64 f.c] 32 (w.alloc (.cells #[.int .i64 f.a, .int .i64 f.b, .int .i64 f.c] 32)) := Cl.new _ _ w
  have kb0 : Below w.heap.size w (w.alloc (.cells #[.int .i64 f.a, .int .i64 f.b, .int .i64 f.c] 32)) := Below.alloc_self w _
  have zb0 := kb0.size
  have sl1 := slot_new (w.alloc (.cells #[.int .i64 f.a, .int .i64 f.b, .int .i64 f.c] 32)) (.bool false) (.slice none 0 0)
  rw [World.size_alloc] at sl1
  have ka1 := Below.alloc_self (w.alloc (.cells #[.int .i64 f.a, .int .i64 f.b, .int .i64 f.c] 32)) (.cells #[.bool false, .slice none 0 0] 73)
  have ltcf1 := cf0.lt
  simp only [World.size_alloc] at ltcf1
  have cf1 := cf0.below ka1
  clear cf0
  have kb1 := kb0.trans (ka1.mono (by first | omega | (simp only [World.size_alloc]; omega)))
  have zb1 := kb1.size
  simp only [World.size_alloc] at zb1
  clear kb0 ka1
  refine (B_any x _ HX.out.1 HX.out.2).mono ?_
  rintro e w2 ⟨b2, rfl, g2, i2, k2⟩
  have zz2 := k2.size
  simp only [World.size_alloc] at g2 zz2
  have cf2 := cf1.below k2
  clear cf1
  have p2 := sl1.below k2 (Nat.le_refl _)
  clear sl1
  have kb2 := kb1.trans (k2.mono (by first | omega | (simp only [World.size_alloc]; omega)))
  have zb2 := kb2.size
  clear kb1 k2
  go_wp2_with fail
  refine (B_any x _ HX.out.1 HX.out.2).mono ?_
  rintro e w3 ⟨b3, rfl, g3, i3, k3⟩
  have zz3 := k3.size
  skip
  have cf3 := cf2.below k3
  clear cf2
  have p3 := p2.below k3 (Nat.le_refl _)
  clear p2
  have s3 := i2.below k3 (Nat.le_refl _)
  clear i2
  have kb3 := kb2.trans (k3.mono (by first | omega | (simp only [World.size_alloc]; omega)))
  have zb3 := kb3.size
  clear kb2 k3
  go_wp2_with fail
  have st4 := p3
  have sz4 := p3.lt
  refine (Mul_any (w.heap.size + 1) _ _ (x) (x) 2 2 _ st4 s3 i3 HX.out.lt HX.out.lt (by omega) (by omega)).mono ?_
  rintro e w4 ⟨rfl, i4, u4⟩
  clear s3
  clear i3
  have zu4 := u4.size
  have cf4 : Cl w.heap.size [.int .i64 f.a, .int .i64 f.b, .int .i64 f.c] 32 w4 := (u4.block _ cf3.lt (by omega)).trans cf3
  clear cf3
  have kb4 := kb3.trans (u4.below (by omega) (by omega))
  have zb4 := kb4.size
  clear kb3 u4 st4 p3
  go_wp2_with fail
  have sl5 := slot_new w4 (.bool false) (.slice none 0 0)
  have ka5 := Below.alloc_self w4 (.cells #[.bool false, .slice none 0 0] 73)
  have ltcf5 := cf4.lt
  have ltp5 := i4.lt
  have cf5 := cf4.below ka5
  clear cf4
  have p5 := i4.below ka5 (Nat.le_refl _)
  clear i4
  have kb5 := kb4.trans (ka5.mono (by first | omega | (simp only [World.size_alloc]; omega)))
  have zb5 := kb5.size
  simp only [World.size_alloc] at zb5
  clear kb4 ka5
  refine (B_any x _ HX.out.1 HX.out.2).mono ?_
  rintro e w6 ⟨b6, rfl, g6, i6, k6⟩
  have zz6 := k6.size
  simp only [World.size_alloc] at g6 zz6
  have cf6 := cf5.below k6
  clear cf5
  have p6 := p5.below k6 (Nat.le_refl _)
  clear p5
  have q6 := sl5.below k6 (Nat.le_refl _)
  clear sl5
  have kb6 := kb5.trans (k6.mono (by first | omega | (simp only [World.size_alloc]; omega)))
  have zb6 := kb6.size
  clear kb5 k6
  go_wp2_with fail
  refine (B_any y _ HY.out.1 HY.out.2).mono ?_
  rintro e w7 ⟨b7, rfl, g7, i7, k7⟩
  have zz7 := k7.size
  skip
  have cf7 := cf6.below k7
  clear cf6
  have p7 := p6.below k7 (Nat.le_refl _)
  clear p6
  have q7 := q6.below k7 (Nat.le_refl _)
  clear q6
  have s7 := i6.below k7 (Nat.le_refl _)
  clear i6
  have kb7 := kb6.trans (k7.mono (by first | omega | (simp only [World.size_alloc]; omega)))
  have zb7 := kb7.size
  clear kb6 k7
  go_wp2_with fail
  have st8 := q7
  have sz8 := q7.lt
  refine (Mul_any (w4.heap.size) _ _ (x) (y) 2 2 _ st8 s7 i7 HX.out.lt HY.out.lt (by omega) (by omega)).mono ?_
  rintro e w8 ⟨rfl, i8, u8⟩
  clear s7
  clear i7
  have zu8 := u8.size
  have cf8 : Cl w.heap.size [.int .i64 f.a, .int .i64 f.b, .int .i64 f.c] 32 w8 := (u8.block _ cf7.lt (by omega)).trans cf7
  clear cf7
  have p8 := p7.upd u8 st8 (by omega)
  clear p7
  have kb8 := kb7.trans (u8.below (by omega) (by omega))
  have zb8 := kb8.size
  clear kb7 u8 st8 q7
  go_wp2_with fail
  have sl9 := slot_new w8 (.bool false) (.slice none 0 0)
  have ka9 := Below.alloc_self w8 (.cells #[.bool false, .slice none 0 0] 73)
  have ltcf9 := cf8.lt
  have ltp9 := p8.lt
  have ltq9 := i8.lt
  have cf9 := cf8.below ka9
  clear cf8
  have p9 := p8.below ka9 (Nat.le_refl _)
  clear p8
  have q9 := i8.below ka9 (Nat.le_refl _)
  clear i8
  have kb9 := kb8.trans (ka9.mono (by first | omega | (simp only [World.size_alloc]; omega)))
  have zb9 := kb9.size
  simp only [World.size_alloc] at zb9
  clear kb8 ka9
  refine (B_any y _ HY.out.1 HY.out.2).mono ?_
  rintro e w10 ⟨b10, rfl, g10, i10, k10⟩
  have zz10 := k10.size
  simp only [World.size_alloc] at g10 zz10
  have cf10 := cf9.below k10
  clear cf9
  have p10 := p9.below k10 (Nat.le_refl _)
  clear p9
  have q10 := q9.below k10 (Nat.le_refl _)
  clear q9
  have r10 := sl9.below k10 (Nat.le_refl _)
  clear sl9
  have kb10 := kb9.trans (k10.mono (by first | omega | (simp only [World.size_alloc]; omega)))
  have zb10 := kb10.size
  clear kb9 k10
  go_wp2_with fail
  refine (B_any y _ HY.out.1 HY.out.2).mono ?_
  rintro e w11 ⟨b11, rfl, g11, i11, k11⟩
  have zz11 := k11.size
  skip
  have cf11 := cf10.below k11
  clear cf10
  have p11 := p10.below k11 (Nat.le_refl _)
  clear p10
  have q11 := q10.below k11 (Nat.le_refl _)
  clear q10
  have r11 := r10.below k11 (Nat.le_refl _)
  clear r10
  have s11 := i10.below k11 (Nat.le_refl _)
  clear i10
  have kb11 := kb10.trans (k11.mono (by first | omega | (simp only [World.size_alloc]; omega)))
  have zb11 := kb11.size
  clear kb10 k11
  go_wp2_with fail
  have st12 := r11
  have sz12 := r11.lt
  refine (Mul_any (w8.heap.size) _ _ (y) (y) 2 2 _ st12 s11 i11 HY.out.lt HY.out.lt (by omega) (by omega)).mono ?_
  rintro e w12 ⟨rfl, i12, u12⟩
  clear s11
  clear i11
  have zu12 := u12.size
  have cf12 : Cl w.heap.size [.int .i64 f.a, .int .i64 f.b, .int .i64 f.c] 32 w12 := (u12.block _ cf11.lt (by omega)).trans cf11
  clear cf11
  have p12 := p11.upd u12 st12 (by omega)
  clear p11
  have q12 := q11.upd u12 st12 (by omega)
  clear q11
  have kb12 := kb11.trans (u12.below (by omega) (by omega))
  have zb12 := kb12.size
  clear kb11 u12 st12 r11
  have fc13 := cf12.cell 0
  simp at fc13
  go_wp2_with fail
  clear fc13
  refine (B_any f.a _ HA.out.1 HA.out.2).mono ?_
  rintro e w14 ⟨b14, rfl, g14, i14, k14⟩
  have zz14 := k14.size
  skip
  have cf14 := cf12.below k14
  clear cf12
  have p14 := p12.below k14 (Nat.le_refl _)
  clear p12
  have q14 := q12.below k14 (Nat.le_refl _)
  clear q12
  have r14 := i12.below k14 (Nat.le_refl _)
  clear i12
  have kb14 := kb12.trans (k14.mono (by first | omega | (simp only [World.size_alloc]; omega)))
  have zb14 := kb14.size
  clear kb12 k14
  go_wp2_with fail
  have st15 := p14.slot
  have sz15 := p14.lt
  refine (Mul_any (w.heap.size + 1) _ _ (x * x) (f.a) 4 2 _ st15 p14 i14 (mul_lt_pw HX.out.lt HX.out.lt) HA.out.lt (by omega) (by omega)).mono ?_
  rintro e w15 ⟨rfl, i15, u15⟩
  clear i14
  have zu15 := u15.size
  have cf15 : Cl w.heap.size [.int .i64 f.a, .int .i64 f.b, .int .i64 f.c] 32 w15 := (u15.block _ cf14.lt (by omega)).trans cf14
  clear cf14
  have q15 := q14.upd u15 st15 (by omega)
  clear q14
  have r15 := r14.upd u15 st15 (by omega)
  clear r14
  have kb15 := kb14.trans (u15.below (by omega) (by omega))
  have zb15 := kb15.size
  clear kb14 u15 st15 p14
  have fc16 := cf15.cell 1
  simp at fc16
  go_wp2_with fail
  clear fc16
  refine (B_any f.b _ HBb.out.1 HBb.out.2).mono ?_
  rintro e w17 ⟨b17, rfl, g17, i17, k17⟩
  have zz17 := k17.size
  skip
  have cf17 := cf15.below k17
  clear cf15
  have p17 := i15.below k17 (Nat.le_refl _)
  clear i15
  have q17 := q15.below k17 (Nat.le_refl _)
  clear q15
  have r17 := r15.below k17 (Nat.le_refl _)
  clear r15
  have kb17 := kb15.trans (k17.mono (by first | omega | (simp only [World.size_alloc]; omega)))
  have zb17 := kb17.size
  clear kb15 k17
  go_wp2_with fail
  have st18 := q17.slot
  have sz18 := q17.lt
  refine (Mul_any (w4.heap.size) _ _ (x * y) (f.b) 4 2 _ st18 q17 i17 (mul_lt_pw HX.out.lt HY.out.lt) HBb.out.lt (by omega) (by omega)).mono ?_
  rintro e w18 ⟨rfl, i18, u18⟩
  clear i17
  have zu18 := u18.size
  have cf18 : Cl w.heap.size [.int .i64 f.a, .int .i64 f.b, .int .i64 f.c] 32 w18 := (u18.block _ cf17.lt (by omega)).trans cf17
  clear cf17
  have p18 := p17.upd u18 st18 (by omega)
  clear p17
  have r18 := r17.upd u18 st18 (by omega)
  clear r17
  have kb18 := kb17.trans (u18.below (by omega) (by omega))
  have zb18 := kb18.size
  clear kb17 u18 st18 q17
  go_wp2_with fail
  have st19 := p18.slot
  have sz19 := p18.lt
  refine (Add_any (w.heap.size + 1) _ _ (x * x * f.a) (x * y * f.b) 6 6 _ st19 p18 i18 (mul_lt_pw (mul_lt_pw HX.out.lt HX.out.lt) HA.out.lt) (mul_lt_pw (mul_lt_pw HX.out.lt HY.out.lt) HBb.out.lt) (by omega) (by omega)).mono ?_
  rintro e w19 ⟨rfl, i19, u19⟩
  have zu19 := u19.size
  have cf19 : Cl w.heap.size [.int .i64 f.a, .int .i64 f.b, .int .i64 f.c] 32 w19 := (u19.block _ cf18.lt (by omega)).trans cf18
  clear cf18
  have q19 := i18.upd u19 st19 (by omega)
  clear i18
  have r19 := r18.upd u19 st19 (by omega)
  clear r18
  have kb19 := kb18.trans (u19.below (by omega) (by omega))
  have zb19 := kb19.size
  clear kb18 u19 st19 p18
  clear q19
  have fc20 := cf19.cell 2
  simp at fc20
  go_wp2_with fail
  clear fc20
  refine (B_any f.c _ HCc.out.1 HCc.out.2).mono ?_
  rintro e w21 ⟨b21, rfl, g21, i21, k21⟩
  have zz21 := k21.size
  skip
  have cf21 := cf19.below k21
  clear cf19
  have p21 := i19.below k21 (Nat.le_refl _)
  clear i19
  have r21 := r19.below k21 (Nat.le_refl _)
  clear r19
  have kb21 := kb19.trans (k21.mono (by first | omega | (simp only [World.size_alloc]; omega)))
  have zb21 := kb21.size
  clear kb19 k21
  go_wp2_with fail
  have st22 := r21.slot
  have sz22 := r21.lt
  refine (Mul_any (w8.heap.size) _ _ (y * y) (f.c) 4 2 _ st22 r21 i21 (mul_lt_pw HY.out.lt HY.out.lt) HCc.out.lt (by omega) (by omega)).mono ?_
  rintro e w22 ⟨rfl, i22, u22⟩
  clear i21
  have zu22 := u22.size
  have cf22 : Cl w.heap.size [.int .i64 f.a, .int .i64 f.b, .int .i64 f.c] 32 w22 := (u22.block _ cf21.lt (by omega)).trans cf21
  clear cf21
  have p22 := p21.upd u22 st22 (by omega)
  clear p21
  have kb22 := kb21.trans (u22.below (by omega) (by omega))
  have zb22 := kb22.size
  clear kb21 u22 st22 r21
  go_wp2_with fail
  have st23 := p22.slot
  have sz23 := p22.lt
  refine (Add_any (w.heap.size + 1) _ _ (x * x * f.a + x * y * f.b) (y * y * f.c) 7 6 _ st23 p22 i22 (add_lt_pw (mul_lt_pw (mul_lt_pw HX.out.lt HX.out.lt) HA.out.lt) (mul_lt_pw (mul_lt_pw HX.out.lt HY.out.lt) HBb.out.lt)) (mul_lt_pw (mul_lt_pw HY.out.lt HY.out.lt) HCc.out.lt) (by omega) (by omega)).mono ?_
  rintro e w23 ⟨rfl, i23, u23⟩
  have zu23 := u23.size
  have cf23 : Cl w.heap.size [.int .i64 f.a, .int .i64 f.b, .int .i64 f.c] 32 w23 := (u23.block _ cf22.lt (by omega)).trans cf22
  clear cf22
  have r23 := i22.upd u23 st23 (by omega)
  clear i22
  have kb23 := kb22.trans (u23.below (by omega) (by omega))
  have zb23 := kb23.size
  clear kb22 u23 st23 p22
  go_wp2
  go_ret
  exact ⟨w.heap.size + 1, rfl, by omega, i23, kb23⟩

end Go.Proofs.Ytijkanilpblogae
