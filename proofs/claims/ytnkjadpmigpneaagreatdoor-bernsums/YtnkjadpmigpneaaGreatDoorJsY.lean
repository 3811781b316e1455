import Derived.Test.YtnkjadpmigpneaaGreatDoorJsC
import Derived.Test.YtnkjadpmigpneaaGreatDoorJsQ
import Derived.Laws.StructEq
import Derived.Test.YtnkjadpmigpneaaGreatDoorJsU
import Derived.Test.YtnkjadpmigpneaaGreatDoorJsT
import Derived.Test.YtnkjadpmigpneaaGreatDoorJsL
import Derived.Test.YtnkjadpmigpneaaGreatDoorJsX
import Derived.Deep.LoopGhost
import Derived.Test.YtnkjadpmigpneaaGreatDoorJsG
import Derived.Test.YtnkjadpmigpneaaGreatDoorJsJ
import Derived.Maps.AppendAt
import Derived.Test.YtnkjadpmigpneaaGreatDoorBrM
set_option linter.unusedSimpArgs false
set_option linter.unusedVariables false
namespace Go.Proofs.YtnkjadpmigpneaaGreatDoor
section
set_option maxRecDepth 100000
open Go.RowKit
end
section
set_option maxRecDepth 100000
open Go.RowKit
theorem lt_pw2 {x:Int} (h1 : -9223372036854775808≤x) (h2:x≤9223372036854775807):x.natAbs < pw 2:=by rw [pw_two]; omega
theorem Below.alloc_self (w:World) (o:Obj):Below w.heap.size w (w.alloc o):=Below.alloc (Below.refl _ _) (Nat.le_refl _) _
end
section
set_option maxRecDepth 100000
open Go.RowKit
theorem length_any (s:Value) (a m:Nat) (w:World) (ha:NS w s a) (hm:a < pw m) (hm':m≤100000000) :
  Calls Tryz.prog 65 #[s] w fun e w'=>∃ L:Nat,e = .returned (.int .i64 (L:Int))∧a < 2 ^ L∧L≤3200000000∧w' = w:=by
 obtain ⟨l,aa,g,cap,rfl,va,na,sa,pa,cell,_,lt⟩:=ha.open
 subst va
 have l1:l.length≤100000000:=Nat.le_trans (na.len hm) hm'
 by_cases h0:l.length = 0
 ·obtain rfl:l = []:=List.length_eq_zero_iff.1 h0
  clear ha pa cell lt hm
  go_enter Tryz.func65,Tryz.ntmps65
  go_wp2
  go_ret
  exact ⟨0,rfl,by simp [val],by omega,rfl⟩
 ·refine (length_core l aa g cap w (by omega) l1 sa (pa (by omega)) (cell _ (by omega))).mono ?_
  rintro e w' ⟨t,rfl,hb,ht,rfl⟩
  refine ⟨_,rfl,?_,by omega,rfl⟩
  have h1:=val_split l (l.length - 1) (by omega)
  have h2:=take_lt l (l.length - 1) (by omega) sa
  have h3:val (l.drop (l.length - 1 + 1)) = 0:=by rw [List.drop_eq_nil_of_le (by omega)]; rfl
  rw [h3,Nat.mul_zero,Nat.add_zero] at h1
  have h4:=hb.lt
  rw [h1,Nat.pow_add,Nat.mul_comm (l.length - 1),← pw_two_pow]
  have h5:pw (l.length - 1) * (l.getD (l.length - 1) 0 + 1)≤pw (l.length - 1) * 2 ^ t:=Nat.mul_le_mul_left _ h4
  rw [Nat.mul_add,Nat.mul_one] at h5
  omega
theorem bit_word (l:List Nat) (i:Nat) (h:∀ x ∈ l,x < 4294967296) (hi:i / 32 < l.length):l.getD (i / 32) 0 / 2 ^ (i % 32) % 2 = val l / 2 ^ i % 2:=by
 rw [val_drop_shift l h i (i / 32) (i % 32) (by omega) (by omega),drop_step l (i / 32) hi]
 generalize l.getD (i / 32) 0 = x
 generalize val (l.drop (i / 32 + 1)) = V
 have hr:i % 32 < 32:=Nat.mod_lt _ (by omega)
 obtain ⟨r,gr⟩:∃ r,r = i % 32:=⟨_,rfl⟩
 rw [← gr] at hr ⊢
 have e:4294967296 * V = 2 ^ r * (2 * (2 ^ (31 - r) * V)):=by
  have:2 ^ r * 2 * 2 ^ (31 - r) = 4294967296:=by
   rw [← Nat.pow_succ,← Nat.pow_add,show r + 1 + (31 - r) = 32 by omega]
  rw [← Nat.mul_assoc,← Nat.mul_assoc,this]
 rw [e,Nat.add_mul_div_left _ _ (Nat.two_pow_pos r)]
 omega
theorem low_bit (x r:Nat) (hx:x < 4294967296):bits .and .u64 (IntKind.u64.wrap ((x:Int) / 2 ^ r)) 1 = ((x / 2 ^ r % 2:Nat):Int):=by
 have e:(x:Int) / 2 ^ r = ((x / 2 ^ r:Nat):Int):=by simp
 have h:x / 2 ^ r≤x:=Nat.div_le_self ..
 rw [e]
 generalize x / 2 ^ r = y at *
 have hw:IntKind.u64.wrap (y:Int) = (y:Int):=wrapN y (by omega)
 rw [hw]
 have:=bits_and_u64_nat y 1 (by omega) (by omega)
 rw [Nat.and_one_is_mod] at this
 exact this
theorem bit_none (A i:Nat) (h:A < 2 ^ i):A / 2 ^ i % 2 = 0:=by rw [Nat.div_eq_of_lt h]
set_option maxHeartbeats 1000000 in
theorem bit_any (s:Value) (A i m:Nat) (w:World) (hs:NS w s A) (hm:A < pw m) (hm':m≤100000000) (hi:i≤4000000000) :
  Calls Tryz.prog 66 #[s,.int .i64 i] w fun e w'=>e = .returned (.int .u64 ((A / 2 ^ i % 2:Nat):Int))∧∃ q,w' = w.drewN q:=by
 obtain ⟨l,aa,g,cap,rfl,va,na,sa,pa,cell,_,lt⟩:=hs.open
 subst va
 have l1:l.length≤100000000:=Nat.le_trans (na.len hm) hm'
 by_cases h0:i / 32 < l.length
 ·obtain rfl:=pa (by omega)
  have c0:=cell _ h0
  have s0:=List.getD_lt_of sa (i / 32)
  have hb:=bit_word l i sa h0
  have hr:i % 32 < 32:=Nat.mod_lt _ (by omega)
  rw [← hb]
  obtain ⟨k,gk⟩:∃ k,k = i / 32:=⟨_,rfl⟩
  obtain ⟨r,gr⟩:∃ r,r = i % 32:=⟨_,rfl⟩
  rw [← gk] at c0 s0 h0 ⊢
  rw [← gr] at hr ⊢
  obtain ⟨x,gx⟩:∃ x,x = l.getD k 0:=⟨_,rfl⟩
  rw [← gx] at c0 s0 ⊢
  have ek:(i:Int) / 32 = (k:Int):=by omega
  have er:(i:Int) % 32 = (r:Int):=by omega
  clear hs hm lt cell pa sa na hb gk gr gx
  go_enter Tryz.func66,Tryz.ntmps66
  go_wp2
  go_ret
  exact ⟨ret_int (low_bit x r s0),0,rfl⟩
 ·have hz:val l / 2 ^ i % 2 = 0:=by
   refine bit_none _ _ ?_
   have h1:=val_lt l sa
   rw [pw_two_pow] at h1
   exact Nat.lt_of_lt_of_le h1 (Nat.pow_le_pow_right (by omega) (by omega))
  rw [hz]
  clear hs hm lt cell pa sa na hz
  go_enter Tryz.func66,Tryz.ntmps66
  go_wp2
  go_ret
  exact ⟨rfl,0,rfl⟩
end
section
set_option maxRecDepth 100000
open Go.RowKit
theorem half_bit (Y i:Nat):Y / 2 ^ i = 2 * (Y / 2 ^ (i + 1)) + Y / 2 ^ i % 2:=by
 rw [Nat.pow_succ,← Nat.div_div_eq_div_mul]; omega
theorem ipow_add (x:Int) (m n:Nat):x ^ (m + n) = x ^ m * x ^ n:=by
 induction n with
 | zero=>simp
 | succ k ih=>rw [← Nat.add_assoc,Int.pow_succ,ih,Int.pow_succ,Int.mul_assoc]
theorem mulN_lt {x y:Int} {m n:Nat} (hx:x.natAbs < pw m) (hy:y.natAbs < pw n):(x * y).natAbs < pw (m + n):=by
 rw [Int.natAbs_mul,pw_add]; exact Nat.mul_lt_mul'' hx hy
theorem ipow_lt {x:Int} {mx:Nat} (h:x.natAbs < pw mx) (k Y:Nat) (hk:k≤Y):(x ^ k).natAbs < pw (mx * Y + 1):=by
 have h1:∀ k,(x ^ k).natAbs≤pw (mx * k):=by
  intro k
  induction k with
  | zero=>simp [pw]
  | succ n ih =>
   rw [Int.pow_succ,Int.natAbs_mul,Nat.mul_succ,pw_add]
   exact Nat.mul_le_mul ih (Nat.le_of_lt h)
 have h2:=h1 k
 have h3:=pw_le (Nat.mul_le_mul_left mx hk)
 have h4:pw (mx * Y + 1) = 4294967296 * pw (mx * Y):=rfl
 have h5:=pw_pos (mx * Y)
 omega
theorem exp_sq0 (x:Int) (k:Nat):x ^ k * x ^ k = x ^ (2 * k):=by rw [← ipow_add,Nat.two_mul]
set_option maxHeartbeats 2000000 in
theorem Exp_nil (bz bx by':Nat) (x:Int) (Y mx my:Nat) (w:World) (hz:Slot w bz) (hx:BigAt w bx x) (hy:BigAt w by' (Y:Int)) (lx:x.natAbs < pw mx) (ly:Y < pw my) (lx':mx * Y + 1≤40000000) (lm:mx≤40000000) (ly':my≤40000000) :
  Calls Tryz.prog 31 #[.pointer (some ⟨bz,0,none⟩),.pointer (some ⟨bx,0,none⟩),.pointer (some ⟨by',0,none⟩),.pointer none] w fun e w'=>e = .returned (.pointer (some ⟨bz,0,none⟩))∧BigAt w' bz (x ^ Y)∧Upd bz w w':=by
 obtain ⟨ya,yl,yc,cy0,cy1,ny,_⟩:=hy.open
 have zlt:=hz.lt
 have ylt:=hy.lt
 have HZ:Hid (Slot w bz):=hz
 have HX:Hid (BigAt w bx x):=hx
 have HNY:Hid (NS w (.slice ya yl yc) Y):=by have h:=ny; show NS _ _ _; simpa using h
 have LX:Hid (x.natAbs < pw mx):=lx
 have LY:Hid (Y < pw my):=ly
 have LP:Hid (∀ k,k≤Y→(x ^ k).natAbs < pw (mx * Y + 1)):=fun k hk=>ipow_lt lx k Y hk
 obtain ⟨B,gB⟩:∃ B,B = mx * Y + 1:=⟨_,rfl⟩
 rw [← gB] at LP lx'
 rw [decide_eq_false (show ¬ (Y:Int) < 0 by omega)] at cy0
 clear hz hx hy ny lx ly gB
 go_enter Tryz.func31,Tryz.ntmps31
 go_wp2_with fail
 refine (Set_any w.heap.size bx x mx _ (slot_new w _ _) (HX.out.below (Below.alloc_self' w _) (Nat.le_refl _)) LX.out (by omega)).mono ?_
 rintro e w1 ⟨rfl,h1,u1⟩
 have k1:Below w.heap.size w w1:=(Below.alloc_self' w _).trans (u1.below (by simp) (Nat.le_refl _))
 have z1:w.heap.size < w1.heap.size:=h1.lt
 have dy0:w1.cell? ⟨by',0,none⟩ = some (.bool false):=(k1.cell (p:=⟨by',0,none⟩) ylt).trans cy0
 have dy1:w1.cell? ⟨by',1,none⟩ = some (.slice ya yl yc):=(k1.cell (p:=⟨by',1,none⟩) ylt).trans cy1
 have HB1:Hid (BigAt w1 w.heap.size x):=h1
 have HK1:Hid (Below w.heap.size w w1):=k1
 clear h1 u1 k1 cy0 cy1
 go_wp2_with fail
 refine (NewInt_any 1 _ (by omega) (by omega)).mono ?_
 rintro e w2 ⟨br,rfl,p2,h2,k2⟩
 have z2:=k2.size
 have lbr:br < w2.heap.size:=h2.lt
 have ey1:w2.cell? ⟨by',1,none⟩ = some (.slice ya yl yc):=(k2.cell (p:=⟨by',1,none⟩) (show by' < w1.heap.size by omega)).trans dy1
 have HR2:Hid (BigAt w2 br 1):=h2
 have HB2:Hid (BigAt w2 w.heap.size x):=HB1.out.below k2 (Nat.le_refl _)
 have HK2:Hid (Below w.heap.size w w2):=HK1.out.trans (k2.mono (by omega))
 have HN2:Hid (NS w2 (.slice ya yl yc) Y):=HNY.out.below HK2.out (Nat.le_refl _)
 clear h2 k2 HB1 HK1 dy0 dy1
 go_wp2_with fail
 refine (twin_any _ Y my _ HN2.out LY.out (by omega)).mono ?_
 rintro e w3 ⟨ev,rfl,h3,k3⟩
 obtain ⟨ea,el,ec,rfl,_⟩:=h3.shape
 have z3:=k3.size
 have HE5:Hid (NS w3 (.slice ea el ec) Y):=h3
 have HR5:Hid (BigAt w3 br 1):=HR2.out.below k3 (Nat.le_refl _)
 have HB5:Hid (BigAt w3 w.heap.size x):=HB2.out.below k3 (Nat.le_refl _)
 have HK5:Hid (Below w.heap.size w w3):=HK2.out.trans (k3.mono (by omega))
 clear h3 k3 HR2 HB2 HK2 HN2 ey1
 go_wp2_with fail
 refine (length_any _ Y my _ HE5.out LY.out (by omega)).mono ?_
 rintro e w6 ⟨L,rfl,hL,hLb,rfl⟩
 have HL:Hid (Y < 2 ^ L):=hL
 clear hL
 go_wp2_with fail
 go_loopw [14] (fun iv wx=>∃ k:Nat,k≤L∧iv = .int .i64 ((k:Int) - 1)∧Hid (BigAt wx br (x ^ (Y / 2 ^ k))∧BigAt wx w.heap.size x∧NS wx (.slice ea el ec) Y∧Below w.heap.size w wx∧w6.heap.size≤wx.heap.size)) (fun iv _=>(intOf iv + 1).toNat)
 case atStart =>
  refine ⟨L,Nat.le_refl _,by go_num,?_,HB5.out,HE5.out,HK5.out,Nat.le_refl _⟩
  rw [Nat.div_eq_of_lt HL.out,Int.pow_zero]
  exact HR5.out
 case round =>
  clear HR5 HE5 HB5 HK5
  obtain ⟨k,hk,hiv,HR0⟩:=hrel
  have HR:Hid (BigAt wr br (x ^ (Y / 2 ^ k))):=HR0.out.1
  have HB:Hid (BigAt wr w.heap.size x):=HR0.out.2.1
  have HE:Hid (NS wr (.slice ea el ec) Y):=HR0.out.2.2.1
  have HK:Hid (Below w.heap.size w wr):=HR0.out.2.2.2.1
  have zr:w6.heap.size≤wr.heap.size:=HR0.out.2.2.2.2
  clear HR0
  by_cases h0:k = 0
  ·subst h0
   subst hiv
   have HR':Hid (BigAt wr br (x ^ Y)):=by have h:=HR.out; rw [Nat.pow_zero,Nat.div_one] at h; exact h
   clear HR
   go_wp2_with fail
   refine (Set_any bz br (x ^ Y) B _ (HZ.out.below HK.out (Nat.le_refl _)) HR'.out (LP.out Y (Nat.le_refl _)) (by omega)).mono ?_
   rintro e w7 ⟨rfl,h7,u7⟩
   go_wp2
   go_ret
   exact ⟨rfl,h7,Upd.then_below HK.out u7⟩
  ·obtain ⟨j,rfl⟩:∃ j,k = j + 1:=⟨k - 1,by omega⟩
   have hiv2:=hiv.trans (show Value.int .i64 (((j + 1:Nat):Int) - 1) = Value.int .i64 (j:Int) from by congr 1; omega)
   subst hiv2
   clear hiv
   have hle1:Y / 2 ^ j≤Y:=Nat.div_le_self ..
   have hhb:=half_bit Y j
   have LR:Hid ((x ^ (Y / 2 ^ (j + 1))).natAbs < pw B):=LP.out _ (Nat.div_le_self ..)
   have LT:Hid ((x ^ (2 * (Y / 2 ^ (j + 1)))).natAbs < pw B):=LP.out _ (by omega)
   have HSQ:Hid (x ^ (Y / 2 ^ (j + 1)) * x ^ (Y / 2 ^ (j + 1)) = x ^ (2 * (Y / 2 ^ (j + 1)))):=exp_sq0 x _
   have HON:Hid (x ^ (2 * (Y / 2 ^ (j + 1))) * x = x ^ (2 * (Y / 2 ^ (j + 1)) + 1)):=(Int.pow_succ ..).symm
   have HHB:Hid (Y / 2 ^ j = 2 * (Y / 2 ^ (j + 1)) + Y / 2 ^ j % 2):=hhb
   clear hhb hle1
   go_wp2_with fail
   refine (Mul_any br br br _ _ B B _ HR.out.slot HR.out HR.out LR.out LR.out (by omega) (by omega)).mono ?_
   rw [HSQ.out]
   rintro e w8 ⟨rfl,h8,u8⟩
   have z8:=u8.size
   have HR8:Hid (BigAt w8 br (x ^ (2 * (Y / 2 ^ (j + 1))))):=h8
   have HB8:Hid (BigAt w8 w.heap.size x):=HB.out.upd u8 HR.out.slot (by omega)
   have HE8:Hid (NS w8 (.slice ea el ec) Y):=HE.out.upd u8 HR.out.slot
   have HK8:Hid (Below w.heap.size w w8):=HK.out.trans (u8.below (by omega) (by omega))
   clear h8 u8 HB HE HK HR
   go_wp2_with fail
   refine (bit_any _ Y j my _ HE8.out LY.out (by omega) (by omega)).mono ?_
   rcases Nat.mod_two_eq_zero_or_one (Y / 2 ^ j) with hb | hb
   ·have HR9:Hid (BigAt w8 br (x ^ (Y / 2 ^ j))):=by
     have h:=HR8.out
     have h2:=HHB.out
     rw [hb] at h2
     rw [show 2 * (Y / 2 ^ (j + 1)) = Y / 2 ^ j by omega] at h
     exact h
    rw [hb]
    clear hb HR8
    rintro e w9 ⟨rfl,q9,rfl⟩
    go_wp2
    go_roundw
    case rel=>exact ⟨j,by omega,rfl,HR9.out.drewN,HB8.out.drewN,HE8.out.drewN,below_drewN' HK8.out,(show w6.heap.size≤w8.heap.size by omega)⟩
    case measure=>simp [intOf]
   ·have HO:Hid (x ^ (2 * (Y / 2 ^ (j + 1))) * x = x ^ (Y / 2 ^ j)):=by
     have h2:=HHB.out
     rw [hb] at h2
     show _ = _
     rw [HON.out,← h2]
    rw [hb]
    clear hb
    rintro e w9 ⟨rfl,q9,hw9⟩
    have z9:w8.heap.size≤w9.heap.size:=by rw [hw9]; exact Nat.le_refl _
    have HR9:Hid (BigAt w9 br (x ^ (2 * (Y / 2 ^ (j + 1))))):=by rw [hw9]; exact HR8.out.drewN
    have HB9:Hid (BigAt w9 w.heap.size x):=by rw [hw9]; exact HB8.out.drewN
    have HE9:Hid (NS w9 (.slice ea el ec) Y):=by rw [hw9]; exact HE8.out.drewN
    have HK9:Hid (Below w.heap.size w w9):=by rw [hw9]; exact below_drewN' HK8.out
    clear hw9 HR8 HB8 HE8 HK8
    go_wp2_with fail
    refine (Mul_any br br w.heap.size _ x B mx _ HR9.out.slot HR9.out HB9.out LT.out LX.out (by omega) (by omega)).mono ?_
    rw [HO.out]
    rintro e w10 ⟨rfl,h10,u10⟩
    have z10:=u10.size
    have HR10:Hid (BigAt w10 br (x ^ (Y / 2 ^ j))):=h10
    have HB10:Hid (BigAt w10 w.heap.size x):=HB9.out.upd u10 HR9.out.slot (by omega)
    have HE10:Hid (NS w10 (.slice ea el ec) Y):=HE9.out.upd u10 HR9.out.slot
    have HK10:Hid (Below w.heap.size w w10):=HK9.out.trans (u10.below (by omega) (by omega))
    clear h10 u10 HB9 HE9 HK9 HR9
    go_wp2
    go_roundw
    case rel=>exact ⟨j,by omega,rfl,HR10.out,HB10.out,HE10.out,HK10.out,by omega⟩
    case measure=>simp [intOf]
end
section
set_option maxRecDepth 100000
open Go.RowKit LgM
def hj (cs:Nat→Rat) (x:Rat) (L:Nat):Nat→Rat
 | 0=>0
 | j + 1=>hj cs x L j * x + cs (L - 1 - j)
def Cb (cs:Nat→Rat) (L c:Nat):Prop:=∃ (D:Int) (C:Nat→Int),0 < D∧D.natAbs < pw c∧∀ i,i < L→(C i:Rat) / (D:Rat) = cs i∧(C i).natAbs < pw c
theorem hj_size {cs:Nat→Rat} {L c n:Nat} (hn:n≤1000000000000000000) {D:Int} {C:Nat→Int} (hD:0 < D) (hC:∀ i,i < L→(C i:Rat) / (D:Rat) = cs i∧(C i).natAbs < pw c) :
  ∀ j,j≤L→∃ N:Int,(N:Rat) / (D:Rat) = hj cs (n:Rat) L j∧N.natAbs < pw (c + 3 * j)∧((N * n:Int):Rat) / (D:Rat) = hj cs (n:Rat) L j * (n:Rat)∧(N * n).natAbs < pw (c + 3 * j + 2)
 | 0,_=>⟨0,by show _ = (0:Rat); grind,by show 0 < _; exact pw_pos _,by show _ = (0:Rat) * _; simp; grind,by simp; exact pw_pos _⟩
 | j + 1,hj'=>by
  obtain ⟨N,h1,h2,h3,h4⟩:=hj_size hn hD hC j (by omega)
  obtain ⟨c1,c2⟩:=hC (L - 1 - j) (by omega)
  have hD0:=rne (show D ≠ 0 by omega)
  have v:((N * n + C (L - 1 - j):Int):Rat) / (D:Rat) = hj cs (n:Rat) L (j + 1):=by
   show _ = hj cs (n:Rat) L j * (n:Rat) + cs (L - 1 - j)
   rw [← h3,← c1,Rat.intCast_add]
   grind
  have s:(N * n + C (L - 1 - j)).natAbs < pw (c + 3 * (j + 1)):=by
   have:=add_pw h4 (Nat.lt_of_lt_of_le c2 (pw_le (show c≤c + 3 * j + 2 by omega)))
   rw [show c + 3 * (j + 1) = c + 3 * j + 2 + 1 by omega]
   exact this
  refine ⟨_,v,s,?_,?_⟩
  ·rw [← v,Rat.intCast_mul]
   have:((n:Int):Rat) = (n:Rat):=rfl
   rw [this]
   grind
  ·exact mulN_lt s (lt_pw2 (by omega) (by omega))
structure PR (W:World) (g L:Nat) (bq:Nat→Nat) (cs:Nat→Rat) (M:Nat):Prop where
 cell:∀ i,i < L→W.cell? ⟨g,i,none⟩ = some (.pointer (some ⟨bq i,0,none⟩))
 rat:∀ i,i < L→Rv W (bq i) (cs i) M
theorem PR.below {W W':World} {g L:Nat} {bq:Nat→Nat} {cs:Nat→Rat} {M:Nat} (h:PR W g L bq cs M) (k:Below W.heap.size W W'):PR W' g L bq cs M :=
 ⟨fun i hi=>cell_later k (h.cell i hi),fun i hi=>(h.rat i hi).below k⟩
def Hs (w W:World) (b:Nat) (cs:Nat→Rat) (n L M j:Nat):Prop:=((j = 0∧RatAt W b 0 0)∨(0 < j∧Rv W b (hj cs (n:Rat) L j) M))∧Below w.heap.size w W
theorem Hs.below {w W W':World} {b n L M j:Nat} {cs:Nat→Rat} (h:Hs w W b cs n L M j) (k:Below W.heap.size W W'):Hs w W' b cs n L M j:=by
 obtain ⟨h1,h2⟩:=h
 refine ⟨?_,h2.trans (k.mono h2.size)⟩
 rcases h1 with ⟨e,h⟩ | ⟨e,h⟩
 ·exact .inl ⟨e,h.below k⟩
 ·exact .inr ⟨e,h.below k⟩
theorem Hs.slot {w W:World} {b n L M j:Nat} {cs:Nat→Rat} (h:Hs w W b cs n L M j):RSlot W b:=by
 rcases h.1 with ⟨e,h⟩ | ⟨e,h⟩
 ·exact h.rslot
 ·exact h.rslot
theorem hs_mul {w W:World} {b r n L M j:Nat} {cs:Nat→Rat} (h:Hs w W b cs n L M j) (hr:Rv W r ((n:Int):Rat) 2) (hb:w.heap.size≤b) (hM:2≤M) (hM2:M≤1000) {N D:Int} (hD:0 < D) (hv:((N * n:Int):Rat) / (D:Rat) = hj cs (n:Rat) L j * (n:Rat)) (h1:(N * n).natAbs < pw M) (h2:D.natAbs < pw M) :
  Calls Tryz.prog 41 #[.pointer (some ⟨b,0,none⟩),.pointer (some ⟨b,0,none⟩),.pointer (some ⟨r,0,none⟩)] W fun e w'=>e = .returned (.pointer (some ⟨b,0,none⟩))∧Rv w' b (hj cs (n:Rat) L j * (n:Rat)) M∧Below w.heap.size w w':=by
 have hn:((n:Int):Rat) = (n:Rat):=rfl
 rcases h.1 with ⟨e,h0⟩ | ⟨e,h0⟩
 ·subst e
  obtain ⟨P,Q,x1,x2,x3,x4⟩:=hr
  refine (RMul_zero b b r P Q 2 W h0.rslot h0 x1 x3 x4 (by omega)).mono ?_
  rintro e w' ⟨rfl,r1,u⟩
  refine ⟨rfl,⟨0,1,r1,?_,pw_pos _,Nat.lt_of_lt_of_le (show (1:Int).natAbs < pw 1 by decide) (pw_le (by omega))⟩,h.2.trans (u.below h.2.size hb)⟩
  show _ = (0:Rat) * (n:Rat)
  grind
 ·refine (RMulV b b r _ _ M W h0.rslot h0 (hr.le hM) (by omega)).mono ?_
  rintro e w' ⟨rfl,r1,u⟩
  rw [hn] at r1
  exact ⟨rfl,r1.low hD hv h1 h2,h.2.trans (u.below h.2.size hb)⟩
set_option maxHeartbeats 4000000 in
theorem at_any (g L cap n c:Nat) (bq:Nat→Nat) (cs:Nat→Rat) (w:World) (hR:PR w g L bq cs (c + 3 * L + 3)) (hc:Cb cs L c) (hc1:1≤c) (hcL:c≤400) (hL:L≤100) (hL1:1≤L) (hcap:L≤cap) (hn:n≤1000000000000000000) :
  Calls Tryz.prog 25 #[.slice (some ⟨g,0,none⟩) L cap,.int .i64 (n:Int)] w fun e w'=>∃ b,e = .returned (.pointer (some ⟨b,0,none⟩))∧w.heap.size≤b∧Rv w' b (hj cs (n:Rat) L L) (c + 3 * L + 3)∧Below w.heap.size w w':=by
 obtain ⟨D,C,hD,hDc,hC⟩:=hc
 have HZ:Hid (∀ j,j≤L→∃ N:Int,(N:Rat) / (D:Rat) = hj cs (n:Rat) L j∧N.natAbs < pw (c + 3 * j)∧((N * n:Int):Rat) / (D:Rat) = hj cs (n:Rat) L j * (n:Rat)∧(N * n).natAbs < pw (c + 3 * j + 2)):=hj_size hn hD hC
 have HD:Hid (0 < D∧D.natAbs < pw (c + 3 * L + 3)):=⟨hD,Nat.lt_of_lt_of_le hDc (pw_le (by omega))⟩
 have HR:Hid (PR w g L bq cs (c + 3 * L + 3)):=hR
 clear hR hC hDc hD
 obtain ⟨M,hM⟩:∃ M,M = c + 3 * L + 3:=⟨_,rfl⟩
 rw [← hM] at HR HD ⊢
 have hM1:2≤M:=by omega
 have hM2:M≤1000:=by omega
 have HM:Hid (∀ j,j≤L→c + 3 * j + 2≤M):=fun j hj=>by omega
 clear hM hc1 hcL
 go_enter Tryz.func25,Tryz.ntmps25
 go_wp2_with fail
 have H0:Hid (Hs w (w.alloc (.cells #[.bool false,.slice none 0 0,.bool false,.slice none 0 0] 39)) w.heap.size cs n L M 0):=⟨.inl ⟨rfl,rat_zero w⟩,Below.alloc_self _ _⟩
 go_loopg [6] L (fun gk iv wx=>∃ j:Nat,iv = .int .i64 ((L:Int) - 1 - (j:Int))∧Hid (gk = L - j∧j≤L∧Hs w wx w.heap.size cs n L M j))
 case atStart=>exact ⟨0,by go_num,rfl,by omega,H0.out⟩
 case round =>
  clear H0
  obtain ⟨j,rfl,HQ⟩:=hrel
  obtain ⟨h1,h2,h3⟩:=HQ.out
  have HK:Hid (gk = L - j):=h1
  have HS:Hid (Hs w wr w.heap.size cs n L M j):=h3
  clear HQ h1 h3
  by_cases hjL:j < L
  ·obtain ⟨i,hi⟩:∃ i:Nat,(L:Int) - 1 - (j:Int) = (i:Int):=⟨L - 1 - j,by omega⟩
   rw [hi]
   have ti:decide (0≤(i:Int)) = true:=decide_eq_true (by omega)
   have hiL:i < L:=by omega
   have g0:=HS.out.2.size
   go_wp2_with fail
   have S0:Hid (RSlot (wr.alloc (.cells #[.bool false,.slice none 0 0,.bool false,.slice none 0 0] 39)) wr.heap.size∧Hs w (wr.alloc (.cells #[.bool false,.slice none 0 0,.bool false,.slice none 0 0] 39)) w.heap.size cs n L M j):=⟨RSlot.new _ _ _ _ _,HS.out.below (Below.alloc_self _ _)⟩
   have gl:=HS.out.slot.lt
   clear HS
   refine (B_any (n:Int) _ (by omega) (by omega)).mono ?_
   rintro e w2 ⟨b2,rfl,m2⟩
   have g2:=m2.2.2.size
   simp at g2
   have H2:Hid (RSlot w2 wr.heap.size∧Hs w w2 w.heap.size cs n L M j∧BigAt w2 b2 (n:Int)):=⟨S0.out.1.below m2.2.2,S0.out.2.below m2.2.2,m2.2.1⟩
   clear m2 S0
   go_wp2_with fail
   refine (SetIntW wr.heap.size b2 (n:Int) 2 w2 H2.out.1 H2.out.2.2 (lt_pw2 (by omega) (by omega)) (by omega) (by omega)).mono ?_
   rintro e w3 ⟨rfl,r3,u3⟩
   have H3:Hid (Rv w3 wr.heap.size ((n:Int):Rat) 2∧Hs w w3 w.heap.size cs n L M j):=by
    refine ⟨r3,?_⟩
    obtain ⟨a1,a2⟩:=H2.out.2.1
    refine ⟨?_,a2.trans (u3.below a2.size g0)⟩
    rcases a1 with ⟨e,a⟩ | ⟨e,a⟩
    ·obtain ⟨s,t,q1,q2,q3⟩:=a
     obtain ⟨x0,x1,x2,x3,hz⟩:=H2.out.1
     refine .inl ⟨e,s,t,?_,q2.updR u3 hz,q3.updR u3 hz⟩
     exact (u3.block _ q1.lt (by omega)).trans q1
    ·exact .inr ⟨e,a.updR u3 H2.out.1 (by omega)⟩
   clear r3 u3 H2
   go_wp2_with fail
   obtain ⟨N,z1,z2,z3,z4⟩:=HZ.out j (by omega)
   refine (hs_mul H3.out.2 H3.out.1 (Nat.le_refl _) hM1 hM2 HD.out.1 z3 (Nat.lt_of_lt_of_le z4 (pw_le (HM.out j (by omega)))) HD.out.2).mono ?_
   rintro e w4 ⟨rfl,r4,k4⟩
   have H4:Hid (Rv w4 w.heap.size (hj cs (n:Rat) L j * (n:Rat)) M∧Below w.heap.size w w4):=⟨r4,k4⟩
   have HC:=HR.out.below k4
   have cc:=HC.cell i hiL
   have HB:Hid (Rv w4 (bq i) (cs i) M):=HC.rat i hiL
   clear r4 k4 z1 z2 z3 z4 H3 HC
   go_wp2_with fail
   obtain ⟨N',y1,y2,_,_⟩:=HZ.out (j + 1) (by omega)
   refine (RAddV w.heap.size w.heap.size (bq i) _ _ M w4 H4.out.1.rslot H4.out.1 HB.out (by omega)).mono ?_
   rintro e w5 ⟨rfl,r5,u5⟩
   have H5:Hid (Hs w w5 w.heap.size cs n L M (j + 1)):=by
    have e:hj cs (n:Rat) L j * (n:Rat) + cs i = hj cs (n:Rat) L (j + 1):=by
     rw [show i = L - 1 - j by omega]; rfl
    rw [e] at r5
    exact ⟨.inr ⟨by omega,r5.low HD.out.1 y1 (Nat.lt_of_lt_of_le y2 (pw_le (by have:=HM.out j (by omega); have:=HM.out (j + 1) (by omega); omega))) HD.out.2⟩,H4.out.2.trans (u5.below H4.out.2.size (Nat.le_refl _))⟩
   clear r5 u5 y1 y2 H4 HB cc
   go_wp2
   go_roundg (L - (j + 1))
   case rel=>exact ⟨j + 1,by go_num,rfl,by omega,H5.out⟩
   case measure=>have:=HK.out; omega
  ·obtain rfl:j = L:=by omega
   have ti:decide (0≤(j:Int) - 1 - (j:Int)) = false:=decide_eq_false (by omega)
   have HE:Hid (Rv wr w.heap.size (hj cs (n:Rat) j j) M∧Below w.heap.size w wr):=by
    rcases HS.out.1 with ⟨e,_⟩ | ⟨_,a⟩
    ·omega
    ·exact ⟨a,HS.out.2⟩
   clear HS
   go_wp2
   go_ret
   exact ⟨w.heap.size,rfl,Nat.le_refl _,HE.out.1,HE.out.2⟩
end
section
set_option maxRecDepth 100000
open Go.RowKit
end
section
set_option maxRecDepth 100000
open Go.RowKit
theorem pk_cast (k i:Nat):((BN.pk k i:Nat):Int) + ((i:Int) + 1) ^ k = ((BN.pk k (i + 1):Nat):Int):=by
 show _ = ((BN.pk k i + (i + 1) ^ k:Nat):Int)
 rw [Int.natCast_add,Int.natCast_pow]
 rfl
set_option maxHeartbeats 2000000 in
theorem Powered_any (k n:Nat) (w:World) (hk:k≤60) (hn:n≤300) :
  Calls Tryz.prog 23 #[.int .i64 (k:Int),.int .i64 (n:Int)] w fun e w'=>∃ b,e = .returned (.pointer (some ⟨b,0,none⟩))∧Made w w' b ((BN.pk k n:Nat):Int):=by
 go_enter Tryz.func23,Tryz.ntmps23
 go_wp2_with fail
 refine (B_any 0 w (by omega) (by omega)).mono ?_
 rintro e w1 ⟨b,rfl,m1⟩
 have HB:Hid (w.heap.size≤b∧BigAt w1 b ((BN.pk k 0:Nat):Int)∧Below w.heap.size w w1):=⟨m1.1,m1.2.1,m1.2.2⟩
 clear m1
 go_wp2
 go_loopg [6] n (fun gk iv wx=>∃ i:Nat,iv = .int .i64 ((i + 1:Nat):Int)∧Hid (gk = n - i∧i≤n∧BigAt wx b ((BN.pk k i:Nat):Int)∧Below w.heap.size w wx))
 case atStart=>exact ⟨0,rfl,rfl,by omega,HB.out.2.1,HB.out.2.2⟩
 case round =>
  obtain ⟨i,rfl,HR⟩:=hrel
  obtain ⟨h1,h2,h3,h4⟩:=HR.out
  have HK:Hid (gk = n - i):=h1
  have HX:Hid (w.heap.size≤b∧BigAt wr b ((BN.pk k i:Nat):Int)∧Below w.heap.size w wr):=⟨HB.out.1,h3,h4⟩
  clear HR h1 h3 h4
  by_cases hi:i < n
  ·have ti:decide (((i + 1:Nat):Int)≤(n:Int)) = true:=decide_eq_true (by omega)
   have g0:=HX.out.2.2.size
   go_wp2_with fail
   have S0:Hid (Slot (wr.alloc (.cells #[.bool false,.slice none 0 0] 37)) wr.heap.size∧BigAt (wr.alloc (.cells #[.bool false,.slice none 0 0] 37)) b ((BN.pk k i:Nat):Int)∧Below w.heap.size w (wr.alloc (.cells #[.bool false,.slice none 0 0] 37))):=⟨slot_new _ _ _,HX.out.2.1.below (Below.alloc_self _ _) (Nat.le_refl _),HX.out.2.2.alloc g0 _⟩
   refine (B_any (((i + 1:Nat):Int)) _ (by omega) (by omega)).mono ?_
   rintro e w2 ⟨b2,rfl,m2⟩
   have g2:=m2.2.2.size
   simp at g2
   have HX2:Hid (Slot w2 wr.heap.size∧BigAt w2 b ((BN.pk k i:Nat):Int)∧BigAt w2 b2 (((i + 1:Nat):Int))∧Below w.heap.size w w2):=⟨S0.out.1.below m2.2.2 (Nat.le_refl _),S0.out.2.1.below m2.2.2 (Nat.le_refl _),m2.2.1,S0.out.2.2.trans (m2.2.2.mono (by simp; omega))⟩
   clear m2 S0
   go_wp2_with fail
   refine (B_any (k:Int) w2 (by omega) (by omega)).mono ?_
   rintro e w3 ⟨b3,rfl,m3⟩
   have g3:=m3.2.2.size
   have HX3:Hid (Slot w3 wr.heap.size∧BigAt w3 b ((BN.pk k i:Nat):Int)∧BigAt w3 b2 (((i + 1:Nat):Int))∧BigAt w3 b3 (k:Int)∧Below w.heap.size w w3):=⟨HX2.out.1.below m3.2.2 (Nat.le_refl _),HX2.out.2.1.below m3.2.2 (Nat.le_refl _),HX2.out.2.2.1.below m3.2.2 (Nat.le_refl _),m3.2.1,HX2.out.2.2.2.trans (m3.2.2.mono (by omega))⟩
   clear m3 HX2
   have HN:Hid (b ≠ wr.heap.size):=by have:=HX.out.2.1.slot.lt; show _ ≠ _; omega
   go_wp2_with fail
   refine (Exp_nil wr.heap.size b2 b3 (((i + 1:Nat):Int)) k 1 1 w3 HX3.out.1 HX3.out.2.2.1 HX3.out.2.2.2.1 (by rw [show pw 1 = 4294967296 from by decide]; omega) (by rw [show pw 1 = 4294967296 from by decide]; omega) (by omega) (by omega) (by omega)).mono ?_
   rintro e w4 ⟨rfl,m4,u4⟩
   have g4:=u4.size
   have HX4:Hid (BigAt w4 b ((BN.pk k i:Nat):Int)∧BigAt w4 wr.heap.size ((((i + 1:Nat):Int)) ^ k)∧Below w.heap.size w w4):=⟨HX3.out.2.1.upd u4 HX3.out.1 HN.out,m4,HX3.out.2.2.2.2.trans (u4.below (by omega) g0)⟩
   clear m4 u4 HX3
   have LP:Hid (BN.pk k i < pw 18∧((((i + 1:Nat):Int)) ^ k).natAbs < pw 18):=by
    refine ⟨BN.pk_pw hk (by omega),?_⟩
    have h5:=BN.pk_pw (k:=k) (n:=i + 1) hk (by omega)
    have h6:BN.pk k (i + 1) = BN.pk k i + (i + 1) ^ k:=rfl
    rw [BN.int_pow_abs,Int.natAbs_natCast]
    omega
   go_wp2_with fail
   refine (Add_any b b wr.heap.size _ _ 18 18 w4 HX4.out.1.slot HX4.out.1 HX4.out.2.1 (by rw [Int.natAbs_natCast]; exact LP.out.1) LP.out.2 (by omega) (by omega)).mono ?_
   rintro e w5 ⟨rfl,m5,u5⟩
   have HX5:Hid (BigAt w5 b ((BN.pk k (i + 1):Nat):Int)∧Below w.heap.size w w5):=⟨by rw [← pk_cast]; exact m5,HX4.out.2.2.trans (u5.below HX4.out.2.2.size HX.out.1)⟩
   clear m5 u5 HX4 HX LP
   go_wp2
   go_roundg (n - (i + 1))
   case rel=>exact ⟨i + 1,by go_num,rfl,by omega,HX5.out.1,HX5.out.2⟩
   case measure=>have:=HK.out; omega
  ·have ti:decide (((i + 1:Nat):Int)≤(n:Int)) = false:=decide_eq_false (by omega)
   obtain rfl:i = n:=by omega
   go_wp2
   go_ret
   exact ⟨b,rfl,HX.out.1,HX.out.2.1,HX.out.2.2⟩
end
section
set_option maxRecDepth 100000
open Go.RowKit
theorem Tryz.undR:Tryz.prog.underlying 31 = some (.slice 28):=by kernel_rfl
theorem Tryz.infoRp:(Tryz.prog.info? 28).map (fun i=>(i.zero,i.size,i.bytes)) = some (some (.pointer none),1,8):=by kernel_rfl
def RowP (w:World) (row:Option Nat):Prop:=∀ g,row = some g→∃ arr fr,w.heap[g]? = some (.cells arr 28 fr)
theorem Sl.rowedP {w w':World} {s:Value} {l:List Nat} {row:Option Nat} (h:Sl w s l) (hg:w.grownBy w' row) (hr:RowP w row):Sl w' s l:=by
 refine ⟨h.small,?_⟩
 rcases h.shape with h1 | ⟨g,cap,C,h1,h2,h3,h4⟩
 ·exact Or.inl h1
 ·refine Or.inr ⟨g,cap,C,h1,h2,?_,h4⟩
  rw [hg.block g (lt_of_some h3) ?_]; exact h3
  intro e
  obtain ⟨arr,fr,h5⟩:=hr g e.symm
  rw [h3] at h5; simp at h5
theorem NS.rowedP {w w':World} {s:Value} {n:Nat} {row:Option Nat} (h:NS w s n) (hg:w.grownBy w' row) (hr:RowP w row):NS w' s n:=by
 obtain ⟨l,h1,h2⟩:=h; exact ⟨l,h1.rowedP hg hr,h2⟩
theorem Rt.rowedP {w w':World} {b:Nat} {P Q:Int} {row:Option Nat} (h:Rt w b P Q) (hg:w.grownBy w' row) (hr:RowP w row):Rt w' b P Q:=by
 obtain ⟨⟨s,t,h1,h2,h3⟩,h4,h5⟩:=h
 refine ⟨⟨s,t,?_,h2.rowedP hg hr,h3.rowedP hg hr⟩,h4,h5⟩
 exact (hg.block b h1.lt (fun e=>by
  obtain ⟨arr,fr,h6⟩:=hr b e.symm
  have h7:w.heap[b]? = some (.cells _ 39):=h1
  rw [h7] at h6; simp at h6)).trans h1
theorem Rv.rowedP {w w':World} {b:Nat} {v:Rat} {m:Nat} {row:Option Nat} (h:Rv w b v m) (hg:w.grownBy w' row) (hr:RowP w row):Rv w' b v m:=by
 obtain ⟨P,Q,h,r⟩:=h; exact ⟨P,Q,h.rowedP hg hr,r⟩
def PO (B:Nat) (w:World) (v:Value) (N:Nat) (cs:Nat→Rat) (M:Nat):Prop:=∃ us:List Value,w.ownsRow B 28 1 v N us∧∀ j,j < N→∃ b,us[j]? = some (.pointer (some ⟨b,0,none⟩))∧Rv w b (cs j) M
theorem rowP_of {B:Nat} {w:World} {v:Value} {N:Nat} {us:List Value} (h:w.ownsRow B 28 1 v N us):RowP w v.ownBlock:=by
 intro g e
 obtain ⟨_,⟨h2,_⟩ | ⟨g2,cap,cur,e1,e2,e3,_⟩⟩:=h
 ·rw [h2] at e; simp [Value.ownBlock] at e
 ·rw [e1] at e; simp [Value.ownBlock] at e; subst e; exact ⟨_,_,e3⟩
theorem row_bel3 {B e n size:Nat} {v:Value} {xs:List Value} {w w':World} (h:w.ownsRow B e size v n xs) (k:Below w.heap.size w w'):w'.ownsRow B e size v n xs:=by
 refine ⟨h.1,?_⟩
 rcases h.2 with h2 | ⟨g,cap,cur,h2,h3,h4,rest⟩
 ·exact .inl h2
 ·exact .inr ⟨g,cap,cur,h2,h3,(k.block g (lt_of_some h4)).trans h4,rest⟩
theorem PO.below {B N M:Nat} {w w':World} {v:Value} {cs:Nat→Rat} (h:PO B w v N cs M) (k:Below w.heap.size w w'):PO B w' v N cs M:=by
 obtain ⟨us,h1,h2⟩:=h
 refine ⟨us,row_bel3 h1 k,fun j hj=>?_⟩
 obtain ⟨b,c1,c2⟩:=h2 j hj
 exact ⟨b,c1,c2.below k⟩
theorem PO.push {B N M b:Nat} {w w':World} {v v':Value} {cs:Nat→Rat} {y:Rat} {us:List Value} (hu:w.ownsRow B 28 1 v N us) (hx:∀ j,j < N→∃ b,us[j]? = some (.pointer (some ⟨b,0,none⟩))∧Rv w b (cs j) M) (hn:Rv w b y M) (hown:w'.ownsRow B 28 1 v' (N + 1) (us ++ [.pointer (some ⟨b,0,none⟩)])) (hg:w.grownBy w' v.ownBlock) (e2:cs N = y):PO B w' v' (N + 1) cs M:=by
 have hr:=rowP_of hu
 refine ⟨_,hown,fun j hj=>?_⟩
 have hl:us.length = N:=by have:=hu.1; omega
 by_cases e:j = N
 ·subst e
  rw [e2]
  refine ⟨b,?_,hn.rowedP hg hr⟩
  rw [List.getElem?_append_right (by omega),hl]; simp
 ·obtain ⟨c,c1,c2⟩:=hx j (by omega)
  refine ⟨c,?_,c2.rowedP hg hr⟩
  rw [List.getElem?_append_left (by omega)]; exact c1
theorem PO.cellP {B N M:Nat} {w:World} {v:Value} {cs:Nat→Rat} (h:PO B w v N cs M) (h0:0 < N):∃ g cap,v = .slice (some ⟨g,0,none⟩) N cap∧N≤cap∧B≤g∧g < w.heap.size∧∃ bq:Nat→Nat,PR w g N bq cs M:=by
 obtain ⟨us,⟨hl,⟨h1,h2⟩ | ⟨g,cap,cur,e1,e2,e3,e4,e5,e6,e7⟩⟩,h3⟩:=h
 ·subst h2
  simp at hl
  omega
 ·refine ⟨g,cap,e1,e4,e2,lt_of_some e3,?_⟩
  have key:∀ i,i < N→∃ b,w.cell? ⟨g,i,none⟩ = some (.pointer (some ⟨b,0,none⟩))∧Rv w b (cs i) M:=by
   intro i hi
   obtain ⟨b,c1,c2⟩:=h3 i hi
   refine ⟨b,?_,c2⟩
   have h4:(cur.toList.take (N * 1))[i]? = us[i]?:=by rw [e7]
   rw [List.getElem?_take,if_pos (by omega)] at h4
   simp only [World.cell?,e3]
   rw [← Array.getElem?_toList,h4,c1]; rfl
  exact ⟨fun i=>if h:i < N then (key i h).choose else 0,fun i hi=>by simp only [hi,dite_true]; exact (key i hi).choose_spec.1,fun i hi=>by simp only [hi,dite_true]; exact (key i hi).choose_spec.2⟩
end
section
set_option maxRecDepth 100000
open Go.RowKit
theorem Upd.below2 {b B:Nat} {x w w':World} (h:Upd b w w') (k:Below B x w) (h2:B≤b) (hB:B≤w.heap.size:=by omega):Below B x w':=k.trans (h.below hB h2)
def sn (m j:Nat):Int:=BN.sm (fun i=>((BN.ch (m + 1) i:Nat):Int) * BN.bt i) j
def sv (m j:Nat):Rat:=((sn m j:Int):Rat) / (((BN.dN:Nat):Int):Rat)
def tv (m j:Nat):Rat:=(((BN.ch (m + 1) j:Nat):Int):Rat) * bnv j
def Bsm (W:World) (b m j:Nat):Prop:=(j = 0∧RatAt W b 0 0)∨(0 < j∧Rv W b (sv m j) 48)
end
end Go.Proofs.YtnkjadpmigpneaaGreatDoor
