import Derived.Test.YtnkjadpmigpneaaGreatDoorRaG
import Derived.Test.YtnkjadpmigpneaaGreatDoorJsS
set_option linter.unusedSimpArgs false
set_option linter.unusedVariables false
namespace Go.Proofs.YtnkjadpmigpneaaGreatDoor
section
set_option maxRecDepth 100000
open Go.RowKit
def RSlot (w:World) (b:Nat):Prop:=∃ x0 x1 x2 x3,Cl b [x0,x1,x2,x3] 39 w
theorem RSlot.lt {w:World} {b:Nat} (h:RSlot w b):b < w.heap.size:=by obtain ⟨_,_,_,_,h⟩:=h; exact h.lt
theorem RSlot.below {w w':World} {b:Nat} (h:RSlot w b) (k:Below w.heap.size w w'):RSlot w' b:=by
 obtain ⟨x0,x1,x2,x3,h⟩:=h; exact ⟨x0,x1,x2,x3,h.below k⟩
theorem RatAt.rslot {w:World} {b:Nat} {p q:Int} (h:RatAt w b p q):RSlot w b:=by
 obtain ⟨s,t,h1,_⟩:=h; exact ⟨_,_,_,_,h1⟩
theorem RSlot.new (w:World) (x0 x1 x2 x3:Value):RSlot (w.alloc (.cells #[x0,x1,x2,x3] 39)) w.heap.size:=⟨x0,x1,x2,x3,Cl.new [x0,x1,x2,x3] _ w⟩
set_option maxHeartbeats 2000000 in
theorem SetFrac_pos (bz ba oa bb ob:Nat) (x y:Int) (m:Nat) (w:World) (hz:RSlot w bz) (hx:IntAt w ba oa x) (hy:IntAt w bb ob y) (hy0:0 < y) (hx1:x.natAbs < pw m) (hy1:y.natAbs < pw m) (hm':m≤100000000) :
  Calls Tryz.prog 40 #[.pointer (some ⟨bz,0,none⟩),.pointer (some ⟨ba,oa,none⟩),.pointer (some ⟨bb,ob,none⟩)] w fun e w'=>e = .returned (.pointer (some ⟨bz,0,none⟩))∧∃ P Q:Int,RatAt w' bz P Q∧0 < Q∧P * y = x * Q∧Nat.gcd P.natAbs Q.natAbs = 1∧P.natAbs≤x.natAbs∧Q.natAbs≤y.natAbs∧Upd bz w w':=by
 obtain ⟨ya,yl,yc,cy0,cy1,ny,hyl⟩:=hy.open
 have hylp:0 < yl:=hyl.2 (Int.natAbs_pos.2 (by omega))
 have hyb:((yl:Int) == 0) = false:=beq_eq_false_iff_ne.2 (by intro e; have e':yl = 0:=by exact_mod_cast e
                                                             exact absurd e' (Nat.ne_of_gt hylp))
 have HZ:Hid (RSlot w bz):=hz
 have HX:Hid (IntAt w ba oa x):=hx
 have HY:Hid (IntAt w bb ob y):=hy
 have HX1:Hid (x.natAbs < pw m):=hx1
 have HY1:Hid (y.natAbs < pw m):=hy1
 have HLT:Hid (bz < w.heap.size):=hz.lt
 clear hz hx hy hx1 hy1 ny hyl
 have ka:Below w.heap.size w (w.alloc (.cells #[.bool false,.slice none 0 0] 37)):=(Below.refl _ _).alloc (Nat.le_refl _) _
 have HSa:Hid (Calls Tryz.prog 59 #[.pointer (some ⟨w.heap.size,0,none⟩),.pointer (some ⟨ba,oa,none⟩)] (w.alloc (.cells #[.bool false,.slice none 0 0] 37)) fun e w'=>e = .returned (.pointer (some ⟨w.heap.size,0,none⟩))∧BigAt w' w.heap.size x∧Upd w.heap.size (w.alloc (.cells #[.bool false,.slice none 0 0] 37)) w'):=Set_at oa w.heap.size ba x m _ (slot_new w _ _) (HX.out.below ka (Nat.le_refl _)) HX1.out hm'
 go_enter Tryz.func40,Tryz.ntmps40
 go_wp2_with fail
 refine HSa.out.mono ?_
 rintro e w1 ⟨rfl,h1,u1⟩
 have K1:Below w.heap.size w w1:=ka.trans (u1.below (by simp) (Nat.le_refl _))
 have HK1:Hid (Below w.heap.size w w1):=K1
 have HB1:Hid (BigAt w1 w.heap.size x):=h1
 have kb:Below w1.heap.size w1 (w1.alloc (.cells #[.bool false,.slice none 0 0] 37)):=(Below.refl _ _).alloc (Nat.le_refl _) _
 have HSb:Hid (Calls Tryz.prog 59 #[.pointer (some ⟨w1.heap.size,0,none⟩),.pointer (some ⟨bb,ob,none⟩)] (w1.alloc (.cells #[.bool false,.slice none 0 0] 37)) fun e w'=>e = .returned (.pointer (some ⟨w1.heap.size,0,none⟩))∧BigAt w' w1.heap.size y∧Upd w1.heap.size (w1.alloc (.cells #[.bool false,.slice none 0 0] 37)) w'):=Set_at ob w1.heap.size bb y m _ (slot_new w1 _ _) ((HY.out.below K1 (Nat.le_refl _)).below kb (Nat.le_refl _)) HY1.out hm'
 clear h1 u1 K1 ka HSa
 go_wp2_with fail
 refine HSb.out.mono ?_
 rintro e w2 ⟨rfl,h2,u2⟩
 have K2:Below w1.heap.size w1 w2:=kb.trans (u2.below (by simp) (Nat.le_refl _))
 have HK2:Hid (Below w.heap.size w w2):=HK1.out.trans (K2.mono HK1.out.size)
 have B1:BigAt w2 w.heap.size x:=HB1.out.below K2 (Nat.le_refl _)
 obtain ⟨sx,hsx,nsx⟩:=B1
 obtain ⟨sy,hsy,nsy⟩:=h2
 obtain ⟨xa,xl,xc,hxs,_⟩:=nsx.shape
 obtain ⟨va,vl,vc,hys,_⟩:=nsy.shape
 subst hxs hys
 have hne1:w.heap.size ≠ bz:=by have:=HLT.out; omega
 have hne2:w1.heap.size ≠ bz:=by have:=HLT.out; have:=HK1.out.size; omega
 have CX:Cl w.heap.size [.bool (decide (x < 0)),.slice xa xl xc] 37 w2:=hsx
 have CY:Cl w1.heap.size [.bool (decide (y < 0)),.slice va vl vc] 37 w2:=hsy
 obtain ⟨z0,z1,z2,z3,CZ⟩:=HZ.out.below HK2.out
 have HCZ:Hid (Cl bz [z0,z1,z2,z3] 39 w2):=CZ
 have HCX:Hid (Cl w.heap.size [.bool (decide (x < 0)),.slice xa xl xc] 37 w2):=CX
 have HCY:Hid (Cl w1.heap.size [.bool (decide (y < 0)),.slice va vl vc] 37 w2):=CY
 have HNX:Hid (NS w2 (.slice xa xl xc) x.natAbs):=nsx
 have HNY:Hid (NS w2 (.slice va vl vc) y.natAbs):=nsy
 have a0:=CX.cell 0
 have a1:=CX.cell 1
 have b0:∀ u v:Value,((w2.setCell ⟨bz,0,none⟩ u).setCell ⟨bz,1,none⟩ v).cell? ⟨w1.heap.size,0,none⟩ = some (.bool (decide (y < 0))):=fun u v=>((CY.other hne2 u).other hne2 v).cell 0
 have b1:∀ u v:Value,((w2.setCell ⟨bz,0,none⟩ u).setCell ⟨bz,1,none⟩ v).cell? ⟨w1.heap.size,1,none⟩ = some (.slice va vl vc):=fun u v=>((CY.other hne2 u).other hne2 v).cell 1
 have c0:=CZ.cell 0
 have c1:=CZ.cell 1
 have f0:=CZ.frozen 0
 have f1:=CZ.frozen 1
 have d2:∀ u v:Value,((w2.setCell ⟨bz,0,none⟩ u).setCell ⟨bz,1,none⟩ v).cell? ⟨bz,2,none⟩ = some z2:=fun u v=>((CZ.set 0 u).set 1 v).cell 2
 have d3:∀ u v:Value,((w2.setCell ⟨bz,0,none⟩ u).setCell ⟨bz,1,none⟩ v).cell? ⟨bz,3,none⟩ = some z3:=fun u v=>((CZ.set 0 u).set 1 v).cell 3
 have g2:∀ u v:Value,((w2.setCell ⟨bz,0,none⟩ u).setCell ⟨bz,1,none⟩ v).frozen? ⟨bz,2,none⟩ = false:=fun u v=>((CZ.set 0 u).set 1 v).frozen 2
 have g3:∀ u v:Value,((w2.setCell ⟨bz,0,none⟩ u).setCell ⟨bz,1,none⟩ v).frozen? ⟨bz,3,none⟩ = false:=fun u v=>((CZ.set 0 u).set 1 v).frozen 3
 simp only [List.getElem?_cons_succ,List.getElem?_cons_zero] at a0 a1 c0 c1
 clear hsx hsy nsx nsy CX CY CZ u2 kb K2 HSb hne1 hne2
 go_wp2_with fail
 obtain ⟨W3,hW3⟩:∃ W3,W3 = ((((w2.setCell ⟨bz,0,none⟩ (.bool (decide (x < 0)))).setCell ⟨bz,1,none⟩ (.slice xa xl xc)).setCell ⟨bz,2,none⟩ (.bool (decide (y < 0)))).setCell ⟨bz,3,none⟩ (.slice va vl vc)):=⟨_,rfl⟩
 have C3:Cl bz [.bool (decide (x < 0)),.slice xa xl xc,.bool (decide (y < 0)),.slice va vl vc] 39 W3:=by
  rw [hW3]; exact (((HCZ.out.set 0 _).set 1 _).set 2 _).set 3 _
 have u3:Upd bz w2 W3:=by rw [hW3]; exact Upd.setCell (o:=3) (Upd.setCell (o:=2) (Upd.setCell (o:=1) (Upd.setCell (o:=0) (Upd.refl bz w2) _) _) _) _
 have R3:RatAt W3 bz x y:=⟨_,_,C3,HNX.out.updR u3 HCZ.out,HNY.out.updR u3 HCZ.out⟩
 have HU3:Hid (Upd bz w W3):=(Upd.of_below HK2.out).trans u3
 rw [← hW3]
 refine (norm_pos bz x y m W3 R3 hy0 HX1.out HY1.out hm').mono ?_
 rintro e w4 ⟨rfl,P,Q,h1,h2,h3,h4,h5,h6,u4⟩
 have HF:Hid (∃ P Q:Int,RatAt w4 bz P Q∧0 < Q∧P * y = x * Q∧Nat.gcd P.natAbs Q.natAbs = 1∧P.natAbs≤x.natAbs∧Q.natAbs≤y.natAbs∧Upd bz w w4):=⟨P,Q,h1,h2,h3,h4,h5,h6,HU3.out.trans u4⟩
 clear h1 h2 h3 h4 h5 h6 u4 u3 R3 C3 hW3
 go_wp2
 go_ret
 exact ⟨rfl,HF.out⟩
end
section
set_option maxRecDepth 100000
open Go.RowKit
theorem den_pos (b:Nat) (p q:Int) (w:World) (hz:RatAt w b p q) (hq:0 < q) :
  Calls Tryz.prog 46 #[.pointer (some ⟨b,0,none⟩)] w fun e w'=>e = .returned (.pointer (some ⟨b,2,none⟩))∧w' = w:=by
 obtain ⟨ya,yl,yc,cy0,cy1,ny,hyl⟩:=hz.den.open
 have hylp:0 < yl:=hyl.2 (Int.natAbs_pos.2 (by omega))
 have hyb:((yl:Int) == 0) = false:=beq_eq_false_iff_ne.2 (by intro e; have e':yl = 0:=by exact_mod_cast e
                                                             exact absurd e' (Nat.ne_of_gt hylp))
 simp only [Nat.reduceAdd] at cy1
 clear hz ny hyl cy0
 go_enter Tryz.func46,Tryz.ntmps46
 go_wp2
 go_ret
 exact ⟨rfl,rfl⟩
structure Rt (w:World) (b:Nat) (P Q:Int):Prop where
 at':RatAt w b P Q
 pos:0 < Q
 low:Nat.gcd P.natAbs Q.natAbs = 1
theorem Rt.below {w w':World} {b:Nat} {P Q:Int} (h:Rt w b P Q) (k:Below w.heap.size w w'):Rt w' b P Q:=⟨h.at'.below k,h.pos,h.low⟩
theorem low_uniq {P Q p q:Int} (hQ:0 < Q) (hq:0 < q) (h:P * q = p * Q) (h1:Nat.gcd P.natAbs Q.natAbs = 1) (h2:Nat.gcd p.natAbs q.natAbs = 1):P = p∧Q = q:=by
 have hd1:Q.natAbs ∣ q.natAbs:=by
  refine Nat.Coprime.dvd_of_dvd_mul_left (show Nat.Coprime Q.natAbs P.natAbs by rw [Nat.Coprime,Nat.gcd_comm]; exact h1) ?_
  refine ⟨p.natAbs,?_⟩
  rw [← Int.natAbs_mul,h,Int.natAbs_mul,Nat.mul_comm]
 have hd2:q.natAbs ∣ Q.natAbs:=by
  refine Nat.Coprime.dvd_of_dvd_mul_left (show Nat.Coprime q.natAbs p.natAbs by rw [Nat.Coprime,Nat.gcd_comm]; exact h2) ?_
  refine ⟨P.natAbs,?_⟩
  rw [← Int.natAbs_mul,← h,Int.natAbs_mul,Nat.mul_comm]
 have e:Q.natAbs = q.natAbs:=Nat.dvd_antisymm hd1 hd2
 have e2:Q = q:=by omega
 subst e2
 exact ⟨Int.eq_of_mul_eq_mul_right (by omega) h,rfl⟩
set_option maxHeartbeats 1000000 in
theorem SetInt_any (bz ba oa:Nat) (x:Int) (m:Nat) (w:World) (hz:RSlot w bz) (hx:IntAt w ba oa x) (hx1:x.natAbs < pw m) (hm1:1≤m) (hm':m≤100000000) :
  Calls Tryz.prog 22 #[.pointer (some ⟨bz,0,none⟩),.pointer (some ⟨ba,oa,none⟩)] w fun e w'=>e = .returned (.pointer (some ⟨bz,0,none⟩))∧Rt w' bz x 1∧Upd bz w w':=by
 have HZ:Hid (RSlot w bz):=hz
 have HX:Hid (IntAt w ba oa x):=hx
 have HX1:Hid (x.natAbs < pw m):=hx1
 have H1:Hid ((1:Int).natAbs < pw m):=by
  have h1:pw 1≤pw m:=pw_le hm1
  have h2:pw 1 = 4294967296:=by decide
  show 1 < pw m
  omega
 clear hz hx hx1
 go_enter Tryz.func22,Tryz.ntmps22
 go_wp2_with fail
 refine (NewInt_any 1 w (by omega) (by omega)).mono ?_
 rintro e w1 ⟨b1,rfl,p1,i1,k1⟩
 have HK1:Hid (Below w.heap.size w w1):=k1
 have HC:Hid (Calls Tryz.prog 40 #[.pointer (some ⟨bz,0,none⟩),.pointer (some ⟨ba,oa,none⟩),.pointer (some ⟨b1,0,none⟩)] w1 fun e w'=>e = .returned (.pointer (some ⟨bz,0,none⟩))∧∃ P Q:Int,RatAt w' bz P Q∧0 < Q∧P * 1 = x * Q∧Nat.gcd P.natAbs Q.natAbs = 1∧P.natAbs≤x.natAbs∧Q.natAbs≤(1:Int).natAbs∧Upd bz w1 w'):=SetFrac_pos bz ba oa b1 0 x 1 m w1 (HZ.out.below k1) (HX.out.below k1 (Nat.le_refl _)) i1.at (by omega) HX1.out H1.out hm'
 clear i1 k1 p1
 go_wp2_with fail
 refine HC.out.mono ?_
 rintro e w2 ⟨rfl,P,Q,h1,h2,h3,h4,_,_,u2⟩
 have HE:Hid (Rt w2 bz x 1∧Upd bz w w2):=by
  obtain ⟨rfl,rfl⟩:=low_uniq (p:=x) (q:=1) h2 (by omega) h3 h4 (by simp)
  exact ⟨⟨h1,by omega,h4⟩,(Upd.of_below HK1.out).trans u2⟩
 clear h1 h2 h3 h4 u2
 go_wp2
 go_ret
 exact ⟨rfl,HE.out.1,HE.out.2⟩
end
section
set_option maxRecDepth 100000
open Go.RowKit LgM
set_option maxRecDepth 100000 in
set_option maxHeartbeats 4000000 in
theorem Text_at (ox bx:Nat) (x:Int) (m:Nat) (w:World) (hx:IntAt w bx ox x) (hm:x.natAbs < pw m) (hm1:1≤m) (hm':m≤10000000) :
  Calls Tryz.prog 53 #[.pointer (some ⟨bx,ox,none⟩),.int .i64 10] w fun e w'=>e = .returned (.string ⟨(decZ x).toArray⟩)∧Below w.heap.size w w':=by
 obtain ⟨xa,xl,xc,cx0,cx1,nx,hxl⟩:=hx.open
 have hbx:=hx.lt
 have HX:Hid (IntAt w bx ox x):=hx
 have HNX:Hid (NS w (.slice xa xl xc) x.natAbs):=nx
 have HM:Hid (x.natAbs < pw m):=hm
 have hN:(Lib.decDigits x.natAbs).length≤100000000:=Nat.le_trans (dec_pw hm hm1) (by omega)
 obtain ⟨n,hn⟩:∃ n,n = x.natAbs:=⟨_,rfl⟩
 have Hn:Hid (n = x.natAbs):=hn
 by_cases h0:n = 0
 ·have hz:x = 0:=by omega
  have hl0:xl = 0:=by
   rcases Nat.eq_zero_or_pos xl with h | h
   ·exact h
   ·have:=hxl.1 h; omega
  have HD:Hid ((⟨(decZ x).toArray⟩:ByteArray) = ⟨#[48]⟩):=by show _ = _; rw [hz,show decZ 0 = Lib.decDigits 0 from decZ_nat 0,dec_lt (by omega)]; rfl
  subst hl0
  clear hx nx hm hN hn hz
  go_enter Tryz.func53,Tryz.ntmps53
  go_wp2
  go_ret
  exact ⟨by rw [HD.out]; rfl,Below.refl _ _⟩
 ·have hl1:0 < xl:=hxl.2 (by omega)
  have tl0:((xl:Int) == 0) = false:=beq_eq_false_iff_ne.2 (by omega)
  have Hlen:Hid ((Lib.decDigits n).length≤100000000):=by show _≤_; rw [hn]; exact hN
  have Hn0:Hid (0 < n):=Nat.pos_of_ne_zero h0
  rw [← hn] at HNX HM
  obtain ⟨k0,hk,hx0,hx1,hx2⟩:=info_parts Tryz.infoU8
  have HP:Hid (Tryz.prog.info? 5 = some k0∧k0.zero = some (.int .u8 0)∧k0.size = 1∧k0.bytes = 1):=⟨hk,hx0,hx1,hx2⟩
  clear hx nx hm hN hn hxl h0 hk hx0 hx1 hx2
  go_enter Tryz.func53,Tryz.ntmps53
  go_wp2_with fail
  refine (twin_any _ n m w HNX.out HM.out (by omega)).mono ?_
  rintro e w1 ⟨s1,rfl,n1,k1⟩
  have H1:Hid (NS w1 s1 n∧Below w.heap.size w w1):=⟨n1,k1⟩
  clear n1 k1 cx1
  go_wp2
  go_loopg [5,6] n (fun gk bv av wx=>∃ (v s:Value) (a:Nat) (cs:List UInt8),bv = v∧av = s∧Hid (gk = a∧a≤n∧NS wx s a∧Dg w wx v cs∧Lf n a cs))
  case atStart=>exact ⟨_,_,n,[],rfl,rfl,rfl,Nat.le_refl _,H1.out.1,⟨⟨rfl,.inl ⟨rfl,rfl⟩⟩,H1.out.2⟩,.inl ⟨Hn0.out,by simp⟩⟩
  case round =>
   clear H1
   obtain ⟨v,s,a,cs,hv,hs,HR⟩:=hrel
   have hv2:=hv.symm
   have hs2:=hs.symm
   clear hv hs
   subst hv2 hs2
   obtain ⟨hgk,h2,h3,h4,h5⟩:=HR.out
   obtain ⟨sa,sl,sc,rfl,hsl⟩:=h3.shape
   have HD:Hid (Dg w wr v cs):=h4
   have HL:Hid (Lf n a cs):=h5
   have HK:Hid (gk = a):=hgk
   have HS:Hid (NS wr (.slice sa sl sc) a):=h3
   clear HR hgk h3 h4 h5
   by_cases ha:0 < a
   ·have tl:decide (0 < (sl:Int)) = true:=decide_eq_true (by have:=hsl.2 ha; omega)
    have HLs:Hid (Lf n (a / 10) (cs ++ [UInt8.ofNat (48 + a % 10)])):=HL.out.step ha
    have HLl:Hid (cs.length≤100000000):=Nat.le_trans HL.out.len Hlen.out
    obtain ⟨d,hd⟩:∃ d,d = a % 10:=⟨_,rfl⟩
    have hd9:d≤9:=by omega
    have HDd:Hid (((UInt8.ofNat (48 + d)).toNat:Int) = ((48 + d:Nat):Int)):=by
     show _ = _
     rw [UInt8.toNat_ofNat',Nat.mod_eq_of_lt (by omega)]
    rw [← hd] at HLs
    have HA:Hid (a < pw m):=Nat.lt_of_le_of_lt h2 HM.out
    go_wp2_with fail
    refine (small_any _ a 10 m wr HS.out HA.out (by omega) (by omega) (by omega)).mono ?_
    rw [← hd]
    rintro e w2 ⟨r,rfl,nr,k2⟩
    obtain ⟨ra,rl,rc,rfl,_⟩:=nr.shape
    have H2:Hid (NS w2 (.slice ra rl rc) (a / 10)∧Dg w w2 v cs):=⟨nr,HD.out.below k2⟩
    clear nr k2 HD HS hd
    have td:decide ((d:Int) < 10) = true:=decide_eq_true (by omega)
    have w1':IntKind.u32.wrap (48 + (d:Int)) = ((48 + d:Nat):Int):=by rw [IntKind.wrap_u32]; omega
    have w2':IntKind.u8.wrap ((48 + d:Nat):Int) = ((48 + d:Nat):Int):=by rw [IntKind.wrap_u8]; omega
    generalize hD48:48 + d = D48 at *
    go_wp2_with (at_builtin; refine wpList_append_own _ rfl _ _ 105 rfl w.heap.size 5 k0 (.int .u8 0) 1 1 Tryz.underlying105 HP.out.1 HP.out.2.1 HP.out.2.2.1 HP.out.2.2.2 rfl (by decide) v cs.length (u8s cs) rfl (H2.out.2.row.alloc _) ⟨w2.heap.size,0,none⟩ 1 1 [.int .u8 (D48:Int)] rfl rfl (own_news (Cl.new [.int .u8 (D48:Int)] 5 w2)) (by simp [Value.oneCell']) (by have:=HLl.out; simp only [maxLen]; omega) (by have:=HLl.out; omega) (by have:=H2.out.2.k.size; simp; omega) ?_; intro v' w6 hown' hgrow _; have HO6:Hid (Dg w w6 v' (cs ++ [UInt8.ofNat D48])∧NS w6 (.slice ra rl rc) (a / 10)):=⟨⟨by rw [List.length_append,u8s,List.map_append]; simp only [List.map_cons,List.map_nil,HDd.out]; exact hown',(Below.alloc H2.out.2.k H2.out.2.k.size _).grown hgrow (by have:=H2.out.2.k.size; simp; omega) (fun j hj=>(H2.out.2.row.lt j hj).1)⟩,(H2.out.1.below (Below.alloc (Below.refl w2.heap.size w2) (Nat.le_refl _) _) (Nat.le_refl _)).grownU (H2.out.2.row.alloc _) hgrow⟩; clear hown' hgrow)
    go_roundg (a / 10)
    case rel=>exact ⟨_,_,a / 10,_,rfl,rfl,rfl,by omega,HO6.out.2,HO6.out.1,HLs.out⟩
    case measure=>have:=HK.out; omega
   ·have tl:decide (0 < (sl:Int)) = false:=decide_eq_false (by have:=hsl.1; omega)
    have HT:Hid (Lib.decDigits n = cs.reverse∧1≤cs.length∧cs.length≤100000000):=by
     have hl:=HL.out.len
     have h1:=dec_pos n
     rcases HL.out with ⟨h,_⟩ | ⟨_,h⟩
     ·omega
     ·have e:cs.length = (Lib.decDigits n).length:=by rw [h]; simp
      exact ⟨h,by omega,by have:=Hlen.out; omega⟩
    have HB0:Hid (IntAt wr bx ox x):=HX.out.below HD.out.k (Nat.le_refl _)
    obtain ⟨_,_,_,cxn,_,_,_⟩:=HB0.out.open
    clear HL HS HK h2
    by_cases hneg:x < 0
    ·rw [decide_eq_true hneg] at cxn
     have HTT:Hid (decZ x = (cs ++ [45]).reverse):=by
      show _ = _
      rw [decZ_neg hneg,← Hn.out,HT.out.1]; simp
     clear hneg
     go_wp2_with (at_builtin; refine wpList_append_own _ rfl _ _ 105 rfl w.heap.size 5 k0 (.int .u8 0) 1 1 Tryz.underlying105 HP.out.1 HP.out.2.1 HP.out.2.2.1 HP.out.2.2.2 rfl (by decide) v cs.length (u8s cs) rfl (HD.out.row.alloc _) ⟨wr.heap.size,0,none⟩ 1 1 [.int .u8 45] rfl rfl (own_news (Cl.new [.int .u8 45] 5 wr)) (by simp [Value.oneCell']) (by have:=HT.out.2.2; simp only [maxLen]; omega) (by have:=HT.out.2.2; omega) (by have:=HD.out.k.size; simp; omega) ?_; intro v' w6 hown' hgrow _; have HO6:Hid (w6.ownsRow w.heap.size 5 1 v' (cs.length + 1) (u8s (cs ++ [45]))∧Below w.heap.size w w6):=⟨by rw [u8s,List.map_append]; exact hown',(Below.alloc HD.out.k HD.out.k.size _).grown hgrow (by have:=HD.out.k.size; simp; omega) (fun j hj=>(HD.out.row.lt j hj).1)⟩; obtain ⟨g,cap,hv6,hg1,hg2,hg3⟩:=own_shape HO6.out.1 (by omega); obtain ⟨LT,hLL⟩:∃ L,L = cs.length + 1:=⟨_,rfl⟩; rw [← hLL] at hv6; subst hv6; obtain ⟨T,hTe⟩:∃ T,T = cs ++ [45]:=⟨_,rfl⟩; rw [← hTe] at HTT; have HTl:Hid (T.length = LT∧1≤LT∧LT≤100000001):=⟨by rw [hTe,hLL,List.length_append]; rfl,by omega,by have:=HT.out.2; omega⟩; have HG:Hid (w.heap.size≤g):=hg1; have HR0:Hid (Rvd T g 0 w6∧Below w.heap.size w w6):=(by refine ⟨?_,HO6.out.2⟩; rw [hTe]; exact rvd_zero (w:=w6) (fun j hj=>hg3 j (by simpa using hj))); clear hown' hgrow hg1 hg2 hg3 HO6 hTe hLL)
     have hLT:T.length = LT:=HTl.out.1
     obtain ⟨J0,hJ0⟩:∃ J:Nat,(LT:Int) - 1 = (J:Int):=⟨LT - 1,by have:=HTl.out.2.1; omega⟩
     have hwJ:IntKind.i64.wrap (J0:Int) = (J0:Int):=by rw [IntKind.wrap_i64]; have:=HTl.out.2.2; omega
     have HJ:Hid (0 + J0 + 1 = LT):=by show _ = _; omega
     clear hLT
     go_wp2
     go_loopg [8,9] LT (fun gk iv jv wx=>∃ i J:Nat,iv = .int .i64 (i:Int)∧jv = .int .i64 (J:Int)∧Hid (gk = LT - i∧i + J + 1 = LT∧Rvd T g i wx∧Below w.heap.size w wx))
     case atStart=>exact ⟨0,J0,rfl,by first | rfl | (have e:wrap64 ((LT:Int) - 1) = (J0:Int):=(by rw [hJ0]; exact w64_id (by have:=HTl.out.2.2; omega)); exact congrArg (Value.int .i64) e),by omega,HJ.out,HR0.out⟩
     case round =>
      clear HR0 HJ hJ0 hwJ
      obtain ⟨i,J,rfl,rfl,HR⟩:=hrel
      obtain ⟨h1,h2,h3,h4⟩:=HR.out
      have HK2:Hid (gk = LT - i):=h1
      have HR2:Hid (i + J + 1 = LT∧Rvd T g i wr∧Below w.heap.size w wr):=⟨h2,h3,h4⟩
      by_cases hij:i < J
      ·have tij:decide ((i:Int) < (J:Int)) = true:=decide_eq_true (by omega)
       have hLT:=HTl.out.1
       obtain ⟨c1,f1⟩:=h3 i (by omega)
       obtain ⟨c2,f2⟩:=h3 J (by omega)
       obtain ⟨p,hp⟩:∃ p,p = rv T i i:=⟨_,rfl⟩
       obtain ⟨q,hq⟩:∃ q,q = rv T i J:=⟨_,rfl⟩
       have HW:Hid (Rvd T g (i + 1) ((wr.setCell ⟨g,i,none⟩ (.int .u8 (q:Int))).setCell ⟨g,J,none⟩ (.int .u8 (p:Int)))∧Below w.heap.size w ((wr.setCell ⟨g,i,none⟩ (.int .u8 (q:Int))).setCell ⟨g,J,none⟩ (.int .u8 (p:Int)))):=by
        rw [hp,hq]
        exact ⟨rvd_step h3 (by omega) hij,(h4.setCell HG.out _).setCell HG.out _⟩
       rw [← hp] at c1
       rw [← hq] at c2
       obtain ⟨J',rfl⟩:∃ J',J = J' + 1:=⟨J - 1,by omega⟩
       have x1:(i:Int) < (LT:Int):=by omega
       have x3:LT≤100000001:=HTl.out.2.2
       have x2:((J' + 1:Nat):Int) < (LT:Int):=by omega
       clear HR h1 h2 h3 h4 hp hq hLT
       go_wp2
       go_roundg (LT - (i + 1))
       case rel=>exact ⟨i + 1,J',by go_num,by go_num,rfl,by have:=HR2.out.1; omega,HW.out⟩
       case measure=>have:=HK2.out; have:=HR2.out.1; omega
      ·have tij:decide ((i:Int) < (J:Int)) = false:=decide_eq_false (by omega)
       have hi1:T.length - 1 - i≤i:=by rw [HTl.out.1]; omega
       have hi2:i < T.length:=by rw [HTl.out.1]; omega
       have kc:=rvd_rev (P:=Tryz.prog) (cap:=cap) 105 9 5 Tryz.underlying105 Tryz.underlying5 Tryz.underlying9 h3 hi1 hi2
       rw [HTl.out.1] at kc
       clear hi1 hi2
       have HKb:Hid (Below w.heap.size w wr):=h4
       clear HR h1 h2 h3 h4 HR2
       go_wp2
       go_ret
       exact ⟨by rw [HTT.out]; rfl,HKb.out⟩
    ·rw [decide_eq_false hneg] at cxn
     have HTT:Hid (decZ x = cs.reverse):=by
      show _ = _
      rw [decZ_pos hneg,← Hn.out,HT.out.1]
     obtain ⟨g,cap,hv6,hg1,hg2,hg3⟩:=own_shape HD.out.row HT.out.2.1
     obtain ⟨T,hTe⟩:∃ T,T = cs:=⟨_,rfl⟩
     obtain ⟨LT,hLL⟩:∃ L,L = cs.length:=⟨_,rfl⟩
     have HTl:Hid (T.length = LT∧1≤LT∧LT≤100000001):=by
      have:=HT.out.2
      refine ⟨?_,?_,?_⟩ <;> (try rw [hTe]) <;> omega
     have HG:Hid (w.heap.size≤g):=hg1
     have HR0:Hid (Rvd T g 0 wr∧Below w.heap.size w wr):=by
      refine ⟨?_,HD.out.k⟩
      rw [hTe]
      exact rvd_zero (w:=wr) hg3
     rw [← hTe] at HTT
     rw [← hLL] at hv6
     have hv7:=hv6.symm
     clear hg1 hg2 hg3 HD hTe hLL hneg hv6
     subst hv7
     have hLT:T.length = LT:=HTl.out.1
     obtain ⟨J0,hJ0⟩:∃ J:Nat,(LT:Int) - 1 = (J:Int):=⟨LT - 1,by have:=HTl.out.2.1; omega⟩
     have hwJ:IntKind.i64.wrap (J0:Int) = (J0:Int):=by rw [IntKind.wrap_i64]; have:=HTl.out.2.2; omega
     have HJ:Hid (0 + J0 + 1 = LT):=by show _ = _; omega
     clear hLT
     go_wp2
     go_loopg [8,9] LT (fun gk iv jv wx=>∃ i J:Nat,iv = .int .i64 (i:Int)∧jv = .int .i64 (J:Int)∧Hid (gk = LT - i∧i + J + 1 = LT∧Rvd T g i wx∧Below w.heap.size w wx))
     case atStart=>exact ⟨0,J0,rfl,by first | rfl | (have e:wrap64 ((LT:Int) - 1) = (J0:Int):=(by rw [hJ0]; exact w64_id (by have:=HTl.out.2.2; omega)); exact congrArg (Value.int .i64) e),by omega,HJ.out,HR0.out⟩
     case round =>
      clear HR0 HJ hJ0 hwJ
      obtain ⟨i,J,rfl,rfl,HR⟩:=hrel
      obtain ⟨h1,h2,h3,h4⟩:=HR.out
      have HK2:Hid (gk = LT - i):=h1
      have HR2:Hid (i + J + 1 = LT∧Rvd T g i wr∧Below w.heap.size w wr):=⟨h2,h3,h4⟩
      by_cases hij:i < J
      ·have tij:decide ((i:Int) < (J:Int)) = true:=decide_eq_true (by omega)
       have hLT:=HTl.out.1
       obtain ⟨c1,f1⟩:=h3 i (by omega)
       obtain ⟨c2,f2⟩:=h3 J (by omega)
       obtain ⟨p,hp⟩:∃ p,p = rv T i i:=⟨_,rfl⟩
       obtain ⟨q,hq⟩:∃ q,q = rv T i J:=⟨_,rfl⟩
       have HW:Hid (Rvd T g (i + 1) ((wr.setCell ⟨g,i,none⟩ (.int .u8 (q:Int))).setCell ⟨g,J,none⟩ (.int .u8 (p:Int)))∧Below w.heap.size w ((wr.setCell ⟨g,i,none⟩ (.int .u8 (q:Int))).setCell ⟨g,J,none⟩ (.int .u8 (p:Int)))):=by
        rw [hp,hq]
        exact ⟨rvd_step h3 (by omega) hij,(h4.setCell HG.out _).setCell HG.out _⟩
       rw [← hp] at c1
       rw [← hq] at c2
       obtain ⟨J',rfl⟩:∃ J',J = J' + 1:=⟨J - 1,by omega⟩
       have x1:(i:Int) < (LT:Int):=by omega
       have x3:LT≤100000001:=HTl.out.2.2
       have x2:((J' + 1:Nat):Int) < (LT:Int):=by omega
       clear HR h1 h2 h3 h4 hp hq hLT
       go_wp2
       go_roundg (LT - (i + 1))
       case rel=>exact ⟨i + 1,J',by go_num,by go_num,rfl,by have:=HR2.out.1; omega,HW.out⟩
       case measure=>have:=HK2.out; have:=HR2.out.1; omega
      ·have tij:decide ((i:Int) < (J:Int)) = false:=decide_eq_false (by omega)
       have hi1:T.length - 1 - i≤i:=by rw [HTl.out.1]; omega
       have hi2:i < T.length:=by rw [HTl.out.1]; omega
       have kc:=rvd_rev (P:=Tryz.prog) (cap:=cap) 105 9 5 Tryz.underlying105 Tryz.underlying5 Tryz.underlying9 h3 hi1 hi2
       rw [HTl.out.1] at kc
       clear hi1 hi2
       have HKb:Hid (Below w.heap.size w wr):=h4
       clear HR h1 h2 h3 h4 HR2
       go_wp2
       go_ret
       exact ⟨by rw [HTT.out]; rfl,HKb.out⟩
set_option maxHeartbeats 1000000 in
theorem IString_at (ox bx:Nat) (x:Int) (m:Nat) (w:World) (hx:IntAt w bx ox x) (hm:x.natAbs < pw m) (hm1:1≤m) (hm':m≤10000000) :
  Calls Tryz.prog 26 #[.pointer (some ⟨bx,ox,none⟩)] w fun e w'=>e = .returned (.string ⟨(decZ x).toArray⟩)∧Below w.heap.size w w':=by
 have HT:Hid (∀ w',IntAt w' bx ox x→Calls Tryz.prog 53 #[.pointer (some ⟨bx,ox,none⟩),.int .i64 10] w' fun e w''=>e = .returned (.string ⟨(decZ x).toArray⟩)∧Below w'.heap.size w' w''):=fun w' h=>Text_at ox bx x m w' h hm hm1 hm'
 have HX:Hid (IntAt w bx ox x):=hx
 clear hx hm hm1 hm'
 go_enter Tryz.func26,Tryz.ntmps26
 go_wp2_with fail
 refine (HT.out _ HX.out).mono ?_
 rintro e w1 ⟨rfl,k1⟩
 go_wp2
 go_ret
 exact ⟨rfl,k1⟩
end
section
set_option maxRecDepth 100000
open Go.RowKit
end
end Go.Proofs.YtnkjadpmigpneaaGreatDoor
