import Derived.Test.YtnkjadpmigpneaaGreatDoorRaK
import Derived.Test.YtnkjadpmigpneaaGreatDoorJsW
import Derived.Test.YtnkjadpmigpneaaGreatDoorJsG
import Derived.Test.YtnkjadpmigpneaaGreatDoorRaM
import Derived.Test.YtnkjadpmigpneaaGreatDoorJsK
import Derived.Test.YtnkjadpmigpneaaGreatDoorJsV
import Derived.Test.YtnkjadpmigpneaaGreatDoorJsU
import Derived.Test.YtnkjadpmigpneaaGreatDoorJsJ
import Derived.Test.YtnkjadpmigpneaaGreatDoorJsC
import Derived.Test.YtnkjadpmigpneaaGreatDoorBrM
set_option linter.unusedSimpArgs false
set_option linter.unusedVariables false
namespace Go.Proofs.YtnkjadpmigpneaaGreatDoor
section
set_option maxRecDepth 100000
open Go.RowKit
end
section
set_option maxRecDepth 100000
open Go.RowKit
end
section
set_option maxRecDepth 100000
open Go.RowKit
theorem Rt.updR {w w':World} {b z:Nat} {P Q:Int} (h:Rt w b P Q) (u:Upd z w w') (hz:RSlot w z) (hne:b ≠ z):Rt w' b P Q:=by
 obtain ⟨⟨s,t,h1,h2,h3⟩,h4,h5⟩:=h
 obtain ⟨x0,x1,x2,x3,hc⟩:=hz
 exact ⟨⟨s,t,(u.block b h1.lt hne).trans h1,h2.updR u hc,h3.updR u hc⟩,h4,h5⟩
structure Rk (w0 w:World) (B:Nat) (L:List (Nat × Int × Int)) (F:List Nat):Prop where
 bel:Below B w0 w
 le:B≤w.heap.size
 rat:∀ p ∈ L,Rt w p.1 p.2.1 p.2.2
 fr:∀ b ∈ F,RSlot w b
end
section
set_option maxRecDepth 100000
open Go.RowKit
end
section
set_option maxRecDepth 100000
open Go.RowKit
def Rv (w:World) (b:Nat) (v:Rat) (m:Nat):Prop:=∃ P Q:Int,Rt w b P Q∧(P:Rat) / (Q:Rat) = v∧P.natAbs < pw m∧Q.natAbs < pw m
theorem Rv.rslot {w:World} {b:Nat} {v:Rat} {m:Nat} (h:Rv w b v m):RSlot w b:=by obtain ⟨P,Q,h,_⟩:=h; exact h.at'.rslot
theorem Rv.below {w w':World} {b:Nat} {v:Rat} {m:Nat} (h:Rv w b v m) (k:Below w.heap.size w w'):Rv w' b v m:=by
 obtain ⟨P,Q,h,r⟩:=h; exact ⟨P,Q,h.below k,r⟩
theorem Rv.updR {w w':World} {b z:Nat} {v:Rat} {m:Nat} (h:Rv w b v m) (u:Upd z w w') (hz:RSlot w z) (hne:b ≠ z):Rv w' b v m:=by
 obtain ⟨P,Q,h,r⟩:=h; exact ⟨P,Q,h.updR u hz hne,r⟩
theorem Rv.le {w:World} {b:Nat} {v:Rat} {m n:Nat} (h:Rv w b v m) (hm:m≤n):Rv w b v n:=by
 obtain ⟨P,Q,h,r1,r2,r3⟩:=h; exact ⟨P,Q,h,r1,Nat.lt_of_lt_of_le r2 (pw_le hm),Nat.lt_of_lt_of_le r3 (pw_le hm)⟩
theorem rcast {a b:Int} (h:a = b):(a:Rat) = (b:Rat):=by rw [h]
theorem rne {a:Int} (h:a ≠ 0):(a:Rat) ≠ 0:=fun e=>h (Rat.intCast_eq_zero_iff.1 e)
theorem rv_add {A B P Q p q:Int} (hB:0 < B) (hQ:0 < Q) (hq:0 < q) (h:A * (Q * q) = (P * q + p * Q) * B):(A:Rat) / B = (P:Rat) / Q + (p:Rat) / q:=by
 have h':=rcast h
 simp only [Rat.intCast_mul,Rat.intCast_add] at h'
 have:=rne (show B ≠ 0 by omega); have:=rne (show Q ≠ 0 by omega); have:=rne (show q ≠ 0 by omega)
 grind
theorem rv_mul {A B P Q p q:Int} (hB:0 < B) (hQ:0 < Q) (hq:0 < q) (h:A * (Q * q) = (P * p) * B):(A:Rat) / B = (P:Rat) / Q * ((p:Rat) / q):=by
 have h':=rcast h
 simp only [Rat.intCast_mul] at h'
 have:=rne (show B ≠ 0 by omega); have:=rne (show Q ≠ 0 by omega); have:=rne (show q ≠ 0 by omega)
 grind
theorem rv_eq {P Q p q:Int} (hQ:0 < Q) (hq:0 < q):(P:Rat) / Q = (p:Rat) / q ↔ P * q = p * Q:=by
 have h1:=rne (show q ≠ 0 by omega); have h2:=rne (show Q ≠ 0 by omega)
 constructor
 ·intro h
  have:(P:Rat) * q = p * Q:=by grind
  rw [← Rat.intCast_mul,← Rat.intCast_mul] at this
  exact Rat.intCast_inj.1 this
 ·intro h
  have h':=rcast h
  simp only [Rat.intCast_mul] at h'
  grind
theorem RMulV (bz bx by':Nat) (u v:Rat) (m:Nat) (w:World) (hz:RSlot w bz) (hx:Rv w bx u m) (hy:Rv w by' v m) (hm:m≤40000000) :
  Calls Tryz.prog 41 #[.pointer (some ⟨bz,0,none⟩),.pointer (some ⟨bx,0,none⟩),.pointer (some ⟨by',0,none⟩)] w fun e w'=>e = .returned (.pointer (some ⟨bz,0,none⟩))∧Rv w' bz (u * v) (m + m)∧Upd bz w w':=by
 obtain ⟨P,Q,x1,x2,x3,x4⟩:=hx
 obtain ⟨p,q,y1,y2,y3,y4⟩:=hy
 refine (RMul_any bz bx by' P Q p q m w hz x1 y1 ⟨x3,x4,y3,y4,hm⟩).mono ?_
 rintro e w' ⟨rfl,A,B,r1,r2,r3,r4,r5⟩
 refine ⟨rfl,⟨A,B,r1,?_,Nat.lt_of_le_of_lt r3 (mul_pw x3 y3),Nat.lt_of_le_of_lt r4 (mul_pw x4 y4)⟩,r5⟩
 rw [rv_mul r1.pos x1.pos y1.pos r2,x2,y2]
theorem RAddV (bz bx by':Nat) (u v:Rat) (m:Nat) (w:World) (hz:RSlot w bz) (hx:Rv w bx u m) (hy:Rv w by' v m) (hm:m≤40000000) :
  Calls Tryz.prog 16 #[.pointer (some ⟨bz,0,none⟩),.pointer (some ⟨bx,0,none⟩),.pointer (some ⟨by',0,none⟩)] w fun e w'=>e = .returned (.pointer (some ⟨bz,0,none⟩))∧Rv w' bz (u + v) (m + m + 1)∧Upd bz w w':=by
 obtain ⟨P,Q,x1,x2,x3,x4⟩:=hx
 obtain ⟨p,q,y1,y2,y3,y4⟩:=hy
 refine (RAdd_any bz bx by' P Q p q m w hz x1 y1 ⟨x3,x4,y3,y4,hm⟩).mono ?_
 rintro e w' ⟨rfl,A,B,r1,r2,r3,r4,r5⟩
 refine ⟨rfl,⟨A,B,r1,?_,Nat.lt_of_le_of_lt r3 (add_pw (mul_pw x3 y4) (mul_pw y3 x4)),Nat.lt_of_le_of_lt r4 (Nat.lt_of_lt_of_le (mul_pw x4 y4) (pw_le (by omega)))⟩,r5⟩
 rw [rv_add r1.pos x1.pos y1.pos r2,x2,y2]
theorem RCmpV (bx by':Nat) (u v:Rat) (m:Nat) (w:World) (hx:Rv w bx u m) (hy:Rv w by' v m) (hm:m≤40000000) :
  Calls Tryz.prog 24 #[.pointer (some ⟨bx,0,none⟩),.pointer (some ⟨by',0,none⟩)] w fun e w'=>(∃ c:Int,e = .returned (.int .i64 c)∧(c = 0 ↔ u = v))∧Below w.heap.size w w':=by
 obtain ⟨P,Q,x1,x2,x3,x4⟩:=hx
 obtain ⟨p,q,y1,y2,y3,y4⟩:=hy
 refine (RCmp_any bx by' P Q p q m w x1 y1 ⟨x3,x4,y3,y4,hm⟩).mono ?_
 rintro e w' ⟨rfl,k⟩
 refine ⟨⟨_,rfl,?_⟩,k⟩
 rw [cmpZ_zero,← x2,← y2,rv_eq x1.pos y1.pos]
end
section
set_option maxRecDepth 100000
open Go.RowKit
end
section
set_option maxRecDepth 100000
open Go.RowKit LgM
set_option maxHeartbeats 1000000 in
theorem RIsInt_any (b:Nat) (P Q:Int) (m:Nat) (w:World) (hx:Rt w b P Q) (hm:Q.natAbs < pw m) (hm1:1≤m) (hm':m≤40000000) :
  Calls Tryz.prog 18 #[.pointer (some ⟨b,0,none⟩)] w fun e w'=>e = .returned (.bool (decide (Q = 1)))∧Below w.heap.size w w':=by
 have HX:Hid (Rt w b P Q):=hx
 clear hx
 go_enter Tryz.func18,Tryz.ntmps18
 go_wp2_with fail
 refine (den_pos b P Q w HX.out.at' HX.out.pos).mono ?_
 rintro e w1 ⟨rfl,hw⟩
 subst hw
 go_wp2_with fail
 refine (NewInt_any 1 w1 (by omega) (by omega)).mono ?_
 rintro e w2 ⟨c,rfl,m2⟩
 have H2:Hid (IntAt w2 b 2 Q∧BigAt w2 c 1∧Below w1.heap.size w1 w2):=⟨(HX.out.below m2.2.2).at'.den,m2.2.1,m2.2.2⟩
 clear m2
 go_wp2_with fail
 refine (Cmp_at 2 0 b c Q 1 m 1 w2 H2.out.1 H2.out.2.1.at hm (by decide) (by omega) (by omega)).mono ?_
 rintro e w3 ⟨rfl,q,rfl⟩
 have hb:(cmpZ Q 1 == 0) = decide (Q = 1):=by
  by_cases h:Q = 1
  ·rw [decide_eq_true h,h]; rfl
  ·rw [decide_eq_false h]; exact beq_eq_false_iff_ne.2 (fun e=>h (cmpZ_zero.1 e))
 have HB:Hid ((cmpZ Q 1 == 0) = decide (Q = 1)):=hb
 have HK:Hid (Below w1.heap.size w1 (w2.drewN q)):=below_drewN' H2.out.2.2
 clear hb H2 HX
 go_wp2
 go_ret
 exact ⟨by rw [← HB.out]; rfl,HK.out⟩
def rtx (P Q:Int):List UInt8:=if Q = 1 then decZ P else decZ P ++ 47 :: decZ Q
theorem str_app (a b:List UInt8):(⟨a.toArray⟩:ByteArray) ++ ⟨b.toArray⟩ = ⟨(a ++ b).toArray⟩:=by
 apply ByteArray.ext
 simp
theorem decZ_len {P:Int} {m:Nat} (hp:P.natAbs < pw m) (hm:1≤m):(decZ P).length≤10 * m + 1:=by
 have h:=dec_pw hp hm
 by_cases h0:P < 0
 ·rw [decZ_neg h0]; simp; omega
 ·rw [decZ_pos h0]; omega
set_option maxHeartbeats 2000000 in
theorem RString_any (b:Nat) (P Q:Int) (m:Nat) (w:World) (hx:Rt w b P Q) (hp:P.natAbs < pw m) (hq:Q.natAbs < pw m) (hm1:1≤m) (hm':m≤1000000) :
  Calls Tryz.prog 45 #[.pointer (some ⟨b,0,none⟩)] w fun e w'=>e = .returned (.string ⟨(decZ P ++ 47 :: decZ Q).toArray⟩)∧Below w.heap.size w w':=by
 have HX:Hid (Rt w b P Q):=hx
 have hb:=hx.at'.rslot.lt
 obtain ⟨SP,hSP⟩:∃ S:ByteArray,S = ⟨(decZ P).toArray⟩:=⟨_,rfl⟩
 obtain ⟨SQ,hSQ⟩:∃ S:ByteArray,S = ⟨(decZ Q).toArray⟩:=⟨_,rfl⟩
 have HS:Hid (SP = ⟨(decZ P).toArray⟩∧SQ = ⟨(decZ Q).toArray⟩):=⟨hSP,hSQ⟩
 obtain ⟨S1,hS1⟩:∃ S:ByteArray,S = SP ++ ⟨#[47]⟩:=⟨_,rfl⟩
 obtain ⟨S2,hS2⟩:∃ S:ByteArray,S = S1 ++ SQ:=⟨_,rfl⟩
 have l1:=decZ_len hp hm1
 have l2:=decZ_len hq hm1
 have z1:SP.size≤10 * m + 1:=by rw [hSP]; exact l1
 have z2:SQ.size≤10 * m + 1:=by rw [hSQ]; exact l2
 have z3:S1.size≤10 * m + 2:=by
  rw [hS1,ByteArray.size_append]
  have:(⟨#[47]⟩:ByteArray).size = 1:=rfl
  omega
 have hadd1:∀ w:World,(Op.stringOp .add SP ⟨#[47]⟩).run Tryz.prog w = .ok (.string S1) w:=fun w=>by
  rw [hS1]
  refine run_string_add_sum w _ _ ?_
  have:(⟨#[47]⟩:ByteArray).size = 1:=rfl
  omega
 have hadd2:∀ w:World,(Op.stringOp .add S1 SQ).run Tryz.prog w = .ok (.string S2) w:=fun w=>by
  rw [hS2]
  exact run_string_add_sum w _ _ (by omega)
 have HS2:Hid (S1 = SP ++ ⟨#[47]⟩∧S2 = S1 ++ SQ):=⟨hS1,hS2⟩
 clear hx hSP hSQ hS1 hS2 l1 l2 z1 z2 z3
 go_enter Tryz.func45,Tryz.ntmps45
 go_wp2_with fail
 have h1:=IString_at 0 b P m w HX.out.at'.num hp hm1 (by omega)
 rw [← HS.out.1] at h1
 refine h1.mono ?_
 rintro e w1 ⟨rfl,k1⟩
 have H1:Hid (Rt w1 b P Q∧Below w.heap.size w w1):=⟨HX.out.below k1,k1⟩
 clear h1 k1 HX
 go_wp2_with fail
 refine (den_pos b P Q w1 H1.out.1.at' H1.out.1.pos).mono ?_
 rintro e w2 ⟨rfl,hw⟩
 subst hw
 go_wp2_with fail
 have h2:=IString_at 2 b Q m w2 H1.out.1.at'.den hq hm1 (by omega)
 rw [← HS.out.2] at h2
 refine h2.mono ?_
 rintro e w3 ⟨rfl,k3⟩
 have H3:Hid (Below w.heap.size w w3):=H1.out.2.trans (k3.mono H1.out.2.size)
 clear h2 k3 H1
 go_wp2
 go_ret
 refine ⟨?_,H3.out⟩
 have e:S2 = ⟨(decZ P ++ 47 :: decZ Q).toArray⟩:=by
  rw [HS2.out.2,HS2.out.1,HS.out.1,HS.out.2,show (⟨#[47]⟩:ByteArray) = ⟨[47].toArray⟩ from rfl,str_app,str_app,List.append_assoc]; rfl
 rw [← e]
 rfl
set_option maxHeartbeats 1000000 in
theorem RatString_any (b:Nat) (P Q:Int) (m:Nat) (w:World) (hx:Rt w b P Q) (hp:P.natAbs < pw m) (hq:Q.natAbs < pw m) (hm1:1≤m) (hm':m≤1000000) :
  Calls Tryz.prog 12 #[.pointer (some ⟨b,0,none⟩)] w fun e w'=>e = .returned (.string ⟨(rtx P Q).toArray⟩)∧Below w.heap.size w w':=by
 have HX:Hid (Rt w b P Q):=hx
 have hb:=hx.at'.rslot.lt
 clear hx
 go_enter Tryz.func12,Tryz.ntmps12
 go_wp2_with fail
 refine (RIsInt_any b P Q m w HX.out hq hm1 (by omega)).mono ?_
 rintro e w1 ⟨rfl,k1⟩
 have H1:Hid (Rt w1 b P Q∧Below w.heap.size w w1):=⟨HX.out.below k1,k1⟩
 have hb1:=Nat.lt_of_lt_of_le hb k1.size
 clear k1 HX
 by_cases h:Q = 1
 ·have d:decide (Q = 1) = true:=decide_eq_true h
  rw [d]
  go_wp2_with fail
  have h1:=IString_at 0 b P m w1 H1.out.1.at'.num hp hm1 (by omega)
  refine h1.mono ?_
  rintro e w2 ⟨rfl,k2⟩
  have H2:Hid (Below w.heap.size w w2):=H1.out.2.trans (k2.mono H1.out.2.size)
  clear h1 k2 H1
  go_wp2
  go_ret
  exact ⟨by rw [show rtx P Q = decZ P by unfold rtx; rw [if_pos h]]; rfl,H2.out⟩
 ·have d:decide (Q = 1) = false:=decide_eq_false h
  rw [d]
  go_wp2_with fail
  have h1:=RString_any b P Q m w1 H1.out.1 hp hq hm1 hm'
  refine h1.mono ?_
  rintro e w2 ⟨rfl,k2⟩
  have H2:Hid (Below w.heap.size w w2):=H1.out.2.trans (k2.mono H1.out.2.size)
  clear h1 k2 H1
  go_wp2
  go_ret
  exact ⟨by rw [show rtx P Q = decZ P ++ 47 :: decZ Q by unfold rtx; rw [if_neg h]]; rfl,H2.out⟩
end
section
set_option maxRecDepth 100000
open Go.RowKit LgM
theorem SetIntW (bz ba:Nat) (x:Int) (m:Nat) (w:World) (hz:RSlot w bz) (hx:BigAt w ba x) (h1:x.natAbs < pw m) (hm:1≤m) (hm':m≤40000000) :
  Calls Tryz.prog 22 #[.pointer (some ⟨bz,0,none⟩),.pointer (some ⟨ba,0,none⟩)] w fun e w'=>e = .returned (.pointer (some ⟨bz,0,none⟩))∧Rv w' bz (x:Rat) m∧Upd bz w w':=by
 refine (SetInt_any bz ba 0 x m w hz hx.at h1 hm (by omega)).mono ?_
 rintro e w' ⟨rfl,r,k⟩
 refine ⟨rfl,⟨x,1,r,?_,h1,?_⟩,k⟩
 ·grind
 ·exact Nat.lt_of_lt_of_le (show (1:Int).natAbs < pw 1 by decide) (pw_le hm)
theorem frac_val (v:Rat):((v.num:Int):Rat) / ((v.den:Int):Rat) = v:=by
 rw [← Rat.divInt_eq_div]
 exact Rat.num_divInt_den v
theorem rt_own {w:World} {b:Nat} {P Q:Int} {v:Rat} (h:Rt w b P Q) (hv:(P:Rat) / (Q:Rat) = v):P = v.num∧Q = (v.den:Int):=by
 have hd:(0:Int) < (v.den:Int):=by have:=v.den_pos; omega
 have e:=(rv_eq h.pos hd).1 (hv.trans (frac_val v).symm)
 exact low_uniq h.pos hd e h.low (by rw [Int.natAbs_natCast]; exact v.reduced)
theorem val_le {v:Rat} {N D:Int} (hD:0 < D) (h:(N:Rat) / (D:Rat) = v):v.num.natAbs≤N.natAbs∧v.den≤D.natAbs:=by
 have hd:(0:Int) < (v.den:Int):=by have:=v.den_pos; omega
 have e:=(rv_eq hD hd).1 (h.trans (frac_val v).symm)
 have e2:N.natAbs * v.den = v.num.natAbs * D.natAbs:=by
  have:=congrArg Int.natAbs e
  rwa [Int.natAbs_mul,Int.natAbs_mul,Int.natAbs_natCast] at this
 have hDn:0 < D.natAbs:=by omega
 have c1:v.den ∣ D.natAbs:=by
  have:v.den ∣ v.num.natAbs * D.natAbs:=⟨N.natAbs,by rw [← e2,Nat.mul_comm]⟩
  exact (Nat.Coprime.symm v.reduced).dvd_of_dvd_mul_left this
 have c2:v.num.natAbs ∣ N.natAbs:=by
  have:v.num.natAbs ∣ N.natAbs * v.den:=⟨D.natAbs,e2⟩
  exact Nat.Coprime.dvd_of_dvd_mul_right v.reduced this
 refine ⟨?_,Nat.le_of_dvd hDn c1⟩
 rcases Nat.eq_zero_or_pos N.natAbs with h0 | h0
 ·rw [h0,Nat.zero_mul] at e2
  have:v.num.natAbs = 0:=by
   rcases Nat.mul_eq_zero.1 e2.symm with h | h
   ·exact h
   ·omega
  omega
 ·exact Nat.le_of_dvd h0 c2
theorem Rv.low {w:World} {b:Nat} {v:Rat} {m k:Nat} (h:Rv w b v m) {N D:Int} (hD:0 < D) (hv:(N:Rat) / (D:Rat) = v) (h1:N.natAbs < pw k) (h2:D.natAbs < pw k):Rv w b v k:=by
 obtain ⟨P,Q,x1,x2,x3,x4⟩:=h
 obtain ⟨e1,e2⟩:=rt_own x1 x2
 obtain ⟨c1,c2⟩:=val_le hD hv
 refine ⟨P,Q,x1,x2,?_,?_⟩
 ·rw [e1]; omega
 ·rw [e2,Int.natAbs_natCast]; omega
def vtx (v:Rat):List UInt8:=rtx v.num (v.den:Int)
theorem RatStringV (b:Nat) (v:Rat) (m:Nat) (w:World) (hx:Rv w b v m) (hm1:1≤m) (hm':m≤1000000) :
  Calls Tryz.prog 12 #[.pointer (some ⟨b,0,none⟩)] w fun e w'=>e = .returned (.string ⟨(vtx v).toArray⟩)∧Below w.heap.size w w':=by
 obtain ⟨P,Q,x1,x2,x3,x4⟩:=hx
 obtain ⟨e1,e2⟩:=rt_own x1 x2
 have h:=RatString_any b P Q m w x1 x3 x4 hm1 hm'
 rw [e1,e2] at h
 exact h
end
section
set_option maxRecDepth 100000
open Go.RowKit LgM
def bnv (m:Nat):Rat:=((BN.bt m:Int):Rat) / (((BN.dN:Nat):Int):Rat)
theorem vtx_of {P Q:Int} {v:Rat} (hQ:0 < Q) (low:Nat.gcd P.natAbs Q.natAbs = 1) (hv:(P:Rat) / (Q:Rat) = v):vtx v = rtx P Q:=by
 have hd:(0:Int) < (v.den:Int):=by have:=v.den_pos; omega
 have e:=(rv_eq hQ hd).1 (hv.trans (frac_val v).symm)
 obtain ⟨e1,e2⟩:=low_uniq hQ hd e low (by rw [Int.natAbs_natCast]; exact v.reduced)
 unfold vtx
 rw [← e1,← e2]
theorem bn_12:BN.bt 12 * 2730 = -691 * ((BN.dN:Nat):Int):=by decide +kernel
theorem dN_pos:(0:Int) < ((BN.dN:Nat):Int):=by decide +kernel
theorem text_12:vtx (bnv 12) = [45,54,57,49,47,50,55,51,48]:=by
 rw [vtx_of (v:=bnv 12) (P:=-691) (Q:=2730) (by decide) (by decide) ((rv_eq (by decide) dN_pos).2 bn_12.symm)]
 unfold rtx
 rw [if_neg (by decide),decZ_neg (by decide),decZ_pos (by decide)]
 simp [dec_ge,dec_lt]
set_option maxHeartbeats 1000000 in
theorem bernBegun_of (w:World) (hN:Calls Tryz.prog 7 #[.int .i64 12] w fun e w'=>e = .returned (.tuple #[.string ⟨(vtx (bnv 12)).toArray⟩,.agg #[.int .i64 0,.int .i64 0]])∧Below w.heap.size w w') :
  Calls Tryz.prog 8 #[] w fun e w'=>e = .returned (.bool true)∧Below w.heap.size w w':=by
 rw [text_12] at hN
 have HN:Hid (Calls Tryz.prog 7 #[.int .i64 12] w fun e w'=>e = .returned (.tuple #[.string ⟨[45,54,57,49,47,50,55,51,48].toArray⟩,.agg #[.int .i64 0,.int .i64 0]])∧Below w.heap.size w w'):=hN
 clear hN
 go_enter Tryz.func8,Tryz.ntmps8
 go_wp2_with fail
 refine HN.out.mono ?_
 rintro e w1 ⟨rfl,k1⟩
 have HK:Hid (Below w.heap.size w (w1.alloc (.cells #[.int .i64 0,.int .i64 0] 23))):=k1.alloc k1.size _
 clear k1 HN
 go_wp2
 go_ret
 exact ⟨rfl,HK.out⟩
end
section
set_option maxRecDepth 100000
open Go.RowKit
namespace BN
def pmask:Nat:=1020032875410759681235134578348735197776366020317731447515308
def vk (n:Nat):Nat→Nat
 | 0=>0
 | i + 1=>vk n i + if Nat.testBit pmask (i + 2) && n % (i + 1) == 0 then dN / (i + 2) else 0
end BN
def vv18 (n i:Nat):Rat:=((BN.bt n + (BN.vk n i:Int):Int):Rat) / (((BN.dN:Nat):Int):Rat)
end
section
set_option maxRecDepth 100000
open Go.RowKit
theorem rat_zero (w:World):RatAt (w.alloc (.cells #[.bool false,.slice none 0 0,.bool false,.slice none 0 0] 39)) w.heap.size 0 0 :=
 ⟨.slice none 0 0,.slice none 0 0,Cl.new _ _ w,⟨[],⟨by simp,.inl ⟨rfl,rfl⟩⟩,rfl,.inl rfl⟩,⟨[],⟨by simp,.inl ⟨rfl,rfl⟩⟩,rfl,.inl rfl⟩⟩
set_option maxHeartbeats 1000000 in
theorem den_zero (b:Nat) (w:World) (hz:RatAt w b 0 0) :
  Calls Tryz.prog 46 #[.pointer (some ⟨b,0,none⟩)] w fun e w'=>∃ d,e = .returned (.pointer (some ⟨d,0,none⟩))∧Made w w' d 1:=by
 obtain ⟨ya,yl,yc,cy0,cy1,ny,hyl⟩:=hz.den.open
 have hyb:((yl:Int) == 0) = true:=by
  have:yl = 0:=by
   rcases Nat.eq_zero_or_pos yl with h | h
   ·exact h
   ·have:=hyl.1 h; simp at this
  rw [this]; rfl
 simp only [Nat.reduceAdd] at cy1
 clear hz ny hyl cy0
 go_enter Tryz.func46,Tryz.ntmps46
 go_wp2_with fail
 refine (NewInt_any 1 w (by omega) (by omega)).mono ?_
 rintro e w1 ⟨d,rfl,m1⟩
 go_wp2
 go_ret
 exact ⟨d,rfl,m1⟩
theorem zero_low {w:World} {b:Nat} {A B p q:Int} (h:Rt w b A B) (e:A * (1 * q) = (0 * p) * B) (hq:(1:Int) * q ≠ 0):A = 0∧B = 1:=by
 have hA:A = 0:=by
  rw [Int.zero_mul,Int.zero_mul] at e
  rcases Int.mul_eq_zero.1 e with h | h
  ·exact h
  ·exact absurd h hq
 subst hA
 have h2:=h.low
 have h3:=h.pos
 rw [show (0:Int).natAbs = 0 from rfl,Nat.gcd_zero_left] at h2
 exact ⟨rfl,by omega⟩
set_option maxHeartbeats 8000000 in
theorem RMul_zero (bz bx by':Nat) (p q:Int) (m:Nat) (w:World) (hz:RSlot w bz) (hx:RatAt w bx 0 0) (hy:Rt w by' p q) (hp:p.natAbs < pw m) (hq:q.natAbs < pw m) (hm:m≤40000000) :
  Calls Tryz.prog 41 #[.pointer (some ⟨bz,0,none⟩),.pointer (some ⟨bx,0,none⟩),.pointer (some ⟨by',0,none⟩)] w fun e w'=>e = .returned (.pointer (some ⟨bz,0,none⟩))∧Rt w' bz 0 1∧Upd bz w w':=by
 have bxl:=hx.num.lt
 have byl:=hy.at'.num.lt
 have HX:Hid (RatAt w bx 0 0):=hx
 have HY:Hid (Rt w by' p q):=hy
 have HZ:Hid (RSlot w bz):=hz
 have HB:Hid (p.natAbs < pw m∧q.natAbs < pw m∧(0:Int).natAbs < pw 1∧(1:Int).natAbs < pw 1∧m≤40000000):=⟨hp,hq,by decide,by decide,hm⟩
 have HN:Hid ((1:Int) * q ≠ 0):=by have:=hy.pos; show _ ≠ _; omega
 clear hx hy hz hp hq hm
 go_enter Tryz.func41,Tryz.ntmps41
 go_wp2_with fail
 refine wp_region_G (fun w'=>bx < w'.heap.size∧by' < w'.heap.size) 16 (by kernel_rfl) ⟨by simpa using bxl,by simpa using byl⟩ (fun hHeld=>?_)
 refine wpAnyG_take (i:=0) (v:=?v0x1) rfl (by kernel_rfl) (fun _ _ _ h=>h) (Or.inl ⟨by rfl,?y0x1⟩) hHeld ?r0x1
 case y0x1=>(intro wS hSw; obtain ⟨s1,s2⟩:=hSw; go_simp; try with_reducible rfl)
 try simp only [Act.put,List.setIfInBounds_toArray,List.set_cons_zero,List.set_cons_succ]
 refine wpAnyG_take (i:=2) (v:=?v2x2) rfl (by kernel_rfl) (fun _ _ _ h=>h) (Or.inl ⟨by rfl,?y2x2⟩) hHeld ?r2x2
 case y2x2=>(intro wS hSw; obtain ⟨s1,s2⟩:=hSw; go_simp; try with_reducible rfl)
 try simp only [Act.put,List.setIfInBounds_toArray,List.set_cons_zero,List.set_cons_succ]
 refine wpAnyG_take (i:=3) (v:=?v3x3) rfl (by kernel_rfl) (fun _ _ _ h=>h) (Or.inl ⟨by rfl,?y3x3⟩) hHeld ?r3x3
 case y3x3=>(intro wS hSw; obtain ⟨s1,s2⟩:=hSw; go_simp; try with_reducible rfl)
 try simp only [Act.put,List.setIfInBounds_toArray,List.set_cons_zero,List.set_cons_succ]
 refine wpAnyG_take (i:=4) (v:=?v4x4) rfl (by kernel_rfl) (fun _ _ _ h=>h) (Or.inl ⟨by rfl,?y4x4⟩) hHeld ?r4x4
 case y4x4=>(intro wS hSw; obtain ⟨s1,s2⟩:=hSw; go_simp; try with_reducible rfl)
 try simp only [Act.put,List.setIfInBounds_toArray,List.set_cons_zero,List.set_cons_succ]
 refine wpAnyG_take (i:=5) (v:=?v5x5) rfl (by kernel_rfl) (fun _ _ _ h=>h) (Or.inl ⟨by rfl,?y5x5⟩) hHeld ?r5x5
 case y5x5=>(intro wS hSw; obtain ⟨s1,s2⟩:=hSw; go_simp; try with_reducible rfl)
 try simp only [Act.put,List.setIfInBounds_toArray,List.set_cons_zero,List.set_cons_succ]
 refine wpAnyG_take (i:=6) (v:=?v6x6) rfl (by kernel_rfl) (fun _ _ _ h=>h) (Or.inl ⟨by rfl,?y6x6⟩) hHeld ?r6x6
 case y6x6=>(intro wS hSw; obtain ⟨s1,s2⟩:=hSw; go_simp; try with_reducible rfl)
 try simp only [Act.put,List.setIfInBounds_toArray,List.set_cons_zero,List.set_cons_succ]
 refine wpAnyG_take (i:=7) (v:=?v7x7) rfl (by kernel_rfl) (fun _ _ _ h=>h) (Or.inl ⟨by rfl,?y7x7⟩) hHeld ?r7x7
 case y7x7=>(intro wS hSw; obtain ⟨s1,s2⟩:=hSw; go_simp; try with_reducible rfl)
 try simp only [Act.put,List.setIfInBounds_toArray,List.set_cons_zero,List.set_cons_succ]
 refine wpAnyG_take (i:=10) (v:=?v10x8) rfl (by kernel_rfl) (fun _ _ _ h=>h) (Or.inl ⟨by rfl,?y10x8⟩) hHeld ?r10x8
 case y10x8=>(intro wS hSw; obtain ⟨s1,s2⟩:=hSw; go_simp; try with_reducible rfl)
 try simp only [Act.put,List.setIfInBounds_toArray,List.set_cons_zero,List.set_cons_succ]
 refine wpAnyG_take (i:=12) (v:=?v12x9) rfl (by kernel_rfl) (fun _ _ _ h=>h) (Or.inl ⟨by rfl,?y12x9⟩) hHeld ?r12x9
 case y12x9=>(intro wS hSw; obtain ⟨s1,s2⟩:=hSw; go_simp; try with_reducible rfl)
 try simp only [Act.put,List.setIfInBounds_toArray,List.set_cons_zero,List.set_cons_succ]
 clear hHeld
 refine wpAnyG_inv (fun n l a w1=>∃ x6 x8 x15 x16 x18 x20 x21 x22:Value,a = { tmps:=#[.pointer (some ⟨bz,0,none⟩),.pointer (some ⟨bx,0,none⟩),.pointer (some ⟨by',0,none⟩),undef,undef,undef,x6,.pointer (some ⟨bz,0,none⟩),x8,.pointer (some ⟨bx,0,none⟩),.pointer (some ⟨bx,0,none⟩),.pointer (some ⟨bx,0,none⟩),.pointer (some ⟨by',0,none⟩),.pointer (some ⟨by',0,none⟩),.pointer (some ⟨by',0,none⟩),x15,x16,.pointer (some ⟨bx,0,none⟩),x18,.pointer (some ⟨by',0,none⟩),x20,x21,x22],defers:=[] }∧((((n = 8∧l = #[true,false,true,true,true,true,true,true,false,false,true,false,true,false,false,false,false]∧x6 = .pointer none∧x8 = undef∧x15 = undef∧x16 = undef∧x18 = undef∧x20 = undef∧x21 = undef∧x22 = undef∧Hid (Below w.heap.size w w1))∨((∃ b0:Nat,n = 7∧l = #[true,true,true,true,true,true,true,true,false,false,true,false,true,false,false,false,false]∧x6 = .pointer none∧x8 = .pointer (some ⟨b0,0,none⟩)∧x15 = undef∧x16 = undef∧x18 = undef∧x20 = undef∧x21 = undef∧x22 = undef∧Hid (Below w.heap.size w w1∧w.heap.size≤b0∧Slot w1 b0))∨(∃ b1:Nat,n = 7∧l = #[true,false,true,true,true,true,true,true,false,true,true,false,true,false,false,false,false]∧x6 = .pointer none∧x8 = undef∧x15 = undef∧x16 = .pointer (some ⟨b1,0,none⟩)∧x18 = undef∧x20 = undef∧x21 = undef∧x22 = undef∧Hid (Below w.heap.size w w1∧w.heap.size≤b1∧Slot w1 b1))))∨((∃ b0:Nat,n = 6∧l = #[true,true,true,true,true,true,true,true,true,false,true,false,true,false,false,false,false]∧x6 = .pointer none∧x8 = .pointer (some ⟨b0,0,none⟩)∧x15 = .pointer (some ⟨b0,0,none⟩)∧x16 = undef∧x18 = undef∧x20 = undef∧x21 = undef∧x22 = undef∧Hid (Below w.heap.size w w1∧w.heap.size≤b0∧BigAt w1 b0 (0 * p)))∨((∃ b0 b1:Nat,n = 6∧l = #[true,true,true,true,true,true,true,true,false,true,true,false,true,false,false,false,false]∧x6 = .pointer none∧x8 = .pointer (some ⟨b0,0,none⟩)∧x15 = undef∧x16 = .pointer (some ⟨b1,0,none⟩)∧x18 = undef∧x20 = undef∧x21 = undef∧x22 = undef∧Hid (Below w.heap.size w w1∧w.heap.size≤b0∧Slot w1 b0∧w.heap.size≤b1∧Slot w1 b1∧b0 ≠ b1))∨(∃ b0 b1:Nat,n = 5∧l = #[true,true,true,true,true,true,true,true,true,true,true,false,true,false,false,false,false]∧x6 = .pointer none∧x8 = .pointer (some ⟨b0,0,none⟩)∧x15 = .pointer (some ⟨b0,0,none⟩)∧x16 = .pointer (some ⟨b1,0,none⟩)∧x18 = undef∧x20 = undef∧x21 = undef∧x22 = undef∧Hid (Below w.heap.size w w1∧w.heap.size≤b0∧BigAt w1 b0 (0 * p)∧w.heap.size≤b1∧Slot w1 b1∧b0 ≠ b1)))))∨(((∃ b0 d:Nat,n = 5∧l = #[true,true,true,true,true,true,true,true,true,false,true,true,true,false,false,false,false]∧x6 = .pointer none∧x8 = .pointer (some ⟨b0,0,none⟩)∧x15 = .pointer (some ⟨b0,0,none⟩)∧x16 = undef∧x18 = .pointer (some ⟨d,0,none⟩)∧x20 = undef∧x21 = undef∧x22 = undef∧Hid (Below w.heap.size w w1∧w.heap.size≤b0∧BigAt w1 b0 (0 * p)∧w.heap.size≤d∧BigAt w1 d 1∧b0 ≠ d))∨((∃ b0 b1 d:Nat,n = 4∧l = #[true,true,true,true,true,true,true,true,true,true,true,true,true,false,false,false,false]∧x6 = .pointer none∧x8 = .pointer (some ⟨b0,0,none⟩)∧x15 = .pointer (some ⟨b0,0,none⟩)∧x16 = .pointer (some ⟨b1,0,none⟩)∧x18 = .pointer (some ⟨d,0,none⟩)∧x20 = undef∧x21 = undef∧x22 = undef∧Hid (Below w.heap.size w w1∧w.heap.size≤b0∧BigAt w1 b0 (0 * p)∧w.heap.size≤b1∧Slot w1 b1∧w.heap.size≤d∧BigAt w1 d 1∧b0 ≠ b1∧b0 ≠ d∧b1 ≠ d))∨(∃ b0 d:Nat,n = 4∧l = #[true,true,true,true,true,true,true,true,true,false,true,true,true,true,false,false,false]∧x6 = .pointer none∧x8 = .pointer (some ⟨b0,0,none⟩)∧x15 = .pointer (some ⟨b0,0,none⟩)∧x16 = undef∧x18 = .pointer (some ⟨d,0,none⟩)∧x20 = .pointer (some ⟨by',2,none⟩)∧x21 = undef∧x22 = undef∧Hid (Below w.heap.size w w1∧w.heap.size≤b0∧BigAt w1 b0 (0 * p)∧w.heap.size≤d∧BigAt w1 d 1∧b0 ≠ d))))∨(((∃ b0 b1 d:Nat,n = 3∧l = #[true,true,true,true,true,true,true,true,true,true,true,true,true,true,false,false,false]∧x6 = .pointer none∧x8 = .pointer (some ⟨b0,0,none⟩)∧x15 = .pointer (some ⟨b0,0,none⟩)∧x16 = .pointer (some ⟨b1,0,none⟩)∧x18 = .pointer (some ⟨d,0,none⟩)∧x20 = .pointer (some ⟨by',2,none⟩)∧x21 = undef∧x22 = undef∧Hid (Below w.heap.size w w1∧w.heap.size≤b0∧BigAt w1 b0 (0 * p)∧w.heap.size≤b1∧Slot w1 b1∧w.heap.size≤d∧BigAt w1 d 1∧b0 ≠ b1∧b0 ≠ d∧b1 ≠ d))∨(∃ b0 b1 d:Nat,n = 2∧l = #[true,true,true,true,true,true,true,true,true,true,true,true,true,true,true,false,false]∧x6 = .pointer none∧x8 = .pointer (some ⟨b0,0,none⟩)∧x15 = .pointer (some ⟨b0,0,none⟩)∧x16 = .pointer (some ⟨b1,0,none⟩)∧x18 = .pointer (some ⟨d,0,none⟩)∧x20 = .pointer (some ⟨by',2,none⟩)∧x21 = .pointer (some ⟨b1,0,none⟩)∧x22 = undef∧Hid (Below w.heap.size w w1∧w.heap.size≤b0∧BigAt w1 b0 (0 * p)∧w.heap.size≤b1∧BigAt w1 b1 (1 * q)∧w.heap.size≤d∧BigAt w1 d 1∧b0 ≠ b1∧b0 ≠ d∧b1 ≠ d)))∨((∃ b0 b1 d:Nat,n = 1∧l = #[true,true,true,true,true,true,true,true,true,true,true,true,true,true,true,true,false]∧x6 = .pointer none∧x8 = .pointer (some ⟨b0,0,none⟩)∧x15 = .pointer (some ⟨b0,0,none⟩)∧x16 = .pointer (some ⟨b1,0,none⟩)∧x18 = .pointer (some ⟨d,0,none⟩)∧x20 = .pointer (some ⟨by',2,none⟩)∧x21 = .pointer (some ⟨b1,0,none⟩)∧x22 = .pointer (some ⟨bz,0,none⟩)∧Hid (w.heap.size≤w1.heap.size∧(Rt w1 bz 0 1∧Upd bz w w1)))∨(∃ b0 b1 d:Nat,n = 0∧l = #[true,true,true,true,true,true,true,true,true,true,true,true,true,true,true,true,true]∧x6 = .pointer (some ⟨bz,0,none⟩)∧x8 = .pointer (some ⟨b0,0,none⟩)∧x15 = .pointer (some ⟨b0,0,none⟩)∧x16 = .pointer (some ⟨b1,0,none⟩)∧x18 = .pointer (some ⟨d,0,none⟩)∧x20 = .pointer (some ⟨by',2,none⟩)∧x21 = .pointer (some ⟨b1,0,none⟩)∧x22 = .pointer (some ⟨bz,0,none⟩)∧Hid (w.heap.size≤w1.heap.size∧(Rt w1 bz 0 1∧Upd bz w w1)))))))) ?steps _ _ _ _ ?start
 case start=>exact ⟨_,_,_,_,_,_,_,_,rfl,.inl (.inl (.inl (⟨rfl,rfl,rfl,rfl,rfl,rfl,rfl,rfl,rfl,rfl,(Below.refl w.heap.size w).drew⟩)))⟩
 case steps =>
  intro n l a w1 hI
  obtain ⟨x6,x8,x15,x16,x18,x20,x21,x22,rfl,hI⟩:=hI
  rcases hI with (((hI | (hI | hI)) | (hI | (hI | hI))) | ((hI | (hI | hI)) | ((hI | hI) | (hI | hI))))
  ·obtain ⟨rfl,rfl,rfl,rfl,rfl,rfl,rfl,rfl,rfl,rfl,HH⟩:=hI
   right
   refine ⟨7,[1,9],rfl,by kernel_rfl,by simp,fun i hi=>?_⟩
   simp only [List.mem_cons,List.not_mem_nil,or_false] at hi
   rcases hi with rfl | rfl
   ·refine ⟨_,rfl,fun K' hK=>?_⟩
    go_simp
    have K:=HH.out
    refine hK.out _ _ (fun _ _=>⟨Nat.lt_of_lt_of_le bxl (K.alloc K.size _).size,Nat.lt_of_lt_of_le byl (K.alloc K.size _).size⟩) (⟨_,_,_,_,_,_,_,_,rfl,.inl (.inl (.inr (.inl (⟨w1.heap.size,rfl,rfl,rfl,rfl,rfl,rfl,rfl,rfl,rfl,rfl,K.alloc K.size _,K.size,slot_new w1 _ _⟩))))⟩)
   ·refine ⟨_,rfl,fun K' hK=>?_⟩
    go_simp
    have K:=HH.out
    refine hK.out _ _ (fun _ _=>⟨Nat.lt_of_lt_of_le bxl (K.alloc K.size _).size,Nat.lt_of_lt_of_le byl (K.alloc K.size _).size⟩) (⟨_,_,_,_,_,_,_,_,rfl,.inl (.inl (.inr (.inr (⟨w1.heap.size,rfl,rfl,rfl,rfl,rfl,rfl,rfl,rfl,rfl,rfl,K.alloc K.size _,K.size,slot_new w1 _ _⟩))))⟩)
  ·obtain ⟨b0,rfl,rfl,rfl,rfl,rfl,rfl,rfl,rfl,rfl,rfl,HH⟩:=hI
   right
   refine ⟨6,[8,9],rfl,by kernel_rfl,by simp,fun i hi=>?_⟩
   simp only [List.mem_cons,List.not_mem_nil,or_false] at hi
   rcases hi with rfl | rfl
   ·refine ⟨_,rfl,fun K' hK=>?_⟩
    go_simp
    obtain ⟨K,ge_b0,at_b0⟩:=HH.out
    refine (Mul_at 0 0 b0 bx by' 0 p 1 m w1 at_b0 (HX.out.below K).num (HY.out.below K).at'.num HB.out.2.2.1 HB.out.1 (by omega) (by have:=HB.out.2.2.2.2; omega)).mono ?_
    rintro e w2 ⟨rfl,h2,u2⟩
    refine hK.out _ _ (fun _ _=>⟨Nat.lt_of_lt_of_le bxl (K.trans (u2.below K.size ge_b0)).size,Nat.lt_of_lt_of_le byl (K.trans (u2.below K.size ge_b0)).size⟩) (⟨_,_,_,_,_,_,_,_,rfl,.inl (.inr (.inl (⟨b0,rfl,rfl,rfl,rfl,rfl,rfl,rfl,rfl,rfl,rfl,(K.trans (u2.below K.size ge_b0)),ge_b0,h2⟩)))⟩)
   ·refine ⟨_,rfl,fun K' hK=>?_⟩
    go_simp
    obtain ⟨K,ge_b0,at_b0⟩:=HH.out
    refine hK.out _ _ (fun _ _=>⟨Nat.lt_of_lt_of_le bxl (K.alloc K.size _).size,Nat.lt_of_lt_of_le byl (K.alloc K.size _).size⟩) (⟨_,_,_,_,_,_,_,_,rfl,.inl (.inr (.inr (.inl (⟨b0,w1.heap.size,rfl,rfl,rfl,rfl,rfl,rfl,rfl,rfl,rfl,rfl,K.alloc K.size _,ge_b0,at_b0.below (Below.alloc_self' w1 _) (Nat.le_refl _),K.size,slot_new w1 _ _,(Nat.ne_of_lt at_b0.lt)⟩))))⟩)
  ·obtain ⟨b1,rfl,rfl,rfl,rfl,rfl,rfl,rfl,rfl,rfl,rfl,HH⟩:=hI
   right
   refine ⟨6,[1],rfl,by kernel_rfl,by simp,fun i hi=>?_⟩
   simp only [List.mem_cons,List.not_mem_nil,or_false] at hi
   subst hi
   refine ⟨_,rfl,fun K' hK=>?_⟩
   go_simp
   obtain ⟨K,ge_b1,at_b1⟩:=HH.out
   refine hK.out _ _ (fun _ _=>⟨Nat.lt_of_lt_of_le bxl (K.alloc K.size _).size,Nat.lt_of_lt_of_le byl (K.alloc K.size _).size⟩) (⟨_,_,_,_,_,_,_,_,rfl,.inl (.inr (.inr (.inl (⟨w1.heap.size,b1,rfl,rfl,rfl,rfl,rfl,rfl,rfl,rfl,rfl,rfl,K.alloc K.size _,K.size,slot_new w1 _ _,ge_b1,at_b1.below (Below.alloc_self' w1 _) (Nat.le_refl _),(Nat.ne_of_gt at_b1.lt)⟩))))⟩)
  ·obtain ⟨b0,rfl,rfl,rfl,rfl,rfl,rfl,rfl,rfl,rfl,rfl,HH⟩:=hI
   right
   refine ⟨5,[9,11],rfl,by kernel_rfl,by simp,fun i hi=>?_⟩
   simp only [List.mem_cons,List.not_mem_nil,or_false] at hi
   rcases hi with rfl | rfl
   ·refine ⟨_,rfl,fun K' hK=>?_⟩
    go_simp
    obtain ⟨K,ge_b0,at_b0⟩:=HH.out
    refine hK.out _ _ (fun _ _=>⟨Nat.lt_of_lt_of_le bxl (K.alloc K.size _).size,Nat.lt_of_lt_of_le byl (K.alloc K.size _).size⟩) (⟨_,_,_,_,_,_,_,_,rfl,.inl (.inr (.inr (.inr (⟨b0,w1.heap.size,rfl,rfl,rfl,rfl,rfl,rfl,rfl,rfl,rfl,rfl,K.alloc K.size _,ge_b0,at_b0.below (Below.alloc_self' w1 _) (Nat.le_refl _),K.size,slot_new w1 _ _,(Nat.ne_of_lt at_b0.lt)⟩))))⟩)
   ·refine ⟨_,rfl,fun K' hK=>?_⟩
    go_simp
    obtain ⟨K,ge_b0,at_b0⟩:=HH.out
    refine (den_zero bx w1 (HX.out.below K)).mono ?_
    rintro e w2 ⟨d,rfl,m2⟩
    refine hK.out _ _ (fun _ _=>⟨Nat.lt_of_lt_of_le bxl (K.trans (m2.2.2.mono K.size)).size,Nat.lt_of_lt_of_le byl (K.trans (m2.2.2.mono K.size)).size⟩) (⟨_,_,_,_,_,_,_,_,rfl,.inr (.inl (.inl (⟨b0,d,rfl,rfl,rfl,rfl,rfl,rfl,rfl,rfl,rfl,rfl,(K.trans (m2.2.2.mono K.size)),ge_b0,at_b0.below m2.2.2 (Nat.le_refl _),(Nat.le_trans K.size m2.1),m2.2.1,(Nat.ne_of_lt (Nat.lt_of_lt_of_le at_b0.lt m2.1))⟩)))⟩)
  ·obtain ⟨b0,b1,rfl,rfl,rfl,rfl,rfl,rfl,rfl,rfl,rfl,rfl,HH⟩:=hI
   right
   refine ⟨5,[8],rfl,by kernel_rfl,by simp,fun i hi=>?_⟩
   simp only [List.mem_cons,List.not_mem_nil,or_false] at hi
   subst hi
   refine ⟨_,rfl,fun K' hK=>?_⟩
   go_simp
   obtain ⟨K,ge_b0,at_b0,ge_b1,at_b1,ne_b0_b1⟩:=HH.out
   refine (Mul_at 0 0 b0 bx by' 0 p 1 m w1 at_b0 (HX.out.below K).num (HY.out.below K).at'.num HB.out.2.2.1 HB.out.1 (by omega) (by have:=HB.out.2.2.2.2; omega)).mono ?_
   rintro e w2 ⟨rfl,h2,u2⟩
   refine hK.out _ _ (fun _ _=>⟨Nat.lt_of_lt_of_le bxl (K.trans (u2.below K.size ge_b0)).size,Nat.lt_of_lt_of_le byl (K.trans (u2.below K.size ge_b0)).size⟩) (⟨_,_,_,_,_,_,_,_,rfl,.inl (.inr (.inr (.inr (⟨b0,b1,rfl,rfl,rfl,rfl,rfl,rfl,rfl,rfl,rfl,rfl,(K.trans (u2.below K.size ge_b0)),ge_b0,h2,ge_b1,at_b1.upd u2 (Ne.symm ne_b0_b1),ne_b0_b1⟩))))⟩)
  ·obtain ⟨b0,b1,rfl,rfl,rfl,rfl,rfl,rfl,rfl,rfl,rfl,rfl,HH⟩:=hI
   right
   refine ⟨4,[11],rfl,by kernel_rfl,by simp,fun i hi=>?_⟩
   simp only [List.mem_cons,List.not_mem_nil,or_false] at hi
   subst hi
   refine ⟨_,rfl,fun K' hK=>?_⟩
   go_simp
   obtain ⟨K,ge_b0,at_b0,ge_b1,at_b1,ne_b0_b1⟩:=HH.out
   refine (den_zero bx w1 (HX.out.below K)).mono ?_
   rintro e w2 ⟨d,rfl,m2⟩
   refine hK.out _ _ (fun _ _=>⟨Nat.lt_of_lt_of_le bxl (K.trans (m2.2.2.mono K.size)).size,Nat.lt_of_lt_of_le byl (K.trans (m2.2.2.mono K.size)).size⟩) (⟨_,_,_,_,_,_,_,_,rfl,.inr (.inl (.inr (.inl (⟨b0,b1,d,rfl,rfl,rfl,rfl,rfl,rfl,rfl,rfl,rfl,rfl,(K.trans (m2.2.2.mono K.size)),ge_b0,at_b0.below m2.2.2 (Nat.le_refl _),ge_b1,at_b1.below m2.2.2 (Nat.le_refl _),(Nat.le_trans K.size m2.1),m2.2.1,ne_b0_b1,(Nat.ne_of_lt (Nat.lt_of_lt_of_le at_b0.lt m2.1)),(Nat.ne_of_lt (Nat.lt_of_lt_of_le at_b1.lt m2.1))⟩))))⟩)
  ·obtain ⟨b0,d,rfl,rfl,rfl,rfl,rfl,rfl,rfl,rfl,rfl,rfl,HH⟩:=hI
   right
   refine ⟨4,[9,13],rfl,by kernel_rfl,by simp,fun i hi=>?_⟩
   simp only [List.mem_cons,List.not_mem_nil,or_false] at hi
   rcases hi with rfl | rfl
   ·refine ⟨_,rfl,fun K' hK=>?_⟩
    go_simp
    obtain ⟨K,ge_b0,at_b0,ge_d,at_d,ne_b0_d⟩:=HH.out
    refine hK.out _ _ (fun _ _=>⟨Nat.lt_of_lt_of_le bxl (K.alloc K.size _).size,Nat.lt_of_lt_of_le byl (K.alloc K.size _).size⟩) (⟨_,_,_,_,_,_,_,_,rfl,.inr (.inl (.inr (.inl (⟨b0,w1.heap.size,d,rfl,rfl,rfl,rfl,rfl,rfl,rfl,rfl,rfl,rfl,K.alloc K.size _,ge_b0,at_b0.below (Below.alloc_self' w1 _) (Nat.le_refl _),K.size,slot_new w1 _ _,ge_d,at_d.below (Below.alloc_self' w1 _) (Nat.le_refl _),(Nat.ne_of_lt at_b0.lt),ne_b0_d,(Nat.ne_of_gt at_d.lt)⟩))))⟩)
   ·refine ⟨_,rfl,fun K' hK=>?_⟩
    go_simp
    obtain ⟨K,ge_b0,at_b0,ge_d,at_d,ne_b0_d⟩:=HH.out
    refine (den_pos by' p q w1 (HY.out.below K).at' HY.out.pos).mono ?_
    rintro e w2 ⟨rfl,hw2⟩
    rw [hw2]
    clear hw2 w2
    refine hK.out _ _ (fun _ _=>⟨Nat.lt_of_lt_of_le bxl K.size,Nat.lt_of_lt_of_le byl K.size⟩) (⟨_,_,_,_,_,_,_,_,rfl,.inr (.inl (.inr (.inr (⟨b0,d,rfl,rfl,rfl,rfl,rfl,rfl,rfl,rfl,rfl,rfl,K,ge_b0,at_b0,ge_d,at_d,ne_b0_d⟩))))⟩)
  ·obtain ⟨b0,b1,d,rfl,rfl,rfl,rfl,rfl,rfl,rfl,rfl,rfl,rfl,HH⟩:=hI
   right
   refine ⟨3,[13],rfl,by kernel_rfl,by simp,fun i hi=>?_⟩
   simp only [List.mem_cons,List.not_mem_nil,or_false] at hi
   subst hi
   refine ⟨_,rfl,fun K' hK=>?_⟩
   go_simp
   obtain ⟨K,ge_b0,at_b0,ge_b1,at_b1,ge_d,at_d,ne_b0_b1,ne_b0_d,ne_b1_d⟩:=HH.out
   refine (den_pos by' p q w1 (HY.out.below K).at' HY.out.pos).mono ?_
   rintro e w2 ⟨rfl,hw2⟩
   rw [hw2]
   clear hw2 w2
   refine hK.out _ _ (fun _ _=>⟨Nat.lt_of_lt_of_le bxl K.size,Nat.lt_of_lt_of_le byl K.size⟩) (⟨_,_,_,_,_,_,_,_,rfl,.inr (.inr (.inl (.inl (⟨b0,b1,d,rfl,rfl,rfl,rfl,rfl,rfl,rfl,rfl,rfl,rfl,K,ge_b0,at_b0,ge_b1,at_b1,ge_d,at_d,ne_b0_b1,ne_b0_d,ne_b1_d⟩))))⟩)
  ·obtain ⟨b0,d,rfl,rfl,rfl,rfl,rfl,rfl,rfl,rfl,rfl,rfl,HH⟩:=hI
   right
   refine ⟨3,[9],rfl,by kernel_rfl,by simp,fun i hi=>?_⟩
   simp only [List.mem_cons,List.not_mem_nil,or_false] at hi
   subst hi
   refine ⟨_,rfl,fun K' hK=>?_⟩
   go_simp
   obtain ⟨K,ge_b0,at_b0,ge_d,at_d,ne_b0_d⟩:=HH.out
   refine hK.out _ _ (fun _ _=>⟨Nat.lt_of_lt_of_le bxl (K.alloc K.size _).size,Nat.lt_of_lt_of_le byl (K.alloc K.size _).size⟩) (⟨_,_,_,_,_,_,_,_,rfl,.inr (.inr (.inl (.inl (⟨b0,w1.heap.size,d,rfl,rfl,rfl,rfl,rfl,rfl,rfl,rfl,rfl,rfl,K.alloc K.size _,ge_b0,at_b0.below (Below.alloc_self' w1 _) (Nat.le_refl _),K.size,slot_new w1 _ _,ge_d,at_d.below (Below.alloc_self' w1 _) (Nat.le_refl _),(Nat.ne_of_lt at_b0.lt),ne_b0_d,(Nat.ne_of_gt at_d.lt)⟩))))⟩)
  ·obtain ⟨b0,b1,d,rfl,rfl,rfl,rfl,rfl,rfl,rfl,rfl,rfl,rfl,HH⟩:=hI
   right
   refine ⟨2,[14],rfl,by kernel_rfl,by simp,fun i hi=>?_⟩
   simp only [List.mem_cons,List.not_mem_nil,or_false] at hi
   subst hi
   refine ⟨_,rfl,fun K' hK=>?_⟩
   go_simp
   obtain ⟨K,ge_b0,at_b0,ge_b1,at_b1,ge_d,at_d,ne_b0_b1,ne_b0_d,ne_b1_d⟩:=HH.out
   refine (Mul_at 0 2 b1 d by' 1 q 1 m w1 at_b1 at_d.at (HY.out.below K).at'.den HB.out.2.2.2.1 HB.out.2.1 (by omega) (by have:=HB.out.2.2.2.2; omega)).mono ?_
   rintro e w2 ⟨rfl,h2,u2⟩
   refine hK.out _ _ (fun _ _=>⟨Nat.lt_of_lt_of_le bxl (K.trans (u2.below K.size ge_b1)).size,Nat.lt_of_lt_of_le byl (K.trans (u2.below K.size ge_b1)).size⟩) (⟨_,_,_,_,_,_,_,_,rfl,.inr (.inr (.inl (.inr (⟨b0,b1,d,rfl,rfl,rfl,rfl,rfl,rfl,rfl,rfl,rfl,rfl,(K.trans (u2.below K.size ge_b1)),ge_b0,at_b0.upd u2 at_b1 ne_b0_b1,ge_b1,h2,ge_d,at_d.upd u2 at_b1 (Ne.symm ne_b1_d),ne_b0_b1,ne_b0_d,ne_b1_d⟩))))⟩)
  ·obtain ⟨b0,b1,d,rfl,rfl,rfl,rfl,rfl,rfl,rfl,rfl,rfl,rfl,HH⟩:=hI
   right
   refine ⟨1,[15],rfl,by kernel_rfl,by simp,fun i hi=>?_⟩
   simp only [List.mem_cons,List.not_mem_nil,or_false] at hi
   subst hi
   refine ⟨_,rfl,fun K' hK=>?_⟩
   go_simp
   obtain ⟨K,ge_b0,at_b0,ge_b1,at_b1,ge_d,at_d,ne_b0_b1,ne_b0_d,ne_b1_d⟩:=HH.out
   refine (SetFrac_any bz b0 0 b1 0 (0 * p) (1 * q) (m + 1) w1 (HZ.out.below K) at_b0.at at_b1.at HN.out (by rw [Int.zero_mul]; exact pw_pos _) (by rw [Int.one_mul]; exact Nat.lt_of_lt_of_le HB.out.2.1 (pw_le (by omega))) (by have:=HB.out.2.2.2.2; omega)).mono ?_
   rintro e w2 ⟨rfl,A,B,r1,r2,r3,r4,u2⟩
   have E:Rt w2 bz 0 1∧Upd bz w w2:=⟨by obtain ⟨rfl,rfl⟩:=zero_low r1 r2 HN.out; exact r1,(Upd.of_below K).trans u2⟩
   have Z:w.heap.size≤w2.heap.size:=Nat.le_trans K.size u2.size
   refine hK.out _ _ (fun _ _=>⟨Nat.lt_of_lt_of_le bxl Z,Nat.lt_of_lt_of_le byl Z⟩) (⟨_,_,_,_,_,_,_,_,rfl,.inr (.inr (.inr (.inl (⟨b0,b1,d,rfl,rfl,rfl,rfl,rfl,rfl,rfl,rfl,rfl,rfl,Z,E⟩))))⟩)
  ·obtain ⟨b0,b1,d,rfl,rfl,rfl,rfl,rfl,rfl,rfl,rfl,rfl,rfl,HH⟩:=hI
   right
   refine ⟨0,[16],rfl,by kernel_rfl,by simp,fun i hi=>?_⟩
   simp only [List.mem_cons,List.not_mem_nil,or_false] at hi
   subst hi
   refine ⟨_,rfl,fun K' hK=>?_⟩
   go_simp
   obtain ⟨Z,E⟩:=HH.out
   refine hK.out _ _ (fun _ h=>absurd rfl h) (⟨_,_,_,_,_,_,_,_,rfl,.inr (.inr (.inr (.inr (⟨b0,b1,d,rfl,rfl,rfl,rfl,rfl,rfl,rfl,rfl,rfl,rfl,Z,E⟩))))⟩)
  ·obtain ⟨b0,b1,d,rfl,rfl,rfl,rfl,rfl,rfl,rfl,rfl,rfl,rfl,HH⟩:=hI
   obtain ⟨Z,E⟩:=HH.out
   left
   refine ⟨by kernel_rfl,?_⟩
   have HE:Hid (Rt w1 bz 0 1∧Upd bz w w1):=E
   clear HH E Z
   go_wp2
   go_ret
   exact ⟨rfl,HE.out⟩
end
end Go.Proofs.YtnkjadpmigpneaaGreatDoor
