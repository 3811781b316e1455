import Derived.Test.YtnkjadpmigpneaaGreatDoorRaK
import Derived.Test.YtnkjadpmigpneaaGreatDoorJsG
import Derived.Test.YtnkjadpmigpneaaGreatDoorJsW
import Derived.Test.YtnkjadpmigpneaaGreatDoorJsX
import Derived.Test.YtnkjadpmigpneaaGreatDoorRaU
import Derived.Test.YtnkjadpmigpneaaGreatDoorJsK
import Derived.Test.YtnkjadpmigpneaaGreatDoorJsV
import Derived.Test.YtnkjadpmigpneaaGreatDoorJsU
import Derived.Test.YtnkjadpmigpneaaGreatDoorJsJ
import Derived.Test.YtnkjadpmigpneaaGreatDoorJsC
set_option linter.unusedSimpArgs false
set_option linter.unusedVariables false
namespace Go.Proofs.YtnkjadpmigpneaaGreatDoor
section
set_option maxRecDepth 100000
open Go.RowKit
end
section
set_option maxRecDepth 100000
open Go.RowKit
theorem Rt.updR {w w':World} {b z:Nat} {P Q:Int} (h:Rt w b P Q) (u:Upd z w w') (hz:RSlot w z) (hne:b ≠ z):Rt w' b P Q:=by
 obtain ⟨⟨s,t,h1,h2,h3⟩,h4,h5⟩:=h
 obtain ⟨x0,x1,x2,x3,hc⟩:=hz
 exact ⟨⟨s,t,(u.block b h1.lt hne).trans h1,h2.updR u hc,h3.updR u hc⟩,h4,h5⟩
theorem RSlot.updR {w w':World} {b z:Nat} (h:RSlot w b) (u:Upd z w w') (hne:b ≠ z):RSlot w' b:=by
 obtain ⟨x0,x1,x2,x3,hc⟩:=h
 exact ⟨x0,x1,x2,x3,(u.block b hc.lt hne).trans hc⟩
structure Rk (w0 w:World) (B:Nat) (L:List (Nat × Int × Int)) (F:List Nat):Prop where
 bel:Below B w0 w
 le:B≤w.heap.size
 rat:∀ p ∈ L,Rt w p.1 p.2.1 p.2.2
 fr:∀ b ∈ F,RSlot w b
end
section
set_option maxRecDepth 100000
open Go.RowKit
set_option maxHeartbeats 2000000 in
theorem NewRat_small (n:Nat) (w:World) (h1:1≤n) (h2:n < 1000) :
  Calls Tryz.prog 17 #[.int .i64 n,.int .i64 1] w fun e w'=>∃ b,e = .returned (.pointer (some ⟨b,0,none⟩))∧w.heap.size≤b∧Rt w' b n 1∧Below w.heap.size w w':=by
 go_enter Tryz.func17,Tryz.ntmps17
 go_wp2_with fail
 have HR0:Hid (RSlot (w.alloc (.cells #[.bool false,.slice none 0 0,.bool false,.slice none 0 0] 39)) w.heap.size):=RSlot.new w _ _ _ _
 have K0:Below w.heap.size w (w.alloc (.cells #[.bool false,.slice none 0 0,.bool false,.slice none 0 0] 39)):=(Below.refl _ _).alloc (Nat.le_refl _) _
 refine (NewInt_any (n:Int) _ (by omega) (by omega)).mono ?_
 rintro e w1 ⟨b1,rfl,m1⟩
 have HR1:Hid (RSlot w1 w.heap.size∧BigAt w1 b1 n∧Below w.heap.size w w1):=⟨HR0.out.below m1.2.2,m1.2.1,K0.trans (m1.2.2.mono (by simp))⟩
 clear m1 HR0 K0
 go_wp2_with fail
 refine (NewInt_any 1 _ (by omega) (by omega)).mono ?_
 rintro e w2 ⟨b2,rfl,m2⟩
 have HR2:Hid (RSlot w2 w.heap.size∧BigAt w2 b1 n∧BigAt w2 b2 1∧Below w.heap.size w w2):=⟨HR1.out.1.below m2.2.2,HR1.out.2.1.below m2.2.2 (Nat.le_refl _),m2.2.1,HR1.out.2.2.trans (m2.2.2.mono HR1.out.2.2.size)⟩
 clear m2 HR1
 go_wp2_with fail
 refine (SetFrac_pos w.heap.size b1 0 b2 0 n 1 1 w2 HR2.out.1 HR2.out.2.1.at HR2.out.2.2.1.at (by decide) (by show (n:Int).natAbs < pw 1; rw [show pw 1 = 4294967296 from rfl]; omega) (by decide) (by decide)).mono ?_
 rintro e w3 ⟨rfl,P,Q,r1,r2,r3,r4,r5,r6,u3⟩
 have HE:Hid (Rt w3 w.heap.size n 1∧Below w.heap.size w w3):=by
  obtain ⟨e1,e2⟩:=low_uniq r2 (show (0:Int) < 1 by decide) r3 r4 (by simp)
  subst e1 e2
  exact ⟨⟨r1,r2,r4⟩,HR2.out.2.2.2.trans (u3.below HR2.out.2.2.2.size (Nat.le_refl _))⟩
 clear r1 r2 r3 r4 r5 r6 u3 HR2
 go_wp2
 go_ret
 exact ⟨w.heap.size,rfl,Nat.le_refl _,HE.out⟩
theorem Sign_at (bx:Nat) (x:Int) (w:World) (hx:IntAt w bx 0 x) :
  Calls Tryz.prog 39 #[.pointer (some ⟨bx,0,none⟩)] w fun e w'=>e = .returned (.int .i64 x.sign)∧w' = w:=by
 obtain ⟨xa,xl,xc,cx0,cx1,nx,hl⟩:=hx.open
 clear hx nx
 rcases Int.lt_trichotomy x 0 with h | h | h
 ·have h0:((xl:Int) == 0) = false:=beq_eq_false_iff_ne.2 (by omega)
  simp only [h,decide_true] at cx0
  clear hl
  go_enter Tryz.func39,Tryz.ntmps39
  go_wp2
  go_ret
  exact ⟨ret_int (Int.sign_eq_neg_one_of_neg h).symm,rfl⟩
 ·subst h
  have h0:((xl:Int) == 0) = true:=beq_iff_eq.2 (by omega)
  clear hl
  go_enter Tryz.func39,Tryz.ntmps39
  go_wp2
  go_ret
  exact ⟨ret_int rfl,rfl⟩
 ·have h0:((xl:Int) == 0) = false:=beq_eq_false_iff_ne.2 (by omega)
  have h1:¬ x < 0:=by omega
  simp only [h1,decide_false] at cx0
  clear hl
  go_enter Tryz.func39,Tryz.ntmps39
  go_wp2
  go_ret
  exact ⟨ret_int (Int.sign_eq_one_of_pos h).symm,rfl⟩
set_option maxHeartbeats 2000000 in
theorem RSign_any (b:Nat) (P Q:Int) (w:World) (hx:Rt w b P Q) :
  Calls Tryz.prog 13 #[.pointer (some ⟨b,0,none⟩)] w fun e w'=>e = .returned (.int .i64 P.sign)∧w' = w:=by
 have hl:=hx.at'.num.lt
 have HX:Hid (Rt w b P Q):=hx
 clear hx
 go_enter Tryz.func13,Tryz.ntmps13
 go_wp2_with fail
 refine (Sign_at b P w HX.out.at'.num).mono ?_
 rintro e w1 ⟨rfl,hw⟩
 rw [hw]
 clear hw w1
 go_wp2
 go_ret
 exact ⟨rfl,rfl⟩
end
section
set_option maxRecDepth 100000
open Go.RowKit
def Rv (w:World) (b:Nat) (v:Rat) (m:Nat):Prop:=∃ P Q:Int,Rt w b P Q∧(P:Rat) / (Q:Rat) = v∧P.natAbs < pw m∧Q.natAbs < pw m
theorem Rv.rslot {w:World} {b:Nat} {v:Rat} {m:Nat} (h:Rv w b v m):RSlot w b:=by obtain ⟨P,Q,h,_⟩:=h; exact h.at'.rslot
theorem Rv.lt {w:World} {b:Nat} {v:Rat} {m:Nat} (h:Rv w b v m):b < w.heap.size:=h.rslot.lt
theorem Rv.below {w w':World} {b:Nat} {v:Rat} {m:Nat} (h:Rv w b v m) (k:Below w.heap.size w w'):Rv w' b v m:=by
 obtain ⟨P,Q,h,r⟩:=h; exact ⟨P,Q,h.below k,r⟩
theorem Rv.updR {w w':World} {b z:Nat} {v:Rat} {m:Nat} (h:Rv w b v m) (u:Upd z w w') (hz:RSlot w z) (hne:b ≠ z):Rv w' b v m:=by
 obtain ⟨P,Q,h,r⟩:=h; exact ⟨P,Q,h.updR u hz hne,r⟩
theorem Rv.le {w:World} {b:Nat} {v:Rat} {m n:Nat} (h:Rv w b v m) (hm:m≤n):Rv w b v n:=by
 obtain ⟨P,Q,h,r1,r2,r3⟩:=h; exact ⟨P,Q,h,r1,Nat.lt_of_lt_of_le r2 (pw_le hm),Nat.lt_of_lt_of_le r3 (pw_le hm)⟩
theorem rcast {a b:Int} (h:a = b):(a:Rat) = (b:Rat):=by rw [h]
theorem rne {a:Int} (h:a ≠ 0):(a:Rat) ≠ 0:=fun e=>h (Rat.intCast_eq_zero_iff.1 e)
theorem rv_add {A B P Q p q:Int} (hB:0 < B) (hQ:0 < Q) (hq:0 < q) (h:A * (Q * q) = (P * q + p * Q) * B):(A:Rat) / B = (P:Rat) / Q + (p:Rat) / q:=by
 have h':=rcast h
 simp only [Rat.intCast_mul,Rat.intCast_add] at h'
 have:=rne (show B ≠ 0 by omega); have:=rne (show Q ≠ 0 by omega); have:=rne (show q ≠ 0 by omega)
 grind
theorem rv_mul {A B P Q p q:Int} (hB:0 < B) (hQ:0 < Q) (hq:0 < q) (h:A * (Q * q) = (P * p) * B):(A:Rat) / B = (P:Rat) / Q * ((p:Rat) / q):=by
 have h':=rcast h
 simp only [Rat.intCast_mul] at h'
 have:=rne (show B ≠ 0 by omega); have:=rne (show Q ≠ 0 by omega); have:=rne (show q ≠ 0 by omega)
 grind
theorem rv_quo {A B P Q p q:Int} (hB:0 < B) (hQ:0 < Q) (hq:0 < q) (hp:p ≠ 0) (h:A * (Q * p) = (P * q) * B):(A:Rat) / B = (P:Rat) / Q / ((p:Rat) / q):=by
 have h':=rcast h
 simp only [Rat.intCast_mul] at h'
 have:=rne (show B ≠ 0 by omega); have:=rne (show Q ≠ 0 by omega); have:=rne (show q ≠ 0 by omega); have:=rne hp
 grind
theorem rq_zero {p q:Int} (hq:0 < q):(p:Rat) / q = 0 ↔ p = 0:=by
 have h1:=rne (show q ≠ 0 by omega)
 constructor
 ·intro h
  have:(p:Rat) = 0:=by grind
  exact Rat.intCast_eq_zero_iff.1 this
 ·intro h; subst h; grind
theorem rv_eq {P Q p q:Int} (hQ:0 < Q) (hq:0 < q):(P:Rat) / Q = (p:Rat) / q ↔ P * q = p * Q:=by
 have h1:=rne (show q ≠ 0 by omega); have h2:=rne (show Q ≠ 0 by omega)
 constructor
 ·intro h
  have:(P:Rat) * q = p * Q:=by grind
  rw [← Rat.intCast_mul,← Rat.intCast_mul] at this
  exact Rat.intCast_inj.1 this
 ·intro h
  have h':=rcast h
  simp only [Rat.intCast_mul] at h'
  grind
theorem RMulV (bz bx by':Nat) (u v:Rat) (m:Nat) (w:World) (hz:RSlot w bz) (hx:Rv w bx u m) (hy:Rv w by' v m) (hm:m≤40000000) :
  Calls Tryz.prog 41 #[.pointer (some ⟨bz,0,none⟩),.pointer (some ⟨bx,0,none⟩),.pointer (some ⟨by',0,none⟩)] w fun e w'=>e = .returned (.pointer (some ⟨bz,0,none⟩))∧Rv w' bz (u * v) (m + m)∧Upd bz w w':=by
 obtain ⟨P,Q,x1,x2,x3,x4⟩:=hx
 obtain ⟨p,q,y1,y2,y3,y4⟩:=hy
 refine (RMul_any bz bx by' P Q p q m w hz x1 y1 ⟨x3,x4,y3,y4,hm⟩).mono ?_
 rintro e w' ⟨rfl,A,B,r1,r2,r3,r4,r5⟩
 refine ⟨rfl,⟨A,B,r1,?_,Nat.lt_of_le_of_lt r3 (mul_pw x3 y3),Nat.lt_of_le_of_lt r4 (mul_pw x4 y4)⟩,r5⟩
 rw [rv_mul r1.pos x1.pos y1.pos r2,x2,y2]
theorem RAddV (bz bx by':Nat) (u v:Rat) (m:Nat) (w:World) (hz:RSlot w bz) (hx:Rv w bx u m) (hy:Rv w by' v m) (hm:m≤40000000) :
  Calls Tryz.prog 16 #[.pointer (some ⟨bz,0,none⟩),.pointer (some ⟨bx,0,none⟩),.pointer (some ⟨by',0,none⟩)] w fun e w'=>e = .returned (.pointer (some ⟨bz,0,none⟩))∧Rv w' bz (u + v) (m + m + 1)∧Upd bz w w':=by
 obtain ⟨P,Q,x1,x2,x3,x4⟩:=hx
 obtain ⟨p,q,y1,y2,y3,y4⟩:=hy
 refine (RAdd_any bz bx by' P Q p q m w hz x1 y1 ⟨x3,x4,y3,y4,hm⟩).mono ?_
 rintro e w' ⟨rfl,A,B,r1,r2,r3,r4,r5⟩
 refine ⟨rfl,⟨A,B,r1,?_,Nat.lt_of_le_of_lt r3 (add_pw (mul_pw x3 y4) (mul_pw y3 x4)),Nat.lt_of_le_of_lt r4 (Nat.lt_of_lt_of_le (mul_pw x4 y4) (pw_le (by omega)))⟩,r5⟩
 rw [rv_add r1.pos x1.pos y1.pos r2,x2,y2]
theorem RQuoV (bz bx by':Nat) (u v:Rat) (m:Nat) (w:World) (hz:RSlot w bz) (hx:Rv w bx u m) (hy:Rv w by' v m) (hm:m≤40000000) (hv:v ≠ 0) :
  Calls Tryz.prog 44 #[.pointer (some ⟨bz,0,none⟩),.pointer (some ⟨bx,0,none⟩),.pointer (some ⟨by',0,none⟩)] w fun e w'=>e = .returned (.pointer (some ⟨bz,0,none⟩))∧Rv w' bz (u / v) (m + m)∧Upd bz w w':=by
 obtain ⟨P,Q,x1,x2,x3,x4⟩:=hx
 obtain ⟨p,q,y1,y2,y3,y4⟩:=hy
 have hp:p ≠ 0:=fun e=>hv (by rw [← y2]; exact (rq_zero y1.pos).2 e)
 refine (RQuo_any bz bx by' P Q p q m w hz x1 y1 ⟨x3,x4,y3,y4,hm⟩ hp).mono ?_
 rintro e w' ⟨rfl,A,B,r1,r2,r3,r4,r5⟩
 refine ⟨rfl,⟨A,B,r1,?_,Nat.lt_of_le_of_lt r3 (mul_pw x3 y4),Nat.lt_of_le_of_lt r4 (mul_pw x4 y3)⟩,r5⟩
 rw [rv_quo r1.pos x1.pos y1.pos hp r2,x2,y2]
theorem RSignV (b:Nat) (v:Rat) (m:Nat) (w:World) (hx:Rv w b v m) :
  Calls Tryz.prog 13 #[.pointer (some ⟨b,0,none⟩)] w fun e w'=>(∃ c:Int,e = .returned (.int .i64 c)∧(c = 0 ↔ v = 0))∧w' = w:=by
 obtain ⟨P,Q,x1,x2,x3,x4⟩:=hx
 refine (RSign_any b P Q w x1).mono ?_
 rintro e w' ⟨rfl,k⟩
 refine ⟨⟨_,rfl,?_⟩,k⟩
 rw [← x2,rq_zero x1.pos]
 exact Int.sign_eq_zero_iff_zero
theorem NewRatV (n:Nat) (w:World) (h1:1≤n) (h2:n < 1000) :
  Calls Tryz.prog 17 #[.int .i64 n,.int .i64 1] w fun e w'=>∃ b,e = .returned (.pointer (some ⟨b,0,none⟩))∧w.heap.size≤b∧Rv w' b (n:Rat) 2∧Below w.heap.size w w':=by
 refine (NewRat_small n w h1 h2).mono ?_
 rintro e w' ⟨b,rfl,hb,r,k⟩
 refine ⟨b,rfl,hb,⟨n,1,r,?_,?_,by decide⟩,k⟩
 ·have:((n:Int):Rat) = (n:Rat):=rfl
  rw [this]; grind
 ·show (n:Int).natAbs < pw 2
  rw [show pw 2 = 4294967296 * 4294967296 from rfl]; omega
end
section
set_option maxRecDepth 100000
open Go.RowKit
set_option maxHeartbeats 1000000 in
theorem RSet_any (bz b:Nat) (p q:Int) (m:Nat) (w:World) (hz:RSlot w bz) (hx:Rt w b p q) (hp1:p.natAbs < pw m) (hq1:q.natAbs < pw m) (hm':m≤100000000) :
  Calls Tryz.prog 14 #[.pointer (some ⟨bz,0,none⟩),.pointer (some ⟨b,0,none⟩)] w fun e w'=>e = .returned (.pointer (some ⟨bz,0,none⟩))∧Rt w' bz p q∧Upd bz w w':=by
 have HX:Hid (Rt w b p q):=hx
 have HC:Hid (Calls Tryz.prog 40 #[.pointer (some ⟨bz,0,none⟩),.pointer (some ⟨b,0,none⟩),.pointer (some ⟨b,2,none⟩)] w.drew fun e w'=>e = .returned (.pointer (some ⟨bz,0,none⟩))∧∃ P Q:Int,RatAt w' bz P Q∧0 < Q∧P * q = p * Q∧Nat.gcd P.natAbs Q.natAbs = 1∧P.natAbs≤p.natAbs∧Q.natAbs≤q.natAbs∧Upd bz w.drew w'):=SetFrac_pos bz b 0 b 2 p q m w.drew (hz.below (Below.refl _ _).drew) (hx.at'.below (Below.refl _ _).drew).num (hx.at'.below (Below.refl _ _).drew).den hx.pos hp1 hq1 hm'
 have hb:=hx.at'.num.lt
 have HDn2:Hid (Calls Tryz.prog 46 #[.pointer (some ⟨b,0,none⟩)] w.drew fun e w'=>e = .returned (.pointer (some ⟨b,2,none⟩))∧w' = w.drew):=den_pos b p q w.drew (hx.at'.below (Below.refl _ _).drew) hx.pos
 clear hz hx hp1 hq1
 go_enter Tryz.func14,Tryz.ntmps14
 go_wp2_with fail
 refine wp_region_G (fun w'=>b < w'.heap.size) 7 (by kernel_rfl) (by simpa using hb) (fun hHeld=>?_)
 refine wpAnyG_take (i:=0) (v:=?v0x1) rfl (by kernel_rfl) (fun _ _ _ h=>h) (Or.inl ⟨by rfl,?y0x1⟩) hHeld ?r0x1
 case y0x1=>(intro wS hSw; obtain s1:=hSw; go_simp; try with_reducible rfl)
 try simp only [Act.put,List.setIfInBounds_toArray,List.set_cons_zero,List.set_cons_succ]
 refine wpAnyG_take (i:=1) (v:=?v1x2) rfl (by kernel_rfl) (fun _ _ _ h=>h) (Or.inl ⟨by rfl,?y1x2⟩) hHeld ?r1x2
 case y1x2=>(intro wS hSw; obtain s1:=hSw; go_simp; try with_reducible rfl)
 try simp only [Act.put,List.setIfInBounds_toArray,List.set_cons_zero,List.set_cons_succ]
 refine wpAnyG_take (i:=2) (v:=?v2x3) rfl (by kernel_rfl) (fun _ _ _ h=>h) (Or.inl ⟨by rfl,?y2x3⟩) hHeld ?r2x3
 case y2x3=>(intro wS hSw; obtain s1:=hSw; go_simp; try with_reducible rfl)
 try simp only [Act.put,List.setIfInBounds_toArray,List.set_cons_zero,List.set_cons_succ]
 refine wpAnyG_take (i:=3) (v:=?v3x4) rfl (by kernel_rfl) (fun _ _ _ h=>h) (Or.inl ⟨by rfl,?y3x4⟩) hHeld ?r3x4
 case y3x4=>(intro wS hSw; obtain s1:=hSw; go_simp; try with_reducible rfl)
 try simp only [Act.put,List.setIfInBounds_toArray,List.set_cons_zero,List.set_cons_succ]
 refine wpAnyG_take (i:=4) (v:=?v4x5) rfl (by kernel_rfl) (fun _ _ _ h=>h) (Or.inl ⟨by rfl,?y4x5⟩) hHeld ?r4x5
 case y4x5=>(intro wS hSw; obtain s1:=hSw; go_simp; try with_reducible rfl)
 try simp only [Act.put,List.setIfInBounds_toArray,List.set_cons_zero,List.set_cons_succ]
 refine wpAnyG_one (i:=5) rfl (by kernel_rfl) (fun K hK=>?_)
 go_simp
 refine HDn2.out.mono ?_
 rintro e w1 ⟨rfl,hw1⟩
 rw [hw1]
 clear hw1 w1
 refine hK.out _ _ hHeld ?_
 clear hK K
 try simp only [Act.put,List.setIfInBounds_toArray,List.set_cons_zero,List.set_cons_succ]
 refine wpAnyG_one (i:=6) rfl (by kernel_rfl) (fun K hK=>?_)
 go_simp
 refine HC.out.mono ?_
 rintro e w2 ⟨rfl,P,Q,h1,h2,h3,h4,_,_,u2⟩
 have HE:Hid (Rt w2 bz p q∧Upd bz w w2):=by
  obtain ⟨rfl,rfl⟩:=low_uniq (p:=p) (q:=q) h2 HX.out.pos h3 h4 HX.out.low
  exact ⟨⟨h1,HX.out.pos,h4⟩,⟨u2.os,u2.tape,u2.output,u2.size,u2.block⟩⟩
 have hb2:b < w2.heap.size:=Nat.lt_of_lt_of_le hb (by have:=u2.size; simpa using this)
 clear h1 h2 h3 h4 u2 hHeld
 have hHeld:=hb2
 refine hK.out _ _ hHeld ?_
 clear hK K
 try simp only [Act.put,List.setIfInBounds_toArray,List.set_cons_zero,List.set_cons_succ]
 refine wpAnyG_last (i:=7) rfl (by kernel_rfl) (by kernel_rfl) (fun K hK=>?_)
 go_simp
 refine hK.out _ _ ?_
 clear hK K
 try simp only [Act.put,List.setIfInBounds_toArray,List.set_cons_zero,List.set_cons_succ]
 refine wpAnyG_done (by kernel_rfl) ?_ _
 go_wp2
 go_ret
 exact ⟨rfl,HE.out.1,HE.out.2⟩
end
section
set_option maxRecDepth 100000
open Go.RowKit LgM
set_option maxHeartbeats 1000000 in
theorem RIsInt_any (b:Nat) (P Q:Int) (m:Nat) (w:World) (hx:Rt w b P Q) (hm:Q.natAbs < pw m) (hm1:1≤m) (hm':m≤40000000) :
  Calls Tryz.prog 18 #[.pointer (some ⟨b,0,none⟩)] w fun e w'=>e = .returned (.bool (decide (Q = 1)))∧Below w.heap.size w w':=by
 have HX:Hid (Rt w b P Q):=hx
 clear hx
 go_enter Tryz.func18,Tryz.ntmps18
 go_wp2_with fail
 refine (den_pos b P Q w HX.out.at' HX.out.pos).mono ?_
 rintro e w1 ⟨rfl,hw⟩
 subst hw
 go_wp2_with fail
 refine (NewInt_any 1 w1 (by omega) (by omega)).mono ?_
 rintro e w2 ⟨c,rfl,m2⟩
 have H2:Hid (IntAt w2 b 2 Q∧BigAt w2 c 1∧Below w1.heap.size w1 w2):=⟨(HX.out.below m2.2.2).at'.den,m2.2.1,m2.2.2⟩
 clear m2
 go_wp2_with fail
 refine (Cmp_at 2 0 b c Q 1 m 1 w2 H2.out.1 H2.out.2.1.at hm (by decide) (by omega) (by omega)).mono ?_
 rintro e w3 ⟨rfl,q,rfl⟩
 have hb:(cmpZ Q 1 == 0) = decide (Q = 1):=by
  by_cases h:Q = 1
  ·rw [decide_eq_true h,h]; rfl
  ·rw [decide_eq_false h]; exact beq_eq_false_iff_ne.2 (fun e=>h (cmpZ_zero.1 e))
 have HB:Hid ((cmpZ Q 1 == 0) = decide (Q = 1)):=hb
 have HK:Hid (Below w1.heap.size w1 (w2.drewN q)):=below_drewN' H2.out.2.2
 clear hb H2 HX
 go_wp2
 go_ret
 exact ⟨by rw [← HB.out]; rfl,HK.out⟩
def rtx (P Q:Int):List UInt8:=if Q = 1 then decZ P else decZ P ++ 47 :: decZ Q
theorem str_app (a b:List UInt8):(⟨a.toArray⟩:ByteArray) ++ ⟨b.toArray⟩ = ⟨(a ++ b).toArray⟩:=by
 apply ByteArray.ext
 simp
theorem decZ_len {P:Int} {m:Nat} (hp:P.natAbs < pw m) (hm:1≤m):(decZ P).length≤10 * m + 1:=by
 have h:=dec_pw hp hm
 by_cases h0:P < 0
 ·rw [decZ_neg h0]; simp; omega
 ·rw [decZ_pos h0]; omega
set_option maxHeartbeats 2000000 in
theorem RString_any (b:Nat) (P Q:Int) (m:Nat) (w:World) (hx:Rt w b P Q) (hp:P.natAbs < pw m) (hq:Q.natAbs < pw m) (hm1:1≤m) (hm':m≤1000000) :
  Calls Tryz.prog 45 #[.pointer (some ⟨b,0,none⟩)] w fun e w'=>e = .returned (.string ⟨(decZ P ++ 47 :: decZ Q).toArray⟩)∧Below w.heap.size w w':=by
 have HX:Hid (Rt w b P Q):=hx
 have hb:=hx.at'.rslot.lt
 obtain ⟨SP,hSP⟩:∃ S:ByteArray,S = ⟨(decZ P).toArray⟩:=⟨_,rfl⟩
 obtain ⟨SQ,hSQ⟩:∃ S:ByteArray,S = ⟨(decZ Q).toArray⟩:=⟨_,rfl⟩
 have HS:Hid (SP = ⟨(decZ P).toArray⟩∧SQ = ⟨(decZ Q).toArray⟩):=⟨hSP,hSQ⟩
 obtain ⟨S1,hS1⟩:∃ S:ByteArray,S = SP ++ ⟨#[47]⟩:=⟨_,rfl⟩
 obtain ⟨S2,hS2⟩:∃ S:ByteArray,S = S1 ++ SQ:=⟨_,rfl⟩
 have l1:=decZ_len hp hm1
 have l2:=decZ_len hq hm1
 have z1:SP.size≤10 * m + 1:=by rw [hSP]; exact l1
 have z2:SQ.size≤10 * m + 1:=by rw [hSQ]; exact l2
 have z3:S1.size≤10 * m + 2:=by
  rw [hS1,ByteArray.size_append]
  have:(⟨#[47]⟩:ByteArray).size = 1:=rfl
  omega
 have hadd1:∀ w:World,(Op.stringOp .add SP ⟨#[47]⟩).run Tryz.prog w = .ok (.string S1) w:=fun w=>by
  rw [hS1]
  refine run_string_add_sum w _ _ ?_
  have:(⟨#[47]⟩:ByteArray).size = 1:=rfl
  omega
 have hadd2:∀ w:World,(Op.stringOp .add S1 SQ).run Tryz.prog w = .ok (.string S2) w:=fun w=>by
  rw [hS2]
  exact run_string_add_sum w _ _ (by omega)
 have HS2:Hid (S1 = SP ++ ⟨#[47]⟩∧S2 = S1 ++ SQ):=⟨hS1,hS2⟩
 clear hx hSP hSQ hS1 hS2 l1 l2 z1 z2 z3
 go_enter Tryz.func45,Tryz.ntmps45
 go_wp2_with fail
 have h1:=IString_at 0 b P m w HX.out.at'.num hp hm1 (by omega)
 rw [← HS.out.1] at h1
 refine h1.mono ?_
 rintro e w1 ⟨rfl,k1⟩
 have H1:Hid (Rt w1 b P Q∧Below w.heap.size w w1):=⟨HX.out.below k1,k1⟩
 clear h1 k1 HX
 go_wp2_with fail
 refine (den_pos b P Q w1 H1.out.1.at' H1.out.1.pos).mono ?_
 rintro e w2 ⟨rfl,hw⟩
 subst hw
 go_wp2_with fail
 have h2:=IString_at 2 b Q m w2 H1.out.1.at'.den hq hm1 (by omega)
 rw [← HS.out.2] at h2
 refine h2.mono ?_
 rintro e w3 ⟨rfl,k3⟩
 have H3:Hid (Below w.heap.size w w3):=H1.out.2.trans (k3.mono H1.out.2.size)
 clear h2 k3 H1
 go_wp2
 go_ret
 refine ⟨?_,H3.out⟩
 have e:S2 = ⟨(decZ P ++ 47 :: decZ Q).toArray⟩:=by
  rw [HS2.out.2,HS2.out.1,HS.out.1,HS.out.2,show (⟨#[47]⟩:ByteArray) = ⟨[47].toArray⟩ from rfl,str_app,str_app,List.append_assoc]; rfl
 rw [← e]
 rfl
set_option maxHeartbeats 1000000 in
theorem RatString_any (b:Nat) (P Q:Int) (m:Nat) (w:World) (hx:Rt w b P Q) (hp:P.natAbs < pw m) (hq:Q.natAbs < pw m) (hm1:1≤m) (hm':m≤1000000) :
  Calls Tryz.prog 12 #[.pointer (some ⟨b,0,none⟩)] w fun e w'=>e = .returned (.string ⟨(rtx P Q).toArray⟩)∧Below w.heap.size w w':=by
 have HX:Hid (Rt w b P Q):=hx
 have hb:=hx.at'.rslot.lt
 clear hx
 go_enter Tryz.func12,Tryz.ntmps12
 go_wp2_with fail
 refine (RIsInt_any b P Q m w HX.out hq hm1 (by omega)).mono ?_
 rintro e w1 ⟨rfl,k1⟩
 have H1:Hid (Rt w1 b P Q∧Below w.heap.size w w1):=⟨HX.out.below k1,k1⟩
 have hb1:=Nat.lt_of_lt_of_le hb k1.size
 clear k1 HX
 by_cases h:Q = 1
 ·have d:decide (Q = 1) = true:=decide_eq_true h
  rw [d]
  go_wp2_with fail
  have h1:=IString_at 0 b P m w1 H1.out.1.at'.num hp hm1 (by omega)
  refine h1.mono ?_
  rintro e w2 ⟨rfl,k2⟩
  have H2:Hid (Below w.heap.size w w2):=H1.out.2.trans (k2.mono H1.out.2.size)
  clear h1 k2 H1
  go_wp2
  go_ret
  exact ⟨by rw [show rtx P Q = decZ P by unfold rtx; rw [if_pos h]]; rfl,H2.out⟩
 ·have d:decide (Q = 1) = false:=decide_eq_false h
  rw [d]
  go_wp2_with fail
  have h1:=RString_any b P Q m w1 H1.out.1 hp hq hm1 hm'
  refine h1.mono ?_
  rintro e w2 ⟨rfl,k2⟩
  have H2:Hid (Below w.heap.size w w2):=H1.out.2.trans (k2.mono H1.out.2.size)
  clear h1 k2 H1
  go_wp2
  go_ret
  exact ⟨by rw [show rtx P Q = decZ P ++ 47 :: decZ Q by unfold rtx; rw [if_neg h]]; rfl,H2.out⟩
end
section
set_option maxRecDepth 100000
open Go.RowKit LgM
set_option maxHeartbeats 1000000 in
theorem RNeg_same (b:Nat) (p q:Int) (m:Nat) (w:World) (hx:Rt w b p q) (hp1:p.natAbs < pw m) (hq1:q.natAbs < pw m) (hm':m≤100000000) :
  Calls Tryz.prog 43 #[.pointer (some ⟨b,0,none⟩),.pointer (some ⟨b,0,none⟩)] w fun e w'=>e = .returned (.pointer (some ⟨b,0,none⟩))∧Rt w' b (-p) q∧Upd b w w':=by
 have HS:Hid (Calls Tryz.prog 14 #[.pointer (some ⟨b,0,none⟩),.pointer (some ⟨b,0,none⟩)] w fun e w'=>e = .returned (.pointer (some ⟨b,0,none⟩))∧Rt w' b p q∧Upd b w w'):=RSet_any b b p q m w hx.at'.rslot hx hp1 hq1 hm'
 have HP1:Hid (p.natAbs < pw m):=hp1
 clear hx hp1 hq1
 go_enter Tryz.func43,Tryz.ntmps43
 go_wp2_with fail
 refine HS.out.mono ?_
 rintro e w1 ⟨rfl,r1,u1⟩
 have hb:=r1.at'.num.lt
 have HR1:Hid (Rt w1 b p q):=r1
 have HU1:Hid (Upd b w w1):=u1
 clear r1 u1
 go_wp2_with fail
 refine wp_region_G (fun w'=>b < w'.heap.size) 6 (by kernel_rfl) (by simpa using hb) (fun hHeld=>?_)
 refine wpAnyG_take (i:=0) (v:=?v0) rfl (by kernel_rfl) (fun _ _ _ h=>h) (Or.inl ⟨by rfl,?y0⟩) hHeld ?r0
 case y0=>(intro wS hSw; obtain s1:=hSw; go_simp; try with_reducible rfl)
 try simp only [Act.put,List.setIfInBounds_toArray,List.set_cons_zero,List.set_cons_succ]
 refine wpAnyG_take (i:=1) (v:=?v1) rfl (by kernel_rfl) (fun _ _ _ h=>h) (Or.inl ⟨by rfl,?y1⟩) hHeld ?r1
 case y1=>(intro wS hSw; obtain s1:=hSw; go_simp; try with_reducible rfl)
 try simp only [Act.put,List.setIfInBounds_toArray,List.set_cons_zero,List.set_cons_succ]
 refine wpAnyG_take (i:=2) (v:=?v2) rfl (by kernel_rfl) (fun _ _ _ h=>h) (Or.inl ⟨by rfl,?y2⟩) hHeld ?r2
 case y2=>(intro wS hSw; obtain s1:=hSw; go_simp; try with_reducible rfl)
 try simp only [Act.put,List.setIfInBounds_toArray,List.set_cons_zero,List.set_cons_succ]
 refine wpAnyG_take (i:=3) (v:=?v3) rfl (by kernel_rfl) (fun _ _ _ h=>h) (Or.inl ⟨by rfl,?y3⟩) hHeld ?r3
 case y3=>(intro wS hSw; obtain s1:=hSw; go_simp; try with_reducible rfl)
 try simp only [Act.put,List.setIfInBounds_toArray,List.set_cons_zero,List.set_cons_succ]
 refine wpAnyG_take (i:=4) (v:=?v4) rfl (by kernel_rfl) (fun _ _ _ h=>h) (Or.inl ⟨by rfl,?y4⟩) hHeld ?r4
 case y4=>(intro wS hSw; obtain s1:=hSw; go_simp; try with_reducible rfl)
 try simp only [Act.put,List.setIfInBounds_toArray,List.set_cons_zero,List.set_cons_succ]
 refine wpAnyG_take (i:=5) (v:=?v5) rfl (by kernel_rfl) (fun _ _ _ h=>h) (Or.inl ⟨by rfl,?y5⟩) hHeld ?r5
 case y5=>(intro wS hSw; obtain s1:=hSw; go_simp; try with_reducible rfl)
 try simp only [Act.put,List.setIfInBounds_toArray,List.set_cons_zero,List.set_cons_succ]
 refine wpAnyG_last (i:=6) rfl (by kernel_rfl) (by kernel_rfl) (fun K hK=>?_)
 go_simp
 refine (Neg_num b p q m _ (HR1.out.below (Below.refl _ _).drew).at' HP1.out hm').mono ?_
 rintro e w2 ⟨rfl,r2,u2⟩
 have HE:Hid (Rt w2 b (-p) q∧Upd b w w2):=⟨⟨r2,HR1.out.pos,by rw [Int.natAbs_neg]; exact HR1.out.low⟩,HU1.out.trans ((Upd.refl b w1).drew.trans u2)⟩
 clear r2 u2
 refine hK.out _ _ ?_
 clear hK K
 try simp only [Act.put,List.setIfInBounds_toArray,List.set_cons_zero,List.set_cons_succ]
 refine wpAnyG_done (by kernel_rfl) ?_ _
 clear hHeld
 go_wp2
 go_ret
 exact ⟨rfl,HE.out.1,HE.out.2⟩
theorem RNegV (b:Nat) (v:Rat) (m:Nat) (w:World) (hx:Rv w b v m) (hm:m≤40000000) :
  Calls Tryz.prog 43 #[.pointer (some ⟨b,0,none⟩),.pointer (some ⟨b,0,none⟩)] w fun e w'=>e = .returned (.pointer (some ⟨b,0,none⟩))∧Rv w' b (-v) m∧Upd b w w':=by
 obtain ⟨P,Q,x1,x2,x3,x4⟩:=hx
 refine (RNeg_same b P Q m w x1 x3 x4 (by omega)).mono ?_
 rintro e w' ⟨rfl,r,u⟩
 refine ⟨rfl,⟨-P,Q,r,?_,by rw [Int.natAbs_neg]; exact x3,x4⟩,u⟩
 rw [← x2,Rat.intCast_neg]
 grind
theorem SetIntW (bz ba:Nat) (x:Int) (m:Nat) (w:World) (hz:RSlot w bz) (hx:BigAt w ba x) (h1:x.natAbs < pw m) (hm:1≤m) (hm':m≤40000000) :
  Calls Tryz.prog 22 #[.pointer (some ⟨bz,0,none⟩),.pointer (some ⟨ba,0,none⟩)] w fun e w'=>e = .returned (.pointer (some ⟨bz,0,none⟩))∧Rv w' bz (x:Rat) m∧Upd bz w w':=by
 refine (SetInt_any bz ba 0 x m w hz hx.at h1 hm (by omega)).mono ?_
 rintro e w' ⟨rfl,r,k⟩
 refine ⟨rfl,⟨x,1,r,?_,h1,?_⟩,k⟩
 ·grind
 ·exact Nat.lt_of_lt_of_le (show (1:Int).natAbs < pw 1 by decide) (pw_le hm)
theorem frac_val (v:Rat):((v.num:Int):Rat) / ((v.den:Int):Rat) = v:=by
 rw [← Rat.divInt_eq_div]
 exact Rat.num_divInt_den v
theorem rt_own {w:World} {b:Nat} {P Q:Int} {v:Rat} (h:Rt w b P Q) (hv:(P:Rat) / (Q:Rat) = v):P = v.num∧Q = (v.den:Int):=by
 have hd:(0:Int) < (v.den:Int):=by have:=v.den_pos; omega
 have e:=(rv_eq h.pos hd).1 (hv.trans (frac_val v).symm)
 exact low_uniq h.pos hd e h.low (by rw [Int.natAbs_natCast]; exact v.reduced)
theorem val_le {v:Rat} {N D:Int} (hD:0 < D) (h:(N:Rat) / (D:Rat) = v):v.num.natAbs≤N.natAbs∧v.den≤D.natAbs:=by
 have hd:(0:Int) < (v.den:Int):=by have:=v.den_pos; omega
 have e:=(rv_eq hD hd).1 (h.trans (frac_val v).symm)
 have e2:N.natAbs * v.den = v.num.natAbs * D.natAbs:=by
  have:=congrArg Int.natAbs e
  rwa [Int.natAbs_mul,Int.natAbs_mul,Int.natAbs_natCast] at this
 have hDn:0 < D.natAbs:=by omega
 have c1:v.den ∣ D.natAbs:=by
  have:v.den ∣ v.num.natAbs * D.natAbs:=⟨N.natAbs,by rw [← e2,Nat.mul_comm]⟩
  exact (Nat.Coprime.symm v.reduced).dvd_of_dvd_mul_left this
 have c2:v.num.natAbs ∣ N.natAbs:=by
  have:v.num.natAbs ∣ N.natAbs * v.den:=⟨D.natAbs,e2⟩
  exact Nat.Coprime.dvd_of_dvd_mul_right v.reduced this
 refine ⟨?_,Nat.le_of_dvd hDn c1⟩
 rcases Nat.eq_zero_or_pos N.natAbs with h0 | h0
 ·rw [h0,Nat.zero_mul] at e2
  have:v.num.natAbs = 0:=by
   rcases Nat.mul_eq_zero.1 e2.symm with h | h
   ·exact h
   ·omega
  omega
 ·exact Nat.le_of_dvd h0 c2
theorem Rv.low {w:World} {b:Nat} {v:Rat} {m k:Nat} (h:Rv w b v m) {N D:Int} (hD:0 < D) (hv:(N:Rat) / (D:Rat) = v) (h1:N.natAbs < pw k) (h2:D.natAbs < pw k):Rv w b v k:=by
 obtain ⟨P,Q,x1,x2,x3,x4⟩:=h
 obtain ⟨e1,e2⟩:=rt_own x1 x2
 obtain ⟨c1,c2⟩:=val_le hD hv
 refine ⟨P,Q,x1,x2,?_,?_⟩
 ·rw [e1]; omega
 ·rw [e2,Int.natAbs_natCast]; omega
def vtx (v:Rat):List UInt8:=rtx v.num (v.den:Int)
theorem RatStringV (b:Nat) (v:Rat) (m:Nat) (w:World) (hx:Rv w b v m) (hm1:1≤m) (hm':m≤1000000) :
  Calls Tryz.prog 12 #[.pointer (some ⟨b,0,none⟩)] w fun e w'=>e = .returned (.string ⟨(vtx v).toArray⟩)∧Below w.heap.size w w':=by
 obtain ⟨P,Q,x1,x2,x3,x4⟩:=hx
 obtain ⟨e1,e2⟩:=rt_own x1 x2
 have h:=RatString_any b P Q m w x1 x3 x4 hm1 hm'
 rw [e1,e2] at h
 exact h
theorem IsIntV (b:Nat) (v:Rat) (m:Nat) (w:World) (hx:Rv w b v m) (hm1:1≤m) (hm':m≤1000000) :
  Calls Tryz.prog 18 #[.pointer (some ⟨b,0,none⟩)] w fun e w'=>e = .returned (.bool (decide (v.den = 1)))∧Below w.heap.size w w':=by
 obtain ⟨P,Q,x1,x2,x3,x4⟩:=hx
 obtain ⟨e1,e2⟩:=rt_own x1 x2
 have h:=RIsInt_any b P Q m w x1 x4 hm1 (by omega)
 rw [e2,show decide ((v.den:Int) = 1) = decide (v.den = 1) by
  by_cases h:v.den = 1
  ·rw [decide_eq_true h,decide_eq_true (by omega)]
  ·rw [decide_eq_false h,decide_eq_false (by omega)]] at h
 exact h
theorem SetV (bz b:Nat) (v:Rat) (m:Nat) (w:World) (hz:RSlot w bz) (hx:Rv w b v m) (hm:m≤40000000) :
  Calls Tryz.prog 14 #[.pointer (some ⟨bz,0,none⟩),.pointer (some ⟨b,0,none⟩)] w fun e w'=>e = .returned (.pointer (some ⟨bz,0,none⟩))∧Rv w' bz v m∧Upd bz w w':=by
 obtain ⟨P,Q,x1,x2,x3,x4⟩:=hx
 refine (RSet_any bz b P Q m w hz x1 x3 x4 (by omega)).mono ?_
 rintro e w' ⟨rfl,r,u⟩
 exact ⟨rfl,⟨P,Q,r,x2,x3,x4⟩,u⟩
end
section
set_option maxRecDepth 100000
open Go.RowKit LgM
def bnv (m:Nat):Rat:=((BN.bt m:Int):Rat) / (((BN.dN:Nat):Int):Rat)
theorem vtx_of {P Q:Int} {v:Rat} (hQ:0 < Q) (low:Nat.gcd P.natAbs Q.natAbs = 1) (hv:(P:Rat) / (Q:Rat) = v):vtx v = rtx P Q:=by
 have hd:(0:Int) < (v.den:Int):=by have:=v.den_pos; omega
 have e:=(rv_eq hQ hd).1 (hv.trans (frac_val v).symm)
 obtain ⟨e1,e2⟩:=low_uniq hQ hd e low (by rw [Int.natAbs_natCast]; exact v.reduced)
 unfold vtx
 rw [← e1,← e2]
theorem bn_12:BN.bt 12 * 2730 = -691 * ((BN.dN:Nat):Int):=by decide +kernel
theorem dN_pos:(0:Int) < ((BN.dN:Nat):Int):=by decide +kernel
theorem text_12:vtx (bnv 12) = [45,54,57,49,47,50,55,51,48]:=by
 rw [vtx_of (v:=bnv 12) (P:=-691) (Q:=2730) (by decide) (by decide) ((rv_eq (by decide) dN_pos).2 bn_12.symm)]
 unfold rtx
 rw [if_neg (by decide),decZ_neg (by decide),decZ_pos (by decide)]
 simp [dec_ge,dec_lt]
set_option maxHeartbeats 1000000 in
theorem bernBegun_of (w:World) (hN:Calls Tryz.prog 7 #[.int .i64 12] w fun e w'=>e = .returned (.tuple #[.string ⟨(vtx (bnv 12)).toArray⟩,.agg #[.int .i64 0,.int .i64 0]])∧Below w.heap.size w w') :
  Calls Tryz.prog 8 #[] w fun e w'=>e = .returned (.bool true)∧Below w.heap.size w w':=by
 rw [text_12] at hN
 have HN:Hid (Calls Tryz.prog 7 #[.int .i64 12] w fun e w'=>e = .returned (.tuple #[.string ⟨[45,54,57,49,47,50,55,51,48].toArray⟩,.agg #[.int .i64 0,.int .i64 0]])∧Below w.heap.size w w'):=hN
 clear hN
 go_enter Tryz.func8,Tryz.ntmps8
 go_wp2_with fail
 refine HN.out.mono ?_
 rintro e w1 ⟨rfl,k1⟩
 have HK:Hid (Below w.heap.size w (w1.alloc (.cells #[.int .i64 0,.int .i64 0] 23))):=k1.alloc k1.size _
 clear k1 HN
 go_wp2
 go_ret
 exact ⟨rfl,HK.out⟩
theorem bt_size:∀ m,m < 202→(BN.bt m).natAbs < pw 32:=by decide +kernel
theorem dN_size:((BN.dN:Nat):Int).natAbs < pw 9:=by decide +kernel
theorem bt_odd:∀ m,m < 201→m % 2 = 1→m ≠ 1→BN.bt m = 0:=by decide +kernel
theorem bnv_odd {m:Nat} (h:m < 201) (h1:m % 2 = 1) (h2:m ≠ 1):bnv m = 0:=by
 unfold bnv
 rw [bt_odd m h h1 h2]
 grind
end
end Go.Proofs.YtnkjadpmigpneaaGreatDoor
