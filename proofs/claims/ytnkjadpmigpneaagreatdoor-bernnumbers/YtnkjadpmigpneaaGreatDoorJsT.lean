import Derived.Test.YtnkjadpmigpneaaGreatDoorBigM
import Derived.Test.YtnkjadpmigpneaaGreatDoorJsR
import Derived.Test.YtnkjadpmigpneaaGreatDoorJsC
set_option linter.unusedSimpArgs false
set_option linter.unusedVariables false
namespace Go.Proofs.YtnkjadpmigpneaaGreatDoor
section
set_option maxRecDepth 100000
open Go.RowKit
structure Upd2 (b c:Nat) (w w':World):Prop where
 os:w'.os = w.os
 tape:w'.tape = w.tape
 output:w'.output = w.output
 size:w.heap.size≤w'.heap.size
 block:∀ k,k < w.heap.size→k ≠ b→k ≠ c→w'.heap[k]? = w.heap[k]?
theorem Upd.two {b:Nat} {w w':World} (h:Upd b w w') (c:Nat):Upd2 b c w w':=⟨h.os,h.tape,h.output,h.size,fun k hk h1 _=>h.block k hk h1⟩
theorem Upd.two' {b:Nat} {w w':World} (h:Upd b w w') (c:Nat):Upd2 c b w w':=⟨h.os,h.tape,h.output,h.size,fun k hk _ h1=>h.block k hk h1⟩
theorem Upd2.trans {b c:Nat} {x y z:World} (h:Upd2 b c x y) (k:Upd2 b c y z):Upd2 b c x z :=
 ⟨k.os.trans h.os,k.tape.trans h.tape,k.output.trans h.output,Nat.le_trans h.size k.size,fun i hi h1 h2=>(k.block i (Nat.lt_of_lt_of_le hi h.size) h1 h2).trans (h.block i hi h1 h2)⟩
theorem Upd2.of_below {b c:Nat} {w w':World} (h:Below w.heap.size w w'):Upd2 b c w w':=(Upd.of_below (b:=b) h).two c
theorem Upd2.refl (b c:Nat) (w:World):Upd2 b c w w:=(Upd.refl b w).two c
theorem Upd2.drewN {b c n:Nat} {x y:World} (h:Upd2 b c x y):Upd2 b c x (y.drewN n):=⟨h.os,h.tape,h.output,h.size,h.block⟩
theorem Upd2.swap {b c:Nat} {w w':World} (h:Upd2 b c w w'):Upd2 c b w w':=⟨h.os,h.tape,h.output,h.size,fun k hk h1 h2=>h.block k hk h2 h1⟩
theorem Upd2.fresh {b c:Nat} {w w1 w':World} (h0:Below w.heap.size w w1) (hb:w.heap.size≤b) (h:Upd2 b c w1 w'):Upd c w w' :=
 ⟨h.os.trans h0.os,h.tape.trans h0.tape,h.output.trans h0.output,Nat.le_trans h0.size h.size,fun k hk h1=>(h.block k (Nat.lt_of_lt_of_le hk h0.size) (by omega) h1).trans (h0.block k hk)⟩
theorem sgd_div (x y:Int):sgd (decide (x < 0) != decide (y < 0)) (x.natAbs / y.natAbs) = x.tdiv y:=by
 rcases Int.lt_or_le x 0 with hx | hx <;> rcases Int.lt_or_le y 0 with hy | hy
 ·rw [decide_eq_true hx,decide_eq_true hy]
  obtain ⟨a,rfl⟩:∃ a:Nat,x = -(a:Int):=⟨x.natAbs,by omega⟩
  obtain ⟨b,rfl⟩:∃ b:Nat,y = -(b:Int):=⟨y.natAbs,by omega⟩
  show (((-(a:Int)).natAbs / (-(b:Int)).natAbs:Nat):Int) = _
  rw [Int.natAbs_neg,Int.natAbs_natCast,Int.natAbs_neg,Int.natAbs_natCast,Int.neg_tdiv,Int.tdiv_neg,Int.neg_neg,Int.ofNat_tdiv]
 ·rw [decide_eq_true hx,decide_eq_false (Int.not_lt.2 hy)]
  obtain ⟨a,rfl⟩:∃ a:Nat,x = -(a:Int):=⟨x.natAbs,by omega⟩
  obtain ⟨b,rfl⟩:∃ b:Nat,y = (b:Int):=⟨y.natAbs,by omega⟩
  show -(((-(a:Int)).natAbs / (b:Int).natAbs:Nat):Int) = _
  rw [Int.natAbs_neg,Int.natAbs_natCast,Int.natAbs_natCast,Int.neg_tdiv,Int.ofNat_tdiv]
 ·rw [decide_eq_false (Int.not_lt.2 hx),decide_eq_true hy]
  obtain ⟨a,rfl⟩:∃ a:Nat,x = (a:Int):=⟨x.natAbs,by omega⟩
  obtain ⟨b,rfl⟩:∃ b:Nat,y = -(b:Int):=⟨y.natAbs,by omega⟩
  show -(((a:Int).natAbs / (-(b:Int)).natAbs:Nat):Int) = _
  rw [Int.natAbs_neg,Int.natAbs_natCast,Int.natAbs_natCast,Int.tdiv_neg,Int.ofNat_tdiv]
 ·rw [decide_eq_false (Int.not_lt.2 hx),decide_eq_false (Int.not_lt.2 hy)]
  obtain ⟨a,rfl⟩:∃ a:Nat,x = (a:Int):=⟨x.natAbs,by omega⟩
  obtain ⟨b,rfl⟩:∃ b:Nat,y = (b:Int):=⟨y.natAbs,by omega⟩
  show (((a:Int).natAbs / (b:Int).natAbs:Nat):Int) = _
  rw [Int.natAbs_natCast,Int.natAbs_natCast,Int.ofNat_tdiv]
theorem sgd_mod (x y:Int):sgd (decide (x < 0)) (x.natAbs % y.natAbs) = x.tmod y:=by
 have h:x.tmod y = x.tmod (y.natAbs:Int):=by
  rcases Int.natAbs_eq y with e | e
  ·rw [← e]
  ·rw [e,Int.tmod_neg,Int.natAbs_neg]; rfl
 rw [h]
 rcases Int.lt_or_le x 0 with hx | hx
 ·rw [decide_eq_true hx]
  obtain ⟨a,rfl⟩:∃ a:Nat,x = -(a:Int):=⟨x.natAbs,by omega⟩
  show -(((-(a:Int)).natAbs % y.natAbs:Nat):Int) = _
  rw [Int.natAbs_neg,Int.natAbs_natCast,Int.neg_tmod,Int.ofNat_tmod]
 ·rw [decide_eq_false (Int.not_lt.2 hx)]
  obtain ⟨a,rfl⟩:∃ a:Nat,x = (a:Int):=⟨x.natAbs,by omega⟩
  show (((a:Int).natAbs % y.natAbs:Nat):Int) = _
  rw [Int.natAbs_natCast,Int.ofNat_tmod]
set_option maxHeartbeats 1000000 in
theorem QuoRem_any (bz bx by' br:Nat) (x y:Int) (m n:Nat) (w:World) (hz:Slot w bz) (hr:Slot w br) (hne:bz ≠ br) (hx:BigAt w bx x) (hy:BigAt w by' y) (hy0:y ≠ 0) (hm:x.natAbs < pw m) (hn:y.natAbs < pw n) (hm':m≤100000000) (hn':n≤100000000) :
  Calls Tryz.prog 102 #[.pointer (some ⟨bz,0,none⟩),.pointer (some ⟨bx,0,none⟩),.pointer (some ⟨by',0,none⟩),.pointer (some ⟨br,0,none⟩)] w fun e w'=>e = .returned (.tuple #[.pointer (some ⟨bz,0,none⟩),.pointer (some ⟨br,0,none⟩)])∧BigAt w' bz (x.tdiv y)∧BigAt w' br (x.tmod y)∧Upd2 bz br w w':=by
 obtain ⟨xa,xl,xc,cx0,cx1,nx,_⟩:=hx.open
 obtain ⟨ya,yl,yc,cy0,cy1,ny,_⟩:=hy.open
 have lx:=hx.lt
 have ly:=hy.lt
 have HZ:Hid (Slot w bz):=hz
 have HRR:Hid (Slot w br):=hr
 have NX:Hid (NS w (.slice xa xl xc) x.natAbs):=nx
 have NY:Hid (NS w (.slice ya yl yc) y.natAbs):=ny
 have HM:Hid (x.natAbs < pw m):=hm
 have HN:Hid (y.natAbs < pw n):=hn
 have HY0:Hid (0 < y.natAbs):=by show _ < _; omega
 clear hx hy hz hr nx ny hm hn hy0
 obtain ⟨p,hp⟩:∃ p,p = decide (x < 0):=⟨_,rfl⟩
 obtain ⟨q,hq⟩:∃ q,q = decide (y < 0):=⟨_,rfl⟩
 rw [← hp] at cx0
 rw [← hq] at cy0
 have HD:Hid (sgd (p != q) (x.natAbs / y.natAbs) = x.tdiv y):=by show _ = _; rw [hp,hq,sgd_div]
 have HMD:Hid (sgd p (x.natAbs % y.natAbs) = x.tmod y):=by show _ = _; rw [hp,sgd_mod]
 clear hp hq
 go_enter Tryz.func102,Tryz.ntmps102
 go_wp2
 go_quiet (fail)
 generalize hw1:w.drewN nq = w1
 have e1:w1.heap.size = w.heap.size:=by rw [← hw1]; rfl
 have cx:w1.cell? ⟨bx,1,none⟩ = some (.slice xa xl xc):=by rw [← hw1]; exact cx1
 have cy:w1.cell? ⟨by',1,none⟩ = some (.slice ya yl yc):=by rw [← hw1]; exact cy1
 have NX1:Hid (NS w1 (.slice xa xl xc) x.natAbs):=by rw [← hw1]; exact NX.out.drewN
 have NY1:Hid (NS w1 (.slice ya yl yc) y.natAbs):=by rw [← hw1]; exact NY.out.drewN
 have HZ1:Hid (Slot w1 bz):=by rw [← hw1]; exact HZ.out
 have HRR1:Hid (Slot w1 br):=by rw [← hw1]; exact HRR.out
 have HU1:Hid (Upd2 bz br w w1):=by rw [← hw1]; exact (Upd2.refl bz br w).drewN
 clear hw1 NX NY HZ HRR cx0 cx1 cy0 cy1
 go_wp2_with fail
 refine wp_region_G (fun w'=>w'.cell? ⟨bx,1,none⟩ = some (.slice xa xl xc)∧w'.cell? ⟨by',1,none⟩ = some (.slice ya yl yc)) 13 (by kernel_rfl) ⟨cx,cy⟩ (fun hHeld=>?_)
 refine wpAnyG_take (i:=0) (v:=?v0) rfl (by kernel_rfl) (fun _ _ _ h=>h) (Or.inl ⟨by rfl,?y0⟩) hHeld ?r0
 case y0=>(intro wS hSw; obtain ⟨s1,s2⟩:=hSw; go_simp; try with_reducible rfl)
 try simp only [Act.put,List.setIfInBounds_toArray,List.set_cons_zero,List.set_cons_succ]
 refine wpAnyG_take (i:=1) (v:=?v1) rfl (by kernel_rfl) (fun _ _ _ h=>h) (Or.inl ⟨by rfl,?y1⟩) hHeld ?r1
 case y1=>(intro wS hSw; obtain ⟨s1,s2⟩:=hSw; go_simp; try with_reducible rfl)
 try simp only [Act.put,List.setIfInBounds_toArray,List.set_cons_zero,List.set_cons_succ]
 refine wpAnyG_take (i:=2) (v:=?v2) rfl (by kernel_rfl) (fun _ _ _ h=>h) (Or.inl ⟨by rfl,?y2⟩) hHeld ?r2
 case y2=>(intro wS hSw; obtain ⟨s1,s2⟩:=hSw; go_simp; try with_reducible rfl)
 try simp only [Act.put,List.setIfInBounds_toArray,List.set_cons_zero,List.set_cons_succ]
 refine wpAnyG_take (i:=3) (v:=?v3) rfl (by kernel_rfl) (fun _ _ _ h=>h) (Or.inl ⟨by rfl,?y3⟩) hHeld ?r3
 case y3=>(intro wS hSw; obtain ⟨s1,s2⟩:=hSw; go_simp; try with_reducible rfl)
 try simp only [Act.put,List.setIfInBounds_toArray,List.set_cons_zero,List.set_cons_succ]
 refine wpAnyG_take (i:=4) (v:=?v4) rfl (by kernel_rfl) (fun _ _ _ h=>h) (Or.inl ⟨by rfl,?y4⟩) hHeld ?r4
 case y4=>(intro wS hSw; obtain ⟨s1,s2⟩:=hSw; go_simp; try with_reducible rfl)
 try simp only [Act.put,List.setIfInBounds_toArray,List.set_cons_zero,List.set_cons_succ]
 refine wpAnyG_take (i:=5) (v:=?v5) rfl (by kernel_rfl) (fun _ _ _ h=>h) (Or.inl ⟨by rfl,?y5⟩) hHeld ?r5
 case y5=>(intro wS hSw; obtain ⟨s1,s2⟩:=hSw; go_simp; try with_reducible rfl)
 try simp only [Act.put,List.setIfInBounds_toArray,List.set_cons_zero,List.set_cons_succ]
 refine wpAnyG_take (i:=6) (v:=?v6) rfl (by kernel_rfl) (fun _ _ _ h=>h) (Or.inl ⟨by rfl,?y6⟩) hHeld ?r6
 case y6=>(intro wS hSw; obtain ⟨s1,s2⟩:=hSw; go_simp; try with_reducible rfl)
 try simp only [Act.put,List.setIfInBounds_toArray,List.set_cons_zero,List.set_cons_succ]
 refine wpAnyG_take (i:=7) (v:=?v7) rfl (by kernel_rfl) (fun _ _ _ h=>h) (Or.inl ⟨by rfl,?y7⟩) hHeld ?r7
 case y7=>(intro wS hSw; obtain ⟨s1,s2⟩:=hSw; go_simp; try with_reducible rfl)
 try simp only [Act.put,List.setIfInBounds_toArray,List.set_cons_zero,List.set_cons_succ]
 refine wpAnyG_one (i:=8) rfl (by kernel_rfl) (fun K hK=>?_)
 go_simp
 refine (div_any _ _ x.natAbs y.natAbs m n _ NX1.out.drew NY1.out.drew HM.out HN.out hm' hn' HY0.out).mono ?_
 rintro e w2 ⟨r1,r2,rfl,hq1,hq2,hb⟩
 obtain ⟨qa,ql,qc,rfl,_⟩:=hq1.shape
 obtain ⟨ta,tl,tc,rfl,_⟩:=hq2.shape
 clear hHeld
 have hHeld:w2.cell? ⟨bx,1,none⟩ = some (.slice xa xl xc)∧w2.cell? ⟨by',1,none⟩ = some (.slice ya yl yc):=⟨(hb.cell (p:=⟨bx,1,none⟩) (show bx < w1.heap.size by omega)).trans cx,(hb.cell (p:=⟨by',1,none⟩) (show by' < w1.heap.size by omega)).trans cy⟩
 refine hK.out _ _ hHeld ?_
 clear hK K
 try simp only [Act.put,List.setIfInBounds_toArray,List.set_cons_zero,List.set_cons_succ]
 refine wpAnyG_one (i:=9) rfl (by kernel_rfl) (fun K hK=>?_)
 go_simp
 refine hK.out _ _ hHeld ?_
 clear hK K
 try simp only [Act.put,List.setIfInBounds_toArray,List.set_cons_zero,List.set_cons_succ]
 refine wpAnyG_take (i:=10) (v:=?v10) rfl (by kernel_rfl) (fun _ _ _ h=>h) (Or.inl ⟨by rfl,?y10⟩) hHeld ?r10
 case y10=>(intro wS hSw; obtain ⟨s1,s2⟩:=hSw; go_simp; try with_reducible rfl)
 try simp only [Act.put,List.setIfInBounds_toArray,List.set_cons_zero,List.set_cons_succ]
 refine wpAnyG_take (i:=11) (v:=?v11) rfl (by kernel_rfl) (fun _ _ _ h=>h) (Or.inl ⟨by rfl,?y11⟩) hHeld ?r11
 case y11=>(intro wS hSw; obtain ⟨s1,s2⟩:=hSw; go_simp; try with_reducible rfl)
 try simp only [Act.put,List.setIfInBounds_toArray,List.set_cons_zero,List.set_cons_succ]
 refine wpAnyG_one (i:=12) rfl (by kernel_rfl) (fun K hK=>?_)
 go_simp
 refine hK.out _ _ hHeld ?_
 clear hK K
 try simp only [Act.put,List.setIfInBounds_toArray,List.set_cons_zero,List.set_cons_succ]
 refine wpAnyG_last (i:=13) rfl (by kernel_rfl) (by kernel_rfl) (fun K hK=>?_)
 go_simp
 refine hK.out _ _ ?_
 clear hK K
 try simp only [Act.put,List.setIfInBounds_toArray,List.set_cons_zero,List.set_cons_succ]
 refine wpAnyG_done (by kernel_rfl) ?_ _
 have HQ1:Hid (NS w2 (.slice qa ql qc) (x.natAbs / y.natAbs)):=hq1
 have HQ2:Hid (NS w2 (.slice ta tl tc) (x.natAbs % y.natAbs)):=hq2
 have HZ2:Hid (Slot w2 bz):=HZ1.out.drew.below hb (Nat.le_refl _)
 have HRR2:Hid (Slot w2 br):=HRR1.out.drew.below hb (Nat.le_refl _)
 have HU2:Hid (Upd2 bz br w w2):=HU1.out.trans (((Upd.refl bz w1).drew.two br).trans (Upd2.of_below hb))
 clear hHeld hq1 hq2 hb cx cy
 go_wp2_with fail
 refine (give_any bz (p != q) _ (x.natAbs / y.natAbs) _ HZ2.out HQ1.out).mono ?_
 rw [HD.out]
 rintro e w3 ⟨rfl,hbig,hu⟩
 have HB3:Hid (BigAt w3 bz (x.tdiv y)):=hbig
 have HU3:Hid (Upd bz w2 w3):=hu
 clear hbig hu
 go_wp2_with fail
 refine (give_any br p _ (x.natAbs % y.natAbs) _ (HRR2.out.upd HU3.out (Ne.symm hne)) (HQ2.out.upd HU3.out HZ2.out)).mono ?_
 rw [HMD.out]
 rintro e w4 ⟨rfl,hbig,hu⟩
 have HB4:Hid (BigAt w4 br (x.tmod y)):=hbig
 have HU4:Hid (Upd br w3 w4):=hu
 clear hbig hu
 go_wp2
 go_ret2
 exact ⟨rfl,HB3.out.upd HU4.out (HRR2.out.upd HU3.out (Ne.symm hne)) hne,HB4.out,(HU2.out.trans (HU3.out.two br)).trans (HU4.out.two' bz)⟩
theorem Quo_any (bz bx by':Nat) (x y:Int) (m n:Nat) (w:World) (hz:Slot w bz) (hx:BigAt w bx x) (hy:BigAt w by' y) (hy0:y ≠ 0) (hm:x.natAbs < pw m) (hn:y.natAbs < pw n) (hm':m≤100000000) (hn':n≤100000000) :
  Calls Tryz.prog 70 #[.pointer (some ⟨bz,0,none⟩),.pointer (some ⟨bx,0,none⟩),.pointer (some ⟨by',0,none⟩)] w fun e w'=>e = .returned (.pointer (some ⟨bz,0,none⟩))∧BigAt w' bz (x.tdiv y)∧Upd bz w w':=by
 have lz:=hz.lt
 have HZ:Hid (Slot w bz):=hz
 have HX:Hid (BigAt w bx x):=hx
 have HY:Hid (BigAt w by' y):=hy
 have HM:Hid (x.natAbs < pw m):=hm
 have HN:Hid (y.natAbs < pw n):=hn
 have HY0:Hid (y ≠ 0):=hy0
 clear hx hy hz hm hn hy0
 go_enter Tryz.func70,Tryz.ntmps70
 go_wp2_with fail
 refine (QuoRem_any bz bx by' w.heap.size x y m n _ (HZ.out.below (Below.alloc_self' w _) (Nat.le_refl _)) (slot_new w _ _) (by omega) (HX.out.below (Below.alloc_self' w _) (Nat.le_refl _)) (HY.out.below (Below.alloc_self' w _) (Nat.le_refl _)) HY0.out HM.out HN.out hm' hn').mono ?_
 rintro e w1 ⟨rfl,h2,_,h3⟩
 go_wp2
 go_ret
 exact ⟨rfl,h2,h3.swap.fresh (Below.alloc_self' w _) (Nat.le_refl _)⟩
end
section
set_option maxRecDepth 100000
open Go.RowKit
structure IntAt (w:World) (b o:Nat) (n:Int):Prop where
 lt:b < w.heap.size
 ex:∃ s,w.cell? ⟨b,o,none⟩ = some (.bool (decide (n < 0)))∧w.cell? ⟨b,o + 1,none⟩ = some s∧NS w s n.natAbs
theorem IntAt.open {w:World} {b o:Nat} {n:Int} (h:IntAt w b o n):∃ aa len cap,w.cell? ⟨b,o,none⟩ = some (.bool (decide (n < 0)))∧w.cell? ⟨b,o + 1,none⟩ = some (.slice aa len cap)∧NS w (.slice aa len cap) n.natAbs∧(0 < len ↔ 0 < n.natAbs):=by
 obtain ⟨s,h0,h1,h2⟩:=h.ex
 obtain ⟨aa,len,cap,rfl,hl⟩:=h2.shape
 exact ⟨aa,len,cap,h0,h1,h2,hl⟩
theorem BigAt.at {w:World} {b:Nat} {n:Int} (h:BigAt w b n):IntAt w b 0 n:=by
 obtain ⟨aa,len,cap,c0,c1,ns,_⟩:=h.open
 exact ⟨h.lt,_,c0,c1,ns⟩
theorem IntAt.below {B:Nat} {w w':World} {b o:Nat} {n:Int} (h:IntAt w b o n) (hb:Below B w w') (hB:w.heap.size≤B):IntAt w' b o n:=by
 obtain ⟨s,h0,h1,h2⟩:=h.ex
 exact ⟨Nat.lt_of_lt_of_le h.lt hb.size,s,((hb.mono hB).cell h.lt).trans h0,((hb.mono hB).cell h.lt).trans h1,h2.below hb hB⟩
end
section
set_option maxRecDepth 100000
open Go.RowKit
set_option maxHeartbeats 1000000 in
theorem Mul_at (ox oy bz bx by':Nat) (x y:Int) (m n:Nat) (w:World) (hz:Slot w bz) (hx:IntAt w bx ox x) (hy:IntAt w by' oy y) (hm:x.natAbs < pw m) (hn:y.natAbs < pw n) (hm':m≤100000000) (hn':n≤100000000) :
  Calls Tryz.prog 28 #[.pointer (some ⟨bz,0,none⟩),.pointer (some ⟨bx,ox,none⟩),.pointer (some ⟨by',oy,none⟩)] w fun e w'=>e = .returned (.pointer (some ⟨bz,0,none⟩))∧BigAt w' bz (x * y)∧Upd bz w w':=by
 obtain ⟨xa,xl,xc,cx0,cx1,nx,_⟩:=hx.open
 obtain ⟨ya,yl,yc,cy0,cy1,ny,_⟩:=hy.open
 have lx:=hx.lt
 have ly:=hy.lt
 have HZ:Hid (Slot w bz):=hz
 have NX:Hid (NS w (.slice xa xl xc) x.natAbs):=nx
 have NY:Hid (NS w (.slice ya yl yc) y.natAbs):=ny
 have HM:Hid (x.natAbs < pw m):=hm
 have HN:Hid (y.natAbs < pw n):=hn
 clear hx hy hz nx ny hm hn
 obtain ⟨p,hp⟩:∃ p,p = decide (x < 0):=⟨_,rfl⟩
 obtain ⟨q,hq⟩:∃ q,q = decide (y < 0):=⟨_,rfl⟩
 rw [← hp] at cx0
 rw [← hq] at cy0
 have HXY:Hid (sgd (p != q) (x.natAbs * y.natAbs) = x * y):=by show _ = _; rw [sgd_mul,hp,hq,sgd_self,sgd_self]
 clear hp hq
 go_enter Tryz.func28,Tryz.ntmps28
 go_wp2
 refine wp_region_G (fun w'=>w'.cell? ⟨bx,ox,none⟩ = some (.bool p)∧w'.cell? ⟨bx,ox + 1,none⟩ = some (.slice xa xl xc)∧w'.cell? ⟨by',oy,none⟩ = some (.bool q)∧w'.cell? ⟨by',oy + 1,none⟩ = some (.slice ya yl yc)) 19 (by kernel_rfl) ⟨cx0,cx1,cy0,cy1⟩ (fun hHeld=>?_)
 refine wpAnyG_take (i:=0) (v:=?v0) rfl (by kernel_rfl) (fun _ _ _ h=>h) (Or.inl ⟨by rfl,?y0⟩) hHeld ?r0
 case y0=>(intro wS hSw; obtain ⟨s1,s2,s3,s4⟩:=hSw; go_simp; try with_reducible rfl)
 try simp only [Act.put,List.setIfInBounds_toArray,List.set_cons_zero,List.set_cons_succ]
 refine wpAnyG_take (i:=1) (v:=?v1) rfl (by kernel_rfl) (fun _ _ _ h=>h) (Or.inl ⟨by rfl,?y1⟩) hHeld ?r1
 case y1=>(intro wS hSw; obtain ⟨s1,s2,s3,s4⟩:=hSw; go_simp; try with_reducible rfl)
 try simp only [Act.put,List.setIfInBounds_toArray,List.set_cons_zero,List.set_cons_succ]
 refine wpAnyG_take (i:=2) (v:=?v2) rfl (by kernel_rfl) (fun _ _ _ h=>h) (Or.inl ⟨by rfl,?y2⟩) hHeld ?r2
 case y2=>(intro wS hSw; obtain ⟨s1,s2,s3,s4⟩:=hSw; go_simp; try with_reducible rfl)
 try simp only [Act.put,List.setIfInBounds_toArray,List.set_cons_zero,List.set_cons_succ]
 refine wpAnyG_take (i:=3) (v:=?v3) rfl (by kernel_rfl) (fun _ _ _ h=>h) (Or.inl ⟨by rfl,?y3⟩) hHeld ?r3
 case y3=>(intro wS hSw; obtain ⟨s1,s2,s3,s4⟩:=hSw; go_simp; try with_reducible rfl)
 try simp only [Act.put,List.setIfInBounds_toArray,List.set_cons_zero,List.set_cons_succ]
 refine wpAnyG_take (i:=4) (v:=?v4) rfl (by kernel_rfl) (fun _ _ _ h=>h) (Or.inl ⟨by rfl,?y4⟩) hHeld ?r4
 case y4=>(intro wS hSw; obtain ⟨s1,s2,s3,s4⟩:=hSw; go_simp; try with_reducible rfl)
 try simp only [Act.put,List.setIfInBounds_toArray,List.set_cons_zero,List.set_cons_succ]
 refine wpAnyG_take (i:=5) (v:=?v5) rfl (by kernel_rfl) (fun _ _ _ h=>h) (Or.inl ⟨by rfl,?y5⟩) hHeld ?r5
 case y5=>(intro wS hSw; obtain ⟨s1,s2,s3,s4⟩:=hSw; go_simp; try with_reducible rfl)
 try simp only [Act.put,List.setIfInBounds_toArray,List.set_cons_zero,List.set_cons_succ]
 refine wpAnyG_take (i:=6) (v:=?v6) rfl (by kernel_rfl) (fun _ _ _ h=>h) (Or.inl ⟨by rfl,?y6⟩) hHeld ?r6
 case y6=>(intro wS hSw; obtain ⟨s1,s2,s3,s4⟩:=hSw; go_simp; try with_reducible rfl)
 try simp only [Act.put,List.setIfInBounds_toArray,List.set_cons_zero,List.set_cons_succ]
 refine wpAnyG_take (i:=7) (v:=?v7) rfl (by kernel_rfl) (fun _ _ _ h=>h) (Or.inl ⟨by rfl,?y7⟩) hHeld ?r7
 case y7=>(intro wS hSw; obtain ⟨s1,s2,s3,s4⟩:=hSw; go_simp; try with_reducible rfl)
 try simp only [Act.put,List.setIfInBounds_toArray,List.set_cons_zero,List.set_cons_succ]
 refine wpAnyG_take (i:=8) (v:=?v8) rfl (by kernel_rfl) (fun _ _ _ h=>h) (Or.inl ⟨by rfl,?y8⟩) hHeld ?r8
 case y8=>(intro wS hSw; obtain ⟨s1,s2,s3,s4⟩:=hSw; go_simp; try with_reducible rfl)
 try simp only [Act.put,List.setIfInBounds_toArray,List.set_cons_zero,List.set_cons_succ]
 refine wpAnyG_take (i:=9) (v:=?v9) rfl (by kernel_rfl) (fun _ _ _ h=>h) (Or.inl ⟨by rfl,?y9⟩) hHeld ?r9
 case y9=>(intro wS hSw; obtain ⟨s1,s2,s3,s4⟩:=hSw; go_simp; try with_reducible rfl)
 try simp only [Act.put,List.setIfInBounds_toArray,List.set_cons_zero,List.set_cons_succ]
 refine wpAnyG_take (i:=10) (v:=?v10) rfl (by kernel_rfl) (fun _ _ _ h=>h) (Or.inl ⟨by rfl,?y10⟩) hHeld ?r10
 case y10=>(intro wS hSw; obtain ⟨s1,s2,s3,s4⟩:=hSw; go_simp; try with_reducible rfl)
 try simp only [Act.put,List.setIfInBounds_toArray,List.set_cons_zero,List.set_cons_succ]
 refine wpAnyG_take (i:=11) (v:=?v11) rfl (by kernel_rfl) (fun _ _ _ h=>h) (Or.inl ⟨by rfl,?y11⟩) hHeld ?r11
 case y11=>(intro wS hSw; obtain ⟨s1,s2,s3,s4⟩:=hSw; go_simp; try with_reducible rfl)
 try simp only [Act.put,List.setIfInBounds_toArray,List.set_cons_zero,List.set_cons_succ]
 refine wpAnyG_take (i:=12) (v:=?v12) rfl (by kernel_rfl) (fun _ _ _ h=>h) (Or.inl ⟨by rfl,?y12⟩) hHeld ?r12
 case y12=>(intro wS hSw; obtain ⟨s1,s2,s3,s4⟩:=hSw; go_simp; try with_reducible rfl)
 try simp only [Act.put,List.setIfInBounds_toArray,List.set_cons_zero,List.set_cons_succ]
 refine wpAnyG_take (i:=13) (v:=?v13) rfl (by kernel_rfl) (fun _ _ _ h=>h) (Or.inl ⟨by rfl,?y13⟩) hHeld ?r13
 case y13=>(intro wS hSw; obtain ⟨s1,s2,s3,s4⟩:=hSw; go_simp; try with_reducible rfl)
 try simp only [Act.put,List.setIfInBounds_toArray,List.set_cons_zero,List.set_cons_succ]
 refine wpAnyG_take (i:=14) (v:=?v14) rfl (by kernel_rfl) (fun _ _ _ h=>h) (Or.inl ⟨by rfl,?y14⟩) hHeld ?r14
 case y14=>(intro wS hSw; obtain ⟨s1,s2,s3,s4⟩:=hSw; go_simp; try with_reducible rfl)
 try simp only [Act.put,List.setIfInBounds_toArray,List.set_cons_zero,List.set_cons_succ]
 refine wpAnyG_take (i:=15) (v:=?v15) rfl (by kernel_rfl) (fun _ _ _ h=>h) (Or.inl ⟨by rfl,?y15⟩) hHeld ?r15
 case y15=>(intro wS hSw; obtain ⟨s1,s2,s3,s4⟩:=hSw; go_simp; try with_reducible rfl)
 try simp only [Act.put,List.setIfInBounds_toArray,List.set_cons_zero,List.set_cons_succ]
 refine wpAnyG_take (i:=16) (v:=?v16) rfl (by kernel_rfl) (fun _ _ _ h=>h) (Or.inl ⟨by rfl,?y16⟩) hHeld ?r16
 case y16=>(intro wS hSw; obtain ⟨s1,s2,s3,s4⟩:=hSw; go_simp; try with_reducible rfl)
 try simp only [Act.put,List.setIfInBounds_toArray,List.set_cons_zero,List.set_cons_succ]
 refine wpAnyG_take (i:=17) (v:=?v17) rfl (by kernel_rfl) (fun _ _ _ h=>h) (Or.inl ⟨by rfl,?y17⟩) hHeld ?r17
 case y17=>(intro wS hSw; obtain ⟨s1,s2,s3,s4⟩:=hSw; go_simp; try with_reducible rfl)
 try simp only [Act.put,List.setIfInBounds_toArray,List.set_cons_zero,List.set_cons_succ]
 refine wpAnyG_one (i:=18) rfl (by kernel_rfl) (fun K hK=>?_)
 go_simp
 refine (mul_any _ _ x.natAbs y.natAbs m n _ NX.out.drew NY.out.drew HM.out HN.out hm' hn').mono ?_
 rintro e w1 ⟨r,rfl,hr,hb⟩
 refine hK.out _ _ ⟨(hb.cell lx).trans cx0,(hb.cell lx).trans cx1,(hb.cell ly).trans cy0,(hb.cell ly).trans cy1⟩ ?_
 clear hK K
 try simp only [Act.put,List.setIfInBounds_toArray,List.set_cons_zero,List.set_cons_succ]
 refine wpAnyG_last (i:=19) rfl (by kernel_rfl) (by kernel_rfl) (fun K hK=>?_)
 go_simp
 refine (give_any bz (p != q) r (x.natAbs * y.natAbs) w1 (HZ.out.drew.below hb (Nat.le_refl _)) hr).mono ?_
 rw [HXY.out]
 rintro e w2 ⟨rfl,hbig,hu⟩
 refine hK.out _ _ ?_
 clear hK K
 try simp only [Act.put,List.setIfInBounds_toArray,List.set_cons_zero,List.set_cons_succ]
 refine wpAnyG_last (i:=20) rfl (by kernel_rfl) (by kernel_rfl) (fun K hK=>?_)
 go_simp
 refine hK.out _ _ ?_
 clear hK K
 try simp only [Act.put,List.setIfInBounds_toArray,List.set_cons_zero,List.set_cons_succ]
 refine wpAnyG_done (by kernel_rfl) ?_ _
 go_wp2
 go_ret
 exact ⟨rfl,hbig,(Upd.refl bz w).drew.trans (Upd.then_below hb hu)⟩
set_option maxHeartbeats 1000000 in
theorem Cmp_at (ox oy bx by':Nat) (x y:Int) (m n:Nat) (w:World) (hx:IntAt w bx ox x) (hy:IntAt w by' oy y) (hm:x.natAbs < pw m) (hn:y.natAbs < pw n) (hm':m≤100000000) (hn':n≤100000000) :
  Calls Tryz.prog 29 #[.pointer (some ⟨bx,ox,none⟩),.pointer (some ⟨by',oy,none⟩)] w fun e w'=>e = .returned (.int .i64 (cmpZ x y))∧∃ k,w' = w.drewN k:=by
 obtain ⟨xa,xl,xc,cx0,cx1,nx,_⟩:=hx.open
 obtain ⟨ya,yl,yc,cy0,cy1,ny,_⟩:=hy.open
 have NX:Hid (NS w (.slice xa xl xc) x.natAbs):=nx
 have NY:Hid (NS w (.slice ya yl yc) y.natAbs):=ny
 have HM:Hid (x.natAbs < pw m):=hm
 have HN:Hid (y.natAbs < pw n):=hn
 clear hx hy nx ny hm hn
 have hcb:=cmpN_bounds x.natAbs y.natAbs
 by_cases h1:x < 0 <;> by_cases h2:y < 0
 all_goals
  simp only [h1,h2,decide_true,decide_false] at cx0 cy0
 ·have HF:Hid (cmpZ x y = -cmpN x.natAbs y.natAbs):=by show _ = _; unfold cmpZ cmpN; split <;> (try split) <;> (try split) <;> (try split) <;> omega
  go_enter Tryz.func29,Tryz.ntmps29
  go_wp2
  go_quiet (fail)
  generalize hw0:w.drewN nq = w0
  have HW:Hid (w.drewN nq = w0):=hw0
  have d0:w0.cell? ⟨bx,ox,none⟩ = w.cell? ⟨bx,ox,none⟩:=by rw [← hw0]; rfl
  rw [cx0] at d0
  have d1:w0.cell? ⟨bx,ox + 1,none⟩ = w.cell? ⟨bx,ox + 1,none⟩:=by rw [← hw0]; rfl
  rw [cx1] at d1
  have d2:w0.cell? ⟨by',oy + 1,none⟩ = w.cell? ⟨by',oy + 1,none⟩:=by rw [← hw0]; rfl
  rw [cy1] at d2
  have NX0:Hid (NS w0 (.slice xa xl xc) x.natAbs):=by rw [← hw0]; exact NX.out.drewN
  have NY0:Hid (NS w0 (.slice ya yl yc) y.natAbs):=by rw [← hw0]; exact NY.out.drewN
  clear hw0
  go_wp2
  go_quiet ((go_at_call 57; exact Calls.quiet_of (cmp_any _ _ x.natAbs y.natAbs m n _ NX0.out.drewN NY0.out.drewN HM.out HN.out hm' hn')))
  go_wp2
  go_ret
  exact ⟨ret_int (by rw [HF.out]),drewN_more ⟨_,HW.out.symm⟩ _⟩
 ·have HF:Hid (cmpZ x y = -1):=by show _ = _; unfold cmpZ; split <;> (try split) <;> omega
  go_enter Tryz.func29,Tryz.ntmps29
  go_wp2
  go_quiet (fail)
  go_wp2
  go_ret
  exact ⟨ret_int (by rw [HF.out]),_,rfl⟩
 ·have HF:Hid (cmpZ x y = 1):=by show _ = _; unfold cmpZ; split <;> (try split) <;> omega
  go_enter Tryz.func29,Tryz.ntmps29
  go_wp2
  go_quiet (fail)
  go_wp2
  go_ret
  exact ⟨ret_int (by rw [HF.out]),_,rfl⟩
 ·have HF:Hid (cmpZ x y = cmpN x.natAbs y.natAbs):=by show _ = _; unfold cmpZ cmpN; split <;> (try split) <;> (try split) <;> (try split) <;> omega
  go_enter Tryz.func29,Tryz.ntmps29
  go_wp2
  go_quiet (fail)
  generalize hw0:w.drewN nq = w0
  have HW:Hid (w.drewN nq = w0):=hw0
  have d0:w0.cell? ⟨bx,ox,none⟩ = w.cell? ⟨bx,ox,none⟩:=by rw [← hw0]; rfl
  rw [cx0] at d0
  have d1:w0.cell? ⟨bx,ox + 1,none⟩ = w.cell? ⟨bx,ox + 1,none⟩:=by rw [← hw0]; rfl
  rw [cx1] at d1
  have d2:w0.cell? ⟨by',oy + 1,none⟩ = w.cell? ⟨by',oy + 1,none⟩:=by rw [← hw0]; rfl
  rw [cy1] at d2
  have NX0:Hid (NS w0 (.slice xa xl xc) x.natAbs):=by rw [← hw0]; exact NX.out.drewN
  have NY0:Hid (NS w0 (.slice ya yl yc) y.natAbs):=by rw [← hw0]; exact NY.out.drewN
  clear hw0
  go_wp2
  go_quiet ((go_at_call 57; exact Calls.quiet_of (cmp_any _ _ x.natAbs y.natAbs m n _ NX0.out.drewN NY0.out.drewN HM.out HN.out hm' hn')))
  go_wp2
  go_ret
  exact ⟨ret_int (by rw [HF.out]),drewN_more ⟨_,HW.out.symm⟩ _⟩
set_option maxHeartbeats 1000000 in
theorem Set_at (ox bz bx:Nat) (x:Int) (m:Nat) (w:World) (hz:Slot w bz) (hx:IntAt w bx ox x) (hm:x.natAbs < pw m) (hm':m≤100000000) :
  Calls Tryz.prog 59 #[.pointer (some ⟨bz,0,none⟩),.pointer (some ⟨bx,ox,none⟩)] w fun e w'=>e = .returned (.pointer (some ⟨bz,0,none⟩))∧BigAt w' bz (x)∧Upd bz w w':=by
 obtain ⟨xa,xl,xc,cx0,cx1,nx,_⟩:=hx.open
 have lx:=hx.lt
 have HZ:Hid (Slot w bz):=hz
 have NX:Hid (NS w (.slice xa xl xc) x.natAbs):=nx
 have HM:Hid (x.natAbs < pw m):=hm
 clear hx hz nx hm
 obtain ⟨p,hp⟩:∃ p,p = decide (x < 0):=⟨_,rfl⟩
 rw [← hp] at cx0
 have HXY:Hid (sgd p x.natAbs = x):=by show _ = _; rw [hp,sgd_self]
 clear hp
 go_enter Tryz.func59,Tryz.ntmps59
 go_wp2
 refine wp_region_G (fun w'=>w'.cell? ⟨bx,ox,none⟩ = some (.bool p)∧w'.cell? ⟨bx,ox + 1,none⟩ = some (.slice xa xl xc)) 10 (by kernel_rfl) ⟨cx0,cx1⟩ (fun hHeld=>?_)
 refine wpAnyG_take (i:=0) (v:=?v0) rfl (by kernel_rfl) (fun _ _ _ h=>h) (Or.inl ⟨by rfl,?y0⟩) hHeld ?r0
 case y0=>(intro wS hSw; obtain ⟨s1,s2⟩:=hSw; go_simp; try with_reducible rfl)
 try simp only [Act.put,List.setIfInBounds_toArray,List.set_cons_zero,List.set_cons_succ]
 refine wpAnyG_take (i:=1) (v:=?v1) rfl (by kernel_rfl) (fun _ _ _ h=>h) (Or.inl ⟨by rfl,?y1⟩) hHeld ?r1
 case y1=>(intro wS hSw; obtain ⟨s1,s2⟩:=hSw; go_simp; try with_reducible rfl)
 try simp only [Act.put,List.setIfInBounds_toArray,List.set_cons_zero,List.set_cons_succ]
 refine wpAnyG_take (i:=2) (v:=?v2) rfl (by kernel_rfl) (fun _ _ _ h=>h) (Or.inl ⟨by rfl,?y2⟩) hHeld ?r2
 case y2=>(intro wS hSw; obtain ⟨s1,s2⟩:=hSw; go_simp; try with_reducible rfl)
 try simp only [Act.put,List.setIfInBounds_toArray,List.set_cons_zero,List.set_cons_succ]
 refine wpAnyG_take (i:=3) (v:=?v3) rfl (by kernel_rfl) (fun _ _ _ h=>h) (Or.inl ⟨by rfl,?y3⟩) hHeld ?r3
 case y3=>(intro wS hSw; obtain ⟨s1,s2⟩:=hSw; go_simp; try with_reducible rfl)
 try simp only [Act.put,List.setIfInBounds_toArray,List.set_cons_zero,List.set_cons_succ]
 refine wpAnyG_take (i:=4) (v:=?v4) rfl (by kernel_rfl) (fun _ _ _ h=>h) (Or.inl ⟨by rfl,?y4⟩) hHeld ?r4
 case y4=>(intro wS hSw; obtain ⟨s1,s2⟩:=hSw; go_simp; try with_reducible rfl)
 try simp only [Act.put,List.setIfInBounds_toArray,List.set_cons_zero,List.set_cons_succ]
 refine wpAnyG_take (i:=5) (v:=?v5) rfl (by kernel_rfl) (fun _ _ _ h=>h) (Or.inl ⟨by rfl,?y5⟩) hHeld ?r5
 case y5=>(intro wS hSw; obtain ⟨s1,s2⟩:=hSw; go_simp; try with_reducible rfl)
 try simp only [Act.put,List.setIfInBounds_toArray,List.set_cons_zero,List.set_cons_succ]
 refine wpAnyG_take (i:=6) (v:=?v6) rfl (by kernel_rfl) (fun _ _ _ h=>h) (Or.inl ⟨by rfl,?y6⟩) hHeld ?r6
 case y6=>(intro wS hSw; obtain ⟨s1,s2⟩:=hSw; go_simp; try with_reducible rfl)
 try simp only [Act.put,List.setIfInBounds_toArray,List.set_cons_zero,List.set_cons_succ]
 refine wpAnyG_take (i:=7) (v:=?v7) rfl (by kernel_rfl) (fun _ _ _ h=>h) (Or.inl ⟨by rfl,?y7⟩) hHeld ?r7
 case y7=>(intro wS hSw; obtain ⟨s1,s2⟩:=hSw; go_simp; try with_reducible rfl)
 try simp only [Act.put,List.setIfInBounds_toArray,List.set_cons_zero,List.set_cons_succ]
 refine wpAnyG_take (i:=8) (v:=?v8) rfl (by kernel_rfl) (fun _ _ _ h=>h) (Or.inl ⟨by rfl,?y8⟩) hHeld ?r8
 case y8=>(intro wS hSw; obtain ⟨s1,s2⟩:=hSw; go_simp; try with_reducible rfl)
 try simp only [Act.put,List.setIfInBounds_toArray,List.set_cons_zero,List.set_cons_succ]
 refine wpAnyG_one (i:=9) rfl (by kernel_rfl) (fun K hK=>?_)
 go_simp
 refine (twin_any _ x.natAbs m _ NX.out.drew HM.out hm').mono ?_
 rintro e w1 ⟨r,rfl,hr,hb⟩
 refine hK.out _ _ ⟨(hb.cell lx).trans cx0,(hb.cell lx).trans cx1⟩ ?_
 clear hK K
 try simp only [Act.put,List.setIfInBounds_toArray,List.set_cons_zero,List.set_cons_succ]
 refine wpAnyG_last (i:=10) rfl (by kernel_rfl) (by kernel_rfl) (fun K hK=>?_)
 go_simp
 refine (give_any bz p r x.natAbs w1 (HZ.out.drew.below hb (Nat.le_refl _)) hr).mono ?_
 rw [HXY.out]
 rintro e w2 ⟨rfl,hbig,hu⟩
 refine hK.out _ _ ?_
 clear hK K
 try simp only [Act.put,List.setIfInBounds_toArray,List.set_cons_zero,List.set_cons_succ]
 refine wpAnyG_last (i:=11) rfl (by kernel_rfl) (by kernel_rfl) (fun K hK=>?_)
 go_simp
 refine hK.out _ _ ?_
 clear hK K
 try simp only [Act.put,List.setIfInBounds_toArray,List.set_cons_zero,List.set_cons_succ]
 refine wpAnyG_done (by kernel_rfl) ?_ _
 go_wp2
 go_ret
 exact ⟨rfl,hbig,(Upd.refl bz w).drew.trans (Upd.then_below hb hu)⟩
end
end Go.Proofs.YtnkjadpmigpneaaGreatDoor
