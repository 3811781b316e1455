import Derived.Test.YtnkjadpmigpneaaGreatDoorRaK
import Derived.Test.YtnkjadpmigpneaaGreatDoorJsU
import Derived.Test.YtnkjadpmigpneaaGreatDoorJsF
set_option linter.unusedSimpArgs false
set_option linter.unusedVariables false
set_option maxRecDepth 100000
namespace Go.Proofs.YtnkjadpmigpneaaGreatDoor
open Go.RowKit
theorem rat_zero (w:World):RatAt (w.alloc (.cells #[.bool false,.slice none 0 0,.bool false,.slice none 0 0] 39)) w.heap.size 0 0 :=
 ⟨.slice none 0 0,.slice none 0 0,Cl.new _ _ w,⟨[],⟨by simp,.inl ⟨rfl,rfl⟩⟩,rfl,.inl rfl⟩,⟨[],⟨by simp,.inl ⟨rfl,rfl⟩⟩,rfl,.inl rfl⟩⟩
set_option maxHeartbeats 1000000 in
theorem den_zero (b:Nat) (w:World) (hz:RatAt w b 0 0) :
  Calls Tryz.prog 46 #[.pointer (some ⟨b,0,none⟩)] w fun e w'=>∃ d,e = .returned (.pointer (some ⟨d,0,none⟩))∧Made w w' d 1:=by
 obtain ⟨ya,yl,yc,cy0,cy1,ny,hyl⟩:=hz.den.open
 have hyb:((yl:Int) == 0) = true:=by
  have:yl = 0:=by
   rcases Nat.eq_zero_or_pos yl with h | h
   ·exact h
   ·have:=hyl.1 h; simp at this
  rw [this]; rfl
 simp only [Nat.reduceAdd] at cy1
 clear hz ny hyl cy0
 go_enter Tryz.func46,Tryz.ntmps46
 go_wp2_with fail
 refine (NewInt_any 1 w (by omega) (by omega)).mono ?_
 rintro e w1 ⟨d,rfl,m1⟩
 go_wp2
 go_ret
 exact ⟨d,rfl,m1⟩
theorem zero_low {w:World} {b:Nat} {A B p q:Int} (h:Rt w b A B) (e:A * (1 * q) = (0 * p) * B) (hq:(1:Int) * q ≠ 0):A = 0∧B = 1:=by
 have hA:A = 0:=by
  rw [Int.zero_mul,Int.zero_mul] at e
  rcases Int.mul_eq_zero.1 e with h | h
  ·exact h
  ·exact absurd h hq
 subst hA
 have h2:=h.low
 have h3:=h.pos
 rw [show (0:Int).natAbs = 0 from rfl,Nat.gcd_zero_left] at h2
 exact ⟨rfl,by omega⟩
set_option maxHeartbeats 8000000 in
theorem RMul_zero (bz bx by':Nat) (p q:Int) (m:Nat) (w:World) (hz:RSlot w bz) (hx:RatAt w bx 0 0) (hy:Rt w by' p q) (hp:p.natAbs < pw m) (hq:q.natAbs < pw m) (hm:m≤40000000) :
  Calls Tryz.prog 41 #[.pointer (some ⟨bz,0,none⟩),.pointer (some ⟨bx,0,none⟩),.pointer (some ⟨by',0,none⟩)] w fun e w'=>e = .returned (.pointer (some ⟨bz,0,none⟩))∧Rt w' bz 0 1∧Upd bz w w':=by
 have bxl:=hx.num.lt
 have byl:=hy.at'.num.lt
 have HX:Hid (RatAt w bx 0 0):=hx
 have HY:Hid (Rt w by' p q):=hy
 have HZ:Hid (RSlot w bz):=hz
 have HB:Hid (p.natAbs < pw m∧q.natAbs < pw m∧(0:Int).natAbs < pw 1∧(1:Int).natAbs < pw 1∧m≤40000000):=⟨hp,hq,by decide,by decide,hm⟩
 have HN:Hid ((1:Int) * q ≠ 0):=by have:=hy.pos; show _ ≠ _; omega
 clear hx hy hz hp hq hm
 go_enter Tryz.func41,Tryz.ntmps41
 go_wp2_with fail
 refine wp_region_G (fun w'=>bx < w'.heap.size∧by' < w'.heap.size) 16 (by kernel_rfl) ⟨by simpa using bxl,by simpa using byl⟩ (fun hHeld=>?_)
 refine wpAnyG_take (i:=0) (v:=?v0x1) rfl (by kernel_rfl) (fun _ _ _ h=>h) (Or.inl ⟨by rfl,?y0x1⟩) hHeld ?r0x1
 case y0x1=>(intro wS hSw; obtain ⟨s1,s2⟩:=hSw; go_simp; try with_reducible rfl)
 try simp only [Act.put,List.setIfInBounds_toArray,List.set_cons_zero,List.set_cons_succ]
 refine wpAnyG_take (i:=2) (v:=?v2x2) rfl (by kernel_rfl) (fun _ _ _ h=>h) (Or.inl ⟨by rfl,?y2x2⟩) hHeld ?r2x2
 case y2x2=>(intro wS hSw; obtain ⟨s1,s2⟩:=hSw; go_simp; try with_reducible rfl)
 try simp only [Act.put,List.setIfInBounds_toArray,List.set_cons_zero,List.set_cons_succ]
 refine wpAnyG_take (i:=3) (v:=?v3x3) rfl (by kernel_rfl) (fun _ _ _ h=>h) (Or.inl ⟨by rfl,?y3x3⟩) hHeld ?r3x3
 case y3x3=>(intro wS hSw; obtain ⟨s1,s2⟩:=hSw; go_simp; try with_reducible rfl)
 try simp only [Act.put,List.setIfInBounds_toArray,List.set_cons_zero,List.set_cons_succ]
 refine wpAnyG_take (i:=4) (v:=?v4x4) rfl (by kernel_rfl) (fun _ _ _ h=>h) (Or.inl ⟨by rfl,?y4x4⟩) hHeld ?r4x4
 case y4x4=>(intro wS hSw; obtain ⟨s1,s2⟩:=hSw; go_simp; try with_reducible rfl)
 try simp only [Act.put,List.setIfInBounds_toArray,List.set_cons_zero,List.set_cons_succ]
 refine wpAnyG_take (i:=5) (v:=?v5x5) rfl (by kernel_rfl) (fun _ _ _ h=>h) (Or.inl ⟨by rfl,?y5x5⟩) hHeld ?r5x5
 case y5x5=>(intro wS hSw; obtain ⟨s1,s2⟩:=hSw; go_simp; try with_reducible rfl)
 try simp only [Act.put,List.setIfInBounds_toArray,List.set_cons_zero,List.set_cons_succ]
 refine wpAnyG_take (i:=6) (v:=?v6x6) rfl (by kernel_rfl) (fun _ _ _ h=>h) (Or.inl ⟨by rfl,?y6x6⟩) hHeld ?r6x6
 case y6x6=>(intro wS hSw; obtain ⟨s1,s2⟩:=hSw; go_simp; try with_reducible rfl)
 try simp only [Act.put,List.setIfInBounds_toArray,List.set_cons_zero,List.set_cons_succ]
 refine wpAnyG_take (i:=7) (v:=?v7x7) rfl (by kernel_rfl) (fun _ _ _ h=>h) (Or.inl ⟨by rfl,?y7x7⟩) hHeld ?r7x7
 case y7x7=>(intro wS hSw; obtain ⟨s1,s2⟩:=hSw; go_simp; try with_reducible rfl)
 try simp only [Act.put,List.setIfInBounds_toArray,List.set_cons_zero,List.set_cons_succ]
 refine wpAnyG_take (i:=10) (v:=?v10x8) rfl (by kernel_rfl) (fun _ _ _ h=>h) (Or.inl ⟨by rfl,?y10x8⟩) hHeld ?r10x8
 case y10x8=>(intro wS hSw; obtain ⟨s1,s2⟩:=hSw; go_simp; try with_reducible rfl)
 try simp only [Act.put,List.setIfInBounds_toArray,List.set_cons_zero,List.set_cons_succ]
 refine wpAnyG_take (i:=12) (v:=?v12x9) rfl (by kernel_rfl) (fun _ _ _ h=>h) (Or.inl ⟨by rfl,?y12x9⟩) hHeld ?r12x9
 case y12x9=>(intro wS hSw; obtain ⟨s1,s2⟩:=hSw; go_simp; try with_reducible rfl)
 try simp only [Act.put,List.setIfInBounds_toArray,List.set_cons_zero,List.set_cons_succ]
 clear hHeld
 refine wpAnyG_inv (fun n l a w1=>(n = 8∧l = #[true,false,true,true,true,true,true,true,false,false,true,false,true,false,false,false,false]∧a = { tmps:=#[.pointer (some ⟨bz,0,none⟩),.pointer (some ⟨bx,0,none⟩),.pointer (some ⟨by',0,none⟩),undef,undef,undef,.pointer none,.pointer (some ⟨bz,0,none⟩),undef,.pointer (some ⟨bx,0,none⟩),.pointer (some ⟨bx,0,none⟩),.pointer (some ⟨bx,0,none⟩),.pointer (some ⟨by',0,none⟩),.pointer (some ⟨by',0,none⟩),.pointer (some ⟨by',0,none⟩),undef,undef,.pointer (some ⟨bx,0,none⟩),undef,.pointer (some ⟨by',0,none⟩),undef,undef,undef],defers:=[] }∧Hid (Below w.heap.size w w1))∨(∃ b0:Nat,n = 7∧l = #[true,true,true,true,true,true,true,true,false,false,true,false,true,false,false,false,false]∧a = { tmps:=#[.pointer (some ⟨bz,0,none⟩),.pointer (some ⟨bx,0,none⟩),.pointer (some ⟨by',0,none⟩),undef,undef,undef,.pointer none,.pointer (some ⟨bz,0,none⟩),.pointer (some ⟨b0,0,none⟩),.pointer (some ⟨bx,0,none⟩),.pointer (some ⟨bx,0,none⟩),.pointer (some ⟨bx,0,none⟩),.pointer (some ⟨by',0,none⟩),.pointer (some ⟨by',0,none⟩),.pointer (some ⟨by',0,none⟩),undef,undef,.pointer (some ⟨bx,0,none⟩),undef,.pointer (some ⟨by',0,none⟩),undef,undef,undef],defers:=[] }∧Hid (Below w.heap.size w w1∧w.heap.size≤b0∧Slot w1 b0))∨(∃ b1:Nat,n = 7∧l = #[true,false,true,true,true,true,true,true,false,true,true,false,true,false,false,false,false]∧a = { tmps:=#[.pointer (some ⟨bz,0,none⟩),.pointer (some ⟨bx,0,none⟩),.pointer (some ⟨by',0,none⟩),undef,undef,undef,.pointer none,.pointer (some ⟨bz,0,none⟩),undef,.pointer (some ⟨bx,0,none⟩),.pointer (some ⟨bx,0,none⟩),.pointer (some ⟨bx,0,none⟩),.pointer (some ⟨by',0,none⟩),.pointer (some ⟨by',0,none⟩),.pointer (some ⟨by',0,none⟩),undef,.pointer (some ⟨b1,0,none⟩),.pointer (some ⟨bx,0,none⟩),undef,.pointer (some ⟨by',0,none⟩),undef,undef,undef],defers:=[] }∧Hid (Below w.heap.size w w1∧w.heap.size≤b1∧Slot w1 b1))∨(∃ b0:Nat,n = 6∧l = #[true,true,true,true,true,true,true,true,true,false,true,false,true,false,false,false,false]∧a = { tmps:=#[.pointer (some ⟨bz,0,none⟩),.pointer (some ⟨bx,0,none⟩),.pointer (some ⟨by',0,none⟩),undef,undef,undef,.pointer none,.pointer (some ⟨bz,0,none⟩),.pointer (some ⟨b0,0,none⟩),.pointer (some ⟨bx,0,none⟩),.pointer (some ⟨bx,0,none⟩),.pointer (some ⟨bx,0,none⟩),.pointer (some ⟨by',0,none⟩),.pointer (some ⟨by',0,none⟩),.pointer (some ⟨by',0,none⟩),.pointer (some ⟨b0,0,none⟩),undef,.pointer (some ⟨bx,0,none⟩),undef,.pointer (some ⟨by',0,none⟩),undef,undef,undef],defers:=[] }∧Hid (Below w.heap.size w w1∧w.heap.size≤b0∧BigAt w1 b0 (0 * p)))∨(∃ b0 b1:Nat,n = 6∧l = #[true,true,true,true,true,true,true,true,false,true,true,false,true,false,false,false,false]∧a = { tmps:=#[.pointer (some ⟨bz,0,none⟩),.pointer (some ⟨bx,0,none⟩),.pointer (some ⟨by',0,none⟩),undef,undef,undef,.pointer none,.pointer (some ⟨bz,0,none⟩),.pointer (some ⟨b0,0,none⟩),.pointer (some ⟨bx,0,none⟩),.pointer (some ⟨bx,0,none⟩),.pointer (some ⟨bx,0,none⟩),.pointer (some ⟨by',0,none⟩),.pointer (some ⟨by',0,none⟩),.pointer (some ⟨by',0,none⟩),undef,.pointer (some ⟨b1,0,none⟩),.pointer (some ⟨bx,0,none⟩),undef,.pointer (some ⟨by',0,none⟩),undef,undef,undef],defers:=[] }∧Hid (Below w.heap.size w w1∧w.heap.size≤b0∧Slot w1 b0∧w.heap.size≤b1∧Slot w1 b1∧b0 ≠ b1))∨(∃ b0 b1:Nat,n = 5∧l = #[true,true,true,true,true,true,true,true,true,true,true,false,true,false,false,false,false]∧a = { tmps:=#[.pointer (some ⟨bz,0,none⟩),.pointer (some ⟨bx,0,none⟩),.pointer (some ⟨by',0,none⟩),undef,undef,undef,.pointer none,.pointer (some ⟨bz,0,none⟩),.pointer (some ⟨b0,0,none⟩),.pointer (some ⟨bx,0,none⟩),.pointer (some ⟨bx,0,none⟩),.pointer (some ⟨bx,0,none⟩),.pointer (some ⟨by',0,none⟩),.pointer (some ⟨by',0,none⟩),.pointer (some ⟨by',0,none⟩),.pointer (some ⟨b0,0,none⟩),.pointer (some ⟨b1,0,none⟩),.pointer (some ⟨bx,0,none⟩),undef,.pointer (some ⟨by',0,none⟩),undef,undef,undef],defers:=[] }∧Hid (Below w.heap.size w w1∧w.heap.size≤b0∧BigAt w1 b0 (0 * p)∧w.heap.size≤b1∧Slot w1 b1∧b0 ≠ b1))∨(∃ b0 d:Nat,n = 5∧l = #[true,true,true,true,true,true,true,true,true,false,true,true,true,false,false,false,false]∧a = { tmps:=#[.pointer (some ⟨bz,0,none⟩),.pointer (some ⟨bx,0,none⟩),.pointer (some ⟨by',0,none⟩),undef,undef,undef,.pointer none,.pointer (some ⟨bz,0,none⟩),.pointer (some ⟨b0,0,none⟩),.pointer (some ⟨bx,0,none⟩),.pointer (some ⟨bx,0,none⟩),.pointer (some ⟨bx,0,none⟩),.pointer (some ⟨by',0,none⟩),.pointer (some ⟨by',0,none⟩),.pointer (some ⟨by',0,none⟩),.pointer (some ⟨b0,0,none⟩),undef,.pointer (some ⟨bx,0,none⟩),.pointer (some ⟨d,0,none⟩),.pointer (some ⟨by',0,none⟩),undef,undef,undef],defers:=[] }∧Hid (Below w.heap.size w w1∧w.heap.size≤b0∧BigAt w1 b0 (0 * p)∧w.heap.size≤d∧BigAt w1 d 1∧b0 ≠ d))∨(∃ b0 b1 d:Nat,n = 4∧l = #[true,true,true,true,true,true,true,true,true,true,true,true,true,false,false,false,false]∧a = { tmps:=#[.pointer (some ⟨bz,0,none⟩),.pointer (some ⟨bx,0,none⟩),.pointer (some ⟨by',0,none⟩),undef,undef,undef,.pointer none,.pointer (some ⟨bz,0,none⟩),.pointer (some ⟨b0,0,none⟩),.pointer (some ⟨bx,0,none⟩),.pointer (some ⟨bx,0,none⟩),.pointer (some ⟨bx,0,none⟩),.pointer (some ⟨by',0,none⟩),.pointer (some ⟨by',0,none⟩),.pointer (some ⟨by',0,none⟩),.pointer (some ⟨b0,0,none⟩),.pointer (some ⟨b1,0,none⟩),.pointer (some ⟨bx,0,none⟩),.pointer (some ⟨d,0,none⟩),.pointer (some ⟨by',0,none⟩),undef,undef,undef],defers:=[] }∧Hid (Below w.heap.size w w1∧w.heap.size≤b0∧BigAt w1 b0 (0 * p)∧w.heap.size≤b1∧Slot w1 b1∧w.heap.size≤d∧BigAt w1 d 1∧b0 ≠ b1∧b0 ≠ d∧b1 ≠ d))∨(∃ b0 d:Nat,n = 4∧l = #[true,true,true,true,true,true,true,true,true,false,true,true,true,true,false,false,false]∧a = { tmps:=#[.pointer (some ⟨bz,0,none⟩),.pointer (some ⟨bx,0,none⟩),.pointer (some ⟨by',0,none⟩),undef,undef,undef,.pointer none,.pointer (some ⟨bz,0,none⟩),.pointer (some ⟨b0,0,none⟩),.pointer (some ⟨bx,0,none⟩),.pointer (some ⟨bx,0,none⟩),.pointer (some ⟨bx,0,none⟩),.pointer (some ⟨by',0,none⟩),.pointer (some ⟨by',0,none⟩),.pointer (some ⟨by',0,none⟩),.pointer (some ⟨b0,0,none⟩),undef,.pointer (some ⟨bx,0,none⟩),.pointer (some ⟨d,0,none⟩),.pointer (some ⟨by',0,none⟩),.pointer (some ⟨by',2,none⟩),undef,undef],defers:=[] }∧Hid (Below w.heap.size w w1∧w.heap.size≤b0∧BigAt w1 b0 (0 * p)∧w.heap.size≤d∧BigAt w1 d 1∧b0 ≠ d))∨(∃ b0 b1 d:Nat,n = 3∧l = #[true,true,true,true,true,true,true,true,true,true,true,true,true,true,false,false,false]∧a = { tmps:=#[.pointer (some ⟨bz,0,none⟩),.pointer (some ⟨bx,0,none⟩),.pointer (some ⟨by',0,none⟩),undef,undef,undef,.pointer none,.pointer (some ⟨bz,0,none⟩),.pointer (some ⟨b0,0,none⟩),.pointer (some ⟨bx,0,none⟩),.pointer (some ⟨bx,0,none⟩),.pointer (some ⟨bx,0,none⟩),.pointer (some ⟨by',0,none⟩),.pointer (some ⟨by',0,none⟩),.pointer (some ⟨by',0,none⟩),.pointer (some ⟨b0,0,none⟩),.pointer (some ⟨b1,0,none⟩),.pointer (some ⟨bx,0,none⟩),.pointer (some ⟨d,0,none⟩),.pointer (some ⟨by',0,none⟩),.pointer (some ⟨by',2,none⟩),undef,undef],defers:=[] }∧Hid (Below w.heap.size w w1∧w.heap.size≤b0∧BigAt w1 b0 (0 * p)∧w.heap.size≤b1∧Slot w1 b1∧w.heap.size≤d∧BigAt w1 d 1∧b0 ≠ b1∧b0 ≠ d∧b1 ≠ d))∨(∃ b0 b1 d:Nat,n = 2∧l = #[true,true,true,true,true,true,true,true,true,true,true,true,true,true,true,false,false]∧a = { tmps:=#[.pointer (some ⟨bz,0,none⟩),.pointer (some ⟨bx,0,none⟩),.pointer (some ⟨by',0,none⟩),undef,undef,undef,.pointer none,.pointer (some ⟨bz,0,none⟩),.pointer (some ⟨b0,0,none⟩),.pointer (some ⟨bx,0,none⟩),.pointer (some ⟨bx,0,none⟩),.pointer (some ⟨bx,0,none⟩),.pointer (some ⟨by',0,none⟩),.pointer (some ⟨by',0,none⟩),.pointer (some ⟨by',0,none⟩),.pointer (some ⟨b0,0,none⟩),.pointer (some ⟨b1,0,none⟩),.pointer (some ⟨bx,0,none⟩),.pointer (some ⟨d,0,none⟩),.pointer (some ⟨by',0,none⟩),.pointer (some ⟨by',2,none⟩),.pointer (some ⟨b1,0,none⟩),undef],defers:=[] }∧Hid (Below w.heap.size w w1∧w.heap.size≤b0∧BigAt w1 b0 (0 * p)∧w.heap.size≤b1∧BigAt w1 b1 (1 * q)∧w.heap.size≤d∧BigAt w1 d 1∧b0 ≠ b1∧b0 ≠ d∧b1 ≠ d))∨(∃ b0 b1 d:Nat,n = 1∧l = #[true,true,true,true,true,true,true,true,true,true,true,true,true,true,true,true,false]∧a = { tmps:=#[.pointer (some ⟨bz,0,none⟩),.pointer (some ⟨bx,0,none⟩),.pointer (some ⟨by',0,none⟩),undef,undef,undef,.pointer none,.pointer (some ⟨bz,0,none⟩),.pointer (some ⟨b0,0,none⟩),.pointer (some ⟨bx,0,none⟩),.pointer (some ⟨bx,0,none⟩),.pointer (some ⟨bx,0,none⟩),.pointer (some ⟨by',0,none⟩),.pointer (some ⟨by',0,none⟩),.pointer (some ⟨by',0,none⟩),.pointer (some ⟨b0,0,none⟩),.pointer (some ⟨b1,0,none⟩),.pointer (some ⟨bx,0,none⟩),.pointer (some ⟨d,0,none⟩),.pointer (some ⟨by',0,none⟩),.pointer (some ⟨by',2,none⟩),.pointer (some ⟨b1,0,none⟩),.pointer (some ⟨bz,0,none⟩)],defers:=[] }∧Hid (w.heap.size≤w1.heap.size∧(Rt w1 bz 0 1∧Upd bz w w1)))∨(∃ b0 b1 d:Nat,n = 0∧l = #[true,true,true,true,true,true,true,true,true,true,true,true,true,true,true,true,true]∧a = { tmps:=#[.pointer (some ⟨bz,0,none⟩),.pointer (some ⟨bx,0,none⟩),.pointer (some ⟨by',0,none⟩),undef,undef,undef,.pointer (some ⟨bz,0,none⟩),.pointer (some ⟨bz,0,none⟩),.pointer (some ⟨b0,0,none⟩),.pointer (some ⟨bx,0,none⟩),.pointer (some ⟨bx,0,none⟩),.pointer (some ⟨bx,0,none⟩),.pointer (some ⟨by',0,none⟩),.pointer (some ⟨by',0,none⟩),.pointer (some ⟨by',0,none⟩),.pointer (some ⟨b0,0,none⟩),.pointer (some ⟨b1,0,none⟩),.pointer (some ⟨bx,0,none⟩),.pointer (some ⟨d,0,none⟩),.pointer (some ⟨by',0,none⟩),.pointer (some ⟨by',2,none⟩),.pointer (some ⟨b1,0,none⟩),.pointer (some ⟨bz,0,none⟩)],defers:=[] }∧Hid (w.heap.size≤w1.heap.size∧(Rt w1 bz 0 1∧Upd bz w w1)))) ?steps _ _ _ _ ?start
 case start=>exact Or.inl (⟨rfl,rfl,rfl,(Below.refl w.heap.size w).drew⟩)
 case steps =>
  intro n l a w1 hI
  rcases hI with hI | hI | hI | hI | hI | hI | hI | hI | hI | hI | hI | hI | hI
  ·obtain ⟨rfl,rfl,rfl,HH⟩:=hI
   right
   refine ⟨7,[1,9],rfl,by kernel_rfl,by simp,fun i hi=>?_⟩
   simp only [List.mem_cons,List.not_mem_nil,or_false] at hi
   rcases hi with rfl | rfl
   ·refine ⟨_,rfl,fun K' hK=>?_⟩
    go_simp
    have K:=HH.out
    refine hK.out _ _ (fun _ _=>⟨Nat.lt_of_lt_of_le bxl (K.alloc K.size _).size,Nat.lt_of_lt_of_le byl (K.alloc K.size _).size⟩) (Or.inr (Or.inl (⟨w1.heap.size,rfl,rfl,rfl,K.alloc K.size _,K.size,slot_new w1 _ _⟩)))
   ·refine ⟨_,rfl,fun K' hK=>?_⟩
    go_simp
    have K:=HH.out
    refine hK.out _ _ (fun _ _=>⟨Nat.lt_of_lt_of_le bxl (K.alloc K.size _).size,Nat.lt_of_lt_of_le byl (K.alloc K.size _).size⟩) (Or.inr (Or.inr (Or.inl (⟨w1.heap.size,rfl,rfl,rfl,K.alloc K.size _,K.size,slot_new w1 _ _⟩))))
  ·obtain ⟨b0,rfl,rfl,rfl,HH⟩:=hI
   right
   refine ⟨6,[8,9],rfl,by kernel_rfl,by simp,fun i hi=>?_⟩
   simp only [List.mem_cons,List.not_mem_nil,or_false] at hi
   rcases hi with rfl | rfl
   ·refine ⟨_,rfl,fun K' hK=>?_⟩
    go_simp
    obtain ⟨K,ge_b0,at_b0⟩:=HH.out
    refine (Mul_at 0 0 b0 bx by' 0 p 1 m w1 at_b0 (HX.out.below K).num (HY.out.below K).at'.num HB.out.2.2.1 HB.out.1 (by omega) (by have:=HB.out.2.2.2.2; omega)).mono ?_
    rintro e w2 ⟨rfl,h2,u2⟩
    refine hK.out _ _ (fun _ _=>⟨Nat.lt_of_lt_of_le bxl (K.trans (u2.below K.size ge_b0)).size,Nat.lt_of_lt_of_le byl (K.trans (u2.below K.size ge_b0)).size⟩) (Or.inr (Or.inr (Or.inr (Or.inl (⟨b0,rfl,rfl,rfl,(K.trans (u2.below K.size ge_b0)),ge_b0,h2⟩)))))
   ·refine ⟨_,rfl,fun K' hK=>?_⟩
    go_simp
    obtain ⟨K,ge_b0,at_b0⟩:=HH.out
    refine hK.out _ _ (fun _ _=>⟨Nat.lt_of_lt_of_le bxl (K.alloc K.size _).size,Nat.lt_of_lt_of_le byl (K.alloc K.size _).size⟩) (Or.inr (Or.inr (Or.inr (Or.inr (Or.inl (⟨b0,w1.heap.size,rfl,rfl,rfl,K.alloc K.size _,ge_b0,at_b0.below (Below.alloc_self' w1 _) (Nat.le_refl _),K.size,slot_new w1 _ _,(Nat.ne_of_lt at_b0.lt)⟩))))))
  ·obtain ⟨b1,rfl,rfl,rfl,HH⟩:=hI
   right
   refine ⟨6,[1],rfl,by kernel_rfl,by simp,fun i hi=>?_⟩
   simp only [List.mem_cons,List.not_mem_nil,or_false] at hi
   subst hi
   refine ⟨_,rfl,fun K' hK=>?_⟩
   go_simp
   obtain ⟨K,ge_b1,at_b1⟩:=HH.out
   refine hK.out _ _ (fun _ _=>⟨Nat.lt_of_lt_of_le bxl (K.alloc K.size _).size,Nat.lt_of_lt_of_le byl (K.alloc K.size _).size⟩) (Or.inr (Or.inr (Or.inr (Or.inr (Or.inl (⟨w1.heap.size,b1,rfl,rfl,rfl,K.alloc K.size _,K.size,slot_new w1 _ _,ge_b1,at_b1.below (Below.alloc_self' w1 _) (Nat.le_refl _),(Nat.ne_of_gt at_b1.lt)⟩))))))
  ·obtain ⟨b0,rfl,rfl,rfl,HH⟩:=hI
   right
   refine ⟨5,[9,11],rfl,by kernel_rfl,by simp,fun i hi=>?_⟩
   simp only [List.mem_cons,List.not_mem_nil,or_false] at hi
   rcases hi with rfl | rfl
   ·refine ⟨_,rfl,fun K' hK=>?_⟩
    go_simp
    obtain ⟨K,ge_b0,at_b0⟩:=HH.out
    refine hK.out _ _ (fun _ _=>⟨Nat.lt_of_lt_of_le bxl (K.alloc K.size _).size,Nat.lt_of_lt_of_le byl (K.alloc K.size _).size⟩) (Or.inr (Or.inr (Or.inr (Or.inr (Or.inr (Or.inl (⟨b0,w1.heap.size,rfl,rfl,rfl,K.alloc K.size _,ge_b0,at_b0.below (Below.alloc_self' w1 _) (Nat.le_refl _),K.size,slot_new w1 _ _,(Nat.ne_of_lt at_b0.lt)⟩)))))))
   ·refine ⟨_,rfl,fun K' hK=>?_⟩
    go_simp
    obtain ⟨K,ge_b0,at_b0⟩:=HH.out
    refine (den_zero bx w1 (HX.out.below K)).mono ?_
    rintro e w2 ⟨d,rfl,m2⟩
    refine hK.out _ _ (fun _ _=>⟨Nat.lt_of_lt_of_le bxl (K.trans (m2.2.2.mono K.size)).size,Nat.lt_of_lt_of_le byl (K.trans (m2.2.2.mono K.size)).size⟩) (Or.inr (Or.inr (Or.inr (Or.inr (Or.inr (Or.inr (Or.inl (⟨b0,d,rfl,rfl,rfl,(K.trans (m2.2.2.mono K.size)),ge_b0,at_b0.below m2.2.2 (Nat.le_refl _),(Nat.le_trans K.size m2.1),m2.2.1,(Nat.ne_of_lt (Nat.lt_of_lt_of_le at_b0.lt m2.1))⟩))))))))
  ·obtain ⟨b0,b1,rfl,rfl,rfl,HH⟩:=hI
   right
   refine ⟨5,[8],rfl,by kernel_rfl,by simp,fun i hi=>?_⟩
   simp only [List.mem_cons,List.not_mem_nil,or_false] at hi
   subst hi
   refine ⟨_,rfl,fun K' hK=>?_⟩
   go_simp
   obtain ⟨K,ge_b0,at_b0,ge_b1,at_b1,ne_b0_b1⟩:=HH.out
   refine (Mul_at 0 0 b0 bx by' 0 p 1 m w1 at_b0 (HX.out.below K).num (HY.out.below K).at'.num HB.out.2.2.1 HB.out.1 (by omega) (by have:=HB.out.2.2.2.2; omega)).mono ?_
   rintro e w2 ⟨rfl,h2,u2⟩
   refine hK.out _ _ (fun _ _=>⟨Nat.lt_of_lt_of_le bxl (K.trans (u2.below K.size ge_b0)).size,Nat.lt_of_lt_of_le byl (K.trans (u2.below K.size ge_b0)).size⟩) (Or.inr (Or.inr (Or.inr (Or.inr (Or.inr (Or.inl (⟨b0,b1,rfl,rfl,rfl,(K.trans (u2.below K.size ge_b0)),ge_b0,h2,ge_b1,at_b1.upd u2 (Ne.symm ne_b0_b1),ne_b0_b1⟩)))))))
  ·obtain ⟨b0,b1,rfl,rfl,rfl,HH⟩:=hI
   right
   refine ⟨4,[11],rfl,by kernel_rfl,by simp,fun i hi=>?_⟩
   simp only [List.mem_cons,List.not_mem_nil,or_false] at hi
   subst hi
   refine ⟨_,rfl,fun K' hK=>?_⟩
   go_simp
   obtain ⟨K,ge_b0,at_b0,ge_b1,at_b1,ne_b0_b1⟩:=HH.out
   refine (den_zero bx w1 (HX.out.below K)).mono ?_
   rintro e w2 ⟨d,rfl,m2⟩
   refine hK.out _ _ (fun _ _=>⟨Nat.lt_of_lt_of_le bxl (K.trans (m2.2.2.mono K.size)).size,Nat.lt_of_lt_of_le byl (K.trans (m2.2.2.mono K.size)).size⟩) (Or.inr (Or.inr (Or.inr (Or.inr (Or.inr (Or.inr (Or.inr (Or.inl (⟨b0,b1,d,rfl,rfl,rfl,(K.trans (m2.2.2.mono K.size)),ge_b0,at_b0.below m2.2.2 (Nat.le_refl _),ge_b1,at_b1.below m2.2.2 (Nat.le_refl _),(Nat.le_trans K.size m2.1),m2.2.1,ne_b0_b1,(Nat.ne_of_lt (Nat.lt_of_lt_of_le at_b0.lt m2.1)),(Nat.ne_of_lt (Nat.lt_of_lt_of_le at_b1.lt m2.1))⟩)))))))))
  ·obtain ⟨b0,d,rfl,rfl,rfl,HH⟩:=hI
   right
   refine ⟨4,[9,13],rfl,by kernel_rfl,by simp,fun i hi=>?_⟩
   simp only [List.mem_cons,List.not_mem_nil,or_false] at hi
   rcases hi with rfl | rfl
   ·refine ⟨_,rfl,fun K' hK=>?_⟩
    go_simp
    obtain ⟨K,ge_b0,at_b0,ge_d,at_d,ne_b0_d⟩:=HH.out
    refine hK.out _ _ (fun _ _=>⟨Nat.lt_of_lt_of_le bxl (K.alloc K.size _).size,Nat.lt_of_lt_of_le byl (K.alloc K.size _).size⟩) (Or.inr (Or.inr (Or.inr (Or.inr (Or.inr (Or.inr (Or.inr (Or.inl (⟨b0,w1.heap.size,d,rfl,rfl,rfl,K.alloc K.size _,ge_b0,at_b0.below (Below.alloc_self' w1 _) (Nat.le_refl _),K.size,slot_new w1 _ _,ge_d,at_d.below (Below.alloc_self' w1 _) (Nat.le_refl _),(Nat.ne_of_lt at_b0.lt),ne_b0_d,(Nat.ne_of_gt at_d.lt)⟩)))))))))
   ·refine ⟨_,rfl,fun K' hK=>?_⟩
    go_simp
    obtain ⟨K,ge_b0,at_b0,ge_d,at_d,ne_b0_d⟩:=HH.out
    refine (den_pos by' p q w1 (HY.out.below K).at' HY.out.pos).mono ?_
    rintro e w2 ⟨rfl,hw2⟩
    rw [hw2]
    clear hw2 w2
    refine hK.out _ _ (fun _ _=>⟨Nat.lt_of_lt_of_le bxl K.size,Nat.lt_of_lt_of_le byl K.size⟩) (Or.inr (Or.inr (Or.inr (Or.inr (Or.inr (Or.inr (Or.inr (Or.inr (Or.inl (⟨b0,d,rfl,rfl,rfl,K,ge_b0,at_b0,ge_d,at_d,ne_b0_d⟩))))))))))
  ·obtain ⟨b0,b1,d,rfl,rfl,rfl,HH⟩:=hI
   right
   refine ⟨3,[13],rfl,by kernel_rfl,by simp,fun i hi=>?_⟩
   simp only [List.mem_cons,List.not_mem_nil,or_false] at hi
   subst hi
   refine ⟨_,rfl,fun K' hK=>?_⟩
   go_simp
   obtain ⟨K,ge_b0,at_b0,ge_b1,at_b1,ge_d,at_d,ne_b0_b1,ne_b0_d,ne_b1_d⟩:=HH.out
   refine (den_pos by' p q w1 (HY.out.below K).at' HY.out.pos).mono ?_
   rintro e w2 ⟨rfl,hw2⟩
   rw [hw2]
   clear hw2 w2
   refine hK.out _ _ (fun _ _=>⟨Nat.lt_of_lt_of_le bxl K.size,Nat.lt_of_lt_of_le byl K.size⟩) (Or.inr (Or.inr (Or.inr (Or.inr (Or.inr (Or.inr (Or.inr (Or.inr (Or.inr (Or.inl (⟨b0,b1,d,rfl,rfl,rfl,K,ge_b0,at_b0,ge_b1,at_b1,ge_d,at_d,ne_b0_b1,ne_b0_d,ne_b1_d⟩)))))))))))
  ·obtain ⟨b0,d,rfl,rfl,rfl,HH⟩:=hI
   right
   refine ⟨3,[9],rfl,by kernel_rfl,by simp,fun i hi=>?_⟩
   simp only [List.mem_cons,List.not_mem_nil,or_false] at hi
   subst hi
   refine ⟨_,rfl,fun K' hK=>?_⟩
   go_simp
   obtain ⟨K,ge_b0,at_b0,ge_d,at_d,ne_b0_d⟩:=HH.out
   refine hK.out _ _ (fun _ _=>⟨Nat.lt_of_lt_of_le bxl (K.alloc K.size _).size,Nat.lt_of_lt_of_le byl (K.alloc K.size _).size⟩) (Or.inr (Or.inr (Or.inr (Or.inr (Or.inr (Or.inr (Or.inr (Or.inr (Or.inr (Or.inl (⟨b0,w1.heap.size,d,rfl,rfl,rfl,K.alloc K.size _,ge_b0,at_b0.below (Below.alloc_self' w1 _) (Nat.le_refl _),K.size,slot_new w1 _ _,ge_d,at_d.below (Below.alloc_self' w1 _) (Nat.le_refl _),(Nat.ne_of_lt at_b0.lt),ne_b0_d,(Nat.ne_of_gt at_d.lt)⟩)))))))))))
  ·obtain ⟨b0,b1,d,rfl,rfl,rfl,HH⟩:=hI
   right
   refine ⟨2,[14],rfl,by kernel_rfl,by simp,fun i hi=>?_⟩
   simp only [List.mem_cons,List.not_mem_nil,or_false] at hi
   subst hi
   refine ⟨_,rfl,fun K' hK=>?_⟩
   go_simp
   obtain ⟨K,ge_b0,at_b0,ge_b1,at_b1,ge_d,at_d,ne_b0_b1,ne_b0_d,ne_b1_d⟩:=HH.out
   refine (Mul_at 0 2 b1 d by' 1 q 1 m w1 at_b1 at_d.at (HY.out.below K).at'.den HB.out.2.2.2.1 HB.out.2.1 (by omega) (by have:=HB.out.2.2.2.2; omega)).mono ?_
   rintro e w2 ⟨rfl,h2,u2⟩
   refine hK.out _ _ (fun _ _=>⟨Nat.lt_of_lt_of_le bxl (K.trans (u2.below K.size ge_b1)).size,Nat.lt_of_lt_of_le byl (K.trans (u2.below K.size ge_b1)).size⟩) (Or.inr (Or.inr (Or.inr (Or.inr (Or.inr (Or.inr (Or.inr (Or.inr (Or.inr (Or.inr (Or.inl (⟨b0,b1,d,rfl,rfl,rfl,(K.trans (u2.below K.size ge_b1)),ge_b0,at_b0.upd u2 at_b1 ne_b0_b1,ge_b1,h2,ge_d,at_d.upd u2 at_b1 (Ne.symm ne_b1_d),ne_b0_b1,ne_b0_d,ne_b1_d⟩))))))))))))
  ·obtain ⟨b0,b1,d,rfl,rfl,rfl,HH⟩:=hI
   right
   refine ⟨1,[15],rfl,by kernel_rfl,by simp,fun i hi=>?_⟩
   simp only [List.mem_cons,List.not_mem_nil,or_false] at hi
   subst hi
   refine ⟨_,rfl,fun K' hK=>?_⟩
   go_simp
   obtain ⟨K,ge_b0,at_b0,ge_b1,at_b1,ge_d,at_d,ne_b0_b1,ne_b0_d,ne_b1_d⟩:=HH.out
   refine (SetFrac_any bz b0 0 b1 0 (0 * p) (1 * q) (m + 1) w1 (HZ.out.below K) at_b0.at at_b1.at HN.out (by rw [Int.zero_mul]; exact pw_pos _) (by rw [Int.one_mul]; exact Nat.lt_of_lt_of_le HB.out.2.1 (pw_le (by omega))) (by have:=HB.out.2.2.2.2; omega)).mono ?_
   rintro e w2 ⟨rfl,A,B,r1,r2,r3,r4,u2⟩
   have E:Rt w2 bz 0 1∧Upd bz w w2:=⟨by obtain ⟨rfl,rfl⟩:=zero_low r1 r2 HN.out; exact r1,(Upd.of_below K).trans u2⟩
   have Z:w.heap.size≤w2.heap.size:=Nat.le_trans K.size u2.size
   refine hK.out _ _ (fun _ _=>⟨Nat.lt_of_lt_of_le bxl Z,Nat.lt_of_lt_of_le byl Z⟩) (Or.inr (Or.inr (Or.inr (Or.inr (Or.inr (Or.inr (Or.inr (Or.inr (Or.inr (Or.inr (Or.inr (Or.inl (⟨b0,b1,d,rfl,rfl,rfl,Z,E⟩)))))))))))))
  ·obtain ⟨b0,b1,d,rfl,rfl,rfl,HH⟩:=hI
   right
   refine ⟨0,[16],rfl,by kernel_rfl,by simp,fun i hi=>?_⟩
   simp only [List.mem_cons,List.not_mem_nil,or_false] at hi
   subst hi
   refine ⟨_,rfl,fun K' hK=>?_⟩
   go_simp
   obtain ⟨Z,E⟩:=HH.out
   refine hK.out _ _ (fun _ h=>absurd rfl h) (Or.inr (Or.inr (Or.inr (Or.inr (Or.inr (Or.inr (Or.inr (Or.inr (Or.inr (Or.inr (Or.inr (Or.inr (⟨b0,b1,d,rfl,rfl,rfl,Z,E⟩)))))))))))))
  ·obtain ⟨b0,b1,d,rfl,rfl,rfl,HH⟩:=hI
   obtain ⟨Z,E⟩:=HH.out
   left
   refine ⟨by kernel_rfl,?_⟩
   have HE:Hid (Rt w1 bz 0 1∧Upd bz w w1):=E
   clear HH E Z
   go_wp2
   go_ret
   exact ⟨rfl,HE.out⟩
end Go.Proofs.YtnkjadpmigpneaaGreatDoor
