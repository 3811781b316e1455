import Derived.Test.YtnkjadpmigpneaaGreatDoorRaK
import Derived.Test.YtnkjadpmigpneaaGreatDoorJsX
import Derived.Test.YtnkjadpmigpneaaGreatDoorJsG
set_option linter.unusedSimpArgs false
set_option linter.unusedVariables false
set_option maxRecDepth 100000
namespace Go.Proofs.YtnkjadpmigpneaaGreatDoor
open Go.RowKit
set_option maxHeartbeats 8000000 in
theorem RQuo_any (bz bx by':Nat) (P Q p q:Int) (m:Nat) (w:World) (hz:RSlot w bz) (hx:Rt w bx P Q) (hy:Rt w by' p q) (hb:Rb P Q p q m) (hp:p ≠ 0) :
  Calls Tryz.prog 44 #[.pointer (some ⟨bz,0,none⟩),.pointer (some ⟨bx,0,none⟩),.pointer (some ⟨by',0,none⟩)] w fun e w'=>e = .returned (.pointer (some ⟨bz,0,none⟩))∧∃ A B:Int,Rt w' bz A B∧A * (Q * p) = (P * q) * B∧A.natAbs≤(P * q).natAbs∧B.natAbs≤(Q * p).natAbs∧Upd bz w w':=by
 have bxl:=hx.at'.num.lt
 have byl:=hy.at'.num.lt
 have HX:Hid (Rt w bx P Q):=hx
 have HY:Hid (Rt w by' p q):=hy
 have HZ:Hid (RSlot w bz):=hz
 have HB:Hid (Rb P Q p q m):=hb
 have HN:Hid (Q * p ≠ 0):=Int.mul_ne_zero (Int.ne_of_gt hx.pos) hp
 clear hx hy hz hb hp
 go_enter Tryz.func44,Tryz.ntmps44
 go_wp2_with fail
 refine wp_region_G (fun w'=>bx < w'.heap.size∧by' < w'.heap.size) 16 (by kernel_rfl) ⟨by simpa using bxl,by simpa using byl⟩ (fun hHeld=>?_)
 refine wpAnyG_take (i:=0) (v:=?v0x1) rfl (by kernel_rfl) (fun _ _ _ h=>h) (Or.inl ⟨by rfl,?y0x1⟩) hHeld ?r0x1
 case y0x1=>(intro wS hSw; obtain ⟨s1,s2⟩:=hSw; go_simp; try with_reducible rfl)
 try simp only [Act.put,List.setIfInBounds_toArray,List.set_cons_zero,List.set_cons_succ]
 refine wpAnyG_take (i:=2) (v:=?v2x2) rfl (by kernel_rfl) (fun _ _ _ h=>h) (Or.inl ⟨by rfl,?y2x2⟩) hHeld ?r2x2
 case y2x2=>(intro wS hSw; obtain ⟨s1,s2⟩:=hSw; go_simp; try with_reducible rfl)
 try simp only [Act.put,List.setIfInBounds_toArray,List.set_cons_zero,List.set_cons_succ]
 refine wpAnyG_take (i:=3) (v:=?v3x3) rfl (by kernel_rfl) (fun _ _ _ h=>h) (Or.inl ⟨by rfl,?y3x3⟩) hHeld ?r3x3
 case y3x3=>(intro wS hSw; obtain ⟨s1,s2⟩:=hSw; go_simp; try with_reducible rfl)
 try simp only [Act.put,List.setIfInBounds_toArray,List.set_cons_zero,List.set_cons_succ]
 refine wpAnyG_take (i:=4) (v:=?v4x4) rfl (by kernel_rfl) (fun _ _ _ h=>h) (Or.inl ⟨by rfl,?y4x4⟩) hHeld ?r4x4
 case y4x4=>(intro wS hSw; obtain ⟨s1,s2⟩:=hSw; go_simp; try with_reducible rfl)
 try simp only [Act.put,List.setIfInBounds_toArray,List.set_cons_zero,List.set_cons_succ]
 refine wpAnyG_take (i:=5) (v:=?v5x5) rfl (by kernel_rfl) (fun _ _ _ h=>h) (Or.inl ⟨by rfl,?y5x5⟩) hHeld ?r5x5
 case y5x5=>(intro wS hSw; obtain ⟨s1,s2⟩:=hSw; go_simp; try with_reducible rfl)
 try simp only [Act.put,List.setIfInBounds_toArray,List.set_cons_zero,List.set_cons_succ]
 refine wpAnyG_take (i:=9) (v:=?v9x6) rfl (by kernel_rfl) (fun _ _ _ h=>h) (Or.inl ⟨by rfl,?y9x6⟩) hHeld ?r9x6
 case y9x6=>(intro wS hSw; obtain ⟨s1,s2⟩:=hSw; go_simp; try with_reducible rfl)
 try simp only [Act.put,List.setIfInBounds_toArray,List.set_cons_zero,List.set_cons_succ]
 refine wpAnyG_take (i:=11) (v:=?v11x7) rfl (by kernel_rfl) (fun _ _ _ h=>h) (Or.inl ⟨by rfl,?y11x7⟩) hHeld ?r11x7
 case y11x7=>(intro wS hSw; obtain ⟨s1,s2⟩:=hSw; go_simp; try with_reducible rfl)
 try simp only [Act.put,List.setIfInBounds_toArray,List.set_cons_zero,List.set_cons_succ]
 refine wpAnyG_take (i:=12) (v:=?v12x8) rfl (by kernel_rfl) (fun _ _ _ h=>h) (Or.inl ⟨by rfl,?y12x8⟩) hHeld ?r12x8
 case y12x8=>(intro wS hSw; obtain ⟨s1,s2⟩:=hSw; go_simp; try with_reducible rfl)
 try simp only [Act.put,List.setIfInBounds_toArray,List.set_cons_zero,List.set_cons_succ]
 refine wpAnyG_take (i:=13) (v:=?v13x9) rfl (by kernel_rfl) (fun _ _ _ h=>h) (Or.inl ⟨by rfl,?y13x9⟩) hHeld ?r13x9
 case y13x9=>(intro wS hSw; obtain ⟨s1,s2⟩:=hSw; go_simp; try with_reducible rfl)
 try simp only [Act.put,List.setIfInBounds_toArray,List.set_cons_zero,List.set_cons_succ]
 clear hHeld
 refine wpAnyG_inv (fun n l a w1=>(n = 8∧l = #[true,false,true,true,true,true,false,false,false,true,false,true,true,true,false,false,false]∧a = { tmps:=#[.pointer (some ⟨bz,0,none⟩),.pointer (some ⟨bx,0,none⟩),.pointer (some ⟨by',0,none⟩),undef,undef,undef,.pointer none,.pointer (some ⟨bz,0,none⟩),undef,.pointer (some ⟨bx,0,none⟩),.pointer (some ⟨bx,0,none⟩),.pointer (some ⟨bx,0,none⟩),.pointer (some ⟨by',0,none⟩),undef,undef,undef,.pointer (some ⟨bx,0,none⟩),undef,.pointer (some ⟨by',0,none⟩),.pointer (some ⟨by',0,none⟩),.pointer (some ⟨by',0,none⟩),undef,undef],defers:=[] }∧Hid (Below w.heap.size w w1))∨(∃ b0:Nat,n = 7∧l = #[true,true,true,true,true,true,false,false,false,true,false,true,true,true,false,false,false]∧a = { tmps:=#[.pointer (some ⟨bz,0,none⟩),.pointer (some ⟨bx,0,none⟩),.pointer (some ⟨by',0,none⟩),undef,undef,undef,.pointer none,.pointer (some ⟨bz,0,none⟩),.pointer (some ⟨b0,0,none⟩),.pointer (some ⟨bx,0,none⟩),.pointer (some ⟨bx,0,none⟩),.pointer (some ⟨bx,0,none⟩),.pointer (some ⟨by',0,none⟩),undef,undef,undef,.pointer (some ⟨bx,0,none⟩),undef,.pointer (some ⟨by',0,none⟩),.pointer (some ⟨by',0,none⟩),.pointer (some ⟨by',0,none⟩),undef,undef],defers:=[] }∧Hid (Below w.heap.size w w1∧w.heap.size≤b0∧Slot w1 b0))∨(∃ b1:Nat,n = 7∧l = #[true,false,true,true,true,true,false,false,true,true,false,true,true,true,false,false,false]∧a = { tmps:=#[.pointer (some ⟨bz,0,none⟩),.pointer (some ⟨bx,0,none⟩),.pointer (some ⟨by',0,none⟩),undef,undef,undef,.pointer none,.pointer (some ⟨bz,0,none⟩),undef,.pointer (some ⟨bx,0,none⟩),.pointer (some ⟨bx,0,none⟩),.pointer (some ⟨bx,0,none⟩),.pointer (some ⟨by',0,none⟩),undef,undef,.pointer (some ⟨b1,0,none⟩),.pointer (some ⟨bx,0,none⟩),undef,.pointer (some ⟨by',0,none⟩),.pointer (some ⟨by',0,none⟩),.pointer (some ⟨by',0,none⟩),undef,undef],defers:=[] }∧Hid (Below w.heap.size w w1∧w.heap.size≤b1∧Slot w1 b1))∨(∃ b0 b1:Nat,n = 6∧l = #[true,true,true,true,true,true,false,false,true,true,false,true,true,true,false,false,false]∧a = { tmps:=#[.pointer (some ⟨bz,0,none⟩),.pointer (some ⟨bx,0,none⟩),.pointer (some ⟨by',0,none⟩),undef,undef,undef,.pointer none,.pointer (some ⟨bz,0,none⟩),.pointer (some ⟨b0,0,none⟩),.pointer (some ⟨bx,0,none⟩),.pointer (some ⟨bx,0,none⟩),.pointer (some ⟨bx,0,none⟩),.pointer (some ⟨by',0,none⟩),undef,undef,.pointer (some ⟨b1,0,none⟩),.pointer (some ⟨bx,0,none⟩),undef,.pointer (some ⟨by',0,none⟩),.pointer (some ⟨by',0,none⟩),.pointer (some ⟨by',0,none⟩),undef,undef],defers:=[] }∧Hid (Below w.heap.size w w1∧w.heap.size≤b0∧Slot w1 b0∧w.heap.size≤b1∧Slot w1 b1∧b0 ≠ b1))∨(n = 7∧l = #[true,false,true,true,true,true,true,false,false,true,false,true,true,true,false,false,false]∧a = { tmps:=#[.pointer (some ⟨bz,0,none⟩),.pointer (some ⟨bx,0,none⟩),.pointer (some ⟨by',0,none⟩),undef,undef,undef,.pointer none,.pointer (some ⟨bz,0,none⟩),undef,.pointer (some ⟨bx,0,none⟩),.pointer (some ⟨bx,0,none⟩),.pointer (some ⟨bx,0,none⟩),.pointer (some ⟨by',0,none⟩),.pointer (some ⟨by',2,none⟩),undef,undef,.pointer (some ⟨bx,0,none⟩),undef,.pointer (some ⟨by',0,none⟩),.pointer (some ⟨by',0,none⟩),.pointer (some ⟨by',0,none⟩),undef,undef],defers:=[] }∧Hid (Below w.heap.size w w1))∨(∃ b0:Nat,n = 6∧l = #[true,true,true,true,true,true,true,false,false,true,false,true,true,true,false,false,false]∧a = { tmps:=#[.pointer (some ⟨bz,0,none⟩),.pointer (some ⟨bx,0,none⟩),.pointer (some ⟨by',0,none⟩),undef,undef,undef,.pointer none,.pointer (some ⟨bz,0,none⟩),.pointer (some ⟨b0,0,none⟩),.pointer (some ⟨bx,0,none⟩),.pointer (some ⟨bx,0,none⟩),.pointer (some ⟨bx,0,none⟩),.pointer (some ⟨by',0,none⟩),.pointer (some ⟨by',2,none⟩),undef,undef,.pointer (some ⟨bx,0,none⟩),undef,.pointer (some ⟨by',0,none⟩),.pointer (some ⟨by',0,none⟩),.pointer (some ⟨by',0,none⟩),undef,undef],defers:=[] }∧Hid (Below w.heap.size w w1∧w.heap.size≤b0∧Slot w1 b0))∨(∃ b1:Nat,n = 6∧l = #[true,false,true,true,true,true,true,false,true,true,false,true,true,true,false,false,false]∧a = { tmps:=#[.pointer (some ⟨bz,0,none⟩),.pointer (some ⟨bx,0,none⟩),.pointer (some ⟨by',0,none⟩),undef,undef,undef,.pointer none,.pointer (some ⟨bz,0,none⟩),undef,.pointer (some ⟨bx,0,none⟩),.pointer (some ⟨bx,0,none⟩),.pointer (some ⟨bx,0,none⟩),.pointer (some ⟨by',0,none⟩),.pointer (some ⟨by',2,none⟩),undef,.pointer (some ⟨b1,0,none⟩),.pointer (some ⟨bx,0,none⟩),undef,.pointer (some ⟨by',0,none⟩),.pointer (some ⟨by',0,none⟩),.pointer (some ⟨by',0,none⟩),undef,undef],defers:=[] }∧Hid (Below w.heap.size w w1∧w.heap.size≤b1∧Slot w1 b1))∨(∃ b0 b1:Nat,n = 5∧l = #[true,true,true,true,true,true,true,false,true,true,false,true,true,true,false,false,false]∧a = { tmps:=#[.pointer (some ⟨bz,0,none⟩),.pointer (some ⟨bx,0,none⟩),.pointer (some ⟨by',0,none⟩),undef,undef,undef,.pointer none,.pointer (some ⟨bz,0,none⟩),.pointer (some ⟨b0,0,none⟩),.pointer (some ⟨bx,0,none⟩),.pointer (some ⟨bx,0,none⟩),.pointer (some ⟨bx,0,none⟩),.pointer (some ⟨by',0,none⟩),.pointer (some ⟨by',2,none⟩),undef,.pointer (some ⟨b1,0,none⟩),.pointer (some ⟨bx,0,none⟩),undef,.pointer (some ⟨by',0,none⟩),.pointer (some ⟨by',0,none⟩),.pointer (some ⟨by',0,none⟩),undef,undef],defers:=[] }∧Hid (Below w.heap.size w w1∧w.heap.size≤b0∧Slot w1 b0∧w.heap.size≤b1∧Slot w1 b1∧b0 ≠ b1))∨(∃ b0:Nat,n = 5∧l = #[true,true,true,true,true,true,true,true,false,true,false,true,true,true,false,false,false]∧a = { tmps:=#[.pointer (some ⟨bz,0,none⟩),.pointer (some ⟨bx,0,none⟩),.pointer (some ⟨by',0,none⟩),undef,undef,undef,.pointer none,.pointer (some ⟨bz,0,none⟩),.pointer (some ⟨b0,0,none⟩),.pointer (some ⟨bx,0,none⟩),.pointer (some ⟨bx,0,none⟩),.pointer (some ⟨bx,0,none⟩),.pointer (some ⟨by',0,none⟩),.pointer (some ⟨by',2,none⟩),.pointer (some ⟨b0,0,none⟩),undef,.pointer (some ⟨bx,0,none⟩),undef,.pointer (some ⟨by',0,none⟩),.pointer (some ⟨by',0,none⟩),.pointer (some ⟨by',0,none⟩),undef,undef],defers:=[] }∧Hid (Below w.heap.size w w1∧w.heap.size≤b0∧BigAt w1 b0 (P * q)))∨(∃ b0 b1:Nat,n = 4∧l = #[true,true,true,true,true,true,true,true,true,true,false,true,true,true,false,false,false]∧a = { tmps:=#[.pointer (some ⟨bz,0,none⟩),.pointer (some ⟨bx,0,none⟩),.pointer (some ⟨by',0,none⟩),undef,undef,undef,.pointer none,.pointer (some ⟨bz,0,none⟩),.pointer (some ⟨b0,0,none⟩),.pointer (some ⟨bx,0,none⟩),.pointer (some ⟨bx,0,none⟩),.pointer (some ⟨bx,0,none⟩),.pointer (some ⟨by',0,none⟩),.pointer (some ⟨by',2,none⟩),.pointer (some ⟨b0,0,none⟩),.pointer (some ⟨b1,0,none⟩),.pointer (some ⟨bx,0,none⟩),undef,.pointer (some ⟨by',0,none⟩),.pointer (some ⟨by',0,none⟩),.pointer (some ⟨by',0,none⟩),undef,undef],defers:=[] }∧Hid (Below w.heap.size w w1∧w.heap.size≤b0∧BigAt w1 b0 (P * q)∧w.heap.size≤b1∧Slot w1 b1∧b0 ≠ b1))∨(∃ b0:Nat,n = 4∧l = #[true,true,true,true,true,true,true,true,false,true,true,true,true,true,false,false,false]∧a = { tmps:=#[.pointer (some ⟨bz,0,none⟩),.pointer (some ⟨bx,0,none⟩),.pointer (some ⟨by',0,none⟩),undef,undef,undef,.pointer none,.pointer (some ⟨bz,0,none⟩),.pointer (some ⟨b0,0,none⟩),.pointer (some ⟨bx,0,none⟩),.pointer (some ⟨bx,0,none⟩),.pointer (some ⟨bx,0,none⟩),.pointer (some ⟨by',0,none⟩),.pointer (some ⟨by',2,none⟩),.pointer (some ⟨b0,0,none⟩),undef,.pointer (some ⟨bx,0,none⟩),.pointer (some ⟨bx,2,none⟩),.pointer (some ⟨by',0,none⟩),.pointer (some ⟨by',0,none⟩),.pointer (some ⟨by',0,none⟩),undef,undef],defers:=[] }∧Hid (Below w.heap.size w w1∧w.heap.size≤b0∧BigAt w1 b0 (P * q)))∨(∃ b0 b1:Nat,n = 3∧l = #[true,true,true,true,true,true,true,true,true,true,true,true,true,true,false,false,false]∧a = { tmps:=#[.pointer (some ⟨bz,0,none⟩),.pointer (some ⟨bx,0,none⟩),.pointer (some ⟨by',0,none⟩),undef,undef,undef,.pointer none,.pointer (some ⟨bz,0,none⟩),.pointer (some ⟨b0,0,none⟩),.pointer (some ⟨bx,0,none⟩),.pointer (some ⟨bx,0,none⟩),.pointer (some ⟨bx,0,none⟩),.pointer (some ⟨by',0,none⟩),.pointer (some ⟨by',2,none⟩),.pointer (some ⟨b0,0,none⟩),.pointer (some ⟨b1,0,none⟩),.pointer (some ⟨bx,0,none⟩),.pointer (some ⟨bx,2,none⟩),.pointer (some ⟨by',0,none⟩),.pointer (some ⟨by',0,none⟩),.pointer (some ⟨by',0,none⟩),undef,undef],defers:=[] }∧Hid (Below w.heap.size w w1∧w.heap.size≤b0∧BigAt w1 b0 (P * q)∧w.heap.size≤b1∧Slot w1 b1∧b0 ≠ b1))∨(∃ b0 b1:Nat,n = 2∧l = #[true,true,true,true,true,true,true,true,true,true,true,true,true,true,true,false,false]∧a = { tmps:=#[.pointer (some ⟨bz,0,none⟩),.pointer (some ⟨bx,0,none⟩),.pointer (some ⟨by',0,none⟩),undef,undef,undef,.pointer none,.pointer (some ⟨bz,0,none⟩),.pointer (some ⟨b0,0,none⟩),.pointer (some ⟨bx,0,none⟩),.pointer (some ⟨bx,0,none⟩),.pointer (some ⟨bx,0,none⟩),.pointer (some ⟨by',0,none⟩),.pointer (some ⟨by',2,none⟩),.pointer (some ⟨b0,0,none⟩),.pointer (some ⟨b1,0,none⟩),.pointer (some ⟨bx,0,none⟩),.pointer (some ⟨bx,2,none⟩),.pointer (some ⟨by',0,none⟩),.pointer (some ⟨by',0,none⟩),.pointer (some ⟨by',0,none⟩),.pointer (some ⟨b1,0,none⟩),undef],defers:=[] }∧Hid (Below w.heap.size w w1∧w.heap.size≤b0∧BigAt w1 b0 (P * q)∧w.heap.size≤b1∧BigAt w1 b1 (Q * p)∧b0 ≠ b1))∨(∃ b0 b1:Nat,n = 1∧l = #[true,true,true,true,true,true,true,true,true,true,true,true,true,true,true,true,false]∧a = { tmps:=#[.pointer (some ⟨bz,0,none⟩),.pointer (some ⟨bx,0,none⟩),.pointer (some ⟨by',0,none⟩),undef,undef,undef,.pointer none,.pointer (some ⟨bz,0,none⟩),.pointer (some ⟨b0,0,none⟩),.pointer (some ⟨bx,0,none⟩),.pointer (some ⟨bx,0,none⟩),.pointer (some ⟨bx,0,none⟩),.pointer (some ⟨by',0,none⟩),.pointer (some ⟨by',2,none⟩),.pointer (some ⟨b0,0,none⟩),.pointer (some ⟨b1,0,none⟩),.pointer (some ⟨bx,0,none⟩),.pointer (some ⟨bx,2,none⟩),.pointer (some ⟨by',0,none⟩),.pointer (some ⟨by',0,none⟩),.pointer (some ⟨by',0,none⟩),.pointer (some ⟨b1,0,none⟩),.pointer (some ⟨bz,0,none⟩)],defers:=[] }∧Hid (w.heap.size≤w1.heap.size∧∃ A B:Int,Rt w1 bz A B∧A * (Q * p) = (P * q) * B∧A.natAbs≤(P * q).natAbs∧B.natAbs≤(Q * p).natAbs∧Upd bz w w1))∨(∃ b0 b1:Nat,n = 0∧l = #[true,true,true,true,true,true,true,true,true,true,true,true,true,true,true,true,true]∧a = { tmps:=#[.pointer (some ⟨bz,0,none⟩),.pointer (some ⟨bx,0,none⟩),.pointer (some ⟨by',0,none⟩),undef,undef,undef,.pointer (some ⟨bz,0,none⟩),.pointer (some ⟨bz,0,none⟩),.pointer (some ⟨b0,0,none⟩),.pointer (some ⟨bx,0,none⟩),.pointer (some ⟨bx,0,none⟩),.pointer (some ⟨bx,0,none⟩),.pointer (some ⟨by',0,none⟩),.pointer (some ⟨by',2,none⟩),.pointer (some ⟨b0,0,none⟩),.pointer (some ⟨b1,0,none⟩),.pointer (some ⟨bx,0,none⟩),.pointer (some ⟨bx,2,none⟩),.pointer (some ⟨by',0,none⟩),.pointer (some ⟨by',0,none⟩),.pointer (some ⟨by',0,none⟩),.pointer (some ⟨b1,0,none⟩),.pointer (some ⟨bz,0,none⟩)],defers:=[] }∧Hid (w.heap.size≤w1.heap.size∧∃ A B:Int,Rt w1 bz A B∧A * (Q * p) = (P * q) * B∧A.natAbs≤(P * q).natAbs∧B.natAbs≤(Q * p).natAbs∧Upd bz w w1))) ?steps _ _ _ _ ?start
 case start=>exact Or.inl (⟨rfl,rfl,rfl,(Below.refl w.heap.size w).drew⟩)
 case steps =>
  intro n l a w1 hI
  rcases hI with hI | hI | hI | hI | hI | hI | hI | hI | hI | hI | hI | hI | hI | hI | hI
  ·obtain ⟨rfl,rfl,rfl,HH⟩:=hI
   right
   refine ⟨7,[1,6,8],rfl,by kernel_rfl,by simp,fun i hi=>?_⟩
   simp only [List.mem_cons,List.not_mem_nil,or_false] at hi
   rcases hi with rfl | rfl | rfl
   ·refine ⟨_,rfl,fun K' hK=>?_⟩
    go_simp
    have K:=HH.out
    refine hK.out _ _ (fun _ _=>⟨Nat.lt_of_lt_of_le bxl (K.alloc K.size _).size,Nat.lt_of_lt_of_le byl (K.alloc K.size _).size⟩) (Or.inr (Or.inl (⟨w1.heap.size,rfl,rfl,rfl,K.alloc K.size _,K.size,slot_new w1 _ _⟩)))
   ·refine ⟨_,rfl,fun K' hK=>?_⟩
    go_simp
    have K:=HH.out
    refine (den_pos by' p q w1 (HY.out.below K).at' HY.out.pos).mono ?_
    rintro e w2 ⟨rfl,hw2⟩
    rw [hw2]
    clear hw2 w2
    refine hK.out _ _ (fun _ _=>⟨Nat.lt_of_lt_of_le bxl K.size,Nat.lt_of_lt_of_le byl K.size⟩) (Or.inr (Or.inr (Or.inr (Or.inr (Or.inl (⟨rfl,rfl,rfl,K⟩))))))
   ·refine ⟨_,rfl,fun K' hK=>?_⟩
    go_simp
    have K:=HH.out
    refine hK.out _ _ (fun _ _=>⟨Nat.lt_of_lt_of_le bxl (K.alloc K.size _).size,Nat.lt_of_lt_of_le byl (K.alloc K.size _).size⟩) (Or.inr (Or.inr (Or.inl (⟨w1.heap.size,rfl,rfl,rfl,K.alloc K.size _,K.size,slot_new w1 _ _⟩))))
  ·obtain ⟨b0,rfl,rfl,rfl,HH⟩:=hI
   right
   refine ⟨6,[6,8],rfl,by kernel_rfl,by simp,fun i hi=>?_⟩
   simp only [List.mem_cons,List.not_mem_nil,or_false] at hi
   rcases hi with rfl | rfl
   ·refine ⟨_,rfl,fun K' hK=>?_⟩
    go_simp
    obtain ⟨K,ge_b0,at_b0⟩:=HH.out
    refine (den_pos by' p q w1 (HY.out.below K).at' HY.out.pos).mono ?_
    rintro e w2 ⟨rfl,hw2⟩
    rw [hw2]
    clear hw2 w2
    refine hK.out _ _ (fun _ _=>⟨Nat.lt_of_lt_of_le bxl K.size,Nat.lt_of_lt_of_le byl K.size⟩) (Or.inr (Or.inr (Or.inr (Or.inr (Or.inr (Or.inl (⟨b0,rfl,rfl,rfl,K,ge_b0,at_b0⟩)))))))
   ·refine ⟨_,rfl,fun K' hK=>?_⟩
    go_simp
    obtain ⟨K,ge_b0,at_b0⟩:=HH.out
    refine hK.out _ _ (fun _ _=>⟨Nat.lt_of_lt_of_le bxl (K.alloc K.size _).size,Nat.lt_of_lt_of_le byl (K.alloc K.size _).size⟩) (Or.inr (Or.inr (Or.inr (Or.inl (⟨b0,w1.heap.size,rfl,rfl,rfl,K.alloc K.size _,ge_b0,at_b0.below (Below.alloc_self' w1 _) (Nat.le_refl _),K.size,slot_new w1 _ _,(Nat.ne_of_lt at_b0.lt)⟩)))))
  ·obtain ⟨b1,rfl,rfl,rfl,HH⟩:=hI
   right
   refine ⟨6,[1,6],rfl,by kernel_rfl,by simp,fun i hi=>?_⟩
   simp only [List.mem_cons,List.not_mem_nil,or_false] at hi
   rcases hi with rfl | rfl
   ·refine ⟨_,rfl,fun K' hK=>?_⟩
    go_simp
    obtain ⟨K,ge_b1,at_b1⟩:=HH.out
    refine hK.out _ _ (fun _ _=>⟨Nat.lt_of_lt_of_le bxl (K.alloc K.size _).size,Nat.lt_of_lt_of_le byl (K.alloc K.size _).size⟩) (Or.inr (Or.inr (Or.inr (Or.inl (⟨w1.heap.size,b1,rfl,rfl,rfl,K.alloc K.size _,K.size,slot_new w1 _ _,ge_b1,at_b1.below (Below.alloc_self' w1 _) (Nat.le_refl _),(Nat.ne_of_gt at_b1.lt)⟩)))))
   ·refine ⟨_,rfl,fun K' hK=>?_⟩
    go_simp
    obtain ⟨K,ge_b1,at_b1⟩:=HH.out
    refine (den_pos by' p q w1 (HY.out.below K).at' HY.out.pos).mono ?_
    rintro e w2 ⟨rfl,hw2⟩
    rw [hw2]
    clear hw2 w2
    refine hK.out _ _ (fun _ _=>⟨Nat.lt_of_lt_of_le bxl K.size,Nat.lt_of_lt_of_le byl K.size⟩) (Or.inr (Or.inr (Or.inr (Or.inr (Or.inr (Or.inr (Or.inl (⟨b1,rfl,rfl,rfl,K,ge_b1,at_b1⟩))))))))
  ·obtain ⟨b0,b1,rfl,rfl,rfl,HH⟩:=hI
   right
   refine ⟨5,[6],rfl,by kernel_rfl,by simp,fun i hi=>?_⟩
   simp only [List.mem_cons,List.not_mem_nil,or_false] at hi
   subst hi
   refine ⟨_,rfl,fun K' hK=>?_⟩
   go_simp
   obtain ⟨K,ge_b0,at_b0,ge_b1,at_b1,ne_b0_b1⟩:=HH.out
   refine (den_pos by' p q w1 (HY.out.below K).at' HY.out.pos).mono ?_
   rintro e w2 ⟨rfl,hw2⟩
   rw [hw2]
   clear hw2 w2
   refine hK.out _ _ (fun _ _=>⟨Nat.lt_of_lt_of_le bxl K.size,Nat.lt_of_lt_of_le byl K.size⟩) (Or.inr (Or.inr (Or.inr (Or.inr (Or.inr (Or.inr (Or.inr (Or.inl (⟨b0,b1,rfl,rfl,rfl,K,ge_b0,at_b0,ge_b1,at_b1,ne_b0_b1⟩)))))))))
  ·obtain ⟨rfl,rfl,rfl,HH⟩:=hI
   right
   refine ⟨6,[1,8],rfl,by kernel_rfl,by simp,fun i hi=>?_⟩
   simp only [List.mem_cons,List.not_mem_nil,or_false] at hi
   rcases hi with rfl | rfl
   ·refine ⟨_,rfl,fun K' hK=>?_⟩
    go_simp
    have K:=HH.out
    refine hK.out _ _ (fun _ _=>⟨Nat.lt_of_lt_of_le bxl (K.alloc K.size _).size,Nat.lt_of_lt_of_le byl (K.alloc K.size _).size⟩) (Or.inr (Or.inr (Or.inr (Or.inr (Or.inr (Or.inl (⟨w1.heap.size,rfl,rfl,rfl,K.alloc K.size _,K.size,slot_new w1 _ _⟩)))))))
   ·refine ⟨_,rfl,fun K' hK=>?_⟩
    go_simp
    have K:=HH.out
    refine hK.out _ _ (fun _ _=>⟨Nat.lt_of_lt_of_le bxl (K.alloc K.size _).size,Nat.lt_of_lt_of_le byl (K.alloc K.size _).size⟩) (Or.inr (Or.inr (Or.inr (Or.inr (Or.inr (Or.inr (Or.inl (⟨w1.heap.size,rfl,rfl,rfl,K.alloc K.size _,K.size,slot_new w1 _ _⟩))))))))
  ·obtain ⟨b0,rfl,rfl,rfl,HH⟩:=hI
   right
   refine ⟨5,[7,8],rfl,by kernel_rfl,by simp,fun i hi=>?_⟩
   simp only [List.mem_cons,List.not_mem_nil,or_false] at hi
   rcases hi with rfl | rfl
   ·refine ⟨_,rfl,fun K' hK=>?_⟩
    go_simp
    obtain ⟨K,ge_b0,at_b0⟩:=HH.out
    refine (Mul_at 0 2 b0 bx by' P q m m w1 at_b0 (HX.out.below K).at'.num (HY.out.below K).at'.den HB.out.P HB.out.q HB.out.m1.1 HB.out.m1.1).mono ?_
    rintro e w2 ⟨rfl,h2,u2⟩
    refine hK.out _ _ (fun _ _=>⟨Nat.lt_of_lt_of_le bxl (K.trans (u2.below K.size ge_b0)).size,Nat.lt_of_lt_of_le byl (K.trans (u2.below K.size ge_b0)).size⟩) (Or.inr (Or.inr (Or.inr (Or.inr (Or.inr (Or.inr (Or.inr (Or.inr (Or.inl (⟨b0,rfl,rfl,rfl,(K.trans (u2.below K.size ge_b0)),ge_b0,h2⟩))))))))))
   ·refine ⟨_,rfl,fun K' hK=>?_⟩
    go_simp
    obtain ⟨K,ge_b0,at_b0⟩:=HH.out
    refine hK.out _ _ (fun _ _=>⟨Nat.lt_of_lt_of_le bxl (K.alloc K.size _).size,Nat.lt_of_lt_of_le byl (K.alloc K.size _).size⟩) (Or.inr (Or.inr (Or.inr (Or.inr (Or.inr (Or.inr (Or.inr (Or.inl (⟨b0,w1.heap.size,rfl,rfl,rfl,K.alloc K.size _,ge_b0,at_b0.below (Below.alloc_self' w1 _) (Nat.le_refl _),K.size,slot_new w1 _ _,(Nat.ne_of_lt at_b0.lt)⟩)))))))))
  ·obtain ⟨b1,rfl,rfl,rfl,HH⟩:=hI
   right
   refine ⟨5,[1],rfl,by kernel_rfl,by simp,fun i hi=>?_⟩
   simp only [List.mem_cons,List.not_mem_nil,or_false] at hi
   subst hi
   refine ⟨_,rfl,fun K' hK=>?_⟩
   go_simp
   obtain ⟨K,ge_b1,at_b1⟩:=HH.out
   refine hK.out _ _ (fun _ _=>⟨Nat.lt_of_lt_of_le bxl (K.alloc K.size _).size,Nat.lt_of_lt_of_le byl (K.alloc K.size _).size⟩) (Or.inr (Or.inr (Or.inr (Or.inr (Or.inr (Or.inr (Or.inr (Or.inl (⟨w1.heap.size,b1,rfl,rfl,rfl,K.alloc K.size _,K.size,slot_new w1 _ _,ge_b1,at_b1.below (Below.alloc_self' w1 _) (Nat.le_refl _),(Nat.ne_of_gt at_b1.lt)⟩)))))))))
  ·obtain ⟨b0,b1,rfl,rfl,rfl,HH⟩:=hI
   right
   refine ⟨4,[7],rfl,by kernel_rfl,by simp,fun i hi=>?_⟩
   simp only [List.mem_cons,List.not_mem_nil,or_false] at hi
   subst hi
   refine ⟨_,rfl,fun K' hK=>?_⟩
   go_simp
   obtain ⟨K,ge_b0,at_b0,ge_b1,at_b1,ne_b0_b1⟩:=HH.out
   refine (Mul_at 0 2 b0 bx by' P q m m w1 at_b0 (HX.out.below K).at'.num (HY.out.below K).at'.den HB.out.P HB.out.q HB.out.m1.1 HB.out.m1.1).mono ?_
   rintro e w2 ⟨rfl,h2,u2⟩
   refine hK.out _ _ (fun _ _=>⟨Nat.lt_of_lt_of_le bxl (K.trans (u2.below K.size ge_b0)).size,Nat.lt_of_lt_of_le byl (K.trans (u2.below K.size ge_b0)).size⟩) (Or.inr (Or.inr (Or.inr (Or.inr (Or.inr (Or.inr (Or.inr (Or.inr (Or.inr (Or.inl (⟨b0,b1,rfl,rfl,rfl,(K.trans (u2.below K.size ge_b0)),ge_b0,h2,ge_b1,at_b1.upd u2 (Ne.symm ne_b0_b1),ne_b0_b1⟩)))))))))))
  ·obtain ⟨b0,rfl,rfl,rfl,HH⟩:=hI
   right
   refine ⟨4,[8,10],rfl,by kernel_rfl,by simp,fun i hi=>?_⟩
   simp only [List.mem_cons,List.not_mem_nil,or_false] at hi
   rcases hi with rfl | rfl
   ·refine ⟨_,rfl,fun K' hK=>?_⟩
    go_simp
    obtain ⟨K,ge_b0,at_b0⟩:=HH.out
    refine hK.out _ _ (fun _ _=>⟨Nat.lt_of_lt_of_le bxl (K.alloc K.size _).size,Nat.lt_of_lt_of_le byl (K.alloc K.size _).size⟩) (Or.inr (Or.inr (Or.inr (Or.inr (Or.inr (Or.inr (Or.inr (Or.inr (Or.inr (Or.inl (⟨b0,w1.heap.size,rfl,rfl,rfl,K.alloc K.size _,ge_b0,at_b0.below (Below.alloc_self' w1 _) (Nat.le_refl _),K.size,slot_new w1 _ _,(Nat.ne_of_lt at_b0.lt)⟩)))))))))))
   ·refine ⟨_,rfl,fun K' hK=>?_⟩
    go_simp
    obtain ⟨K,ge_b0,at_b0⟩:=HH.out
    refine (den_pos bx P Q w1 (HX.out.below K).at' HX.out.pos).mono ?_
    rintro e w2 ⟨rfl,hw2⟩
    rw [hw2]
    clear hw2 w2
    refine hK.out _ _ (fun _ _=>⟨Nat.lt_of_lt_of_le bxl K.size,Nat.lt_of_lt_of_le byl K.size⟩) (Or.inr (Or.inr (Or.inr (Or.inr (Or.inr (Or.inr (Or.inr (Or.inr (Or.inr (Or.inr (Or.inl (⟨b0,rfl,rfl,rfl,K,ge_b0,at_b0⟩))))))))))))
  ·obtain ⟨b0,b1,rfl,rfl,rfl,HH⟩:=hI
   right
   refine ⟨3,[10],rfl,by kernel_rfl,by simp,fun i hi=>?_⟩
   simp only [List.mem_cons,List.not_mem_nil,or_false] at hi
   subst hi
   refine ⟨_,rfl,fun K' hK=>?_⟩
   go_simp
   obtain ⟨K,ge_b0,at_b0,ge_b1,at_b1,ne_b0_b1⟩:=HH.out
   refine (den_pos bx P Q w1 (HX.out.below K).at' HX.out.pos).mono ?_
   rintro e w2 ⟨rfl,hw2⟩
   rw [hw2]
   clear hw2 w2
   refine hK.out _ _ (fun _ _=>⟨Nat.lt_of_lt_of_le bxl K.size,Nat.lt_of_lt_of_le byl K.size⟩) (Or.inr (Or.inr (Or.inr (Or.inr (Or.inr (Or.inr (Or.inr (Or.inr (Or.inr (Or.inr (Or.inr (Or.inl (⟨b0,b1,rfl,rfl,rfl,K,ge_b0,at_b0,ge_b1,at_b1,ne_b0_b1⟩)))))))))))))
  ·obtain ⟨b0,rfl,rfl,rfl,HH⟩:=hI
   right
   refine ⟨3,[8],rfl,by kernel_rfl,by simp,fun i hi=>?_⟩
   simp only [List.mem_cons,List.not_mem_nil,or_false] at hi
   subst hi
   refine ⟨_,rfl,fun K' hK=>?_⟩
   go_simp
   obtain ⟨K,ge_b0,at_b0⟩:=HH.out
   refine hK.out _ _ (fun _ _=>⟨Nat.lt_of_lt_of_le bxl (K.alloc K.size _).size,Nat.lt_of_lt_of_le byl (K.alloc K.size _).size⟩) (Or.inr (Or.inr (Or.inr (Or.inr (Or.inr (Or.inr (Or.inr (Or.inr (Or.inr (Or.inr (Or.inr (Or.inl (⟨b0,w1.heap.size,rfl,rfl,rfl,K.alloc K.size _,ge_b0,at_b0.below (Below.alloc_self' w1 _) (Nat.le_refl _),K.size,slot_new w1 _ _,(Nat.ne_of_lt at_b0.lt)⟩)))))))))))))
  ·obtain ⟨b0,b1,rfl,rfl,rfl,HH⟩:=hI
   right
   refine ⟨2,[14],rfl,by kernel_rfl,by simp,fun i hi=>?_⟩
   simp only [List.mem_cons,List.not_mem_nil,or_false] at hi
   subst hi
   refine ⟨_,rfl,fun K' hK=>?_⟩
   go_simp
   obtain ⟨K,ge_b0,at_b0,ge_b1,at_b1,ne_b0_b1⟩:=HH.out
   refine (Mul_at 2 0 b1 bx by' Q p m m w1 at_b1 (HX.out.below K).at'.den (HY.out.below K).at'.num HB.out.Q HB.out.p HB.out.m1.1 HB.out.m1.1).mono ?_
   rintro e w2 ⟨rfl,h2,u2⟩
   refine hK.out _ _ (fun _ _=>⟨Nat.lt_of_lt_of_le bxl (K.trans (u2.below K.size ge_b1)).size,Nat.lt_of_lt_of_le byl (K.trans (u2.below K.size ge_b1)).size⟩) (Or.inr (Or.inr (Or.inr (Or.inr (Or.inr (Or.inr (Or.inr (Or.inr (Or.inr (Or.inr (Or.inr (Or.inr (Or.inl (⟨b0,b1,rfl,rfl,rfl,(K.trans (u2.below K.size ge_b1)),ge_b0,at_b0.upd u2 at_b1 ne_b0_b1,ge_b1,h2,ne_b0_b1⟩))))))))))))))
  ·obtain ⟨b0,b1,rfl,rfl,rfl,HH⟩:=hI
   right
   refine ⟨1,[15],rfl,by kernel_rfl,by simp,fun i hi=>?_⟩
   simp only [List.mem_cons,List.not_mem_nil,or_false] at hi
   subst hi
   refine ⟨_,rfl,fun K' hK=>?_⟩
   go_simp
   obtain ⟨K,ge_b0,at_b0,ge_b1,at_b1,ne_b0_b1⟩:=HH.out
   refine (SetFrac_any bz b0 0 b1 0 (P * q) (Q * p) (m + m) w1 (HZ.out.below K) at_b0.at at_b1.at HN.out (mul_pw HB.out.P HB.out.q) (mul_pw HB.out.Q HB.out.p) HB.out.m1.2.1).mono ?_
   rintro e w2 ⟨rfl,A,B,r1,r2,r3,r4,u2⟩
   have E:∃ A B:Int,Rt w2 bz A B∧A * (Q * p) = (P * q) * B∧A.natAbs≤(P * q).natAbs∧B.natAbs≤(Q * p).natAbs∧Upd bz w w2:=⟨A,B,r1,r2,r3,r4,(Upd.of_below K).trans u2⟩
   have Z:w.heap.size≤w2.heap.size:=Nat.le_trans K.size u2.size
   refine hK.out _ _ (fun _ _=>⟨Nat.lt_of_lt_of_le bxl Z,Nat.lt_of_lt_of_le byl Z⟩) (Or.inr (Or.inr (Or.inr (Or.inr (Or.inr (Or.inr (Or.inr (Or.inr (Or.inr (Or.inr (Or.inr (Or.inr (Or.inr (Or.inl (⟨b0,b1,rfl,rfl,rfl,Z,E⟩)))))))))))))))
  ·obtain ⟨b0,b1,rfl,rfl,rfl,HH⟩:=hI
   right
   refine ⟨0,[16],rfl,by kernel_rfl,by simp,fun i hi=>?_⟩
   simp only [List.mem_cons,List.not_mem_nil,or_false] at hi
   subst hi
   refine ⟨_,rfl,fun K' hK=>?_⟩
   go_simp
   obtain ⟨Z,E⟩:=HH.out
   refine hK.out _ _ (fun _ h=>absurd rfl h) (Or.inr (Or.inr (Or.inr (Or.inr (Or.inr (Or.inr (Or.inr (Or.inr (Or.inr (Or.inr (Or.inr (Or.inr (Or.inr (Or.inr (⟨b0,b1,rfl,rfl,rfl,Z,E⟩)))))))))))))))
  ·obtain ⟨b0,b1,rfl,rfl,rfl,HH⟩:=hI
   obtain ⟨Z,E⟩:=HH.out
   left
   refine ⟨by kernel_rfl,?_⟩
   have HE:Hid (∃ A B:Int,Rt w1 bz A B∧A * (Q * p) = (P * q) * B∧A.natAbs≤(P * q).natAbs∧B.natAbs≤(Q * p).natAbs∧Upd bz w w1):=E
   clear HH E Z
   go_wp2
   go_ret
   exact ⟨rfl,HE.out⟩
end Go.Proofs.YtnkjadpmigpneaaGreatDoor
