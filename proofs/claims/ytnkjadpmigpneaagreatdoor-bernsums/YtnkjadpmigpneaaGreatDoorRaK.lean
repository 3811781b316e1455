import Derived.Test.YtnkjadpmigpneaaGreatDoorJsV
import Derived.Test.YtnkjadpmigpneaaGreatDoorJsG
set_option linter.unusedSimpArgs false
set_option linter.unusedVariables false
set_option maxRecDepth 100000
namespace Go.Proofs.YtnkjadpmigpneaaGreatDoor
open Go.RowKit
theorem mul_pw {x y:Int} {m n:Nat} (h1:x.natAbs < pw m) (h2:y.natAbs < pw n):(x * y).natAbs < pw (m + n):=by
 rw [Int.natAbs_mul,pw_add]
 rcases Nat.eq_zero_or_pos y.natAbs with h | h
 ·rw [h,Nat.mul_zero]; exact Nat.mul_pos (pw_pos m) (pw_pos n)
 ·exact Nat.mul_lt_mul_of_lt_of_le h1 (Nat.le_of_lt h2) (pw_pos n)
theorem two_pw {a b c m:Nat} (h:c≤a + b) (h1:a < pw m) (h2:b < pw m):c < pw (m + 1):=by
 rw [show pw (m + 1) = 4294967296 * pw m from rfl]; omega
theorem add_pw {x y:Int} {m:Nat} (h1:x.natAbs < pw m) (h2:y.natAbs < pw m):(x + y).natAbs < pw (m + 1):=two_pw (Int.natAbs_add_le x y) h1 h2
structure Rb (P Q p q:Int) (m:Nat):Prop where
 P:P.natAbs < pw m
 Q:Q.natAbs < pw m
 p:p.natAbs < pw m
 q:q.natAbs < pw m
 m:m≤40000000
theorem Rb.m1 {P Q p q:Int} {m:Nat} (h:Rb P Q p q m):m≤100000000∧m + m≤100000000∧m + m + 1≤100000000:=by have:=h.m; omega
set_option maxHeartbeats 8000000 in
theorem RAdd_any (bz bx by':Nat) (P Q p q:Int) (m:Nat) (w:World) (hz:RSlot w bz) (hx:Rt w bx P Q) (hy:Rt w by' p q) (hb:Rb P Q p q m) :
  Calls Tryz.prog 16 #[.pointer (some ⟨bz,0,none⟩),.pointer (some ⟨bx,0,none⟩),.pointer (some ⟨by',0,none⟩)] w fun e w'=>e = .returned (.pointer (some ⟨bz,0,none⟩))∧∃ A B:Int,Rt w' bz A B∧A * (Q * q) = (P * q + p * Q) * B∧A.natAbs≤(P * q + p * Q).natAbs∧B.natAbs≤(Q * q).natAbs∧Upd bz w w':=by
 have bxl:=hx.at'.num.lt
 have byl:=hy.at'.num.lt
 have HX:Hid (Rt w bx P Q):=hx
 have HY:Hid (Rt w by' p q):=hy
 have HZ:Hid (RSlot w bz):=hz
 have HB:Hid (Rb P Q p q m):=hb
 clear hx hy hz hb
 go_enter Tryz.func16,Tryz.ntmps16
 go_wp2_with fail
 refine wp_region_G (fun w'=>bx < w'.heap.size∧by' < w'.heap.size) 16 (by kernel_rfl) ⟨by simpa using bxl,by simpa using byl⟩ (fun hHeld=>?_)
 refine wpAnyG_take (i:=2) (v:=?v2x1) rfl (by kernel_rfl) (fun _ _ _ h=>h) (Or.inl ⟨by rfl,?y2x1⟩) hHeld ?r2x1
 case y2x1=>(intro wS hSw; obtain ⟨s1,s2⟩:=hSw; go_simp; try with_reducible rfl)
 try simp only [Act.put,List.setIfInBounds_toArray,List.set_cons_zero,List.set_cons_succ]
 refine wpAnyG_take (i:=3) (v:=?v3x2) rfl (by kernel_rfl) (fun _ _ _ h=>h) (Or.inl ⟨by rfl,?y3x2⟩) hHeld ?r3x2
 case y3x2=>(intro wS hSw; obtain ⟨s1,s2⟩:=hSw; go_simp; try with_reducible rfl)
 try simp only [Act.put,List.setIfInBounds_toArray,List.set_cons_zero,List.set_cons_succ]
 refine wpAnyG_take (i:=4) (v:=?v4x3) rfl (by kernel_rfl) (fun _ _ _ h=>h) (Or.inl ⟨by rfl,?y4x3⟩) hHeld ?r4x3
 case y4x3=>(intro wS hSw; obtain ⟨s1,s2⟩:=hSw; go_simp; try with_reducible rfl)
 try simp only [Act.put,List.setIfInBounds_toArray,List.set_cons_zero,List.set_cons_succ]
 refine wpAnyG_take (i:=5) (v:=?v5x4) rfl (by kernel_rfl) (fun _ _ _ h=>h) (Or.inl ⟨by rfl,?y5x4⟩) hHeld ?r5x4
 case y5x4=>(intro wS hSw; obtain ⟨s1,s2⟩:=hSw; go_simp; try with_reducible rfl)
 try simp only [Act.put,List.setIfInBounds_toArray,List.set_cons_zero,List.set_cons_succ]
 refine wpAnyG_take (i:=9) (v:=?v9x5) rfl (by kernel_rfl) (fun _ _ _ h=>h) (Or.inl ⟨by rfl,?y9x5⟩) hHeld ?r9x5
 case y9x5=>(intro wS hSw; obtain ⟨s1,s2⟩:=hSw; go_simp; try with_reducible rfl)
 try simp only [Act.put,List.setIfInBounds_toArray,List.set_cons_zero,List.set_cons_succ]
 refine wpAnyG_take (i:=10) (v:=?v10x6) rfl (by kernel_rfl) (fun _ _ _ h=>h) (Or.inl ⟨by rfl,?y10x6⟩) hHeld ?r10x6
 case y10x6=>(intro wS hSw; obtain ⟨s1,s2⟩:=hSw; go_simp; try with_reducible rfl)
 try simp only [Act.put,List.setIfInBounds_toArray,List.set_cons_zero,List.set_cons_succ]
 refine wpAnyG_take (i:=11) (v:=?v11x7) rfl (by kernel_rfl) (fun _ _ _ h=>h) (Or.inl ⟨by rfl,?y11x7⟩) hHeld ?r11x7
 case y11x7=>(intro wS hSw; obtain ⟨s1,s2⟩:=hSw; go_simp; try with_reducible rfl)
 try simp only [Act.put,List.setIfInBounds_toArray,List.set_cons_zero,List.set_cons_succ]
 refine wpAnyG_take (i:=12) (v:=?v12x8) rfl (by kernel_rfl) (fun _ _ _ h=>h) (Or.inl ⟨by rfl,?y12x8⟩) hHeld ?r12x8
 case y12x8=>(intro wS hSw; obtain ⟨s1,s2⟩:=hSw; go_simp; try with_reducible rfl)
 try simp only [Act.put,List.setIfInBounds_toArray,List.set_cons_zero,List.set_cons_succ]
 clear hHeld
 refine wpAnyG_inv (fun n l a w1=>∃ x7 x8 x9 x14 x15 x16 x21 x22 x23:Value,a = { tmps:=#[.pointer (some ⟨bz,0,none⟩),.pointer (some ⟨bx,0,none⟩),.pointer (some ⟨by',0,none⟩),undef,undef,undef,.pointer none,x7,x8,x9,.pointer (some ⟨bx,0,none⟩),.pointer (some ⟨bx,0,none⟩),.pointer (some ⟨bx,0,none⟩),.pointer (some ⟨by',0,none⟩),x14,x15,x16,.pointer (some ⟨by',0,none⟩),.pointer (some ⟨by',0,none⟩),.pointer (some ⟨by',0,none⟩),.pointer (some ⟨bx,0,none⟩),x21,x22,x23,undef,undef,undef,undef,undef,undef,undef,undef,undef],defers:=[] }∧(((((n = 9∧l = #[false,false,true,true,true,true,false,false,false,true,true,true,true,false,false,false,false]∧x7 = undef∧x8 = undef∧x9 = undef∧x14 = undef∧x15 = undef∧x16 = undef∧x21 = undef∧x22 = undef∧x23 = undef∧Hid (Below w.heap.size w w1))∨((∃ b0:Nat,n = 8∧l = #[true,false,true,true,true,true,false,false,false,true,true,true,true,false,false,false,false]∧x7 = undef∧x8 = .pointer (some ⟨b0,0,none⟩)∧x9 = undef∧x14 = undef∧x15 = undef∧x16 = undef∧x21 = undef∧x22 = undef∧x23 = undef∧Hid (Below w.heap.size w w1∧w.heap.size≤b0∧Slot w1 b0))∨(∃ b1:Nat,n = 8∧l = #[false,true,true,true,true,true,false,false,false,true,true,true,true,false,false,false,false]∧x7 = undef∧x8 = undef∧x9 = .pointer (some ⟨b1,0,none⟩)∧x14 = undef∧x15 = undef∧x16 = undef∧x21 = undef∧x22 = undef∧x23 = undef∧Hid (Below w.heap.size w w1∧w.heap.size≤b1∧Slot w1 b1))))∨(((∃ b2:Nat,n = 8∧l = #[false,false,true,true,true,true,false,false,true,true,true,true,true,false,false,false,false]∧x7 = undef∧x8 = undef∧x9 = undef∧x14 = undef∧x15 = undef∧x16 = .pointer (some ⟨b2,0,none⟩)∧x21 = undef∧x22 = undef∧x23 = undef∧Hid (Below w.heap.size w w1∧w.heap.size≤b2∧Slot w1 b2))∨(∃ b0 b1:Nat,n = 7∧l = #[true,true,true,true,true,true,false,false,false,true,true,true,true,false,false,false,false]∧x7 = undef∧x8 = .pointer (some ⟨b0,0,none⟩)∧x9 = .pointer (some ⟨b1,0,none⟩)∧x14 = undef∧x15 = undef∧x16 = undef∧x21 = undef∧x22 = undef∧x23 = undef∧Hid (Below w.heap.size w w1∧w.heap.size≤b0∧Slot w1 b0∧w.heap.size≤b1∧Slot w1 b1∧b0 ≠ b1)))∨((∃ b0 b2:Nat,n = 7∧l = #[true,false,true,true,true,true,false,false,true,true,true,true,true,false,false,false,false]∧x7 = undef∧x8 = .pointer (some ⟨b0,0,none⟩)∧x9 = undef∧x14 = undef∧x15 = undef∧x16 = .pointer (some ⟨b2,0,none⟩)∧x21 = undef∧x22 = undef∧x23 = undef∧Hid (Below w.heap.size w w1∧w.heap.size≤b0∧Slot w1 b0∧w.heap.size≤b2∧Slot w1 b2∧b0 ≠ b2))∨(∃ b1 b2:Nat,n = 7∧l = #[false,true,true,true,true,true,false,false,true,true,true,true,true,false,false,false,false]∧x7 = undef∧x8 = undef∧x9 = .pointer (some ⟨b1,0,none⟩)∧x14 = undef∧x15 = undef∧x16 = .pointer (some ⟨b2,0,none⟩)∧x21 = undef∧x22 = undef∧x23 = undef∧Hid (Below w.heap.size w w1∧w.heap.size≤b1∧Slot w1 b1∧w.heap.size≤b2∧Slot w1 b2∧b1 ≠ b2)))))∨(((∃ b0 b1 b2:Nat,n = 6∧l = #[true,true,true,true,true,true,false,false,true,true,true,true,true,false,false,false,false]∧x7 = undef∧x8 = .pointer (some ⟨b0,0,none⟩)∧x9 = .pointer (some ⟨b1,0,none⟩)∧x14 = undef∧x15 = undef∧x16 = .pointer (some ⟨b2,0,none⟩)∧x21 = undef∧x22 = undef∧x23 = undef∧Hid (Below w.heap.size w w1∧w.heap.size≤b0∧Slot w1 b0∧w.heap.size≤b1∧Slot w1 b1∧w.heap.size≤b2∧Slot w1 b2∧b0 ≠ b1∧b0 ≠ b2∧b1 ≠ b2))∨((n = 8∧l = #[false,false,true,true,true,true,true,false,false,true,true,true,true,false,false,false,false]∧x7 = undef∧x8 = undef∧x9 = undef∧x14 = .pointer (some ⟨by',2,none⟩)∧x15 = undef∧x16 = undef∧x21 = undef∧x22 = undef∧x23 = undef∧Hid (Below w.heap.size w w1))∨(∃ b0:Nat,n = 7∧l = #[true,false,true,true,true,true,true,false,false,true,true,true,true,false,false,false,false]∧x7 = undef∧x8 = .pointer (some ⟨b0,0,none⟩)∧x9 = undef∧x14 = .pointer (some ⟨by',2,none⟩)∧x15 = undef∧x16 = undef∧x21 = undef∧x22 = undef∧x23 = undef∧Hid (Below w.heap.size w w1∧w.heap.size≤b0∧Slot w1 b0))))∨(((∃ b1:Nat,n = 7∧l = #[false,true,true,true,true,true,true,false,false,true,true,true,true,false,false,false,false]∧x7 = undef∧x8 = undef∧x9 = .pointer (some ⟨b1,0,none⟩)∧x14 = .pointer (some ⟨by',2,none⟩)∧x15 = undef∧x16 = undef∧x21 = undef∧x22 = undef∧x23 = undef∧Hid (Below w.heap.size w w1∧w.heap.size≤b1∧Slot w1 b1))∨(∃ b2:Nat,n = 7∧l = #[false,false,true,true,true,true,true,false,true,true,true,true,true,false,false,false,false]∧x7 = undef∧x8 = undef∧x9 = undef∧x14 = .pointer (some ⟨by',2,none⟩)∧x15 = undef∧x16 = .pointer (some ⟨b2,0,none⟩)∧x21 = undef∧x22 = undef∧x23 = undef∧Hid (Below w.heap.size w w1∧w.heap.size≤b2∧Slot w1 b2)))∨((∃ b0 b1:Nat,n = 6∧l = #[true,true,true,true,true,true,true,false,false,true,true,true,true,false,false,false,false]∧x7 = undef∧x8 = .pointer (some ⟨b0,0,none⟩)∧x9 = .pointer (some ⟨b1,0,none⟩)∧x14 = .pointer (some ⟨by',2,none⟩)∧x15 = undef∧x16 = undef∧x21 = undef∧x22 = undef∧x23 = undef∧Hid (Below w.heap.size w w1∧w.heap.size≤b0∧Slot w1 b0∧w.heap.size≤b1∧Slot w1 b1∧b0 ≠ b1))∨(∃ b0 b2:Nat,n = 6∧l = #[true,false,true,true,true,true,true,false,true,true,true,true,true,false,false,false,false]∧x7 = undef∧x8 = .pointer (some ⟨b0,0,none⟩)∧x9 = undef∧x14 = .pointer (some ⟨by',2,none⟩)∧x15 = undef∧x16 = .pointer (some ⟨b2,0,none⟩)∧x21 = undef∧x22 = undef∧x23 = undef∧Hid (Below w.heap.size w w1∧w.heap.size≤b0∧Slot w1 b0∧w.heap.size≤b2∧Slot w1 b2∧b0 ≠ b2))))))∨((((∃ b1 b2:Nat,n = 6∧l = #[false,true,true,true,true,true,true,false,true,true,true,true,true,false,false,false,false]∧x7 = undef∧x8 = undef∧x9 = .pointer (some ⟨b1,0,none⟩)∧x14 = .pointer (some ⟨by',2,none⟩)∧x15 = undef∧x16 = .pointer (some ⟨b2,0,none⟩)∧x21 = undef∧x22 = undef∧x23 = undef∧Hid (Below w.heap.size w w1∧w.heap.size≤b1∧Slot w1 b1∧w.heap.size≤b2∧Slot w1 b2∧b1 ≠ b2))∨((∃ b0 b1 b2:Nat,n = 5∧l = #[true,true,true,true,true,true,true,false,true,true,true,true,true,false,false,false,false]∧x7 = undef∧x8 = .pointer (some ⟨b0,0,none⟩)∧x9 = .pointer (some ⟨b1,0,none⟩)∧x14 = .pointer (some ⟨by',2,none⟩)∧x15 = undef∧x16 = .pointer (some ⟨b2,0,none⟩)∧x21 = undef∧x22 = undef∧x23 = undef∧Hid (Below w.heap.size w w1∧w.heap.size≤b0∧Slot w1 b0∧w.heap.size≤b1∧Slot w1 b1∧w.heap.size≤b2∧Slot w1 b2∧b0 ≠ b1∧b0 ≠ b2∧b1 ≠ b2))∨(∃ b1:Nat,n = 6∧l = #[false,true,true,true,true,true,true,true,false,true,true,true,true,false,false,false,false]∧x7 = undef∧x8 = undef∧x9 = .pointer (some ⟨b1,0,none⟩)∧x14 = .pointer (some ⟨by',2,none⟩)∧x15 = .pointer (some ⟨b1,0,none⟩)∧x16 = undef∧x21 = undef∧x22 = undef∧x23 = undef∧Hid (Below w.heap.size w w1∧w.heap.size≤b1∧BigAt w1 b1 (P * q)))))∨(((∃ b0 b1:Nat,n = 5∧l = #[true,true,true,true,true,true,true,true,false,true,true,true,true,false,false,false,false]∧x7 = undef∧x8 = .pointer (some ⟨b0,0,none⟩)∧x9 = .pointer (some ⟨b1,0,none⟩)∧x14 = .pointer (some ⟨by',2,none⟩)∧x15 = .pointer (some ⟨b1,0,none⟩)∧x16 = undef∧x21 = undef∧x22 = undef∧x23 = undef∧Hid (Below w.heap.size w w1∧w.heap.size≤b0∧Slot w1 b0∧w.heap.size≤b1∧BigAt w1 b1 (P * q)∧b0 ≠ b1))∨(∃ b1 b2:Nat,n = 5∧l = #[false,true,true,true,true,true,true,true,true,true,true,true,true,false,false,false,false]∧x7 = undef∧x8 = undef∧x9 = .pointer (some ⟨b1,0,none⟩)∧x14 = .pointer (some ⟨by',2,none⟩)∧x15 = .pointer (some ⟨b1,0,none⟩)∧x16 = .pointer (some ⟨b2,0,none⟩)∧x21 = undef∧x22 = undef∧x23 = undef∧Hid (Below w.heap.size w w1∧w.heap.size≤b1∧BigAt w1 b1 (P * q)∧w.heap.size≤b2∧Slot w1 b2∧b1 ≠ b2)))∨((∃ b0 b1 b2:Nat,n = 4∧l = #[true,true,true,true,true,true,true,true,true,true,true,true,true,false,false,false,false]∧x7 = undef∧x8 = .pointer (some ⟨b0,0,none⟩)∧x9 = .pointer (some ⟨b1,0,none⟩)∧x14 = .pointer (some ⟨by',2,none⟩)∧x15 = .pointer (some ⟨b1,0,none⟩)∧x16 = .pointer (some ⟨b2,0,none⟩)∧x21 = undef∧x22 = undef∧x23 = undef∧Hid (Below w.heap.size w w1∧w.heap.size≤b0∧Slot w1 b0∧w.heap.size≤b1∧BigAt w1 b1 (P * q)∧w.heap.size≤b2∧Slot w1 b2∧b0 ≠ b1∧b0 ≠ b2∧b1 ≠ b2))∨(∃ b1:Nat,n = 5∧l = #[false,true,true,true,true,true,true,true,false,true,true,true,true,true,false,false,false]∧x7 = undef∧x8 = undef∧x9 = .pointer (some ⟨b1,0,none⟩)∧x14 = .pointer (some ⟨by',2,none⟩)∧x15 = .pointer (some ⟨b1,0,none⟩)∧x16 = undef∧x21 = .pointer (some ⟨bx,2,none⟩)∧x22 = undef∧x23 = undef∧Hid (Below w.heap.size w w1∧w.heap.size≤b1∧BigAt w1 b1 (P * q))))))∨(((∃ b0 b1:Nat,n = 4∧l = #[true,true,true,true,true,true,true,true,false,true,true,true,true,true,false,false,false]∧x7 = undef∧x8 = .pointer (some ⟨b0,0,none⟩)∧x9 = .pointer (some ⟨b1,0,none⟩)∧x14 = .pointer (some ⟨by',2,none⟩)∧x15 = .pointer (some ⟨b1,0,none⟩)∧x16 = undef∧x21 = .pointer (some ⟨bx,2,none⟩)∧x22 = undef∧x23 = undef∧Hid (Below w.heap.size w w1∧w.heap.size≤b0∧Slot w1 b0∧w.heap.size≤b1∧BigAt w1 b1 (P * q)∧b0 ≠ b1))∨((∃ b1 b2:Nat,n = 4∧l = #[false,true,true,true,true,true,true,true,true,true,true,true,true,true,false,false,false]∧x7 = undef∧x8 = undef∧x9 = .pointer (some ⟨b1,0,none⟩)∧x14 = .pointer (some ⟨by',2,none⟩)∧x15 = .pointer (some ⟨b1,0,none⟩)∧x16 = .pointer (some ⟨b2,0,none⟩)∧x21 = .pointer (some ⟨bx,2,none⟩)∧x22 = undef∧x23 = undef∧Hid (Below w.heap.size w w1∧w.heap.size≤b1∧BigAt w1 b1 (P * q)∧w.heap.size≤b2∧Slot w1 b2∧b1 ≠ b2))∨(∃ b0 b1 b2:Nat,n = 3∧l = #[true,true,true,true,true,true,true,true,true,true,true,true,true,true,false,false,false]∧x7 = undef∧x8 = .pointer (some ⟨b0,0,none⟩)∧x9 = .pointer (some ⟨b1,0,none⟩)∧x14 = .pointer (some ⟨by',2,none⟩)∧x15 = .pointer (some ⟨b1,0,none⟩)∧x16 = .pointer (some ⟨b2,0,none⟩)∧x21 = .pointer (some ⟨bx,2,none⟩)∧x22 = undef∧x23 = undef∧Hid (Below w.heap.size w w1∧w.heap.size≤b0∧Slot w1 b0∧w.heap.size≤b1∧BigAt w1 b1 (P * q)∧w.heap.size≤b2∧Slot w1 b2∧b0 ≠ b1∧b0 ≠ b2∧b1 ≠ b2))))∨(((∃ b1 b2:Nat,n = 3∧l = #[false,true,true,true,true,true,true,true,true,true,true,true,true,true,true,false,false]∧x7 = undef∧x8 = undef∧x9 = .pointer (some ⟨b1,0,none⟩)∧x14 = .pointer (some ⟨by',2,none⟩)∧x15 = .pointer (some ⟨b1,0,none⟩)∧x16 = .pointer (some ⟨b2,0,none⟩)∧x21 = .pointer (some ⟨bx,2,none⟩)∧x22 = .pointer (some ⟨b2,0,none⟩)∧x23 = undef∧Hid (Below w.heap.size w w1∧w.heap.size≤b1∧BigAt w1 b1 (P * q)∧w.heap.size≤b2∧BigAt w1 b2 (p * Q)∧b1 ≠ b2))∨(∃ b0 b1 b2:Nat,n = 2∧l = #[true,true,true,true,true,true,true,true,true,true,true,true,true,true,true,false,false]∧x7 = undef∧x8 = .pointer (some ⟨b0,0,none⟩)∧x9 = .pointer (some ⟨b1,0,none⟩)∧x14 = .pointer (some ⟨by',2,none⟩)∧x15 = .pointer (some ⟨b1,0,none⟩)∧x16 = .pointer (some ⟨b2,0,none⟩)∧x21 = .pointer (some ⟨bx,2,none⟩)∧x22 = .pointer (some ⟨b2,0,none⟩)∧x23 = undef∧Hid (Below w.heap.size w w1∧w.heap.size≤b0∧Slot w1 b0∧w.heap.size≤b1∧BigAt w1 b1 (P * q)∧w.heap.size≤b2∧BigAt w1 b2 (p * Q)∧b0 ≠ b1∧b0 ≠ b2∧b1 ≠ b2)))∨((∃ b0 b1 b2:Nat,n = 1∧l = #[true,true,true,true,true,true,true,true,true,true,true,true,true,true,true,true,false]∧x7 = undef∧x8 = .pointer (some ⟨b0,0,none⟩)∧x9 = .pointer (some ⟨b1,0,none⟩)∧x14 = .pointer (some ⟨by',2,none⟩)∧x15 = .pointer (some ⟨b1,0,none⟩)∧x16 = .pointer (some ⟨b2,0,none⟩)∧x21 = .pointer (some ⟨bx,2,none⟩)∧x22 = .pointer (some ⟨b2,0,none⟩)∧x23 = .pointer (some ⟨b0,0,none⟩)∧Hid (Below w.heap.size w w1∧w.heap.size≤b0∧BigAt w1 b0 (P * q + p * Q)∧w.heap.size≤b1∧BigAt w1 b1 (P * q)∧w.heap.size≤b2∧BigAt w1 b2 (p * Q)∧b0 ≠ b1∧b0 ≠ b2∧b1 ≠ b2))∨(∃ b0 b1 b2:Nat,n = 0∧l = #[true,true,true,true,true,true,true,true,true,true,true,true,true,true,true,true,true]∧x7 = .pointer (some ⟨b0,0,none⟩)∧x8 = .pointer (some ⟨b0,0,none⟩)∧x9 = .pointer (some ⟨b1,0,none⟩)∧x14 = .pointer (some ⟨by',2,none⟩)∧x15 = .pointer (some ⟨b1,0,none⟩)∧x16 = .pointer (some ⟨b2,0,none⟩)∧x21 = .pointer (some ⟨bx,2,none⟩)∧x22 = .pointer (some ⟨b2,0,none⟩)∧x23 = .pointer (some ⟨b0,0,none⟩)∧Hid (Below w.heap.size w w1∧w.heap.size≤b0∧BigAt w1 b0 (P * q + p * Q)∧w.heap.size≤b1∧BigAt w1 b1 (P * q)∧w.heap.size≤b2∧BigAt w1 b2 (p * Q)∧b0 ≠ b1∧b0 ≠ b2∧b1 ≠ b2)))))))) ?steps _ _ _ _ ?start
 case start=>exact ⟨_,_,_,_,_,_,_,_,_,rfl,.inl (.inl (.inl (.inl (⟨rfl,rfl,rfl,rfl,rfl,rfl,rfl,rfl,rfl,rfl,rfl,(Below.refl w.heap.size w).drew⟩))))⟩
 case steps =>
  intro n l a w1 hI
  obtain ⟨x7,x8,x9,x14,x15,x16,x21,x22,x23,rfl,hI⟩:=hI
  rcases hI with ((((hI | (hI | hI)) | ((hI | hI) | (hI | hI))) | ((hI | (hI | hI)) | ((hI | hI) | (hI | hI)))) | (((hI | (hI | hI)) | ((hI | hI) | (hI | hI))) | ((hI | (hI | hI)) | ((hI | hI) | (hI | hI)))))
  ·obtain ⟨rfl,rfl,rfl,rfl,rfl,rfl,rfl,rfl,rfl,rfl,rfl,HH⟩:=hI
   right
   refine ⟨8,[0,1,6,8],rfl,by kernel_rfl,by simp,fun i hi=>?_⟩
   simp only [List.mem_cons,List.not_mem_nil,or_false] at hi
   rcases hi with rfl | rfl | rfl | rfl
   ·refine ⟨_,rfl,fun K' hK=>?_⟩
    go_simp
    have K:=HH.out
    refine hK.out _ _ (fun _ _=>⟨Nat.lt_of_lt_of_le bxl ((K.alloc K.size _)).size,Nat.lt_of_lt_of_le byl ((K.alloc K.size _)).size⟩) (⟨_,_,_,_,_,_,_,_,_,rfl,.inl (.inl (.inl (.inr (.inl (⟨w1.heap.size,rfl,rfl,rfl,rfl,rfl,rfl,rfl,rfl,rfl,rfl,rfl,K.alloc K.size _,K.size,slot_new w1 _ _⟩)))))⟩)
   ·refine ⟨_,rfl,fun K' hK=>?_⟩
    go_simp
    have K:=HH.out
    refine hK.out _ _ (fun _ _=>⟨Nat.lt_of_lt_of_le bxl ((K.alloc K.size _)).size,Nat.lt_of_lt_of_le byl ((K.alloc K.size _)).size⟩) (⟨_,_,_,_,_,_,_,_,_,rfl,.inl (.inl (.inl (.inr (.inr (⟨w1.heap.size,rfl,rfl,rfl,rfl,rfl,rfl,rfl,rfl,rfl,rfl,rfl,K.alloc K.size _,K.size,slot_new w1 _ _⟩)))))⟩)
   ·refine ⟨_,rfl,fun K' hK=>?_⟩
    go_simp
    have K:=HH.out
    refine (den_pos by' p q w1 (HY.out.below K).at' HY.out.pos).mono ?_
    rintro e w2 ⟨rfl,hw2⟩
    rw [hw2]
    clear hw2 w2
    refine hK.out _ _ (fun _ _=>⟨Nat.lt_of_lt_of_le bxl (K).size,Nat.lt_of_lt_of_le byl (K).size⟩) (⟨_,_,_,_,_,_,_,_,_,rfl,.inl (.inr (.inl (.inr (.inl (⟨rfl,rfl,rfl,rfl,rfl,rfl,rfl,rfl,rfl,rfl,rfl,K⟩)))))⟩)
   ·refine ⟨_,rfl,fun K' hK=>?_⟩
    go_simp
    have K:=HH.out
    refine hK.out _ _ (fun _ _=>⟨Nat.lt_of_lt_of_le bxl ((K.alloc K.size _)).size,Nat.lt_of_lt_of_le byl ((K.alloc K.size _)).size⟩) (⟨_,_,_,_,_,_,_,_,_,rfl,.inl (.inl (.inr (.inl (.inl (⟨w1.heap.size,rfl,rfl,rfl,rfl,rfl,rfl,rfl,rfl,rfl,rfl,rfl,K.alloc K.size _,K.size,slot_new w1 _ _⟩)))))⟩)
  ·obtain ⟨b0,rfl,rfl,rfl,rfl,rfl,rfl,rfl,rfl,rfl,rfl,rfl,HH⟩:=hI
   right
   refine ⟨7,[1,6,8],rfl,by kernel_rfl,by simp,fun i hi=>?_⟩
   simp only [List.mem_cons,List.not_mem_nil,or_false] at hi
   rcases hi with rfl | rfl | rfl
   ·refine ⟨_,rfl,fun K' hK=>?_⟩
    go_simp
    obtain ⟨K,ge_b0,at_b0⟩:=HH.out
    refine hK.out _ _ (fun _ _=>⟨Nat.lt_of_lt_of_le bxl ((K.alloc K.size _)).size,Nat.lt_of_lt_of_le byl ((K.alloc K.size _)).size⟩) (⟨_,_,_,_,_,_,_,_,_,rfl,.inl (.inl (.inr (.inl (.inr (⟨b0,w1.heap.size,rfl,rfl,rfl,rfl,rfl,rfl,rfl,rfl,rfl,rfl,rfl,K.alloc K.size _,ge_b0,at_b0.below (Below.alloc_self' w1 _) (Nat.le_refl _),K.size,slot_new w1 _ _,(Nat.ne_of_lt at_b0.lt)⟩)))))⟩)
   ·refine ⟨_,rfl,fun K' hK=>?_⟩
    go_simp
    obtain ⟨K,ge_b0,at_b0⟩:=HH.out
    refine (den_pos by' p q w1 (HY.out.below K).at' HY.out.pos).mono ?_
    rintro e w2 ⟨rfl,hw2⟩
    rw [hw2]
    clear hw2 w2
    refine hK.out _ _ (fun _ _=>⟨Nat.lt_of_lt_of_le bxl (K).size,Nat.lt_of_lt_of_le byl (K).size⟩) (⟨_,_,_,_,_,_,_,_,_,rfl,.inl (.inr (.inl (.inr (.inr (⟨b0,rfl,rfl,rfl,rfl,rfl,rfl,rfl,rfl,rfl,rfl,rfl,K,ge_b0,at_b0⟩)))))⟩)
   ·refine ⟨_,rfl,fun K' hK=>?_⟩
    go_simp
    obtain ⟨K,ge_b0,at_b0⟩:=HH.out
    refine hK.out _ _ (fun _ _=>⟨Nat.lt_of_lt_of_le bxl ((K.alloc K.size _)).size,Nat.lt_of_lt_of_le byl ((K.alloc K.size _)).size⟩) (⟨_,_,_,_,_,_,_,_,_,rfl,.inl (.inl (.inr (.inr (.inl (⟨b0,w1.heap.size,rfl,rfl,rfl,rfl,rfl,rfl,rfl,rfl,rfl,rfl,rfl,K.alloc K.size _,ge_b0,at_b0.below (Below.alloc_self' w1 _) (Nat.le_refl _),K.size,slot_new w1 _ _,(Nat.ne_of_lt at_b0.lt)⟩)))))⟩)
  ·obtain ⟨b1,rfl,rfl,rfl,rfl,rfl,rfl,rfl,rfl,rfl,rfl,rfl,HH⟩:=hI
   right
   refine ⟨7,[0,6,8],rfl,by kernel_rfl,by simp,fun i hi=>?_⟩
   simp only [List.mem_cons,List.not_mem_nil,or_false] at hi
   rcases hi with rfl | rfl | rfl
   ·refine ⟨_,rfl,fun K' hK=>?_⟩
    go_simp
    obtain ⟨K,ge_b1,at_b1⟩:=HH.out
    refine hK.out _ _ (fun _ _=>⟨Nat.lt_of_lt_of_le bxl ((K.alloc K.size _)).size,Nat.lt_of_lt_of_le byl ((K.alloc K.size _)).size⟩) (⟨_,_,_,_,_,_,_,_,_,rfl,.inl (.inl (.inr (.inl (.inr (⟨w1.heap.size,b1,rfl,rfl,rfl,rfl,rfl,rfl,rfl,rfl,rfl,rfl,rfl,K.alloc K.size _,K.size,slot_new w1 _ _,ge_b1,at_b1.below (Below.alloc_self' w1 _) (Nat.le_refl _),(Nat.ne_of_gt at_b1.lt)⟩)))))⟩)
   ·refine ⟨_,rfl,fun K' hK=>?_⟩
    go_simp
    obtain ⟨K,ge_b1,at_b1⟩:=HH.out
    refine (den_pos by' p q w1 (HY.out.below K).at' HY.out.pos).mono ?_
    rintro e w2 ⟨rfl,hw2⟩
    rw [hw2]
    clear hw2 w2
    refine hK.out _ _ (fun _ _=>⟨Nat.lt_of_lt_of_le bxl (K).size,Nat.lt_of_lt_of_le byl (K).size⟩) (⟨_,_,_,_,_,_,_,_,_,rfl,.inl (.inr (.inr (.inl (.inl (⟨b1,rfl,rfl,rfl,rfl,rfl,rfl,rfl,rfl,rfl,rfl,rfl,K,ge_b1,at_b1⟩)))))⟩)
   ·refine ⟨_,rfl,fun K' hK=>?_⟩
    go_simp
    obtain ⟨K,ge_b1,at_b1⟩:=HH.out
    refine hK.out _ _ (fun _ _=>⟨Nat.lt_of_lt_of_le bxl ((K.alloc K.size _)).size,Nat.lt_of_lt_of_le byl ((K.alloc K.size _)).size⟩) (⟨_,_,_,_,_,_,_,_,_,rfl,.inl (.inl (.inr (.inr (.inr (⟨b1,w1.heap.size,rfl,rfl,rfl,rfl,rfl,rfl,rfl,rfl,rfl,rfl,rfl,K.alloc K.size _,ge_b1,at_b1.below (Below.alloc_self' w1 _) (Nat.le_refl _),K.size,slot_new w1 _ _,(Nat.ne_of_lt at_b1.lt)⟩)))))⟩)
  ·obtain ⟨b2,rfl,rfl,rfl,rfl,rfl,rfl,rfl,rfl,rfl,rfl,rfl,HH⟩:=hI
   right
   refine ⟨7,[0,1,6],rfl,by kernel_rfl,by simp,fun i hi=>?_⟩
   simp only [List.mem_cons,List.not_mem_nil,or_false] at hi
   rcases hi with rfl | rfl | rfl
   ·refine ⟨_,rfl,fun K' hK=>?_⟩
    go_simp
    obtain ⟨K,ge_b2,at_b2⟩:=HH.out
    refine hK.out _ _ (fun _ _=>⟨Nat.lt_of_lt_of_le bxl ((K.alloc K.size _)).size,Nat.lt_of_lt_of_le byl ((K.alloc K.size _)).size⟩) (⟨_,_,_,_,_,_,_,_,_,rfl,.inl (.inl (.inr (.inr (.inl (⟨w1.heap.size,b2,rfl,rfl,rfl,rfl,rfl,rfl,rfl,rfl,rfl,rfl,rfl,K.alloc K.size _,K.size,slot_new w1 _ _,ge_b2,at_b2.below (Below.alloc_self' w1 _) (Nat.le_refl _),(Nat.ne_of_gt at_b2.lt)⟩)))))⟩)
   ·refine ⟨_,rfl,fun K' hK=>?_⟩
    go_simp
    obtain ⟨K,ge_b2,at_b2⟩:=HH.out
    refine hK.out _ _ (fun _ _=>⟨Nat.lt_of_lt_of_le bxl ((K.alloc K.size _)).size,Nat.lt_of_lt_of_le byl ((K.alloc K.size _)).size⟩) (⟨_,_,_,_,_,_,_,_,_,rfl,.inl (.inl (.inr (.inr (.inr (⟨w1.heap.size,b2,rfl,rfl,rfl,rfl,rfl,rfl,rfl,rfl,rfl,rfl,rfl,K.alloc K.size _,K.size,slot_new w1 _ _,ge_b2,at_b2.below (Below.alloc_self' w1 _) (Nat.le_refl _),(Nat.ne_of_gt at_b2.lt)⟩)))))⟩)
   ·refine ⟨_,rfl,fun K' hK=>?_⟩
    go_simp
    obtain ⟨K,ge_b2,at_b2⟩:=HH.out
    refine (den_pos by' p q w1 (HY.out.below K).at' HY.out.pos).mono ?_
    rintro e w2 ⟨rfl,hw2⟩
    rw [hw2]
    clear hw2 w2
    refine hK.out _ _ (fun _ _=>⟨Nat.lt_of_lt_of_le bxl (K).size,Nat.lt_of_lt_of_le byl (K).size⟩) (⟨_,_,_,_,_,_,_,_,_,rfl,.inl (.inr (.inr (.inl (.inr (⟨b2,rfl,rfl,rfl,rfl,rfl,rfl,rfl,rfl,rfl,rfl,rfl,K,ge_b2,at_b2⟩)))))⟩)
  ·obtain ⟨b0,b1,rfl,rfl,rfl,rfl,rfl,rfl,rfl,rfl,rfl,rfl,rfl,HH⟩:=hI
   right
   refine ⟨6,[6,8],rfl,by kernel_rfl,by simp,fun i hi=>?_⟩
   simp only [List.mem_cons,List.not_mem_nil,or_false] at hi
   rcases hi with rfl | rfl
   ·refine ⟨_,rfl,fun K' hK=>?_⟩
    go_simp
    obtain ⟨K,ge_b0,at_b0,ge_b1,at_b1,ne_b0_b1⟩:=HH.out
    refine (den_pos by' p q w1 (HY.out.below K).at' HY.out.pos).mono ?_
    rintro e w2 ⟨rfl,hw2⟩
    rw [hw2]
    clear hw2 w2
    refine hK.out _ _ (fun _ _=>⟨Nat.lt_of_lt_of_le bxl (K).size,Nat.lt_of_lt_of_le byl (K).size⟩) (⟨_,_,_,_,_,_,_,_,_,rfl,.inl (.inr (.inr (.inr (.inl (⟨b0,b1,rfl,rfl,rfl,rfl,rfl,rfl,rfl,rfl,rfl,rfl,rfl,K,ge_b0,at_b0,ge_b1,at_b1,ne_b0_b1⟩)))))⟩)
   ·refine ⟨_,rfl,fun K' hK=>?_⟩
    go_simp
    obtain ⟨K,ge_b0,at_b0,ge_b1,at_b1,ne_b0_b1⟩:=HH.out
    refine hK.out _ _ (fun _ _=>⟨Nat.lt_of_lt_of_le bxl ((K.alloc K.size _)).size,Nat.lt_of_lt_of_le byl ((K.alloc K.size _)).size⟩) (⟨_,_,_,_,_,_,_,_,_,rfl,.inl (.inr (.inl (.inl (⟨b0,b1,w1.heap.size,rfl,rfl,rfl,rfl,rfl,rfl,rfl,rfl,rfl,rfl,rfl,K.alloc K.size _,ge_b0,at_b0.below (Below.alloc_self' w1 _) (Nat.le_refl _),ge_b1,at_b1.below (Below.alloc_self' w1 _) (Nat.le_refl _),K.size,slot_new w1 _ _,ne_b0_b1,(Nat.ne_of_lt at_b0.lt),(Nat.ne_of_lt at_b1.lt)⟩))))⟩)
  ·obtain ⟨b0,b2,rfl,rfl,rfl,rfl,rfl,rfl,rfl,rfl,rfl,rfl,rfl,HH⟩:=hI
   right
   refine ⟨6,[1,6],rfl,by kernel_rfl,by simp,fun i hi=>?_⟩
   simp only [List.mem_cons,List.not_mem_nil,or_false] at hi
   rcases hi with rfl | rfl
   ·refine ⟨_,rfl,fun K' hK=>?_⟩
    go_simp
    obtain ⟨K,ge_b0,at_b0,ge_b2,at_b2,ne_b0_b2⟩:=HH.out
    refine hK.out _ _ (fun _ _=>⟨Nat.lt_of_lt_of_le bxl ((K.alloc K.size _)).size,Nat.lt_of_lt_of_le byl ((K.alloc K.size _)).size⟩) (⟨_,_,_,_,_,_,_,_,_,rfl,.inl (.inr (.inl (.inl (⟨b0,w1.heap.size,b2,rfl,rfl,rfl,rfl,rfl,rfl,rfl,rfl,rfl,rfl,rfl,K.alloc K.size _,ge_b0,at_b0.below (Below.alloc_self' w1 _) (Nat.le_refl _),K.size,slot_new w1 _ _,ge_b2,at_b2.below (Below.alloc_self' w1 _) (Nat.le_refl _),(Nat.ne_of_lt at_b0.lt),ne_b0_b2,(Nat.ne_of_gt at_b2.lt)⟩))))⟩)
   ·refine ⟨_,rfl,fun K' hK=>?_⟩
    go_simp
    obtain ⟨K,ge_b0,at_b0,ge_b2,at_b2,ne_b0_b2⟩:=HH.out
    refine (den_pos by' p q w1 (HY.out.below K).at' HY.out.pos).mono ?_
    rintro e w2 ⟨rfl,hw2⟩
    rw [hw2]
    clear hw2 w2
    refine hK.out _ _ (fun _ _=>⟨Nat.lt_of_lt_of_le bxl (K).size,Nat.lt_of_lt_of_le byl (K).size⟩) (⟨_,_,_,_,_,_,_,_,_,rfl,.inl (.inr (.inr (.inr (.inr (⟨b0,b2,rfl,rfl,rfl,rfl,rfl,rfl,rfl,rfl,rfl,rfl,rfl,K,ge_b0,at_b0,ge_b2,at_b2,ne_b0_b2⟩)))))⟩)
  ·obtain ⟨b1,b2,rfl,rfl,rfl,rfl,rfl,rfl,rfl,rfl,rfl,rfl,rfl,HH⟩:=hI
   right
   refine ⟨6,[0,6],rfl,by kernel_rfl,by simp,fun i hi=>?_⟩
   simp only [List.mem_cons,List.not_mem_nil,or_false] at hi
   rcases hi with rfl | rfl
   ·refine ⟨_,rfl,fun K' hK=>?_⟩
    go_simp
    obtain ⟨K,ge_b1,at_b1,ge_b2,at_b2,ne_b1_b2⟩:=HH.out
    refine hK.out _ _ (fun _ _=>⟨Nat.lt_of_lt_of_le bxl ((K.alloc K.size _)).size,Nat.lt_of_lt_of_le byl ((K.alloc K.size _)).size⟩) (⟨_,_,_,_,_,_,_,_,_,rfl,.inl (.inr (.inl (.inl (⟨w1.heap.size,b1,b2,rfl,rfl,rfl,rfl,rfl,rfl,rfl,rfl,rfl,rfl,rfl,K.alloc K.size _,K.size,slot_new w1 _ _,ge_b1,at_b1.below (Below.alloc_self' w1 _) (Nat.le_refl _),ge_b2,at_b2.below (Below.alloc_self' w1 _) (Nat.le_refl _),(Nat.ne_of_gt at_b1.lt),(Nat.ne_of_gt at_b2.lt),ne_b1_b2⟩))))⟩)
   ·refine ⟨_,rfl,fun K' hK=>?_⟩
    go_simp
    obtain ⟨K,ge_b1,at_b1,ge_b2,at_b2,ne_b1_b2⟩:=HH.out
    refine (den_pos by' p q w1 (HY.out.below K).at' HY.out.pos).mono ?_
    rintro e w2 ⟨rfl,hw2⟩
    rw [hw2]
    clear hw2 w2
    refine hK.out _ _ (fun _ _=>⟨Nat.lt_of_lt_of_le bxl (K).size,Nat.lt_of_lt_of_le byl (K).size⟩) (⟨_,_,_,_,_,_,_,_,_,rfl,.inr (.inl (.inl (.inl (⟨b1,b2,rfl,rfl,rfl,rfl,rfl,rfl,rfl,rfl,rfl,rfl,rfl,K,ge_b1,at_b1,ge_b2,at_b2,ne_b1_b2⟩))))⟩)
  ·obtain ⟨b0,b1,b2,rfl,rfl,rfl,rfl,rfl,rfl,rfl,rfl,rfl,rfl,rfl,HH⟩:=hI
   right
   refine ⟨5,[6],rfl,by kernel_rfl,by simp,fun i hi=>?_⟩
   simp only [List.mem_cons,List.not_mem_nil,or_false] at hi
   subst hi
   refine ⟨_,rfl,fun K' hK=>?_⟩
   go_simp
   obtain ⟨K,ge_b0,at_b0,ge_b1,at_b1,ge_b2,at_b2,ne_b0_b1,ne_b0_b2,ne_b1_b2⟩:=HH.out
   refine (den_pos by' p q w1 (HY.out.below K).at' HY.out.pos).mono ?_
   rintro e w2 ⟨rfl,hw2⟩
   rw [hw2]
   clear hw2 w2
   refine hK.out _ _ (fun _ _=>⟨Nat.lt_of_lt_of_le bxl (K).size,Nat.lt_of_lt_of_le byl (K).size⟩) (⟨_,_,_,_,_,_,_,_,_,rfl,.inr (.inl (.inl (.inr (.inl (⟨b0,b1,b2,rfl,rfl,rfl,rfl,rfl,rfl,rfl,rfl,rfl,rfl,rfl,K,ge_b0,at_b0,ge_b1,at_b1,ge_b2,at_b2,ne_b0_b1,ne_b0_b2,ne_b1_b2⟩)))))⟩)
  ·obtain ⟨rfl,rfl,rfl,rfl,rfl,rfl,rfl,rfl,rfl,rfl,rfl,HH⟩:=hI
   right
   refine ⟨7,[0,1,8],rfl,by kernel_rfl,by simp,fun i hi=>?_⟩
   simp only [List.mem_cons,List.not_mem_nil,or_false] at hi
   rcases hi with rfl | rfl | rfl
   ·refine ⟨_,rfl,fun K' hK=>?_⟩
    go_simp
    have K:=HH.out
    refine hK.out _ _ (fun _ _=>⟨Nat.lt_of_lt_of_le bxl ((K.alloc K.size _)).size,Nat.lt_of_lt_of_le byl ((K.alloc K.size _)).size⟩) (⟨_,_,_,_,_,_,_,_,_,rfl,.inl (.inr (.inl (.inr (.inr (⟨w1.heap.size,rfl,rfl,rfl,rfl,rfl,rfl,rfl,rfl,rfl,rfl,rfl,K.alloc K.size _,K.size,slot_new w1 _ _⟩)))))⟩)
   ·refine ⟨_,rfl,fun K' hK=>?_⟩
    go_simp
    have K:=HH.out
    refine hK.out _ _ (fun _ _=>⟨Nat.lt_of_lt_of_le bxl ((K.alloc K.size _)).size,Nat.lt_of_lt_of_le byl ((K.alloc K.size _)).size⟩) (⟨_,_,_,_,_,_,_,_,_,rfl,.inl (.inr (.inr (.inl (.inl (⟨w1.heap.size,rfl,rfl,rfl,rfl,rfl,rfl,rfl,rfl,rfl,rfl,rfl,K.alloc K.size _,K.size,slot_new w1 _ _⟩)))))⟩)
   ·refine ⟨_,rfl,fun K' hK=>?_⟩
    go_simp
    have K:=HH.out
    refine hK.out _ _ (fun _ _=>⟨Nat.lt_of_lt_of_le bxl ((K.alloc K.size _)).size,Nat.lt_of_lt_of_le byl ((K.alloc K.size _)).size⟩) (⟨_,_,_,_,_,_,_,_,_,rfl,.inl (.inr (.inr (.inl (.inr (⟨w1.heap.size,rfl,rfl,rfl,rfl,rfl,rfl,rfl,rfl,rfl,rfl,rfl,K.alloc K.size _,K.size,slot_new w1 _ _⟩)))))⟩)
  ·obtain ⟨b0,rfl,rfl,rfl,rfl,rfl,rfl,rfl,rfl,rfl,rfl,rfl,HH⟩:=hI
   right
   refine ⟨6,[1,8],rfl,by kernel_rfl,by simp,fun i hi=>?_⟩
   simp only [List.mem_cons,List.not_mem_nil,or_false] at hi
   rcases hi with rfl | rfl
   ·refine ⟨_,rfl,fun K' hK=>?_⟩
    go_simp
    obtain ⟨K,ge_b0,at_b0⟩:=HH.out
    refine hK.out _ _ (fun _ _=>⟨Nat.lt_of_lt_of_le bxl ((K.alloc K.size _)).size,Nat.lt_of_lt_of_le byl ((K.alloc K.size _)).size⟩) (⟨_,_,_,_,_,_,_,_,_,rfl,.inl (.inr (.inr (.inr (.inl (⟨b0,w1.heap.size,rfl,rfl,rfl,rfl,rfl,rfl,rfl,rfl,rfl,rfl,rfl,K.alloc K.size _,ge_b0,at_b0.below (Below.alloc_self' w1 _) (Nat.le_refl _),K.size,slot_new w1 _ _,(Nat.ne_of_lt at_b0.lt)⟩)))))⟩)
   ·refine ⟨_,rfl,fun K' hK=>?_⟩
    go_simp
    obtain ⟨K,ge_b0,at_b0⟩:=HH.out
    refine hK.out _ _ (fun _ _=>⟨Nat.lt_of_lt_of_le bxl ((K.alloc K.size _)).size,Nat.lt_of_lt_of_le byl ((K.alloc K.size _)).size⟩) (⟨_,_,_,_,_,_,_,_,_,rfl,.inl (.inr (.inr (.inr (.inr (⟨b0,w1.heap.size,rfl,rfl,rfl,rfl,rfl,rfl,rfl,rfl,rfl,rfl,rfl,K.alloc K.size _,ge_b0,at_b0.below (Below.alloc_self' w1 _) (Nat.le_refl _),K.size,slot_new w1 _ _,(Nat.ne_of_lt at_b0.lt)⟩)))))⟩)
  ·obtain ⟨b1,rfl,rfl,rfl,rfl,rfl,rfl,rfl,rfl,rfl,rfl,rfl,HH⟩:=hI
   right
   refine ⟨6,[0,7,8],rfl,by kernel_rfl,by simp,fun i hi=>?_⟩
   simp only [List.mem_cons,List.not_mem_nil,or_false] at hi
   rcases hi with rfl | rfl | rfl
   ·refine ⟨_,rfl,fun K' hK=>?_⟩
    go_simp
    obtain ⟨K,ge_b1,at_b1⟩:=HH.out
    refine hK.out _ _ (fun _ _=>⟨Nat.lt_of_lt_of_le bxl ((K.alloc K.size _)).size,Nat.lt_of_lt_of_le byl ((K.alloc K.size _)).size⟩) (⟨_,_,_,_,_,_,_,_,_,rfl,.inl (.inr (.inr (.inr (.inl (⟨w1.heap.size,b1,rfl,rfl,rfl,rfl,rfl,rfl,rfl,rfl,rfl,rfl,rfl,K.alloc K.size _,K.size,slot_new w1 _ _,ge_b1,at_b1.below (Below.alloc_self' w1 _) (Nat.le_refl _),(Nat.ne_of_gt at_b1.lt)⟩)))))⟩)
   ·refine ⟨_,rfl,fun K' hK=>?_⟩
    go_simp
    obtain ⟨K,ge_b1,at_b1⟩:=HH.out
    refine (Mul_at 0 2 b1 bx by' P q m m w1 at_b1 (HX.out.below K).at'.num (HY.out.below K).at'.den HB.out.P HB.out.q HB.out.m1.1 HB.out.m1.1).mono ?_
    rintro e w2 ⟨rfl,h2,u2⟩
    refine hK.out _ _ (fun _ _=>⟨Nat.lt_of_lt_of_le bxl ((K.trans (u2.below K.size ge_b1))).size,Nat.lt_of_lt_of_le byl ((K.trans (u2.below K.size ge_b1))).size⟩) (⟨_,_,_,_,_,_,_,_,_,rfl,.inr (.inl (.inl (.inr (.inr (⟨b1,rfl,rfl,rfl,rfl,rfl,rfl,rfl,rfl,rfl,rfl,rfl,(K.trans (u2.below K.size ge_b1)),ge_b1,h2⟩)))))⟩)
   ·refine ⟨_,rfl,fun K' hK=>?_⟩
    go_simp
    obtain ⟨K,ge_b1,at_b1⟩:=HH.out
    refine hK.out _ _ (fun _ _=>⟨Nat.lt_of_lt_of_le bxl ((K.alloc K.size _)).size,Nat.lt_of_lt_of_le byl ((K.alloc K.size _)).size⟩) (⟨_,_,_,_,_,_,_,_,_,rfl,.inr (.inl (.inl (.inl (⟨b1,w1.heap.size,rfl,rfl,rfl,rfl,rfl,rfl,rfl,rfl,rfl,rfl,rfl,K.alloc K.size _,ge_b1,at_b1.below (Below.alloc_self' w1 _) (Nat.le_refl _),K.size,slot_new w1 _ _,(Nat.ne_of_lt at_b1.lt)⟩))))⟩)
  ·obtain ⟨b2,rfl,rfl,rfl,rfl,rfl,rfl,rfl,rfl,rfl,rfl,rfl,HH⟩:=hI
   right
   refine ⟨6,[0,1],rfl,by kernel_rfl,by simp,fun i hi=>?_⟩
   simp only [List.mem_cons,List.not_mem_nil,or_false] at hi
   rcases hi with rfl | rfl
   ·refine ⟨_,rfl,fun K' hK=>?_⟩
    go_simp
    obtain ⟨K,ge_b2,at_b2⟩:=HH.out
    refine hK.out _ _ (fun _ _=>⟨Nat.lt_of_lt_of_le bxl ((K.alloc K.size _)).size,Nat.lt_of_lt_of_le byl ((K.alloc K.size _)).size⟩) (⟨_,_,_,_,_,_,_,_,_,rfl,.inl (.inr (.inr (.inr (.inr (⟨w1.heap.size,b2,rfl,rfl,rfl,rfl,rfl,rfl,rfl,rfl,rfl,rfl,rfl,K.alloc K.size _,K.size,slot_new w1 _ _,ge_b2,at_b2.below (Below.alloc_self' w1 _) (Nat.le_refl _),(Nat.ne_of_gt at_b2.lt)⟩)))))⟩)
   ·refine ⟨_,rfl,fun K' hK=>?_⟩
    go_simp
    obtain ⟨K,ge_b2,at_b2⟩:=HH.out
    refine hK.out _ _ (fun _ _=>⟨Nat.lt_of_lt_of_le bxl ((K.alloc K.size _)).size,Nat.lt_of_lt_of_le byl ((K.alloc K.size _)).size⟩) (⟨_,_,_,_,_,_,_,_,_,rfl,.inr (.inl (.inl (.inl (⟨w1.heap.size,b2,rfl,rfl,rfl,rfl,rfl,rfl,rfl,rfl,rfl,rfl,rfl,K.alloc K.size _,K.size,slot_new w1 _ _,ge_b2,at_b2.below (Below.alloc_self' w1 _) (Nat.le_refl _),(Nat.ne_of_gt at_b2.lt)⟩))))⟩)
  ·obtain ⟨b0,b1,rfl,rfl,rfl,rfl,rfl,rfl,rfl,rfl,rfl,rfl,rfl,HH⟩:=hI
   right
   refine ⟨5,[7,8],rfl,by kernel_rfl,by simp,fun i hi=>?_⟩
   simp only [List.mem_cons,List.not_mem_nil,or_false] at hi
   rcases hi with rfl | rfl
   ·refine ⟨_,rfl,fun K' hK=>?_⟩
    go_simp
    obtain ⟨K,ge_b0,at_b0,ge_b1,at_b1,ne_b0_b1⟩:=HH.out
    refine (Mul_at 0 2 b1 bx by' P q m m w1 at_b1 (HX.out.below K).at'.num (HY.out.below K).at'.den HB.out.P HB.out.q HB.out.m1.1 HB.out.m1.1).mono ?_
    rintro e w2 ⟨rfl,h2,u2⟩
    refine hK.out _ _ (fun _ _=>⟨Nat.lt_of_lt_of_le bxl ((K.trans (u2.below K.size ge_b1))).size,Nat.lt_of_lt_of_le byl ((K.trans (u2.below K.size ge_b1))).size⟩) (⟨_,_,_,_,_,_,_,_,_,rfl,.inr (.inl (.inr (.inl (.inl (⟨b0,b1,rfl,rfl,rfl,rfl,rfl,rfl,rfl,rfl,rfl,rfl,rfl,(K.trans (u2.below K.size ge_b1)),ge_b0,at_b0.upd u2 ne_b0_b1,ge_b1,h2,ne_b0_b1⟩)))))⟩)
   ·refine ⟨_,rfl,fun K' hK=>?_⟩
    go_simp
    obtain ⟨K,ge_b0,at_b0,ge_b1,at_b1,ne_b0_b1⟩:=HH.out
    refine hK.out _ _ (fun _ _=>⟨Nat.lt_of_lt_of_le bxl ((K.alloc K.size _)).size,Nat.lt_of_lt_of_le byl ((K.alloc K.size _)).size⟩) (⟨_,_,_,_,_,_,_,_,_,rfl,.inr (.inl (.inl (.inr (.inl (⟨b0,b1,w1.heap.size,rfl,rfl,rfl,rfl,rfl,rfl,rfl,rfl,rfl,rfl,rfl,K.alloc K.size _,ge_b0,at_b0.below (Below.alloc_self' w1 _) (Nat.le_refl _),ge_b1,at_b1.below (Below.alloc_self' w1 _) (Nat.le_refl _),K.size,slot_new w1 _ _,ne_b0_b1,(Nat.ne_of_lt at_b0.lt),(Nat.ne_of_lt at_b1.lt)⟩)))))⟩)
  ·obtain ⟨b0,b2,rfl,rfl,rfl,rfl,rfl,rfl,rfl,rfl,rfl,rfl,rfl,HH⟩:=hI
   right
   refine ⟨5,[1],rfl,by kernel_rfl,by simp,fun i hi=>?_⟩
   simp only [List.mem_cons,List.not_mem_nil,or_false] at hi
   subst hi
   refine ⟨_,rfl,fun K' hK=>?_⟩
   go_simp
   obtain ⟨K,ge_b0,at_b0,ge_b2,at_b2,ne_b0_b2⟩:=HH.out
   refine hK.out _ _ (fun _ _=>⟨Nat.lt_of_lt_of_le bxl ((K.alloc K.size _)).size,Nat.lt_of_lt_of_le byl ((K.alloc K.size _)).size⟩) (⟨_,_,_,_,_,_,_,_,_,rfl,.inr (.inl (.inl (.inr (.inl (⟨b0,w1.heap.size,b2,rfl,rfl,rfl,rfl,rfl,rfl,rfl,rfl,rfl,rfl,rfl,K.alloc K.size _,ge_b0,at_b0.below (Below.alloc_self' w1 _) (Nat.le_refl _),K.size,slot_new w1 _ _,ge_b2,at_b2.below (Below.alloc_self' w1 _) (Nat.le_refl _),(Nat.ne_of_lt at_b0.lt),ne_b0_b2,(Nat.ne_of_gt at_b2.lt)⟩)))))⟩)
  ·obtain ⟨b1,b2,rfl,rfl,rfl,rfl,rfl,rfl,rfl,rfl,rfl,rfl,rfl,HH⟩:=hI
   right
   refine ⟨5,[0,7],rfl,by kernel_rfl,by simp,fun i hi=>?_⟩
   simp only [List.mem_cons,List.not_mem_nil,or_false] at hi
   rcases hi with rfl | rfl
   ·refine ⟨_,rfl,fun K' hK=>?_⟩
    go_simp
    obtain ⟨K,ge_b1,at_b1,ge_b2,at_b2,ne_b1_b2⟩:=HH.out
    refine hK.out _ _ (fun _ _=>⟨Nat.lt_of_lt_of_le bxl ((K.alloc K.size _)).size,Nat.lt_of_lt_of_le byl ((K.alloc K.size _)).size⟩) (⟨_,_,_,_,_,_,_,_,_,rfl,.inr (.inl (.inl (.inr (.inl (⟨w1.heap.size,b1,b2,rfl,rfl,rfl,rfl,rfl,rfl,rfl,rfl,rfl,rfl,rfl,K.alloc K.size _,K.size,slot_new w1 _ _,ge_b1,at_b1.below (Below.alloc_self' w1 _) (Nat.le_refl _),ge_b2,at_b2.below (Below.alloc_self' w1 _) (Nat.le_refl _),(Nat.ne_of_gt at_b1.lt),(Nat.ne_of_gt at_b2.lt),ne_b1_b2⟩)))))⟩)
   ·refine ⟨_,rfl,fun K' hK=>?_⟩
    go_simp
    obtain ⟨K,ge_b1,at_b1,ge_b2,at_b2,ne_b1_b2⟩:=HH.out
    refine (Mul_at 0 2 b1 bx by' P q m m w1 at_b1 (HX.out.below K).at'.num (HY.out.below K).at'.den HB.out.P HB.out.q HB.out.m1.1 HB.out.m1.1).mono ?_
    rintro e w2 ⟨rfl,h2,u2⟩
    refine hK.out _ _ (fun _ _=>⟨Nat.lt_of_lt_of_le bxl ((K.trans (u2.below K.size ge_b1))).size,Nat.lt_of_lt_of_le byl ((K.trans (u2.below K.size ge_b1))).size⟩) (⟨_,_,_,_,_,_,_,_,_,rfl,.inr (.inl (.inr (.inl (.inr (⟨b1,b2,rfl,rfl,rfl,rfl,rfl,rfl,rfl,rfl,rfl,rfl,rfl,(K.trans (u2.below K.size ge_b1)),ge_b1,h2,ge_b2,at_b2.upd u2 (Ne.symm ne_b1_b2),ne_b1_b2⟩)))))⟩)
  ·obtain ⟨b0,b1,b2,rfl,rfl,rfl,rfl,rfl,rfl,rfl,rfl,rfl,rfl,rfl,HH⟩:=hI
   right
   refine ⟨4,[7],rfl,by kernel_rfl,by simp,fun i hi=>?_⟩
   simp only [List.mem_cons,List.not_mem_nil,or_false] at hi
   subst hi
   refine ⟨_,rfl,fun K' hK=>?_⟩
   go_simp
   obtain ⟨K,ge_b0,at_b0,ge_b1,at_b1,ge_b2,at_b2,ne_b0_b1,ne_b0_b2,ne_b1_b2⟩:=HH.out
   refine (Mul_at 0 2 b1 bx by' P q m m w1 at_b1 (HX.out.below K).at'.num (HY.out.below K).at'.den HB.out.P HB.out.q HB.out.m1.1 HB.out.m1.1).mono ?_
   rintro e w2 ⟨rfl,h2,u2⟩
   refine hK.out _ _ (fun _ _=>⟨Nat.lt_of_lt_of_le bxl ((K.trans (u2.below K.size ge_b1))).size,Nat.lt_of_lt_of_le byl ((K.trans (u2.below K.size ge_b1))).size⟩) (⟨_,_,_,_,_,_,_,_,_,rfl,.inr (.inl (.inr (.inr (.inl (⟨b0,b1,b2,rfl,rfl,rfl,rfl,rfl,rfl,rfl,rfl,rfl,rfl,rfl,(K.trans (u2.below K.size ge_b1)),ge_b0,at_b0.upd u2 ne_b0_b1,ge_b1,h2,ge_b2,at_b2.upd u2 (Ne.symm ne_b1_b2),ne_b0_b1,ne_b0_b2,ne_b1_b2⟩)))))⟩)
  ·obtain ⟨b1,rfl,rfl,rfl,rfl,rfl,rfl,rfl,rfl,rfl,rfl,rfl,HH⟩:=hI
   right
   refine ⟨5,[0,8,13],rfl,by kernel_rfl,by simp,fun i hi=>?_⟩
   simp only [List.mem_cons,List.not_mem_nil,or_false] at hi
   rcases hi with rfl | rfl | rfl
   ·refine ⟨_,rfl,fun K' hK=>?_⟩
    go_simp
    obtain ⟨K,ge_b1,at_b1⟩:=HH.out
    refine hK.out _ _ (fun _ _=>⟨Nat.lt_of_lt_of_le bxl ((K.alloc K.size _)).size,Nat.lt_of_lt_of_le byl ((K.alloc K.size _)).size⟩) (⟨_,_,_,_,_,_,_,_,_,rfl,.inr (.inl (.inr (.inl (.inl (⟨w1.heap.size,b1,rfl,rfl,rfl,rfl,rfl,rfl,rfl,rfl,rfl,rfl,rfl,K.alloc K.size _,K.size,slot_new w1 _ _,ge_b1,at_b1.below (Below.alloc_self' w1 _) (Nat.le_refl _),(Nat.ne_of_gt at_b1.lt)⟩)))))⟩)
   ·refine ⟨_,rfl,fun K' hK=>?_⟩
    go_simp
    obtain ⟨K,ge_b1,at_b1⟩:=HH.out
    refine hK.out _ _ (fun _ _=>⟨Nat.lt_of_lt_of_le bxl ((K.alloc K.size _)).size,Nat.lt_of_lt_of_le byl ((K.alloc K.size _)).size⟩) (⟨_,_,_,_,_,_,_,_,_,rfl,.inr (.inl (.inr (.inl (.inr (⟨b1,w1.heap.size,rfl,rfl,rfl,rfl,rfl,rfl,rfl,rfl,rfl,rfl,rfl,K.alloc K.size _,ge_b1,at_b1.below (Below.alloc_self' w1 _) (Nat.le_refl _),K.size,slot_new w1 _ _,(Nat.ne_of_lt at_b1.lt)⟩)))))⟩)
   ·refine ⟨_,rfl,fun K' hK=>?_⟩
    go_simp
    obtain ⟨K,ge_b1,at_b1⟩:=HH.out
    refine (den_pos bx P Q w1 (HX.out.below K).at' HX.out.pos).mono ?_
    rintro e w2 ⟨rfl,hw2⟩
    rw [hw2]
    clear hw2 w2
    refine hK.out _ _ (fun _ _=>⟨Nat.lt_of_lt_of_le bxl (K).size,Nat.lt_of_lt_of_le byl (K).size⟩) (⟨_,_,_,_,_,_,_,_,_,rfl,.inr (.inl (.inr (.inr (.inr (⟨b1,rfl,rfl,rfl,rfl,rfl,rfl,rfl,rfl,rfl,rfl,rfl,K,ge_b1,at_b1⟩)))))⟩)
  ·obtain ⟨b0,b1,rfl,rfl,rfl,rfl,rfl,rfl,rfl,rfl,rfl,rfl,rfl,HH⟩:=hI
   right
   refine ⟨4,[8,13],rfl,by kernel_rfl,by simp,fun i hi=>?_⟩
   simp only [List.mem_cons,List.not_mem_nil,or_false] at hi
   rcases hi with rfl | rfl
   ·refine ⟨_,rfl,fun K' hK=>?_⟩
    go_simp
    obtain ⟨K,ge_b0,at_b0,ge_b1,at_b1,ne_b0_b1⟩:=HH.out
    refine hK.out _ _ (fun _ _=>⟨Nat.lt_of_lt_of_le bxl ((K.alloc K.size _)).size,Nat.lt_of_lt_of_le byl ((K.alloc K.size _)).size⟩) (⟨_,_,_,_,_,_,_,_,_,rfl,.inr (.inl (.inr (.inr (.inl (⟨b0,b1,w1.heap.size,rfl,rfl,rfl,rfl,rfl,rfl,rfl,rfl,rfl,rfl,rfl,K.alloc K.size _,ge_b0,at_b0.below (Below.alloc_self' w1 _) (Nat.le_refl _),ge_b1,at_b1.below (Below.alloc_self' w1 _) (Nat.le_refl _),K.size,slot_new w1 _ _,ne_b0_b1,(Nat.ne_of_lt at_b0.lt),(Nat.ne_of_lt at_b1.lt)⟩)))))⟩)
   ·refine ⟨_,rfl,fun K' hK=>?_⟩
    go_simp
    obtain ⟨K,ge_b0,at_b0,ge_b1,at_b1,ne_b0_b1⟩:=HH.out
    refine (den_pos bx P Q w1 (HX.out.below K).at' HX.out.pos).mono ?_
    rintro e w2 ⟨rfl,hw2⟩
    rw [hw2]
    clear hw2 w2
    refine hK.out _ _ (fun _ _=>⟨Nat.lt_of_lt_of_le bxl (K).size,Nat.lt_of_lt_of_le byl (K).size⟩) (⟨_,_,_,_,_,_,_,_,_,rfl,.inr (.inr (.inl (.inl (⟨b0,b1,rfl,rfl,rfl,rfl,rfl,rfl,rfl,rfl,rfl,rfl,rfl,K,ge_b0,at_b0,ge_b1,at_b1,ne_b0_b1⟩))))⟩)
  ·obtain ⟨b1,b2,rfl,rfl,rfl,rfl,rfl,rfl,rfl,rfl,rfl,rfl,rfl,HH⟩:=hI
   right
   refine ⟨4,[0,13],rfl,by kernel_rfl,by simp,fun i hi=>?_⟩
   simp only [List.mem_cons,List.not_mem_nil,or_false] at hi
   rcases hi with rfl | rfl
   ·refine ⟨_,rfl,fun K' hK=>?_⟩
    go_simp
    obtain ⟨K,ge_b1,at_b1,ge_b2,at_b2,ne_b1_b2⟩:=HH.out
    refine hK.out _ _ (fun _ _=>⟨Nat.lt_of_lt_of_le bxl ((K.alloc K.size _)).size,Nat.lt_of_lt_of_le byl ((K.alloc K.size _)).size⟩) (⟨_,_,_,_,_,_,_,_,_,rfl,.inr (.inl (.inr (.inr (.inl (⟨w1.heap.size,b1,b2,rfl,rfl,rfl,rfl,rfl,rfl,rfl,rfl,rfl,rfl,rfl,K.alloc K.size _,K.size,slot_new w1 _ _,ge_b1,at_b1.below (Below.alloc_self' w1 _) (Nat.le_refl _),ge_b2,at_b2.below (Below.alloc_self' w1 _) (Nat.le_refl _),(Nat.ne_of_gt at_b1.lt),(Nat.ne_of_gt at_b2.lt),ne_b1_b2⟩)))))⟩)
   ·refine ⟨_,rfl,fun K' hK=>?_⟩
    go_simp
    obtain ⟨K,ge_b1,at_b1,ge_b2,at_b2,ne_b1_b2⟩:=HH.out
    refine (den_pos bx P Q w1 (HX.out.below K).at' HX.out.pos).mono ?_
    rintro e w2 ⟨rfl,hw2⟩
    rw [hw2]
    clear hw2 w2
    refine hK.out _ _ (fun _ _=>⟨Nat.lt_of_lt_of_le bxl (K).size,Nat.lt_of_lt_of_le byl (K).size⟩) (⟨_,_,_,_,_,_,_,_,_,rfl,.inr (.inr (.inl (.inr (.inl (⟨b1,b2,rfl,rfl,rfl,rfl,rfl,rfl,rfl,rfl,rfl,rfl,rfl,K,ge_b1,at_b1,ge_b2,at_b2,ne_b1_b2⟩)))))⟩)
  ·obtain ⟨b0,b1,b2,rfl,rfl,rfl,rfl,rfl,rfl,rfl,rfl,rfl,rfl,rfl,HH⟩:=hI
   right
   refine ⟨3,[13],rfl,by kernel_rfl,by simp,fun i hi=>?_⟩
   simp only [List.mem_cons,List.not_mem_nil,or_false] at hi
   subst hi
   refine ⟨_,rfl,fun K' hK=>?_⟩
   go_simp
   obtain ⟨K,ge_b0,at_b0,ge_b1,at_b1,ge_b2,at_b2,ne_b0_b1,ne_b0_b2,ne_b1_b2⟩:=HH.out
   refine (den_pos bx P Q w1 (HX.out.below K).at' HX.out.pos).mono ?_
   rintro e w2 ⟨rfl,hw2⟩
   rw [hw2]
   clear hw2 w2
   refine hK.out _ _ (fun _ _=>⟨Nat.lt_of_lt_of_le bxl (K).size,Nat.lt_of_lt_of_le byl (K).size⟩) (⟨_,_,_,_,_,_,_,_,_,rfl,.inr (.inr (.inl (.inr (.inr (⟨b0,b1,b2,rfl,rfl,rfl,rfl,rfl,rfl,rfl,rfl,rfl,rfl,rfl,K,ge_b0,at_b0,ge_b1,at_b1,ge_b2,at_b2,ne_b0_b1,ne_b0_b2,ne_b1_b2⟩)))))⟩)
  ·obtain ⟨b1,rfl,rfl,rfl,rfl,rfl,rfl,rfl,rfl,rfl,rfl,rfl,HH⟩:=hI
   right
   refine ⟨4,[0,8],rfl,by kernel_rfl,by simp,fun i hi=>?_⟩
   simp only [List.mem_cons,List.not_mem_nil,or_false] at hi
   rcases hi with rfl | rfl
   ·refine ⟨_,rfl,fun K' hK=>?_⟩
    go_simp
    obtain ⟨K,ge_b1,at_b1⟩:=HH.out
    refine hK.out _ _ (fun _ _=>⟨Nat.lt_of_lt_of_le bxl ((K.alloc K.size _)).size,Nat.lt_of_lt_of_le byl ((K.alloc K.size _)).size⟩) (⟨_,_,_,_,_,_,_,_,_,rfl,.inr (.inr (.inl (.inl (⟨w1.heap.size,b1,rfl,rfl,rfl,rfl,rfl,rfl,rfl,rfl,rfl,rfl,rfl,K.alloc K.size _,K.size,slot_new w1 _ _,ge_b1,at_b1.below (Below.alloc_self' w1 _) (Nat.le_refl _),(Nat.ne_of_gt at_b1.lt)⟩))))⟩)
   ·refine ⟨_,rfl,fun K' hK=>?_⟩
    go_simp
    obtain ⟨K,ge_b1,at_b1⟩:=HH.out
    refine hK.out _ _ (fun _ _=>⟨Nat.lt_of_lt_of_le bxl ((K.alloc K.size _)).size,Nat.lt_of_lt_of_le byl ((K.alloc K.size _)).size⟩) (⟨_,_,_,_,_,_,_,_,_,rfl,.inr (.inr (.inl (.inr (.inl (⟨b1,w1.heap.size,rfl,rfl,rfl,rfl,rfl,rfl,rfl,rfl,rfl,rfl,rfl,K.alloc K.size _,ge_b1,at_b1.below (Below.alloc_self' w1 _) (Nat.le_refl _),K.size,slot_new w1 _ _,(Nat.ne_of_lt at_b1.lt)⟩)))))⟩)
  ·obtain ⟨b0,b1,rfl,rfl,rfl,rfl,rfl,rfl,rfl,rfl,rfl,rfl,rfl,HH⟩:=hI
   right
   refine ⟨3,[8],rfl,by kernel_rfl,by simp,fun i hi=>?_⟩
   simp only [List.mem_cons,List.not_mem_nil,or_false] at hi
   subst hi
   refine ⟨_,rfl,fun K' hK=>?_⟩
   go_simp
   obtain ⟨K,ge_b0,at_b0,ge_b1,at_b1,ne_b0_b1⟩:=HH.out
   refine hK.out _ _ (fun _ _=>⟨Nat.lt_of_lt_of_le bxl ((K.alloc K.size _)).size,Nat.lt_of_lt_of_le byl ((K.alloc K.size _)).size⟩) (⟨_,_,_,_,_,_,_,_,_,rfl,.inr (.inr (.inl (.inr (.inr (⟨b0,b1,w1.heap.size,rfl,rfl,rfl,rfl,rfl,rfl,rfl,rfl,rfl,rfl,rfl,K.alloc K.size _,ge_b0,at_b0.below (Below.alloc_self' w1 _) (Nat.le_refl _),ge_b1,at_b1.below (Below.alloc_self' w1 _) (Nat.le_refl _),K.size,slot_new w1 _ _,ne_b0_b1,(Nat.ne_of_lt at_b0.lt),(Nat.ne_of_lt at_b1.lt)⟩)))))⟩)
  ·obtain ⟨b1,b2,rfl,rfl,rfl,rfl,rfl,rfl,rfl,rfl,rfl,rfl,rfl,HH⟩:=hI
   right
   refine ⟨3,[0,14],rfl,by kernel_rfl,by simp,fun i hi=>?_⟩
   simp only [List.mem_cons,List.not_mem_nil,or_false] at hi
   rcases hi with rfl | rfl
   ·refine ⟨_,rfl,fun K' hK=>?_⟩
    go_simp
    obtain ⟨K,ge_b1,at_b1,ge_b2,at_b2,ne_b1_b2⟩:=HH.out
    refine hK.out _ _ (fun _ _=>⟨Nat.lt_of_lt_of_le bxl ((K.alloc K.size _)).size,Nat.lt_of_lt_of_le byl ((K.alloc K.size _)).size⟩) (⟨_,_,_,_,_,_,_,_,_,rfl,.inr (.inr (.inl (.inr (.inr (⟨w1.heap.size,b1,b2,rfl,rfl,rfl,rfl,rfl,rfl,rfl,rfl,rfl,rfl,rfl,K.alloc K.size _,K.size,slot_new w1 _ _,ge_b1,at_b1.below (Below.alloc_self' w1 _) (Nat.le_refl _),ge_b2,at_b2.below (Below.alloc_self' w1 _) (Nat.le_refl _),(Nat.ne_of_gt at_b1.lt),(Nat.ne_of_gt at_b2.lt),ne_b1_b2⟩)))))⟩)
   ·refine ⟨_,rfl,fun K' hK=>?_⟩
    go_simp
    obtain ⟨K,ge_b1,at_b1,ge_b2,at_b2,ne_b1_b2⟩:=HH.out
    refine (Mul_at 0 2 b2 by' bx p Q m m w1 at_b2 (HY.out.below K).at'.num (HX.out.below K).at'.den HB.out.p HB.out.Q HB.out.m1.1 HB.out.m1.1).mono ?_
    rintro e w2 ⟨rfl,h2,u2⟩
    refine hK.out _ _ (fun _ _=>⟨Nat.lt_of_lt_of_le bxl ((K.trans (u2.below K.size ge_b2))).size,Nat.lt_of_lt_of_le byl ((K.trans (u2.below K.size ge_b2))).size⟩) (⟨_,_,_,_,_,_,_,_,_,rfl,.inr (.inr (.inr (.inl (.inl (⟨b1,b2,rfl,rfl,rfl,rfl,rfl,rfl,rfl,rfl,rfl,rfl,rfl,(K.trans (u2.below K.size ge_b2)),ge_b1,at_b1.upd u2 at_b2 ne_b1_b2,ge_b2,h2,ne_b1_b2⟩)))))⟩)
  ·obtain ⟨b0,b1,b2,rfl,rfl,rfl,rfl,rfl,rfl,rfl,rfl,rfl,rfl,rfl,HH⟩:=hI
   right
   refine ⟨2,[14],rfl,by kernel_rfl,by simp,fun i hi=>?_⟩
   simp only [List.mem_cons,List.not_mem_nil,or_false] at hi
   subst hi
   refine ⟨_,rfl,fun K' hK=>?_⟩
   go_simp
   obtain ⟨K,ge_b0,at_b0,ge_b1,at_b1,ge_b2,at_b2,ne_b0_b1,ne_b0_b2,ne_b1_b2⟩:=HH.out
   refine (Mul_at 0 2 b2 by' bx p Q m m w1 at_b2 (HY.out.below K).at'.num (HX.out.below K).at'.den HB.out.p HB.out.Q HB.out.m1.1 HB.out.m1.1).mono ?_
   rintro e w2 ⟨rfl,h2,u2⟩
   refine hK.out _ _ (fun _ _=>⟨Nat.lt_of_lt_of_le bxl ((K.trans (u2.below K.size ge_b2))).size,Nat.lt_of_lt_of_le byl ((K.trans (u2.below K.size ge_b2))).size⟩) (⟨_,_,_,_,_,_,_,_,_,rfl,.inr (.inr (.inr (.inl (.inr (⟨b0,b1,b2,rfl,rfl,rfl,rfl,rfl,rfl,rfl,rfl,rfl,rfl,rfl,(K.trans (u2.below K.size ge_b2)),ge_b0,at_b0.upd u2 ne_b0_b2,ge_b1,at_b1.upd u2 at_b2 ne_b1_b2,ge_b2,h2,ne_b0_b1,ne_b0_b2,ne_b1_b2⟩)))))⟩)
  ·obtain ⟨b1,b2,rfl,rfl,rfl,rfl,rfl,rfl,rfl,rfl,rfl,rfl,rfl,HH⟩:=hI
   right
   refine ⟨2,[0],rfl,by kernel_rfl,by simp,fun i hi=>?_⟩
   simp only [List.mem_cons,List.not_mem_nil,or_false] at hi
   subst hi
   refine ⟨_,rfl,fun K' hK=>?_⟩
   go_simp
   obtain ⟨K,ge_b1,at_b1,ge_b2,at_b2,ne_b1_b2⟩:=HH.out
   refine hK.out _ _ (fun _ _=>⟨Nat.lt_of_lt_of_le bxl ((K.alloc K.size _)).size,Nat.lt_of_lt_of_le byl ((K.alloc K.size _)).size⟩) (⟨_,_,_,_,_,_,_,_,_,rfl,.inr (.inr (.inr (.inl (.inr (⟨w1.heap.size,b1,b2,rfl,rfl,rfl,rfl,rfl,rfl,rfl,rfl,rfl,rfl,rfl,K.alloc K.size _,K.size,slot_new w1 _ _,ge_b1,at_b1.below (Below.alloc_self' w1 _) (Nat.le_refl _),ge_b2,at_b2.below (Below.alloc_self' w1 _) (Nat.le_refl _),(Nat.ne_of_gt at_b1.lt),(Nat.ne_of_gt at_b2.lt),ne_b1_b2⟩)))))⟩)
  ·obtain ⟨b0,b1,b2,rfl,rfl,rfl,rfl,rfl,rfl,rfl,rfl,rfl,rfl,rfl,HH⟩:=hI
   right
   refine ⟨1,[15],rfl,by kernel_rfl,by simp,fun i hi=>?_⟩
   simp only [List.mem_cons,List.not_mem_nil,or_false] at hi
   subst hi
   refine ⟨_,rfl,fun K' hK=>?_⟩
   go_simp
   obtain ⟨K,ge_b0,at_b0,ge_b1,at_b1,ge_b2,at_b2,ne_b0_b1,ne_b0_b2,ne_b1_b2⟩:=HH.out
   refine (Add_any b0 b1 b2 (P * q) (p * Q) (m + m) (m + m) w1 at_b0 at_b1 at_b2 (mul_pw HB.out.P HB.out.q) (mul_pw HB.out.p HB.out.Q) HB.out.m1.2.1 HB.out.m1.2.1).mono ?_
   rintro e w2 ⟨rfl,h2,u2⟩
   refine hK.out _ _ (fun _ _=>⟨Nat.lt_of_lt_of_le bxl ((K.trans (u2.below K.size ge_b0))).size,Nat.lt_of_lt_of_le byl ((K.trans (u2.below K.size ge_b0))).size⟩) (⟨_,_,_,_,_,_,_,_,_,rfl,.inr (.inr (.inr (.inr (.inl (⟨b0,b1,b2,rfl,rfl,rfl,rfl,rfl,rfl,rfl,rfl,rfl,rfl,rfl,(K.trans (u2.below K.size ge_b0)),ge_b0,h2,ge_b1,at_b1.upd u2 at_b0 (Ne.symm ne_b0_b1),ge_b2,at_b2.upd u2 at_b0 (Ne.symm ne_b0_b2),ne_b0_b1,ne_b0_b2,ne_b1_b2⟩)))))⟩)
  ·obtain ⟨b0,b1,b2,rfl,rfl,rfl,rfl,rfl,rfl,rfl,rfl,rfl,rfl,rfl,HH⟩:=hI
   right
   refine ⟨0,[16],rfl,by kernel_rfl,by simp,fun i hi=>?_⟩
   simp only [List.mem_cons,List.not_mem_nil,or_false] at hi
   subst hi
   refine ⟨_,rfl,fun K' hK=>?_⟩
   go_simp
   obtain ⟨K,ge_b0,at_b0,ge_b1,at_b1,ge_b2,at_b2,ne_b0_b1,ne_b0_b2,ne_b1_b2⟩:=HH.out
   refine hK.out _ _ (fun _ h=>absurd rfl h) (⟨_,_,_,_,_,_,_,_,_,rfl,.inr (.inr (.inr (.inr (.inr (⟨b0,b1,b2,rfl,rfl,rfl,rfl,rfl,rfl,rfl,rfl,rfl,rfl,rfl,K,ge_b0,at_b0,ge_b1,at_b1,ge_b2,at_b2,ne_b0_b1,ne_b0_b2,ne_b1_b2⟩)))))⟩)
  ·obtain ⟨b0,b1,b2,rfl,rfl,rfl,rfl,rfl,rfl,rfl,rfl,rfl,rfl,rfl,HH⟩:=hI
   obtain ⟨K,ge_b0,at_b0,ge_b1,at_b1,ge_b2,at_b2,ne_b0_b1,ne_b0_b2,ne_b1_b2⟩:=HH.out
   left
   refine ⟨by kernel_rfl,?_⟩
   have HA:Hid (BigAt w1 b0 (P * q + p * Q)):=at_b0
   have HK:Hid (Below w.heap.size w w1):=K
   clear HH K ge_b0 at_b0 ge_b1 at_b1 ge_b2 at_b2 ne_b0_b1 ne_b0_b2 ne_b1_b2
   have ka:Below w1.heap.size w1 (w1.alloc (.cells #[.bool false,.slice none 0 0] 37)):=(Below.refl _ _).alloc (Nat.le_refl _) _
   have KA:Below w.heap.size w (w1.alloc (.cells #[.bool false,.slice none 0 0] 37)):=HK.out.trans (ka.mono HK.out.size)
   have X2:Hid (Rt (w1.alloc (.cells #[.bool false,.slice none 0 0] 37)) bx P Q):=HX.out.below KA
   have Y2:Hid (Rt (w1.alloc (.cells #[.bool false,.slice none 0 0] 37)) by' p q):=HY.out.below KA
   have HKA:Hid (Below w.heap.size w (w1.alloc (.cells #[.bool false,.slice none 0 0] 37))):=KA
   have Hka:Hid (Below w1.heap.size w1 (w1.alloc (.cells #[.bool false,.slice none 0 0] 37))):=ka
   clear ka KA
   go_wp2_with fail
   refine (den_pos bx P Q _ X2.out.at' X2.out.pos).mono ?_
   rintro e w2 ⟨rfl,hw2⟩
   rw [hw2]
   clear hw2 w2
   go_wp2_with fail
   refine (den_pos by' p q _ Y2.out.at' Y2.out.pos).mono ?_
   rintro e w2 ⟨rfl,hw2⟩
   rw [hw2]
   clear hw2 w2
   go_wp2_with fail
   refine (Mul_at 2 2 w1.heap.size bx by' Q q m m _ (slot_new w1 _ _) X2.out.at'.den Y2.out.at'.den HB.out.Q HB.out.q HB.out.m1.1 HB.out.m1.1).mono ?_
   rintro e w3 ⟨rfl,h3,u3⟩
   have K3:Below w1.heap.size w1 w3:=Hka.out.trans (u3.below (by simp) (Nat.le_refl _))
   have HK3:Hid (Below w.heap.size w w3):=HK.out.trans (K3.mono HK.out.size)
   have H3:Hid (BigAt w3 w1.heap.size (Q * q)):=h3
   have HA3:Hid (BigAt w3 b0 (P * q + p * Q)):=HA.out.below K3 (Nat.le_refl _)
   clear h3 u3 K3
   go_wp2_with fail
   refine (SetFrac_pos bz b0 0 w1.heap.size 0 (P * q + p * Q) (Q * q) (m + m + 1) w3 (HZ.out.below HK3.out) HA3.out.at H3.out.at (Int.mul_pos HX.out.pos HY.out.pos) (add_pw (mul_pw HB.out.P HB.out.q) (mul_pw HB.out.p HB.out.Q)) (Nat.lt_of_lt_of_le (mul_pw HB.out.Q HB.out.q) (pw_le (by omega))) HB.out.m1.2.2).mono ?_
   rintro e w4 ⟨rfl,A,B,r1,r2,r3,r4,r5,r6,u4⟩
   have HE:Hid (∃ A B:Int,Rt w4 bz A B∧A * (Q * q) = (P * q + p * Q) * B∧A.natAbs≤(P * q + p * Q).natAbs∧B.natAbs≤(Q * q).natAbs∧Upd bz w w4):=⟨A,B,⟨r1,r2,r4⟩,r3,r5,r6,(Upd.of_below HK3.out).trans u4⟩
   clear r1 r2 r3 r4 r5 r6 u4
   go_wp2
   go_ret
   exact ⟨rfl,HE.out⟩
end Go.Proofs.YtnkjadpmigpneaaGreatDoor
