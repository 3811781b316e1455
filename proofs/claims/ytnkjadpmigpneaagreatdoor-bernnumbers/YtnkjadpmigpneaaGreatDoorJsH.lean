import Derived.Test.YtnkjadpmigpneaaGreatDoorLgK
set_option linter.unusedSimpArgs false
set_option linter.unusedVariables false
namespace Go.Proofs.YtnkjadpmigpneaaGreatDoor
section
set_option maxRecDepth 100000
open Go.RowKit LgM
structure SN (w:World) (v:Value) (b:Bool) (n:Int):Prop where
 num:LN w v n.natAbs
 sgn:b = decide (n < 0)
theorem Cl.two {b:Nat} {x0 x1:Value} {t:TypeId} {w:World} (h:Cl b [x0,x1] t w) (u v:Value):Cl b [u,v] t ((w.setCell ⟨b,0,none⟩ u).setCell ⟨b,1,none⟩ v):=(h.set 0 u).set 1 v
set_option maxHeartbeats 1000000 in
theorem signed_any (v:Value) (n:Nat) (b:Bool) (w:World) (h:LN w v n) :
  Calls Tryz.prog 115 #[.agg #[v],.bool b] w fun e w'=>e = .returned (.agg #[v,.bool (b && decide (n ≠ 0))])∧Below w.heap.size w w':=by
 obtain ⟨a,k,c,rfl⟩:=h.shape
 have C0:Cl w.heap.size [.slice a k c] 64 ((w.alloc (.cells #[.slice a k c] 64)).alloc (.cells #[.slice none 0 0,.bool false] 66)):=(Cl.new [.slice a k c] _ w).alloc _
 have C1:Cl (w.heap.size + 1) [.slice none 0 0,.bool false] 66 ((w.alloc (.cells #[.slice a k c] 64)).alloc (.cells #[.slice none 0 0,.bool false] 66)):=by
  have:=Cl.new [.slice none 0 0,.bool false] 66 (w.alloc (.cells #[.slice a k c] 64))
  simpa using this
 obtain ⟨W0,hW0⟩:∃ W0,W0 = ((w.alloc (.cells #[.slice a k c] 64)).alloc (.cells #[.slice none 0 0,.bool false] 66)):=⟨_,rfl⟩
 rw [← hW0] at C0 C1
 have KB:Hid (Below w.heap.size w W0):=by show Below _ _ _; rw [hW0]; exact ((Below.refl _ _).alloc (Nat.le_refl _) _).alloc (by simp) _
 have HC:Hid (Cl w.heap.size [.slice a k c] 64 W0∧Cl (w.heap.size + 1) [.slice none 0 0,.bool false] 66 W0):=⟨C0,C1⟩
 have HL:Hid (LN W0 (.slice a k c) n):=h.below KB.out
 have HZ:Hid (w.heap.size + 2 = W0.heap.size):=by show _ = _; rw [hW0]; simp
 have q1:=C0.cell 0
 simp at q1
 clear C0 C1 h
 cases b
 ·go_enter Tryz.func115,Tryz.ntmps115
  go_wp2
  rw [← hW0]
  clear hW0
  refine wp_region_G (fun w'=>w'.cell? ⟨w.heap.size,0,none⟩ = some (.slice a k c)) 8 (by kernel_rfl) q1 (fun hHeld=>?_)
  refine wpAnyG_take (i:=0) (v:=?v0x1) rfl (by kernel_rfl) (fun _ _ _ h=>h) (Or.inl ⟨by rfl,?y0x1⟩) hHeld ?r0x1
  case y0x1=>(intro wS hSw; obtain s1:=hSw; go_simp; try with_reducible rfl)
  try simp only [Act.put,List.setIfInBounds_toArray,List.set_cons_zero,List.set_cons_succ]
  refine wpAnyG_take (i:=1) (v:=?v1x2) rfl (by kernel_rfl) (fun _ _ _ h=>h) (Or.inl ⟨by rfl,?y1x2⟩) hHeld ?r1x2
  case y1x2=>(intro wS hSw; obtain s1:=hSw; go_simp; try with_reducible rfl)
  try simp only [Act.put,List.setIfInBounds_toArray,List.set_cons_zero,List.set_cons_succ]
  refine wpAnyG_take (i:=2) (v:=?v2x3) rfl (by kernel_rfl) (fun _ _ _ h=>h) (Or.inl ⟨by rfl,?y2x3⟩) hHeld ?r2x3
  case y2x3=>(intro wS hSw; obtain s1:=hSw; go_simp; try with_reducible rfl)
  try simp only [Act.put,List.setIfInBounds_toArray,List.set_cons_zero,List.set_cons_succ]
  refine wpAnyG_take (i:=3) (v:=undef) rfl (by kernel_rfl) (fun _ _ _ h=>h) (Or.inr ⟨by kernel_rfl,rfl⟩) hHeld ?_
  try simp only [Act.put,List.setIfInBounds_toArray,List.set_cons_zero,List.set_cons_succ]
  refine wpAnyG_take (i:=4) (v:=undef) rfl (by kernel_rfl) (fun _ _ _ h=>h) (Or.inr ⟨by kernel_rfl,rfl⟩) hHeld ?_
  try simp only [Act.put,List.setIfInBounds_toArray,List.set_cons_zero,List.set_cons_succ]
  refine wpAnyG_take (i:=5) (v:=undef) rfl (by kernel_rfl) (fun _ _ _ h=>h) (Or.inr ⟨by kernel_rfl,rfl⟩) hHeld ?_
  try simp only [Act.put,List.setIfInBounds_toArray,List.set_cons_zero,List.set_cons_succ]
  refine wpAnyG_take (i:=6) (v:=?v6x4) rfl (by kernel_rfl) (fun _ _ _ h=>h) (Or.inl ⟨by rfl,?y6x4⟩) hHeld ?r6x4
  case y6x4=>(intro wS hSw; obtain s1:=hSw; go_simp; try with_reducible rfl)
  try simp only [Act.put,List.setIfInBounds_toArray,List.set_cons_zero,List.set_cons_succ]
  refine wpAnyG_take (i:=7) (v:=?v7x5) rfl (by kernel_rfl) (fun _ _ _ h=>h) (Or.inl ⟨by rfl,?y7x5⟩) hHeld ?r7x5
  case y7x5=>(intro wS hSw; obtain s1:=hSw; go_simp; try with_reducible rfl)
  try simp only [Act.put,List.setIfInBounds_toArray,List.set_cons_zero,List.set_cons_succ]
  clear hHeld
  have u1:=HC.out.2.cell 0
  have u2:=HC.out.2.cell 1
  have u3:=HC.out.2.frozen 0
  have u4:=HC.out.2.frozen 1
  simp at u1 u2
  refine wpAnyG_last (i:=8) rfl (by kernel_rfl) (by kernel_rfl) (fun K hK=>?_)
  go_simp
  refine hK.out _ _ ?_
  clear hK K
  try simp only [Act.put,List.setIfInBounds_toArray,List.set_cons_zero,List.set_cons_succ]
  refine wpAnyG_done (by kernel_rfl) ?_ _
  clear u1 u2 u3 u4 q1
  go_wp2
  have C3:=(HC.out.2.two (.slice a k c) (.bool false)).drew
  have e1:=C3.cell 0
  have e2:=C3.cell 1
  simp at e1 e2
  refine bodyPost_ret (v:=.agg #[.slice a k c,.bool false]) (by simp [results,Tryz.results115,go_sem,e1,e2]) rfl ⟨by simp,?_⟩
  exact ((KB.out.setCell (by simp) _).setCell (by simp) _).drew
 ·have HIz:Hid (∀ W,Below W0.heap.size W0 W→Calls Tryz.prog 104 #[.agg #[.slice a k c]] W fun e w'=>e = .returned (.bool (decide (n = 0)))∧Below W.heap.size W w'):=fun W hW=>IsZero_any _ n W (HL.out.below hW)
  go_enter Tryz.func115,Tryz.ntmps115
  go_wp2
  rw [← hW0]
  clear hW0
  refine wp_region_G (fun w'=>w'.cell? ⟨w.heap.size,0,none⟩ = some (.slice a k c)) 8 (by kernel_rfl) q1 (fun hHeld=>?_)
  refine wpAnyG_take (i:=0) (v:=?v0x6) rfl (by kernel_rfl) (fun _ _ _ h=>h) (Or.inl ⟨by rfl,?y0x6⟩) hHeld ?r0x6
  case y0x6=>(intro wS hSw; obtain s1:=hSw; go_simp; try with_reducible rfl)
  try simp only [Act.put,List.setIfInBounds_toArray,List.set_cons_zero,List.set_cons_succ]
  refine wpAnyG_take (i:=1) (v:=?v1x7) rfl (by kernel_rfl) (fun _ _ _ h=>h) (Or.inl ⟨by rfl,?y1x7⟩) hHeld ?r1x7
  case y1x7=>(intro wS hSw; obtain s1:=hSw; go_simp; try with_reducible rfl)
  try simp only [Act.put,List.setIfInBounds_toArray,List.set_cons_zero,List.set_cons_succ]
  refine wpAnyG_take (i:=2) (v:=?v2x8) rfl (by kernel_rfl) (fun _ _ _ h=>h) (Or.inl ⟨by rfl,?y2x8⟩) hHeld ?r2x8
  case y2x8=>(intro wS hSw; obtain s1:=hSw; go_simp; try with_reducible rfl)
  try simp only [Act.put,List.setIfInBounds_toArray,List.set_cons_zero,List.set_cons_succ]
  refine wpAnyG_take (i:=3) (v:=?v3x9) rfl (by kernel_rfl) (fun _ _ _ h=>h) (Or.inl ⟨by kernel_rfl,?y3x9⟩) hHeld ?r3x9
  case y3x9=>(intro wS hSw; have s1:=hSw; go_simp; try with_reducible rfl)
  try simp only [Act.put,List.setIfInBounds_toArray,List.set_cons_zero,List.set_cons_succ]
  refine wpAnyG_one (i:=4) rfl (by kernel_rfl) (fun K hK=>?_)
  rw [if_pos (by kernel_rfl)]
  go_simp
  refine (HIz.out _ (Below.refl _ _).drew).mono ?_
  rintro e w2 ⟨rfl,k2⟩
  have HK2:Hid (Below W0.heap.size W0 w2):=(Below.refl _ _).drew.trans k2
  have hq:w2.cell? ⟨w.heap.size,0,none⟩ = some (.slice a k c):=by
   have:=(HC.out.1.below HK2.out).cell 0
   simpa using this
  refine hK.out _ _ hq ?_
  clear k2
  clear hK K
  try simp only [Act.put,List.setIfInBounds_toArray,List.set_cons_zero,List.set_cons_succ]
  clear hHeld
  have hHeld:=hq
  have HC2:Hid (Cl (w.heap.size + 1) [.slice none 0 0,.bool false] 66 w2):=HC.out.2.below HK2.out
  obtain ⟨z,hz⟩:∃ z,z = decide (n = 0):=⟨_,rfl⟩
  rw [← hz]
  have HZb:Hid ((true && decide (n ≠ 0)) = !z):=by show _ = _; rw [hz]; by_cases h:n = 0 <;> simp [h]
  clear hz
  refine wpAnyG_take (i:=5) (v:=?v5x10) rfl (by kernel_rfl) (fun _ _ _ h=>h) (Or.inl ⟨by kernel_rfl,?y5x10⟩) hHeld ?r5x10
  case y5x10=>(intro wS hSw; have s1:=hSw; go_simp; try with_reducible rfl)
  try simp only [Act.put,List.setIfInBounds_toArray,List.set_cons_zero,List.set_cons_succ]
  refine wpAnyG_take (i:=6) (v:=?v6x11) rfl (by kernel_rfl) (fun _ _ _ h=>h) (Or.inl ⟨by rfl,?y6x11⟩) hHeld ?r6x11
  case y6x11=>(intro wS hSw; obtain s1:=hSw; go_simp; try with_reducible rfl)
  try simp only [Act.put,List.setIfInBounds_toArray,List.set_cons_zero,List.set_cons_succ]
  refine wpAnyG_take (i:=7) (v:=?v7x12) rfl (by kernel_rfl) (fun _ _ _ h=>h) (Or.inl ⟨by rfl,?y7x12⟩) hHeld ?r7x12
  case y7x12=>(intro wS hSw; obtain s1:=hSw; go_simp; try with_reducible rfl)
  try simp only [Act.put,List.setIfInBounds_toArray,List.set_cons_zero,List.set_cons_succ]
  clear hHeld hq
  have u1:=HC2.out.cell 0
  have u2:=HC2.out.cell 1
  have u3:=HC2.out.frozen 0
  have u4:=HC2.out.frozen 1
  simp at u1 u2
  refine wpAnyG_last (i:=8) rfl (by kernel_rfl) (by kernel_rfl) (fun K hK=>?_)
  go_simp
  refine hK.out _ _ ?_
  clear hK K
  try simp only [Act.put,List.setIfInBounds_toArray,List.set_cons_zero,List.set_cons_succ]
  refine wpAnyG_done (by kernel_rfl) ?_ _
  clear u1 u2 u3 u4 q1
  go_wp2
  have C3:=HC2.out.two (.slice a k c) (.bool (!z))
  have e1:=C3.cell 0
  have e2:=C3.cell 1
  simp at e1 e2
  refine bodyPost_ret (v:=.agg #[.slice a k c,.bool (!z)]) (by simp [results,Tryz.results115,go_sem,e1,e2]) rfl ⟨by rw [HZb.out],?_⟩
  exact ((KB.out.trans (HK2.out.mono (by have:=HZ.out; omega))).setCell (by simp) _).setCell (by simp) _
end
section
set_option maxRecDepth 100000
open Go.RowKit LgM
theorem LN.setS {w:World} {v:Value} {n b i:Nat} {a:Option Addr} {k c:Nat} {z:Bool} {t:TypeId} (h:LN w v n) (hc:Cl b [.slice a k c,.bool z] t w) (u:Value):LN (w.setCell ⟨b,i,none⟩ u) v n:=by
 obtain ⟨j,hj,⟨aa,g,o,c',e,p,cell,lt⟩,hty⟩:=h
 refine ⟨j,hj,⟨aa,g,o,c',e,p,fun t ht=>?_,fun hp=>by have:=lt hp; simp; omega⟩,hty.set _ _⟩
 have hne:g ≠ b:=by
  intro e2
  subst e2
  have h1:=cell t ht
  rw [hc.cell] at h1
  rcases ho:o + t with _ | _ | s
  ·rw [ho] at h1; simp at h1
  ·rw [ho] at h1; simp at h1
  ·rw [ho] at h1; simp at h1
 rw [World.cell?,Below.heap_setCell _ _ _ g (by simpa using hne)]
 exact cell t ht
theorem LN.setTwo {w:World} {v:Value} {n b:Nat} {a a':Option Addr} {k c k' c':Nat} {z z':Bool} {t:TypeId} (h:LN w v n) (hc:Cl b [.slice a k c,.bool z] t w):LN ((w.setCell ⟨b,0,none⟩ (.slice a' k' c')).setCell ⟨b,1,none⟩ (.bool z')) v n :=
 (h.setS hc _).setS (hc.set 0 (.slice a' k' c')) _
set_option maxHeartbeats 1000000 in
theorem Negative_any (v:Value) (x:Int) (w:World) (h:LN w v x.natAbs) :
  Calls Tryz.prog 85 #[.agg #[v,.bool (decide (x < 0))]] w fun e w'=>e = .returned (.agg #[v,.bool (decide (-x < 0))])∧Below w.heap.size w w':=by
 obtain ⟨a,k,c,rfl⟩:=h.shape
 obtain ⟨z,hz⟩:∃ z,z = decide (x < 0):=⟨_,rfl⟩
 rw [← hz]
 have C0:Cl w.heap.size [.slice a k c,.bool z] 66 ((w.alloc (.cells #[.slice a k c,.bool z] 66)).alloc (.cells #[.slice none 0 0,.bool false] 66)):=(Cl.new [.slice a k c,.bool z] _ w).alloc _
 have C1:Cl (w.heap.size + 1) [.slice none 0 0,.bool false] 66 ((w.alloc (.cells #[.slice a k c,.bool z] 66)).alloc (.cells #[.slice none 0 0,.bool false] 66)):=by
  have:=Cl.new [.slice none 0 0,.bool false] 66 (w.alloc (.cells #[.slice a k c,.bool z] 66))
  simpa using this
 obtain ⟨W0,hW0⟩:∃ W0,W0 = ((w.alloc (.cells #[.slice a k c,.bool z] 66)).alloc (.cells #[.slice none 0 0,.bool false] 66)):=⟨_,rfl⟩
 rw [← hW0] at C0 C1
 have KB:Hid (Below w.heap.size w W0):=by show Below _ _ _; rw [hW0]; exact ((Below.refl _ _).alloc (Nat.le_refl _) _).alloc (by simp) _
 have HC:Hid (Cl w.heap.size [.slice a k c,.bool z] 66 W0∧Cl (w.heap.size + 1) [.slice none 0 0,.bool false] 66 W0):=⟨C0,C1⟩
 have HZ:Hid (w.heap.size + 2 = W0.heap.size):=by show _ = _; rw [hW0]; simp
 have HCl:Hid (Calls Tryz.prog 115 #[.agg #[.slice a k c],.bool (!z)] W0 fun e w'=>e = .returned (.agg #[.slice a k c,.bool (decide (-x < 0))])∧Below W0.heap.size W0 w'):=by
  have:=signed_any (.slice a k c) x.natAbs (!z) W0 (h.below KB.out)
  have e:((!z) && decide (x.natAbs ≠ 0)) = decide (-x < 0):=by
   rw [hz]
   by_cases h1:x < 0
   ·simp [h1]; omega
   ·by_cases h2:x = 0
    ·simp [h2]
    ·have h3 : -x < 0:=by omega
     simp [h1,h2,h3]; omega
  rw [e] at this
  exact this
 obtain ⟨z2,hz2⟩:∃ z2,z2 = decide (-x < 0):=⟨_,rfl⟩
 rw [← hz2] at HCl ⊢
 clear C0 C1 h hz hz2
 go_enter Tryz.func85,Tryz.ntmps85
 go_wp2_with fail
 rw [← hW0]
 clear hW0
 refine HCl.out.mono ?_
 rintro e w2 ⟨rfl,k2⟩
 have HC2:Hid (Cl (w.heap.size + 1) [.slice none 0 0,.bool false] 66 w2):=HC.out.2.below k2
 have u1:=HC2.out.cell 0
 have u2:=HC2.out.cell 1
 have u3:=HC2.out.frozen 0
 have u4:=HC2.out.frozen 1
 simp at u1 u2
 have HK2:Hid (Below w.heap.size w w2):=KB.out.trans (k2.mono (by have:=HZ.out; omega))
 clear k2
 go_wp2
 have C3:=HC2.out.two (.slice a k c) (.bool z2)
 have e1:=C3.cell 0
 have e2:=C3.cell 1
 simp at e1 e2
 refine bodyPost_ret (v:=.agg #[.slice a k c,.bool z2]) (by simp [results,Tryz.results85,go_sem,e1,e2]) rfl ⟨rfl,?_⟩
 exact (HK2.out.setCell (by simp) _).setCell (by simp) _
set_option maxHeartbeats 1000000 in
theorem Size_any (v:Value) (x:Int) (w:World) (h:LN w v x.natAbs) :
  Calls Tryz.prog 75 #[.agg #[v,.bool (decide (x < 0))]] w fun e w'=>e = .returned (.agg #[v])∧Below w.heap.size w w':=by
 obtain ⟨a,k,c,rfl⟩:=h.shape
 obtain ⟨z,hz⟩:∃ z,z = decide (x < 0):=⟨_,rfl⟩
 rw [← hz]
 clear hz h
 go_enter Tryz.func75,Tryz.ntmps75
 go_wp2
 refine bodyPost_ret (v:=.agg #[.slice a k c]) (by simp [results,Tryz.results75,go_sem]) rfl ⟨rfl,?_⟩
 exact ((Below.refl _ _).alloc (Nat.le_refl _) _).alloc (by simp) _
set_option maxHeartbeats 1000000 in
theorem SSign_any (v:Value) (x:Int) (w:World) (h:LN w v x.natAbs) :
  Calls Tryz.prog 78 #[.agg #[v,.bool (decide (x < 0))]] w fun e w'=>e = .returned (.int .i64 (cmI x 0))∧Below w.heap.size w w':=by
 obtain ⟨a,k,c,rfl⟩:=h.shape
 by_cases h0:x < 0
 ·rw [decide_eq_true h0,cmI,if_pos h0]
  clear h0 h
  go_enter Tryz.func78,Tryz.ntmps78
  go_wp2
  go_ret
  exact ⟨rfl,(Below.refl _ _).alloc (Nat.le_refl _) _⟩
 ·rw [decide_eq_false h0]
  obtain ⟨W0,hW0⟩:∃ W0,W0 = w.alloc (.cells #[.slice a k c,.bool false] 66):=⟨_,rfl⟩
  have KB:Hid (Below w.heap.size w W0):=by show Below _ _ _; rw [hW0]; exact (Below.refl _ _).alloc (Nat.le_refl _) _
  have HIz:Hid (Calls Tryz.prog 104 #[.agg #[.slice a k c]] W0 fun e w'=>e = .returned (.bool (decide (x.natAbs = 0)))∧Below W0.heap.size W0 w'):=IsZero_any _ _ W0 (h.below KB.out)
  have HS:Hid (w.heap.size≤W0.heap.size):=KB.out.size
  clear h
  by_cases h1:x = 0
  ·rw [decide_eq_true (show x.natAbs = 0 by omega)] at HIz
   rw [cmI_zero.2 h1]
   clear h0 h1
   go_enter Tryz.func78,Tryz.ntmps78
   go_wp2_with fail
   rw [← hW0]
   clear hW0
   refine HIz.out.mono ?_
   rintro e w2 ⟨rfl,k2⟩
   go_wp2
   go_ret
   exact ⟨rfl,KB.out.trans (k2.mono HS.out)⟩
  ·rw [decide_eq_false (show ¬ x.natAbs = 0 by omega)] at HIz
   rw [show cmI x 0 = 1 by rw [cmI,if_neg h0,if_pos (by omega)]]
   clear h0 h1
   go_enter Tryz.func78,Tryz.ntmps78
   go_wp2_with fail
   rw [← hW0]
   clear hW0
   refine HIz.out.mono ?_
   rintro e w2 ⟨rfl,k2⟩
   go_wp2
   go_ret
   exact ⟨rfl,KB.out.trans (k2.mono HS.out)⟩
set_option maxHeartbeats 1000000 in
theorem SignedOf_any (x:Int) (w:World) (hl : -9000000000000000000≤x) (hh:x≤9000000000000000000) :
  Calls Tryz.prog 86 #[.int .i64 x] w fun e w'=>∃ v,e = .returned (.agg #[v,.bool (decide (x < 0))])∧LN w' v x.natAbs∧Below w.heap.size w w':=by
 have C0:=Cl.new [.slice none 0 0,.bool false] 66 w
 obtain ⟨W0,hW0⟩:∃ W0,W0 = w.alloc (.cells #[.slice none 0 0,.bool false] 66):=⟨_,rfl⟩
 have C0':Cl w.heap.size [.slice none 0 0,.bool false] 66 W0:=by rw [hW0]; exact C0
 have HC:Hid (Cl w.heap.size [.slice none 0 0,.bool false] 66 W0):=C0'
 have KB:Hid (Below w.heap.size w W0):=by show Below _ _ _; rw [hW0]; exact (Below.refl _ _).alloc (Nat.le_refl _) _
 have HO:Hid (Calls Tryz.prog 80 #[.int .i64 (x.natAbs:Int)] W0 fun e w'=>∃ v,e = .returned (.agg #[v])∧LN w' v x.natAbs∧Below W0.heap.size W0 w'):=Of_any x.natAbs W0 (by omega)
 have hmx:max x (-x) = (x.natAbs:Int):=by omega
 obtain ⟨N,hN⟩:∃ N,N = x.natAbs:=⟨_,rfl⟩
 rw [← hN] at HO hmx ⊢
 obtain ⟨z,hz⟩:∃ z,z = decide (x < 0):=⟨_,rfl⟩
 have HZb:Hid ((z && decide (N ≠ 0)) = z):=by
  show _ = _
  rw [hz,hN]
  by_cases h:x < 0
  ·simp [h]; omega
  ·simp [h]
 have HZx:Hid (z = decide (x < 0)):=hz
 clear hN C0 C0' hz
 go_enter Tryz.func86,Tryz.ntmps86
 go_wp2_with fail
 rw [← hW0]
 clear hW0
 refine HO.out.mono ?_
 rintro e w2 ⟨v,rfl,hv,k2⟩
 obtain ⟨a,k,c,rfl⟩:=hv.shape
 have HV:Hid (LN w2 (.slice a k c) N):=hv
 have HK2:Hid (Below W0.heap.size W0 w2):=k2
 have HCl:Hid (Calls Tryz.prog 115 #[.agg #[.slice a k c],.bool z] w2 fun e w'=>e = .returned (.agg #[.slice a k c,.bool z])∧Below w2.heap.size w2 w'):=by
  have:=signed_any (.slice a k c) N z w2 hv
  rw [HZb.out] at this
  exact this
 clear hv k2 HO
 go_wp2_with fail
 rw [← HZx.out]
 refine HCl.out.mono ?_
 rintro e w3 ⟨rfl,k3⟩
 have HK3:Hid (Below W0.heap.size W0 w3):=HK2.out.trans (k3.mono HK2.out.size)
 have HC3:Hid (Cl w.heap.size [.slice none 0 0,.bool false] 66 w3):=HC.out.below HK3.out
 have HV3:Hid (LN w3 (.slice a k c) N):=HV.out.below k3
 have u1:=HC3.out.cell 0
 have u2:=HC3.out.cell 1
 have u3:=HC3.out.frozen 0
 have u4:=HC3.out.frozen 1
 simp at u1 u2
 clear k3
 go_wp2
 have C3:=HC3.out.two (.slice a k c) (.bool z)
 have e1:=C3.cell 0
 have e2:=C3.cell 1
 simp at e1 e2
 refine bodyPost_ret (v:=.agg #[.slice a k c,.bool z]) (by simp [results,Tryz.results86,go_sem,e1,e2]) rfl ⟨_,by rw [← HZx.out],?_,?_⟩
 ·exact HV3.out.setTwo HC3.out
 ·exact ((KB.out.trans (HK3.out.mono KB.out.size)).setCell (by simp) _).setCell (by simp) _
end
section
set_option maxRecDepth 100000
open Go.RowKit LgM
structure Sb (b:Nat) (vx vy:Value) (p q:Bool) (w:World):Prop where
 x:Cl b [vx,.bool p] 66 w
 y:Cl (b + 1) [vy,.bool q] 66 w
 z:Cl (b + 2) [.slice none 0 0,.bool false] 66 w
theorem Sb.below {b B:Nat} {vx vy:Value} {p q:Bool} {w w':World} (h:Sb b vx vy p q w) (k:Below B w w') (hB:b + 3≤B):Sb b vx vy p q w' :=
 ⟨(k.block _ (by omega)).trans h.x,(k.block _ (by omega)).trans h.y,(k.block _ (by omega)).trans h.z⟩
theorem Sb.start (vx vy:Value) (p q:Bool) (w:World):Sb w.heap.size vx vy p q (((w.alloc (.cells #[vx,.bool p] 66)).alloc (.cells #[vy,.bool q] 66)).alloc (.cells #[.slice none 0 0,.bool false] 66)):=by
 refine ⟨((Cl.new [vx,.bool p] _ w).alloc _).alloc _,?_,?_⟩
 ·have:=(Cl.new [vy,.bool q] 66 (w.alloc (.cells #[vx,.bool p] 66))).alloc (.cells #[.slice none 0 0,.bool false] 66)
  simpa using this
 ·have:=(Cl.new [.slice none 0 0,.bool false] 66 ((w.alloc (.cells #[vx,.bool p] 66)).alloc (.cells #[vy,.bool q] 66)))
  simpa using this
theorem prod_flag (x y:Int):((decide (x < 0) != decide (y < 0)) && decide ((x * y).natAbs ≠ 0)) = decide (x * y < 0):=by
 rcases Int.lt_trichotomy x 0 with h1 | h1 | h1
 ·rcases Int.lt_trichotomy y 0 with h2 | h2 | h2
  ·have:=Int.mul_pos_of_neg_of_neg h1 h2
   simp [h1,h2]; omega
  ·subst h2; simp
  ·have:=Int.mul_neg_of_neg_of_pos h1 h2
   have h3:¬ y < 0:=by omega
   have h4:¬ (x = 0∨y = 0):=by omega
   simp [h1,h3,this,h4]; omega
 ·subst h1; simp
 ·have h5:¬ x < 0:=by omega
  rcases Int.lt_trichotomy y 0 with h2 | h2 | h2
  ·have:=Int.mul_neg_of_pos_of_neg h1 h2
   simp [h5,h2,this]; omega
  ·subst h2; simp
  ·have:=Int.mul_pos h1 h2
   have h3:¬ y < 0:=by omega
   simp [h5,h3]; omega
set_option maxHeartbeats 2000000 in
theorem SProduct_any (vx vy:Value) (x y:Int) (m:Nat) (w:World) (hx:LN w vx x.natAbs) (hy:LN w vy y.natAbs) (hxm:x.natAbs < Bs ^ m) (hym:y.natAbs < Bs ^ m) (hm:m≤100000000) :
  Calls Tryz.prog 84 #[.agg #[vx,.bool (decide (x < 0))],.agg #[vy,.bool (decide (y < 0))]] w fun e w'=>∃ v,e = .returned (.agg #[v,.bool (decide (x * y < 0))])∧LN w' v (x * y).natAbs∧Below w.heap.size w w':=by
 obtain ⟨ax,kx,cx,rfl⟩:=hx.shape
 obtain ⟨ay,ky,cy,rfl⟩:=hy.shape
 obtain ⟨p,hp⟩:∃ p,p = decide (x < 0):=⟨_,rfl⟩
 obtain ⟨q,hq⟩:∃ q,q = decide (y < 0):=⟨_,rfl⟩
 rw [← hp,← hq]
 have HPQ:Hid (p = decide (x < 0)∧q = decide (y < 0)):=⟨hp,hq⟩
 have P0:=Sb.start (.slice ax kx cx) (.slice ay ky cy) p q w
 obtain ⟨W0,hW0⟩:∃ W0,W0 = (((w.alloc (.cells #[.slice ax kx cx,.bool p] 66)).alloc (.cells #[.slice ay ky cy,.bool q] 66)).alloc (.cells #[.slice none 0 0,.bool false] 66)):=⟨_,rfl⟩
 rw [← hW0] at P0
 have z0:W0.heap.size = w.heap.size + 3:=by rw [hW0]; simp
 have KB0:Hid (Below w.heap.size w W0):=by
  show Below _ _ _
  rw [hW0]; exact (((Below.refl _ _).alloc (Nat.le_refl _) _).alloc (by simp) _).alloc (by simp; omega) _
 have HP0:Hid (Sb w.heap.size (.slice ax kx cx) (.slice ay ky cy) p q W0):=P0
 have HZ0:Hid (w.heap.size + 3 = W0.heap.size):=z0.symm
 have HXw:Hid (∀ W,Below W0.heap.size W0 W→LN W (.slice ax kx cx) x.natAbs∧LN W (.slice ay ky cy) y.natAbs):=fun W k=>⟨(hx.below KB0.out).below k,(hy.below KB0.out).below k⟩
 have HM:Hid (x.natAbs < Bs ^ m∧y.natAbs < Bs ^ m):=⟨hxm,hym⟩
 have HS:Hid (∀ W,Below W0.heap.size W0 W→(W.cell? ⟨w.heap.size,0,none⟩ = some (.slice ax kx cx)∧W.cell? ⟨w.heap.size,1,none⟩ = some (.bool p))∧(W.cell? ⟨w.heap.size + 1,0,none⟩ = some (.slice ay ky cy)∧W.cell? ⟨w.heap.size + 1,1,none⟩ = some (.bool q))):=fun W k=>by
  have h:=HP0.out.below k (Nat.le_of_eq HZ0.out)
  have a1:=h.x.cell 0
  have a2:=h.x.cell 1
  have a3:=h.y.cell 0
  have a4:=h.y.cell 1
  simp at a1 a2 a3 a4
  exact ⟨⟨a1,a2⟩,⟨a3,a4⟩⟩
 have hS0:=HS.out W0 (Below.refl _ _)
 clear P0 z0 hx hy hxm hym hp hq
 go_enter Tryz.func84,Tryz.ntmps84
 go_wp2
 rw [← hW0]
 clear hW0
 refine wp_region_G (fun W=>(W.cell? ⟨w.heap.size,0,none⟩ = some (.slice ax kx cx)∧W.cell? ⟨w.heap.size,1,none⟩ = some (.bool p))∧(W.cell? ⟨w.heap.size + 1,0,none⟩ = some (.slice ay ky cy)∧W.cell? ⟨w.heap.size + 1,1,none⟩ = some (.bool q))) 11 (by kernel_rfl) hS0 (fun hHeld=>?_)
 refine wpAnyG_take (i:=0) (v:=?v0x1) rfl (by kernel_rfl) (fun _ _ _ h=>h) (Or.inl ⟨by rfl,?y0x1⟩) hHeld ?r0x1
 case y0x1=>(intro wS hSw; obtain ⟨⟨s1,s2⟩,s3,s4⟩:=hSw; go_simp; try with_reducible rfl)
 try simp only [Act.put,List.setIfInBounds_toArray,List.set_cons_zero,List.set_cons_succ]
 refine wpAnyG_take (i:=1) (v:=?v1x2) rfl (by kernel_rfl) (fun _ _ _ h=>h) (Or.inl ⟨by rfl,?y1x2⟩) hHeld ?r1x2
 case y1x2=>(intro wS hSw; obtain ⟨⟨s1,s2⟩,s3,s4⟩:=hSw; go_simp; try with_reducible rfl)
 try simp only [Act.put,List.setIfInBounds_toArray,List.set_cons_zero,List.set_cons_succ]
 refine wpAnyG_take (i:=2) (v:=?v2x3) rfl (by kernel_rfl) (fun _ _ _ h=>h) (Or.inl ⟨by rfl,?y2x3⟩) hHeld ?r2x3
 case y2x3=>(intro wS hSw; obtain ⟨⟨s1,s2⟩,s3,s4⟩:=hSw; go_simp; try with_reducible rfl)
 try simp only [Act.put,List.setIfInBounds_toArray,List.set_cons_zero,List.set_cons_succ]
 refine wpAnyG_take (i:=3) (v:=?v3x4) rfl (by kernel_rfl) (fun _ _ _ h=>h) (Or.inl ⟨by rfl,?y3x4⟩) hHeld ?r3x4
 case y3x4=>(intro wS hSw; obtain ⟨⟨s1,s2⟩,s3,s4⟩:=hSw; go_simp; try with_reducible rfl)
 try simp only [Act.put,List.setIfInBounds_toArray,List.set_cons_zero,List.set_cons_succ]
 refine wpAnyG_take (i:=5) (v:=?v5x5) rfl (by kernel_rfl) (fun _ _ _ h=>h) (Or.inl ⟨by rfl,?y5x5⟩) hHeld ?r5x5
 case y5x5=>(intro wS hSw; obtain ⟨⟨s1,s2⟩,s3,s4⟩:=hSw; go_simp; try with_reducible rfl)
 try simp only [Act.put,List.setIfInBounds_toArray,List.set_cons_zero,List.set_cons_succ]
 refine wpAnyG_take (i:=6) (v:=?v6x6) rfl (by kernel_rfl) (fun _ _ _ h=>h) (Or.inl ⟨by rfl,?y6x6⟩) hHeld ?r6x6
 case y6x6=>(intro wS hSw; obtain ⟨⟨s1,s2⟩,s3,s4⟩:=hSw; go_simp; try with_reducible rfl)
 try simp only [Act.put,List.setIfInBounds_toArray,List.set_cons_zero,List.set_cons_succ]
 refine wpAnyG_take (i:=7) (v:=?v7x7) rfl (by kernel_rfl) (fun _ _ _ h=>h) (Or.inl ⟨by rfl,?y7x7⟩) hHeld ?r7x7
 case y7x7=>(intro wS hSw; obtain ⟨⟨s1,s2⟩,s3,s4⟩:=hSw; go_simp; try with_reducible rfl)
 try simp only [Act.put,List.setIfInBounds_toArray,List.set_cons_zero,List.set_cons_succ]
 refine wpAnyG_take (i:=8) (v:=?v8x8) rfl (by kernel_rfl) (fun _ _ _ h=>h) (Or.inl ⟨by rfl,?y8x8⟩) hHeld ?r8x8
 case y8x8=>(intro wS hSw; obtain ⟨⟨s1,s2⟩,s3,s4⟩:=hSw; go_simp; try with_reducible rfl)
 try simp only [Act.put,List.setIfInBounds_toArray,List.set_cons_zero,List.set_cons_succ]
 refine wpAnyG_take (i:=9) (v:=?v9x9) rfl (by kernel_rfl) (fun _ _ _ h=>h) (Or.inl ⟨by rfl,?y9x9⟩) hHeld ?r9x9
 case y9x9=>(intro wS hSw; obtain ⟨⟨s1,s2⟩,s3,s4⟩:=hSw; go_simp; try with_reducible rfl)
 try simp only [Act.put,List.setIfInBounds_toArray,List.set_cons_zero,List.set_cons_succ]
 refine wpAnyG_one (i:=4) rfl (by kernel_rfl) (fun K hK=>?_)
 go_simp
 refine (NProduct_any _ _ x.natAbs y.natAbs m W0.drew (HXw.out _ (Below.refl _ _).drew).1 (HXw.out _ (Below.refl _ _).drew).2 HM.out.1 HM.out.2 hm).mono ?_
 rintro e w2 ⟨v,rfl,hv,k2⟩
 obtain ⟨av,kv,cv,rfl⟩:=hv.shape
 rw [← Int.natAbs_mul] at hv
 have HV2:Hid (LN w2 (.slice av kv cv) (x * y).natAbs):=hv
 have HK2:Hid (Below W0.heap.size W0 w2):=(Below.refl _ _).drew.trans k2
 refine hK.out _ _ (HS.out _ HK2.out) ?_
 clear hv k2
 clear hK K
 try simp only [Act.put,List.setIfInBounds_toArray,List.set_cons_zero,List.set_cons_succ]
 clear hHeld
 have hHeld:=HS.out _ HK2.out
 obtain ⟨fl,hfl⟩:∃ fl,fl = ((p != q) && decide ((x * y).natAbs ≠ 0)):=⟨_,rfl⟩
 have HFl:Hid (fl = decide (x * y < 0)):=by show _ = _; rw [hfl,HPQ.out.1,HPQ.out.2]; exact prod_flag x y
 refine wpAnyG_one (i:=10) rfl (by kernel_rfl) (fun K hK=>?_)
 go_simp
 have hc:=signed_any (.slice av kv cv) (x * y).natAbs (p != q) w2 HV2.out
 rw [← hfl] at hc
 clear hfl
 refine hc.mono ?_
 rintro e w3 ⟨rfl,k3⟩
 have HKW:Hid (Below W0.heap.size W0 w3):=HK2.out.trans (k3.mono HK2.out.size)
 have HV:Hid (LN w3 (.slice av kv cv) (x * y).natAbs):=HV2.out.below k3
 refine hK.out _ _ (HS.out _ HKW.out) ?_
 clear hc k3
 clear hK K
 try simp only [Act.put,List.setIfInBounds_toArray,List.set_cons_zero,List.set_cons_succ]
 clear hHeld
 have HP4:Hid (Cl (w.heap.size + 2) [.slice none 0 0,.bool false] 66 w3):=(HP0.out.below HKW.out (Nat.le_of_eq HZ0.out)).z
 have u1:=HP4.out.cell 0
 have u2:=HP4.out.cell 1
 have u3:=HP4.out.frozen 0
 have u4:=HP4.out.frozen 1
 simp at u1 u2
 refine wpAnyG_last (i:=11) rfl (by kernel_rfl) (by kernel_rfl) (fun K hK=>?_)
 go_simp
 refine hK.out _ _ ?_
 clear hK K
 try simp only [Act.put,List.setIfInBounds_toArray,List.set_cons_zero,List.set_cons_succ]
 refine wpAnyG_done (by kernel_rfl) ?_ _
 clear u1 u2 u3 u4
 go_wp2
 have C3:=HP4.out.two (.slice av kv cv) (.bool fl)
 have e1:=C3.cell 0
 have e2:=C3.cell 1
 simp at e1 e2
 refine bodyPost_ret (v:=.agg #[.slice av kv cv,.bool fl]) (by simp [results,Tryz.results84,go_sem,e1,e2]) rfl ⟨_,by rw [HFl.out],?_,?_⟩
 ·exact HV.out.setTwo HP4.out
 ·exact ((KB0.out.trans (HKW.out.mono (by have:=HZ0.out; omega))).setCell (by simp; omega) _).setCell (by simp; omega) _
end
end Go.Proofs.YtnkjadpmigpneaaGreatDoor
