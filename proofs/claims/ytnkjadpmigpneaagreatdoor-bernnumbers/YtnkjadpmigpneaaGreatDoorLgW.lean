import Derived.Test.YtnkjadpmigpneaaGreatDoorJsI
set_option linter.unusedSimpArgs false
set_option linter.unusedVariables false
set_option maxRecDepth 100000
namespace Go.Proofs.YtnkjadpmigpneaaGreatDoor
open Go.RowKit LgM
theorem fdiv_uniq {x y q r:Int} (hy:y ≠ 0) (e:x = q * y + r) (h1:r.natAbs < y.natAbs) (h2:0≤y→0≤r) (h3:y≤0→r≤0):x.fdiv y = q∧x.fmod y = r:=by
 have h:=DtM.fd_rest x y hy
 have e2:=Int.mul_fdiv_add_fmod x y
 have e3:x - x.fdiv y * y = x.fmod y:=by rw [Int.mul_comm]; omega
 rw [e3] at h
 have e4:(q - x.fdiv y) * y = x.fmod y - r:=by rw [Int.sub_mul]; omega
 have h5:q - x.fdiv y = 0:=by
  refine Classical.byContradiction fun hne=>?_
  have h6:((q - x.fdiv y) * y).natAbs = (q - x.fdiv y).natAbs * y.natAbs:=Int.natAbs_mul ..
  have h7:1 * y.natAbs≤(q - x.fdiv y).natAbs * y.natAbs:=Nat.mul_le_mul_right _ (by omega)
  rw [e4] at h6
  rcases Int.lt_or_gt_of_ne hy with g | g
  ·have:=h3 (by omega); have:=h.2.2 (by omega); omega
  ·have:=h2 (by omega); have:=h.2.1 (by omega); omega
 have h6:x.fdiv y = q:=by omega
 exact ⟨h6,by rw [h6] at e3; omega⟩
theorem fd_same (x y:Int) (hy:y ≠ 0) (hs:(x < 0) = (y < 0)):x.fdiv y = ((x.natAbs / y.natAbs:Nat):Int)∧x.fmod y = if x < 0 then -((x.natAbs % y.natAbs:Nat):Int) else ((x.natAbs % y.natAbs:Nat):Int):=by
 have e:=Nat.div_add_mod x.natAbs y.natAbs
 have hl:=Nat.mod_lt x.natAbs (show 0 < y.natAbs by omega)
 generalize x.natAbs / y.natAbs = Q at *
 generalize x.natAbs % y.natAbs = R at *
 have e2:((y.natAbs:Int)) * (Q:Int) + (R:Int) = (x.natAbs:Int):=by exact_mod_cast e
 by_cases h:x < 0
 ·have h':y < 0:=by rw [← hs]; exact h
  rw [if_pos h]
  refine fdiv_uniq hy ?_ (by omega) (by omega) (by omega)
  have h1:(y.natAbs:Int) = -y:=by omega
  rw [h1] at e2
  have h2 : -y * (Q:Int) = -((Q:Int) * y):=by rw [Int.neg_mul,Int.mul_comm]
  omega
 ·have h':¬ y < 0:=by rw [← hs]; exact h
  rw [if_neg h]
  refine fdiv_uniq hy ?_ (by omega) (by omega) (by omega)
  have h1:(y.natAbs:Int) = y:=by omega
  rw [h1,Int.mul_comm] at e2
  omega
theorem fd_even (x y:Int) (hy:y ≠ 0) (hs:(x < 0) ≠ (y < 0)) (h0:x.natAbs % y.natAbs = 0):x.fdiv y = -((x.natAbs / y.natAbs:Nat):Int)∧x.fmod y = 0:=by
 have e:=Nat.div_add_mod x.natAbs y.natAbs
 rw [h0] at e
 generalize x.natAbs / y.natAbs = Q at *
 have e2:((y.natAbs:Int)) * (Q:Int) + 0 = (x.natAbs:Int):=by exact_mod_cast e
 refine fdiv_uniq hy ?_ (by omega) (by omega) (by omega)
 by_cases h:x < 0
 ·have h':¬ y < 0:=fun g=>hs (by simp [h,g])
  have h1:(y.natAbs:Int) = y:=by omega
  rw [h1,Int.mul_comm] at e2
  rw [Int.neg_mul]; omega
 ·have h':y < 0:=Classical.byContradiction fun g=>hs (by simp [h,g])
  have h1:(y.natAbs:Int) = -y:=by omega
  rw [h1] at e2
  have h2 : -y * (Q:Int) = -((Q:Int) * y):=by rw [Int.neg_mul,Int.mul_comm]
  rw [Int.neg_mul]; omega
theorem fd_odd (x y:Int) (hy:y ≠ 0) (hs:(x < 0) ≠ (y < 0)) (h0:x.natAbs % y.natAbs ≠ 0):x.fdiv y = -((x.natAbs / y.natAbs + 1:Nat):Int)∧x.fmod y = if y < 0 then -((y.natAbs - x.natAbs % y.natAbs:Nat):Int) else ((y.natAbs - x.natAbs % y.natAbs:Nat):Int):=by
 have e:=Nat.div_add_mod x.natAbs y.natAbs
 have hl:=Nat.mod_lt x.natAbs (show 0 < y.natAbs by omega)
 generalize x.natAbs / y.natAbs = Q at *
 generalize x.natAbs % y.natAbs = R at *
 have e2:((y.natAbs:Int)) * (Q:Int) + (R:Int) = (x.natAbs:Int):=by exact_mod_cast e
 by_cases h:x < 0
 ·have h':¬ y < 0:=fun g=>hs (by simp [h,g])
  rw [if_neg h']
  refine fdiv_uniq hy ?_ (by omega) (by omega) (by omega)
  have h1:(y.natAbs:Int) = y:=by omega
  rw [h1,Int.mul_comm] at e2
  rw [Int.neg_mul,Int.natCast_add,Int.add_mul]; omega
 ·have h':y < 0:=Classical.byContradiction fun g=>hs (by simp [h,g])
  rw [if_pos h']
  refine fdiv_uniq hy ?_ (by omega) (by omega) (by omega)
  have h1:(y.natAbs:Int) = -y:=by omega
  rw [h1] at e2
  have h2 : -y * (Q:Int) = -((Q:Int) * y):=by rw [Int.neg_mul,Int.mul_comm]
  rw [Int.neg_mul,Int.natCast_add,Int.add_mul]; omega
structure Qb (b b6 b7:Nat) (vx vy vs vl:Value) (p q:Bool) (cu ct:List Value) (w:World):Prop where
 x:Cl b [vx,.bool p] 66 w
 y:Cl (b + 1) [vy,.bool q] 66 w
 u:Cl (b + 2) cu 66 w
 t:Cl (b + 3) ct 66 w
 s:Cl b6 [vs] 64 w
 l:Cl b7 [vl] 64 w
theorem Qb.below {b b6 b7:Nat} {vx vy vs vl:Value} {p q:Bool} {cu ct:List Value} {w w':World} (h:Qb b b6 b7 vx vy vs vl p q cu ct w) (k:Below w.heap.size w w'):Qb b b6 b7 vx vy vs vl p q cu ct w' :=
 ⟨h.x.below k,h.y.below k,h.u.below k,h.t.below k,h.s.below k,h.l.below k⟩
abbrev QS (b b6 b7:Nat) (vy vs vl:Value) (p q:Bool) (w:World):Prop :=
 w.cell? ⟨b,1,none⟩ = some (.bool p)∧w.cell? ⟨b + 1,0,none⟩ = some vy∧w.cell? ⟨b + 1,1,none⟩ = some (.bool q)∧w.cell? ⟨b6,0,none⟩ = some vs∧w.cell? ⟨b7,0,none⟩ = some vl
theorem Qb.held {b b6 b7:Nat} {vx vy vs vl:Value} {p q:Bool} {cu ct:List Value} {w:World} (h:Qb b b6 b7 vx vy vs vl p q cu ct w):QS b b6 b7 vy vs vl p q w:=by
 have a1:=h.x.cell 1
 have a2:=h.y.cell 0
 have a3:=h.y.cell 1
 have a4:=h.s.cell 0
 have a5:=h.l.cell 0
 simp at a1 a2 a3 a4 a5
 exact ⟨a1,a2,a3,a4,a5⟩
theorem Qb.setU {b b6 b7:Nat} {vx vy vs vl x0 x1:Value} {p q:Bool} {ct:List Value} {w:World} (h:Qb b b6 b7 vx vy vs vl p q [x0,x1] ct w) (h6:b + 4≤b6) (h7:b + 4≤b7) (c d:Value):Qb b b6 b7 vx vy vs vl p q [c,d] ct ((w.setCell ⟨b + 2,0,none⟩ c).setCell ⟨b + 2,1,none⟩ d) :=
 ⟨(h.x.other (by simp) _).other (by simp) _,(h.y.other (by simp) _).other (by simp) _,h.u.two c d,(h.t.other (by simp) _).other (by simp) _,(h.s.other (by simp; omega) _).other (by simp; omega) _,(h.l.other (by simp; omega) _).other (by simp; omega) _⟩
set_option maxHeartbeats 8000000 in
theorem SDivide_any (vx vy:Value) (x y:Int) (m:Nat) (w:World) (hx:LN w vx x.natAbs) (hy:LN w vy y.natAbs) (hxm:x.natAbs < Bs ^ m) (hym:y.natAbs < Bs ^ m) (hm:m≤1000000) (hy0:y ≠ 0) :
  Calls Tryz.prog 88 #[.agg #[vx,.bool (decide (x < 0))],.agg #[vy,.bool (decide (y < 0))]] w fun e w'=>∃ v u,e = .returned (.tuple #[.agg #[v,.bool (decide (x.fdiv y < 0))],.agg #[u,.bool (decide (x.fmod y < 0))]])∧LN w' v (x.fdiv y).natAbs∧LN w' u (x.fmod y).natAbs∧Below w.heap.size w w':=by
 obtain ⟨ax,kx,cx,rfl⟩:=hx.shape
 obtain ⟨ay,ky,cy,rfl⟩:=hy.shape
 obtain ⟨p,hp⟩:∃ p,p = decide (x < 0):=⟨_,rfl⟩
 obtain ⟨q,hq⟩:∃ q,q = decide (y < 0):=⟨_,rfl⟩
 rw [← hp,← hq]
 have HPQ:Hid (p = decide (x < 0)∧q = decide (y < 0)):=⟨hp,hq⟩
 obtain ⟨X,hX⟩:∃ X,X = x.natAbs:=⟨_,rfl⟩
 obtain ⟨Y,hY⟩:∃ Y,Y = y.natAbs:=⟨_,rfl⟩
 rw [← hX] at hx hxm
 rw [← hY] at hy hym
 have hY0:0 < Y:=by omega
 have HXY:Hid (X = x.natAbs∧Y = y.natAbs∧0 < Y∧y ≠ 0∧X < Bs ^ m∧Y < Bs ^ m):=⟨hX,hY,hY0,hy0,hxm,hym⟩
 obtain ⟨W0,hW0⟩:∃ W0,W0 = ((((w.alloc (.cells #[.slice ax kx cx,.bool p] 66)).alloc (.cells #[.slice ay ky cy,.bool q] 66)).alloc (.cells #[.slice none 0 0,.bool false] 66)).alloc (.cells #[.slice none 0 0,.bool false] 66)):=⟨_,rfl⟩
 have KB0:Hid (Below w.heap.size w W0):=by
  show Below _ _ _
  rw [hW0]; exact ((((Below.refl _ _).alloc (Nat.le_refl _) _).alloc (by simp) _).alloc (by simp; omega) _).alloc (by simp; omega) _
 have HZ0:Hid (w.heap.size + 4 = W0.heap.size):=by show _ = _; rw [hW0]; simp
 have HP0:Hid (Cl w.heap.size [.slice ax kx cx,.bool p] 66 W0∧Cl (w.heap.size + 1) [.slice ay ky cy,.bool q] 66 W0∧Cl (w.heap.size + 2) [.slice none 0 0,.bool false] 66 W0∧Cl (w.heap.size + 3) [.slice none 0 0,.bool false] 66 W0):=by
  have P:=Sb.start (.slice ax kx cx) (.slice ay ky cy) p q w
  rw [hW0]
  refine ⟨P.x.alloc _,P.y.alloc _,P.z.alloc _,?_⟩
  have:=Cl.new [.slice none 0 0,.bool false] 66 (((w.alloc (.cells #[.slice ax kx cx,.bool p] 66)).alloc (.cells #[.slice ay ky cy,.bool q] 66)).alloc (.cells #[.slice none 0 0,.bool false] 66))
  simpa using this
 have HDv:Hid (Calls Tryz.prog 77 #[.agg #[.slice ax kx cx],.agg #[.slice ay ky cy]] W0 fun e w'=>∃ v u,e = .returned (.tuple #[.agg #[v],.agg #[u]])∧LN w' v (X / Y)∧LN w' u (X % Y)∧Below W0.heap.size W0 w'):=NDivide_any _ _ X Y m W0 (hx.below KB0.out) (hy.below KB0.out) hxm hym hm hY0
 have HLy:Hid (LN W0 (.slice ay ky cy) Y):=hy.below KB0.out
 clear hx hy hxm hym hX hY hp hq hY0 hy0
 obtain ⟨Qt,hQt⟩:∃ Qt,Qt = x.fdiv y:=⟨_,rfl⟩
 obtain ⟨Rt',hRt⟩:∃ Rt',Rt' = x.fmod y:=⟨_,rfl⟩
 rw [← hQt,← hRt]
 have HQR:Hid (Qt = x.fdiv y∧Rt' = x.fmod y):=⟨hQt,hRt⟩
 clear hQt hRt
 by_cases hpq:p = q
 ·have hpb:(p == q) = true:=by simp [hpq]
  have HFa:Hid (((p != q) && decide (X / Y ≠ 0)) = decide (Qt < 0)∧(p && decide (X % Y ≠ 0)) = decide (Rt' < 0)∧Qt.natAbs = X / Y∧Rt'.natAbs = X % Y):=by
   have hs:(x < 0) = (y < 0):=by
    have h1:=HPQ.out.1
    rw [hpq,HPQ.out.2] at h1
    exact propext (by simpa using h1.symm)
   obtain ⟨f1,f2⟩:=fd_same x y HXY.out.2.2.2.1 hs
   rw [← HQR.out.1,← HXY.out.1,← HXY.out.2.1] at f1
   rw [← HQR.out.2,← HXY.out.1,← HXY.out.2.1] at f2
   obtain ⟨A,hA⟩:∃ A,A = X / Y:=⟨_,rfl⟩
   obtain ⟨B,hB⟩:∃ B,B = X % Y:=⟨_,rfl⟩
   rw [← hA] at f1 ⊢
   rw [← hB] at f2 ⊢
   clear hA hB
   have g1:¬ Qt < 0:=by omega
   refine ⟨by simp [hpq,g1],?_,by omega,by split at f2 <;> omega⟩
   rw [HPQ.out.1]
   by_cases h:x < 0
   ·rw [if_pos h] at f2
    by_cases h2:B = 0
    ·have:¬ Rt' < 0:=by omega
     simp [h2,this]
    ·have:Rt' < 0:=by omega
     simp [h,h2,this]
   ·rw [if_neg h] at f2
    have:¬ Rt' < 0:=by omega
    simp [h,this]
  clear hpq
  go_enter Tryz.func88,Tryz.ntmps88
  go_wp2_with fail
  rw [← hW0]
  clear hW0
  refine HDv.out.mono ?_
  rintro e w2 ⟨v,u,rfl,hv,hu,k2⟩
  obtain ⟨av,kv,cv,rfl⟩:=hv.shape
  obtain ⟨au,ku,cu,rfl⟩:=hu.shape
  obtain ⟨W1,hW1⟩:∃ W1,W1 = ((w2.alloc (.cells #[.slice av kv cv] 64)).alloc (.cells #[.slice au ku cu] 64)):=⟨_,rfl⟩
  have hB1:Below w2.heap.size w2 W1:=by rw [hW1]; exact ((Below.refl _ _).alloc (Nat.le_refl _) _).alloc (by simp) _
  have hz2:W0.heap.size≤w2.heap.size:=k2.size
  have hB01:Below W0.heap.size W0 W1:=k2.trans (hB1.mono hz2)
  have HQ1:Hid (Qb w.heap.size w2.heap.size (w2.heap.size + 1) (.slice ax kx cx) (.slice ay ky cy) (.slice av kv cv) (.slice au ku cu) p q [.slice none 0 0,.bool false] [.slice none 0 0,.bool false] W1):=by
   refine ⟨HP0.out.1.below hB01,HP0.out.2.1.below hB01,HP0.out.2.2.1.below hB01,HP0.out.2.2.2.below hB01,?_,?_⟩
   ·rw [hW1]; exact (Cl.new [.slice av kv cv] _ w2).alloc _
   ·rw [hW1]
    have:=Cl.new [.slice au ku cu] 64 (w2.alloc (.cells #[.slice av kv cv] 64))
    simpa using this
  have HL1:Hid (LN W1 (.slice av kv cv) (X / Y)∧LN W1 (.slice au ku cu) (X % Y)∧LN W1 (.slice ay ky cy) Y):=⟨hv.below hB1,hu.below hB1,HLy.out.below hB01⟩
  have HK1:Hid (Below w.heap.size w W1∧w.heap.size + 4≤w2.heap.size):=⟨KB0.out.trans (hB01.mono (by have:=HZ0.out; omega)),by have:=HZ0.out; omega⟩
  have q1:∀ a b:Obj,((w2.alloc a).alloc b).cell? ⟨w.heap.size,1,none⟩ = some (.bool p):=fun a b=>by
   have h:=HP0.out.1.below k2
   have hl:=h.lt
   have hc:=h.cell 1
   simp at hc
   rw [cell_old_at _ _ _ (by simp; omega),cell_old_at _ _ _ hl]; exact hc
  have q2:∀ a b:Obj,((w2.alloc a).alloc b).cell? ⟨w.heap.size + 1,1,none⟩ = some (.bool q):=fun a b=>by
   have h:=HP0.out.2.1.below k2
   have hl:=h.lt
   have hc:=h.cell 1
   simp at hc
   rw [cell_old_at _ _ _ (by simp; omega),cell_old_at _ _ _ hl]; exact hc
  clear hv hu k2 hB1 hz2 hB01 HDv
  go_wp2
  rw [← hW1]
  clear hW1 q1 q2 hpb
  obtain ⟨wS0,hwS0⟩:∃ wS0,wS0 = W1:=⟨_,rfl⟩
  have HKs:Hid (Below W1.heap.size W1 wS0):=by show Below _ _ _; rw [hwS0]; exact Below.refl _ _
  rw [← hwS0]
  clear hwS0
  refine wp_region_G (fun W=>QS w.heap.size w2.heap.size (w2.heap.size + 1) (.slice ay ky cy) (.slice av kv cv) (.slice au ku cu) p q W) 12 (by kernel_rfl) (HQ1.out.below HKs.out.drew).held (fun hHeld=>?_)
  refine wpAnyG_take (i:=0) (v:=?v0x1) rfl (by kernel_rfl) (fun _ _ _ h=>h) (Or.inl ⟨by rfl,?y0x1⟩) hHeld ?r0x1
  case y0x1=>(intro wS hSw; obtain ⟨s1,s2,s3,s4,s5⟩:=hSw; go_simp; try with_reducible rfl)
  try simp only [Act.put,List.setIfInBounds_toArray,List.set_cons_zero,List.set_cons_succ]
  refine wpAnyG_take (i:=1) (v:=?v1x2) rfl (by kernel_rfl) (fun _ _ _ h=>h) (Or.inl ⟨by rfl,?y1x2⟩) hHeld ?r1x2
  case y1x2=>(intro wS hSw; obtain ⟨s1,s2,s3,s4,s5⟩:=hSw; go_simp; try with_reducible rfl)
  try simp only [Act.put,List.setIfInBounds_toArray,List.set_cons_zero,List.set_cons_succ]
  refine wpAnyG_take (i:=2) (v:=?v2x3) rfl (by kernel_rfl) (fun _ _ _ h=>h) (Or.inl ⟨by rfl,?y2x3⟩) hHeld ?r2x3
  case y2x3=>(intro wS hSw; obtain ⟨s1,s2,s3,s4,s5⟩:=hSw; go_simp; try with_reducible rfl)
  try simp only [Act.put,List.setIfInBounds_toArray,List.set_cons_zero,List.set_cons_succ]
  refine wpAnyG_take (i:=3) (v:=?v3x4) rfl (by kernel_rfl) (fun _ _ _ h=>h) (Or.inl ⟨by rfl,?y3x4⟩) hHeld ?r3x4
  case y3x4=>(intro wS hSw; obtain ⟨s1,s2,s3,s4,s5⟩:=hSw; go_simp; try with_reducible rfl)
  try simp only [Act.put,List.setIfInBounds_toArray,List.set_cons_zero,List.set_cons_succ]
  refine wpAnyG_take (i:=4) (v:=?v4x5) rfl (by kernel_rfl) (fun _ _ _ h=>h) (Or.inl ⟨by rfl,?y4x5⟩) hHeld ?r4x5
  case y4x5=>(intro wS hSw; obtain ⟨s1,s2,s3,s4,s5⟩:=hSw; go_simp; try with_reducible rfl)
  try simp only [Act.put,List.setIfInBounds_toArray,List.set_cons_zero,List.set_cons_succ]
  refine wpAnyG_take (i:=5) (v:=?v5x6) rfl (by kernel_rfl) (fun _ _ _ h=>h) (Or.inl ⟨by rfl,?y5x6⟩) hHeld ?r5x6
  case y5x6=>(intro wS hSw; obtain ⟨s1,s2,s3,s4,s5⟩:=hSw; go_simp; try with_reducible rfl)
  try simp only [Act.put,List.setIfInBounds_toArray,List.set_cons_zero,List.set_cons_succ]
  refine wpAnyG_take (i:=7) (v:=?v7x7) rfl (by kernel_rfl) (fun _ _ _ h=>h) (Or.inl ⟨by rfl,?y7x7⟩) hHeld ?r7x7
  case y7x7=>(intro wS hSw; obtain ⟨s1,s2,s3,s4,s5⟩:=hSw; go_simp; try with_reducible rfl)
  try simp only [Act.put,List.setIfInBounds_toArray,List.set_cons_zero,List.set_cons_succ]
  refine wpAnyG_take (i:=8) (v:=?v8x8) rfl (by kernel_rfl) (fun _ _ _ h=>h) (Or.inl ⟨by rfl,?y8x8⟩) hHeld ?r8x8
  case y8x8=>(intro wS hSw; obtain ⟨s1,s2,s3,s4,s5⟩:=hSw; go_simp; try with_reducible rfl)
  try simp only [Act.put,List.setIfInBounds_toArray,List.set_cons_zero,List.set_cons_succ]
  refine wpAnyG_take (i:=9) (v:=?v9x9) rfl (by kernel_rfl) (fun _ _ _ h=>h) (Or.inl ⟨by rfl,?y9x9⟩) hHeld ?r9x9
  case y9x9=>(intro wS hSw; obtain ⟨s1,s2,s3,s4,s5⟩:=hSw; go_simp; try with_reducible rfl)
  try simp only [Act.put,List.setIfInBounds_toArray,List.set_cons_zero,List.set_cons_succ]
  obtain ⟨fq,hfq⟩:∃ fq,fq = decide (Qt < 0):=⟨_,rfl⟩
  obtain ⟨fr,hfr⟩:∃ fr,fr = decide (Rt' < 0):=⟨_,rfl⟩
  have HF:Hid (fq = decide (Qt < 0)∧fr = decide (Rt' < 0)):=⟨hfq,hfr⟩
  clear hfq hfr
  refine wpAnyG_one (i:=6) rfl (by kernel_rfl) (fun K hK=>?_)
  go_simp
  have hc:=signed_any (.slice av kv cv) (X / Y) (p != q) wS0.drew (HL1.out.1.below HKs.out.drew)
  rw [HFa.out.1,← HF.out.1] at hc
  refine hc.mono ?_
  clear hc
  rintro e w4 ⟨rfl,k4⟩
  have HK4:Hid (Below W1.heap.size W1 w4):=HKs.out.drew.trans (k4.mono HKs.out.size)
  refine hK.out _ _ (HQ1.out.below HK4.out).held ?_
  clear k4
  clear hK K
  try simp only [Act.put,List.setIfInBounds_toArray,List.set_cons_zero,List.set_cons_succ]
  clear hHeld
  have hHeld:=(HQ1.out.below HK4.out).held
  refine wpAnyG_one (i:=10) rfl (by kernel_rfl) (fun K hK=>?_)
  go_simp
  have hc:=signed_any (.slice au ku cu) (X % Y) p w4 (HL1.out.2.1.below HK4.out)
  rw [HFa.out.2.1,← HF.out.2] at hc
  refine hc.mono ?_
  clear hc
  rintro e w5 ⟨rfl,k5⟩
  have HKA:Hid (Below W1.heap.size W1 w5):=HK4.out.trans (k5.mono HK4.out.size)
  have HVq:Hid (LN w5 (.slice av kv cv) Qt.natAbs):=by have h:=HL1.out.1.below HKA.out; rw [HFa.out.2.2.1]; exact h
  have HVr:Hid (LN w5 (.slice au ku cu) Rt'.natAbs):=by have h:=HL1.out.2.1.below HKA.out; rw [HFa.out.2.2.2]; exact h
  refine hK.out _ _ (HQ1.out.below HKA.out).held ?_
  clear k5
  clear hK K
  try simp only [Act.put,List.setIfInBounds_toArray,List.set_cons_zero,List.set_cons_succ]
  clear hHeld
  have HQA:Hid (Qb w.heap.size w2.heap.size (w2.heap.size + 1) (.slice ax kx cx) (.slice ay ky cy) (.slice av kv cv) (.slice au ku cu) p q [.slice none 0 0,.bool false] [.slice none 0 0,.bool false] w5):=HQ1.out.below HKA.out
  have u1:=HQA.out.u.cell 0
  have u2:=HQA.out.u.cell 1
  have u3:=HQA.out.u.frozen 0
  have u4:=HQA.out.u.frozen 1
  simp at u1 u2
  refine wpAnyG_one (i:=11) rfl (by kernel_rfl) (fun K hK=>?_)
  go_simp
  obtain ⟨wB,hwB⟩:∃ wB,wB = (w5.setCell ⟨w.heap.size + 1 + 1,0,none⟩ (.slice av kv cv)).setCell ⟨w.heap.size + 1 + 1,1,none⟩ (.bool fq):=⟨_,rfl⟩
  rw [← hwB]
  have HQB:Hid (Qb w.heap.size w2.heap.size (w2.heap.size + 1) (.slice ax kx cx) (.slice ay ky cy) (.slice av kv cv) (.slice au ku cu) p q [.slice av kv cv,.bool fq] [.slice none 0 0,.bool false] wB∧LN wB (.slice av kv cv) Qt.natAbs∧LN wB (.slice au ku cu) Rt'.natAbs∧Below w.heap.size w wB):=by
   rw [hwB]
   refine ⟨HQA.out.setU HK1.out.2 (by have:=HK1.out.2; omega) _ _,HVq.out.setTwo HQA.out.u,HVr.out.setTwo HQA.out.u,?_⟩
   exact ((HK1.out.1.trans (HKA.out.mono HK1.out.1.size)).setCell (by simp; omega) _).setCell (by simp; omega) _
  refine hK.out _ _ HQB.out.1.held ?_
  clear hwB u1 u2 u3 u4
  clear hK K
  try simp only [Act.put,List.setIfInBounds_toArray,List.set_cons_zero,List.set_cons_succ]
  have u1:=HQB.out.1.t.cell 0
  have u2:=HQB.out.1.t.cell 1
  have u3:=HQB.out.1.t.frozen 0
  have u4:=HQB.out.1.t.frozen 1
  simp at u1 u2
  refine wpAnyG_last (i:=12) rfl (by kernel_rfl) (by kernel_rfl) (fun K hK=>?_)
  go_simp
  refine hK.out _ _ ?_
  clear hK K
  try simp only [Act.put,List.setIfInBounds_toArray,List.set_cons_zero,List.set_cons_succ]
  refine wpAnyG_done (by kernel_rfl) ?_ _
  clear u1 u2 u3 u4
  go_wp2
  have C3:=HQB.out.1.t.two (.slice au ku cu) (.bool fr)
  have C4:=(HQB.out.1.u.other (p:=⟨w.heap.size + 3,0,none⟩) (by simp) (.slice au ku cu)).other (p:=⟨w.heap.size + 3,1,none⟩) (by simp) (.bool fr)
  have e1:=C3.cell 0
  have e2:=C3.cell 1
  have e3:=C4.cell 0
  have e4:=C4.cell 1
  simp at e1 e2 e3 e4
  refine bodyPost_ret (v:=.tuple #[.agg #[.slice av kv cv,.bool fq],.agg #[.slice au ku cu,.bool fr]]) (by simp [results,Tryz.results88,go_sem,e1,e2,e3,e4]) rfl ⟨_,_,by rw [HF.out.1,HF.out.2],?_,?_,?_⟩
  ·exact HQB.out.2.1.setTwo HQB.out.1.t
  ·exact HQB.out.2.2.1.setTwo HQB.out.1.t
  ·exact (HQB.out.2.2.2.setCell (by simp; omega) _).setCell (by simp; omega) _
 ·have hpb:(p == q) = false:=by simp [hpq]
  have hs:(x < 0) ≠ (y < 0):=by
   intro h
   apply hpq
   rw [HPQ.out.1,HPQ.out.2]
   simp [h]
  have HIz:Hid (∀ (W:World) (a:Option Addr) (k c:Nat),LN W (.slice a k c) (X % Y)→Calls Tryz.prog 104 #[.agg #[.slice a k c]] W fun e w'=>e = .returned (.bool (decide (X % Y = 0)))∧Below W.heap.size W w'):=fun W a k c h=>IsZero_any _ _ W h
  by_cases h0:X % Y = 0
  ·have HFa:Hid (((p != q) && decide (X / Y ≠ 0)) = decide (Qt < 0)∧(p && decide (X % Y ≠ 0)) = decide (Rt' < 0)∧Qt.natAbs = X / Y∧Rt'.natAbs = X % Y):=by
    obtain ⟨f1,f2⟩:=fd_even x y HXY.out.2.2.2.1 hs (by rw [← HXY.out.1,← HXY.out.2.1]; exact h0)
    rw [← HQR.out.1,← HXY.out.1,← HXY.out.2.1] at f1
    rw [← HQR.out.2] at f2
    obtain ⟨A,hA⟩:∃ A,A = X / Y:=⟨_,rfl⟩
    rw [← hA] at f1 ⊢
    clear hA
    have g1:(p != q) = true:=by simpa using hpq
    refine ⟨?_,by simp [h0,f2],by omega,by rw [f2,h0]; rfl⟩
    rw [g1]
    by_cases h2:A = 0
    ·have:¬ Qt < 0:=by omega
     simp [h2,this]
    ·have:Qt < 0:=by omega
     simp [h2,this]
   rw [decide_eq_true h0] at HIz
   clear hpq hs h0
   go_enter Tryz.func88,Tryz.ntmps88
   go_wp2_with fail
   rw [← hW0]
   clear hW0
   refine HDv.out.mono ?_
   rintro e w2 ⟨v,u,rfl,hv,hu,k2⟩
   obtain ⟨av,kv,cv,rfl⟩:=hv.shape
   obtain ⟨au,ku,cu,rfl⟩:=hu.shape
   obtain ⟨W1,hW1⟩:∃ W1,W1 = ((w2.alloc (.cells #[.slice av kv cv] 64)).alloc (.cells #[.slice au ku cu] 64)):=⟨_,rfl⟩
   have hB1:Below w2.heap.size w2 W1:=by rw [hW1]; exact ((Below.refl _ _).alloc (Nat.le_refl _) _).alloc (by simp) _
   have hz2:W0.heap.size≤w2.heap.size:=k2.size
   have hB01:Below W0.heap.size W0 W1:=k2.trans (hB1.mono hz2)
   have HQ1:Hid (Qb w.heap.size w2.heap.size (w2.heap.size + 1) (.slice ax kx cx) (.slice ay ky cy) (.slice av kv cv) (.slice au ku cu) p q [.slice none 0 0,.bool false] [.slice none 0 0,.bool false] W1):=by
    refine ⟨HP0.out.1.below hB01,HP0.out.2.1.below hB01,HP0.out.2.2.1.below hB01,HP0.out.2.2.2.below hB01,?_,?_⟩
    ·rw [hW1]; exact (Cl.new [.slice av kv cv] _ w2).alloc _
    ·rw [hW1]
     have:=Cl.new [.slice au ku cu] 64 (w2.alloc (.cells #[.slice av kv cv] 64))
     simpa using this
   have HL1:Hid (LN W1 (.slice av kv cv) (X / Y)∧LN W1 (.slice au ku cu) (X % Y)∧LN W1 (.slice ay ky cy) Y):=⟨hv.below hB1,hu.below hB1,HLy.out.below hB01⟩
   have HK1:Hid (Below w.heap.size w W1∧w.heap.size + 4≤w2.heap.size):=⟨KB0.out.trans (hB01.mono (by have:=HZ0.out; omega)),by have:=HZ0.out; omega⟩
   have q1:∀ a b:Obj,((w2.alloc a).alloc b).cell? ⟨w.heap.size,1,none⟩ = some (.bool p):=fun a b=>by
    have h:=HP0.out.1.below k2
    have hl:=h.lt
    have hc:=h.cell 1
    simp at hc
    rw [cell_old_at _ _ _ (by simp; omega),cell_old_at _ _ _ hl]; exact hc
   have q2:∀ a b:Obj,((w2.alloc a).alloc b).cell? ⟨w.heap.size + 1,1,none⟩ = some (.bool q):=fun a b=>by
    have h:=HP0.out.2.1.below k2
    have hl:=h.lt
    have hc:=h.cell 1
    simp at hc
    rw [cell_old_at _ _ _ (by simp; omega),cell_old_at _ _ _ hl]; exact hc
   clear hv hu k2 hB1 hz2 hB01 HDv
   go_wp2_with fail
   rw [← hW1]
   clear hW1 q1 q2 hpb
   refine (HIz.out W1 au ku cu HL1.out.2.1).mono ?_
   rintro e wS0 ⟨rfl,kS⟩
   have HKs:Hid (Below W1.heap.size W1 wS0):=kS
   clear kS
   go_wp2
   refine wp_region_G (fun W=>QS w.heap.size w2.heap.size (w2.heap.size + 1) (.slice ay ky cy) (.slice av kv cv) (.slice au ku cu) p q W) 12 (by kernel_rfl) (HQ1.out.below HKs.out.drew).held (fun hHeld=>?_)
   refine wpAnyG_take (i:=0) (v:=?v0x10) rfl (by kernel_rfl) (fun _ _ _ h=>h) (Or.inl ⟨by rfl,?y0x10⟩) hHeld ?r0x10
   case y0x10=>(intro wS hSw; obtain ⟨s1,s2,s3,s4,s5⟩:=hSw; go_simp; try with_reducible rfl)
   try simp only [Act.put,List.setIfInBounds_toArray,List.set_cons_zero,List.set_cons_succ]
   refine wpAnyG_take (i:=1) (v:=?v1x11) rfl (by kernel_rfl) (fun _ _ _ h=>h) (Or.inl ⟨by rfl,?y1x11⟩) hHeld ?r1x11
   case y1x11=>(intro wS hSw; obtain ⟨s1,s2,s3,s4,s5⟩:=hSw; go_simp; try with_reducible rfl)
   try simp only [Act.put,List.setIfInBounds_toArray,List.set_cons_zero,List.set_cons_succ]
   refine wpAnyG_take (i:=2) (v:=?v2x12) rfl (by kernel_rfl) (fun _ _ _ h=>h) (Or.inl ⟨by rfl,?y2x12⟩) hHeld ?r2x12
   case y2x12=>(intro wS hSw; obtain ⟨s1,s2,s3,s4,s5⟩:=hSw; go_simp; try with_reducible rfl)
   try simp only [Act.put,List.setIfInBounds_toArray,List.set_cons_zero,List.set_cons_succ]
   refine wpAnyG_take (i:=3) (v:=?v3x13) rfl (by kernel_rfl) (fun _ _ _ h=>h) (Or.inl ⟨by rfl,?y3x13⟩) hHeld ?r3x13
   case y3x13=>(intro wS hSw; obtain ⟨s1,s2,s3,s4,s5⟩:=hSw; go_simp; try with_reducible rfl)
   try simp only [Act.put,List.setIfInBounds_toArray,List.set_cons_zero,List.set_cons_succ]
   refine wpAnyG_take (i:=4) (v:=?v4x14) rfl (by kernel_rfl) (fun _ _ _ h=>h) (Or.inl ⟨by rfl,?y4x14⟩) hHeld ?r4x14
   case y4x14=>(intro wS hSw; obtain ⟨s1,s2,s3,s4,s5⟩:=hSw; go_simp; try with_reducible rfl)
   try simp only [Act.put,List.setIfInBounds_toArray,List.set_cons_zero,List.set_cons_succ]
   refine wpAnyG_take (i:=5) (v:=?v5x15) rfl (by kernel_rfl) (fun _ _ _ h=>h) (Or.inl ⟨by rfl,?y5x15⟩) hHeld ?r5x15
   case y5x15=>(intro wS hSw; obtain ⟨s1,s2,s3,s4,s5⟩:=hSw; go_simp; try with_reducible rfl)
   try simp only [Act.put,List.setIfInBounds_toArray,List.set_cons_zero,List.set_cons_succ]
   refine wpAnyG_take (i:=7) (v:=?v7x16) rfl (by kernel_rfl) (fun _ _ _ h=>h) (Or.inl ⟨by rfl,?y7x16⟩) hHeld ?r7x16
   case y7x16=>(intro wS hSw; obtain ⟨s1,s2,s3,s4,s5⟩:=hSw; go_simp; try with_reducible rfl)
   try simp only [Act.put,List.setIfInBounds_toArray,List.set_cons_zero,List.set_cons_succ]
   refine wpAnyG_take (i:=8) (v:=?v8x17) rfl (by kernel_rfl) (fun _ _ _ h=>h) (Or.inl ⟨by rfl,?y8x17⟩) hHeld ?r8x17
   case y8x17=>(intro wS hSw; obtain ⟨s1,s2,s3,s4,s5⟩:=hSw; go_simp; try with_reducible rfl)
   try simp only [Act.put,List.setIfInBounds_toArray,List.set_cons_zero,List.set_cons_succ]
   refine wpAnyG_take (i:=9) (v:=?v9x18) rfl (by kernel_rfl) (fun _ _ _ h=>h) (Or.inl ⟨by rfl,?y9x18⟩) hHeld ?r9x18
   case y9x18=>(intro wS hSw; obtain ⟨s1,s2,s3,s4,s5⟩:=hSw; go_simp; try with_reducible rfl)
   try simp only [Act.put,List.setIfInBounds_toArray,List.set_cons_zero,List.set_cons_succ]
   obtain ⟨fq,hfq⟩:∃ fq,fq = decide (Qt < 0):=⟨_,rfl⟩
   obtain ⟨fr,hfr⟩:∃ fr,fr = decide (Rt' < 0):=⟨_,rfl⟩
   have HF:Hid (fq = decide (Qt < 0)∧fr = decide (Rt' < 0)):=⟨hfq,hfr⟩
   clear hfq hfr
   refine wpAnyG_one (i:=6) rfl (by kernel_rfl) (fun K hK=>?_)
   go_simp
   have hc:=signed_any (.slice av kv cv) (X / Y) (p != q) wS0.drew (HL1.out.1.below HKs.out.drew)
   rw [HFa.out.1,← HF.out.1] at hc
   refine hc.mono ?_
   clear hc
   rintro e w4 ⟨rfl,k4⟩
   have HK4:Hid (Below W1.heap.size W1 w4):=HKs.out.drew.trans (k4.mono HKs.out.size)
   refine hK.out _ _ (HQ1.out.below HK4.out).held ?_
   clear k4
   clear hK K
   try simp only [Act.put,List.setIfInBounds_toArray,List.set_cons_zero,List.set_cons_succ]
   clear hHeld
   have hHeld:=(HQ1.out.below HK4.out).held
   refine wpAnyG_one (i:=10) rfl (by kernel_rfl) (fun K hK=>?_)
   go_simp
   have hc:=signed_any (.slice au ku cu) (X % Y) p w4 (HL1.out.2.1.below HK4.out)
   rw [HFa.out.2.1,← HF.out.2] at hc
   refine hc.mono ?_
   clear hc
   rintro e w5 ⟨rfl,k5⟩
   have HKA:Hid (Below W1.heap.size W1 w5):=HK4.out.trans (k5.mono HK4.out.size)
   have HVq:Hid (LN w5 (.slice av kv cv) Qt.natAbs):=by have h:=HL1.out.1.below HKA.out; rw [HFa.out.2.2.1]; exact h
   have HVr:Hid (LN w5 (.slice au ku cu) Rt'.natAbs):=by have h:=HL1.out.2.1.below HKA.out; rw [HFa.out.2.2.2]; exact h
   refine hK.out _ _ (HQ1.out.below HKA.out).held ?_
   clear k5
   clear hK K
   try simp only [Act.put,List.setIfInBounds_toArray,List.set_cons_zero,List.set_cons_succ]
   clear hHeld
   have HQA:Hid (Qb w.heap.size w2.heap.size (w2.heap.size + 1) (.slice ax kx cx) (.slice ay ky cy) (.slice av kv cv) (.slice au ku cu) p q [.slice none 0 0,.bool false] [.slice none 0 0,.bool false] w5):=HQ1.out.below HKA.out
   have u1:=HQA.out.u.cell 0
   have u2:=HQA.out.u.cell 1
   have u3:=HQA.out.u.frozen 0
   have u4:=HQA.out.u.frozen 1
   simp at u1 u2
   refine wpAnyG_one (i:=11) rfl (by kernel_rfl) (fun K hK=>?_)
   go_simp
   obtain ⟨wB,hwB⟩:∃ wB,wB = (w5.setCell ⟨w.heap.size + 1 + 1,0,none⟩ (.slice av kv cv)).setCell ⟨w.heap.size + 1 + 1,1,none⟩ (.bool fq):=⟨_,rfl⟩
   rw [← hwB]
   have HQB:Hid (Qb w.heap.size w2.heap.size (w2.heap.size + 1) (.slice ax kx cx) (.slice ay ky cy) (.slice av kv cv) (.slice au ku cu) p q [.slice av kv cv,.bool fq] [.slice none 0 0,.bool false] wB∧LN wB (.slice av kv cv) Qt.natAbs∧LN wB (.slice au ku cu) Rt'.natAbs∧Below w.heap.size w wB):=by
    rw [hwB]
    refine ⟨HQA.out.setU HK1.out.2 (by have:=HK1.out.2; omega) _ _,HVq.out.setTwo HQA.out.u,HVr.out.setTwo HQA.out.u,?_⟩
    exact ((HK1.out.1.trans (HKA.out.mono HK1.out.1.size)).setCell (by simp; omega) _).setCell (by simp; omega) _
   refine hK.out _ _ HQB.out.1.held ?_
   clear hwB u1 u2 u3 u4
   clear hK K
   try simp only [Act.put,List.setIfInBounds_toArray,List.set_cons_zero,List.set_cons_succ]
   have u1:=HQB.out.1.t.cell 0
   have u2:=HQB.out.1.t.cell 1
   have u3:=HQB.out.1.t.frozen 0
   have u4:=HQB.out.1.t.frozen 1
   simp at u1 u2
   refine wpAnyG_last (i:=12) rfl (by kernel_rfl) (by kernel_rfl) (fun K hK=>?_)
   go_simp
   refine hK.out _ _ ?_
   clear hK K
   try simp only [Act.put,List.setIfInBounds_toArray,List.set_cons_zero,List.set_cons_succ]
   refine wpAnyG_done (by kernel_rfl) ?_ _
   clear u1 u2 u3 u4
   go_wp2
   have C3:=HQB.out.1.t.two (.slice au ku cu) (.bool fr)
   have C4:=(HQB.out.1.u.other (p:=⟨w.heap.size + 3,0,none⟩) (by simp) (.slice au ku cu)).other (p:=⟨w.heap.size + 3,1,none⟩) (by simp) (.bool fr)
   have e1:=C3.cell 0
   have e2:=C3.cell 1
   have e3:=C4.cell 0
   have e4:=C4.cell 1
   simp at e1 e2 e3 e4
   refine bodyPost_ret (v:=.tuple #[.agg #[.slice av kv cv,.bool fq],.agg #[.slice au ku cu,.bool fr]]) (by simp [results,Tryz.results88,go_sem,e1,e2,e3,e4]) rfl ⟨_,_,by rw [HF.out.1,HF.out.2],?_,?_,?_⟩
   ·exact HQB.out.2.1.setTwo HQB.out.1.t
   ·exact HQB.out.2.2.1.setTwo HQB.out.1.t
   ·exact (HQB.out.2.2.2.setCell (by simp; omega) _).setCell (by simp; omega) _
  ·have HFa:Hid ((true && decide (X / Y + 1 ≠ 0)) = decide (Qt < 0)∧(q && decide (Y - X % Y ≠ 0)) = decide (Rt' < 0)∧Qt.natAbs = X / Y + 1∧Rt'.natAbs = Y - X % Y):=by
    obtain ⟨f1,f2⟩:=fd_odd x y HXY.out.2.2.2.1 hs (by rw [← HXY.out.1,← HXY.out.2.1]; exact h0)
    rw [← HQR.out.1,← HXY.out.1,← HXY.out.2.1] at f1
    rw [← HQR.out.2,← HXY.out.1,← HXY.out.2.1] at f2
    have hl:=Nat.mod_lt X HXY.out.2.2.1
    obtain ⟨A,hA⟩:∃ A,A = X / Y:=⟨_,rfl⟩
    obtain ⟨B,hB⟩:∃ B,B = X % Y:=⟨_,rfl⟩
    rw [← hA] at f1 ⊢
    rw [← hB] at f2 hl ⊢
    clear hA hB
    have g1:Qt < 0:=by omega
    refine ⟨by simp [g1],?_,by omega,by split at f2 <;> omega⟩
    rw [HPQ.out.2]
    by_cases h:y < 0
    ·rw [if_pos h] at f2
     have h1:Rt' < 0:=by omega
     have h2:Y - B ≠ 0:=by omega
     simp only [h,h1,h2,decide_true,ne_eq,not_false_eq_true,Bool.and_self]
    ·rw [if_neg h] at f2
     have:¬ Rt' < 0:=by omega
     simp [h,this]
   rw [decide_eq_false h0] at HIz
   clear hpq hs h0
   go_enter Tryz.func88,Tryz.ntmps88
   go_wp2_with fail
   rw [← hW0]
   clear hW0
   refine HDv.out.mono ?_
   rintro e w2 ⟨v,u,rfl,hv,hu,k2⟩
   obtain ⟨av,kv,cv,rfl⟩:=hv.shape
   obtain ⟨au,ku,cu,rfl⟩:=hu.shape
   obtain ⟨W1,hW1⟩:∃ W1,W1 = ((w2.alloc (.cells #[.slice av kv cv] 64)).alloc (.cells #[.slice au ku cu] 64)):=⟨_,rfl⟩
   have hB1:Below w2.heap.size w2 W1:=by rw [hW1]; exact ((Below.refl _ _).alloc (Nat.le_refl _) _).alloc (by simp) _
   have hz2:W0.heap.size≤w2.heap.size:=k2.size
   have hB01:Below W0.heap.size W0 W1:=k2.trans (hB1.mono hz2)
   have HQ1:Hid (Qb w.heap.size w2.heap.size (w2.heap.size + 1) (.slice ax kx cx) (.slice ay ky cy) (.slice av kv cv) (.slice au ku cu) p q [.slice none 0 0,.bool false] [.slice none 0 0,.bool false] W1):=by
    refine ⟨HP0.out.1.below hB01,HP0.out.2.1.below hB01,HP0.out.2.2.1.below hB01,HP0.out.2.2.2.below hB01,?_,?_⟩
    ·rw [hW1]; exact (Cl.new [.slice av kv cv] _ w2).alloc _
    ·rw [hW1]
     have:=Cl.new [.slice au ku cu] 64 (w2.alloc (.cells #[.slice av kv cv] 64))
     simpa using this
   have HL1:Hid (LN W1 (.slice av kv cv) (X / Y)∧LN W1 (.slice au ku cu) (X % Y)∧LN W1 (.slice ay ky cy) Y):=⟨hv.below hB1,hu.below hB1,HLy.out.below hB01⟩
   have HK1:Hid (Below w.heap.size w W1∧w.heap.size + 4≤w2.heap.size):=⟨KB0.out.trans (hB01.mono (by have:=HZ0.out; omega)),by have:=HZ0.out; omega⟩
   have q1:∀ a b:Obj,((w2.alloc a).alloc b).cell? ⟨w.heap.size,1,none⟩ = some (.bool p):=fun a b=>by
    have h:=HP0.out.1.below k2
    have hl:=h.lt
    have hc:=h.cell 1
    simp at hc
    rw [cell_old_at _ _ _ (by simp; omega),cell_old_at _ _ _ hl]; exact hc
   have q2:∀ a b:Obj,((w2.alloc a).alloc b).cell? ⟨w.heap.size + 1,1,none⟩ = some (.bool q):=fun a b=>by
    have h:=HP0.out.2.1.below k2
    have hl:=h.lt
    have hc:=h.cell 1
    simp at hc
    rw [cell_old_at _ _ _ (by simp; omega),cell_old_at _ _ _ hl]; exact hc
   clear hv hu k2 hB1 hz2 hB01 HDv
   go_wp2_with fail
   rw [← hW1]
   clear hW1 q1 q2 hpb
   refine (HIz.out W1 au ku cu HL1.out.2.1).mono ?_
   rintro e wS0 ⟨rfl,kS⟩
   have HKs:Hid (Below W1.heap.size W1 wS0):=kS
   clear kS
   go_wp2
   refine wp_region_G (fun W=>QS w.heap.size w2.heap.size (w2.heap.size + 1) (.slice ay ky cy) (.slice av kv cv) (.slice au ku cu) p q W) 12 (by kernel_rfl) (HQ1.out.below HKs.out.drew).held (fun hHeld=>?_)
   refine wpAnyG_take (i:=0) (v:=?v0x19) rfl (by kernel_rfl) (fun _ _ _ h=>h) (Or.inl ⟨by rfl,?y0x19⟩) hHeld ?r0x19
   case y0x19=>(intro wS hSw; obtain ⟨s1,s2,s3,s4,s5⟩:=hSw; go_simp; try with_reducible rfl)
   try simp only [Act.put,List.setIfInBounds_toArray,List.set_cons_zero,List.set_cons_succ]
   refine wpAnyG_take (i:=4) (v:=?v4x20) rfl (by kernel_rfl) (fun _ _ _ h=>h) (Or.inl ⟨by rfl,?y4x20⟩) hHeld ?r4x20
   case y4x20=>(intro wS hSw; obtain ⟨s1,s2,s3,s4,s5⟩:=hSw; go_simp; try with_reducible rfl)
   try simp only [Act.put,List.setIfInBounds_toArray,List.set_cons_zero,List.set_cons_succ]
   refine wpAnyG_take (i:=5) (v:=?v5x21) rfl (by kernel_rfl) (fun _ _ _ h=>h) (Or.inl ⟨by rfl,?y5x21⟩) hHeld ?r5x21
   case y5x21=>(intro wS hSw; obtain ⟨s1,s2,s3,s4,s5⟩:=hSw; go_simp; try with_reducible rfl)
   try simp only [Act.put,List.setIfInBounds_toArray,List.set_cons_zero,List.set_cons_succ]
   refine wpAnyG_take (i:=6) (v:=?v6x22) rfl (by kernel_rfl) (fun _ _ _ h=>h) (Or.inl ⟨by rfl,?y6x22⟩) hHeld ?r6x22
   case y6x22=>(intro wS hSw; obtain ⟨s1,s2,s3,s4,s5⟩:=hSw; go_simp; try with_reducible rfl)
   try simp only [Act.put,List.setIfInBounds_toArray,List.set_cons_zero,List.set_cons_succ]
   refine wpAnyG_take (i:=8) (v:=?v8x23) rfl (by kernel_rfl) (fun _ _ _ h=>h) (Or.inl ⟨by rfl,?y8x23⟩) hHeld ?r8x23
   case y8x23=>(intro wS hSw; obtain ⟨s1,s2,s3,s4,s5⟩:=hSw; go_simp; try with_reducible rfl)
   try simp only [Act.put,List.setIfInBounds_toArray,List.set_cons_zero,List.set_cons_succ]
   refine wpAnyG_take (i:=9) (v:=?v9x24) rfl (by kernel_rfl) (fun _ _ _ h=>h) (Or.inl ⟨by rfl,?y9x24⟩) hHeld ?r9x24
   case y9x24=>(intro wS hSw; obtain ⟨s1,s2,s3,s4,s5⟩:=hSw; go_simp; try with_reducible rfl)
   try simp only [Act.put,List.setIfInBounds_toArray,List.set_cons_zero,List.set_cons_succ]
   obtain ⟨fq,hfq⟩:∃ fq,fq = decide (Qt < 0):=⟨_,rfl⟩
   obtain ⟨fr,hfr⟩:∃ fr,fr = decide (Rt' < 0):=⟨_,rfl⟩
   have HF:Hid (fq = decide (Qt < 0)∧fr = decide (Rt' < 0)):=⟨hfq,hfr⟩
   clear hfq hfr
   refine wpAnyG_one (i:=1) rfl (by kernel_rfl) (fun K hK=>?_)
   go_simp
   have hc:=Of_any 1 wS0.drew (by omega)
   refine hc.mono ?_
   clear hc
   rintro e w4 ⟨vo,rfl,hvo,k4⟩
   obtain ⟨ao,ko,co,rfl⟩:=hvo.shape
   have HVo:Hid (LN w4 (.slice ao ko co) 1):=hvo
   have HK4:Hid (Below W1.heap.size W1 w4):=HKs.out.drew.trans (k4.mono HKs.out.size)
   refine hK.out _ _ (HQ1.out.below HK4.out).held ?_
   clear k4 hvo
   clear hK K
   try simp only [Act.put,List.setIfInBounds_toArray,List.set_cons_zero,List.set_cons_succ]
   clear hHeld
   have hHeld:=(HQ1.out.below HK4.out).held
   refine wpAnyG_one (i:=2) rfl (by kernel_rfl) (fun K hK=>?_)
   go_simp
   refine (Plus_any (.slice av kv cv) (.slice ao ko co) (X / Y) 1 (m + 1) w4 (HL1.out.1.below HK4.out) HVo.out (Nat.lt_of_le_of_lt (Nat.div_le_self _ _) (Nat.lt_of_lt_of_le HXY.out.2.2.2.2.1 (Nat.pow_le_pow_right (by decide) (by omega)))) (Nat.one_lt_pow (by omega) (by decide)) (by omega)).mono ?_
   rintro e w5 ⟨vs,rfl,hvs,k5⟩
   obtain ⟨as',ks',cs',rfl⟩:=hvs.shape
   have HVs:Hid (LN w5 (.slice as' ks' cs') (X / Y + 1)):=hvs
   have HK5:Hid (Below W1.heap.size W1 w5):=HK4.out.trans (k5.mono HK4.out.size)
   refine hK.out _ _ (HQ1.out.below HK5.out).held ?_
   clear k5 hvs
   clear hK K
   try simp only [Act.put,List.setIfInBounds_toArray,List.set_cons_zero,List.set_cons_succ]
   clear hHeld
   have hHeld:=(HQ1.out.below HK5.out).held
   refine wpAnyG_one (i:=3) rfl (by kernel_rfl) (fun K hK=>?_)
   go_simp
   have hc:=signed_any (.slice as' ks' cs') (X / Y + 1) true w5 HVs.out
   rw [HFa.out.1,← HF.out.1] at hc
   refine hc.mono ?_
   clear hc
   rintro e w6 ⟨rfl,k6⟩
   have HK6:Hid (Below W1.heap.size W1 w6):=HK5.out.trans (k6.mono HK5.out.size)
   have HVs6:Hid (LN w6 (.slice as' ks' cs') (X / Y + 1)):=HVs.out.below k6
   refine hK.out _ _ (HQ1.out.below HK6.out).held ?_
   clear k6
   clear hK K
   try simp only [Act.put,List.setIfInBounds_toArray,List.set_cons_zero,List.set_cons_succ]
   clear hHeld
   have hHeld:=(HQ1.out.below HK6.out).held
   refine wpAnyG_one (i:=7) rfl (by kernel_rfl) (fun K hK=>?_)
   go_simp
   refine (NMinus_any (.slice ay ky cy) (.slice au ku cu) Y (X % Y) m w6 (HL1.out.2.2.below HK6.out) (HL1.out.2.1.below HK6.out) HXY.out.2.2.2.2.2 (by omega) (Nat.le_of_lt (Nat.mod_lt _ HXY.out.2.2.1))).mono ?_
   rintro e w7 ⟨vd,rfl,hvd,k7⟩
   obtain ⟨ad,kd,cd,rfl⟩:=hvd.shape
   have HVd:Hid (LN w7 (.slice ad kd cd) (Y - X % Y)):=hvd
   have HK7:Hid (Below W1.heap.size W1 w7):=HK6.out.trans (k7.mono HK6.out.size)
   have HVs7:Hid (LN w7 (.slice as' ks' cs') (X / Y + 1)):=HVs6.out.below k7
   refine hK.out _ _ (HQ1.out.below HK7.out).held ?_
   clear k7 hvd
   clear hK K
   try simp only [Act.put,List.setIfInBounds_toArray,List.set_cons_zero,List.set_cons_succ]
   clear hHeld
   have hHeld:=(HQ1.out.below HK7.out).held
   refine wpAnyG_one (i:=10) rfl (by kernel_rfl) (fun K hK=>?_)
   go_simp
   have hc:=signed_any (.slice ad kd cd) (Y - X % Y) q w7 HVd.out
   rw [HFa.out.2.1,← HF.out.2] at hc
   refine hc.mono ?_
   clear hc
   rintro e w8 ⟨rfl,k8⟩
   have HKA:Hid (Below W1.heap.size W1 w8):=HK7.out.trans (k8.mono HK7.out.size)
   have HVq:Hid (LN w8 (.slice as' ks' cs') Qt.natAbs):=by have h:=HVs7.out.below k8; rw [HFa.out.2.2.1]; exact h
   have HVr:Hid (LN w8 (.slice ad kd cd) Rt'.natAbs):=by have h:=HVd.out.below k8; rw [HFa.out.2.2.2]; exact h
   refine hK.out _ _ (HQ1.out.below HKA.out).held ?_
   clear k8
   clear hK K
   try simp only [Act.put,List.setIfInBounds_toArray,List.set_cons_zero,List.set_cons_succ]
   clear hHeld
   have HQA:Hid (Qb w.heap.size w2.heap.size (w2.heap.size + 1) (.slice ax kx cx) (.slice ay ky cy) (.slice av kv cv) (.slice au ku cu) p q [.slice none 0 0,.bool false] [.slice none 0 0,.bool false] w8):=HQ1.out.below HKA.out
   have u1:=HQA.out.u.cell 0
   have u2:=HQA.out.u.cell 1
   have u3:=HQA.out.u.frozen 0
   have u4:=HQA.out.u.frozen 1
   simp at u1 u2
   refine wpAnyG_one (i:=11) rfl (by kernel_rfl) (fun K hK=>?_)
   go_simp
   obtain ⟨wB,hwB⟩:∃ wB,wB = (w8.setCell ⟨w.heap.size + 1 + 1,0,none⟩ (.slice as' ks' cs')).setCell ⟨w.heap.size + 1 + 1,1,none⟩ (.bool fq):=⟨_,rfl⟩
   rw [← hwB]
   have HQB:Hid (Qb w.heap.size w2.heap.size (w2.heap.size + 1) (.slice ax kx cx) (.slice ay ky cy) (.slice av kv cv) (.slice au ku cu) p q [.slice as' ks' cs',.bool fq] [.slice none 0 0,.bool false] wB∧LN wB (.slice as' ks' cs') Qt.natAbs∧LN wB (.slice ad kd cd) Rt'.natAbs∧Below w.heap.size w wB):=by
    rw [hwB]
    refine ⟨HQA.out.setU HK1.out.2 (by have:=HK1.out.2; omega) _ _,HVq.out.setTwo HQA.out.u,HVr.out.setTwo HQA.out.u,?_⟩
    exact ((HK1.out.1.trans (HKA.out.mono HK1.out.1.size)).setCell (by simp; omega) _).setCell (by simp; omega) _
   refine hK.out _ _ HQB.out.1.held ?_
   clear hwB u1 u2 u3 u4
   clear hK K
   try simp only [Act.put,List.setIfInBounds_toArray,List.set_cons_zero,List.set_cons_succ]
   have u1:=HQB.out.1.t.cell 0
   have u2:=HQB.out.1.t.cell 1
   have u3:=HQB.out.1.t.frozen 0
   have u4:=HQB.out.1.t.frozen 1
   simp at u1 u2
   refine wpAnyG_last (i:=12) rfl (by kernel_rfl) (by kernel_rfl) (fun K hK=>?_)
   go_simp
   refine hK.out _ _ ?_
   clear hK K
   try simp only [Act.put,List.setIfInBounds_toArray,List.set_cons_zero,List.set_cons_succ]
   refine wpAnyG_done (by kernel_rfl) ?_ _
   clear u1 u2 u3 u4
   go_wp2
   have C3:=HQB.out.1.t.two (.slice ad kd cd) (.bool fr)
   have C4:=(HQB.out.1.u.other (p:=⟨w.heap.size + 3,0,none⟩) (by simp) (.slice ad kd cd)).other (p:=⟨w.heap.size + 3,1,none⟩) (by simp) (.bool fr)
   have e1:=C3.cell 0
   have e2:=C3.cell 1
   have e3:=C4.cell 0
   have e4:=C4.cell 1
   simp at e1 e2 e3 e4
   refine bodyPost_ret (v:=.tuple #[.agg #[.slice as' ks' cs',.bool fq],.agg #[.slice ad kd cd,.bool fr]]) (by simp [results,Tryz.results88,go_sem,e1,e2,e3,e4]) rfl ⟨_,_,by rw [HF.out.1,HF.out.2],?_,?_,?_⟩
   ·exact HQB.out.2.1.setTwo HQB.out.1.t
   ·exact HQB.out.2.2.1.setTwo HQB.out.1.t
   ·exact (HQB.out.2.2.2.setCell (by simp; omega) _).setCell (by simp; omega) _
end Go.Proofs.YtnkjadpmigpneaaGreatDoor
