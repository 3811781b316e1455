import Derived.Test.YtnkjadpmigpneaaGreatDoorJsN
import Derived.Test.YtnkjadpmigpneaaGreatDoorJsQ
import Derived.Test.YtnkjadpmigpneaaGreatDoorJsY
set_option linter.unusedSimpArgs false
set_option linter.unusedVariables false
set_option maxRecDepth 100000
namespace Go.Proofs.YtnkjadpmigpneaaGreatDoor
open Go.RowKit LgM
def ftx (x:Int) (y:Nat):List UInt8:=(if x < 0 then [45] else []) ++ Lib.decDigits (x.natAbs / Nat.gcd x.natAbs y) ++ (if y / Nat.gcd x.natAbs y = 1 then [] else 47 :: Lib.decDigits (y / Nat.gcd x.natAbs y))
theorem ftx_vtx (x:Int) (y:Nat) (hy:0 < y):ftx x y = vtx ((x:Rat) / (((y:Nat):Int):Rat)):=by
 obtain ⟨g,hgd⟩:∃ g,g = Nat.gcd x.natAbs y:=⟨_,rfl⟩
 have hg:0 < g:=by rw [hgd]; exact Nat.gcd_pos_of_pos_right _ hy
 obtain ⟨p,hp⟩:∃ p,x.natAbs = g * p:=by rw [hgd]; exact Nat.gcd_dvd_left x.natAbs y
 obtain ⟨q,hq⟩:∃ q,y = g * q:=by rw [hgd]; exact Nat.gcd_dvd_right x.natAbs y
 have hq0:0 < q:=by
  rcases Nat.eq_zero_or_pos q with h | h
  ·rw [h] at hq; simp at hq; omega
  ·exact h
 have e1:x.natAbs / g = p:=by rw [hp]; exact Nat.mul_div_cancel_left _ hg
 have e2:y / g = q:=by rw [hq]; exact Nat.mul_div_cancel_left _ hg
 have cop:Nat.gcd p q = 1:=by
  have h:=Nat.gcd_mul_left g p q
  rw [← hp,← hq,← hgd] at h
  exact Nat.eq_of_mul_eq_mul_left hg (by rw [← h,Nat.mul_one])
 obtain ⟨S,hS⟩:∃ S:Int,S = if x < 0 then -(p:Int) else (p:Int):=⟨_,rfl⟩
 have hSx:x = (g:Int) * S:=by
  have h2:(x.natAbs:Int) = (g:Int) * (p:Int):=by rw [← Int.natCast_mul,← hp]
  by_cases h0:x < 0
  ·rw [if_pos h0] at hS
   rw [hS,Int.mul_neg,← h2]; omega
  ·rw [if_neg h0] at hS
   rw [hS,← h2]; omega
 have hSp:S.natAbs = p:=by rw [hS]; split <;> omega
 have hv:(S:Rat) / (((q:Nat):Int):Rat) = (x:Rat) / (((y:Nat):Int):Rat):=by
  refine (rv_eq (by omega) (by omega)).2 ?_
  rw [hSx,hq,Int.natCast_mul]
  grind
 have ep:(if x < 0 then [45] else ([]:List UInt8)) ++ Lib.decDigits p = decZ S:=by
  by_cases h0:x < 0
  ·have hp1:0 < p:=by
    rcases Nat.eq_zero_or_pos p with h | h
    ·rw [h] at hp; simp at hp; omega
    ·exact h
   rw [if_pos h0] at hS ⊢
   rw [decZ_neg (by omega),hSp]
   rfl
  ·rw [if_neg h0] at hS ⊢
   rw [decZ_pos (by omega),hSp]
   rfl
 rw [vtx_of (by omega) (by rw [hSp,Int.natAbs_natCast]; exact cop) hv]
 unfold ftx rtx
 rw [← hgd,e1,e2,ep]
 by_cases h1:q = 1
 ·rw [if_pos h1,if_pos (show ((q:Nat):Int) = 1 by omega),List.append_nil]
 ·rw [if_neg h1,if_neg (show ¬ ((q:Nat):Int) = 1 by omega),decZ_pos (x:=((q:Nat):Int)) (by omega),Int.natAbs_natCast]
set_option maxHeartbeats 16000000 in
theorem fraction_any (va vb:Value) (x:Int) (y m:Nat) (w:World) (hx:LN w va x.natAbs) (hy:LN w vb y) (hy0:0 < y) (hxm:x.natAbs < Bs ^ m) (hym:y < Bs ^ m) (hm1:1≤m) (hm:m≤1000) (hT:Tq w) :
  Calls Tryz.prog 37 #[.agg #[va,.bool (decide (x < 0))],.agg #[vb,.bool false]] w fun e w'=>e = .returned (.string ⟨(ftx x y).toArray⟩)∧Below w.heap.size w w':=by
 obtain ⟨aa,ak,ac,rfl⟩:=hx.shape
 obtain ⟨ba,bk,bc,rfl⟩:=hy.shape
 obtain ⟨zx,hzx⟩:∃ z,z = decide (x < 0):=⟨_,rfl⟩
 rw [← hzx]
 obtain ⟨g,hg⟩:∃ g,g = Nat.gcd x.natAbs y:=⟨_,rfl⟩
 have hg0:0 < g:=by rw [hg]; exact Nat.gcd_pos_of_pos_right _ hy0
 have hgm:g < Bs ^ m:=Nat.lt_of_le_of_lt (by rw [hg]; exact Nat.le_of_dvd hy0 (Nat.gcd_dvd_right _ _)) hym
 obtain ⟨P,hP⟩:∃ P,P = x.natAbs / g:=⟨_,rfl⟩
 obtain ⟨Q,hQ⟩:∃ Q,Q = y / g:=⟨_,rfl⟩
 have HB:Hid (x.natAbs < Bs ^ m∧y < Bs ^ m∧g < Bs ^ m∧0 < g∧P < Bs ^ m∧Q < Bs ^ m∧1≤m∧m≤1000) :=
  ⟨hxm,hym,hgm,hg0,Nat.lt_of_le_of_lt (by rw [hP]; exact Nat.div_le_self _ _) hxm,Nat.lt_of_le_of_lt (by rw [hQ]; exact Nat.div_le_self _ _) hym,hm1,hm⟩
 have HG:Hid (g = Nat.gcd x.natAbs y∧P = x.natAbs / g∧Q = y / g∧zx = decide (x < 0)):=⟨hg,hP,hQ,hzx⟩
 obtain ⟨W0,hW0⟩:∃ W0,W0 = ((w.alloc (.cells #[.slice aa ak ac,.bool zx] 66)).alloc (.cells #[.slice ba bk bc,.bool false] 66)):=⟨_,rfl⟩
 have k0:Below w.heap.size w W0:=by rw [hW0]; exact ((Below.refl _ _).alloc (Nat.le_refl _) _).alloc (by simp) _
 have c0:Cl w.heap.size [.slice aa ak ac,.bool zx] 66 W0:=by rw [hW0]; exact (Cl.new _ _ _).alloc _
 have c1:Cl (w.heap.size + 1) [.slice ba bk bc,.bool false] 66 W0:=by
  rw [hW0]
  have:=Cl.new [.slice ba bk bc,.bool false] 66 (w.alloc (.cells #[.slice aa ak ac,.bool zx] 66))
  simpa using this
 have z0:W0.heap.size = w.heap.size + 2:=by rw [hW0]; simp
 have H0:Hid (Cl w.heap.size [.slice aa ak ac,.bool zx] 66 W0∧Cl (w.heap.size + 1) [.slice ba bk bc,.bool false] 66 W0∧LN W0 (.slice aa ak ac) x.natAbs∧LN W0 (.slice ba bk bc) y∧Below w.heap.size w W0∧Tq W0) :=
  ⟨c0,c1,hx.below k0,hy.below k0,k0,hT.below k0⟩
 have HK:Hid (∀ W,Below W0.heap.size W0 W→(W.cell? ⟨w.heap.size,0,none⟩ = some (.slice aa ak ac)∧W.cell? ⟨w.heap.size,1,none⟩ = some (.bool zx))∧(W.cell? ⟨w.heap.size + 1,0,none⟩ = some (.slice ba bk bc)∧W.cell? ⟨w.heap.size + 1,1,none⟩ = some (.bool false))):=fun W k=>by
  have d1:=H0.out.1.below k
  have d2:=H0.out.2.1.below k
  have a1:=d1.cell 0
  have a2:=d1.cell 1
  have a3:=d2.cell 0
  have a4:=d2.cell 1
  simp at a1 a2 a3 a4
  exact ⟨⟨a1,a2⟩,a3,a4⟩
 have HS1:Hid (∀ W,Below W0.heap.size W0 W→Calls Tryz.prog 75 #[.agg #[.slice aa ak ac,.bool zx]] W fun e w'=>e = .returned (.agg #[.slice aa ak ac])∧Below W.heap.size W w'):=fun W k=>by
  have:=Size_any (.slice aa ak ac) x W (H0.out.2.2.1.below k)
  rw [← hzx] at this; exact this
 have HS2:Hid (∀ W,Below W0.heap.size W0 W→Calls Tryz.prog 75 #[.agg #[.slice ba bk bc,.bool false]] W fun e w'=>e = .returned (.agg #[.slice ba bk bc])∧Below W.heap.size W w'):=fun W k=>by
  have:=Size_any (.slice ba bk bc) (y:Int) W (by rw [Int.natAbs_natCast]; exact H0.out.2.2.2.1.below k)
  rw [decide_eq_false (by omega)] at this; exact this
 have HGc:Hid (∀ W,Below W0.heap.size W0 W→Calls Tryz.prog 76 #[.agg #[.slice aa ak ac],.agg #[.slice ba bk bc]] W fun e w'=>∃ ga gk gc,e = .returned (.agg #[.slice ga gk gc])∧LN w' (.slice ga gk gc) g∧Below W.heap.size W w'):=fun W k=>by
  refine (NGcd_any (.slice aa ak ac) (.slice ba bk bc) x.natAbs y m W (H0.out.2.2.1.below k) (H0.out.2.2.2.1.below k) HB.out.1 HB.out.2.1 (by have:=HB.out.2.2.2.2.2.2.2; omega)).mono ?_
  rintro e w' ⟨v,rfl,h2,h3⟩
  obtain ⟨ga,gk,gc,rfl⟩:=h2.shape
  rw [← HG.out.1] at h2
  exact ⟨ga,gk,gc,rfl,h2,h3⟩
 have HDx:Hid (∀ W va vb,LN W va x.natAbs→LN W vb g→Calls Tryz.prog 77 #[.agg #[va],.agg #[vb]] W fun e w'=>∃ qa qk qc ea ek ec,e = .returned (.tuple #[.agg #[.slice qa qk qc],.agg #[.slice ea ek ec]])∧LN w' (.slice qa qk qc) P∧Below W.heap.size W w'):=fun W va vb h1 h2=>by
  refine (NDivide_any va vb x.natAbs g m W h1 h2 HB.out.1 HB.out.2.2.1 (by have:=HB.out.2.2.2.2.2.2.2; omega) HB.out.2.2.2.1).mono ?_
  rintro e w' ⟨v,u,rfl,h3,h4,h5⟩
  obtain ⟨qa,qk,qc,rfl⟩:=h3.shape
  obtain ⟨ea,ek,ec,rfl⟩:=h4.shape
  rw [← HG.out.2.1] at h3
  exact ⟨qa,qk,qc,ea,ek,ec,rfl,h3,h5⟩
 have HDy:Hid (∀ W va vb,LN W va y→LN W vb g→Calls Tryz.prog 77 #[.agg #[va],.agg #[vb]] W fun e w'=>∃ qa qk qc ea ek ec,e = .returned (.tuple #[.agg #[.slice qa qk qc],.agg #[.slice ea ek ec]])∧LN w' (.slice qa qk qc) Q∧Below W.heap.size W w'):=fun W va vb h1 h2=>by
  refine (NDivide_any va vb y g m W h1 h2 HB.out.2.1 HB.out.2.2.1 (by have:=HB.out.2.2.2.2.2.2.2; omega) HB.out.2.2.2.1).mono ?_
  rintro e w' ⟨v,u,rfl,h3,h4,h5⟩
  obtain ⟨qa,qk,qc,rfl⟩:=h3.shape
  obtain ⟨ea,ek,ec,rfl⟩:=h4.shape
  rw [← HG.out.2.2.1] at h3
  exact ⟨qa,qk,qc,ea,ek,ec,rfl,h3,h5⟩
 clear hx hy hy0 hxm hym hm1 hm hT hg hg0 hgm hP hQ hzx k0 c0 c1 z0
 go_enter Tryz.func37,Tryz.ntmps37
 go_wp2
 rw [← hW0]
 clear hW0
 refine wp_region_G (fun W=>(W.cell? ⟨w.heap.size,0,none⟩ = some (.slice aa ak ac)∧W.cell? ⟨w.heap.size,1,none⟩ = some (.bool zx))∧(W.cell? ⟨w.heap.size + 1,0,none⟩ = some (.slice ba bk bc)∧W.cell? ⟨w.heap.size + 1,1,none⟩ = some (.bool false))) 6 (by kernel_rfl) (HK.out _ (Below.refl _ _).drew) (fun hHeld=>?_)
 refine wpAnyG_take (i:=0) (v:=?v0x1) rfl (by kernel_rfl) (fun _ _ _ h=>h) (Or.inl ⟨by rfl,?y0x1⟩) hHeld ?r0x1
 case y0x1=>(intro wS hSw; obtain ⟨⟨s1,s2⟩,s3,s4⟩:=hSw; go_simp; try with_reducible rfl)
 simp only [Act.put,List.getElem_toArray,List.getElem_cons_zero,List.getElem_cons_succ,List.setIfInBounds_toArray,List.set_cons_zero,List.set_cons_succ]
 refine wpAnyG_take (i:=2) (v:=?v2x2) rfl (by kernel_rfl) (fun _ _ _ h=>h) (Or.inl ⟨by rfl,?y2x2⟩) hHeld ?r2x2
 case y2x2=>(intro wS hSw; obtain ⟨⟨s1,s2⟩,s3,s4⟩:=hSw; go_simp; try with_reducible rfl)
 simp only [Act.put,List.getElem_toArray,List.getElem_cons_zero,List.getElem_cons_succ,List.setIfInBounds_toArray,List.set_cons_zero,List.set_cons_succ]
 have hHeld0:=hHeld
 clear hHeld
 refine wpAnyG_inv (fun n l a w1=>∃ x5 x12 x14 x15:Value,a = { tmps:=#[.agg #[.slice aa ak ac,.bool zx],.agg #[.slice ba bk bc,.bool false],.pointer (some ⟨w.heap.size,0,none⟩),.pointer (some ⟨w.heap.size + 1,0,none⟩),.string { data:=#[] },x5,undef,undef,undef,undef,undef,.agg #[.slice aa ak ac,.bool zx],x12,.agg #[.slice ba bk bc,.bool false],x14,x15,undef,undef,undef,undef,undef,undef,undef,undef,undef,undef,undef,undef,undef,undef,undef,undef,undef,undef,undef,undef,undef,undef,undef,undef,undef,undef,undef,undef,undef,undef,undef],defers:=[] }∧((((n = 5∧l = #[true,false,true,false,false,false,false]∧x5 = undef∧x12 = undef∧x14 = undef∧x15 = undef∧Hid (Below W0.heap.size W0 w1))∨(n = 4∧l = #[true,true,true,false,false,false,false]∧x5 = undef∧x12 = .agg #[.slice aa ak ac]∧x14 = undef∧x15 = undef∧Hid (Below W0.heap.size W0 w1)))∨((∃ b5:Nat,n = 4∧l = #[true,false,true,false,false,true,false]∧x5 = .pointer (some ⟨b5,0,none⟩)∧x12 = undef∧x14 = undef∧x15 = undef∧Hid (Below W0.heap.size W0 w1∧W0.heap.size≤b5∧Cl b5 [.slice none 0 0] 64 w1))∨(n = 3∧l = #[true,true,true,true,false,false,false]∧x5 = undef∧x12 = .agg #[.slice aa ak ac]∧x14 = .agg #[.slice ba bk bc]∧x15 = undef∧Hid (Below W0.heap.size W0 w1))))∨(((∃ b5:Nat,n = 3∧l = #[true,true,true,false,false,true,false]∧x5 = .pointer (some ⟨b5,0,none⟩)∧x12 = .agg #[.slice aa ak ac]∧x14 = undef∧x15 = undef∧Hid (Below W0.heap.size W0 w1∧W0.heap.size≤b5∧Cl b5 [.slice none 0 0] 64 w1))∨(∃ ga:Option Addr,∃ gk:Nat,∃ gc:Nat,n = 2∧l = #[true,true,true,true,true,false,false]∧x5 = undef∧x12 = .agg #[.slice aa ak ac]∧x14 = .agg #[.slice ba bk bc]∧x15 = .agg #[.slice ga gk gc]∧Hid (Below W0.heap.size W0 w1∧LN w1 (.slice ga gk gc) g)))∨((∃ b5:Nat,n = 2∧l = #[true,true,true,true,false,true,false]∧x5 = .pointer (some ⟨b5,0,none⟩)∧x12 = .agg #[.slice aa ak ac]∧x14 = .agg #[.slice ba bk bc]∧x15 = undef∧Hid (Below W0.heap.size W0 w1∧W0.heap.size≤b5∧Cl b5 [.slice none 0 0] 64 w1))∨((∃ b5:Nat,∃ ga:Option Addr,∃ gk:Nat,∃ gc:Nat,n = 1∧l = #[true,true,true,true,true,true,false]∧x5 = .pointer (some ⟨b5,0,none⟩)∧x12 = .agg #[.slice aa ak ac]∧x14 = .agg #[.slice ba bk bc]∧x15 = .agg #[.slice ga gk gc]∧Hid (Below W0.heap.size W0 w1∧W0.heap.size≤b5∧Cl b5 [.slice none 0 0] 64 w1∧LN w1 (.slice ga gk gc) g))∨(∃ b5:Nat,∃ ga:Option Addr,∃ gk:Nat,∃ gc:Nat,n = 0∧l = #[true,true,true,true,true,true,true]∧x5 = .pointer (some ⟨b5,0,none⟩)∧x12 = .agg #[.slice aa ak ac]∧x14 = .agg #[.slice ba bk bc]∧x15 = .agg #[.slice ga gk gc]∧Hid (Below W0.heap.size W0 w1∧W0.heap.size≤b5∧Cl b5 [.slice ga gk gc] 64 w1∧LN w1 (.slice ga gk gc) g))))))) ?steps _ _ _ _ ?start
 case start=>exact ⟨_,_,_,_,rfl,.inl (.inl (.inl (⟨rfl,rfl,rfl,rfl,rfl,rfl,(Below.refl _ _).drew⟩)))⟩
 case steps =>
  intro n l a w1 hI
  obtain ⟨x5,x12,x14,x15,rfl,hI⟩:=hI
  rcases hI with (((hI | hI) | (hI | hI)) | ((hI | hI) | (hI | (hI | hI))))
  ·obtain ⟨rfl,rfl,rfl,rfl,rfl,rfl,HH⟩:=hI
   right
   refine ⟨4,[1,5],rfl,by kernel_rfl,by simp,fun i hi=>?_⟩
   simp only [List.mem_cons,List.not_mem_nil,or_false] at hi
   rcases hi with rfl | rfl
   ·refine ⟨_,rfl,fun K' hK=>?_⟩
    go_simp
    have K:=HH.out
    have zl:=K.size
    refine (HS1.out w1 K).mono ?_
    rintro e w2 ⟨rfl,kk⟩
    refine hK.out _ _ (fun _ _=>HK.out _ (K.trans (kk.mono zl))) (⟨_,_,_,_,rfl,.inl (.inl (.inr (⟨rfl,rfl,rfl,rfl,rfl,rfl,K.trans (kk.mono zl)⟩)))⟩)
   ·refine ⟨_,rfl,fun K' hK=>?_⟩
    go_simp
    have K:=HH.out
    have zl:=K.size
    refine hK.out _ _ (fun _ _=>HK.out _ (K.alloc zl _)) (⟨_,_,_,_,rfl,.inl (.inr (.inl (⟨w1.heap.size,rfl,rfl,rfl,rfl,rfl,rfl,K.alloc zl _,zl,Cl.new _ _ w1⟩)))⟩)
  ·obtain ⟨rfl,rfl,rfl,rfl,rfl,rfl,HH⟩:=hI
   right
   refine ⟨3,[3,5],rfl,by kernel_rfl,by simp,fun i hi=>?_⟩
   simp only [List.mem_cons,List.not_mem_nil,or_false] at hi
   rcases hi with rfl | rfl
   ·refine ⟨_,rfl,fun K' hK=>?_⟩
    go_simp
    have K:=HH.out
    have zl:=K.size
    refine (HS2.out w1 K).mono ?_
    rintro e w2 ⟨rfl,kk⟩
    refine hK.out _ _ (fun _ _=>HK.out _ (K.trans (kk.mono zl))) (⟨_,_,_,_,rfl,.inl (.inr (.inr (⟨rfl,rfl,rfl,rfl,rfl,rfl,K.trans (kk.mono zl)⟩)))⟩)
   ·refine ⟨_,rfl,fun K' hK=>?_⟩
    go_simp
    have K:=HH.out
    have zl:=K.size
    refine hK.out _ _ (fun _ _=>HK.out _ (K.alloc zl _)) (⟨_,_,_,_,rfl,.inr (.inl (.inl (⟨w1.heap.size,rfl,rfl,rfl,rfl,rfl,rfl,K.alloc zl _,zl,Cl.new _ _ w1⟩)))⟩)
  ·obtain ⟨b5,rfl,rfl,rfl,rfl,rfl,rfl,HH⟩:=hI
   right
   refine ⟨3,[1],rfl,by kernel_rfl,by simp,fun i hi=>?_⟩
   simp only [List.mem_cons,List.not_mem_nil,or_false] at hi
   subst hi
   refine ⟨_,rfl,fun K' hK=>?_⟩
   go_simp
   obtain ⟨K,ge_b5,at_b5⟩:=HH.out
   have zl:=K.size
   refine (HS1.out w1 K).mono ?_
   rintro e w2 ⟨rfl,kk⟩
   refine hK.out _ _ (fun _ _=>HK.out _ (K.trans (kk.mono zl))) (⟨_,_,_,_,rfl,.inr (.inl (.inl (⟨b5,rfl,rfl,rfl,rfl,rfl,rfl,K.trans (kk.mono zl),ge_b5,at_b5.below kk⟩)))⟩)
  ·obtain ⟨rfl,rfl,rfl,rfl,rfl,rfl,HH⟩:=hI
   right
   refine ⟨2,[4,5],rfl,by kernel_rfl,by simp,fun i hi=>?_⟩
   simp only [List.mem_cons,List.not_mem_nil,or_false] at hi
   rcases hi with rfl | rfl
   ·refine ⟨_,rfl,fun K' hK=>?_⟩
    go_simp
    have K:=HH.out
    have zl:=K.size
    refine (HGc.out w1 K).mono ?_
    rintro e w2 ⟨ga,gk,gc,rfl,lng,kk⟩
    refine hK.out _ _ (fun _ _=>HK.out _ (K.trans (kk.mono zl))) (⟨_,_,_,_,rfl,.inr (.inl (.inr (⟨ga,gk,gc,rfl,rfl,rfl,rfl,rfl,rfl,K.trans (kk.mono zl),lng⟩)))⟩)
   ·refine ⟨_,rfl,fun K' hK=>?_⟩
    go_simp
    have K:=HH.out
    have zl:=K.size
    refine hK.out _ _ (fun _ _=>HK.out _ (K.alloc zl _)) (⟨_,_,_,_,rfl,.inr (.inr (.inl (⟨w1.heap.size,rfl,rfl,rfl,rfl,rfl,rfl,K.alloc zl _,zl,Cl.new _ _ w1⟩)))⟩)
  ·obtain ⟨b5,rfl,rfl,rfl,rfl,rfl,rfl,HH⟩:=hI
   right
   refine ⟨2,[3],rfl,by kernel_rfl,by simp,fun i hi=>?_⟩
   simp only [List.mem_cons,List.not_mem_nil,or_false] at hi
   subst hi
   refine ⟨_,rfl,fun K' hK=>?_⟩
   go_simp
   obtain ⟨K,ge_b5,at_b5⟩:=HH.out
   have zl:=K.size
   refine (HS2.out w1 K).mono ?_
   rintro e w2 ⟨rfl,kk⟩
   refine hK.out _ _ (fun _ _=>HK.out _ (K.trans (kk.mono zl))) (⟨_,_,_,_,rfl,.inr (.inr (.inl (⟨b5,rfl,rfl,rfl,rfl,rfl,rfl,K.trans (kk.mono zl),ge_b5,at_b5.below kk⟩)))⟩)
  ·obtain ⟨ga,gk,gc,rfl,rfl,rfl,rfl,rfl,rfl,HH⟩:=hI
   right
   refine ⟨1,[5],rfl,by kernel_rfl,by simp,fun i hi=>?_⟩
   simp only [List.mem_cons,List.not_mem_nil,or_false] at hi
   subst hi
   refine ⟨_,rfl,fun K' hK=>?_⟩
   go_simp
   obtain ⟨K,lng⟩:=HH.out
   have zl:=K.size
   refine hK.out _ _ (fun _ _=>HK.out _ (K.alloc zl _)) (⟨_,_,_,_,rfl,.inr (.inr (.inr (.inl (⟨w1.heap.size,ga,gk,gc,rfl,rfl,rfl,rfl,rfl,rfl,K.alloc zl _,zl,Cl.new _ _ w1,lng.below ((Below.refl _ _).alloc (Nat.le_refl _) _)⟩))))⟩)
  ·obtain ⟨b5,rfl,rfl,rfl,rfl,rfl,rfl,HH⟩:=hI
   right
   refine ⟨1,[4],rfl,by kernel_rfl,by simp,fun i hi=>?_⟩
   simp only [List.mem_cons,List.not_mem_nil,or_false] at hi
   subst hi
   refine ⟨_,rfl,fun K' hK=>?_⟩
   go_simp
   obtain ⟨K,ge_b5,at_b5⟩:=HH.out
   have zl:=K.size
   refine (HGc.out w1 K).mono ?_
   rintro e w2 ⟨ga,gk,gc,rfl,lng,kk⟩
   refine hK.out _ _ (fun _ _=>HK.out _ (K.trans (kk.mono zl))) (⟨_,_,_,_,rfl,.inr (.inr (.inr (.inl (⟨b5,ga,gk,gc,rfl,rfl,rfl,rfl,rfl,rfl,K.trans (kk.mono zl),ge_b5,at_b5.below kk,lng⟩))))⟩)
  ·obtain ⟨b5,ga,gk,gc,rfl,rfl,rfl,rfl,rfl,rfl,HH⟩:=hI
   right
   refine ⟨0,[6],rfl,by kernel_rfl,by simp,fun i hi=>?_⟩
   simp only [List.mem_cons,List.not_mem_nil,or_false] at hi
   subst hi
   refine ⟨_,rfl,fun K' hK=>?_⟩
   obtain ⟨K,ge_b5,at_b5,lng⟩:=HH.out
   have qc0:=at_b5.cell 0
   have qf0:=at_b5.frozen 0
   simp at qc0
   have Z_K:Hid _:=K
   have Z_ge_b5:Hid _:=ge_b5
   have Z_at_b5:Hid _:=at_b5
   have Z_lng:Hid _:=lng
   clear lng at_b5 ge_b5 K
   go_simp
   have K:=Z_K.out
   have ge_b5:=Z_ge_b5.out
   have at_b5:=Z_at_b5.out
   have lng:=Z_lng.out
   refine hK.out _ _ (fun _ h=>absurd rfl h) (⟨_,_,_,_,rfl,.inr (.inr (.inr (.inr (⟨b5,ga,gk,gc,rfl,rfl,rfl,rfl,rfl,rfl,Below.setCell K (by simpa using ge_b5) _,ge_b5,Cl.set at_b5 0 _,LN.set lng at_b5 _⟩))))⟩)
  ·obtain ⟨b5,ga,gk,gc,rfl,rfl,rfl,rfl,rfl,rfl,HH⟩:=hI
   left
   refine ⟨by kernel_rfl,?_⟩
   clear hHeld0
   dsimp only
   obtain ⟨K,ge_b5,at_b5,lng⟩:=HH.out
   obtain ⟨W1,rfl⟩:∃ W1,W1 = w1:=⟨_,rfl⟩
   have HA1:Hid (Below W0.heap.size W0 W1):=K
   have HG1:Hid (Cl b5 [.slice ga gk gc] 64 W1∧LN W1 (.slice ga gk gc) g):=⟨at_b5,lng⟩
   have HG1W1:Hid (Cl b5 [.slice ga gk gc] 64 W1):=at_b5
   clear K ge_b5 at_b5 lng HH
   have HK1:Hid (∀ W,Below W1.heap.size W1 W→(W.cell? ⟨w.heap.size,0,none⟩ = some (.slice aa ak ac)∧W.cell? ⟨w.heap.size,1,none⟩ = some (.bool zx))∧W.cell? ⟨b5,0,none⟩ = some (.slice ga gk gc)):=fun W kk=>by
    have d1:=(H0.out.1.below HA1.out).below kk
    have d2:=HG1W1.out.below kk
    have a1:=d1.cell 0
    have a2:=d1.cell 1
    have a3:=d2.cell 0
    simp at a1 a2 a3
    exact ⟨⟨a1,a2⟩,a3⟩
   go_wp2
   refine wp_region_G (fun W=>(W.cell? ⟨w.heap.size,0,none⟩ = some (.slice aa ak ac)∧W.cell? ⟨w.heap.size,1,none⟩ = some (.bool zx))∧W.cell? ⟨b5,0,none⟩ = some (.slice ga gk gc)) 10 (by kernel_rfl) (HK1.out _ (Below.refl _ _).drew) (fun hHeld=>?_)
   refine wpAnyG_take (i:=0) (v:=?v0x3) rfl (by kernel_rfl) (fun _ _ _ h=>h) (Or.inl ⟨by rfl,?y0x3⟩) hHeld ?r0x3
   case y0x3=>(intro wS hSw; obtain ⟨⟨s1,s2⟩,s3⟩:=hSw; go_simp; try with_reducible rfl)
   simp only [Act.put,List.getElem_toArray,List.getElem_cons_zero,List.getElem_cons_succ,List.setIfInBounds_toArray,List.set_cons_zero,List.set_cons_succ]
   refine wpAnyG_take (i:=2) (v:=?v2x4) rfl (by kernel_rfl) (fun _ _ _ h=>h) (Or.inl ⟨by rfl,?y2x4⟩) hHeld ?r2x4
   case y2x4=>(intro wS hSw; obtain ⟨⟨s1,s2⟩,s3⟩:=hSw; go_simp; try with_reducible rfl)
   simp only [Act.put,List.getElem_toArray,List.getElem_cons_zero,List.getElem_cons_succ,List.setIfInBounds_toArray,List.set_cons_zero,List.set_cons_succ]
   have hHeld0:=hHeld
   clear hHeld
   refine wpAnyG_inv (fun n l a w1=>∃ x6 x7 x16 x18 x20 x21 x22:Value,a = { tmps:=#[.agg #[.slice aa ak ac,.bool zx],.agg #[.slice ba bk bc,.bool false],.pointer (some ⟨w.heap.size,0,none⟩),.pointer (some ⟨w.heap.size + 1,0,none⟩),.string { data:=#[] },.pointer (some ⟨b5,0,none⟩),x6,x7,undef,undef,undef,.agg #[.slice aa ak ac,.bool zx],.agg #[.slice aa ak ac],.agg #[.slice ba bk bc,.bool false],.agg #[.slice ba bk bc],.agg #[.slice ga gk gc],x16,.agg #[.slice aa ak ac,.bool zx],x18,.agg #[.slice ga gk gc],x20,x21,x22,undef,undef,undef,undef,undef,undef,undef,undef,undef,undef,undef,undef,undef,undef,undef,undef,undef,undef,undef,undef,undef,undef,undef,undef],defers:=[] }∧(((((n = 9∧l = #[true,false,true,false,false,false,false,false,false,false,false]∧x6 = undef∧x7 = undef∧x16 = undef∧x18 = undef∧x20 = undef∧x21 = undef∧x22 = undef∧Hid (Below W1.heap.size W1 w1))∨((n = 8∧l = #[true,true,true,false,false,false,false,false,false,false,false]∧x6 = undef∧x7 = undef∧x16 = undef∧x18 = .agg #[.slice aa ak ac]∧x20 = undef∧x21 = undef∧x22 = undef∧Hid (Below W1.heap.size W1 w1))∨(∃ b6:Nat,n = 8∧l = #[true,false,true,false,false,false,false,true,false,false,false]∧x6 = .pointer (some ⟨b6,0,none⟩)∧x7 = undef∧x16 = undef∧x18 = undef∧x20 = undef∧x21 = undef∧x22 = undef∧Hid (Below W1.heap.size W1 w1∧W1.heap.size≤b6∧Cl b6 [.slice none 0 0] 64 w1))))∨(((∃ b7:Nat,n = 8∧l = #[true,false,true,false,false,false,false,false,true,false,false]∧x6 = undef∧x7 = .pointer (some ⟨b7,0,none⟩)∧x16 = undef∧x18 = undef∧x20 = undef∧x21 = undef∧x22 = undef∧Hid (Below W1.heap.size W1 w1∧W1.heap.size≤b7∧Cl b7 [.slice none 0 0] 64 w1))∨(∃ qa:Option Addr,∃ qk:Nat,∃ qc:Nat,∃ ea:Option Addr,∃ ek:Nat,∃ ec:Nat,n = 7∧l = #[true,true,true,true,false,false,false,false,false,false,false]∧x6 = undef∧x7 = undef∧x16 = undef∧x18 = .agg #[.slice aa ak ac]∧x20 = .tuple #[.agg #[.slice qa qk qc],.agg #[.slice ea ek ec]]∧x21 = undef∧x22 = undef∧Hid (Below W1.heap.size W1 w1∧LN w1 (.slice qa qk qc) P)))∨((∃ b6:Nat,n = 7∧l = #[true,true,true,false,false,false,false,true,false,false,false]∧x6 = .pointer (some ⟨b6,0,none⟩)∧x7 = undef∧x16 = undef∧x18 = .agg #[.slice aa ak ac]∧x20 = undef∧x21 = undef∧x22 = undef∧Hid (Below W1.heap.size W1 w1∧W1.heap.size≤b6∧Cl b6 [.slice none 0 0] 64 w1))∨(∃ b7:Nat,n = 7∧l = #[true,true,true,false,false,false,false,false,true,false,false]∧x6 = undef∧x7 = .pointer (some ⟨b7,0,none⟩)∧x16 = undef∧x18 = .agg #[.slice aa ak ac]∧x20 = undef∧x21 = undef∧x22 = undef∧Hid (Below W1.heap.size W1 w1∧W1.heap.size≤b7∧Cl b7 [.slice none 0 0] 64 w1)))))∨((((∃ b6:Nat,∃ b7:Nat,n = 7∧l = #[true,false,true,false,false,false,false,true,true,false,false]∧x6 = .pointer (some ⟨b6,0,none⟩)∧x7 = .pointer (some ⟨b7,0,none⟩)∧x16 = undef∧x18 = undef∧x20 = undef∧x21 = undef∧x22 = undef∧Hid (Below W1.heap.size W1 w1∧W1.heap.size≤b6∧Cl b6 [.slice none 0 0] 64 w1∧W1.heap.size≤b7∧Cl b7 [.slice none 0 0] 64 w1∧b6 ≠ b7))∨(∃ qa:Option Addr,∃ qk:Nat,∃ qc:Nat,∃ ea:Option Addr,∃ ek:Nat,∃ ec:Nat,n = 6∧l = #[true,true,true,true,true,false,false,false,false,false,false]∧x6 = undef∧x7 = undef∧x16 = .tuple #[.agg #[.slice qa qk qc],.agg #[.slice ea ek ec]]∧x18 = .agg #[.slice aa ak ac]∧x20 = .tuple #[.agg #[.slice qa qk qc],.agg #[.slice ea ek ec]]∧x21 = undef∧x22 = undef∧Hid (Below W1.heap.size W1 w1∧LN w1 (.slice qa qk qc) P)))∨((∃ b6:Nat,∃ qa:Option Addr,∃ qk:Nat,∃ qc:Nat,∃ ea:Option Addr,∃ ek:Nat,∃ ec:Nat,n = 6∧l = #[true,true,true,true,false,false,false,true,false,false,false]∧x6 = .pointer (some ⟨b6,0,none⟩)∧x7 = undef∧x16 = undef∧x18 = .agg #[.slice aa ak ac]∧x20 = .tuple #[.agg #[.slice qa qk qc],.agg #[.slice ea ek ec]]∧x21 = undef∧x22 = undef∧Hid (Below W1.heap.size W1 w1∧W1.heap.size≤b6∧Cl b6 [.slice none 0 0] 64 w1∧LN w1 (.slice qa qk qc) P))∨(∃ b7:Nat,∃ qa:Option Addr,∃ qk:Nat,∃ qc:Nat,∃ ea:Option Addr,∃ ek:Nat,∃ ec:Nat,n = 6∧l = #[true,true,true,true,false,false,false,false,true,false,false]∧x6 = undef∧x7 = .pointer (some ⟨b7,0,none⟩)∧x16 = undef∧x18 = .agg #[.slice aa ak ac]∧x20 = .tuple #[.agg #[.slice qa qk qc],.agg #[.slice ea ek ec]]∧x21 = undef∧x22 = undef∧Hid (Below W1.heap.size W1 w1∧W1.heap.size≤b7∧Cl b7 [.slice none 0 0] 64 w1∧LN w1 (.slice qa qk qc) P))))∨(((∃ b6:Nat,∃ b7:Nat,n = 6∧l = #[true,true,true,false,false,false,false,true,true,false,false]∧x6 = .pointer (some ⟨b6,0,none⟩)∧x7 = .pointer (some ⟨b7,0,none⟩)∧x16 = undef∧x18 = .agg #[.slice aa ak ac]∧x20 = undef∧x21 = undef∧x22 = undef∧Hid (Below W1.heap.size W1 w1∧W1.heap.size≤b6∧Cl b6 [.slice none 0 0] 64 w1∧W1.heap.size≤b7∧Cl b7 [.slice none 0 0] 64 w1∧b6 ≠ b7))∨(∃ qa:Option Addr,∃ qk:Nat,∃ qc:Nat,∃ ea:Option Addr,∃ ek:Nat,∃ ec:Nat,n = 5∧l = #[true,true,true,true,true,true,false,false,false,false,false]∧x6 = undef∧x7 = undef∧x16 = .tuple #[.agg #[.slice qa qk qc],.agg #[.slice ea ek ec]]∧x18 = .agg #[.slice aa ak ac]∧x20 = .tuple #[.agg #[.slice qa qk qc],.agg #[.slice ea ek ec]]∧x21 = .agg #[.slice qa qk qc]∧x22 = undef∧Hid (Below W1.heap.size W1 w1∧LN w1 (.slice qa qk qc) P)))∨((∃ qa:Option Addr,∃ qk:Nat,∃ qc:Nat,∃ ea:Option Addr,∃ ek:Nat,∃ ec:Nat,n = 5∧l = #[true,true,true,true,true,false,true,false,false,false,false]∧x6 = undef∧x7 = undef∧x16 = .tuple #[.agg #[.slice qa qk qc],.agg #[.slice ea ek ec]]∧x18 = .agg #[.slice aa ak ac]∧x20 = .tuple #[.agg #[.slice qa qk qc],.agg #[.slice ea ek ec]]∧x21 = undef∧x22 = .agg #[.slice ea ek ec]∧Hid (Below W1.heap.size W1 w1∧LN w1 (.slice qa qk qc) P))∨(∃ b6:Nat,∃ qa:Option Addr,∃ qk:Nat,∃ qc:Nat,∃ ea:Option Addr,∃ ek:Nat,∃ ec:Nat,n = 5∧l = #[true,true,true,true,true,false,false,true,false,false,false]∧x6 = .pointer (some ⟨b6,0,none⟩)∧x7 = undef∧x16 = .tuple #[.agg #[.slice qa qk qc],.agg #[.slice ea ek ec]]∧x18 = .agg #[.slice aa ak ac]∧x20 = .tuple #[.agg #[.slice qa qk qc],.agg #[.slice ea ek ec]]∧x21 = undef∧x22 = undef∧Hid (Below W1.heap.size W1 w1∧W1.heap.size≤b6∧Cl b6 [.slice none 0 0] 64 w1∧LN w1 (.slice qa qk qc) P))))))∨(((((∃ b7:Nat,∃ qa:Option Addr,∃ qk:Nat,∃ qc:Nat,∃ ea:Option Addr,∃ ek:Nat,∃ ec:Nat,n = 5∧l = #[true,true,true,true,true,false,false,false,true,false,false]∧x6 = undef∧x7 = .pointer (some ⟨b7,0,none⟩)∧x16 = .tuple #[.agg #[.slice qa qk qc],.agg #[.slice ea ek ec]]∧x18 = .agg #[.slice aa ak ac]∧x20 = .tuple #[.agg #[.slice qa qk qc],.agg #[.slice ea ek ec]]∧x21 = undef∧x22 = undef∧Hid (Below W1.heap.size W1 w1∧W1.heap.size≤b7∧Cl b7 [.slice none 0 0] 64 w1∧LN w1 (.slice qa qk qc) P))∨(∃ b6:Nat,∃ b7:Nat,∃ qa:Option Addr,∃ qk:Nat,∃ qc:Nat,∃ ea:Option Addr,∃ ek:Nat,∃ ec:Nat,n = 5∧l = #[true,true,true,true,false,false,false,true,true,false,false]∧x6 = .pointer (some ⟨b6,0,none⟩)∧x7 = .pointer (some ⟨b7,0,none⟩)∧x16 = undef∧x18 = .agg #[.slice aa ak ac]∧x20 = .tuple #[.agg #[.slice qa qk qc],.agg #[.slice ea ek ec]]∧x21 = undef∧x22 = undef∧Hid (Below W1.heap.size W1 w1∧W1.heap.size≤b6∧Cl b6 [.slice none 0 0] 64 w1∧W1.heap.size≤b7∧Cl b7 [.slice none 0 0] 64 w1∧b6 ≠ b7∧LN w1 (.slice qa qk qc) P)))∨((∃ qa:Option Addr,∃ qk:Nat,∃ qc:Nat,∃ ea:Option Addr,∃ ek:Nat,∃ ec:Nat,n = 4∧l = #[true,true,true,true,true,true,true,false,false,false,false]∧x6 = undef∧x7 = undef∧x16 = .tuple #[.agg #[.slice qa qk qc],.agg #[.slice ea ek ec]]∧x18 = .agg #[.slice aa ak ac]∧x20 = .tuple #[.agg #[.slice qa qk qc],.agg #[.slice ea ek ec]]∧x21 = .agg #[.slice qa qk qc]∧x22 = .agg #[.slice ea ek ec]∧Hid (Below W1.heap.size W1 w1∧LN w1 (.slice qa qk qc) P))∨(∃ b6:Nat,∃ qa:Option Addr,∃ qk:Nat,∃ qc:Nat,∃ ea:Option Addr,∃ ek:Nat,∃ ec:Nat,n = 4∧l = #[true,true,true,true,true,true,false,true,false,false,false]∧x6 = .pointer (some ⟨b6,0,none⟩)∧x7 = undef∧x16 = .tuple #[.agg #[.slice qa qk qc],.agg #[.slice ea ek ec]]∧x18 = .agg #[.slice aa ak ac]∧x20 = .tuple #[.agg #[.slice qa qk qc],.agg #[.slice ea ek ec]]∧x21 = .agg #[.slice qa qk qc]∧x22 = undef∧Hid (Below W1.heap.size W1 w1∧W1.heap.size≤b6∧Cl b6 [.slice none 0 0] 64 w1∧LN w1 (.slice qa qk qc) P))))∨(((∃ b7:Nat,∃ qa:Option Addr,∃ qk:Nat,∃ qc:Nat,∃ ea:Option Addr,∃ ek:Nat,∃ ec:Nat,n = 4∧l = #[true,true,true,true,true,true,false,false,true,false,false]∧x6 = undef∧x7 = .pointer (some ⟨b7,0,none⟩)∧x16 = .tuple #[.agg #[.slice qa qk qc],.agg #[.slice ea ek ec]]∧x18 = .agg #[.slice aa ak ac]∧x20 = .tuple #[.agg #[.slice qa qk qc],.agg #[.slice ea ek ec]]∧x21 = .agg #[.slice qa qk qc]∧x22 = undef∧Hid (Below W1.heap.size W1 w1∧W1.heap.size≤b7∧Cl b7 [.slice none 0 0] 64 w1∧LN w1 (.slice qa qk qc) P))∨(∃ b6:Nat,∃ qa:Option Addr,∃ qk:Nat,∃ qc:Nat,∃ ea:Option Addr,∃ ek:Nat,∃ ec:Nat,n = 4∧l = #[true,true,true,true,true,false,true,true,false,false,false]∧x6 = .pointer (some ⟨b6,0,none⟩)∧x7 = undef∧x16 = .tuple #[.agg #[.slice qa qk qc],.agg #[.slice ea ek ec]]∧x18 = .agg #[.slice aa ak ac]∧x20 = .tuple #[.agg #[.slice qa qk qc],.agg #[.slice ea ek ec]]∧x21 = undef∧x22 = .agg #[.slice ea ek ec]∧Hid (Below W1.heap.size W1 w1∧W1.heap.size≤b6∧Cl b6 [.slice none 0 0] 64 w1∧LN w1 (.slice qa qk qc) P)))∨((∃ b7:Nat,∃ qa:Option Addr,∃ qk:Nat,∃ qc:Nat,∃ ea:Option Addr,∃ ek:Nat,∃ ec:Nat,n = 4∧l = #[true,true,true,true,true,false,true,false,true,false,false]∧x6 = undef∧x7 = .pointer (some ⟨b7,0,none⟩)∧x16 = .tuple #[.agg #[.slice qa qk qc],.agg #[.slice ea ek ec]]∧x18 = .agg #[.slice aa ak ac]∧x20 = .tuple #[.agg #[.slice qa qk qc],.agg #[.slice ea ek ec]]∧x21 = undef∧x22 = .agg #[.slice ea ek ec]∧Hid (Below W1.heap.size W1 w1∧W1.heap.size≤b7∧Cl b7 [.slice none 0 0] 64 w1∧LN w1 (.slice qa qk qc) P))∨(∃ b6:Nat,∃ b7:Nat,∃ qa:Option Addr,∃ qk:Nat,∃ qc:Nat,∃ ea:Option Addr,∃ ek:Nat,∃ ec:Nat,n = 4∧l = #[true,true,true,true,true,false,false,true,true,false,false]∧x6 = .pointer (some ⟨b6,0,none⟩)∧x7 = .pointer (some ⟨b7,0,none⟩)∧x16 = .tuple #[.agg #[.slice qa qk qc],.agg #[.slice ea ek ec]]∧x18 = .agg #[.slice aa ak ac]∧x20 = .tuple #[.agg #[.slice qa qk qc],.agg #[.slice ea ek ec]]∧x21 = undef∧x22 = undef∧Hid (Below W1.heap.size W1 w1∧W1.heap.size≤b6∧Cl b6 [.slice none 0 0] 64 w1∧W1.heap.size≤b7∧Cl b7 [.slice none 0 0] 64 w1∧b6 ≠ b7∧LN w1 (.slice qa qk qc) P)))))∨((((∃ b6:Nat,∃ qa:Option Addr,∃ qk:Nat,∃ qc:Nat,∃ ea:Option Addr,∃ ek:Nat,∃ ec:Nat,n = 3∧l = #[true,true,true,true,true,true,true,true,false,false,false]∧x6 = .pointer (some ⟨b6,0,none⟩)∧x7 = undef∧x16 = .tuple #[.agg #[.slice qa qk qc],.agg #[.slice ea ek ec]]∧x18 = .agg #[.slice aa ak ac]∧x20 = .tuple #[.agg #[.slice qa qk qc],.agg #[.slice ea ek ec]]∧x21 = .agg #[.slice qa qk qc]∧x22 = .agg #[.slice ea ek ec]∧Hid (Below W1.heap.size W1 w1∧W1.heap.size≤b6∧Cl b6 [.slice none 0 0] 64 w1∧LN w1 (.slice qa qk qc) P))∨(∃ b7:Nat,∃ qa:Option Addr,∃ qk:Nat,∃ qc:Nat,∃ ea:Option Addr,∃ ek:Nat,∃ ec:Nat,n = 3∧l = #[true,true,true,true,true,true,true,false,true,false,false]∧x6 = undef∧x7 = .pointer (some ⟨b7,0,none⟩)∧x16 = .tuple #[.agg #[.slice qa qk qc],.agg #[.slice ea ek ec]]∧x18 = .agg #[.slice aa ak ac]∧x20 = .tuple #[.agg #[.slice qa qk qc],.agg #[.slice ea ek ec]]∧x21 = .agg #[.slice qa qk qc]∧x22 = .agg #[.slice ea ek ec]∧Hid (Below W1.heap.size W1 w1∧W1.heap.size≤b7∧Cl b7 [.slice none 0 0] 64 w1∧LN w1 (.slice qa qk qc) P)))∨((∃ b6:Nat,∃ b7:Nat,∃ qa:Option Addr,∃ qk:Nat,∃ qc:Nat,∃ ea:Option Addr,∃ ek:Nat,∃ ec:Nat,n = 3∧l = #[true,true,true,true,true,true,false,true,true,false,false]∧x6 = .pointer (some ⟨b6,0,none⟩)∧x7 = .pointer (some ⟨b7,0,none⟩)∧x16 = .tuple #[.agg #[.slice qa qk qc],.agg #[.slice ea ek ec]]∧x18 = .agg #[.slice aa ak ac]∧x20 = .tuple #[.agg #[.slice qa qk qc],.agg #[.slice ea ek ec]]∧x21 = .agg #[.slice qa qk qc]∧x22 = undef∧Hid (Below W1.heap.size W1 w1∧W1.heap.size≤b6∧Cl b6 [.slice none 0 0] 64 w1∧W1.heap.size≤b7∧Cl b7 [.slice none 0 0] 64 w1∧b6 ≠ b7∧LN w1 (.slice qa qk qc) P))∨(∃ b6:Nat,∃ b7:Nat,∃ qa:Option Addr,∃ qk:Nat,∃ qc:Nat,∃ ea:Option Addr,∃ ek:Nat,∃ ec:Nat,n = 3∧l = #[true,true,true,true,true,false,true,true,true,false,false]∧x6 = .pointer (some ⟨b6,0,none⟩)∧x7 = .pointer (some ⟨b7,0,none⟩)∧x16 = .tuple #[.agg #[.slice qa qk qc],.agg #[.slice ea ek ec]]∧x18 = .agg #[.slice aa ak ac]∧x20 = .tuple #[.agg #[.slice qa qk qc],.agg #[.slice ea ek ec]]∧x21 = undef∧x22 = .agg #[.slice ea ek ec]∧Hid (Below W1.heap.size W1 w1∧W1.heap.size≤b6∧Cl b6 [.slice none 0 0] 64 w1∧W1.heap.size≤b7∧Cl b7 [.slice none 0 0] 64 w1∧b6 ≠ b7∧LN w1 (.slice qa qk qc) P))))∨(((∃ b6:Nat,∃ b7:Nat,∃ qa:Option Addr,∃ qk:Nat,∃ qc:Nat,∃ ea:Option Addr,∃ ek:Nat,∃ ec:Nat,n = 2∧l = #[true,true,true,true,true,true,true,true,true,false,false]∧x6 = .pointer (some ⟨b6,0,none⟩)∧x7 = .pointer (some ⟨b7,0,none⟩)∧x16 = .tuple #[.agg #[.slice qa qk qc],.agg #[.slice ea ek ec]]∧x18 = .agg #[.slice aa ak ac]∧x20 = .tuple #[.agg #[.slice qa qk qc],.agg #[.slice ea ek ec]]∧x21 = .agg #[.slice qa qk qc]∧x22 = .agg #[.slice ea ek ec]∧Hid (Below W1.heap.size W1 w1∧W1.heap.size≤b6∧Cl b6 [.slice none 0 0] 64 w1∧W1.heap.size≤b7∧Cl b7 [.slice none 0 0] 64 w1∧b6 ≠ b7∧LN w1 (.slice qa qk qc) P))∨(∃ b6:Nat,∃ b7:Nat,∃ qa:Option Addr,∃ qk:Nat,∃ qc:Nat,∃ ea:Option Addr,∃ ek:Nat,∃ ec:Nat,n = 2∧l = #[true,true,true,true,true,true,false,true,true,true,false]∧x6 = .pointer (some ⟨b6,0,none⟩)∧x7 = .pointer (some ⟨b7,0,none⟩)∧x16 = .tuple #[.agg #[.slice qa qk qc],.agg #[.slice ea ek ec]]∧x18 = .agg #[.slice aa ak ac]∧x20 = .tuple #[.agg #[.slice qa qk qc],.agg #[.slice ea ek ec]]∧x21 = .agg #[.slice qa qk qc]∧x22 = undef∧Hid (Below W1.heap.size W1 w1∧W1.heap.size≤b6∧Cl b6 [.slice qa qk qc] 64 w1∧W1.heap.size≤b7∧Cl b7 [.slice none 0 0] 64 w1∧b6 ≠ b7∧LN w1 (.slice qa qk qc) P)))∨((∃ b6:Nat,∃ b7:Nat,∃ qa:Option Addr,∃ qk:Nat,∃ qc:Nat,∃ ea:Option Addr,∃ ek:Nat,∃ ec:Nat,n = 1∧l = #[true,true,true,true,true,true,true,true,true,true,false]∧x6 = .pointer (some ⟨b6,0,none⟩)∧x7 = .pointer (some ⟨b7,0,none⟩)∧x16 = .tuple #[.agg #[.slice qa qk qc],.agg #[.slice ea ek ec]]∧x18 = .agg #[.slice aa ak ac]∧x20 = .tuple #[.agg #[.slice qa qk qc],.agg #[.slice ea ek ec]]∧x21 = .agg #[.slice qa qk qc]∧x22 = .agg #[.slice ea ek ec]∧Hid (Below W1.heap.size W1 w1∧W1.heap.size≤b6∧Cl b6 [.slice qa qk qc] 64 w1∧W1.heap.size≤b7∧Cl b7 [.slice none 0 0] 64 w1∧b6 ≠ b7∧LN w1 (.slice qa qk qc) P))∨(∃ b6:Nat,∃ b7:Nat,∃ qa:Option Addr,∃ qk:Nat,∃ qc:Nat,∃ ea:Option Addr,∃ ek:Nat,∃ ec:Nat,n = 0∧l = #[true,true,true,true,true,true,true,true,true,true,true]∧x6 = .pointer (some ⟨b6,0,none⟩)∧x7 = .pointer (some ⟨b7,0,none⟩)∧x16 = .tuple #[.agg #[.slice qa qk qc],.agg #[.slice ea ek ec]]∧x18 = .agg #[.slice aa ak ac]∧x20 = .tuple #[.agg #[.slice qa qk qc],.agg #[.slice ea ek ec]]∧x21 = .agg #[.slice qa qk qc]∧x22 = .agg #[.slice ea ek ec]∧Hid (Below W1.heap.size W1 w1∧W1.heap.size≤b6∧Cl b6 [.slice qa qk qc] 64 w1∧W1.heap.size≤b7∧Cl b7 [.slice ea ek ec] 64 w1∧b6 ≠ b7∧LN w1 (.slice qa qk qc) P)))))))) ?steps _ _ _ _ ?start
   case start=>exact ⟨_,_,_,_,_,_,_,rfl,.inl (.inl (.inl (.inl (⟨rfl,rfl,rfl,rfl,rfl,rfl,rfl,rfl,rfl,(Below.refl _ _).drew⟩))))⟩
   case steps =>
    intro n l a w1 hI
    obtain ⟨x6,x7,x16,x18,x20,x21,x22,rfl,hI⟩:=hI
    rcases hI with ((((hI | (hI | hI)) | ((hI | hI) | (hI | hI))) | (((hI | hI) | (hI | hI)) | ((hI | hI) | (hI | hI)))) | ((((hI | hI) | (hI | hI)) | ((hI | hI) | (hI | hI))) | (((hI | hI) | (hI | hI)) | ((hI | hI) | (hI | hI)))))
    ·obtain ⟨rfl,rfl,rfl,rfl,rfl,rfl,rfl,rfl,rfl,HH⟩:=hI
     right
     refine ⟨8,[1,7,8],rfl,by kernel_rfl,by simp,fun i hi=>?_⟩
     simp only [List.mem_cons,List.not_mem_nil,or_false] at hi
     rcases hi with rfl | rfl | rfl
     ·refine ⟨_,rfl,fun K' hK=>?_⟩
      go_simp
      have K:=HH.out
      have zl:=K.size
      refine (HS1.out w1 (HA1.out.trans (K.mono HA1.out.size))).mono ?_
      rintro e w2 ⟨rfl,kk⟩
      refine hK.out _ _ (fun _ _=>HK1.out _ (K.trans (kk.mono zl))) (⟨_,_,_,_,_,_,_,rfl,.inl (.inl (.inl (.inr (.inl (⟨rfl,rfl,rfl,rfl,rfl,rfl,rfl,rfl,rfl,K.trans (kk.mono zl)⟩)))))⟩)
     ·refine ⟨_,rfl,fun K' hK=>?_⟩
      go_simp
      have K:=HH.out
      have zl:=K.size
      refine hK.out _ _ (fun _ _=>HK1.out _ (K.alloc zl _)) (⟨_,_,_,_,_,_,_,rfl,.inl (.inl (.inl (.inr (.inr (⟨w1.heap.size,rfl,rfl,rfl,rfl,rfl,rfl,rfl,rfl,rfl,K.alloc zl _,zl,Cl.new _ _ w1⟩)))))⟩)
     ·refine ⟨_,rfl,fun K' hK=>?_⟩
      go_simp
      have K:=HH.out
      have zl:=K.size
      refine hK.out _ _ (fun _ _=>HK1.out _ (K.alloc zl _)) (⟨_,_,_,_,_,_,_,rfl,.inl (.inl (.inr (.inl (.inl (⟨w1.heap.size,rfl,rfl,rfl,rfl,rfl,rfl,rfl,rfl,rfl,K.alloc zl _,zl,Cl.new _ _ w1⟩)))))⟩)
    ·obtain ⟨rfl,rfl,rfl,rfl,rfl,rfl,rfl,rfl,rfl,HH⟩:=hI
     right
     refine ⟨7,[3,7,8],rfl,by kernel_rfl,by simp,fun i hi=>?_⟩
     simp only [List.mem_cons,List.not_mem_nil,or_false] at hi
     rcases hi with rfl | rfl | rfl
     ·refine ⟨_,rfl,fun K' hK=>?_⟩
      go_simp
      have K:=HH.out
      have zl:=K.size
      refine (HDx.out w1 _ _ (H0.out.2.2.1.below (HA1.out.trans (K.mono HA1.out.size))) (HG1.out.2.below (K))).mono ?_
      rintro e w2 ⟨qa,qk,qc,ea,ek,ec,rfl,lnq,kk⟩
      refine hK.out _ _ (fun _ _=>HK1.out _ (K.trans (kk.mono zl))) (⟨_,_,_,_,_,_,_,rfl,.inl (.inl (.inr (.inl (.inr (⟨qa,qk,qc,ea,ek,ec,rfl,rfl,rfl,rfl,rfl,rfl,rfl,rfl,rfl,K.trans (kk.mono zl),lnq⟩)))))⟩)
     ·refine ⟨_,rfl,fun K' hK=>?_⟩
      go_simp
      have K:=HH.out
      have zl:=K.size
      refine hK.out _ _ (fun _ _=>HK1.out _ (K.alloc zl _)) (⟨_,_,_,_,_,_,_,rfl,.inl (.inl (.inr (.inr (.inl (⟨w1.heap.size,rfl,rfl,rfl,rfl,rfl,rfl,rfl,rfl,rfl,K.alloc zl _,zl,Cl.new _ _ w1⟩)))))⟩)
     ·refine ⟨_,rfl,fun K' hK=>?_⟩
      go_simp
      have K:=HH.out
      have zl:=K.size
      refine hK.out _ _ (fun _ _=>HK1.out _ (K.alloc zl _)) (⟨_,_,_,_,_,_,_,rfl,.inl (.inl (.inr (.inr (.inr (⟨w1.heap.size,rfl,rfl,rfl,rfl,rfl,rfl,rfl,rfl,rfl,K.alloc zl _,zl,Cl.new _ _ w1⟩)))))⟩)
    ·obtain ⟨b6,rfl,rfl,rfl,rfl,rfl,rfl,rfl,rfl,rfl,HH⟩:=hI
     right
     refine ⟨7,[1,8],rfl,by kernel_rfl,by simp,fun i hi=>?_⟩
     simp only [List.mem_cons,List.not_mem_nil,or_false] at hi
     rcases hi with rfl | rfl
     ·refine ⟨_,rfl,fun K' hK=>?_⟩
      go_simp
      obtain ⟨K,ge_b6,at_b6⟩:=HH.out
      have zl:=K.size
      refine (HS1.out w1 (HA1.out.trans (K.mono HA1.out.size))).mono ?_
      rintro e w2 ⟨rfl,kk⟩
      refine hK.out _ _ (fun _ _=>HK1.out _ (K.trans (kk.mono zl))) (⟨_,_,_,_,_,_,_,rfl,.inl (.inl (.inr (.inr (.inl (⟨b6,rfl,rfl,rfl,rfl,rfl,rfl,rfl,rfl,rfl,K.trans (kk.mono zl),ge_b6,at_b6.below kk⟩)))))⟩)
     ·refine ⟨_,rfl,fun K' hK=>?_⟩
      go_simp
      obtain ⟨K,ge_b6,at_b6⟩:=HH.out
      have zl:=K.size
      refine hK.out _ _ (fun _ _=>HK1.out _ (K.alloc zl _)) (⟨_,_,_,_,_,_,_,rfl,.inl (.inr (.inl (.inl (.inl (⟨b6,w1.heap.size,rfl,rfl,rfl,rfl,rfl,rfl,rfl,rfl,rfl,K.alloc zl _,ge_b6,at_b6.alloc _,zl,Cl.new _ _ w1,(Nat.ne_of_lt at_b6.lt)⟩)))))⟩)
    ·obtain ⟨b7,rfl,rfl,rfl,rfl,rfl,rfl,rfl,rfl,rfl,HH⟩:=hI
     right
     refine ⟨7,[1,7],rfl,by kernel_rfl,by simp,fun i hi=>?_⟩
     simp only [List.mem_cons,List.not_mem_nil,or_false] at hi
     rcases hi with rfl | rfl
     ·refine ⟨_,rfl,fun K' hK=>?_⟩
      go_simp
      obtain ⟨K,ge_b7,at_b7⟩:=HH.out
      have zl:=K.size
      refine (HS1.out w1 (HA1.out.trans (K.mono HA1.out.size))).mono ?_
      rintro e w2 ⟨rfl,kk⟩
      refine hK.out _ _ (fun _ _=>HK1.out _ (K.trans (kk.mono zl))) (⟨_,_,_,_,_,_,_,rfl,.inl (.inl (.inr (.inr (.inr (⟨b7,rfl,rfl,rfl,rfl,rfl,rfl,rfl,rfl,rfl,K.trans (kk.mono zl),ge_b7,at_b7.below kk⟩)))))⟩)
     ·refine ⟨_,rfl,fun K' hK=>?_⟩
      go_simp
      obtain ⟨K,ge_b7,at_b7⟩:=HH.out
      have zl:=K.size
      refine hK.out _ _ (fun _ _=>HK1.out _ (K.alloc zl _)) (⟨_,_,_,_,_,_,_,rfl,.inl (.inr (.inl (.inl (.inl (⟨w1.heap.size,b7,rfl,rfl,rfl,rfl,rfl,rfl,rfl,rfl,rfl,K.alloc zl _,zl,Cl.new _ _ w1,ge_b7,at_b7.alloc _,(Nat.ne_of_gt at_b7.lt)⟩)))))⟩)
    ·obtain ⟨qa,qk,qc,ea,ek,ec,rfl,rfl,rfl,rfl,rfl,rfl,rfl,rfl,rfl,HH⟩:=hI
     right
     refine ⟨6,[4,7,8],rfl,by kernel_rfl,by simp,fun i hi=>?_⟩
     simp only [List.mem_cons,List.not_mem_nil,or_false] at hi
     rcases hi with rfl | rfl | rfl
     ·refine ⟨_,rfl,fun K' hK=>?_⟩
      go_simp
      obtain ⟨K,lnq⟩:=HH.out
      refine hK.out _ _ (fun _ _=>HK1.out _ K) (⟨_,_,_,_,_,_,_,rfl,.inl (.inr (.inl (.inl (.inr (⟨qa,qk,qc,ea,ek,ec,rfl,rfl,rfl,rfl,rfl,rfl,rfl,rfl,rfl,K,lnq⟩)))))⟩)
     ·refine ⟨_,rfl,fun K' hK=>?_⟩
      go_simp
      obtain ⟨K,lnq⟩:=HH.out
      have zl:=K.size
      refine hK.out _ _ (fun _ _=>HK1.out _ (K.alloc zl _)) (⟨_,_,_,_,_,_,_,rfl,.inl (.inr (.inl (.inr (.inl (⟨w1.heap.size,qa,qk,qc,ea,ek,ec,rfl,rfl,rfl,rfl,rfl,rfl,rfl,rfl,rfl,K.alloc zl _,zl,Cl.new _ _ w1,lnq.below ((Below.refl _ _).alloc (Nat.le_refl _) _)⟩)))))⟩)
     ·refine ⟨_,rfl,fun K' hK=>?_⟩
      go_simp
      obtain ⟨K,lnq⟩:=HH.out
      have zl:=K.size
      refine hK.out _ _ (fun _ _=>HK1.out _ (K.alloc zl _)) (⟨_,_,_,_,_,_,_,rfl,.inl (.inr (.inl (.inr (.inr (⟨w1.heap.size,qa,qk,qc,ea,ek,ec,rfl,rfl,rfl,rfl,rfl,rfl,rfl,rfl,rfl,K.alloc zl _,zl,Cl.new _ _ w1,lnq.below ((Below.refl _ _).alloc (Nat.le_refl _) _)⟩)))))⟩)
    ·obtain ⟨b6,rfl,rfl,rfl,rfl,rfl,rfl,rfl,rfl,rfl,HH⟩:=hI
     right
     refine ⟨6,[3,8],rfl,by kernel_rfl,by simp,fun i hi=>?_⟩
     simp only [List.mem_cons,List.not_mem_nil,or_false] at hi
     rcases hi with rfl | rfl
     ·refine ⟨_,rfl,fun K' hK=>?_⟩
      go_simp
      obtain ⟨K,ge_b6,at_b6⟩:=HH.out
      have zl:=K.size
      refine (HDx.out w1 _ _ (H0.out.2.2.1.below (HA1.out.trans (K.mono HA1.out.size))) (HG1.out.2.below (K))).mono ?_
      rintro e w2 ⟨qa,qk,qc,ea,ek,ec,rfl,lnq,kk⟩
      refine hK.out _ _ (fun _ _=>HK1.out _ (K.trans (kk.mono zl))) (⟨_,_,_,_,_,_,_,rfl,.inl (.inr (.inl (.inr (.inl (⟨b6,qa,qk,qc,ea,ek,ec,rfl,rfl,rfl,rfl,rfl,rfl,rfl,rfl,rfl,K.trans (kk.mono zl),ge_b6,at_b6.below kk,lnq⟩)))))⟩)
     ·refine ⟨_,rfl,fun K' hK=>?_⟩
      go_simp
      obtain ⟨K,ge_b6,at_b6⟩:=HH.out
      have zl:=K.size
      refine hK.out _ _ (fun _ _=>HK1.out _ (K.alloc zl _)) (⟨_,_,_,_,_,_,_,rfl,.inl (.inr (.inr (.inl (.inl (⟨b6,w1.heap.size,rfl,rfl,rfl,rfl,rfl,rfl,rfl,rfl,rfl,K.alloc zl _,ge_b6,at_b6.alloc _,zl,Cl.new _ _ w1,(Nat.ne_of_lt at_b6.lt)⟩)))))⟩)
    ·obtain ⟨b7,rfl,rfl,rfl,rfl,rfl,rfl,rfl,rfl,rfl,HH⟩:=hI
     right
     refine ⟨6,[3,7],rfl,by kernel_rfl,by simp,fun i hi=>?_⟩
     simp only [List.mem_cons,List.not_mem_nil,or_false] at hi
     rcases hi with rfl | rfl
     ·refine ⟨_,rfl,fun K' hK=>?_⟩
      go_simp
      obtain ⟨K,ge_b7,at_b7⟩:=HH.out
      have zl:=K.size
      refine (HDx.out w1 _ _ (H0.out.2.2.1.below (HA1.out.trans (K.mono HA1.out.size))) (HG1.out.2.below (K))).mono ?_
      rintro e w2 ⟨qa,qk,qc,ea,ek,ec,rfl,lnq,kk⟩
      refine hK.out _ _ (fun _ _=>HK1.out _ (K.trans (kk.mono zl))) (⟨_,_,_,_,_,_,_,rfl,.inl (.inr (.inl (.inr (.inr (⟨b7,qa,qk,qc,ea,ek,ec,rfl,rfl,rfl,rfl,rfl,rfl,rfl,rfl,rfl,K.trans (kk.mono zl),ge_b7,at_b7.below kk,lnq⟩)))))⟩)
     ·refine ⟨_,rfl,fun K' hK=>?_⟩
      go_simp
      obtain ⟨K,ge_b7,at_b7⟩:=HH.out
      have zl:=K.size
      refine hK.out _ _ (fun _ _=>HK1.out _ (K.alloc zl _)) (⟨_,_,_,_,_,_,_,rfl,.inl (.inr (.inr (.inl (.inl (⟨w1.heap.size,b7,rfl,rfl,rfl,rfl,rfl,rfl,rfl,rfl,rfl,K.alloc zl _,zl,Cl.new _ _ w1,ge_b7,at_b7.alloc _,(Nat.ne_of_gt at_b7.lt)⟩)))))⟩)
    ·obtain ⟨b6,b7,rfl,rfl,rfl,rfl,rfl,rfl,rfl,rfl,rfl,HH⟩:=hI
     right
     refine ⟨6,[1],rfl,by kernel_rfl,by simp,fun i hi=>?_⟩
     simp only [List.mem_cons,List.not_mem_nil,or_false] at hi
     subst hi
     refine ⟨_,rfl,fun K' hK=>?_⟩
     go_simp
     obtain ⟨K,ge_b6,at_b6,ge_b7,at_b7,ne_b6_b7⟩:=HH.out
     have zl:=K.size
     refine (HS1.out w1 (HA1.out.trans (K.mono HA1.out.size))).mono ?_
     rintro e w2 ⟨rfl,kk⟩
     refine hK.out _ _ (fun _ _=>HK1.out _ (K.trans (kk.mono zl))) (⟨_,_,_,_,_,_,_,rfl,.inl (.inr (.inr (.inl (.inl (⟨b6,b7,rfl,rfl,rfl,rfl,rfl,rfl,rfl,rfl,rfl,K.trans (kk.mono zl),ge_b6,at_b6.below kk,ge_b7,at_b7.below kk,ne_b6_b7⟩)))))⟩)
    ·obtain ⟨qa,qk,qc,ea,ek,ec,rfl,rfl,rfl,rfl,rfl,rfl,rfl,rfl,rfl,HH⟩:=hI
     right
     refine ⟨5,[5,6,7,8],rfl,by kernel_rfl,by simp,fun i hi=>?_⟩
     simp only [List.mem_cons,List.not_mem_nil,or_false] at hi
     rcases hi with rfl | rfl | rfl | rfl
     ·refine ⟨_,rfl,fun K' hK=>?_⟩
      go_simp
      obtain ⟨K,lnq⟩:=HH.out
      refine hK.out _ _ (fun _ _=>HK1.out _ K) (⟨_,_,_,_,_,_,_,rfl,.inl (.inr (.inr (.inl (.inr (⟨qa,qk,qc,ea,ek,ec,rfl,rfl,rfl,rfl,rfl,rfl,rfl,rfl,rfl,K,lnq⟩)))))⟩)
     ·refine ⟨_,rfl,fun K' hK=>?_⟩
      go_simp
      obtain ⟨K,lnq⟩:=HH.out
      refine hK.out _ _ (fun _ _=>HK1.out _ K) (⟨_,_,_,_,_,_,_,rfl,.inl (.inr (.inr (.inr (.inl (⟨qa,qk,qc,ea,ek,ec,rfl,rfl,rfl,rfl,rfl,rfl,rfl,rfl,rfl,K,lnq⟩)))))⟩)
     ·refine ⟨_,rfl,fun K' hK=>?_⟩
      go_simp
      obtain ⟨K,lnq⟩:=HH.out
      have zl:=K.size
      refine hK.out _ _ (fun _ _=>HK1.out _ (K.alloc zl _)) (⟨_,_,_,_,_,_,_,rfl,.inl (.inr (.inr (.inr (.inr (⟨w1.heap.size,qa,qk,qc,ea,ek,ec,rfl,rfl,rfl,rfl,rfl,rfl,rfl,rfl,rfl,K.alloc zl _,zl,Cl.new _ _ w1,lnq.below ((Below.refl _ _).alloc (Nat.le_refl _) _)⟩)))))⟩)
     ·refine ⟨_,rfl,fun K' hK=>?_⟩
      go_simp
      obtain ⟨K,lnq⟩:=HH.out
      have zl:=K.size
      refine hK.out _ _ (fun _ _=>HK1.out _ (K.alloc zl _)) (⟨_,_,_,_,_,_,_,rfl,.inr (.inl (.inl (.inl (.inl (⟨w1.heap.size,qa,qk,qc,ea,ek,ec,rfl,rfl,rfl,rfl,rfl,rfl,rfl,rfl,rfl,K.alloc zl _,zl,Cl.new _ _ w1,lnq.below ((Below.refl _ _).alloc (Nat.le_refl _) _)⟩)))))⟩)
    ·obtain ⟨b6,qa,qk,qc,ea,ek,ec,rfl,rfl,rfl,rfl,rfl,rfl,rfl,rfl,rfl,HH⟩:=hI
     right
     refine ⟨5,[4,8],rfl,by kernel_rfl,by simp,fun i hi=>?_⟩
     simp only [List.mem_cons,List.not_mem_nil,or_false] at hi
     rcases hi with rfl | rfl
     ·refine ⟨_,rfl,fun K' hK=>?_⟩
      go_simp
      obtain ⟨K,ge_b6,at_b6,lnq⟩:=HH.out
      refine hK.out _ _ (fun _ _=>HK1.out _ K) (⟨_,_,_,_,_,_,_,rfl,.inl (.inr (.inr (.inr (.inr (⟨b6,qa,qk,qc,ea,ek,ec,rfl,rfl,rfl,rfl,rfl,rfl,rfl,rfl,rfl,K,ge_b6,at_b6,lnq⟩)))))⟩)
     ·refine ⟨_,rfl,fun K' hK=>?_⟩
      go_simp
      obtain ⟨K,ge_b6,at_b6,lnq⟩:=HH.out
      have zl:=K.size
      refine hK.out _ _ (fun _ _=>HK1.out _ (K.alloc zl _)) (⟨_,_,_,_,_,_,_,rfl,.inr (.inl (.inl (.inl (.inr (⟨b6,w1.heap.size,qa,qk,qc,ea,ek,ec,rfl,rfl,rfl,rfl,rfl,rfl,rfl,rfl,rfl,K.alloc zl _,ge_b6,at_b6.alloc _,zl,Cl.new _ _ w1,(Nat.ne_of_lt at_b6.lt),lnq.below ((Below.refl _ _).alloc (Nat.le_refl _) _)⟩)))))⟩)
    ·obtain ⟨b7,qa,qk,qc,ea,ek,ec,rfl,rfl,rfl,rfl,rfl,rfl,rfl,rfl,rfl,HH⟩:=hI
     right
     refine ⟨5,[4,7],rfl,by kernel_rfl,by simp,fun i hi=>?_⟩
     simp only [List.mem_cons,List.not_mem_nil,or_false] at hi
     rcases hi with rfl | rfl
     ·refine ⟨_,rfl,fun K' hK=>?_⟩
      go_simp
      obtain ⟨K,ge_b7,at_b7,lnq⟩:=HH.out
      refine hK.out _ _ (fun _ _=>HK1.out _ K) (⟨_,_,_,_,_,_,_,rfl,.inr (.inl (.inl (.inl (.inl (⟨b7,qa,qk,qc,ea,ek,ec,rfl,rfl,rfl,rfl,rfl,rfl,rfl,rfl,rfl,K,ge_b7,at_b7,lnq⟩)))))⟩)
     ·refine ⟨_,rfl,fun K' hK=>?_⟩
      go_simp
      obtain ⟨K,ge_b7,at_b7,lnq⟩:=HH.out
      have zl:=K.size
      refine hK.out _ _ (fun _ _=>HK1.out _ (K.alloc zl _)) (⟨_,_,_,_,_,_,_,rfl,.inr (.inl (.inl (.inl (.inr (⟨w1.heap.size,b7,qa,qk,qc,ea,ek,ec,rfl,rfl,rfl,rfl,rfl,rfl,rfl,rfl,rfl,K.alloc zl _,zl,Cl.new _ _ w1,ge_b7,at_b7.alloc _,(Nat.ne_of_gt at_b7.lt),lnq.below ((Below.refl _ _).alloc (Nat.le_refl _) _)⟩)))))⟩)
    ·obtain ⟨b6,b7,rfl,rfl,rfl,rfl,rfl,rfl,rfl,rfl,rfl,HH⟩:=hI
     right
     refine ⟨5,[3],rfl,by kernel_rfl,by simp,fun i hi=>?_⟩
     simp only [List.mem_cons,List.not_mem_nil,or_false] at hi
     subst hi
     refine ⟨_,rfl,fun K' hK=>?_⟩
     go_simp
     obtain ⟨K,ge_b6,at_b6,ge_b7,at_b7,ne_b6_b7⟩:=HH.out
     have zl:=K.size
     refine (HDx.out w1 _ _ (H0.out.2.2.1.below (HA1.out.trans (K.mono HA1.out.size))) (HG1.out.2.below (K))).mono ?_
     rintro e w2 ⟨qa,qk,qc,ea,ek,ec,rfl,lnq,kk⟩
     refine hK.out _ _ (fun _ _=>HK1.out _ (K.trans (kk.mono zl))) (⟨_,_,_,_,_,_,_,rfl,.inr (.inl (.inl (.inl (.inr (⟨b6,b7,qa,qk,qc,ea,ek,ec,rfl,rfl,rfl,rfl,rfl,rfl,rfl,rfl,rfl,K.trans (kk.mono zl),ge_b6,at_b6.below kk,ge_b7,at_b7.below kk,ne_b6_b7,lnq⟩)))))⟩)
    ·obtain ⟨qa,qk,qc,ea,ek,ec,rfl,rfl,rfl,rfl,rfl,rfl,rfl,rfl,rfl,HH⟩:=hI
     right
     refine ⟨4,[6,7,8],rfl,by kernel_rfl,by simp,fun i hi=>?_⟩
     simp only [List.mem_cons,List.not_mem_nil,or_false] at hi
     rcases hi with rfl | rfl | rfl
     ·refine ⟨_,rfl,fun K' hK=>?_⟩
      go_simp
      obtain ⟨K,lnq⟩:=HH.out
      refine hK.out _ _ (fun _ _=>HK1.out _ K) (⟨_,_,_,_,_,_,_,rfl,.inr (.inl (.inl (.inr (.inl (⟨qa,qk,qc,ea,ek,ec,rfl,rfl,rfl,rfl,rfl,rfl,rfl,rfl,rfl,K,lnq⟩)))))⟩)
     ·refine ⟨_,rfl,fun K' hK=>?_⟩
      go_simp
      obtain ⟨K,lnq⟩:=HH.out
      have zl:=K.size
      refine hK.out _ _ (fun _ _=>HK1.out _ (K.alloc zl _)) (⟨_,_,_,_,_,_,_,rfl,.inr (.inl (.inl (.inr (.inr (⟨w1.heap.size,qa,qk,qc,ea,ek,ec,rfl,rfl,rfl,rfl,rfl,rfl,rfl,rfl,rfl,K.alloc zl _,zl,Cl.new _ _ w1,lnq.below ((Below.refl _ _).alloc (Nat.le_refl _) _)⟩)))))⟩)
     ·refine ⟨_,rfl,fun K' hK=>?_⟩
      go_simp
      obtain ⟨K,lnq⟩:=HH.out
      have zl:=K.size
      refine hK.out _ _ (fun _ _=>HK1.out _ (K.alloc zl _)) (⟨_,_,_,_,_,_,_,rfl,.inr (.inl (.inr (.inl (.inl (⟨w1.heap.size,qa,qk,qc,ea,ek,ec,rfl,rfl,rfl,rfl,rfl,rfl,rfl,rfl,rfl,K.alloc zl _,zl,Cl.new _ _ w1,lnq.below ((Below.refl _ _).alloc (Nat.le_refl _) _)⟩)))))⟩)
    ·obtain ⟨qa,qk,qc,ea,ek,ec,rfl,rfl,rfl,rfl,rfl,rfl,rfl,rfl,rfl,HH⟩:=hI
     right
     refine ⟨4,[5,7,8],rfl,by kernel_rfl,by simp,fun i hi=>?_⟩
     simp only [List.mem_cons,List.not_mem_nil,or_false] at hi
     rcases hi with rfl | rfl | rfl
     ·refine ⟨_,rfl,fun K' hK=>?_⟩
      go_simp
      obtain ⟨K,lnq⟩:=HH.out
      refine hK.out _ _ (fun _ _=>HK1.out _ K) (⟨_,_,_,_,_,_,_,rfl,.inr (.inl (.inl (.inr (.inl (⟨qa,qk,qc,ea,ek,ec,rfl,rfl,rfl,rfl,rfl,rfl,rfl,rfl,rfl,K,lnq⟩)))))⟩)
     ·refine ⟨_,rfl,fun K' hK=>?_⟩
      go_simp
      obtain ⟨K,lnq⟩:=HH.out
      have zl:=K.size
      refine hK.out _ _ (fun _ _=>HK1.out _ (K.alloc zl _)) (⟨_,_,_,_,_,_,_,rfl,.inr (.inl (.inr (.inl (.inr (⟨w1.heap.size,qa,qk,qc,ea,ek,ec,rfl,rfl,rfl,rfl,rfl,rfl,rfl,rfl,rfl,K.alloc zl _,zl,Cl.new _ _ w1,lnq.below ((Below.refl _ _).alloc (Nat.le_refl _) _)⟩)))))⟩)
     ·refine ⟨_,rfl,fun K' hK=>?_⟩
      go_simp
      obtain ⟨K,lnq⟩:=HH.out
      have zl:=K.size
      refine hK.out _ _ (fun _ _=>HK1.out _ (K.alloc zl _)) (⟨_,_,_,_,_,_,_,rfl,.inr (.inl (.inr (.inr (.inl (⟨w1.heap.size,qa,qk,qc,ea,ek,ec,rfl,rfl,rfl,rfl,rfl,rfl,rfl,rfl,rfl,K.alloc zl _,zl,Cl.new _ _ w1,lnq.below ((Below.refl _ _).alloc (Nat.le_refl _) _)⟩)))))⟩)
    ·obtain ⟨b6,qa,qk,qc,ea,ek,ec,rfl,rfl,rfl,rfl,rfl,rfl,rfl,rfl,rfl,HH⟩:=hI
     right
     refine ⟨4,[5,6,8],rfl,by kernel_rfl,by simp,fun i hi=>?_⟩
     simp only [List.mem_cons,List.not_mem_nil,or_false] at hi
     rcases hi with rfl | rfl | rfl
     ·refine ⟨_,rfl,fun K' hK=>?_⟩
      go_simp
      obtain ⟨K,ge_b6,at_b6,lnq⟩:=HH.out
      refine hK.out _ _ (fun _ _=>HK1.out _ K) (⟨_,_,_,_,_,_,_,rfl,.inr (.inl (.inl (.inr (.inr (⟨b6,qa,qk,qc,ea,ek,ec,rfl,rfl,rfl,rfl,rfl,rfl,rfl,rfl,rfl,K,ge_b6,at_b6,lnq⟩)))))⟩)
     ·refine ⟨_,rfl,fun K' hK=>?_⟩
      go_simp
      obtain ⟨K,ge_b6,at_b6,lnq⟩:=HH.out
      refine hK.out _ _ (fun _ _=>HK1.out _ K) (⟨_,_,_,_,_,_,_,rfl,.inr (.inl (.inr (.inl (.inr (⟨b6,qa,qk,qc,ea,ek,ec,rfl,rfl,rfl,rfl,rfl,rfl,rfl,rfl,rfl,K,ge_b6,at_b6,lnq⟩)))))⟩)
     ·refine ⟨_,rfl,fun K' hK=>?_⟩
      go_simp
      obtain ⟨K,ge_b6,at_b6,lnq⟩:=HH.out
      have zl:=K.size
      refine hK.out _ _ (fun _ _=>HK1.out _ (K.alloc zl _)) (⟨_,_,_,_,_,_,_,rfl,.inr (.inl (.inr (.inr (.inr (⟨b6,w1.heap.size,qa,qk,qc,ea,ek,ec,rfl,rfl,rfl,rfl,rfl,rfl,rfl,rfl,rfl,K.alloc zl _,ge_b6,at_b6.alloc _,zl,Cl.new _ _ w1,(Nat.ne_of_lt at_b6.lt),lnq.below ((Below.refl _ _).alloc (Nat.le_refl _) _)⟩)))))⟩)
    ·obtain ⟨b7,qa,qk,qc,ea,ek,ec,rfl,rfl,rfl,rfl,rfl,rfl,rfl,rfl,rfl,HH⟩:=hI
     right
     refine ⟨4,[5,6,7],rfl,by kernel_rfl,by simp,fun i hi=>?_⟩
     simp only [List.mem_cons,List.not_mem_nil,or_false] at hi
     rcases hi with rfl | rfl | rfl
     ·refine ⟨_,rfl,fun K' hK=>?_⟩
      go_simp
      obtain ⟨K,ge_b7,at_b7,lnq⟩:=HH.out
      refine hK.out _ _ (fun _ _=>HK1.out _ K) (⟨_,_,_,_,_,_,_,rfl,.inr (.inl (.inr (.inl (.inl (⟨b7,qa,qk,qc,ea,ek,ec,rfl,rfl,rfl,rfl,rfl,rfl,rfl,rfl,rfl,K,ge_b7,at_b7,lnq⟩)))))⟩)
     ·refine ⟨_,rfl,fun K' hK=>?_⟩
      go_simp
      obtain ⟨K,ge_b7,at_b7,lnq⟩:=HH.out
      refine hK.out _ _ (fun _ _=>HK1.out _ K) (⟨_,_,_,_,_,_,_,rfl,.inr (.inl (.inr (.inr (.inl (⟨b7,qa,qk,qc,ea,ek,ec,rfl,rfl,rfl,rfl,rfl,rfl,rfl,rfl,rfl,K,ge_b7,at_b7,lnq⟩)))))⟩)
     ·refine ⟨_,rfl,fun K' hK=>?_⟩
      go_simp
      obtain ⟨K,ge_b7,at_b7,lnq⟩:=HH.out
      have zl:=K.size
      refine hK.out _ _ (fun _ _=>HK1.out _ (K.alloc zl _)) (⟨_,_,_,_,_,_,_,rfl,.inr (.inl (.inr (.inr (.inr (⟨w1.heap.size,b7,qa,qk,qc,ea,ek,ec,rfl,rfl,rfl,rfl,rfl,rfl,rfl,rfl,rfl,K.alloc zl _,zl,Cl.new _ _ w1,ge_b7,at_b7.alloc _,(Nat.ne_of_gt at_b7.lt),lnq.below ((Below.refl _ _).alloc (Nat.le_refl _) _)⟩)))))⟩)
    ·obtain ⟨b6,b7,qa,qk,qc,ea,ek,ec,rfl,rfl,rfl,rfl,rfl,rfl,rfl,rfl,rfl,HH⟩:=hI
     right
     refine ⟨4,[4],rfl,by kernel_rfl,by simp,fun i hi=>?_⟩
     simp only [List.mem_cons,List.not_mem_nil,or_false] at hi
     subst hi
     refine ⟨_,rfl,fun K' hK=>?_⟩
     go_simp
     obtain ⟨K,ge_b6,at_b6,ge_b7,at_b7,ne_b6_b7,lnq⟩:=HH.out
     refine hK.out _ _ (fun _ _=>HK1.out _ K) (⟨_,_,_,_,_,_,_,rfl,.inr (.inl (.inr (.inr (.inr (⟨b6,b7,qa,qk,qc,ea,ek,ec,rfl,rfl,rfl,rfl,rfl,rfl,rfl,rfl,rfl,K,ge_b6,at_b6,ge_b7,at_b7,ne_b6_b7,lnq⟩)))))⟩)
    ·obtain ⟨qa,qk,qc,ea,ek,ec,rfl,rfl,rfl,rfl,rfl,rfl,rfl,rfl,rfl,HH⟩:=hI
     right
     refine ⟨3,[7,8],rfl,by kernel_rfl,by simp,fun i hi=>?_⟩
     simp only [List.mem_cons,List.not_mem_nil,or_false] at hi
     rcases hi with rfl | rfl
     ·refine ⟨_,rfl,fun K' hK=>?_⟩
      go_simp
      obtain ⟨K,lnq⟩:=HH.out
      have zl:=K.size
      refine hK.out _ _ (fun _ _=>HK1.out _ (K.alloc zl _)) (⟨_,_,_,_,_,_,_,rfl,.inr (.inr (.inl (.inl (.inl (⟨w1.heap.size,qa,qk,qc,ea,ek,ec,rfl,rfl,rfl,rfl,rfl,rfl,rfl,rfl,rfl,K.alloc zl _,zl,Cl.new _ _ w1,lnq.below ((Below.refl _ _).alloc (Nat.le_refl _) _)⟩)))))⟩)
     ·refine ⟨_,rfl,fun K' hK=>?_⟩
      go_simp
      obtain ⟨K,lnq⟩:=HH.out
      have zl:=K.size
      refine hK.out _ _ (fun _ _=>HK1.out _ (K.alloc zl _)) (⟨_,_,_,_,_,_,_,rfl,.inr (.inr (.inl (.inl (.inr (⟨w1.heap.size,qa,qk,qc,ea,ek,ec,rfl,rfl,rfl,rfl,rfl,rfl,rfl,rfl,rfl,K.alloc zl _,zl,Cl.new _ _ w1,lnq.below ((Below.refl _ _).alloc (Nat.le_refl _) _)⟩)))))⟩)
    ·obtain ⟨b6,qa,qk,qc,ea,ek,ec,rfl,rfl,rfl,rfl,rfl,rfl,rfl,rfl,rfl,HH⟩:=hI
     right
     refine ⟨3,[6,8],rfl,by kernel_rfl,by simp,fun i hi=>?_⟩
     simp only [List.mem_cons,List.not_mem_nil,or_false] at hi
     rcases hi with rfl | rfl
     ·refine ⟨_,rfl,fun K' hK=>?_⟩
      go_simp
      obtain ⟨K,ge_b6,at_b6,lnq⟩:=HH.out
      refine hK.out _ _ (fun _ _=>HK1.out _ K) (⟨_,_,_,_,_,_,_,rfl,.inr (.inr (.inl (.inl (.inl (⟨b6,qa,qk,qc,ea,ek,ec,rfl,rfl,rfl,rfl,rfl,rfl,rfl,rfl,rfl,K,ge_b6,at_b6,lnq⟩)))))⟩)
     ·refine ⟨_,rfl,fun K' hK=>?_⟩
      go_simp
      obtain ⟨K,ge_b6,at_b6,lnq⟩:=HH.out
      have zl:=K.size
      refine hK.out _ _ (fun _ _=>HK1.out _ (K.alloc zl _)) (⟨_,_,_,_,_,_,_,rfl,.inr (.inr (.inl (.inr (.inl (⟨b6,w1.heap.size,qa,qk,qc,ea,ek,ec,rfl,rfl,rfl,rfl,rfl,rfl,rfl,rfl,rfl,K.alloc zl _,ge_b6,at_b6.alloc _,zl,Cl.new _ _ w1,(Nat.ne_of_lt at_b6.lt),lnq.below ((Below.refl _ _).alloc (Nat.le_refl _) _)⟩)))))⟩)
    ·obtain ⟨b7,qa,qk,qc,ea,ek,ec,rfl,rfl,rfl,rfl,rfl,rfl,rfl,rfl,rfl,HH⟩:=hI
     right
     refine ⟨3,[6,7],rfl,by kernel_rfl,by simp,fun i hi=>?_⟩
     simp only [List.mem_cons,List.not_mem_nil,or_false] at hi
     rcases hi with rfl | rfl
     ·refine ⟨_,rfl,fun K' hK=>?_⟩
      go_simp
      obtain ⟨K,ge_b7,at_b7,lnq⟩:=HH.out
      refine hK.out _ _ (fun _ _=>HK1.out _ K) (⟨_,_,_,_,_,_,_,rfl,.inr (.inr (.inl (.inl (.inr (⟨b7,qa,qk,qc,ea,ek,ec,rfl,rfl,rfl,rfl,rfl,rfl,rfl,rfl,rfl,K,ge_b7,at_b7,lnq⟩)))))⟩)
     ·refine ⟨_,rfl,fun K' hK=>?_⟩
      go_simp
      obtain ⟨K,ge_b7,at_b7,lnq⟩:=HH.out
      have zl:=K.size
      refine hK.out _ _ (fun _ _=>HK1.out _ (K.alloc zl _)) (⟨_,_,_,_,_,_,_,rfl,.inr (.inr (.inl (.inr (.inl (⟨w1.heap.size,b7,qa,qk,qc,ea,ek,ec,rfl,rfl,rfl,rfl,rfl,rfl,rfl,rfl,rfl,K.alloc zl _,zl,Cl.new _ _ w1,ge_b7,at_b7.alloc _,(Nat.ne_of_gt at_b7.lt),lnq.below ((Below.refl _ _).alloc (Nat.le_refl _) _)⟩)))))⟩)
    ·obtain ⟨b6,qa,qk,qc,ea,ek,ec,rfl,rfl,rfl,rfl,rfl,rfl,rfl,rfl,rfl,HH⟩:=hI
     right
     refine ⟨3,[5,8],rfl,by kernel_rfl,by simp,fun i hi=>?_⟩
     simp only [List.mem_cons,List.not_mem_nil,or_false] at hi
     rcases hi with rfl | rfl
     ·refine ⟨_,rfl,fun K' hK=>?_⟩
      go_simp
      obtain ⟨K,ge_b6,at_b6,lnq⟩:=HH.out
      refine hK.out _ _ (fun _ _=>HK1.out _ K) (⟨_,_,_,_,_,_,_,rfl,.inr (.inr (.inl (.inl (.inl (⟨b6,qa,qk,qc,ea,ek,ec,rfl,rfl,rfl,rfl,rfl,rfl,rfl,rfl,rfl,K,ge_b6,at_b6,lnq⟩)))))⟩)
     ·refine ⟨_,rfl,fun K' hK=>?_⟩
      go_simp
      obtain ⟨K,ge_b6,at_b6,lnq⟩:=HH.out
      have zl:=K.size
      refine hK.out _ _ (fun _ _=>HK1.out _ (K.alloc zl _)) (⟨_,_,_,_,_,_,_,rfl,.inr (.inr (.inl (.inr (.inr (⟨b6,w1.heap.size,qa,qk,qc,ea,ek,ec,rfl,rfl,rfl,rfl,rfl,rfl,rfl,rfl,rfl,K.alloc zl _,ge_b6,at_b6.alloc _,zl,Cl.new _ _ w1,(Nat.ne_of_lt at_b6.lt),lnq.below ((Below.refl _ _).alloc (Nat.le_refl _) _)⟩)))))⟩)
    ·obtain ⟨b7,qa,qk,qc,ea,ek,ec,rfl,rfl,rfl,rfl,rfl,rfl,rfl,rfl,rfl,HH⟩:=hI
     right
     refine ⟨3,[5,7],rfl,by kernel_rfl,by simp,fun i hi=>?_⟩
     simp only [List.mem_cons,List.not_mem_nil,or_false] at hi
     rcases hi with rfl | rfl
     ·refine ⟨_,rfl,fun K' hK=>?_⟩
      go_simp
      obtain ⟨K,ge_b7,at_b7,lnq⟩:=HH.out
      refine hK.out _ _ (fun _ _=>HK1.out _ K) (⟨_,_,_,_,_,_,_,rfl,.inr (.inr (.inl (.inl (.inr (⟨b7,qa,qk,qc,ea,ek,ec,rfl,rfl,rfl,rfl,rfl,rfl,rfl,rfl,rfl,K,ge_b7,at_b7,lnq⟩)))))⟩)
     ·refine ⟨_,rfl,fun K' hK=>?_⟩
      go_simp
      obtain ⟨K,ge_b7,at_b7,lnq⟩:=HH.out
      have zl:=K.size
      refine hK.out _ _ (fun _ _=>HK1.out _ (K.alloc zl _)) (⟨_,_,_,_,_,_,_,rfl,.inr (.inr (.inl (.inr (.inr (⟨w1.heap.size,b7,qa,qk,qc,ea,ek,ec,rfl,rfl,rfl,rfl,rfl,rfl,rfl,rfl,rfl,K.alloc zl _,zl,Cl.new _ _ w1,ge_b7,at_b7.alloc _,(Nat.ne_of_gt at_b7.lt),lnq.below ((Below.refl _ _).alloc (Nat.le_refl _) _)⟩)))))⟩)
    ·obtain ⟨b6,b7,qa,qk,qc,ea,ek,ec,rfl,rfl,rfl,rfl,rfl,rfl,rfl,rfl,rfl,HH⟩:=hI
     right
     refine ⟨3,[5,6],rfl,by kernel_rfl,by simp,fun i hi=>?_⟩
     simp only [List.mem_cons,List.not_mem_nil,or_false] at hi
     rcases hi with rfl | rfl
     ·refine ⟨_,rfl,fun K' hK=>?_⟩
      go_simp
      obtain ⟨K,ge_b6,at_b6,ge_b7,at_b7,ne_b6_b7,lnq⟩:=HH.out
      refine hK.out _ _ (fun _ _=>HK1.out _ K) (⟨_,_,_,_,_,_,_,rfl,.inr (.inr (.inl (.inr (.inl (⟨b6,b7,qa,qk,qc,ea,ek,ec,rfl,rfl,rfl,rfl,rfl,rfl,rfl,rfl,rfl,K,ge_b6,at_b6,ge_b7,at_b7,ne_b6_b7,lnq⟩)))))⟩)
     ·refine ⟨_,rfl,fun K' hK=>?_⟩
      go_simp
      obtain ⟨K,ge_b6,at_b6,ge_b7,at_b7,ne_b6_b7,lnq⟩:=HH.out
      refine hK.out _ _ (fun _ _=>HK1.out _ K) (⟨_,_,_,_,_,_,_,rfl,.inr (.inr (.inl (.inr (.inr (⟨b6,b7,qa,qk,qc,ea,ek,ec,rfl,rfl,rfl,rfl,rfl,rfl,rfl,rfl,rfl,K,ge_b6,at_b6,ge_b7,at_b7,ne_b6_b7,lnq⟩)))))⟩)
    ·obtain ⟨b6,qa,qk,qc,ea,ek,ec,rfl,rfl,rfl,rfl,rfl,rfl,rfl,rfl,rfl,HH⟩:=hI
     right
     refine ⟨2,[8],rfl,by kernel_rfl,by simp,fun i hi=>?_⟩
     simp only [List.mem_cons,List.not_mem_nil,or_false] at hi
     subst hi
     refine ⟨_,rfl,fun K' hK=>?_⟩
     go_simp
     obtain ⟨K,ge_b6,at_b6,lnq⟩:=HH.out
     have zl:=K.size
     refine hK.out _ _ (fun _ _=>HK1.out _ (K.alloc zl _)) (⟨_,_,_,_,_,_,_,rfl,.inr (.inr (.inr (.inl (.inl (⟨b6,w1.heap.size,qa,qk,qc,ea,ek,ec,rfl,rfl,rfl,rfl,rfl,rfl,rfl,rfl,rfl,K.alloc zl _,ge_b6,at_b6.alloc _,zl,Cl.new _ _ w1,(Nat.ne_of_lt at_b6.lt),lnq.below ((Below.refl _ _).alloc (Nat.le_refl _) _)⟩)))))⟩)
    ·obtain ⟨b7,qa,qk,qc,ea,ek,ec,rfl,rfl,rfl,rfl,rfl,rfl,rfl,rfl,rfl,HH⟩:=hI
     right
     refine ⟨2,[7],rfl,by kernel_rfl,by simp,fun i hi=>?_⟩
     simp only [List.mem_cons,List.not_mem_nil,or_false] at hi
     subst hi
     refine ⟨_,rfl,fun K' hK=>?_⟩
     go_simp
     obtain ⟨K,ge_b7,at_b7,lnq⟩:=HH.out
     have zl:=K.size
     refine hK.out _ _ (fun _ _=>HK1.out _ (K.alloc zl _)) (⟨_,_,_,_,_,_,_,rfl,.inr (.inr (.inr (.inl (.inl (⟨w1.heap.size,b7,qa,qk,qc,ea,ek,ec,rfl,rfl,rfl,rfl,rfl,rfl,rfl,rfl,rfl,K.alloc zl _,zl,Cl.new _ _ w1,ge_b7,at_b7.alloc _,(Nat.ne_of_gt at_b7.lt),lnq.below ((Below.refl _ _).alloc (Nat.le_refl _) _)⟩)))))⟩)
    ·obtain ⟨b6,b7,qa,qk,qc,ea,ek,ec,rfl,rfl,rfl,rfl,rfl,rfl,rfl,rfl,rfl,HH⟩:=hI
     right
     refine ⟨2,[6,9],rfl,by kernel_rfl,by simp,fun i hi=>?_⟩
     simp only [List.mem_cons,List.not_mem_nil,or_false] at hi
     rcases hi with rfl | rfl
     ·refine ⟨_,rfl,fun K' hK=>?_⟩
      go_simp
      obtain ⟨K,ge_b6,at_b6,ge_b7,at_b7,ne_b6_b7,lnq⟩:=HH.out
      refine hK.out _ _ (fun _ _=>HK1.out _ K) (⟨_,_,_,_,_,_,_,rfl,.inr (.inr (.inr (.inl (.inl (⟨b6,b7,qa,qk,qc,ea,ek,ec,rfl,rfl,rfl,rfl,rfl,rfl,rfl,rfl,rfl,K,ge_b6,at_b6,ge_b7,at_b7,ne_b6_b7,lnq⟩)))))⟩)
     ·refine ⟨_,rfl,fun K' hK=>?_⟩
      obtain ⟨K,ge_b6,at_b6,ge_b7,at_b7,ne_b6_b7,lnq⟩:=HH.out
      have qc0:=at_b6.cell 0
      have qf0:=at_b6.frozen 0
      simp at qc0
      have Z_K:Hid _:=K
      have Z_ge_b6:Hid _:=ge_b6
      have Z_at_b6:Hid _:=at_b6
      have Z_ge_b7:Hid _:=ge_b7
      have Z_at_b7:Hid _:=at_b7
      have Z_ne_b6_b7:Hid _:=ne_b6_b7
      have Z_lnq:Hid _:=lnq
      clear lnq ne_b6_b7 at_b7 ge_b7 at_b6 ge_b6 K
      go_simp
      have K:=Z_K.out
      have ge_b6:=Z_ge_b6.out
      have at_b6:=Z_at_b6.out
      have ge_b7:=Z_ge_b7.out
      have at_b7:=Z_at_b7.out
      have ne_b6_b7:=Z_ne_b6_b7.out
      have lnq:=Z_lnq.out
      refine hK.out _ _ (fun _ _=>HK1.out _ (Below.setCell K (by simpa using ge_b6) _)) (⟨_,_,_,_,_,_,_,rfl,.inr (.inr (.inr (.inl (.inr (⟨b6,b7,qa,qk,qc,ea,ek,ec,rfl,rfl,rfl,rfl,rfl,rfl,rfl,rfl,rfl,Below.setCell K (by simpa using ge_b6) _,ge_b6,Cl.set at_b6 0 _,ge_b7,Cl.other at_b7 (by simpa using (Ne.symm ne_b6_b7)) _,ne_b6_b7,LN.set lnq at_b6 _⟩)))))⟩)
    ·obtain ⟨b6,b7,qa,qk,qc,ea,ek,ec,rfl,rfl,rfl,rfl,rfl,rfl,rfl,rfl,rfl,HH⟩:=hI
     right
     refine ⟨2,[5],rfl,by kernel_rfl,by simp,fun i hi=>?_⟩
     simp only [List.mem_cons,List.not_mem_nil,or_false] at hi
     subst hi
     refine ⟨_,rfl,fun K' hK=>?_⟩
     go_simp
     obtain ⟨K,ge_b6,at_b6,ge_b7,at_b7,ne_b6_b7,lnq⟩:=HH.out
     refine hK.out _ _ (fun _ _=>HK1.out _ K) (⟨_,_,_,_,_,_,_,rfl,.inr (.inr (.inr (.inl (.inl (⟨b6,b7,qa,qk,qc,ea,ek,ec,rfl,rfl,rfl,rfl,rfl,rfl,rfl,rfl,rfl,K,ge_b6,at_b6,ge_b7,at_b7,ne_b6_b7,lnq⟩)))))⟩)
    ·obtain ⟨b6,b7,qa,qk,qc,ea,ek,ec,rfl,rfl,rfl,rfl,rfl,rfl,rfl,rfl,rfl,HH⟩:=hI
     right
     refine ⟨1,[9],rfl,by kernel_rfl,by simp,fun i hi=>?_⟩
     simp only [List.mem_cons,List.not_mem_nil,or_false] at hi
     subst hi
     refine ⟨_,rfl,fun K' hK=>?_⟩
     obtain ⟨K,ge_b6,at_b6,ge_b7,at_b7,ne_b6_b7,lnq⟩:=HH.out
     have qc0:=at_b6.cell 0
     have qf0:=at_b6.frozen 0
     simp at qc0
     have Z_K:Hid _:=K
     have Z_ge_b6:Hid _:=ge_b6
     have Z_at_b6:Hid _:=at_b6
     have Z_ge_b7:Hid _:=ge_b7
     have Z_at_b7:Hid _:=at_b7
     have Z_ne_b6_b7:Hid _:=ne_b6_b7
     have Z_lnq:Hid _:=lnq
     clear lnq ne_b6_b7 at_b7 ge_b7 at_b6 ge_b6 K
     go_simp
     have K:=Z_K.out
     have ge_b6:=Z_ge_b6.out
     have at_b6:=Z_at_b6.out
     have ge_b7:=Z_ge_b7.out
     have at_b7:=Z_at_b7.out
     have ne_b6_b7:=Z_ne_b6_b7.out
     have lnq:=Z_lnq.out
     refine hK.out _ _ (fun _ _=>HK1.out _ (Below.setCell K (by simpa using ge_b6) _)) (⟨_,_,_,_,_,_,_,rfl,.inr (.inr (.inr (.inr (.inl (⟨b6,b7,qa,qk,qc,ea,ek,ec,rfl,rfl,rfl,rfl,rfl,rfl,rfl,rfl,rfl,Below.setCell K (by simpa using ge_b6) _,ge_b6,Cl.set at_b6 0 _,ge_b7,Cl.other at_b7 (by simpa using (Ne.symm ne_b6_b7)) _,ne_b6_b7,LN.set lnq at_b6 _⟩)))))⟩)
    ·obtain ⟨b6,b7,qa,qk,qc,ea,ek,ec,rfl,rfl,rfl,rfl,rfl,rfl,rfl,rfl,rfl,HH⟩:=hI
     right
     refine ⟨1,[6],rfl,by kernel_rfl,by simp,fun i hi=>?_⟩
     simp only [List.mem_cons,List.not_mem_nil,or_false] at hi
     subst hi
     refine ⟨_,rfl,fun K' hK=>?_⟩
     go_simp
     obtain ⟨K,ge_b6,at_b6,ge_b7,at_b7,ne_b6_b7,lnq⟩:=HH.out
     refine hK.out _ _ (fun _ _=>HK1.out _ K) (⟨_,_,_,_,_,_,_,rfl,.inr (.inr (.inr (.inr (.inl (⟨b6,b7,qa,qk,qc,ea,ek,ec,rfl,rfl,rfl,rfl,rfl,rfl,rfl,rfl,rfl,K,ge_b6,at_b6,ge_b7,at_b7,ne_b6_b7,lnq⟩)))))⟩)
    ·obtain ⟨b6,b7,qa,qk,qc,ea,ek,ec,rfl,rfl,rfl,rfl,rfl,rfl,rfl,rfl,rfl,HH⟩:=hI
     right
     refine ⟨0,[10],rfl,by kernel_rfl,by simp,fun i hi=>?_⟩
     simp only [List.mem_cons,List.not_mem_nil,or_false] at hi
     subst hi
     refine ⟨_,rfl,fun K' hK=>?_⟩
     obtain ⟨K,ge_b6,at_b6,ge_b7,at_b7,ne_b6_b7,lnq⟩:=HH.out
     have qc0:=at_b7.cell 0
     have qf0:=at_b7.frozen 0
     simp at qc0
     have Z_K:Hid _:=K
     have Z_ge_b6:Hid _:=ge_b6
     have Z_at_b6:Hid _:=at_b6
     have Z_ge_b7:Hid _:=ge_b7
     have Z_at_b7:Hid _:=at_b7
     have Z_ne_b6_b7:Hid _:=ne_b6_b7
     have Z_lnq:Hid _:=lnq
     clear lnq ne_b6_b7 at_b7 ge_b7 at_b6 ge_b6 K
     go_simp
     have K:=Z_K.out
     have ge_b6:=Z_ge_b6.out
     have at_b6:=Z_at_b6.out
     have ge_b7:=Z_ge_b7.out
     have at_b7:=Z_at_b7.out
     have ne_b6_b7:=Z_ne_b6_b7.out
     have lnq:=Z_lnq.out
     refine hK.out _ _ (fun _ h=>absurd rfl h) (⟨_,_,_,_,_,_,_,rfl,.inr (.inr (.inr (.inr (.inr (⟨b6,b7,qa,qk,qc,ea,ek,ec,rfl,rfl,rfl,rfl,rfl,rfl,rfl,rfl,rfl,Below.setCell K (by simpa using ge_b7) _,ge_b6,Cl.other at_b6 (by simpa using ne_b6_b7) _,ge_b7,Cl.set at_b7 0 _,ne_b6_b7,LN.set lnq at_b7 _⟩)))))⟩)
    ·obtain ⟨b6,b7,qa,qk,qc,ea,ek,ec,rfl,rfl,rfl,rfl,rfl,rfl,rfl,rfl,rfl,HH⟩:=hI
     left
     refine ⟨by kernel_rfl,?_⟩
     clear hHeld0
     dsimp only
     obtain ⟨K,ge_b6,at_b6,ge_b7,at_b7,ne_b6_b7,lnq⟩:=HH.out
     obtain ⟨W2,rfl⟩:∃ W2,W2 = w1:=⟨_,rfl⟩
     have HA2:Hid (Below W1.heap.size W1 W2):=K
     have HA3:Hid (Below W0.heap.size W0 W2):=HA1.out.trans (K.mono HA1.out.size)
     have HQ2:Hid (LN W2 (.slice qa qk qc) P∧Cl b6 [.slice qa qk qc] 64 W2):=⟨lnq,at_b6⟩
     have HG1W2:Hid (Cl b5 [.slice ga gk gc] 64 W2):=HG1.out.1.below K
     clear K ge_b6 at_b6 ge_b7 at_b7 ne_b6_b7 lnq HH
     have HK2:Hid (∀ W,Below W2.heap.size W2 W→(W.cell? ⟨w.heap.size + 1,0,none⟩ = some (.slice ba bk bc)∧W.cell? ⟨w.heap.size + 1,1,none⟩ = some (.bool false))∧W.cell? ⟨b5,0,none⟩ = some (.slice ga gk gc)):=fun W kk=>by
      have d1:=(H0.out.2.1.below HA3.out).below kk
      have d2:=HG1W2.out.below kk
      have a1:=d1.cell 0
      have a2:=d1.cell 1
      have a3:=d2.cell 0
      simp at a1 a2 a3
      exact ⟨⟨a1,a2⟩,a3⟩
     go_wp2
     refine wp_region_G (fun W=>(W.cell? ⟨w.heap.size + 1,0,none⟩ = some (.slice ba bk bc)∧W.cell? ⟨w.heap.size + 1,1,none⟩ = some (.bool false))∧W.cell? ⟨b5,0,none⟩ = some (.slice ga gk gc)) 10 (by kernel_rfl) (HK2.out _ (Below.refl _ _).drew) (fun hHeld=>?_)
     refine wpAnyG_take (i:=0) (v:=?v0x5) rfl (by kernel_rfl) (fun _ _ _ h=>h) (Or.inl ⟨by rfl,?y0x5⟩) hHeld ?r0x5
     case y0x5=>(intro wS hSw; obtain ⟨⟨s1,s2⟩,s3⟩:=hSw; go_simp; try with_reducible rfl)
     simp only [Act.put,List.getElem_toArray,List.getElem_cons_zero,List.getElem_cons_succ,List.setIfInBounds_toArray,List.set_cons_zero,List.set_cons_succ]
     refine wpAnyG_take (i:=2) (v:=?v2x6) rfl (by kernel_rfl) (fun _ _ _ h=>h) (Or.inl ⟨by rfl,?y2x6⟩) hHeld ?r2x6
     case y2x6=>(intro wS hSw; obtain ⟨⟨s1,s2⟩,s3⟩:=hSw; go_simp; try with_reducible rfl)
     simp only [Act.put,List.getElem_toArray,List.getElem_cons_zero,List.getElem_cons_succ,List.setIfInBounds_toArray,List.set_cons_zero,List.set_cons_succ]
     have hHeld0:=hHeld
     clear hHeld
     refine wpAnyG_inv (fun n l a w1=>∃ x8 x9 x23 x25 x27 x28 x29:Value,a = { tmps:=#[.agg #[.slice aa ak ac,.bool zx],.agg #[.slice ba bk bc,.bool false],.pointer (some ⟨w.heap.size,0,none⟩),.pointer (some ⟨w.heap.size + 1,0,none⟩),.string { data:=#[] },.pointer (some ⟨b5,0,none⟩),.pointer (some ⟨b6,0,none⟩),.pointer (some ⟨b7,0,none⟩),x8,x9,undef,.agg #[.slice aa ak ac,.bool zx],.agg #[.slice aa ak ac],.agg #[.slice ba bk bc,.bool false],.agg #[.slice ba bk bc],.agg #[.slice ga gk gc],.tuple #[.agg #[.slice qa qk qc],.agg #[.slice ea ek ec]],.agg #[.slice aa ak ac,.bool zx],.agg #[.slice aa ak ac],.agg #[.slice ga gk gc],.tuple #[.agg #[.slice qa qk qc],.agg #[.slice ea ek ec]],.agg #[.slice qa qk qc],.agg #[.slice ea ek ec],x23,.agg #[.slice ba bk bc,.bool false],x25,.agg #[.slice ga gk gc],x27,x28,x29,undef,undef,undef,undef,undef,undef,undef,undef,undef,undef,undef,undef,undef,undef,undef,undef,undef],defers:=[] }∧(((((n = 9∧l = #[true,false,true,false,false,false,false,false,false,false,false]∧x8 = undef∧x9 = undef∧x23 = undef∧x25 = undef∧x27 = undef∧x28 = undef∧x29 = undef∧Hid (Below W2.heap.size W2 w1))∨((n = 8∧l = #[true,true,true,false,false,false,false,false,false,false,false]∧x8 = undef∧x9 = undef∧x23 = undef∧x25 = .agg #[.slice ba bk bc]∧x27 = undef∧x28 = undef∧x29 = undef∧Hid (Below W2.heap.size W2 w1))∨(∃ b8:Nat,n = 8∧l = #[true,false,true,false,false,false,false,true,false,false,false]∧x8 = .pointer (some ⟨b8,0,none⟩)∧x9 = undef∧x23 = undef∧x25 = undef∧x27 = undef∧x28 = undef∧x29 = undef∧Hid (Below W2.heap.size W2 w1∧W2.heap.size≤b8∧Cl b8 [.slice none 0 0] 64 w1))))∨(((∃ b9:Nat,n = 8∧l = #[true,false,true,false,false,false,false,false,true,false,false]∧x8 = undef∧x9 = .pointer (some ⟨b9,0,none⟩)∧x23 = undef∧x25 = undef∧x27 = undef∧x28 = undef∧x29 = undef∧Hid (Below W2.heap.size W2 w1∧W2.heap.size≤b9∧Cl b9 [.slice none 0 0] 64 w1))∨(∃ ra:Option Addr,∃ rk:Nat,∃ rc:Nat,∃ sa:Option Addr,∃ sk:Nat,∃ sc:Nat,n = 7∧l = #[true,true,true,true,false,false,false,false,false,false,false]∧x8 = undef∧x9 = undef∧x23 = undef∧x25 = .agg #[.slice ba bk bc]∧x27 = .tuple #[.agg #[.slice ra rk rc],.agg #[.slice sa sk sc]]∧x28 = undef∧x29 = undef∧Hid (Below W2.heap.size W2 w1∧LN w1 (.slice ra rk rc) Q)))∨((∃ b8:Nat,n = 7∧l = #[true,true,true,false,false,false,false,true,false,false,false]∧x8 = .pointer (some ⟨b8,0,none⟩)∧x9 = undef∧x23 = undef∧x25 = .agg #[.slice ba bk bc]∧x27 = undef∧x28 = undef∧x29 = undef∧Hid (Below W2.heap.size W2 w1∧W2.heap.size≤b8∧Cl b8 [.slice none 0 0] 64 w1))∨(∃ b9:Nat,n = 7∧l = #[true,true,true,false,false,false,false,false,true,false,false]∧x8 = undef∧x9 = .pointer (some ⟨b9,0,none⟩)∧x23 = undef∧x25 = .agg #[.slice ba bk bc]∧x27 = undef∧x28 = undef∧x29 = undef∧Hid (Below W2.heap.size W2 w1∧W2.heap.size≤b9∧Cl b9 [.slice none 0 0] 64 w1)))))∨((((∃ b8:Nat,∃ b9:Nat,n = 7∧l = #[true,false,true,false,false,false,false,true,true,false,false]∧x8 = .pointer (some ⟨b8,0,none⟩)∧x9 = .pointer (some ⟨b9,0,none⟩)∧x23 = undef∧x25 = undef∧x27 = undef∧x28 = undef∧x29 = undef∧Hid (Below W2.heap.size W2 w1∧W2.heap.size≤b8∧Cl b8 [.slice none 0 0] 64 w1∧W2.heap.size≤b9∧Cl b9 [.slice none 0 0] 64 w1∧b8 ≠ b9))∨(∃ ra:Option Addr,∃ rk:Nat,∃ rc:Nat,∃ sa:Option Addr,∃ sk:Nat,∃ sc:Nat,n = 6∧l = #[true,true,true,true,true,false,false,false,false,false,false]∧x8 = undef∧x9 = undef∧x23 = .tuple #[.agg #[.slice ra rk rc],.agg #[.slice sa sk sc]]∧x25 = .agg #[.slice ba bk bc]∧x27 = .tuple #[.agg #[.slice ra rk rc],.agg #[.slice sa sk sc]]∧x28 = undef∧x29 = undef∧Hid (Below W2.heap.size W2 w1∧LN w1 (.slice ra rk rc) Q)))∨((∃ b8:Nat,∃ ra:Option Addr,∃ rk:Nat,∃ rc:Nat,∃ sa:Option Addr,∃ sk:Nat,∃ sc:Nat,n = 6∧l = #[true,true,true,true,false,false,false,true,false,false,false]∧x8 = .pointer (some ⟨b8,0,none⟩)∧x9 = undef∧x23 = undef∧x25 = .agg #[.slice ba bk bc]∧x27 = .tuple #[.agg #[.slice ra rk rc],.agg #[.slice sa sk sc]]∧x28 = undef∧x29 = undef∧Hid (Below W2.heap.size W2 w1∧W2.heap.size≤b8∧Cl b8 [.slice none 0 0] 64 w1∧LN w1 (.slice ra rk rc) Q))∨(∃ b9:Nat,∃ ra:Option Addr,∃ rk:Nat,∃ rc:Nat,∃ sa:Option Addr,∃ sk:Nat,∃ sc:Nat,n = 6∧l = #[true,true,true,true,false,false,false,false,true,false,false]∧x8 = undef∧x9 = .pointer (some ⟨b9,0,none⟩)∧x23 = undef∧x25 = .agg #[.slice ba bk bc]∧x27 = .tuple #[.agg #[.slice ra rk rc],.agg #[.slice sa sk sc]]∧x28 = undef∧x29 = undef∧Hid (Below W2.heap.size W2 w1∧W2.heap.size≤b9∧Cl b9 [.slice none 0 0] 64 w1∧LN w1 (.slice ra rk rc) Q))))∨(((∃ b8:Nat,∃ b9:Nat,n = 6∧l = #[true,true,true,false,false,false,false,true,true,false,false]∧x8 = .pointer (some ⟨b8,0,none⟩)∧x9 = .pointer (some ⟨b9,0,none⟩)∧x23 = undef∧x25 = .agg #[.slice ba bk bc]∧x27 = undef∧x28 = undef∧x29 = undef∧Hid (Below W2.heap.size W2 w1∧W2.heap.size≤b8∧Cl b8 [.slice none 0 0] 64 w1∧W2.heap.size≤b9∧Cl b9 [.slice none 0 0] 64 w1∧b8 ≠ b9))∨(∃ ra:Option Addr,∃ rk:Nat,∃ rc:Nat,∃ sa:Option Addr,∃ sk:Nat,∃ sc:Nat,n = 5∧l = #[true,true,true,true,true,true,false,false,false,false,false]∧x8 = undef∧x9 = undef∧x23 = .tuple #[.agg #[.slice ra rk rc],.agg #[.slice sa sk sc]]∧x25 = .agg #[.slice ba bk bc]∧x27 = .tuple #[.agg #[.slice ra rk rc],.agg #[.slice sa sk sc]]∧x28 = .agg #[.slice ra rk rc]∧x29 = undef∧Hid (Below W2.heap.size W2 w1∧LN w1 (.slice ra rk rc) Q)))∨((∃ ra:Option Addr,∃ rk:Nat,∃ rc:Nat,∃ sa:Option Addr,∃ sk:Nat,∃ sc:Nat,n = 5∧l = #[true,true,true,true,true,false,true,false,false,false,false]∧x8 = undef∧x9 = undef∧x23 = .tuple #[.agg #[.slice ra rk rc],.agg #[.slice sa sk sc]]∧x25 = .agg #[.slice ba bk bc]∧x27 = .tuple #[.agg #[.slice ra rk rc],.agg #[.slice sa sk sc]]∧x28 = undef∧x29 = .agg #[.slice sa sk sc]∧Hid (Below W2.heap.size W2 w1∧LN w1 (.slice ra rk rc) Q))∨(∃ b8:Nat,∃ ra:Option Addr,∃ rk:Nat,∃ rc:Nat,∃ sa:Option Addr,∃ sk:Nat,∃ sc:Nat,n = 5∧l = #[true,true,true,true,true,false,false,true,false,false,false]∧x8 = .pointer (some ⟨b8,0,none⟩)∧x9 = undef∧x23 = .tuple #[.agg #[.slice ra rk rc],.agg #[.slice sa sk sc]]∧x25 = .agg #[.slice ba bk bc]∧x27 = .tuple #[.agg #[.slice ra rk rc],.agg #[.slice sa sk sc]]∧x28 = undef∧x29 = undef∧Hid (Below W2.heap.size W2 w1∧W2.heap.size≤b8∧Cl b8 [.slice none 0 0] 64 w1∧LN w1 (.slice ra rk rc) Q))))))∨(((((∃ b9:Nat,∃ ra:Option Addr,∃ rk:Nat,∃ rc:Nat,∃ sa:Option Addr,∃ sk:Nat,∃ sc:Nat,n = 5∧l = #[true,true,true,true,true,false,false,false,true,false,false]∧x8 = undef∧x9 = .pointer (some ⟨b9,0,none⟩)∧x23 = .tuple #[.agg #[.slice ra rk rc],.agg #[.slice sa sk sc]]∧x25 = .agg #[.slice ba bk bc]∧x27 = .tuple #[.agg #[.slice ra rk rc],.agg #[.slice sa sk sc]]∧x28 = undef∧x29 = undef∧Hid (Below W2.heap.size W2 w1∧W2.heap.size≤b9∧Cl b9 [.slice none 0 0] 64 w1∧LN w1 (.slice ra rk rc) Q))∨(∃ b8:Nat,∃ b9:Nat,∃ ra:Option Addr,∃ rk:Nat,∃ rc:Nat,∃ sa:Option Addr,∃ sk:Nat,∃ sc:Nat,n = 5∧l = #[true,true,true,true,false,false,false,true,true,false,false]∧x8 = .pointer (some ⟨b8,0,none⟩)∧x9 = .pointer (some ⟨b9,0,none⟩)∧x23 = undef∧x25 = .agg #[.slice ba bk bc]∧x27 = .tuple #[.agg #[.slice ra rk rc],.agg #[.slice sa sk sc]]∧x28 = undef∧x29 = undef∧Hid (Below W2.heap.size W2 w1∧W2.heap.size≤b8∧Cl b8 [.slice none 0 0] 64 w1∧W2.heap.size≤b9∧Cl b9 [.slice none 0 0] 64 w1∧b8 ≠ b9∧LN w1 (.slice ra rk rc) Q)))∨((∃ ra:Option Addr,∃ rk:Nat,∃ rc:Nat,∃ sa:Option Addr,∃ sk:Nat,∃ sc:Nat,n = 4∧l = #[true,true,true,true,true,true,true,false,false,false,false]∧x8 = undef∧x9 = undef∧x23 = .tuple #[.agg #[.slice ra rk rc],.agg #[.slice sa sk sc]]∧x25 = .agg #[.slice ba bk bc]∧x27 = .tuple #[.agg #[.slice ra rk rc],.agg #[.slice sa sk sc]]∧x28 = .agg #[.slice ra rk rc]∧x29 = .agg #[.slice sa sk sc]∧Hid (Below W2.heap.size W2 w1∧LN w1 (.slice ra rk rc) Q))∨(∃ b8:Nat,∃ ra:Option Addr,∃ rk:Nat,∃ rc:Nat,∃ sa:Option Addr,∃ sk:Nat,∃ sc:Nat,n = 4∧l = #[true,true,true,true,true,true,false,true,false,false,false]∧x8 = .pointer (some ⟨b8,0,none⟩)∧x9 = undef∧x23 = .tuple #[.agg #[.slice ra rk rc],.agg #[.slice sa sk sc]]∧x25 = .agg #[.slice ba bk bc]∧x27 = .tuple #[.agg #[.slice ra rk rc],.agg #[.slice sa sk sc]]∧x28 = .agg #[.slice ra rk rc]∧x29 = undef∧Hid (Below W2.heap.size W2 w1∧W2.heap.size≤b8∧Cl b8 [.slice none 0 0] 64 w1∧LN w1 (.slice ra rk rc) Q))))∨(((∃ b9:Nat,∃ ra:Option Addr,∃ rk:Nat,∃ rc:Nat,∃ sa:Option Addr,∃ sk:Nat,∃ sc:Nat,n = 4∧l = #[true,true,true,true,true,true,false,false,true,false,false]∧x8 = undef∧x9 = .pointer (some ⟨b9,0,none⟩)∧x23 = .tuple #[.agg #[.slice ra rk rc],.agg #[.slice sa sk sc]]∧x25 = .agg #[.slice ba bk bc]∧x27 = .tuple #[.agg #[.slice ra rk rc],.agg #[.slice sa sk sc]]∧x28 = .agg #[.slice ra rk rc]∧x29 = undef∧Hid (Below W2.heap.size W2 w1∧W2.heap.size≤b9∧Cl b9 [.slice none 0 0] 64 w1∧LN w1 (.slice ra rk rc) Q))∨(∃ b8:Nat,∃ ra:Option Addr,∃ rk:Nat,∃ rc:Nat,∃ sa:Option Addr,∃ sk:Nat,∃ sc:Nat,n = 4∧l = #[true,true,true,true,true,false,true,true,false,false,false]∧x8 = .pointer (some ⟨b8,0,none⟩)∧x9 = undef∧x23 = .tuple #[.agg #[.slice ra rk rc],.agg #[.slice sa sk sc]]∧x25 = .agg #[.slice ba bk bc]∧x27 = .tuple #[.agg #[.slice ra rk rc],.agg #[.slice sa sk sc]]∧x28 = undef∧x29 = .agg #[.slice sa sk sc]∧Hid (Below W2.heap.size W2 w1∧W2.heap.size≤b8∧Cl b8 [.slice none 0 0] 64 w1∧LN w1 (.slice ra rk rc) Q)))∨((∃ b9:Nat,∃ ra:Option Addr,∃ rk:Nat,∃ rc:Nat,∃ sa:Option Addr,∃ sk:Nat,∃ sc:Nat,n = 4∧l = #[true,true,true,true,true,false,true,false,true,false,false]∧x8 = undef∧x9 = .pointer (some ⟨b9,0,none⟩)∧x23 = .tuple #[.agg #[.slice ra rk rc],.agg #[.slice sa sk sc]]∧x25 = .agg #[.slice ba bk bc]∧x27 = .tuple #[.agg #[.slice ra rk rc],.agg #[.slice sa sk sc]]∧x28 = undef∧x29 = .agg #[.slice sa sk sc]∧Hid (Below W2.heap.size W2 w1∧W2.heap.size≤b9∧Cl b9 [.slice none 0 0] 64 w1∧LN w1 (.slice ra rk rc) Q))∨(∃ b8:Nat,∃ b9:Nat,∃ ra:Option Addr,∃ rk:Nat,∃ rc:Nat,∃ sa:Option Addr,∃ sk:Nat,∃ sc:Nat,n = 4∧l = #[true,true,true,true,true,false,false,true,true,false,false]∧x8 = .pointer (some ⟨b8,0,none⟩)∧x9 = .pointer (some ⟨b9,0,none⟩)∧x23 = .tuple #[.agg #[.slice ra rk rc],.agg #[.slice sa sk sc]]∧x25 = .agg #[.slice ba bk bc]∧x27 = .tuple #[.agg #[.slice ra rk rc],.agg #[.slice sa sk sc]]∧x28 = undef∧x29 = undef∧Hid (Below W2.heap.size W2 w1∧W2.heap.size≤b8∧Cl b8 [.slice none 0 0] 64 w1∧W2.heap.size≤b9∧Cl b9 [.slice none 0 0] 64 w1∧b8 ≠ b9∧LN w1 (.slice ra rk rc) Q)))))∨((((∃ b8:Nat,∃ ra:Option Addr,∃ rk:Nat,∃ rc:Nat,∃ sa:Option Addr,∃ sk:Nat,∃ sc:Nat,n = 3∧l = #[true,true,true,true,true,true,true,true,false,false,false]∧x8 = .pointer (some ⟨b8,0,none⟩)∧x9 = undef∧x23 = .tuple #[.agg #[.slice ra rk rc],.agg #[.slice sa sk sc]]∧x25 = .agg #[.slice ba bk bc]∧x27 = .tuple #[.agg #[.slice ra rk rc],.agg #[.slice sa sk sc]]∧x28 = .agg #[.slice ra rk rc]∧x29 = .agg #[.slice sa sk sc]∧Hid (Below W2.heap.size W2 w1∧W2.heap.size≤b8∧Cl b8 [.slice none 0 0] 64 w1∧LN w1 (.slice ra rk rc) Q))∨(∃ b9:Nat,∃ ra:Option Addr,∃ rk:Nat,∃ rc:Nat,∃ sa:Option Addr,∃ sk:Nat,∃ sc:Nat,n = 3∧l = #[true,true,true,true,true,true,true,false,true,false,false]∧x8 = undef∧x9 = .pointer (some ⟨b9,0,none⟩)∧x23 = .tuple #[.agg #[.slice ra rk rc],.agg #[.slice sa sk sc]]∧x25 = .agg #[.slice ba bk bc]∧x27 = .tuple #[.agg #[.slice ra rk rc],.agg #[.slice sa sk sc]]∧x28 = .agg #[.slice ra rk rc]∧x29 = .agg #[.slice sa sk sc]∧Hid (Below W2.heap.size W2 w1∧W2.heap.size≤b9∧Cl b9 [.slice none 0 0] 64 w1∧LN w1 (.slice ra rk rc) Q)))∨((∃ b8:Nat,∃ b9:Nat,∃ ra:Option Addr,∃ rk:Nat,∃ rc:Nat,∃ sa:Option Addr,∃ sk:Nat,∃ sc:Nat,n = 3∧l = #[true,true,true,true,true,true,false,true,true,false,false]∧x8 = .pointer (some ⟨b8,0,none⟩)∧x9 = .pointer (some ⟨b9,0,none⟩)∧x23 = .tuple #[.agg #[.slice ra rk rc],.agg #[.slice sa sk sc]]∧x25 = .agg #[.slice ba bk bc]∧x27 = .tuple #[.agg #[.slice ra rk rc],.agg #[.slice sa sk sc]]∧x28 = .agg #[.slice ra rk rc]∧x29 = undef∧Hid (Below W2.heap.size W2 w1∧W2.heap.size≤b8∧Cl b8 [.slice none 0 0] 64 w1∧W2.heap.size≤b9∧Cl b9 [.slice none 0 0] 64 w1∧b8 ≠ b9∧LN w1 (.slice ra rk rc) Q))∨(∃ b8:Nat,∃ b9:Nat,∃ ra:Option Addr,∃ rk:Nat,∃ rc:Nat,∃ sa:Option Addr,∃ sk:Nat,∃ sc:Nat,n = 3∧l = #[true,true,true,true,true,false,true,true,true,false,false]∧x8 = .pointer (some ⟨b8,0,none⟩)∧x9 = .pointer (some ⟨b9,0,none⟩)∧x23 = .tuple #[.agg #[.slice ra rk rc],.agg #[.slice sa sk sc]]∧x25 = .agg #[.slice ba bk bc]∧x27 = .tuple #[.agg #[.slice ra rk rc],.agg #[.slice sa sk sc]]∧x28 = undef∧x29 = .agg #[.slice sa sk sc]∧Hid (Below W2.heap.size W2 w1∧W2.heap.size≤b8∧Cl b8 [.slice none 0 0] 64 w1∧W2.heap.size≤b9∧Cl b9 [.slice none 0 0] 64 w1∧b8 ≠ b9∧LN w1 (.slice ra rk rc) Q))))∨(((∃ b8:Nat,∃ b9:Nat,∃ ra:Option Addr,∃ rk:Nat,∃ rc:Nat,∃ sa:Option Addr,∃ sk:Nat,∃ sc:Nat,n = 2∧l = #[true,true,true,true,true,true,true,true,true,false,false]∧x8 = .pointer (some ⟨b8,0,none⟩)∧x9 = .pointer (some ⟨b9,0,none⟩)∧x23 = .tuple #[.agg #[.slice ra rk rc],.agg #[.slice sa sk sc]]∧x25 = .agg #[.slice ba bk bc]∧x27 = .tuple #[.agg #[.slice ra rk rc],.agg #[.slice sa sk sc]]∧x28 = .agg #[.slice ra rk rc]∧x29 = .agg #[.slice sa sk sc]∧Hid (Below W2.heap.size W2 w1∧W2.heap.size≤b8∧Cl b8 [.slice none 0 0] 64 w1∧W2.heap.size≤b9∧Cl b9 [.slice none 0 0] 64 w1∧b8 ≠ b9∧LN w1 (.slice ra rk rc) Q))∨(∃ b8:Nat,∃ b9:Nat,∃ ra:Option Addr,∃ rk:Nat,∃ rc:Nat,∃ sa:Option Addr,∃ sk:Nat,∃ sc:Nat,n = 2∧l = #[true,true,true,true,true,true,false,true,true,true,false]∧x8 = .pointer (some ⟨b8,0,none⟩)∧x9 = .pointer (some ⟨b9,0,none⟩)∧x23 = .tuple #[.agg #[.slice ra rk rc],.agg #[.slice sa sk sc]]∧x25 = .agg #[.slice ba bk bc]∧x27 = .tuple #[.agg #[.slice ra rk rc],.agg #[.slice sa sk sc]]∧x28 = .agg #[.slice ra rk rc]∧x29 = undef∧Hid (Below W2.heap.size W2 w1∧W2.heap.size≤b8∧Cl b8 [.slice ra rk rc] 64 w1∧W2.heap.size≤b9∧Cl b9 [.slice none 0 0] 64 w1∧b8 ≠ b9∧LN w1 (.slice ra rk rc) Q)))∨((∃ b8:Nat,∃ b9:Nat,∃ ra:Option Addr,∃ rk:Nat,∃ rc:Nat,∃ sa:Option Addr,∃ sk:Nat,∃ sc:Nat,n = 1∧l = #[true,true,true,true,true,true,true,true,true,true,false]∧x8 = .pointer (some ⟨b8,0,none⟩)∧x9 = .pointer (some ⟨b9,0,none⟩)∧x23 = .tuple #[.agg #[.slice ra rk rc],.agg #[.slice sa sk sc]]∧x25 = .agg #[.slice ba bk bc]∧x27 = .tuple #[.agg #[.slice ra rk rc],.agg #[.slice sa sk sc]]∧x28 = .agg #[.slice ra rk rc]∧x29 = .agg #[.slice sa sk sc]∧Hid (Below W2.heap.size W2 w1∧W2.heap.size≤b8∧Cl b8 [.slice ra rk rc] 64 w1∧W2.heap.size≤b9∧Cl b9 [.slice none 0 0] 64 w1∧b8 ≠ b9∧LN w1 (.slice ra rk rc) Q))∨(∃ b8:Nat,∃ b9:Nat,∃ ra:Option Addr,∃ rk:Nat,∃ rc:Nat,∃ sa:Option Addr,∃ sk:Nat,∃ sc:Nat,n = 0∧l = #[true,true,true,true,true,true,true,true,true,true,true]∧x8 = .pointer (some ⟨b8,0,none⟩)∧x9 = .pointer (some ⟨b9,0,none⟩)∧x23 = .tuple #[.agg #[.slice ra rk rc],.agg #[.slice sa sk sc]]∧x25 = .agg #[.slice ba bk bc]∧x27 = .tuple #[.agg #[.slice ra rk rc],.agg #[.slice sa sk sc]]∧x28 = .agg #[.slice ra rk rc]∧x29 = .agg #[.slice sa sk sc]∧Hid (Below W2.heap.size W2 w1∧W2.heap.size≤b8∧Cl b8 [.slice ra rk rc] 64 w1∧W2.heap.size≤b9∧Cl b9 [.slice sa sk sc] 64 w1∧b8 ≠ b9∧LN w1 (.slice ra rk rc) Q)))))))) ?steps _ _ _ _ ?start
     case start=>exact ⟨_,_,_,_,_,_,_,rfl,.inl (.inl (.inl (.inl (⟨rfl,rfl,rfl,rfl,rfl,rfl,rfl,rfl,rfl,(Below.refl _ _).drew⟩))))⟩
     case steps =>
      intro n l a w1 hI
      obtain ⟨x8,x9,x23,x25,x27,x28,x29,rfl,hI⟩:=hI
      rcases hI with ((((hI | (hI | hI)) | ((hI | hI) | (hI | hI))) | (((hI | hI) | (hI | hI)) | ((hI | hI) | (hI | hI)))) | ((((hI | hI) | (hI | hI)) | ((hI | hI) | (hI | hI))) | (((hI | hI) | (hI | hI)) | ((hI | hI) | (hI | hI)))))
      ·obtain ⟨rfl,rfl,rfl,rfl,rfl,rfl,rfl,rfl,rfl,HH⟩:=hI
       right
       refine ⟨8,[1,7,8],rfl,by kernel_rfl,by simp,fun i hi=>?_⟩
       simp only [List.mem_cons,List.not_mem_nil,or_false] at hi
       rcases hi with rfl | rfl | rfl
       ·refine ⟨_,rfl,fun K' hK=>?_⟩
        go_simp
        have K:=HH.out
        have zl:=K.size
        refine (HS2.out w1 (HA3.out.trans (K.mono HA3.out.size))).mono ?_
        rintro e w2 ⟨rfl,kk⟩
        refine hK.out _ _ (fun _ _=>HK2.out _ (K.trans (kk.mono zl))) (⟨_,_,_,_,_,_,_,rfl,.inl (.inl (.inl (.inr (.inl (⟨rfl,rfl,rfl,rfl,rfl,rfl,rfl,rfl,rfl,K.trans (kk.mono zl)⟩)))))⟩)
       ·refine ⟨_,rfl,fun K' hK=>?_⟩
        go_simp
        have K:=HH.out
        have zl:=K.size
        refine hK.out _ _ (fun _ _=>HK2.out _ (K.alloc zl _)) (⟨_,_,_,_,_,_,_,rfl,.inl (.inl (.inl (.inr (.inr (⟨w1.heap.size,rfl,rfl,rfl,rfl,rfl,rfl,rfl,rfl,rfl,K.alloc zl _,zl,Cl.new _ _ w1⟩)))))⟩)
       ·refine ⟨_,rfl,fun K' hK=>?_⟩
        go_simp
        have K:=HH.out
        have zl:=K.size
        refine hK.out _ _ (fun _ _=>HK2.out _ (K.alloc zl _)) (⟨_,_,_,_,_,_,_,rfl,.inl (.inl (.inr (.inl (.inl (⟨w1.heap.size,rfl,rfl,rfl,rfl,rfl,rfl,rfl,rfl,rfl,K.alloc zl _,zl,Cl.new _ _ w1⟩)))))⟩)
      ·obtain ⟨rfl,rfl,rfl,rfl,rfl,rfl,rfl,rfl,rfl,HH⟩:=hI
       right
       refine ⟨7,[3,7,8],rfl,by kernel_rfl,by simp,fun i hi=>?_⟩
       simp only [List.mem_cons,List.not_mem_nil,or_false] at hi
       rcases hi with rfl | rfl | rfl
       ·refine ⟨_,rfl,fun K' hK=>?_⟩
        go_simp
        have K:=HH.out
        have zl:=K.size
        refine (HDy.out w1 _ _ (H0.out.2.2.2.1.below (HA3.out.trans (K.mono HA3.out.size))) (HG1.out.2.below (HA2.out.trans (K.mono HA2.out.size)))).mono ?_
        rintro e w2 ⟨ra,rk,rc,sa,sk,sc,rfl,lnr,kk⟩
        refine hK.out _ _ (fun _ _=>HK2.out _ (K.trans (kk.mono zl))) (⟨_,_,_,_,_,_,_,rfl,.inl (.inl (.inr (.inl (.inr (⟨ra,rk,rc,sa,sk,sc,rfl,rfl,rfl,rfl,rfl,rfl,rfl,rfl,rfl,K.trans (kk.mono zl),lnr⟩)))))⟩)
       ·refine ⟨_,rfl,fun K' hK=>?_⟩
        go_simp
        have K:=HH.out
        have zl:=K.size
        refine hK.out _ _ (fun _ _=>HK2.out _ (K.alloc zl _)) (⟨_,_,_,_,_,_,_,rfl,.inl (.inl (.inr (.inr (.inl (⟨w1.heap.size,rfl,rfl,rfl,rfl,rfl,rfl,rfl,rfl,rfl,K.alloc zl _,zl,Cl.new _ _ w1⟩)))))⟩)
       ·refine ⟨_,rfl,fun K' hK=>?_⟩
        go_simp
        have K:=HH.out
        have zl:=K.size
        refine hK.out _ _ (fun _ _=>HK2.out _ (K.alloc zl _)) (⟨_,_,_,_,_,_,_,rfl,.inl (.inl (.inr (.inr (.inr (⟨w1.heap.size,rfl,rfl,rfl,rfl,rfl,rfl,rfl,rfl,rfl,K.alloc zl _,zl,Cl.new _ _ w1⟩)))))⟩)
      ·obtain ⟨b8,rfl,rfl,rfl,rfl,rfl,rfl,rfl,rfl,rfl,HH⟩:=hI
       right
       refine ⟨7,[1,8],rfl,by kernel_rfl,by simp,fun i hi=>?_⟩
       simp only [List.mem_cons,List.not_mem_nil,or_false] at hi
       rcases hi with rfl | rfl
       ·refine ⟨_,rfl,fun K' hK=>?_⟩
        go_simp
        obtain ⟨K,ge_b8,at_b8⟩:=HH.out
        have zl:=K.size
        refine (HS2.out w1 (HA3.out.trans (K.mono HA3.out.size))).mono ?_
        rintro e w2 ⟨rfl,kk⟩
        refine hK.out _ _ (fun _ _=>HK2.out _ (K.trans (kk.mono zl))) (⟨_,_,_,_,_,_,_,rfl,.inl (.inl (.inr (.inr (.inl (⟨b8,rfl,rfl,rfl,rfl,rfl,rfl,rfl,rfl,rfl,K.trans (kk.mono zl),ge_b8,at_b8.below kk⟩)))))⟩)
       ·refine ⟨_,rfl,fun K' hK=>?_⟩
        go_simp
        obtain ⟨K,ge_b8,at_b8⟩:=HH.out
        have zl:=K.size
        refine hK.out _ _ (fun _ _=>HK2.out _ (K.alloc zl _)) (⟨_,_,_,_,_,_,_,rfl,.inl (.inr (.inl (.inl (.inl (⟨b8,w1.heap.size,rfl,rfl,rfl,rfl,rfl,rfl,rfl,rfl,rfl,K.alloc zl _,ge_b8,at_b8.alloc _,zl,Cl.new _ _ w1,(Nat.ne_of_lt at_b8.lt)⟩)))))⟩)
      ·obtain ⟨b9,rfl,rfl,rfl,rfl,rfl,rfl,rfl,rfl,rfl,HH⟩:=hI
       right
       refine ⟨7,[1,7],rfl,by kernel_rfl,by simp,fun i hi=>?_⟩
       simp only [List.mem_cons,List.not_mem_nil,or_false] at hi
       rcases hi with rfl | rfl
       ·refine ⟨_,rfl,fun K' hK=>?_⟩
        go_simp
        obtain ⟨K,ge_b9,at_b9⟩:=HH.out
        have zl:=K.size
        refine (HS2.out w1 (HA3.out.trans (K.mono HA3.out.size))).mono ?_
        rintro e w2 ⟨rfl,kk⟩
        refine hK.out _ _ (fun _ _=>HK2.out _ (K.trans (kk.mono zl))) (⟨_,_,_,_,_,_,_,rfl,.inl (.inl (.inr (.inr (.inr (⟨b9,rfl,rfl,rfl,rfl,rfl,rfl,rfl,rfl,rfl,K.trans (kk.mono zl),ge_b9,at_b9.below kk⟩)))))⟩)
       ·refine ⟨_,rfl,fun K' hK=>?_⟩
        go_simp
        obtain ⟨K,ge_b9,at_b9⟩:=HH.out
        have zl:=K.size
        refine hK.out _ _ (fun _ _=>HK2.out _ (K.alloc zl _)) (⟨_,_,_,_,_,_,_,rfl,.inl (.inr (.inl (.inl (.inl (⟨w1.heap.size,b9,rfl,rfl,rfl,rfl,rfl,rfl,rfl,rfl,rfl,K.alloc zl _,zl,Cl.new _ _ w1,ge_b9,at_b9.alloc _,(Nat.ne_of_gt at_b9.lt)⟩)))))⟩)
      ·obtain ⟨ra,rk,rc,sa,sk,sc,rfl,rfl,rfl,rfl,rfl,rfl,rfl,rfl,rfl,HH⟩:=hI
       right
       refine ⟨6,[4,7,8],rfl,by kernel_rfl,by simp,fun i hi=>?_⟩
       simp only [List.mem_cons,List.not_mem_nil,or_false] at hi
       rcases hi with rfl | rfl | rfl
       ·refine ⟨_,rfl,fun K' hK=>?_⟩
        go_simp
        obtain ⟨K,lnr⟩:=HH.out
        refine hK.out _ _ (fun _ _=>HK2.out _ K) (⟨_,_,_,_,_,_,_,rfl,.inl (.inr (.inl (.inl (.inr (⟨ra,rk,rc,sa,sk,sc,rfl,rfl,rfl,rfl,rfl,rfl,rfl,rfl,rfl,K,lnr⟩)))))⟩)
       ·refine ⟨_,rfl,fun K' hK=>?_⟩
        go_simp
        obtain ⟨K,lnr⟩:=HH.out
        have zl:=K.size
        refine hK.out _ _ (fun _ _=>HK2.out _ (K.alloc zl _)) (⟨_,_,_,_,_,_,_,rfl,.inl (.inr (.inl (.inr (.inl (⟨w1.heap.size,ra,rk,rc,sa,sk,sc,rfl,rfl,rfl,rfl,rfl,rfl,rfl,rfl,rfl,K.alloc zl _,zl,Cl.new _ _ w1,lnr.below ((Below.refl _ _).alloc (Nat.le_refl _) _)⟩)))))⟩)
       ·refine ⟨_,rfl,fun K' hK=>?_⟩
        go_simp
        obtain ⟨K,lnr⟩:=HH.out
        have zl:=K.size
        refine hK.out _ _ (fun _ _=>HK2.out _ (K.alloc zl _)) (⟨_,_,_,_,_,_,_,rfl,.inl (.inr (.inl (.inr (.inr (⟨w1.heap.size,ra,rk,rc,sa,sk,sc,rfl,rfl,rfl,rfl,rfl,rfl,rfl,rfl,rfl,K.alloc zl _,zl,Cl.new _ _ w1,lnr.below ((Below.refl _ _).alloc (Nat.le_refl _) _)⟩)))))⟩)
      ·obtain ⟨b8,rfl,rfl,rfl,rfl,rfl,rfl,rfl,rfl,rfl,HH⟩:=hI
       right
       refine ⟨6,[3,8],rfl,by kernel_rfl,by simp,fun i hi=>?_⟩
       simp only [List.mem_cons,List.not_mem_nil,or_false] at hi
       rcases hi with rfl | rfl
       ·refine ⟨_,rfl,fun K' hK=>?_⟩
        go_simp
        obtain ⟨K,ge_b8,at_b8⟩:=HH.out
        have zl:=K.size
        refine (HDy.out w1 _ _ (H0.out.2.2.2.1.below (HA3.out.trans (K.mono HA3.out.size))) (HG1.out.2.below (HA2.out.trans (K.mono HA2.out.size)))).mono ?_
        rintro e w2 ⟨ra,rk,rc,sa,sk,sc,rfl,lnr,kk⟩
        refine hK.out _ _ (fun _ _=>HK2.out _ (K.trans (kk.mono zl))) (⟨_,_,_,_,_,_,_,rfl,.inl (.inr (.inl (.inr (.inl (⟨b8,ra,rk,rc,sa,sk,sc,rfl,rfl,rfl,rfl,rfl,rfl,rfl,rfl,rfl,K.trans (kk.mono zl),ge_b8,at_b8.below kk,lnr⟩)))))⟩)
       ·refine ⟨_,rfl,fun K' hK=>?_⟩
        go_simp
        obtain ⟨K,ge_b8,at_b8⟩:=HH.out
        have zl:=K.size
        refine hK.out _ _ (fun _ _=>HK2.out _ (K.alloc zl _)) (⟨_,_,_,_,_,_,_,rfl,.inl (.inr (.inr (.inl (.inl (⟨b8,w1.heap.size,rfl,rfl,rfl,rfl,rfl,rfl,rfl,rfl,rfl,K.alloc zl _,ge_b8,at_b8.alloc _,zl,Cl.new _ _ w1,(Nat.ne_of_lt at_b8.lt)⟩)))))⟩)
      ·obtain ⟨b9,rfl,rfl,rfl,rfl,rfl,rfl,rfl,rfl,rfl,HH⟩:=hI
       right
       refine ⟨6,[3,7],rfl,by kernel_rfl,by simp,fun i hi=>?_⟩
       simp only [List.mem_cons,List.not_mem_nil,or_false] at hi
       rcases hi with rfl | rfl
       ·refine ⟨_,rfl,fun K' hK=>?_⟩
        go_simp
        obtain ⟨K,ge_b9,at_b9⟩:=HH.out
        have zl:=K.size
        refine (HDy.out w1 _ _ (H0.out.2.2.2.1.below (HA3.out.trans (K.mono HA3.out.size))) (HG1.out.2.below (HA2.out.trans (K.mono HA2.out.size)))).mono ?_
        rintro e w2 ⟨ra,rk,rc,sa,sk,sc,rfl,lnr,kk⟩
        refine hK.out _ _ (fun _ _=>HK2.out _ (K.trans (kk.mono zl))) (⟨_,_,_,_,_,_,_,rfl,.inl (.inr (.inl (.inr (.inr (⟨b9,ra,rk,rc,sa,sk,sc,rfl,rfl,rfl,rfl,rfl,rfl,rfl,rfl,rfl,K.trans (kk.mono zl),ge_b9,at_b9.below kk,lnr⟩)))))⟩)
       ·refine ⟨_,rfl,fun K' hK=>?_⟩
        go_simp
        obtain ⟨K,ge_b9,at_b9⟩:=HH.out
        have zl:=K.size
        refine hK.out _ _ (fun _ _=>HK2.out _ (K.alloc zl _)) (⟨_,_,_,_,_,_,_,rfl,.inl (.inr (.inr (.inl (.inl (⟨w1.heap.size,b9,rfl,rfl,rfl,rfl,rfl,rfl,rfl,rfl,rfl,K.alloc zl _,zl,Cl.new _ _ w1,ge_b9,at_b9.alloc _,(Nat.ne_of_gt at_b9.lt)⟩)))))⟩)
      ·obtain ⟨b8,b9,rfl,rfl,rfl,rfl,rfl,rfl,rfl,rfl,rfl,HH⟩:=hI
       right
       refine ⟨6,[1],rfl,by kernel_rfl,by simp,fun i hi=>?_⟩
       simp only [List.mem_cons,List.not_mem_nil,or_false] at hi
       subst hi
       refine ⟨_,rfl,fun K' hK=>?_⟩
       go_simp
       obtain ⟨K,ge_b8,at_b8,ge_b9,at_b9,ne_b8_b9⟩:=HH.out
       have zl:=K.size
       refine (HS2.out w1 (HA3.out.trans (K.mono HA3.out.size))).mono ?_
       rintro e w2 ⟨rfl,kk⟩
       refine hK.out _ _ (fun _ _=>HK2.out _ (K.trans (kk.mono zl))) (⟨_,_,_,_,_,_,_,rfl,.inl (.inr (.inr (.inl (.inl (⟨b8,b9,rfl,rfl,rfl,rfl,rfl,rfl,rfl,rfl,rfl,K.trans (kk.mono zl),ge_b8,at_b8.below kk,ge_b9,at_b9.below kk,ne_b8_b9⟩)))))⟩)
      ·obtain ⟨ra,rk,rc,sa,sk,sc,rfl,rfl,rfl,rfl,rfl,rfl,rfl,rfl,rfl,HH⟩:=hI
       right
       refine ⟨5,[5,6,7,8],rfl,by kernel_rfl,by simp,fun i hi=>?_⟩
       simp only [List.mem_cons,List.not_mem_nil,or_false] at hi
       rcases hi with rfl | rfl | rfl | rfl
       ·refine ⟨_,rfl,fun K' hK=>?_⟩
        go_simp
        obtain ⟨K,lnr⟩:=HH.out
        refine hK.out _ _ (fun _ _=>HK2.out _ K) (⟨_,_,_,_,_,_,_,rfl,.inl (.inr (.inr (.inl (.inr (⟨ra,rk,rc,sa,sk,sc,rfl,rfl,rfl,rfl,rfl,rfl,rfl,rfl,rfl,K,lnr⟩)))))⟩)
       ·refine ⟨_,rfl,fun K' hK=>?_⟩
        go_simp
        obtain ⟨K,lnr⟩:=HH.out
        refine hK.out _ _ (fun _ _=>HK2.out _ K) (⟨_,_,_,_,_,_,_,rfl,.inl (.inr (.inr (.inr (.inl (⟨ra,rk,rc,sa,sk,sc,rfl,rfl,rfl,rfl,rfl,rfl,rfl,rfl,rfl,K,lnr⟩)))))⟩)
       ·refine ⟨_,rfl,fun K' hK=>?_⟩
        go_simp
        obtain ⟨K,lnr⟩:=HH.out
        have zl:=K.size
        refine hK.out _ _ (fun _ _=>HK2.out _ (K.alloc zl _)) (⟨_,_,_,_,_,_,_,rfl,.inl (.inr (.inr (.inr (.inr (⟨w1.heap.size,ra,rk,rc,sa,sk,sc,rfl,rfl,rfl,rfl,rfl,rfl,rfl,rfl,rfl,K.alloc zl _,zl,Cl.new _ _ w1,lnr.below ((Below.refl _ _).alloc (Nat.le_refl _) _)⟩)))))⟩)
       ·refine ⟨_,rfl,fun K' hK=>?_⟩
        go_simp
        obtain ⟨K,lnr⟩:=HH.out
        have zl:=K.size
        refine hK.out _ _ (fun _ _=>HK2.out _ (K.alloc zl _)) (⟨_,_,_,_,_,_,_,rfl,.inr (.inl (.inl (.inl (.inl (⟨w1.heap.size,ra,rk,rc,sa,sk,sc,rfl,rfl,rfl,rfl,rfl,rfl,rfl,rfl,rfl,K.alloc zl _,zl,Cl.new _ _ w1,lnr.below ((Below.refl _ _).alloc (Nat.le_refl _) _)⟩)))))⟩)
      ·obtain ⟨b8,ra,rk,rc,sa,sk,sc,rfl,rfl,rfl,rfl,rfl,rfl,rfl,rfl,rfl,HH⟩:=hI
       right
       refine ⟨5,[4,8],rfl,by kernel_rfl,by simp,fun i hi=>?_⟩
       simp only [List.mem_cons,List.not_mem_nil,or_false] at hi
       rcases hi with rfl | rfl
       ·refine ⟨_,rfl,fun K' hK=>?_⟩
        go_simp
        obtain ⟨K,ge_b8,at_b8,lnr⟩:=HH.out
        refine hK.out _ _ (fun _ _=>HK2.out _ K) (⟨_,_,_,_,_,_,_,rfl,.inl (.inr (.inr (.inr (.inr (⟨b8,ra,rk,rc,sa,sk,sc,rfl,rfl,rfl,rfl,rfl,rfl,rfl,rfl,rfl,K,ge_b8,at_b8,lnr⟩)))))⟩)
       ·refine ⟨_,rfl,fun K' hK=>?_⟩
        go_simp
        obtain ⟨K,ge_b8,at_b8,lnr⟩:=HH.out
        have zl:=K.size
        refine hK.out _ _ (fun _ _=>HK2.out _ (K.alloc zl _)) (⟨_,_,_,_,_,_,_,rfl,.inr (.inl (.inl (.inl (.inr (⟨b8,w1.heap.size,ra,rk,rc,sa,sk,sc,rfl,rfl,rfl,rfl,rfl,rfl,rfl,rfl,rfl,K.alloc zl _,ge_b8,at_b8.alloc _,zl,Cl.new _ _ w1,(Nat.ne_of_lt at_b8.lt),lnr.below ((Below.refl _ _).alloc (Nat.le_refl _) _)⟩)))))⟩)
      ·obtain ⟨b9,ra,rk,rc,sa,sk,sc,rfl,rfl,rfl,rfl,rfl,rfl,rfl,rfl,rfl,HH⟩:=hI
       right
       refine ⟨5,[4,7],rfl,by kernel_rfl,by simp,fun i hi=>?_⟩
       simp only [List.mem_cons,List.not_mem_nil,or_false] at hi
       rcases hi with rfl | rfl
       ·refine ⟨_,rfl,fun K' hK=>?_⟩
        go_simp
        obtain ⟨K,ge_b9,at_b9,lnr⟩:=HH.out
        refine hK.out _ _ (fun _ _=>HK2.out _ K) (⟨_,_,_,_,_,_,_,rfl,.inr (.inl (.inl (.inl (.inl (⟨b9,ra,rk,rc,sa,sk,sc,rfl,rfl,rfl,rfl,rfl,rfl,rfl,rfl,rfl,K,ge_b9,at_b9,lnr⟩)))))⟩)
       ·refine ⟨_,rfl,fun K' hK=>?_⟩
        go_simp
        obtain ⟨K,ge_b9,at_b9,lnr⟩:=HH.out
        have zl:=K.size
        refine hK.out _ _ (fun _ _=>HK2.out _ (K.alloc zl _)) (⟨_,_,_,_,_,_,_,rfl,.inr (.inl (.inl (.inl (.inr (⟨w1.heap.size,b9,ra,rk,rc,sa,sk,sc,rfl,rfl,rfl,rfl,rfl,rfl,rfl,rfl,rfl,K.alloc zl _,zl,Cl.new _ _ w1,ge_b9,at_b9.alloc _,(Nat.ne_of_gt at_b9.lt),lnr.below ((Below.refl _ _).alloc (Nat.le_refl _) _)⟩)))))⟩)
      ·obtain ⟨b8,b9,rfl,rfl,rfl,rfl,rfl,rfl,rfl,rfl,rfl,HH⟩:=hI
       right
       refine ⟨5,[3],rfl,by kernel_rfl,by simp,fun i hi=>?_⟩
       simp only [List.mem_cons,List.not_mem_nil,or_false] at hi
       subst hi
       refine ⟨_,rfl,fun K' hK=>?_⟩
       go_simp
       obtain ⟨K,ge_b8,at_b8,ge_b9,at_b9,ne_b8_b9⟩:=HH.out
       have zl:=K.size
       refine (HDy.out w1 _ _ (H0.out.2.2.2.1.below (HA3.out.trans (K.mono HA3.out.size))) (HG1.out.2.below (HA2.out.trans (K.mono HA2.out.size)))).mono ?_
       rintro e w2 ⟨ra,rk,rc,sa,sk,sc,rfl,lnr,kk⟩
       refine hK.out _ _ (fun _ _=>HK2.out _ (K.trans (kk.mono zl))) (⟨_,_,_,_,_,_,_,rfl,.inr (.inl (.inl (.inl (.inr (⟨b8,b9,ra,rk,rc,sa,sk,sc,rfl,rfl,rfl,rfl,rfl,rfl,rfl,rfl,rfl,K.trans (kk.mono zl),ge_b8,at_b8.below kk,ge_b9,at_b9.below kk,ne_b8_b9,lnr⟩)))))⟩)
      ·obtain ⟨ra,rk,rc,sa,sk,sc,rfl,rfl,rfl,rfl,rfl,rfl,rfl,rfl,rfl,HH⟩:=hI
       right
       refine ⟨4,[6,7,8],rfl,by kernel_rfl,by simp,fun i hi=>?_⟩
       simp only [List.mem_cons,List.not_mem_nil,or_false] at hi
       rcases hi with rfl | rfl | rfl
       ·refine ⟨_,rfl,fun K' hK=>?_⟩
        go_simp
        obtain ⟨K,lnr⟩:=HH.out
        refine hK.out _ _ (fun _ _=>HK2.out _ K) (⟨_,_,_,_,_,_,_,rfl,.inr (.inl (.inl (.inr (.inl (⟨ra,rk,rc,sa,sk,sc,rfl,rfl,rfl,rfl,rfl,rfl,rfl,rfl,rfl,K,lnr⟩)))))⟩)
       ·refine ⟨_,rfl,fun K' hK=>?_⟩
        go_simp
        obtain ⟨K,lnr⟩:=HH.out
        have zl:=K.size
        refine hK.out _ _ (fun _ _=>HK2.out _ (K.alloc zl _)) (⟨_,_,_,_,_,_,_,rfl,.inr (.inl (.inl (.inr (.inr (⟨w1.heap.size,ra,rk,rc,sa,sk,sc,rfl,rfl,rfl,rfl,rfl,rfl,rfl,rfl,rfl,K.alloc zl _,zl,Cl.new _ _ w1,lnr.below ((Below.refl _ _).alloc (Nat.le_refl _) _)⟩)))))⟩)
       ·refine ⟨_,rfl,fun K' hK=>?_⟩
        go_simp
        obtain ⟨K,lnr⟩:=HH.out
        have zl:=K.size
        refine hK.out _ _ (fun _ _=>HK2.out _ (K.alloc zl _)) (⟨_,_,_,_,_,_,_,rfl,.inr (.inl (.inr (.inl (.inl (⟨w1.heap.size,ra,rk,rc,sa,sk,sc,rfl,rfl,rfl,rfl,rfl,rfl,rfl,rfl,rfl,K.alloc zl _,zl,Cl.new _ _ w1,lnr.below ((Below.refl _ _).alloc (Nat.le_refl _) _)⟩)))))⟩)
      ·obtain ⟨ra,rk,rc,sa,sk,sc,rfl,rfl,rfl,rfl,rfl,rfl,rfl,rfl,rfl,HH⟩:=hI
       right
       refine ⟨4,[5,7,8],rfl,by kernel_rfl,by simp,fun i hi=>?_⟩
       simp only [List.mem_cons,List.not_mem_nil,or_false] at hi
       rcases hi with rfl | rfl | rfl
       ·refine ⟨_,rfl,fun K' hK=>?_⟩
        go_simp
        obtain ⟨K,lnr⟩:=HH.out
        refine hK.out _ _ (fun _ _=>HK2.out _ K) (⟨_,_,_,_,_,_,_,rfl,.inr (.inl (.inl (.inr (.inl (⟨ra,rk,rc,sa,sk,sc,rfl,rfl,rfl,rfl,rfl,rfl,rfl,rfl,rfl,K,lnr⟩)))))⟩)
       ·refine ⟨_,rfl,fun K' hK=>?_⟩
        go_simp
        obtain ⟨K,lnr⟩:=HH.out
        have zl:=K.size
        refine hK.out _ _ (fun _ _=>HK2.out _ (K.alloc zl _)) (⟨_,_,_,_,_,_,_,rfl,.inr (.inl (.inr (.inl (.inr (⟨w1.heap.size,ra,rk,rc,sa,sk,sc,rfl,rfl,rfl,rfl,rfl,rfl,rfl,rfl,rfl,K.alloc zl _,zl,Cl.new _ _ w1,lnr.below ((Below.refl _ _).alloc (Nat.le_refl _) _)⟩)))))⟩)
       ·refine ⟨_,rfl,fun K' hK=>?_⟩
        go_simp
        obtain ⟨K,lnr⟩:=HH.out
        have zl:=K.size
        refine hK.out _ _ (fun _ _=>HK2.out _ (K.alloc zl _)) (⟨_,_,_,_,_,_,_,rfl,.inr (.inl (.inr (.inr (.inl (⟨w1.heap.size,ra,rk,rc,sa,sk,sc,rfl,rfl,rfl,rfl,rfl,rfl,rfl,rfl,rfl,K.alloc zl _,zl,Cl.new _ _ w1,lnr.below ((Below.refl _ _).alloc (Nat.le_refl _) _)⟩)))))⟩)
      ·obtain ⟨b8,ra,rk,rc,sa,sk,sc,rfl,rfl,rfl,rfl,rfl,rfl,rfl,rfl,rfl,HH⟩:=hI
       right
       refine ⟨4,[5,6,8],rfl,by kernel_rfl,by simp,fun i hi=>?_⟩
       simp only [List.mem_cons,List.not_mem_nil,or_false] at hi
       rcases hi with rfl | rfl | rfl
       ·refine ⟨_,rfl,fun K' hK=>?_⟩
        go_simp
        obtain ⟨K,ge_b8,at_b8,lnr⟩:=HH.out
        refine hK.out _ _ (fun _ _=>HK2.out _ K) (⟨_,_,_,_,_,_,_,rfl,.inr (.inl (.inl (.inr (.inr (⟨b8,ra,rk,rc,sa,sk,sc,rfl,rfl,rfl,rfl,rfl,rfl,rfl,rfl,rfl,K,ge_b8,at_b8,lnr⟩)))))⟩)
       ·refine ⟨_,rfl,fun K' hK=>?_⟩
        go_simp
        obtain ⟨K,ge_b8,at_b8,lnr⟩:=HH.out
        refine hK.out _ _ (fun _ _=>HK2.out _ K) (⟨_,_,_,_,_,_,_,rfl,.inr (.inl (.inr (.inl (.inr (⟨b8,ra,rk,rc,sa,sk,sc,rfl,rfl,rfl,rfl,rfl,rfl,rfl,rfl,rfl,K,ge_b8,at_b8,lnr⟩)))))⟩)
       ·refine ⟨_,rfl,fun K' hK=>?_⟩
        go_simp
        obtain ⟨K,ge_b8,at_b8,lnr⟩:=HH.out
        have zl:=K.size
        refine hK.out _ _ (fun _ _=>HK2.out _ (K.alloc zl _)) (⟨_,_,_,_,_,_,_,rfl,.inr (.inl (.inr (.inr (.inr (⟨b8,w1.heap.size,ra,rk,rc,sa,sk,sc,rfl,rfl,rfl,rfl,rfl,rfl,rfl,rfl,rfl,K.alloc zl _,ge_b8,at_b8.alloc _,zl,Cl.new _ _ w1,(Nat.ne_of_lt at_b8.lt),lnr.below ((Below.refl _ _).alloc (Nat.le_refl _) _)⟩)))))⟩)
      ·obtain ⟨b9,ra,rk,rc,sa,sk,sc,rfl,rfl,rfl,rfl,rfl,rfl,rfl,rfl,rfl,HH⟩:=hI
       right
       refine ⟨4,[5,6,7],rfl,by kernel_rfl,by simp,fun i hi=>?_⟩
       simp only [List.mem_cons,List.not_mem_nil,or_false] at hi
       rcases hi with rfl | rfl | rfl
       ·refine ⟨_,rfl,fun K' hK=>?_⟩
        go_simp
        obtain ⟨K,ge_b9,at_b9,lnr⟩:=HH.out
        refine hK.out _ _ (fun _ _=>HK2.out _ K) (⟨_,_,_,_,_,_,_,rfl,.inr (.inl (.inr (.inl (.inl (⟨b9,ra,rk,rc,sa,sk,sc,rfl,rfl,rfl,rfl,rfl,rfl,rfl,rfl,rfl,K,ge_b9,at_b9,lnr⟩)))))⟩)
       ·refine ⟨_,rfl,fun K' hK=>?_⟩
        go_simp
        obtain ⟨K,ge_b9,at_b9,lnr⟩:=HH.out
        refine hK.out _ _ (fun _ _=>HK2.out _ K) (⟨_,_,_,_,_,_,_,rfl,.inr (.inl (.inr (.inr (.inl (⟨b9,ra,rk,rc,sa,sk,sc,rfl,rfl,rfl,rfl,rfl,rfl,rfl,rfl,rfl,K,ge_b9,at_b9,lnr⟩)))))⟩)
       ·refine ⟨_,rfl,fun K' hK=>?_⟩
        go_simp
        obtain ⟨K,ge_b9,at_b9,lnr⟩:=HH.out
        have zl:=K.size
        refine hK.out _ _ (fun _ _=>HK2.out _ (K.alloc zl _)) (⟨_,_,_,_,_,_,_,rfl,.inr (.inl (.inr (.inr (.inr (⟨w1.heap.size,b9,ra,rk,rc,sa,sk,sc,rfl,rfl,rfl,rfl,rfl,rfl,rfl,rfl,rfl,K.alloc zl _,zl,Cl.new _ _ w1,ge_b9,at_b9.alloc _,(Nat.ne_of_gt at_b9.lt),lnr.below ((Below.refl _ _).alloc (Nat.le_refl _) _)⟩)))))⟩)
      ·obtain ⟨b8,b9,ra,rk,rc,sa,sk,sc,rfl,rfl,rfl,rfl,rfl,rfl,rfl,rfl,rfl,HH⟩:=hI
       right
       refine ⟨4,[4],rfl,by kernel_rfl,by simp,fun i hi=>?_⟩
       simp only [List.mem_cons,List.not_mem_nil,or_false] at hi
       subst hi
       refine ⟨_,rfl,fun K' hK=>?_⟩
       go_simp
       obtain ⟨K,ge_b8,at_b8,ge_b9,at_b9,ne_b8_b9,lnr⟩:=HH.out
       refine hK.out _ _ (fun _ _=>HK2.out _ K) (⟨_,_,_,_,_,_,_,rfl,.inr (.inl (.inr (.inr (.inr (⟨b8,b9,ra,rk,rc,sa,sk,sc,rfl,rfl,rfl,rfl,rfl,rfl,rfl,rfl,rfl,K,ge_b8,at_b8,ge_b9,at_b9,ne_b8_b9,lnr⟩)))))⟩)
      ·obtain ⟨ra,rk,rc,sa,sk,sc,rfl,rfl,rfl,rfl,rfl,rfl,rfl,rfl,rfl,HH⟩:=hI
       right
       refine ⟨3,[7,8],rfl,by kernel_rfl,by simp,fun i hi=>?_⟩
       simp only [List.mem_cons,List.not_mem_nil,or_false] at hi
       rcases hi with rfl | rfl
       ·refine ⟨_,rfl,fun K' hK=>?_⟩
        go_simp
        obtain ⟨K,lnr⟩:=HH.out
        have zl:=K.size
        refine hK.out _ _ (fun _ _=>HK2.out _ (K.alloc zl _)) (⟨_,_,_,_,_,_,_,rfl,.inr (.inr (.inl (.inl (.inl (⟨w1.heap.size,ra,rk,rc,sa,sk,sc,rfl,rfl,rfl,rfl,rfl,rfl,rfl,rfl,rfl,K.alloc zl _,zl,Cl.new _ _ w1,lnr.below ((Below.refl _ _).alloc (Nat.le_refl _) _)⟩)))))⟩)
       ·refine ⟨_,rfl,fun K' hK=>?_⟩
        go_simp
        obtain ⟨K,lnr⟩:=HH.out
        have zl:=K.size
        refine hK.out _ _ (fun _ _=>HK2.out _ (K.alloc zl _)) (⟨_,_,_,_,_,_,_,rfl,.inr (.inr (.inl (.inl (.inr (⟨w1.heap.size,ra,rk,rc,sa,sk,sc,rfl,rfl,rfl,rfl,rfl,rfl,rfl,rfl,rfl,K.alloc zl _,zl,Cl.new _ _ w1,lnr.below ((Below.refl _ _).alloc (Nat.le_refl _) _)⟩)))))⟩)
      ·obtain ⟨b8,ra,rk,rc,sa,sk,sc,rfl,rfl,rfl,rfl,rfl,rfl,rfl,rfl,rfl,HH⟩:=hI
       right
       refine ⟨3,[6,8],rfl,by kernel_rfl,by simp,fun i hi=>?_⟩
       simp only [List.mem_cons,List.not_mem_nil,or_false] at hi
       rcases hi with rfl | rfl
       ·refine ⟨_,rfl,fun K' hK=>?_⟩
        go_simp
        obtain ⟨K,ge_b8,at_b8,lnr⟩:=HH.out
        refine hK.out _ _ (fun _ _=>HK2.out _ K) (⟨_,_,_,_,_,_,_,rfl,.inr (.inr (.inl (.inl (.inl (⟨b8,ra,rk,rc,sa,sk,sc,rfl,rfl,rfl,rfl,rfl,rfl,rfl,rfl,rfl,K,ge_b8,at_b8,lnr⟩)))))⟩)
       ·refine ⟨_,rfl,fun K' hK=>?_⟩
        go_simp
        obtain ⟨K,ge_b8,at_b8,lnr⟩:=HH.out
        have zl:=K.size
        refine hK.out _ _ (fun _ _=>HK2.out _ (K.alloc zl _)) (⟨_,_,_,_,_,_,_,rfl,.inr (.inr (.inl (.inr (.inl (⟨b8,w1.heap.size,ra,rk,rc,sa,sk,sc,rfl,rfl,rfl,rfl,rfl,rfl,rfl,rfl,rfl,K.alloc zl _,ge_b8,at_b8.alloc _,zl,Cl.new _ _ w1,(Nat.ne_of_lt at_b8.lt),lnr.below ((Below.refl _ _).alloc (Nat.le_refl _) _)⟩)))))⟩)
      ·obtain ⟨b9,ra,rk,rc,sa,sk,sc,rfl,rfl,rfl,rfl,rfl,rfl,rfl,rfl,rfl,HH⟩:=hI
       right
       refine ⟨3,[6,7],rfl,by kernel_rfl,by simp,fun i hi=>?_⟩
       simp only [List.mem_cons,List.not_mem_nil,or_false] at hi
       rcases hi with rfl | rfl
       ·refine ⟨_,rfl,fun K' hK=>?_⟩
        go_simp
        obtain ⟨K,ge_b9,at_b9,lnr⟩:=HH.out
        refine hK.out _ _ (fun _ _=>HK2.out _ K) (⟨_,_,_,_,_,_,_,rfl,.inr (.inr (.inl (.inl (.inr (⟨b9,ra,rk,rc,sa,sk,sc,rfl,rfl,rfl,rfl,rfl,rfl,rfl,rfl,rfl,K,ge_b9,at_b9,lnr⟩)))))⟩)
       ·refine ⟨_,rfl,fun K' hK=>?_⟩
        go_simp
        obtain ⟨K,ge_b9,at_b9,lnr⟩:=HH.out
        have zl:=K.size
        refine hK.out _ _ (fun _ _=>HK2.out _ (K.alloc zl _)) (⟨_,_,_,_,_,_,_,rfl,.inr (.inr (.inl (.inr (.inl (⟨w1.heap.size,b9,ra,rk,rc,sa,sk,sc,rfl,rfl,rfl,rfl,rfl,rfl,rfl,rfl,rfl,K.alloc zl _,zl,Cl.new _ _ w1,ge_b9,at_b9.alloc _,(Nat.ne_of_gt at_b9.lt),lnr.below ((Below.refl _ _).alloc (Nat.le_refl _) _)⟩)))))⟩)
      ·obtain ⟨b8,ra,rk,rc,sa,sk,sc,rfl,rfl,rfl,rfl,rfl,rfl,rfl,rfl,rfl,HH⟩:=hI
       right
       refine ⟨3,[5,8],rfl,by kernel_rfl,by simp,fun i hi=>?_⟩
       simp only [List.mem_cons,List.not_mem_nil,or_false] at hi
       rcases hi with rfl | rfl
       ·refine ⟨_,rfl,fun K' hK=>?_⟩
        go_simp
        obtain ⟨K,ge_b8,at_b8,lnr⟩:=HH.out
        refine hK.out _ _ (fun _ _=>HK2.out _ K) (⟨_,_,_,_,_,_,_,rfl,.inr (.inr (.inl (.inl (.inl (⟨b8,ra,rk,rc,sa,sk,sc,rfl,rfl,rfl,rfl,rfl,rfl,rfl,rfl,rfl,K,ge_b8,at_b8,lnr⟩)))))⟩)
       ·refine ⟨_,rfl,fun K' hK=>?_⟩
        go_simp
        obtain ⟨K,ge_b8,at_b8,lnr⟩:=HH.out
        have zl:=K.size
        refine hK.out _ _ (fun _ _=>HK2.out _ (K.alloc zl _)) (⟨_,_,_,_,_,_,_,rfl,.inr (.inr (.inl (.inr (.inr (⟨b8,w1.heap.size,ra,rk,rc,sa,sk,sc,rfl,rfl,rfl,rfl,rfl,rfl,rfl,rfl,rfl,K.alloc zl _,ge_b8,at_b8.alloc _,zl,Cl.new _ _ w1,(Nat.ne_of_lt at_b8.lt),lnr.below ((Below.refl _ _).alloc (Nat.le_refl _) _)⟩)))))⟩)
      ·obtain ⟨b9,ra,rk,rc,sa,sk,sc,rfl,rfl,rfl,rfl,rfl,rfl,rfl,rfl,rfl,HH⟩:=hI
       right
       refine ⟨3,[5,7],rfl,by kernel_rfl,by simp,fun i hi=>?_⟩
       simp only [List.mem_cons,List.not_mem_nil,or_false] at hi
       rcases hi with rfl | rfl
       ·refine ⟨_,rfl,fun K' hK=>?_⟩
        go_simp
        obtain ⟨K,ge_b9,at_b9,lnr⟩:=HH.out
        refine hK.out _ _ (fun _ _=>HK2.out _ K) (⟨_,_,_,_,_,_,_,rfl,.inr (.inr (.inl (.inl (.inr (⟨b9,ra,rk,rc,sa,sk,sc,rfl,rfl,rfl,rfl,rfl,rfl,rfl,rfl,rfl,K,ge_b9,at_b9,lnr⟩)))))⟩)
       ·refine ⟨_,rfl,fun K' hK=>?_⟩
        go_simp
        obtain ⟨K,ge_b9,at_b9,lnr⟩:=HH.out
        have zl:=K.size
        refine hK.out _ _ (fun _ _=>HK2.out _ (K.alloc zl _)) (⟨_,_,_,_,_,_,_,rfl,.inr (.inr (.inl (.inr (.inr (⟨w1.heap.size,b9,ra,rk,rc,sa,sk,sc,rfl,rfl,rfl,rfl,rfl,rfl,rfl,rfl,rfl,K.alloc zl _,zl,Cl.new _ _ w1,ge_b9,at_b9.alloc _,(Nat.ne_of_gt at_b9.lt),lnr.below ((Below.refl _ _).alloc (Nat.le_refl _) _)⟩)))))⟩)
      ·obtain ⟨b8,b9,ra,rk,rc,sa,sk,sc,rfl,rfl,rfl,rfl,rfl,rfl,rfl,rfl,rfl,HH⟩:=hI
       right
       refine ⟨3,[5,6],rfl,by kernel_rfl,by simp,fun i hi=>?_⟩
       simp only [List.mem_cons,List.not_mem_nil,or_false] at hi
       rcases hi with rfl | rfl
       ·refine ⟨_,rfl,fun K' hK=>?_⟩
        go_simp
        obtain ⟨K,ge_b8,at_b8,ge_b9,at_b9,ne_b8_b9,lnr⟩:=HH.out
        refine hK.out _ _ (fun _ _=>HK2.out _ K) (⟨_,_,_,_,_,_,_,rfl,.inr (.inr (.inl (.inr (.inl (⟨b8,b9,ra,rk,rc,sa,sk,sc,rfl,rfl,rfl,rfl,rfl,rfl,rfl,rfl,rfl,K,ge_b8,at_b8,ge_b9,at_b9,ne_b8_b9,lnr⟩)))))⟩)
       ·refine ⟨_,rfl,fun K' hK=>?_⟩
        go_simp
        obtain ⟨K,ge_b8,at_b8,ge_b9,at_b9,ne_b8_b9,lnr⟩:=HH.out
        refine hK.out _ _ (fun _ _=>HK2.out _ K) (⟨_,_,_,_,_,_,_,rfl,.inr (.inr (.inl (.inr (.inr (⟨b8,b9,ra,rk,rc,sa,sk,sc,rfl,rfl,rfl,rfl,rfl,rfl,rfl,rfl,rfl,K,ge_b8,at_b8,ge_b9,at_b9,ne_b8_b9,lnr⟩)))))⟩)
      ·obtain ⟨b8,ra,rk,rc,sa,sk,sc,rfl,rfl,rfl,rfl,rfl,rfl,rfl,rfl,rfl,HH⟩:=hI
       right
       refine ⟨2,[8],rfl,by kernel_rfl,by simp,fun i hi=>?_⟩
       simp only [List.mem_cons,List.not_mem_nil,or_false] at hi
       subst hi
       refine ⟨_,rfl,fun K' hK=>?_⟩
       go_simp
       obtain ⟨K,ge_b8,at_b8,lnr⟩:=HH.out
       have zl:=K.size
       refine hK.out _ _ (fun _ _=>HK2.out _ (K.alloc zl _)) (⟨_,_,_,_,_,_,_,rfl,.inr (.inr (.inr (.inl (.inl (⟨b8,w1.heap.size,ra,rk,rc,sa,sk,sc,rfl,rfl,rfl,rfl,rfl,rfl,rfl,rfl,rfl,K.alloc zl _,ge_b8,at_b8.alloc _,zl,Cl.new _ _ w1,(Nat.ne_of_lt at_b8.lt),lnr.below ((Below.refl _ _).alloc (Nat.le_refl _) _)⟩)))))⟩)
      ·obtain ⟨b9,ra,rk,rc,sa,sk,sc,rfl,rfl,rfl,rfl,rfl,rfl,rfl,rfl,rfl,HH⟩:=hI
       right
       refine ⟨2,[7],rfl,by kernel_rfl,by simp,fun i hi=>?_⟩
       simp only [List.mem_cons,List.not_mem_nil,or_false] at hi
       subst hi
       refine ⟨_,rfl,fun K' hK=>?_⟩
       go_simp
       obtain ⟨K,ge_b9,at_b9,lnr⟩:=HH.out
       have zl:=K.size
       refine hK.out _ _ (fun _ _=>HK2.out _ (K.alloc zl _)) (⟨_,_,_,_,_,_,_,rfl,.inr (.inr (.inr (.inl (.inl (⟨w1.heap.size,b9,ra,rk,rc,sa,sk,sc,rfl,rfl,rfl,rfl,rfl,rfl,rfl,rfl,rfl,K.alloc zl _,zl,Cl.new _ _ w1,ge_b9,at_b9.alloc _,(Nat.ne_of_gt at_b9.lt),lnr.below ((Below.refl _ _).alloc (Nat.le_refl _) _)⟩)))))⟩)
      ·obtain ⟨b8,b9,ra,rk,rc,sa,sk,sc,rfl,rfl,rfl,rfl,rfl,rfl,rfl,rfl,rfl,HH⟩:=hI
       right
       refine ⟨2,[6,9],rfl,by kernel_rfl,by simp,fun i hi=>?_⟩
       simp only [List.mem_cons,List.not_mem_nil,or_false] at hi
       rcases hi with rfl | rfl
       ·refine ⟨_,rfl,fun K' hK=>?_⟩
        go_simp
        obtain ⟨K,ge_b8,at_b8,ge_b9,at_b9,ne_b8_b9,lnr⟩:=HH.out
        refine hK.out _ _ (fun _ _=>HK2.out _ K) (⟨_,_,_,_,_,_,_,rfl,.inr (.inr (.inr (.inl (.inl (⟨b8,b9,ra,rk,rc,sa,sk,sc,rfl,rfl,rfl,rfl,rfl,rfl,rfl,rfl,rfl,K,ge_b8,at_b8,ge_b9,at_b9,ne_b8_b9,lnr⟩)))))⟩)
       ·refine ⟨_,rfl,fun K' hK=>?_⟩
        obtain ⟨K,ge_b8,at_b8,ge_b9,at_b9,ne_b8_b9,lnr⟩:=HH.out
        have qc0:=at_b8.cell 0
        have qf0:=at_b8.frozen 0
        simp at qc0
        have Z_K:Hid _:=K
        have Z_ge_b8:Hid _:=ge_b8
        have Z_at_b8:Hid _:=at_b8
        have Z_ge_b9:Hid _:=ge_b9
        have Z_at_b9:Hid _:=at_b9
        have Z_ne_b8_b9:Hid _:=ne_b8_b9
        have Z_lnr:Hid _:=lnr
        clear lnr ne_b8_b9 at_b9 ge_b9 at_b8 ge_b8 K
        go_simp
        have K:=Z_K.out
        have ge_b8:=Z_ge_b8.out
        have at_b8:=Z_at_b8.out
        have ge_b9:=Z_ge_b9.out
        have at_b9:=Z_at_b9.out
        have ne_b8_b9:=Z_ne_b8_b9.out
        have lnr:=Z_lnr.out
        refine hK.out _ _ (fun _ _=>HK2.out _ (Below.setCell K (by simpa using ge_b8) _)) (⟨_,_,_,_,_,_,_,rfl,.inr (.inr (.inr (.inl (.inr (⟨b8,b9,ra,rk,rc,sa,sk,sc,rfl,rfl,rfl,rfl,rfl,rfl,rfl,rfl,rfl,Below.setCell K (by simpa using ge_b8) _,ge_b8,Cl.set at_b8 0 _,ge_b9,Cl.other at_b9 (by simpa using (Ne.symm ne_b8_b9)) _,ne_b8_b9,LN.set lnr at_b8 _⟩)))))⟩)
      ·obtain ⟨b8,b9,ra,rk,rc,sa,sk,sc,rfl,rfl,rfl,rfl,rfl,rfl,rfl,rfl,rfl,HH⟩:=hI
       right
       refine ⟨2,[5],rfl,by kernel_rfl,by simp,fun i hi=>?_⟩
       simp only [List.mem_cons,List.not_mem_nil,or_false] at hi
       subst hi
       refine ⟨_,rfl,fun K' hK=>?_⟩
       go_simp
       obtain ⟨K,ge_b8,at_b8,ge_b9,at_b9,ne_b8_b9,lnr⟩:=HH.out
       refine hK.out _ _ (fun _ _=>HK2.out _ K) (⟨_,_,_,_,_,_,_,rfl,.inr (.inr (.inr (.inl (.inl (⟨b8,b9,ra,rk,rc,sa,sk,sc,rfl,rfl,rfl,rfl,rfl,rfl,rfl,rfl,rfl,K,ge_b8,at_b8,ge_b9,at_b9,ne_b8_b9,lnr⟩)))))⟩)
      ·obtain ⟨b8,b9,ra,rk,rc,sa,sk,sc,rfl,rfl,rfl,rfl,rfl,rfl,rfl,rfl,rfl,HH⟩:=hI
       right
       refine ⟨1,[9],rfl,by kernel_rfl,by simp,fun i hi=>?_⟩
       simp only [List.mem_cons,List.not_mem_nil,or_false] at hi
       subst hi
       refine ⟨_,rfl,fun K' hK=>?_⟩
       obtain ⟨K,ge_b8,at_b8,ge_b9,at_b9,ne_b8_b9,lnr⟩:=HH.out
       have qc0:=at_b8.cell 0
       have qf0:=at_b8.frozen 0
       simp at qc0
       have Z_K:Hid _:=K
       have Z_ge_b8:Hid _:=ge_b8
       have Z_at_b8:Hid _:=at_b8
       have Z_ge_b9:Hid _:=ge_b9
       have Z_at_b9:Hid _:=at_b9
       have Z_ne_b8_b9:Hid _:=ne_b8_b9
       have Z_lnr:Hid _:=lnr
       clear lnr ne_b8_b9 at_b9 ge_b9 at_b8 ge_b8 K
       go_simp
       have K:=Z_K.out
       have ge_b8:=Z_ge_b8.out
       have at_b8:=Z_at_b8.out
       have ge_b9:=Z_ge_b9.out
       have at_b9:=Z_at_b9.out
       have ne_b8_b9:=Z_ne_b8_b9.out
       have lnr:=Z_lnr.out
       refine hK.out _ _ (fun _ _=>HK2.out _ (Below.setCell K (by simpa using ge_b8) _)) (⟨_,_,_,_,_,_,_,rfl,.inr (.inr (.inr (.inr (.inl (⟨b8,b9,ra,rk,rc,sa,sk,sc,rfl,rfl,rfl,rfl,rfl,rfl,rfl,rfl,rfl,Below.setCell K (by simpa using ge_b8) _,ge_b8,Cl.set at_b8 0 _,ge_b9,Cl.other at_b9 (by simpa using (Ne.symm ne_b8_b9)) _,ne_b8_b9,LN.set lnr at_b8 _⟩)))))⟩)
      ·obtain ⟨b8,b9,ra,rk,rc,sa,sk,sc,rfl,rfl,rfl,rfl,rfl,rfl,rfl,rfl,rfl,HH⟩:=hI
       right
       refine ⟨1,[6],rfl,by kernel_rfl,by simp,fun i hi=>?_⟩
       simp only [List.mem_cons,List.not_mem_nil,or_false] at hi
       subst hi
       refine ⟨_,rfl,fun K' hK=>?_⟩
       go_simp
       obtain ⟨K,ge_b8,at_b8,ge_b9,at_b9,ne_b8_b9,lnr⟩:=HH.out
       refine hK.out _ _ (fun _ _=>HK2.out _ K) (⟨_,_,_,_,_,_,_,rfl,.inr (.inr (.inr (.inr (.inl (⟨b8,b9,ra,rk,rc,sa,sk,sc,rfl,rfl,rfl,rfl,rfl,rfl,rfl,rfl,rfl,K,ge_b8,at_b8,ge_b9,at_b9,ne_b8_b9,lnr⟩)))))⟩)
      ·obtain ⟨b8,b9,ra,rk,rc,sa,sk,sc,rfl,rfl,rfl,rfl,rfl,rfl,rfl,rfl,rfl,HH⟩:=hI
       right
       refine ⟨0,[10],rfl,by kernel_rfl,by simp,fun i hi=>?_⟩
       simp only [List.mem_cons,List.not_mem_nil,or_false] at hi
       subst hi
       refine ⟨_,rfl,fun K' hK=>?_⟩
       obtain ⟨K,ge_b8,at_b8,ge_b9,at_b9,ne_b8_b9,lnr⟩:=HH.out
       have qc0:=at_b9.cell 0
       have qf0:=at_b9.frozen 0
       simp at qc0
       have Z_K:Hid _:=K
       have Z_ge_b8:Hid _:=ge_b8
       have Z_at_b8:Hid _:=at_b8
       have Z_ge_b9:Hid _:=ge_b9
       have Z_at_b9:Hid _:=at_b9
       have Z_ne_b8_b9:Hid _:=ne_b8_b9
       have Z_lnr:Hid _:=lnr
       clear lnr ne_b8_b9 at_b9 ge_b9 at_b8 ge_b8 K
       go_simp
       have K:=Z_K.out
       have ge_b8:=Z_ge_b8.out
       have at_b8:=Z_at_b8.out
       have ge_b9:=Z_ge_b9.out
       have at_b9:=Z_at_b9.out
       have ne_b8_b9:=Z_ne_b8_b9.out
       have lnr:=Z_lnr.out
       refine hK.out _ _ (fun _ h=>absurd rfl h) (⟨_,_,_,_,_,_,_,rfl,.inr (.inr (.inr (.inr (.inr (⟨b8,b9,ra,rk,rc,sa,sk,sc,rfl,rfl,rfl,rfl,rfl,rfl,rfl,rfl,rfl,Below.setCell K (by simpa using ge_b9) _,ge_b8,Cl.other at_b8 (by simpa using ne_b8_b9) _,ge_b9,Cl.set at_b9 0 _,ne_b8_b9,LN.set lnr at_b9 _⟩)))))⟩)
      ·obtain ⟨b8,b9,ra,rk,rc,sa,sk,sc,rfl,rfl,rfl,rfl,rfl,rfl,rfl,rfl,rfl,HH⟩:=hI
       left
       refine ⟨by kernel_rfl,?_⟩
       clear hHeld0
       dsimp only
       obtain ⟨K,ge_b8,at_b8,ge_b9,at_b9,ne_b8_b9,lnr⟩:=HH.out
       obtain ⟨W3,rfl⟩:∃ W3,W3 = w1:=⟨_,rfl⟩
       have HA4:Hid (Below W0.heap.size W0 W3):=HA3.out.trans (K.mono HA3.out.size)
       have HT3:Hid (Tq W3∧LN W3 (.slice qa qk qc) P∧LN W3 (.slice ra rk rc) Q∧Cl b6 [.slice qa qk qc] 64 W3∧Cl b8 [.slice ra rk rc] 64 W3∧Cl w.heap.size [.slice aa ak ac,.bool zx] 66 W3) :=
        ⟨H0.out.2.2.2.2.2.below HA4.out,HQ2.out.1.below K,lnr,HQ2.out.2.below K,at_b8,H0.out.1.below HA4.out⟩
       clear K ge_b8 at_b8 ge_b9 at_b9 ne_b8_b9 lnr HH
       obtain ⟨SP,hSP⟩:∃ S:ByteArray,S = ⟨(Lib.decDigits P).toArray⟩:=⟨_,rfl⟩
       obtain ⟨SQ,hSQ⟩:∃ S:ByteArray,S = ⟨(Lib.decDigits Q).toArray⟩:=⟨_,rfl⟩
       have HSt:Hid (SP = ⟨(Lib.decDigits P).toArray⟩∧SQ = ⟨(Lib.decDigits Q).toArray⟩):=⟨hSP,hSQ⟩
       have HPs:Hid (∀ W,Below W3.heap.size W3 W→Calls Tryz.prog 68 #[.agg #[.slice qa qk qc]] W fun e w'=>e = .returned (.string SP)∧Below W.heap.size W w'):=fun W kk=>by
        rw [hSP]; exact String_any (.slice qa qk qc) P m W (HT3.out.2.1.below kk) HB.out.2.2.2.2.1 HB.out.2.2.2.2.2.2.1 (by have:=HB.out.2.2.2.2.2.2.2; omega) (HT3.out.1.below kk)
       have HQs:Hid (∀ W,Below W3.heap.size W3 W→Calls Tryz.prog 68 #[.agg #[.slice ra rk rc]] W fun e w'=>e = .returned (.string SQ)∧Below W.heap.size W w'):=fun W kk=>by
        rw [hSQ]; exact String_any (.slice ra rk rc) Q m W (HT3.out.2.2.1.below kk) HB.out.2.2.2.2.2.1 HB.out.2.2.2.2.2.2.1 (by have:=HB.out.2.2.2.2.2.2.2; omega) (HT3.out.1.below kk)
       have HSg:Hid (∀ W,Below W3.heap.size W3 W→Calls Tryz.prog 78 #[.agg #[.slice aa ak ac,.bool zx]] W fun e w'=>e = .returned (.int .i64 (cmI x 0))∧Below W.heap.size W w'):=fun W kk=>by
        have:=SSign_any (.slice aa ak ac) x W (H0.out.2.2.1.below (HA4.out.trans (kk.mono HA4.out.size)))
        rw [← HG.out.2.2.2] at this; exact this
       have HOf:Hid (∀ W,Calls Tryz.prog 80 #[.int .i64 1] W fun e w'=>∃ v,e = .returned (.agg #[v])∧LN w' v 1∧Below W.heap.size W w'):=fun W=>Of_any 1 W (by omega)
       have HCm:Hid (∀ W v,Below W3.heap.size W3 W→LN W v 1→Calls Tryz.prog 79 #[.agg #[.slice ra rk rc],.agg #[v]] W fun e w'=>e = .returned (.int .i64 (cmI Q 1))∧Below W.heap.size W w'):=fun W v kk l=>NCompare_any (.slice ra rk rc) v Q 1 W (HT3.out.2.2.1.below kk) l m HB.out.2.2.2.2.2.1 (by have:=HB.out.2.2.2.2.2.2.2; omega)
       have z1:SP.size≤9 * m:=by rw [hSP]; exact text_len P m HB.out.2.2.2.2.2.2.1 HB.out.2.2.2.2.1
       have z2:SQ.size≤9 * m:=by rw [hSQ]; exact text_len Q m HB.out.2.2.2.2.2.2.1 HB.out.2.2.2.2.2.1
       have hm1000:m≤1000:=HB.out.2.2.2.2.2.2.2
       obtain ⟨S1,hS1⟩:∃ S:ByteArray,S = ⟨#[45]⟩ ++ SP:=⟨_,rfl⟩
       obtain ⟨S2,hS2⟩:∃ S:ByteArray,S = ⟨#[47]⟩ ++ SQ:=⟨_,rfl⟩
       have s45:(⟨#[45]⟩:ByteArray).size = 1:=rfl
       have s47:(⟨#[47]⟩:ByteArray).size = 1:=rfl
       have z3:S1.size≤9 * m + 1:=by rw [hS1,ByteArray.size_append]; omega
       have z4:S2.size≤9 * m + 1:=by rw [hS2,ByteArray.size_append]; omega
       have hadd1:∀ w:World,(Op.stringOp .add ⟨#[45]⟩ SP).run Tryz.prog w = .ok (.string S1) w:=fun w=>by
        rw [hS1]; exact run_string_add_sum w _ _ (by omega)
       have hadd2:∀ w:World,(Op.stringOp .add ⟨#[47]⟩ SQ).run Tryz.prog w = .ok (.string S2) w:=fun w=>by
        rw [hS2]; exact run_string_add_sum w _ _ (by omega)
       obtain ⟨S3,hS3⟩:∃ S:ByteArray,S = S1 ++ S2:=⟨_,rfl⟩
       obtain ⟨S4,hS4⟩:∃ S:ByteArray,S = SP ++ S2:=⟨_,rfl⟩
       have hadd3:∀ w:World,(Op.stringOp .add S1 S2).run Tryz.prog w = .ok (.string S3) w:=fun w=>by
        rw [hS3]; exact run_string_add_sum w _ _ (by omega)
       have hadd4:∀ w:World,(Op.stringOp .add SP S2).run Tryz.prog w = .ok (.string S4) w:=fun w=>by
        rw [hS4]; exact run_string_add_sum w _ _ (by omega)
       have HSx:Hid (S1 = ⟨#[45]⟩ ++ SP∧S2 = ⟨#[47]⟩ ++ SQ∧S3 = S1 ++ S2∧S4 = SP ++ S2):=⟨hS1,hS2,hS3,hS4⟩
       have HF:Hid (∀ f,ftx x y = f→(if x < 0 then ([45]:List UInt8) else []) ++ Lib.decDigits P ++ (if Q = 1 then [] else 47 :: Lib.decDigits Q) = f):=fun f e=>by
        rw [← e]; unfold ftx; rw [← HG.out.1,← HG.out.2.1,← HG.out.2.2.1]
       have u6:=HT3.out.2.2.2.1.cell 0
       have v0:=HT3.out.2.2.2.2.2.cell 0
       have v1:=HT3.out.2.2.2.2.2.cell 1
       simp at u6 v0 v1
       clear hSP hSQ z1 z2 z3 z4 s45 s47 hS1 hS2 hS3 hS4
       go_wp2_with fail
       refine (HPs.out W3 (Below.refl _ _)).mono ?_
       rintro e w4 ⟨rfl,k4⟩
       have HK4:Hid (Below W3.heap.size W3 w4):=k4
       have c4:=HT3.out.2.2.2.2.2.below k4
       have v0:=c4.cell 0
       have v1:=c4.cell 1
       simp at v0 v1
       clear k4 u6 c4
       go_wp2_with fail
       refine (HSg.out w4 HK4.out).mono ?_
       rintro e w5 ⟨rfl,k5⟩
       have HK5:Hid (Below W3.heap.size W3 w5):=HK4.out.trans (k5.mono HK4.out.size)
       have H8:Hid (∀ W,Below w5.heap.size w5 W→W.cell? ⟨b8,0,none⟩ = some (.slice ra rk rc)):=fun W kk=>by
        have:=(HT3.out.2.2.2.2.1.below (HK5.out.trans (kk.mono HK5.out.size))).cell 0
        simpa using this
       clear k5 v0 v1 HK4
       by_cases h0:x < 0
       ·have dC:decide (cmI x 0 < 0) = true:=decide_eq_true (by unfold cmI; rw [if_pos h0]; decide)
        have HX0:Hid (x < 0):=h0
        go_wp2
        refine wp_region_G (fun W=>W.cell? ⟨b8,0,none⟩ = some (.slice ra rk rc)) 3 (by kernel_rfl) (H8.out _ (Below.refl _ _).drew) (fun hHeld=>?_)
        refine wpAnyG_take (i:=0) (v:=?v0x7) rfl (by kernel_rfl) (fun _ _ _ h=>h) (Or.inl ⟨by rfl,?y0x7⟩) hHeld ?r0x7
        case y0x7=>(intro wS hSw; obtain s1:=hSw; go_simp; try with_reducible rfl)
        simp only [Act.put,List.getElem_toArray,List.getElem_cons_zero,List.getElem_cons_succ,List.setIfInBounds_toArray,List.set_cons_zero,List.set_cons_succ]
        refine wpAnyG_one (i:=1) rfl (by kernel_rfl) (fun K hK=>?_)
        go_simp
        refine (HOf.out _).mono ?_
        rintro e w6 ⟨v6,rfl,l6,k6⟩
        obtain ⟨a6,m6,c6,rfl⟩:=l6.shape
        have HL6:Hid (LN w6 (.slice a6 m6 c6) 1∧Below w5.heap.size w5 w6):=⟨l6,(Below.refl _ _).drew.trans k6⟩
        clear l6 k6
        refine hK.out _ _ (H8.out _ HL6.out.2) ?_
        clear hK K hHeld
        have hHeld:=H8.out _ HL6.out.2
        refine wpAnyG_one (i:=2) rfl (by kernel_rfl) (fun K hK=>?_)
        go_simp
        refine (HCm.out w6 _ (HK5.out.trans (HL6.out.2.mono HK5.out.size)) HL6.out.1).mono ?_
        rintro e w7 ⟨rfl,k7⟩
        have HK7:Hid (Below w5.heap.size w5 w7):=HL6.out.2.trans (k7.mono HL6.out.2.size)
        clear k7
        refine hK.out _ _ (H8.out _ HK7.out) ?_
        clear hK K hHeld
        have hHeld:=H8.out _ HK7.out
        by_cases h1:Q = 1
        ·have dE:(cmI (Q:Int) 1 != 0) = false:=by rw [h1]; rfl
         have HQ1:Hid (Q = 1):=h1
         clear h1
         refine wpAnyG_last (i:=3) rfl (by kernel_rfl) (by kernel_rfl) (fun K hK=>?_)
         go_simp
         refine hK.out _ _ ?_
         clear hK K
         refine wpAnyG_done (by kernel_rfl) ?_ _
         go_wp2
         go_ret
         refine ⟨?_,(H0.out.2.2.2.2.1.trans (HA4.out.mono H0.out.2.2.2.2.1.size)).trans ((HK5.out.trans (HK7.out.mono HK5.out.size)).mono (H0.out.2.2.2.2.1.trans (HA4.out.mono H0.out.2.2.2.2.1.size)).size)⟩
         have e:S1 = ⟨(ftx x y).toArray⟩:=by
          rw [← HF.out _ rfl,if_pos HX0.out,if_pos HQ1.out]
          rw [HSx.out.1,HSt.out.1,show (⟨#[45]⟩:ByteArray) = ⟨[45].toArray⟩ from rfl,str_app,List.append_nil]
         rw [← e]
         rfl
        ·have dE:(cmI (Q:Int) 1 != 0) = true:=by
          have h:cmI (Q:Int) 1 ≠ 0:=fun e=>h1 (by have:=cmI_zero.1 e; omega)
          simp [h]
         have HQ1:Hid (¬ Q = 1):=h1
         clear h1
         refine wpAnyG_last (i:=3) rfl (by kernel_rfl) (by kernel_rfl) (fun K hK=>?_)
         go_simp
         refine hK.out _ _ ?_
         clear hK K
         refine wpAnyG_done (by kernel_rfl) ?_ _
         have q8:=H8.out _ HK7.out
         go_wp2_with fail
         refine (HQs.out w7 (HK5.out.trans (HK7.out.mono HK5.out.size))).mono ?_
         rintro e w8 ⟨rfl,k8⟩
         have HK8:Hid (Below w5.heap.size w5 w8):=HK7.out.trans (k8.mono HK7.out.size)
         clear k8 q8
         go_wp2
         go_ret
         refine ⟨?_,(H0.out.2.2.2.2.1.trans (HA4.out.mono H0.out.2.2.2.2.1.size)).trans ((HK5.out.trans (HK8.out.mono HK5.out.size)).mono (H0.out.2.2.2.2.1.trans (HA4.out.mono H0.out.2.2.2.2.1.size)).size)⟩
         have e:S3 = ⟨(ftx x y).toArray⟩:=by
          rw [← HF.out _ rfl,if_pos HX0.out,if_neg HQ1.out]
          rw [HSx.out.2.2.1,HSx.out.1,HSx.out.2.1,HSt.out.1,HSt.out.2,show (⟨#[45]⟩:ByteArray) = ⟨[45].toArray⟩ from rfl,show (⟨#[47]⟩:ByteArray) = ⟨[47].toArray⟩ from rfl,str_app,str_app,str_app]; rfl
         rw [← e]
         rfl
       ·have dC:decide (cmI x 0 < 0) = false:=decide_eq_false (by unfold cmI; rw [if_neg h0]; split <;> decide)
        have HX0:Hid (¬ x < 0):=h0
        go_wp2
        refine wp_region_G (fun W=>W.cell? ⟨b8,0,none⟩ = some (.slice ra rk rc)) 3 (by kernel_rfl) (H8.out _ (Below.refl _ _).drew) (fun hHeld=>?_)
        refine wpAnyG_take (i:=0) (v:=?v0x8) rfl (by kernel_rfl) (fun _ _ _ h=>h) (Or.inl ⟨by rfl,?y0x8⟩) hHeld ?r0x8
        case y0x8=>(intro wS hSw; obtain s1:=hSw; go_simp; try with_reducible rfl)
        simp only [Act.put,List.getElem_toArray,List.getElem_cons_zero,List.getElem_cons_succ,List.setIfInBounds_toArray,List.set_cons_zero,List.set_cons_succ]
        refine wpAnyG_one (i:=1) rfl (by kernel_rfl) (fun K hK=>?_)
        go_simp
        refine (HOf.out _).mono ?_
        rintro e w6 ⟨v6,rfl,l6,k6⟩
        obtain ⟨a6,m6,c6,rfl⟩:=l6.shape
        have HL6:Hid (LN w6 (.slice a6 m6 c6) 1∧Below w5.heap.size w5 w6):=⟨l6,(Below.refl _ _).drew.trans k6⟩
        clear l6 k6
        refine hK.out _ _ (H8.out _ HL6.out.2) ?_
        clear hK K hHeld
        have hHeld:=H8.out _ HL6.out.2
        refine wpAnyG_one (i:=2) rfl (by kernel_rfl) (fun K hK=>?_)
        go_simp
        refine (HCm.out w6 _ (HK5.out.trans (HL6.out.2.mono HK5.out.size)) HL6.out.1).mono ?_
        rintro e w7 ⟨rfl,k7⟩
        have HK7:Hid (Below w5.heap.size w5 w7):=HL6.out.2.trans (k7.mono HL6.out.2.size)
        clear k7
        refine hK.out _ _ (H8.out _ HK7.out) ?_
        clear hK K hHeld
        have hHeld:=H8.out _ HK7.out
        by_cases h1:Q = 1
        ·have dE:(cmI (Q:Int) 1 != 0) = false:=by rw [h1]; rfl
         have HQ1:Hid (Q = 1):=h1
         clear h1
         refine wpAnyG_last (i:=3) rfl (by kernel_rfl) (by kernel_rfl) (fun K hK=>?_)
         go_simp
         refine hK.out _ _ ?_
         clear hK K
         refine wpAnyG_done (by kernel_rfl) ?_ _
         go_wp2
         go_ret
         refine ⟨?_,(H0.out.2.2.2.2.1.trans (HA4.out.mono H0.out.2.2.2.2.1.size)).trans ((HK5.out.trans (HK7.out.mono HK5.out.size)).mono (H0.out.2.2.2.2.1.trans (HA4.out.mono H0.out.2.2.2.2.1.size)).size)⟩
         have e:SP = ⟨(ftx x y).toArray⟩:=by
          rw [← HF.out _ rfl,if_neg (show ¬ x < 0 by have:=HX0.out; omega),if_pos HQ1.out]
          rw [HSt.out.1,List.append_nil,List.nil_append]
         rw [← e]
         rfl
        ·have dE:(cmI (Q:Int) 1 != 0) = true:=by
          have h:cmI (Q:Int) 1 ≠ 0:=fun e=>h1 (by have:=cmI_zero.1 e; omega)
          simp [h]
         have HQ1:Hid (¬ Q = 1):=h1
         clear h1
         refine wpAnyG_last (i:=3) rfl (by kernel_rfl) (by kernel_rfl) (fun K hK=>?_)
         go_simp
         refine hK.out _ _ ?_
         clear hK K
         refine wpAnyG_done (by kernel_rfl) ?_ _
         have q8:=H8.out _ HK7.out
         go_wp2_with fail
         refine (HQs.out w7 (HK5.out.trans (HK7.out.mono HK5.out.size))).mono ?_
         rintro e w8 ⟨rfl,k8⟩
         have HK8:Hid (Below w5.heap.size w5 w8):=HK7.out.trans (k8.mono HK7.out.size)
         clear k8 q8
         go_wp2
         go_ret
         refine ⟨?_,(H0.out.2.2.2.2.1.trans (HA4.out.mono H0.out.2.2.2.2.1.size)).trans ((HK5.out.trans (HK8.out.mono HK5.out.size)).mono (H0.out.2.2.2.2.1.trans (HA4.out.mono H0.out.2.2.2.2.1.size)).size)⟩
         have e:S4 = ⟨(ftx x y).toArray⟩:=by
          rw [← HF.out _ rfl,if_neg (show ¬ x < 0 by have:=HX0.out; omega),if_neg HQ1.out]
          rw [HSx.out.2.2.2,HSx.out.2.1,HSt.out.1,HSt.out.2,show (⟨#[47]⟩:ByteArray) = ⟨[47].toArray⟩ from rfl,str_app,str_app,List.nil_append]; rfl
         rw [← e]
         rfl
end Go.Proofs.YtnkjadpmigpneaaGreatDoor
