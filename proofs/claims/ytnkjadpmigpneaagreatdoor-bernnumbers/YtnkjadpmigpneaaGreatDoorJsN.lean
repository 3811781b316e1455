import Derived.Test.YtnkjadpmigpneaaGreatDoorBrC
import Derived.Maps.AppendAt
import Derived.Shelf.Strings.Builder1
import Derived.Shelf.Strings.BuilderK
import Derived.Shelf.LaysM
import Derived.Shelf.Strconv.Itoa3
import Derived.Shelf.Strings.Repeat
import Derived.Test.YtnkjadpmigpneaaGreatDoorProg
import Derived.Test.YtnkjadpmigpneaaGreatDoorJsD
import Derived.Lib.AppendIntMem
set_option linter.unusedSimpArgs false
set_option linter.unusedVariables false
namespace Go.Proofs.YtnkjadpmigpneaaGreatDoor
section
set_option maxRecDepth 100000
open Go.RowKit LgM
theorem SO.setBox {B N b:Nat} {w:World} {v:Value} {x:Nat→Int} {a a':Option Addr} {k c k' c':Nat} {z z':Bool} {t:TypeId} (h:SO B w v N x) (hb:b < B) (hc:Cl b [.slice a k c,.bool z] t w):SO B ((w.setCell ⟨b,0,none⟩ (.slice a' k' c')).setCell ⟨b,1,none⟩ (.bool z')) v N x:=by
 obtain ⟨us,h1,h2⟩:=h
 refine ⟨us,ownsRow_setCell_below (ownsRow_setCell_below h1 (by show b < _; omega) _) (by show b < _; omega) _,fun j hj=>?_⟩
 obtain ⟨sa,sk,sc,c1,c2,c3⟩:=h2 j hj
 exact ⟨sa,sk,sc,c1,c2,c3.setTwo hc⟩
structure Nb (w:World) (n i:Nat) (vb av cv:Value) (W:World):Prop where
 row:SO (w.heap.size + 1) W av (i + 1) (BN.bz n)
 chs:VA W cv (i + 2) (fun j=>((BN.ch (i + 1) j:Nat):Int))
 ne:∀ g,cv.ownBlock = some g→av.ownBlock ≠ some g
 box:Cl w.heap.size [vb,.bool false] 66 W
 low:LN W vb (BN.prm (n + 1))
 k:Below w.heap.size w W
set_option maxHeartbeats 1500000 in
theorem numbers_any (n:Nat) (w:World) (hn:n≤200) (hT:Tb w) :
  Calls Tryz.prog 36 #[.int .i64 (n:Int)] w fun e w'=>∃ v u,e = .returned (.tuple #[v,.agg #[u,.bool false]])∧SO w.heap.size w' v (n + 1) (BN.bz n)∧LN w' u (BN.prm (n + 1))∧Below w.heap.size w w':=by
 obtain ⟨i0,hi,hz0,hz1,hz2⟩:=info_parts Tryz.infoSg
 have HI:Hid (Tryz.prog.info? 66 = some i0∧i0.zero = some (.agg #[.slice none 0 0,.bool false])∧i0.size = 2∧i0.bytes = 32):=⟨hi,hz0,hz1,hz2⟩
 clear hi hz0 hz1 hz2
 obtain ⟨n1,hn1⟩:∃ n1,n1 = n + 1:=⟨_,rfl⟩
 have hn1i:(n:Int) + 1 = (n1:Int):=by omega
 obtain ⟨W0,hW0⟩:∃ W0,W0 = w.alloc (.cells #[.slice none 0 0,.bool false] 66):=⟨_,rfl⟩
 have HW0:Hid (Cl w.heap.size [.slice none 0 0,.bool false] 66 W0∧Below w.heap.size w W0∧W0.heap.size = w.heap.size + 1):=by
  show _∧_
  rw [hW0]
  exact ⟨Cl.new [.slice none 0 0,.bool false] 66 w,(Below.refl _ _).alloc (Nat.le_refl _) _,by simp⟩
 have HPr:Hid (Calls Tryz.prog 71 #[.int .i64 (n1:Int)] W0 fun e w'=>∃ v,e = .returned (.agg #[v,.bool false])∧LN w' v (BN.prm (n + 1))∧Below W0.heap.size W0 w'):=by
  have:=primorial_any n1 W0 (by omega) (hT.below HW0.out.2.1)
  rw [hn1] at this ⊢
  exact this
 clear hT hn1
 go_enter Tryz.func36,Tryz.ntmps36
 go_wp2_with fail
 rw [← hW0]
 clear hW0
 refine HPr.out.mono ?_
 rintro e w1 ⟨v1,rfl,l1,k1⟩
 obtain ⟨a1,m1,c1,rfl⟩:=l1.shape
 have hC1:=HW0.out.1.below k1
 have hz1:w.heap.size + 1≤w1.heap.size:=by have:=k1.size; rw [HW0.out.2.2] at this; exact this
 have q1:=hC1.cell 0
 have q2:=hC1.cell 1
 have q3:=hC1.frozen 0
 have q4:=hC1.frozen 1
 simp at q1 q2
 obtain ⟨W2,hW2⟩:∃ W2,W2 = (w1.setCell ⟨w.heap.size,0,none⟩ (.slice a1 m1 c1)).setCell ⟨w.heap.size,1,none⟩ (.bool false):=⟨_,rfl⟩
 have hC2:Cl w.heap.size [.slice a1 m1 c1,.bool false] 66 W2:=by rw [hW2]; exact hC1.two _ _
 have hL2:LN W2 (.slice a1 m1 c1) (BN.prm (n + 1)):=by rw [hW2]; exact l1.setTwo hC1
 have hK2:Below w.heap.size w W2:=by rw [hW2]; exact ((HW0.out.2.1.trans (k1.mono (by have:=HW0.out.2.2; omega))).setCell (by simp) _).setCell (by simp) _
 have hZ2:w.heap.size + 1≤W2.heap.size:=by rw [hW2]; simpa using hz1
 have p1:W2.cell? ⟨w.heap.size,0,none⟩ = some (.slice a1 m1 c1):=by have:=hC2.cell 0; simpa using this
 have p2:W2.cell? ⟨w.heap.size,1,none⟩ = some (.bool false):=by have:=hC2.cell 1; simpa using this
 have HL2:Hid (Cl w.heap.size [.slice a1 m1 c1,.bool false] 66 W2∧LN W2 (.slice a1 m1 c1) (BN.prm (n + 1))∧Below w.heap.size w W2∧w.heap.size + 1≤W2.heap.size):=⟨hC2,hL2,hK2,hZ2⟩
 have HP2:Hid (W2.cell? ⟨w.heap.size,0,none⟩ = some (.slice a1 m1 c1)∧W2.cell? ⟨w.heap.size,1,none⟩ = some (.bool false)):=⟨p1,p2⟩
 have HCh:Hid (∀ W,Calls Tryz.prog 72 #[.int .i64 1] W fun e w'=>∃ v',e = .returned v'∧SO W.heap.size w' v' 2 (fun j=>((BN.ch 1 j:Nat):Int))∧Below W.heap.size W w'):=fun W=>choicesOf_any 1 W (by omega)
 have hsz:W2.heap.size = w1.heap.size:=by rw [hW2]; simp
 obtain ⟨W3,hW3⟩:∃ W3,W3 = W2.alloc (.cells #[.slice a1 m1 c1,.bool false] 66):=⟨_,rfl⟩
 have k23:Below W2.heap.size W2 W3:=by rw [hW3]; exact (Below.refl _ _).alloc (Nat.le_refl _) _
 have HS3:Hid (SO (w.heap.size + 1) W3 (.slice (some ⟨w1.heap.size,0,none⟩) 1 1) 1 (BN.bz n)∧Cl w.heap.size [.slice a1 m1 c1,.bool false] 66 W3∧LN W3 (.slice a1 m1 c1) (BN.prm (n + 1))∧Below w.heap.size w W3∧w1.heap.size < W3.heap.size):=by
  refine ⟨?_,HL2.out.1.below k23,HL2.out.2.1.below k23,HL2.out.2.2.1.trans (k23.mono HL2.out.2.2.1.size),by rw [hW3,← hsz]; simp⟩
  rw [hW3,← hsz]
  exact SO.lit (y:=((BN.prm (n + 1):Nat):Int)) HL2.out.2.2.2 (by rw [Int.natAbs_natCast]; exact HL2.out.2.1) (decide_eq_false (by omega)).symm _ (BN.bz_zero n hn)
 have HW23:Hid (W3 = ((w1.setCell ⟨w.heap.size,0,none⟩ (.slice a1 m1 c1)).setCell ⟨w.heap.size,1,none⟩ (.bool false)).alloc (.cells #[.slice a1 m1 c1,.bool false] 66)):=by show _ = _; rw [hW3,hW2]
 clear l1 k1 hC1 hz1 hC2 hL2 hK2 hZ2 p1 p2 HPr HW0 hW3 hW2 k23 hsz
 go_wp2_with fail
 rw [← HW23.out]
 clear q1 q2 q3 q4 HW23
 refine (HCh.out W3).mono ?_
 rintro e w4 ⟨v4,rfl,s4,k4⟩
 have HN4:Hid (Nb w n 0 (.slice a1 m1 c1) (.slice (some ⟨w1.heap.size,0,none⟩) 1 1) v4 w4):=by
  refine ⟨HS3.out.1.below k4,s4.va,fun g e=>?_,HS3.out.2.1.below k4,HS3.out.2.2.1.below k4,HS3.out.2.2.2.1.trans (k4.mono HS3.out.2.2.2.1.size)⟩
  obtain ⟨us,hu,_⟩:=s4
  have h1:=(hu.lt g e).1
  have h2:=HS3.out.2.2.2.2
  simp [Value.ownBlock]
  omega
 clear s4 k4 HS3 HCh HL2 HP2
 go_wp2
 go_loopw [2,4,12] (fun rv sv iv wx=>∃ (i:Nat) (av cv:Value),i≤n∧rv = av∧sv = cv∧iv = .int .i64 (i:Int)∧Hid (Nb w n i (.slice a1 m1 c1) av cv wx)) (fun _ _ iv _=>n - (intOf iv).toNat)
 case atStart=>exact ⟨0,_,_,Nat.zero_le _,rfl,rfl,rfl,HN4.out⟩
 case round =>
  clear HN4
  obtain ⟨i,av,cv,hin,hav,hcv,rfl,HR⟩:=hrel
  have h2:=hav.symm
  subst h2
  have h2:=hcv.symm
  subst h2
  by_cases hlt:i < n
  ·obtain ⟨us,hu,hx⟩:=HR.out.row
   have HU:Hid (wr.ownsRow (w.heap.size + 1) 66 2 av (i + 1) us∧SC wr us (i + 1) (BN.bz n)):=⟨hu,hx⟩
   clear hu hx
   go_wp2_with fail
   refine (oneMore_any _ (i + 1) wr HR.out.chs (by omega)).mono ?_
   rintro e w5 ⟨v5,rfl,s5,k5⟩
   have HN5:Hid (SO wr.heap.size w5 v5 (i + 1 + 2) (fun j=>((BN.ch (i + 1 + 1) j:Nat):Int))∧Below wr.heap.size wr w5):=⟨s5,k5⟩
   have HNx:Hid (Calls Tryz.prog 74 #[av,v5] w5 fun e w'=>∃ v,e = .returned (.agg #[v,.bool (decide (BN.bz n (i + 1) < 0))])∧LN w' v (BN.bz n (i + 1)).natAbs∧Below w5.heap.size w5 w'):=next_any av v5 n (i + 1) w5 (HR.out.row.below k5).va s5.va (by omega) (by omega) hn
   obtain ⟨z,hz⟩:∃ z,z = decide (BN.bz n (i + 1) < 0):=⟨_,rfl⟩
   rw [← hz] at HNx
   have HZ:Hid (z = decide (BN.bz n (i + 1) < 0)):=hz
   clear s5 k5 hz
   go_wp2_with fail
   refine HNx.out.mono ?_
   rintro e w6 ⟨v6,rfl,l6,k6⟩
   obtain ⟨a6,m6,c6,rfl⟩:=l6.shape
   have k56:Below wr.heap.size wr (w6.alloc (.cells #[.slice a6 m6 c6,.bool z] 66)):=(HN5.out.2.trans (k6.mono HN5.out.2.size)).alloc (Nat.le_trans HN5.out.2.size k6.size) _
   have k6a:Below w5.heap.size w5 (w6.alloc (.cells #[.slice a6 m6 c6,.bool z] 66)):=k6.alloc k6.size _
   have HR7:Hid ((w6.alloc (.cells #[.slice a6 m6 c6,.bool z] 66)).ownsRow (w.heap.size + 1) 66 2 av (i + 1) us∧SC (w6.alloc (.cells #[.slice a6 m6 c6,.bool z] 66)) us (i + 1) (BN.bz n)∧LN (w6.alloc (.cells #[.slice a6 m6 c6,.bool z] 66)) (.slice a6 m6 c6) (BN.bz n (i + 1)).natAbs∧SO wr.heap.size (w6.alloc (.cells #[.slice a6 m6 c6,.bool z] 66)) v5 (i + 1 + 2) (fun j=>((BN.ch (i + 1 + 1) j:Nat):Int))∧Below wr.heap.size wr (w6.alloc (.cells #[.slice a6 m6 c6,.bool z] 66))) :=
    ⟨row_bel2 HU.out.1 k56,HU.out.2.below k56,l6.below ((Below.refl _ _).alloc (Nat.le_refl _) _),HN5.out.1.below k6a,k56⟩
   have HZ6:Hid (w.heap.size + 1≤w6.heap.size):=by
    have h1:=HR.out.box.lt
    have h2:=HN5.out.2.size
    have h3:=k6.size
    show _≤_
    omega
   clear l6 k6 k56 k6a HNx
   go_wp2_with (at_builtin; refine wpList_append_own_at _ rfl _ _ 61 rfl (w.heap.size + 1) 66 i0 (.agg #[.slice none 0 0,.bool false]) 2 32 Tryz.undS HI.out.1 HI.out.2.1 HI.out.2.2.1 HI.out.2.2.2 rfl (by decide) av (i + 1) us rfl HR7.out.1 ⟨w6.heap.size,0,none⟩ 1 1 [.slice a6 m6 c6,.bool z] rfl rfl (Cl.new [.slice a6 m6 c6,.bool z] 66 w6).news2 (by simp [Value.oneCell']) (by simp only [maxLen]; omega) (by omega) (by have:=HZ6.out; simp; omega) ?_; intro v' w7 hown hgrow _ hob)
   have HN7:Hid (Nb w n (i + 1) (.slice a1 m1 c1) v' v5 w7):=by
    have hlt:∀ g,av.ownBlock = some g→w.heap.size + 1≤g∧g < wr.heap.size:=fun g e=>HU.out.1.lt g e
    have h5:∀ g,v5.ownBlock = some g→wr.heap.size≤g∧g < (w6.alloc (.cells #[.slice a6 m6 c6,.bool z] 66)).heap.size:=fun g e=>by
     obtain ⟨ws,hw,_⟩:=HR7.out.2.2.2.1
     exact hw.lt g e
    have kk:=HR7.out.2.2.2.2
    refine ⟨SO.push (y:=BN.bz n (i + 1)) HR7.out.1 HR7.out.2.1 HR7.out.2.2.1 HZ.out hown hgrow (fun j _=>rfl) rfl,HR7.out.2.2.2.1.va.grownS HR7.out.1 hgrow (fun g e e2=>?_),fun g e e2=>?_,?_,?_,?_⟩
    ·have:=(h5 g e).1; have:=(hlt g e2).2; omega
    ·rcases hob with h | h
     ·rw [h] at e2
      have:=(h5 g e).1; have:=(hlt g e2).2; omega
     ·rw [h] at e2
      have:=(h5 g e).2
      simp at e2
      subst e2
      simp at this
    ·exact (HR.out.box.below kk).grown hgrow (fun e=>by have:=(hlt _ e).1; omega)
    ·exact (HR.out.low.below kk).grownS HR7.out.1 hgrow
    ·exact (HR.out.k.trans (kk.mono HR.out.k.size)).grown hgrow (Nat.le_trans HR.out.k.size kk.size) (fun g e=>by have:=(hlt g e).1; omega)
   clear hown hgrow hob
   go_wp2
   go_roundw
   case rel=>exact ⟨i + 1,_,_,by omega,rfl,rfl,by go_num,HN7.out⟩
   case measure=>simp [intOf]; omega
  ·obtain rfl:i = n:=by omega
   have hC:=HR.out.box
   have HK:Hid (∀ W,Below wr.heap.size wr W→W.cell? ⟨w.heap.size,0,none⟩ = some (.slice a1 m1 c1)∧W.cell? ⟨w.heap.size,1,none⟩ = some (.bool false)):=fun W k=>by
    have h:=hC.below k
    have b1:=h.cell 0
    have b2:=h.cell 1
    simp at b1 b2
    exact ⟨b1,b2⟩
   have u1:=hC.cell 0
   have u2:=hC.cell 1
   have u3:=hC.frozen 0
   have u4:=hC.frozen 1
   simp at u1 u2
   have HC:Hid (Cl w.heap.size [.slice a1 m1 c1,.bool false] 66 wr):=hC
   clear hC
   go_wp2
   refine wp_region_G (fun W=>W.cell? ⟨w.heap.size,0,none⟩ = some (.slice a1 m1 c1)∧W.cell? ⟨w.heap.size,1,none⟩ = some (.bool false)) 3 (by kernel_rfl) (HK.out _ (Below.refl _ _).drew) (fun hHeld=>?_)
   refine wpAnyG_take (i:=0) (v:=?v0x1) rfl (by kernel_rfl) (fun _ _ _ h=>h) (Or.inl ⟨by rfl,?y0x1⟩) hHeld ?r0x1
   case y0x1=>(intro wS hSw; obtain ⟨s1,s2⟩:=hSw; go_simp; try with_reducible rfl)
   simp only [Act.put,List.getElem_toArray,List.getElem_cons_zero,List.getElem_cons_succ,List.setIfInBounds_toArray,List.set_cons_zero,List.set_cons_succ]
   refine wpAnyG_take (i:=1) (v:=?v1x2) rfl (by kernel_rfl) (fun _ _ _ h=>h) (Or.inl ⟨by rfl,?y1x2⟩) hHeld ?r1x2
   case y1x2=>(intro wS hSw; obtain ⟨s1,s2⟩:=hSw; go_simp; try with_reducible rfl)
   simp only [Act.put,List.getElem_toArray,List.getElem_cons_zero,List.getElem_cons_succ,List.setIfInBounds_toArray,List.set_cons_zero,List.set_cons_succ]
   refine wpAnyG_take (i:=2) (v:=?v2x3) rfl (by kernel_rfl) (fun _ _ _ h=>h) (Or.inl ⟨by rfl,?y2x3⟩) hHeld ?r2x3
   case y2x3=>(intro wS hSw; obtain ⟨s1,s2⟩:=hSw; go_simp; try with_reducible rfl)
   simp only [Act.put,List.getElem_toArray,List.getElem_cons_zero,List.getElem_cons_succ,List.setIfInBounds_toArray,List.set_cons_zero,List.set_cons_succ]
   refine wpAnyG_last (i:=3) rfl (by kernel_rfl) (by kernel_rfl) (fun K hK=>?_)
   go_simp
   refine hK.out _ _ ?_
   clear hK K
   refine wpAnyG_done (by kernel_rfl) ?_ _
   clear u1 u2 u3 u4 hHeld
   go_wp2
   obtain ⟨WF,hWF⟩:∃ WF,WF = ((wr.setCell ⟨w.heap.size,0,none⟩ (.slice a1 m1 c1)).setCell ⟨w.heap.size,1,none⟩ (.bool false)).drew:=⟨_,rfl⟩
   have C3:Cl w.heap.size [.slice a1 m1 c1,.bool false] 66 WF:=by rw [hWF]; exact (HC.out.two (.slice a1 m1 c1) (.bool false)).below (Below.refl _ _).drew
   have HF:Hid (SO (w.heap.size + 1) WF av (i + 1) (BN.bz i)∧LN WF (.slice a1 m1 c1) (BN.prm (i + 1))∧Below w.heap.size w WF):=by
    show _∧_
    rw [hWF]
    exact ⟨(HR.out.row.setBox (by omega) HC.out).below (Below.refl _ _).drew,(HR.out.low.setTwo HC.out).below (Below.refl _ _).drew,((HR.out.k.setCell (by simp) _).setCell (by simp) _).drew⟩
   rw [← hWF]
   clear hWF
   have e1:=C3.cell 0
   have e2:=C3.cell 1
   simp at e1 e2
   exact bodyPost_ret (v:=.tuple #[av,.agg #[.slice a1 m1 c1,.bool false]]) (by simp [results,Tryz.results36,go_sem,e1,e2]) rfl ⟨_,_,rfl,HF.out.1.low (by omega),HF.out.2.1,HF.out.2.2⟩
end
section
set_option maxRecDepth 100000
open Go.RowKit LgM
end
section
set_option maxRecDepth 100000
open Go.RowKit LgM
def ffk (k i:Nat) (r:Nat):Int:=if k + 1 - i < r∧r≤k + 1 then ((BN.ch (k + 1) (k + 1 - r):Nat):Int) * BN.bz k (k + 1 - r) else 0
theorem VA.look {w:World} {v:Value} {N:Nat} {x:Nat→Int} (h:VA w v N x) (h0:0 < N):∃ g o c,v = .slice (some ⟨g,o,none⟩) N c∧g < w.heap.size∧∀ W,Below w.heap.size w W→∀ j,j < N→∃ sa sk sc,W.cell? ⟨g,o + j * 2,none⟩ = some (.slice sa sk sc)∧W.cell? ⟨g,o + j * 2 + 1,none⟩ = some (.bool (decide (x j < 0)))∧LN W (.slice sa sk sc) (x j).natAbs:=by
 obtain ⟨a,g,o,c,e,h1,h2⟩:=h.open
 obtain ⟨rfl,hl⟩:=h1 h0
 refine ⟨g,o,c,e,hl,fun W k j hj=>?_⟩
 obtain ⟨sa,sk,sc,c1,c2,c3⟩:=h2 j hj
 exact ⟨sa,sk,sc,(k.cell (p:=⟨g,o + j * 2,none⟩) hl).trans c1,(k.cell (p:=⟨g,o + j * 2 + 1,none⟩) hl).trans c2,c3.below k⟩
end
section
open Go.Shelf
def Tryz.lays169_ren:Go.Shelf.Ren:=⟨fun | 169=>101 | n=>n,fun | 70=>115 | 9=>9 | 0=>0 | 72=>117 | 37=>105 | 127=>139 | 3=>3 | 5=>5 | n=>n,fun | n=>n⟩
theorem Tryz.lays169:Go.Proofs.Lays.n169 Tryz.prog Tryz.lays169_ren:={
 mixed:=by kernel_rfl
 f169:=Tryz.func101.trans (congrArg some (by kernel_rfl))
 t0:=Tryz.underlying0
 a0:=Tryz.isAgg0
 z0:=Tryz.sizeOf0
 v0:=Tryz.zeroValue0
 t3:=Tryz.underlying3
 a3:=Tryz.isAgg3
 z3:=Tryz.sizeOf3
 v3:=Tryz.zeroValue3
 t9:=Tryz.underlying9
 a9:=Tryz.isAgg9
 z9:=Tryz.sizeOf9
 v9:=Tryz.zeroValue9
 t37:=Tryz.underlying105
 a37:=Tryz.isAgg105
 z37:=Tryz.sizeOf105
 v37:=Tryz.zeroValue105
 t70:=Tryz.underlying115
 a70:=Tryz.isAgg115
 z70:=Tryz.sizeOf115
 v70:=Tryz.zeroValue115
 t72:=Tryz.underlying117
 a72:=Tryz.isAgg117
 z72:=Tryz.sizeOf117
 v72:=Tryz.zeroValue117
 t127:=Tryz.underlying139
 a127:=Tryz.isAgg139
 z127:=Tryz.sizeOf139
 v127:=Tryz.zeroValue139 }
theorem Tryz.Builder_Extra_169:Builder.Extra Tryz.prog Tryz.lays169_ren:={
 sizeBuilder:=by kernel_rfl
 liesBuilder:=by kernel_rfl
 t5:=Tryz.underlying5
 a5:=Tryz.isAgg5
 z5:=Tryz.sizeOf5
 v5:=Tryz.zeroValue5
 infoByte:=by kernel_rfl
 cellsByte:=by kernel_rfl
 sizeByte:=by kernel_rfl
 neB5:=by decide }
open Go.RowKit in
theorem Tryz.Builder_String_any_k (B b:Nat) (l:List UInt8) (w:World) (h:Lib.IsBuilderF 117 5 B b (Lib.byteCells l) w) (hBw:B≤w.heap.size) :
  Calls Tryz.prog 101 #[.pointer (some ⟨b,0,none⟩)] w fun e w'=>e = .returned (.string ⟨l.toArray⟩)∧(Lib.IsBuilderF 117 5 B b (Lib.byteCells l) w'∧Below B w w'∧Lib.OthersKept 5 (some b) w w'):=Any.Builder_String_any_k Tryz.lays169 Tryz.Builder_Extra_169 B b l w h hBw
def Tryz.laysM171_ren:Go.Shelf.Ren:=⟨fun | 171=>99 | 243=>118 | 246=>129 | 283=>137 | 284=>138 | 285=>139 | 286=>140 | 129=>146 | 317=>145 | 318=>147 | 319=>148 | 320=>149 | 337=>152 | 338=>142 | n=>n,fun | 3=>3 | 9=>9 | 2=>2 | 4=>4 | 171=>151 | 0=>0 | 53=>110 | 37=>105 | 5=>5 | 173=>154 | 212=>159 | 51=>106 | 20=>20 | 213=>160 | 46=>84 | 232=>166 | 233=>162 | n=>n,fun | 17=>0 | 18=>3 | 19=>2 | n=>n⟩
theorem Tryz.laysM171:Go.Proofs.LaysM.n171 Tryz.prog Tryz.laysM171_ren:={
 mixed:=by kernel_rfl
 f129:=Tryz.func146.trans (congrArg some (by kernel_rfl))
 f171:=Tryz.func99.trans (congrArg some (by kernel_rfl))
 f243:=Tryz.func118.trans (congrArg some (by kernel_rfl))
 f246:=Tryz.func129.trans (congrArg some (by kernel_rfl))
 f283:=Tryz.func137.trans (congrArg some (by kernel_rfl))
 f284:=Tryz.func138.trans (congrArg some (by kernel_rfl))
 f285:=Tryz.func139.trans (congrArg some (by kernel_rfl))
 f286:=Tryz.func140.trans (congrArg some (by kernel_rfl))
 f317:=Tryz.func145.trans (congrArg some (by kernel_rfl))
 f318:=Tryz.func147.trans (congrArg some (by kernel_rfl))
 f319:=Tryz.func148.trans (congrArg some (by kernel_rfl))
 f320:=Tryz.func149.trans (congrArg some (by kernel_rfl))
 f337:=Tryz.func152.trans (congrArg some (by kernel_rfl))
 f338:=Tryz.func142.trans (congrArg some (by kernel_rfl))
 t0:=Tryz.underlying0
 a0:=Tryz.isAgg0
 z0:=Tryz.sizeOf0
 v0:=Tryz.zeroValue0
 t2:=Tryz.underlying2
 a2:=Tryz.isAgg2
 z2:=Tryz.sizeOf2
 v2:=Tryz.zeroValue2
 t3:=Tryz.underlying3
 a3:=Tryz.isAgg3
 z3:=Tryz.sizeOf3
 v3:=Tryz.zeroValue3
 t4:=Tryz.underlying4
 a4:=Tryz.isAgg4
 z4:=Tryz.sizeOf4
 v4:=Tryz.zeroValue4
 t5:=Tryz.underlying5
 a5:=Tryz.isAgg5
 z5:=Tryz.sizeOf5
 v5:=Tryz.zeroValue5
 t9:=Tryz.underlying9
 a9:=Tryz.isAgg9
 z9:=Tryz.sizeOf9
 v9:=Tryz.zeroValue9
 t20:=Tryz.underlying20
 a20:=Tryz.isAgg20
 z20:=Tryz.sizeOf20
 v20:=Tryz.zeroValue20
 t37:=Tryz.underlying105
 a37:=Tryz.isAgg105
 z37:=Tryz.sizeOf105
 v37:=Tryz.zeroValue105
 t46:=Tryz.underlying84
 a46:=Tryz.isAgg84
 z46:=Tryz.sizeOf84
 v46:=Tryz.zeroValue84
 t51:=Tryz.underlying106
 a51:=Tryz.isAgg106
 z51:=Tryz.sizeOf106
 v51:=Tryz.zeroValue106
 t53:=Tryz.underlying110
 a53:=Tryz.isAgg110
 z53:=Tryz.sizeOf110
 v53:=Tryz.zeroValue110
 t171:=Tryz.underlying151
 a171:=Tryz.isAgg151
 z171:=Tryz.sizeOf151
 v171:=Tryz.zeroValue151
 t173:=Tryz.underlying154
 a173:=Tryz.isAgg154
 z173:=Tryz.sizeOf154
 v173:=Tryz.zeroValue154
 t212:=Tryz.underlying159
 a212:=Tryz.isAgg159
 z212:=Tryz.sizeOf159
 v212:=Tryz.zeroValue159
 t213:=Tryz.underlying160
 a213:=Tryz.isAgg160
 z213:=Tryz.sizeOf160
 t232:=Tryz.underlying166
 a232:=Tryz.isAgg166
 z232:=Tryz.sizeOf166
 v232:=Tryz.zeroValue166
 t233:=Tryz.underlying162
 a233:=Tryz.isAgg162
 z233:=Tryz.sizeOf162
 v233:=Tryz.zeroValue162
 g17:=by kernel_rfl
 g18:=by kernel_rfl
 g19:=by kernel_rfl
 i0:=by kernel_rfl
 i2:=by kernel_rfl
 i3:=by kernel_rfl
 i4:=by kernel_rfl
 i5:=by kernel_rfl
 i9:=by kernel_rfl
 i20:=by kernel_rfl
 i37:=by kernel_rfl
 i46:=by kernel_rfl
 i51:=by kernel_rfl
 i53:=by kernel_rfl
 i171:=by kernel_rfl
 i173:=by kernel_rfl
 i212:=by kernel_rfl
 i232:=by kernel_rfl
 i233:=by kernel_rfl
 m17:=by kernel_rfl
 m18:=by kernel_rfl
 m19:=by kernel_rfl }
open Go.RowKit Go.Sort Go.Lib in
theorem Tryz.strconv_Itoa (n : Int) (h0 : -9223372036854775808 ≤ n) (h1 : n ≤ 9223372036854775807) (w : World) (htab : Lib.TabIs Tryz.prog w "internal/strconv.uint64pow10" .u64 Lib.pow10Tab) :
  Calls Tryz.prog 99 #[.int .i64 n] w fun e w'=>e = .returned (.string ⟨(Lib.itoa n).toArray⟩)∧∃ k os,w' = grow (w.drewN k) os:=Any.strconv_Itoa Tryz.laysM171 n h0 h1 w htab
def Tryz.lays105_ren:Go.Shelf.Ren:=⟨fun | 105=>100 | 212=>119 | 99=>120 | 165=>121 | 166=>98 | 170=>122 | 169=>101 | 263=>130 | 264=>131 | 206=>132 | 240=>117 | 241=>133 | 276=>128 | 277=>141 | n=>n,fun | 9=>9 | 3=>3 | 4=>4 | 20=>20 | 0=>0 | 46=>84 | 109=>135 | 5=>5 | 72=>117 | 76=>120 | 51=>106 | 146=>145 | 53=>110 | 148=>147 | 70=>115 | 37=>105 | 75=>119 | 127=>139 | 164=>142 | 80=>33 | n=>n,fun | n=>n⟩
theorem Tryz.lays105:Go.Proofs.Lays.n105 Tryz.prog Tryz.lays105_ren:={
 mixed:=by kernel_rfl
 f99:=Tryz.func120.trans (congrArg some (by kernel_rfl))
 f105:=Tryz.func100.trans (congrArg some (by kernel_rfl))
 f165:=Tryz.func121.trans (congrArg some (by kernel_rfl))
 f166:=Tryz.func98.trans (congrArg some (by kernel_rfl))
 f169:=Tryz.func101.trans (congrArg some (by kernel_rfl))
 f170:=Tryz.func122.trans (congrArg some (by kernel_rfl))
 f206:=Tryz.func132.trans (congrArg some (by kernel_rfl))
 f212:=Tryz.func119.trans (congrArg some (by kernel_rfl))
 f240:=Tryz.func117.trans (congrArg some (by kernel_rfl))
 f241:=Tryz.func133.trans (congrArg some (by kernel_rfl))
 f263:=Tryz.func130.trans (congrArg some (by kernel_rfl))
 f264:=Tryz.func131.trans (congrArg some (by kernel_rfl))
 f276:=Tryz.func128.trans (congrArg some (by kernel_rfl))
 f277:=Tryz.func141.trans (congrArg some (by kernel_rfl))
 t0:=Tryz.underlying0
 a0:=Tryz.isAgg0
 z0:=Tryz.sizeOf0
 v0:=Tryz.zeroValue0
 t3:=Tryz.underlying3
 a3:=Tryz.isAgg3
 z3:=Tryz.sizeOf3
 v3:=Tryz.zeroValue3
 t4:=Tryz.underlying4
 a4:=Tryz.isAgg4
 z4:=Tryz.sizeOf4
 v4:=Tryz.zeroValue4
 t5:=Tryz.underlying5
 a5:=Tryz.isAgg5
 z5:=Tryz.sizeOf5
 v5:=Tryz.zeroValue5
 t9:=Tryz.underlying9
 a9:=Tryz.isAgg9
 z9:=Tryz.sizeOf9
 v9:=Tryz.zeroValue9
 t20:=Tryz.underlying20
 a20:=Tryz.isAgg20
 z20:=Tryz.sizeOf20
 v20:=Tryz.zeroValue20
 t37:=Tryz.underlying105
 a37:=Tryz.isAgg105
 z37:=Tryz.sizeOf105
 v37:=Tryz.zeroValue105
 t46:=Tryz.underlying84
 a46:=Tryz.isAgg84
 z46:=Tryz.sizeOf84
 v46:=Tryz.zeroValue84
 t51:=Tryz.underlying106
 a51:=Tryz.isAgg106
 z51:=Tryz.sizeOf106
 v51:=Tryz.zeroValue106
 t53:=Tryz.underlying110
 a53:=Tryz.isAgg110
 z53:=Tryz.sizeOf110
 v53:=Tryz.zeroValue110
 t70:=Tryz.underlying115
 a70:=Tryz.isAgg115
 z70:=Tryz.sizeOf115
 v70:=Tryz.zeroValue115
 t72:=Tryz.underlying117
 a72:=Tryz.isAgg117
 z72:=Tryz.sizeOf117
 v72:=Tryz.zeroValue117
 t75:=Tryz.underlying119
 a75:=Tryz.isAgg119
 z75:=Tryz.sizeOf119
 v75:=Tryz.zeroValue119
 t76:=Tryz.underlying120
 a76:=Tryz.isAgg120
 z76:=Tryz.sizeOf120
 v76:=Tryz.zeroValue120
 t109:=Tryz.underlying135
 a109:=Tryz.isAgg135
 z109:=Tryz.sizeOf135
 v109:=Tryz.zeroValue135
 t127:=Tryz.underlying139
 a127:=Tryz.isAgg139
 z127:=Tryz.sizeOf139
 v127:=Tryz.zeroValue139
 t146:=Tryz.underlying145
 a146:=Tryz.isAgg145
 z146:=Tryz.sizeOf145
 v146:=Tryz.zeroValue145
 t148:=Tryz.underlying147
 a148:=Tryz.isAgg147
 z148:=Tryz.sizeOf147
 v148:=Tryz.zeroValue147
 t164:=Tryz.underlying142
 a164:=Tryz.isAgg142
 z164:=Tryz.sizeOf142
 v164:=Tryz.zeroValue142 }
theorem Tryz.Builder_Extra_105:Builder.Extra Tryz.prog Tryz.lays105_ren:={
 sizeBuilder:=by kernel_rfl
 liesBuilder:=by kernel_rfl
 t5:=Tryz.underlying5
 a5:=Tryz.isAgg5
 z5:=Tryz.sizeOf5
 v5:=Tryz.zeroValue5
 infoByte:=by kernel_rfl
 cellsByte:=by kernel_rfl
 sizeByte:=by kernel_rfl
 neB5:=by decide }
open Go.RowKit Go.Lib in
theorem Tryz.strings_Repeat (s:ByteArray) (c:Nat) (w:World) (hc:c≤9223372036854775807) (hlen:s.size * c≤140737488355328) :
  Calls Tryz.prog 100 #[.string s,.int .i64 c] w fun e w'=>e = .returned (.string ⟨(Lib.repeatL s.data.toList c).toArray⟩)∧Below w.heap.size w w':=Any.strings_Repeat Tryz.lays105 Tryz.Builder_Extra_105 s c w hc hlen
end
section
set_option maxRecDepth 100000
open Go.RowKit LgM
def Tq (w : World) : Prop := Lib.TabIs Tryz.prog w "internal/strconv.uint64pow10" .u64 Lib.pow10Tab
theorem Tq.below {w w':World} (h:Tq w) (k:Below w.heap.size w w'):Tq w':=Lib.tabBelow_of_tabIs h w' k
theorem below_grow (w:World) (k:Nat) (os:Array Obj):Below w.heap.size w (Sort.grow (w.drewN k) os):=by
 refine ⟨rfl,rfl,rfl,by simp [Sort.grow,World.drewN],fun j hj=>?_⟩
 have:(w.drewN k).heap = w.heap:=rfl
 simp [Sort.grow,this,Array.getElem?_append_left hj]
def Bd (b:Nat) (l:List UInt8) (w:World):Prop:=Lib.IsBuilderF 117 5 b b (Lib.byteCells l) w
theorem BuilderAtF_below {T e:TypeId} {B b:Nat} {p:Value} {bs:List Value} {w w':World} (h:Lib.BuilderAtF T e B b p bs w) (k:Below w.heap.size w w'):Lib.BuilderAtF T e B b p bs w':=by
 obtain ⟨h1,v,h2,h3,h4⟩:=h
 refine ⟨h1,v,(k.block b (lt_of_some h2)).trans h2,?_,h4⟩
 obtain ⟨h5,h6 | ⟨g,cap,cur,fz,a1,a2,a3,a4⟩⟩:=h3
 ·exact ⟨h5,.inl h6⟩
 ·exact ⟨h5,.inr ⟨g,cap,cur,fz,a1,a2,(k.block g (lt_of_some a3)).trans a3,a4⟩⟩
theorem Bd.below {b:Nat} {l:List UInt8} {w w':World} (h:Bd b l w) (k:Below w.heap.size w w'):Bd b l w':=by
 rcases h with h | h
 ·exact .inl (BuilderAtF_below h k)
 ·exact .inr (BuilderAtF_below h k)
theorem Bd.new (w:World):Bd w.heap.size [] (w.alloc (.cells #[.pointer none,.slice none 0 0] 117)):=Lib.IsBuilderF.of (Lib.fresh_isBuilder _ _ w)
theorem repeatL_one (c:Nat):Lib.repeatL [48] c = List.replicate c 48:=by
 induction c with
 | zero=>rfl
 | succ c ih=>rw [Lib.repeatL,ih]; rfl
theorem Itoa_nat (n:Nat) (h:n≤9000000000000000000) (w:World) (hT:Tq w) :
  Calls Tryz.prog 99 #[.int .i64 (n:Int)] w fun e w'=>e = .returned (.string ⟨(Lib.decDigits n).toArray⟩)∧Below w.heap.size w w':=by
 refine (Tryz.strconv_Itoa n (by omega) (by omega) w hT).mono ?_
 rintro e w' ⟨rfl,k,os,rfl⟩
 refine ⟨?_,below_grow w k os⟩
 unfold Lib.itoa
 rw [if_neg (by omega)]
 rfl
theorem Tryz.Write_k (B b:Nat) (bs:List Value) (s:ByteArray) (w:World) (h:Lib.IsBuilderF 117 5 B b bs w) (hlen:bs.length + s.size≤140737488355328) (hBw:B≤w.heap.size) :
  Calls Tryz.prog 98 #[.pointer (some ⟨b,0,none⟩),.string s] w fun e w'=>e = .returned (.tuple #[.int .i64 s.size,.nilIface])∧(Lib.BuilderAtF 117 5 B b (.pointer (some ⟨b,0,none⟩)) (bs ++ Lib.strCells s) w'∧Below B w w'∧Lib.OthersKept 5 (some b) w w') :=
 Any.Builder_WriteString_k (ρ:=Tryz.lays105_ren) { Tryz.lays105 with } Tryz.Builder_Extra_105 B b bs s w h hlen hBw
theorem Write_text (b:Nat) (l s:List UInt8) (w:World) (h:Bd b l w) (hb:b≤w.heap.size) (hl:l.length + s.length≤100000000) :
  Calls Tryz.prog 98 #[.pointer (some ⟨b,0,none⟩),.string ⟨s.toArray⟩] w fun e w'=>e = .returned (.tuple #[.int .i64 s.length,.nilIface])∧Bd b (l ++ s) w'∧Below b w w':=by
 refine (Tryz.Write_k b b _ ⟨s.toArray⟩ w h (by rw [Lib.byteCells_length]; show l.length + s.toArray.size≤_; simp; omega) hb).mono ?_
 rintro e w' ⟨rfl,h1,h2,_⟩
 refine ⟨rfl,.inr ?_,h2⟩
 rw [Lib.byteCells_append]
 exact h1
theorem pow9 (m:Nat):Bs ^ m = 10 ^ (9 * m):=by rw [Nat.pow_mul]
theorem text_len (x m:Nat) (hm:1≤m) (h:x < Bs ^ m):(Lib.decDigits x).length≤9 * m:=dec_len x (9 * m) (by omega) (by rw [← pow9]; exact h)
set_option maxHeartbeats 4000000 in
theorem String_any (v:Value) (n m:Nat) (w:World) (h:LN w v n) (hn:n < Bs ^ m) (hm1:1≤m) (hm:m≤1000000) (hT:Tq w) :
  Calls Tryz.prog 68 #[.agg #[v]] w fun e w'=>e = .returned (.string ⟨(Lib.decDigits n).toArray⟩)∧Below w.heap.size w w':=by
 obtain ⟨k,ax,gx,ox,cx,rfl,nx,hpx,hcx,hlx⟩:=h.open
 have hkm:=nx.le hn
 have HNX:Hid (Nd k n):=nx
 have HN:Hid (n < Bs ^ m):=hn
 have HT:Hid (Tq w):=hT
 clear h nx hn hT
 by_cases hk0:k = 0
 ·subst hk0
  have hn0:n = 0:=by have:=HNX.out.lt; simpa using this
  subst hn0
  clear hpx hcx hlx
  go_enter Tryz.func68,Tryz.ntmps68
  go_wp2
  go_ret
  exact ⟨by rw [dec_lt (by decide)]; rfl,(Below.refl _ _).alloc (Nat.le_refl _) _⟩
 ·obtain ⟨L,rfl⟩:∃ L,k = L + 1:=⟨k - 1,by omega⟩
  obtain rfl:=hpx (by omega)
  have hlx:=hlx (by omega)
  have HCX:Hid (∀ W,Below w.heap.size w W→∀ i,i < L + 1→W.cell? ⟨gx,ox + i,none⟩ = some (.int .i64 ((n / Bs ^ i % Bs:Nat):Int))):=fun W k i hi=>(k.cell (p:=⟨gx,ox + i,none⟩) hlx).trans (hcx i hi)
  have hge:Bs ^ L≤n:=by rcases HNX.out.ge with h | h; omega; simpa using h
  have HGE:Hid (Bs ^ L≤n):=hge
  clear hpx hcx hge hk0
  obtain ⟨W0,hW0⟩:∃ W0,W0 = ((w.alloc (.cells #[.slice (some ⟨gx,ox,none⟩) (L + 1) cx] 64)).alloc (.cells #[.pointer none,.slice none 0 0] 117)):=⟨_,rfl⟩
  have z0:W0.heap.size = w.heap.size + 2:=by rw [hW0]; simp
  have KB0:Hid (Below w.heap.size w W0):=by
   show Below _ _ _
   rw [hW0]; exact ((Below.refl _ _).alloc (Nat.le_refl _) _).alloc (by simp) _
  have X0:Cl w.heap.size [.slice (some ⟨gx,ox,none⟩) (L + 1) cx] 64 W0:=by rw [hW0]; exact (Cl.new [.slice (some ⟨gx,ox,none⟩) (L + 1) cx] _ w).alloc _
  have B0:Bd (w.heap.size + 1) [] W0:=by rw [hW0]; have:=Bd.new (w.alloc (.cells #[.slice (some ⟨gx,ox,none⟩) (L + 1) cx] 64)); simpa using this
  have HX0:Hid (Cl w.heap.size [.slice (some ⟨gx,ox,none⟩) (L + 1) cx] 64 W0):=X0
  have HB0:Hid (Bd (w.heap.size + 1) [] W0):=B0
  obtain ⟨d,hd⟩:∃ d,d = n / Bs ^ L % Bs:=⟨_,rfl⟩
  have htop:n / Bs ^ L % Bs = n / Bs ^ L:=Nat.mod_eq_of_lt (by rw [Nat.div_lt_iff_lt_mul (bs_pos L),Nat.mul_comm,← pow_s]; exact HNX.out.lt)
  have q0:∀ x y:Obj,((w.alloc x).alloc y).cell? ⟨gx,ox + L,none⟩ = some (.int .i64 (d:Int)):=fun x y=>by
   rw [hd]; exact HCX.out _ (((Below.refl _ _).alloc (Nat.le_refl _) _).alloc (by simp) _) L (by omega)
  have hd1:d≤999999999:=by rw [hd]; exact lim_le (Nat.mod_lt _ (by decide))
  have HD:Hid (d = n / Bs ^ L):=by show _ = _; rw [hd]; exact htop
  have HI0:Hid (∀ W,Tq W→Calls Tryz.prog 99 #[.int .i64 (d:Int)] W fun e w'=>e = .returned (.string ⟨(Lib.decDigits d).toArray⟩)∧Below W.heap.size W w'):=fun W h=>Itoa_nat d (by omega) W h
  clear hd htop X0 B0
  go_enter Tryz.func68,Tryz.ntmps68
  go_wp2_with fail
  rw [← hW0]
  clear q0 hW0
  refine (HI0.out W0 (HT.out.below KB0.out)).mono ?_
  rintro e w1 ⟨rfl,k1⟩
  have D1:=HB0.out.below k1
  go_wp2_with fail
  refine (Write_text (w.heap.size + 1) [] (Lib.decDigits d) w1 D1 (by have:=k1.size; omega) (by have:=text_len d 1 (by omega) (by rw [Nat.pow_one]; exact Nat.lt_of_le_of_lt hd1 (by decide)); simp; omega)).mono ?_
  rintro e w2 ⟨rfl,D2,k2⟩
  rw [List.nil_append,HD.out] at D2
  have HB2:Hid (Bd (w.heap.size + 1) (Lib.decDigits (n / Bs ^ L)) w2):=D2
  have HK2:Hid (Below (w.heap.size + 1) W0 w2):=(k1.mono (by omega)).trans k2
  have z2:w.heap.size + 2≤w2.heap.size:=by have:=HK2.out.size; omega
  clear D1 k1 D2 k2 HI0 HB0
  go_wp2
  go_loopw [21] (fun iv wx=>∃ i:Nat,i≤L∧iv = .int .i64 (i:Int)∧Hid (Bd (w.heap.size + 1) (Lib.decDigits (n / Bs ^ (L - i))) wx∧Below (w.heap.size + 1) W0 wx)) (fun iv _=>L - (intOf iv).toNat)
  case atStart=>exact ⟨0,Nat.zero_le _,rfl,HB2.out,HK2.out⟩
  case round =>
   clear HB2 HK2
   obtain ⟨i,hiL,rfl,HR⟩:=hrel
   have hzr:w.heap.size + 2≤wr.heap.size:=by have:=HR.out.2.size; omega
   by_cases hlt:i < L
   ·obtain ⟨j,hj⟩:∃ j,j = L - 1 - i:=⟨_,rfl⟩
    obtain ⟨d,hd⟩:∃ d,d = n / Bs ^ j % Bs:=⟨_,rfl⟩
    have hd1:d≤999999999:=by rw [hd]; exact lim_le (Nat.mod_lt _ (by decide))
    have q1:wr.cell? ⟨w.heap.size,0,none⟩ = some (.slice (some ⟨gx,ox,none⟩) (L + 1) cx):=by
     have a:=HX0.out.cell 0
     rw [HR.out.2.cell (p:=⟨w.heap.size,0,none⟩) (by show w.heap.size < _; omega)]
     simpa using a
    have q0:wr.cell? ⟨gx,ox + (L - 1 - i),none⟩ = some (.int .i64 (d:Int)):=by
     rw [hd,hj]; exact HCX.out _ (KB0.out.trans (HR.out.2.mono (by omega))) (L - 1 - i) (by omega)
    have hjI:(L:Int) - 1 - (i:Int) = ((L - 1 - i:Nat):Int):=by omega
    rw [← hj] at q0 hjI
    have HJ:Hid (j = L - 1 - i):=hj
    have hjL:j < L:=by omega
    have HDd:Hid (d = n / Bs ^ j % Bs):=hd
    have HTr:Hid (Tq wr):=HT.out.below (KB0.out.trans (HR.out.2.mono (by omega)))
    have hdl:(Lib.decDigits d).length≤9:=text_len d 1 (by omega) (by rw [Nat.pow_one]; exact Nat.lt_of_le_of_lt hd1 (by decide))
    obtain ⟨s,hs⟩:∃ s,s = Lib.decDigits d:=⟨_,rfl⟩
    rw [← hs] at hdl
    obtain ⟨c,hc⟩:∃ c:Nat,c = 9 - s.length:=⟨_,rfl⟩
    have hcI:(9:Int) - (s.length:Int) = (c:Int):=by omega
    have HS:Hid (s = Lib.decDigits d):=hs
    have HCc:Hid (c = 9 - s.length):=hc
    have hc9:c≤9:=by omega
    have HI0:Hid (∀ W,Tq W→Calls Tryz.prog 99 #[.int .i64 (d:Int)] W fun e w'=>e = .returned (.string ⟨s.toArray⟩)∧Below W.heap.size W w'):=fun W h=>by rw [hs]; exact Itoa_nat d (by omega) W h
    clear hj hd hs hc
    go_wp2_with fail
    refine (HI0.out wr HTr.out).mono ?_
    rintro e w1 ⟨rfl,k1⟩
    have D1:Hid (Bd (w.heap.size + 1) (Lib.decDigits (n / Bs ^ (L - i))) w1):=HR.out.1.below k1
    have z1:=k1.size
    have HK1:Hid (Below (w.heap.size + 1) W0 w1):=HR.out.2.trans (k1.mono (by omega))
    clear k1 q0 q1
    have HRep:Hid (∀ W,Calls Tryz.prog 100 #[.string ⟨#[48]⟩,.int .i64 (c:Int)] W fun e w'=>e = .returned (.string ⟨(List.replicate c (48:UInt8)).toArray⟩)∧Below W.heap.size W w'):=fun W=>by
     have:=Tryz.strings_Repeat ⟨#[48]⟩ c W (by omega) (by show 1 * c≤_; omega)
     rw [← repeatL_one]; exact this
    have hTx:(Lib.decDigits (n / Bs ^ (L - i))).length≤9000000:=by
     have h1:n / Bs ^ (L - i) < Bs ^ m:=Nat.lt_of_le_of_lt (Nat.div_le_self _ _) HN.out
     have:=text_len _ m hm1 h1
     omega
    have HTx:Hid ((Lib.decDigits (n / Bs ^ (L - i))).length≤9000000):=hTx
    have HStep:Hid (Lib.decDigits (n / Bs ^ (L - i)) ++ List.replicate c 48 ++ s = Lib.decDigits (n / Bs ^ (L - (i + 1)))):=by
     show _ = _
     have h1:=dec_limb n j (by
      have:=HGE.out
      have h2:=Nat.pow_le_pow_right (show 0 < Bs by decide) (show j + 1≤L by omega)
      omega)
     rw [show L - (i + 1) = j by have:=HJ.out; omega,h1,show L - i = j + 1 by have:=HJ.out; omega,HCc.out,HS.out,HDd.out,List.append_assoc]
    clear hTx
    go_wp2_with fail
    refine (HRep.out w1).mono ?_
    rintro e w3 ⟨rfl,k3⟩
    have D3:Hid (Bd (w.heap.size + 1) (Lib.decDigits (n / Bs ^ (L - i))) w3):=D1.out.below k3
    have z3:=k3.size
    have HK3:Hid (Below (w.heap.size + 1) W0 w3):=HK1.out.trans (k3.mono (by omega))
    clear k3
    go_wp2_with fail
    refine (Write_text (w.heap.size + 1) _ (List.replicate c 48) w3 D3.out (by omega) (by have:=HTx.out; simp; omega)).mono ?_
    rintro e w4 ⟨rfl,D4,k4⟩
    have HD4:Hid (Bd (w.heap.size + 1) (Lib.decDigits (n / Bs ^ (L - i)) ++ List.replicate c 48) w4):=D4
    have z4:=k4.size
    have HK4:Hid (Below (w.heap.size + 1) W0 w4):=HK3.out.trans k4
    clear D4 k4
    go_wp2_with fail
    refine (Write_text (w.heap.size + 1) _ s w4 HD4.out (by omega) (by have:=HTx.out; simp; omega)).mono ?_
    rintro e w5 ⟨rfl,D5,k5⟩
    rw [HStep.out] at D5
    have HD5:Hid (Bd (w.heap.size + 1) (Lib.decDigits (n / Bs ^ (L - (i + 1)))) w5):=D5
    have HK5:Hid (Below (w.heap.size + 1) W0 w5):=HK4.out.trans k5
    clear D5 k5
    go_wp2
    go_roundw
    case rel=>exact ⟨i + 1,by omega,by go_num,HD5.out,HK5.out⟩
    case measure=>simp [intOf]; omega
   ·obtain rfl:i = L:=by omega
    have HB9:Hid (Bd (w.heap.size + 1) (Lib.decDigits n) wr):=by
     have:=HR.out.1
     rw [Nat.sub_self,Nat.pow_zero,Nat.div_one] at this
     exact this
    go_wp2_with fail
    refine (Tryz.Builder_String_any_k (w.heap.size + 1) (w.heap.size + 1) (Lib.decDigits n) wr HB9.out (by omega)).mono ?_
    rintro e w1 ⟨rfl,_,k1,_⟩
    have HK9:Hid (Below w.heap.size w w1):=KB0.out.trans ((HR.out.2.trans k1).mono (by omega))
    clear k1
    go_wp2
    go_ret
    exact ⟨rfl,HK9.out⟩
end
section
set_option maxRecDepth 100000
open Go.RowKit LgM
def Vx (b:Nat) (x:Int) (w:World):Prop:=∃ a k c,Cl b [.slice a k c,.bool (decide (x < 0))] 66 w∧LN w (.slice a k c) x.natAbs
end
end Go.Proofs.YtnkjadpmigpneaaGreatDoor
