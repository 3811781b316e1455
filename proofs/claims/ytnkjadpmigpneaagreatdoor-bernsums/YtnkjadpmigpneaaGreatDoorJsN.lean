import Derived.Test.YtnkjadpmigpneaaGreatDoorBrC
import Derived.Maps.AppendAt
set_option linter.unusedSimpArgs false
set_option linter.unusedVariables false
namespace Go.Proofs.YtnkjadpmigpneaaGreatDoor
section
set_option maxRecDepth 100000
open Go.RowKit LgM
theorem SO.setBox {B N b:Nat} {w:World} {v:Value} {x:Nat→Int} {a a':Option Addr} {k c k' c':Nat} {z z':Bool} {t:TypeId} (h:SO B w v N x) (hb:b < B) (hc:Cl b [.slice a k c,.bool z] t w):SO B ((w.setCell ⟨b,0,none⟩ (.slice a' k' c')).setCell ⟨b,1,none⟩ (.bool z')) v N x:=by
 obtain ⟨us,h1,h2⟩:=h
 refine ⟨us,ownsRow_setCell_below (ownsRow_setCell_below h1 (by show b < _; omega) _) (by show b < _; omega) _,fun j hj=>?_⟩
 obtain ⟨sa,sk,sc,c1,c2,c3⟩:=h2 j hj
 exact ⟨sa,sk,sc,c1,c2,c3.setTwo hc⟩
structure Nb (w:World) (n i:Nat) (vb av cv:Value) (W:World):Prop where
 row:SO (w.heap.size + 1) W av (i + 1) (BN.bz n)
 chs:VA W cv (i + 2) (fun j=>((BN.ch (i + 1) j:Nat):Int))
 ne:∀ g,cv.ownBlock = some g→av.ownBlock ≠ some g
 box:Cl w.heap.size [vb,.bool false] 66 W
 low:LN W vb (BN.prm (n + 1))
 k:Below w.heap.size w W
set_option maxHeartbeats 1500000 in
theorem numbers_any (n:Nat) (w:World) (hn:n≤200) (hT:Tb w) :
  Calls Tryz.prog 36 #[.int .i64 (n:Int)] w fun e w'=>∃ v u,e = .returned (.tuple #[v,.agg #[u,.bool false]])∧SO w.heap.size w' v (n + 1) (BN.bz n)∧LN w' u (BN.prm (n + 1))∧Below w.heap.size w w':=by
 obtain ⟨i0,hi,hz0,hz1,hz2⟩:=info_parts Tryz.infoSg
 have HI:Hid (Tryz.prog.info? 66 = some i0∧i0.zero = some (.agg #[.slice none 0 0,.bool false])∧i0.size = 2∧i0.bytes = 32):=⟨hi,hz0,hz1,hz2⟩
 clear hi hz0 hz1 hz2
 obtain ⟨n1,hn1⟩:∃ n1,n1 = n + 1:=⟨_,rfl⟩
 have hn1i:(n:Int) + 1 = (n1:Int):=by omega
 obtain ⟨W0,hW0⟩:∃ W0,W0 = w.alloc (.cells #[.slice none 0 0,.bool false] 66):=⟨_,rfl⟩
 have HW0:Hid (Cl w.heap.size [.slice none 0 0,.bool false] 66 W0∧Below w.heap.size w W0∧W0.heap.size = w.heap.size + 1):=by
  show _∧_
  rw [hW0]
  exact ⟨Cl.new [.slice none 0 0,.bool false] 66 w,(Below.refl _ _).alloc (Nat.le_refl _) _,by simp⟩
 have HPr:Hid (Calls Tryz.prog 71 #[.int .i64 (n1:Int)] W0 fun e w'=>∃ v,e = .returned (.agg #[v,.bool false])∧LN w' v (BN.prm (n + 1))∧Below W0.heap.size W0 w'):=by
  have:=primorial_any n1 W0 (by omega) (hT.below HW0.out.2.1)
  rw [hn1] at this ⊢
  exact this
 clear hT hn1
 go_enter Tryz.func36,Tryz.ntmps36
 go_wp2_with fail
 rw [← hW0]
 clear hW0
 refine HPr.out.mono ?_
 rintro e w1 ⟨v1,rfl,l1,k1⟩
 obtain ⟨a1,m1,c1,rfl⟩:=l1.shape
 have hC1:=HW0.out.1.below k1
 have hz1:w.heap.size + 1≤w1.heap.size:=by have:=k1.size; rw [HW0.out.2.2] at this; exact this
 have q1:=hC1.cell 0
 have q2:=hC1.cell 1
 have q3:=hC1.frozen 0
 have q4:=hC1.frozen 1
 simp at q1 q2
 obtain ⟨W2,hW2⟩:∃ W2,W2 = (w1.setCell ⟨w.heap.size,0,none⟩ (.slice a1 m1 c1)).setCell ⟨w.heap.size,1,none⟩ (.bool false):=⟨_,rfl⟩
 have hC2:Cl w.heap.size [.slice a1 m1 c1,.bool false] 66 W2:=by rw [hW2]; exact hC1.two _ _
 have hL2:LN W2 (.slice a1 m1 c1) (BN.prm (n + 1)):=by rw [hW2]; exact l1.setTwo hC1
 have hK2:Below w.heap.size w W2:=by rw [hW2]; exact ((HW0.out.2.1.trans (k1.mono (by have:=HW0.out.2.2; omega))).setCell (by simp) _).setCell (by simp) _
 have hZ2:w.heap.size + 1≤W2.heap.size:=by rw [hW2]; simpa using hz1
 have p1:W2.cell? ⟨w.heap.size,0,none⟩ = some (.slice a1 m1 c1):=by have:=hC2.cell 0; simpa using this
 have p2:W2.cell? ⟨w.heap.size,1,none⟩ = some (.bool false):=by have:=hC2.cell 1; simpa using this
 have HL2:Hid (Cl w.heap.size [.slice a1 m1 c1,.bool false] 66 W2∧LN W2 (.slice a1 m1 c1) (BN.prm (n + 1))∧Below w.heap.size w W2∧w.heap.size + 1≤W2.heap.size):=⟨hC2,hL2,hK2,hZ2⟩
 have HP2:Hid (W2.cell? ⟨w.heap.size,0,none⟩ = some (.slice a1 m1 c1)∧W2.cell? ⟨w.heap.size,1,none⟩ = some (.bool false)):=⟨p1,p2⟩
 have HCh:Hid (∀ W,Calls Tryz.prog 72 #[.int .i64 1] W fun e w'=>∃ v',e = .returned v'∧SO W.heap.size w' v' 2 (fun j=>((BN.ch 1 j:Nat):Int))∧Below W.heap.size W w'):=fun W=>choicesOf_any 1 W (by omega)
 have hsz:W2.heap.size = w1.heap.size:=by rw [hW2]; simp
 obtain ⟨W3,hW3⟩:∃ W3,W3 = W2.alloc (.cells #[.slice a1 m1 c1,.bool false] 66):=⟨_,rfl⟩
 have k23:Below W2.heap.size W2 W3:=by rw [hW3]; exact (Below.refl _ _).alloc (Nat.le_refl _) _
 have HS3:Hid (SO (w.heap.size + 1) W3 (.slice (some ⟨w1.heap.size,0,none⟩) 1 1) 1 (BN.bz n)∧Cl w.heap.size [.slice a1 m1 c1,.bool false] 66 W3∧LN W3 (.slice a1 m1 c1) (BN.prm (n + 1))∧Below w.heap.size w W3∧w1.heap.size < W3.heap.size):=by
  refine ⟨?_,HL2.out.1.below k23,HL2.out.2.1.below k23,HL2.out.2.2.1.trans (k23.mono HL2.out.2.2.1.size),by rw [hW3,← hsz]; simp⟩
  rw [hW3,← hsz]
  exact SO.lit (y:=((BN.prm (n + 1):Nat):Int)) HL2.out.2.2.2 (by rw [Int.natAbs_natCast]; exact HL2.out.2.1) (decide_eq_false (by omega)).symm _ (BN.bz_zero n hn)
 have HW23:Hid (W3 = ((w1.setCell ⟨w.heap.size,0,none⟩ (.slice a1 m1 c1)).setCell ⟨w.heap.size,1,none⟩ (.bool false)).alloc (.cells #[.slice a1 m1 c1,.bool false] 66)):=by show _ = _; rw [hW3,hW2]
 clear l1 k1 hC1 hz1 hC2 hL2 hK2 hZ2 p1 p2 HPr HW0 hW3 hW2 k23 hsz
 go_wp2_with fail
 rw [← HW23.out]
 clear q1 q2 q3 q4 HW23
 refine (HCh.out W3).mono ?_
 rintro e w4 ⟨v4,rfl,s4,k4⟩
 have HN4:Hid (Nb w n 0 (.slice a1 m1 c1) (.slice (some ⟨w1.heap.size,0,none⟩) 1 1) v4 w4):=by
  refine ⟨HS3.out.1.below k4,s4.va,fun g e=>?_,HS3.out.2.1.below k4,HS3.out.2.2.1.below k4,HS3.out.2.2.2.1.trans (k4.mono HS3.out.2.2.2.1.size)⟩
  obtain ⟨us,hu,_⟩:=s4
  have h1:=(hu.lt g e).1
  have h2:=HS3.out.2.2.2.2
  simp [Value.ownBlock]
  omega
 clear s4 k4 HS3 HCh HL2 HP2
 go_wp2
 go_loopw [2,4,12] (fun rv sv iv wx=>∃ (i:Nat) (av cv:Value),i≤n∧rv = av∧sv = cv∧iv = .int .i64 (i:Int)∧Hid (Nb w n i (.slice a1 m1 c1) av cv wx)) (fun _ _ iv _=>n - (intOf iv).toNat)
 case atStart=>exact ⟨0,_,_,Nat.zero_le _,rfl,rfl,rfl,HN4.out⟩
 case round =>
  clear HN4
  obtain ⟨i,av,cv,hin,hav,hcv,rfl,HR⟩:=hrel
  have h2:=hav.symm
  subst h2
  have h2:=hcv.symm
  subst h2
  by_cases hlt:i < n
  ·obtain ⟨us,hu,hx⟩:=HR.out.row
   have HU:Hid (wr.ownsRow (w.heap.size + 1) 66 2 av (i + 1) us∧SC wr us (i + 1) (BN.bz n)):=⟨hu,hx⟩
   clear hu hx
   go_wp2_with fail
   refine (oneMore_any _ (i + 1) wr HR.out.chs (by omega)).mono ?_
   rintro e w5 ⟨v5,rfl,s5,k5⟩
   have HN5:Hid (SO wr.heap.size w5 v5 (i + 1 + 2) (fun j=>((BN.ch (i + 1 + 1) j:Nat):Int))∧Below wr.heap.size wr w5):=⟨s5,k5⟩
   have HNx:Hid (Calls Tryz.prog 74 #[av,v5] w5 fun e w'=>∃ v,e = .returned (.agg #[v,.bool (decide (BN.bz n (i + 1) < 0))])∧LN w' v (BN.bz n (i + 1)).natAbs∧Below w5.heap.size w5 w'):=next_any av v5 n (i + 1) w5 (HR.out.row.below k5).va s5.va (by omega) (by omega) hn
   obtain ⟨z,hz⟩:∃ z,z = decide (BN.bz n (i + 1) < 0):=⟨_,rfl⟩
   rw [← hz] at HNx
   have HZ:Hid (z = decide (BN.bz n (i + 1) < 0)):=hz
   clear s5 k5 hz
   go_wp2_with fail
   refine HNx.out.mono ?_
   rintro e w6 ⟨v6,rfl,l6,k6⟩
   obtain ⟨a6,m6,c6,rfl⟩:=l6.shape
   have k56:Below wr.heap.size wr (w6.alloc (.cells #[.slice a6 m6 c6,.bool z] 66)):=(HN5.out.2.trans (k6.mono HN5.out.2.size)).alloc (Nat.le_trans HN5.out.2.size k6.size) _
   have k6a:Below w5.heap.size w5 (w6.alloc (.cells #[.slice a6 m6 c6,.bool z] 66)):=k6.alloc k6.size _
   have HR7:Hid ((w6.alloc (.cells #[.slice a6 m6 c6,.bool z] 66)).ownsRow (w.heap.size + 1) 66 2 av (i + 1) us∧SC (w6.alloc (.cells #[.slice a6 m6 c6,.bool z] 66)) us (i + 1) (BN.bz n)∧LN (w6.alloc (.cells #[.slice a6 m6 c6,.bool z] 66)) (.slice a6 m6 c6) (BN.bz n (i + 1)).natAbs∧SO wr.heap.size (w6.alloc (.cells #[.slice a6 m6 c6,.bool z] 66)) v5 (i + 1 + 2) (fun j=>((BN.ch (i + 1 + 1) j:Nat):Int))∧Below wr.heap.size wr (w6.alloc (.cells #[.slice a6 m6 c6,.bool z] 66))) :=
    ⟨row_bel2 HU.out.1 k56,HU.out.2.below k56,l6.below ((Below.refl _ _).alloc (Nat.le_refl _) _),HN5.out.1.below k6a,k56⟩
   have HZ6:Hid (w.heap.size + 1≤w6.heap.size):=by
    have h1:=HR.out.box.lt
    have h2:=HN5.out.2.size
    have h3:=k6.size
    show _≤_
    omega
   clear l6 k6 k56 k6a HNx
   go_wp2_with (at_builtin; refine wpList_append_own_at _ rfl _ _ 61 rfl (w.heap.size + 1) 66 i0 (.agg #[.slice none 0 0,.bool false]) 2 32 Tryz.undS HI.out.1 HI.out.2.1 HI.out.2.2.1 HI.out.2.2.2 rfl (by decide) av (i + 1) us rfl HR7.out.1 ⟨w6.heap.size,0,none⟩ 1 1 [.slice a6 m6 c6,.bool z] rfl rfl (Cl.new [.slice a6 m6 c6,.bool z] 66 w6).news2 (by simp [Value.oneCell']) (by simp only [maxLen]; omega) (by omega) (by have:=HZ6.out; simp; omega) ?_; intro v' w7 hown hgrow _ hob)
   have HN7:Hid (Nb w n (i + 1) (.slice a1 m1 c1) v' v5 w7):=by
    have hlt:∀ g,av.ownBlock = some g→w.heap.size + 1≤g∧g < wr.heap.size:=fun g e=>HU.out.1.lt g e
    have h5:∀ g,v5.ownBlock = some g→wr.heap.size≤g∧g < (w6.alloc (.cells #[.slice a6 m6 c6,.bool z] 66)).heap.size:=fun g e=>by
     obtain ⟨ws,hw,_⟩:=HR7.out.2.2.2.1
     exact hw.lt g e
    have kk:=HR7.out.2.2.2.2
    refine ⟨SO.push (y:=BN.bz n (i + 1)) HR7.out.1 HR7.out.2.1 HR7.out.2.2.1 HZ.out hown hgrow (fun j _=>rfl) rfl,HR7.out.2.2.2.1.va.grownS HR7.out.1 hgrow (fun g e e2=>?_),fun g e e2=>?_,?_,?_,?_⟩
    ·have:=(h5 g e).1; have:=(hlt g e2).2; omega
    ·rcases hob with h | h
     ·rw [h] at e2
      have:=(h5 g e).1; have:=(hlt g e2).2; omega
     ·rw [h] at e2
      have:=(h5 g e).2
      simp at e2
      subst e2
      simp at this
    ·exact (HR.out.box.below kk).grown hgrow (fun e=>by have:=(hlt _ e).1; omega)
    ·exact (HR.out.low.below kk).grownS HR7.out.1 hgrow
    ·exact (HR.out.k.trans (kk.mono HR.out.k.size)).grown hgrow (Nat.le_trans HR.out.k.size kk.size) (fun g e=>by have:=(hlt g e).1; omega)
   clear hown hgrow hob
   go_wp2
   go_roundw
   case rel=>exact ⟨i + 1,_,_,by omega,rfl,rfl,by go_num,HN7.out⟩
   case measure=>simp [intOf]; omega
  ·obtain rfl:i = n:=by omega
   have hC:=HR.out.box
   have HK:Hid (∀ W,Below wr.heap.size wr W→W.cell? ⟨w.heap.size,0,none⟩ = some (.slice a1 m1 c1)∧W.cell? ⟨w.heap.size,1,none⟩ = some (.bool false)):=fun W k=>by
    have h:=hC.below k
    have b1:=h.cell 0
    have b2:=h.cell 1
    simp at b1 b2
    exact ⟨b1,b2⟩
   have u1:=hC.cell 0
   have u2:=hC.cell 1
   have u3:=hC.frozen 0
   have u4:=hC.frozen 1
   simp at u1 u2
   have HC:Hid (Cl w.heap.size [.slice a1 m1 c1,.bool false] 66 wr):=hC
   clear hC
   go_wp2
   refine wp_region_G (fun W=>W.cell? ⟨w.heap.size,0,none⟩ = some (.slice a1 m1 c1)∧W.cell? ⟨w.heap.size,1,none⟩ = some (.bool false)) 3 (by kernel_rfl) (HK.out _ (Below.refl _ _).drew) (fun hHeld=>?_)
   refine wpAnyG_take (i:=0) (v:=?v0x1) rfl (by kernel_rfl) (fun _ _ _ h=>h) (Or.inl ⟨by rfl,?y0x1⟩) hHeld ?r0x1
   case y0x1=>(intro wS hSw; obtain ⟨s1,s2⟩:=hSw; go_simp; try with_reducible rfl)
   simp only [Act.put,List.getElem_toArray,List.getElem_cons_zero,List.getElem_cons_succ,List.setIfInBounds_toArray,List.set_cons_zero,List.set_cons_succ]
   refine wpAnyG_take (i:=1) (v:=?v1x2) rfl (by kernel_rfl) (fun _ _ _ h=>h) (Or.inl ⟨by rfl,?y1x2⟩) hHeld ?r1x2
   case y1x2=>(intro wS hSw; obtain ⟨s1,s2⟩:=hSw; go_simp; try with_reducible rfl)
   simp only [Act.put,List.getElem_toArray,List.getElem_cons_zero,List.getElem_cons_succ,List.setIfInBounds_toArray,List.set_cons_zero,List.set_cons_succ]
   refine wpAnyG_take (i:=2) (v:=?v2x3) rfl (by kernel_rfl) (fun _ _ _ h=>h) (Or.inl ⟨by rfl,?y2x3⟩) hHeld ?r2x3
   case y2x3=>(intro wS hSw; obtain ⟨s1,s2⟩:=hSw; go_simp; try with_reducible rfl)
   simp only [Act.put,List.getElem_toArray,List.getElem_cons_zero,List.getElem_cons_succ,List.setIfInBounds_toArray,List.set_cons_zero,List.set_cons_succ]
   refine wpAnyG_last (i:=3) rfl (by kernel_rfl) (by kernel_rfl) (fun K hK=>?_)
   go_simp
   refine hK.out _ _ ?_
   clear hK K
   refine wpAnyG_done (by kernel_rfl) ?_ _
   clear u1 u2 u3 u4 hHeld
   go_wp2
   obtain ⟨WF,hWF⟩:∃ WF,WF = ((wr.setCell ⟨w.heap.size,0,none⟩ (.slice a1 m1 c1)).setCell ⟨w.heap.size,1,none⟩ (.bool false)).drew:=⟨_,rfl⟩
   have C3:Cl w.heap.size [.slice a1 m1 c1,.bool false] 66 WF:=by rw [hWF]; exact (HC.out.two (.slice a1 m1 c1) (.bool false)).below (Below.refl _ _).drew
   have HF:Hid (SO (w.heap.size + 1) WF av (i + 1) (BN.bz i)∧LN WF (.slice a1 m1 c1) (BN.prm (i + 1))∧Below w.heap.size w WF):=by
    show _∧_
    rw [hWF]
    exact ⟨(HR.out.row.setBox (by omega) HC.out).below (Below.refl _ _).drew,(HR.out.low.setTwo HC.out).below (Below.refl _ _).drew,((HR.out.k.setCell (by simp) _).setCell (by simp) _).drew⟩
   rw [← hWF]
   clear hWF
   have e1:=C3.cell 0
   have e2:=C3.cell 1
   simp at e1 e2
   exact bodyPost_ret (v:=.tuple #[av,.agg #[.slice a1 m1 c1,.bool false]]) (by simp [results,Tryz.results36,go_sem,e1,e2]) rfl ⟨_,_,rfl,HF.out.1.low (by omega),HF.out.2.1,HF.out.2.2⟩
end
section
set_option maxRecDepth 100000
open Go.RowKit LgM
theorem wf_mk {w':World} {b N:Nat} (h:w'.ownsRow b 66 2 (.slice (some ⟨b,0,none⟩) N N) N (madeCells #[Value.slice none 0 0,.bool false] (N * 2)).toList):Wv b N N (fun _=>0) w':=by
 obtain ⟨cells,h1,h2,h3,_⟩:=(wv_of_mk (fun _=>0) h).ex
 obtain ⟨h4,h5 | ⟨g,cap,cur,e1,e2,e3,e4,e5,e6,e7⟩⟩:=h
 ·obtain ⟨h5,rfl⟩:=h5
  simp at h5
 ·simp at e1
  obtain ⟨rfl,rfl⟩:=e1
  have hcc:cells = cur.toList:=by
   have:=h1.symm.trans e3
   simp at this
   rw [← this]
  have:cells = (madeCells #[Value.slice none 0 0,.bool false] (N * 2)).toList:=by
   rw [hcc,← e7,List.take_of_length_le (by simp; omega)]
  refine ⟨cells,h1,h2,h3,fun j hj=>⟨none,0,0,?_,?_,LN.zero _⟩⟩
  ·rw [this]
   simp [madeCells]
   exact ⟨j * 2,by rw [List.getElem?_range (by omega)],by rw [show j * 2 % 2 = 0 by omega]; rfl⟩
  ·rw [this]
   simp [madeCells]
   exact ⟨j * 2 + 1,by rw [List.getElem?_range (by omega)],by rw [show (j * 2 + 1) % 2 = 1 by omega]; rfl⟩
theorem Wv.put {b N i:Nat} {f:Nat→Int} {w:World} (h:Wv b N N f w) (hi:i < N) (sa:Option Addr) (sk sc:Nat) (z:Bool) (y:Int) (hz:z = decide (y < 0)) (hn:LN w (.slice sa sk sc) y.natAbs) (f':Nat→Int) (e1:f' i = y) (e2:∀ j,j < N→j ≠ i→f' j = f j) :
  Wv b N N f' ((w.setCell ⟨b,i * 2,none⟩ (.slice sa sk sc)).setCell ⟨b,i * 2 + 1,none⟩ (.bool z))∧∀ v n,LN w v n→LN ((w.setCell ⟨b,i * 2,none⟩ (.slice sa sk sc)).setCell ⟨b,i * 2 + 1,none⟩ (.bool z)) v n:=by
 obtain ⟨cells,h1,h2,h3,h4⟩:=h.ex
 have h3':∀ u ∈ cells.set (i * 2) (.slice sa sk sc),NI u:=fun u hu=>by
  rcases List.mem_or_eq_of_mem_set hu with hu | rfl
  ·exact h3 u hu
  ·exact ni_slice _ _ _
 have hk:∀ v n,LN w v n→LN ((w.setCell ⟨b,i * 2,none⟩ (.slice sa sk sc)).setCell ⟨b,i * 2 + 1,none⟩ (.bool z)) v n:=fun v n hv=>(hv.setB h1 h3 _).setB (h1.set (i * 2) (.slice sa sk sc)) h3' _
 refine ⟨⟨(cells.set (i * 2) (.slice sa sk sc)).set (i * 2 + 1) (.bool z),(h1.set _ _).set _ _,by simp [h2],fun u hu=>?_,fun j hj=>?_⟩,hk⟩
 ·rcases List.mem_or_eq_of_mem_set hu with hu | rfl
  ·exact h3' u hu
  ·exact ni_bool _
 ·by_cases e:j = i
  ·subst e
   rw [e1]
   refine ⟨sa,sk,sc,?_,?_,hk _ _ hn⟩
   ·rw [List.getElem?_set_ne (by omega),List.getElem?_set_self (by omega)]
   ·rw [List.getElem?_set_self (by simp; omega),hz]
  ·obtain ⟨ta,tk,tc,c1,c2,c3⟩:=h4 j hj
   rw [e2 j hj e]
   refine ⟨ta,tk,tc,?_,?_,hk _ _ c3⟩
   ·rw [List.getElem?_set_ne (by omega),List.getElem?_set_ne (by omega)]; exact c1
   ·rw [List.getElem?_set_ne (by omega),List.getElem?_set_ne (by omega)]; exact c2
theorem cf_bs {k i:Nat} (hk:k≤60):(BN.cf k i).natAbs < Bs ^ 45:=by
 unfold BN.cf
 have hb:Bs ^ 8 * Bs ^ 36 < Bs ^ 45:=by decide +kernel
 split
 ·exact Nat.pow_pos (by decide)
 ·unfold BN.fq
  have h:k + 1 - i≤k:=by omega
  have h1:=chbz_bs (n:=k) (j:=k + 1 - i) (k:=k + 1) (i:=k + 1 - i) h (by omega) (by omega)
  split
  ·rw [Int.natAbs_neg]; exact Nat.lt_of_le_of_lt h1 hb
  ·exact Nat.lt_of_le_of_lt h1 hb
theorem hz_bs {k n:Nat} (hk:k≤60) (hn:n≤1000000000000000000):∀ t,(BN.hz (BN.cf k) (n:Int) (k + 2) t).natAbs < Bs ^ (46 + 3 * t)
 | 0=>by show (0:Int).natAbs < _; simp; exact Nat.pow_pos (by decide)
 | t + 1=>by
  have h1:=hz_bs hk hn t
  have h2:=cf_bs (k:=k) (i:=k + 2 - 1 - t) hk
  show (BN.hz (BN.cf k) (n:Int) (k + 2) t * (n:Int) + BN.cf k (k + 2 - 1 - t)).natAbs < _
  have h3:=Int.natAbs_add_le (BN.hz (BN.cf k) (n:Int) (k + 2) t * (n:Int)) (BN.cf k (k + 2 - 1 - t))
  rw [Int.natAbs_mul,Int.natAbs_natCast] at h3
  have h4:(BN.hz (BN.cf k) (n:Int) (k + 2) t).natAbs * n≤Bs ^ (46 + 3 * t) * Bs ^ 2:=Nat.mul_le_mul (Nat.le_of_lt h1) (Nat.le_trans hn (by decide +kernel))
  have h5:Bs ^ 45≤Bs ^ (46 + 3 * t):=Nat.pow_le_pow_right (by decide) (by omega)
  have h6:Bs ^ (46 + 3 * (t + 1)) = Bs ^ (46 + 3 * t) * Bs ^ 3:=by rw [show 46 + 3 * (t + 1) = 46 + 3 * t + 3 by omega,Nat.pow_add]
  rw [h6]
  have h7:Bs ^ 2 + 1≤Bs ^ 3:=by decide +kernel
  have h8:=Nat.mul_le_mul_left (Bs ^ (46 + 3 * t)) h7
  rw [Nat.mul_add,Nat.mul_one] at h8
  have h9:0 < Bs ^ 45:=Nat.pow_pos (by decide)
  omega
theorem below_bs {k:Nat} (hk:k≤60):BN.prm (k + 1) * (k + 1) < Bs ^ 13:=by
 have h1:=prm_bs (n:=k + 1) (by omega)
 have h2:BN.prm (k + 1) * (k + 1)≤Bs ^ 12 * (k + 1):=Nat.mul_le_mul_right _ (Nat.le_of_lt h1)
 have h3:Bs ^ 12 * (k + 1)≤Bs ^ 12 * 61:=Nat.mul_le_mul_left _ (by omega)
 have h4:Bs ^ 12 * 61 < Bs ^ 13:=by decide +kernel
 omega
end
section
set_option maxRecDepth 100000
open Go.RowKit LgM
def ffk (k i:Nat) (r:Nat):Int:=if k + 1 - i < r∧r≤k + 1 then ((BN.ch (k + 1) (k + 1 - r):Nat):Int) * BN.bz k (k + 1 - r) else 0
theorem ffk_zero (k:Nat):∀ r,r < k + 2→ffk k 0 r = 0:=fun r hr=>by
 unfold ffk; rw [if_neg (by omega)]
theorem ffk_at {k i D:Nat} (hi:i≤k) (hD:D = k + 1 - i):ffk k (i + 1) D = ((BN.ch (k + 1) i:Nat):Int) * BN.bz k i:=by
 unfold ffk
 rw [if_pos (by omega),show k + 1 - D = i by omega]
theorem ffk_other {k i D r:Nat} (hi:i≤k) (hD:D = k + 1 - i) (h:r ≠ D):ffk k (i + 1) r = ffk k i r:=by
 unfold ffk
 by_cases e:k + 1 - i < r∧r≤k + 1
 ·rw [if_pos e,if_pos (by omega)]
 ·rw [if_neg e,if_neg (by omega)]
theorem ffk_cf {k:Nat}:BN.cf k k = -ffk k (k + 1) k:=by
 unfold ffk BN.cf
 by_cases e:k = 0
 ·rw [if_pos e,if_neg (by omega)]; rfl
 ·rw [if_neg e,if_pos (by omega)]
  unfold BN.fq
  rw [if_pos (by omega)]
theorem ffk_cf2 {k r:Nat} (h:r < k + 2) (hr:r ≠ k):BN.cf k r = ffk k (k + 1) r:=by
 unfold ffk BN.cf
 by_cases e:r = 0
 ·rw [if_pos e,if_neg (by omega)]
 ·rw [if_neg e,if_pos (by omega)]
  unfold BN.fq
  rw [if_neg (by omega)]
theorem VA.look {w:World} {v:Value} {N:Nat} {x:Nat→Int} (h:VA w v N x) (h0:0 < N):∃ g o c,v = .slice (some ⟨g,o,none⟩) N c∧g < w.heap.size∧∀ W,Below w.heap.size w W→∀ j,j < N→∃ sa sk sc,W.cell? ⟨g,o + j * 2,none⟩ = some (.slice sa sk sc)∧W.cell? ⟨g,o + j * 2 + 1,none⟩ = some (.bool (decide (x j < 0)))∧LN W (.slice sa sk sc) (x j).natAbs:=by
 obtain ⟨a,g,o,c,e,h1,h2⟩:=h.open
 obtain ⟨rfl,hl⟩:=h1 h0
 refine ⟨g,o,c,e,hl,fun W k j hj=>?_⟩
 obtain ⟨sa,sk,sc,c1,c2,c3⟩:=h2 j hj
 exact ⟨sa,sk,sc,(k.cell (p:=⟨g,o + j * 2,none⟩) hl).trans c1,(k.cell (p:=⟨g,o + j * 2 + 1,none⟩) hl).trans c2,c3.below k⟩
set_option maxHeartbeats 8000000 in
theorem formula_any (k:Nat) (w:World) (hk:k≤60) (hT:Tb w) :
  Calls Tryz.prog 50 #[.int .i64 (k:Int)] w fun e w'=>∃ v u,e = .returned (.tuple #[v,.agg #[u,.bool false]])∧VA w' v (k + 2) (BN.cf k)∧LN w' u (BN.prm (k + 1) * (k + 1))∧Below w.heap.size w w':=by
 obtain ⟨i0,hi,hz0,hz1,hz2⟩:=info_parts Tryz.infoSg
 have HI:Hid (Tryz.prog.info? 66 = some i0∧i0.zero = some (.agg #[.slice none 0 0,.bool false])∧i0.size = 2∧i0.bytes = 32):=⟨hi,hz0,hz1,hz2⟩
 clear hi hz0 hz1 hz2
 obtain ⟨K1,hK1⟩:∃ K1,K1 = k + 1:=⟨_,rfl⟩
 have hK1i:(k:Int) + 1 = (K1:Int):=by omega
 obtain ⟨K2,hK2⟩:∃ K2,K2 = k + 2:=⟨_,rfl⟩
 have hK2i:(k:Int) + 2 = (K2:Int):=by omega
 have HK12:Hid (K1 = k + 1∧K2 = k + 2):=⟨hK1,hK2⟩
 obtain ⟨W0,hW0⟩:∃ W0,W0 = w.alloc (.cells #[.slice none 0 0,.bool false] 66):=⟨_,rfl⟩
 have H0:Hid (Cl w.heap.size [.slice none 0 0,.bool false] 66 W0∧Below w.heap.size w W0∧Tb W0∧W0.heap.size = w.heap.size + 1):=by
  show _∧_
  rw [hW0]
  exact ⟨Cl.new _ _ _,(Below.refl _ _).alloc (Nat.le_refl _) _,hT.below ((Below.refl _ _).alloc (Nat.le_refl _) _),by simp⟩
 have HNm:Hid (Calls Tryz.prog 36 #[.int .i64 (k:Int)] W0 fun e w'=>∃ v u,e = .returned (.tuple #[v,.agg #[u,.bool false]])∧SO W0.heap.size w' v (k + 1) (BN.bz k)∧LN w' u (BN.prm (k + 1))∧Below W0.heap.size W0 w'):=numbers_any k W0 (by omega) H0.out.2.2.1
 have HCh:Hid (∀ W,Calls Tryz.prog 72 #[.int .i64 (K1:Int)] W fun e w'=>∃ v',e = .returned v'∧SO W.heap.size w' v' (k + 2) (fun j=>((BN.ch (k + 1) j:Nat):Int))∧Below W.heap.size W w'):=fun W=>by
  have:=choicesOf_any K1 W (by omega)
  rw [hK1] at this ⊢
  exact this
 clear hT hK1 hK2
 go_enter Tryz.func50,Tryz.ntmps50
 go_wp2_with fail
 rw [← hW0]
 clear hW0
 refine HNm.out.mono ?_
 rintro e w1 ⟨v1,u1,rfl,va1,l1,k1⟩
 obtain ⟨a1,m1,c1,rfl⟩:=l1.shape
 have hC1:=H0.out.1.below k1
 have q1:=hC1.cell 0
 have q2:=hC1.cell 1
 have q3:=hC1.frozen 0
 have q4:=hC1.frozen 1
 simp at q1 q2
 obtain ⟨W2,hW2⟩:∃ W2,W2 = (w1.setCell ⟨w.heap.size,0,none⟩ (.slice a1 m1 c1)).setCell ⟨w.heap.size,1,none⟩ (.bool false):=⟨_,rfl⟩
 have H2:Hid (Cl w.heap.size [.slice a1 m1 c1,.bool false] 66 W2∧LN W2 (.slice a1 m1 c1) (BN.prm (k + 1))∧VA W2 v1 (k + 1) (BN.bz k)∧Below w.heap.size w W2∧w.heap.size < W2.heap.size):=by
  have hz:=k1.size
  rw [H0.out.2.2.2] at hz
  show _∧_
  rw [hW2]
  refine ⟨hC1.two _ _,l1.setTwo hC1,?_,((H0.out.2.1.trans (k1.mono (by rw [H0.out.2.2.2]; omega))).setCell (by simp) _).setCell (by simp) _,by simp; omega⟩
  exact (va1.setBox (by rw [H0.out.2.2.2]; omega) hC1).va
 clear va1 l1 k1 hC1 HNm H0
 go_wp2_with fail
 rw [← hW2]
 clear hW2 q1 q2 q3 q4
 refine (HCh.out W2).mono ?_
 rintro e w3 ⟨v3,rfl,s3,k3⟩
 obtain ⟨gb,ob,cb,rfl,hgb,hbl⟩:=H2.out.2.2.1.look (by omega)
 obtain ⟨gc,oc,cc,rfl,hgc,hcl⟩:=s3.va.look (by omega)
 have HB3:Hid (∀ W,Below w3.heap.size w3 W→∀ j,j < k + 1→∃ sa sk sc,W.cell? ⟨gb,ob + j * 2,none⟩ = some (.slice sa sk sc)∧W.cell? ⟨gb,ob + j * 2 + 1,none⟩ = some (.bool (decide (BN.bz k j < 0)))∧LN W (.slice sa sk sc) (BN.bz k j).natAbs):=fun W kk=>hbl W (k3.trans (kk.mono k3.size))
 have HC3:Hid (∀ W,Below w3.heap.size w3 W→∀ j,j < k + 2→∃ sa sk sc,W.cell? ⟨gc,oc + j * 2,none⟩ = some (.slice sa sk sc)∧W.cell? ⟨gc,oc + j * 2 + 1,none⟩ = some (.bool false)∧LN W (.slice sa sk sc) (BN.ch (k + 1) j)):=fun W kk j hj=>by
  obtain ⟨sa,sk,sc,c1,c2,c3⟩:=hcl W kk j hj
  rw [ch_sgn] at c2
  rw [ch_nat] at c3
  exact ⟨sa,sk,sc,c1,c2,c3⟩
 have H3:Hid (Cl w.heap.size [.slice a1 m1 c1,.bool false] 66 w3∧LN w3 (.slice a1 m1 c1) (BN.prm (k + 1))∧Below w.heap.size w w3∧w.heap.size < w3.heap.size∧gb < w3.heap.size∧gc < w3.heap.size) :=
  ⟨H2.out.1.below k3,H2.out.2.1.below k3,H2.out.2.2.2.1.trans (k3.mono (Nat.le_of_lt H2.out.2.2.2.2)),Nat.lt_of_lt_of_le H2.out.2.2.2.2 k3.size,Nat.lt_of_lt_of_le hgb k3.size,hgc⟩
 clear s3 k3 hgb hbl hgc hcl HCh H2
 have hK2l:K2≤1000:=by have:=HK12.out.2; omega
 go_wp2_with (at_make; refine wpList_make_full _ rfl _ _ 61 rfl w3.heap.size 66 i0 (.agg #[.slice none 0 0,.bool false]) 2 Tryz.undS HI.out.1 HI.out.2.1 HI.out.2.2.1 .i64 .i64 _ _ K2 rfl rfl (by omega) (by omega) (by rw [HI.out.2.2.2]; omega) (by unfold maxLen; omega) (Nat.le_refl _) ?_)
 intro w4 hown hgrow
 have HW4:Hid (Wv w3.heap.size K2 K2 (ffk k 0) w4∧Below w3.heap.size w3 w4):=by
  refine ⟨?_,(Below.refl _ _).grown hgrow (Nat.le_refl _) (by simp)⟩
  obtain ⟨cells,x1,x2,x3,x4⟩:=(wf_mk hown).ex
  refine ⟨cells,x1,x2,x3,fun j hj=>?_⟩
  rw [ffk_zero k j (by have:=HK12.out.2; omega)]
  exact x4 j hj
 clear hown hgrow
 obtain ⟨bM,hbM⟩:∃ bM,bM = w3.heap.size:=⟨_,rfl⟩
 have HbM:Hid (bM = w3.heap.size):=hbM
 rw [← hbM] at HW4 ⊢
 clear hbM
 go_wp2
 go_loopw [20] (fun iv wx=>∃ i:Nat,i≤K1∧iv = .int .i64 (i:Int)∧Hid (Wv bM K2 K2 (ffk k i) wx∧Below bM w3 wx)) (fun iv _=>K1 - (intOf iv).toNat)
 case atStart=>exact ⟨0,Nat.zero_le _,rfl,HW4.out⟩
 case round =>
  clear HW4
  obtain ⟨i,hin,rfl,HR⟩:=hrel
  by_cases hlt:i < K1
  ·have kr:Below w3.heap.size w3 wr:=by rw [← HbM.out]; exact HR.out.2
   obtain ⟨D,hD⟩:∃ D,D = k + 1 - i:=⟨_,rfl⟩
   have hDi:(K1:Int) - (i:Int) = (D:Int):=by have:=HK12.out.1; omega
   have hwD:IntKind.i64.wrap (D:Int) = (D:Int):=by rw [IntKind.wrap_i64]; omega
   have hwK:IntKind.i64.wrap (K1:Int) = (K1:Int):=by rw [IntKind.wrap_i64]; omega
   have hDK:D < K2:=by have:=HK12.out.2; omega
   have hiK2:i < k + 2:=by have:=HK12.out.1; omega
   have hiK1:i < k + 1:=by have:=HK12.out.1; omega
   have hiKK:i < K2:=by have:=HK12.out.2; omega
   have HD:Hid (D = k + 1 - i∧i≤k):=⟨hD,by have:=HK12.out.1; omega⟩
   obtain ⟨xa,xk,xc,q1,q2,lx⟩:=HC3.out wr kr i hiK2
   obtain ⟨ya,yk,yc,q3,q4,ly⟩:=HB3.out wr kr i hiK1
   obtain ⟨zy,hzy⟩:∃ zy,zy = decide (BN.bz k i < 0):=⟨_,rfl⟩
   obtain ⟨zp,hzp⟩:∃ zp,zp = decide (ffk k (i + 1) D < 0):=⟨_,rfl⟩
   rw [← hzy] at q4
   have HZp:Hid (zp = decide (ffk k (i + 1) D < 0)):=hzp
   have HPr:Hid (∀ W,Below wr.heap.size wr W→Calls Tryz.prog 84 #[.agg #[.slice xa xk xc,.bool false],.agg #[.slice ya yk yc,.bool zy]] W fun e w'=>∃ v,e = .returned (.agg #[v,.bool zp])∧LN w' v (ffk k (i + 1) D).natAbs∧Below W.heap.size W w'):=fun W kk=>by
    have hpr:=SProduct_any (.slice xa xk xc) (.slice ya yk yc) ((BN.ch (k + 1) i:Nat):Int) (BN.bz k i) 60 W (by rw [ch_nat]; exact lx.below kk) (ly.below kk) (by rw [ch_nat]; exact Nat.lt_of_lt_of_le (ch_bs (by omega)) (Nat.pow_le_pow_right (by decide) (by decide))) (Nat.lt_of_lt_of_le (bz_bs (by omega) (by omega)) (Nat.pow_le_pow_right (by decide) (by decide))) (by omega)
    rw [ch_sgn,← hzy,← ffk_at HD.out.2 HD.out.1,← hzp] at hpr
    exact hpr
   have HK:Hid (∀ W,Below wr.heap.size wr W→(W.cell? ⟨gc,oc + i * 2,none⟩ = some (.slice xa xk xc)∧W.cell? ⟨gc,oc + i * 2 + 1,none⟩ = some (.bool false))∧W.cell? ⟨gb,ob + i * 2,none⟩ = some (.slice ya yk yc)∧W.cell? ⟨gb,ob + i * 2 + 1,none⟩ = some (.bool zy)):=fun W kk=>by
    have hc:=Nat.lt_of_lt_of_le H3.out.2.2.2.2.2 kr.size
    have hb:=Nat.lt_of_lt_of_le H3.out.2.2.2.2.1 kr.size
    exact ⟨⟨(kk.cell (p:=⟨gc,oc + i * 2,none⟩) hc).trans q1,(kk.cell (p:=⟨gc,oc + i * 2 + 1,none⟩) hc).trans q2⟩,(kk.cell (p:=⟨gb,ob + i * 2,none⟩) hb).trans q3,(kk.cell (p:=⟨gb,ob + i * 2 + 1,none⟩) hb).trans q4⟩
   clear lx ly q1 q2 q3 q4 hzy hzp kr hD
   go_wp2
   refine wp_region_G (fun W=>(W.cell? ⟨gc,oc + i * 2,none⟩ = some (.slice xa xk xc)∧W.cell? ⟨gc,oc + i * 2 + 1,none⟩ = some (.bool false))∧W.cell? ⟨gb,ob + i * 2,none⟩ = some (.slice ya yk yc)∧W.cell? ⟨gb,ob + i * 2 + 1,none⟩ = some (.bool zy)) 15 (by kernel_rfl) (HK.out _ (Below.refl _ _).drew) (fun hHeld=>?_)
   refine wpAnyG_take (i:=0) (v:=?v0x1) rfl (by kernel_rfl) (fun _ _ _ h=>h) (Or.inl ⟨by rfl,?y0x1⟩) hHeld ?r0x1
   case y0x1=>(intro wS hSw; obtain ⟨⟨s1,s2⟩,s3,s4⟩:=hSw; go_simp; try with_reducible rfl)
   simp only [Act.put,List.getElem_toArray,List.getElem_cons_zero,List.getElem_cons_succ,List.setIfInBounds_toArray,List.set_cons_zero,List.set_cons_succ]
   refine wpAnyG_take (i:=1) (v:=?v1x2) rfl (by kernel_rfl) (fun _ _ _ h=>h) (Or.inl ⟨by rfl,?y1x2⟩) hHeld ?r1x2
   case y1x2=>(intro wS hSw; obtain ⟨⟨s1,s2⟩,s3,s4⟩:=hSw; go_simp; try with_reducible rfl)
   simp only [Act.put,List.getElem_toArray,List.getElem_cons_zero,List.getElem_cons_succ,List.setIfInBounds_toArray,List.set_cons_zero,List.set_cons_succ]
   refine wpAnyG_take (i:=2) (v:=?v2x3) rfl (by kernel_rfl) (fun _ _ _ h=>h) (Or.inl ⟨by rfl,?y2x3⟩) hHeld ?r2x3
   case y2x3=>(intro wS hSw; obtain ⟨⟨s1,s2⟩,s3,s4⟩:=hSw; go_simp; try with_reducible rfl)
   simp only [Act.put,List.getElem_toArray,List.getElem_cons_zero,List.getElem_cons_succ,List.setIfInBounds_toArray,List.set_cons_zero,List.set_cons_succ]
   refine wpAnyG_take (i:=3) (v:=?v3x4) rfl (by kernel_rfl) (fun _ _ _ h=>h) (Or.inl ⟨by rfl,?y3x4⟩) hHeld ?r3x4
   case y3x4=>(intro wS hSw; obtain ⟨⟨s1,s2⟩,s3,s4⟩:=hSw; go_simp; try with_reducible rfl)
   simp only [Act.put,List.getElem_toArray,List.getElem_cons_zero,List.getElem_cons_succ,List.setIfInBounds_toArray,List.set_cons_zero,List.set_cons_succ]
   refine wpAnyG_take (i:=4) (v:=?v4x5) rfl (by kernel_rfl) (fun _ _ _ h=>h) (Or.inl ⟨by rfl,?y4x5⟩) hHeld ?r4x5
   case y4x5=>(intro wS hSw; obtain ⟨⟨s1,s2⟩,s3,s4⟩:=hSw; go_simp; try with_reducible rfl)
   simp only [Act.put,List.getElem_toArray,List.getElem_cons_zero,List.getElem_cons_succ,List.setIfInBounds_toArray,List.set_cons_zero,List.set_cons_succ]
   refine wpAnyG_take (i:=5) (v:=?v5x6) rfl (by kernel_rfl) (fun _ _ _ h=>h) (Or.inl ⟨by rfl,?y5x6⟩) hHeld ?r5x6
   case y5x6=>(intro wS hSw; obtain ⟨⟨s1,s2⟩,s3,s4⟩:=hSw; go_simp; try with_reducible rfl)
   simp only [Act.put,List.getElem_toArray,List.getElem_cons_zero,List.getElem_cons_succ,List.setIfInBounds_toArray,List.set_cons_zero,List.set_cons_succ]
   refine wpAnyG_take (i:=6) (v:=?v6x7) rfl (by kernel_rfl) (fun _ _ _ h=>h) (Or.inl ⟨by rfl,?y6x7⟩) hHeld ?r6x7
   case y6x7=>(intro wS hSw; obtain ⟨⟨s1,s2⟩,s3,s4⟩:=hSw; go_simp; try with_reducible rfl)
   simp only [Act.put,List.getElem_toArray,List.getElem_cons_zero,List.getElem_cons_succ,List.setIfInBounds_toArray,List.set_cons_zero,List.set_cons_succ]
   refine wpAnyG_take (i:=7) (v:=?v7x8) rfl (by kernel_rfl) (fun _ _ _ h=>h) (Or.inl ⟨by rfl,?y7x8⟩) hHeld ?r7x8
   case y7x8=>(intro wS hSw; obtain ⟨⟨s1,s2⟩,s3,s4⟩:=hSw; go_simp; try with_reducible rfl)
   simp only [Act.put,List.getElem_toArray,List.getElem_cons_zero,List.getElem_cons_succ,List.setIfInBounds_toArray,List.set_cons_zero,List.set_cons_succ]
   refine wpAnyG_take (i:=8) (v:=?v8x9) rfl (by kernel_rfl) (fun _ _ _ h=>h) (Or.inl ⟨by rfl,?y8x9⟩) hHeld ?r8x9
   case y8x9=>(intro wS hSw; obtain ⟨⟨s1,s2⟩,s3,s4⟩:=hSw; go_simp; try with_reducible rfl)
   simp only [Act.put,List.getElem_toArray,List.getElem_cons_zero,List.getElem_cons_succ,List.setIfInBounds_toArray,List.set_cons_zero,List.set_cons_succ]
   refine wpAnyG_take (i:=9) (v:=?v9x10) rfl (by kernel_rfl) (fun _ _ _ h=>h) (Or.inl ⟨by rfl,?y9x10⟩) hHeld ?r9x10
   case y9x10=>(intro wS hSw; obtain ⟨⟨s1,s2⟩,s3,s4⟩:=hSw; go_simp; try with_reducible rfl)
   simp only [Act.put,List.getElem_toArray,List.getElem_cons_zero,List.getElem_cons_succ,List.setIfInBounds_toArray,List.set_cons_zero,List.set_cons_succ]
   refine wpAnyG_take (i:=10) (v:=?v10x11) rfl (by kernel_rfl) (fun _ _ _ h=>h) (Or.inl ⟨by rfl,?y10x11⟩) hHeld ?r10x11
   case y10x11=>(intro wS hSw; obtain ⟨⟨s1,s2⟩,s3,s4⟩:=hSw; go_simp; try with_reducible rfl)
   simp only [Act.put,List.getElem_toArray,List.getElem_cons_zero,List.getElem_cons_succ,List.setIfInBounds_toArray,List.set_cons_zero,List.set_cons_succ]
   refine wpAnyG_take (i:=11) (v:=?v11x12) rfl (by kernel_rfl) (fun _ _ _ h=>h) (Or.inl ⟨by rfl,?y11x12⟩) hHeld ?r11x12
   case y11x12=>(intro wS hSw; obtain ⟨⟨s1,s2⟩,s3,s4⟩:=hSw; go_simp; try with_reducible rfl)
   simp only [Act.put,List.getElem_toArray,List.getElem_cons_zero,List.getElem_cons_succ,List.setIfInBounds_toArray,List.set_cons_zero,List.set_cons_succ]
   refine wpAnyG_take (i:=12) (v:=?v12x13) rfl (by kernel_rfl) (fun _ _ _ h=>h) (Or.inl ⟨by rfl,?y12x13⟩) hHeld ?r12x13
   case y12x13=>(intro wS hSw; obtain ⟨⟨s1,s2⟩,s3,s4⟩:=hSw; go_simp; try with_reducible rfl)
   simp only [Act.put,List.getElem_toArray,List.getElem_cons_zero,List.getElem_cons_succ,List.setIfInBounds_toArray,List.set_cons_zero,List.set_cons_succ]
   refine wpAnyG_one (i:=13) rfl (by kernel_rfl) (fun K hK=>?_)
   go_simp
   refine (HPr.out _ (Below.refl _ _).drew).mono ?_
   rintro e w5 ⟨v5,rfl,l5,k5⟩
   obtain ⟨a5,m5,c5,rfl⟩:=l5.shape
   have HK5:Hid (Below wr.heap.size wr w5):=(Below.refl _ _).drew.trans k5
   have HW5:Hid (Wv bM K2 K2 (ffk k i) w5):=HR.out.1.below HK5.out
   obtain ⟨u1,q3,q4⟩:=HW5.out.cellAt (j:=D * 2) (by omega)
   obtain ⟨u2,q5,q6⟩:=HW5.out.cellAt (j:=D * 2 + 1) (by omega)
   have HN:Hid (Wv bM K2 K2 (ffk k (i + 1)) ((w5.setCell ⟨bM,D * 2,none⟩ (.slice a5 m5 c5)).setCell ⟨bM,D * 2 + 1,none⟩ (.bool zp))∧Below bM w3 ((w5.setCell ⟨bM,D * 2,none⟩ (.slice a5 m5 c5)).setCell ⟨bM,D * 2 + 1,none⟩ (.bool zp))):=by
    have hlr:bM≤wr.heap.size:=Nat.le_of_lt HR.out.1.lt
    refine ⟨(HW5.out.put (by omega) a5 m5 c5 zp (ffk k (i + 1) D) HZp.out l5 (ffk k (i + 1)) rfl (fun r _ hr=>ffk_other HD.out.2 HD.out.1 hr)).1,((HR.out.2.trans (HK5.out.mono hlr)).setCell (by simp) _).setCell (by simp) _⟩
   clear l5 k5
   refine hK.out _ _ (HK.out _ HK5.out) ?_
   clear hK K hHeld
   have hHeld:=HK.out _ HK5.out
   refine wpAnyG_take (i:=14) (v:=?v14x14) rfl (by kernel_rfl) (fun _ _ _ h=>h) (Or.inl ⟨by rfl,?y14x14⟩) hHeld ?r14x14
   case y14x14=>(intro wS hSw; obtain ⟨⟨s1,s2⟩,s3,s4⟩:=hSw; go_simp; try with_reducible rfl)
   simp only [Act.put,List.getElem_toArray,List.getElem_cons_zero,List.getElem_cons_succ,List.setIfInBounds_toArray,List.set_cons_zero,List.set_cons_succ]
   refine wpAnyG_last (i:=15) rfl (by kernel_rfl) (by kernel_rfl) (fun K hK=>?_)
   go_simp
   refine hK.out _ _ ?_
   clear hK K
   refine wpAnyG_done (by kernel_rfl) ?_ _
   clear q3 q4 q5 q6 hHeld
   go_wp2
   go_roundw
   case rel=>exact ⟨i + 1,by omega,by go_num,HN.out⟩
   case measure=>simp [intOf]; omega
  ·obtain rfl:K1 = i:=by omega
   obtain ⟨cells,x1,x2,x3,x4⟩:=HR.out.1.ex
   have hkK:k < K2:=by have:=HK12.out.2; omega
   obtain ⟨sa,sk,sc,y1,y2,y3⟩:=x4 k hkK
   have q1:wr.cell? ⟨bM,k * 2,none⟩ = some (.slice sa sk sc):=(x1.cell _).trans y1
   obtain ⟨zk,hzk⟩:∃ zk,zk = decide (ffk k K1 k < 0):=⟨_,rfl⟩
   obtain ⟨zn,hzn⟩:∃ zn,zn = decide (BN.cf k k < 0):=⟨_,rfl⟩
   rw [← hzk] at y2
   have q2:wr.cell? ⟨bM,k * 2 + 1,none⟩ = some (.bool zk):=(x1.cell _).trans y2
   have HZn:Hid (zn = decide (BN.cf k k < 0)):=hzn
   have HNg:Hid (Calls Tryz.prog 85 #[.agg #[.slice sa sk sc,.bool zk]] wr fun e w'=>e = .returned (.agg #[.slice sa sk sc,.bool zn])∧LN w' (.slice sa sk sc) (BN.cf k k).natAbs∧Below wr.heap.size wr w'):=by
    have h:=Negative_any (.slice sa sk sc) (ffk k K1 k) wr y3
    have e : -ffk k K1 k = BN.cf k k:=by rw [HK12.out.1]; exact ffk_cf.symm
    rw [e,← hzk,← hzn] at h
    refine h.mono ?_
    rintro e1 w' ⟨rfl,k1⟩
    refine ⟨rfl,?_,k1⟩
    have:=y3.below k1
    rw [← Int.natAbs_neg,e] at this
    exact this
   clear x1 x2 x3 x4 y1 y2 y3 hzk hzn
   go_wp2_with fail
   refine HNg.out.mono ?_
   rintro e w5 ⟨rfl,l5,k5⟩
   have HW5:Hid (Wv bM K2 K2 (ffk k K1) w5):=HR.out.1.below k5
   obtain ⟨u1,r1,r2⟩:=HW5.out.cellAt (j:=k * 2) (by omega)
   obtain ⟨u2,r3,r4⟩:=HW5.out.cellAt (j:=k * 2 + 1) (by omega)
   obtain ⟨W6,hW6⟩:∃ W6,W6 = (w5.setCell ⟨bM,k * 2,none⟩ (.slice sa sk sc)).setCell ⟨bM,k * 2 + 1,none⟩ (.bool zn):=⟨_,rfl⟩
   have H6:Hid (Wv bM K2 K2 (BN.cf k) W6∧Below bM w3 W6∧Cl w.heap.size [.slice a1 m1 c1,.bool false] 66 W6∧LN W6 (.slice a1 m1 c1) (BN.prm (k + 1))):=by
    have hlr:bM≤wr.heap.size:=Nat.le_of_lt HR.out.1.lt
    have kb:Below bM w3 w5:=HR.out.2.trans (k5.mono hlr)
    have hp:=HW5.out.put hkK sa sk sc zn (BN.cf k k) HZn.out l5 (BN.cf k) rfl (fun r h1 h2=>by
     have:=ffk_cf2 (k:=k) (r:=r) (by have:=HK12.out.2; omega) h2
     rw [this,HK12.out.1])
    have kb6:Below bM w3 W6:=by rw [hW6]; exact (kb.setCell (by simp) _).setCell (by simp) _
    show _∧_
    rw [HbM.out] at kb6
    refine ⟨by rw [hW6]; exact hp.1,by rw [HbM.out]; exact kb6,H3.out.1.below kb6,?_⟩
    exact H3.out.2.1.below kb6
   clear l5 k5 HNg HR HW5
   go_wp2
   rw [← hW6]
   clear hW6 q1 q2 r1 r2 r3 r4
   have HKc:Hid (∀ W,Below W6.heap.size W6 W→W.cell? ⟨w.heap.size,0,none⟩ = some (.slice a1 m1 c1)∧W.cell? ⟨w.heap.size,1,none⟩ = some (.bool false)):=fun W kk=>by
    have d1:=H6.out.2.2.1.below kk
    have b1:=d1.cell 0
    have b2:=d1.cell 1
    simp at b1 b2
    exact ⟨b1,b2⟩
   have HSg:Hid (∀ W,Calls Tryz.prog 86 #[.int .i64 (K1:Int)] W fun e w'=>∃ v,e = .returned (.agg #[v,.bool false])∧LN w' v K1∧Below W.heap.size W w'):=fun W=>by
    have h:=SignedOf_any (K1:Int) W (by omega) (by have:=HK12.out.1; omega)
    rw [decide_eq_false (by omega),Int.natAbs_natCast] at h
    exact h
   have hwK:IntKind.i64.wrap (K1:Int) = (K1:Int):=by rw [IntKind.wrap_i64]; have:=HK12.out.1; omega
   refine wp_region_G (fun W=>W.cell? ⟨w.heap.size,0,none⟩ = some (.slice a1 m1 c1)∧W.cell? ⟨w.heap.size,1,none⟩ = some (.bool false)) 7 (by kernel_rfl) (HKc.out _ (Below.refl _ _).drew) (fun hHeld=>?_)
   refine wpAnyG_take (i:=0) (v:=?v0x15) rfl (by kernel_rfl) (fun _ _ _ h=>h) (Or.inl ⟨by rfl,?y0x15⟩) hHeld ?r0x15
   case y0x15=>(intro wS hSw; obtain ⟨s1,s2⟩:=hSw; go_simp; try with_reducible rfl)
   simp only [Act.put,List.getElem_toArray,List.getElem_cons_zero,List.getElem_cons_succ,List.setIfInBounds_toArray,List.set_cons_zero,List.set_cons_succ]
   refine wpAnyG_take (i:=1) (v:=?v1x16) rfl (by kernel_rfl) (fun _ _ _ h=>h) (Or.inl ⟨by rfl,?y1x16⟩) hHeld ?r1x16
   case y1x16=>(intro wS hSw; obtain ⟨s1,s2⟩:=hSw; go_simp; try with_reducible rfl)
   simp only [Act.put,List.getElem_toArray,List.getElem_cons_zero,List.getElem_cons_succ,List.setIfInBounds_toArray,List.set_cons_zero,List.set_cons_succ]
   refine wpAnyG_take (i:=2) (v:=?v2x17) rfl (by kernel_rfl) (fun _ _ _ h=>h) (Or.inl ⟨by rfl,?y2x17⟩) hHeld ?r2x17
   case y2x17=>(intro wS hSw; obtain ⟨s1,s2⟩:=hSw; go_simp; try with_reducible rfl)
   simp only [Act.put,List.getElem_toArray,List.getElem_cons_zero,List.getElem_cons_succ,List.setIfInBounds_toArray,List.set_cons_zero,List.set_cons_succ]
   refine wpAnyG_take (i:=3) (v:=?v3x18) rfl (by kernel_rfl) (fun _ _ _ h=>h) (Or.inl ⟨by rfl,?y3x18⟩) hHeld ?r3x18
   case y3x18=>(intro wS hSw; obtain ⟨s1,s2⟩:=hSw; go_simp; try with_reducible rfl)
   simp only [Act.put,List.getElem_toArray,List.getElem_cons_zero,List.getElem_cons_succ,List.setIfInBounds_toArray,List.set_cons_zero,List.set_cons_succ]
   refine wpAnyG_one (i:=4) rfl (by kernel_rfl) (fun K hK=>?_)
   go_simp
   refine (HSg.out _).mono ?_
   rintro e w7 ⟨v7,rfl,l7,k7⟩
   obtain ⟨a7,m7,c7,rfl⟩:=l7.shape
   have HL7:Hid (LN w7 (.slice a7 m7 c7) K1∧Below W6.heap.size W6 w7):=⟨l7,(Below.refl _ _).drew.trans k7⟩
   clear l7 k7
   refine hK.out _ _ (HKc.out _ HL7.out.2) ?_
   clear hK K hHeld
   have hHeld:=HKc.out _ HL7.out.2
   refine wpAnyG_one (i:=5) rfl (by kernel_rfl) (fun K hK=>?_)
   go_simp
   have hpr:=SProduct_any (.slice a1 m1 c1) (.slice a7 m7 c7) ((BN.prm (k + 1):Nat):Int) (K1:Int) 12 w7 (by rw [Int.natAbs_natCast]; exact H6.out.2.2.2.below HL7.out.2) (by rw [Int.natAbs_natCast]; exact HL7.out.1) (by rw [Int.natAbs_natCast]; exact prm_bs (by omega)) (by rw [Int.natAbs_natCast]; exact Nat.lt_of_lt_of_le (show K1 < Bs by show K1 < 1000000000; omega) (Nat.le_self_pow (by decide) _)) (by omega)
   rw [decide_eq_false (show ¬ ((BN.prm (k + 1):Nat):Int) < 0 by omega),decide_eq_false (show ¬ (K1:Int) < 0 by omega),← Int.natCast_mul,decide_eq_false (show ¬ ((BN.prm (k + 1) * K1:Nat):Int) < 0 by omega),Int.natAbs_natCast] at hpr
   refine hpr.mono ?_
   clear hpr
   rintro e w8 ⟨v8,rfl,l8,k8⟩
   obtain ⟨a8,m8,c8,rfl⟩:=l8.shape
   have HL8:Hid (LN w8 (.slice a8 m8 c8) (BN.prm (k + 1) * K1)∧Below W6.heap.size W6 w8):=⟨l8,HL7.out.2.trans (k8.mono HL7.out.2.size)⟩
   clear l8 k8
   refine hK.out _ _ (HKc.out _ HL8.out.2) ?_
   clear hK K hHeld
   have hHeld:=HKc.out _ HL8.out.2
   refine wpAnyG_take (i:=6) (v:=?v6x19) rfl (by kernel_rfl) (fun _ _ _ h=>h) (Or.inl ⟨by rfl,?y6x19⟩) hHeld ?r6x19
   case y6x19=>(intro wS hSw; obtain ⟨s1,s2⟩:=hSw; go_simp; try with_reducible rfl)
   simp only [Act.put,List.getElem_toArray,List.getElem_cons_zero,List.getElem_cons_succ,List.setIfInBounds_toArray,List.set_cons_zero,List.set_cons_succ]
   have HC8:Hid (Cl w.heap.size [.slice a1 m1 c1,.bool false] 66 w8):=H6.out.2.2.1.below HL8.out.2
   have u1:=HC8.out.cell 0
   have u2:=HC8.out.cell 1
   have u3:=HC8.out.frozen 0
   have u4:=HC8.out.frozen 1
   simp at u1 u2
   refine wpAnyG_last (i:=7) rfl (by kernel_rfl) (by kernel_rfl) (fun K hK=>?_)
   go_simp
   refine hK.out _ _ ?_
   clear hK K
   refine wpAnyG_done (by kernel_rfl) ?_ _
   clear u1 u2 u3 u4 hHeld
   obtain ⟨WF,hWF⟩:∃ WF,WF = ((w8.setCell ⟨w.heap.size,0,none⟩ (.slice a8 m8 c8)).setCell ⟨w.heap.size,1,none⟩ (.bool false)):=⟨_,rfl⟩
   have HF:Hid (VA WF (.slice (some ⟨bM,0,none⟩) K2 K2) (k + 2) (BN.cf k)∧LN WF (.slice a8 m8 c8) (BN.prm (k + 1) * (k + 1))∧Below w.heap.size w WF∧Cl w.heap.size [.slice a8 m8 c8,.bool false] 66 WF):=by
    have hz:=H3.out.2.2.2.1
    have va:VA w8 (.slice (some ⟨bM,0,none⟩) K2 K2) K2 (BN.cf k):=(H6.out.1.below HL8.out.2).done
    have kw:Below w.heap.size w W6:=by
     have:=H6.out.2.1
     rw [HbM.out] at this
     exact H3.out.2.2.1.trans (this.mono (by omega))
    show _∧_
    rw [hWF]
    refine ⟨?_,?_,((kw.trans (HL8.out.2.mono kw.size)).setCell (by simp) _).setCell (by simp) _,HC8.out.two _ _⟩
    ·rw [← HK12.out.2]
     obtain ⟨xa,xg,xo,xc,xe,x1,x2,x3⟩:=va
     refine ⟨xa,xg,xo,xc,xe,fun hp=>⟨(x1 hp).1,by have:=(x1 hp).2; simp; omega⟩,fun j hj=>?_,fun hp=>?_⟩
     ·obtain ⟨ta,tk,tc,d1,d2,d3⟩:=x2 j hj
      have hg:xg ≠ w.heap.size:=by
       have e1:=(x1 (by omega)).1
       rw [e1] at xe
       simp at xe
       have:=HbM.out
       omega
      refine ⟨ta,tk,tc,?_,?_,d3.setTwo HC8.out⟩
      ·rw [World.cell?,Below.heap_setCell _ _ _ xg (by simpa using hg),Below.heap_setCell _ _ _ xg (by simpa using hg)]; exact d1
      ·rw [World.cell?,Below.heap_setCell _ _ _ xg (by simpa using hg),Below.heap_setCell _ _ _ xg (by simpa using hg)]; exact d2
     ·obtain ⟨arr,fr,h⟩:=x3 hp
      have hg:xg ≠ w.heap.size:=by
       have e1:=(x1 hp).1
       rw [e1] at xe
       simp at xe
       have:=HbM.out
       omega
      exact ⟨arr,fr,by rw [Below.heap_setCell _ _ _ xg (by simpa using hg),Below.heap_setCell _ _ _ xg (by simpa using hg)]; exact h⟩
    ·have:=HL8.out.1.setTwo (a':=a8) (k':=m8) (c':=c8) (z':=false) HC8.out
     rw [HK12.out.1] at this
     exact this
   go_wp2
   rw [← hWF]
   clear hWF
   have C3:=HF.out.2.2.2
   have e1:=C3.cell 0
   have e2:=C3.cell 1
   simp at e1 e2
   exact bodyPost_ret (v:=.tuple #[.slice (some ⟨bM,0,none⟩) K2 K2,.agg #[.slice a8 m8 c8,.bool false]]) (by simp [results,Tryz.results50,go_sem,e1,e2]) rfl ⟨_,_,rfl,HF.out.1,HF.out.2.1,HF.out.2.2.1⟩
end
end Go.Proofs.YtnkjadpmigpneaaGreatDoor
