import Derived.Test.YtnkjadpmigpneaaGreatDoorJsM
import Derived.Test.YtnkjadpmigpneaaGreatDoorJsG
set_option linter.unusedSimpArgs false
set_option linter.unusedVariables false
set_option maxRecDepth 100000
namespace Go.Proofs.YtnkjadpmigpneaaGreatDoor
open Go.RowKit LgM
set_option maxRecDepth 1000000 in
theorem bt_bs:∀ j,j < 202→(BN.bt j).natAbs < Bs ^ 36:=by decide +kernel
theorem bz_bs {n j:Nat} (hj:j≤n) (hn:n≤200):(BN.bz n j).natAbs < Bs ^ 36:=Nat.lt_of_le_of_lt (BN.bz_size hj hn) (bt_bs j (by omega))
theorem chbz_bs {n j k i:Nat} (hj:j≤n) (hn:n≤200) (hk:k≤210):(((BN.ch k i:Nat):Int) * BN.bz n j).natAbs≤Bs ^ 8 * Bs ^ 36:=by
 rw [Int.natAbs_mul,Int.natAbs_natCast]
 exact Nat.mul_le_mul (Nat.le_of_lt (ch_bs (by omega))) (Nat.le_of_lt (bz_bs hj hn))
def nxs (n m i:Nat):Int:=BN.sm (fun j=>((BN.ch (m + 1) j:Nat):Int) * BN.bz n j) i
theorem nxs_bs {n m i:Nat} (hm:m≤n) (hi:i≤m) (hn:n≤200):(nxs n m i).natAbs < Bs ^ 60:=by
 have h:=BN.sm_abs (f:=fun j=>((BN.ch (m + 1) j:Nat):Int) * BN.bz n j) (M:=Bs ^ 8 * Bs ^ 36) i (fun j hj=>chbz_bs (by omega) hn (by omega))
 have h2:i * (Bs ^ 8 * Bs ^ 36)≤201 * (Bs ^ 8 * Bs ^ 36):=Nat.mul_le_mul_right _ (by omega)
 have h3:201 * (Bs ^ 8 * Bs ^ 36) < Bs ^ 60:=by decide +kernel
 exact Nat.lt_of_le_of_lt h (Nat.lt_of_le_of_lt h2 h3)
theorem nxs_end {n m:Nat} (h1:1≤m) (h2:m≤n) (hn:n≤200):(nxs n m m).fdiv ((BN.ch (m + 1) m:Nat):Int) = -BN.bz n m:=by
 have e:BN.ch (m + 1) m = m + 1:=by
  have:=BN.ch_step (m + 1) m (by omega)
  rw [BN.ch_all,show m + 1 - m = 1 by omega] at this
  omega
 have hr:nxs n m m = -(((m:Int) + 1) * BN.bz n m):=BN.bz_rec h1 h2 hn
 rw [hr,e]
 refine (fdiv_uniq (y:=((m + 1:Nat):Int)) (q:=-BN.bz n m) (r:=0) (by omega) ?_ (by simp; omega) (fun _=>Int.le_refl _) (fun _=>Int.le_refl _)).1
 rw [show ((m + 1:Nat):Int) = (m:Int) + 1 by omega,Int.neg_mul,Int.mul_comm ((m:Int) + 1)]
 omega
def Sx (b:Nat) (x:Int) (w:World):Prop:=∃ a k c,Cl b [.slice a k c,.bool (decide (x < 0))] 66 w∧LN w (.slice a k c) x.natAbs
set_option maxHeartbeats 8000000 in
theorem next_any (va vc:Value) (NN m:Nat) (w:World) (hA:VA w va m (BN.bz NN)) (hC:VA w vc (m + 2) (fun j=>((BN.ch (m + 1) j:Nat):Int))) (h1m:1≤m) (hmn:m≤NN) (hn:NN≤200) :
  Calls Tryz.prog 74 #[va,vc] w fun e w'=>∃ v,e = .returned (.agg #[v,.bool (decide (BN.bz NN m < 0))])∧LN w' v (BN.bz NN m).natAbs∧Below w.heap.size w w':=by
 obtain ⟨aa,ga,oa,ca,rfl,ha1,ha2⟩:=hA.open
 obtain ⟨rfl,hgl⟩:=ha1 (by omega)
 obtain ⟨ab,gc,oc,cc,rfl,hc1,hc2⟩:=hC.open
 obtain ⟨rfl,hgl2⟩:=hc1 (by omega)
 have HA:Hid (∀ W,Below w.heap.size w W→∀ j,j < m→∃ sa sk sc,W.cell? ⟨ga,oa + j * 2,none⟩ = some (.slice sa sk sc)∧W.cell? ⟨ga,oa + j * 2 + 1,none⟩ = some (.bool (decide (BN.bz NN j < 0)))∧LN W (.slice sa sk sc) (BN.bz NN j).natAbs):=fun W k j hj=>by
  obtain ⟨sa,sk,sc,c1,c2,c3⟩:=ha2 j hj
  exact ⟨sa,sk,sc,by rw [k.cell (p:=⟨ga,oa + j * 2,none⟩) hgl]; exact c1,by rw [k.cell (p:=⟨ga,oa + j * 2 + 1,none⟩) hgl]; exact c2,c3.below k⟩
 have HC:Hid (gc < w.heap.size∧∀ W,Below w.heap.size w W→∀ j,j < m + 2→∃ sa sk sc,W.cell? ⟨gc,oc + j * 2,none⟩ = some (.slice sa sk sc)∧W.cell? ⟨gc,oc + j * 2 + 1,none⟩ = some (.bool false)∧LN W (.slice sa sk sc) (BN.ch (m + 1) j)):=by
  refine ⟨hgl2,fun W k j hj=>?_⟩
  obtain ⟨sa,sk,sc,c1,c2,c3⟩:=hc2 j hj
  rw [ch_sgn] at c2
  rw [ch_nat] at c3
  exact ⟨sa,sk,sc,by rw [k.cell (p:=⟨gc,oc + j * 2,none⟩) hgl2]; exact c1,by rw [k.cell (p:=⟨gc,oc + j * 2 + 1,none⟩) hgl2]; exact c2,c3.below k⟩
 clear hA hC ha1 ha2 hc1 hc2 hgl hgl2
 obtain ⟨M2,hM2⟩:∃ M2,M2 = m + 2:=⟨_,rfl⟩
 have hmM:m < M2:=by omega
 rw [← hM2]
 clear hM2
 obtain ⟨W0,hW0⟩:∃ W0,W0 = ((w.alloc (.cells #[.slice none 0 0,.bool false] 66)).alloc (.cells #[.slice none 0 0,.bool false] 66)):=⟨_,rfl⟩
 have HP0:Hid (Sx (w.heap.size + 1) (nxs NN m 0) W0∧Cl w.heap.size [.slice none 0 0,.bool false] 66 W0∧Below w.heap.size w W0):=by
  show _∧_
  rw [hW0]
  refine ⟨⟨none,0,0,?_,LN.zero _⟩,(Cl.new [.slice none 0 0,.bool false] 66 w).alloc _,((Below.refl _ _).alloc (Nat.le_refl _) _).alloc (by simp) _⟩
  have:=Cl.new [.slice none 0 0,.bool false] 66 (w.alloc (.cells #[.slice none 0 0,.bool false] 66))
  simpa [nxs,BN.sm] using this
 go_enter Tryz.func74,Tryz.ntmps74
 go_wp2
 rw [← hW0]
 clear hW0
 obtain ⟨bS,hbS⟩:∃ bS,bS = w.heap.size + 1:=⟨_,rfl⟩
 rw [← hbS] at HP0 ⊢
 have HB:Hid (bS = w.heap.size + 1):=hbS
 clear hbS
 go_loopw [12] (fun iv wx=>∃ i:Nat,i≤m∧iv = .int .i64 (i:Int)∧Hid (Sx bS (nxs NN m i) wx∧Cl w.heap.size [.slice none 0 0,.bool false] 66 wx∧Below w.heap.size w wx)) (fun iv _=>m - (intOf iv).toNat)
 case atStart=>exact ⟨0,Nat.zero_le _,rfl,HP0.out⟩
 case round =>
  clear HP0
  obtain ⟨i,hin,rfl,HR⟩:=hrel
  by_cases hlt:i < m
  ·obtain ⟨xa,xk,xc,q1,q2,lx⟩:=HA.out wr HR.out.2.2 i hlt
   obtain ⟨ya,yk,yc,q3,q4,ly⟩:=HC.out.2 wr HR.out.2.2 i (by omega)
   obtain ⟨ta,tk,tc,ct,lt⟩:=HR.out.1
   obtain ⟨zx,hzx⟩:∃ zx,zx = decide (BN.bz NN i < 0):=⟨_,rfl⟩
   obtain ⟨zt,hzt⟩:∃ zt,zt = decide (nxs NN m i < 0):=⟨_,rfl⟩
   rw [← hzx] at q2
   rw [← hzt] at ct
   have hiM:i < M2:=by omega
   obtain ⟨W3,hW3⟩:∃ W3,W3 = wr.alloc (.cells #[.slice xa xk xc,.bool zx] 66):=⟨_,rfl⟩
   have k3:Below wr.heap.size wr W3:=by rw [hW3]; exact (Below.refl _ _).alloc (Nat.le_refl _) _
   have cn:Cl wr.heap.size [.slice xa xk xc,.bool zx] 66 W3:=by rw [hW3]; exact Cl.new _ _ _
   have HL3:Hid (LN W3 (.slice xa xk xc) (BN.bz NN i).natAbs∧LN W3 (.slice ya yk yc) (BN.ch (m + 1) i)∧LN W3 (.slice ta tk tc) (nxs NN m i).natAbs∧zx = decide (BN.bz NN i < 0)∧zt = decide (nxs NN m i < 0)∧Cl bS [.slice ta tk tc,.bool zt] 66 W3∧Cl w.heap.size [.slice none 0 0,.bool false] 66 W3∧Below w.heap.size w W3) :=
    ⟨lx.below k3,ly.below k3,lt.below k3,hzx,hzt,ct.below k3,HR.out.2.1.below k3,HR.out.2.2.trans (k3.mono HR.out.2.2.size)⟩
   have HK:Hid (∀ W,Below W3.heap.size W3 W→(W.cell? ⟨bS,0,none⟩ = some (.slice ta tk tc)∧W.cell? ⟨bS,1,none⟩ = some (.bool zt))∧(W.cell? ⟨gc,oc + i * 2,none⟩ = some (.slice ya yk yc)∧W.cell? ⟨gc,oc + i * 2 + 1,none⟩ = some (.bool false))∧W.cell? ⟨wr.heap.size,0,none⟩ = some (.slice xa xk xc)∧W.cell? ⟨wr.heap.size,1,none⟩ = some (.bool zx)):=fun W k=>by
    have hl:gc < wr.heap.size:=Nat.lt_of_lt_of_le HC.out.1 HR.out.2.2.size
    have kw:Below wr.heap.size wr W:=k3.trans (k.mono k3.size)
    have c1:=HL3.out.2.2.2.2.2.1.below k
    have c2:=cn.below k
    have a1:=c1.cell 0
    have a2:=c1.cell 1
    have a3:=c2.cell 0
    have a4:=c2.cell 1
    simp at a1 a2 a3 a4
    exact ⟨⟨a1,a2⟩,⟨(kw.cell (p:=⟨gc,oc + i * 2,none⟩) hl).trans q3,(kw.cell (p:=⟨gc,oc + i * 2 + 1,none⟩) hl).trans q4⟩,a3,a4⟩
   clear lx ly lt ct cn k3 hzx hzt HR q3 q4
   go_wp2
   rw [← hW3]
   clear hW3 q1 q2
   obtain ⟨bN,hbN⟩:∃ bN,bN = wr.heap.size:=⟨_,rfl⟩
   rw [← hbN] at HK ⊢
   clear hbN
   refine wp_region_G (fun W=>(W.cell? ⟨bS,0,none⟩ = some (.slice ta tk tc)∧W.cell? ⟨bS,1,none⟩ = some (.bool zt))∧(W.cell? ⟨gc,oc + i * 2,none⟩ = some (.slice ya yk yc)∧W.cell? ⟨gc,oc + i * 2 + 1,none⟩ = some (.bool false))∧W.cell? ⟨bN,0,none⟩ = some (.slice xa xk xc)∧W.cell? ⟨bN,1,none⟩ = some (.bool zx)) 8 (by kernel_rfl) (HK.out _ (Below.refl _ _).drew) (fun hHeld=>?_)
   refine wpAnyG_take (i:=0) (v:=?v0x1) rfl (by kernel_rfl) (fun _ _ _ h=>h) (Or.inl ⟨by rfl,?y0x1⟩) hHeld ?r0x1
   case y0x1=>(intro wS hSw; obtain ⟨⟨s1,s2⟩,⟨s3,s4⟩,s5,s6⟩:=hSw; go_simp; try with_reducible rfl)
   simp only [Act.put,List.getElem_toArray,List.getElem_cons_zero,List.getElem_cons_succ,List.setIfInBounds_toArray,List.set_cons_zero,List.set_cons_succ]
   refine wpAnyG_take (i:=1) (v:=?v1x2) rfl (by kernel_rfl) (fun _ _ _ h=>h) (Or.inl ⟨by rfl,?y1x2⟩) hHeld ?r1x2
   case y1x2=>(intro wS hSw; obtain ⟨⟨s1,s2⟩,⟨s3,s4⟩,s5,s6⟩:=hSw; go_simp; try with_reducible rfl)
   simp only [Act.put,List.getElem_toArray,List.getElem_cons_zero,List.getElem_cons_succ,List.setIfInBounds_toArray,List.set_cons_zero,List.set_cons_succ]
   refine wpAnyG_take (i:=2) (v:=?v2x3) rfl (by kernel_rfl) (fun _ _ _ h=>h) (Or.inl ⟨by rfl,?y2x3⟩) hHeld ?r2x3
   case y2x3=>(intro wS hSw; obtain ⟨⟨s1,s2⟩,⟨s3,s4⟩,s5,s6⟩:=hSw; go_simp; try with_reducible rfl)
   simp only [Act.put,List.getElem_toArray,List.getElem_cons_zero,List.getElem_cons_succ,List.setIfInBounds_toArray,List.set_cons_zero,List.set_cons_succ]
   refine wpAnyG_take (i:=3) (v:=?v3x4) rfl (by kernel_rfl) (fun _ _ _ h=>h) (Or.inl ⟨by rfl,?y3x4⟩) hHeld ?r3x4
   case y3x4=>(intro wS hSw; obtain ⟨⟨s1,s2⟩,⟨s3,s4⟩,s5,s6⟩:=hSw; go_simp; try with_reducible rfl)
   simp only [Act.put,List.getElem_toArray,List.getElem_cons_zero,List.getElem_cons_succ,List.setIfInBounds_toArray,List.set_cons_zero,List.set_cons_succ]
   refine wpAnyG_take (i:=4) (v:=?v4x5) rfl (by kernel_rfl) (fun _ _ _ h=>h) (Or.inl ⟨by rfl,?y4x5⟩) hHeld ?r4x5
   case y4x5=>(intro wS hSw; obtain ⟨⟨s1,s2⟩,⟨s3,s4⟩,s5,s6⟩:=hSw; go_simp; try with_reducible rfl)
   simp only [Act.put,List.getElem_toArray,List.getElem_cons_zero,List.getElem_cons_succ,List.setIfInBounds_toArray,List.set_cons_zero,List.set_cons_succ]
   refine wpAnyG_take (i:=5) (v:=?v5x6) rfl (by kernel_rfl) (fun _ _ _ h=>h) (Or.inl ⟨by rfl,?y5x6⟩) hHeld ?r5x6
   case y5x6=>(intro wS hSw; obtain ⟨⟨s1,s2⟩,⟨s3,s4⟩,s5,s6⟩:=hSw; go_simp; try with_reducible rfl)
   simp only [Act.put,List.getElem_toArray,List.getElem_cons_zero,List.getElem_cons_succ,List.setIfInBounds_toArray,List.set_cons_zero,List.set_cons_succ]
   refine wpAnyG_one (i:=6) rfl (by kernel_rfl) (fun K hK=>?_)
   go_simp
   obtain ⟨zp,hzp⟩:∃ zp,zp = decide (((BN.ch (m + 1) i:Nat):Int) * BN.bz NN i < 0):=⟨_,rfl⟩
   have HZp:Hid (zp = decide (((BN.ch (m + 1) i:Nat):Int) * BN.bz NN i < 0)):=hzp
   have hpr:=SProduct_any (.slice ya yk yc) (.slice xa xk xc) ((BN.ch (m + 1) i:Nat):Int) (BN.bz NN i) 60 W3.drew (by rw [ch_nat]; exact HL3.out.2.1.below (Below.refl _ _).drew) (HL3.out.1.below (Below.refl _ _).drew) (by rw [ch_nat]; exact Nat.lt_of_lt_of_le (ch_bs (by omega)) (Nat.pow_le_pow_right (by decide) (by decide))) (Nat.lt_of_lt_of_le (bz_bs (by omega) hn) (Nat.pow_le_pow_right (by decide) (by decide))) (by omega)
   rw [ch_sgn,← HL3.out.2.2.2.1,← hzp] at hpr
   clear hzp
   refine hpr.mono ?_
   clear hpr
   rintro e w4 ⟨v4,rfl,l4,k4⟩
   obtain ⟨a4,m4,c4,rfl⟩:=l4.shape
   have HL4:Hid (LN w4 (.slice a4 m4 c4) (((BN.ch (m + 1) i:Nat):Int) * BN.bz NN i).natAbs∧Below W3.heap.size W3 w4):=⟨l4,(Below.refl _ _).drew.trans k4⟩
   clear l4 k4
   refine hK.out _ _ (HK.out _ HL4.out.2) ?_
   clear hK K hHeld
   have hHeld:=HK.out _ HL4.out.2
   refine wpAnyG_one (i:=7) rfl (by kernel_rfl) (fun K hK=>?_)
   go_simp
   have hpl:=SPlus_any (.slice ta tk tc) (.slice a4 m4 c4) (nxs NN m i) (((BN.ch (m + 1) i:Nat):Int) * BN.bz NN i) 60 w4 (HL3.out.2.2.1.below HL4.out.2) HL4.out.1 (nxs_bs hmn hin hn) (Nat.lt_of_le_of_lt (chbz_bs (by omega) hn (by omega)) (by decide +kernel)) (by omega)
   obtain ⟨zs,hzs⟩:∃ zs,zs = decide (nxs NN m (i + 1) < 0):=⟨_,rfl⟩
   have HZs:Hid (zs = decide (nxs NN m (i + 1) < 0)):=hzs
   have es:nxs NN m i + ((BN.ch (m + 1) i:Nat):Int) * BN.bz NN i = nxs NN m (i + 1):=rfl
   rw [es,← HL3.out.2.2.2.2.1,← HZp.out,← hzs] at hpl
   clear hzs es
   refine hpl.mono ?_
   clear hpl
   rintro e w5 ⟨v5,rfl,l5,k5⟩
   obtain ⟨a5,m5,c5,rfl⟩:=l5.shape
   have HK5:Hid (Below W3.heap.size W3 w5):=HL4.out.2.trans (k5.mono HL4.out.2.size)
   have HC5:Hid (Cl bS [.slice ta tk tc,.bool zt] 66 w5):=HL3.out.2.2.2.2.2.1.below HK5.out
   have HN:Hid (Sx bS (nxs NN m (i + 1)) ((w5.setCell ⟨bS,0,none⟩ (.slice a5 m5 c5)).setCell ⟨bS,1,none⟩ (.bool zs))∧Cl w.heap.size [.slice none 0 0,.bool false] 66 ((w5.setCell ⟨bS,0,none⟩ (.slice a5 m5 c5)).setCell ⟨bS,1,none⟩ (.bool zs))∧Below w.heap.size w ((w5.setCell ⟨bS,0,none⟩ (.slice a5 m5 c5)).setCell ⟨bS,1,none⟩ (.bool zs))):=by
    have hb:=HB.out
    have hk:=HL3.out.2.2.2.2.2.2.2
    refine ⟨⟨a5,m5,c5,by rw [← HZs.out]; exact HC5.out.two _ _,l5.setTwo HC5.out⟩,((HL3.out.2.2.2.2.2.2.1.below HK5.out).other (by simp; omega) _).other (by simp; omega) _,(((hk.trans (HK5.out.mono hk.size)).setCell (by simp; omega) _).setCell (by simp; omega) _)⟩
   have u1:=HC5.out.cell 0
   have u2:=HC5.out.cell 1
   have u3:=HC5.out.frozen 0
   have u4:=HC5.out.frozen 1
   simp at u1 u2
   clear l5 k5
   refine hK.out _ _ (HK.out _ HK5.out) ?_
   clear hK K hHeld
   have hHeld:=HK.out _ HK5.out
   refine wpAnyG_last (i:=8) rfl (by kernel_rfl) (by kernel_rfl) (fun K hK=>?_)
   go_simp
   refine hK.out _ _ ?_
   clear hK K
   refine wpAnyG_done (by kernel_rfl) ?_ _
   clear u1 u2 u3 u4 hHeld
   go_wp2
   go_roundw
   case rel=>exact ⟨i + 1,by omega,by go_num,HN.out⟩
   case measure=>simp [intOf]; omega
  ·obtain rfl:i = m:=by omega
   obtain ⟨ya,yk,yc,q3,q4,ly⟩:=HC.out.2 wr HR.out.2.2 i (by omega)
   obtain ⟨ta,tk,tc,ct,lt⟩:=HR.out.1
   obtain ⟨zt,hzt⟩:∃ zt,zt = decide (nxs NN i i < 0):=⟨_,rfl⟩
   rw [← hzt] at ct
   have HL3:Hid (LN wr (.slice ya yk yc) (BN.ch (i + 1) i)∧LN wr (.slice ta tk tc) (nxs NN i i).natAbs∧zt = decide (nxs NN i i < 0)∧Cl bS [.slice ta tk tc,.bool zt] 66 wr∧Cl w.heap.size [.slice none 0 0,.bool false] 66 wr∧Below w.heap.size w wr) :=
    ⟨ly,lt,hzt,ct,HR.out.2⟩
   have HK:Hid (∀ W,Below wr.heap.size wr W→(W.cell? ⟨bS,0,none⟩ = some (.slice ta tk tc)∧W.cell? ⟨bS,1,none⟩ = some (.bool zt))∧(W.cell? ⟨gc,oc + i * 2,none⟩ = some (.slice ya yk yc)∧W.cell? ⟨gc,oc + i * 2 + 1,none⟩ = some (.bool false))):=fun W k=>by
    have hl:gc < wr.heap.size:=Nat.lt_of_lt_of_le HC.out.1 HR.out.2.2.size
    have c1:=ct.below k
    have a1:=c1.cell 0
    have a2:=c1.cell 1
    simp at a1 a2
    exact ⟨⟨a1,a2⟩,(k.cell (p:=⟨gc,oc + i * 2,none⟩) hl).trans q3,(k.cell (p:=⟨gc,oc + i * 2 + 1,none⟩) hl).trans q4⟩
   have hF:=nxs_end h1m hmn hn
   obtain ⟨zq,hzq⟩:∃ zq,zq = decide (-BN.bz NN i < 0):=⟨_,rfl⟩
   obtain ⟨ze,hze⟩:∃ ze,ze = decide ((nxs NN i i).fmod ((BN.ch (i + 1) i:Nat):Int) < 0):=⟨_,rfl⟩
   have HZq:Hid (zq = decide (-BN.bz NN i < 0)):=hzq
   have HDv:Hid (∀ W,Below wr.heap.size wr W→Calls Tryz.prog 88 #[.agg #[.slice ta tk tc,.bool zt],.agg #[.slice ya yk yc,.bool false]] W fun e w'=>∃ qa qk qc ea ek ec,e = .returned (.tuple #[.agg #[.slice qa qk qc,.bool zq],.agg #[.slice ea ek ec,.bool ze]])∧LN w' (.slice qa qk qc) (BN.bz NN i).natAbs∧Below W.heap.size W w'):=fun W hW=>by
    have e:BN.ch (i + 1) i ≠ 0:=by
     have h1:=BN.ch_step (i + 1) i (by omega)
     rw [BN.ch_all,show i + 1 - i = 1 by omega] at h1
     omega
    have h:=SDivide_any (.slice ta tk tc) (.slice ya yk yc) (nxs NN i i) ((BN.ch (i + 1) i:Nat):Int) 60 W (lt.below hW) (by rw [ch_nat]; exact ly.below hW) (nxs_bs hmn (Nat.le_refl _) hn) (by rw [ch_nat]; exact Nat.lt_of_lt_of_le (ch_bs (by omega)) (Nat.pow_le_pow_right (by decide) (by decide))) (by omega) (by omega)
    rw [hF,ch_sgn,← hzt,← hzq,← hze,Int.natAbs_neg] at h
    refine h.mono fun e w' ⟨v,u,h1,h2,h3,h4⟩=>?_
    obtain ⟨qa,qk,qc,rfl⟩:=h2.shape
    obtain ⟨ea,ek,ec,rfl⟩:=h3.shape
    exact ⟨qa,qk,qc,ea,ek,ec,h1,h2,h4⟩
   clear hzq hze hF hzt ly lt ct HR q3 q4
   go_wp2
   refine wp_region_G (fun W=>(W.cell? ⟨bS,0,none⟩ = some (.slice ta tk tc)∧W.cell? ⟨bS,1,none⟩ = some (.bool zt))∧(W.cell? ⟨gc,oc + i * 2,none⟩ = some (.slice ya yk yc)∧W.cell? ⟨gc,oc + i * 2 + 1,none⟩ = some (.bool false))) 13 (by kernel_rfl) (HK.out _ (Below.refl _ _).drew) (fun hHeld=>?_)
   refine wpAnyG_take (i:=0) (v:=?v0x7) rfl (by kernel_rfl) (fun _ _ _ h=>h) (Or.inl ⟨by rfl,?y0x7⟩) hHeld ?r0x7
   case y0x7=>(intro wS hSw; obtain ⟨⟨s1,s2⟩,s3,s4⟩:=hSw; go_simp; try with_reducible rfl)
   simp only [Act.put,List.getElem_toArray,List.getElem_cons_zero,List.getElem_cons_succ,List.setIfInBounds_toArray,List.set_cons_zero,List.set_cons_succ]
   refine wpAnyG_take (i:=1) (v:=?v1x8) rfl (by kernel_rfl) (fun _ _ _ h=>h) (Or.inl ⟨by rfl,?y1x8⟩) hHeld ?r1x8
   case y1x8=>(intro wS hSw; obtain ⟨⟨s1,s2⟩,s3,s4⟩:=hSw; go_simp; try with_reducible rfl)
   simp only [Act.put,List.getElem_toArray,List.getElem_cons_zero,List.getElem_cons_succ,List.setIfInBounds_toArray,List.set_cons_zero,List.set_cons_succ]
   refine wpAnyG_take (i:=2) (v:=?v2x9) rfl (by kernel_rfl) (fun _ _ _ h=>h) (Or.inl ⟨by rfl,?y2x9⟩) hHeld ?r2x9
   case y2x9=>(intro wS hSw; obtain ⟨⟨s1,s2⟩,s3,s4⟩:=hSw; go_simp; try with_reducible rfl)
   simp only [Act.put,List.getElem_toArray,List.getElem_cons_zero,List.getElem_cons_succ,List.setIfInBounds_toArray,List.set_cons_zero,List.set_cons_succ]
   refine wpAnyG_take (i:=3) (v:=?v3x10) rfl (by kernel_rfl) (fun _ _ _ h=>h) (Or.inl ⟨by rfl,?y3x10⟩) hHeld ?r3x10
   case y3x10=>(intro wS hSw; obtain ⟨⟨s1,s2⟩,s3,s4⟩:=hSw; go_simp; try with_reducible rfl)
   simp only [Act.put,List.getElem_toArray,List.getElem_cons_zero,List.getElem_cons_succ,List.setIfInBounds_toArray,List.set_cons_zero,List.set_cons_succ]
   refine wpAnyG_take (i:=4) (v:=?v4x11) rfl (by kernel_rfl) (fun _ _ _ h=>h) (Or.inl ⟨by rfl,?y4x11⟩) hHeld ?r4x11
   case y4x11=>(intro wS hSw; obtain ⟨⟨s1,s2⟩,s3,s4⟩:=hSw; go_simp; try with_reducible rfl)
   simp only [Act.put,List.getElem_toArray,List.getElem_cons_zero,List.getElem_cons_succ,List.setIfInBounds_toArray,List.set_cons_zero,List.set_cons_succ]
   refine wpAnyG_take (i:=5) (v:=?v5x12) rfl (by kernel_rfl) (fun _ _ _ h=>h) (Or.inl ⟨by rfl,?y5x12⟩) hHeld ?r5x12
   case y5x12=>(intro wS hSw; obtain ⟨⟨s1,s2⟩,s3,s4⟩:=hSw; go_simp; try with_reducible rfl)
   simp only [Act.put,List.getElem_toArray,List.getElem_cons_zero,List.getElem_cons_succ,List.setIfInBounds_toArray,List.set_cons_zero,List.set_cons_succ]
   have hHeld0:=hHeld
   clear hHeld
   refine wpAnyG_inv (fun n l a w1=>∃ x8 x9 x26 x33 x34 x35:Value,a = { tmps:=#[.slice (some ⟨ga,oa,none⟩) i ca,.slice (some ⟨gc,oc,none⟩) M2 cc,undef,undef,.pointer (some ⟨w.heap.size,0,none⟩),.pointer (some ⟨bS,0,none⟩),u6,u7,x8,x9,.slice (some ⟨ga,oa,none⟩) i ca,.int .i64 ↑i,.int .i64 ↑i,.bool false,u14,u15,u16,u17,u18,u19,u20,u21,u22,u23,u24,u25,x26,.agg #[.slice ta tk tc,.bool zt],.slice (some ⟨gc,oc,none⟩) M2 cc,.slice (some ⟨ga,oa,none⟩) i ca,.int .i64 ↑i,.pointer (some ⟨gc,oc + i * 2,none⟩),.agg #[.slice ya yk yc,.bool false],x33,x34,x35,undef,undef],defers:=[] }∧(((((n = 8∧l = #[true,true,true,true,true,true,false,false,false,false,false,false,false,false]∧x8 = undef∧x9 = undef∧x26 = undef∧x33 = undef∧x34 = undef∧x35 = undef∧Hid (Below wr.heap.size wr w1))∨((∃ qa:Option Addr,∃ qk:Nat,∃ qc:Nat,∃ ea:Option Addr,∃ ek:Nat,∃ ec:Nat,n = 7∧l = #[true,true,true,true,true,true,true,false,false,false,false,false,false,false]∧x8 = undef∧x9 = undef∧x26 = undef∧x33 = .tuple #[.agg #[.slice qa qk qc,.bool zq],.agg #[.slice ea ek ec,.bool ze]]∧x34 = undef∧x35 = undef∧Hid (Below wr.heap.size wr w1∧LN w1 (.slice qa qk qc) (BN.bz NN i).natAbs))∨(∃ b8:Nat,n = 7∧l = #[true,true,true,true,true,true,false,false,false,false,true,false,false,false]∧x8 = .pointer (some ⟨b8,0,none⟩)∧x9 = undef∧x26 = undef∧x33 = undef∧x34 = undef∧x35 = undef∧Hid (Below wr.heap.size wr w1∧wr.heap.size≤b8∧Cl b8 [.slice none 0 0,.bool false] 66 w1))))∨((∃ b9:Nat,n = 7∧l = #[true,true,true,true,true,true,false,false,false,false,false,true,false,false]∧x8 = undef∧x9 = .pointer (some ⟨b9,0,none⟩)∧x26 = undef∧x33 = undef∧x34 = undef∧x35 = undef∧Hid (Below wr.heap.size wr w1∧wr.heap.size≤b9∧Cl b9 [.slice none 0 0,.bool false] 66 w1))∨((∃ qa:Option Addr,∃ qk:Nat,∃ qc:Nat,∃ ea:Option Addr,∃ ek:Nat,∃ ec:Nat,n = 6∧l = #[true,true,true,true,true,true,true,true,false,false,false,false,false,false]∧x8 = undef∧x9 = undef∧x26 = .tuple #[.agg #[.slice qa qk qc,.bool zq],.agg #[.slice ea ek ec,.bool ze]]∧x33 = .tuple #[.agg #[.slice qa qk qc,.bool zq],.agg #[.slice ea ek ec,.bool ze]]∧x34 = undef∧x35 = undef∧Hid (Below wr.heap.size wr w1∧LN w1 (.slice qa qk qc) (BN.bz NN i).natAbs))∨(∃ b8:Nat,∃ qa:Option Addr,∃ qk:Nat,∃ qc:Nat,∃ ea:Option Addr,∃ ek:Nat,∃ ec:Nat,n = 6∧l = #[true,true,true,true,true,true,true,false,false,false,true,false,false,false]∧x8 = .pointer (some ⟨b8,0,none⟩)∧x9 = undef∧x26 = undef∧x33 = .tuple #[.agg #[.slice qa qk qc,.bool zq],.agg #[.slice ea ek ec,.bool ze]]∧x34 = undef∧x35 = undef∧Hid (Below wr.heap.size wr w1∧wr.heap.size≤b8∧Cl b8 [.slice none 0 0,.bool false] 66 w1∧LN w1 (.slice qa qk qc) (BN.bz NN i).natAbs)))))∨(((∃ b9:Nat,∃ qa:Option Addr,∃ qk:Nat,∃ qc:Nat,∃ ea:Option Addr,∃ ek:Nat,∃ ec:Nat,n = 6∧l = #[true,true,true,true,true,true,true,false,false,false,false,true,false,false]∧x8 = undef∧x9 = .pointer (some ⟨b9,0,none⟩)∧x26 = undef∧x33 = .tuple #[.agg #[.slice qa qk qc,.bool zq],.agg #[.slice ea ek ec,.bool ze]]∧x34 = undef∧x35 = undef∧Hid (Below wr.heap.size wr w1∧wr.heap.size≤b9∧Cl b9 [.slice none 0 0,.bool false] 66 w1∧LN w1 (.slice qa qk qc) (BN.bz NN i).natAbs))∨((∃ b8:Nat,∃ b9:Nat,n = 6∧l = #[true,true,true,true,true,true,false,false,false,false,true,true,false,false]∧x8 = .pointer (some ⟨b8,0,none⟩)∧x9 = .pointer (some ⟨b9,0,none⟩)∧x26 = undef∧x33 = undef∧x34 = undef∧x35 = undef∧Hid (Below wr.heap.size wr w1∧wr.heap.size≤b8∧Cl b8 [.slice none 0 0,.bool false] 66 w1∧wr.heap.size≤b9∧Cl b9 [.slice none 0 0,.bool false] 66 w1∧b8 ≠ b9))∨(∃ qa:Option Addr,∃ qk:Nat,∃ qc:Nat,∃ ea:Option Addr,∃ ek:Nat,∃ ec:Nat,n = 5∧l = #[true,true,true,true,true,true,true,true,true,false,false,false,false,false]∧x8 = undef∧x9 = undef∧x26 = .tuple #[.agg #[.slice qa qk qc,.bool zq],.agg #[.slice ea ek ec,.bool ze]]∧x33 = .tuple #[.agg #[.slice qa qk qc,.bool zq],.agg #[.slice ea ek ec,.bool ze]]∧x34 = .agg #[.slice qa qk qc,.bool zq]∧x35 = undef∧Hid (Below wr.heap.size wr w1∧LN w1 (.slice qa qk qc) (BN.bz NN i).natAbs))))∨(((∃ qa:Option Addr,∃ qk:Nat,∃ qc:Nat,∃ ea:Option Addr,∃ ek:Nat,∃ ec:Nat,n = 5∧l = #[true,true,true,true,true,true,true,true,false,true,false,false,false,false]∧x8 = undef∧x9 = undef∧x26 = .tuple #[.agg #[.slice qa qk qc,.bool zq],.agg #[.slice ea ek ec,.bool ze]]∧x33 = .tuple #[.agg #[.slice qa qk qc,.bool zq],.agg #[.slice ea ek ec,.bool ze]]∧x34 = undef∧x35 = .agg #[.slice ea ek ec,.bool ze]∧Hid (Below wr.heap.size wr w1∧LN w1 (.slice qa qk qc) (BN.bz NN i).natAbs))∨(∃ b8:Nat,∃ qa:Option Addr,∃ qk:Nat,∃ qc:Nat,∃ ea:Option Addr,∃ ek:Nat,∃ ec:Nat,n = 5∧l = #[true,true,true,true,true,true,true,true,false,false,true,false,false,false]∧x8 = .pointer (some ⟨b8,0,none⟩)∧x9 = undef∧x26 = .tuple #[.agg #[.slice qa qk qc,.bool zq],.agg #[.slice ea ek ec,.bool ze]]∧x33 = .tuple #[.agg #[.slice qa qk qc,.bool zq],.agg #[.slice ea ek ec,.bool ze]]∧x34 = undef∧x35 = undef∧Hid (Below wr.heap.size wr w1∧wr.heap.size≤b8∧Cl b8 [.slice none 0 0,.bool false] 66 w1∧LN w1 (.slice qa qk qc) (BN.bz NN i).natAbs)))∨((∃ b9:Nat,∃ qa:Option Addr,∃ qk:Nat,∃ qc:Nat,∃ ea:Option Addr,∃ ek:Nat,∃ ec:Nat,n = 5∧l = #[true,true,true,true,true,true,true,true,false,false,false,true,false,false]∧x8 = undef∧x9 = .pointer (some ⟨b9,0,none⟩)∧x26 = .tuple #[.agg #[.slice qa qk qc,.bool zq],.agg #[.slice ea ek ec,.bool ze]]∧x33 = .tuple #[.agg #[.slice qa qk qc,.bool zq],.agg #[.slice ea ek ec,.bool ze]]∧x34 = undef∧x35 = undef∧Hid (Below wr.heap.size wr w1∧wr.heap.size≤b9∧Cl b9 [.slice none 0 0,.bool false] 66 w1∧LN w1 (.slice qa qk qc) (BN.bz NN i).natAbs))∨(∃ b8:Nat,∃ b9:Nat,∃ qa:Option Addr,∃ qk:Nat,∃ qc:Nat,∃ ea:Option Addr,∃ ek:Nat,∃ ec:Nat,n = 5∧l = #[true,true,true,true,true,true,true,false,false,false,true,true,false,false]∧x8 = .pointer (some ⟨b8,0,none⟩)∧x9 = .pointer (some ⟨b9,0,none⟩)∧x26 = undef∧x33 = .tuple #[.agg #[.slice qa qk qc,.bool zq],.agg #[.slice ea ek ec,.bool ze]]∧x34 = undef∧x35 = undef∧Hid (Below wr.heap.size wr w1∧wr.heap.size≤b8∧Cl b8 [.slice none 0 0,.bool false] 66 w1∧wr.heap.size≤b9∧Cl b9 [.slice none 0 0,.bool false] 66 w1∧b8 ≠ b9∧LN w1 (.slice qa qk qc) (BN.bz NN i).natAbs))))))∨((((∃ qa:Option Addr,∃ qk:Nat,∃ qc:Nat,∃ ea:Option Addr,∃ ek:Nat,∃ ec:Nat,n = 4∧l = #[true,true,true,true,true,true,true,true,true,true,false,false,false,false]∧x8 = undef∧x9 = undef∧x26 = .tuple #[.agg #[.slice qa qk qc,.bool zq],.agg #[.slice ea ek ec,.bool ze]]∧x33 = .tuple #[.agg #[.slice qa qk qc,.bool zq],.agg #[.slice ea ek ec,.bool ze]]∧x34 = .agg #[.slice qa qk qc,.bool zq]∧x35 = .agg #[.slice ea ek ec,.bool ze]∧Hid (Below wr.heap.size wr w1∧LN w1 (.slice qa qk qc) (BN.bz NN i).natAbs))∨((∃ b8:Nat,∃ qa:Option Addr,∃ qk:Nat,∃ qc:Nat,∃ ea:Option Addr,∃ ek:Nat,∃ ec:Nat,n = 4∧l = #[true,true,true,true,true,true,true,true,true,false,true,false,false,false]∧x8 = .pointer (some ⟨b8,0,none⟩)∧x9 = undef∧x26 = .tuple #[.agg #[.slice qa qk qc,.bool zq],.agg #[.slice ea ek ec,.bool ze]]∧x33 = .tuple #[.agg #[.slice qa qk qc,.bool zq],.agg #[.slice ea ek ec,.bool ze]]∧x34 = .agg #[.slice qa qk qc,.bool zq]∧x35 = undef∧Hid (Below wr.heap.size wr w1∧wr.heap.size≤b8∧Cl b8 [.slice none 0 0,.bool false] 66 w1∧LN w1 (.slice qa qk qc) (BN.bz NN i).natAbs))∨(∃ b9:Nat,∃ qa:Option Addr,∃ qk:Nat,∃ qc:Nat,∃ ea:Option Addr,∃ ek:Nat,∃ ec:Nat,n = 4∧l = #[true,true,true,true,true,true,true,true,true,false,false,true,false,false]∧x8 = undef∧x9 = .pointer (some ⟨b9,0,none⟩)∧x26 = .tuple #[.agg #[.slice qa qk qc,.bool zq],.agg #[.slice ea ek ec,.bool ze]]∧x33 = .tuple #[.agg #[.slice qa qk qc,.bool zq],.agg #[.slice ea ek ec,.bool ze]]∧x34 = .agg #[.slice qa qk qc,.bool zq]∧x35 = undef∧Hid (Below wr.heap.size wr w1∧wr.heap.size≤b9∧Cl b9 [.slice none 0 0,.bool false] 66 w1∧LN w1 (.slice qa qk qc) (BN.bz NN i).natAbs))))∨(((∃ b8:Nat,∃ qa:Option Addr,∃ qk:Nat,∃ qc:Nat,∃ ea:Option Addr,∃ ek:Nat,∃ ec:Nat,n = 4∧l = #[true,true,true,true,true,true,true,true,false,true,true,false,false,false]∧x8 = .pointer (some ⟨b8,0,none⟩)∧x9 = undef∧x26 = .tuple #[.agg #[.slice qa qk qc,.bool zq],.agg #[.slice ea ek ec,.bool ze]]∧x33 = .tuple #[.agg #[.slice qa qk qc,.bool zq],.agg #[.slice ea ek ec,.bool ze]]∧x34 = undef∧x35 = .agg #[.slice ea ek ec,.bool ze]∧Hid (Below wr.heap.size wr w1∧wr.heap.size≤b8∧Cl b8 [.slice none 0 0,.bool false] 66 w1∧LN w1 (.slice qa qk qc) (BN.bz NN i).natAbs))∨(∃ b9:Nat,∃ qa:Option Addr,∃ qk:Nat,∃ qc:Nat,∃ ea:Option Addr,∃ ek:Nat,∃ ec:Nat,n = 4∧l = #[true,true,true,true,true,true,true,true,false,true,false,true,false,false]∧x8 = undef∧x9 = .pointer (some ⟨b9,0,none⟩)∧x26 = .tuple #[.agg #[.slice qa qk qc,.bool zq],.agg #[.slice ea ek ec,.bool ze]]∧x33 = .tuple #[.agg #[.slice qa qk qc,.bool zq],.agg #[.slice ea ek ec,.bool ze]]∧x34 = undef∧x35 = .agg #[.slice ea ek ec,.bool ze]∧Hid (Below wr.heap.size wr w1∧wr.heap.size≤b9∧Cl b9 [.slice none 0 0,.bool false] 66 w1∧LN w1 (.slice qa qk qc) (BN.bz NN i).natAbs)))∨((∃ b8:Nat,∃ b9:Nat,∃ qa:Option Addr,∃ qk:Nat,∃ qc:Nat,∃ ea:Option Addr,∃ ek:Nat,∃ ec:Nat,n = 4∧l = #[true,true,true,true,true,true,true,true,false,false,true,true,false,false]∧x8 = .pointer (some ⟨b8,0,none⟩)∧x9 = .pointer (some ⟨b9,0,none⟩)∧x26 = .tuple #[.agg #[.slice qa qk qc,.bool zq],.agg #[.slice ea ek ec,.bool ze]]∧x33 = .tuple #[.agg #[.slice qa qk qc,.bool zq],.agg #[.slice ea ek ec,.bool ze]]∧x34 = undef∧x35 = undef∧Hid (Below wr.heap.size wr w1∧wr.heap.size≤b8∧Cl b8 [.slice none 0 0,.bool false] 66 w1∧wr.heap.size≤b9∧Cl b9 [.slice none 0 0,.bool false] 66 w1∧b8 ≠ b9∧LN w1 (.slice qa qk qc) (BN.bz NN i).natAbs))∨(∃ b8:Nat,∃ qa:Option Addr,∃ qk:Nat,∃ qc:Nat,∃ ea:Option Addr,∃ ek:Nat,∃ ec:Nat,n = 3∧l = #[true,true,true,true,true,true,true,true,true,true,true,false,false,false]∧x8 = .pointer (some ⟨b8,0,none⟩)∧x9 = undef∧x26 = .tuple #[.agg #[.slice qa qk qc,.bool zq],.agg #[.slice ea ek ec,.bool ze]]∧x33 = .tuple #[.agg #[.slice qa qk qc,.bool zq],.agg #[.slice ea ek ec,.bool ze]]∧x34 = .agg #[.slice qa qk qc,.bool zq]∧x35 = .agg #[.slice ea ek ec,.bool ze]∧Hid (Below wr.heap.size wr w1∧wr.heap.size≤b8∧Cl b8 [.slice none 0 0,.bool false] 66 w1∧LN w1 (.slice qa qk qc) (BN.bz NN i).natAbs)))))∨(((∃ b9:Nat,∃ qa:Option Addr,∃ qk:Nat,∃ qc:Nat,∃ ea:Option Addr,∃ ek:Nat,∃ ec:Nat,n = 3∧l = #[true,true,true,true,true,true,true,true,true,true,false,true,false,false]∧x8 = undef∧x9 = .pointer (some ⟨b9,0,none⟩)∧x26 = .tuple #[.agg #[.slice qa qk qc,.bool zq],.agg #[.slice ea ek ec,.bool ze]]∧x33 = .tuple #[.agg #[.slice qa qk qc,.bool zq],.agg #[.slice ea ek ec,.bool ze]]∧x34 = .agg #[.slice qa qk qc,.bool zq]∧x35 = .agg #[.slice ea ek ec,.bool ze]∧Hid (Below wr.heap.size wr w1∧wr.heap.size≤b9∧Cl b9 [.slice none 0 0,.bool false] 66 w1∧LN w1 (.slice qa qk qc) (BN.bz NN i).natAbs))∨((∃ b8:Nat,∃ b9:Nat,∃ qa:Option Addr,∃ qk:Nat,∃ qc:Nat,∃ ea:Option Addr,∃ ek:Nat,∃ ec:Nat,n = 3∧l = #[true,true,true,true,true,true,true,true,true,false,true,true,false,false]∧x8 = .pointer (some ⟨b8,0,none⟩)∧x9 = .pointer (some ⟨b9,0,none⟩)∧x26 = .tuple #[.agg #[.slice qa qk qc,.bool zq],.agg #[.slice ea ek ec,.bool ze]]∧x33 = .tuple #[.agg #[.slice qa qk qc,.bool zq],.agg #[.slice ea ek ec,.bool ze]]∧x34 = .agg #[.slice qa qk qc,.bool zq]∧x35 = undef∧Hid (Below wr.heap.size wr w1∧wr.heap.size≤b8∧Cl b8 [.slice none 0 0,.bool false] 66 w1∧wr.heap.size≤b9∧Cl b9 [.slice none 0 0,.bool false] 66 w1∧b8 ≠ b9∧LN w1 (.slice qa qk qc) (BN.bz NN i).natAbs))∨(∃ b8:Nat,∃ b9:Nat,∃ qa:Option Addr,∃ qk:Nat,∃ qc:Nat,∃ ea:Option Addr,∃ ek:Nat,∃ ec:Nat,n = 3∧l = #[true,true,true,true,true,true,true,true,false,true,true,true,false,false]∧x8 = .pointer (some ⟨b8,0,none⟩)∧x9 = .pointer (some ⟨b9,0,none⟩)∧x26 = .tuple #[.agg #[.slice qa qk qc,.bool zq],.agg #[.slice ea ek ec,.bool ze]]∧x33 = .tuple #[.agg #[.slice qa qk qc,.bool zq],.agg #[.slice ea ek ec,.bool ze]]∧x34 = undef∧x35 = .agg #[.slice ea ek ec,.bool ze]∧Hid (Below wr.heap.size wr w1∧wr.heap.size≤b8∧Cl b8 [.slice none 0 0,.bool false] 66 w1∧wr.heap.size≤b9∧Cl b9 [.slice none 0 0,.bool false] 66 w1∧b8 ≠ b9∧LN w1 (.slice qa qk qc) (BN.bz NN i).natAbs))))∨(((∃ b8:Nat,∃ b9:Nat,∃ qa:Option Addr,∃ qk:Nat,∃ qc:Nat,∃ ea:Option Addr,∃ ek:Nat,∃ ec:Nat,n = 2∧l = #[true,true,true,true,true,true,true,true,true,true,true,true,false,false]∧x8 = .pointer (some ⟨b8,0,none⟩)∧x9 = .pointer (some ⟨b9,0,none⟩)∧x26 = .tuple #[.agg #[.slice qa qk qc,.bool zq],.agg #[.slice ea ek ec,.bool ze]]∧x33 = .tuple #[.agg #[.slice qa qk qc,.bool zq],.agg #[.slice ea ek ec,.bool ze]]∧x34 = .agg #[.slice qa qk qc,.bool zq]∧x35 = .agg #[.slice ea ek ec,.bool ze]∧Hid (Below wr.heap.size wr w1∧wr.heap.size≤b8∧Cl b8 [.slice none 0 0,.bool false] 66 w1∧wr.heap.size≤b9∧Cl b9 [.slice none 0 0,.bool false] 66 w1∧b8 ≠ b9∧LN w1 (.slice qa qk qc) (BN.bz NN i).natAbs))∨(∃ b8:Nat,∃ b9:Nat,∃ qa:Option Addr,∃ qk:Nat,∃ qc:Nat,∃ ea:Option Addr,∃ ek:Nat,∃ ec:Nat,n = 2∧l = #[true,true,true,true,true,true,true,true,true,false,true,true,true,false]∧x8 = .pointer (some ⟨b8,0,none⟩)∧x9 = .pointer (some ⟨b9,0,none⟩)∧x26 = .tuple #[.agg #[.slice qa qk qc,.bool zq],.agg #[.slice ea ek ec,.bool ze]]∧x33 = .tuple #[.agg #[.slice qa qk qc,.bool zq],.agg #[.slice ea ek ec,.bool ze]]∧x34 = .agg #[.slice qa qk qc,.bool zq]∧x35 = undef∧Hid (Below wr.heap.size wr w1∧wr.heap.size≤b8∧Cl b8 [.slice qa qk qc,.bool zq] 66 w1∧wr.heap.size≤b9∧Cl b9 [.slice none 0 0,.bool false] 66 w1∧b8 ≠ b9∧LN w1 (.slice qa qk qc) (BN.bz NN i).natAbs)))∨((∃ b8:Nat,∃ b9:Nat,∃ qa:Option Addr,∃ qk:Nat,∃ qc:Nat,∃ ea:Option Addr,∃ ek:Nat,∃ ec:Nat,n = 1∧l = #[true,true,true,true,true,true,true,true,true,true,true,true,true,false]∧x8 = .pointer (some ⟨b8,0,none⟩)∧x9 = .pointer (some ⟨b9,0,none⟩)∧x26 = .tuple #[.agg #[.slice qa qk qc,.bool zq],.agg #[.slice ea ek ec,.bool ze]]∧x33 = .tuple #[.agg #[.slice qa qk qc,.bool zq],.agg #[.slice ea ek ec,.bool ze]]∧x34 = .agg #[.slice qa qk qc,.bool zq]∧x35 = .agg #[.slice ea ek ec,.bool ze]∧Hid (Below wr.heap.size wr w1∧wr.heap.size≤b8∧Cl b8 [.slice qa qk qc,.bool zq] 66 w1∧wr.heap.size≤b9∧Cl b9 [.slice none 0 0,.bool false] 66 w1∧b8 ≠ b9∧LN w1 (.slice qa qk qc) (BN.bz NN i).natAbs))∨(∃ b8:Nat,∃ b9:Nat,∃ qa:Option Addr,∃ qk:Nat,∃ qc:Nat,∃ ea:Option Addr,∃ ek:Nat,∃ ec:Nat,n = 0∧l = #[true,true,true,true,true,true,true,true,true,true,true,true,true,true]∧x8 = .pointer (some ⟨b8,0,none⟩)∧x9 = .pointer (some ⟨b9,0,none⟩)∧x26 = .tuple #[.agg #[.slice qa qk qc,.bool zq],.agg #[.slice ea ek ec,.bool ze]]∧x33 = .tuple #[.agg #[.slice qa qk qc,.bool zq],.agg #[.slice ea ek ec,.bool ze]]∧x34 = .agg #[.slice qa qk qc,.bool zq]∧x35 = .agg #[.slice ea ek ec,.bool ze]∧Hid (Below wr.heap.size wr w1∧wr.heap.size≤b8∧Cl b8 [.slice qa qk qc,.bool zq] 66 w1∧wr.heap.size≤b9∧Cl b9 [.slice ea ek ec,.bool ze] 66 w1∧b8 ≠ b9∧LN w1 (.slice qa qk qc) (BN.bz NN i).natAbs)))))))) ?steps _ _ _ _ ?start
   case start=>exact ⟨_,_,_,_,_,_,rfl,.inl (.inl (.inl (.inl (⟨rfl,rfl,rfl,rfl,rfl,rfl,rfl,rfl,(Below.refl _ _).drew⟩))))⟩
   case steps =>
    intro n l a w1 hI
    obtain ⟨x8,x9,x26,x33,x34,x35,rfl,hI⟩:=hI
    rcases hI with ((((hI | (hI | hI)) | (hI | (hI | hI))) | ((hI | (hI | hI)) | ((hI | hI) | (hI | hI)))) | (((hI | (hI | hI)) | ((hI | hI) | (hI | hI))) | ((hI | (hI | hI)) | ((hI | hI) | (hI | hI)))))
    ·obtain ⟨rfl,rfl,rfl,rfl,rfl,rfl,rfl,rfl,HH⟩:=hI
     right
     refine ⟨7,[6,10,11],rfl,by kernel_rfl,by simp,fun i hi=>?_⟩
     simp only [List.mem_cons,List.not_mem_nil,or_false] at hi
     rcases hi with rfl | rfl | rfl
     ·refine ⟨_,rfl,fun K' hK=>?_⟩
      go_simp
      have K:=HH.out
      have zl:=K.size
      refine (HDv.out w1 K).mono ?_
      rintro e w2 ⟨qa,qk,qc,ea,ek,ec,rfl,lnq,kk⟩
      refine hK.out _ _ (fun _ _=>HK.out _ (K.trans (kk.mono zl))) (⟨_,_,_,_,_,_,rfl,.inl (.inl (.inl (.inr (.inl (⟨qa,qk,qc,ea,ek,ec,rfl,rfl,rfl,rfl,rfl,rfl,rfl,rfl,K.trans (kk.mono zl),lnq⟩)))))⟩)
     ·refine ⟨_,rfl,fun K' hK=>?_⟩
      go_simp
      have K:=HH.out
      have zl:=K.size
      refine hK.out _ _ (fun _ _=>HK.out _ (K.alloc zl _)) (⟨_,_,_,_,_,_,rfl,.inl (.inl (.inl (.inr (.inr (⟨w1.heap.size,rfl,rfl,rfl,rfl,rfl,rfl,rfl,rfl,K.alloc zl _,zl,Cl.new _ _ w1⟩)))))⟩)
     ·refine ⟨_,rfl,fun K' hK=>?_⟩
      go_simp
      have K:=HH.out
      have zl:=K.size
      refine hK.out _ _ (fun _ _=>HK.out _ (K.alloc zl _)) (⟨_,_,_,_,_,_,rfl,.inl (.inl (.inr (.inl (⟨w1.heap.size,rfl,rfl,rfl,rfl,rfl,rfl,rfl,rfl,K.alloc zl _,zl,Cl.new _ _ w1⟩))))⟩)
    ·obtain ⟨qa,qk,qc,ea,ek,ec,rfl,rfl,rfl,rfl,rfl,rfl,rfl,rfl,HH⟩:=hI
     right
     refine ⟨6,[7,10,11],rfl,by kernel_rfl,by simp,fun i hi=>?_⟩
     simp only [List.mem_cons,List.not_mem_nil,or_false] at hi
     rcases hi with rfl | rfl | rfl
     ·refine ⟨_,rfl,fun K' hK=>?_⟩
      go_simp
      obtain ⟨K,lnq⟩:=HH.out
      refine hK.out _ _ (fun _ _=>HK.out _ K) (⟨_,_,_,_,_,_,rfl,.inl (.inl (.inr (.inr (.inl (⟨qa,qk,qc,ea,ek,ec,rfl,rfl,rfl,rfl,rfl,rfl,rfl,rfl,K,lnq⟩)))))⟩)
     ·refine ⟨_,rfl,fun K' hK=>?_⟩
      go_simp
      obtain ⟨K,lnq⟩:=HH.out
      have zl:=K.size
      refine hK.out _ _ (fun _ _=>HK.out _ (K.alloc zl _)) (⟨_,_,_,_,_,_,rfl,.inl (.inl (.inr (.inr (.inr (⟨w1.heap.size,qa,qk,qc,ea,ek,ec,rfl,rfl,rfl,rfl,rfl,rfl,rfl,rfl,K.alloc zl _,zl,Cl.new _ _ w1,lnq.below ((Below.refl _ _).alloc (Nat.le_refl _) _)⟩)))))⟩)
     ·refine ⟨_,rfl,fun K' hK=>?_⟩
      go_simp
      obtain ⟨K,lnq⟩:=HH.out
      have zl:=K.size
      refine hK.out _ _ (fun _ _=>HK.out _ (K.alloc zl _)) (⟨_,_,_,_,_,_,rfl,.inl (.inr (.inl (.inl (⟨w1.heap.size,qa,qk,qc,ea,ek,ec,rfl,rfl,rfl,rfl,rfl,rfl,rfl,rfl,K.alloc zl _,zl,Cl.new _ _ w1,lnq.below ((Below.refl _ _).alloc (Nat.le_refl _) _)⟩))))⟩)
    ·obtain ⟨b8,rfl,rfl,rfl,rfl,rfl,rfl,rfl,rfl,HH⟩:=hI
     right
     refine ⟨6,[6,11],rfl,by kernel_rfl,by simp,fun i hi=>?_⟩
     simp only [List.mem_cons,List.not_mem_nil,or_false] at hi
     rcases hi with rfl | rfl
     ·refine ⟨_,rfl,fun K' hK=>?_⟩
      go_simp
      obtain ⟨K,ge_b8,at_b8⟩:=HH.out
      have zl:=K.size
      refine (HDv.out w1 K).mono ?_
      rintro e w2 ⟨qa,qk,qc,ea,ek,ec,rfl,lnq,kk⟩
      refine hK.out _ _ (fun _ _=>HK.out _ (K.trans (kk.mono zl))) (⟨_,_,_,_,_,_,rfl,.inl (.inl (.inr (.inr (.inr (⟨b8,qa,qk,qc,ea,ek,ec,rfl,rfl,rfl,rfl,rfl,rfl,rfl,rfl,K.trans (kk.mono zl),ge_b8,at_b8.below kk,lnq⟩)))))⟩)
     ·refine ⟨_,rfl,fun K' hK=>?_⟩
      go_simp
      obtain ⟨K,ge_b8,at_b8⟩:=HH.out
      have zl:=K.size
      refine hK.out _ _ (fun _ _=>HK.out _ (K.alloc zl _)) (⟨_,_,_,_,_,_,rfl,.inl (.inr (.inl (.inr (.inl (⟨b8,w1.heap.size,rfl,rfl,rfl,rfl,rfl,rfl,rfl,rfl,K.alloc zl _,ge_b8,at_b8.alloc _,zl,Cl.new _ _ w1,(Nat.ne_of_lt at_b8.lt)⟩)))))⟩)
    ·obtain ⟨b9,rfl,rfl,rfl,rfl,rfl,rfl,rfl,rfl,HH⟩:=hI
     right
     refine ⟨6,[6,10],rfl,by kernel_rfl,by simp,fun i hi=>?_⟩
     simp only [List.mem_cons,List.not_mem_nil,or_false] at hi
     rcases hi with rfl | rfl
     ·refine ⟨_,rfl,fun K' hK=>?_⟩
      go_simp
      obtain ⟨K,ge_b9,at_b9⟩:=HH.out
      have zl:=K.size
      refine (HDv.out w1 K).mono ?_
      rintro e w2 ⟨qa,qk,qc,ea,ek,ec,rfl,lnq,kk⟩
      refine hK.out _ _ (fun _ _=>HK.out _ (K.trans (kk.mono zl))) (⟨_,_,_,_,_,_,rfl,.inl (.inr (.inl (.inl (⟨b9,qa,qk,qc,ea,ek,ec,rfl,rfl,rfl,rfl,rfl,rfl,rfl,rfl,K.trans (kk.mono zl),ge_b9,at_b9.below kk,lnq⟩))))⟩)
     ·refine ⟨_,rfl,fun K' hK=>?_⟩
      go_simp
      obtain ⟨K,ge_b9,at_b9⟩:=HH.out
      have zl:=K.size
      refine hK.out _ _ (fun _ _=>HK.out _ (K.alloc zl _)) (⟨_,_,_,_,_,_,rfl,.inl (.inr (.inl (.inr (.inl (⟨w1.heap.size,b9,rfl,rfl,rfl,rfl,rfl,rfl,rfl,rfl,K.alloc zl _,zl,Cl.new _ _ w1,ge_b9,at_b9.alloc _,(Nat.ne_of_gt at_b9.lt)⟩)))))⟩)
    ·obtain ⟨qa,qk,qc,ea,ek,ec,rfl,rfl,rfl,rfl,rfl,rfl,rfl,rfl,HH⟩:=hI
     right
     refine ⟨5,[8,9,10,11],rfl,by kernel_rfl,by simp,fun i hi=>?_⟩
     simp only [List.mem_cons,List.not_mem_nil,or_false] at hi
     rcases hi with rfl | rfl | rfl | rfl
     ·refine ⟨_,rfl,fun K' hK=>?_⟩
      go_simp
      obtain ⟨K,lnq⟩:=HH.out
      refine hK.out _ _ (fun _ _=>HK.out _ K) (⟨_,_,_,_,_,_,rfl,.inl (.inr (.inl (.inr (.inr (⟨qa,qk,qc,ea,ek,ec,rfl,rfl,rfl,rfl,rfl,rfl,rfl,rfl,K,lnq⟩)))))⟩)
     ·refine ⟨_,rfl,fun K' hK=>?_⟩
      go_simp
      obtain ⟨K,lnq⟩:=HH.out
      refine hK.out _ _ (fun _ _=>HK.out _ K) (⟨_,_,_,_,_,_,rfl,.inl (.inr (.inr (.inl (.inl (⟨qa,qk,qc,ea,ek,ec,rfl,rfl,rfl,rfl,rfl,rfl,rfl,rfl,K,lnq⟩)))))⟩)
     ·refine ⟨_,rfl,fun K' hK=>?_⟩
      go_simp
      obtain ⟨K,lnq⟩:=HH.out
      have zl:=K.size
      refine hK.out _ _ (fun _ _=>HK.out _ (K.alloc zl _)) (⟨_,_,_,_,_,_,rfl,.inl (.inr (.inr (.inl (.inr (⟨w1.heap.size,qa,qk,qc,ea,ek,ec,rfl,rfl,rfl,rfl,rfl,rfl,rfl,rfl,K.alloc zl _,zl,Cl.new _ _ w1,lnq.below ((Below.refl _ _).alloc (Nat.le_refl _) _)⟩)))))⟩)
     ·refine ⟨_,rfl,fun K' hK=>?_⟩
      go_simp
      obtain ⟨K,lnq⟩:=HH.out
      have zl:=K.size
      refine hK.out _ _ (fun _ _=>HK.out _ (K.alloc zl _)) (⟨_,_,_,_,_,_,rfl,.inl (.inr (.inr (.inr (.inl (⟨w1.heap.size,qa,qk,qc,ea,ek,ec,rfl,rfl,rfl,rfl,rfl,rfl,rfl,rfl,K.alloc zl _,zl,Cl.new _ _ w1,lnq.below ((Below.refl _ _).alloc (Nat.le_refl _) _)⟩)))))⟩)
    ·obtain ⟨b8,qa,qk,qc,ea,ek,ec,rfl,rfl,rfl,rfl,rfl,rfl,rfl,rfl,HH⟩:=hI
     right
     refine ⟨5,[7,11],rfl,by kernel_rfl,by simp,fun i hi=>?_⟩
     simp only [List.mem_cons,List.not_mem_nil,or_false] at hi
     rcases hi with rfl | rfl
     ·refine ⟨_,rfl,fun K' hK=>?_⟩
      go_simp
      obtain ⟨K,ge_b8,at_b8,lnq⟩:=HH.out
      refine hK.out _ _ (fun _ _=>HK.out _ K) (⟨_,_,_,_,_,_,rfl,.inl (.inr (.inr (.inl (.inr (⟨b8,qa,qk,qc,ea,ek,ec,rfl,rfl,rfl,rfl,rfl,rfl,rfl,rfl,K,ge_b8,at_b8,lnq⟩)))))⟩)
     ·refine ⟨_,rfl,fun K' hK=>?_⟩
      go_simp
      obtain ⟨K,ge_b8,at_b8,lnq⟩:=HH.out
      have zl:=K.size
      refine hK.out _ _ (fun _ _=>HK.out _ (K.alloc zl _)) (⟨_,_,_,_,_,_,rfl,.inl (.inr (.inr (.inr (.inr (⟨b8,w1.heap.size,qa,qk,qc,ea,ek,ec,rfl,rfl,rfl,rfl,rfl,rfl,rfl,rfl,K.alloc zl _,ge_b8,at_b8.alloc _,zl,Cl.new _ _ w1,(Nat.ne_of_lt at_b8.lt),lnq.below ((Below.refl _ _).alloc (Nat.le_refl _) _)⟩)))))⟩)
    ·obtain ⟨b9,qa,qk,qc,ea,ek,ec,rfl,rfl,rfl,rfl,rfl,rfl,rfl,rfl,HH⟩:=hI
     right
     refine ⟨5,[7,10],rfl,by kernel_rfl,by simp,fun i hi=>?_⟩
     simp only [List.mem_cons,List.not_mem_nil,or_false] at hi
     rcases hi with rfl | rfl
     ·refine ⟨_,rfl,fun K' hK=>?_⟩
      go_simp
      obtain ⟨K,ge_b9,at_b9,lnq⟩:=HH.out
      refine hK.out _ _ (fun _ _=>HK.out _ K) (⟨_,_,_,_,_,_,rfl,.inl (.inr (.inr (.inr (.inl (⟨b9,qa,qk,qc,ea,ek,ec,rfl,rfl,rfl,rfl,rfl,rfl,rfl,rfl,K,ge_b9,at_b9,lnq⟩)))))⟩)
     ·refine ⟨_,rfl,fun K' hK=>?_⟩
      go_simp
      obtain ⟨K,ge_b9,at_b9,lnq⟩:=HH.out
      have zl:=K.size
      refine hK.out _ _ (fun _ _=>HK.out _ (K.alloc zl _)) (⟨_,_,_,_,_,_,rfl,.inl (.inr (.inr (.inr (.inr (⟨w1.heap.size,b9,qa,qk,qc,ea,ek,ec,rfl,rfl,rfl,rfl,rfl,rfl,rfl,rfl,K.alloc zl _,zl,Cl.new _ _ w1,ge_b9,at_b9.alloc _,(Nat.ne_of_gt at_b9.lt),lnq.below ((Below.refl _ _).alloc (Nat.le_refl _) _)⟩)))))⟩)
    ·obtain ⟨b8,b9,rfl,rfl,rfl,rfl,rfl,rfl,rfl,rfl,HH⟩:=hI
     right
     refine ⟨5,[6],rfl,by kernel_rfl,by simp,fun i hi=>?_⟩
     simp only [List.mem_cons,List.not_mem_nil,or_false] at hi
     subst hi
     refine ⟨_,rfl,fun K' hK=>?_⟩
     go_simp
     obtain ⟨K,ge_b8,at_b8,ge_b9,at_b9,ne_b8_b9⟩:=HH.out
     have zl:=K.size
     refine (HDv.out w1 K).mono ?_
     rintro e w2 ⟨qa,qk,qc,ea,ek,ec,rfl,lnq,kk⟩
     refine hK.out _ _ (fun _ _=>HK.out _ (K.trans (kk.mono zl))) (⟨_,_,_,_,_,_,rfl,.inl (.inr (.inr (.inr (.inr (⟨b8,b9,qa,qk,qc,ea,ek,ec,rfl,rfl,rfl,rfl,rfl,rfl,rfl,rfl,K.trans (kk.mono zl),ge_b8,at_b8.below kk,ge_b9,at_b9.below kk,ne_b8_b9,lnq⟩)))))⟩)
    ·obtain ⟨qa,qk,qc,ea,ek,ec,rfl,rfl,rfl,rfl,rfl,rfl,rfl,rfl,HH⟩:=hI
     right
     refine ⟨4,[9,10,11],rfl,by kernel_rfl,by simp,fun i hi=>?_⟩
     simp only [List.mem_cons,List.not_mem_nil,or_false] at hi
     rcases hi with rfl | rfl | rfl
     ·refine ⟨_,rfl,fun K' hK=>?_⟩
      go_simp
      obtain ⟨K,lnq⟩:=HH.out
      refine hK.out _ _ (fun _ _=>HK.out _ K) (⟨_,_,_,_,_,_,rfl,.inr (.inl (.inl (.inl (⟨qa,qk,qc,ea,ek,ec,rfl,rfl,rfl,rfl,rfl,rfl,rfl,rfl,K,lnq⟩))))⟩)
     ·refine ⟨_,rfl,fun K' hK=>?_⟩
      go_simp
      obtain ⟨K,lnq⟩:=HH.out
      have zl:=K.size
      refine hK.out _ _ (fun _ _=>HK.out _ (K.alloc zl _)) (⟨_,_,_,_,_,_,rfl,.inr (.inl (.inl (.inr (.inl (⟨w1.heap.size,qa,qk,qc,ea,ek,ec,rfl,rfl,rfl,rfl,rfl,rfl,rfl,rfl,K.alloc zl _,zl,Cl.new _ _ w1,lnq.below ((Below.refl _ _).alloc (Nat.le_refl _) _)⟩)))))⟩)
     ·refine ⟨_,rfl,fun K' hK=>?_⟩
      go_simp
      obtain ⟨K,lnq⟩:=HH.out
      have zl:=K.size
      refine hK.out _ _ (fun _ _=>HK.out _ (K.alloc zl _)) (⟨_,_,_,_,_,_,rfl,.inr (.inl (.inl (.inr (.inr (⟨w1.heap.size,qa,qk,qc,ea,ek,ec,rfl,rfl,rfl,rfl,rfl,rfl,rfl,rfl,K.alloc zl _,zl,Cl.new _ _ w1,lnq.below ((Below.refl _ _).alloc (Nat.le_refl _) _)⟩)))))⟩)
    ·obtain ⟨qa,qk,qc,ea,ek,ec,rfl,rfl,rfl,rfl,rfl,rfl,rfl,rfl,HH⟩:=hI
     right
     refine ⟨4,[8,10,11],rfl,by kernel_rfl,by simp,fun i hi=>?_⟩
     simp only [List.mem_cons,List.not_mem_nil,or_false] at hi
     rcases hi with rfl | rfl | rfl
     ·refine ⟨_,rfl,fun K' hK=>?_⟩
      go_simp
      obtain ⟨K,lnq⟩:=HH.out
      refine hK.out _ _ (fun _ _=>HK.out _ K) (⟨_,_,_,_,_,_,rfl,.inr (.inl (.inl (.inl (⟨qa,qk,qc,ea,ek,ec,rfl,rfl,rfl,rfl,rfl,rfl,rfl,rfl,K,lnq⟩))))⟩)
     ·refine ⟨_,rfl,fun K' hK=>?_⟩
      go_simp
      obtain ⟨K,lnq⟩:=HH.out
      have zl:=K.size
      refine hK.out _ _ (fun _ _=>HK.out _ (K.alloc zl _)) (⟨_,_,_,_,_,_,rfl,.inr (.inl (.inr (.inl (.inl (⟨w1.heap.size,qa,qk,qc,ea,ek,ec,rfl,rfl,rfl,rfl,rfl,rfl,rfl,rfl,K.alloc zl _,zl,Cl.new _ _ w1,lnq.below ((Below.refl _ _).alloc (Nat.le_refl _) _)⟩)))))⟩)
     ·refine ⟨_,rfl,fun K' hK=>?_⟩
      go_simp
      obtain ⟨K,lnq⟩:=HH.out
      have zl:=K.size
      refine hK.out _ _ (fun _ _=>HK.out _ (K.alloc zl _)) (⟨_,_,_,_,_,_,rfl,.inr (.inl (.inr (.inl (.inr (⟨w1.heap.size,qa,qk,qc,ea,ek,ec,rfl,rfl,rfl,rfl,rfl,rfl,rfl,rfl,K.alloc zl _,zl,Cl.new _ _ w1,lnq.below ((Below.refl _ _).alloc (Nat.le_refl _) _)⟩)))))⟩)
    ·obtain ⟨b8,qa,qk,qc,ea,ek,ec,rfl,rfl,rfl,rfl,rfl,rfl,rfl,rfl,HH⟩:=hI
     right
     refine ⟨4,[8,9,11],rfl,by kernel_rfl,by simp,fun i hi=>?_⟩
     simp only [List.mem_cons,List.not_mem_nil,or_false] at hi
     rcases hi with rfl | rfl | rfl
     ·refine ⟨_,rfl,fun K' hK=>?_⟩
      go_simp
      obtain ⟨K,ge_b8,at_b8,lnq⟩:=HH.out
      refine hK.out _ _ (fun _ _=>HK.out _ K) (⟨_,_,_,_,_,_,rfl,.inr (.inl (.inl (.inr (.inl (⟨b8,qa,qk,qc,ea,ek,ec,rfl,rfl,rfl,rfl,rfl,rfl,rfl,rfl,K,ge_b8,at_b8,lnq⟩)))))⟩)
     ·refine ⟨_,rfl,fun K' hK=>?_⟩
      go_simp
      obtain ⟨K,ge_b8,at_b8,lnq⟩:=HH.out
      refine hK.out _ _ (fun _ _=>HK.out _ K) (⟨_,_,_,_,_,_,rfl,.inr (.inl (.inr (.inl (.inl (⟨b8,qa,qk,qc,ea,ek,ec,rfl,rfl,rfl,rfl,rfl,rfl,rfl,rfl,K,ge_b8,at_b8,lnq⟩)))))⟩)
     ·refine ⟨_,rfl,fun K' hK=>?_⟩
      go_simp
      obtain ⟨K,ge_b8,at_b8,lnq⟩:=HH.out
      have zl:=K.size
      refine hK.out _ _ (fun _ _=>HK.out _ (K.alloc zl _)) (⟨_,_,_,_,_,_,rfl,.inr (.inl (.inr (.inr (.inl (⟨b8,w1.heap.size,qa,qk,qc,ea,ek,ec,rfl,rfl,rfl,rfl,rfl,rfl,rfl,rfl,K.alloc zl _,ge_b8,at_b8.alloc _,zl,Cl.new _ _ w1,(Nat.ne_of_lt at_b8.lt),lnq.below ((Below.refl _ _).alloc (Nat.le_refl _) _)⟩)))))⟩)
    ·obtain ⟨b9,qa,qk,qc,ea,ek,ec,rfl,rfl,rfl,rfl,rfl,rfl,rfl,rfl,HH⟩:=hI
     right
     refine ⟨4,[8,9,10],rfl,by kernel_rfl,by simp,fun i hi=>?_⟩
     simp only [List.mem_cons,List.not_mem_nil,or_false] at hi
     rcases hi with rfl | rfl | rfl
     ·refine ⟨_,rfl,fun K' hK=>?_⟩
      go_simp
      obtain ⟨K,ge_b9,at_b9,lnq⟩:=HH.out
      refine hK.out _ _ (fun _ _=>HK.out _ K) (⟨_,_,_,_,_,_,rfl,.inr (.inl (.inl (.inr (.inr (⟨b9,qa,qk,qc,ea,ek,ec,rfl,rfl,rfl,rfl,rfl,rfl,rfl,rfl,K,ge_b9,at_b9,lnq⟩)))))⟩)
     ·refine ⟨_,rfl,fun K' hK=>?_⟩
      go_simp
      obtain ⟨K,ge_b9,at_b9,lnq⟩:=HH.out
      refine hK.out _ _ (fun _ _=>HK.out _ K) (⟨_,_,_,_,_,_,rfl,.inr (.inl (.inr (.inl (.inr (⟨b9,qa,qk,qc,ea,ek,ec,rfl,rfl,rfl,rfl,rfl,rfl,rfl,rfl,K,ge_b9,at_b9,lnq⟩)))))⟩)
     ·refine ⟨_,rfl,fun K' hK=>?_⟩
      go_simp
      obtain ⟨K,ge_b9,at_b9,lnq⟩:=HH.out
      have zl:=K.size
      refine hK.out _ _ (fun _ _=>HK.out _ (K.alloc zl _)) (⟨_,_,_,_,_,_,rfl,.inr (.inl (.inr (.inr (.inl (⟨w1.heap.size,b9,qa,qk,qc,ea,ek,ec,rfl,rfl,rfl,rfl,rfl,rfl,rfl,rfl,K.alloc zl _,zl,Cl.new _ _ w1,ge_b9,at_b9.alloc _,(Nat.ne_of_gt at_b9.lt),lnq.below ((Below.refl _ _).alloc (Nat.le_refl _) _)⟩)))))⟩)
    ·obtain ⟨b8,b9,qa,qk,qc,ea,ek,ec,rfl,rfl,rfl,rfl,rfl,rfl,rfl,rfl,HH⟩:=hI
     right
     refine ⟨4,[7],rfl,by kernel_rfl,by simp,fun i hi=>?_⟩
     simp only [List.mem_cons,List.not_mem_nil,or_false] at hi
     subst hi
     refine ⟨_,rfl,fun K' hK=>?_⟩
     go_simp
     obtain ⟨K,ge_b8,at_b8,ge_b9,at_b9,ne_b8_b9,lnq⟩:=HH.out
     refine hK.out _ _ (fun _ _=>HK.out _ K) (⟨_,_,_,_,_,_,rfl,.inr (.inl (.inr (.inr (.inl (⟨b8,b9,qa,qk,qc,ea,ek,ec,rfl,rfl,rfl,rfl,rfl,rfl,rfl,rfl,K,ge_b8,at_b8,ge_b9,at_b9,ne_b8_b9,lnq⟩)))))⟩)
    ·obtain ⟨qa,qk,qc,ea,ek,ec,rfl,rfl,rfl,rfl,rfl,rfl,rfl,rfl,HH⟩:=hI
     right
     refine ⟨3,[10,11],rfl,by kernel_rfl,by simp,fun i hi=>?_⟩
     simp only [List.mem_cons,List.not_mem_nil,or_false] at hi
     rcases hi with rfl | rfl
     ·refine ⟨_,rfl,fun K' hK=>?_⟩
      go_simp
      obtain ⟨K,lnq⟩:=HH.out
      have zl:=K.size
      refine hK.out _ _ (fun _ _=>HK.out _ (K.alloc zl _)) (⟨_,_,_,_,_,_,rfl,.inr (.inl (.inr (.inr (.inr (⟨w1.heap.size,qa,qk,qc,ea,ek,ec,rfl,rfl,rfl,rfl,rfl,rfl,rfl,rfl,K.alloc zl _,zl,Cl.new _ _ w1,lnq.below ((Below.refl _ _).alloc (Nat.le_refl _) _)⟩)))))⟩)
     ·refine ⟨_,rfl,fun K' hK=>?_⟩
      go_simp
      obtain ⟨K,lnq⟩:=HH.out
      have zl:=K.size
      refine hK.out _ _ (fun _ _=>HK.out _ (K.alloc zl _)) (⟨_,_,_,_,_,_,rfl,.inr (.inr (.inl (.inl (⟨w1.heap.size,qa,qk,qc,ea,ek,ec,rfl,rfl,rfl,rfl,rfl,rfl,rfl,rfl,K.alloc zl _,zl,Cl.new _ _ w1,lnq.below ((Below.refl _ _).alloc (Nat.le_refl _) _)⟩))))⟩)
    ·obtain ⟨b8,qa,qk,qc,ea,ek,ec,rfl,rfl,rfl,rfl,rfl,rfl,rfl,rfl,HH⟩:=hI
     right
     refine ⟨3,[9,11],rfl,by kernel_rfl,by simp,fun i hi=>?_⟩
     simp only [List.mem_cons,List.not_mem_nil,or_false] at hi
     rcases hi with rfl | rfl
     ·refine ⟨_,rfl,fun K' hK=>?_⟩
      go_simp
      obtain ⟨K,ge_b8,at_b8,lnq⟩:=HH.out
      refine hK.out _ _ (fun _ _=>HK.out _ K) (⟨_,_,_,_,_,_,rfl,.inr (.inl (.inr (.inr (.inr (⟨b8,qa,qk,qc,ea,ek,ec,rfl,rfl,rfl,rfl,rfl,rfl,rfl,rfl,K,ge_b8,at_b8,lnq⟩)))))⟩)
     ·refine ⟨_,rfl,fun K' hK=>?_⟩
      go_simp
      obtain ⟨K,ge_b8,at_b8,lnq⟩:=HH.out
      have zl:=K.size
      refine hK.out _ _ (fun _ _=>HK.out _ (K.alloc zl _)) (⟨_,_,_,_,_,_,rfl,.inr (.inr (.inl (.inr (.inl (⟨b8,w1.heap.size,qa,qk,qc,ea,ek,ec,rfl,rfl,rfl,rfl,rfl,rfl,rfl,rfl,K.alloc zl _,ge_b8,at_b8.alloc _,zl,Cl.new _ _ w1,(Nat.ne_of_lt at_b8.lt),lnq.below ((Below.refl _ _).alloc (Nat.le_refl _) _)⟩)))))⟩)
    ·obtain ⟨b9,qa,qk,qc,ea,ek,ec,rfl,rfl,rfl,rfl,rfl,rfl,rfl,rfl,HH⟩:=hI
     right
     refine ⟨3,[9,10],rfl,by kernel_rfl,by simp,fun i hi=>?_⟩
     simp only [List.mem_cons,List.not_mem_nil,or_false] at hi
     rcases hi with rfl | rfl
     ·refine ⟨_,rfl,fun K' hK=>?_⟩
      go_simp
      obtain ⟨K,ge_b9,at_b9,lnq⟩:=HH.out
      refine hK.out _ _ (fun _ _=>HK.out _ K) (⟨_,_,_,_,_,_,rfl,.inr (.inr (.inl (.inl (⟨b9,qa,qk,qc,ea,ek,ec,rfl,rfl,rfl,rfl,rfl,rfl,rfl,rfl,K,ge_b9,at_b9,lnq⟩))))⟩)
     ·refine ⟨_,rfl,fun K' hK=>?_⟩
      go_simp
      obtain ⟨K,ge_b9,at_b9,lnq⟩:=HH.out
      have zl:=K.size
      refine hK.out _ _ (fun _ _=>HK.out _ (K.alloc zl _)) (⟨_,_,_,_,_,_,rfl,.inr (.inr (.inl (.inr (.inl (⟨w1.heap.size,b9,qa,qk,qc,ea,ek,ec,rfl,rfl,rfl,rfl,rfl,rfl,rfl,rfl,K.alloc zl _,zl,Cl.new _ _ w1,ge_b9,at_b9.alloc _,(Nat.ne_of_gt at_b9.lt),lnq.below ((Below.refl _ _).alloc (Nat.le_refl _) _)⟩)))))⟩)
    ·obtain ⟨b8,qa,qk,qc,ea,ek,ec,rfl,rfl,rfl,rfl,rfl,rfl,rfl,rfl,HH⟩:=hI
     right
     refine ⟨3,[8,11],rfl,by kernel_rfl,by simp,fun i hi=>?_⟩
     simp only [List.mem_cons,List.not_mem_nil,or_false] at hi
     rcases hi with rfl | rfl
     ·refine ⟨_,rfl,fun K' hK=>?_⟩
      go_simp
      obtain ⟨K,ge_b8,at_b8,lnq⟩:=HH.out
      refine hK.out _ _ (fun _ _=>HK.out _ K) (⟨_,_,_,_,_,_,rfl,.inr (.inl (.inr (.inr (.inr (⟨b8,qa,qk,qc,ea,ek,ec,rfl,rfl,rfl,rfl,rfl,rfl,rfl,rfl,K,ge_b8,at_b8,lnq⟩)))))⟩)
     ·refine ⟨_,rfl,fun K' hK=>?_⟩
      go_simp
      obtain ⟨K,ge_b8,at_b8,lnq⟩:=HH.out
      have zl:=K.size
      refine hK.out _ _ (fun _ _=>HK.out _ (K.alloc zl _)) (⟨_,_,_,_,_,_,rfl,.inr (.inr (.inl (.inr (.inr (⟨b8,w1.heap.size,qa,qk,qc,ea,ek,ec,rfl,rfl,rfl,rfl,rfl,rfl,rfl,rfl,K.alloc zl _,ge_b8,at_b8.alloc _,zl,Cl.new _ _ w1,(Nat.ne_of_lt at_b8.lt),lnq.below ((Below.refl _ _).alloc (Nat.le_refl _) _)⟩)))))⟩)
    ·obtain ⟨b9,qa,qk,qc,ea,ek,ec,rfl,rfl,rfl,rfl,rfl,rfl,rfl,rfl,HH⟩:=hI
     right
     refine ⟨3,[8,10],rfl,by kernel_rfl,by simp,fun i hi=>?_⟩
     simp only [List.mem_cons,List.not_mem_nil,or_false] at hi
     rcases hi with rfl | rfl
     ·refine ⟨_,rfl,fun K' hK=>?_⟩
      go_simp
      obtain ⟨K,ge_b9,at_b9,lnq⟩:=HH.out
      refine hK.out _ _ (fun _ _=>HK.out _ K) (⟨_,_,_,_,_,_,rfl,.inr (.inr (.inl (.inl (⟨b9,qa,qk,qc,ea,ek,ec,rfl,rfl,rfl,rfl,rfl,rfl,rfl,rfl,K,ge_b9,at_b9,lnq⟩))))⟩)
     ·refine ⟨_,rfl,fun K' hK=>?_⟩
      go_simp
      obtain ⟨K,ge_b9,at_b9,lnq⟩:=HH.out
      have zl:=K.size
      refine hK.out _ _ (fun _ _=>HK.out _ (K.alloc zl _)) (⟨_,_,_,_,_,_,rfl,.inr (.inr (.inl (.inr (.inr (⟨w1.heap.size,b9,qa,qk,qc,ea,ek,ec,rfl,rfl,rfl,rfl,rfl,rfl,rfl,rfl,K.alloc zl _,zl,Cl.new _ _ w1,ge_b9,at_b9.alloc _,(Nat.ne_of_gt at_b9.lt),lnq.below ((Below.refl _ _).alloc (Nat.le_refl _) _)⟩)))))⟩)
    ·obtain ⟨b8,b9,qa,qk,qc,ea,ek,ec,rfl,rfl,rfl,rfl,rfl,rfl,rfl,rfl,HH⟩:=hI
     right
     refine ⟨3,[8,9],rfl,by kernel_rfl,by simp,fun i hi=>?_⟩
     simp only [List.mem_cons,List.not_mem_nil,or_false] at hi
     rcases hi with rfl | rfl
     ·refine ⟨_,rfl,fun K' hK=>?_⟩
      go_simp
      obtain ⟨K,ge_b8,at_b8,ge_b9,at_b9,ne_b8_b9,lnq⟩:=HH.out
      refine hK.out _ _ (fun _ _=>HK.out _ K) (⟨_,_,_,_,_,_,rfl,.inr (.inr (.inl (.inr (.inl (⟨b8,b9,qa,qk,qc,ea,ek,ec,rfl,rfl,rfl,rfl,rfl,rfl,rfl,rfl,K,ge_b8,at_b8,ge_b9,at_b9,ne_b8_b9,lnq⟩)))))⟩)
     ·refine ⟨_,rfl,fun K' hK=>?_⟩
      go_simp
      obtain ⟨K,ge_b8,at_b8,ge_b9,at_b9,ne_b8_b9,lnq⟩:=HH.out
      refine hK.out _ _ (fun _ _=>HK.out _ K) (⟨_,_,_,_,_,_,rfl,.inr (.inr (.inl (.inr (.inr (⟨b8,b9,qa,qk,qc,ea,ek,ec,rfl,rfl,rfl,rfl,rfl,rfl,rfl,rfl,K,ge_b8,at_b8,ge_b9,at_b9,ne_b8_b9,lnq⟩)))))⟩)
    ·obtain ⟨b8,qa,qk,qc,ea,ek,ec,rfl,rfl,rfl,rfl,rfl,rfl,rfl,rfl,HH⟩:=hI
     right
     refine ⟨2,[11],rfl,by kernel_rfl,by simp,fun i hi=>?_⟩
     simp only [List.mem_cons,List.not_mem_nil,or_false] at hi
     subst hi
     refine ⟨_,rfl,fun K' hK=>?_⟩
     go_simp
     obtain ⟨K,ge_b8,at_b8,lnq⟩:=HH.out
     have zl:=K.size
     refine hK.out _ _ (fun _ _=>HK.out _ (K.alloc zl _)) (⟨_,_,_,_,_,_,rfl,.inr (.inr (.inr (.inl (.inl (⟨b8,w1.heap.size,qa,qk,qc,ea,ek,ec,rfl,rfl,rfl,rfl,rfl,rfl,rfl,rfl,K.alloc zl _,ge_b8,at_b8.alloc _,zl,Cl.new _ _ w1,(Nat.ne_of_lt at_b8.lt),lnq.below ((Below.refl _ _).alloc (Nat.le_refl _) _)⟩)))))⟩)
    ·obtain ⟨b9,qa,qk,qc,ea,ek,ec,rfl,rfl,rfl,rfl,rfl,rfl,rfl,rfl,HH⟩:=hI
     right
     refine ⟨2,[10],rfl,by kernel_rfl,by simp,fun i hi=>?_⟩
     simp only [List.mem_cons,List.not_mem_nil,or_false] at hi
     subst hi
     refine ⟨_,rfl,fun K' hK=>?_⟩
     go_simp
     obtain ⟨K,ge_b9,at_b9,lnq⟩:=HH.out
     have zl:=K.size
     refine hK.out _ _ (fun _ _=>HK.out _ (K.alloc zl _)) (⟨_,_,_,_,_,_,rfl,.inr (.inr (.inr (.inl (.inl (⟨w1.heap.size,b9,qa,qk,qc,ea,ek,ec,rfl,rfl,rfl,rfl,rfl,rfl,rfl,rfl,K.alloc zl _,zl,Cl.new _ _ w1,ge_b9,at_b9.alloc _,(Nat.ne_of_gt at_b9.lt),lnq.below ((Below.refl _ _).alloc (Nat.le_refl _) _)⟩)))))⟩)
    ·obtain ⟨b8,b9,qa,qk,qc,ea,ek,ec,rfl,rfl,rfl,rfl,rfl,rfl,rfl,rfl,HH⟩:=hI
     right
     refine ⟨2,[9,12],rfl,by kernel_rfl,by simp,fun i hi=>?_⟩
     simp only [List.mem_cons,List.not_mem_nil,or_false] at hi
     rcases hi with rfl | rfl
     ·refine ⟨_,rfl,fun K' hK=>?_⟩
      go_simp
      obtain ⟨K,ge_b8,at_b8,ge_b9,at_b9,ne_b8_b9,lnq⟩:=HH.out
      refine hK.out _ _ (fun _ _=>HK.out _ K) (⟨_,_,_,_,_,_,rfl,.inr (.inr (.inr (.inl (.inl (⟨b8,b9,qa,qk,qc,ea,ek,ec,rfl,rfl,rfl,rfl,rfl,rfl,rfl,rfl,K,ge_b8,at_b8,ge_b9,at_b9,ne_b8_b9,lnq⟩)))))⟩)
     ·refine ⟨_,rfl,fun K' hK=>?_⟩
      obtain ⟨K,ge_b8,at_b8,ge_b9,at_b9,ne_b8_b9,lnq⟩:=HH.out
      have qc0:=at_b8.cell 0
      have qf0:=at_b8.frozen 0
      have qc1:=at_b8.cell 1
      have qf1:=at_b8.frozen 1
      simp at qc0 qc1
      have Z_K:Hid _:=K
      have Z_ge_b8:Hid _:=ge_b8
      have Z_at_b8:Hid _:=at_b8
      have Z_ge_b9:Hid _:=ge_b9
      have Z_at_b9:Hid _:=at_b9
      have Z_ne_b8_b9:Hid _:=ne_b8_b9
      have Z_lnq:Hid _:=lnq
      clear lnq ne_b8_b9 at_b9 ge_b9 at_b8 ge_b8 K
      go_simp
      have K:=Z_K.out
      have ge_b8:=Z_ge_b8.out
      have at_b8:=Z_at_b8.out
      have ge_b9:=Z_ge_b9.out
      have at_b9:=Z_at_b9.out
      have ne_b8_b9:=Z_ne_b8_b9.out
      have lnq:=Z_lnq.out
      refine hK.out _ _ (fun _ _=>HK.out _ (Below.setCell (Below.setCell K (by simpa using ge_b8) _) (by simpa using ge_b8) _)) (⟨_,_,_,_,_,_,rfl,.inr (.inr (.inr (.inl (.inr (⟨b8,b9,qa,qk,qc,ea,ek,ec,rfl,rfl,rfl,rfl,rfl,rfl,rfl,rfl,Below.setCell (Below.setCell K (by simpa using ge_b8) _) (by simpa using ge_b8) _,ge_b8,Cl.two at_b8 _ _,ge_b9,Cl.other (Cl.other at_b9 (by simpa using (Ne.symm ne_b8_b9)) _) (by simpa using (Ne.symm ne_b8_b9)) _,ne_b8_b9,LN.setTwo lnq at_b8⟩)))))⟩)
    ·obtain ⟨b8,b9,qa,qk,qc,ea,ek,ec,rfl,rfl,rfl,rfl,rfl,rfl,rfl,rfl,HH⟩:=hI
     right
     refine ⟨2,[8],rfl,by kernel_rfl,by simp,fun i hi=>?_⟩
     simp only [List.mem_cons,List.not_mem_nil,or_false] at hi
     subst hi
     refine ⟨_,rfl,fun K' hK=>?_⟩
     go_simp
     obtain ⟨K,ge_b8,at_b8,ge_b9,at_b9,ne_b8_b9,lnq⟩:=HH.out
     refine hK.out _ _ (fun _ _=>HK.out _ K) (⟨_,_,_,_,_,_,rfl,.inr (.inr (.inr (.inl (.inl (⟨b8,b9,qa,qk,qc,ea,ek,ec,rfl,rfl,rfl,rfl,rfl,rfl,rfl,rfl,K,ge_b8,at_b8,ge_b9,at_b9,ne_b8_b9,lnq⟩)))))⟩)
    ·obtain ⟨b8,b9,qa,qk,qc,ea,ek,ec,rfl,rfl,rfl,rfl,rfl,rfl,rfl,rfl,HH⟩:=hI
     right
     refine ⟨1,[12],rfl,by kernel_rfl,by simp,fun i hi=>?_⟩
     simp only [List.mem_cons,List.not_mem_nil,or_false] at hi
     subst hi
     refine ⟨_,rfl,fun K' hK=>?_⟩
     obtain ⟨K,ge_b8,at_b8,ge_b9,at_b9,ne_b8_b9,lnq⟩:=HH.out
     have qc0:=at_b8.cell 0
     have qf0:=at_b8.frozen 0
     have qc1:=at_b8.cell 1
     have qf1:=at_b8.frozen 1
     simp at qc0 qc1
     have Z_K:Hid _:=K
     have Z_ge_b8:Hid _:=ge_b8
     have Z_at_b8:Hid _:=at_b8
     have Z_ge_b9:Hid _:=ge_b9
     have Z_at_b9:Hid _:=at_b9
     have Z_ne_b8_b9:Hid _:=ne_b8_b9
     have Z_lnq:Hid _:=lnq
     clear lnq ne_b8_b9 at_b9 ge_b9 at_b8 ge_b8 K
     go_simp
     have K:=Z_K.out
     have ge_b8:=Z_ge_b8.out
     have at_b8:=Z_at_b8.out
     have ge_b9:=Z_ge_b9.out
     have at_b9:=Z_at_b9.out
     have ne_b8_b9:=Z_ne_b8_b9.out
     have lnq:=Z_lnq.out
     refine hK.out _ _ (fun _ _=>HK.out _ (Below.setCell (Below.setCell K (by simpa using ge_b8) _) (by simpa using ge_b8) _)) (⟨_,_,_,_,_,_,rfl,.inr (.inr (.inr (.inr (.inl (⟨b8,b9,qa,qk,qc,ea,ek,ec,rfl,rfl,rfl,rfl,rfl,rfl,rfl,rfl,Below.setCell (Below.setCell K (by simpa using ge_b8) _) (by simpa using ge_b8) _,ge_b8,Cl.two at_b8 _ _,ge_b9,Cl.other (Cl.other at_b9 (by simpa using (Ne.symm ne_b8_b9)) _) (by simpa using (Ne.symm ne_b8_b9)) _,ne_b8_b9,LN.setTwo lnq at_b8⟩)))))⟩)
    ·obtain ⟨b8,b9,qa,qk,qc,ea,ek,ec,rfl,rfl,rfl,rfl,rfl,rfl,rfl,rfl,HH⟩:=hI
     right
     refine ⟨1,[9],rfl,by kernel_rfl,by simp,fun i hi=>?_⟩
     simp only [List.mem_cons,List.not_mem_nil,or_false] at hi
     subst hi
     refine ⟨_,rfl,fun K' hK=>?_⟩
     go_simp
     obtain ⟨K,ge_b8,at_b8,ge_b9,at_b9,ne_b8_b9,lnq⟩:=HH.out
     refine hK.out _ _ (fun _ _=>HK.out _ K) (⟨_,_,_,_,_,_,rfl,.inr (.inr (.inr (.inr (.inl (⟨b8,b9,qa,qk,qc,ea,ek,ec,rfl,rfl,rfl,rfl,rfl,rfl,rfl,rfl,K,ge_b8,at_b8,ge_b9,at_b9,ne_b8_b9,lnq⟩)))))⟩)
    ·obtain ⟨b8,b9,qa,qk,qc,ea,ek,ec,rfl,rfl,rfl,rfl,rfl,rfl,rfl,rfl,HH⟩:=hI
     right
     refine ⟨0,[13],rfl,by kernel_rfl,by simp,fun i hi=>?_⟩
     simp only [List.mem_cons,List.not_mem_nil,or_false] at hi
     subst hi
     refine ⟨_,rfl,fun K' hK=>?_⟩
     obtain ⟨K,ge_b8,at_b8,ge_b9,at_b9,ne_b8_b9,lnq⟩:=HH.out
     have qc0:=at_b9.cell 0
     have qf0:=at_b9.frozen 0
     have qc1:=at_b9.cell 1
     have qf1:=at_b9.frozen 1
     simp at qc0 qc1
     have Z_K:Hid _:=K
     have Z_ge_b8:Hid _:=ge_b8
     have Z_at_b8:Hid _:=at_b8
     have Z_ge_b9:Hid _:=ge_b9
     have Z_at_b9:Hid _:=at_b9
     have Z_ne_b8_b9:Hid _:=ne_b8_b9
     have Z_lnq:Hid _:=lnq
     clear lnq ne_b8_b9 at_b9 ge_b9 at_b8 ge_b8 K
     go_simp
     have K:=Z_K.out
     have ge_b8:=Z_ge_b8.out
     have at_b8:=Z_at_b8.out
     have ge_b9:=Z_ge_b9.out
     have at_b9:=Z_at_b9.out
     have ne_b8_b9:=Z_ne_b8_b9.out
     have lnq:=Z_lnq.out
     refine hK.out _ _ (fun _ h=>absurd rfl h) (⟨_,_,_,_,_,_,rfl,.inr (.inr (.inr (.inr (.inr (⟨b8,b9,qa,qk,qc,ea,ek,ec,rfl,rfl,rfl,rfl,rfl,rfl,rfl,rfl,Below.setCell (Below.setCell K (by simpa using ge_b9) _) (by simpa using ge_b9) _,ge_b8,Cl.other (Cl.other at_b8 (by simpa using ne_b8_b9) _) (by simpa using ne_b8_b9) _,ge_b9,Cl.two at_b9 _ _,ne_b8_b9,LN.setTwo lnq at_b9⟩)))))⟩)
    ·obtain ⟨b8,b9,qa,qk,qc,ea,ek,ec,rfl,rfl,rfl,rfl,rfl,rfl,rfl,rfl,HH⟩:=hI
     left
     refine ⟨by kernel_rfl,?_⟩
     clear hHeld0
     dsimp only
     obtain ⟨K,ge_b8,at_b8,ge_b9,at_b9,ne_b8_b9,lnq⟩:=HH.out
     have HK5:Hid (Below wr.heap.size wr w1):=K
     have HLq:Hid (LN w1 (.slice qa qk qc) (BN.bz NN i).natAbs):=lnq
     have q1:=at_b8.cell 0
     have q2:=at_b8.cell 1
     simp at q1 q2
     obtain ⟨zf,hzf⟩:∃ zf,zf = decide (BN.bz NN i < 0):=⟨_,rfl⟩
     have HZf:Hid (zf = decide (BN.bz NN i < 0)):=hzf
     have HNg:Hid (Calls Tryz.prog 85 #[.agg #[.slice qa qk qc,.bool zq]] w1 fun e w'=>e = .returned (.agg #[.slice qa qk qc,.bool zf])∧Below w1.heap.size w1 w'):=by
      have h:=Negative_any (.slice qa qk qc) (-BN.bz NN i) w1 (by rw [Int.natAbs_neg]; exact lnq)
      rw [← HZq.out,Int.neg_neg,← hzf] at h
      exact h
     clear hzf K ge_b8 at_b8 ge_b9 at_b9 ne_b8_b9 lnq HH
     go_wp2_with fail
     refine HNg.out.mono ?_
     rintro e w4 ⟨rfl,k4⟩
     have HK6:Hid (Below wr.heap.size wr w4):=HK5.out.trans (k4.mono HK5.out.size)
     have HV:Hid (LN w4 (.slice qa qk qc) (BN.bz NN i).natAbs):=HLq.out.below k4
     have HC4:Hid (Cl w.heap.size [.slice none 0 0,.bool false] 66 w4):=HL3.out.2.2.2.2.1.below HK6.out
     have u1:=HC4.out.cell 0
     have u2:=HC4.out.cell 1
     have u3:=HC4.out.frozen 0
     have u4:=HC4.out.frozen 1
     simp at u1 u2
     clear k4 q1 q2 HNg
     go_wp2
     have C3:=HC4.out.two (.slice qa qk qc) (.bool zf)
     have e1:=C3.cell 0
     have e2:=C3.cell 1
     simp at e1 e2
     refine bodyPost_ret (v:=.agg #[.slice qa qk qc,.bool zf]) (by simp [results,Tryz.results74,go_sem,e1,e2]) rfl ⟨_,by rw [HZf.out],?_,?_⟩
     ·exact HV.out.setTwo HC4.out
     ·exact ((HL3.out.2.2.2.2.2.trans (HK6.out.mono HL3.out.2.2.2.2.2.size)).setCell (by simp) _).setCell (by simp) _
end Go.Proofs.YtnkjadpmigpneaaGreatDoor
