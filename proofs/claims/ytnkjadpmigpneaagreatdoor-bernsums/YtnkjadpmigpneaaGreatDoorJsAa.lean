import Derived.Test.YtnkjadpmigpneaaGreatDoorJsR
import Derived.Test.YtnkjadpmigpneaaGreatDoorBrF
import Derived.Maps.AppendAt
set_option linter.unusedSimpArgs false
set_option linter.unusedVariables false
namespace Go.Proofs.YtnkjadpmigpneaaGreatDoor
section
set_option maxRecDepth 100000
open Go.RowKit LgM
theorem num_text (n:Nat) (hn:n≤200):ftx (BN.bz n n) (BN.prm (n + 1)) = vtx (bnv n):=by
 rw [ftx_vtx _ _ (BN.prm_pos _)]
 congr 1
 unfold bnv
 have h:=BN.bz_mul (n:=n) (j:=n) (Nat.le_refl _) hn
 exact (rv_eq (by have:=BN.prm_pos (n + 1); omega) dN_pos).2 h
set_option maxHeartbeats 4000000 in
theorem Number_ok (nN:Nat) (w:World) (hn:nN≤200) (hT:Tb w) (hQ:Tq w) :
  Calls Tryz.prog 7 #[.int .i64 (nN:Int)] w fun e w'=>e = .returned (.tuple #[.string ⟨(vtx (bnv nN)).toArray⟩,.agg #[.int .i64 0,.int .i64 0]])∧Below w.heap.size w w':=by
 have HB:Hid (∀ W:World,Calls Tryz.prog 35 #[.int .i64 0,.int .i64 200,.slice (some ⟨W.heap.size,0,none⟩) 1 1] (W.alloc (.cells #[.int .i64 (nN:Int)] 3)) fun e w'=>e = .returned (.agg #[.int .i64 0,.int .i64 0])∧Below (W.heap.size + 1) (W.alloc (.cells #[.int .i64 (nN:Int)] 3)) w'):=fun W=>by
  have:=between_any 0 200 [(nN:Int)] W.heap.size 0 1 (W.alloc (.cells #[.int .i64 (nN:Int)] 3)) (by simp) (by simp) (one_cellB _ W)
  rw [nb_oneB,if_pos (by omega)] at this
  simpa using this
 have HCn:Hid (∀ W,Below w.heap.size w W→Calls Tryz.prog 36 #[.int .i64 (nN:Int)] W fun e w'=>∃ v u,e = .returned (.tuple #[v,.agg #[u,.bool false]])∧SO W.heap.size w' v (nN + 1) (BN.bz nN)∧LN w' u (BN.prm (nN + 1))∧Below W.heap.size W w'):=fun W kk=>numbers_any nN W hn (hT.below kk)
 obtain ⟨st,hst⟩:∃ st:ByteArray,st = ⟨(vtx (bnv nN)).toArray⟩:=⟨_,rfl⟩
 obtain ⟨z,hz⟩:∃ z,z = decide (BN.bz nN nN < 0):=⟨_,rfl⟩
 have HSt:Hid (∀ (v u:Value) (W:World),LN W v (BN.bz nN nN).natAbs→LN W u (BN.prm (nN + 1))→Below w.heap.size w W→Calls Tryz.prog 37 #[.agg #[v,.bool z],.agg #[u,.bool false]] W fun e w'=>e = .returned (.string st)∧Below W.heap.size W w'):=fun v u W h1 h2 kk=>by
  rw [hst,hz,← num_text nN hn]
  exact fraction_any v u (BN.bz nN nN) (BN.prm (nN + 1)) 36 W h1 h2 (BN.prm_pos _) (bz_bs (Nat.le_refl _) hn) (Nat.lt_of_lt_of_le (prm_bs (by omega)) (Nat.pow_le_pow_right (by decide) (by decide))) (by omega) (by omega) (hQ.below kk)
 have HZ:Hid (z = decide (BN.bz nN nN < 0)):=hz
 rw [← hst]
 obtain ⟨N1,hN1⟩:∃ N1,N1 = nN + 1:=⟨_,rfl⟩
 have HN1:Hid (N1 = nN + 1):=hN1
 have hnN1:nN < N1:=by omega
 rw [← hN1] at HCn
 clear hT hQ hst hz hN1
 go_enter Tryz.func7,Tryz.ntmps7
 obtain ⟨W0,hW0⟩:∃ W,w.alloc (.cells #[.int .i64 0,.int .i64 0] 23) = W:=⟨_,rfl⟩
 have S0:=Sv.new 0 0 w
 have k0:=bel_oneB w (.cells #[.int .i64 0,.int .i64 0] 23)
 have z0:W0.heap.size = w.heap.size + 1:=by rw [← hW0]; simp
 rw [hW0] at S0 k0
 go_wp2_with fail
 rw [← z0]
 refine (HB.out W0).mono ?_
 rintro e w1 ⟨rfl,hb⟩
 have k1:Below W0.heap.size W0 (W0.alloc (.cells #[.int .i64 (nN:Int)] 3)):=bel_oneB W0 _
 have k2:Below w.heap.size w w1:=(k0.trans (k1.mono (by omega))).trans (hb.mono (by omega))
 have S1:Sv w.heap.size 0 0 w1:=(S0.below k1).below (hb.mono (by simp))
 have HS1:Hid (Sv w.heap.size 0 0 w1∧Below w.heap.size w w1):=⟨S1,k2⟩
 clear HB hb k1 k2 k0 hW0 z0 S1 S0
 go_wp2_with fail
 obtain ⟨W2,hW2⟩:∃ W2,W2 = w1.alloc (.cells #[.int .i64 0,.int .i64 0] 23):=⟨_,rfl⟩
 rw [← hW2]
 have HS2:Hid (Sv w.heap.size 0 0 W2∧Below w.heap.size w W2):=by
  show _∧_
  rw [hW2]
  exact ⟨HS1.out.1.alloc _ _,Below.alloc HS1.out.2 HS1.out.2.size _⟩
 clear hW2
 refine (HCn.out W2 HS2.out.2).mono ?_
 rintro e w3 ⟨v3,u3,rfl,so3,l3,k3⟩
 obtain ⟨a3,m3,c3,rfl⟩:=l3.shape
 obtain ⟨gb,ob,cb,rfl,hgb,hbl⟩:=so3.va.look (by omega)
 obtain ⟨W4,hW4⟩:∃ W4,W4 = w3.alloc (.cells #[.slice a3 m3 c3,.bool false] 66):=⟨_,rfl⟩
 have k4:Below w3.heap.size w3 W4:=by rw [hW4]; exact (Below.refl _ _).alloc (Nat.le_refl _) _
 obtain ⟨b6,hb6⟩:∃ b6,b6 = w3.heap.size:=⟨_,rfl⟩
 have C6:Cl b6 [.slice a3 m3 c3,.bool false] 66 W4:=by rw [hW4,hb6]; exact Cl.new _ _ _
 obtain ⟨xa,xk,xc,q1,q2,lx⟩:=hbl W4 k4 nN hnN1
 rw [← HZ.out] at q2
 have HS4:Hid (Sv w.heap.size 0 0 W4∧Below w.heap.size w W4∧LN W4 (.slice a3 m3 c3) (BN.prm (nN + 1))∧LN W4 (.slice xa xk xc) (BN.bz nN nN).natAbs) :=
  ⟨(HS2.out.1.below k3).below k4,(HS2.out.2.trans (k3.mono HS2.out.2.size)).trans (k4.mono (Nat.le_trans HS2.out.2.size k3.size)),by rw [← HN1.out]; exact l3.below k4,lx⟩
 have HK:Hid (∀ W,Below W4.heap.size W4 W→(W.cell? ⟨b6,0,none⟩ = some (.slice a3 m3 c3)∧W.cell? ⟨b6,1,none⟩ = some (.bool false))∧W.cell? ⟨gb,ob + nN * 2,none⟩ = some (.slice xa xk xc)∧W.cell? ⟨gb,ob + nN * 2 + 1,none⟩ = some (.bool z)):=fun W kk=>by
  have hg:=Nat.lt_of_lt_of_le hgb k4.size
  have d1:=C6.below kk
  have e1:=d1.cell 0
  have e2:=d1.cell 1
  simp at e1 e2
  exact ⟨⟨e1,e2⟩,(kk.cell (p:=⟨gb,ob + nN * 2,none⟩) hg).trans q1,(kk.cell (p:=⟨gb,ob + nN * 2 + 1,none⟩) hg).trans q2⟩
 clear HS1 HS2 so3 l3 k3 hgb hbl k4 C6 q1 q2 lx HCn
 go_wp2
 rw [← hW4]
 rw [← hb6]
 clear hW4 hb6
 refine wp_region_G (fun W=>(W.cell? ⟨b6,0,none⟩ = some (.slice a3 m3 c3)∧W.cell? ⟨b6,1,none⟩ = some (.bool false))∧W.cell? ⟨gb,ob + nN * 2,none⟩ = some (.slice xa xk xc)∧W.cell? ⟨gb,ob + nN * 2 + 1,none⟩ = some (.bool z)) 8 (by kernel_rfl) (HK.out _ (Below.refl _ _).drew) (fun hHeld=>?_)
 refine wpAnyG_take (i:=0) (v:=?v0x1) rfl (by kernel_rfl) (fun _ _ _ h=>h) (Or.inl ⟨by rfl,?y0x1⟩) hHeld ?r0x1
 case y0x1=>(intro wS hSw; obtain ⟨⟨s1,s2⟩,s3,s4⟩:=hSw; go_simp; try with_reducible rfl)
 simp only [Act.put,List.getElem_toArray,List.getElem_cons_zero,List.getElem_cons_succ,List.setIfInBounds_toArray,List.set_cons_zero,List.set_cons_succ]
 refine wpAnyG_take (i:=1) (v:=?v1x2) rfl (by kernel_rfl) (fun _ _ _ h=>h) (Or.inl ⟨by rfl,?y1x2⟩) hHeld ?r1x2
 case y1x2=>(intro wS hSw; obtain ⟨⟨s1,s2⟩,s3,s4⟩:=hSw; go_simp; try with_reducible rfl)
 simp only [Act.put,List.getElem_toArray,List.getElem_cons_zero,List.getElem_cons_succ,List.setIfInBounds_toArray,List.set_cons_zero,List.set_cons_succ]
 refine wpAnyG_take (i:=2) (v:=?v2x3) rfl (by kernel_rfl) (fun _ _ _ h=>h) (Or.inl ⟨by rfl,?y2x3⟩) hHeld ?r2x3
 case y2x3=>(intro wS hSw; obtain ⟨⟨s1,s2⟩,s3,s4⟩:=hSw; go_simp; try with_reducible rfl)
 simp only [Act.put,List.getElem_toArray,List.getElem_cons_zero,List.getElem_cons_succ,List.setIfInBounds_toArray,List.set_cons_zero,List.set_cons_succ]
 refine wpAnyG_take (i:=3) (v:=?v3x4) rfl (by kernel_rfl) (fun _ _ _ h=>h) (Or.inl ⟨by rfl,?y3x4⟩) hHeld ?r3x4
 case y3x4=>(intro wS hSw; obtain ⟨⟨s1,s2⟩,s3,s4⟩:=hSw; go_simp; try with_reducible rfl)
 simp only [Act.put,List.getElem_toArray,List.getElem_cons_zero,List.getElem_cons_succ,List.setIfInBounds_toArray,List.set_cons_zero,List.set_cons_succ]
 refine wpAnyG_take (i:=4) (v:=?v4x5) rfl (by kernel_rfl) (fun _ _ _ h=>h) (Or.inl ⟨by rfl,?y4x5⟩) hHeld ?r4x5
 case y4x5=>(intro wS hSw; obtain ⟨⟨s1,s2⟩,s3,s4⟩:=hSw; go_simp; try with_reducible rfl)
 simp only [Act.put,List.getElem_toArray,List.getElem_cons_zero,List.getElem_cons_succ,List.setIfInBounds_toArray,List.set_cons_zero,List.set_cons_succ]
 refine wpAnyG_take (i:=6) (v:=?v6x6) rfl (by kernel_rfl) (fun _ _ _ h=>h) (Or.inl ⟨by rfl,?y6x6⟩) hHeld ?r6x6
 case y6x6=>(intro wS hSw; obtain ⟨⟨s1,s2⟩,s3,s4⟩:=hSw; go_simp; try with_reducible rfl)
 simp only [Act.put,List.getElem_toArray,List.getElem_cons_zero,List.getElem_cons_succ,List.setIfInBounds_toArray,List.set_cons_zero,List.set_cons_succ]
 refine wpAnyG_one (i:=5) rfl (by kernel_rfl) (fun K hK=>?_)
 go_simp
 refine (HSt.out _ _ _ (HS4.out.2.2.2.below (Below.refl _ _).drew) (HS4.out.2.2.1.below (Below.refl _ _).drew) (HS4.out.2.1.trans ((Below.refl _ _).drew.mono HS4.out.2.1.size))).mono ?_
 rintro e w5 ⟨rfl,k5⟩
 have HK5:Hid (Below W4.heap.size W4 w5):=(Below.refl _ _).drew.trans k5
 clear k5
 refine hK.out _ _ (HK.out _ HK5.out) ?_
 clear hK K hHeld
 have hHeld:=HK.out _ HK5.out
 refine wpAnyG_take (i:=7) (v:=?v7x7) rfl (by kernel_rfl) (fun _ _ _ h=>h) (Or.inl ⟨by rfl,?y7x7⟩) hHeld ?r7x7
 case y7x7=>(intro wS hSw; obtain ⟨⟨s1,s2⟩,s3,s4⟩:=hSw; go_simp; try with_reducible rfl)
 simp only [Act.put,List.getElem_toArray,List.getElem_cons_zero,List.getElem_cons_succ,List.setIfInBounds_toArray,List.set_cons_zero,List.set_cons_succ]
 obtain ⟨q0,q1,q2,q3,hz⟩:=HS4.out.1.below HK5.out
 refine wpAnyG_last (i:=8) rfl (by kernel_rfl) (by kernel_rfl) (fun K hK=>?_)
 go_simp
 refine hK.out _ _ ?_
 clear hK K
 refine wpAnyG_done (by kernel_rfl) ?_ _
 clear hHeld
 have HK6:Hid (Below w.heap.size w w5):=HS4.out.2.1.trans (HK5.out.mono HS4.out.2.1.size)
 go_wp2
 refine bodyPost_ret (v:=.tuple #[.string st,.agg #[.int .i64 0,.int .i64 0]]) (by simp [results,Tryz.results7,go_sem,q0,q1,hz]) rfl ⟨rfl,?_⟩
 exact Below.setCell (Below.setCell HK6.out (Nat.le_refl _) _) (Nat.le_refl _) _
end
section
set_option maxRecDepth 100000
open Go.RowKit LgM
theorem Tryz.undStr:Tryz.prog.underlying 44 = some (.slice 9):=by kernel_rfl
theorem Tryz.infoStr:(Tryz.prog.info? 9).map (fun i=>(i.zero,i.size,i.bytes)) = some (some (.string ⟨#[]⟩),1,16):=by kernel_rfl
def cqv (k i:Nat):Rat:=((BN.cf k i:Int):Rat) / (((BN.prm (k + 1) * (k + 1):Nat):Int):Rat)
def SRow (B:Nat) (w:World) (v:Value) (N:Nat) (f:Nat→ByteArray):Prop:=∃ us:List Value,w.ownsRow B 9 1 v N us∧∀ j,j < N→us[j]? = some (.string (f j))
theorem row_bel4 {B e n size:Nat} {v:Value} {xs:List Value} {w w':World} (h:w.ownsRow B e size v n xs) (k:Below w.heap.size w w'):w'.ownsRow B e size v n xs:=by
 refine ⟨h.1,?_⟩
 rcases h.2 with h2 | ⟨g,cap,cur,h2,h3,h4,rest⟩
 ·exact .inl h2
 ·exact .inr ⟨g,cap,cur,h2,h3,(k.block g (lt_of_some h4)).trans h4,rest⟩
theorem SRow.below {B N:Nat} {w w':World} {v:Value} {f:Nat→ByteArray} (h:SRow B w v N f) (k:Below w.heap.size w w'):SRow B w' v N f:=by
 obtain ⟨us,h1,h2⟩:=h
 exact ⟨us,row_bel4 h1 k,h2⟩
theorem SRow.cells {B N:Nat} {w:World} {v:Value} {f:Nat→ByteArray} (h:SRow B w v N f) (h0:0 < N):∃ g cap,v = .slice (some ⟨g,0,none⟩) N cap∧N≤cap∧g < w.heap.size∧∀ i,i < N→w.cell? ⟨g,i,none⟩ = some (.string (f i)):=by
 obtain ⟨us,⟨hl,⟨h1,h2⟩ | ⟨g,cap,cur,e1,e2,e3,e4,e5,e6,e7⟩⟩,h3⟩:=h
 ·subst h2
  simp at hl
  omega
 ·refine ⟨g,cap,e1,e4,lt_of_some e3,fun i hi=>?_⟩
  have h4:(cur.toList.take (N * 1))[i]? = us[i]?:=by rw [e7]
  rw [List.getElem?_take,if_pos (by omega)] at h4
  simp only [World.cell?,e3]
  rw [← Array.getElem?_toList,h4,h3 i hi]; rfl
set_option maxHeartbeats 8000000 in
theorem Sums_ok (k:Nat) (w:World) (hk:k≤60) (hT:Tb w) (hQ:Tq w) :
  Calls Tryz.prog 19 #[.int .i64 (k:Int)] w fun e w'=>∃ g cap,e = .returned (.tuple #[.slice (some ⟨g,0,none⟩) (k + 2) cap,.agg #[.int .i64 0,.int .i64 0]])∧k + 2≤cap∧g < w'.heap.size∧(∀ i,i < k + 2→w'.cell? ⟨g,i,none⟩ = some (.string ⟨(vtx (cqv k i)).toArray⟩))∧Below w.heap.size w w':=by
 obtain ⟨i0,hi,hz0,hz1,hz2⟩:=info_parts Tryz.infoStr
 have HI:Hid (Tryz.prog.info? 9 = some i0∧i0.zero = some (.string ⟨#[]⟩)∧i0.size = 1∧i0.bytes = 16):=⟨hi,hz0,hz1,hz2⟩
 clear hi hz0 hz1 hz2
 have HB:Hid (∀ W:World,Calls Tryz.prog 35 #[.int .i64 0,.int .i64 60,.slice (some ⟨W.heap.size,0,none⟩) 1 1] (W.alloc (.cells #[.int .i64 (k:Int)] 3)) fun e w'=>e = .returned (.agg #[.int .i64 0,.int .i64 0])∧Below (W.heap.size + 1) (W.alloc (.cells #[.int .i64 (k:Int)] 3)) w'):=fun W=>by
  have:=between_any 0 60 [(k:Int)] W.heap.size 0 1 (W.alloc (.cells #[.int .i64 (k:Int)] 3)) (by simp) (by simp) (one_cellB _ W)
  rw [nb_oneB,if_pos (by omega)] at this
  simpa using this
 obtain ⟨K2,hK2⟩:∃ K2,K2 = k + 2:=⟨_,rfl⟩
 have hK2l:K2≤62:=by omega
 have HK2:Hid (K2 = k + 2):=hK2
 have HCn:Hid (∀ W,Below w.heap.size w W→Calls Tryz.prog 50 #[.int .i64 (k:Int)] W fun e w'=>∃ v u,e = .returned (.tuple #[v,.agg #[u,.bool false]])∧VA w' v K2 (BN.cf k)∧LN w' u (BN.prm (k + 1) * (k + 1))∧Below W.heap.size W w'):=fun W kk=>by
  rw [hK2]; exact formula_any k W hk (hT.below kk)
 have HFr:Hid (∀ (v u:Value) (W:World) (i:Nat),LN W v (BN.cf k i).natAbs→LN W u (BN.prm (k + 1) * (k + 1))→Below w.heap.size w W→Calls Tryz.prog 37 #[.agg #[v,.bool (decide (BN.cf k i < 0))],.agg #[u,.bool false]] W fun e w'=>e = .returned (.string ⟨(vtx (cqv k i)).toArray⟩)∧Below W.heap.size W w'):=fun v u W i h1 h2 kk=>by
  have h:=fraction_any v u (BN.cf k i) (BN.prm (k + 1) * (k + 1)) 45 W h1 h2 (Nat.mul_pos (BN.prm_pos _) (by omega)) (cf_bs hk) (Nat.lt_of_lt_of_le (below_bs hk) (Nat.pow_le_pow_right (by decide) (by decide))) (by omega) (by omega) (hQ.below kk)
  rw [ftx_vtx _ _ (Nat.mul_pos (BN.prm_pos _) (by omega))] at h
  exact h
 clear hT hQ hK2
 go_enter Tryz.func19,Tryz.ntmps19
 obtain ⟨W0,hW0⟩:∃ W,w.alloc (.cells #[.int .i64 0,.int .i64 0] 23) = W:=⟨_,rfl⟩
 have S0:=Sv.new 0 0 w
 have k0:=bel_oneB w (.cells #[.int .i64 0,.int .i64 0] 23)
 have z0:W0.heap.size = w.heap.size + 1:=by rw [← hW0]; simp
 rw [hW0] at S0 k0
 go_wp2_with fail
 rw [← z0]
 refine (HB.out W0).mono ?_
 rintro e w1 ⟨rfl,hb⟩
 have k1:Below W0.heap.size W0 (W0.alloc (.cells #[.int .i64 (k:Int)] 3)):=bel_oneB W0 _
 have k2:Below w.heap.size w w1:=(k0.trans (k1.mono (by omega))).trans (hb.mono (by omega))
 have S1:Sv w.heap.size 0 0 w1:=(S0.below k1).below (hb.mono (by simp))
 have HS1:Hid (Sv w.heap.size 0 0 w1∧Below w.heap.size w w1):=⟨S1,k2⟩
 clear HB hb k1 k2 k0 hW0 z0 S1 S0
 go_wp2_with fail
 obtain ⟨W2,hW2⟩:∃ W2,W2 = w1.alloc (.cells #[.int .i64 0,.int .i64 0] 23):=⟨_,rfl⟩
 rw [← hW2]
 have HS2:Hid (Sv w.heap.size 0 0 W2∧Below w.heap.size w W2):=by
  show _∧_
  rw [hW2]
  exact ⟨HS1.out.1.alloc _ _,Below.alloc HS1.out.2 HS1.out.2.size _⟩
 clear hW2
 refine (HCn.out W2 HS2.out.2).mono ?_
 rintro e w3 ⟨v3,u3,rfl,va3,l3,k3⟩
 obtain ⟨a3,m3,c3,rfl⟩:=l3.shape
 obtain ⟨gb,ob,cb,rfl,hgb,hbl⟩:=va3.look (by have:=HK2.out; omega)
 obtain ⟨W4,hW4⟩:∃ W4,W4 = w3.alloc (.cells #[.slice a3 m3 c3,.bool false] 66):=⟨_,rfl⟩
 have k4:Below w3.heap.size w3 W4:=by rw [hW4]; exact (Below.refl _ _).alloc (Nat.le_refl _) _
 obtain ⟨b6,hb6⟩:∃ b6,b6 = w3.heap.size:=⟨_,rfl⟩
 have C6:Cl b6 [.slice a3 m3 c3,.bool false] 66 W4:=by rw [hW4,hb6]; exact Cl.new _ _ _
 have H4:Hid (Sv w.heap.size 0 0 W4∧Below w.heap.size w W4∧LN W4 (.slice a3 m3 c3) (BN.prm (k + 1) * (k + 1))∧Cl b6 [.slice a3 m3 c3,.bool false] 66 W4∧gb < W4.heap.size∧(∀ W,Below W4.heap.size W4 W→∀ j,j < K2→∃ sa sk sc,W.cell? ⟨gb,ob + j * 2,none⟩ = some (.slice sa sk sc)∧W.cell? ⟨gb,ob + j * 2 + 1,none⟩ = some (.bool (decide (BN.cf k j < 0)))∧LN W (.slice sa sk sc) (BN.cf k j).natAbs)) :=
  ⟨(HS2.out.1.below k3).below k4,(HS2.out.2.trans (k3.mono HS2.out.2.size)).trans (k4.mono (Nat.le_trans HS2.out.2.size k3.size)),l3.below k4,C6,Nat.lt_of_lt_of_le hgb k4.size,fun W kk=>hbl W (k4.trans (kk.mono k4.size))⟩
 clear HS1 HS2 va3 l3 k3 hgb hbl k4 C6 HCn
 go_wp2
 rw [← hW4]
 rw [← hb6]
 clear hW4 hb6
 go_loopw [7,24] (fun lv iv wx=>∃ (i:Nat) (ov:Value),i≤K2∧lv = ov∧iv = .int .i64 (i:Int)∧Hid (SRow W4.heap.size wx ov i (fun j=>⟨(vtx (cqv k j)).toArray⟩)∧Below W4.heap.size W4 wx)) (fun _ iv _=>K2 - (intOf iv).toNat)
 case atStart=>exact ⟨0,_,Nat.zero_le _,rfl,rfl,⟨[],World.ownsRow_nil _ _ _ _,fun j hj=>by omega⟩,Below.refl _ _⟩
 case round =>
  obtain ⟨i,ov,hin,hov,rfl,HR⟩:=hrel
  have h2:=hov.symm
  subst h2
  by_cases hlt:i < K2
  ·have HLt:Hid (i < K2):=hlt
   obtain ⟨xa,xk,xc,q1,q2,lx⟩:=H4.out.2.2.2.2.2 wr HR.out.2 i hlt
   obtain ⟨z,hz⟩:∃ z,z = decide (BN.cf k i < 0):=⟨_,rfl⟩
   obtain ⟨st,hst⟩:∃ st:ByteArray,st = ⟨(vtx (cqv k i)).toArray⟩:=⟨_,rfl⟩
   have HFi:Hid (∀ (v u:Value) (W:World),LN W v (BN.cf k i).natAbs→LN W u (BN.prm (k + 1) * (k + 1))→Below w.heap.size w W→Calls Tryz.prog 37 #[.agg #[v,.bool z],.agg #[u,.bool false]] W fun e w'=>e = .returned (.string st)∧Below W.heap.size W w'):=fun v u W h1 h2 h3=>by
    rw [hz,hst]; exact HFr.out v u W i h1 h2 h3
   have HSt:Hid (st = ⟨(vtx (cqv k i)).toArray⟩):=hst
   rw [← hz] at q2
   obtain ⟨W6,hW6⟩:∃ W6,W6 = wr.alloc (.cells #[.slice xa xk xc,.bool z] 66):=⟨_,rfl⟩
   have k6:Below wr.heap.size wr W6:=by rw [hW6]; exact (Below.refl _ _).alloc (Nat.le_refl _) _
   have K46:Below W4.heap.size W4 W6:=HR.out.2.trans (k6.mono HR.out.2.size)
   have HL6:Hid (LN W6 (.slice xa xk xc) (BN.cf k i).natAbs∧LN W6 (.slice a3 m3 c3) (BN.prm (k + 1) * (k + 1))∧Below W4.heap.size W4 W6∧Below w.heap.size w W6∧SRow W4.heap.size W6 ov i (fun j=>⟨(vtx (cqv k j)).toArray⟩)) :=
    ⟨lx.below k6,H4.out.2.2.1.below K46,K46,H4.out.2.1.trans (K46.mono H4.out.2.1.size),HR.out.1.below k6⟩
   have c6:=H4.out.2.2.2.1.below HR.out.2
   have hb6:=c6.lt
   have r3:=c6.cell 0
   have r4:=c6.cell 1
   simp at r3 r4
   have HW6:Hid (W6 = wr.alloc (.cells #[.slice xa xk xc,.bool z] 66)):=hW6
   clear lx hz hst k6 K46 c6 HR hW6
   go_wp2_with fail
   rw [← HW6.out]
   refine (HFi.out _ _ W6 HL6.out.1 HL6.out.2.1 HL6.out.2.2.2.1).mono ?_
   rintro e w7 ⟨rfl,k7⟩
   have k78:Below W6.heap.size W6 (w7.alloc (.cells #[.string st] 9)):=k7.alloc k7.size _
   obtain ⟨us,hu,hx⟩:=HL6.out.2.2.2.2.below k78
   have HU:Hid ((w7.alloc (.cells #[.string st] 9)).ownsRow W4.heap.size 9 1 ov i us∧(∀ j,j < i→us[j]? = some (.string ⟨(vtx (cqv k j)).toArray⟩))∧Below W4.heap.size W4 (w7.alloc (.cells #[.string st] 9))∧W4.heap.size≤w7.heap.size) :=
    ⟨hu,hx,HL6.out.2.2.1.trans (k78.mono HL6.out.2.2.1.size),Nat.le_trans HL6.out.2.2.1.size k7.size⟩
   clear k7 k78 hu hx HL6 r3 r4 q1 q2 HW6 hb6
   go_wp2_with (at_builtin; refine wpList_append_own_at _ rfl _ _ 44 rfl W4.heap.size 9 i0 (.string ⟨#[]⟩) 1 16 Tryz.undStr HI.out.1 HI.out.2.1 HI.out.2.2.1 HI.out.2.2.2 rfl (by decide) ov i us rfl HU.out.1 ⟨w7.heap.size,0,none⟩ 1 1 [.string st] rfl rfl (cell_one_new _ _ _) (by simp [Value.oneCell']) (by simp only [maxLen]; omega) (by omega) (by have:=HU.out.2.2.2; simp; omega) ?_; intro v' w8 hown hgrow _ hob)
   have HN:Hid (SRow W4.heap.size w8 v' (i + 1) (fun j=>⟨(vtx (cqv k j)).toArray⟩)∧Below W4.heap.size W4 w8):=by
    refine ⟨⟨_,hown,fun j hj=>?_⟩,HU.out.2.2.1.grown hgrow HU.out.2.2.1.size (fun g e=>(HU.out.1.lt g e).1)⟩
    have hl:us.length = i:=by have:=HU.out.1.1; omega
    by_cases e:j = i
    ·subst e
     rw [List.getElem?_append_right (by omega),hl,HSt.out]; simp
    ·rw [List.getElem?_append_left (by omega)]; exact HU.out.2.1 j (by omega)
   clear hown hgrow hob HU
   go_wp2
   go_roundw
   case rel=>exact ⟨i + 1,_,by have:=HLt.out; omega,rfl,by go_num,HN.out⟩
   case measure=>have:=HLt.out; simp [intOf]; omega
  ·obtain rfl:K2 = i:=by omega
   obtain ⟨g,cap,rfl,hcap,hgl,hcs⟩:=HR.out.1.cells (by have:=HK2.out; omega)
   have HF:Hid (K2≤cap∧g < wr.heap.size∧(∀ j,j < K2→wr.cell? ⟨g,j,none⟩ = some (.string ⟨(vtx (cqv k j)).toArray⟩))∧Below w.heap.size w wr∧w.heap.size < W4.heap.size):=⟨hcap,hgl,hcs,H4.out.2.1.trans (HR.out.2.mono H4.out.2.1.size),H4.out.1.lt⟩
   obtain ⟨q0,q1,q2,q3,hz⟩:=H4.out.1.below HR.out.2
   clear hcap hgl hcs HR
   go_wp2
   have HG:Hid (g ≠ w.heap.size):=by
    intro e
    have h1:=HF.out.2.2.1 0 (by have:=HK2.out; omega)
    rw [e,q0] at h1
    simp at h1
   refine bodyPost_ret (v:=.tuple #[.slice (some ⟨g,0,none⟩) K2 cap,.agg #[.int .i64 0,.int .i64 0]]) (by simp [results,Tryz.results19,go_sem,q0,q1,hz]) rfl ⟨g,cap,by rw [HK2.out],by rw [← HK2.out]; exact HF.out.1,by simpa using HF.out.2.1,fun j hj=>?_,?_⟩
   ·rw [World.cell?,Below.heap_setCell _ _ _ g (by simpa using HG.out),Below.heap_setCell _ _ _ g (by simpa using HG.out)]
    exact HF.out.2.2.1 j (by rw [HK2.out]; exact hj)
   ·exact Below.setCell (Below.setCell HF.out.2.2.2.1 (Nat.le_refl _) _) (Nat.le_refl _) _
end
end Go.Proofs.YtnkjadpmigpneaaGreatDoor
