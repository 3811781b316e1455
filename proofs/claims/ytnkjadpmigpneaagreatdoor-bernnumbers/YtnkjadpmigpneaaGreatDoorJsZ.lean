import Derived.Test.YtnkjadpmigpneaaGreatDoorJsQ
import Derived.Test.YtnkjadpmigpneaaGreatDoorBrF
import Derived.Test.YtnkjadpmigpneaaGreatDoorJsY
import Derived.Test.YtnkjadpmigpneaaGreatDoorJsK
import Derived.Test.YtnkjadpmigpneaaGreatDoorRaK
import Derived.Test.YtnkjadpmigpneaaGreatDoorJsX
import Derived.Test.YtnkjadpmigpneaaGreatDoorRaU
import Derived.Test.YtnkjadpmigpneaaGreatDoorJsG
import Derived.Test.YtnkjadpmigpneaaGreatDoorJsC
import Derived.Test.YtnkjadpmigpneaaGreatDoorJsP
import Derived.Laws.StructEq
import Derived.Test.YtnkjadpmigpneaaGreatDoorJsT
import Derived.Test.YtnkjadpmigpneaaGreatDoorJsS
import Derived.Test.YtnkjadpmigpneaaGreatDoorJsL
import Derived.Deep.LoopGhost
set_option linter.unusedSimpArgs false
set_option linter.unusedVariables false
namespace Go.Proofs.YtnkjadpmigpneaaGreatDoor
section
set_option maxRecDepth 100000
open Go.RowKit LgM
theorem num_text (n:Nat) (hn:n≤200):ftx (BN.bz n n) (BN.prm (n + 1)) = vtx (bnv n):=by
 rw [ftx_vtx _ _ (BN.prm_pos _)]
 congr 1
 unfold bnv
 have h:=BN.bz_mul (n:=n) (j:=n) (Nat.le_refl _) hn
 exact (rv_eq (by have:=BN.prm_pos (n + 1); omega) dN_pos).2 h
set_option maxHeartbeats 4000000 in
theorem Number_ok (nN:Nat) (w:World) (hn:nN≤200) (hT:Tb w) (hQ:Tq w) :
  Calls Tryz.prog 7 #[.int .i64 (nN:Int)] w fun e w'=>e = .returned (.tuple #[.string ⟨(vtx (bnv nN)).toArray⟩,.agg #[.int .i64 0,.int .i64 0]])∧Below w.heap.size w w':=by
 have HB:Hid (∀ W:World,Calls Tryz.prog 35 #[.int .i64 0,.int .i64 200,.slice (some ⟨W.heap.size,0,none⟩) 1 1] (W.alloc (.cells #[.int .i64 (nN:Int)] 3)) fun e w'=>e = .returned (.agg #[.int .i64 0,.int .i64 0])∧Below (W.heap.size + 1) (W.alloc (.cells #[.int .i64 (nN:Int)] 3)) w'):=fun W=>by
  have:=between_any 0 200 [(nN:Int)] W.heap.size 0 1 (W.alloc (.cells #[.int .i64 (nN:Int)] 3)) (by simp) (by simp) (one_cellB _ W)
  rw [nb_oneB,if_pos (by omega)] at this
  simpa using this
 have HCn:Hid (∀ W,Below w.heap.size w W→Calls Tryz.prog 36 #[.int .i64 (nN:Int)] W fun e w'=>∃ v u,e = .returned (.tuple #[v,.agg #[u,.bool false]])∧SO W.heap.size w' v (nN + 1) (BN.bz nN)∧LN w' u (BN.prm (nN + 1))∧Below W.heap.size W w'):=fun W kk=>numbers_any nN W hn (hT.below kk)
 obtain ⟨st,hst⟩:∃ st:ByteArray,st = ⟨(vtx (bnv nN)).toArray⟩:=⟨_,rfl⟩
 obtain ⟨z,hz⟩:∃ z,z = decide (BN.bz nN nN < 0):=⟨_,rfl⟩
 have HSt:Hid (∀ (v u:Value) (W:World),LN W v (BN.bz nN nN).natAbs→LN W u (BN.prm (nN + 1))→Below w.heap.size w W→Calls Tryz.prog 37 #[.agg #[v,.bool z],.agg #[u,.bool false]] W fun e w'=>e = .returned (.string st)∧Below W.heap.size W w'):=fun v u W h1 h2 kk=>by
  rw [hst,hz,← num_text nN hn]
  exact fraction_any v u (BN.bz nN nN) (BN.prm (nN + 1)) 36 W h1 h2 (BN.prm_pos _) (bz_bs (Nat.le_refl _) hn) (Nat.lt_of_lt_of_le (prm_bs (by omega)) (Nat.pow_le_pow_right (by decide) (by decide))) (by omega) (by omega) (hQ.below kk)
 have HZ:Hid (z = decide (BN.bz nN nN < 0)):=hz
 rw [← hst]
 obtain ⟨N1,hN1⟩:∃ N1,N1 = nN + 1:=⟨_,rfl⟩
 have HN1:Hid (N1 = nN + 1):=hN1
 have hnN1:nN < N1:=by omega
 rw [← hN1] at HCn
 clear hT hQ hst hz hN1
 go_enter Tryz.func7,Tryz.ntmps7
 obtain ⟨W0,hW0⟩:∃ W,w.alloc (.cells #[.int .i64 0,.int .i64 0] 23) = W:=⟨_,rfl⟩
 have S0:=Sv.new 0 0 w
 have k0:=bel_oneB w (.cells #[.int .i64 0,.int .i64 0] 23)
 have z0:W0.heap.size = w.heap.size + 1:=by rw [← hW0]; simp
 rw [hW0] at S0 k0
 go_wp2_with fail
 rw [← z0]
 refine (HB.out W0).mono ?_
 rintro e w1 ⟨rfl,hb⟩
 have k1:Below W0.heap.size W0 (W0.alloc (.cells #[.int .i64 (nN:Int)] 3)):=bel_oneB W0 _
 have k2:Below w.heap.size w w1:=(k0.trans (k1.mono (by omega))).trans (hb.mono (by omega))
 have S1:Sv w.heap.size 0 0 w1:=(S0.below k1).below (hb.mono (by simp))
 have HS1:Hid (Sv w.heap.size 0 0 w1∧Below w.heap.size w w1):=⟨S1,k2⟩
 clear HB hb k1 k2 k0 hW0 z0 S1 S0
 go_wp2_with fail
 obtain ⟨W2,hW2⟩:∃ W2,W2 = w1.alloc (.cells #[.int .i64 0,.int .i64 0] 23):=⟨_,rfl⟩
 rw [← hW2]
 have HS2:Hid (Sv w.heap.size 0 0 W2∧Below w.heap.size w W2):=by
  show _∧_
  rw [hW2]
  exact ⟨HS1.out.1.alloc _ _,Below.alloc HS1.out.2 HS1.out.2.size _⟩
 clear hW2
 refine (HCn.out W2 HS2.out.2).mono ?_
 rintro e w3 ⟨v3,u3,rfl,so3,l3,k3⟩
 obtain ⟨a3,m3,c3,rfl⟩:=l3.shape
 obtain ⟨gb,ob,cb,rfl,hgb,hbl⟩:=so3.va.look (by omega)
 obtain ⟨W4,hW4⟩:∃ W4,W4 = w3.alloc (.cells #[.slice a3 m3 c3,.bool false] 66):=⟨_,rfl⟩
 have k4:Below w3.heap.size w3 W4:=by rw [hW4]; exact (Below.refl _ _).alloc (Nat.le_refl _) _
 obtain ⟨b6,hb6⟩:∃ b6,b6 = w3.heap.size:=⟨_,rfl⟩
 have C6:Cl b6 [.slice a3 m3 c3,.bool false] 66 W4:=by rw [hW4,hb6]; exact Cl.new _ _ _
 obtain ⟨xa,xk,xc,q1,q2,lx⟩:=hbl W4 k4 nN hnN1
 rw [← HZ.out] at q2
 have HS4:Hid (Sv w.heap.size 0 0 W4∧Below w.heap.size w W4∧LN W4 (.slice a3 m3 c3) (BN.prm (nN + 1))∧LN W4 (.slice xa xk xc) (BN.bz nN nN).natAbs) :=
  ⟨(HS2.out.1.below k3).below k4,(HS2.out.2.trans (k3.mono HS2.out.2.size)).trans (k4.mono (Nat.le_trans HS2.out.2.size k3.size)),by rw [← HN1.out]; exact l3.below k4,lx⟩
 have HK:Hid (∀ W,Below W4.heap.size W4 W→(W.cell? ⟨b6,0,none⟩ = some (.slice a3 m3 c3)∧W.cell? ⟨b6,1,none⟩ = some (.bool false))∧W.cell? ⟨gb,ob + nN * 2,none⟩ = some (.slice xa xk xc)∧W.cell? ⟨gb,ob + nN * 2 + 1,none⟩ = some (.bool z)):=fun W kk=>by
  have hg:=Nat.lt_of_lt_of_le hgb k4.size
  have d1:=C6.below kk
  have e1:=d1.cell 0
  have e2:=d1.cell 1
  simp at e1 e2
  exact ⟨⟨e1,e2⟩,(kk.cell (p:=⟨gb,ob + nN * 2,none⟩) hg).trans q1,(kk.cell (p:=⟨gb,ob + nN * 2 + 1,none⟩) hg).trans q2⟩
 clear HS1 HS2 so3 l3 k3 hgb hbl k4 C6 q1 q2 lx HCn
 go_wp2
 rw [← hW4]
 rw [← hb6]
 clear hW4 hb6
 refine wp_region_G (fun W=>(W.cell? ⟨b6,0,none⟩ = some (.slice a3 m3 c3)∧W.cell? ⟨b6,1,none⟩ = some (.bool false))∧W.cell? ⟨gb,ob + nN * 2,none⟩ = some (.slice xa xk xc)∧W.cell? ⟨gb,ob + nN * 2 + 1,none⟩ = some (.bool z)) 8 (by kernel_rfl) (HK.out _ (Below.refl _ _).drew) (fun hHeld=>?_)
 refine wpAnyG_take (i:=0) (v:=?v0x1) rfl (by kernel_rfl) (fun _ _ _ h=>h) (Or.inl ⟨by rfl,?y0x1⟩) hHeld ?r0x1
 case y0x1=>(intro wS hSw; obtain ⟨⟨s1,s2⟩,s3,s4⟩:=hSw; go_simp; try with_reducible rfl)
 simp only [Act.put,List.getElem_toArray,List.getElem_cons_zero,List.getElem_cons_succ,List.setIfInBounds_toArray,List.set_cons_zero,List.set_cons_succ]
 refine wpAnyG_take (i:=1) (v:=?v1x2) rfl (by kernel_rfl) (fun _ _ _ h=>h) (Or.inl ⟨by rfl,?y1x2⟩) hHeld ?r1x2
 case y1x2=>(intro wS hSw; obtain ⟨⟨s1,s2⟩,s3,s4⟩:=hSw; go_simp; try with_reducible rfl)
 simp only [Act.put,List.getElem_toArray,List.getElem_cons_zero,List.getElem_cons_succ,List.setIfInBounds_toArray,List.set_cons_zero,List.set_cons_succ]
 refine wpAnyG_take (i:=2) (v:=?v2x3) rfl (by kernel_rfl) (fun _ _ _ h=>h) (Or.inl ⟨by rfl,?y2x3⟩) hHeld ?r2x3
 case y2x3=>(intro wS hSw; obtain ⟨⟨s1,s2⟩,s3,s4⟩:=hSw; go_simp; try with_reducible rfl)
 simp only [Act.put,List.getElem_toArray,List.getElem_cons_zero,List.getElem_cons_succ,List.setIfInBounds_toArray,List.set_cons_zero,List.set_cons_succ]
 refine wpAnyG_take (i:=3) (v:=?v3x4) rfl (by kernel_rfl) (fun _ _ _ h=>h) (Or.inl ⟨by rfl,?y3x4⟩) hHeld ?r3x4
 case y3x4=>(intro wS hSw; obtain ⟨⟨s1,s2⟩,s3,s4⟩:=hSw; go_simp; try with_reducible rfl)
 simp only [Act.put,List.getElem_toArray,List.getElem_cons_zero,List.getElem_cons_succ,List.setIfInBounds_toArray,List.set_cons_zero,List.set_cons_succ]
 refine wpAnyG_take (i:=4) (v:=?v4x5) rfl (by kernel_rfl) (fun _ _ _ h=>h) (Or.inl ⟨by rfl,?y4x5⟩) hHeld ?r4x5
 case y4x5=>(intro wS hSw; obtain ⟨⟨s1,s2⟩,s3,s4⟩:=hSw; go_simp; try with_reducible rfl)
 simp only [Act.put,List.getElem_toArray,List.getElem_cons_zero,List.getElem_cons_succ,List.setIfInBounds_toArray,List.set_cons_zero,List.set_cons_succ]
 refine wpAnyG_take (i:=6) (v:=?v6x6) rfl (by kernel_rfl) (fun _ _ _ h=>h) (Or.inl ⟨by rfl,?y6x6⟩) hHeld ?r6x6
 case y6x6=>(intro wS hSw; obtain ⟨⟨s1,s2⟩,s3,s4⟩:=hSw; go_simp; try with_reducible rfl)
 simp only [Act.put,List.getElem_toArray,List.getElem_cons_zero,List.getElem_cons_succ,List.setIfInBounds_toArray,List.set_cons_zero,List.set_cons_succ]
 refine wpAnyG_one (i:=5) rfl (by kernel_rfl) (fun K hK=>?_)
 go_simp
 refine (HSt.out _ _ _ (HS4.out.2.2.2.below (Below.refl _ _).drew) (HS4.out.2.2.1.below (Below.refl _ _).drew) (HS4.out.2.1.trans ((Below.refl _ _).drew.mono HS4.out.2.1.size))).mono ?_
 rintro e w5 ⟨rfl,k5⟩
 have HK5:Hid (Below W4.heap.size W4 w5):=(Below.refl _ _).drew.trans k5
 clear k5
 refine hK.out _ _ (HK.out _ HK5.out) ?_
 clear hK K hHeld
 have hHeld:=HK.out _ HK5.out
 refine wpAnyG_take (i:=7) (v:=?v7x7) rfl (by kernel_rfl) (fun _ _ _ h=>h) (Or.inl ⟨by rfl,?y7x7⟩) hHeld ?r7x7
 case y7x7=>(intro wS hSw; obtain ⟨⟨s1,s2⟩,s3,s4⟩:=hSw; go_simp; try with_reducible rfl)
 simp only [Act.put,List.getElem_toArray,List.getElem_cons_zero,List.getElem_cons_succ,List.setIfInBounds_toArray,List.set_cons_zero,List.set_cons_succ]
 obtain ⟨q0,q1,q2,q3,hz⟩:=HS4.out.1.below HK5.out
 refine wpAnyG_last (i:=8) rfl (by kernel_rfl) (by kernel_rfl) (fun K hK=>?_)
 go_simp
 refine hK.out _ _ ?_
 clear hK K
 refine wpAnyG_done (by kernel_rfl) ?_ _
 clear hHeld
 have HK6:Hid (Below w.heap.size w w5):=HS4.out.2.1.trans (HK5.out.mono HS4.out.2.1.size)
 go_wp2
 refine bodyPost_ret (v:=.tuple #[.string st,.agg #[.int .i64 0,.int .i64 0]]) (by simp [results,Tryz.results7,go_sem,q0,q1,hz]) rfl ⟨rfl,?_⟩
 exact Below.setCell (Below.setCell HK6.out (Nat.le_refl _) _) (Nat.le_refl _) _
end
section
set_option maxRecDepth 100000
open Go.RowKit
namespace BN
def pmask:Nat:=1020032875410759681235134578348735197776366020317731447515308
theorem pm_isp:∀ p,p < 203→Nat.testBit pmask p = isp p:=by decide +kernel
def vk (n:Nat):Nat→Nat
 | 0=>0
 | i + 1=>vk n i + if Nat.testBit pmask (i + 2) && n % (i + 1) == 0 then dN / (i + 2) else 0
theorem pm_dvd:∀ p,p < 203→Nat.testBit pmask p = true→dN / p * p = dN:=by decide +kernel
theorem vk_chk:∀ h,h < 101→h ≠ 0→(bt (2 * h) + (vk (2 * h) (2 * h):Int)) % (dN:Int) = 0:=by decide +kernel
theorem vk_le (n:Nat):∀ i,vk n i≤i * dN
 | 0=>Nat.zero_le _
 | i + 1=>by
  have h:=vk_le n i
  have h2:dN / (i + 2)≤dN:=Nat.div_le_self _ _
  show vk n i + _≤_
  rw [Nat.add_mul,Nat.one_mul]
  split <;> omega
end BN
def vv18 (n i:Nat):Rat:=((BN.bt n + (BN.vk n i:Int):Int):Rat) / (((BN.dN:Nat):Int):Rat)
theorem vv18_zero (n:Nat):vv18 n 0 = bnv n:=by
 show ((BN.bt n + ((0:Nat):Int):Int):Rat) / _ = _
 rw [Int.natCast_zero,Int.add_zero]
 rfl
theorem vv18_no {n i:Nat} (h:(BN.isp (i + 2) && n % (i + 1) == 0) = false) (hi:i≤200):vv18 n (i + 1) = vv18 n i:=by
 rw [← BN.pm_isp (i + 2) (by omega)] at h
 unfold vv18
 show ((BN.bt n + ((BN.vk n i + (if Nat.testBit BN.pmask (i + 2) && n % (i + 1) == 0 then BN.dN / (i + 2) else 0):Nat):Int):Int):Rat) / _ = _
 rw [h,if_neg (by decide),Nat.add_zero]
theorem vv18_yes {n i:Nat} (h:(BN.isp (i + 2) && n % (i + 1) == 0) = true) (hi:i≤200):vv18 n (i + 1) = vv18 n i + ((1:Int):Rat) / (((i + 2:Nat):Int):Rat):=by
 rw [← BN.pm_isp (i + 2) (by omega)] at h
 have h1:Nat.testBit BN.pmask (i + 2) = true:=by
  rw [Bool.and_eq_true] at h; exact h.1
 have h2:=BN.pm_dvd (i + 2) (by omega) h1
 unfold vv18
 have e:BN.vk n (i + 1) = BN.vk n i + BN.dN / (i + 2):=by
  show BN.vk n i + (if Nat.testBit BN.pmask (i + 2) && n % (i + 1) == 0 then BN.dN / (i + 2) else 0) = _
  rw [h,if_pos rfl]
 rw [e]
 have hp:=dN_pos
 generalize BN.dN / (i + 2) = d at h2
 generalize BN.bt n = B
 generalize BN.vk n i = V
 generalize BN.dN = D at h2 hp
 refine rv_add hp hp (by omega) ?_
 rw [← h2]
 simp only [Int.natCast_add,Int.natCast_mul]
 grind
theorem vv18_size {n i:Nat} (hn:n < 202) (hi:i≤200):(BN.bt n + (BN.vk n i:Int)).natAbs < pw 33:=by
 have h1:=bt_size n hn
 have h2:=BN.vk_le n i
 have h3:=dN_size
 have h4:i * BN.dN≤200 * BN.dN:=Nat.mul_le_mul_right _ hi
 have h5:pw 32 + 200 * pw 9 < pw 33:=by decide +kernel
 rw [Int.natAbs_natCast] at h3
 omega
theorem vv18_int {h:Nat} (h1:h < 101) (h2:h ≠ 0):(vv18 (2 * h) (2 * h)).den = 1:=by
 have e:=BN.vk_chk h h1 h2
 have hp:=dN_pos
 obtain ⟨k,hk⟩:=Int.dvd_of_emod_eq_zero e
 have hv:((k:Int):Rat) / ((1:Int):Rat) = vv18 (2 * h) (2 * h):=by
  unfold vv18
  rw [rv_eq (by decide) hp,hk]
  rw [Int.mul_one,Int.mul_comm]
 have:=(val_le (by decide) hv).2
 have h3:=(vv18 (2 * h) (2 * h)).den_pos
 simp at this
 omega
set_option maxHeartbeats 2000000 in
theorem NewRatOne (n:Nat) (w:World) (h1:1≤n) (h2:n < 1000) :
  Calls Tryz.prog 17 #[.int .i64 1,.int .i64 n] w fun e w'=>∃ b,e = .returned (.pointer (some ⟨b,0,none⟩))∧w.heap.size≤b∧Rv w' b (((1:Int):Rat) / ((n:Int):Rat)) 1∧Below w.heap.size w w':=by
 have hn0:((n:Int) == 0) = false:=beq_eq_false_iff_ne.2 (by omega)
 go_enter Tryz.func17,Tryz.ntmps17
 go_wp2_with fail
 have HR0:Hid (RSlot (w.alloc (.cells #[.bool false,.slice none 0 0,.bool false,.slice none 0 0] 39)) w.heap.size):=RSlot.new w _ _ _ _
 have K0:Below w.heap.size w (w.alloc (.cells #[.bool false,.slice none 0 0,.bool false,.slice none 0 0] 39)):=(Below.refl _ _).alloc (Nat.le_refl _) _
 refine (NewInt_any 1 _ (by omega) (by omega)).mono ?_
 rintro e w1 ⟨b1,rfl,m1⟩
 have HR1:Hid (RSlot w1 w.heap.size∧BigAt w1 b1 1∧Below w.heap.size w w1):=⟨HR0.out.below m1.2.2,m1.2.1,K0.trans (m1.2.2.mono (by simp))⟩
 clear m1 HR0 K0
 go_wp2_with fail
 refine (NewInt_any (n:Int) _ (by omega) (by omega)).mono ?_
 rintro e w2 ⟨b2,rfl,m2⟩
 have HR2:Hid (RSlot w2 w.heap.size∧BigAt w2 b1 1∧BigAt w2 b2 n∧Below w.heap.size w w2):=⟨HR1.out.1.below m2.2.2,HR1.out.2.1.below m2.2.2 (Nat.le_refl _),m2.2.1,HR1.out.2.2.trans (m2.2.2.mono HR1.out.2.2.size)⟩
 clear m2 HR1
 go_wp2_with fail
 refine (SetFrac_any w.heap.size b1 0 b2 0 1 n 1 w2 HR2.out.1 HR2.out.2.1.at HR2.out.2.2.1.at (by omega) (by decide) (by show (n:Int).natAbs < pw 1; rw [show pw 1 = 4294967296 from rfl]; omega) (by decide)).mono ?_
 rintro e w3 ⟨rfl,P,Q,r1,r2,r3,r4,u3⟩
 have HE:Hid (Rv w3 w.heap.size (((1:Int):Rat) / ((n:Int):Rat)) 1∧Below w.heap.size w w3):=by
  refine ⟨⟨P,Q,r1,(rv_eq r1.pos (by omega)).2 r2,?_,?_⟩,HR2.out.2.2.2.trans (u3.below HR2.out.2.2.2.size (Nat.le_refl _))⟩
  ·rw [show pw 1 = 4294967296 from rfl]; omega
  ·rw [show pw 1 = 4294967296 from rfl]; omega
 clear r1 r2 r3 r4 u3 HR2
 go_wp2
 go_ret
 exact ⟨w.heap.size,rfl,Nat.le_refl _,HE.out⟩
end
section
set_option maxRecDepth 100000
open Go.RowKit
theorem rat_zero (w:World):RatAt (w.alloc (.cells #[.bool false,.slice none 0 0,.bool false,.slice none 0 0] 39)) w.heap.size 0 0 :=
 ⟨.slice none 0 0,.slice none 0 0,Cl.new _ _ w,⟨[],⟨by simp,.inl ⟨rfl,rfl⟩⟩,rfl,.inl rfl⟩,⟨[],⟨by simp,.inl ⟨rfl,rfl⟩⟩,rfl,.inl rfl⟩⟩
set_option maxHeartbeats 1000000 in
theorem den_zero (b:Nat) (w:World) (hz:RatAt w b 0 0) :
  Calls Tryz.prog 46 #[.pointer (some ⟨b,0,none⟩)] w fun e w'=>∃ d,e = .returned (.pointer (some ⟨d,0,none⟩))∧Made w w' d 1:=by
 obtain ⟨ya,yl,yc,cy0,cy1,ny,hyl⟩:=hz.den.open
 have hyb:((yl:Int) == 0) = true:=by
  have:yl = 0:=by
   rcases Nat.eq_zero_or_pos yl with h | h
   ·exact h
   ·have:=hyl.1 h; simp at this
  rw [this]; rfl
 simp only [Nat.reduceAdd] at cy1
 clear hz ny hyl cy0
 go_enter Tryz.func46,Tryz.ntmps46
 go_wp2_with fail
 refine (NewInt_any 1 w (by omega) (by omega)).mono ?_
 rintro e w1 ⟨d,rfl,m1⟩
 go_wp2
 go_ret
 exact ⟨d,rfl,m1⟩
end
section
set_option maxRecDepth 100000
open Go.RowKit
end
section
set_option maxRecDepth 100000
open Go.RowKit
theorem lt_pw2 {x:Int} (h1 : -9223372036854775808≤x) (h2:x≤9223372036854775807):x.natAbs < pw 2:=by rw [pw_two]; omega
theorem Below.alloc_self (w:World) (o:Obj):Below w.heap.size w (w.alloc o):=Below.alloc (Below.refl _ _) (Nat.le_refl _) _
end
section
set_option maxRecDepth 100000
open Go.RowKit
end
section
set_option maxRecDepth 100000
open Go.RowKit
theorem mulN_lt {x y:Int} {m n:Nat} (hx:x.natAbs < pw m) (hy:y.natAbs < pw n):(x * y).natAbs < pw (m + n):=by
 rw [Int.natAbs_mul,pw_add]; exact Nat.mul_lt_mul'' hx hy
end
section
set_option maxRecDepth 100000
open Go.RowKit LgM
def hj (cs:Nat→Rat) (x:Rat) (L:Nat):Nat→Rat
 | 0=>0
 | j + 1=>hj cs x L j * x + cs (L - 1 - j)
def Cb (cs:Nat→Rat) (L c:Nat):Prop:=∃ (D:Int) (C:Nat→Int),0 < D∧D.natAbs < pw c∧∀ i,i < L→(C i:Rat) / (D:Rat) = cs i∧(C i).natAbs < pw c
structure PR (W:World) (g L:Nat) (bq:Nat→Nat) (cs:Nat→Rat) (M:Nat):Prop where
 cell:∀ i,i < L→W.cell? ⟨g,i,none⟩ = some (.pointer (some ⟨bq i,0,none⟩))
 rat:∀ i,i < L→Rv W (bq i) (cs i) M
def Hs (w W:World) (b:Nat) (cs:Nat→Rat) (n L M j:Nat):Prop:=((j = 0∧RatAt W b 0 0)∨(0 < j∧Rv W b (hj cs (n:Rat) L j) M))∧Below w.heap.size w W
end
end Go.Proofs.YtnkjadpmigpneaaGreatDoor
