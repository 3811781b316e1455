import Derived.Test.YtnkjadpmigpneaaGreatDoorJsAa
import Derived.Test.YtnkjadpmigpneaaGreatDoorJsAb
import Derived.Test.YtnkjadpmigpneaaGreatDoorJsC
import Derived.Test.YtnkjadpmigpneaaGreatDoorJsZ
set_option linter.unusedSimpArgs false
set_option linter.unusedVariables false
namespace Go.Proofs.YtnkjadpmigpneaaGreatDoor
section
set_option maxRecDepth 100000
open Go.RowKit
set_option maxHeartbeats 4000000 in
theorem numbers_bad (n:Int) (w:World) (hn:n < 0∨200 < n) (hNm:Calls Tryz.prog 7 #[.int .i64 n] w fun e w'=>e = .returned (.tuple #[.string ⟨#[]⟩,.agg #[.int .i64 3,.int .i64 0]])∧Below w.heap.size w w') (hBg:∀ W,Below w.heap.size w W→Calls Tryz.prog 8 #[] W fun e w'=>e = .returned (.bool true)∧Below W.heap.size W w') :
  Calls Tryz.prog 3 #[.int .i64 n] w fun e w'=>e = .returned (.bool true)∧Below w.heap.size w w':=by
 have HNm:Hid (Calls Tryz.prog 7 #[.int .i64 n] w fun e w'=>e = .returned (.tuple #[.string ⟨#[]⟩,.agg #[.int .i64 3,.int .i64 0]])∧Below w.heap.size w w'):=hNm
 have HBg:Hid (∀ W,Below w.heap.size w W→Calls Tryz.prog 8 #[] W fun e w'=>e = .returned (.bool true)∧Below W.heap.size W w'):=hBg
 have HN:Hid (n < 0∨200 < n):=hn
 clear hNm hBg hn
 go_enter Tryz.func3,Tryz.ntmps3
 go_wp2_with fail
 refine HNm.out.mono ?_
 rintro e w1 ⟨rfl,k1⟩
 obtain ⟨b4,hb4⟩:∃ b4,b4 = w1.heap.size:=⟨_,rfl⟩
 obtain ⟨W2,hW2⟩:∃ W2,W2 = w1.alloc (.cells #[.int .i64 3,.int .i64 0] 23):=⟨_,rfl⟩
 have K2:Hid (Sv b4 3 0 W2∧Below w.heap.size w W2):=by
  show _∧_
  rw [hW2,hb4]
  exact ⟨Sv.new 3 0 w1,k1.alloc k1.size _⟩
 clear k1 HNm
 go_wp2_with fail
 rw [← hW2]
 rw [← hb4]
 clear hW2 hb4
 refine (HBg.out _ K2.out.2).mono ?_
 rintro e w3 ⟨rfl,k3⟩
 have K3:Hid (Sv b4 3 0 w3∧Below w.heap.size w w3):=⟨K2.out.1.below k3,K2.out.2.trans (k3.mono K2.out.2.size)⟩
 have HR:Hid (∀ W,Below w3.heap.size w3 W→W.cell? ⟨b4,0,none⟩ = some (.int .i64 3)∧W.cell? ⟨b4,1,none⟩ = some (.int .i64 0)):=fun W kk=>⟨(K3.out.1.below kk).c0,(K3.out.1.below kk).c1⟩
 clear k3 K2 HBg
 by_cases h0:n < 0
 ·have d0:decide (n < 0) = true:=decide_eq_true h0
  go_wp2
  refine wp_region_G (fun W=>W.cell? ⟨b4,0,none⟩ = some (.int .i64 3)∧W.cell? ⟨b4,1,none⟩ = some (.int .i64 0)) 7 (by kernel_rfl) (HR.out _ (Below.refl _ _).drew) (fun hHeld=>?_)
  refine wpAnyG_take (i:=0) (v:=?v0x1) rfl (by kernel_rfl) (fun _ _ _ h=>h) (Or.inl ⟨by rfl,?y0x1⟩) hHeld ?r0x1
  case y0x1=>(intro wS hSw; obtain ⟨s1,s2⟩:=hSw; go_simp; try with_reducible rfl)
  simp only [Act.put,List.getElem_toArray,List.getElem_cons_zero,List.getElem_cons_succ,List.setIfInBounds_toArray,List.set_cons_zero,List.set_cons_succ]
  refine wpAnyG_one (i:=1) rfl (by kernel_rfl) (fun K hK=>?_)
  go_simp
  refine (F_any 3 0 _).mono ?_
  rintro e w4 ⟨rfl,k4⟩
  have HK4:Hid (Below w3.heap.size w3 w4):=(Below.refl _ _).drew.trans k4
  clear k4
  refine hK.out _ _ (HR.out _ HK4.out) ?_
  clear hK K hHeld
  have hHeld:=HR.out _ HK4.out
  refine wpAnyG_take (i:=2) (v:=.bool true) rfl (by kernel_rfl) (fun _ _ _ h=>h) (Or.inl ⟨by kernel_rfl,?y2x2⟩) hHeld ?r2x2
  case y2x2=>(intro wS hSw; (go_simp))
  simp only [Act.put,List.getElem_toArray,List.getElem_cons_zero,List.getElem_cons_succ,List.setIfInBounds_toArray,List.set_cons_zero,List.set_cons_succ]
  refine wpAnyG_take (i:=3) (v:=.bool true) rfl (by kernel_rfl) (fun _ _ _ h=>h) (Or.inl ⟨by kernel_rfl,?y3x3⟩) hHeld ?r3x3
  case y3x3=>(intro wS hSw; (go_simp))
  simp only [Act.put,List.getElem_toArray,List.getElem_cons_zero,List.getElem_cons_succ,List.setIfInBounds_toArray,List.set_cons_zero,List.set_cons_succ]
  refine wpAnyG_take (i:=4) (v:=?v4x4) rfl (by kernel_rfl) (fun _ _ _ h=>h) (Or.inl ⟨by kernel_rfl,?y4x4⟩) hHeld ?r4x4
  case y4x4=>(intro wS hSw; have s1:=hSw; go_simp; try with_reducible rfl)
  simp only [Act.put,List.getElem_toArray,List.getElem_cons_zero,List.getElem_cons_succ,List.setIfInBounds_toArray,List.set_cons_zero,List.set_cons_succ]
  refine wpAnyG_take (i:=5) (v:=?v5x5) rfl (by kernel_rfl) (fun _ _ _ h=>h) (Or.inl ⟨by kernel_rfl,?y5x5⟩) hHeld ?r5x5
  case y5x5=>(intro wS hSw; have s1:=hSw; go_simp; try with_reducible rfl)
  simp only [Act.put,List.getElem_toArray,List.getElem_cons_zero,List.getElem_cons_succ,List.setIfInBounds_toArray,List.set_cons_zero,List.set_cons_succ]
  refine wpAnyG_take (i:=6) (v:=.bool true) rfl (by kernel_rfl) (fun _ _ _ h=>h) (Or.inl ⟨by kernel_rfl,?y6x6⟩) hHeld ?r6x6
  case y6x6=>(intro wS hSw; (go_simp))
  simp only [Act.put,List.getElem_toArray,List.getElem_cons_zero,List.getElem_cons_succ,List.setIfInBounds_toArray,List.set_cons_zero,List.set_cons_succ]
  refine wpAnyG_last (i:=7) rfl (by kernel_rfl) (by kernel_rfl) (fun K hK=>?_)
  go_simp
  refine hK.out _ _ ?_
  clear hK K
  refine wpAnyG_done (by kernel_rfl) ?_ _
  clear hHeld
  go_wp2
  go_ret
  exact ⟨rfl,K3.out.2.trans (HK4.out.mono K3.out.2.size)⟩
 ·have d0:decide (n < 0) = false:=decide_eq_false h0
  have d1:decide (200 < n) = true:=decide_eq_true (by have:=HN.out; omega)
  go_wp2
  refine wp_region_G (fun W=>W.cell? ⟨b4,0,none⟩ = some (.int .i64 3)∧W.cell? ⟨b4,1,none⟩ = some (.int .i64 0)) 7 (by kernel_rfl) (HR.out _ (Below.refl _ _).drew) (fun hHeld=>?_)
  refine wpAnyG_take (i:=0) (v:=?v0x7) rfl (by kernel_rfl) (fun _ _ _ h=>h) (Or.inl ⟨by rfl,?y0x7⟩) hHeld ?r0x7
  case y0x7=>(intro wS hSw; obtain ⟨s1,s2⟩:=hSw; go_simp; try with_reducible rfl)
  simp only [Act.put,List.getElem_toArray,List.getElem_cons_zero,List.getElem_cons_succ,List.setIfInBounds_toArray,List.set_cons_zero,List.set_cons_succ]
  refine wpAnyG_one (i:=1) rfl (by kernel_rfl) (fun K hK=>?_)
  go_simp
  refine (F_any 3 0 _).mono ?_
  rintro e w4 ⟨rfl,k4⟩
  have HK4:Hid (Below w3.heap.size w3 w4):=(Below.refl _ _).drew.trans k4
  clear k4
  refine hK.out _ _ (HR.out _ HK4.out) ?_
  clear hK K hHeld
  have hHeld:=HR.out _ HK4.out
  refine wpAnyG_take (i:=2) (v:=.bool true) rfl (by kernel_rfl) (fun _ _ _ h=>h) (Or.inl ⟨by kernel_rfl,?y2x8⟩) hHeld ?r2x8
  case y2x8=>(intro wS hSw; (go_simp))
  simp only [Act.put,List.getElem_toArray,List.getElem_cons_zero,List.getElem_cons_succ,List.setIfInBounds_toArray,List.set_cons_zero,List.set_cons_succ]
  refine wpAnyG_take (i:=3) (v:=.bool true) rfl (by kernel_rfl) (fun _ _ _ h=>h) (Or.inl ⟨by kernel_rfl,?y3x9⟩) hHeld ?r3x9
  case y3x9=>(intro wS hSw; (go_simp))
  simp only [Act.put,List.getElem_toArray,List.getElem_cons_zero,List.getElem_cons_succ,List.setIfInBounds_toArray,List.set_cons_zero,List.set_cons_succ]
  refine wpAnyG_take (i:=4) (v:=?v4x10) rfl (by kernel_rfl) (fun _ _ _ h=>h) (Or.inl ⟨by kernel_rfl,?y4x10⟩) hHeld ?r4x10
  case y4x10=>(intro wS hSw; have s1:=hSw; go_simp; try with_reducible rfl)
  simp only [Act.put,List.getElem_toArray,List.getElem_cons_zero,List.getElem_cons_succ,List.setIfInBounds_toArray,List.set_cons_zero,List.set_cons_succ]
  refine wpAnyG_take (i:=5) (v:=?v5x11) rfl (by kernel_rfl) (fun _ _ _ h=>h) (Or.inl ⟨by kernel_rfl,?y5x11⟩) hHeld ?r5x11
  case y5x11=>(intro wS hSw; have s1:=hSw; go_simp; try with_reducible rfl)
  simp only [Act.put,List.getElem_toArray,List.getElem_cons_zero,List.getElem_cons_succ,List.setIfInBounds_toArray,List.set_cons_zero,List.set_cons_succ]
  refine wpAnyG_take (i:=6) (v:=.bool true) rfl (by kernel_rfl) (fun _ _ _ h=>h) (Or.inl ⟨by kernel_rfl,?y6x12⟩) hHeld ?r6x12
  case y6x12=>(intro wS hSw; (go_simp))
  simp only [Act.put,List.getElem_toArray,List.getElem_cons_zero,List.getElem_cons_succ,List.setIfInBounds_toArray,List.set_cons_zero,List.set_cons_succ]
  refine wpAnyG_last (i:=7) rfl (by kernel_rfl) (by kernel_rfl) (fun K hK=>?_)
  go_simp
  refine hK.out _ _ ?_
  clear hK K
  refine wpAnyG_done (by kernel_rfl) ?_ _
  clear hHeld
  go_wp2
  go_ret
  exact ⟨rfl,K3.out.2.trans (HK4.out.mono K3.out.2.size)⟩
theorem bnv_low (n:Nat) (hn:n≤200):(bnv n).num.natAbs < pw 32∧(((bnv n).den:Nat):Int).natAbs < pw 32:=by
 have h:=val_le (v:=bnv n) dN_pos rfl
 have h1:=bt_size n (by omega)
 have h2:((BN.dN:Nat):Int).natAbs < pw 32:=Nat.lt_trans dN_size (by decide +kernel)
 rw [Int.natAbs_natCast]
 exact ⟨Nat.lt_of_le_of_lt h.1 h1,Nat.lt_of_le_of_lt h.2 h2⟩
set_option maxHeartbeats 8000000 in
theorem numbers_ok (nN:Nat) (w:World) (hn:nN≤200) (hNm:Calls Tryz.prog 7 #[.int .i64 (nN:Int)] w fun e w'=>e = .returned (.tuple #[.string ⟨(vtx (bnv nN)).toArray⟩,.agg #[.int .i64 0,.int .i64 0]])∧Below w.heap.size w w') (hBg:∀ W,Below w.heap.size w W→Calls Tryz.prog 8 #[] W fun e w'=>e = .returned (.bool true)∧Below W.heap.size W w') :
  Calls Tryz.prog 3 #[.int .i64 (nN:Int)] w fun e w'=>e = .returned (.bool true)∧Below w.heap.size w w':=by
 obtain ⟨S,hS⟩:∃ S:ByteArray,S = ⟨(vtx (bnv nN)).toArray⟩:=⟨_,rfl⟩
 rw [← hS] at hNm
 have HNm:Hid (Calls Tryz.prog 7 #[.int .i64 (nN:Int)] w fun e w'=>e = .returned (.tuple #[.string S,.agg #[.int .i64 0,.int .i64 0]])∧Below w.heap.size w w'):=hNm
 have HBg:Hid (∀ W,Below w.heap.size w W→Calls Tryz.prog 8 #[] W fun e w'=>e = .returned (.bool true)∧Below W.heap.size W w'):=hBg
 have HSS:Hid (S = ⟨(vtx (bnv nN)).toArray⟩):=hS
 have HFr:Hid (∀ W,Calls Tryz.prog 10 #[.string S] W fun e w'=>∃ b,e = .returned (.tuple #[.pointer (some ⟨b,0,none⟩),.bool true])∧W.heap.size≤b∧Rv w' b (bnv nN) 33∧Below W.heap.size W w'):=fun W=>by
  rw [hS]
  have hl:=bnv_low nN hn
  have hd:(0:Int) < (((bnv nN).den:Nat):Int):=by have:=(bnv nN).den_pos; omega
  refine (Fraction_any (bnv nN).num (((bnv nN).den:Nat):Int) 32 W hd (by rw [Int.natAbs_natCast]; exact (bnv nN).reduced) hl.1 hl.2 (by omega) (by omega)).mono ?_
  rintro e w' ⟨b,rfl,h1,h2,h3⟩
  exact ⟨b,rfl,h1,⟨_,_,h2,frac_val _,Nat.lt_trans hl.1 (by decide +kernel),Nat.lt_trans hl.2 (by decide +kernel)⟩,h3⟩
 obtain ⟨N1,hN1⟩:∃ N1,N1 = nN + 1:=⟨_,rfl⟩
 have hN1i:(nN:Int) + 1 = (N1:Int):=by omega
 have hnN1:nN < N1:=by omega
 have HN1:Hid (N1 = nN + 1):=hN1
 have HBe:Hid (∀ W,Calls Tryz.prog 11 #[.int .i64 (nN:Int)] W fun e w'=>∃ g cap bq,e = .returned (.slice (some ⟨g,0,none⟩) N1 cap)∧N1≤cap∧PR w' g N1 bq bnv 48∧Below W.heap.size W w'):=fun W=>by
  have:=Bernoullis_any nN W hn
  rw [← hN1] at this
  exact this
 have d0:decide ((nN:Int) < 0) = false:=decide_eq_false (by omega)
 have d1:decide (200 < (nN:Int)) = false:=decide_eq_false (by omega)
 clear hNm hBg hS hN1
 go_enter Tryz.func3,Tryz.ntmps3
 go_wp2_with fail
 refine HNm.out.mono ?_
 rintro e w1 ⟨rfl,k1⟩
 obtain ⟨b4,hb4⟩:∃ b4,b4 = w1.heap.size:=⟨_,rfl⟩
 obtain ⟨W2,hW2⟩:∃ W2,W2 = w1.alloc (.cells #[.int .i64 0,.int .i64 0] 23):=⟨_,rfl⟩
 have K2:Hid (Sv b4 0 0 W2∧Below w.heap.size w W2):=by
  show _∧_
  rw [hW2,hb4]
  exact ⟨Sv.new 0 0 w1,k1.alloc k1.size _⟩
 clear k1 HNm
 go_wp2_with fail
 rw [← hW2]
 rw [← hb4]
 clear hW2 hb4
 refine (HBg.out _ K2.out.2).mono ?_
 rintro e w3 ⟨rfl,k3⟩
 have K3:Hid (Sv b4 0 0 w3∧Below w.heap.size w w3):=⟨K2.out.1.below k3,K2.out.2.trans (k3.mono K2.out.2.size)⟩
 clear k3 K2 HBg
 go_wp2_with fail
 refine (HFr.out w3).mono ?_
 rintro e w4 ⟨bf,rfl,hbf,r4,k4⟩
 have K4:Hid (Sv b4 0 0 w4∧Rv w4 bf (bnv nN) 33∧Below w.heap.size w w4):=⟨K3.out.1.below k4,r4,K3.out.2.trans (k4.mono K3.out.2.size)⟩
 obtain ⟨t0,t1,t2,t3,t4⟩:=K4.out.1
 clear hbf r4 k4 K3 HFr
 go_wp2_with fail
 refine (HBe.out w4).mono ?_
 rintro e w5 ⟨g,cap,bq,rfl,hcap,pr5,k5⟩
 have K5:Hid (Rv w5 bf (bnv nN) 33∧Rv w5 (bq nN) (bnv nN) 48∧Below w.heap.size w w5):=⟨K4.out.2.1.below k5,pr5.rat nN hnN1,K4.out.2.2.trans (k5.mono K4.out.2.2.size)⟩
 have q5:=pr5.cell nN hnN1
 obtain ⟨bb,hbb⟩:∃ bb,bb = bq nN:=⟨_,rfl⟩
 rw [← hbb] at K5 q5
 clear pr5 k5 K4 HBe hbb t0 t1 t2 t3 t4
 go_wp2_with fail
 have hrs:=RatStringV bb (bnv nN) 48 w5 K5.out.2.1 (by omega) (by omega)
 rw [← HSS.out] at hrs
 refine hrs.mono ?_
 rintro e w6 ⟨rfl,k6⟩
 have K6:Hid (Rv w6 bf (bnv nN) 33∧Below w.heap.size w w6):=⟨K5.out.1.below k6,K5.out.2.2.trans (k6.mono K5.out.2.2.size)⟩
 clear k6 K5 hrs q5
 by_cases ho:nN % 2 = 1
 ·have e2:((nN:Int) % 2 == 1) = true:=by rw [show (nN:Int) % 2 = ((nN % 2:Nat):Int) from rfl,ho]; rfl
  by_cases h1:nN = 1
  ·have e3:((nN:Int) == 1) = true:=by rw [h1]; rfl
   clear h1
   go_wp2
   go_ret
   exact ⟨rfl,K6.out.2⟩
  ·have e3:((nN:Int) == 1) = false:=beq_eq_false_iff_ne.2 (by omega)
   have HV:Hid (bnv nN = 0):=bnv_odd (by omega) ho h1
   clear h1
   go_wp2_with fail
   refine (RSignV bf (bnv nN) 33 w6 K6.out.1).mono ?_
   rintro e w7 ⟨⟨c,rfl,hc⟩,rfl⟩
   have e4:(c == 0) = true:=beq_iff_eq.2 (hc.2 HV.out)
   clear hc
   go_wp2
   go_ret
   exact ⟨rfl,K6.out.2⟩
 ·have e2:((nN:Int) % 2 == 1) = false:=beq_eq_false_iff_ne.2 (by omega)
  obtain ⟨W7,hW7⟩:∃ W7,W7 = w6.alloc (.cells #[.bool false,.slice none 0 0,.bool false,.slice none 0 0] 39):=⟨_,rfl⟩
  obtain ⟨bx,hbx⟩:∃ bx,bx = w6.heap.size:=⟨_,rfl⟩
  have k7:Below w6.heap.size w6 W7:=by rw [hW7]; exact (Below.refl _ _).alloc (Nat.le_refl _) _
  have K7:Hid (RSlot W7 bx∧Rv W7 bf (bnv nN) 33∧Below w.heap.size w W7∧w.heap.size≤bx) :=
   ⟨by rw [hW7,hbx]; exact RSlot.new _ _ _ _ _,K6.out.1.below k7,K6.out.2.trans (k7.mono K6.out.2.size),by rw [hbx]; exact K6.out.2.size⟩
  have HO:Hid (¬ nN % 2 = 1):=ho
  clear K6 k7 ho
  go_wp2_with fail
  rw [← hW7]
  rw [← hbx]
  clear hW7 hbx
  refine (SetV bx bf (bnv nN) 33 W7 K7.out.1 K7.out.2.1 (by omega)).mono ?_
  rintro e w8 ⟨rfl,r8,u8⟩
  have K8:Hid (Rv w8 bx (vv18 nN 0) 33∧Below w.heap.size w w8∧w.heap.size≤bx):=⟨by rw [vv18_zero]; exact r8,u8.below2 K7.out.2.2.1 K7.out.2.2.2 K7.out.2.2.1.size,K7.out.2.2.2⟩
  clear r8 u8 K7
  go_wp2
  go_loopg [8] nN (fun gk iv wx=>∃ i:Nat,iv = .int .i64 ((i + 2:Nat):Int)∧Hid (gk = nN - i∧i≤nN∧Rv wx bx (vv18 nN i) 33∧Below w.heap.size w wx))
  case atStart=>exact ⟨0,rfl,rfl,by omega,K8.out.1,K8.out.2.1⟩
  case round =>
   obtain ⟨i,rfl,HQ⟩:=hrel
   obtain ⟨h1,h2,h3,h4⟩:=HQ.out
   have HG:Hid (gk = nN - i∧w.heap.size≤bx):=⟨h1,K8.out.2.2⟩
   have HX:Hid (Rv wr bx (vv18 nN i) 33∧Below w.heap.size w wr):=⟨h3,h4⟩
   clear HQ h1 h3 h4
   obtain ⟨p,hp⟩:∃ p,p = i + 2:=⟨_,rfl⟩
   obtain ⟨q,hq⟩:∃ q,q = i + 1:=⟨_,rfl⟩
   have HPq:Hid (p = i + 2∧q = i + 1):=⟨hp,hq⟩
   have hpq:(p:Int) - 1 = (q:Int):=by omega
   have hq0:¬ q = 0:=by omega
   have hq1:¬ (q:Int) = 0:=by omega
   have hp2:2≤p:=by omega
   have hpl:p≤300:=by omega
   rw [← hp]
   by_cases hi:i < nN
   ·have HI:Hid (i < nN):=hi
    have hpN:p≤N1:=by have:=HN1.out; omega
    have ti:decide ((p:Int)≤(N1:Int)) = true:=decide_eq_true (by omega)
    obtain ⟨b,hb⟩:∃ b,b = BN.isp p:=⟨_,rfl⟩
    have HBb:Hid (b = BN.isp p):=hb
    have HIs:Hid (Calls Tryz.prog 15 #[.int .i64 (p:Int)] wr fun e w'=>e = .returned (.bool b)∧w' = wr):=refIsPrime_small p b wr hp2 (by omega) (by rw [hb]; exact BN.isp_iff p)
    clear hb hp hq hi
    go_wp2_with fail
    refine HIs.out.mono ?_
    rintro e w9 ⟨rfl,hw9⟩
    subst hw9
    have HN:∀ i1,i1 = i + 1→((i1:Nat):Int) + 2 = ((i1 + 2:Nat):Int):=fun i1 _=>by omega
    have hp1:(p:Int) + 1 = ((i + 1 + 2:Nat):Int):=by have:=HPq.out.1; omega
    cases b
    ·have HE:Hid (vv18 nN (i + 1) = vv18 nN i):=vv18_no (by rw [← HPq.out.1,← HBb.out]; rfl) (by omega)
     go_wp2
     go_roundg (nN - (i + 1))
     case rel=>exact ⟨i + 1,by go_num,rfl,by have:=HI.out; omega,by rw [HE.out]; exact HX.out.1,HX.out.2⟩
     case measure=>have:=HG.out.1; have:=HI.out; omega
    ·by_cases hd:nN % q = 0
     ·have e5:((nN:Int) % (q:Int) == 0) = true:=by rw [show (nN:Int) % (q:Int) = ((nN % q:Nat):Int) from rfl,hd]; rfl
      have HE:Hid (vv18 nN (i + 1) = vv18 nN i + ((1:Int):Rat) / (((p:Nat):Int):Rat)):=by
       have:=vv18_yes (n:=nN) (i:=i) (by rw [← HPq.out.1,← HBb.out,← HPq.out.2,hd]; rfl) (by omega)
       rw [← HPq.out.1] at this
       exact this
      clear hd
      go_wp2_with fail
      refine (NewRatOne p w9 (by omega) (by omega)).mono ?_
      rintro e w10 ⟨b10,rfl,hb10,r10,k10⟩
      have K10:Hid (Rv w10 bx (vv18 nN i) 33∧Rv w10 b10 (((1:Int):Rat) / (((p:Nat):Int):Rat)) 33∧Below w.heap.size w w10):=⟨HX.out.1.below k10,r10.le (by omega),HX.out.2.trans (k10.mono HX.out.2.size)⟩
      clear hb10 r10 k10
      go_wp2_with fail
      refine (RAddV bx bx b10 _ _ 33 w10 K10.out.1.rslot K10.out.1 K10.out.2.1 (by omega)).mono ?_
      rintro e w11 ⟨rfl,r11,u11⟩
      rw [← HE.out] at r11
      have K11:Hid (Rv w11 bx (vv18 nN (i + 1)) 33∧Below w.heap.size w w11):=⟨r11.low dN_pos rfl (vv18_size (by omega) (by omega)) (Nat.lt_trans dN_size (by decide +kernel)),u11.below2 K10.out.2.2 HG.out.2 K10.out.2.2.size⟩
      clear r11 u11 K10
      go_wp2
      go_roundg (nN - (i + 1))
      case rel=>exact ⟨i + 1,by go_num,rfl,by have:=HI.out; omega,K11.out⟩
      case measure=>have:=HG.out.1; have:=HI.out; omega
     ·have e5:((nN:Int) % (q:Int) == 0) = false:=beq_eq_false_iff_ne.2 (by rw [show (nN:Int) % (q:Int) = ((nN % q:Nat):Int) from rfl]; omega)
      have HE:Hid (vv18 nN (i + 1) = vv18 nN i):=vv18_no (by rw [← HPq.out.2,Bool.and_eq_false_iff]; exact .inr (beq_eq_false_iff_ne.2 hd)) (by omega)
      clear hd
      go_wp2
      go_roundg (nN - (i + 1))
      case rel=>exact ⟨i + 1,by go_num,rfl,by have:=HI.out; omega,by rw [HE.out]; exact HX.out.1,HX.out.2⟩
      case measure=>have:=HG.out.1; have:=HI.out; omega
   ·have ti:decide ((p:Int)≤(N1:Int)) = false:=decide_eq_false (by have:=HN1.out; omega)
    have hpN:¬ p≤N1:=by have:=HN1.out; omega
    obtain rfl:nN = i:=by omega
    by_cases h0:nN = 0
    ·have e6:((nN:Int) == 0) = true:=by rw [h0]; rfl
     clear h0 hp hq
     go_wp2
     go_ret
     exact ⟨rfl,HX.out.2⟩
    ·have e6:((nN:Int) == 0) = false:=beq_eq_false_iff_ne.2 (by omega)
     have HD:Hid (decide ((vv18 nN nN).den = 1) = true):=by
      have:=vv18_int (h:=nN / 2) (by omega) (by have:=HO.out; omega)
      rw [show 2 * (nN / 2) = nN by have:=HO.out; omega] at this
      exact decide_eq_true this
     clear h0 hp hq
     go_wp2_with fail
     have hII:=IsIntV bx (vv18 nN nN) 33 wr HX.out.1 (by omega) (by omega)
     rw [HD.out] at hII
     refine hII.mono ?_
     rintro e w9 ⟨rfl,k9⟩
     have K9:Hid (Below w.heap.size w w9):=HX.out.2.trans (k9.mono HX.out.2.size)
     clear k9 hII
     go_wp2
     go_ret
     exact ⟨rfl,K9.out⟩
end
section
set_option maxRecDepth 100000
open Go.RowKit LgM
theorem bern_numbers (n:Int) (w:World) (hQ:Tq w) (hT:Tb w) :
  Calls Tryz.prog 3 #[.int .i64 n] w fun e w'=>e = .returned (.bool true)∧Below w.heap.size w w':=by
 have hB:∀ W,Below w.heap.size w W→Calls Tryz.prog 8 #[] W fun e w'=>e = .returned (.bool true)∧Below W.heap.size W w':=fun W kk=>bernBegun_of W (Number_ok 12 W (by omega) (hT.below kk) (hQ.below kk))
 by_cases h1:n < 0∨200 < n
 ·exact numbers_bad n w h1 (Number_bad n w h1) hB
 ·obtain ⟨n',rfl⟩:∃ n':Nat,n = n':=⟨n.toNat,by omega⟩
  exact numbers_ok n' w (by omega) (Number_ok n' w (by omega) hT hQ) hB
end
end Go.Proofs.YtnkjadpmigpneaaGreatDoor
