import Derived.Test.YtnkjadpmigpneaaGreatDoorJsH
import Derived.Test.YtnkjadpmigpneaaGreatDoorJsA
set_option linter.unusedSimpArgs false
set_option linter.unusedVariables false
namespace Go.Proofs.YtnkjadpmigpneaaGreatDoor
section
set_option maxRecDepth 100000
open Go.RowKit LgM
set_option maxHeartbeats 4000000 in
theorem SPlus_any (vx vy:Value) (x y:Int) (m:Nat) (w:World) (hx:LN w vx x.natAbs) (hy:LN w vy y.natAbs) (hxm:x.natAbs < Bs ^ m) (hym:y.natAbs < Bs ^ m) (hm:m≤100000000) :
  Calls Tryz.prog 87 #[.agg #[vx,.bool (decide (x < 0))],.agg #[vy,.bool (decide (y < 0))]] w fun e w'=>∃ v,e = .returned (.agg #[v,.bool (decide (x + y < 0))])∧LN w' v (x + y).natAbs∧Below w.heap.size w w':=by
 obtain ⟨ax,kx,cx,rfl⟩:=hx.shape
 obtain ⟨ay,ky,cy,rfl⟩:=hy.shape
 obtain ⟨p,hp⟩:∃ p,p = decide (x < 0):=⟨_,rfl⟩
 obtain ⟨q,hq⟩:∃ q,q = decide (y < 0):=⟨_,rfl⟩
 rw [← hp,← hq]
 have HPQ:Hid (p = decide (x < 0)∧q = decide (y < 0)):=⟨hp,hq⟩
 have P0:=Sb.start (.slice ax kx cx) (.slice ay ky cy) p q w
 obtain ⟨W0,hW0⟩:∃ W0,W0 = (((w.alloc (.cells #[.slice ax kx cx,.bool p] 66)).alloc (.cells #[.slice ay ky cy,.bool q] 66)).alloc (.cells #[.slice none 0 0,.bool false] 66)):=⟨_,rfl⟩
 rw [← hW0] at P0
 have z0:W0.heap.size = w.heap.size + 3:=by rw [hW0]; simp
 have KB0:Hid (Below w.heap.size w W0):=by
  show Below _ _ _
  rw [hW0]; exact (((Below.refl _ _).alloc (Nat.le_refl _) _).alloc (by simp) _).alloc (by simp; omega) _
 have HP0:Hid (Sb w.heap.size (.slice ax kx cx) (.slice ay ky cy) p q W0):=P0
 have HZ0:Hid (w.heap.size + 3 = W0.heap.size):=z0.symm
 have HXw:Hid (∀ W,Below W0.heap.size W0 W→LN W (.slice ax kx cx) x.natAbs∧LN W (.slice ay ky cy) y.natAbs):=fun W k=>⟨(hx.below KB0.out).below k,(hy.below KB0.out).below k⟩
 have HM:Hid (x.natAbs < Bs ^ m∧y.natAbs < Bs ^ m):=⟨hxm,hym⟩
 have HS:Hid (∀ W,Below W0.heap.size W0 W→(W.cell? ⟨w.heap.size,0,none⟩ = some (.slice ax kx cx)∧W.cell? ⟨w.heap.size,1,none⟩ = some (.bool p))∧(W.cell? ⟨w.heap.size + 1,0,none⟩ = some (.slice ay ky cy)∧W.cell? ⟨w.heap.size + 1,1,none⟩ = some (.bool q))):=fun W k=>by
  have h:=HP0.out.below k (Nat.le_of_eq HZ0.out)
  have a1:=h.x.cell 0
  have a2:=h.x.cell 1
  have a3:=h.y.cell 0
  have a4:=h.y.cell 1
  simp at a1 a2 a3 a4
  exact ⟨⟨a1,a2⟩,⟨a3,a4⟩⟩
 have hS0:=HS.out W0 (Below.refl _ _)
 clear P0 z0 hx hy hxm hym hp hq
 by_cases hpq:p = q
 ·have hpb:(p == q) = true:=by simp [hpq]
  have hsum:x.natAbs + y.natAbs = (x + y).natAbs:=by
   have h1:=HPQ.out.1
   have h2:=HPQ.out.2
   rw [hpq,h2] at h1
   by_cases h3:y < 0
   ·have h4:x < 0:=by simpa [h3] using h1.symm
    omega
   ·have h4:¬ x < 0:=by simpa [h3] using h1.symm
    omega
  have HFg:Hid ((p && decide ((x + y).natAbs ≠ 0)) = decide (x + y < 0)):=by
   show _ = _
   have h1:=HPQ.out.1
   have h2:=HPQ.out.2
   have h1':=h1
   rw [hpq,h2] at h1
   rw [h1']
   by_cases h3:y < 0
   ·have h4:x < 0:=by simpa [h3] using h1.symm
    have h5:x + y < 0:=by omega
    simp [h4,h5]; omega
   ·have h4:¬ x < 0:=by simpa [h3] using h1.symm
    have h5:¬ x + y < 0:=by omega
    simp [h4,h5]
  have HOp:Hid (∀ W,Below W0.heap.size W0 W→Calls Tryz.prog 96 #[.agg #[.slice ax kx cx],.agg #[.slice ay ky cy]] W fun e w'=>∃ v,e = .returned (.agg #[v])∧LN w' v (x + y).natAbs∧Below W.heap.size W w'):=fun W k=>by
   have:=Plus_any _ _ x.natAbs y.natAbs m W (HXw.out W k).1 (HXw.out W k).2 HM.out.1 HM.out.2 hm
   rw [hsum] at this; exact this
  have HK1:Hid (Below W0.heap.size W0 W0):=Below.refl _ _
  clear hpq hsum
  go_enter Tryz.func87,Tryz.ntmps87
  go_wp2
  rw [← hW0]
  clear hW0 hpb
  refine wp_region_G (fun W=>(W.cell? ⟨w.heap.size,0,none⟩ = some (.slice ax kx cx)∧W.cell? ⟨w.heap.size,1,none⟩ = some (.bool p))∧(W.cell? ⟨w.heap.size + 1,0,none⟩ = some (.slice ay ky cy)∧W.cell? ⟨w.heap.size + 1,1,none⟩ = some (.bool q))) 8 (by kernel_rfl) (HS.out _ HK1.out.drew) (fun hHeld=>?_)
  refine wpAnyG_take (i:=0) (v:=?v0x1) rfl (by kernel_rfl) (fun _ _ _ h=>h) (Or.inl ⟨by rfl,?y0x1⟩) hHeld ?r0x1
  case y0x1=>(intro wS hSw; obtain ⟨⟨s1,s2⟩,s3,s4⟩:=hSw; go_simp; try with_reducible rfl)
  try simp only [Act.put,List.setIfInBounds_toArray,List.set_cons_zero,List.set_cons_succ]
  refine wpAnyG_take (i:=1) (v:=?v1x2) rfl (by kernel_rfl) (fun _ _ _ h=>h) (Or.inl ⟨by rfl,?y1x2⟩) hHeld ?r1x2
  case y1x2=>(intro wS hSw; obtain ⟨⟨s1,s2⟩,s3,s4⟩:=hSw; go_simp; try with_reducible rfl)
  try simp only [Act.put,List.setIfInBounds_toArray,List.set_cons_zero,List.set_cons_succ]
  refine wpAnyG_take (i:=2) (v:=?v2x3) rfl (by kernel_rfl) (fun _ _ _ h=>h) (Or.inl ⟨by rfl,?y2x3⟩) hHeld ?r2x3
  case y2x3=>(intro wS hSw; obtain ⟨⟨s1,s2⟩,s3,s4⟩:=hSw; go_simp; try with_reducible rfl)
  try simp only [Act.put,List.setIfInBounds_toArray,List.set_cons_zero,List.set_cons_succ]
  refine wpAnyG_take (i:=3) (v:=?v3x4) rfl (by kernel_rfl) (fun _ _ _ h=>h) (Or.inl ⟨by rfl,?y3x4⟩) hHeld ?r3x4
  case y3x4=>(intro wS hSw; obtain ⟨⟨s1,s2⟩,s3,s4⟩:=hSw; go_simp; try with_reducible rfl)
  try simp only [Act.put,List.setIfInBounds_toArray,List.set_cons_zero,List.set_cons_succ]
  refine wpAnyG_take (i:=5) (v:=?v5x5) rfl (by kernel_rfl) (fun _ _ _ h=>h) (Or.inl ⟨by rfl,?y5x5⟩) hHeld ?r5x5
  case y5x5=>(intro wS hSw; obtain ⟨⟨s1,s2⟩,s3,s4⟩:=hSw; go_simp; try with_reducible rfl)
  try simp only [Act.put,List.setIfInBounds_toArray,List.set_cons_zero,List.set_cons_succ]
  refine wpAnyG_take (i:=6) (v:=?v6x6) rfl (by kernel_rfl) (fun _ _ _ h=>h) (Or.inl ⟨by rfl,?y6x6⟩) hHeld ?r6x6
  case y6x6=>(intro wS hSw; obtain ⟨⟨s1,s2⟩,s3,s4⟩:=hSw; go_simp; try with_reducible rfl)
  try simp only [Act.put,List.setIfInBounds_toArray,List.set_cons_zero,List.set_cons_succ]
  refine wpAnyG_one (i:=4) rfl (by kernel_rfl) (fun K hK=>?_)
  go_simp
  refine (HOp.out _ HK1.out.drew).mono ?_
  rintro e w2 ⟨v,rfl,hv,k2⟩
  obtain ⟨av,kv,cv,rfl⟩:=hv.shape
  have HV2:Hid (LN w2 (.slice av kv cv) (x + y).natAbs):=hv
  have HK2:Hid (Below W0.heap.size W0 w2):=HK1.out.drew.trans (k2.mono HK1.out.size)
  refine hK.out _ _ (HS.out _ HK2.out) ?_
  clear hv k2
  clear hK K
  try simp only [Act.put,List.setIfInBounds_toArray,List.set_cons_zero,List.set_cons_succ]
  clear hHeld
  have hHeld:=HS.out _ HK2.out
  refine wpAnyG_one (i:=7) rfl (by kernel_rfl) (fun K hK=>?_)
  go_simp
  have hc:=signed_any (.slice av kv cv) (x + y).natAbs p w2 HV2.out
  rw [HFg.out] at hc
  obtain ⟨fl,hfl⟩:∃ fl,fl = decide (x + y < 0):=⟨_,rfl⟩
  have HFl:Hid (fl = decide (x + y < 0)):=hfl
  rw [← hfl] at hc
  clear hfl
  refine hc.mono ?_
  rintro e w3 ⟨rfl,k3⟩
  have HKW:Hid (Below W0.heap.size W0 w3):=HK2.out.trans (k3.mono HK2.out.size)
  have HV:Hid (LN w3 (.slice av kv cv) (x + y).natAbs):=HV2.out.below k3
  refine hK.out _ _ (HS.out _ HKW.out) ?_
  clear hc k3
  clear hK K
  try simp only [Act.put,List.setIfInBounds_toArray,List.set_cons_zero,List.set_cons_succ]
  clear hHeld
  have HP4:Hid (Cl (w.heap.size + 2) [.slice none 0 0,.bool false] 66 w3):=(HP0.out.below HKW.out (Nat.le_of_eq HZ0.out)).z
  have u1:=HP4.out.cell 0
  have u2:=HP4.out.cell 1
  have u3:=HP4.out.frozen 0
  have u4:=HP4.out.frozen 1
  simp at u1 u2
  refine wpAnyG_last (i:=8) rfl (by kernel_rfl) (by kernel_rfl) (fun K hK=>?_)
  go_simp
  refine hK.out _ _ ?_
  clear hK K
  try simp only [Act.put,List.setIfInBounds_toArray,List.set_cons_zero,List.set_cons_succ]
  refine wpAnyG_done (by kernel_rfl) ?_ _
  clear u1 u2 u3 u4
  go_wp2
  have C3:=HP4.out.two (.slice av kv cv) (.bool fl)
  have e1:=C3.cell 0
  have e2:=C3.cell 1
  simp at e1 e2
  refine bodyPost_ret (v:=.agg #[.slice av kv cv,.bool fl]) (by simp [results,Tryz.results87,go_sem,e1,e2]) rfl ⟨_,by rw [HFl.out],?_,?_⟩
  ·exact HV.out.setTwo HP4.out
  ·exact ((KB0.out.trans (HKW.out.mono (by have:=HZ0.out; omega))).setCell (by simp; omega) _).setCell (by simp; omega) _
 ·have hpb:(p == q) = false:=by simp [hpq]
  have HNE:Hid ((x < 0∧¬ y < 0)∨(¬ x < 0∧y < 0)):=by
   show _∨_
   have h1:=HPQ.out.1
   have h2:=HPQ.out.2
   by_cases h3:x < 0 <;> by_cases h4:y < 0
   ·exact absurd (by rw [h1,h2]; simp [h3,h4]) hpq
   ·exact .inl ⟨h3,h4⟩
   ·exact .inr ⟨h3,h4⟩
   ·exact absurd (by rw [h1,h2]; simp [h3,h4]) hpq
  have HCm:Hid (Calls Tryz.prog 79 #[.agg #[.slice ax kx cx],.agg #[.slice ay ky cy]] W0 fun e w'=>e = .returned (.int .i64 (cmI x.natAbs y.natAbs))∧Below W0.heap.size W0 w'):=NCompare_any _ _ _ _ W0 (HXw.out W0 (Below.refl _ _)).1 (HXw.out W0 (Below.refl _ _)).2 m HM.out.1 (by omega)
  obtain ⟨C,hC⟩:∃ C,cmI (x.natAbs:Int) (y.natAbs:Int) = C:=⟨_,rfl⟩
  rw [hC] at HCm
  clear hpq
  by_cases hlt:x.natAbs < y.natAbs
  ·have hCn:C = -1:=by rw [← hC,cmI,if_pos (by omega)]
   subst hCn
   have hdif:y.natAbs - x.natAbs = (x + y).natAbs:=by rcases HNE.out with h | h <;> omega
   have HFg:Hid ((q && decide ((x + y).natAbs ≠ 0)) = decide (x + y < 0)):=by
    show _ = _
    rw [HPQ.out.2]
    rcases HNE.out with h | h
    ·have h5:¬ x + y < 0:=by omega
     simp [h.2,h5]
    ·have h5:x + y < 0:=by omega
     simp [h.2,h5]; omega
   have HOp:Hid (∀ W,Below W0.heap.size W0 W→Calls Tryz.prog 108 #[.agg #[.slice ay ky cy],.agg #[.slice ax kx cx]] W fun e w'=>∃ v,e = .returned (.agg #[v])∧LN w' v (x + y).natAbs∧Below W.heap.size W w'):=fun W k=>by
    have:=NMinus_any _ _ y.natAbs x.natAbs m W (HXw.out W k).2 (HXw.out W k).1 HM.out.2 hm (by omega)
    rw [hdif] at this; exact this
   clear hC hlt hdif
   go_enter Tryz.func87,Tryz.ntmps87
   go_wp2_with fail
   rw [← hW0]
   clear hW0
   refine HCm.out.mono ?_
   rintro e w1 ⟨rfl,k1⟩
   have HK1:Hid (Below W0.heap.size W0 w1):=k1
   clear k1 hS0 hpb
   go_wp2
   refine wp_region_G (fun W=>(W.cell? ⟨w.heap.size,0,none⟩ = some (.slice ax kx cx)∧W.cell? ⟨w.heap.size,1,none⟩ = some (.bool p))∧(W.cell? ⟨w.heap.size + 1,0,none⟩ = some (.slice ay ky cy)∧W.cell? ⟨w.heap.size + 1,1,none⟩ = some (.bool q))) 8 (by kernel_rfl) (HS.out _ HK1.out.drew) (fun hHeld=>?_)
   refine wpAnyG_take (i:=0) (v:=?v0x7) rfl (by kernel_rfl) (fun _ _ _ h=>h) (Or.inl ⟨by rfl,?y0x7⟩) hHeld ?r0x7
   case y0x7=>(intro wS hSw; obtain ⟨⟨s1,s2⟩,s3,s4⟩:=hSw; go_simp; try with_reducible rfl)
   try simp only [Act.put,List.setIfInBounds_toArray,List.set_cons_zero,List.set_cons_succ]
   refine wpAnyG_take (i:=1) (v:=?v1x8) rfl (by kernel_rfl) (fun _ _ _ h=>h) (Or.inl ⟨by rfl,?y1x8⟩) hHeld ?r1x8
   case y1x8=>(intro wS hSw; obtain ⟨⟨s1,s2⟩,s3,s4⟩:=hSw; go_simp; try with_reducible rfl)
   try simp only [Act.put,List.setIfInBounds_toArray,List.set_cons_zero,List.set_cons_succ]
   refine wpAnyG_take (i:=2) (v:=?v2x9) rfl (by kernel_rfl) (fun _ _ _ h=>h) (Or.inl ⟨by rfl,?y2x9⟩) hHeld ?r2x9
   case y2x9=>(intro wS hSw; obtain ⟨⟨s1,s2⟩,s3,s4⟩:=hSw; go_simp; try with_reducible rfl)
   try simp only [Act.put,List.setIfInBounds_toArray,List.set_cons_zero,List.set_cons_succ]
   refine wpAnyG_take (i:=3) (v:=?v3x10) rfl (by kernel_rfl) (fun _ _ _ h=>h) (Or.inl ⟨by rfl,?y3x10⟩) hHeld ?r3x10
   case y3x10=>(intro wS hSw; obtain ⟨⟨s1,s2⟩,s3,s4⟩:=hSw; go_simp; try with_reducible rfl)
   try simp only [Act.put,List.setIfInBounds_toArray,List.set_cons_zero,List.set_cons_succ]
   refine wpAnyG_take (i:=5) (v:=?v5x11) rfl (by kernel_rfl) (fun _ _ _ h=>h) (Or.inl ⟨by rfl,?y5x11⟩) hHeld ?r5x11
   case y5x11=>(intro wS hSw; obtain ⟨⟨s1,s2⟩,s3,s4⟩:=hSw; go_simp; try with_reducible rfl)
   try simp only [Act.put,List.setIfInBounds_toArray,List.set_cons_zero,List.set_cons_succ]
   refine wpAnyG_take (i:=6) (v:=?v6x12) rfl (by kernel_rfl) (fun _ _ _ h=>h) (Or.inl ⟨by rfl,?y6x12⟩) hHeld ?r6x12
   case y6x12=>(intro wS hSw; obtain ⟨⟨s1,s2⟩,s3,s4⟩:=hSw; go_simp; try with_reducible rfl)
   try simp only [Act.put,List.setIfInBounds_toArray,List.set_cons_zero,List.set_cons_succ]
   refine wpAnyG_one (i:=4) rfl (by kernel_rfl) (fun K hK=>?_)
   go_simp
   refine (HOp.out _ HK1.out.drew).mono ?_
   rintro e w2 ⟨v,rfl,hv,k2⟩
   obtain ⟨av,kv,cv,rfl⟩:=hv.shape
   have HV2:Hid (LN w2 (.slice av kv cv) (x + y).natAbs):=hv
   have HK2:Hid (Below W0.heap.size W0 w2):=HK1.out.drew.trans (k2.mono HK1.out.size)
   refine hK.out _ _ (HS.out _ HK2.out) ?_
   clear hv k2
   clear hK K
   try simp only [Act.put,List.setIfInBounds_toArray,List.set_cons_zero,List.set_cons_succ]
   clear hHeld
   have hHeld:=HS.out _ HK2.out
   refine wpAnyG_one (i:=7) rfl (by kernel_rfl) (fun K hK=>?_)
   go_simp
   have hc:=signed_any (.slice av kv cv) (x + y).natAbs q w2 HV2.out
   rw [HFg.out] at hc
   obtain ⟨fl,hfl⟩:∃ fl,fl = decide (x + y < 0):=⟨_,rfl⟩
   have HFl:Hid (fl = decide (x + y < 0)):=hfl
   rw [← hfl] at hc
   clear hfl
   refine hc.mono ?_
   rintro e w3 ⟨rfl,k3⟩
   have HKW:Hid (Below W0.heap.size W0 w3):=HK2.out.trans (k3.mono HK2.out.size)
   have HV:Hid (LN w3 (.slice av kv cv) (x + y).natAbs):=HV2.out.below k3
   refine hK.out _ _ (HS.out _ HKW.out) ?_
   clear hc k3
   clear hK K
   try simp only [Act.put,List.setIfInBounds_toArray,List.set_cons_zero,List.set_cons_succ]
   clear hHeld
   have HP4:Hid (Cl (w.heap.size + 2) [.slice none 0 0,.bool false] 66 w3):=(HP0.out.below HKW.out (Nat.le_of_eq HZ0.out)).z
   have u1:=HP4.out.cell 0
   have u2:=HP4.out.cell 1
   have u3:=HP4.out.frozen 0
   have u4:=HP4.out.frozen 1
   simp at u1 u2
   refine wpAnyG_last (i:=8) rfl (by kernel_rfl) (by kernel_rfl) (fun K hK=>?_)
   go_simp
   refine hK.out _ _ ?_
   clear hK K
   try simp only [Act.put,List.setIfInBounds_toArray,List.set_cons_zero,List.set_cons_succ]
   refine wpAnyG_done (by kernel_rfl) ?_ _
   clear u1 u2 u3 u4
   go_wp2
   have C3:=HP4.out.two (.slice av kv cv) (.bool fl)
   have e1:=C3.cell 0
   have e2:=C3.cell 1
   simp at e1 e2
   refine bodyPost_ret (v:=.agg #[.slice av kv cv,.bool fl]) (by simp [results,Tryz.results87,go_sem,e1,e2]) rfl ⟨_,by rw [HFl.out],?_,?_⟩
   ·exact HV.out.setTwo HP4.out
   ·exact ((KB0.out.trans (HKW.out.mono (by have:=HZ0.out; omega))).setCell (by simp; omega) _).setCell (by simp; omega) _
  ·have hCn:¬ C < 0:=by rw [← hC,cmI,if_neg (by omega)]; split <;> omega
   have hdif:x.natAbs - y.natAbs = (x + y).natAbs:=by rcases HNE.out with h | h <;> omega
   have HFg:Hid ((p && decide ((x + y).natAbs ≠ 0)) = decide (x + y < 0)):=by
    show _ = _
    rw [HPQ.out.1]
    rcases HNE.out with h | h
    ·by_cases h6:x + y = 0
     ·simp [h.1,h6]
     ·have h5:x + y < 0:=by omega
      simp [h.1,h5,h6]
    ·have h5:¬ x + y < 0:=by omega
     simp [h.1,h5]
   have HOp:Hid (∀ W,Below W0.heap.size W0 W→Calls Tryz.prog 108 #[.agg #[.slice ax kx cx],.agg #[.slice ay ky cy]] W fun e w'=>∃ v,e = .returned (.agg #[v])∧LN w' v (x + y).natAbs∧Below W.heap.size W w'):=fun W k=>by
    have:=NMinus_any _ _ x.natAbs y.natAbs m W (HXw.out W k).1 (HXw.out W k).2 HM.out.1 hm (by omega)
    rw [hdif] at this; exact this
   clear hC hlt hdif
   go_enter Tryz.func87,Tryz.ntmps87
   go_wp2_with fail
   rw [← hW0]
   clear hW0
   refine HCm.out.mono ?_
   rintro e w1 ⟨rfl,k1⟩
   have HK1:Hid (Below W0.heap.size W0 w1):=k1
   clear k1 hS0 hpb
   go_wp2
   refine wp_region_G (fun W=>(W.cell? ⟨w.heap.size,0,none⟩ = some (.slice ax kx cx)∧W.cell? ⟨w.heap.size,1,none⟩ = some (.bool p))∧(W.cell? ⟨w.heap.size + 1,0,none⟩ = some (.slice ay ky cy)∧W.cell? ⟨w.heap.size + 1,1,none⟩ = some (.bool q))) 8 (by kernel_rfl) (HS.out _ HK1.out.drew) (fun hHeld=>?_)
   refine wpAnyG_take (i:=0) (v:=?v0x13) rfl (by kernel_rfl) (fun _ _ _ h=>h) (Or.inl ⟨by rfl,?y0x13⟩) hHeld ?r0x13
   case y0x13=>(intro wS hSw; obtain ⟨⟨s1,s2⟩,s3,s4⟩:=hSw; go_simp; try with_reducible rfl)
   try simp only [Act.put,List.setIfInBounds_toArray,List.set_cons_zero,List.set_cons_succ]
   refine wpAnyG_take (i:=1) (v:=?v1x14) rfl (by kernel_rfl) (fun _ _ _ h=>h) (Or.inl ⟨by rfl,?y1x14⟩) hHeld ?r1x14
   case y1x14=>(intro wS hSw; obtain ⟨⟨s1,s2⟩,s3,s4⟩:=hSw; go_simp; try with_reducible rfl)
   try simp only [Act.put,List.setIfInBounds_toArray,List.set_cons_zero,List.set_cons_succ]
   refine wpAnyG_take (i:=2) (v:=?v2x15) rfl (by kernel_rfl) (fun _ _ _ h=>h) (Or.inl ⟨by rfl,?y2x15⟩) hHeld ?r2x15
   case y2x15=>(intro wS hSw; obtain ⟨⟨s1,s2⟩,s3,s4⟩:=hSw; go_simp; try with_reducible rfl)
   try simp only [Act.put,List.setIfInBounds_toArray,List.set_cons_zero,List.set_cons_succ]
   refine wpAnyG_take (i:=3) (v:=?v3x16) rfl (by kernel_rfl) (fun _ _ _ h=>h) (Or.inl ⟨by rfl,?y3x16⟩) hHeld ?r3x16
   case y3x16=>(intro wS hSw; obtain ⟨⟨s1,s2⟩,s3,s4⟩:=hSw; go_simp; try with_reducible rfl)
   try simp only [Act.put,List.setIfInBounds_toArray,List.set_cons_zero,List.set_cons_succ]
   refine wpAnyG_take (i:=5) (v:=?v5x17) rfl (by kernel_rfl) (fun _ _ _ h=>h) (Or.inl ⟨by rfl,?y5x17⟩) hHeld ?r5x17
   case y5x17=>(intro wS hSw; obtain ⟨⟨s1,s2⟩,s3,s4⟩:=hSw; go_simp; try with_reducible rfl)
   try simp only [Act.put,List.setIfInBounds_toArray,List.set_cons_zero,List.set_cons_succ]
   refine wpAnyG_take (i:=6) (v:=?v6x18) rfl (by kernel_rfl) (fun _ _ _ h=>h) (Or.inl ⟨by rfl,?y6x18⟩) hHeld ?r6x18
   case y6x18=>(intro wS hSw; obtain ⟨⟨s1,s2⟩,s3,s4⟩:=hSw; go_simp; try with_reducible rfl)
   try simp only [Act.put,List.setIfInBounds_toArray,List.set_cons_zero,List.set_cons_succ]
   refine wpAnyG_one (i:=4) rfl (by kernel_rfl) (fun K hK=>?_)
   go_simp
   refine (HOp.out _ HK1.out.drew).mono ?_
   rintro e w2 ⟨v,rfl,hv,k2⟩
   obtain ⟨av,kv,cv,rfl⟩:=hv.shape
   have HV2:Hid (LN w2 (.slice av kv cv) (x + y).natAbs):=hv
   have HK2:Hid (Below W0.heap.size W0 w2):=HK1.out.drew.trans (k2.mono HK1.out.size)
   refine hK.out _ _ (HS.out _ HK2.out) ?_
   clear hv k2
   clear hK K
   try simp only [Act.put,List.setIfInBounds_toArray,List.set_cons_zero,List.set_cons_succ]
   clear hHeld
   have hHeld:=HS.out _ HK2.out
   refine wpAnyG_one (i:=7) rfl (by kernel_rfl) (fun K hK=>?_)
   go_simp
   have hc:=signed_any (.slice av kv cv) (x + y).natAbs p w2 HV2.out
   rw [HFg.out] at hc
   obtain ⟨fl,hfl⟩:∃ fl,fl = decide (x + y < 0):=⟨_,rfl⟩
   have HFl:Hid (fl = decide (x + y < 0)):=hfl
   rw [← hfl] at hc
   clear hfl
   refine hc.mono ?_
   rintro e w3 ⟨rfl,k3⟩
   have HKW:Hid (Below W0.heap.size W0 w3):=HK2.out.trans (k3.mono HK2.out.size)
   have HV:Hid (LN w3 (.slice av kv cv) (x + y).natAbs):=HV2.out.below k3
   refine hK.out _ _ (HS.out _ HKW.out) ?_
   clear hc k3
   clear hK K
   try simp only [Act.put,List.setIfInBounds_toArray,List.set_cons_zero,List.set_cons_succ]
   clear hHeld
   have HP4:Hid (Cl (w.heap.size + 2) [.slice none 0 0,.bool false] 66 w3):=(HP0.out.below HKW.out (Nat.le_of_eq HZ0.out)).z
   have u1:=HP4.out.cell 0
   have u2:=HP4.out.cell 1
   have u3:=HP4.out.frozen 0
   have u4:=HP4.out.frozen 1
   simp at u1 u2
   refine wpAnyG_last (i:=8) rfl (by kernel_rfl) (by kernel_rfl) (fun K hK=>?_)
   go_simp
   refine hK.out _ _ ?_
   clear hK K
   try simp only [Act.put,List.setIfInBounds_toArray,List.set_cons_zero,List.set_cons_succ]
   refine wpAnyG_done (by kernel_rfl) ?_ _
   clear u1 u2 u3 u4
   go_wp2
   have C3:=HP4.out.two (.slice av kv cv) (.bool fl)
   have e1:=C3.cell 0
   have e2:=C3.cell 1
   simp at e1 e2
   refine bodyPost_ret (v:=.agg #[.slice av kv cv,.bool fl]) (by simp [results,Tryz.results87,go_sem,e1,e2]) rfl ⟨_,by rw [HFl.out],?_,?_⟩
   ·exact HV.out.setTwo HP4.out
   ·exact ((KB0.out.trans (HKW.out.mono (by have:=HZ0.out; omega))).setCell (by simp; omega) _).setCell (by simp; omega) _
end
section
set_option maxRecDepth 100000
namespace DtM
def sm:Nat→(Nat→Int)→Int
 | 0,_=>0
 | n + 1,f=>sm n f + f n
def sgi (i:Nat):Int:=if i % 2 = 0 then 1 else -1
def mn (i:Nat) (a:Nat→Nat→Int):Nat→Nat→Int:=fun r c=>a (if r < i then r else r + 1) (c + 1)
def det:Nat→(Nat→Nat→Int)→Int
 | 0,_=>1
 | n + 1,a=>sm (n + 1) (fun i=>sgi i * a i 0 * det n (mn i a))
def rp (k:Nat) (v:Nat→Int) (a:Nat→Nat→Int):Nat→Nat→Int:=fun r c=>if r = k then v c else a r c
def sw (k:Nat) (a:Nat→Nat→Int):Nat→Nat→Int:=fun r c=>a (if r = k then k + 1 else if r = k + 1 then k else r) c
def dg (a:Nat→Nat→Int):Nat→Int
 | 0=>1
 | n + 1=>dg a n * a n n
end DtM
end
section
set_option maxRecDepth 100000
namespace DtM
def fact:Nat→Nat
 | 0=>1
 | n + 1=>(n + 1) * fact n
def pb (b:Nat→Nat):Nat→Nat
 | 0=>1
 | n + 1=>pb b n * b n
def mx (k:Nat) (F E:Nat→Nat→Int) (c:Nat→Nat):Nat→Nat→Int:=fun r j=>if r < k then F r (c j) else E r (c j)
def RO (k:Nat) (F M:Nat→Nat→Int):Prop:=∃ e:Int,(e = 1∨e = -1)∧∀ n E c,k≤n→det n (mx k F E c) = e * det n (mx k M E c)
def ins (at':Nat) (v:Nat→Int) (F:Nat→Nat→Int):Nat→Nat→Int:=fun r=>if r < at' then F r else if r = at' then v else F (r - 1)
structure He (k N:Nat) (F:Nat→Nat→Int) (c:Nat→Nat):Prop where
 lt:∀ r,r < k→c r < N
 inc:∀ r s,r < s→s < k→c r < c s
 zero:∀ r,r < k→∀ j,j < c r→F r j = 0
 pos:∀ r,r < k→0 < F r (c r)
structure Hr (k N:Nat) (F:Nat→Nat→Int) (c:Nat→Nat):Prop extends He k N F c where
 red:∀ r s,r < s→s < k→0≤F r (c s)∧F r (c s) < F s (c s)
end DtM
end
section
set_option maxRecDepth 100000
namespace DtM
def Rw (k:Nat) (F' F:Nat→Nat→Int):Prop :=
 ∀ R:(Nat→Nat→Int)→Prop,(∀ G r s x,R G→r < k→s < k→r ≠ s→R (rp r (fun j=>G r j + x * G s j) G))→(∀ G r,R G→r < k→R (rp r (fun j=>-G r j) G))→(∀ G H,R G→(∀ r,r < k→∀ j,H r j = G r j)→R H)→R F→R F'
def Eu (x y x' y':Nat→Int):Prop:=∀ R:(Nat→Int)→(Nat→Int)→Prop,(∀ a b t,R a b→R b (fun j=>a j - t * b j))→(∀ a b,R a b→R (fun j=>-a j) b)→R x y→R x' y'
theorem fd_rest (x y:Int) (hy:y ≠ 0):(x - x.fdiv y * y).natAbs < y.natAbs∧(0≤y→0≤x - x.fdiv y * y)∧(y≤0→x - x.fdiv y * y≤0):=by
 have e:=Int.mul_fdiv_add_fmod x y
 have e2:x - x.fdiv y * y = x.fmod y:=by rw [Int.mul_comm]; omega
 rw [e2]
 rcases Int.lt_or_gt_of_ne hy with h | h
 ·have h1:(x.fmod y) = -((-x).fmod (-y)):=by
   have:=Int.neg_fmod_neg (-x) (-y)
   rw [Int.neg_neg,Int.neg_neg] at this
   exact this
  have h2:=Int.fmod_nonneg_of_pos (-x) (show 0 < -y by omega)
  have h3:=Int.fmod_lt_of_pos (-x) (show 0 < -y by omega)
  rw [h1]; omega
 ·have h2:=Int.fmod_nonneg_of_pos x h
  have h3:=Int.fmod_lt_of_pos x h
  omega
end DtM
end
end Go.Proofs.YtnkjadpmigpneaaGreatDoor
