import Derived.Test.YtnkjadpmigpneaaGreatDoorJsF
import Derived.Test.YtnkjadpmigpneaaGreatDoorJsC
set_option linter.unusedSimpArgs false
set_option linter.unusedVariables false
namespace Go.Proofs.YtnkjadpmigpneaaGreatDoor
section
set_option maxRecDepth 100000
open Go.RowKit LgM
theorem LN.shape {w:World} {v:Value} {n:Nat} (h:LN w v n):∃ a k c,v = .slice a k c:=by
 obtain ⟨k,a,g,o,c,e,_⟩:=h.open
 exact ⟨a,k,c,e⟩
def Frs (B:Nat) (v:Value):Prop:=∀ a k c,v = .slice (some a) k c→B≤a.block
theorem SomF.frs {B:Nat} {v:Value} (h:SomF B v):Frs B v:=by
 obtain ⟨a,k,c,rfl,hg⟩:=h
 intro a' k' c' e
 simp at e
 rw [← e.1]; exact hg
theorem Frs.mono {B B':Nat} {v:Value} (h:Frs B v) (hB:B'≤B):Frs B' v:=fun a k c e=>Nat.le_trans hB (h a k c e)
theorem Frs.zero (B:Nat):Frs B (.slice none 0 0):=by intro a k c e; simp at e
theorem LN.setF {w:World} {v:Value} {n b i B:Nat} (h:LN w v n) (hf:Frs B v) (hb:b < B) (u:Value):LN (w.setCell ⟨b,i,none⟩ u) v n:=by
 obtain ⟨j,hj,⟨aa,g,o,c',e,p,cell,lt⟩,hty⟩:=h
 refine ⟨j,hj,⟨aa,g,o,c',e,p,fun t ht=>?_,fun hp=>by have:=lt hp; simp; omega⟩,hty.set _ _⟩
 have h1:=p (by omega)
 rw [h1] at e
 have h2:=hf _ _ _ e
 rw [World.cell?,Below.heap_setCell _ _ _ g (by simp at h2 ⊢; omega)]
 exact cell t ht
set_option maxHeartbeats 4000000 in
theorem digit_any (vx vy:Value) (x y m:Nat) (w:World) (hx:LN w vx x) (hxn:NilOk vx) (hy:LN w vy y) (hxm:x < Bs ^ m) (hm:m≤10000000) (hy0:0 < y) (hxy:x < y * Bs) (B:Nat) (hB:B≤w.heap.size) (hfr:Frs B vx) :
  Calls Tryz.prog 105 #[.agg #[vx],.agg #[vy]] w fun e w'=>∃ v,e = .returned (.tuple #[.int .i64 ((x / y:Nat):Int),.agg #[v]])∧LN w' v (x % y)∧NilOk v∧Frs B v∧Below w.heap.size w w':=by
 obtain ⟨ax,kx,cx,rfl⟩:=hx.shape
 have HX:Hid (LN w (.slice ax kx cx) x):=hx
 have HY:Hid (LN w vy y):=hy
 obtain ⟨ky,ay,gy,oy,cy,rfl,ny,hpy,hcy,hly⟩:=hy.open
 have HXM:Hid (x < Bs ^ m):=hxm
 have HNX:Hid (NilOk (.slice ax kx cx)):=hxn
 have HXY:Hid (x < y * Bs):=hxy
 have HFr:Hid (Frs B (.slice ax kx cx)):=hfr
 have HBw:Hid (B≤w.heap.size):=hB
 clear hfr hB
 have HY0:Hid (0 < y):=hy0
 have P0:=Pb.start (.slice ax kx cx) (.slice ay ky cy) w
 obtain ⟨W0,hW0⟩:∃ W0,W0 = (((w.alloc (.cells #[.slice ax kx cx] 64)).alloc (.cells #[.slice ay ky cy] 64)).alloc (.cells #[.slice none 0 0] 64)):=⟨_,rfl⟩
 rw [← hW0] at P0
 have z0:W0.heap.size = w.heap.size + 3:=by rw [hW0]; simp
 have KB0:Hid (Below w.heap.size w W0):=by
  show Below _ _ _
  rw [hW0]; exact (((Below.refl _ _).alloc (Nat.le_refl _) _).alloc (by simp) _).alloc (by simp; omega) _
 have HP0:Hid (Pb w.heap.size (.slice ax kx cx) (.slice ay ky cy) W0):=P0
 have HZ0:Hid (W0.heap.size = w.heap.size + 3):=z0
 have hk0:0 < ky:=ny.pos.2 hy0
 have HYk:Hid (Nd ky y):=ny
 have HCY:Hid ((0 < ky→ay = some ⟨gy,oy,none⟩)∧(∀ i,i < ky→w.cell? ⟨gy,oy + i,none⟩ = some (.int .i64 ((y / Bs ^ i % Bs:Nat):Int)))∧(0 < ky→gy < w.heap.size)):=⟨hpy,hcy,hly⟩
 have q1:=P0.x.cell 0
 have q2:=P0.y.cell 0
 simp at q1 q2
 have HCmp:Hid (Calls Tryz.prog 79 #[.agg #[.slice ax kx cx],.agg #[.slice ay ky cy]] W0 fun e w'=>e = .returned (.int .i64 (cmI x y))∧Below W0.heap.size W0 w'):=NCompare_any _ _ x y W0 (HX.out.below KB0.out) (HY.out.below KB0.out) m hxm (by omega)
 clear P0 z0 hx hy hxm hxn hxy ny hpy hcy hly hy0
 obtain ⟨C,hC⟩:∃ C,cmI (x:Int) (y:Int) = C:=⟨_,rfl⟩
 rw [hC] at HCmp
 by_cases hlt:x < y
 ·have hCn:C = -1:=by rw [← hC,cmI,if_pos (by omega)]
  subst hCn
  clear hC
  rw [Nat.div_eq_of_lt hlt,Nat.mod_eq_of_lt hlt]
  clear hlt
  go_enter Tryz.func105,Tryz.ntmps105
  go_wp2_with fail
  rw [← hW0]
  refine HCmp.out.mono ?_
  rintro e w1 ⟨rfl,k1⟩
  have hP1:=HP0.out.below k1 (Nat.le_of_eq HZ0.out.symm)
  have q1:=hP1.x.cell 0
  have q2:=hP1.z.cell 0
  have q3:=hP1.z.frozen 0
  simp at q1 q2
  have HK1:Hid (Below w.heap.size w w1):=KB0.out.trans (k1.mono (by have:=HZ0.out; omega))
  have HP1:Hid (Pb w.heap.size (.slice ax kx cx) (.slice ay ky cy) w1):=hP1
  clear hP1 k1 HCmp hW0
  go_wp2
  go_region
  go_wp2
  have C2:=HP1.out.z.set 0 (.slice ax kx cx)
  have q5:((w1.setCell ⟨w.heap.size + 1 + 1,0,none⟩ (.slice ax kx cx)).drew).cell? ⟨w.heap.size + 1 + 1,0,none⟩ = some (.slice ax kx cx):=by
   have:=C2.drew.cell 0
   simpa using this
  refine bodyPost_ret (v:=.tuple #[.int .i64 0,.agg #[.slice ax kx cx]]) (by simp [results,Tryz.results105,go_sem,q5]) rfl ⟨_,rfl,?_,HNX.out,HFr.out,?_⟩
  ·have h1:LN w1 (.slice ax kx cx) x:=HX.out.below HK1.out
   exact (h1.set HP1.out.z _).below (Below.refl _ _).drew
  ·exact (HK1.out.setCell (by simp; omega) _).drew
 ·have hge:y≤x:=by omega
  have hCn:¬ C < 0:=by
   rw [← hC,cmI,if_neg (by omega)]; split <;> omega
  obtain ⟨L,rfl⟩:∃ L,ky = L + 1:=⟨ky - 1,by omega⟩
  obtain rfl:=HCY.out.1 (by omega)
  have hLi:((L + 1:Nat):Int) - 1 = (L:Int):=by omega
  have hym:y < Bs ^ m:=by have:=HXM.out; omega
  have hLm:=HYk.out.le hym
  have HYM:Hid (y < Bs ^ m):=hym
  obtain ⟨yl,hyl⟩:∃ yl,yl = y / Bs ^ L % Bs:=⟨_,rfl⟩
  have hyt:=HYk.out.top (by omega)
  rw [show L + 1 - 1 = L from rfl] at hyt
  have hyl0:yl = y / Bs ^ L:=by rw [hyl,Nat.mod_eq_of_lt hyt.2]
  have hyl1:1≤yl∧yl≤999999999:=by rw [hyl0]; exact ⟨hyt.1,lim_le hyt.2⟩
  have hyz:((yl:Int) == 0) = false:=beq_eq_false_iff_ne.2 (by omega)
  obtain ⟨t1,ht1⟩:∃ t1,t1 = x / Bs ^ (L + 1) % Bs:=⟨_,rfl⟩
  obtain ⟨t0,ht0⟩:∃ t0,t0 = x / Bs ^ L % Bs:=⟨_,rfl⟩
  have h1l:t1≤999999999:=by rw [ht1]; exact limb_lt x _
  have h0l:t0≤999999999:=by rw [ht0]; exact limb_lt x _
  obtain ⟨E,hE⟩:∃ E,E = (t1 * 1000000000 + t0) / yl:=⟨_,rfl⟩
  have HEst:Hid (x / y≤min 999999999 E):=by
   show _≤_
   have g1:x / y≤E:=by
    rw [hE,hyl0,ht1,ht0]
    have:=two_limbs x L (by
     have h1:=HXY.out
     have h2:y * Bs≤Bs ^ (L + 1) * Bs:=Nat.mul_le_mul_right _ (Nat.le_of_lt HYk.out.lt)
     rw [← pow_s] at h2
     exact Nat.lt_of_lt_of_le h1 h2)
    rw [this]
    exact guess_ge x y L hyt.1
   have g2:x / y < Bs:=by
    rw [Nat.div_lt_iff_lt_mul HY0.out,Nat.mul_comm]; exact HXY.out
   have:=lim_le g2
   omega
  have HT:Hid (t1 = x / Bs ^ (L + 1) % Bs∧t0 = x / Bs ^ L % Bs):=⟨ht1,ht0⟩
  have HE:Hid (E = (t1 * 1000000000 + t0) / yl):=hE
  have HyL:Hid (∀ W,Below w.heap.size w W→W.cell? ⟨gy,oy + L,none⟩ = some (.int .i64 (yl:Int))):=by
   intro W hW
   rw [hyl,hW.cell (p:=⟨gy,oy + L,none⟩) (HCY.out.2.2 (by omega))]; exact HCY.out.2.1 L (by omega)
  have HLx:Hid (∀ W,Below w.heap.size w W→LN W (.slice ax kx cx) x):=fun W k=>HX.out.below k
  clear hym hyl hyt hyl0 ht1 ht0 hE hlt hC
  go_enter Tryz.func105,Tryz.ntmps105
  go_wp2_with fail
  rw [← hW0]
  refine HCmp.out.mono ?_
  rintro e w1 ⟨rfl,k1⟩
  have hP1:=HP0.out.below k1 (Nat.le_of_eq HZ0.out.symm)
  have q1:=hP1.x.cell 0
  have q2:=hP1.y.cell 0
  simp at q1 q2
  have HK1:Hid (Below (w.heap.size + 3) W0 w1):=k1.mono (Nat.le_of_eq HZ0.out.symm)
  have HP1:Hid (Pb w.heap.size (.slice ax kx cx) (.slice (some ⟨gy,oy,none⟩) (L + 1) cy) w1):=hP1
  have q3:=HyL.out w1 (KB0.out.trans (HK1.out.mono (by omega)))
  have hLL:(L:Int) < (L:Int) + 1:=by omega
  clear hP1 k1 HCmp hW0
  go_wp2
  refine wp_region_G (fun w'=>w'.cell? ⟨w.heap.size,0,none⟩ = some (.slice ax kx cx)∧w'.cell? ⟨w.heap.size + 1,0,none⟩ = some (.slice (some ⟨gy,oy,none⟩) (L + 1) cy)∧w'.cell? ⟨gy,oy + L,none⟩ = some (.int .i64 (yl:Int))) 16 (by kernel_rfl) ⟨q1,q2,q3⟩ (fun hHeld=>?_)
  refine wpAnyG_take (i:=0) (v:=?v0x1) rfl (by kernel_rfl) (fun _ _ _ h=>h) (Or.inl ⟨by rfl,?y0x1⟩) hHeld ?r0x1
  case y0x1=>(intro wS hSw; obtain ⟨s1,s2,s3⟩:=hSw; go_simp; try with_reducible rfl)
  try simp only [Act.put,List.setIfInBounds_toArray,List.set_cons_zero,List.set_cons_succ]
  refine wpAnyG_take (i:=1) (v:=?v1x2) rfl (by kernel_rfl) (fun _ _ _ h=>h) (Or.inl ⟨by rfl,?y1x2⟩) hHeld ?r1x2
  case y1x2=>(intro wS hSw; obtain ⟨s1,s2,s3⟩:=hSw; go_simp; try with_reducible rfl)
  try simp only [Act.put,List.setIfInBounds_toArray,List.set_cons_zero,List.set_cons_succ]
  refine wpAnyG_take (i:=2) (v:=?v2x3) rfl (by kernel_rfl) (fun _ _ _ h=>h) (Or.inl ⟨by rfl,?y2x3⟩) hHeld ?r2x3
  case y2x3=>(intro wS hSw; obtain ⟨s1,s2,s3⟩:=hSw; go_simp; try with_reducible rfl)
  try simp only [Act.put,List.setIfInBounds_toArray,List.set_cons_zero,List.set_cons_succ]
  refine wpAnyG_take (i:=5) (v:=?v5x4) rfl (by kernel_rfl) (fun _ _ _ h=>h) (Or.inl ⟨by rfl,?y5x4⟩) hHeld ?r5x4
  case y5x4=>(intro wS hSw; obtain ⟨s1,s2,s3⟩:=hSw; go_simp; try with_reducible rfl)
  try simp only [Act.put,List.setIfInBounds_toArray,List.set_cons_zero,List.set_cons_succ]
  refine wpAnyG_take (i:=6) (v:=?v6x5) rfl (by kernel_rfl) (fun _ _ _ h=>h) (Or.inl ⟨by rfl,?y6x5⟩) hHeld ?r6x5
  case y6x5=>(intro wS hSw; obtain ⟨s1,s2,s3⟩:=hSw; go_simp; try with_reducible rfl)
  try simp only [Act.put,List.setIfInBounds_toArray,List.set_cons_zero,List.set_cons_succ]
  refine wpAnyG_take (i:=9) (v:=?v9x6) rfl (by kernel_rfl) (fun _ _ _ h=>h) (Or.inl ⟨by rfl,?y9x6⟩) hHeld ?r9x6
  case y9x6=>(intro wS hSw; obtain ⟨s1,s2,s3⟩:=hSw; go_simp; try with_reducible rfl)
  try simp only [Act.put,List.setIfInBounds_toArray,List.set_cons_zero,List.set_cons_succ]
  refine wpAnyG_take (i:=10) (v:=?v10x7) rfl (by kernel_rfl) (fun _ _ _ h=>h) (Or.inl ⟨by rfl,?y10x7⟩) hHeld ?r10x7
  case y10x7=>(intro wS hSw; obtain ⟨s1,s2,s3⟩:=hSw; go_simp; try with_reducible rfl)
  try simp only [Act.put,List.setIfInBounds_toArray,List.set_cons_zero,List.set_cons_succ]
  refine wpAnyG_take (i:=11) (v:=?v11x8) rfl (by kernel_rfl) (fun _ _ _ h=>h) (Or.inl ⟨by rfl,?y11x8⟩) hHeld ?r11x8
  case y11x8=>(intro wS hSw; obtain ⟨s1,s2,s3⟩:=hSw; go_simp; try with_reducible rfl)
  try simp only [Act.put,List.setIfInBounds_toArray,List.set_cons_zero,List.set_cons_succ]
  refine wpAnyG_take (i:=12) (v:=?v12x9) rfl (by kernel_rfl) (fun _ _ _ h=>h) (Or.inl ⟨by rfl,?y12x9⟩) hHeld ?r12x9
  case y12x9=>(intro wS hSw; obtain ⟨s1,s2,s3⟩:=hSw; go_simp; try with_reducible rfl)
  try simp only [Act.put,List.setIfInBounds_toArray,List.set_cons_zero,List.set_cons_succ]
  refine wpAnyG_take (i:=13) (v:=?v13x10) rfl (by kernel_rfl) (fun _ _ _ h=>h) (Or.inl ⟨by rfl,?y13x10⟩) hHeld ?r13x10
  case y13x10=>(intro wS hSw; obtain ⟨s1,s2,s3⟩:=hSw; go_simp; try with_reducible rfl)
  try simp only [Act.put,List.setIfInBounds_toArray,List.set_cons_zero,List.set_cons_succ]
  clear hLL
  refine wpAnyG_one (i:=3) rfl (by kernel_rfl) (fun K hK=>?_)
  go_simp
  have HKd:Hid (Below (w.heap.size + 3) W0 w1.drew):=HK1.out.drew
  have hl1:=limb_any (.slice ax kx cx) x (L + 1) w1.drew (HLx.out _ (KB0.out.trans (HKd.out.mono (by omega)))) (by omega)
  rw [← HT.out.1] at hl1
  have hl0:∀ W,Below (w.heap.size + 3) W0 W→Calls Tryz.prog 116 #[.agg #[.slice ax kx cx],.int .i64 (L:Int)] W fun e w'=>e = .returned (.int .i64 (t0:Int))∧Below W.heap.size W w':=by
   intro W hW
   have:=limb_any (.slice ax kx cx) x L W (HLx.out _ (KB0.out.trans (hW.mono (by omega)))) (by omega)
   rw [← HT.out.2] at this
   exact this
  have HL0:Hid (∀ W,Below (w.heap.size + 3) W0 W→Calls Tryz.prog 116 #[.agg #[.slice ax kx cx],.int .i64 (L:Int)] W fun e w'=>e = .returned (.int .i64 (t0:Int))∧Below W.heap.size W w'):=hl0
  clear hl0
  have hwL:IntKind.i64.wrap ((L:Int) + 1) = ((L + 1:Nat):Int):=by rw [IntKind.wrap_i64] <;> omega
  rw [hwL]
  clear hwL
  refine hl1.mono ?_
  rintro e w2 ⟨rfl,k2⟩
  have zk:w.heap.size + 3≤w1.drew.heap.size:=by have:=HKd.out.size; have:=HZ0.out; omega
  have HK2:Hid (Below (w.heap.size + 3) W0 w2):=HKd.out.trans (k2.mono zk)
  have hP2:=HP0.out.below HK2.out (Nat.le_refl _)
  have hH2:w2.cell? ⟨w.heap.size,0,none⟩ = some (.slice ax kx cx)∧w2.cell? ⟨w.heap.size + 1,0,none⟩ = some (.slice (some ⟨gy,oy,none⟩) (L + 1) cy)∧w2.cell? ⟨gy,oy + L,none⟩ = some (.int .i64 (yl:Int)):=by
   have a1:=hP2.x.cell 0
   have a2:=hP2.y.cell 0
   simp at a1 a2
   exact ⟨a1,a2,HyL.out _ (KB0.out.trans (HK2.out.mono (by omega)))⟩
  refine hK.out _ _ hH2 ?_
  clear hl1 k2 hP2 zk
  clear hK K
  try simp only [Act.put,List.setIfInBounds_toArray,List.set_cons_zero,List.set_cons_succ]
  clear hHeld
  have hHeld:=hH2
  obtain ⟨M1,hM1⟩:∃ M1,M1 = t1 * 1000000000:=⟨_,rfl⟩
  have hw1:IntKind.i64.wrap ((t1:Int) * 1000000000) = (M1:Int):=by rw [IntKind.wrap_i64] <;> omega
  refine wpAnyG_take (i:=4) (v:=?v4x11) rfl (by kernel_rfl) (fun _ _ _ h=>h) (Or.inl ⟨by rfl,?y4x11⟩) hHeld ?r4x11
  case y4x11=>(intro wS hSw; obtain ⟨s1,s2,s3⟩:=hSw; go_simp; try with_reducible rfl)
  try simp only [Act.put,List.setIfInBounds_toArray,List.set_cons_zero,List.set_cons_succ]
  clear hw1
  refine wpAnyG_one (i:=7) rfl (by kernel_rfl) (fun K hK=>?_)
  go_simp
  refine (HL0.out w2 HK2.out).mono ?_
  rintro e w3 ⟨rfl,k3⟩
  have zk:w.heap.size + 3≤w2.heap.size:=by have:=HK2.out.size; have:=HZ0.out; omega
  have HK3:Hid (Below (w.heap.size + 3) W0 w3):=HK2.out.trans (k3.mono zk)
  have hP3:=HP0.out.below HK3.out (Nat.le_refl _)
  have hH3:w3.cell? ⟨w.heap.size,0,none⟩ = some (.slice ax kx cx)∧w3.cell? ⟨w.heap.size + 1,0,none⟩ = some (.slice (some ⟨gy,oy,none⟩) (L + 1) cy)∧w3.cell? ⟨gy,oy + L,none⟩ = some (.int .i64 (yl:Int)):=by
   have a1:=hP3.x.cell 0
   have a2:=hP3.y.cell 0
   simp at a1 a2
   exact ⟨a1,a2,HyL.out _ (KB0.out.trans (HK3.out.mono (by omega)))⟩
  refine hK.out _ _ hH3 ?_
  clear k3 hP3 zk hH2
  clear hK K
  try simp only [Act.put,List.setIfInBounds_toArray,List.set_cons_zero,List.set_cons_succ]
  clear hHeld
  have hHeld:=hH3
  have hyne:¬ yl = 0:=by omega
  obtain ⟨M2,hM2⟩:∃ M2,M2 = M1 + t0:=⟨_,rfl⟩
  have hw2:IntKind.i64.wrap ((M1:Int) + (t0:Int)) = (M2:Int):=by rw [IntKind.wrap_i64] <;> omega
  have hEM:E = M2 / yl:=by rw [HE.out,hM2,hM1]
  have hEle:E≤1000000000000000000:=by rw [hEM]; have:=Nat.div_le_self M2 yl; omega
  have hw3:IntKind.i64.wrap ((M2:Int).tdiv (yl:Int)) = (E:Int):=by
   have:(M2:Int).tdiv (yl:Int) = (E:Int):=by rw [hEM,Int.ofNat_tdiv]
   rw [this,IntKind.wrap_i64] <;> omega
  clear hM1 hM2 hEM
  refine wpAnyG_take (i:=8) (v:=?v8x12) rfl (by kernel_rfl) (fun _ _ _ h=>h) (Or.inl ⟨by rfl,?y8x12⟩) hHeld ?r8x12
  case y8x12=>(intro wS hSw; obtain ⟨s1,s2,s3⟩:=hSw; go_simp; try with_reducible rfl)
  try simp only [Act.put,List.setIfInBounds_toArray,List.set_cons_zero,List.set_cons_succ]
  refine wpAnyG_take (i:=14) (v:=?v14x13) rfl (by kernel_rfl) (fun _ _ _ h=>h) (Or.inl ⟨by rfl,?y14x13⟩) hHeld ?r14x13
  case y14x13=>(intro wS hSw; obtain ⟨s1,s2,s3⟩:=hSw; go_simp; try with_reducible rfl)
  try simp only [Act.put,List.setIfInBounds_toArray,List.set_cons_zero,List.set_cons_succ]
  refine wpAnyG_take (i:=15) (v:=?v15x14) rfl (by kernel_rfl) (fun _ _ _ h=>h) (Or.inl ⟨by rfl,?y15x14⟩) hHeld ?r15x14
  case y15x14=>(intro wS hSw; obtain ⟨s1,s2,s3⟩:=hSw; go_simp; try with_reducible rfl)
  try simp only [Act.put,List.setIfInBounds_toArray,List.set_cons_zero,List.set_cons_succ]
  clear hw2 hw3 hyne
  refine wpAnyG_last (i:=16) rfl (by kernel_rfl) (by kernel_rfl) (fun K hK=>?_)
  go_simp
  refine hK.out _ _ ?_
  clear hK K
  try simp only [Act.put,List.setIfInBounds_toArray,List.set_cons_zero,List.set_cons_succ]
  refine wpAnyG_done (by kernel_rfl) ?_ _
  obtain ⟨M2,hM2⟩:∃ M2,M2 = t1 * 1000000000 + t0:=⟨_,rfl⟩
  obtain ⟨S,hS⟩:∃ S,S = min 999999999 E:=⟨_,rfl⟩
  have hw2:IntKind.i64.wrap ((t1:Int) * 1000000000 + (t0:Int)) = (M2:Int):=by rw [IntKind.wrap_i64] <;> omega
  have hEM:E = M2 / yl:=by rw [HE.out,hM2]
  have hEle2:E≤1000000000000000000:=by rw [hEM]; have:=Nat.div_le_self M2 yl; omega
  have hw3:IntKind.i64.wrap ((M2:Int).tdiv (yl:Int)) = (E:Int):=by
   have:(M2:Int).tdiv (yl:Int) = (E:Int):=by rw [hEM,Int.ofNat_tdiv]
   rw [this,IntKind.wrap_i64] <;> omega
  have hw4:min (999999999:Int) (E:Int) = (S:Int):=by omega
  rw [hw2,hw3,hw4]
  have hSl:S≤999999999:=by omega
  have HSx:Hid (x / y≤S):=by have:=HEst.out; show _≤_; omega
  clear hw2 hw3 hw4 hEM hEle2 hM2 hS
  rename_i KK
  have HYw:Hid (∀ W,Below (w.heap.size + 3) W0 W→LN W (.slice (some ⟨gy,oy,none⟩) (L + 1) cy) y):=fun W k=>(HY.out.below KB0.out).below (k.mono (by have:=HZ0.out; omega))
  have HXw:Hid (∀ W,Below (w.heap.size + 3) W0 W→LN W (.slice ax kx cx) x):=fun W k=>(HX.out.below KB0.out).below (k.mono (by have:=HZ0.out; omega))
  have HTm:Hid (Calls Tryz.prog 97 #[.agg #[.slice (some ⟨gy,oy,none⟩) (L + 1) cy],.int .i64 (S:Int)] w3 fun e w'=>∃ v,e = .returned (.agg #[v])∧LN w' v (y * S)∧Below w3.heap.size w3 w'):=Times_any _ y S m w3 (HYw.out _ HK3.out) HYM.out (by omega) (by omega)
  have q1:=hH3.1
  have q2:=hH3.2.1
  have HZ3:Hid (w.heap.size + 3≤w3.heap.size):=by have:=HK3.out.size; have:=HZ0.out; show _≤_; omega
  clear hH3 hHeld
  go_wp2_with fail
  refine HTm.out.mono ?_
  rintro e w4 ⟨pv,rfl,hpv,k4⟩
  obtain ⟨ap,kp,cp,rfl⟩:=hpv.shape
  have z4:w3.heap.size≤w4.heap.size:=k4.size
  obtain ⟨b8,hb8⟩:∃ b8,b8 = w4.heap.size:=⟨_,rfl⟩
  have hb8l:w.heap.size + 3≤b8:=by have:=HZ3.out; omega
  obtain ⟨W5,hW5⟩:∃ W5,W5 = w4.alloc (.cells #[.slice ap kp cp] 64):=⟨_,rfl⟩
  have HR5:Hid (Cl b8 [.slice ap kp cp] 64 W5∧LN W5 (.slice ap kp cp) (y * S)∧Below (w.heap.size + 3) W0 W5):=by
   refine ⟨?_,?_,?_⟩
   ·rw [hW5,hb8]; exact Cl.new [.slice ap kp cp] 64 w4
   ·rw [hW5]; exact hpv.below ((Below.refl _ _).alloc (Nat.le_refl _) _)
   ·rw [hW5]
    exact (HK3.out.trans (k4.mono HZ3.out)).alloc (by omega) _
  have HB8:Hid (w.heap.size + 3≤b8):=hb8l
  clear hpv k4 z4 HTm hb8l q1 q2
  go_wp2
  rw [← hW5,← hb8]
  clear hW5 hb8
  go_loopw [7] (fun ev wx=>∃ (s:Nat) (ap:Option Addr) (kp cp:Nat),s≤999999999∧ev = .int .i64 (s:Int)∧Hid (x / y≤s∧Cl b8 [.slice ap kp cp] 64 wx∧LN wx (.slice ap kp cp) (y * s)∧Below (w.heap.size + 3) W0 wx)) (fun ev _=>(intOf ev).toNat)
  case atStart=>exact ⟨S,ap,kp,cp,hSl,rfl,HSx.out,HR5.out.1,HR5.out.2.1,HR5.out.2.2⟩
  case round =>
   clear HR5 HSx hSl HK3 HK2 HKd HK1 HP1 HEst HL0
   obtain ⟨s,ap,kp,cp,hs,rfl,HR⟩:=hrel
   have hP:=HP0.out.below HR.out.2.2.2 (Nat.le_refl _)
   have q1:=hP.x.cell 0
   have q2:=HR.out.2.1.cell 0
   simp at q1 q2
   have HPw:Hid (Pb w.heap.size (.slice ax kx cx) (.slice (some ⟨gy,oy,none⟩) (L + 1) cy) wr):=hP
   clear hP
   have hysm:y * s < Bs ^ (m + 1):=by
    rw [pow_s]
    have h1:=HYM.out
    have h2:y * s≤y * Bs:=Nat.mul_le_mul_left _ (by unfold Bs; omega)
    have h3:y * Bs < Bs ^ m * Bs:=Nat.mul_lt_mul_of_pos_right h1 (by decide)
    omega
   have HYS:Hid (y * s < Bs ^ (m + 1)):=hysm
   have HCm:Hid (Calls Tryz.prog 79 #[.agg #[.slice ap kp cp],.agg #[.slice ax kx cx]] wr fun e w'=>e = .returned (.int .i64 (cmI (y * s:Nat) x))∧Below wr.heap.size wr w'):=NCompare_any _ _ (y * s) x wr HR.out.2.2.1 (HXw.out _ HR.out.2.2.2) (m + 1) hysm (by omega)
   clear hysm
   have HZr:Hid (w.heap.size + 3≤wr.heap.size):=by have:=HR.out.2.2.2.size; have:=HZ0.out; show _≤_; omega
   obtain ⟨C2,hC2⟩:∃ C2,cmI ((y * s:Nat):Int) (x:Int) = C2:=⟨_,rfl⟩
   rw [hC2] at HCm
   by_cases hgt:x < y * s
   ·have hCp:C2 = 1:=by rw [← hC2,cmI,if_neg (by omega),if_pos (by omega)]
    subst hCp
    have HGT:Hid (x < y * s):=hgt
    obtain ⟨s',rfl⟩:∃ s',s = s' + 1:=by
     rcases s with _ | s
     ·simp at hgt
     ·exact ⟨s,rfl⟩
    have hsi:((s' + 1:Nat):Int) - 1 = (s':Int):=by omega
    clear hC2 hgt
    go_wp2_with fail
    refine HCm.out.mono ?_
    rintro e w6 ⟨rfl,k6⟩
    have HK6:Hid (Below (w.heap.size + 3) W0 w6):=HR.out.2.2.2.trans (k6.mono HZr.out)
    have hP6:=HP0.out.below HK6.out (Nat.le_refl _)
    have HC6:Hid (Cl b8 [.slice ap kp cp] 64 w6):=HR.out.2.1.below k6
    have q3:=hP6.y.cell 0
    have q4:=HC6.out.cell 0
    simp at q3 q4
    have HMn:Hid (Calls Tryz.prog 108 #[.agg #[.slice ap kp cp],.agg #[.slice (some ⟨gy,oy,none⟩) (L + 1) cy]] w6 fun e w'=>∃ v,e = .returned (.agg #[v])∧LN w' v (y * (s' + 1) - y)∧Below w6.heap.size w6 w'):=NMinus_any _ _ (y * (s' + 1)) y (m + 1) w6 (HR.out.2.2.1.below k6) (HYw.out _ HK6.out) HYS.out (by omega) (Nat.le_mul_of_pos_right _ (by omega))
    have HZ6:Hid (w.heap.size + 3≤w6.heap.size):=by have:=k6.size; have:=HZr.out; show _≤_; omega
    clear hP6 k6 q1 q2 HCm
    go_wp2_with fail
    refine HMn.out.mono ?_
    rintro e w7 ⟨pv,rfl,hpv,k7⟩
    obtain ⟨ap',kp',cp',rfl⟩:=hpv.shape
    have HC7:Hid (Cl b8 [.slice ap kp cp] 64 w7):=HC6.out.below k7
    have q5:=HC7.out.cell 0
    have q6:=HC7.out.frozen 0
    simp at q5
    have HN7:Hid (Cl b8 [.slice ap' kp' cp'] 64 (w7.setCell ⟨b8,0,none⟩ (.slice ap' kp' cp'))∧LN (w7.setCell ⟨b8,0,none⟩ (.slice ap' kp' cp')) (.slice ap' kp' cp') (y * s')∧Below (w.heap.size + 3) W0 (w7.setCell ⟨b8,0,none⟩ (.slice ap' kp' cp'))):=by
     refine ⟨HC7.out.set 0 _,?_,((HK6.out.trans (k7.mono HZ6.out)).setCell (by have:=HB8.out; simpa using this) _)⟩
     have:=hpv.set HC7.out (.slice ap' kp' cp')
     rw [Nat.mul_add,Nat.mul_one,Nat.add_sub_cancel] at this
     exact this
    clear hpv k7 HMn q3 q4
    go_wp2
    go_roundw
    case rel =>
     refine ⟨s',ap',kp',cp',by omega,by first | rfl | go_num,?_,HN7.out.1,HN7.out.2.1,HN7.out.2.2⟩
     have h1:=HGT.out
     have h2:x / y < s' + 1:=by rw [Nat.div_lt_iff_lt_mul HY0.out,Nat.mul_comm]; exact h1
     omega
    case measure=>simp [intOf]
   ·have hCp:¬ 0 < C2:=by rw [← hC2,cmI]; split <;> (try split) <;> omega
    have HLE:Hid (y * s≤x):=by show _≤_; omega
    clear hC2 hgt
    go_wp2_with fail
    refine HCm.out.mono ?_
    rintro e w6 ⟨rfl,k6⟩
    have HK6:Hid (Below (w.heap.size + 3) W0 w6):=HR.out.2.2.2.trans (k6.mono HZr.out)
    have hP6:=HP0.out.below HK6.out (Nat.le_refl _)
    have HC6:Hid (Cl b8 [.slice ap kp cp] 64 w6):=HR.out.2.1.below k6
    have q3:=hP6.x.cell 0
    have q4:=HC6.out.cell 0
    simp at q3 q4
    have HMn:Hid (Calls Tryz.prog 108 #[.agg #[.slice ax kx cx],.agg #[.slice ap kp cp]] w6 fun e w'=>∃ v,e = .returned (.agg #[v])∧LN w' v (x - y * s)∧SomF w6.heap.size v∧Below w6.heap.size w6 w'):=NMinus_some _ _ x (y * s) m w6 (HXw.out _ HK6.out) (HR.out.2.2.1.below k6) HXM.out (by omega) HLE.out
    have HZ6:Hid (w.heap.size + 3≤w6.heap.size):=by have:=k6.size; have:=HZr.out; show _≤_; omega
    clear hP6 k6 q1 q2 HCm
    go_wp2_with fail
    refine HMn.out.mono ?_
    rintro e w7 ⟨pv,rfl,hpv,hso,k7⟩
    have HSf:Hid (Frs B pv):=hso.frs.mono (by have:=HZ6.out; have:=HBw.out; omega)
    obtain ⟨ap',kp',cp',rfl,hge⟩:=hso
    clear hge
    have HK7:Hid (Below (w.heap.size + 3) W0 w7):=HK6.out.trans (k7.mono HZ6.out)
    have hP7:=HP0.out.below HK7.out (Nat.le_refl _)
    have q5:=hP7.z.cell 0
    have q6:=hP7.z.frozen 0
    simp at q5
    have HP7:Hid (Pb w.heap.size (.slice ax kx cx) (.slice (some ⟨gy,oy,none⟩) (L + 1) cy) w7):=hP7
    have HV:Hid (LN w7 (.slice (some ap') kp' cp') (x - y * s)):=hpv
    have HQ:Hid (s = x / y∧x - y * s = x % y):=by
     have h1:=HLE.out
     have h2:=HR.out.1
     have h3:s≤x / y:=by rw [Nat.le_div_iff_mul_le HY0.out,Nat.mul_comm]; exact h1
     have h4:s = x / y:=by omega
     refine ⟨h4,?_⟩
     rw [h4]
     have:=Nat.div_add_mod x y
     omega
    clear hpv k7 HMn q3 q4 hP7
    go_wp2
    have C2:=HP7.out.z.set 0 (.slice (some ap') kp' cp')
    have q7:=C2.cell 0
    simp at q7
    rw [← HQ.out.1,← HQ.out.2]
    refine bodyPost_ret (v:=.tuple #[.int .i64 (s:Int),.agg #[.slice (some ap') kp' cp']]) (by simp [results,Tryz.results105,go_sem,q7]) rfl ⟨_,rfl,?_,Som.nilOk ⟨_,_,_,rfl⟩,HSf.out,?_⟩
    ·exact HV.out.set HP7.out.z _
    ·exact (KB0.out.trans (HK7.out.mono (by omega))).setCell (by simp; omega) _
end
section
set_option maxRecDepth 100000
open Go.RowKit
section
variable {P:Program} {ops:Array Oper} {Q:Exit→Act→World→Prop} {md:Region.Mode} {S:World→Prop}
def StepG (P:Program) (ops:Array Oper) (Q:Exit→Act→World→Prop) (S:World→Prop) (g:Nat) (I:Nat→Array Bool→Act→World→Prop) (n:Nat) (l:Array Bool) (a:Act) (w:World) (i:Nat):Prop :=
 ∃ o,ops[i]? = some o∧∀ K':Act→World→Prop,Hid (∀ a w,(l.getD g false = false→i ≠ g→S w)→I n (l.setIfInBounds i true) a w→K' a w)→if Region.wanted o (yielded ops a.tmps) = true then Oper.wp P o a w K' Q else K' (a.put o.dst undef) w
theorem wpAnyG_inv {g:Nat} (I:Nat→Array Bool→Act→World→Prop)
  (h:∀ n l a w,I n l a w→(Region.ready md ops l = []∧Q .normal a w)∨(∃ m L,n = m + 1∧Region.ready md ops l = L∧L ≠ []∧∀ i ∈ L,StepG P ops Q S g I m l a w i)) :
  ∀ n l a w,I n l a w→wpAnyG P md ops Q S g n l a w:=by
 intro n
 induction n with
 | zero =>
  intro l a w hi
  rcases h 0 l a w hi with h1 | ⟨m,L,h1,_⟩
  ·exact h1
  ·omega
 | succ n ih =>
  intro l a w hi
  rcases h (n + 1) l a w hi with ⟨h1,h2⟩ | ⟨m,L,h1,h2,h3,h4⟩
  ·exact wpAnyG_done h1 h2 _
  ·obtain rfl:n = m:=by omega
   refine ⟨fun h0=>(h3 (h2.symm.trans h0)).elim,fun i hi'=>?_⟩
   rw [h2] at hi'
   obtain ⟨o,ho,hs⟩:=h4 i hi'
   exact wpOp_step ho fun K' hK=>hs K' (fun a w h1 h2=>hK a w ⟨h1,ih _ _ _ h2⟩)
end
end
end Go.Proofs.YtnkjadpmigpneaaGreatDoor
