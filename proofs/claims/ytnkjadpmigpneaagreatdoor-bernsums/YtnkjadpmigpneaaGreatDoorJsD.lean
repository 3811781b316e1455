import Derived.Test.YtnkjadpmigpneaaGreatDoorJsC
import Derived.Test.YtnkjadpmigpneaaGreatDoorJsA
set_option linter.unusedSimpArgs false
set_option linter.unusedVariables false
namespace Go.Proofs.YtnkjadpmigpneaaGreatDoor
section
set_option maxRecDepth 100000
open Go.RowKit LgM
theorem LN.open {w:World} {v:Value} {n:Nat} (h:LN w v n):∃ (k:Nat) (aa:Option Addr) (g o c:Nat),v = .slice aa k c∧Nd k n∧(0 < k→aa = some ⟨g,o,none⟩)∧(∀ i,i < k→w.cell? ⟨g,o + i,none⟩ = some (.int .i64 ((n / Bs ^ i % Bs:Nat):Int)))∧(0 < k→g < w.heap.size):=by
 obtain ⟨k,hk,⟨aa,g,o,c,e,p,cell,lt⟩,_⟩:=h
 have hl:(nz (dgl k n)).length = k:=by rw [nz_len,dgl_len]
 rw [hl] at e p cell lt
 refine ⟨k,aa,g,o,c,e,hk,p,fun i hi=>?_,lt⟩
 rw [cell i hi]
 simp [nz,List.getD_eq_getElem?_getD,dgl,hi]
set_option maxHeartbeats 1000000 in
theorem limb_any (v:Value) (n i:Nat) (w:World) (h:LN w v n) (hi:i≤1000000000) :
  Calls Tryz.prog 116 #[.agg #[v],.int .i64 (i:Int)] w fun e w'=>e = .returned (.int .i64 ((n / Bs ^ i % Bs:Nat):Int))∧Below w.heap.size w w':=by
 obtain ⟨k,aa,g,o,c,rfl,hk,hp,hc,hlt⟩:=h.open
 clear h
 have HC:Hid (∀ i,i < k→w.cell? ⟨g,o + i,none⟩ = some (.int .i64 ((n / Bs ^ i % Bs:Nat):Int))):=hc
 have HK:Hid (Nd k n):=hk
 obtain ⟨d,hd⟩:∃ d,d = n / Bs ^ i % Bs:=⟨_,rfl⟩
 have HD:Hid (d = n / Bs ^ i % Bs):=hd
 rw [← hd]
 clear hc hk hd
 by_cases hik:i < k
 ·obtain rfl:=hp (by omega)
  have hlt:=hlt (by omega)
  have q1:∀ x:Obj,(w.alloc x).cell? ⟨g,o + i,none⟩ = some (.int .i64 (d:Int)):=fun x=>by
   rw [cell_old_at _ _ _ hlt,HD.out]; exact HC.out i hik
  clear hp
  go_enter Tryz.func116,Tryz.ntmps116
  go_wp2
  go_ret
  exact ⟨rfl,(Below.refl _ _).alloc (Nat.le_refl _) _⟩
 ·have hz:d = 0:=by rw [HD.out]; exact HK.out.limb i (by omega)
  subst hz
  clear hp hlt
  go_enter Tryz.func116,Tryz.ntmps116
  go_wp2
  go_ret
  exact ⟨rfl,(Below.refl _ _).alloc (Nat.le_refl _) _⟩
set_option maxHeartbeats 1000000 in
theorem Of_any (n:Nat) (w:World) (hn:n≤9000000000000000000) :
  Calls Tryz.prog 80 #[.int .i64 (n:Int)] w fun e w'=>∃ v,e = .returned (.agg #[v])∧LN w' v n∧Below w.heap.size w w':=by
 have hc:=carried_any (w.heap.size + 1) 0 n 4 none 0 (w.alloc (.cells #[.slice none 0 0] 64)) (World.ownsRow_nil _ _ _ _) (by simp) (by simpa using hn) (Nat.lt_of_le_of_lt hn (by decide)) (by omega) (by omega)
 simp only [Nat.pow_zero,Nat.div_one] at hc
 have HC:Hid (Calls Tryz.prog 111 #[.slice none 0 0,.int .i64 (n:Int)] (w.alloc (.cells #[.slice none 0 0] 64)) fun e w'=>∃ k a' c',e = .returned (.slice a' k c')∧(n < Bs ^ k∧(k = 0∨Bs ^ (k - 1)≤n))∧w'.ownsRow (w.heap.size + 1) 3 1 (.slice a' k c') k (ints (nz (dgl k n)))∧Below (w.heap.size + 1) (w.alloc (.cells #[.slice none 0 0] 64)) w'):=hc
 clear hc
 go_enter Tryz.func80,Tryz.ntmps80
 go_wp2_with fail
 refine HC.out.mono ?_
 rintro e w1 ⟨k,a',c',rfl,hk,hrow,hb⟩
 have C1:Cl w.heap.size [.slice none 0 0] 64 w1:=(Cl.new [.slice none 0 0] 64 w).below (hb.mono (by simp))
 have q1:=C1.cell 0
 have q2:=C1.frozen 0
 have hl:LN w1 (.slice a' k c') n:=⟨k,⟨hk.1,hk.2⟩,IS.ownL (by rw [nz_len,dgl_len]) hrow,TyI.ownL hrow⟩
 have HL:Hid (LN w1 (.slice a' k c') n):=hl
 have HB:Hid (Below (w.heap.size + 1) (w.alloc (.cells #[.slice none 0 0] 64)) w1):=hb
 have HC1:Hid (Cl w.heap.size [.slice none 0 0] 64 w1):=C1
 have HR:Hid (w1.ownsRow (w.heap.size + 1) 3 1 (.slice a' k c') k (ints (nz (dgl k n)))):=hrow
 have HKk:Hid (Nd k n):=⟨hk.1,hk.2⟩
 clear hl hb C1 hrow hk HC
 simp at q1
 go_wp2
 have C2:=HC1.out.set 0 (.slice a' k c')
 have q3:=C2.cell 0
 simp at q3
 refine bodyPost_ret (v:=.agg #[.slice a' k c']) (by simp [results,Tryz.results80,go_sem,q3]) rfl ⟨_,rfl,?_,?_⟩
 ·exact ⟨k,HKk.out,IS.ownL (by rw [nz_len,dgl_len]) (ownsRow_setCell_below HR.out (by show w.heap.size < _; omega) _),(TyI.ownL HR.out).set _ _⟩
 ·exact (((Below.refl _ _).alloc (Nat.le_refl _) _).trans (HB.out.mono (by omega))).setCell (by simp) _
structure Pb (b:Nat) (vx vy:Value) (w:World):Prop where
 x:Cl b [vx] 64 w
 y:Cl (b + 1) [vy] 64 w
 z:Cl (b + 2) [.slice none 0 0] 64 w
theorem Pb.below {b B:Nat} {vx vy:Value} {w w':World} (h:Pb b vx vy w) (k:Below B w w') (hB:b + 3≤B):Pb b vx vy w' :=
 ⟨(k.block _ (by omega)).trans h.x,(k.block _ (by omega)).trans h.y,(k.block _ (by omega)).trans h.z⟩
theorem Pb.start (vx vy:Value) (w:World):Pb w.heap.size vx vy (((w.alloc (.cells #[vx] 64)).alloc (.cells #[vy] 64)).alloc (.cells #[.slice none 0 0] 64)):=by
 refine ⟨((Cl.new [vx] _ w).alloc _).alloc _,?_,?_⟩
 ·have:=(Cl.new [vy] 64 (w.alloc (.cells #[vx] 64))).alloc (.cells #[.slice none 0 0] 64)
  simpa using this
 ·have:=(Cl.new [.slice none 0 0] 64 ((w.alloc (.cells #[vx] 64)).alloc (.cells #[vy] 64)))
  simpa using this
set_option maxHeartbeats 4000000 in
theorem Plus_any (vx vy:Value) (x y m:Nat) (w:World) (hx:LN w vx x) (hy:LN w vy y) (hxm:x < Bs ^ m) (hym:y < Bs ^ m) (hm:m≤100000000) :
  Calls Tryz.prog 96 #[.agg #[vx],.agg #[vy]] w fun e w'=>∃ v,e = .returned (.agg #[v])∧LN w' v (x + y)∧Below w.heap.size w w':=by
 obtain ⟨i0,hi,hz0,hz1,hz2⟩:=info_parts Tryz.infoInt
 have HI:Hid (Tryz.prog.info? 3 = some i0∧i0.zero = some (.int .i64 0)∧i0.size = 1∧i0.bytes = 8):=⟨hi,hz0,hz1,hz2⟩
 clear hi hz0 hz1 hz2
 have HX:Hid (LN w vx x):=hx
 have HY:Hid (LN w vy y):=hy
 obtain ⟨kx,ax,gx,ox,cx,rfl,nx,_⟩:=hx.open
 obtain ⟨ky,ay,gy,oy,cy,rfl,ny,_⟩:=hy.open
 have hkx:=nx.le hxm
 have hky:=ny.le hym
 have HNX:Hid (Nd kx x):=nx
 have HNY:Hid (Nd ky y):=ny
 have HXM:Hid (x < Bs ^ m):=hxm
 have HYM:Hid (y < Bs ^ m):=hym
 clear hx hy nx ny hxm hym
 obtain ⟨M,hM⟩:∃ M:Nat,max (kx:Int) (ky:Int) = (M:Int):=⟨max kx ky,by omega⟩
 have hM1:kx≤M∧ky≤M∧M≤m:=by omega
 go_enter Tryz.func96,Tryz.ntmps96
 have P0:=Pb.start (.slice ax kx cx) (.slice ay ky cy) w
 obtain ⟨W0,hW0⟩:∃ W0,W0 = (((w.alloc (.cells #[.slice ax kx cx] 64)).alloc (.cells #[.slice ay ky cy] 64)).alloc (.cells #[.slice none 0 0] 64)):=⟨_,rfl⟩
 rw [← hW0] at P0
 have z0:W0.heap.size = w.heap.size + 3:=by rw [hW0]; simp
 have KB0:Hid (Below w.heap.size w W0):=by
  show Below _ _ _
  rw [hW0]; exact (((Below.refl _ _).alloc (Nat.le_refl _) _).alloc (by simp) _).alloc (by simp; omega) _
 have HP0:Hid (Pb w.heap.size (.slice ax kx cx) (.slice ay ky cy) W0):=P0
 clear P0
 rename_i hq1 hq2
 clear hq1 hq2
 go_wp2_with (at_make; rw [← hW0]; clear hW0; refine wpList_make_own _ rfl _ _ 62 rfl (w.heap.size + 3) 3 i0 (.int .i64 0) 1 Tryz.underlying62 HI.out.1 HI.out.2.1 HI.out.2.2.1 .i64 .i64 _ (M + 1) rfl rfl (by omega) (by rw [HI.out.2.2.2]; omega) (by unfold maxLen; omega) (by omega) ?_)
 intro wM hown hgrow
 have KB1:Hid (Below (w.heap.size + 3) W0 wM):=(Below.refl (w.heap.size + 3) W0).grown hgrow (by omega) (by simp)
 have HO1:Hid (wM.ownsRow (w.heap.size + 3) 3 1 (.slice (some ⟨w.heap.size + 3,0,none⟩) 0 (M + 1)) 0 []):=hown
 clear hown hgrow
 go_wp2
 go_loopw [6,7,20] (fun sv cv iv wx=>∃ (i c:Nat) (a':Option Addr) (c':Nat),i≤M∧c≤1∧sv = .slice a' i c'∧cv = .int .i64 (c:Int)∧iv = .int .i64 (i:Int)∧Hid (c = (x % Bs ^ i + y % Bs ^ i) / Bs ^ i∧wx.ownsRow (w.heap.size + 3) 3 1 (.slice a' i c') i (ints (nz (dgl i (x + y))))∧Pb w.heap.size (.slice ax kx cx) (.slice ay ky cy) wx∧Below (w.heap.size + 3) W0 wx)) (fun _ _ iv _=>M - (intOf iv).toNat)
 case atStart=>exact ⟨0,0,_,_,Nat.zero_le _,by omega,rfl,rfl,rfl,by simp [Nat.mod_one],HO1.out,HP0.out.below KB1.out (Nat.le_refl _),KB1.out⟩
 case round =>
  clear HO1 KB1
  obtain ⟨i,c,a',c',hiM,hc1,rfl,rfl,rfl,HR⟩:=hrel
  have hP:=HR.out.2.2.1
  have hzr:w.heap.size + 3≤wr.heap.size:=by have:=HR.out.2.2.2.size; omega
  by_cases hiM2:i < M
  ·have HLx:Hid (∀ W,Below (w.heap.size + 3) W0 W→LN W (.slice ax kx cx) x):=fun W k=>(HX.out.below KB0.out).below (k.mono (by omega))
   have HLy:Hid (∀ W,Below (w.heap.size + 3) W0 W→LN W (.slice ay ky cy) y):=fun W k=>(HY.out.below KB0.out).below (k.mono (by omega))
   obtain ⟨dx,hdx⟩:∃ dx,dx = x / Bs ^ i % Bs:=⟨_,rfl⟩
   obtain ⟨dy,hdy⟩:∃ dy,dy = y / Bs ^ i % Bs:=⟨_,rfl⟩
   have hdx1:dx≤999999999:=by rw [hdx]; exact lim_le (Nat.mod_lt _ (by decide))
   have hdy1:dy≤999999999:=by rw [hdy]; exact lim_le (Nat.mod_lt _ (by decide))
   have HDX:Hid (dx = x / Bs ^ i % Bs):=hdx
   have HDY:Hid (dy = y / Bs ^ i % Bs):=hdy
   clear hdx hdy
   have q1:=hP.x.cell 0
   have q2:=hP.y.cell 0
   simp at q1 q2
   have HPw:Hid (Pb w.heap.size (.slice ax kx cx) (.slice ay ky cy) wr):=hP
   clear hP
   go_wp2
   refine wp_region_G (fun w'=>w'.cell? ⟨w.heap.size,0,none⟩ = some (.slice ax kx cx)∧w'.cell? ⟨w.heap.size + 1,0,none⟩ = some (.slice ay ky cy)) 9 (by kernel_rfl) ⟨q1,q2⟩ (fun hHeld=>?_)
   refine wpAnyG_take (i:=0) (v:=?v0x1) rfl (by kernel_rfl) (fun _ _ _ h=>h) (Or.inl ⟨by rfl,?y0x1⟩) hHeld ?r0x1
   case y0x1=>(intro wS hSw; obtain ⟨s1,s2⟩:=hSw; go_simp; try with_reducible rfl)
   try simp only [Act.put,List.setIfInBounds_toArray,List.set_cons_zero,List.set_cons_succ]
   refine wpAnyG_take (i:=1) (v:=?v1x2) rfl (by kernel_rfl) (fun _ _ _ h=>h) (Or.inl ⟨by rfl,?y1x2⟩) hHeld ?r1x2
   case y1x2=>(intro wS hSw; obtain ⟨s1,s2⟩:=hSw; go_simp; try with_reducible rfl)
   try simp only [Act.put,List.setIfInBounds_toArray,List.set_cons_zero,List.set_cons_succ]
   refine wpAnyG_take (i:=2) (v:=?v2x3) rfl (by kernel_rfl) (fun _ _ _ h=>h) (Or.inl ⟨by rfl,?y2x3⟩) hHeld ?r2x3
   case y2x3=>(intro wS hSw; obtain ⟨s1,s2⟩:=hSw; go_simp; try with_reducible rfl)
   try simp only [Act.put,List.setIfInBounds_toArray,List.set_cons_zero,List.set_cons_succ]
   refine wpAnyG_take (i:=4) (v:=?v4x4) rfl (by kernel_rfl) (fun _ _ _ h=>h) (Or.inl ⟨by rfl,?y4x4⟩) hHeld ?r4x4
   case y4x4=>(intro wS hSw; obtain ⟨s1,s2⟩:=hSw; go_simp; try with_reducible rfl)
   try simp only [Act.put,List.setIfInBounds_toArray,List.set_cons_zero,List.set_cons_succ]
   refine wpAnyG_take (i:=5) (v:=?v5x5) rfl (by kernel_rfl) (fun _ _ _ h=>h) (Or.inl ⟨by rfl,?y5x5⟩) hHeld ?r5x5
   case y5x5=>(intro wS hSw; obtain ⟨s1,s2⟩:=hSw; go_simp; try with_reducible rfl)
   try simp only [Act.put,List.setIfInBounds_toArray,List.set_cons_zero,List.set_cons_succ]
   refine wpAnyG_one (i:=3) rfl (by kernel_rfl) (fun K hK=>?_)
   go_simp
   refine (limb_any _ x i _ (HLx.out _ (HR.out.2.2.2.drew)) (by omega)).mono ?_
   rw [← HDX.out]
   rintro e w1 ⟨rfl,k1⟩
   have KB1:Hid (Below (w.heap.size + 3) W0 w1):=HR.out.2.2.2.drew.trans (k1.mono hzr)
   have P1:=HPw.out.below (HR.out.2.2.2.drew.trans (k1.mono hzr) |> fun _=>((Below.refl (w.heap.size + 3) wr).drew.trans (k1.mono hzr))) (Nat.le_refl _)
   have z1:wr.heap.size≤w1.heap.size:=k1.size
   have hH1:w1.cell? ⟨w.heap.size,0,none⟩ = some (.slice ax kx cx)∧w1.cell? ⟨w.heap.size + 1,0,none⟩ = some (.slice ay ky cy):=by
    have a1:=P1.x.cell 0
    have a2:=P1.y.cell 0
    simp at a1 a2
    exact ⟨a1,a2⟩
   refine hK.out _ _ hH1 ?_
   clear hK K
   try simp only [Act.put,List.setIfInBounds_toArray,List.set_cons_zero,List.set_cons_succ]
   clear hHeld
   have hHeld:=hH1
   refine wpAnyG_one (i:=6) rfl (by kernel_rfl) (fun K hK=>?_)
   go_simp
   refine (limb_any _ y i _ (HLy.out _ KB1.out) (by omega)).mono ?_
   rw [← HDY.out]
   rintro e w2 ⟨rfl,k2⟩
   have KB2:Hid (Below (w.heap.size + 3) W0 w2):=KB1.out.trans (k2.mono (by omega))
   have P2:=P1.below (k2.mono (show w.heap.size + 3≤w1.heap.size by omega)) (Nat.le_refl _)
   have z2:wr.heap.size≤w2.heap.size:=Nat.le_trans z1 k2.size
   have hH2:w2.cell? ⟨w.heap.size,0,none⟩ = some (.slice ax kx cx)∧w2.cell? ⟨w.heap.size + 1,0,none⟩ = some (.slice ay ky cy):=by
    have a1:=P2.x.cell 0
    have a2:=P2.y.cell 0
    simp at a1 a2
    exact ⟨a1,a2⟩
   refine hK.out _ _ hH2 ?_
   clear hK K
   try simp only [Act.put,List.setIfInBounds_toArray,List.set_cons_zero,List.set_cons_succ]
   clear hHeld
   have hHeld:=hH2
   refine wpAnyG_take (i:=7) (v:=?v7x6) rfl (by kernel_rfl) (fun _ _ _ h=>h) (Or.inl ⟨by rfl,?y7x6⟩) hHeld ?r7x6
   case y7x6=>(intro wS hSw; obtain ⟨s1,s2⟩:=hSw; go_simp; try with_reducible rfl)
   try simp only [Act.put,List.setIfInBounds_toArray,List.set_cons_zero,List.set_cons_succ]
   refine wpAnyG_take (i:=8) (v:=?v8x7) rfl (by kernel_rfl) (fun _ _ _ h=>h) (Or.inl ⟨by rfl,?y8x7⟩) hHeld ?r8x7
   case y8x7=>(intro wS hSw; obtain ⟨s1,s2⟩:=hSw; go_simp; try with_reducible rfl)
   try simp only [Act.put,List.setIfInBounds_toArray,List.set_cons_zero,List.set_cons_succ]
   refine wpAnyG_last (i:=9) rfl (by kernel_rfl) (by kernel_rfl) (fun K hK=>?_)
   go_simp
   refine hK.out _ _ ?_
   clear hK K
   try simp only [Act.put,List.setIfInBounds_toArray,List.set_cons_zero,List.set_cons_succ]
   refine wpAnyG_done (by kernel_rfl) ?_ _
   have R2:Hid (w2.ownsRow (w.heap.size + 3) 3 1 (.slice a' i c') i (ints (nz (dgl i (x + y))))):=row_kept HR.out.2.1 (fun g e=>(k2.block g (Nat.lt_of_lt_of_le (HR.out.2.1.lt g e).2 z1)).trans (k1.block g (HR.out.2.1.lt g e).2))
   have HP2:Hid (Pb w.heap.size (.slice ax kx cx) (.slice ay ky cy) w2):=P2
   have hsum:Hid (c + (dx + dy) = (x % Bs ^ (i + 1) + y % Bs ^ (i + 1)) / Bs ^ i):=by
    show _ = _
    rw [HR.out.1,HDX.out,HDY.out]; exact plus_step x y i
   obtain ⟨t,ht⟩:∃ t,t = c + (dx + dy):=⟨_,rfl⟩
   have ht2:t≤1999999999:=by omega
   have htI:(c:Int) + ((dx:Int) + (dy:Int)) = (t:Int):=by omega
   have HT:Hid (t = c + (dx + dy)):=ht
   clear k1 k2 P1 P2 hH1 hH2 hHeld q1 q2 ht
   have hw0:IntKind.i64.wrap ((dx:Int) + (dy:Int)) = (dx:Int) + (dy:Int):=by rw [IntKind.wrap_i64]; omega
   have hw1:IntKind.i64.wrap ((c:Int) + IntKind.i64.wrap ((dx:Int) + (dy:Int))) = (t:Int):=by rw [hw0,htI,IntKind.wrap_i64]; omega
   simp only [hw1]
   clear hw0 hw1 htI
   go_wp2_with (at_builtin; refine wpList_append_own _ rfl _ _ 62 rfl (w.heap.size + 3) 3 i0 (.int .i64 0) 1 8 Tryz.underlying62 HI.out.1 HI.out.2.1 HI.out.2.2.1 HI.out.2.2.2 rfl (by decide) (.slice a' i c') i (ints (nz (dgl i (x + y)))) rfl (R2.out.alloc _) ⟨w2.heap.size,0,none⟩ 1 1 [.int .i64 ((t:Int) % 1000000000)] rfl rfl (cell_one_new _ _ _) (by simp [Value.oneCell']) (by simp only [maxLen]; omega) (by omega) (by simp; omega) ?_; intro v' w3 hown' hgrow _; obtain ⟨g',cap',rfl⟩:=ownsRow_succ hown')
   have KB3:Hid (Below (w.heap.size + 3) w2 w3):=(((Below.refl (w.heap.size + 3) w2).alloc (by omega) _).grown hgrow (by simp; omega) (fun g e=>(R2.out.lt g e).1))
   have HN:Hid (w3.ownsRow (w.heap.size + 3) 3 1 (.slice (some ⟨g',0,none⟩) (i + 1) cap') (i + 1) (ints (nz (dgl (i + 1) (x + y))))):=by
    show World.ownsRow _ _ _ _ _ _ _
    rw [dgl_succ,nz_append]
    have e:nz [(x + y) / Bs ^ i % Bs] = [(t:Int) % 1000000000]:=by
     rw [add_div_mod,← hsum.out,← HT.out,limb_int]; rfl
    rw [e,← ints_snoc]
    exact hown'
   clear hown' hgrow
   go_roundw
   case rel =>
    refine ⟨i + 1,t / 1000000000,_,_,by omega,by omega,rfl,by go_num,by go_num,?_,HN.out,HP2.out.below KB3.out (Nat.le_refl _),KB2.out.trans KB3.out⟩
    rw [HT.out,hsum.out,pow_s,← Nat.div_div_eq_div_mul]
   case measure=>simp [intOf]; omega
  ·obtain rfl:i = M:=by omega
   have hxM:=HNX.out.mod hM1.1
   have hyM:=HNY.out.mod hM1.2.1
   have hcM:Hid (c = (x + y) / Bs ^ i):=by
    show _ = _
    rw [HR.out.1,hxM,hyM]
   have hlt2:x + y < Bs ^ (m + 1):=by
    rw [pow_s]
    have h1:=HXM.out
    have h2:=HYM.out
    have h3:Bs ^ m * 2≤Bs ^ m * Bs:=Nat.mul_le_mul_left _ (by decide)
    omega
   have HC:Hid (Calls Tryz.prog 111 #[.slice a' i c',.int .i64 (c:Int)] wr fun e w'=>∃ k a1 c1,e = .returned (.slice a1 k c1)∧(x + y < Bs ^ k∧(k = i∨Bs ^ (k - 1)≤x + y))∧w'.ownsRow (w.heap.size + 3) 3 1 (.slice a1 k c1) k (ints (nz (dgl k (x + y))))∧Below (w.heap.size + 3) wr w'):=by
    have h:=carried_any (w.heap.size + 3) i (x + y) (m + 1) a' c' wr HR.out.2.1 hzr (by rw [← hcM.out]; omega) hlt2 (by omega) (by omega)
    rw [← hcM.out] at h
    exact h
   have HPw:Hid (Pb w.heap.size (.slice ax kx cx) (.slice ay ky cy) wr):=hP
   clear hP hxM hyM hlt2
   go_wp2_with fail
   refine HC.out.mono ?_
   rintro e w1 ⟨k,a1,c1,rfl,hk,hrow,hb⟩
   have P1:=HPw.out.below hb (Nat.le_refl _)
   have q1:=P1.z.cell 0
   have q2:=P1.z.frozen 0
   simp at q1
   have HKk:Hid (Nd k (x + y)):=by
    refine ⟨hk.1,?_⟩
    rcases hk.2 with h | h
    ·subst h
     rcases Nat.lt_or_ge kx ky with h5 | h5
     ·have:k = ky:=by omega
      subst this
      exact HNY.out.mono (by omega)
     ·have:k = kx:=by omega
      subst this
      exact HNX.out.mono (by omega)
    ·exact .inr h
   have HROW:Hid (w1.ownsRow (w.heap.size + 3) 3 1 (.slice a1 k c1) k (ints (nz (dgl k (x + y))))):=hrow
   have HB:Hid (Below (w.heap.size + 3) W0 w1):=HR.out.2.2.2.trans hb
   have HP1:Hid (Pb w.heap.size (.slice ax kx cx) (.slice ay ky cy) w1):=P1
   clear hb hrow P1 hk HC
   go_wp2
   have C2:=HP1.out.z.set 0 (.slice a1 k c1)
   have q3:=C2.cell 0
   simp at q3
   refine bodyPost_ret (v:=.agg #[.slice a1 k c1]) (by simp [results,Tryz.results96,go_sem,q3]) rfl ⟨_,rfl,?_,?_⟩
   ·exact ⟨k,HKk.out,IS.ownL (by rw [nz_len,dgl_len]) (ownsRow_setCell_below HROW.out (by show w.heap.size + 2 < _; omega) _),(TyI.ownL HROW.out).set _ _⟩
   ·exact (KB0.out.trans (HB.out.mono (by omega))).setCell (by simp; omega) _
end
section
set_option maxRecDepth 100000
open Go.RowKit LgM
structure Tbx (b:Nat) (vx:Value) (w:World):Prop where
 x:Cl b [vx] 64 w
 z:Cl (b + 1) [.slice none 0 0] 64 w
theorem Tbx.below {b B:Nat} {vx:Value} {w w':World} (h:Tbx b vx w) (k:Below B w w') (hB:b + 2≤B):Tbx b vx w' :=
 ⟨(k.block _ (by omega)).trans h.x,(k.block _ (by omega)).trans h.z⟩
theorem Tbx.start (vx:Value) (w:World):Tbx w.heap.size vx ((w.alloc (.cells #[vx] 64)).alloc (.cells #[.slice none 0 0] 64)):=by
 refine ⟨(Cl.new [vx] _ w).alloc _,?_⟩
 have:=(Cl.new [.slice none 0 0] 64 (w.alloc (.cells #[vx] 64)))
 simpa using this
set_option maxHeartbeats 4000000 in
theorem Times_any (vx:Value) (x t m:Nat) (w:World) (hx:LN w vx x) (hxm:x < Bs ^ m) (hm:m≤100000000) (ht:t≤1000000000) :
  Calls Tryz.prog 97 #[.agg #[vx],.int .i64 (t:Int)] w fun e w'=>∃ v,e = .returned (.agg #[v])∧LN w' v (x * t)∧Below w.heap.size w w':=by
 obtain ⟨i0,hi,hz0,hz1,hz2⟩:=info_parts Tryz.infoInt
 have HI:Hid (Tryz.prog.info? 3 = some i0∧i0.zero = some (.int .i64 0)∧i0.size = 1∧i0.bytes = 8):=⟨hi,hz0,hz1,hz2⟩
 clear hi hz0 hz1 hz2
 obtain ⟨kx,ax,gx,ox,cx,rfl,nx,hpx,hcx,hlx⟩:=hx.open
 have hkx:=nx.le hxm
 have HNX:Hid (Nd kx x):=nx
 have HXM:Hid (x < Bs ^ m):=hxm
 have HPX:Hid (0 < kx→ax = some ⟨gx,ox,none⟩):=hpx
 have HCX:Hid (∀ i,i < kx→w.cell? ⟨gx,ox + i,none⟩ = some (.int .i64 ((x / Bs ^ i % Bs:Nat):Int))):=hcx
 have HLX:Hid (0 < kx→gx < w.heap.size):=hlx
 clear hx nx hxm hpx hcx hlx
 have P0:=Tbx.start (.slice ax kx cx) w
 obtain ⟨W0,hW0⟩:∃ W0,W0 = ((w.alloc (.cells #[.slice ax kx cx] 64)).alloc (.cells #[.slice none 0 0] 64)):=⟨_,rfl⟩
 rw [← hW0] at P0
 have z0:W0.heap.size = w.heap.size + 2:=by rw [hW0]; simp
 have KB0:Hid (Below w.heap.size w W0):=by
  show Below _ _ _
  rw [hW0]; exact ((Below.refl _ _).alloc (Nat.le_refl _) _).alloc (by simp) _
 have HP0:Hid (Tbx w.heap.size (.slice ax kx cx) W0):=P0
 clear P0
 by_cases ht0:t = 0
 ·subst ht0
  have q1:=HP0.out.z.cell 0
  have q2:=HP0.out.z.frozen 0
  simp at q1
  go_enter Tryz.func97,Tryz.ntmps97
  go_wp2
  rw [← hW0]
  refine bodyPost_ret (v:=.agg #[.slice none 0 0]) (by simp [results,Tryz.results97,go_sem,q1]) rfl ⟨_,rfl,?_,?_⟩
  ·rw [Nat.mul_zero]; exact LN.zero _
  ·exact KB0.out
 ·have htb:((t:Int) == 0) = false:=beq_eq_false_iff_ne.2 (by omega)
  go_enter Tryz.func97,Tryz.ntmps97
  go_wp2_with (at_make; rw [← hW0]; clear hW0; refine wpList_make_own _ rfl _ _ 62 rfl (w.heap.size + 2) 3 i0 (.int .i64 0) 1 Tryz.underlying62 HI.out.1 HI.out.2.1 HI.out.2.2.1 .i64 .i64 _ (kx + 1) rfl rfl (by omega) (by rw [HI.out.2.2.2]; omega) (by unfold maxLen; omega) (by omega) ?_)
  clear htb
  intro wM hown hgrow
  have kb1:Below (w.heap.size + 2) W0 wM:=(Below.refl (w.heap.size + 2) W0).grown hgrow (by omega) (by simp)
  have q1:=(HP0.out.below kb1 (Nat.le_refl _)).x.cell 0
  simp at q1
  have KB1:Hid (Below (w.heap.size + 2) W0 wM):=kb1
  have HO1:Hid (wM.ownsRow (w.heap.size + 2) 3 1 (.slice (some ⟨w.heap.size + 2,0,none⟩) 0 (kx + 1)) 0 []):=hown
  clear hown hgrow kb1
  go_wp2
  clear q1
  go_loopw [5,6,20] (fun sv cv iv wx=>∃ (i c:Nat) (a':Option Addr) (c':Nat),i≤kx∧c≤1000000000∧sv = .slice a' i c'∧cv = .int .i64 (c:Int)∧iv = .int .i64 (i:Int)∧Hid (c = x % Bs ^ i * t / Bs ^ i∧wx.ownsRow (w.heap.size + 2) 3 1 (.slice a' i c') i (ints (nz (dgl i (x * t))))∧Tbx w.heap.size (.slice ax kx cx) wx∧Below (w.heap.size + 2) W0 wx)) (fun _ _ iv _=>kx - (intOf iv).toNat)
  case atStart=>exact ⟨0,0,_,_,Nat.zero_le _,by omega,rfl,rfl,rfl,by simp [Nat.mod_one],HO1.out,HP0.out.below KB1.out (Nat.le_refl _),KB1.out⟩
  case round =>
   clear HO1 KB1
   obtain ⟨i,c,a',c',hiM,hc1,rfl,rfl,rfl,HR⟩:=hrel
   have hP:=HR.out.2.2.1
   have hzr:w.heap.size + 2≤wr.heap.size:=by have:=HR.out.2.2.2.size; omega
   by_cases hiM2:i < kx
   ·obtain rfl:=HPX.out (by omega)
    obtain ⟨dx,hdx⟩:∃ dx,dx = x / Bs ^ i % Bs:=⟨_,rfl⟩
    have hdx1:dx≤999999999:=by rw [hdx]; exact lim_le (Nat.mod_lt _ (by decide))
    have q1:wr.cell? ⟨gx,ox + i,none⟩ = some (.int .i64 (dx:Int)):=by
     have hl:=HLX.out (by omega)
     rw [hdx,(KB0.out.trans (HR.out.2.2.2.mono (by omega))).cell (p:=⟨gx,ox + i,none⟩) hl]; exact HCX.out i hiM2
    have HDX:Hid (dx = x / Bs ^ i % Bs):=hdx
    have HPw:Hid (Tbx w.heap.size (.slice (some ⟨gx,ox,none⟩) kx cx) wr):=hP
    obtain ⟨P,hPe⟩:∃ P,P = dx * t:=⟨_,rfl⟩
    have hPb:P≤999999999000000000:=by
     have:=Nat.mul_le_mul hdx1 ht
     omega
    have hPI:(dx:Int) * (t:Int) = (P:Int):=by rw [hPe,Int.natCast_mul]
    have hsum:Hid (c + P = x % Bs ^ (i + 1) * t / Bs ^ i):=by
     show _ = _
     rw [HR.out.1,hPe,hdx]; exact times_step x t i
    obtain ⟨s,hs⟩:∃ s,s = c + P:=⟨_,rfl⟩
    have hs2:s≤1000000000000000000:=by omega
    have hsI:(c:Int) + (P:Int) = (s:Int):=by omega
    have HT:Hid (s = c + P):=hs
    clear hdx hP hPe hs
    go_wp2_with (at_builtin; refine wpList_append_own _ rfl _ _ 62 rfl (w.heap.size + 2) 3 i0 (.int .i64 0) 1 8 Tryz.underlying62 HI.out.1 HI.out.2.1 HI.out.2.2.1 HI.out.2.2.2 rfl (by decide) (.slice a' i c') i (ints (nz (dgl i (x * t)))) rfl (HR.out.2.1.alloc _) ⟨wr.heap.size,0,none⟩ 1 1 [.int .i64 ((s:Int) % 1000000000)] rfl rfl (cell_one_new _ _ _) (by simp [Value.oneCell']) (by simp only [maxLen]; omega) (by omega) (by simp; omega) ?_; intro v' w3 hown' hgrow _; obtain ⟨g',cap',rfl⟩:=ownsRow_succ hown')
    have KB3:Hid (Below (w.heap.size + 2) wr w3):=(((Below.refl (w.heap.size + 2) wr).alloc (by omega) _).grown hgrow (by simp; omega) (fun g e=>(HR.out.2.1.lt g e).1))
    have HN:Hid (w3.ownsRow (w.heap.size + 2) 3 1 (.slice (some ⟨g',0,none⟩) (i + 1) cap') (i + 1) (ints (nz (dgl (i + 1) (x * t))))):=by
     show World.ownsRow _ _ _ _ _ _ _
     rw [dgl_succ,nz_append]
     have e:nz [x * t / Bs ^ i % Bs] = [(s:Int) % 1000000000]:=by
      rw [mul_div_mod,← hsum.out,← HT.out,limb_int]; rfl
     rw [e,← ints_snoc]
     exact hown'
    clear hown' hgrow
    go_roundw
    case rel =>
     refine ⟨i + 1,s / 1000000000,_,_,by omega,by omega,rfl,by go_num,by go_num,?_,HN.out,HPw.out.below KB3.out (Nat.le_refl _),HR.out.2.2.2.trans KB3.out⟩
     rw [HT.out,hsum.out,pow_s,← Nat.div_div_eq_div_mul]
    case measure=>simp [intOf]; omega
   ·obtain rfl:i = kx:=by omega
    have hxM:=HNX.out.mod (Nat.le_refl _)
    have hcM:Hid (c = x * t / Bs ^ i):=by
     show _ = _
     rw [HR.out.1,hxM]
    have hlt2:x * t < Bs ^ (m + 2):=by
     have h1:=HXM.out
     have h3:x * t≤x * (Bs * Bs):=Nat.mul_le_mul_left _ (Nat.le_trans ht (by decide))
     have h4:x * (Bs * Bs) < Bs ^ m * (Bs * Bs):=Nat.mul_lt_mul_of_pos_right h1 (by decide)
     rw [show m + 2 = m + 1 + 1 from rfl,pow_s,pow_s,Nat.mul_assoc]; omega
    have HC:Hid (Calls Tryz.prog 111 #[.slice a' i c',.int .i64 (c:Int)] wr fun e w'=>∃ k a1 c1,e = .returned (.slice a1 k c1)∧(x * t < Bs ^ k∧(k = i∨Bs ^ (k - 1)≤x * t))∧w'.ownsRow (w.heap.size + 2) 3 1 (.slice a1 k c1) k (ints (nz (dgl k (x * t))))∧Below (w.heap.size + 2) wr w'):=by
     have h:=carried_any (w.heap.size + 2) i (x * t) (m + 2) a' c' wr HR.out.2.1 hzr (by rw [← hcM.out]; omega) hlt2 (by omega) (by omega)
     rw [← hcM.out] at h
     exact h
    have HPw:Hid (Tbx w.heap.size (.slice ax i cx) wr):=hP
    clear hP hxM hlt2
    go_wp2_with fail
    refine HC.out.mono ?_
    rintro e w1 ⟨k,a1,c1,rfl,hk,hrow,hb⟩
    have P1:=HPw.out.below hb (Nat.le_refl _)
    have q1:=P1.z.cell 0
    have q2:=P1.z.frozen 0
    simp at q1
    have HKk:Hid (Nd k (x * t)):=by
     refine ⟨hk.1,?_⟩
     rcases hk.2 with h | h
     ·subst h
      exact HNX.out.mono (Nat.le_mul_of_pos_right _ (by omega))
     ·exact .inr h
    have HROW:Hid (w1.ownsRow (w.heap.size + 2) 3 1 (.slice a1 k c1) k (ints (nz (dgl k (x * t))))):=hrow
    have HB:Hid (Below (w.heap.size + 2) W0 w1):=HR.out.2.2.2.trans hb
    have HP1:Hid (Tbx w.heap.size (.slice ax i cx) w1):=P1
    clear hb hrow P1 hk HC
    go_wp2
    have C2:=HP1.out.z.set 0 (.slice a1 k c1)
    have q3:=C2.cell 0
    simp at q3
    refine bodyPost_ret (v:=.agg #[.slice a1 k c1]) (by simp [results,Tryz.results97,go_sem,q3]) rfl ⟨_,rfl,?_,?_⟩
    ·exact ⟨k,HKk.out,IS.ownL (by rw [nz_len,dgl_len]) (ownsRow_setCell_below HROW.out (by show w.heap.size + 1 < _; omega) _),(TyI.ownL HROW.out).set _ _⟩
    ·exact (KB0.out.trans (HB.out.mono (by omega))).setCell (by simp) _
end
section
set_option maxRecDepth 100000
namespace LgM
def bw (x y k:Nat):Nat:=if x % Bs ^ k < y % Bs ^ k then 1 else 0
theorem bw_zero (x y:Nat):bw x y 0 = 0:=by simp [bw,Nat.mod_one]
theorem bw_le (x y k:Nat):bw x y k≤1:=by unfold bw; split <;> omega
theorem limb_lt (x k:Nat):x / Bs ^ k % Bs≤999999999:=lim_le (Nat.mod_lt _ (by decide))
theorem minus_low (x y k:Nat) (h:y≤x):(x - y) % Bs ^ k + y % Bs ^ k = x % Bs ^ k + Bs ^ k * bw x y k:=by
 obtain ⟨z,rfl⟩:=Nat.exists_eq_add_of_le h
 rw [Nat.add_sub_cancel_left]
 have h1:=Nat.mod_lt y (bs_pos k)
 have h2:=Nat.mod_lt z (bs_pos k)
 have h3:(y + z) % Bs ^ k = (y % Bs ^ k + z % Bs ^ k) % Bs ^ k:=Nat.add_mod ..
 unfold bw
 generalize y % Bs ^ k = y0 at *
 generalize z % Bs ^ k = z0 at *
 generalize (y + z) % Bs ^ k = s0 at *
 generalize Bs ^ k = P at *
 rcases Nat.lt_or_ge (y0 + z0) P with h4 | h4
 ·rw [Nat.mod_eq_of_lt h4] at h3
  rw [h3,if_neg (by omega)]; omega
 ·have h5:(y0 + z0) % P = y0 + z0 - P:=by
   rw [Nat.mod_eq_sub_mod h4,Nat.mod_eq_of_lt (by omega)]
  rw [h5] at h3
  rw [h3,if_pos (by omega)]; omega
theorem minus_step (x y k:Nat) (h:y≤x):(x - y) / Bs ^ k % Bs + (y / Bs ^ k % Bs + bw x y k) = x / Bs ^ k % Bs + Bs * bw x y (k + 1):=by
 have e1:=minus_low x y k h
 have e2:=minus_low x y (k + 1) h
 rw [mod_s,mod_s,mod_s,pow_s,Nat.mul_assoc] at e2
 have hp:=bs_pos k
 generalize (x - y) / Bs ^ k % Bs = dz at *
 generalize y / Bs ^ k % Bs = dy at *
 generalize x / Bs ^ k % Bs = dx at *
 generalize bw x y (k + 1) = b' at *
 generalize bw x y k = b at *
 generalize (x - y) % Bs ^ k = z0 at *
 generalize y % Bs ^ k = y0 at *
 generalize x % Bs ^ k = x0 at *
 generalize Bs ^ k = P at *
 have h1:P * (dz + (dy + b)) = P * (dx + Bs * b'):=by
  rw [Nat.mul_add,Nat.mul_add,Nat.mul_add]; omega
 exact Nat.eq_of_mul_eq_mul_left hp h1
theorem minus_dgt (x y k:Nat) (h:y≤x) :
  ((x - y) / Bs ^ k % Bs:Nat) = if x / Bs ^ k % Bs < y / Bs ^ k % Bs + bw x y k then x / Bs ^ k % Bs + Bs - (y / Bs ^ k % Bs + bw x y k) else x / Bs ^ k % Bs - (y / Bs ^ k % Bs + bw x y k):=by
 have e:=minus_step x y k h
 have h1:(x - y) / Bs ^ k % Bs < Bs:=Nat.mod_lt _ (by decide)
 have h2:=bw_le x y (k + 1)
 have h3:bw x y (k + 1) = 0∨bw x y (k + 1) = 1:=by omega
 rcases h3 with h3 | h3 <;> rw [h3] at e
 ·rw [if_neg (by omega)]; omega
 ·rw [if_pos (by omega)]; omega
theorem minus_bw (x y k:Nat) (h:y≤x) :
  bw x y (k + 1) = if x / Bs ^ k % Bs < y / Bs ^ k % Bs + bw x y k then 1 else 0:=by
 have e:=minus_step x y k h
 have h1:(x - y) / Bs ^ k % Bs < Bs:=Nat.mod_lt _ (by decide)
 have h2:=bw_le x y (k + 1)
 have h3:bw x y (k + 1) = 0∨bw x y (k + 1) = 1:=by omega
 rcases h3 with h3 | h3 <;> rw [h3] at e ⊢
 ·rw [if_neg (by omega)]
 ·rw [if_pos (by omega)]
def pq (P d y i j:Nat):Nat:=P % Bs ^ (i + j) + Bs ^ i * (d * (y % Bs ^ j))
theorem pq_step (P d y i j:Nat):pq P d y i j / Bs ^ (i + j) + P / Bs ^ (i + j) % Bs + d * (y / Bs ^ j % Bs) = pq P d y i (j + 1) / Bs ^ (i + j):=by
 unfold pq
 rw [show i + (j + 1) = (i + j) + 1 from rfl,mod_s P,mod_s y,Nat.mul_add d,Nat.mul_add (Bs ^ i)]
 have e:Bs ^ i * (d * (Bs ^ j * (y / Bs ^ j % Bs))) = Bs ^ (i + j) * (d * (y / Bs ^ j % Bs)):=by
  rw [Nat.pow_add,Nat.mul_left_comm d,← Nat.mul_assoc]
 rw [e]
 have e2:P % Bs ^ (i + j) + Bs ^ (i + j) * (P / Bs ^ (i + j) % Bs) + (Bs ^ i * (d * (y % Bs ^ j)) + Bs ^ (i + j) * (d * (y / Bs ^ j % Bs))) = (P % Bs ^ (i + j) + Bs ^ i * (d * (y % Bs ^ j))) + Bs ^ (i + j) * (P / Bs ^ (i + j) % Bs + d * (y / Bs ^ j % Bs)):=by
  rw [Nat.mul_add]; omega
 rw [e2,Nat.add_mul_div_left _ _ (bs_pos _)]; omega
theorem pq_low (P d y i j t:Nat) (ht:t < i + j):pq P d y i (j + 1) / Bs ^ t % Bs = pq P d y i j / Bs ^ t % Bs:=by
 have h1:∀ z,z / Bs ^ t % Bs = z % Bs ^ (t + 1) / Bs ^ t:=fun z=>by rw [pow_s,Nat.mod_mul_right_div_self]
 rw [h1,h1 (pq P d y i j)]
 congr 1
 unfold pq
 rw [show i + (j + 1) = (i + j) + 1 from rfl,mod_s P,mod_s y,Nat.mul_add d,Nat.mul_add (Bs ^ i)]
 have e:Bs ^ i * (d * (Bs ^ j * (y / Bs ^ j % Bs))) = Bs ^ (i + j) * (d * (y / Bs ^ j % Bs)):=by
  rw [Nat.pow_add,Nat.mul_left_comm d,← Nat.mul_assoc]
 rw [e]
 obtain ⟨r,hr⟩:∃ r,i + j = (t + 1) + r:=⟨i + j - (t + 1),by omega⟩
 have e2:P % Bs ^ (i + j) + Bs ^ (i + j) * (P / Bs ^ (i + j) % Bs) + (Bs ^ i * (d * (y % Bs ^ j)) + Bs ^ (i + j) * (d * (y / Bs ^ j % Bs))) = (P % Bs ^ (i + j) + Bs ^ i * (d * (y % Bs ^ j))) + Bs ^ (t + 1) * (Bs ^ r * (P / Bs ^ (i + j) % Bs + d * (y / Bs ^ j % Bs))):=by
  rw [← Nat.mul_assoc (Bs ^ (t + 1)) (Bs ^ r),← Nat.pow_add,← hr,Nat.mul_add]; omega
 rw [e2,Nat.add_mul_mod_self_left]
theorem pq_lt (P d y i j:Nat) (hd:d < Bs):pq P d y i j / Bs ^ (i + j) < Bs:=by
 rw [Nat.div_lt_iff_lt_mul (bs_pos _)]
 unfold pq
 have h1:=Nat.mod_lt P (bs_pos (i + j))
 have h2:=Nat.mod_lt y (bs_pos j)
 have h3:d * (y % Bs ^ j) + 1 * (y % Bs ^ j)≤Bs * (y % Bs ^ j):=by rw [← Nat.add_mul]; exact Nat.mul_le_mul_right _ hd
 have h4:Bs * (y % Bs ^ j) + Bs≤Bs * Bs ^ j:=by rw [← Nat.mul_succ]; exact Nat.mul_le_mul_left _ h2
 have h5:d * (y % Bs ^ j) + Bs≤Bs * Bs ^ j:=by omega
 have h6:d * (y % Bs ^ j) + 1 + (Bs ^ j - 1)≤Bs * Bs ^ j:=by
  rcases Nat.eq_zero_or_pos (y % Bs ^ j) with h | h
  ·rw [h,Nat.mul_zero]
   have:Bs ^ j * 1≤Bs ^ j * Bs:=Nat.mul_le_mul_left _ (by decide)
   have:=bs_pos j
   rw [Nat.mul_comm Bs]; omega
  ·have h7:d * (y % Bs ^ j)≤(Bs - 1) * (Bs ^ j - 1):=Nat.mul_le_mul (by omega) (by omega)
   have h8:(Bs - 1) * (Bs ^ j - 1) + (Bs ^ j - 1) = Bs * (Bs ^ j - 1):=by
    rw [← Nat.succ_mul]; rfl
   have h9:Bs * (Bs ^ j - 1) + Bs = Bs * Bs ^ j:=by
    rw [← Nat.mul_succ]; congr 1; have:=bs_pos j; omega
   have:1≤Bs:=by decide
   omega
 have h10:Bs ^ i * (d * (y % Bs ^ j) + 1 + (Bs ^ j - 1))≤Bs ^ i * (Bs * Bs ^ j):=Nat.mul_le_mul_left _ h6
 have h11:d * (y % Bs ^ j) + 1 + (Bs ^ j - 1) = d * (y % Bs ^ j) + Bs ^ j:=by have:=bs_pos j; omega
 rw [h11,Nat.mul_add,← Nat.pow_add] at h10
 have h12:Bs ^ i * (Bs * Bs ^ j) = Bs * Bs ^ (i + j):=by rw [Nat.pow_add,Nat.mul_left_comm]
 omega
theorem pq_start (P d y i:Nat):pq P d y i 0 = P % Bs ^ i:=by simp [pq,Nat.mod_one]
theorem prow_next (x y i k:Nat) (hy:y < Bs ^ k):pq (x % Bs ^ i * y) (x / Bs ^ i % Bs) y i k = x % Bs ^ (i + 1) * y:=by
 unfold pq
 have h1:x % Bs ^ i * y < Bs ^ (i + k):=by
  rw [Nat.pow_add]
  rcases Nat.eq_zero_or_pos y with h | h
  ·rw [h,Nat.mul_zero]; exact Nat.mul_pos (bs_pos _) (bs_pos _)
  ·exact Nat.mul_lt_mul'' (Nat.mod_lt _ (bs_pos i)) hy
 rw [Nat.mod_eq_of_lt h1,Nat.mod_eq_of_lt hy,mod_s,Nat.add_mul,Nat.mul_assoc]
theorem prow_lt (x y i k:Nat) (hy:y < Bs ^ k):x % Bs ^ i * y < Bs ^ (i + k):=by
 rw [Nat.pow_add]
 rcases Nat.eq_zero_or_pos y with h | h
 ·rw [h,Nat.mul_zero]; exact Nat.mul_pos (bs_pos _) (bs_pos _)
 ·exact Nat.mul_lt_mul'' (Nat.mod_lt _ (bs_pos i)) hy
theorem guess_ge (x y l:Nat) (hy:0 < y / Bs ^ l):x / y≤x / Bs ^ l / (y / Bs ^ l):=by
 rw [Nat.div_div_eq_div_mul]
 exact Nat.div_le_div_left (by rw [Nat.mul_comm]; exact Nat.div_mul_le_self y _) (Nat.mul_pos (bs_pos l) hy)
theorem two_limbs (x l:Nat) (h:x < Bs ^ (l + 2)):(x / Bs ^ (l + 1) % Bs) * Bs + x / Bs ^ l % Bs = x / Bs ^ l:=by
 have h1:x / Bs ^ (l + 1) < Bs:=by
  rw [Nat.div_lt_iff_lt_mul (bs_pos _)]
  rw [show l + 2 = (l + 1) + 1 from rfl,pow_s (l + 1)] at h
  rw [Nat.mul_comm]; exact h
 rw [Nat.mod_eq_of_lt h1,div_s,Nat.mul_comm,Nat.div_add_mod]
theorem quo_digit (s b i:Nat) (hb:0 < b):(s / Bs ^ (i + 1) % b * Bs + s / Bs ^ i % Bs) / b = s / b / Bs ^ i % Bs∧(s / Bs ^ (i + 1) % b * Bs + s / Bs ^ i % Bs) % b = s / Bs ^ i % b:=by
 have e0:s / Bs ^ i = s / Bs ^ (i + 1) * Bs + s / Bs ^ i % Bs:=by rw [div_s,Nat.mul_comm,Nat.div_add_mod]
 have e1:s / Bs ^ i = b * (s / Bs ^ (i + 1) / b * Bs) + (s / Bs ^ (i + 1) % b * Bs + s / Bs ^ i % Bs):=by
  have h:=Nat.div_add_mod (s / Bs ^ (i + 1)) b
  have h2:s / Bs ^ (i + 1) * Bs = (b * (s / Bs ^ (i + 1) / b) + s / Bs ^ (i + 1) % b) * Bs:=by rw [h]
  rw [Nat.add_mul,Nat.mul_assoc] at h2
  omega
 have hlt:s / Bs ^ (i + 1) % b * Bs + s / Bs ^ i % Bs < b * Bs:=by
  have h1:=Nat.mod_lt (s / Bs ^ (i + 1)) hb
  have h2:s / Bs ^ i % Bs < Bs:=Nat.mod_lt _ (by decide)
  have h3:(s / Bs ^ (i + 1) % b + 1) * Bs≤b * Bs:=Nat.mul_le_mul_right _ h1
  rw [Nat.add_mul,Nat.one_mul] at h3
  omega
 have h1:s / b / Bs ^ i = s / Bs ^ i / b:=by rw [Nat.div_div_eq_div_mul,Nat.mul_comm,← Nat.div_div_eq_div_mul]
 rw [h1]
 clear h1 e0
 obtain ⟨T,hT⟩:∃ T,T = s / Bs ^ (i + 1) % b * Bs + s / Bs ^ i % Bs:=⟨_,rfl⟩
 obtain ⟨U,hU⟩:∃ U,U = s / Bs ^ i:=⟨_,rfl⟩
 obtain ⟨V,hV⟩:∃ V,V = s / Bs ^ (i + 1) / b:=⟨_,rfl⟩
 rw [← hT] at e1 hlt ⊢
 rw [← hU] at e1 ⊢
 rw [← hV] at e1
 clear hT hU hV
 subst e1
 constructor
 ·rw [Nat.mul_add_div hb,Nat.mul_add_mod',Nat.mod_eq_of_lt]
  rw [Nat.div_lt_iff_lt_mul hb,Nat.mul_comm]; exact hlt
 ·rw [Nat.mul_add_mod]
theorem quo_lt (s b i:Nat) (hb:0 < b):s / Bs ^ (i + 1) % b * Bs + s / Bs ^ i % Bs < b * Bs:=by
 have h1:=Nat.mod_lt (s / Bs ^ (i + 1)) hb
 have h2:s / Bs ^ i % Bs < Bs:=Nat.mod_lt _ (by decide)
 have h3:(s / Bs ^ (i + 1) % b + 1) * Bs≤b * Bs:=Nat.mul_le_mul_right _ h1
 rw [Nat.add_mul,Nat.one_mul] at h3
 omega
theorem cmp_from (x y i:Nat) (h:x / Bs ^ (i + 1) = y / Bs ^ (i + 1)) (hl:x / Bs ^ i % Bs < y / Bs ^ i % Bs):x < y:=by
 rcases Nat.lt_or_ge x y with h1 | h1
 ·exact h1
 ·have h2:y / Bs ^ i≤x / Bs ^ i:=Nat.div_le_div_right h1
  rw [div_s,div_s] at h
  have e1:=Nat.div_add_mod (x / Bs ^ i) Bs
  have e2:=Nat.div_add_mod (y / Bs ^ i) Bs
  rw [h] at e1
  omega
theorem cmp_same (x y i:Nat) (h:x / Bs ^ (i + 1) = y / Bs ^ (i + 1)) (hl:x / Bs ^ i % Bs = y / Bs ^ i % Bs):x / Bs ^ i = y / Bs ^ i:=by
 rw [div_s,div_s] at h
 have e1:=Nat.div_add_mod (x / Bs ^ i) Bs
 have e2:=Nat.div_add_mod (y / Bs ^ i) Bs
 rw [h,hl] at e1
 omega
theorem Nd.lt_of_len {k l x y:Nat} (hx:Nd k x) (hy:Nd l y) (h:k < l):x < y:=by
 have h1:=Nat.pow_le_pow_right (show 0 < Bs by decide) (show k≤l - 1 by omega)
 rcases hy.ge with h2 | h2
 ·omega
 ·have:=hx.lt; omega
theorem Nd.top {k n:Nat} (h:Nd k n) (hk:0 < k):1≤n / Bs ^ (k - 1)∧n / Bs ^ (k - 1) < Bs:=by
 refine ⟨Nat.div_pos (h.ge.resolve_left (by omega)) (bs_pos _),?_⟩
 rw [Nat.div_lt_iff_lt_mul (bs_pos _)]
 have:=h.lt
 obtain ⟨j,rfl⟩:=Nat.exists_eq_add_of_lt hk
 rw [show 0 + j + 1 = j + 1 by omega,pow_s] at this
 rw [show 0 + j + 1 - 1 = j by omega,Nat.mul_comm]; exact this
theorem Nd.pos {k n:Nat} (h:Nd k n):0 < k ↔ 0 < n:=by
 rcases Nat.eq_zero_or_pos k with h1 | h1
 ·subst h1; have:=h.lt; simp at this; omega
 ·have:=h.ge.resolve_left (by omega); have:=bs_pos (k - 1); omega
end LgM
end
end Go.Proofs.YtnkjadpmigpneaaGreatDoor
