import Derived.Test.YtnkjadpmigpneaaGreatDoorJsE
import Derived.Laws.AppendOwnNone
set_option linter.unusedSimpArgs false
set_option linter.unusedVariables false
namespace Go.Proofs.YtnkjadpmigpneaaGreatDoor
section
set_option maxRecDepth 100000
open Go.RowKit LgM
theorem low_limb (P i t:Nat) (h:t < i):P % Bs ^ i / Bs ^ t % Bs = P / Bs ^ t % Bs:=by
 obtain ⟨r,rfl⟩:∃ r,i = (t + 1) + r:=⟨i - (t + 1),by omega⟩
 have h1:∀ z,z / Bs ^ t % Bs = z % Bs ^ (t + 1) / Bs ^ t:=fun z=>by rw [pow_s,Nat.mod_mul_right_div_self]
 rw [h1,h1 P,Nat.pow_add,Nat.mod_mul_right_mod]
theorem high_limb (P k t:Nat) (h:P < Bs ^ k) (ht:k≤t):P / Bs ^ t % Bs = 0:=by
 have:=Nat.pow_le_pow_right (show 0 < Bs by decide) ht
 rw [Nat.div_eq_of_lt (Nat.lt_of_lt_of_le h this)]; rfl
set_option maxHeartbeats 4000000 in
theorem NProduct_any (vx vy:Value) (x y m:Nat) (w:World) (hx:LN w vx x) (hy:LN w vy y) (hxm:x < Bs ^ m) (hym:y < Bs ^ m) (hm:m≤100000000) :
  Calls Tryz.prog 109 #[.agg #[vx],.agg #[vy]] w fun e w'=>∃ v,e = .returned (.agg #[v])∧LN w' v (x * y)∧Below w.heap.size w w':=by
 obtain ⟨i0,hi,hz0,hz1,hz2⟩:=info_parts Tryz.infoInt
 obtain ⟨kx,ax,gx,ox,cx,rfl,nx,hpx,hcx,hlx⟩:=hx.open
 obtain ⟨ky,ay,gy,oy,cy,rfl,ny,hpy,hcy,hly⟩:=hy.open
 have hkx:=nx.le hxm
 have hky:=ny.le hym
 have HXm:Hid (x < Bs ^ kx):=nx.lt
 have HYm:Hid (y < Bs ^ ky):=ny.lt
 have HPX:Hid ((0 < kx→ax = some ⟨gx,ox,none⟩)∧(0 < ky→ay = some ⟨gy,oy,none⟩)):=⟨hpx,hpy⟩
 have HCX:Hid (∀ i,i < kx→w.cell? ⟨gx,ox + i,none⟩ = some (.int .i64 ((x / Bs ^ i % Bs:Nat):Int))):=hcx
 have HCY:Hid (∀ i,i < ky→w.cell? ⟨gy,oy + i,none⟩ = some (.int .i64 ((y / Bs ^ i % Bs:Nat):Int))):=hcy
 have HLX:Hid ((0 < kx→gx < w.heap.size)∧(0 < ky→gy < w.heap.size)):=⟨hlx,hly⟩
 clear hx hy nx ny hpx hpy hcx hcy hlx hly hxm hym
 have P0:=Pb.start (.slice ax kx cx) (.slice ay ky cy) w
 obtain ⟨W0,hW0⟩:∃ W0,W0 = (((w.alloc (.cells #[.slice ax kx cx] 64)).alloc (.cells #[.slice ay ky cy] 64)).alloc (.cells #[.slice none 0 0] 64)):=⟨_,rfl⟩
 rw [← hW0] at P0
 have z0:W0.heap.size = w.heap.size + 3:=by rw [hW0]; simp
 have KB0:Hid (Below w.heap.size w W0):=by
  show Below _ _ _
  rw [hW0]; exact (((Below.refl _ _).alloc (Nat.le_refl _) _).alloc (by simp) _).alloc (by simp; omega) _
 have HP0:Hid (Pb w.heap.size (.slice ax kx cx) (.slice ay ky cy) W0):=P0
 clear P0
 go_enter Tryz.func109,Tryz.ntmps109
 go_wp2_with (at_make; rw [← hW0]; refine wpList_make_full _ rfl _ _ 62 rfl W0.heap.size 3 i0 (.int .i64 0) 1 Tryz.underlying62 hi hz0 hz1 .i64 .i64 _ _ (kx + ky) rfl rfl (by omega) (by omega) (by rw [hz2]; omega) (by unfold maxLen; omega) (Nat.le_refl _) ?_)
 intro w1 hown hgrow
 have hcl:=cl_of_mk hown
 rw [← icn_zero] at hcl
 have HCl:Hid (Cl (w.heap.size + 1 + 1 + 1) (icn (kx + ky) (fun _=>0)) 3 w1):=hcl
 have HB:Hid (Below (w.heap.size + 3) W0 w1):=by
  have:=(Below.refl W0.heap.size W0).grown (hW0 ▸ hgrow) (Nat.le_refl _) (by simp)
  rw [z0] at this; exact this
 have q1:=(HP0.out.below HB.out (by omega)).x.cell 0
 simp at q1
 clear hown hgrow hcl hi hz0 hz1 hz2 hW0
 go_wp2
 clear q1
 go_loopw [22] (fun iv wx=>∃ (i:Nat) (B:Nat→Int),i≤kx∧iv = .int .i64 (i:Int)∧Hid ((∀ t,t < kx + ky→B t = (((x % Bs ^ i * y) / Bs ^ t % Bs:Nat):Int))∧Cl (w.heap.size + 1 + 1 + 1) (icn (kx + ky) B) 3 wx∧Below (w.heap.size + 3) W0 wx)) (fun iv _=>kx - (intOf iv).toNat)
 case atStart =>
  refine ⟨0,fun _=>0,Nat.zero_le _,rfl,fun t ht=>?_,HCl.out,HB.out⟩
  simp [Nat.mod_one]
 case round =>
  clear HB HCl
  obtain ⟨i,B,hi,rfl,HR⟩:=hrel
  by_cases hlt:i < kx
  ·obtain rfl:=HPX.out.1 (by omega)
   obtain ⟨dx,hdx⟩:∃ dx,dx = x / Bs ^ i % Bs:=⟨_,rfl⟩
   have hdx1:dx≤999999999:=by rw [hdx]; exact limb_lt x i
   have q1:wr.cell? ⟨gx,ox + i,none⟩ = some (.int .i64 (dx:Int)):=by
    have hl:=HLX.out.1 (by omega)
    rw [hdx,(KB0.out.trans (HR.out.2.2.mono (by omega))).cell (p:=⟨gx,ox + i,none⟩) hl]; exact HCX.out i hlt
   have q2:=(HP0.out.below HR.out.2.2 (Nat.le_refl _)).y.cell 0
   simp at q2
   obtain ⟨P,hP⟩:∃ P,P = x % Bs ^ i * y:=⟨_,rfl⟩
   have HPd:Hid (P = x % Bs ^ i * y):=hP
   have HD:Hid (dx = x / Bs ^ i % Bs):=hdx
   have HRP:Hid (∀ t,t < kx + ky→B t = ((P / Bs ^ t % Bs:Nat):Int)):=by rw [hP]; exact HR.out.1
   clear hdx hP
   go_wp2
   clear q1 q2
   go_loopw [8,30] (fun cv jv wx=>∃ (j c:Nat) (B:Nat→Int),j≤ky∧c≤999999999∧cv = .int .i64 (c:Int)∧jv = .int .i64 (j:Int)∧Hid (c = pq P dx y i j / Bs ^ (i + j)∧(∀ t,t < i + j→B t = ((pq P dx y i j / Bs ^ t % Bs:Nat):Int))∧(∀ t,i + j≤t→t < kx + ky→B t = ((P / Bs ^ t % Bs:Nat):Int))∧Cl (w.heap.size + 1 + 1 + 1) (icn (kx + ky) B) 3 wx∧Below (w.heap.size + 3) W0 wx)) (fun _ jv _=>ky - (intOf jv).toNat)
   case atStart =>
    refine ⟨0,0,B,Nat.zero_le _,by omega,rfl,rfl,?_,fun t ht=>?_,fun t _ ht=>HRP.out t ht,HR.out.2.1,HR.out.2.2⟩
    ·rw [pq_start,Nat.add_zero,Nat.div_eq_of_lt (Nat.mod_lt _ (bs_pos i))]
    ·rw [pq_start,low_limb P i t (by omega)]; exact HRP.out t (by omega)
   case round =>
    clear HR HRP
    obtain ⟨j,c,B,hj,hc,rfl,rfl,HR⟩:=hrel
    by_cases hjl:j < ky
    ·obtain rfl:=HPX.out.2 (by omega)
     obtain ⟨dy,hdy⟩:∃ dy,dy = y / Bs ^ j % Bs:=⟨_,rfl⟩
     have hdy1:dy≤999999999:=by rw [hdy]; exact limb_lt y j
     have q1:wr.cell? ⟨gy,oy + j,none⟩ = some (.int .i64 (dy:Int)):=by
      have hl:=HLX.out.2 (by omega)
      rw [hdy,(KB0.out.trans (HR.out.2.2.2.2.mono (by omega))).cell (p:=⟨gy,oy + j,none⟩) hl]; exact HCY.out j hjl
     obtain ⟨bt,hbt⟩:∃ bt,bt = P / Bs ^ (i + j) % Bs:=⟨_,rfl⟩
     have hbt1:bt≤999999999:=by rw [hbt]; exact limb_lt P (i + j)
     have hc2:wr.cell? ⟨w.heap.size + 1 + 1 + 1,i + j,none⟩ = some (.int .i64 (bt:Int)):=by
      rw [HR.out.2.2.2.1.cell (i + j),icn_get B (by omega),HR.out.2.2.1 (i + j) (Nat.le_refl _) (by omega),hbt]
     have hf:wr.frozen? ⟨w.heap.size + 1 + 1 + 1,i + j,none⟩ = false:=HR.out.2.2.2.1.frozen _
     obtain ⟨M,hM⟩:∃ M,M = dx * dy:=⟨_,rfl⟩
     have hM1:M≤999999998000000001:=by have:=Nat.mul_le_mul hdx1 hdy1; omega
     have hMI:(dx:Int) * (dy:Int) = (M:Int):=by rw [hM,Int.natCast_mul]
     obtain ⟨s,hs⟩:∃ s,s = c + (bt + M):=⟨_,rfl⟩
     have hs1:s≤1000000000000000000:=by omega
     have hsI:(c:Int) + ((bt:Int) + (M:Int)) = (s:Int):=by omega
     have HS:Hid (s = pq P dx y i (j + 1) / Bs ^ (i + j)):=by
      show _ = _
      rw [← pq_step,← HR.out.1,← hbt,← hdy,← hM,hs]; omega
     have hijk:i + j < kx + ky:=by omega
     clear hdy hbt hM hs
     obtain ⟨q,hq⟩:∃ q,q = s / 1000000000:=⟨_,rfl⟩
     obtain ⟨r,hr⟩:∃ r,r = s % 1000000000:=⟨_,rfl⟩
     have hqI:(s:Int) / 1000000000 = (q:Int):=by omega
     have hrI:(s:Int) % 1000000000 = (r:Int):=by omega
     have HQ:Hid (q = pq P dx y i (j + 1) / Bs ^ (i + (j + 1))∧r = pq P dx y i (j + 1) / Bs ^ (i + j) % Bs∧q≤999999999):=by
      have e1:q = pq P dx y i (j + 1) / Bs ^ (i + (j + 1)):=by rw [hq,HS.out,show i + (j + 1) = i + j + 1 from rfl,div_s]
      refine ⟨e1,by rw [hr,HS.out],?_⟩
      rw [e1]; exact lim_le (pq_lt P dx y i (j + 1) (by unfold Bs; omega))
     have hr1:r≤999999999:=by omega
     clear hq hr
     have HN:Hid (Cl (w.heap.size + 1 + 1 + 1) (icn (kx + ky) (fun t=>if t = i + j then (r:Int) else B t)) 3 (wr.setCell ⟨w.heap.size + 1 + 1 + 1,i + j,none⟩ (.int .i64 (r:Int)))∧Below (w.heap.size + 3) W0 (wr.setCell ⟨w.heap.size + 1 + 1 + 1,i + j,none⟩ (.int .i64 (r:Int)))) :=
      ⟨by rw [← icn_set]; exact HR.out.2.2.2.1.set _ _,HR.out.2.2.2.2.setCell (by simp) _⟩
     go_wp2
     go_roundw
     case rel =>
      refine ⟨j + 1,q,_,by omega,HQ.out.2.2,by first | rfl | go_num,by go_num,HQ.out.1,fun t ht=>?_,fun t h1 h2=>?_,HN.out.1,HN.out.2⟩
      ·by_cases e:t = i + j
       ·rw [if_pos e,HQ.out.2.1,e]
       ·rw [if_neg e,pq_low P dx y i j t (by omega)]; exact HR.out.2.1 t (by omega)
      ·rw [if_neg (by omega)]; exact HR.out.2.2.1 t (by omega) h2
     case measure=>simp [intOf]; omega
    ·obtain rfl:j = ky:=by omega
     have q2:=(HP0.out.below HR.out.2.2.2.2 (Nat.le_refl _)).y.cell 0
     simp at q2
     have hcb:wr.cell? ⟨w.heap.size + 1 + 1 + 1,i + j,none⟩ = some (.int .i64 (B (i + j))):=by
      rw [HR.out.2.2.2.1.cell (i + j),icn_get B (by omega)]
     have hf:wr.frozen? ⟨w.heap.size + 1 + 1 + 1,i + j,none⟩ = false:=HR.out.2.2.2.1.frozen _
     have HN:Hid (Cl (w.heap.size + 1 + 1 + 1) (icn (kx + j) (fun t=>if t = i + j then (c:Int) else B t)) 3 (wr.setCell ⟨w.heap.size + 1 + 1 + 1,i + j,none⟩ (.int .i64 (c:Int)))∧Below (w.heap.size + 3) W0 (wr.setCell ⟨w.heap.size + 1 + 1 + 1,i + j,none⟩ (.int .i64 (c:Int)))) :=
      ⟨by rw [← icn_set]; exact HR.out.2.2.2.1.set _ _,HR.out.2.2.2.2.setCell (by simp) _⟩
     have HNx:Hid (pq P dx y i j = x % Bs ^ (i + 1) * y):=by
      show _ = _
      rw [HPd.out,HD.out]; exact prow_next x y i j HYm.out
     have HE:Hid (∀ t,t < kx + j→(if t = i + j then (c:Int) else B t) = (((x % Bs ^ (i + 1) * y) / Bs ^ t % Bs:Nat):Int)):=by
      intro t ht
      rw [← HNx.out]
      by_cases e:t = i + j
      ·rw [if_pos e,HR.out.1,e,Nat.mod_eq_of_lt (pq_lt P dx y i j (by unfold Bs; omega))]
      ·rw [if_neg e]
       rcases Nat.lt_or_ge t (i + j) with h | h
       ·exact HR.out.2.1 t h
       ·rw [HR.out.2.2.1 t h ht,HNx.out,high_limb P (i + j) t (by rw [HPd.out]; exact prow_lt x y i j HYm.out) h,high_limb _ (i + 1 + j) t (prow_lt x y (i + 1) j HYm.out) (by omega)]
     go_wp2
     go_roundw
     case rel=>exact ⟨i + 1,_,by omega,by go_num,HE.out,HN.out.1,HN.out.2⟩
     case measure=>simp [intOf]; omega
  ·obtain rfl:i = kx:=by omega
   have HT:Hid (Calls Tryz.prog 107 #[.slice (some ⟨w.heap.size + 1 + 1 + 1,0,none⟩) (i + ky) (i + ky)] wr fun e w'=>∃ v,e = .returned (.agg #[v])∧LN w' v (x * y)∧Below wr.heap.size wr w'):=by
    refine trimmed_any (i + ky) (x * y) (w.heap.size + 1 + 1 + 1) 0 (i + ky) wr (fun j hj=>?_) ⟨_,_,HR.out.2.1⟩ ?_ (Nat.le_refl _) (by omega)
    ·rw [Nat.zero_add,HR.out.2.1.cell j,icn_get B hj,HR.out.1 j hj,Nat.mod_eq_of_lt HXm.out]
    ·have:=prow_lt x y i ky HYm.out
     rw [Nat.mod_eq_of_lt HXm.out] at this; exact this
   have HZr:Hid (w.heap.size + 3≤wr.heap.size):=by have:=HR.out.2.2.size; show _≤_; omega
   go_wp2_with fail
   refine HT.out.mono ?_
   rintro e w2 ⟨v,rfl,hv,k2⟩
   have HK2:Hid (Below (w.heap.size + 3) W0 w2):=HR.out.2.2.trans (k2.mono HZr.out)
   have hP2:=HP0.out.below HK2.out (Nat.le_refl _)
   have q1:=hP2.z.cell 0
   have q2:=hP2.z.frozen 0
   simp at q1
   have HV:Hid (LN w2 v (x * y)):=hv
   have HP2:Hid (Pb w.heap.size (.slice ax i cx) (.slice ay ky cy) w2):=hP2
   obtain ⟨kv,av,gv,ov,cv,rfl,_⟩:=hv.open
   clear k2 hv HT hP2
   go_wp2
   have C2:=HP2.out.z.set 0 (.slice av kv cv)
   have q3:=C2.cell 0
   simp at q3
   refine bodyPost_ret (v:=.agg #[.slice av kv cv]) (by simp [results,Tryz.results109,go_sem,q3]) rfl ⟨_,rfl,?_,?_⟩
   ·exact HV.out.set HP2.out.z _
   ·exact (KB0.out.trans (HK2.out.mono (by omega))).setCell (by simp; omega) _
end
section
set_option maxRecDepth 100000
open Go.RowKit LgM
def NilOk (v:Value):Prop:=∀ k c,v = .slice none k c→k = 0∧c = 0
theorem Som.nilOk {v:Value} (h:Som v):NilOk v:=by
 obtain ⟨a,k,c,rfl⟩:=h
 intro k' c' e; simp at e
theorem NilOk.zero:NilOk (.slice none 0 0):=by intro k c e; simp at e; omega
theorem ahead_limb (n d i:Nat) (hd:d < Bs):(n * Bs + d) / Bs ^ i % Bs = if i = 0 then d else n / Bs ^ (i - 1) % Bs:=by
 rcases i with _ | i
 ·rw [if_pos rfl,Nat.pow_zero,Nat.div_one,Nat.mul_add_mod',Nat.mod_eq_of_lt hd]
 ·rw [if_neg (by omega),show i + 1 - 1 = i from rfl,Nat.pow_succ,Nat.mul_comm (Bs ^ i),← Nat.div_div_eq_div_mul,Nat.mul_comm n,Nat.mul_add_div (by decide),Nat.div_eq_of_lt hd,Nat.add_zero]
set_option maxHeartbeats 2000000 in
theorem ahead_any (v:Value) (n d m:Nat) (w:World) (h:LN w v n) (hnil:NilOk v) (hd:d < Bs) (hn:n < Bs ^ m) (hm:m≤100000000) :
  Calls Tryz.prog 106 #[.agg #[v],.int .i64 (d:Int)] w fun e w'=>∃ v',e = .returned (.agg #[v'])∧LN w' v' (n * Bs + d)∧SomF w.heap.size v'∧Below w.heap.size w w':=by
 obtain ⟨i0,hi,hz0,hz1,hz2⟩:=info_parts Tryz.infoInt
 have HI:Hid (Tryz.prog.info? 3 = some i0∧i0.zero = some (.int .i64 0)∧i0.size = 1∧i0.bytes = 8):=⟨hi,hz0,hz1,hz2⟩
 obtain ⟨k,aa,g,o,c,rfl,nx,hp,hc,hl⟩:=h.open
 have hk:=nx.le hn
 have HN:Hid (n < Bs ^ k):=nx.lt
 have HD:Hid (d < Bs):=hd
 have P0:=Tbx.start (.slice aa k c) w
 obtain ⟨W0,hW0⟩:∃ W0,W0 = ((w.alloc (.cells #[.slice aa k c] 64)).alloc (.cells #[.slice none 0 0] 64)):=⟨_,rfl⟩
 rw [← hW0] at P0
 have z0:W0.heap.size = w.heap.size + 2:=by rw [hW0]; simp
 have KB0:Hid (Below w.heap.size w W0):=by
  show Below _ _ _
  rw [hW0]; exact ((Below.refl _ _).alloc (Nat.le_refl _) _).alloc (by simp) _
 have HP0:Hid (Tbx w.heap.size (.slice aa k c) W0):=P0
 have HC:Hid ((0 < k→aa = some ⟨g,o,none⟩)∧(∀ i,i < k→w.cell? ⟨g,o + i,none⟩ = some (.int .i64 ((n / Bs ^ i % Bs:Nat):Int)))∧(0 < k→g < w.heap.size)):=⟨hp,hc,hl⟩
 clear P0 hi hz0 hz1 hz2 h nx hp hc hl hn hd
 obtain ⟨W1,hW1⟩:∃ W1,W1 = W0.alloc (.cells #[.int .i64 (d:Int)] 3):=⟨_,rfl⟩
 have HO1:Hid (W1.ownsRow W0.heap.size 3 1 (.slice (some ⟨W0.heap.size,0,none⟩) 1 1) 1 [.int .i64 (d:Int)]):=by
  show World.ownsRow _ _ _ _ _ _ _
  have:=World.ownsRow_lit (base:=W0.heap.size) (e:=3) (size:=1) W0 #[.int .i64 (d:Int)] 1 (Nat.le_refl _) (by simp [maxLen]) rfl
  rw [hW1]; simpa using this
 have HB1:Hid (Below W0.heap.size W0 W1):=by show Below _ _ _; rw [hW1]; exact (Below.refl _ _).alloc (Nat.le_refl _) _
 have q1:=(HP0.out.below (HB1.out.mono (by omega)) (Nat.le_refl _)).x.cell 0
 simp at q1
 have HEnd:Hid (∀ (W:World) (v':Value),W.ownsRow W0.heap.size 3 1 v' (1 + k) ([.int .i64 (d:Int)] ++ ints (nz (dgl k n)))→Below W0.heap.size W0 W→∃ g' cap',v' = .slice (some ⟨g',0,none⟩) (1 + k) cap'∧Calls Tryz.prog 107 #[.slice (some ⟨g',0,none⟩) (1 + k) cap'] W fun e w'=>∃ v,e = .returned (.agg #[v])∧LN w' v (n * Bs + d)∧SomF w.heap.size v∧Below W.heap.size W w'):=by
  intro W v' ho hb
  obtain ⟨_,⟨_,h2⟩ | ⟨g',cap,cur,e1,e2,e3,e4,e5,e6,e7⟩⟩:=ho
  ·omega
  refine ⟨g',cap,e1,(trimmed_some (1 + k) (n * Bs + d) g' 0 cap W (fun i hi=>?_) ⟨_,_,e3⟩ ?_ e4 (by omega)).mono fun e w' ⟨v,h1,h2,h3,h4⟩=>⟨v,h1,h2,h3.mono (by omega),h4⟩⟩
  ·have h3:(cur.toList.take ((1 + k) * 1))[i]? = ([.int .i64 (d:Int)] ++ ints (nz (dgl k n)))[i]?:=by rw [e7]
   rw [List.getElem?_take,if_pos (by omega)] at h3
   simp only [World.cell?,e3,Nat.zero_add]
   rw [← Array.getElem?_toList,h3,ahead_limb n d i HD.out]
   rcases i with _ | i
   ·simp
   ·simp [ints,nz,dgl,show i < k by omega]
  ·have h1:=HN.out
   have h2:=HD.out
   have h3:(n + 1) * Bs≤Bs ^ k * Bs:=Nat.mul_le_mul_right _ h1
   rw [Nat.add_mul,Nat.one_mul] at h3
   rw [Nat.add_comm 1 k,pow_s]; omega
 have HZ:Hid (W0.heap.size = w.heap.size + 1 + 1):=z0
 have HFin:Hid (∀ (W:World) (v:Value),LN W v (n * Bs + d)→Below W0.heap.size W0 W→W.cell? ⟨w.heap.size + 1,0,none⟩ = some (.slice none 0 0)∧W.frozen? ⟨w.heap.size + 1,0,none⟩ = false∧(W.setCell ⟨w.heap.size + 1,0,none⟩ v).cell? ⟨w.heap.size + 1,0,none⟩ = some v∧LN (W.setCell ⟨w.heap.size + 1,0,none⟩ v) v (n * Bs + d)∧Below w.heap.size w (W.setCell ⟨w.heap.size + 1,0,none⟩ v)):=by
  intro W v hv hb
  have hP:=HP0.out.below (hb.mono (Nat.le_of_eq HZ.out.symm)) (Nat.le_refl _)
  have C2:=hP.z.set 0 v
  have q3:=C2.cell 0
  have q4:=hP.z.cell 0
  refine ⟨by simpa using q4,hP.z.frozen 0,by simpa using q3,hv.set hP.z _,(KB0.out.trans (hb.mono (by have:=HZ.out; omega))).setCell (by simp) _⟩
 rcases aa with _ | ad
 ·obtain ⟨rfl,rfl⟩:=hnil _ _ rfl
  clear hnil z0
  obtain ⟨g',cap',e1,hcall⟩:=HEnd.out W1 (.slice (some ⟨W0.heap.size,0,none⟩) 1 1) (by simpa [dgl,nz,ints] using HO1.out) HB1.out
  rw [← e1,HZ.out] at hcall
  have HCA:Hid (Calls Tryz.prog 107 #[.slice (some ⟨w.heap.size + 1 + 1,0,none⟩) 1 1] W1 fun e w'=>∃ v,e = .returned (.agg #[v])∧LN w' v (n * Bs + d)∧SomF w.heap.size v∧Below W1.heap.size W1 w'):=hcall
  clear hcall e1
  go_enter Tryz.func106,Tryz.ntmps106
  go_wp2_with fail
  rw [← hW0,← hW1]
  refine HCA.out.mono ?_
  rintro e w2 ⟨v,rfl,hv,hs,k2⟩
  have hb2:Below W0.heap.size W0 w2:=HB1.out.trans (k2.mono HB1.out.size)
  obtain ⟨q4,q5,q6,q7,q8⟩:=HFin.out w2 v hv hb2
  obtain ⟨av,kv,cv,rfl,hge⟩:=hs
  have HGe:Hid (w.heap.size≤av.block):=hge
  clear hge
  have HQ:Hid (LN (w2.setCell ⟨w.heap.size + 1,0,none⟩ (.slice (some av) kv cv)) (.slice (some av) kv cv) (n * Bs + d)∧Below w.heap.size w (w2.setCell ⟨w.heap.size + 1,0,none⟩ (.slice (some av) kv cv))):=⟨q7,q8⟩
  clear q7 q8 hb2 hv k2 hW0 hW1 HCA
  go_wp2
  refine bodyPost_ret (v:=.agg #[.slice (some av) kv cv]) (by simp [results,Tryz.results106,go_sem,q6]) rfl ⟨_,rfl,HQ.out.1,⟨_,_,_,rfl,HGe.out⟩,HQ.out.2⟩
 ·clear hnil z0
  have HOx:Hid ((((w.alloc (.cells #[.slice (some ad) k c] 64)).alloc (.cells #[.slice none 0 0] 64)).alloc (.cells #[.int .i64 (d:Int)] 3)).ownsRow (w.heap.size + 1 + 1) 3 1 (.slice (some ⟨w.heap.size + 1 + 1,0,none⟩) 1 1) 1 [.int .i64 (d:Int)]):=by
   show World.ownsRow _ _ _ _ _ _ _
   have:=HO1.out
   rw [HZ.out,hW1,hW0] at this
   exact this
  have HNw:Hid (∀ j u,(ints (nz (dgl k n)))[j]? = some u→(((w.alloc (.cells #[.slice (some ad) k c] 64)).alloc (.cells #[.slice none 0 0] 64)).alloc (.cells #[.int .i64 (d:Int)] 3)).cell? (ad.add j) = some u):=by
   intro j u hu
   have hj:j < k:=by
    have:=List.getElem?_eq_some_iff.1 hu
    obtain ⟨h1,_⟩:=this
    simpa [ints,nz,dgl] using h1
   obtain ⟨h1,h2,h3⟩:=HC.out
   have h4:=h1 (by omega)
   simp at h4
   subst h4
   rw [← hW0,← hW1]
   have hb:Below w.heap.size w W1:=KB0.out.trans (HB1.out.mono (by have:=HZ.out; omega))
   rw [show (({ block:=g,off:=o,spot:=none }:Addr).add j) = ⟨g,o + j,none⟩ by simp [Addr.add]]
   rw [hb.cell (p:=⟨g,o + j,none⟩) (h3 (by omega)),h2 j hj,← hu]
   simp [ints,nz,dgl,hj]
  have HGr:Hid (∀ W2:World,(((w.alloc (.cells #[.slice (some ad) k c] 64)).alloc (.cells #[.slice none 0 0] 64)).alloc (.cells #[.int .i64 (d:Int)] 3)).grownBy W2 (some (w.heap.size + 1 + 1))→Below W0.heap.size W0 W2):=by
   intro W2 hg
   rw [← hW0,← hW1] at hg
   exact HB1.out.grown hg HB1.out.size (fun g e=>by simp at e; have:=HZ.out; omega)
  clear hW0 hW1 q1
  go_enter Tryz.func106,Tryz.ntmps106
  go_wp2_with (at_builtin; refine wpList_append_own _ rfl _ _ 62 rfl (w.heap.size + 1 + 1) 3 i0 (.int .i64 0) 1 8 Tryz.underlying62 HI.out.1 HI.out.2.1 HI.out.2.2.1 HI.out.2.2.2 rfl (by decide) (.slice (some ⟨w.heap.size + 1 + 1,0,none⟩) 1 1) 1 [.int .i64 (d:Int)] rfl HOx.out ad k c (ints (nz (dgl k n))) rfl (by simp [ints,nz,dgl]) HNw.out (by simp [ints,Value.oneCell']) (by simp only [maxLen]; omega) (by omega) (by simp) ?_; intro v' w1 hown' hgrow _)
  have hb1:=HGr.out w1 hgrow
  obtain ⟨g',cap',rfl,hcall⟩:=HEnd.out w1 v' (by rw [HZ.out]; exact hown') hb1
  have HB1x:Hid (Below W0.heap.size W0 w1):=hb1
  clear hown' hgrow hb1
  refine hcall.mono ?_
  rintro e w2 ⟨v,rfl,hv,hs,k2⟩
  have hb2:Below W0.heap.size W0 w2:=HB1x.out.trans (k2.mono HB1x.out.size)
  obtain ⟨q4,q5,q6,q7,q8⟩:=HFin.out w2 v hv hb2
  obtain ⟨av,kv,cv,rfl,hge⟩:=hs
  have HGe:Hid (w.heap.size≤av.block):=hge
  clear hge
  have HQ:Hid (LN (w2.setCell ⟨w.heap.size + 1,0,none⟩ (.slice (some av) kv cv)) (.slice (some av) kv cv) (n * Bs + d)∧Below w.heap.size w (w2.setCell ⟨w.heap.size + 1,0,none⟩ (.slice (some av) kv cv))):=⟨q7,q8⟩
  clear q7 q8 hb2 hv k2 hcall
  go_wp2
  refine bodyPost_ret (v:=.agg #[.slice (some av) kv cv]) (by simp [results,Tryz.results106,go_sem,q6]) rfl ⟨_,rfl,HQ.out.1,⟨_,_,_,rfl,HGe.out⟩,HQ.out.2⟩
end
end Go.Proofs.YtnkjadpmigpneaaGreatDoor
