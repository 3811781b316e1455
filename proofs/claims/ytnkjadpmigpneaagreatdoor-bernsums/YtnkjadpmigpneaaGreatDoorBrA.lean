import Derived.Test.YtnkjadpmigpneaaGreatDoorJsJ
import Derived.Test.YtnkjadpmigpneaaGreatDoorBrM
import Derived.Test.YtnkjadpmigpneaaGreatDoorJsK
set_option linter.unusedSimpArgs false
set_option linter.unusedVariables false
set_option maxRecDepth 100000
namespace Go.Proofs.YtnkjadpmigpneaaGreatDoor
open Go.RowKit LgM
theorem Tryz.undS:Tryz.prog.underlying 61 = some (.slice 66):=by kernel_rfl
def SC (w:World) (us:List Value) (N:Nat) (x:Nat→Int):Prop:=∀ j,j < N→∃ sa sk sc,us[j * 2]? = some (.slice sa sk sc)∧us[j * 2 + 1]? = some (.bool (decide (x j < 0)))∧LN w (.slice sa sk sc) (x j).natAbs
theorem SC.below {w w':World} {us:List Value} {N:Nat} {x:Nat→Int} (h:SC w us N x) (k:Below w.heap.size w w'):SC w' us N x:=fun j hj=>by
 obtain ⟨sa,sk,sc,c1,c2,c3⟩:=h j hj
 exact ⟨sa,sk,sc,c1,c2,c3.below k⟩
def SO (B:Nat) (w:World) (v:Value) (N:Nat) (x:Nat→Int):Prop:=∃ us:List Value,w.ownsRow B 66 2 v N us∧SC w us N x
theorem row_bel2 {B e n size:Nat} {v:Value} {xs:List Value} {w w':World} (h:w.ownsRow B e size v n xs) (k:Below w.heap.size w w'):w'.ownsRow B e size v n xs:=by
 refine ⟨h.1,?_⟩
 rcases h.2 with h2 | ⟨g,cap,cur,h2,h3,h4,rest⟩
 ·exact .inl h2
 ·exact .inr ⟨g,cap,cur,h2,h3,(k.block g (lt_of_some h4)).trans h4,rest⟩
theorem row_low2 {B B' e n size:Nat} {v:Value} {xs:List Value} {w:World} (h:w.ownsRow B e size v n xs) (hb:B'≤B):w.ownsRow B' e size v n xs:=by
 refine ⟨h.1,?_⟩
 rcases h.2 with h2 | ⟨g,cap,cur,h2,h3,rest⟩
 ·exact .inl h2
 ·exact .inr ⟨g,cap,cur,h2,by omega,rest⟩
theorem SO.below {B N:Nat} {w w':World} {v:Value} {x:Nat→Int} (h:SO B w v N x) (k:Below w.heap.size w w'):SO B w' v N x:=by
 obtain ⟨us,h1,h2⟩:=h
 exact ⟨us,row_bel2 h1 k,h2.below k⟩
theorem SO.low {B B' N:Nat} {w:World} {v:Value} {x:Nat→Int} (h:SO B w v N x) (hb:B'≤B):SO B' w v N x:=by
 obtain ⟨us,h1,h2⟩:=h
 exact ⟨us,row_low2 h1 hb,h2⟩
theorem SO.va {B N:Nat} {w:World} {v:Value} {x:Nat→Int} (h:SO B w v N x):VA w v N x:=by
 obtain ⟨us,⟨hl,⟨h1,h2⟩ | ⟨g,cap,cur,e1,e2,e3,e4,e5,e6,e7⟩⟩,h3⟩:=h
 ·subst h1; subst h2
  exact ⟨none,0,0,0,rfl,fun hp=>by omega,fun r hr=>by omega,fun hp=>by omega⟩
 ·have cl:∀ i u,i < N * 2→us[i]? = some u→w.cell? ⟨g,0 + i,none⟩ = some u:=by
   intro i u hi hu
   have h4:(cur.toList.take (N * 2))[i]? = us[i]?:=by rw [e7]
   rw [List.getElem?_take,if_pos hi] at h4
   simp only [World.cell?,e3,Nat.zero_add]
   rw [← Array.getElem?_toList,h4,hu]; rfl
  refine ⟨some ⟨g,0,none⟩,g,0,cap,e1,fun _=>⟨rfl,lt_of_some e3⟩,fun r hr=>?_,fun _=>⟨_,_,e3⟩⟩
  obtain ⟨sa,sk,sc,c1,c2,c3⟩:=h3 r hr
  exact ⟨sa,sk,sc,cl _ _ (by omega) c1,cl (r * 2 + 1) _ (by omega) c2,c3⟩
theorem LN.grownS {B N n:Nat} {w w':World} {v vr:Value} {us:List Value} (h:LN w v n) (hu:w.ownsRow B 66 2 vr N us) (hg:w.grownBy w' vr.ownBlock):LN w' v n:=by
 have key:∀ (g:Nat) (arr:Array Value) (fr:Nat × Nat),w.heap[g]? = some (Obj.cells arr 3 fr)→w'.heap[g]? = w.heap[g]?:=by
  intro g arr fr h1
  refine hg.block g (lt_of_some h1) (fun e=>?_)
  obtain ⟨_,⟨h2,_⟩ | ⟨g2,cap,cur,e1,e2,e3,_⟩⟩:=hu
  ·rw [h2] at e; simp [Value.ownBlock] at e
  ·rw [e1] at e; simp [Value.ownBlock] at e; subst e; rw [h1] at e3; simp at e3
 obtain ⟨j,hj,⟨aa,g,o,c',e,p,cell,lt⟩,hty⟩:=h
 refine ⟨j,hj,⟨aa,g,o,c',e,p,fun s hs=>?_,fun hp=>Nat.lt_of_lt_of_le (lt hp) hg.size⟩,fun a k c e2 hl=>?_⟩
 ·have h1:=p (by omega)
  rw [h1] at e
  obtain ⟨ar,f,h2⟩:=hty _ _ _ e (by omega)
  rw [World.cell?_of_block (w:=w) (w':=w') (a:=⟨g,o + s,none⟩) (key _ _ _ h2)]
  exact cell s hs
 ·obtain ⟨ar,f,h2⟩:=hty a k c e2 hl
  exact ⟨ar,f,(key _ _ _ h2).trans h2⟩
theorem VA.grownS {B N M:Nat} {w w':World} {v vr:Value} {x:Nat→Int} {us:List Value} (h:VA w v N x) (hu:w.ownsRow B 66 2 vr M us) (hg:w.grownBy w' vr.ownBlock) (hne:∀ g,v.ownBlock = some g→vr.ownBlock ≠ some g):VA w' v N x:=by
 obtain ⟨a,g,o,c,e,h1,h2,h3⟩:=h
 have hk:0 < N→w'.heap[g]? = w.heap[g]?:=fun hp=>hg.block g (h1 hp).2 (fun e2=>hne g (by rw [e,(h1 hp).1]; rfl) e2.symm)
 refine ⟨a,g,o,c,e,fun hp=>⟨(h1 hp).1,Nat.lt_of_lt_of_le (h1 hp).2 hg.size⟩,fun j hj=>?_,fun hp=>by obtain ⟨arr,fr,h⟩:=h3 hp; exact ⟨arr,fr,(hk hp).trans h⟩⟩
 obtain ⟨sa,sk,sc,c1,c2,c3⟩:=h2 j hj
 exact ⟨sa,sk,sc,by rw [World.cell?_of_block (w:=w) (w':=w') (a:=⟨g,o + j * 2,none⟩) (hk (by omega))]; exact c1,by rw [World.cell?_of_block (w:=w) (w':=w') (a:=⟨g,o + j * 2 + 1,none⟩) (hk (by omega))]; exact c2,c3.grownS hu hg⟩
theorem SO.push {B N:Nat} {w w':World} {v v':Value} {x:Nat→Int} {us:List Value} {sa:Option Addr} {sk sc:Nat} {z:Bool} {y:Int} (hu:w.ownsRow B 66 2 v N us) (hx:SC w us N x) (hn:LN w (.slice sa sk sc) y.natAbs) (hz:z = decide (y < 0)) (hown:w'.ownsRow B 66 2 v' (N + 1) (us ++ [.slice sa sk sc,.bool z])) (hg:w.grownBy w' v.ownBlock) {x':Nat→Int} (e1:∀ j,j < N→x' j = x j) (e2:x' N = y):SO B w' v' (N + 1) x':=by
 refine ⟨_,hown,fun j hj=>?_⟩
 have hl:=hu.1
 by_cases e:j = N
 ·subst e
  rw [e2]
  refine ⟨sa,sk,sc,?_,?_,hn.grownS hu hg⟩
  ·rw [List.getElem?_append_right (by omega),hl]; simp
  ·rw [List.getElem?_append_right (by omega),hl,show j * 2 + 1 - j * 2 = 1 by omega,hz]; rfl
 ·obtain ⟨ta,tk,tc,c1,c2,c3⟩:=hx j (by omega)
  rw [e1 j (by omega)]
  refine ⟨ta,tk,tc,?_,?_,c3.grownS hu hg⟩
  ·rw [List.getElem?_append_left (by omega)]; exact c1
  ·rw [List.getElem?_append_left (by omega)]; exact c2
theorem SO.lit {B:Nat} {w:World} {sa:Option Addr} {sk sc:Nat} {z:Bool} {y:Int} (hB:B≤w.heap.size) (hn:LN w (.slice sa sk sc) y.natAbs) (hz:z = decide (y < 0)) (x:Nat→Int) (hx:x 0 = y):SO B (w.alloc (.cells #[.slice sa sk sc,.bool z] 66)) (.slice (some ⟨w.heap.size,0,none⟩) 1 1) 1 x:=by
 refine ⟨[.slice sa sk sc,.bool z],⟨rfl,.inr ⟨w.heap.size,1,#[.slice sa sk sc,.bool z],rfl,hB,Cl.new [.slice sa sk sc,.bool z] 66 w,by omega,by unfold maxLen; omega,rfl,rfl⟩⟩,fun j hj=>?_⟩
 obtain rfl:j = 0:=by omega
 rw [hx]
 exact ⟨sa,sk,sc,rfl,by rw [← hz]; rfl,hn.below ((Below.refl _ _).alloc (Nat.le_refl _) _)⟩
theorem Cl.news2 {b:Nat} {l:List Value} {t:TypeId} {w:World} (h:Cl b l t w):∀ j u,l[j]? = some u→w.cell? ((⟨b,0,none⟩:Addr).add j) = some u:=by
 intro j u hu
 have hadd:(⟨b,0,none⟩:Addr).add j = ⟨b,j,none⟩:=by unfold Addr.add; split <;> simp_all
 rw [hadd,h.cell j]
 exact hu
theorem ch_bs {n k:Nat} (h:n≤220):BN.ch n k < Bs ^ 8:=Nat.lt_of_le_of_lt (BN.ch_le n k) (Nat.lt_of_le_of_lt (Nat.pow_le_pow_right (by decide) h) (by decide +kernel))
theorem ch_nat (n k:Nat):((BN.ch n k:Nat):Int).natAbs = BN.ch n k:=by omega
theorem ch_sgn (n k:Nat):decide (((BN.ch n k:Nat):Int) < 0) = false:=decide_eq_false (by omega)
set_option maxHeartbeats 4000000 in
theorem oneMore_any (v:Value) (n:Nat) (w:World) (h:VA w v (n + 1) (fun j=>((BN.ch n j:Nat):Int))) (hn:n≤210) :
  Calls Tryz.prog 73 #[v] w fun e w'=>∃ v',e = .returned v'∧SO w.heap.size w' v' (n + 2) (fun j=>((BN.ch (n + 1) j:Nat):Int))∧Below w.heap.size w w':=by
 obtain ⟨i0,hi,hz0,hz1,hz2⟩:=info_parts Tryz.infoSg
 have HI:Hid (Tryz.prog.info? 66 = some i0∧i0.zero = some (.agg #[.slice none 0 0,.bool false])∧i0.size = 2∧i0.bytes = 32):=⟨hi,hz0,hz1,hz2⟩
 clear hi hz0 hz1 hz2
 obtain ⟨a,g,o,c,rfl,h1,h2⟩:=h.open
 obtain ⟨rfl,hgl⟩:=h1 (by omega)
 have HSh:Hid (g < w.heap.size∧∀ W,Below w.heap.size w W→∀ j,j < n + 1→∃ sa sk sc,W.cell? ⟨g,o + j * 2,none⟩ = some (.slice sa sk sc)∧W.cell? ⟨g,o + j * 2 + 1,none⟩ = some (.bool false)∧LN W (.slice sa sk sc) (BN.ch n j)):=by
  refine ⟨hgl,fun W k j hj=>?_⟩
  obtain ⟨sa,sk,sc,c1,c2,c3⟩:=h2 j hj
  rw [ch_sgn] at c2
  rw [ch_nat] at c3
  exact ⟨sa,sk,sc,by rw [k.cell (p:=⟨g,o + j * 2,none⟩) hgl]; exact c1,by rw [k.cell (p:=⟨g,o + j * 2 + 1,none⟩) hgl]; exact c2,c3.below k⟩
 obtain ⟨N,hN⟩:∃ N,N = n + 1:=⟨_,rfl⟩
 have hN1:(N:Int) - 1 = (n:Int):=by omega
 have H1:Hid (∀ W,Calls Tryz.prog 86 #[.int .i64 1] W fun e w'=>∃ v,e = .returned (.agg #[v,.bool false])∧LN w' v 1∧Below W.heap.size W w'):=fun W=>SignedOf_any 1 W (by omega) (by omega)
 rw [← hN]
 have HN:Hid (N = n + 1):=hN
 have hN2:n < N:=by omega
 clear h h1 h2 hN hgl
 go_enter Tryz.func73,Tryz.ntmps73
 go_wp2_with fail
 refine (H1.out w).mono ?_
 rintro e w1 ⟨v1,rfl,l1,k1⟩
 obtain ⟨a1,m1,c1,rfl⟩:=l1.shape
 have HS0:Hid (SO w.heap.size (w1.alloc (.cells #[.slice a1 m1 c1,.bool false] 66)) (.slice (some ⟨w1.heap.size,0,none⟩) 1 1) 1 (fun j=>((BN.ch (n + 1) j:Nat):Int))∧Below w.heap.size w (w1.alloc (.cells #[.slice a1 m1 c1,.bool false] 66))) :=
  ⟨SO.lit (y:=1) k1.size l1 rfl _ (by rw [BN.ch_zero]; rfl),k1.alloc k1.size _⟩
 clear l1 k1
 go_wp2
 go_loopw [4,12] (fun lv iv wx=>∃ (i:Nat) (a':Option Addr) (c':Nat),i≤n∧lv = .slice a' (i + 1) c'∧iv = .int .i64 (i:Int)∧Hid (SO w.heap.size wx (.slice a' (i + 1) c') (i + 1) (fun j=>((BN.ch (n + 1) j:Nat):Int))∧Below w.heap.size w wx)) (fun _ iv _=>n - (intOf iv).toNat)
 case atStart=>exact ⟨0,_,_,Nat.zero_le _,rfl,rfl,HS0.out⟩
 case round =>
  clear HS0
  obtain ⟨i,a',c',hin,rfl,rfl,HR⟩:=hrel
  by_cases hlt:i < n
  ·obtain ⟨i1,hi1⟩:∃ i1,i1 = i + 1:=⟨_,rfl⟩
   have hi1i:(i:Int) + 1 = (i1:Int):=by omega
   have hwI:IntKind.i64.wrap (i1:Int) = (i1:Int):=by rw [IntKind.wrap_i64]; omega
   have hiN:i < N:=by omega
   have hi1N:i1 < N:=by omega
   obtain ⟨xa,xk,xc,q1,q2,lx⟩:=HSh.out.2 wr HR.out.2 i (by omega)
   obtain ⟨ya,yk,yc,q3,q4,ly⟩:=HSh.out.2 wr HR.out.2 i1 (by omega)
   have HXY:Hid (LN wr (.slice xa xk xc) (BN.ch n i)∧LN wr (.slice ya yk yc) (BN.ch n i1)):=⟨lx,ly⟩
   have HPl:Hid (∀ W,Below wr.heap.size wr W→Calls Tryz.prog 87 #[.agg #[.slice xa xk xc,.bool false],.agg #[.slice ya yk yc,.bool false]] W fun e w'=>∃ v,e = .returned (.agg #[v,.bool false])∧LN w' v (BN.ch (n + 1) i1)∧Below W.heap.size W w'):=fun W k=>by
    have:=SPlus_any (.slice xa xk xc) (.slice ya yk yc) ((BN.ch n i:Nat):Int) ((BN.ch n i1:Nat):Int) 8 W (by rw [ch_nat]; exact lx.below k) (by rw [ch_nat]; exact ly.below k) (by rw [ch_nat]; exact ch_bs (by omega)) (by rw [ch_nat]; exact ch_bs (by omega)) (by omega)
    rw [ch_sgn,ch_sgn,show ((BN.ch n i:Nat):Int) + ((BN.ch n i1:Nat):Int) = ((BN.ch (n + 1) i1:Nat):Int) by rw [hi1,BN.ch_succ]; omega,ch_sgn,ch_nat] at this
    exact this
   obtain ⟨us,hu,hx⟩:=HR.out.1
   have HU:Hid (wr.ownsRow w.heap.size 66 2 (.slice a' (i + 1) c') (i + 1) us∧SC wr us (i + 1) (fun j=>((BN.ch (n + 1) j:Nat):Int))):=⟨hu,hx⟩
   have HKr:Hid (Below w.heap.size w wr):=HR.out.2
   have HI1:Hid (i1 = i + 1):=hi1
   have HK:Hid (∀ W,Below wr.heap.size wr W→(W.cell? ⟨g,o + i * 2,none⟩ = some (.slice xa xk xc)∧W.cell? ⟨g,o + i * 2 + 1,none⟩ = some (.bool false))∧W.cell? ⟨g,o + i1 * 2,none⟩ = some (.slice ya yk yc)∧W.cell? ⟨g,o + i1 * 2 + 1,none⟩ = some (.bool false)):=fun W k=>by
    have hl:g < wr.heap.size:=Nat.lt_of_lt_of_le HSh.out.1 HKr.out.size
    exact ⟨⟨(k.cell (p:=⟨g,o + i * 2,none⟩) hl).trans q1,(k.cell (p:=⟨g,o + i * 2 + 1,none⟩) hl).trans q2⟩,(k.cell (p:=⟨g,o + i1 * 2,none⟩) hl).trans q3,(k.cell (p:=⟨g,o + i1 * 2 + 1,none⟩) hl).trans q4⟩
   clear hu hx lx ly q1 q2 q3 q4 hi1 HR
   go_wp2
   refine wp_region_G (fun W=>(W.cell? ⟨g,o + i * 2,none⟩ = some (.slice xa xk xc)∧W.cell? ⟨g,o + i * 2 + 1,none⟩ = some (.bool false))∧W.cell? ⟨g,o + i1 * 2,none⟩ = some (.slice ya yk yc)∧W.cell? ⟨g,o + i1 * 2 + 1,none⟩ = some (.bool false)) 13 (by kernel_rfl) (HK.out _ (Below.refl _ _).drew) (fun hHeld=>?_)
   refine wpAnyG_take (i:=0) (v:=?v0x1) rfl (by kernel_rfl) (fun _ _ _ h=>h) (Or.inl ⟨by rfl,?y0x1⟩) hHeld ?r0x1
   case y0x1=>(intro wS hSw; obtain ⟨⟨s1,s2⟩,s3,s4⟩:=hSw; go_simp; try with_reducible rfl)
   simp only [Act.put,List.getElem_toArray,List.getElem_cons_zero,List.getElem_cons_succ,List.setIfInBounds_toArray,List.set_cons_zero,List.set_cons_succ]
   refine wpAnyG_take (i:=1) (v:=?v1x2) rfl (by kernel_rfl) (fun _ _ _ h=>h) (Or.inl ⟨by rfl,?y1x2⟩) hHeld ?r1x2
   case y1x2=>(intro wS hSw; obtain ⟨⟨s1,s2⟩,s3,s4⟩:=hSw; go_simp; try with_reducible rfl)
   simp only [Act.put,List.getElem_toArray,List.getElem_cons_zero,List.getElem_cons_succ,List.setIfInBounds_toArray,List.set_cons_zero,List.set_cons_succ]
   refine wpAnyG_take (i:=2) (v:=?v2x3) rfl (by kernel_rfl) (fun _ _ _ h=>h) (Or.inl ⟨by rfl,?y2x3⟩) hHeld ?r2x3
   case y2x3=>(intro wS hSw; obtain ⟨⟨s1,s2⟩,s3,s4⟩:=hSw; go_simp; try with_reducible rfl)
   simp only [Act.put,List.getElem_toArray,List.getElem_cons_zero,List.getElem_cons_succ,List.setIfInBounds_toArray,List.set_cons_zero,List.set_cons_succ]
   refine wpAnyG_take (i:=3) (v:=?v3x4) rfl (by kernel_rfl) (fun _ _ _ h=>h) (Or.inl ⟨by rfl,?y3x4⟩) hHeld ?r3x4
   case y3x4=>(intro wS hSw; obtain ⟨⟨s1,s2⟩,s3,s4⟩:=hSw; go_simp; try with_reducible rfl)
   simp only [Act.put,List.getElem_toArray,List.getElem_cons_zero,List.getElem_cons_succ,List.setIfInBounds_toArray,List.set_cons_zero,List.set_cons_succ]
   refine wpAnyG_take (i:=4) (v:=?v4x5) rfl (by kernel_rfl) (fun _ _ _ h=>h) (Or.inl ⟨by rfl,?y4x5⟩) hHeld ?r4x5
   case y4x5=>(intro wS hSw; obtain ⟨⟨s1,s2⟩,s3,s4⟩:=hSw; go_simp; try with_reducible rfl)
   simp only [Act.put,List.getElem_toArray,List.getElem_cons_zero,List.getElem_cons_succ,List.setIfInBounds_toArray,List.set_cons_zero,List.set_cons_succ]
   refine wpAnyG_take (i:=5) (v:=?v5x6) rfl (by kernel_rfl) (fun _ _ _ h=>h) (Or.inl ⟨by rfl,?y5x6⟩) hHeld ?r5x6
   case y5x6=>(intro wS hSw; obtain ⟨⟨s1,s2⟩,s3,s4⟩:=hSw; go_simp; try with_reducible rfl)
   simp only [Act.put,List.getElem_toArray,List.getElem_cons_zero,List.getElem_cons_succ,List.setIfInBounds_toArray,List.set_cons_zero,List.set_cons_succ]
   refine wpAnyG_take (i:=6) (v:=?v6x7) rfl (by kernel_rfl) (fun _ _ _ h=>h) (Or.inl ⟨by rfl,?y6x7⟩) hHeld ?r6x7
   case y6x7=>(intro wS hSw; obtain ⟨⟨s1,s2⟩,s3,s4⟩:=hSw; go_simp; try with_reducible rfl)
   simp only [Act.put,List.getElem_toArray,List.getElem_cons_zero,List.getElem_cons_succ,List.setIfInBounds_toArray,List.set_cons_zero,List.set_cons_succ]
   refine wpAnyG_take (i:=7) (v:=?v7x8) rfl (by kernel_rfl) (fun _ _ _ h=>h) (Or.inl ⟨by rfl,?y7x8⟩) hHeld ?r7x8
   case y7x8=>(intro wS hSw; obtain ⟨⟨s1,s2⟩,s3,s4⟩:=hSw; go_simp; try with_reducible rfl)
   simp only [Act.put,List.getElem_toArray,List.getElem_cons_zero,List.getElem_cons_succ,List.setIfInBounds_toArray,List.set_cons_zero,List.set_cons_succ]
   refine wpAnyG_take (i:=8) (v:=?v8x9) rfl (by kernel_rfl) (fun _ _ _ h=>h) (Or.inl ⟨by rfl,?y8x9⟩) hHeld ?r8x9
   case y8x9=>(intro wS hSw; obtain ⟨⟨s1,s2⟩,s3,s4⟩:=hSw; go_simp; try with_reducible rfl)
   simp only [Act.put,List.getElem_toArray,List.getElem_cons_zero,List.getElem_cons_succ,List.setIfInBounds_toArray,List.set_cons_zero,List.set_cons_succ]
   refine wpAnyG_take (i:=9) (v:=?v9x10) rfl (by kernel_rfl) (fun _ _ _ h=>h) (Or.inl ⟨by rfl,?y9x10⟩) hHeld ?r9x10
   case y9x10=>(intro wS hSw; obtain ⟨⟨s1,s2⟩,s3,s4⟩:=hSw; go_simp; try with_reducible rfl)
   simp only [Act.put,List.getElem_toArray,List.getElem_cons_zero,List.getElem_cons_succ,List.setIfInBounds_toArray,List.set_cons_zero,List.set_cons_succ]
   refine wpAnyG_one (i:=10) rfl (by kernel_rfl) (fun K hK=>?_)
   go_simp
   refine (HPl.out _ (Below.refl _ _).drew).mono ?_
   rintro e w2 ⟨v2,rfl,l2,k2⟩
   obtain ⟨a2,m2,c2,rfl⟩:=l2.shape
   have HL2:Hid (LN w2 (.slice a2 m2 c2) (BN.ch (n + 1) i1)∧Below wr.heap.size wr w2):=⟨l2,(Below.refl _ _).drew.trans k2⟩
   clear l2 k2
   refine hK.out _ _ (HK.out _ HL2.out.2) ?_
   clear hK K hHeld
   have hHeld:=HK.out _ HL2.out.2
   refine wpAnyG_one (i:=11) rfl (by kernel_rfl) (fun K hK=>?_)
   go_simp
   clear hHeld
   obtain ⟨w4,hw4⟩:∃ w4,w2.alloc (.cells #[.slice a2 m2 c2,.bool false] 66) = w4:=⟨_,rfl⟩
   have HNew:Hid (∀ j u,[Value.slice a2 m2 c2,.bool false][j]? = some u→w4.cell? ((⟨w2.heap.size,0,none⟩:Addr).add j) = some u):=by
    show ∀ j u,_
    rw [← hw4]; exact (Cl.new [.slice a2 m2 c2,.bool false] 66 w2).news2
   have k24:Below w2.heap.size w2 w4:=by rw [← hw4]; exact (Below.refl _ _).alloc (Nat.le_refl _) _
   have HK4:Hid (Below wr.heap.size wr w4∧LN w4 (.slice a2 m2 c2) (BN.ch (n + 1) i1)):=⟨HL2.out.2.trans (k24.mono HL2.out.2.size),HL2.out.1.below k24⟩
   rw [hw4]
   refine hK.out _ _ (HK.out _ HK4.out.1) ?_
   clear hK K hw4 k24
   have hHeld:=HK.out _ HK4.out.1
   refine wpAnyG_one (i:=12) rfl (by kernel_rfl) (fun K hK=>?_)
   refine oper_append_ownP w4 _ _ 61 rfl w.heap.size 66 i0 (.agg #[.slice none 0 0,.bool false]) 2 32 Tryz.undS HI.out.1 HI.out.2.1 HI.out.2.2.1 HI.out.2.2.2 rfl (by decide) (.slice a' (i + 1) c') (i + 1) us rfl (row_bel2 HU.out.1 HK4.out.1) ⟨w2.heap.size,0,none⟩ 1 1 [.slice a2 m2 c2,.bool false] rfl rfl HNew.out (by simp [Value.oneCell']) (by simp only [maxLen]; omega) (by omega) (Nat.le_trans HKr.out.size HK4.out.1.size) ?_
   intro v' w5 hown hgrow
   obtain ⟨g',cap',rfl⟩:=ownsRow_succ hown
   have HN5:Hid (SO w.heap.size w5 (.slice (some ⟨g',0,none⟩) (i + 1 + 1) cap') (i + 1 + 1) (fun j=>((BN.ch (n + 1) j:Nat):Int))∧Below w.heap.size w w5):=by
    refine ⟨SO.push (y:=((BN.ch (n + 1) i1:Nat):Int)) (row_bel2 HU.out.1 HK4.out.1) (HU.out.2.below HK4.out.1) (by rw [ch_nat]; exact HK4.out.2) (ch_sgn _ _).symm hown hgrow (fun j _=>rfl) (by rw [HI1.out]),(HKr.out.trans (HK4.out.1.mono HKr.out.size)).grown hgrow (Nat.le_trans HKr.out.size HK4.out.1.size) (fun k e=>(HU.out.1.lt k e).1)⟩
   have hHeld5:(w5.cell? ⟨g,o + i * 2,none⟩ = some (.slice xa xk xc)∧w5.cell? ⟨g,o + i * 2 + 1,none⟩ = some (.bool false))∧w5.cell? ⟨g,o + i1 * 2,none⟩ = some (.slice ya yk yc)∧w5.cell? ⟨g,o + i1 * 2 + 1,none⟩ = some (.bool false):=by
    have hl:=HSh.out.1
    obtain ⟨⟨b1,b2⟩,b3,b4⟩:=HK.out wr (Below.refl _ _)
    have k5:=HN5.out.2
    have kr:=HKr.out
    exact ⟨⟨(k5.cell (p:=⟨g,o + i * 2,none⟩) hl).trans ((kr.cell (p:=⟨g,o + i * 2,none⟩) hl).symm.trans b1),(k5.cell (p:=⟨g,o + i * 2 + 1,none⟩) hl).trans ((kr.cell (p:=⟨g,o + i * 2 + 1,none⟩) hl).symm.trans b2)⟩,(k5.cell (p:=⟨g,o + i1 * 2,none⟩) hl).trans ((kr.cell (p:=⟨g,o + i1 * 2,none⟩) hl).symm.trans b3),(k5.cell (p:=⟨g,o + i1 * 2 + 1,none⟩) hl).trans ((kr.cell (p:=⟨g,o + i1 * 2 + 1,none⟩) hl).symm.trans b4)⟩
   clear hown hgrow hHeld
   have hHeld:=hHeld5
   refine hK.out _ _ hHeld ?_
   clear hK K
   refine wpAnyG_last (i:=13) rfl (by kernel_rfl) (by kernel_rfl) (fun K hK=>?_)
   go_simp
   refine hK.out _ _ ?_
   clear hK K
   refine wpAnyG_done (by kernel_rfl) ?_ _
   clear hHeld hHeld5
   go_wp2
   go_roundw
   case rel=>exact ⟨i + 1,_,_,by omega,rfl,by go_num,HN5.out⟩
   case measure=>simp [intOf]; omega
  ·obtain rfl:i = n:=by omega
   obtain ⟨us,hu,hx⟩:=HR.out.1
   have HU:Hid (wr.ownsRow w.heap.size 66 2 (.slice a' (i + 1) c') (i + 1) us∧SC wr us (i + 1) (fun j=>((BN.ch (i + 1) j:Nat):Int))):=⟨hu,hx⟩
   have HKr:Hid (Below w.heap.size w wr):=HR.out.2
   clear hu hx HR
   go_wp2_with fail
   refine (H1.out wr).mono ?_
   rintro e w2 ⟨v2,rfl,l2,k2⟩
   obtain ⟨a2,m2,c2,rfl⟩:=l2.shape
   have HL2:Hid (LN w2 (.slice a2 m2 c2) 1∧Below wr.heap.size wr w2):=⟨l2,k2⟩
   have k3:Below wr.heap.size wr (w2.alloc (.cells #[.slice a2 m2 c2,.bool false] 66)):=k2.alloc k2.size _
   have HR3:Hid ((w2.alloc (.cells #[.slice a2 m2 c2,.bool false] 66)).ownsRow w.heap.size 66 2 (.slice a' (i + 1) c') (i + 1) us∧SC (w2.alloc (.cells #[.slice a2 m2 c2,.bool false] 66)) us (i + 1) (fun j=>((BN.ch (i + 1) j:Nat):Int))∧Below w.heap.size w (w2.alloc (.cells #[.slice a2 m2 c2,.bool false] 66))∧LN (w2.alloc (.cells #[.slice a2 m2 c2,.bool false] 66)) (.slice a2 m2 c2) 1) :=
    ⟨row_bel2 HU.out.1 k3,HU.out.2.below k3,HKr.out.trans (k3.mono HKr.out.size),l2.below ((Below.refl _ _).alloc (Nat.le_refl _) _)⟩
   have hz2:w.heap.size≤w2.heap.size:=Nat.le_trans HKr.out.size k2.size
   have HZ2:Hid (w.heap.size≤w2.heap.size):=hz2
   clear l2 k2 k3 hz2
   go_wp2_with (at_builtin; refine wpList_append_own _ rfl _ _ 61 rfl w.heap.size 66 i0 (.agg #[.slice none 0 0,.bool false]) 2 32 Tryz.undS HI.out.1 HI.out.2.1 HI.out.2.2.1 HI.out.2.2.2 rfl (by decide) (.slice a' (i + 1) c') (i + 1) us rfl HR3.out.1 ⟨w2.heap.size,0,none⟩ 1 1 [.slice a2 m2 c2,.bool false] rfl rfl (Cl.new [.slice a2 m2 c2,.bool false] 66 w2).news2 (by simp [Value.oneCell']) (by simp only [maxLen]; omega) (by omega) (by have:=HZ2.out; simp; omega) ?_; intro v' w5 hown hgrow _; obtain ⟨g',cap',rfl⟩:=ownsRow_succ hown)
   have HE:Hid (SO w.heap.size w5 (.slice (some ⟨g',0,none⟩) (i + 1 + 1) cap') (i + 1 + 1) (fun j=>((BN.ch (i + 1) j:Nat):Int))∧Below w.heap.size w w5):=by
    refine ⟨SO.push (y:=1) HR3.out.1 HR3.out.2.1 HR3.out.2.2.2 rfl hown hgrow (fun j _=>rfl) (by rw [BN.ch_all]; rfl),HR3.out.2.2.1.grown hgrow HR3.out.2.2.1.size (fun k e=>(HR3.out.1.lt k e).1)⟩
   clear hown hgrow
   go_ret
   exact ⟨.slice (some ⟨g',0,none⟩) (i + 1 + 1) cap',rfl,by rw [HN.out]; exact HE.out.1,HE.out.2⟩
end Go.Proofs.YtnkjadpmigpneaaGreatDoor
