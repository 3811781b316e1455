import Derived.Test.YtnkjadpmigpneaaGreatDoorJsD
set_option linter.unusedSimpArgs false
set_option linter.unusedVariables false
namespace Go.Proofs.YtnkjadpmigpneaaGreatDoor
section
set_option maxRecDepth 100000
open Go.RowKit LgM
def Som (v:Value):Prop:=∃ a k c,v = .slice (some a) k c
def SomF (B:Nat) (v:Value):Prop:=∃ a k c,v = .slice (some a) k c∧B≤a.block
theorem SomF.mono {B B':Nat} {v:Value} (h:SomF B v) (hB:B'≤B):SomF B' v:=by obtain ⟨a,k,c,e,g⟩:=h; exact ⟨a,k,c,e,Nat.le_trans hB g⟩
set_option maxHeartbeats 1000000 in
theorem trimmed_some (k n g o c:Nat) (w:World) (hc:∀ i,i < k→w.cell? ⟨g,o + i,none⟩ = some (.int .i64 ((n / Bs ^ i % Bs:Nat):Int))) (hlt:TyB w g) (hn:n < Bs ^ k) (hk:k≤c) (hkm:k≤1000000000) :
  Calls Tryz.prog 107 #[.slice (some ⟨g,o,none⟩) k c] w fun e w'=>∃ v,e = .returned (.agg #[v])∧LN w' v n∧SomF g v∧Below w.heap.size w w':=by
 have HTy:Hid (TyB w g):=hlt
 have hlt:g < w.heap.size:=by obtain ⟨_,_,h⟩:=HTy.out; exact lt_of_some h
 have HC:Hid (∀ i,i < k→w.cell? ⟨g,o + i,none⟩ = some (.int .i64 ((n / Bs ^ i % Bs:Nat):Int))):=hc
 have HN:Hid (n < Bs ^ k):=hn
 clear hc hn
 have P0:=Cl.new [.slice none 0 0] 64 w
 obtain ⟨W0,hW0⟩:∃ W0,W0 = w.alloc (.cells #[.slice none 0 0] 64):=⟨_,rfl⟩
 have HP:Hid (Cl w.heap.size [.slice none 0 0] 64 W0):=by rw [hW0]; exact P0
 have KB:Hid (Below w.heap.size w W0):=by show Below _ _ _; rw [hW0]; exact (Below.refl _ _).alloc (Nat.le_refl _) _
 have HC0:Hid (∀ i,i < k→W0.cell? ⟨g,o + i,none⟩ = some (.int .i64 ((n / Bs ^ i % Bs:Nat):Int))):=by
  intro i hi
  rw [KB.out.cell (p:=⟨g,o + i,none⟩) hlt]; exact HC.out i hi
 have HLT:Hid (g < w.heap.size):=hlt
 clear P0 hlt
 go_enter Tryz.func107,Tryz.ntmps107
 go_wp2
 rw [← hW0]
 clear hW0
 go_loopw [3] (fun lv wx=>∃ L:Nat,L≤k∧lv = .int .i64 (L:Int)∧Hid (n < Bs ^ L)∧wx = W0) (fun lv _=>(intOf lv).toNat)
 case atStart=>exact ⟨k,Nat.le_refl _,rfl,HN.out,rfl⟩
 case round =>
  obtain ⟨L,hL,rfl,HL,hwr⟩:=hrel
  subst hwr
  have HEnd:Hid ((L = 0∨n / Bs ^ (L - 1) % Bs ≠ 0)→∀ W,W = wr.setCell ⟨w.heap.size,0,none⟩ (.slice (some ⟨g,o,none⟩) L c)→W.cell? ⟨w.heap.size,0,none⟩ = some (.slice (some ⟨g,o,none⟩) L c)∧LN W (.slice (some ⟨g,o,none⟩) L c) n∧Below w.heap.size w W):=by
   rintro h W rfl
   have C2:=HP.out.set 0 (.slice (some ⟨g,o,none⟩) L c)
   have q3:=C2.cell 0
   refine ⟨by simpa using q3,⟨L,⟨HL.out,?_⟩,⟨some ⟨g,o,none⟩,g,o,c,by rw [nz_len,dgl_len],fun _=>rfl,fun i hi=>?_,fun _=>?_⟩,?_⟩,KB.out.setCell (by simp) _⟩
   ·rcases h with h | h
    ·exact .inl h
    ·right
     rcases Nat.lt_or_ge n (Bs ^ (L - 1)) with h1 | h1
     ·rw [Nat.div_eq_of_lt h1] at h; exact absurd rfl h
     ·exact h1
   ·rw [nz_len,dgl_len] at hi
    have h1:(wr.setCell ⟨w.heap.size,0,none⟩ (.slice (some ⟨g,o,none⟩) L c)).cell? ⟨g,o + i,none⟩ = wr.cell? ⟨g,o + i,none⟩:=by
     have:=HLT.out
     rw [World.cell?,World.cell?,Below.heap_setCell _ _ _ g (by simp; omega)]
    rw [h1,HC0.out i (by omega)]
    simp [nz,List.getD_eq_getElem?_getD,dgl,hi]
   ·have:=HLT.out; have:=KB.out.size; simp; omega
   ·intro a l c' e hl
    simp only [Value.slice.injEq,Option.some.injEq] at e
    obtain ⟨rfl,_⟩:=e
    exact (HTy.out.below KB.out).set _ _
  have q1:=HP.out.cell 0
  have q2:=HP.out.frozen 0
  simp at q1
  rcases L with _ | L
  ·go_wp2
   have HE:=HEnd.out (.inl (by trivial)) _ rfl
   refine bodyPost_ret (v:=.agg #[.slice (some ⟨g,o,none⟩) 0 c]) (by simp [results,Tryz.results107,go_sem,HE.1]) rfl ⟨_,rfl,HE.2.1,⟨_,_,_,rfl,Nat.le_refl _⟩,HE.2.2⟩
  ·obtain ⟨d,hd⟩:∃ d,d = n / Bs ^ L % Bs:=⟨_,rfl⟩
   have hc1:wr.cell? ⟨g,o + L,none⟩ = some (.int .i64 (d:Int)):=by rw [hd]; exact HC0.out L (by omega)
   have HD:Hid (d = n / Bs ^ L % Bs):=hd
   clear hd
   have hLi:((L + 1:Nat):Int) - 1 = (L:Int):=by omega
   have hpos:decide ((0:Int) < ((L + 1:Nat):Int)) = true:=decide_eq_true (by omega)
   by_cases h0:d = 0
   ·subst h0
    go_wp2
    go_roundw
    case rel=>exact ⟨L,by omega,by first | rfl | trivial,by
     show n < Bs ^ L
     have h1:=HL.out
     have h2:=HD.out
     rcases Nat.lt_or_ge n (Bs ^ L) with h3 | h3
     ·exact h3
     ·have h4:n / Bs ^ L < Bs:=by
       rw [Nat.div_lt_iff_lt_mul (bs_pos _),Nat.mul_comm,← pow_s]; exact h1
      rw [Nat.mod_eq_of_lt h4] at h2
      have:=Nat.div_pos h3 (bs_pos L)
      omega,by trivial⟩
    case measure=>simp [intOf]
   ·have hdb:((d:Int) == 0) = false:=beq_eq_false_iff_ne.2 (by omega)
    go_wp2
    have HE:=HEnd.out (.inr (by rw [show L + 1 - 1 = L from rfl,← HD.out]; exact h0)) _ rfl
    refine bodyPost_ret (v:=.agg #[.slice (some ⟨g,o,none⟩) (L + 1) c]) (by simp [results,Tryz.results107,go_sem,HE.1]) rfl ⟨_,rfl,HE.2.1,⟨_,_,_,rfl,Nat.le_refl _⟩,HE.2.2⟩
theorem trimmed_any (k n g o c:Nat) (w:World) (hc:∀ i,i < k→w.cell? ⟨g,o + i,none⟩ = some (.int .i64 ((n / Bs ^ i % Bs:Nat):Int))) (hlt:TyB w g) (hn:n < Bs ^ k) (hk:k≤c) (hkm:k≤1000000000) :
  Calls Tryz.prog 107 #[.slice (some ⟨g,o,none⟩) k c] w fun e w'=>∃ v,e = .returned (.agg #[v])∧LN w' v n∧Below w.heap.size w w' :=
 (trimmed_some k n g o c w hc hlt hn hk hkm).mono fun e w' ⟨v,h1,h2,_,h3⟩=>⟨v,h1,h2,h3⟩
theorem LN.zero_iff {w:World} {aa:Option Addr} {k c n:Nat} (h:LN w (.slice aa k c) n):k = 0 ↔ n = 0:=by
 obtain ⟨j,hj,h2,_⟩:=h
 obtain ⟨a,g,o,c',e,_⟩:=h2.shape
 rw [nz_len,dgl_len] at e
 simp at e
 have:=hj.pos
 omega
set_option maxHeartbeats 400000 in
theorem IsZero_any (v:Value) (n:Nat) (w:World) (h:LN w v n) :
  Calls Tryz.prog 104 #[.agg #[v]] w fun e w'=>e = .returned (.bool (decide (n = 0)))∧Below w.heap.size w w':=by
 obtain ⟨k,aa,g,o,c,rfl,_⟩:=h.open
 have hz:=h.zero_iff
 clear h
 by_cases hk:k = 0
 ·rw [decide_eq_true (hz.1 hk)]
  have hb:((k:Int) == 0) = true:=beq_iff_eq.2 (by omega)
  clear hz
  go_enter Tryz.func104,Tryz.ntmps104
  go_wp2
  go_ret
  exact ⟨rfl,(Below.refl _ _).alloc (Nat.le_refl _) _⟩
 ·rw [decide_eq_false (fun e=>hk (hz.2 e))]
  have hb:((k:Int) == 0) = false:=beq_eq_false_iff_ne.2 (by omega)
  clear hz
  go_enter Tryz.func104,Tryz.ntmps104
  go_wp2
  go_ret
  exact ⟨rfl,(Below.refl _ _).alloc (Nat.le_refl _) _⟩
def cmI (x y:Int):Int:=if x < y then -1 else if y < x then 1 else 0
set_option maxHeartbeats 2000000 in
theorem CompareI (x y:Int) (w:World):Calls Tryz.prog 110 #[.int .i64 x,.int .i64 y] w fun e w'=>e = .returned (.int .i64 (cmI x y))∧w' = w:=by
 by_cases h1:x < y
 ·have e:cmI x y = -1:=if_pos h1
  rw [e]
  have t1:decide (x < y) = true:=decide_eq_true h1
  clear h1 e
  go_enter Tryz.func110,Tryz.ntmps110
  go_wp2
  go_ret
  exact ⟨rfl,rfl⟩
 ·have t1:decide (x < y) = false:=decide_eq_false h1
  by_cases h2:y < x
  ·have e:cmI x y = 1:=by rw [cmI,if_neg h1,if_pos h2]
   rw [e]
   have t2:decide (y < x) = true:=decide_eq_true h2
   clear h1 h2 e
   go_enter Tryz.func110,Tryz.ntmps110
   go_wp2
   go_ret
   exact ⟨rfl,rfl⟩
  ·have e:cmI x y = 0:=by rw [cmI,if_neg h1,if_neg h2]
   rw [e]
   have t2:decide (y < x) = false:=decide_eq_false h2
   clear h1 h2 e
   go_enter Tryz.func110,Tryz.ntmps110
   go_wp2
   go_ret
   exact ⟨rfl,rfl⟩
theorem cmI_zero {x y:Int}:cmI x y = 0 ↔ x = y:=by unfold cmI; split <;> (try split) <;> omega
end
section
set_option maxRecDepth 100000
open Go.RowKit LgM
structure Cbx (b:Nat) (vx vy:Value) (w:World):Prop where
 x:Cl b [vx] 64 w
 y:Cl (b + 1) [vy] 64 w
theorem Cbx.start (vx vy:Value) (w:World):Cbx w.heap.size vx vy ((w.alloc (.cells #[vx] 64)).alloc (.cells #[vy] 64)):=by
 refine ⟨(Cl.new [vx] _ w).alloc _,?_⟩
 have:=(Cl.new [vy] 64 (w.alloc (.cells #[vx] 64)))
 simpa using this
set_option maxHeartbeats 1000000 in
theorem NCompare_any (vx vy:Value) (x y:Nat) (w:World) (hx:LN w vx x) (hy:LN w vy y) (m:Nat) (hxm:x < Bs ^ m) (hm:m≤1000000000) :
  Calls Tryz.prog 79 #[.agg #[vx],.agg #[vy]] w fun e w'=>e = .returned (.int .i64 (cmI x y))∧Below w.heap.size w w':=by
 obtain ⟨kx,ax,gx,ox,cx,rfl,nx,hpx,hcx,hlx⟩:=hx.open
 obtain ⟨ky,ay,gy,oy,cy,rfl,ny,hpy,hcy,hly⟩:=hy.open
 have hkx:=nx.le hxm
 clear hx hy hxm
 have P0:=Cbx.start (.slice ax kx cx) (.slice ay ky cy) w
 obtain ⟨W0,hW0⟩:∃ W0,W0 = ((w.alloc (.cells #[.slice ax kx cx] 64)).alloc (.cells #[.slice ay ky cy] 64)):=⟨_,rfl⟩
 rw [← hW0] at P0
 have KB0:Hid (Below w.heap.size w W0):=by
  show Below _ _ _
  rw [hW0]; exact ((Below.refl _ _).alloc (Nat.le_refl _) _).alloc (by simp) _
 have HP0:Hid (Cbx w.heap.size (.slice ax kx cx) (.slice ay ky cy) W0):=P0
 have q1:=P0.x.cell 0
 have q2:=P0.y.cell 0
 simp at q1 q2
 have HX:Hid (Nd kx x∧(0 < kx→ax = some ⟨gx,ox,none⟩)∧(∀ i,i < kx→W0.cell? ⟨gx,ox + i,none⟩ = some (.int .i64 ((x / Bs ^ i % Bs:Nat):Int)))):=by
  refine ⟨nx,hpx,fun i hi=>?_⟩
  rw [KB0.out.cell (p:=⟨gx,ox + i,none⟩) (hlx (by omega))]; exact hcx i hi
 have HY:Hid (Nd ky y∧(0 < ky→ay = some ⟨gy,oy,none⟩)∧(∀ i,i < ky→W0.cell? ⟨gy,oy + i,none⟩ = some (.int .i64 ((y / Bs ^ i % Bs:Nat):Int)))):=by
  refine ⟨ny,hpy,fun i hi=>?_⟩
  rw [KB0.out.cell (p:=⟨gy,oy + i,none⟩) (hly (by omega))]; exact hcy i hi
 clear P0 nx ny hpx hpy hcx hcy hlx hly
 by_cases hk:kx = ky
 ·subst hk
  have hcm:cmI (kx:Int) (kx:Int) = 0:=cmI_zero.2 rfl
  go_enter Tryz.func79,Tryz.ntmps79
  go_wp2_with (go_at_call 110; refine (CompareI _ _ _).mono ?_; rw [hcm]; rintro e w' ⟨rfl,hw'⟩; rw [hw']; clear hw' w')
  rw [← hW0]
  clear hW0 hcm
  go_loopw [6] (fun iv wx=>∃ i:Nat,i≤kx∧iv = .int .i64 ((i:Int) - 1)∧Hid (x / Bs ^ i = y / Bs ^ i∧(∃ n,wx = W0.drewN n))) (fun iv _=>(intOf iv + 1).toNat)
  case atStart =>
   refine ⟨kx,Nat.le_refl _,rfl,?_,⟨0,rfl⟩⟩
   rw [Nat.div_eq_of_lt HX.out.1.lt,Nat.div_eq_of_lt HY.out.1.lt]
  case round =>
   obtain ⟨i,hi,rfl,HR⟩:=hrel
   have HCe:Hid (∀ p,wr.cell? p = W0.cell? p):=by
    obtain ⟨n,hn⟩:=HR.out.2
    intro p; rw [hn]; rfl
   rw [← HCe.out] at q1 q2
   have HKB:Hid (∀ n,Below w.heap.size w (wr.drewN n)):=by
    intro n
    obtain ⟨m,hm⟩:=HR.out.2
    rw [hm]
    exact below_drewN' (below_drewN' KB0.out)
   rcases i with _ | i
   ·have e0:x = y:=by have:=HR.out.1; simpa using this
    obtain ⟨I,hI⟩:∃ I:Int,I = ((0:Nat):Int) - 1:=⟨_,rfl⟩
    rw [← hI]
    have hI2:I < 0:=by omega
    clear hI
    go_wp2
    go_ret
    refine ⟨?_,HKB.out 0⟩
    rw [cmI_zero.2 (by omega)]; rfl
   ·have hji:((i + 1:Nat):Int) - 1 = (i:Int):=by omega
    rw [hji]
    clear hji
    obtain rfl:=HX.out.2.1 (by omega)
    obtain rfl:=HY.out.2.1 (by omega)
    obtain ⟨dx,hdx⟩:∃ dx,dx = x / Bs ^ i % Bs:=⟨_,rfl⟩
    obtain ⟨dy,hdy⟩:∃ dy,dy = y / Bs ^ i % Bs:=⟨_,rfl⟩
    have c1:wr.cell? ⟨gx,ox + i,none⟩ = some (.int .i64 (dx:Int)):=by rw [HCe.out,hdx]; exact HX.out.2.2 i (by omega)
    have c2:wr.cell? ⟨gy,oy + i,none⟩ = some (.int .i64 (dy:Int)):=by rw [HCe.out,hdy]; exact HY.out.2.2 i (by omega)
    have HDX:Hid (dx = x / Bs ^ i % Bs):=hdx
    have HDY:Hid (dy = y / Bs ^ i % Bs):=hdy
    clear hdx hdy
    obtain ⟨C,hC⟩:∃ C,cmI (dx:Int) (dy:Int) = C:=⟨_,rfl⟩
    have HC:Hid (cmI (dx:Int) (dy:Int) = C):=hC
    have HCm:Hid (∀ W:World,Calls Tryz.prog 110 #[.int .i64 (dx:Int),.int .i64 (dy:Int)] W fun e w'=>e = .returned (.int .i64 C)∧w' = W):=fun W=>by rw [← hC]; exact CompareI _ _ _
    clear hC
    by_cases h0:C = 0
    ·have hb:(C != 0) = false:=by simp [h0]
     clear h0
     go_wp2
     go_quiet ((go_at_call 110; exact Calls.quiet_of_same (HCm.out _)))
     go_wp2
     go_roundw
     case rel =>
      refine ⟨i,by omega,by go_num,?_,?_⟩
      ·have e:C = 0:=by simpa using hb
       have:=cmI_zero.1 (HC.out.trans e)
       exact cmp_same x y i HR.out.1 (by have:=HDX.out; have:=HDY.out; omega)
      ·obtain ⟨m,hm⟩:=HR.out.2
       exact ⟨_,by rw [hm,World.drewN_drewN]⟩
     case measure=>simp [intOf] <;> omega
    ·have hb:(C != 0) = true:=by simp [h0]
     have HE:Hid (cmI (x:Int) (y:Int) = C):=by
      show _ = _
      rw [← HC.out]
      have hdx:=HDX.out
      have hdy:=HDY.out
      rcases Nat.lt_trichotomy dx dy with h | h | h
      ·have:=cmp_from x y i HR.out.1 (by omega)
       rw [cmI,if_pos (by omega),cmI,if_pos (by omega)]
      ·exact absurd (by rw [← HC.out]; exact cmI_zero.2 (by omega)) h0
      ·have:=cmp_from y x i HR.out.1.symm (by omega)
       rw [cmI,if_neg (by omega),if_pos (by omega),cmI,if_neg (by omega),if_pos (by omega)]
     clear h0
     go_wp2
     go_quiet ((go_at_call 110; exact Calls.quiet_of_same (HCm.out _)))
     go_wp2
     go_ret
     exact ⟨by rw [HE.out]; rfl,HKB.out _⟩
 ·obtain ⟨C,hC⟩:∃ C,cmI (kx:Int) (ky:Int) = C:=⟨_,rfl⟩
  have hb:(C != 0) = true:=by
   rw [bne_iff_ne,← hC]
   intro e
   have:=cmI_zero.1 e
   omega
  have HE:Hid (cmI (x:Int) (y:Int) = C):=by
   show _ = _
   rw [← hC]
   rcases Nat.lt_trichotomy kx ky with h | h | h
   ·have:=HX.out.1.lt_of_len HY.out.1 h
    rw [cmI,if_pos (by omega),cmI,if_pos (by omega)]
   ·exact absurd h hk
   ·have:=HY.out.1.lt_of_len HX.out.1 h
    rw [cmI,if_neg (by omega),if_pos (by omega),cmI,if_neg (by omega),if_pos (by omega)]
  have HCm:Hid (∀ W:World,Calls Tryz.prog 110 #[.int .i64 (kx:Int),.int .i64 (ky:Int)] W fun e w'=>e = .returned (.int .i64 C)∧w' = W):=fun W=>by rw [← hC]; exact CompareI _ _ _
  clear hC hk
  go_enter Tryz.func79,Tryz.ntmps79
  go_wp2_with (go_at_call 110; refine (HCm.out _).mono ?_; rintro e w' ⟨rfl,hw'⟩; rw [hw']; clear hw' w')
  go_ret
  exact ⟨by rw [HE.out]; rfl,by rw [← hW0]; exact KB0.out⟩
end
section
set_option maxRecDepth 100000
open Go.RowKit LgM
theorem cl_of_mk {w':World} {b n:Nat} (h:w'.ownsRow b 3 1 (.slice (some ⟨b,0,none⟩) n n) n (madeCells #[Value.int .i64 0] n).toList):Cl b (List.replicate n (.int .i64 0)) 3 w':=by
 obtain ⟨h1,h2 | ⟨g,cap,cur,e1,e2,e3,e4,e5,e6,e7⟩⟩:=h
 ·obtain ⟨h2,rfl⟩:=h2
  simp at h2
 ·simp at e1
  obtain ⟨rfl,rfl⟩:=e1
  unfold Cl
  rw [e3]
  have:cur.toList = (madeCells #[Value.int .i64 0] n).toList:=by
   rw [← e7,List.take_of_length_le (by simp; omega)]
  have e8:cur = madeCells #[Value.int .i64 0] n:=Array.toList_inj.1 this
  rw [e8]
  congr 2
  apply Array.ext
  ·simp [madeCells]
  ·intro i h1 h2
   simp [madeCells,Nat.mod_one]
def icn (k:Nat) (B:Nat→Int):List Value:=(List.range k).map fun j=>.int .i64 (B j)
theorem icn_zero (k:Nat):icn k (fun _=>0) = List.replicate k (.int .i64 0):=by
 apply List.ext_getElem?
 intro i
 by_cases hi:i < k
 ·simp [icn,hi]
 ·simp [icn,hi]
theorem icn_set {k i:Nat} (B:Nat→Int) (v:Int):(icn k B).set i (.int .i64 v) = icn k (fun j=>if j = i then v else B j):=by
 apply List.ext_getElem?
 intro j
 rw [List.getElem?_set]
 by_cases hj:i = j
 ·subst hj
  by_cases hk:i < k
  ·simp [icn,hk]
  ·simp [icn,hk]
 ·rw [if_neg hj]
  by_cases hk:j < k
  ·simp [icn,hk,show j ≠ i from fun e=>hj e.symm]
  ·simp [icn,hk]
theorem icn_get {k:Nat} (B:Nat→Int) {i:Nat} (h:i < k):(icn k B)[i]? = some (.int .i64 (B i)):=by simp [icn,h]
theorem LN.set {w:World} {v:Value} {n b:Nat} {a:Option Addr} {k c:Nat} {t:TypeId} (h:LN w v n) (hc:Cl b [.slice a k c] t w) (u:Value):LN (w.setCell ⟨b,0,none⟩ u) v n:=by
 obtain ⟨j,hj,⟨aa,g,o,c',e,p,cell,lt⟩,hty⟩:=h
 refine ⟨j,hj,⟨aa,g,o,c',e,p,fun i hi=>?_,fun hp=>by have:=lt hp; simp; omega⟩,hty.set _ _⟩
 have hne:g ≠ b:=by
  intro e2
  subst e2
  have h1:=cell i hi
  rw [hc.cell] at h1
  rcases ho:o + i with _ | s
  ·rw [ho] at h1; simp at h1
  ·rw [ho] at h1; simp at h1
 rw [World.cell?,Below.heap_setCell _ _ _ g (by simpa using hne)]
 exact cell i hi
set_option maxHeartbeats 4000000 in
theorem NMinus_some (vx vy:Value) (x y m:Nat) (w:World) (hx:LN w vx x) (hy:LN w vy y) (hxm:x < Bs ^ m) (hm:m≤100000000) (hyx:y≤x) :
  Calls Tryz.prog 108 #[.agg #[vx],.agg #[vy]] w fun e w'=>∃ v,e = .returned (.agg #[v])∧LN w' v (x - y)∧SomF w.heap.size v∧Below w.heap.size w w':=by
 obtain ⟨i0,hi,hz0,hz1,hz2⟩:=info_parts Tryz.infoInt
 have HY:Hid (LN w vy y):=hy
 obtain ⟨kx,ax,gx,ox,cx,rfl,nx,hpx,hcx,hlx⟩:=hx.open
 have hkx:=nx.le hxm
 have HXm:Hid (x < Bs ^ kx):=nx.lt
 have HPX:Hid (0 < kx→ax = some ⟨gx,ox,none⟩):=hpx
 have HCX:Hid (∀ i,i < kx→w.cell? ⟨gx,ox + i,none⟩ = some (.int .i64 ((x / Bs ^ i % Bs:Nat):Int))):=hcx
 have HLX:Hid (0 < kx→gx < w.heap.size):=hlx
 have HYX:Hid (y≤x):=hyx
 clear hx hy nx hpx hcx hlx hxm hyx
 have P0:=Pb.start (.slice ax kx cx) vy w
 obtain ⟨W0,hW0⟩:∃ W0,W0 = (((w.alloc (.cells #[.slice ax kx cx] 64)).alloc (.cells #[vy] 64)).alloc (.cells #[.slice none 0 0] 64)):=⟨_,rfl⟩
 rw [← hW0] at P0
 have z0:W0.heap.size = w.heap.size + 3:=by rw [hW0]; simp
 have KB0:Hid (Below w.heap.size w W0):=by
  show Below _ _ _
  rw [hW0]; exact (((Below.refl _ _).alloc (Nat.le_refl _) _).alloc (by simp) _).alloc (by simp; omega) _
 have HP0:Hid (Pb w.heap.size (.slice ax kx cx) vy W0):=P0
 clear P0
 go_enter Tryz.func108,Tryz.ntmps108
 go_wp2_with (at_make; rw [← hW0]; refine wpList_make_full _ rfl _ _ 62 rfl W0.heap.size 3 i0 (.int .i64 0) 1 Tryz.underlying62 hi hz0 hz1 .i64 .i64 _ _ kx rfl rfl (by omega) (by omega) (by rw [hz2]; omega) (by unfold maxLen; omega) (Nat.le_refl _) ?_)
 intro w1 hown hgrow
 have hcl:=cl_of_mk hown
 rw [← icn_zero] at hcl
 have HCl:Hid (Cl (w.heap.size + 1 + 1 + 1) (icn kx (fun _=>0)) 3 w1):=hcl
 have HB:Hid (Below (w.heap.size + 3) W0 w1):=by
  have:=(Below.refl W0.heap.size W0).grown (hW0 ▸ hgrow) (Nat.le_refl _) (by simp)
  rw [z0] at this; exact this
 have z1:w.heap.size + 3≤w1.heap.size:=by have:=HB.out.size; omega
 have q1:=(HP0.out.below HB.out (by omega)).x.cell 0
 simp at q1
 clear hown hgrow hcl hi hz0 hz1 hz2 hW0
 go_wp2
 clear q1
 go_loopw [6,16] (fun bv iv wx=>∃ (i b:Nat) (B:Nat→Int),i≤kx∧b≤1∧bv = .int .i64 (b:Int)∧iv = .int .i64 (i:Int)∧Hid (b = bw x y i∧(∀ j,j < i→B j = (((x - y) / Bs ^ j % Bs:Nat):Int))∧Cl (w.heap.size + 1 + 1 + 1) (icn kx B) 3 wx∧Below (w.heap.size + 3) W0 wx)) (fun _ iv _=>kx - (intOf iv).toNat)
 case atStart=>exact ⟨0,0,fun _=>0,Nat.zero_le _,by omega,rfl,rfl,by rw [bw_zero],fun j hj=>absurd hj (Nat.not_lt_zero _),HCl.out,HB.out⟩
 case round =>
  clear z1 HB HCl
  obtain ⟨i,b,B,hi,hb,rfl,rfl,HR⟩:=hrel
  by_cases hlt:i < kx
  ·obtain rfl:=HPX.out (by omega)
   obtain ⟨dx,hdx⟩:∃ dx,dx = x / Bs ^ i % Bs:=⟨_,rfl⟩
   obtain ⟨dy,hdy⟩:∃ dy,dy = y / Bs ^ i % Bs:=⟨_,rfl⟩
   have hdx1:dx≤999999999:=by rw [hdx]; exact limb_lt x i
   have hdy1:dy≤999999999:=by rw [hdy]; exact limb_lt y i
   have HPw:Hid (Pb w.heap.size (.slice (some ⟨gx,ox,none⟩) kx cx) vy wr):=HP0.out.below HR.out.2.2.2 (Nat.le_refl _)
   have q1:wr.cell? ⟨gx,ox + i,none⟩ = some (.int .i64 (dx:Int)):=by
    have hl:=HLX.out (by omega)
    rw [hdx,(KB0.out.trans (HR.out.2.2.2.mono (by omega))).cell (p:=⟨gx,ox + i,none⟩) hl]; exact HCX.out i hlt
   have q2:=HPw.out.y.cell 0
   simp at q2
   have HLy:Hid (LN wr vy y):=(HY.out.below KB0.out).below (HR.out.2.2.2.mono (by omega))
   have HD:Hid (dx = x / Bs ^ i % Bs∧dy = y / Bs ^ i % Bs):=⟨hdx,hdy⟩
   have HLm:Hid (Calls Tryz.prog 116 #[.agg #[vy],.int .i64 (i:Int)] wr fun e w'=>e = .returned (.int .i64 (dy:Int))∧Below wr.heap.size wr w'):=by
    have:=limb_any vy y i wr HLy.out (by omega)
    rw [← hdy] at this
    exact this
   clear hdx hdy
   have zr:w.heap.size + 3≤wr.heap.size:=by have:=HR.out.2.2.2.size; omega
   have HZr:Hid (w.heap.size + 3≤wr.heap.size):=zr
   clear zr
   go_wp2_with fail
   refine HLm.out.mono ?_
   rintro e w2 ⟨rfl,k2⟩
   have HK2:Hid (Below (w.heap.size + 3) W0 w2):=HR.out.2.2.2.trans (k2.mono HZr.out)
   have HC2:Hid (Cl (w.heap.size + 1 + 1 + 1) (icn kx B) 3 w2):=HR.out.2.2.1.below k2
   have hc:w2.cell? ⟨w.heap.size + 1 + 1 + 1,i,none⟩ = some (.int .i64 (B i)):=by rw [HC2.out.cell i]; exact icn_get B hlt
   have hf:w2.frozen? ⟨w.heap.size + 1 + 1 + 1,i,none⟩ = false:=HC2.out.frozen i
   clear k2 q1 q2
   have hmd:=minus_dgt x y i HYX.out
   have hmb:=minus_bw x y i HYX.out
   rw [← HD.out.1,← HD.out.2,← HR.out.1] at hmd hmb
   have HNew:Hid (∀ d:Nat,d = (x - y) / Bs ^ i % Bs→Cl (w.heap.size + 1 + 1 + 1) (icn kx (fun j=>if j = i then (d:Int) else B j)) 3 (w2.setCell ⟨w.heap.size + 1 + 1 + 1,i,none⟩ (.int .i64 (d:Int)))∧Below (w.heap.size + 3) W0 (w2.setCell ⟨w.heap.size + 1 + 1 + 1,i,none⟩ (.int .i64 (d:Int)))∧∀ j,j < i + 1→(if j = i then (d:Int) else B j) = (((x - y) / Bs ^ j % Bs:Nat):Int)):=by
    intro d hd
    refine ⟨by rw [← icn_set]; exact HC2.out.set i _,HK2.out.setCell (by simp) _,fun j hj=>?_⟩
    by_cases hji:j = i
    ·rw [if_pos hji,hd,hji]
    ·rw [if_neg hji]; exact HR.out.2.1 j (by omega)
   obtain ⟨d,hd⟩:∃ d,d = (x - y) / Bs ^ i % Bs:=⟨_,rfl⟩
   obtain ⟨b',hb'⟩:∃ b',b' = bw x y (i + 1):=⟨_,rfl⟩
   rw [← hd] at hmd
   rw [← hb'] at hmb
   have HNd:=HNew.out d hd
   have HN2:Hid (Cl (w.heap.size + 1 + 1 + 1) (icn kx (fun j=>if j = i then (d:Int) else B j)) 3 (w2.setCell ⟨w.heap.size + 1 + 1 + 1,i,none⟩ (.int .i64 (d:Int)))∧Below (w.heap.size + 3) W0 (w2.setCell ⟨w.heap.size + 1 + 1 + 1,i,none⟩ (.int .i64 (d:Int)))∧∀ j,j < i + 1→(if j = i then (d:Int) else B j) = (((x - y) / Bs ^ j % Bs:Nat):Int)):=HNd
   have HB':Hid (b' = bw x y (i + 1)):=hb'
   clear HNd HNew hd hb' HLm HLy HPw
   by_cases hneg:dx < dy + b
   ·rw [if_pos hneg] at hmd hmb
    have ht:decide ((dx:Int) - ((dy:Int) + (b:Int)) < 0) = true:=decide_eq_true (by omega)
    have hs:(dx:Int) - ((dy:Int) + (b:Int)) + 1000000000 = (d:Int):=by rw [hmd]; unfold Bs; omega
    have HBb:Hid (b' = 1):=hmb
    have hdl:d≤1000000000:=by rw [hmd]; unfold Bs; omega
    clear hmd hmb
    go_wp2
    go_roundw
    case rel=>exact ⟨i + 1,1,_,by omega,by omega,by first | rfl | go_num,by go_num,HBb.out.symm.trans HB'.out,HN2.out.2.2,HN2.out.1,HN2.out.2.1⟩
    case measure=>simp [intOf]; omega
   ·rw [if_neg hneg] at hmd hmb
    have ht:decide ((dx:Int) - ((dy:Int) + (b:Int)) < 0) = false:=decide_eq_false (by omega)
    have hs:(dx:Int) - ((dy:Int) + (b:Int)) = (d:Int):=by rw [hmd]; omega
    have HBb:Hid (b' = 0):=hmb
    have hdl:d≤1000000000:=by rw [hmd]; omega
    clear hmd hmb
    go_wp2
    go_roundw
    case rel=>exact ⟨i + 1,0,_,by omega,by omega,by first | rfl | go_num,by go_num,HBb.out.symm.trans HB'.out,HN2.out.2.2,HN2.out.1,HN2.out.2.1⟩
    case measure=>simp [intOf]; omega
  ·obtain rfl:i = kx:=by omega
   have HT:Hid (Calls Tryz.prog 107 #[.slice (some ⟨w.heap.size + 1 + 1 + 1,0,none⟩) i i] wr fun e w'=>∃ v,e = .returned (.agg #[v])∧LN w' v (x - y)∧SomF (w.heap.size + 1 + 1 + 1) v∧Below wr.heap.size wr w'):=by
    refine trimmed_some i (x - y) (w.heap.size + 1 + 1 + 1) 0 i wr (fun j hj=>?_) ⟨_,_,HR.out.2.2.1⟩ (by have:=HXm.out; omega) (Nat.le_refl _) (by omega)
    rw [Nat.zero_add,HR.out.2.2.1.cell j,icn_get B hj,HR.out.2.1 j hj]
   have HZr:Hid (w.heap.size + 3≤wr.heap.size):=by have:=HR.out.2.2.2.size; show _≤_; omega
   go_wp2_with fail
   refine HT.out.mono ?_
   rintro e w2 ⟨v,rfl,hv,hsv,k2⟩
   have HSv:Hid (SomF w.heap.size v):=hsv.mono (by omega)
   clear hsv
   have HK2:Hid (Below (w.heap.size + 3) W0 w2):=HR.out.2.2.2.trans (k2.mono HZr.out)
   have hP2:=HP0.out.below HK2.out (Nat.le_refl _)
   have q1:=hP2.z.cell 0
   have q2:=hP2.z.frozen 0
   simp at q1
   have HV:Hid (LN w2 v (x - y)):=hv
   have HP2:Hid (Pb w.heap.size (.slice ax i cx) vy w2):=hP2
   obtain ⟨kv,av,gv,ov,cv,rfl,_⟩:=hv.open
   clear k2 hv HT hP2
   go_wp2
   have C2:=HP2.out.z.set 0 (.slice av kv cv)
   have q3:=C2.cell 0
   simp at q3
   refine bodyPost_ret (v:=.agg #[.slice av kv cv]) (by simp [results,Tryz.results108,go_sem,q3]) rfl ⟨_,rfl,?_,HSv.out,?_⟩
   ·exact HV.out.set HP2.out.z _
   ·exact (KB0.out.trans (HK2.out.mono (by omega))).setCell (by simp; omega) _
theorem NMinus_any (vx vy:Value) (x y m:Nat) (w:World) (hx:LN w vx x) (hy:LN w vy y) (hxm:x < Bs ^ m) (hm:m≤100000000) (hyx:y≤x) :
  Calls Tryz.prog 108 #[.agg #[vx],.agg #[vy]] w fun e w'=>∃ v,e = .returned (.agg #[v])∧LN w' v (x - y)∧Below w.heap.size w w' :=
 (NMinus_some vx vy x y m w hx hy hxm hm hyx).mono fun e w' ⟨v,h1,h2,_,h3⟩=>⟨v,h1,h2,h3⟩
end
end Go.Proofs.YtnkjadpmigpneaaGreatDoor
