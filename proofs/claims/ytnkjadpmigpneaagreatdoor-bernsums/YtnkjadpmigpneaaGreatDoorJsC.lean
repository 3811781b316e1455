import Derived.Test.YtnkjadpmigpneaaGreatDoorJsB
import Derived.Test.YtnkjadpmigpneaaGreatDoorBitsB
import Derived.Test.YtnkjadpmigpneaaGreatDoorJsA
import Derived.Maps.AppendAt
import Derived.Test.YtnkjadpmigpneaaGreatDoorRows
import Derived.WalkKit
import Derived.OrdersHeld
import Derived.Deep.RegionWith
set_option linter.unusedSimpArgs false
set_option linter.unusedVariables false
namespace Go.Proofs.YtnkjadpmigpneaaGreatDoor
section
set_option maxRecDepth 100000
namespace MathC
def jl (ms:List Int):Nat→Nat
 | 0=>1
 | k + 1=>Nat.lcm (jl ms k) (ms.getD k 0).toNat
def K:Int:=1000000000000000000
structure JSt (rs ms:List Int) (k:Nat) (r m:Nat):Prop where
 hi:r < m
 cap:(m:Int)≤1000000000000000000
 ok:∀ j,j < k→-1000000000000000000≤rs.getD j 0∧rs.getD j 0≤1000000000000000000∧1≤ms.getD j 0∧ms.getD j 0≤1000000000000000000
 lcm:m = jl ms k
 cong:∀ j,j < k→ms.getD j 0 ∣ (r:Int) - rs.getD j 0
end MathC
end
section
set_option maxRecDepth 100000
open Go.RowKit
theorem left_any (a:Int) (m:Nat) (w:World) (ha:a.natAbs≤4000000000000000000) (h0:0 < m) (hm:(m:Int)≤1000000000000000000) :
  Calls Tryz.prog 150 #[.int .i64 a,.int .i64 m] w fun e w'=>e = .returned (.int .i64 (a % (m:Int)))∧w' = w:=by
 have hb:(a.tmod (m:Int)).natAbs < m:=by rw [Int.natAbs_tmod]; exact Nat.mod_lt _ h0
 have t1:((m:Int) == 0) = false:=beq_eq_false_iff_ne.2 (by omega)
 by_cases h:0≤a
 ·have e:a.tmod (m:Int) = a % (m:Int):=Int.tmod_eq_emod_of_nonneg h
  have h1:0≤a % (m:Int):=Int.emod_nonneg _ (by omega)
  have h2:a % (m:Int) < (m:Int):=Int.emod_lt_of_pos _ (by omega)
  clear hb e
  go_enter Tryz.func150,Tryz.ntmps150
  go_wp2
  go_ret
  exact ⟨rfl,rfl⟩
 ·by_cases hz:a.tmod (m:Int) < 0
  ·have HE:Hid (a.tmod (m:Int) + (m:Int) = a % (m:Int)):=by
    show _ = _
    have e1:=Int.tmod_eq_emod (a:=a) (b:=(m:Int))
    rw [e1] at hz ⊢
    split at hz
    ·have:=Int.emod_nonneg a (show (m:Int) ≠ 0 by omega); omega
    ·rename_i hc; rw [if_neg hc]; simp
   go_enter Tryz.func150,Tryz.ntmps150
   go_wp2
   go_ret
   exact ⟨ret_int HE.out,rfl⟩
  ·have HE:Hid (a.tmod (m:Int) = a % (m:Int)):=by
    show _ = _
    have e1:=Int.tmod_eq_emod (a:=a) (b:=(m:Int))
    rw [e1] at hz ⊢
    split at hz
    ·rename_i hc; rw [if_pos hc]; omega
    ·have:=Int.emod_lt_of_pos a (show 0 < (m:Int) by omega); simp at hz; omega
   go_enter Tryz.func150,Tryz.ntmps150
   go_wp2
   go_ret
   exact ⟨ret_int HE.out,rfl⟩
end
section
set_option maxRecDepth 100000
open Go.RowKit
structure JOne (r m:Nat) (a b:Int) (R M c:Int):Prop where
 cases:(c = 3∧R = 0∧M = 0∧(numB a = false∨b < 1∨1000000000000000000 < b)) ∨
  (numB a = true∧∃ n:Nat,b = (n:Int)∧1≤n∧(n:Int)≤1000000000000000000 ∧
   ((c = 5∧R = 0∧M = 0∧¬ (Nat.gcd m n:Int) ∣ a - (r:Int)) ∨
    (c = 9∧R = 0∧M = 0∧(Nat.gcd m n:Int) ∣ a - (r:Int)∧1000000000000000000 < m * (n / Nat.gcd m n)) ∨
    (c = 0∧∃ R':Nat,R = R'∧M = ((m * (n / Nat.gcd m n):Nat):Int)∧m * (n / Nat.gcd m n)≤1000000000000000000∧R' < m * (n / Nat.gcd m n)∧(m:Int) ∣ (R':Int) - (r:Int)∧(n:Int) ∣ (R':Int) - a∧(Nat.gcd m n:Int) ∣ a - (r:Int))))
structure IS (w:World) (s:Value) (xs:List Int):Prop where
 shape:∃ (aa:Option Addr) (g o cap:Nat),s = .slice aa xs.length cap∧(0 < xs.length→aa = some ⟨g,o,none⟩)∧(∀ i,i < xs.length→w.cell? ⟨g,o + i,none⟩ = some (.int .i64 (xs.getD i 0)))∧(0 < xs.length→g < w.heap.size)
structure JOut (rs ms:List Int) (R M c at':Int):Prop where
 cases:((1000 < rs.length∨1000 < ms.length)∧R = 0∧M = 0∧c = 2∧at' = 0) ∨
  (rs.length≤1000∧ms.length≤1000∧rs.length ≠ ms.length∧R = 0∧M = 0∧c = 8∧at' = 0) ∨
  (rs.length≤1000∧rs.length = ms.length∧∃ (k r m:Nat) (R' M':Int),k < rs.length∧MathC.JSt rs ms k r m∧at' = k∧R = 0∧M = 0∧c ≠ 0∧JOne r m (rs.getD k 0) (ms.getD k 0) R' M' c) ∨
  (rs.length≤1000∧rs.length = ms.length∧∃ r m:Nat,MathC.JSt rs ms rs.length r m∧R = r∧M = m∧c = 0∧at' = 0)
end
section
set_option maxRecDepth 100000
open Go.RowKit
structure Sv (b:Nat) (c d:Int) (w:World):Prop where
 c0:w.cell? ⟨b,0,none⟩ = some (.int .i64 c)
 c1:w.cell? ⟨b,1,none⟩ = some (.int .i64 d)
 f0:w.frozen? ⟨b,0,none⟩ = false
 f1:w.frozen? ⟨b,1,none⟩ = false
 lt:b < w.heap.size
theorem Sv.below {b:Nat} {c d:Int} {w w':World} (h:Sv b c d w) (k:Below w.heap.size w w'):Sv b c d w' :=
 ⟨cell_later k h.c0,cell_later k h.c1,(k.frozen (p:=⟨b,0,none⟩) h.lt).trans h.f0,(k.frozen (p:=⟨b,1,none⟩) h.lt).trans h.f1,Nat.lt_of_lt_of_le h.lt k.size⟩
theorem Sv.alloc {b:Nat} {c d:Int} {w:World} (h:Sv b c d w) (C:Array Value) (t:TypeId):Sv b c d (w.alloc (.cells C t)):=h.below (Below.alloc (Below.refl _ _) (Nat.le_refl _) _)
theorem Sv.new (c d:Int) (w:World):Sv w.heap.size c d (w.alloc (.cells #[.int .i64 c,.int .i64 d] 23)) :=
 ⟨by simp,by simp,by simp,by simp,by simp⟩
theorem Sv.set {b:Nat} {c d:Int} {w:World} (h:Sv b c d w) (x y:Int):Sv b x y ((w.setCell ⟨b,0,none⟩ (.int .i64 x)).setCell ⟨b,1,none⟩ (.int .i64 y)):=by
 obtain ⟨c0,c1,f0,f1,lt⟩:=h
 exact ⟨by go_simp,by go_simp,by go_simp,by go_simp,by simpa using lt⟩
theorem Sv.other {b b':Nat} {c d:Int} {w:World} (h:Sv b c d w) (x y:Value) (hne:b' ≠ b):Sv b c d ((w.setCell ⟨b',0,none⟩ x).setCell ⟨b',1,none⟩ y):=by
 have k:∀ v:World,∀ o:Nat,∀ z:Value,(v.setCell ⟨b',o,none⟩ z).heap[b]? = v.heap[b]?:=fun v o z=>Below.heap_setCell _ _ _ _ (Ne.symm hne)
 have e:((w.setCell ⟨b',0,none⟩ x).setCell ⟨b',1,none⟩ y).heap[b]? = w.heap[b]?:=(k _ _ _).trans (k _ _ _)
 refine ⟨?_,?_,?_,?_,by simpa using h.lt⟩
 ·exact (World.cell?_of_block e).trans h.c0
 ·exact (World.cell?_of_block e).trans h.c1
 ·exact (World.frozen?_of_block e).trans h.f0
 ·exact (World.frozen?_of_block e).trans h.f1
end
section
set_option maxRecDepth 100000
open Go.RowKit
def Cl (b:Nat) (l:List Value) (t:TypeId) (w:World):Prop:=w.heap[b]? = some (.cells l.toArray t (0,0))
theorem Cl.lt {b:Nat} {l:List Value} {t:TypeId} {w:World} (h:Cl b l t w):b < w.heap.size:=(Array.getElem?_eq_some_iff.1 h).1
theorem Cl.cell {b:Nat} {l:List Value} {t:TypeId} {w:World} (h:Cl b l t w) (i:Nat):w.cell? ⟨b,i,none⟩ = l[i]?:=by
 unfold Cl at h
 simp [World.cell?,h]
theorem Cl.frozen {b:Nat} {l:List Value} {t:TypeId} {w:World} (h:Cl b l t w) (i:Nat):w.frozen? ⟨b,i,none⟩ = false:=by
 unfold Cl at h
 simp [World.frozen?,h]
theorem Cl.below {b:Nat} {l:List Value} {t:TypeId} {w w':World} (h:Cl b l t w) (k:Below w.heap.size w w'):Cl b l t w':=(k.block b h.lt).trans h
theorem Cl.new (l:List Value) (t:TypeId) (w:World):Cl w.heap.size l t (w.alloc (.cells l.toArray t)):=World.alloc_heap_new w _
theorem Cl.alloc {b:Nat} {l:List Value} {t:TypeId} {w:World} (h:Cl b l t w) (o:Obj):Cl b l t (w.alloc o):=h.below (Below.alloc (Below.refl _ _) (Nat.le_refl _) _)
theorem Cl.drew {b:Nat} {l:List Value} {t:TypeId} {w:World} (h:Cl b l t w):Cl b l t w.drew:=h
theorem Cl.set {b:Nat} {l:List Value} {t:TypeId} {w:World} (h:Cl b l t w) (i:Nat) (v:Value):Cl b (l.set i v) t (w.setCell ⟨b,i,none⟩ v):=by
 have:=heap_setCell_same w b i l.toArray t v h
 unfold Cl
 rw [this]
 simp
theorem Cl.other {b:Nat} {l:List Value} {t:TypeId} {w:World} (h:Cl b l t w) {p:Addr} (hp:b ≠ p.block) (v:Value):Cl b l t (w.setCell p v) :=
 (Below.heap_setCell w p v b hp).trans h
theorem Cl.grown {b:Nat} {l:List Value} {t:TypeId} {w w':World} {row:Option Nat} (h:Cl b l t w) (hg:w.grownBy w' row) (hr:row ≠ some b):Cl b l t w' :=
 (hg.block b h.lt (fun e=>hr e.symm)).trans h
end
section
set_option maxRecDepth 100000
open Go.RowKit LgM
def nz (l:List Nat):List Int:=l.map (fun x:Nat=>(x:Int))
theorem nz_len (l:List Nat):(nz l).length = l.length:=by simp [nz]
theorem nz_append (x y:List Nat):nz (x ++ y) = nz x ++ nz y:=by simp [nz]
theorem IS.ownL {w:World} {base k:Nat} {v:Value} {l:List Int} (hk:l.length = k) (h:w.ownsRow base 3 1 v k (ints l)):IS w v l:=by
 subst hk
 obtain ⟨_,⟨h1,h2⟩ | ⟨g,cap,cur,e1,_,e3,e4,_,e6,e7⟩⟩:=h
 ·exact ⟨none,0,0,0,by rw [h1,h2],fun h=>by omega,fun i hi=>by omega,fun h=>by omega⟩
 ·refine ⟨some ⟨g,0,none⟩,g,0,cap,e1,fun _=>rfl,fun i hi=>?_,fun _=>lt_of_some e3⟩
  have h3:(cur.toList.take (l.length * 1))[i]? = (ints l)[i]?:=by rw [e7]
  rw [List.getElem?_take,if_pos (by omega)] at h3
  simp only [World.cell?,e3,Nat.zero_add]
  rw [← Array.getElem?_toList,h3]
  simp [ints,hi,List.getD_eq_getElem?_getD]
theorem IS.belowL {w w':World} {s:Value} {xs:List Int} (h:IS w s xs) (k:Below w.heap.size w w'):IS w' s xs:=by
 obtain ⟨a,g,o,c,e,p,cell,lt⟩:=h.shape
 refine ⟨a,g,o,c,e,p,fun i hi=>?_,fun hp=>Nat.lt_of_lt_of_le (lt hp) k.size⟩
 rw [k.cell (p:=⟨g,o + i,none⟩) (lt (by omega))]; exact cell i hi
theorem IS.nilL (w:World):IS w (.slice none 0 0) []:=⟨none,0,0,0,rfl,fun h=>by simp at h,fun i hi=>by simp at hi,fun h=>by simp at h⟩
def TyB (w:World) (b:Nat):Prop:=∃ arr fr,w.heap[b]? = some (.cells arr 3 fr)
theorem TyB.below {w w':World} {b:Nat} (h:TyB w b) (k:Below w.heap.size w w'):TyB w' b:=by
 obtain ⟨arr,fr,h⟩:=h
 exact ⟨arr,fr,(k.block b (lt_of_some h)).trans h⟩
theorem TyB.set {w:World} {b:Nat} (h:TyB w b) (p:Addr) (v:Value):TyB (w.setCell p v) b:=by
 obtain ⟨arr,fr,h⟩:=h
 by_cases e:b = p.block
 ·subst e
  refine ⟨if p.spot.isSome = true then arr else arr.setIfInBounds p.off v,fr,?_⟩
  simp only [World.setCell,Array.getElem?_modify]
  rw [h]
  simp
 ·exact ⟨arr,fr,(Below.heap_setCell w p v b e).trans h⟩
def TyI (w:World) (v:Value):Prop:=∀ a k c,v = .slice (some a) k c→0 < k→TyB w a.block
theorem TyI.below {w w':World} {v:Value} (h:TyI w v) (k:Below w.heap.size w w'):TyI w' v:=fun a l c e hl=>(h a l c e hl).below k
theorem TyI.set {w:World} {v:Value} (h:TyI w v) (p:Addr) (u:Value):TyI (w.setCell p u) v:=fun a l c e hl=>(h a l c e hl).set p u
theorem TyI.ownL {w:World} {base k:Nat} {v:Value} {xs:List Value} (h:w.ownsRow base 3 1 v k xs):TyI w v:=by
 intro a l c e hl
 obtain ⟨_,⟨h1,_⟩ | ⟨g,cap,cur,e1,_,e3,_⟩⟩:=h
 ·rw [h1] at e; simp at e
 ·rw [e1] at e
  simp only [Value.slice.injEq,Option.some.injEq] at e
  obtain ⟨rfl,_⟩:=e
  exact ⟨cur,_,e3⟩
def LN (w:World) (v:Value) (n:Nat):Prop:=∃ k,Nd k n∧IS w v (nz (dgl k n))∧TyI w v
theorem LN.below {w w':World} {v:Value} {n:Nat} (h:LN w v n) (k:Below w.heap.size w w'):LN w' v n:=by
 obtain ⟨i,h1,h2,h3⟩:=h; exact ⟨i,h1,h2.belowL k,h3.below k⟩
theorem LN.zero (w:World):LN w (.slice none 0 0) 0:=⟨0,Nd.zero,IS.nilL w,fun a k c e=>by simp at e⟩
theorem ints_snoc (l:List Nat) (x:Int):ints (nz l) ++ [.int .i64 x] = ints (nz l ++ [x]):=by simp [ints]
theorem limb_int (q:Nat):((q:Int) % 1000000000) = ((q % Bs:Nat):Int):=by rw [Int.natCast_emod]; rfl
set_option maxHeartbeats 1000000 in
theorem carried_any (B i n m:Nat) (a:Option Addr) (c:Nat) (w:World) (hrow:w.ownsRow B 3 1 (.slice a i c) i (ints (nz (dgl i n)))) (hB:B≤w.heap.size) (hq:n / Bs ^ i≤9000000000000000000) (hm:n < Bs ^ m) (him:i≤m) (hm2:m≤1000000000) :
  Calls Tryz.prog 111 #[.slice a i c,.int .i64 ((n / Bs ^ i:Nat):Int)] w fun e w'=>∃ k a' c',e = .returned (.slice a' k c')∧(n < Bs ^ k∧(k = i∨Bs ^ (k - 1)≤n))∧w'.ownsRow B 3 1 (.slice a' k c') k (ints (nz (dgl k n)))∧Below B w w':=by
 obtain ⟨i0,hi,hz0,hz1,hz2⟩:=info_parts Tryz.infoInt
 have HI:Hid (Tryz.prog.info? 3 = some i0∧i0.zero = some (.int .i64 0)∧i0.size = 1∧i0.bytes = 8):=⟨hi,hz0,hz1,hz2⟩
 clear hi hz0 hz1 hz2
 have HR0:Hid (w.ownsRow B 3 1 (.slice a i c) i (ints (nz (dgl i n)))):=hrow
 clear hrow
 obtain ⟨q,hqe⟩:∃ q,q = n / Bs ^ i:=⟨_,rfl⟩
 have HQ:Hid (q = n / Bs ^ i):=hqe
 have HM:Hid (n < Bs ^ m):=hm
 rw [← hqe] at hq ⊢
 clear hqe hm
 go_enter Tryz.func111,Tryz.ntmps111
 go_wp2
 go_loopw [0,1] (fun lv cv wx=>∃ (k q:Nat) (a':Option Addr) (c':Nat),lv = .slice a' k c'∧cv = .int .i64 (q:Int)∧q≤9000000000000000000∧k≤m∧Hid ((q = n / Bs ^ k∧(k = i∨Bs ^ (k - 1)≤n))∧wx.ownsRow B 3 1 (.slice a' k c') k (ints (nz (dgl k n)))∧Below B w wx)) (fun _ cv _=>(intOf cv).toNat)
 case atStart=>exact ⟨i,q,a,c,rfl,rfl,hq,him,⟨HQ.out,.inl rfl⟩,HR0.out,Below.refl _ _⟩
 case round =>
  clear HQ HR0 him hq
  obtain ⟨k,q,a',c',rfl,rfl,hq,hkm,HR⟩:=hrel
  by_cases h0:q = 0
  ·subst h0
   go_wp2
   go_ret
   obtain ⟨⟨e1,e2⟩,e3,e4⟩:=HR.out
   refine ⟨k,a',c',rfl,⟨?_,e2⟩,e3,e4⟩
   rcases Nat.lt_or_ge n (Bs ^ k) with h | h
   ·exact h
   ·have:=Nat.div_pos h (bs_pos k); omega
  ·have hge:Bs ^ k≤n:=by
    have:=HR.out.1.1
    rcases Nat.lt_or_ge n (Bs ^ k) with h | h
    ·rw [Nat.div_eq_of_lt h] at this; omega
    ·exact h
   have hkm2:k < m:=by
    rcases Nat.lt_or_ge k m with h | h
    ·exact h
    ·have:=Nat.pow_le_pow_right (show 0 < Bs by decide) h; have:=HM.out; omega
   have HGE:Hid (Bs ^ k≤n):=hge
   have hpos:decide ((0:Int) < (q:Int)) = true:=decide_eq_true (by omega)
   have hwz:=HR.out.2.2.size
   clear hge
   go_wp2_with (at_builtin; refine wpList_append_own _ rfl _ _ 62 rfl B 3 i0 (.int .i64 0) 1 8 Tryz.underlying62 HI.out.1 HI.out.2.1 HI.out.2.2.1 HI.out.2.2.2 rfl (by decide) (.slice a' k c') k (ints (nz (dgl k n))) rfl (HR.out.2.1.alloc _) ⟨wr.heap.size,0,none⟩ 1 1 [.int .i64 ((q:Int) % 1000000000)] rfl rfl (cell_one_new _ _ _) (by simp [Value.oneCell']) (by simp only [maxLen]; omega) (by omega) (by simp; omega) ?_; intro v' w1 hown' hgrow _; obtain ⟨g',cap',rfl⟩:=ownsRow_succ hown')
   have HN:Hid (w1.ownsRow B 3 1 (.slice (some ⟨g',0,none⟩) (k + 1) cap') (k + 1) (ints (nz (dgl (k + 1) n)))∧Below B w w1):=by
    refine ⟨?_,((HR.out.2.2.alloc (by omega) _).grown hgrow (by simp; omega) (fun g e=>(HR.out.2.1.lt g e).1))⟩
    rw [dgl_succ,nz_append]
    have e:nz [n / Bs ^ k % Bs] = [(q:Int) % 1000000000]:=by rw [← HR.out.1.1,limb_int]; rfl
    rw [e,← ints_snoc]
    exact hown'
   clear hown' hgrow
   go_roundw
   case rel =>
    refine ⟨k + 1,q / 1000000000,_,_,rfl,by go_num,by omega,by omega,⟨?_,.inr ?_⟩,HN.out⟩
    ·rw [div_s,← HR.out.1.1]
    ·exact HGE.out
   case measure=>simp [intOf]; omega
end
section
set_option maxRecDepth 100000
open Go.RowKit
section
variable {P:Program} {ops:Array Oper} {Q:Exit→Act→World→Prop} {md:Region.Mode} {S:World→Prop}
def waitsB (md:Region.Mode) (ops:Array Oper) (i:Nat):Nat→Nat→Bool
 | 0,_=>false
 | fuel + 1,g=>match ops[g]? with
  | none=>false
  | some o=>o.after.any fun e=>Region.binds md e && (e.on == i || waitsB md ops i fuel e.on)
def Closed (md:Region.Mode) (ops:Array Oper) (listed:Array Bool):Prop :=
 ∀ j oj,ops[j]? = some oj→listed.getD j false = true→∀ e ∈ oj.after,Region.binds md e = true→listed.getD e.on false = true
def closedB (md:Region.Mode) (ops:Array Oper) (listed:Array Bool):Bool :=
 (List.range ops.size).all fun j=>match ops[j]? with
  | none=>true
  | some oj=>!listed.getD j false || oj.after.all fun e=>!Region.binds md e || listed.getD e.on false
theorem closed_of {listed:Array Bool} (h:closedB md ops listed = true):Closed md ops listed:=by
 intro j oj hj hl e he hb
 simp only [closedB,List.all_eq_true,List.mem_range] at h
 have h1:=h j (Array.getElem?_eq_some_iff.1 hj).1
 simp only [hj,hl,Bool.not_true,Bool.false_or,Array.all_eq_true] at h1
 obtain ⟨k,hk,rfl⟩:=Array.getElem_of_mem he
 have h2:=h1 k hk
 simp only [hb,Bool.not_true,Bool.false_or] at h2
 exact h2
theorem Closed.step {listed:Array Bool} {j:Nat} (h:Closed md ops listed) (hj:j ∈ Region.ready md ops listed):Closed md ops (listed.setIfInBounds j true):=by
 obtain ⟨_,o,ho,hall⟩:=mem_ready.1 hj
 intro k ok hk hl e he hb
 by_cases hkj:j = k
 ·subst hkj
  rw [ho] at hk; cases hk
  exact getD_set_true (hall e he hb)
 ·rw [getD_set_ne false hkj] at hl
  exact getD_set_true (h k ok hk hl e he hb)
theorem waits_unlisted {i:Nat} {listed:Array Bool} (hc:Closed md ops listed) (hi:listed.getD i false = false) :
  ∀ (fuel g:Nat),waitsB md ops i fuel g = true→listed.getD g false = false∧g ∉ Region.ready md ops listed:=by
 intro fuel
 induction fuel with
 | zero=>intro g h; simp [waitsB] at h
 | succ n ih =>
  intro g h
  simp only [waitsB] at h
  cases ho:ops[g]? with
  | none=>simp [ho] at h
  | some o =>
   simp only [ho,Array.any_eq_true,Bool.and_eq_true,Bool.or_eq_true,beq_iff_eq] at h
   obtain ⟨k,hk,hb,h2⟩:=h
   have hun:listed.getD o.after[k].on false = false:=by
    rcases h2 with h2 | h2
    ·rw [h2]; exact hi
    ·exact (ih _ h2).1
   have hmem:o.after[k] ∈ o.after:=Array.getElem_mem hk
   constructor
   ·cases hg:listed.getD g false
    ·rfl
    ·have:=hc g o ho hg _ hmem hb
     rw [hun] at this; cases this
   ·intro hr
    obtain ⟨_,o',ho',hall⟩:=mem_ready.1 hr
    rw [ho] at ho'; cases ho'
    have:=hall _ hmem hb
    rw [hun] at this; cases this
def wpAnyG (P:Program) (md:Region.Mode) (ops:Array Oper) (Q:Exit→Act→World→Prop) (S:World→Prop) (g:Nat):Nat→Array Bool→Act→World→Prop
 | 0,listed,a,w=>Region.ready md ops listed = []∧Q .normal a w
 | fuel + 1,listed,a,w =>
  (Region.ready md ops listed = []→Q .normal a w) ∧
  ∀ i ∈ Region.ready md ops listed,wpOp P ops Q i (fun a' w'=>(listed.getD g false = false→i ≠ g→S w')∧wpAnyG P md ops Q S g fuel (listed.setIfInBounds i true) a' w') a w
theorem wpAny_of_G {g:Nat}:∀ (fuel:Nat) (listed:Array Bool) (a:Act) (w:World),wpAnyG P md ops Q S g fuel listed a w→wpAny P md ops Q fuel listed a w
 | 0,_,_,_,h=>h
 | fuel + 1,_,_,_,h=>⟨h.1,fun i hi=>wpOp_mono (fun a' w' h'=>wpAny_of_G fuel _ a' w' h'.2) (h.2 i hi)⟩
theorem unlisted_of_ready {i:Nat} {listed:Array Bool} (h:i ∈ Region.ready md ops listed):listed.getD i false = false:=by
 have h0:=(mem_ready.1 h).1
 rcases Nat.lt_or_ge i listed.size with h' | h'
 ·simp [h'] at h0 ⊢; exact h0
 ·simp [h']
def Loose (md:Region.Mode) (ops:Array Oper) (i:Nat) (oi:Oper) (listed:Array Bool):Prop :=
 ∀ j oj,ops[j]? = some oj→j ≠ i→listed.getD j true = false→(∀ e ∈ oj.after,Region.binds md e = true→e.on ≠ i)→oi.apart ops oj = true
theorem Loose.step {i j:Nat} {oi:Oper} {listed:Array Bool} (h:Loose md ops i oi listed) (hj:listed.getD j true = false):Loose md ops i oi (listed.setIfInBounds j true):=by
 intro k ok hk hki hun hno
 by_cases e:j = k
 ·exact h k ok hk hki (e ▸ hj) hno
 ·exact h k ok hk hki (by rwa [getD_set_ne true e] at hun) hno
theorem ready_apart {i:Nat} {listed:Array Bool} (hi:i ∈ Region.ready md ops listed) {oj:Oper} (hall:∀ e ∈ oj.after,Region.binds md e = true→listed.getD e.on false = true) :
  ∀ e ∈ oj.after,Region.binds md e = true→e.on ≠ i:=by
 intro e he hb hei
 have h1:=hall e he hb
 rw [hei,unlisted_of_ready hi] at h1
 cases h1
theorem not_none_ready {i:Nat} {listed:Array Bool} {p:Prop} (hi:i ∈ Region.ready md ops listed):Region.ready md ops listed = []→p:=fun h0=>by
 rw [h0] at hi; exact absurd hi (List.not_mem_nil)
theorem wpAnyG_first {i g n:Nat} {oi:Oper} {v:Value} (hi:ops[i]? = some oi) (hwt:waitsB md ops i n g = true) (hsel:∀ (j:Nat) (o:Oper) cs b,ops[j]? = some o→o.op ≠ .select cs b)
  (hQ:∀ c a w,Q (.panic c) (a.put oi.dst v) w→Q (.panic c) a w) :
  ∀ (fuel:Nat) (listed:Array Bool) (a:Act) (w:World),Closed md ops listed→Loose md ops i oi listed→i ∈ Region.ready md ops listed→YieldsIf P ops S oi v a→S w →
   wpAnyG P md ops Q S g fuel (listed.setIfInBounds i true) (a.put oi.dst v) w→wpAnyG P md ops Q S g (fuel + 1) listed a w
 | 0,listed,a,w,_,_,hr,hy,hS,H=>by
  refine ⟨not_none_ready hr,fun j hj=>?_⟩
  by_cases hji:j = i
  ·rw [hji] at hj ⊢; exact hy.wpOp hi hS ⟨fun _ _=>hS,H⟩
  ·exact absurd (ready_mono hj hji) (by rw [H.1]; exact List.not_mem_nil)
 | fuel + 1,listed,a,w,hcl,hlo,hr,hy,hS,H=>by
  refine ⟨not_none_ready hr,fun j hj=>?_⟩
  by_cases hji:j = i
  ·rw [hji] at hj ⊢; exact hy.wpOp hi hS ⟨fun _ _=>hS,H⟩
  obtain ⟨gun,gnr⟩:=waits_unlisted hcl (unlisted_of_ready hr) n g hwt
  have hjg:j ≠ g:=fun e=>gnr (e ▸ hj)
  have hig:i ≠ g:=fun e=>gnr (e ▸ hr)
  obtain ⟨jun,oj,hoj,hall⟩:=mem_ready.1 hj
  have step:=wpOp_putIf hoj (hlo j oj hoj hji jun (ready_apart hr hall)) (fun cs b=>hsel i oi cs b hi) (fun cs b=>hsel j oj cs b hoj) hQ hy (H.2 j (ready_mono hj hji))
  refine wpOp_mono (fun a' w' h3=>?_) step
  obtain ⟨y3,s3,r3⟩:=h3
  have sw:S w':=s3 (by rw [getD_set_ne false hig]; exact gun) hjg
  rw [Array.setIfInBounds_comm _ _ (Ne.symm hji)] at r3
  exact ⟨fun _ _=>sw,wpAnyG_first hi hwt hsel hQ fuel _ a' w' (hcl.step hj) (hlo.step jun) (ready_mono hr (Ne.symm hji)) y3 sw r3⟩
theorem wpAnyG_take {i g:Nat} {oi:Oper} {v:Value} {fuel:Nat} {listed:Array Bool} {a:Act} {w:World} (hi:ops[i]? = some oi)
  (hc:(Region.noSelect ops && Region.free md ops listed i && (Region.ready md ops listed).contains i && closedB md ops listed && waitsB md ops i 12 g) = true)
  (hQ:∀ c a w,Q (.panic c) (a.put oi.dst v) w→Q (.panic c) a w) (hy:YieldsIf P ops S oi v a) (hS:S w)
  (h:wpAnyG P md ops Q S g fuel (listed.setIfInBounds i true) (a.put oi.dst v) w):wpAnyG P md ops Q S g (fuel + 1) listed a w:=by
 simp only [Bool.and_eq_true] at hc
 obtain ⟨⟨⟨⟨hs,hf⟩,hr⟩,hcl⟩,hw⟩:=hc
 exact wpAnyG_first hi hw (Region.noSelect_spec hs) hQ fuel listed a w (closed_of hcl) (Region.free_spec hi hf) (by simpa using hr) hy hS h
theorem wpAnyG_one {i g:Nat} {o:Oper} {fuel:Nat} {listed:Array Bool} {a:Act} {w:World} (ho:ops[i]? = some o) (hr:Region.ready md ops listed = [i])
  (h:∀ K':Act→World→Prop,Hid (∀ a w,S w→wpAnyG P md ops Q S g fuel (listed.setIfInBounds i true) a w→K' a w)→if Region.wanted o (yielded ops a.tmps) = true then Oper.wp P o a w K' Q else K' (a.put o.dst undef) w):wpAnyG P md ops Q S g (fuel + 1) listed a w:=by
 refine ⟨fun h0=>(by rw [hr] at h0; cases h0),fun j hj=>?_⟩
 rw [hr] at hj
 simp at hj
 subst hj
 exact wpOp_step ho fun K' hK=>h K' (fun a w h1 h2=>hK a w ⟨fun _ _=>h1,h2⟩)
theorem wpAnyG_last {i g:Nat} {o:Oper} {fuel:Nat} {listed:Array Bool} {a:Act} {w:World} (ho:ops[i]? = some o) (hr:Region.ready md ops listed = [i]) (hg:(listed.getD g false || i == g) = true)
  (h:∀ K':Act→World→Prop,Hid (∀ a w,wpAnyG P md ops Q S g fuel (listed.setIfInBounds i true) a w→K' a w)→if Region.wanted o (yielded ops a.tmps) = true then Oper.wp P o a w K' Q else K' (a.put o.dst undef) w):wpAnyG P md ops Q S g (fuel + 1) listed a w:=by
 refine ⟨fun h0=>(by rw [hr] at h0; cases h0),fun j hj=>?_⟩
 rw [hr] at hj
 simp at hj
 subst hj
 refine wpOp_step ho fun K' hK=>h K' (fun a w h1=>hK a w ⟨fun h2 h3=>?_,h1⟩)
 simp [h3] at hg
 simp [hg] at h2
theorem wpAnyG_done {g:Nat} {listed:Array Bool} {a:Act} {w:World} (hr:Region.ready md ops listed = []) (h:Q .normal a w) :
  ∀ fuel,wpAnyG P md ops Q S g fuel listed a w
 | 0=>⟨hr,h⟩
 | _ + 1=>⟨fun _=>h,by rw [hr]; simp⟩
theorem wp_region_G {id:Nat} {a:Act} {w:World} (S:World→Prop) (g:Nat) (hm:P.follows .mixedOrders = true) (hS:S w.drew)
  (h:S w.drew→wpAnyG P .any ops Q S g ops.size (Array.replicate ops.size false) a w.drew):(Code.region id ops true).wp P Q a w :=
 wp_region_any hm (wpAny_of_G _ _ _ _ (h hS))
end
end
end Go.Proofs.YtnkjadpmigpneaaGreatDoor
