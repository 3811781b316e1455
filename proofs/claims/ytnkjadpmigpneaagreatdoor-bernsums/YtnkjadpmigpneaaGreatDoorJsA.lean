import Derived.Lib.ItoaNum
import Derived.Test.YtnkjadpmigpneaaGreatDoorRows
import Derived.WalkKit
import Derived.WalkSpells
import Derived.WalkLawsBesides
import Derived.Deep.QuietTactic
import Derived.BigQuiet
import Derived.RangeFuncNested
import Derived.RangeFuncBound
import Derived.RangeFuncCalls
import Derived.RangeFuncLeaves
import Derived.Shelf.Abstract
import Derived.Shelf.RegionOpen
import Derived.OwnWalkIn
import Derived.TacticsInMore
import Derived.LoopNIn
import Derived.LoopIn
import Derived.Maps.OwnIn
set_option linter.unusedSimpArgs false
set_option linter.unusedVariables false
namespace Go.Proofs.YtnkjadpmigpneaaGreatDoor
section
set_option maxRecDepth 100000
namespace LgM
abbrev Bs:Nat:=1000000000
def dgl (k n:Nat):List Nat:=(List.range k).map (fun j=>n / Bs ^ j % Bs)
theorem dgl_len (k n:Nat):(dgl k n).length = k:=by simp [dgl]
theorem dgl_succ (k n:Nat):dgl (k + 1) n = dgl k n ++ [n / Bs ^ k % Bs]:=by simp [dgl,List.range_succ]
theorem bs_pos (k:Nat):0 < Bs ^ k:=Nat.pow_pos (by decide)
theorem pow_s (k:Nat):Bs ^ (k + 1) = Bs ^ k * Bs:=Nat.pow_succ ..
theorem div_s (n k:Nat):n / Bs ^ (k + 1) = n / Bs ^ k / Bs:=by rw [pow_s,Nat.div_div_eq_div_mul]
theorem mod_s (n k:Nat):n % Bs ^ (k + 1) = n % Bs ^ k + Bs ^ k * (n / Bs ^ k % Bs):=by rw [pow_s,Nat.mod_mul]
theorem plus_step (x y k:Nat):(x % Bs ^ k + y % Bs ^ k) / Bs ^ k + (x / Bs ^ k % Bs + y / Bs ^ k % Bs) = (x % Bs ^ (k+1) + y % Bs ^ (k+1)) / Bs ^ k:=by
 rw [mod_s,mod_s]
 have e:x % Bs ^ k + Bs ^ k * (x / Bs ^ k % Bs) + (y % Bs ^ k + Bs ^ k * (y / Bs ^ k % Bs)) = (x % Bs ^ k + y % Bs ^ k) + Bs ^ k * (x / Bs ^ k % Bs + y / Bs ^ k % Bs):=by rw [Nat.mul_add]; omega
 rw [e,Nat.add_mul_div_left _ _ (bs_pos k)]
theorem add_div_mod (x y k:Nat):(x + y) / Bs ^ k % Bs = (x % Bs ^ (k+1) + y % Bs ^ (k+1)) / Bs ^ k % Bs:=by
 have h1:∀ z,z / Bs ^ k % Bs = z % Bs ^ (k + 1) / Bs ^ k:=fun z=>by rw [pow_s,Nat.mod_mul_right_div_self]
 rw [h1,h1 (x % Bs ^ (k+1) + y % Bs ^ (k+1)),← Nat.add_mod]
theorem times_step (x t k:Nat):x % Bs ^ k * t / Bs ^ k + x / Bs ^ k % Bs * t = x % Bs ^ (k+1) * t / Bs ^ k:=by
 rw [mod_s,Nat.add_mul,Nat.mul_assoc,Nat.add_mul_div_left _ _ (bs_pos k)]
theorem mul_div_mod (x t k:Nat):x * t / Bs ^ k % Bs = x % Bs ^ (k+1) * t / Bs ^ k % Bs:=by
 have h1:∀ z,z / Bs ^ k % Bs = z % Bs ^ (k + 1) / Bs ^ k:=fun z=>by rw [pow_s,Nat.mod_mul_right_div_self]
 rw [h1,h1 (x % Bs ^ (k+1) * t),Nat.mod_mul_mod]
structure Nd (k n:Nat):Prop where
 lt:n < Bs ^ k
 ge:k = 0∨Bs ^ (k - 1)≤n
theorem Nd.limb {k n:Nat} (h:Nd k n) (i:Nat) (hi:k≤i):n / Bs ^ i % Bs = 0:=by
 have:=Nat.pow_le_pow_right (show 0 < Bs by decide) hi
 rw [Nat.div_eq_of_lt (Nat.lt_of_lt_of_le h.lt this)]; rfl
theorem Nd.le {k n m:Nat} (h:Nd k n) (hm:n < Bs ^ m):k≤m:=by
 rcases h.ge with h1 | h1
 ·omega
 ·rcases Nat.lt_or_ge m k with h2 | h2
  ·have:=Nat.pow_le_pow_right (show 0 < Bs by decide) (show m≤k - 1 by omega)
   omega
  ·exact h2
theorem Nd.mod {k n i:Nat} (h:Nd k n) (hi:k≤i):n % Bs ^ i = n :=
 Nat.mod_eq_of_lt (Nat.lt_of_lt_of_le h.lt (Nat.pow_le_pow_right (by decide) hi))
theorem Nd.zero:Nd 0 0:=⟨by decide,.inl rfl⟩
theorem Nd.mono {k n m:Nat} (h:Nd k n) (hm:n≤m):k = 0∨Bs ^ (k - 1)≤m:=by
 rcases h.ge with h1 | h1
 ·exact .inl h1
 ·exact .inr (by omega)
theorem lim_le {a:Nat} (h:a < Bs):a≤999999999:=by unfold Bs at h; omega
open Go
def pk:Nat→Nat→List UInt8
 | 0,_=>[]
 | k + 1,r=>pk k (r / 10) ++ [UInt8.ofNat (48 + r % 10)]
theorem dec_ge {u:Nat} (h:¬ u < 10):Lib.decDigits u = Lib.decDigits (u / 10) ++ [UInt8.ofNat (48 + u % 10)]:=by
 rw [Lib.decDigits,dif_neg h]
theorem dec_lt {u:Nat} (h:u < 10):Lib.decDigits u = [UInt8.ofNat (48 + u)]:=by
 rw [Lib.decDigits,dif_pos h]
theorem dec_join (k q r:Nat) (hq:0 < q) (hr:r < 10 ^ k):Lib.decDigits (q * 10 ^ k + r) = Lib.decDigits q ++ pk k r:=by
 induction k generalizing r with
 | zero=>have:r = 0:=by simpa using hr
         subst this; simp [pk]
 | succ k ih =>
  have h1:10≤q * 10 ^ (k + 1) + r:=by
   have h2:1 * 10≤q * 10 ^ (k + 1):=Nat.mul_le_mul hq (by rw [Nat.pow_succ]; have:=Nat.pow_pos (n:=k) (show 0 < 10 by decide); omega)
   omega
  have e:q * 10 ^ (k + 1) + r = (q * 10 ^ k) * 10 + r:=by rw [Nat.pow_succ,Nat.mul_assoc]
  have e1:(q * 10 ^ (k + 1) + r) / 10 = q * 10 ^ k + r / 10:=by rw [e]; omega
  have e2:(q * 10 ^ (k + 1) + r) % 10 = r % 10:=by rw [e]; omega
  rw [dec_ge (by omega),e1,e2,ih (r / 10) (by rw [Nat.pow_succ] at hr; omega)]
  simp [pk]
theorem pk_zero (k:Nat):pk k 0 = List.replicate k 48:=by
 induction k with
 | zero=>rfl
 | succ k ih=>simp only [pk]; rw [show (0:Nat) / 10 = 0 from rfl,ih]; rw [List.replicate_succ']; rfl
theorem pk_pad (k r:Nat) (hk:1≤k) (hr:r < 10 ^ k):pk k r = List.replicate (k - (Lib.decDigits r).length) 48 ++ Lib.decDigits r∧(Lib.decDigits r).length≤k:=by
 induction k generalizing r with
 | zero=>omega
 | succ k ih =>
  by_cases h:r < 10
  ·rw [dec_lt h]
   have e:r / 10 = 0:=by omega
   refine ⟨?_,by simp⟩
   simp only [pk,e,pk_zero]
   rw [Nat.mod_eq_of_lt h]; simp
  ·have hk1:1≤k:=by
    rcases k with _ | k
    ·simp at hr; omega
    ·omega
   obtain ⟨h1,h2⟩:=ih (r / 10) hk1 (by rw [Nat.pow_succ] at hr; omega)
   rw [dec_ge h]
   refine ⟨?_,by simp; omega⟩
   simp only [pk,h1,List.length_append,List.length_cons,List.length_nil]
   rw [show k + 1 - ((Lib.decDigits (r / 10)).length + (0 + 1)) = k - (Lib.decDigits (r / 10)).length by omega]
   simp
theorem dec_limb (n i:Nat) (h:Bs ^ (i + 1)≤n):Lib.decDigits (n / Bs ^ i) = Lib.decDigits (n / Bs ^ (i + 1)) ++ (List.replicate (9 - (Lib.decDigits (n / Bs ^ i % Bs)).length) 48 ++ Lib.decDigits (n / Bs ^ i % Bs)):=by
 have hp:0 < Bs ^ i:=Nat.pow_pos (by decide)
 have e:n / Bs ^ (i + 1) = n / Bs ^ i / Bs:=by rw [Nat.pow_succ,Nat.div_div_eq_div_mul]
 have hm:n / Bs ^ i % Bs < Bs:=Nat.mod_lt _ (by decide)
 have h9:Bs = 10 ^ 9:=by decide
 rw [← (pk_pad 9 (n / Bs ^ i % Bs) (by decide) (by rw [← h9]; exact hm)).1,← dec_join 9 _ _ ?_ (by rw [← h9]; exact hm),← h9,e,Nat.mul_comm,Nat.div_add_mod]
 exact Nat.div_pos h (Nat.pow_pos (by decide))
def rd (a:Nat) (l:List UInt8):Nat:=l.foldl (fun a c=>a * 10 + (c.toNat - 48)) a
theorem rd_dec (n:Nat):rd 0 (Lib.decDigits n) = n:=by
 induction n using Nat.strongRecOn with
 | _ n ih =>
  have hc:∀ x,x < 10→(UInt8.ofNat (48 + x)).toNat - 48 = x:=fun x hx=>by simp [UInt8.toNat_ofNat']; omega
  by_cases h:n < 10
  ·rw [dec_lt h]; simp only [rd,List.foldl_cons,List.foldl_nil]; rw [hc n h]; omega
  ·rw [dec_ge h,rd,List.foldl_append]
   show (rd 0 (Lib.decDigits (n / 10))) * 10 + ((UInt8.ofNat (48 + n % 10)).toNat - 48) = n
   rw [ih (n / 10) (by omega),hc _ (by omega)]; omega
theorem dec_digit (n:Nat):∀ c ∈ Lib.decDigits n,48≤c.toNat∧c.toNat≤57:=by
 induction n using Nat.strongRecOn with
 | _ n ih =>
  have hc:∀ x,x < 10→48≤(UInt8.ofNat (48 + x)).toNat∧(UInt8.ofNat (48 + x)).toNat≤57:=fun x hx=>by simp [UInt8.toNat_ofNat']; omega
  by_cases h:n < 10
  ·rw [dec_lt h]; intro c hm; rw [List.mem_singleton] at hm; subst hm; exact hc n h
  ·rw [dec_ge h]
   intro c hm
   rcases List.mem_append.1 hm with h1 | h1
   ·exact ih _ (by omega) c h1
   ·rw [List.mem_singleton] at h1; subst h1; exact hc _ (by omega)
theorem dec_head (n:Nat) (hn:0 < n):∃ c r,Lib.decDigits n = c :: r∧49≤c.toNat:=by
 induction n using Nat.strongRecOn with
 | _ n ih =>
  by_cases h:n < 10
  ·rw [dec_lt h]; exact ⟨_,[],rfl,by simp [UInt8.toNat_ofNat']; omega⟩
  ·obtain ⟨c,r,h1,h2⟩:=ih (n / 10) (by omega) (by omega)
   rw [dec_ge h,h1]; exact ⟨c,_,rfl,h2⟩
theorem dec_len (n k:Nat) (hk:1≤k) (h:n < 10 ^ k):(Lib.decDigits n).length≤k:=(pk_pad k n hk h).2
end LgM
end
section
set_option maxRecDepth 100000
namespace MathA
structure Eu (A B a b u v nu nv:Int):Prop where
 lin:a = u * A + v * B
 lin2:b = nu * A + nv * B
 st:∃ (p r t s:Int) (α β U N V M:Nat),(p = 1∨p = -1)∧(r = 1∨r = -1)∧(t = 1∨t = -1)∧(s = 1∨s = -1) ∧
  a = p * α∧b = r * β∧u = -(p * r * t) * U∧nu = t * N∧v = -(p * r * s) * V∧nv = s * M ∧
  α * N + β * U = B.natAbs∧α * M + β * V = A.natAbs∧Nat.gcd α β = Int.gcd A B ∧
  U≤1000000000000000000∧N≤1000000000000000000∧V≤1000000000000000000∧M≤1000000000000000000 ∧
  α≤1000000000000000000∧β≤1000000000000000000∧((N = 0∧U = 1∧0 < β)∨(β < α∧1≤N∧(β = 0→U < N)))
end MathA
end
section
set_option maxRecDepth 100000
open Go.RowKit
theorem ret_int {k:IntKind} {a b:Int} (h:a = b):Ending.returned (.int k a) = .returned (.int k b):=by rw [h]
theorem ret_bool {a b:Bool} (h:a = b):Ending.returned (.bool a) = .returned (.bool b):=by rw [h]
def numB (n:Int):Bool:=decide (-1000000000000000000≤n) && decide (n≤1000000000000000000)
end
section
set_option maxRecDepth 100000
open Go.RowKit
structure Bez (a b u v:Int):Prop where
 lin:u * a + v * b = (Int.gcd a b:Int)
 nul:b = 0→v = 0∧u = a.sign
 low:b ≠ 0→0≤u
 high:b ≠ 0→u < (b.natAbs / Int.gcd a b:Nat)
 vb:v.natAbs≤2000000000000000000
end
section
set_option maxRecDepth 100000
open Go.RowKit
def bwB (lo hi x:Int):Bool:=decide (lo≤x) && decide (x≤hi)
def nb (lo hi:Int):Nat→List Int→Int × Int
 | _,[]=>(0,0)
 | i,x :: r=>if bwB lo hi x = true then nb lo hi (i + 1) r else (3,i)
theorem nb_skip (lo hi:Int) (xs:List Int) (k:Nat) (hk:k≤xs.length) (h:∀ j,j < k→bwB lo hi (xs.getD j 0) = true):nb lo hi 0 xs = nb lo hi k (xs.drop k):=by
 induction k with
 | zero=>rfl
 | succ n ih =>
  rw [ih (by omega) (fun j hj=>h j (by omega)),List.drop_eq_getElem_cons (by omega),nb]
  have:=h n (by omega)
  rw [List.getD_eq_getElem?_getD,List.getElem?_eq_getElem (by omega),Option.getD_some] at this
  rw [if_pos this]
theorem nb_none (lo hi:Int) (xs:List Int) (h:∀ j,j < xs.length→bwB lo hi (xs.getD j 0) = true):nb lo hi 0 xs = (0,0):=by
 rw [nb_skip lo hi xs xs.length (Nat.le_refl _) h,List.drop_length]; rfl
theorem nb_hit (lo hi:Int) (xs:List Int) (k:Nat) (hk:k < xs.length) (h:∀ j,j < k→bwB lo hi (xs.getD j 0) = true) (hb:bwB lo hi (xs.getD k 0) = false):nb lo hi 0 xs = (3,(k:Int)):=by
 rw [nb_skip lo hi xs k (by omega) h,List.drop_eq_getElem_cons hk,nb]
 rw [List.getD_eq_getElem?_getD,List.getElem?_eq_getElem hk,Option.getD_some] at hb
 rw [if_neg (by simp [hb])]
def inB (m x:Int):Bool:=decide (-m≤x) && decide (x≤m)
def nw (m:Int):Nat→List Int→Int × Int
 | _,[]=>(0,0)
 | i,x :: r=>if inB m x = true then nw m (i + 1) r else (3,i)
set_option maxHeartbeats 400000 in
theorem between_any (lo hi:Int) (xs:List Int) (b o cap:Nat) (w:World) (hl:xs.length≤1000000000) (hb:b < w.heap.size)
  (hc:∀ j,j < xs.length→w.cell? ⟨b,o + j,none⟩ = some (.int .i64 (xs.getD j 0))) :
  Calls Tryz.prog 35 #[.int .i64 lo,.int .i64 hi,.slice (some ⟨b,o,none⟩) xs.length cap] w fun e w'=>e = .returned (.agg #[.int .i64 (nb lo hi 0 xs).1,.int .i64 (nb lo hi 0 xs).2])∧Below w.heap.size w w':=by
 go_enter Tryz.func35,Tryz.ntmps35
 go_wp2
 go_loop [11] (fun i=>∃ k:Nat,k≤xs.length∧i = .int .i64 k∧∀ j,j < k→bwB lo hi (xs.getD j 0) = true) (fun i=>xs.length - (intOf i).toNat)
 case atStart=>exact ⟨0,Nat.zero_le _,rfl,fun j hj=>absurd hj (Nat.not_lt_zero _)⟩
 case round =>
  obtain ⟨k,hk,rfl,hok⟩:=hrel
  have HOK:Hid (∀ j,j < k→bwB lo hi (xs.getD j 0) = true):=hok
  have HC:=hc
  clear hok hc
  by_cases hlt:k < xs.length
  ·have hck:=HC k hlt
   obtain ⟨x,hx⟩:∃ x,x = xs.getD k 0:=⟨_,rfl⟩
   rw [← hx] at hck
   have HX:Hid (x = xs.getD k 0):=hx
   clear HC hx
   by_cases h1:x < lo
   ·have t1:decide (x < lo) = true:=decide_eq_true h1
    have hn:Hid (bwB lo hi x = false):=by show _ = _; simp [bwB]; omega
    clear h1
    go_wp2
    refine bodyPost_ret (v:=.agg #[.int .i64 3,.int .i64 k]) (by simp [results,Tryz.results35,go_sem]) rfl ⟨?_,?_⟩
    ·rw [nb_hit lo hi xs k hlt HOK.out (by rw [← HX.out]; exact hn.out)]
    ·exact Below.alloc (Below.refl _ _) (Nat.le_refl _) _
   ·have t1:decide (x < lo) = false:=decide_eq_false h1
    by_cases h2:hi < x
    ·have t2:decide (hi < x) = true:=decide_eq_true h2
     have hn:Hid (bwB lo hi x = false):=by show _ = _; simp [bwB]; omega
     clear h1 h2
     go_wp2
     refine bodyPost_ret (v:=.agg #[.int .i64 3,.int .i64 k]) (by simp [results,Tryz.results35,go_sem]) rfl ⟨?_,?_⟩
     ·rw [nb_hit lo hi xs k hlt HOK.out (by rw [← HX.out]; exact hn.out)]
     ·exact Below.alloc (Below.refl _ _) (Nat.le_refl _) _
    ·have t2:decide (hi < x) = false:=decide_eq_false h2
     have hn:Hid (bwB lo hi x = true):=by show _ = _; simp [bwB]; omega
     clear h1 h2
     go_wp2
     go_round
     case rel =>
      refine ⟨k + 1,by omega,by go_num,fun j hj=>?_⟩
      by_cases hjk:j = k
      ·subst hjk; rw [← HX.out]; exact hn.out
      ·exact HOK.out j (by omega)
     case measure=>simp [intOf]; omega
  ·go_wp2
   refine bodyPost_ret (v:=.agg #[.int .i64 0,.int .i64 0]) (by simp [results,Tryz.results35,go_sem]) rfl ⟨?_,?_⟩
   ·rw [nb_none lo hi xs (fun j hj=>HOK.out j (by omega))]
   ·exact Below.alloc (Below.refl _ _) (Nat.le_refl _) _
theorem nw_nb (m:Int):∀ (xs:List Int) (i:Nat),nw m i xs = nb (-m) m i xs
 | [],_=>rfl
 | x :: r,i=>by rw [nw,nb,nw_nb m r (i + 1)]; rfl
set_option maxHeartbeats 400000 in
theorem bwithin_any (m:Int) (xs:List Int) (b o cap:Nat) (w:World) (hm0:0≤m) (hm1:m≤1000000000000000000) (hl:xs.length≤1000000000) (hb:b < w.heap.size)
  (hc:∀ j,j < xs.length→w.cell? ⟨b,o + j,none⟩ = some (.int .i64 (xs.getD j 0))) :
  Calls Tryz.prog 134 #[.int .i64 m,.slice (some ⟨b,o,none⟩) xs.length cap] w fun e w'=>e = .returned (.agg #[.int .i64 (nw m 0 xs).1,.int .i64 (nw m 0 xs).2])∧Below w.heap.size w w':=by
 obtain ⟨K,hK⟩:∃ K,K = nw m 0 xs:=⟨_,rfl⟩
 have HB:Hid (∀ w',Below w.heap.size w w'→Calls Tryz.prog 35 #[.int .i64 (-m),.int .i64 m,.slice (some ⟨b,o,none⟩) xs.length cap] w' fun e w''=>e = .returned (.agg #[.int .i64 K.1,.int .i64 K.2])∧Below w'.heap.size w' w''):=fun w' k=>by
  rw [hK,nw_nb]
  exact between_any (-m) m xs b o cap w' hl (Nat.lt_of_lt_of_le hb k.size) (fun j hj=>(k.cell (p:=⟨b,o + j,none⟩) hb).trans (hc j hj))
 rw [← hK]
 clear hK hc hl hb
 go_enter Tryz.func134,Tryz.ntmps134
 go_wp2_with fail
 have K0:Below w.heap.size w (w.alloc (.cells #[.int .i64 0,.int .i64 0] 23)):=Below.alloc (Below.refl _ _) (Nat.le_refl _) _
 refine (HB.out _ K0).mono ?_
 rintro e w1 ⟨rfl,k1⟩
 have hz:w.heap.size < w1.heap.size:=by have:=k1.size; simp at this; omega
 have q0:w1.cell? ⟨w.heap.size,0,none⟩ = some (.int .i64 0):=cell_later k1 (by simp)
 have q1:w1.cell? ⟨w.heap.size,1,none⟩ = some (.int .i64 0):=cell_later k1 (by simp)
 have q2:w1.frozen? ⟨w.heap.size,0,none⟩ = false:=(k1.frozen (p:=⟨w.heap.size,0,none⟩) (by simp)).trans (by simp)
 have q3:w1.frozen? ⟨w.heap.size,1,none⟩ = false:=(k1.frozen (p:=⟨w.heap.size,1,none⟩) (by simp)).trans (by simp)
 have HK:Hid (Below w.heap.size w w1):=K0.trans (k1.mono (by simp))
 clear K0 k1 HB
 go_wp2
 refine bodyPost_ret (v:=.agg #[.int .i64 K.1,.int .i64 K.2]) (by simp [results,Tryz.results134,go_sem,q0,q1,hz]) rfl ⟨rfl,?_⟩
 exact Below.setCell (Below.setCell HK.out (Nat.le_refl _) _) (Nat.le_refl _) _
end
section
set_option maxRecDepth 100000
open Go.RowKit
def nf:Nat→List Int→Int × Int
 | _,[]=>(0,0)
 | i,x :: r=>if numB x = true then nf (i + 1) r else (3,i)
theorem nf_skip (xs:List Int) (k:Nat) (hk:k≤xs.length) (h:∀ j,j < k→numB (xs.getD j 0) = true):nf 0 xs = nf k (xs.drop k):=by
 induction k with
 | zero=>rfl
 | succ n ih =>
  rw [ih (by omega) (fun j hj=>h j (by omega)),List.drop_eq_getElem_cons (by omega),nf]
  have:=h n (by omega)
  rw [List.getD_eq_getElem?_getD,List.getElem?_eq_getElem (by omega),Option.getD_some] at this
  rw [if_pos this]
theorem nf_none (xs:List Int) (h:∀ j,j < xs.length→numB (xs.getD j 0) = true):nf 0 xs = (0,0):=by
 rw [nf_skip xs xs.length (Nat.le_refl _) h,List.drop_length]; rfl
theorem number_any (n:Int) (w:World) :
  Calls Tryz.prog 21 #[.int .i64 n] w fun e w'=>e = .returned (.bool (numB n))∧w' = w:=by
 by_cases h1 : -1000000000000000000≤n <;> by_cases h2:n≤1000000000000000000
 all_goals
  go_enter Tryz.func21,Tryz.ntmps21
  go_wp2
  go_ret
  exact ⟨ret_bool (by simp [numB, *] <;> omega),rfl⟩
theorem nf_nw:∀ (xs:List Int) (i:Nat),nf i xs = nw 1000000000000000000 i xs
 | [],_=>rfl
 | x :: r,i=>by rw [nf,nw,nf_nw r (i + 1)]; rfl
set_option maxHeartbeats 400000 in
theorem numbersFault_any (xs:List Int) (b o cap:Nat) (w:World) (hl:xs.length≤1000000000) (hb:b < w.heap.size)
  (hc:∀ j,j < xs.length→w.cell? ⟨b,o + j,none⟩ = some (.int .i64 (xs.getD j 0))) :
  Calls Tryz.prog 123 #[.slice (some ⟨b,o,none⟩) xs.length cap] w fun e w'=>e = .returned (.agg #[.int .i64 (nf 0 xs).1,.int .i64 (nf 0 xs).2])∧Below w.heap.size w w':=by
 obtain ⟨K,hK⟩:∃ K,K = nf 0 xs:=⟨_,rfl⟩
 have HB:Hid (∀ w',Below w.heap.size w w'→Calls Tryz.prog 134 #[.int .i64 1000000000000000000,.slice (some ⟨b,o,none⟩) xs.length cap] w' fun e w''=>e = .returned (.agg #[.int .i64 K.1,.int .i64 K.2])∧Below w'.heap.size w' w''):=fun w' k=>by
  rw [hK,nf_nw]
  exact bwithin_any 1000000000000000000 xs b o cap w' (by decide) (by decide) hl (Nat.lt_of_lt_of_le hb k.size) (fun j hj=>(k.cell (p:=⟨b,o + j,none⟩) hb).trans (hc j hj))
 rw [← hK]
 clear hK hc hl hb
 go_enter Tryz.func123,Tryz.ntmps123
 go_wp2_with fail
 have K0:Below w.heap.size w (w.alloc (.cells #[.int .i64 0,.int .i64 0] 23)):=Below.alloc (Below.refl _ _) (Nat.le_refl _) _
 refine (HB.out _ K0).mono ?_
 rintro e w1 ⟨rfl,k1⟩
 have hz:w.heap.size < w1.heap.size:=by have:=k1.size; simp at this; omega
 have q0:w1.cell? ⟨w.heap.size,0,none⟩ = some (.int .i64 0):=cell_later k1 (by simp)
 have q1:w1.cell? ⟨w.heap.size,1,none⟩ = some (.int .i64 0):=cell_later k1 (by simp)
 have q2:w1.frozen? ⟨w.heap.size,0,none⟩ = false:=(k1.frozen (p:=⟨w.heap.size,0,none⟩) (by simp)).trans (by simp)
 have q3:w1.frozen? ⟨w.heap.size,1,none⟩ = false:=(k1.frozen (p:=⟨w.heap.size,1,none⟩) (by simp)).trans (by simp)
 have HK:Hid (Below w.heap.size w w1):=K0.trans (k1.mono (by simp))
 clear K0 k1 HB
 go_wp2
 refine bodyPost_ret (v:=.agg #[.int .i64 K.1,.int .i64 K.2]) (by simp [results,Tryz.results123,go_sem,q0,q1,hz]) rfl ⟨rfl,?_⟩
 exact Below.setCell (Below.setCell HK.out (Nat.le_refl _) _) (Nat.le_refl _) _
theorem below_drewN' {B n:Nat} {a w:World} (h:Below B a w):Below B a (w.drewN n):=⟨h.os,h.tape,h.output,h.size,h.block⟩
def okB (a b:Int):Bool:=numB a && numB b
end
section
set_option maxRecDepth 100000
open Go.RowKit
def val:List Nat→Nat
 | []=>0
 | x :: r=>x + 4294967296 * val r
def pw:Nat→Nat
 | 0=>1
 | n + 1=>4294967296 * pw n
theorem pw_pos (n:Nat):0 < pw n:=by induction n with
 | zero=>exact Nat.one_pos
 | succ n ih=>unfold pw; omega
theorem pw_add (a b:Nat):pw (a + b) = pw a * pw b:=by induction a with
 | zero=>simp [pw]
 | succ n ih =>
  rw [Nat.add_right_comm]
  show 4294967296 * pw (n + b) = 4294967296 * pw n * pw b
  rw [ih,Nat.mul_assoc]
theorem pw_le {a b:Nat} (h:a≤b):pw a≤pw b:=by
 obtain ⟨c,rfl⟩:=Nat.exists_eq_add_of_le h
 rw [pw_add]; exact Nat.le_mul_of_pos_right _ (pw_pos c)
theorem pw_lt_iff {a b:Nat} (h:pw a < pw b):a < b:=by
 rcases Nat.lt_or_ge a b with k | k
 ·exact k
 ·have:=pw_le k; omega
theorem pw_two:pw 2 = 18446744073709551616:=by decide
theorem val_append (a b:List Nat):val (a ++ b) = val a + pw a.length * val b:=by induction a with
 | nil=>simp [val,pw]
 | cons x r ih=>simp only [List.cons_append,val,ih,List.length_cons,pw,Nat.mul_add,Nat.mul_assoc]; omega
theorem val_lt (l:List Nat) (h:∀ x ∈ l,x < 4294967296):val l < pw l.length:=by induction l with
 | nil=>simp [val,pw]
 | cons x r ih =>
  have h1:=h x (by simp)
  have h2:=ih (fun y hy=>h y (by simp [hy]))
  simp only [val,List.length_cons,pw]; omega
def Nm (l:List Nat):Prop:=l = []∨pw (l.length - 1)≤val l
theorem Nm.len {l:List Nat} {m:Nat} (h:Nm l) (hv:val l < pw m):l.length≤m:=by
 rcases h with h | h
 ·subst h; exact Nat.zero_le _
 ·have:=pw_lt_iff (Nat.lt_of_le_of_lt h hv); omega
theorem Nm.nil_iff {l:List Nat} (h:Nm l):l = [] ↔ val l = 0:=by
 constructor
 ·intro e; subst e; rfl
 ·intro e; rcases h with h | h
  ·exact h
  ·have:=pw_pos (l.length - 1); omega
theorem Nm.len_le {l m:List Nat} (h:Nm l) (hm:∀ x ∈ m,x < 4294967296) (hv:val l≤val m):l.length≤m.length :=
 h.len (Nat.lt_of_le_of_lt hv (val_lt m hm))
structure Sl (w:World) (s:Value) (l:List Nat):Prop where
 small:∀ x ∈ l,x < 4294967296
 shape:(l = []∧s = .slice none 0 0)∨∃ g cap C,s = .slice (some ⟨g,0,none⟩) l.length cap∧l.length≤cap∧w.heap[g]? = some (.cells C 106 (0,0))∧∀ i,i < l.length→C[i]? = some (.int .u32 (l.getD i 0:Int))
def NS (w:World) (s:Value) (n:Nat):Prop:=∃ l,Sl w s l∧val l = n∧Nm l
def BigAt (w:World) (b:Nat) (n:Int):Prop:=∃ s,w.heap[b]? = some (.cells #[.bool (decide (n < 0)),s] 37 (0,0))∧NS w s n.natAbs
def Slot (w:World) (b:Nat):Prop:=∃ x y,w.heap[b]? = some (.cells #[x,y] 37 (0,0))
structure Upd (b:Nat) (w w':World):Prop where
 os:w'.os = w.os
 tape:w'.tape = w.tape
 output:w'.output = w.output
 size:w.heap.size≤w'.heap.size
 block:∀ k,k < w.heap.size→k ≠ b→w'.heap[k]? = w.heap[k]?
theorem lt_of_some {w:World} {k:Nat} {o:Obj} (h:w.heap[k]? = some o):k < w.heap.size:=by
 rcases Nat.lt_or_ge k w.heap.size with h1 | h1
 ·exact h1
 ·rw [Array.getElem?_eq_none h1] at h; cases h
theorem BigAt.slot {w:World} {b:Nat} {n:Int} (h:BigAt w b n):Slot w b:=⟨_,_,h.choose_spec.1⟩
theorem BigAt.lt {w:World} {b:Nat} {n:Int} (h:BigAt w b n):b < w.heap.size:=lt_of_some h.choose_spec.1
theorem Slot.lt {w:World} {b:Nat} (h:Slot w b):b < w.heap.size:=by obtain ⟨x,y,h⟩:=h; exact lt_of_some h
theorem Sl.below {B:Nat} {w w':World} {s:Value} {l:List Nat} (h:Sl w s l) (hb:Below B w w') (hB:w.heap.size≤B):Sl w' s l:=by
 refine ⟨h.small,?_⟩
 rcases h.shape with h1 | ⟨g,cap,C,h1,h2,h3,h4⟩
 ·exact Or.inl h1
 ·exact Or.inr ⟨g,cap,C,h1,h2,by rw [hb.block g (Nat.lt_of_lt_of_le (lt_of_some h3) hB)]; exact h3,h4⟩
theorem NS.below {B:Nat} {w w':World} {s:Value} {n:Nat} (h:NS w s n) (hb:Below B w w') (hB:w.heap.size≤B):NS w' s n:=by
 obtain ⟨l,h1,h2⟩:=h; exact ⟨l,h1.below hb hB,h2⟩
theorem BigAt.below {B:Nat} {w w':World} {b:Nat} {n:Int} (h:BigAt w b n) (hb:Below B w w') (hB:w.heap.size≤B):BigAt w' b n:=by
 obtain ⟨s,h1,h2⟩:=h
 exact ⟨s,by rw [hb.block b (Nat.lt_of_lt_of_le (lt_of_some h1) hB)]; exact h1,h2.below hb hB⟩
theorem Slot.below {B:Nat} {w w':World} {b:Nat} (h:Slot w b) (hb:Below B w w') (hB:w.heap.size≤B):Slot w' b:=by
 obtain ⟨x,y,h1⟩:=h
 exact ⟨x,y,by rw [hb.block b (Nat.lt_of_lt_of_le (lt_of_some h1) hB)]; exact h1⟩
theorem Upd.of_below {b:Nat} {w w':World} (h:Below w.heap.size w w'):Upd b w w':=⟨h.os,h.tape,h.output,h.size,fun k hk _=>h.block k hk⟩
theorem Upd.below {b B:Nat} {w w':World} (h:Upd b w w') (h1:B≤w.heap.size) (h2:B≤b):Below B w w' :=
 ⟨h.os,h.tape,h.output,h.size,fun k hk=>h.block k (by omega) (by omega)⟩
theorem Upd.trans {b:Nat} {x y z:World} (h:Upd b x y) (k:Upd b y z):Upd b x z :=
 ⟨k.os.trans h.os,k.tape.trans h.tape,k.output.trans h.output,Nat.le_trans h.size k.size,fun i hi hn=>(k.block i (Nat.lt_of_lt_of_le hi h.size) hn).trans (h.block i hi hn)⟩
theorem Upd.refl (b:Nat) (w:World):Upd b w w:=⟨rfl,rfl,rfl,Nat.le_refl _,fun _ _ _=>rfl⟩
theorem Upd.drew {b:Nat} {x y:World} (h:Upd b x y):Upd b x y.drew:=⟨h.os,h.tape,h.output,h.size,h.block⟩
theorem Upd.setCell {b o:Nat} {x y:World} (h:Upd b x y) (u:Value):Upd b x (y.setCell ⟨b,o,none⟩ u) :=
 h.trans ⟨rfl,rfl,rfl,by simp [World.setCell],fun k hk hn=>Below.heap_setCell _ _ _ _ hn⟩
theorem Sl.upd {b:Nat} {w w':World} {s:Value} {l:List Nat} (h:Sl w s l) (hu:Upd b w w') (hs:Slot w b):Sl w' s l:=by
 refine ⟨h.small,?_⟩
 rcases h.shape with h1 | ⟨g,cap,C,h1,h2,h3,h4⟩
 ·exact Or.inl h1
 ·refine Or.inr ⟨g,cap,C,h1,h2,?_,h4⟩
  rw [hu.block g (lt_of_some h3) ?_]; exact h3
  intro e; subst e; obtain ⟨x,y,h5⟩:=hs; rw [h3] at h5; simp at h5
theorem NS.upd {b:Nat} {w w':World} {s:Value} {n:Nat} (h:NS w s n) (hu:Upd b w w') (hs:Slot w b):NS w' s n:=by
 obtain ⟨l,h1,h2⟩:=h; exact ⟨l,h1.upd hu hs,h2⟩
theorem BigAt.upd {b c:Nat} {w w':World} {n:Int} (h:BigAt w c n) (hu:Upd b w w') (hs:Slot w b) (hne:c ≠ b):BigAt w' c n:=by
 obtain ⟨s,h1,h2⟩:=h
 exact ⟨s,by rw [hu.block c (lt_of_some h1) hne]; exact h1,h2.upd hu hs⟩
theorem Slot.upd {b c:Nat} {w w':World} (h:Slot w c) (hu:Upd b w w') (hne:c ≠ b):Slot w' c:=by
 obtain ⟨x,y,h1⟩:=h
 exact ⟨x,y,by rw [hu.block c (lt_of_some h1) hne]; exact h1⟩
theorem Sl.nonnil {w:World} {s:Value} {l:List Nat} (h:Sl w s l) (hl:l ≠ []):∃ g cap,s = .slice (some ⟨g,0,none⟩) l.length cap∧l.length≤cap∧g < w.heap.size∧∀ i,i < l.length→w.cell? ⟨g,i,none⟩ = some (.int .u32 (l.getD i 0:Int)):=by
 rcases h.shape with h1 | ⟨g,cap,C,h1,h2,h3,h4⟩
 ·exact absurd h1.1 hl
 ·refine ⟨g,cap,h1,h2,lt_of_some h3,fun i hi=>?_⟩
  simp only [World.cell?,h3]; exact h4 i hi
theorem cell_new_at (x:World) (C:Array Value) (t:TypeId) (z i:Nat) (hz:x.heap.size = z):(x.alloc (.cells C t)).cell? ⟨z,i,none⟩ = C[i]?:=by
 have h:(x.alloc (.cells C t)).heap[z]? = some (.cells C t):=by subst hz; show (x.heap.push _)[x.heap.size]? = _; simp
 simp only [World.cell?,h]; rfl
theorem frozen_new_at (x:World) (C:Array Value) (t:TypeId) (z i:Nat) (hz:x.heap.size = z):(x.alloc (.cells C t)).frozen? ⟨z,i,none⟩ = false:=by
 have h:(x.alloc (.cells C t)).heap[z]? = some (.cells C t):=by subst hz; show (x.heap.push _)[x.heap.size]? = _; simp
 simp only [World.frozen?,h]; simp
theorem cell_old_at (x:World) (o:Obj) (p:Addr) (h:p.block < x.heap.size):(x.alloc o).cell? p = x.cell? p:=((Below.refl x.heap.size x).alloc (Nat.le_refl _) o).cell h
theorem frozen_old_at (x:World) (o:Obj) (p:Addr) (h:p.block < x.heap.size):(x.alloc o).frozen? p = x.frozen? p:=((Below.refl x.heap.size x).alloc (Nat.le_refl _) o).frozen h
end
section
set_option maxRecDepth 100000
open Go.RowKit
structure KP (S:Nat→Prop) (W W':World):Prop where
 size:W.heap.size≤W'.heap.size
 block:∀ k,S k→k < W.heap.size→W'.heap[k]? = W.heap[k]?
theorem KP.refl (S:Nat→Prop) (W:World):KP S W W:=⟨Nat.le_refl _,fun _ _ _=>rfl⟩
theorem KP.trans {S:Nat→Prop} {x y z:World} (h:KP S x y) (k:KP S y z):KP S x z :=
 ⟨Nat.le_trans h.size k.size,fun i h1 h2=>(k.block i h1 (Nat.lt_of_lt_of_le h2 h.size)).trans (h.block i h1 h2)⟩
theorem KP.setCell {S:Nat→Prop} {x y:World} (h:KP S x y) {p:Addr} (hp:¬ S p.block) (u:Value):KP S x (y.setCell p u) :=
 h.trans ⟨by simp [World.setCell],fun k h1 h2=>Below.heap_setCell _ _ _ _ (fun e=>hp (by rw [← e]; exact h1))⟩
theorem KP.below {S:Nat→Prop} {x y z:World} (h:KP S x y) (k:Below y.heap.size y z):KP S x z:=h.trans ⟨k.size,fun i _ h2=>k.block i h2⟩
theorem grownBy_more {W W':World} (h:W.grownBy W' none) (o:Option Nat):W.grownBy W' o :=
 ⟨h.os,h.tape,h.output,h.size,fun k hk _=>h.block k hk (by simp)⟩
def AbO (J:Option Nat→List Int→World→Prop):Prop :=
 ∀ o s W W' o',J o s W→W.grownBy W' o→(o' = o∨∃ g,o' = some g∧W.heap.size≤g)→J o' s W'
theorem AbO.alloc {J:Option Nat→List Int→World→Prop} (h:AbO J) {o:Option Nat} {s:List Int} {W:World} (ob:Obj) (hs:J o s W):J o s (W.alloc ob) :=
 h o s W _ o hs (grownBy_more (World.grownBy_alloc W ob none) o) (.inl rfl)
def YieldsO (F:Fence) (n:Nat) (P:Program) (g:Nat) (xs:List Int):Prop :=
 ∀ (l:Nat) (J Jx:Option Nat→List Int→World→Prop) (W:World),AbO J →
  (∀ o pre x W1,J o pre W1→(∀ g,o = some g→W.heap.size≤g∧g < W1.heap.size)→W.heap.size≤W1.heap.size→pre ++ [x] <+: xs→YieldAt F (n - 1) P l #[.int .i64 x] W1 fun e W' =>
   (e = .returned (.bool true)∧J o (pre ++ [x]) W'∧W1.heap.size≤W'.heap.size∧∀ g,o = some g→W'.heap[g]? = W1.heap[g]?)∨(e = .returned (.bool false)∧Jx o (pre ++ [x]) W')) →
  (∀ o W1,J o xs W1→False)→J none [] W →
  CallsIn F n P g #[.func (.yield l) #[] #[]] W fun e W'=>(∃ v,e = .returned v)∧∃ o pre,Jx o pre W'
def keptO (B:Nat) (o:Option Nat) (k:Nat):Prop:=k = B∨k = B + 1∨o = some k
def bodyPostO (B:Nat) (I:Option Nat→List Int→World→Prop) (Ix:Code→Option Nat→List Int→World→Prop) (o:Option Nat) (xs:List Int) (W:World):Exit→Act→World→Prop
 | .normal,_,W'=>KP (keptO B o) W W'∧I o xs W'
 | .ret,_,W'=>KP (keptO B o) W W'∧Ix .ret o xs W'
 | .exit id,_,W'=>KP (keptO B o) W W'∧Ix (.exit id) o xs W'
 | .goto t,_,W'=>KP (keptO B o) W W'∧Ix (.goto t) o xs W'
 | .panic _,_,_=>False
 | .outgrown,_,_=>False
variable {F:Fence} {n:Nat} {P:Program}
theorem wpIn_rangeO {g:Operand} {ps:Array Tmp} {assign body:Code} {Q:Exit→Act→World→Prop} {a:Act} {w:World}
  (hro:F.round = none) (h1:1≤n) {gf:Nat} (hg:a.eval g = .func (.func gf) #[] #[]) (hFg:F.fn gf) (eg:∀ args w,(callFunc gf args).run P w = .ok (.enter gf args) w)
  {xs:List Int} (hseq:YieldsO F (n - 1) P gf xs) (hps:1 = ps.size)
  (I:Option Nat→List Int→World→Prop) (Ix:Code→Option Nat→List Int→World→Prop) (hI:AbO I) (hIp:∀ o s W ob,I o s W→I o s (W.putObj (w.heap.size + 1) ob)) (hIxp:∀ c o s W ob,Ix c o s W→Ix c o s (W.putObj (w.heap.size + 1) ob)) (h0:I none [] w) (a₁:Int→Act)
  (hassign:∀ (l:Nat) (x:Int) (W:World) (K:Act→World→Prop),K (a₁ x) W →
   assign.wpIn (F.inRound l) (n - 1 - 1) P (Exit.then K (fun _ _ _=>False)) { tmps:=(ps.zip #[.int .i64 x]).foldl (fun t (p,v)=>t.setIfInBounds p v) a.tmps,defers:=[] } W)
  (hbody:∀ (l:Nat) (o:Option Nat) (pre:List Int) (x:Int) (W:World),I o pre W→(∀ g,o = some g→w.heap.size + 2≤g∧g < W.heap.size)→pre ++ [x] <+: xs→w.heap.size + 2≤W.heap.size→body.wpIn (F.inRound l) (n - 1 - 1) P (bodyPostO w.heap.size I Ix o (pre ++ [x]) W) (a₁ x) W)
  (hend:∀ o W,I o xs W→False)
  (hstop:∀ (c:Code) (o:Option Nat) (pre:List Int) (W:World),Ix c o pre W→W.heap[w.heap.size]? = some (.deferred (some []))→c.wpIn F n P Q { a with defers:={ target:=.collected w.heap.size,args:=#[] } :: a.defers } W) :
  (Code.rangeFunc g ps assign body).wpIn F n P Q a w:=by
 refine wpIn_rangeFunc ?_
 intro fn hfn
 rw [hro]
 obtain ⟨L,hL⟩:∃ L:LoopState→Option Code→Obj,L = fun st pe=>.loop { state:=st,pending:=pe,fn,tmps:=a.tmps,params:=ps,assign,body,defers:=w.heap.size }:=⟨_,rfl⟩
 obtain ⟨W1,hW1⟩:∃ W1,W1 = (w.alloc (.deferred (some []))).alloc (L .ready none):=⟨_,rfl⟩
 have z1:W1.heap.size = w.heap.size + 2:=by rw [hW1]; simp
 have dW:∀ (X:World) (l:Nat) (o:Obj),X.heap[l]? = some o→l < X.heap.size:=fun X l o h=>(Array.getElem?_eq_some_iff.1 h).1
 have hR1:W1.heap[w.heap.size + 1]? = some (L .ready none):=by
  rw [hW1]; have:=World.alloc_heap_new (w.alloc (.deferred (some []))) (L .ready none); rwa [World.size_alloc] at this
 have hD1:W1.heap[w.heap.size]? = some (.deferred (some [])):=by
  rw [hW1]; exact (Below.heap_alloc _ _ _ (by simp)).trans (World.alloc_heap_new w _)
 refine ⟨w.heap.size + 1,[{ target:=.collected w.heap.size,args:=#[] }],W1,{ target:=.fn (.func gf) #[],args:=#[.func (.yield (w.heap.size + 1)) #[] #[]] },W1,gf,
  #[.func (.yield (w.heap.size + 1)) #[] #[]],W1,?_,?_,?_,?_,fun _=>h1,?_⟩
 ·rw [hW1,hL]; exact run_enterLoop_outer _ _ _ _ _
 ·simp only [resolve,hg]
  simp [go_sem]
 ·intro f' hf'; simp [Target.leads] at hf'; subst hf'; exact hFg
 ·simp [invoke,go_sem,eg]
 ·refine (hseq (w.heap.size + 1)
   (fun o pre W=>(∀ g,o = some g→w.heap.size + 2≤g)∧I o pre W∧W.heap[w.heap.size + 1]? = some (L .ready none)∧W.heap[w.heap.size]? = some (.deferred (some [])))
   (fun o pre W=>∃ c,Ix c o pre W∧W.heap[w.heap.size + 1]? = some (L .done (some c))∧W.heap[w.heap.size]? = some (.deferred (some [])))
   W1 ?_ ?_ (fun o W h=>hend o W h.2.1) ⟨(by intro g e; cases e),?_,hR1,hD1⟩).mono ?_
  ·rintro o s A B o' ⟨ho,hs,hl,hk⟩ hg' ho'
   have hA:=dW _ _ _ hl
   refine ⟨?_,hI o s A B o' hs hg' ho',?_,?_⟩
   ·rintro g' e
    rcases ho' with h | ⟨g2,h,h2⟩
    ·exact ho g' (h ▸ e)
    ·rw [h] at e; cases e; omega
   ·exact (hg'.block _ hA (fun e=>by have:=ho _ e.symm; omega)).trans hl
   ·exact (hg'.block _ (dW _ _ _ hk) (fun e=>by have:=ho _ e.symm; omega)).trans hk
  ·rintro o pre x W ⟨ho,hi,hl,hk⟩ hol hsz hpre
   have hlt:=dW _ _ _ hl
   have hl':=hl
   rw [hL] at hl'
   have hy:=run_yield (P:=P) (args:=#[.int .i64 x]) hl' hps
   refine ⟨fn,_,assign,body,hy,roundIn_of_wpIn hfn (hassign _ x W _ ⟨_,run_beginRound hl' rfl,?_⟩)⟩
   obtain ⟨Wb,hWb⟩:∃ Wb,Wb = W.putObj (w.heap.size + 1) (L .busy none):=⟨_,rfl⟩
   have hl2:Wb.heap[w.heap.size + 1]? = some (L .busy none):=by rw [hWb]; exact World.putObj_heap_same hlt
   have hk2:Wb.heap[w.heap.size]? = some (.deferred (some [])):=by rw [hWb]; exact (World.putObj_heap_other (by omega)).trans hk
   have hi2:I o pre Wb:=by rw [hWb]; exact hIp _ _ _ _ hi
   have zb:Wb.heap.size = W.heap.size:=by rw [hWb]; simp
   have kb:∀ g,o = some g→Wb.heap[g]? = W.heap[g]?:=fun g e=>by rw [hWb]; exact World.putObj_heap_other (by have:=ho g e; omega)
   have fin:∀ (jump:Option Code) (W3:World),KP (keptO w.heap.size o) Wb W3 →
     (Instr.endRound (w.heap.size + 1) jump).run P W3 = .ok (.bool jump.isNone) (W3.putObj (w.heap.size + 1) (L (if jump.isNone then .ready else .done) jump)) ∧
     (W3.putObj (w.heap.size + 1) (L (if jump.isNone then .ready else .done) jump)).heap[w.heap.size + 1]? = some (L (if jump.isNone then .ready else .done) jump) ∧
     (W3.putObj (w.heap.size + 1) (L (if jump.isNone then .ready else .done) jump)).heap[w.heap.size]? = some (.deferred (some [])) ∧
     W.heap.size≤(W3.putObj (w.heap.size + 1) (L (if jump.isNone then .ready else .done) jump)).heap.size ∧
     (∀ g,o = some g→(W3.putObj (w.heap.size + 1) (L (if jump.isNone then .ready else .done) jump)).heap[g]? = W.heap[g]?):=fun jump W3 h3=>by
    have hl3:W3.heap[w.heap.size + 1]? = some (L .busy none):=(h3.block _ (.inr (.inl rfl)) (by omega)).trans hl2
    have hk3:W3.heap[w.heap.size]? = some (.deferred (some [])):=(h3.block _ (.inl rfl) (by omega)).trans hk2
    have hl4:=hl3
    rw [hL] at hl4
    have he:=run_endRound (P:=P) jump hl4
    refine ⟨by rw [hL]; exact he,World.putObj_heap_same (dW _ _ _ hl3),(World.putObj_heap_other (by omega)).trans hk3,?_,?_⟩
    ·have:=h3.size; simp; omega
    ·intro g e
     have h5:=ho g e
     have h6:=(hol g e).2
     exact (World.putObj_heap_other (by omega)).trans ((h3.block g (.inr (.inr e)) (by omega)).trans (kb g e))
   have hb:=hbody (w.heap.size + 1) o pre x Wb hi2 (fun g e=>⟨ho g e,by rw [zb]; exact (hol g e).2⟩) hpre (by omega)
   have hb2:body.wpIn (F.inRound (w.heap.size + 1)) (n - 1 - 1) P (bodyPostO w.heap.size I Ix o (pre ++ [x]) Wb) (a₁ x) (W.putObj (w.heap.size + 1) (L .busy none)):=by rw [← hWb]; exact hb
   rw [hL] at hb2
   refine wpIn_mono hb2 ?_
   rintro e a3 W3 hp
   cases e with
   | normal =>
    obtain ⟨h3,hi3⟩:=hp
    obtain ⟨hr,hl4,hk4,kk⟩:=fin none W3 h3
    exact ⟨_,_,hr,.inl ⟨rfl,⟨ho,hIp _ _ _ _ hi3,hl4,hk4⟩,kk⟩⟩
   | ret =>
    obtain ⟨h3,hi3⟩:=hp
    obtain ⟨hr,hl4,hk4,kk⟩:=fin (some .ret) W3 h3
    exact ⟨_,_,hr,.inr ⟨rfl,.ret,hIxp _ _ _ _ _ hi3,hl4,hk4⟩⟩
   | exit id =>
    obtain ⟨h3,hi3⟩:=hp
    obtain ⟨hr,hl4,hk4,kk⟩:=fin (some (.exit id)) W3 h3
    exact ⟨_,_,hr,.inr ⟨rfl,.exit id,hIxp _ _ _ _ _ hi3,hl4,hk4⟩⟩
   | goto t =>
    obtain ⟨h3,hi3⟩:=hp
    obtain ⟨hr,hl4,hk4,kk⟩:=fin (some (.goto t)) W3 h3
    exact ⟨_,_,hr,.inr ⟨rfl,.goto t,hIxp _ _ _ _ _ hi3,hl4,hk4⟩⟩
   | panic ch=>exact hp.elim
   | outgrown=>exact hp.elim
  ·rw [hW1]; exact hI.alloc _ (hI.alloc _ h0)
  ·rintro e W2 ⟨⟨v,rfl⟩,o,pre,c,hi,hl,hk⟩
   have hl':=hl
   rw [hL] at hl'
   exact ⟨some c,_,run_endLoop (P:=P) hl' (by simp),hstop c o pre _ (hIxp _ _ _ _ _ hi) ((World.putObj_heap_other (by omega)).trans hk)⟩
structure Vr (b:Nat) (v:Value) (W:World):Prop where
 c:W.cell? ⟨b,0,none⟩ = some v
 f:W.frozen? ⟨b,0,none⟩ = false
theorem Vr.lt {b:Nat} {v:Value} {W:World} (h:Vr b v W):b < W.heap.size:=by
 rcases Nat.lt_or_ge b W.heap.size with k | k
 ·exact k
 ·have h1:=h.c
  simp only [World.cell?,Array.getElem?_eq_none k] at h1; cases h1
theorem Vr.grown {b:Nat} {v:Value} {W W':World} {row:Option Nat} (h:Vr b v W) (hg:W.grownBy W' row) (hr:row ≠ some b):Vr b v W' :=
 ⟨hg.cell h.c (fun e=>hr e.symm),by rw [World.frozen?_of_block (w:=W) (a:=⟨b,0,none⟩) (hg.block b h.lt (fun e=>hr e.symm))]; exact h.f⟩
theorem Vr.set {b:Nat} {v:Value} {W:World} (h:Vr b v W) (u:Value):Vr b u (W.setCell ⟨b,0,none⟩ u) :=
 ⟨World.cell?_setCell_same' _ _ _ (by rw [h.c]; rfl),by rw [World.frozen?_setCell]; exact h.f⟩
theorem Vr.put {b l:Nat} {v:Value} {W:World} (h:Vr b v W) (ob:Obj) (hl:b ≠ l):Vr b v (W.putObj l ob) :=
 h.grown (grownBy_putObj' W l ob) (fun e=>hl (by cases e; rfl))
theorem Vr.below {b:Nat} {v:Value} {W W':World} (h:Vr b v W) (k:Below W.heap.size W W'):Vr b v W' :=
 ⟨(k.cell (p:=⟨b,0,none⟩) h.lt).trans h.c,by rw [World.frozen?_of_block (w:=W) (a:=⟨b,0,none⟩) (k.block b h.lt)]; exact h.f⟩
def ow (B:Nat) (o:Option Nat) (W:World):Prop:=B≤W.heap.size∧∀ g,o = some g→B≤g
theorem ow.step {B:Nat} {o o':Option Nat} {W W':World} (h:ow B o W) (hg:W.grownBy W' o) (ho:o' = o∨∃ g,o' = some g∧W.heap.size≤g):ow B o' W':=by
 refine ⟨Nat.le_trans h.1 hg.size,?_⟩
 intro g e
 rcases ho with h1 | ⟨g2,h1,h2⟩
 ·exact h.2 g (h1 ▸ e)
 ·rw [h1] at e; cases e; exact Nat.le_trans h.1 h2
theorem ow.ne {B b:Nat} {o:Option Nat} {W:World} (h:ow B o W) (hb:b < B):o ≠ some b:=fun e=>by have:=h.2 b e; omega
theorem ow.put {B l:Nat} {o:Option Nat} {W:World} (h:ow B o W) (ob:Obj):ow B o (W.putObj l ob):=⟨by simpa using h.1,h.2⟩
theorem ow.size {B:Nat} {o:Option Nat} {W W':World} (h:ow B o W) (hs:W.heap.size≤W'.heap.size):ow B o W':=⟨Nat.le_trans h.1 hs,h.2⟩
end
end Go.Proofs.YtnkjadpmigpneaaGreatDoor
