import Derived.Test.YtnkjadpmigpneaaGreatDoorJsJ
set_option linter.unusedSimpArgs false
set_option linter.unusedVariables false
set_option maxRecDepth 100000
namespace Go.Proofs.YtnkjadpmigpneaaGreatDoor
namespace BN
def um (T:Nat→Int) (x:Int):Nat→Nat→Int
 | 0,i=>T i
 | n + 1,i=>um T x n (i + 1) + x * um T x n i
theorem um_is (T:Nat→Int) (x:Int):∀ n i,um T x n i = sm (fun j=>(ch n j:Int) * T (i + j) * x ^ (n - j)) (n + 1)
 | 0,i=>by simp [um,sm,ch_zero]
 | n + 1,i=>by
  show um T x n (i + 1) + x * um T x n i = _
  rw [um_is T x n i,um_is T x n (i + 1)]
  rw [sm_first (fun j=>(ch (n + 1) j:Int) * T (i + j) * x ^ (n + 1 - j)) (n + 1)]
  have e1:sm (fun j=>(ch (n + 1) (j + 1):Int) * T (i + (j + 1)) * x ^ (n + 1 - (j + 1))) (n + 1) = sm (fun j=>(ch n j:Int) * T (i + 1 + j) * x ^ (n - j) + (ch n (j + 1):Int) * T (i + (j + 1)) * x ^ (n - j)) (n + 1):=by
   refine sm_congr _ fun j _=>?_
   rw [ch_succ,show i + (j + 1) = i + 1 + j by omega,show n + 1 - (j + 1) = n - j by omega]
   have:((ch n j + ch n (j + 1):Nat):Int) = (ch n j:Int) + (ch n (j + 1):Int):=by omega
   rw [this,Int.add_mul,Int.add_mul]
  rw [e1,sm_add]
  have e2:sm (fun j=>(ch n (j + 1):Int) * T (i + (j + 1)) * x ^ (n - j)) (n + 1) = sm (fun j=>(ch n (j + 1):Int) * T (i + (j + 1)) * x ^ (n - j)) n:=by
   rw [sm_succ,ch_over n (n + 1) (by omega)]; simp
  have e3:x * sm (fun j=>(ch n j:Int) * T (i + j) * x ^ (n - j)) (n + 1) = sm (fun j=>(ch n j:Int) * T (i + j) * x ^ (n + 1 - j)) (n + 1):=by
   rw [← sm_mul]
   refine sm_congr _ fun j hj=>?_
   rw [show n + 1 - j = (n - j) + 1 by omega,Int.pow_succ]
   grind
  rw [e2,e3,sm_first (fun j=>(ch n j:Int) * T (i + j) * x ^ (n + 1 - j)) n,ch_zero,ch_zero]
  have e4:sm (fun j=>(ch n (j + 1):Int) * T (i + (j + 1)) * x ^ (n + 1 - (j + 1))) n = sm (fun j=>(ch n (j + 1):Int) * T (i + (j + 1)) * x ^ (n - j)) n:=sm_congr _ fun j hj=>by rw [show n + 1 - (j + 1) = n - j by omega]
  rw [e4]
  simp only [Nat.add_zero,Nat.sub_zero]
  omega
def um2 (T:Nat→Int) (x:Int):Nat→Nat→Nat→Int
 | 0,a,i=>un T a i
 | n + 1,a,i=>um2 T x n (a + 1) i + x * um2 T x n a i
theorem um2_a (T:Nat→Int) (x:Int):∀ n a i,um2 T x n (a + 1) i = um2 T x n a i + um2 T x n a (i + 1)
 | 0,a,i=>rfl
 | n + 1,a,i=>by
  show um2 T x n (a + 1 + 1) i + x * um2 T x n (a + 1) i = (um2 T x n (a + 1) i + x * um2 T x n a i) + (um2 T x n (a + 1) (i + 1) + x * um2 T x n a (i + 1))
  rw [um2_a T x n (a + 1) i,um2_a T x n a i]
  grind
theorem um2_left (T:Nat→Int) (x:Int):∀ n a,um2 T x n a 0 = um (fun a=>un T a 0) x n a
 | 0,a=>rfl
 | n + 1,a=>by
  show um2 T x n (a + 1) 0 + x * um2 T x n a 0 = um _ x n (a + 1) + x * um _ x n a
  rw [um2_left T x n (a + 1),um2_left T x n a]
theorem um2_right (T:Nat→Int) (x:Int):∀ n i,um2 T x n 0 i = um T (x + 1) n i
 | 0,i=>rfl
 | n + 1,i=>by
  show um2 T x n 1 i + x * um2 T x n 0 i = um T (x + 1) n (i + 1) + (x + 1) * um T (x + 1) n i
  rw [um2_a T x n 0 i,um2_right T x n i,um2_right T x n (i + 1)]
  grind
theorem um_shift (T:Nat→Int) (x:Int) (n:Nat):um (fun a=>un T a 0) x n 0 = um T (x + 1) n 0:=by
 rw [← um2_left,um2_right]
theorem bt_one (T:Nat→Int) (D:Nat) (hT0:T 0 = (D:Int)):un T 1 0 = T 1 + D:=by
 show T 0 + T 1 = _
 rw [hT0]; omega
theorem um_step (T:Nat→Int) (D:Nat) (hT:∀ n,2≤n→n≤201→un T n 0 = T n) (hT0:T 0 = (D:Int)) (N:Nat) (h1:1≤N) (h2:N≤201) (x:Int):um T (x + 1) N 0 = um T x N 0 + (N:Int) * D * x ^ (N - 1):=by
 rw [← um_shift,um_is,um_is]
 have e:sm (fun j=>(ch N j:Int) * un T (0 + j) 0 * x ^ (N - j)) (N + 1) = sm (fun j=>(ch N j:Int) * T (0 + j) * x ^ (N - j) + (if j = 1 then (N:Int) * D * x ^ (N - 1) else 0)) (N + 1):=by
  refine sm_congr _ fun j hj=>?_
  simp only [Nat.zero_add]
  rcases Nat.lt_trichotomy j 1 with h | h | h
  ·obtain rfl:j = 0:=by omega
   rw [if_neg (by omega)]
   show _ * (T 0) * _ = _
   rw [Int.add_zero]
  ·subst h
   have:ch N 1 = N:=by
    have:ch N 0 * (N - 0) = ch N 1 * (0 + 1):=ch_step N 0 (by omega)
    rw [ch_zero] at this
    omega
   rw [if_pos rfl,bt_one T D hT0,this]
   grind
  ·rw [if_neg (by omega),hT j (by omega) (by omega)]
   grind
 rw [e,sm_add]
 congr 1
 have f:∀ m,1≤m→sm (fun j=>if j = 1 then (N:Int) * D * x ^ (N - 1) else 0) (m + 1) = (N:Int) * D * x ^ (N - 1):=by
  intro m hm
  induction m with
  | zero=>omega
  | succ m ih =>
   rw [sm_succ]
   by_cases h:m = 0
   ·subst h
    simp [sm]
   ·rw [ih (by omega),if_neg (by omega)]; omega
 exact f N h1
def fp (T:Nat→Int) (k j:Nat):Int:=if j = 1∧1≤k then -((ch (k + 1) j:Int) * T j) else (ch (k + 1) j:Int) * T j
theorem um_sum (T:Nat→Int) (D:Nat) (hT:∀ n,2≤n→n≤201→un T n 0 = T n) (hT0:T 0 = (D:Int)) (k:Nat) (hk:k≤200):∀ n:Nat,um T (n:Int) (k + 1) 0 + (if k = 0 then 0 else ((k:Int) + 1) * D * (n:Int) ^ k) = T (k + 1) + ((k:Int) + 1) * D * (pk k n:Int)
 | 0=>by
  have e:um T ((0:Nat):Int) (k + 1) 0 = T (k + 1):=by
   rw [um_is,sm_succ,ch_all]
   have:sm (fun j=>(ch (k + 1) j:Int) * T (0 + j) * ((0:Nat):Int) ^ (k + 1 - j)) (k + 1) = 0:=by
    have:∀ m,m≤k + 1→sm (fun j=>(ch (k + 1) j:Int) * T (0 + j) * ((0:Nat):Int) ^ (k + 1 - j)) m = 0:=by
     intro m hm
     induction m with
     | zero=>rfl
     | succ m ih =>
      rw [sm_succ,ih (by omega),show k + 1 - m = (k - m) + 1 by omega]
      simp [Int.pow_succ]
    exact this _ (Nat.le_refl _)
   rw [this]; simp
  rw [e]
  show _ = T (k + 1) + ((k:Int) + 1) * D * ((0:Nat):Int)
  by_cases h:k = 0
  ·simp [h]
  ·rw [if_neg h]
   obtain ⟨m,rfl⟩:∃ m,k = m + 1:=⟨k - 1,by omega⟩
   simp [Int.pow_succ]
 | n + 1=>by
  have h:=um_sum T D hT hT0 k hk n
  have s:=um_step T D hT hT0 (k + 1) (by omega) (by omega) (n:Int)
  simp only [Nat.add_sub_cancel] at s
  have e:((n + 1:Nat):Int) = (n:Int) + 1:=by omega
  have p:((pk k (n + 1):Nat):Int) = (pk k n:Int) + ((n:Int) + 1) ^ k:=by
   show ((pk k n + (n + 1) ^ k:Nat):Int) = _
   rw [Int.natCast_add,Int.natCast_pow,e]
  rw [e,s,p]
  have c:((k + 1:Nat):Int) = (k:Int) + 1:=by omega
  rw [c]
  by_cases h0:k = 0
  ·subst h0
   simp at h ⊢
   grind
  ·rw [if_neg h0] at h ⊢
   grind
theorem faul_of (T:Nat→Int) (D:Nat) (hT:∀ n,2≤n→n≤201→un T n 0 = T n) (hT0:T 0 = (D:Int)) (hT1:2 * T 1 = -(D:Int)) (k n:Nat) (hk:k≤200):sm (fun j=>fp T k j * (n:Int) ^ (k + 1 - j)) (k + 1) = ((k:Int) + 1) * D * (pk k n:Int):=by
 have h:=um_sum T D hT hT0 k hk n
 rw [um_is,sm_succ,ch_all] at h
 simp only [Nat.zero_add,Nat.sub_self] at h
 by_cases h0:k = 0
 ·subst h0
  simp [sm,fp,ch_zero] at h ⊢
  omega
 ·rw [if_neg h0] at h
  have e:sm (fun j=>fp T k j * (n:Int) ^ (k + 1 - j)) (k + 1) = sm (fun j=>(ch (k + 1) j:Int) * T j * (n:Int) ^ (k + 1 - j) + (if j = 1 then ((k:Int) + 1) * D * (n:Int) ^ k else 0)) (k + 1):=by
   refine sm_congr _ fun j hj=>?_
   unfold fp
   by_cases hj1:j = 1
   ·subst hj1
    rw [if_pos ⟨rfl,by omega⟩,if_pos rfl,show k + 1 - 1 = k by omega]
    have c:ch (k + 1) 1 = k + 1:=by
     have:ch (k + 1) 0 * (k + 1 - 0) = ch (k + 1) 1 * (0 + 1):=ch_step (k + 1) 0 (by omega)
     rw [ch_zero] at this
     omega
    have b:=hT1
    rw [c,show ((k + 1:Nat):Int) = (k:Int) + 1 by omega]
    generalize (n:Int) ^ k = y
    generalize (k:Int) + 1 = z
    grind
   ·rw [if_neg (by omega),if_neg hj1]; omega
  have f:∀ m,1≤m→sm (fun j=>if j = 1 then ((k:Int) + 1) * D * (n:Int) ^ k else 0) (m + 1) = ((k:Int) + 1) * D * (n:Int) ^ k:=by
   intro m hm
   induction m with
   | zero=>omega
   | succ m ih =>
    rw [sm_succ]
    by_cases h:m = 0
    ·subst h
     simp [sm]
    ·rw [ih (by omega),if_neg (by omega)]; omega
  rw [e,sm_add,f k (by omega)]
  simp at h
  omega
theorem tab_one:2 * bt 1 = -(dN:Int):=by decide +kernel
theorem faulhaber (k n:Nat) (hk:k≤200):sm (fun j=>fp bt k j * (n:Int) ^ (k + 1 - j)) (k + 1) = ((k:Int) + 1) * (dN:Int) * (pk k n:Int) :=
 faul_of bt dN (fun n h1 h2=>tab_un n h1 h2) tab_zero tab_one k n hk
def isp (n:Nat):Bool:=decide (2≤n) && (List.range n).all fun d=>decide (d < 2) || n % d != 0
theorem isp_iff (n:Nat):isp n = true ↔ 2≤n∧∀ d,d ∣ n→d = 1∨d = n:=by
 unfold isp
 simp only [Bool.and_eq_true,decide_eq_true_eq,List.all_eq_true,List.mem_range,Bool.or_eq_true,bne_iff_ne]
 refine ⟨fun ⟨h1,h2⟩=>⟨h1,fun d hd=>?_⟩,fun ⟨h1,h2⟩=>⟨h1,fun d hd=>?_⟩⟩
 ·have hle:=Nat.le_of_dvd (by omega) hd
  have hp:=Nat.pos_of_dvd_of_pos hd (by omega)
  by_cases e:d = n
  ·exact .inr e
  ·rcases h2 d (by omega) with h | h
   ·exact .inl (by omega)
   ·exact absurd (Nat.mod_eq_zero_of_dvd hd) h
 ·by_cases e:d < 2
  ·exact .inl e
  ·refine .inr fun h=>?_
   rcases h2 d (Nat.dvd_of_mod_eq_zero h) with h | h <;> omega
def prm:Nat→Nat
 | 0=>1
 | n + 1=>if isp (n + 1) then prm n * (n + 1) else prm n
theorem prm_dvd:∀ c n,prm n ∣ prm (n + c)
 | 0,n=>Nat.dvd_refl _
 | c + 1,n=>by
  refine Nat.dvd_trans (prm_dvd c n) ?_
  show _ ∣ if isp (n + c + 1) then prm (n + c) * (n + c + 1) else prm (n + c)
  split
  ·exact Nat.dvd_mul_right _ _
  ·exact Nat.dvd_refl _
theorem prm_pos:∀ n,0 < prm n
 | 0=>by decide
 | n + 1=>by
  show 0 < if isp (n + 1) then prm n * (n + 1) else prm n
  have:=prm_pos n
  split
  ·exact Nat.mul_pos this (by omega)
  ·exact this
theorem prm_le {a b:Nat} (h:a≤b):prm a≤prm b:=by
 obtain ⟨c,rfl⟩:∃ c,b = a + c:=⟨b - a,by omega⟩
 exact Nat.le_of_dvd (prm_pos _) (prm_dvd c a)
set_option maxRecDepth 1000000 in
theorem prm_top:prm 201≤dN:=by decide +kernel
theorem prm_chk (n:Nat) (h:n < 202):prm n≤dN:=Nat.le_trans (prm_le (by omega)) prm_top
noncomputable def chkB:Nat→Nat→Nat→Bool
 | 0,_,_=>true
 | f + 1,j,p=>and (decide (bt j * (p:Int) % (dN:Int) = 0)) (frc (if isp (j + 2) then p * (j + 2) else p) fun q=>chkB f (j + 1) q)
theorem chkB_ok:∀ f j,chkB f j (prm (j + 1)) = true→∀ i,j≤i→i < j + f→bt i * (prm (i + 1):Int) % (dN:Int) = 0
 | 0,j,_,i,h1,h2=>by omega
 | f + 1,j,h,i,h1,h2=>by
  unfold chkB at h
  rw [Bool.and_eq_true,frc_eq,decide_eq_true_eq] at h
  by_cases e:i = j
  ·subst e; exact h.1
  ·exact chkB_ok f (j + 1) h.2 i (by omega) (by omega)
set_option maxRecDepth 1000000 in
theorem chkB_all:chkB 201 0 1 = true:=by decide +kernel
theorem bt_chk (j:Nat) (h:j < 201):bt j * (prm (j + 1):Int) % (dN:Int) = 0:=chkB_ok 201 0 chkB_all j (by omega) (by omega)
theorem dN_p:(0:Int) < (dN:Int):=by decide +kernel
def bz (n j:Nat):Int:=bt j * (prm (n + 1):Int) / (dN:Int)
theorem bz_mul {n j:Nat} (hj:j≤n) (hn:n≤200):bz n j * dN = bt j * (prm (n + 1):Int):=by
 unfold bz
 refine Int.ediv_mul_cancel ?_
 obtain ⟨c,hc⟩:=prm_dvd (n - j) (j + 1)
 rw [show j + 1 + (n - j) = n + 1 by omega] at hc
 have h:=Int.dvd_of_emod_eq_zero (bt_chk j (by omega))
 rw [hc,Int.natCast_mul,← Int.mul_assoc]
 exact Int.dvd_trans h (Int.dvd_mul_right _ _)
theorem bz_zero (n:Nat) (hn:n≤200):bz n 0 = (prm (n + 1):Int):=by
 have h:=bz_mul (n:=n) (j:=0) (Nat.zero_le _) hn
 rw [tab_zero,Int.mul_comm (dN:Int)] at h
 exact Int.eq_of_mul_eq_mul_right (by have:=dN_p; omega) h
theorem bz_size {n j:Nat} (hj:j≤n) (hn:n≤200):(bz n j).natAbs≤(bt j).natAbs:=by
 have h:=congrArg Int.natAbs (bz_mul hj hn)
 rw [Int.natAbs_mul,Int.natAbs_mul,Int.natAbs_natCast,Int.natAbs_natCast] at h
 have h2:(bt j).natAbs * prm (n + 1)≤(bt j).natAbs * dN:=Nat.mul_le_mul_left _ (prm_chk _ (by omega))
 have:=dN_p
 exact Nat.le_of_mul_le_mul_right (by rw [h]; exact h2) (show 0 < dN by omega)
theorem sm_mulr (c:Int) (f:Nat→Int) (j:Nat):sm (fun i=>f i * c) j = sm f j * c:=by
 have:=sm_mul c f j
 rw [Int.mul_comm (sm f j),← this]
 exact sm_congr _ fun i _=>Int.mul_comm _ _
theorem bz_rec {n m:Nat} (h1:1≤m) (h2:m≤n) (hn:n≤200):sm (fun j=>(ch (m + 1) j:Int) * bz n j) m = -(((m:Int) + 1) * bz n m):=by
 have h:=tab_rec m h1 (by omega)
 have hd:=dN_p
 refine Int.eq_of_mul_eq_mul_right (show (dN:Int) ≠ 0 by omega) ?_
 rw [← sm_mulr]
 have e:sm (fun j=>(ch (m + 1) j:Int) * bz n j * dN) m = sm (fun j=>(ch (m + 1) j:Int) * bt j * (prm (n + 1):Int)) m:=by
  refine sm_congr _ fun j hj=>?_
  rw [Int.mul_assoc,bz_mul (by omega) hn,← Int.mul_assoc]
 rw [e,sm_mulr,h,Int.neg_mul,Int.neg_mul,Int.mul_assoc,Int.mul_assoc,bz_mul h2 hn]
def fq (k j:Nat):Int:=if j = 1∧1≤k then -((ch (k + 1) j:Int) * bz k j) else (ch (k + 1) j:Int) * bz k j
theorem fq_mul {k j:Nat} (hj:j≤k) (hk:k≤200):fq k j * dN = fp bt k j * (prm (k + 1):Int):=by
 have h:=bz_mul hj hk
 unfold fq fp
 generalize bz k j = x at *
 generalize bt j = y at *
 generalize ((dN:Nat):Int) = d at *
 generalize (prm (k + 1):Int) = p at *
 generalize (ch (k + 1) j:Int) = c at *
 split <;> grind
theorem faul (k n:Nat) (hk:k≤200):sm (fun j=>fq k j * (n:Int) ^ (k + 1 - j)) (k + 1) = ((k:Int) + 1) * (prm (k + 1):Int) * (pk k n:Int):=by
 have hd:=dN_p
 refine Int.eq_of_mul_eq_mul_right (show (dN:Int) ≠ 0 by omega) ?_
 rw [← sm_mulr]
 have e:sm (fun j=>fq k j * (n:Int) ^ (k + 1 - j) * dN) (k + 1) = sm (fun j=>fp bt k j * (n:Int) ^ (k + 1 - j) * (prm (k + 1):Int)) (k + 1):=by
  refine sm_congr _ fun j hj=>?_
  have h:=fq_mul (k:=k) (j:=j) (by omega) hk
  clear hd
  generalize fq k j = x at *
  generalize fp bt k j = y at *
  generalize ((dN:Nat):Int) = d at *
  generalize (prm (k + 1):Int) = p at *
  generalize (n:Int) ^ (k + 1 - j) = z at *
  grind
 rw [e,sm_mulr,faulhaber k n hk]
 clear e hd
 generalize ((dN:Nat):Int) = d at *
 generalize (prm (k + 1):Int) = p at *
 generalize (pk k n:Int) = z at *
 grind
def cf (k i:Nat):Int:=if i = 0 then 0 else fq k (k + 1 - i)
def hz (C:Nat→Int) (x:Int) (L:Nat):Nat→Int
 | 0=>0
 | t + 1=>hz C x L t * x + C (L - 1 - t)
theorem hz_is (C:Nat→Int) (x:Int) (L:Nat):∀ t,hz C x L (t + 1) = sm (fun j=>C (L - 1 - j) * x ^ (t - j)) (t + 1)
 | 0=>by simp [hz,sm]
 | t + 1=>by
  show hz C x L (t + 1) * x + C (L - 1 - (t + 1)) = _
  rw [hz_is C x L t,sm_succ _ (t + 1),← sm_mulr]
  simp only [Nat.sub_self,Int.pow_zero,Int.mul_one]
  congr 1
  refine sm_congr _ fun j hj=>?_
  rw [show t + 1 - j = (t - j) + 1 by omega,Int.pow_succ,Int.mul_assoc]
theorem hz_faul (k n:Nat) (hk:k≤200):hz (cf k) (n:Int) (k + 2) (k + 2) = ((k:Int) + 1) * (prm (k + 1):Int) * (pk k n:Int):=by
 show hz (cf k) (n:Int) (k + 2) (k + 1) * (n:Int) + cf k (k + 2 - 1 - (k + 1)) = _
 rw [← faul k n hk,hz_is,← sm_mulr]
 have e0:cf k (k + 2 - 1 - (k + 1)) = 0:=by rw [show k + 2 - 1 - (k + 1) = 0 by omega]; rfl
 rw [e0,Int.add_zero]
 refine sm_congr _ fun j hj=>?_
 have e:cf k (k + 2 - 1 - j) = fq k j:=by
  unfold cf
  rw [if_neg (by omega),show k + 1 - (k + 2 - 1 - j) = j by omega]
 rw [e,show k + 1 - j = (k - j) + 1 by omega,Int.pow_succ,Int.mul_assoc]
end BN
end Go.Proofs.YtnkjadpmigpneaaGreatDoor
