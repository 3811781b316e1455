import Derived.Test.YtnkjadpmigpneaaGreatDoorJsT
import Derived.Test.YtnkjadpmigpneaaGreatDoorJsS
import Derived.Test.YtnkjadpmigpneaaGreatDoorJsA
import Derived.Test.YtnkjadpmigpneaaGreatDoorJsR
import Derived.Test.YtnkjadpmigpneaaGreatDoorJsX
import Derived.Test.YtnkjadpmigpneaaGreatDoorJsY
import Derived.Deep.LoopGhost
import Derived.Test.YtnkjadpmigpneaaGreatDoorJsC
import Derived.Test.YtnkjadpmigpneaaGreatDoorJsK
import Derived.Test.YtnkjadpmigpneaaGreatDoorLgK
set_option linter.unusedSimpArgs false
set_option linter.unusedVariables false
namespace Go.Proofs.YtnkjadpmigpneaaGreatDoor
section
set_option maxRecDepth 100000
open Go.RowKit LgM
theorem rd_snoc (l:List UInt8) (c:UInt8):rd 0 (l ++ [c]) = rd 0 l * 10 + (c.toNat - 48):=by simp [rd]
theorem rd_take (l:List UInt8) (i:Nat) (h:i < l.length):rd 0 (l.take (i + 1)) = rd 0 (l.take i) * 10 + (l[i].toNat - 48):=by
 rw [List.take_succ_eq_append_getElem h,rd_snoc]
theorem rd_le (l:List UInt8) (hd:∀ c ∈ l,48≤c.toNat∧c.toNat≤57):rd 0 l < 10 ^ l.length:=by
 obtain ⟨n,hn⟩:∃ n,n = l.length:=⟨_,rfl⟩
 induction n generalizing l with
 | zero=>have:l = []:=List.eq_nil_of_length_eq_zero hn.symm; subst this; simp [rd]
 | succ n ih =>
  have hne:l ≠ []:=by intro h; subst h; simp at hn
  have hs:=(List.dropLast_concat_getLast hne).symm
  have h1:=ih l.dropLast (fun c hc=>hd c (List.dropLast_subset l hc)) (by simp; omega)
  have h2:=hd _ (List.getLast_mem hne)
  rw [List.length_dropLast,← hn,Nat.add_sub_cancel] at h1
  rw [← hn,hs,rd_snoc,Nat.pow_succ]
  omega
theorem ten_pw (i:Nat):10 ^ i≤pw i:=by
 induction i with
 | zero=>decide
 | succ i ih=>rw [Nat.pow_succ,Nat.mul_comm,show pw (i + 1) = 4294967296 * pw i from rfl]; exact Nat.mul_le_mul (by omega) ih
theorem rd_pw (l:List UInt8) (i:Nat) (hd:∀ c ∈ l,48≤c.toNat∧c.toNat≤57) (h:i≤l.length):rd 0 (l.take i) < pw i:=by
 have:=rd_le (l.take i) (fun c hc=>hd c (List.mem_of_mem_take hc))
 rw [List.length_take,Nat.min_eq_left h] at this
 exact Nat.lt_of_lt_of_le this (ten_pw i)
def dgi (l:List UInt8) (i:Nat):Nat:=(l.getD i 0).toNat
theorem str_at (l:List UInt8) (i:Nat) (h:i < (⟨l.toArray⟩:ByteArray).size):(((⟨l.toArray⟩:ByteArray)[i]'h).toNat:Int) = (dgi l i:Int):=by
 have h2:i < l.length:=by simpa [ByteArray.size] using h
 have e:(⟨l.toArray⟩:ByteArray)[i]'h = l[i]:=rfl
 rw [e]; simp [dgi,List.getD_eq_getElem?_getD,h2]
theorem dgi_bd {l:List UInt8} (hd:∀ c ∈ l,48≤c.toNat∧c.toNat≤57) (i:Nat) (h:i < l.length):48≤dgi l i∧dgi l i≤57:=by
 have:=hd l[i] (List.getElem_mem h)
 simpa [dgi,List.getD_eq_getElem?_getD,h] using this
theorem rd_dgi (l:List UInt8) (i:Nat) (h:i < l.length):rd 0 (l.take (i + 1)) = rd 0 (l.take i) * 10 + (dgi l i - 48):=by
 rw [rd_take l i h]; simp [dgi,List.getD_eq_getElem?_getD,h]
set_option maxHeartbeats 4000000 in
theorem SetString_dec (bz:Nat) (l:List UInt8) (w:World) (hz:Slot w bz) (hd:∀ c ∈ l,48≤c.toNat∧c.toNat≤57) (h1:1≤l.length) (h2:l.length≤20000) :
  Calls Tryz.prog 54 #[.pointer (some ⟨bz,0,none⟩),.string ⟨l.toArray⟩,.int .i64 10] w fun e w'=>e = .returned (.tuple #[.pointer (some ⟨bz,0,none⟩),.bool true])∧BigAt w' bz (rd 0 l:Int)∧Upd bz w w':=by
 obtain ⟨s,hs⟩:∃ s:ByteArray,s = ⟨l.toArray⟩:=⟨_,rfl⟩
 obtain ⟨N,hN⟩:∃ N,N = l.length:=⟨_,rfl⟩
 have hsz:s.size = N:=by rw [hs,hN]; simp [ByteArray.size]
 have hx:∀ (i:Nat) (h:i < s.size),((s[i]'h).toNat:Int) = (dgi l i:Int):=fun i h=>by
  subst hs; exact str_at l i h
 have h0:=dgi_bd hd 0 (by omega)
 have x0:((dgi l 0:Int) == 45) = false:=beq_eq_false_iff_ne.2 (by omega)
 have x1:((dgi l 0:Int) == 43) = false:=beq_eq_false_iff_ne.2 (by omega)
 have HZ:Hid (Slot w bz):=hz
 have HD:Hid (∀ x ∈ l,48≤x.toNat∧x.toNat≤57):=hd
 have hN1:1≤N:=by omega
 have hN2:N≤20000:=by omega
 have HN:Hid (N = l.length):=hN
 rw [← hs]
 clear hz hd h1 h2 hN hs
 have y1:((N:Int) == 0) = false:=beq_eq_false_iff_ne.2 (by omega)
 go_enter Tryz.func54,Tryz.ntmps54
 go_wp2_with fail
 go_loopw [9,10] (fun rv iv wx=>∃ i:Nat,i≤N∧iv = .int .i64 (i:Int)∧Hid (NS wx rv (rd 0 (l.take i))∧Below w.heap.size w wx)) (fun _ iv _=>N - (intOf iv).toNat)
 case atStart=>exact ⟨0,by omega,by go_num,by simpa [rd] using NS.nil w,Below.refl _ _⟩
 case round =>
  obtain ⟨i,hi,hiv,HR⟩:=hrel
  subst hiv
  obtain ⟨ra,rl,rc,hrv,_⟩:=HR.out.1.shape
  subst hrv
  by_cases hin:i = N
  ·subst hin
   have HE:Hid (NS wr (.slice ra rl rc) (rd 0 l)):=by have:=HR.out.1; rwa [HN.out,List.take_length] at this
   have HK:Hid (Below w.heap.size w wr):=HR.out.2
   clear HR
   go_wp2_with fail
   refine (give_any bz false _ (rd 0 l) _ (HZ.out.below HK.out (Nat.le_refl _)) HE.out).mono ?_
   rintro e w2 ⟨rfl,h2,u2⟩
   have HO:Hid (BigAt w2 bz (rd 0 l:Int)∧Upd bz w w2):=⟨h2,Upd.then_below HK.out u2⟩
   clear h2 u2
   go_wp2
   exact bodyPost_ret (v:=.tuple #[.pointer (some ⟨bz,0,none⟩),.bool true]) (by simp [results,Tryz.results54,go_sem]) rfl ⟨rfl,HO.out.1,HO.out.2⟩
  ·have hiN:i < N:=by omega
   have hdb:=dgi_bd HD.out i (by have:=HN.out; omega)
   have HRD:Hid (rd 0 (l.take (i + 1)) = rd 0 (l.take i) * 10 + (dgi l i - 48)):=rd_dgi l i (by have:=HN.out; omega)
   have HB:Hid (rd 0 (l.take i) < pw i):=rd_pw l i HD.out (by have:=HN.out; omega)
   obtain ⟨d,hd⟩:∃ d,d = dgi l i - 48:=⟨_,rfl⟩
   have hxi:∀ (h:i < s.size),((s[i]'h).toNat:Int) = ((d + 48:Nat):Int):=fun h=>by rw [hx i h]; congr 1; omega
   rw [← hd] at HRD
   have hd9:d≤9:=by omega
   have HRB:Hid (NS wr (.slice ra rl rc) (rd 0 (l.take i))∧Below w.heap.size w wr):=HR.out
   clear hx hd hdb h0 x0 x1 HR
   have c1:(48:Int)≤((d + 48:Nat):Int):=by omega
   have c2:((d + 48:Nat):Int)≤57:=by omega
   have c3:IntKind.u8.wrap (((d + 48:Nat):Int) - 48) = (d:Int):=by rw [IntKind.wrap_u8]; omega
   have c4:¬ (10:Int)≤(d:Int):=by omega
   have c5:IntKind.u64.wrap (d:Int) = (d:Int):=by rw [IntKind.wrap_u64]; omega
   generalize hD48:d + 48 = D48 at *
   go_wp2_with fail
   refine (words_any 10 (by omega) wr).mono ?_
   rintro e w2 ⟨s2,rfl,n2,k2⟩
   obtain ⟨a2,l2,p2,rfl,_⟩:=n2.shape
   have HN2:Hid (NS w2 (.slice a2 l2 p2) 10):=n2
   have HR2:Hid (NS w2 (.slice ra rl rc) (rd 0 (l.take i))):=HRB.out.1.below k2 (Nat.le_refl _)
   have HK2:Hid (Below w.heap.size w w2):=HRB.out.2.trans (k2.mono HRB.out.2.size)
   clear n2 k2 HRB
   go_wp2_with fail
   refine (mul_any _ _ _ _ i 1 w2 HR2.out HN2.out HB.out (by decide) (by omega) (by omega)).mono ?_
   rintro e w3 ⟨s3,rfl,n3,k3⟩
   obtain ⟨a3,l3,p3,rfl,_⟩:=n3.shape
   have HR3:Hid (NS w3 (.slice a3 l3 p3) (rd 0 (l.take i) * 10)):=n3
   have HK3:Hid (Below w.heap.size w w3):=HK2.out.trans (k3.mono HK2.out.size)
   have HB3:Hid (rd 0 (l.take i) * 10 < pw (i + 1)):=by
    have:=HB.out
    rw [show pw (i + 1) = 4294967296 * pw i from rfl]
    show _ < _
    omega
   clear n3 k3 HR2 HN2 HK2 HB
   go_wp2_with fail
   refine (words_any d (by omega) w3).mono ?_
   rintro e w4 ⟨s4,rfl,n4,k4⟩
   obtain ⟨a4,l4,p4,rfl,_⟩:=n4.shape
   have HN4:Hid (NS w4 (.slice a4 l4 p4) d):=n4
   have HR4:Hid (NS w4 (.slice a3 l3 p3) (rd 0 (l.take i) * 10)):=HR3.out.below k4 (Nat.le_refl _)
   have HK4:Hid (Below w.heap.size w w4):=HK3.out.trans (k4.mono HK3.out.size)
   clear n4 k4 HR3 HK3
   go_wp2_with fail
   refine (add_any _ _ _ _ (i + 1) 1 w4 HR4.out HN4.out HB3.out (by rw [show pw 1 = 4294967296 from rfl]; omega) (by omega) (by omega)).mono ?_
   rintro e w5 ⟨s5,rfl,n5,k5⟩
   obtain ⟨a5,l5,p5,rfl,_⟩:=n5.shape
   have HR5:Hid (NS w5 (.slice a5 l5 p5) (rd 0 (l.take (i + 1)))):=by rw [HRD.out]; exact n5
   have HK5:Hid (Below w.heap.size w w5):=HK4.out.trans (k5.mono HK4.out.size)
   clear n5 k5 HR4 HN4 HK4
   go_wp2
   go_roundw
   case rel=>exact ⟨i + 1,by omega,by go_num,HR5.out,HK5.out⟩
   case measure=>simp [intOf]; omega
end
section
set_option maxRecDepth 100000
open Go.RowKit LgM
theorem loop_ne (s:ByteArray) (k i:Nat) (r:List UInt8) (hk:s.size - i = k) (h:r ≠ []):ByteArray.toList.loop s i r ≠ []:=by
 induction k generalizing i r with
 | zero=>unfold ByteArray.toList.loop; rw [if_neg (by omega)]; simpa using h
 | succ k ih=>unfold ByteArray.toList.loop; rw [if_pos (by omega)]; exact ih (i + 1) _ (by omega) (by simp)
theorem str_ne (s:ByteArray) (h:0 < s.size):¬ s.toList = []:=by
 unfold ByteArray.toList ByteArray.toList.loop
 rw [if_pos h]
 exact loop_ne s _ _ _ rfl (by simp)
end
section
set_option maxRecDepth 100000
open Go.RowKit LgM
set_option maxHeartbeats 4000000 in
theorem Digits_any (l:List UInt8) (n:Nat) (w:World) (hd:∀ c ∈ l,48≤c.toNat∧c.toNat≤57) (hh:1 < l.length→49≤dgi l 0) (h1:1≤l.length) (h2:l.length≤20000) (hn:rd 0 l = n) :
  Calls Tryz.prog 27 #[.string ⟨l.toArray⟩] w fun e w'=>∃ b,e = .returned (.tuple #[.pointer (some ⟨b,0,none⟩),.bool true])∧w.heap.size≤b∧BigAt w' b (n:Int)∧Below w.heap.size w w':=by
 obtain ⟨s,hs⟩:∃ s:ByteArray,s = ⟨l.toArray⟩:=⟨_,rfl⟩
 obtain ⟨N,hN⟩:∃ N,N = l.length:=⟨_,rfl⟩
 have hsz:s.size = N:=by rw [hs,hN]; simp [ByteArray.size]
 have hx:∀ (i:Nat) (h:i < s.size),((s[i]'h).toNat:Int) = (dgi l i:Int):=fun i h=>by
  subst hs; exact str_at l i h
 have hse:¬ s.toList = []:=str_ne s (by omega)
 have hse2:s.toList.isEmpty = false:=by simpa using hse
 have h0:=dgi_bd hd 0 (by omega)
 have HH:Hid (1 < l.length→49≤dgi l 0):=hh
 have HD:Hid (∀ x ∈ l,48≤x.toNat∧x.toNat≤57):=hd
 have HX:Hid (∀ (i:Nat) (h:i < s.size),((s[i]'h).toNat:Int) = (dgi l i:Int)):=hx
 have hN1:1≤N:=by omega
 have hN2:N≤20000:=by omega
 have HN:Hid (N = l.length):=hN
 have HS:Hid (s = ⟨l.toArray⟩):=hs
 have Hn:Hid (rd 0 l = n):=hn
 have hx0:∀ (h:0 < s.size),((s[0]'h).toNat:Int) = (dgi l 0:Int):=hx 0
 rw [← hs]
 clear hd h1 h2 hN hs hn hx hh h0
 have y1:((N:Int) == 0) = false:=beq_eq_false_iff_ne.2 (by omega)
 have z2:¬ (20000:Int) < (N:Int):=by omega
 have hN7:(N = 1∧True)∨((1:Int) < (N:Int)∧((dgi l 0:Int) == 48) = false):=by
  by_cases h:N = 1
  ·exact .inl ⟨h,trivial⟩
  ·have h5:=HH.out (by have:=HN.out; omega)
   exact .inr ⟨by omega,beq_eq_false_iff_ne.2 (by omega)⟩
 clear HH
 rcases hN7 with ⟨hN7,x0⟩ | ⟨hN7,x0⟩
 all_goals
  go_enter Tryz.func27,Tryz.ntmps27
  go_wp2_with fail
  go_loopw [4] (fun iv wx=>∃ i:Nat,i≤N∧iv = .int .i64 (i:Int)∧wx = w) (fun iv _=>N - (intOf iv).toNat)
  case atStart=>exact ⟨0,by omega,by go_num,rfl⟩
  case round =>
   obtain ⟨i,hi,hiv,hwx⟩:=hrel
   subst hiv hwx
   by_cases hin:i = N
   ·have ht:¬ (i:Int) < (N:Int):=by omega
    clear hse hse2 x0 hx0 y1 z2
    go_wp2_with fail
    have K0:=(Below.refl wr.heap.size wr).alloc (Nat.le_refl _) (.cells #[.bool false,.slice none 0 0] 37)
    have S0:=slot_new wr (.bool false) (.slice none 0 0)
    have hc:=SetString_dec wr.heap.size l _ S0 HD.out (by have:=HN.out; omega) (by have:=HN.out; omega)
    rw [← HS.out] at hc
    refine hc.mono ?_
    rintro e w2 ⟨rfl,h2,u2⟩
    have HO:Hid (BigAt w2 wr.heap.size (n:Int)∧Below wr.heap.size wr w2):=⟨by rw [← Hn.out]; exact h2,K0.trans (u2.below (by simp) (Nat.le_refl _))⟩
    clear h2 u2 K0 S0 hc
    go_wp2
    exact bodyPost_ret (v:=.tuple #[.pointer (some ⟨wr.heap.size,0,none⟩),.bool true]) (by simp [results,Tryz.results27,go_sem]) rfl ⟨_,rfl,Nat.le_refl _,HO.out.1,HO.out.2⟩
   ·have hiN:i < N:=by omega
    have hdb:=dgi_bd HD.out i (by have:=HN.out; omega)
    have hxi:∀ (h:i < s.size),((s[i]'h).toNat:Int) = (dgi l i:Int):=HX.out i
    have q1:¬ (dgi l i:Int) < 48:=by omega
    have q2:¬ (57:Int) < (dgi l i:Int):=by omega
    generalize dgi l i = D at *
    clear hx0 x0 hdb hse hse2 y1 z2
    go_wp2
    go_roundw
    case rel=>exact ⟨i + 1,by omega,by go_num,trivial⟩
    case measure=>simp [intOf]; omega
theorem Digits_nat (x m:Nat) (w:World) (h:x < pw m) (hm:1≤m) (hm':m≤2000) :
  Calls Tryz.prog 27 #[.string ⟨(Lib.decDigits x).toArray⟩] w fun e w'=>∃ b,e = .returned (.tuple #[.pointer (some ⟨b,0,none⟩),.bool true])∧w.heap.size≤b∧BigAt w' b (x:Int)∧Below w.heap.size w w':=by
 have h2:=dec_pw h hm
 refine Digits_any _ x w (dec_digit x) (fun h1=>?_) (dec_pos x) (by omega) (rd_dec x)
 have h0:0 < x:=by
  rcases Nat.eq_zero_or_pos x with e | e
  ·subst e; rw [dec_lt (by decide)] at h1; simp at h1
  ·exact e
 obtain ⟨c,r,e,hc⟩:=dec_head x h0
 unfold dgi
 rw [e]
 exact hc
end
section
set_option maxRecDepth 100000
open Go.RowKit LgM
theorem dec_first {x:Nat} (h:0 < x):49≤dgi (Lib.decDigits x) 0:=by
 obtain ⟨c,r,e,hc⟩:=dec_head x h
 unfold dgi
 rw [e]
 exact hc
theorem ext_tail (l:List UInt8) (i:Nat) (h:i≤l.length):(⟨l.toArray⟩:ByteArray).extract i l.length = ⟨(l.drop i).toArray⟩:=by
 rw [ByteArray.extract_mk,List.take_of_length_le (by simp)]
theorem ext_head (l:List UInt8) (i:Nat):(⟨l.toArray⟩:ByteArray).extract 0 i = ⟨(l.take i).toArray⟩:=by
 rw [ByteArray.extract_mk]; simp
set_option maxHeartbeats 2000000 in
theorem Signed_any (x:Int) (m:Nat) (w:World) (hx:x.natAbs < pw m) (hm:1≤m) (hm':m≤1900) :
  Calls Tryz.prog 38 #[.string ⟨(decZ x).toArray⟩] w fun e w'=>∃ b,e = .returned (.tuple #[.pointer (some ⟨b,0,none⟩),.bool true])∧w.heap.size≤b∧BigAt w' b x∧Below w.heap.size w w':=by
 by_cases h0:x < 0
 ·obtain ⟨n,hn⟩:∃ n,n = x.natAbs:=⟨_,rfl⟩
  have HX:Hid (x = -(n:Int)):=by show _ = _; omega
  have hn0:0 < n:=by omega
  have HM:Hid (n < pw m):=by rw [hn]; exact hx
  rw [decZ_neg h0,← hn]
  clear hn h0 hx
  obtain ⟨s,hs⟩:∃ s:ByteArray,s = ⟨(45 :: Lib.decDigits n).toArray⟩:=⟨_,rfl⟩
  obtain ⟨N,hN⟩:∃ N,N = (Lib.decDigits n).length:=⟨_,rfl⟩
  have hN1:=dec_pos n
  rw [← hN] at hN1
  have hsz:s.size = N + 1:=by rw [hs,hN]; simp [ByteArray.size]
  have x0:∀ (h:0 < s.size),((s[0]'h).toNat:Int) = 45:=fun h=>by subst hs; rfl
  have hd:=dec_first hn0
  have x1:∀ (h:1 < s.size),((s[1]'h).toNat:Int) = (dgi (Lib.decDigits n) 0:Int):=fun h=>by
   subst hs
   have e:=str_at (45 :: Lib.decDigits n) 1 h
   rw [e]; rfl
  obtain ⟨d,hdd⟩:∃ d,d = dgi (Lib.decDigits n) 0:=⟨_,rfl⟩
  rw [← hdd] at hd x1
  have q1:((d:Int) == 48) = false:=beq_eq_false_iff_ne.2 (by omega)
  obtain ⟨S',hS'⟩:∃ S':ByteArray,S' = ⟨(Lib.decDigits n).toArray⟩:=⟨_,rfl⟩
  have he:s.extract 1 (N + 1) = S':=by
   rw [hs,hS',show N + 1 = (45 :: Lib.decDigits n).length by rw [hN]; rfl,ext_tail _ _ (by simp)]; rfl
  have HD:Hid (Calls Tryz.prog 27 #[.string S'] w fun e w'=>∃ b,e = .returned (.tuple #[.pointer (some ⟨b,0,none⟩),.bool true])∧w.heap.size≤b∧BigAt w' b (n:Int)∧Below w.heap.size w w'):=by
   rw [hS']; exact Digits_nat n m w HM.out hm (by omega)
  rw [← hs]
  clear hs hN hdd hS' hd
  have y1:(1:Int) < ((N + 1:Nat):Int):=by omega
  go_enter Tryz.func38,Tryz.ntmps38
  go_wp2_with fail
  refine HD.out.mono ?_
  rintro e w1 ⟨b,rfl,hb,i1,k1⟩
  have H1:Hid (w.heap.size≤b∧BigAt w1 b (n:Int)∧Below w.heap.size w w1):=⟨hb,i1,k1⟩
  clear hb i1 k1 HD
  go_wp2_with fail
  refine (Neg_any b b (n:Int) m w1 H1.out.2.1.slot H1.out.2.1 (by rw [Int.natAbs_natCast]; exact HM.out) (by omega)).mono ?_
  rintro e w2 ⟨rfl,i2,u2⟩
  rw [← HX.out] at i2
  have H2:Hid (w.heap.size≤b∧BigAt w2 b x∧Below w.heap.size w w2):=⟨H1.out.1,i2,H1.out.2.2.trans (u2.below H1.out.2.2.size H1.out.1)⟩
  clear i2 u2 H1
  go_wp2
  exact bodyPost_ret (v:=.tuple #[.pointer (some ⟨b,0,none⟩),.bool true]) (by simp [results,Tryz.results38,go_sem]) rfl ⟨_,rfl,H2.out.1,H2.out.2.1,H2.out.2.2⟩
 ·obtain ⟨n,rfl⟩:∃ n:Nat,x = (n:Int):=⟨x.toNat,by omega⟩
  have HM:Hid (n < pw m):=by show _ < _; omega
  rw [decZ_nat]
  clear h0 hx
  obtain ⟨s,hs⟩:∃ s:ByteArray,s = ⟨(Lib.decDigits n).toArray⟩:=⟨_,rfl⟩
  obtain ⟨N,hN⟩:∃ N,N = (Lib.decDigits n).length:=⟨_,rfl⟩
  have hN1:=dec_pos n
  have hd:=dgi_bd (dec_digit n) 0 (by omega)
  rw [← hN] at hN1
  have hsz:s.size = N:=by rw [hs,hN]; simp [ByteArray.size]
  have x0:∀ (h:0 < s.size),((s[0]'h).toNat:Int) = (dgi (Lib.decDigits n) 0:Int):=fun h=>by subst hs; exact str_at _ 0 h
  obtain ⟨d,hdd⟩:∃ d,d = dgi (Lib.decDigits n) 0:=⟨_,rfl⟩
  rw [← hdd] at hd x0
  have q1:((d:Int) == 45) = false:=beq_eq_false_iff_ne.2 (by omega)
  have HD:Hid (Calls Tryz.prog 27 #[.string s] w fun e w'=>∃ b,e = .returned (.tuple #[.pointer (some ⟨b,0,none⟩),.bool true])∧w.heap.size≤b∧BigAt w' b (n:Int)∧Below w.heap.size w w'):=by
   rw [hs]; exact Digits_nat n m w HM.out hm (by omega)
  rw [← hs]
  clear hs hN hdd hd HM
  have hN7:N = 1∨(1:Int) < (N:Int):=by omega
  rcases hN7 with hN7 | hN7
  all_goals
   go_enter Tryz.func38,Tryz.ntmps38
   go_wp2_with fail
   refine HD.out.mono ?_
   rintro e w1 ⟨b,rfl,hb,i1,k1⟩
   have H1:Hid (w.heap.size≤b∧BigAt w1 b (n:Int)∧Below w.heap.size w w1):=⟨hb,i1,k1⟩
   clear hb i1 k1 HD
   go_wp2
   exact bodyPost_ret (v:=.tuple #[.pointer (some ⟨b,0,none⟩),.bool true]) (by simp [results,Tryz.results38,go_sem]) rfl ⟨_,rfl,H1.out.1,H1.out.2.1,H1.out.2.2⟩
end
section
set_option maxRecDepth 100000
open Go.RowKit LgM
theorem decZ_char (x:Int) (i:Nat) (h:i < (decZ x).length):dgi (decZ x) i ≠ 47:=by
 by_cases h0:x < 0
 ·rw [decZ_neg h0] at h ⊢
  cases i with
  | zero=>show (45:UInt8).toNat ≠ 47; decide
  | succ i =>
   have:=dgi_bd (dec_digit x.natAbs) i (by simpa using h)
   show dgi (Lib.decDigits x.natAbs) i ≠ 47
   omega
 ·rw [decZ_pos h0] at h ⊢
  have:=dgi_bd (dec_digit x.natAbs) i h
  omega
theorem dgi_left (a b:List UInt8) (i:Nat) (h:i < a.length):dgi (a ++ b) i = dgi a i:=by
 unfold dgi; rw [List.getD_eq_getElem?_getD,List.getD_eq_getElem?_getD,List.getElem?_append_left h]
theorem dgi_mid (a b:List UInt8) (c:UInt8):dgi (a ++ c :: b) a.length = c.toNat:=by
 unfold dgi; simp
set_option maxHeartbeats 4000000 in
theorem Fraction_whole (P:Int) (m:Nat) (w:World) (hp:P.natAbs < pw m) (hm:1≤m) (hm':m≤900) :
  Calls Tryz.prog 10 #[.string ⟨(decZ P).toArray⟩] w fun e w'=>∃ b,e = .returned (.tuple #[.pointer (some ⟨b,0,none⟩),.bool true])∧w.heap.size≤b∧Rt w' b P 1∧Below w.heap.size w w':=by
 obtain ⟨s,hs⟩:∃ s:ByteArray,s = ⟨(decZ P).toArray⟩:=⟨_,rfl⟩
 obtain ⟨N,hN⟩:∃ N,N = (decZ P).length:=⟨_,rfl⟩
 have hsz:s.size = N:=by rw [hs,hN]; simp [ByteArray.size]
 have HX:Hid (∀ (i:Nat) (h:i < s.size),((s[i]'h).toNat:Int) = (dgi (decZ P) i:Int)):=fun i h=>by subst hs; exact str_at _ i h
 have HN:Hid (N = (decZ P).length):=hN
 have hN2:N≤10 * m + 1:=by rw [hN]; exact decZ_len hp hm
 have hD:=Signed_any P m w hp hm (by omega)
 rw [← hs] at hD
 have HD:Hid (Calls Tryz.prog 38 #[.string s] w fun e w'=>∃ b,e = .returned (.tuple #[.pointer (some ⟨b,0,none⟩),.bool true])∧w.heap.size≤b∧BigAt w' b P∧Below w.heap.size w w'):=hD
 have HP:Hid (P.natAbs < pw m):=hp
 rw [← hs]
 clear hD hs hN hp
 go_enter Tryz.func10,Tryz.ntmps10
 go_wp2_with fail
 go_loopw [4] (fun iv wx=>∃ i:Nat,i≤N∧iv = .int .i64 (i:Int)∧wx = w) (fun iv _=>N - (intOf iv).toNat)
 case atStart=>exact ⟨0,by omega,by go_num,rfl⟩
 case round =>
  obtain ⟨i,hi,hiv,hwx⟩:=hrel
  subst hiv hwx
  by_cases hin:i = N
  ·have ht:¬ (i:Int) < (N:Int):=by omega
   clear HX HN
   go_wp2_with fail
   refine HD.out.mono ?_
   rintro e w1 ⟨b,rfl,hb,i1,k1⟩
   have H1:Hid (wr.heap.size≤b∧BigAt w1 b P∧Below wr.heap.size wr w1):=⟨hb,i1,k1⟩
   clear hb i1 k1 HD
   go_wp2_with fail
   have S0:Hid (RSlot (w1.alloc (.cells #[.bool false,.slice none 0 0,.bool false,.slice none 0 0] 39)) w1.heap.size∧BigAt (w1.alloc (.cells #[.bool false,.slice none 0 0,.bool false,.slice none 0 0] 39)) b P∧Below wr.heap.size wr (w1.alloc (.cells #[.bool false,.slice none 0 0,.bool false,.slice none 0 0] 39))):=⟨RSlot.new _ _ _ _ _,H1.out.2.1.below (Below.alloc_self _ _) (Nat.le_refl _),H1.out.2.2.alloc H1.out.2.2.size _⟩
   have zz:=H1.out.2.2.size
   clear H1
   refine (SetInt_any w1.heap.size b 0 P m _ S0.out.1 S0.out.2.1.at HP.out hm (by omega)).mono ?_
   rintro e w2 ⟨rfl,r2,u2⟩
   have H2:Hid (Rt w2 w1.heap.size P 1∧Below wr.heap.size wr w2):=⟨r2,S0.out.2.2.trans (u2.below (by simp; omega) zz)⟩
   clear r2 u2 S0
   go_wp2
   exact bodyPost_ret (v:=.tuple #[.pointer (some ⟨w1.heap.size,0,none⟩),.bool true]) (by simp [results,Tryz.results10,go_sem]) rfl ⟨_,rfl,zz,H2.out.1,H2.out.2⟩
  ·have hiN:i < N:=by omega
   have hdb:=decZ_char P i (by have:=HN.out; omega)
   have hxi:∀ (h:i < s.size),((s[i]'h).toNat:Int) = (dgi (decZ P) i:Int):=HX.out i
   have q1:((dgi (decZ P) i:Int) == 47) = false:=beq_eq_false_iff_ne.2 (by omega)
   generalize dgi (decZ P) i = D at *
   clear hdb
   go_wp2
   go_roundw
   case rel=>exact ⟨i + 1,by omega,by go_num,trivial⟩
   case measure=>simp [intOf]; omega
set_option maxHeartbeats 4000000 in
theorem Fraction_part (P:Int) (q m:Nat) (w:World) (hq1:2≤q) (low:Nat.gcd P.natAbs q = 1) (hp:P.natAbs < pw m) (hq:q < pw m) (hm:1≤m) (hm':m≤900) :
  Calls Tryz.prog 10 #[.string ⟨(decZ P ++ 47 :: decZ (q:Int)).toArray⟩] w fun e w'=>∃ b,e = .returned (.tuple #[.pointer (some ⟨b,0,none⟩),.bool true])∧w.heap.size≤b∧Rt w' b P (q:Int)∧Below w.heap.size w w':=by
 obtain ⟨s,hs⟩:∃ s:ByteArray,s = ⟨(decZ P ++ 47 :: decZ (q:Int)).toArray⟩:=⟨_,rfl⟩
 obtain ⟨L,hL⟩:∃ L,L = (decZ P).length:=⟨_,rfl⟩
 obtain ⟨N,hN⟩:∃ N,N = (decZ P ++ 47 :: decZ (q:Int)).length:=⟨_,rfl⟩
 have hsz:s.size = N:=by rw [hs,hN]; simp [ByteArray.size]
 have hLN:L < N:=by rw [hL,hN]; simp
 have hN2:N≤20 * m + 3:=by
  have h1:=decZ_len hp hm
  have h2:=decZ_len (P:=(q:Int)) (m:=m) (by rw [Int.natAbs_natCast]; exact hq) hm
  rw [hN,List.length_append,List.length_cons]; omega
 have HX:Hid (∀ (i:Nat) (h:i < s.size),i < L→((s[i]'h).toNat:Int) = (dgi (decZ P) i:Int)):=fun i h hi=>by
  subst hs; rw [str_at _ i h,dgi_left _ _ _ (by omega)]
 have HX2:Hid (∀ (h:L < s.size),((s[L]'h).toNat:Int) = 47):=fun h=>by
  subst hs; rw [str_at _ L h,hL,dgi_mid]; rfl
 have HL:Hid (L = (decZ P).length):=hL
 obtain ⟨S1,hS1⟩:∃ S:ByteArray,S = ⟨(decZ P).toArray⟩:=⟨_,rfl⟩
 obtain ⟨S2,hS2⟩:∃ S:ByteArray,S = ⟨(Lib.decDigits q).toArray⟩:=⟨_,rfl⟩
 have he1:s.extract 0 L = S1:=by rw [hs,ext_head,hS1,hL,List.take_left']; rfl
 have he2:s.extract (L + 1) N = S2:=by
  rw [hs,hN,ext_tail _ _ (by rw [← hN]; omega),hS2,← decZ_nat,hL]
  congr 2
  rw [List.drop_append,List.drop_of_length_le (by omega)]
  simp
 have HD1:Hid (∀ w,Calls Tryz.prog 38 #[.string S1] w fun e w'=>∃ b,e = .returned (.tuple #[.pointer (some ⟨b,0,none⟩),.bool true])∧w.heap.size≤b∧BigAt w' b P∧Below w.heap.size w w'):=fun w=>by rw [hS1]; exact Signed_any P m w hp hm (by omega)
 have HD2:Hid (∀ w,Calls Tryz.prog 27 #[.string S2] w fun e w'=>∃ b,e = .returned (.tuple #[.pointer (some ⟨b,0,none⟩),.bool true])∧w.heap.size≤b∧BigAt w' b (q:Int)∧Below w.heap.size w w'):=fun w=>by rw [hS2]; exact Digits_nat q m w hq hm (by omega)
 have HP:Hid (P.natAbs < pw m∧q < pw m∧Nat.gcd P.natAbs q = 1):=⟨hp,hq,low⟩
 have HT:Hid (∀ (b:Nat) (w:World),Rt w b P (q:Int)→Calls Tryz.prog 12 #[.pointer (some ⟨b,0,none⟩)] w fun e w'=>e = .returned (.string s)∧Below w.heap.size w w'):=fun b w h=>by
  have h1:=RatString_any b P q m w h hp (by rw [Int.natAbs_natCast]; exact hq) hm (by omega)
  rw [show rtx P (q:Int) = decZ P ++ 47 :: decZ (q:Int) by unfold rtx; rw [if_neg (by omega)],← hs] at h1
  exact h1
 rw [← hs]
 clear hs hN hp hq low hL hS1 hS2
 go_enter Tryz.func10,Tryz.ntmps10
 go_wp2_with fail
 go_loopw [4] (fun iv wx=>∃ i:Nat,i≤L∧iv = .int .i64 (i:Int)∧wx = w) (fun iv _=>L - (intOf iv).toNat)
 case atStart=>exact ⟨0,by omega,by go_num,rfl⟩
 case round =>
  obtain ⟨i,hi,hiv,hwx⟩:=hrel
  subst hiv hwx
  have ht:(i:Int) < (N:Int):=by omega
  by_cases hin:i = L
  ·subst hin
   have hxL:=HX2.out
   clear HX HX2 HL
   go_wp2_with fail
   refine (HD1.out _).mono ?_
   rintro e w1 ⟨a,rfl,ha,i1,k1⟩
   have H1:Hid (wr.heap.size≤a∧BigAt w1 a P∧Below wr.heap.size wr w1):=⟨ha,i1,k1⟩
   clear ha i1 k1 HD1
   go_wp2_with fail
   refine (HD2.out _).mono ?_
   rintro e w2 ⟨b,rfl,hb,i2,k2⟩
   have H2:Hid (BigAt w2 a P∧BigAt w2 b (q:Int)∧Below wr.heap.size wr w2):=⟨H1.out.2.1.below k2 (Nat.le_refl _),i2,H1.out.2.2.trans (k2.mono H1.out.2.2.size)⟩
   clear hb i2 k2 HD2 H1
   go_wp2_with fail
   refine (Sign_any b (q:Int) w2 H2.out.2.1).mono ?_
   rintro e w3 ⟨rfl,hw⟩
   subst hw
   rw [show (q:Int).sign = 1 from Int.sign_eq_one_of_pos (by omega)]
   go_wp2_with fail
   have S0:Hid (RSlot (w3.alloc (.cells #[.bool false,.slice none 0 0,.bool false,.slice none 0 0] 39)) w3.heap.size∧BigAt (w3.alloc (.cells #[.bool false,.slice none 0 0,.bool false,.slice none 0 0] 39)) a P∧BigAt (w3.alloc (.cells #[.bool false,.slice none 0 0,.bool false,.slice none 0 0] 39)) b (q:Int)∧Below wr.heap.size wr (w3.alloc (.cells #[.bool false,.slice none 0 0,.bool false,.slice none 0 0] 39))):=⟨RSlot.new _ _ _ _ _,H2.out.1.below (Below.alloc_self _ _) (Nat.le_refl _),H2.out.2.1.below (Below.alloc_self _ _) (Nat.le_refl _),H2.out.2.2.alloc H2.out.2.2.size _⟩
   have zz:=H2.out.2.2.size
   clear H2
   refine (SetFrac_pos w3.heap.size a 0 b 0 P (q:Int) m _ S0.out.1 S0.out.2.1.at S0.out.2.2.1.at (by omega) HP.out.1 (by rw [Int.natAbs_natCast]; exact HP.out.2.1) (by omega)).mono ?_
   rintro e w4 ⟨rfl,P',Q',r1,r2,r3,r4,_,_,u4⟩
   have H4:Hid (Rt w4 w3.heap.size P (q:Int)∧Below wr.heap.size wr w4):=by
    obtain ⟨e1,e2⟩:=low_uniq r2 (show (0:Int) < (q:Int) by omega) r3 r4 (by rw [Int.natAbs_natCast]; exact HP.out.2.2)
    subst e1 e2
    exact ⟨⟨r1,r2,r4⟩,S0.out.2.2.2.trans (u4.below (by simp; omega) zz)⟩
   clear r1 r2 r3 r4 u4 S0
   go_wp2_with fail
   refine (HT.out _ _ H4.out.1).mono ?_
   rintro e w5 ⟨rfl,k5⟩
   have H5:Hid (Rt w5 w3.heap.size P (q:Int)∧Below wr.heap.size wr w5):=⟨H4.out.1.below k5,H4.out.2.trans (k5.mono H4.out.2.size)⟩
   clear k5 H4
   go_wp2
   exact bodyPost_ret (v:=.tuple #[.pointer (some ⟨w3.heap.size,0,none⟩),.bool true]) (by simp [results,Tryz.results10,go_sem]) rfl ⟨_,rfl,zz,H5.out.1,H5.out.2⟩
  ·have hiL:i < L:=by omega
   have hdb:=decZ_char P i (by have:=HL.out; omega)
   have hxi:∀ (h:i < s.size),((s[i]'h).toNat:Int) = (dgi (decZ P) i:Int):=fun h=>HX.out i h hiL
   have q1:((dgi (decZ P) i:Int) == 47) = false:=beq_eq_false_iff_ne.2 (by omega)
   generalize dgi (decZ P) i = D at *
   clear hdb
   go_wp2
   go_roundw
   case rel=>exact ⟨i + 1,by omega,by go_num,trivial⟩
   case measure=>simp [intOf]; omega
theorem Fraction_any (P Q:Int) (m:Nat) (w:World) (hQ:0 < Q) (low:Nat.gcd P.natAbs Q.natAbs = 1) (hp:P.natAbs < pw m) (hq:Q.natAbs < pw m) (hm:1≤m) (hm':m≤900) :
  Calls Tryz.prog 10 #[.string ⟨(rtx P Q).toArray⟩] w fun e w'=>∃ b,e = .returned (.tuple #[.pointer (some ⟨b,0,none⟩),.bool true])∧w.heap.size≤b∧Rt w' b P Q∧Below w.heap.size w w':=by
 by_cases h:Q = 1
 ·subst h
  exact Fraction_whole P m w hp hm hm'
 ·obtain ⟨q,rfl⟩:∃ q:Nat,Q = (q:Int):=⟨Q.toNat,by omega⟩
  rw [show rtx P (q:Int) = decZ P ++ 47 :: decZ (q:Int) by unfold rtx; rw [if_neg h]]
  exact Fraction_part P q m w (by omega) (by simpa using low) hp (by simpa using hq) hm hm'
end
section
set_option maxRecDepth 100000
open Go.RowKit
end
section
set_option maxRecDepth 100000
open Go.RowKit
end
section
set_option maxRecDepth 100000
open Go.RowKit
end
section
set_option maxRecDepth 100000
open Go.RowKit
end
section
set_option maxRecDepth 100000
open Go.RowKit
end
section
set_option maxRecDepth 100000
open Go.RowKit
end
section
set_option maxRecDepth 100000
open Go.RowKit LgM
set_option maxHeartbeats 2000000 in
theorem NGcd_any (vx vy:Value) (x y m:Nat) (w:World) (hx:LN w vx x) (hy:LN w vy y) (hxm:x < Bs ^ m) (hym:y < Bs ^ m) (hm:m≤1000000) :
  Calls Tryz.prog 76 #[.agg #[vx],.agg #[vy]] w fun e w'=>∃ v,e = .returned (.agg #[v])∧LN w' v (Nat.gcd x y)∧Below w.heap.size w w':=by
 obtain ⟨ax,kx,cx,rfl⟩:=hx.shape
 obtain ⟨ay,ky,cy,rfl⟩:=hy.shape
 have P0:=Pb.start (.slice ax kx cx) (.slice ay ky cy) w
 obtain ⟨W0,hW0⟩:∃ W0,W0 = (((w.alloc (.cells #[.slice ax kx cx] 64)).alloc (.cells #[.slice ay ky cy] 64)).alloc (.cells #[.slice none 0 0] 64)):=⟨_,rfl⟩
 rw [← hW0] at P0
 have KB0:Below w.heap.size w W0:=by
  rw [hW0]; exact (((Below.refl _ _).alloc (Nat.le_refl _) _).alloc (by simp) _).alloc (by simp; omega) _
 have HR0:Hid (Pb w.heap.size (.slice ax kx cx) (.slice ay ky cy) W0∧LN W0 (.slice ax kx cx) x∧LN W0 (.slice ay ky cy) y∧x < Bs ^ m∧y < Bs ^ m∧Below w.heap.size w W0):=⟨P0,hx.below KB0,hy.below KB0,hxm,hym,KB0⟩
 clear P0 hx hy hxm hym KB0
 go_enter Tryz.func76,Tryz.ntmps76
 go_wp2
 rw [← hW0]
 clear hW0
 go_loopg [] y (fun gk wx=>∃ (X Y:Nat) (ax ay:Option Addr) (kx ky cx cy:Nat),Hid (gk = Y∧Nat.gcd X Y = Nat.gcd x y∧Pb w.heap.size (.slice ax kx cx) (.slice ay ky cy) wx∧LN wx (.slice ax kx cx) X∧LN wx (.slice ay ky cy) Y∧X < Bs ^ m∧Y < Bs ^ m∧Below w.heap.size w wx))
 case atStart=>exact ⟨x,y,ax,ay,kx,ky,cx,cy,rfl,rfl,HR0.out⟩
 case round =>
  clear HR0
  obtain ⟨X,Y,ax,ay,kx,ky,cx,cy,HR⟩:=hrel
  have q1:=HR.out.2.2.1.y.cell 0
  simp at q1
  have HZw:Hid (w.heap.size + 3≤wr.heap.size):=by have:=HR.out.2.2.1.z.lt; show _≤_; omega
  have HIz:Hid (Calls Tryz.prog 104 #[.agg #[.slice ay ky cy]] wr fun e w'=>e = .returned (.bool (decide (Y = 0)))∧Below wr.heap.size wr w'):=IsZero_any _ Y wr HR.out.2.2.2.2.1
  by_cases h0:Y = 0
  ·rw [decide_eq_true h0] at HIz
   have HY0:Hid (Y = 0):=h0
   clear h0
   go_wp2_with fail
   refine HIz.out.mono ?_
   rintro e w2 ⟨rfl,k2⟩
   have HP2:Hid (Pb w.heap.size (.slice ax kx cx) (.slice ay ky cy) w2∧LN w2 (.slice ax kx cx) X∧Below w.heap.size w w2):=⟨HR.out.2.2.1.below k2 HZw.out,HR.out.2.2.2.1.below k2,HR.out.2.2.2.2.2.2.2.trans (k2.mono (by have:=HZw.out; omega))⟩
   have q2:=HP2.out.1.x.cell 0
   have q3:=HP2.out.1.z.cell 0
   have q4:=HP2.out.1.z.frozen 0
   simp at q2 q3
   clear k2 q1 HIz
   go_wp2
   have C2:=HP2.out.1.z.set 0 (.slice ax kx cx)
   have q5:=C2.cell 0
   simp at q5
   refine bodyPost_ret (v:=.agg #[.slice ax kx cx]) (by simp [results,Tryz.results76,go_sem,q5]) rfl ⟨_,rfl,?_,?_⟩
   ·have e:X = Nat.gcd x y:=by rw [← HR.out.2.1,HY0.out,Nat.gcd_zero_right]
    rw [← e]; exact HP2.out.2.1.set HP2.out.1.z _
   ·exact HP2.out.2.2.setCell (by simp; omega) _
  ·rw [decide_eq_false h0] at HIz
   have HYp:Hid (0 < Y):=by show 0 < Y; omega
   clear h0
   go_wp2_with fail
   refine HIz.out.mono ?_
   rintro e w2 ⟨rfl,k2⟩
   have HP2:Hid (Pb w.heap.size (.slice ax kx cx) (.slice ay ky cy) w2∧LN w2 (.slice ax kx cx) X∧LN w2 (.slice ay ky cy) Y∧Below w.heap.size w w2):=⟨HR.out.2.2.1.below k2 HZw.out,HR.out.2.2.2.1.below k2,HR.out.2.2.2.2.1.below k2,HR.out.2.2.2.2.2.2.2.trans (k2.mono (by have:=HZw.out; omega))⟩
   have q2:=HP2.out.1.x.cell 0
   have q3:=HP2.out.1.y.cell 0
   simp at q2 q3
   have HZ2:Hid (w.heap.size + 3≤w2.heap.size):=by have:=HP2.out.1.z.lt; show _≤_; omega
   have HDv:Hid (Calls Tryz.prog 77 #[.agg #[.slice ax kx cx],.agg #[.slice ay ky cy]] w2 fun e w'=>∃ v u,e = .returned (.tuple #[.agg #[v],.agg #[u]])∧LN w' v (X / Y)∧LN w' u (X % Y)∧Below w2.heap.size w2 w'):=NDivide_any _ _ X Y m w2 HP2.out.2.1 HP2.out.2.2.1 HR.out.2.2.2.2.2.1 HR.out.2.2.2.2.2.2.1 hm HYp.out
   clear k2 q1 HIz
   go_wp2_with fail
   refine HDv.out.mono ?_
   rintro e w3 ⟨v,u,rfl,hv,hu,k3⟩
   obtain ⟨av,kv,cv,rfl⟩:=hv.shape
   obtain ⟨au,ku,cu,rfl⟩:=hu.shape
   obtain ⟨W4,hW4⟩:∃ W4,W4 = ((w3.alloc (.cells #[.slice av kv cv] 64)).alloc (.cells #[.slice au ku cu] 64)):=⟨_,rfl⟩
   have hB4:Below w3.heap.size w3 W4:=by rw [hW4]; exact ((Below.refl _ _).alloc (Nat.le_refl _) _).alloc (by simp) _
   have HP4:Hid (Pb w.heap.size (.slice ax kx cx) (.slice ay ky cy) W4∧LN W4 (.slice ay ky cy) Y∧LN W4 (.slice au ku cu) (X % Y)∧Cl (w3.heap.size + 1) [.slice au ku cu] 64 W4∧Below w.heap.size w W4):=by
    have hz3:w2.heap.size≤w3.heap.size:=k3.size
    refine ⟨(HP2.out.1.below k3 HZ2.out).below hB4 (by have:=HZ2.out; omega),(HP2.out.2.2.1.below k3).below hB4,hu.below hB4,?_,(HP2.out.2.2.2.trans (k3.mono (by have:=HZ2.out; omega))).trans (hB4.mono (by have:=HZ2.out; omega))⟩
    rw [hW4]
    have:=Cl.new [.slice au ku cu] 64 (w3.alloc (.cells #[.slice av kv cv] 64))
    simpa using this
   have hz3:w2.heap.size≤w3.heap.size:=k3.size
   have HZ3:Hid (w.heap.size + 3≤w3.heap.size):=by have:=HZ2.out; show _≤_; omega
   clear hv hu k3 HDv q2 q3 hB4 hz3
   go_wp2
   rw [← hW4]
   clear hW4
   have q2:=HP4.out.1.x.cell 0
   have q3:=HP4.out.1.y.cell 0
   have q4:=HP4.out.1.x.frozen 0
   have q5:=HP4.out.1.y.frozen 0
   have q6:=HP4.out.2.2.2.1.cell 0
   simp at q2 q3 q6
   have q7:∀ z:Value,(W4.setCell ⟨w.heap.size,0,none⟩ z).cell? ⟨w3.heap.size + 1,0,none⟩ = some (.slice au ku cu):=fun z=>by
    have h:=HP4.out.2.2.2.1.other (p:=⟨w.heap.size,0,none⟩) (by have:=HZ3.out; simp; omega) z
    have:=h.cell 0
    simpa using this
   go_region
   have HNw:Hid (Pb w.heap.size (.slice ay ky cy) (.slice au ku cu) ((W4.setCell ⟨w.heap.size,0,none⟩ (.slice ay ky cy)).setCell ⟨w.heap.size + 1,0,none⟩ (.slice au ku cu))∧LN ((W4.setCell ⟨w.heap.size,0,none⟩ (.slice ay ky cy)).setCell ⟨w.heap.size + 1,0,none⟩ (.slice au ku cu)) (.slice ay ky cy) Y∧LN ((W4.setCell ⟨w.heap.size,0,none⟩ (.slice ay ky cy)).setCell ⟨w.heap.size + 1,0,none⟩ (.slice au ku cu)) (.slice au ku cu) (X % Y)∧Below w.heap.size w ((W4.setCell ⟨w.heap.size,0,none⟩ (.slice ay ky cy)).setCell ⟨w.heap.size + 1,0,none⟩ (.slice au ku cu))):=by
    have cx:=HP4.out.1.x
    have cy':=HP4.out.1.y.other (p:=⟨w.heap.size,0,none⟩) (by simp) (.slice ay ky cy)
    refine ⟨⟨(cx.set 0 _).other (by simp) _,cy'.set 0 _,(HP4.out.1.z.other (by simp) _).other (by simp) _⟩,(HP4.out.2.1.set cx _).set cy' _,(HP4.out.2.2.1.set cx _).set cy' _,(HP4.out.2.2.2.2.setCell (by simp) _).setCell (by simp) _⟩
   clear q2 q3 q4 q5 q6 q7
   go_wp2
   go_roundg (X % Y)
   case rel =>
    have hd:∀ {b:Nat} {vx vy:Value} {W:World},Pb b vx vy W→Pb b vx vy W.drew:=fun h=>⟨h.x.drew,h.y.drew,h.z.drew⟩
    have hl:∀ {v:Value} {n:Nat} {W:World},LN W v n→LN W.drew v n:=fun h=>h.below (Below.refl _ _).drew
    refine ⟨Y,X % Y,ay,au,ky,ku,cy,cu,rfl,?_,hd HNw.out.1,hl HNw.out.2.1,hl HNw.out.2.2.1,HR.out.2.2.2.2.2.2.1,Nat.lt_trans (Nat.mod_lt _ HYp.out) HR.out.2.2.2.2.2.2.1,HNw.out.2.2.2.drew⟩
    rw [← HR.out.2.1,Nat.gcd_comm Y,← Nat.gcd_rec,Nat.gcd_comm]
   case measure=>rw [HR.out.1]; exact Nat.mod_lt _ HYp.out
end
end Go.Proofs.YtnkjadpmigpneaaGreatDoor
