import Derived.Test.YtnkjadpmigpneaaGreatDoorJsY
import Derived.Test.YtnkjadpmigpneaaGreatDoorJsZ
import Derived.Test.YtnkjadpmigpneaaGreatDoorJsS
import Derived.Test.YtnkjadpmigpneaaGreatDoorJsC
import Derived.Test.YtnkjadpmigpneaaGreatDoorJsA
import Derived.Test.YtnkjadpmigpneaaGreatDoorJsAa
import Derived.Test.YtnkjadpmigpneaaGreatDoorJsR
set_option linter.unusedSimpArgs false
set_option linter.unusedVariables false
namespace Go.Proofs.YtnkjadpmigpneaaGreatDoor
section
set_option maxRecDepth 100000
open Go.RowKit LgM
theorem bs_pw (m:Nat):Bs ^ m≤pw m:=by
 rw [show pw m = 4294967296 ^ m from by
  induction m with
  | zero=>rfl
  | succ m ih=>rw [Nat.pow_succ,← ih]; exact Nat.mul_comm _ _]
 exact Nat.pow_le_pow_left (show 1000000000≤4294967296 by decide) m
theorem cq_dn (k:Nat):(0:Int) < ((BN.prm (k + 1) * (k + 1):Nat):Int):=by
 have:=Nat.mul_pos (BN.prm_pos (k + 1)) (show 0 < k + 1 by omega)
 omega
theorem cq_b (k:Nat) (hk:k≤60):((BN.prm (k + 1) * (k + 1):Nat):Int).natAbs < pw 45:=by
 rw [Int.natAbs_natCast]
 exact Nat.lt_of_lt_of_le (below_bs hk) (Nat.le_trans (bs_pw 13) (pw_le (by omega)))
theorem cf_pw (k i:Nat) (hk:k≤60):(BN.cf k i).natAbs < pw 45:=Nat.lt_of_lt_of_le (cf_bs hk) (bs_pw 45)
theorem cb_cq (k:Nat) (hk:k≤60):Cb (cqv k) (k + 2) 45:=⟨_,BN.cf k,cq_dn k,cq_b k hk,fun i _=>⟨rfl,cf_pw k i hk⟩⟩
theorem hj_hz (k n:Nat) (L:Nat):∀ j,hj (cqv k) (n:Rat) L j = ((BN.hz (BN.cf k) (n:Int) L j:Int):Rat) / (((BN.prm (k + 1) * (k + 1):Nat):Int):Rat)
 | 0=>by
  have:=rne (show ((BN.prm (k + 1) * (k + 1):Nat):Int) ≠ 0 by have:=cq_dn k; omega)
  show (0:Rat) = ((0:Int):Rat) / _
  rw [Rat.intCast_zero]
  grind
 | j + 1=>by
  have h:=hj_hz k n L j
  have:=rne (show ((BN.prm (k + 1) * (k + 1):Nat):Int) ≠ 0 by have:=cq_dn k; omega)
  show hj (cqv k) (n:Rat) L j * (n:Rat) + cqv k (L - 1 - j) = ((BN.hz (BN.cf k) (n:Int) L j * (n:Int) + BN.cf k (L - 1 - j):Int):Rat) / _
  rw [h,Rat.intCast_add,Rat.intCast_mul]
  unfold cqv
  have hn:((n:Int):Rat) = (n:Rat):=rfl
  rw [hn]
  grind
theorem hj_pk (k n:Nat) (hk:k≤60):hj (cqv k) (n:Rat) (k + 2) (k + 2) = (((BN.pk k n:Nat):Int):Rat):=by
 have h1:=rne (show ((BN.prm (k + 1) * (k + 1):Nat):Int) ≠ 0 by have:=cq_dn k; omega)
 rw [hj_hz,BN.hz_faul k n (by omega)]
 have e:((k:Int) + 1) * (BN.prm (k + 1):Int) * (BN.pk k n:Int) = ((BN.prm (k + 1) * (k + 1):Nat):Int) * (BN.pk k n:Int):=by
  rw [Int.natCast_mul,Int.natCast_add]; grind
 rw [e,Rat.intCast_mul]
 generalize (((BN.prm (k + 1) * (k + 1):Nat):Int):Rat) = D at *
 grind
theorem vtx_nat (N:Nat):vtx (((N:Nat):Int):Rat) = Lib.decDigits N:=by
 rw [vtx_of (P:=(N:Int)) (Q:=1) (by decide) (by simp) (by rw [Rat.intCast_one]; grind)]
 unfold rtx
 rw [if_pos rfl,decZ_nat]
structure S4 (w W:World) (b6 b8 b9 b10:Nat) (c6 p6 c8 p8 c9 p9 c10 p10:Int):Prop where
 f:Sv b6 c6 p6 W
 g:Sv b8 c8 p8 W
 u:Sv b9 c9 p9 W
 v:Sv b10 c10 p10 W
 k:Below w.heap.size w W
theorem S4.below {w W W':World} {b6 b8 b9 b10:Nat} {c6 p6 c8 p8 c9 p9 c10 p10:Int} (h:S4 w W b6 b8 b9 b10 c6 p6 c8 p8 c9 p9 c10 p10) (l:Below W.heap.size W W'):S4 w W' b6 b8 b9 b10 c6 p6 c8 p8 c9 p9 c10 p10 :=
 ⟨h.f.below l,h.g.below l,h.u.below l,h.v.below l,h.k.trans (l.mono h.k.size)⟩
def SumsIs (k:Nat) (w:World):Prop:=Calls Tryz.prog 19 #[.int .i64 (k:Int)] w fun e w'=>∃ g cap,e = .returned (.tuple #[.slice (some ⟨g,0,none⟩) (k + 2) cap,.agg #[.int .i64 0,.int .i64 0]])∧k + 2≤cap∧g < w'.heap.size∧(∀ i,i < k + 2→w'.cell? ⟨g,i,none⟩ = some (.string ⟨(vtx (cqv k i)).toArray⟩))∧Below w.heap.size w w'
set_option maxHeartbeats 4000000 in
theorem sums_bad (k n:Int) (w:World) (hk:k < 0∨60 < k) (hSs:Calls Tryz.prog 19 #[.int .i64 k] w fun e w'=>e = .returned (.tuple #[.slice none 0 0,.agg #[.int .i64 3,.int .i64 0]])∧Below w.heap.size w w') (hSm:∀ W,Calls Tryz.prog 20 #[.int .i64 k,.int .i64 n] W fun e w'=>e = .returned (.tuple #[.string ⟨#[]⟩,.agg #[.int .i64 3,.int .i64 0]])∧Below W.heap.size W w') (hBg:∀ W,Below w.heap.size w W→Calls Tryz.prog 8 #[] W fun e w'=>e = .returned (.bool true)∧Below W.heap.size W w') :
  Calls Tryz.prog 4 #[.int .i64 k,.int .i64 n] w fun e w'=>e = .returned (.bool true)∧Below w.heap.size w w':=by
 have HSs:Hid (Calls Tryz.prog 19 #[.int .i64 k] w fun e w'=>e = .returned (.tuple #[.slice none 0 0,.agg #[.int .i64 3,.int .i64 0]])∧Below w.heap.size w w'):=hSs
 have HSm:Hid (∀ W,Calls Tryz.prog 20 #[.int .i64 k,.int .i64 n] W fun e w'=>e = .returned (.tuple #[.string ⟨#[]⟩,.agg #[.int .i64 3,.int .i64 0]])∧Below W.heap.size W w'):=hSm
 have HBg:Hid (∀ W,Below w.heap.size w W→Calls Tryz.prog 8 #[] W fun e w'=>e = .returned (.bool true)∧Below W.heap.size W w'):=hBg
 have HKk:Hid (k < 0∨60 < k):=hk
 clear hSs hSm hBg hk
 go_enter Tryz.func4,Tryz.ntmps4
 go_wp2_with fail
 refine HSs.out.mono ?_
 rintro e w1 ⟨rfl,k1⟩
 have K1:Hid (Sv w1.heap.size 3 0 (w1.alloc (.cells #[.int .i64 3,.int .i64 0] 23))∧Below w.heap.size w (w1.alloc (.cells #[.int .i64 3,.int .i64 0] 23))∧w.heap.size≤w1.heap.size):=⟨Sv.new 3 0 w1,k1.alloc k1.size _,k1.size⟩
 clear k1 HSs
 go_wp2_with fail
 refine (HSm.out _).mono ?_
 rintro e w2 ⟨rfl,k2⟩
 have z2:=K1.out.1.below k2 |>.lt
 have K2:Hid (Sv w1.heap.size 3 0 w2∧Below w.heap.size w w2∧w.heap.size≤w1.heap.size):=⟨K1.out.1.below k2,K1.out.2.1.trans (k2.mono K1.out.2.1.size),K1.out.2.2⟩
 clear k2 K1 HSm
 obtain ⟨b6,hb6⟩:∃ b,b = w1.heap.size:=⟨_,rfl⟩
 rw [← hb6] at K2 z2 ⊢
 clear hb6
 obtain ⟨b8,hb8⟩:∃ b,b = w2.heap.size:=⟨_,rfl⟩
 obtain ⟨W3,hW3⟩:∃ W,W = (w2.alloc (.cells #[.int .i64 3,.int .i64 0] 23)).alloc (.cells #[.int .i64 0,.int .i64 0] 23):=⟨_,rfl⟩
 have K3:Hid (Sv b6 3 0 W3∧Sv b8 3 0 W3∧Sv (b8 + 1) 0 0 W3∧Below w.heap.size w W3∧w.heap.size≤b8):=by
  have h1:=Sv.new 0 0 (w2.alloc (.cells #[.int .i64 3,.int .i64 0] 23))
  have h2:=K2.out.2.1.size
  show _∧_
  rw [hW3,hb8]
  exact ⟨(K2.out.1.alloc _ _).alloc _ _,(Sv.new 3 0 w2).alloc _ _,by simpa using h1,(K2.out.2.1.alloc h2 _).alloc (by simp; omega) _,h2⟩
 have HZ:Hid (b6 < b8):=by show _ < _; rw [hb8]; exact z2
 have HW3:Hid (W3 = (w2.alloc (.cells #[.int .i64 3,.int .i64 0] 23)).alloc (.cells #[.int .i64 0,.int .i64 0] 23)∧b8 = w2.heap.size):=⟨hW3,hb8⟩
 clear K2 hW3 hb8
 by_cases h0:k < 0
 ·have d0:decide (k < 0) = true:=decide_eq_true h0
  go_wp2_with fail
  rw [← HW3.out.1,← HW3.out.2]
  clear HW3
  refine (F_any 3 0 W3).mono ?_
  rintro e w4 ⟨rfl,k4⟩
  have c9:=K3.out.2.2.1.below k4
  have HF4:Hid (Sv b6 3 0 ((w4.setCell ⟨b8 + 1,0,none⟩ (.int .i64 3)).setCell ⟨b8 + 1,1,none⟩ (.int .i64 0))∧Sv b8 3 0 ((w4.setCell ⟨b8 + 1,0,none⟩ (.int .i64 3)).setCell ⟨b8 + 1,1,none⟩ (.int .i64 0))∧Sv (b8 + 1) 3 0 ((w4.setCell ⟨b8 + 1,0,none⟩ (.int .i64 3)).setCell ⟨b8 + 1,1,none⟩ (.int .i64 0))∧Below w.heap.size w ((w4.setCell ⟨b8 + 1,0,none⟩ (.int .i64 3)).setCell ⟨b8 + 1,1,none⟩ (.int .i64 0))):=by
   have h1:=K3.out.1.below k4
   have h2:=K3.out.2.1.below k4
   have z:=K3.out.2.2.2.2
   have hne:b6 ≠ b8 + 1:=by have:=HZ.out; omega
   exact ⟨h1.other _ _ (Ne.symm hne),h2.other _ _ (by omega),c9.set 3 0,((K3.out.2.2.2.1.trans (k4.mono K3.out.2.2.2.1.size)).setCell (by simp; omega) _).setCell (by simp; omega) _⟩
  obtain ⟨v0,v1,v2,v3,v4⟩:=c9
  obtain ⟨W5,hW5⟩:∃ W,W = (w4.setCell ⟨b8 + 1,0,none⟩ (.int .i64 3)).setCell ⟨b8 + 1,1,none⟩ (.int .i64 0):=⟨_,rfl⟩
  have HW5:Hid (W5 = (w4.setCell ⟨b8 + 1,0,none⟩ (.int .i64 3)).setCell ⟨b8 + 1,1,none⟩ (.int .i64 0)):=hW5
  rw [← hW5] at HF4
  have z5:W5.heap.size = w4.heap.size:=by rw [hW5]; simp
  obtain ⟨W6,hW6⟩:∃ W,W = W5.alloc (.cells #[.int .i64 3,.int .i64 0] 23):=⟨_,rfl⟩
  have K6:Hid (Sv b6 3 0 W6∧Sv b8 3 0 W6∧Sv (b8 + 1) 3 0 W6∧Sv w4.heap.size 3 0 W6∧Below w.heap.size w W6):=by
   have h5:=Sv.new 3 0 W5
   rw [z5] at h5
   show _∧_
   rw [hW6]
   exact ⟨HF4.out.1.alloc _ _,HF4.out.2.1.alloc _ _,HF4.out.2.2.1.alloc _ _,h5,HF4.out.2.2.2.alloc HF4.out.2.2.2.size _⟩
  have HW6:Hid (W6 = ((w4.setCell ⟨b8 + 1,0,none⟩ (.int .i64 3)).setCell ⟨b8 + 1,1,none⟩ (.int .i64 0)).alloc (.cells #[.int .i64 3,.int .i64 0] 23)):=by show _ = _; rw [hW6,hW5]
  clear k4 K3 hW5 hW6 HF4 HW5 z5
  go_wp2_with fail
  rw [← HW6.out]
  clear HW6 v0 v1 v2 v3 v4
  refine (HBg.out W6 K6.out.2.2.2.2).mono ?_
  rintro e w7 ⟨rfl,k7⟩
  obtain ⟨r0,r1,r2,r3,r4⟩:=K6.out.1.below k7
  obtain ⟨s0,s1,s2,s3,s4⟩:=K6.out.2.1.below k7
  obtain ⟨t0,t1,t2,t3,t4⟩:=K6.out.2.2.1.below k7
  obtain ⟨u0,u1,u2,u3,u4⟩:=K6.out.2.2.2.1.below k7
  have K7:Hid (Below w.heap.size w w7):=K6.out.2.2.2.2.trans (k7.mono K6.out.2.2.2.2.size)
  clear k7 K6
  go_wp2
  go_ret
  exact ⟨rfl,K7.out⟩
 ·have d0:decide (k < 0) = false:=decide_eq_false h0
  have d1:decide (60 < k) = true:=decide_eq_true (by have:=HKk.out; omega)
  go_wp2_with fail
  rw [← HW3.out.1,← HW3.out.2]
  clear HW3
  refine (F_any 3 0 W3).mono ?_
  rintro e w4 ⟨rfl,k4⟩
  have c9:=K3.out.2.2.1.below k4
  have HF4:Hid (Sv b6 3 0 ((w4.setCell ⟨b8 + 1,0,none⟩ (.int .i64 3)).setCell ⟨b8 + 1,1,none⟩ (.int .i64 0))∧Sv b8 3 0 ((w4.setCell ⟨b8 + 1,0,none⟩ (.int .i64 3)).setCell ⟨b8 + 1,1,none⟩ (.int .i64 0))∧Sv (b8 + 1) 3 0 ((w4.setCell ⟨b8 + 1,0,none⟩ (.int .i64 3)).setCell ⟨b8 + 1,1,none⟩ (.int .i64 0))∧Below w.heap.size w ((w4.setCell ⟨b8 + 1,0,none⟩ (.int .i64 3)).setCell ⟨b8 + 1,1,none⟩ (.int .i64 0))):=by
   have h1:=K3.out.1.below k4
   have h2:=K3.out.2.1.below k4
   have z:=K3.out.2.2.2.2
   have hne:b6 ≠ b8 + 1:=by have:=HZ.out; omega
   exact ⟨h1.other _ _ (Ne.symm hne),h2.other _ _ (by omega),c9.set 3 0,((K3.out.2.2.2.1.trans (k4.mono K3.out.2.2.2.1.size)).setCell (by simp; omega) _).setCell (by simp; omega) _⟩
  obtain ⟨v0,v1,v2,v3,v4⟩:=c9
  obtain ⟨W5,hW5⟩:∃ W,W = (w4.setCell ⟨b8 + 1,0,none⟩ (.int .i64 3)).setCell ⟨b8 + 1,1,none⟩ (.int .i64 0):=⟨_,rfl⟩
  have HW5:Hid (W5 = (w4.setCell ⟨b8 + 1,0,none⟩ (.int .i64 3)).setCell ⟨b8 + 1,1,none⟩ (.int .i64 0)):=hW5
  rw [← hW5] at HF4
  have z5:W5.heap.size = w4.heap.size:=by rw [hW5]; simp
  obtain ⟨W6,hW6⟩:∃ W,W = W5.alloc (.cells #[.int .i64 3,.int .i64 0] 23):=⟨_,rfl⟩
  have K6:Hid (Sv b6 3 0 W6∧Sv b8 3 0 W6∧Sv (b8 + 1) 3 0 W6∧Sv w4.heap.size 3 0 W6∧Below w.heap.size w W6):=by
   have h5:=Sv.new 3 0 W5
   rw [z5] at h5
   show _∧_
   rw [hW6]
   exact ⟨HF4.out.1.alloc _ _,HF4.out.2.1.alloc _ _,HF4.out.2.2.1.alloc _ _,h5,HF4.out.2.2.2.alloc HF4.out.2.2.2.size _⟩
  have HW6:Hid (W6 = ((w4.setCell ⟨b8 + 1,0,none⟩ (.int .i64 3)).setCell ⟨b8 + 1,1,none⟩ (.int .i64 0)).alloc (.cells #[.int .i64 3,.int .i64 0] 23)):=by show _ = _; rw [hW6,hW5]
  clear k4 K3 hW5 hW6 HF4 HW5 z5
  go_wp2_with fail
  rw [← HW6.out]
  clear HW6 v0 v1 v2 v3 v4
  refine (HBg.out W6 K6.out.2.2.2.2).mono ?_
  rintro e w7 ⟨rfl,k7⟩
  obtain ⟨r0,r1,r2,r3,r4⟩:=K6.out.1.below k7
  obtain ⟨s0,s1,s2,s3,s4⟩:=K6.out.2.1.below k7
  obtain ⟨t0,t1,t2,t3,t4⟩:=K6.out.2.2.1.below k7
  obtain ⟨u0,u1,u2,u3,u4⟩:=K6.out.2.2.2.1.below k7
  have K7:Hid (Below w.heap.size w w7):=K6.out.2.2.2.2.trans (k7.mono K6.out.2.2.2.2.size)
  clear k7 K6
  go_wp2
  go_ret
  exact ⟨rfl,K7.out⟩
set_option maxHeartbeats 8000000 in
theorem sums_half (k:Nat) (n:Int) (w:World) (hk:k≤60) (hn:n < 0∨1000000000000000000 < n) (hSs:SumsIs k w) (hSm:∀ W,Calls Tryz.prog 20 #[.int .i64 (k:Int),.int .i64 n] W fun e w'=>e = .returned (.tuple #[.string ⟨#[]⟩,.agg #[.int .i64 3,.int .i64 1]])∧Below W.heap.size W w') (hBg:∀ W,Below w.heap.size w W→Calls Tryz.prog 8 #[] W fun e w'=>e = .returned (.bool true)∧Below W.heap.size W w') :
  Calls Tryz.prog 4 #[.int .i64 (k:Int),.int .i64 n] w fun e w'=>e = .returned (.bool true)∧Below w.heap.size w w':=by
 obtain ⟨i0,hi,hz0,hz1,hz2⟩:=info_parts Tryz.infoRp
 have HIn:Hid (Tryz.prog.info? 28 = some i0∧i0.zero = some (.pointer none)∧i0.size = 1∧i0.bytes = 8):=⟨hi,hz0,hz1,hz2⟩
 clear hi hz0 hz1 hz2
 obtain ⟨K2,hK2⟩:∃ K2,K2 = k + 2:=⟨_,rfl⟩
 have hK2l:K2≤62:=by omega
 have hK2i:(k:Int) + 2 = (K2:Int):=by omega
 have HK2:Hid (K2 = k + 2):=hK2
 unfold SumsIs at hSs
 rw [← hK2] at hSs
 have HSs:Hid (Calls Tryz.prog 19 #[.int .i64 (k:Int)] w fun e w'=>∃ g cap,e = .returned (.tuple #[.slice (some ⟨g,0,none⟩) K2 cap,.agg #[.int .i64 0,.int .i64 0]])∧K2≤cap∧g < w'.heap.size∧(∀ i,i < K2→w'.cell? ⟨g,i,none⟩ = some (.string ⟨(vtx (cqv k i)).toArray⟩))∧Below w.heap.size w w'):=hSs
 have HSm:Hid (∀ W,Calls Tryz.prog 20 #[.int .i64 (k:Int),.int .i64 n] W fun e w'=>e = .returned (.tuple #[.string ⟨#[]⟩,.agg #[.int .i64 3,.int .i64 1]])∧Below W.heap.size W w'):=hSm
 have HBg:Hid (∀ W,Below w.heap.size w W→Calls Tryz.prog 8 #[] W fun e w'=>e = .returned (.bool true)∧Below W.heap.size W w'):=hBg
 have HNn:Hid (n < 0∨1000000000000000000 < n):=hn
 have HFr:Hid (∀ (i:Nat) (W:World),Calls Tryz.prog 10 #[.string ⟨(vtx (cqv k i)).toArray⟩] W fun e w'=>∃ b,e = .returned (.tuple #[.pointer (some ⟨b,0,none⟩),.bool true])∧Rv w' b (cqv k i) 45∧Below W.heap.size W w'):=fun i W=>by
  have hl:=val_le (v:=cqv k i) (cq_dn k) rfl
  have hd:(0:Int) < (((cqv k i).den:Nat):Int):=by have:=(cqv k i).den_pos; omega
  have l1:=Nat.lt_of_le_of_lt hl.1 (cf_pw k i hk)
  have l2:(((cqv k i).den:Nat):Int).natAbs < pw 45:=by rw [Int.natAbs_natCast]; exact Nat.lt_of_le_of_lt hl.2 (cq_b k hk)
  refine (Fraction_any (cqv k i).num (((cqv k i).den:Nat):Int) 45 W hd (by rw [Int.natAbs_natCast]; exact (cqv k i).reduced) l1 l2 (by omega) (by omega)).mono ?_
  rintro e w' ⟨b,rfl,h1,h2,h3⟩
  exact ⟨b,rfl,⟨_,_,h2,frac_val _,l1,l2⟩,h3⟩
 have d0:decide ((k:Int) < 0) = false:=decide_eq_false (by omega)
 have d1:decide (60 < (k:Int)) = false:=decide_eq_false (by omega)
 clear hSs hSm hBg hn hK2
 go_enter Tryz.func4,Tryz.ntmps4
 go_wp2_with fail
 refine HSs.out.mono ?_
 rintro e w1 ⟨gL,cL,rfl,hcL,hgL,hL,k1⟩
 have K1:Hid (Sv w1.heap.size 0 0 (w1.alloc (.cells #[.int .i64 0,.int .i64 0] 23))∧Below w.heap.size w (w1.alloc (.cells #[.int .i64 0,.int .i64 0] 23))∧w.heap.size≤w1.heap.size∧Below w1.heap.size w1 (w1.alloc (.cells #[.int .i64 0,.int .i64 0] 23))):=⟨Sv.new 0 0 w1,k1.alloc k1.size _,k1.size,(Below.refl _ _).alloc (Nat.le_refl _) _⟩
 have HL1:Hid (∀ W,Below w1.heap.size w1 W→∀ i,i < K2→W.cell? ⟨gL,i,none⟩ = some (.string ⟨(vtx (cqv k i)).toArray⟩)):=fun W kk i hi=>(kk.cell (p:=⟨gL,i,none⟩) hgL).trans (hL i hi)
 have HcL:Hid (K2≤cL):=hcL
 clear k1 HSs hgL hL hcL
 go_wp2_with fail
 refine (HSm.out _).mono ?_
 rintro e w2 ⟨rfl,k2⟩
 have z2:=K1.out.1.below k2 |>.lt
 have K2':Hid (Sv w1.heap.size 0 0 w2∧Below w.heap.size w w2∧w.heap.size≤w1.heap.size∧Below w1.heap.size w1 w2):=⟨K1.out.1.below k2,K1.out.2.1.trans (k2.mono K1.out.2.1.size),K1.out.2.2.1,K1.out.2.2.2.trans (k2.mono (by simp))⟩
 clear k2 K1 HSm
 obtain ⟨b6,hb6⟩:∃ b,b = w1.heap.size:=⟨_,rfl⟩
 have HB6:Hid (b6 = w1.heap.size):=hb6
 rw [← hb6] at K2' HL1 z2 ⊢
 clear hb6
 obtain ⟨b8,hb8⟩:∃ b,b = w2.heap.size:=⟨_,rfl⟩
 obtain ⟨W3,hW3⟩:∃ W,W = ((w2.alloc (.cells #[.int .i64 3,.int .i64 1] 23)).alloc (.cells #[.int .i64 0,.int .i64 0] 23)).alloc (.cells #[.int .i64 0,.int .i64 0] 23):=⟨_,rfl⟩
 have HZ:Hid (b6 < b8∧w.heap.size≤b6):=⟨by rw [hb8]; exact z2,K2'.out.2.2.1⟩
 have K23:Below w2.heap.size w2 W3:=by rw [hW3]; exact (((Below.refl _ _).alloc (Nat.le_refl _) _).alloc (by simp) _).alloc (by simp; omega) _
 have K3:Hid (S4 w W3 b6 b8 (b8 + 1) (b8 + 1 + 1) 0 0 3 1 0 0 0 0):=by
  have h1:=Sv.new 0 0 (w2.alloc (.cells #[.int .i64 3,.int .i64 1] 23))
  have h2:=Sv.new 0 0 ((w2.alloc (.cells #[.int .i64 3,.int .i64 1] 23)).alloc (.cells #[.int .i64 0,.int .i64 0] 23))
  have h3:=K2'.out.2.1.size
  refine ⟨K2'.out.1.below K23,?_,?_,?_,K2'.out.2.1.trans (K23.mono h3)⟩
  ·rw [hW3,hb8]; exact ((Sv.new 3 1 w2).alloc _ _).alloc _ _
  ·rw [hW3,hb8]; have:=h1.alloc #[.int .i64 0,.int .i64 0] 23; simpa using this
  ·rw [hW3,hb8]; simpa using h2
 have K13:Hid (Below b6 w1 W3):=by
  have:=K2'.out.2.2.2
  rw [HB6.out]
  rw [← HB6.out] at *
  exact this.trans (K23.mono (by have:=this.size; omega))
 have HW3:Hid (W3 = ((w2.alloc (.cells #[.int .i64 3,.int .i64 1] 23)).alloc (.cells #[.int .i64 0,.int .i64 0] 23)).alloc (.cells #[.int .i64 0,.int .i64 0] 23)∧b8 = w2.heap.size):=⟨hW3,hb8⟩
 clear K2' K23 hW3 hb8
 have HNb:Hid (∀ W,¬ n < 0→Calls Tryz.prog 21 #[.int .i64 n] W fun e w'=>e = .returned (.bool false)∧w' = W):=fun W h0=>by
  refine (number_any n W).mono ?_
  rintro e w' ⟨rfl,hw⟩
  refine ⟨?_,hw⟩
  have:numB n = false:=by have:=HNn.out; unfold numB; simp; omega
  rw [this]
 by_cases h0:n < 0
 focus
  have e0:decide (n < 0) = true:=decide_eq_true h0
  go_wp2_with fail
 rotate_left
 focus
  have e0:decide (n < 0) = false:=decide_eq_false h0
  go_wp2_with fail
  refine (HNb.out _ h0).mono ?_
  rintro e wn ⟨rfl,hwn⟩
  subst hwn
  go_wp2_with fail
 all_goals
  clear HNb
  rw [← HW3.out.1,← HW3.out.2]
  clear HW3
  refine (F_any 3 1 W3).mono ?_
  rintro e w4 ⟨rfl,k4⟩
  have c10:=K3.out.v.below k4
  have K5:Hid (S4 w ((w4.setCell ⟨b8 + 1 + 1,0,none⟩ (.int .i64 3)).setCell ⟨b8 + 1 + 1,1,none⟩ (.int .i64 1)) b6 b8 (b8 + 1) (b8 + 1 + 1) 0 0 3 1 0 0 3 1∧Below b6 w1 ((w4.setCell ⟨b8 + 1 + 1,0,none⟩ (.int .i64 3)).setCell ⟨b8 + 1 + 1,1,none⟩ (.int .i64 1))):=by
   have h:=K3.out.below k4
   have z:=HZ.out
   have hk3:=K13.out.trans (k4.mono (by rw [HB6.out] at *; exact K13.out.size))
   exact ⟨⟨h.f.other _ _ (by omega),h.g.other _ _ (by omega),h.u.other _ _ (by omega),h.v.set 3 1,(h.k.setCell (by show w.heap.size≤b8 + 1 + 1; omega) _).setCell (by show w.heap.size≤b8 + 1 + 1; omega) _⟩,(hk3.setCell (by simp; omega) _).setCell (by simp; omega) _⟩
  obtain ⟨v0,v1,v2,v3,v4⟩:=c10
  clear k4 K3 K13
  go_wp2_with fail
  refine (HBg.out _ K5.out.1.k).mono ?_
  rintro e Wz ⟨rfl,kz⟩
  have KZ:Hid (S4 w Wz b6 b8 (b8 + 1) (b8 + 1 + 1) 0 0 3 1 0 0 3 1):=K5.out.1.below kz
  have HL:Hid (∀ W,Below Wz.heap.size Wz W→∀ i,i < K2→W.cell? ⟨gL,i,none⟩ = some (.string ⟨(vtx (cqv k i)).toArray⟩)):=fun W kk i hi=>HL1.out W (by
   have h6:=HB6.out
   have k5:=K5.out.2
   have z5:=k5.size
   exact (k5.trans (kz.mono (by omega))).trans (kk.mono (by have:=kz.size; omega))) i hi
  clear kz K5 HBg v0 v1 v2 v3 v4 HL1
  obtain ⟨r0,r1,r2,r3,r4⟩:=KZ.out.f
  obtain ⟨s0,s1,s2,s3,s4⟩:=KZ.out.g
  obtain ⟨t0,t1,t2,t3,t4⟩:=KZ.out.u
  obtain ⟨u0,u1,u2,u3,u4⟩:=KZ.out.v
  -- the fractions are read
  go_wp2
  go_loopg [11,12] K2 (fun gk lv iv wx=>∃ (i:Nat) (ov:Value),lv = ov∧iv = .int .i64 (i:Int)∧Hid (gk = K2 - i∧i≤K2∧PO Wz.heap.size wx ov i (cqv k) 45∧Below Wz.heap.size Wz wx))
  case atStart=>exact ⟨0,_,rfl,rfl,rfl,by omega,⟨[],World.ownsRow_nil _ _ _ _,fun j hj=>by omega⟩,Below.refl _ _⟩
  case round =>
   obtain ⟨i,ov,hov,rfl,HQ⟩:=hrel
   have h2:=hov.symm
   subst h2
   obtain ⟨h1,hiK,h3,h4⟩:=HQ.out
   have HG:Hid (gk = K2 - i):=h1
   have HP:Hid (PO Wz.heap.size wr ov i (cqv k) 45∧Below Wz.heap.size Wz wr):=⟨h3,h4⟩
   clear HQ h1 h3 h4
   by_cases hi:i < K2
   ·have HLi:Hid (i < K2):=hi
    have ti:decide ((i:Int) < (K2:Int)) = true:=decide_eq_true (by omega)
    obtain ⟨st,hst⟩:∃ st:ByteArray,st = ⟨(vtx (cqv k i)).toArray⟩:=⟨_,rfl⟩
    have q1:wr.cell? ⟨gL,i,none⟩ = some (.string st):=by rw [hst]; exact HL.out wr HP.out.2 i hi
    have HFi:Hid (∀ W,Calls Tryz.prog 10 #[.string st] W fun e w'=>∃ b,e = .returned (.tuple #[.pointer (some ⟨b,0,none⟩),.bool true])∧Rv w' b (cqv k i) 45∧Below W.heap.size W w'):=fun W=>by rw [hst]; exact HFr.out i W
    clear hst
    go_wp2_with fail
    refine (HFi.out wr).mono ?_
    rintro e w8 ⟨bf,rfl,r8,k8⟩
    have k89:Below wr.heap.size wr (w8.alloc (.cells #[.pointer (some ⟨bf,0,none⟩)] 28)):=k8.alloc k8.size _
    obtain ⟨us,hu,hx⟩:=HP.out.1.below k89
    have HU:Hid ((w8.alloc (.cells #[.pointer (some ⟨bf,0,none⟩)] 28)).ownsRow Wz.heap.size 28 1 ov i us∧(∀ j,j < i→∃ b,us[j]? = some (.pointer (some ⟨b,0,none⟩))∧Rv (w8.alloc (.cells #[.pointer (some ⟨bf,0,none⟩)] 28)) b (cqv k j) 45)∧Rv (w8.alloc (.cells #[.pointer (some ⟨bf,0,none⟩)] 28)) bf (cqv k i) 45∧Below Wz.heap.size Wz (w8.alloc (.cells #[.pointer (some ⟨bf,0,none⟩)] 28))∧Wz.heap.size≤w8.heap.size) :=
     ⟨hu,hx,r8.below ((Below.refl _ _).alloc (Nat.le_refl _) _),HP.out.2.trans (k89.mono HP.out.2.size),Nat.le_trans HP.out.2.size k8.size⟩
    clear r8 k8 k89 hu hx HP q1 HFi
    go_wp2_with (at_builtin; refine wpList_append_own_at _ rfl _ _ 31 rfl Wz.heap.size 28 i0 (.pointer none) 1 8 Tryz.undR HIn.out.1 HIn.out.2.1 HIn.out.2.2.1 HIn.out.2.2.2 rfl (by decide) ov i us rfl HU.out.1 ⟨w8.heap.size,0,none⟩ 1 1 [.pointer (some ⟨bf,0,none⟩)] rfl rfl (cell_one_new _ _ _) (by simp [Value.oneCell']) (by simp only [maxLen]; omega) (by omega) (by have:=HU.out.2.2.2.2; simp; omega) ?_; intro v' w9 hown hgrow _ hob)
    have HN:Hid (PO Wz.heap.size w9 v' (i + 1) (cqv k) 45∧Below Wz.heap.size Wz w9) :=
     ⟨PO.push HU.out.1 HU.out.2.1 HU.out.2.2.1 hown hgrow rfl,HU.out.2.2.2.1.grown hgrow HU.out.2.2.2.1.size (fun g e=>(HU.out.1.lt g e).1)⟩
    clear hown hgrow hob HU
    go_wp2
    go_roundg (K2 - (i + 1))
    case rel=>exact ⟨i + 1,_,rfl,by go_num,rfl,by have:=HLi.out; omega,HN.out⟩
    case measure=>have:=HG.out; have:=HLi.out; omega
   ·have ti:decide ((i:Int) < (K2:Int)) = false:=decide_eq_false (by omega)
    obtain rfl:K2 = i:=by omega
    obtain ⟨gC,cC,rfl,hcC,_,hgC,bq,hPR⟩:=HP.out.1.cellP (by have:=HK2.out; omega)
    have HR10:Hid (PR wr gC K2 bq (cqv k) 45∧K2≤cC∧Below Wz.heap.size Wz wr):=⟨hPR,hcC,HP.out.2⟩
    have HAt:Hid (∀ (m:Nat) (W:World),m≤1000000000000000000→Below wr.heap.size wr W→Calls Tryz.prog 25 #[.slice (some ⟨gC,0,none⟩) K2 cC,.int .i64 (m:Int)] W fun e w'=>∃ b,e = .returned (.pointer (some ⟨b,0,none⟩))∧Rv w' b (((BN.pk k m:Nat):Int):Rat) 234∧Below W.heap.size W w'):=fun m W hm kk=>by
     have hk2:=HK2.out
     have hPR2:=HR10.out.1.below kk
     have hc2:=HR10.out.2.1
     rw [hk2] at hPR2 hc2 ⊢
     refine (at_any gC (k + 2) cC m 45 bq (cqv k) W ⟨hPR2.cell,fun j hj=>(hPR2.rat j hj).le (by omega)⟩ (cb_cq k hk) (by omega) (by omega) (by omega) (by omega) hc2 hm).mono ?_
     rintro e w' ⟨b,rfl,hb1,hb2,hb3⟩
     rw [hj_pk k m hk] at hb2
     exact ⟨b,rfl,hb2.le (by omega),hb3⟩
    clear hPR hcC hgC HP
    obtain ⟨Wc,hWc⟩:∃ Wc,Wc = wr:=⟨_,rfl⟩
    rw [← hWc] at HR10 HAt ⊢
    clear hWc
    go_wp2
    go_loopg [15] (K2 + 1) (fun gk iv wx=>∃ m:Nat,iv = .int .i64 (m:Int)∧Hid (gk = K2 + 1 - m∧m≤K2 + 1∧Below Wc.heap.size Wc wx))
    case atStart=>exact ⟨0,rfl,rfl,by omega,Below.refl _ _⟩
    case round =>
     obtain ⟨m,rfl,HQ⟩:=hrel
     obtain ⟨h1,h2,h3⟩:=HQ.out
     have HG:Hid (gk = K2 + 1 - m):=h1
     have HX:Hid (Below Wc.heap.size Wc wr):=h3
     clear HQ h1 h3
     by_cases hm:m≤K2
     ·have HLm:Hid (m≤K2):=hm
      have ti:decide ((m:Int)≤(K2:Int)) = true:=decide_eq_true (by omega)
      have HCz:Hid (Wc.heap.size≤wr.heap.size):=HX.out.size
      go_wp2_with fail
      have HS0:Hid (RSlot (wr.alloc (.cells #[.bool false,.slice none 0 0,.bool false,.slice none 0 0] 39)) wr.heap.size∧Below Wc.heap.size Wc (wr.alloc (.cells #[.bool false,.slice none 0 0,.bool false,.slice none 0 0] 39))):=⟨RSlot.new _ _ _ _ _,HX.out.alloc HCz.out _⟩
      refine (Powered_any k m _ (by omega) (by omega)).mono ?_
      rintro e w11 ⟨b11,rfl,m11⟩
      have H11:Hid (RSlot w11 wr.heap.size∧BigAt w11 b11 ((BN.pk k m:Nat):Int)∧Below Wc.heap.size Wc w11):=⟨HS0.out.1.below m11.2.2,m11.2.1,HS0.out.2.trans (m11.2.2.mono HS0.out.2.size)⟩
      clear m11 HS0
      go_wp2_with fail
      refine (SetIntW wr.heap.size b11 ((BN.pk k m:Nat):Int) 18 w11 H11.out.1 H11.out.2.1 (by rw [Int.natAbs_natCast]; exact BN.pk_pw (by omega) (by omega)) (by omega) (by omega)).mono ?_
      rintro e w12 ⟨rfl,r12,u12⟩
      have H12:Hid (Rv w12 wr.heap.size (((BN.pk k m:Nat):Int):Rat) 18∧Below Wc.heap.size Wc w12):=⟨r12,u12.below2 H11.out.2.2 HCz.out H11.out.2.2.size⟩
      clear r12 u12 H11
      go_wp2_with fail
      refine (HAt.out m w12 (by omega) H12.out.2).mono ?_
      rintro e w13 ⟨b13,rfl,r13,k13⟩
      have H13:Hid (Rv w13 wr.heap.size (((BN.pk k m:Nat):Int):Rat) 234∧Rv w13 b13 (((BN.pk k m:Nat):Int):Rat) 234∧Below Wc.heap.size Wc w13):=⟨(H12.out.1.below k13).le (by omega),r13,H12.out.2.trans (k13.mono H12.out.2.size)⟩
      clear r13 k13 H12
      go_wp2_with fail
      refine (RCmpV wr.heap.size b13 _ _ 234 w13 H13.out.1 H13.out.2.1 (by omega)).mono ?_
      rintro e w14 ⟨⟨cc,rfl,hcc⟩,k14⟩
      have e14:(cc != 0) = false:=by rw [hcc.2 rfl]; rfl
      have H14:Hid (Below Wc.heap.size Wc w14):=H13.out.2.2.trans (k14.mono H13.out.2.2.size)
      clear hcc k14 H13
      go_wp2
      go_roundg (K2 + 1 - (m + 1))
      case rel=>exact ⟨m + 1,by go_num,rfl,by have:=HLm.out; omega,H14.out⟩
      case measure=>have:=HG.out; have:=HLm.out; omega
     ·have ti:decide ((m:Int)≤(K2:Int)) = false:=decide_eq_false (by omega)
      have HE:Hid (Below Wc.heap.size Wc wr):=HX.out
      clear HX HG
      have HEz:Hid (Below Wz.heap.size Wz wr):=HR10.out.2.2.trans (HE.out.mono HR10.out.2.2.size)
      obtain ⟨u0',u1',u2',u3',u4'⟩:=KZ.out.v.below HEz.out
      have HKz:Hid (Below w.heap.size w wr):=KZ.out.k.trans (HEz.out.mono KZ.out.k.size)
      clear HEz HE
      go_wp2
      go_ret
      exact ⟨rfl,HKz.out⟩
set_option maxHeartbeats 8000000 in
theorem sums_all (k n:Nat) (w:World) (hk:k≤60) (hn:n≤1000000000000000000) (hSs:SumsIs k w) (hSm:∀ W,Below w.heap.size w W→Calls Tryz.prog 20 #[.int .i64 (k:Int),.int .i64 (n:Int)] W fun e w'=>e = .returned (.tuple #[.string ⟨(Lib.decDigits (BN.pk k n)).toArray⟩,.agg #[.int .i64 0,.int .i64 0]])∧Below W.heap.size W w') (hBg:∀ W,Below w.heap.size w W→Calls Tryz.prog 8 #[] W fun e w'=>e = .returned (.bool true)∧Below W.heap.size W w') :
  Calls Tryz.prog 4 #[.int .i64 (k:Int),.int .i64 (n:Int)] w fun e w'=>e = .returned (.bool true)∧Below w.heap.size w w':=by
 obtain ⟨i0,hi,hz0,hz1,hz2⟩:=info_parts Tryz.infoRp
 have HIn:Hid (Tryz.prog.info? 28 = some i0∧i0.zero = some (.pointer none)∧i0.size = 1∧i0.bytes = 8):=⟨hi,hz0,hz1,hz2⟩
 clear hi hz0 hz1 hz2
 obtain ⟨K2,hK2⟩:∃ K2,K2 = k + 2:=⟨_,rfl⟩
 have hK2l:K2≤62:=by omega
 have hK2i:(k:Int) + 2 = (K2:Int):=by omega
 have HK2:Hid (K2 = k + 2):=hK2
 unfold SumsIs at hSs
 rw [← hK2] at hSs
 have HSs:Hid (Calls Tryz.prog 19 #[.int .i64 (k:Int)] w fun e w'=>∃ g cap,e = .returned (.tuple #[.slice (some ⟨g,0,none⟩) K2 cap,.agg #[.int .i64 0,.int .i64 0]])∧K2≤cap∧g < w'.heap.size∧(∀ i,i < K2→w'.cell? ⟨g,i,none⟩ = some (.string ⟨(vtx (cqv k i)).toArray⟩))∧Below w.heap.size w w'):=hSs
 obtain ⟨S,hS⟩:∃ S:ByteArray,S = ⟨(Lib.decDigits (BN.pk k n)).toArray⟩:=⟨_,rfl⟩
 have HSS:Hid (S = ⟨(Lib.decDigits (BN.pk k n)).toArray⟩):=hS
 have HSm:Hid (∀ W,Below w.heap.size w W→Calls Tryz.prog 20 #[.int .i64 (k:Int),.int .i64 (n:Int)] W fun e w'=>e = .returned (.tuple #[.string S,.agg #[.int .i64 0,.int .i64 0]])∧Below W.heap.size W w'):=by
  rw [hS]; exact hSm
 have HNb:Hid (∀ W,Calls Tryz.prog 21 #[.int .i64 (n:Int)] W fun e w'=>e = .returned (.bool true)∧w' = W):=fun W=>by
  refine (number_any (n:Int) W).mono ?_
  rintro e w' ⟨rfl,hw⟩
  refine ⟨?_,hw⟩
  have:numB (n:Int) = true:=by unfold numB; simp; omega
  rw [this]
 have e0:decide ((n:Int) < 0) = false:=decide_eq_false (by omega)
 clear hS
 have HBg:Hid (∀ W,Below w.heap.size w W→Calls Tryz.prog 8 #[] W fun e w'=>e = .returned (.bool true)∧Below W.heap.size W w'):=hBg
 have HNn:Hid (n≤1000000000000000000):=hn
 have HFr:Hid (∀ (i:Nat) (W:World),Calls Tryz.prog 10 #[.string ⟨(vtx (cqv k i)).toArray⟩] W fun e w'=>∃ b,e = .returned (.tuple #[.pointer (some ⟨b,0,none⟩),.bool true])∧Rv w' b (cqv k i) 45∧Below W.heap.size W w'):=fun i W=>by
  have hl:=val_le (v:=cqv k i) (cq_dn k) rfl
  have hd:(0:Int) < (((cqv k i).den:Nat):Int):=by have:=(cqv k i).den_pos; omega
  have l1:=Nat.lt_of_le_of_lt hl.1 (cf_pw k i hk)
  have l2:(((cqv k i).den:Nat):Int).natAbs < pw 45:=by rw [Int.natAbs_natCast]; exact Nat.lt_of_le_of_lt hl.2 (cq_b k hk)
  refine (Fraction_any (cqv k i).num (((cqv k i).den:Nat):Int) 45 W hd (by rw [Int.natAbs_natCast]; exact (cqv k i).reduced) l1 l2 (by omega) (by omega)).mono ?_
  rintro e w' ⟨b,rfl,h1,h2,h3⟩
  exact ⟨b,rfl,⟨_,_,h2,frac_val _,l1,l2⟩,h3⟩
 have d0:decide ((k:Int) < 0) = false:=decide_eq_false (by omega)
 have d1:decide (60 < (k:Int)) = false:=decide_eq_false (by omega)
 clear hSs hSm hBg hn hK2
 go_enter Tryz.func4,Tryz.ntmps4
 go_wp2_with fail
 refine HSs.out.mono ?_
 rintro e w1 ⟨gL,cL,rfl,hcL,hgL,hL,k1⟩
 have K1:Hid (Sv w1.heap.size 0 0 (w1.alloc (.cells #[.int .i64 0,.int .i64 0] 23))∧Below w.heap.size w (w1.alloc (.cells #[.int .i64 0,.int .i64 0] 23))∧w.heap.size≤w1.heap.size∧Below w1.heap.size w1 (w1.alloc (.cells #[.int .i64 0,.int .i64 0] 23))):=⟨Sv.new 0 0 w1,k1.alloc k1.size _,k1.size,(Below.refl _ _).alloc (Nat.le_refl _) _⟩
 have HL1:Hid (∀ W,Below w1.heap.size w1 W→∀ i,i < K2→W.cell? ⟨gL,i,none⟩ = some (.string ⟨(vtx (cqv k i)).toArray⟩)):=fun W kk i hi=>(kk.cell (p:=⟨gL,i,none⟩) hgL).trans (hL i hi)
 have HcL:Hid (K2≤cL):=hcL
 clear k1 HSs hgL hL hcL
 go_wp2_with fail
 refine (HSm.out _ K1.out.2.1).mono ?_
 rintro e w2 ⟨rfl,k2⟩
 have z2:=K1.out.1.below k2 |>.lt
 have K2':Hid (Sv w1.heap.size 0 0 w2∧Below w.heap.size w w2∧w.heap.size≤w1.heap.size∧Below w1.heap.size w1 w2):=⟨K1.out.1.below k2,K1.out.2.1.trans (k2.mono K1.out.2.1.size),K1.out.2.2.1,K1.out.2.2.2.trans (k2.mono (by simp))⟩
 clear k2 K1 HSm
 obtain ⟨b6,hb6⟩:∃ b,b = w1.heap.size:=⟨_,rfl⟩
 have HB6:Hid (b6 = w1.heap.size):=hb6
 rw [← hb6] at K2' HL1 z2 ⊢
 clear hb6
 obtain ⟨b8,hb8⟩:∃ b,b = w2.heap.size:=⟨_,rfl⟩
 obtain ⟨W3,hW3⟩:∃ W,W = ((w2.alloc (.cells #[.int .i64 0,.int .i64 0] 23)).alloc (.cells #[.int .i64 0,.int .i64 0] 23)).alloc (.cells #[.int .i64 0,.int .i64 0] 23):=⟨_,rfl⟩
 have K23:Below w2.heap.size w2 W3:=by rw [hW3]; exact (((Below.refl _ _).alloc (Nat.le_refl _) _).alloc (by simp) _).alloc (by simp; omega) _
 have K3:Hid (S4 w W3 b6 b8 (b8 + 1) (b8 + 1 + 1) 0 0 0 0 0 0 0 0):=by
  have h1:=Sv.new 0 0 (w2.alloc (.cells #[.int .i64 0,.int .i64 0] 23))
  have h2:=Sv.new 0 0 ((w2.alloc (.cells #[.int .i64 0,.int .i64 0] 23)).alloc (.cells #[.int .i64 0,.int .i64 0] 23))
  have h3:=K2'.out.2.1.size
  refine ⟨K2'.out.1.below K23,?_,?_,?_,K2'.out.2.1.trans (K23.mono h3)⟩
  ·rw [hW3,hb8]; exact ((Sv.new 0 0 w2).alloc _ _).alloc _ _
  ·rw [hW3,hb8]; have:=h1.alloc #[.int .i64 0,.int .i64 0] 23; simpa using this
  ·rw [hW3,hb8]; simpa using h2
 have K13:Hid (Below w1.heap.size w1 W3):=by
  have:=K2'.out.2.2.2
  rw [HB6.out] at this
  exact this.trans (K23.mono this.size)
 have HW3:Hid (W3 = ((w2.alloc (.cells #[.int .i64 0,.int .i64 0] 23)).alloc (.cells #[.int .i64 0,.int .i64 0] 23)).alloc (.cells #[.int .i64 0,.int .i64 0] 23)∧b8 = w2.heap.size):=⟨hW3,hb8⟩
 clear K2' K23 hW3 hb8
 go_wp2_with fail
 rw [← HW3.out.1,← HW3.out.2]
 clear HW3
 refine (HNb.out _).mono ?_
 rintro e wn ⟨rfl,hwn⟩
 subst hwn
 obtain ⟨r0,r1,r2,r3,r4⟩:=K3.out.f
 obtain ⟨s0,s1,s2,s3,s4⟩:=K3.out.g
 obtain ⟨t0,t1,t2,t3,t4⟩:=K3.out.u
 obtain ⟨u0,u1,u2,u3,u4⟩:=K3.out.v
 go_wp2_with fail
 refine (HBg.out _ K3.out.k).mono ?_
 clear r0 r1 r2 r3 r4 s0 s1 s2 s3 s4 t0 t1 t2 t3 t4 u0 u1 u2 u3 u4
 rintro e Wz ⟨rfl,kz⟩
 have KZ:Hid (S4 w Wz b6 b8 (b8 + 1) (b8 + 1 + 1) 0 0 0 0 0 0 0 0):=K3.out.below kz
 have HL:Hid (∀ W,Below Wz.heap.size Wz W→∀ i,i < K2→W.cell? ⟨gL,i,none⟩ = some (.string ⟨(vtx (cqv k i)).toArray⟩)):=fun W kk i hi=>HL1.out W (by
  have h6:=HB6.out
  have k5:=K13.out
  have z5:=k5.size
  rw [h6]
  exact (k5.trans (kz.mono (by omega))).trans (kk.mono (by have:=kz.size; omega))) i hi
 clear kz K3 K13 HBg HL1 HNb
 obtain ⟨r0,r1,r2,r3,r4⟩:=KZ.out.f
 obtain ⟨s0,s1,s2,s3,s4⟩:=KZ.out.g
 obtain ⟨t0,t1,t2,t3,t4⟩:=KZ.out.u
 obtain ⟨u0,u1,u2,u3,u4⟩:=KZ.out.v
 -- the fractions are read
 go_wp2
 go_loopg [11,12] K2 (fun gk lv iv wx=>∃ (i:Nat) (ov:Value),lv = ov∧iv = .int .i64 (i:Int)∧Hid (gk = K2 - i∧i≤K2∧PO Wz.heap.size wx ov i (cqv k) 45∧Below Wz.heap.size Wz wx))
 case atStart=>exact ⟨0,_,rfl,rfl,rfl,by omega,⟨[],World.ownsRow_nil _ _ _ _,fun j hj=>by omega⟩,Below.refl _ _⟩
 case round =>
  obtain ⟨i,ov,hov,rfl,HQ⟩:=hrel
  have h2:=hov.symm
  subst h2
  obtain ⟨h1,hiK,h3,h4⟩:=HQ.out
  have HG:Hid (gk = K2 - i):=h1
  have HP:Hid (PO Wz.heap.size wr ov i (cqv k) 45∧Below Wz.heap.size Wz wr):=⟨h3,h4⟩
  clear HQ h1 h3 h4
  by_cases hi:i < K2
  ·have HLi:Hid (i < K2):=hi
   have ti:decide ((i:Int) < (K2:Int)) = true:=decide_eq_true (by omega)
   obtain ⟨st,hst⟩:∃ st:ByteArray,st = ⟨(vtx (cqv k i)).toArray⟩:=⟨_,rfl⟩
   have q1:wr.cell? ⟨gL,i,none⟩ = some (.string st):=by rw [hst]; exact HL.out wr HP.out.2 i hi
   have HFi:Hid (∀ W,Calls Tryz.prog 10 #[.string st] W fun e w'=>∃ b,e = .returned (.tuple #[.pointer (some ⟨b,0,none⟩),.bool true])∧Rv w' b (cqv k i) 45∧Below W.heap.size W w'):=fun W=>by rw [hst]; exact HFr.out i W
   clear hst
   go_wp2_with fail
   refine (HFi.out wr).mono ?_
   rintro e w8 ⟨bf,rfl,r8,k8⟩
   have k89:Below wr.heap.size wr (w8.alloc (.cells #[.pointer (some ⟨bf,0,none⟩)] 28)):=k8.alloc k8.size _
   obtain ⟨us,hu,hx⟩:=HP.out.1.below k89
   have HU:Hid ((w8.alloc (.cells #[.pointer (some ⟨bf,0,none⟩)] 28)).ownsRow Wz.heap.size 28 1 ov i us∧(∀ j,j < i→∃ b,us[j]? = some (.pointer (some ⟨b,0,none⟩))∧Rv (w8.alloc (.cells #[.pointer (some ⟨bf,0,none⟩)] 28)) b (cqv k j) 45)∧Rv (w8.alloc (.cells #[.pointer (some ⟨bf,0,none⟩)] 28)) bf (cqv k i) 45∧Below Wz.heap.size Wz (w8.alloc (.cells #[.pointer (some ⟨bf,0,none⟩)] 28))∧Wz.heap.size≤w8.heap.size) :=
    ⟨hu,hx,r8.below ((Below.refl _ _).alloc (Nat.le_refl _) _),HP.out.2.trans (k89.mono HP.out.2.size),Nat.le_trans HP.out.2.size k8.size⟩
   clear r8 k8 k89 hu hx HP q1 HFi
   go_wp2_with (at_builtin; refine wpList_append_own_at _ rfl _ _ 31 rfl Wz.heap.size 28 i0 (.pointer none) 1 8 Tryz.undR HIn.out.1 HIn.out.2.1 HIn.out.2.2.1 HIn.out.2.2.2 rfl (by decide) ov i us rfl HU.out.1 ⟨w8.heap.size,0,none⟩ 1 1 [.pointer (some ⟨bf,0,none⟩)] rfl rfl (cell_one_new _ _ _) (by simp [Value.oneCell']) (by simp only [maxLen]; omega) (by omega) (by have:=HU.out.2.2.2.2; simp; omega) ?_; intro v' w9 hown hgrow _ hob)
   have HN:Hid (PO Wz.heap.size w9 v' (i + 1) (cqv k) 45∧Below Wz.heap.size Wz w9) :=
    ⟨PO.push HU.out.1 HU.out.2.1 HU.out.2.2.1 hown hgrow rfl,HU.out.2.2.2.1.grown hgrow HU.out.2.2.2.1.size (fun g e=>(HU.out.1.lt g e).1)⟩
   clear hown hgrow hob HU
   go_wp2
   go_roundg (K2 - (i + 1))
   case rel=>exact ⟨i + 1,_,rfl,by go_num,rfl,by have:=HLi.out; omega,HN.out⟩
   case measure=>have:=HG.out; have:=HLi.out; omega
  ·have ti:decide ((i:Int) < (K2:Int)) = false:=decide_eq_false (by omega)
   obtain rfl:K2 = i:=by omega
   obtain ⟨gC,cC,rfl,hcC,_,hgC,bq,hPR⟩:=HP.out.1.cellP (by have:=HK2.out; omega)
   have HR10:Hid (PR wr gC K2 bq (cqv k) 45∧K2≤cC∧Below Wz.heap.size Wz wr):=⟨hPR,hcC,HP.out.2⟩
   have HAt:Hid (∀ (m:Nat) (W:World),m≤1000000000000000000→Below wr.heap.size wr W→Calls Tryz.prog 25 #[.slice (some ⟨gC,0,none⟩) K2 cC,.int .i64 (m:Int)] W fun e w'=>∃ b,e = .returned (.pointer (some ⟨b,0,none⟩))∧Rv w' b (((BN.pk k m:Nat):Int):Rat) 234∧Below W.heap.size W w'):=fun m W hm kk=>by
    have hk2:=HK2.out
    have hPR2:=HR10.out.1.below kk
    have hc2:=HR10.out.2.1
    rw [hk2] at hPR2 hc2 ⊢
    refine (at_any gC (k + 2) cC m 45 bq (cqv k) W ⟨hPR2.cell,fun j hj=>(hPR2.rat j hj).le (by omega)⟩ (cb_cq k hk) (by omega) (by omega) (by omega) (by omega) hc2 hm).mono ?_
    rintro e w' ⟨b,rfl,hb1,hb2,hb3⟩
    rw [hj_pk k m hk] at hb2
    exact ⟨b,rfl,hb2.le (by omega),hb3⟩
   clear hPR hcC hgC HP
   obtain ⟨Wc,hWc⟩:∃ Wc,Wc = wr:=⟨_,rfl⟩
   rw [← hWc] at HR10 HAt ⊢
   clear hWc
   go_wp2
   go_loopg [15] (K2 + 1) (fun gk iv wx=>∃ m:Nat,iv = .int .i64 (m:Int)∧Hid (gk = K2 + 1 - m∧m≤K2 + 1∧Below Wc.heap.size Wc wx))
   case atStart=>exact ⟨0,rfl,rfl,by omega,Below.refl _ _⟩
   case round =>
    obtain ⟨m,rfl,HQ⟩:=hrel
    obtain ⟨h1,h2,h3⟩:=HQ.out
    have HG:Hid (gk = K2 + 1 - m):=h1
    have HX:Hid (Below Wc.heap.size Wc wr):=h3
    clear HQ h1 h3
    by_cases hm:m≤K2
    ·have HLm:Hid (m≤K2):=hm
     have ti:decide ((m:Int)≤(K2:Int)) = true:=decide_eq_true (by omega)
     have HCz:Hid (Wc.heap.size≤wr.heap.size):=HX.out.size
     go_wp2_with fail
     have HS0:Hid (RSlot (wr.alloc (.cells #[.bool false,.slice none 0 0,.bool false,.slice none 0 0] 39)) wr.heap.size∧Below Wc.heap.size Wc (wr.alloc (.cells #[.bool false,.slice none 0 0,.bool false,.slice none 0 0] 39))):=⟨RSlot.new _ _ _ _ _,HX.out.alloc HCz.out _⟩
     refine (Powered_any k m _ (by omega) (by omega)).mono ?_
     rintro e w11 ⟨b11,rfl,m11⟩
     have H11:Hid (RSlot w11 wr.heap.size∧BigAt w11 b11 ((BN.pk k m:Nat):Int)∧Below Wc.heap.size Wc w11):=⟨HS0.out.1.below m11.2.2,m11.2.1,HS0.out.2.trans (m11.2.2.mono HS0.out.2.size)⟩
     clear m11 HS0
     go_wp2_with fail
     refine (SetIntW wr.heap.size b11 ((BN.pk k m:Nat):Int) 18 w11 H11.out.1 H11.out.2.1 (by rw [Int.natAbs_natCast]; exact BN.pk_pw (by omega) (by omega)) (by omega) (by omega)).mono ?_
     rintro e w12 ⟨rfl,r12,u12⟩
     have H12:Hid (Rv w12 wr.heap.size (((BN.pk k m:Nat):Int):Rat) 18∧Below Wc.heap.size Wc w12):=⟨r12,u12.below2 H11.out.2.2 HCz.out H11.out.2.2.size⟩
     clear r12 u12 H11
     go_wp2_with fail
     refine (HAt.out m w12 (by omega) H12.out.2).mono ?_
     rintro e w13 ⟨b13,rfl,r13,k13⟩
     have H13:Hid (Rv w13 wr.heap.size (((BN.pk k m:Nat):Int):Rat) 234∧Rv w13 b13 (((BN.pk k m:Nat):Int):Rat) 234∧Below Wc.heap.size Wc w13):=⟨(H12.out.1.below k13).le (by omega),r13,H12.out.2.trans (k13.mono H12.out.2.size)⟩
     clear r13 k13 H12
     go_wp2_with fail
     refine (RCmpV wr.heap.size b13 _ _ 234 w13 H13.out.1 H13.out.2.1 (by omega)).mono ?_
     rintro e w14 ⟨⟨cc,rfl,hcc⟩,k14⟩
     have e14:(cc != 0) = false:=by rw [hcc.2 rfl]; rfl
     have H14:Hid (Below Wc.heap.size Wc w14):=H13.out.2.2.trans (k14.mono H13.out.2.2.size)
     clear hcc k14 H13
     go_wp2
     go_roundg (K2 + 1 - (m + 1))
     case rel=>exact ⟨m + 1,by go_num,rfl,by have:=HLm.out; omega,H14.out⟩
     case measure=>have:=HG.out; have:=HLm.out; omega
    ·have ti:decide ((m:Int)≤(K2:Int)) = false:=decide_eq_false (by omega)
     have HE:Hid (Below Wc.heap.size Wc wr):=HX.out
     clear HX HG
     have HEz:Hid (Below Wz.heap.size Wz wr):=HR10.out.2.2.trans (HE.out.mono HR10.out.2.2.size)
     obtain ⟨u0',u1',u2',u3',u4'⟩:=KZ.out.v.below HEz.out
     have HKz:Hid (Below w.heap.size w wr):=KZ.out.k.trans (HEz.out.mono KZ.out.k.size)
     clear HEz
     go_wp2_with fail
     refine (HAt.out n wr HNn.out HE.out).mono ?_
     rintro e w15 ⟨b15,rfl,r15,k15⟩
     have H15:Hid (Rv w15 b15 (((BN.pk k n:Nat):Int):Rat) 234∧Below w.heap.size w w15):=⟨r15,HKz.out.trans (k15.mono HKz.out.size)⟩
     clear r15 k15 HE HKz
     go_wp2_with fail
     have hrs:=RatStringV b15 (((BN.pk k n:Nat):Int):Rat) 234 w15 H15.out.1 (by omega) (by omega)
     rw [vtx_nat,← HSS.out] at hrs
     refine hrs.mono ?_
     rintro e w16 ⟨rfl,k16⟩
     have H16:Hid (Below w.heap.size w w16):=H15.out.2.trans (k16.mono H15.out.2.size)
     clear hrs k16 H15
     by_cases h3:300 < n
     ·have e3:decide (300 < (n:Int)) = true:=decide_eq_true (by omega)
      go_wp2
      go_ret
      exact ⟨rfl,H16.out⟩
     ·have e3:decide (300 < (n:Int)) = false:=decide_eq_false (by omega)
      have HN3:Hid (n≤300):=by show _≤_; omega
      go_wp2_with fail
      refine (Powered_any k n w16 hk HN3.out).mono ?_
      rintro e w17 ⟨b17,rfl,m17⟩
      have H17:Hid (BigAt w17 b17 ((BN.pk k n:Nat):Int)∧Below w.heap.size w w17):=⟨m17.2.1,H16.out.trans (m17.2.2.mono H16.out.size)⟩
      clear m17 H16
      go_wp2_with fail
      have hI:=IString_any b17 ((BN.pk k n:Nat):Int) 18 w17 H17.out.1 (by rw [Int.natAbs_natCast]; exact BN.pk_pw hk HN3.out) (by omega) (by omega)
      rw [decZ_nat,← HSS.out] at hI
      refine hI.mono ?_
      rintro e w18 ⟨rfl,k18⟩
      have H18:Hid (Below w.heap.size w w18):=H17.out.2.trans (k18.mono H17.out.2.size)
      clear hI k18 H17
      go_wp2
      go_ret
      exact ⟨rfl,H18.out⟩
end
section
set_option maxRecDepth 100000
open Go.RowKit LgM
theorem bern_sums (k n:Int) (w:World) (hQ:Tq w) (hT:Tb w) :
  Calls Tryz.prog 4 #[.int .i64 k,.int .i64 n] w fun e w'=>e = .returned (.bool true)∧Below w.heap.size w w':=by
 have hB:∀ W,Below w.heap.size w W→Calls Tryz.prog 8 #[] W fun e w'=>e = .returned (.bool true)∧Below W.heap.size W w':=fun W kk=>bernBegun_of W (Number_ok 12 W (by omega) (hT.below kk) (hQ.below kk))
 by_cases h1:k < 0∨60 < k
 ·exact sums_bad k n w h1 (Sums_bad k w h1) (fun W=>Sum_bad0 k n W h1) hB
 ·obtain ⟨k',rfl⟩:∃ k':Nat,k = k':=⟨k.toNat,by omega⟩
  by_cases h2:n < 0∨1000000000000000000 < n
  ·exact sums_half k' n w (by omega) h2 (Sums_ok k' w (by omega) hT hQ) (fun W=>Sum_bad1 k' n W (by omega) h2) hB
  ·obtain ⟨n',rfl⟩:∃ n':Nat,n = n':=⟨n.toNat,by omega⟩
   exact sums_all k' n' w (by omega) (by omega) (Sums_ok k' w (by omega) hT hQ) (fun W kk=>Sum_ok k' n' W (by omega) (by omega) (hT.below kk) (hQ.below kk)) hB
end
end Go.Proofs.YtnkjadpmigpneaaGreatDoor
