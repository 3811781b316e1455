import Derived.Test.YtnkjadpmigpneaaGreatDoorJsJ
import Derived.Test.YtnkjadpmigpneaaGreatDoorJsT
import Derived.Test.YtnkjadpmigpneaaGreatDoorJsZ
import Derived.Deep.LoopGhost
import Derived.Test.YtnkjadpmigpneaaGreatDoorBnY
import Derived.Maps.AppendAt
import Derived.Test.YtnkjadpmigpneaaGreatDoorJsK
import Derived.Test.YtnkjadpmigpneaaGreatDoorJsG
set_option linter.unusedSimpArgs false
set_option linter.unusedVariables false
namespace Go.Proofs.YtnkjadpmigpneaaGreatDoor
section
set_option maxRecDepth 100000
open Go.RowKit
theorem ch_pw {n k:Nat} (hn:n≤201):BN.ch n k < pw 7:=Nat.lt_of_le_of_lt (BN.ch_le n k) (Nat.lt_of_le_of_lt (Nat.pow_le_pow_right (by decide) hn) (by decide +kernel))
theorem ch_quo {n i:Nat} (h:i < n + 1):(((BN.ch n i:Nat):Int) * ((n:Int) - i)).tdiv ((i:Int) + 1) = ((BN.ch n (i + 1):Nat):Int):=by
 have h1:=BN.ch_step n i (by omega)
 have h2:((BN.ch n i:Nat):Int) * ((n:Int) - i) = ((BN.ch n (i + 1) * (i + 1):Nat):Int):=by
  rw [← h1,Int.natCast_mul,show ((n - i:Nat):Int) = (n:Int) - i by omega]
 rw [h2,Int.natCast_mul]
 exact Int.mul_tdiv_cancel _ (by omega)
set_option maxHeartbeats 2000000 in
theorem Choose_any (n k:Nat) (w:World) (hk:k≤n) (hn:n≤201) :
  Calls Tryz.prog 42 #[.int .i64 (n:Int),.int .i64 (k:Int)] w fun e w'=>∃ b,e = .returned (.pointer (some ⟨b,0,none⟩))∧Made w w' b ((BN.ch n k:Nat):Int):=by
 go_enter Tryz.func42,Tryz.ntmps42
 go_wp2_with fail
 refine (B_any 1 w (by omega) (by omega)).mono ?_
 rintro e w1 ⟨b,rfl,m1⟩
 have HB:Hid (w.heap.size≤b∧BigAt w1 b ((BN.ch n 0:Nat):Int)∧Below w.heap.size w w1):=⟨m1.1,by rw [BN.ch_zero]; exact m1.2.1,m1.2.2⟩
 clear m1
 go_wp2
 go_loopg [6] k (fun gk iv wx=>∃ i:Nat,iv = .int .i64 (i:Int)∧Hid (gk = k - i∧i≤k∧BigAt wx b ((BN.ch n i:Nat):Int)∧Below w.heap.size w wx))
 case atStart=>exact ⟨0,rfl,rfl,by omega,HB.out.2.1,HB.out.2.2⟩
 case round =>
  obtain ⟨i,rfl,HR⟩:=hrel
  obtain ⟨h1,h2,h3,h4⟩:=HR.out
  have HK:Hid (gk = k - i):=h1
  have HX:Hid (w.heap.size≤b∧BigAt wr b ((BN.ch n i:Nat):Int)∧Below w.heap.size w wr):=⟨HB.out.1,h3,h4⟩
  clear HR h1 h3 h4
  by_cases hi:i < k
  ·have ti:decide ((i:Int) < (k:Int)) = true:=decide_eq_true (by omega)
   have e1:IntKind.i64.wrap ((n:Int) - (i:Int)) = (n:Int) - (i:Int):=by rw [IntKind.wrap_i64]; omega
   go_wp2_with fail
   refine (B_any ((n:Int) - (i:Int)) wr (by omega) (by omega)).mono ?_
   rintro e w2 ⟨b2,rfl,m2⟩
   have HX2:Hid (BigAt w2 b ((BN.ch n i:Nat):Int)∧BigAt w2 b2 ((n:Int) - (i:Int))∧Below w.heap.size w w2):=⟨HX.out.2.1.below m2.2.2 (Nat.le_refl _),m2.2.1,HX.out.2.2.trans (m2.2.2.mono HX.out.2.2.size)⟩
   clear m2
   go_wp2_with fail
   refine (Mul_any b b b2 _ _ 7 2 w2 HX2.out.1.slot HX2.out.1 HX2.out.2.1 (by have:=@ch_pw n i hn; omega) (lt_pw2 (by omega) (by omega)) (by omega) (by omega)).mono ?_
   rintro e w3 ⟨rfl,m3,u3⟩
   have HX3:Hid (BigAt w3 b (((BN.ch n i:Nat):Int) * ((n:Int) - (i:Int)))∧Below w.heap.size w w3):=⟨m3,HX2.out.2.2.trans (u3.below HX2.out.2.2.size HX.out.1)⟩
   clear m3 u3 HX2
   go_wp2_with fail
   refine (B_any ((i:Int) + 1) w3 (by omega) (by omega)).mono ?_
   rintro e w4 ⟨b4,rfl,m4⟩
   have HX4:Hid (BigAt w4 b (((BN.ch n i:Nat):Int) * ((n:Int) - (i:Int)))∧BigAt w4 b4 ((i:Int) + 1)∧Below w.heap.size w w4):=⟨HX3.out.1.below m4.2.2 (Nat.le_refl _),m4.2.1,HX3.out.2.trans (m4.2.2.mono HX3.out.2.size)⟩
   clear m4 HX3
   go_wp2_with fail
   refine (Quo_any b b b4 _ _ 9 2 w4 HX4.out.1.slot HX4.out.1 HX4.out.2.1 (by omega) (mulN_lt (show (((BN.ch n i:Nat):Int)).natAbs < pw 7 by have:=@ch_pw n i hn; omega) (lt_pw2 (by omega) (by omega))) (lt_pw2 (by omega) (by omega)) (by omega) (by omega)).mono ?_
   rintro e w5 ⟨rfl,m5,u5⟩
   have HX5:Hid (BigAt w5 b ((BN.ch n (i + 1):Nat):Int)∧Below w.heap.size w w5):=⟨by rw [← ch_quo (by omega)]; exact m5,HX4.out.2.2.trans (u5.below HX4.out.2.2.size HX.out.1)⟩
   clear m5 u5 HX4 HX
   go_wp2
   go_roundg (k - (i + 1))
   case rel=>exact ⟨i + 1,by go_num,rfl,by omega,HX5.out.1,HX5.out.2⟩
   case measure=>have:=HK.out; omega
  ·have ti:decide ((i:Int) < (k:Int)) = false:=decide_eq_false (by omega)
   obtain rfl:i = k:=by omega
   go_wp2
   go_ret
   exact ⟨b,rfl,HX.out.1,HX.out.2.1,HX.out.2.2⟩
end
section
set_option maxRecDepth 100000
open Go.RowKit
theorem Tryz.undR:Tryz.prog.underlying 31 = some (.slice 28):=by kernel_rfl
theorem Tryz.infoRp:(Tryz.prog.info? 28).map (fun i=>(i.zero,i.size,i.bytes)) = some (some (.pointer none),1,8):=by kernel_rfl
def RowP (w:World) (row:Option Nat):Prop:=∀ g,row = some g→∃ arr fr,w.heap[g]? = some (.cells arr 28 fr)
theorem Sl.rowedP {w w':World} {s:Value} {l:List Nat} {row:Option Nat} (h:Sl w s l) (hg:w.grownBy w' row) (hr:RowP w row):Sl w' s l:=by
 refine ⟨h.small,?_⟩
 rcases h.shape with h1 | ⟨g,cap,C,h1,h2,h3,h4⟩
 ·exact Or.inl h1
 ·refine Or.inr ⟨g,cap,C,h1,h2,?_,h4⟩
  rw [hg.block g (lt_of_some h3) ?_]; exact h3
  intro e
  obtain ⟨arr,fr,h5⟩:=hr g e.symm
  rw [h3] at h5; simp at h5
theorem NS.rowedP {w w':World} {s:Value} {n:Nat} {row:Option Nat} (h:NS w s n) (hg:w.grownBy w' row) (hr:RowP w row):NS w' s n:=by
 obtain ⟨l,h1,h2⟩:=h; exact ⟨l,h1.rowedP hg hr,h2⟩
theorem Rt.rowedP {w w':World} {b:Nat} {P Q:Int} {row:Option Nat} (h:Rt w b P Q) (hg:w.grownBy w' row) (hr:RowP w row):Rt w' b P Q:=by
 obtain ⟨⟨s,t,h1,h2,h3⟩,h4,h5⟩:=h
 refine ⟨⟨s,t,?_,h2.rowedP hg hr,h3.rowedP hg hr⟩,h4,h5⟩
 exact (hg.block b h1.lt (fun e=>by
  obtain ⟨arr,fr,h6⟩:=hr b e.symm
  have h7:w.heap[b]? = some (.cells _ 39):=h1
  rw [h7] at h6; simp at h6)).trans h1
theorem Rv.rowedP {w w':World} {b:Nat} {v:Rat} {m:Nat} {row:Option Nat} (h:Rv w b v m) (hg:w.grownBy w' row) (hr:RowP w row):Rv w' b v m:=by
 obtain ⟨P,Q,h,r⟩:=h; exact ⟨P,Q,h.rowedP hg hr,r⟩
def PO (B:Nat) (w:World) (v:Value) (N:Nat) (cs:Nat→Rat) (M:Nat):Prop:=∃ us:List Value,w.ownsRow B 28 1 v N us∧∀ j,j < N→∃ b,us[j]? = some (.pointer (some ⟨b,0,none⟩))∧Rv w b (cs j) M
theorem rowP_of {B:Nat} {w:World} {v:Value} {N:Nat} {us:List Value} (h:w.ownsRow B 28 1 v N us):RowP w v.ownBlock:=by
 intro g e
 obtain ⟨_,⟨h2,_⟩ | ⟨g2,cap,cur,e1,e2,e3,_⟩⟩:=h
 ·rw [h2] at e; simp [Value.ownBlock] at e
 ·rw [e1] at e; simp [Value.ownBlock] at e; subst e; exact ⟨_,_,e3⟩
theorem row_bel3 {B e n size:Nat} {v:Value} {xs:List Value} {w w':World} (h:w.ownsRow B e size v n xs) (k:Below w.heap.size w w'):w'.ownsRow B e size v n xs:=by
 refine ⟨h.1,?_⟩
 rcases h.2 with h2 | ⟨g,cap,cur,h2,h3,h4,rest⟩
 ·exact .inl h2
 ·exact .inr ⟨g,cap,cur,h2,h3,(k.block g (lt_of_some h4)).trans h4,rest⟩
theorem PO.push {B N M b:Nat} {w w':World} {v v':Value} {cs:Nat→Rat} {y:Rat} {us:List Value} (hu:w.ownsRow B 28 1 v N us) (hx:∀ j,j < N→∃ b,us[j]? = some (.pointer (some ⟨b,0,none⟩))∧Rv w b (cs j) M) (hn:Rv w b y M) (hown:w'.ownsRow B 28 1 v' (N + 1) (us ++ [.pointer (some ⟨b,0,none⟩)])) (hg:w.grownBy w' v.ownBlock) (e2:cs N = y):PO B w' v' (N + 1) cs M:=by
 have hr:=rowP_of hu
 refine ⟨_,hown,fun j hj=>?_⟩
 have hl:us.length = N:=by have:=hu.1; omega
 by_cases e:j = N
 ·subst e
  rw [e2]
  refine ⟨b,?_,hn.rowedP hg hr⟩
  rw [List.getElem?_append_right (by omega),hl]; simp
 ·obtain ⟨c,c1,c2⟩:=hx j (by omega)
  refine ⟨c,?_,c2.rowedP hg hr⟩
  rw [List.getElem?_append_left (by omega)]; exact c1
theorem PO.cellP {B N M:Nat} {w:World} {v:Value} {cs:Nat→Rat} (h:PO B w v N cs M) (h0:0 < N):∃ g cap,v = .slice (some ⟨g,0,none⟩) N cap∧N≤cap∧B≤g∧g < w.heap.size∧∃ bq:Nat→Nat,PR w g N bq cs M:=by
 obtain ⟨us,⟨hl,⟨h1,h2⟩ | ⟨g,cap,cur,e1,e2,e3,e4,e5,e6,e7⟩⟩,h3⟩:=h
 ·subst h2
  simp at hl
  omega
 ·refine ⟨g,cap,e1,e4,e2,lt_of_some e3,?_⟩
  have key:∀ i,i < N→∃ b,w.cell? ⟨g,i,none⟩ = some (.pointer (some ⟨b,0,none⟩))∧Rv w b (cs i) M:=by
   intro i hi
   obtain ⟨b,c1,c2⟩:=h3 i hi
   refine ⟨b,?_,c2⟩
   have h4:(cur.toList.take (N * 1))[i]? = us[i]?:=by rw [e7]
   rw [List.getElem?_take,if_pos (by omega)] at h4
   simp only [World.cell?,e3]
   rw [← Array.getElem?_toList,h4,c1]; rfl
  exact ⟨fun i=>if h:i < N then (key i h).choose else 0,fun i hi=>by simp only [hi,dite_true]; exact (key i hi).choose_spec.1,fun i hi=>by simp only [hi,dite_true]; exact (key i hi).choose_spec.2⟩
end
section
set_option maxRecDepth 100000
open Go.RowKit
theorem BigAt.updR {b z:Nat} {w w':World} {n:Int} (h:BigAt w b n) (u:Upd z w w') (hz:RSlot w z) (hne:b ≠ z):BigAt w' b n:=by
 obtain ⟨s,h1,h2⟩:=h
 obtain ⟨x0,x1,x2,x3,hc⟩:=hz
 exact ⟨s,by rw [u.block b (lt_of_some h1) hne]; exact h1,h2.updR u hc⟩
theorem Upd.below2 {b B:Nat} {x w w':World} (h:Upd b w w') (k:Below B x w) (h2:B≤b) (hB:B≤w.heap.size:=by omega):Below B x w':=k.trans (h.below hB h2)
def sn (m j:Nat):Int:=BN.sm (fun i=>((BN.ch (m + 1) i:Nat):Int) * BN.bt i) j
def sv (m j:Nat):Rat:=((sn m j:Int):Rat) / (((BN.dN:Nat):Int):Rat)
def tv (m j:Nat):Rat:=(((BN.ch (m + 1) j:Nat):Int):Rat) * bnv j
theorem tv_eq (m j:Nat):(((((BN.ch (m + 1) j:Nat):Int) * BN.bt j:Int):Int):Rat) / (((BN.dN:Nat):Int):Rat) = tv m j:=by
 unfold tv bnv
 rw [Rat.intCast_mul]
 have:=rne (show (((BN.dN:Nat):Int)) ≠ 0 by have:=dN_pos; omega)
 grind
theorem sv_step (m j:Nat):sv m j + tv m j = sv m (j + 1):=by
 rw [← tv_eq]
 unfold sv
 have e:sn m (j + 1) = sn m j + ((BN.ch (m + 1) j:Nat):Int) * BN.bt j:=rfl
 rw [e,Rat.intCast_add]
 have:=rne (show (((BN.dN:Nat):Int)) ≠ 0 by have:=dN_pos; omega)
 grind
theorem sv_zero (m:Nat):sv m 0 = 0:=by
 unfold sv sn BN.sm
 have:=rne (show (((BN.dN:Nat):Int)) ≠ 0 by have:=dN_pos; omega)
 rw [Rat.intCast_zero]
 grind
theorem sv_end {m:Nat} (h1:1≤m) (h2:m≤200) : -(sv m m) / ((m + 1:Nat):Rat) = bnv m:=by
 have e:sn m m = -(((m:Int) + 1) * BN.bt m):=BN.tab_rec m h1 h2
 unfold sv bnv
 rw [e]
 have h3:=rne (show (((BN.dN:Nat):Int)) ≠ 0 by have:=dN_pos; omega)
 have h4:(((m:Int) + 1:Int):Rat) = ((m + 1:Nat):Rat):=by
  rw [Rat.intCast_add]; rw [Rat.natCast_add]; rfl
 have h5:=rne (show ((m:Int) + 1) ≠ 0 by omega)
 rw [Rat.intCast_neg,Rat.intCast_mul,h4]
 rw [h4] at h5
 generalize ((m + 1:Nat):Rat) = c at *
 generalize ((BN.bt m:Int):Rat) = B at *
 generalize ((((BN.dN:Nat):Int)):Rat) = D at *
 grind
theorem tn_size {m j:Nat} (hm:m≤200) (hj:j≤m):(((BN.ch (m + 1) j:Nat):Int) * BN.bt j).natAbs≤pw 7 * pw 32:=by
 rw [Int.natAbs_mul,Int.natAbs_natCast]
 exact Nat.mul_le_mul (Nat.le_of_lt (ch_pw (by omega))) (Nat.le_of_lt (bt_size j (by omega)))
theorem sn_size {m j:Nat} (hm:m≤200) (hj:j≤m):(sn m j).natAbs < pw 48:=by
 have h:=BN.sm_abs (f:=fun i=>((BN.ch (m + 1) i:Nat):Int) * BN.bt i) (M:=pw 7 * pw 32) j (fun i hi=>tn_size hm (by omega))
 have h2:j * (pw 7 * pw 32)≤200 * (pw 7 * pw 32):=Nat.mul_le_mul_right _ (by omega)
 have h3:200 * (pw 7 * pw 32) < pw 48:=by decide +kernel
 exact Nat.lt_of_le_of_lt (Nat.le_trans h h2) h3
theorem tn_lt {m j:Nat} (hm:m≤200) (hj:j≤m):(((BN.ch (m + 1) j:Nat):Int) * BN.bt j).natAbs < pw 48:=Nat.lt_of_le_of_lt (tn_size hm hj) (by decide +kernel)
theorem dN_lt48:((BN.dN:Nat):Int).natAbs < pw 48:=Nat.lt_trans dN_size (by decide +kernel)
theorem bt_lt48 {m:Nat} (hm:m≤200):(BN.bt m).natAbs < pw 48:=Nat.lt_trans (bt_size m (by omega)) (by decide +kernel)
theorem bnv_zero:bnv 0 = 1:=by
 unfold bnv
 rw [BN.tab_zero]
 have:=rne (show (((BN.dN:Nat):Int)) ≠ 0 by have:=dN_pos; omega)
 grind
def Bsm (W:World) (b m j:Nat):Prop:=(j = 0∧RatAt W b 0 0)∨(0 < j∧Rv W b (sv m j) 48)
theorem Bsm.below {W W':World} {b m j:Nat} (h:Bsm W b m j) (k:Below W.heap.size W W'):Bsm W' b m j:=by
 rcases h with ⟨e,h⟩ | ⟨e,h⟩
 ·exact .inl ⟨e,h.below k⟩
 ·exact .inr ⟨e,h.below k⟩
theorem bs_add {W:World} {b c m j:Nat} (h:Bsm W b m j) (hc:Rv W c (tv m j) 48) (hm:m≤200) (hj:j < m) :
  Calls Tryz.prog 16 #[.pointer (some ⟨b,0,none⟩),.pointer (some ⟨b,0,none⟩),.pointer (some ⟨c,0,none⟩)] W fun e w'=>e = .returned (.pointer (some ⟨b,0,none⟩))∧Rv w' b (sv m (j + 1)) 48∧Upd b W w':=by
 rcases h with ⟨e,h0⟩ | ⟨e,h0⟩
 ·subst e
  obtain ⟨P,Q,x1,x2,x3,x4⟩:=hc
  refine (RAdd_zero b b c P Q 48 W h0.rslot h0 x1 x3 x4 (by omega)).mono ?_
  rintro e w' ⟨rfl,r1,u⟩
  refine ⟨rfl,⟨P,Q,r1,?_,x3,x4⟩,u⟩
  rw [x2,← sv_step,sv_zero]
  grind
 ·refine (RAddV b b c _ _ 48 W h0.rslot h0 hc (by omega)).mono ?_
  rintro e w' ⟨rfl,r1,u⟩
  rw [sv_step] at r1
  exact ⟨rfl,r1.low dN_pos rfl (sn_size hm (by omega)) dN_lt48,u⟩
set_option maxHeartbeats 16000000 in
theorem Bernoullis_any (nN:Nat) (w:World) (hn:nN≤200) :
  Calls Tryz.prog 11 #[.int .i64 (nN:Int)] w fun e w'=>∃ g cap bq,e = .returned (.slice (some ⟨g,0,none⟩) (nN + 1) cap)∧nN + 1≤cap∧PR w' g (nN + 1) bq bnv 48∧Below w.heap.size w w':=by
 obtain ⟨i0,hi,hz0,hz1,hz2⟩:=info_parts Tryz.infoRp
 have HI:Hid (Tryz.prog.info? 28 = some i0∧i0.zero = some (.pointer none)∧i0.size = 1∧i0.bytes = 8):=⟨hi,hz0,hz1,hz2⟩
 clear hi hz0 hz1 hz2
 go_enter Tryz.func11,Tryz.ntmps11
 go_wp2_with fail
 refine (NewRatV 1 w (by omega) (by omega)).mono ?_
 rintro e wf ⟨bf,rfl,hb1,r1,k1⟩
 have HP1:Hid (PO w.heap.size (wf.alloc (.cells #[.pointer (some ⟨bf,0,none⟩)] 28)) (.slice (some ⟨wf.heap.size,0,none⟩) 1 1) 1 bnv 48∧Below w.heap.size w (wf.alloc (.cells #[.pointer (some ⟨bf,0,none⟩)] 28))):=by
  refine ⟨⟨[.pointer (some ⟨bf,0,none⟩)],⟨rfl,.inr ⟨wf.heap.size,1,#[.pointer (some ⟨bf,0,none⟩)],rfl,k1.size,Cl.new [.pointer (some ⟨bf,0,none⟩)] 28 wf,by omega,by unfold maxLen; omega,rfl,rfl⟩⟩,fun j hj=>?_⟩,k1.alloc k1.size _⟩
  obtain rfl:j = 0:=by omega
  refine ⟨bf,rfl,(?_:Rv _ bf (bnv 0) 48)⟩
  rw [bnv_zero]
  exact (r1.below ((Below.refl _ _).alloc (Nat.le_refl _) _)).le (by omega)
 clear hb1 r1 k1
 go_wp2
 go_loopg [3,4] nN (fun gk rv iv wx=>∃ (k:Nat) (ov:Value),rv = ov∧iv = .int .i64 ((k + 1:Nat):Int)∧Hid (gk = nN - k∧k≤nN∧PO w.heap.size wx ov (k + 1) bnv 48∧Below w.heap.size w wx))
 case atStart=>exact ⟨0,_,rfl,rfl,rfl,by omega,HP1.out⟩
 case round =>
  clear HP1
  obtain ⟨k,ov,hov,rfl,HR⟩:=hrel
  have hov2:=hov.symm
  subst hov2
  obtain ⟨h1,h2,h3,h4⟩:=HR.out
  have HK:Hid (gk = nN - k):=h1
  have HP:Hid (PO w.heap.size wr ov (k + 1) bnv 48∧Below w.heap.size w wr):=⟨h3,h4⟩
  clear HR h1 h3 h4
  obtain ⟨m,hm⟩:∃ m,m = k + 1:=⟨_,rfl⟩
  rw [← hm] at HP ⊢
  have HM:Hid (m = k + 1):=hm
  clear hm
  by_cases hi:k < nN
  ·have HKn:Hid (k < nN):=hi
   have ti:decide ((m:Int)≤(nN:Int)) = true:=decide_eq_true (by have:=HM.out; omega)
   have hmn:m≤nN:=by have:=HM.out; omega
   have hm200:m≤200:=by have:=HM.out; omega
   have hm1:1≤m:=by have:=HM.out; omega
   obtain ⟨gO,cO,rfl,hcO,hgB,hgl,bq,hPR⟩:=HP.out.1.cellP hm1
   have HPR:Hid (PR wr gO m bq bnv 48):=hPR
   have HGl:Hid (gO < wr.heap.size):=hgl
   obtain ⟨W1,hW1⟩:∃ W1,W1 = wr:=⟨_,rfl⟩
   obtain ⟨W2,hW2⟩:∃ W2,W2 = wr.alloc (.cells #[.bool false,.slice none 0 0,.bool false,.slice none 0 0] 39):=⟨_,rfl⟩
   have HB0:Hid (Bsm W2 W1.heap.size m 0∧Below W1.heap.size W1 W2):=by
    show _∧_
    rw [hW1,hW2]
    exact ⟨.inl ⟨rfl,rat_zero wr⟩,Below.alloc_self _ _⟩
   rw [← hW1] at HP HPR HGl
   obtain ⟨bs,hbs⟩:∃ bs,bs = W1.heap.size:=⟨_,rfl⟩
   have HBs2:Hid (wr.heap.size = bs):=by show _ = _; rw [hbs,hW1]
   have HW2:Hid (W2 = wr.alloc (.cells #[.bool false,.slice none 0 0,.bool false,.slice none 0 0] 39)):=hW2
   rw [← hbs] at HB0
   have HBs:Hid (bs = W1.heap.size):=hbs
   clear hPR hgl hgB hbs hW2 hW1
   go_wp2
   rw [HBs2.out,← HW2.out]
   clear HW2 HBs2
   go_loopg [6] m (fun gj jv wx=>∃ j:Nat,jv = .int .i64 (j:Int)∧Hid (gj = m - j∧j≤m∧Bsm wx bs m j∧Below W1.heap.size W1 wx))
   case atStart=>exact ⟨0,rfl,rfl,by omega,HB0.out.1,by have:=HB0.out.2; rw [HBs.out] at this; exact this⟩
   case round =>
    clear HB0
    obtain ⟨j,rfl,HR⟩:=hrel
    obtain ⟨h1,h2,h3,h4⟩:=HR.out
    have HJ:Hid (gk = m - j):=h1
    have HS:Hid (Bsm wr bs m j∧Below W1.heap.size W1 wr):=⟨h3,h4⟩
    clear HR h1 h3 h4
    by_cases hj:j < m
    ·have tj:decide ((j:Int) < (m:Int)) = true:=decide_eq_true (by omega)
     obtain ⟨bj,hbj⟩:∃ bj,bj = bq j:=⟨_,rfl⟩
     have HKr:Hid (Below W1.heap.size W1 wr∧W1.heap.size≤bs):=⟨HS.out.2,by rw [HBs.out]; exact Nat.le_refl _⟩
     have hcell:∀ W,Below wr.heap.size wr W→W.cell? ⟨gO,j,none⟩ = some (.pointer (some ⟨bj,0,none⟩)):=fun W k=>by
      rw [k.cell (p:=⟨gO,j,none⟩) (Nat.lt_of_lt_of_le HGl.out HKr.out.1.size),HKr.out.1.cell (p:=⟨gO,j,none⟩) HGl.out,hbj]
      exact HPR.out.cell j hj
     have HHd:Hid (∀ W,Below wr.heap.size wr W→W.cell? ⟨gO,j,none⟩ = some (.pointer (some ⟨bj,0,none⟩))):=hcell
     have HCs:Hid ((((BN.ch (m + 1) j:Nat):Int)).natAbs < pw 7):=by rw [Int.natAbs_natCast]; exact ch_pw (by omega)
     have HCh:Hid (∀ W,Calls Tryz.prog 42 #[.int .i64 ((m:Int) + 1),.int .i64 (j:Int)] W fun e w'=>∃ b,e = .returned (.pointer (some ⟨b,0,none⟩))∧Made W w' b ((BN.ch (m + 1) j:Nat):Int)):=fun W=>by
      have:=Choose_any (m + 1) j W (by omega) (by omega)
      rw [show (((m + 1:Nat):Int)) = (m:Int) + 1 by omega] at this
      exact this
     have HMul:Hid (∀ W b0 b1,Below wr.heap.size wr W→RSlot W b0→Rv W b1 (((BN.ch (m + 1) j:Nat):Int):Rat) 7→Calls Tryz.prog 41 #[.pointer (some ⟨b0,0,none⟩),.pointer (some ⟨b1,0,none⟩),.pointer (some ⟨bj,0,none⟩)] W fun e w'=>e = .returned (.pointer (some ⟨b0,0,none⟩))∧Rv w' b0 (tv m j) 48∧Upd b0 W w'):=fun W b0 b1 k h1 h2=>by
      refine (RMulV b0 b1 bj _ (bnv j) 48 W h1 (h2.le (by omega)) ?_ (by omega)).mono ?_
      ·rw [hbj]; exact ((HPR.out.rat j hj).below HKr.out.1).below k
      ·rintro e w' ⟨rfl,r1,u⟩
       exact ⟨rfl,r1.low dN_pos (tv_eq m j) (tn_lt hm200 (by omega)) dN_lt48,u⟩
     have HAdd:Hid (∀ W b0,Below wr.heap.size wr W→wr.heap.size≤b0→Rv W b0 (tv m j) 48→Calls Tryz.prog 16 #[.pointer (some ⟨bs,0,none⟩),.pointer (some ⟨bs,0,none⟩),.pointer (some ⟨b0,0,none⟩)] W fun e w'=>e = .returned (.pointer (some ⟨bs,0,none⟩))∧Rv w' bs (sv m (j + 1)) 48∧Upd bs W w'):=fun W b0 k h1 h2 =>
      bs_add (HS.out.1.below k) h2 hm200 hj
     have hjO:j < cO:=by omega
     have hw1:IntKind.i64.wrap ((m:Int) + 1) = (m:Int) + 1:=by rw [IntKind.wrap_i64]; omega
     clear hbj
     go_wp2
     refine wp_region_G (fun W=>W.cell? ⟨gO,j,none⟩ = some (.pointer (some ⟨bj,0,none⟩))) 14 (by kernel_rfl) (HHd.out _ (Below.refl _ _).drew) (fun hHeld=>?_)
     refine wpAnyG_take (i:=0) (v:=?v0x1) rfl (by kernel_rfl) (fun _ _ _ h=>h) (Or.inl ⟨by rfl,?y0x1⟩) hHeld ?r0x1
     case y0x1=>(intro wS hSw; obtain s1:=hSw; go_simp; try with_reducible rfl)
     simp only [Act.put,List.getElem_toArray,List.getElem_cons_zero,List.getElem_cons_succ,List.setIfInBounds_toArray,List.set_cons_zero,List.set_cons_succ]
     refine wpAnyG_take (i:=1) (v:=?v1x2) rfl (by kernel_rfl) (fun _ _ _ h=>h) (Or.inl ⟨by rfl,?y1x2⟩) hHeld ?r1x2
     case y1x2=>(intro wS hSw; obtain s1:=hSw; go_simp; try with_reducible rfl)
     simp only [Act.put,List.getElem_toArray,List.getElem_cons_zero,List.getElem_cons_succ,List.setIfInBounds_toArray,List.set_cons_zero,List.set_cons_succ]
     refine wpAnyG_take (i:=4) (v:=?v4x3) rfl (by kernel_rfl) (fun _ _ _ h=>h) (Or.inl ⟨by rfl,?y4x3⟩) hHeld ?r4x3
     case y4x3=>(intro wS hSw; obtain s1:=hSw; go_simp; try with_reducible rfl)
     simp only [Act.put,List.getElem_toArray,List.getElem_cons_zero,List.getElem_cons_succ,List.setIfInBounds_toArray,List.set_cons_zero,List.set_cons_succ]
     refine wpAnyG_take (i:=5) (v:=?v5x4) rfl (by kernel_rfl) (fun _ _ _ h=>h) (Or.inl ⟨by rfl,?y5x4⟩) hHeld ?r5x4
     case y5x4=>(intro wS hSw; obtain s1:=hSw; go_simp; try with_reducible rfl)
     simp only [Act.put,List.getElem_toArray,List.getElem_cons_zero,List.getElem_cons_succ,List.setIfInBounds_toArray,List.set_cons_zero,List.set_cons_succ]
     refine wpAnyG_take (i:=6) (v:=?v6x5) rfl (by kernel_rfl) (fun _ _ _ h=>h) (Or.inl ⟨by rfl,?y6x5⟩) hHeld ?r6x5
     case y6x5=>(intro wS hSw; obtain s1:=hSw; go_simp; try with_reducible rfl)
     simp only [Act.put,List.getElem_toArray,List.getElem_cons_zero,List.getElem_cons_succ,List.setIfInBounds_toArray,List.set_cons_zero,List.set_cons_succ]
     refine wpAnyG_take (i:=9) (v:=?v9x6) rfl (by kernel_rfl) (fun _ _ _ h=>h) (Or.inl ⟨by rfl,?y9x6⟩) hHeld ?r9x6
     case y9x6=>(intro wS hSw; obtain s1:=hSw; go_simp; try with_reducible rfl)
     simp only [Act.put,List.getElem_toArray,List.getElem_cons_zero,List.getElem_cons_succ,List.setIfInBounds_toArray,List.set_cons_zero,List.set_cons_succ]
     refine wpAnyG_take (i:=10) (v:=?v10x7) rfl (by kernel_rfl) (fun _ _ _ h=>h) (Or.inl ⟨by rfl,?y10x7⟩) hHeld ?r10x7
     case y10x7=>(intro wS hSw; obtain s1:=hSw; go_simp; try with_reducible rfl)
     simp only [Act.put,List.getElem_toArray,List.getElem_cons_zero,List.getElem_cons_succ,List.setIfInBounds_toArray,List.set_cons_zero,List.set_cons_succ]
     refine wpAnyG_take (i:=11) (v:=?v11x8) rfl (by kernel_rfl) (fun _ _ _ h=>h) (Or.inl ⟨by rfl,?y11x8⟩) hHeld ?r11x8
     case y11x8=>(intro wS hSw; obtain s1:=hSw; go_simp; try with_reducible rfl)
     simp only [Act.put,List.getElem_toArray,List.getElem_cons_zero,List.getElem_cons_succ,List.setIfInBounds_toArray,List.set_cons_zero,List.set_cons_succ]
     refine wpAnyG_take (i:=12) (v:=?v12x9) rfl (by kernel_rfl) (fun _ _ _ h=>h) (Or.inl ⟨by rfl,?y12x9⟩) hHeld ?r12x9
     case y12x9=>(intro wS hSw; obtain s1:=hSw; go_simp; try with_reducible rfl)
     simp only [Act.put,List.getElem_toArray,List.getElem_cons_zero,List.getElem_cons_succ,List.setIfInBounds_toArray,List.set_cons_zero,List.set_cons_succ]
     clear hHeld
     refine wpAnyG_inv (fun n l a w1=>∃ x22 x23 x27 x28 x33 x34:Value,a = { tmps:=((.int .i64 ↑nN) :: (undef) :: (.slice none 0 0) :: (.slice (some ⟨gO,0,none⟩) m cO) :: (.int .i64 ↑m) :: (.pointer (some ⟨bs,0,none⟩)) :: (.int .i64 ↑j) :: (.pointer (some ⟨bf,0,none⟩)) :: (.slice (some ⟨wf.heap.size,0,none⟩) 1 1) :: (.int .i64 ↑m) :: (.int .i64 ↑nN) :: (.bool true) :: (u12) :: (u13) :: (.pointer (some ⟨bs,0,none⟩)) :: (.int .i64 ↑j) :: (.int .i64 ↑m) :: (.bool true) :: (u18) :: (u19) :: (.pointer (some ⟨bs,0,none⟩)) :: (.pointer (some ⟨bs,0,none⟩)) :: (x22) :: (x23) :: (.int .i64 ↑m) :: (.int .i64 (↑m + 1)) :: (.int .i64 ↑j) :: (x27) :: (x28) :: (.slice (some ⟨gO,0,none⟩) m cO) :: (.int .i64 ↑j) :: (.pointer (some ⟨gO,j,none⟩)) :: (.pointer (some ⟨bj,0,none⟩)) :: (x33) :: (x34) :: (u35) :: (u36) :: (u37) :: (u38) :: (u39) :: (u40) :: (u41) :: (u42) :: (u43) :: (u44) :: (u45) :: (u46) :: (undef) :: []).toArray,defers:=[] }∧((((n = 6∧l = #[true,true,false,false,true,true,true,false,false,true,true,true,true,false,false]∧x22 = u22∧x23 = u23∧x27 = u27∧x28 = u28∧x33 = u33∧x34 = u34∧Hid (Below wr.heap.size wr w1))∨((∃ b0:Nat,n = 5∧l = #[true,true,true,false,true,true,true,false,false,true,true,true,true,false,false]∧x22 = .pointer (some ⟨b0,0,none⟩)∧x23 = u23∧x27 = u27∧x28 = u28∧x33 = u33∧x34 = u34∧Hid (Below wr.heap.size wr w1∧wr.heap.size≤b0∧RSlot w1 b0))∨(∃ b1:Nat,n = 5∧l = #[true,true,false,true,true,true,true,false,false,true,true,true,true,false,false]∧x22 = u22∧x23 = .pointer (some ⟨b1,0,none⟩)∧x27 = u27∧x28 = u28∧x33 = u33∧x34 = u34∧Hid (Below wr.heap.size wr w1∧wr.heap.size≤b1∧RSlot w1 b1))))∨((∃ c:Nat,n = 5∧l = #[true,true,false,false,true,true,true,true,false,true,true,true,true,false,false]∧x22 = u22∧x23 = u23∧x27 = .pointer (some ⟨c,0,none⟩)∧x28 = u28∧x33 = u33∧x34 = u34∧Hid (Below wr.heap.size wr w1∧wr.heap.size≤c∧BigAt w1 c ((BN.ch (m + 1) j:Nat):Int)))∨((∃ b0 b1:Nat,n = 4∧l = #[true,true,true,true,true,true,true,false,false,true,true,true,true,false,false]∧x22 = .pointer (some ⟨b0,0,none⟩)∧x23 = .pointer (some ⟨b1,0,none⟩)∧x27 = u27∧x28 = u28∧x33 = u33∧x34 = u34∧Hid (Below wr.heap.size wr w1∧wr.heap.size≤b0∧RSlot w1 b0∧wr.heap.size≤b1∧RSlot w1 b1∧b0 ≠ b1))∨(∃ b0 c:Nat,n = 4∧l = #[true,true,true,false,true,true,true,true,false,true,true,true,true,false,false]∧x22 = .pointer (some ⟨b0,0,none⟩)∧x23 = u23∧x27 = .pointer (some ⟨c,0,none⟩)∧x28 = u28∧x33 = u33∧x34 = u34∧Hid (Below wr.heap.size wr w1∧wr.heap.size≤b0∧RSlot w1 b0∧wr.heap.size≤c∧BigAt w1 c ((BN.ch (m + 1) j:Nat):Int)∧b0 ≠ c)))))∨(((∃ b1 c:Nat,n = 4∧l = #[true,true,false,true,true,true,true,true,false,true,true,true,true,false,false]∧x22 = u22∧x23 = .pointer (some ⟨b1,0,none⟩)∧x27 = .pointer (some ⟨c,0,none⟩)∧x28 = u28∧x33 = u33∧x34 = u34∧Hid (Below wr.heap.size wr w1∧wr.heap.size≤b1∧RSlot w1 b1∧wr.heap.size≤c∧BigAt w1 c ((BN.ch (m + 1) j:Nat):Int)∧b1 ≠ c))∨((∃ b0 b1 c:Nat,n = 3∧l = #[true,true,true,true,true,true,true,true,false,true,true,true,true,false,false]∧x22 = .pointer (some ⟨b0,0,none⟩)∧x23 = .pointer (some ⟨b1,0,none⟩)∧x27 = .pointer (some ⟨c,0,none⟩)∧x28 = u28∧x33 = u33∧x34 = u34∧Hid (Below wr.heap.size wr w1∧wr.heap.size≤b0∧RSlot w1 b0∧wr.heap.size≤b1∧RSlot w1 b1∧wr.heap.size≤c∧BigAt w1 c ((BN.ch (m + 1) j:Nat):Int)∧b0 ≠ b1∧b0 ≠ c∧b1 ≠ c))∨(∃ b1 c:Nat,n = 3∧l = #[true,true,false,true,true,true,true,true,true,true,true,true,true,false,false]∧x22 = u22∧x23 = .pointer (some ⟨b1,0,none⟩)∧x27 = .pointer (some ⟨c,0,none⟩)∧x28 = .pointer (some ⟨b1,0,none⟩)∧x33 = u33∧x34 = u34∧Hid (Below wr.heap.size wr w1∧wr.heap.size≤b1∧Rv w1 b1 (((BN.ch (m + 1) j:Nat):Int):Rat) 7∧wr.heap.size≤c∧BigAt w1 c ((BN.ch (m + 1) j:Nat):Int)∧b1 ≠ c))))∨((∃ b0 b1 c:Nat,n = 2∧l = #[true,true,true,true,true,true,true,true,true,true,true,true,true,false,false]∧x22 = .pointer (some ⟨b0,0,none⟩)∧x23 = .pointer (some ⟨b1,0,none⟩)∧x27 = .pointer (some ⟨c,0,none⟩)∧x28 = .pointer (some ⟨b1,0,none⟩)∧x33 = u33∧x34 = u34∧Hid (Below wr.heap.size wr w1∧wr.heap.size≤b0∧RSlot w1 b0∧wr.heap.size≤b1∧Rv w1 b1 (((BN.ch (m + 1) j:Nat):Int):Rat) 7∧wr.heap.size≤c∧BigAt w1 c ((BN.ch (m + 1) j:Nat):Int)∧b0 ≠ b1∧b0 ≠ c∧b1 ≠ c))∨((∃ b0 b1 c:Nat,n = 1∧l = #[true,true,true,true,true,true,true,true,true,true,true,true,true,true,false]∧x22 = .pointer (some ⟨b0,0,none⟩)∧x23 = .pointer (some ⟨b1,0,none⟩)∧x27 = .pointer (some ⟨c,0,none⟩)∧x28 = .pointer (some ⟨b1,0,none⟩)∧x33 = .pointer (some ⟨b0,0,none⟩)∧x34 = u34∧Hid (Below wr.heap.size wr w1∧wr.heap.size≤b0∧Rv w1 b0 ((((BN.ch (m + 1) j:Nat):Int):Rat) * bnv j) 48∧wr.heap.size≤b1∧Rv w1 b1 (((BN.ch (m + 1) j:Nat):Int):Rat) 7∧wr.heap.size≤c∧BigAt w1 c ((BN.ch (m + 1) j:Nat):Int)∧b0 ≠ b1∧b0 ≠ c∧b1 ≠ c))∨(∃ b0 b1 c:Nat,n = 0∧l = #[true,true,true,true,true,true,true,true,true,true,true,true,true,true,true]∧x22 = .pointer (some ⟨b0,0,none⟩)∧x23 = .pointer (some ⟨b1,0,none⟩)∧x27 = .pointer (some ⟨c,0,none⟩)∧x28 = .pointer (some ⟨b1,0,none⟩)∧x33 = .pointer (some ⟨b0,0,none⟩)∧x34 = .pointer (some ⟨bs,0,none⟩)∧Hid (wr.heap.size≤w1.heap.size∧(Rv w1 bs (sv m (j + 1)) 48∧Below W1.heap.size W1 w1)))))))) ?steps _ _ _ _ ?start
     case start=>exact ⟨_,_,_,_,_,_,rfl,.inl (.inl (.inl (⟨rfl,rfl,rfl,rfl,rfl,rfl,rfl,rfl,(Below.refl wr.heap.size wr).drew⟩)))⟩
     case steps =>
      intro n l a w1 hI
      obtain ⟨x22,x23,x27,x28,x33,x34,rfl,hI⟩:=hI
      rcases hI with (((hI | (hI | hI)) | (hI | (hI | hI))) | ((hI | (hI | hI)) | (hI | (hI | hI))))
      ·obtain ⟨rfl,rfl,rfl,rfl,rfl,rfl,rfl,rfl,HH⟩:=hI
       right
       refine ⟨5,[2,3,7],rfl,by kernel_rfl,by simp,fun i hi=>?_⟩
       simp only [List.mem_cons,List.not_mem_nil,or_false] at hi
       rcases hi with rfl | rfl | rfl
       ·refine ⟨_,rfl,fun K' hK=>?_⟩
        go_simp
        have K:=HH.out
        refine hK.out _ _ (fun _ _=>(HHd.out _ (K.alloc K.size _))) (⟨_,_,_,_,_,_,rfl,.inl (.inl (.inr (.inl (⟨w1.heap.size,rfl,rfl,rfl,rfl,rfl,rfl,rfl,rfl,K.alloc K.size _,K.size,RSlot.new w1 _ _ _ _⟩))))⟩)
       ·refine ⟨_,rfl,fun K' hK=>?_⟩
        go_simp
        have K:=HH.out
        refine hK.out _ _ (fun _ _=>(HHd.out _ (K.alloc K.size _))) (⟨_,_,_,_,_,_,rfl,.inl (.inl (.inr (.inr (⟨w1.heap.size,rfl,rfl,rfl,rfl,rfl,rfl,rfl,rfl,K.alloc K.size _,K.size,RSlot.new w1 _ _ _ _⟩))))⟩)
       ·refine ⟨_,rfl,fun K' hK=>?_⟩
        go_simp
        have K:=HH.out
        refine (HCh.out w1).mono ?_
        rintro e w2 ⟨c,rfl,m2⟩
        refine hK.out _ _ (fun _ _=>(HHd.out _ (K.trans (m2.2.2.mono K.size)))) (⟨_,_,_,_,_,_,rfl,.inl (.inr (.inl (⟨c,rfl,rfl,rfl,rfl,rfl,rfl,rfl,rfl,(K.trans (m2.2.2.mono K.size)),(Nat.le_trans K.size m2.1),m2.2.1⟩)))⟩)
      ·obtain ⟨b0,rfl,rfl,rfl,rfl,rfl,rfl,rfl,rfl,HH⟩:=hI
       right
       refine ⟨4,[3,7],rfl,by kernel_rfl,by simp,fun i hi=>?_⟩
       simp only [List.mem_cons,List.not_mem_nil,or_false] at hi
       rcases hi with rfl | rfl
       ·refine ⟨_,rfl,fun K' hK=>?_⟩
        go_simp
        obtain ⟨K,ge_b0,at_b0⟩:=HH.out
        refine hK.out _ _ (fun _ _=>(HHd.out _ (K.alloc K.size _))) (⟨_,_,_,_,_,_,rfl,.inl (.inr (.inr (.inl (⟨b0,w1.heap.size,rfl,rfl,rfl,rfl,rfl,rfl,rfl,rfl,K.alloc K.size _,ge_b0,at_b0.below (Below.alloc_self' w1 _),K.size,RSlot.new w1 _ _ _ _,(Nat.ne_of_lt at_b0.lt)⟩))))⟩)
       ·refine ⟨_,rfl,fun K' hK=>?_⟩
        go_simp
        obtain ⟨K,ge_b0,at_b0⟩:=HH.out
        refine (HCh.out w1).mono ?_
        rintro e w2 ⟨c,rfl,m2⟩
        refine hK.out _ _ (fun _ _=>(HHd.out _ (K.trans (m2.2.2.mono K.size)))) (⟨_,_,_,_,_,_,rfl,.inl (.inr (.inr (.inr (⟨b0,c,rfl,rfl,rfl,rfl,rfl,rfl,rfl,rfl,(K.trans (m2.2.2.mono K.size)),ge_b0,at_b0.below m2.2.2,(Nat.le_trans K.size m2.1),m2.2.1,(Nat.ne_of_lt (Nat.lt_of_lt_of_le at_b0.lt m2.1))⟩))))⟩)
      ·obtain ⟨b1,rfl,rfl,rfl,rfl,rfl,rfl,rfl,rfl,HH⟩:=hI
       right
       refine ⟨4,[2,7],rfl,by kernel_rfl,by simp,fun i hi=>?_⟩
       simp only [List.mem_cons,List.not_mem_nil,or_false] at hi
       rcases hi with rfl | rfl
       ·refine ⟨_,rfl,fun K' hK=>?_⟩
        go_simp
        obtain ⟨K,ge_b1,at_b1⟩:=HH.out
        refine hK.out _ _ (fun _ _=>(HHd.out _ (K.alloc K.size _))) (⟨_,_,_,_,_,_,rfl,.inl (.inr (.inr (.inl (⟨w1.heap.size,b1,rfl,rfl,rfl,rfl,rfl,rfl,rfl,rfl,K.alloc K.size _,K.size,RSlot.new w1 _ _ _ _,ge_b1,at_b1.below (Below.alloc_self' w1 _),(Nat.ne_of_gt at_b1.lt)⟩))))⟩)
       ·refine ⟨_,rfl,fun K' hK=>?_⟩
        go_simp
        obtain ⟨K,ge_b1,at_b1⟩:=HH.out
        refine (HCh.out w1).mono ?_
        rintro e w2 ⟨c,rfl,m2⟩
        refine hK.out _ _ (fun _ _=>(HHd.out _ (K.trans (m2.2.2.mono K.size)))) (⟨_,_,_,_,_,_,rfl,.inr (.inl (.inl (⟨b1,c,rfl,rfl,rfl,rfl,rfl,rfl,rfl,rfl,(K.trans (m2.2.2.mono K.size)),ge_b1,at_b1.below m2.2.2,(Nat.le_trans K.size m2.1),m2.2.1,(Nat.ne_of_lt (Nat.lt_of_lt_of_le at_b1.lt m2.1))⟩)))⟩)
      ·obtain ⟨c,rfl,rfl,rfl,rfl,rfl,rfl,rfl,rfl,HH⟩:=hI
       right
       refine ⟨4,[2,3],rfl,by kernel_rfl,by simp,fun i hi=>?_⟩
       simp only [List.mem_cons,List.not_mem_nil,or_false] at hi
       rcases hi with rfl | rfl
       ·refine ⟨_,rfl,fun K' hK=>?_⟩
        go_simp
        obtain ⟨K,ge_c,at_c⟩:=HH.out
        refine hK.out _ _ (fun _ _=>(HHd.out _ (K.alloc K.size _))) (⟨_,_,_,_,_,_,rfl,.inl (.inr (.inr (.inr (⟨w1.heap.size,c,rfl,rfl,rfl,rfl,rfl,rfl,rfl,rfl,K.alloc K.size _,K.size,RSlot.new w1 _ _ _ _,ge_c,at_c.below (Below.alloc_self' w1 _) (Nat.le_refl _),(Nat.ne_of_gt at_c.lt)⟩))))⟩)
       ·refine ⟨_,rfl,fun K' hK=>?_⟩
        go_simp
        obtain ⟨K,ge_c,at_c⟩:=HH.out
        refine hK.out _ _ (fun _ _=>(HHd.out _ (K.alloc K.size _))) (⟨_,_,_,_,_,_,rfl,.inr (.inl (.inl (⟨w1.heap.size,c,rfl,rfl,rfl,rfl,rfl,rfl,rfl,rfl,K.alloc K.size _,K.size,RSlot.new w1 _ _ _ _,ge_c,at_c.below (Below.alloc_self' w1 _) (Nat.le_refl _),(Nat.ne_of_gt at_c.lt)⟩)))⟩)
      ·obtain ⟨b0,b1,rfl,rfl,rfl,rfl,rfl,rfl,rfl,rfl,HH⟩:=hI
       right
       refine ⟨3,[7],rfl,by kernel_rfl,by simp,fun i hi=>?_⟩
       simp only [List.mem_cons,List.not_mem_nil,or_false] at hi
       subst hi
       refine ⟨_,rfl,fun K' hK=>?_⟩
       go_simp
       obtain ⟨K,ge_b0,at_b0,ge_b1,at_b1,ne_b0_b1⟩:=HH.out
       refine (HCh.out w1).mono ?_
       rintro e w2 ⟨c,rfl,m2⟩
       refine hK.out _ _ (fun _ _=>(HHd.out _ (K.trans (m2.2.2.mono K.size)))) (⟨_,_,_,_,_,_,rfl,.inr (.inl (.inr (.inl (⟨b0,b1,c,rfl,rfl,rfl,rfl,rfl,rfl,rfl,rfl,(K.trans (m2.2.2.mono K.size)),ge_b0,at_b0.below m2.2.2,ge_b1,at_b1.below m2.2.2,(Nat.le_trans K.size m2.1),m2.2.1,ne_b0_b1,(Nat.ne_of_lt (Nat.lt_of_lt_of_le at_b0.lt m2.1)),(Nat.ne_of_lt (Nat.lt_of_lt_of_le at_b1.lt m2.1))⟩))))⟩)
      ·obtain ⟨b0,c,rfl,rfl,rfl,rfl,rfl,rfl,rfl,rfl,HH⟩:=hI
       right
       refine ⟨3,[3],rfl,by kernel_rfl,by simp,fun i hi=>?_⟩
       simp only [List.mem_cons,List.not_mem_nil,or_false] at hi
       subst hi
       refine ⟨_,rfl,fun K' hK=>?_⟩
       go_simp
       obtain ⟨K,ge_b0,at_b0,ge_c,at_c,ne_b0_c⟩:=HH.out
       refine hK.out _ _ (fun _ _=>(HHd.out _ (K.alloc K.size _))) (⟨_,_,_,_,_,_,rfl,.inr (.inl (.inr (.inl (⟨b0,w1.heap.size,c,rfl,rfl,rfl,rfl,rfl,rfl,rfl,rfl,K.alloc K.size _,ge_b0,at_b0.below (Below.alloc_self' w1 _),K.size,RSlot.new w1 _ _ _ _,ge_c,at_c.below (Below.alloc_self' w1 _) (Nat.le_refl _),(Nat.ne_of_lt at_b0.lt),ne_b0_c,(Nat.ne_of_gt at_c.lt)⟩))))⟩)
      ·obtain ⟨b1,c,rfl,rfl,rfl,rfl,rfl,rfl,rfl,rfl,HH⟩:=hI
       right
       refine ⟨3,[2,8],rfl,by kernel_rfl,by simp,fun i hi=>?_⟩
       simp only [List.mem_cons,List.not_mem_nil,or_false] at hi
       rcases hi with rfl | rfl
       ·refine ⟨_,rfl,fun K' hK=>?_⟩
        go_simp
        obtain ⟨K,ge_b1,at_b1,ge_c,at_c,ne_b1_c⟩:=HH.out
        refine hK.out _ _ (fun _ _=>(HHd.out _ (K.alloc K.size _))) (⟨_,_,_,_,_,_,rfl,.inr (.inl (.inr (.inl (⟨w1.heap.size,b1,c,rfl,rfl,rfl,rfl,rfl,rfl,rfl,rfl,K.alloc K.size _,K.size,RSlot.new w1 _ _ _ _,ge_b1,at_b1.below (Below.alloc_self' w1 _),ge_c,at_c.below (Below.alloc_self' w1 _) (Nat.le_refl _),(Nat.ne_of_gt at_b1.lt),(Nat.ne_of_gt at_c.lt),ne_b1_c⟩))))⟩)
       ·refine ⟨_,rfl,fun K' hK=>?_⟩
        go_simp
        obtain ⟨K,ge_b1,at_b1,ge_c,at_c,ne_b1_c⟩:=HH.out
        refine (SetIntW b1 c ((BN.ch (m + 1) j:Nat):Int) 7 w1 at_b1 at_c HCs.out (by omega) (by omega)).mono ?_
        rintro e w2 ⟨rfl,h2,u2⟩
        refine hK.out _ _ (fun _ _=>(HHd.out _ (K.trans (u2.below K.size ge_b1)))) (⟨_,_,_,_,_,_,rfl,.inr (.inl (.inr (.inr (⟨b1,c,rfl,rfl,rfl,rfl,rfl,rfl,rfl,rfl,(K.trans (u2.below K.size ge_b1)),ge_b1,h2,ge_c,at_c.updR u2 at_b1 (Ne.symm ne_b1_c),ne_b1_c⟩))))⟩)
      ·obtain ⟨b0,b1,c,rfl,rfl,rfl,rfl,rfl,rfl,rfl,rfl,HH⟩:=hI
       right
       refine ⟨2,[8],rfl,by kernel_rfl,by simp,fun i hi=>?_⟩
       simp only [List.mem_cons,List.not_mem_nil,or_false] at hi
       subst hi
       refine ⟨_,rfl,fun K' hK=>?_⟩
       go_simp
       obtain ⟨K,ge_b0,at_b0,ge_b1,at_b1,ge_c,at_c,ne_b0_b1,ne_b0_c,ne_b1_c⟩:=HH.out
       refine (SetIntW b1 c ((BN.ch (m + 1) j:Nat):Int) 7 w1 at_b1 at_c HCs.out (by omega) (by omega)).mono ?_
       rintro e w2 ⟨rfl,h2,u2⟩
       refine hK.out _ _ (fun _ _=>(HHd.out _ (K.trans (u2.below K.size ge_b1)))) (⟨_,_,_,_,_,_,rfl,.inr (.inr (.inl (⟨b0,b1,c,rfl,rfl,rfl,rfl,rfl,rfl,rfl,rfl,(K.trans (u2.below K.size ge_b1)),ge_b0,at_b0.updR u2 ne_b0_b1,ge_b1,h2,ge_c,at_c.updR u2 at_b1 (Ne.symm ne_b1_c),ne_b0_b1,ne_b0_c,ne_b1_c⟩)))⟩)
      ·obtain ⟨b1,c,rfl,rfl,rfl,rfl,rfl,rfl,rfl,rfl,HH⟩:=hI
       right
       refine ⟨2,[2],rfl,by kernel_rfl,by simp,fun i hi=>?_⟩
       simp only [List.mem_cons,List.not_mem_nil,or_false] at hi
       subst hi
       refine ⟨_,rfl,fun K' hK=>?_⟩
       go_simp
       obtain ⟨K,ge_b1,at_b1,ge_c,at_c,ne_b1_c⟩:=HH.out
       refine hK.out _ _ (fun _ _=>(HHd.out _ (K.alloc K.size _))) (⟨_,_,_,_,_,_,rfl,.inr (.inr (.inl (⟨w1.heap.size,b1,c,rfl,rfl,rfl,rfl,rfl,rfl,rfl,rfl,K.alloc K.size _,K.size,RSlot.new w1 _ _ _ _,ge_b1,at_b1.below (Below.alloc_self' w1 _),ge_c,at_c.below (Below.alloc_self' w1 _) (Nat.le_refl _),(Nat.ne_of_gt at_b1.lt),(Nat.ne_of_gt at_c.lt),ne_b1_c⟩)))⟩)
      ·obtain ⟨b0,b1,c,rfl,rfl,rfl,rfl,rfl,rfl,rfl,rfl,HH⟩:=hI
       right
       refine ⟨1,[13],rfl,by kernel_rfl,by simp,fun i hi=>?_⟩
       simp only [List.mem_cons,List.not_mem_nil,or_false] at hi
       subst hi
       refine ⟨_,rfl,fun K' hK=>?_⟩
       go_simp
       obtain ⟨K,ge_b0,at_b0,ge_b1,at_b1,ge_c,at_c,ne_b0_b1,ne_b0_c,ne_b1_c⟩:=HH.out
       refine (HMul.out w1 b0 b1 K at_b0 at_b1).mono ?_
       rintro e w2 ⟨rfl,h2,u2⟩
       refine hK.out _ _ (fun _ _=>(HHd.out _ (K.trans (u2.below K.size ge_b0)))) (⟨_,_,_,_,_,_,rfl,.inr (.inr (.inr (.inl (⟨b0,b1,c,rfl,rfl,rfl,rfl,rfl,rfl,rfl,rfl,(K.trans (u2.below K.size ge_b0)),ge_b0,h2,ge_b1,at_b1.updR u2 at_b0 (Ne.symm ne_b0_b1),ge_c,at_c.updR u2 at_b0 (Ne.symm ne_b0_c),ne_b0_b1,ne_b0_c,ne_b1_c⟩))))⟩)
      ·obtain ⟨b0,b1,c,rfl,rfl,rfl,rfl,rfl,rfl,rfl,rfl,HH⟩:=hI
       right
       refine ⟨0,[14],rfl,by kernel_rfl,by simp,fun i hi=>?_⟩
       simp only [List.mem_cons,List.not_mem_nil,or_false] at hi
       subst hi
       refine ⟨_,rfl,fun K' hK=>?_⟩
       go_simp
       obtain ⟨K,ge_b0,at_b0,ge_b1,at_b1,ge_c,at_c,ne_b0_b1,ne_b0_c,ne_b1_c⟩:=HH.out
       refine (HAdd.out w1 b0 K ge_b0 at_b0).mono ?_
       rintro e w2 ⟨rfl,h2,u2⟩
       have E:Rv w2 bs (sv m (j + 1)) 48∧Below W1.heap.size W1 w2:=⟨h2,u2.below2 (HKr.out.1.trans (K.mono HKr.out.1.size)) HKr.out.2 (Nat.le_trans HKr.out.1.size K.size)⟩
       have Z:wr.heap.size≤w2.heap.size:=Nat.le_trans K.size u2.size
       refine hK.out _ _ (fun _ h=>absurd rfl h) (⟨_,_,_,_,_,_,rfl,.inr (.inr (.inr (.inr (⟨b0,b1,c,rfl,rfl,rfl,rfl,rfl,rfl,rfl,rfl,Z,E⟩))))⟩)
      ·obtain ⟨b0,b1,c,rfl,rfl,rfl,rfl,rfl,rfl,rfl,rfl,HH⟩:=hI
       obtain ⟨Z,E⟩:=HH.out
       left
       refine ⟨by kernel_rfl,?_⟩
       obtain ⟨Z,E⟩:=HH.out
       have HE:Hid (Rv w1 bs (sv m (j + 1)) 48∧Below W1.heap.size W1 w1):=E
       clear HH E Z
       go_wp2
       go_roundg (m - (j + 1))
       case rel=>exact ⟨j + 1,by go_num,rfl,by omega,.inr ⟨by omega,HE.out.1⟩,HE.out.2⟩
       case measure=>have:=HJ.out; omega
    ·have tj:decide ((j:Int) < (m:Int)) = false:=decide_eq_false (by omega)
     obtain rfl:m = j:=by omega
     have HR0:Hid (Rv wr bs (sv m m) 48∧Below W1.heap.size W1 wr):=by
      rcases HS.out.1 with ⟨e,_⟩ | ⟨_,a⟩
      ·omega
      ·exact ⟨a,HS.out.2⟩
     have HGe:Hid (W1.heap.size≤bs):=by rw [HBs.out]; exact Nat.le_refl _
     clear HS
     go_wp2_with fail
     refine (RNegV bs (sv m m) 48 wr HR0.out.1 (by omega)).mono ?_
     rintro e w2 ⟨rfl,r2,u2⟩
     have H2:Hid (Rv w2 bs (-(sv m m)) 48∧Below W1.heap.size W1 w2):=⟨r2,u2.below2 HR0.out.2 HGe.out HR0.out.2.size⟩
     have HNr:Hid (∀ W,Calls Tryz.prog 17 #[.int .i64 ((m:Int) + 1),.int .i64 1] W fun e w'=>∃ b,e = .returned (.pointer (some ⟨b,0,none⟩))∧W.heap.size≤b∧Rv w' b ((m + 1:Nat):Rat) 2∧Below W.heap.size W w'):=fun W=>by
      have:=NewRatV (m + 1) W (by omega) (by omega)
      rw [show (((m + 1:Nat):Int)) = (m:Int) + 1 by omega] at this
      exact this
     have hw1:IntKind.i64.wrap ((m:Int) + 1) = (m:Int) + 1:=by rw [IntKind.wrap_i64]; omega
     clear r2 u2 HR0
     go_wp2_with fail
     refine (HNr.out w2).mono ?_
     rintro e w3 ⟨b3,rfl,hb3,r3,k3⟩
     have H3:Hid (Rv w3 bs (-(sv m m)) 48∧Rv w3 b3 ((m + 1:Nat):Rat) 48∧Below W1.heap.size W1 w3):=⟨H2.out.1.below k3,r3.le (by omega),H2.out.2.trans (k3.mono H2.out.2.size)⟩
     clear hb3 r3 k3 H2 HNr
     go_wp2_with fail
     refine (RQuoV bs bs b3 _ _ 48 w3 H3.out.1.rslot H3.out.1 H3.out.2.1 (by omega) (by
      have h5:=rne (show ((m:Int) + 1) ≠ 0 by omega)
      have h4:(((m:Int) + 1:Int):Rat) = ((m + 1:Nat):Rat):=by
       rw [Rat.intCast_add]; rw [Rat.natCast_add]; rfl
      rw [h4] at h5
      exact h5)).mono ?_
     rintro e w4 ⟨rfl,r4,u4⟩
     rw [sv_end hm1 hm200] at r4
     have k4:Below W1.heap.size W1 w4:=u4.below2 H3.out.2.2 HGe.out H3.out.2.2.size
     obtain ⟨us,hu,hx⟩:=HP.out.1
     have k5:Below W1.heap.size W1 (w4.alloc (.cells #[.pointer (some ⟨bs,0,none⟩)] 28)):=k4.alloc k4.size _
     have H5:Hid ((w4.alloc (.cells #[.pointer (some ⟨bs,0,none⟩)] 28)).ownsRow w.heap.size 28 1 (.slice (some ⟨gO,0,none⟩) m cO) m us∧(∀ j,j < m→∃ b,us[j]? = some (.pointer (some ⟨b,0,none⟩))∧Rv (w4.alloc (.cells #[.pointer (some ⟨bs,0,none⟩)] 28)) b (bnv j) 48)∧Rv (w4.alloc (.cells #[.pointer (some ⟨bs,0,none⟩)] 28)) bs (bnv m) 48∧Below w.heap.size w (w4.alloc (.cells #[.pointer (some ⟨bs,0,none⟩)] 28))∧w.heap.size≤w4.heap.size):=by
      refine ⟨row_bel3 hu k5,fun j hj=>?_,(r4.low dN_pos rfl (bt_lt48 hm200) dN_lt48).below ((Below.refl _ _).alloc (Nat.le_refl _) _),HP.out.2.trans (k5.mono HP.out.2.size),Nat.le_trans HP.out.2.size k4.size⟩
      obtain ⟨b,c1,c2⟩:=hx j hj
      exact ⟨b,c1,c2.below k5⟩
     clear r4 u4 k4 k5 hu hx H3
     go_wp2_with (at_builtin; refine wpList_append_own_at _ rfl _ _ 31 rfl w.heap.size 28 i0 (.pointer none) 1 8 Tryz.undR HI.out.1 HI.out.2.1 HI.out.2.2.1 HI.out.2.2.2 rfl (by decide) (.slice (some ⟨gO,0,none⟩) m cO) m us rfl H5.out.1 ⟨w4.heap.size,0,none⟩ 1 1 [.pointer (some ⟨bs,0,none⟩)] rfl rfl (cell_one_new _ _ _) (by simp [Value.oneCell']) (by simp only [maxLen]; omega) (by omega) (by have:=H5.out.2.2.2.2; simp; omega) ?_; intro v' w7 hown hgrow _ hob)
     have H7:Hid (PO w.heap.size w7 v' (m + 1) bnv 48∧Below w.heap.size w w7):=by
      refine ⟨PO.push H5.out.1 H5.out.2.1 H5.out.2.2.1 hown hgrow rfl,H5.out.2.2.2.1.grown hgrow H5.out.2.2.2.1.size (fun g e=>?_)⟩
      obtain ⟨_,⟨h2,_⟩ | ⟨g2,cap,cur,e1,e2,e3,_⟩⟩:=H5.out.1
      ·simp at h2
      ·simp [Value.ownBlock] at e
       simp at e1
       omega
     clear hown hgrow hob H5
     go_wp2
     go_roundg (nN - (k + 1))
     case rel=>exact ⟨k + 1,_,rfl,by rw [HM.out]; go_num,rfl,by have:=HKn.out; omega,by rw [← HM.out]; exact H7.out⟩
     case measure=>have:=HK.out; have:=HKn.out; omega
  ·have ti:decide ((m:Int)≤(nN:Int)) = false:=decide_eq_false (by have:=HM.out; omega)
   have hmn:¬ m≤nN:=by have:=HM.out; omega
   obtain ⟨gO,cO,rfl,hcO,hgB,hgl,bq,hPR⟩:=HP.out.1.cellP (by have:=HM.out; omega)
   have HE:Hid (m = nN + 1∧m≤cO∧PR wr gO m bq bnv 48∧Below w.heap.size w wr):=⟨by have:=HM.out; omega,hcO,hPR,HP.out.2⟩
   clear hcO hgB hgl hPR HP HM
   go_wp2
   go_ret
   have e:=HE.out.1
   subst e
   exact ⟨gO,cO,bq,rfl,HE.out.2.1,HE.out.2.2.1,HE.out.2.2.2⟩
end
end Go.Proofs.YtnkjadpmigpneaaGreatDoor
