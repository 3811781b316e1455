import Derived.Test.YtnkjadpmigpneaaGreatDoorJsL
import Derived.Test.YtnkjadpmigpneaaGreatDoorJsB
import Derived.Test.YtnkjadpmigpneaaGreatDoorJsC
import Derived.Test.YtnkjadpmigpneaaGreatDoorBrA
set_option linter.unusedSimpArgs false
set_option linter.unusedVariables false
namespace Go.Proofs.YtnkjadpmigpneaaGreatDoor
section
set_option maxRecDepth 100000
open Go.RowKit
attribute [local go_sem] Oper.semAt_some
def nine9:List Int:=[2,3,5,7,11,13,17,19,23]
theorem pr10_mem:∀ x ∈ pr10,2≤x∧(x≤23→x ∈ nine9):=by decide +kernel
theorem nine9_size:∀ x ∈ nine9,2≤x∧x≤23:=by decide +kernel
theorem pr10_at:∀ i,i < 10→pr10[i]? = some 29→i = 9:=by decide +kernel
theorem pr10_29 {pre:List Int} {x:Int} (hx:23 < x) (h:pre ++ [x] <+: pr10):pre = nine9:=by
 obtain ⟨t,ht⟩:=h
 have hmem:x ∈ pr10:=by rw [← ht]; simp
 have h29:x = 29:=by
  have:∀ x ∈ pr10,23 < x→x = 29:=by decide +kernel
  exact this x hmem hx
 subst h29
 have hl:pre.length < 10:=by
  have:=congrArg List.length ht
  simp [pr10] at this; omega
 have h1:pr10[pre.length]? = some 29:=by rw [← ht]; simp
 have h2:=pr10_at _ hl h1
 have h3:pre = pr10.take 9:=by rw [← ht,← h2]; simp
 rw [h3]; rfl
theorem nine9_pr:∀ x ∈ nine9,2≤x.toNat∧∀ c,c < x.toNat + 1→c ∣ x.toNat→c = 1∨c = x.toNat:=by decide +kernel
theorem div_nine {n:Nat} {x:Int} (hn:2≤n) (hx:x ∈ nine9) (h:(n:Int) % x = 0):Pr n ↔ (n:Int) = x:=by
 obtain ⟨h1,h2⟩:=nine9_size x hx
 obtain ⟨y,rfl⟩:∃ y:Nat,x = y:=⟨x.toNat,by omega⟩
 have hd:y ∣ n:=by
  have:=Int.dvd_of_emod_eq_zero h
  exact Int.natCast_dvd_natCast.1 this
 constructor
 ·intro hp
  rcases hp.2 y hd with e | e
  ·omega
  ·omega
 ·intro e
  have e:n = y:=by omega
  subst e
  have:=nine9_pr n hx
  rw [Int.toNat_natCast] at this
  exact ⟨this.1,fun c hc=>this.2 c (by have:=Nat.le_of_dvd (by omega) hc; omega) hc⟩
theorem nine9_np:∀ x ∈ np,(x:Int) ∈ nine9:=by decide +kernel
theorem small_div:∀ n,n < 29→2≤n→∃ x ∈ np,n % x = 0:=by decide +kernel
theorem two_odd (n:Nat) (h0:n ≠ 0):∃ t d,n = 2 ^ t * d∧d % 2 = 1:=by
 induction n using Nat.strongRecOn with
 | ind n ih =>
  rcases Nat.mod_two_eq_zero_or_one n with h | h
  ·obtain ⟨t,d,h1,h2⟩:=ih (n / 2) (by omega) (by omega)
   exact ⟨t + 1,d,by rw [Nat.pow_succ,Nat.mul_comm (2 ^ t) 2,Nat.mul_assoc,← h1]; omega,h2⟩
  ·exact ⟨0,n,by simp,h⟩
theorem wit_no {n:Nat} {x:Int} (hn:2≤n) (hs:∀ y ∈ nine9,(n:Int) % y ≠ 0) (hx:x ∈ nine9) (hw:WitIs x.toNat n true):¬ Pr n:=by
 intro hp
 obtain ⟨t,d,h1,h2⟩:=two_odd (n - 1) (by omega)
 obtain ⟨hw1,hw2⟩:=(hw t d h1 h2).1 rfl
 obtain ⟨hx1,hx2⟩:=nine9_size x hx
 have hxn:x.toNat % n ≠ 0:=by
  intro h
  have hd:=Nat.le_of_dvd (by omega) (Nat.dvd_of_mod_eq_zero h)
  obtain ⟨z,hz,hz2⟩:=small_div n (by omega) hn
  exact hs _ (nine9_np z hz) (by rw [← Int.natCast_emod,hz2]; rfl)
 rcases prime_passes hp hxn h1 with h | ⟨i,hi,h⟩
 ·exact hw1 h
 ·exact hw2 i hi h
theorem wit_yes {n:Nat} (hn:2≤n) (hn2:n≤1000000) (hs:∀ y ∈ nine9,(n:Int) % y ≠ 0) (hw:∀ x ∈ nine9,WitIs x.toNat n false):Pr n:=by
 obtain ⟨t,d,h1,h2⟩:=two_odd (n - 1) (by omega)
 refine Classical.byContradiction fun hp=>?_
 have hs':∀ x ∈ np,¬ x ∣ n:=fun x hx hd=>hs _ (nine9_np x hx) (by rw [← Int.natCast_emod,Nat.mod_eq_zero_of_dvd hd]; rfl)
 rcases falls hn hn2 h1 h2 hp hs' with h | h
 ·have:=(hw 2 (by decide) t d h1 h2).2 h; cases this
 ·have:=(hw 3 (by decide) t d h1 h2).2 h; cases this
theorem isPrime_out {b:Bool} {w X:World} {B0 B1:Nat} {t:Array Value} (h1:X.heap[B1]? = some (.deferred (some []))) (h0:X.heap[B0]? = some (.deferred (some []))) (hne:B0 ≠ B1) (hB0:w.heap.size + 2≤B0) (hB1:w.heap.size + 2≤B1)
  (ht:t[2]? = some (.pointer (some ⟨w.heap.size + 1,0,none⟩))) (hv:Vr (w.heap.size + 1) (.bool b) X) (hB:Below w.heap.size w X) :
  bodyPostM Fence.wide 5 Tryz.prog Tryz.f124 (fun e w'=>e = .returned (.bool b)∧Below w.heap.size w w') .ret { tmps:=t,defers:=[{ target:=.collected B1,args:=#[] },{ target:=.collected B0,args:=#[] }] } X:=by
 refine ⟨by simp,.inl ⟨_,_,rfl,run_takeDeferred h1,?_⟩⟩
 refine ⟨by simp,.inl ⟨_,_,rfl,run_takeDeferred ((World.putObj_heap_other hne).trans h0),?_⟩⟩
 have hv1:=hv.put (l:=B1) (.deferred none) (by omega)
 have hc5:=(hv1.put (l:=B0) (.deferred none) (by omega)).c
 have k1:=hB.grown (grownBy_putObj' X B1 (.deferred none)) hB.size (fun k e=>by cases e; omega)
 refine ⟨.bool b,?_,rfl,k1.grown (grownBy_putObj' _ B0 (.deferred none)) k1.size (fun k e=>by cases e; omega)⟩
 simp [results,Tryz.f124,go_sem,hc5,ht]
theorem callsIn_round {n l:Nat} {P:Program} {f:FuncId} {args:Array Value} {w:World} {R:Ending→World→Prop} (h:Calls P f args w R):CallsIn (Fence.wide.inRound l) n P f args w R :=
 (callsIn_wide (n:=n)).2 h
set_option maxHeartbeats 2000000 in
theorem isPrime_any (n:Nat) (b:Bool) (w:World) (hn:2≤n) (hn2:n≤1000000) (hb:b = true ↔ Pr n) (hT:Tb w) :
  Calls Tryz.prog 124 #[.int .i64 n] w fun e w'=>e = .returned (.bool b)∧Below w.heap.size w w':=by
 obtain ⟨N,hN⟩:∃ N:Int,N = n:=⟨_,rfl⟩
 have HN:Hid (N = n):=hN
 have hN1:2≤N:=by omega
 have hN2:N≤1000000:=by omega
 rw [← hN]
 have hNl:decide (N < 2) = false:=decide_eq_false (by omega)
 have HT:Hid (Tb w):=hT
 have HB:Hid (b = true ↔ Pr n):=hb
 have HWv:Hid (∀ x:Int,x ∈ nine9→3≤n→∃ b,WitIs x.toNat n b∧∀ w,Tb w→Calls Tryz.prog 136 #[.int .i64 x,.int .i64 N] w fun e w'=>e = .returned (.bool b)∧∃ q,w' = w.drewN q):=by
  intro x hx h3
  obtain ⟨h1,h2⟩:=nine9_size x hx
  obtain ⟨b,h4,h5⟩:=isWitness_val x.toNat n (by omega) h3 (by omega) ⟨w,hT⟩
  refine ⟨b,h4,?_⟩
  rw [show ((x.toNat:Nat):Int) = x by omega,← hN] at h5
  exact h5
 clear hT hb hN
 refine (callsIn_wide (n:=5)).1 ?_
 refine callsIn_of_wp_marks Tryz.func124 rfl trivial ?_ rfl
 simp only [Tryz.ntmps124,List.size_toArray,List.length_cons,List.length_nil,Nat.reduceAdd,Nat.reduceSub,Array.replicate_succ,Array.replicate_zero,List.push_toArray,List.append_toArray,List.nil_append,List.cons_append]
 gi_wp2
 obtain ⟨W0,hW0⟩:∃ W0,W0 = (w.alloc (.cells #[.int .i64 N] 3)).alloc (.cells #[.bool false] 4):=⟨_,rfl⟩
 rw [← hW0]
 have z0:W0.heap.size = w.heap.size + 2:=by rw [hW0]; simp
 have v0:Vr w.heap.size (.int .i64 N) W0:=by
  rw [hW0]; exact ⟨by rw [cell_old_at _ _ _ (by simp),cell_new_at _ _ _ _ _ rfl]; rfl,by rw [frozen_old_at _ _ _ (by simp),frozen_new_at _ _ _ _ _ rfl]⟩
 have v1:Vr (w.heap.size + 1) (.bool false) W0:=by
  rw [hW0]; exact ⟨by rw [cell_new_at _ _ _ _ _ (by simp)]; rfl,by rw [frozen_new_at _ _ _ _ _ (by simp)]⟩
 have k0:Below w.heap.size w W0:=by rw [hW0]; exact ((Below.refl _ _).alloc (Nat.le_refl _) _).alloc (by simp) _
 clear hW0
 refine wpIn_rangeO (F:=Fence.wide) (n:=5) rfl (by decide) (gf:=135) rfl trivial (enters_of Tryz.func135 (by kernel_rfl) rfl) (rising_ten Fence.wide (5 - 1) trivial rfl (by decide)) rfl
  (fun o pre W=>ow (w.heap.size + 2) o W∧(∀ y ∈ pre,y ∈ nine9∧N % y ≠ 0)∧Vr w.heap.size (.int .i64 N) W∧Vr (w.heap.size + 1) (.bool false) W∧Below w.heap.size w W)
  (fun c o pre W=>(c = .ret∧Vr (w.heap.size + 1) (.bool b) W∧Below w.heap.size w W)∨(c = .exit 0∧w.heap.size + 2≤W.heap.size∧(∀ y ∈ nine9,N % y ≠ 0)∧Vr w.heap.size (.int .i64 N) W∧Vr (w.heap.size + 1) (.bool false) W∧Below w.heap.size w W))
  ?ab ?abp ?abx ⟨⟨by omega,by intro g e; cases e⟩,by simp,v0,v1,k0⟩
  (fun x=>{ tmps:=#[.int .i64 N,.pointer (some ⟨w.heap.size,0,none⟩),.pointer (some ⟨w.heap.size + 1,0,none⟩),.int .i64 x,undef,.int .i64 N,.bool false,.int .i64 x,undef,undef,undef,undef,undef,undef,undef,undef,undef,undef,undef,undef,undef,undef,undef],defers:=[] }) ?assign ?body ?hend ?stop
 case ab =>
  rintro o s A B o' ⟨h1,h2,h3,h4,h5⟩ hg ho
  exact ⟨h1.step hg ho,h2,h3.grown hg (h1.ne (by omega)),h4.grown hg (h1.ne (by omega)),h5.grown hg h5.size (fun k e=>by have:=h1.2 k e; omega)⟩
 case abp =>
  rintro o s A ob ⟨h1,h2,h3,h4,h5⟩
  exact ⟨h1.put ob,h2,h3.put ob (by omega),h4.put ob (by omega),h5.grown (grownBy_putObj' A _ ob) h5.size (fun k e=>by cases e; omega)⟩
 case abx =>
  rintro c o s A ob (⟨h1,h2,h3⟩ | ⟨h1,h2,h3,h4,h5,h6⟩)
  ·exact .inl ⟨h1,h2.put ob (by omega),h3.grown (grownBy_putObj' A _ ob) h3.size (fun k e=>by cases e; omega)⟩
  ·exact .inr ⟨h1,by simpa using h2,h3,h4.put ob (by omega),h5.put ob (by omega),h6.grown (grownBy_putObj' A _ ob) h6.size (fun k e=>by cases e; omega)⟩
 case assign =>
  intro l x W K hK
  gi_wp2
  exact hK
 case body =>
  rintro l o pre x W ⟨ho,hp,hv0,hv1,hB⟩ hog hpre hz
  have hx:x ∈ pr10:=hpre.subset (by simp)
  obtain ⟨hx1,hx2⟩:=pr10_mem x hx
  have hx0:(x == 0) = false:=beq_eq_false_iff_ne.2 (by omega)
  have HP:Hid (∀ y ∈ pre,y ∈ nine9∧N % y ≠ 0):=hp
  have KW:Hid (Below w.heap.size w W):=hB
  have HO:Hid (ow (w.heap.size + 2) o W):=ho
  have V0:Hid (Vr w.heap.size (.int .i64 N) W):=hv0
  have V1:Hid (Vr (w.heap.size + 1) (.bool false) W):=hv1
  have HOG:Hid (∀ g,o = some g→W0.heap.size + 2≤g∧g < W.heap.size):=hog
  have HPre:Hid (pre ++ [x] <+: pr10):=hpre
  have hx9:x≤29:=by
   have:∀ x ∈ pr10,x≤29:=by decide +kernel
   exact this x hx
  have q0:=hv0.c
  have q1:=hv1.c
  have q2:=hv1.f
  clear hp hx hpre hB ho hv0 hv1 hog
  by_cases h23:23 < x
  ·have hxb:decide ((23:Int) < x) = true:=decide_eq_true h23
   have HPN:Hid (pre = nine9):=pr10_29 h23 HPre.out
   clear h23 hx2
   gi_wp2
   refine ⟨KP.refl _ _,.inr ⟨rfl,by omega,fun y hy=>(HP.out y (by rw [HPN.out]; exact hy)).2,V0.out,V1.out,KW.out⟩⟩
  ·have hxb:decide ((23:Int) < x) = false:=decide_eq_false h23
   have HX:Hid (x ∈ nine9):=hx2 (by omega)
   clear hx2
   by_cases hm:N % x = 0
   ·have hmb:((N % x) == 0) = true:=by rw [hm]; rfl
    have hNx:(N == x) = b:=by
     have h:=div_nine hn HX.out (by rw [← HN.out]; exact hm)
     rw [← HN.out] at h
     cases b
     ·exact beq_eq_false_iff_ne.2 (fun e=>by have:=HB.out.2 (h.2 e); cases this)
     ·exact beq_iff_eq.2 (h.1 (HB.out.1 rfl))
    clear hm
    gi_wp2
    refine ⟨(KP.refl _ _).setCell (fun h=>?_) _,.inl ⟨rfl,V1.out.set _,KW.out.setCell (by simp) _⟩⟩
    rcases h with h | h | h
    ·simp at h <;> omega
    ·simp at h <;> omega
    ·have:=(HOG.out _ h).1; simp at this <;> omega
   ·have hmb:((N % x) == 0) = false:=beq_eq_false_iff_ne.2 hm
    have HM:Hid (N % x ≠ 0):=hm
    clear hm
    gi_wp2
    refine ⟨KP.refl _ _,HO.out,fun y hy=>?_,V0.out,V1.out,KW.out⟩
    rcases List.mem_append.1 hy with h | h
    ·exact HP.out y h
    ·simp at h; subst h; exact ⟨HX.out,HM.out⟩
 case hend =>
  rintro o W ⟨_,hp,_⟩
  have:=(hp 29 (by decide)).1
  revert this; decide
 case stop =>
  rintro c o pre W (⟨rfl,hr,hB⟩ | ⟨rfl,hsz,hs,hv0,hv1,hB⟩) hK
  ·gi_wp2
   refine ⟨by simp,.inl ⟨_,_,rfl,run_takeDeferred hK,?_⟩⟩
   have hc5:=(hr.put (l:=W0.heap.size) (.deferred none) (by omega)).c
   refine ⟨.bool b,?_,rfl,hB.grown (grownBy_putObj' W W0.heap.size (.deferred none)) hB.size (fun k e=>by cases e; omega)⟩
   simp [results,Tryz.f124,go_sem,hc5]
  ·have HS:Hid (∀ y ∈ nine9,(n:Int) % y ≠ 0):=by rw [← HN.out]; exact hs
   have h3:3≤n:=by
    have:=hs 2 (by decide)
    have:=HN.out
    omega
   have HK:Hid (W.heap[W0.heap.size]? = some (.deferred (some []))):=hK
   have zK:W0.heap.size < W.heap.size:=lt_of_some hK
   clear hs hK
   have hTW:Tb W:=HT.out.below hB
   have HTW:Hid (Tb W):=hTW
   clear hTW
   gi_wp2
   refine wpIn_rangeO (F:=Fence.wide) (n:=5) rfl (by decide) (gf:=135) rfl trivial (enters_of Tryz.func135 (by kernel_rfl) rfl) (rising_ten Fence.wide (5 - 1) trivial rfl (by decide)) rfl
    (fun o pre W'=>ow W.heap.size o W'∧(∀ y ∈ pre,y ∈ nine9∧WitIs y.toNat n false)∧Below W.heap.size W W')
    (fun c o pre W'=>(c = .ret∧Vr (w.heap.size + 1) (.bool b) W'∧Below w.heap.size w W'∧W'.heap[W0.heap.size]? = some (.deferred (some [])))∨(c = .exit 2∧(∀ y ∈ nine9,WitIs y.toNat n false)∧Below W.heap.size W W'))
    ?ab ?abp ?abx ⟨⟨Nat.le_refl _,by intro g e; cases e⟩,by simp,Below.refl _ _⟩
    (fun x=>{ tmps:=#[.int .i64 N,.pointer (some ⟨w.heap.size,0,none⟩),.pointer (some ⟨w.heap.size + 1,0,none⟩),undef,.int .i64 x,.int .i64 N,.bool false,undef,undef,undef,undef,undef,undef,undef,undef,undef,undef,.int .i64 x,undef,undef,undef,undef,undef],defers:=[] }) ?assign ?body ?hend ?stop
   case ab =>
    rintro o s A B o' ⟨h1,h2,h5⟩ hg ho
    exact ⟨h1.step hg ho,h2,h5.grown hg h5.size (fun k e=>by have:=h1.2 k e; omega)⟩
   case abp =>
    rintro o s A ob ⟨h1,h2,h5⟩
    exact ⟨h1.put ob,h2,h5.grown (grownBy_putObj' A _ ob) h5.size (fun k e=>by cases e; omega)⟩
   case abx =>
    rintro c o s A ob (⟨h1,h2,h3,h4⟩ | ⟨h1,h2,h3⟩)
    ·exact .inl ⟨h1,h2.put ob (by omega),h3.grown (grownBy_putObj' A _ ob) h3.size (fun k e=>by cases e; omega),(World.putObj_heap_other (by omega)).trans h4⟩
    ·exact .inr ⟨h1,h2,h3.grown (grownBy_putObj' A _ ob) h3.size (fun k e=>by cases e; omega)⟩
   case assign =>
    intro l x W K hK
    gi_wp2
    exact hK
   case body =>
    rintro l o pre x W' ⟨ho,hp,hB'⟩ hog hpre hz
    have hx:x ∈ pr10:=hpre.subset (by simp)
    obtain ⟨hx1,hx2⟩:=pr10_mem x hx
    have HP:Hid (∀ y ∈ pre,y ∈ nine9∧WitIs y.toNat n false):=hp
    have KW:Hid (Below W.heap.size W W'):=hB'
    have HO:Hid (ow W.heap.size o W'):=ho
    have HOG:Hid (∀ g,o = some g→W.heap.size + 2≤g∧g < W'.heap.size):=hog
    have HPre:Hid (pre ++ [x] <+: pr10):=hpre
    have hx9:x≤29:=by
     have:∀ x ∈ pr10,x≤29:=by decide +kernel
     exact this x hx
    have V1:Hid (Vr (w.heap.size + 1) (.bool false) W'):=hv1.below hB'
    have q0:=(hv0.below hB').c
    have q1:=V1.out.c
    have q2:=V1.out.f
    have HTW':Hid (Tb W'):=HTW.out.below hB'
    clear hp hx hpre hB' ho hog
    by_cases h23:23 < x
    ·have hxb:decide ((23:Int) < x) = true:=decide_eq_true h23
     have HPN:Hid (pre = nine9):=pr10_29 h23 HPre.out
     clear h23 hx2
     gi_wp2
     refine ⟨KP.refl _ _,.inr ⟨rfl,fun y hy=>(HP.out y (by rw [HPN.out]; exact hy)).2,KW.out⟩⟩
    ·have hxb:decide ((23:Int) < x) = false:=decide_eq_false h23
     have HX:Hid (x ∈ nine9):=hx2 (by omega)
     clear hx2
     obtain ⟨bx,hbx,hcx⟩:=HWv.out x HX.out h3
     have HC:Hid (∀ w,Tb w→Calls Tryz.prog 136 #[.int .i64 x,.int .i64 N] w fun e w'=>e = .returned (.bool bx)∧∃ q,w' = w.drewN q):=hcx
     have HBX:Hid (WitIs x.toNat n bx):=hbx
     clear hcx hbx
     gi_wp2
     refine ⟨trivial,?_⟩
     refine (callsIn_round (HC.out _ HTW'.out)).mono ?_
     rintro e w4 ⟨rfl,q4,rfl⟩
     cases bx
     ·gi_wp2
      refine ⟨(KP.refl _ _).below (below_drewN' (Below.refl _ _)),HO.out.size (by simp),fun y hy=>?_,below_drewN' KW.out⟩
      rcases List.mem_append.1 hy with h | h
      ·exact HP.out y h
      ·simp at h; subst h; exact ⟨HX.out,HBX.out⟩
     ·have hbf:b = false:=by
       have:=wit_no hn HS.out HX.out HBX.out
       cases b
       ·rfl
       ·exact absurd (HB.out.1 rfl) this
      have HBF:Hid (b = false):=hbf
      clear hbf
      gi_wp2
      refine ⟨((KP.refl _ _).below (below_drewN' (Below.refl _ _))).setCell (fun h=>?_) _,.inl ⟨rfl,?_,?_,?_⟩⟩
      ·rcases h with h | h | h
       ·simp at h <;> omega
       ·simp at h <;> omega
       ·have:=(HOG.out _ h).1; simp at this <;> omega
      ·rw [HBF.out]; exact (V1.out.below (below_drewN' (Below.refl _ _))).set _
      ·exact (below_drewN' (hB.trans (KW.out.mono (by have:=hB.size; omega)))).setCell (by simp) _
      ·refine (Below.heap_setCell _ _ _ _ (by simp; omega)).trans ?_
       exact (KW.out.block _ zK).trans HK.out
   case hend =>
    rintro o W' ⟨_,hp,_⟩
    have:=(hp 29 (by decide)).1
    revert this; decide
   case stop =>
    rintro c o pre W' (⟨rfl,hr,hB',hD⟩ | ⟨rfl,hw,hB'⟩) hK'
    ·gi_wp2
     exact isPrime_out hK' hD (by omega) (by omega) (by omega) rfl hr hB'
    ·have hbt:b = true:=HB.out.2 (wit_yes hn hn2 HS.out hw)
     have V1:=hv1.below hB'
     have q1:=V1.c
     have q2:=V1.f
     have HD:Hid (W'.heap[W0.heap.size]? = some (.deferred (some []))):=(hB'.block _ zK).trans HK.out
     gi_wp2
     refine isPrime_out ?_ ?_ (by omega) (by omega) (by omega) rfl (by rw [hbt]; exact V1.set _) ((hB.trans (hB'.mono (by omega))).setCell (by simp) _)
     ·exact (Below.heap_setCell _ _ _ _ (by simp; omega)).trans hK'
     ·exact (Below.heap_setCell _ _ _ _ (by simp; omega)).trans HD.out
end
section
set_option maxRecDepth 100000
open Go.RowKit
def okB3 (a b c:Int):Bool:=numB a && numB b && numB c
end
section
set_option maxRecDepth 100000
open Go.RowKit
def Pf (p k M c a:Int):Prop :=
 ((p < 2∨1000000 < p)∧M = 0∧c = 3∧a = 0) ∨
 (∃ P:Nat,p = P∧2≤P∧P≤1000000∧((¬ Pr P∧M = 0∧c = 7∧a = 0)∨(Pr P∧(((k < 1∨60 < k)∧M = 0∧c = 3∧a = 1) ∨
  ∃ K:Nat,k = K∧1≤K∧K≤60∧((1000000000000000000 < P ^ K∧M = 0∧c = 9∧a = 1)∨(P ^ K≤1000000000000000000∧M = (P ^ K:Nat)∧c = 0∧a = 0))))))
structure Pg (p k M:Int) (P K:Nat):Prop where
 p:p = P
 k:k = K
 pr:Pr P
 p2:2≤P
 p6:P≤1000000
 k1:1≤K
 k6:K≤60
 m:M = (P ^ K:Nat)
 m18:P ^ K≤1000000000000000000
theorem one_cell (a:Int) (W:World) (B:Nat) (h0:W.cell? ⟨B,0,none⟩ = some (.int .i64 a)) :
  ∀ j,j < [a].length→W.cell? ⟨B,0 + j,none⟩ = some (.int .i64 ([a].getD j 0)):=by
 intro j hj
 simp at hj
 subst hj
 simpa using h0
theorem nf_one {a:Int} (h:numB a = true):nf 0 [a] = (0,0):=nf_none _ (fun j hj=>by simp at hj; subst hj; simpa using h)
set_option maxHeartbeats 400000 in
theorem Is_any (n:Nat) (b:Bool) (w:World) (hn:2≤n) (hn2:n≤1000000) (hb:b = true ↔ Pr n) (hT:Tb w) :
  Calls Tryz.prog 103 #[.int .i64 n] w fun e w'=>e = .returned (.tuple #[.bool b,.agg #[.int .i64 0,.int .i64 0]])∧Below w.heap.size w w':=by
 have HCD:Hid (nf 0 [(n:Int)] = (0,0)):=nf_one (by simp [numB]; omega)
 have HI:Hid (∀ w,Tb w→Calls Tryz.prog 124 #[.int .i64 n] w fun e w'=>e = .returned (.bool b)∧Below w.heap.size w w'):=fun w h=>isPrime_any n b w hn hn2 hb h
 have HT:Hid (Tb w):=hT
 clear hT hb
 go_enter Tryz.func103,Tryz.ntmps103
 go_wp2_with fail
 refine (numbersFault_any [(n:Int)] _ 0 _ _ (by simp) ?_ ?_).mono ?_
 ·simp
 ·exact one_cell n _ _ (by simp)
 rw [HCD.out]
 rintro e w1 ⟨rfl,hb⟩
 have hz:w.heap.size < w1.heap.size:=by have:=hb.size; simp at this; omega
 have q0:w1.cell? ⟨w.heap.size,0,none⟩ = some (.int .i64 0):=cell_later hb (by simp)
 have q1:w1.cell? ⟨w.heap.size,1,none⟩ = some (.int .i64 0):=cell_later hb (by simp)
 have q2:w1.frozen? ⟨w.heap.size,0,none⟩ = false:=(hb.frozen (p:=⟨w.heap.size,0,none⟩) (by simp; omega)).trans (by simp)
 have q3:w1.frozen? ⟨w.heap.size,1,none⟩ = false:=(hb.frozen (p:=⟨w.heap.size,1,none⟩) (by simp; omega)).trans (by simp)
 have K1:Below w.heap.size w w1:=(((Below.refl _ w).alloc (Nat.le_refl _) _).alloc (by simp) _).trans (hb.mono (by simp; omega))
 have S1:Sv w.heap.size 0 0 w1:=⟨q0,q1,q2,q3,hz⟩
 have HS1:Hid (Sv w.heap.size 0 0 w1):=S1
 have HK1:Hid (Below w.heap.size w w1):=K1
 clear S1 K1 hb q0 q1 q2 q3
 go_wp2_with fail
 obtain ⟨W2,hW2⟩:∃ W2,W2 = w1.alloc (.cells #[.int .i64 0,.int .i64 0] 23):=⟨_,rfl⟩
 rw [← hW2]
 have K2:Below w.heap.size w W2:=by rw [hW2]; exact HK1.out.alloc (by omega) _
 have S2:Sv w.heap.size 0 0 W2:=by rw [hW2]; exact HS1.out.alloc _ _
 refine (HI.out W2 (HT.out.below K2)).mono ?_
 rintro e w3 ⟨rfl,k3⟩
 have K3:Below w.heap.size w w3:=K2.trans (k3.mono (by have:=S2.lt; omega))
 have S3:=S2.below k3
 have q0:=S3.c0
 have q1:=S3.c1
 have q2:=S3.f0
 have q3:=S3.f1
 have hz:=S3.lt
 clear hW2 K2 S2 k3
 go_wp2
 exact bodyPost_ret (v:=.tuple #[.bool b,.agg #[.int .i64 0,.int .i64 0]]) (by simp [results,Tryz.results103,go_sem,q0,q1,hz]) rfl ⟨rfl,(K3.setCell (by simp) _).setCell (by simp) _⟩
end
section
set_option maxRecDepth 100000
open Go.RowKit LgM
set_option maxHeartbeats 1000000 in
theorem choicesOf_any (n:Nat) (w:World) (hn:n≤205) :
  Calls Tryz.prog 72 #[.int .i64 (n:Int)] w fun e w'=>∃ v',e = .returned v'∧SO w.heap.size w' v' (n + 1) (fun j=>((BN.ch n j:Nat):Int))∧Below w.heap.size w w':=by
 have H1:Hid (∀ W,Calls Tryz.prog 86 #[.int .i64 1] W fun e w'=>∃ v,e = .returned (.agg #[v,.bool false])∧LN w' v 1∧Below W.heap.size W w'):=fun W=>SignedOf_any 1 W (by omega) (by omega)
 go_enter Tryz.func72,Tryz.ntmps72
 go_wp2_with fail
 refine (H1.out w).mono ?_
 rintro e w1 ⟨v1,rfl,l1,k1⟩
 obtain ⟨a1,m1,c1,rfl⟩:=l1.shape
 have HS0:Hid (SO w.heap.size (w1.alloc (.cells #[.slice a1 m1 c1,.bool false] 66)) (.slice (some ⟨w1.heap.size,0,none⟩) 1 1) 1 (fun j=>((BN.ch 0 j:Nat):Int))∧Below w.heap.size w (w1.alloc (.cells #[.slice a1 m1 c1,.bool false] 66))) :=
  ⟨SO.lit (y:=1) k1.size l1 rfl _ (by rw [BN.ch_zero]; rfl),k1.alloc k1.size _⟩
 clear l1 k1 H1
 go_wp2
 go_loopw [3,7] (fun lv iv wx=>∃ i:Nat,i≤n∧iv = .int .i64 (i:Int)∧Hid (SO w.heap.size wx lv (i + 1) (fun j=>((BN.ch i j:Nat):Int))∧Below w.heap.size w wx)) (fun _ iv _=>n - (intOf iv).toNat)
 case atStart=>exact ⟨0,Nat.zero_le _,rfl,HS0.out⟩
 case round =>
  clear HS0
  obtain ⟨i,hin,rfl,HR⟩:=hrel
  by_cases hlt:i < n
  ·go_wp2_with fail
   refine (oneMore_any _ i wr HR.out.1.va (by omega)).mono ?_
   rintro e w2 ⟨v2,rfl,s2,k2⟩
   have HN:Hid (SO w.heap.size w2 v2 (i + 1 + 1) (fun j=>((BN.ch (i + 1) j:Nat):Int))∧Below w.heap.size w w2):=⟨s2.low HR.out.2.size,HR.out.2.trans (k2.mono HR.out.2.size)⟩
   clear s2 k2
   go_wp2
   go_roundw
   case rel=>exact ⟨i + 1,by omega,by go_num,HN.out⟩
   case measure=>simp [intOf]; omega
  ·obtain rfl:i = n:=by omega
   go_wp2
   go_ret
   exact ⟨_,rfl,HR.out⟩
set_option maxHeartbeats 1000000 in
theorem isPrime_low (n:Nat) (w:World) (hn:n < 2) :
  Calls Tryz.prog 124 #[.int .i64 n] w fun e w'=>e = .returned (.bool false)∧Below w.heap.size w w':=by
 have h1:decide ((n:Int) < 2) = true:=decide_eq_true (by omega)
 go_enter Tryz.func124,Tryz.ntmps124
 go_wp2
 refine bodyPost_ret (v:=.bool false) (by simp [results,Tryz.f124,go_sem]) rfl ⟨rfl,?_⟩
 exact ((Below.refl _ _).alloc (Nat.le_refl _) _).alloc (by simp) _
set_option maxHeartbeats 400000 in
theorem Is_of (n:Nat) (b:Bool) (w:World) (hn2:n≤1000000) (HI:Hid (∀ w,Tb w→Calls Tryz.prog 124 #[.int .i64 n] w fun e w'=>e = .returned (.bool b)∧Below w.heap.size w w')) (hT:Tb w) :
  Calls Tryz.prog 103 #[.int .i64 n] w fun e w'=>e = .returned (.tuple #[.bool b,.agg #[.int .i64 0,.int .i64 0]])∧Below w.heap.size w w':=by
 have HCD:Hid (nf 0 [(n:Int)] = (0,0)):=nf_one (by simp [numB]; omega)
 have HT:Hid (Tb w):=hT
 clear hT
 go_enter Tryz.func103,Tryz.ntmps103
 go_wp2_with fail
 refine (numbersFault_any [(n:Int)] _ 0 _ _ (by simp) ?_ ?_).mono ?_
 ·simp
 ·exact one_cell n _ _ (by simp)
 rw [HCD.out]
 rintro e w1 ⟨rfl,hb⟩
 have hz:w.heap.size < w1.heap.size:=by have:=hb.size; simp at this; omega
 have q0:w1.cell? ⟨w.heap.size,0,none⟩ = some (.int .i64 0):=cell_later hb (by simp)
 have q1:w1.cell? ⟨w.heap.size,1,none⟩ = some (.int .i64 0):=cell_later hb (by simp)
 have q2:w1.frozen? ⟨w.heap.size,0,none⟩ = false:=(hb.frozen (p:=⟨w.heap.size,0,none⟩) (by simp; omega)).trans (by simp)
 have q3:w1.frozen? ⟨w.heap.size,1,none⟩ = false:=(hb.frozen (p:=⟨w.heap.size,1,none⟩) (by simp; omega)).trans (by simp)
 have K1:Below w.heap.size w w1:=(((Below.refl _ w).alloc (Nat.le_refl _) _).alloc (by simp) _).trans (hb.mono (by simp; omega))
 have S1:Sv w.heap.size 0 0 w1:=⟨q0,q1,q2,q3,hz⟩
 have HS1:Hid (Sv w.heap.size 0 0 w1):=S1
 have HK1:Hid (Below w.heap.size w w1):=K1
 clear S1 K1 hb q0 q1 q2 q3
 go_wp2_with fail
 obtain ⟨W2,hW2⟩:∃ W2,W2 = w1.alloc (.cells #[.int .i64 0,.int .i64 0] 23):=⟨_,rfl⟩
 rw [← hW2]
 have K2:Below w.heap.size w W2:=by rw [hW2]; exact HK1.out.alloc (by omega) _
 have S2:Sv w.heap.size 0 0 W2:=by rw [hW2]; exact HS1.out.alloc _ _
 refine (HI.out W2 (HT.out.below K2)).mono ?_
 rintro e w3 ⟨rfl,k3⟩
 have K3:Below w.heap.size w w3:=K2.trans (k3.mono (by have:=S2.lt; omega))
 have S3:=S2.below k3
 have q0:=S3.c0
 have q1:=S3.c1
 have q2:=S3.f0
 have q3:=S3.f1
 have hz:=S3.lt
 clear hW2 K2 S2 k3
 go_wp2
 exact bodyPost_ret (v:=.tuple #[.bool b,.agg #[.int .i64 0,.int .i64 0]]) (by simp [results,Tryz.results103,go_sem,q0,q1,hz]) rfl ⟨rfl,(K3.setCell (by simp) _).setCell (by simp) _⟩
theorem Is_small (n:Nat) (w:World) (hn:n≤1000) (hT:Tb w) :
  Calls Tryz.prog 103 #[.int .i64 n] w fun e w'=>e = .returned (.tuple #[.bool (BN.isp n),.agg #[.int .i64 0,.int .i64 0]])∧Below w.heap.size w w':=by
 by_cases h:n < 2
 ·have e:BN.isp n = false:=by unfold BN.isp; rw [decide_eq_false (by omega)]; rfl
  rw [e]
  exact Is_of n false w (by omega) (fun w _=>isPrime_low n w h) hT
 ·exact Is_any n (BN.isp n) w (by omega) (by omega) (BN.isp_iff n) hT
theorem prm_bs {n:Nat} (h:n < 202):BN.prm n < Bs ^ 12:=Nat.lt_of_le_of_lt (BN.prm_chk n h) (by decide +kernel)
def Pbx (b i:Nat) (w:World):Prop:=∃ a k c,Cl b [.slice a k c,.bool false] 66 w∧LN w (.slice a k c) (BN.prm (i - 1))
theorem Pbx.below {b i:Nat} {w w':World} (h:Pbx b i w) (k:Below w.heap.size w w'):Pbx b i w':=by
 obtain ⟨a,m,c,h1,h2⟩:=h
 exact ⟨a,m,c,h1.below k,h2.below k⟩
theorem prm_no {i:Nat} (h:BN.isp i = false):BN.prm (i + 1 - 1) = BN.prm (i - 1):=by
 cases i with
 | zero=>rfl
 | succ i =>
  show (if BN.isp (i + 1) then BN.prm i * (i + 1) else BN.prm i) = BN.prm i
  rw [h]; rfl
theorem prm_yes {i:Nat} (h:BN.isp i = true):BN.prm (i + 1 - 1) = BN.prm (i - 1) * i:=by
 cases i with
 | zero=>exact absurd h (by decide)
 | succ i =>
  show (if BN.isp (i + 1) then BN.prm i * (i + 1) else BN.prm i) = BN.prm i * (i + 1)
  rw [h]; rfl
set_option maxHeartbeats 4000000 in
theorem primorial_any (n:Nat) (w:World) (hn:n≤201) (hT:Tb w) :
  Calls Tryz.prog 71 #[.int .i64 (n:Int)] w fun e w'=>∃ v,e = .returned (.agg #[v,.bool false])∧LN w' v (BN.prm n)∧Below w.heap.size w w':=by
 have H1:Hid (∀ (i:Nat) W,i≤300→Calls Tryz.prog 86 #[.int .i64 (i:Int)] W fun e w'=>∃ v,e = .returned (.agg #[v,.bool false])∧LN w' v i∧Below W.heap.size W w'):=fun i W hi=>by
  have:=SignedOf_any (i:Int) W (by omega) (by omega)
  rw [show decide ((i:Int) < 0) = false from decide_eq_false (by omega),show (i:Int).natAbs = i by omega] at this
  exact this
 have HT:Hid (Tb w):=hT
 have h11:=H1.out 1 (w.alloc (.cells #[.slice none 0 0,.bool false] 66)) (by omega)
 have H11:Hid (Calls Tryz.prog 86 #[.int .i64 1] (w.alloc (.cells #[.slice none 0 0,.bool false] 66)) fun e w'=>∃ v,e = .returned (.agg #[v,.bool false])∧LN w' v 1∧Below (w.alloc (.cells #[.slice none 0 0,.bool false] 66)).heap.size (w.alloc (.cells #[.slice none 0 0,.bool false] 66)) w'):=h11
 clear hT h11
 go_enter Tryz.func71,Tryz.ntmps71
 go_wp2_with fail
 refine H11.out.mono ?_
 rintro e w1 ⟨v1,rfl,l1,k1⟩
 obtain ⟨a1,m1,c1,rfl⟩:=l1.shape
 have hz1:w.heap.size < w1.heap.size:=by have:=k1.size; simp at this; omega
 have HC0:Hid (Cl w.heap.size [.slice none 0 0,.bool false] 66 w1):=(Cl.new [.slice none 0 0,.bool false] 66 w).below k1
 have HZ1:Hid (w.heap.size < w1.heap.size):=hz1
 obtain ⟨W1,hW1⟩:∃ W1,W1 = w1.alloc (.cells #[.slice a1 m1 c1,.bool false] 66):=⟨_,rfl⟩
 have HP0:Hid (Pbx w1.heap.size 0 W1∧Cl w.heap.size [.slice none 0 0,.bool false] 66 W1∧Below w.heap.size w W1):=by
  show _∧_
  rw [hW1]
  exact ⟨⟨_,_,_,Cl.new [.slice a1 m1 c1,.bool false] 66 w1,l1.below ((Below.refl _ _).alloc (Nat.le_refl _) _)⟩,HC0.out.alloc _,((((Below.refl _ _).alloc (Nat.le_refl _) _).trans (k1.mono (by simp))).alloc (by omega) _)⟩
 clear l1 k1 hz1 H11 HC0
 go_wp2
 rw [← hW1]
 clear hW1
 obtain ⟨bP,hbP⟩:∃ bP,bP = w1.heap.size:=⟨_,rfl⟩
 rw [← hbP] at HP0 ⊢
 have HB:Hid (w.heap.size < bP):=by show _ < _; rw [hbP]; exact HZ1.out
 clear hbP HZ1
 go_loopw [10] (fun iv wx=>∃ i:Nat,i≤n + 1∧iv = .int .i64 (i:Int)∧Hid (Pbx bP i wx∧Cl w.heap.size [.slice none 0 0,.bool false] 66 wx∧Below w.heap.size w wx)) (fun iv _=>n + 1 - (intOf iv).toNat)
 case atStart=>exact ⟨0,Nat.zero_le _,rfl,HP0.out⟩
 case round =>
  clear HP0
  obtain ⟨i,hin,rfl,HR⟩:=hrel
  by_cases hlt:i < n + 1
  ·obtain ⟨b,hb⟩:∃ b,b = BN.isp i:=⟨_,rfl⟩
   have HBb:Hid (b = BN.isp i):=hb
   have HIs:Hid (Calls Tryz.prog 103 #[.int .i64 (i:Int)] wr fun e w'=>e = .returned (.tuple #[.bool b,.agg #[.int .i64 0,.int .i64 0]])∧Below wr.heap.size wr w'):=by
    have:=Is_small i wr (by omega) (HT.out.below HR.out.2.2)
    rw [← hb] at this
    exact this
   clear hb
   go_wp2_with fail
   refine HIs.out.mono ?_
   rintro e w2 ⟨rfl,k2⟩
   obtain ⟨W3,hW3⟩:∃ W3,W3 = w2.alloc (.cells #[.int .i64 0,.int .i64 0] 23):=⟨_,rfl⟩
   have k3:Below wr.heap.size wr W3:=by rw [hW3]; exact k2.alloc k2.size _
   have HR3:Hid (Pbx bP i W3∧Cl w.heap.size [.slice none 0 0,.bool false] 66 W3∧Below w.heap.size w W3):=⟨HR.out.1.below k3,HR.out.2.1.below k3,HR.out.2.2.trans (k3.mono HR.out.2.2.size)⟩
   clear k2 k3 HIs HR
   cases b
   ·have HN:Hid (Pbx bP (i + 1) W3∧Cl w.heap.size [.slice none 0 0,.bool false] 66 W3∧Below w.heap.size w W3):=by
     refine ⟨?_,HR3.out.2⟩
     obtain ⟨a,m,c,p1,p2⟩:=HR3.out.1
     exact ⟨a,m,c,p1,by rw [prm_no HBb.out.symm]; exact p2⟩
    go_wp2
    rw [← hW3]
    clear hW3
    go_roundw
    case rel=>exact ⟨i + 1,by omega,by go_num,HN.out⟩
    case measure=>simp [intOf]; omega
   ·go_wp2
    rw [← hW3]
    clear hW3
    obtain ⟨a,m,c,p1,p2⟩:=HR3.out.1
    have HPx:Hid (Cl bP [.slice a m c,.bool false] 66 W3∧LN W3 (.slice a m c) (BN.prm (i - 1))):=⟨p1,p2⟩
    have HK:Hid (∀ W,Below W3.heap.size W3 W→W.cell? ⟨bP,0,none⟩ = some (.slice a m c)∧W.cell? ⟨bP,1,none⟩ = some (.bool false)):=fun W k=>by
     have h:=p1.below k
     have a1:=h.cell 0
     have a2:=h.cell 1
     simp at a1 a2
     exact ⟨a1,a2⟩
    clear p1 p2
    refine wp_region_G (fun W=>W.cell? ⟨bP,0,none⟩ = some (.slice a m c)∧W.cell? ⟨bP,1,none⟩ = some (.bool false)) 4 (by kernel_rfl) (HK.out _ (Below.refl _ _).drew) (fun hHeld=>?_)
    refine wpAnyG_take (i:=0) (v:=?v0x1) rfl (by kernel_rfl) (fun _ _ _ h=>h) (Or.inl ⟨by rfl,?y0x1⟩) hHeld ?r0x1
    case y0x1=>(intro wS hSw; obtain ⟨s1,s2⟩:=hSw; go_simp; try with_reducible rfl)
    simp only [Act.put,List.getElem_toArray,List.getElem_cons_zero,List.getElem_cons_succ,List.setIfInBounds_toArray,List.set_cons_zero,List.set_cons_succ]
    refine wpAnyG_take (i:=1) (v:=?v1x2) rfl (by kernel_rfl) (fun _ _ _ h=>h) (Or.inl ⟨by rfl,?y1x2⟩) hHeld ?r1x2
    case y1x2=>(intro wS hSw; obtain ⟨s1,s2⟩:=hSw; go_simp; try with_reducible rfl)
    simp only [Act.put,List.getElem_toArray,List.getElem_cons_zero,List.getElem_cons_succ,List.setIfInBounds_toArray,List.set_cons_zero,List.set_cons_succ]
    refine wpAnyG_one (i:=2) rfl (by kernel_rfl) (fun K hK=>?_)
    go_simp
    refine (H1.out i _ (by omega)).mono ?_
    rintro e w4 ⟨v4,rfl,l4,k4⟩
    obtain ⟨a4,m4,c4,rfl⟩:=l4.shape
    have HL4:Hid (LN w4 (.slice a4 m4 c4) i∧Below W3.heap.size W3 w4):=⟨l4,(Below.refl _ _).drew.trans k4⟩
    clear l4 k4
    refine hK.out _ _ (HK.out _ HL4.out.2) ?_
    clear hK K hHeld
    have hHeld:=HK.out _ HL4.out.2
    refine wpAnyG_one (i:=3) rfl (by kernel_rfl) (fun K hK=>?_)
    go_simp
    have hpr:=SProduct_any (.slice a m c) (.slice a4 m4 c4) ((BN.prm (i - 1):Nat):Int) (i:Int) 12 w4 (by rw [Int.natAbs_natCast]; exact HPx.out.2.below HL4.out.2) (by rw [Int.natAbs_natCast]; exact HL4.out.1) (by rw [Int.natAbs_natCast]; exact prm_bs (by omega)) (by rw [Int.natAbs_natCast]; exact Nat.lt_of_lt_of_le (show i < Bs by show i < 1000000000; omega) (Nat.le_self_pow (by decide) _)) (by omega)
    rw [decide_eq_false (show ¬ ((BN.prm (i - 1):Nat):Int) < 0 by omega),decide_eq_false (show ¬ (i:Int) < 0 by omega),← Int.natCast_mul,decide_eq_false (show ¬ ((BN.prm (i - 1) * i:Nat):Int) < 0 by omega),Int.natAbs_natCast,← prm_yes HBb.out.symm] at hpr
    refine hpr.mono ?_
    clear hpr
    rintro e w5 ⟨v5,rfl,l5,k5⟩
    obtain ⟨a5,m5,c5,rfl⟩:=l5.shape
    have HK5:Hid (Below W3.heap.size W3 w5):=HL4.out.2.trans (k5.mono HL4.out.2.size)
    have HC5:Hid (Cl bP [.slice a m c,.bool false] 66 w5):=HPx.out.1.below HK5.out
    have HN:Hid (Pbx bP (i + 1) ((w5.setCell ⟨bP,0,none⟩ (.slice a5 m5 c5)).setCell ⟨bP,1,none⟩ (.bool false))∧Cl w.heap.size [.slice none 0 0,.bool false] 66 ((w5.setCell ⟨bP,0,none⟩ (.slice a5 m5 c5)).setCell ⟨bP,1,none⟩ (.bool false))∧Below w.heap.size w ((w5.setCell ⟨bP,0,none⟩ (.slice a5 m5 c5)).setCell ⟨bP,1,none⟩ (.bool false))):=by
     have hb:=HB.out
     refine ⟨⟨a5,m5,c5,HC5.out.two _ _,l5.setTwo HC5.out⟩,((HR3.out.2.1.below HK5.out).other (by simp; omega) _).other (by simp; omega) _,(((HR3.out.2.2.trans (HK5.out.mono HR3.out.2.2.size)).setCell (by simp; omega) _).setCell (by simp; omega) _)⟩
    have u1:=HC5.out.cell 0
    have u2:=HC5.out.cell 1
    have u3:=HC5.out.frozen 0
    have u4:=HC5.out.frozen 1
    simp at u1 u2
    clear l5 k5
    refine hK.out _ _ (HK.out _ HK5.out) ?_
    clear hK K hHeld
    have hHeld:=HK.out _ HK5.out
    refine wpAnyG_last (i:=4) rfl (by kernel_rfl) (by kernel_rfl) (fun K hK=>?_)
    go_simp
    refine hK.out _ _ ?_
    clear hK K
    refine wpAnyG_done (by kernel_rfl) ?_ _
    clear u1 u2 u3 u4 hHeld
    go_wp2
    go_roundw
    case rel=>exact ⟨i + 1,by omega,by go_num,HN.out⟩
    case measure=>simp [intOf]; omega
  ·obtain rfl:i = n + 1:=by omega
   obtain ⟨a,m,c,p1,p2⟩:=HR.out.1
   have HPx:Hid (LN wr (.slice a m c) (BN.prm n)):=p2
   have u1:=p1.cell 0
   have u2:=p1.cell 1
   have u3:=HR.out.2.1.cell 0
   have u4:=HR.out.2.1.cell 1
   have u5:=HR.out.2.1.frozen 0
   have u6:=HR.out.2.1.frozen 1
   simp at u1 u2 u3 u4
   clear p1 p2
   go_wp2
   have C3:=HR.out.2.1.two (.slice a m c) (.bool false)
   have e1:=C3.cell 0
   have e2:=C3.cell 1
   simp at e1 e2
   refine bodyPost_ret (v:=.agg #[.slice a m c,.bool false]) (by simp [results,Tryz.results71,go_sem,e1,e2]) rfl ⟨_,rfl,?_,?_⟩
   ·exact HPx.out.setTwo HR.out.2.1
   ·exact (HR.out.2.2.setCell (by simp) _).setCell (by simp) _
end
end Go.Proofs.YtnkjadpmigpneaaGreatDoor
