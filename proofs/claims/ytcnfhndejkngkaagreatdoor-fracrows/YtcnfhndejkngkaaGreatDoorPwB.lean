import Derived.Test.YtcnfhndejkngkaaGreatDoorJpS
set_option linter.unusedSimpArgs false
set_option linter.unusedVariables false
set_option maxRecDepth 100000
namespace Go.Proofs.YtcnfhndejkngkaaGreatDoor
open Go.RowKit
attribute [local go_sem] Oper.semAt_some
def nine9 : List Int := [2, 3, 5, 7, 11, 13, 17, 19, 23]
theorem pr10_mem : ∀ x ∈ pr10, 2 ≤ x ∧ (x ≤ 23 → x ∈ nine9) := by decide +kernel
theorem nine9_size : ∀ x ∈ nine9, 2 ≤ x ∧ x ≤ 23 := by decide +kernel
theorem pr10_at : ∀ i, i < 10 → pr10[i]? = some 29 → i = 9 := by decide +kernel
theorem pr10_29 {pre : List Int} {x : Int} (hx : 23 < x) (h : pre ++ [x] <+: pr10) : pre = nine9 := by
  obtain ⟨t, ht⟩ := h
  have hmem : x ∈ pr10 := by rw [← ht]; simp
  have h29 : x = 29 := by
    have : ∀ x ∈ pr10, 23 < x → x = 29 := by decide +kernel
    exact this x hmem hx
  subst h29
  have hl : pre.length < 10 := by
    have := congrArg List.length ht
    simp [pr10] at this; omega
  have h1 : pr10[pre.length]? = some 29 := by rw [← ht]; simp
  have h2 := pr10_at _ hl h1
  have h3 : pre = pr10.take 9 := by rw [← ht, ← h2]; simp
  rw [h3]; rfl
theorem nine9_pr : ∀ x ∈ nine9, 2 ≤ x.toNat ∧ ∀ c, c < x.toNat + 1 → c ∣ x.toNat → c = 1 ∨ c = x.toNat := by decide +kernel
theorem div_nine {n : Nat} {x : Int} (hn : 2 ≤ n) (hx : x ∈ nine9) (h : (n : Int) % x = 0) : Pr n ↔ (n : Int) = x := by
  obtain ⟨h1, h2⟩ := nine9_size x hx
  obtain ⟨y, rfl⟩ : ∃ y : Nat, x = y := ⟨x.toNat, by omega⟩
  have hd : y ∣ n := by
    have := Int.dvd_of_emod_eq_zero h
    exact Int.natCast_dvd_natCast.1 this
  constructor
  · intro hp
    rcases hp.2 y hd with e | e
    · omega
    · omega
  · intro e
    have e : n = y := by omega
    subst e
    have := nine9_pr n hx
    rw [Int.toNat_natCast] at this
    exact ⟨this.1, fun c hc => this.2 c (by have := Nat.le_of_dvd (by omega) hc; omega) hc⟩
theorem nine9_np : ∀ x ∈ np, (x : Int) ∈ nine9 := by decide +kernel
theorem small_div : ∀ n, n < 29 → 2 ≤ n → ∃ x ∈ np, n % x = 0 := by decide +kernel
theorem two_odd (n : Nat) (h0 : n ≠ 0) : ∃ t d, n = 2 ^ t * d ∧ d % 2 = 1 := by
  induction n using Nat.strongRecOn with
  | ind n ih =>
    rcases Nat.mod_two_eq_zero_or_one n with h | h
    · obtain ⟨t, d, h1, h2⟩ := ih (n / 2) (by omega) (by omega)
      exact ⟨t + 1, d, by rw [Nat.pow_succ, Nat.mul_comm (2 ^ t) 2, Nat.mul_assoc, ← h1]; omega, h2⟩
    · exact ⟨0, n, by simp, h⟩
theorem wit_no {n : Nat} {x : Int} (hn : 2 ≤ n) (hs : ∀ y ∈ nine9, (n : Int) % y ≠ 0) (hx : x ∈ nine9) (hw : WitIs x.toNat n true) : ¬ Pr n := by
  intro hp
  obtain ⟨t, d, h1, h2⟩ := two_odd (n - 1) (by omega)
  obtain ⟨hw1, hw2⟩ := (hw t d h1 h2).1 rfl
  obtain ⟨hx1, hx2⟩ := nine9_size x hx
  have hxn : x.toNat % n ≠ 0 := by
    intro h
    have hd := Nat.le_of_dvd (by omega) (Nat.dvd_of_mod_eq_zero h)
    obtain ⟨z, hz, hz2⟩ := small_div n (by omega) hn
    exact hs _ (nine9_np z hz) (by rw [← Int.natCast_emod, hz2]; rfl)
  rcases prime_passes hp hxn h1 with h | ⟨i, hi, h⟩
  · exact hw1 h
  · exact hw2 i hi h
theorem wit_yes {n : Nat} (hn : 2 ≤ n) (hn2 : n ≤ 1000000) (hs : ∀ y ∈ nine9, (n : Int) % y ≠ 0) (hw : ∀ x ∈ nine9, WitIs x.toNat n false) : Pr n := by
  obtain ⟨t, d, h1, h2⟩ := two_odd (n - 1) (by omega)
  refine Classical.byContradiction fun hp => ?_
  have hs' : ∀ x ∈ np, ¬ x ∣ n := fun x hx hd => hs _ (nine9_np x hx) (by rw [← Int.natCast_emod, Nat.mod_eq_zero_of_dvd hd]; rfl)
  rcases falls hn hn2 h1 h2 hp hs' with h | h
  · have := (hw 2 (by decide) t d h1 h2).2 h; cases this
  · have := (hw 3 (by decide) t d h1 h2).2 h; cases this
theorem isPrime_out {b : Bool} {w X : World} {B0 B1 : Nat} {t : Array Value} (h1 : X.heap[B1]? = some (.deferred (some []))) (h0 : X.heap[B0]? = some (.deferred (some []))) (hne : B0 ≠ B1) (hB0 : w.heap.size + 2 ≤ B0) (hB1 : w.heap.size + 2 ≤ B1)
    (ht : t[2]? = some (.pointer (some ⟨w.heap.size + 1, 0, none⟩))) (hv : Vr (w.heap.size + 1) (.bool b) X) (hB : Below w.heap.size w X) :
    bodyPostM Fence.wide 5 Tryz.prog Tryz.f182 (fun e w' => e = .returned (.bool b) ∧ Below w.heap.size w w') .ret { tmps := t, defers := [{ target := .collected B1, args := #[] }, { target := .collected B0, args := #[] }] } X := by
  refine ⟨by simp, .inl ⟨_, _, rfl, run_takeDeferred h1, ?_⟩⟩
  refine ⟨by simp, .inl ⟨_, _, rfl, run_takeDeferred ((World.putObj_heap_other hne).trans h0), ?_⟩⟩
  have hv1 := hv.put (l := B1) (.deferred none) (by omega)
  have hc5 := (hv1.put (l := B0) (.deferred none) (by omega)).c
  have k1 := hB.grown (grownBy_putObj' X B1 (.deferred none)) hB.size (fun k e => by cases e; omega)
  refine ⟨.bool b, ?_, rfl, k1.grown (grownBy_putObj' _ B0 (.deferred none)) k1.size (fun k e => by cases e; omega)⟩
  simp [results, Tryz.f182, go_sem, hc5, ht]
theorem callsIn_round {n l : Nat} {P : Program} {f : FuncId} {args : Array Value} {w : World} {R : Ending → World → Prop} (h : Calls P f args w R) : CallsIn (Fence.wide.inRound l) n P f args w R :=
  (callsIn_wide (n := n)).2 h
set_option maxHeartbeats 2000000 in
theorem isPrime_any (n : Nat) (b : Bool) (w : World) (hn : 2 ≤ n) (hn2 : n ≤ 1000000) (hb : b = true ↔ Pr n) (hT : Tb w) :
    Calls Tryz.prog 182 #[.int .i64 n] w fun e w' => e = .returned (.bool b) ∧ Below w.heap.size w w' := by
  obtain ⟨N, hN⟩ : ∃ N : Int, N = n := ⟨_, rfl⟩
  have HN : Hid (N = n) := hN
  have hN1 : 2 ≤ N := by omega
  have hN2 : N ≤ 1000000 := by omega
  rw [← hN]
  have hNl : decide (N < 2) = false := decide_eq_false (by omega)
  have HT : Hid (Tb w) := hT
  have HB : Hid (b = true ↔ Pr n) := hb
  have HWv : Hid (∀ x : Int, x ∈ nine9 → 3 ≤ n → ∃ b, WitIs x.toNat n b ∧ ∀ w, Tb w → Calls Tryz.prog 195 #[.int .i64 x, .int .i64 N] w fun e w' => e = .returned (.bool b) ∧ ∃ q, w' = w.drewN q) := by
    intro x hx h3
    obtain ⟨h1, h2⟩ := nine9_size x hx
    obtain ⟨b, h4, h5⟩ := isWitness_val x.toNat n (by omega) h3 (by omega) ⟨w, hT⟩
    refine ⟨b, h4, ?_⟩
    rw [show ((x.toNat : Nat) : Int) = x by omega, ← hN] at h5
    exact h5
  clear hT hb hN
  refine (callsIn_wide (n := 5)).1 ?_
  refine callsIn_of_wp_marks Tryz.func182 rfl trivial ?_ rfl
  simp only [Tryz.ntmps182, List.size_toArray, List.length_cons, List.length_nil, Nat.reduceAdd, Nat.reduceSub, Array.replicate_succ, Array.replicate_zero, List.push_toArray, List.append_toArray, List.nil_append, List.cons_append]
  gi_wp2
  obtain ⟨W0, hW0⟩ : ∃ W0, W0 = (w.alloc (.cells #[.int .i64 N] 3)).alloc (.cells #[.bool false] 4) := ⟨_, rfl⟩
  rw [← hW0]
  have z0 : W0.heap.size = w.heap.size + 2 := by rw [hW0]; simp
  have v0 : Vr w.heap.size (.int .i64 N) W0 := by
    rw [hW0]; exact ⟨by rw [cell_old_at _ _ _ (by simp), cell_new_at _ _ _ _ _ rfl]; rfl, by rw [frozen_old_at _ _ _ (by simp), frozen_new_at _ _ _ _ _ rfl]⟩
  have v1 : Vr (w.heap.size + 1) (.bool false) W0 := by
    rw [hW0]; exact ⟨by rw [cell_new_at _ _ _ _ _ (by simp)]; rfl, by rw [frozen_new_at _ _ _ _ _ (by simp)]⟩
  have k0 : Below w.heap.size w W0 := by rw [hW0]; exact ((Below.refl _ _).alloc (Nat.le_refl _) _).alloc (by simp) _
  clear hW0
  refine wpIn_rangeO (F := Fence.wide) (n := 5) rfl (by decide) (gf := 177) rfl trivial (enters_of Tryz.func177 (by kernel_rfl) rfl) (rising_ten Fence.wide (5 - 1) trivial rfl (by decide)) rfl
    (fun o pre W => ow (w.heap.size + 2) o W ∧ (∀ y ∈ pre, y ∈ nine9 ∧ N % y ≠ 0) ∧ Vr w.heap.size (.int .i64 N) W ∧ Vr (w.heap.size + 1) (.bool false) W ∧ Below w.heap.size w W)
    (fun c o pre W => (c = .ret ∧ Vr (w.heap.size + 1) (.bool b) W ∧ Below w.heap.size w W) ∨ (c = .exit 0 ∧ w.heap.size + 2 ≤ W.heap.size ∧ (∀ y ∈ nine9, N % y ≠ 0) ∧ Vr w.heap.size (.int .i64 N) W ∧ Vr (w.heap.size + 1) (.bool false) W ∧ Below w.heap.size w W))
    ?ab ?abp ?abx ⟨⟨by omega, by intro g e; cases e⟩, by simp, v0, v1, k0⟩
    (fun x => { tmps := #[.int .i64 N, .pointer (some ⟨w.heap.size, 0, none⟩), .pointer (some ⟨w.heap.size + 1, 0, none⟩), .int .i64 x, undef, .int .i64 N, .bool false, .int .i64 x, undef, undef, undef, undef, undef, undef, undef, undef, undef, undef, undef, undef, undef, undef, undef], defers := [] }) ?assign ?body ?hend ?stop
  case ab =>
    rintro o s A B o' ⟨h1, h2, h3, h4, h5⟩ hg ho
    exact ⟨h1.step hg ho, h2, h3.grown hg (h1.ne (by omega)), h4.grown hg (h1.ne (by omega)), h5.grown hg h5.size (fun k e => by have := h1.2 k e; omega)⟩
  case abp =>
    rintro o s A ob ⟨h1, h2, h3, h4, h5⟩
    exact ⟨h1.put ob, h2, h3.put ob (by omega), h4.put ob (by omega), h5.grown (grownBy_putObj' A _ ob) h5.size (fun k e => by cases e; omega)⟩
  case abx =>
    rintro c o s A ob (⟨h1, h2, h3⟩ | ⟨h1, h2, h3, h4, h5, h6⟩)
    · exact .inl ⟨h1, h2.put ob (by omega), h3.grown (grownBy_putObj' A _ ob) h3.size (fun k e => by cases e; omega)⟩
    · exact .inr ⟨h1, by simpa using h2, h3, h4.put ob (by omega), h5.put ob (by omega), h6.grown (grownBy_putObj' A _ ob) h6.size (fun k e => by cases e; omega)⟩
  case assign =>
    intro l x W K hK
    gi_wp2
    exact hK
  case body =>
    rintro l o pre x W ⟨ho, hp, hv0, hv1, hB⟩ hog hpre hz
    have hx : x ∈ pr10 := hpre.subset (by simp)
    obtain ⟨hx1, hx2⟩ := pr10_mem x hx
    have hx0 : (x == 0) = false := beq_eq_false_iff_ne.2 (by omega)
    have HP : Hid (∀ y ∈ pre, y ∈ nine9 ∧ N % y ≠ 0) := hp
    have KW : Hid (Below w.heap.size w W) := hB
    have HO : Hid (ow (w.heap.size + 2) o W) := ho
    have V0 : Hid (Vr w.heap.size (.int .i64 N) W) := hv0
    have V1 : Hid (Vr (w.heap.size + 1) (.bool false) W) := hv1
    have HOG : Hid (∀ g, o = some g → W0.heap.size + 2 ≤ g ∧ g < W.heap.size) := hog
    have HPre : Hid (pre ++ [x] <+: pr10) := hpre
    have hx9 : x ≤ 29 := by
      have : ∀ x ∈ pr10, x ≤ 29 := by decide +kernel
      exact this x hx
    have q0 := hv0.c
    have q1 := hv1.c
    have q2 := hv1.f
    clear hp hx hpre hB ho hv0 hv1 hog
    by_cases h23 : 23 < x
    · have hxb : decide ((23 : Int) < x) = true := decide_eq_true h23
      have HPN : Hid (pre = nine9) := pr10_29 h23 HPre.out
      clear h23 hx2
      gi_wp2
      refine ⟨KP.refl _ _, .inr ⟨rfl, by omega, fun y hy => (HP.out y (by rw [HPN.out]; exact hy)).2, V0.out, V1.out, KW.out⟩⟩
    · have hxb : decide ((23 : Int) < x) = false := decide_eq_false h23
      have HX : Hid (x ∈ nine9) := hx2 (by omega)
      clear hx2
      by_cases hm : N % x = 0
      · have hmb : ((N % x) == 0) = true := by rw [hm]; rfl
        have hNx : (N == x) = b := by
          have h := div_nine hn HX.out (by rw [← HN.out]; exact hm)
          rw [← HN.out] at h
          cases b
          · exact beq_eq_false_iff_ne.2 (fun e => by have := HB.out.2 (h.2 e); cases this)
          · exact beq_iff_eq.2 (h.1 (HB.out.1 rfl))
        clear hm
        gi_wp2
        refine ⟨(KP.refl _ _).setCell (fun h => ?_) _, .inl ⟨rfl, V1.out.set _, KW.out.setCell (by simp) _⟩⟩
        rcases h with h | h | h
        · simp at h <;> omega
        · simp at h <;> omega
        · have := (HOG.out _ h).1; simp at this <;> omega
      · have hmb : ((N % x) == 0) = false := beq_eq_false_iff_ne.2 hm
        have HM : Hid (N % x ≠ 0) := hm
        clear hm
        gi_wp2
        refine ⟨KP.refl _ _, HO.out, fun y hy => ?_, V0.out, V1.out, KW.out⟩
        rcases List.mem_append.1 hy with h | h
        · exact HP.out y h
        · simp at h; subst h; exact ⟨HX.out, HM.out⟩
  case hend =>
    rintro o W ⟨_, hp, _⟩
    have := (hp 29 (by decide)).1
    revert this; decide
  case stop =>
    rintro c o pre W (⟨rfl, hr, hB⟩ | ⟨rfl, hsz, hs, hv0, hv1, hB⟩) hK
    · gi_wp2
      refine ⟨by simp, .inl ⟨_, _, rfl, run_takeDeferred hK, ?_⟩⟩
      have hc5 := (hr.put (l := W0.heap.size) (.deferred none) (by omega)).c
      refine ⟨.bool b, ?_, rfl, hB.grown (grownBy_putObj' W W0.heap.size (.deferred none)) hB.size (fun k e => by cases e; omega)⟩
      simp [results, Tryz.f182, go_sem, hc5]
    · have HS : Hid (∀ y ∈ nine9, (n : Int) % y ≠ 0) := by rw [← HN.out]; exact hs
      have h3 : 3 ≤ n := by
        have := hs 2 (by decide)
        have := HN.out
        omega
      have HK : Hid (W.heap[W0.heap.size]? = some (.deferred (some []))) := hK
      have zK : W0.heap.size < W.heap.size := lt_of_some hK
      clear hs hK
      have hTW : Tb W := HT.out.below hB
      have HTW : Hid (Tb W) := hTW
      clear hTW
      gi_wp2
      refine wpIn_rangeO (F := Fence.wide) (n := 5) rfl (by decide) (gf := 177) rfl trivial (enters_of Tryz.func177 (by kernel_rfl) rfl) (rising_ten Fence.wide (5 - 1) trivial rfl (by decide)) rfl
        (fun o pre W' => ow W.heap.size o W' ∧ (∀ y ∈ pre, y ∈ nine9 ∧ WitIs y.toNat n false) ∧ Below W.heap.size W W')
        (fun c o pre W' => (c = .ret ∧ Vr (w.heap.size + 1) (.bool b) W' ∧ Below w.heap.size w W' ∧ W'.heap[W0.heap.size]? = some (.deferred (some []))) ∨ (c = .exit 2 ∧ (∀ y ∈ nine9, WitIs y.toNat n false) ∧ Below W.heap.size W W'))
        ?ab ?abp ?abx ⟨⟨Nat.le_refl _, by intro g e; cases e⟩, by simp, Below.refl _ _⟩
        (fun x => { tmps := #[.int .i64 N, .pointer (some ⟨w.heap.size, 0, none⟩), .pointer (some ⟨w.heap.size + 1, 0, none⟩), undef, .int .i64 x, .int .i64 N, .bool false, undef, undef, undef, undef, undef, undef, undef, undef, undef, undef, .int .i64 x, undef, undef, undef, undef, undef], defers := [] }) ?assign ?body ?hend ?stop
      case ab =>
        rintro o s A B o' ⟨h1, h2, h5⟩ hg ho
        exact ⟨h1.step hg ho, h2, h5.grown hg h5.size (fun k e => by have := h1.2 k e; omega)⟩
      case abp =>
        rintro o s A ob ⟨h1, h2, h5⟩
        exact ⟨h1.put ob, h2, h5.grown (grownBy_putObj' A _ ob) h5.size (fun k e => by cases e; omega)⟩
      case abx =>
        rintro c o s A ob (⟨h1, h2, h3, h4⟩ | ⟨h1, h2, h3⟩)
        · exact .inl ⟨h1, h2.put ob (by omega), h3.grown (grownBy_putObj' A _ ob) h3.size (fun k e => by cases e; omega), (World.putObj_heap_other (by omega)).trans h4⟩
        · exact .inr ⟨h1, h2, h3.grown (grownBy_putObj' A _ ob) h3.size (fun k e => by cases e; omega)⟩
      case assign =>
        intro l x W K hK
        gi_wp2
        exact hK
      case body =>
        rintro l o pre x W' ⟨ho, hp, hB'⟩ hog hpre hz
        have hx : x ∈ pr10 := hpre.subset (by simp)
        obtain ⟨hx1, hx2⟩ := pr10_mem x hx
        have HP : Hid (∀ y ∈ pre, y ∈ nine9 ∧ WitIs y.toNat n false) := hp
        have KW : Hid (Below W.heap.size W W') := hB'
        have HO : Hid (ow W.heap.size o W') := ho
        have HOG : Hid (∀ g, o = some g → W.heap.size + 2 ≤ g ∧ g < W'.heap.size) := hog
        have HPre : Hid (pre ++ [x] <+: pr10) := hpre
        have hx9 : x ≤ 29 := by
          have : ∀ x ∈ pr10, x ≤ 29 := by decide +kernel
          exact this x hx
        have V1 : Hid (Vr (w.heap.size + 1) (.bool false) W') := hv1.below hB'
        have q0 := (hv0.below hB').c
        have q1 := V1.out.c
        have q2 := V1.out.f
        have HTW' : Hid (Tb W') := HTW.out.below hB'
        clear hp hx hpre hB' ho hog
        by_cases h23 : 23 < x
        · have hxb : decide ((23 : Int) < x) = true := decide_eq_true h23
          have HPN : Hid (pre = nine9) := pr10_29 h23 HPre.out
          clear h23 hx2
          gi_wp2
          refine ⟨KP.refl _ _, .inr ⟨rfl, fun y hy => (HP.out y (by rw [HPN.out]; exact hy)).2, KW.out⟩⟩
        · have hxb : decide ((23 : Int) < x) = false := decide_eq_false h23
          have HX : Hid (x ∈ nine9) := hx2 (by omega)
          clear hx2
          obtain ⟨bx, hbx, hcx⟩ := HWv.out x HX.out h3
          have HC : Hid (∀ w, Tb w → Calls Tryz.prog 195 #[.int .i64 x, .int .i64 N] w fun e w' => e = .returned (.bool bx) ∧ ∃ q, w' = w.drewN q) := hcx
          have HBX : Hid (WitIs x.toNat n bx) := hbx
          clear hcx hbx
          gi_wp2
          refine ⟨trivial, ?_⟩
          refine (callsIn_round (HC.out _ HTW'.out)).mono ?_
          rintro e w4 ⟨rfl, q4, rfl⟩
          cases bx
          · gi_wp2
            refine ⟨(KP.refl _ _).below (below_drewN' (Below.refl _ _)), HO.out.size (by simp), fun y hy => ?_, below_drewN' KW.out⟩
            rcases List.mem_append.1 hy with h | h
            · exact HP.out y h
            · simp at h; subst h; exact ⟨HX.out, HBX.out⟩
          · have hbf : b = false := by
              have := wit_no hn HS.out HX.out HBX.out
              cases b
              · rfl
              · exact absurd (HB.out.1 rfl) this
            have HBF : Hid (b = false) := hbf
            clear hbf
            gi_wp2
            refine ⟨((KP.refl _ _).below (below_drewN' (Below.refl _ _))).setCell (fun h => ?_) _, .inl ⟨rfl, ?_, ?_, ?_⟩⟩
            · rcases h with h | h | h
              · simp at h <;> omega
              · simp at h <;> omega
              · have := (HOG.out _ h).1; simp at this <;> omega
            · rw [HBF.out]; exact (V1.out.below (below_drewN' (Below.refl _ _))).set _
            · exact (below_drewN' (hB.trans (KW.out.mono (by have := hB.size; omega)))).setCell (by simp) _
            · refine (Below.heap_setCell _ _ _ _ (by simp; omega)).trans ?_
              exact (KW.out.block _ zK).trans HK.out
      case hend =>
        rintro o W' ⟨_, hp, _⟩
        have := (hp 29 (by decide)).1
        revert this; decide
      case stop =>
        rintro c o pre W' (⟨rfl, hr, hB', hD⟩ | ⟨rfl, hw, hB'⟩) hK'
        · gi_wp2
          exact isPrime_out hK' hD (by omega) (by omega) (by omega) rfl hr hB'
        · have hbt : b = true := HB.out.2 (wit_yes hn hn2 HS.out hw)
          have V1 := hv1.below hB'
          have q1 := V1.c
          have q2 := V1.f
          have HD : Hid (W'.heap[W0.heap.size]? = some (.deferred (some []))) := (hB'.block _ zK).trans HK.out
          gi_wp2
          refine isPrime_out ?_ ?_ (by omega) (by omega) (by omega) rfl (by rw [hbt]; exact V1.set _) ((hB.trans (hB'.mono (by omega))).setCell (by simp) _)
          · exact (Below.heap_setCell _ _ _ _ (by simp; omega)).trans hK'
          · exact (Below.heap_setCell _ _ _ _ (by simp; omega)).trans HD.out
end Go.Proofs.YtcnfhndejkngkaaGreatDoor
