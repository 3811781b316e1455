import Derived.Test.YtcnfhndejkngkaaGreatDoorJpAb
import Derived.Test.YtcnfhndejkngkaaGreatDoorJpJ
import Derived.Test.YtcnfhndejkngkaaGreatDoorJpA
import Derived.Test.YtcnfhndejkngkaaGreatDoorJpE
set_option linter.unusedSimpArgs false
set_option linter.unusedVariables false
set_option maxRecDepth 100000
namespace Go.Proofs.YtcnfhndejkngkaaGreatDoor
open Go.RowKit
structure Oc (bU bP bM U m n : Nat) (a : Option Addr) (c : Nat) (T : List (Int × Int)) (W : World) : Prop where
  u : Cl bU [.int .i64 (U : Int)] 3 W
  p : Cl bP [.slice a n c] 185 W
  m : Cl bM [.int .i64 (m : Int)] 3 W
  cells : ∀ i, i < n → ∃ g, a = some ⟨g, 0, none⟩ ∧ g < W.heap.size ∧ W.cell? ⟨g, i * 2, none⟩ = some (.int .i64 (T.getD i (0, 0)).1) ∧ W.cell? ⟨g, i * 2 + 1, none⟩ = some (.int .i64 (T.getD i (0, 0)).2)
theorem Oc.below {bU bP bM U m n : Nat} {a : Option Addr} {c : Nat} {T : List (Int × Int)} {W W' : World} (h : Oc bU bP bM U m n a c T W) (k : Below W.heap.size W W') : Oc bU bP bM U m n a c T W' :=
  ⟨h.u.below k, h.p.below k, h.m.below k, fun i hi => by
    obtain ⟨g, h1, h2, h3, h4⟩ := h.cells i hi
    exact ⟨g, h1, Nat.lt_of_lt_of_le h2 k.size, (k.cell (p := ⟨g, i * 2, none⟩) h2).trans h3, (k.cell (p := ⟨g, i * 2 + 1, none⟩) h2).trans h4⟩⟩
set_option maxHeartbeats 4000000 in
theorem orders1_any (U m n : Nat) (T : List (Int × Int)) (a : Option Addr) (c bU bP bM : Nat) (w : World) (hm : 2 ≤ m) (hm6 : m ≤ 1000000) (hU : 1 ≤ U) (hU6 : U ≤ 1000000) (hn : n = T.length) (hn50 : n ≤ 50) (hT : OR.Tp T) (hp6 : ∀ x ∈ T, x.1 ≤ 1000000) (hE : 10 ^ U % m = 1 % m) (hAll : ∀ q, Pr q → q ∣ U → ∃ x ∈ T, x.1 = (q : Int)) (h : Oc bU bP bM U m n a c T w) :
    Calls Tryz.prog 157 #[.int .i64 10, .pointer (some ⟨bU, 0, none⟩), .pointer (some ⟨bP, 0, none⟩), .pointer (some ⟨bM, 0, none⟩)] w fun e w' => ∃ o : Nat, e = .returned (.int .i64 (o : Int)) ∧ (1 ≤ o ∧ o ≤ U ∧ 10 ^ o % m = 1 % m ∧ ∀ k, 1 ≤ k → 10 ^ k % m = 1 % m → o ≤ k) ∧ Below w.heap.size w w' := by
  have HO : Hid (Oc bU bP bM U m n a c T w) := h
  have HT : Hid (OR.Tp T ∧ n = T.length ∧ (∀ x ∈ T, x.1 ≤ 1000000) ∧ ∀ q, Pr q → q ∣ U → ∃ x ∈ T, x.1 = (q : Int)) := ⟨hT, hn, hp6, hAll⟩
  have HL0 : Hid (OR.Ld 10 m U T 0 U) := ⟨hU, Nat.dvd_refl _, hE, fun j hj => by omega⟩
  have HU : Hid (1 ≤ U ∧ U ≤ 1000000) := ⟨hU, hU6⟩
  have u0 := h.u.cell 0
  have u1 := h.p.cell 0
  simp at u0 u1
  have u2 := h.u.lt
  have u3 := h.p.lt
  clear h hT hn hp6 hAll hE hU
  go_enter Tryz.func157, Tryz.ntmps157
  go_wp2
  clear u0 u1 u2 u3
  go_loopg [6, 12] n (fun gk ov iv wx => ∃ i o : Nat, ov = .int .i64 (o : Int) ∧ iv = .int .i64 (i : Int) ∧ Hid (gk = n - i ∧ i ≤ n ∧ OR.Ld 10 m U T i o ∧ Below w.heap.size w wx))
  case atStart => exact ⟨0, U, rfl, rfl, by omega, by omega, HL0.out, Below.refl _ _⟩
  case round =>
    clear HL0
    obtain ⟨i, o, rfl, rfl, HR⟩ := hrel
    obtain ⟨h1, h2, h3, h4⟩ := HR.out
    have HG : Hid (gk = n - i) := h1
    have HL : Hid (OR.Ld 10 m U T i o) := h3
    have HB : Hid (Below w.heap.size w wr) := h4
    clear HR h1 h3 h4
    by_cases hi : i < n
    · have ti : decide ((i : Int) < (n : Int)) = true := decide_eq_true (by omega)
      have OW := HO.out.below HB.out
      obtain ⟨g, rfl, hg, d0, d1⟩ := OW.cells i hi
      have hmem : T.getD i (0, 0) ∈ T := by
        rw [List.getD_eq_getElem?_getD, List.getElem?_eq_getElem (by have := HT.out.2.1; omega)]
        exact List.getElem_mem _
      obtain ⟨p, t, hx, hp, ht⟩ := HT.out.1.mem _ hmem
      have hp6 : (p : Int) ≤ 1000000 := by have := HT.out.2.2.1 _ hmem; rw [hx] at this; exact this
      rw [hx] at d0 d1
      have HP : Hid ((T.getD i (0, 0)).1 = (p : Int)) := by show _ = _; rw [hx]
      have hp2 : 2 ≤ p := hp.1
      have HM : Hid (Cl bM [.int .i64 (m : Int)] 3 wr) := OW.m
      obtain ⟨bq, hbq⟩ : ∃ b, b = wr.heap.size := ⟨_, rfl⟩
      obtain ⟨W1, hW1⟩ : ∃ W, W = wr.alloc (.cells #[.int .i64 (p : Int), .int .i64 (t : Int)] 189) := ⟨_, rfl⟩
      have HS : Hid (Cl bq [.int .i64 (p : Int), .int .i64 (t : Int)] 189 W1 ∧ Cl bM [.int .i64 (m : Int)] 3 W1 ∧ Below w.heap.size w W1) := by
        show _ ∧ _
        rw [hW1, hbq]
        exact ⟨Cl.new [.int .i64 (p : Int), .int .i64 (t : Int)] _ _, HM.out.alloc _, HB.out.alloc HB.out.size _⟩
      clear hx hp hmem OW HM ht
      go_wp2_with fail
      rw [← hW1]
      simp only [← hbq]
      clear hW1 hbq d0 d1 hg
      go_loopg [6] o (fun gk2 ov wx => ∃ o2 : Nat, ov = .int .i64 (o2 : Int) ∧ Hid (gk2 = o2 ∧ OR.Ld 10 m U T i o2 ∧ Cl bq [.int .i64 (p : Int), .int .i64 (t : Int)] 189 wx ∧ Cl bM [.int .i64 (m : Int)] 3 wx ∧ Below w.heap.size w wx))
      case atStart => exact ⟨o, rfl, rfl, HL.out, HS.out⟩
      case round =>
        clear HS HL HB
        obtain ⟨o2, rfl, HR⟩ := hrel
        obtain ⟨h1, h3, h4, h5, h6⟩ := HR.out
        have HG2 : Hid (gk = o2) := h1
        have HL : Hid (OR.Ld 10 m U T i o2) := h3
        have HS : Hid (Cl bq [.int .i64 (p : Int), .int .i64 (t : Int)] 189 wr ∧ Cl bM [.int .i64 (m : Int)] 3 wr ∧ Below w.heap.size w wr) := ⟨h4, h5, h6⟩
        have ho1 := h3.pos
        have ho6 : o2 ≤ 1000000 := by have := Nat.le_of_dvd (by have := HU.out; omega) h3.dv; have := HU.out; omega
        clear HR h1 h3 h4 h5 h6
        have c0 := HS.out.1.cell 0
        have c2 := HS.out.2.1.cell 0
        have c3 := HS.out.1.lt
        have c4 := HS.out.2.1.lt
        simp at c0 c2
        obtain ⟨r, hr⟩ : ∃ r, r = o2 % p := ⟨_, rfl⟩
        obtain ⟨Q, hQ⟩ : ∃ Q, Q = o2 / p := ⟨_, rfl⟩
        have tr : Int.tmod (o2 : Int) (p : Int) = (r : Int) := by rw [hr]; rfl
        have tq : Int.tdiv (o2 : Int) (p : Int) = (Q : Int) := by rw [hQ]; rfl
        have wQ : IntKind.i64.wrap (Q : Int) = (Q : Int) := by rw [IntKind.wrap_i64]; have : Q ≤ o2 := (by rw [hQ]; exact Nat.div_le_self _ _); omega
        have hrl : r < p := by rw [hr]; exact Nat.mod_lt _ (by omega)
        have hQl : Q ≤ o2 := by rw [hQ]; exact Nat.div_le_self _ _
        have np : ¬ p = 0 := by omega
        have npi : ¬ (p : Int) = 0 := by omega
        have HRr : Hid (r = o2 % p) := hr
        have HQ : Hid (Q = o2 / p) := hQ
        obtain ⟨z, hz⟩ : ∃ z, z = 10 ^ Q % m := ⟨_, rfl⟩
        have hzm : z < m := by rw [hz]; exact Nat.mod_lt _ (by omega)
        have HZ : Hid (z = 10 ^ Q % m) := hz
        have HPw : Hid (∀ W, Calls Tryz.prog 158 #[.int .i64 10, .int .i64 (Q : Int), .int .i64 (m : Int)] W fun e w' => e = .returned (.int .i64 (z : Int)) ∧ ∃ q, w' = W.drewN q) := fun W => by
          have h := modPower_any 10 Q m W (by decide) (by omega) (by omega) (by omega)
          have e : (((10 : Int) % (m : Int)).toNat ^ Q % m : Nat) = z := by
            have e2 : ((10 : Int) % (m : Int)).toNat = 10 % m := by
              rw [show (10 : Int) % (m : Int) = ((10 % m : Nat) : Int) from rfl, Int.toNat_natCast]
            rw [e2, ← Nat.pow_mod, hz]
          rw [e] at h
          exact h
        clear hr hQ hz
        by_cases hr0 : r = 0
        · have t0 : ((r : Int) == 0) = true := by rw [hr0]; rfl
          by_cases hz1 : z = 1
          · have t1 : ((z : Int) == 1) = true := by rw [hz1]; rfl
            have HL2 : Hid (OR.Ld 10 m U T i Q) := by
              have := HRr.out
              have h7 := HL.out.div (p := p) hp2 (Nat.dvd_of_mod_eq_zero (by omega)) (by rw [← HQ.out, ← HZ.out, hz1, Nat.mod_eq_of_lt (by omega)])
              rw [← HQ.out] at h7
              exact h7
            have hlt : Q < o2 := by rw [HQ.out]; exact Nat.div_lt_self (by omega) (by omega)
            clear hr0 hz1
            go_wp2_with fail
            refine wp_region_G (fun W => W.cell? ⟨bq, 0, none⟩ = some (.int .i64 (p : Int)) ∧ W.cell? ⟨bM, 0, none⟩ = some (.int .i64 (m : Int))) 14 (by kernel_rfl) ⟨c0, c2⟩ (fun hHeld => ?_)
            refine wpAnyG_take (i := 0) (v := ?v0x1) rfl (by kernel_rfl) (fun _ _ _ h => h) (Or.inl ⟨by rfl, ?y0x1⟩) hHeld ?r0x1
            case y0x1 => (intro wS hSw; obtain ⟨s1, s2⟩ := hSw; go_simp; try with_reducible rfl)
            try simp only [Act.put, List.setIfInBounds_toArray, List.set_cons_zero, List.set_cons_succ]
            refine wpAnyG_take (i := 1) (v := ?v1x2) rfl (by kernel_rfl) (fun _ _ _ h => h) (Or.inl ⟨by rfl, ?y1x2⟩) hHeld ?r1x2
            case y1x2 => (intro wS hSw; obtain ⟨s1, s2⟩ := hSw; go_simp; try with_reducible rfl)
            try simp only [Act.put, List.setIfInBounds_toArray, List.set_cons_zero, List.set_cons_succ]
            refine wpAnyG_take (i := 2) (v := ?v2x3) rfl (by kernel_rfl) (fun _ _ _ h => h) (Or.inl ⟨by rfl, ?y2x3⟩) hHeld ?r2x3
            case y2x3 => (intro wS hSw; obtain ⟨s1, s2⟩ := hSw; go_simp; try with_reducible rfl)
            try simp only [Act.put, List.setIfInBounds_toArray, List.set_cons_zero, List.set_cons_succ]
            refine wpAnyG_take (i := 3) (v := ?v3x4) rfl (by kernel_rfl) (fun _ _ _ h => h) (Or.inl ⟨by rfl, ?y3x4⟩) hHeld ?r3x4
            case y3x4 => (intro wS hSw; obtain ⟨s1, s2⟩ := hSw; go_simp; try with_reducible rfl)
            try simp only [Act.put, List.setIfInBounds_toArray, List.set_cons_zero, List.set_cons_succ]
            refine wpAnyG_take (i := 4) (v := ?v4x5) rfl (by kernel_rfl) (fun _ _ _ h => h) (Or.inl ⟨by rfl, ?y4x5⟩) hHeld ?r4x5
            case y4x5 => (intro wS hSw; obtain ⟨s1, s2⟩ := hSw; go_simp; try with_reducible rfl)
            try simp only [Act.put, List.setIfInBounds_toArray, List.set_cons_zero, List.set_cons_succ]
            refine wpAnyG_take (i := 5) (v := ?v5x6) rfl (by kernel_rfl) (fun _ _ _ h => h) (Or.inl ⟨by rfl, ?y5x6⟩) hHeld ?r5x6
            case y5x6 => (intro wS hSw; obtain ⟨s1, s2⟩ := hSw; go_simp; try with_reducible rfl)
            try simp only [Act.put, List.setIfInBounds_toArray, List.set_cons_zero, List.set_cons_succ]
            refine wpAnyG_take (i := 6) (v := ?v6x7) rfl (by kernel_rfl) (fun _ _ _ h => h) (Or.inl ⟨by kernel_rfl, ?y6x7⟩) hHeld ?r6x7
            case y6x7 => (intro wS hSw; have s1 := hSw; go_simp; try with_reducible rfl)
            try simp only [Act.put, List.setIfInBounds_toArray, List.set_cons_zero, List.set_cons_succ]
            refine wpAnyG_take (i := 7) (v := ?v7x8) rfl (by kernel_rfl) (fun _ _ _ h => h) (Or.inl ⟨by kernel_rfl, ?y7x8⟩) hHeld ?r7x8
            case y7x8 => (intro wS hSw; have s1 := hSw; go_simp; try with_reducible rfl)
            try simp only [Act.put, List.setIfInBounds_toArray, List.set_cons_zero, List.set_cons_succ]
            refine wpAnyG_take (i := 8) (v := ?v8x9) rfl (by kernel_rfl) (fun _ _ _ h => h) (Or.inl ⟨by kernel_rfl, ?y8x9⟩) hHeld ?r8x9
            case y8x9 => (intro wS hSw; have s1 := hSw; go_simp; try with_reducible rfl)
            try simp only [Act.put, List.setIfInBounds_toArray, List.set_cons_zero, List.set_cons_succ]
            refine wpAnyG_take (i := 9) (v := .int .i64 (p : Int)) rfl (by kernel_rfl) (fun _ _ _ h => h) (Or.inl ⟨by kernel_rfl, ?y9x10⟩) hHeld ?r9x10
            case y9x10 => (intro wS hSw; (obtain ⟨s1, s2⟩ := hSw; go_simp))
            try simp only [Act.put, List.setIfInBounds_toArray, List.set_cons_zero, List.set_cons_succ]
            refine wpAnyG_take (i := 10) (v := .int .i64 (Q : Int)) rfl (by kernel_rfl) (fun _ _ _ h => h) (Or.inl ⟨by kernel_rfl, ?y10x11⟩) hHeld ?r10x11
            case y10x11 => (intro wS hSw; (go_simp))
            try simp only [Act.put, List.setIfInBounds_toArray, List.set_cons_zero, List.set_cons_succ]
            refine wpAnyG_take (i := 11) (v := .int .i64 (m : Int)) rfl (by kernel_rfl) (fun _ _ _ h => h) (Or.inl ⟨by kernel_rfl, ?y11x12⟩) hHeld ?r11x12
            case y11x12 => (intro wS hSw; (obtain ⟨s1, s2⟩ := hSw; go_simp))
            try simp only [Act.put, List.setIfInBounds_toArray, List.set_cons_zero, List.set_cons_succ]
            refine wpAnyG_one (i := 12) rfl (by kernel_rfl) (fun K hK => ?_)
            rw [if_pos (by kernel_rfl)]
            go_simp
            refine (HPw.out _).mono ?_
            rintro e w2 ⟨rfl, q, hw2⟩
            subst hw2
            have hq : (wr.drew.drewN q).cell? ⟨bq, 0, none⟩ = some (.int .i64 (p : Int)) ∧ (wr.drew.drewN q).cell? ⟨bM, 0, none⟩ = some (.int .i64 (m : Int)) := ⟨c0, c2⟩
            refine hK.out _ _ hq ?_
            clear hK K
            try simp only [Act.put, List.setIfInBounds_toArray, List.set_cons_zero, List.set_cons_succ]
            clear hHeld
            have hHeld := hq
            refine wpAnyG_take (i := 13) (v := ?v13x13) rfl (by kernel_rfl) (fun _ _ _ h => h) (Or.inl ⟨by kernel_rfl, ?y13x13⟩) hHeld ?r13x13
            case y13x13 => (intro wS hSw; have s1 := hSw; go_simp; try with_reducible rfl)
            try simp only [Act.put, List.setIfInBounds_toArray, List.set_cons_zero, List.set_cons_succ]
            refine wpAnyG_last (i := 14) rfl (by kernel_rfl) (by kernel_rfl) (fun K hK => ?_)
            go_simp
            refine hK.out _ _ ?_
            clear hK K
            refine wpAnyG_done (by kernel_rfl) ?_ _
            clear hHeld hq
            have HS2 : Hid (∀ M, Cl bq [.int .i64 (p : Int), .int .i64 (t : Int)] 189 (wr.drewN M) ∧ Cl bM [.int .i64 (m : Int)] 3 (wr.drewN M) ∧ Below w.heap.size w (wr.drewN M)) := fun M => by
              have k : Below wr.heap.size wr (wr.drewN M) := below_drewN' (Below.refl _ _)
              exact ⟨HS.out.1.below k, HS.out.2.1.below k, HS.out.2.2.trans (k.mono HS.out.2.2.size)⟩
            go_wp2
            go_roundg Q
            case rel => exact ⟨Q, rfl, rfl, HL2.out, HS2.out _⟩
            case measure => have := HG2.out; omega
          · have t1 : ((z : Int) == 1) = false := by rw [beq_eq_false_iff_ne]; omega
            have HL2 : Hid (OR.Ld 10 m U T (i + 1) o2) := HL.out.next HP.out (fun hx => hz1 (by
              have := hx.2
              rw [← HQ.out, ← HZ.out, Nat.mod_eq_of_lt (by omega)] at this
              exact this))
            clear hr0 hz1
            go_wp2_with fail
            refine wp_region_G (fun W => W.cell? ⟨bq, 0, none⟩ = some (.int .i64 (p : Int)) ∧ W.cell? ⟨bM, 0, none⟩ = some (.int .i64 (m : Int))) 14 (by kernel_rfl) ⟨c0, c2⟩ (fun hHeld => ?_)
            refine wpAnyG_take (i := 0) (v := ?v0x14) rfl (by kernel_rfl) (fun _ _ _ h => h) (Or.inl ⟨by rfl, ?y0x14⟩) hHeld ?r0x14
            case y0x14 => (intro wS hSw; obtain ⟨s1, s2⟩ := hSw; go_simp; try with_reducible rfl)
            try simp only [Act.put, List.setIfInBounds_toArray, List.set_cons_zero, List.set_cons_succ]
            refine wpAnyG_take (i := 1) (v := ?v1x15) rfl (by kernel_rfl) (fun _ _ _ h => h) (Or.inl ⟨by rfl, ?y1x15⟩) hHeld ?r1x15
            case y1x15 => (intro wS hSw; obtain ⟨s1, s2⟩ := hSw; go_simp; try with_reducible rfl)
            try simp only [Act.put, List.setIfInBounds_toArray, List.set_cons_zero, List.set_cons_succ]
            refine wpAnyG_take (i := 2) (v := ?v2x16) rfl (by kernel_rfl) (fun _ _ _ h => h) (Or.inl ⟨by rfl, ?y2x16⟩) hHeld ?r2x16
            case y2x16 => (intro wS hSw; obtain ⟨s1, s2⟩ := hSw; go_simp; try with_reducible rfl)
            try simp only [Act.put, List.setIfInBounds_toArray, List.set_cons_zero, List.set_cons_succ]
            refine wpAnyG_take (i := 3) (v := ?v3x17) rfl (by kernel_rfl) (fun _ _ _ h => h) (Or.inl ⟨by rfl, ?y3x17⟩) hHeld ?r3x17
            case y3x17 => (intro wS hSw; obtain ⟨s1, s2⟩ := hSw; go_simp; try with_reducible rfl)
            try simp only [Act.put, List.setIfInBounds_toArray, List.set_cons_zero, List.set_cons_succ]
            refine wpAnyG_take (i := 4) (v := ?v4x18) rfl (by kernel_rfl) (fun _ _ _ h => h) (Or.inl ⟨by rfl, ?y4x18⟩) hHeld ?r4x18
            case y4x18 => (intro wS hSw; obtain ⟨s1, s2⟩ := hSw; go_simp; try with_reducible rfl)
            try simp only [Act.put, List.setIfInBounds_toArray, List.set_cons_zero, List.set_cons_succ]
            refine wpAnyG_take (i := 5) (v := ?v5x19) rfl (by kernel_rfl) (fun _ _ _ h => h) (Or.inl ⟨by rfl, ?y5x19⟩) hHeld ?r5x19
            case y5x19 => (intro wS hSw; obtain ⟨s1, s2⟩ := hSw; go_simp; try with_reducible rfl)
            try simp only [Act.put, List.setIfInBounds_toArray, List.set_cons_zero, List.set_cons_succ]
            refine wpAnyG_take (i := 6) (v := ?v6x20) rfl (by kernel_rfl) (fun _ _ _ h => h) (Or.inl ⟨by kernel_rfl, ?y6x20⟩) hHeld ?r6x20
            case y6x20 => (intro wS hSw; have s1 := hSw; go_simp; try with_reducible rfl)
            try simp only [Act.put, List.setIfInBounds_toArray, List.set_cons_zero, List.set_cons_succ]
            refine wpAnyG_take (i := 7) (v := ?v7x21) rfl (by kernel_rfl) (fun _ _ _ h => h) (Or.inl ⟨by kernel_rfl, ?y7x21⟩) hHeld ?r7x21
            case y7x21 => (intro wS hSw; have s1 := hSw; go_simp; try with_reducible rfl)
            try simp only [Act.put, List.setIfInBounds_toArray, List.set_cons_zero, List.set_cons_succ]
            refine wpAnyG_take (i := 8) (v := ?v8x22) rfl (by kernel_rfl) (fun _ _ _ h => h) (Or.inl ⟨by kernel_rfl, ?y8x22⟩) hHeld ?r8x22
            case y8x22 => (intro wS hSw; have s1 := hSw; go_simp; try with_reducible rfl)
            try simp only [Act.put, List.setIfInBounds_toArray, List.set_cons_zero, List.set_cons_succ]
            refine wpAnyG_take (i := 9) (v := .int .i64 (p : Int)) rfl (by kernel_rfl) (fun _ _ _ h => h) (Or.inl ⟨by kernel_rfl, ?y9x23⟩) hHeld ?r9x23
            case y9x23 => (intro wS hSw; (obtain ⟨s1, s2⟩ := hSw; go_simp))
            try simp only [Act.put, List.setIfInBounds_toArray, List.set_cons_zero, List.set_cons_succ]
            refine wpAnyG_take (i := 10) (v := .int .i64 (Q : Int)) rfl (by kernel_rfl) (fun _ _ _ h => h) (Or.inl ⟨by kernel_rfl, ?y10x24⟩) hHeld ?r10x24
            case y10x24 => (intro wS hSw; (go_simp))
            try simp only [Act.put, List.setIfInBounds_toArray, List.set_cons_zero, List.set_cons_succ]
            refine wpAnyG_take (i := 11) (v := .int .i64 (m : Int)) rfl (by kernel_rfl) (fun _ _ _ h => h) (Or.inl ⟨by kernel_rfl, ?y11x25⟩) hHeld ?r11x25
            case y11x25 => (intro wS hSw; (obtain ⟨s1, s2⟩ := hSw; go_simp))
            try simp only [Act.put, List.setIfInBounds_toArray, List.set_cons_zero, List.set_cons_succ]
            refine wpAnyG_one (i := 12) rfl (by kernel_rfl) (fun K hK => ?_)
            rw [if_pos (by kernel_rfl)]
            go_simp
            refine (HPw.out _).mono ?_
            rintro e w2 ⟨rfl, q, hw2⟩
            subst hw2
            have hq : (wr.drew.drewN q).cell? ⟨bq, 0, none⟩ = some (.int .i64 (p : Int)) ∧ (wr.drew.drewN q).cell? ⟨bM, 0, none⟩ = some (.int .i64 (m : Int)) := ⟨c0, c2⟩
            refine hK.out _ _ hq ?_
            clear hK K
            try simp only [Act.put, List.setIfInBounds_toArray, List.set_cons_zero, List.set_cons_succ]
            clear hHeld
            have hHeld := hq
            refine wpAnyG_take (i := 13) (v := ?v13x26) rfl (by kernel_rfl) (fun _ _ _ h => h) (Or.inl ⟨by kernel_rfl, ?y13x26⟩) hHeld ?r13x26
            case y13x26 => (intro wS hSw; have s1 := hSw; go_simp; try with_reducible rfl)
            try simp only [Act.put, List.setIfInBounds_toArray, List.set_cons_zero, List.set_cons_succ]
            refine wpAnyG_last (i := 14) rfl (by kernel_rfl) (by kernel_rfl) (fun K hK => ?_)
            go_simp
            refine hK.out _ _ ?_
            clear hK K
            refine wpAnyG_done (by kernel_rfl) ?_ _
            clear hHeld hq
            have HS2 : Hid (∀ M, Cl bq [.int .i64 (p : Int), .int .i64 (t : Int)] 189 (wr.drewN M) ∧ Cl bM [.int .i64 (m : Int)] 3 (wr.drewN M) ∧ Below w.heap.size w (wr.drewN M)) := fun M => by
              have k : Below wr.heap.size wr (wr.drewN M) := below_drewN' (Below.refl _ _)
              exact ⟨HS.out.1.below k, HS.out.2.1.below k, HS.out.2.2.trans (k.mono HS.out.2.2.size)⟩
            clear c0 c2
            go_wp2
            go_roundg (n - (i + 1))
            case rel => exact ⟨i + 1, o2, rfl, by go_num, rfl, by omega, HL2.out, (HS2.out _).2.2⟩
            case measure => have := HG.out; omega
        · have t0 : ((r : Int) == 0) = false := by rw [beq_eq_false_iff_ne]; omega
          have HL2 : Hid (OR.Ld 10 m U T (i + 1) o2) := HL.out.next HP.out (fun hx => hr0 (by
            rw [HRr.out]; exact Nat.mod_eq_zero_of_dvd hx.1))
          clear hr0
          go_wp2_with fail
          refine wp_region_G (fun W => W.cell? ⟨bq, 0, none⟩ = some (.int .i64 (p : Int)) ∧ W.cell? ⟨bM, 0, none⟩ = some (.int .i64 (m : Int))) 14 (by kernel_rfl) ⟨c0, c2⟩ (fun hHeld => ?_)
          refine wpAnyG_take (i := 0) (v := ?v0x27) rfl (by kernel_rfl) (fun _ _ _ h => h) (Or.inl ⟨by rfl, ?y0x27⟩) hHeld ?r0x27
          case y0x27 => (intro wS hSw; obtain ⟨s1, s2⟩ := hSw; go_simp; try with_reducible rfl)
          try simp only [Act.put, List.setIfInBounds_toArray, List.set_cons_zero, List.set_cons_succ]
          refine wpAnyG_take (i := 1) (v := ?v1x28) rfl (by kernel_rfl) (fun _ _ _ h => h) (Or.inl ⟨by rfl, ?y1x28⟩) hHeld ?r1x28
          case y1x28 => (intro wS hSw; obtain ⟨s1, s2⟩ := hSw; go_simp; try with_reducible rfl)
          try simp only [Act.put, List.setIfInBounds_toArray, List.set_cons_zero, List.set_cons_succ]
          refine wpAnyG_take (i := 2) (v := ?v2x29) rfl (by kernel_rfl) (fun _ _ _ h => h) (Or.inl ⟨by rfl, ?y2x29⟩) hHeld ?r2x29
          case y2x29 => (intro wS hSw; obtain ⟨s1, s2⟩ := hSw; go_simp; try with_reducible rfl)
          try simp only [Act.put, List.setIfInBounds_toArray, List.set_cons_zero, List.set_cons_succ]
          refine wpAnyG_take (i := 3) (v := ?v3x30) rfl (by kernel_rfl) (fun _ _ _ h => h) (Or.inl ⟨by rfl, ?y3x30⟩) hHeld ?r3x30
          case y3x30 => (intro wS hSw; obtain ⟨s1, s2⟩ := hSw; go_simp; try with_reducible rfl)
          try simp only [Act.put, List.setIfInBounds_toArray, List.set_cons_zero, List.set_cons_succ]
          refine wpAnyG_take (i := 4) (v := ?v4x31) rfl (by kernel_rfl) (fun _ _ _ h => h) (Or.inl ⟨by rfl, ?y4x31⟩) hHeld ?r4x31
          case y4x31 => (intro wS hSw; obtain ⟨s1, s2⟩ := hSw; go_simp; try with_reducible rfl)
          try simp only [Act.put, List.setIfInBounds_toArray, List.set_cons_zero, List.set_cons_succ]
          refine wpAnyG_take (i := 5) (v := ?v5x32) rfl (by kernel_rfl) (fun _ _ _ h => h) (Or.inl ⟨by rfl, ?y5x32⟩) hHeld ?r5x32
          case y5x32 => (intro wS hSw; obtain ⟨s1, s2⟩ := hSw; go_simp; try with_reducible rfl)
          try simp only [Act.put, List.setIfInBounds_toArray, List.set_cons_zero, List.set_cons_succ]
          refine wpAnyG_take (i := 6) (v := undef) rfl (by kernel_rfl) (fun _ _ _ h => h) (Or.inr ⟨by kernel_rfl, rfl⟩) hHeld ?_
          try simp only [Act.put, List.setIfInBounds_toArray, List.set_cons_zero, List.set_cons_succ]
          refine wpAnyG_take (i := 7) (v := undef) rfl (by kernel_rfl) (fun _ _ _ h => h) (Or.inr ⟨by kernel_rfl, rfl⟩) hHeld ?_
          try simp only [Act.put, List.setIfInBounds_toArray, List.set_cons_zero, List.set_cons_succ]
          refine wpAnyG_take (i := 8) (v := undef) rfl (by kernel_rfl) (fun _ _ _ h => h) (Or.inr ⟨by kernel_rfl, rfl⟩) hHeld ?_
          try simp only [Act.put, List.setIfInBounds_toArray, List.set_cons_zero, List.set_cons_succ]
          refine wpAnyG_take (i := 9) (v := undef) rfl (by kernel_rfl) (fun _ _ _ h => h) (Or.inr ⟨by kernel_rfl, rfl⟩) hHeld ?_
          try simp only [Act.put, List.setIfInBounds_toArray, List.set_cons_zero, List.set_cons_succ]
          refine wpAnyG_take (i := 10) (v := undef) rfl (by kernel_rfl) (fun _ _ _ h => h) (Or.inr ⟨by kernel_rfl, rfl⟩) hHeld ?_
          try simp only [Act.put, List.setIfInBounds_toArray, List.set_cons_zero, List.set_cons_succ]
          refine wpAnyG_take (i := 11) (v := undef) rfl (by kernel_rfl) (fun _ _ _ h => h) (Or.inr ⟨by kernel_rfl, rfl⟩) hHeld ?_
          try simp only [Act.put, List.setIfInBounds_toArray, List.set_cons_zero, List.set_cons_succ]
          refine wpAnyG_take (i := 12) (v := undef) rfl (by kernel_rfl) (fun _ _ _ h => h) (Or.inr ⟨by kernel_rfl, rfl⟩) hHeld ?_
          try simp only [Act.put, List.setIfInBounds_toArray, List.set_cons_zero, List.set_cons_succ]
          refine wpAnyG_take (i := 13) (v := undef) rfl (by kernel_rfl) (fun _ _ _ h => h) (Or.inr ⟨by kernel_rfl, rfl⟩) hHeld ?_
          try simp only [Act.put, List.setIfInBounds_toArray, List.set_cons_zero, List.set_cons_succ]
          refine wpAnyG_last (i := 14) rfl (by kernel_rfl) (by kernel_rfl) (fun K hK => ?_)
          go_simp
          refine hK.out _ _ ?_
          clear hK K
          refine wpAnyG_done (by kernel_rfl) ?_ _
          clear hHeld c0 c2
          have HS2 : Hid (Below w.heap.size w wr.drew) := HS.out.2.2.drew
          go_wp2
          go_roundg (n - (i + 1))
          case rel => exact ⟨i + 1, o2, rfl, by go_num, rfl, by omega, HL2.out, HS2.out⟩
          case measure => have := HG.out; omega
    · have ti : decide ((i : Int) < (n : Int)) = false := decide_eq_false (by omega)
      obtain rfl : i = n := by omega
      have HE : Hid (1 ≤ o ∧ o ≤ U ∧ 10 ^ o % m = 1 % m ∧ ∀ k, 1 ≤ k → 10 ^ k % m = 1 % m → o ≤ k) := by
        have h7 := HL.out
        rw [HT.out.2.1] at h7
        obtain ⟨h8, h9, h10⟩ := h7.last HT.out.2.2.2
        exact ⟨h8, Nat.le_of_dvd (by have := HU.out; omega) h7.dv, h9, h10⟩
      go_wp2
      go_ret
      exact ⟨o, rfl, HE.out, HB.out⟩
end Go.Proofs.YtcnfhndejkngkaaGreatDoor
