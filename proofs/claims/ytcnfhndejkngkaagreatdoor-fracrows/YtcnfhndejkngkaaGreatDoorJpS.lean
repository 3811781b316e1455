import Derived.Test.YtcnfhndejkngkaaGreatDoorJpR
import Derived.Test.YtcnfhndejkngkaaGreatDoorJpQ
import Derived.Test.YtcnfhndejkngkaaGreatDoorJpJ
section
set_option linter.unusedVariables false
set_option maxRecDepth 100000
namespace Go.Proofs.YtcnfhndejkngkaaGreatDoor
theorem blt_lt {a b : Nat} (h : Nat.blt a b = true) : a < b := Nat.le_of_ble_eq_true h
def pm (a n : Nat) : Nat → Nat → Nat
  | 0, _ => 1 % n
  | f + 1, e => cond (Nat.beq (e % 2) 1) (pm a n f (e / 2) * pm a n f (e / 2) % n * a % n) (pm a n f (e / 2) * pm a n f (e / 2) % n)
theorem pm_is (a n : Nat) : ∀ f e, e < 2 ^ f → pm a n f e = a ^ e % n := by
  intro f
  induction f with
  | zero => intro e h; have : e = 0 := by simpa using h
            subst this; simp [pm]
  | succ f ih =>
    intro e h
    have he : e / 2 < 2 ^ f := by rw [Nat.pow_succ] at h; omega
    rw [pm, ih _ he]
    have e1 : a ^ (e / 2) % n * (a ^ (e / 2) % n) % n = a ^ (e / 2 + e / 2) % n := by rw [← Nat.mul_mod, ← Nat.pow_add]
    rcases Nat.mod_two_eq_zero_or_one e with h2 | h2
    · rw [show Nat.beq (e % 2) 1 = false by rw [h2]; rfl, cond_false, e1]
      congr 2; omega
    · rw [show Nat.beq (e % 2) 1 = true by rw [h2]; rfl, cond_true, e1, Nat.mul_mod, Nat.mod_mod, ← Nat.mul_mod, ← Nat.pow_succ]
      congr 2; omega
def Wit (a n t d : Nat) : Prop := a ^ d % n ≠ 1 ∧ ∀ i, i < t → a ^ (d * 2 ^ i) % n ≠ n - 1
def witT (a n t : Nat) : Bool := Nat.beq ((n - 1) % 2 ^ t) 0 && Nat.beq ((n - 1) / 2 ^ t % 2) 1 && !(Nat.beq (pm a n 20 ((n - 1) / 2 ^ t)) 1) && (List.range t).all (fun i => !(Nat.beq (pm a n 20 ((n - 1) / 2 ^ t * 2 ^ i)) (n - 1)))
def witB (a n : Nat) : Bool := (List.range 20).any (fun t => witT a n t)
theorem split_two : ∀ {t t' d d' : Nat}, 2 ^ t * d = 2 ^ t' * d' → d % 2 = 1 → d' % 2 = 1 → t = t' ∧ d = d' := by
  intro t
  induction t with
  | zero =>
    intro t' d d' h h1 h2
    cases t' with
    | zero => exact ⟨rfl, by simpa using h⟩
    | succ t' => rw [Nat.pow_succ, Nat.mul_comm (2 ^ t') 2, Nat.mul_assoc] at h; omega
  | succ t ih =>
    intro t' d d' h h1 h2
    cases t' with
    | zero => rw [Nat.pow_succ, Nat.mul_comm (2 ^ t) 2, Nat.mul_assoc] at h; omega
    | succ t' =>
      rw [Nat.pow_succ, Nat.pow_succ, Nat.mul_comm (2 ^ t) 2, Nat.mul_comm (2 ^ t') 2, Nat.mul_assoc, Nat.mul_assoc] at h
      obtain ⟨rfl, e⟩ := ih (t' := t') (d := d) (d' := d') (by omega) h1 h2
      exact ⟨rfl, e⟩
theorem witT_is {a n s t d : Nat} (hn : 1 ≤ n) (hn' : n ≤ 1000000) (hd : n - 1 = 2 ^ t * d) (ho : d % 2 = 1) (h : witT a n s = true) : Wit a n t d := by
  simp only [witT, Bool.and_eq_true, Bool.not_eq_true', List.all_eq_true, List.mem_range] at h
  obtain ⟨⟨⟨h1, h2⟩, h3⟩, h4⟩ := h
  have h1 := Nat.eq_of_beq_eq_true h1
  have h2 := Nat.eq_of_beq_eq_true h2
  obtain ⟨D, hD⟩ : ∃ D, D = (n - 1) / 2 ^ s := ⟨_, rfl⟩
  rw [← hD] at h2 h3 h4
  have he : n - 1 = 2 ^ s * D := by rw [hD]; have := Nat.div_add_mod (n - 1) (2 ^ s); omega
  obtain ⟨rfl, rfl⟩ := split_two (hd.symm.trans he) ho h2
  have hb : ∀ i, i ≤ t → d * 2 ^ i < 2 ^ 20 := by
    intro i hi
    have h5 : 2 ^ i ≤ 2 ^ t := Nat.pow_le_pow_right (by decide) hi
    have h6 : d * 2 ^ i ≤ d * 2 ^ t := Nat.mul_le_mul_left d h5
    rw [Nat.mul_comm d (2 ^ t), ← he] at h6
    have : (2 : Nat) ^ 20 = 1048576 := by decide
    omega
  refine ⟨?_, ?_⟩
  · have := hb 0 (by omega)
    rw [Nat.pow_zero, Nat.mul_one] at this
    rw [pm_is a n 20 d this] at h3
    exact fun e => by rw [e] at h3; cases h3
  · intro i hi
    have := h4 i hi
    rw [pm_is a n 20 _ (hb i (by omega))] at this
    exact fun e => by rw [e] at this; simp at this
theorem witB_is {a n t d : Nat} (hn : 1 ≤ n) (hn' : n ≤ 1000000) (hd : n - 1 = 2 ^ t * d) (ho : d % 2 = 1) (h : witB a n = true) : Wit a n t d := by
  simp only [witB, List.any_eq_true] at h
  obtain ⟨s, _, h⟩ := h
  exact witT_is hn hn' hd ho h
def pl : List (Nat × Nat) := [(29, 28), (31, 5), (37, 36), (41, 20), (43, 14), (47, 23), (53, 52), (59, 58), (61, 60), (67, 66), (71, 35), (73, 9), (79, 39), (83, 82), (89, 11), (97, 48), (101, 100), (103, 51), (107, 106), (109, 36), (113, 28), (127, 7), (131, 130), (137, 68), (139, 138), (149, 148), (151, 15), (157, 52), (163, 162), (167, 83), (173, 172), (179, 178), (181, 180), (191, 95), (193, 96), (197, 196), (199, 99), (211, 210), (223, 37), (227, 226), (229, 76), (233, 29), (239, 119), (241, 24), (251, 50), (257, 16), (263, 131), (269, 268), (271, 135), (277, 92), (281, 70), (283, 94), (293, 292), (307, 102), (311, 155), (313, 156), (317, 316), (331, 30), (337, 21), (347, 346), (349, 348), (353, 88), (359, 179), (367, 183), (373, 372), (379, 378), (383, 191), (389, 388), (397, 44), (401, 200), (409, 204), (419, 418), (421, 420), (431, 43), (433, 72), (439, 73), (443, 442), (449, 224), (457, 76), (461, 460), (463, 231), (467, 466), (479, 239), (487, 243), (491, 490), (499, 166), (503, 251), (509, 508), (521, 260), (523, 522), (541, 540), (547, 546), (557, 556), (563, 562), (569, 284), (571, 114), (577, 144), (587, 586), (593, 148), (599, 299), (601, 25), (607, 303), (613, 612), (617, 154), (619, 618), (631, 45), (641, 64), (643, 214), (647, 323), (653, 652), (659, 658), (661, 660), (673, 48), (677, 676), (683, 22), (691, 230), (701, 700), (709, 708), (719, 359), (727, 121), (733, 244), (739, 246), (743, 371), (751, 375), (757, 756), (761, 380), (769, 384), (773, 772), (787, 786), (797, 796), (809, 404), (811, 270), (821, 820), (823, 411), (827, 826), (829, 828), (839, 419), (853, 852), (857, 428), (859, 858), (863, 431), (877, 876), (881, 55), (883, 882), (887, 443), (907, 906), (911, 91), (919, 153), (929, 464), (937, 117), (941, 940), (947, 946), (953, 68), (967, 483), (971, 194), (977, 488), (983, 491), (991, 495), (997, 332)]
def ordOk (x : Nat × Nat) : Bool := Nat.beq (2 ^ x.2 % x.1) 1 && Nat.beq ((x.1 - 1) % x.2) 0 && Nat.blt 0 x.2 && Nat.blt 1 x.1 && (List.range x.2).all (fun e => Nat.beq e 0 || !(Nat.beq (2 ^ e % x.1) 1))
theorem pl_ord : pl.all ordOk = true := by decide +kernel
def hasDiv (d : Nat) : Bool := (List.range 32).any (fun e => Nat.blt 1 e && Nat.blt e d && Nat.beq (d % e) 0)
def np : List Nat := [2, 3, 5, 7, 11, 13, 17, 19, 23]
theorem pl_all : (List.range 1001).all (fun d => Nat.blt d 2 || hasDiv d || np.contains d || (pl.map Prod.fst).contains d) = true := by decide +kernel
def ck (n : Nat) : Bool := Nat.blt 1000000 n || !(Nat.beq (Nat.gcd n 223092870) 1) || witB 2 n || witB 3 n
def ckR (x : Nat × Nat) : Nat → Nat → Bool
  | 0, s => Nat.blt (1 + x.2 * s) x.1 || ck (x.1 * (1 + x.2 * s))
  | k + 1, s => Nat.blt 1000000 (x.1 * (1 + x.2 * s)) || (ckR x k s && ckR x k (s + 2 ^ k))
theorem pl_ck : pl.all (fun x => ckR x 13 0) = true := by decide +kernel
theorem ckR_is {x : Nat × Nat} : ∀ k s, ckR x k s = true → ∀ r, s ≤ r → r < s + 2 ^ k → x.1 * (1 + x.2 * r) ≤ 1000000 → x.1 ≤ 1 + x.2 * r → ck (x.1 * (1 + x.2 * r)) = true := by
  intro k
  induction k with
  | zero =>
    intro s h r h1 h2 h3 h4
    obtain rfl : r = s := by simp at h2; omega
    simp only [ckR, Bool.or_eq_true] at h
    rcases h with h | h
    · have : 1 + x.2 * r < x.1 := blt_lt h
      omega
    · exact h
  | succ k ih =>
    intro s h r h1 h2 h3 h4
    simp only [ckR, Bool.or_eq_true, Bool.and_eq_true] at h
    rcases h with h | ⟨ha, hb⟩
    · have h5 : 1000000 < x.1 * (1 + x.2 * s) := blt_lt h
      have h6 : x.1 * (1 + x.2 * s) ≤ x.1 * (1 + x.2 * r) := Nat.mul_le_mul_left _ (Nat.add_le_add_left (Nat.mul_le_mul_left _ h1) _)
      omega
    · rw [Nat.pow_succ] at h2
      rcases Nat.lt_or_ge r (s + 2 ^ k) with h5 | h5
      · exact ih s ha r h1 h5 h3 h4
      · exact ih _ hb r h5 (by omega) h3 h4
theorem falls {n t e : Nat} (hn : 2 ≤ n) (hn' : n ≤ 1000000) (hd : n - 1 = 2 ^ t * e) (ho : e % 2 = 1) (hp : ¬ Pr n) (hs : ∀ x ∈ np, ¬ x ∣ n) : Wit 2 n t e ∨ Wit 3 n t e := by
  -- the least divisor
  have hex : ∃ d, 2 ≤ d ∧ d ∣ n := ⟨n, hn, Nat.dvd_refl n⟩
  obtain ⟨d, hd2, hdn, hmin⟩ : ∃ d, 2 ≤ d ∧ d ∣ n ∧ ∀ e, 2 ≤ e → e ∣ n → d ≤ e := by
    have : ∀ N, (∃ d, 2 ≤ d ∧ d ∣ n ∧ d ≤ N) → ∃ d, 2 ≤ d ∧ d ∣ n ∧ ∀ e, 2 ≤ e → e ∣ n → d ≤ e := by
      intro N
      induction N with
      | zero => rintro ⟨d, h, _, h'⟩; omega
      | succ N ih =>
        rintro ⟨d, h, h', h''⟩
        by_cases hx : ∃ d, 2 ≤ d ∧ d ∣ n ∧ d ≤ N
        · exact ih hx
        · refine ⟨d, h, h', fun e h1 h2 => ?_⟩
          rcases Nat.lt_or_ge e d with h3 | h3
          · exact absurd ⟨e, h1, h2, by omega⟩ hx
          · exact h3
    exact this n ⟨n, hn, Nat.dvd_refl n, Nat.le_refl n⟩
  obtain ⟨m, rfl⟩ := hdn
  have hm0 : m ≠ 0 := by rintro rfl; simp at hn
  have hm1 : m ≠ 1 := by
    rintro rfl
    rw [Nat.mul_one] at *
    refine hp ⟨hd2, fun c hc => ?_⟩
    have h1 := Nat.le_of_dvd (by omega) hc
    have h0 : c ≠ 0 := by rintro rfl; have := Nat.eq_zero_of_zero_dvd hc; omega
    by_cases hc1 : c = 1
    · exact .inl hc1
    · have := hmin c (by omega) hc; omega
  have hdm : d ≤ m := hmin m (by omega) ⟨d, Nat.mul_comm ..⟩
  have hd1000 : d ≤ 1000 := by
    rcases Nat.lt_or_ge 1000 d with h | h
    · have h1 : 1001 * 1001 ≤ d * m := Nat.mul_le_mul (by omega) (by omega)
      omega
    · exact h
  have hall := List.all_eq_true.1 pl_all d (List.mem_range.2 (by omega))
  simp only [Bool.or_eq_true] at hall
  rcases hall with ((h | h) | h) | h
  · have : d < 2 := blt_lt h
    omega
  · simp only [hasDiv, List.any_eq_true, Bool.and_eq_true] at h
    obtain ⟨c, _, ⟨h1, h2⟩, h3⟩ := h
    have h1 : 1 < c := blt_lt h1
    have h2 : c < d := blt_lt h2
    have h3 := Nat.eq_of_beq_eq_true h3
    have := hmin c (by omega) (Nat.dvd_trans (Nat.dvd_of_mod_eq_zero h3) (Nat.dvd_mul_right ..))
    omega
  · exact absurd (Nat.dvd_mul_right d m) (hs d (List.contains_iff_mem.1 h))
  · obtain ⟨x, hx, rfl⟩ := List.mem_map.1 (List.contains_iff_mem.1 h)
    have hox := List.all_eq_true.1 pl_ord x hx
    have hcx := List.all_eq_true.1 pl_ck x hx
    obtain ⟨d, o⟩ := x
    simp only [ordOk, Bool.and_eq_true, List.all_eq_true, List.mem_range, Bool.or_eq_true, Bool.not_eq_true'] at hox
    obtain ⟨⟨⟨⟨h1, h2⟩, h3⟩, h4⟩, h5⟩ := hox
    have h1 := Nat.eq_of_beq_eq_true h1
    have h2 := Nat.eq_of_beq_eq_true h2
    have h3 : 0 < o := blt_lt h3
    have hd1 : 1 < d := hd2
    simp only at *
    by_cases hf : 2 ^ (d * m - 1) % (d * m) = 1
    · have hf' : 2 ^ (d * m - 1) % d = 1 := by
        have : 2 ^ (d * m - 1) % (d * m) % d = 2 ^ (d * m - 1) % d := Nat.mod_mul_right_mod ..
        rw [hf, Nat.mod_eq_of_lt hd1] at this
        exact this.symm
      obtain ⟨u, hu⟩ := order_dvd hd1 h3 h1 (fun e he1 he2 he3 => by
        rcases h5 e he2 with h | h
        · have := Nat.eq_of_beq_eq_true h; omega
        · rw [he3] at h; simp at h) hf'
      obtain ⟨v, hv⟩ := Nat.dvd_of_mod_eq_zero h2
      have hm : m = 1 + o * (u - v * m) := by
        have e1 : d = o * v + 1 := by omega
        have e2 : d * m = o * (v * m) + m := by rw [e1, Nat.add_mul, Nat.one_mul, Nat.mul_assoc]
        have e3 : o * (u - v * m) = o * u - o * (v * m) := Nat.mul_sub ..
        omega
      have hr : u - v * m < 8192 := by
        rcases Nat.lt_or_ge (u - v * m) 8192 with h | h
        · exact h
        · exfalso
          have h6 : o * 8192 ≤ o * (u - v * m) := Nat.mul_le_mul_left _ h
          have h7 : d ≠ 31 → o * d < 0 → False := by intros; omega
          have hbig : pl.all (fun x => Nat.blt 1000000 (x.1 * (x.2 * 8192))) = true := by decide +kernel
          have h8 := List.all_eq_true.1 hbig (d, o) hx
          have h8 : 1000000 < d * (o * 8192) := blt_lt h8
          have h9 : d * (o * 8192) ≤ d * m := Nat.mul_le_mul_left _ (by omega)
          omega
      have hck := ckR_is 13 0 hcx (u - v * m) (Nat.zero_le _) (by simpa using hr) (by rw [← hm]; exact hn') (by rw [← hm]; exact hdm)
      simp only at hck
      rw [← hm] at hck
      simp only [ck, Bool.or_eq_true] at hck
      rcases hck with ((h | h) | h) | h
      · have : 1000000 < d * m := blt_lt h
        omega
      · exfalso
        have hg : Nat.gcd (d * m) 223092870 ≠ 1 := by
          intro e; rw [e] at h; simp at h
        have hgpos : Nat.gcd (d * m) 223092870 ≠ 0 := by
          intro e; have := Nat.eq_zero_of_gcd_eq_zero_right e; omega
        obtain ⟨q, hq, hqd⟩ := pr_divisor (Nat.gcd (d * m) 223092870) (by omega)
        have hq1 := Nat.dvd_trans hqd (Nat.gcd_dvd_left ..)
        have hq2 : q ∣ 223092870 := Nat.dvd_trans hqd (Nat.gcd_dvd_right ..)
        have hprod : (223092870 : Nat) = 2 * (3 * (5 * (7 * (11 * (13 * (17 * (19 * 23))))))) := by decide
        rw [hprod] at hq2
        have hin : ∀ x ∈ np, q ∣ x → False := by
          intro x hx hqx
          have : Pr x := by
            have : ∀ x ∈ np, 2 ≤ x ∧ ∀ c, c < x + 1 → c ∣ x → c = 1 ∨ c = x := by decide
            exact ⟨(this x hx).1, fun c hc => (this x hx).2 c (by have := Nat.le_of_dvd (by have := (this x hx).1; omega) hc; omega) hc⟩
          rcases this.2 q hqx with h | h
          · have := hq.1; omega
          · exact hs x hx (h ▸ hq1)
        rcases pr_mul hq hq2 with h | hq2
        · exact hin 2 (by decide) h
        rcases pr_mul hq hq2 with h | hq2
        · exact hin 3 (by decide) h
        rcases pr_mul hq hq2 with h | hq2
        · exact hin 5 (by decide) h
        rcases pr_mul hq hq2 with h | hq2
        · exact hin 7 (by decide) h
        rcases pr_mul hq hq2 with h | hq2
        · exact hin 11 (by decide) h
        rcases pr_mul hq hq2 with h | hq2
        · exact hin 13 (by decide) h
        rcases pr_mul hq hq2 with h | hq2
        · exact hin 17 (by decide) h
        rcases pr_mul hq hq2 with h | h
        · exact hin 19 (by decide) h
        · exact hin 23 (by decide) h
      · exact .inl (witB_is (by omega) hn' hd ho h)
      · exact .inr (witB_is (by omega) hn' hd ho h)
    · -- it falls by Fermat already
      refine .inl ⟨fun h => hf ?_, fun i hi h => hf ?_⟩
      · rw [hd, Nat.mul_comm]; exact pow_mod_one (by omega) h _
      · have hsq : 2 ^ (e * 2 ^ (i + 1)) % (d * m) = 1 := by
          have hlt : 2 < d * m := by
            have := Nat.mul_le_mul hd2 (show 2 ≤ m by omega); omega
          rw [Nat.pow_succ, ← Nat.mul_assoc, Nat.pow_mul, Nat.pow_mod, h]
          obtain ⟨z, hz⟩ : ∃ z, d * m = z + 2 := ⟨d * m - 2, by omega⟩
          rw [hz, show z + 2 - 1 = z + 1 by omega, show (z + 1) ^ 2 = z * (z + 2) + 1 by grind, Nat.mul_comm, Nat.mul_add_mod, Nat.mod_eq_of_lt (by omega)]
        have e3 : e * 2 ^ t = e * 2 ^ (i + 1) * 2 ^ (t - (i + 1)) := by rw [Nat.mul_assoc, ← Nat.pow_add]; congr 2; omega
        rw [hd, Nat.mul_comm, e3]
        exact pow_mod_one (by omega) hsq _
end Go.Proofs.YtcnfhndejkngkaaGreatDoor
end

section
set_option linter.unusedSimpArgs false
set_option linter.unusedVariables false
set_option maxRecDepth 100000
namespace Go.Proofs.YtcnfhndejkngkaaGreatDoor
open Go.RowKit
attribute [local go_sem] Oper.semAt_some
def WitIs (a n : Nat) (b : Bool) : Prop := ∀ t d, n - 1 = 2 ^ t * d → d % 2 = 1 → (b = true ↔ Wit a n t d)
set_option maxHeartbeats 1000000 in
theorem isWitness_any (a n : Nat) (w : World) (ha : a ≤ 1000) (hn : 3 ≤ n) (hn2 : n ≤ 1000000000000000000) (hT : Tb w) :
    Calls Tryz.prog 195 #[.int .i64 a, .int .i64 n] w fun e w' => ∃ b, e = .returned (.bool b) ∧ WitIs a n b ∧ ∃ q, w' = w.drewN q := by
  obtain ⟨t, d, hd, hd2, ht, htz⟩ := tz_any (n - 1) (by omega) (by omega)
  have HTz : Hid (∀ w, Tb w → Calls Tryz.prog 175 #[.int .u64 ((n - 1 : Nat) : Int)] w fun e w' => e = .returned (.int .i64 t) ∧ w' = w) := htz
  have HD : Hid (n - 1 = 2 ^ t * d ∧ d % 2 = 1) := ⟨hd, hd2⟩
  have hn1 : (n : Int) - 1 = ((n - 1 : Nat) : Int) := by omega
  obtain ⟨N, hN⟩ : ∃ N, N = n - 1 := ⟨_, rfl⟩
  have hdn : d ≤ n - 1 := by rw [hd]; exact Nat.le_mul_of_pos_left d (Nat.pow_pos (by decide))
  have hsh : (N : Int) / 2 ^ t = (d : Int) := by
    have e : (N : Int) / 2 ^ t = ((N / 2 ^ t : Nat) : Int) := by simp
    rw [e, hN, hd, Nat.mul_div_cancel_left _ (Nat.pow_pos (by decide))]
  rw [← hN] at hn1 hdn HTz
  have hNn : N + 1 = n := by omega
  have hT' : Hid (Tb w) := hT
  have HOUT : Hid (∀ b, (b = true ↔ Wit a n t d) → WitIs a n b) := by
    intro b hb t' d' h1 h2
    obtain ⟨rfl, rfl⟩ := split_two (hd.symm.trans h1) hd2 h2
    exact hb
  have hu : IntKind.u64.wrap (N : Int) = (N : Int) := wrapN N (by omega)
  clear htz hd hd2 hN hT
  obtain ⟨A, gA⟩ : ∃ A : Nat, A = ((a : Int) % (n : Int)).toNat := ⟨_, rfl⟩
  have HA : Hid (∀ k, A ^ k % n = a ^ k % n) := by
    intro k
    rw [gA, ← Int.natCast_emod, Int.toNat_natCast, ← Nat.pow_mod]
  obtain ⟨x0, gx0⟩ : ∃ x : Nat, x = a ^ d % n := ⟨_, rfl⟩
  have hx0 : x0 < n := by rw [gx0]; exact Nat.mod_lt _ (by omega)
  have HX0 : Hid (x0 = a ^ d % n) := gx0
  have HP : Hid (∀ w, Calls Tryz.prog 158 #[.int .i64 a, .int .i64 d, .int .i64 n] w fun e w' => e = .returned (.int .i64 (x0 : Int)) ∧ ∃ q, w' = w.drewN q) := by
    intro w
    have h := modPower_any (a : Int) d n w (by omega) (by omega) hn2 (by omega)
    rw [← gA, HA.out, ← gx0] at h
    exact h
  clear gA gx0
  go_enter Tryz.func195, Tryz.ntmps195
  go_wp2_with fail
  refine (HTz.out _ hT'.out).mono ?_
  rintro e w1 ⟨rfl, rfl⟩
  go_wp2_with fail
  refine (HP.out _).mono ?_
  rintro e w2 ⟨rfl, q2, rfl⟩
  by_cases h1 : x0 = 1
  · have hb : ((x0 : Int) == 1) = true := by rw [h1]; rfl
    have HF : Hid (WitIs a n false) := HOUT.out false (by
      constructor
      · intro h; cases h
      · intro h; exact absurd (by rw [← HX0.out]; exact h1) h.1)
    go_wp2
    go_ret
    exact ⟨false, rfl, HF.out, q2, rfl⟩
  · have hb : ((x0 : Int) == 1) = false := beq_eq_false_iff_ne.2 (by omega)
    have H1 : Hid (x0 ≠ 1) := h1
    clear h1
    go_wp2
    go_loopw [6, 21] (fun xv iv wx => ∃ i x : Nat, i ≤ t ∧ iv = .int .i64 i ∧ xv = .int .i64 x ∧ x < n ∧ Hid (x = a ^ (d * 2 ^ i) % n ∧ (∀ j, j < i → a ^ (d * 2 ^ j) % n ≠ n - 1) ∧ ∃ q, wx = w1.drewN q)) (fun _ iv _ => t - (intOf iv).toNat)
    case atStart => exact ⟨0, x0, Nat.zero_le _, rfl, rfl, hx0, by rw [HX0.out]; simp, fun j hj => absurd hj (Nat.not_lt_zero _), q2, rfl⟩
    case round =>
      obtain ⟨i, x, hi, rfl, rfl, hx, HR⟩ := hrel
      by_cases hlt : i < t
      · by_cases hxn : x = N
        · have hxb : ((x : Int) == (N : Int)) = true := by rw [hxn]; simp
          have HF : Hid (WitIs a n false) := HOUT.out false (by
            constructor
            · intro h; cases h
            · intro h; exact absurd (by rw [← HR.out.1]; omega) (h.2 i hlt))
          obtain ⟨q, rfl⟩ := HR.out.2.2
          clear hxn
          go_wp2
          go_ret
          exact ⟨false, rfl, HF.out, q, rfl⟩
        · have hxb : ((x : Int) == (N : Int)) = false := beq_eq_false_iff_ne.2 (by omega)
          have HXN : Hid (x ≠ N) := hxn
          have hy2 : x * x % n < n := Nat.mod_lt _ (by omega)
          obtain ⟨y, gy⟩ : ∃ y, y = x * x % n := ⟨_, rfl⟩
          have HY : Hid (y = a ^ (d * 2 ^ (i + 1)) % n) := by
            show _ = _
            rw [gy, HR.out.1, ← Nat.mul_mod, ← Nat.pow_add, Nat.pow_succ, ← Nat.mul_assoc]
            congr 2; omega
          have HYE : Hid (x * x % n = y) := gy.symm
          rw [← gy] at hy2
          clear gy hxn
          go_wp2_with fail
          refine (productLeft_any x x n _ hx hx hn2).mono ?_
          rw [HYE.out]
          rintro e w4 ⟨rfl, q4, rfl⟩
          go_wp2
          go_roundw
          case rel =>
            obtain ⟨q, hq⟩ := HR.out.2.2
            refine ⟨i + 1, y, by omega, by go_num, rfl, hy2, HY.out, fun j hj => ?_, drewN_more ⟨q, hq⟩ _⟩
            by_cases hji : j = i
            · subst hji; rw [← HR.out.1]; have := HXN.out; omega
            · exact HR.out.2.1 j (by omega)
          case measure => simp [intOf]; omega
      · obtain rfl : i = t := by omega
        have HF : Hid (WitIs a n true) := HOUT.out true (by
          constructor
          · intro _; exact ⟨by rw [← HX0.out]; exact H1.out, HR.out.2.1⟩
          · intro _; rfl)
        obtain ⟨q, rfl⟩ := HR.out.2.2
        go_wp2
        go_ret
        exact ⟨true, rfl, HF.out, q, rfl⟩
theorem isWitness_val (a n : Nat) (ha : a ≤ 1000) (hn : 3 ≤ n) (hn2 : n ≤ 1000000000000000000) (hT : ∃ w, Tb w) :
    ∃ b, WitIs a n b ∧ ∀ w, Tb w → Calls Tryz.prog 195 #[.int .i64 a, .int .i64 n] w fun e w' => e = .returned (.bool b) ∧ ∃ q, w' = w.drewN q := by
  obtain ⟨t, d, hd, hd2, ht, _⟩ := tz_any (n - 1) (by omega) (by omega)
  by_cases h : Wit a n t d
  · refine ⟨true, ?_, fun w hw => (isWitness_any a n w ha hn hn2 hw).mono ?_⟩
    · intro t' d' h1 h2
      obtain ⟨rfl, rfl⟩ := split_two (hd.symm.trans h1) hd2 h2
      exact ⟨fun _ => h, fun _ => rfl⟩
    · rintro e w' ⟨b, rfl, hb, hq⟩
      rw [(hb t d hd hd2).2 h]; exact ⟨rfl, hq⟩
  · refine ⟨false, ?_, fun w hw => (isWitness_any a n w ha hn hn2 hw).mono ?_⟩
    · intro t' d' h1 h2
      obtain ⟨rfl, rfl⟩ := split_two (hd.symm.trans h1) hd2 h2
      exact ⟨fun e => (by cases e), fun e => absurd e h⟩
    · rintro e w' ⟨b, rfl, hb, hq⟩
      have : b = false := by
        cases b
        · rfl
        · exact absurd ((hb t d hd hd2).1 rfl) h
      rw [this]; exact ⟨rfl, hq⟩
end Go.Proofs.YtcnfhndejkngkaaGreatDoor
end
