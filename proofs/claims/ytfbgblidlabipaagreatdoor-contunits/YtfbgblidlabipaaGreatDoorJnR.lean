import Derived.Test.YtfbgblidlabipaaGreatDoorJnG
import Derived.Test.YtfbgblidlabipaaGreatDoorJnH
import Derived.Test.YtfbgblidlabipaaGreatDoorCfL
import Derived.Test.YtfbgblidlabipaaGreatDoorJnP
section
/- Numbers and fresh places that stand. -/
set_option linter.unusedSimpArgs false
set_option linter.unusedVariables false
set_option maxRecDepth 100000
namespace Go.Proofs.YtfbgblidlabipaaGreatDoor
open Go.RowKit

/-- Numbers and fresh places that stand, and that nothing under B has turned. -/
structure Bk (w0 w : World) (B : Nat) (L : List (Nat × Int)) (F : List Nat) : Prop where
  bel : Below B w0 w
  le : B ≤ w.heap.size
  big : ∀ p ∈ L, BigAt w p.1 p.2
  fr : ∀ b ∈ F, Slot w b
theorem Bk.alloc {w0 w : World} {B : Nat} {L : List (Nat × Int)} {F : List Nat} (h : Bk w0 w B L F) (x y : Value) : Bk w0 (w.alloc (.cells #[x, y] 45)) B L (w.heap.size :: F) :=
  ⟨h.bel.alloc h.le _, Nat.le_trans h.le (by simp), fun p hp => (h.big p hp).below (Below.alloc_self' w _) (Nat.le_refl _), fun b hb => by
    rcases List.mem_cons.1 hb with h1 | h1
    · subst h1; exact slot_new w x y
    · exact (h.fr b h1).below (Below.alloc_self' w _) (Nat.le_refl _)⟩
theorem Bk.made {w0 w w' : World} {B b : Nat} {x : Int} {L : List (Nat × Int)} {F : List Nat} (h : Bk w0 w B L F) (k : Made w w' b x) : Bk w0 w' B ((b, x) :: L) F :=
  ⟨h.bel.trans (k.2.2.mono h.le), Nat.le_trans h.le k.2.2.size, fun p hp => by
    rcases List.mem_cons.1 hp with h1 | h1
    · subst h1; exact k.2.1
    · exact (h.big p h1).below k.2.2 (Nat.le_refl _), fun c hc => (h.fr c hc).below k.2.2 (Nat.le_refl _)⟩
theorem Bk.upd {w0 w w' : World} {B z : Nat} {x : Int} {L L' : List (Nat × Int)} {F F' : List Nat} (h : Bk w0 w B L F) (hz : Slot w z) (hB : B ≤ z) (hx : BigAt w' z x) (u : Upd z w w') (hL : ∀ p ∈ L', p ∈ L ∧ p.1 ≠ z) (hF : ∀ f ∈ F', f ∈ F ∧ f ≠ z) : Bk w0 w' B ((z, x) :: L') F' :=
  ⟨h.bel.trans (u.below h.le hB), Nat.le_trans h.le u.size, fun p hp => by
    rcases List.mem_cons.1 hp with h1 | h1
    · subst h1; exact hx
    · exact (h.big p (hL p h1).1).upd u hz (hL p h1).2, fun c hc => (h.fr c (hF c hc).1).upd u (hF c hc).2⟩
theorem Bk.drewN {w0 w : World} {B q : Nat} {L : List (Nat × Int)} {F : List Nat} (h : Bk w0 w B L F) : Bk w0 (w.drewN q) B L F :=
  ⟨below_drewN' h.bel, h.le, fun p hp => (h.big p hp).drewN, fun c hc => (h.fr c hc).below (below_drewN' (Below.refl w.heap.size w)) (Nat.le_refl _)⟩

end Go.Proofs.YtfbgblidlabipaaGreatDoor
end

section
/- The reference's Cycled, up to 5000. -/
set_option linter.unusedSimpArgs false
set_option linter.unusedVariables false
set_option maxRecDepth 100000
namespace Go.Proofs.YtfbgblidlabipaaGreatDoor
open Go.RowKit CfM

/-- A place of Bhaskara's way, with so many steps left. -/
structure CyS (d r : Nat) (X : Nat × Nat) (w : World) (n : Nat) (av bv kv : Value) (wx : World) (A B K m ba bb : Nat) (neg : Bool) : Prop where
  av : av = .pointer (some ⟨ba, 0, none⟩)
  bv : bv = .pointer (some ⟨bb, 0, none⟩)
  kv : kv = .int .i64 (sg neg K)
  a : BigAt wx ba (A : Int)
  b : BigAt wx bb (B : Int)
  go : cyc d r n A B K neg m = some X
  n2 : n ≤ 200
  al : A < pw (201 - n)
  bl : B < pw (201 - n)
  kl : K ≤ 40000
  bw : Below w.heap.size w wx
def CyR (d r : Nat) (X : Nat × Nat) (w : World) (n : Nat) (av bv kv : Value) (wx : World) : Prop := ∃ A B K m ba bb neg, CyS d r X w n av bv kv wx A B K m ba bb neg

/-- What the trying holds before t. -/
def InB (n A B K t m : Nat) (best : Int) : Prop := (best = -1 ∧ m = 0 ∧ ∀ s, s < t → ¬ Cd n A B K s) ∨ (best = (di n m : Int) ∧ m < t ∧ Cd n A B K m ∧ ∀ s, s < t → Cd n A B K s → di n m ≤ di n s ∧ (s < m → di n m < di n s))
theorem InB.start (n A B K : Nat) : InB n A B K 1 0 (-1) := .inl ⟨rfl, rfl, fun s hs h => by have := h.1.1; omega⟩
theorem InB.skip {n A B K t m : Nat} {best : Int} (h : InB n A B K t m best) (hc : ¬ Cd n A B K t) : InB n A B K (t + 1) m best := by
  have e : ∀ s, s < t + 1 → Cd n A B K s → s < t := fun s h1 h2 => by
    rcases Nat.lt_or_ge s t with h3 | h3
    · exact h3
    · have : s = t := by omega
      subst this; exact absurd h2 hc
  rcases h with ⟨h1, h2, h3⟩ | ⟨h1, h2, h3, h4⟩
  · exact .inl ⟨h1, h2, fun s hs hh => h3 s (e s hs hh) hh⟩
  · exact .inr ⟨h1, by omega, h3, fun s hs hh => h4 s (e s hs hh) hh⟩
theorem InB.keep {n A B K t m : Nat} {best : Int} (h : InB n A B K t m best) (h0 : ¬ best < 0) (hd : ¬ (di n t : Int) < best) : InB n A B K (t + 1) m best := by
  rcases h with ⟨h1, h2, h3⟩ | ⟨h1, h2, h3, h4⟩
  · omega
  · refine .inr ⟨h1, by omega, h3, fun s hs hh => ?_⟩
    rcases Nat.lt_or_ge s t with h5 | h5
    · exact h4 s h5 hh
    · have : s = t := by omega
      subst this
      exact ⟨by omega, by omega⟩
theorem InB.take {n A B K t m : Nat} {best : Int} (h : InB n A B K t m best) (hc : Cd n A B K t) (h0 : best < 0 ∨ (di n t : Int) < best) : InB n A B K (t + 1) t (di n t : Int) := by
  refine .inr ⟨rfl, by omega, hc, fun s hs hh => ?_⟩
  rcases Nat.lt_or_ge s t with h5 | h5
  · rcases h with ⟨h1, h2, h3⟩ | ⟨h1, h2, h3, h4⟩
    · exact absurd hh (h3 s h5)
    · have := (h4 s h5 hh).1
      have : di n t < di n s := by omega
      exact ⟨by omega, fun _ => this⟩
  · have : s = t := by omega
    subst this
    exact ⟨by omega, by omega⟩
theorem InB.done {n A B K t m M : Nat} {best : Int} (h : InB n A B K t m best) (ht : 4 * n + 4 ≤ t * t) (hM : Bst n (Cd n A B K) M) : m = M := by
  have e : ∀ s, Cd n A B K s → s < t := fun s hs => by
    rcases Nat.lt_or_ge s t with h1 | h1
    · exact h1
    · have := hs.1.2; have := Nat.mul_le_mul h1 h1; omega
  rcases h with ⟨h1, h2, h3⟩ | ⟨h1, h2, h3, h4⟩
  · exact absurd hM.c (h3 M (e M hM.c))
  · exact Bst.uniq ⟨h3, fun s hs => (h4 s (e s hs) hs).1, fun s hs hl => (h4 s (e s hs) hs).2 hl⟩ hM

theorem least_is (P : Nat → Prop) (h : ∃ n, P n) : ∃ n, P n ∧ ∀ k, P k → n ≤ k := by
  obtain ⟨n, hn⟩ := h
  induction n using Nat.strongRecOn with
  | _ n ih =>
    by_cases h : ∃ k, k < n ∧ P k
    · obtain ⟨k, h1, h2⟩ := h; exact ih k h1 h2
    · exact ⟨n, hn, fun k hk => by rcases Nat.lt_or_ge k n with h3 | h3
                                   · exact absurd ⟨k, h3, hk⟩ h
                                   · exact h3⟩
theorem cyr_measure (d r : Nat) (X : Nat × Nat) (w : World) : ∃ μ : Value → Value → Value → World → Nat, ∀ a b k wx, (∃ n, CyR d r X w n a b k wx) → CyR d r X w (μ a b k wx) a b k wx ∧ ∀ n, CyR d r X w n a b k wx → μ a b k wx ≤ n := by
  refine ⟨fun a b k wx => open Classical in if h : ∃ n, CyR d r X w n a b k wx then Classical.choose (least_is _ h) else 0, fun a b k wx h => ?_⟩
  simp only [h, dite_true]
  exact Classical.choose_spec (least_is _ h)

set_option maxHeartbeats 8000000 in
theorem Cycled_any (n r : Nat) (X : Nat × Nat) (w : World) (hR : Rn n r) (hn : n ≤ 5000) (hX : cyc0 n r = some X) :
    Calls Tryz.prog 25 #[.int .i64 (n : Int)] w fun e w' => ∃ ba bb, e = .returned (.tuple #[.pointer (some ⟨ba, 0, none⟩), .pointer (some ⟨bb, 0, none⟩)]) ∧ BigAt w' ba (X.1 : Int) ∧ BigAt w' bb (X.2 : Int) ∧ X.1 < pw 201 ∧ X.2 < pw 201 ∧ Below w.heap.size w w' := by
  obtain ⟨μ, hμ⟩ := cyr_measure n r X w
  have HM : Hid (∀ a b k wx, (∃ m, CyR n r X w m a b k wx) → CyR n r X w (μ a b k wx) a b k wx ∧ ∀ m, CyR n r X w m a b k wx → μ a b k wx ≤ m) := hμ
  have hr : r ≤ 70 := by
    rcases Nat.lt_or_ge 70 r with h | h
    · have := Nat.mul_le_mul (show 71 ≤ r by omega) (show 71 ≤ r by omega); have := hR.lo; omega
    · exact h
  have HRn : Hid (Rn n r) := hR
  have HX : Hid (cyc0 n r = some X) := hX
  clear hμ hR hX
  go_enter Tryz.func25, Tryz.ntmps25
  go_wp2_with fail
  have S0 := slot_new w (.bool false) (.slice none 0 0)
  have K0 := (Below.refl w.heap.size w).alloc (Nat.le_refl _) (.cells #[.bool false, .slice none 0 0] 45)
  refine (B_any (n : Int) _ (by omega) (by omega)).mono ?_
  rintro e w1 ⟨b1, rfl, g1, h1, k1⟩
  have HS1 : Hid (Slot w1 w.heap.size) := S0.below k1 (Nat.le_refl _)
  have HK1 : Hid (Below w.heap.size w w1) := K0.trans (k1.mono (by simp))
  have HB1 : Hid (BigAt w1 b1 (n : Int)) := h1
  clear S0 K0 k1 h1
  go_wp2_with fail
  refine (Sqrt_small w.heap.size b1 n w1 HS1.out HB1.out (by omega)).mono ?_
  rintro e w2 ⟨r', rfl, h2, hr', u2⟩
  have hrr : r' = r := by
    have a := HRn.out.lo; have b := HRn.out.hi
    rcases Nat.lt_trichotomy r' r with g | g | g
    · have := Nat.mul_le_mul (show r' + 1 ≤ r by omega) (show r' + 1 ≤ r by omega); omega
    · exact g
    · have := Nat.mul_le_mul (show r + 1 ≤ r' by omega) (show r + 1 ≤ r' by omega); omega
  subst hrr
  have HB2 : Hid (BigAt w2 w.heap.size (r' : Int)) := h2
  have HK2 : Hid (Below w.heap.size w w2) := HK1.out.trans (u2.below HK1.out.size (Nat.le_refl _))
  clear HS1 HB1 HK1 h2 u2 hr'
  go_wp2_with fail
  refine (Int64_any w.heap.size (r' : Int) w2 HB2.out (by rw [Int.natAbs_natCast]; omega)).mono ?_
  rintro e w3 ⟨rfl, q3, hw3⟩
  have HK3 : Hid (Below w.heap.size w w3) := by show Below _ _ _; rw [hw3]; exact below_drewN' HK2.out
  clear hw3 HB2 HK2
  obtain ⟨RR, hRR⟩ : ∃ RR : Nat, RR = r' * r' := ⟨_, rfl⟩
  have hRRI : (r' : Int) * (r' : Int) = (RR : Int) := by rw [hRR, Int.natCast_mul]
  have hRRn : RR < n := by rw [hRR]; exact HRn.out.lo
  obtain ⟨RS, hRS⟩ : ∃ RS : Nat, RS = (r' + 1) * (r' + 1) := ⟨_, rfl⟩
  have hRSI : ((r' : Int) + 1) * ((r' : Int) + 1) = (RS : Int) := by rw [hRS, Int.natCast_mul, Int.natCast_add]; rfl
  have hRSn : n < RS := by rw [hRS]; exact HRn.out.hi
  have hRSb : RS ≤ 5041 := by rw [hRS]; exact Nat.mul_le_mul (show r' + 1 ≤ 71 by omega) (show r' + 1 ≤ 71 by omega)
  have hgo : ∃ (R K0 : Nat) (neg : Bool), cyc n r' 200 R 1 K0 neg R = some X ∧ R ≤ 71 ∧ K0 ≤ 40000 ∧ sg neg K0 = (R : Int) * R - n ∧ (if (RS : Int) - n < (n : Int) - RR then R = r' + 1 else R = r') := by
    have h := HX.out
    unfold cyc0 rst at h
    rw [← hRS, ← hRR] at h
    simp only at h
    by_cases hc : RS - n < n - RR
    · rw [if_pos hc, ← hRS] at h
      have hu : n < RS := hRSn
      simp only [hu, decide_true, if_true, Bool.not_true] at h
      refine ⟨r' + 1, RS - n, false, h, by omega, by omega, ?_, ?_⟩
      · simp only [sg, Bool.false_eq_true, if_false]
        rw [← Int.natCast_mul, ← hRS]; omega
      · rw [if_pos (by omega)]
    · rw [if_neg hc, ← hRR] at h
      have hu : ¬ n < RR := by omega
      simp only [hu, decide_false, if_false, Bool.not_false, Bool.false_eq_true] at h
      refine ⟨r', n - RR, true, h, by omega, by omega, ?_, ?_⟩
      · simp only [sg, if_true]
        rw [← Int.natCast_mul, ← hRR]; omega
      · rw [if_neg (by omega)]
  obtain ⟨R, K0, neg0, hcy, hRb, hKb, hsg, hRc⟩ := hgo
  have HC0 : Hid (cyc n r' 200 R 1 K0 neg0 R = some X ∧ sg neg0 K0 = (R : Int) * R - n) := ⟨hcy, hsg⟩
  obtain ⟨ρ, hρ⟩ : ∃ ρ, ρ = r' := ⟨_, rfl⟩
  rw [← hρ] at HM HRn HC0
  obtain ⟨RQ, hRQ⟩ : ∃ RQ : Nat, RQ = R * R := ⟨_, rfl⟩
  have hRQI : (R : Int) * (R : Int) = (RQ : Int) := by rw [hRQ, Int.natCast_mul]
  have hRQb : RQ ≤ 5041 := by rw [hRQ]; exact Nat.mul_le_mul (show R ≤ 71 by omega) (show R ≤ 71 by omega)
  obtain ⟨kk, hkk⟩ : ∃ kk : Int, kk = sg neg0 K0 := ⟨_, rfl⟩
  have hkkI : (RQ : Int) - (n : Int) = kk := by rw [hkk, hsg, hRQI]
  have HKK : Hid (kk = sg neg0 K0) := hkk
  clear hcy hsg hRR hRS hρ hRQ hkk HX
  have hcase : ((RS : Int) - n < (n : Int) - RR ∧ (r' : Int) + 1 = (R : Int)) ∨ (¬ (RS : Int) - n < (n : Int) - RR ∧ R = r') := by
    split at hRc
    · left; exact ⟨by assumption, by omega⟩
    · right; exact ⟨by assumption, hRc⟩
  clear hRc
  have HQI : Hid ((R : Int) * (R : Int) = (RQ : Int) ∧ (RQ : Int) - (n : Int) = kk) := ⟨hRQI, hkkI⟩
  clear hRQI hkkI
  rcases hcase with hcase | hcase
  case' inl =>
    have hc := hcase.1
    have HR1 : Hid ((r' : Int) + 1 = (R : Int)) := hcase.2
    clear hcase
    go_wp2_with fail
    rw [HR1.out]
    clear HR1
  case' inr =>
    have hc := hcase.1
    have hR1 := hcase.2
    subst hR1
    clear hcase
    go_wp2_with fail
  all_goals
    have hRQI := HQI.out.1
    have hkkI := HQI.out.2
    clear HQI hRSI hRRI hc hRSn hRRn hRSb
    refine (B_any (R : Int) _ (by omega) (by omega)).mono ?_
    rintro e w4 ⟨b4, rfl, g4, h4, k4⟩
    have HK4 : Hid (Below w.heap.size w w4) := HK3.out.trans (k4.mono HK3.out.size)
    have HB4 : Hid (BigAt w4 b4 (R : Int)) := h4
    clear h4 k4 HK3
    go_wp2_with fail
    refine (B_any 1 _ (by omega) (by omega)).mono ?_
    rintro e w5 ⟨b5, rfl, g5, h5, k5⟩
    have HK5 : Hid (Below w.heap.size w w5) := HK4.out.trans (k5.mono HK4.out.size)
    have HB5 : Hid (BigAt w5 b4 (R : Int)) := HB4.out.below k5 (Nat.le_refl _)
    have HC5 : Hid (BigAt w5 b5 ((1 : Nat) : Int)) := h5
    clear h5 k5 HK4 HB4
    go_wp2_with fail
    go_loopw [5, 6, 7] (fun av bv kv wx => ∃ m, CyR n ρ X w m av bv kv wx) (fun av bv kv wx => μ av bv kv wx)
    case atStart =>
      refine ⟨200, R, 1, K0, R, b4, b5, neg0, rfl, rfl, by rw [← HKK.out], HB5.out, HC5.out, HC0.out.1, by omega, ?_, by rw [show pw (201 - 200) = 4294967296 from rfl]; omega, by omega, HK5.out⟩
      rw [show pw (201 - 200) = 4294967296 from rfl]; omega
    case round =>
      clear HKK HB5 HC5 HC0 HK5 hRQI hkkI
      rename World => V
      obtain ⟨N0, hN0⟩ : ∃ N0, N0 = μ u5 u6 u7 V := ⟨_, rfl⟩
      have hst := (HM.out u5 u6 u7 V hrel).1
      rw [← hN0] at hst
      obtain ⟨A, B, K, m0, ba, bb, neg, hS⟩ := hst
      have e5 := hS.av
      have e6 := hS.bv
      have e7 := hS.kv
      subst e5 e6
      obtain ⟨k, hk⟩ : ∃ k, k = sg neg K := ⟨_, rfl⟩
      rw [← hk] at e7
      subst e7
      have HNu : Hid (N0 = μ (.pointer (some ⟨ba, 0, none⟩)) (.pointer (some ⟨bb, 0, none⟩)) (.int .i64 k) V) := hN0
      have hN2 := hS.n2
      have HL : Hid (A < pw (201 - N0) ∧ B < pw (201 - N0)) := ⟨hS.al, hS.bl⟩
      have hK4 := hS.kl
      have HB : Hid (Bk w V w.heap.size [(ba, (A : Int)), (bb, (B : Int))] []) := ⟨hS.bw, hS.bw.size, by
        intro p hp
        simp only [List.mem_cons, List.not_mem_nil, or_false] at hp
        rcases hp with rfl | rfl
        · exact hS.a
        · exact hS.b, by intro b hb; cases hb⟩
      have la := hS.a.lt
      have lb := hS.b.lt
      have hgo := hS.go
      clear hS hN0 hrel
      cases N0 with
      | zero => simp [cyc] at hgo
      | succ N1 =>
        have hstep := cyc_step HRn.out.lo HRn.out.hi hgo
        rw [← hk] at hstep
        rcases hstep with ⟨h1, hX⟩ | ⟨h1, hK1, M, K', neg', hB, hk', hgo'⟩
        · subst h1 hX
          have HO : Hid (BigAt V ba ((A, B).1 : Int) ∧ BigAt V bb ((A, B).2 : Int) ∧ (A, B).1 < pw 201 ∧ (A, B).2 < pw 201 ∧ Below w.heap.size w V) :=
            ⟨HB.out.big (ba, (A : Int)) (by simp), HB.out.big (bb, (B : Int)) (by simp), Nat.lt_of_lt_of_le HL.out.1 (pw_le (by omega)), Nat.lt_of_lt_of_le HL.out.2 (pw_le (by omega)), HB.out.bel⟩
          clear HB HL
          go_wp2
          exact bodyPost_ret (v := .tuple #[.pointer (some ⟨ba, 0, none⟩), .pointer (some ⟨bb, 0, none⟩)]) (by simp [results, Tryz.results25, go_sem]) rfl ⟨_, _, rfl, HO.out⟩
        · have hk1 : (k == 1) = false := beq_eq_false_iff_ne.2 h1
          have hk2 : (k != 1) = true := by unfold bne; rw [hk1]; rfl
          have hka : k.natAbs = K := by rw [hk]; unfold sg; split <;> simp
          have hkb : -40000 ≤ k ∧ k ≤ 40000 := by omega
          have HBS : Hid (Bst n (Cd n A B K) M) := hB
          have HK' : Hid (sg neg' K' = Int.tdiv ((M : Int) * M - n) k) := hk'
          have HGo : Hid (cyc n ρ N1 ((A * M + n * B) / K) ((A + B * M) / K) K' neg' M = some X) := hgo'
          clear hB hk' hgo' hgo hk h1
          go_wp2_with fail
          go_loopw [8, 9, 10] (fun mv ev tv wx => ∃ (m t : Nat) (best : Int), mv = .int .i64 m ∧ ev = .int .i64 best ∧ tv = .int .i64 t ∧ 1 ≤ t ∧ t ≤ 143 ∧ m ≤ 142 ∧ (best = -1 ∨ (0 ≤ best ∧ best ≤ 30000)) ∧ V.heap.size ≤ wx.heap.size ∧ Hid (InB n A B K t m best ∧ Bk w wx w.heap.size [(ba, (A : Int)), (bb, (B : Int))] [])) (fun _ _ tv _ => 200 - (intOf tv).toNat)
          case atStart => exact ⟨0, 1, -1, by go_num, by go_num, by go_num, by omega, by omega, by omega, .inl rfl, Nat.le_refl _, InB.start .., HB.out⟩
          case round =>
            clear HB
            obtain ⟨m, t, best, rfl, rfl, rfl, ht1, ht2, hmb, hbb, hVw, HI⟩ := hrel
            obtain ⟨TT, hTT⟩ : ∃ TT : Nat, TT = t * t := ⟨_, rfl⟩
            have hTTI : (t : Int) * (t : Int) = (TT : Int) := by rw [hTT, Int.natCast_mul]
            have hTTb : TT ≤ 20449 := by rw [hTT]; exact Nat.mul_le_mul ht2 ht2
            have HTT : Hid (TT = t * t) := hTT
            by_cases hlt : TT < 4 * n + 4
            · have hlt1 : (TT : Int) < 4 * (n : Int) + 4 := by omega
              have ht141 : t ≤ 141 := by
                rcases Nat.lt_or_ge 141 t with h | h
                · have := Nat.mul_le_mul (show 142 ≤ t by omega) (show 142 ≤ t by omega); omega
                · exact h
              clear hTT
              go_wp2_with fail
              have hk0 := (HI.out.2.alloc (.bool false) (.slice none 0 0)).alloc (.bool false) (.slice none 0 0)
              obtain ⟨W0, hW0⟩ : ∃ W0, W0 = ((wr.alloc (.cells #[.bool false, .slice none 0 0] 45)).alloc (.cells #[.bool false, .slice none 0 0] 45)) := ⟨_, rfl⟩
              have z0 : W0.heap.size = wr.heap.size + 2 := by rw [hW0]; simp
              have e0 : (wr.alloc (.cells #[.bool false, .slice none 0 0] 45)).heap.size = wr.heap.size + 1 := by simp
              rw [e0, ← hW0] at hk0
              rw [← hW0]
              clear hW0
              have HW0 : Hid (Bk w W0 w.heap.size [(ba, (A : Int)), (bb, (B : Int))] [wr.heap.size + 1, wr.heap.size]) := hk0
              clear hk0
              refine (B_any (t : Int) W0 (by omega) (by omega)).mono ?_
              rintro e v1 ⟨bt, rfl, hm1⟩
              have g1 := hm1.1
              have l1 := hm1.2.1.lt
              have s1 := hm1.2.2.size
              have HV1 : Hid (Bk w v1 w.heap.size [(bt, (t : Int)), (ba, (A : Int)), (bb, (B : Int))] [wr.heap.size + 1, wr.heap.size]) := HW0.out.made hm1
              have hBw := HI.out.2.le
              have HIB : Hid (InB n A B K t m best) := HI.out.1
              clear hm1 HW0 HI
              go_wp2_with fail
              refine (Mul_any (wr.heap.size + 1) bb bt (B : Int) (t : Int) (200 - N1) 1 v1 (HV1.out.fr _ (by simp)) (HV1.out.big (bb, (B : Int)) (by simp)) (HV1.out.big (bt, (t : Int)) (by simp)) (by rw [Int.natAbs_natCast]; have := HL.out.2; rwa [show 201 - (N1 + 1) = 200 - N1 by omega] at this) (by rw [show pw 1 = 4294967296 from rfl, Int.natAbs_natCast]; omega) (by omega) (by omega)).mono ?_
              rintro e v2 ⟨rfl, h2, u2⟩
              have s2 := u2.size
              have HV2 : Hid (Bk w v2 w.heap.size [(wr.heap.size + 1, (B : Int) * t), (ba, (A : Int)), (bb, (B : Int))] [wr.heap.size]) := HV1.out.upd (HV1.out.fr _ (by simp)) (by omega) h2 u2 (by simp; omega) (by simp)
              have HLt : Hid (((B : Int) * t).natAbs < pw (201 - N1)) := by
                show _ < _
                rw [← Int.natCast_mul, Int.natAbs_natCast, show 201 - N1 = (201 - (N1 + 1)) + 1 by omega, show ∀ j, pw (j + 1) = 4294967296 * pw j from fun _ => rfl, Nat.mul_comm]
                exact Nat.mul_lt_mul_of_le_of_lt (by omega) HL.out.2 (by omega)
              clear h2 u2 HV1
              go_wp2_with fail
              refine (Add_any wr.heap.size ba (wr.heap.size + 1) (A : Int) ((B : Int) * t) (200 - N1) (201 - N1) v2 (HV2.out.fr _ (by simp)) (HV2.out.big (ba, (A : Int)) (by simp)) (HV2.out.big (wr.heap.size + 1, (B : Int) * t) (by simp)) (by rw [Int.natAbs_natCast]; have := HL.out.1; rwa [show 201 - (N1 + 1) = 200 - N1 by omega] at this) HLt.out (by omega) (by omega)).mono ?_
              rintro e v3 ⟨rfl, h3, u3⟩
              obtain ⟨SS, hSS⟩ : ∃ SS : Nat, SS = A + B * t := ⟨_, rfl⟩
              have HSS : Hid (SS = A + B * t) := hSS
              rw [← Int.natCast_mul, ← Int.natCast_add, ← hSS] at h3
              have s3 := u3.size
              have HV3 : Hid (Bk w v3 w.heap.size [(wr.heap.size, (SS : Int)), (ba, (A : Int)), (bb, (B : Int))] []) := HV2.out.upd (HV2.out.fr _ (by simp)) (by omega) h3 u3 (by simp; omega) (by simp)
              have HLs : Hid (SS < pw (202 - N1)) := by
                show _ < _
                have h5 := HL.out.1
                have h6 := HLt.out
                rw [← Int.natCast_mul, Int.natAbs_natCast] at h6
                have h7 : pw (201 - (N1 + 1)) ≤ pw (201 - N1) := pw_le (by omega)
                rw [hSS, show 202 - N1 = (201 - N1) + 1 by omega, show pw ((201 - N1) + 1) = 4294967296 * pw (201 - N1) from rfl]
                omega
              clear h3 u3 HV2 hSS HLt
              have HV4 : Hid (Bk w (v3.alloc (.cells #[.bool false, .slice none 0 0] 45)) w.heap.size [(wr.heap.size, (SS : Int)), (ba, (A : Int)), (bb, (B : Int))] [v3.heap.size]) := HV3.out.alloc _ _
              clear HV3
              go_wp2_with fail
              obtain ⟨v4, hv4⟩ : ∃ v4, v4 = v3.alloc (.cells #[.bool false, .slice none 0 0] 45) := ⟨_, rfl⟩
              have s4 : v4.heap.size = v3.heap.size + 1 := by rw [hv4]; simp
              rw [← hv4] at HV4 ⊢
              clear hv4
              refine (refSize_any k v4 (by omega) (by omega)).mono ?_
              rintro e v5 ⟨rfl, rfl⟩
              rw [hka]
              go_wp2_with fail
              refine (B_any (K : Int) v5 (by omega) (by omega)).mono ?_
              rintro e v6 ⟨bk, rfl, hm6⟩
              have g6 := hm6.1
              have l6 := hm6.2.1.lt
              have s6 := hm6.2.2.size
              have HV6 : Hid (Bk w v6 w.heap.size [(bk, (K : Int)), (wr.heap.size, (SS : Int)), (ba, (A : Int)), (bb, (B : Int))] [v3.heap.size]) := HV4.out.made hm6
              clear hm6 HV4
              go_wp2_with fail
              refine (Mod_any v3.heap.size wr.heap.size bk (SS : Int) (K : Int) (202 - N1) 1 v6 (HV6.out.fr _ (by simp)) (HV6.out.big (wr.heap.size, (SS : Int)) (by simp)) (HV6.out.big (bk, (K : Int)) (by simp)) (by omega) (by rw [Int.natAbs_natCast]; exact HLs.out) (by rw [show pw 1 = 4294967296 from rfl, Int.natAbs_natCast]; omega) (by omega) (by omega)).mono ?_
              rintro e v7 ⟨rfl, h7, u7⟩
              obtain ⟨RM, hRM⟩ : ∃ RM : Nat, RM = SS % K := ⟨_, rfl⟩
              have HRM : Hid (RM = SS % K) := hRM
              rw [← Int.natCast_emod, ← hRM] at h7
              have s7 := u7.size
              have HV7 : Hid (Bk w v7 w.heap.size [(v3.heap.size, (RM : Int)), (ba, (A : Int)), (bb, (B : Int))] []) := HV6.out.upd (HV6.out.fr _ (by simp)) (by omega) h7 u7 (by simp; omega) (by simp)
              clear h7 u7 HV6 hRM
              go_wp2_with fail
              refine (Sign_any v3.heap.size (RM : Int) v7 (HV7.out.big (v3.heap.size, (RM : Int)) (by simp))).mono ?_
              rintro e v8 ⟨rfl, rfl⟩
              have HV8 : Hid (Bk w v8 w.heap.size [(ba, (A : Int)), (bb, (B : Int))] []) := ⟨HV7.out.bel, HV7.out.le, fun p hp => HV7.out.big p (List.mem_cons_of_mem _ hp), HV7.out.fr⟩
              clear HV7
              have s8 : V.heap.size ≤ v8.heap.size := by omega
              by_cases hRM0 : RM = 0
              · have HCd : Hid (Cd n A B K t) := ⟨⟨ht1, by have := HTT.out; omega⟩, by rw [← HSS.out, ← HRM.out]; exact hRM0⟩
                have hsg : (RM : Int).sign = 0 := by rw [hRM0]; rfl
                rw [hsg]
                clear hsg hRM0 HRM HSS
                obtain ⟨D, hD⟩ : ∃ D : Int, D = (TT : Int) - n := ⟨_, rfl⟩
                have hDI : (TT : Int) - (n : Int) = D := hD.symm
                obtain ⟨dn, hdn⟩ : ∃ dn : Nat, dn = di n t := ⟨_, rfl⟩
                have hDn : D.natAbs = dn := by rw [hdn, hD, ← hTTI]; rfl
                have HDN : Hid (dn = di n t) := hdn
                have hDb : -5000 ≤ D ∧ D ≤ 20449 := by omega
                clear hdn hD
                rcases hbb with hbb | hbb
                · subst hbb
                  go_wp2_with fail
                  refine (refSize_any D v8 (by omega) (by omega)).mono ?_
                  rintro e v9 ⟨rfl, rfl⟩
                  rw [hDn]
                  go_wp2
                  go_roundw
                  case rel => exact ⟨t, t + 1, dn, rfl, rfl, by go_num, by omega, by omega, by omega, .inr (by omega), s8, by rw [HDN.out]; exact HIB.out.take HCd.out (.inl (by omega)), HV8.out⟩
                  case measure => simp [intOf]; omega
                · have hb0 : ¬ best < 0 := by omega
                  go_wp2_with fail
                  refine (refSize_any D v8 (by omega) (by omega)).mono ?_
                  rintro e v9 ⟨rfl, rfl⟩
                  rw [hDn]
                  by_cases hdb : (dn : Int) < best
                  · go_wp2_with fail
                    refine (refSize_any D v9 (by omega) (by omega)).mono ?_
                    rintro e v10 ⟨rfl, rfl⟩
                    rw [hDn]
                    go_wp2
                    go_roundw
                    case rel => exact ⟨t, t + 1, dn, rfl, rfl, by go_num, by omega, by omega, by omega, .inr (by omega), s8, by rw [HDN.out]; exact HIB.out.take HCd.out (.inr (by rw [← HDN.out]; exact hdb)), HV8.out⟩
                    case measure => simp [intOf]; omega
                  · go_wp2
                    go_roundw
                    case rel => exact ⟨m, t + 1, best, rfl, rfl, by go_num, by omega, by omega, hmb, .inr hbb, s8, HIB.out.keep (by omega) (by rw [← HDN.out]; omega), HV8.out⟩
                    case measure => simp [intOf]; omega
              · have hsg : (RM : Int).sign = 1 := Int.sign_eq_one_of_pos (by omega)
                have HNC : Hid (¬ Cd n A B K t) := fun h => by have := h.2; rw [← HSS.out, ← HRM.out] at this; exact hRM0 this
                rw [hsg]
                clear hsg hRM0 HRM HSS
                go_wp2
                go_roundw
                case rel => exact ⟨m, t + 1, best, rfl, rfl, by go_num, by omega, by omega, hmb, hbb, s8, HIB.out.skip HNC.out, HV8.out⟩
                case measure => simp [intOf]; omega
            · have hlt1 : ¬ (TT : Int) < 4 * (n : Int) + 4 := by omega
              have hMm : m = M := HI.out.1.done (by have := HTT.out; omega) HBS.out
              have HVI : Hid (Bk w wr w.heap.size [(ba, (A : Int)), (bb, (B : Int))] []) := HI.out.2
              subst hMm
              clear hTT HTT HI HBS
              have la' : ba < wr.heap.size := by omega
              have lb' : bb < wr.heap.size := by omega
              obtain ⟨MM, hMM⟩ : ∃ MM : Nat, MM = m * m := ⟨_, rfl⟩
              have hMMI : (m : Int) * (m : Int) = (MM : Int) := by rw [hMM, Int.natCast_mul]
              have hMMb : MM ≤ 20164 := by rw [hMM]; exact Nat.mul_le_mul hmb hmb
              obtain ⟨E, hE⟩ : ∃ E : Int, E = (MM : Int) - n := ⟨_, rfl⟩
              have hEI : (MM : Int) - (n : Int) = E := hE.symm
              have hEb : -5000 ≤ E ∧ E ≤ 20164 := by omega
              have hkz : (k == 0) = false := beq_eq_false_iff_ne.2 (by omega)
              obtain ⟨k2, hk2'⟩ : ∃ k2 : Int, k2 = sg neg' K' := ⟨_, rfl⟩
              have hq : Int.tdiv E k = k2 := by rw [hk2', HK'.out, hE, hMMI]
              have hKK : k2.natAbs = K' := by rw [hk2']; unfold sg; split <;> simp
              have hKb' : K' ≤ 20164 := by
                rw [← hKK, ← hq, Int.natAbs_tdiv]
                exact Nat.le_trans (Nat.div_le_self _ _) (by omega)
              have HK2 : Hid (k2 = sg neg' K') := hk2'
              have hBw := HVI.out.le
              clear hMM hE hk2' HK'
              go_wp2_with fail
              have hk0 := (HVI.out.alloc (.bool false) (.slice none 0 0)).alloc (.bool false) (.slice none 0 0)
              obtain ⟨W0, hW0⟩ : ∃ W0, W0 = ((wr.alloc (.cells #[.bool false, .slice none 0 0] 45)).alloc (.cells #[.bool false, .slice none 0 0] 45)) := ⟨_, rfl⟩
              have z0 : W0.heap.size = wr.heap.size + 2 := by rw [hW0]; simp
              have e0 : (wr.alloc (.cells #[.bool false, .slice none 0 0] 45)).heap.size = wr.heap.size + 1 := by simp
              rw [e0, ← hW0] at hk0
              rw [← hW0]
              clear hW0 e0
              have HW0 : Hid (Bk w W0 w.heap.size [(ba, (A : Int)), (bb, (B : Int))] [wr.heap.size + 1, wr.heap.size]) := hk0
              clear hk0 HVI
              refine (B_any (m : Int) W0 (by omega) (by omega)).mono ?_
              rintro e v1 ⟨bt, rfl, hm1⟩
              have g1 := hm1.1
              have l1 := hm1.2.1.lt
              have s1 := hm1.2.2.size
              have HV1 : Hid (Bk w v1 w.heap.size [(bt, (m : Int)), (ba, (A : Int)), (bb, (B : Int))] [wr.heap.size + 1, wr.heap.size]) := HW0.out.made hm1
              clear hm1 HW0
              have HLa : Hid ((A : Int).natAbs < pw (200 - N1)) := by show _ < _; rw [Int.natAbs_natCast]; have := HL.out.1; rwa [show 201 - (N1 + 1) = 200 - N1 by omega] at this
              have HLb : Hid ((B : Int).natAbs < pw (200 - N1)) := by show _ < _; rw [Int.natAbs_natCast]; have := HL.out.2; rwa [show 201 - (N1 + 1) = 200 - N1 by omega] at this
              have HLm : Hid ((m : Int).natAbs < pw 1) := by show _ < _; rw [show pw 1 = 4294967296 from rfl, Int.natAbs_natCast]; omega
              have HLn : Hid ((n : Int).natAbs < pw 1) := by show _ < _; rw [show pw 1 = 4294967296 from rfl, Int.natAbs_natCast]; omega
              have HLk : Hid ((K : Int).natAbs < pw 1) := by show _ < _; rw [show pw 1 = 4294967296 from rfl, Int.natAbs_natCast]; omega
              have hpw : pw (201 - N1) = 4294967296 * pw (200 - N1) := by rw [show 201 - N1 = (200 - N1) + 1 by omega]; rfl
              have HLam : Hid (((A : Int) * m).natAbs < pw (201 - N1)) := by
                show _ < _
                have := HLa.out
                rw [Int.natAbs_natCast] at this
                rw [← Int.natCast_mul, Int.natAbs_natCast, hpw, Nat.mul_comm]
                exact Nat.mul_lt_mul_of_le_of_lt (by omega) this (by omega)
              have HLbm : Hid (((B : Int) * m).natAbs < pw (201 - N1)) := by
                show _ < _
                have := HLb.out
                rw [Int.natAbs_natCast] at this
                rw [← Int.natCast_mul, Int.natAbs_natCast, hpw, Nat.mul_comm]
                exact Nat.mul_lt_mul_of_le_of_lt (by omega) this (by omega)
              have HLnb : Hid (((n : Int) * B).natAbs < pw (201 - N1)) := by
                show _ < _
                have := HLb.out
                rw [Int.natAbs_natCast] at this
                rw [← Int.natCast_mul, Int.natAbs_natCast, hpw]
                exact Nat.mul_lt_mul_of_le_of_lt (by omega) this (by omega)
              have HP : Hid (A * m ≤ 142 * A ∧ n * B ≤ 5000 * B ∧ B * m ≤ 142 * B) := ⟨by rw [Nat.mul_comm]; exact Nat.mul_le_mul_right _ hmb, Nat.mul_le_mul_right _ hn, by rw [Nat.mul_comm]; exact Nat.mul_le_mul_right _ hmb⟩
              have HPw : Hid (pw (201 - N1) = 4294967296 * pw (200 - N1)) := hpw
              clear hpw HL
              go_wp2_with fail
              refine (Mul_any (wr.heap.size + 1) ba bt (A : Int) (m : Int) (200 - N1) 1 v1 (HV1.out.fr _ (by simp)) (HV1.out.big (ba, (A : Int)) (by simp)) (HV1.out.big (bt, (m : Int)) (by simp)) HLa.out HLm.out (by omega) (by omega)).mono ?_
              rintro e v2 ⟨rfl, h2, u2⟩
              have s2 := u2.size
              have HV2 : Hid (Bk w v2 w.heap.size [(wr.heap.size + 1, (A : Int) * m), (ba, (A : Int)), (bb, (B : Int))] [wr.heap.size]) := HV1.out.upd (HV1.out.fr _ (by simp)) (by omega) h2 u2 (by simp; omega) (by simp)
              clear h2 u2 HV1
              have HV3 : Hid (Bk w (v2.alloc (.cells #[.bool false, .slice none 0 0] 45)) w.heap.size [(wr.heap.size + 1, (A : Int) * m), (ba, (A : Int)), (bb, (B : Int))] [v2.heap.size, wr.heap.size]) := HV2.out.alloc _ _
              clear HV2
              go_wp2_with fail
              obtain ⟨v3, hv3⟩ : ∃ v3, v3 = v2.alloc (.cells #[.bool false, .slice none 0 0] 45) := ⟨_, rfl⟩
              have s3 : v3.heap.size = v2.heap.size + 1 := by rw [hv3]; simp
              rw [← hv3] at HV3 ⊢
              clear hv3
              refine (B_any (n : Int) v3 (by omega) (by omega)).mono ?_
              rintro e v4 ⟨bd, rfl, hm4⟩
              have g4' := hm4.1
              have l4 := hm4.2.1.lt
              have s4 := hm4.2.2.size
              have HV4 : Hid (Bk w v4 w.heap.size [(bd, (n : Int)), (wr.heap.size + 1, (A : Int) * m), (ba, (A : Int)), (bb, (B : Int))] [v2.heap.size, wr.heap.size]) := HV3.out.made hm4
              clear hm4 HV3
              go_wp2_with fail
              refine (Mul_any v2.heap.size bd bb (n : Int) (B : Int) 1 (200 - N1) v4 (HV4.out.fr _ (by simp)) (HV4.out.big (bd, (n : Int)) (by simp)) (HV4.out.big (bb, (B : Int)) (by simp)) HLn.out HLb.out (by omega) (by omega)).mono ?_
              rintro e v5 ⟨rfl, h5, u5'⟩
              have s5 := u5'.size
              have HV5 : Hid (Bk w v5 w.heap.size [(v2.heap.size, (n : Int) * B), (wr.heap.size + 1, (A : Int) * m), (ba, (A : Int)), (bb, (B : Int))] [wr.heap.size]) := HV4.out.upd (HV4.out.fr _ (by simp)) (by omega) h5 u5' (by simp; omega) (by simp; omega)
              clear h5 u5' HV4
              go_wp2_with fail
              refine (Add_any wr.heap.size (wr.heap.size + 1) v2.heap.size ((A : Int) * m) ((n : Int) * B) (201 - N1) (201 - N1) v5 (HV5.out.fr _ (by simp)) (HV5.out.big (wr.heap.size + 1, (A : Int) * m) (by simp)) (HV5.out.big (v2.heap.size, (n : Int) * B) (by simp)) HLam.out HLnb.out (by omega) (by omega)).mono ?_
              rintro e v6 ⟨rfl, h6, u6'⟩
              obtain ⟨SA, hSA⟩ : ∃ SA : Nat, SA = A * m + n * B := ⟨_, rfl⟩
              have HSA : Hid (SA = A * m + n * B) := hSA
              rw [← Int.natCast_mul, ← Int.natCast_mul, ← Int.natCast_add, ← hSA] at h6
              have s6 := u6'.size
              have HV6 : Hid (Bk w v6 w.heap.size [(wr.heap.size, (SA : Int)), (ba, (A : Int)), (bb, (B : Int))] []) := HV5.out.upd (HV5.out.fr _ (by simp)) (by omega) h6 u6' (by simp; omega) (by simp)
              clear h6 u6' HV5 hSA
              have hk7 := (HV6.out.alloc (.bool false) (.slice none 0 0)).alloc (.bool false) (.slice none 0 0)
              go_wp2_with fail
              obtain ⟨v7, hv7⟩ : ∃ v7, v7 = ((v6.alloc (.cells #[.bool false, .slice none 0 0] 45)).alloc (.cells #[.bool false, .slice none 0 0] 45)) := ⟨_, rfl⟩
              have s7 : v7.heap.size = v6.heap.size + 2 := by rw [hv7]; simp
              have e7 : (v6.alloc (.cells #[.bool false, .slice none 0 0] 45)).heap.size = v6.heap.size + 1 := by simp
              rw [e7, ← hv7] at hk7
              rw [← hv7]
              clear hv7 e7 HV6
              have HV7 : Hid (Bk w v7 w.heap.size [(wr.heap.size, (SA : Int)), (ba, (A : Int)), (bb, (B : Int))] [v6.heap.size + 1, v6.heap.size]) := hk7
              clear hk7
              refine (B_any (m : Int) v7 (by omega) (by omega)).mono ?_
              rintro e v8 ⟨bm, rfl, hm8⟩
              have g8 := hm8.1
              have l8 := hm8.2.1.lt
              have s8 := hm8.2.2.size
              have HV8 : Hid (Bk w v8 w.heap.size [(bm, (m : Int)), (wr.heap.size, (SA : Int)), (ba, (A : Int)), (bb, (B : Int))] [v6.heap.size + 1, v6.heap.size]) := HV7.out.made hm8
              clear hm8 HV7
              go_wp2_with fail
              refine (Mul_any (v6.heap.size + 1) bb bm (B : Int) (m : Int) (200 - N1) 1 v8 (HV8.out.fr _ (by simp)) (HV8.out.big (bb, (B : Int)) (by simp)) (HV8.out.big (bm, (m : Int)) (by simp)) HLb.out HLm.out (by omega) (by omega)).mono ?_
              rintro e v9 ⟨rfl, h9, u9'⟩
              have s9 := u9'.size
              have HV9 : Hid (Bk w v9 w.heap.size [(v6.heap.size + 1, (B : Int) * m), (wr.heap.size, (SA : Int)), (ba, (A : Int))] [v6.heap.size]) := HV8.out.upd (HV8.out.fr _ (by simp)) (by omega) h9 u9' (by simp; omega) (by simp)
              clear h9 u9' HV8
              go_wp2_with fail
              refine (Add_any v6.heap.size ba (v6.heap.size + 1) (A : Int) ((B : Int) * m) (200 - N1) (201 - N1) v9 (HV9.out.fr _ (by simp)) (HV9.out.big (ba, (A : Int)) (by simp)) (HV9.out.big (v6.heap.size + 1, (B : Int) * m) (by simp)) HLa.out HLbm.out (by omega) (by omega)).mono ?_
              rintro e vA ⟨rfl, hA, uA⟩
              obtain ⟨SB, hSB⟩ : ∃ SB : Nat, SB = A + B * m := ⟨_, rfl⟩
              have HSB : Hid (SB = A + B * m) := hSB
              rw [← Int.natCast_mul, ← Int.natCast_add, ← hSB] at hA
              have sA := uA.size
              have HVA : Hid (Bk w vA w.heap.size [(v6.heap.size, (SB : Int)), (wr.heap.size, (SA : Int))] []) := HV9.out.upd (HV9.out.fr _ (by simp)) (by omega) hA uA (by simp; omega) (by simp)
              clear hA uA HV9 hSB
              have HLs : Hid (SA < pw (201 - N1) ∧ SB < pw (201 - N1)) := by
                have h1 := HLa.out
                have h2 := HLb.out
                have h3 := HP.out
                rw [Int.natAbs_natCast] at h1 h2
                have h4 := HSA.out
                have h5 := HSB.out
                have h6 := HPw.out
                exact ⟨by omega, by omega⟩
              clear HLa HLb HLm HLn HLam HLbm HLnb HP HPw
              go_wp2_with fail
              refine (refSize_any k vA (by omega) (by omega)).mono ?_
              rintro e vB ⟨rfl, rfl⟩
              rw [hka]
              go_wp2_with fail
              refine (B_any (K : Int) vB (by omega) (by omega)).mono ?_
              rintro e vC ⟨bk, rfl, hmC⟩
              have gC := hmC.1
              have lC := hmC.2.1.lt
              have sC := hmC.2.2.size
              have HVC : Hid (Bk w vC w.heap.size [(bk, (K : Int)), (v6.heap.size, (SB : Int)), (wr.heap.size, (SA : Int))] []) := HVA.out.made hmC
              clear hmC HVA
              go_wp2_with fail
              refine (Quo_any wr.heap.size wr.heap.size bk (SA : Int) (K : Int) (201 - N1) 1 vC (HVC.out.big (wr.heap.size, (SA : Int)) (by simp)).slot (HVC.out.big (wr.heap.size, (SA : Int)) (by simp)) (HVC.out.big (bk, (K : Int)) (by simp)) (by omega) (by rw [Int.natAbs_natCast]; exact HLs.out.1) HLk.out (by omega) (by omega)).mono ?_
              rintro e vD ⟨rfl, hD, uD⟩
              have sD := uD.size
              rw [← Int.ofNat_tdiv] at hD
              have HVD : Hid (Bk w vD w.heap.size [(wr.heap.size, ((SA / K : Nat) : Int)), (v6.heap.size, (SB : Int))] []) := HVC.out.upd (HVC.out.big (wr.heap.size, (SA : Int)) (by simp)).slot (by omega) hD uD (by simp; omega) (by simp)
              clear hD uD HVC
              go_wp2_with fail
              refine (refSize_any k vD (by omega) (by omega)).mono ?_
              rintro e vE ⟨rfl, rfl⟩
              rw [hka]
              go_wp2_with fail
              refine (B_any (K : Int) vE (by omega) (by omega)).mono ?_
              rintro e vF ⟨bl, rfl, hmF⟩
              have gF := hmF.1
              have lF := hmF.2.1.lt
              have sF := hmF.2.2.size
              have HVF : Hid (Bk w vF w.heap.size [(bl, (K : Int)), (wr.heap.size, ((SA / K : Nat) : Int)), (v6.heap.size, (SB : Int))] []) := HVD.out.made hmF
              clear hmF HVD
              go_wp2_with fail
              refine (Quo_any v6.heap.size v6.heap.size bl (SB : Int) (K : Int) (201 - N1) 1 vF (HVF.out.big (v6.heap.size, (SB : Int)) (by simp)).slot (HVF.out.big (v6.heap.size, (SB : Int)) (by simp)) (HVF.out.big (bl, (K : Int)) (by simp)) (by omega) (by rw [Int.natAbs_natCast]; exact HLs.out.2) HLk.out (by omega) (by omega)).mono ?_
              rintro e vG ⟨rfl, hG, uG⟩
              have sG := uG.size
              rw [← Int.ofNat_tdiv] at hG
              have HVG : Hid (Bk w vG w.heap.size [(v6.heap.size, ((SB / K : Nat) : Int)), (wr.heap.size, ((SA / K : Nat) : Int))] []) := HVF.out.upd (HVF.out.big (v6.heap.size, (SB : Int)) (by simp)).slot (by omega) hG uG (by simp; omega) (by simp)
              clear hG uG HVF
              have HR : Hid (CyR n ρ X w N1 (.pointer (some ⟨wr.heap.size, 0, none⟩)) (.pointer (some ⟨v6.heap.size, 0, none⟩)) (.int .i64 k2) vG) :=
                ⟨SA / K, SB / K, K', m, wr.heap.size, v6.heap.size, neg', rfl, rfl, by rw [HK2.out], HVG.out.big (wr.heap.size, ((SA / K : Nat) : Int)) (by simp), HVG.out.big (v6.heap.size, ((SB / K : Nat) : Int)) (by simp), by rw [HSA.out, HSB.out]; exact HGo.out, by omega, Nat.lt_of_le_of_lt (Nat.div_le_self _ _) HLs.out.1, Nat.lt_of_le_of_lt (Nat.div_le_self _ _) HLs.out.2, by omega, HVG.out.bel⟩
              have HMu : Hid (μ (.pointer (some ⟨wr.heap.size, 0, none⟩)) (.pointer (some ⟨v6.heap.size, 0, none⟩)) (.int .i64 k2) vG < μ (.pointer (some ⟨ba, 0, none⟩)) (.pointer (some ⟨bb, 0, none⟩)) (.int .i64 k) V) := by
                show _ < _
                have h1 := (HM.out _ _ _ _ ⟨N1, HR.out⟩).2 N1 HR.out
                have h2 := HNu.out
                omega
              clear HVG HM HNu HGo HK2 HSA HSB HLs HLk
              have hk2b : -20164 ≤ k2 ∧ k2 ≤ 20164 := by omega
              clear hKK
              go_wp2
              go_roundw
              case rel => exact ⟨N1, HR.out⟩
              case measure => exact HMu.out

end Go.Proofs.YtfbgblidlabipaaGreatDoor
end
