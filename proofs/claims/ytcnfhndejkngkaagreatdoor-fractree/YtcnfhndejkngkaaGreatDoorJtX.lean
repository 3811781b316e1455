import Derived.Test.YtcnfhndejkngkaaGreatDoorJtP
import Derived.Test.YtcnfhndejkngkaaGreatDoorJtV
section
/- prime.isPrime at the primes up to 23. -/
set_option linter.unusedSimpArgs false
set_option linter.unusedVariables false
set_option maxRecDepth 100000
namespace Go.Proofs.YtcnfhndejkngkaaGreatDoor
open Go.RowKit
attribute [local go_sem] Oper.semAt_some

def nine : List Int := [2, 3, 5, 7, 11, 13, 17, 19, 23]
theorem nine_pr : nine <+: pr10 := ⟨[29], rfl⟩
theorem nine_size : ∀ x ∈ nine, 2 ≤ x ∧ x ≤ 23 := by decide +kernel
theorem nine_own : ∀ N ∈ nine, ∀ x ∈ nine, N % x = 0 → N = x := by decide +kernel

set_option maxHeartbeats 1000000 in
theorem isPrime_nine (N : Int) (hN : N ∈ nine) (w : World) :
    Calls Tryz.prog 182 #[.int .i64 N] w fun e w' => e = .returned (.bool true) ∧ Below w.heap.size w w' := by
  have HN : Hid (N ∈ nine) := hN
  have hN1 := (nine_size N hN).1
  have hN2 := (nine_size N hN).2
  have hNl : decide (N < 2) = false := decide_eq_false (by omega)
  clear hN
  refine (callsIn_wide (n := 5)).1 ?_
  refine callsIn_of_wp_marks Tryz.func182 rfl trivial ?_ rfl
  simp only [Tryz.ntmps182, List.size_toArray, List.length_cons, List.length_nil, Nat.reduceAdd, Nat.reduceSub, Array.replicate_succ, Array.replicate_zero, List.push_toArray, List.append_toArray, List.nil_append, List.cons_append]
  gi_wp2
  obtain ⟨W0, hW0⟩ : ∃ W0, W0 = (w.alloc (.cells #[.int .i64 N] 3)).alloc (.cells #[.bool false] 4) := ⟨_, rfl⟩
  rw [← hW0]
  have z0 : W0.heap.size = w.heap.size + 2 := by rw [hW0]; simp
  have v0 : Vr w.heap.size (.int .i64 N) W0 := by
    rw [hW0]; exact ⟨by rw [cell_old_at _ _ _ (by simp), cell_new_at _ _ _ _ _ rfl]; rfl, by rw [frozen_old_at _ _ _ (by simp), frozen_new_at _ _ _ _ _ rfl]⟩
  have v1 : Vr (w.heap.size + 1) (.bool false) W0 := by
    rw [hW0]; exact ⟨by rw [cell_new_at _ _ _ _ _ (by simp)]; rfl, by rw [frozen_new_at _ _ _ _ _ (by simp)]⟩
  have k0 : Below w.heap.size w W0 := by rw [hW0]; exact ((Below.refl _ _).alloc (Nat.le_refl _) _).alloc (by simp) _
  clear hW0
  refine wpIn_rangeO (F := Fence.wide) (n := 5) rfl (by decide) (gf := 177) rfl trivial (enters_of Tryz.func177 (by kernel_rfl) rfl) ((rising_ten Fence.wide (5 - 1) trivial rfl (by decide)).sub nine_pr) rfl
    (fun o pre W => ow (w.heap.size + 2) o W ∧ (∀ y ∈ pre, N % y ≠ 0) ∧ Vr w.heap.size (.int .i64 N) W ∧ Vr (w.heap.size + 1) (.bool false) W ∧ Below w.heap.size w W)
    (fun c o pre W => c = .ret ∧ Vr (w.heap.size + 1) (.bool true) W ∧ Below w.heap.size w W)
    ?ab ?abp ?abx ⟨⟨by omega, by intro g e; cases e⟩, by simp, v0, v1, k0⟩
    (fun x => { tmps := #[.int .i64 N, .pointer (some ⟨w.heap.size, 0, none⟩), .pointer (some ⟨w.heap.size + 1, 0, none⟩), .int .i64 x, undef, .int .i64 N, .bool false, .int .i64 x, undef, undef, undef, undef, undef, undef, undef, undef, undef, undef, undef, undef, undef, undef, undef], defers := [] }) ?assign ?body ?hend ?stop
  case ab =>
    rintro o s A B o' ⟨h1, h2, h3, h4, h5⟩ hg ho
    exact ⟨h1.step hg ho, h2, h3.grown hg (h1.ne (by omega)), h4.grown hg (h1.ne (by omega)), h5.grown hg h5.size (fun k e => by have := h1.2 k e; omega)⟩
  case abp =>
    rintro o s A ob ⟨h1, h2, h3, h4, h5⟩
    exact ⟨h1.put ob, h2, h3.put ob (by omega), h4.put ob (by omega), h5.grown (grownBy_putObj' A _ ob) h5.size (fun k e => by cases e; omega)⟩
  case abx =>
    rintro c o s A ob ⟨h1, h2, h3⟩
    exact ⟨h1, h2.put ob (by omega), h3.grown (grownBy_putObj' A _ ob) h3.size (fun k e => by cases e; omega)⟩
  case assign =>
    intro l x W K hK
    gi_wp2
    exact hK
  case body =>
    rintro l o pre x W ⟨ho, hp, hv0, hv1, hB⟩ hog hpre hz
    have hx : x ∈ nine := hpre.subset (by simp)
    obtain ⟨hx1, hx2⟩ := nine_size x hx
    have hxb : decide ((23 : Int) < x) = false := decide_eq_false (by omega)
    have hx0 : (x == 0) = false := beq_eq_false_iff_ne.2 (by omega)
    have HP : Hid (∀ y ∈ pre, N % y ≠ 0) := hp
    have HX : Hid (x ∈ nine) := hx
    have KW : Hid (Below w.heap.size w W) := hB
    have HO : Hid (ow (w.heap.size + 2) o W) := ho
    have V0 : Hid (Vr w.heap.size (.int .i64 N) W) := hv0
    have V1 : Hid (Vr (w.heap.size + 1) (.bool false) W) := hv1
    have HOG : Hid (∀ g, o = some g → W0.heap.size + 2 ≤ g ∧ g < W.heap.size) := hog
    have q0 := hv0.c
    have q1 := hv1.c
    have q2 := hv1.f
    clear hp hx hpre hB ho hv0 hv1 hog
    by_cases hm : N % x = 0
    · have hmb : ((N % x) == 0) = true := by rw [hm]; rfl
      have hNx : N = x := nine_own N HN.out x HX.out hm
      have hNb : (N == x) = true := beq_iff_eq.2 hNx
      clear hm hNx
      gi_wp2
      refine ⟨(KP.refl _ _).setCell (fun h => ?_) _, rfl, V1.out.set _, KW.out.setCell (by simp) _⟩
      rcases h with h | h | h
      · simp at h; omega
      · simp at h; omega
      · have := (HOG.out _ h).1; simp at this; omega
    · have hmb : ((N % x) == 0) = false := beq_eq_false_iff_ne.2 hm
      have HM : Hid (N % x ≠ 0) := hm
      clear hm
      gi_wp2
      refine ⟨KP.refl _ _, HO.out, fun y hy => ?_, V0.out, V1.out, KW.out⟩
      rcases List.mem_append.1 hy with h | h
      · exact HP.out y h
      · simp at h; subst h; exact HM.out
  case hend =>
    rintro o W ⟨_, hp, _⟩
    exact hp N HN.out (by rw [Int.emod_self])
  case stop =>
    rintro c o pre W ⟨rfl, hr, hB⟩ hK
    gi_wp2
    refine ⟨by simp, .inl ⟨_, _, rfl, run_takeDeferred hK, ?_⟩⟩
    have hc5 := (hr.put (l := W0.heap.size) (.deferred none) (by omega)).c
    refine ⟨.bool true, ?_, rfl, hB.grown (grownBy_putObj' W W0.heap.size (.deferred none)) hB.size (fun k e => by cases e; omega)⟩
    simp [results, Tryz.f182, go_sem, hc5]

end Go.Proofs.YtcnfhndejkngkaaGreatDoor
end

section
/- Plain facts: lists of small primes, in order, and their products. -/
set_option linter.unusedVariables false
set_option maxRecDepth 100000
namespace Go.Proofs.YtcnfhndejkngkaaGreatDoor

def prd : List Int → Int
  | [] => 1
  | x :: t => x * prd t

/-- Primes up to 23, none ahead of a smaller one. -/
structure Sm (r : List Int) : Prop where
  mem : ∀ y ∈ r, y ∈ ([2, 3, 5, 7, 11, 13, 17, 19, 23] : List Int)
  sort : r.Pairwise (· ≤ ·)

theorem sm_pr : ∀ x ∈ ([2, 3, 5, 7, 11, 13, 17, 19, 23] : List Int), Pr x.natAbs := by
  have key : ∀ x ∈ ([2, 3, 5, 7, 11, 13, 17, 19, 23] : List Nat), ∀ d, d < 24 → d ∣ x → d = 1 ∨ d = x := by decide +kernel
  have key2 : ∀ x ∈ ([2, 3, 5, 7, 11, 13, 17, 19, 23] : List Nat), 2 ≤ x ∧ x < 24 := by decide +kernel
  have go : ∀ x ∈ ([2, 3, 5, 7, 11, 13, 17, 19, 23] : List Nat), Pr x := fun x hx =>
    ⟨(key2 x hx).1, fun d hd => key x hx d (by have := Nat.le_of_dvd (by have := key2 x hx; omega) hd; have := key2 x hx; omega) hd⟩
  intro x hx
  have h : x.natAbs ∈ ([2, 3, 5, 7, 11, 13, 17, 19, 23] : List Nat) := by
    revert x; decide +kernel
  exact go _ h

theorem sm_mul {x a b : Int} (hx : x ∈ ([2, 3, 5, 7, 11, 13, 17, 19, 23] : List Int)) (h : x ∣ a * b) : x ∣ a ∨ x ∣ b := by
  have h1 : x.natAbs ∣ a.natAbs * b.natAbs := by rw [← Int.natAbs_mul]; exact Int.natAbs_dvd_natAbs.2 h
  rcases pr_mul (sm_pr x hx) h1 with h2 | h2
  · exact .inl (Int.natAbs_dvd_natAbs.1 h2)
  · exact .inr (Int.natAbs_dvd_natAbs.1 h2)

theorem Sm.tail {x : Int} {r : List Int} (h : Sm (x :: r)) : Sm r := ⟨fun y hy => h.mem y (List.mem_cons_of_mem _ hy), (List.pairwise_cons.1 h.sort).2⟩
theorem Sm.right {d r : List Int} (h : Sm (d ++ r)) : Sm r := ⟨fun y hy => h.mem y (List.mem_append_right _ hy), (List.pairwise_append.1 h.sort).2.1⟩

theorem sm_size : ∀ x ∈ ([2, 3, 5, 7, 11, 13, 17, 19, 23] : List Int), 2 ≤ x ∧ x ≤ 23 := by decide +kernel
theorem sm_own : ∀ y ∈ ([2, 3, 5, 7, 11, 13, 17, 19, 23] : List Int), ∀ x ∈ ([2, 3, 5, 7, 11, 13, 17, 19, 23] : List Int), x ∣ y → x = y := by decide +kernel

theorem prd_pos {r : List Int} (h : Sm r) : 1 ≤ prd r := by
  induction r with
  | nil => decide
  | cons a t ih =>
    have h1 := (sm_size a (h.mem a (by simp))).1
    have h2 := ih h.tail
    show 1 ≤ a * prd t
    have := Int.mul_le_mul (show 1 ≤ a by omega) h2 (by omega) (by omega)
    omega

theorem prd_mem {r : List Int} (h : Sm r) {x : Int} (hx : x ∈ ([2, 3, 5, 7, 11, 13, 17, 19, 23] : List Int)) (hd : x ∣ prd r) : x ∈ r := by
  induction r with
  | nil =>
    have h1 := Int.le_of_dvd (by decide) hd
    have h2 := sm_size x hx
    simp only [prd] at h1
    omega
  | cons a t ih =>
    rcases sm_mul hx hd with h1 | h1
    · have := sm_own a (h.mem a (by simp)) x hx h1
      subst this; simp
    · exact List.mem_cons_of_mem _ (ih h.tail h1)

theorem prd_dvd {r : List Int} {x : Int} (hx : x ∈ r) : x ∣ prd r := by
  induction r with
  | nil => simp at hx
  | cons a t ih =>
    rcases List.mem_cons.1 hx with h | h
    · subst h; exact ⟨prd t, rfl⟩
    · exact Int.dvd_trans (ih h) ⟨a, by show a * prd t = _; rw [Int.mul_comm]⟩

/-- What x divides begins with it, if nothing below it is there. -/
theorem sm_head {r : List Int} (h : Sm r) {x : Int} (hx : x ∈ r) (hle : ∀ y ∈ r, x ≤ y) : ∃ t, r = x :: t := by
  cases r with
  | nil => simp at hx
  | cons a t =>
    have h1 := hle a (by simp)
    rcases List.mem_cons.1 hx with h2 | h2
    · exact ⟨t, by rw [h2]⟩
    · have h3 := (List.pairwise_cons.1 h.sort).1 x h2
      exact ⟨t, by rw [show a = x by omega]⟩

theorem sm_short {r : List Int} (h : Sm r) {x : Int} (hx : 2 ≤ x) (hle : ∀ y ∈ r, x ≤ y) (hp : prd r < x * x) : r = [] ∨ ∃ q, r = [q] := by
  match r, h, hle, hp with
  | [], _, _, _ => exact .inl rfl
  | [q], _, _, _ => exact .inr ⟨q, rfl⟩
  | a :: b :: t, h, hle, hp =>
    exfalso
    have h1 := hle a (by simp)
    have h2 := hle b (by simp)
    have h3 := prd_pos h.tail.tail
    have h4 : x * 1 ≤ b * prd t := Int.mul_le_mul h2 h3 (by omega) (by omega)
    have h5 : x * x ≤ a * (b * prd t) := Int.mul_le_mul h1 (by omega) (by omega) (by omega)
    have h6 : prd (a :: b :: t) = a * (b * prd t) := rfl
    omega

/-- Of what is not yet gone through nothing is smaller than the next one. -/
theorem sm_next {pre r : List Int} {x : Int} (h : Sm r) (hp : pre ++ [x] <+: ([2, 3, 5, 7, 11, 13, 17, 19, 23, 29] : List Int)) (hn : ∀ y ∈ r, y ∉ pre) : ∀ y ∈ r, x ≤ y := by
  intro y hy
  obtain ⟨t, ht⟩ := hp
  have hm : y ∈ ([2, 3, 5, 7, 11, 13, 17, 19, 23, 29] : List Int) := by
    have := h.mem y hy
    revert this
    simp only [List.mem_cons, List.not_mem_nil, or_false]
    omega
  have hs : (pre ++ [x] ++ t).Pairwise (· < ·) := by rw [ht]; decide
  rw [← ht, List.append_assoc] at hm
  rw [List.append_assoc] at hs
  have hs2 := (List.pairwise_append.1 hs).2.1
  rcases List.mem_append.1 hm with h1 | h1
  · exact absurd h1 (hn y hy)
  · rcases List.mem_cons.1 h1 with h2 | h2
    · omega
    · have := (List.pairwise_cons.1 hs2).1 y (by simpa using h2)
      omega

theorem sm_29 {pre r : List Int} {x : Int} (h : Sm r) (hp : pre ++ [x] <+: ([2, 3, 5, 7, 11, 13, 17, 19, 23, 29] : List Int)) (hn : ∀ y ∈ r, y ∉ pre) (hx : ¬ prd r < x * x) : x ∈ ([2, 3, 5, 7, 11, 13, 17, 19, 23] : List Int) := by
  have hm : x ∈ ([2, 3, 5, 7, 11, 13, 17, 19, 23, 29] : List Int) := hp.subset (by simp)
  by_cases h29 : x = 29
  · exfalso
    have h1 := sm_next h hp hn
    have h2 : r = [] := by
      cases r with
      | nil => rfl
      | cons a t =>
        have h3 := h1 a (by simp)
        have h4 := sm_size a (h.mem a (by simp))
        omega
    rw [h2, h29] at hx
    exact hx (by decide)
  · revert hm
    simp only [List.mem_cons, List.not_mem_nil, or_false]
    omega

end Go.Proofs.YtcnfhndejkngkaaGreatDoor
end

section
/- prime.appendGreat of 1, and of a prime up to 23. -/
set_option linter.unusedSimpArgs false
set_option linter.unusedVariables false
set_option maxRecDepth 100000
namespace Go.Proofs.YtcnfhndejkngkaaGreatDoor
open Go.RowKit
attribute [local go_sem] Oper.semAt_some

theorem appendGreat_one (v : Value) (w : World) :
    Calls Tryz.prog 178 #[v, .int .i64 1] w fun e w' => e = .returned v ∧ w' = w := by
  go_enter Tryz.func178, Tryz.ntmps178
  go_wp2
  go_ret
  exact ⟨rfl, rfl⟩

set_option maxHeartbeats 400000 in
theorem appendGreat_nine (N : Int) (hN : N ∈ nine) (a : Option Addr) (c B k : Nat) (l : List Int) (w : World) (hk : k = l.length) (hl : k ≤ 100) (hB : B ≤ w.heap.size) (row : w.ownsRow B 3 1 (.slice a k c) k (ints l)) :
    Calls Tryz.prog 178 #[.slice a k c, .int .i64 N] w fun e w' => ∃ g c', e = .returned (.slice (some ⟨g, 0, none⟩) (k + 1) c') ∧ w'.ownsRow B 3 1 (.slice (some ⟨g, 0, none⟩) (k + 1) c') (k + 1) (ints (l ++ [N])) ∧ Below B w w' := by
  obtain ⟨i0, hi, hz0, hz1, hz2⟩ := info_parts Tryz.infoInt
  have HI : Hid (Tryz.prog.info? 3 = some i0 ∧ i0.zero = some (.int .i64 0) ∧ i0.size = 1 ∧ i0.bytes = 8) := ⟨hi, hz0, hz1, hz2⟩
  have HRow : Hid (w.ownsRow B 3 1 (.slice a k c) k (ints l)) := row
  have HN : Hid (N ∈ nine) := hN
  have hN2 := nine_size N hN
  have hN1 : (N == 1) = false := beq_eq_false_iff_ne.2 (by omega)
  clear hi hz0 hz1 hz2 row hN hk
  go_enter Tryz.func178, Tryz.ntmps178
  go_wp2_with fail
  refine (isPrime_nine N HN.out w).mono ?_
  rintro e w1 ⟨rfl, k1⟩
  have z1 := k1.size
  have K1 : Hid (Below w.heap.size w w1) := k1
  have R1 : Hid (w1.ownsRow B 3 1 (.slice a k c) k (ints l)) := row_kept HRow.out (fun g e => k1.block g (HRow.out.lt g e).2)
  clear k1 HRow
  go_wp2_with (at_builtin; refine wpList_append_own _ rfl _ _ 65 rfl B 3 i0 (.int .i64 0) 1 8 Tryz.underlying65 HI.out.1 HI.out.2.1 HI.out.2.2.1 HI.out.2.2.2 rfl (by decide) (.slice a k c) k (ints l) rfl (R1.out.alloc _) ⟨w1.heap.size, 0, none⟩ 1 1 [.int .i64 N] rfl rfl (cell_one_new _ _ _) (by simp [Value.oneCell']) (by simp only [maxLen]; omega) (by omega) (by simp; omega) ?_; intro v' w2 hown' hgrow _; obtain ⟨g', cap', rfl⟩ := ownsRow_succ hown')
  have hb : Below B w w2 := ((K1.out.mono hB).alloc (by omega) _).grown hgrow (by simp; omega) (fun k e => (R1.out.lt k e).1)
  have HB : Hid (Below B w w2) := hb
  have HO : Hid (w2.ownsRow B 3 1 (.slice (some ⟨g', 0, none⟩) (k + 1) cap') (k + 1) (ints (l ++ [N]))) := by
    rw [ints, List.map_append]; exact hown'
  clear hb hown' hgrow
  go_wp2
  go_ret
  exact ⟨g', cap', rfl, HO.out, HB.out⟩

end Go.Proofs.YtcnfhndejkngkaaGreatDoor
end
