/- prime.isPrime at the primes up to 23. -/
import Derived.Test.YtpgedkdaflgfoafGreatDoorJoinG
set_option linter.unusedSimpArgs false
set_option linter.unusedVariables false
set_option maxRecDepth 100000
namespace Go.Proofs.YtpgedkdaflgfoafGreatDoor
open Go.RowKit
attribute [local go_sem] Oper.semAt_some

def nine : List Int := [2, 3, 5, 7, 11, 13, 17, 19, 23]
theorem nine_pr : nine <+: pr10 := ⟨[29], rfl⟩
theorem nine_size : ∀ x ∈ nine, 2 ≤ x ∧ x ≤ 23 := by decide +kernel
theorem nine_own : ∀ N ∈ nine, ∀ x ∈ nine, N % x = 0 → N = x := by decide +kernel

set_option maxHeartbeats 1000000 in
theorem isPrime_nine (N : Int) (hN : N ∈ nine) (w : World) :
    Calls Tryz.prog 147 #[.int .i64 N] w fun e w' => e = .returned (.bool true) ∧ Below w.heap.size w w' := by
  have HN : Hid (N ∈ nine) := hN
  have hN1 := (nine_size N hN).1
  have hN2 := (nine_size N hN).2
  have hNl : decide (N < 2) = false := decide_eq_false (by omega)
  clear hN
  refine (callsIn_wide (n := 5)).1 ?_
  refine callsIn_of_wp_marks Tryz.func147 rfl trivial ?_ rfl
  simp only [Tryz.ntmps147, List.size_toArray, List.length_cons, List.length_nil, Nat.reduceAdd, Nat.reduceSub, Array.replicate_succ, Array.replicate_zero, List.push_toArray, List.append_toArray, List.nil_append, List.cons_append]
  gi_wp2
  obtain ⟨W0, hW0⟩ : ∃ W0, W0 = (w.alloc (.cells #[.int .i64 N] 3)).alloc (.cells #[.bool false] 4) := ⟨_, rfl⟩
  rw [← hW0]
  have z0 : W0.heap.size = w.heap.size + 2 := by rw [hW0]; simp
  have v0 : Vr w.heap.size (.int .i64 N) W0 := by
    rw [hW0]; exact ⟨by rw [cell_old_at _ _ _ (by simp), cell_new_at _ _ _ _ _ rfl]; rfl, by rw [frozen_old_at _ _ _ (by simp), frozen_new_at _ _ _ _ _ rfl]⟩
  have v1 : Vr (w.heap.size + 1) (.bool false) W0 := by
    rw [hW0]; exact ⟨by rw [cell_new_at _ _ _ _ _ (by simp)]; rfl, by rw [frozen_new_at _ _ _ _ _ (by simp)]⟩
  have k0 : Below w.heap.size w W0 := by rw [hW0]; exact ((Below.refl _ _).alloc (Nat.le_refl _) _).alloc (by simp) _
  clear hW0
  refine wpIn_rangeO (F := Fence.wide) (n := 5) rfl (by decide) (gf := 138) rfl trivial (enters_of Tryz.func138 (by kernel_rfl) rfl) ((rising_ten Fence.wide (5 - 1) trivial rfl (by decide)).sub nine_pr) rfl
    (fun o pre W => ow (w.heap.size + 2) o W ∧ (∀ y ∈ pre, N % y ≠ 0) ∧ Vr w.heap.size (.int .i64 N) W ∧ Vr (w.heap.size + 1) (.bool false) W ∧ Below w.heap.size w W)
    (fun c o pre W => c = .ret ∧ Vr (w.heap.size + 1) (.bool true) W ∧ Below w.heap.size w W)
    ?ab ?abp ?abx ⟨⟨by omega, by intro g e; cases e⟩, by simp, v0, v1, k0⟩
    (fun x => { tmps := #[.int .i64 N, .pointer (some ⟨w.heap.size, 0, none⟩), .pointer (some ⟨w.heap.size + 1, 0, none⟩), .int .i64 x, undef, .int .i64 N, .bool false, .int .i64 x, undef, undef, undef, undef, undef, undef, undef, undef, undef, undef, undef, undef, undef, undef, undef], defers := [] }) ?assign ?body ?hend ?stop
  case ab =>
    rintro o s A B o' ⟨h1, h2, h3, h4, h5⟩ hg ho
    exact ⟨h1.step hg ho, h2, h3.grown hg (h1.ne (by omega)), h4.grown hg (h1.ne (by omega)), h5.grown hg h5.size (fun k e => by have := h1.2 k e; omega)⟩
  case abp =>
    rintro o s A ob ⟨h1, h2, h3, h4, h5⟩
    exact ⟨h1.put ob, h2, h3.put ob (by omega), h4.put ob (by omega), h5.grown (grownBy_putObj' A _ ob) h5.size (fun k e => by cases e; omega)⟩
  case abx =>
    rintro c o s A ob ⟨h1, h2, h3⟩
    exact ⟨h1, h2.put ob (by omega), h3.grown (grownBy_putObj' A _ ob) h3.size (fun k e => by cases e; omega)⟩
  case assign =>
    intro l x W K hK
    gi_wp2
    exact hK
  case body =>
    rintro l o pre x W ⟨ho, hp, hv0, hv1, hB⟩ hog hpre hz
    have hx : x ∈ nine := hpre.subset (by simp)
    obtain ⟨hx1, hx2⟩ := nine_size x hx
    have hxb : decide ((23 : Int) < x) = false := decide_eq_false (by omega)
    have hx0 : (x == 0) = false := beq_eq_false_iff_ne.2 (by omega)
    have HP : Hid (∀ y ∈ pre, N % y ≠ 0) := hp
    have HX : Hid (x ∈ nine) := hx
    have KW : Hid (Below w.heap.size w W) := hB
    have HO : Hid (ow (w.heap.size + 2) o W) := ho
    have V0 : Hid (Vr w.heap.size (.int .i64 N) W) := hv0
    have V1 : Hid (Vr (w.heap.size + 1) (.bool false) W) := hv1
    have HOG : Hid (∀ g, o = some g → W0.heap.size + 2 ≤ g ∧ g < W.heap.size) := hog
    have q0 := hv0.c
    have q1 := hv1.c
    have q2 := hv1.f
    clear hp hx hpre hB ho hv0 hv1 hog
    by_cases hm : N % x = 0
    · have hmb : ((N % x) == 0) = true := by rw [hm]; rfl
      have hNx : N = x := nine_own N HN.out x HX.out hm
      have hNb : (N == x) = true := beq_iff_eq.2 hNx
      clear hm hNx
      gi_wp2
      refine ⟨(KP.refl _ _).setCell (fun h => ?_) _, rfl, V1.out.set _, KW.out.setCell (by simp) _⟩
      rcases h with h | h | h
      · simp at h; omega
      · simp at h; omega
      · have := (HOG.out _ h).1; simp at this; omega
    · have hmb : ((N % x) == 0) = false := beq_eq_false_iff_ne.2 hm
      have HM : Hid (N % x ≠ 0) := hm
      clear hm
      gi_wp2
      refine ⟨KP.refl _ _, HO.out, fun y hy => ?_, V0.out, V1.out, KW.out⟩
      rcases List.mem_append.1 hy with h | h
      · exact HP.out y h
      · simp at h; subst h; exact HM.out
  case hend =>
    rintro o W ⟨_, hp, _⟩
    exact hp N HN.out (by rw [Int.emod_self])
  case stop =>
    rintro c o pre W ⟨rfl, hr, hB⟩ hK
    gi_wp2
    refine ⟨by simp, .inl ⟨_, _, rfl, run_takeDeferred hK, ?_⟩⟩
    have hc5 := (hr.put (l := W0.heap.size) (.deferred none) (by omega)).c
    refine ⟨.bool true, ?_, rfl, hB.grown (grownBy_putObj' W W0.heap.size (.deferred none)) hB.size (fun k e => by cases e; omega)⟩
    simp [results, Tryz.f147, go_sem, hc5]

end Go.Proofs.YtpgedkdaflgfoafGreatDoor
