import Derived.Test.YtnkjadpmigpneaaGreatDoorJpS
import Derived.Deep.LoopGhost
import Derived.Test.YtnkjadpmigpneaaGreatDoorBigC
import Derived.Laws.CopyOwn
import Derived.Deep.CutBlock
import Derived.Test.YtnkjadpmigpneaaGreatDoorJpE
section
set_option linter.unusedSimpArgs false
set_option linter.unusedVariables false
set_option maxRecDepth 100000
namespace Go.Proofs.YtnkjadpmigpneaaGreatDoor
open Go.RowKit LgM
end Go.Proofs.YtnkjadpmigpneaaGreatDoor
end

section
set_option linter.unusedSimpArgs false
set_option linter.unusedVariables false
set_option maxRecDepth 100000
namespace Go.Proofs.YtnkjadpmigpneaaGreatDoor
open Go.RowKit
set_option maxHeartbeats 1000000 in
theorem Set_any (bz bx : Nat) (x : Int) (m : Nat) (w : World) (hz : Slot w bz) (hx : BigAt w bx x) (hm : x.natAbs < pw m) (hm' : m ≤ 100000000) :
    Calls Tryz.prog 59 #[.pointer (some ⟨bz, 0, none⟩), .pointer (some ⟨bx, 0, none⟩)] w fun e w' => e = .returned (.pointer (some ⟨bz, 0, none⟩)) ∧ BigAt w' bz (x) ∧ Upd bz w w' := by
  obtain ⟨xa, xl, xc, cx0, cx1, nx, _⟩ := hx.open
  have lx := hx.lt
  have HZ : Hid (Slot w bz) := hz
  have NX : Hid (NS w (.slice xa xl xc) x.natAbs) := nx
  have HM : Hid (x.natAbs < pw m) := hm
  clear hx hz nx hm
  obtain ⟨p, hp⟩ : ∃ p, p = decide (x < 0) := ⟨_, rfl⟩
  rw [← hp] at cx0
  have HXY : Hid (sgd p x.natAbs = x) := by show _ = _; rw [hp, sgd_self]
  clear hp
  go_enter Tryz.func59, Tryz.ntmps59
  go_wp2
  refine wp_region_G (fun w' => w'.cell? ⟨bx, 0, none⟩ = some (.bool p) ∧ w'.cell? ⟨bx, 1, none⟩ = some (.slice xa xl xc)) 10 (by kernel_rfl) ⟨cx0, cx1⟩ (fun hHeld => ?_)
  refine wpAnyG_take (i := 0) (v := ?v0) rfl (by kernel_rfl) (fun _ _ _ h => h) (Or.inl ⟨by rfl, ?y0⟩) hHeld ?r0
  case y0 => (intro wS hSw; obtain ⟨s1, s2⟩ := hSw; go_simp; try with_reducible rfl)
  try simp only [Act.put, List.setIfInBounds_toArray, List.set_cons_zero, List.set_cons_succ]
  refine wpAnyG_take (i := 1) (v := ?v1) rfl (by kernel_rfl) (fun _ _ _ h => h) (Or.inl ⟨by rfl, ?y1⟩) hHeld ?r1
  case y1 => (intro wS hSw; obtain ⟨s1, s2⟩ := hSw; go_simp; try with_reducible rfl)
  try simp only [Act.put, List.setIfInBounds_toArray, List.set_cons_zero, List.set_cons_succ]
  refine wpAnyG_take (i := 2) (v := ?v2) rfl (by kernel_rfl) (fun _ _ _ h => h) (Or.inl ⟨by rfl, ?y2⟩) hHeld ?r2
  case y2 => (intro wS hSw; obtain ⟨s1, s2⟩ := hSw; go_simp; try with_reducible rfl)
  try simp only [Act.put, List.setIfInBounds_toArray, List.set_cons_zero, List.set_cons_succ]
  refine wpAnyG_take (i := 3) (v := ?v3) rfl (by kernel_rfl) (fun _ _ _ h => h) (Or.inl ⟨by rfl, ?y3⟩) hHeld ?r3
  case y3 => (intro wS hSw; obtain ⟨s1, s2⟩ := hSw; go_simp; try with_reducible rfl)
  try simp only [Act.put, List.setIfInBounds_toArray, List.set_cons_zero, List.set_cons_succ]
  refine wpAnyG_take (i := 4) (v := ?v4) rfl (by kernel_rfl) (fun _ _ _ h => h) (Or.inl ⟨by rfl, ?y4⟩) hHeld ?r4
  case y4 => (intro wS hSw; obtain ⟨s1, s2⟩ := hSw; go_simp; try with_reducible rfl)
  try simp only [Act.put, List.setIfInBounds_toArray, List.set_cons_zero, List.set_cons_succ]
  refine wpAnyG_take (i := 5) (v := ?v5) rfl (by kernel_rfl) (fun _ _ _ h => h) (Or.inl ⟨by rfl, ?y5⟩) hHeld ?r5
  case y5 => (intro wS hSw; obtain ⟨s1, s2⟩ := hSw; go_simp; try with_reducible rfl)
  try simp only [Act.put, List.setIfInBounds_toArray, List.set_cons_zero, List.set_cons_succ]
  refine wpAnyG_take (i := 6) (v := ?v6) rfl (by kernel_rfl) (fun _ _ _ h => h) (Or.inl ⟨by rfl, ?y6⟩) hHeld ?r6
  case y6 => (intro wS hSw; obtain ⟨s1, s2⟩ := hSw; go_simp; try with_reducible rfl)
  try simp only [Act.put, List.setIfInBounds_toArray, List.set_cons_zero, List.set_cons_succ]
  refine wpAnyG_take (i := 7) (v := ?v7) rfl (by kernel_rfl) (fun _ _ _ h => h) (Or.inl ⟨by rfl, ?y7⟩) hHeld ?r7
  case y7 => (intro wS hSw; obtain ⟨s1, s2⟩ := hSw; go_simp; try with_reducible rfl)
  try simp only [Act.put, List.setIfInBounds_toArray, List.set_cons_zero, List.set_cons_succ]
  refine wpAnyG_take (i := 8) (v := ?v8) rfl (by kernel_rfl) (fun _ _ _ h => h) (Or.inl ⟨by rfl, ?y8⟩) hHeld ?r8
  case y8 => (intro wS hSw; obtain ⟨s1, s2⟩ := hSw; go_simp; try with_reducible rfl)
  try simp only [Act.put, List.setIfInBounds_toArray, List.set_cons_zero, List.set_cons_succ]
  refine wpAnyG_one (i := 9) rfl (by kernel_rfl) (fun K hK => ?_)
  go_simp
  refine (twin_any _ x.natAbs m _ NX.out.drew HM.out hm').mono ?_
  rintro e w1 ⟨r, rfl, hr, hb⟩
  refine hK.out _ _ ⟨(hb.cell lx).trans cx0, (hb.cell lx).trans cx1⟩ ?_
  clear hK K
  try simp only [Act.put, List.setIfInBounds_toArray, List.set_cons_zero, List.set_cons_succ]
  refine wpAnyG_last (i := 10) rfl (by kernel_rfl) (by kernel_rfl) (fun K hK => ?_)
  go_simp
  refine (give_any bz p r x.natAbs w1 (HZ.out.drew.below hb (Nat.le_refl _)) hr).mono ?_
  rw [HXY.out]
  rintro e w2 ⟨rfl, hbig, hu⟩
  refine hK.out _ _ ?_
  clear hK K
  try simp only [Act.put, List.setIfInBounds_toArray, List.set_cons_zero, List.set_cons_succ]
  refine wpAnyG_last (i := 11) rfl (by kernel_rfl) (by kernel_rfl) (fun K hK => ?_)
  go_simp
  refine hK.out _ _ ?_
  clear hK K
  try simp only [Act.put, List.setIfInBounds_toArray, List.set_cons_zero, List.set_cons_succ]
  refine wpAnyG_done (by kernel_rfl) ?_ _
  go_wp2
  go_ret
  exact ⟨rfl, hbig, (Upd.refl bz w).drew.trans (Upd.then_below hb hu)⟩
end Go.Proofs.YtnkjadpmigpneaaGreatDoor
end

section
set_option linter.unusedSimpArgs false
set_option linter.unusedVariables false
set_option maxRecDepth 100000
namespace Go.Proofs.YtnkjadpmigpneaaGreatDoor
open Go.RowKit
structure Bits (a L : Nat) : Prop where
  lt : a < 2 ^ L
  ge : a ≠ 0 → 1 ≤ L ∧ 2 ^ (L - 1) ≤ a
theorem pw_two_pow (k : Nat) : pw k = 2 ^ (32 * k) := by
  induction k with
  | zero => rfl
  | succ n ih => show 4294967296 * pw n = _; rw [ih, Nat.mul_add, Nat.pow_add, Nat.mul_comm]
theorem half_step (x n : Nat) (h : x / 2 ^ n ≠ 0) : 2 ^ n ≤ x := by
  rcases Nat.lt_or_ge x (2 ^ n) with c | c
  · exact absurd (Nat.div_eq_of_lt c) h
  · exact c
theorem half_le (x n : Nat) (hx : x < 4294967296) (h : x / 2 ^ n ≠ 0) : n < 32 := by
  rcases Nat.lt_or_ge n 32 with c | c
  · exact c
  · have h1 := half_step x n h
    have h2 : 2 ^ 32 ≤ 2 ^ n := Nat.pow_le_pow_right (by omega) c
    omega
set_option maxHeartbeats 400000 in
theorem length_core (l : List Nat) (aa : Option Addr) (g cap : Nat) (w : World) (hl : 0 < l.length) (hl2 : l.length ≤ 100000000) (hs : ∀ x ∈ l, x < 4294967296) (ha : aa = some ⟨g, 0, none⟩)
    (hc : w.cell? ⟨g, l.length - 1, none⟩ = some (.int .u32 (l.getD (l.length - 1) 0 : Int))) :
    Calls Tryz.prog 65 #[.slice aa l.length cap] w fun e w' => ∃ t : Nat, e = .returned (.int .i64 (((l.length - 1) * 32 + t : Nat) : Int)) ∧ Bits (l.getD (l.length - 1) 0) t ∧ t ≤ 32 ∧ w' = w := by
  subst ha
  have sx := List.getD_lt_of hs (l.length - 1)
  obtain ⟨x, hx⟩ : ∃ x, x = l.getD (l.length - 1) 0 := ⟨_, rfl⟩
  rw [← hx] at hc sx ⊢
  obtain ⟨n, hn⟩ : ∃ n, l.length = n + 1 := ⟨l.length - 1, by omega⟩
  rw [hn] at hc hl2 ⊢
  simp only [Nat.add_sub_cancel] at hc ⊢
  have t0 : (((n + 1 : Nat) : Int) == 0) = false := beq_eq_false_iff_ne.2 (by omega)
  clear hx hn hl hs
  go_enter Tryz.func65, Tryz.ntmps65
  go_wp2
  go_loop [3, 4] (fun c t => ∃ k : Nat, c = .int .i64 k ∧ t = .int .u32 ((x / 2 ^ k : Nat) : Int) ∧ k ≤ 32 ∧ (0 < k → x / 2 ^ (k - 1) ≠ 0)) (fun c _ => 33 - (intOf c).toNat)
  case atStart => exact ⟨0, rfl, by simp, by omega, by omega⟩
  case round =>
    obtain ⟨k, rfl, rfl, hk, hz⟩ := hrel
    have HZ : Hid (0 < k → x / 2 ^ (k - 1) ≠ 0) := hz
    clear hz
    obtain ⟨y, hy⟩ : ∃ y, y = x / 2 ^ k := ⟨_, rfl⟩
    rw [← hy]
    have HY : Hid (y = x / 2 ^ k) := hy
    have hyb : y ≤ x := by rw [hy]; exact Nat.div_le_self ..
    clear hy
    by_cases h0 : y = 0
    · have t1 : ((y : Int) != 0) = false := by simp [h0]
      have HF : Hid (Bits x k) := by
        refine ⟨?_, fun hx0 => ?_⟩
        · have := HY.out
          rw [h0] at this
          exact (Nat.div_eq_zero_iff_lt (Nat.two_pow_pos k)).1 this.symm
        · rcases Nat.eq_zero_or_pos k with e | e
          · subst e; have := HY.out; simp at this; omega
          · exact ⟨e, half_step x _ (HZ.out e)⟩
      clear h0
      go_wp2
      go_ret
      exact ⟨k, ret_int (by omega), HF.out, hk, rfl⟩
    · have t1 : ((y : Int) != 0) = true := by rw [bne_iff_ne]; omega
      have hk2 : k < 32 := half_le x k sx (by rw [← HY.out]; exact h0)
      have HH : Hid (y / 2 = x / 2 ^ (k + 1)) := by show _ = _; rw [HY.out, Nat.div_div_eq_div_mul, Nat.pow_succ]
      have HN : Hid (x / 2 ^ k ≠ 0) := by show _ ≠ _; rw [← HY.out]; exact h0
      clear h0
      go_wp2
      go_round
      case rel => exact ⟨k + 1, by go_num, by rw [← HH.out]; simp, by omega, fun _ => by simpa using HN.out⟩
      case measure => simp [intOf]; omega
end Go.Proofs.YtnkjadpmigpneaaGreatDoor
end

section
set_option linter.unusedSimpArgs false
set_option linter.unusedVariables false
set_option maxRecDepth 100000
namespace Go.Proofs.YtnkjadpmigpneaaGreatDoor
open Go.RowKit
theorem val_drop_shift (l : List Nat) (h : ∀ x ∈ l, x < 4294967296) (n ww s : Nat) (hn : n = 32 * ww + s) (hw : ww ≤ l.length) : val l / 2 ^ n = val (l.drop ww) / 2 ^ s := by
  have e : val l = val (l.take ww) + pw ww * val (l.drop ww) := by
    have := val_append (l.take ww) (l.drop ww)
    rwa [List.take_append_drop, List.length_take, Nat.min_eq_left hw] at this
  have ht := take_lt l ww hw h
  rw [hn, Nat.pow_add, ← pw_two_pow, ← Nat.div_div_eq_div_mul, e, Nat.add_mul_div_left _ _ (pw_pos ww), Nat.div_eq_of_lt ht, Nat.zero_add]
end Go.Proofs.YtnkjadpmigpneaaGreatDoor
end

section
set_option linter.unusedSimpArgs false
set_option linter.unusedVariables false
set_option maxRecDepth 100000
namespace Go.Proofs.YtnkjadpmigpneaaGreatDoor.MathD
structure Kg (u v1 gs q r : Nat) : Prop where
  lin : q * v1 + r = u
  up : gs ≤ q
end Go.Proofs.YtnkjadpmigpneaaGreatDoor.MathD
end

section
set_option linter.unusedSimpArgs false
set_option linter.unusedVariables false
set_option maxRecDepth 100000
namespace Go.Proofs.YtnkjadpmigpneaaGreatDoor
open Go.RowKit
theorem Below.alloc_self' (w : World) (o : Obj) : Below w.heap.size w (w.alloc o) := Below.alloc (Below.refl _ _) (Nat.le_refl _) _
theorem NS.nil (w : World) : NS w (.slice none 0 0) 0 := ⟨[], ⟨by simp, Or.inl ⟨rfl, rfl⟩⟩, rfl, Or.inl rfl⟩
end Go.Proofs.YtnkjadpmigpneaaGreatDoor
end

section
set_option linter.unusedSimpArgs false
set_option linter.unusedVariables false
set_option maxRecDepth 100000
namespace Go.Proofs.YtnkjadpmigpneaaGreatDoor.MathE
structure KS (A V n m k : Nat) (P Y Q : List Nat) : Prop where
  lp : P.length = k
  ly : Y.length = n
  lq : Q.length + k = m + 1
  sp : ∀ x ∈ P, x < 4294967296
  sy : ∀ x ∈ Y, x < 4294967296
  sq : ∀ x ∈ Q, x < 4294967296
  lt : val Y < V
  eq : A = val Q * (pw k * V) + (val P + pw k * val Y)
end Go.Proofs.YtnkjadpmigpneaaGreatDoor.MathE
end

section
set_option linter.unusedSimpArgs false
set_option linter.unusedVariables false
set_option maxRecDepth 100000
namespace Go.Proofs.YtnkjadpmigpneaaGreatDoor
open Go.RowKit
end Go.Proofs.YtnkjadpmigpneaaGreatDoor
end

section
set_option linter.unusedSimpArgs false
set_option linter.unusedVariables false
set_option maxRecDepth 100000
namespace Go.Proofs.YtnkjadpmigpneaaGreatDoor
open Go.RowKit
structure Upd2 (b c : Nat) (w w' : World) : Prop where
  os : w'.os = w.os
  tape : w'.tape = w.tape
  output : w'.output = w.output
  size : w.heap.size ≤ w'.heap.size
  block : ∀ k, k < w.heap.size → k ≠ b → k ≠ c → w'.heap[k]? = w.heap[k]?
end Go.Proofs.YtnkjadpmigpneaaGreatDoor
end

section
set_option linter.unusedSimpArgs false
set_option linter.unusedVariables false
set_option maxRecDepth 100000
namespace Go.Proofs.YtnkjadpmigpneaaGreatDoor
open Go.RowKit
structure IntAt (w : World) (b o : Nat) (n : Int) : Prop where
  lt : b < w.heap.size
  ex : ∃ s, w.cell? ⟨b, o, none⟩ = some (.bool (decide (n < 0))) ∧ w.cell? ⟨b, o + 1, none⟩ = some s ∧ NS w s n.natAbs
end Go.Proofs.YtnkjadpmigpneaaGreatDoor
end
