/- FormClasses, the law's own walk: out of what is asked of the example and of Classes. -/
import Derived.Test.YtijkanilpblogaeQfF
import Derived.Test.YtijkanilpblogaeQfVd
set_option linter.unusedSimpArgs false
set_option linter.unusedVariables false
set_option maxRecDepth 100000
namespace Go.Proofs.Ytijkanilpblogae
open Go.RowKit

/-- The fault of Classes. -/
def cfault (d : Int) : Int × Int := if 0 ≤ d ∨ d < -200000 then (3, 0) else if 1 < d % 4 then (7, 0) else (0, 0)
theorem qcells_cons (f : Qf) (l : List Qf) : qcells (f :: l) = f.l ++ qcells l := by simp [qcells]
theorem qcells_at : ∀ (l : List Qf) (i : Nat) (f : Qf), l[i]? = some f → (qcells l)[i * 3]? = some (.int .i64 f.a) ∧ (qcells l)[i * 3 + 1]? = some (.int .i64 f.b) ∧ (qcells l)[i * 3 + 2]? = some (.int .i64 f.c)
  | [], i, f, h => by simp at h
  | g :: l, 0, f, h => by
    simp at h; subst h
    rw [qcells_cons]; simp
  | g :: l, i + 1, f, h => by
    have ih := qcells_at l i f (by simpa using h)
    rw [qcells_cons]
    have e : ∀ k, (Qf.l g ++ qcells l)[(i + 1) * 3 + k]? = (qcells l)[i * 3 + k]? := fun k => by
      rw [List.getElem?_append_right (by simp; omega)]
      congr 1
      simp; omega
    exact ⟨(e 0).trans ih.1, (e 1).trans ih.2.1, (e 2).trans ih.2.2⟩
theorem qcells_len (l : List Qf) : (qcells l).length = l.length * 3 := by
  induction l with
  | nil => rfl
  | cons f l ih => rw [qcells_cons, List.length_append, ih]; simp; omega
theorem top_one {d : Int} {n m : Nat} (h1 : 3 * (n : Int) * n ≤ -d) (h2 : -d < 3 * ((n : Int) + 1) * ((n : Int) + 1)) (k1 : 3 * (m : Int) * m ≤ -d) (k2 : -d < 3 * ((m : Int) + 1) * ((m : Int) + 1)) : n = m := by
  have key : ∀ x y : Nat, x < y → 3 * ((x : Int) + 1) * ((x : Int) + 1) ≤ 3 * (y : Int) * y := fun x y h => by
    have h3 : ((x : Int) + 1) * ((x : Int) + 1) ≤ (y : Int) * y := Int.mul_le_mul (by omega) (by omega) (by omega) (by omega)
    rw [Int.mul_assoc, Int.mul_assoc]
    omega
  rcases Nat.lt_trichotomy n m with h | h | h
  · have := key n m h; omega
  · exact h
  · have := key m n h; omega

/-- What Classes answers. -/
def ClassesOut (d : Int) (w : World) (e : Ending) (w' : World) : Prop :=
  ∃ (a : Option Addr) (c : Nat) (l : List Qf), e = .returned (.tuple #[.slice a l.length c, ffv (cfault d)]) ∧ (cfault d ≠ (0, 0) → l = []) ∧
    (cfault d = (0, 0) → ∃ n : Nat, (3 * (n : Int) * n ≤ -d ∧ -d < 3 * ((n : Int) + 1) * ((n : Int) + 1)) ∧ l = classesTo d n) ∧
    (l ≠ [] → ∃ b : Nat, a = some ⟨b, 0, none⟩ ∧ b < w'.heap.size ∧ ∀ j u, (qcells l)[j]? = some u → w'.cell? ⟨b, j, none⟩ = some u) ∧ Below w.heap.size w w'

/-- What is asked of the example and of Classes. -/
structure ClassesIs (Bg : World → Prop) : Prop where
  keep : ∀ w w' : World, Bg w → Below w.heap.size w w' → Bg w'
  begun : ∀ w : World, Bg w → Calls Try.prog 9 #[] w fun e w' => e = .returned (.bool true) ∧ Below w.heap.size w w'
  classes : ∀ (d : Int) (w : World), Calls Try.prog 8 #[.int .i64 d] w (ClassesOut d w)

set_option maxHeartbeats 4000000 in
theorem fc_start (Bg : World → Prop) (G : ClassesIs Bg) (d : Int) (w : World) (hbg : Bg w) :
    Calls Try.prog 3 #[.int .i64 d] w fun e w' => e = .returned (.bool true) ∧ Below w.heap.size w w' := by
  have HG : Hid (ClassesIs Bg) := G
  have HBG : Hid (Bg w) := hbg
  clear G hbg
  obtain ⟨fc, fd, hcf⟩ : ∃ fc fd, cfault d = (fc, fd) := ⟨_, _, rfl⟩
  have HCF : Hid (cfault d = (fc, fd)) := hcf
  have HC : Hid (∀ w, Calls Try.prog 8 #[.int .i64 d] w fun e w' => ∃ (a : Option Addr) (c : Nat) (l : List Qf), e = .returned (.tuple #[.slice a l.length c, .agg #[.int .i64 fc, .int .i64 fd]]) ∧ (cfault d ≠ (0, 0) → l = []) ∧
    (cfault d = (0, 0) → ∃ n : Nat, (3 * (n : Int) * n ≤ -d ∧ -d < 3 * ((n : Int) + 1) * ((n : Int) + 1)) ∧ l = classesTo d n) ∧
    (l ≠ [] → ∃ b : Nat, a = some ⟨b, 0, none⟩ ∧ b < w'.heap.size ∧ ∀ j u, (qcells l)[j]? = some u → w'.cell? ⟨b, j, none⟩ = some u) ∧ Below w.heap.size w w') := fun w => by
    have h := HG.out.classes d w
    unfold ClassesOut at h
    rw [hcf] at h
    rw [hcf]
    exact h
  clear hcf
  go_enter Try.func3, Try.ntmps3
  go_wp2_with fail
  refine (HC.out _).mono ?_
  rintro e w1 ⟨a, c, l, rfl, hz, hl, hcells, k1⟩
  have HZ : Hid ((cfault d ≠ (0, 0) → l = []) ∧ (cfault d = (0, 0) → ∃ n : Nat, (3 * (n : Int) * n ≤ -d ∧ -d < 3 * ((n : Int) + 1) * ((n : Int) + 1)) ∧ l = classesTo d n)) := ⟨hz, hl⟩
  have HK1 : Hid (Below w.heap.size w (w1.alloc (.cells #[.int .i64 fc, .int .i64 fd] 24))) := k1.trans ((al1 w1 _).mono k1.size)
  have HF1 : Hid (Sv w1.heap.size fc fd (w1.alloc (.cells #[.int .i64 fc, .int .i64 fd] 24))) := sv_new0 w1 _ _ rfl _ _
  have HL1 : Hid (l ≠ [] → ∃ b : Nat, a = some ⟨b, 0, none⟩ ∧ b < w1.heap.size ∧ ∀ j u, (qcells l)[j]? = some u → w1.cell? ⟨b, j, none⟩ = some u) := hcells
  clear hz hl hcells k1 HC
  go_wp2_with fail
  refine (HG.out.begun _ (HG.out.keep _ _ HBG.out HK1.out)).mono ?_
  rintro e w2 ⟨rfl, k2⟩
  have HK2 : Hid (Below w.heap.size w w2) := HK1.out.trans (k2.mono HK1.out.size)
  have F2 := HF1.out.below k2
  have HF2 : Hid (Sv w1.heap.size fc fd w2) := F2
  have k12 : Below w1.heap.size w1 w2 := (al1 w1 _).trans (k2.mono (by simp))
  have HL2 : Hid (l ≠ [] → ∃ b : Nat, a = some ⟨b, 0, none⟩ ∧ b < w2.heap.size ∧ ∀ j u, (qcells l)[j]? = some u → w2.cell? ⟨b, j, none⟩ = some u) := fun h => by
    obtain ⟨b, h1, h2, h3⟩ := HL1.out h
    exact ⟨b, h1, Nat.lt_of_lt_of_le h2 k12.size, fun j u hu => (k12.cell (p := ⟨b, j, none⟩) h2).trans (h3 j u hu)⟩
  have f0 := F2.c0
  have f1 := F2.c1
  have hz2 := F2.lt
  clear k2 HK1 HF1 HL1 F2 k12
  by_cases hr : 0 ≤ d ∨ d < -200000
  · obtain ⟨rfl, rfl⟩ : fc = 3 ∧ fd = 0 := by have := HCF.out; unfold cfault at this; rw [if_pos hr] at this; simp at this; omega
    obtain rfl : l = [] := HZ.out.1 (by rw [HCF.out]; simp)
    rcases hr with hr | hr
    · have hb1 : decide (0 ≤ d) = true := decide_eq_true hr
      go_wp2_with fail
      refine wp_region_G (fun W => W.cell? ⟨w1.heap.size, 0, none⟩ = some (.int .i64 3) ∧ W.cell? ⟨w1.heap.size, 1, none⟩ = some (.int .i64 0)) 8 (by kernel_rfl) ⟨f0, f1⟩ (fun hHeld => ?_)
      refine wpAnyG_take (i := 0) (v := ?v0x1) rfl (by kernel_rfl) (fun _ _ _ h => h) (Or.inl ⟨by rfl, ?y0x1⟩) hHeld ?r0x1
      case y0x1 => (intro wS hSw; obtain ⟨s1, s2⟩ := hSw; go_simp; try with_reducible rfl)
      try simp only [Act.put, List.setIfInBounds_toArray, List.set_cons_zero, List.set_cons_succ]
      refine wpAnyG_one (i := 1) rfl (by kernel_rfl) (fun K hK => ?_)
      go_simp
      refine (F_any 3 0 _).mono ?_
      rintro e w3 ⟨rfl, k3⟩
      replace k3 := ((Below.refl _ _).drew).trans k3
      have F3 := HF2.out.below k3
      have HK3 : Hid (Below w.heap.size w w3) := HK2.out.trans (k3.mono HK2.out.size)
      refine hK.out _ _ ⟨F3.c0, F3.c1⟩ ?_
      clear hK K
      try simp only [Act.put, List.setIfInBounds_toArray, List.set_cons_zero, List.set_cons_succ]
      clear hHeld
      have hHeld : (fun W : World => W.cell? ⟨w1.heap.size, 0, none⟩ = some (.int .i64 3) ∧ W.cell? ⟨w1.heap.size, 1, none⟩ = some (.int .i64 0)) w3 := ⟨F3.c0, F3.c1⟩
      refine wpAnyG_take (i := 2) (v := .bool true) rfl (by kernel_rfl) (fun _ _ _ h => h) (Or.inl ⟨by kernel_rfl, ?y2x2⟩) hHeld ?r2x2
      case y2x2 => (intro wS hSw; (go_simp; try rfl))
      try simp only [Act.put, List.setIfInBounds_toArray, List.set_cons_zero, List.set_cons_succ]
      refine wpAnyG_take (i := 3) (v := .bool true) rfl (by kernel_rfl) (fun _ _ _ h => h) (Or.inl ⟨by kernel_rfl, ?y3x3⟩) hHeld ?r3x3
      case y3x3 => (intro wS hSw; (go_simp; try rfl))
      try simp only [Act.put, List.setIfInBounds_toArray, List.set_cons_zero, List.set_cons_succ]
      refine wpAnyG_take (i := 4) (v := ?v4x4) rfl (by kernel_rfl) (fun _ _ _ h => h) (Or.inl ⟨by kernel_rfl, ?y4x4⟩) hHeld ?r4x4
      case y4x4 => (intro wS hSw; have s1 := hSw; go_simp; try with_reducible rfl)
      try simp only [Act.put, List.setIfInBounds_toArray, List.set_cons_zero, List.set_cons_succ]
      refine wpAnyG_take (i := 5) (v := .int .i64 0) rfl (by kernel_rfl) (fun _ _ _ h => h) (Or.inl ⟨by kernel_rfl, ?y5x5⟩) hHeld ?r5x5
      case y5x5 => (intro wS hSw; (go_simp; try rfl))
      try simp only [Act.put, List.setIfInBounds_toArray, List.set_cons_zero, List.set_cons_succ]
      refine wpAnyG_take (i := 6) (v := .bool true) rfl (by kernel_rfl) (fun _ _ _ h => h) (Or.inl ⟨by kernel_rfl, ?y6x6⟩) hHeld ?r6x6
      case y6x6 => (intro wS hSw; (go_simp; try rfl))
      try simp only [Act.put, List.setIfInBounds_toArray, List.set_cons_zero, List.set_cons_succ]
      refine wpAnyG_take (i := 7) (v := .bool true) rfl (by kernel_rfl) (fun _ _ _ h => h) (Or.inl ⟨by kernel_rfl, ?y7x7⟩) hHeld ?r7x7
      case y7x7 => (intro wS hSw; (go_simp; try rfl))
      try simp only [Act.put, List.setIfInBounds_toArray, List.set_cons_zero, List.set_cons_succ]
      refine wpAnyG_last (i := 8) rfl (by kernel_rfl) (by kernel_rfl) (fun K hK => ?_)
      go_simp
      refine hK.out _ _ ?_
      clear hK K
      try simp only [Act.put, List.setIfInBounds_toArray, List.set_cons_zero, List.set_cons_succ]
      refine wpAnyG_done (by kernel_rfl) ?_ _
      clear hHeld F3 k3
      go_wp2_with fail
      go_ret
      exact ⟨rfl, HK3.out⟩
    · have hb1 : decide (0 ≤ d) = false := decide_eq_false (by omega)
      have hb2 : decide (d < -200000) = true := decide_eq_true hr
      go_wp2_with fail
      refine wp_region_G (fun W => W.cell? ⟨w1.heap.size, 0, none⟩ = some (.int .i64 3) ∧ W.cell? ⟨w1.heap.size, 1, none⟩ = some (.int .i64 0)) 8 (by kernel_rfl) ⟨f0, f1⟩ (fun hHeld => ?_)
      refine wpAnyG_take (i := 0) (v := ?v0x8) rfl (by kernel_rfl) (fun _ _ _ h => h) (Or.inl ⟨by rfl, ?y0x8⟩) hHeld ?r0x8
      case y0x8 => (intro wS hSw; obtain ⟨s1, s2⟩ := hSw; go_simp; try with_reducible rfl)
      try simp only [Act.put, List.setIfInBounds_toArray, List.set_cons_zero, List.set_cons_succ]
      refine wpAnyG_one (i := 1) rfl (by kernel_rfl) (fun K hK => ?_)
      go_simp
      refine (F_any 3 0 _).mono ?_
      rintro e w3 ⟨rfl, k3⟩
      replace k3 := ((Below.refl _ _).drew).trans k3
      have F3 := HF2.out.below k3
      have HK3 : Hid (Below w.heap.size w w3) := HK2.out.trans (k3.mono HK2.out.size)
      refine hK.out _ _ ⟨F3.c0, F3.c1⟩ ?_
      clear hK K
      try simp only [Act.put, List.setIfInBounds_toArray, List.set_cons_zero, List.set_cons_succ]
      clear hHeld
      have hHeld : (fun W : World => W.cell? ⟨w1.heap.size, 0, none⟩ = some (.int .i64 3) ∧ W.cell? ⟨w1.heap.size, 1, none⟩ = some (.int .i64 0)) w3 := ⟨F3.c0, F3.c1⟩
      refine wpAnyG_take (i := 2) (v := .bool true) rfl (by kernel_rfl) (fun _ _ _ h => h) (Or.inl ⟨by kernel_rfl, ?y2x9⟩) hHeld ?r2x9
      case y2x9 => (intro wS hSw; (go_simp; try rfl))
      try simp only [Act.put, List.setIfInBounds_toArray, List.set_cons_zero, List.set_cons_succ]
      refine wpAnyG_take (i := 3) (v := .bool true) rfl (by kernel_rfl) (fun _ _ _ h => h) (Or.inl ⟨by kernel_rfl, ?y3x10⟩) hHeld ?r3x10
      case y3x10 => (intro wS hSw; (go_simp; try rfl))
      try simp only [Act.put, List.setIfInBounds_toArray, List.set_cons_zero, List.set_cons_succ]
      refine wpAnyG_take (i := 4) (v := ?v4x11) rfl (by kernel_rfl) (fun _ _ _ h => h) (Or.inl ⟨by kernel_rfl, ?y4x11⟩) hHeld ?r4x11
      case y4x11 => (intro wS hSw; have s1 := hSw; go_simp; try with_reducible rfl)
      try simp only [Act.put, List.setIfInBounds_toArray, List.set_cons_zero, List.set_cons_succ]
      refine wpAnyG_take (i := 5) (v := .int .i64 0) rfl (by kernel_rfl) (fun _ _ _ h => h) (Or.inl ⟨by kernel_rfl, ?y5x12⟩) hHeld ?r5x12
      case y5x12 => (intro wS hSw; (go_simp; try rfl))
      try simp only [Act.put, List.setIfInBounds_toArray, List.set_cons_zero, List.set_cons_succ]
      refine wpAnyG_take (i := 6) (v := .bool true) rfl (by kernel_rfl) (fun _ _ _ h => h) (Or.inl ⟨by kernel_rfl, ?y6x13⟩) hHeld ?r6x13
      case y6x13 => (intro wS hSw; (go_simp; try rfl))
      try simp only [Act.put, List.setIfInBounds_toArray, List.set_cons_zero, List.set_cons_succ]
      refine wpAnyG_take (i := 7) (v := .bool true) rfl (by kernel_rfl) (fun _ _ _ h => h) (Or.inl ⟨by kernel_rfl, ?y7x14⟩) hHeld ?r7x14
      case y7x14 => (intro wS hSw; (go_simp; try rfl))
      try simp only [Act.put, List.setIfInBounds_toArray, List.set_cons_zero, List.set_cons_succ]
      refine wpAnyG_last (i := 8) rfl (by kernel_rfl) (by kernel_rfl) (fun K hK => ?_)
      go_simp
      refine hK.out _ _ ?_
      clear hK K
      try simp only [Act.put, List.setIfInBounds_toArray, List.set_cons_zero, List.set_cons_succ]
      refine wpAnyG_done (by kernel_rfl) ?_ _
      clear hHeld F3 k3
      go_wp2_with fail
      go_ret
      exact ⟨rfl, HK3.out⟩
  · have hb1 : decide (0 ≤ d) = false := decide_eq_false (by omega)
    have hb2 : decide (d < -200000) = false := decide_eq_false (by omega)
    have hdr : -200000 ≤ d ∧ d < 0 := by omega
    have HLf : Hid (∀ w, Calls Try.prog 11 #[.int .i64 d, .int .i64 4] w fun e w' => e = .returned (.int .i64 (d % 4)) ∧ w' = w) := fun w => refLeft_any d 4 w (by omega) (by omega) (by omega)
    clear hr
    by_cases hk : 1 < d % 4
    · obtain ⟨rfl, rfl⟩ : fc = 7 ∧ fd = 0 := by have := HCF.out; unfold cfault at this; rw [if_neg (by omega), if_pos hk] at this; simp at this; omega
      obtain rfl : l = [] := HZ.out.1 (by rw [HCF.out]; simp)
      have hkb : decide (1 < d % 4) = true := decide_eq_true hk
      obtain ⟨r, hrr⟩ : ∃ r, r = d % 4 := ⟨_, rfl⟩
      rw [← hrr] at HLf hkb
      clear hk hrr
      go_wp2_with fail
      refine (HLf.out _).mono ?_
      rintro e w3 ⟨rfl, h3⟩
      rw [h3]
      clear h3 w3
      go_wp2_with fail
      refine wp_region_G (fun W => W.cell? ⟨w1.heap.size, 0, none⟩ = some (.int .i64 7) ∧ W.cell? ⟨w1.heap.size, 1, none⟩ = some (.int .i64 0)) 8 (by kernel_rfl) ⟨f0, f1⟩ (fun hHeld => ?_)
      refine wpAnyG_take (i := 0) (v := ?v0x15) rfl (by kernel_rfl) (fun _ _ _ h => h) (Or.inl ⟨by rfl, ?y0x15⟩) hHeld ?r0x15
      case y0x15 => (intro wS hSw; obtain ⟨s1, s2⟩ := hSw; go_simp; try with_reducible rfl)
      try simp only [Act.put, List.setIfInBounds_toArray, List.set_cons_zero, List.set_cons_succ]
      refine wpAnyG_one (i := 1) rfl (by kernel_rfl) (fun K hK => ?_)
      go_simp
      refine (F_any 7 0 _).mono ?_
      rintro e w3 ⟨rfl, k3⟩
      replace k3 := ((Below.refl _ _).drew).trans k3
      have F3 := HF2.out.below k3
      have HK3 : Hid (Below w.heap.size w w3) := HK2.out.trans (k3.mono HK2.out.size)
      refine hK.out _ _ ⟨F3.c0, F3.c1⟩ ?_
      clear hK K
      try simp only [Act.put, List.setIfInBounds_toArray, List.set_cons_zero, List.set_cons_succ]
      clear hHeld
      have hHeld : (fun W : World => W.cell? ⟨w1.heap.size, 0, none⟩ = some (.int .i64 7) ∧ W.cell? ⟨w1.heap.size, 1, none⟩ = some (.int .i64 0)) w3 := ⟨F3.c0, F3.c1⟩
      refine wpAnyG_take (i := 2) (v := .bool true) rfl (by kernel_rfl) (fun _ _ _ h => h) (Or.inl ⟨by kernel_rfl, ?y2x16⟩) hHeld ?r2x16
      case y2x16 => (intro wS hSw; (go_simp; try rfl))
      try simp only [Act.put, List.setIfInBounds_toArray, List.set_cons_zero, List.set_cons_succ]
      refine wpAnyG_take (i := 3) (v := .bool true) rfl (by kernel_rfl) (fun _ _ _ h => h) (Or.inl ⟨by kernel_rfl, ?y3x17⟩) hHeld ?r3x17
      case y3x17 => (intro wS hSw; (go_simp; try rfl))
      try simp only [Act.put, List.setIfInBounds_toArray, List.set_cons_zero, List.set_cons_succ]
      refine wpAnyG_take (i := 4) (v := ?v4x18) rfl (by kernel_rfl) (fun _ _ _ h => h) (Or.inl ⟨by kernel_rfl, ?y4x18⟩) hHeld ?r4x18
      case y4x18 => (intro wS hSw; have s1 := hSw; go_simp; try with_reducible rfl)
      try simp only [Act.put, List.setIfInBounds_toArray, List.set_cons_zero, List.set_cons_succ]
      refine wpAnyG_take (i := 5) (v := .int .i64 0) rfl (by kernel_rfl) (fun _ _ _ h => h) (Or.inl ⟨by kernel_rfl, ?y5x19⟩) hHeld ?r5x19
      case y5x19 => (intro wS hSw; (go_simp; try rfl))
      try simp only [Act.put, List.setIfInBounds_toArray, List.set_cons_zero, List.set_cons_succ]
      refine wpAnyG_take (i := 6) (v := .bool true) rfl (by kernel_rfl) (fun _ _ _ h => h) (Or.inl ⟨by kernel_rfl, ?y6x20⟩) hHeld ?r6x20
      case y6x20 => (intro wS hSw; (go_simp; try rfl))
      try simp only [Act.put, List.setIfInBounds_toArray, List.set_cons_zero, List.set_cons_succ]
      refine wpAnyG_take (i := 7) (v := .bool true) rfl (by kernel_rfl) (fun _ _ _ h => h) (Or.inl ⟨by kernel_rfl, ?y7x21⟩) hHeld ?r7x21
      case y7x21 => (intro wS hSw; (go_simp; try rfl))
      try simp only [Act.put, List.setIfInBounds_toArray, List.set_cons_zero, List.set_cons_succ]
      refine wpAnyG_last (i := 8) rfl (by kernel_rfl) (by kernel_rfl) (fun K hK => ?_)
      go_simp
      refine hK.out _ _ ?_
      clear hK K
      try simp only [Act.put, List.setIfInBounds_toArray, List.set_cons_zero, List.set_cons_succ]
      refine wpAnyG_done (by kernel_rfl) ?_ _
      clear hHeld F3 k3
      go_wp2_with fail
      go_ret
      exact ⟨rfl, HK3.out⟩
    · obtain ⟨rfl, rfl⟩ : fc = 0 ∧ fd = 0 := by have := HCF.out; unfold cfault at this; rw [if_neg (by omega), if_neg hk] at this; simp at this; omega
      obtain ⟨n, hn, hln⟩ := HZ.out.2 HCF.out
      have hkb : decide (1 < d % 4) = false := decide_eq_false hk
      obtain ⟨r, hrr⟩ : ∃ r, r = d % 4 := ⟨_, rfl⟩
      rw [← hrr] at HLf hkb
      have HN : Hid ((3 * (n : Int) * n ≤ -d ∧ -d < 3 * ((n : Int) + 1) * ((n : Int) + 1)) ∧ l = classesTo d n) := ⟨hn, hln⟩
      clear hk hrr hn hln
      go_wp2_with fail
      refine (HLf.out _).mono ?_
      rintro e w3 ⟨rfl, h3⟩
      rw [h3]
      clear h3 w3
      go_wp2_with fail
      refine (ClassesOf_any d w2 hdr).mono ?_
      rintro e w3 ⟨m, a2, c2, rfl, hm, hL⟩
      obtain rfl : n = m := top_one HN.out.1.1 HN.out.1.2 hm.1 hm.2
      have hl2 : l = classesTo d n := HN.out.2
      rw [← hl2] at hL ⊢
      have HL3 : Hid (Lw w2.heap.size l a2 c2 w2 w3) := hL
      have HK3 : Hid (Below w.heap.size w w3) := HK2.out.trans (hL.k.mono HK2.out.size)
      have F3 := HF2.out.below hL.k
      have f3 := F3.c0
      have k23 := hL.k
      have HL2' : Hid (l ≠ [] → ∃ b : Nat, a = some ⟨b, 0, none⟩ ∧ b < w3.heap.size ∧ ∀ j u, (qcells l)[j]? = some u → w3.cell? ⟨b, j, none⟩ = some u) := fun h => by
        obtain ⟨b, h1, h2, h3⟩ := HL2.out h
        exact ⟨b, h1, Nat.lt_of_lt_of_le h2 k23.size, fun j u hu => (k23.cell (p := ⟨b, j, none⟩) h2).trans (h3 j u hu)⟩
      have hlen : l.length ≤ 200000 := by
        have h1 := classesTo_len d n (by
          rcases Nat.lt_or_ge 300 n with h | h
          · exfalso
            have h2 : (300 : Int) * 300 ≤ (n : Int) * n := Int.mul_le_mul (by omega) (by omega) (by omega) (by omega)
            have h3 := hm.1
            rw [Int.mul_assoc] at h3
            omega
          · exact h)
        have h4 : n ≤ 300 := by
          rcases Nat.lt_or_ge 300 n with h | h
          · exfalso
            have h2 : (300 : Int) * 300 ≤ (n : Int) * n := Int.mul_le_mul (by omega) (by omega) (by omega) (by omega)
            have h3 := hm.1
            rw [Int.mul_assoc] at h3
            omega
          · exact h
        rw [hl2]; omega
      clear hl2 hm hL f0 f1 F3 HN HZ k23 HL2
      go_wp2
      go_loopw [6] (fun iv wx => ∃ i : Nat, i ≤ l.length ∧ iv = .int .i64 i ∧ Hid (Below w3.heap.size w3 wx)) (fun iv _ => l.length - (intOf iv).toNat)
      case atStart => exact ⟨0, Nat.zero_le _, rfl, Below.refl _ _⟩
      case round =>
        obtain ⟨i, hi, rfl, HB⟩ := hrel
        clear f3
        by_cases hlt : i < l.length
        · have hne : l ≠ [] := by intro h; rw [h] at hlt; simp at hlt
          obtain ⟨b, rfl, hb, hcb⟩ := HL2'.out hne
          obtain ⟨g, rfl⟩ : ∃ g, a2 = some ⟨g, 0, none⟩ := by
            rcases HL3.out.row.2 with ⟨_, h⟩ | ⟨g, _, _, h, _⟩
            · omega
            · simp only [Value.slice.injEq] at h; exact ⟨g, h.1⟩
          have hg := (HL3.out.row.lt g rfl).2
          obtain ⟨f, hf⟩ : ∃ f, l[i]? = some f := ⟨l[i], List.getElem?_eq_getElem hlt⟩
          obtain ⟨q0, q1, q2⟩ := qcells_at l i f hf
          have hql : (qcells l).length = l.length * 3 := qcells_len l
          have x0 := (HB.out.cell (p := ⟨b, i * 3, none⟩) hb).trans (hcb _ _ q0)
          have x1 := (HB.out.cell (p := ⟨b, i * 3 + 1, none⟩) hb).trans (hcb _ _ q1)
          have x2 := (HB.out.cell (p := ⟨b, i * 3 + 2, none⟩) hb).trans (hcb _ _ q2)
          have y0 := (HB.out.cell (p := ⟨g, i * 3, none⟩) hg).trans ((HL3.out.row.cellAt (i * 3) (by omega)).trans q0)
          have y1 := (HB.out.cell (p := ⟨g, i * 3 + 1, none⟩) hg).trans ((HL3.out.row.cellAt (i * 3 + 1) (by omega)).trans q1)
          have y2 := (HB.out.cell (p := ⟨g, i * 3 + 2, none⟩) hg).trans ((HL3.out.row.cellAt (i * 3 + 2) (by omega)).trans q2)
          clear hcb q0 q1 q2 hf hql hne
          have hi0 : (0 : Int) ≤ (i : Int) := by omega
          have hi1 : (i : Int) < (l.length : Int) := by omega
          go_wp2_with fail
          refine wp_region_G (fun W => (W.cell? ⟨b, i * 3, none⟩ = some (.int .i64 f.a) ∧ W.cell? ⟨b, i * 3 + 1, none⟩ = some (.int .i64 f.b) ∧ W.cell? ⟨b, i * 3 + 2, none⟩ = some (.int .i64 f.c)) ∧ W.cell? ⟨g, i * 3, none⟩ = some (.int .i64 f.a) ∧ W.cell? ⟨g, i * 3 + 1, none⟩ = some (.int .i64 f.b) ∧ W.cell? ⟨g, i * 3 + 2, none⟩ = some (.int .i64 f.c)) 8 (by kernel_rfl) ⟨⟨x0, x1, x2⟩, y0, y1, y2⟩ (fun hHeld => ?_)
          refine wpAnyG_take (i := 0) (v := ?v0x22) rfl (by kernel_rfl) (fun _ _ _ h => h) (Or.inl ⟨by rfl, ?y0x22⟩) hHeld ?r0x22
          case y0x22 => (intro wS hSw; obtain ⟨⟨s1, s2, s3⟩, s4, s5, s6⟩ := hSw; go_simp; try with_reducible rfl)
          try simp only [Act.put, List.setIfInBounds_toArray, List.set_cons_zero, List.set_cons_succ]
          refine wpAnyG_take (i := 1) (v := ?v1x23) rfl (by kernel_rfl) (fun _ _ _ h => h) (Or.inl ⟨by rfl, ?y1x23⟩) hHeld ?r1x23
          case y1x23 => (intro wS hSw; obtain ⟨⟨s1, s2, s3⟩, s4, s5, s6⟩ := hSw; go_simp; try with_reducible rfl)
          try simp only [Act.put, List.setIfInBounds_toArray, List.set_cons_zero, List.set_cons_succ]
          refine wpAnyG_take (i := 2) (v := ?v2x24) rfl (by kernel_rfl) (fun _ _ _ h => h) (Or.inl ⟨by rfl, ?y2x24⟩) hHeld ?r2x24
          case y2x24 => (intro wS hSw; obtain ⟨⟨s1, s2, s3⟩, s4, s5, s6⟩ := hSw; go_simp; try with_reducible rfl)
          try simp only [Act.put, List.setIfInBounds_toArray, List.set_cons_zero, List.set_cons_succ]
          refine wpAnyG_take (i := 3) (v := ?v3x25) rfl (by kernel_rfl) (fun _ _ _ h => h) (Or.inl ⟨by rfl, ?y3x25⟩) hHeld ?r3x25
          case y3x25 => (intro wS hSw; obtain ⟨⟨s1, s2, s3⟩, s4, s5, s6⟩ := hSw; go_simp; try with_reducible rfl)
          try simp only [Act.put, List.setIfInBounds_toArray, List.set_cons_zero, List.set_cons_succ]
          refine wpAnyG_take (i := 4) (v := ?v4x26) rfl (by kernel_rfl) (fun _ _ _ h => h) (Or.inl ⟨by rfl, ?y4x26⟩) hHeld ?r4x26
          case y4x26 => (intro wS hSw; obtain ⟨⟨s1, s2, s3⟩, s4, s5, s6⟩ := hSw; go_simp; try with_reducible rfl)
          try simp only [Act.put, List.setIfInBounds_toArray, List.set_cons_zero, List.set_cons_succ]
          refine wpAnyG_take (i := 5) (v := ?v5x27) rfl (by kernel_rfl) (fun _ _ _ h => h) (Or.inl ⟨by rfl, ?y5x27⟩) hHeld ?r5x27
          case y5x27 => (intro wS hSw; obtain ⟨⟨s1, s2, s3⟩, s4, s5, s6⟩ := hSw; go_simp; try with_reducible rfl)
          try simp only [Act.put, List.setIfInBounds_toArray, List.set_cons_zero, List.set_cons_succ]
          refine wpAnyG_take (i := 6) (v := ?v6x28) rfl (by kernel_rfl) (fun _ _ _ h => h) (Or.inl ⟨by rfl, ?y6x28⟩) hHeld ?r6x28
          case y6x28 => (intro wS hSw; obtain ⟨⟨s1, s2, s3⟩, s4, s5, s6⟩ := hSw; go_simp; try with_reducible rfl)
          try simp only [Act.put, List.setIfInBounds_toArray, List.set_cons_zero, List.set_cons_succ]
          refine wpAnyG_take (i := 7) (v := ?v7x29) rfl (by kernel_rfl) (fun _ _ _ h => h) (Or.inl ⟨by rfl, ?y7x29⟩) hHeld ?r7x29
          case y7x29 => (intro wS hSw; obtain ⟨⟨s1, s2, s3⟩, s4, s5, s6⟩ := hSw; go_simp; try with_reducible rfl)
          try simp only [Act.put, List.setIfInBounds_toArray, List.set_cons_zero, List.set_cons_succ]
          refine wpAnyG_last (i := 8) rfl (by kernel_rfl) (by kernel_rfl) (fun K hK => ?_)
          go_simp
          refine hK.out _ _ ?_
          clear hK K
          try simp only [Act.put, List.setIfInBounds_toArray, List.set_cons_zero, List.set_cons_succ]
          refine wpAnyG_done (by kernel_rfl) ?_ _
          have HB2 : Hid (Below w3.heap.size w3 wr.drew) := HB.out.drew
          clear hHeld x0 x1 x2 y0 y1 y2 HB
          go_wp2
          go_roundw
          case rel => exact ⟨i + 1, by omega, by go_num, HB2.out⟩
          case measure => simp [intOf]; omega
        · have HK4 : Hid (Below w.heap.size w wr) := HK3.out.trans (HB.out.mono HK3.out.size)
          go_wp2
          go_ret
          exact ⟨rfl, HK4.out⟩

end Go.Proofs.Ytijkanilpblogae
