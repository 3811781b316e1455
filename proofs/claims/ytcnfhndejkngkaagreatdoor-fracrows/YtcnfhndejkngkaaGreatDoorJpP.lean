import Derived.Test.YtcnfhndejkngkaaGreatDoorJpK
import Derived.Test.YtcnfhndejkngkaaGreatDoorJpJ
import Derived.Test.YtcnfhndejkngkaaGreatDoorJpA
import Derived.Test.YtcnfhndejkngkaaGreatDoorJpO
section
set_option linter.unusedSimpArgs false
set_option linter.unusedVariables false
set_option maxRecDepth 100000
namespace Go.Proofs.YtcnfhndejkngkaaGreatDoor
namespace FR
theorem next_is {a u b n : Int} (hb : 1 ≤ b) (hn : b ≤ n) (hu : 0 ≤ u) (hu2 : u < b) (hi : (u * a) % b = 1 % b) : ∃ c, a * (n - (n + u) % b) + 1 = c * b ∧ 1 ≤ n - (n + u) % b ∧ n - (n + u) % b ≤ n ∧ n < n - (n + u) % b + b := by
  have h1 := Int.emod_nonneg (n + u) (show b ≠ 0 by omega)
  have h2 := Int.emod_lt_of_pos (n + u) (show 0 < b by omega)
  have h3 := Int.mul_ediv_add_emod (n + u) b
  have h4 := Int.mul_ediv_add_emod (u * a) b
  rw [hi] at h4
  obtain ⟨q, hq⟩ : ∃ q, q = (n + u) / b := ⟨_, rfl⟩
  obtain ⟨r, hr⟩ : ∃ r, r = u * a / b := ⟨_, rfl⟩
  rw [← hq] at h3
  rw [← hr] at h4
  have h5 : n - (n + u) % b = b * q - u := by omega
  have h6 : 1 % b = 1 ∨ (b = 1) := by
    by_cases e : b = 1
    · exact .inr e
    · exact .inl (Int.emod_eq_of_lt (by omega) (by omega))
  rw [h5]
  refine ⟨?_, ?_, by omega, by omega, by omega⟩
  · exact if b = 1 then a * (b * q - u) + 1 else a * q - r
  · by_cases e : b = 1
    · rw [if_pos e, e, Int.mul_one]
    · rw [if_neg e]
      have h7 : 1 % b = 1 := by rcases h6 with h | h; exact h; exact absurd h e
      rw [h7] at h4
      have h8 : a * (b * q - u) + 1 = (a * q) * b - u * a + 1 := by grind
      rw [h8]
      have h9 : (a * q - r) * b = a * q * b - b * r := by grind
      rw [h9]
      omega
def wdl (d : Nat) : Nat × Nat → List (Nat × Nat) → List (Nat × Nat)
  | _, [] => []
  | p, q :: l => (if p.2 + q.2 = d then [(p.1 + q.1, p.2 + q.2)] else []) ++ q :: wdl d q l
def wd (l : List (Nat × Nat)) (d : Nat) : List (Nat × Nat) := match l with
  | [] => []
  | p :: l => p :: wdl d p l
def rowc : Nat → List (Nat × Nat)
  | 0 => [(0, 1), (1, 1)]
  | i + 1 => wd (rowc i) (i + 2)
def rcOk (i : Nat) : Bool := rowc i == row (i + 1)
theorem rowc_is : ∀ i, i < 50 → rowc i = row (i + 1) := by
  have h : ((List.range 50).all fun i => rcOk i) = true := by decide +kernel
  intro i hi
  rw [List.all_eq_true] at h
  have := h i (by rw [List.mem_range]; exact hi)
  unfold rcOk at this
  exact eq_of_beq this
theorem wdl_take (d : Nat) : ∀ (l : List (Nat × Nat)) (p : Nat × Nat) (i : Nat) (h : i < l.length), wdl d p (l.take (i + 1)) = wdl d p (l.take i) ++ ((if ((p :: l).getD i (0, 0)).2 + (l.getD i (0, 0)).2 = d then [(((p :: l).getD i (0, 0)).1 + (l.getD i (0, 0)).1, ((p :: l).getD i (0, 0)).2 + (l.getD i (0, 0)).2)] else []) ++ [l.getD i (0, 0)])
  | [], _, _, h => by simp at h
  | q :: l, p, 0, h => by simp [wdl]
  | q :: l, p, i + 1, h => by
    have ih := wdl_take d l q i (by simpa using h)
    show (if p.2 + q.2 = d then [(p.1 + q.1, p.2 + q.2)] else []) ++ q :: wdl d q (l.take (i + 1)) = (if p.2 + q.2 = d then [(p.1 + q.1, p.2 + q.2)] else []) ++ q :: wdl d q (l.take i) ++ _
    rw [ih]
    simp [List.append_assoc]
def rsz (i : Nat) : Bool := decide ((rowc i).length ≤ 1000) && decide (2 ≤ (rowc i).length) && (rowc i).all fun x => decide (x.1 ≤ 100) && decide (x.2 ≤ 100)
theorem rsz_all : ∀ i, i < 50 → (rowc i).length ≤ 1000 ∧ 2 ≤ (rowc i).length ∧ ∀ x ∈ rowc i, x.1 ≤ 100 ∧ x.2 ≤ 100 := by
  have h : ((List.range 50).all fun i => rsz i) = true := by decide +kernel
  intro i hi
  rw [List.all_eq_true] at h
  have := h i (by rw [List.mem_range]; exact hi)
  unfold rsz at this
  rw [Bool.and_eq_true, Bool.and_eq_true, decide_eq_true_eq, decide_eq_true_eq, List.all_eq_true] at this
  refine ⟨this.1.1, this.1.2, fun x hx => ?_⟩
  have h2 := this.2 x hx
  rw [Bool.and_eq_true, decide_eq_true_eq, decide_eq_true_eq] at h2
  exact h2
end FR
end Go.Proofs.YtcnfhndejkngkaaGreatDoor
end

section
set_option linter.unusedSimpArgs false
set_option linter.unusedVariables false
set_option maxRecDepth 100000
namespace Go.Proofs.YtcnfhndejkngkaaGreatDoor
open Go.RowKit
def okB3 (a b c : Int) : Bool := numB a && numB b && numB c
theorem inv_of_bez {a m u v : Int} (hm : 0 < m) (hg : Int.gcd a m = 1) (h : Bez a m u v) : 0 ≤ u ∧ u < m ∧ (u * a) % m = 1 % m := by
  have h1 := h.low (by omega)
  have h2 := h.high (by omega)
  have h3 := h.lin
  rw [hg] at h2 h3
  refine ⟨h1, by rw [Nat.div_one] at h2; omega, ?_⟩
  have e : u * a = 1 + m * (-v) := by rw [Int.mul_neg, Int.mul_comm m]; omega
  rw [e, Int.add_mul_emod_self_left]
set_option maxHeartbeats 400000 in
theorem Inverse_ok (a m : Int) (w : World) (h : okB a m = true) (hm : ¬ m < 1) (hg : Int.gcd a m = 1) :
    Calls Tryz.prog 66 #[.int .i64 a, .int .i64 m] w fun e w' => ∃ u : Int, e = .returned (.tuple #[.int .i64 u, .agg #[.int .i64 0, .int .i64 0]]) ∧ 0 ≤ u ∧ u < m ∧ (u * a) % m = 1 % m ∧ Below w.heap.size w w' := by
  have HCD : Hid (nf 0 [a, m] = (0, 0)) := okB_nf h
  obtain ⟨b1, b2⟩ := okB_bounds h
  have HG : Hid (Int.gcd a m = 1) := hg
  clear hg
  clear h
  go_enter Tryz.func66, Tryz.ntmps66
  go_wp2_with fail
  refine (numbersFault_any [a, m] _ 0 _ _ (by simp) ?_ ?_).mono ?_
  · simp
  · exact two_cells a m _ _ (by simp) (by simp)
  rw [HCD.out]
  rintro e w1 ⟨rfl, hb⟩
  have hz : w.heap.size < w1.heap.size := by have := hb.size; simp at this; omega
  have q0 : w1.cell? ⟨w.heap.size, 0, none⟩ = some (.int .i64 0) := cell_later hb (by simp)
  have q1 : w1.cell? ⟨w.heap.size, 1, none⟩ = some (.int .i64 0) := cell_later hb (by simp)
  have q2 : w1.frozen? ⟨w.heap.size, 0, none⟩ = false := (hb.frozen (p := ⟨w.heap.size, 0, none⟩) (by simp; omega)).trans (by simp)
  have q3 : w1.frozen? ⟨w.heap.size, 1, none⟩ = false := (hb.frozen (p := ⟨w.heap.size, 1, none⟩) (by simp; omega)).trans (by simp)
  go_wp2_with fail
  refine (bezout_any a m _ b1 b2).mono ?_
  rw [HG.out]
  rintro e w2 ⟨u, v, rfl, hbz, q, rfl⟩
  have HU : Hid (0 ≤ u ∧ u < m ∧ (u * a) % m = 1 % m) := inv_of_bez (by omega) HG.out hbz
  clear hbz
  go_wp2
  refine bodyPost_ret (v := .tuple #[.int .i64 u, .agg #[.int .i64 0, .int .i64 0]]) (by simp [results, Tryz.results66, go_sem, q0, q1, hz]) rfl ⟨u, rfl, HU.out.1, HU.out.2.1, HU.out.2.2, ?_⟩
  refine Below.setCell (Below.setCell (below_drewN' (Below.alloc (Below.trans (Below.alloc (Below.alloc (Below.refl _ _) ?_ _) ?_ _) (hb.mono ?_)) ?_ _)) ?_ _) ?_ _ <;> first | omega | (simp; done) | (simp; omega)
end Go.Proofs.YtcnfhndejkngkaaGreatDoor
end

section
set_option linter.unusedSimpArgs false
set_option linter.unusedVariables false
set_option maxRecDepth 100000
namespace Go.Proofs.YtcnfhndejkngkaaGreatDoor
open Go.RowKit
set_option maxHeartbeats 2000000 in
theorem next_any (a b n : Int) (w : World) (ha : a.natAbs ≤ 1000000) (hb : 1 ≤ b) (hn : b ≤ n) (hn6 : n ≤ 1000000) (hg : Int.gcd a b = 1) :
    Calls Tryz.prog 38 #[.agg #[.int .i64 a, .int .i64 b], .int .i64 n] w fun e w' => ∃ c d : Int, e = .returned (.agg #[.int .i64 c, .int .i64 d]) ∧ (c * b - a * d = 1 ∧ 1 ≤ d ∧ d ≤ n ∧ n < d + b) ∧ Below w.heap.size w w' := by
  have HIn : Hid (∀ W, Calls Tryz.prog 66 #[.int .i64 a, .int .i64 b] W fun e w' => ∃ u : Int, e = .returned (.tuple #[.int .i64 u, .agg #[.int .i64 0, .int .i64 0]]) ∧ 0 ≤ u ∧ u < b ∧ (u * a) % b = 1 % b ∧ Below W.heap.size W w') := fun W => Inverse_ok a b W (by unfold okB; rw [numB_mk (by omega) (by omega), numB_mk (by omega) (by omega)]; rfl) (by omega) hg
  clear hg
  have HK0 : Hid (Cl w.heap.size [.int .i64 a, .int .i64 b] 23 ((w.alloc (.cells #[.int .i64 a, .int .i64 b] 23)).alloc (.cells #[.int .i64 0, .int .i64 0] 23)) ∧ Cl (w.heap.size + 1) [.int .i64 0, .int .i64 0] 23 ((w.alloc (.cells #[.int .i64 a, .int .i64 b] 23)).alloc (.cells #[.int .i64 0, .int .i64 0] 23)) ∧ Below w.heap.size w ((w.alloc (.cells #[.int .i64 a, .int .i64 b] 23)).alloc (.cells #[.int .i64 0, .int .i64 0] 23))) := by
    have h1 := Cl.new [.int .i64 0, .int .i64 0] 23 (w.alloc (.cells #[.int .i64 a, .int .i64 b] 23))
    exact ⟨(Cl.new [.int .i64 a, .int .i64 b] _ _).alloc _, by simpa using h1, ((Below.refl _ _).alloc (Nat.le_refl _) _).alloc (by simp) _⟩
  go_enter Tryz.func38, Tryz.ntmps38
  go_wp2_with fail
  refine (HIn.out _).mono ?_
  rintro e w1 ⟨u, rfl, hu0, hu1, hu2, k1⟩
  have C0 := HK0.out.1.below k1
  have C1 := HK0.out.2.1.below k1
  have HK1 : Hid (Cl (w.heap.size + 1) [.int .i64 0, .int .i64 0] 23 w1 ∧ Below w.heap.size w w1) := ⟨C1, HK0.out.2.2.trans (k1.mono HK0.out.2.2.size)⟩
  have p0 := C0.cell 0
  have p1 := C0.cell 1
  have p2 := C0.lt
  have p3 := C1.cell 0
  have p4 := C1.cell 1
  have p5 := C1.frozen 0
  have p6 := C1.frozen 1
  have p7 := C1.lt
  simp at p0 p1 p3 p4
  obtain ⟨c, h1, h2, h3, h4⟩ := FR.next_is (n := n) hb hn hu0 hu1 hu2
  obtain ⟨s, hs⟩ : ∃ s, s = n + u := ⟨_, rfl⟩
  obtain ⟨r, hr⟩ : ∃ r, r = s % b := ⟨_, rfl⟩
  obtain ⟨d, hd⟩ : ∃ d, d = n - r := ⟨_, rfl⟩
  obtain ⟨t, ht⟩ : ∃ t, t = a * d := ⟨_, rfl⟩
  obtain ⟨v, hv⟩ : ∃ v, v = t + 1 := ⟨_, rfl⟩
  rw [← hs, ← hr, ← hd] at h1 h2 h3 h4
  rw [← ht, ← hv] at h1
  have hr0 : 0 ≤ r := by rw [hr]; exact Int.emod_nonneg _ (by omega)
  have hr1 : r < b := by rw [hr]; exact Int.emod_lt_of_pos _ (by omega)
  have tb : t.natAbs ≤ 1000000000000 := by
    rw [ht, Int.natAbs_mul]
    have : d.natAbs ≤ 1000000 := by omega
    exact Nat.mul_le_mul ha this
  have es : n + u = s := hs.symm
  have tm : Int.tmod s b = r := by rw [hr]; exact Int.tmod_eq_emod_of_nonneg (by omega)
  have ed : n - r = d := hd.symm
  have et : a * d = t := ht.symm
  have ev : t + 1 = v := hv.symm
  have tq : Int.tdiv v b = c := by rw [h1]; exact Int.mul_tdiv_cancel _ (by omega)
  have nb : ¬ b = 0 := by omega
  have hcb : c.natAbs ≤ 2000000000000 := by
    have h5 : (c * b).natAbs = c.natAbs * b.natAbs := Int.natAbs_mul _ _
    have h6 : c.natAbs * 1 ≤ c.natAbs * b.natAbs := Nat.mul_le_mul_left _ (by omega)
    have h7 : (c * b).natAbs = v.natAbs := by rw [← h1]
    omega
  have w1' : IntKind.i64.wrap s = s := by rw [IntKind.wrap_i64]; omega
  have w2' : IntKind.i64.wrap r = r := by rw [IntKind.wrap_i64]; omega
  have w3' : IntKind.i64.wrap d = d := by rw [IntKind.wrap_i64]; omega
  have w4' : IntKind.i64.wrap t = t := by rw [IntKind.wrap_i64]; omega
  have w5' : IntKind.i64.wrap v = v := by rw [IntKind.wrap_i64]; omega
  have w6' : IntKind.i64.wrap c = c := by rw [IntKind.wrap_i64]; omega
  have HE : Hid (c * b - a * d = 1 ∧ 1 ≤ d ∧ d ≤ n ∧ n < d + b) := ⟨by rw [← h1, et]; omega, h2, h3, h4⟩
  have HF : Hid (Cl (w.heap.size + 1) [.int .i64 c, .int .i64 d] 23 (((w1.setCell ⟨w.heap.size + 1, 0, none⟩ (.int .i64 c)).setCell ⟨w.heap.size + 1, 1, none⟩ (.int .i64 d)).alloc (.cells #[.int .i64 0, .int .i64 0] 25)) ∧ Below w.heap.size w (((w1.setCell ⟨w.heap.size + 1, 0, none⟩ (.int .i64 c)).setCell ⟨w.heap.size + 1, 1, none⟩ (.int .i64 d)).alloc (.cells #[.int .i64 0, .int .i64 0] 25))) := by
    have h := (HK1.out.2.setCell (p := ⟨w.heap.size + 1, 0, none⟩) (by simp) (.int .i64 c)).setCell (p := ⟨w.heap.size + 1, 1, none⟩) (by simp) (.int .i64 d)
    exact ⟨((HK1.out.1.set 0 _).set 1 _).alloc _, h.alloc h.size _⟩
  clear C0 C1 k1 HK0 HK1 hs hr hd ht hv h1 h2 h3 h4 hu2
  go_wp2
  have e1 := HF.out.1.cell 0
  have e2 := HF.out.1.cell 1
  simp at e1 e2
  exact bodyPost_ret (v := .agg #[.int .i64 c, .int .i64 d]) (by simp [results, Tryz.results38, go_sem, e1, e2]) rfl ⟨c, d, rfl, HE.out, HF.out.2⟩
end Go.Proofs.YtcnfhndejkngkaaGreatDoor
end

section
set_option linter.unusedSimpArgs false
set_option linter.unusedVariables false
set_option maxRecDepth 100000
namespace Go.Proofs.YtcnfhndejkngkaaGreatDoor
open Go.RowKit
def ffF (x y : Int) : Int := if numB x = true ∧ numB y = true then (if y < 1 ∨ Int.gcd x y ≠ 1 then 6 else 0) else 3
theorem ffF_3 {x y : Int} (h : ¬ (numB x = true ∧ numB y = true)) : ffF x y = 3 := by unfold ffF; rw [if_neg h]
theorem ffF_6 {x y : Int} (h : numB x = true ∧ numB y = true) (h2 : y < 1 ∨ Int.gcd x y ≠ 1) : ffF x y = 6 := by unfold ffF; rw [if_pos h, if_pos h2]
theorem ffF_0 {x y : Int} (h : numB x = true ∧ numB y = true) (h2 : ¬ (y < 1 ∨ Int.gcd x y ≠ 1)) : ffF x y = 0 := by unfold ffF; rw [if_pos h, if_neg h2]
set_option maxHeartbeats 4000000 in
theorem FracFault_any (x y : Int) (w : World) :
    Calls Tryz.prog 9 #[.agg #[.int .i64 x, .int .i64 y]] w fun e w' => e = .returned (.agg #[.int .i64 (ffF x y), .int .i64 0]) ∧ Below w.heap.size w w' := by
  obtain ⟨W0, hW0⟩ : ∃ W0, W0 = (w.alloc (.cells #[.int .i64 x, .int .i64 y] 23)).alloc (.cells #[.int .i64 0, .int .i64 0] 25) := ⟨_, rfl⟩
  have H0 : Hid (Cl w.heap.size [.int .i64 x, .int .i64 y] 23 W0 ∧ Cl (w.heap.size + 1) [.int .i64 0, .int .i64 0] 25 W0 ∧ Below w.heap.size w W0) := by
    have h1 := Cl.new [.int .i64 0, .int .i64 0] 25 (w.alloc (.cells #[.int .i64 x, .int .i64 y] 23))
    show _ ∧ _
    rw [hW0]
    exact ⟨(Cl.new _ _ _).alloc _, by simpa using h1, ((Below.refl _ _).alloc (Nat.le_refl _) _).alloc (by simp) _⟩
  have HNx : Hid (∀ W b, b = numB x → Calls Tryz.prog 35 #[.int .i64 x] W fun e w' => e = .returned (.bool b) ∧ w' = W) := fun W b h => by rw [h]; exact number_any x W
  have HNy : Hid (∀ W b, b = numB y → Calls Tryz.prog 35 #[.int .i64 y] W fun e w' => e = .returned (.bool b) ∧ w' = W) := fun W b h => by rw [h]; exact number_any y W
  have q0 := H0.out.1.cell 0
  have q1 := H0.out.1.cell 1
  simp at q0 q1
  go_enter Tryz.func9, Tryz.ntmps9
  go_wp2_with fail
  rw [← hW0]
  clear hW0
  obtain ⟨bx, hbx⟩ : ∃ b, b = numB x := ⟨_, rfl⟩
  obtain ⟨by', hby⟩ : ∃ b, b = numB y := ⟨_, rfl⟩
  refine (HNx.out _ bx hbx).mono ?_
  rintro e w1 ⟨rfl, hw1⟩
  rw [hw1]
  clear hw1 w1
  cases bx with
  | false =>
    have HC : Hid (ffF x y = 3) := ffF_3 (by rw [← hbx]; simp)
    clear hbx hby
    go_wp2_with fail
    refine (F_any 3 0 _).mono ?_
    rintro e w5 ⟨rfl, k5⟩
    have c5 := H0.out.2.1.below k5
    have q0 := c5.cell 0
    have q1 := c5.cell 1
    have q2 := c5.frozen 0
    have q3 := c5.frozen 1
    simp at q0 q1
    have HF : Hid (Below w.heap.size w ((w5.setCell ⟨w.heap.size + 1, 0, none⟩ (.int .i64 3)).setCell ⟨w.heap.size + 1, 1, none⟩ (.int .i64 0)) ∧ Cl (w.heap.size + 1) [.int .i64 3, .int .i64 0] 25 ((w5.setCell ⟨w.heap.size + 1, 0, none⟩ (.int .i64 3)).setCell ⟨w.heap.size + 1, 1, none⟩ (.int .i64 0))) :=
      ⟨((H0.out.2.2.trans (k5.mono H0.out.2.2.size)).setCell (by simp) _).setCell (by simp) _, (c5.set 0 _).set 1 _⟩
    clear c5 k5 H0
    go_wp2
    have C := HF.out.2
    have e1 := C.cell 0
    have e2 := C.cell 1
    simp at e1 e2
    exact bodyPost_ret (v := .agg #[.int .i64 3, .int .i64 0]) (by simp [results, Tryz.results9, go_sem, e1, e2]) rfl ⟨by rw [HC.out], HF.out.1⟩
  | true =>
    have Hbx : Hid (true = numB x) := hbx
    have Hby : Hid (by' = numB y) := hby
    clear hbx hby
    go_wp2_with fail
    refine (HNy.out _ by' Hby.out).mono ?_
    rintro e w1 ⟨rfl, hw1⟩
    rw [hw1]
    clear hw1 w1
    cases by' with
    | false =>
      have HC : Hid (ffF x y = 3) := ffF_3 (by rw [← Hby.out]; simp)
      clear Hbx Hby
      go_wp2_with fail
      refine (F_any 3 0 _).mono ?_
      rintro e w5 ⟨rfl, k5⟩
      have c5 := H0.out.2.1.below k5
      have q0 := c5.cell 0
      have q1 := c5.cell 1
      have q2 := c5.frozen 0
      have q3 := c5.frozen 1
      simp at q0 q1
      have HF : Hid (Below w.heap.size w ((w5.setCell ⟨w.heap.size + 1, 0, none⟩ (.int .i64 3)).setCell ⟨w.heap.size + 1, 1, none⟩ (.int .i64 0)) ∧ Cl (w.heap.size + 1) [.int .i64 3, .int .i64 0] 25 ((w5.setCell ⟨w.heap.size + 1, 0, none⟩ (.int .i64 3)).setCell ⟨w.heap.size + 1, 1, none⟩ (.int .i64 0))) :=
        ⟨((H0.out.2.2.trans (k5.mono H0.out.2.2.size)).setCell (by simp) _).setCell (by simp) _, (c5.set 0 _).set 1 _⟩
      clear c5 k5 H0
      go_wp2
      have C := HF.out.2
      have e1 := C.cell 0
      have e2 := C.cell 1
      simp at e1 e2
      exact bodyPost_ret (v := .agg #[.int .i64 3, .int .i64 0]) (by simp [results, Tryz.results9, go_sem, e1, e2]) rfl ⟨by rw [HC.out], HF.out.1⟩
    | true =>
      have hx := Hbx.out.symm
      have hy := Hby.out.symm
      have hxl : -1000000000000000000 ≤ x ∧ x ≤ 1000000000000000000 := by simpa [numB] using hx
      have hyl : -1000000000000000000 ≤ y ∧ y ≤ 1000000000000000000 := by simpa [numB] using hy
      have HB : Hid (numB x = true ∧ numB y = true) := ⟨hx, hy⟩
      clear Hbx Hby hx hy
      by_cases h1 : y < 1
      · have d1 : decide (y < 1) = true := decide_eq_true h1
        have HC : Hid (ffF x y = 6) := ffF_6 HB.out (.inl h1)
        clear h1
        go_wp2_with fail
        refine (F_any 6 0 _).mono ?_
        rintro e w5 ⟨rfl, k5⟩
        have c5 := H0.out.2.1.below k5
        have q0 := c5.cell 0
        have q1 := c5.cell 1
        have q2 := c5.frozen 0
        have q3 := c5.frozen 1
        simp at q0 q1
        have HF : Hid (Below w.heap.size w ((w5.setCell ⟨w.heap.size + 1, 0, none⟩ (.int .i64 6)).setCell ⟨w.heap.size + 1, 1, none⟩ (.int .i64 0)) ∧ Cl (w.heap.size + 1) [.int .i64 6, .int .i64 0] 25 ((w5.setCell ⟨w.heap.size + 1, 0, none⟩ (.int .i64 6)).setCell ⟨w.heap.size + 1, 1, none⟩ (.int .i64 0))) :=
          ⟨((H0.out.2.2.trans (k5.mono H0.out.2.2.size)).setCell (by simp) _).setCell (by simp) _, (c5.set 0 _).set 1 _⟩
        clear c5 k5 H0
        go_wp2
        have C := HF.out.2
        have e1 := C.cell 0
        have e2 := C.cell 1
        simp at e1 e2
        exact bodyPost_ret (v := .agg #[.int .i64 6, .int .i64 0]) (by simp [results, Tryz.results9, go_sem, e1, e2]) rfl ⟨by rw [HC.out], HF.out.1⟩
      · have d1 : decide (y < 1) = false := decide_eq_false h1
        have HGc : Hid (∀ W, Calls Tryz.prog 39 #[.int .i64 x, .int .i64 y] W fun e w' => e = .returned (.int .i64 (Int.gcd x y : Int)) ∧ w' = W) := fun W => refGcd_nat x.natAbs y.natAbs W (by omega) (by omega) x y rfl rfl
        have HY1 : Hid (¬ y < 1) := h1
        obtain ⟨G, hG⟩ : ∃ G, G = Int.gcd x y := ⟨_, rfl⟩
        rw [← hG] at HGc
        go_wp2_with fail
        refine (HGc.out _).mono ?_
        rintro e w1 ⟨rfl, hw1⟩
        rw [hw1]
        clear hw1 w1
        by_cases h2 : G = 1
        · have d2 : ((G : Int) != 1) = false := by rw [h2]; rfl
          have HC : Hid (ffF x y = 0) := ffF_0 HB.out (by rw [← hG]; rintro (h | h); exact absurd h (by have := HY1.out; omega); exact h h2)
          have c5 := H0.out.2.1
          have q2' := c5.cell 0
          have q3' := c5.cell 1
          have q4' := c5.frozen 0
          have q5' := c5.frozen 1
          simp at q2' q3'
          have HF : Hid (Below w.heap.size w ((W0.setCell ⟨w.heap.size + 1, 0, none⟩ (.int .i64 0)).setCell ⟨w.heap.size + 1, 1, none⟩ (.int .i64 0)) ∧ Cl (w.heap.size + 1) [.int .i64 0, .int .i64 0] 25 ((W0.setCell ⟨w.heap.size + 1, 0, none⟩ (.int .i64 0)).setCell ⟨w.heap.size + 1, 1, none⟩ (.int .i64 0))) :=
            ⟨(H0.out.2.2.setCell (by simp) _).setCell (by simp) _, (c5.set 0 _).set 1 _⟩
          clear c5 H0 hG h2
          go_wp2
          have C := HF.out.2
          have e1 := C.cell 0
          have e2 := C.cell 1
          simp at e1 e2
          exact bodyPost_ret (v := .agg #[.int .i64 0, .int .i64 0]) (by simp [results, Tryz.results9, go_sem, e1, e2]) rfl ⟨by rw [HC.out], HF.out.1⟩
        · have d2 : ((G : Int) != 1) = true := by simp; omega
          have HC : Hid (ffF x y = 6) := ffF_6 HB.out (.inr (by rw [← hG]; exact h2))
          clear hG h2
          go_wp2_with fail
          refine (F_any 6 0 _).mono ?_
          rintro e w5 ⟨rfl, k5⟩
          have c5 := H0.out.2.1.below k5
          have q0 := c5.cell 0
          have q1 := c5.cell 1
          have q2 := c5.frozen 0
          have q3 := c5.frozen 1
          simp at q0 q1
          have HF : Hid (Below w.heap.size w ((w5.setCell ⟨w.heap.size + 1, 0, none⟩ (.int .i64 6)).setCell ⟨w.heap.size + 1, 1, none⟩ (.int .i64 0)) ∧ Cl (w.heap.size + 1) [.int .i64 6, .int .i64 0] 25 ((w5.setCell ⟨w.heap.size + 1, 0, none⟩ (.int .i64 6)).setCell ⟨w.heap.size + 1, 1, none⟩ (.int .i64 0))) :=
            ⟨((H0.out.2.2.trans (k5.mono H0.out.2.2.size)).setCell (by simp) _).setCell (by simp) _, (c5.set 0 _).set 1 _⟩
          clear c5 k5 H0
          go_wp2
          have C := HF.out.2
          have e1 := C.cell 0
          have e2 := C.cell 1
          simp at e1 e2
          exact bodyPost_ret (v := .agg #[.int .i64 6, .int .i64 0]) (by simp [results, Tryz.results9, go_sem, e1, e2]) rfl ⟨by rw [HC.out], HF.out.1⟩
end Go.Proofs.YtcnfhndejkngkaaGreatDoor
end

section
set_option linter.unusedSimpArgs false
set_option linter.unusedVariables false
set_option maxRecDepth 100000
namespace Go.Proofs.YtcnfhndejkngkaaGreatDoor
open Go.RowKit
set_option maxHeartbeats 4000000 in
theorem check_any (x y : Int) (w : World) :
    Calls Tryz.prog 37 #[.agg #[.int .i64 x, .int .i64 y]] w fun e w' => e = .returned (.agg #[.int .i64 (ffF x y), .int .i64 0]) ∧ Below w.heap.size w w' := by
  obtain ⟨W9, hW0⟩ : ∃ W0, W0 = (w.alloc (.cells #[.int .i64 x, .int .i64 y] 23)).alloc (.cells #[.int .i64 0, .int .i64 0] 25) := ⟨_, rfl⟩
  have H0 : Hid (Cl w.heap.size [.int .i64 x, .int .i64 y] 23 W9 ∧ Cl (w.heap.size + 1) [.int .i64 0, .int .i64 0] 25 W9 ∧ Below w.heap.size w W9) := by
    have h1 := Cl.new [.int .i64 0, .int .i64 0] 25 (w.alloc (.cells #[.int .i64 x, .int .i64 y] 23))
    show _ ∧ _
    rw [hW0]
    exact ⟨(Cl.new _ _ _).alloc _, by simpa using h1, ((Below.refl _ _).alloc (Nat.le_refl _) _).alloc (by simp) _⟩
  have HNx : Hid (∀ W b, b = numB x → Calls Tryz.prog 64 #[.int .i64 x] W fun e w' => e = .returned (.bool b) ∧ w' = W) := fun W b h => by rw [h]; exact isNumber_any x W
  have HNy : Hid (∀ W b, b = numB y → Calls Tryz.prog 64 #[.int .i64 y] W fun e w' => e = .returned (.bool b) ∧ w' = W) := fun W b h => by rw [h]; exact isNumber_any y W
  have q0 := H0.out.1.cell 0
  have q1 := H0.out.1.cell 1
  simp at q0 q1
  go_enter Tryz.func37, Tryz.ntmps37
  go_wp2_with fail
  rw [← hW0]
  clear hW0
  obtain ⟨bx, hbx⟩ : ∃ b, b = numB x := ⟨_, rfl⟩
  obtain ⟨by', hby⟩ : ∃ b, b = numB y := ⟨_, rfl⟩
  refine (HNx.out _ bx hbx).mono ?_
  rintro e w1 ⟨rfl, hw1⟩
  rw [hw1]
  clear hw1 w1
  cases bx with
  | false =>
    have HC : Hid (ffF x y = 3) := ffF_3 (by rw [← hbx]; simp)
    clear hbx hby q0 q1
    have q0 := H0.out.2.1.cell 0
    have q1 := H0.out.2.1.cell 1
    have q2 := H0.out.2.1.frozen 0
    have q3 := H0.out.2.1.frozen 1
    simp at q0 q1
    have HF : Hid (Below w.heap.size w ((W9.setCell ⟨w.heap.size + 1, 0, none⟩ (.int .i64 3)).setCell ⟨w.heap.size + 1, 1, none⟩ (.int .i64 0)) ∧ Cl (w.heap.size + 1) [.int .i64 3, .int .i64 0] 25 ((W9.setCell ⟨w.heap.size + 1, 0, none⟩ (.int .i64 3)).setCell ⟨w.heap.size + 1, 1, none⟩ (.int .i64 0))) :=
      ⟨(H0.out.2.2.setCell (by simp) _).setCell (by simp) _, (H0.out.2.1.set 0 _).set 1 _⟩
    clear H0
    go_wp2
    have C := HF.out.2
    have e1 := C.cell 0
    have e2 := C.cell 1
    simp at e1 e2
    exact bodyPost_ret (v := .agg #[.int .i64 3, .int .i64 0]) (by simp [results, Tryz.results37, go_sem, e1, e2]) rfl ⟨by rw [HC.out], HF.out.1⟩
  | true =>
    have Hbx : Hid (true = numB x) := hbx
    have Hby : Hid (by' = numB y) := hby
    clear hbx hby
    go_wp2_with fail
    refine (HNy.out _ by' Hby.out).mono ?_
    rintro e w1 ⟨rfl, hw1⟩
    rw [hw1]
    clear hw1 w1
    cases by' with
    | false =>
      have HC : Hid (ffF x y = 3) := ffF_3 (by rw [← Hby.out]; simp)
      clear Hbx Hby q0 q1
      have q0 := H0.out.2.1.cell 0
      have q1 := H0.out.2.1.cell 1
      have q2 := H0.out.2.1.frozen 0
      have q3 := H0.out.2.1.frozen 1
      simp at q0 q1
      have HF : Hid (Below w.heap.size w ((W9.setCell ⟨w.heap.size + 1, 0, none⟩ (.int .i64 3)).setCell ⟨w.heap.size + 1, 1, none⟩ (.int .i64 0)) ∧ Cl (w.heap.size + 1) [.int .i64 3, .int .i64 0] 25 ((W9.setCell ⟨w.heap.size + 1, 0, none⟩ (.int .i64 3)).setCell ⟨w.heap.size + 1, 1, none⟩ (.int .i64 0))) :=
        ⟨(H0.out.2.2.setCell (by simp) _).setCell (by simp) _, (H0.out.2.1.set 0 _).set 1 _⟩
      clear H0
      go_wp2
      have C := HF.out.2
      have e1 := C.cell 0
      have e2 := C.cell 1
      simp at e1 e2
      exact bodyPost_ret (v := .agg #[.int .i64 3, .int .i64 0]) (by simp [results, Tryz.results37, go_sem, e1, e2]) rfl ⟨by rw [HC.out], HF.out.1⟩
    | true =>
      have hx := Hbx.out.symm
      have hy := Hby.out.symm
      have HB : Hid (numB x = true ∧ numB y = true) := ⟨hx, hy⟩
      have HGc : Hid (∀ W, Calls Tryz.prog 65 #[.int .i64 x, .int .i64 y] W fun e w' => e = .returned (.tuple #[.int .i64 (Int.gcd x y : Int), .agg #[.int .i64 0, .int .i64 0]]) ∧ Below W.heap.size W w') := fun W => Gcd_ok x y W (by unfold okB; rw [hx, hy]; rfl)
      clear Hbx Hby hx hy
      obtain ⟨G, hG⟩ : ∃ G, G = Int.gcd x y := ⟨_, rfl⟩
      rw [← hG] at HGc
      go_wp2_with fail
      refine (HGc.out _).mono ?_
      rintro e w1 ⟨rfl, k1⟩
      have X1 := H0.out.1.below k1
      have Y1 := H0.out.2.1.below k1
      have r0 := X1.cell 0
      have r1 := X1.cell 1
      have r2 := X1.lt
      have r3 := Y1.cell 0
      have r4 := Y1.cell 1
      have r5 := Y1.lt
      have r6 := Y1.frozen 0
      have r7 := Y1.frozen 1
      simp at r0 r1 r3 r4
      have H1 : Hid (Cl (w.heap.size + 1) [.int .i64 0, .int .i64 0] 25 w1 ∧ Below w.heap.size w w1) := ⟨Y1, H0.out.2.2.trans (k1.mono H0.out.2.2.size)⟩
      clear k1 q0 q1 X1 Y1
      by_cases h1 : y < 1
      · have d1 : decide (y < 1) = true := decide_eq_true h1
        have HC : Hid (ffF x y = 6) := ffF_6 HB.out (.inl h1)
        clear h1 hG
        have HF : Hid (Below w.heap.size w (((w1.setCell ⟨w.heap.size + 1, 0, none⟩ (.int .i64 6)).setCell ⟨w.heap.size + 1, 1, none⟩ (.int .i64 0)).alloc (.cells #[.int .i64 0, .int .i64 0] 25)) ∧ Cl (w.heap.size + 1) [.int .i64 6, .int .i64 0] 25 (((w1.setCell ⟨w.heap.size + 1, 0, none⟩ (.int .i64 6)).setCell ⟨w.heap.size + 1, 1, none⟩ (.int .i64 0)).alloc (.cells #[.int .i64 0, .int .i64 0] 25))) := by
          have h := (H1.out.2.setCell (p := ⟨w.heap.size + 1, 0, none⟩) (by simp) (.int .i64 6)).setCell (p := ⟨w.heap.size + 1, 1, none⟩) (by simp) (.int .i64 0)
          exact ⟨h.alloc h.size _, ((H1.out.1.set 0 _).set 1 _).alloc _⟩
        clear H0 H1
        go_wp2
        have C := HF.out.2
        have e1 := C.cell 0
        have e2 := C.cell 1
        simp at e1 e2
        exact bodyPost_ret (v := .agg #[.int .i64 6, .int .i64 0]) (by simp [results, Tryz.results37, go_sem, e1, e2]) rfl ⟨by rw [HC.out], HF.out.1⟩
      · have d1 : decide (y < 1) = false := decide_eq_false h1
        have hG1 : 1 ≤ G := by
          rw [hG]
          rcases Nat.eq_zero_or_pos (Int.gcd x y) with h | h
          · rw [Int.gcd_eq_zero_iff] at h; omega
          · exact h
        by_cases h2 : G = 1
        · have d2 : decide (1 < (G : Int)) = false := decide_eq_false (by omega)
          have HC : Hid (ffF x y = 0) := ffF_0 HB.out (by rw [← hG]; rintro (h | h); exact h1 h; exact h h2)
          clear h1 h2 hG1 hG
          have HF : Hid (Below w.heap.size w (((w1.setCell ⟨w.heap.size + 1, 0, none⟩ (.int .i64 0)).setCell ⟨w.heap.size + 1, 1, none⟩ (.int .i64 0)).alloc (.cells #[.int .i64 0, .int .i64 0] 25)) ∧ Cl (w.heap.size + 1) [.int .i64 0, .int .i64 0] 25 (((w1.setCell ⟨w.heap.size + 1, 0, none⟩ (.int .i64 0)).setCell ⟨w.heap.size + 1, 1, none⟩ (.int .i64 0)).alloc (.cells #[.int .i64 0, .int .i64 0] 25))) := by
            have h := (H1.out.2.setCell (p := ⟨w.heap.size + 1, 0, none⟩) (by simp) (.int .i64 0)).setCell (p := ⟨w.heap.size + 1, 1, none⟩) (by simp) (.int .i64 0)
            exact ⟨h.alloc h.size _, ((H1.out.1.set 0 _).set 1 _).alloc _⟩
          clear H0 H1
          go_wp2
          have C := HF.out.2
          have e1 := C.cell 0
          have e2 := C.cell 1
          simp at e1 e2
          exact bodyPost_ret (v := .agg #[.int .i64 0, .int .i64 0]) (by simp [results, Tryz.results37, go_sem, e1, e2]) rfl ⟨by rw [HC.out], HF.out.1⟩
        · have d2 : decide (1 < (G : Int)) = true := decide_eq_true (by omega)
          have HC : Hid (ffF x y = 6) := ffF_6 HB.out (.inr (by rw [← hG]; exact h2))
          clear h1 h2 hG1 hG
          have HF : Hid (Below w.heap.size w (((w1.setCell ⟨w.heap.size + 1, 0, none⟩ (.int .i64 6)).setCell ⟨w.heap.size + 1, 1, none⟩ (.int .i64 0)).alloc (.cells #[.int .i64 0, .int .i64 0] 25)) ∧ Cl (w.heap.size + 1) [.int .i64 6, .int .i64 0] 25 (((w1.setCell ⟨w.heap.size + 1, 0, none⟩ (.int .i64 6)).setCell ⟨w.heap.size + 1, 1, none⟩ (.int .i64 0)).alloc (.cells #[.int .i64 0, .int .i64 0] 25))) := by
            have h := (H1.out.2.setCell (p := ⟨w.heap.size + 1, 0, none⟩) (by simp) (.int .i64 6)).setCell (p := ⟨w.heap.size + 1, 1, none⟩) (by simp) (.int .i64 0)
            exact ⟨h.alloc h.size _, ((H1.out.1.set 0 _).set 1 _).alloc _⟩
          clear H0 H1
          go_wp2
          have C := HF.out.2
          have e1 := C.cell 0
          have e2 := C.cell 1
          simp at e1 e2
          exact bodyPost_ret (v := .agg #[.int .i64 6, .int .i64 0]) (by simp [results, Tryz.results37, go_sem, e1, e2]) rfl ⟨by rw [HC.out], HF.out.1⟩
end Go.Proofs.YtcnfhndejkngkaaGreatDoor
end

section
set_option linter.unusedVariables false
set_option maxRecDepth 100000
namespace Go.Proofs.YtcnfhndejkngkaaGreatDoor
def pcode (x y : Int) : Int := if ffF x y ≠ 0 then ffF x y else if x < 1 then 3 else if 20001 < ST.qsum x.toNat y.toNat then 9 else 0
def ptext (x y : Int) : ByteArray := if pcode x y ≠ 0 then ⟨#[]⟩ else pathS (ST.path x.toNat y.toNat)
theorem ffF_casesT (x y : Int) : ffF x y = 0 ∨ ffF x y = 3 ∨ ffF x y = 6 := by
  unfold ffF; split <;> (try split) <;> simp
theorem ffF_ok {x y : Int} (h : ffF x y = 0) : -1000000000000000000 ≤ x ∧ x ≤ 1000000000000000000 ∧ 1 ≤ y ∧ y ≤ 1000000000000000000 ∧ Int.gcd x y = 1 := by
  unfold ffF at h
  split at h
  · rename_i h1
    split at h
    · exact absurd h (by decide)
    · rename_i h2
      have hx : -1000000000000000000 ≤ x ∧ x ≤ 1000000000000000000 := by simpa [numB] using h1.1
      have hy : -1000000000000000000 ≤ y ∧ y ≤ 1000000000000000000 := by simpa [numB] using h1.2
      exact ⟨hx.1, hx.2, by omega, hy.2, Decidable.not_not.1 (fun h3 => h2 (.inr h3))⟩
  · exact absurd h (by decide)
theorem path_cases (x y : Int) : ((ffF x y = 3 ∨ ffF x y = 6) ∧ pcode x y = ffF x y ∧ ptext x y = ⟨#[]⟩) ∨ (ffF x y = 0 ∧ x < 1 ∧ pcode x y = 3 ∧ ptext x y = ⟨#[]⟩) ∨ (ffF x y = 0 ∧ 1 ≤ x ∧ 20001 < ST.qsum x.toNat y.toNat ∧ pcode x y = 9 ∧ ptext x y = ⟨#[]⟩) ∨ (ffF x y = 0 ∧ 1 ≤ x ∧ ST.qsum x.toNat y.toNat ≤ 20001 ∧ pcode x y = 0 ∧ ptext x y = pathS (ST.path x.toNat y.toNat)) := by
  unfold ptext pcode
  rcases ffF_casesT x y with h | h | h
  · by_cases h1 : x < 1
    · refine .inr (.inl ⟨h, h1, ?_, ?_⟩) <;> simp [h, h1]
    · by_cases h2 : 20001 < ST.qsum x.toNat y.toNat
      · refine .inr (.inr (.inl ⟨h, by omega, h2, ?_, ?_⟩)) <;> simp [h, h1, h2]
      · refine .inr (.inr (.inr ⟨h, by omega, by omega, ?_, ?_⟩)) <;> simp [h, h1, h2]
  · exact .inl ⟨.inl h, by simp [h], by simp [h]⟩
  · exact .inl ⟨.inr h, by simp [h], by simp [h]⟩
end Go.Proofs.YtcnfhndejkngkaaGreatDoor
end
