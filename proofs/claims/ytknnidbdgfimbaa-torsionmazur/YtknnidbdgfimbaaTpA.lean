/- The program: package torsion's measure, Check, groupOf, likelyY. -/
import Derived.Test.YtknnidbdgfimbaaJnA
import Derived.Test.YtknnidbdgfimbaaTnM
import Derived.Test.YtknnidbdgfimbaaJnD
set_option linter.unusedSimpArgs false
set_option linter.unusedVariables false
set_option maxRecDepth 100000
namespace Go.Proofs.Ytknnidbdgfimbaa
open Go.RowKit TN

theorem tn_abs {x y M N : Int} (h1 : -M ≤ x) (h2 : x ≤ M) (h3 : -N ≤ y) (h4 : y ≤ N) : -(M * N) ≤ x * y ∧ x * y ≤ M * N := by
  have hM : 0 ≤ M := by omega
  have hN : 0 ≤ N := by omega
  have h : (x * y).natAbs ≤ (M * N).natAbs := by
    rw [Int.natAbs_mul, Int.natAbs_mul]
    exact Nat.mul_le_mul (by omega) (by omega)
  have h0 := Int.mul_nonneg hM hN
  omega
theorem tala (W : World) (o : Obj) : Below W.heap.size W (W.alloc o) := Below.alloc (Below.refl _ _) (Nat.le_refl _) _
theorem tcnew (W : World) (l : List Value) (t : TypeId) (z : Nat) (hz : W.heap.size = z) : Cl z l t (W.alloc (.cells l.toArray t)) := by subst hz; exact Cl.new l t W

def Tv (a b : Int) : Value := .agg #[.int .i64 a, .int .i64 b, .int .i64 (dis a b)]
def Tl (a b : Int) : List Value := [.int .i64 a, .int .i64 b, .int .i64 (dis a b)]

set_option maxHeartbeats 1000000 in
theorem measure_any (a b : Int) (w : World) (a1 : -1000 ≤ a) (a2 : a ≤ 1000) (b1 : -1000 ≤ b) (b2 : b ≤ 1000) :
    Calls Try.prog 16 #[.int .i64 a, .int .i64 b] w fun e w' => e = .returned (.int .i64 (dis a b)) ∧ w' = w := by
  unfold dis
  obtain ⟨p, hp⟩ : ∃ p, 4 * a * a = p := ⟨_, rfl⟩
  have e1 := tn_abs (M := 4000) (N := 1000) (show -4000 ≤ 4 * a by omega) (by omega) a1 a2
  rw [hp] at e1 ⊢
  obtain ⟨q, hq⟩ : ∃ q, p * a = q := ⟨_, rfl⟩
  have e2 := tn_abs (M := 4000000) (N := 1000) (show -4000000 ≤ p by omega) (by omega) a1 a2
  rw [hq] at e2 ⊢
  obtain ⟨r, hr⟩ : ∃ r, 27 * b * b = r := ⟨_, rfl⟩
  have e3 := tn_abs (M := 27000) (N := 1000) (show -27000 ≤ 27 * b by omega) (by omega) b1 b2
  rw [hr] at e3 ⊢
  go_enter Try.func16, Try.ntmps16
  go_wp2
  go_ret
  exact ⟨rfl, rfl⟩

/-- What Check says. -/
def tf (a b : Int) : Int × Int := if inB 1000 a = true then (if inB 1000 b = true then (if dis a b = 0 then (6, 0) else (0, 0)) else (3, 1)) else (3, 0)
theorem inB_iff {m x : Int} : inB m x = true ↔ -m ≤ x ∧ x ≤ m := by simp [inB]
theorem tf_cu {a b : Int} (h : Cu a b) : tf a b = (0, 0) := by
  unfold tf
  rw [if_pos (inB_iff.2 ⟨h.a1, h.a2⟩), if_pos (inB_iff.2 ⟨h.b1, h.b2⟩), if_neg h.d0]
theorem tf_zero {a b : Int} (h : (tf a b).1 = 0) : Cu a b := by
  unfold tf at h
  split at h
  · rename_i h1
    split at h
    · rename_i h2
      split at h
      · simp at h
      · rename_i h3
        have h1 := inB_iff.1 h1
        have h2 := inB_iff.1 h2
        exact ⟨h1.1, h1.2, h2.1, h2.2, h3⟩
    · simp at h
  · simp at h

set_option maxHeartbeats 2000000 in
theorem tCheck_any (a b : Int) (w : World) :
    Calls Try.prog 5 #[.int .i64 a, .int .i64 b] w fun e w' => e = .returned (.agg #[.int .i64 (tf a b).1, .int .i64 (tf a b).2]) ∧ Below w.heap.size w w' := by
  have HW : Hid (Calls Try.prog 15 #[.int .i64 1000, .slice (some ⟨w.heap.size + 1, 0, none⟩) 2 2] ((w.alloc (.cells #[.int .i64 0, .int .i64 0] 23)).alloc (.cells #[.int .i64 a, .int .i64 b] 3)) fun e w' => e = .returned (.agg #[.int .i64 (nw 1000 0 [a, b]).1, .int .i64 (nw 1000 0 [a, b]).2]) ∧ Below ((w.alloc (.cells #[.int .i64 0, .int .i64 0] 23)).alloc (.cells #[.int .i64 a, .int .i64 b] 3)).heap.size ((w.alloc (.cells #[.int .i64 0, .int .i64 0] 23)).alloc (.cells #[.int .i64 a, .int .i64 b] 3)) w') := by
    have C := tcnew (w.alloc (.cells #[.int .i64 0, .int .i64 0] 23)) [.int .i64 a, .int .i64 b] 3 (w.heap.size + 1) (by simp)
    have := bwithin_any 1000 [a, b] (w.heap.size + 1) 0 2 ((w.alloc (.cells #[.int .i64 0, .int .i64 0] 23)).alloc (.cells #[.int .i64 a, .int .i64 b] 3)) (by decide) (by decide) (by simp) (by simp) (by
      intro j hj
      rw [Nat.zero_add, C.cell]
      match j, hj with
      | 0, _ => rfl
      | 1, _ => rfl)
    exact this
  have F0 : Cl w.heap.size [.int .i64 0, .int .i64 0] 23 ((w.alloc (.cells #[.int .i64 0, .int .i64 0] 23)).alloc (.cells #[.int .i64 a, .int .i64 b] 3)) := (Cl.new _ _ w).alloc _
  have K0 : Below w.heap.size w ((w.alloc (.cells #[.int .i64 0, .int .i64 0] 23)).alloc (.cells #[.int .i64 a, .int .i64 b] 3)) := (tala _ _).trans ((tala _ _).mono (by simp))
  have hs2 : ((w.alloc (.cells #[.int .i64 0, .int .i64 0] 23)).alloc (.cells #[.int .i64 a, .int .i64 b] 3)).heap.size = w.heap.size + 2 := by simp
  by_cases h1 : inB 1000 a = true
  · by_cases h2 : inB 1000 b = true
    · rw [show nw 1000 0 [a, b] = (0, 0) by simp [nw, h1, h2]] at HW
      have HM : Hid (∀ w, Calls Try.prog 16 #[.int .i64 a, .int .i64 b] w fun e w' => e = .returned (.int .i64 (dis a b)) ∧ w' = w) := fun w => measure_any a b w (inB_iff.1 h1).1 (inB_iff.1 h1).2 (inB_iff.1 h2).1 (inB_iff.1 h2).2
      by_cases h3 : dis a b = 0
      · rw [show tf a b = (6, 0) by simp [tf, h1, h2, h3]]
        rw [h3] at HM
        clear h1 h2 h3
        go_enter Try.func5, Try.ntmps5
        go_wp2_with fail
        refine HW.out.mono ?_
        rintro e w1 ⟨rfl, k1⟩
        have F1 : ∀ x : Obj, Cl w.heap.size [.int .i64 0, .int .i64 0] 23 (w1.alloc x) := fun x => (F0.below k1).alloc x
        have e0 : ∀ x : Obj, (w1.alloc x).cell? ⟨w.heap.size, 0, none⟩ = some (.int .i64 0) := fun x => (F1 x).cell 0
        have e1 : ∀ x : Obj, (w1.alloc x).cell? ⟨w.heap.size, 1, none⟩ = some (.int .i64 0) := fun x => (F1 x).cell 1
        have e2 : ∀ x : Obj, (w1.alloc x).frozen? ⟨w.heap.size, 0, none⟩ = false := fun x => (F1 x).frozen 0
        have e3 : ∀ x : Obj, (w1.alloc x).frozen? ⟨w.heap.size, 1, none⟩ = false := fun x => (F1 x).frozen 1
        have HK : Hid (∀ x : Obj, Below w.heap.size w (w1.alloc x)) := fun x => (K0.trans (k1.mono (by simp; omega))).alloc (by have := (F1 x).lt; have := k1.size; simp at this; omega) _
        have HF1 : Hid (∀ x : Obj, Cl w.heap.size [.int .i64 0, .int .i64 0] 23 (w1.alloc x)) := F1
        clear k1 F0 F1 K0 HW
        go_wp2_with fail
        refine (HM.out _).mono ?_
        rintro e w2 ⟨rfl, hw2⟩
        rw [hw2]
        clear hw2 w2
        go_wp2
        have Z := ((HF1.out (.cells #[.int .i64 0, .int .i64 0] 23)).set 0 (.int .i64 6)).set 1 (.int .i64 0)
        have z0 := Z.cell 0
        have z1 := Z.cell 1
        simp at z0 z1
        refine bodyPost_ret (v := .agg #[.int .i64 6, .int .i64 0]) (by simp [results, Try.results5, go_sem, z0, z1]) rfl ⟨rfl, ?_⟩
        exact ((HK.out _).setCell (by simp) _).setCell (by simp) _
      · rw [show tf a b = (0, 0) by simp [tf, h1, h2, h3]]
        obtain ⟨d, hd⟩ : ∃ d, dis a b = d := ⟨_, rfl⟩
        rw [hd] at HM h3
        have t3 : (d == 0) = false := beq_eq_false_iff_ne.2 h3
        clear h1 h2 h3 hd
        go_enter Try.func5, Try.ntmps5
        go_wp2_with fail
        refine HW.out.mono ?_
        rintro e w1 ⟨rfl, k1⟩
        have F1 : ∀ x : Obj, Cl w.heap.size [.int .i64 0, .int .i64 0] 23 (w1.alloc x) := fun x => (F0.below k1).alloc x
        have e0 : ∀ x : Obj, (w1.alloc x).cell? ⟨w.heap.size, 0, none⟩ = some (.int .i64 0) := fun x => (F1 x).cell 0
        have e1 : ∀ x : Obj, (w1.alloc x).cell? ⟨w.heap.size, 1, none⟩ = some (.int .i64 0) := fun x => (F1 x).cell 1
        have e2 : ∀ x : Obj, (w1.alloc x).frozen? ⟨w.heap.size, 0, none⟩ = false := fun x => (F1 x).frozen 0
        have e3 : ∀ x : Obj, (w1.alloc x).frozen? ⟨w.heap.size, 1, none⟩ = false := fun x => (F1 x).frozen 1
        have HK : Hid (∀ x : Obj, Below w.heap.size w (w1.alloc x)) := fun x => (K0.trans (k1.mono (by simp; omega))).alloc (by have := (F1 x).lt; have := k1.size; simp at this; omega) _
        have HF1 : Hid (∀ x : Obj, Cl w.heap.size [.int .i64 0, .int .i64 0] 23 (w1.alloc x)) := F1
        clear k1 F0 F1 K0 HW
        go_wp2_with fail
        refine (HM.out _).mono ?_
        rintro e w2 ⟨rfl, hw2⟩
        rw [hw2]
        clear hw2 w2
        go_wp2
        have Z := ((HF1.out (.cells #[.int .i64 0, .int .i64 0] 23)).set 0 (.int .i64 0)).set 1 (.int .i64 0)
        have z0 := Z.cell 0
        have z1 := Z.cell 1
        simp at z0 z1
        refine bodyPost_ret (v := .agg #[.int .i64 0, .int .i64 0]) (by simp [results, Try.results5, go_sem, z0, z1]) rfl ⟨rfl, ?_⟩
        exact ((HK.out _).setCell (by simp) _).setCell (by simp) _
    · rw [show nw 1000 0 [a, b] = (3, 1) by simp [nw, h1, h2]] at HW
      rw [show tf a b = (3, 1) by simp [tf, h1, h2]]
      clear h1 h2
      go_enter Try.func5, Try.ntmps5
      go_wp2_with fail
      refine HW.out.mono ?_
      rintro e w1 ⟨rfl, k1⟩
      have F1 : ∀ x : Obj, Cl w.heap.size [.int .i64 0, .int .i64 0] 23 (w1.alloc x) := fun x => (F0.below k1).alloc x
      have e0 : ∀ x : Obj, (w1.alloc x).cell? ⟨w.heap.size, 0, none⟩ = some (.int .i64 0) := fun x => (F1 x).cell 0
      have e1 : ∀ x : Obj, (w1.alloc x).cell? ⟨w.heap.size, 1, none⟩ = some (.int .i64 0) := fun x => (F1 x).cell 1
      have e2 : ∀ x : Obj, (w1.alloc x).frozen? ⟨w.heap.size, 0, none⟩ = false := fun x => (F1 x).frozen 0
      have e3 : ∀ x : Obj, (w1.alloc x).frozen? ⟨w.heap.size, 1, none⟩ = false := fun x => (F1 x).frozen 1
      have HK : Hid (∀ x : Obj, Below w.heap.size w (w1.alloc x)) := fun x => (K0.trans (k1.mono (by simp; omega))).alloc (by have := (F1 x).lt; have := k1.size; simp at this; omega) _
      have HF1 : Hid (∀ x : Obj, Cl w.heap.size [.int .i64 0, .int .i64 0] 23 (w1.alloc x)) := F1
      clear k1 F0 F1 K0 HW
      go_wp2
      have Z := ((HF1.out (.cells #[.int .i64 3, .int .i64 1] 23)).set 0 (.int .i64 3)).set 1 (.int .i64 1)
      have z0 := Z.cell 0
      have z1 := Z.cell 1
      simp at z0 z1
      refine bodyPost_ret (v := .agg #[.int .i64 3, .int .i64 1]) (by simp [results, Try.results5, go_sem, z0, z1]) rfl ⟨rfl, ?_⟩
      exact ((HK.out _).setCell (by simp) _).setCell (by simp) _
  · rw [show nw 1000 0 [a, b] = (3, 0) by simp [nw, h1]] at HW
    rw [show tf a b = (3, 0) by simp [tf, h1]]
    clear h1
    go_enter Try.func5, Try.ntmps5
    go_wp2_with fail
    refine HW.out.mono ?_
    rintro e w1 ⟨rfl, k1⟩
    have F1 : ∀ x : Obj, Cl w.heap.size [.int .i64 0, .int .i64 0] 23 (w1.alloc x) := fun x => (F0.below k1).alloc x
    have e0 : ∀ x : Obj, (w1.alloc x).cell? ⟨w.heap.size, 0, none⟩ = some (.int .i64 0) := fun x => (F1 x).cell 0
    have e1 : ∀ x : Obj, (w1.alloc x).cell? ⟨w.heap.size, 1, none⟩ = some (.int .i64 0) := fun x => (F1 x).cell 1
    have e2 : ∀ x : Obj, (w1.alloc x).frozen? ⟨w.heap.size, 0, none⟩ = false := fun x => (F1 x).frozen 0
    have e3 : ∀ x : Obj, (w1.alloc x).frozen? ⟨w.heap.size, 1, none⟩ = false := fun x => (F1 x).frozen 1
    have HK : Hid (∀ x : Obj, Below w.heap.size w (w1.alloc x)) := fun x => (K0.trans (k1.mono (by simp; omega))).alloc (by have := (F1 x).lt; have := k1.size; simp at this; omega) _
    have HF1 : Hid (∀ x : Obj, Cl w.heap.size [.int .i64 0, .int .i64 0] 23 (w1.alloc x)) := F1
    clear k1 F0 F1 K0 HW
    go_wp2
    have Z := ((HF1.out (.cells #[.int .i64 3, .int .i64 0] 23)).set 0 (.int .i64 3)).set 1 (.int .i64 0)
    have z0 := Z.cell 0
    have z1 := Z.cell 1
    simp at z0 z1
    refine bodyPost_ret (v := .agg #[.int .i64 3, .int .i64 0]) (by simp [results, Try.results5, go_sem, z0, z1]) rfl ⟨rfl, ?_⟩
    exact ((HK.out _).setCell (by simp) _).setCell (by simp) _

theorem groupOf_any (a b : Int) (w : World) (h : Cu a b) :
    Calls Try.prog 17 #[.int .i64 a, .int .i64 b] w fun e w' => e = .returned (Tv a b) ∧ Below w.heap.size w w' := by
  have HM : Hid (∀ w, Calls Try.prog 16 #[.int .i64 a, .int .i64 b] w fun e w' => e = .returned (.int .i64 (dis a b)) ∧ w' = w) := fun w => measure_any a b w h.a1 h.a2 h.b1 h.b2
  clear h
  unfold Tv
  obtain ⟨d, hd⟩ : ∃ d, dis a b = d := ⟨_, rfl⟩
  rw [hd] at HM ⊢
  clear hd
  go_enter Try.func17, Try.ntmps17
  go_wp2_with fail
  refine (HM.out _).mono ?_
  rintro e w2 ⟨rfl, hw2⟩
  rw [hw2]
  clear hw2 w2
  go_wp2
  refine bodyPost_ret (v := .agg #[.int .i64 a, .int .i64 b, .int .i64 d]) (by simp [results, Try.results17, go_sem]) rfl ⟨rfl, ?_⟩
  exact tala _ _

/-- What likelyY answers. -/
def LyOut (a b x y : Int) (ok : Bool) : Prop := (ok = true → 0 ≤ y ∧ Lk a b x y) ∧ (ok = false → ∀ z, ¬ Lk a b x z)
theorem lk_pos {a b x z : Int} (h : Lk a b x z) : 0 ≤ cub a b x := by rw [← h.on]; exact sq_nn z
theorem lk_dv {a b x z : Int} (h : Lk a b x z) (h0 : cub a b x ≠ 0) : dis a b % cub a b x = 0 := by
  rcases h.dv with e | e
  · exfalso; apply h0; rw [← h.on, e]; rfl
  · rw [← h.on]; exact e
theorem lt_sq {y s : Int} (h : y * y = s) (hs : s ≤ 10000000000) : y ≤ 100000 := by
  rcases Int.lt_or_le 100000 y with g | g
  · have := Int.mul_nonneg (show 0 ≤ y - 100000 by omega) (show 0 ≤ y + 100000 by omega)
    have e : (y - 100000) * (y + 100000) = y * y - 10000000000 := by grind
    have : 0 < (y - 100000) * (y + 100000) := Int.mul_pos (by omega) (by omega)
    omega
  · exact g
theorem no_root {r n : Nat} {s z : Int} (h1 : r ^ 2 ≤ n) (h2 : n < (r + 1) ^ 2) (hn : s = n) (h3 : ¬ (r : Int) * r = s) : z * z = s → False := by
  intro hz
  have e1 : z.natAbs * z.natAbs = n := by
    have := Int.natAbs_mul_self (a := z)
    rw [hz, hn] at this
    exact_mod_cast this
  rw [Nat.pow_two] at h1 h2
  have e2 : z.natAbs ≤ r := by
    rcases Nat.lt_or_ge r z.natAbs with g | g
    · have := Nat.mul_le_mul (show r + 1 ≤ z.natAbs by omega) (show r + 1 ≤ z.natAbs by omega); omega
    · exact g
  have e3 : r ≤ z.natAbs := by
    rcases Nat.lt_or_ge z.natAbs r with g | g
    · have := Nat.mul_lt_mul_of_lt_of_le g (Nat.le_of_lt g) (by omega); omega
    · exact g
  apply h3
  rw [show r = z.natAbs by omega, hn, ← e1, Int.natCast_mul]
theorem tm_bd (d : Int) {s : Int} (hs : 0 < s) : -s < d.tmod s ∧ d.tmod s < s := by
  have h1 := Int.tmod_lt_of_pos d hs
  have h2 := Int.tmod_lt_of_pos (-d) hs
  rw [Int.neg_tmod] at h2
  omega
set_option maxHeartbeats 2000000 in
theorem likelyY_any (a b x : Int) (w : World) (h : Cu a b) :
    Calls Try.prog 54 #[Tv a b, .int .i64 x] w fun e w' => ∃ (y : Int) (ok : Bool), e = .returned (.tuple #[.int .i64 y, .bool ok]) ∧ LyOut a b x y ok ∧ Below w.heap.size w w' := by
  have HC : Hid (Cu a b) := h
  have ha1 := h.a1
  have ha2 := h.a2
  have hb1 := h.b1
  have hb2 := h.b2
  have hdb := h.bd
  have hd0 := h.d0
  clear h
  by_cases h1 : x < -32
  · have t1 : decide (x < -32) = true := decide_eq_true h1
    have HO : Hid (LyOut a b x 0 false) := ⟨fun e => by simp at e, fun _ z hz => by have := hz.range HC.out; omega⟩
    clear h1
    unfold Tv
    go_enter Try.func54, Try.ntmps54
    go_wp2
    exact bodyPost_ret (v := .tuple #[.int .i64 0, .bool false]) (by simp [results, Try.results54, go_sem]) rfl ⟨0, false, rfl, HO.out, tala _ _⟩
  have t1 : decide (x < -32) = false := decide_eq_false h1
  by_cases h2 : 1599 < x
  · have t2 : decide (1599 < x) = true := decide_eq_true h2
    have HO : Hid (LyOut a b x 0 false) := ⟨fun e => by simp at e, fun _ z hz => by have := hz.range HC.out; omega⟩
    clear h1 h2
    unfold Tv
    go_enter Try.func54, Try.ntmps54
    go_wp2
    exact bodyPost_ret (v := .tuple #[.int .i64 0, .bool false]) (by simp [results, Try.results54, go_sem]) rfl ⟨0, false, rfl, HO.out, tala _ _⟩
  have t2 : decide (1599 < x) = false := decide_eq_false h2
  have hx1 : -1599 ≤ x := by omega
  have hx2 : x ≤ 1599 := by omega
  obtain ⟨s, hs⟩ : ∃ s, cub a b x = s := ⟨_, rfl⟩
  have HS : Hid (cub a b x = s) := hs
  unfold cub at hs
  obtain ⟨p, hp⟩ : ∃ p, x * x = p := ⟨_, rfl⟩
  have e1 := tn_abs hx1 hx2 hx1 hx2
  rw [hp] at e1 hs
  obtain ⟨q, hq⟩ : ∃ q, p * x = q := ⟨_, rfl⟩
  have e2 := tn_abs (M := 1599 * 1599) (show -(1599 * 1599) ≤ p by omega) (by omega) hx1 hx2
  rw [hq] at e2 hs
  obtain ⟨r, hr⟩ : ∃ r, a * x = r := ⟨_, rfl⟩
  have e3 := tn_abs (M := 1000) (show -1000 ≤ a by omega) (by omega) hx1 hx2
  rw [hr] at e3 hs
  obtain ⟨d, hd⟩ : ∃ d, dis a b = d := ⟨_, rfl⟩
  have HD : Hid (dis a b = d) := hd
  rw [hd] at hdb hd0
  clear h1 h2
  unfold Tv
  rw [hd]
  clear hd
  rcases Int.lt_trichotomy s 0 with h3 | h3 | h3
  · have t3 : (s == 0) = false := beq_eq_false_iff_ne.2 (by omega)
    have t4 : decide (s < 0) = true := decide_eq_true h3
    have HO : Hid (LyOut a b x 0 false) := ⟨fun e => by simp at e, fun _ z hz => by have := lk_pos hz; have := HS.out; omega⟩
    clear h3
    go_enter Try.func54, Try.ntmps54
    go_wp2
    exact bodyPost_ret (v := .tuple #[.int .i64 0, .bool false]) (by simp [results, Try.results54, go_sem]) rfl ⟨0, false, rfl, HO.out, tala _ _⟩
  · have t3 : (s == 0) = true := beq_iff_eq.2 h3
    have HO : Hid (LyOut a b x 0 true) := ⟨fun _ => ⟨by omega, ⟨by have := HS.out; omega, Or.inl rfl⟩⟩, fun e => by simp at e⟩
    clear h3
    go_enter Try.func54, Try.ntmps54
    go_wp2
    exact bodyPost_ret (v := .tuple #[.int .i64 0, .bool true]) (by simp [results, Try.results54, go_sem]) rfl ⟨0, true, rfl, HO.out, tala _ _⟩
  · have t3 : (s == 0) = false := beq_eq_false_iff_ne.2 (by omega)
    have t4 : decide (s < 0) = false := decide_eq_false (by omega)
    by_cases h5 : d.tmod s = 0
    · have t5 : (d.tmod s == 0) = true := beq_iff_eq.2 h5
      obtain ⟨n, hn⟩ : ∃ n : Nat, s = n := ⟨s.toNat, by omega⟩
      have HR : Hid (∀ w, Calls Try.prog 67 #[.int .i64 s, .int .i64 2] w fun e w' => ∃ r : Nat, e = .returned (.tuple #[.int .i64 (r : Int), .agg #[.int .i64 0, .int .i64 0]]) ∧ r ^ 2 ≤ n ∧ n < (r + 1) ^ 2 ∧ r < 1152921504606846976 ∧ Below w.heap.size w w') := fun w => by rw [hn]; exact Root_ok n 2 w (numB_mk (by omega) (by omega)) (by decide) (by decide)
      have HN : Hid (s = n) := hn
      have HDv : Hid (dis a b % cub a b x = 0) := by
        show _ = _
        rw [HD.out, HS.out]
        exact Int.emod_eq_zero_of_dvd (Int.dvd_of_tmod_eq_zero h5)
      clear h5 hn
      go_enter Try.func54, Try.ntmps54
      go_wp2_with fail
      refine (HR.out _).mono ?_
      rintro e w1 ⟨y, rfl, g1, g2, g3, k1⟩
      have HK : Hid (Below w.heap.size w w1) := (tala w _).trans (k1.mono (by simp))
      by_cases h6 : (y : Int) * y = s
      · have t6 : ((y : Int) * y == s) = true := beq_iff_eq.2 h6
        have HO : Hid (LyOut a b x y true) := ⟨fun _ => ⟨by omega, ⟨by rw [h6, HS.out], Or.inr (by rw [h6, ← HS.out]; exact HDv.out)⟩⟩, fun e => by simp at e⟩
        have hyb := tn_abs (M := 100000) (N := 100000) (show -100000 ≤ (y : Int) by omega) (lt_sq h6 (by omega)) (show -100000 ≤ (y : Int) by omega) (lt_sq h6 (by omega))
        clear g1 g2 g3 k1 h6 HR HN HDv
        go_wp2
        exact bodyPost_ret (v := .tuple #[.int .i64 y, .bool true]) (by simp [results, Try.results54, go_sem]) rfl ⟨y, true, rfl, HO.out, HK.out⟩
      · have t6 : ((y : Int) * y == s) = false := beq_eq_false_iff_ne.2 h6
        have HO : Hid (LyOut a b x y false) := ⟨fun e => by simp at e, fun _ z hz => no_root g1 g2 HN.out h6 (hz.on.trans HS.out)⟩
        have hyb : (y : Int) * y ≤ s := by
          have : y * y ≤ n := by rw [← Nat.pow_two]; exact g1
          have h7 := HN.out
          rw [h7, ← Int.natCast_mul]; omega
        have hyc : 0 ≤ (y : Int) * y := sq_nn _
        clear g1 g2 g3 k1 h6 HR HN HDv
        go_wp2
        exact bodyPost_ret (v := .tuple #[.int .i64 y, .bool false]) (by simp [results, Try.results54, go_sem]) rfl ⟨y, false, rfl, HO.out, HK.out⟩
    · have t5 : (d.tmod s == 0) = false := beq_eq_false_iff_ne.2 h5
      have HO : Hid (LyOut a b x 0 false) := ⟨fun e => by simp at e, fun _ z hz => by
        have := lk_dv hz (by rw [HS.out]; omega)
        rw [HS.out, HD.out] at this
        exact h5 (Int.tmod_eq_zero_of_dvd (Int.dvd_of_emod_eq_zero this))⟩
      have htb := tm_bd d (show 0 < s by omega)
      clear h5
      go_enter Try.func54, Try.ntmps54
      go_wp2
      exact bodyPost_ret (v := .tuple #[.int .i64 0, .bool false]) (by simp [results, Try.results54, go_sem]) rfl ⟨0, false, rfl, HO.out, tala _ _⟩

end Go.Proofs.Ytknnidbdgfimbaa
