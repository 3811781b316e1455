import Derived.Test.YtcnfhndejkngkaaGreatDoorStB
import Derived.Test.YtcnfhndejkngkaaGreatDoorJdD
import Derived.Test.YtcnfhndejkngkaaGreatDoorFpA
import Derived.Test.YtcnfhndejkngkaaGreatDoorRows
import Derived.Test.YtcnfhndejkngkaaGreatDoorJdJ
import Derived.Test.YtcnfhndejkngkaaGreatDoorJdU
import Derived.Test.YtcnfhndejkngkaaGreatDoorJdT
import Derived.Deep.LoopGhost
import Derived.Test.YtcnfhndejkngkaaGreatDoorJdA
import Derived.BigQuiet
section
/- What frac.Path says: its fault's code, its text. -/
set_option linter.unusedVariables false
set_option maxRecDepth 100000
namespace Go.Proofs.YtcnfhndejkngkaaGreatDoor

def pcode (x y : Int) : Int := if ffF x y ≠ 0 then ffF x y else if x < 1 then 3 else if 20001 < ST.qsum x.toNat y.toNat then 9 else 0
def ptext (x y : Int) : ByteArray := if pcode x y ≠ 0 then ⟨#[]⟩ else pathS (ST.path x.toNat y.toNat)
theorem ffF_casesT (x y : Int) : ffF x y = 0 ∨ ffF x y = 3 ∨ ffF x y = 6 := by
  unfold ffF; split <;> (try split) <;> simp
/-- A fraction without a fault. -/
theorem ffF_ok {x y : Int} (h : ffF x y = 0) : -1000000000000000000 ≤ x ∧ x ≤ 1000000000000000000 ∧ 1 ≤ y ∧ y ≤ 1000000000000000000 ∧ Int.gcd x y = 1 := by
  unfold ffF at h
  split at h
  · rename_i h1
    split at h
    · exact absurd h (by decide)
    · rename_i h2
      have hx : -1000000000000000000 ≤ x ∧ x ≤ 1000000000000000000 := by simpa [numB] using h1.1
      have hy : -1000000000000000000 ≤ y ∧ y ≤ 1000000000000000000 := by simpa [numB] using h1.2
      exact ⟨hx.1, hx.2, by omega, hy.2, Decidable.not_not.1 (fun h3 => h2 (.inr h3))⟩
  · exact absurd h (by decide)
theorem path_cases (x y : Int) : ((ffF x y = 3 ∨ ffF x y = 6) ∧ pcode x y = ffF x y ∧ ptext x y = ⟨#[]⟩) ∨ (ffF x y = 0 ∧ x < 1 ∧ pcode x y = 3 ∧ ptext x y = ⟨#[]⟩) ∨ (ffF x y = 0 ∧ 1 ≤ x ∧ 20001 < ST.qsum x.toNat y.toNat ∧ pcode x y = 9 ∧ ptext x y = ⟨#[]⟩) ∨ (ffF x y = 0 ∧ 1 ≤ x ∧ ST.qsum x.toNat y.toNat ≤ 20001 ∧ pcode x y = 0 ∧ ptext x y = pathS (ST.path x.toNat y.toNat)) := by
  unfold ptext pcode
  rcases ffF_casesT x y with h | h | h
  · by_cases h1 : x < 1
    · refine .inr (.inl ⟨h, h1, ?_, ?_⟩) <;> simp [h, h1]
    · by_cases h2 : 20001 < ST.qsum x.toNat y.toNat
      · refine .inr (.inr (.inl ⟨h, by omega, h2, ?_, ?_⟩)) <;> simp [h, h1, h2]
      · refine .inr (.inr (.inr ⟨h, by omega, by omega, ?_, ?_⟩)) <;> simp [h, h1, h2]
  · exact .inl ⟨.inl h, by simp [h], by simp [h]⟩
  · exact .inl ⟨.inr h, by simp [h], by simp [h]⟩
end Go.Proofs.YtcnfhndejkngkaaGreatDoor
end

section
/- frac.Path. -/
set_option linter.unusedSimpArgs false
set_option linter.unusedVariables false
set_option maxRecDepth 100000
namespace Go.Proofs.YtcnfhndejkngkaaGreatDoor
open Go.RowKit LgM

set_option maxHeartbeats 4000000 in
theorem Path_any (x y : Int) (w : World) :
    Calls Tryz.prog 15 #[.agg #[.int .i64 x, .int .i64 y]] w fun e w' => e = .returned (.tuple #[.string (ptext x y), .agg #[.int .i64 (pcode x y), .int .i64 0]]) ∧ Below w.heap.size w w' := by
  have HPc : Hid _ := path_cases x y
  have HOk : Hid (ffF x y = 0 → -1000000000000000000 ≤ x ∧ x ≤ 1000000000000000000 ∧ 1 ≤ y ∧ y ≤ 1000000000000000000 ∧ Int.gcd x y = 1) := fun h => ffF_ok h
  obtain ⟨c0, hc0⟩ : ∃ c, c = ffF x y := ⟨_, rfl⟩
  have HCh : Hid (∀ W, Calls Tryz.prog 37 #[.agg #[.int .i64 x, .int .i64 y]] W fun e w' => e = .returned (.agg #[.int .i64 c0, .int .i64 0]) ∧ Below W.heap.size W w') := fun W => by rw [hc0]; exact check_any x y W
  have HC0 : Hid (c0 = ffF x y) := hc0
  clear hc0
  obtain ⟨bf, hbf⟩ : ∃ b, b = w.heap.size + 1 := ⟨_, rfl⟩
  obtain ⟨W0, hW0⟩ : ∃ W, W = (w.alloc (.cells #[.int .i64 x, .int .i64 y] 23)).alloc (.cells #[.int .i64 0, .int .i64 0] 25) := ⟨_, rfl⟩
  have K0 : Hid (Cl w.heap.size [.int .i64 x, .int .i64 y] 23 W0 ∧ Cl bf [.int .i64 0, .int .i64 0] 25 W0 ∧ Below w.heap.size w W0 ∧ w.heap.size ≤ bf) := by
    have h1 := Cl.new [.int .i64 0, .int .i64 0] 25 (w.alloc (.cells #[.int .i64 x, .int .i64 y] 23))
    show _ ∧ _
    rw [hW0, hbf]
    exact ⟨(Cl.new _ _ _).alloc _, by simpa using h1, ((Below.refl _ _).alloc (Nat.le_refl _) _).alloc (by simp) _, by omega⟩
  have p0 := K0.out.1.cell 0
  have p1 := K0.out.1.cell 1
  simp at p0 p1
  go_enter Tryz.func15, Tryz.ntmps15
  go_wp2_with fail
  rw [← hW0]
  simp only [← hbf]
  clear hW0 hbf
  refine (HCh.out W0).mono ?_
  rintro e w1 ⟨rfl, k1⟩
  obtain ⟨W2, hW2⟩ : ∃ W, W = w1.alloc (.cells #[.int .i64 c0, .int .i64 0] 25) := ⟨_, rfl⟩
  have K1 : Hid (Cl w.heap.size [.int .i64 x, .int .i64 y] 23 w1 ∧ Cl bf [.int .i64 0, .int .i64 0] 25 w1 ∧ Below w.heap.size w w1 ∧ w.heap.size ≤ bf) := ⟨K0.out.1.below k1, K0.out.2.1.below k1, K0.out.2.2.1.trans (k1.mono K0.out.2.2.1.size), K0.out.2.2.2⟩
  have K2 : Hid (Cl w.heap.size [.int .i64 x, .int .i64 y] 23 W2 ∧ Cl bf [.int .i64 0, .int .i64 0] 25 W2 ∧ Below w.heap.size w W2 ∧ w.heap.size ≤ bf) := by
    show _ ∧ _
    rw [hW2]
    exact ⟨K1.out.1.alloc _, K1.out.2.1.alloc _, K1.out.2.2.1.alloc K1.out.2.2.1.size _, K1.out.2.2.2⟩
  have HW2 : Hid (W2 = w1.alloc (.cells #[.int .i64 c0, .int .i64 0] 25)) := hW2
  clear k1 K0 hW2 p0 p1
  have p0 := K1.out.1.cell 0
  have p1 := K1.out.1.cell 1
  have p2 := K1.out.1.lt
  have p3 := K1.out.2.1.cell 0
  have p4 := K1.out.2.1.cell 1
  have p5 := K1.out.2.1.lt
  have p6 := K1.out.2.1.frozen 0
  have p7 := K1.out.2.1.frozen 1
  simp at p0 p1 p3 p4
  rcases HPc.out with ⟨h0, h1, h2⟩ | ⟨h0, h1, h2, h3⟩ | ⟨h0, h1, h2, h3, h4⟩ | ⟨h0, h1, h2, h3, h4⟩
  · have HC : Hid (pcode x y = c0 ∧ ptext x y = ⟨#[]⟩) := ⟨by rw [h1, HC0.out], h2⟩
    have tc : (c0 != 0) = true := by
      rw [HC0.out]
      rcases h0 with h | h <;> rw [h] <;> rfl
    have HF : Hid (Below w.heap.size w (((w1.setCell ⟨bf, 0, none⟩ (.int .i64 c0)).setCell ⟨bf, 1, none⟩ (.int .i64 0)).alloc (.cells #[.int .i64 c0, .int .i64 0] 25)) ∧ Cl bf [.int .i64 c0, .int .i64 0] 25 (((w1.setCell ⟨bf, 0, none⟩ (.int .i64 c0)).setCell ⟨bf, 1, none⟩ (.int .i64 0)).alloc (.cells #[.int .i64 c0, .int .i64 0] 25))) := by
      have h := (K1.out.2.2.1.setCell (p := ⟨bf, 0, none⟩) K1.out.2.2.2 (.int .i64 c0)).setCell (p := ⟨bf, 1, none⟩) K1.out.2.2.2 (.int .i64 0)
      exact ⟨h.alloc h.size _, ((K1.out.2.1.set 0 _).set 1 _).alloc _⟩
    clear h0 h1 h2 HPc HOk HCh HC0 HW2 K2
    go_wp2
    go_region
    all_goals
      go_wp2
      have e1 := HF.out.2.drew.cell 0
      have e2 := HF.out.2.drew.cell 1
      simp at e1 e2
      exact bodyPost_ret (v := .tuple #[.string ⟨#[]⟩, .agg #[.int .i64 c0, .int .i64 0]]) (by simp [results, Tryz.results15, go_sem, e1, e2]) rfl ⟨by rw [HC.out.1, HC.out.2], HF.out.1.drew⟩
  · have HC : Hid (pcode x y = 3 ∧ ptext x y = ⟨#[]⟩) := ⟨h2, h3⟩
    have tx : decide (x < 1) = true := decide_eq_true h1
    have tc : c0 = 0 := by rw [HC0.out, h0]
    subst tc
    have HF : Hid (Below w.heap.size w (((w1.setCell ⟨bf, 0, none⟩ (.int .i64 3)).setCell ⟨bf, 1, none⟩ (.int .i64 0)).alloc (.cells #[.int .i64 0, .int .i64 0] 25)) ∧ Cl bf [.int .i64 3, .int .i64 0] 25 (((w1.setCell ⟨bf, 0, none⟩ (.int .i64 3)).setCell ⟨bf, 1, none⟩ (.int .i64 0)).alloc (.cells #[.int .i64 0, .int .i64 0] 25))) := by
      have h := (K1.out.2.2.1.setCell (p := ⟨bf, 0, none⟩) K1.out.2.2.2 (.int .i64 3)).setCell (p := ⟨bf, 1, none⟩) K1.out.2.2.2 (.int .i64 0)
      exact ⟨h.alloc h.size _, ((K1.out.2.1.set 0 _).set 1 _).alloc _⟩
    clear h0 h1 h2 h3 HPc HOk HCh HC0 HW2 K2
    go_wp2
    have e1 := HF.out.2.cell 0
    have e2 := HF.out.2.cell 1
    simp at e1 e2
    exact bodyPost_ret (v := .tuple #[.string ⟨#[]⟩, .agg #[.int .i64 3, .int .i64 0]]) (by simp [results, Tryz.results15, go_sem, e1, e2]) rfl ⟨by rw [HC.out.1, HC.out.2], HF.out.1⟩
  · have HC : Hid (pcode x y = 9 ∧ ptext x y = ⟨#[]⟩) := ⟨h3, h4⟩
    have tx : decide (x < 1) = false := decide_eq_false (by omega)
    have h5 := HOk.out h0
    obtain ⟨X, hX⟩ : ∃ X : Nat, X = x.toNat := ⟨_, rfl⟩
    obtain ⟨Y, hY⟩ : ∃ Y : Nat, Y = y.toNat := ⟨_, rfl⟩
    try rw [← hX, ← hY] at h2
    try rw [← hX, ← hY] at h4
    have eX : x = (X : Int) := by omega
    have eY : y = (Y : Int) := by omega
    have HRn : Hid (∀ W, Calls Tryz.prog 46 #[.agg #[.int .i64 x, .int .i64 y]] W fun e w' => ∃ (L : List Nat) (n g c : Nat), e = .returned (.tuple #[.slice (some ⟨g, 0, none⟩) n c, .bool (decide (ST.qsum X Y ≤ 20001))]) ∧ Rw9 L n g w' ∧ n ≤ 120 ∧ ST.rl true L = ST.path X Y ∧ L.sum + 1 = ST.qsum X Y ∧ Below W.heap.size W w') := fun W => by
      rw [eX, eY]
      exact runsTo_any X Y W (by omega) (by omega) (by omega) (by omega) (by
        have := h5.2.2.2.2
        rw [eX, eY] at this
        exact this)
    have tc : c0 = 0 := by rw [HC0.out, h0]
    subst tc
    clear h5 eX eY hX hY h0 HPc HOk HCh HC0
    go_wp2_with fail
    rw [← HW2.out]
    clear HW2 p0 p1 p2 p3 p4 p5 p6 p7
    refine (HRn.out W2).mono ?_
    rintro e w3 ⟨L, n, g, c, rfl, hrw, hn, hrl, hsum, k3⟩
    have K3 : Hid (Cl bf [.int .i64 0, .int .i64 0] 25 w3 ∧ Below w.heap.size w w3 ∧ w.heap.size ≤ bf) := ⟨K2.out.2.1.below k3, K2.out.2.2.1.trans (k3.mono K2.out.2.2.1.size), K2.out.2.2.2⟩
    clear k3 K1 K2
    have td : decide (ST.qsum X Y ≤ 20001) = false := decide_eq_false (by omega)
    have f0 := K3.out.1.cell 0
    have f1 := K3.out.1.cell 1
    have f2 := K3.out.1.frozen 0
    have f3 := K3.out.1.frozen 1
    simp at f0 f1
    have HF : Hid (Below w.heap.size w ((w3.setCell ⟨bf, 0, none⟩ (.int .i64 9)).setCell ⟨bf, 1, none⟩ (.int .i64 0)) ∧ Cl bf [.int .i64 9, .int .i64 0] 25 ((w3.setCell ⟨bf, 0, none⟩ (.int .i64 9)).setCell ⟨bf, 1, none⟩ (.int .i64 0))) :=
      ⟨(K3.out.2.1.setCell K3.out.2.2 _).setCell K3.out.2.2 _, (K3.out.1.set 0 _).set 1 _⟩
    clear hrw hrl hsum h1 h2 h3 h4 K3
    rw [td]
    clear td
    go_wp2
    have e1 := HF.out.2.cell 0
    have e2 := HF.out.2.cell 1
    simp at e1 e2
    exact bodyPost_ret (v := .tuple #[.string ⟨#[]⟩, .agg #[.int .i64 9, .int .i64 0]]) (by simp [results, Tryz.results15, go_sem, e1, e2]) rfl ⟨by rw [HC.out.1, HC.out.2], HF.out.1⟩
  · obtain ⟨T, hT⟩ : ∃ T, T = ptext x y := ⟨_, rfl⟩
    have HC : Hid (pcode x y = 0 ∧ ptext x y = T) := ⟨h3, hT.symm⟩
    rw [← hT] at h4
    clear hT
    have tx : decide (x < 1) = false := decide_eq_false (by omega)
    have h5 := HOk.out h0
    obtain ⟨X, hX⟩ : ∃ X : Nat, X = x.toNat := ⟨_, rfl⟩
    obtain ⟨Y, hY⟩ : ∃ Y : Nat, Y = y.toNat := ⟨_, rfl⟩
    try rw [← hX, ← hY] at h2
    try rw [← hX, ← hY] at h4
    have eX : x = (X : Int) := by omega
    have eY : y = (Y : Int) := by omega
    have HRn : Hid (∀ W, Calls Tryz.prog 46 #[.agg #[.int .i64 x, .int .i64 y]] W fun e w' => ∃ (L : List Nat) (n g c : Nat), e = .returned (.tuple #[.slice (some ⟨g, 0, none⟩) n c, .bool (decide (ST.qsum X Y ≤ 20001))]) ∧ Rw9 L n g w' ∧ n ≤ 120 ∧ ST.rl true L = ST.path X Y ∧ L.sum + 1 = ST.qsum X Y ∧ Below W.heap.size W w') := fun W => by
      rw [eX, eY]
      exact runsTo_any X Y W (by omega) (by omega) (by omega) (by omega) (by
        have := h5.2.2.2.2
        rw [eX, eY] at this
        exact this)
    have tc : c0 = 0 := by rw [HC0.out, h0]
    subst tc
    clear h5 eX eY hX hY h0 HPc HOk HCh HC0
    go_wp2_with fail
    rw [← HW2.out]
    clear HW2 p0 p1 p2 p3 p4 p5 p6 p7
    refine (HRn.out W2).mono ?_
    rintro e w3 ⟨L, n, g, c, rfl, hrw, hn, hrl, hsum, k3⟩
    have K3 : Hid (Cl bf [.int .i64 0, .int .i64 0] 25 w3 ∧ Below w.heap.size w w3 ∧ w.heap.size ≤ bf) := ⟨K2.out.2.1.below k3, K2.out.2.2.1.trans (k3.mono K2.out.2.2.1.size), K2.out.2.2.2⟩
    clear k3 K1 K2
    have td : decide (ST.qsum X Y ≤ 20001) = true := decide_eq_true (by omega)
    have HSt : Hid (∀ W, Below w3.heap.size w3 W → Calls Tryz.prog 47 #[.slice (some ⟨g, 0, none⟩) n c] W fun e w' => e = .returned (.string T) ∧ Below W.heap.size W w') := fun W kk => by
      rw [h4, ← hrl]
      exact steps_any L n g c W (hrw.below kk) hn (by omega)
    clear hrw hrl hsum h1 h2 h3 h4
    rw [td]
    clear td
    go_wp2_with fail
    refine (HSt.out w3 (Below.refl _ _)).mono ?_
    rintro e w4 ⟨rfl, k4⟩
    have K4 : Hid (Cl bf [.int .i64 0, .int .i64 0] 25 w4 ∧ Below w.heap.size w w4 ∧ w.heap.size ≤ bf) := ⟨K3.out.1.below k4, K3.out.2.1.trans (k4.mono K3.out.2.1.size), K3.out.2.2⟩
    clear k4 K3 HSt
    have f0 := K4.out.1.cell 0
    have f1 := K4.out.1.cell 1
    have f2 := K4.out.1.frozen 0
    have f3 := K4.out.1.frozen 1
    simp at f0 f1
    have HF : Hid (Below w.heap.size w ((w4.setCell ⟨bf, 0, none⟩ (.int .i64 0)).setCell ⟨bf, 1, none⟩ (.int .i64 0)) ∧ Cl bf [.int .i64 0, .int .i64 0] 25 ((w4.setCell ⟨bf, 0, none⟩ (.int .i64 0)).setCell ⟨bf, 1, none⟩ (.int .i64 0))) :=
      ⟨(K4.out.2.1.setCell K4.out.2.2 _).setCell K4.out.2.2 _, (K4.out.1.set 0 _).set 1 _⟩
    clear K4
    go_wp2
    have e1 := HF.out.2.cell 0
    have e2 := HF.out.2.cell 1
    simp at e1 e2
    exact bodyPost_ret (v := .tuple #[.string T, .agg #[.int .i64 0, .int .i64 0]]) (by simp [results, Tryz.results15, go_sem, e1, e2]) rfl ⟨by rw [HC.out.1, HC.out.2], HF.out.1⟩
end Go.Proofs.YtcnfhndejkngkaaGreatDoor
end

section
/- Plain facts: how many partitions a number has, by parts of at most k. -/
set_option linter.unusedSimpArgs false
set_option linter.unusedVariables false
set_option maxRecDepth 100000
namespace Go.Proofs.YtcnfhndejkngkaaGreatDoor
namespace PT

/-- Partitions of m into parts of at most k. -/
def pt : Nat → Nat → Nat
  | 0, m => if m = 0 then 1 else 0
  | k + 1, m => if h : m < k + 1 then pt k m else pt k m + pt (k + 1) (m - (k + 1))
termination_by k m => (k, m)
theorem pt_lt {k m : Nat} (h : m < k + 1) : pt (k + 1) m = pt k m := by rw [pt, dif_pos h]
theorem pt_ge {k m : Nat} (h : k + 1 ≤ m) : pt (k + 1) m = pt k m + pt (k + 1) (m - (k + 1)) := by rw [pt, dif_neg (by omega)]
theorem pt_null (m : Nat) : pt 0 m = if m = 0 then 1 else 0 := by rw [pt]
theorem pt_bd : ∀ k m, pt k m + 2 ^ (m - min k m) ≤ 2 ^ m + 1 := by
  intro k
  induction k with
  | zero =>
    intro m
    rw [pt_null]
    split
    · next h => subst h; decide
    · rw [show m - min 0 m = m by omega]; omega
  | succ k ih =>
    intro m
    induction m using Nat.strongRecOn with
    | ind m ihm =>
      by_cases h : m < k + 1
      · rw [pt_lt h]
        have := ih m
        rw [show m - min k m = 0 by omega] at this
        rw [show m - min (k + 1) m = 0 by omega]
        exact this
      · rw [pt_ge (by omega)]
        have h1 := ih m
        have h2 := ihm (m - (k + 1)) (by omega)
        rw [show m - min k m = m - (k + 1) + 1 by omega, Nat.pow_succ] at h1
        rw [show m - min (k + 1) m = m - (k + 1) by omega]
        have h3 : 1 ≤ 2 ^ (m - (k + 1) - min (k + 1) (m - (k + 1))) := Nat.one_le_two_pow
        omega
theorem pt_le (k m : Nat) : pt k m ≤ 2 ^ m := by
  have := pt_bd k m
  have : 1 ≤ 2 ^ (m - min k m) := Nat.one_le_two_pow
  omega
/-- The row while the parts of k + 1 are put in: up to m they are. -/
def ptr (k m j : Nat) : Nat := if j < m then pt (k + 1) j else pt k j
theorem ptr_start (k j : Nat) : ptr k (k + 1) j = pt k j := by
  unfold ptr; split
  · exact pt_lt (by omega)
  · rfl
theorem ptr_step {k m j : Nat} (h : k + 1 ≤ m) : ptr k (m + 1) j = if j = m then ptr k m m + ptr k m (m - (k + 1)) else ptr k m j := by
  by_cases e : j = m
  · subst e
    rw [if_pos rfl]
    unfold ptr
    rw [if_pos (by omega), if_neg (by omega), if_pos (by omega)]
    exact pt_ge h
  · rw [if_neg e]
    unfold ptr
    by_cases h2 : j < m
    · rw [if_pos h2, if_pos (by omega)]
    · rw [if_neg h2, if_neg (by omega)]
theorem ptr_end {k m j : Nat} (h : j < m) : ptr k m j = pt (k + 1) j := by unfold ptr; rw [if_pos h]
theorem ptr_le (k m j : Nat) : ptr k m j ≤ 2 ^ j := by unfold ptr; split <;> exact pt_le _ _

end PT
end Go.Proofs.YtcnfhndejkngkaaGreatDoor
end

section
/- A region that draws its order: by what holds in each of its states. -/
set_option linter.unusedSimpArgs false
set_option linter.unusedVariables false
set_option maxRecDepth 100000
namespace Go.Proofs.YtcnfhndejkngkaaGreatDoor
open Go.RowKit

section
variable {P : Program} {ops : Array Oper} {Q : Exit → Act → World → Prop} {md : Region.Mode} {S : World → Prop}

/-- What is asked of one operation in one state. -/
def StepG (P : Program) (ops : Array Oper) (Q : Exit → Act → World → Prop) (S : World → Prop) (g : Nat) (I : Nat → Array Bool → Act → World → Prop) (n : Nat) (l : Array Bool) (a : Act) (w : World) (i : Nat) : Prop :=
  ∃ o, ops[i]? = some o ∧ ∀ K' : Act → World → Prop, Hid (∀ a w, (l.getD g false = false → i ≠ g → S w) → I n (l.setIfInBounds i true) a w → K' a w) → if Region.wanted o (yielded ops a.tmps) = true then Oper.wp P o a w K' Q else K' (a.put o.dst undef) w

theorem wpAnyG_inv {g : Nat} (I : Nat → Array Bool → Act → World → Prop)
    (h : ∀ n l a w, I n l a w → (Region.ready md ops l = [] ∧ Q .normal a w) ∨ (∃ m L, n = m + 1 ∧ Region.ready md ops l = L ∧ L ≠ [] ∧ ∀ i ∈ L, StepG P ops Q S g I m l a w i)) :
    ∀ n l a w, I n l a w → wpAnyG P md ops Q S g n l a w := by
  intro n
  induction n with
  | zero =>
    intro l a w hi
    rcases h 0 l a w hi with h1 | ⟨m, L, h1, _⟩
    · exact h1
    · omega
  | succ n ih =>
    intro l a w hi
    rcases h (n + 1) l a w hi with ⟨h1, h2⟩ | ⟨m, L, h1, h2, h3, h4⟩
    · exact wpAnyG_done h1 h2 _
    · obtain rfl : n = m := by omega
      refine ⟨fun h0 => (h3 (h2.symm.trans h0)).elim, fun i hi' => ?_⟩
      rw [h2] at hi'
      obtain ⟨o, ho, hs⟩ := h4 i hi'
      exact wpOp_step ho fun K' hK => hs K' (fun a w h1 h2 => hK a w ⟨h1, ih _ _ _ h2⟩)
end
end Go.Proofs.YtcnfhndejkngkaaGreatDoor
end

section
/- The reference: PartitionsMany. Written by mkpt.py. -/
set_option linter.unusedSimpArgs false
set_option linter.unusedVariables false
set_option maxRecDepth 100000
namespace Go.Proofs.YtcnfhndejkngkaaGreatDoor
open Go.RowKit

theorem Tryz.infoPt : (Tryz.prog.info? 39).map (fun i => (i.zero, i.size, i.bytes)) = some (some (.pointer none), 1, 8) := by kernel_rfl
theorem cl_of_makeP {w w' : World} {n : Nat} (h : w'.ownsRow w.heap.size 39 1 (.slice (some ⟨w.heap.size, 0, none⟩) n n) n (madeCells #[Value.pointer none] n).toList) : Cl w.heap.size (List.replicate n (.pointer none)) 39 w' := by
  obtain ⟨h1, h2 | ⟨g, cap, cur, e1, e2, e3, e4, e5, e6, e7⟩⟩ := h
  · obtain ⟨h2, rfl⟩ := h2
    simp at h2
  · simp at e1
    obtain ⟨rfl, rfl⟩ := e1
    unfold Cl
    rw [e3]
    have : cur.toList = (madeCells #[Value.pointer none] n).toList := by
      rw [← e7, List.take_of_length_le (by simp; omega)]
    have e8 : cur = madeCells #[Value.pointer none] n := Array.toList_inj.1 this
    rw [e8]
    congr 2
    apply Array.ext
    · simp [madeCells]
    · intro i h1 h2
      simp [madeCells, Nat.mod_one]
def vcells (m : Nat) (c : Nat → Value) : List Value := (List.range m).map c
theorem vcells_len (m : Nat) (c : Nat → Value) : (vcells m c).length = m := by simp [vcells]
theorem vcells_at {m i : Nat} (c : Nat → Value) (h : i < m) : (vcells m c)[i]? = some (c i) := by simp [vcells, h]
theorem vcells_rep (m : Nat) (v : Value) : List.replicate m v = vcells m (fun _ => v) := by
  apply List.ext_getElem?
  intro i
  by_cases h : i < m
  · rw [vcells_at _ h, List.getElem?_replicate, if_pos h]
  · rw [List.getElem?_eq_none (by simp; omega), List.getElem?_eq_none (by rw [vcells_len]; omega)]
theorem vcells_set {m j : Nat} (c : Nat → Value) (v : Value) (h : j < m) : (vcells m c).set j v = vcells m (fun i => if i = j then v else c i) := by
  apply List.ext_getElem?
  intro i
  rw [List.getElem?_set]
  by_cases hj : j = i
  · subst hj
    rw [if_pos rfl, vcells_at _ h, vcells_len, if_pos h, if_pos rfl]
  · rw [if_neg hj]
    by_cases hi : i < m
    · rw [vcells_at _ hi, vcells_at _ hi, if_neg (fun e => hj e.symm)]
    · rw [List.getElem?_eq_none (by rw [vcells_len]; omega), List.getElem?_eq_none (by rw [vcells_len]; omega)]
/-- A number stays where a row of pointers is written. -/
theorem BigAt.setQ {W : World} {g b j : Nat} {C : List Value} {x : Int} (hC : Cl g C 39 W) (h : BigAt W b x) (v : Value) : BigAt (W.setCell ⟨g, j, none⟩ v) b x := by
  obtain ⟨s, h1, l, h2, h3⟩ := h
  have hg : W.heap[g]? = some (.cells C.toArray 39 (0, 0)) := hC
  refine ⟨s, ?_, l, ⟨h2.small, ?_⟩, h3⟩
  · rw [Below.heap_setCell _ _ _ _ (by show b ≠ g; intro e; subst e; rw [h1] at hg; simp at hg)]; exact h1
  · rcases h2.shape with h4 | ⟨g', cap, C', h4, h5, h6, h7⟩
    · exact .inl h4
    · refine .inr ⟨g', cap, C', h4, h5, ?_, h7⟩
      rw [Below.heap_setCell _ _ _ _ (by show g' ≠ g; intro e; subst e; rw [h6] at hg; simp at hg)]; exact h6

/-- The row of pointers, the first d of them to the numbers f. -/
structure Pp (w W : World) (g n d : Nat) (c : Nat → Value) (f : Nat → Nat) : Prop where
  row : Cl g (vcells (n + 1) c) 39 W
  num : ∀ j, j < d → ∃ b, c j = .pointer (some ⟨b, 0, none⟩) ∧ BigAt W b (f j : Nat)
  g0 : w.heap.size ≤ g
  k : Below w.heap.size w W
theorem Pp.below {w W W' : World} {g n d : Nat} {c : Nat → Value} {f : Nat → Nat} (h : Pp w W g n d c f) (k : Below W.heap.size W W') : Pp w W' g n d c f :=
  ⟨h.row.below k, fun j hj => by obtain ⟨b, h1, h2⟩ := h.num j hj; exact ⟨b, h1, h2.below k (Nat.le_refl _)⟩, h.g0, h.k.trans (k.mono h.k.size)⟩
/-- A new number is made and its place is written into the row. -/
theorem Pp.set {w W : World} {g n d j b x : Nat} {c : Nat → Value} {f : Nat → Nat} (h : Pp w W g n d c f) (hj : j ≤ n) (hb : BigAt W b (x : Nat)) : Pp w (W.setCell ⟨g, j, none⟩ (.pointer (some ⟨b, 0, none⟩))) g n d (fun i => if i = j then .pointer (some ⟨b, 0, none⟩) else c i) (fun i => if i = j then x else f i) := by
  refine ⟨?_, fun i hi => ?_, h.g0, h.k.setCell h.g0 _⟩
  · rw [← vcells_set _ _ (by omega)]; exact h.row.set j _
  · by_cases e : i = j
    · subst e
      exact ⟨b, if_pos rfl, by rw [if_pos rfl]; exact hb.setQ h.row _⟩
    · obtain ⟨b', h1, h2⟩ := h.num i hi
      exact ⟨b', by rw [if_neg e]; exact h1, by rw [if_neg e]; exact h2.setQ h.row _⟩
theorem Pp.more {w W : World} {g n d : Nat} {c : Nat → Value} {f : Nat → Nat} (h : Pp w W g n d c f) (hd : ∃ b, c d = .pointer (some ⟨b, 0, none⟩) ∧ BigAt W b (f d : Nat)) : Pp w W g n (d + 1) c f :=
  ⟨h.row, fun j hj => by
    by_cases e : j = d
    · subst e; exact hd
    · exact h.num j (by omega), h.g0, h.k⟩
theorem Pp.congr {w W : World} {g n d : Nat} {c : Nat → Value} {f f' : Nat → Nat} (h : Pp w W g n d c f) (e : ∀ j, j < d → f j = f' j) : Pp w W g n d c f' :=
  ⟨h.row, fun j hj => by rw [← e j hj]; exact h.num j hj, h.g0, h.k⟩
theorem two_pwT : (2 : Nat) ^ 2000 < pw 64 := by decide +kernel
theorem ptr_pw {k m j : Nat} (h : j ≤ 2000) : PT.ptr k m j < pw 64 := Nat.lt_of_le_of_lt (PT.ptr_le k m j) (Nat.lt_of_le_of_lt (Nat.pow_le_pow_right (by decide) h) two_pwT)

end Go.Proofs.YtcnfhndejkngkaaGreatDoor
end

section
/- The reference's DecimalOf. -/
set_option linter.unusedSimpArgs false
set_option linter.unusedVariables false
set_option maxRecDepth 100000
namespace Go.Proofs.YtcnfhndejkngkaaGreatDoor
open Go.RowKit LgM

theorem own_setO {B n size : Nat} {w : World} {v : Value} {xs : List Value} {e : TypeId} (h : w.ownsRow B e size v n xs) {p : Addr} (hp : p.block < B) (u : Value) : (w.setCell p u).ownsRow B e size v n xs := by
  refine ⟨h.1, ?_⟩
  rcases h.2 with hn | ⟨g, cap, cur, rfl, hb, hgg, rest⟩
  · exact .inl hn
  · exact .inr ⟨g, cap, cur, rfl, hb, (Below.heap_setCell _ _ _ _ (by intro e; subst e; omega)).trans hgg, rest⟩
namespace DC
/-- Where a rest was seen, behind n digits. -/
def sn (u d : Nat) : Nat → Nat → Int
  | 0 => fun _ => -1
  | n + 1 => fun i => if i = rs u d n then (n : Int) else sn u d n i
theorem sn_or (u d : Nat) : ∀ n i, (sn u d n i = -1 ∧ ∀ k, k < n → rs u d k ≠ i) ∨ ∃ k : Nat, k < n ∧ sn u d n i = (k : Int) ∧ rs u d k = i
  | 0, i => .inl ⟨rfl, fun k h => by omega⟩
  | n + 1, i => by
    by_cases e : i = rs u d n
    · exact .inr ⟨n, by omega, if_pos e, e.symm⟩
    · have e1 : sn u d (n + 1) i = sn u d n i := if_neg e
      rcases sn_or u d n i with ⟨h1, h2⟩ | ⟨k, h1, h2, h3⟩
      · refine .inl ⟨e1.trans h1, fun k hk => ?_⟩
        by_cases e2 : k = n
        · subst e2; exact fun e3 => e e3.symm
        · exact h2 k (by omega)
      · exact .inr ⟨k, by omega, e1.trans h2, h3⟩
end DC
def icells (N : Nat) (f : Nat → Int) : List Value := vcells N (fun i => .int .i64 (f i))
theorem icells_at {N i : Nat} (f : Nat → Int) (h : i < N) : (icells N f)[i]? = some (.int .i64 (f i)) := vcells_at _ h
theorem icells_set {N j : Nat} (f : Nat → Int) (x : Int) (h : j < N) : (icells N f).set j (.int .i64 x) = icells N (fun i => if i = j then x else f i) := by
  unfold icells
  rw [vcells_set _ _ h]
  congr 1
  funext i
  split <;> simp_all
theorem icells_congr {N : Nat} {f f' : Nat → Int} (h : ∀ i, i < N → f i = f' i) : icells N f = icells N f' := by
  apply List.ext_getElem?
  intro i
  by_cases e : i < N
  · rw [icells_at f e, icells_at f' e, h i e]
  · rw [List.getElem?_eq_none (by unfold icells; rw [vcells_len]; omega), List.getElem?_eq_none (by unfold icells; rw [vcells_len]; omega)]
theorem Tryz.infoIntD : (Tryz.prog.info? 3).map (fun i => (i.zero, i.size, i.bytes)) = some (some (.int .i64 0), 1, 8) := by kernel_rfl
theorem cl_of_makeD {w w' : World} {n : Nat} (h : w'.ownsRow w.heap.size 3 1 (.slice (some ⟨w.heap.size, 0, none⟩) n n) n (madeCells #[Value.int .i64 0] n).toList) : Cl w.heap.size (List.replicate n (.int .i64 0)) 3 w' := by
  obtain ⟨h1, h2 | ⟨g, cap, cur, e1, e2, e3, e4, e5, e6, e7⟩⟩ := h
  · obtain ⟨h2, rfl⟩ := h2
    simp at h2
  · simp at e1
    obtain ⟨rfl, rfl⟩ := e1
    unfold Cl
    rw [e3]
    have : cur.toList = (madeCells #[Value.int .i64 0] n).toList := by
      rw [← e7, List.take_of_length_le (by simp; omega)]
    have e8 : cur = madeCells #[Value.int .i64 0] n := Array.toList_inj.1 this
    rw [e8]
    congr 2
    apply Array.ext
    · simp [madeCells]
    · intro i h1 h2
      simp [madeCells, Nat.mod_one]
theorem own_anyD {B n : Nat} {w : World} {v : Value} {xs : List Value} {e : TypeId} (h : w.ownsRow B e 1 v n xs) : ∃ a cap, v = .slice a n cap := by
  rcases h.2 with ⟨h1, h2⟩ | ⟨g, cap, cur, h1, _⟩
  · exact ⟨none, 0, by rw [h1, h2]⟩
  · exact ⟨_, cap, h1⟩
/-- The row of what was seen; the digits. -/
structure Dq (x y : Int) (N : Nat) (w W : World) (g : Nat) (f : Nat → Int) (v : Value) (n : Nat) (cs : List UInt8) : Prop where
  xs : Cl w.heap.size [.int .i64 x, .int .i64 y] 23 W
  row : Cl g (icells N f) 3 W
  dig : W.ownsRow (g + 1) 5 1 v n (u8s cs)
  g0 : w.heap.size < g
  k : Below w.heap.size w W
theorem Dq.set {x y : Int} {N n : Nat} {w W : World} {g : Nat} {f : Nat → Int} {v : Value} {cs : List UInt8} (h : Dq x y N w W g f v n cs) {j : Nat} (hj : j < N) (z : Int) : Dq x y N w (W.setCell ⟨g, j, none⟩ (.int .i64 z)) g (fun i => if i = j then z else f i) v n cs := by
  have hne : w.heap.size ≠ g := by have := h.g0; omega
  refine ⟨h.xs.other hne _, ?_, own_setO h.dig (Nat.lt_succ_self g) _, h.g0, h.k.setCell (by have := h.g0; show w.heap.size ≤ g; omega) _⟩
  rw [← icells_set f z hj]
  exact h.row.set j _
theorem Dq.congr {x y : Int} {N n : Nat} {w W : World} {g : Nat} {f f' : Nat → Int} {v : Value} {cs : List UInt8} (h : Dq x y N w W g f v n cs) (e : ∀ i, i < N → f i = f' i) : Dq x y N w W g f' v n cs :=
  ⟨h.xs, by rw [← icells_congr e]; exact h.row, h.dig, h.g0, h.k⟩
/-- A digit is put behind the digits. -/
theorem Dq.more {x y : Int} {N n : Nat} {w W W' : World} {g : Nat} {f : Nat → Int} {v v' : Value} {cs : List UInt8} {c : UInt8} (h : Dq x y N w W g f v n cs) (o : Obj) (hown : W'.ownsRow (g + 1) 5 1 v' (n + 1) (u8s cs ++ [.int .u8 (c.toNat : Int)])) (hgrow : (W.alloc o).grownBy W' v.ownBlock) : Dq x y N w W' g f v' (n + 1) (cs ++ [c]) := by
  have hl : ∀ j, v.ownBlock = some j → g + 1 ≤ j := fun j hj => (h.dig.lt j hj).1
  refine ⟨(h.xs.alloc o).grown hgrow (fun e => by have := hl _ e; have := h.g0; omega), (h.row.alloc o).grown hgrow (fun e => by have := hl _ e; omega), ?_, h.g0, (Below.alloc h.k h.k.size o).grown hgrow (by have := h.k.size; simp; omega) (fun j hj => by have := hl j hj; have := h.g0; omega)⟩
  rw [u8s, List.map_append]
  exact hown
end Go.Proofs.YtcnfhndejkngkaaGreatDoor
end
