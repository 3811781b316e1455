import Derived.Test.YtcnfhndejkngkaaGreatDoorJzF
import Derived.Test.YtcnfhndejkngkaaGreatDoorJzG
import Derived.Test.YtcnfhndejkngkaaGreatDoorStB
import Derived.Test.YtcnfhndejkngkaaGreatDoorJzJ
import Derived.Test.YtcnfhndejkngkaaGreatDoorFpA
section
/- The laws' examples fracBegun, out of what is asked of Path and Decimal. -/
set_option linter.unusedSimpArgs false
set_option linter.unusedVariables false
set_option maxRecDepth 100000
namespace Go.Proofs.YtcnfhndejkngkaaGreatDoor
open Go.RowKit

set_option maxHeartbeats 1000000 in
theorem fracBegun_of (w : World) (hP : ∀ W, Below w.heap.size w W → Calls Tryz.prog 15 #[.agg #[.int .i64 3, .int .i64 5]] W fun e w' => e = .returned (.tuple #[.string ⟨#[76, 82, 76]⟩, .agg #[.int .i64 0, .int .i64 0]]) ∧ Below W.heap.size W w')
    (hD : ∀ W, Below w.heap.size w W → Calls Tryz.prog 32 #[.agg #[.int .i64 1, .int .i64 6]] W fun e w' => e = .returned (.tuple #[.string ⟨#[48, 46, 49, 40, 54, 41]⟩, .agg #[.int .i64 0, .int .i64 0]]) ∧ Below W.heap.size W w') :
    Calls Tryz.prog 11 #[] w fun e w' => e = .returned (.bool true) ∧ Below w.heap.size w w' := by
  have HP : Hid _ := hP
  have HD : Hid _ := hD
  clear hP hD
  go_enter Tryz.func11, Tryz.ntmps11
  go_wp2_with fail
  refine (HP.out _ (Below.refl _ _)).mono ?_
  rintro e w1 ⟨rfl, k1⟩
  have C1 : Cl w1.heap.size [.int .i64 0, .int .i64 0] 25 (w1.alloc (.cells #[.int .i64 0, .int .i64 0] 25)) := Cl.new [.int .i64 0, .int .i64 0] _ _
  have HK : Hid (Below w.heap.size w (w1.alloc (.cells #[.int .i64 0, .int .i64 0] 25)) ∧ Cl w1.heap.size [.int .i64 0, .int .i64 0] 25 (w1.alloc (.cells #[.int .i64 0, .int .i64 0] 25))) := ⟨k1.alloc k1.size _, C1⟩
  have HS : Hid (w.heap.size ≤ w1.heap.size) := k1.size
  clear k1 HP C1
  obtain ⟨W1, hW1⟩ : ∃ W, W = w1.alloc (.cells #[.int .i64 0, .int .i64 0] 25) := ⟨_, rfl⟩
  rw [← hW1] at HK
  go_wp2_with fail
  rw [← hW1]
  refine (HD.out _ HK.out.1).mono ?_
  rintro e w2 ⟨rfl, k2⟩
  have C2 := HK.out.2.below k2
  have C3 := C2.alloc (.cells #[.int .i64 0, .int .i64 0] 25)
  have HK2 : Hid (Below w.heap.size w (w2.alloc (.cells #[.int .i64 0, .int .i64 0] 25))) := (HK.out.1.trans (k2.mono HK.out.1.size)).alloc (HK.out.1.trans (k2.mono HK.out.1.size)).size _
  have q0 := C2.cell 0
  have q1 := C2.cell 1
  simp at q0 q1
  have q2 := C2.lt
  clear C2 C3 k2 HD HK
  go_wp2
  go_ret
  exact ⟨rfl, HK2.out⟩
end Go.Proofs.YtcnfhndejkngkaaGreatDoor
end

section
/- What frac.Path says: its fault's code, its text. -/
set_option linter.unusedVariables false
set_option maxRecDepth 100000
namespace Go.Proofs.YtcnfhndejkngkaaGreatDoor

def pcode (x y : Int) : Int := if ffF x y ≠ 0 then ffF x y else if x < 1 then 3 else if 20001 < ST.qsum x.toNat y.toNat then 9 else 0
def ptext (x y : Int) : ByteArray := if pcode x y ≠ 0 then ⟨#[]⟩ else pathS (ST.path x.toNat y.toNat)
theorem ffF_casesT (x y : Int) : ffF x y = 0 ∨ ffF x y = 3 ∨ ffF x y = 6 := by
  unfold ffF; split <;> (try split) <;> simp
/-- A fraction without a fault. -/
theorem ffF_ok {x y : Int} (h : ffF x y = 0) : -1000000000000000000 ≤ x ∧ x ≤ 1000000000000000000 ∧ 1 ≤ y ∧ y ≤ 1000000000000000000 ∧ Int.gcd x y = 1 := by
  unfold ffF at h
  split at h
  · rename_i h1
    split at h
    · exact absurd h (by decide)
    · rename_i h2
      have hx : -1000000000000000000 ≤ x ∧ x ≤ 1000000000000000000 := by simpa [numB] using h1.1
      have hy : -1000000000000000000 ≤ y ∧ y ≤ 1000000000000000000 := by simpa [numB] using h1.2
      exact ⟨hx.1, hx.2, by omega, hy.2, Decidable.not_not.1 (fun h3 => h2 (.inr h3))⟩
  · exact absurd h (by decide)
theorem path_cases (x y : Int) : ((ffF x y = 3 ∨ ffF x y = 6) ∧ pcode x y = ffF x y ∧ ptext x y = ⟨#[]⟩) ∨ (ffF x y = 0 ∧ x < 1 ∧ pcode x y = 3 ∧ ptext x y = ⟨#[]⟩) ∨ (ffF x y = 0 ∧ 1 ≤ x ∧ 20001 < ST.qsum x.toNat y.toNat ∧ pcode x y = 9 ∧ ptext x y = ⟨#[]⟩) ∨ (ffF x y = 0 ∧ 1 ≤ x ∧ ST.qsum x.toNat y.toNat ≤ 20001 ∧ pcode x y = 0 ∧ ptext x y = pathS (ST.path x.toNat y.toNat)) := by
  unfold ptext pcode
  rcases ffF_casesT x y with h | h | h
  · by_cases h1 : x < 1
    · refine .inr (.inl ⟨h, h1, ?_, ?_⟩) <;> simp [h, h1]
    · by_cases h2 : 20001 < ST.qsum x.toNat y.toNat
      · refine .inr (.inr (.inl ⟨h, by omega, h2, ?_, ?_⟩)) <;> simp [h, h1, h2]
      · refine .inr (.inr (.inr ⟨h, by omega, by omega, ?_, ?_⟩)) <;> simp [h, h1, h2]
  · exact .inl ⟨.inl h, by simp [h], by simp [h]⟩
  · exact .inl ⟨.inr h, by simp [h], by simp [h]⟩
end Go.Proofs.YtcnfhndejkngkaaGreatDoor
end

section
/- frac.Path. -/
set_option linter.unusedSimpArgs false
set_option linter.unusedVariables false
set_option maxRecDepth 100000
namespace Go.Proofs.YtcnfhndejkngkaaGreatDoor
open Go.RowKit LgM

set_option maxHeartbeats 4000000 in
theorem Path_any (x y : Int) (w : World) :
    Calls Tryz.prog 15 #[.agg #[.int .i64 x, .int .i64 y]] w fun e w' => e = .returned (.tuple #[.string (ptext x y), .agg #[.int .i64 (pcode x y), .int .i64 0]]) ∧ Below w.heap.size w w' := by
  have HPc : Hid _ := path_cases x y
  have HOk : Hid (ffF x y = 0 → -1000000000000000000 ≤ x ∧ x ≤ 1000000000000000000 ∧ 1 ≤ y ∧ y ≤ 1000000000000000000 ∧ Int.gcd x y = 1) := fun h => ffF_ok h
  obtain ⟨c0, hc0⟩ : ∃ c, c = ffF x y := ⟨_, rfl⟩
  have HCh : Hid (∀ W, Calls Tryz.prog 37 #[.agg #[.int .i64 x, .int .i64 y]] W fun e w' => e = .returned (.agg #[.int .i64 c0, .int .i64 0]) ∧ Below W.heap.size W w') := fun W => by rw [hc0]; exact check_any x y W
  have HC0 : Hid (c0 = ffF x y) := hc0
  clear hc0
  obtain ⟨bf, hbf⟩ : ∃ b, b = w.heap.size + 1 := ⟨_, rfl⟩
  obtain ⟨W0, hW0⟩ : ∃ W, W = (w.alloc (.cells #[.int .i64 x, .int .i64 y] 23)).alloc (.cells #[.int .i64 0, .int .i64 0] 25) := ⟨_, rfl⟩
  have K0 : Hid (Cl w.heap.size [.int .i64 x, .int .i64 y] 23 W0 ∧ Cl bf [.int .i64 0, .int .i64 0] 25 W0 ∧ Below w.heap.size w W0 ∧ w.heap.size ≤ bf) := by
    have h1 := Cl.new [.int .i64 0, .int .i64 0] 25 (w.alloc (.cells #[.int .i64 x, .int .i64 y] 23))
    show _ ∧ _
    rw [hW0, hbf]
    exact ⟨(Cl.new _ _ _).alloc _, by simpa using h1, ((Below.refl _ _).alloc (Nat.le_refl _) _).alloc (by simp) _, by omega⟩
  have p0 := K0.out.1.cell 0
  have p1 := K0.out.1.cell 1
  simp at p0 p1
  go_enter Tryz.func15, Tryz.ntmps15
  go_wp2_with fail
  rw [← hW0]
  simp only [← hbf]
  clear hW0 hbf
  refine (HCh.out W0).mono ?_
  rintro e w1 ⟨rfl, k1⟩
  obtain ⟨W2, hW2⟩ : ∃ W, W = w1.alloc (.cells #[.int .i64 c0, .int .i64 0] 25) := ⟨_, rfl⟩
  have K1 : Hid (Cl w.heap.size [.int .i64 x, .int .i64 y] 23 w1 ∧ Cl bf [.int .i64 0, .int .i64 0] 25 w1 ∧ Below w.heap.size w w1 ∧ w.heap.size ≤ bf) := ⟨K0.out.1.below k1, K0.out.2.1.below k1, K0.out.2.2.1.trans (k1.mono K0.out.2.2.1.size), K0.out.2.2.2⟩
  have K2 : Hid (Cl w.heap.size [.int .i64 x, .int .i64 y] 23 W2 ∧ Cl bf [.int .i64 0, .int .i64 0] 25 W2 ∧ Below w.heap.size w W2 ∧ w.heap.size ≤ bf) := by
    show _ ∧ _
    rw [hW2]
    exact ⟨K1.out.1.alloc _, K1.out.2.1.alloc _, K1.out.2.2.1.alloc K1.out.2.2.1.size _, K1.out.2.2.2⟩
  have HW2 : Hid (W2 = w1.alloc (.cells #[.int .i64 c0, .int .i64 0] 25)) := hW2
  clear k1 K0 hW2 p0 p1
  have p0 := K1.out.1.cell 0
  have p1 := K1.out.1.cell 1
  have p2 := K1.out.1.lt
  have p3 := K1.out.2.1.cell 0
  have p4 := K1.out.2.1.cell 1
  have p5 := K1.out.2.1.lt
  have p6 := K1.out.2.1.frozen 0
  have p7 := K1.out.2.1.frozen 1
  simp at p0 p1 p3 p4
  rcases HPc.out with ⟨h0, h1, h2⟩ | ⟨h0, h1, h2, h3⟩ | ⟨h0, h1, h2, h3, h4⟩ | ⟨h0, h1, h2, h3, h4⟩
  · have HC : Hid (pcode x y = c0 ∧ ptext x y = ⟨#[]⟩) := ⟨by rw [h1, HC0.out], h2⟩
    have tc : (c0 != 0) = true := by
      rw [HC0.out]
      rcases h0 with h | h <;> rw [h] <;> rfl
    have HF : Hid (Below w.heap.size w (((w1.setCell ⟨bf, 0, none⟩ (.int .i64 c0)).setCell ⟨bf, 1, none⟩ (.int .i64 0)).alloc (.cells #[.int .i64 c0, .int .i64 0] 25)) ∧ Cl bf [.int .i64 c0, .int .i64 0] 25 (((w1.setCell ⟨bf, 0, none⟩ (.int .i64 c0)).setCell ⟨bf, 1, none⟩ (.int .i64 0)).alloc (.cells #[.int .i64 c0, .int .i64 0] 25))) := by
      have h := (K1.out.2.2.1.setCell (p := ⟨bf, 0, none⟩) K1.out.2.2.2 (.int .i64 c0)).setCell (p := ⟨bf, 1, none⟩) K1.out.2.2.2 (.int .i64 0)
      exact ⟨h.alloc h.size _, ((K1.out.2.1.set 0 _).set 1 _).alloc _⟩
    clear h0 h1 h2 HPc HOk HCh HC0 HW2 K2
    go_wp2
    go_region
    all_goals
      go_wp2
      have e1 := HF.out.2.drew.cell 0
      have e2 := HF.out.2.drew.cell 1
      simp at e1 e2
      exact bodyPost_ret (v := .tuple #[.string ⟨#[]⟩, .agg #[.int .i64 c0, .int .i64 0]]) (by simp [results, Tryz.results15, go_sem, e1, e2]) rfl ⟨by rw [HC.out.1, HC.out.2], HF.out.1.drew⟩
  · have HC : Hid (pcode x y = 3 ∧ ptext x y = ⟨#[]⟩) := ⟨h2, h3⟩
    have tx : decide (x < 1) = true := decide_eq_true h1
    have tc : c0 = 0 := by rw [HC0.out, h0]
    subst tc
    have HF : Hid (Below w.heap.size w (((w1.setCell ⟨bf, 0, none⟩ (.int .i64 3)).setCell ⟨bf, 1, none⟩ (.int .i64 0)).alloc (.cells #[.int .i64 0, .int .i64 0] 25)) ∧ Cl bf [.int .i64 3, .int .i64 0] 25 (((w1.setCell ⟨bf, 0, none⟩ (.int .i64 3)).setCell ⟨bf, 1, none⟩ (.int .i64 0)).alloc (.cells #[.int .i64 0, .int .i64 0] 25))) := by
      have h := (K1.out.2.2.1.setCell (p := ⟨bf, 0, none⟩) K1.out.2.2.2 (.int .i64 3)).setCell (p := ⟨bf, 1, none⟩) K1.out.2.2.2 (.int .i64 0)
      exact ⟨h.alloc h.size _, ((K1.out.2.1.set 0 _).set 1 _).alloc _⟩
    clear h0 h1 h2 h3 HPc HOk HCh HC0 HW2 K2
    go_wp2
    have e1 := HF.out.2.cell 0
    have e2 := HF.out.2.cell 1
    simp at e1 e2
    exact bodyPost_ret (v := .tuple #[.string ⟨#[]⟩, .agg #[.int .i64 3, .int .i64 0]]) (by simp [results, Tryz.results15, go_sem, e1, e2]) rfl ⟨by rw [HC.out.1, HC.out.2], HF.out.1⟩
  · have HC : Hid (pcode x y = 9 ∧ ptext x y = ⟨#[]⟩) := ⟨h3, h4⟩
    have tx : decide (x < 1) = false := decide_eq_false (by omega)
    have h5 := HOk.out h0
    obtain ⟨X, hX⟩ : ∃ X : Nat, X = x.toNat := ⟨_, rfl⟩
    obtain ⟨Y, hY⟩ : ∃ Y : Nat, Y = y.toNat := ⟨_, rfl⟩
    try rw [← hX, ← hY] at h2
    try rw [← hX, ← hY] at h4
    have eX : x = (X : Int) := by omega
    have eY : y = (Y : Int) := by omega
    have HRn : Hid (∀ W, Calls Tryz.prog 46 #[.agg #[.int .i64 x, .int .i64 y]] W fun e w' => ∃ (L : List Nat) (n g c : Nat), e = .returned (.tuple #[.slice (some ⟨g, 0, none⟩) n c, .bool (decide (ST.qsum X Y ≤ 20001))]) ∧ Rw9 L n g w' ∧ n ≤ 120 ∧ ST.rl true L = ST.path X Y ∧ L.sum + 1 = ST.qsum X Y ∧ Below W.heap.size W w') := fun W => by
      rw [eX, eY]
      exact runsTo_any X Y W (by omega) (by omega) (by omega) (by omega) (by
        have := h5.2.2.2.2
        rw [eX, eY] at this
        exact this)
    have tc : c0 = 0 := by rw [HC0.out, h0]
    subst tc
    clear h5 eX eY hX hY h0 HPc HOk HCh HC0
    go_wp2_with fail
    rw [← HW2.out]
    clear HW2 p0 p1 p2 p3 p4 p5 p6 p7
    refine (HRn.out W2).mono ?_
    rintro e w3 ⟨L, n, g, c, rfl, hrw, hn, hrl, hsum, k3⟩
    have K3 : Hid (Cl bf [.int .i64 0, .int .i64 0] 25 w3 ∧ Below w.heap.size w w3 ∧ w.heap.size ≤ bf) := ⟨K2.out.2.1.below k3, K2.out.2.2.1.trans (k3.mono K2.out.2.2.1.size), K2.out.2.2.2⟩
    clear k3 K1 K2
    have td : decide (ST.qsum X Y ≤ 20001) = false := decide_eq_false (by omega)
    have f0 := K3.out.1.cell 0
    have f1 := K3.out.1.cell 1
    have f2 := K3.out.1.frozen 0
    have f3 := K3.out.1.frozen 1
    simp at f0 f1
    have HF : Hid (Below w.heap.size w ((w3.setCell ⟨bf, 0, none⟩ (.int .i64 9)).setCell ⟨bf, 1, none⟩ (.int .i64 0)) ∧ Cl bf [.int .i64 9, .int .i64 0] 25 ((w3.setCell ⟨bf, 0, none⟩ (.int .i64 9)).setCell ⟨bf, 1, none⟩ (.int .i64 0))) :=
      ⟨(K3.out.2.1.setCell K3.out.2.2 _).setCell K3.out.2.2 _, (K3.out.1.set 0 _).set 1 _⟩
    clear hrw hrl hsum h1 h2 h3 h4 K3
    rw [td]
    clear td
    go_wp2
    have e1 := HF.out.2.cell 0
    have e2 := HF.out.2.cell 1
    simp at e1 e2
    exact bodyPost_ret (v := .tuple #[.string ⟨#[]⟩, .agg #[.int .i64 9, .int .i64 0]]) (by simp [results, Tryz.results15, go_sem, e1, e2]) rfl ⟨by rw [HC.out.1, HC.out.2], HF.out.1⟩
  · obtain ⟨T, hT⟩ : ∃ T, T = ptext x y := ⟨_, rfl⟩
    have HC : Hid (pcode x y = 0 ∧ ptext x y = T) := ⟨h3, hT.symm⟩
    rw [← hT] at h4
    clear hT
    have tx : decide (x < 1) = false := decide_eq_false (by omega)
    have h5 := HOk.out h0
    obtain ⟨X, hX⟩ : ∃ X : Nat, X = x.toNat := ⟨_, rfl⟩
    obtain ⟨Y, hY⟩ : ∃ Y : Nat, Y = y.toNat := ⟨_, rfl⟩
    try rw [← hX, ← hY] at h2
    try rw [← hX, ← hY] at h4
    have eX : x = (X : Int) := by omega
    have eY : y = (Y : Int) := by omega
    have HRn : Hid (∀ W, Calls Tryz.prog 46 #[.agg #[.int .i64 x, .int .i64 y]] W fun e w' => ∃ (L : List Nat) (n g c : Nat), e = .returned (.tuple #[.slice (some ⟨g, 0, none⟩) n c, .bool (decide (ST.qsum X Y ≤ 20001))]) ∧ Rw9 L n g w' ∧ n ≤ 120 ∧ ST.rl true L = ST.path X Y ∧ L.sum + 1 = ST.qsum X Y ∧ Below W.heap.size W w') := fun W => by
      rw [eX, eY]
      exact runsTo_any X Y W (by omega) (by omega) (by omega) (by omega) (by
        have := h5.2.2.2.2
        rw [eX, eY] at this
        exact this)
    have tc : c0 = 0 := by rw [HC0.out, h0]
    subst tc
    clear h5 eX eY hX hY h0 HPc HOk HCh HC0
    go_wp2_with fail
    rw [← HW2.out]
    clear HW2 p0 p1 p2 p3 p4 p5 p6 p7
    refine (HRn.out W2).mono ?_
    rintro e w3 ⟨L, n, g, c, rfl, hrw, hn, hrl, hsum, k3⟩
    have K3 : Hid (Cl bf [.int .i64 0, .int .i64 0] 25 w3 ∧ Below w.heap.size w w3 ∧ w.heap.size ≤ bf) := ⟨K2.out.2.1.below k3, K2.out.2.2.1.trans (k3.mono K2.out.2.2.1.size), K2.out.2.2.2⟩
    clear k3 K1 K2
    have td : decide (ST.qsum X Y ≤ 20001) = true := decide_eq_true (by omega)
    have HSt : Hid (∀ W, Below w3.heap.size w3 W → Calls Tryz.prog 47 #[.slice (some ⟨g, 0, none⟩) n c] W fun e w' => e = .returned (.string T) ∧ Below W.heap.size W w') := fun W kk => by
      rw [h4, ← hrl]
      exact steps_any L n g c W (hrw.below kk) hn (by omega)
    clear hrw hrl hsum h1 h2 h3 h4
    rw [td]
    clear td
    go_wp2_with fail
    refine (HSt.out w3 (Below.refl _ _)).mono ?_
    rintro e w4 ⟨rfl, k4⟩
    have K4 : Hid (Cl bf [.int .i64 0, .int .i64 0] 25 w4 ∧ Below w.heap.size w w4 ∧ w.heap.size ≤ bf) := ⟨K3.out.1.below k4, K3.out.2.1.trans (k4.mono K3.out.2.1.size), K3.out.2.2⟩
    clear k4 K3 HSt
    have f0 := K4.out.1.cell 0
    have f1 := K4.out.1.cell 1
    have f2 := K4.out.1.frozen 0
    have f3 := K4.out.1.frozen 1
    simp at f0 f1
    have HF : Hid (Below w.heap.size w ((w4.setCell ⟨bf, 0, none⟩ (.int .i64 0)).setCell ⟨bf, 1, none⟩ (.int .i64 0)) ∧ Cl bf [.int .i64 0, .int .i64 0] 25 ((w4.setCell ⟨bf, 0, none⟩ (.int .i64 0)).setCell ⟨bf, 1, none⟩ (.int .i64 0))) :=
      ⟨(K4.out.2.1.setCell K4.out.2.2 _).setCell K4.out.2.2 _, (K4.out.1.set 0 _).set 1 _⟩
    clear K4
    go_wp2
    have e1 := HF.out.2.cell 0
    have e2 := HF.out.2.cell 1
    simp at e1 e2
    exact bodyPost_ret (v := .tuple #[.string T, .agg #[.int .i64 0, .int .i64 0]]) (by simp [results, Tryz.results15, go_sem, e1, e2]) rfl ⟨by rw [HC.out.1, HC.out.2], HF.out.1⟩
end Go.Proofs.YtcnfhndejkngkaaGreatDoor
end
