import Derived.Test.YtcnfhndejkngkaaGreatDoorJpY
import Derived.Test.YtcnfhndejkngkaaGreatDoorJpP
import Derived.Test.YtcnfhndejkngkaaGreatDoorDwB
import Derived.Test.YtcnfhndejkngkaaGreatDoorJpZ
import Derived.Test.YtcnfhndejkngkaaGreatDoorJpK
import Derived.Test.YtcnfhndejkngkaaGreatDoorRoC
import Derived.Test.YtcnfhndejkngkaaGreatDoorJpJ
section
set_option linter.unusedVariables false
set_option maxRecDepth 100000
namespace Go.Proofs.YtcnfhndejkngkaaGreatDoor
def dcode (x y : Int) : Int := if ffF x y ≠ 0 then ffF x y else if 5000 < y then 2 else 0
def dtext (x y : Int) : List UInt8 := if dcode x y ≠ 0 then [] else DC.text x y.toNat
theorem ffF_cases (x y : Int) : ffF x y = 0 ∨ ffF x y = 3 ∨ ffF x y = 6 := by
  unfold ffF; split <;> (try split) <;> simp
theorem dec_cases (x y : Int) : ((ffF x y = 3 ∨ ffF x y = 6) ∧ dcode x y = ffF x y ∧ dtext x y = []) ∨ (ffF x y = 0 ∧ 5000 < y ∧ dcode x y = 2 ∧ dtext x y = []) ∨ (ffF x y = 0 ∧ y ≤ 5000 ∧ dcode x y = 0 ∧ dtext x y = DC.text x y.toNat) := by
  unfold dtext dcode
  rcases ffF_cases x y with h | h | h
  · by_cases h1 : 5000 < y
    · refine .inr (.inl ⟨h, h1, ?_, ?_⟩) <;> simp [h, h1]
    · refine .inr (.inr ⟨h, by omega, ?_, ?_⟩) <;> simp [h, h1]
  · exact .inl ⟨.inl h, by simp [h], by simp [h]⟩
  · exact .inl ⟨.inr h, by simp [h], by simp [h]⟩
end Go.Proofs.YtcnfhndejkngkaaGreatDoor
end

section
set_option linter.unusedSimpArgs false
set_option linter.unusedVariables false
set_option maxRecDepth 100000
namespace Go.Proofs.YtcnfhndejkngkaaGreatDoor
open Go.RowKit LgM
set_option maxHeartbeats 4000000 in
theorem Decimal_any (x y : Int) (w : World) (hTb : Tb w) (hTq : Tq w) :
    Calls Tryz.prog 32 #[.agg #[.int .i64 x, .int .i64 y]] w fun e w' => e = .returned (.tuple #[.string ⟨(dtext x y).toArray⟩, .agg #[.int .i64 (dcode x y), .int .i64 0]]) ∧ Below w.heap.size w w' := by
  have HPc : Hid _ := dec_cases x y
  have HTT : Hid (Tb w ∧ Tq w) := ⟨hTb, hTq⟩
  clear hTb hTq
  have HOk : Hid (ffF x y = 0 → -1000000000000000000 ≤ x ∧ x ≤ 1000000000000000000 ∧ 1 ≤ y ∧ y ≤ 1000000000000000000 ∧ Int.gcd x y = 1) := fun h => ffF_ok h
  obtain ⟨c0, hc0⟩ : ∃ c, c = ffF x y := ⟨_, rfl⟩
  have HCh : Hid (∀ W, Calls Tryz.prog 37 #[.agg #[.int .i64 x, .int .i64 y]] W fun e w' => e = .returned (.agg #[.int .i64 c0, .int .i64 0]) ∧ Below W.heap.size W w') := fun W => by rw [hc0]; exact check_any x y W
  have HC0 : Hid (c0 = ffF x y) := hc0
  clear hc0
  obtain ⟨bf, hbf⟩ : ∃ b, b = w.heap.size + 1 := ⟨_, rfl⟩
  obtain ⟨W0, hW0⟩ : ∃ W, W = (w.alloc (.cells #[.int .i64 x, .int .i64 y] 23)).alloc (.cells #[.int .i64 0, .int .i64 0] 25) := ⟨_, rfl⟩
  have K0 : Hid (Cl w.heap.size [.int .i64 x, .int .i64 y] 23 W0 ∧ Cl bf [.int .i64 0, .int .i64 0] 25 W0 ∧ Below w.heap.size w W0 ∧ w.heap.size ≤ bf) := by
    have h1 := Cl.new [.int .i64 0, .int .i64 0] 25 (w.alloc (.cells #[.int .i64 x, .int .i64 y] 23))
    show _ ∧ _
    rw [hW0, hbf]
    exact ⟨(Cl.new _ _ _).alloc _, by simpa using h1, ((Below.refl _ _).alloc (Nat.le_refl _) _).alloc (by simp) _, by omega⟩
  have p0 := K0.out.1.cell 0
  have p1 := K0.out.1.cell 1
  simp at p0 p1
  go_enter Tryz.func32, Tryz.ntmps32
  go_wp2_with fail
  rw [← hW0]
  simp only [← hbf]
  clear hW0 hbf
  refine (HCh.out W0).mono ?_
  rintro e w1 ⟨rfl, k1⟩
  obtain ⟨W2, hW2⟩ : ∃ W, W = w1.alloc (.cells #[.int .i64 c0, .int .i64 0] 25) := ⟨_, rfl⟩
  have K1 : Hid (Cl w.heap.size [.int .i64 x, .int .i64 y] 23 w1 ∧ Cl bf [.int .i64 0, .int .i64 0] 25 w1 ∧ Below w.heap.size w w1 ∧ w.heap.size ≤ bf) := ⟨K0.out.1.below k1, K0.out.2.1.below k1, K0.out.2.2.1.trans (k1.mono K0.out.2.2.1.size), K0.out.2.2.2⟩
  have K2 : Hid (Cl w.heap.size [.int .i64 x, .int .i64 y] 23 W2 ∧ Cl bf [.int .i64 0, .int .i64 0] 25 W2 ∧ Below w.heap.size w W2 ∧ w.heap.size ≤ bf) := by
    show _ ∧ _
    rw [hW2]
    exact ⟨K1.out.1.alloc _, K1.out.2.1.alloc _, K1.out.2.2.1.alloc K1.out.2.2.1.size _, K1.out.2.2.2⟩
  have HW2 : Hid (W2 = w1.alloc (.cells #[.int .i64 c0, .int .i64 0] 25)) := hW2
  clear k1 K0 hW2 p0 p1
  have p0 := K1.out.1.cell 0
  have p1 := K1.out.1.cell 1
  have p2 := K1.out.1.lt
  have p3 := K1.out.2.1.cell 0
  have p4 := K1.out.2.1.cell 1
  have p5 := K1.out.2.1.lt
  have p6 := K1.out.2.1.frozen 0
  have p7 := K1.out.2.1.frozen 1
  simp at p0 p1 p3 p4
  rcases HPc.out with ⟨h0, h1, h2⟩ | ⟨h0, h1, h2, h3⟩ | ⟨h0, h1, h3, h4⟩
  · have HC : Hid (dcode x y = c0 ∧ dtext x y = []) := ⟨by rw [h1, HC0.out], h2⟩
    have tc : (c0 != 0) = true := by
      rw [HC0.out]
      rcases h0 with h | h <;> rw [h] <;> rfl
    have HF : Hid (Below w.heap.size w (((w1.setCell ⟨bf, 0, none⟩ (.int .i64 c0)).setCell ⟨bf, 1, none⟩ (.int .i64 0)).alloc (.cells #[.int .i64 c0, .int .i64 0] 25)) ∧ Cl bf [.int .i64 c0, .int .i64 0] 25 (((w1.setCell ⟨bf, 0, none⟩ (.int .i64 c0)).setCell ⟨bf, 1, none⟩ (.int .i64 0)).alloc (.cells #[.int .i64 c0, .int .i64 0] 25))) := by
      have h := (K1.out.2.2.1.setCell (p := ⟨bf, 0, none⟩) K1.out.2.2.2 (.int .i64 c0)).setCell (p := ⟨bf, 1, none⟩) K1.out.2.2.2 (.int .i64 0)
      exact ⟨h.alloc h.size _, ((K1.out.2.1.set 0 _).set 1 _).alloc _⟩
    clear h0 h1 h2 HPc HOk HCh HC0 HW2 K2
    go_wp2
    go_region
    all_goals
      go_wp2
      have e1 := HF.out.2.drew.cell 0
      have e2 := HF.out.2.drew.cell 1
      simp at e1 e2
      exact bodyPost_ret (v := .tuple #[.string ⟨#[]⟩, .agg #[.int .i64 c0, .int .i64 0]]) (by simp [results, Tryz.results32, go_sem, e1, e2]) rfl ⟨by rw [HC.out.1, HC.out.2], HF.out.1.drew⟩
  · have HC : Hid (dcode x y = 2 ∧ dtext x y = []) := ⟨h2, h3⟩
    have tx : decide (5000 < y) = true := decide_eq_true h1
    have tc : c0 = 0 := by rw [HC0.out, h0]
    subst tc
    have HF : Hid (Below w.heap.size w (((w1.setCell ⟨bf, 0, none⟩ (.int .i64 2)).setCell ⟨bf, 1, none⟩ (.int .i64 0)).alloc (.cells #[.int .i64 0, .int .i64 0] 25)) ∧ Cl bf [.int .i64 2, .int .i64 0] 25 (((w1.setCell ⟨bf, 0, none⟩ (.int .i64 2)).setCell ⟨bf, 1, none⟩ (.int .i64 0)).alloc (.cells #[.int .i64 0, .int .i64 0] 25))) := by
      have h := (K1.out.2.2.1.setCell (p := ⟨bf, 0, none⟩) K1.out.2.2.2 (.int .i64 2)).setCell (p := ⟨bf, 1, none⟩) K1.out.2.2.2 (.int .i64 0)
      exact ⟨h.alloc h.size _, ((K1.out.2.1.set 0 _).set 1 _).alloc _⟩
    clear h0 h1 h2 h3 HPc HOk HCh HC0 HW2 K2
    go_wp2
    have e1 := HF.out.2.cell 0
    have e2 := HF.out.2.cell 1
    simp at e1 e2
    exact bodyPost_ret (v := .tuple #[.string ⟨#[]⟩, .agg #[.int .i64 2, .int .i64 0]]) (by simp [results, Tryz.results32, go_sem, e1, e2]) rfl ⟨by rw [HC.out.1, HC.out.2], HF.out.1⟩
  · obtain ⟨T, hT⟩ : ∃ T : ByteArray, T = ⟨(dtext x y).toArray⟩ := ⟨_, rfl⟩
    have HC : Hid (dcode x y = 0 ∧ (⟨(dtext x y).toArray⟩ : ByteArray) = T) := ⟨h3, hT.symm⟩
    have tx : decide (5000 < y) = false := decide_eq_false (by omega)
    have h5 := HOk.out h0
    have HDc : Hid (∀ W, Below w.heap.size w W → Calls Tryz.prog 62 #[.agg #[.int .i64 x, .int .i64 y]] W fun e w' => e = .returned (.string T) ∧ Below W.heap.size W w') := fun W k => by
      have eY : y = ((y.toNat : Nat) : Int) := by omega
      rw [hT, h4]
      have h6 := decimal_any x y.toNat W (by omega) (by omega) (by omega) (by rw [← eY]; exact h5.2.2.2.2) (HTT.out.1.below k) (HTT.out.2.below k)
      rw [← eY] at h6
      exact h6
    have tc : c0 = 0 := by rw [HC0.out, h0]
    subst tc
    clear h0 h1 h3 h4 h5 hT HPc HOk HCh HC0
    go_wp2_with fail
    rw [← HW2.out]
    clear HW2 p0 p1 p2 p3 p4 p5 p6 p7
    refine (HDc.out W2 K2.out.2.2.1).mono ?_
    rintro e w3 ⟨rfl, k3⟩
    have K3 : Hid (Cl bf [.int .i64 0, .int .i64 0] 25 w3 ∧ Below w.heap.size w w3 ∧ w.heap.size ≤ bf) := ⟨K2.out.2.1.below k3, K2.out.2.2.1.trans (k3.mono K2.out.2.2.1.size), K2.out.2.2.2⟩
    clear k3 K1 K2 HDc
    have f0 := K3.out.1.cell 0
    have f1 := K3.out.1.cell 1
    have f2 := K3.out.1.frozen 0
    have f3 := K3.out.1.frozen 1
    simp at f0 f1
    have HF : Hid (Below w.heap.size w ((w3.setCell ⟨bf, 0, none⟩ (.int .i64 0)).setCell ⟨bf, 1, none⟩ (.int .i64 0)) ∧ Cl bf [.int .i64 0, .int .i64 0] 25 ((w3.setCell ⟨bf, 0, none⟩ (.int .i64 0)).setCell ⟨bf, 1, none⟩ (.int .i64 0))) :=
      ⟨(K3.out.2.1.setCell K3.out.2.2 _).setCell K3.out.2.2 _, (K3.out.1.set 0 _).set 1 _⟩
    clear K3
    go_wp2
    have e1 := HF.out.2.cell 0
    have e2 := HF.out.2.cell 1
    simp at e1 e2
    exact bodyPost_ret (v := .tuple #[.string T, .agg #[.int .i64 0, .int .i64 0]]) (by simp [results, Tryz.results32, go_sem, e1, e2]) rfl ⟨by rw [HC.out.1, HC.out.2], HF.out.1⟩
end Go.Proofs.YtcnfhndejkngkaaGreatDoor
end

section
set_option linter.unusedVariables false
set_option maxRecDepth 100000
namespace Go.Proofs.YtcnfhndejkngkaaGreatDoor
open Go.RowKit LgM
theorem pc35 : pcode 3 5 = 0 := by decide +kernel
theorem pt35 : ptext 3 5 = ⟨#[76, 82, 76]⟩ := by unfold ptext; rw [if_neg (by rw [pc35]; decide)]; decide +kernel
theorem dc16 : dcode 1 6 = 0 := by decide +kernel
theorem dt16 : dtext 1 6 = [48, 46, 49, 40, 54, 41] := by unfold dtext; rw [if_neg (by rw [dc16]; decide)]; decide +kernel
theorem fracBegun_any (w : World) (hTb : Tb w) (hTq : Tq w) : Calls Tryz.prog 11 #[] w fun e w' => e = .returned (.bool true) ∧ Below w.heap.size w w' := by
  refine fracBegun_of w (fun W _ => ?_) (fun W k => ?_)
  · have h := Path_any 3 5 W
    rw [pc35, pt35] at h
    exact h
  · have h := Decimal_any 1 6 W (hTb.below k) (hTq.below k)
    rw [dc16, dt16] at h
    exact h
end Go.Proofs.YtcnfhndejkngkaaGreatDoor
end

section
set_option linter.unusedSimpArgs false
set_option linter.unusedVariables false
set_option maxRecDepth 100000
namespace Go.Proofs.YtcnfhndejkngkaaGreatDoor
namespace FR
theorem nbs_at : ∀ (l : List (Nat × Nat)) (i : Nat), nbs l = true → i + 1 < l.length → (l.getD (i + 1) (0, 0)).1 * (l.getD i (0, 0)).2 = (l.getD i (0, 0)).1 * (l.getD (i + 1) (0, 0)).2 + 1
  | [], i, _, h => by simp at h
  | [x], i, _, h => by simp at h
  | x :: y :: l, 0, h, _ => by
    rw [nbs, Bool.and_eq_true, beq_iff_eq] at h
    exact h.1
  | x :: y :: l, i + 1, h, h2 => by
    rw [nbs, Bool.and_eq_true] at h
    exact nbs_at (y :: l) i h.2 (by simpa using h2)
theorem many_le : ∀ k, k ≤ 50 → many k ≤ 10000 := by
  have h : ((List.range 51).all fun i => decide (many i ≤ 10000)) = true := by decide +kernel
  intro k hk
  rw [List.all_eq_true] at h
  exact of_decide_eq_true (h k (by rw [List.mem_range]; omega))
structure RowIs (n : Nat) (L : List (Nat × Nat)) : Prop where
  len : L.length = many n
  two : 2 ≤ L.length
  first : L.getD 0 (0, 0) = (0, 1)
  last : L.getD (L.length - 1) (0, 0) = (1, 1)
  all : ∀ i, i < L.length → 1 ≤ (L.getD i (0, 0)).2 ∧ (L.getD i (0, 0)).2 ≤ n ∧ (L.getD i (0, 0)).1 ≤ n
  nb : ∀ i, i + 1 < L.length → (L.getD (i + 1) (0, 0)).1 * (L.getD i (0, 0)).2 = (L.getD i (0, 0)).1 * (L.getD (i + 1) (0, 0)).2 + 1
theorem row_is (n : Nat) (h1 : 1 ≤ n) (h2 : n ≤ 50) : RowIs n (row n) := by
  have h := row_ok n h1 h2
  unfold rowOk at h
  rw [Bool.and_eq_true, Bool.and_eq_true, Bool.and_eq_true, beq_iff_eq, beq_iff_eq, List.all_eq_true] at h
  obtain ⟨⟨⟨a, b⟩, c⟩, d⟩ := h
  have e : rowc (n - 1) = row n := by have := rowc_is (n - 1) (by omega); rwa [show n - 1 + 1 = n by omega] at this
  have hz := rsz_all (n - 1) (by omega)
  rw [e] at hz
  refine ⟨a, hz.2.1, rfl, ?_, fun i hi => ?_, fun i hi => nbs_at _ i c hi⟩
  · rw [List.getLast?_eq_getElem?] at b
    rw [List.getD_eq_getElem?_getD, b]
    rfl
  · have hm : (row n).getD i (0, 0) ∈ row n := by
      rw [List.getD_eq_getElem?_getD, List.getElem?_eq_getElem hi]
      exact List.getElem_mem _
    have := d _ hm
    rw [Bool.and_eq_true, Bool.and_eq_true] at this
    exact ⟨of_decide_eq_true this.1.1, of_decide_eq_true this.1.2, of_decide_eq_true this.2⟩
end FR
open Go.RowKit
theorem Fw.other {L : List (Nat × Nat)} {n g b : Nat} {w : World} (h : Fw L n g w) (x y : Value) (hne : b ≠ g) : Fw L n g ((w.setCell ⟨b, 0, none⟩ x).setCell ⟨b, 1, none⟩ y) := by
  have k : ∀ v : World, ∀ o : Nat, ∀ z : Value, (v.setCell ⟨b, o, none⟩ z).heap[g]? = v.heap[g]? := fun v o z => Below.heap_setCell _ _ _ _ (Ne.symm hne)
  have e : ((w.setCell ⟨b, 0, none⟩ x).setCell ⟨b, 1, none⟩ y).heap[g]? = w.heap[g]? := (k _ _ _).trans (k _ _ _)
  exact ⟨h.len, by simpa using h.lt, fun i hi => (World.cell?_of_block e).trans (h.c0 i hi), fun i hi => (World.cell?_of_block e).trans (h.c1 i hi)⟩
end Go.Proofs.YtcnfhndejkngkaaGreatDoor
end
