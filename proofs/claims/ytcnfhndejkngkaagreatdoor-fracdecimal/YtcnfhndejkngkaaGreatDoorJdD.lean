import Derived.Test.YtcnfhndejkngkaaGreatDoorJdC
import Derived.Test.YtcnfhndejkngkaaGreatDoorRangeD
import Derived.Test.YtcnfhndejkngkaaGreatDoorJdA
section
/- A block of cells, known whole. -/
set_option linter.unusedSimpArgs false
set_option linter.unusedVariables false
set_option maxRecDepth 100000
namespace Go.Proofs.YtcnfhndejkngkaaGreatDoor
open Go.RowKit

/-- The block b holds these cells, none of them frozen. -/
def Cl (b : Nat) (l : List Value) (t : TypeId) (w : World) : Prop := w.heap[b]? = some (.cells l.toArray t (0, 0))
theorem Cl.lt {b : Nat} {l : List Value} {t : TypeId} {w : World} (h : Cl b l t w) : b < w.heap.size := (Array.getElem?_eq_some_iff.1 h).1
theorem Cl.cell {b : Nat} {l : List Value} {t : TypeId} {w : World} (h : Cl b l t w) (i : Nat) : w.cell? ⟨b, i, none⟩ = l[i]? := by
  unfold Cl at h
  simp [World.cell?, h]
theorem Cl.frozen {b : Nat} {l : List Value} {t : TypeId} {w : World} (h : Cl b l t w) (i : Nat) : w.frozen? ⟨b, i, none⟩ = false := by
  unfold Cl at h
  simp [World.frozen?, h]
theorem Cl.below {b : Nat} {l : List Value} {t : TypeId} {w w' : World} (h : Cl b l t w) (k : Below w.heap.size w w') : Cl b l t w' := (k.block b h.lt).trans h
theorem Cl.new (l : List Value) (t : TypeId) (w : World) : Cl w.heap.size l t (w.alloc (.cells l.toArray t)) := World.alloc_heap_new w _
theorem Cl.alloc {b : Nat} {l : List Value} {t : TypeId} {w : World} (h : Cl b l t w) (o : Obj) : Cl b l t (w.alloc o) := h.below (Below.alloc (Below.refl _ _) (Nat.le_refl _) _)
theorem Cl.drewN {b n : Nat} {l : List Value} {t : TypeId} {w : World} (h : Cl b l t w) : Cl b l t (w.drewN n) := h.below (below_drewN' (Below.refl _ _))
theorem Cl.drew {b : Nat} {l : List Value} {t : TypeId} {w : World} (h : Cl b l t w) : Cl b l t w.drew := h
theorem Cl.set {b : Nat} {l : List Value} {t : TypeId} {w : World} (h : Cl b l t w) (i : Nat) (v : Value) : Cl b (l.set i v) t (w.setCell ⟨b, i, none⟩ v) := by
  have := heap_setCell_same w b i l.toArray t v h
  unfold Cl
  rw [this]
  simp
theorem Cl.other {b : Nat} {l : List Value} {t : TypeId} {w : World} (h : Cl b l t w) {p : Addr} (hp : b ≠ p.block) (v : Value) : Cl b l t (w.setCell p v) :=
  (Below.heap_setCell w p v b hp).trans h
theorem Cl.grown {b : Nat} {l : List Value} {t : TypeId} {w w' : World} {row : Option Nat} (h : Cl b l t w) (hg : w.grownBy w' row) (hr : row ≠ some b) : Cl b l t w' :=
  (hg.block b h.lt (fun e => hr e.symm)).trans h

end Go.Proofs.YtcnfhndejkngkaaGreatDoor
end

section
/- The reference's FracFault. -/
set_option linter.unusedSimpArgs false
set_option linter.unusedVariables false
set_option maxRecDepth 100000
namespace Go.Proofs.YtcnfhndejkngkaaGreatDoor
open Go.RowKit

/-- A fraction's fault. -/
def ffF (x y : Int) : Int := if numB x = true ∧ numB y = true then (if y < 1 ∨ Int.gcd x y ≠ 1 then 6 else 0) else 3
theorem ffF_3 {x y : Int} (h : ¬ (numB x = true ∧ numB y = true)) : ffF x y = 3 := by unfold ffF; rw [if_neg h]
theorem ffF_6 {x y : Int} (h : numB x = true ∧ numB y = true) (h2 : y < 1 ∨ Int.gcd x y ≠ 1) : ffF x y = 6 := by unfold ffF; rw [if_pos h, if_pos h2]
theorem ffF_0 {x y : Int} (h : numB x = true ∧ numB y = true) (h2 : ¬ (y < 1 ∨ Int.gcd x y ≠ 1)) : ffF x y = 0 := by unfold ffF; rw [if_pos h, if_neg h2]

set_option maxHeartbeats 4000000 in
theorem FracFault_any (x y : Int) (w : World) :
    Calls Tryz.prog 9 #[.agg #[.int .i64 x, .int .i64 y]] w fun e w' => e = .returned (.agg #[.int .i64 (ffF x y), .int .i64 0]) ∧ Below w.heap.size w w' := by
  obtain ⟨W0, hW0⟩ : ∃ W0, W0 = (w.alloc (.cells #[.int .i64 x, .int .i64 y] 23)).alloc (.cells #[.int .i64 0, .int .i64 0] 25) := ⟨_, rfl⟩
  have H0 : Hid (Cl w.heap.size [.int .i64 x, .int .i64 y] 23 W0 ∧ Cl (w.heap.size + 1) [.int .i64 0, .int .i64 0] 25 W0 ∧ Below w.heap.size w W0) := by
    have h1 := Cl.new [.int .i64 0, .int .i64 0] 25 (w.alloc (.cells #[.int .i64 x, .int .i64 y] 23))
    show _ ∧ _
    rw [hW0]
    exact ⟨(Cl.new _ _ _).alloc _, by simpa using h1, ((Below.refl _ _).alloc (Nat.le_refl _) _).alloc (by simp) _⟩
  have HNx : Hid (∀ W b, b = numB x → Calls Tryz.prog 35 #[.int .i64 x] W fun e w' => e = .returned (.bool b) ∧ w' = W) := fun W b h => by rw [h]; exact number_any x W
  have HNy : Hid (∀ W b, b = numB y → Calls Tryz.prog 35 #[.int .i64 y] W fun e w' => e = .returned (.bool b) ∧ w' = W) := fun W b h => by rw [h]; exact number_any y W
  have q0 := H0.out.1.cell 0
  have q1 := H0.out.1.cell 1
  simp at q0 q1
  go_enter Tryz.func9, Tryz.ntmps9
  go_wp2_with fail
  rw [← hW0]
  clear hW0
  obtain ⟨bx, hbx⟩ : ∃ b, b = numB x := ⟨_, rfl⟩
  obtain ⟨by', hby⟩ : ∃ b, b = numB y := ⟨_, rfl⟩
  refine (HNx.out _ bx hbx).mono ?_
  rintro e w1 ⟨rfl, hw1⟩
  rw [hw1]
  clear hw1 w1
  cases bx with
  | false =>
    have HC : Hid (ffF x y = 3) := ffF_3 (by rw [← hbx]; simp)
    clear hbx hby
    go_wp2_with fail
    refine (F_any 3 0 _).mono ?_
    rintro e w5 ⟨rfl, k5⟩
    have c5 := H0.out.2.1.below k5
    have q0 := c5.cell 0
    have q1 := c5.cell 1
    have q2 := c5.frozen 0
    have q3 := c5.frozen 1
    simp at q0 q1
    have HF : Hid (Below w.heap.size w ((w5.setCell ⟨w.heap.size + 1, 0, none⟩ (.int .i64 3)).setCell ⟨w.heap.size + 1, 1, none⟩ (.int .i64 0)) ∧ Cl (w.heap.size + 1) [.int .i64 3, .int .i64 0] 25 ((w5.setCell ⟨w.heap.size + 1, 0, none⟩ (.int .i64 3)).setCell ⟨w.heap.size + 1, 1, none⟩ (.int .i64 0))) :=
      ⟨((H0.out.2.2.trans (k5.mono H0.out.2.2.size)).setCell (by simp) _).setCell (by simp) _, (c5.set 0 _).set 1 _⟩
    clear c5 k5 H0
    go_wp2
    have C := HF.out.2
    have e1 := C.cell 0
    have e2 := C.cell 1
    simp at e1 e2
    exact bodyPost_ret (v := .agg #[.int .i64 3, .int .i64 0]) (by simp [results, Tryz.results9, go_sem, e1, e2]) rfl ⟨by rw [HC.out], HF.out.1⟩
  | true =>
    have Hbx : Hid (true = numB x) := hbx
    have Hby : Hid (by' = numB y) := hby
    clear hbx hby
    go_wp2_with fail
    refine (HNy.out _ by' Hby.out).mono ?_
    rintro e w1 ⟨rfl, hw1⟩
    rw [hw1]
    clear hw1 w1
    cases by' with
    | false =>
      have HC : Hid (ffF x y = 3) := ffF_3 (by rw [← Hby.out]; simp)
      clear Hbx Hby
      go_wp2_with fail
      refine (F_any 3 0 _).mono ?_
      rintro e w5 ⟨rfl, k5⟩
      have c5 := H0.out.2.1.below k5
      have q0 := c5.cell 0
      have q1 := c5.cell 1
      have q2 := c5.frozen 0
      have q3 := c5.frozen 1
      simp at q0 q1
      have HF : Hid (Below w.heap.size w ((w5.setCell ⟨w.heap.size + 1, 0, none⟩ (.int .i64 3)).setCell ⟨w.heap.size + 1, 1, none⟩ (.int .i64 0)) ∧ Cl (w.heap.size + 1) [.int .i64 3, .int .i64 0] 25 ((w5.setCell ⟨w.heap.size + 1, 0, none⟩ (.int .i64 3)).setCell ⟨w.heap.size + 1, 1, none⟩ (.int .i64 0))) :=
        ⟨((H0.out.2.2.trans (k5.mono H0.out.2.2.size)).setCell (by simp) _).setCell (by simp) _, (c5.set 0 _).set 1 _⟩
      clear c5 k5 H0
      go_wp2
      have C := HF.out.2
      have e1 := C.cell 0
      have e2 := C.cell 1
      simp at e1 e2
      exact bodyPost_ret (v := .agg #[.int .i64 3, .int .i64 0]) (by simp [results, Tryz.results9, go_sem, e1, e2]) rfl ⟨by rw [HC.out], HF.out.1⟩
    | true =>
      have hx := Hbx.out.symm
      have hy := Hby.out.symm
      have hxl : -1000000000000000000 ≤ x ∧ x ≤ 1000000000000000000 := by simpa [numB] using hx
      have hyl : -1000000000000000000 ≤ y ∧ y ≤ 1000000000000000000 := by simpa [numB] using hy
      have HB : Hid (numB x = true ∧ numB y = true) := ⟨hx, hy⟩
      clear Hbx Hby hx hy
      by_cases h1 : y < 1
      · have d1 : decide (y < 1) = true := decide_eq_true h1
        have HC : Hid (ffF x y = 6) := ffF_6 HB.out (.inl h1)
        clear h1
        go_wp2_with fail
        refine (F_any 6 0 _).mono ?_
        rintro e w5 ⟨rfl, k5⟩
        have c5 := H0.out.2.1.below k5
        have q0 := c5.cell 0
        have q1 := c5.cell 1
        have q2 := c5.frozen 0
        have q3 := c5.frozen 1
        simp at q0 q1
        have HF : Hid (Below w.heap.size w ((w5.setCell ⟨w.heap.size + 1, 0, none⟩ (.int .i64 6)).setCell ⟨w.heap.size + 1, 1, none⟩ (.int .i64 0)) ∧ Cl (w.heap.size + 1) [.int .i64 6, .int .i64 0] 25 ((w5.setCell ⟨w.heap.size + 1, 0, none⟩ (.int .i64 6)).setCell ⟨w.heap.size + 1, 1, none⟩ (.int .i64 0))) :=
          ⟨((H0.out.2.2.trans (k5.mono H0.out.2.2.size)).setCell (by simp) _).setCell (by simp) _, (c5.set 0 _).set 1 _⟩
        clear c5 k5 H0
        go_wp2
        have C := HF.out.2
        have e1 := C.cell 0
        have e2 := C.cell 1
        simp at e1 e2
        exact bodyPost_ret (v := .agg #[.int .i64 6, .int .i64 0]) (by simp [results, Tryz.results9, go_sem, e1, e2]) rfl ⟨by rw [HC.out], HF.out.1⟩
      · have d1 : decide (y < 1) = false := decide_eq_false h1
        have HGc : Hid (∀ W, Calls Tryz.prog 39 #[.int .i64 x, .int .i64 y] W fun e w' => e = .returned (.int .i64 (Int.gcd x y : Int)) ∧ w' = W) := fun W => refGcd_nat x.natAbs y.natAbs W (by omega) (by omega) x y rfl rfl
        have HY1 : Hid (¬ y < 1) := h1
        obtain ⟨G, hG⟩ : ∃ G, G = Int.gcd x y := ⟨_, rfl⟩
        rw [← hG] at HGc
        go_wp2_with fail
        refine (HGc.out _).mono ?_
        rintro e w1 ⟨rfl, hw1⟩
        rw [hw1]
        clear hw1 w1
        by_cases h2 : G = 1
        · have d2 : ((G : Int) != 1) = false := by rw [h2]; rfl
          have HC : Hid (ffF x y = 0) := ffF_0 HB.out (by rw [← hG]; rintro (h | h); exact absurd h (by have := HY1.out; omega); exact h h2)
          have c5 := H0.out.2.1
          have q2' := c5.cell 0
          have q3' := c5.cell 1
          have q4' := c5.frozen 0
          have q5' := c5.frozen 1
          simp at q2' q3'
          have HF : Hid (Below w.heap.size w ((W0.setCell ⟨w.heap.size + 1, 0, none⟩ (.int .i64 0)).setCell ⟨w.heap.size + 1, 1, none⟩ (.int .i64 0)) ∧ Cl (w.heap.size + 1) [.int .i64 0, .int .i64 0] 25 ((W0.setCell ⟨w.heap.size + 1, 0, none⟩ (.int .i64 0)).setCell ⟨w.heap.size + 1, 1, none⟩ (.int .i64 0))) :=
            ⟨(H0.out.2.2.setCell (by simp) _).setCell (by simp) _, (c5.set 0 _).set 1 _⟩
          clear c5 H0 hG h2
          go_wp2
          have C := HF.out.2
          have e1 := C.cell 0
          have e2 := C.cell 1
          simp at e1 e2
          exact bodyPost_ret (v := .agg #[.int .i64 0, .int .i64 0]) (by simp [results, Tryz.results9, go_sem, e1, e2]) rfl ⟨by rw [HC.out], HF.out.1⟩
        · have d2 : ((G : Int) != 1) = true := by simp; omega
          have HC : Hid (ffF x y = 6) := ffF_6 HB.out (.inr (by rw [← hG]; exact h2))
          clear hG h2
          go_wp2_with fail
          refine (F_any 6 0 _).mono ?_
          rintro e w5 ⟨rfl, k5⟩
          have c5 := H0.out.2.1.below k5
          have q0 := c5.cell 0
          have q1 := c5.cell 1
          have q2 := c5.frozen 0
          have q3 := c5.frozen 1
          simp at q0 q1
          have HF : Hid (Below w.heap.size w ((w5.setCell ⟨w.heap.size + 1, 0, none⟩ (.int .i64 6)).setCell ⟨w.heap.size + 1, 1, none⟩ (.int .i64 0)) ∧ Cl (w.heap.size + 1) [.int .i64 6, .int .i64 0] 25 ((w5.setCell ⟨w.heap.size + 1, 0, none⟩ (.int .i64 6)).setCell ⟨w.heap.size + 1, 1, none⟩ (.int .i64 0))) :=
            ⟨((H0.out.2.2.trans (k5.mono H0.out.2.2.size)).setCell (by simp) _).setCell (by simp) _, (c5.set 0 _).set 1 _⟩
          clear c5 k5 H0
          go_wp2
          have C := HF.out.2
          have e1 := C.cell 0
          have e2 := C.cell 1
          simp at e1 e2
          exact bodyPost_ret (v := .agg #[.int .i64 6, .int .i64 0]) (by simp [results, Tryz.results9, go_sem, e1, e2]) rfl ⟨by rw [HC.out], HF.out.1⟩

end Go.Proofs.YtcnfhndejkngkaaGreatDoor
end

section
/- What frac.Decimal says: its fault's code, its text. -/
set_option linter.unusedVariables false
set_option maxRecDepth 100000
namespace Go.Proofs.YtcnfhndejkngkaaGreatDoor

/-- What Decimal says: its fault's code, its text. -/
def dcode (x y : Int) : Int := if ffF x y ≠ 0 then ffF x y else if 5000 < y then 2 else 0
def dtext (x y : Int) : List UInt8 := if dcode x y ≠ 0 then [] else DC.text x y.toNat
theorem ffF_cases (x y : Int) : ffF x y = 0 ∨ ffF x y = 3 ∨ ffF x y = 6 := by
  unfold ffF; split <;> (try split) <;> simp
theorem dec_cases (x y : Int) : ((ffF x y = 3 ∨ ffF x y = 6) ∧ dcode x y = ffF x y ∧ dtext x y = []) ∨ (ffF x y = 0 ∧ 5000 < y ∧ dcode x y = 2 ∧ dtext x y = []) ∨ (ffF x y = 0 ∧ y ≤ 5000 ∧ dcode x y = 0 ∧ dtext x y = DC.text x y.toNat) := by
  unfold dtext dcode
  rcases ffF_cases x y with h | h | h
  · by_cases h1 : 5000 < y
    · refine .inr (.inl ⟨h, h1, ?_, ?_⟩) <;> simp [h, h1]
    · refine .inr (.inr ⟨h, by omega, ?_, ?_⟩) <;> simp [h, h1]
  · exact .inl ⟨.inl h, by simp [h], by simp [h]⟩
  · exact .inl ⟨.inr h, by simp [h], by simp [h]⟩
end Go.Proofs.YtcnfhndejkngkaaGreatDoor
end

section
/- The law FracDecimal, out of what is asked of the code: Decimal, and the examples fracBegun. -/
set_option linter.unusedSimpArgs false
set_option linter.unusedVariables false
set_option maxRecDepth 100000
namespace Go.Proofs.YtcnfhndejkngkaaGreatDoor
open Go.RowKit

theorem Sv.boxed (c d : Int) (w : World) (t : TypeId) : Sv w.heap.size c d (w.alloc (.cells #[.int .i64 c, .int .i64 d] t)) :=
  ⟨by simp, by simp, by simp, by simp, by simp⟩

set_option maxHeartbeats 4000000 in
theorem frac_decimal (x y : Int) (w : World) (hD : ∀ W, Below w.heap.size w W → Calls Tryz.prog 32 #[.agg #[.int .i64 x, .int .i64 y]] W fun e w' => e = .returned (.tuple #[.string ⟨(dtext x y).toArray⟩, .agg #[.int .i64 (dcode x y), .int .i64 0]]) ∧ Below W.heap.size W w')
    (hO : ∀ W, ffF x y = 0 → y ≤ 5000 → Calls Tryz.prog 33 #[.agg #[.int .i64 x, .int .i64 y]] W fun e w' => e = .returned (.string ⟨(DC.text x y.toNat).toArray⟩) ∧ Below W.heap.size W w')
    (hBg : ∀ W, Below w.heap.size w W → Calls Tryz.prog 11 #[] W fun e w' => e = .returned (.bool true) ∧ Below W.heap.size W w') :
    Calls Tryz.prog 6 #[.agg #[.int .i64 x, .int .i64 y]] w fun e w' => e = .returned (.bool true) ∧ Below w.heap.size w w' := by
  obtain ⟨S, hS⟩ : ∃ S : ByteArray, S = ⟨(dtext x y).toArray⟩ := ⟨_, rfl⟩
  obtain ⟨cf, hcf⟩ : ∃ c, c = dcode x y := ⟨_, rfl⟩
  obtain ⟨c0, hc0⟩ : ∃ c, c = ffF x y := ⟨_, rfl⟩
  have HFf : Hid (∀ W, Calls Tryz.prog 9 #[.agg #[.int .i64 x, .int .i64 y]] W fun e w' => e = .returned (.agg #[.int .i64 c0, .int .i64 0]) ∧ Below W.heap.size W w') := fun W => by
    rw [hc0]; exact FracFault_any x y W
  rw [← hS, ← hcf] at hD
  have HC : Hid (((c0 = 3 ∨ c0 = 6) ∧ cf = c0 ∧ S = ⟨#[]⟩) ∨ (c0 = 0 ∧ 5000 < y ∧ cf = 2 ∧ S = ⟨#[]⟩) ∨ (c0 = 0 ∧ y ≤ 5000 ∧ cf = 0 ∧ ∀ W, Calls Tryz.prog 33 #[.agg #[.int .i64 x, .int .i64 y]] W fun e w' => e = .returned (.string S) ∧ Below W.heap.size W w')) := by
    show _ ∨ _
    rcases ffF_cases x y with h | h | h
    · by_cases h1 : 5000 < y
      · have e : dcode x y = 2 := by unfold dcode; rw [if_neg (by rw [h]; simp), if_pos h1]
        refine .inr (.inl ⟨by rw [hc0, h], h1, by rw [hcf, e], ?_⟩)
        rw [hS]; unfold dtext; rw [if_pos (by rw [e]; decide)]
      · have e : dcode x y = 0 := by unfold dcode; rw [if_neg (by rw [h]; simp), if_neg h1]
        refine .inr (.inr ⟨by rw [hc0, h], by omega, by rw [hcf, e], fun W => ?_⟩)
        rw [hS]; unfold dtext; rw [if_neg (by rw [e]; simp)]
        exact hO W h (by omega)
    all_goals
      have e : dcode x y = ffF x y := by unfold dcode; rw [if_pos (by rw [h]; decide)]
      refine .inl ⟨by rw [hc0, h]; simp, by rw [hcf, hc0, e], ?_⟩
      rw [hS]; unfold dtext; rw [if_pos (by rw [e, h]; decide)]
  have HD : Hid _ := hD
  have HBg : Hid _ := hBg
  clear hD hO hBg hS hcf hc0
  obtain ⟨b1, hb1⟩ : ∃ b, b = w.heap.size := ⟨_, rfl⟩
  obtain ⟨W0, hW0⟩ : ∃ W, W = w.alloc (.cells #[.int .i64 x, .int .i64 y] 23) := ⟨_, rfl⟩
  have K0 : Hid (Sv b1 x y W0 ∧ Below w.heap.size w W0) := by
    show _ ∧ _
    rw [hW0, hb1]
    exact ⟨Sv.boxed x y w _, (Below.refl _ _).alloc (Nat.le_refl _) _⟩
  go_enter Tryz.func6, Tryz.ntmps6
  go_wp2_with fail
  rw [← hW0]
  simp only [← hb1]
  clear hW0 hb1
  refine (HD.out _ K0.out.2).mono ?_
  rintro e w1 ⟨rfl, k1⟩
  obtain ⟨b4, hb4⟩ : ∃ b, b = w1.heap.size := ⟨_, rfl⟩
  obtain ⟨W2, hW2⟩ : ∃ W, W = w1.alloc (.cells #[.int .i64 cf, .int .i64 0] 25) := ⟨_, rfl⟩
  have K1 : Hid (Sv b1 x y w1 ∧ Below w.heap.size w w1) := ⟨K0.out.1.below k1, K0.out.2.trans (k1.mono K0.out.2.size)⟩
  have K2 : Hid (Sv b1 x y W2 ∧ Sv b4 cf 0 W2 ∧ Below w.heap.size w W2) := by
    show _ ∧ _
    rw [hW2, hb4]
    exact ⟨K1.out.1.alloc _ _, Sv.boxed cf 0 w1 _, K1.out.2.alloc K1.out.2.size _⟩
  have q0 := K1.out.1.c0
  have q1 := K1.out.1.c1
  have q2 := K1.out.1.lt
  clear k1 K0 HD
  go_wp2_with fail
  rw [← hW2]
  simp only [← hb4]
  clear hW2 hb4 q0 q1 q2 K1
  refine (HFf.out _).mono ?_
  rintro e w3 ⟨rfl, k3⟩
  obtain ⟨b5, hb5⟩ : ∃ b, b = w3.heap.size := ⟨_, rfl⟩
  obtain ⟨W4, hW4⟩ : ∃ W, W = w3.alloc (.cells #[.int .i64 c0, .int .i64 0] 25) := ⟨_, rfl⟩
  have K3 : Hid (Sv b1 x y w3 ∧ Sv b4 cf 0 w3 ∧ Below w.heap.size w w3) := ⟨K2.out.1.below k3, K2.out.2.1.below k3, K2.out.2.2.trans (k3.mono K2.out.2.2.size)⟩
  have HK : Hid (Sv b1 x y W4 ∧ Sv b4 cf 0 W4 ∧ Sv b5 c0 0 W4 ∧ Below w.heap.size w W4) := by
    show _ ∧ _
    rw [hW4, hb5]
    exact ⟨K3.out.1.alloc _ _, K3.out.2.1.alloc _ _, Sv.boxed c0 0 w3 _, K3.out.2.2.alloc K3.out.2.2.size _⟩
  have HN : Hid (b1 ≠ b5 ∧ b4 ≠ b5 ∧ w.heap.size ≤ b5) := by
    have := K3.out.1.lt
    have := K3.out.2.1.lt
    have := K3.out.2.2.size
    exact ⟨by omega, by omega, by omega⟩
  have p0 := K3.out.1.c0
  have p1 := K3.out.1.c1
  have p2 := K3.out.1.lt
  clear k3 K2 K3 HFf
  rcases HC.out with ⟨h0, rfl, rfl⟩ | ⟨rfl, h5, rfl, rfl⟩ | ⟨rfl, h5, rfl, hO⟩
  · clear HC
    rcases h0 with rfl | rfl
    · skip
      go_wp2_with fail
      rw [← hW4]
      simp only [← hb5]
      clear hW4 hb5 p0 p1 p2
      refine (HBg.out _ HK.out.2.2.2).mono ?_
      rintro e w7 ⟨rfl, k7⟩
      have HK7 : Hid (Sv b1 x y w7 ∧ Sv b4 3 0 w7 ∧ Sv b5 3 0 w7 ∧ Below w.heap.size w w7) := ⟨HK.out.1.below k7, HK.out.2.1.below k7, HK.out.2.2.1.below k7, HK.out.2.2.2.trans (k7.mono HK.out.2.2.2.size)⟩
      have q0 := HK7.out.1.c0
      have q1 := HK7.out.1.c1
      have q2 := HK7.out.2.1.c0
      have q3 := HK7.out.2.1.c1
      have q4 := HK7.out.2.2.1.c0
      have q5 := HK7.out.2.2.1.c1
      clear k7 HK HBg
      go_wp2
      go_ret
      exact ⟨rfl, HK7.out.2.2.2⟩
    · skip
      go_wp2_with fail
      rw [← hW4]
      simp only [← hb5]
      clear hW4 hb5 p0 p1 p2
      refine (HBg.out _ HK.out.2.2.2).mono ?_
      rintro e w7 ⟨rfl, k7⟩
      have HK7 : Hid (Sv b1 x y w7 ∧ Sv b4 6 0 w7 ∧ Sv b5 6 0 w7 ∧ Below w.heap.size w w7) := ⟨HK.out.1.below k7, HK.out.2.1.below k7, HK.out.2.2.1.below k7, HK.out.2.2.2.trans (k7.mono HK.out.2.2.2.size)⟩
      have q0 := HK7.out.1.c0
      have q1 := HK7.out.1.c1
      have q2 := HK7.out.2.1.c0
      have q3 := HK7.out.2.1.c1
      have q4 := HK7.out.2.2.1.c0
      have q5 := HK7.out.2.2.1.c1
      clear k7 HK HBg
      go_wp2
      go_ret
      exact ⟨rfl, HK7.out.2.2.2⟩
  · clear HC
    have d5 : decide (5000 < y) = true := decide_eq_true h5
    clear h5
    go_wp2_with fail
    rw [← hW4]
    simp only [← hb5]
    clear hW4 hb5 p0 p1 p2
    refine (F_any 2 0 _).mono ?_
    rintro e w5 ⟨rfl, k5⟩
    have H5 : Hid (Sv b1 x y w5 ∧ Sv b4 2 0 w5 ∧ Sv b5 0 0 w5 ∧ Below w.heap.size w w5) := ⟨HK.out.1.below k5, HK.out.2.1.below k5, HK.out.2.2.1.below k5, HK.out.2.2.2.trans (k5.mono HK.out.2.2.2.size)⟩
    clear k5 HK
    obtain ⟨W6, hW6⟩ : ∃ W, W = (w5.setCell ⟨b5, 0, none⟩ (.int .i64 2)).setCell ⟨b5, 1, none⟩ (.int .i64 0) := ⟨_, rfl⟩
    have HK : Hid (Sv b1 x y W6 ∧ Sv b4 2 0 W6 ∧ Sv b5 2 0 W6 ∧ Below w.heap.size w W6) := by
      show _ ∧ _
      rw [hW6]
      exact ⟨H5.out.1.other _ _ (Ne.symm HN.out.1), H5.out.2.1.other _ _ (Ne.symm HN.out.2.1), H5.out.2.2.1.set 2 0, (H5.out.2.2.2.setCell HN.out.2.2 _).setCell HN.out.2.2 _⟩
    have p0 := H5.out.2.2.1.c0
    have p1 := H5.out.2.2.1.c1
    have p2 := H5.out.2.2.1.f0
    have p3 := H5.out.2.2.1.f1
    go_wp2_with fail
    rw [← hW6]
    clear hW6 p0 p1 p2 p3 H5
    refine (HBg.out _ HK.out.2.2.2).mono ?_
    rintro e w7 ⟨rfl, k7⟩
    have HK7 : Hid (Sv b1 x y w7 ∧ Sv b4 2 0 w7 ∧ Sv b5 2 0 w7 ∧ Below w.heap.size w w7) := ⟨HK.out.1.below k7, HK.out.2.1.below k7, HK.out.2.2.1.below k7, HK.out.2.2.2.trans (k7.mono HK.out.2.2.2.size)⟩
    have q0 := HK7.out.1.c0
    have q1 := HK7.out.1.c1
    have q2 := HK7.out.2.1.c0
    have q3 := HK7.out.2.1.c1
    have q4 := HK7.out.2.2.1.c0
    have q5 := HK7.out.2.2.1.c1
    clear k7 HK HBg
    go_wp2
    go_ret
    exact ⟨rfl, HK7.out.2.2.2⟩
  · clear HC
    have HO : Hid _ := hO
    have d5 : decide (5000 < y) = false := decide_eq_false (by omega)
    clear h5 hO
    go_wp2_with fail
    rw [← hW4]
    simp only [← hb5]
    clear hW4 hb5 p0 p1 p2
    refine (HBg.out _ HK.out.2.2.2).mono ?_
    rintro e w7 ⟨rfl, k7⟩
    have HK7 : Hid (Sv b1 x y w7 ∧ Sv b4 0 0 w7 ∧ Sv b5 0 0 w7 ∧ Below w.heap.size w w7) := ⟨HK.out.1.below k7, HK.out.2.1.below k7, HK.out.2.2.1.below k7, HK.out.2.2.2.trans (k7.mono HK.out.2.2.2.size)⟩
    have q0 := HK7.out.1.c0
    have q1 := HK7.out.1.c1
    have q2 := HK7.out.2.1.c0
    have q3 := HK7.out.2.1.c1
    have q4 := HK7.out.2.2.1.c0
    have q5 := HK7.out.2.2.1.c1
    clear k7 HK HBg
    go_wp2_with fail
    refine (HO.out _).mono ?_
    rintro e w8 ⟨rfl, k8⟩
    have HK8 : Hid (Below w.heap.size w w8) := HK7.out.2.2.2.trans (k8.mono HK7.out.2.2.2.size)
    clear k8
    go_wp2
    go_ret
    exact ⟨rfl, HK8.out⟩
end Go.Proofs.YtcnfhndejkngkaaGreatDoor
end
