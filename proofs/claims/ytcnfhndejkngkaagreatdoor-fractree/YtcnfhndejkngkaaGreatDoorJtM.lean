import Derived.Test.YtcnfhndejkngkaaGreatDoorStB
import Derived.Test.YtcnfhndejkngkaaGreatDoorJtB
import Derived.Test.YtcnfhndejkngkaaGreatDoorJtG
import Derived.Test.YtcnfhndejkngkaaGreatDoorJtH
import Derived.Test.YtcnfhndejkngkaaGreatDoorJtA
import Derived.Test.YtcnfhndejkngkaaGreatDoorBigG
import Derived.Deep.LoopGhost
import Derived.BigQuiet
section
/- Plain facts for FracTree: texts of steps, and where one is none. -/
set_option linter.unusedSimpArgs false
set_option linter.unusedVariables false
set_option maxRecDepth 100000
namespace Go.Proofs.YtcnfhndejkngkaaGreatDoor
namespace TR
def okb (c : UInt8) : Bool := c == 76 || c == 82
def steps (P : List UInt8) : List Bool := P.map fun c => c == 82
theorem steps_back {P : List UInt8} (h : ∀ c ∈ P, okb c = true) : pathS (steps P) = ⟨P.toArray⟩ := by
  unfold pathS steps
  rw [List.map_map]
  have : P.map ((fun r : Bool => if r = true then (82 : UInt8) else 76) ∘ fun c => c == 82) = P := by
    conv => rhs; rw [← List.map_id P]
    apply List.map_congr_left
    intro c hc
    have := h c hc
    unfold okb at this
    by_cases e : c = 82
    · subst e; rfl
    · have e2 : c = 76 := by simpa [e] using this
      subst e2; rfl
  rw [this]
theorem steps_ok (l : List Bool) : ∀ c ∈ (l.map fun r => if r then (82 : UInt8) else 76), okb c = true := by
  intro c hc
  obtain ⟨r, _, rfl⟩ := List.mem_map.1 hc
  cases r <;> rfl
/-- Node's fault of the text alone: too long, or the first byte that is no step. -/
def tf (P : List UInt8) : Int × Int := if 20000 < P.length then (2, 0) else if P.all okb then (0, 0) else (1, (P.findIdx fun c => !okb c : Nat))
theorem tf_long {P : List UInt8} (h : 20000 < P.length) : tf P = (2, 0) := if_pos h
theorem tf_ok {P : List UInt8} (h : P.length ≤ 20000) (h2 : ∀ c ∈ P, okb c = true) : tf P = (0, 0) := by
  unfold tf
  rw [if_neg (by omega), if_pos (by rw [List.all_eq_true]; exact h2)]
theorem tf_bad {P : List UInt8} {i : Nat} (h : P.length ≤ 20000) (hi : i < P.length) (h1 : ∀ j (hj : j < i), okb (P[j]'(by omega)) = true) (h2 : okb (P[i]'hi) = false) : tf P = (1, (i : Int)) := by
  unfold tf
  rw [if_neg (by omega), if_neg (by
    rw [List.all_eq_true]
    intro h3
    have := h3 _ (List.getElem_mem hi)
    rw [h2] at this
    exact absurd this (by decide))]
  have : P.findIdx (fun c => !okb c) = i := by
    rw [List.findIdx_eq hi]
    exact ⟨by rw [h2]; rfl, fun j hj => by rw [h1 j hj]; rfl⟩
  rw [this]
end TR
end Go.Proofs.YtcnfhndejkngkaaGreatDoor
end

section
/- Contracts of the document's answer for layer 1: F, NumbersFault, Gcd, Size, Left. -/
set_option linter.unusedSimpArgs false
set_option linter.unusedVariables false
set_option maxRecDepth 100000
namespace Go.Proofs.YtcnfhndejkngkaaGreatDoor
open Go.RowKit

theorem F_any (c a : Int) (w : World) :
    Calls Tryz.prog 10 #[.int .i64 c, .int .i64 a] w fun e w' => e = .returned (.agg #[.int .i64 c, .int .i64 a]) ∧ Below w.heap.size w w' := by
  go_enter Tryz.func10, Tryz.ntmps10
  go_wp2
  refine bodyPost_ret (v := .agg #[.int .i64 c, .int .i64 a]) (by simp [results, Tryz.results10, go_sem]) rfl ⟨rfl, ?_⟩
  exact Below.alloc (Below.refl _ _) (Nat.le_refl _) _

theorem gcd_sub_left (p q : Nat) : Nat.gcd (p % q) q = Nat.gcd p q := by
  rw [Nat.gcd_comm p q, Nat.gcd_rec q p]
theorem gcd_sub_right (p q : Nat) : Nat.gcd p (q % p) = Nat.gcd p q := by
  rw [Nat.gcd_rec p q, Nat.gcd_comm]

set_option maxHeartbeats 1000000 in
theorem refGcd_nat (a b : Nat) (w : World) (ha : a ≤ 1000000000000000000) (hb : b ≤ 1000000000000000000) (x y : Int) (hx : x.natAbs = a) (hy : y.natAbs = b) :
    Calls Tryz.prog 39 #[.int .i64 x, .int .i64 y] w fun e w' => e = .returned (.int .i64 (Int.gcd x y : Int)) ∧ w' = w := by
  have HG : Hid (Int.gcd x y = Nat.gcd a b) := by unfold Int.gcd; rw [hx, hy]; rfl
  rw [HG.out]
  have hx' : (x < 0 → -x = (a : Int)) ∧ (0 ≤ x → x = (a : Int)) := by omega
  have hy' : (y < 0 → -y = (b : Int)) ∧ (0 ≤ y → y = (b : Int)) := by omega
  have HX : Hid ((x < 0 → -x = (a : Int)) ∧ (0 ≤ x → x = (a : Int))) := hx'
  have HY : Hid ((y < 0 → -y = (b : Int)) ∧ (0 ≤ y → y = (b : Int))) := hy'
  have bx : -1000000000000000000 ≤ x ∧ x ≤ 1000000000000000000 := by omega
  have by' : -1000000000000000000 ≤ y ∧ y ≤ 1000000000000000000 := by omega
  clear hx hy hx' hy' HG
  by_cases sx : x < 0 <;> by_cases sy : y < 0
  all_goals
    go_enter Tryz.func39, Tryz.ntmps39
    go_wp2
    go_loop [0, 1] (fun s t => ∃ p q : Nat, s = .int .i64 p ∧ t = .int .i64 q ∧ p ≤ 1000000000000000000 ∧ q ≤ 1000000000000000000 ∧ Nat.gcd p q = Nat.gcd a b) (fun s t => (intOf s).toNat + (intOf t).toNat)
    case atStart =>
      refine ⟨a, b, ?_, ?_, ha, hb, rfl⟩
      · first | rw [HX.out.1 sx] | rw [HX.out.2 (by omega)]
      · first | rw [HY.out.1 sy] | rw [HY.out.2 (by omega)]
    case round =>
      obtain ⟨p, q, rfl, rfl, hp, hq, hg⟩ := hrel
      have H1 : Hid (Nat.gcd p q = Nat.gcd a b) := hg
      clear hg HX HY
      by_cases c1 : 0 < p
      · by_cases c2 : 0 < q
        · by_cases c3 : q < p
          · have hm : p % q < q := Nat.mod_lt _ c2
            have e := gcd_sub_left p q
            have E : Hid (Nat.gcd (p % q) q = Nat.gcd p q) := e
            clear e
            go_wp2
            go_round
            case rel => exact ⟨p % q, q, by go_num, rfl, by omega, hq, E.out.trans H1.out⟩
            case measure => simp [intOf]; omega
          · have hm : q % p < p := Nat.mod_lt _ c1
            have e := gcd_sub_right p q
            have E : Hid (Nat.gcd p (q % p) = Nat.gcd p q) := e
            clear e
            go_wp2
            go_round
            case rel => exact ⟨p, q % p, rfl, by go_num, hp, by omega, E.out.trans H1.out⟩
            case measure => simp [intOf]; omega
        · obtain rfl : q = 0 := by omega
          go_wp2
          go_ret
          exact ⟨ret_int (by rw [← H1.out]; simp), rfl⟩
      · obtain rfl : p = 0 := by omega
        go_wp2
        go_ret
        exact ⟨ret_int (by rw [← H1.out]; simp), rfl⟩

end Go.Proofs.YtcnfhndejkngkaaGreatDoor
end

section
/- The reference's FracFault. -/
set_option linter.unusedSimpArgs false
set_option linter.unusedVariables false
set_option maxRecDepth 100000
namespace Go.Proofs.YtcnfhndejkngkaaGreatDoor
open Go.RowKit

/-- A fraction's fault. -/
def ffF (x y : Int) : Int := if numB x = true ∧ numB y = true then (if y < 1 ∨ Int.gcd x y ≠ 1 then 6 else 0) else 3
theorem ffF_3 {x y : Int} (h : ¬ (numB x = true ∧ numB y = true)) : ffF x y = 3 := by unfold ffF; rw [if_neg h]
theorem ffF_6 {x y : Int} (h : numB x = true ∧ numB y = true) (h2 : y < 1 ∨ Int.gcd x y ≠ 1) : ffF x y = 6 := by unfold ffF; rw [if_pos h, if_pos h2]
theorem ffF_0 {x y : Int} (h : numB x = true ∧ numB y = true) (h2 : ¬ (y < 1 ∨ Int.gcd x y ≠ 1)) : ffF x y = 0 := by unfold ffF; rw [if_pos h, if_neg h2]

set_option maxHeartbeats 4000000 in
theorem FracFault_any (x y : Int) (w : World) :
    Calls Tryz.prog 9 #[.agg #[.int .i64 x, .int .i64 y]] w fun e w' => e = .returned (.agg #[.int .i64 (ffF x y), .int .i64 0]) ∧ Below w.heap.size w w' := by
  obtain ⟨W0, hW0⟩ : ∃ W0, W0 = (w.alloc (.cells #[.int .i64 x, .int .i64 y] 23)).alloc (.cells #[.int .i64 0, .int .i64 0] 25) := ⟨_, rfl⟩
  have H0 : Hid (Cl w.heap.size [.int .i64 x, .int .i64 y] 23 W0 ∧ Cl (w.heap.size + 1) [.int .i64 0, .int .i64 0] 25 W0 ∧ Below w.heap.size w W0) := by
    have h1 := Cl.new [.int .i64 0, .int .i64 0] 25 (w.alloc (.cells #[.int .i64 x, .int .i64 y] 23))
    show _ ∧ _
    rw [hW0]
    exact ⟨(Cl.new _ _ _).alloc _, by simpa using h1, ((Below.refl _ _).alloc (Nat.le_refl _) _).alloc (by simp) _⟩
  have HNx : Hid (∀ W b, b = numB x → Calls Tryz.prog 35 #[.int .i64 x] W fun e w' => e = .returned (.bool b) ∧ w' = W) := fun W b h => by rw [h]; exact number_any x W
  have HNy : Hid (∀ W b, b = numB y → Calls Tryz.prog 35 #[.int .i64 y] W fun e w' => e = .returned (.bool b) ∧ w' = W) := fun W b h => by rw [h]; exact number_any y W
  have q0 := H0.out.1.cell 0
  have q1 := H0.out.1.cell 1
  simp at q0 q1
  go_enter Tryz.func9, Tryz.ntmps9
  go_wp2_with fail
  rw [← hW0]
  clear hW0
  obtain ⟨bx, hbx⟩ : ∃ b, b = numB x := ⟨_, rfl⟩
  obtain ⟨by', hby⟩ : ∃ b, b = numB y := ⟨_, rfl⟩
  refine (HNx.out _ bx hbx).mono ?_
  rintro e w1 ⟨rfl, hw1⟩
  rw [hw1]
  clear hw1 w1
  cases bx with
  | false =>
    have HC : Hid (ffF x y = 3) := ffF_3 (by rw [← hbx]; simp)
    clear hbx hby
    go_wp2_with fail
    refine (F_any 3 0 _).mono ?_
    rintro e w5 ⟨rfl, k5⟩
    have c5 := H0.out.2.1.below k5
    have q0 := c5.cell 0
    have q1 := c5.cell 1
    have q2 := c5.frozen 0
    have q3 := c5.frozen 1
    simp at q0 q1
    have HF : Hid (Below w.heap.size w ((w5.setCell ⟨w.heap.size + 1, 0, none⟩ (.int .i64 3)).setCell ⟨w.heap.size + 1, 1, none⟩ (.int .i64 0)) ∧ Cl (w.heap.size + 1) [.int .i64 3, .int .i64 0] 25 ((w5.setCell ⟨w.heap.size + 1, 0, none⟩ (.int .i64 3)).setCell ⟨w.heap.size + 1, 1, none⟩ (.int .i64 0))) :=
      ⟨((H0.out.2.2.trans (k5.mono H0.out.2.2.size)).setCell (by simp) _).setCell (by simp) _, (c5.set 0 _).set 1 _⟩
    clear c5 k5 H0
    go_wp2
    have C := HF.out.2
    have e1 := C.cell 0
    have e2 := C.cell 1
    simp at e1 e2
    exact bodyPost_ret (v := .agg #[.int .i64 3, .int .i64 0]) (by simp [results, Tryz.results9, go_sem, e1, e2]) rfl ⟨by rw [HC.out], HF.out.1⟩
  | true =>
    have Hbx : Hid (true = numB x) := hbx
    have Hby : Hid (by' = numB y) := hby
    clear hbx hby
    go_wp2_with fail
    refine (HNy.out _ by' Hby.out).mono ?_
    rintro e w1 ⟨rfl, hw1⟩
    rw [hw1]
    clear hw1 w1
    cases by' with
    | false =>
      have HC : Hid (ffF x y = 3) := ffF_3 (by rw [← Hby.out]; simp)
      clear Hbx Hby
      go_wp2_with fail
      refine (F_any 3 0 _).mono ?_
      rintro e w5 ⟨rfl, k5⟩
      have c5 := H0.out.2.1.below k5
      have q0 := c5.cell 0
      have q1 := c5.cell 1
      have q2 := c5.frozen 0
      have q3 := c5.frozen 1
      simp at q0 q1
      have HF : Hid (Below w.heap.size w ((w5.setCell ⟨w.heap.size + 1, 0, none⟩ (.int .i64 3)).setCell ⟨w.heap.size + 1, 1, none⟩ (.int .i64 0)) ∧ Cl (w.heap.size + 1) [.int .i64 3, .int .i64 0] 25 ((w5.setCell ⟨w.heap.size + 1, 0, none⟩ (.int .i64 3)).setCell ⟨w.heap.size + 1, 1, none⟩ (.int .i64 0))) :=
        ⟨((H0.out.2.2.trans (k5.mono H0.out.2.2.size)).setCell (by simp) _).setCell (by simp) _, (c5.set 0 _).set 1 _⟩
      clear c5 k5 H0
      go_wp2
      have C := HF.out.2
      have e1 := C.cell 0
      have e2 := C.cell 1
      simp at e1 e2
      exact bodyPost_ret (v := .agg #[.int .i64 3, .int .i64 0]) (by simp [results, Tryz.results9, go_sem, e1, e2]) rfl ⟨by rw [HC.out], HF.out.1⟩
    | true =>
      have hx := Hbx.out.symm
      have hy := Hby.out.symm
      have hxl : -1000000000000000000 ≤ x ∧ x ≤ 1000000000000000000 := by simpa [numB] using hx
      have hyl : -1000000000000000000 ≤ y ∧ y ≤ 1000000000000000000 := by simpa [numB] using hy
      have HB : Hid (numB x = true ∧ numB y = true) := ⟨hx, hy⟩
      clear Hbx Hby hx hy
      by_cases h1 : y < 1
      · have d1 : decide (y < 1) = true := decide_eq_true h1
        have HC : Hid (ffF x y = 6) := ffF_6 HB.out (.inl h1)
        clear h1
        go_wp2_with fail
        refine (F_any 6 0 _).mono ?_
        rintro e w5 ⟨rfl, k5⟩
        have c5 := H0.out.2.1.below k5
        have q0 := c5.cell 0
        have q1 := c5.cell 1
        have q2 := c5.frozen 0
        have q3 := c5.frozen 1
        simp at q0 q1
        have HF : Hid (Below w.heap.size w ((w5.setCell ⟨w.heap.size + 1, 0, none⟩ (.int .i64 6)).setCell ⟨w.heap.size + 1, 1, none⟩ (.int .i64 0)) ∧ Cl (w.heap.size + 1) [.int .i64 6, .int .i64 0] 25 ((w5.setCell ⟨w.heap.size + 1, 0, none⟩ (.int .i64 6)).setCell ⟨w.heap.size + 1, 1, none⟩ (.int .i64 0))) :=
          ⟨((H0.out.2.2.trans (k5.mono H0.out.2.2.size)).setCell (by simp) _).setCell (by simp) _, (c5.set 0 _).set 1 _⟩
        clear c5 k5 H0
        go_wp2
        have C := HF.out.2
        have e1 := C.cell 0
        have e2 := C.cell 1
        simp at e1 e2
        exact bodyPost_ret (v := .agg #[.int .i64 6, .int .i64 0]) (by simp [results, Tryz.results9, go_sem, e1, e2]) rfl ⟨by rw [HC.out], HF.out.1⟩
      · have d1 : decide (y < 1) = false := decide_eq_false h1
        have HGc : Hid (∀ W, Calls Tryz.prog 39 #[.int .i64 x, .int .i64 y] W fun e w' => e = .returned (.int .i64 (Int.gcd x y : Int)) ∧ w' = W) := fun W => refGcd_nat x.natAbs y.natAbs W (by omega) (by omega) x y rfl rfl
        have HY1 : Hid (¬ y < 1) := h1
        obtain ⟨G, hG⟩ : ∃ G, G = Int.gcd x y := ⟨_, rfl⟩
        rw [← hG] at HGc
        go_wp2_with fail
        refine (HGc.out _).mono ?_
        rintro e w1 ⟨rfl, hw1⟩
        rw [hw1]
        clear hw1 w1
        by_cases h2 : G = 1
        · have d2 : ((G : Int) != 1) = false := by rw [h2]; rfl
          have HC : Hid (ffF x y = 0) := ffF_0 HB.out (by rw [← hG]; rintro (h | h); exact absurd h (by have := HY1.out; omega); exact h h2)
          have c5 := H0.out.2.1
          have q2' := c5.cell 0
          have q3' := c5.cell 1
          have q4' := c5.frozen 0
          have q5' := c5.frozen 1
          simp at q2' q3'
          have HF : Hid (Below w.heap.size w ((W0.setCell ⟨w.heap.size + 1, 0, none⟩ (.int .i64 0)).setCell ⟨w.heap.size + 1, 1, none⟩ (.int .i64 0)) ∧ Cl (w.heap.size + 1) [.int .i64 0, .int .i64 0] 25 ((W0.setCell ⟨w.heap.size + 1, 0, none⟩ (.int .i64 0)).setCell ⟨w.heap.size + 1, 1, none⟩ (.int .i64 0))) :=
            ⟨(H0.out.2.2.setCell (by simp) _).setCell (by simp) _, (c5.set 0 _).set 1 _⟩
          clear c5 H0 hG h2
          go_wp2
          have C := HF.out.2
          have e1 := C.cell 0
          have e2 := C.cell 1
          simp at e1 e2
          exact bodyPost_ret (v := .agg #[.int .i64 0, .int .i64 0]) (by simp [results, Tryz.results9, go_sem, e1, e2]) rfl ⟨by rw [HC.out], HF.out.1⟩
        · have d2 : ((G : Int) != 1) = true := by simp; omega
          have HC : Hid (ffF x y = 6) := ffF_6 HB.out (.inr (by rw [← hG]; exact h2))
          clear hG h2
          go_wp2_with fail
          refine (F_any 6 0 _).mono ?_
          rintro e w5 ⟨rfl, k5⟩
          have c5 := H0.out.2.1.below k5
          have q0 := c5.cell 0
          have q1 := c5.cell 1
          have q2 := c5.frozen 0
          have q3 := c5.frozen 1
          simp at q0 q1
          have HF : Hid (Below w.heap.size w ((w5.setCell ⟨w.heap.size + 1, 0, none⟩ (.int .i64 6)).setCell ⟨w.heap.size + 1, 1, none⟩ (.int .i64 0)) ∧ Cl (w.heap.size + 1) [.int .i64 6, .int .i64 0] 25 ((w5.setCell ⟨w.heap.size + 1, 0, none⟩ (.int .i64 6)).setCell ⟨w.heap.size + 1, 1, none⟩ (.int .i64 0))) :=
            ⟨((H0.out.2.2.trans (k5.mono H0.out.2.2.size)).setCell (by simp) _).setCell (by simp) _, (c5.set 0 _).set 1 _⟩
          clear c5 k5 H0
          go_wp2
          have C := HF.out.2
          have e1 := C.cell 0
          have e2 := C.cell 1
          simp at e1 e2
          exact bodyPost_ret (v := .agg #[.int .i64 6, .int .i64 0]) (by simp [results, Tryz.results9, go_sem, e1, e2]) rfl ⟨by rw [HC.out], HF.out.1⟩

end Go.Proofs.YtcnfhndejkngkaaGreatDoor
end

section
/- What frac.Path says: its fault's code, its text. -/
set_option linter.unusedVariables false
set_option maxRecDepth 100000
namespace Go.Proofs.YtcnfhndejkngkaaGreatDoor

def pcode (x y : Int) : Int := if ffF x y ≠ 0 then ffF x y else if x < 1 then 3 else if 20001 < ST.qsum x.toNat y.toNat then 9 else 0
def ptext (x y : Int) : ByteArray := if pcode x y ≠ 0 then ⟨#[]⟩ else pathS (ST.path x.toNat y.toNat)
theorem ffF_casesT (x y : Int) : ffF x y = 0 ∨ ffF x y = 3 ∨ ffF x y = 6 := by
  unfold ffF; split <;> (try split) <;> simp
/-- A fraction without a fault. -/
theorem ffF_ok {x y : Int} (h : ffF x y = 0) : -1000000000000000000 ≤ x ∧ x ≤ 1000000000000000000 ∧ 1 ≤ y ∧ y ≤ 1000000000000000000 ∧ Int.gcd x y = 1 := by
  unfold ffF at h
  split at h
  · rename_i h1
    split at h
    · exact absurd h (by decide)
    · rename_i h2
      have hx : -1000000000000000000 ≤ x ∧ x ≤ 1000000000000000000 := by simpa [numB] using h1.1
      have hy : -1000000000000000000 ≤ y ∧ y ≤ 1000000000000000000 := by simpa [numB] using h1.2
      exact ⟨hx.1, hx.2, by omega, hy.2, Decidable.not_not.1 (fun h3 => h2 (.inr h3))⟩
  · exact absurd h (by decide)
theorem path_cases (x y : Int) : ((ffF x y = 3 ∨ ffF x y = 6) ∧ pcode x y = ffF x y ∧ ptext x y = ⟨#[]⟩) ∨ (ffF x y = 0 ∧ x < 1 ∧ pcode x y = 3 ∧ ptext x y = ⟨#[]⟩) ∨ (ffF x y = 0 ∧ 1 ≤ x ∧ 20001 < ST.qsum x.toNat y.toNat ∧ pcode x y = 9 ∧ ptext x y = ⟨#[]⟩) ∨ (ffF x y = 0 ∧ 1 ≤ x ∧ ST.qsum x.toNat y.toNat ≤ 20001 ∧ pcode x y = 0 ∧ ptext x y = pathS (ST.path x.toNat y.toNat)) := by
  unfold ptext pcode
  rcases ffF_casesT x y with h | h | h
  · by_cases h1 : x < 1
    · refine .inr (.inl ⟨h, h1, ?_, ?_⟩) <;> simp [h, h1]
    · by_cases h2 : 20001 < ST.qsum x.toNat y.toNat
      · refine .inr (.inr (.inl ⟨h, by omega, h2, ?_, ?_⟩)) <;> simp [h, h1, h2]
      · refine .inr (.inr (.inr ⟨h, by omega, by omega, ?_, ?_⟩)) <;> simp [h, h1, h2]
  · exact .inl ⟨.inl h, by simp [h], by simp [h]⟩
  · exact .inl ⟨.inr h, by simp [h], by simp [h]⟩
end Go.Proofs.YtcnfhndejkngkaaGreatDoor
end

section
/- The reference's Steps: Euclid's quotients. -/
set_option linter.unusedSimpArgs false
set_option linter.unusedVariables false
set_option maxRecDepth 100000
namespace Go.Proofs.YtcnfhndejkngkaaGreatDoor
open Go.RowKit

namespace ST
theorem qs_le : ∀ f x y, qs f x y ≤ x + y
  | 0, _, _ => Nat.zero_le _
  | f + 1, x, y => by
    unfold qs
    by_cases h : y = 0
    · rw [if_pos h]; omega
    · rw [if_neg h]
      have h1 := qs_le f y (x % y)
      have h2 := Nat.div_add_mod x y
      have h3 : x / y ≤ y * (x / y) := Nat.le_mul_of_pos_left _ (by omega)
      omega
theorem qsum_le (x y : Nat) : qsum x y ≤ x + y := qs_le _ x y
end ST
/-- The sum so far. -/
structure Stp (w W : World) (b : Nat) (s : Int) : Prop where
  s : BigAt W b s
  b0 : w.heap.size ≤ b
  k : Below w.heap.size w W
set_option maxHeartbeats 4000000 in
theorem Steps_any (x y : Nat) (w : World) (hx : x ≤ 1000000000000000000) (hy : y ≤ 1000000000000000000) :
    Calls Tryz.prog 16 #[.agg #[.int .i64 (x : Int), .int .i64 (y : Int)]] w fun e w' => ∃ b, e = .returned (.pointer (some ⟨b, 0, none⟩)) ∧ Stp w w' b ((ST.qsum x y : Nat) - 1) := by
  have HB : Hid (ST.qsum x y ≤ 2000000000000000000) := by
    have := ST.qsum_le x y
    show _ ≤ _
    omega
  obtain ⟨W0, hW0⟩ : ∃ W, W = w.alloc (.cells #[.int .i64 (x : Int), .int .i64 (y : Int)] 23) := ⟨_, rfl⟩
  have K0 : Hid (Cl w.heap.size [.int .i64 (x : Int), .int .i64 (y : Int)] 23 W0 ∧ Below w.heap.size w W0) := by
    show _ ∧ _
    rw [hW0]
    exact ⟨Cl.new [.int .i64 (x : Int), .int .i64 (y : Int)] _ w, (Below.refl _ _).alloc (Nat.le_refl _) _⟩
  go_enter Tryz.func16, Tryz.ntmps16
  go_wp2_with fail
  rw [← hW0]
  clear hW0
  refine (B_any (-1) _ (by omega) (by omega)).mono ?_
  rintro e w2 ⟨bs, rfl, m2⟩
  have p0 := (K0.out.1.below m2.2.2).cell 0
  have p1 := (K0.out.1.below m2.2.2).cell 1
  simp at p0 p1
  have HS : Hid (Stp w w2 bs (-1)) := ⟨m2.2.1, Nat.le_trans K0.out.2.size m2.1, K0.out.2.trans (m2.2.2.mono K0.out.2.size)⟩
  clear m2 K0
  go_wp2
  clear p0 p1
  go_loopg [4, 5] y (fun gk av bv wx => ∃ (a b : Nat) (s : Int), av = .int .i64 (a : Int) ∧ bv = .int .i64 (b : Int) ∧ Hid (gk = b ∧ a ≤ 1000000000000000000 ∧ b ≤ 1000000000000000000 ∧ -1 ≤ s ∧ s + ((ST.qsum a b : Nat) : Int) = ((ST.qsum x y : Nat) : Int) - 1 ∧ Stp w wx bs s))
  case atStart => exact ⟨x, y, -1, rfl, rfl, rfl, hx, hy, by omega, by omega, HS.out⟩
  case round =>
    clear HS
    obtain ⟨a, b, s, rfl, rfl, HR⟩ := hrel
    obtain ⟨h1, h2, h3, h4, h5, h6⟩ := HR.out
    have HK : Hid (gk = b) := h1
    have HE : Hid (s + ((ST.qsum a b : Nat) : Int) = ((ST.qsum x y : Nat) : Int) - 1 ∧ -1 ≤ s) := ⟨h5, h4⟩
    have HS : Hid (Stp w wr bs s) := h6
    clear HR h1 h4 h5 h6
    by_cases hb : 0 < b
    · have tb : decide (0 < (b : Int)) = true := decide_eq_true (by omega)
      have nb : ¬ b = 0 := by omega
      have nbi : ¬ (b : Int) = 0 := by omega
      obtain ⟨q, hq⟩ : ∃ q, q = a / b := ⟨_, rfl⟩
      obtain ⟨r, hr⟩ : ∃ r, r = a % b := ⟨_, rfl⟩
      have hqa : q ≤ a := by rw [hq]; exact Nat.div_le_self _ _
      have hrb : r < b := by rw [hr]; exact Nat.mod_lt _ hb
      have tq : Int.tdiv (a : Int) (b : Int) = (q : Int) := by rw [hq]; rfl
      have tr : Int.tmod (a : Int) (b : Int) = (r : Int) := by rw [hr]; rfl
      have wq : IntKind.i64.wrap (q : Int) = (q : Int) := by rw [IntKind.wrap_i64]; omega
      have wr' : IntKind.i64.wrap (r : Int) = (r : Int) := by rw [IntKind.wrap_i64]; omega
      have HE2 : Hid (s + (q : Int) + ((ST.qsum b r : Nat) : Int) = ((ST.qsum x y : Nat) : Int) - 1 ∧ -1 ≤ s ∧ -1 ≤ s + (q : Int)) := by
        have e := HE.out.1
        rw [ST.qsum_step hb, ← hq, ← hr] at e
        have := HE.out.2
        exact ⟨by omega, by omega, by omega⟩
      have HL : Hid (r < b ∧ b ≤ 1000000000000000000 ∧ q ≤ 1000000000000000000) := ⟨hrb, h3, by omega⟩
      clear hq hr HE
      go_wp2_with fail
      refine (B_any (q : Int) wr (by omega) (by omega)).mono ?_
      rintro e w3 ⟨bq, rfl, m3⟩
      have H3 : Hid (Stp w w3 bs s ∧ BigAt w3 bq (q : Int) ∧ w.heap.size ≤ bq) := ⟨⟨HS.out.s.below m3.2.2 (Nat.le_refl _), HS.out.b0, HS.out.k.trans (m3.2.2.mono HS.out.k.size)⟩, m3.2.1, Nat.le_trans HS.out.k.size m3.1⟩
      clear m3 HS
      go_wp2_with fail
      refine (Add_any bs bs bq s (q : Int) 3 3 w3 H3.out.1.s.slot H3.out.1.s H3.out.2.1 ?_ ?_ (by omega) (by omega)).mono ?_
      · have h1 := HE2.out
        have h2 := HB.out
        exact Nat.lt_of_le_of_lt (show s.natAbs ≤ 2000000000000000000 by omega) (by decide +kernel)
      · have h1 := HL.out
        exact Nat.lt_of_le_of_lt (show ((q : Nat) : Int).natAbs ≤ 2000000000000000000 by omega) (by decide +kernel)
      rintro e w4 ⟨rfl, hb4, u4⟩
      have H4 : Hid (Stp w w4 bs (s + (q : Int))) := ⟨hb4, H3.out.1.b0, H3.out.1.k.trans (u4.below H3.out.1.k.size H3.out.1.b0)⟩
      clear hb4 u4 H3
      go_wp2_with fail
      go_quiet (fail)
      go_wp2
      go_roundg r
      case rel => exact ⟨b, r, s + q, rfl, rfl, rfl, HL.out.2.1, by have := HL.out; omega, HE2.out.2.2, HE2.out.1, ⟨H4.out.s.below (below_drewN' (Below.refl _ _)) (Nat.le_refl _), H4.out.b0, below_drewN' H4.out.k⟩⟩
      case measure => have := HK.out; have := HL.out; omega
    · have tb : decide (0 < (b : Int)) = false := decide_eq_false (by omega)
      obtain rfl : b = 0 := by omega
      have HF : Hid (s = ((ST.qsum x y : Nat) : Int) - 1) := by
        have := HE.out.1
        rw [ST.qsum_zero] at this
        show _ = _
        omega
      clear HE
      go_wp2
      go_ret
      exact ⟨bs, rfl, by rw [← HF.out]; exact HS.out⟩
end Go.Proofs.YtcnfhndejkngkaaGreatDoor
end

section
/- Plain facts for FracTree: the three kinds of texts; a node's own path. -/
set_option linter.unusedSimpArgs false
set_option linter.unusedVariables false
set_option maxRecDepth 100000
namespace Go.Proofs.YtcnfhndejkngkaaGreatDoor
namespace TR
theorem three (P : List UInt8) : 20000 < P.length ∨ (P.length ≤ 20000 ∧ ∀ c ∈ P, okb c = true) ∨ (P.length ≤ 20000 ∧ ∃ (i : Nat) (h : i < P.length), (∀ j (hj : j < i), okb (P[j]'(by omega)) = true) ∧ okb (P[i]'h) = false) := by
  by_cases h1 : 20000 < P.length
  · exact .inl h1
  · by_cases h2 : ∀ c ∈ P, okb c = true
    · exact .inr (.inl ⟨by omega, h2⟩)
    · refine .inr (.inr ⟨by omega, P.findIdx (fun c => !okb c), ?_, fun j hj => ?_, ?_⟩)
      · rw [List.findIdx_lt_length]
        refine Classical.byContradiction fun h3 => h2 fun c hc => ?_
        rcases h4 : okb c with _ | _
        · exact absurd ⟨c, hc, by rw [h4]; rfl⟩ h3
        · rfl
      · have := List.not_of_lt_findIdx hj
        simpa using this
      · have := List.findIdx_getElem (p := fun c => !okb c) (xs := P) (w := by
          rw [List.findIdx_lt_length]
          refine Classical.byContradiction fun h3 => h2 fun c hc => ?_
          rcases h4 : okb c with _ | _
          · exact absurd ⟨c, hc, by rw [h4]; rfl⟩ h3
          · rfl)
        simpa using this
theorem near_of {l : List Bool} (h : (ST.nd l).1 ≤ 1000000000000000000 ∧ (ST.nd l).2 ≤ 1000000000000000000) (j : Nat) : near l j := by
  have := ST.nd_take l (j + 1)
  exact ⟨by omega, by omega⟩
theorem of_near {l : List Bool} (h : ∀ j, j < l.length → near l j) : (ST.nd l).1 ≤ 1000000000000000000 ∧ (ST.nd l).2 ≤ 1000000000000000000 := by
  rcases Nat.eq_zero_or_pos l.length with h0 | h0
  · rw [List.eq_nil_of_length_eq_zero h0]; decide
  · have h1 := h (l.length - 1) (by omega)
    unfold near at h1
    rw [show l.length - 1 + 1 = l.length by omega, List.take_length] at h1
    exact h1
theorem near_uniq {l : List Bool} {i k : Nat} (h1 : ∀ j, j < i → near l j) (h2 : ¬ near l i) (h3 : ∀ j, j < k → near l j) (h4 : ¬ near l k) : i = k := by
  rcases Nat.lt_trichotomy i k with h | h | h
  · exact absurd (h3 i h) h2
  · exact h
  · exact absurd (h1 k h) h4
/-- The path of a node is its own. -/
theorem path_back {l : List Bool} (hl : l.length ≤ 20000) (h : (ST.nd l).1 ≤ 1000000000000000000 ∧ (ST.nd l).2 ≤ 1000000000000000000) : pcode ((ST.nd l).1 : Int) ((ST.nd l).2 : Int) = 0 ∧ ptext ((ST.nd l).1 : Int) ((ST.nd l).2 : Int) = pathS l := by
  have hp := ST.nd_pos l
  have hg := ST.nd_gcd l
  have hb := ST.nd_path l
  have hq := ST.path_len hp.1 hp.2 hg
  rw [hb] at hq
  have hf : ffF ((ST.nd l).1 : Int) ((ST.nd l).2 : Int) = 0 := by
    refine ffF_0 ⟨numB_mk (by omega) (by omega), numB_mk (by omega) (by omega)⟩ ?_
    rintro (h1 | h1)
    · omega
    · rw [Int.gcd_natCast_natCast] at h1; exact h1 hg
  rcases path_cases ((ST.nd l).1 : Int) ((ST.nd l).2 : Int) with ⟨h1, _⟩ | ⟨_, h1, _⟩ | ⟨_, _, h1, _⟩ | ⟨_, _, _, h1, h2⟩
  · rw [hf] at h1; omega
  · omega
  · simp only [Int.toNat_natCast] at h1; omega
  · simp only [Int.toNat_natCast] at h2
    exact ⟨h1, by rw [h2, hb]⟩
end TR
end Go.Proofs.YtcnfhndejkngkaaGreatDoor
end
