/- Plain facts, and a reckoning for the kernel: what must be asked of the points of a curve, so that their number splits as it should; the curves' classes by a prime with a generator. -/
import Derived.Test.YtbeceimopamllaaDoorJnL
import Derived.Test.YtbeceimopamllaaDoorHsM
set_option linter.unusedVariables false
set_option maxRecDepth 100000
namespace Go.Proofs.YtbeceimopamllaaDoor
namespace SH
open EC
/-! ### A reckoning for the kernel: values are forced by st -/
noncomputable def st {β : Type} (v : Nat) (f : Nat → β) : β := Nat.rec (f 0) (fun n _ => f (Nat.succ n)) v
noncomputable def ife {β : Type} (c : Bool) (a b : β) : β := Bool.rec b a c
theorem st_eq {β : Type} (v : Nat) (f : Nat → β) : st v f = f v := by cases v <;> rfl
theorem ife_eq {β : Type} (c : Bool) (a b : β) : ife c a b = if c = true then a else b := by cases c <;> rfl

/-- An inverse, by Fermat, the exponent by sixteen. -/
noncomputable def iv3 {β : Type} (P e0 e1 e2 d : Nat) (k : Nat → β) : β :=
  st (Nat.mod (Nat.pow d 16) P) fun h => st (Nat.mod (Nat.pow h 16) P) fun h2 => k (Nat.mod (Nat.mul (Nat.mul (Nat.pow d e0) (Nat.pow h e1)) (Nat.pow h2 e2)) P)
theorem iv3_eq {β : Type} {P e0 e1 e2 d E : Nat} (k : Nat → β) (hE : e0 + 16 * e1 + 256 * e2 = E) : iv3 P e0 e1 e2 d k = k (d ^ E % P) := by
  unfold iv3
  rw [st_eq, st_eq]
  congr 1
  show (d ^ e0 * (d ^ 16 % P) ^ e1) * ((d ^ 16 % P) ^ 16 % P) ^ e2 % P = d ^ E % P
  have h1 : (d ^ 16 % P) ^ e1 % P = d ^ (16 * e1) % P := by rw [← Nat.pow_mod, Nat.pow_mul]
  have h2 : ((d ^ 16 % P) ^ 16 % P) ^ e2 % P = d ^ (256 * e2) % P := by
    rw [← Nat.pow_mod, ← Nat.pow_mul, ← Nat.pow_mod, ← Nat.pow_mul, show 16 * (16 * e2) = 256 * e2 by omega]
  rw [← hE, Nat.pow_add, Nat.pow_add, Nat.mul_mod, Nat.mul_mod (d ^ e0), h1, h2, ← Nat.mul_mod (d ^ e0), ← Nat.mul_mod]

noncomputable def fin3 (P l x1 y1 x2 : Nat) (k : Nat → Nat → Bool) : Bool :=
  st (Nat.mod (Nat.add (Nat.mul l l) (Nat.sub (Nat.add P P) (Nat.add x1 x2))) P) fun x3 =>
    st (Nat.mod (Nat.add (Nat.mul l (Nat.sub (Nat.add x1 P) x3)) (Nat.sub P y1)) P) fun y3 => k x3 y3
noncomputable def addk (P a e0 e1 e2 x1 y1 x2 y2 : Nat) (far : Bool) (k : Nat → Nat → Bool) : Bool :=
  ife (Nat.beq x1 x2)
    (ife (Nat.beq (Nat.mod (Nat.add y1 y2) P) 0) far
      (st (Nat.mod (Nat.add y1 y1) P) fun d => iv3 P e0 e1 e2 d fun i =>
       st (Nat.mod (Nat.mul (Nat.add (Nat.mul 3 (Nat.mul x1 x1)) a) i) P) fun l => fin3 P l x1 y1 x2 k))
    (st (Nat.mod (Nat.sub (Nat.add x2 P) x1) P) fun d => iv3 P e0 e1 e2 d fun i =>
     st (Nat.mod (Nat.mul (Nat.sub (Nat.add y2 P) y1) i) P) fun l => fin3 P l x1 y1 x2 k)

theorem fin3_eq {P l x1 y1 x2 y2 : Nat} {c : Int} (hc : c = (l : Int)) (h1 : x1 < P) (h2 : y1 < P) (h3 : x2 < P) (k : Nat → Nat → Bool) :
    fin3 P l x1 y1 x2 k = k (padK P c ⟨x1, y1, false⟩ ⟨x2, y2, false⟩).x.toNat (padK P c ⟨x1, y1, false⟩ ⟨x2, y2, false⟩).y.toNat := by
  subst hc
  unfold fin3
  rw [st_eq, st_eq]
  show k ((l * l + (P + P - (x1 + x2))) % P) ((l * (x1 + P - (l * l + (P + P - (x1 + x2))) % P) + (P - y1)) % P) = _
  have hP : 0 < P := by omega
  have ex : (((l * l + (P + P - (x1 + x2))) % P : Nat) : Int) = ((l : Int) * l - x1 - x2) % (P : Int) := by
    rw [Int.natCast_emod, ← Int.add_mul_emod_self_right ((l : Int) * l - x1 - x2) 2 P]
    congr 1
    rw [Int.natCast_add, Int.natCast_mul, Int.natCast_sub (by omega)]
    simp only [Int.natCast_add]
    omega
  have hx : (padK P l ⟨x1, y1, false⟩ ⟨x2, y2, false⟩).x = (((l * l + (P + P - (x1 + x2))) % P : Nat) : Int) := ex.symm
  have h4 : (l * l + (P + P - (x1 + x2))) % P < P := Nat.mod_lt _ hP
  generalize hX : (l * l + (P + P - (x1 + x2))) % P = X at ex hx h4 ⊢
  have ey : (((l * (x1 + P - X) + (P - y1)) % P : Nat) : Int) = ((l : Int) * (x1 - X) - y1) % (P : Int) := by
    rw [Int.natCast_emod, ← Int.add_mul_emod_self_right ((l : Int) * (x1 - X) - y1) (l + 1) P]
    congr 1
    rw [Int.natCast_add, Int.natCast_mul, Int.natCast_sub (by omega), Int.natCast_sub (by omega), Int.natCast_add]
    grind
  have hy : (padK P l ⟨x1, y1, false⟩ ⟨x2, y2, false⟩).y = (((l * (x1 + P - X) + (P - y1)) % P : Nat) : Int) := by
    rw [ey, ex]; rfl
  rw [hx, hy]
  rfl

theorem iv_nat (P d : Nat) (h2 : 2 ≤ P) (z : Int) (hz : z % (P : Int) = ((d % P : Nat) : Int)) : iv P z = (((d % P) ^ (P - 2) % P : Nat) : Int) := by
  unfold iv
  rw [hz, show ((P : Int) - 2).toNat = P - 2 by omega]
  simp only [Int.natCast_emod, Int.natCast_pow]
theorem padd_ff (p a x1 y1 x2 y2 : Int) : padd p a ⟨x1, y1, false⟩ ⟨x2, y2, false⟩ = if x1 = x2 ∧ (y1 + y2) % p = 0 then farP else padK p (slo p a ⟨x1, y1, false⟩ ⟨x2, y2, false⟩) ⟨x1, y1, false⟩ ⟨x2, y2, false⟩ := by
  simp [padd]
theorem addk_eq {P A e0 e1 e2 x1 y1 x2 y2 : Nat} (hE : e0 + 16 * e1 + 256 * e2 = P - 2) (hP : 2 ≤ P) (h1 : x1 < P) (h2 : y1 < P) (h3 : x2 < P) (h4 : y2 < P) (far : Bool) (k : Nat → Nat → Bool) :
    addk P A e0 e1 e2 x1 y1 x2 y2 far k = if (padd P A ⟨x1, y1, false⟩ ⟨x2, y2, false⟩).far = true then far else k (padd P A ⟨x1, y1, false⟩ ⟨x2, y2, false⟩).x.toNat (padd P A ⟨x1, y1, false⟩ ⟨x2, y2, false⟩).y.toNat := by
  unfold addk
  simp only [ife_eq, st_eq, Nat.beq_eq]
  rw [padd_ff]
  by_cases hx : x1 = x2
  · subst hx
    rw [if_pos rfl]
    by_cases hy : (y1 + y2) % P = 0
    · have hy' : ((y1 : Int) + y2) % (P : Int) = 0 := by
        rw [← Int.natCast_add, ← Int.natCast_emod, hy]; rfl
      rw [if_pos (show Nat.mod (Nat.add y1 y2) P = 0 from hy), if_pos (show (x1 : Int) = x1 ∧ ((y1 : Int) + y2) % (P : Int) = 0 from ⟨rfl, hy'⟩), if_pos (show farP.far = true from rfl)]
    · have hy' : ¬ ((y1 : Int) + y2) % (P : Int) = 0 := fun h => hy (by
        rw [← Int.natCast_add, ← Int.natCast_emod] at h; exact Int.ofNat.inj h)
      rw [if_neg (show ¬ Nat.mod (Nat.add y1 y2) P = 0 from hy), if_neg (show ¬ ((x1 : Int) = x1 ∧ ((y1 : Int) + y2) % (P : Int) = 0) from fun h => hy' h.2), if_neg (show ¬ (padK P (slo P A ⟨x1, y1, false⟩ ⟨x1, y2, false⟩) ⟨x1, y1, false⟩ ⟨x1, y2, false⟩).far = true by simp [padK]), iv3_eq _ hE]
      refine fin3_eq ?_ h1 h2 h1 k
      unfold slo
      rw [if_pos rfl, iv_nat P (y1 + y1) hP (2 * (y1 : Int)) (by rw [Int.natCast_emod]; congr 1; omega)]
      show _ = (((3 * (x1 * x1) + A) * (((y1 + y1) % P) ^ (P - 2) % P) % P : Nat) : Int)
      generalize ((y1 + y1) % P) ^ (P - 2) % P = I
      rw [Int.natCast_emod, Int.natCast_mul, Int.natCast_add, Int.natCast_mul, Int.natCast_mul, ← Int.mul_assoc]
      rfl
  · have hx' : ¬ (x1 : Int) = x2 := fun h => hx (by omega)
    rw [if_neg hx, if_neg (show ¬ ((x1 : Int) = x2 ∧ ((y1 : Int) + y2) % (P : Int) = 0) from fun h => hx' h.1), if_neg (show ¬ (padK P (slo P A ⟨x1, y1, false⟩ ⟨x2, y2, false⟩) ⟨x1, y1, false⟩ ⟨x2, y2, false⟩).far = true by simp [padK]), iv3_eq _ hE]
    refine fin3_eq ?_ h1 h2 h3 k
    unfold slo
    rw [if_neg hx', iv_nat P (x2 + P - x1) hP ((x2 : Int) - x1) (by
      rw [Int.natCast_emod, ← Int.add_mul_emod_self_right ((x2 : Int) - x1) 1 P]; congr 1; omega)]
    show _ = (((y2 + P - y1) * (((x2 + P - x1) % P) ^ (P - 2) % P) % P : Nat) : Int)
    generalize ((x2 + P - x1) % P) ^ (P - 2) % P = I
    rw [Int.natCast_emod, Int.natCast_mul, ← Int.add_mul_emod_self_right (((y2 : Int) - y1) * I) I P]
    congr 1
    rw [Int.natCast_sub (by omega), Int.natCast_add]
    grind
/-- A multiple, bit by bit from above: is it another point than the far one? -/
noncomputable def mulk (P a e0 e1 e2 m x0 y0 i : Nat) : Bool → Nat → Nat → Bool :=
  Nat.rec (fun f _ _ => ife f false true) (fun j r f x y =>
    ife (Nat.beq (Nat.land (Nat.shiftRight m j) 1) 1)
      (ife f (r false x0 y0) (addk P a e0 e1 e2 x y x y (r false x0 y0) fun x3 y3 => addk P a e0 e1 e2 x3 y3 x0 y0 (r true 0 0) fun x4 y4 => r false x4 y4))
      (ife f (r true 0 0) (addk P a e0 e1 e2 x y x y (r true 0 0) fun x3 y3 => r false x3 y3))) i

theorem bit_eq (m j : Nat) : (Nat.beq (Nat.land (Nat.shiftRight m j) 1) 1 = true) ↔ m / 2 ^ j % 2 = 1 := by
  rw [Nat.beq_eq]
  show (m >>> j) &&& 1 = 1 ↔ _
  rw [Nat.shiftRight_eq_div_pow, Nat.and_one_is_mod]

/-- The point that stands. -/
def Stp (P a b : Int) (q : Pn) (f : Bool) (x y : Nat) : Prop := q.far = f ∧ (f = false → q = ⟨x, y, false⟩)

theorem pn_nat {P a b : Int} {q : Pn} (h : On P a b q) (hf : ¬ q.far = true) : q = ⟨(q.x.toNat : Int), (q.y.toNat : Int), false⟩ ∧ q.x.toNat < P ∧ q.y.toNat < P := by
  rcases h with ⟨h, _⟩ | ⟨h1, h2, h3, h4, h5, _⟩
  · exact absurd h hf
  · exact ⟨Pn.ext' (show q.x = (q.x.toNat : Int) by omega) (show q.y = (q.y.toNat : Int) by omega) h1, by omega, by omega⟩

theorem mulk_eq {P A b e0 e1 e2 m x0 y0 : Nat} (hc : Cv P A b) (hE : e0 + 16 * e1 + 256 * e2 = P - 2) (hq : On P A b ⟨x0, y0, false⟩) (hx : x0 < P) (hy : y0 < P) : ∀ (i : Nat) (f : Bool) (x y : Nat), Stp P A b (mu P A ⟨x0, y0, false⟩ (m / 2 ^ i)) f x y →
    (mulk P A e0 e1 e2 m x0 y0 i f x y = true ↔ ¬ mu P A ⟨x0, y0, false⟩ m = farP) := by
  haveI := hc.nz
  have hP : 2 ≤ P := by have := hc.p5; omega
  obtain ⟨q, rfl⟩ : ∃ q : Pn, q = ⟨x0, y0, false⟩ := ⟨_, rfl⟩
  intro i
  induction i with
  | zero =>
    intro f x y hs
    rw [Nat.pow_zero, Nat.div_one] at hs
    show ife f false true = true ↔ _
    rw [ife_eq]
    have hon := mu_on hc hq m
    cases f
    · simp only [Bool.false_eq_true, if_false, true_iff]
      intro e
      have := hs.1
      rw [e] at this
      cases this
    · simp only [if_true, Bool.false_eq_true, false_iff, Classical.not_not]
      exact far_of hon hs.1
  | succ j ih =>
    intro f x y hs
    have e2j : m / 2 ^ j = m / 2 ^ (j + 1) * 2 + m / 2 ^ j % 2 := by
      rw [Nat.pow_succ, ← Nat.div_div_eq_div_mul]; omega
    generalize hM : m / 2 ^ (j + 1) = M at hs e2j
    have hon := mu_on hc hq M
    have hdbl : mu P A ⟨x0, y0, false⟩ (M * 2) = padd P A (mu P A ⟨x0, y0, false⟩ M) (mu P A ⟨x0, y0, false⟩ M) := by rw [Nat.mul_two, mu_add hc hq]
    have hon2 := mu_on hc hq (M * 2)
    have hsuc : mu P A ⟨x0, y0, false⟩ (M * 2 + 1) = padd P A (mu P A ⟨x0, y0, false⟩ (M * 2)) ⟨x0, y0, false⟩ := rfl
    have hon3 := mu_on hc hq (M * 2 + 1)
    have hsf : ∀ {n : Nat} {u : Pn}, mu P A ⟨x0, y0, false⟩ n = u → On P A b u → u.far = true → Stp P A b (mu P A ⟨x0, y0, false⟩ n) true 0 0 := fun e _ h => ⟨by rw [e]; exact h, fun h => by cases h⟩
    have hsn : ∀ {n : Nat}, ¬ (mu P A ⟨x0, y0, false⟩ n).far = true → Stp P A b (mu P A ⟨x0, y0, false⟩ n) false (mu P A ⟨x0, y0, false⟩ n).x.toNat (mu P A ⟨x0, y0, false⟩ n).y.toNat := fun {n} h =>
      ⟨by simpa using h, fun _ => (pn_nat (mu_on hc hq n) h).1⟩
    show ife (Nat.beq (Nat.land (Nat.shiftRight m j) 1) 1)
      (ife f (mulk P A e0 e1 e2 m x0 y0 j false x0 y0) (addk P A e0 e1 e2 x y x y (mulk P A e0 e1 e2 m x0 y0 j false x0 y0) fun x3 y3 => addk P A e0 e1 e2 x3 y3 x0 y0 (mulk P A e0 e1 e2 m x0 y0 j true 0 0) fun x4 y4 => mulk P A e0 e1 e2 m x0 y0 j false x4 y4))
      (ife f (mulk P A e0 e1 e2 m x0 y0 j true 0 0) (addk P A e0 e1 e2 x y x y (mulk P A e0 e1 e2 m x0 y0 j true 0 0) fun x3 y3 => mulk P A e0 e1 e2 m x0 y0 j false x3 y3)) = true ↔ _
    rw [ife_eq, ife_eq, ife_eq]
    by_cases hb : m / 2 ^ j % 2 = 1
    · rw [if_pos ((bit_eq m j).2 hb)]
      rw [hb] at e2j
      cases f
      · have hsx := hs.2 rfl
        have hnat := pn_nat hon (by rw [hs.1]; simp)
        rw [hsx] at hnat hdbl
        have hx1 : x < P := by have := hnat.2.1; simp at this; omega
        have hy1 : y < P := by have := hnat.2.2; simp at this; omega
        rw [if_neg (by simp), addk_eq hE hP hx1 hy1 hx1 hy1, ← hdbl]
        by_cases hf : (mu P A ⟨x0, y0, false⟩ (M * 2)).far = true
        · rw [if_pos hf]
          refine ih _ _ _ ?_
          rw [e2j, hsuc, far_of hon2 hf, padd_far]
          exact ⟨rfl, fun _ => rfl⟩
        · rw [if_neg hf]
          have h2 := pn_nat hon2 hf
          have hx2 : (mu P A ⟨x0, y0, false⟩ (M * 2)).x.toNat < P := by have := h2.2.1; omega
          have hy2 : (mu P A ⟨x0, y0, false⟩ (M * 2)).y.toNat < P := by have := h2.2.2; omega
          rw [addk_eq hE hP hx2 hy2 hx hy, ← h2.1, ← hsuc]
          by_cases hf3 : (mu P A ⟨x0, y0, false⟩ (M * 2 + 1)).far = true
          · rw [if_pos hf3]
            exact ih _ _ _ (by rw [e2j]; exact hsf rfl hon3 hf3)
          · rw [if_neg hf3]
            exact ih _ _ _ (by rw [e2j]; exact hsn hf3)
      · rw [if_pos rfl]
        refine ih _ _ _ ?_
        rw [e2j, hsuc, hdbl, far_of hon hs.1, padd_far, padd_far]
        exact ⟨rfl, fun _ => rfl⟩
    · rw [if_neg (fun h => hb ((bit_eq m j).1 h))]
      have e2j' : m / 2 ^ j = M * 2 := by omega
      cases f
      · have hsx := hs.2 rfl
        have hnat := pn_nat hon (by rw [hs.1]; simp)
        rw [hsx] at hnat hdbl
        have hx1 : x < P := by have := hnat.2.1; simp at this; omega
        have hy1 : y < P := by have := hnat.2.2; simp at this; omega
        rw [if_neg (by simp), addk_eq hE hP hx1 hy1 hx1 hy1, ← hdbl]
        by_cases hf : (mu P A ⟨x0, y0, false⟩ (M * 2)).far = true
        · rw [if_pos hf]
          exact ih _ _ _ (by rw [e2j']; exact hsf rfl hon2 hf)
        · rw [if_neg hf]
          exact ih _ _ _ (by rw [e2j']; exact hsn hf)
      · rw [if_pos rfl]
        refine ih _ _ _ ?_
        rw [e2j', hdbl, far_of hon hs.1, padd_far]
        exact ⟨rfl, fun h => by cases h⟩
/-- A point with an x from x on (n are tried) whose multiple by m is another than the far one; R tells roots, and is not trusted. -/
noncomputable def findk (P a b e0 e1 e2 R m n : Nat) : Nat → Bool :=
  Nat.rec (fun _ => false) (fun _ r x =>
    st (Nat.mod (Nat.add (Nat.add (Nat.mul x (Nat.mul x x)) (Nat.mul a x)) b) P) fun s =>
    st (Nat.land (Nat.shiftRight R (Nat.mul 12 s)) 4095) fun y =>
      ife (Nat.beq (Nat.mod (Nat.mul y y) P) s) (ife (Nat.blt x P) (ife (Nat.blt y P) (ife (mulk P a e0 e1 e2 m x y 12 true 0 0) true (r (Nat.succ x))) (r (Nat.succ x))) (r (Nat.succ x))) (r (Nat.succ x))) n

theorem findk_at {P A b e0 e1 e2 R m : Nat} (hc : Cv P A b) (hE : e0 + 16 * e1 + 256 * e2 = P - 2) (hm : m < 4096) : ∀ (n x : Nat), findk P A b e0 e1 e2 R m n x = true → ∃ q, On P A b q ∧ mu P A q m ≠ farP := by
  intro n
  induction n with
  | zero => intro x h; cases h
  | succ n ih =>
    intro x h
    have h' : (st (Nat.mod (Nat.add (Nat.add (Nat.mul x (Nat.mul x x)) (Nat.mul A x)) b) P) fun s =>
      st (Nat.land (Nat.shiftRight R (Nat.mul 12 s)) 4095) fun y =>
      ife (Nat.beq (Nat.mod (Nat.mul y y) P) s) (ife (Nat.blt x P) (ife (Nat.blt y P) (ife (mulk P A e0 e1 e2 m x y 12 true 0 0) true (findk P A b e0 e1 e2 R m n (Nat.succ x))) (findk P A b e0 e1 e2 R m n (Nat.succ x))) (findk P A b e0 e1 e2 R m n (Nat.succ x))) (findk P A b e0 e1 e2 R m n (Nat.succ x))) = true := h
    rw [st_eq, st_eq] at h'
    generalize Nat.land (Nat.shiftRight R (Nat.mul 12 (Nat.mod (Nat.add (Nat.add (Nat.mul x (Nat.mul x x)) (Nat.mul A x)) b) P))) 4095 = y at h'
    rw [ife_eq, ife_eq, ife_eq, ife_eq] at h'
    by_cases c1 : Nat.beq (Nat.mod (Nat.mul y y) P) (Nat.mod (Nat.add (Nat.add (Nat.mul x (Nat.mul x x)) (Nat.mul A x)) b) P) = true
    · rw [if_pos c1] at h'
      by_cases c2 : Nat.blt x P = true
      · rw [if_pos c2] at h'
        by_cases c3 : Nat.blt y P = true
        · rw [if_pos c3] at h'
          by_cases c4 : mulk P A e0 e1 e2 m x y 12 true 0 0 = true
          · rw [Nat.blt_eq] at c2 c3
            rw [Nat.beq_eq] at c1
            have c1' : y * y % P = (x * (x * x) + A * x + b) % P := c1
            have hon : On P A b ⟨x, y, false⟩ := by
              refine .inr ⟨rfl, Int.natCast_nonneg _, by show (x : Int) < P; omega, Int.natCast_nonneg _, by show (y : Int) < P; omega, ?_⟩
              show ((x : Int) * x * x + A * x + b - y * y) % (P : Int) = 0
              have e : ((y * y % P : Nat) : Int) = ((x * (x * x) + A * x + b) % P : Nat) := by rw [c1']
              rw [Int.natCast_emod, Int.natCast_emod] at e
              refine Int.emod_eq_emod_iff_emod_sub_eq_zero.1 ?_
              rw [Int.natCast_mul] at e
              rw [e]
              congr 1
              rw [Int.natCast_add, Int.natCast_add, Int.natCast_mul, Int.natCast_mul, Int.natCast_mul, Int.mul_assoc]
            refine ⟨_, hon, (mulk_eq hc hE hon c2 c3 12 true 0 0 ?_).1 c4⟩
            rw [Nat.div_eq_of_lt (show m < 2 ^ 12 from hm)]
            exact ⟨rfl, fun h => by cases h⟩
          · rw [if_neg c4] at h'; exact ih _ h'
        · rw [if_neg c3] at h'; exact ih _ h'
      · rw [if_neg c2] at h'; exact ih _ h'
    · rw [if_neg c1] at h'; exact ih _ h'
end SH
namespace SH
open EC
theorem ifb {β : Type} (x y : Nat) (a b : β) : ife (Nat.beq x y) a b = if x = y then a else b := by
  rw [ife_eq]
  by_cases h : x = y
  · rw [if_pos h, if_pos (Nat.beq_eq ▸ h)]
  · rw [if_neg h, if_neg (fun k => h (Nat.eq_of_beq_eq_true k))]
/-- The greatest power c = r^e with c | t and c c | N. -/
noncomputable def pe (r t N n : Nat) : Nat → Nat → (Nat → Nat → Bool) → Bool :=
  Nat.rec (fun _ _ _ => false) (fun _ go c e k =>
    ife (Nat.beq (Nat.mod t (Nat.mul c r)) 0) (ife (Nat.beq (Nat.mod N (Nat.mul (Nat.mul c r) (Nat.mul c r))) 0) (st (Nat.mul c r) fun c' => go c' (Nat.succ e) k) (k c e)) (k c e)) n
theorem pe_at {r t N : Nat} (k : Nat → Nat → Bool) : ∀ (n c e : Nat), c = r ^ e → c ∣ t → c * c ∣ N → pe r t N n c e k = true → ∃ e, r ^ e ∣ t ∧ r ^ (e + e) ∣ N ∧ k (r ^ e) e = true := by
  intro n
  induction n with
  | zero => intro c e _ _ _ h; cases h
  | succ n ih =>
    intro c e hc h1 h2 h
    have h' : ife (Nat.beq (Nat.mod t (Nat.mul c r)) 0) (ife (Nat.beq (Nat.mod N (Nat.mul (Nat.mul c r) (Nat.mul c r))) 0) (st (Nat.mul c r) fun c' => pe r t N n c' (Nat.succ e) k) (k c e)) (k c e) = true := h
    rw [ifb, ifb, st_eq] at h'
    have hend : k c e = true → ∃ e, r ^ e ∣ t ∧ r ^ (e + e) ∣ N ∧ k (r ^ e) e = true := fun hk => ⟨e, hc ▸ h1, by rw [Nat.pow_add, ← hc]; exact h2, hc ▸ hk⟩
    by_cases c1 : t % (c * r) = 0
    · rw [if_pos (show Nat.mod t (Nat.mul c r) = 0 from c1)] at h'
      by_cases c2 : N % (c * r * (c * r)) = 0
      · rw [if_pos (show Nat.mod N (Nat.mul (Nat.mul c r) (Nat.mul c r)) = 0 from c2)] at h'
        exact ih (c * r) (e + 1) (by rw [hc, Nat.pow_succ]) (Nat.dvd_of_mod_eq_zero c1) (Nat.dvd_of_mod_eq_zero c2) h'
      · rw [if_neg (show ¬ Nat.mod N (Nat.mul (Nat.mul c r) (Nat.mul c r)) = 0 from c2)] at h'
        exact hend h'
    · rw [if_neg (show ¬ Nat.mod t (Nat.mul c r) = 0 from c1)] at h'
      exact hend h'
/-- What is asked at r. -/
noncomputable def atr (P a b e0 e1 e2 R N r : Nat) : Bool :=
  ife (Nat.beq (Nat.mod N (Nat.mul r r)) 0)
    (pe r (Nat.sub P 1) N 7 1 0 fun c e => ife (Nat.beq e 1) (ife (Nat.beq (Nat.mod N (Nat.mul r (Nat.mul r r))) 0) (st (Nat.div N (Nat.mul c r)) fun m => findk P a b e0 e1 e2 R m 60 0) true) (st (Nat.div N (Nat.mul c r)) fun m => findk P a b e0 e1 e2 R m 60 0))
    true
theorem atr_at {P A b e0 e1 e2 R N r : Nat} (hc : Cv P A b) (hE : e0 + 16 * e1 + 256 * e2 = P - 2) (hN : N < 4096) (hr : Pr r) (hd : r * r ∣ N) (h : atr P A b e0 e1 e2 R N r = true) :
    ∃ e, r ^ e ∣ (P - 1) ∧ r ^ (e + e) ∣ N ∧ ((e = 1 ∧ ¬ r ^ 3 ∣ N) ∨ (r ^ (e + 1) ∣ N ∧ ∃ q, On P A b q ∧ mu P A q (N / r ^ (e + 1)) ≠ farP)) := by
  unfold atr at h
  rw [ifb, if_pos (show Nat.mod N (Nat.mul r r) = 0 from Nat.mod_eq_zero_of_dvd hd)] at h
  obtain ⟨e, h1, h2, h3⟩ := pe_at _ 7 1 0 (by simp) (Nat.one_dvd _) (Nat.one_dvd _) h
  refine ⟨e, h1, h2, ?_⟩
  simp only [ifb, st_eq] at h3
  have hdv : r ^ (e + 1) ∣ N := by
    by_cases e0 : e = 0
    · subst e0
      exact Nat.dvd_trans ⟨r, by simp⟩ hd
    · exact Nat.dvd_trans (Nat.pow_dvd_pow r (by omega)) h2
  have hfin : findk P A b e0 e1 e2 R (Nat.div N (Nat.mul (r ^ e) r)) 60 0 = true → ∃ q, On P A b q ∧ mu P A q (N / r ^ (e + 1)) ≠ farP := fun hf => by
    rw [show Nat.div N (Nat.mul (r ^ e) r) = N / r ^ (e + 1) by rw [Nat.pow_succ]; rfl] at hf
    exact findk_at hc hE (Nat.lt_of_le_of_lt (Nat.div_le_self _ _) hN) 60 0 hf
  by_cases c1 : e = 1
  · rw [if_pos c1] at h3
    by_cases c2 : N % (r * (r * r)) = 0
    · rw [if_pos (show Nat.mod N (Nat.mul r (Nat.mul r r)) = 0 from c2)] at h3
      exact .inr ⟨hdv, hfin h3⟩
    · refine .inl ⟨c1, fun h => c2 ?_⟩
      rw [show r * (r * r) = r ^ 3 by rw [Nat.pow_succ, Nat.pow_succ, Nat.pow_one, Nat.mul_assoc]]
      exact Nat.mod_eq_zero_of_dvd h
  · rw [if_neg c1] at h3
    exact .inr ⟨hdv, hfin h3⟩
noncomputable def atN (P a b e0 e1 e2 R N : Nat) (l : List Nat) : Bool := List.rec true (fun r _ go => ife (atr P a b e0 e1 e2 R N r) go false) l
theorem atN_at {P a b e0 e1 e2 R N : Nat} : ∀ l : List Nat, atN P a b e0 e1 e2 R N l = true → ∀ r ∈ l, atr P a b e0 e1 e2 R N r = true
  | [], _, r, hr => by simp at hr
  | s :: l, h, r, hr => by
    have h' : ife (atr P a b e0 e1 e2 R N s) (atN P a b e0 e1 e2 R N l) false = true := h
    rw [ife_eq] at h'
    by_cases c : atr P a b e0 e1 e2 R N s = true
    · rw [if_pos c] at h'
      rcases List.mem_cons.1 hr with e | e
      · rw [e]; exact c
      · exact atN_at l h' r e
    · rw [if_neg c] at h'; cases h'
def prl : List Nat := [2, 3, 5, 7, 11, 13, 17, 19, 23, 29, 31, 37, 41, 43, 47, 53, 59, 61]
def prh : List Nat := [5, 7, 11, 13, 17, 19, 23, 29, 31, 37, 41, 43, 47, 53, 59, 61]
/-- Which numbers up to 4095 a square of a prime from 5 on divides. -/
def mask : Nat := 0x80801044000020400010200008a000040000021000010008009800004100002400001000000a00020c00000324000940000080000040000460004010000028000006000012000201000028810000400004200000100103080140040001020000010000808080006000402000801000208c0000044010020000010008008000004044002000001002000800000401000200001100d080a00000404000200020102008080000041040020000110800008004004600002000003200000800000502080a800001800000800000400000210000300000080400140000020010098000008000044000002000221200004804010400000201008100000080006040000128002010000008001004001002400801000000800480600000200a02100000080100040004020080010440608040004000002020001000800a10000400000228000100000084000143000022000010000009200014000082800001000000c000004000002000401000081800010400000a000001002084800040400002200400100001081020040000820000010000408080004a202020000010001008000004000806400001000401800000400200200002100100480000040080220000810041008000004020002000001010000800a004084002000001042000800000424000200000110000082000048000022000014000008000006000002000001
noncomputable def maskN (r n : Nat) : Bool := Nat.rec true (fun N go => ife (Nat.beq (Nat.mod N (Nat.mul r r)) 0) (ife (Nat.beq (Nat.land (Nat.shiftRight mask N) 1) 1) go false) go) n
theorem maskN_at {r : Nat} : ∀ n, maskN r n = true → ∀ N, N < n → r * r ∣ N → Nat.beq (Nat.land (Nat.shiftRight mask N) 1) 1 = true
  | 0, _, N, hN => by omega
  | n + 1, h, N, hN => by
    intro hd
    have h' : ife (Nat.beq (Nat.mod n (Nat.mul r r)) 0) (ife (Nat.beq (Nat.land (Nat.shiftRight mask n) 1) 1) (maskN r n) false) (maskN r n) = true := h
    rw [ifb, ife_eq] at h'
    by_cases c1 : n % (r * r) = 0
    · rw [if_pos (show Nat.mod n (Nat.mul r r) = 0 from c1)] at h'
      by_cases c2 : Nat.beq (Nat.land (Nat.shiftRight mask n) 1) 1 = true
      · rw [if_pos c2] at h'
        rcases Nat.lt_or_ge N n with c | c
        · exact maskN_at n h' N c hd
        · obtain rfl : N = n := by omega
          exact c2
      · rw [if_neg c2] at h'; cases h'
    · rw [if_neg (show ¬ Nat.mod n (Nat.mul r r) = 0 from c1)] at h'
      refine maskN_at n h' N ?_ hd
      apply Classical.byContradiction
      intro h2
      obtain rfl : N = n := by omega
      exact c1 (Nat.mod_eq_zero_of_dvd hd)
theorem mask_all : prh.all (fun r => maskN r 4096) = true := by decide +kernel
noncomputable def atM (P a b e0 e1 e2 R N : Nat) : Bool := ife (atN P a b e0 e1 e2 R N [2, 3]) (ife (Nat.beq (Nat.land (Nat.shiftRight mask N) 1) 1) (atN P a b e0 e1 e2 R N prh) true) false
theorem prl_all : (List.range 64).all (fun r => Nat.blt r 2 || (prl.contains r || (List.range r).any fun d => Nat.ble 2 d && r % d == 0)) = true := by decide +kernel
theorem prl_mem {r : Nat} (hr : Pr r) (h : r < 64) : r ∈ prl := by
  have h1 := List.all_eq_true.1 prl_all r (List.mem_range.2 h)
  rw [Bool.or_eq_true, Bool.or_eq_true] at h1
  rcases h1 with h1 | h1 | h1
  · rw [Nat.blt_eq] at h1; have := hr.1; omega
  · simpa using h1
  · obtain ⟨d, hd, h2⟩ := List.any_eq_true.1 h1
    rw [Bool.and_eq_true] at h2
    have h3 := Nat.le_of_ble_eq_true h2.1
    have h4 : r % d = 0 := by simpa using h2.2
    have h5 := List.mem_range.1 hd
    have := hr.2 d (Nat.dvd_of_mod_eq_zero h4)
    omega
theorem fl_of {P A b e0 e1 e2 R N : Nat} (hc : Cv P A b) (hE : e0 + 16 * e1 + 256 * e2 = P - 2) (hN0 : 0 < N) (hN : N < 4096) (h : atM P A b e0 e1 e2 R N = true) : AB.Fl (grp hc) N (P - 1) := by
  intro r hr hd
  have hr64 : r < 64 := by
    have h1 := Nat.le_of_dvd hN0 hd
    apply Classical.byContradiction
    intro h2
    have := Nat.mul_le_mul (show 64 ≤ r by omega) (show 64 ≤ r by omega)
    omega
  have hat : atr P A b e0 e1 e2 R N r = true := by
    unfold atM at h
    rw [ife_eq, ife_eq] at h
    by_cases c1 : atN P A b e0 e1 e2 R N [2, 3] = true
    · rw [if_pos c1] at h
      have hm := prl_mem hr hr64
      have hm2 : r ∈ [2, 3] ∨ r ∈ prh := by
        have e : prl = [2, 3] ++ prh := rfl
        rw [e] at hm
        exact List.mem_append.1 hm
      rcases hm2 with hm | hm
      · exact atN_at _ c1 r hm
      · have hk := maskN_at 4096 (List.all_eq_true.1 mask_all r hm) N hN hd
        rw [if_pos hk] at h
        exact atN_at _ h r hm
    · rw [if_neg c1] at h; cases h
  obtain ⟨e, h1, h2, h3 | ⟨h3, q, hq, h4⟩⟩ := atr_at hc hE hN hr hd hat
  · exact ⟨e, h1, h2, .inl h3⟩
  · exact ⟨e, h1, h2, .inr ⟨h3, q, hq, by rw [grp_ml]; exact h4⟩⟩

/-! ### The numbers of points, as digits -/
noncomputable def dg (X d : Nat) : Nat := Nat.land (Nat.shiftRight X (Nat.mul 12 d)) 4095
theorem dg_eq (X d : Nat) : dg X d = X / 4096 ^ d % 4096 := by
  show (X >>> (12 * d)) &&& (2 ^ 12 - 1) = _
  rw [Nat.and_two_pow_sub_one_eq_mod, Nat.shiftRight_eq_div_pow, Nat.pow_mul]
theorem dig_aff {P g a : Nat} (h : HS.Gen P g) (hP : P ≤ 2000) (b : Nat) (hb : b < P) :
    dg (HS.sm (fun x => P - (x * x * x + a * x) % P) P * HS.sm (fun y => y * y % P) P) b + dg (HS.sm (fun x => P - (x * x * x + a * x) % P) P * HS.sm (fun y => y * y % P) P) (b + P) = HS.aff P a b := by
  have h5 := h.p5
  have hm := HS.sm_mul (f := fun x => P - (x * x * x + a * x) % P) (g := fun y => y * y % P) (m := P) (C := 2 * P) P (fun i j _ _ => by
    have := Nat.mod_lt (j * j) (show 0 < P by omega)
    omega)
  have hd : ∀ c, HS.sg (fun i => HS.cnt (fun j => (P - (i * i * i + a * i) % P) + j * j % P) c P) P < 4096 := fun c => by
    have := HS.sg_le (g := fun i => HS.cnt (fun j => (P - (i * i * i + a * i) % P) + j * j % P) c P) (B := 2) P (fun i _ => HS.cnt_le h _ c)
    omega
  rw [dg_eq, dg_eq, hm, HS.val_digit hd (2 * P) b (by omega), HS.val_digit hd (2 * P) (b + P) (by omega), ← HS.sg_add]
  unfold HS.aff
  refine HS.sg_congr P (fun i _ => ?_)
  rw [HS.cnt_both (Nat.mod_lt _ (by omega)) hb, Nat.mod_add_mod]
theorem aff_le {P g : Nat} (h : HS.Gen P g) (a b : Nat) : HS.aff P a b ≤ 2 * P := by
  have h5 := h.p5
  exact HS.sg_le P (fun i _ => HS.rt_le h (Nat.mod_lt _ (by omega)))
noncomputable def atA (P a e0 e1 e2 R X n : Nat) : Bool :=
  Nat.rec true (fun b r => ife (Nat.beq (Nat.mod (Nat.add (Nat.mul 4 (Nat.mul a (Nat.mul a a))) (Nat.mul 27 (Nat.mul b b))) P) 0) r
     (st (Nat.succ (Nat.add (dg X b) (dg X (Nat.add b P)))) fun N => ife (atM P a b e0 e1 e2 R N) r false)) n
theorem atA_at {P a e0 e1 e2 R X : Nat} : ∀ n, atA P a e0 e1 e2 R X n = true → ∀ b, b < n → (4 * (a * (a * a)) + 27 * (b * b)) % P ≠ 0 → atM P a b e0 e1 e2 R (dg X b + dg X (b + P) + 1) = true
  | 0, _, b, hb => by omega
  | n + 1, h, b, hb => by
    intro hne
    have h' : ife (Nat.beq (Nat.mod (Nat.add (Nat.mul 4 (Nat.mul a (Nat.mul a a))) (Nat.mul 27 (Nat.mul n n))) P) 0) (atA P a e0 e1 e2 R X n)
     (st (Nat.succ (Nat.add (dg X n) (dg X (Nat.add n P)))) fun N => ife (atM P a n e0 e1 e2 R N) (atA P a e0 e1 e2 R X n) false) = true := h
    rw [ifb, st_eq, ife_eq] at h'
    by_cases c1 : (4 * (a * (a * a)) + 27 * (n * n)) % P = 0
    · rw [if_pos (show Nat.mod (Nat.add (Nat.mul 4 (Nat.mul a (Nat.mul a a))) (Nat.mul 27 (Nat.mul n n))) P = 0 from c1)] at h'
      refine atA_at n h' b ?_ hne
      apply Classical.byContradiction
      intro h2
      obtain rfl : b = n := by omega
      exact hne c1
    · rw [if_neg (show ¬ Nat.mod (Nat.add (Nat.mul 4 (Nat.mul a (Nat.mul a a))) (Nat.mul 27 (Nat.mul n n))) P = 0 from c1)] at h'
      by_cases c2 : atM P a n e0 e1 e2 R (Nat.succ (Nat.add (dg X n) (dg X (Nat.add n P)))) = true
      · rw [if_pos c2] at h'
        rcases Nat.lt_or_ge b n with c | c
        · exact atA_at n h' b c hne
        · obtain rfl : b = n := by omega
          exact c2
      · rw [if_neg c2] at h'; cases h'
noncomputable def rootT (P n : Nat) : Nat → Nat := Nat.rec (fun t => t) (fun y r t => st (Nat.add t (Nat.shiftLeft y (Nat.mul 12 (Nat.mod (Nat.mul y y) P)))) r) n
noncomputable def chkS (n P a e0 e1 e2 R : Nat) : Bool := st (HS.sm (fun x => P - (x * x * x + a * x) % P) P * HS.sm (fun y => y * y % P) P) fun X => atA P a e0 e1 e2 R X n
theorem chkS_at {n P g A e0 e1 e2 R : Nat} (hg : HS.Gen P g) (hP : P ≤ 2000) (hE : e0 + 16 * e1 + 256 * e2 = P - 2) (h : chkS n P A e0 e1 e2 R = true) {b : Nat} (hn : b < n) (hc : Cv P A b) : AB.Fl (grp hc) (HS.aff P A b + 1) (P - 1) := by
  unfold chkS at h
  rw [st_eq] at h
  have hb : b < P := by have := hc.b1; omega
  have h1 := atA_at n h b hn (fun e => hc.dis (by
    have e2 : ((4 * (A * (A * A)) + 27 * (b * b)) % P : Nat) = ((0 : Nat) : Int) := by rw [e]
    rw [Int.natCast_emod] at e2
    refine Eq.trans ?_ e2
    congr 1
    simp only [Int.natCast_add, Int.natCast_mul]
    grind))
  rw [dig_aff hg hP b hb] at h1
  have h2 := aff_le hg A b
  exact fl_of hc hE (by omega) (by omega) h1
/-- All that is asked at a prime with its generator. -/
noncomputable def chkR (n P g : Nat) (l : List Nat) : Bool :=
  st (Nat.mod (Nat.sub P 2) 16) fun e0 => st (Nat.mod (Nat.div (Nat.sub P 2) 16) 16) fun e1 => st (Nat.div (Nat.sub P 2) 256) fun e2 =>
  st (rootT P (Nat.succ (Nat.div P 2)) 0) fun R => List.rec true (fun i _ go => ife (st (Nat.mod (Nat.pow g i) P) fun a => chkS n P a e0 e1 e2 R) go false) l
theorem chkR_at {n P g : Nat} {l : List Nat} (h : chkR n P g l = true) : ∃ e0 e1 e2 R, e0 + 16 * e1 + 256 * e2 = P - 2 ∧ ∀ i ∈ l, chkS n P (g ^ i % P) e0 e1 e2 R = true := by
  unfold chkR at h
  rw [st_eq, st_eq, st_eq, st_eq] at h
  refine ⟨Nat.mod (Nat.sub P 2) 16, Nat.mod (Nat.div (Nat.sub P 2) 16) 16, Nat.div (Nat.sub P 2) 256, rootT P (Nat.succ (Nat.div P 2)) 0, ?_, ?_⟩
  rotate_left
  · intro i hi
    have key : ∀ l : List Nat, (List.rec true (fun i _ go => ife (st (Nat.mod (Nat.pow g i) P) fun a => chkS n P a (Nat.mod (Nat.sub P 2) 16) (Nat.mod (Nat.div (Nat.sub P 2) 16) 16) (Nat.div (Nat.sub P 2) 256) (rootT P (Nat.succ (Nat.div P 2)) 0)) go false) l : Bool) = true →
        ∀ i ∈ l, chkS n P (g ^ i % P) (Nat.mod (Nat.sub P 2) 16) (Nat.mod (Nat.div (Nat.sub P 2) 16) 16) (Nat.div (Nat.sub P 2) 256) (rootT P (Nat.succ (Nat.div P 2)) 0) = true := by
      intro l
      induction l with
      | nil => intro _ i hi; simp at hi
      | cons s l ih =>
        intro h i hi
        have h' : ife (st (Nat.mod (Nat.pow g s) P) fun a => chkS n P a (Nat.mod (Nat.sub P 2) 16) (Nat.mod (Nat.div (Nat.sub P 2) 16) 16) (Nat.div (Nat.sub P 2) 256) (rootT P (Nat.succ (Nat.div P 2)) 0)) (List.rec true (fun i _ go => ife (st (Nat.mod (Nat.pow g i) P) fun a => chkS n P a (Nat.mod (Nat.sub P 2) 16) (Nat.mod (Nat.div (Nat.sub P 2) 16) 16) (Nat.div (Nat.sub P 2) 256) (rootT P (Nat.succ (Nat.div P 2)) 0)) go false) l : Bool) false = true := h
        rw [ife_eq, st_eq] at h'
        by_cases c : chkS n P (Nat.mod (Nat.pow g s) P) (Nat.mod (Nat.sub P 2) 16) (Nat.mod (Nat.div (Nat.sub P 2) 16) 16) (Nat.div (Nat.sub P 2) 256) (rootT P (Nat.succ (Nat.div P 2)) 0) = true
        · rw [if_pos c] at h'
          rcases List.mem_cons.1 hi with e | e
          · rw [e]; exact c
          · exact ih h' i e
        · rw [if_neg c] at h'; cases h'
    exact key l h i hi
  · show (P - 2) % 16 + 16 * ((P - 2) / 16 % 16) + 256 * ((P - 2) / 256) = P - 2
    omega
/-- The curves with a = 0: six by each prime. -/
noncomputable def zat (P g e0 e1 e2 R X : Nat) (l : List Nat) : Bool :=
  List.rec true (fun i _ go => ife (st (Nat.mod (Nat.pow g i) P) fun b => st (Nat.succ (Nat.add (dg X b) (dg X (Nat.add b P)))) fun N => atM P 0 b e0 e1 e2 R N) go false) l
theorem zat_at {P g e0 e1 e2 R X : Nat} : ∀ l : List Nat, zat P g e0 e1 e2 R X l = true → ∀ i ∈ l, atM P 0 (g ^ i % P) e0 e1 e2 R (dg X (g ^ i % P) + dg X (g ^ i % P + P) + 1) = true
  | [], _, i, hi => by simp at hi
  | s :: l, h, i, hi => by
    have h' : ife (st (Nat.mod (Nat.pow g s) P) fun b => st (Nat.succ (Nat.add (dg X b) (dg X (Nat.add b P)))) fun N => atM P 0 b e0 e1 e2 R N) (zat P g e0 e1 e2 R X l) false = true := h
    rw [ife_eq, st_eq, st_eq] at h'
    by_cases c : atM P 0 (Nat.mod (Nat.pow g s) P) e0 e1 e2 R (Nat.succ (Nat.add (dg X (Nat.mod (Nat.pow g s) P)) (dg X (Nat.add (Nat.mod (Nat.pow g s) P) P)))) = true
    · rw [if_pos c] at h'
      rcases List.mem_cons.1 hi with e | e
      · rw [e]; exact c
      · exact zat_at l h' i e
    · rw [if_neg c] at h'; cases h'
noncomputable def chkZ (P g : Nat) : Bool :=
  st (Nat.mod (Nat.sub P 2) 16) fun e0 => st (Nat.mod (Nat.div (Nat.sub P 2) 16) 16) fun e1 => st (Nat.div (Nat.sub P 2) 256) fun e2 =>
  st (rootT P (Nat.succ (Nat.div P 2)) 0) fun R => st (HS.sm (fun x => P - (x * x * x + 0 * x) % P) P * HS.sm (fun y => y * y % P) P) fun X => zat P g e0 e1 e2 R X [0, 1, 2, 3, 4, 5]
theorem chkZ_at {P g : Nat} (hg : HS.Gen P g) (hP : P ≤ 2000) (h : chkZ P g = true) {i : Nat} (hi : i ∈ [0, 1, 2, 3, 4, 5]) (hc : Cv P ((0 : Nat) : Int) ((g ^ i % P : Nat) : Int)) : AB.Fl (grp hc) (HS.aff P 0 (g ^ i % P) + 1) (P - 1) := by
  unfold chkZ at h
  rw [st_eq, st_eq, st_eq, st_eq, st_eq] at h
  have h5 := hg.p5
  have h1 := zat_at _ h i hi
  rw [dig_aff hg hP _ (Nat.mod_lt _ (by omega))] at h1
  have h2 := aff_le hg 0 (g ^ i % P)
  exact fl_of hc (show (P - 2) % 16 + 16 * ((P - 2) / 16 % 16) + 256 * ((P - 2) / 256) = P - 2 by omega) (by omega) (by omega) h1
/-- Whatever is asked by a prime. -/
noncomputable def chkT (P g : Nat) : Bool := ife (chkZ P g) (ife (Nat.beq (Nat.mod P 4) 1) (st (Nat.succ (Nat.div P 2)) fun n => chkR n P g [0, 1, 2, 3]) (chkR P P g [0, 1])) false
noncomputable def chkTL (l : List (Nat × Nat)) : Bool := List.rec true (fun x _ r => ife (HS.genB x.1 x.2) (ife (chkT x.1 x.2) r false) false) l
theorem chkTL_at : ∀ l : List (Nat × Nat), chkTL l = true → ∀ x ∈ l, HS.genB x.1 x.2 = true ∧ chkT x.1 x.2 = true
  | [], _, x, hx => by simp at hx
  | s :: l, h, x, hx => by
    have h' : ife (HS.genB s.1 s.2) (ife (chkT s.1 s.2) (chkTL l) false) false = true := h
    rw [ife_eq, ife_eq] at h'
    by_cases c0 : HS.genB s.1 s.2 = true
    · rw [if_pos c0] at h'
      by_cases c : chkT s.1 s.2 = true
      · rw [if_pos c] at h'
        rcases List.mem_cons.1 hx with e | e
        · rw [e]; exact ⟨c0, c⟩
        · exact chkTL_at l h' x e
      · rw [if_neg c] at h'; cases h'
    · rw [if_neg c0] at h'; cases h'
end SH
end Go.Proofs.YtbeceimopamllaaDoor
