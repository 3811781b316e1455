import Derived.Test.YtfbgblidlabipaaGreatDoorJoinI
import Derived.Test.YtfbgblidlabipaaGreatDoorJoinD
import Derived.OrdersIn
import Derived.OwnWalkIn
section
/- Plain: the nearest fraction by trying. -/
set_option linter.unusedSimpArgs false
set_option linter.unusedVariables false
set_option maxRecDepth 100000
namespace Go.Proofs.YtfbgblidlabipaaGreatDoor.CnS
open CnM CnQ CnR

/-- What has been tried ahead of the k-th of q. -/
def Tri (a b q k p' q' : Int) : Prop := 1 ≤ q' ∧ (q' < q ∧ (p' = a * q' / b ∨ p' = a * q' / b + 1) ∨ q' = q ∧ p' = a * q' / b ∧ 1 ≤ k ∨ q' = q ∧ p' = a * q' / b + 1 ∧ 2 ≤ k)

/-- The best one so far, and how far it is. -/
structure Bs (a b q k P Q F G : Int) : Prop where
  Q0 : 1 ≤ Q
  G0 : 0 < G
  low : Nat.gcd P.natAbs Q.natAbs = 1
  far : F * (b * Q) = ds a b P Q * G
  all : ∀ p' q', Tri a b q k p' q' → Le a b P Q p' q'
  le : Q ≤ q
  eq : Q = q → P < a * q / b + k

theorem Bs.next {a b q P Q F G : Int} (h : Bs a b q 2 P Q F G) : Bs a b (q + 1) 0 P Q F G := by
  refine ⟨h.Q0, h.G0, h.low, h.far, fun p' q' t => h.all p' q' ?_, by have := h.le; omega, fun e => by have := h.le; omega⟩
  unfold Tri at *
  omega

theorem cmp_iff {a b p q P Q F G d e : Int} (hb : 0 < b) (hq : 1 ≤ q) (hQ : 1 ≤ Q) (hG : 0 < G) (he : 0 < e) (hF : F * (b * Q) = ds a b P Q * G) (hd : d * (b * q) = ds a b p q * e) :
    d * G < F * e ↔ ds a b p q * Q < ds a b P Q * q := by
  generalize ds a b p q = x at *
  generalize ds a b P Q = y at *
  have e1 : d * G * (b * q * Q) = x * Q * (e * G) := by
    have : d * G * (b * q * Q) = d * (b * q) * (G * Q) := by grind
    rw [this, hd]; grind
  have e2 : F * e * (b * q * Q) = y * q * (e * G) := by
    have : F * e * (b * q * Q) = F * (b * Q) * (e * q) := by grind
    rw [this, hF]; grind
  have p1 : 0 < b * q * Q := Int.mul_pos (Int.mul_pos hb (by omega)) (by omega)
  have p2 : 0 < e * G := Int.mul_pos he hG
  constructor
  · intro h
    have := Int.mul_lt_mul_of_pos_right h p1
    rw [e1, e2] at this
    exact Int.lt_of_mul_lt_mul_right this (by omega)
  · intro h
    have := Int.mul_lt_mul_of_pos_right h p2
    rw [← e1, ← e2] at this
    exact Int.lt_of_mul_lt_mul_right this (by omega)

/-- A new best one. -/
theorem Bs.new {a b q k p P Q d e : Int} (hb : 0 < b) (hq : 1 ≤ q) (hk : k = 0 ∨ k = 1) (hp : p = a * q / b + k) (hQ : 0 < Q) (he : 0 < e) (hP : P * q = p * Q) (low : Nat.gcd P.natAbs Q.natAbs = 1) (hle : Q ≤ q) (hd : d * (b * q) = ds a b p q * e)
    (hall : ∀ p' q', Tri a b q k p' q' → ds a b p q * q' < ds a b p' q' * q) : Bs a b q (k + 1) P Q d e := by
  have dq : ds a b P Q * q = ds a b p q * Q := ds_eq hq (by omega) (by rw [← hP]; exact Int.mul_comm _ _)
  have sm : P * q = p * Q := hP
  refine ⟨by omega, he, low, ?_, fun p' q' t => ?_, hle, fun e => ?_⟩
  · have h1 : d * (b * Q) * q = ds a b P Q * e * q := by
      have : d * (b * Q) * q = d * (b * q) * Q := by grind
      rw [this, hd]
      have : ds a b P Q * e * q = ds a b P Q * q * e := by grind
      rw [this, dq]; grind
    exact Int.eq_of_mul_eq_mul_right (by omega) h1
  · by_cases c : Tri a b q k p' q'
    · left
      exact lt_trans3 (by omega) hq c.1 (by omega) (hall p' q' c)
    · have hq' : q' = q := by unfold Tri at t c; omega
      subst hq'
      have hp' : p' = p := by unfold Tri at t c; omega
      subst hp'
      right
      refine ⟨dq, ?_⟩
      rcases Int.lt_or_le Q q' with h | h
      · exact .inl h
      · right
        have e : Q = q' := by omega
        subst e
        exact ⟨rfl, Int.le_of_eq (Int.eq_of_mul_eq_mul_right (by omega) sm)⟩
  · subst e
    have := Int.eq_of_mul_eq_mul_right (show Q ≠ 0 by omega) sm
    omega
theorem Bs.better {a b q k p P0 Q0 F0 G0 P Q d e : Int} (h : Bs a b q k P0 Q0 F0 G0) (hb : 0 < b) (hq : 1 ≤ q) (hk : k = 0 ∨ k = 1) (hp : p = a * q / b + k) (hQ : 0 < Q) (he : 0 < e) (hP : P * q = p * Q) (low : Nat.gcd P.natAbs Q.natAbs = 1) (hle : Q ≤ q) (hd : d * (b * q) = ds a b p q * e)
    (hlt : d * G0 < F0 * e) : Bs a b q (k + 1) P Q d e := by
  refine Bs.new hb hq hk hp hQ he hP low hle hd (fun p' q' t => ?_)
  have c := (cmp_iff hb hq h.Q0 h.G0 he h.far hd).1 hlt
  have l := h.all p' q' t
  have h1 : ds a b P0 Q0 * q' ≤ ds a b p' q' * Q0 := by unfold Le at l; omega
  rcases Int.lt_or_le (ds a b p q * q') (ds a b p' q' * q) with g | g
  · exact g
  · exfalso
    -- p' q' nearer than p q nearer than P0
    have := lt_trans3 (x := ds a b p' q') (qx := q') (y := ds a b p q) (qy := q) (g := ds a b P0 Q0) (q := Q0) t.1 hq h.Q0 g c
    omega
theorem Bs.first {a b p P Q d e : Int} (hb : 0 < b) (hp : p = a * 1 / b + 0) (hQ : 0 < Q) (he : 0 < e) (hP : P * 1 = p * Q) (low : Nat.gcd P.natAbs Q.natAbs = 1) (hle : Q ≤ 1) (hd : d * (b * 1) = ds a b p 1 * e) : Bs a b 1 1 P Q d e :=
  Bs.new (k := 0) hb (by omega) (.inl rfl) hp hQ he hP low hle hd (fun p' q' t => by unfold Tri at t; omega)
theorem Bs.same {a b q k p P Q F G d e : Int} (h : Bs a b q k P Q F G) (hb : 0 < b) (hq : 1 ≤ q) (hk : k = 0 ∨ k = 1) (hp : p = a * q / b + k) (he : 0 < e) (hd : d * (b * q) = ds a b p q * e) (hlt : ¬ d * G < F * e) : Bs a b q (k + 1) P Q F G := by
  have c : ¬ ds a b p q * Q < ds a b P Q * q := fun x => hlt ((cmp_iff hb hq h.Q0 h.G0 he h.far hd).2 x)
  refine ⟨h.Q0, h.G0, h.low, h.far, fun p' q' t => ?_, h.le, fun e => by have := h.eq e; omega⟩
  by_cases c1 : Tri a b q k p' q'
  · exact h.all p' q' c1
  · have hq' : q' = q := by unfold Tri at t c1; omega
    subst hq'
    have hp' : p' = p := by unfold Tri at t c1; omega
    subst hp'
    have l := h.le
    have e := h.eq
    unfold Le
    rcases Int.lt_or_le (ds a b P Q * q') (ds a b p' q' * Q) with g | g
    · exact .inl g
    · right; refine ⟨by omega, by omega⟩
theorem Bs.best {a b most P Q F G : Int} (h : Bs a b (most + 1) 0 P Q F G) (hb : 0 < b) (hm : Q ≤ most) : BestF a b most P Q := by
  refine ⟨h.Q0, hm, fun p q h0 h1 => ?_⟩
  have l1 := h.all (a * q / b) q ⟨h0, .inl ⟨by omega, .inl rfl⟩⟩
  have l2 := h.all (a * q / b + 1) q ⟨h0, .inl ⟨by omega, .inr rfl⟩⟩
  have e := Int.mul_ediv_add_emod (a * q) b
  have m0 := Int.emod_nonneg (a * q) (show b ≠ 0 by omega)
  have m1 := Int.emod_lt_of_pos (a * q) hb
  rcases Int.lt_trichotomy p (a * q / b) with c | c | c
  · refine l1.trans h.Q0 h0 h0 (.inl ?_)
    refine Int.mul_lt_mul_of_pos_right ?_ (by omega)
    unfold ds gp
    have := Int.mul_lt_mul_of_pos_left c hb
    omega
  · subst c; exact l1
  · rcases Int.lt_or_le (a * q / b + 1) p with d | d
    · refine l2.trans h.Q0 h0 h0 (.inl ?_)
      refine Int.mul_lt_mul_of_pos_right ?_ (by omega)
      unfold ds gp
      have := Int.mul_lt_mul_of_pos_left d hb
      rw [Int.mul_add] at *
      omega
    · obtain rfl : p = a * q / b + 1 := by omega
      exact l2

end Go.Proofs.YtfbgblidlabipaaGreatDoor.CnS
end

section
/- Plain: what cont.near reckons with stays within an int; which of two is picked. -/
set_option linter.unusedSimpArgs false
set_option linter.unusedVariables false
set_option maxRecDepth 100000
namespace Go.Proofs.YtfbgblidlabipaaGreatDoor
open CnM CnQ CnR CnS

theorem lin_gp (a b p1 q1 k p2 q2 : Int) : gp a b (p1 + k * p2) (q1 + k * q2) = gp a b p1 q1 + k * gp a b p2 q2 := by unfold gp; grind
theorem nr_id1 (s x y t : Int) : s * x + t * -(s * y) = s * (x - t * y) := by grind
theorem nr_id2 (x y q1 q2 t : Int) : y * (q1 + t * q2) + (x - t * y) * q2 = x * q2 + y * q1 := by grind
theorem nr_id3 (s y t : Int) : t * -(s * y) = -(s * (t * y)) := by grind
theorem gp_mul (a b z x y : Int) : gp a b (z * x) (z * y) = z * gp a b x y := by unfold gp; grind
/-- A step's numbers. -/
theorem ap_step {a b : Int} {N i : Nat} (h : En a b N) (ha : a.natAbs ≤ 1000000000000000000) (hb : b ≤ 1000000000000000000) (hi : i < N) :
    Ap (cv a b i).p1 (cv a b i).q1 (gp a b (cv a b i).p1 (cv a b i).q1) (kq a b i) (cv a b i).p2 (cv a b i).q2 (gp a b (cv a b i).p2 (cv a b i).q2) (cv a b (i + 1)).p2 (cv a b (i + 1)).q2 (gp a b (cv a b (i + 1)).p2 (cv a b (i + 1)).q2) := by
  have S := sz_is h (M := 1000000000000000000) (by omega) (by omega) hb i (by omega)
  have S' := sz_is h (M := 1000000000000000000) (by omega) (by omega) hb (i + 1) (by omega)
  have n := nr_is h i (by omega)
  have n' := nr_is h (i + 1) (by omega)
  have st := h.step hi
  have d := h.down_le (i := i) (by omega)
  have c3 : (cv a b (i + 1)).p2 = (cv a b i).p1 + kq a b i * (cv a b i).p2 := rfl
  have c4 : (cv a b (i + 1)).q2 = (cv a b i).q1 + kq a b i * (cv a b i).q2 := rfl
  have lin : gp a b (cv a b (i + 1)).p2 (cv a b (i + 1)).q2 = gp a b (cv a b i).p1 (cv a b i).q1 + kq a b i * gp a b (cv a b i).p2 (cv a b i).q2 := by
    rw [c3, c4]; exact lin_gp _ _ _ _ _ _ _
  have g1 : (gp a b (cv a b i).p1 (cv a b i).q1).natAbs ≤ 1000000000000000000 := by
    have e : gp a b (cv a b i).p1 (cv a b i).q1 = sg i * (es a b i).1 := n.g1
    have u : (es a b i).1.natAbs ≤ 1000000000000000000 := by
      rcases Nat.eq_zero_or_pos i with e | e
      · subst e; exact ha
      · have := h.up hi e; have := d.1; omega
    rw [e]; rcases sg_one i with e | e <;> rw [e] <;> omega
  have g2 : (gp a b (cv a b (i + 1)).p2 (cv a b (i + 1)).q2).natAbs ≤ 1000000000000000000 := by
    have e : gp a b (cv a b (i + 1)).p2 (cv a b (i + 1)).q2 = -(sg (i + 1) * (es a b (i + 1)).2) := n'.g2
    have u : (es a b (i + 1)).2.natAbs ≤ 1000000000000000000 := by omega
    rw [e]; rcases sg_one (i + 1) with e | e <;> rw [e] <;> omega
  have p1 := S.p1
  have p2 := S'.p2
  have q1 := S.q1
  have q2 := S'.q2
  refine ⟨c3, c4, lin, ?_, ?_, ?_, ?_, ?_, ?_⟩ <;> omega

/-- The numbers of the one beside the last. -/
theorem ap_exit {a b most t : Int} {N i : Nat} (h : En a b N) (ha : a.natAbs ≤ 1000000000000000000) (hb : b ≤ 1000000000000000000) (hi : i < N) (h0 : 0 < i) (hm1 : most ≤ 1000000000000000000) (hq1 : (cv a b i).q1 ≤ most) (hq2 : (cv a b i).q2 ≤ most)
    (hm : most < (cv a b (i + 1)).q2) (ht : t = (most - (cv a b i).q1) / (cv a b i).q2) {P Q G : Int} (hP : P = (cv a b i).p1 + t * (cv a b i).p2) (hQ : Q = (cv a b i).q1 + t * (cv a b i).q2) (hG : G = gp a b P Q) :
    Ap (cv a b i).p1 (cv a b i).q1 (gp a b (cv a b i).p1 (cv a b i).q1) t (cv a b i).p2 (cv a b i).q2 (gp a b (cv a b i).p2 (cv a b i).q2) P Q G ∧ -1000000000000000000 ≤ P ∧ P ≤ 1000000000000000000 ∧ 1 ≤ Q ∧ Q ≤ most
      ∧ (gp a b (cv a b i).p2 (cv a b i).q2).natAbs ≤ 1000000000000000000 ∧ G.natAbs ≤ 1000000000000000000 ∧ ((gp a b (cv a b i).p2 (cv a b i).q2).natAbs : Int) * Q ≤ 1000000000000000000 ∧ (G.natAbs : Int) * (cv a b i).q2 ≤ 1000000000000000000 := by
  obtain ⟨t0, tk, e3, e4, e5, e6⟩ := near_exit h (M := 1000000000000000000) (by omega) (by omega) hb hi h0 hq1 hq2 hm ht
  rw [← hQ] at e3 e5
  have S := sz_is h (M := 1000000000000000000) (by omega) (by omega) hb i (by omega)
  have S' := sz_is h (M := 1000000000000000000) (by omega) (by omega) hb (i + 1) (by omega)
  have n := nr_is h i (by omega)
  have st := h.step hi
  have up := h.up hi h0
  have v := h.pos i hi
  have q2p := S.q2p h0
  have c3 : (cv a b (i + 1)).p2 = (cv a b i).p1 + kq a b i * (cv a b i).p2 := rfl
  have lin : G = gp a b (cv a b i).p1 (cv a b i).q1 + t * gp a b (cv a b i).p2 (cv a b i).q2 := by
    rw [hG, hP, hQ]; exact lin_gp _ _ _ _ _ _ _
  have g1 : gp a b (cv a b i).p1 (cv a b i).q1 = sg i * (es a b i).1 := n.g1
  have g2 : gp a b (cv a b i).p2 (cv a b i).q2 = -(sg i * (es a b i).2) := n.g2
  have gG : G = sg i * ((es a b i).1 - t * (es a b i).2) := by
    rw [lin, g1, g2]; exact nr_id1 _ _ _ _
  have tv0 : 0 ≤ t * (es a b i).2 := Int.mul_nonneg t0 (by omega)
  have sum : (es a b i).2 * Q + ((es a b i).1 - t * (es a b i).2) * (cv a b i).q2 = b := by
    rw [hQ]; exact (nr_id2 _ _ _ _ _).trans n.sb
  have n1 : 0 ≤ (es a b i).2 * Q := Int.mul_nonneg (by omega) (by omega)
  have n2 : 0 ≤ ((es a b i).1 - t * (es a b i).2) * (cv a b i).q2 := Int.mul_nonneg (by omega) (by omega)
  have a2 : (gp a b (cv a b i).p2 (cv a b i).q2).natAbs = (es a b i).2 := by rw [g2]; rcases sg_one i with e | e <;> rw [e] <;> omega
  have aG : G.natAbs = (es a b i).1 - t * (es a b i).2 := by rw [gG]; rcases sg_one i with e | e <;> rw [e] <;> omega
  have tg : t * gp a b (cv a b i).p2 (cv a b i).q2 = -(sg i * (t * (es a b i).2)) := by rw [g2]; exact nr_id3 _ _ _
  have tq : 0 ≤ t * (cv a b i).q2 := Int.mul_nonneg t0 (by omega)
  have Pb : (-1000000000000000000 ≤ P ∧ P ≤ 1000000000000000000) ∧ -4000000000000000000 ≤ t * (cv a b i).p2 ∧ t * (cv a b i).p2 ≤ 4000000000000000000 := by
    have p1 := S.p1
    have p2 := S'.p2
    rcases Int.lt_or_le a 0 with c | c
    · have hp2 : (cv a b i).p2 ≤ 0 := by rcases S.neg c with x | x | x <;> omega
      have x1 : t * (cv a b i).p2 ≤ 0 := Int.mul_nonpos_of_nonneg_of_nonpos t0 hp2
      have x2 : kq a b i * (cv a b i).p2 ≤ t * (cv a b i).p2 := Int.mul_le_mul_of_nonpos_right (by omega) hp2
      omega
    · have hp2 := (S.pos c).2
      have x1 : 0 ≤ t * (cv a b i).p2 := Int.mul_nonneg t0 hp2
      have x2 : t * (cv a b i).p2 ≤ kq a b i * (cv a b i).p2 := Int.mul_le_mul_of_nonneg_right (by omega) hp2
      omega
  have q1 := S.q1
  refine ⟨⟨hP, hQ, lin, Pb.2, ⟨by omega, by omega⟩, ?_, ⟨by omega, by omega⟩, ⟨by omega, by omega⟩, ⟨by omega, by omega⟩⟩, Pb.1.1, Pb.1.2, e5, e3, by omega, by omega, by rw [a2]; omega, by rw [aG]; omega⟩
  rw [tg]; rcases sg_one i with e | e <;> rw [e] <;> omega

/-- Which of two is picked. -/
theorem pick {a b p q P Q : Int} :
    (orL [cmpZ (ds a b p q * Q) (ds a b P Q * q), cmpZ q Q, cmpZ p P] < 0 → Le a b p q P Q) ∧ (¬ orL [cmpZ (ds a b p q * Q) (ds a b P Q * q), cmpZ q Q, cmpZ p P] < 0 → Le a b P Q p q) := by
  unfold Le
  generalize ds a b p q * Q = x
  generalize ds a b P Q * q = y
  unfold orL orL orL orL cmpZ
  refine ⟨fun h => ?_, fun h => ?_⟩ <;> (repeat' split at h) <;> omega

theorem best_low {a b most P Q : Int} (h : BestF a b most P Q) : Nat.gcd P.natAbs Q.natAbs = 1 := by
  have q0 := h.pos
  have q1 := h.le
  obtain ⟨g, hg⟩ : ∃ g, g = Nat.gcd P.natAbs Q.natAbs := ⟨_, rfl⟩
  obtain ⟨x, hx⟩ : (g : Int) ∣ P := Int.ofNat_dvd_left.2 (hg ▸ Nat.gcd_dvd_left _ _)
  obtain ⟨y, hy⟩ : (g : Int) ∣ Q := Int.ofNat_dvd_left.2 (hg ▸ Nat.gcd_dvd_right _ _)
  have g0 : 0 < g := hg ▸ Nat.gcd_pos_of_pos_right _ (by omega)
  rw [← hg]
  rcases Nat.lt_or_ge 1 g with c | c
  · exfalso
    have y0 : 1 ≤ y := by
      rcases Int.lt_or_le 0 y with d | d
      · omega
      · have := Int.mul_nonpos_of_nonneg_of_nonpos (show (0 : Int) ≤ (g : Int) by omega) d
        omega
    have yQ : y < Q := by
      have := Int.mul_le_mul_of_nonneg_right (show (2 : Int) ≤ (g : Int) by omega) (show 0 ≤ y by omega)
      omega
    have l := h.all x y y0 (by omega)
    have e : ds a b P Q * y = ds a b x y * Q := by
      have : gp a b P Q = (g : Int) * gp a b x y := by rw [hx, hy]; exact gp_mul _ _ _ _ _
      unfold ds
      rw [this, Int.natAbs_mul, Int.natAbs_natCast, Int.natCast_mul, hy, Int.mul_comm (g : Int), Int.mul_assoc]
    unfold Le at l
    omega
  · omega

end Go.Proofs.YtfbgblidlabipaaGreatDoor
end

section
/- RegionG within a fence, in a round too: a region that draws its order, holds loads beside calls, and ends in one call (number g). No operation of it is a defer statement. -/
set_option linter.unusedSimpArgs false
set_option linter.unusedVariables false
set_option maxRecDepth 100000
namespace Go.Proofs.YtfbgblidlabipaaGreatDoor
open Go.RowKit

section
variable {F : Fence} {n : Nat} {P : Program} {ops : Array Oper} {Q : Exit → Act → World → Prop} {md : Region.Mode} {S : World → Prop}

def noDefer (ops : Array Oper) : Bool := ops.all fun o => match o.op with | .defer _ => false | _ => true
theorem noDefer_spec (h : noDefer ops = true) : ∀ (j : Nat) (o : Oper), ops[j]? = some o → ∀ c, o.op ≠ .defer c := by
  intro j o ho c hc
  rw [noDefer, Array.all_eq_true] at h
  obtain ⟨hj, e⟩ := Array.getElem?_eq_some_iff.1 ho
  have := h j hj
  rw [e, hc] at this
  cases this

theorem yieldsIf_wpOpIn {i : Nat} {o : Oper} {v : Value} {a : Act} (hd : ∀ c, o.op ≠ .defer c) (hi : ops[i]? = some o) (hy : YieldsIf P ops S o v a) (hb : ∀ w, o.about P w a.eval = none)
    {K : Act → World → Prop} {w : World} (hS : S w) (h : K (a.put o.dst v) w) : wpOpIn F n P ops Q i K a w := by
  unfold Go.wpOpIn
  simp only [hi]
  have hab : ∀ f, o.about P w a.eval = some f → F.fn f := fun f hf => by rw [hb w] at hf; cases hf
  rcases hy with ⟨hw, hv⟩ | ⟨hw, rfl⟩
  · simp only [hw, if_true, Oper.wpIn, Oper.semAt_eq _ _ _ hd, hv w hS, Oper.uponIn]; exact ⟨hab, h⟩
  · simp only [hw, Bool.false_eq_true, if_false]; exact ⟨hab, h⟩

theorem wpOpIn_putIf {j : Nat} {oi oj : Oper} {v : Value} (hdj : ∀ c, oj.op ≠ .defer c) (hj : ops[j]? = some oj) (hap : oi.apart ops oj = true)
    (hsi : ∀ cs b, oi.op ≠ .select cs b) (hsj : ∀ cs b, oj.op ≠ .select cs b)
    (hQ : ∀ c a w, Q (.panic c) (a.put oi.dst v) w → Q (.panic c) a w) {K : Act → World → Prop} {a : Act} {w : World}
    (hy : YieldsIf P ops S oi v a) (hb : ∀ w, oi.about P w a.eval = none) (h : wpOpIn F n P ops Q j K (a.put oi.dst v) w) :
    wpOpIn F n P ops Q j (fun a' w' => (YieldsIf P ops S oi v a' ∧ ∀ w, oi.about P w a'.eval = none) ∧ K (a'.put oi.dst v) w') a w := by
  obtain ⟨h1, h2, h3⟩ := Oper.apart_spec hap
  have keep : ∀ (a : Act), (YieldsIf P ops S oi v a ∧ ∀ w, oi.about P w a.eval = none) → ∀ u, (YieldsIf P ops S oi v (a.put oj.dst u) ∧ ∀ w, oi.about P w (a.put oj.dst u).eval = none) := fun a hy u =>
    ⟨hy.1.of_same (execOp_put oi hsi a oj.dst u h3) (wanted_put oi a oj.dst u h3), fun w => by rw [about_put oi w a oj.dst u h3]; exact hy.2 w⟩
  have hyb : YieldsIf P ops S oi v a ∧ ∀ w, oi.about P w a.eval = none := ⟨hy, hb⟩
  unfold wpOpIn at *
  simp only [hj] at *
  rw [wanted_put oj a oi.dst v h1, about_put oj w a oi.dst v h1] at h
  split
  · rename_i hw
    simp only [hw, if_true] at h
    unfold Oper.wpIn at *
    rw [about_put oj w a oi.dst v h1] at h
    refine ⟨h.1, ?_⟩
    have h := h.2
    rw [Oper.semAt_eq _ _ _ hdj, execOp_put oj hsj a oi.dst v h1] at h
    rw [Oper.semAt_eq _ _ _ hdj]
    generalize (execOp a.eval oj).run P w = r at *
    cases r with
    | ok x w' =>
      cases x <;> simp only [Oper.uponIn] at h ⊢
      case value u => exact ⟨keep a hyb u, by rw [← Act.put_comm a v u h2]; exact h⟩
      case skip => exact ⟨keep a hyb _, by rw [← Act.put_comm a v undef h2]; exact h⟩
      case defer d =>
        refine ⟨keep { a with defers := d :: a.defers } ⟨hy.of_same rfl rfl, fun w => hb w⟩ _, ?_⟩
        rw [← Act.put_comm _ v undef h2, ← Act.put_defers]
        exact h
      case enter f args =>
        refine ⟨h.1, CallsIn.mono h.2 fun e w'' he => ?_⟩
        cases e with
        | returned u => exact ⟨keep a hyb u, by rw [← Act.put_comm a v u h2]; exact he⟩
        | panicked c => exact hQ _ _ _ he
        | outgrown => exact he
      case row row args => exact ⟨h.1, RowsIn.mono h.2 fun u w'' he => ⟨keep a hyb u, by rw [← Act.put_comm a v u h2]; exact he⟩⟩
      case round l f tmps assign body =>
        refine ⟨h.1, RoundIn.mono h.2 fun e w'' he => ?_⟩
        cases e with
        | returned u => exact ⟨keep a hyb u, by rw [← Act.put_comm a v u h2]; exact he⟩
        | panicked c => exact hQ _ _ _ he
        | outgrown => exact he
    | halt x w' =>
      cases x <;> simp only [Oper.uponIn] at h ⊢
      case panic u => exact hQ _ _ _ h
  · rename_i hw
    simp only [hw] at h
    exact ⟨h.1, keep a hyb _, by rw [← Act.put_comm a v undef h2]; exact h.2⟩

/-- Whatever order is picked from here on; till g comes up S holds behind every operation. -/
def wpAnyGIn (F : Fence) (n : Nat) (P : Program) (md : Region.Mode) (ops : Array Oper) (Q : Exit → Act → World → Prop) (S : World → Prop) (g : Nat) : Nat → Array Bool → Act → World → Prop
  | 0, listed, a, w => Region.ready md ops listed = [] ∧ Q .normal a w
  | fuel + 1, listed, a, w =>
    (Region.ready md ops listed = [] → Q .normal a w) ∧
    ∀ i ∈ Region.ready md ops listed, wpOpIn F n P ops Q i (fun a' w' => (listed.getD g false = false → i ≠ g → S w') ∧ wpAnyGIn F n P md ops Q S g fuel (listed.setIfInBounds i true) a' w') a w

theorem wpAnyIn_of_G {g : Nat} : ∀ (fuel : Nat) (listed : Array Bool) (a : Act) (w : World), wpAnyGIn F n P md ops Q S g fuel listed a w → wpAnyIn F n P md ops Q fuel listed a w
  | 0, _, _, _, h => h
  | fuel + 1, _, _, _, h => ⟨h.1, fun i hi => wpOpIn_mono (fun a' w' h' => wpAnyIn_of_G fuel _ a' w' h'.2) (h.2 i hi)⟩

theorem wpAnyGIn_first {i g m : Nat} {oi : Oper} {v : Value} (hi : ops[i]? = some oi) (hwt : waitsB md ops i m g = true) (hsel : ∀ (j : Nat) (o : Oper) cs b, ops[j]? = some o → o.op ≠ .select cs b)
    (hdef : ∀ (j : Nat) (o : Oper), ops[j]? = some o → ∀ c, o.op ≠ .defer c)
    (hQ : ∀ c a w, Q (.panic c) (a.put oi.dst v) w → Q (.panic c) a w) :
    ∀ (fuel : Nat) (listed : Array Bool) (a : Act) (w : World), Closed md ops listed → Loose md ops i oi listed → i ∈ Region.ready md ops listed → YieldsIf P ops S oi v a → (∀ w, oi.about P w a.eval = none) → S w →
      wpAnyGIn F n P md ops Q S g fuel (listed.setIfInBounds i true) (a.put oi.dst v) w → wpAnyGIn F n P md ops Q S g (fuel + 1) listed a w
  | 0, listed, a, w, _, _, hr, hy, hb, hS, H => by
    refine ⟨not_none_ready hr, fun j hj => ?_⟩
    by_cases hji : j = i
    · rw [hji] at hj ⊢; exact yieldsIf_wpOpIn (hdef i oi hi) hi hy hb hS ⟨fun _ _ => hS, H⟩
    · exact absurd (ready_mono hj hji) (by rw [H.1]; exact List.not_mem_nil)
  | fuel + 1, listed, a, w, hcl, hlo, hr, hy, hb, hS, H => by
    refine ⟨not_none_ready hr, fun j hj => ?_⟩
    by_cases hji : j = i
    · rw [hji] at hj ⊢; exact yieldsIf_wpOpIn (hdef i oi hi) hi hy hb hS ⟨fun _ _ => hS, H⟩
    obtain ⟨gun, gnr⟩ := waits_unlisted hcl (unlisted_of_ready hr) m g hwt
    have hjg : j ≠ g := fun e => gnr (e ▸ hj)
    have hig : i ≠ g := fun e => gnr (e ▸ hr)
    obtain ⟨jun, oj, hoj, hall⟩ := mem_ready.1 hj
    have step := wpOpIn_putIf (hdef j oj hoj) hoj (hlo j oj hoj hji jun (ready_apart hr hall)) (fun cs b => hsel i oi cs b hi) (fun cs b => hsel j oj cs b hoj) hQ hy hb (H.2 j (ready_mono hj hji))
    refine wpOpIn_mono (fun a' w' h3 => ?_) step
    obtain ⟨⟨y3, b3⟩, s3, r3⟩ := h3
    have sw : S w' := s3 (by rw [getD_set_ne false hig]; exact gun) hjg
    rw [Array.setIfInBounds_comm _ _ (Ne.symm hji)] at r3
    exact ⟨fun _ _ => sw, wpAnyGIn_first hi hwt hsel hdef hQ fuel _ a' w' (hcl.step hj) (hlo.step jun) (ready_mono hr (Ne.symm hji)) y3 b3 sw r3⟩

/-- Take number i first. -/
theorem wpAnyGIn_take {i g : Nat} {oi : Oper} {v : Value} {fuel : Nat} {listed : Array Bool} {a : Act} {w : World} (hi : ops[i]? = some oi)
    (hc : (Region.noSelect ops && Region.free md ops listed i && (Region.ready md ops listed).contains i && closedB md ops listed && waitsB md ops i 12 g && noDefer ops) = true)
    (hQ : ∀ c a w, Q (.panic c) (a.put oi.dst v) w → Q (.panic c) a w) (hy : YieldsIf P ops S oi v a) (hS : S w)
    (h : wpAnyGIn F n P md ops Q S g fuel (listed.setIfInBounds i true) (a.put oi.dst v) w) (hb : ∀ w, oi.about P w a.eval = none := by intro _; rfl) : wpAnyGIn F n P md ops Q S g (fuel + 1) listed a w := by
  simp only [Bool.and_eq_true] at hc
  obtain ⟨⟨⟨⟨⟨hs, hf⟩, hr⟩, hcl⟩, hw⟩, hd⟩ := hc
  exact wpAnyGIn_first hi hw (Region.noSelect_spec hs) (noDefer_spec hd) hQ fuel listed a w (closed_of hcl) (Region.free_spec hi hf) (by simpa using hr) hy hb hS h

/-- One alone may come up, and it is not g: behind it S is to be shown anew. -/
theorem wpAnyGIn_one {i g : Nat} {o : Oper} {fuel : Nat} {listed : Array Bool} {a : Act} {w : World} (ho : ops[i]? = some o) (hr : Region.ready md ops listed = [i])
    (h : ∀ K' : Act → World → Prop, Hid (∀ a w, S w → wpAnyGIn F n P md ops Q S g fuel (listed.setIfInBounds i true) a w → K' a w) → if Region.wanted o (yielded ops a.tmps) = true then Oper.wpIn F n P o a w K' Q else (∀ f, o.about P w a.eval = some f → F.fn f) ∧ K' (a.put o.dst undef) w) : wpAnyGIn F n P md ops Q S g (fuel + 1) listed a w := by
  refine ⟨fun h0 => (by rw [hr] at h0; cases h0), fun j hj => ?_⟩
  rw [hr] at hj
  simp at hj
  subst hj
  exact wpOpIn_step ho fun K' hK => h K' (fun a w h1 h2 => hK a w ⟨fun _ _ => h1, h2⟩)

/-- One alone may come up, and it is g, or comes behind g. -/
theorem wpAnyGIn_last {i g : Nat} {o : Oper} {fuel : Nat} {listed : Array Bool} {a : Act} {w : World} (ho : ops[i]? = some o) (hr : Region.ready md ops listed = [i]) (hg : (listed.getD g false || i == g) = true)
    (h : ∀ K' : Act → World → Prop, Hid (∀ a w, wpAnyGIn F n P md ops Q S g fuel (listed.setIfInBounds i true) a w → K' a w) → if Region.wanted o (yielded ops a.tmps) = true then Oper.wpIn F n P o a w K' Q else (∀ f, o.about P w a.eval = some f → F.fn f) ∧ K' (a.put o.dst undef) w) : wpAnyGIn F n P md ops Q S g (fuel + 1) listed a w := by
  refine ⟨fun h0 => (by rw [hr] at h0; cases h0), fun j hj => ?_⟩
  rw [hr] at hj
  simp at hj
  subst hj
  refine wpOpIn_step ho fun K' hK => h K' (fun a w h1 => hK a w ⟨fun h2 h3 => ?_, h1⟩)
  simp [h3] at hg
  simp [hg] at h2

theorem wpAnyGIn_done {g : Nat} {listed : Array Bool} {a : Act} {w : World} (hr : Region.ready md ops listed = []) (h : Q .normal a w) :
    ∀ fuel, wpAnyGIn F n P md ops Q S g fuel listed a w
  | 0 => ⟨hr, h⟩
  | _ + 1 => ⟨fun _ => h, by rw [hr]; simp⟩

theorem wpIn_region_G {id : Nat} {a : Act} {w : World} (S : World → Prop) (g : Nat) (hm : P.follows .mixedOrders = true) (hS : S w.drew)
    (h : S w.drew → wpAnyGIn F n P .any ops Q S g ops.size (Array.replicate ops.size false) a w.drew) : (Code.region id ops true).wpIn F n P Q a w :=
  wpIn_region_any hm (wpAnyIn_of_G _ _ _ _ (h hS))
end
end Go.Proofs.YtfbgblidlabipaaGreatDoor
end
