import Derived.Test.YtmifenflbaohnaaDoorJnJ
import Derived.Laws.CopyOwn
import Derived.Deep.CutBlock
import Derived.Test.YtmifenflbaohnaaDoorJnI
section
/- The contract of div of words: Knuth's branch. -/
set_option linter.unusedSimpArgs false
set_option linter.unusedVariables false
set_option maxRecDepth 100000
namespace Go.Proofs.YtmifenflbaohnaaDoor
open Go.RowKit

/-- The divisor, shifted so that its last word is great: as many words, the last one from 2^31 on. -/
theorem shifted_words {lb lv : List Nat} {t s : Nat} (hlb : 0 < lb.length) (sb : ∀ x ∈ lb, x < 4294967296) (hbits : Bits (lb.getD (lb.length - 1) 0) t) (htop : lb.getD (lb.length - 1) 0 ≠ 0) (hs : s + t = 32) (hv : val lv = val lb * 2 ^ s) (nv : Nm lv) (sv : ∀ x ∈ lv, x < 4294967296) :
    lv.length = lb.length ∧ 2147483648 ≤ lv.getD (lv.length - 1) 0 := by
  obtain ⟨n, hn⟩ : ∃ n, lb.length = n + 1 := ⟨lb.length - 1, by omega⟩
  rw [hn] at hbits htop
  simp only [Nat.add_sub_cancel] at hbits htop
  have hsp := val_split lb n (by omega)
  have htk := take_lt lb n (by omega) sb
  have hdr : val (lb.drop (n + 1)) = 0 := by rw [List.drop_eq_nil_of_le (by omega)]; rfl
  rw [hdr] at hsp
  simp only [Nat.mul_zero, Nat.add_zero] at hsp
  generalize lb.getD n 0 = x at *
  obtain ⟨g1, g2⟩ := hbits.ge htop
  have h32 : 2 ^ t * 2 ^ s = 4294967296 := by rw [← Nat.pow_add, show t + s = 32 by omega]
  have h31 : 2 ^ (t - 1) * 2 ^ s = 2147483648 := by rw [← Nat.pow_add, show t - 1 + s = 31 by omega]
  have up : val lv < pw (n + 1) := by
    have h1 : val lb < pw n * 2 ^ t := by
      have : pw n * (x + 1) ≤ pw n * 2 ^ t := Nat.mul_le_mul_left _ hbits.lt
      rw [Nat.mul_add, Nat.mul_one] at this; omega
    have h2 : val lb * 2 ^ s < pw n * 2 ^ t * 2 ^ s := Nat.mul_lt_mul_of_pos_right h1 (Nat.two_pow_pos s)
    rw [Nat.mul_assoc, h32] at h2
    rw [hv]; show _ < 4294967296 * pw n; omega
  have low : pw n * 2147483648 ≤ val lv := by
    have h1 : pw n * 2 ^ (t - 1) ≤ val lb := by
      have : pw n * 2 ^ (t - 1) ≤ pw n * x := Nat.mul_le_mul_left _ g2
      omega
    have h2 : pw n * 2 ^ (t - 1) * 2 ^ s ≤ val lb * 2 ^ s := Nat.mul_le_mul_right _ h1
    rw [Nat.mul_assoc, h31] at h2
    rw [hv]; exact h2
  have l1 := nv.len up
  have l2 : n < lv.length := by
    rcases Nat.lt_or_ge n lv.length with c | c
    · exact c
    · have h1 := val_lt lv sv
      have h2 := pw_le c
      have := pw_pos n
      omega
  have hl : lv.length = n + 1 := by omega
  refine ⟨by omega, ?_⟩
  rw [hl]
  simp only [Nat.add_sub_cancel]
  have hsp2 := val_split lv n (by omega)
  have htk2 := take_lt lv n (by omega) sv
  have hdr2 : val (lv.drop (n + 1)) = 0 := by rw [List.drop_eq_nil_of_le (by omega)]; rfl
  rw [hdr2] at hsp2
  simp only [Nat.mul_zero, Nat.add_zero] at hsp2
  generalize lv.getD n 0 = y at *
  rcases Nat.lt_or_ge y 2147483648 with c | c
  · have : pw n * (y + 1) ≤ pw n * 2147483648 := Nat.mul_le_mul_left _ c
    rw [Nat.mul_add, Nat.mul_one] at this
    omega
  · exact c

theorem top_ne {l : List Nat} (h : Nm l) (hl : 0 < l.length) (hs : ∀ x ∈ l, x < 4294967296) : l.getD (l.length - 1) 0 ≠ 0 := by
  obtain ⟨n, hn⟩ : ∃ n, l.length = n + 1 := ⟨l.length - 1, by omega⟩
  rcases h with h | h
  · subst h; simp at hl
  · rw [hn] at h ⊢
    simp only [Nat.add_sub_cancel] at h ⊢
    intro e
    have hsp := val_split l n (by omega)
    have htk := take_lt l n (by omega) hs
    have hdr : val (l.drop (n + 1)) = 0 := by rw [List.drop_eq_nil_of_le (by omega)]; rfl
    rw [hdr, e] at hsp
    simp at hsp
    omega

theorem getD_in (P X R : List Nat) (j i : Nat) (hP : P.length = j) (hi : i < X.length) : (P ++ (X ++ R)).getD (j + i) 0 = X.getD i 0 := by
  subst hP
  rw [List.getD_eq_getElem?_getD, List.getElem?_append_right (by omega), List.getElem?_append_left (by omega), List.getD_eq_getElem?_getD]
  simp

theorem quo_le {h top : Nat} (hh : h < 18446744073709551616) (ht : 2147483648 ≤ top) : h / top ≤ 8589934592 := by
  refine Nat.div_le_of_le_mul ?_
  have : 2147483648 * 8589934592 ≤ top * 8589934592 := Nat.mul_le_mul_right _ ht
  omega

theorem dec_true {a b c : Nat} (h : a < b * c) : decide ((a : Int) < (b : Int) * (c : Int)) = true := by
  rw [← Int.natCast_mul]; simp only [decide_eq_true_iff]; exact Int.ofNat_lt.2 h
theorem dec_false {a b c : Nat} (h : ¬ a < b * c) : decide ((a : Int) < (b : Int) * (c : Int)) = false := by
  rw [← Int.natCast_mul]; simp only [decide_eq_false_iff_not]; intro k; exact h (Int.ofNat_lt.1 k)

/-- One word taken away, the product's low word first. -/
theorem take_digit (x y d : Nat) (hx : x < 4294967296) (hy : y < 4294967296) (hd : d ≤ 1) : ∃ z d2 : Nat, d2 ≤ 1 ∧ z < 4294967296 ∧ z + y + d = x + 4294967296 * d2 ∧
    IntKind.u64.wrap (IntKind.u64.wrap ((x : Int) - (y : Int)) - (d : Int)) / 9223372036854775808 = (d2 : Int) ∧ IntKind.u64.wrap (IntKind.u64.wrap ((x : Int) - (y : Int)) - (d : Int)) % 4294967296 = (z : Int) := by
  simp only [IntKind.wrap_u64]
  by_cases h : x < y + d
  · exact ⟨x + 4294967296 - y - d, 1, by omega, by omega, by omega, by omega, by omega⟩
  · exact ⟨x - y - d, 0, by omega, by omega, by omega, by omega, by omega⟩

/-- The top word, where too much was taken away. -/
theorem top_neg (x c d : Nat) (hx : x < 4294967296) (hc : c < 4294967296) (hd : d ≤ 1) (h : x < c + d) : ∃ z : Nat, z < 4294967296 ∧ z + (c + d) = x + 4294967296 ∧
    IntKind.u64.wrap (IntKind.u64.wrap ((x : Int) - (c : Int)) - (d : Int)) / 9223372036854775808 = 1 ∧ IntKind.u64.wrap (IntKind.u64.wrap ((x : Int) - (c : Int)) - (d : Int)) % 4294967296 = (z : Int) := by
  simp only [IntKind.wrap_u64]
  exact ⟨x + 4294967296 - c - d, by omega, by omega, by omega, by omega⟩

theorem quot_facts {W V gs : Nat} (hV : 0 < V) (h : gs = W / V) : W < (gs + 1) * V ∧ gs * V ≤ W := by
  subst h
  have h1 := Nat.div_add_mod W V
  have h2 := Nat.mod_lt W hV
  have h3 : W / V * V = V * (W / V) := Nat.mul_comm ..
  rw [Nat.add_mul, Nat.one_mul]
  omega

theorem Row.other {w : World} {g : Nat} {R : List Nat} (h : Row w g R) (g' i : Nat) (v : Value) (hne : g' ≠ g) : Row (w.setCell ⟨g', i, none⟩ v) g R := by
  unfold Row at h ⊢
  simp [World.setCell, Array.getElem?_modify, h, hne]

theorem app_zero (Y : List Nat) (k : Nat) : (Y ++ [0]) ++ List.replicate k 0 = Y ++ List.replicate (k + 1) 0 := by
  rw [List.append_assoc, List.replicate_succ]; rfl

theorem ks_end {A V n m : Nat} {Y Q : List Nat} (h : MathE.KS A V n m 0 [] Y Q) : A / V = val Q ∧ A % V = val Y := by
  have h1 := h.eq
  have h2 := h.lt
  simp only [pw, Nat.one_mul, val, Nat.zero_add] at h1
  have hV : 0 < V := by omega
  constructor
  · rw [h1, Nat.mul_comm, Nat.mul_add_div hV, Nat.div_eq_of_lt h2, Nat.add_zero]
  · rw [h1, Nat.mul_comm, Nat.mul_add_mod, Nat.mod_eq_of_lt h2]

theorem drop_cons (X : List Nat) (i : Nat) (hi : i < X.length) : X.drop i = X.getD i 0 :: X.drop (i + 1) := by
  rw [List.drop_eq_getElem_cons hi, List.getD_eq_getElem?_getD, List.getElem?_eq_getElem hi, Option.getD_some]

theorem getD_pos' (P Y : List Nat) (x : Nat) (R : List Nat) (j i : Nat) (hP : P.length = j) (hY : Y.length = i) : (P ++ (Y ++ (x :: R))).getD (i + j) 0 = x := by
  rw [Nat.add_comm]; exact MathD.getD_pos P Y x R j i hP hY
theorem set_pos' (P Y : List Nat) (x y : Nat) (R : List Nat) (j i : Nat) (hP : P.length = j) (hY : Y.length = i) : (P ++ (Y ++ (x :: R))).set (i + j) y = P ++ ((Y ++ [y]) ++ R) := by
  rw [Nat.add_comm]; exact MathD.set_pos P Y x y R j i hP hY

theorem Tryd.size32 : (Tryd.prog.info? 77).map (·.size) = some 1 := by kernel_rfl

end Go.Proofs.YtmifenflbaohnaaDoor
end

section
/- Contracts of numbers of any length: QuoRem, Quo, DivMod, Mod. -/
set_option linter.unusedSimpArgs false
set_option linter.unusedVariables false
set_option maxRecDepth 100000
namespace Go.Proofs.YtmifenflbaohnaaDoor
open Go.RowKit

/-- w' is w with new blocks, and with writes to the blocks b and c alone. -/
structure Upd2 (b c : Nat) (w w' : World) : Prop where
  os : w'.os = w.os
  tape : w'.tape = w.tape
  output : w'.output = w.output
  size : w.heap.size ≤ w'.heap.size
  block : ∀ k, k < w.heap.size → k ≠ b → k ≠ c → w'.heap[k]? = w.heap[k]?

theorem Upd.two {b : Nat} {w w' : World} (h : Upd b w w') (c : Nat) : Upd2 b c w w' := ⟨h.os, h.tape, h.output, h.size, fun k hk h1 _ => h.block k hk h1⟩
theorem Upd.two' {b : Nat} {w w' : World} (h : Upd b w w') (c : Nat) : Upd2 c b w w' := ⟨h.os, h.tape, h.output, h.size, fun k hk _ h1 => h.block k hk h1⟩
theorem Upd2.trans {b c : Nat} {x y z : World} (h : Upd2 b c x y) (k : Upd2 b c y z) : Upd2 b c x z :=
  ⟨k.os.trans h.os, k.tape.trans h.tape, k.output.trans h.output, Nat.le_trans h.size k.size, fun i hi h1 h2 => (k.block i (Nat.lt_of_lt_of_le hi h.size) h1 h2).trans (h.block i hi h1 h2)⟩
theorem Upd2.of_below {b c : Nat} {w w' : World} (h : Below w.heap.size w w') : Upd2 b c w w' := (Upd.of_below (b := b) h).two c
theorem Upd2.refl (b c : Nat) (w : World) : Upd2 b c w w := (Upd.refl b w).two c
theorem Upd2.drewN {b c n : Nat} {x y : World} (h : Upd2 b c x y) : Upd2 b c x (y.drewN n) := ⟨h.os, h.tape, h.output, h.size, h.block⟩
theorem Slot.upd2 {b c d : Nat} {w w' : World} (h : Slot w d) (hu : Upd2 b c w w') (h1 : d ≠ b) (h2 : d ≠ c) : Slot w' d := by
  obtain ⟨x, y, h3⟩ := h
  exact ⟨x, y, by rw [hu.block d (lt_of_some h3) h1 h2]; exact h3⟩
theorem Sl.upd2 {b c : Nat} {w w' : World} {s : Value} {l : List Nat} (h : Sl w s l) (hu : Upd2 b c w w') (hb : Slot w b) (hc : Slot w c) : Sl w' s l := by
  refine ⟨h.small, ?_⟩
  rcases h.shape with h1 | ⟨g, cap, C, h1, h2, h3, h4⟩
  · exact Or.inl h1
  · refine Or.inr ⟨g, cap, C, h1, h2, ?_, h4⟩
    rw [hu.block g (lt_of_some h3) ?_ ?_]; exact h3
    · intro e; subst e; obtain ⟨x, y, h5⟩ := hb; rw [h3] at h5; simp at h5
    · intro e; subst e; obtain ⟨x, y, h5⟩ := hc; rw [h3] at h5; simp at h5
theorem BigAt.upd2 {b c d : Nat} {w w' : World} {n : Int} (h : BigAt w d n) (hu : Upd2 b c w w') (hb : Slot w b) (hc : Slot w c) (h1 : d ≠ b) (h2 : d ≠ c) : BigAt w' d n := by
  obtain ⟨s, h3, l, h4, h5⟩ := h
  exact ⟨s, by rw [hu.block d (lt_of_some h3) h1 h2]; exact h3, l, h4.upd2 hu hb hc, h5⟩
theorem Upd2.swap {b c : Nat} {w w' : World} (h : Upd2 b c w w') : Upd2 c b w w' := ⟨h.os, h.tape, h.output, h.size, fun k hk h1 h2 => h.block k hk h2 h1⟩
/-- The first block is new: only the second one is written. -/
theorem Upd2.fresh {b c : Nat} {w w1 w' : World} (h0 : Below w.heap.size w w1) (hb : w.heap.size ≤ b) (h : Upd2 b c w1 w') : Upd c w w' :=
  ⟨h.os.trans h0.os, h.tape.trans h0.tape, h.output.trans h0.output, Nat.le_trans h0.size h.size, fun k hk h1 => (h.block k (Nat.lt_of_lt_of_le hk h0.size) (by omega) h1).trans (h0.block k hk)⟩

theorem sgd_div (x y : Int) : sgd (decide (x < 0) != decide (y < 0)) (x.natAbs / y.natAbs) = x.tdiv y := by
  rcases Int.lt_or_le x 0 with hx | hx <;> rcases Int.lt_or_le y 0 with hy | hy
  · rw [decide_eq_true hx, decide_eq_true hy]
    obtain ⟨a, rfl⟩ : ∃ a : Nat, x = -(a : Int) := ⟨x.natAbs, by omega⟩
    obtain ⟨b, rfl⟩ : ∃ b : Nat, y = -(b : Int) := ⟨y.natAbs, by omega⟩
    show (((-(a : Int)).natAbs / (-(b : Int)).natAbs : Nat) : Int) = _
    rw [Int.natAbs_neg, Int.natAbs_natCast, Int.natAbs_neg, Int.natAbs_natCast, Int.neg_tdiv, Int.tdiv_neg, Int.neg_neg, Int.ofNat_tdiv]
  · rw [decide_eq_true hx, decide_eq_false (Int.not_lt.2 hy)]
    obtain ⟨a, rfl⟩ : ∃ a : Nat, x = -(a : Int) := ⟨x.natAbs, by omega⟩
    obtain ⟨b, rfl⟩ : ∃ b : Nat, y = (b : Int) := ⟨y.natAbs, by omega⟩
    show -(((-(a : Int)).natAbs / (b : Int).natAbs : Nat) : Int) = _
    rw [Int.natAbs_neg, Int.natAbs_natCast, Int.natAbs_natCast, Int.neg_tdiv, Int.ofNat_tdiv]
  · rw [decide_eq_false (Int.not_lt.2 hx), decide_eq_true hy]
    obtain ⟨a, rfl⟩ : ∃ a : Nat, x = (a : Int) := ⟨x.natAbs, by omega⟩
    obtain ⟨b, rfl⟩ : ∃ b : Nat, y = -(b : Int) := ⟨y.natAbs, by omega⟩
    show -(((a : Int).natAbs / (-(b : Int)).natAbs : Nat) : Int) = _
    rw [Int.natAbs_neg, Int.natAbs_natCast, Int.natAbs_natCast, Int.tdiv_neg, Int.ofNat_tdiv]
  · rw [decide_eq_false (Int.not_lt.2 hx), decide_eq_false (Int.not_lt.2 hy)]
    obtain ⟨a, rfl⟩ : ∃ a : Nat, x = (a : Int) := ⟨x.natAbs, by omega⟩
    obtain ⟨b, rfl⟩ : ∃ b : Nat, y = (b : Int) := ⟨y.natAbs, by omega⟩
    show (((a : Int).natAbs / (b : Int).natAbs : Nat) : Int) = _
    rw [Int.natAbs_natCast, Int.natAbs_natCast, Int.ofNat_tdiv]
theorem sgd_mod (x y : Int) : sgd (decide (x < 0)) (x.natAbs % y.natAbs) = x.tmod y := by
  have h : x.tmod y = x.tmod (y.natAbs : Int) := by
    rcases Int.natAbs_eq y with e | e
    · rw [← e]
    · rw [e, Int.tmod_neg, Int.natAbs_neg]; rfl
  rw [h]
  rcases Int.lt_or_le x 0 with hx | hx
  · rw [decide_eq_true hx]
    obtain ⟨a, rfl⟩ : ∃ a : Nat, x = -(a : Int) := ⟨x.natAbs, by omega⟩
    show -(((-(a : Int)).natAbs % y.natAbs : Nat) : Int) = _
    rw [Int.natAbs_neg, Int.natAbs_natCast, Int.neg_tmod, Int.ofNat_tmod]
  · rw [decide_eq_false (Int.not_lt.2 hx)]
    obtain ⟨a, rfl⟩ : ∃ a : Nat, x = (a : Int) := ⟨x.natAbs, by omega⟩
    show (((a : Int).natAbs % y.natAbs : Nat) : Int) = _
    rw [Int.natAbs_natCast, Int.ofNat_tmod]

/-- From the rest with the dividend's sign to the rest that is no less than 0. -/
theorem euclid_rest {x y : Int} (hy : y ≠ 0) : (¬ x.tmod y < 0 → x / y = x.tdiv y ∧ x % y = x.tmod y) ∧ (x.tmod y < 0 → y < 0 → x / y = x.tdiv y + 1 ∧ x % y = x.tmod y - y) ∧ (x.tmod y < 0 → ¬ y < 0 → x / y = x.tdiv y - 1 ∧ x % y = x.tmod y + y) := by
  have h1 := Int.tmod_add_mul_tdiv x y
  have h2 := Int.emod_add_mul_ediv x y
  have h3 := Int.emod_nonneg x hy
  have h4 : x % y < (y.natAbs : Int) := Int.emod_lt x hy
  have h5 : (x.tmod y).natAbs < y.natAbs := by rw [Int.natAbs_tmod]; exact Nat.mod_lt _ (by omega)
  -- y (tdiv - ediv) = emod - tmod
  have h6 : y * (x.tdiv y - x / y) = x % y - x.tmod y := by rw [Int.mul_sub]; omega
  generalize x.tdiv y = T at *
  generalize x / y = E at *
  generalize x % y = e at *
  generalize x.tmod y = t at *
  have key : ∀ k : Int, e - t = y * k → T - E = k := by
    intro k hk
    rw [← h6] at hk
    exact Int.eq_of_mul_eq_mul_left hy hk
  refine ⟨fun h => ?_, fun h hn => ?_, fun h hn => ?_⟩
  · have hz : T - E = 0 := by
      have h7 : (y * (T - E)).natAbs < y.natAbs := by rw [h6]; omega
      rw [Int.natAbs_mul] at h7
      have h8 : (T - E).natAbs < 1 := Nat.lt_of_mul_lt_mul_left (a := y.natAbs) (by omega)
      omega
    have h9 : y * (T - E) = 0 := by rw [hz, Int.mul_zero]
    omega
  · have hz : T - E = -1 := by
      have h7 : (y * (T - E + 1)).natAbs < y.natAbs := by rw [Int.mul_add, h6]; omega
      rw [Int.natAbs_mul] at h7
      have h8 : (T - E + 1).natAbs < 1 := Nat.lt_of_mul_lt_mul_left (a := y.natAbs) (by omega)
      omega
    have h9 : y * (T - E) = -y := by rw [hz]; omega
    omega
  · have hz : T - E = 1 := by
      have h7 : (y * (T - E - 1)).natAbs < y.natAbs := by rw [Int.mul_sub, h6]; omega
      rw [Int.natAbs_mul] at h7
      have h8 : (T - E - 1).natAbs < 1 := Nat.lt_of_mul_lt_mul_left (a := y.natAbs) (by omega)
      omega
    have h9 : y * (T - E) = y := by rw [hz]; omega
    omega

end Go.Proofs.YtmifenflbaohnaaDoor
end
