/- Numbers of any length: their decimal digits (Text, String). -/
import Derived.Test.YtmifenflbaohnaaDoorBigH
import Derived.Test.YtmifenflbaohnaaDoorLgM
import Derived.Test.YtmifenflbaohnaaDoorRsK
import Derived.Laws.IdiomStrings
set_option linter.unusedSimpArgs false
set_option linter.unusedVariables false
set_option maxRecDepth 100000
namespace Go.Proofs.YtmifenflbaohnaaDoor
open Go.RowKit LgM

/-- A number's decimal digits, with '-' ahead where it is below 0. -/
def decZ (x : Int) : List UInt8 := if x < 0 then 45 :: Lib.decDigits x.natAbs else Lib.decDigits x.natAbs
theorem decZ_nat (n : Nat) : decZ (n : Int) = Lib.decDigits n := by unfold decZ; rw [if_neg (by omega)]; rfl
theorem decZ_neg {x : Int} (h : x < 0) : decZ x = 45 :: Lib.decDigits x.natAbs := by unfold decZ; rw [if_pos h]
theorem decZ_pos {x : Int} (h : ¬ x < 0) : decZ x = Lib.decDigits x.natAbs := by unfold decZ; rw [if_neg h]
theorem pw_ten (m : Nat) : pw m ≤ 10 ^ (10 * m) := by
  induction m with
  | zero => decide
  | succ m ih =>
    rw [show 10 * (m + 1) = 10 * m + 10 by omega, Nat.pow_add, Nat.mul_comm]
    exact Nat.mul_le_mul (by decide) ih
theorem dec_pos (n : Nat) : 1 ≤ (Lib.decDigits n).length := by
  by_cases h : n < 10
  · rw [dec_lt h]; simp
  · rw [dec_ge h]; simp
theorem dec_pw {n m : Nat} (h : n < pw m) (hm : 1 ≤ m) : (Lib.decDigits n).length ≤ 10 * m := dec_len n (10 * m) (by omega) (Nat.lt_of_lt_of_le h (pw_ten m))
theorem Tryd.infoU8 : (Tryd.prog.info? 5).map (fun i => (i.zero, i.size, i.bytes)) = some (some (.int .u8 0), 1, 1) := by kernel_rfl
theorem own_later {B n size : Nat} {w w' : World} {v : Value} {xs : List Value} {e : TypeId} (h : w.ownsRow B e size v n xs) (k : Below w.heap.size w w') : w'.ownsRow B e size v n xs := by
  refine ⟨h.1, ?_⟩
  rcases h.2 with hn | ⟨g, cap, cur, rfl, hb, hgg, rest⟩
  · exact .inl hn
  · exact .inr ⟨g, cap, cur, rfl, hb, (k.block g (Array.getElem?_eq_some_iff.1 hgg).1).trans hgg, rest⟩
def u8s (l : List UInt8) : List Value := l.map fun c => .int .u8 (c.toNat : Int)
/-- The digits so far, the last one first. -/
structure Dg (w wx : World) (v : Value) (cs : List UInt8) : Prop where
  row : wx.ownsRow w.heap.size 5 1 v cs.length (u8s cs)
  k : Below w.heap.size w wx
theorem Dg.below {w wx wy : World} {v : Value} {cs : List UInt8} (h : Dg w wx v cs) (k : Below wx.heap.size wx wy) : Dg w wy v cs := ⟨own_later h.row k, h.k.trans (k.mono h.k.size)⟩
theorem own_news {b : Nat} {l : List Value} {t : TypeId} {w : World} (h : Cl b l t w) : ∀ j u, l[j]? = some u → w.cell? ((⟨b, 0, none⟩ : Addr).add j) = some u := by
  intro j u hu
  have hadd : (⟨b, 0, none⟩ : Addr).add j = ⟨b, j, none⟩ := by unfold Addr.add; split <;> simp_all
  rw [hadd, h.cell j]
  exact hu
/-- What is left and what is there make the digits. -/
def Lf (n a : Nat) (cs : List UInt8) : Prop := (0 < a ∧ Lib.decDigits n = Lib.decDigits a ++ cs.reverse) ∨ (a = 0 ∧ Lib.decDigits n = cs.reverse)
theorem Lf.step {n a : Nat} {cs : List UInt8} (h : Lf n a cs) (ha : 0 < a) : Lf n (a / 10) (cs ++ [UInt8.ofNat (48 + a % 10)]) := by
  rcases h with ⟨_, h⟩ | ⟨h, _⟩
  · by_cases h1 : a < 10
    · refine .inr ⟨by omega, ?_⟩
      rw [h, dec_lt h1, List.reverse_append, Nat.mod_eq_of_lt h1]; rfl
    · refine .inl ⟨by omega, ?_⟩
      rw [h, dec_ge h1, List.reverse_append, List.append_assoc]; rfl
  · omega
theorem Lf.len {n a : Nat} {cs : List UInt8} (h : Lf n a cs) : cs.length ≤ (Lib.decDigits n).length := by
  rcases h with ⟨_, h⟩ | ⟨_, h⟩
  · rw [h]; simp
  · rw [h]; simp
/-- A row that is turned from its two ends: i of each are done. -/
def rv (T : List UInt8) (i j : Nat) : Nat := if j < i ∨ T.length - 1 - i < j then (T.getD (T.length - 1 - j) 0).toNat else (T.getD j 0).toNat
/-- The row in memory. -/
def Rvd (T : List UInt8) (g i : Nat) (W : World) : Prop := ∀ j, j < T.length → W.cell? ⟨g, j, none⟩ = some (.int .u8 (rv T i j : Int)) ∧ W.frozen? ⟨g, j, none⟩ = false
theorem rv_zero (T : List UInt8) {j : Nat} (h : j < T.length) : rv T 0 j = (T.getD j 0).toNat := by unfold rv; rw [if_neg (by omega)]
theorem rv_end {T : List UInt8} {i j : Nat} (h : j < T.length) (hi : T.length - 1 - i ≤ i) (hi2 : i < T.length) : rv T i j = (T.getD (T.length - 1 - j) 0).toNat := by
  unfold rv
  split
  · rfl
  · rw [show T.length - 1 - j = j by omega]
theorem rv_step {T : List UInt8} {i j : Nat} (h : j < T.length) (hi : i < T.length - 1 - i) : rv T (i + 1) j = if j = T.length - 1 - i then rv T i i else if j = i then rv T i (T.length - 1 - i) else rv T i j := by
  have e1 : rv T i i = (T.getD i 0).toNat := by unfold rv; rw [if_neg (by omega)]
  have e2 : rv T i (T.length - 1 - i) = (T.getD (T.length - 1 - i) 0).toNat := by unfold rv; rw [if_neg (by omega)]
  rw [e1, e2]
  by_cases h1 : j = T.length - 1 - i
  · rw [if_pos h1]; unfold rv
    rw [if_pos (by omega), h1, show T.length - 1 - (T.length - 1 - i) = i by omega]
  · rw [if_neg h1]
    by_cases h2 : j = i
    · rw [if_pos h2]; unfold rv
      rw [if_pos (by omega), h2]
    · rw [if_neg h2]; unfold rv
      by_cases h3 : j < i ∨ T.length - 1 - i < j
      · rw [if_pos h3, if_pos (by omega)]
      · rw [if_neg h3, if_neg (by omega)]

end Go.Proofs.YtmifenflbaohnaaDoor
