import Derived.Test.YtnkjadpmigpneaaGreatDoorJpD
import Derived.Test.YtnkjadpmigpneaaGreatDoorBitsB
import Derived.Test.YtnkjadpmigpneaaGreatDoorJpB
import Derived.Test.YtnkjadpmigpneaaGreatDoorJpC
import Derived.Test.YtnkjadpmigpneaaGreatDoorJpA
import Derived.Test.YtnkjadpmigpneaaGreatDoorPrimeL
import Derived.Maps.AppendAt
section
set_option linter.unusedSimpArgs false
set_option linter.unusedVariables false
set_option maxRecDepth 100000
namespace Go.Proofs.YtnkjadpmigpneaaGreatDoor.MathC
def jl (ms : List Int) : Nat → Nat
  | 0 => 1
  | k + 1 => Nat.lcm (jl ms k) (ms.getD k 0).toNat
def K : Int := 1000000000000000000
structure JSt (rs ms : List Int) (k : Nat) (r m : Nat) : Prop where
  hi : r < m
  cap : (m : Int) ≤ 1000000000000000000
  ok : ∀ j, j < k → -1000000000000000000 ≤ rs.getD j 0 ∧ rs.getD j 0 ≤ 1000000000000000000 ∧ 1 ≤ ms.getD j 0 ∧ ms.getD j 0 ≤ 1000000000000000000
  lcm : m = jl ms k
  cong : ∀ j, j < k → ms.getD j 0 ∣ (r : Int) - rs.getD j 0
end Go.Proofs.YtnkjadpmigpneaaGreatDoor.MathC
end

section
set_option linter.unusedSimpArgs false
set_option linter.unusedVariables false
set_option maxRecDepth 100000
namespace Go.Proofs.YtnkjadpmigpneaaGreatDoor
open Go.RowKit
theorem left_any (a : Int) (m : Nat) (w : World) (ha : a.natAbs ≤ 4000000000000000000) (h0 : 0 < m) (hm : (m : Int) ≤ 1000000000000000000) :
    Calls Tryz.prog 150 #[.int .i64 a, .int .i64 m] w fun e w' => e = .returned (.int .i64 (a % (m : Int))) ∧ w' = w := by
  have hb : (a.tmod (m : Int)).natAbs < m := by rw [Int.natAbs_tmod]; exact Nat.mod_lt _ h0
  have t1 : ((m : Int) == 0) = false := beq_eq_false_iff_ne.2 (by omega)
  by_cases h : 0 ≤ a
  · have e : a.tmod (m : Int) = a % (m : Int) := Int.tmod_eq_emod_of_nonneg h
    have h1 : 0 ≤ a % (m : Int) := Int.emod_nonneg _ (by omega)
    have h2 : a % (m : Int) < (m : Int) := Int.emod_lt_of_pos _ (by omega)
    clear hb e
    go_enter Tryz.func150, Tryz.ntmps150
    go_wp2
    go_ret
    exact ⟨rfl, rfl⟩
  · by_cases hz : a.tmod (m : Int) < 0
    · have HE : Hid (a.tmod (m : Int) + (m : Int) = a % (m : Int)) := by
        show _ = _
        have e1 := Int.tmod_eq_emod (a := a) (b := (m : Int))
        rw [e1] at hz ⊢
        split at hz
        · have := Int.emod_nonneg a (show (m : Int) ≠ 0 by omega); omega
        · rename_i hc; rw [if_neg hc]; simp
      go_enter Tryz.func150, Tryz.ntmps150
      go_wp2
      go_ret
      exact ⟨ret_int HE.out, rfl⟩
    · have HE : Hid (a.tmod (m : Int) = a % (m : Int)) := by
        show _ = _
        have e1 := Int.tmod_eq_emod (a := a) (b := (m : Int))
        rw [e1] at hz ⊢
        split at hz
        · rename_i hc; rw [if_pos hc]; omega
        · have := Int.emod_lt_of_pos a (show 0 < (m : Int) by omega); simp at hz; omega
      go_enter Tryz.func150, Tryz.ntmps150
      go_wp2
      go_ret
      exact ⟨ret_int HE.out, rfl⟩
end Go.Proofs.YtnkjadpmigpneaaGreatDoor
end

section
set_option linter.unusedSimpArgs false
set_option linter.unusedVariables false
set_option maxRecDepth 100000
namespace Go.Proofs.YtnkjadpmigpneaaGreatDoor
open Go.RowKit
structure JOne (r m : Nat) (a b : Int) (R M c : Int) : Prop where
  cases : (c = 3 ∧ R = 0 ∧ M = 0 ∧ (numB a = false ∨ b < 1 ∨ 1000000000000000000 < b)) ∨
    (numB a = true ∧ ∃ n : Nat, b = (n : Int) ∧ 1 ≤ n ∧ (n : Int) ≤ 1000000000000000000 ∧
      ((c = 5 ∧ R = 0 ∧ M = 0 ∧ ¬ (Nat.gcd m n : Int) ∣ a - (r : Int)) ∨
       (c = 9 ∧ R = 0 ∧ M = 0 ∧ (Nat.gcd m n : Int) ∣ a - (r : Int) ∧ 1000000000000000000 < m * (n / Nat.gcd m n)) ∨
       (c = 0 ∧ ∃ R' : Nat, R = R' ∧ M = ((m * (n / Nat.gcd m n) : Nat) : Int) ∧ m * (n / Nat.gcd m n) ≤ 1000000000000000000 ∧ R' < m * (n / Nat.gcd m n) ∧ (m : Int) ∣ (R' : Int) - (r : Int) ∧ (n : Int) ∣ (R' : Int) - a ∧ (Nat.gcd m n : Int) ∣ a - (r : Int))))
structure IS (w : World) (s : Value) (xs : List Int) : Prop where
  shape : ∃ (aa : Option Addr) (g o cap : Nat), s = .slice aa xs.length cap ∧ (0 < xs.length → aa = some ⟨g, o, none⟩) ∧ (∀ i, i < xs.length → w.cell? ⟨g, o + i, none⟩ = some (.int .i64 (xs.getD i 0))) ∧ (0 < xs.length → g < w.heap.size)
structure JOut (rs ms : List Int) (R M c at' : Int) : Prop where
  cases : ((1000 < rs.length ∨ 1000 < ms.length) ∧ R = 0 ∧ M = 0 ∧ c = 2 ∧ at' = 0) ∨
    (rs.length ≤ 1000 ∧ ms.length ≤ 1000 ∧ rs.length ≠ ms.length ∧ R = 0 ∧ M = 0 ∧ c = 8 ∧ at' = 0) ∨
    (rs.length ≤ 1000 ∧ rs.length = ms.length ∧ ∃ (k r m : Nat) (R' M' : Int), k < rs.length ∧ MathC.JSt rs ms k r m ∧ at' = k ∧ R = 0 ∧ M = 0 ∧ c ≠ 0 ∧ JOne r m (rs.getD k 0) (ms.getD k 0) R' M' c) ∨
    (rs.length ≤ 1000 ∧ rs.length = ms.length ∧ ∃ r m : Nat, MathC.JSt rs ms rs.length r m ∧ R = r ∧ M = m ∧ c = 0 ∧ at' = 0)
end Go.Proofs.YtnkjadpmigpneaaGreatDoor
end

section
set_option linter.unusedSimpArgs false
set_option linter.unusedVariables false
set_option maxRecDepth 100000
namespace Go.Proofs.YtnkjadpmigpneaaGreatDoor
open Go.RowKit
structure Sv (b : Nat) (c d : Int) (w : World) : Prop where
  c0 : w.cell? ⟨b, 0, none⟩ = some (.int .i64 c)
  c1 : w.cell? ⟨b, 1, none⟩ = some (.int .i64 d)
  f0 : w.frozen? ⟨b, 0, none⟩ = false
  f1 : w.frozen? ⟨b, 1, none⟩ = false
  lt : b < w.heap.size
theorem Sv.below {b : Nat} {c d : Int} {w w' : World} (h : Sv b c d w) (k : Below w.heap.size w w') : Sv b c d w' :=
  ⟨cell_later k h.c0, cell_later k h.c1, (k.frozen (p := ⟨b, 0, none⟩) h.lt).trans h.f0, (k.frozen (p := ⟨b, 1, none⟩) h.lt).trans h.f1, Nat.lt_of_lt_of_le h.lt k.size⟩
theorem Sv.alloc {b : Nat} {c d : Int} {w : World} (h : Sv b c d w) (C : Array Value) (t : TypeId) : Sv b c d (w.alloc (.cells C t)) := h.below (Below.alloc (Below.refl _ _) (Nat.le_refl _) _)
theorem Sv.new (c d : Int) (w : World) : Sv w.heap.size c d (w.alloc (.cells #[.int .i64 c, .int .i64 d] 23)) :=
  ⟨by simp, by simp, by simp, by simp, by simp⟩
theorem Sv.set {b : Nat} {c d : Int} {w : World} (h : Sv b c d w) (x y : Int) : Sv b x y ((w.setCell ⟨b, 0, none⟩ (.int .i64 x)).setCell ⟨b, 1, none⟩ (.int .i64 y)) := by
  obtain ⟨c0, c1, f0, f1, lt⟩ := h
  exact ⟨by go_simp, by go_simp, by go_simp, by go_simp, by simpa using lt⟩
theorem Sv.other {b b' : Nat} {c d : Int} {w : World} (h : Sv b c d w) (x y : Value) (hne : b' ≠ b) : Sv b c d ((w.setCell ⟨b', 0, none⟩ x).setCell ⟨b', 1, none⟩ y) := by
  have k : ∀ v : World, ∀ o : Nat, ∀ z : Value, (v.setCell ⟨b', o, none⟩ z).heap[b]? = v.heap[b]? := fun v o z => Below.heap_setCell _ _ _ _ (Ne.symm hne)
  have e : ((w.setCell ⟨b', 0, none⟩ x).setCell ⟨b', 1, none⟩ y).heap[b]? = w.heap[b]? := (k _ _ _).trans (k _ _ _)
  refine ⟨?_, ?_, ?_, ?_, by simpa using h.lt⟩
  · exact (World.cell?_of_block e).trans h.c0
  · exact (World.cell?_of_block e).trans h.c1
  · exact (World.frozen?_of_block e).trans h.f0
  · exact (World.frozen?_of_block e).trans h.f1
end Go.Proofs.YtnkjadpmigpneaaGreatDoor
end

section
set_option linter.unusedSimpArgs false
set_option linter.unusedVariables false
set_option maxRecDepth 100000
namespace Go.Proofs.YtnkjadpmigpneaaGreatDoor
open Go.RowKit
def Cl (b : Nat) (l : List Value) (t : TypeId) (w : World) : Prop := w.heap[b]? = some (.cells l.toArray t (0, 0))
theorem Cl.lt {b : Nat} {l : List Value} {t : TypeId} {w : World} (h : Cl b l t w) : b < w.heap.size := (Array.getElem?_eq_some_iff.1 h).1
theorem Cl.cell {b : Nat} {l : List Value} {t : TypeId} {w : World} (h : Cl b l t w) (i : Nat) : w.cell? ⟨b, i, none⟩ = l[i]? := by
  unfold Cl at h
  simp [World.cell?, h]
theorem Cl.frozen {b : Nat} {l : List Value} {t : TypeId} {w : World} (h : Cl b l t w) (i : Nat) : w.frozen? ⟨b, i, none⟩ = false := by
  unfold Cl at h
  simp [World.frozen?, h]
theorem Cl.below {b : Nat} {l : List Value} {t : TypeId} {w w' : World} (h : Cl b l t w) (k : Below w.heap.size w w') : Cl b l t w' := (k.block b h.lt).trans h
theorem Cl.new (l : List Value) (t : TypeId) (w : World) : Cl w.heap.size l t (w.alloc (.cells l.toArray t)) := World.alloc_heap_new w _
theorem Cl.alloc {b : Nat} {l : List Value} {t : TypeId} {w : World} (h : Cl b l t w) (o : Obj) : Cl b l t (w.alloc o) := h.below (Below.alloc (Below.refl _ _) (Nat.le_refl _) _)
theorem Cl.drew {b : Nat} {l : List Value} {t : TypeId} {w : World} (h : Cl b l t w) : Cl b l t w.drew := h
theorem Cl.set {b : Nat} {l : List Value} {t : TypeId} {w : World} (h : Cl b l t w) (i : Nat) (v : Value) : Cl b (l.set i v) t (w.setCell ⟨b, i, none⟩ v) := by
  have := heap_setCell_same w b i l.toArray t v h
  unfold Cl
  rw [this]
  simp
theorem Cl.other {b : Nat} {l : List Value} {t : TypeId} {w : World} (h : Cl b l t w) {p : Addr} (hp : b ≠ p.block) (v : Value) : Cl b l t (w.setCell p v) :=
  (Below.heap_setCell w p v b hp).trans h
theorem Cl.grown {b : Nat} {l : List Value} {t : TypeId} {w w' : World} {row : Option Nat} (h : Cl b l t w) (hg : w.grownBy w' row) (hr : row ≠ some b) : Cl b l t w' :=
  (hg.block b h.lt (fun e => hr e.symm)).trans h
end Go.Proofs.YtnkjadpmigpneaaGreatDoor
end

section
set_option linter.unusedSimpArgs false
set_option linter.unusedVariables false
set_option maxRecDepth 100000
namespace Go.Proofs.YtnkjadpmigpneaaGreatDoor
open Go.RowKit LgM
def nz (l : List Nat) : List Int := l.map (fun x : Nat => (x : Int))
theorem nz_len (l : List Nat) : (nz l).length = l.length := by simp [nz]
theorem nz_append (x y : List Nat) : nz (x ++ y) = nz x ++ nz y := by simp [nz]
theorem IS.ownL {w : World} {base k : Nat} {v : Value} {l : List Int} (hk : l.length = k) (h : w.ownsRow base 3 1 v k (ints l)) : IS w v l := by
  subst hk
  obtain ⟨_, ⟨h1, h2⟩ | ⟨g, cap, cur, e1, _, e3, e4, _, e6, e7⟩⟩ := h
  · exact ⟨none, 0, 0, 0, by rw [h1, h2], fun h => by omega, fun i hi => by omega, fun h => by omega⟩
  · refine ⟨some ⟨g, 0, none⟩, g, 0, cap, e1, fun _ => rfl, fun i hi => ?_, fun _ => lt_of_some e3⟩
    have h3 : (cur.toList.take (l.length * 1))[i]? = (ints l)[i]? := by rw [e7]
    rw [List.getElem?_take, if_pos (by omega)] at h3
    simp only [World.cell?, e3, Nat.zero_add]
    rw [← Array.getElem?_toList, h3]
    simp [ints, hi, List.getD_eq_getElem?_getD]
theorem IS.belowL {w w' : World} {s : Value} {xs : List Int} (h : IS w s xs) (k : Below w.heap.size w w') : IS w' s xs := by
  obtain ⟨a, g, o, c, e, p, cell, lt⟩ := h.shape
  refine ⟨a, g, o, c, e, p, fun i hi => ?_, fun hp => Nat.lt_of_lt_of_le (lt hp) k.size⟩
  rw [k.cell (p := ⟨g, o + i, none⟩) (lt (by omega))]; exact cell i hi
theorem IS.nilL (w : World) : IS w (.slice none 0 0) [] := ⟨none, 0, 0, 0, rfl, fun h => by simp at h, fun i hi => by simp at hi, fun h => by simp at h⟩
def TyB (w : World) (b : Nat) : Prop := ∃ arr fr, w.heap[b]? = some (.cells arr 3 fr)
theorem TyB.below {w w' : World} {b : Nat} (h : TyB w b) (k : Below w.heap.size w w') : TyB w' b := by
  obtain ⟨arr, fr, h⟩ := h
  exact ⟨arr, fr, (k.block b (lt_of_some h)).trans h⟩
theorem TyB.set {w : World} {b : Nat} (h : TyB w b) (p : Addr) (v : Value) : TyB (w.setCell p v) b := by
  obtain ⟨arr, fr, h⟩ := h
  by_cases e : b = p.block
  · subst e
    refine ⟨if p.spot.isSome = true then arr else arr.setIfInBounds p.off v, fr, ?_⟩
    simp only [World.setCell, Array.getElem?_modify]
    rw [h]
    simp
  · exact ⟨arr, fr, (Below.heap_setCell w p v b e).trans h⟩
def TyI (w : World) (v : Value) : Prop := ∀ a k c, v = .slice (some a) k c → 0 < k → TyB w a.block
theorem TyI.below {w w' : World} {v : Value} (h : TyI w v) (k : Below w.heap.size w w') : TyI w' v := fun a l c e hl => (h a l c e hl).below k
theorem TyI.set {w : World} {v : Value} (h : TyI w v) (p : Addr) (u : Value) : TyI (w.setCell p u) v := fun a l c e hl => (h a l c e hl).set p u
theorem TyI.ownL {w : World} {base k : Nat} {v : Value} {xs : List Value} (h : w.ownsRow base 3 1 v k xs) : TyI w v := by
  intro a l c e hl
  obtain ⟨_, ⟨h1, _⟩ | ⟨g, cap, cur, e1, _, e3, _⟩⟩ := h
  · rw [h1] at e; simp at e
  · rw [e1] at e
    simp only [Value.slice.injEq, Option.some.injEq] at e
    obtain ⟨rfl, _⟩ := e
    exact ⟨cur, _, e3⟩
def LN (w : World) (v : Value) (n : Nat) : Prop := ∃ k, Nd k n ∧ IS w v (nz (dgl k n)) ∧ TyI w v
theorem LN.below {w w' : World} {v : Value} {n : Nat} (h : LN w v n) (k : Below w.heap.size w w') : LN w' v n := by
  obtain ⟨i, h1, h2, h3⟩ := h; exact ⟨i, h1, h2.belowL k, h3.below k⟩
theorem LN.zero (w : World) : LN w (.slice none 0 0) 0 := ⟨0, Nd.zero, IS.nilL w, fun a k c e => by simp at e⟩
theorem ints_snoc (l : List Nat) (x : Int) : ints (nz l) ++ [.int .i64 x] = ints (nz l ++ [x]) := by simp [ints]
theorem limb_int (q : Nat) : ((q : Int) % 1000000000) = ((q % Bs : Nat) : Int) := by rw [Int.natCast_emod]; rfl
set_option maxHeartbeats 1000000 in
theorem carried_any (B i n m : Nat) (a : Option Addr) (c : Nat) (w : World) (hrow : w.ownsRow B 3 1 (.slice a i c) i (ints (nz (dgl i n)))) (hB : B ≤ w.heap.size) (hq : n / Bs ^ i ≤ 9000000000000000000) (hm : n < Bs ^ m) (him : i ≤ m) (hm2 : m ≤ 1000000000) :
    Calls Tryz.prog 111 #[.slice a i c, .int .i64 ((n / Bs ^ i : Nat) : Int)] w fun e w' => ∃ k a' c', e = .returned (.slice a' k c') ∧ (n < Bs ^ k ∧ (k = i ∨ Bs ^ (k - 1) ≤ n)) ∧ w'.ownsRow B 3 1 (.slice a' k c') k (ints (nz (dgl k n))) ∧ Below B w w' := by
  obtain ⟨i0, hi, hz0, hz1, hz2⟩ := info_parts Tryz.infoInt
  have HI : Hid (Tryz.prog.info? 3 = some i0 ∧ i0.zero = some (.int .i64 0) ∧ i0.size = 1 ∧ i0.bytes = 8) := ⟨hi, hz0, hz1, hz2⟩
  clear hi hz0 hz1 hz2
  have HR0 : Hid (w.ownsRow B 3 1 (.slice a i c) i (ints (nz (dgl i n)))) := hrow
  clear hrow
  obtain ⟨q, hqe⟩ : ∃ q, q = n / Bs ^ i := ⟨_, rfl⟩
  have HQ : Hid (q = n / Bs ^ i) := hqe
  have HM : Hid (n < Bs ^ m) := hm
  rw [← hqe] at hq ⊢
  clear hqe hm
  go_enter Tryz.func111, Tryz.ntmps111
  go_wp2
  go_loopw [0, 1] (fun lv cv wx => ∃ (k q : Nat) (a' : Option Addr) (c' : Nat), lv = .slice a' k c' ∧ cv = .int .i64 (q : Int) ∧ q ≤ 9000000000000000000 ∧ k ≤ m ∧ Hid ((q = n / Bs ^ k ∧ (k = i ∨ Bs ^ (k - 1) ≤ n)) ∧ wx.ownsRow B 3 1 (.slice a' k c') k (ints (nz (dgl k n))) ∧ Below B w wx)) (fun _ cv _ => (intOf cv).toNat)
  case atStart => exact ⟨i, q, a, c, rfl, rfl, hq, him, ⟨HQ.out, .inl rfl⟩, HR0.out, Below.refl _ _⟩
  case round =>
    clear HQ HR0 him hq
    obtain ⟨k, q, a', c', rfl, rfl, hq, hkm, HR⟩ := hrel
    by_cases h0 : q = 0
    · subst h0
      go_wp2
      go_ret
      obtain ⟨⟨e1, e2⟩, e3, e4⟩ := HR.out
      refine ⟨k, a', c', rfl, ⟨?_, e2⟩, e3, e4⟩
      rcases Nat.lt_or_ge n (Bs ^ k) with h | h
      · exact h
      · have := Nat.div_pos h (bs_pos k); omega
    · have hge : Bs ^ k ≤ n := by
        have := HR.out.1.1
        rcases Nat.lt_or_ge n (Bs ^ k) with h | h
        · rw [Nat.div_eq_of_lt h] at this; omega
        · exact h
      have hkm2 : k < m := by
        rcases Nat.lt_or_ge k m with h | h
        · exact h
        · have := Nat.pow_le_pow_right (show 0 < Bs by decide) h; have := HM.out; omega
      have HGE : Hid (Bs ^ k ≤ n) := hge
      have hpos : decide ((0 : Int) < (q : Int)) = true := decide_eq_true (by omega)
      have hwz := HR.out.2.2.size
      clear hge
      go_wp2_with (at_builtin; refine wpList_append_own _ rfl _ _ 62 rfl B 3 i0 (.int .i64 0) 1 8 Tryz.underlying62 HI.out.1 HI.out.2.1 HI.out.2.2.1 HI.out.2.2.2 rfl (by decide) (.slice a' k c') k (ints (nz (dgl k n))) rfl (HR.out.2.1.alloc _) ⟨wr.heap.size, 0, none⟩ 1 1 [.int .i64 ((q : Int) % 1000000000)] rfl rfl (cell_one_new _ _ _) (by simp [Value.oneCell']) (by simp only [maxLen]; omega) (by omega) (by simp; omega) ?_; intro v' w1 hown' hgrow _; obtain ⟨g', cap', rfl⟩ := ownsRow_succ hown')
      have HN : Hid (w1.ownsRow B 3 1 (.slice (some ⟨g', 0, none⟩) (k + 1) cap') (k + 1) (ints (nz (dgl (k + 1) n))) ∧ Below B w w1) := by
        refine ⟨?_, ((HR.out.2.2.alloc (by omega) _).grown hgrow (by simp; omega) (fun g e => (HR.out.2.1.lt g e).1))⟩
        rw [dgl_succ, nz_append]
        have e : nz [n / Bs ^ k % Bs] = [(q : Int) % 1000000000] := by rw [← HR.out.1.1, limb_int]; rfl
        rw [e, ← ints_snoc]
        exact hown'
      clear hown' hgrow
      go_roundw
      case rel =>
        refine ⟨k + 1, q / 1000000000, _, _, rfl, by go_num, by omega, by omega, ⟨?_, .inr ?_⟩, HN.out⟩
        · rw [div_s, ← HR.out.1.1]
        · exact HGE.out
      case measure => simp [intOf]; omega
end Go.Proofs.YtnkjadpmigpneaaGreatDoor
end
