import Derived.Test.YtogdggdaaiajnadGreatDoorEtD
import Derived.Maps.AppendAt
import Derived.Test.YtogdggdaaiajnadGreatDoorWholeE
import Derived.Test.YtogdggdaaiajnadGreatDoorRsD
import Derived.Laws.EntriesVeiled
section
/- joined at the example (-3 by 3): one choice of the one family. Made of RtE. -/
set_option linter.unusedSimpArgs false
set_option linter.unusedVariables false
set_option maxRecDepth 100000
namespace Go.Proofs.YtogdggdaaiajnadGreatDoor.R3
open Go.RowKit

/-- Where joined's variables and the families lie. -/
structure Jx where
  bF : Nat
  bL : Nat
  bC : Nat
  gf : Nat
  g1 : Nat
  g2 : Nat
  cf : Nat
  B : Nat

def Jx.clo (j : Jx) : Value := .func (.func 136) #[] #[.pointer (some ⟨j.bF, 0, none⟩), .pointer (some ⟨j.bL, 0, none⟩), .pointer (some ⟨j.bC, 0, none⟩)]

/-- joined's variables: the list holds xs. -/
structure JS (j : Jx) (xs : List Int) (a : Option Addr) (c : Nat) (W : World) : Prop where
  F : Cl j.bF [.slice (some ⟨j.gf, 0, none⟩) 1 j.cf] 120 W
  C : Cl j.bC [j.clo] 137 W
  L : Cl j.bL [.slice a xs.length c] 88 W
  row : W.ownsRow j.B 3 1 (.slice a xs.length c) xs.length (ints xs)
  fam : ∀ k v, (fam1 j.g2 3)[k]? = some v → W.cell? ⟨j.gf, k, none⟩ = some v
  c1 : Cl j.g1 [.int .i64 0] 3 W
  c2 : Cl j.g2 [.int .i64 0] 3 W
  lt : j.bF < j.B ∧ j.bL < j.B ∧ j.bC < j.B ∧ j.gf < j.B ∧ j.g1 < j.B ∧ j.g2 < j.B ∧ j.B ≤ W.heap.size ∧ 1 ≤ j.cf
  ne : j.bF ≠ j.bL ∧ j.bC ≠ j.bL ∧ j.gf ≠ j.bL ∧ j.g1 ≠ j.bL ∧ j.g2 ≠ j.bL

/-- A block that the list's variable and its row do not touch. -/
def Loc (j : Jx) (a : Option Addr) (k : Nat) : Prop := k ≠ j.bL ∧ ∀ ad, a = some ad → k ≠ ad.block
/-- From one world to a later one: all is as it was but the list. -/
structure Fr (j : Jx) (a : Option Addr) (W : World) (a' : Option Addr) (W' : World) : Prop where
  size : W.heap.size ≤ W'.heap.size
  block : ∀ k, k < W.heap.size → Loc j a k → W'.heap[k]? = W.heap[k]?
  loc : ∀ k, k < W.heap.size → Loc j a k → Loc j a' k
  os : W'.os = W.os
  tape : W'.tape = W.tape
  output : W'.output = W.output
theorem Fr.refl (j : Jx) (a : Option Addr) (W : World) : Fr j a W a W := ⟨Nat.le_refl _, fun _ _ _ => rfl, fun _ _ h => h, rfl, rfl, rfl⟩
theorem Fr.trans {j : Jx} {a a' a'' : Option Addr} {W W' W'' : World} (h : Fr j a W a' W') (k : Fr j a' W' a'' W'') : Fr j a W a'' W'' :=
  ⟨Nat.le_trans h.size k.size, fun i h1 h2 => (k.block i (Nat.lt_of_lt_of_le h1 h.size) (h.loc i h1 h2)).trans (h.block i h1 h2), fun i h1 h2 => k.loc i (Nat.lt_of_lt_of_le h1 h.size) (h.loc i h1 h2), k.os.trans h.os, k.tape.trans h.tape, k.output.trans h.output⟩
theorem Fr.below {j : Jx} (a : Option Addr) {W W' : World} (k : Below W.heap.size W W') : Fr j a W a W' := ⟨k.size, fun i h1 _ => k.block i h1, fun _ _ h => h, k.os, k.tape, k.output⟩
theorem Fr.cl {j : Jx} {a a' : Option Addr} {W W' : World} (h : Fr j a W a' W') {b : Nat} {l : List Value} {t : TypeId} (hc : Cl b l t W) (hl : Loc j a b) : Cl b l t W' := (h.block b hc.lt hl).trans hc
theorem JS.row_lt {j : Jx} {xs : List Int} {a : Option Addr} {c : Nat} {W : World} (h : JS j xs a c W) : ∀ ad, a = some ad → j.B ≤ ad.block ∧ ad.block < W.heap.size := fun ad e => h.row.lt ad.block (by rw [e]; rfl)
theorem JS.loc {j : Jx} {xs : List Int} {a : Option Addr} {c : Nat} {W : World} (h : JS j xs a c W) {k : Nat} (hk : W.heap.size ≤ k) : Loc j a k :=
  ⟨by have := h.lt; omega, fun ad e => by have := h.row_lt ad e; omega⟩
theorem JS.below {j : Jx} {xs : List Int} {a : Option Addr} {c : Nat} {W W' : World} (h : JS j xs a c W) (k : Below W.heap.size W W') : JS j xs a c W' :=
  ⟨h.F.below k, h.C.below k, h.L.below k, row_kept h.row (fun g e => k.block g (h.row.lt g e).2), fun i v hv => (k.cell (p := ⟨j.gf, i, none⟩) (by have := h.lt; show j.gf < _; omega)).trans (h.fam i v hv), h.c1.below k, h.c2.below k,
    by have := h.lt; have := k.size; omega, h.ne⟩

theorem JS.own_ne {j : Jx} {xs : List Int} {a : Option Addr} {c : Nat} {W : World} (h : JS j xs a c W) {k : Nat} (hk : k < j.B) (n : Nat) : (Value.slice a n c).ownBlock ≠ some k := by
  cases a with
  | none => simp [Value.ownBlock]
  | some ad =>
    intro e
    simp only [Value.ownBlock, Option.some.injEq] at e
    have := h.row_lt ad rfl
    omega
/-- One number more in the list. -/
theorem JS.more {j : Jx} {xs : List Int} {a : Option Addr} {c : Nat} {W W1 : World} (h : JS j xs a c W) {g' cap' : Nat} {r : Int} (hg : W.grownBy W1 (Value.slice a xs.length c).ownBlock)
    (ho : W1.ownsRow j.B 3 1 (.slice (some ⟨g', 0, none⟩) (xs.length + 1) cap') (xs.length + 1) (ints xs ++ [.int .i64 r])) :
    JS j (xs ++ [r]) (some ⟨g', 0, none⟩) cap' (W1.setCell ⟨j.bL, 0, none⟩ (.slice (some ⟨g', 0, none⟩) (xs.length + 1) cap')) := by
  obtain ⟨z1, z2, z3, z4, z5, z6, z7, z8⟩ := h.lt
  obtain ⟨n1, n2, n3, n4, n5⟩ := h.ne
  refine ⟨(h.F.grown hg (h.own_ne z1 _)).other n1 _, (h.C.grown hg (h.own_ne z3 _)).other n2 _, ?_, ?_, ?_, (h.c1.grown hg (h.own_ne z5 _)).other n4 _, (h.c2.grown hg (h.own_ne z6 _)).other n5 _, ?_, h.ne⟩
  · have := (h.L.grown hg (h.own_ne z2 _)).set 0 (.slice (some ⟨g', 0, none⟩) (xs.length + 1) cap')
    rw [List.length_append]
    exact this
  · have := ownsRow_setCell_below ho (a := ⟨j.bL, 0, none⟩) z2 (.slice (some ⟨g', 0, none⟩) (xs.length + 1) cap')
    rw [List.length_append, show ints (xs ++ [r]) = ints xs ++ [.int .i64 r] by simp [ints]]
    exact this
  · intro k v hv
    have hlt : j.gf < W.heap.size := by omega
    rw [World.cell?_of_block (Below.heap_setCell W1 ⟨j.bL, 0, none⟩ _ j.gf n3), World.cell?_of_block (hg.block j.gf hlt (fun e => h.own_ne z4 _ e.symm))]
    exact h.fam k v hv
  · have := hg.size
    simp [World.setCell]
    omega

/-- What a choice from some place on adds to the list. -/
def Ch (N : Nat) (j : Jx) (place rest mod : Int) (out : List Int) : Prop :=
  ∀ (W : World) (xs : List Int) (a : Option Addr) (c : Nat), JS j xs a c W → xs.length ≤ N →
    Calls Tryz.prog 136 #[.int .i64 place, .int .i64 rest, .int .i64 mod, .pointer (some ⟨j.bF, 0, none⟩), .pointer (some ⟨j.bL, 0, none⟩), .pointer (some ⟨j.bC, 0, none⟩)] W
      fun e W' => (∃ v, e = .returned v) ∧ ∃ a' c', JS j (xs ++ out) a' c' W' ∧ Fr j a W a' W'

theorem cells_at (l : List Value) (t : TypeId) (w : World) (k : Nat) (hk : k = w.heap.size) : ∀ j u, l[j]? = some u → (w.alloc (.cells l.toArray t)).cell? ((⟨k, 0, none⟩ : Addr).add j) = some u := by
  subst hk; exact cells_new l t w

set_option maxHeartbeats 1000000 in
theorem ch_two (j : Jx) (rest mod : Int) : Ch 10 j 1 rest mod [rest] := by
  intro W xs a c HJ hx
  obtain ⟨i0, hi, hz0, hz1, hz2⟩ := info_parts Tryz.infoInt
  have HI : Hid (Tryz.prog.info? 3 = some i0 ∧ i0.zero = some (.int .i64 0) ∧ i0.size = 1 ∧ i0.bytes = 8) := ⟨hi, hz0, hz1, hz2⟩
  clear hi hz0 hz1 hz2
  have hJ : Hid (JS j xs a c W) := HJ
  have f0 : ∀ x y z : Obj, (((W.alloc x).alloc y).alloc z).cell? ⟨j.bF, 0, none⟩ = some (.slice (some ⟨j.gf, 0, none⟩) 1 j.cf) := fun x y z => (((HJ.F.alloc x).alloc y).alloc z).cell 0
  have l0 : ∀ x y z : Obj, (((W.alloc x).alloc y).alloc z).cell? ⟨j.bL, 0, none⟩ = some (.slice a xs.length c) := fun x y z => (((HJ.L.alloc x).alloc y).alloc z).cell 0
  have zF := HJ.F.lt
  have zL := HJ.L.lt
  have zB := HJ.lt
  have hJ3 : Hid (∀ x y z u : Obj, JS j xs a c ((((W.alloc x).alloc y).alloc z).alloc u)) := fun x y z u => HJ.below (((((Below.refl _ _).alloc (Nat.le_refl _) x).alloc (by simp) y).alloc (by simp; omega) z).alloc (by simp; omega) u)
  clear HJ
  go_enter Tryz.func136, Tryz.ntmps136
  go_wp2_with (at_builtin; refine wpList_append_own_at _ rfl _ _ 88 rfl j.B 3 i0 (.int .i64 0) 1 8 Tryz.underlying88 HI.out.1 HI.out.2.1 HI.out.2.2.1 HI.out.2.2.2 rfl (by decide) (.slice a xs.length c) xs.length (ints xs) rfl (hJ3.out _ _ _ _).row ⟨W.heap.size + 1 + 1 + 1, 0, none⟩ 1 1 [.int .i64 rest] rfl rfl (cells_at [.int .i64 rest] 3 _ _ (by simp)) (by simp [Value.oneCell']) (by simp only [maxLen]; omega) (by omega) (by simp; omega) ?_; intro v' w1 hown' hgrow _ hob; obtain ⟨g', cap', rfl⟩ := ownsRow_succ hown'; have q0 : w1.cell? ⟨j.bL, 0, none⟩ = some (.slice a xs.length c) := ((hJ3.out _ _ _ _).L.grown hgrow ((hJ3.out (.cells #[] 0) (.cells #[] 0) (.cells #[] 0) (.cells #[] 0)).own_ne zB.2.1 _)).cell 0; have q1 : w1.frozen? ⟨j.bL, 0, none⟩ = false := ((hJ3.out _ _ _ _).L.grown hgrow ((hJ3.out (.cells #[] 0) (.cells #[] 0) (.cells #[] 0) (.cells #[] 0)).own_ne zB.2.1 _)).frozen 0)
  have HR : Hid (JS j (xs ++ [rest]) (some ⟨g', 0, none⟩) cap' (w1.setCell ⟨j.bL, 0, none⟩ (.slice (some ⟨g', 0, none⟩) (xs.length + 1) cap')) ∧ Fr j a W (some ⟨g', 0, none⟩) (w1.setCell ⟨j.bL, 0, none⟩ (.slice (some ⟨g', 0, none⟩) (xs.length + 1) cap'))) := by
    refine ⟨(hJ3.out _ _ _ _).more hgrow hown', ?_, ?_, ?_, hgrow.os, hgrow.tape, hgrow.output⟩
    · have := hgrow.size
      simp [World.setCell] at this ⊢
      omega
    · intro k hk hl
      refine (Below.heap_setCell w1 ⟨j.bL, 0, none⟩ _ k hl.1).trans ((hgrow.block k (by simp; omega) ?_).trans ?_)
      · intro e
        cases a with
        | none => simp [Value.ownBlock] at e
        | some ad => simp only [Value.ownBlock, Option.some.injEq] at e; exact hl.2 ad rfl e
      · exact ((((Below.refl W.heap.size W).alloc (Nat.le_refl _) _).alloc (by simp) _).alloc (by simp; omega) _ |>.alloc (by simp; omega) _).block k hk
    · intro k hk hl
      refine ⟨hl.1, ?_⟩
      intro ad e
      cases e
      show k ≠ g'
      rintro rfl
      rcases hob with h | h
      · cases a with
        | none => simp [Value.ownBlock] at h
        | some ad => simp only [Value.ownBlock, Option.some.injEq] at h; exact hl.2 ad rfl h
      · simp [Value.ownBlock] at h; omega
  clear hown' hgrow hob q0 q1
  exact bodyPost_ret (results_none rfl _ _ _) rfl ⟨⟨_, rfl⟩, _, _, HR.out⟩

end Go.Proofs.YtogdggdaaiajnadGreatDoor.R3
end

section
/- The contract of Join, and the document's examples. -/
set_option linter.unusedSimpArgs false
set_option linter.unusedVariables false
set_option maxRecDepth 100000
namespace Go.Proofs.YtogdggdaaiajnadGreatDoor
open Go.RowKit

/-- What one place comes to, as three numbers. -/
structure JOne (r m : Nat) (a b : Int) (R M c : Int) : Prop where
  cases : (c = 3 ∧ R = 0 ∧ M = 0 ∧ (numB a = false ∨ b < 1 ∨ 1000000000000000000 < b)) ∨
    (numB a = true ∧ ∃ n : Nat, b = (n : Int) ∧ 1 ≤ n ∧ (n : Int) ≤ 1000000000000000000 ∧
      ((c = 5 ∧ R = 0 ∧ M = 0 ∧ ¬ (Nat.gcd m n : Int) ∣ a - (r : Int)) ∨
       (c = 9 ∧ R = 0 ∧ M = 0 ∧ (Nat.gcd m n : Int) ∣ a - (r : Int) ∧ 1000000000000000000 < m * (n / Nat.gcd m n)) ∨
       (c = 0 ∧ ∃ R' : Nat, R = R' ∧ M = ((m * (n / Nat.gcd m n) : Nat) : Int) ∧ m * (n / Nat.gcd m n) ≤ 1000000000000000000 ∧ R' < m * (n / Nat.gcd m n) ∧ (m : Int) ∣ (R' : Int) - (r : Int) ∧ (n : Int) ∣ (R' : Int) - a ∧ (Nat.gcd m n : Int) ∣ a - (r : Int))))

theorem crt_unique {m n R R' : Nat} {r a : Int} (h1 : R < Nat.lcm m n) (h2 : R' < Nat.lcm m n) (d1 : (m : Int) ∣ (R : Int) - r) (d2 : (n : Int) ∣ (R : Int) - a) (e1 : (m : Int) ∣ (R' : Int) - r) (e2 : (n : Int) ∣ (R' : Int) - a) : R = R' := by
  have f1 : (m : Int) ∣ (R : Int) - (R' : Int) := by
    have : (R : Int) - (R' : Int) = ((R : Int) - r) - ((R' : Int) - r) := by omega
    rw [this]; exact Int.dvd_sub d1 e1
  have f2 : (n : Int) ∣ (R : Int) - (R' : Int) := by
    have : (R : Int) - (R' : Int) = ((R : Int) - a) - ((R' : Int) - a) := by omega
    rw [this]; exact Int.dvd_sub d2 e2
  rw [Int.ofNat_dvd_left] at f1 f2
  have f3 := Nat.lcm_dvd f1 f2
  have f4 := Nat.eq_zero_of_dvd_of_lt f3 (by omega)
  omega

/-- One place: the same three numbers in whatever world. -/
theorem joinOne_val (r m : Nat) (a b : Int) (hr : r < m) (hm : (m : Int) ≤ 1000000000000000000) :
    ∃ R M c : Int, JOne r m a b R M c ∧ ∀ w, Calls Tryz.prog 163 #[.int .i64 r, .int .i64 m, .int .i64 a, .int .i64 b] w fun e w' => e = .returned (.tuple #[.int .i64 R, .int .i64 M, .int .i64 c]) ∧ ∃ q, w' = w.drewN q := by
  by_cases hbad : numB a = false ∨ b < 1 ∨ 1000000000000000000 < b
  · exact ⟨0, 0, 3, ⟨Or.inl ⟨rfl, rfl, rfl, hbad⟩⟩, fun w => (joinOne_range r m a b w hbad).mono fun e w' h => ⟨h.1, 0, h.2⟩⟩
  · have ha : numB a = true := by cases h : numB a <;> simp_all
    obtain ⟨n, rfl⟩ := Int.eq_ofNat_of_zero_le (show 0 ≤ b by omega)
    have h1 : 1 ≤ n := by omega
    have h2 : (n : Int) ≤ 1000000000000000000 := by omega
    by_cases hd : (Nat.gcd m n : Int) ∣ a - (r : Int)
    · by_cases hk : 1000000000000000000 < m * (n / Nat.gcd m n)
      · refine ⟨0, 0, 9, ⟨Or.inr ⟨ha, n, rfl, h1, h2, Or.inr (Or.inl ⟨rfl, rfl, rfl, hd, hk⟩)⟩⟩, fun w => (joinOne_any r m n a w hr hm h1 h2 ha).mono fun e w' h => ?_⟩
        obtain ⟨hw, h | h | h⟩ := h
        · exact absurd hd h.1
        · exact ⟨h.2.2, hw⟩
        · omega
      · have hex := MathC.crt_exists r m n a hr h1 hd
        · obtain ⟨R', p1, p2, p3⟩ := hex
          refine ⟨R', ((m * (n / Nat.gcd m n) : Nat) : Int), 0, ⟨Or.inr ⟨ha, n, rfl, h1, h2, Or.inr (Or.inr ⟨rfl, R', rfl, rfl, by omega, p1, p2, p3, hd⟩)⟩⟩, fun w => (joinOne_any r m n a w hr hm h1 h2 ha).mono fun e w' h => ?_⟩
          obtain ⟨hw, h | h | h⟩ := h
          · exact absurd hd h.1
          · omega
          · obtain ⟨_, _, R, rfl, q1, q2, q3⟩ := h
            rw [← MathC.lcm_mul] at p1 q1
            obtain rfl := crt_unique q1 p1 q2 q3 p2 p3
            exact ⟨rfl, hw⟩
    · refine ⟨0, 0, 5, ⟨Or.inr ⟨ha, n, rfl, h1, h2, Or.inl ⟨rfl, rfl, rfl, hd⟩⟩⟩, fun w => (joinOne_any r m n a w hr hm h1 h2 ha).mono fun e w' h => ?_⟩
      obtain ⟨hw, h | h | h⟩ := h
      · exact ⟨h.2, hw⟩
      · exact absurd h.1 hd
      · exact absurd h.1 hd

/-- The slice s holds the numbers xs. -/
structure IS (w : World) (s : Value) (xs : List Int) : Prop where
  shape : ∃ (aa : Option Addr) (g o cap : Nat), s = .slice aa xs.length cap ∧ (0 < xs.length → aa = some ⟨g, o, none⟩) ∧ (∀ i, i < xs.length → w.cell? ⟨g, o + i, none⟩ = some (.int .i64 (xs.getD i 0))) ∧ (0 < xs.length → g < w.heap.size)

/-- What Join comes to. -/
structure JOut (rs ms : List Int) (R M c at' : Int) : Prop where
  cases : ((1000 < rs.length ∨ 1000 < ms.length) ∧ R = 0 ∧ M = 0 ∧ c = 2 ∧ at' = 0) ∨
    (rs.length ≤ 1000 ∧ ms.length ≤ 1000 ∧ rs.length ≠ ms.length ∧ R = 0 ∧ M = 0 ∧ c = 8 ∧ at' = 0) ∨
    (rs.length ≤ 1000 ∧ rs.length = ms.length ∧ ∃ (k r m : Nat) (R' M' : Int), k < rs.length ∧ MathC.JSt rs ms k r m ∧ at' = k ∧ R = 0 ∧ M = 0 ∧ c ≠ 0 ∧ JOne r m (rs.getD k 0) (ms.getD k 0) R' M' c) ∨
    (rs.length ≤ 1000 ∧ rs.length = ms.length ∧ ∃ r m : Nat, MathC.JSt rs ms rs.length r m ∧ R = r ∧ M = m ∧ c = 0 ∧ at' = 0)

theorem jst_of_one {rs ms : List Int} {k r m : Nat} {R M c : Int} (h : MathC.JSt rs ms k r m) (h1 : JOne r m (rs.getD k 0) (ms.getD k 0) R M c) (hc : c = 0) :
    ∃ r' m' : Nat, R = r' ∧ M = m' ∧ MathC.JSt rs ms (k + 1) r' m' := by
  subst hc
  rcases h1.cases with h2 | ⟨ha, n, hn, n1, n2, h2 | h2 | ⟨_, R', rfl, rfl, p1, p2, p3, p4, p5⟩⟩
  · omega
  · omega
  · omega
  · obtain ⟨a1, a2⟩ := numB_true ha
    exact ⟨R', m * (n / Nat.gcd m n), rfl, rfl, MathC.jst_next h n hn n1 n2 a1 a2 (by omega) p2 p3 p4⟩

set_option maxHeartbeats 2000000 in
theorem Join_any (s t : Value) (rs ms : List Int) (w : World) (hs : IS w s rs) (ht : IS w t ms) (hl1 : rs.length ≤ 9000000000000000000) (hl2 : ms.length ≤ 9000000000000000000) :
    Calls Tryz.prog 140 #[s, t] w fun e w' => ∃ R M c at' : Int, e = .returned (.tuple #[.int .i64 R, .int .i64 M, .agg #[.int .i64 c, .int .i64 at']]) ∧ JOut rs ms R M c at' ∧ Below w.heap.size w w' := by
  obtain ⟨a1, g1, o1, c1, rfl, p1, cell1, lt1⟩ := hs.shape
  obtain ⟨a2, g2, o2, c2, rfl, p2, cell2, lt2⟩ := ht.shape
  clear hs ht
  have P1 : Hid (0 < rs.length → a1 = some ⟨g1, o1, none⟩) := p1
  have P2 : Hid (0 < ms.length → a2 = some ⟨g2, o2, none⟩) := p2
  have C1 : Hid (∀ i, i < rs.length → w.cell? ⟨g1, o1 + i, none⟩ = some (.int .i64 (rs.getD i 0))) := cell1
  have C2 : Hid (∀ i, i < ms.length → w.cell? ⟨g2, o2 + i, none⟩ = some (.int .i64 (ms.getD i 0))) := cell2
  have L1 : Hid (0 < rs.length → g1 < w.heap.size) := lt1
  have L2 : Hid (0 < ms.length → g2 < w.heap.size) := lt2
  clear p1 p2 cell1 cell2 lt1 lt2
  by_cases hm : 1000 < rs.length ∨ 1000 < ms.length
  · have HO : Hid (JOut rs ms 0 0 2 0) := ⟨Or.inl ⟨hm, rfl, rfl, rfl, rfl⟩⟩
    by_cases hm1 : 1000 < rs.length
    · clear hm
      go_enter Tryz.func140, Tryz.ntmps140
      go_wp2
      exact bodyPost_ret (v := .tuple #[.int .i64 0, .int .i64 0, .agg #[.int .i64 2, .int .i64 0]]) (by simp [results, Tryz.results140, go_sem]) rfl ⟨0, 0, 2, 0, rfl, HO.out, Below.alloc (Below.refl _ _) (Nat.le_refl _) _⟩
    · have hm2 : 1000 < ms.length := by omega
      clear hm
      go_enter Tryz.func140, Tryz.ntmps140
      go_wp2
      exact bodyPost_ret (v := .tuple #[.int .i64 0, .int .i64 0, .agg #[.int .i64 2, .int .i64 0]]) (by simp [results, Tryz.results140, go_sem]) rfl ⟨0, 0, 2, 0, rfl, HO.out, Below.alloc (Below.refl _ _) (Nat.le_refl _) _⟩
  · have b1 : rs.length ≤ 1000 := by omega
    have b2 : ms.length ≤ 1000 := by omega
    clear hm hl1 hl2
    by_cases he : rs.length = ms.length
    · have t1 : ((rs.length : Int) != (ms.length : Int)) = false := by simp; omega
      have HE : Hid (rs.length = ms.length) := he
      have he1 : rs.length ≤ ms.length := by omega
      have he2 : ms.length ≤ rs.length := by omega
      clear he
      go_enter Tryz.func140, Tryz.ntmps140
      go_wp2
      go_loopw [4, 5, 26] (fun x y i wr => ∃ k r m : Nat, k ≤ rs.length ∧ i = .int .i64 k ∧ x = .int .i64 r ∧ y = .int .i64 m ∧ MathC.JSt rs ms k r m ∧ ∃ q, wr = (w.alloc (.cells #[.int .i64 0, .int .i64 0] 28)).drewN q) (fun _ _ i _ => rs.length - (intOf i).toNat)
      case atStart => exact ⟨0, 0, 1, Nat.zero_le _, rfl, rfl, rfl, MathC.jst_start rs ms, 0, rfl⟩
      case round =>
        obtain ⟨k, r, m, hk, rfl, rfl, rfl, hj, hw⟩ := hrel
        have HJ : Hid (MathC.JSt rs ms k r m) := hj
        have HW : Hid (∃ q, wr = (w.alloc (.cells #[.int .i64 0, .int .i64 0] 28)).drewN q) := hw
        have hsz : w.heap.size < wr.heap.size := by obtain ⟨q, e⟩ := hw; rw [e]; simp
        have f0 : wr.cell? ⟨w.heap.size, 0, none⟩ = some (.int .i64 0) := by obtain ⟨q, e⟩ := hw; rw [e]; simp
        have f1 : wr.cell? ⟨w.heap.size, 1, none⟩ = some (.int .i64 0) := by obtain ⟨q, e⟩ := hw; rw [e]; simp
        have f2 : wr.frozen? ⟨w.heap.size, 0, none⟩ = false := by obtain ⟨q, e⟩ := hw; rw [e]; simp
        have f3 : wr.frozen? ⟨w.heap.size, 1, none⟩ = false := by obtain ⟨q, e⟩ := hw; rw [e]; simp
        have HB : Hid (Below w.heap.size w wr) := by obtain ⟨q, e⟩ := hw; show Below _ _ _; rw [e]; exact below_drewN' (Below.alloc (Below.refl _ _) (Nat.le_refl _) _)
        have hrm := hj.hi
        have hcap := hj.cap
        clear hj hw
        by_cases hlt : k < rs.length
        · obtain rfl := P1.out (by omega)
          obtain rfl := P2.out (by omega)
          have q1 : wr.cell? ⟨g1, o1 + k, none⟩ = some (.int .i64 (rs.getD k 0)) := (HB.out.cell (p := ⟨g1, o1 + k, none⟩) (L1.out (by omega))).trans (C1.out k hlt)
          have q2 : wr.cell? ⟨g2, o2 + k, none⟩ = some (.int .i64 (ms.getD k 0)) := (HB.out.cell (p := ⟨g2, o2 + k, none⟩) (L2.out (by omega))).trans (C2.out k (by omega))
          obtain ⟨R, M, c, hone, hcalls⟩ := joinOne_val r m (rs.getD k 0) (ms.getD k 0) hrm hcap
          obtain ⟨x, hx⟩ : ∃ x, x = rs.getD k 0 := ⟨_, rfl⟩
          obtain ⟨y, hy⟩ : ∃ y, y = ms.getD k 0 := ⟨_, rfl⟩
          rw [← hx] at q1 hcalls
          rw [← hy] at q2 hcalls
          have HONE : Hid (JOne r m (rs.getD k 0) (ms.getD k 0) R M c) := hone
          have HC : Hid (∀ w, Calls Tryz.prog 163 #[.int .i64 r, .int .i64 m, .int .i64 x, .int .i64 y] w fun e w' => e = .returned (.tuple #[.int .i64 R, .int .i64 M, .int .i64 c]) ∧ ∃ q, w' = w.drewN q) := hcalls
          clear hone hcalls hx hy
          by_cases hc : c = 0
          · have t5 : (c != 0) = false := by simp [hc]
            have HN := jst_of_one HJ.out HONE.out hc
            have HNN : Hid (∃ r' m' : Nat, R = r' ∧ M = m' ∧ MathC.JSt rs ms (k + 1) r' m') := HN
            clear HN hc
            go_wp2
            go_quiet ((go_at_call 163; exact Calls.quiet_of (HC.out _)))
            go_wp2
            go_roundw
            case rel =>
              obtain ⟨r', m', rfl, rfl, h3⟩ := HNN.out
              refine ⟨k + 1, r', m', by omega, by go_num, rfl, rfl, h3, ?_⟩
              obtain ⟨q, rfl⟩ := HW.out
              exact ⟨_, World.drewN_drewN ..⟩
            case measure => simp [intOf]; omega
          · have t5 : (c != 0) = true := by simp [hc]
            have HO : Hid (JOut rs ms 0 0 c k) := ⟨Or.inr (Or.inr (Or.inl ⟨b1, HE.out, k, r, m, R, M, hlt, HJ.out, rfl, rfl, rfl, hc, HONE.out⟩))⟩
            clear hc
            go_wp2
            go_quiet ((go_at_call 163; exact Calls.quiet_of (HC.out _)))
            go_wp2
            refine bodyPost_ret (v := .tuple #[.int .i64 0, .int .i64 0, .agg #[.int .i64 c, .int .i64 k]]) (by simp [results, Tryz.results140, go_sem, f0, f1]) rfl ⟨0, 0, c, k, rfl, HO.out, ?_⟩
            exact Below.setCell (Below.setCell (below_drewN' HB.out) (Nat.le_refl _) _) (Nat.le_refl _) _
        · obtain rfl : k = rs.length := by omega
          have HO : Hid (JOut rs ms r m 0 0) := ⟨Or.inr (Or.inr (Or.inr ⟨b1, HE.out, r, m, HJ.out, rfl, rfl, rfl, rfl⟩))⟩
          go_wp2
          refine bodyPost_ret (v := .tuple #[.int .i64 r, .int .i64 m, .agg #[.int .i64 0, .int .i64 0]]) (by simp [results, Tryz.results140, go_sem, f0, f1]) rfl ⟨r, m, 0, 0, rfl, HO.out, ?_⟩
          exact Below.setCell (Below.setCell HB.out (Nat.le_refl _) _) (Nat.le_refl _) _
    · have t1 : ((rs.length : Int) != (ms.length : Int)) = true := by rw [bne_iff_ne]; omega
      have HO : Hid (JOut rs ms 0 0 8 0) := ⟨Or.inr (Or.inl ⟨b1, b2, he, rfl, rfl, rfl, rfl⟩)⟩
      clear he
      go_enter Tryz.func140, Tryz.ntmps140
      go_wp2
      exact bodyPost_ret (v := .tuple #[.int .i64 0, .int .i64 0, .agg #[.int .i64 8, .int .i64 0]]) (by simp [results, Tryz.results140, go_sem]) rfl ⟨0, 0, 8, 0, rfl, HO.out, Below.alloc (Below.refl _ _) (Nat.le_refl _) _⟩

end Go.Proofs.YtogdggdaaiajnadGreatDoor
end

section
/- joined at the example (4 by 15): one choice of each family. -/
set_option linter.unusedSimpArgs false
set_option linter.unusedVariables false
set_option maxRecDepth 100000
namespace Go.Proofs.YtogdggdaaiajnadGreatDoor
open Go.RowKit

/-- Where joined's variables and the families lie. -/
structure Jx where
  bF : Nat
  bL : Nat
  bC : Nat
  gf : Nat
  g1 : Nat
  g2 : Nat
  cf : Nat
  B : Nat

def Jx.clo (j : Jx) : Value := .func (.func 136) #[] #[.pointer (some ⟨j.bF, 0, none⟩), .pointer (some ⟨j.bL, 0, none⟩), .pointer (some ⟨j.bC, 0, none⟩)]

/-- joined's variables: the list holds xs. -/
structure JS (j : Jx) (xs : List Int) (a : Option Addr) (c : Nat) (W : World) : Prop where
  F : Cl j.bF [.slice (some ⟨j.gf, 0, none⟩) 2 j.cf] 120 W
  C : Cl j.bC [j.clo] 137 W
  L : Cl j.bL [.slice a xs.length c] 88 W
  row : W.ownsRow j.B 3 1 (.slice a xs.length c) xs.length (ints xs)
  fam : ∀ k v, (fam j.g1 3 ++ fam j.g2 5)[k]? = some v → W.cell? ⟨j.gf, k, none⟩ = some v
  c1 : Cl j.g1 [.int .i64 1, .int .i64 2] 3 W
  c2 : Cl j.g2 [.int .i64 3, .int .i64 2] 3 W
  lt : j.bF < j.B ∧ j.bL < j.B ∧ j.bC < j.B ∧ j.gf < j.B ∧ j.g1 < j.B ∧ j.g2 < j.B ∧ j.B ≤ W.heap.size ∧ 2 ≤ j.cf
  ne : j.bF ≠ j.bL ∧ j.bC ≠ j.bL ∧ j.gf ≠ j.bL ∧ j.g1 ≠ j.bL ∧ j.g2 ≠ j.bL

/-- A block that the list's variable and its row do not touch. -/
def Loc (j : Jx) (a : Option Addr) (k : Nat) : Prop := k ≠ j.bL ∧ ∀ ad, a = some ad → k ≠ ad.block
/-- From one world to a later one: all is as it was but the list. -/
structure Fr (j : Jx) (a : Option Addr) (W : World) (a' : Option Addr) (W' : World) : Prop where
  size : W.heap.size ≤ W'.heap.size
  block : ∀ k, k < W.heap.size → Loc j a k → W'.heap[k]? = W.heap[k]?
  loc : ∀ k, k < W.heap.size → Loc j a k → Loc j a' k
  os : W'.os = W.os
  tape : W'.tape = W.tape
  output : W'.output = W.output
theorem Fr.refl (j : Jx) (a : Option Addr) (W : World) : Fr j a W a W := ⟨Nat.le_refl _, fun _ _ _ => rfl, fun _ _ h => h, rfl, rfl, rfl⟩
theorem Fr.trans {j : Jx} {a a' a'' : Option Addr} {W W' W'' : World} (h : Fr j a W a' W') (k : Fr j a' W' a'' W'') : Fr j a W a'' W'' :=
  ⟨Nat.le_trans h.size k.size, fun i h1 h2 => (k.block i (Nat.lt_of_lt_of_le h1 h.size) (h.loc i h1 h2)).trans (h.block i h1 h2), fun i h1 h2 => k.loc i (Nat.lt_of_lt_of_le h1 h.size) (h.loc i h1 h2), k.os.trans h.os, k.tape.trans h.tape, k.output.trans h.output⟩
theorem Fr.below {j : Jx} (a : Option Addr) {W W' : World} (k : Below W.heap.size W W') : Fr j a W a W' := ⟨k.size, fun i h1 _ => k.block i h1, fun _ _ h => h, k.os, k.tape, k.output⟩
theorem Fr.cl {j : Jx} {a a' : Option Addr} {W W' : World} (h : Fr j a W a' W') {b : Nat} {l : List Value} {t : TypeId} (hc : Cl b l t W) (hl : Loc j a b) : Cl b l t W' := (h.block b hc.lt hl).trans hc
theorem JS.row_lt {j : Jx} {xs : List Int} {a : Option Addr} {c : Nat} {W : World} (h : JS j xs a c W) : ∀ ad, a = some ad → j.B ≤ ad.block ∧ ad.block < W.heap.size := fun ad e => h.row.lt ad.block (by rw [e]; rfl)
theorem JS.loc {j : Jx} {xs : List Int} {a : Option Addr} {c : Nat} {W : World} (h : JS j xs a c W) {k : Nat} (hk : W.heap.size ≤ k) : Loc j a k :=
  ⟨by have := h.lt; omega, fun ad e => by have := h.row_lt ad e; omega⟩
theorem JS.below {j : Jx} {xs : List Int} {a : Option Addr} {c : Nat} {W W' : World} (h : JS j xs a c W) (k : Below W.heap.size W W') : JS j xs a c W' :=
  ⟨h.F.below k, h.C.below k, h.L.below k, row_kept h.row (fun g e => k.block g (h.row.lt g e).2), fun i v hv => (k.cell (p := ⟨j.gf, i, none⟩) (by have := h.lt; show j.gf < _; omega)).trans (h.fam i v hv), h.c1.below k, h.c2.below k,
    by have := h.lt; have := k.size; omega, h.ne⟩

theorem JS.own_ne {j : Jx} {xs : List Int} {a : Option Addr} {c : Nat} {W : World} (h : JS j xs a c W) {k : Nat} (hk : k < j.B) (n : Nat) : (Value.slice a n c).ownBlock ≠ some k := by
  cases a with
  | none => simp [Value.ownBlock]
  | some ad =>
    intro e
    simp only [Value.ownBlock, Option.some.injEq] at e
    have := h.row_lt ad rfl
    omega
/-- One number more in the list. -/
theorem JS.more {j : Jx} {xs : List Int} {a : Option Addr} {c : Nat} {W W1 : World} (h : JS j xs a c W) {g' cap' : Nat} {r : Int} (hg : W.grownBy W1 (Value.slice a xs.length c).ownBlock)
    (ho : W1.ownsRow j.B 3 1 (.slice (some ⟨g', 0, none⟩) (xs.length + 1) cap') (xs.length + 1) (ints xs ++ [.int .i64 r])) :
    JS j (xs ++ [r]) (some ⟨g', 0, none⟩) cap' (W1.setCell ⟨j.bL, 0, none⟩ (.slice (some ⟨g', 0, none⟩) (xs.length + 1) cap')) := by
  obtain ⟨z1, z2, z3, z4, z5, z6, z7, z8⟩ := h.lt
  obtain ⟨n1, n2, n3, n4, n5⟩ := h.ne
  refine ⟨(h.F.grown hg (h.own_ne z1 _)).other n1 _, (h.C.grown hg (h.own_ne z3 _)).other n2 _, ?_, ?_, ?_, (h.c1.grown hg (h.own_ne z5 _)).other n4 _, (h.c2.grown hg (h.own_ne z6 _)).other n5 _, ?_, h.ne⟩
  · have := (h.L.grown hg (h.own_ne z2 _)).set 0 (.slice (some ⟨g', 0, none⟩) (xs.length + 1) cap')
    rw [List.length_append]
    exact this
  · have := ownsRow_setCell_below ho (a := ⟨j.bL, 0, none⟩) z2 (.slice (some ⟨g', 0, none⟩) (xs.length + 1) cap')
    rw [List.length_append, show ints (xs ++ [r]) = ints xs ++ [.int .i64 r] by simp [ints]]
    exact this
  · intro k v hv
    have hlt : j.gf < W.heap.size := by omega
    rw [World.cell?_of_block (Below.heap_setCell W1 ⟨j.bL, 0, none⟩ _ j.gf n3), World.cell?_of_block (hg.block j.gf hlt (fun e => h.own_ne z4 _ e.symm))]
    exact h.fam k v hv
  · have := hg.size
    simp [World.setCell]
    omega

/-- What a choice from some place on adds to the list. -/
def Ch (N : Nat) (j : Jx) (place rest mod : Int) (out : List Int) : Prop :=
  ∀ (W : World) (xs : List Int) (a : Option Addr) (c : Nat), JS j xs a c W → xs.length ≤ N →
    Calls Tryz.prog 136 #[.int .i64 place, .int .i64 rest, .int .i64 mod, .pointer (some ⟨j.bF, 0, none⟩), .pointer (some ⟨j.bL, 0, none⟩), .pointer (some ⟨j.bC, 0, none⟩)] W
      fun e W' => (∃ v, e = .returned v) ∧ ∃ a' c', JS j (xs ++ out) a' c' W' ∧ Fr j a W a' W'

theorem cells_at (l : List Value) (t : TypeId) (w : World) (k : Nat) (hk : k = w.heap.size) : ∀ j u, l[j]? = some u → (w.alloc (.cells l.toArray t)).cell? ((⟨k, 0, none⟩ : Addr).add j) = some u := by
  subst hk; exact cells_new l t w

set_option maxHeartbeats 1000000 in
theorem ch_two (j : Jx) (rest mod : Int) : Ch 10 j 2 rest mod [rest] := by
  intro W xs a c HJ hx
  obtain ⟨i0, hi, hz0, hz1, hz2⟩ := info_parts Tryz.infoInt
  have HI : Hid (Tryz.prog.info? 3 = some i0 ∧ i0.zero = some (.int .i64 0) ∧ i0.size = 1 ∧ i0.bytes = 8) := ⟨hi, hz0, hz1, hz2⟩
  clear hi hz0 hz1 hz2
  have hJ : Hid (JS j xs a c W) := HJ
  have f0 : ∀ x y z : Obj, (((W.alloc x).alloc y).alloc z).cell? ⟨j.bF, 0, none⟩ = some (.slice (some ⟨j.gf, 0, none⟩) 2 j.cf) := fun x y z => (((HJ.F.alloc x).alloc y).alloc z).cell 0
  have l0 : ∀ x y z : Obj, (((W.alloc x).alloc y).alloc z).cell? ⟨j.bL, 0, none⟩ = some (.slice a xs.length c) := fun x y z => (((HJ.L.alloc x).alloc y).alloc z).cell 0
  have zF := HJ.F.lt
  have zL := HJ.L.lt
  have zB := HJ.lt
  have hJ3 : Hid (∀ x y z u : Obj, JS j xs a c ((((W.alloc x).alloc y).alloc z).alloc u)) := fun x y z u => HJ.below (((((Below.refl _ _).alloc (Nat.le_refl _) x).alloc (by simp) y).alloc (by simp; omega) z).alloc (by simp; omega) u)
  clear HJ
  go_enter Tryz.func136, Tryz.ntmps136
  go_wp2_with (at_builtin; refine wpList_append_own_at _ rfl _ _ 88 rfl j.B 3 i0 (.int .i64 0) 1 8 Tryz.underlying88 HI.out.1 HI.out.2.1 HI.out.2.2.1 HI.out.2.2.2 rfl (by decide) (.slice a xs.length c) xs.length (ints xs) rfl (hJ3.out _ _ _ _).row ⟨W.heap.size + 1 + 1 + 1, 0, none⟩ 1 1 [.int .i64 rest] rfl rfl (cells_at [.int .i64 rest] 3 _ _ (by simp)) (by simp [Value.oneCell']) (by simp only [maxLen]; omega) (by omega) (by simp; omega) ?_; intro v' w1 hown' hgrow _ hob; obtain ⟨g', cap', rfl⟩ := ownsRow_succ hown'; have q0 : w1.cell? ⟨j.bL, 0, none⟩ = some (.slice a xs.length c) := ((hJ3.out _ _ _ _).L.grown hgrow ((hJ3.out (.cells #[] 0) (.cells #[] 0) (.cells #[] 0) (.cells #[] 0)).own_ne zB.2.1 _)).cell 0; have q1 : w1.frozen? ⟨j.bL, 0, none⟩ = false := ((hJ3.out _ _ _ _).L.grown hgrow ((hJ3.out (.cells #[] 0) (.cells #[] 0) (.cells #[] 0) (.cells #[] 0)).own_ne zB.2.1 _)).frozen 0)
  have HR : Hid (JS j (xs ++ [rest]) (some ⟨g', 0, none⟩) cap' (w1.setCell ⟨j.bL, 0, none⟩ (.slice (some ⟨g', 0, none⟩) (xs.length + 1) cap')) ∧ Fr j a W (some ⟨g', 0, none⟩) (w1.setCell ⟨j.bL, 0, none⟩ (.slice (some ⟨g', 0, none⟩) (xs.length + 1) cap'))) := by
    refine ⟨(hJ3.out _ _ _ _).more hgrow hown', ?_, ?_, ?_, hgrow.os, hgrow.tape, hgrow.output⟩
    · have := hgrow.size
      simp [World.setCell] at this ⊢
      omega
    · intro k hk hl
      refine (Below.heap_setCell w1 ⟨j.bL, 0, none⟩ _ k hl.1).trans ((hgrow.block k (by simp; omega) ?_).trans ?_)
      · intro e
        cases a with
        | none => simp [Value.ownBlock] at e
        | some ad => simp only [Value.ownBlock, Option.some.injEq] at e; exact hl.2 ad rfl e
      · exact ((((Below.refl W.heap.size W).alloc (Nat.le_refl _) _).alloc (by simp) _).alloc (by simp; omega) _ |>.alloc (by simp; omega) _).block k hk
    · intro k hk hl
      refine ⟨hl.1, ?_⟩
      intro ad e
      cases e
      show k ≠ g'
      rintro rfl
      rcases hob with h | h
      · cases a with
        | none => simp [Value.ownBlock] at h
        | some ad => simp only [Value.ownBlock, Option.some.injEq] at h; exact hl.2 ad rfl h
      · simp [Value.ownBlock] at h; omega
  clear hown' hgrow hob q0 q1
  exact bodyPost_ret (results_none rfl _ _ _) rfl ⟨⟨_, rfl⟩, _, _, HR.out⟩

end Go.Proofs.YtogdggdaaiajnadGreatDoor
end

section
/- joined at the example (4 by 15): a root of one family, all roots of one. -/
set_option linter.unusedSimpArgs false
set_option linter.unusedVariables false
set_option maxRecDepth 100000
namespace Go.Proofs.YtogdggdaaiajnadGreatDoor
open Go.RowKit

theorem is_two {W : World} {b : Nat} {x y : Int} {t : TypeId} (h : Cl b [.int .i64 x, .int .i64 y] t W) : IS W (.slice (some ⟨b, 0, none⟩) 2 2) [x, y] := by
  refine ⟨⟨_, b, 0, 2, rfl, fun _ => rfl, fun i hi => ?_, fun _ => h.lt⟩⟩
  match i, hi with
  | 0, _ => exact h.cell 0
  | 1, _ => exact h.cell 1

set_option maxHeartbeats 1000000 in
theorem do_is (j : Jx) (place rest mod power root next mp : Int) (out : List Int) (bR bM bP bS : Nat) (hmp : mod * power = mp) (hb : 0 ≤ place ∧ place ≤ 100 ∧ 0 ≤ mp ∧ mp ≤ 100)
    (N : Nat) (hN : N ≤ 100) (hch : Ch N j (place + 1) next mp out) (hjoin : ∀ R M c at', JOut [rest, root] [mod, power] R M c at' → R = next)
    (W : World) (xs : List Int) (a : Option Addr) (c : Nat) (HJ : JS j xs a c W) (hx : xs.length ≤ N) (hR : Cl bR [.int .i64 rest] 3 W) (hM : Cl bM [.int .i64 mod] 3 W) (hP : Cl bP [.int .i64 power] 3 W) (hS : Cl bS [.int .i64 place] 3 W)
    (lR : Loc j a bR) (lM : Loc j a bM) (lP : Loc j a bP) (lS : Loc j a bS) :
    Calls Tryz.prog 139 #[.int .i64 root, .pointer (some ⟨bR, 0, none⟩), .pointer (some ⟨bM, 0, none⟩), .pointer (some ⟨bP, 0, none⟩), .pointer (some ⟨j.bC, 0, none⟩), .pointer (some ⟨bS, 0, none⟩)] W
      fun e W' => (∃ v, e = .returned v) ∧ ∃ a' c', JS j (xs ++ out) a' c' W' ∧ Fr j a W a' W' := by
  have r0 : W.cell? ⟨bR, 0, none⟩ = some (.int .i64 rest) := hR.cell 0
  have m0 : W.cell? ⟨bM, 0, none⟩ = some (.int .i64 mod) := hM.cell 0
  have p0 : W.cell? ⟨bP, 0, none⟩ = some (.int .i64 power) := hP.cell 0
  have s0 : W.cell? ⟨bS, 0, none⟩ = some (.int .i64 place) := hS.cell 0
  have zR := hR.lt
  have zM := hM.lt
  have zP := hP.lt
  have zS := hS.lt
  have HJW : Hid (JS j xs a c W) := HJ
  have HCH : Hid (Ch N j (place + 1) next mp out) := hch
  have HJO : Hid (∀ R M c at', JOut [rest, root] [mod, power] R M c at' → R = next) := hjoin
  have HL : Hid (Cl bM [.int .i64 mod] 3 W ∧ Cl bP [.int .i64 power] 3 W ∧ Cl bS [.int .i64 place] 3 W) := ⟨hM, hP, hS⟩
  clear hch hjoin HJ hR hM hP hS lR lM lP lS
  go_enter Tryz.func139, Tryz.ntmps139
  go_wp2_with fail
  refine (Join_any _ _ [rest, root] [mod, power] _ (is_two ((Cl.new _ _ W).alloc _)) ?_ (by simp) (by simp)).mono ?_
  · have := Cl.new [.int .i64 mod, .int .i64 power] 3 (W.alloc (.cells #[.int .i64 rest, .int .i64 root] 3))
    rw [World.size_alloc] at this
    exact is_two this
  rintro e w2 ⟨R, M, c2, at2, rfl, hj, k2⟩
  obtain rfl := HJO.out _ _ _ _ hj
  have K2 : Hid (Below W.heap.size W w2) := (((Below.refl _ _).alloc (Nat.le_refl _) _).alloc (by simp) _).trans (k2.mono (by simp; omega))
  have z2 := K2.out.size
  have HJ2 : Hid (JS j xs a c w2) := HJW.out.below K2.out
  have q1 : ∀ o, (w2.alloc o).cell? ⟨bM, 0, none⟩ = some (.int .i64 mod) := fun o => ((HL.out.1.below K2.out).alloc o).cell 0
  have q2 : ∀ o, (w2.alloc o).cell? ⟨bP, 0, none⟩ = some (.int .i64 power) := fun o => ((HL.out.2.1.below K2.out).alloc o).cell 0
  have q3 : ∀ o, (w2.alloc o).cell? ⟨bS, 0, none⟩ = some (.int .i64 place) := fun o => ((HL.out.2.2.below K2.out).alloc o).cell 0
  have q4 : ∀ o, (w2.alloc o).cell? ⟨j.bC, 0, none⟩ = some j.clo := fun o => (HJ2.out.C.alloc o).cell 0
  unfold Jx.clo at q4
  clear hj k2 r0 m0 p0 s0 HL HJO
  go_wp2_with fail
  refine (HCH.out _ xs a c (HJ2.out.below ((Below.refl _ _).alloc (Nat.le_refl _) _)) hx).mono ?_
  rintro e w3 ⟨⟨v, rfl⟩, a', c', hj3, hf3⟩
  have HR : Hid (JS j (xs ++ out) a' c' w3 ∧ Fr j a W a' w3) := ⟨hj3, (Fr.below a (K2.out.alloc z2 _)).trans hf3⟩
  clear hj3 hf3 q1 q2 q3 q4
  go_wp2
  go_end0
  exact ⟨⟨_, rfl⟩, a', c', HR.out⟩

/-- What one root of a family adds to the list, whatever stands beside. -/
def Dn (N : Nat) (j : Jx) (bR bM bP bS : Nat) (rest mod power place : Int) (root : Int) (out : List Int) : Prop :=
  ∀ (W : World) (xs : List Int) (a : Option Addr) (c : Nat), JS j xs a c W → xs.length ≤ N → Cl bR [.int .i64 rest] 3 W → Cl bM [.int .i64 mod] 3 W → Cl bP [.int .i64 power] 3 W → Cl bS [.int .i64 place] 3 W →
    Loc j a bR → Loc j a bM → Loc j a bP → Loc j a bS →
    Calls Tryz.prog 139 #[.int .i64 root, .pointer (some ⟨bR, 0, none⟩), .pointer (some ⟨bM, 0, none⟩), .pointer (some ⟨bP, 0, none⟩), .pointer (some ⟨j.bC, 0, none⟩), .pointer (some ⟨bS, 0, none⟩)] W
      fun e W' => (∃ v, e = .returned v) ∧ ∃ a' c', JS j (xs ++ out) a' c' W' ∧ Fr j a W a' W'

/-- In the midst of going through a family: b is each's own block. -/
def ES (j : Jx) (bR bM bP bS : Nat) (rest mod power place : Int) (W0 : World) (a0 : Option Addr) (b : Nat) (rc : List Value) (ys : List Int) (Wx : World) : Prop :=
  ∃ a' c', JS j ys a' c' Wx ∧ Fr j a0 W0 a' Wx ∧ (Cl b rc 135 Wx ∧ Loc j a' b) ∧ (Cl bR [.int .i64 rest] 3 Wx ∧ Cl bM [.int .i64 mod] 3 Wx ∧ Cl bP [.int .i64 power] 3 Wx ∧ Cl bS [.int .i64 place] 3 Wx) ∧ (Loc j a' bR ∧ Loc j a' bM ∧ Loc j a' bP ∧ Loc j a' bS)

theorem es_call {j : Jx} {bR bM bP bS : Nat} {rest mod power place root : Int} {out : List Int} {N : Nat} (h : Dn N j bR bM bP bS rest mod power place root out) {W0 : World} {a0 : Option Addr} {b : Nat} {rc : List Value} {ys : List Int} {Wx : World}
    (hs : ES j bR bM bP bS rest mod power place W0 a0 b rc ys Wx) (hl : ys.length ≤ N) :
    Calls Tryz.prog 139 #[.int .i64 root, .pointer (some ⟨bR, 0, none⟩), .pointer (some ⟨bM, 0, none⟩), .pointer (some ⟨bP, 0, none⟩), .pointer (some ⟨j.bC, 0, none⟩), .pointer (some ⟨bS, 0, none⟩)] Wx
      fun e W' => (∃ v, e = .returned v) ∧ ES j bR bM bP bS rest mod power place W0 a0 b rc (ys ++ out) W' := by
  obtain ⟨a', c', hj, hf, ⟨hb, lb⟩, ⟨hR, hM, hP, hS⟩, lR, lM, lP, lS⟩ := hs
  refine (h Wx ys a' c' hj hl hR hM hP hS lR lM lP lS).mono ?_
  rintro e W' ⟨hv, a'', c'', hj2, hf2⟩
  exact ⟨hv, a'', c'', hj2, hf.trans hf2, ⟨hf2.cl hb lb, hf2.loc b hb.lt lb⟩, ⟨hf2.cl hR lR, hf2.cl hM lM, hf2.cl hP lP, hf2.cl hS lS⟩, hf2.loc _ hR.lt lR, hf2.loc _ hM.lt lM, hf2.loc _ hP.lt lP, hf2.loc _ hS.lt lS⟩

set_option maxHeartbeats 1000000 in
theorem each_is (j : Jx) (g : Nat) (x y p : Int) (place rest mod power : Int) (o1 o2 : List Int) (bR bM bP bS : Nat) (hp : 0 ≤ p ∧ p ≤ 100) (hxy : 0 ≤ x ∧ x ≤ 100 ∧ 0 ≤ y ∧ y ≤ 100)
    (N : Nat) (h1 : Dn N j bR bM bP bS rest mod power place x o1) (h2 : Dn N j bR bM bP bS rest mod power place y o2)
    (hg : ∀ xs a c W, JS j xs a c W → Cl g [.int .i64 x, .int .i64 y] 3 W)
    (W : World) (xs : List Int) (a : Option Addr) (c : Nat) (HJ : JS j xs a c W) (hx : xs.length + o1.length ≤ N) (hR : Cl bR [.int .i64 rest] 3 W) (hM : Cl bM [.int .i64 mod] 3 W) (hP : Cl bP [.int .i64 power] 3 W) (hS : Cl bS [.int .i64 place] 3 W)
    (lR : Loc j a bR) (lM : Loc j a bM) (lP : Loc j a bP) (lS : Loc j a bS) :
    Calls Tryz.prog 138 #[.agg #[.slice (some ⟨g, 0, none⟩) 2 2, .int .i64 p, .int .i64 1], .func (.func 139) #[] #[.pointer (some ⟨bR, 0, none⟩), .pointer (some ⟨bM, 0, none⟩), .pointer (some ⟨bP, 0, none⟩), .pointer (some ⟨j.bC, 0, none⟩), .pointer (some ⟨bS, 0, none⟩)]] W
      fun e W' => (∃ v, e = .returned v) ∧ ∃ a' c', JS j (xs ++ o1 ++ o2) a' c' W' ∧ Fr j a W a' W' := by
  have H1 : Hid (Dn N j bR bM bP bS rest mod power place x o1) := h1
  have H2 : Hid (Dn N j bR bM bP bS rest mod power place y o2) := h2
  have HG : Hid (∀ xs a c W, JS j xs a c W → Cl g [.int .i64 x, .int .i64 y] 3 W) := hg
  have HJW : Hid (JS j xs a c W) := HJ
  have HL : Hid ((Cl bR [.int .i64 rest] 3 W ∧ Cl bM [.int .i64 mod] 3 W ∧ Cl bP [.int .i64 power] 3 W ∧ Cl bS [.int .i64 place] 3 W) ∧ (Loc j a bR ∧ Loc j a bM ∧ Loc j a bP ∧ Loc j a bS)) := ⟨⟨hR, hM, hP, hS⟩, lR, lM, lP, lS⟩
  have H0 : Hid (ES j bR bM bP bS rest mod power place W a W.heap.size [.slice (some ⟨g, 0, none⟩) 2 2, .int .i64 p, .int .i64 1] xs (W.alloc (.cells #[.slice (some ⟨g, 0, none⟩) 2 2, .int .i64 p, .int .i64 1] 135))) := by
    have k := (Below.refl W.heap.size W).alloc (Nat.le_refl _) (.cells #[.slice (some ⟨g, 0, none⟩) 2 2, .int .i64 p, .int .i64 1] 135)
    exact ⟨a, c, HJ.below k, Fr.below a k, ⟨Cl.new _ _ W, HJ.loc (Nat.le_refl _)⟩, ⟨hR.alloc _, hM.alloc _, hP.alloc _, hS.alloc _⟩, lR, lM, lP, lS⟩
  clear h1 h2 hg HJ hR hM hP hS lR lM lP lS HL HJW
  go_enter Tryz.func138, Tryz.ntmps138
  go_wp2
  go_loopw [9] (fun iv wx => (iv = .int .i64 0 ∧ Hid (ES j bR bM bP bS rest mod power place W a W.heap.size [.slice (some ⟨g, 0, none⟩) 2 2, .int .i64 p, .int .i64 1] xs wx)) ∨ (iv = .int .i64 1 ∧ Hid (ES j bR bM bP bS rest mod power place W a W.heap.size [.slice (some ⟨g, 0, none⟩) 2 2, .int .i64 p, .int .i64 1] (xs ++ o1 ++ o2) wx))) (fun iv _ => 1 - (intOf iv).toNat)
  case atStart => exact .inl ⟨rfl, H0.out⟩
  case round =>
    rcases hrel with ⟨rfl, HE⟩ | ⟨rfl, HE⟩
    · have c0 : wr.cell? ⟨W.heap.size, 0, none⟩ = some (.slice (some ⟨g, 0, none⟩) 2 2) := by obtain ⟨_, _, _, _, ⟨h, _⟩, _⟩ := HE.out; exact h.cell 0
      go_wp2
      go_loopw [15] (fun kv wx => (kv = .int .i64 0 ∧ Hid (ES j bR bM bP bS rest mod power place W a W.heap.size [.slice (some ⟨g, 0, none⟩) 2 2, .int .i64 p, .int .i64 1] xs wx)) ∨ (kv = .int .i64 1 ∧ Hid (ES j bR bM bP bS rest mod power place W a W.heap.size [.slice (some ⟨g, 0, none⟩) 2 2, .int .i64 p, .int .i64 1] (xs ++ o1) wx)) ∨ (kv = .int .i64 2 ∧ Hid (ES j bR bM bP bS rest mod power place W a W.heap.size [.slice (some ⟨g, 0, none⟩) 2 2, .int .i64 p, .int .i64 1] (xs ++ o1 ++ o2) wx))) (fun kv _ => 2 - (intOf kv).toNat)
      case atStart => exact .inl ⟨rfl, HE.out⟩
      case round =>
        clear c0 HE
        rcases hrel with ⟨rfl, HE⟩ | ⟨rfl, HE⟩ | ⟨rfl, HE⟩
        · have c1 := (show Cl g [.int .i64 x, .int .i64 y] 3 _ by obtain ⟨_, _, h, _⟩ := HE.out; exact HG.out _ _ _ _ h).cell 0
          simp at c1
          have c2 := (show Cl W.heap.size [.slice (some ⟨g, 0, none⟩) 2 2, .int .i64 p, .int .i64 1] 135 _ by obtain ⟨_, _, _, _, ⟨h, _⟩, _⟩ := HE.out; exact h).cell 1
          simp at c2
          go_wp2_with fail
          refine (es_call H1.out HE.out (by omega)).mono ?_
          rintro e w2 ⟨⟨v, rfl⟩, hs⟩
          have HE2 : Hid (ES j bR bM bP bS rest mod power place W a W.heap.size [.slice (some ⟨g, 0, none⟩) 2 2, .int .i64 p, .int .i64 1] (xs ++ o1) w2) := hs
          clear hs c1 c2 HE
          go_wp2
          go_roundw
          case rel => exact .inr (.inl ⟨rfl, HE2.out⟩)
          case measure => simp [intOf]
        · have c1 := (show Cl g [.int .i64 x, .int .i64 y] 3 _ by obtain ⟨_, _, h, _⟩ := HE.out; exact HG.out _ _ _ _ h).cell 1
          simp at c1
          have c2 := (show Cl W.heap.size [.slice (some ⟨g, 0, none⟩) 2 2, .int .i64 p, .int .i64 1] 135 _ by obtain ⟨_, _, _, _, ⟨h, _⟩, _⟩ := HE.out; exact h).cell 1
          simp at c2
          go_wp2_with fail
          refine (es_call H2.out HE.out (by simp; omega)).mono ?_
          rintro e w2 ⟨⟨v, rfl⟩, hs⟩
          have HE2 : Hid (ES j bR bM bP bS rest mod power place W a W.heap.size [.slice (some ⟨g, 0, none⟩) 2 2, .int .i64 p, .int .i64 1] (xs ++ o1 ++ o2) w2) := hs
          clear hs c1 c2 HE
          go_wp2
          go_roundw
          case rel => exact .inr (.inr ⟨rfl, HE2.out⟩)
          case measure => simp [intOf]
        · go_wp2
          go_roundw
          case rel => exact .inr ⟨rfl, HE.out⟩
          case measure => simp [intOf]
    · go_wp2
      go_end0
      obtain ⟨a', c', h1, h2, _⟩ := HE.out
      exact ⟨⟨_, rfl⟩, a', c', h1, h2⟩

end Go.Proofs.YtogdggdaaiajnadGreatDoor
end

section
/- joined at the example (-3 by 3): the one root of the family. -/
set_option linter.unusedSimpArgs false
set_option linter.unusedVariables false
set_option maxRecDepth 100000
namespace Go.Proofs.YtogdggdaaiajnadGreatDoor.R3
open Go.RowKit

set_option maxHeartbeats 1000000 in
theorem do_is (j : Jx) (place rest mod power root next mp : Int) (out : List Int) (bR bM bP bS : Nat) (hmp : mod * power = mp) (hb : 0 ≤ place ∧ place ≤ 100 ∧ 0 ≤ mp ∧ mp ≤ 100)
    (N : Nat) (hN : N ≤ 100) (hch : Ch N j (place + 1) next mp out) (hjoin : ∀ R M c at', JOut [rest, root] [mod, power] R M c at' → R = next)
    (W : World) (xs : List Int) (a : Option Addr) (c : Nat) (HJ : JS j xs a c W) (hx : xs.length ≤ N) (hR : Cl bR [.int .i64 rest] 3 W) (hM : Cl bM [.int .i64 mod] 3 W) (hP : Cl bP [.int .i64 power] 3 W) (hS : Cl bS [.int .i64 place] 3 W)
    (lR : Loc j a bR) (lM : Loc j a bM) (lP : Loc j a bP) (lS : Loc j a bS) :
    Calls Tryz.prog 139 #[.int .i64 root, .pointer (some ⟨bR, 0, none⟩), .pointer (some ⟨bM, 0, none⟩), .pointer (some ⟨bP, 0, none⟩), .pointer (some ⟨j.bC, 0, none⟩), .pointer (some ⟨bS, 0, none⟩)] W
      fun e W' => (∃ v, e = .returned v) ∧ ∃ a' c', JS j (xs ++ out) a' c' W' ∧ Fr j a W a' W' := by
  have r0 : W.cell? ⟨bR, 0, none⟩ = some (.int .i64 rest) := hR.cell 0
  have m0 : W.cell? ⟨bM, 0, none⟩ = some (.int .i64 mod) := hM.cell 0
  have p0 : W.cell? ⟨bP, 0, none⟩ = some (.int .i64 power) := hP.cell 0
  have s0 : W.cell? ⟨bS, 0, none⟩ = some (.int .i64 place) := hS.cell 0
  have zR := hR.lt
  have zM := hM.lt
  have zP := hP.lt
  have zS := hS.lt
  have HJW : Hid (JS j xs a c W) := HJ
  have HCH : Hid (Ch N j (place + 1) next mp out) := hch
  have HJO : Hid (∀ R M c at', JOut [rest, root] [mod, power] R M c at' → R = next) := hjoin
  have HL : Hid (Cl bM [.int .i64 mod] 3 W ∧ Cl bP [.int .i64 power] 3 W ∧ Cl bS [.int .i64 place] 3 W) := ⟨hM, hP, hS⟩
  clear hch hjoin HJ hR hM hP hS lR lM lP lS
  go_enter Tryz.func139, Tryz.ntmps139
  go_wp2_with fail
  refine (Join_any _ _ [rest, root] [mod, power] _ (is_two ((Cl.new _ _ W).alloc _)) ?_ (by simp) (by simp)).mono ?_
  · have := Cl.new [.int .i64 mod, .int .i64 power] 3 (W.alloc (.cells #[.int .i64 rest, .int .i64 root] 3))
    rw [World.size_alloc] at this
    exact is_two this
  rintro e w2 ⟨R, M, c2, at2, rfl, hj, k2⟩
  obtain rfl := HJO.out _ _ _ _ hj
  have K2 : Hid (Below W.heap.size W w2) := (((Below.refl _ _).alloc (Nat.le_refl _) _).alloc (by simp) _).trans (k2.mono (by simp; omega))
  have z2 := K2.out.size
  have HJ2 : Hid (JS j xs a c w2) := HJW.out.below K2.out
  have q1 : ∀ o, (w2.alloc o).cell? ⟨bM, 0, none⟩ = some (.int .i64 mod) := fun o => ((HL.out.1.below K2.out).alloc o).cell 0
  have q2 : ∀ o, (w2.alloc o).cell? ⟨bP, 0, none⟩ = some (.int .i64 power) := fun o => ((HL.out.2.1.below K2.out).alloc o).cell 0
  have q3 : ∀ o, (w2.alloc o).cell? ⟨bS, 0, none⟩ = some (.int .i64 place) := fun o => ((HL.out.2.2.below K2.out).alloc o).cell 0
  have q4 : ∀ o, (w2.alloc o).cell? ⟨j.bC, 0, none⟩ = some j.clo := fun o => (HJ2.out.C.alloc o).cell 0
  unfold Jx.clo at q4
  clear hj k2 r0 m0 p0 s0 HL HJO
  go_wp2_with fail
  refine (HCH.out _ xs a c (HJ2.out.below ((Below.refl _ _).alloc (Nat.le_refl _) _)) hx).mono ?_
  rintro e w3 ⟨⟨v, rfl⟩, a', c', hj3, hf3⟩
  have HR : Hid (JS j (xs ++ out) a' c' w3 ∧ Fr j a W a' w3) := ⟨hj3, (Fr.below a (K2.out.alloc z2 _)).trans hf3⟩
  clear hj3 hf3 q1 q2 q3 q4
  go_wp2
  go_end0
  exact ⟨⟨_, rfl⟩, a', c', HR.out⟩

/-- What one root of a family adds to the list, whatever stands beside. -/
def Dn (N : Nat) (j : Jx) (bR bM bP bS : Nat) (rest mod power place : Int) (root : Int) (out : List Int) : Prop :=
  ∀ (W : World) (xs : List Int) (a : Option Addr) (c : Nat), JS j xs a c W → xs.length ≤ N → Cl bR [.int .i64 rest] 3 W → Cl bM [.int .i64 mod] 3 W → Cl bP [.int .i64 power] 3 W → Cl bS [.int .i64 place] 3 W →
    Loc j a bR → Loc j a bM → Loc j a bP → Loc j a bS →
    Calls Tryz.prog 139 #[.int .i64 root, .pointer (some ⟨bR, 0, none⟩), .pointer (some ⟨bM, 0, none⟩), .pointer (some ⟨bP, 0, none⟩), .pointer (some ⟨j.bC, 0, none⟩), .pointer (some ⟨bS, 0, none⟩)] W
      fun e W' => (∃ v, e = .returned v) ∧ ∃ a' c', JS j (xs ++ out) a' c' W' ∧ Fr j a W a' W'

/-- In the midst of going through a family: b is each's own block. -/
def ES (j : Jx) (bR bM bP bS : Nat) (rest mod power place : Int) (W0 : World) (a0 : Option Addr) (b : Nat) (rc : List Value) (ys : List Int) (Wx : World) : Prop :=
  ∃ a' c', JS j ys a' c' Wx ∧ Fr j a0 W0 a' Wx ∧ (Cl b rc 135 Wx ∧ Loc j a' b) ∧ (Cl bR [.int .i64 rest] 3 Wx ∧ Cl bM [.int .i64 mod] 3 Wx ∧ Cl bP [.int .i64 power] 3 Wx ∧ Cl bS [.int .i64 place] 3 Wx) ∧ (Loc j a' bR ∧ Loc j a' bM ∧ Loc j a' bP ∧ Loc j a' bS)

theorem es_call {j : Jx} {bR bM bP bS : Nat} {rest mod power place root : Int} {out : List Int} {N : Nat} (h : Dn N j bR bM bP bS rest mod power place root out) {W0 : World} {a0 : Option Addr} {b : Nat} {rc : List Value} {ys : List Int} {Wx : World}
    (hs : ES j bR bM bP bS rest mod power place W0 a0 b rc ys Wx) (hl : ys.length ≤ N) :
    Calls Tryz.prog 139 #[.int .i64 root, .pointer (some ⟨bR, 0, none⟩), .pointer (some ⟨bM, 0, none⟩), .pointer (some ⟨bP, 0, none⟩), .pointer (some ⟨j.bC, 0, none⟩), .pointer (some ⟨bS, 0, none⟩)] Wx
      fun e W' => (∃ v, e = .returned v) ∧ ES j bR bM bP bS rest mod power place W0 a0 b rc (ys ++ out) W' := by
  obtain ⟨a', c', hj, hf, ⟨hb, lb⟩, ⟨hR, hM, hP, hS⟩, lR, lM, lP, lS⟩ := hs
  refine (h Wx ys a' c' hj hl hR hM hP hS lR lM lP lS).mono ?_
  rintro e W' ⟨hv, a'', c'', hj2, hf2⟩
  exact ⟨hv, a'', c'', hj2, hf.trans hf2, ⟨hf2.cl hb lb, hf2.loc b hb.lt lb⟩, ⟨hf2.cl hR lR, hf2.cl hM lM, hf2.cl hP lP, hf2.cl hS lS⟩, hf2.loc _ hR.lt lR, hf2.loc _ hM.lt lM, hf2.loc _ hP.lt lP, hf2.loc _ hS.lt lS⟩

set_option maxHeartbeats 1000000 in
theorem each_is (j : Jx) (g : Nat) (x p : Int) (place rest mod power : Int) (o1 : List Int) (bR bM bP bS : Nat) (hp : 0 ≤ p ∧ p ≤ 100) (hxy : 0 ≤ x ∧ x ≤ 100)
    (N : Nat) (h1 : Dn N j bR bM bP bS rest mod power place x o1)
    (hg : ∀ xs a c W, JS j xs a c W → Cl g [.int .i64 x] 3 W)
    (W : World) (xs : List Int) (a : Option Addr) (c : Nat) (HJ : JS j xs a c W) (hx : xs.length + o1.length ≤ N) (hR : Cl bR [.int .i64 rest] 3 W) (hM : Cl bM [.int .i64 mod] 3 W) (hP : Cl bP [.int .i64 power] 3 W) (hS : Cl bS [.int .i64 place] 3 W)
    (lR : Loc j a bR) (lM : Loc j a bM) (lP : Loc j a bP) (lS : Loc j a bS) :
    Calls Tryz.prog 138 #[.agg #[.slice (some ⟨g, 0, none⟩) 1 1, .int .i64 p, .int .i64 1], .func (.func 139) #[] #[.pointer (some ⟨bR, 0, none⟩), .pointer (some ⟨bM, 0, none⟩), .pointer (some ⟨bP, 0, none⟩), .pointer (some ⟨j.bC, 0, none⟩), .pointer (some ⟨bS, 0, none⟩)]] W
      fun e W' => (∃ v, e = .returned v) ∧ ∃ a' c', JS j (xs ++ o1) a' c' W' ∧ Fr j a W a' W' := by
  have H1 : Hid (Dn N j bR bM bP bS rest mod power place x o1) := h1
  have HG : Hid (∀ xs a c W, JS j xs a c W → Cl g [.int .i64 x] 3 W) := hg
  have H0 : Hid (ES j bR bM bP bS rest mod power place W a W.heap.size [.slice (some ⟨g, 0, none⟩) 1 1, .int .i64 p, .int .i64 1] xs (W.alloc (.cells #[.slice (some ⟨g, 0, none⟩) 1 1, .int .i64 p, .int .i64 1] 135))) := by
    have k := (Below.refl W.heap.size W).alloc (Nat.le_refl _) (.cells #[.slice (some ⟨g, 0, none⟩) 1 1, .int .i64 p, .int .i64 1] 135)
    exact ⟨a, c, HJ.below k, Fr.below a k, ⟨Cl.new _ _ W, HJ.loc (Nat.le_refl _)⟩, ⟨hR.alloc _, hM.alloc _, hP.alloc _, hS.alloc _⟩, lR, lM, lP, lS⟩
  clear h1 hg HJ hR hM hP hS lR lM lP lS
  go_enter Tryz.func138, Tryz.ntmps138
  go_wp2
  go_loopw [9] (fun iv wx => (iv = .int .i64 0 ∧ Hid (ES j bR bM bP bS rest mod power place W a W.heap.size [.slice (some ⟨g, 0, none⟩) 1 1, .int .i64 p, .int .i64 1] xs wx)) ∨ (iv = .int .i64 1 ∧ Hid (ES j bR bM bP bS rest mod power place W a W.heap.size [.slice (some ⟨g, 0, none⟩) 1 1, .int .i64 p, .int .i64 1] (xs ++ o1) wx))) (fun iv _ => 1 - (intOf iv).toNat)
  case atStart => exact .inl ⟨rfl, H0.out⟩
  case round =>
    rcases hrel with ⟨rfl, HE⟩ | ⟨rfl, HE⟩
    · have c0 : wr.cell? ⟨W.heap.size, 0, none⟩ = some (.slice (some ⟨g, 0, none⟩) 1 1) := by obtain ⟨_, _, _, _, ⟨h, _⟩, _⟩ := HE.out; exact h.cell 0
      go_wp2
      go_loopw [15] (fun kv wx => (kv = .int .i64 0 ∧ Hid (ES j bR bM bP bS rest mod power place W a W.heap.size [.slice (some ⟨g, 0, none⟩) 1 1, .int .i64 p, .int .i64 1] xs wx)) ∨ (kv = .int .i64 1 ∧ Hid (ES j bR bM bP bS rest mod power place W a W.heap.size [.slice (some ⟨g, 0, none⟩) 1 1, .int .i64 p, .int .i64 1] (xs ++ o1) wx))) (fun kv _ => 1 - (intOf kv).toNat)
      case atStart => exact .inl ⟨rfl, HE.out⟩
      case round =>
        clear c0 HE
        rcases hrel with ⟨rfl, HE⟩ | ⟨rfl, HE⟩
        · have c1 := (show Cl g [.int .i64 x] 3 _ by obtain ⟨_, _, h, _⟩ := HE.out; exact HG.out _ _ _ _ h).cell 0
          simp at c1
          have c2 := (show Cl W.heap.size [.slice (some ⟨g, 0, none⟩) 1 1, .int .i64 p, .int .i64 1] 135 _ by obtain ⟨_, _, _, _, ⟨h, _⟩, _⟩ := HE.out; exact h).cell 1
          simp at c2
          go_wp2_with fail
          refine (es_call H1.out HE.out (by omega)).mono ?_
          rintro e w2 ⟨⟨v, rfl⟩, hs⟩
          have HE2 : Hid (ES j bR bM bP bS rest mod power place W a W.heap.size [.slice (some ⟨g, 0, none⟩) 1 1, .int .i64 p, .int .i64 1] (xs ++ o1) w2) := hs
          clear hs c1 c2 HE
          go_wp2
          go_roundw
          case rel => exact .inr ⟨rfl, HE2.out⟩
          case measure => simp [intOf]
        · go_wp2
          go_roundw
          case rel => exact .inr ⟨rfl, HE.out⟩
          case measure => simp [intOf]
    · go_wp2
      go_end0
      obtain ⟨a', c', h1, h2, _⟩ := HE.out
      exact ⟨⟨_, rfl⟩, a', c', h1, h2⟩

end Go.Proofs.YtogdggdaaiajnadGreatDoor.R3
end

section
/- joined at the example (-3 by 3). Made of RtG. -/
set_option linter.unusedSimpArgs false
set_option linter.unusedVariables false
set_option maxRecDepth 100000
namespace Go.Proofs.YtogdggdaaiajnadGreatDoor.R3
open Go.RowKit

set_option maxHeartbeats 1000000 in
theorem ch_zero (N : Nat) (hN : 2 ≤ N) (j : Jx) (rest : Int) (o1 : List Int) (hr : 0 ≤ rest ∧ rest ≤ 100) (ho : o1.length ≤ 2) (d1 : ∀ bR bM bP bS, Dn N j bR bM bP bS rest 1 3 0 0 o1) : Ch (N - 2) j 0 rest 1 o1 := by
  intro W xs a c HJ hx
  have HD1 : Hid (∀ bR bM bP bS, Dn N j bR bM bP bS rest 1 3 0 0 o1) := d1
  have HJ3 : Hid (∀ x y z : Obj, JS j xs a c (((W.alloc x).alloc y).alloc z)) := fun x y z => HJ.below ((((Below.refl _ _).alloc (Nat.le_refl _) x).alloc (by simp) y).alloc (by simp; omega) z)
  have f0 : ∀ x y z : Obj, (((W.alloc x).alloc y).alloc z).cell? ⟨j.bF, 0, none⟩ = some (.slice (some ⟨j.gf, 0, none⟩) 1 j.cf) := fun x y z => (HJ3.out x y z).F.cell 0
  have f1 : ∀ x y z : Obj, (((W.alloc x).alloc y).alloc z).cell? ⟨j.gf, 0, none⟩ = some (.slice (some ⟨j.g2, 0, none⟩) 1 1) := fun x y z => (HJ3.out x y z).fam 0 _ rfl
  have f2 : ∀ x y z : Obj, (((W.alloc x).alloc y).alloc z).cell? ⟨j.gf, 1, none⟩ = some (.int .i64 3) := fun x y z => (HJ3.out x y z).fam 1 _ rfl
  have f3 : ∀ x y z : Obj, (((W.alloc x).alloc y).alloc z).cell? ⟨j.gf, 2, none⟩ = some (.int .i64 1) := fun x y z => (HJ3.out x y z).fam 2 _ rfl
  have zc := HJ.lt.2.2.2.2.2.2.2
  have HJW : Hid (JS j xs a c W) := HJ
  clear HJ d1
  go_enter Tryz.func136, Tryz.ntmps136
  go_wp2_with fail
  refine (power_one j.g2 3 _ (by decide) (by decide)).mono ?_
  rintro e w2 ⟨rfl, k2⟩
  have K2 : Hid (Below W.heap.size W w2) := ((((Below.refl _ _).alloc (Nat.le_refl _) _).alloc (by simp) _).alloc (by simp; omega) _).trans (k2.mono (by simp; omega))
  have z2 := k2.size
  simp at z2
  have HJ2 : Hid (JS j xs a c w2) := HJW.out.below K2.out
  have b0 : Hid (Cl W.heap.size [.int .i64 0] 3 w2) := (((Cl.new [.int .i64 0] 3 W).alloc _).alloc _).below k2
  have b1 : Hid (Cl (W.heap.size + 1) [.int .i64 rest] 3 w2) := by
    have h := ((Cl.new [.int .i64 rest] 3 (W.alloc (.cells #[.int .i64 0] 3))).alloc (.cells #[.int .i64 1] 3)).below k2
    rw [World.size_alloc] at h; exact h
  have b2 : Hid (Cl (W.heap.size + 1 + 1) [.int .i64 1] 3 w2) := by
    have h := (Cl.new [.int .i64 1] 3 ((W.alloc (.cells #[.int .i64 0] 3)).alloc (.cells #[.int .i64 rest] 3))).below k2
    rw [World.size_alloc, World.size_alloc] at h; exact h
  have g0 : ∀ x : Obj, (w2.alloc x).cell? ⟨j.bF, 0, none⟩ = some (.slice (some ⟨j.gf, 0, none⟩) 1 j.cf) := fun x => (HJ2.out.F.alloc x).cell 0
  have HJ4 : Hid (∀ x, JS j xs a c (w2.alloc x)) := fun x => HJ2.out.below ((Below.refl _ _).alloc (Nat.le_refl _) x)
  have g1 : ∀ x : Obj, (w2.alloc x).cell? ⟨j.gf, 0, none⟩ = some (.slice (some ⟨j.g2, 0, none⟩) 1 1) := fun x => (HJ4.out x).fam 0 _ rfl
  have g2 : ∀ x : Obj, (w2.alloc x).cell? ⟨j.gf, 1, none⟩ = some (.int .i64 3) := fun x => (HJ4.out x).fam 1 _ rfl
  have g3 : ∀ x : Obj, (w2.alloc x).cell? ⟨j.gf, 2, none⟩ = some (.int .i64 1) := fun x => (HJ4.out x).fam 2 _ rfl
  have g4 : ∀ x : Obj, (w2.alloc x).cell? ⟨W.heap.size, 0, none⟩ = some (.int .i64 0) := fun x => (b0.out.alloc x).cell 0
  clear k2 f0 f1 f2 f3 HJ3
  go_wp2_with fail
  refine (each_is j j.g2 0 3 0 rest 1 3 o1 (W.heap.size + 1) (W.heap.size + 1 + 1) w2.heap.size W.heap.size (by decide) (by decide) N (HD1.out _ _ _ _) (fun _ _ _ _ h => h.c2) _ xs a c (HJ4.out _) (by omega) (b1.out.alloc _) (b2.out.alloc _) (Cl.new _ _ w2) (b0.out.alloc _) (HJW.out.loc (by omega)) (HJW.out.loc (by omega)) (HJW.out.loc (by omega)) (HJW.out.loc (by omega))).mono ?_
  rintro e w3 ⟨⟨v, rfl⟩, a', c', hj3, hf3⟩
  have HR : Hid (JS j (xs ++ o1) a' c' w3 ∧ Fr j a W a' w3) := ⟨hj3, (Fr.below a (K2.out.alloc K2.out.size _)).trans hf3⟩
  clear hj3 hf3 g0 g1 g2 g3 g4
  go_wp2
  go_end0
  exact ⟨⟨_, rfl⟩, a', c', HR.out⟩

theorem join_a {R M c at' : Int} (h : JOut [0, 0] [1, 3] R M c at') : R = 0 := by
  have l0 : MathC.jl [1, 3] 0 = 1 := rfl
  have l1 : MathC.jl [1, 3] 1 = 1 := by decide
  have l2 : MathC.jl [1, 3] 2 = 3 := by decide
  rcases h.cases with h1 | h1 | ⟨_, _, k, r, m, R', M', hk, hj, rfl, rfl, rfl, hc, ho⟩ | ⟨_, _, r, m, hj, rfl, rfl, rfl, rfl⟩
  · simp at h1
  · simp at h1
  · exfalso
    have hm := hj.lcm
    have hk3 : k = 0 ∨ k = 1 := by simp at hk; omega
    rcases hk3 with rfl | rfl
    all_goals
      first | rw [l0] at hm | rw [l1] at hm
      subst hm
      rcases ho.cases with ⟨_, _, _, h2⟩ | ⟨_, n, hn, n1, n2, ⟨_, _, _, h2⟩ | ⟨_, _, _, h2, h3⟩ | ⟨h2, _⟩⟩
      · simp [numB] at h2
      · have : n = 1 ∨ n = 3 := by simp at hn; omega
        rcases this with rfl | rfl <;> first | (simp at hn; done) | exact h2 ⟨_, (Int.one_mul _).symm⟩
      · have : n = 1 ∨ n = 3 := by simp at hn; omega
        rcases this with rfl | rfl <;> simp at h3
      · exact hc h2
  · have hm := hj.lcm
    simp only [List.length_cons, List.length_nil] at hm
    rw [l2] at hm
    subst hm
    have h1 := hj.hi
    have c0 := hj.cong 0 (by simp)
    have c1 := hj.cong 1 (by simp)
    simp at c0 c1
    omega


theorem ch_all (j : Jx) : Ch 8 j 0 0 1 [0] :=
  ch_zero 10 (by decide) j 0 [0] (by decide) (by decide)
    (fun bR bM bP bS W xs a c => do_is j 0 0 1 3 0 0 3 [0] bR bM bP bS rfl (by decide) 10 (by decide) (ch_two j 0 3) (fun _ _ _ _ h => join_a h) W xs a c)

set_option maxHeartbeats 1000000 in
theorem joined_3 (gf g2 cf : Nat) (w : World) (hcf : 1 ≤ cf) (hgf : gf < w.heap.size) (hc : ∀ k v, (fam1 g2 3)[k]? = some v → w.cell? ⟨gf, k, none⟩ = some v) (h2 : Cl g2 [.int .i64 0] 3 w) :
    Calls Tryz.prog 113 #[.slice (some ⟨gf, 0, none⟩) 1 cf] w fun e w' => ∃ g cap, e = .returned (.slice (some ⟨g, 0, none⟩) 1 cap) ∧ w'.ownsRow w.heap.size 3 1 (.slice (some ⟨g, 0, none⟩) 1 cap) 1 (ints [0]) ∧ Below w.heap.size w w' := by
  have HJ0 : Hid (∀ W3, W3 = ((w.alloc (.cells #[.slice (some ⟨gf, 0, none⟩) 1 cf] 120)).alloc (.cells #[.slice none 0 0] 88)).alloc (.cells #[(Jx.mk w.heap.size (w.heap.size + 1) (w.heap.size + 1 + 1) gf g2 g2 cf (w.heap.size + 1 + 1 + 1)).clo] 137) →
      JS (Jx.mk w.heap.size (w.heap.size + 1) (w.heap.size + 1 + 1) gf g2 g2 cf (w.heap.size + 1 + 1 + 1)) [] none 0 W3 ∧ Below w.heap.size w W3) := by
    rintro W3 rfl
    have k := (((Below.refl w.heap.size w).alloc (Nat.le_refl _) (.cells #[.slice (some ⟨gf, 0, none⟩) 1 cf] 120)).alloc (by simp) (.cells #[.slice none 0 0] 88)).alloc (by simp; omega) (.cells #[(Jx.mk w.heap.size (w.heap.size + 1) (w.heap.size + 1 + 1) gf g2 g2 cf (w.heap.size + 1 + 1 + 1)).clo] 137)
    have z2 := h2.lt
    refine ⟨⟨((Cl.new _ _ w).alloc _).alloc _, ?_, ?_, World.ownsRow_nil _ _ _ _, fun i v hv => (k.cell (p := ⟨gf, i, none⟩) hgf).trans (hc i v hv), h2.below k, h2.below k, ?_, ?_⟩, k⟩
    · have h := Cl.new [(Jx.mk w.heap.size (w.heap.size + 1) (w.heap.size + 1 + 1) gf g2 g2 cf (w.heap.size + 1 + 1 + 1)).clo] 137 ((w.alloc (.cells #[.slice (some ⟨gf, 0, none⟩) 1 cf] 120)).alloc (.cells #[.slice none 0 0] 88))
      rw [World.size_alloc, World.size_alloc] at h; exact h
    · have h := (Cl.new [.slice none 0 0] 88 (w.alloc (.cells #[.slice (some ⟨gf, 0, none⟩) 1 cf] 120))).alloc (.cells #[(Jx.mk w.heap.size (w.heap.size + 1) (w.heap.size + 1 + 1) gf g2 g2 cf (w.heap.size + 1 + 1 + 1)).clo] 137)
      rw [World.size_alloc] at h; exact h
    · simp; omega
    · simp; omega
  clear hc h2
  go_enter Tryz.func113, Tryz.ntmps113
  go_wp2_with fail
  obtain ⟨hj, hk⟩ := HJ0.out _ rfl
  refine (ch_all (Jx.mk w.heap.size (w.heap.size + 1) (w.heap.size + 1 + 1) gf g2 g2 cf (w.heap.size + 1 + 1 + 1)) _ [] none 0 hj (by decide)).mono ?_
  rintro e w2 ⟨⟨v, rfl⟩, a', c', hj2, hf2⟩
  obtain ⟨g, rfl⟩ : ∃ g, a' = some ⟨g, 0, none⟩ := by
    rcases hj2.row.2 with ⟨h, h'⟩ | ⟨g, _, _, h, _⟩
    · simp at h'
    · simp only [Value.slice.injEq] at h; exact ⟨g, h.1⟩
  have l0 : w2.cell? ⟨w.heap.size + 1, 0, none⟩ = some (.slice (some ⟨g, 0, none⟩) 1 c') := hj2.L.cell 0
  have HB : Hid (Below w.heap.size w w2) := by
    refine ⟨hf2.os.trans hk.os, hf2.tape.trans hk.tape, hf2.output.trans hk.output, Nat.le_trans hk.size hf2.size, fun k hk1 => (hf2.block k (Nat.lt_of_lt_of_le hk1 hk.size) ⟨?_, fun _ e => by cases e⟩).trans (hk.block k hk1)⟩
    show k ≠ w.heap.size + 1
    omega
  have HRow : Hid (w2.ownsRow w.heap.size 3 1 (.slice (some ⟨g, 0, none⟩) 1 c') 1 (ints [0])) := by
    obtain ⟨h1, h2⟩ := hj2.row
    refine ⟨h1, ?_⟩
    rcases h2 with ⟨h, _⟩ | ⟨g', cap, cur, h3, h4, h5, h6⟩
    · cases h
    · exact .inr ⟨g', cap, cur, h3, by have : w.heap.size + 1 + 1 + 1 ≤ g' := h4; omega, h5, h6⟩
  clear hj hk hj2 hf2 HJ0
  go_wp2
  go_ret
  exact ⟨g, c', rfl, HRow.out, HB.out⟩

end Go.Proofs.YtogdggdaaiajnadGreatDoor.R3
end
