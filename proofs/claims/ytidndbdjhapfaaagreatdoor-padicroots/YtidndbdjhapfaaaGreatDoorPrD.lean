/- padic.Roots. -/
import Derived.Test.YtidndbdjhapfaaaGreatDoorJoinI
import Derived.Test.YtidndbdjhapfaaaGreatDoorPaD
import Derived.Test.YtidndbdjhapfaaaGreatDoorJoinH
import Derived.Test.YtidndbdjhapfaaaGreatDoorShelf
import Derived.Lib.SlKeysI
import Derived.Sort.OwnSortedInts
set_option linter.unusedSimpArgs false
set_option linter.unusedVariables false
set_option maxRecDepth 100000
namespace Go.Proofs.YtidndbdjhapfaaaGreatDoor
open Go.RowKit Go.Sort

theorem sort_ltP {l : List Int} (hn : l.Nodup) : (l.mergeSort fun x y => decide (x ≤ y)).Pairwise (· < ·) := by
  have h1 : (l.mergeSort fun x y => decide (x ≤ y)).Pairwise (fun x y => decide (x ≤ y) = true) := List.pairwise_mergeSort (fun a b c h1 h2 => by simp only [decide_eq_true_eq] at *; omega) (fun a b => by simp only [Bool.or_eq_true, decide_eq_true_eq]; omega) l
  have h2 : (l.mergeSort fun x y => decide (x ≤ y)).Nodup := (List.mergeSort_perm l _).nodup_iff.2 hn
  refine (h1.and h2).imp ?_
  rintro a b ⟨h3, h4⟩
  simp only [decide_eq_true_eq] at h3
  omega

/-- A row of numbers, each once, is sorted in its place. -/
theorem sort_row (B : Nat) (a : Option Addr) (n c : Nat) (L : List Int) (w0 w : World) (hn : n = L.length) (hl : n ≤ 1000) (hB : B = w0.heap.size) (hk : Below w0.heap.size w0 w) (hrow : w.ownsRow B 3 1 (.slice a n c) n (ints L)) (hnd : L.Nodup) :
    Calls Tryz.prog 15 #[.slice a n c] w fun e w' => ∃ L', (∃ v, e = .returned v) ∧ L'.Pairwise (· < ·) ∧ (∀ x, x ∈ L' ↔ x ∈ L) ∧ n = L'.length ∧ IS w' (.slice a n c) L' ∧ Below w0.heap.size w0 w' ∧ (∀ k, k < B → w'.heap[k]? = w.heap[k]?) ∧ w.heap.size ≤ w'.heap.size := by
  subst hn
  obtain ⟨h0, h2 | ⟨g, cap, cur, e1, e2, e3, e4, e5, e6, e7⟩⟩ := hrow
  · obtain ⟨h2, h3⟩ := h2
    have hL : L = [] := List.eq_nil_of_length_eq_zero h3
    subst hL
    simp only [Value.slice.injEq] at h2
    obtain ⟨rfl, _, rfl⟩ := h2
    refine (Sort_ord none 0 0 [] w (by omega) (by omega) ⟨fun g j h => (by cases h), fun h => (by omega), fun j h => (by omega)⟩).mono ?_
    rintro e w' ⟨hv, k⟩
    exact ⟨[], hv, List.Pairwise.nil, fun x => Iff.rfl, rfl, ⟨none, 0, 0, 0, rfl, fun h => by simp at h, fun i hi => by simp at hi, fun h => by simp at h⟩, hk.trans (k.mono hk.size), fun j hj => k.block j (by have := hk.size; omega), k.size⟩
  · simp only [Value.slice.injEq] at e1
    obtain ⟨rfl, _, rfl⟩ := e1
    have hblk : g < w.heap.size := (Array.getElem?_eq_some_iff.1 e3).1
    have hH : Holds (Value.int .i64) w g 0 L.toArray := holds_of_blockI e3 (by rw [Nat.mul_one] at e7; exact e7)
    have hc := Tryz.slices_Sort_int g 0 c L w hH hblk (by omega)
    refine hc.mono ?_
    rintro e w' ⟨rfl, n6, os6, rfl⟩
    have hown : (grow (putRow (Value.int .i64) (Sort.ahead w n6) g 0 (L.mergeSort fun x y => decide (x ≤ y)).toArray) os6).ownsRow B 3 1 (.slice (some ⟨g, 0, none⟩) L.length c) L.length ((L.mergeSort fun x y => decide (x ≤ y)).map (Value.int .i64)) := ownsRow_sortedI (List.length_mergeSort _) e2 e3 e4 e5 e6
    have hgr := grownBy_sortedI (w := w) (n := n6) (g := g) (os := os6) (L.mergeSort fun x y => decide (x ≤ y)).toArray
    have hl2 : (L.mergeSort fun x y => decide (x ≤ y)).length = L.length := List.length_mergeSort _
    have hgB : B ≤ g := e2
    refine ⟨L.mergeSort fun x y => decide (x ≤ y), ⟨_, rfl⟩, sort_ltP hnd, fun x => (List.mergeSort_perm L _).mem_iff, hl2.symm, IS.ownP hl2 hown, ?_, ?_, hgr.size⟩
    · refine hk.grown hgr hk.size (fun j hj => ?_)
      cases hj
      omega
    · intro k hk'
      exact hgr.block k (by have := hk.size; omega) (fun e => by cases e; omega)

theorem cell_same {b : Nat} {w : World} (h : Sv b 0 0 w) (b' o : Nat) : ((w.setCell ⟨b, 0, none⟩ (.int .i64 0)).setCell ⟨b, 1, none⟩ (.int .i64 0)).cell? ⟨b', o, none⟩ = w.cell? ⟨b', o, none⟩ := by
  by_cases hb : b' = b
  · subst hb
    by_cases h1 : o = 1
    · subst h1
      rw [World.cell?_setCell_same' _ _ _ (by rw [World.cell?_setCell_other _ _ _ _ (by intro e; injection e; omega), h.c1]; rfl), h.c1]
    · rw [World.cell?_setCell_other _ _ _ _ (by intro e; injection e; omega)]
      by_cases h0 : o = 0
      · subst h0
        rw [World.cell?_setCell_same' _ _ _ (by rw [h.c0]; rfl), h.c0]
      · rw [World.cell?_setCell_other _ _ _ _ (by intro e; injection e; omega)]
  · rw [World.cell?_of_block (Below.heap_setCell _ _ _ _ (by simp; omega)), World.cell?_of_block (Below.heap_setCell _ _ _ _ (by simp; omega))]

/-- What Roots answers. -/
def RsOut (p k : Int) (l : List Int) (v : Value) (c a : Int) (w' : World) : Prop :=
  (v = .slice none 0 0 ∧ c ≠ 0 ∧ ∃ M, Pf p k M c a) ∨
  (∃ M P K, Pg p k M P K ∧ ((v = .slice none 0 0 ∧ c ≠ 0 ∧ Plf l c a) ∨ (Plf l 0 0 ∧ ((2000 < p ∧ v = .slice none 0 0 ∧ c = 2 ∧ a = 0) ∨ (p ≤ 2000 ∧ ((v = .slice none 0 0 ∧ c = 9 ∧ a = 0 ∧ 1000 < P ^ K) ∨
    (c = 0 ∧ a = 0 ∧ ∃ L, IS w' v L ∧ L.length ≤ 1000 ∧ RootL l (P ^ K) L ∧ L.Pairwise (· < ·))))))))

set_option maxHeartbeats 4000000 in
theorem Roots_any (p k : Int) (s : Value) (l : List Int) (w : World) (hs : IS w s l) (hl : l.length ≤ 9000000000000000000) (hT : Tb w) :
    Calls Tryz.prog 5 #[.int .i64 p, .int .i64 k, s] w fun e w' => ∃ v c a, e = .returned (.tuple #[v, .agg #[.int .i64 c, .int .i64 a]]) ∧ RsOut p k l v c a w' ∧ Below w.heap.size w w' := by
  obtain ⟨M, c, a, hPf⟩ := pf_ex p k
  have HP : Hid (∀ w, Tb w → Calls Tryz.prog 12 #[.int .i64 p, .int .i64 k] w fun e w' => e = .returned (.tuple #[.int .i64 M, .agg #[.int .i64 c, .int .i64 a]]) ∧ Below w.heap.size w w') := fun w h => powerOf_any p k M c a w hPf h
  have HT : Hid (Tb (w.alloc (.cells #[.int .i64 0, .int .i64 0] 25))) := hT.alloc _
  have HS0 : Hid (Sv w.heap.size 0 0 (w.alloc (.cells #[.int .i64 0, .int .i64 0] 25))) := Sv.new 0 0 w
  have HK0 : Hid (Below w.heap.size w (w.alloc (.cells #[.int .i64 0, .int .i64 0] 25))) := (Below.refl _ w).alloc (Nat.le_refl _) _
  have HIS : Hid (IS w s l) := hs
  obtain ⟨aa, g, o, cap, rfl, _⟩ := hs
  clear hT
  go_enter Tryz.func5, Tryz.ntmps5
  go_wp2_with fail
  refine (HP.out _ HT.out).mono ?_
  rintro e w1 ⟨rfl, k1⟩
  have S1 := HS0.out.below k1
  have K1 : Below w.heap.size w w1 := HK0.out.trans (k1.mono (by simp))
  clear k1 HP HT HS0 HK0
  rcases hPf.good with ⟨rfl, rfl, P, K, hg⟩ | ⟨hc0, rfl, hc⟩
  · clear hPf
    have HG : Hid (Pg p k M P K) := hg
    obtain rfl := hg.p
    obtain rfl := hg.k
    have hP2 := hg.p2
    have hP6 := hg.p6
    obtain ⟨N, hN⟩ : ∃ N, N = P ^ K := ⟨_, rfl⟩
    have hMN : M = (N : Int) := by rw [hN]; exact hg.m
    subst hMN
    have hN18 : N ≤ 1000000000000000000 := by rw [hN]; exact hg.m18
    have HPK : Hid (1 ≤ K ∧ K ≤ 60 ∧ P ^ K ≤ 1000000000000000000) := ⟨hg.k1, hg.k6, hg.m18⟩
    clear hN
    obtain ⟨c, a, hpl⟩ := plf_ex l
    have HPl : Hid (Plf l c a) := hpl
    have hpc := hpl.code
    have HCP : Hid (∀ w, IS w (.slice aa l.length cap) l → Calls Tryz.prog 13 #[.slice aa l.length cap] w fun e w' => e = .returned (.agg #[.int .i64 c, .int .i64 a]) ∧ Below w.heap.size w w') := fun w h => checkPolynomial_any _ l c a w h hl hpl
    have S2 := S1.alloc #[.int .i64 0, .int .i64 0] 25
    have K2 : Below w.heap.size w (w1.alloc (.cells #[.int .i64 0, .int .i64 0] 25)) := K1.alloc (by have := S1.lt; omega) _
    clear hg hpl S1 K1
    go_wp2_with fail
    generalize hW2 : w1.alloc (.cells #[.int .i64 0, .int .i64 0] 25) = W2 at S2 K2 ⊢
    clear hW2
    refine (HCP.out W2 (HIS.out.belowP K2)).mono ?_
    rintro e w1 ⟨rfl, k1⟩
    have S1 := S2.below k1
    have K1 : Below w.heap.size w w1 := K2.trans (k1.mono (by have := S2.lt; omega))
    clear k1 S2 K2 HCP
    by_cases hc0 : c = 0
    · subst hc0
      obtain ⟨rfl, hl13, hnum⟩ := HPl.out.good
      have e0 : ∀ x : Obj, (w1.alloc x).cell? ⟨w.heap.size, 0, none⟩ = some (.int .i64 0) := fun x => (S1.below ((Below.refl _ _).alloc (Nat.le_refl _) x)).c0
      have e1 : ∀ x : Obj, (w1.alloc x).cell? ⟨w.heap.size, 1, none⟩ = some (.int .i64 0) := fun x => (S1.below ((Below.refl _ _).alloc (Nat.le_refl _) x)).c1
      have e2 : ∀ x : Obj, (w1.alloc x).frozen? ⟨w.heap.size, 0, none⟩ = false := fun x => (S1.below ((Below.refl _ _).alloc (Nat.le_refl _) x)).f0
      have e3 : ∀ x : Obj, (w1.alloc x).frozen? ⟨w.heap.size, 1, none⟩ = false := fun x => (S1.below ((Below.refl _ _).alloc (Nat.le_refl _) x)).f1
      have HS1 : Hid (Sv w.heap.size 0 0 w1) := S1
      have HK1 : Hid (∀ o, Below w.heap.size w (w1.alloc o)) := fun o => K1.alloc (by have := S1.lt; omega) _
      clear S1 K1
      by_cases hp2 : 2000 < P
      · have hb : decide (2000 < (P : Int)) = true := decide_eq_true (by omega)
        have HO : Hid (∀ w', RsOut P K l (.slice none 0 0) 2 0 w') := fun w' => .inr ⟨N, P, K, HG.out, .inr ⟨HPl.out, .inl ⟨by omega, rfl, rfl, rfl⟩⟩⟩
        go_wp2
        have Z := (HS1.out.alloc #[.int .i64 0, .int .i64 0] 25).set 2 0
        have z0 := Z.c0
        have z1 := Z.c1
        exact bodyPost_ret (v := .tuple #[.slice none 0 0, .agg #[.int .i64 2, .int .i64 0]]) (by simp [results, Tryz.results5, go_sem, z0, z1]) rfl ⟨_, _, _, rfl, HO.out _, ((HK1.out _).setCell (by simp) _).setCell (by simp) _⟩
      · have hb : decide (2000 < (P : Int)) = false := decide_eq_false (by omega)
        have HRo : Hid (∀ w, IS w (.slice aa l.length cap) l → Calls Tryz.prog 14 #[.int .i64 P, .int .i64 K, .slice aa l.length cap] w fun e w' => ∃ (a : Option Addr) (n c : Nat) (b : Bool), e = .returned (.tuple #[.slice a n c, .bool b]) ∧ Below w.heap.size w w' ∧ ((b = true ∧ n ≤ 1000 ∧ ∃ L, RootL l (P ^ K) L ∧ n = L.length ∧ w'.ownsRow w.heap.size 3 1 (.slice a n c) n (ints L)) ∨ (b = false ∧ 1000 < P ^ K))) := fun w h => roots_any P K _ l w hP2 (by omega) HPK.out.1 HPK.out.2.1 HPK.out.2.2 h hl13 hnum
        have S3 := HS1.out.alloc #[.int .i64 0, .int .i64 0] 25
        have K3 := HK1.out (.cells #[.int .i64 0, .int .i64 0] 25)
        clear hnum
        go_wp2_with fail
        generalize hW3 : w1.alloc (.cells #[.int .i64 0, .int .i64 0] 25) = W3 at S3 K3 ⊢
        clear hW3 e0 e1 e2 e3
        have HS3 : Hid (Sv w.heap.size 0 0 W3) := S3
        have HK3 : Hid (Below w.heap.size w W3) := K3
        clear S3 K3
        refine (HRo.out W3 (HIS.out.belowP HK3.out)).mono ?_
        rintro e w4 ⟨ra, rn, rc, b, rfl, k4, hr⟩
        rcases hr with ⟨rfl, hn1, L, hRL, hnL, hrow⟩ | ⟨rfl, hmuch⟩
        · have HSo : Hid (Calls Tryz.prog 15 #[.slice ra rn rc] w4 fun e w' => ∃ L', (∃ v, e = .returned v) ∧ L'.Pairwise (· < ·) ∧ (∀ x, x ∈ L' ↔ x ∈ L) ∧ rn = L'.length ∧ IS w' (.slice ra rn rc) L' ∧ Below W3.heap.size W3 w' ∧ (∀ k, k < W3.heap.size → w'.heap[k]? = w4.heap[k]?) ∧ w4.heap.size ≤ w'.heap.size) := sort_row W3.heap.size ra rn rc L W3 w4 hnL hn1 rfl k4 hrow hRL.nd
          have HRL : Hid (RootL l (P ^ K) L) := hRL
          clear k4 hRL hnL hrow HRo
          go_wp2_with fail
          refine HSo.out.mono ?_
          rintro e w5 ⟨L', ⟨v5, rfl⟩, hpw, hmem, hnL, his, k5, _, _⟩
          have S5 := HS3.out.below k5
          have K5 : Below w.heap.size w w5 := HK3.out.trans (k5.mono HK3.out.size)
          have HK5 : Hid (Below w.heap.size w w5) := K5
          have q0 := S5.c0
          have q1 := S5.c1
          have q2 := S5.f0
          have q3 := S5.f1
          have z0 := (S5.set 0 0).c0
          have z1 := (S5.set 0 0).c1
          have HIS5 : Hid (IS ((w5.setCell ⟨w.heap.size, 0, none⟩ (.int .i64 0)).setCell ⟨w.heap.size, 1, none⟩ (.int .i64 0)) (.slice ra rn rc) L') := by
            have hsame : ∀ b o, w5.cell? ⟨b, o, none⟩ = ((w5.setCell ⟨w.heap.size, 0, none⟩ (.int .i64 0)).setCell ⟨w.heap.size, 1, none⟩ (.int .i64 0)).cell? ⟨b, o, none⟩ := fun b o => (cell_same S5 b o).symm
            obtain ⟨aa, g, o, cap, e1, e2, e3, e4⟩ := his
            exact ⟨aa, g, o, cap, e1, e2, fun i hi => by rw [← hsame]; exact e3 i hi, fun h => by simpa [World.setCell] using e4 h⟩
          have HO : Hid (RsOut P K l (.slice ra rn rc) 0 0 ((w5.setCell ⟨w.heap.size, 0, none⟩ (.int .i64 0)).setCell ⟨w.heap.size, 1, none⟩ (.int .i64 0))) :=
            .inr ⟨N, P, K, HG.out, .inr ⟨HPl.out, .inr ⟨by omega, .inr ⟨rfl, rfl, L', HIS5.out, by omega, ⟨fun x => (hmem x).trans (HRL.out.mem x), hpw.imp (fun h => by omega)⟩, hpw⟩⟩⟩⟩
          clear S5 K5 k5 his hpw hmem hnL HIS5
          go_wp2
          exact bodyPost_ret (v := .tuple #[.slice ra rn rc, .agg #[.int .i64 0, .int .i64 0]]) (by simp [results, Tryz.results5, go_sem, z0, z1]) rfl ⟨_, _, _, rfl, HO.out, (HK5.out.setCell (by simp) _).setCell (by simp) _⟩
        · have S4 := HS3.out.below k4
          have K4 : Below w.heap.size w w4 := HK3.out.trans (k4.mono HK3.out.size)
          have HK4 : Hid (Below w.heap.size w w4) := K4
          have HO : Hid (∀ w', RsOut P K l (.slice none 0 0) 9 0 w') := fun w' => .inr ⟨N, P, K, HG.out, .inr ⟨HPl.out, .inr ⟨by omega, .inl ⟨rfl, rfl, rfl, hmuch⟩⟩⟩⟩
          have q0 := S4.c0
          have q1 := S4.c1
          have q2 := S4.f0
          have q3 := S4.f1
          have z0 := (S4.set 9 0).c0
          have z1 := (S4.set 9 0).c1
          clear S4 K4 k4 hmuch HRo
          go_wp2
          exact bodyPost_ret (v := .tuple #[.slice none 0 0, .agg #[.int .i64 9, .int .i64 0]]) (by simp [results, Tryz.results5, go_sem, z0, z1]) rfl ⟨_, _, _, rfl, HO.out _, (HK4.out.setCell (by simp) _).setCell (by simp) _⟩
    · have HO : Hid (∀ w', RsOut P K l (.slice none 0 0) c a w') := fun w' => .inr ⟨N, P, K, HG.out, .inl ⟨rfl, hc0, HPl.out⟩⟩
      have hcb : (c != 0) = true := by simp [bne]; exact hc0
      clear hc0
      have hz : w.heap.size < w1.heap.size := S1.lt
      have q0 := S1.c0
      have q1 := S1.c1
      have q2 := S1.f0
      have q3 := S1.f1
      have HK1 : Hid (Below w.heap.size w w1) := K1
      clear S1 K1
      go_wp2
      go_region
      all_goals
        go_wp2
        exact bodyPost_ret (v := .tuple #[.slice none 0 0, .agg #[.int .i64 c, .int .i64 a]]) (by simp [results, Tryz.results5, go_sem, q0, q1, hz]) rfl ⟨_, c, a, rfl, HO.out _, Below.drew (Below.alloc (Below.setCell (Below.setCell HK1.out (by simp) _) (by simp) _) (by simp; omega) _)⟩
  · have HO : Hid (∀ w', RsOut p k l (.slice none 0 0) c a w') := fun w' => .inl ⟨rfl, hc0, _, hPf⟩
    have hcb : (c != 0) = true := by simp [bne]; exact hc0
    clear hc0 hPf
    have hz : w.heap.size < w1.heap.size := S1.lt
    have q0 := S1.c0
    have q1 := S1.c1
    have q2 := S1.f0
    have q3 := S1.f1
    have HK1 : Hid (Below w.heap.size w w1) := K1
    clear S1 K1
    go_wp2
    go_region
    all_goals
      go_wp2
      exact bodyPost_ret (v := .tuple #[.slice none 0 0, .agg #[.int .i64 c, .int .i64 a]]) (by simp [results, Tryz.results5, go_sem, q0, q1, hz]) rfl ⟨_, c, a, rfl, HO.out _, Below.drew (Below.alloc (Below.setCell (Below.setCell HK1.out (by simp) _) (by simp) _) (by simp; omega) _)⟩

end Go.Proofs.YtidndbdjhapfaaaGreatDoor
