import Derived.Test.YtidndbdjhapfaaaGreatDoorMathP
import Derived.Test.YtidndbdjhapfaaaGreatDoorPaC
import Derived.Test.YtidndbdjhapfaaaGreatDoorPwD
section
/- Plain facts: the roots of a polynomial by powers of a prime. -/
set_option linter.unusedVariables false
set_option maxRecDepth 100000
namespace Go.Proofs.YtidndbdjhapfaaaGreatDoor

/-! ### The roots of a polynomial by powers of a prime -/

/-- L has just the roots by q, each once. -/
structure RootL (l : List Int) (q : Nat) (L : List Int) : Prop where
  mem : ∀ x, x ∈ L ↔ 0 ≤ x ∧ x < (q : Int) ∧ pv l x % (q : Int) = 0
  nd : L.Nodup

/-- The numbers above r that are roots by Q p. -/
def abv (V S r : Int) (Q : Nat) (p n : Nat) : List Int := ((List.range n).filter fun t : Nat => decide ((V + (t : Int) * S) % (p : Int) = 0)).map fun t : Nat => r + (t : Int) * (Q : Int)

theorem abv_succ (V S r : Int) (Q p n : Nat) : abv V S r Q p (n + 1) = abv V S r Q p n ++ (if (V + (n : Int) * S) % (p : Int) = 0 then [r + (n : Int) * (Q : Int)] else []) := by
  unfold abv
  rw [List.range_succ, List.filter_append, List.map_append]
  congr 1
  by_cases h : (V + (n : Int) * S) % (p : Int) = 0
  · simp [h]
  · simp [h]
theorem abv_len (V S r : Int) (Q p n : Nat) : (abv V S r Q p n).length ≤ n := by
  unfold abv
  rw [List.length_map]
  exact Nat.le_trans (List.length_filter_le _ _) (by simp)
theorem abv_mem (V S r : Int) (Q p n : Nat) (x : Int) : x ∈ abv V S r Q p n ↔ ∃ t : Nat, t < n ∧ (V + (t : Int) * S) % (p : Int) = 0 ∧ x = r + (t : Int) * (Q : Int) := by
  simp only [abv, List.mem_map, List.mem_filter, List.mem_range, decide_eq_true_eq]
  constructor
  · rintro ⟨t, ⟨h1, h2⟩, h3⟩; exact ⟨t, h1, h2, h3.symm⟩
  · rintro ⟨t, h1, h2, h3⟩; exact ⟨t, ⟨h1, h2⟩, h3.symm⟩
theorem abv_nd (V S r : Int) (Q p n : Nat) (hQ : 0 < Q) : (abv V S r Q p n).Nodup := by
  unfold abv
  refine List.Pairwise.map _ ?_ (List.Pairwise.filter _ List.nodup_range)
  intro a b h e
  have : (a : Int) * (Q : Int) = (b : Int) * (Q : Int) := by omega
  have := Int.eq_of_mul_eq_mul_right (by omega) this
  omega

/-- What the program reckons of a root. -/
def vOf (l : List Int) (Q p : Nat) (r : Int) : Int := (pv l r % ((Q * p : Nat) : Int)) / (Q : Int)
def sOf (l : List Int) (p : Nat) (r : Int) : Int := dv l r % (p : Int)

/-- (Hensel, all roots) -/
theorem above_root {l : List Int} {Q p : Nat} {r : Int} (hQ : 0 < Q) (hp : 0 < p) (hpQ : p ∣ Q) (hr : pv l r % (Q : Int) = 0) (t : Nat) :
    pv l (r + (t : Int) * (Q : Int)) % ((Q * p : Nat) : Int) = 0 ↔ (vOf l Q p r + (t : Int) * sOf l p r) % (p : Int) = 0 := by
  obtain ⟨c, hc⟩ := pv_beside l r ((t : Int) * (Q : Int))
  obtain ⟨u, hu⟩ := hpQ
  obtain ⟨A, hA⟩ : ∃ A, A = pv l r := ⟨_, rfl⟩
  obtain ⟨D, hD⟩ : ∃ D, D = dv l r := ⟨_, rfl⟩
  unfold vOf sOf
  rw [← hA] at hr hc ⊢
  rw [← hD] at hc ⊢
  rw [hc]
  have hQi : (Q : Int) = (p : Int) * (u : Int) := by rw [hu]; simp
  have hM : ((Q * p : Nat) : Int) = (Q : Int) * (p : Int) := by simp
  rw [hM]
  have hQ0 : (0 : Int) < (Q : Int) := by omega
  -- A is Q a
  obtain ⟨a, ha⟩ := Int.dvd_of_emod_eq_zero hr
  have e1 : A % ((Q : Int) * (p : Int)) / (Q : Int) = a % (p : Int) := by
    rw [ha, Int.mul_emod_mul_of_pos _ _ hQ0, Int.mul_ediv_cancel_left _ (by omega)]
  rw [e1]
  have e2 : A + D * ((t : Int) * (Q : Int)) + (t : Int) * (Q : Int) * ((t : Int) * (Q : Int)) * c = (Q : Int) * (a + D * (t : Int) + (p : Int) * ((u : Int) * (t : Int) * (t : Int) * c)) := by
    rw [ha]
    have : (t : Int) * (Q : Int) * ((t : Int) * (Q : Int)) * c = (Q : Int) * ((p : Int) * ((u : Int) * (t : Int) * (t : Int) * c)) := by
      rw [hQi]; grind
    rw [this]; grind
  rw [e2, Int.mul_emod_mul_of_pos _ _ hQ0]
  have e3 : (a % (p : Int) + (t : Int) * (D % (p : Int))) % (p : Int) = (a + D * (t : Int) + (p : Int) * ((u : Int) * (t : Int) * (t : Int) * c)) % (p : Int) := by
    rw [Int.add_mul_emod_self_left, Int.emod_add_emod, Int.add_emod, Int.mul_emod, Int.emod_emod, ← Int.mul_emod, ← Int.add_emod, Int.mul_comm]
  rw [e3]
  constructor
  · intro h
    rcases Int.mul_eq_zero.1 h with h | h
    · omega
    · exact h
  · intro h; rw [h, Int.mul_zero]

/-- What rootsAbove has gathered behind so many roots. -/
def ups (l : List Int) (Q p : Nat) (L : List Int) : List Int := L.flatMap fun r => abv (vOf l Q p r) (sOf l p r) r Q p p

theorem ups_root {l : List Int} {Q p : Nat} {L L' : List Int} (hQ : 0 < Q) (hp : 0 < p) (hpQ : p ∣ Q) (h : RootL l Q L) (hs : L' <+: L) :
    (∀ x ∈ ups l Q p L', 0 ≤ x ∧ x < ((Q * p : Nat) : Int) ∧ pv l x % ((Q * p : Nat) : Int) = 0 ∧ x % (Q : Int) ∈ L') ∧ (ups l Q p L').Nodup := by
  have hM : ((Q * p : Nat) : Int) = (Q : Int) * (p : Int) := by simp
  have hsub : ∀ r ∈ L', r ∈ L := fun r hr => hs.subset hr
  have hmem : ∀ x ∈ ups l Q p L', ∃ r ∈ L', ∃ t : Nat, t < p ∧ x = r + (t : Int) * (Q : Int) ∧ (vOf l Q p r + (t : Int) * sOf l p r) % (p : Int) = 0 := by
    intro x hx
    obtain ⟨r, hr, hx⟩ := List.mem_flatMap.1 hx
    obtain ⟨t, h1, h2, h3⟩ := (abv_mem _ _ _ _ _ _ _).1 hx
    exact ⟨r, hr, t, h1, h3, h2⟩
  refine ⟨?_, ?_⟩
  · intro x hx
    obtain ⟨r, hr, t, ht, rfl, h2⟩ := hmem x hx
    obtain ⟨r0, r1, r2⟩ := (h.mem r).1 (hsub r hr)
    have h3 : (t : Int) * (Q : Int) ≤ ((p : Int) - 1) * (Q : Int) := Int.mul_le_mul_of_nonneg_right (by omega) (by omega)
    have h4 : 0 ≤ (t : Int) * (Q : Int) := Int.mul_nonneg (by omega) (by omega)
    rw [Int.sub_mul, Int.one_mul, Int.mul_comm (p : Int)] at h3
    refine ⟨by omega, by omega, (above_root hQ hp hpQ r2 t).2 h2, ?_⟩
    rw [Int.mul_comm, Int.add_mul_emod_self_left, Int.emod_eq_of_lt r0 r1]; exact hr
  · -- by the roots in order
    clear hmem
    have hnd : L'.Nodup := hs.sublist.nodup h.nd
    clear hs
    induction L' with
    | nil => simp [ups]
    | cons r L' ih =>
      rw [ups, List.flatMap_cons]
      refine List.nodup_append.2 ⟨abv_nd _ _ _ _ _ _ hQ, ih (fun r hr => hsub r (List.mem_cons_of_mem _ hr)) (List.nodup_cons.1 hnd).2, ?_⟩
      intro x hx y hy e
      subst e
      obtain ⟨t, h1, h2, h3⟩ := (abv_mem _ _ _ _ _ _ _).1 hx
      obtain ⟨r', hr', hx'⟩ := List.mem_flatMap.1 hy
      obtain ⟨t', h1', h2', h3'⟩ := (abv_mem _ _ _ _ _ _ _).1 hx'
      obtain ⟨r0, r1, _⟩ := (h.mem r).1 (hsub r (List.mem_cons_self ..))
      obtain ⟨r0', r1', _⟩ := (h.mem r').1 (hsub r' (List.mem_cons_of_mem _ hr'))
      have e1 : x % (Q : Int) = r := by rw [h3, Int.mul_comm, Int.add_mul_emod_self_left, Int.emod_eq_of_lt r0 r1]
      have e2 : x % (Q : Int) = r' := by rw [h3', Int.mul_comm, Int.add_mul_emod_self_left, Int.emod_eq_of_lt r0' r1']
      have : r = r' := e1.symm.trans e2
      subst this
      exact (List.nodup_cons.1 hnd).1 hr'

theorem ups_all {l : List Int} {Q p : Nat} {L : List Int} (hQ : 0 < Q) (hp : 0 < p) (hpQ : p ∣ Q) (h : RootL l Q L) : RootL l (Q * p) (ups l Q p L) := by
  obtain ⟨h1, h2⟩ := ups_root hQ hp hpQ h (List.prefix_refl L)
  refine ⟨fun x => ⟨fun hx => ⟨(h1 x hx).1, (h1 x hx).2.1, (h1 x hx).2.2.1⟩, ?_⟩, h2⟩
  rintro ⟨x0, x1, x2⟩
  have hM : ((Q * p : Nat) : Int) = (Q : Int) * (p : Int) := by simp
  have hr0 := Int.emod_nonneg x (show (Q : Int) ≠ 0 by omega)
  have hr1 := Int.emod_lt_of_pos x (show 0 < (Q : Int) by omega)
  have hx := Int.emod_add_mul_ediv x (Q : Int)
  have hq0 : 0 ≤ x / (Q : Int) := Int.ediv_nonneg x0 (by omega)
  have hq1 : x / (Q : Int) < (p : Int) := by
    rw [hM] at x1
    exact Int.ediv_lt_of_lt_mul (by omega) (by rw [Int.mul_comm]; exact x1)
  obtain ⟨t, ht⟩ : ∃ t : Nat, x / (Q : Int) = t := ⟨(x / (Q : Int)).toNat, by omega⟩
  have hxr : x = x % (Q : Int) + (t : Int) * (Q : Int) := by rw [← ht, Int.mul_comm]; omega
  have hroot : pv l (x % (Q : Int)) % (Q : Int) = 0 := by
    have hd : ((Q : Int)) ∣ x % (Q : Int) - x := ⟨-(x / (Q : Int)), by rw [Int.mul_neg]; omega⟩
    have h3 := pv_same l hd
    have h4 : (Q : Int) ∣ pv l x := Int.dvd_trans ⟨(p : Int), hM⟩ (Int.dvd_of_emod_eq_zero x2)
    have h5 : (Q : Int) ∣ pv l (x % (Q : Int)) := by
      have := Int.dvd_add h3 h4
      rwa [Int.sub_add_cancel] at this
    exact Int.emod_eq_zero_of_dvd h5
  refine List.mem_flatMap.2 ⟨x % (Q : Int), (h.mem _).2 ⟨hr0, hr1, hroot⟩, (abv_mem _ _ _ _ _ _ _).2 ⟨t, by omega, ?_, hxr⟩⟩
  refine (above_root hQ hp hpQ hroot t).1 ?_
  rw [← hxr]; exact x2

/-- A list with each number once, all of them among those from 0 to n - 1, is no longer than n. -/
theorem len_le_of_sub : ∀ (A B : List Int), A.Nodup → (∀ x ∈ A, x ∈ B) → A.length ≤ B.length := by
  intro A
  induction A with
  | nil => intro B _ _; simp
  | cons a A ih =>
    intro B hn hs
    have ha := hs a (List.mem_cons_self ..)
    have := ih (B.erase a) (List.nodup_cons.1 hn).2 (fun x hx => by
      have hne : x ≠ a := by rintro rfl; exact (List.nodup_cons.1 hn).1 hx
      exact (List.mem_erase_of_ne hne).2 (hs x (List.mem_cons_of_mem _ hx)))
    rw [List.length_erase_of_mem ha] at this
    have : 0 < B.length := List.length_pos_of_mem ha
    simp; omega
theorem len_le {A : List Int} {q : Nat} (hn : A.Nodup) (h : ∀ x ∈ A, 0 ≤ x ∧ x < (q : Int)) : A.length ≤ q := by
  have := len_le_of_sub A ((List.range q).map fun n : Nat => (n : Int)) hn (fun x hx => by
    obtain ⟨h1, h2⟩ := h x hx
    exact List.mem_map.2 ⟨x.toNat, List.mem_range.2 (by omega), by omega⟩)
  simpa using this

/-- How many roots there are, by trying all. -/
def cntR (l : List Int) (q : Nat) (n : Nat) : List Int := ((List.range n).filter fun x : Nat => decide (pv l (x : Int) % (q : Int) = 0)).map fun x : Nat => (x : Int)
theorem cntR_app (l : List Int) (q n : Nat) : cntR l q (n + 1) = cntR l q n ++ (if pv l (n : Int) % (q : Int) = 0 then [(n : Int)] else []) := by
  unfold cntR
  rw [List.range_succ, List.filter_append, List.map_append]
  congr 1
  by_cases h : pv l (n : Int) % (q : Int) = 0
  · simp [h]
  · simp [h]
theorem cntR_succ (l : List Int) (q n : Nat) : (cntR l q (n + 1)).length = (cntR l q n).length + (if pv l (n : Int) % (q : Int) = 0 then 1 else 0) := by
  unfold cntR
  rw [List.range_succ, List.filter_append, List.map_append, List.length_append]
  congr 1
  by_cases h : pv l (n : Int) % (q : Int) = 0
  · simp [h]
  · simp [h]
theorem cntR_le (l : List Int) (q n : Nat) : (cntR l q n).length ≤ n := by
  unfold cntR
  rw [List.length_map]
  exact Nat.le_trans (List.length_filter_le _ _) (by simp)
theorem cntR_root (l : List Int) (q : Nat) : RootL l q (cntR l q q) := by
  refine ⟨fun x => ?_, ?_⟩
  · simp only [cntR, List.mem_map, List.mem_filter, List.mem_range, decide_eq_true_eq]
    constructor
    · rintro ⟨n, ⟨h1, h2⟩, rfl⟩; exact ⟨by omega, by omega, h2⟩
    · rintro ⟨h1, h2, h3⟩
      exact ⟨x.toNat, ⟨by omega, by rw [show ((x.toNat : Nat) : Int) = x by omega]; exact h3⟩, by omega⟩
  · unfold cntR
    refine List.Pairwise.map _ ?_ (List.Pairwise.filter _ List.nodup_range)
    intro a b h e
    omega
theorem RootL.len {l : List Int} {q : Nat} {L L' : List Int} (h : RootL l q L) (h' : RootL l q L') : L.length = L'.length := by
  have h1 := len_le_of_sub L L' h.nd (fun x hx => (h'.mem x).2 ((h.mem x).1 hx))
  have h2 := len_le_of_sub L' L h'.nd (fun x hx => (h.mem x).2 ((h'.mem x).1 hx))
  omega

end Go.Proofs.YtidndbdjhapfaaaGreatDoor
end

section
/- padic.rootsByPrime, padic.rootsAbove. -/
set_option linter.unusedSimpArgs false
set_option linter.unusedVariables false
set_option maxRecDepth 100000
namespace Go.Proofs.YtidndbdjhapfaaaGreatDoor
open Go.RowKit

set_option maxHeartbeats 1000000 in
theorem rootsByPrime_any (P : Nat) (s : Value) (l : List Int) (w : World) (hP : 2 ≤ P) (hP2 : P ≤ 2000) (hs : IS w s l) (hl : l.length ≤ 13) (hn : ∀ i, i < l.length → numB (l.getD i 0) = true) :
    Calls Tryz.prog 34 #[.int .i64 P, s] w fun e w' => ∃ a c, e = .returned (.slice a (cntR l P P).length c) ∧ w'.ownsRow w.heap.size 3 1 (.slice a (cntR l P P).length c) (cntR l P P).length (ints (cntR l P P)) ∧ Below w.heap.size w w' := by
  obtain ⟨i0, hi, hz0, hz1, hz2⟩ := info_parts Tryz.infoInt
  have HI : Hid (Tryz.prog.info? 3 = some i0 ∧ i0.zero = some (.int .i64 0) ∧ i0.size = 1 ∧ i0.bytes = 8) := ⟨hi, hz0, hz1, hz2⟩
  clear hi hz0 hz1 hz2
  have HIS : Hid (IS w s l) := hs
  have hn4 : ∀ i, i < l.length → (l.getD i 0).natAbs ≤ 4000000000000000000 := fun i hi => Nat.le_trans (num_abs (hn i hi)) (by decide)
  have HV : Hid (∀ (x : Nat), x ≤ 2000 → ∀ w, IS w s l → Calls Tryz.prog 30 #[s, .int .i64 x, .int .i64 P] w fun e w' => e = .returned (.int .i64 (pv l x % (P : Int))) ∧ ∃ q, w' = w.drewN q) := fun x hx w h => valueAt_any s l x P w h (by omega) hn4 (by omega) (by omega) (by omega)
  obtain ⟨aa, g, o, cap, rfl, _⟩ := hs
  clear hn hn4 hl
  go_enter Tryz.func34, Tryz.ntmps34
  go_wp2
  go_loopw [5, 8] (fun av iv wx => ∃ (i n : Nat) (a : Option Addr) (c : Nat), i ≤ P ∧ n ≤ i ∧ iv = .int .i64 i ∧ av = .slice a n c ∧ w.heap.size ≤ wx.heap.size ∧ Hid (n = (cntR l P i).length ∧ wx.ownsRow w.heap.size 3 1 (.slice a n c) n (ints (cntR l P i)) ∧ Below w.heap.size w wx)) (fun _ iv _ => P - (intOf iv).toNat)
  case atStart => exact ⟨0, 0, none, 0, Nat.zero_le _, Nat.le_refl _, rfl, rfl, Nat.le_refl _, rfl, World.ownsRow_nil _ _ _ _, Below.refl _ _⟩
  case round =>
    obtain ⟨i, n, a, c, hi, hni, rfl, rfl, hsz, HR⟩ := hrel
    by_cases hlt : i < P
    · have v0 := Int.emod_nonneg (pv l (i : Int)) (show (P : Int) ≠ 0 by omega)
      have v1 := Int.emod_lt_of_pos (pv l (i : Int)) (show 0 < (P : Int) by omega)
      obtain ⟨V, hV⟩ : ∃ V, V = pv l (i : Int) % (P : Int) := ⟨_, rfl⟩
      have HVi : Hid (∀ w, IS w (.slice aa l.length cap) l → Calls Tryz.prog 30 #[.slice aa l.length cap, .int .i64 i, .int .i64 P] w fun e w' => e = .returned (.int .i64 V) ∧ ∃ q, w' = w.drewN q) := by rw [hV]; exact HV.out i (by omega)
      have HVE : Hid (V = pv l (i : Int) % (P : Int)) := hV
      rw [← hV] at v0 v1
      clear hV
      go_wp2_with fail
      refine (HVi.out _ (HIS.out.belowP HR.out.2.2)).mono ?_
      rintro e w2 ⟨rfl, q2, hw2⟩
      have row2 : w2.ownsRow w.heap.size 3 1 (.slice a n c) n (ints (cntR l P i)) := by rw [hw2]; exact HR.out.2.1
      have k2 : Below w.heap.size w w2 := by rw [hw2]; exact below_drewN' HR.out.2.2
      have hsz2 : w.heap.size ≤ w2.heap.size := k2.size
      have ROW : Hid (w2.ownsRow w.heap.size 3 1 (.slice a n c) n (ints (cntR l P i))) := row2
      have HK2 : Hid (Below w.heap.size w w2) := k2
      clear hw2 row2 k2
      by_cases h0 : V = 0
      · have hb : (V == 0) = true := by rw [h0]; rfl
        have HN : Hid (cntR l P (i + 1) = cntR l P i ++ [(i : Int)]) := by show _ = _; rw [cntR_app, if_pos (by rw [← HVE.out]; exact h0)]
        subst h0
        go_wp2_with (at_builtin; refine wpList_append_own_at _ rfl _ _ 22 rfl w.heap.size 3 i0 (.int .i64 0) 1 8 Tryz.underlying22 HI.out.1 HI.out.2.1 HI.out.2.2.1 HI.out.2.2.2 rfl (by decide) (.slice a n c) n (ints (cntR l P i)) rfl (ROW.out.alloc _) ⟨w2.heap.size, 0, none⟩ 1 1 [.int .i64 (i : Int)] rfl rfl (cell_one_new _ _ _) (by simp [Value.oneCell']) (by simp only [maxLen]; omega) (by omega) (by simp; omega) ?_; intro v' w3 hown' hgrow _ hob; obtain ⟨g', cap', rfl⟩ := ownsRow_succ hown')
        have K3 : Below w.heap.size w w3 := (HK2.out.alloc hsz2 _).grown hgrow (by simp; omega) (fun k e => (ROW.out.lt k e).1)
        have row3 : w3.ownsRow w.heap.size 3 1 (.slice (some ⟨g', 0, none⟩) (n + 1) cap') (n + 1) (ints (cntR l P (i + 1))) := by
          rw [HN.out, ints, List.map_append]; exact hown'
        have HF : Hid (n + 1 = (cntR l P (i + 1)).length ∧ w3.ownsRow w.heap.size 3 1 (.slice (some ⟨g', 0, none⟩) (n + 1) cap') (n + 1) (ints (cntR l P (i + 1))) ∧ Below w.heap.size w w3) := ⟨by rw [HN.out, List.length_append, ← HR.out.1]; rfl, row3, K3⟩
        have hsz3 := K3.size
        clear K3 row3 hown' hgrow hob
        go_wp2
        go_roundw
        case rel => exact ⟨i + 1, n + 1, some ⟨g', 0, none⟩, cap', by omega, by omega, by go_num, rfl, hsz3, HF.out⟩
        case measure => simp [intOf]; omega
      · have hb : (V == 0) = false := beq_eq_false_iff_ne.2 h0
        have HN : Hid (cntR l P (i + 1) = cntR l P i) := by show _ = _; rw [cntR_app, if_neg (by rw [← HVE.out]; exact h0), List.append_nil]
        clear h0
        go_wp2
        go_roundw
        case rel => exact ⟨i + 1, n, a, c, by omega, by omega, by go_num, rfl, hsz2, by rw [HN.out]; exact HR.out.1, by rw [HN.out]; exact ROW.out, HK2.out⟩
        case measure => simp [intOf]; omega
    · obtain rfl : i = P := by omega
      have hn : n = (cntR l i i).length := HR.out.1
      subst hn
      go_wp2
      go_ret
      exact ⟨a, c, rfl, HR.out.2.1, HR.out.2.2⟩

end Go.Proofs.YtidndbdjhapfaaaGreatDoor
end

section
/- padic.rootsAbove. -/
set_option linter.unusedSimpArgs false
set_option linter.unusedVariables false
set_option maxRecDepth 100000
namespace Go.Proofs.YtidndbdjhapfaaaGreatDoor
open Go.RowKit

theorem ups_take {l : List Int} {Q P : Nat} {L : List Int} {i : Nat} (h : i < L.length) : ups l Q P (L.take (i + 1)) = ups l Q P (L.take i) ++ abv (vOf l Q P (L.getD i 0)) (sOf l P (L.getD i 0)) (L.getD i 0) Q P P := by
  rw [List.take_succ_eq_append_getElem h, ups, List.flatMap_append, List.getD_eq_getElem?_getD, List.getElem?_eq_getElem h]
  simp [ups]

theorem vOf_bounds {l : List Int} {Q P : Nat} (hQ : 0 < Q) (hP : 0 < P) (r : Int) : 0 ≤ vOf l Q P r ∧ vOf l Q P r < (P : Int) := by
  unfold vOf
  have h0 := Int.emod_nonneg (pv l r) (show ((Q * P : Nat) : Int) ≠ 0 by have := Nat.mul_pos hQ hP; omega)
  have h1 := Int.emod_lt_of_pos (pv l r) (show 0 < ((Q * P : Nat) : Int) by have := Nat.mul_pos hQ hP; omega)
  refine ⟨Int.ediv_nonneg h0 (by omega), Int.ediv_lt_of_lt_mul (by omega) ?_⟩
  rw [Int.mul_comm]
  simpa using h1

set_option maxHeartbeats 4000000 in
theorem rootsAbove_any (Q P : Nat) (s2 s : Value) (L l : List Int) (w : World) (hP : 2 ≤ P) (hP2 : P ≤ 2000) (hQ : 0 < Q) (hM : Q * P ≤ 1000000000000000000) (hpQ : P ∣ Q) (hR : RootL l Q L) (hL : L.length ≤ 1000) (hs2 : IS w s2 L) (hs : IS w s l) (hl : l.length ≤ 13) (hn : ∀ i, i < l.length → numB (l.getD i 0) = true) :
    Calls Tryz.prog 35 #[s2, .int .i64 Q, .int .i64 P, s] w fun e w' => ∃ (a : Option Addr) (n c : Nat) (L' : List Int), e = .returned (.slice a n c) ∧ n = (ups l Q P L').length ∧ n ≤ 3000 ∧ L' <+: L ∧ (L' = L ∨ 1000 < n) ∧ w'.ownsRow w.heap.size 3 1 (.slice a n c) n (ints (ups l Q P L')) ∧ Below w.heap.size w w' := by
  obtain ⟨i0, hi, hz0, hz1, hz2⟩ := info_parts Tryz.infoInt
  have HI : Hid (Tryz.prog.info? 3 = some i0 ∧ i0.zero = some (.int .i64 0) ∧ i0.size = 1 ∧ i0.bytes = 8) := ⟨hi, hz0, hz1, hz2⟩
  clear hi hz0 hz1 hz2
  have HIS : Hid (IS w s l) := hs
  have hn4 : ∀ i, i < l.length → (l.getD i 0).natAbs ≤ 4000000000000000000 := fun i hi => Nat.le_trans (num_abs (hn i hi)) (by decide)
  obtain ⟨M, hMe⟩ : ∃ M, M = Q * P := ⟨_, rfl⟩
  have hMi : (Q : Int) * (P : Int) = (M : Int) := by rw [hMe]; simp
  have hM0 : 0 < M := by rw [hMe]; exact Nat.mul_pos hQ (by omega)
  have hQM : Q ≤ M := by rw [hMe]; exact Nat.le_mul_of_pos_right Q (by omega)
  rw [← hMe] at hM
  have HV : Hid (∀ (r : Int), 0 ≤ r → r < (Q : Int) → ∀ w, IS w s l → Calls Tryz.prog 30 #[s, .int .i64 r, .int .i64 M] w fun e w' => e = .returned (.int .i64 (pv l r % (M : Int))) ∧ ∃ q, w' = w.drewN q) := fun r h1 h2 w h => valueAt_any s l r M w h (by omega) hn4 (by omega) hM0 hM
  have HSl : Hid (∀ (r : Int), 0 ≤ r → r < (Q : Int) → ∀ w, IS w s l → Calls Tryz.prog 27 #[s, .int .i64 r, .int .i64 P] w fun e w' => e = .returned (.int .i64 (sOf l P r)) ∧ Below w.heap.size w w') := fun r h1 h2 w h => slopeAt_any s l r P w h (by omega) hn4 (by omega) (by omega) (by omega)
  obtain ⟨aa, g, o, cap, rfl, _⟩ := hs
  obtain ⟨ba, bg, bo, bc, rfl, hba, hbc, hbg⟩ := hs2
  obtain ⟨K, hK⟩ : ∃ K, K = L.length := ⟨_, rfl⟩
  rw [← hK] at hba hbc hbg hL ⊢
  have HBA : Hid (0 < K → ba = some ⟨bg, bo, none⟩) := hba
  have HBC : Hid (∀ i, i < K → w.cell? ⟨bg, bo + i, none⟩ = some (.int .i64 (L.getD i 0))) := hbc
  have HBG : Hid (0 < K → bg < w.heap.size) := hbg
  have HK : Hid (K = L.length) := hK
  have HR : Hid (RootL l Q L) := hR
  have HME : Hid (M = Q * P) := hMe
  clear hn hn4 hl hba hbc hbg hK hR hMe hpQ
  have hQ0 : ((Q : Int) == 0) = false := beq_eq_false_iff_ne.2 (by omega)
  have hP0 : ((P : Int) == 0) = false := beq_eq_false_iff_ne.2 (by omega)
  go_enter Tryz.func35, Tryz.ntmps35
  go_wp2
  go_loopw [9, 17] (fun av iv wx => ∃ (i n : Nat) (a : Option Addr) (c : Nat), i ≤ K ∧ n ≤ 1000 ∧ iv = .int .i64 i ∧ av = .slice a n c ∧ w.heap.size ≤ wx.heap.size ∧ Hid (n = (ups l Q P (L.take i)).length ∧ wx.ownsRow w.heap.size 3 1 (.slice a n c) n (ints (ups l Q P (L.take i))) ∧ Below w.heap.size w wx)) (fun _ iv _ => K - (intOf iv).toNat)
  case atStart => exact ⟨0, 0, none, 0, Nat.zero_le _, by omega, rfl, rfl, Nat.le_refl _, by simp [ups], by simp [ups, ints]; exact World.ownsRow_nil _ _ _ _, Below.refl _ _⟩
  case round =>
    obtain ⟨i, n, a, c, hi, hn1, rfl, rfl, hsz, HRel⟩ := hrel
    by_cases hlt : i < K
    · obtain rfl := HBA.out (by omega)
      obtain ⟨r, hr⟩ : ∃ r, r = L.getD i 0 := ⟨_, rfl⟩
      have hrm : r ∈ L := by
        rw [hr, List.getD_eq_getElem?_getD, List.getElem?_eq_getElem (by rw [← HK.out]; exact hlt)]
        exact List.getElem_mem _
      obtain ⟨r0, r1, r2⟩ := (HR.out.mem r).1 hrm
      have hcell : wr.cell? ⟨bg, bo + i, none⟩ = some (.int .i64 r) := by rw [hr]; exact (HRel.out.2.2.cell (p := ⟨bg, bo + i, none⟩) (HBG.out (by omega))).trans (HBC.out i hlt)
      have v0 := Int.emod_nonneg (pv l r) (show (M : Int) ≠ 0 by omega)
      have v1 := Int.emod_lt_of_pos (pv l r) (show 0 < (M : Int) by omega)
      obtain ⟨V0, hV0⟩ : ∃ V0, V0 = pv l r % (M : Int) := ⟨_, rfl⟩
      have HVr : Hid (∀ w, IS w (.slice aa l.length cap) l → Calls Tryz.prog 30 #[.slice aa l.length cap, .int .i64 r, .int .i64 M] w fun e w' => e = .returned (.int .i64 V0) ∧ ∃ q, w' = w.drewN q) := by rw [hV0]; exact HV.out r r0 r1
      rw [← hV0] at v0 v1
      obtain ⟨V, hV⟩ : ∃ V, V = vOf l Q P r := ⟨_, rfl⟩
      have hVi : V0 / (Q : Int) = V := by rw [hV, vOf, hV0, HME.out]
      obtain ⟨hVa, hVb⟩ := vOf_bounds (l := l) hQ (show 0 < P by omega) r
      rw [← hV] at hVa hVb
      obtain ⟨S, hS⟩ : ∃ S, S = sOf l P r := ⟨_, rfl⟩
      have hSa : 0 ≤ S := by rw [hS]; exact Int.emod_nonneg _ (by omega)
      have hSb : S < (P : Int) := by rw [hS]; exact Int.emod_lt_of_pos _ (by omega)
      have HSr : Hid (∀ w, IS w (.slice aa l.length cap) l → Calls Tryz.prog 27 #[.slice aa l.length cap, .int .i64 r, .int .i64 P] w fun e w' => e = .returned (.int .i64 S) ∧ Below w.heap.size w w') := by rw [hS]; exact HSl.out r r0 r1
      have HNx : Hid (ups l Q P (L.take (i + 1)) = ups l Q P (L.take i) ++ abv V S r Q P P) := by
        show _ = _
        rw [ups_take (by rw [← HK.out]; exact hlt), ← hr, ← hV, ← hS]
      clear hr hrm r2 hV0 hV hS
      go_wp2_with fail
      refine (HVr.out _ (HIS.out.belowP HRel.out.2.2)).mono ?_
      rintro e w2 ⟨rfl, q2, hw2⟩
      have k2 : Below w.heap.size w w2 := by rw [hw2]; exact below_drewN' HRel.out.2.2
      have row2 : w2.ownsRow w.heap.size 3 1 (.slice a n c) n (ints (ups l Q P (L.take i))) := by rw [hw2]; exact HRel.out.2.1
      have HK2 : Hid (Below w.heap.size w w2) := k2
      have HRow2 : Hid (w2.ownsRow w.heap.size 3 1 (.slice a n c) n (ints (ups l Q P (L.take i)))) := row2
      clear hw2 k2 row2 hcell
      go_wp2_with fail
      refine (HSr.out _ (HIS.out.belowP HK2.out)).mono ?_
      rintro e w3 ⟨rfl, k3⟩
      have HK3 : Hid (Below w.heap.size w w3) := HK2.out.trans (k3.mono HK2.out.size)
      have HRow3 : Hid (w3.ownsRow w.heap.size 3 1 (.slice a n c) n (ints (ups l Q P (L.take i)))) := row_kept HRow2.out (fun g e => k3.block g (HRow2.out.lt g e).2)
      clear k3 HK2 HRow2 v0 v1
      go_wp2
      go_loopw [9, 34] (fun av tv wx => ∃ (t m : Nat) (a : Option Addr) (c : Nat), t ≤ P ∧ m ≤ 1000 + t ∧ tv = .int .i64 t ∧ av = .slice a m c ∧ w.heap.size ≤ wx.heap.size ∧ Hid (m = (ups l Q P (L.take i) ++ abv V S r Q P t).length ∧ wx.ownsRow w.heap.size 3 1 (.slice a m c) m (ints (ups l Q P (L.take i) ++ abv V S r Q P t)) ∧ Below w.heap.size w wx)) (fun _ tv _ => P - (intOf tv).toNat)
      case atStart => exact ⟨0, n, a, c, Nat.zero_le _, by omega, rfl, rfl, HK3.out.size, by simp [abv]; exact HRel.out.1, by simp [abv]; exact HRow3.out, HK3.out⟩
      case round =>
        obtain ⟨t, m, a2, c2, ht, hm, rfl, rfl, hsz2, HIn⟩ := hrel
        by_cases htl : t < P
        · obtain ⟨T, hT⟩ : ∃ T, T = (t : Int) * S := ⟨_, rfl⟩
          have hTi : (t : Int) * S = T := hT.symm
          have hTb : 0 ≤ T ∧ T ≤ 4000000 := by
            have h1 := Int.mul_nonneg (show 0 ≤ (t : Int) by omega) hSa
            have h2 : (t : Int) * S ≤ 2000 * 2000 := Int.mul_le_mul (by omega) (by omega) hSa (by omega)
            omega
          obtain ⟨R, hRr⟩ : ∃ R, R = (V + T) % (P : Int) := ⟨_, rfl⟩
          have hRi : (V + T) % (P : Int) = R := hRr.symm
          by_cases h0 : R = 0
          · have hb : (R == 0) = true := by rw [h0]; rfl
            obtain ⟨TQ, hTQ⟩ : ∃ TQ, TQ = (t : Int) * (Q : Int) := ⟨_, rfl⟩
            have hTQi : (t : Int) * (Q : Int) = TQ := hTQ.symm
            have hTQb : 0 ≤ TQ ∧ TQ + (Q : Int) ≤ (M : Int) := by
              have h1 := Int.mul_nonneg (show 0 ≤ (t : Int) by omega) (show 0 ≤ (Q : Int) by omega)
              have h2 : (t : Int) * (Q : Int) ≤ ((P : Int) - 1) * (Q : Int) := Int.mul_le_mul_of_nonneg_right (by omega) (by omega)
              rw [Int.sub_mul, Int.one_mul, Int.mul_comm (P : Int)] at h2
              omega
            have HN : Hid (abv V S r Q P (t + 1) = abv V S r Q P t ++ [r + TQ]) := by
              show _ = _
              rw [abv_succ, if_pos (by rw [hTi, hRi]; exact h0), hTQi]
            subst h0
            clear hT hRr hTQ
            go_wp2_with (at_builtin; refine wpList_append_own_at _ rfl _ _ 22 rfl w.heap.size 3 i0 (.int .i64 0) 1 8 Tryz.underlying22 HI.out.1 HI.out.2.1 HI.out.2.2.1 HI.out.2.2.2 rfl (by decide) (.slice a2 m c2) m (ints (ups l Q P (L.take i) ++ abv V S r Q P t)) rfl (HIn.out.2.1.alloc _) ⟨wr.heap.size, 0, none⟩ 1 1 [.int .i64 (r + TQ)] rfl rfl (cell_one_new _ _ _) (by simp [Value.oneCell']) (by simp only [maxLen]; omega) (by omega) (by simp; omega) ?_; intro v' w4 hown' hgrow _ hob; obtain ⟨g', cap', rfl⟩ := ownsRow_succ hown')
            have K4 : Below w.heap.size w w4 := (HIn.out.2.2.alloc hsz2 _).grown hgrow (by simp; omega) (fun k e => (HIn.out.2.1.lt k e).1)
            have row4 : w4.ownsRow w.heap.size 3 1 (.slice (some ⟨g', 0, none⟩) (m + 1) cap') (m + 1) (ints (ups l Q P (L.take i) ++ abv V S r Q P (t + 1))) := by
              rw [HN.out, ← List.append_assoc, ints, List.map_append]; exact hown'
            have HF : Hid (m + 1 = (ups l Q P (L.take i) ++ abv V S r Q P (t + 1)).length ∧ w4.ownsRow w.heap.size 3 1 (.slice (some ⟨g', 0, none⟩) (m + 1) cap') (m + 1) (ints (ups l Q P (L.take i) ++ abv V S r Q P (t + 1))) ∧ Below w.heap.size w w4) := ⟨by rw [HN.out, ← List.append_assoc, List.length_append, ← HIn.out.1]; rfl, row4, K4⟩
            have hsz4 := K4.size
            clear K4 row4 hown' hgrow hob
            go_wp2
            go_roundw
            case rel => exact ⟨t + 1, m + 1, some ⟨g', 0, none⟩, cap', by omega, by omega, by go_num, rfl, hsz4, HF.out⟩
            case measure => simp [intOf]; omega
          · have hb : (R == 0) = false := beq_eq_false_iff_ne.2 h0
            have HN : Hid (abv V S r Q P (t + 1) = abv V S r Q P t) := by
              show _ = _
              rw [abv_succ, if_neg (by rw [hTi, hRi]; exact h0), List.append_nil]
            clear h0 hT hRr
            go_wp2
            go_roundw
            case rel => exact ⟨t + 1, m, a2, c2, by omega, by omega, by go_num, rfl, hsz2, by rw [HN.out]; exact HIn.out⟩
            case measure => simp [intOf]; omega
        · obtain rfl : t = P := by omega
          have HIn2 : Hid (m = (ups l Q t (L.take (i + 1))).length ∧ wr.ownsRow w.heap.size 3 1 (.slice a2 m c2) m (ints (ups l Q t (L.take (i + 1)))) ∧ Below w.heap.size w wr) := by rw [HNx.out]; exact HIn.out
          by_cases hm1 : 1000 < m
          · go_wp2
            go_ret
            exact ⟨a2, m, c2, L.take (i + 1), rfl, HIn2.out.1, by omega, List.take_prefix .., .inr hm1, HIn2.out.2.1, HIn2.out.2.2⟩
          · go_wp2
            go_roundw
            case rel => exact ⟨i + 1, m, a2, c2, by omega, by omega, by go_num, rfl, hsz2, HIn2.out⟩
            case measure => simp [intOf]; omega
    · obtain rfl : i = K := by omega
      have HF : Hid (n = (ups l Q P L).length ∧ wr.ownsRow w.heap.size 3 1 (.slice a n c) n (ints (ups l Q P L)) ∧ Below w.heap.size w wr) := by
        have := HRel.out
        rw [List.take_of_length_le (by rw [← HK.out]; exact Nat.le_refl _)] at this
        exact this
      go_wp2
      go_ret
      exact ⟨a, n, c, L, rfl, HF.out.1, by omega, List.prefix_refl L, .inl rfl, HF.out.2.1, HF.out.2.2⟩

end Go.Proofs.YtidndbdjhapfaaaGreatDoor
end

section
/- padic.roots. -/
set_option linter.unusedSimpArgs false
set_option linter.unusedVariables false
set_option maxRecDepth 100000
namespace Go.Proofs.YtidndbdjhapfaaaGreatDoor
open Go.RowKit

set_option maxHeartbeats 2000000 in
theorem roots_any (P K : Nat) (s : Value) (l : List Int) (w : World) (hP : 2 ≤ P) (hP2 : P ≤ 2000) (hK : 1 ≤ K) (hK6 : K ≤ 60) (hM : P ^ K ≤ 1000000000000000000) (hs : IS w s l) (hl : l.length ≤ 13) (hn : ∀ i, i < l.length → numB (l.getD i 0) = true) :
    Calls Tryz.prog 14 #[.int .i64 P, .int .i64 K, s] w fun e w' => ∃ (a : Option Addr) (n c : Nat) (b : Bool), e = .returned (.tuple #[.slice a n c, .bool b]) ∧ Below w.heap.size w w' ∧
      ((b = true ∧ n ≤ 1000 ∧ ∃ L, RootL l (P ^ K) L ∧ n = L.length ∧ w'.ownsRow w.heap.size 3 1 (.slice a n c) n (ints L)) ∨ (b = false ∧ 1000 < P ^ K)) := by
  have HIS : Hid (IS w s l) := hs
  have HPr : Hid (∀ w, IS w s l → Calls Tryz.prog 34 #[.int .i64 P, s] w fun e w' => ∃ a c, e = .returned (.slice a (cntR l P P).length c) ∧ w'.ownsRow w.heap.size 3 1 (.slice a (cntR l P P).length c) (cntR l P P).length (ints (cntR l P P)) ∧ Below w.heap.size w w') := fun w h => rootsByPrime_any P s l w hP hP2 h hl hn
  have HAb : Hid (∀ (Q : Nat) (s2 : Value) (L : List Int) w, 0 < Q → Q * P ≤ 1000000000000000000 → P ∣ Q → RootL l Q L → L.length ≤ 1000 → IS w s2 L → IS w s l →
      Calls Tryz.prog 35 #[s2, .int .i64 Q, .int .i64 P, s] w fun e w' => ∃ (a : Option Addr) (n c : Nat) (L' : List Int), e = .returned (.slice a n c) ∧ n = (ups l Q P L').length ∧ n ≤ 3000 ∧ L' <+: L ∧ (L' = L ∨ 1000 < n) ∧ w'.ownsRow w.heap.size 3 1 (.slice a n c) n (ints (ups l Q P L')) ∧ Below w.heap.size w w') :=
    fun Q s2 L w h1 h2 h3 h4 h5 h6 h7 => rootsAbove_any Q P s2 s L l w hP hP2 h1 h2 h3 h4 h5 h6 h7 hl hn
  obtain ⟨aa, g, o, cap, rfl, _⟩ := hs
  obtain ⟨K', rfl⟩ : ∃ K', K = K' + 1 := ⟨K - 1, by omega⟩
  have hKi : ((K' + 1 : Nat) : Int) - 1 = (K' : Int) := by omega
  have HM : Hid (P ^ (K' + 1) ≤ 1000000000000000000) := hM
  have HLe : Hid (∀ i, i ≤ K' → P ^ (i + 1) ≤ P ^ (K' + 1)) := fun i hi => Nat.pow_le_pow_right (by omega) (by omega)
  clear hl hn hM
  obtain ⟨KK, hKK⟩ : ∃ KK : Int, KK = ((K' + 1 : Nat) : Int) := ⟨_, rfl⟩
  rw [← hKK] at hKi ⊢
  have hKb : KK ≤ 60 := by omega
  have hKa : 1 ≤ KK := by omega
  clear hKK
  go_enter Tryz.func14, Tryz.ntmps14
  go_wp2_with fail
  refine (HPr.out w HIS.out).mono ?_
  rintro e w1 ⟨a0, c0, rfl, row1, k1⟩
  have hlen : (cntR l P P).length ≤ P := cntR_le l P P
  obtain ⟨n0, hn0⟩ : ∃ n0, n0 = (cntR l P P).length := ⟨_, rfl⟩
  rw [← hn0] at row1 hlen ⊢
  have H1 : Hid (n0 = (cntR l P P).length ∧ w1.ownsRow w.heap.size 3 1 (.slice a0 n0 c0) n0 (ints (cntR l P P)) ∧ Below w.heap.size w w1) := ⟨hn0, row1, k1⟩
  clear hn0 row1 k1
  go_wp2
  go_loopw [8, 9, 16] (fun av qv iv wx => ∃ (i q n : Nat) (a : Option Addr) (c : Nat), i ≤ K' ∧ q ≤ 1000000000000000000 ∧ n ≤ 3000 ∧ iv = .int .i64 i ∧ qv = .int .i64 q ∧ av = .slice a n c ∧ Hid (q = P ^ (i + 1) ∧ Below w.heap.size w wx ∧ ∃ L, n = L.length ∧ (RootL l q L ∨ (1000 < n ∧ 1000 < P ^ (K' + 1))) ∧ wx.ownsRow w.heap.size 3 1 (.slice a n c) n (ints L))) (fun _ _ iv _ => K' - (intOf iv).toNat)
  case atStart => exact ⟨0, P, n0, a0, c0, Nat.zero_le _, by omega, by omega, rfl, rfl, rfl, by simp, H1.out.2.2, cntR l P P, H1.out.1, .inl (cntR_root l P), H1.out.2.1⟩
  case round =>
    obtain ⟨i, q, n, a, c, hi, hq, hn, rfl, rfl, rfl, HR⟩ := hrel
    have HMuch : Hid (1000 < n → 1000 < P ^ (K' + 1)) := by
      intro h
      obtain ⟨hq1, _, L, hL, hr | hr, _⟩ := HR.out
      · have := len_le hr.nd (fun x hx => ⟨((hr.mem x).1 hx).1, ((hr.mem x).1 hx).2.1⟩)
        have h2 := HLe.out i hi
        rw [← hq1] at h2
        omega
      · exact hr.2
    by_cases hlt : i < K'
    · by_cases hm : 1000 < n
      · have HO : Hid (Below w.heap.size w wr ∧ 1000 < P ^ (K' + 1)) := ⟨HR.out.2.1, HMuch.out hm⟩
        go_wp2
        exact bodyPost_ret (v := .tuple #[.slice none 0 0, .bool false]) (by simp [results, Tryz.results14, go_sem]) rfl ⟨none, 0, 0, false, rfl, HO.out.1, .inr ⟨rfl, HO.out.2⟩⟩
      · obtain ⟨hq1, hk, L, hL, hr, hrow⟩ := HR.out
        have hRL : RootL l q L := by rcases hr with h | h; exact h; exact absurd h.1 hm
        have hq0 : 0 < q := by rw [hq1]; exact Nat.pow_pos (by omega)
        have hqP : q * P = P ^ (i + 1 + 1) := by rw [hq1, Nat.pow_succ P (i + 1)]
        have hqM : q * P ≤ P ^ (K' + 1) := by rw [hqP]; exact HLe.out (i + 1) (by omega)
        have hq18 : q * P ≤ 1000000000000000000 := Nat.le_trans hqM HM.out
        have hdv : P ∣ q := by rw [hq1, Nat.pow_succ]; exact ⟨P ^ i, Nat.mul_comm ..⟩
        obtain ⟨q', hq'⟩ : ∃ q', q' = q * P := ⟨_, rfl⟩
        have hqi : (q : Int) * (P : Int) = (q' : Int) := by rw [hq']; simp
        have HC : Hid (Calls Tryz.prog 35 #[.slice a n c, .int .i64 q, .int .i64 P, .slice aa l.length cap] wr fun e w' => ∃ (a : Option Addr) (n' c : Nat) (L' : List Int), e = .returned (.slice a n' c) ∧ Below w.heap.size w w' ∧ n' ≤ 3000 ∧ n' = L'.length ∧ (RootL l q' L' ∨ (1000 < n' ∧ 1000 < P ^ (K' + 1))) ∧ w'.ownsRow w.heap.size 3 1 (.slice a n' c) n' (ints L')) := by
          have hIS2 : IS wr (.slice a n c) L := IS.ownP hL.symm hrow
          refine (HAb.out q (.slice a n c) L wr hq0 hq18 hdv hRL (by omega) hIS2 (HIS.out.belowP hk)).mono ?_
          rintro e w' ⟨a', n', c', L', rfl, h1, h2, h3, h4, h5, h6⟩
          refine ⟨a', n', c', ups l q P L', rfl, hk.trans (h6.mono hk.size), h2, h1, ?_, ownsRow_lower h5 hk.size⟩
          rw [hq']
          rcases h4 with h4 | h4
          · subst h4; exact .inl (ups_all hq0 (by omega) hdv hRL)
          · right
            obtain ⟨h7, h8⟩ := ups_root hq0 (show 0 < P by omega) hdv hRL h3
            have := len_le h8 (fun x hx => ⟨(h7 x hx).1, (h7 x hx).2.1⟩)
            exact ⟨h4, by omega⟩
        have HQ' : Hid (q' = P ^ (i + 1 + 1)) := by rw [hq']; exact hqP
        have hq18' : q' ≤ 1000000000000000000 := by rw [hq']; exact hq18
        clear hq1 hk hL hr hrow hRL hq0 hqP hqM hq18 hdv hq' HR
        go_wp2_with fail
        refine HC.out.mono ?_
        rintro e w2 ⟨a', n', c', L', rfl, k2, hn2, hL2, hr2, hrow2⟩
        have HF : Hid (Below w.heap.size w w2 ∧ ∃ L, n' = L.length ∧ (RootL l q' L ∨ (1000 < n' ∧ 1000 < P ^ (K' + 1))) ∧ w2.ownsRow w.heap.size 3 1 (.slice a' n' c') n' (ints L)) := ⟨k2, L', hL2, hr2, hrow2⟩
        clear k2 hL2 hr2 hrow2 HC
        go_wp2
        go_roundw
        case rel => exact ⟨i + 1, q', n', a', c', by omega, hq18', hn2, by go_num, rfl, rfl, HQ'.out, HF.out⟩
        case measure => simp [intOf]; omega
    · obtain rfl : i = K' := by omega
      by_cases hm : 1000 < n
      · have hb : decide ((n : Int) ≤ 1000) = false := decide_eq_false (by omega)
        have HO : Hid (Below w.heap.size w wr ∧ 1000 < P ^ (i + 1)) := ⟨HR.out.2.1, HMuch.out hm⟩
        go_wp2
        exact bodyPost_ret (v := .tuple #[.slice a n c, .bool false]) (by simp [results, Tryz.results14, go_sem]) rfl ⟨a, n, c, false, rfl, HO.out.1, .inr ⟨rfl, HO.out.2⟩⟩
      · have hb : decide ((n : Int) ≤ 1000) = true := decide_eq_true (by omega)
        have HO : Hid (Below w.heap.size w wr ∧ ∃ L, RootL l (P ^ (i + 1)) L ∧ n = L.length ∧ wr.ownsRow w.heap.size 3 1 (.slice a n c) n (ints L)) := by
          obtain ⟨hq1, hk, L, hL, hr, hrow⟩ := HR.out
          refine ⟨hk, L, ?_, hL, hrow⟩
          rcases hr with h | h
          · rw [← hq1]; exact h
          · exact absurd h.1 hm
        go_wp2
        exact bodyPost_ret (v := .tuple #[.slice a n c, .bool true]) (by simp [results, Tryz.results14, go_sem]) rfl ⟨a, n, c, true, rfl, HO.out.1, .inl ⟨rfl, by omega, HO.out.2⟩⟩

end Go.Proofs.YtidndbdjhapfaaaGreatDoor
end
