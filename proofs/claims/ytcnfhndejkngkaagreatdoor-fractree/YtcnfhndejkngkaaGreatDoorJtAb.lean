import Derived.Shelf.Sort.Plain
import Derived.Test.YtcnfhndejkngkaaGreatDoorProg
import Derived.Test.YtcnfhndejkngkaaGreatDoorPrimeW
import Derived.Test.YtcnfhndejkngkaaGreatDoorJtAa
import Derived.Test.YtcnfhndejkngkaaGreatDoorJtG
import Derived.Lib.SlKeysI
import Derived.Sort.OwnSortedInts
import Derived.Test.YtcnfhndejkngkaaGreatDoorJtH
section
/- The shelf's contracts of slices.Sort and slices.SortFunc at this program, laid by the kit's tools in plain words. -/
namespace Go.Proofs.YtcnfhndejkngkaaGreatDoor
open Go.Shelf
def Tryz.lays189_ren : Go.Shelf.Ren := ⟨fun | 189 => 169 | 125 => 180 | 257 => 179 | 128 => 193 | 129 => 162 | 294 => 184 | 295 => 185 | 296 => 186 | 297 => 187 | 298 => 188 | 299 => 189 | 216 => 190 | 300 => 191 | 301 => 192 | 328 => 197 | 329 => 198 | 330 => 199 | 331 => 200 | 332 => 201 | 215 => 173 | 343 => 206 | n => n, fun | 28 => 65 | 3 => 3 | 46 => 134 | 0 => 0 | 51 => 106 | 53 => 94 | 4 => 4 | 183 => 207 | 182 => 206 | 131 => 211 | 5 => 5 | 9 => 9 | 218 => 214 | 222 => 217 | 228 => 221 | 229 => 126 | n => n, fun | n => n⟩
theorem Tryz.lays189 : Go.Proofs.Lays.n189 Tryz.prog Tryz.lays189_ren := {
  mixed := by kernel_rfl
  f125 := Tryz.func180.trans (congrArg some (by kernel_rfl))
  f128 := Tryz.func193.trans (congrArg some (by kernel_rfl))
  f129 := Tryz.func162.trans (congrArg some (by kernel_rfl))
  f189 := Tryz.func169.trans (congrArg some (by kernel_rfl))
  f215 := Tryz.func173.trans (congrArg some (by kernel_rfl))
  f216 := Tryz.func190.trans (congrArg some (by kernel_rfl))
  f257 := Tryz.func179.trans (congrArg some (by kernel_rfl))
  f294 := Tryz.func184.trans (congrArg some (by kernel_rfl))
  f295 := Tryz.func185.trans (congrArg some (by kernel_rfl))
  f296 := Tryz.func186.trans (congrArg some (by kernel_rfl))
  f297 := Tryz.func187.trans (congrArg some (by kernel_rfl))
  f298 := Tryz.func188.trans (congrArg some (by kernel_rfl))
  f299 := Tryz.func189.trans (congrArg some (by kernel_rfl))
  f300 := Tryz.func191.trans (congrArg some (by kernel_rfl))
  f301 := Tryz.func192.trans (congrArg some (by kernel_rfl))
  f328 := Tryz.func197.trans (congrArg some (by kernel_rfl))
  f329 := Tryz.func198.trans (congrArg some (by kernel_rfl))
  f330 := Tryz.func199.trans (congrArg some (by kernel_rfl))
  f331 := Tryz.func200.trans (congrArg some (by kernel_rfl))
  f332 := Tryz.func201.trans (congrArg some (by kernel_rfl))
  f343 := Tryz.func206.trans (congrArg some (by kernel_rfl))
  t0 := Tryz.underlying0
  a0 := Tryz.isAgg0
  z0 := Tryz.sizeOf0
  v0 := Tryz.zeroValue0
  t3 := Tryz.underlying3
  a3 := Tryz.isAgg3
  z3 := Tryz.sizeOf3
  v3 := Tryz.zeroValue3
  t4 := Tryz.underlying4
  a4 := Tryz.isAgg4
  z4 := Tryz.sizeOf4
  v4 := Tryz.zeroValue4
  t5 := Tryz.underlying5
  a5 := Tryz.isAgg5
  z5 := Tryz.sizeOf5
  v5 := Tryz.zeroValue5
  t9 := Tryz.underlying9
  a9 := Tryz.isAgg9
  z9 := Tryz.sizeOf9
  v9 := Tryz.zeroValue9
  t28 := Tryz.underlying65
  a28 := Tryz.isAgg65
  z28 := Tryz.sizeOf65
  v28 := Tryz.zeroValue65
  t46 := Tryz.underlying134
  a46 := Tryz.isAgg134
  z46 := Tryz.sizeOf134
  v46 := Tryz.zeroValue134
  t51 := Tryz.underlying106
  a51 := Tryz.isAgg106
  z51 := Tryz.sizeOf106
  v51 := Tryz.zeroValue106
  t53 := Tryz.underlying94
  a53 := Tryz.isAgg94
  z53 := Tryz.sizeOf94
  v53 := Tryz.zeroValue94
  t131 := Tryz.underlying211
  a131 := Tryz.isAgg211
  z131 := Tryz.sizeOf211
  v131 := Tryz.zeroValue211
  t182 := Tryz.underlying206
  a182 := Tryz.isAgg206
  z182 := Tryz.sizeOf206
  v182 := Tryz.zeroValue206
  t183 := Tryz.underlying207
  a183 := Tryz.isAgg207
  z183 := Tryz.sizeOf207
  v183 := Tryz.zeroValue207
  t218 := Tryz.underlying214
  a218 := Tryz.isAgg214
  z218 := Tryz.sizeOf214
  v218 := Tryz.zeroValue214
  t222 := Tryz.underlying217
  a222 := Tryz.isAgg217
  z222 := Tryz.sizeOf217
  v222 := Tryz.zeroValue217
  t228 := Tryz.underlying221
  a228 := Tryz.isAgg221
  z228 := Tryz.sizeOf221
  v228 := Tryz.zeroValue221
  t229 := Tryz.underlying126
  a229 := Tryz.isAgg126
  z229 := Tryz.sizeOf126
  v229 := Tryz.zeroValue126 }
open Go.Sort Go.RowKit in
theorem Tryz.slices_Sort_int (blk off cap : Nat) (zs : List Int) (w : World) (hH : Holds (Value.int .i64) w blk off zs.toArray) (hblk : blk < w.heap.size) (hsz : zs.length < 4611686018427387904) :
    Calls Tryz.prog 169 #[.slice (some ⟨blk, off, none⟩) zs.length cap] w fun e w' =>
      e = .returned (.tuple #[]) ∧ ∃ n os, w' = grow (putRow (Value.int .i64) (Sort.ahead w n) blk off (zs.mergeSort fun x y => decide (x ≤ y)).toArray) os := Any.slices_Sort_int Tryz.lays189 blk off cap zs w hH hblk hsz
end Go.Proofs.YtcnfhndejkngkaaGreatDoor
end

section
/- prime.Factor of every number up to 1000000. -/
set_option linter.unusedSimpArgs false
set_option linter.unusedVariables false
set_option maxRecDepth 100000
namespace Go.Proofs.YtcnfhndejkngkaaGreatDoor
open Go.RowKit Go.Sort

theorem Sv.belowU {b B : Nat} {c d : Int} {w w' : World} (h : Sv b c d w) (k : Below B w w') (hb : b < B) : Sv b c d w' :=
  ⟨(k.cell (p := ⟨b, 0, none⟩) hb).trans h.c0, (k.cell (p := ⟨b, 1, none⟩) hb).trans h.c1, (k.frozen (p := ⟨b, 0, none⟩) hb).trans h.f0, (k.frozen (p := ⟨b, 1, none⟩) hb).trans h.f1, Nat.lt_of_lt_of_le h.lt k.size⟩

/-- A row in order is sorted: it stays as it is. -/
theorem sort_same (B : Nat) (a : Option Addr) (n c : Nat) (L : List Int) (w : World) (hn : n = L.length) (hl : n ≤ 1000) (hrow : w.ownsRow B 3 1 (.slice a n c) n (ints L)) (hs : L.Pairwise (· ≤ ·)) (hB : B ≤ w.heap.size) :
    Calls Tryz.prog 169 #[.slice a n c] w fun e w' => (∃ v, e = .returned v) ∧ w'.ownsRow B 3 1 (.slice a n c) n (ints L) ∧ w.heap.size ≤ w'.heap.size ∧ Below B w w' := by
  subst hn
  have hrow0 := hrow
  obtain ⟨h0, h2 | ⟨g, cap, cur, e1, e2, e3, e4, e5, e6, e7⟩⟩ := hrow
  · obtain ⟨h2, h3⟩ := h2
    have hL : L = [] := List.eq_nil_of_length_eq_zero h3
    subst hL
    simp only [Value.slice.injEq] at h2
    obtain ⟨rfl, _, rfl⟩ := h2
    refine (Sort_ord none 0 0 [] w (by omega) (by omega) ⟨fun g j h => (by cases h), fun h => (by omega), fun j h => (by omega)⟩).mono ?_
    rintro e w' ⟨hv, k⟩
    exact ⟨hv, World.ownsRow_nil _ _ _ _, k.size, k.mono hB⟩
  · simp only [Value.slice.injEq] at e1
    obtain ⟨rfl, _, rfl⟩ := e1
    have hblk : g < w.heap.size := (Array.getElem?_eq_some_iff.1 e3).1
    have hH : Holds (Value.int .i64) w g 0 L.toArray := holds_of_blockI e3 (by rw [Nat.mul_one] at e7; exact e7)
    have hm : (L.mergeSort fun x y => decide (x ≤ y)) = L := List.mergeSort_of_pairwise (hs.imp (fun h => by simpa using h))
    refine (Tryz.slices_Sort_int g 0 c L w hH hblk (by omega)).mono ?_
    rintro e w' ⟨rfl, n6, os6, rfl⟩
    have hown : (grow (putRow (Value.int .i64) (Sort.ahead w n6) g 0 (L.mergeSort fun x y => decide (x ≤ y)).toArray) os6).ownsRow B 3 1 (.slice (some ⟨g, 0, none⟩) L.length c) L.length ((L.mergeSort fun x y => decide (x ≤ y)).map (Value.int .i64)) := ownsRow_sortedI (List.length_mergeSort _) e2 e3 e4 e5 e6
    have hgr := grownBy_sortedI (w := w) (n := n6) (g := g) (os := os6) (L.mergeSort fun x y => decide (x ≤ y)).toArray
    rw [hm] at hown hgr ⊢
    refine ⟨⟨_, rfl⟩, hown, hgr.size, ?_⟩
    exact (Below.refl B w).grown hgr hB (fun j hj => by cases hj; exact e2)

set_option maxHeartbeats 1000000 in
theorem Factor_pm (fs : List Int) (N : Int) (hfs : Pmv fs) (hlen : fs.length ≤ 50) (hN : N = prd fs) (hN2 : N ≤ 1000000) (w : World) (hT : Tb w) :
    Calls Tryz.prog 156 #[.int .i64 N] w (FctPost fs w) := by
  have HF : Hid (∀ w, Tb w → Calls Tryz.prog 168 #[.int .i64 N] w (FacPost fs w)) := fun w h => factors_pm fs N hfs hlen hN hN2 w h
  have HFS : Hid (Pmv fs) := hfs
  have HT : Hid (Tb w) := hT
  obtain ⟨k, hk⟩ : ∃ k, k = fs.length := ⟨_, rfl⟩
  have HK : Hid (k = fs.length) := hk
  have hk12 : k ≤ 50 := by omega
  have hN1 : 1 ≤ N := by rw [hN]; exact pm_pos hfs
  have hN3 : decide (N < 1) = false := decide_eq_false (by omega)
  have hN4 : decide ((1000000000000000000 : Int) < N) = false := decide_eq_false (by omega)
  clear hfs hlen hN hN1 hN2 hk hT
  go_enter Tryz.func156, Tryz.ntmps156
  go_wp2_with fail
  refine (HF.out _ (HT.out.alloc _)).mono ?_
  rintro e w1 ⟨a, c, rfl, row, k1⟩
  rw [← HK.out] at row ⊢
  have z1 := k1.size
  simp at z1
  have S1 : Hid (Sv w.heap.size 0 0 w1) := (Sv.new 0 0 w).below k1
  have hkc : k ≤ c := by
    rcases row.2 with ⟨h, h2⟩ | ⟨_, _, _, h, _, _, h4, _⟩
    · omega
    · cases h; exact h4
  have hcl : ∀ (W : World), W.ownsRow (w.heap.size + 1) 3 1 (.slice a k c) k (ints fs) → (∀ g j, a = some ⟨g, 0, none⟩ → j < k → g < W.heap.size ∧ W.cell? ⟨g, j, none⟩ = some (.int .i64 (fs.getD j 0))) ∧ (0 < k → ∃ g, a = some ⟨g, 0, none⟩) := by
    intro W row
    refine ⟨?_, ?_⟩
    · rintro g j rfl hj
      refine ⟨(row.lt g rfl).2, ?_⟩
      rw [row.cellAt j (by omega), ints, List.getElem?_map, List.getD_eq_getElem?_getD, List.getElem?_eq_getElem (by rw [← HK.out]; exact hj)]; rfl
    · intro h0
      rcases row.2 with ⟨_, h⟩ | ⟨g, _, _, h, _⟩
      · omega
      · simp only [Value.slice.injEq] at h; exact ⟨g, h.1⟩
  have HCl : Hid (∀ (W : World), W.ownsRow (w.heap.size + 1) 3 1 (.slice a k c) k (ints fs) → (∀ g j, a = some ⟨g, 0, none⟩ → j < k → g < W.heap.size ∧ W.cell? ⟨g, j, none⟩ = some (.int .i64 (fs.getD j 0))) ∧ (0 < k → ∃ g, a = some ⟨g, 0, none⟩)) := hcl
  have row' : w1.ownsRow (w.heap.size + 1) 3 1 (.slice a k c) k (ints fs) := by simpa using row
  have HSo : Hid (Calls Tryz.prog 169 #[.slice a k c] w1 fun e w' => (∃ v, e = .returned v) ∧ w'.ownsRow (w.heap.size + 1) 3 1 (.slice a k c) k (ints fs) ∧ w1.heap.size ≤ w'.heap.size ∧ Below (w.heap.size + 1) w1 w') := sort_same (w.heap.size + 1) a k c fs w1 HK.out (by omega) row' HFS.out.sort (by omega)
  have K1 : Hid (Below w.heap.size w w1) := ((Below.refl _ _).alloc (Nat.le_refl _) _).trans (k1.mono (by simp))
  clear row k1 row' hcl
  go_wp2_with fail
  refine HSo.out.mono ?_
  rintro e w2 ⟨⟨v, rfl⟩, row2, z2, k2⟩
  have S2 : Hid (Sv w.heap.size 0 0 w2) := S1.out.belowU k2 (by omega)
  obtain ⟨cl1, cl2⟩ := HCl.out w2 row2
  have HC1 : Hid (∀ g j, a = some ⟨g, 0, none⟩ → j < k → g < w2.heap.size ∧ w2.cell? ⟨g, j, none⟩ = some (.int .i64 (fs.getD j 0))) := cl1
  have HC2 : Hid (0 < k → ∃ g, a = some ⟨g, 0, none⟩) := cl2
  have K2 : Hid (Below w.heap.size w w2) := K1.out.trans (k2.mono (by omega))
  clear k2 S1 K1 row2 cl1 cl2 HSo HCl
  go_wp2_with fail
  refine (tally_ord a k c fs w2 HK.out (by omega) hkc HC1.out HC2.out).mono ?_
  rintro e w3 ⟨a3, c3, rfl, row3, k3⟩
  obtain ⟨n, hn⟩ : ∃ n, n = (tly fs).length := ⟨_, rfl⟩
  rw [← hn] at row3 ⊢
  have S3 := S2.out.below k3
  have q0 := S3.c0
  have q1 := S3.c1
  have q2 := S3.f0
  have q3 := S3.f1
  have q4 := S3.lt
  have z3 := k3.size
  have K3 : Hid (Below w.heap.size w w3) := K2.out.trans (k3.mono (by omega))
  have HRow : Hid (w3.ownsRow w2.heap.size 189 2 (.slice a3 n c3) n (pvals (tly fs))) := row3
  have HNn : Hid (n = (tly fs).length) := hn
  clear S3 row3 k3 S2 K2 HC1 HC2 hn
  go_wp2
  refine bodyPost_ret (v := .tuple #[.slice a3 n c3, .agg #[.int .i64 0, .int .i64 0]]) (by simp [results, Tryz.results156, go_sem, q0, q1, q4]) rfl ?_
  have h5 := ownsRow_setCell_below (ownsRow_setCell_below HRow.out (a := ⟨w.heap.size, 0, none⟩) (by show w.heap.size < _; omega) (.int .i64 0)) (a := ⟨w.heap.size, 1, none⟩) (by show w.heap.size < _; omega) (.int .i64 0)
  refine ⟨a3, c3, by rw [HNn.out], ?_, (K3.out.setCell (by simp) _).setCell (by simp) _⟩
  obtain ⟨h6, h7⟩ := h5
  rw [← HNn.out]
  refine ⟨h6, ?_⟩
  rcases h7 with h8 | ⟨g9, cap, cur, h9, h10, h11⟩
  · exact .inl h8
  · exact .inr ⟨g9, cap, cur, h9, by omega, h11⟩

end Go.Proofs.YtcnfhndejkngkaaGreatDoor
end

section
/- hang.Moebius of every number up to 1000000. -/
set_option linter.unusedSimpArgs false
set_option linter.unusedVariables false
set_option maxRecDepth 100000
namespace Go.Proofs.YtcnfhndejkngkaaGreatDoor
open Go.RowKit

/-- Every number from 1 on is a product of primes in order. -/
theorem pm_ex (n : Nat) (hn : 1 ≤ n) : ∃ fs, Pmv fs ∧ prd fs = (n : Int) ∧ (∀ m : Nat, (∀ q, Pr q → q ∣ n → m ≤ q) → ∀ y ∈ fs, (m : Int) ≤ y) ∧ 2 ^ fs.length ≤ n := by
  induction n using Nat.strongRecOn with
  | ind n ih =>
    by_cases h1 : n = 1
    · subst h1; exact ⟨[], ⟨by simp, List.Pairwise.nil⟩, rfl, fun m _ y hy => by simp at hy, by simp⟩
    · -- the least prime
      obtain ⟨p, hp, hpn, hmin⟩ : ∃ p, Pr p ∧ p ∣ n ∧ ∀ q, Pr q → q ∣ n → p ≤ q := by
        have : ∀ N, (∃ p, Pr p ∧ p ∣ n ∧ p ≤ N) → ∃ p, Pr p ∧ p ∣ n ∧ ∀ q, Pr q → q ∣ n → p ≤ q := by
          intro N
          induction N with
          | zero => rintro ⟨p, h, _, h'⟩; have := h.1; omega
          | succ N ih2 =>
            rintro ⟨p, h, h', h''⟩
            by_cases hx : ∃ p, Pr p ∧ p ∣ n ∧ p ≤ N
            · exact ih2 hx
            · refine ⟨p, h, h', fun q h1 h2 => ?_⟩
              rcases Nat.lt_or_ge q p with h3 | h3
              · exact absurd ⟨q, h1, h2, by omega⟩ hx
              · exact h3
        obtain ⟨p, hp, hpn⟩ := pr_divisor n (by omega)
        exact this p ⟨p, hp, hpn, Nat.le_refl p⟩
      obtain ⟨c, hc⟩ := hpn
      have hp2 := hp.1
      have hc0 : 1 ≤ c := by
        rcases Nat.eq_zero_or_pos c with h | h
        · subst h; simp at hc; omega
        · exact h
      have hcn : c < n := by rw [hc]; have := Nat.mul_le_mul_right c hp2; omega
      obtain ⟨fs, h2, h3, h4, h5⟩ := ih c hcn hc0
      refine ⟨(p : Int) :: fs, ⟨?_, ?_⟩, ?_, ?_, ?_⟩
      · intro y hy
        rcases List.mem_cons.1 hy with h | h
        · exact ⟨p, h, hp⟩
        · exact h2.mem y h
      · refine List.pairwise_cons.2 ⟨h4 p (fun q hq hqc => hmin q hq (Nat.dvd_trans hqc ⟨p, by rw [Nat.mul_comm]; exact hc⟩)), h2.sort⟩
      · show (p : Int) * prd fs = n
        rw [h3, hc]; simp
      · intro m hm y hy
        rcases List.mem_cons.1 hy with h | h
        · subst h; have := hm p hp ⟨c, hc⟩; omega
        · exact h4 m (fun q hq hqc => hm q hq (Nat.dvd_trans hqc ⟨p, by rw [Nat.mul_comm]; exact hc⟩)) y h
      · simp only [List.length_cons, Nat.pow_succ]
        have := Nat.mul_le_mul h5 hp2
        rw [hc, Nat.mul_comm p c]; exact this

/-- A prime's square divides just where the prime stands twice. -/
theorem pm_sq : ∀ {fs : List Int}, Pmv fs → (fs.Pairwise (· < ·) ↔ ∀ p : Nat, Pr p → ¬ ((p : Int) * (p : Int)) ∣ prd fs) := by
  intro fs
  induction fs with
  | nil =>
    intro _
    refine ⟨fun _ p hp h => ?_, fun _ => List.Pairwise.nil⟩
    have h1 := Int.le_of_dvd (by decide) h
    have h2 := hp.1
    have h3 : (2 : Int) * 2 ≤ (p : Int) * p := Int.mul_le_mul (by omega) (by omega) (by omega) (by omega)
    simp only [prd] at h1; omega
  | cons a t ih =>
    intro h
    obtain ⟨q, rfl, hq⟩ := h.mem a (by simp)
    have hq2 := hq.1
    have iht := ih h.tail
    constructor
    · intro hs p hp hd
      obtain ⟨h1, h2⟩ := List.pairwise_cons.1 hs
      by_cases hpq : p = q
      · subst hpq
        obtain ⟨c, hc⟩ := hd
        have h3 : prd t = (p : Int) * c := Int.eq_of_mul_eq_mul_left (show (p : Int) ≠ 0 by omega) (by rw [← Int.mul_assoc]; exact hc)
        have := h1 _ (pm_mem h.tail hp ⟨c, h3⟩)
        omega
      · refine iht.1 h2 p hp ?_
        have hn : (p * p) ∣ q * (prd t).natAbs := by
          have := Int.natAbs_dvd_natAbs.2 hd
          rw [show prd ((q : Int) :: t) = (q : Int) * prd t from rfl, Int.natAbs_mul, Int.natAbs_mul] at this
          simpa using this
        have hco : Nat.Coprime (p * p) q := by
          have h4 : Nat.Coprime p q := by
            rcases hp.2 (Nat.gcd p q) (Nat.gcd_dvd_left ..) with e | e
            · exact e
            · exfalso
              have : p ∣ q := e ▸ Nat.gcd_dvd_right p q
              rcases hq.2 p this with e2 | e2
              · have := hp.1; omega
              · exact hpq e2
          exact Nat.Coprime.mul_left h4 h4
        have h5 := Nat.Coprime.dvd_of_dvd_mul_left hco hn
        have := Int.natAbs_dvd_natAbs (a := (p : Int) * p) (b := prd t)
        rw [Int.natAbs_mul] at this
        exact this.1 (by simpa using h5)
    · intro hs
      refine List.pairwise_cons.2 ⟨fun y hy => ?_, iht.2 fun p hp hd => hs p hp (Int.dvd_trans hd ⟨(q : Int), by rw [Int.mul_comm]; rfl⟩)⟩
      have h1 := (List.pairwise_cons.1 h.sort).1 y hy
      rcases Int.lt_or_eq_of_le h1 with h2 | h2
      · exact h2
      · exfalso
        subst h2
        obtain ⟨c, hc⟩ := prd_dvd hy
        exact hs q hq ⟨c, by show (q : Int) * prd t = _; rw [hc, Int.mul_assoc]⟩

theorem sq_prime {n : Nat} (h : ∃ p : Nat, 2 ≤ p ∧ p * p ∣ n) : ∃ p : Nat, Pr p ∧ p * p ∣ n := by
  obtain ⟨p, h1, h2⟩ := h
  obtain ⟨q, hq, c, rfl⟩ := pr_divisor p h1
  exact ⟨q, hq, Nat.dvd_trans ⟨c * c, by grind⟩ h2⟩

/-- How often each stands: once each just if the list rises. -/
theorem tly_one : ∀ (l : List Int), l.Pairwise (· ≤ ·) → (∀ x ∈ tly l, 1 ≤ x.2 ∧ x.2 ≤ l.length) ∧ ((∃ x ∈ tly l, 1 < x.2) ↔ ¬ l.Pairwise (· < ·)) ∧ (∀ x, l.getLast? = some x → ∃ t, (tly l).getLast? = some (x, t)) ∧ (l = [] → tly l = []) := by
  intro l
  obtain ⟨n, hn⟩ : ∃ n, n = l.length := ⟨_, rfl⟩
  induction n generalizing l with
  | zero =>
    obtain rfl : l = [] := List.eq_nil_of_length_eq_zero hn.symm
    intro _; simp [tly]
  | succ n ihn =>
    obtain ⟨l, p, rfl⟩ : ∃ l' p, l = l' ++ [p] := by
      rcases List.eq_nil_or_concat l with h | ⟨l', p, h⟩
      · subst h; simp at hn
      · exact ⟨l', p, by rw [h]; simp⟩
    have ih := ihn l (by simp at hn; omega)
    intro hs
    obtain ⟨h1, h2, h3⟩ := List.pairwise_append.1 hs
    obtain ⟨i1, i2, i3, i4⟩ := ih h1
    have e : tly (l ++ [p]) = stepT (tly l) p := by rw [tly, List.foldl_append]; rfl
    rcases (show l = [] ∨ ∃ l' q, l = l' ++ [q] from by
      rcases List.eq_nil_or_concat l with h | ⟨l', p, h⟩
      · exact .inl h
      · exact .inr ⟨l', p, by rw [h]; simp⟩) with rfl | ⟨l', q, rfl⟩
    · rw [e, i4 rfl, stepT_nil]; simp
    · obtain ⟨t, ht⟩ := i3 q (by simp)
      obtain ⟨T, hT⟩ := List.getLast?_eq_some_iff.1 ht
      have hqp : q ≤ p := h3 q (by simp) p (by simp)
      rw [e, hT]
      rw [hT] at i1 i2
      have it := i1 (q, t) (by simp)
      simp only [List.length_append, List.length_cons, List.length_nil] at it
      by_cases hqq : q = p
      · subst hqq
        rw [stepT_same]
        refine ⟨fun x hx => ?_, ⟨fun _ hp => ?_, fun _ => ⟨(q, t + 1), by simp, by show 1 < t + 1; omega⟩⟩, fun x hx => ⟨t + 1, by simp at hx; simp [hx]⟩, fun h => by simp at h⟩
        · simp only [List.mem_append, List.mem_singleton] at hx
          simp only [List.length_append, List.length_cons, List.length_nil]
          rcases hx with hx | hx
          · have := i1 x (by simp [hx])
            simp only [List.length_append, List.length_cons, List.length_nil] at this
            omega
          · subst hx; show 1 ≤ t + 1 ∧ t + 1 ≤ _; push_cast at *; omega
        · have := (List.pairwise_append.1 hp).2.2 q (by simp) q (by simp)
          omega
      · rw [stepT_new _ _ _ _ hqq]
        refine ⟨fun x hx => ?_, ?_, fun x hx => ⟨1, by simp at hx; simp [hx]⟩, fun h => by simp at h⟩
        · simp only [List.mem_append, List.mem_singleton] at hx
          simp only [List.length_append, List.length_cons, List.length_nil]
          rcases hx with hx | hx
          · have := i1 x (by simp only [List.mem_append, List.mem_singleton]; exact hx)
            simp only [List.length_append, List.length_cons, List.length_nil] at this
            omega
          · subst hx
            refine ⟨Int.le_refl 1, ?_⟩
            have h0 : (1 : Int) ≤ ((l'.length + (0 + 1) + (0 + 1) : Nat) : Int) := by omega
            exact h0
        · have hlt : q < p := by omega
          constructor
          · rintro ⟨x, hx, hx1⟩ hp
            refine i2.1 ⟨x, ?_, hx1⟩ (List.pairwise_append.1 hp).1
            rcases List.mem_append.1 hx with h | h
            · exact h
            · simp at h; subst h; simp at hx1
          · intro hn
            have : ¬ (l' ++ [q]).Pairwise (· < ·) := by
              intro hp
              refine hn (List.pairwise_append.2 ⟨hp, by simp, fun x hx y hy => ?_⟩)
              simp at hy
              subst hy
              rcases List.mem_append.1 hx with h | h
              · have := (List.pairwise_append.1 hp).2.2 x h q (by simp); omega
              · simp at h; omega
            obtain ⟨x, hx, hx1⟩ := i2.2 this
            exact ⟨x, List.mem_append_left _ hx, hx1⟩

end Go.Proofs.YtcnfhndejkngkaaGreatDoor
end
