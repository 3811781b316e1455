import Derived.Shelf.Sort.Plain
import Derived.Test.YtcnfhndejkngkaaGreatDoorProg
import Derived.Test.YtcnfhndejkngkaaGreatDoorPrimeW
import Derived.Test.YtcnfhndejkngkaaGreatDoorJpT
import Derived.Test.YtcnfhndejkngkaaGreatDoorJpJ
import Derived.Lib.SlKeysI
import Derived.Sort.OwnSortedInts
import Derived.Test.YtcnfhndejkngkaaGreatDoorJpK
import Derived.Test.YtcnfhndejkngkaaGreatDoorJpA
import Derived.Lib.ItoaNum
section
namespace Go.Proofs.YtcnfhndejkngkaaGreatDoor
open Go.Shelf
def Tryz.lays189_ren : Go.Shelf.Ren := ⟨fun | 189 => 169 | 125 => 180 | 257 => 179 | 128 => 193 | 129 => 162 | 294 => 184 | 295 => 185 | 296 => 186 | 297 => 187 | 298 => 188 | 299 => 189 | 216 => 190 | 300 => 191 | 301 => 192 | 328 => 197 | 329 => 198 | 330 => 199 | 331 => 200 | 332 => 201 | 215 => 173 | 343 => 206 | n => n, fun | 28 => 65 | 3 => 3 | 46 => 134 | 0 => 0 | 51 => 106 | 53 => 94 | 4 => 4 | 183 => 207 | 182 => 206 | 131 => 211 | 5 => 5 | 9 => 9 | 218 => 214 | 222 => 217 | 228 => 221 | 229 => 126 | n => n, fun | n => n⟩
theorem Tryz.lays189 : Go.Proofs.Lays.n189 Tryz.prog Tryz.lays189_ren := {
  mixed := by kernel_rfl
  f125 := Tryz.func180.trans (congrArg some (by kernel_rfl))
  f128 := Tryz.func193.trans (congrArg some (by kernel_rfl))
  f129 := Tryz.func162.trans (congrArg some (by kernel_rfl))
  f189 := Tryz.func169.trans (congrArg some (by kernel_rfl))
  f215 := Tryz.func173.trans (congrArg some (by kernel_rfl))
  f216 := Tryz.func190.trans (congrArg some (by kernel_rfl))
  f257 := Tryz.func179.trans (congrArg some (by kernel_rfl))
  f294 := Tryz.func184.trans (congrArg some (by kernel_rfl))
  f295 := Tryz.func185.trans (congrArg some (by kernel_rfl))
  f296 := Tryz.func186.trans (congrArg some (by kernel_rfl))
  f297 := Tryz.func187.trans (congrArg some (by kernel_rfl))
  f298 := Tryz.func188.trans (congrArg some (by kernel_rfl))
  f299 := Tryz.func189.trans (congrArg some (by kernel_rfl))
  f300 := Tryz.func191.trans (congrArg some (by kernel_rfl))
  f301 := Tryz.func192.trans (congrArg some (by kernel_rfl))
  f328 := Tryz.func197.trans (congrArg some (by kernel_rfl))
  f329 := Tryz.func198.trans (congrArg some (by kernel_rfl))
  f330 := Tryz.func199.trans (congrArg some (by kernel_rfl))
  f331 := Tryz.func200.trans (congrArg some (by kernel_rfl))
  f332 := Tryz.func201.trans (congrArg some (by kernel_rfl))
  f343 := Tryz.func206.trans (congrArg some (by kernel_rfl))
  t0 := Tryz.underlying0
  a0 := Tryz.isAgg0
  z0 := Tryz.sizeOf0
  v0 := Tryz.zeroValue0
  t3 := Tryz.underlying3
  a3 := Tryz.isAgg3
  z3 := Tryz.sizeOf3
  v3 := Tryz.zeroValue3
  t4 := Tryz.underlying4
  a4 := Tryz.isAgg4
  z4 := Tryz.sizeOf4
  v4 := Tryz.zeroValue4
  t5 := Tryz.underlying5
  a5 := Tryz.isAgg5
  z5 := Tryz.sizeOf5
  v5 := Tryz.zeroValue5
  t9 := Tryz.underlying9
  a9 := Tryz.isAgg9
  z9 := Tryz.sizeOf9
  v9 := Tryz.zeroValue9
  t28 := Tryz.underlying65
  a28 := Tryz.isAgg65
  z28 := Tryz.sizeOf65
  v28 := Tryz.zeroValue65
  t46 := Tryz.underlying134
  a46 := Tryz.isAgg134
  z46 := Tryz.sizeOf134
  v46 := Tryz.zeroValue134
  t51 := Tryz.underlying106
  a51 := Tryz.isAgg106
  z51 := Tryz.sizeOf106
  v51 := Tryz.zeroValue106
  t53 := Tryz.underlying94
  a53 := Tryz.isAgg94
  z53 := Tryz.sizeOf94
  v53 := Tryz.zeroValue94
  t131 := Tryz.underlying211
  a131 := Tryz.isAgg211
  z131 := Tryz.sizeOf211
  v131 := Tryz.zeroValue211
  t182 := Tryz.underlying206
  a182 := Tryz.isAgg206
  z182 := Tryz.sizeOf206
  v182 := Tryz.zeroValue206
  t183 := Tryz.underlying207
  a183 := Tryz.isAgg207
  z183 := Tryz.sizeOf207
  v183 := Tryz.zeroValue207
  t218 := Tryz.underlying214
  a218 := Tryz.isAgg214
  z218 := Tryz.sizeOf214
  v218 := Tryz.zeroValue214
  t222 := Tryz.underlying217
  a222 := Tryz.isAgg217
  z222 := Tryz.sizeOf217
  v222 := Tryz.zeroValue217
  t228 := Tryz.underlying221
  a228 := Tryz.isAgg221
  z228 := Tryz.sizeOf221
  v228 := Tryz.zeroValue221
  t229 := Tryz.underlying126
  a229 := Tryz.isAgg126
  z229 := Tryz.sizeOf126
  v229 := Tryz.zeroValue126 }
open Go.Sort Go.RowKit in
theorem Tryz.slices_Sort_int (blk off cap : Nat) (zs : List Int) (w : World) (hH : Holds (Value.int .i64) w blk off zs.toArray) (hblk : blk < w.heap.size) (hsz : zs.length < 4611686018427387904) :
    Calls Tryz.prog 169 #[.slice (some ⟨blk, off, none⟩) zs.length cap] w fun e w' =>
      e = .returned (.tuple #[]) ∧ ∃ n os, w' = grow (putRow (Value.int .i64) (Sort.ahead w n) blk off (zs.mergeSort fun x y => decide (x ≤ y)).toArray) os := Any.slices_Sort_int Tryz.lays189 blk off cap zs w hH hblk hsz
end Go.Proofs.YtcnfhndejkngkaaGreatDoor
end

section
set_option linter.unusedSimpArgs false
set_option linter.unusedVariables false
set_option maxRecDepth 100000
namespace Go.Proofs.YtcnfhndejkngkaaGreatDoor
open Go.RowKit Go.Sort
theorem Sv.belowU {b B : Nat} {c d : Int} {w w' : World} (h : Sv b c d w) (k : Below B w w') (hb : b < B) : Sv b c d w' :=
  ⟨(k.cell (p := ⟨b, 0, none⟩) hb).trans h.c0, (k.cell (p := ⟨b, 1, none⟩) hb).trans h.c1, (k.frozen (p := ⟨b, 0, none⟩) hb).trans h.f0, (k.frozen (p := ⟨b, 1, none⟩) hb).trans h.f1, Nat.lt_of_lt_of_le h.lt k.size⟩
theorem sort_same (B : Nat) (a : Option Addr) (n c : Nat) (L : List Int) (w : World) (hn : n = L.length) (hl : n ≤ 1000) (hrow : w.ownsRow B 3 1 (.slice a n c) n (ints L)) (hs : L.Pairwise (· ≤ ·)) (hB : B ≤ w.heap.size) :
    Calls Tryz.prog 169 #[.slice a n c] w fun e w' => (∃ v, e = .returned v) ∧ w'.ownsRow B 3 1 (.slice a n c) n (ints L) ∧ w.heap.size ≤ w'.heap.size ∧ Below B w w' := by
  subst hn
  have hrow0 := hrow
  obtain ⟨h0, h2 | ⟨g, cap, cur, e1, e2, e3, e4, e5, e6, e7⟩⟩ := hrow
  · obtain ⟨h2, h3⟩ := h2
    have hL : L = [] := List.eq_nil_of_length_eq_zero h3
    subst hL
    simp only [Value.slice.injEq] at h2
    obtain ⟨rfl, _, rfl⟩ := h2
    refine (Sort_ord none 0 0 [] w (by omega) (by omega) ⟨fun g j h => (by cases h), fun h => (by omega), fun j h => (by omega)⟩).mono ?_
    rintro e w' ⟨hv, k⟩
    exact ⟨hv, World.ownsRow_nil _ _ _ _, k.size, k.mono hB⟩
  · simp only [Value.slice.injEq] at e1
    obtain ⟨rfl, _, rfl⟩ := e1
    have hblk : g < w.heap.size := (Array.getElem?_eq_some_iff.1 e3).1
    have hH : Holds (Value.int .i64) w g 0 L.toArray := holds_of_blockI e3 (by rw [Nat.mul_one] at e7; exact e7)
    have hm : (L.mergeSort fun x y => decide (x ≤ y)) = L := List.mergeSort_of_pairwise (hs.imp (fun h => by simpa using h))
    refine (Tryz.slices_Sort_int g 0 c L w hH hblk (by omega)).mono ?_
    rintro e w' ⟨rfl, n6, os6, rfl⟩
    have hown : (grow (putRow (Value.int .i64) (Sort.ahead w n6) g 0 (L.mergeSort fun x y => decide (x ≤ y)).toArray) os6).ownsRow B 3 1 (.slice (some ⟨g, 0, none⟩) L.length c) L.length ((L.mergeSort fun x y => decide (x ≤ y)).map (Value.int .i64)) := ownsRow_sortedI (List.length_mergeSort _) e2 e3 e4 e5 e6
    have hgr := grownBy_sortedI (w := w) (n := n6) (g := g) (os := os6) (L.mergeSort fun x y => decide (x ≤ y)).toArray
    rw [hm] at hown hgr ⊢
    refine ⟨⟨_, rfl⟩, hown, hgr.size, ?_⟩
    exact (Below.refl B w).grown hgr hB (fun j hj => by cases hj; exact e2)
set_option maxHeartbeats 1000000 in
theorem Factor_pm (fs : List Int) (N : Int) (hfs : Pmv fs) (hlen : fs.length ≤ 50) (hN : N = prd fs) (hN2 : N ≤ 1000000) (w : World) (hT : Tb w) :
    Calls Tryz.prog 156 #[.int .i64 N] w (FctPost fs w) := by
  have HF : Hid (∀ w, Tb w → Calls Tryz.prog 168 #[.int .i64 N] w (FacPost fs w)) := fun w h => factors_pm fs N hfs hlen hN hN2 w h
  have HFS : Hid (Pmv fs) := hfs
  have HT : Hid (Tb w) := hT
  obtain ⟨k, hk⟩ : ∃ k, k = fs.length := ⟨_, rfl⟩
  have HK : Hid (k = fs.length) := hk
  have hk12 : k ≤ 50 := by omega
  have hN1 : 1 ≤ N := by rw [hN]; exact pm_pos hfs
  have hN3 : decide (N < 1) = false := decide_eq_false (by omega)
  have hN4 : decide ((1000000000000000000 : Int) < N) = false := decide_eq_false (by omega)
  clear hfs hlen hN hN1 hN2 hk hT
  go_enter Tryz.func156, Tryz.ntmps156
  go_wp2_with fail
  refine (HF.out _ (HT.out.alloc _)).mono ?_
  rintro e w1 ⟨a, c, rfl, row, k1⟩
  rw [← HK.out] at row ⊢
  have z1 := k1.size
  simp at z1
  have S1 : Hid (Sv w.heap.size 0 0 w1) := (Sv.new 0 0 w).below k1
  have hkc : k ≤ c := by
    rcases row.2 with ⟨h, h2⟩ | ⟨_, _, _, h, _, _, h4, _⟩
    · omega
    · cases h; exact h4
  have hcl : ∀ (W : World), W.ownsRow (w.heap.size + 1) 3 1 (.slice a k c) k (ints fs) → (∀ g j, a = some ⟨g, 0, none⟩ → j < k → g < W.heap.size ∧ W.cell? ⟨g, j, none⟩ = some (.int .i64 (fs.getD j 0))) ∧ (0 < k → ∃ g, a = some ⟨g, 0, none⟩) := by
    intro W row
    refine ⟨?_, ?_⟩
    · rintro g j rfl hj
      refine ⟨(row.lt g rfl).2, ?_⟩
      rw [row.cellAt j (by omega), ints, List.getElem?_map, List.getD_eq_getElem?_getD, List.getElem?_eq_getElem (by rw [← HK.out]; exact hj)]; rfl
    · intro h0
      rcases row.2 with ⟨_, h⟩ | ⟨g, _, _, h, _⟩
      · omega
      · simp only [Value.slice.injEq] at h; exact ⟨g, h.1⟩
  have HCl : Hid (∀ (W : World), W.ownsRow (w.heap.size + 1) 3 1 (.slice a k c) k (ints fs) → (∀ g j, a = some ⟨g, 0, none⟩ → j < k → g < W.heap.size ∧ W.cell? ⟨g, j, none⟩ = some (.int .i64 (fs.getD j 0))) ∧ (0 < k → ∃ g, a = some ⟨g, 0, none⟩)) := hcl
  have row' : w1.ownsRow (w.heap.size + 1) 3 1 (.slice a k c) k (ints fs) := by simpa using row
  have HSo : Hid (Calls Tryz.prog 169 #[.slice a k c] w1 fun e w' => (∃ v, e = .returned v) ∧ w'.ownsRow (w.heap.size + 1) 3 1 (.slice a k c) k (ints fs) ∧ w1.heap.size ≤ w'.heap.size ∧ Below (w.heap.size + 1) w1 w') := sort_same (w.heap.size + 1) a k c fs w1 HK.out (by omega) row' HFS.out.sort (by omega)
  have K1 : Hid (Below w.heap.size w w1) := ((Below.refl _ _).alloc (Nat.le_refl _) _).trans (k1.mono (by simp))
  clear row k1 row' hcl
  go_wp2_with fail
  refine HSo.out.mono ?_
  rintro e w2 ⟨⟨v, rfl⟩, row2, z2, k2⟩
  have S2 : Hid (Sv w.heap.size 0 0 w2) := S1.out.belowU k2 (by omega)
  obtain ⟨cl1, cl2⟩ := HCl.out w2 row2
  have HC1 : Hid (∀ g j, a = some ⟨g, 0, none⟩ → j < k → g < w2.heap.size ∧ w2.cell? ⟨g, j, none⟩ = some (.int .i64 (fs.getD j 0))) := cl1
  have HC2 : Hid (0 < k → ∃ g, a = some ⟨g, 0, none⟩) := cl2
  have K2 : Hid (Below w.heap.size w w2) := K1.out.trans (k2.mono (by omega))
  clear k2 S1 K1 row2 cl1 cl2 HSo HCl
  go_wp2_with fail
  refine (tally_ord a k c fs w2 HK.out (by omega) hkc HC1.out HC2.out).mono ?_
  rintro e w3 ⟨a3, c3, rfl, row3, k3⟩
  obtain ⟨n, hn⟩ : ∃ n, n = (tly fs).length := ⟨_, rfl⟩
  rw [← hn] at row3 ⊢
  have S3 := S2.out.below k3
  have q0 := S3.c0
  have q1 := S3.c1
  have q2 := S3.f0
  have q3 := S3.f1
  have q4 := S3.lt
  have z3 := k3.size
  have K3 : Hid (Below w.heap.size w w3) := K2.out.trans (k3.mono (by omega))
  have HRow : Hid (w3.ownsRow w2.heap.size 189 2 (.slice a3 n c3) n (pvals (tly fs))) := row3
  have HNn : Hid (n = (tly fs).length) := hn
  clear S3 row3 k3 S2 K2 HC1 HC2 hn
  go_wp2
  refine bodyPost_ret (v := .tuple #[.slice a3 n c3, .agg #[.int .i64 0, .int .i64 0]]) (by simp [results, Tryz.results156, go_sem, q0, q1, q4]) rfl ?_
  have h5 := ownsRow_setCell_below (ownsRow_setCell_below HRow.out (a := ⟨w.heap.size, 0, none⟩) (by show w.heap.size < _; omega) (.int .i64 0)) (a := ⟨w.heap.size, 1, none⟩) (by show w.heap.size < _; omega) (.int .i64 0)
  refine ⟨a3, c3, by rw [HNn.out], ?_, (K3.out.setCell (by simp) _).setCell (by simp) _⟩
  obtain ⟨h6, h7⟩ := h5
  rw [← HNn.out]
  refine ⟨h6, ?_⟩
  rcases h7 with h8 | ⟨g9, cap, cur, h9, h10, h11⟩
  · exact .inl h8
  · exact .inr ⟨g9, cap, cur, h9, by omega, h11⟩
end Go.Proofs.YtcnfhndejkngkaaGreatDoor
end

section
set_option linter.unusedSimpArgs false
set_option linter.unusedVariables false
set_option maxRecDepth 100000
namespace Go.Proofs.YtcnfhndejkngkaaGreatDoor
open Go.RowKit
theorem pm_ex (n : Nat) (hn : 1 ≤ n) : ∃ fs, Pmv fs ∧ prd fs = (n : Int) ∧ (∀ m : Nat, (∀ q, Pr q → q ∣ n → m ≤ q) → ∀ y ∈ fs, (m : Int) ≤ y) ∧ 2 ^ fs.length ≤ n := by
  induction n using Nat.strongRecOn with
  | ind n ih =>
    by_cases h1 : n = 1
    · subst h1; exact ⟨[], ⟨by simp, List.Pairwise.nil⟩, rfl, fun m _ y hy => by simp at hy, by simp⟩
    · -- the least prime
      obtain ⟨p, hp, hpn, hmin⟩ : ∃ p, Pr p ∧ p ∣ n ∧ ∀ q, Pr q → q ∣ n → p ≤ q := by
        have : ∀ N, (∃ p, Pr p ∧ p ∣ n ∧ p ≤ N) → ∃ p, Pr p ∧ p ∣ n ∧ ∀ q, Pr q → q ∣ n → p ≤ q := by
          intro N
          induction N with
          | zero => rintro ⟨p, h, _, h'⟩; have := h.1; omega
          | succ N ih2 =>
            rintro ⟨p, h, h', h''⟩
            by_cases hx : ∃ p, Pr p ∧ p ∣ n ∧ p ≤ N
            · exact ih2 hx
            · refine ⟨p, h, h', fun q h1 h2 => ?_⟩
              rcases Nat.lt_or_ge q p with h3 | h3
              · exact absurd ⟨q, h1, h2, by omega⟩ hx
              · exact h3
        obtain ⟨p, hp, hpn⟩ := pr_divisor n (by omega)
        exact this p ⟨p, hp, hpn, Nat.le_refl p⟩
      obtain ⟨c, hc⟩ := hpn
      have hp2 := hp.1
      have hc0 : 1 ≤ c := by
        rcases Nat.eq_zero_or_pos c with h | h
        · subst h; simp at hc; omega
        · exact h
      have hcn : c < n := by rw [hc]; have := Nat.mul_le_mul_right c hp2; omega
      obtain ⟨fs, h2, h3, h4, h5⟩ := ih c hcn hc0
      refine ⟨(p : Int) :: fs, ⟨?_, ?_⟩, ?_, ?_, ?_⟩
      · intro y hy
        rcases List.mem_cons.1 hy with h | h
        · exact ⟨p, h, hp⟩
        · exact h2.mem y h
      · refine List.pairwise_cons.2 ⟨h4 p (fun q hq hqc => hmin q hq (Nat.dvd_trans hqc ⟨p, by rw [Nat.mul_comm]; exact hc⟩)), h2.sort⟩
      · show (p : Int) * prd fs = n
        rw [h3, hc]; simp
      · intro m hm y hy
        rcases List.mem_cons.1 hy with h | h
        · subst h; have := hm p hp ⟨c, hc⟩; omega
        · exact h4 m (fun q hq hqc => hm q hq (Nat.dvd_trans hqc ⟨p, by rw [Nat.mul_comm]; exact hc⟩)) y h
      · simp only [List.length_cons, Nat.pow_succ]
        have := Nat.mul_le_mul h5 hp2
        rw [hc, Nat.mul_comm p c]; exact this
end Go.Proofs.YtcnfhndejkngkaaGreatDoor
end

section
set_option linter.unusedSimpArgs false
set_option linter.unusedVariables false
set_option maxRecDepth 100000
namespace Go.Proofs.YtcnfhndejkngkaaGreatDoor
open Go.RowKit
theorem pvals_at : ∀ (T : List (Int × Int)) (i : Nat), i < T.length → (pvals T)[i * 2]? = some (.int .i64 (T.getD i (0, 0)).1) ∧ (pvals T)[i * 2 + 1]? = some (.int .i64 (T.getD i (0, 0)).2) := by
  intro T
  induction T with
  | nil => intro i h; simp at h
  | cons x T ih =>
    intro i h
    cases i with
    | zero => simp [pvals]
    | succ i =>
      have := ih i (by simpa using h)
      rw [show (i + 1) * 2 = i * 2 + 1 + 1 by omega]
      simpa [pvals] using this
theorem stepT_len (T : List (Int × Int)) (p : Int) : (stepT T p).length ≤ T.length + 1 := by
  rcases List.eq_nil_or_concat T with h | ⟨T', q, h⟩
  · subst h; simp [stepT]
  · subst h
    obtain ⟨q, t⟩ := q
    rw [List.concat_eq_append]
    by_cases hq : q = p
    · subst hq; rw [stepT_same]; simp
    · rw [stepT_new _ _ _ _ hq]; simp
theorem tly_len (l : List Int) : (tly l).length ≤ l.length := by
  have : ∀ (l : List Int) (T : List (Int × Int)), (l.foldl stepT T).length ≤ T.length + l.length := by
    intro l
    induction l with
    | nil => intro T; simp
    | cons a l ih =>
      intro T
      have h1 := ih (stepT T a)
      have h2 := stepT_len T a
      simp only [List.foldl_cons, List.length_cons]
      omega
  have h := this l []
  simpa [tly] using h
end Go.Proofs.YtcnfhndejkngkaaGreatDoor
end

section
set_option linter.unusedSimpArgs false
set_option linter.unusedVariables false
set_option maxRecDepth 100000
namespace Go.Proofs.YtcnfhndejkngkaaGreatDoor
namespace FZ
def fib : Nat → Nat
  | 0 => 0
  | 1 => 1
  | n + 2 => fib n + fib (n + 1)
def fb (n : Nat) : Nat × Nat := Nat.rec (0, 1) (fun _ p => (p.2, p.1 + p.2)) n
def sm : List Nat → Nat
  | [] => 0
  | k :: r => fib k + sm r
structure Zk (l : List Nat) (n : Nat) : Prop where
  low : ∀ i, i < l.length → 2 ≤ l.getD i 0 ∧ l.getD i 0 ≤ 90
  gap : ∀ i, 0 < i → i < l.length → l.getD i 0 + 2 ≤ l.getD (i - 1) 0
  sum : sm l = n
end FZ
end Go.Proofs.YtcnfhndejkngkaaGreatDoor
end

section
set_option linter.unusedSimpArgs false
set_option linter.unusedVariables false
set_option maxRecDepth 100000
namespace Go.Proofs.YtcnfhndejkngkaaGreatDoor
namespace FZ
structure Zs (n i R : Nat) (L : List Nat) : Prop where
  sum : sm L + R = n
  lt : R < fib (88 - i)
  low : ∀ j, j < L.length → 88 - i ≤ L.getD j 0 ∧ L.getD j 0 ≤ 87
  gap : ∀ j, 0 < j → j < L.length → L.getD j 0 + 2 ≤ L.getD (j - 1) 0
  last : 0 < L.length → L.getD (L.length - 1) 0 = 88 - i → R < fib (87 - i)
end FZ
end Go.Proofs.YtcnfhndejkngkaaGreatDoor
end

section
set_option linter.unusedSimpArgs false
set_option linter.unusedVariables false
set_option maxRecDepth 100000
namespace Go.Proofs.YtcnfhndejkngkaaGreatDoor.LgM
abbrev Bs : Nat := 1000000000
def dgl (k n : Nat) : List Nat := (List.range k).map (fun j => n / Bs ^ j % Bs)
structure Nd (k n : Nat) : Prop where
  lt : n < Bs ^ k
  ge : k = 0 ∨ Bs ^ (k - 1) ≤ n
open Go
def pk : Nat → Nat → List UInt8
  | 0, _ => []
  | k + 1, r => pk k (r / 10) ++ [UInt8.ofNat (48 + r % 10)]
theorem dec_ge {u : Nat} (h : ¬ u < 10) : Lib.decDigits u = Lib.decDigits (u / 10) ++ [UInt8.ofNat (48 + u % 10)] := by
  rw [Lib.decDigits, dif_neg h]
theorem dec_lt {u : Nat} (h : u < 10) : Lib.decDigits u = [UInt8.ofNat (48 + u)] := by
  rw [Lib.decDigits, dif_pos h]
theorem pk_zero (k : Nat) : pk k 0 = List.replicate k 48 := by
  induction k with
  | zero => rfl
  | succ k ih => simp only [pk]; rw [show (0 : Nat) / 10 = 0 from rfl, ih]; rw [List.replicate_succ']; rfl
theorem pk_pad (k r : Nat) (hk : 1 ≤ k) (hr : r < 10 ^ k) : pk k r = List.replicate (k - (Lib.decDigits r).length) 48 ++ Lib.decDigits r ∧ (Lib.decDigits r).length ≤ k := by
  induction k generalizing r with
  | zero => omega
  | succ k ih =>
    by_cases h : r < 10
    · rw [dec_lt h]
      have e : r / 10 = 0 := by omega
      refine ⟨?_, by simp⟩
      simp only [pk, e, pk_zero]
      rw [Nat.mod_eq_of_lt h]; simp
    · have hk1 : 1 ≤ k := by
        rcases k with _ | k
        · simp at hr; omega
        · omega
      obtain ⟨h1, h2⟩ := ih (r / 10) hk1 (by rw [Nat.pow_succ] at hr; omega)
      rw [dec_ge h]
      refine ⟨?_, by simp; omega⟩
      simp only [pk, h1, List.length_append, List.length_cons, List.length_nil]
      rw [show k + 1 - ((Lib.decDigits (r / 10)).length + (0 + 1)) = k - (Lib.decDigits (r / 10)).length by omega]
      simp
def rd (a : Nat) (l : List UInt8) : Nat := l.foldl (fun a c => a * 10 + (c.toNat - 48)) a
theorem dec_len (n k : Nat) (hk : 1 ≤ k) (h : n < 10 ^ k) : (Lib.decDigits n).length ≤ k := (pk_pad k n hk h).2
end Go.Proofs.YtcnfhndejkngkaaGreatDoor.LgM
end

section
set_option linter.unusedSimpArgs false
set_option linter.unusedVariables false
set_option maxRecDepth 100000
namespace Go.Proofs.YtcnfhndejkngkaaGreatDoor.CnQ
def es (a b : Int) : Nat → Int × Int
  | 0 => (a, b)
  | i + 1 => ((es a b i).2, (es a b i).1 % (es a b i).2)
def kq (a b : Int) (i : Nat) : Int := (es a b i).1 / (es a b i).2
def ek (a b : Int) (n : Nat) : List Int := (List.range n).map (kq a b)
theorem ek_succ (a b : Int) (n : Nat) : ek a b (n + 1) = ek a b n ++ [kq a b n] := by simp [ek, List.range_succ]
theorem ek_len (a b : Int) (n : Nat) : (ek a b n).length = n := by simp [ek]
theorem ek_prefix (a b : Int) {m n : Nat} (h : m ≤ n) : ek a b m <+: ek a b n := by
  induction n with
  | zero => obtain rfl : m = 0 := by omega
            exact List.prefix_refl _
  | succ n ih =>
    by_cases e : m = n + 1
    · subst e; exact List.prefix_refl _
    · rw [ek_succ]; exact (ih (by omega)).trans (List.prefix_append _ _)
structure En (a b : Int) (N : Nat) : Prop where
  b0 : 0 < b
  pos : ∀ i, i < N → 0 < (es a b i).2
  zero : (es a b N).2 = 0
theorem En.one {a b : Int} {N : Nat} (h : En a b N) : 1 ≤ N := by
  rcases Nat.eq_zero_or_pos N with e | e
  · subst e; have := h.zero; have := h.b0; simp [es] at *; omega
  · exact e
theorem En.step {a b : Int} {N : Nat} (h : En a b N) {i : Nat} (hi : i < N) : (es a b (i + 1)).1 = (es a b i).2 ∧ (es a b (i + 1)).2 = (es a b i).1 % (es a b i).2 ∧ 0 ≤ (es a b (i + 1)).2 ∧ (es a b (i + 1)).2 < (es a b i).2 := by
  have := h.pos i hi
  exact ⟨rfl, rfl, Int.emod_nonneg _ (by omega), Int.emod_lt_of_pos _ this⟩
theorem En.up {a b : Int} {N : Nat} (h : En a b N) {i : Nat} (hi : i < N) (h0 : 0 < i) : (es a b i).2 < (es a b i).1 ∧ (es a b i).1 ≤ b := by
  induction i with
  | zero => omega
  | succ i ih =>
    have s := h.step (i := i) (by omega)
    refine ⟨by rw [s.1]; exact s.2.2.2, ?_⟩
    rw [s.1]
    rcases Nat.eq_zero_or_pos i with e | e
    · subst e; simp [es]
    · have := ih (by omega) e; omega
theorem En.down_le {a b : Int} {N : Nat} (h : En a b N) {i : Nat} (hi : i ≤ N) : 0 ≤ (es a b i).2 ∧ (es a b i).2 ≤ b := by
  induction i with
  | zero => have := h.b0; simp [es]; omega
  | succ i ih => have s := h.step (i := i) (by omega); have := ih (by omega); omega
theorem half (n : Nat) : ∀ (a b : Int), 0 < b → b < 2 ^ n → ∃ N, N ≤ 2 * n ∧ En a b N := by
  induction n with
  | zero => intro a b h1 h2; simp at h2; omega
  | succ n ih =>
    intro a b h1 h2
    have m0 := Int.emod_nonneg a (show b ≠ 0 by omega)
    have m1 := Int.emod_lt_of_pos a h1
    by_cases c : a % b = 0
    · refine ⟨1, by omega, h1, fun i hi => ?_, ?_⟩
      · obtain rfl : i = 0 := by omega
        exact h1
      · simp [es]; exact c
    have c0 : 0 < a % b := by omega
    have r0 := Int.emod_nonneg b (show a % b ≠ 0 by omega)
    have r1 := Int.emod_lt_of_pos b c0
    by_cases d : b % (a % b) = 0
    · refine ⟨2, by omega, h1, fun i hi => ?_, ?_⟩
      · rcases i with _ | _ | i
        · exact h1
        · exact c0
        · omega
      · exact d
    have d0 : 0 < b % (a % b) := by omega
    have hl : b % (a % b) < 2 ^ n := by
      have e := Int.mul_ediv_add_emod b (a % b)
      have hq : 1 ≤ b / (a % b) := by
        have := Int.ediv_nonneg (show 0 ≤ b by omega) (show 0 ≤ a % b by omega)
        rcases Int.lt_or_le (b / (a % b)) 1 with h | h
        · have : b / (a % b) = 0 := by omega
          rw [this] at e; omega
        · exact h
      have := Int.mul_le_mul_of_nonneg_left hq (show 0 ≤ a % b by omega)
      rw [Int.pow_succ] at h2
      omega
    obtain ⟨N, hN, hE⟩ := ih (a % b) (b % (a % b)) d0 hl
    have sh : ∀ i, es a b (i + 2) = es (a % b) (b % (a % b)) i := by
      intro i
      induction i with
      | zero => rfl
      | succ i ih2 => rw [show es a b (i + 1 + 2) = ((es a b (i + 2)).2, (es a b (i + 2)).1 % (es a b (i + 2)).2) from rfl, ih2]; rfl
    refine ⟨N + 2, by omega, h1, fun i hi => ?_, ?_⟩
    · rcases i with _ | _ | i
      · exact h1
      · exact c0
      · rw [sh]; exact hE.pos i (by omega)
    · rw [sh]; exact hE.zero
def cf : List Int → Int × Int
  | [] => (1, 0)
  | x :: r => (x * (cf r).1 + (cf r).2, (cf r).1)
theorem En.size {a b : Int} {N M : Nat} (h : En a b N) (ha : a.natAbs ≤ M) (hb : b.natAbs ≤ M) {i : Nat} (hi : i < N) : (kq a b i).natAbs ≤ M := by
  have p := h.pos i hi
  have hu : (es a b i).1.natAbs ≤ M := by
    rcases Nat.eq_zero_or_pos i with e | e
    · subst e; exact ha
    · have := h.up hi e; omega
  unfold kq
  exact Nat.le_trans (Int.natAbs_ediv_le_natAbs _ _) hu
end Go.Proofs.YtcnfhndejkngkaaGreatDoor.CnQ
end
