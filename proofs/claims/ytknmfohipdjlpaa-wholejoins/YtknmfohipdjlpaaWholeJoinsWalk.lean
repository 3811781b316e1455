/- The law WholeJoins: the walk. -/
import Derived.Test.YtknmfohipdjlpaaWholeM
set_option linter.unusedSimpArgs false
set_option linter.unusedVariables false
namespace Go.Proofs.Ytknmfohipdjlpaa.wholeJoins
open Go.RowKit

theorem Try.infoInt : (Try.prog.info? 3).map (fun i => (i.zero, i.size, i.bytes)) = some (some (.int .i64 0), 1, 8) := by kernel_rfl

theorem IS.of_own {w : World} {base : Nat} {v : Value} {l : List Int} (h : w.ownsRow base 3 1 v l.length (l.map fun x : Int => Value.int .i64 x)) : IS w v l := by
  obtain ⟨_, ⟨h1, h2⟩ | ⟨g, cap, cur, e1, _, e3, e4, _, e6, e7⟩⟩ := h
  · exact ⟨none, 0, 0, 0, by rw [h1, h2], fun h => by omega, fun i hi => by omega, fun h => by omega⟩
  · refine ⟨some ⟨g, 0, none⟩, g, 0, cap, e1, fun _ => rfl, fun i hi => ?_, fun _ => lt_of_some e3⟩
    have h3 : (cur.toList.take (l.length * 1))[i]? = (l.map fun x : Int => Value.int .i64 x)[i]? := by rw [e7]
    rw [List.getElem?_take, if_pos (by omega)] at h3
    simp only [World.cell?, e3]
    rw [Nat.zero_add, ← Array.getElem?_toList, h3]
    simp [hi]

theorem IS.below {w w' : World} {s : Value} {xs : List Int} (h : IS w s xs) (k : Below w.heap.size w w') : IS w' s xs := by
  obtain ⟨a, g, o, c, e, p, cell, lt⟩ := h.shape
  exact ⟨a, g, o, c, e, p, fun i hi => cell_later k (cell i hi), fun hp => Nat.lt_of_lt_of_le (lt hp) k.size⟩

theorem IS.nil (w : World) : IS w (.slice none 0 0) [] := ⟨none, 0, 0, 0, rfl, fun h => by simp at h, fun i hi => by simp at hi, fun h => by simp at h⟩

set_option maxHeartbeats 2000000 in
theorem walk_some_some (ad bd : Addr) (ca cb : Nat) (rs ms : List Int) (w : World) (hA : rs.length * 8 ≤ 140737488351232) (hB : ms.length * 8 ≤ 140737488351232)
    (hca : ∀ j u, (rs.map fun x : Int => Value.int .i64 x)[j]? = some u → w.cell? (ad.add j) = some u)
    (hcb : ∀ j u, (ms.map fun x : Int => Value.int .i64 x)[j]? = some u → w.cell? (bd.add j) = some u)
    (hIA : IS w (.slice (some ad) rs.length ca) rs) (hIB : IS w (.slice (some bd) ms.length cb) ms)
    (hb1 : ∀ i, i < rs.length → -9223372036854775808 ≤ rs.getD i 0 ∧ rs.getD i 0 ≤ 9223372036854775807) (hb2 : ∀ i, i < ms.length → -9223372036854775808 ≤ ms.getD i 0 ∧ ms.getD i 0 ≤ 9223372036854775807) :
    Calls Try.prog 5 #[.slice (some ad) rs.length ca, .slice (some bd) ms.length cb] w fun e w' => e = .returned (.bool true) ∧ Below w.heap.size w w' := by
  obtain ⟨i0, hi, hz0, hz1, hz2⟩ := info_parts Try.infoInt
  have HIA : Hid (IS w (.slice (some ad) rs.length ca) rs) := hIA
  have HIB : Hid (IS w (.slice (some bd) ms.length cb) ms) := hIB
  have HB1 : Hid (∀ i, i < rs.length → -9223372036854775808 ≤ rs.getD i 0 ∧ rs.getD i 0 ≤ 9223372036854775807) := hb1
  have HB2 : Hid (∀ i, i < ms.length → -9223372036854775808 ≤ ms.getD i 0 ∧ ms.getD i 0 ≤ 9223372036854775807) := hb2
  have HCA : Hid (∀ j u, (rs.map fun x : Int => Value.int .i64 x)[j]? = some u → w.cell? (ad.add j) = some u) := hca
  have HOA : Hid (∀ u ∈ (rs.map fun x : Int => Value.int .i64 x), u.oneCell' = true) := by intro u hu; simp at hu; obtain ⟨x, _, rfl⟩ := hu; rfl
  clear hca
  have HCB : Hid (∀ j u, (ms.map fun x : Int => Value.int .i64 x)[j]? = some u → w.cell? (bd.add j) = some u) := hcb
  have HOB : Hid (∀ u ∈ (ms.map fun x : Int => Value.int .i64 x), u.oneCell' = true) := by intro u hu; simp at hu; obtain ⟨x, _, rfl⟩ := hu; rfl
  clear hcb
  clear hIA hIB hb1 hb2
  go_enter Try.func5, Try.ntmps5
  go_wp2_with (at_builtin; refine wpList_append_own _ rfl _ _ 43 rfl w.heap.size 3 i0 (.int .i64 0) 1 8 Try.underlying43 hi hz0 hz1 hz2 rfl (by decide) _ 0 [] rfl (World.ownsRow_nil _ _ _ _) ad rs.length ca (rs.map fun x : Int => Value.int .i64 x) rfl (by simp) HCA.out HOA.out (by unfold maxLen; omega) (by omega) (Nat.le_refl _) ?_)
  intro v1 w1 hown hgrow _
  try simp only [Nat.zero_add, List.nil_append] at hown
  have kw1 : Below w.heap.size w w1 := (Below.refl _ _).grown hgrow (Nat.le_refl _) (by simp [Value.ownBlock])
  have I1 : Hid (IS w1 v1 rs) := IS.of_own hown
  clear hown hgrow
  have HCB1 : Hid (∀ j u, (ms.map fun x : Int => Value.int .i64 x)[j]? = some u → w1.cell? (bd.add j) = some u) := fun j u h => cell_later kw1 (HCB.out j u h)
  go_wp2_with (at_builtin; refine wpList_append_own _ rfl _ _ 43 rfl w1.heap.size 3 i0 (.int .i64 0) 1 8 Try.underlying43 hi hz0 hz1 hz2 rfl (by decide) _ 0 [] rfl (World.ownsRow_nil _ _ _ _) bd ms.length cb (ms.map fun x : Int => Value.int .i64 x) rfl (by simp) HCB1.out HOB.out (by unfold maxLen; omega) (by omega) (Nat.le_refl _) ?_)
  intro v2 w2 hown hgrow _
  try simp only [Nat.zero_add, List.nil_append] at hown
  have kw2 : Below w1.heap.size w1 w2 := (Below.refl _ _).grown hgrow (Nat.le_refl _) (by simp [Value.ownBlock])
  have I2 : Hid (IS w2 v2 ms) := IS.of_own hown
  clear hown hgrow
  have I1' : Hid (IS w2 (v1) rs) := IS.below I1.out kw2
  have K2 : Hid (Below w.heap.size w w2) := kw1.trans (kw2.mono kw1.size)
  clear kw1 kw2 I1
  go_wp2_with fail
  refine (Join_any (v1) (v2) rs ms w2 I1'.out I2.out (by omega) (by omega)).mono ?_
  rintro e w3 ⟨R, M, c, at', rfl, hj, k3⟩
  have HJ : Hid (JOut rs ms R M c at') := hj
  have K3 : Hid (Below w.heap.size w w3) := K2.out.trans (k3.mono K2.out.size)
  have J1 : Hid (IS w3 (v1) rs) := IS.below I1'.out k3
  have J2 : Hid (IS w3 (v2) ms) := IS.below I2.out k3
  clear hj k3 K2 I1' I2
  go_wp2_with fail
  have k4 := Below.alloc_self w3 (.cells #[.int .i64 c, .int .i64 at'] 23)
  refine (Joined_any (.slice (some ad) rs.length ca) (.slice (some bd) ms.length cb) rs ms _ (IS.below HIA.out (K3.out.trans (k4.mono K3.out.size))) (IS.below HIB.out (K3.out.trans (k4.mono K3.out.size))) (by omega) (by omega) HB1.out HB2.out).mono ?_
  rintro e w4 ⟨R', M', c', a', rfl, hj, k5⟩
  obtain ⟨e1, e2, e3, e4⟩ := jout_unique HJ.out hj
  subst e1 e2 e3 e4
  have F4 : Hid (Sv w3.heap.size c at' w4) := (Sv.new c at' w3).below k5
  have k6 : Below w3.heap.size w3 w4 := k4.trans (k5.mono (by simp))
  have K4 : Hid (Below w.heap.size w w4) := K3.out.trans (k6.mono K3.out.size)
  have L1 : Hid (IS w4 (v1) rs) := IS.below J1.out k6
  have L2 : Hid (IS w4 (v2) ms) := IS.below J2.out k6
  clear hj k4 k5 k6 K3 J1 J2
  go_wp2_with fail
  refine (begun_any _).mono ?_
  rintro e w5 ⟨rfl, k7⟩
  have F5 : Hid (Sv w3.heap.size c at' w5) := (F4.out.alloc _ _).below k7
  have W5 : Hid (Sv w4.heap.size c at' w5) := (Sv.new c at' w4).below k7
  have k8 : Below w4.heap.size w4 w5 := (Below.alloc_self w4 _).trans (k7.mono (by simp))
  have K5 : Hid (Below w.heap.size w w5) := K4.out.trans (k8.mono K4.out.size)
  have M1 : Hid (IS w5 (v1) rs) := IS.below L1.out k8
  have M2 : Hid (IS w5 (v2) ms) := IS.below L2.out k8
  clear k7 k8 K4 L1 L2 F4
  obtain ⟨f0, f1, f2, f3, f4⟩ := F5.out
  obtain ⟨g0, g1, g2, g3, g4⟩ := W5.out
  go_wp2_with fail
  refine (refInts_same (v1) (.slice (some ad) rs.length ca) rs _ M1.out (IS.below HIA.out K5.out) (by omega)).mono ?_
  rintro e w6 ⟨rfl, q6, hw6⟩
  have k9 : Below w5.heap.size w5 w6 := by rw [hw6]; exact below_drewN' (Below.refl _ _)
  have K6 : Hid (Below w.heap.size w w6) := K5.out.trans (k9.mono K5.out.size)
  have N2 : Hid (IS w6 (v2) ms) := IS.below M2.out k9
  clear hw6 k9 M1 M2 K5
  go_wp2_with fail
  refine (refInts_same (v2) (.slice (some bd) ms.length cb) ms _ N2.out (IS.below HIB.out K6.out) (by omega)).mono ?_
  rintro e w7 ⟨rfl, q7, hw7⟩
  have K7 : Hid (Below w.heap.size w w7) := by rw [hw7]; exact below_drewN' K6.out
  clear hw7 K6
  go_wp2
  go_ret
  exact ⟨rfl, K7.out⟩

set_option maxHeartbeats 2000000 in
theorem walk_some_none (ad bd : Addr) (ca cb : Nat) (rs ms : List Int) (w : World) (hA : rs.length * 8 ≤ 140737488351232) (hB : ms.length * 8 ≤ 140737488351232)
    (hca : ∀ j u, (rs.map fun x : Int => Value.int .i64 x)[j]? = some u → w.cell? (ad.add j) = some u)
    (hrb : ms = [])
    (hIA : IS w (.slice (some ad) rs.length ca) rs) (hIB : IS w (.slice none 0 0) ms)
    (hb1 : ∀ i, i < rs.length → -9223372036854775808 ≤ rs.getD i 0 ∧ rs.getD i 0 ≤ 9223372036854775807) (hb2 : ∀ i, i < ms.length → -9223372036854775808 ≤ ms.getD i 0 ∧ ms.getD i 0 ≤ 9223372036854775807) :
    Calls Try.prog 5 #[.slice (some ad) rs.length ca, .slice none 0 0] w fun e w' => e = .returned (.bool true) ∧ Below w.heap.size w w' := by
  obtain ⟨i0, hi, hz0, hz1, hz2⟩ := info_parts Try.infoInt
  have HIA : Hid (IS w (.slice (some ad) rs.length ca) rs) := hIA
  have HIB : Hid (IS w (.slice none 0 0) ms) := hIB
  have HB1 : Hid (∀ i, i < rs.length → -9223372036854775808 ≤ rs.getD i 0 ∧ rs.getD i 0 ≤ 9223372036854775807) := hb1
  have HB2 : Hid (∀ i, i < ms.length → -9223372036854775808 ≤ ms.getD i 0 ∧ ms.getD i 0 ≤ 9223372036854775807) := hb2
  have HCA : Hid (∀ j u, (rs.map fun x : Int => Value.int .i64 x)[j]? = some u → w.cell? (ad.add j) = some u) := hca
  have HOA : Hid (∀ u ∈ (rs.map fun x : Int => Value.int .i64 x), u.oneCell' = true) := by intro u hu; simp at hu; obtain ⟨x, _, rfl⟩ := hu; rfl
  clear hca
  have HRB : Hid (ms = []) := hrb
  clear hrb
  clear hIA hIB hb1 hb2
  go_enter Try.func5, Try.ntmps5
  go_wp2_with (at_builtin; refine wpList_append_own _ rfl _ _ 43 rfl w.heap.size 3 i0 (.int .i64 0) 1 8 Try.underlying43 hi hz0 hz1 hz2 rfl (by decide) _ 0 [] rfl (World.ownsRow_nil _ _ _ _) ad rs.length ca (rs.map fun x : Int => Value.int .i64 x) rfl (by simp) HCA.out HOA.out (by unfold maxLen; omega) (by omega) (Nat.le_refl _) ?_)
  intro v1 w1 hown hgrow _
  try simp only [Nat.zero_add, List.nil_append] at hown
  have kw1 : Below w.heap.size w w1 := (Below.refl _ _).grown hgrow (Nat.le_refl _) (by simp [Value.ownBlock])
  have I1 : Hid (IS w1 v1 rs) := IS.of_own hown
  clear hown hgrow
  go_wp2_with (at_builtin; refine wpList_append_own_none rfl _ _ 43 rfl w1.heap.size 3 i0 1 Try.underlying43 hi _ 0 [] rfl (World.ownsRow_nil _ _ _ _) rfl ?_)
  obtain ⟨w2, hw2⟩ : ∃ x, x = w1 := ⟨_, rfl⟩
  obtain ⟨v2, hv2⟩ : ∃ x : Value, x = .slice none 0 0 := ⟨_, rfl⟩
  have kw2 : Below w1.heap.size w1 w2 := by rw [hw2]; exact Below.refl _ _
  have I2 : Hid (IS w2 v2 ms) := by rw [hv2, HRB.out]; exact IS.nil _
  rw [← hw2]
  rw [hv2] at I2
  clear hw2 hv2 v2
  have I1' : Hid (IS w2 (v1) rs) := IS.below I1.out kw2
  have K2 : Hid (Below w.heap.size w w2) := kw1.trans (kw2.mono kw1.size)
  clear kw1 kw2 I1
  go_wp2_with fail
  refine (Join_any (v1) (.slice none 0 0) rs ms w2 I1'.out I2.out (by omega) (by omega)).mono ?_
  rintro e w3 ⟨R, M, c, at', rfl, hj, k3⟩
  have HJ : Hid (JOut rs ms R M c at') := hj
  have K3 : Hid (Below w.heap.size w w3) := K2.out.trans (k3.mono K2.out.size)
  have J1 : Hid (IS w3 (v1) rs) := IS.below I1'.out k3
  have J2 : Hid (IS w3 (.slice none 0 0) ms) := IS.below I2.out k3
  clear hj k3 K2 I1' I2
  go_wp2_with fail
  have k4 := Below.alloc_self w3 (.cells #[.int .i64 c, .int .i64 at'] 23)
  refine (Joined_any (.slice (some ad) rs.length ca) (.slice none 0 0) rs ms _ (IS.below HIA.out (K3.out.trans (k4.mono K3.out.size))) (IS.below HIB.out (K3.out.trans (k4.mono K3.out.size))) (by omega) (by omega) HB1.out HB2.out).mono ?_
  rintro e w4 ⟨R', M', c', a', rfl, hj, k5⟩
  obtain ⟨e1, e2, e3, e4⟩ := jout_unique HJ.out hj
  subst e1 e2 e3 e4
  have F4 : Hid (Sv w3.heap.size c at' w4) := (Sv.new c at' w3).below k5
  have k6 : Below w3.heap.size w3 w4 := k4.trans (k5.mono (by simp))
  have K4 : Hid (Below w.heap.size w w4) := K3.out.trans (k6.mono K3.out.size)
  have L1 : Hid (IS w4 (v1) rs) := IS.below J1.out k6
  have L2 : Hid (IS w4 (.slice none 0 0) ms) := IS.below J2.out k6
  clear hj k4 k5 k6 K3 J1 J2
  go_wp2_with fail
  refine (begun_any _).mono ?_
  rintro e w5 ⟨rfl, k7⟩
  have F5 : Hid (Sv w3.heap.size c at' w5) := (F4.out.alloc _ _).below k7
  have W5 : Hid (Sv w4.heap.size c at' w5) := (Sv.new c at' w4).below k7
  have k8 : Below w4.heap.size w4 w5 := (Below.alloc_self w4 _).trans (k7.mono (by simp))
  have K5 : Hid (Below w.heap.size w w5) := K4.out.trans (k8.mono K4.out.size)
  have M1 : Hid (IS w5 (v1) rs) := IS.below L1.out k8
  have M2 : Hid (IS w5 (.slice none 0 0) ms) := IS.below L2.out k8
  clear k7 k8 K4 L1 L2 F4
  obtain ⟨f0, f1, f2, f3, f4⟩ := F5.out
  obtain ⟨g0, g1, g2, g3, g4⟩ := W5.out
  go_wp2_with fail
  refine (refInts_same (v1) (.slice (some ad) rs.length ca) rs _ M1.out (IS.below HIA.out K5.out) (by omega)).mono ?_
  rintro e w6 ⟨rfl, q6, hw6⟩
  have k9 : Below w5.heap.size w5 w6 := by rw [hw6]; exact below_drewN' (Below.refl _ _)
  have K6 : Hid (Below w.heap.size w w6) := K5.out.trans (k9.mono K5.out.size)
  have N2 : Hid (IS w6 (.slice none 0 0) ms) := IS.below M2.out k9
  clear hw6 k9 M1 M2 K5
  go_wp2_with fail
  refine (refInts_same (.slice none 0 0) (.slice none 0 0) ms _ N2.out (IS.below HIB.out K6.out) (by omega)).mono ?_
  rintro e w7 ⟨rfl, q7, hw7⟩
  have K7 : Hid (Below w.heap.size w w7) := by rw [hw7]; exact below_drewN' K6.out
  clear hw7 K6
  go_wp2
  go_ret
  exact ⟨rfl, K7.out⟩

set_option maxHeartbeats 2000000 in
theorem walk_none_some (ad bd : Addr) (ca cb : Nat) (rs ms : List Int) (w : World) (hA : rs.length * 8 ≤ 140737488351232) (hB : ms.length * 8 ≤ 140737488351232)
    (hra : rs = [])
    (hcb : ∀ j u, (ms.map fun x : Int => Value.int .i64 x)[j]? = some u → w.cell? (bd.add j) = some u)
    (hIA : IS w (.slice none 0 0) rs) (hIB : IS w (.slice (some bd) ms.length cb) ms)
    (hb1 : ∀ i, i < rs.length → -9223372036854775808 ≤ rs.getD i 0 ∧ rs.getD i 0 ≤ 9223372036854775807) (hb2 : ∀ i, i < ms.length → -9223372036854775808 ≤ ms.getD i 0 ∧ ms.getD i 0 ≤ 9223372036854775807) :
    Calls Try.prog 5 #[.slice none 0 0, .slice (some bd) ms.length cb] w fun e w' => e = .returned (.bool true) ∧ Below w.heap.size w w' := by
  obtain ⟨i0, hi, hz0, hz1, hz2⟩ := info_parts Try.infoInt
  have HIA : Hid (IS w (.slice none 0 0) rs) := hIA
  have HIB : Hid (IS w (.slice (some bd) ms.length cb) ms) := hIB
  have HB1 : Hid (∀ i, i < rs.length → -9223372036854775808 ≤ rs.getD i 0 ∧ rs.getD i 0 ≤ 9223372036854775807) := hb1
  have HB2 : Hid (∀ i, i < ms.length → -9223372036854775808 ≤ ms.getD i 0 ∧ ms.getD i 0 ≤ 9223372036854775807) := hb2
  have HRA : Hid (rs = []) := hra
  clear hra
  have HCB : Hid (∀ j u, (ms.map fun x : Int => Value.int .i64 x)[j]? = some u → w.cell? (bd.add j) = some u) := hcb
  have HOB : Hid (∀ u ∈ (ms.map fun x : Int => Value.int .i64 x), u.oneCell' = true) := by intro u hu; simp at hu; obtain ⟨x, _, rfl⟩ := hu; rfl
  clear hcb
  clear hIA hIB hb1 hb2
  go_enter Try.func5, Try.ntmps5
  go_wp2_with (first | (at_builtin; refine wpList_append_own_none rfl _ _ 43 rfl w.heap.size 3 i0 1 Try.underlying43 hi _ 0 [] rfl (World.ownsRow_nil _ _ _ _) rfl ?_) | (at_builtin; refine wpList_append_own _ rfl _ _ 43 rfl w.heap.size 3 i0 (.int .i64 0) 1 8 Try.underlying43 hi hz0 hz1 hz2 rfl (by decide) _ 0 [] rfl (World.ownsRow_nil _ _ _ _) bd ms.length cb (ms.map fun x : Int => Value.int .i64 x) rfl (by simp) HCB.out HOB.out (by unfold maxLen; omega) (by omega) (Nat.le_refl _) ?_))
  intro v2 w2 hown hgrow _
  try simp only [Nat.zero_add, List.nil_append] at hown
  have kw2 : Below w.heap.size w w2 := (Below.refl _ _).grown hgrow (Nat.le_refl _) (by simp [Value.ownBlock])
  have I2 : Hid (IS w2 v2 ms) := IS.of_own hown
  clear hown hgrow
  have I1 : Hid (IS w (.slice none 0 0) rs) := HIA.out
  have kw1 : Below w.heap.size w w := Below.refl _ _
  have I1' : Hid (IS w2 (.slice none 0 0) rs) := IS.below I1.out kw2
  have K2 : Hid (Below w.heap.size w w2) := kw1.trans (kw2.mono kw1.size)
  clear kw1 kw2 I1
  go_wp2_with fail
  refine (Join_any (.slice none 0 0) (v2) rs ms w2 I1'.out I2.out (by omega) (by omega)).mono ?_
  rintro e w3 ⟨R, M, c, at', rfl, hj, k3⟩
  have HJ : Hid (JOut rs ms R M c at') := hj
  have K3 : Hid (Below w.heap.size w w3) := K2.out.trans (k3.mono K2.out.size)
  have J1 : Hid (IS w3 (.slice none 0 0) rs) := IS.below I1'.out k3
  have J2 : Hid (IS w3 (v2) ms) := IS.below I2.out k3
  clear hj k3 K2 I1' I2
  go_wp2_with fail
  have k4 := Below.alloc_self w3 (.cells #[.int .i64 c, .int .i64 at'] 23)
  refine (Joined_any (.slice none 0 0) (.slice (some bd) ms.length cb) rs ms _ (IS.below HIA.out (K3.out.trans (k4.mono K3.out.size))) (IS.below HIB.out (K3.out.trans (k4.mono K3.out.size))) (by omega) (by omega) HB1.out HB2.out).mono ?_
  rintro e w4 ⟨R', M', c', a', rfl, hj, k5⟩
  obtain ⟨e1, e2, e3, e4⟩ := jout_unique HJ.out hj
  subst e1 e2 e3 e4
  have F4 : Hid (Sv w3.heap.size c at' w4) := (Sv.new c at' w3).below k5
  have k6 : Below w3.heap.size w3 w4 := k4.trans (k5.mono (by simp))
  have K4 : Hid (Below w.heap.size w w4) := K3.out.trans (k6.mono K3.out.size)
  have L1 : Hid (IS w4 (.slice none 0 0) rs) := IS.below J1.out k6
  have L2 : Hid (IS w4 (v2) ms) := IS.below J2.out k6
  clear hj k4 k5 k6 K3 J1 J2
  go_wp2_with fail
  refine (begun_any _).mono ?_
  rintro e w5 ⟨rfl, k7⟩
  have F5 : Hid (Sv w3.heap.size c at' w5) := (F4.out.alloc _ _).below k7
  have W5 : Hid (Sv w4.heap.size c at' w5) := (Sv.new c at' w4).below k7
  have k8 : Below w4.heap.size w4 w5 := (Below.alloc_self w4 _).trans (k7.mono (by simp))
  have K5 : Hid (Below w.heap.size w w5) := K4.out.trans (k8.mono K4.out.size)
  have M1 : Hid (IS w5 (.slice none 0 0) rs) := IS.below L1.out k8
  have M2 : Hid (IS w5 (v2) ms) := IS.below L2.out k8
  clear k7 k8 K4 L1 L2 F4
  obtain ⟨f0, f1, f2, f3, f4⟩ := F5.out
  obtain ⟨g0, g1, g2, g3, g4⟩ := W5.out
  go_wp2_with fail
  refine (refInts_same (.slice none 0 0) (.slice none 0 0) rs _ M1.out (IS.below HIA.out K5.out) (by omega)).mono ?_
  rintro e w6 ⟨rfl, q6, hw6⟩
  have k9 : Below w5.heap.size w5 w6 := by rw [hw6]; exact below_drewN' (Below.refl _ _)
  have K6 : Hid (Below w.heap.size w w6) := K5.out.trans (k9.mono K5.out.size)
  have N2 : Hid (IS w6 (v2) ms) := IS.below M2.out k9
  clear hw6 k9 M1 M2 K5
  go_wp2_with fail
  refine (refInts_same (v2) (.slice (some bd) ms.length cb) ms _ N2.out (IS.below HIB.out K6.out) (by omega)).mono ?_
  rintro e w7 ⟨rfl, q7, hw7⟩
  have K7 : Hid (Below w.heap.size w w7) := by rw [hw7]; exact below_drewN' K6.out
  clear hw7 K6
  go_wp2
  go_ret
  exact ⟨rfl, K7.out⟩

set_option maxHeartbeats 2000000 in
theorem walk_none_none (ad bd : Addr) (ca cb : Nat) (rs ms : List Int) (w : World) (hA : rs.length * 8 ≤ 140737488351232) (hB : ms.length * 8 ≤ 140737488351232)
    (hra : rs = [])
    (hrb : ms = [])
    (hIA : IS w (.slice none 0 0) rs) (hIB : IS w (.slice none 0 0) ms)
    (hb1 : ∀ i, i < rs.length → -9223372036854775808 ≤ rs.getD i 0 ∧ rs.getD i 0 ≤ 9223372036854775807) (hb2 : ∀ i, i < ms.length → -9223372036854775808 ≤ ms.getD i 0 ∧ ms.getD i 0 ≤ 9223372036854775807) :
    Calls Try.prog 5 #[.slice none 0 0, .slice none 0 0] w fun e w' => e = .returned (.bool true) ∧ Below w.heap.size w w' := by
  obtain ⟨i0, hi, hz0, hz1, hz2⟩ := info_parts Try.infoInt
  have HIA : Hid (IS w (.slice none 0 0) rs) := hIA
  have HIB : Hid (IS w (.slice none 0 0) ms) := hIB
  have HB1 : Hid (∀ i, i < rs.length → -9223372036854775808 ≤ rs.getD i 0 ∧ rs.getD i 0 ≤ 9223372036854775807) := hb1
  have HB2 : Hid (∀ i, i < ms.length → -9223372036854775808 ≤ ms.getD i 0 ∧ ms.getD i 0 ≤ 9223372036854775807) := hb2
  have HRA : Hid (rs = []) := hra
  clear hra
  have HRB : Hid (ms = []) := hrb
  clear hrb
  clear hIA hIB hb1 hb2
  go_enter Try.func5, Try.ntmps5
  go_wp2_with (at_builtin; refine wpList_append_own_none rfl _ _ 43 rfl w.heap.size 3 i0 1 Try.underlying43 hi _ 0 [] rfl (World.ownsRow_nil _ _ _ _) rfl ?_)
  obtain ⟨w1, hw1⟩ : ∃ x, x = w := ⟨_, rfl⟩
  obtain ⟨v1, hv1⟩ : ∃ x : Value, x = .slice none 0 0 := ⟨_, rfl⟩
  have kw1 : Below w.heap.size w w1 := by rw [hw1]; exact Below.refl _ _
  have I1 : Hid (IS w1 v1 rs) := by rw [hv1, HRA.out]; exact IS.nil _
  rw [← hw1]
  rw [hv1] at I1
  clear hw1 hv1 v1
  go_wp2_with (at_builtin; refine wpList_append_own_none rfl _ _ 43 rfl w1.heap.size 3 i0 1 Try.underlying43 hi _ 0 [] rfl (World.ownsRow_nil _ _ _ _) rfl ?_)
  obtain ⟨w2, hw2⟩ : ∃ x, x = w1 := ⟨_, rfl⟩
  obtain ⟨v2, hv2⟩ : ∃ x : Value, x = .slice none 0 0 := ⟨_, rfl⟩
  have kw2 : Below w1.heap.size w1 w2 := by rw [hw2]; exact Below.refl _ _
  have I2 : Hid (IS w2 v2 ms) := by rw [hv2, HRB.out]; exact IS.nil _
  rw [← hw2]
  rw [hv2] at I2
  clear hw2 hv2 v2
  have I1' : Hid (IS w2 (.slice none 0 0) rs) := IS.below I1.out kw2
  have K2 : Hid (Below w.heap.size w w2) := kw1.trans (kw2.mono kw1.size)
  clear kw1 kw2 I1
  go_wp2_with fail
  refine (Join_any (.slice none 0 0) (.slice none 0 0) rs ms w2 I1'.out I2.out (by omega) (by omega)).mono ?_
  rintro e w3 ⟨R, M, c, at', rfl, hj, k3⟩
  have HJ : Hid (JOut rs ms R M c at') := hj
  have K3 : Hid (Below w.heap.size w w3) := K2.out.trans (k3.mono K2.out.size)
  have J1 : Hid (IS w3 (.slice none 0 0) rs) := IS.below I1'.out k3
  have J2 : Hid (IS w3 (.slice none 0 0) ms) := IS.below I2.out k3
  clear hj k3 K2 I1' I2
  go_wp2_with fail
  have k4 := Below.alloc_self w3 (.cells #[.int .i64 c, .int .i64 at'] 23)
  refine (Joined_any (.slice none 0 0) (.slice none 0 0) rs ms _ (IS.below HIA.out (K3.out.trans (k4.mono K3.out.size))) (IS.below HIB.out (K3.out.trans (k4.mono K3.out.size))) (by omega) (by omega) HB1.out HB2.out).mono ?_
  rintro e w4 ⟨R', M', c', a', rfl, hj, k5⟩
  obtain ⟨e1, e2, e3, e4⟩ := jout_unique HJ.out hj
  subst e1 e2 e3 e4
  have F4 : Hid (Sv w3.heap.size c at' w4) := (Sv.new c at' w3).below k5
  have k6 : Below w3.heap.size w3 w4 := k4.trans (k5.mono (by simp))
  have K4 : Hid (Below w.heap.size w w4) := K3.out.trans (k6.mono K3.out.size)
  have L1 : Hid (IS w4 (.slice none 0 0) rs) := IS.below J1.out k6
  have L2 : Hid (IS w4 (.slice none 0 0) ms) := IS.below J2.out k6
  clear hj k4 k5 k6 K3 J1 J2
  go_wp2_with fail
  refine (begun_any _).mono ?_
  rintro e w5 ⟨rfl, k7⟩
  have F5 : Hid (Sv w3.heap.size c at' w5) := (F4.out.alloc _ _).below k7
  have W5 : Hid (Sv w4.heap.size c at' w5) := (Sv.new c at' w4).below k7
  have k8 : Below w4.heap.size w4 w5 := (Below.alloc_self w4 _).trans (k7.mono (by simp))
  have K5 : Hid (Below w.heap.size w w5) := K4.out.trans (k8.mono K4.out.size)
  have M1 : Hid (IS w5 (.slice none 0 0) rs) := IS.below L1.out k8
  have M2 : Hid (IS w5 (.slice none 0 0) ms) := IS.below L2.out k8
  clear k7 k8 K4 L1 L2 F4
  obtain ⟨f0, f1, f2, f3, f4⟩ := F5.out
  obtain ⟨g0, g1, g2, g3, g4⟩ := W5.out
  go_wp2_with fail
  refine (refInts_same (.slice none 0 0) (.slice none 0 0) rs _ M1.out (IS.below HIA.out K5.out) (by omega)).mono ?_
  rintro e w6 ⟨rfl, q6, hw6⟩
  have k9 : Below w5.heap.size w5 w6 := by rw [hw6]; exact below_drewN' (Below.refl _ _)
  have K6 : Hid (Below w.heap.size w w6) := K5.out.trans (k9.mono K5.out.size)
  have N2 : Hid (IS w6 (.slice none 0 0) ms) := IS.below M2.out k9
  clear hw6 k9 M1 M2 K5
  go_wp2_with fail
  refine (refInts_same (.slice none 0 0) (.slice none 0 0) ms _ N2.out (IS.below HIB.out K6.out) (by omega)).mono ?_
  rintro e w7 ⟨rfl, q7, hw7⟩
  have K7 : Hid (Below w.heap.size w w7) := by rw [hw7]; exact below_drewN' K6.out
  clear hw7 K6
  go_wp2
  go_ret
  exact ⟨rfl, K7.out⟩

end Go.Proofs.Ytknmfohipdjlpaa.wholeJoins
