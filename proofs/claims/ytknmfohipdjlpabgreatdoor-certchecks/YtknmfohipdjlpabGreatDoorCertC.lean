/- Contracts of package cert: isTrue, wrong. -/
import Derived.Test.YtknmfohipdjlpabGreatDoorCertB
import Derived.Test.YtknmfohipdjlpabGreatDoorWholeI
set_option linter.unusedSimpArgs false
set_option linter.unusedVariables false
set_option maxRecDepth 100000
namespace Go.Proofs.YtknmfohipdjlpabGreatDoor
open Go.RowKit

theorem modPower_sp (R : Nat) (A K M : Int) (k m P : Nat) (hA : A = R) (hK : K = k) (hM : M = m) (hR : R < m) (hm : m ≤ 1000000000000000000) (hk : k ≤ 1000000000000000000) (hP : R ^ k % m = P) (w : World) :
    Calls Tryz.prog 61 #[.int .i64 A, .int .i64 K, .int .i64 M] w fun e w' => e = .returned (.int .i64 (P : Int)) ∧ ∃ q, w' = w.drewN q := by
  subst hA hK hM hP
  have h := modPower_any R k m w (by omega) (by omega) hm hk
  rwa [Int.emod_eq_of_lt (by omega) (by omega), Int.toNat_natCast] at h

theorem truth_no {n r : Int} {qs : List Int} {q : Int} (hn : n ≠ 2) (h : q ∈ qs) (hq : rootB n r q = false) : truthB n r qs = false := by
  rw [truthB, if_neg hn]
  cases h1 : (r.toNat ^ (n - 1).toNat % n.toNat == 1)
  · rfl
  · rw [Bool.true_and, ← Bool.not_eq_true, List.all_eq_true]
    intro h2
    rw [h2 q h] at hq; cases hq

theorem formed_more {n r : Int} {qs : List Int} (hn : n ≠ 2) (h : formedB n r qs = true) : 2 ≤ r ∧ r < n ∧ ∀ q ∈ qs, 2 ≤ q := by
  rw [formedB, if_neg hn] at h
  split at h
  · cases h
  · exact ⟨by omega, by omega, fun q hq => by have := strips_pos _ _ _ h q hq; omega⟩

set_option maxHeartbeats 1000000 in
theorem isTrue_any {B : Nat} {w0 : World} {c : Ct} (hc : InW B w0 c) (w : World) (hn1 : 2 ≤ c.n) (hn2 : c.n ≤ 1000000000000000000) (hf : formedB c.n c.r c.qs = true) (hb : Below B w0 w) (hB : B ≤ w.heap.size) :
    Calls Tryz.prog 40 #[.agg #[.int .i64 c.n, .int .i64 c.r, c.sl]] w fun e w' => e = .returned (.bool (truthB c.n c.r c.qs)) ∧ Below w.heap.size w w' := by
  have HC : Hid (InW B w0 c) := hc
  have hlen := hc.ok.len
  have HQ : Hid (∀ i (h : i < c.ps.length), c.ps[i].n ≤ 9223372036854775807) := fun i h => (hc.part i h).ok.n2
  have HF : Hid (formedB c.n c.r c.qs = true) := hf
  clear hc hf
  obtain ⟨n, r, a, cap, ps⟩ := c
  simp only [Ct.n_mk, Ct.r_mk, Ct.ps_mk, Ct.sl_mk, Ct.qs_mk] at *
  by_cases hn : n = 2
  · subst hn
    have t2 : ((2 : Int) == 2) = true := by decide
    have HE : Hid (truthB 2 r (ps.map Ct.n) = true) := by show _ = _; rw [truthB, if_pos rfl]
    go_enter Tryz.func40, Tryz.ntmps40
    go_wp2
    go_ret
    rw [HE.out]
    exact ⟨rfl, Below.alloc (Below.refl _ _) (Nat.le_refl _) _⟩
  have hn' : (n == 2) = false := beq_eq_false_iff_ne.2 hn
  obtain ⟨hr1, hr2, hq⟩ := formed_more hn HF.out
  have HQ2 : Hid (∀ i (h : i < ps.length), 2 ≤ ps[i].n) := fun i h => hq _ (List.mem_map.2 ⟨_, List.getElem_mem h, rfl⟩)
  clear hq HF
  obtain ⟨N, rfl⟩ : ∃ N : Nat, n = N + 1 := ⟨(n - 1).toNat, by omega⟩
  obtain ⟨R, rfl⟩ : ∃ R : Nat, r = R := ⟨r.toNat, by omega⟩
  obtain ⟨P, hP⟩ : ∃ P, R ^ N % (N + 1) = P := ⟨_, rfl⟩
  have HP : Hid (R ^ N % (N + 1) = P) := hP
  have HT : Hid (truthB ((N : Int) + 1) R (ps.map Ct.n) = ((P == 1) && (ps.map Ct.n).all (rootB ((N : Int) + 1) R))) := by
    show _ = _
    rw [truthB, if_neg hn, ← hP, show ((N : Int) + 1 - 1).toNat = N by omega, show ((N : Int) + 1).toNat = N + 1 by omega, Int.toNat_natCast]
  have HN : Hid ((N : Int) + 1 ≠ 2) := hn
  clear hn hP
  by_cases hP1 : P = 1
  · have p1 : ((P : Int) != 1) = false := by rw [hP1]; rfl
    go_enter Tryz.func40, Tryz.ntmps40
    go_wp2_with fail
    refine (modPower_sp R _ _ _ N (N + 1) P rfl (by omega) (by omega) (by omega) (by omega) (by omega) HP.out _).mono ?_
    rintro e w1 ⟨rfl, q1, rfl⟩
    go_wp2
    go_loopw [20] (fun iv wx => ∃ i : Nat, i ≤ ps.length ∧ iv = .int .i64 i ∧ Hid ((∀ j (h : j < i) (h' : j < ps.length), rootB ((N : Int) + 1) R ps[j].n = true) ∧ Below (w.heap.size + 1) (w.alloc (.cells #[.int .i64 ((N : Int) + 1), .int .i64 R, .slice a ps.length cap] 24)) wx)) (fun iv _ => ps.length - (intOf iv).toNat)
    case atStart => exact ⟨0, Nat.zero_le _, rfl, fun j h => absurd h (Nat.not_lt_zero _), below_drewN' (Below.refl _ _)⟩
    case round =>
      obtain ⟨i, hi, rfl, HR⟩ := hrel
      have hz := HR.out.2.size
      simp at hz
      have HBW : Hid (Below B w0 wr) := hb.trans (((Below.refl _ _).alloc hB _).trans (HR.out.2.mono (by omega)))
      have HBX : Hid (Below w.heap.size w wr) := ((Below.refl _ _).alloc (Nat.le_refl _) _).trans (HR.out.2.mono (by omega))
      have q0 : wr.cell? ⟨w.heap.size, 0, none⟩ = some (.int .i64 ((N : Int) + 1)) := (HR.out.2.cell (p := ⟨w.heap.size, 0, none⟩) (by simp)).trans (by simp)
      have q1 : wr.cell? ⟨w.heap.size, 1, none⟩ = some (.int .i64 R) := (HR.out.2.cell (p := ⟨w.heap.size, 1, none⟩) (by simp)).trans (by simp)
      by_cases hlt : i < ps.length
      · obtain ⟨b, o, ea, hbB, c0, c1, c2⟩ := HC.out.cells HBW.out i hlt
        simp only [Ct.a_mk, Ct.ps_mk] at ea c0 c1 c2
        subst ea
        have hq2 := HQ.out i hlt
        have hq1 := HQ2.out i hlt
        obtain ⟨rp, hrp⟩ : ∃ x, x = ps[i].r := ⟨_, rfl⟩
        obtain ⟨sp, hsp⟩ : ∃ x, x = ps[i].sl := ⟨_, rfl⟩
        obtain ⟨sa, sl, sc, hsl⟩ : ∃ x y z, sp = .slice x y z := ⟨_, _, _, hsp⟩
        rw [← hsp, hsl] at c2
        rw [← hrp] at c1
        clear hrp hsp hsl
        obtain ⟨Q, hq⟩ : ∃ Q : Nat, ps[i].n = Q := ⟨ps[i].n.toNat, by omega⟩
        rw [hq] at c0 hq1 hq2
        have HQE : Hid (ps[i].n = Q) := hq
        clear hq
        have hQ0 : ((Q : Int) == 0) = false := beq_eq_false_iff_ne.2 (by omega)
        obtain ⟨S, hS⟩ : ∃ S, R ^ (N / Q) % (N + 1) = S := ⟨_, rfl⟩
        have HS : Hid (R ^ (N / Q) % (N + 1) = S) := hS
        have hle : N / Q ≤ N := Nat.div_le_self _ _
        have HRB : Hid (rootB ((N : Int) + 1) R ps[i].n = (S != 1)) := by
          show _ = _
          rw [HQE.out, rootB, ← hS, show ((N : Int) + 1 - 1).toNat = N by omega, show ((N : Int) + 1).toNat = N + 1 by omega, Int.toNat_natCast, Int.toNat_natCast]
        clear hS
        have HK : Hid (wrap64 ((N : Int) / (Q : Int)) = ((N / Q : Nat) : Int)) := by
          show _ = _
          have e : ((N : Int) / (Q : Int)) = ((N / Q : Nat) : Int) := by simp
          obtain ⟨k, hk⟩ : ∃ k, k = N / Q := ⟨_, rfl⟩
          rw [e, ← hk]
          rw [← hk] at hle
          unfold wrap64; omega
        by_cases hS1 : S = 1
        · have s1 : ((S : Int) == 1) = true := by rw [hS1]; rfl
          have HFin : Hid (truthB ((N : Int) + 1) R (ps.map Ct.n) = false) := truth_no HN.out (List.mem_map.2 ⟨_, List.getElem_mem hlt, rfl⟩) (by rw [HRB.out, hS1]; rfl)
          clear hS1
          go_wp2
          obtain ⟨W1, hW1⟩ : ∃ W1, W1 = wr.alloc (.cells #[.int .i64 Q, .int .i64 rp, .slice sa sl sc] 24) := ⟨_, rfl⟩
          rw [← hW1]
          have HW1 : Hid (W1 = wr.alloc (.cells #[.int .i64 Q, .int .i64 rp, .slice sa sl sc] 24)) := hW1
          have d0 : W1.cell? ⟨w.heap.size, 0, none⟩ = some (.int .i64 ((N : Int) + 1)) := by rw [hW1]; exact (((Below.refl wr.heap.size wr).alloc (Nat.le_refl _) _).cell (p := ⟨w.heap.size, 0, none⟩) (by show w.heap.size < _; omega)).trans q0
          have d1 : W1.cell? ⟨w.heap.size, 1, none⟩ = some (.int .i64 R) := by rw [hW1]; exact (((Below.refl wr.heap.size wr).alloc (Nat.le_refl _) _).cell (p := ⟨w.heap.size, 1, none⟩) (by show w.heap.size < _; omega)).trans q1
          have d2 : W1.cell? ⟨wr.heap.size, 0, none⟩ = some (.int .i64 Q) := by rw [hW1]; simp
          clear hW1 q0 q1 c0 c1 c2
          go_quiet ((go_at_call 61; exact Calls.quiet_of (modPower_sp R _ _ _ (N / Q) (N + 1) S rfl HK.out (by omega) (by omega) (by omega) (by omega) HS.out _)))
          go_wp2
          go_ret
          rw [HFin.out]
          exact ⟨rfl, below_drewN' (by rw [HW1.out]; exact HBX.out.alloc (by omega) _)⟩
        · have s1 : ((S : Int) == 1) = false := beq_eq_false_iff_ne.2 (by omega)
          go_wp2
          obtain ⟨W1, hW1⟩ : ∃ W1, W1 = wr.alloc (.cells #[.int .i64 Q, .int .i64 rp, .slice sa sl sc] 24) := ⟨_, rfl⟩
          rw [← hW1]
          have HW1 : Hid (W1 = wr.alloc (.cells #[.int .i64 Q, .int .i64 rp, .slice sa sl sc] 24)) := hW1
          have d0 : W1.cell? ⟨w.heap.size, 0, none⟩ = some (.int .i64 ((N : Int) + 1)) := by rw [hW1]; exact (((Below.refl wr.heap.size wr).alloc (Nat.le_refl _) _).cell (p := ⟨w.heap.size, 0, none⟩) (by show w.heap.size < _; omega)).trans q0
          have d1 : W1.cell? ⟨w.heap.size, 1, none⟩ = some (.int .i64 R) := by rw [hW1]; exact (((Below.refl wr.heap.size wr).alloc (Nat.le_refl _) _).cell (p := ⟨w.heap.size, 1, none⟩) (by show w.heap.size < _; omega)).trans q1
          have d2 : W1.cell? ⟨wr.heap.size, 0, none⟩ = some (.int .i64 Q) := by rw [hW1]; simp
          clear hW1 q0 q1 c0 c1 c2
          go_quiet ((go_at_call 61; exact Calls.quiet_of (modPower_sp R _ _ _ (N / Q) (N + 1) S rfl HK.out (by omega) (by omega) (by omega) (by omega) HS.out _)))
          go_wp2
          go_roundw
          case rel =>
            refine ⟨i + 1, by omega, by go_num, fun j h h' => ?_, below_drewN' (by rw [HW1.out]; exact HR.out.2.alloc (by omega) _)⟩
            by_cases hj : j = i
            · subst hj; rw [HRB.out, bne_iff_ne]; exact hS1
            · exact HR.out.1 j (by omega) h'
          case measure => simp [intOf]; omega
      · obtain rfl : i = ps.length := by omega
        have HFin : Hid (truthB ((N : Int) + 1) R (ps.map Ct.n) = true) := by
          show _ = _
          rw [HT.out, hP1, Bool.and_eq_true, List.all_eq_true]
          refine ⟨rfl, fun q hq => ?_⟩
          obtain ⟨x, hx, rfl⟩ := List.mem_map.1 hq
          obtain ⟨j, hj, rfl⟩ := List.mem_iff_getElem.1 hx
          exact HR.out.1 j hj hj
        go_wp2
        go_ret
        rw [HFin.out]
        exact ⟨rfl, HBX.out⟩
  · have p1 : ((P : Int) != 1) = true := by rw [bne_iff_ne]; omega
    have HFin : Hid (truthB ((N : Int) + 1) R (ps.map Ct.n) = false) := by
      show _ = _
      rw [HT.out, beq_eq_false_iff_ne.2 hP1, Bool.false_and]
    go_enter Tryz.func40, Tryz.ntmps40
    go_wp2_with fail
    refine (modPower_sp R _ _ _ N (N + 1) P rfl (by omega) (by omega) (by omega) (by omega) (by omega) HP.out _).mono ?_
    rintro e w1 ⟨rfl, q1, rfl⟩
    go_wp2
    go_ret
    rw [HFin.out]
    exact ⟨rfl, below_drewN' (Below.alloc (Below.refl _ _) (Nat.le_refl _) _)⟩

set_option maxHeartbeats 1000000 in
theorem wrong_any {B : Nat} {w0 : World} {c : Ct} (hc : InW B w0 c) (w : World) (hb : Below B w0 w) (hB : B ≤ w.heap.size) :
    Calls Tryz.prog 23 #[.agg #[.int .i64 c.n, .int .i64 c.r, c.sl]] w fun e w' => e = .returned (.int .i64 c.code) ∧ Below w.heap.size w w' := by
  have HC : Hid (InW B w0 c) := hc
  have hn1 := hc.ok.n1
  have hn2 := hc.ok.n2
  obtain ⟨n, hn⟩ : ∃ n, c.n = n := ⟨_, rfl⟩
  obtain ⟨r, hr⟩ : ∃ r, c.r = r := ⟨_, rfl⟩
  obtain ⟨sa, sl, sc, hs⟩ : ∃ x y z, c.sl = .slice x y z := ⟨_, _, _, rfl⟩
  have HN : Hid (c.n = n) := hn
  have HR : Hid (c.r = r) := hr
  have HS : Hid (c.sl = .slice sa sl sc) := hs
  have HCode : Hid (c.code = if n < 2 ∨ 1000000000000000000 < n then 3 else if formedB c.n c.r c.qs = true then (if truthB c.n c.r c.qs = true then 0 else 10) else 6) := by
    show _ = _
    rw [Ct.code, codeOf, hn]
  rw [hn] at hn1 hn2
  rw [hn, hr, hs]
  clear hc hn hr hs
  by_cases h1 : n < 2
  · have HE : Hid (c.code = 3) := by show _ = _; rw [HCode.out, if_pos (.inl h1)]
    go_enter Tryz.func23, Tryz.ntmps23
    go_wp2
    go_ret
    rw [HE.out]
    exact ⟨rfl, Below.alloc (Below.refl _ _) (Nat.le_refl _) _⟩
  by_cases h2 : 1000000000000000000 < n
  · have HE : Hid (c.code = 3) := by show _ = _; rw [HCode.out, if_pos (.inr h2)]
    go_enter Tryz.func23, Tryz.ntmps23
    go_wp2
    go_ret
    rw [HE.out]
    exact ⟨rfl, Below.alloc (Below.refl _ _) (Nat.le_refl _) _⟩
  have hb1 : Below B w0 (w.alloc (.cells #[.int .i64 n, .int .i64 r, .slice sa sl sc] 24)) := hb.trans ((Below.refl _ _).alloc hB _)
  have HF := isFormed_any HC.out (w.alloc (.cells #[.int .i64 n, .int .i64 r, .slice sa sl sc] 24)) (by rw [HN.out]; omega) (by rw [HN.out]; omega) hb1 (by simp; omega)
  rw [HN.out, HR.out, HS.out] at HF
  rw [HN.out, HR.out] at HCode
  clear hb1
  cases hf : formedB n r c.qs
  · have HE : Hid (c.code = 6) := by show _ = _; rw [HCode.out, if_neg (by omega), if_neg (by rw [hf]; decide)]
    rw [hf] at HF
    have HF' : Hid (Calls Tryz.prog 39 #[.agg #[.int .i64 n, .int .i64 r, .slice sa sl sc]] (w.alloc (.cells #[.int .i64 n, .int .i64 r, .slice sa sl sc] 24)) fun e w' => e = .returned (.bool false) ∧ Below (w.alloc (.cells #[.int .i64 n, .int .i64 r, .slice sa sl sc] 24)).heap.size (w.alloc (.cells #[.int .i64 n, .int .i64 r, .slice sa sl sc] 24)) w') := HF
    clear HF hf HCode
    go_enter Tryz.func23, Tryz.ntmps23
    go_wp2_with fail
    refine HF'.out.mono ?_
    rintro e w1 ⟨rfl, k1⟩
    have HK : Hid (Below w.heap.size w w1) := ((Below.refl _ _).alloc (Nat.le_refl _) _).trans (k1.mono (by simp))
    clear k1
    go_wp2
    go_ret
    rw [HE.out]
    exact ⟨rfl, HK.out⟩
  · rw [hf] at HF
    have HF' : Hid (Calls Tryz.prog 39 #[.agg #[.int .i64 n, .int .i64 r, .slice sa sl sc]] (w.alloc (.cells #[.int .i64 n, .int .i64 r, .slice sa sl sc] 24)) fun e w' => e = .returned (.bool true) ∧ Below (w.alloc (.cells #[.int .i64 n, .int .i64 r, .slice sa sl sc] 24)).heap.size (w.alloc (.cells #[.int .i64 n, .int .i64 r, .slice sa sl sc] 24)) w') := HF
    have HFm : Hid (formedB c.n c.r c.qs = true) := by show _ = _; rw [HN.out, HR.out]; exact hf
    obtain ⟨T, hT⟩ : ∃ T, truthB n r c.qs = T := ⟨_, rfl⟩
    have HE : Hid (c.code = if T = true then 0 else 10) := by show _ = _; rw [HCode.out, if_neg (by omega), if_pos hf, hT]
    have HT : Hid (truthB n r c.qs = T) := hT
    clear HF hf HCode hT
    go_enter Tryz.func23, Tryz.ntmps23
    go_wp2_with fail
    refine HF'.out.mono ?_
    rintro e w1 ⟨rfl, k1⟩
    have q0 : w1.cell? ⟨w.heap.size, 0, none⟩ = some (.int .i64 n) := (k1.cell (p := ⟨w.heap.size, 0, none⟩) (by simp)).trans (by simp)
    have q1 : w1.cell? ⟨w.heap.size, 1, none⟩ = some (.int .i64 r) := (k1.cell (p := ⟨w.heap.size, 1, none⟩) (by simp)).trans (by simp)
    have q2 : w1.cell? ⟨w.heap.size, 2, none⟩ = some (.slice sa sl sc) := (k1.cell (p := ⟨w.heap.size, 2, none⟩) (by simp)).trans (by simp)
    have z1 := k1.size
    simp at z1
    have HK : Hid (Below w.heap.size w w1) := ((Below.refl _ _).alloc (Nat.le_refl _) _).trans (k1.mono (by simp))
    clear k1 HF'
    have HTr := isTrue_any HC.out w1 (by rw [HN.out]; omega) (by rw [HN.out]; omega) HFm.out (hb.trans (HK.out.mono hB)) (by omega)
    rw [HN.out, HR.out, HS.out, HT.out] at HTr
    have HTr' : Hid (Calls Tryz.prog 40 #[.agg #[.int .i64 n, .int .i64 r, .slice sa sl sc]] w1 fun e w' => e = .returned (.bool T) ∧ Below w1.heap.size w1 w') := HTr
    clear HTr
    go_wp2_with fail
    refine HTr'.out.mono ?_
    rintro e w2 ⟨rfl, k2⟩
    have HK2 : Hid (Below w.heap.size w w2) := HK.out.trans (k2.mono (by omega))
    clear k2 HTr'
    cases T
    all_goals
      go_wp2
      go_ret
      rw [HE.out]
      exact ⟨rfl, HK2.out⟩

end Go.Proofs.YtknmfohipdjlpabGreatDoor
