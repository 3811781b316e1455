/- The reference's CertFault (written by certf.py). -/
import Derived.Test.YtknmfohipdjlpabGreatDoorCertE
import Derived.Test.YtknmfohipdjlpabGreatDoorWholeL
import Derived.Test.YtknmfohipdjlpabGreatDoorRefA
set_option linter.unusedSimpArgs false
set_option linter.unusedVariables false
set_option maxRecDepth 100000
namespace Go.Proofs.YtknmfohipdjlpabGreatDoor
open Go.RowKit

theorem InW.flat_all {B : Nat} {w : World} {c : Ct} (h : InW B w c) : ∀ x ∈ c.flat, InW B w x := by
  induction h with
  | @mk c ok ps ih =>
    have hin : ∀ (l : List Ct), (∀ y ∈ l, ∀ x ∈ y.flat, InW B w x) → ∀ x ∈ Ct.flats l, InW B w x := by
      intro l
      induction l with
      | nil => intro _ x hx; simp [Ct.flats] at hx
      | cons y t iht =>
        intro hy x hx
        rw [Ct.flats_cons, List.mem_append] at hx
        rcases hx with h | h
        · exact hy y (by simp) x h
        · exact iht (fun z hz => hy z (by simp [hz])) x h
    intro x hx
    rw [Ct.flat_eq, List.mem_cons] at hx
    rcases hx with h | h
    · subst h; exact .mk ok ps
    · refine hin c.ps (fun y hy => ?_) x h
      obtain ⟨i, hi, rfl⟩ := List.mem_iff_getElem.1 hy
      exact ih i hi

theorem goF_take (l : List Ct) : ∀ i, i ≤ 1000 → goF (l.take (1001 - i)) i = goF l i := by
  induction l with
  | nil => intro i _; simp
  | cons c t ih =>
    intro i hi
    rw [show 1001 - i = (1000 - i) + 1 by omega, List.take_succ_cons, goF, goF]
    split
    · rfl
    · rename_i hne
      split
      · rw [show 1000 - i = 1001 - (i + 1) by omega]; exact ih (i + 1) (by omega)
      · rfl

theorem goF_at (l : List Ct) (i : Nat) (h : i < l.length) : goF (l.drop i) i = if i = 1000 then (2, 0) else if l[i].code = 0 then goF (l.drop (i + 1)) (i + 1) else (l[i].code, (i : Int)) := by
  rw [List.drop_eq_getElem_cons h, goF]

/-- The number ahead of the part k. -/
def lastOf (ps : List Ct) : Nat → Int
  | 0 => 1
  | k + 1 => if h : k < ps.length then ps[k].n else 1

theorem formed_strips (N R : Nat) (qs : List Int) (h1 : (N : Int) + 1 ≠ 2) (h2 : ¬ ((R : Int) < 2)) (h3 : ¬ ((N : Int) + 1 ≤ R)) : formedB ((N : Int) + 1) R qs = strips N 1 qs := by
  rw [formedB, if_neg h1, if_neg (by omega), show ((N : Int) + 1 - 1).toNat = N by omega]

theorem refPower_sp (R : Nat) (A K M : Int) (k m P : Nat) (hA : A = R) (hK : K = k) (hM : M = m) (hR : R < m) (hm : m ≤ 1000000000000000000) (hk : k ≤ 1000000000000000000) (hP : R ^ k % m = P) (w : World) :
    Calls Tryz.prog 17 #[.int .i64 A, .int .i64 K, .int .i64 M] w fun e w' => e = .returned (.int .i64 (P : Int)) ∧ Below w.heap.size w w' := by
  subst hA hK hM hP
  have h := refPower_any R k m w (by omega) (by omega) (by omega) (by omega)
  rwa [Int.emod_eq_of_lt (by omega) (by omega), Int.toNat_natCast] at h

theorem truth_eq (N R P : Nat) (n r : Int) (qs : List Int) (hn : n = (N : Int) + 1) (hr : r = R) (h2 : n ≠ 2) (hP : R ^ N % (N + 1) = P) : truthB n r qs = ((P == 1) && qs.all (rootB n r)) := by
  subst hn hr hP
  rw [truthB, if_neg h2, show ((N : Int) + 1 - 1).toNat = N by omega, show ((N : Int) + 1).toNat = N + 1 by omega, Int.toNat_natCast]
theorem root_eq (N R Q S : Nat) (n r q : Int) (hn : n = (N : Int) + 1) (hr : r = R) (hq : q = Q) (hS : R ^ (N / Q) % (N + 1) = S) : rootB n r q = (S != 1) := by
  subst hn hr hq hS
  rw [rootB, show ((N : Int) + 1 - 1).toNat = N by omega, show ((N : Int) + 1).toNat = N + 1 by omega, Int.toNat_natCast, Int.toNat_natCast]

theorem code_form {c : Ct} (h1 : 2 ≤ c.n) (h2 : c.n ≤ 1000000000000000000) (h : formedB c.n c.r c.qs = false) : c.code = 6 := by
  rw [Ct.code, codeOf, if_neg (by omega), h]; rfl
theorem code_true {c : Ct} (h1 : 2 ≤ c.n) (h2 : c.n ≤ 1000000000000000000) (h : formedB c.n c.r c.qs = true) : c.code = if truthB c.n c.r c.qs = true then 0 else 10 := by
  rw [Ct.code, codeOf, if_neg (by omega), if_pos h]
theorem code_range {c : Ct} (h : c.n < 2 ∨ 1000000000000000000 < c.n) : c.code = 3 := by
  rw [Ct.code, codeOf, if_pos h]

set_option maxHeartbeats 4000000 in
theorem CertFault_any {B : Nat} {w0 : World} {c : Ct} (hc : InW B w0 c) (hs : Slim c) (w : World) (hb : Below B w0 w) (hB : B ≤ w.heap.size) :
    Calls Tryz.prog 8 #[.agg #[.int .i64 c.n, .int .i64 c.r, c.sl]] w fun e w' => e = .returned (.agg #[.int .i64 (goF c.flat 0).1, .int .i64 (goF c.flat 0).2]) ∧ Below w.heap.size w w' := by
  obtain ⟨cn, hn⟩ : ∃ n, c.n = n := ⟨_, rfl⟩
  obtain ⟨cr, hr⟩ : ∃ r, c.r = r := ⟨_, rfl⟩
  obtain ⟨sa, sl, sc, hsl⟩ : ∃ x y z, c.sl = .slice x y z := ⟨_, _, _, rfl⟩
  obtain ⟨V, hV⟩ : ∃ V, V = (w.alloc (.cells #[.int .i64 cn, .int .i64 cr, .slice sa sl sc] 24)).alloc (.cells #[.int .i64 0, .int .i64 0] 28) := ⟨_, rfl⟩
  have kV : Below w.heap.size w V := by rw [hV]; exact ((Below.refl _ _).alloc (Nat.le_refl _) _).alloc (by simp) _
  have zV : V.heap.size = w.heap.size + 2 := by rw [hV]; simp
  have SV0 : Sv (w.heap.size + 1) 0 0 V := by
    have h := Sv.new 0 0 (w.alloc (.cells #[.int .i64 cn, .int .i64 cr, .slice sa sl sc] 24))
    rw [hV]; simpa using h
  have hcall := CertParts_any hc hs V (hb.trans (kV.mono hB)) (by omega)
  have HAll : Hid (∀ x ∈ c.flat, InW B w0 x) := hc.flat_all
  have HTake : Hid (goF c.flat 0 = goF (c.flat.take 1001) 0) := (goF_take c.flat 0 (by omega)).symm
  have HNe : Hid (c.flat.take 1001 ≠ []) := by rw [Ct.flat_eq]; intro h; simp at h
  rw [hn, hr, hsl] at hcall ⊢
  have HCall : Hid (Calls Tryz.prog 15 #[.agg #[.int .i64 cn, .int .i64 cr, .slice sa sl sc]] V (PartsPost c V)) := hcall
  have HV : Hid (V = (w.alloc (.cells #[.int .i64 cn, .int .i64 cr, .slice sa sl sc] 24)).alloc (.cells #[.int .i64 0, .int .i64 0] 28)) := hV
  have KV : Hid (Below w.heap.size w V) := kV
  have SVV : Hid (Sv (w.heap.size + 1) 0 0 V) := SV0
  clear hcall hn hr hsl hV kV SV0 hc hs
  go_enter Tryz.func8, Tryz.ntmps8
  go_wp2_with fail
  rw [← HV.out]
  refine HCall.out.mono ?_
  rintro e W1 ⟨v, rfl, row, k1⟩
  obtain ⟨l, hl⟩ : ∃ l, l = c.flat.take 1001 := ⟨_, rfl⟩
  rw [← hl] at row
  have HNe2 : l ≠ [] := by rw [hl]; exact HNe.out
  have hl1 : l.length ≤ 1001 := by rw [hl]; simp; omega
  have HIn : Hid (∀ x ∈ l, InW B w0 x) := fun x hx => HAll.out x (by rw [hl] at hx; exact List.mem_of_mem_take hx)
  have HG : Hid (goF c.flat 0 = goF l 0) := by rw [hl]; exact HTake.out
  obtain ⟨g, cap, hv⟩ : ∃ g cap, v = .slice (some ⟨g, 0, none⟩) l.length cap := by
    rcases row.2 with ⟨_, h⟩ | ⟨g, cap, _, h, _⟩
    · exact absurd (List.eq_nil_of_length_eq_zero h) HNe2
    · exact ⟨g, cap, h⟩
  subst hv
  have hg := row.lt g rfl
  have hle : l.length ≤ cap := by
    rcases row.2 with ⟨h, _⟩ | ⟨_, _, _, h, _, _, h4, _⟩
    · cases h
    · cases h; exact h4
  have ROW : Hid (W1.ownsRow V.heap.size 24 3 (.slice (some ⟨g, 0, none⟩) l.length cap) l.length (cells3 l)) := row
  have z1 := k1.size
  have K1 : Hid (Below w.heap.size w W1) := KV.out.trans (k1.mono (by omega))
  have S1 : Hid (Sv (w.heap.size + 1) 0 0 W1) := SVV.out.below k1
  clear row k1 hl HNe HTake HAll HNe2 HCall HV KV SVV
  go_wp2
  go_loopw [4] (fun iv wx => ∃ i : Nat, i ≤ l.length ∧ iv = .int .i64 i ∧ Hid (goF l 0 = goF (l.drop i) i ∧ Below W1.heap.size W1 wx)) (fun iv _ => l.length - (intOf iv).toNat)
  case atStart => exact ⟨0, Nat.zero_le _, rfl, by simp, Below.refl _ _⟩
  case round =>
    obtain ⟨wo, hwo⟩ : ∃ wo, wo = wr := ⟨_, rfl⟩
    subst hwo
    obtain ⟨i, hi, rfl, HR⟩ := hrel
    have hzo := HR.out.2.size
    have SV : Hid (Sv (w.heap.size + 1) 0 0 wo) := S1.out.below HR.out.2
    have KW : Hid (Below w.heap.size w wo) := K1.out.trans (HR.out.2.mono (by omega))
    by_cases hlt : i < l.length
    · have HX : Hid (InW B w0 l[i]) := HIn.out _ (List.getElem_mem hlt)
      have HGi : Hid (goF l 0 = if i = 1000 then (2, 0) else if l[i].code = 0 then goF (l.drop (i + 1)) (i + 1) else (l[i].code, (i : Int))) := HR.out.1.trans (goF_at l i hlt)
      obtain ⟨t0, t1, t2⟩ := cells3_at l i hlt
      have t0 : wo.cell? ⟨g, i * 3, none⟩ = some (.int .i64 l[i].n) := (HR.out.2.cell (p := ⟨g, i * 3, none⟩) hg.2).trans ((ROW.out.cellAt _ (by omega)).trans t0)
      have t1 : wo.cell? ⟨g, i * 3 + 1, none⟩ = some (.int .i64 l[i].r) := (HR.out.2.cell (p := ⟨g, i * 3 + 1, none⟩) hg.2).trans ((ROW.out.cellAt _ (by omega)).trans t1)
      have t2 : wo.cell? ⟨g, i * 3 + 2, none⟩ = some l[i].sl := (HR.out.2.cell (p := ⟨g, i * 3 + 2, none⟩) hg.2).trans ((ROW.out.cellAt _ (by omega)).trans t2)
      obtain ⟨x, hx⟩ : ∃ x, x = l[i] := ⟨_, rfl⟩
      rw [← hx] at HX HGi t0 t1 t2
      have hn1 := HX.out.ok.n1
      have hn2 := HX.out.ok.n2
      have hr1 := HX.out.ok.r1
      have hr2 := HX.out.ok.r2
      have hlen := HX.out.ok.len
      have HBW : Hid (Below B w0 wo) := hb.trans (KW.out.mono hB)
      obtain ⟨n, r, xa, xc, ps⟩ := x
      clear hx
      simp only [Ct.n_mk, Ct.r_mk, Ct.sl_mk, Ct.ps_mk] at t0 t1 t2 hn1 hn2 hr1 hr2 hlen
      by_cases h1000 : i = 1000
      · subst h1000
        have HGE : Hid (goF l 0 = (2, 0)) := HGi.out.trans (if_pos rfl)
        go_wp2_with (go_at_call 16; refine (number_any _ _).mono ?_; rintro e w' ⟨rfl, rfl⟩)
        refine (F_any 2 0 _).mono ?_
        rintro e w9 ⟨rfl, k9⟩
        have S9 := (SV.out.alloc #[.int .i64 n, .int .i64 r, .slice xa ps.length xc] 24).below k9
        have q0 := S9.c0
        have q1 := S9.c1
        have q2 := S9.f0
        have q3 := S9.f1
        have q4 := S9.lt
        have K9 : Hid (Below w.heap.size w w9) := (KW.out.alloc (by omega) _).trans (k9.mono (by first | omega | (simp only [World.size_alloc]; omega)))
        clear S9 k9
        go_wp2
        refine bodyPost_ret (v := .agg #[.int .i64 2, .int .i64 0]) (by simp [results, Tryz.results8, go_sem, q0, q1, q4]) rfl ⟨?_, ?_⟩
        · rw [HG.out, HGE.out]
        · exact (K9.out.setCell (by simp) _).setCell (by simp) _
      have h1000' : ((i : Int) == 1000) = false := beq_eq_false_iff_ne.2 (by omega)
      have HGj : Hid (goF l 0 = if (Ct.mk n r (some ⟨0, 0, none⟩) xc ps).code = 0 then goF (l.drop (i + 1)) (i + 1) else ((Ct.mk n r (some ⟨0, 0, none⟩) xc ps).code, (i : Int))) := HGi.out.trans (if_neg h1000)
      have HGc : Hid (∀ k : Int, k ≠ 0 → (Ct.mk n r xa xc ps).code = k → goF l 0 = (k, (i : Int))) := fun k hk he => by
        have h := HGi.out
        rw [if_neg h1000, he, if_neg hk] at h; exact h
      have HG0 : Hid ((Ct.mk n r xa xc ps).code = 0 → goF l 0 = goF (l.drop (i + 1)) (i + 1)) := fun he => by
        have h := HGi.out
        rw [if_neg h1000, he, if_pos rfl] at h; exact h
      clear h1000 HGi HGj
      by_cases hn2' : n < 2
      · have HGE : Hid (goF l 0 = (3, (i : Int))) := HGc.out 3 (by decide) (code_range (.inl hn2'))
        go_wp2_with (go_at_call 16; refine (number_any _ _).mono ?_; rintro e w' ⟨rfl, rfl⟩)
        refine (F_any 3 i _).mono ?_
        rintro e w9 ⟨rfl, k9⟩
        have S9 := (SV.out.alloc #[.int .i64 n, .int .i64 r, .slice xa ps.length xc] 24).below k9
        have q0 := S9.c0
        have q1 := S9.c1
        have q2 := S9.f0
        have q3 := S9.f1
        have q4 := S9.lt
        have K9 : Hid (Below w.heap.size w w9) := (KW.out.alloc (by omega) _).trans (k9.mono (by first | omega | (simp only [World.size_alloc]; omega)))
        clear S9 k9
        go_wp2
        refine bodyPost_ret (v := .agg #[.int .i64 3, .int .i64 i]) (by simp [results, Tryz.results8, go_sem, q0, q1, q4]) rfl ⟨?_, ?_⟩
        · rw [HG.out, HGE.out]
        · exact (K9.out.setCell (by simp) _).setCell (by simp) _
      by_cases hnM : 1000000000000000000 < n
      · have HGE : Hid (goF l 0 = (3, (i : Int))) := HGc.out 3 (by decide) (code_range (.inr hnM))
        have hnb : numB n = false := by simp [numB]; omega
        go_wp2_with (go_at_call 16; refine (number_any _ _).mono ?_; rintro e w' ⟨rfl, rfl⟩)
        refine (F_any 3 i _).mono ?_
        rintro e w9 ⟨rfl, k9⟩
        have S9 := (SV.out.alloc #[.int .i64 n, .int .i64 r, .slice xa ps.length xc] 24).below k9
        have q0 := S9.c0
        have q1 := S9.c1
        have q2 := S9.f0
        have q3 := S9.f1
        have q4 := S9.lt
        have K9 : Hid (Below w.heap.size w w9) := (KW.out.alloc (by omega) _).trans (k9.mono (by first | omega | (simp only [World.size_alloc]; omega)))
        clear S9 k9
        go_wp2
        refine bodyPost_ret (v := .agg #[.int .i64 3, .int .i64 i]) (by simp [results, Tryz.results8, go_sem, q0, q1, q4]) rfl ⟨?_, ?_⟩
        · rw [HG.out, HGE.out]
        · exact (K9.out.setCell (by simp) _).setCell (by simp) _
      have hnb : numB n = true := numB_mk (by omega) (by omega)
      have hn3 : 2 ≤ n := by omega
      have hn4 : n ≤ 1000000000000000000 := by omega
      by_cases hn5 : n = 2
      · subst hn5
        have hn2b : ((2 : Int) == 2) = true := by decide
        by_cases hr0 : r = 0
        · subst hr0
          have hr0b : ((0 : Int) != 0) = false := by decide
          by_cases hl0 : ps.length = 0
          · have hl0b : ((ps.length : Int) != 0) = false := by rw [hl0]; rfl
            have HGE : Hid (goF l 0 = goF (l.drop (i + 1)) (i + 1)) := HG0.out (by
              obtain rfl : ps = [] := List.eq_nil_of_length_eq_zero hl0
              rfl)
            go_wp2_with (go_at_call 16; refine (number_any _ _).mono ?_; rintro e w' ⟨rfl, rfl⟩)
            go_roundw
            case rel => exact ⟨i + 1, by omega, by go_num, HGE.out, HR.out.2.alloc (by omega) _⟩
            case measure => simp [intOf]; omega
          · have hl0b : ((ps.length : Int) != 0) = true := by rw [bne_iff_ne]; omega
            have HGE : Hid (goF l 0 = (6, (i : Int))) := HGc.out 6 (by decide) (code_form (c := Ct.mk 2 0 xa xc ps) hn3 hn4 (by
              show formedB 2 0 (ps.map Ct.n) = false
              rw [formedB, if_pos rfl]; simp; intro h; subst h; simp at hl0))
            go_wp2_with (go_at_call 16; refine (number_any _ _).mono ?_; rintro e w' ⟨rfl, rfl⟩)
            refine (F_any 6 i _).mono ?_
            rintro e w9 ⟨rfl, k9⟩
            have S9 := (SV.out.alloc #[.int .i64 2, .int .i64 0, .slice xa ps.length xc] 24).below k9
            have q0 := S9.c0
            have q1 := S9.c1
            have q2 := S9.f0
            have q3 := S9.f1
            have q4 := S9.lt
            have K9 : Hid (Below w.heap.size w w9) := (KW.out.alloc (by omega) _).trans (k9.mono (by first | omega | (simp only [World.size_alloc]; omega)))
            clear S9 k9
            go_wp2
            refine bodyPost_ret (v := .agg #[.int .i64 6, .int .i64 i]) (by simp [results, Tryz.results8, go_sem, q0, q1, q4]) rfl ⟨?_, ?_⟩
            · rw [HG.out, HGE.out]
            · exact (K9.out.setCell (by simp) _).setCell (by simp) _
        · have hr0b : (r != 0) = true := by rw [bne_iff_ne]; exact hr0
          have HGE : Hid (goF l 0 = (6, (i : Int))) := HGc.out 6 (by decide) (code_form (c := Ct.mk 2 r xa xc ps) hn3 hn4 (by
            show formedB 2 r (ps.map Ct.n) = false
            rw [formedB, if_pos rfl]; simp [hr0]))
          go_wp2_with (go_at_call 16; refine (number_any _ _).mono ?_; rintro e w' ⟨rfl, rfl⟩)
          refine (F_any 6 i _).mono ?_
          rintro e w9 ⟨rfl, k9⟩
          have S9 := (SV.out.alloc #[.int .i64 2, .int .i64 r, .slice xa ps.length xc] 24).below k9
          have q0 := S9.c0
          have q1 := S9.c1
          have q2 := S9.f0
          have q3 := S9.f1
          have q4 := S9.lt
          have K9 : Hid (Below w.heap.size w w9) := (KW.out.alloc (by omega) _).trans (k9.mono (by first | omega | (simp only [World.size_alloc]; omega)))
          clear S9 k9
          go_wp2
          refine bodyPost_ret (v := .agg #[.int .i64 6, .int .i64 i]) (by simp [results, Tryz.results8, go_sem, q0, q1, q4]) rfl ⟨?_, ?_⟩
          · rw [HG.out, HGE.out]
          · exact (K9.out.setCell (by simp) _).setCell (by simp) _
      have hn5b : (n == 2) = false := beq_eq_false_iff_ne.2 hn5
      by_cases hrl : r < 2
      · have HGE : Hid (goF l 0 = (6, (i : Int))) := HGc.out 6 (by decide) (code_form (c := Ct.mk n r xa xc ps) hn3 hn4 (by
          show formedB n r (ps.map Ct.n) = false
          rw [formedB, if_neg hn5, if_pos (.inl hrl)]))
        go_wp2_with (go_at_call 16; refine (number_any _ _).mono ?_; rintro e w' ⟨rfl, rfl⟩)
        refine (F_any 6 i _).mono ?_
        rintro e w9 ⟨rfl, k9⟩
        have S9 := (SV.out.alloc #[.int .i64 n, .int .i64 r, .slice xa ps.length xc] 24).below k9
        have q0 := S9.c0
        have q1 := S9.c1
        have q2 := S9.f0
        have q3 := S9.f1
        have q4 := S9.lt
        have K9 : Hid (Below w.heap.size w w9) := (KW.out.alloc (by omega) _).trans (k9.mono (by first | omega | (simp only [World.size_alloc]; omega)))
        clear S9 k9
        go_wp2
        refine bodyPost_ret (v := .agg #[.int .i64 6, .int .i64 i]) (by simp [results, Tryz.results8, go_sem, q0, q1, q4]) rfl ⟨?_, ?_⟩
        · rw [HG.out, HGE.out]
        · exact (K9.out.setCell (by simp) _).setCell (by simp) _
      by_cases hrh : n ≤ r
      · have HGE : Hid (goF l 0 = (6, (i : Int))) := HGc.out 6 (by decide) (code_form (c := Ct.mk n r xa xc ps) hn3 hn4 (by
          show formedB n r (ps.map Ct.n) = false
          rw [formedB, if_neg hn5, if_pos (.inr hrh)]))
        go_wp2_with (go_at_call 16; refine (number_any _ _).mono ?_; rintro e w' ⟨rfl, rfl⟩)
        refine (F_any 6 i _).mono ?_
        rintro e w9 ⟨rfl, k9⟩
        have S9 := (SV.out.alloc #[.int .i64 n, .int .i64 r, .slice xa ps.length xc] 24).below k9
        have q0 := S9.c0
        have q1 := S9.c1
        have q2 := S9.f0
        have q3 := S9.f1
        have q4 := S9.lt
        have K9 : Hid (Below w.heap.size w w9) := (KW.out.alloc (by omega) _).trans (k9.mono (by first | omega | (simp only [World.size_alloc]; omega)))
        clear S9 k9
        go_wp2
        refine bodyPost_ret (v := .agg #[.int .i64 6, .int .i64 i]) (by simp [results, Tryz.results8, go_sem, q0, q1, q4]) rfl ⟨?_, ?_⟩
        · rw [HG.out, HGE.out]
        · exact (K9.out.setCell (by simp) _).setCell (by simp) _
      have hrlb : decide (r < 2) = false := by simp; omega
      have hrhb : decide (n ≤ r) = false := by simp; omega
      obtain ⟨N, hNE⟩ : ∃ N : Nat, n = N + 1 := ⟨(n - 1).toNat, by omega⟩
      obtain ⟨R, hRE⟩ : ∃ R : Nat, r = R := ⟨r.toNat, by omega⟩
      have HFS : Hid (formedB n r (ps.map Ct.n) = strips N 1 (ps.map Ct.n)) := by
        show _ = _
        rw [hNE, hRE]
        exact formed_strips N R _ (by omega) (by omega) (by omega)
      have HNE : Hid (n = (N : Int) + 1) := hNE
      have HRE : Hid (r = (R : Int)) := hRE
      have hN2 : 1 ≤ N := by omega
      have HGF : Hid (strips N 1 (ps.map Ct.n) = false → goF l 0 = (6, (i : Int))) := fun he => HGc.out 6 (by decide) (code_form (c := Ct.mk n r xa xc ps) hn3 hn4 (HFS.out.trans he))
      have HN5 : Hid (n ≠ 2) := hn5
      have HQ : Hid (∀ k (h : k < ps.length), -9223372036854775808 ≤ ps[k].n ∧ ps[k].n ≤ 9223372036854775807) := fun k h => ⟨(HX.out.part k h).ok.n1, (HX.out.part k h).ok.n2⟩
      clear hn5 hrl hrh hNE hRE
      go_wp2_with (go_at_call 16; refine (number_any _ _).mono ?_; rintro e w' ⟨rfl, rfl⟩)
      obtain ⟨WX, hWX⟩ : ∃ WX, WX = wo.alloc (.cells #[.int .i64 n, .int .i64 r, .slice xa ps.length xc] 24) := ⟨_, rfl⟩
      rw [← hWX]
      have x0 : WX.cell? ⟨wo.heap.size, 0, none⟩ = some (.int .i64 n) := by rw [hWX, cell_new_at _ _ _ _ _ rfl]; rfl
      have x1 : WX.cell? ⟨wo.heap.size, 1, none⟩ = some (.int .i64 r) := by rw [hWX, cell_new_at _ _ _ _ _ rfl]; rfl
      have x2 : WX.cell? ⟨wo.heap.size, 2, none⟩ = some (.slice xa ps.length xc) := by rw [hWX, cell_new_at _ _ _ _ _ rfl]; rfl
      have zX : wo.heap.size + 1 = WX.heap.size := by rw [hWX]; simp
      have KX : Hid (Below w.heap.size w WX) := by rw [hWX]; exact KW.out.alloc (by omega) _
      have KX1 : Hid (Below W1.heap.size W1 WX) := by rw [hWX]; exact HR.out.2.alloc (by omega) _
      have SVX : Hid (Sv (w.heap.size + 1) 0 0 WX) := by rw [hWX]; exact SV.out.alloc _ _
      have HBX : Hid (Below B w0 WX) := hb.trans (KX.out.mono hB)
      have HzX : Hid (wo.heap.size + 1 = WX.heap.size) := zX
      have hzX : wo.heap.size < WX.heap.size := by omega
      have hzX2 : W1.heap.size ≤ WX.heap.size := by omega
      clear hWX t0 t1 t2 HR KW SV HBW zX
      go_loopw [6, 7] (fun lv kv wx => ∃ k left : Nat, k ≤ ps.length ∧ lv = .int .i64 left ∧ kv = .int .i64 k ∧ 1 ≤ left ∧ left ≤ 1000000000000000000 ∧ Hid (wx = WX ∧ 1 ≤ lastOf ps k ∧ strips N 1 (ps.map Ct.n) = strips left (lastOf ps k) ((ps.map Ct.n).drop k))) (fun _ kv _ => ps.length - (intOf kv).toNat)
      case atStart => exact ⟨0, N, Nat.zero_le _, (by have := HNE.out; congr 1; omega), rfl, by omega, (by have := HNE.out; omega), rfl, by simp [lastOf], by simp [lastOf]⟩
      case round =>
        obtain ⟨k, left, hk, rfl, rfl, l1, l2, HRk⟩ := hrel
        obtain ⟨hw, hl1', hS⟩ := HRk.out
        subst hw
        have HS : Hid (strips N 1 (ps.map Ct.n) = strips left (lastOf ps k) ((ps.map Ct.n).drop k)) := hS
        have HL1 : Hid (1 ≤ lastOf ps k) := hl1'
        clear hS hl1' HRk
        by_cases hkl : k < ps.length
        · cases k with
          | zero =>
            obtain ⟨b, o, ea, hbB, c0, c1, c2⟩ := HX.out.cells HBX.out 0 hkl
            simp only [Ct.a_mk, Ct.ps_mk] at ea c0 c1 c2
            subst ea
            have hlast : lastOf ps 0 = 1 := rfl
            simp only [Nat.zero_mul, Nat.add_zero] at c0
            have hq1 := (HQ.out 0 hkl).1
            have hq2 := (HQ.out 0 hkl).2
            have HS2 : Hid (strips N 1 (ps.map Ct.n) = strips left 1 (ps[0].n :: (ps.map Ct.n).drop (0 + 1))) := by show _ = _; rw [HS.out, hlast, qs_drop hkl]
            have HLq : Hid (lastOf ps (0 + 1) = ps[0].n) := by show _ = _; rw [lastOf, dif_pos hkl]
            obtain ⟨q, hq⟩ : ∃ q, q = ps[0].n := ⟨_, rfl⟩
            rw [← hq] at c0 hq1 hq2 HS2 HLq
            clear hq HS HL1 c1 c2 hlast
            by_cases hqa : q < 2
            · have HGE : Hid (goF l 0 = (6, (i : Int))) := HGF.out (HS2.out.trans (strips_no1 (by omega)))
              go_wp2_with (go_at_call 16; refine (number_any _ _).mono ?_; rintro e w' ⟨rfl, rfl⟩)
              refine (F_any 6 i _).mono ?_
              rintro e w9 ⟨rfl, k9⟩
              have S9 := SVX.out.below k9
              have q0 := S9.c0
              have q1 := S9.c1
              have q2 := S9.f0
              have q3 := S9.f1
              have q4 := S9.lt
              have K9 : Hid (Below w.heap.size w w9) := KX.out.trans (k9.mono (by first | omega | (simp only [World.size_alloc]; omega)))
              clear S9 k9
              go_wp2
              refine bodyPost_ret (v := .agg #[.int .i64 6, .int .i64 i]) (by simp [results, Tryz.results8, go_sem, q0, q1, q4]) rfl ⟨?_, ?_⟩
              · rw [HG.out, HGE.out]
              · exact (K9.out.setCell (by simp) _).setCell (by simp) _
            have hqab : decide (q < 2) = false := decide_eq_false (by omega)
            have hqp : ¬ q ≤ 1 := by omega
            obtain ⟨Q, rfl⟩ : ∃ Q : Nat, q = Q := ⟨q.toNat, by omega⟩
            have hQ : 2 ≤ Q := by omega
            have hQ0 : ((Q : Int) == 0) = false := beq_eq_false_iff_ne.2 (by omega)
            by_cases hm0 : left % Q = 0
            · have hmb : (((left : Int) % (Q : Int)) != 0) = false := by rw [show ((left : Int) % (Q : Int)) = ((left % Q : Nat) : Int) from by simp, hm0]; rfl
              have HS3 : Hid (strips N 1 (ps.map Ct.n) = strips (strip Q left) Q ((ps.map Ct.n).drop (0 + 1))) := by
                show _ = _
                rw [HS2.out, strips_yes (by omega) (by simpa using hm0)]; simp
              clear hm0 HS2 hqp hqa
              go_wp2
              go_loop [6] (fun lv => ∃ y : Nat, lv = .int .i64 y ∧ 1 ≤ y ∧ y ≤ left ∧ Hid (strip Q y = strip Q left)) (fun lv => (intOf lv).toNat)
              case atStart => exact ⟨left, rfl, by omega, Nat.le_refl _, rfl⟩
              case round =>
                obtain ⟨y, rfl, k1, k2, HY⟩ := hrel
                by_cases t3 : y % Q = 0
                · have t3' : (((y : Int) % (Q : Int)) == 0) = true := by rw [show ((y : Int) % (Q : Int)) = ((y % Q : Nat) : Int) from by simp, t3]; rfl
                  have HY2 : Hid (strip Q (y / Q) = strip Q left) := (strip_go (by omega) (by omega) t3).symm.trans HY.out
                  have k3 : y / Q < y := Nat.div_lt_self (by omega) (by omega)
                  have k4 : 1 ≤ y / Q := Nat.div_pos (Nat.le_of_dvd (by omega) (Nat.dvd_of_mod_eq_zero t3)) (by omega)
                  clear t3
                  go_wp2
                  go_round
                  case rel => exact ⟨y / Q, by go_num, k4, by omega, HY2.out⟩
                  case measure => simp [intOf]; omega
                · have t3' : (((y : Int) % (Q : Int)) == 0) = false := by
                    rw [show ((y : Int) % (Q : Int)) = ((y % Q : Nat) : Int) from by simp]; exact beq_eq_false_iff_ne.2 (by omega)
                  have HY2 : Hid (strip Q left = y) := HY.out.symm.trans (strip_end t3)
                  clear t3
                  go_wp2
                  go_roundw
                  case rel =>
                    refine ⟨0 + 1, y, by omega, rfl, by go_num, k1, by omega, by first | rfl | trivial, ?_, ?_⟩
                    · rw [HLq.out]; omega
                    · rw [HS3.out, HY2.out, HLq.out]
                  case measure => simp [intOf]; omega
            · have hmb : (((left : Int) % (Q : Int)) != 0) = true := by rw [show ((left : Int) % (Q : Int)) = ((left % Q : Nat) : Int) from by simp, bne_iff_ne]; omega
              have HGE : Hid (goF l 0 = (6, (i : Int))) := HGF.out (HS2.out.trans (strips_no2 (by simpa using hm0)))
              go_wp2_with (go_at_call 16; refine (number_any _ _).mono ?_; rintro e w' ⟨rfl, rfl⟩)
              refine (F_any 6 i _).mono ?_
              rintro e w9 ⟨rfl, k9⟩
              have S9 := SVX.out.below k9
              have q0 := S9.c0
              have q1 := S9.c1
              have q2 := S9.f0
              have q3 := S9.f1
              have q4 := S9.lt
              have K9 : Hid (Below w.heap.size w w9) := KX.out.trans (k9.mono (by first | omega | (simp only [World.size_alloc]; omega)))
              clear S9 k9
              go_wp2
              refine bodyPost_ret (v := .agg #[.int .i64 6, .int .i64 i]) (by simp [results, Tryz.results8, go_sem, q0, q1, q4]) rfl ⟨?_, ?_⟩
              · rw [HG.out, HGE.out]
              · exact (K9.out.setCell (by simp) _).setCell (by simp) _
          | succ m =>
            obtain ⟨b, o, ea, hbB, c0, c1, c2⟩ := HX.out.cells HBX.out (m + 1) hkl
            simp only [Ct.a_mk, Ct.ps_mk] at ea c0 c1 c2
            subst ea
            obtain ⟨b', o', ea', _, d0, _, _⟩ := HX.out.cells HBX.out m (by simp only [Ct.ps_mk]; omega)
            simp only [Ct.a_mk, Ct.ps_mk, Option.some.injEq, Addr.mk.injEq, and_true] at ea' d0
            obtain ⟨rfl, rfl⟩ := ea'
            have hlast : lastOf ps (m + 1) = ps[m].n := by rw [lastOf, dif_pos (by omega)]
            obtain ⟨p, hp⟩ : ∃ p, p = ps[m].n := ⟨_, rfl⟩
            rw [← hp] at d0 hlast
            have hp1 : 1 ≤ p := by rw [← hlast]; exact HL1.out
            have hp2 : p ≤ 9223372036854775807 := by rw [hp]; exact (HQ.out m (by omega)).2
            have hq1 := (HQ.out (m + 1) hkl).1
            have hq2 := (HQ.out (m + 1) hkl).2
            have HS2 : Hid (strips N 1 (ps.map Ct.n) = strips left p (ps[(m + 1)].n :: (ps.map Ct.n).drop ((m + 1) + 1))) := by show _ = _; rw [HS.out, hlast, qs_drop hkl]
            have HLq : Hid (lastOf ps ((m + 1) + 1) = ps[(m + 1)].n) := by show _ = _; rw [lastOf, dif_pos hkl]
            obtain ⟨q, hq⟩ : ∃ q, q = ps[(m + 1)].n := ⟨_, rfl⟩
            rw [← hq] at c0 hq1 hq2 HS2 HLq
            clear hq HS HL1 c1 c2 hlast hp
            by_cases hqa : q < 2
            · have HGE : Hid (goF l 0 = (6, (i : Int))) := HGF.out (HS2.out.trans (strips_no1 (by omega)))
              go_wp2_with (go_at_call 16; refine (number_any _ _).mono ?_; rintro e w' ⟨rfl, rfl⟩)
              refine (F_any 6 i _).mono ?_
              rintro e w9 ⟨rfl, k9⟩
              have S9 := SVX.out.below k9
              have q0 := S9.c0
              have q1 := S9.c1
              have q2 := S9.f0
              have q3 := S9.f1
              have q4 := S9.lt
              have K9 : Hid (Below w.heap.size w w9) := KX.out.trans (k9.mono (by first | omega | (simp only [World.size_alloc]; omega)))
              clear S9 k9
              go_wp2
              refine bodyPost_ret (v := .agg #[.int .i64 6, .int .i64 i]) (by simp [results, Tryz.results8, go_sem, q0, q1, q4]) rfl ⟨?_, ?_⟩
              · rw [HG.out, HGE.out]
              · exact (K9.out.setCell (by simp) _).setCell (by simp) _
            have hqab : decide (q < 2) = false := decide_eq_false (by omega)
            have hkb : decide ((0 : Int) < (m : Int) + 1) = true := decide_eq_true (by omega)
            by_cases hqp : q ≤ p
            · have HGE : Hid (goF l 0 = (6, (i : Int))) := HGF.out (HS2.out.trans (strips_no1 hqp))
              have hqpb : decide (q ≤ p) = true := decide_eq_true hqp
              go_wp2_with (go_at_call 16; refine (number_any _ _).mono ?_; rintro e w' ⟨rfl, rfl⟩)
              refine (F_any 6 i _).mono ?_
              rintro e w9 ⟨rfl, k9⟩
              have S9 := SVX.out.below k9
              have q0 := S9.c0
              have q1 := S9.c1
              have q2 := S9.f0
              have q3 := S9.f1
              have q4 := S9.lt
              have K9 : Hid (Below w.heap.size w w9) := KX.out.trans (k9.mono (by first | omega | (simp only [World.size_alloc]; omega)))
              clear S9 k9
              go_wp2
              refine bodyPost_ret (v := .agg #[.int .i64 6, .int .i64 i]) (by simp [results, Tryz.results8, go_sem, q0, q1, q4]) rfl ⟨?_, ?_⟩
              · rw [HG.out, HGE.out]
              · exact (K9.out.setCell (by simp) _).setCell (by simp) _
            have hqpb : decide (q ≤ p) = false := decide_eq_false hqp
            obtain ⟨Q, rfl⟩ : ∃ Q : Nat, q = Q := ⟨q.toNat, by omega⟩
            have hQ : 2 ≤ Q := by omega
            have hQ0 : ((Q : Int) == 0) = false := beq_eq_false_iff_ne.2 (by omega)
            by_cases hm0 : left % Q = 0
            · have hmb : (((left : Int) % (Q : Int)) != 0) = false := by rw [show ((left : Int) % (Q : Int)) = ((left % Q : Nat) : Int) from by simp, hm0]; rfl
              have HS3 : Hid (strips N 1 (ps.map Ct.n) = strips (strip Q left) Q ((ps.map Ct.n).drop ((m + 1) + 1))) := by
                show _ = _
                rw [HS2.out, strips_yes (by omega) (by simpa using hm0)]; simp
              clear hm0 HS2 hqp hqa
              go_wp2
              go_loop [6] (fun lv => ∃ y : Nat, lv = .int .i64 y ∧ 1 ≤ y ∧ y ≤ left ∧ Hid (strip Q y = strip Q left)) (fun lv => (intOf lv).toNat)
              case atStart => exact ⟨left, rfl, by omega, Nat.le_refl _, rfl⟩
              case round =>
                obtain ⟨y, rfl, k1, k2, HY⟩ := hrel
                by_cases t3 : y % Q = 0
                · have t3' : (((y : Int) % (Q : Int)) == 0) = true := by rw [show ((y : Int) % (Q : Int)) = ((y % Q : Nat) : Int) from by simp, t3]; rfl
                  have HY2 : Hid (strip Q (y / Q) = strip Q left) := (strip_go (by omega) (by omega) t3).symm.trans HY.out
                  have k3 : y / Q < y := Nat.div_lt_self (by omega) (by omega)
                  have k4 : 1 ≤ y / Q := Nat.div_pos (Nat.le_of_dvd (by omega) (Nat.dvd_of_mod_eq_zero t3)) (by omega)
                  clear t3
                  go_wp2
                  go_round
                  case rel => exact ⟨y / Q, by go_num, k4, by omega, HY2.out⟩
                  case measure => simp [intOf]; omega
                · have t3' : (((y : Int) % (Q : Int)) == 0) = false := by
                    rw [show ((y : Int) % (Q : Int)) = ((y % Q : Nat) : Int) from by simp]; exact beq_eq_false_iff_ne.2 (by omega)
                  have HY2 : Hid (strip Q left = y) := HY.out.symm.trans (strip_end t3)
                  clear t3
                  go_wp2
                  go_roundw
                  case rel =>
                    refine ⟨(m + 1) + 1, y, by omega, rfl, by go_num, k1, by omega, by first | rfl | trivial, ?_, ?_⟩
                    · rw [HLq.out]; omega
                    · rw [HS3.out, HY2.out, HLq.out]
                  case measure => simp [intOf]; omega
            · have hmb : (((left : Int) % (Q : Int)) != 0) = true := by rw [show ((left : Int) % (Q : Int)) = ((left % Q : Nat) : Int) from by simp, bne_iff_ne]; omega
              have HGE : Hid (goF l 0 = (6, (i : Int))) := HGF.out (HS2.out.trans (strips_no2 (by simpa using hm0)))
              go_wp2_with (go_at_call 16; refine (number_any _ _).mono ?_; rintro e w' ⟨rfl, rfl⟩)
              refine (F_any 6 i _).mono ?_
              rintro e w9 ⟨rfl, k9⟩
              have S9 := SVX.out.below k9
              have q0 := S9.c0
              have q1 := S9.c1
              have q2 := S9.f0
              have q3 := S9.f1
              have q4 := S9.lt
              have K9 : Hid (Below w.heap.size w w9) := KX.out.trans (k9.mono (by first | omega | (simp only [World.size_alloc]; omega)))
              clear S9 k9
              go_wp2
              refine bodyPost_ret (v := .agg #[.int .i64 6, .int .i64 i]) (by simp [results, Tryz.results8, go_sem, q0, q1, q4]) rfl ⟨?_, ?_⟩
              · rw [HG.out, HGE.out]
              · exact (K9.out.setCell (by simp) _).setCell (by simp) _
        · obtain rfl : k = ps.length := by omega
          have HSL : Hid (strips N 1 (ps.map Ct.n) = (left == 1)) := by
            show _ = _
            rw [HS.out, List.drop_eq_nil_of_le (by simp), strips]
          by_cases hl1b : left = 1
          · have hlb : ((left : Int) != 1) = false := by rw [hl1b]; rfl
            have HF1 : Hid (strips N 1 (ps.map Ct.n) = true) := HSL.out.trans (by rw [hl1b]; rfl)
            have HQ2 : Hid (∀ k (h : k < ps.length), 2 ≤ ps[k].n) := fun k h => by
              have := strips_pos _ _ _ HF1.out ps[k].n (List.mem_map.2 ⟨_, List.getElem_mem h, rfl⟩); omega
            have HCode : Hid ((Ct.mk n r xa xc ps).code = if truthB n r (ps.map Ct.n) = true then 0 else 10) := code_true (c := Ct.mk n r xa xc ps) (by have := HNE.out; show 2 ≤ n; omega) hn4 (HFS.out.trans HF1.out)
            obtain ⟨P, hP⟩ : ∃ P, R ^ N % (N + 1) = P := ⟨_, rfl⟩
            have HP : Hid (R ^ N % (N + 1) = P) := hP
            have HT : Hid (truthB n r (ps.map Ct.n) = ((P == 1) && (ps.map Ct.n).all (rootB n r))) := truth_eq N R P n r _ HNE.out HRE.out HN5.out hP
            have HRN : Hid (R < N + 1 ∧ N + 1 ≤ 1000000000000000000) := by
              have h1 := HNE.out
              have h2 := HRE.out
              simp at hrhb
              exact ⟨by omega, by omega⟩
            clear hP hl1b HSL HS HL1 HGF HFS HF1
            obtain ⟨wz, hwz⟩ : ∃ wz, wz = wr := ⟨_, rfl⟩
            subst hwz
            go_wp2_with fail
            refine (refPower_sp R _ _ _ N (N + 1) P HRE.out (by have := HNE.out; omega) (by have := HNE.out; omega) HRN.out.1 HRN.out.2 (by have := HRN.out; omega) HP.out _).mono ?_
            rintro e w2 ⟨rfl, k2⟩
            have z2 := k2.size
            have K2 : Hid (Below wz.heap.size wz w2) := k2
            have hzw : wo.heap.size < wz.heap.size := hzX
            have y2 : w2.cell? ⟨wo.heap.size, 2, none⟩ = some (.slice xa ps.length xc) := (k2.cell (p := ⟨wo.heap.size, 2, none⟩) hzw).trans x2
            clear k2
            go_wp2
            go_loopw [9, 10] (fun ov kv wx => ∃ (k : Nat) (ob : Bool), k ≤ ps.length ∧ ov = .bool ob ∧ kv = .int .i64 k ∧ Hid (ob = ((P == 1) && ((ps.map Ct.n).take k).all (rootB n r)) ∧ Below wz.heap.size wz wx)) (fun _ kv _ => ps.length - (intOf kv).toNat)
            case atStart => exact ⟨0, _, Nat.zero_le _, rfl, rfl, by rw [Bool.eq_iff_iff]; simp; omega, K2.out⟩
            case round =>
              obtain ⟨k, ob, hk, rfl, rfl, HRk⟩ := hrel
              have hzr := HRk.out.2.size
              have y0 : wr.cell? ⟨wo.heap.size, 0, none⟩ = some (.int .i64 n) := (HRk.out.2.cell (p := ⟨wo.heap.size, 0, none⟩) hzw).trans x0
              have y1 : wr.cell? ⟨wo.heap.size, 1, none⟩ = some (.int .i64 r) := (HRk.out.2.cell (p := ⟨wo.heap.size, 1, none⟩) hzw).trans x1
              have y2 : wr.cell? ⟨wo.heap.size, 2, none⟩ = some (.slice xa ps.length xc) := (HRk.out.2.cell (p := ⟨wo.heap.size, 2, none⟩) hzw).trans x2
              have SVR : Hid (Sv (w.heap.size + 1) 0 0 wr) := SVX.out.below HRk.out.2
              have KXR : Hid (Below w.heap.size w wr) := KX.out.trans (HRk.out.2.mono (by omega))
              have KXR1 : Hid (Below W1.heap.size W1 wr) := KX1.out.trans (HRk.out.2.mono (by omega))
              by_cases hkl : k < ps.length
              · obtain ⟨b, o, ea, hbB, c0, c1, c2⟩ := HX.out.cells (hb.trans (KXR.out.mono hB)) k hkl
                simp only [Ct.a_mk, Ct.ps_mk] at ea c0 c1 c2
                subst ea
                have hq2 := (HQ.out k hkl).2
                have hq1 := HQ2.out k hkl
                obtain ⟨Q, hQ⟩ : ∃ Q : Nat, ps[k].n = Q := ⟨ps[k].n.toNat, by omega⟩
                have HQE : Hid (ps[k].n = (Q : Int)) := hQ
                rw [hQ] at c0 hq1 hq2
                obtain ⟨S, hS⟩ : ∃ S, R ^ (N / Q) % (N + 1) = S := ⟨_, rfl⟩
                have HS : Hid (R ^ (N / Q) % (N + 1) = S) := hS
                have HRB : Hid (rootB n r ps[k].n = (S != 1)) := root_eq N R Q S n r _ HNE.out HRE.out hQ hS
                have HTk : Hid (((ps.map Ct.n).take (k + 1)).all (rootB n r) = (((ps.map Ct.n).take k).all (rootB n r) && (S != 1))) := by
                  show _ = _
                  rw [List.take_succ_eq_append_getElem (by simpa using hkl), List.all_append]
                  simp only [List.getElem_map, List.all_cons, List.all_nil, Bool.and_true]
                  rw [HRB.out]
                have hQ0 : ((Q : Int) == 0) = false := beq_eq_false_iff_ne.2 (by omega)
                clear hQ hS c1 c2
                cases ob
                · go_wp2
                  refine wp_region_G (fun w' => w'.cell? ⟨wo.heap.size, 0, none⟩ = some (.int .i64 n)) 19 (by kernel_rfl) y0 (fun hHeld => ?_)
                  refine wpAnyG_take (i := 0) (v := .bool false) rfl (by kernel_rfl) (fun _ _ _ h => h) (Or.inl ⟨by kernel_rfl, ?y0x1⟩) hHeld ?r0x1
                  case y0x1 => (intro wS hSw; go_simp)
                  try simp only [Act.put, List.setIfInBounds_toArray, List.set_cons_zero, List.set_cons_succ]
                  refine wpAnyG_take (i := 1) (v := .bool false) rfl (by kernel_rfl) (fun _ _ _ h => h) (Or.inl ⟨by kernel_rfl, ?y1x2⟩) hHeld ?r1x2
                  case y1x2 => (intro wS hSw; go_simp)
                  try simp only [Act.put, List.setIfInBounds_toArray, List.set_cons_zero, List.set_cons_succ]
                  refine wpAnyG_take (i := 2) (v := undef) rfl (by kernel_rfl) (fun _ _ _ h => h) (Or.inr ⟨by kernel_rfl, rfl⟩) hHeld ?_
                  try simp only [Act.put, List.setIfInBounds_toArray, List.set_cons_zero, List.set_cons_succ]
                  refine wpAnyG_take (i := 3) (v := undef) rfl (by kernel_rfl) (fun _ _ _ h => h) (Or.inr ⟨by kernel_rfl, rfl⟩) hHeld ?_
                  try simp only [Act.put, List.setIfInBounds_toArray, List.set_cons_zero, List.set_cons_succ]
                  refine wpAnyG_take (i := 4) (v := undef) rfl (by kernel_rfl) (fun _ _ _ h => h) (Or.inr ⟨by kernel_rfl, rfl⟩) hHeld ?_
                  try simp only [Act.put, List.setIfInBounds_toArray, List.set_cons_zero, List.set_cons_succ]
                  refine wpAnyG_take (i := 5) (v := undef) rfl (by kernel_rfl) (fun _ _ _ h => h) (Or.inr ⟨by kernel_rfl, rfl⟩) hHeld ?_
                  try simp only [Act.put, List.setIfInBounds_toArray, List.set_cons_zero, List.set_cons_succ]
                  refine wpAnyG_take (i := 6) (v := undef) rfl (by kernel_rfl) (fun _ _ _ h => h) (Or.inr ⟨by kernel_rfl, rfl⟩) hHeld ?_
                  try simp only [Act.put, List.setIfInBounds_toArray, List.set_cons_zero, List.set_cons_succ]
                  refine wpAnyG_take (i := 7) (v := undef) rfl (by kernel_rfl) (fun _ _ _ h => h) (Or.inr ⟨by kernel_rfl, rfl⟩) hHeld ?_
                  try simp only [Act.put, List.setIfInBounds_toArray, List.set_cons_zero, List.set_cons_succ]
                  refine wpAnyG_take (i := 8) (v := undef) rfl (by kernel_rfl) (fun _ _ _ h => h) (Or.inr ⟨by kernel_rfl, rfl⟩) hHeld ?_
                  try simp only [Act.put, List.setIfInBounds_toArray, List.set_cons_zero, List.set_cons_succ]
                  refine wpAnyG_take (i := 9) (v := undef) rfl (by kernel_rfl) (fun _ _ _ h => h) (Or.inr ⟨by kernel_rfl, rfl⟩) hHeld ?_
                  try simp only [Act.put, List.setIfInBounds_toArray, List.set_cons_zero, List.set_cons_succ]
                  refine wpAnyG_take (i := 10) (v := undef) rfl (by kernel_rfl) (fun _ _ _ h => h) (Or.inr ⟨by kernel_rfl, rfl⟩) hHeld ?_
                  try simp only [Act.put, List.setIfInBounds_toArray, List.set_cons_zero, List.set_cons_succ]
                  refine wpAnyG_take (i := 11) (v := undef) rfl (by kernel_rfl) (fun _ _ _ h => h) (Or.inr ⟨by kernel_rfl, rfl⟩) hHeld ?_
                  try simp only [Act.put, List.setIfInBounds_toArray, List.set_cons_zero, List.set_cons_succ]
                  refine wpAnyG_take (i := 12) (v := undef) rfl (by kernel_rfl) (fun _ _ _ h => h) (Or.inr ⟨by kernel_rfl, rfl⟩) hHeld ?_
                  try simp only [Act.put, List.setIfInBounds_toArray, List.set_cons_zero, List.set_cons_succ]
                  refine wpAnyG_take (i := 13) (v := undef) rfl (by kernel_rfl) (fun _ _ _ h => h) (Or.inr ⟨by kernel_rfl, rfl⟩) hHeld ?_
                  try simp only [Act.put, List.setIfInBounds_toArray, List.set_cons_zero, List.set_cons_succ]
                  refine wpAnyG_take (i := 14) (v := undef) rfl (by kernel_rfl) (fun _ _ _ h => h) (Or.inr ⟨by kernel_rfl, rfl⟩) hHeld ?_
                  try simp only [Act.put, List.setIfInBounds_toArray, List.set_cons_zero, List.set_cons_succ]
                  refine wpAnyG_take (i := 15) (v := undef) rfl (by kernel_rfl) (fun _ _ _ h => h) (Or.inr ⟨by kernel_rfl, rfl⟩) hHeld ?_
                  try simp only [Act.put, List.setIfInBounds_toArray, List.set_cons_zero, List.set_cons_succ]
                  refine wpAnyG_take (i := 16) (v := undef) rfl (by kernel_rfl) (fun _ _ _ h => h) (Or.inr ⟨by kernel_rfl, rfl⟩) hHeld ?_
                  try simp only [Act.put, List.setIfInBounds_toArray, List.set_cons_zero, List.set_cons_succ]
                  refine wpAnyG_take (i := 17) (v := undef) rfl (by kernel_rfl) (fun _ _ _ h => h) (Or.inr ⟨by kernel_rfl, rfl⟩) hHeld ?_
                  try simp only [Act.put, List.setIfInBounds_toArray, List.set_cons_zero, List.set_cons_succ]
                  refine wpAnyG_take (i := 18) (v := .bool false) rfl (by kernel_rfl) (fun _ _ _ h => h) (Or.inl ⟨by kernel_rfl, ?y18x3⟩) hHeld ?r18x3
                  case y18x3 => (intro wS hSw; go_simp)
                  try simp only [Act.put, List.setIfInBounds_toArray, List.set_cons_zero, List.set_cons_succ]
                  refine wpAnyG_last (i := 19) rfl (by kernel_rfl) (by kernel_rfl) (fun K hK => ?_)
                  go_simp
                  refine hK.out _ _ ?_
                  clear hK K
                  try simp only [Act.put, List.setIfInBounds_toArray, List.set_cons_zero, List.set_cons_succ]
                  refine wpAnyG_done (by kernel_rfl) ?_ _
                  go_wp2
                  go_roundw
                  case rel =>
                    refine ⟨k + 1, false, by omega, rfl, by go_num, ?_, ?_⟩
                    · rw [HTk.out, ← Bool.and_assoc, ← HRk.out.1]; rfl
                    · exact HRk.out.2.drew
                  case measure => simp [intOf]; omega
                · obtain ⟨D, hD⟩ : ∃ D, D = N / Q := ⟨_, rfl⟩
                  have hDle : D ≤ N := by rw [hD]; exact Nat.div_le_self _ _
                  have hDE : (n - 1).tdiv (Q : Int) = (D : Int) := by
                    rw [HNE.out, show (N : Int) + 1 - 1 = (N : Int) by omega, hD, Int.tdiv_eq_ediv_of_nonneg (by omega)]; simp
                  have HD : Hid (D = N / Q) := hD
                  have hnb2 : n - 1 < 1000000000000000000 ∧ 0 ≤ n - 1 := by have := HNE.out; omega
                  have HWD : Hid (IntKind.i64.wrap (D : Int) = (D : Int)) := by have := HRN.out; show _ = _; rw [IntKind.wrap_i64]; omega
                  have HWN : Hid (IntKind.i64.wrap (n - 1) = n - 1) := by show _ = _; rw [IntKind.wrap_i64]; omega
                  have SD : Hid ((((S : Int) != 1) = (S != 1))) := by show _ = _; rw [Bool.eq_iff_iff, bne_iff_ne, bne_iff_ne]; omega
                  clear hD
                  go_wp2
                  refine wp_region_G (fun w' => w'.cell? ⟨wo.heap.size, 0, none⟩ = some (.int .i64 n) ∧ w'.cell? ⟨wo.heap.size, 1, none⟩ = some (.int .i64 r) ∧ w'.cell? ⟨wo.heap.size, 2, none⟩ = some (.slice (some ⟨b, o, none⟩) ps.length xc) ∧ w'.cell? ⟨b, o + k * 3, none⟩ = some (.int .i64 Q)) 19 (by kernel_rfl) ⟨y0, y1, y2, c0⟩ (fun hHeld => ?_)
                  refine wpAnyG_take (i := 0) (v := .bool true) rfl (by kernel_rfl) (fun _ _ _ h => h) (Or.inl ⟨by kernel_rfl, ?y0x4⟩) hHeld ?r0x4
                  case y0x4 => (intro wS hSw; go_simp)
                  try simp only [Act.put, List.setIfInBounds_toArray, List.set_cons_zero, List.set_cons_succ]
                  refine wpAnyG_take (i := 1) (v := .bool true) rfl (by kernel_rfl) (fun _ _ _ h => h) (Or.inl ⟨by kernel_rfl, ?y1x5⟩) hHeld ?r1x5
                  case y1x5 => (intro wS hSw; go_simp)
                  try simp only [Act.put, List.setIfInBounds_toArray, List.set_cons_zero, List.set_cons_succ]
                  refine wpAnyG_take (i := 2) (v := ?v2x6) rfl (by kernel_rfl) (fun _ _ _ h => h) (Or.inl ⟨by kernel_rfl, ?y2x6⟩) hHeld ?r2x6
                  case y2x6 => (intro wS hSw; have s1 := hSw; go_simp; try with_reducible rfl)
                  try simp only [Act.put, List.setIfInBounds_toArray, List.set_cons_zero, List.set_cons_succ]
                  refine wpAnyG_take (i := 3) (v := ?v3x7) rfl (by kernel_rfl) (fun _ _ _ h => h) (Or.inl ⟨by kernel_rfl, ?y3x7⟩) hHeld ?r3x7
                  case y3x7 => (intro wS hSw; have s1 := hSw; go_simp; try with_reducible rfl)
                  try simp only [Act.put, List.setIfInBounds_toArray, List.set_cons_zero, List.set_cons_succ]
                  refine wpAnyG_take (i := 4) (v := ?v4x8) rfl (by kernel_rfl) (fun _ _ _ h => h) (Or.inl ⟨by kernel_rfl, ?y4x8⟩) hHeld ?r4x8
                  case y4x8 => (intro wS hSw; have s1 := hSw; go_simp; try with_reducible rfl)
                  try simp only [Act.put, List.setIfInBounds_toArray, List.set_cons_zero, List.set_cons_succ]
                  refine wpAnyG_take (i := 5) (v := ?v5x9) rfl (by kernel_rfl) (fun _ _ _ h => h) (Or.inl ⟨by kernel_rfl, ?y5x9⟩) hHeld ?r5x9
                  case y5x9 => (intro wS hSw; have s1 := hSw; go_simp; try with_reducible rfl)
                  try simp only [Act.put, List.setIfInBounds_toArray, List.set_cons_zero, List.set_cons_succ]
                  refine wpAnyG_take (i := 6) (v := .int .i64 (n - 1)) rfl (by kernel_rfl) (fun _ _ _ h => h) (Or.inl ⟨by kernel_rfl, ?y6x10⟩) hHeld ?r6x10
                  case y6x10 => (intro wS hSw; (go_simp; rw [HWN.out]))
                  try simp only [Act.put, List.setIfInBounds_toArray, List.set_cons_zero, List.set_cons_succ]
                  refine wpAnyG_take (i := 7) (v := ?v7x11) rfl (by kernel_rfl) (fun _ _ _ h => h) (Or.inl ⟨by kernel_rfl, ?y7x11⟩) hHeld ?r7x11
                  case y7x11 => (intro wS hSw; have s1 := hSw; go_simp; try with_reducible rfl)
                  try simp only [Act.put, List.setIfInBounds_toArray, List.set_cons_zero, List.set_cons_succ]
                  refine wpAnyG_take (i := 8) (v := ?v8x12) rfl (by kernel_rfl) (fun _ _ _ h => h) (Or.inl ⟨by kernel_rfl, ?y8x12⟩) hHeld ?r8x12
                  case y8x12 => (intro wS hSw; have s1 := hSw; go_simp; try with_reducible rfl)
                  try simp only [Act.put, List.setIfInBounds_toArray, List.set_cons_zero, List.set_cons_succ]
                  refine wpAnyG_take (i := 9) (v := ?v9x13) rfl (by kernel_rfl) (fun _ _ _ h => h) (Or.inl ⟨by kernel_rfl, ?y9x13⟩) hHeld ?r9x13
                  case y9x13 => (intro wS hSw; have s1 := hSw; go_simp; try with_reducible rfl)
                  try simp only [Act.put, List.setIfInBounds_toArray, List.set_cons_zero, List.set_cons_succ]
                  refine wpAnyG_take (i := 10) (v := ?v10x14) rfl (by kernel_rfl) (fun _ _ _ h => h) (Or.inl ⟨by kernel_rfl, ?y10x14⟩) hHeld ?r10x14
                  case y10x14 => (intro wS hSw; have s1 := hSw; go_simp; try with_reducible rfl)
                  try simp only [Act.put, List.setIfInBounds_toArray, List.set_cons_zero, List.set_cons_succ]
                  refine wpAnyG_take (i := 11) (v := ?v11x15) rfl (by kernel_rfl) (fun _ _ _ h => h) (Or.inl ⟨by kernel_rfl, ?y11x15⟩) hHeld ?r11x15
                  case y11x15 => (intro wS hSw; have s1 := hSw; go_simp; try with_reducible rfl)
                  try simp only [Act.put, List.setIfInBounds_toArray, List.set_cons_zero, List.set_cons_succ]
                  refine wpAnyG_take (i := 12) (v := ?v12x16) rfl (by kernel_rfl) (fun _ _ _ h => h) (Or.inl ⟨by kernel_rfl, ?y12x16⟩) hHeld ?r12x16
                  case y12x16 => (intro wS hSw; have s1 := hSw; go_simp; try with_reducible rfl)
                  try simp only [Act.put, List.setIfInBounds_toArray, List.set_cons_zero, List.set_cons_succ]
                  refine wpAnyG_take (i := 13) (v := .int .i64 (D : Int)) rfl (by kernel_rfl) (fun _ _ _ h => h) (Or.inl ⟨by kernel_rfl, ?y13x17⟩) hHeld ?r13x17
                  case y13x17 => (intro wS hSw; (go_simp; rw [if_neg (show ¬ Q = 0 by omega), HWD.out]))
                  try simp only [Act.put, List.setIfInBounds_toArray, List.set_cons_zero, List.set_cons_succ]
                  refine wpAnyG_take (i := 14) (v := ?v14x18) rfl (by kernel_rfl) (fun _ _ _ h => h) (Or.inl ⟨by kernel_rfl, ?y14x18⟩) hHeld ?r14x18
                  case y14x18 => (intro wS hSw; have s1 := hSw; go_simp; try with_reducible rfl)
                  try simp only [Act.put, List.setIfInBounds_toArray, List.set_cons_zero, List.set_cons_succ]
                  refine wpAnyG_take (i := 15) (v := ?v15x19) rfl (by kernel_rfl) (fun _ _ _ h => h) (Or.inl ⟨by kernel_rfl, ?y15x19⟩) hHeld ?r15x19
                  case y15x19 => (intro wS hSw; have s1 := hSw; go_simp; try with_reducible rfl)
                  try simp only [Act.put, List.setIfInBounds_toArray, List.set_cons_zero, List.set_cons_succ]
                  refine wpAnyG_one (i := 16) rfl (by kernel_rfl) (fun K hK => ?_)
                  rw [if_pos (by kernel_rfl)]
                  go_simp
                  refine (refPower_sp R _ _ _ D (N + 1) S HRE.out rfl (by have := HNE.out; omega) HRN.out.1 HRN.out.2 (by have := HRN.out; omega) (by rw [HD.out]; exact HS.out) _).mono ?_
                  rintro e w5 ⟨rfl, k5⟩
                  have K5 : Hid (Below wz.heap.size wz w5) := HRk.out.2.drew.trans (k5.mono (by show _ ≤ wr.heap.size; omega))
                  have K5' : Hid (Below wr.heap.size wr w5) := (Below.refl _ _).drew.trans k5
                  have z0 : w5.cell? ⟨wo.heap.size, 0, none⟩ = some (.int .i64 n) := (K5.out.cell (p := ⟨wo.heap.size, 0, none⟩) hzw).trans x0
                  have z1' : w5.cell? ⟨wo.heap.size, 1, none⟩ = some (.int .i64 r) := (K5.out.cell (p := ⟨wo.heap.size, 1, none⟩) hzw).trans x1
                  have z2' : w5.cell? ⟨wo.heap.size, 2, none⟩ = some (.slice (some ⟨b, o, none⟩) ps.length xc) := (K5.out.cell (p := ⟨wo.heap.size, 2, none⟩) hzw).trans x2
                  have z3' : w5.cell? ⟨b, o + k * 3, none⟩ = some (.int .i64 Q) := (K5'.out.cell (p := ⟨b, o + k * 3, none⟩) (by show b < _; omega)).trans c0
                  clear hHeld k5
                  have hHeld : w5.cell? ⟨wo.heap.size, 0, none⟩ = some (.int .i64 n) ∧ w5.cell? ⟨wo.heap.size, 1, none⟩ = some (.int .i64 r) ∧ w5.cell? ⟨wo.heap.size, 2, none⟩ = some (.slice (some ⟨b, o, none⟩) ps.length xc) ∧ w5.cell? ⟨b, o + k * 3, none⟩ = some (.int .i64 Q) := ⟨z0, z1', z2', z3'⟩
                  refine hK.out _ _ hHeld ?_
                  clear hK K
                  try simp only [Act.put, List.setIfInBounds_toArray, List.set_cons_zero, List.set_cons_succ]
                  refine wpAnyG_take (i := 17) (v := .bool (S != 1)) rfl (by kernel_rfl) (fun _ _ _ h => h) (Or.inl ⟨by kernel_rfl, ?y17x20⟩) hHeld ?r17x20
                  case y17x20 => (intro wS hSw; (go_simp; rw [SD.out]))
                  try simp only [Act.put, List.setIfInBounds_toArray, List.set_cons_zero, List.set_cons_succ]
                  refine wpAnyG_take (i := 18) (v := .bool (S != 1)) rfl (by kernel_rfl) (fun _ _ _ h => h) (Or.inl ⟨by kernel_rfl, ?y18x21⟩) hHeld ?r18x21
                  case y18x21 => (intro wS hSw; (go_simp))
                  try simp only [Act.put, List.setIfInBounds_toArray, List.set_cons_zero, List.set_cons_succ]
                  refine wpAnyG_last (i := 19) rfl (by kernel_rfl) (by kernel_rfl) (fun K hK => ?_)
                  go_simp
                  refine hK.out _ _ ?_
                  clear hK K
                  try simp only [Act.put, List.setIfInBounds_toArray, List.set_cons_zero, List.set_cons_succ]
                  refine wpAnyG_done (by kernel_rfl) ?_ _
                  clear hHeld z0 z1' z2' z3' y0 y1 y2 c0
                  go_wp2
                  go_roundw
                  case rel =>
                    refine ⟨k + 1, S != 1, by omega, rfl, by go_num, ?_, K5.out⟩
                    rw [HTk.out, ← Bool.and_assoc, ← HRk.out.1]; rfl
                  case measure => simp [intOf]; omega
              · obtain rfl : k = ps.length := by omega
                have HTE : Hid (truthB n r (ps.map Ct.n) = ob) := by
                  show _ = _
                  rw [HT.out, HRk.out.1, List.take_of_length_le (by simp)]
                cases ob
                · have HGE : Hid (goF l 0 = (10, (i : Int))) := HGc.out 10 (by decide) (by rw [HCode.out, HTE.out]; rfl)
                  go_wp2_with (go_at_call 16; refine (number_any _ _).mono ?_; rintro e w' ⟨rfl, rfl⟩)
                  refine (F_any 10 i _).mono ?_
                  rintro e w9 ⟨rfl, k9⟩
                  have S9 := SVR.out.below k9
                  have q0 := S9.c0
                  have q1 := S9.c1
                  have q2 := S9.f0
                  have q3 := S9.f1
                  have q4 := S9.lt
                  have K9 : Hid (Below w.heap.size w w9) := KXR.out.trans (k9.mono (by first | omega | (simp only [World.size_alloc]; omega)))
                  clear S9 k9
                  go_wp2
                  refine bodyPost_ret (v := .agg #[.int .i64 10, .int .i64 i]) (by simp [results, Tryz.results8, go_sem, q0, q1, q4]) rfl ⟨?_, ?_⟩
                  · rw [HG.out, HGE.out]
                  · exact (K9.out.setCell (by simp) _).setCell (by simp) _
                · have HGE : Hid (goF l 0 = goF (l.drop (i + 1)) (i + 1)) := HG0.out (by rw [HCode.out, HTE.out]; rfl)
                  go_wp2
                  go_roundw
                  case rel => exact ⟨i + 1, by omega, by go_num, HGE.out, KXR1.out⟩
                  case measure => simp [intOf]; omega
          · have hlb : ((left : Int) != 1) = true := by rw [bne_iff_ne]; omega
            have HGE : Hid (goF l 0 = (6, (i : Int))) := HGF.out (HSL.out.trans (beq_eq_false_iff_ne.2 hl1b))
            go_wp2_with (go_at_call 16; refine (number_any _ _).mono ?_; rintro e w' ⟨rfl, rfl⟩)
            refine (F_any 6 i _).mono ?_
            rintro e w9 ⟨rfl, k9⟩
            have S9 := SVX.out.below k9
            have q0 := S9.c0
            have q1 := S9.c1
            have q2 := S9.f0
            have q3 := S9.f1
            have q4 := S9.lt
            have K9 : Hid (Below w.heap.size w w9) := KX.out.trans (k9.mono (by first | omega | (simp only [World.size_alloc]; omega)))
            clear S9 k9
            go_wp2
            refine bodyPost_ret (v := .agg #[.int .i64 6, .int .i64 i]) (by simp [results, Tryz.results8, go_sem, q0, q1, q4]) rfl ⟨?_, ?_⟩
            · rw [HG.out, HGE.out]
            · exact (K9.out.setCell (by simp) _).setCell (by simp) _
    · obtain rfl : i = l.length := by omega
      have HGE : Hid (goF l 0 = (0, 0)) := by show _ = _; rw [HR.out.1, List.drop_length]; rfl
      have q0 := SV.out.c0
      have q1 := SV.out.c1
      have q2 := SV.out.f0
      have q3 := SV.out.f1
      have q4 := SV.out.lt
      go_wp2
      refine bodyPost_ret (v := .agg #[.int .i64 0, .int .i64 0]) (by simp [results, Tryz.results8, go_sem, q0, q1, q4]) rfl ⟨?_, ?_⟩
      · rw [HG.out, HGE.out]
      · exact (KW.out.setCell (by simp) _).setCell (by simp) _

end Go.Proofs.YtknmfohipdjlpabGreatDoor
