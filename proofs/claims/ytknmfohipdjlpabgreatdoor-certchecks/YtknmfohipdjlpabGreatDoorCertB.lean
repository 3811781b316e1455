/- Contracts of package cert: isFormed. -/
import Derived.Test.YtknmfohipdjlpabGreatDoorCertT
set_option linter.unusedSimpArgs false
set_option linter.unusedVariables false
set_option maxRecDepth 100000
namespace Go.Proofs.YtknmfohipdjlpabGreatDoor
open Go.RowKit

theorem qs_drop {ps : List Ct} {i : Nat} (h : i < ps.length) : (ps.map Ct.n).drop i = ps[i].n :: (ps.map Ct.n).drop (i + 1) := by
  rw [List.drop_eq_getElem_cons (by simpa using h)]; simp

theorem strips_no1 {left : Nat} {last q : Int} {t : List Int} (h : q ≤ last) : strips left last (q :: t) = false := by
  rw [strips, if_pos (.inl h)]
theorem strips_no2 {left : Nat} {last q : Int} {t : List Int} (h : left % q.toNat ≠ 0) : strips left last (q :: t) = false := by
  rw [strips, if_pos (.inr h)]
theorem strips_yes {left : Nat} {last q : Int} {t : List Int} (h1 : last < q) (h2 : left % q.toNat = 0) : strips left last (q :: t) = strips (strip q.toNat left) q t := by
  rw [strips, if_neg (by omega)]

/-- The three cells of a part, in a later world. -/
theorem InW.cells {B : Nat} {w0 w : World} {c : Ct} (hc : InW B w0 c) (hb : Below B w0 w) (i : Nat) (hi : i < c.ps.length) : ∃ b o, c.a = some ⟨b, o, none⟩ ∧ b < B ∧ w.cell? ⟨b, o + i * 3, none⟩ = some (.int .i64 c.ps[i].n) ∧ w.cell? ⟨b, o + i * 3 + 1, none⟩ = some (.int .i64 c.ps[i].r) ∧ w.cell? ⟨b, o + i * 3 + 2, none⟩ = some c.ps[i].sl := by
  obtain ⟨b, o, h1, h2, h3⟩ := hc.ok.at_ (by omega)
  obtain ⟨c0, c1, c2⟩ := h3 i hi
  exact ⟨b, o, h1, h2, (hb.cell (p := ⟨b, o + i * 3, none⟩) h2).trans c0, (hb.cell (p := ⟨b, o + i * 3 + 1, none⟩) h2).trans c1, (hb.cell (p := ⟨b, o + i * 3 + 2, none⟩) h2).trans c2⟩

set_option maxHeartbeats 1000000 in
theorem isFormed_any {B : Nat} {w0 : World} {c : Ct} (hc : InW B w0 c) (w : World) (hn1 : 2 ≤ c.n) (hn2 : c.n ≤ 1000000000000000000) (hb : Below B w0 w) (hB : B ≤ w.heap.size) :
    Calls Tryz.prog 39 #[.agg #[.int .i64 c.n, .int .i64 c.r, c.sl]] w fun e w' => e = .returned (.bool (formedB c.n c.r c.qs)) ∧ Below w.heap.size w w' := by
  have HC : Hid (InW B w0 c) := hc
  have hlen := hc.ok.len
  have hr1 := hc.ok.r1
  have hr2 := hc.ok.r2
  have HQ : Hid (∀ i (h : i < c.ps.length), -9223372036854775808 ≤ c.ps[i].n ∧ c.ps[i].n ≤ 9223372036854775807) := fun i h => ⟨(hc.part i h).ok.n1, (hc.part i h).ok.n2⟩
  clear hc
  obtain ⟨n, r, a, cap, ps⟩ := c
  simp only [Ct.n_mk, Ct.r_mk, Ct.ps_mk, Ct.sl_mk, Ct.qs_mk] at *
  by_cases hn : n = 2
  · subst hn
    have t2 : ((2 : Int) == 2) = true := by decide
    by_cases hr : r = 0
    · subst hr
      by_cases hl : ps.length = 0
      · have e : formedB 2 0 (ps.map Ct.n) = true := by
          obtain rfl : ps = [] := List.eq_nil_of_length_eq_zero hl
          rfl
        have HE : Hid (formedB 2 0 (ps.map Ct.n) = true) := e
        clear e
        have hl' : ((ps.length : Int) == 0) = true := beq_iff_eq.2 (by omega)
        go_enter Tryz.func39, Tryz.ntmps39
        go_wp2
        go_ret
        rw [HE.out]
        exact ⟨rfl, Below.alloc (Below.refl _ _) (Nat.le_refl _) _⟩
      · have e : formedB 2 0 (ps.map Ct.n) = false := by
          rw [formedB, if_pos rfl]
          simp
          intro h; subst h; simp at hl
        have HE : Hid (formedB 2 0 (ps.map Ct.n) = false) := e
        clear e
        have hl' : ((ps.length : Int) == 0) = false := beq_eq_false_iff_ne.2 (by omega)
        go_enter Tryz.func39, Tryz.ntmps39
        go_wp2
        go_ret
        rw [HE.out]
        exact ⟨rfl, Below.alloc (Below.refl _ _) (Nat.le_refl _) _⟩
    · have e : formedB 2 r (ps.map Ct.n) = false := by
        rw [formedB, if_pos rfl]; simp [hr]
      have HE : Hid (formedB 2 r (ps.map Ct.n) = false) := e
      clear e
      have hr' : (r == 0) = false := beq_eq_false_iff_ne.2 hr
      go_enter Tryz.func39, Tryz.ntmps39
      go_wp2
      go_ret
      rw [HE.out]
      exact ⟨rfl, Below.alloc (Below.refl _ _) (Nat.le_refl _) _⟩
  have hn' : (n == 2) = false := beq_eq_false_iff_ne.2 hn
  by_cases hr : r < 2 ∨ n ≤ r
  · have e : formedB n r (ps.map Ct.n) = false := by
      rw [formedB, if_neg hn, if_pos hr]
    have HE : Hid (formedB n r (ps.map Ct.n) = false) := e
    clear e
    rw [HE.out]
    by_cases h2 : r < 2
    · clear hr
      go_enter Tryz.func39, Tryz.ntmps39
      go_wp2
      go_ret
      exact ⟨rfl, Below.alloc (Below.refl _ _) (Nat.le_refl _) _⟩
    · have h3 : n ≤ r := by omega
      clear hr
      go_enter Tryz.func39, Tryz.ntmps39
      go_wp2
      go_ret
      exact ⟨rfl, Below.alloc (Below.refl _ _) (Nat.le_refl _) _⟩
  obtain ⟨N, rfl⟩ : ∃ N : Nat, n = N + 1 := ⟨(n - 1).toNat, by omega⟩
  have HE : Hid (formedB ((N : Int) + 1) r (ps.map Ct.n) = strips N 1 (ps.map Ct.n)) := by
    show _ = _
    rw [formedB, if_neg hn, if_neg hr]; congr 1; omega
  have g1 : decide (r < 2) = false := by simp; omega
  have g2 : decide ((N : Int) + 1 ≤ r) = false := by simp; omega
  have hN : 1 ≤ N := by omega
  clear hn hr
  rw [HE.out]
  go_enter Tryz.func39, Tryz.ntmps39
  go_wp2
  go_loopw [3, 4, 35] (fun lv av iv wx => ∃ (i left : Nat) (last : Int), i ≤ ps.length ∧ lv = .int .i64 left ∧ av = .int .i64 last ∧ iv = .int .i64 i ∧ 1 ≤ left ∧ left ≤ 1000000000000000000 ∧ 1 ≤ last ∧ last ≤ 9223372036854775807 ∧ Hid (strips N 1 (ps.map Ct.n) = strips left last ((ps.map Ct.n).drop i) ∧ Below (w.heap.size + 1) (w.alloc (.cells #[.int .i64 ((N : Int) + 1), .int .i64 r, .slice a ps.length cap] 24)) wx)) (fun _ _ iv _ => ps.length - (intOf iv).toNat)
  case atStart => exact ⟨0, N, 1, Nat.zero_le _, by go_num, rfl, rfl, by omega, by omega, by omega, by omega, by simp, Below.refl _ _⟩
  case round =>
    obtain ⟨i, left, last, hi, rfl, rfl, rfl, l1, l2, a1, a2, HR⟩ := hrel
    have hz := HR.out.2.size
    simp at hz
    have HBW : Hid (Below B w0 wr) := hb.trans (((Below.refl _ _).alloc hB _).trans (HR.out.2.mono (by omega)))
    have HBX : Hid (Below w.heap.size w wr) := ((Below.refl _ _).alloc (Nat.le_refl _) _).trans (HR.out.2.mono (by omega))
    by_cases hlt : i < ps.length
    · obtain ⟨b, o, ea, hbB, c0, c1, c2⟩ := HC.out.cells HBW.out i hlt
      simp only [Ct.a_mk, Ct.ps_mk] at ea c0 c1 c2
      subst ea
      have hq1 := (HQ.out i hlt).1
      have hq2 := (HQ.out i hlt).2
      have HS : Hid (strips N 1 (ps.map Ct.n) = strips left last (ps[i].n :: (ps.map Ct.n).drop (i + 1))) := by show _ = _; rw [HR.out.1, qs_drop hlt]
      obtain ⟨rp, hrp⟩ : ∃ x, x = ps[i].r := ⟨_, rfl⟩
      obtain ⟨sp, hsp⟩ : ∃ x, x = ps[i].sl := ⟨_, rfl⟩
      obtain ⟨sa, sl, sc, hsl⟩ : ∃ x y z, sp = .slice x y z := ⟨_, _, _, hsp⟩
      rw [← hsp, hsl] at c2
      rw [← hrp] at c1
      obtain ⟨q, hq⟩ : ∃ x, x = ps[i].n := ⟨_, rfl⟩
      have HS : Hid (strips N 1 (ps.map Ct.n) = strips left last (q :: (ps.map Ct.n).drop (i + 1))) := by rw [hq]; exact HS
      rw [← hq] at c0 hq1 hq2
      clear hrp hsp hsl hq
      by_cases t1 : q ≤ last
      · have HF : Hid (strips N 1 (ps.map Ct.n) = false) := HS.out.trans (strips_no1 t1)
        go_wp2
        go_ret
        rw [HF.out]
        exact ⟨rfl, HBX.out.alloc (by omega) _⟩
      obtain ⟨Q, rfl⟩ : ∃ Q : Nat, q = Q := ⟨q.toNat, by omega⟩
      have hQ : 2 ≤ Q := by omega
      have hQ0 : ((Q : Int) == 0) = false := beq_eq_false_iff_ne.2 (by omega)
      have t1' : decide ((Q : Int) ≤ last) = false := by simpa using t1
      clear t1
      by_cases t2 : left % Q = 0
      · have t2' : (((left % Q : Nat) : Int) != 0) = false := by simp [t2]
        have t2'' : (((left : Int) % (Q : Int)) != 0) = false := by rw [show ((left : Int) % (Q : Int)) = ((left % Q : Nat) : Int) from by simp]; exact t2'
        have HS2 : Hid (strips N 1 (ps.map Ct.n) = strips (strip Q left) Q ((ps.map Ct.n).drop (i + 1))) := by
          show _ = _
          rw [HS.out, strips_yes (by simp at t1'; omega) (by simpa using t2)]; simp
        clear HS t2 t2'
        go_wp2
        go_loop [3] (fun lv => ∃ l : Nat, lv = .int .i64 l ∧ 1 ≤ l ∧ l ≤ left ∧ Hid (strip Q l = strip Q left)) (fun lv => (intOf lv).toNat)
        case atStart => exact ⟨left, rfl, by omega, Nat.le_refl _, rfl⟩
        case round =>
          obtain ⟨l, rfl, k1, k2, HL⟩ := hrel
          by_cases t3 : l % Q = 0
          · have t3' : (((l : Int) % (Q : Int)) == 0) = true := by rw [show ((l : Int) % (Q : Int)) = ((l % Q : Nat) : Int) from by simp, t3]; rfl
            have HL2 : Hid (strip Q (l / Q) = strip Q left) := (strip_go (by omega) (by omega) t3).symm.trans HL.out
            have k3 : l / Q < l := Nat.div_lt_self (by omega) (by omega)
            have k4 : 1 ≤ l / Q := Nat.div_pos (Nat.le_of_dvd (by omega) (Nat.dvd_of_mod_eq_zero t3)) (by omega)
            clear t3
            go_wp2
            go_round
            case rel => exact ⟨l / Q, by go_num, k4, by omega, HL2.out⟩
            case measure => simp [intOf]; omega
          · have t3' : (((l : Int) % (Q : Int)) == 0) = false := by
              rw [show ((l : Int) % (Q : Int)) = ((l % Q : Nat) : Int) from by simp]; exact beq_eq_false_iff_ne.2 (by omega)
            have HL2 : Hid (strip Q left = l) := HL.out.symm.trans (strip_end t3)
            clear t3
            go_wp2
            go_roundw
            case rel =>
              refine ⟨i + 1, l, Q, by omega, rfl, rfl, by go_num, k1, by omega, by omega, by omega, ?_, HR.out.2.alloc (by omega) _⟩
              rw [HS2.out, HL2.out]
            case measure => simp [intOf]; omega
      · have t2'' : (((left : Int) % (Q : Int)) != 0) = true := by rw [show ((left : Int) % (Q : Int)) = ((left % Q : Nat) : Int) from by simp, bne_iff_ne]; omega
        have HF : Hid (strips N 1 (ps.map Ct.n) = false) := HS.out.trans (strips_no2 (by simpa using t2))
        clear t2
        go_wp2
        go_ret
        rw [HF.out]
        exact ⟨rfl, HBX.out.alloc (by omega) _⟩
    · obtain rfl : i = ps.length := by omega
      have HF : Hid (strips N 1 (ps.map Ct.n) = ((left : Int) == 1)) := by
        show _ = _
        rw [HR.out.1, List.drop_eq_nil_of_le (by simp), strips, Bool.eq_iff_iff, beq_iff_eq, beq_iff_eq]; omega
      go_wp2
      go_ret
      rw [HF.out]
      exact ⟨rfl, HBX.out⟩

end Go.Proofs.YtknmfohipdjlpabGreatDoor
