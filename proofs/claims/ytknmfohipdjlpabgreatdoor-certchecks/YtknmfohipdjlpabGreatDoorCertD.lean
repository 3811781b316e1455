/- Contracts of package cert: look.at, Check. -/
import Derived.Test.YtknmfohipdjlpabGreatDoorCertC
import Derived.Test.YtknmfohipdjlpabGreatDoorBigBase
set_option linter.unusedSimpArgs false
set_option linter.unusedVariables false
set_option maxRecDepth 100000
namespace Go.Proofs.YtknmfohipdjlpabGreatDoor
open Go.RowKit

theorem Upd.cell {b : Nat} {w w' : World} (h : Upd b w w') {p : Addr} (hp : p.block < w.heap.size) (hn : p.block ≠ b) : w'.cell? p = w.cell? p := World.cell?_of_block (w := w) (h.block p.block hp hn)
theorem Upd.frozen {b : Nat} {w w' : World} (h : Upd b w w') {p : Addr} (hp : p.block < w.heap.size) (hn : p.block ≠ b) : w'.frozen? p = w.frozen? p := World.frozen?_of_block (w := w) (h.block p.block hp hn)

/-- Block L counts s. -/
structure Lk (w : World) (L s : Nat) : Prop where
  lt : L < w.heap.size
  cell : w.cell? ⟨L, 0, none⟩ = some (.int .i64 s)
  frozen : w.frozen? ⟨L, 0, none⟩ = false
theorem Lk.under {w w' : World} {L s B : Nat} (h : Lk w L s) (hb : Below B w w') (hL : L < B) : Lk w' L s :=
  ⟨Nat.lt_of_lt_of_le h.lt hb.size, (hb.cell (p := ⟨L, 0, none⟩) hL).trans h.cell, (hb.frozen (p := ⟨L, 0, none⟩) hL).trans h.frozen⟩

theorem Lk.setOther {w : World} {L s : Nat} (h : Lk w L s) {p : Addr} (hp : L ≠ p.block) (u : Value) : Lk (w.setCell p u) L s :=
  ⟨by simp [World.setCell]; exact h.lt, by rw [World.cell?_of_block (w := w) (Below.heap_setCell w p u L hp)]; exact h.cell, by rw [World.frozen?_of_block (w := w) (Below.heap_setCell w p u L hp)]; exact h.frozen⟩
theorem Lk.alloc {w : World} {L s : Nat} (h : Lk w L s) (o : Obj) : Lk (w.alloc o) L s := h.under ((Below.refl w.heap.size w).alloc (Nat.le_refl _) o) h.lt
theorem Lk.set {w : World} {L s : Nat} (h : Lk w L s) (t : Nat) : Lk (w.setCell ⟨L, 0, none⟩ (.int .i64 t)) L t :=
  ⟨by simp [World.setCell]; exact h.lt, World.cell?_setCell_same' _ _ _ (by rw [h.cell]; rfl), by rw [World.frozen?_setCell]; exact h.frozen⟩
theorem Upd.setNew {b : Nat} {x y : World} (h : Upd b x y) {p : Addr} (hp : x.heap.size ≤ p.block) (u : Value) : Upd b x (y.setCell p u) :=
  ⟨h.os, h.tape, h.output, by simpa [World.setCell] using h.size, fun k hk hn => (Below.heap_setCell y p u k (by omega)).trans (h.block k hk hn)⟩

theorem new_two (x : World) (z : Nat) (hz : x.heap.size = z) (p0 p1 p2 u0 u1 : Value) (t t2 : TypeId) :
    ((x.alloc (.cells #[p0, p1, p2] t)).alloc (.cells #[u0, u1] t2)).cell? ⟨z, 2, none⟩ = some p2 ∧
    ((x.alloc (.cells #[p0, p1, p2] t)).alloc (.cells #[u0, u1] t2)).frozen? ⟨z + 1, 0, none⟩ = false ∧
    ((x.alloc (.cells #[p0, p1, p2] t)).alloc (.cells #[u0, u1] t2)).frozen? ⟨z + 1, 1, none⟩ = false ∧
    ((x.alloc (.cells #[p0, p1, p2] t)).alloc (.cells #[u0, u1] t2)).cell? ⟨z + 1, 0, none⟩ = some u0 ∧
    ((x.alloc (.cells #[p0, p1, p2] t)).alloc (.cells #[u0, u1] t2)).cell? ⟨z + 1, 1, none⟩ = some u1 := by
  subst hz; simp
theorem size_setCell (w : World) (p : Addr) (u : Value) : (w.setCell p u).heap.size = w.heap.size := by simp [World.setCell]

theorem wrong_at {B : Nat} {w0 : World} {n r : Int} {a : Option Addr} {cap : Nat} {ps : List Ct} (hc : InW B w0 (Ct.mk n r a cap ps)) (w : World) (hb : Below B w0 w) (hB : B ≤ w.heap.size) :
    Calls Tryz.prog 23 #[.agg #[.int .i64 n, .int .i64 r, .slice a ps.length cap]] w fun e w' => e = .returned (.int .i64 (Ct.mk n r a cap ps).code) ∧ Below w.heap.size w w' := wrong_any hc w hb hB

theorem code_bd (c : Ct) : 0 ≤ c.code ∧ c.code ≤ 10 := by
  unfold Ct.code codeOf; split <;> (try split) <;> (try split) <;> omega

def AtPost (c : Ct) (w : World) (L s : Nat) (e : Ending) (w' : World) : Prop :=
  e = .returned (.agg #[.int .i64 (goF c.flat s).1, .int .i64 (goF c.flat s).2]) ∧ Upd L w w' ∧ ∃ s', Lk w' L s' ∧ ((goF c.flat s).1 = 0 → s' = s + c.flat.length)

theorem flats_drop {ps : List Ct} {i : Nat} (h : i < ps.length) : Ct.flats (ps.drop i) = ps[i].flat ++ Ct.flats (ps.drop (i + 1)) := by
  rw [List.drop_eq_getElem_cons h, Ct.flats_cons]

set_option maxHeartbeats 2000000 in
theorem at_any {B : Nat} {w0 : World} {c : Ct} (hc : InW B w0 c) : ∀ (w : World) (L s : Nat), s ≤ 1000 → Below B w0 w → B ≤ L → Lk w L s →
    Calls Tryz.prog 14 #[.pointer (some ⟨L, 0, none⟩), .agg #[.int .i64 c.n, .int .i64 c.r, c.sl]] w (AtPost c w L s) := by
  induction hc with
  | @mk c ok ps ih =>
    intro w L s hs hb hBL hk
    have HC : Hid (InW B w0 c) := .mk ok ps
    have HIH : Hid (∀ i (h : i < c.ps.length) (w : World) (L s : Nat), s ≤ 1000 → Below B w0 w → B ≤ L → Lk w L s → Calls Tryz.prog 14 #[.pointer (some ⟨L, 0, none⟩), .agg #[.int .i64 c.ps[i].n, .int .i64 c.ps[i].r, c.ps[i].sl]] w (AtPost c.ps[i] w L s)) := ih
    have hlen := ok.len
    clear ih ps ok
    obtain ⟨n, r, a, cap, ps⟩ := c
    simp only [Ct.n_mk, Ct.r_mk, Ct.ps_mk, Ct.sl_mk] at *
    have hL := hk.lt
    have k0 := hk.cell
    have k1 := hk.frozen
    have hne : (L == w.heap.size) = false := by simp; omega
    have hG : goF (Ct.mk n r a cap ps).flat s = if s = 1000 then (2, 0) else if (Ct.mk n r a cap ps).code = 0 then goF (Ct.flats ps) (s + 1) else ((Ct.mk n r a cap ps).code, (s : Int)) := by
      rw [Ct.flat_eq, goF, Ct.ps_mk]
    have hLen : (Ct.mk n r a cap ps).flat.length = 1 + (Ct.flats ps).length := by
      rw [Ct.flat_eq, Ct.ps_mk, List.length_cons]; omega
    have HL : Hid ((Ct.mk n r a cap ps).flat.length = 1 + (Ct.flats ps).length) := hLen
    clear hLen
    by_cases h1000 : s = 1000
    · subst h1000
      have HG : Hid (goF (Ct.mk n r a cap ps).flat 1000 = (2, 0)) := by show _ = _; rw [hG, if_pos rfl]
      have HPost : Hid (∀ w', Upd L w w' → Lk w' L 1000 → AtPost (Ct.mk n r a cap ps) w L 1000 (.returned (.agg #[.int .i64 2, .int .i64 0])) w') := by
        intro w' h1 h2
        refine ⟨by rw [HG.out], h1, 1000, h2, fun h => ?_⟩
        rw [HG.out] at h; cases h
      clear hG
      go_enter Tryz.func14, Tryz.ntmps14
      go_wp2
      refine bodyPost_ret (v := .agg #[.int .i64 2, .int .i64 0]) (by simp [results, Tryz.results14, go_sem]) rfl ?_
      refine HPost.out _ ?_ ?_
      · exact ((Upd.refl _ _).alloc _).alloc _
      · exact (hk.alloc _).alloc _
    · have hs' : ((s : Int) == 1000) = false := beq_eq_false_iff_ne.2 (by omega)
      obtain ⟨K, hK⟩ : ∃ K, (Ct.mk n r a cap ps).code = K := ⟨_, rfl⟩
      have hKb := code_bd (Ct.mk n r a cap ps)
      rw [hK] at hKb
      have HK : Hid ((Ct.mk n r a cap ps).code = K) := hK
      rw [if_neg h1000, hK] at hG
      have HG : Hid (goF (Ct.mk n r a cap ps).flat s = if K = 0 then goF (Ct.flats ps) (s + 1) else (K, (s : Int))) := hG
      clear hG hK h1000
      have HKL : Hid (Lk w L s) := hk
      obtain ⟨V, hV⟩ : ∃ V, V = ((w.setCell ⟨L, 0, none⟩ (.int .i64 ((s : Int) + 1))).alloc (.cells #[.int .i64 n, .int .i64 r, .slice a ps.length cap] 24)).alloc (.cells #[.int .i64 0, .int .i64 0] 28) := ⟨_, rfl⟩
      have HVU : Hid (Upd L w V) := by rw [hV]; exact (((Upd.refl _ _).setCell _).alloc _).alloc _
      have HVL : Hid (Lk V L (s + 1)) := by rw [hV]; exact ((hk.set (s + 1)).alloc _).alloc _
      have hVz : V.heap.size = w.heap.size + 2 := by rw [hV]; simp [World.setCell]
      have HV : Hid (V = ((w.setCell ⟨L, 0, none⟩ (.int .i64 ((s : Int) + 1))).alloc (.cells #[.int .i64 n, .int .i64 r, .slice a ps.length cap] 24)).alloc (.cells #[.int .i64 0, .int .i64 0] 28)) := hV
      have V2 : Hid (V.cell? ⟨w.heap.size, 2, none⟩ = some (.slice a ps.length cap)) := by rw [hV]; exact (new_two _ _ (size_setCell _ _ _) _ _ _ _ _ _ _).1
      have V3 : Hid (V.frozen? ⟨w.heap.size + 1, 0, none⟩ = false) := by rw [hV]; exact (new_two _ _ (size_setCell _ _ _) _ _ _ _ _ _ _).2.1
      have V4 : Hid (V.frozen? ⟨w.heap.size + 1, 1, none⟩ = false) := by rw [hV]; exact (new_two _ _ (size_setCell _ _ _) _ _ _ _ _ _ _).2.2.1
      have V5 : Hid (V.cell? ⟨w.heap.size + 1, 0, none⟩ = some (.int .i64 0)) := by rw [hV]; exact (new_two _ _ (size_setCell _ _ _) _ _ _ _ _ _ _).2.2.2.1
      have V6 : Hid (V.cell? ⟨w.heap.size + 1, 1, none⟩ = some (.int .i64 0)) := by rw [hV]; exact (new_two _ _ (size_setCell _ _ _) _ _ _ _ _ _ _).2.2.2.2
      clear hV hk
      go_enter Tryz.func14, Tryz.ntmps14
      go_wp2_with fail
      rw [← HV.out]
      refine (wrong_at HC.out V (hb.trans (HVU.out.below (by omega) hBL)) (by omega)).mono ?_
      rw [HK.out]
      rintro e w3 ⟨rfl, b3⟩
      have z3 := b3.size
      have HU3 : Hid (Upd L w w3) := HVU.out.trans (Upd.of_below b3)
      have HUV : Hid (Upd L V w3) := Upd.of_below b3
      have HL3 : Hid (Lk w3 L (s + 1)) := HVL.out.under b3 (by omega)
      have q2 : w3.cell? ⟨w.heap.size, 2, none⟩ = some (.slice a ps.length cap) := (b3.cell (p := ⟨w.heap.size, 2, none⟩) (by show w.heap.size < _; omega)).trans V2.out
      have q3 : w3.frozen? ⟨w.heap.size + 1, 0, none⟩ = false := (b3.frozen (p := ⟨w.heap.size + 1, 0, none⟩) (by show w.heap.size + 1 < _; omega)).trans V3.out
      have q4 : w3.frozen? ⟨w.heap.size + 1, 1, none⟩ = false := (b3.frozen (p := ⟨w.heap.size + 1, 1, none⟩) (by show w.heap.size + 1 < _; omega)).trans V4.out
      have q5 : w3.cell? ⟨w.heap.size + 1, 0, none⟩ = some (.int .i64 0) := (b3.cell (p := ⟨w.heap.size + 1, 0, none⟩) (by show w.heap.size + 1 < _; omega)).trans V5.out
      have q6 : w3.cell? ⟨w.heap.size + 1, 1, none⟩ = some (.int .i64 0) := (b3.cell (p := ⟨w.heap.size + 1, 1, none⟩) (by show w.heap.size + 1 < _; omega)).trans V6.out
      have hz3 : w.heap.size + 1 < w3.heap.size := by omega
      clear b3
      by_cases hK0 : K = 0
      · subst hK0
        have HG2 : Hid (goF (Ct.mk n r a cap ps).flat s = goF (Ct.flats ps) (s + 1)) := by show _ = _; rw [HG.out, if_pos rfl]
        clear HG HK
        go_wp2
        go_loopw [37] (fun iv wx => ∃ i t : Nat, i ≤ ps.length ∧ iv = .int .i64 i ∧ t ≤ 1000 ∧ Hid (Lk wx L t ∧ goF (Ct.flats ps) (s + 1) = goF (Ct.flats (ps.drop i)) t ∧ t + (Ct.flats (ps.drop i)).length = s + 1 + (Ct.flats ps).length ∧ Upd L w wx ∧ Upd L V wx)) (fun iv _ => ps.length - (intOf iv).toNat)
        case atStart => exact ⟨0, s + 1, Nat.zero_le _, rfl, by simp at hs'; omega, HL3.out, by simp, by simp, HU3.out, HUV.out⟩
        case round =>
          obtain ⟨i, t, hi, rfl, ht, HR⟩ := hrel
          obtain ⟨rL, rG, rN, rU, rV⟩ := HR.out
          have hzr := rV.size
          have RU : Hid (Upd L w wr) := rU
          have RG : Hid (goF (Ct.flats ps) (s + 1) = goF (Ct.flats (ps.drop i)) t) := rG
          have RN : Hid (t + (Ct.flats (ps.drop i)).length = s + 1 + (Ct.flats ps).length) := rN
          have RV : Hid (Upd L V wr) := rV
          have RL : Hid (Lk wr L t) := rL
          have p3 : wr.frozen? ⟨w.heap.size + 1, 0, none⟩ = false := (rV.frozen (p := ⟨w.heap.size + 1, 0, none⟩) (by show w.heap.size + 1 < _; omega) (by show w.heap.size + 1 ≠ L; omega)).trans V3.out
          have p4 : wr.frozen? ⟨w.heap.size + 1, 1, none⟩ = false := (rV.frozen (p := ⟨w.heap.size + 1, 1, none⟩) (by show w.heap.size + 1 < _; omega) (by show w.heap.size + 1 ≠ L; omega)).trans V4.out
          have p5 : wr.cell? ⟨w.heap.size + 1, 0, none⟩ = some (.int .i64 0) := (rV.cell (p := ⟨w.heap.size + 1, 0, none⟩) (by show w.heap.size + 1 < _; omega) (by show w.heap.size + 1 ≠ L; omega)).trans V5.out
          have p6 : wr.cell? ⟨w.heap.size + 1, 1, none⟩ = some (.int .i64 0) := (rV.cell (p := ⟨w.heap.size + 1, 1, none⟩) (by show w.heap.size + 1 < _; omega) (by show w.heap.size + 1 ≠ L; omega)).trans V6.out
          have hzw : w.heap.size + 1 < wr.heap.size := by omega
          clear rL rG rN rU rV HR q2 q3 q4 q5 q6 HU3 HUV HL3 k0 k1 hne
          by_cases hlt : i < ps.length
          · have HBW : Hid (Below B w0 wr) := hb.trans (RU.out.below (by omega) hBL)
            obtain ⟨b, o, ea, hbB, c0, c1, c2⟩ := HC.out.cells HBW.out i hlt
            simp only [Ct.a_mk, Ct.ps_mk] at ea c0 c1 c2
            subst ea
            obtain ⟨np, hnp⟩ : ∃ x, x = ps[i].n := ⟨_, rfl⟩
            obtain ⟨rp, hrp⟩ : ∃ x, x = ps[i].r := ⟨_, rfl⟩
            obtain ⟨sp, hsp⟩ : ∃ x, x = ps[i].sl := ⟨_, rfl⟩
            obtain ⟨sa, sl, sc, hsl⟩ : ∃ x y z, sp = .slice x y z := ⟨_, _, _, hsp⟩
            rw [← hsp, hsl] at c2
            rw [← hrp] at c1
            rw [← hnp] at c0
            obtain ⟨X, hX⟩ : ∃ X, X = wr.alloc (.cells #[.int .i64 np, .int .i64 rp, .slice sa sl sc] 24) := ⟨_, rfl⟩
            have hcall := HIH.out i hlt X L t ht (by rw [hX]; exact HBW.out.trans ((Below.refl _ _).alloc (by omega) _)) hBL (by rw [hX]; exact RL.out.alloc _)
            rw [← hnp, ← hrp, ← hsp, hsl] at hcall
            have HCall : Hid (Calls Tryz.prog 14 #[.pointer (some ⟨L, 0, none⟩), .agg #[.int .i64 np, .int .i64 rp, .slice sa sl sc]] X (AtPost ps[i] X L t)) := hcall
            have HX : Hid (X = wr.alloc (.cells #[.int .i64 np, .int .i64 rp, .slice sa sl sc] 24)) := hX
            clear hcall hnp hrp hsp hsl hX
            go_wp2_with fail
            rw [← HX.out]
            refine HCall.out.mono ?_
            rintro e w4 ⟨rfl, u4, s4, l4, n4⟩
            obtain ⟨f1, f2, hf⟩ : ∃ f1 f2, goF ps[i].flat t = (f1, f2) := ⟨_, _, rfl⟩
            rw [hf] at n4 ⊢
            have HF : Hid (goF ps[i].flat t = (f1, f2)) := hf
            have N4 : Hid (f1 = 0 → s4 = t + ps[i].flat.length) := n4
            have L4 : Hid (Lk w4 L s4) := l4
            have UX : Hid (Upd L wr X) := by rw [HX.out]; exact (Upd.refl _ _).alloc _
            have U4 : Hid (Upd L wr w4) := UX.out.trans u4
            have z4 := U4.out.size
            have r3 : w4.frozen? ⟨w.heap.size + 1, 0, none⟩ = false := (U4.out.frozen (p := ⟨w.heap.size + 1, 0, none⟩) (by show w.heap.size + 1 < _; omega) (by show w.heap.size + 1 ≠ L; omega)).trans p3
            have r4 : w4.frozen? ⟨w.heap.size + 1, 1, none⟩ = false := (U4.out.frozen (p := ⟨w.heap.size + 1, 1, none⟩) (by show w.heap.size + 1 < _; omega) (by show w.heap.size + 1 ≠ L; omega)).trans p4
            have r5 : w4.cell? ⟨w.heap.size + 1, 0, none⟩ = some (.int .i64 0) := (U4.out.cell (p := ⟨w.heap.size + 1, 0, none⟩) (by show w.heap.size + 1 < _; omega) (by show w.heap.size + 1 ≠ L; omega)).trans p5
            have r6 : w4.cell? ⟨w.heap.size + 1, 1, none⟩ = some (.int .i64 0) := (U4.out.cell (p := ⟨w.heap.size + 1, 1, none⟩) (by show w.heap.size + 1 < _; omega) (by show w.heap.size + 1 ≠ L; omega)).trans p6
            have hzw4 : w.heap.size + 1 < w4.heap.size := by omega
            have HApp : Hid (goF (Ct.flats ps) (s + 1) = if f1 = 0 then goF (Ct.flats (ps.drop (i + 1))) (t + ps[i].flat.length) else (f1, f2)) := by
              show _ = _
              rw [RG.out, flats_drop hlt, goF_append, hf]
            clear hf n4 l4 u4 p3 p4 p5 p6 c0 c1 c2
            by_cases hf0 : f1 = 0
            · subst hf0
              have hs4 := N4.out rfl
              have hle : t + ps[i].flat.length ≤ 1000 := goF_le _ _ ht (by rw [HF.out])
              have HS4 : Hid (s4 = t + ps[i].flat.length) := hs4
              have hs5 : s4 ≤ 1000 := by omega
              have HA : Hid (goF (Ct.flats ps) (s + 1) = goF (Ct.flats (ps.drop (i + 1))) s4) := by show _ = _; rw [HApp.out, if_pos rfl, hs4]
              have HN : Hid (s4 + (Ct.flats (ps.drop (i + 1))).length = s + 1 + (Ct.flats ps).length) := by
                show _ = _
                have := RN.out
                rw [flats_drop hlt, List.length_append] at this; omega
              clear hs4 hle HApp
              go_wp2
              go_roundw
              case rel =>
                exact ⟨i + 1, s4, by omega, by go_num, hs5, L4.out.alloc _, HA.out, HN.out, (RU.out.trans U4.out).alloc _, (RV.out.trans U4.out).alloc _⟩
              case measure => simp [intOf]; omega
            · have hf' : (f1 != 0) = true := by rw [bne_iff_ne]; exact hf0
              have HA : Hid (goF (Ct.mk n r (some ⟨b, o, none⟩) cap ps).flat s = (f1, f2)) := by show _ = _; rw [HG2.out, HApp.out, if_neg hf0]
              go_wp2
              refine bodyPost_ret (v := .agg #[.int .i64 f1, .int .i64 f2]) (by simp [results, Tryz.results14, go_sem, r5, r6, hzw4]) rfl ?_
              refine ⟨by rw [HA.out], ?_, s4, ?_, fun h => ?_⟩
              · exact (((RU.out.trans U4.out).setNew (by simp) _).setNew (by simp) _).alloc _
              · exact ((L4.out.setOther (by show L ≠ _; simp; omega) _).setOther (by show L ≠ _; simp; omega) _).alloc _
              · rw [HA.out] at h; exact absurd h hf0
          · obtain rfl : i = ps.length := by omega
            have HA : Hid (goF (Ct.mk n r a cap ps).flat s = (0, 0)) := by show _ = _; rw [HG2.out, RG.out, List.drop_length]; rfl
            have HN : Hid (t = s + (Ct.mk n r a cap ps).flat.length) := by
              show _ = _
              have := RN.out
              rw [List.drop_length] at this
              simp only [Ct.flats, List.length_nil] at this
              rw [HL.out]; omega
            go_wp2
            refine bodyPost_ret (v := .agg #[.int .i64 0, .int .i64 0]) (by simp [results, Tryz.results14, go_sem, p5, p6, hzw]) rfl ?_
            refine ⟨by rw [HA.out], ?_, t, ?_, fun _ => HN.out⟩
            · exact (RU.out.setNew (by simp) _).setNew (by simp) _
            · exact (RL.out.setOther (by show L ≠ _; simp; omega) _).setOther (by show L ≠ _; simp; omega) _
      · have hK' : (K != 0) = true := by rw [bne_iff_ne]; exact hK0
        have HG2 : Hid (goF (Ct.mk n r a cap ps).flat s = (K, (s : Int))) := by show _ = _; rw [HG.out, if_neg hK0]
        go_wp2
        refine bodyPost_ret (v := .agg #[.int .i64 K, .int .i64 s]) (by simp [results, Tryz.results14, go_sem, q5, q6, hz3]) rfl ?_
        refine ⟨by rw [HG2.out], ?_, s + 1, ?_, fun h => ?_⟩
        · exact (HU3.out.setNew (by simp) _).setNew (by simp) _
        · exact (HL3.out.setOther (by show L ≠ _; simp; omega) _).setOther (by show L ≠ _; simp; omega) _
        · rw [HG2.out] at h; exact absurd h hK0

theorem cell_new_at (x : World) (C : Array Value) (t : TypeId) (z i : Nat) (hz : x.heap.size = z) : (x.alloc (.cells C t)).cell? ⟨z, i, none⟩ = C[i]? := by
  have h : (x.alloc (.cells C t)).heap[z]? = some (.cells C t) := by subst hz; show (x.heap.push _)[x.heap.size]? = _; simp
  simp only [World.cell?, h]; rfl
theorem frozen_new_at (x : World) (C : Array Value) (t : TypeId) (z i : Nat) (hz : x.heap.size = z) : (x.alloc (.cells C t)).frozen? ⟨z, i, none⟩ = false := by
  have h : (x.alloc (.cells C t)).heap[z]? = some (.cells C t) := by subst hz; show (x.heap.push _)[x.heap.size]? = _; simp
  simp only [World.frozen?, h]; simp
theorem cell_old_at (x : World) (o : Obj) (p : Addr) (h : p.block < x.heap.size) : (x.alloc o).cell? p = x.cell? p := ((Below.refl x.heap.size x).alloc (Nat.le_refl _) o).cell h
theorem frozen_old_at (x : World) (o : Obj) (p : Addr) (h : p.block < x.heap.size) : (x.alloc o).frozen? p = x.frozen? p := ((Below.refl x.heap.size x).alloc (Nat.le_refl _) o).frozen h

theorem new_look (w : World) (p0 p1 p2 u0 u1 : Value) (t t2 t3 : TypeId) : Lk (((w.alloc (.cells #[p0, p1, p2] t)).alloc (.cells #[u0, u1] t2)).alloc (.cells #[.int .i64 0] t3)) (w.heap.size + 2) 0 := by
  refine ⟨by simp, cell_new_at _ _ _ _ _ (by simp), frozen_new_at _ _ _ _ _ (by simp)⟩

set_option maxHeartbeats 400000 in
theorem Check_any {B : Nat} {w0 : World} {c : Ct} (hc : InW B w0 c) (w : World) (hb : Below B w0 w) (hB : B ≤ w.heap.size) :
    Calls Tryz.prog 7 #[.agg #[.int .i64 c.n, .int .i64 c.r, c.sl]] w fun e w' => e = .returned (.agg #[.int .i64 (goF c.flat 0).1, .int .i64 (goF c.flat 0).2]) ∧ Below w.heap.size w w' := by
  obtain ⟨n, hn⟩ : ∃ n, c.n = n := ⟨_, rfl⟩
  obtain ⟨r, hr⟩ : ∃ r, c.r = r := ⟨_, rfl⟩
  obtain ⟨sa, sl, sc, hs⟩ : ∃ x y z, c.sl = .slice x y z := ⟨_, _, _, rfl⟩
  obtain ⟨f1, f2, hf⟩ : ∃ f1 f2, goF c.flat 0 = (f1, f2) := ⟨_, _, rfl⟩
  obtain ⟨X, hX⟩ : ∃ X, X = ((w.alloc (.cells #[.int .i64 n, .int .i64 r, .slice sa sl sc] 24)).alloc (.cells #[.int .i64 0, .int .i64 0] 28)).alloc (.cells #[.int .i64 0] 38) := ⟨_, rfl⟩
  have kX : Below w.heap.size w X := by
    rw [hX]
    exact (((Below.refl _ _).alloc (Nat.le_refl _) _).alloc (by simp) _).alloc (by simp; omega) _
  have zX : X.heap.size = w.heap.size + 3 := by rw [hX]; simp
  have hcall := at_any hc X (w.heap.size + 2) 0 (by omega) (hb.trans (kX.mono hB)) (by omega) (by rw [hX]; exact new_look w _ _ _ _ _ _ _ _)
  have x5 : X.cell? ⟨w.heap.size + 1, 0, none⟩ = some (.int .i64 0) := by rw [hX, cell_old_at _ _ _ (by simp), cell_new_at _ _ _ _ _ (by simp)]; rfl
  have x6 : X.cell? ⟨w.heap.size + 1, 1, none⟩ = some (.int .i64 0) := by rw [hX, cell_old_at _ _ _ (by simp), cell_new_at _ _ _ _ _ (by simp)]; rfl
  have x3 : X.frozen? ⟨w.heap.size + 1, 0, none⟩ = false := by rw [hX, frozen_old_at _ _ _ (by simp), frozen_new_at _ _ _ _ _ (by simp)]
  have x4 : X.frozen? ⟨w.heap.size + 1, 1, none⟩ = false := by rw [hX, frozen_old_at _ _ _ (by simp), frozen_new_at _ _ _ _ _ (by simp)]
  rw [hn, hr, hs] at hcall ⊢
  rw [hf]
  have HF : Hid (goF c.flat 0 = (f1, f2)) := hf
  have HCall : Hid (Calls Tryz.prog 14 #[.pointer (some ⟨w.heap.size + 2, 0, none⟩), .agg #[.int .i64 n, .int .i64 r, .slice sa sl sc]] X (AtPost c X (w.heap.size + 2) 0)) := hcall
  have HX : Hid (X = ((w.alloc (.cells #[.int .i64 n, .int .i64 r, .slice sa sl sc] 24)).alloc (.cells #[.int .i64 0, .int .i64 0] 28)).alloc (.cells #[.int .i64 0] 38)) := hX
  have KX : Hid (Below w.heap.size w X) := kX
  clear hcall hn hr hs hf hX kX hc hb
  go_enter Tryz.func7, Tryz.ntmps7
  go_wp2_with fail
  rw [← HX.out]
  refine HCall.out.mono ?_
  rintro e w1 ⟨rfl, u1, s1, l1, n1⟩
  rw [HF.out]
  have z1 := u1.size
  have U1 : Hid (Upd (w.heap.size + 2) X w1) := u1
  have r3 : w1.frozen? ⟨w.heap.size + 1, 0, none⟩ = false := (u1.frozen (p := ⟨w.heap.size + 1, 0, none⟩) (by show w.heap.size + 1 < _; omega) (by show w.heap.size + 1 ≠ _; omega)).trans x3
  have r4 : w1.frozen? ⟨w.heap.size + 1, 1, none⟩ = false := (u1.frozen (p := ⟨w.heap.size + 1, 1, none⟩) (by show w.heap.size + 1 < _; omega) (by show w.heap.size + 1 ≠ _; omega)).trans x4
  have r5 : w1.cell? ⟨w.heap.size + 1, 0, none⟩ = some (.int .i64 0) := (u1.cell (p := ⟨w.heap.size + 1, 0, none⟩) (by show w.heap.size + 1 < _; omega) (by show w.heap.size + 1 ≠ _; omega)).trans x5
  have r6 : w1.cell? ⟨w.heap.size + 1, 1, none⟩ = some (.int .i64 0) := (u1.cell (p := ⟨w.heap.size + 1, 1, none⟩) (by show w.heap.size + 1 < _; omega) (by show w.heap.size + 1 ≠ _; omega)).trans x6
  have hz1 : w.heap.size + 1 < w1.heap.size := by omega
  clear u1 l1 n1 x3 x4 x5 x6
  go_wp2
  refine bodyPost_ret (v := .agg #[.int .i64 f1, .int .i64 f2]) (by simp [results, Tryz.results7, go_sem, r5, r6, hz1]) rfl ⟨rfl, ?_⟩
  exact ((KX.out.trans (U1.out.below (by omega) (by omega))).setCell (by simp) _).setCell (by simp) _

end Go.Proofs.YtknmfohipdjlpabGreatDoor
