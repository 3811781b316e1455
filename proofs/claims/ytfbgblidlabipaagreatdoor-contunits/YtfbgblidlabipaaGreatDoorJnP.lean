import Derived.Test.YtfbgblidlabipaaGreatDoorJnN
import Derived.Test.YtfbgblidlabipaaGreatDoorJnO
section
/- The program: cont.Pell. -/
set_option linter.unusedSimpArgs false
set_option linter.unusedVariables false
set_option maxRecDepth 100000
namespace Go.Proofs.YtfbgblidlabipaaGreatDoor
open Go.RowKit LgM CfM

theorem rn_small {n r : Nat} (h : Rn n r) (hn : n ≤ 1000000) : r ≤ 1000 := by
  rcases Nat.lt_or_ge 1000 r with h1 | h1
  · have := Nat.mul_le_mul h1 h1; have := h.lo; omega
  · exact h1
theorem cs_sq {n r : Nat} (h : Rn n r) (hn : n ≤ 1000000) : Sq n r 0 1 (cs n r) := by
  have hr := rn_small h hn
  have hlo := h.lo
  refine ⟨⟨by omega, by omega, by omega, by omega, by omega, ?_, ?_, ?_, ?_⟩, fun i => ?_⟩
  · show r ≤ _; omega
  · show r + 0 = _; simp
  · show r * r ≤ n; omega
  · show (n - r * r) / 1 = n - r * r; simp
  · obtain ⟨h1, h2, h3, h4, h5, h6, h7⟩ := cs_bd h i
    obtain ⟨g1, g2, g3, g4, g5, g6, g7⟩ := cs_bd h (i + 1)
    obtain ⟨c1, c2, c3, c4⟩ := cs_cq h i
    refine ⟨by omega, by omega, by omega, h3, by omega, by omega, ?_, ?_, rfl⟩
    · have e := np_def (r : Int) ((cs n r i).1 : Nat) ((cs n r i).2 : Nat)
      rw [← c4, ← c2, ← Int.natCast_mul] at e
      show (cs n r (i + 1)).1 + (cs n r i).1 = cl n r i * (cs n r i).2
      omega
    · have := Nat.mul_le_mul g2 g2; omega
theorem kl_cl (n r N : Nat) : kl r (cs n r) N = (List.range N).map (cl n r) := rfl
theorem cb_st {n r : Nat} {L : List Nat} {m : Nat} (hL : ∀ i, i < m → L.getD i 0 = cl n r i) (i : Nat) (hi : i ≤ m) : cb L ((1, 0), (r, 1)) i = st n r i := by
  induction i with
  | zero => rfl
  | succ i ih =>
    have e := ih (by omega)
    simp only [cb, st, e, hL i (by omega)]
    rw [Nat.mul_comm (cl n r i), Nat.mul_comm (cl n r i)]
theorem getD_l (a b : List Nat) (i : Nat) (h : i < a.length) : (a ++ b).getD i 0 = a.getD i 0 := by
  rw [List.getD_eq_getElem?_getD, List.getElem?_append_left h, List.getD_eq_getElem?_getD]
theorem getD_r (a b : List Nat) (i : Nat) (h : a.length ≤ i) : (a ++ b).getD i 0 = b.getD (i - a.length) 0 := by
  rw [List.getD_eq_getElem?_getD, List.getElem?_append_right h, List.getD_eq_getElem?_getD]
theorem kl_get (n r N i : Nat) (hi : i < N) : (kl r (cs n r) N).getD i 0 = cl n r i := by simp [kl_cl, List.getD_eq_getElem?_getD, hi]
theorem kl_small {n r : Nat} (h : Rn n r) (hn : n ≤ 1000000) (N i : Nat) : (kl r (cs n r) N).getD i 0 ≤ 2000 := by
  have hr := rn_small h hn
  rcases Nat.lt_or_ge i N with h1 | h1
  · rw [kl_get n r N i h1]; have := (cs_bd h i).2.2.2.2.2.1; omega
  · rw [List.getD_eq_getElem?_getD, List.getElem?_eq_none (by rw [kl_len]; exact h1)]; simp
theorem kl_two_get {n r N : Nat} (h : Rn n r) (hN : 1 ≤ N) (hq : (cs n r (N - 1)).2 = 1) (i : Nat) (hi : i < 2 * N) : (kl r (cs n r) N ++ kl r (cs n r) N).getD i 0 = cl n r i := by
  rcases Nat.lt_or_ge i N with h1 | h1
  · rw [getD_l _ _ _ (by rw [kl_len]; exact h1), kl_get n r N i h1]
  · rw [getD_r _ _ _ (by rw [kl_len]; exact h1), kl_len, kl_get n r N (i - N) (by omega)]
    have := cs_again h hq (i - N)
    rw [show N - 1 + 1 + (i - N) = i by omega] at this
    unfold cl; rw [this]
theorem kl_two_small {n r : Nat} (h : Rn n r) (hn : n ≤ 1000000) (N i : Nat) : (kl r (cs n r) N ++ kl r (cs n r) N).getD i 0 ≤ 2000 := by
  rcases Nat.lt_or_ge i (kl r (cs n r) N).length with h1 | h1
  · rw [getD_l _ _ _ h1]; exact kl_small h hn N i
  · rw [getD_r _ _ _ h1]; exact kl_small h hn N _

/-- The end of the list, or none among the first thousand. -/
def Fst (n r N : Nat) : Prop := 1 ≤ N ∧ N ≤ 1000 ∧ (cs n r (N - 1)).2 = 1 ∧ ∀ i, i < N - 1 → (cs n r i).2 ≠ 1
theorem fst_or (n r : Nat) : (∃ N, Fst n r N) ∨ ∀ i, i < 1000 → (cs n r i).2 ≠ 1 := by
  have key : ∀ m, m ≤ 1000 → (∃ N, Fst n r N) ∨ ∀ i, i < m → (cs n r i).2 ≠ 1 := by
    intro m
    induction m with
    | zero => intro _; exact .inr (fun i h => by omega)
    | succ m ih =>
      intro hm
      rcases ih (by omega) with h | h
      · exact .inl h
      · by_cases e : (cs n r m).2 = 1
        · exact .inl ⟨m + 1, by omega, by omega, by simpa using e, fun i hi => h i (by omega)⟩
        · refine .inr (fun i hi => ?_)
          by_cases e2 : i = m
          · subst e2; exact e
          · exact h i (by omega)
  exact key 1000 (Nat.le_refl _)

/-- What Pell answers: two texts and the fault. -/
def PeOut (d : Int) (e : Ending) : Prop :=
  ((d < 2 ∨ 1000000 < d) ∧ e = .returned (.tuple #[.string ⟨#[]⟩, .string ⟨#[]⟩, .agg #[.int .i64 3, .int .i64 0]])) ∨
  ((∃ r : Nat, (2 ≤ d ∧ d ≤ 1000000) ∧ (r : Int) * r = d) ∧ e = .returned (.tuple #[.string ⟨#[]⟩, .string ⟨#[]⟩, .agg #[.int .i64 7, .int .i64 0]])) ∨
  (∃ n r : Nat, d = n ∧ n ≤ 1000000 ∧ Rn n r ∧ (((∀ i, i < 1000 → (cs n r i).2 ≠ 1) ∧ e = .returned (.tuple #[.string ⟨#[]⟩, .string ⟨#[]⟩, .agg #[.int .i64 9, .int .i64 0]])) ∨
    ∃ N, Fst n r N ∧ e = .returned (.tuple #[.string ⟨(Lib.decDigits (st n r (NN N - 1)).2.1).toArray⟩, .string ⟨(Lib.decDigits (st n r (NN N - 1)).2.2).toArray⟩, .agg #[.int .i64 0, .int .i64 0]])))

/-- What Pell (and Surd) hold: the fault's box, the root's. -/
structure Pm (h B5 d r p q : Nat) (f1 f2 : Int) (w W : World) : Prop where
  f : Cl h [.int .i64 f1, .int .i64 f2] 25 W
  s : Cl B5 (sgc d r p q) 110 W
  k : Below h w W
  h5 : h < B5
theorem Pm.below {h B5 d r p q : Nat} {f1 f2 : Int} {w W W' : World} (c : Pm h B5 d r p q f1 f2 w W) (k : Below W.heap.size W W') : Pm h B5 d r p q f1 f2 w W' :=
  ⟨c.f.below k, c.s.below k, c.k.trans (k.mono (by have := c.f.lt; omega)), c.h5⟩

/-- Behind rootOf: its answers are stored. -/
theorem pm_root {h : Nat} {w w1 : World} (F : Cl h [.int .i64 0, .int .i64 0] 25 w1) (K : Below h w w1) (d r p q : Nat) (f1 f2 : Int) :
    Pm h w1.heap.size d r p q f1 f2 w (((w1.alloc (.cells #[.int .i64 (d : Int), .int .i64 (r : Int), .int .i64 (p : Int), .int .i64 (q : Int)] 110)).setCell ⟨h, 0, none⟩ (.int .i64 f1)).setCell ⟨h, 1, none⟩ (.int .i64 f2)) := by
  have hl := F.lt
  have ka := ((Below.refl w1.heap.size w1).alloc (Nat.le_refl _) (.cells #[.int .i64 (d : Int), .int .i64 (r : Int), .int .i64 (p : Int), .int .i64 (q : Int)] 110))
  have S0 := Cl.new (sgc d r p q) 110 w1
  exact ⟨((F.below ka).set 0 _).set 1 _, (S0.other (by simp; omega) _).other (by simp; omega) _, ((K.trans (ka.mono (by omega))).setCell (Nat.le_refl _) _).setCell (Nat.le_refl _) _, hl⟩

set_option maxHeartbeats 4000000 in
theorem Pell_any (d : Int) (w : World) (hT : Tq w) :
    Calls Tryz.prog 60 #[.int .i64 d] w fun e w' => PeOut d e ∧ Below w.heap.size w w' := by
  have HT : Hid (Tq w) := hT
  clear hT
  have F0 : Cl w.heap.size [.int .i64 0, .int .i64 0] 25 (w.alloc (.cells #[.int .i64 0, .int .i64 0] 25)) := Cl.new [.int .i64 0, .int .i64 0] _ w
  have HRo : Hid (∀ w, Calls Tryz.prog 69 #[.int .i64 d] w fun e w' => ∃ v f, e = .returned (.tuple #[v, f]) ∧ RoOut d v f ∧ Below w.heap.size w w') := fun w => rootOf_any d w
  have HF0 : Hid (Cl w.heap.size [.int .i64 0, .int .i64 0] 25 (w.alloc (.cells #[.int .i64 0, .int .i64 0] 25))) := F0
  clear F0
  go_enter Tryz.func60, Tryz.ntmps60
  go_wp2_with fail
  refine (HRo.out _).mono ?_
  rintro e w1 ⟨v, f, rfl, ho, k1⟩
  have F1 := HF0.out.below k1
  have K1 : Below w.heap.size w w1 := ((Below.refl _ w).alloc (Nat.le_refl _) _).trans (k1.mono (by simp))
  have e0 : ∀ x : Obj, (w1.alloc x).cell? ⟨w.heap.size, 0, none⟩ = some (.int .i64 0) := fun x => (F1.alloc x).cell 0
  have e1 : ∀ x : Obj, (w1.alloc x).cell? ⟨w.heap.size, 1, none⟩ = some (.int .i64 0) := fun x => (F1.alloc x).cell 1
  have g0 : ∀ x : Obj, (w1.alloc x).frozen? ⟨w.heap.size, 0, none⟩ = false := fun x => (F1.alloc x).frozen 0
  have g1 : ∀ x : Obj, (w1.alloc x).frozen? ⟨w.heap.size, 1, none⟩ = false := fun x => (F1.alloc x).frozen 1
  have HF1 : Hid (Cl w.heap.size [.int .i64 0, .int .i64 0] 25 w1) := F1
  have HK1 : Hid (Below w.heap.size w w1) := K1
  clear F1 K1 k1 HRo HF0
  rcases ho with ⟨hd, rfl, rfl⟩ | ⟨r, hd, hr, rfl, rfl⟩ | ⟨n, r, rfl, hn, hRn, rfl, rfl⟩
  · have HO : Hid (PeOut d (.returned (.tuple #[.string ⟨#[]⟩, .string ⟨#[]⟩, .agg #[.int .i64 3, .int .i64 0]]))) := .inl ⟨hd, rfl⟩
    have M0 : Pm w.heap.size w1.heap.size 0 0 0 0 3 0 w (((w1.alloc (.cells #[.int .i64 0, .int .i64 0, .int .i64 0, .int .i64 0] 110)).setCell ⟨w.heap.size, 0, none⟩ (.int .i64 3)).setCell ⟨w.heap.size, 1, none⟩ (.int .i64 0)) := pm_root HF1.out HK1.out 0 0 0 0 3 0
    clear hd
    unfold sgv
    go_wp2
    generalize hW2 : (((w1.alloc (.cells #[.int .i64 0, .int .i64 0, .int .i64 0, .int .i64 0] 110)).setCell ⟨w.heap.size, 0, none⟩ (.int .i64 3)).setCell ⟨w.heap.size, 1, none⟩ (.int .i64 0)) = W2 at M0 ⊢
    have f0 := M0.f.cell 0
    have f1 := M0.f.cell 1
    have f2 := M0.f.frozen 0
    have f3 := M0.f.frozen 1
    simp at f0 f1
    have HM0 : Hid (Pm w.heap.size w1.heap.size 0 0 0 0 3 0 w W2) := M0
    clear M0 hW2 e0 e1 g0 g1
    go_region
    all_goals
      go_wp2
      have Z := ((HM0.out.f.set 0 (.int .i64 3)).set 1 (.int .i64 0)).drew
      have KF := ((HM0.out.k.setCell (p := ⟨w.heap.size, 0, none⟩) (Nat.le_refl _) (.int .i64 3)).setCell (p := ⟨w.heap.size, 1, none⟩) (Nat.le_refl _) (.int .i64 0)).drew
      have z0 := Z.cell 0
      have z1 := Z.cell 1
      simp at z0 z1
      exact bodyPost_ret (v := .tuple #[.string ⟨#[]⟩, .string ⟨#[]⟩, .agg #[.int .i64 3, .int .i64 0]]) (by simp [results, Tryz.results60, go_sem, z0, z1]) rfl ⟨HO.out, KF⟩
  · have HO : Hid (PeOut d (.returned (.tuple #[.string ⟨#[]⟩, .string ⟨#[]⟩, .agg #[.int .i64 7, .int .i64 0]]))) := .inr (.inl ⟨⟨r, hd, hr⟩, rfl⟩)
    clear hr
    have M0 : Pm w.heap.size w1.heap.size 0 0 0 0 7 0 w (((w1.alloc (.cells #[.int .i64 0, .int .i64 0, .int .i64 0, .int .i64 0] 110)).setCell ⟨w.heap.size, 0, none⟩ (.int .i64 7)).setCell ⟨w.heap.size, 1, none⟩ (.int .i64 0)) := pm_root HF1.out HK1.out 0 0 0 0 7 0
    clear hd
    unfold sgv
    go_wp2
    generalize hW2 : (((w1.alloc (.cells #[.int .i64 0, .int .i64 0, .int .i64 0, .int .i64 0] 110)).setCell ⟨w.heap.size, 0, none⟩ (.int .i64 7)).setCell ⟨w.heap.size, 1, none⟩ (.int .i64 0)) = W2 at M0 ⊢
    have f0 := M0.f.cell 0
    have f1 := M0.f.cell 1
    have f2 := M0.f.frozen 0
    have f3 := M0.f.frozen 1
    simp at f0 f1
    have HM0 : Hid (Pm w.heap.size w1.heap.size 0 0 0 0 7 0 w W2) := M0
    clear M0 hW2 e0 e1 g0 g1
    go_region
    all_goals
      go_wp2
      have Z := ((HM0.out.f.set 0 (.int .i64 7)).set 1 (.int .i64 0)).drew
      have KF := ((HM0.out.k.setCell (p := ⟨w.heap.size, 0, none⟩) (Nat.le_refl _) (.int .i64 7)).setCell (p := ⟨w.heap.size, 1, none⟩) (Nat.le_refl _) (.int .i64 0)).drew
      have z0 := Z.cell 0
      have z1 := Z.cell 1
      simp at z0 z1
      exact bodyPost_ret (v := .tuple #[.string ⟨#[]⟩, .string ⟨#[]⟩, .agg #[.int .i64 7, .int .i64 0]]) (by simp [results, Tryz.results60, go_sem, z0, z1]) rfl ⟨HO.out, KF⟩
  · have M0 : Pm w.heap.size w1.heap.size n r 0 1 0 0 w (((w1.alloc (.cells #[.int .i64 (n : Int), .int .i64 (r : Int), .int .i64 0, .int .i64 1] 110)).setCell ⟨w.heap.size, 0, none⟩ (.int .i64 0)).setCell ⟨w.heap.size, 1, none⟩ (.int .i64 0)) := pm_root HF1.out HK1.out n r 0 1 0 0
    have HRn : Hid (Rn n r) := hRn
    have hr1000 := rn_small hRn hn
    clear hRn
    rcases fst_or n r with ⟨N, hF⟩ | hno
    · have HCy : Hid (∀ w, Calls Tryz.prog 71 #[.agg #[.int .i64 (n : Int), .int .i64 (r : Int), .int .i64 0, .int .i64 1]] w (CyPost r (cs n r) N w)) := fun w => cycle_any n r 0 1 N (cs n r) (cs_sq HRn.out hn) true hF.1 (by have := hF.2.1; omega) (fun _ => hF.2.2.1) hF.2.2.2 (fun h => by cases h) (fun h => by cases h) w
      have HF : Hid (Fst n r N) := hF
      have hN1 := hF.1
      have hN2 := hF.2.1
      clear hF
      have hne1 : w1.heap.size ≠ w.heap.size := by have := M0.h5; omega
      have hne2 : w.heap.size ≠ w1.heap.size := by have := M0.h5; omega
      unfold sgv
      go_wp2_with fail
      generalize hW2 : (((w1.alloc (.cells #[.int .i64 (n : Int), .int .i64 (r : Int), .int .i64 0, .int .i64 1] 110)).setCell ⟨w.heap.size, 0, none⟩ (.int .i64 0)).setCell ⟨w.heap.size, 1, none⟩ (.int .i64 0)) = W2 at M0 ⊢
      refine (HCy.out W2).mono ?_
      rintro e w3 ⟨k3, ⟨_, a, c, rfl, hrow⟩ | ⟨h, _⟩⟩
      · have M3 := M0.below k3
        have f0 := M3.f.cell 0
        have f1 := M3.f.cell 1
        have f2 := M3.f.frozen 0
        have f3 := M3.f.frozen 1
        simp at f0 f1
        have M4 : Pm w.heap.size w1.heap.size n r 0 1 0 0 w ((w3.setCell ⟨w.heap.size, 0, none⟩ (.int .i64 0)).setCell ⟨w.heap.size, 1, none⟩ (.int .i64 0)) :=
          ⟨(M3.f.set 0 _).set 1 _, (M3.s.other (by simp; omega) _).other (by simp; omega) _, (M3.k.setCell (Nat.le_refl _) _).setCell (Nat.le_refl _) _, M3.h5⟩
        have hisx : IS ((w3.setCell ⟨w.heap.size, 0, none⟩ (.int .i64 0)).setCell ⟨w.heap.size, 1, none⟩ (.int .i64 0)) (.slice a N c) (nz (kl r (cs n r) N)) := by
          have hl : w.heap.size < W2.heap.size := M0.f.lt
          exact IS.ownL (by rw [nz_len, kl_len]) (ownsRow_setCell_below (ownsRow_setCell_below hrow (by exact hl) _) (by exact hl) _)
        have hcap := ownsRow_cap hrow
        have HM4 : Hid (Pm w.heap.size w1.heap.size n r 0 1 0 0 w ((w3.setCell ⟨w.heap.size, 0, none⟩ (.int .i64 0)).setCell ⟨w.heap.size, 1, none⟩ (.int .i64 0))) := M4
        have HIS4 : Hid (IS ((w3.setCell ⟨w.heap.size, 0, none⟩ (.int .i64 0)).setCell ⟨w.heap.size, 1, none⟩ (.int .i64 0)) (.slice a N c) (nz (kl r (cs n r) N))) := hisx
        have HNo : Hid (∀ w, Calls Tryz.prog 74 #[.slice a N c] w fun e w' => e = .returned (.int .i64 (CfM.sgn N)) ∧ w' = w) := fun w => normAfter_any a N c w (by omega)
        clear M0 M3 M4 k3 hrow hisx hW2 HCy e0 e1 g0 g1
        rcases Nat.mod_two_eq_zero_or_one N with hev | hod
        · have hs : CfM.sgn N = 1 := by unfold CfM.sgn; rw [if_pos hev]
          rw [hs] at HNo
          have HEv : Hid (N % 2 = 0) := hev
          clear hs hev
          go_wp2_with (go_at_call 74; refine (HNo.out _).mono ?_; rintro e w' ⟨rfl, hw'⟩; rw [hw']; clear hw' w'; refine Hid.out ?_)
          refine Lib.hid ?_
          generalize hW4 : ((w3.setCell ⟨w.heap.size, 0, none⟩ (.int .i64 0)).setCell ⟨w.heap.size, 1, none⟩ (.int .i64 0)) = W4 at HM4 HIS4 ⊢
          have MX := HM4.out
          have HLn : Hid ((kl r (cs n r) N).length = NN N) := by show _ = _; rw [kl_len]; unfold NN; rw [if_pos HEv.out]
          have HSm : Hid (∀ i, (kl r (cs n r) N).getD i 0 ≤ 2000) := fun i => kl_small HRn.out hn N i
          have HGt : Hid (∀ i, i < NN N - 1 → (kl r (cs n r) N).getD i 0 = cl n r i) := fun i hi => kl_get n r N i (by unfold NN at hi; rw [if_pos HEv.out] at hi; omega)
          have HCp : Hid (∀ a' k' c', Value.slice a N c = .slice a' k' c' → k' ≤ c') := fun a' k' c' h => by simp only [Value.slice.injEq] at h; omega
          clear hW4 f0 f1 f2 f3 HM4 HNo
          have HCl : Hid (∀ W, Below W4.heap.size W4 W → Calls Tryz.prog 72 #[.agg #[.int .i64 (n : Int), .int .i64 (r : Int), .int .i64 0, .int .i64 1], .int .i64 1, (.slice a N c)] W fun e w' => ∃ a b, e = .returned (.agg #[a, b]) ∧ LN w' a (st n r (NN N - 1)).2.1 ∧ LN w' b (st n r (NN N - 1)).2.2 ∧ Below W.heap.size W w') := fun W k => by
            have := climb_any n r 0 1 r (n - r * r) 1 (kl r (cs n r) N) ((.slice a N c)) W HCp.out (cs_sq HRn.out hn).first (by omega) (by omega) (HIS4.out.belowL k) (by rw [HLn.out]; unfold NN; split <;> omega) (by rw [HLn.out]; unfold NN; split <;> omega) (fun i => by have := HSm.out i; omega)
            rw [Nat.one_mul, Nat.div_one, HLn.out, cb_st HGt.out (NN N - 1) (Nat.le_refl _)] at this
            exact this
          have x0 := MX.s.cell 0
          have x1 := MX.s.cell 1
          have x2 := MX.s.cell 2
          have x3 := MX.s.cell 3
          simp only [sgc, List.getElem?_cons_zero, List.getElem?_cons_succ] at x0 x1 x2 x3
          have HMX : Hid (Pm w.heap.size w1.heap.size n r 0 1 0 0 w W4) := MX
          clear MX
          go_wp2_with fail
          refine (HCl.out _ (Below.refl _ _)).mono ?_
          rintro e w5 ⟨vx, vy, rfl, lx, ly, k5⟩
          obtain ⟨ax, nx, cx, rfl⟩ := lx.slice
          obtain ⟨ay, ny, cy, rfl⟩ := ly.slice
          have M5 := HMX.out.below k5
          have ka := ((Below.refl w5.heap.size w5).alloc (Nat.le_refl _) (.cells #[.slice ax nx cx, .slice ay ny cy] 120))
          have C5 := Cl.new [.slice ax nx cx, .slice ay ny cy] 120 w5
          have M6 := M5.below ka
          have lx := lx.below ka
          have ly := ly.below ka
          clear x0 x1 x2 x3 HCl k5 M5
          go_wp2
          generalize hW6 : w5.alloc (.cells #[.slice ax nx cx, .slice ay ny cy] 120) = W6 at C5 M6 lx ly ka ⊢
          generalize hB6 : w5.heap.size = B6 at C5 ⊢
          clear hW6 hB6 ka
          have y0 := C5.cell 0
          have y1 := C5.cell 1
          simp at y0 y1
          have HTX : Hid (Tq W6) := HT.out.below M6.k
          have hbd := st_lt HRn.out (by omega) (NN N - 1)
          have hNNb : NN N ≤ 2000 ∧ 1 ≤ NN N := by unfold NN; split <;> omega
          refine wp_region_G (fun w' => w'.cell? ⟨B6, 0, none⟩ = some (.slice ax nx cx) ∧ w'.cell? ⟨B6, 1, none⟩ = some (.slice ay ny cy)) 9 (by kernel_rfl) ⟨y0, y1⟩ (fun hHeld => ?_)
          refine wpAnyG_take (i := 0) (v := ?v0x1) rfl (by kernel_rfl) (fun _ _ _ h => h) (Or.inl ⟨by rfl, ?y0x1⟩) hHeld ?r0x1
          case y0x1 => (intro wS hSw; obtain ⟨t1, t2⟩ := hSw; go_simp; try with_reducible rfl)
          try simp only [Act.put, List.setIfInBounds_toArray, List.set_cons_zero, List.set_cons_succ]
          refine wpAnyG_take (i := 1) (v := ?v1x2) rfl (by kernel_rfl) (fun _ _ _ h => h) (Or.inl ⟨by rfl, ?y1x2⟩) hHeld ?r1x2
          case y1x2 => (intro wS hSw; obtain ⟨t1, t2⟩ := hSw; go_simp; try with_reducible rfl)
          try simp only [Act.put, List.setIfInBounds_toArray, List.set_cons_zero, List.set_cons_succ]
          refine wpAnyG_take (i := 3) (v := ?v3x3) rfl (by kernel_rfl) (fun _ _ _ h => h) (Or.inl ⟨by rfl, ?y3x3⟩) hHeld ?r3x3
          case y3x3 => (intro wS hSw; obtain ⟨t1, t2⟩ := hSw; go_simp; try with_reducible rfl)
          try simp only [Act.put, List.setIfInBounds_toArray, List.set_cons_zero, List.set_cons_succ]
          refine wpAnyG_take (i := 4) (v := ?v4x4) rfl (by kernel_rfl) (fun _ _ _ h => h) (Or.inl ⟨by rfl, ?y4x4⟩) hHeld ?r4x4
          case y4x4 => (intro wS hSw; obtain ⟨t1, t2⟩ := hSw; go_simp; try with_reducible rfl)
          try simp only [Act.put, List.setIfInBounds_toArray, List.set_cons_zero, List.set_cons_succ]
          refine wpAnyG_take (i := 6) (v := ?v6x5) rfl (by kernel_rfl) (fun _ _ _ h => h) (Or.inl ⟨by rfl, ?y6x5⟩) hHeld ?r6x5
          case y6x5 => (intro wS hSw; obtain ⟨t1, t2⟩ := hSw; go_simp; try with_reducible rfl)
          try simp only [Act.put, List.setIfInBounds_toArray, List.set_cons_zero, List.set_cons_succ]
          refine wpAnyG_one (i := 2) rfl (by kernel_rfl) (fun K hK => ?_)
          go_simp
          have kd : Below W6.heap.size W6 W6.drew := (Below.refl _ _).drew
          refine (String_any _ _ (NN N - 1 + 1) _ (lx.below kd) hbd.2.2.1 (by omega) (by omega) (HTX.out.below kd)).mono ?_
          rintro e w7 ⟨rfl, k7⟩
          have k67 : Below W6.heap.size W6 w7 := kd.trans k7
          have C7 := C5.below k67
          have y2 := C7.cell 0
          have y3 := C7.cell 1
          simp at y2 y3
          refine hK.out _ _ ⟨y2, y3⟩ ?_
          clear hK K
          try simp only [Act.put, List.setIfInBounds_toArray, List.set_cons_zero, List.set_cons_succ]
          clear hHeld
          have hHeld : w7.cell? ⟨B6, 0, none⟩ = some (.slice ax nx cx) ∧ w7.cell? ⟨B6, 1, none⟩ = some (.slice ay ny cy) := ⟨y2, y3⟩
          refine wpAnyG_one (i := 5) rfl (by kernel_rfl) (fun K hK => ?_)
          go_simp
          refine (String_any _ _ (NN N - 1 + 1) _ (ly.below k67) hbd.2.2.2 (by omega) (by omega) (HTX.out.below k67)).mono ?_
          rintro e w8 ⟨rfl, k8⟩
          have k68 : Below W6.heap.size W6 w8 := k67.trans (k8.mono k67.size)
          have C8 := C5.below k68
          have M8 := M6.below k68
          have y4 := C8.cell 0
          have y5 := C8.cell 1
          simp at y4 y5
          refine hK.out _ _ ⟨y4, y5⟩ ?_
          clear hK K
          try simp only [Act.put, List.setIfInBounds_toArray, List.set_cons_zero, List.set_cons_succ]
          clear hHeld
          have hHeld : w8.cell? ⟨B6, 0, none⟩ = some (.slice ax nx cx) ∧ w8.cell? ⟨B6, 1, none⟩ = some (.slice ay ny cy) := ⟨y4, y5⟩
          have f0 := M8.f.cell 0
          have f1 := M8.f.cell 1
          have f2 := M8.f.frozen 0
          have f3 := M8.f.frozen 1
          simp at f0 f1
          refine wpAnyG_one (i := 7) rfl (by kernel_rfl) (fun K hK => ?_)
          go_simp
          refine hK.out _ _ hHeld ?_
          clear hK K
          try simp only [Act.put, List.setIfInBounds_toArray, List.set_cons_zero, List.set_cons_succ]
          refine wpAnyG_one (i := 8) rfl (by kernel_rfl) (fun K hK => ?_)
          go_simp
          refine hK.out _ _ hHeld ?_
          clear hK K
          try simp only [Act.put, List.setIfInBounds_toArray, List.set_cons_zero, List.set_cons_succ]
          refine wpAnyG_last (i := 9) rfl (by kernel_rfl) (by kernel_rfl) (fun K hK => ?_)
          go_simp
          refine hK.out _ _ ?_
          clear hK K
          try simp only [Act.put, List.setIfInBounds_toArray, List.set_cons_zero, List.set_cons_succ]
          refine wpAnyG_done (by kernel_rfl) ?_ _
          have HO : Hid (PeOut (n : Int) (.returned (.tuple #[.string ⟨(Lib.decDigits (st n r (NN N - 1)).2.1).toArray⟩, .string ⟨(Lib.decDigits (st n r (NN N - 1)).2.2).toArray⟩, .agg #[.int .i64 0, .int .i64 0]]))) := .inr (.inr ⟨n, r, rfl, hn, HRn.out, .inr ⟨N, HF.out, rfl⟩⟩)
          have Z := (M8.f.set 0 (.int .i64 0)).set 1 (.int .i64 0)
          have KF := (M8.k.setCell (p := ⟨w.heap.size, 0, none⟩) (Nat.le_refl _) (.int .i64 0)).setCell (p := ⟨w.heap.size, 1, none⟩) (Nat.le_refl _) (.int .i64 0)
          have z0 := Z.cell 0
          have z1 := Z.cell 1
          simp at z0 z1
          generalize hWF : ((w8.setCell ⟨w.heap.size, 0, none⟩ (.int .i64 0)).setCell ⟨w.heap.size, 1, none⟩ (.int .i64 0)) = WF at z0 z1 KF ⊢
          have HKF : Hid (Below w.heap.size w WF) := KF
          clear Z KF hWF M8 C8 C7 C5 M6 lx ly k67 k68 k7 k8 kd hbd hHeld y0 y1 y2 y3 y4 y5 f0 f1 f2 f3
          go_wp2
          exact bodyPost_ret (v := .tuple #[.string ⟨(Lib.decDigits (st n r (NN N - 1)).2.1).toArray⟩, .string ⟨(Lib.decDigits (st n r (NN N - 1)).2.2).toArray⟩, .agg #[.int .i64 0, .int .i64 0]]) (by simp [results, Tryz.results60, go_sem, z0, z1]) rfl ⟨HO.out, HKF.out⟩
        · have hs : CfM.sgn N = -1 := by unfold CfM.sgn; rw [if_neg (by omega)]
          rw [hs] at HNo
          have HOd : Hid (¬ N % 2 = 0) := by show ¬ _; omega
          clear hs hod
          go_wp2_with (go_at_call 74; refine (HNo.out _).mono ?_; rintro e w' ⟨rfl, hw'⟩; rw [hw']; clear hw' w'; refine Hid.out ?_)
          refine Lib.hid ?_
          generalize hW4 : ((w3.setCell ⟨w.heap.size, 0, none⟩ (.int .i64 0)).setCell ⟨w.heap.size, 1, none⟩ (.int .i64 0)) = W4 at HM4 HIS4 ⊢
          have HRp : Hid (Calls Tryz.prog 124 #[.slice a N c, .int .i64 2] W4 fun e w' => ∃ g, e = .returned (.slice (some ⟨g, 0, none⟩) (2 * N) (2 * N)) ∧ IS w' (.slice (some ⟨g, 0, none⟩) (2 * N) (2 * N)) (nz (kl r (cs n r) N ++ kl r (cs n r) N)) ∧ Below W4.heap.size W4 w') := Repeat_two (kl r (cs n r) N) a c N W4 (kl_len _ _ _) hN1 (by omega) HIS4.out
          clear hW4 f0 f1 f2 f3 HNo
          go_wp2_with fail
          refine HRp.out.mono ?_
          rintro e w6 ⟨g, rfl, his6, k6⟩
          have MX := HM4.out.below k6
          obtain ⟨N2, hN2e⟩ : ∃ N2, N2 = 2 * N := ⟨_, rfl⟩
          rw [← hN2e] at his6 ⊢
          have hNN : NN N = N2 := by unfold NN; rw [if_neg HOd.out, hN2e]
          have HLn : Hid ((kl r (cs n r) N ++ kl r (cs n r) N).length = NN N) := by show _ = _; rw [List.length_append, kl_len, hNN, hN2e]; omega
          have HSm : Hid (∀ i, (kl r (cs n r) N ++ kl r (cs n r) N).getD i 0 ≤ 2000) := fun i => kl_two_small HRn.out hn N i
          have HGt : Hid (∀ i, i < NN N - 1 → (kl r (cs n r) N ++ kl r (cs n r) N).getD i 0 = cl n r i) := fun i hi => kl_two_get HRn.out hN1 HF.out.2.2.1 i (by omega)
          have HCp : Hid (∀ a' k' c', Value.slice (some ⟨g, 0, none⟩) N2 N2 = .slice a' k' c' → k' ≤ c') := fun a' k' c' h => by simp only [Value.slice.injEq] at h; omega
          have HIS6 : Hid (IS w6 (.slice (some ⟨g, 0, none⟩) N2 N2) (nz (kl r (cs n r) N ++ kl r (cs n r) N))) := his6
          clear HM4 HIS4 HRp his6 k6 hN2e hNN
          have HCl : Hid (∀ W, Below w6.heap.size w6 W → Calls Tryz.prog 72 #[.agg #[.int .i64 (n : Int), .int .i64 (r : Int), .int .i64 0, .int .i64 1], .int .i64 1, (.slice (some ⟨g,0,none⟩) N2 N2)] W fun e w' => ∃ a b, e = .returned (.agg #[a, b]) ∧ LN w' a (st n r (NN N - 1)).2.1 ∧ LN w' b (st n r (NN N - 1)).2.2 ∧ Below W.heap.size W w') := fun W k => by
            have := climb_any n r 0 1 r (n - r * r) 1 (kl r (cs n r) N ++ kl r (cs n r) N) ((.slice (some ⟨g,0,none⟩) N2 N2)) W HCp.out (cs_sq HRn.out hn).first (by omega) (by omega) (HIS6.out.belowL k) (by rw [HLn.out]; unfold NN; split <;> omega) (by rw [HLn.out]; unfold NN; split <;> omega) (fun i => by have := HSm.out i; omega)
            rw [Nat.one_mul, Nat.div_one, HLn.out, cb_st HGt.out (NN N - 1) (Nat.le_refl _)] at this
            exact this
          have x0 := MX.s.cell 0
          have x1 := MX.s.cell 1
          have x2 := MX.s.cell 2
          have x3 := MX.s.cell 3
          simp only [sgc, List.getElem?_cons_zero, List.getElem?_cons_succ] at x0 x1 x2 x3
          have HMX : Hid (Pm w.heap.size w1.heap.size n r 0 1 0 0 w w6) := MX
          clear MX
          go_wp2_with fail
          refine (HCl.out _ (Below.refl _ _)).mono ?_
          rintro e w5 ⟨vx, vy, rfl, lx, ly, k5⟩
          obtain ⟨ax, nx, cx, rfl⟩ := lx.slice
          obtain ⟨ay, ny, cy, rfl⟩ := ly.slice
          have M5 := HMX.out.below k5
          have ka := ((Below.refl w5.heap.size w5).alloc (Nat.le_refl _) (.cells #[.slice ax nx cx, .slice ay ny cy] 120))
          have C5 := Cl.new [.slice ax nx cx, .slice ay ny cy] 120 w5
          have M6 := M5.below ka
          have lx := lx.below ka
          have ly := ly.below ka
          clear x0 x1 x2 x3 HCl k5 M5
          go_wp2
          generalize hW6 : w5.alloc (.cells #[.slice ax nx cx, .slice ay ny cy] 120) = W6 at C5 M6 lx ly ka ⊢
          generalize hB6 : w5.heap.size = B6 at C5 ⊢
          clear hW6 hB6 ka
          have y0 := C5.cell 0
          have y1 := C5.cell 1
          simp at y0 y1
          have HTX : Hid (Tq W6) := HT.out.below M6.k
          have hbd := st_lt HRn.out (by omega) (NN N - 1)
          have hNNb : NN N ≤ 2000 ∧ 1 ≤ NN N := by unfold NN; split <;> omega
          refine wp_region_G (fun w' => w'.cell? ⟨B6, 0, none⟩ = some (.slice ax nx cx) ∧ w'.cell? ⟨B6, 1, none⟩ = some (.slice ay ny cy)) 9 (by kernel_rfl) ⟨y0, y1⟩ (fun hHeld => ?_)
          refine wpAnyG_take (i := 0) (v := ?v0x6) rfl (by kernel_rfl) (fun _ _ _ h => h) (Or.inl ⟨by rfl, ?y0x6⟩) hHeld ?r0x6
          case y0x6 => (intro wS hSw; obtain ⟨t1, t2⟩ := hSw; go_simp; try with_reducible rfl)
          try simp only [Act.put, List.setIfInBounds_toArray, List.set_cons_zero, List.set_cons_succ]
          refine wpAnyG_take (i := 1) (v := ?v1x7) rfl (by kernel_rfl) (fun _ _ _ h => h) (Or.inl ⟨by rfl, ?y1x7⟩) hHeld ?r1x7
          case y1x7 => (intro wS hSw; obtain ⟨t1, t2⟩ := hSw; go_simp; try with_reducible rfl)
          try simp only [Act.put, List.setIfInBounds_toArray, List.set_cons_zero, List.set_cons_succ]
          refine wpAnyG_take (i := 3) (v := ?v3x8) rfl (by kernel_rfl) (fun _ _ _ h => h) (Or.inl ⟨by rfl, ?y3x8⟩) hHeld ?r3x8
          case y3x8 => (intro wS hSw; obtain ⟨t1, t2⟩ := hSw; go_simp; try with_reducible rfl)
          try simp only [Act.put, List.setIfInBounds_toArray, List.set_cons_zero, List.set_cons_succ]
          refine wpAnyG_take (i := 4) (v := ?v4x9) rfl (by kernel_rfl) (fun _ _ _ h => h) (Or.inl ⟨by rfl, ?y4x9⟩) hHeld ?r4x9
          case y4x9 => (intro wS hSw; obtain ⟨t1, t2⟩ := hSw; go_simp; try with_reducible rfl)
          try simp only [Act.put, List.setIfInBounds_toArray, List.set_cons_zero, List.set_cons_succ]
          refine wpAnyG_take (i := 6) (v := ?v6x10) rfl (by kernel_rfl) (fun _ _ _ h => h) (Or.inl ⟨by rfl, ?y6x10⟩) hHeld ?r6x10
          case y6x10 => (intro wS hSw; obtain ⟨t1, t2⟩ := hSw; go_simp; try with_reducible rfl)
          try simp only [Act.put, List.setIfInBounds_toArray, List.set_cons_zero, List.set_cons_succ]
          refine wpAnyG_one (i := 2) rfl (by kernel_rfl) (fun K hK => ?_)
          go_simp
          have kd : Below W6.heap.size W6 W6.drew := (Below.refl _ _).drew
          refine (String_any _ _ (NN N - 1 + 1) _ (lx.below kd) hbd.2.2.1 (by omega) (by omega) (HTX.out.below kd)).mono ?_
          rintro e w7 ⟨rfl, k7⟩
          have k67 : Below W6.heap.size W6 w7 := kd.trans k7
          have C7 := C5.below k67
          have y2 := C7.cell 0
          have y3 := C7.cell 1
          simp at y2 y3
          refine hK.out _ _ ⟨y2, y3⟩ ?_
          clear hK K
          try simp only [Act.put, List.setIfInBounds_toArray, List.set_cons_zero, List.set_cons_succ]
          clear hHeld
          have hHeld : w7.cell? ⟨B6, 0, none⟩ = some (.slice ax nx cx) ∧ w7.cell? ⟨B6, 1, none⟩ = some (.slice ay ny cy) := ⟨y2, y3⟩
          refine wpAnyG_one (i := 5) rfl (by kernel_rfl) (fun K hK => ?_)
          go_simp
          refine (String_any _ _ (NN N - 1 + 1) _ (ly.below k67) hbd.2.2.2 (by omega) (by omega) (HTX.out.below k67)).mono ?_
          rintro e w8 ⟨rfl, k8⟩
          have k68 : Below W6.heap.size W6 w8 := k67.trans (k8.mono k67.size)
          have C8 := C5.below k68
          have M8 := M6.below k68
          have y4 := C8.cell 0
          have y5 := C8.cell 1
          simp at y4 y5
          refine hK.out _ _ ⟨y4, y5⟩ ?_
          clear hK K
          try simp only [Act.put, List.setIfInBounds_toArray, List.set_cons_zero, List.set_cons_succ]
          clear hHeld
          have hHeld : w8.cell? ⟨B6, 0, none⟩ = some (.slice ax nx cx) ∧ w8.cell? ⟨B6, 1, none⟩ = some (.slice ay ny cy) := ⟨y4, y5⟩
          have f0 := M8.f.cell 0
          have f1 := M8.f.cell 1
          have f2 := M8.f.frozen 0
          have f3 := M8.f.frozen 1
          simp at f0 f1
          refine wpAnyG_one (i := 7) rfl (by kernel_rfl) (fun K hK => ?_)
          go_simp
          refine hK.out _ _ hHeld ?_
          clear hK K
          try simp only [Act.put, List.setIfInBounds_toArray, List.set_cons_zero, List.set_cons_succ]
          refine wpAnyG_one (i := 8) rfl (by kernel_rfl) (fun K hK => ?_)
          go_simp
          refine hK.out _ _ hHeld ?_
          clear hK K
          try simp only [Act.put, List.setIfInBounds_toArray, List.set_cons_zero, List.set_cons_succ]
          refine wpAnyG_last (i := 9) rfl (by kernel_rfl) (by kernel_rfl) (fun K hK => ?_)
          go_simp
          refine hK.out _ _ ?_
          clear hK K
          try simp only [Act.put, List.setIfInBounds_toArray, List.set_cons_zero, List.set_cons_succ]
          refine wpAnyG_done (by kernel_rfl) ?_ _
          have HO : Hid (PeOut (n : Int) (.returned (.tuple #[.string ⟨(Lib.decDigits (st n r (NN N - 1)).2.1).toArray⟩, .string ⟨(Lib.decDigits (st n r (NN N - 1)).2.2).toArray⟩, .agg #[.int .i64 0, .int .i64 0]]))) := .inr (.inr ⟨n, r, rfl, hn, HRn.out, .inr ⟨N, HF.out, rfl⟩⟩)
          have Z := (M8.f.set 0 (.int .i64 0)).set 1 (.int .i64 0)
          have KF := (M8.k.setCell (p := ⟨w.heap.size, 0, none⟩) (Nat.le_refl _) (.int .i64 0)).setCell (p := ⟨w.heap.size, 1, none⟩) (Nat.le_refl _) (.int .i64 0)
          have z0 := Z.cell 0
          have z1 := Z.cell 1
          simp at z0 z1
          generalize hWF : ((w8.setCell ⟨w.heap.size, 0, none⟩ (.int .i64 0)).setCell ⟨w.heap.size, 1, none⟩ (.int .i64 0)) = WF at z0 z1 KF ⊢
          have HKF : Hid (Below w.heap.size w WF) := KF
          clear Z KF hWF M8 C8 C7 C5 M6 lx ly k67 k68 k7 k8 kd hbd hHeld y0 y1 y2 y3 y4 y5 f0 f1 f2 f3
          go_wp2
          exact bodyPost_ret (v := .tuple #[.string ⟨(Lib.decDigits (st n r (NN N - 1)).2.1).toArray⟩, .string ⟨(Lib.decDigits (st n r (NN N - 1)).2.2).toArray⟩, .agg #[.int .i64 0, .int .i64 0]]) (by simp [results, Tryz.results60, go_sem, z0, z1]) rfl ⟨HO.out, HKF.out⟩
      · omega
    · have HCy : Hid (∀ w, Calls Tryz.prog 71 #[.agg #[.int .i64 (n : Int), .int .i64 (r : Int), .int .i64 0, .int .i64 1]] w (CyPost r (cs n r) 1001 w)) := fun w => cycle_any n r 0 1 1001 (cs n r) (cs_sq HRn.out hn) (decide ((cs n r 1000).2 = 1)) (by omega) (by omega) (fun h => by simpa using h) (fun i hi => hno i (by omega)) (fun h => by simpa using h) (fun _ => rfl) w
      have HO : Hid (PeOut (n : Int) (.returned (.tuple #[.string ⟨#[]⟩, .string ⟨#[]⟩, .agg #[.int .i64 9, .int .i64 0]]))) := .inr (.inr ⟨n, r, rfl, hn, HRn.out, .inl ⟨hno, rfl⟩⟩)
      have hne1 : w1.heap.size ≠ w.heap.size := by have := M0.h5; omega
      have hne2 : w.heap.size ≠ w1.heap.size := by have := M0.h5; omega
      clear hno
      unfold sgv
      go_wp2_with fail
      generalize hW2 : (((w1.alloc (.cells #[.int .i64 (n : Int), .int .i64 (r : Int), .int .i64 0, .int .i64 1] 110)).setCell ⟨w.heap.size, 0, none⟩ (.int .i64 0)).setCell ⟨w.heap.size, 1, none⟩ (.int .i64 0)) = W2 at M0 ⊢
      refine (HCy.out W2).mono ?_
      rintro e w3 ⟨k3, ⟨h, _⟩ | ⟨_, rfl⟩⟩
      · omega
      · have M3 := M0.below k3
        have f0 := M3.f.cell 0
        have f1 := M3.f.cell 1
        have f2 := M3.f.frozen 0
        have f3 := M3.f.frozen 1
        simp at f0 f1
        have M4 : Pm w.heap.size w1.heap.size n r 0 1 9 0 w ((w3.setCell ⟨w.heap.size, 0, none⟩ (.int .i64 9)).setCell ⟨w.heap.size, 1, none⟩ (.int .i64 0)) :=
          ⟨(M3.f.set 0 _).set 1 _, (M3.s.other (by simp; omega) _).other (by simp; omega) _, (M3.k.setCell (Nat.le_refl _) _).setCell (Nat.le_refl _) _, M3.h5⟩
        have HM4 : Hid (Pm w.heap.size w1.heap.size n r 0 1 9 0 w ((w3.setCell ⟨w.heap.size, 0, none⟩ (.int .i64 9)).setCell ⟨w.heap.size, 1, none⟩ (.int .i64 0))) := M4
        clear M0 M3 M4 k3 hW2 HCy e0 e1 g0 g1
        go_wp2
        generalize hW4 : ((w3.setCell ⟨w.heap.size, 0, none⟩ (.int .i64 9)).setCell ⟨w.heap.size, 1, none⟩ (.int .i64 0)) = W4 at HM4 ⊢
        clear f0 f1 f2 f3 hW4
        have f0 := HM4.out.f.cell 0
        have f1 := HM4.out.f.cell 1
        have f2 := HM4.out.f.frozen 0
        have f3 := HM4.out.f.frozen 1
        simp at f0 f1
        go_region
        all_goals
          go_wp2
          have Z := ((HM4.out.f.set 0 (.int .i64 9)).set 1 (.int .i64 0)).drew
          have KF := ((HM4.out.k.setCell (p := ⟨w.heap.size, 0, none⟩) (Nat.le_refl _) (.int .i64 9)).setCell (p := ⟨w.heap.size, 1, none⟩) (Nat.le_refl _) (.int .i64 0)).drew
          have z0 := Z.cell 0
          have z1 := Z.cell 1
          simp at z0 z1
          exact bodyPost_ret (v := .tuple #[.string ⟨#[]⟩, .string ⟨#[]⟩, .agg #[.int .i64 9, .int .i64 0]]) (by simp [results, Tryz.results60, go_sem, z0, z1]) rfl ⟨HO.out, KF⟩

end Go.Proofs.YtfbgblidlabipaaGreatDoor
end

section
/- The program: cont.Surd. -/
set_option linter.unusedSimpArgs false
set_option linter.unusedVariables false
set_option maxRecDepth 100000
namespace Go.Proofs.YtfbgblidlabipaaGreatDoor
open Go.RowKit LgM CfM

/-- What Surd answers: the first, the list and the fault. -/
def SuOut (d : Int) (e : Ending) (w' : World) : Prop :=
  ((d < 2 ∨ 1000000 < d) ∧ e = .returned (.tuple #[.int .i64 0, .slice none 0 0, .agg #[.int .i64 3, .int .i64 0]])) ∨
  ((∃ r : Nat, (2 ≤ d ∧ d ≤ 1000000) ∧ (r : Int) * r = d) ∧ e = .returned (.tuple #[.int .i64 0, .slice none 0 0, .agg #[.int .i64 7, .int .i64 0]])) ∨
  (∃ n r : Nat, d = n ∧ n ≤ 1000000 ∧ Rn n r ∧ (((∀ i, i < 1000 → (cs n r i).2 ≠ 1) ∧ e = .returned (.tuple #[.int .i64 0, .slice none 0 0, .agg #[.int .i64 9, .int .i64 0]])) ∨
    ∃ N a c, Fst n r N ∧ e = .returned (.tuple #[.int .i64 (r : Int), .slice a N c, .agg #[.int .i64 0, .int .i64 0]]) ∧ IS w' (.slice a N c) (nz (kl r (cs n r) N))))

end Go.Proofs.YtfbgblidlabipaaGreatDoor
end
