/- The program: cont.checkList, Fold. -/
import Derived.Test.YtaflfbofkeppjaaGreatDoorCnF
set_option linter.unusedSimpArgs false
set_option linter.unusedVariables false
set_option maxRecDepth 100000
namespace Go.Proofs.YtaflfbofkeppjaaGreatDoor
open Go.RowKit

/-- May x stand at place i of a list? -/
def okE (i : Nat) (x : Int) : Bool := numB x && (decide (i = 0) || decide (1 ≤ x))
/-- The fault of the first that may not. -/
def lf : Nat → List Int → Int × Int
  | _, [] => (0, 0)
  | i, x :: r => if okE i x = true then lf (i + 1) r else (3, i)
theorem lf_skip (xs : List Int) (k : Nat) (hk : k ≤ xs.length) (h : ∀ j, j < k → okE j (xs.getD j 0) = true) : lf 0 xs = lf k (xs.drop k) := by
  induction k with
  | zero => rfl
  | succ n ih =>
    rw [ih (by omega) (fun j hj => h j (by omega)), List.drop_eq_getElem_cons (by omega), lf]
    have := h n (by omega)
    rw [List.getD_eq_getElem?_getD, List.getElem?_eq_getElem (by omega), Option.getD_some] at this
    rw [if_pos this]
theorem lf_none (xs : List Int) (h : ∀ j, j < xs.length → okE j (xs.getD j 0) = true) : lf 0 xs = (0, 0) := by
  rw [lf_skip xs xs.length (Nat.le_refl _) h, List.drop_length]; rfl
theorem lf_hit (xs : List Int) (k : Nat) (hk : k < xs.length) (h : ∀ j, j < k → okE j (xs.getD j 0) = true) (hb : okE k (xs.getD k 0) = false) : lf 0 xs = (3, (k : Int)) := by
  rw [lf_skip xs k (by omega) h, List.drop_eq_getElem_cons hk, lf]
  rw [List.getD_eq_getElem?_getD, List.getElem?_eq_getElem hk, Option.getD_some] at hb
  rw [if_neg (by simp [hb])]
theorem lf_all (xs : List Int) (h : lf 0 xs = (0, 0)) : ∀ j, j < xs.length → okE j (xs.getD j 0) = true := by
  intro j
  induction j using Nat.strongRecOn with
  | _ j ih =>
    intro hj
    cases hb : okE j (xs.getD j 0)
    · have := lf_hit xs j hj (fun i hi => ih i hi (by omega)) hb
      rw [h] at this
      cases this
    · rfl
/-- What is wrong with a list. -/
def lfault (l : List Int) : Int × Int := if 1000 < l.length then (2, 0) else if l.length = 0 then (5, 0) else lf 0 l
theorem lfault_fl {l : List Int} (h : lfault l = (0, 0)) : Fl l := by
  unfold lfault at h
  split at h
  · cases h
  · split at h
    · cases h
    · have a := lf_all l h
      refine ⟨by omega, by omega, fun i hi => ?_, fun i h0 hi => ?_⟩
      · have := a i hi
        unfold okE at this
        rw [Bool.and_eq_true] at this
        have := numB_true this.1
        omega
      · have := a i hi
        unfold okE at this
        rw [Bool.and_eq_true, Bool.or_eq_true, decide_eq_true_iff, decide_eq_true_iff] at this
        omega
theorem okE_bad0 {k : Nat} {x : Int} (h : numB x = false) : okE k x = false := by unfold okE; rw [h]; rfl
theorem okE_bad {k : Nat} {x : Int} (hk : 0 < k) (hx : x < 1) : okE k x = false := by
  unfold okE
  rw [decide_eq_false (by omega), decide_eq_false (by omega)]
  cases numB x <;> rfl
theorem okE_first {x : Int} (h : numB x = true) : okE 0 x = true := by unfold okE; rw [h]; rfl
theorem okE_good {k : Nat} {x : Int} (h : numB x = true) (hx : 1 ≤ x) : okE k x = true := by
  unfold okE
  rw [h, decide_eq_true hx]
  cases decide (k = 0) <;> rfl

/-- A slice shows the list l. -/
def Shows (v : Value) (l : List Int) (w : World) : Prop := (l = [] ∧ ∃ p c, v = .slice p 0 c) ∨ ∃ b o c, v = .slice (some ⟨b, o, none⟩) l.length c ∧ Rw b o l w
theorem Shows.below {v : Value} {l : List Int} {w W : World} (h : Shows v l w) (k : Below w.heap.size w W) : Shows v l W := by
  rcases h with h | ⟨b, o, c, h1, h2⟩
  · exact .inl h
  · exact .inr ⟨b, o, c, h1, h2.below k⟩

set_option maxHeartbeats 2000000 in
theorem checkList_any (l : List Int) (v : Value) (w : World) (hv : Shows v l w) (hl : l.length ≤ 1000000000000000) :
    Calls Tryz.prog 64 #[v] w fun e w' => e = .returned (.agg #[.int .i64 (lfault l).1, .int .i64 (lfault l).2]) ∧ Below w.heap.size w w' := by
  obtain ⟨L, hL⟩ : ∃ L, L = l.length := ⟨_, rfl⟩
  by_cases h1 : 1000 < L
  · have e : lfault l = (2, 0) := by unfold lfault; rw [if_pos (by omega)]
    rw [e]
    have hs : ∃ b o c, v = .slice (some ⟨b, o, none⟩) L c := by
      rcases hv with ⟨h, _⟩ | ⟨b, o, c, h, _⟩
      · rw [h] at hL; simp at hL; omega
      · exact ⟨b, o, c, by rw [hL]; exact h⟩
    obtain ⟨b, o, c, rfl⟩ := hs
    clear hv e
    go_enter Tryz.func64, Tryz.ntmps64
    go_wp2
    exact bodyPost_ret (v := .agg #[.int .i64 2, .int .i64 0]) (by simp [results, Tryz.results64, go_sem]) rfl ⟨rfl, (Below.refl _ _).alloc (Nat.le_refl _) _⟩
  by_cases h0 : L = 0
  · have e : lfault l = (5, 0) := by unfold lfault; rw [if_neg (by omega), if_pos (by omega)]
    rw [e]
    have hs : ∃ p c, v = .slice p 0 c := by
      rcases hv with ⟨_, h⟩ | ⟨b, o, c, h, _⟩
      · exact h
      · exact ⟨_, c, by rw [h, ← hL, h0]⟩
    obtain ⟨p, c, rfl⟩ := hs
    clear hv e h0 h1 hL
    go_enter Tryz.func64, Tryz.ntmps64
    go_wp2
    exact bodyPost_ret (v := .agg #[.int .i64 5, .int .i64 0]) (by simp [results, Tryz.results64, go_sem]) rfl ⟨rfl, (Below.refl _ _).alloc (Nat.le_refl _) _⟩
  have e : lfault l = lf 0 l := by unfold lfault; rw [if_neg (by omega), if_neg (by omega)]
  rw [e]
  obtain ⟨b, o, cap, rfl, hR⟩ : ∃ b o c, v = .slice (some ⟨b, o, none⟩) L c ∧ Rw b o l w := by
    rcases hv with ⟨h, _⟩ | ⟨b, o, c, h, h2⟩
    · rw [h] at hL; simp at hL; omega
    · exact ⟨b, o, c, by rw [hL]; exact h, h2⟩
  have HR : Hid (Rw b o l w) := hR
  have HL : Hid (L = l.length) := hL
  have hLz : ((L : Int) == 0) = false := beq_eq_false_iff_ne.2 (by omega)
  have hLg : decide ((1000 : Int) < (L : Int)) = false := decide_eq_false (by omega)
  have hL1 : L ≤ 1000 := by omega
  clear hv hR e hL h1 h0 hl
  go_enter Tryz.func64, Tryz.ntmps64
  go_wp2
  go_loop [15] (fun i => ∃ k : Nat, k ≤ L ∧ i = .int .i64 k ∧ Hid (∀ j, j < k → okE j (l.getD j 0) = true)) (fun i => L - (intOf i).toNat)
  case atStart => exact ⟨0, Nat.zero_le _, rfl, fun j hj => absurd hj (Nat.not_lt_zero _)⟩
  case round =>
    obtain ⟨k, hk, rfl, HOK⟩ := hrel
    by_cases hlt : k < L
    · have hck := HR.out.2 k (by rw [← HL.out]; exact hlt)
      obtain ⟨x, hx⟩ : ∃ x, x = l.getD k 0 := ⟨_, rfl⟩
      rw [← hx] at hck
      have HX : Hid (x = l.getD k 0) := hx
      have hbl := HR.out.1
      clear hx
      cases hn : numB x
      · have HBad : Hid (okE k (l.getD k 0) = false) := by show _ = _; rw [← HX.out]; exact okE_bad0 hn
        go_wp2_with (go_at_call 107; refine (isNumber_any _ _).mono ?_; rintro e w' ⟨rfl, rfl⟩)
        refine bodyPost_ret (v := .agg #[.int .i64 3, .int .i64 k]) (by simp [results, Tryz.results64, go_sem]) rfl ⟨?_, ?_⟩
        · rw [lf_hit l k (by rw [← HL.out]; exact hlt) HOK.out HBad.out]
        · exact Below.alloc (Below.refl _ _) (Nat.le_refl _) _
      · rcases Nat.eq_zero_or_pos k with hk0 | hk0
        · subst hk0
          simp only [Nat.add_zero] at hck
          have HG : Hid (okE 0 (l.getD 0 0) = true) := by show _ = _; rw [← HX.out]; exact okE_first hn
          go_wp2_with (go_at_call 107; refine (isNumber_any _ _).mono ?_; rintro e w' ⟨rfl, rfl⟩)
          go_round
          case rel =>
            refine ⟨0 + 1, by omega, by go_num, fun j hj => ?_⟩
            by_cases hjk : j = 0
            · subst hjk; exact HG.out
            · exact HOK.out j (by omega)
          case measure => simp [intOf]; omega
        · rcases Int.lt_or_le x 1 with hx1 | hx1
          · have HBad : Hid (okE k (l.getD k 0) = false) := by show _ = _; rw [← HX.out]; exact okE_bad hk0 hx1
            go_wp2_with (go_at_call 107; refine (isNumber_any _ _).mono ?_; rintro e w' ⟨rfl, rfl⟩)
            refine bodyPost_ret (v := .agg #[.int .i64 3, .int .i64 k]) (by simp [results, Tryz.results64, go_sem]) rfl ⟨?_, ?_⟩
            · rw [lf_hit l k (by rw [← HL.out]; exact hlt) HOK.out HBad.out]
            · exact Below.alloc (Below.refl _ _) (Nat.le_refl _) _
          · have HG : Hid (okE k (l.getD k 0) = true) := by show _ = _; rw [← HX.out]; exact okE_good hn hx1
            go_wp2_with (go_at_call 107; refine (isNumber_any _ _).mono ?_; rintro e w' ⟨rfl, rfl⟩)
            go_round
            case rel =>
              refine ⟨k + 1, by omega, by go_num, fun j hj => ?_⟩
              by_cases hjk : j = k
              · subst hjk; exact HG.out
              · exact HOK.out j (by omega)
            case measure => simp [intOf]; omega
    · go_wp2
      refine bodyPost_ret (v := .agg #[.int .i64 0, .int .i64 0]) (by simp [results, Tryz.results64, go_sem]) rfl ⟨?_, ?_⟩
      · rw [lf_none l (fun j hj => HOK.out j (by have := HL.out; omega))]
      · exact Below.alloc (Below.refl _ _) (Nat.le_refl _) _

/-- What Fold answers. -/
def FoOut (l : List Int) (e : Ending) : Prop :=
  (lfault l ≠ (0, 0) ∧ e = .returned (.tuple #[.agg #[.int .i64 0, .int .i64 0], .agg #[.int .i64 (lfault l).1, .int .i64 (lfault l).2]])) ∨
  (lfault l = (0, 0) ∧ inM (CnQ.cf l).1 ∧ inM (CnQ.cf l).2 ∧ e = .returned (.tuple #[.agg #[.int .i64 (CnQ.cf l).1, .int .i64 (CnQ.cf l).2], .agg #[.int .i64 0, .int .i64 0]])) ∨
  (lfault l = (0, 0) ∧ ¬ (inM (CnQ.cf l).1 ∧ inM (CnQ.cf l).2) ∧ e = .returned (.tuple #[.agg #[.int .i64 0, .int .i64 0], .agg #[.int .i64 9, .int .i64 0]]))

theorem lfault_code (l : List Int) : (lfault l).1 = 0 → lfault l = (0, 0) := by
  intro h
  unfold lfault at h ⊢
  split
  · rename_i h1; rw [if_pos h1] at h; cases h
  · rename_i h1
    rw [if_neg h1] at h
    split
    · rename_i h2; rw [if_pos h2] at h; cases h
    · rename_i h2
      rw [if_neg h2] at h
      have : ∀ (xs : List Int) (i : Nat), (lf i xs).1 = 0 → lf i xs = (0, 0) := by
        intro xs
        induction xs with
        | nil => intro i _; rfl
        | cons x r ih =>
          intro i hi
          unfold lf at hi ⊢
          split
          · rename_i h3; rw [if_pos h3] at hi; exact ih _ hi
          · rename_i h3; rw [if_neg h3] at hi; cases hi
      exact this l 0 h

theorem six_end {h : Nat} {w W : World} {P Q c d : Int} (A : Cl h [.int .i64 0, .int .i64 0] 42 W) (B : Cl (h + 1) [.int .i64 0, .int .i64 0] 24 W) (K : Below h w W) :
    Cl h [.int .i64 P, .int .i64 Q] 42 ((((((W.setCell ⟨h, 0, none⟩ (.int .i64 P)).setCell ⟨h, 1, none⟩ (.int .i64 Q)).setCell ⟨h, 0, none⟩ (.int .i64 P)).setCell ⟨h, 1, none⟩ (.int .i64 Q)).setCell ⟨h + 1, 0, none⟩ (.int .i64 c)).setCell ⟨h + 1, 1, none⟩ (.int .i64 d)) ∧
    Cl (h + 1) [.int .i64 c, .int .i64 d] 24 ((((((W.setCell ⟨h, 0, none⟩ (.int .i64 P)).setCell ⟨h, 1, none⟩ (.int .i64 Q)).setCell ⟨h, 0, none⟩ (.int .i64 P)).setCell ⟨h, 1, none⟩ (.int .i64 Q)).setCell ⟨h + 1, 0, none⟩ (.int .i64 c)).setCell ⟨h + 1, 1, none⟩ (.int .i64 d)) ∧
    Below h w ((((((W.setCell ⟨h, 0, none⟩ (.int .i64 P)).setCell ⟨h, 1, none⟩ (.int .i64 Q)).setCell ⟨h, 0, none⟩ (.int .i64 P)).setCell ⟨h, 1, none⟩ (.int .i64 Q)).setCell ⟨h + 1, 0, none⟩ (.int .i64 c)).setCell ⟨h + 1, 1, none⟩ (.int .i64 d)) := by
  refine ⟨?_, ?_, ?_⟩
  · exact (((((A.set 0 (.int .i64 P)).set 1 (.int .i64 Q)).set 0 (.int .i64 P)).set 1 (.int .i64 Q)).other (p := ⟨h + 1, 0, none⟩) (by simp) _).other (p := ⟨h + 1, 1, none⟩) (by simp) _
  · have b := (((B.other (p := ⟨h, 0, none⟩) (by simp) (.int .i64 P)).other (p := ⟨h, 1, none⟩) (by simp) (.int .i64 Q)).other (p := ⟨h, 0, none⟩) (by simp) (.int .i64 P)).other (p := ⟨h, 1, none⟩) (by simp) (.int .i64 Q)
    exact (b.set 0 (.int .i64 c)).set 1 (.int .i64 d)
  · exact (((((K.setCell (by simp) _).setCell (by simp) _).setCell (by simp) _).setCell (by simp) _).setCell (by simp) _).setCell (by simp) _

set_option maxHeartbeats 2000000 in
theorem Fold_any (l : List Int) (v : Value) (w : World) (hv : Shows v l w) (hl : l.length ≤ 1000000000000000) :
    Calls Tryz.prog 17 #[v] w fun e w' => FoOut l e ∧ Below w.heap.size w w' := by
  obtain ⟨c, d, hcd⟩ : ∃ c d, lfault l = (c, d) := ⟨_, _, rfl⟩
  have HC : Hid (∀ w, Shows v l w → Calls Tryz.prog 64 #[v] w fun e w' => e = .returned (.agg #[.int .i64 c, .int .i64 d]) ∧ Below w.heap.size w w') := fun w hv => by
    have := checkList_any l v w hv hl
    rw [hcd] at this; exact this
  have HV : Hid (Shows v l w) := hv
  have HV2 : Hid (∀ W, Below w.heap.size w W → Shows v l W) := fun W k => hv.below k
  have HCD : Hid (lfault l = (c, d)) := hcd
  have hvs : ∃ p n c, v = .slice p n c := by
    rcases hv with ⟨_, p, c, h⟩ | ⟨b, o, c, h, _⟩
    · exact ⟨p, 0, c, h⟩
    · exact ⟨_, _, c, h⟩
  obtain ⟨p, n, cap, rfl⟩ := hvs
  by_cases hc0 : c = 0
  · have h00 : lfault l = (0, 0) := lfault_code l (by rw [hcd]; exact hc0)
    have hd0 : d = 0 := by rw [hcd] at h00; exact (Prod.mk.inj h00).2
    subst hc0 hd0
    have hfl := lfault_fl h00
    have hF : ∀ W, Below w.heap.size w W → Calls Tryz.prog 65 #[.slice p n cap] W fun e w' => Below W.heap.size W w' ∧
      (((inM (CnQ.cf l).1 ∧ inM (CnQ.cf l).2) ∧ e = .returned (.tuple #[.agg #[.int .i64 (CnQ.cf l).1, .int .i64 (CnQ.cf l).2], .bool true])) ∨ (¬ (inM (CnQ.cf l).1 ∧ inM (CnQ.cf l).2) ∧ e = .returned (.tuple #[.agg #[.int .i64 0, .int .i64 0], .bool false]))) := fun W k => by
      have hiff : (∀ i, i < l.length → inM (CnQ.cf (l.drop i)).1) ↔ (inM (CnQ.cf l).1 ∧ inM (CnQ.cf l).2) := by
        have := CnT.cf_all hfl.tl hfl.n0 (M := 1000000000000000000) (by omega)
        unfold inM
        rw [this]
        omega
      rcases HV2.out W k with ⟨h, _⟩ | ⟨b, o, c, h, hr⟩
      · have := hfl.n0; rw [h] at this; simp at this
      · rw [h]
        have := fold_any l b o c W hfl hr
        rw [hiff] at this
        exact this
    have HF : Hid (∀ W, Below w.heap.size w W → Calls Tryz.prog 65 #[.slice p n cap] W fun e w' => Below W.heap.size W w' ∧
      (((inM (CnQ.cf l).1 ∧ inM (CnQ.cf l).2) ∧ e = .returned (.tuple #[.agg #[.int .i64 (CnQ.cf l).1, .int .i64 (CnQ.cf l).2], .bool true])) ∨ (¬ (inM (CnQ.cf l).1 ∧ inM (CnQ.cf l).2) ∧ e = .returned (.tuple #[.agg #[.int .i64 0, .int .i64 0], .bool false])))) := hF
    obtain ⟨P, hP⟩ : ∃ P, P = (CnQ.cf l).1 := ⟨_, rfl⟩
    obtain ⟨Q, hQ⟩ : ∃ Q, Q = (CnQ.cf l).2 := ⟨_, rfl⟩
    rw [← hP, ← hQ] at HF
    have HPQ : Hid (P = (CnQ.cf l).1 ∧ Q = (CnQ.cf l).2) := ⟨hP, hQ⟩
    have H00 : Hid (lfault l = (0, 0)) := h00
    clear hv hcd hF hP hQ h00 hfl
    go_enter Tryz.func17, Tryz.ntmps17
    go_wp2_with fail
    have ka : Below w.heap.size w ((w.alloc (.cells #[.int .i64 0, .int .i64 0] 42)).alloc (.cells #[.int .i64 0, .int .i64 0] 24)) := ((Below.refl _ _).alloc (Nat.le_refl _) _).alloc (by simp) _
    refine (HC.out _ (HV2.out _ ka)).mono ?_
    rintro e w1 ⟨rfl, k1⟩
    have K1 : Below w.heap.size w w1 := ka.trans (k1.mono (by simp; omega))
    have c1 : Cl w.heap.size [.int .i64 0, .int .i64 0] 42 w1 := ((Cl.new [.int .i64 0, .int .i64 0] 42 w).alloc _).below k1
    have c2 : Cl (w.heap.size + 1) [.int .i64 0, .int .i64 0] 24 w1 := by
      have := Cl.new [.int .i64 0, .int .i64 0] 24 (w.alloc (.cells #[.int .i64 0, .int .i64 0] 42))
      rw [World.size_alloc] at this
      exact this.below k1
    have HK1 : Hid (Below w.heap.size w w1) := K1
    have HC1 : Hid (Cl w.heap.size [.int .i64 0, .int .i64 0] 42 w1 ∧ Cl (w.heap.size + 1) [.int .i64 0, .int .i64 0] 24 w1) := ⟨c1, c2⟩
    clear c1 c2 K1 k1 ka
    go_wp2_with fail
    obtain ⟨w2, hw2⟩ : ∃ w2, w2 = w1.alloc (.cells #[.int .i64 0, .int .i64 0] 24) := ⟨_, rfl⟩
    rw [← hw2]
    have HK2 : Hid (Below w.heap.size w w2) := by show Below _ _ _; rw [hw2]; exact HK1.out.alloc HK1.out.size _
    have HC2 : Hid (Cl w.heap.size [.int .i64 0, .int .i64 0] 42 w2 ∧ Cl (w.heap.size + 1) [.int .i64 0, .int .i64 0] 24 w2) := by show _ ∧ _; rw [hw2]; exact ⟨HC1.out.1.alloc _, HC1.out.2.alloc _⟩
    clear hw2
    refine (HF.out w2 HK2.out).mono ?_
    rintro e w3 ⟨k3, h3⟩
    have HK3 : Hid (Below w.heap.size w w3) := HK2.out.trans (k3.mono HK2.out.size)
    have a1 : Cl w.heap.size [.int .i64 0, .int .i64 0] 42 w3 := HC2.out.1.below k3
    have a2 : Cl (w.heap.size + 1) [.int .i64 0, .int .i64 0] 24 w3 := HC2.out.2.below k3
    have HA : Hid (Cl w.heap.size [.int .i64 0, .int .i64 0] 42 w3 ∧ Cl (w.heap.size + 1) [.int .i64 0, .int .i64 0] 24 w3) := ⟨a1, a2⟩
    have q1 := a1.cell 0
    have q2 := a1.cell 1
    have q3 := a2.cell 0
    have q4 := a2.cell 1
    have q5 := a1.frozen 0
    have q6 := a1.frozen 1
    have q7 := a2.frozen 0
    have q8 := a2.frozen 1
    simp only [List.getElem?_cons_zero, List.getElem?_cons_succ] at q1 q2 q3 q4
    clear k3 a1 a2 HC HF
    rcases h3 with ⟨hm, rfl⟩ | ⟨hm, rfl⟩
    · have HM : Hid (inM P ∧ inM Q) := hm
      clear hm
      go_wp2
      have hE := six_end (P := P) (Q := Q) (c := 0) (d := 0) HA.out.1 HA.out.2 HK3.out
      generalize ((((((w3.setCell ⟨w.heap.size, 0, none⟩ (.int .i64 P)).setCell ⟨w.heap.size, 1, none⟩ (.int .i64 Q)).setCell ⟨w.heap.size, 0, none⟩ (.int .i64 P)).setCell ⟨w.heap.size, 1, none⟩ (.int .i64 Q)).setCell ⟨w.heap.size + 1, 0, none⟩ (.int .i64 0)).setCell ⟨w.heap.size + 1, 1, none⟩ (.int .i64 0)) = WF at *
      have r1 := hE.1.cell 0
      have r2 := hE.1.cell 1
      have r3 := hE.2.1.cell 0
      have r4 := hE.2.1.cell 1
      simp only [List.getElem?_cons_zero, List.getElem?_cons_succ] at r1 r2 r3 r4
      refine bodyPost_ret (v := .tuple #[.agg #[.int .i64 P, .int .i64 Q], .agg #[.int .i64 0, .int .i64 0]]) (by simp [results, Tryz.results17, go_sem, r1, r2, r3, r4]) rfl ⟨.inr (.inl ⟨H00.out, ?_, ?_, ?_⟩), hE.2.2⟩
      · rw [← HPQ.out.1]; exact HM.out.1
      · rw [← HPQ.out.2]; exact HM.out.2
      · rw [← HPQ.out.1, ← HPQ.out.2]
    · have HM : Hid (¬ (inM P ∧ inM Q)) := hm
      clear hm
      go_wp2
      have hE := six_end (P := 0) (Q := 0) (c := 9) (d := 0) HA.out.1 HA.out.2 HK3.out
      generalize ((((((w3.setCell ⟨w.heap.size, 0, none⟩ (.int .i64 0)).setCell ⟨w.heap.size, 1, none⟩ (.int .i64 0)).setCell ⟨w.heap.size, 0, none⟩ (.int .i64 0)).setCell ⟨w.heap.size, 1, none⟩ (.int .i64 0)).setCell ⟨w.heap.size + 1, 0, none⟩ (.int .i64 9)).setCell ⟨w.heap.size + 1, 1, none⟩ (.int .i64 0)) = WF at *
      have r1 := hE.1.cell 0
      have r2 := hE.1.cell 1
      have r3 := hE.2.1.cell 0
      have r4 := hE.2.1.cell 1
      simp only [List.getElem?_cons_zero, List.getElem?_cons_succ] at r1 r2 r3 r4
      refine bodyPost_ret (v := .tuple #[.agg #[.int .i64 0, .int .i64 0], .agg #[.int .i64 9, .int .i64 0]]) (by simp [results, Tryz.results17, go_sem, r1, r2, r3, r4]) rfl ⟨.inr (.inr ⟨H00.out, ?_, rfl⟩), hE.2.2⟩
      rw [← HPQ.out.1, ← HPQ.out.2]; exact HM.out
  · have hne : (c != 0) = true := bne_iff_ne.2 hc0
    have HNe : Hid (lfault l ≠ (0, 0)) := fun h => hc0 (by rw [hcd] at h; exact (Prod.mk.inj h).1)
    clear hv hcd hc0
    go_enter Tryz.func17, Tryz.ntmps17
    go_wp2_with fail
    have ka : Below w.heap.size w ((w.alloc (.cells #[.int .i64 0, .int .i64 0] 42)).alloc (.cells #[.int .i64 0, .int .i64 0] 24)) := ((Below.refl _ _).alloc (Nat.le_refl _) _).alloc (by simp) _
    refine (HC.out _ (HV2.out _ ka)).mono ?_
    rintro e w1 ⟨rfl, k1⟩
    have K1 : Below w.heap.size w w1 := ka.trans (k1.mono (by simp; omega))
    have c1 : Cl w.heap.size [.int .i64 0, .int .i64 0] 42 w1 := ((Cl.new [.int .i64 0, .int .i64 0] 42 w).alloc _).below k1
    have c2 : Cl (w.heap.size + 1) [.int .i64 0, .int .i64 0] 24 w1 := by
      have := Cl.new [.int .i64 0, .int .i64 0] 24 (w.alloc (.cells #[.int .i64 0, .int .i64 0] 42))
      rw [World.size_alloc] at this
      exact this.below k1
    have HK1 : Hid (Below w.heap.size w w1) := K1
    have HC1 : Hid (Cl w.heap.size [.int .i64 0, .int .i64 0] 42 w1 ∧ Cl (w.heap.size + 1) [.int .i64 0, .int .i64 0] 24 w1) := ⟨c1, c2⟩
    clear c1 c2 K1 k1 ka
    go_wp2
    obtain ⟨W2, hW2⟩ : ∃ W2, W2 = w1.alloc (.cells #[.int .i64 c, .int .i64 d] 24) := ⟨_, rfl⟩
    rw [← hW2]
    have c1 : Cl w.heap.size [.int .i64 0, .int .i64 0] 42 W2 := by rw [hW2]; exact HC1.out.1.alloc _
    have c2 : Cl (w.heap.size + 1) [.int .i64 0, .int .i64 0] 24 W2 := by rw [hW2]; exact HC1.out.2.alloc _
    have c3 : Cl w1.heap.size [.int .i64 c, .int .i64 d] 24 W2 := by rw [hW2]; exact Cl.new [.int .i64 c, .int .i64 d] _ w1
    have HC2 : Hid (Cl w.heap.size [.int .i64 0, .int .i64 0] 42 W2 ∧ Cl (w.heap.size + 1) [.int .i64 0, .int .i64 0] 24 W2 ∧ Below w.heap.size w W2) := by refine ⟨c1, c2, ?_⟩; rw [hW2]; exact HK1.out.alloc HK1.out.size _
    have q1 := c1.cell 0
    have q2 := c1.cell 1
    have q3 := c2.cell 0
    have q4 := c2.cell 1
    have q5 := c1.frozen 0
    have q6 := c1.frozen 1
    have q7 := c2.frozen 0
    have q8 := c2.frozen 1
    have q9 := c3.cell 0
    have q10 := c3.cell 1
    simp only [List.getElem?_cons_zero, List.getElem?_cons_succ] at q1 q2 q3 q4 q9 q10
    have hz1 : w.heap.size + 1 < w1.heap.size := HC1.out.2.lt
    have hz2 : (w.heap.size == w1.heap.size) = false := beq_eq_false_iff_ne.2 (by omega)
    clear c1 c2 c3 hW2
    go_region
    all_goals
      go_wp2
      generalize hX : World.drew _ = X
      have e1 : Cl w.heap.size [.int .i64 0, .int .i64 0] 42 X := by
        rw [← hX]
        exact ((((HC2.out.1.set 0 (.int .i64 0)).set 1 (.int .i64 0)).other (p := ⟨w.heap.size + 1, 0, none⟩) (by simp) _).other (p := ⟨w.heap.size + 1, 1, none⟩) (by simp) _).drew
      have e2 : Cl (w.heap.size + 1) [.int .i64 c, .int .i64 d] 24 X := by
        rw [← hX]
        have h := (HC2.out.2.1.other (p := ⟨w.heap.size, 0, none⟩) (by simp) (.int .i64 0)).other (p := ⟨w.heap.size, 1, none⟩) (by simp) (.int .i64 0)
        exact ((h.set 0 (.int .i64 c)).set 1 (.int .i64 d)).drew
      have e3 : Below w.heap.size w X := by
        rw [← hX]
        refine Below.drew (Below.setCell (Below.setCell (Below.setCell (Below.setCell HC2.out.2.2 ?_ _) ?_ _) ?_ _) ?_ _) <;> simp
      have r1 := e1.cell 0
      have r2 := e1.cell 1
      have r3 := e2.cell 0
      have r4 := e2.cell 1
      simp only [List.getElem?_cons_zero, List.getElem?_cons_succ] at r1 r2 r3 r4
      exact bodyPost_ret (v := .tuple #[.agg #[.int .i64 0, .int .i64 0], .agg #[.int .i64 c, .int .i64 d]]) (by simp [results, Tryz.results17, go_sem, r1, r2, r3, r4]) rfl ⟨.inl ⟨HNe.out, by rw [HCD.out]⟩, e3⟩

end Go.Proofs.YtaflfbofkeppjaaGreatDoor
