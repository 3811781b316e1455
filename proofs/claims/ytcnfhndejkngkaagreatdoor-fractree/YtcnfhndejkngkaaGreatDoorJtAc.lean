import Derived.Test.YtcnfhndejkngkaaGreatDoorJtAb
import Derived.Test.YtcnfhndejkngkaaGreatDoorOrM
import Derived.Deep.LoopGhost
section
/- hang.Moebius of every number up to 1000000. -/
set_option linter.unusedSimpArgs false
set_option linter.unusedVariables false
set_option maxRecDepth 100000
namespace Go.Proofs.YtcnfhndejkngkaaGreatDoor
open Go.RowKit
theorem pvals_at : ∀ (T : List (Int × Int)) (i : Nat), i < T.length → (pvals T)[i * 2]? = some (.int .i64 (T.getD i (0, 0)).1) ∧ (pvals T)[i * 2 + 1]? = some (.int .i64 (T.getD i (0, 0)).2) := by
  intro T
  induction T with
  | nil => intro i h; simp at h
  | cons x T ih =>
    intro i h
    cases i with
    | zero => simp [pvals]
    | succ i =>
      have := ih i (by simpa using h)
      rw [show (i + 1) * 2 = i * 2 + 1 + 1 by omega]
      simpa [pvals] using this

theorem stepT_len (T : List (Int × Int)) (p : Int) : (stepT T p).length ≤ T.length + 1 := by
  rcases List.eq_nil_or_concat T with h | ⟨T', q, h⟩
  · subst h; simp [stepT]
  · subst h
    obtain ⟨q, t⟩ := q
    rw [List.concat_eq_append]
    by_cases hq : q = p
    · subst hq; rw [stepT_same]; simp
    · rw [stepT_new _ _ _ _ hq]; simp
theorem tly_len (l : List Int) : (tly l).length ≤ l.length := by
  have : ∀ (l : List Int) (T : List (Int × Int)), (l.foldl stepT T).length ≤ T.length + l.length := by
    intro l
    induction l with
    | nil => intro T; simp
    | cons a l ih =>
      intro T
      have h1 := ih (stepT T a)
      have h2 := stepT_len T a
      simp only [List.foldl_cons, List.length_cons]
      omega
  have h := this l []
  simpa [tly] using h

end Go.Proofs.YtcnfhndejkngkaaGreatDoor
end

section
/- hang.Phi of every number up to 1000000. -/
set_option linter.unusedSimpArgs false
set_option linter.unusedVariables false
set_option maxRecDepth 100000
namespace Go.Proofs.YtcnfhndejkngkaaGreatDoor
open Go.RowKit

set_option maxHeartbeats 1000000 in
theorem phe_any (p T : Nat) (w : World) (hp : 2 ≤ p) (hb : p * p ^ T ≤ 1000000) (hT : T ≤ 1000) (z : Nat) (hz : z = (p - 1) * p ^ T) (T1 : Nat) (hT1 : T1 = T + 1) :
    Calls Tryz.prog 167 #[.agg #[.int .i64 (p : Int), .int .i64 (T1 : Int)]] w fun e w' => e = .returned (.int .i64 (z : Int)) ∧ Below w.heap.size w w' := by
  obtain ⟨P1, hP1⟩ : ∃ P, P = p - 1 := ⟨_, rfl⟩
  have eP : (p : Int) - 1 = (P1 : Int) := by omega
  have hp6 : p ≤ 1000000 := by
    have : 1 ≤ p ^ T := Nat.one_le_pow _ _ (by omega)
    have := Nat.mul_le_mul_left p this
    omega
  have HB : Hid (∀ i, i ≤ T → P1 * p ^ i ≤ 1000000) := fun i hi => by
    have h1 : p ^ i ≤ p ^ T := Nat.pow_le_pow_right (by omega) hi
    have := Nat.mul_le_mul (show P1 ≤ p by omega) h1
    omega
  have HZ : Hid (z = P1 * p ^ T) := by show _ = _; rw [hz, hP1]
  have hP6 : P1 ≤ 1000000 := by omega
  have eT : (T1 : Int) - 1 = (T : Int) := by omega
  obtain ⟨b1, hb1⟩ : ∃ b, b = w.heap.size := ⟨_, rfl⟩
  obtain ⟨W0, hW0⟩ : ∃ W, W = w.alloc (.cells #[.int .i64 (p : Int), .int .i64 (T1 : Int)] 189) := ⟨_, rfl⟩
  have X : Cl b1 [.int .i64 (p : Int), .int .i64 (T1 : Int)] 189 W0 := by rw [hW0, hb1]; exact Cl.new [.int .i64 (p : Int), .int .i64 (T1 : Int)] _ w
  have q0 : W0.cell? ⟨b1, 0, none⟩ = some (.int .i64 (p : Int)) := by simpa using X.cell 0
  have q1 : W0.cell? ⟨b1, 1, none⟩ = some (.int .i64 (T1 : Int)) := X.cell 1
  have HK : Hid (Below w.heap.size w W0) := by show Below _ _ _; rw [hW0]; exact (Below.refl _ _).alloc (Nat.le_refl _) _
  clear X hz hP1 hb hT1
  go_enter Tryz.func167, Tryz.ntmps167
  go_wp2
  rw [← hW0]
  simp only [← hb1]
  clear hW0 hb1
  go_loopg [3, 10] T (fun gk uv iv wx => ∃ i : Nat, uv = .int .i64 ((P1 * p ^ i : Nat) : Int) ∧ iv = .int .i64 (i : Int) ∧ Hid (gk = T - i ∧ i ≤ T ∧ wx = W0))
  case atStart => exact ⟨0, by rw [Nat.pow_zero, Nat.mul_one], rfl, by omega, by omega, rfl⟩
  case round =>
    obtain ⟨i, rfl, rfl, HR⟩ := hrel
    obtain ⟨h1, h2, rfl⟩ := HR.out
    have HG : Hid (gk = T - i) := h1
    clear HR h1
    by_cases hi : i < T
    · have ti : decide ((i : Int) < (T : Int)) = true := decide_eq_true (by omega)
      obtain ⟨U, hU⟩ : ∃ U, U = P1 * p ^ i := ⟨_, rfl⟩
      obtain ⟨V, hV⟩ : ∃ V, V = P1 * p ^ (i + 1) := ⟨_, rfl⟩
      have eV : (U : Int) * (p : Int) = (V : Int) := by rw [hU, hV, Nat.pow_succ, ← Nat.mul_assoc]; push_cast; rfl
      have lV : V ≤ 1000000 := by rw [hV]; exact HB.out _ (by omega)
      have HV : Hid (V = P1 * p ^ (i + 1)) := hV
      rw [← hU]
      clear hU hV
      go_wp2
      go_roundg (T - (i + 1))
      case rel => exact ⟨i + 1, by rw [← HV.out], by go_num, rfl, by omega, rfl⟩
      case measure => have := HG.out; omega
    · have ti : decide ((i : Int) < (T : Int)) = false := decide_eq_false (by omega)
      obtain rfl : i = T := by omega
      rw [← HZ.out]
      go_wp2
      go_ret
      exact ⟨rfl, HK.out⟩

set_option maxHeartbeats 2000000 in
theorem product_phi (T : List (Int × Int)) (a : Option Addr) (c B n : Nat) (w : World) (hT : OR.Tp T) (h6 : OR.pwT T ≤ 1000000) (hn : n = T.length) (hn50 : n ≤ 50) (hr : w.ownsRow B 189 2 (.slice a n c) n (pvals T)) :
    Calls Tryz.prog 176 #[.slice a n c, .func (.func 167) #[] #[]] w fun e w' => e = .returned (.int .i64 ((OR.phN T : Nat) : Int)) ∧ Below w.heap.size w w' := by
  have HC : Hid (∀ i, i < n → ∃ g, a = some ⟨g, 0, none⟩ ∧ g < w.heap.size ∧ w.cell? ⟨g, i * 2, none⟩ = some (.int .i64 (T.getD i (0, 0)).1) ∧ w.cell? ⟨g, i * 2 + 1, none⟩ = some (.int .i64 (T.getD i (0, 0)).2)) := by
    intro i hi
    obtain ⟨n', hn'⟩ : ∃ n', n = n' + 1 := ⟨n - 1, by omega⟩
    subst hn'
    obtain ⟨g, cap, he⟩ := ownsRow_succ hr
    simp only [Value.slice.injEq] at he
    obtain ⟨rfl, _, rfl⟩ := he
    obtain ⟨h1, h2⟩ := pvals_at T i (by omega)
    exact ⟨g, rfl, (hr.lt g rfl).2, by rw [hr.cellAt (i * 2) (by omega)]; exact h1, by rw [hr.cellAt (i * 2 + 1) (by omega)]; exact h2⟩
  have HN : Hid (n = T.length) := hn
  have HT : Hid (OR.Tp T ∧ OR.pwT T ≤ 1000000) := ⟨hT, h6⟩
  clear hr hn hT h6
  go_enter Tryz.func176, Tryz.ntmps176
  go_wp2
  go_loopw [5, 10] (fun av iv wx => ∃ (i : Nat), i ≤ n ∧ iv = .int .i64 i ∧ av = .int .i64 ((OR.phN (T.take i) : Nat) : Int) ∧ Hid (Below w.heap.size w wx)) (fun _ iv _ => n - (intOf iv).toNat)
  case atStart => exact ⟨0, Nat.zero_le _, rfl, rfl, Below.refl _ _⟩
  case round =>
    obtain ⟨i, hi, rfl, rfl, HR⟩ := hrel
    by_cases hlt : i < n
    · obtain ⟨g, rfl, hg, c0, c1⟩ := HC.out i hlt
      obtain ⟨p, t, hx, hp, ht⟩ := HT.out.1.mem (T.getD i (0, 0)) (by
        rw [List.getD_eq_getElem?_getD, List.getElem?_eq_getElem (by have := HN.out; omega)]
        exact List.getElem_mem _)
      obtain ⟨s, rfl⟩ : ∃ s, t = s + 1 := ⟨t - 1, by omega⟩
      have hpq : OR.pq (T.getD i (0, 0)) ≤ 1000000 := by
        have h1 := OR.pq_mem T (T.getD i (0, 0)) (by
          rw [List.getD_eq_getElem?_getD, List.getElem?_eq_getElem (by have := HN.out; omega)]
          exact List.getElem_mem _)
        have h2 := (OR.phN_le T HT.out.1)
        have := Nat.le_of_dvd (by omega) h1
        have := HT.out.2
        omega
      have epq : OR.pq (T.getD i (0, 0)) = p * p ^ s := by
        rw [hx]; unfold OR.pq; simp only [Int.toNat_natCast]; rw [Nat.pow_succ, Nat.mul_comm]
      have epf : OR.pf (T.getD i (0, 0)) = (p - 1) * p ^ s := by
        rw [hx]; unfold OR.pf; simp only [Int.toNat_natCast]; rfl
      have hs : s ≤ 1000 := by
        have h1 : s < 2 ^ s := Nat.lt_two_pow_self
        have h2 : 2 ^ s ≤ p ^ s := Nat.pow_le_pow_left hp.1 _
        have h3 : 2 * p ^ s ≤ p * p ^ s := Nat.mul_le_mul_right _ hp.1
        have h4 : p ^ s ≤ 500000 := by omega
        rcases Nat.lt_or_ge 1000 s with h5 | h5
        · have h6 : (2 : Nat) ^ 20 ≤ 2 ^ s := Nat.pow_le_pow_right (by decide) (by omega)
          have h7 : (2 : Nat) ^ 20 = 1048576 := by decide
          omega
        · exact h5
      obtain ⟨z, hz⟩ : ∃ z, z = (p - 1) * p ^ s := ⟨_, rfl⟩
      have HY : Hid (∀ w, Calls Tryz.prog 167 #[.agg #[.int .i64 (p : Int), .int .i64 ((s + 1 : Nat) : Int)]] w fun e w' => e = .returned (.int .i64 (z : Int)) ∧ Below w.heap.size w w') := fun w => phe_any p s w hp.1 (by rw [← epq]; exact hpq) hs z hz (s + 1) rfl
      rw [hx] at c0 c1
      have d0 : wr.cell? ⟨g, i * 2, none⟩ = some (.int .i64 (p : Int)) := (HR.out.cell (p := ⟨g, i * 2, none⟩) hg).trans c0
      have d1 : wr.cell? ⟨g, i * 2 + 1, none⟩ = some (.int .i64 ((s + 1 : Nat) : Int)) := (HR.out.cell (p := ⟨g, i * 2 + 1, none⟩) hg).trans c1
      obtain ⟨U, hU⟩ : ∃ U, U = OR.phN (T.take i) := ⟨_, rfl⟩
      obtain ⟨V, hV⟩ : ∃ V, V = OR.phN (T.take (i + 1)) := ⟨_, rfl⟩
      have eV : (U : Int) * (z : Int) = (V : Int) := by
        rw [hU, hV, hz, OR.phN_take T i (by have := HN.out; omega), epf]; push_cast; rfl
      have lV : V ≤ 1000000 := by
        rw [hV]
        have := (OR.phN_take_le HT.out.1 (i + 1)).2
        have := (OR.phN_le T HT.out.1).2
        have := HT.out.2
        omega
      have HV : Hid (V = OR.phN (T.take (i + 1))) := hV
      obtain ⟨s1, hs1⟩ : ∃ s1 : Nat, s1 = s + 1 := ⟨_, rfl⟩
      rw [← hs1] at d1 HY
      rw [← hU]
      clear hU hV hz hx c0 c1 hg hp ht hpq epq epf hs hs1
      go_wp2_with fail
      refine (HY.out _).mono ?_
      rintro e w2 ⟨rfl, k2⟩
      have HK2 : Hid (Below w.heap.size w w2) := HR.out.trans ((((Below.refl _ wr).alloc (Nat.le_refl _) _).trans (k2.mono (by simp))).mono HR.out.size)
      clear k2
      go_wp2
      go_roundw
      case rel => exact ⟨i + 1, by omega, by go_num, by rw [← HV.out], HK2.out⟩
      case measure => simp [intOf]; omega
    · obtain rfl : i = n := by omega
      have HZ : Hid (OR.phN (T.take i) = OR.phN T) := by show _ = _; rw [HN.out, List.take_length]
      rw [HZ.out]
      go_wp2
      go_ret
      exact ⟨rfl, HR.out⟩

set_option maxHeartbeats 2000000 in
/-- Euler's function: of d with the primes fs. -/
theorem Phi_any (d : Nat) (fs : List Int) (hfs : Pmv fs) (hl50 : fs.length ≤ 50) (hprd : prd fs = (d : Int)) (hd6 : d ≤ 1000000) (w : World) (hT : Tb w) :
    Calls Tryz.prog 155 #[.int .i64 d] w fun e w' => e = .returned (.tuple #[.int .i64 ((OR.phN (tly fs) : Nat) : Int), .agg #[.int .i64 0, .int .i64 0]]) ∧ Below w.heap.size w w' := by
  obtain ⟨t1, t2, _⟩ := OR.tly_tp fs hfs
  have htl : (tly fs).length ≤ 50 := by
    have := tly_len fs
    omega
  have HFc : Hid (∀ w, Tb w → Calls Tryz.prog 156 #[.int .i64 d] w (FctPost fs w)) := fun w h => Factor_pm fs d hfs hl50 hprd.symm (by omega) w h
  have HT : Hid (Tb w) := hT
  obtain ⟨n, hn⟩ : ∃ n, n = (tly fs).length := ⟨_, rfl⟩
  have HNN : Hid (n = (tly fs).length) := hn
  have HTp : Hid (OR.Tp (tly fs) ∧ OR.pwT (tly fs) ≤ 1000000) := ⟨t1, by rw [hprd] at t2; omega⟩
  have hn50 : n ≤ 50 := by omega
  obtain ⟨z, hz⟩ : ∃ z, z = OR.phN (tly fs) := ⟨_, rfl⟩
  have HZ : Hid (z = OR.phN (tly fs)) := hz
  rw [← hz]
  clear hfs hprd hl50 t1 t2 htl hT hn hz
  have HPO : Hid (∀ w, Tb w → Calls Tryz.prog 166 #[.int .i64 d, .func (.func 167) #[] #[]] w fun e w' => e = .returned (.tuple #[.int .i64 (z : Int), .agg #[.int .i64 0, .int .i64 0]]) ∧ Below w.heap.size w w') := by
    intro w hTw
    have HTw : Hid (Tb w) := hTw
    clear hTw
    go_enter Tryz.func166, Tryz.ntmps166
    go_wp2_with fail
    refine (HFc.out _ (HTw.out.alloc _)).mono ?_
    rintro e w1 ⟨a, c, rfl, row, k1⟩
    rw [← HNN.out] at row ⊢
    have F0 := (Cl.new [.int .i64 0, .int .i64 0] 25 w).below k1
    have ka := ((Below.refl w1.heap.size w1).alloc (Nat.le_refl _) (.cells #[.int .i64 0, .int .i64 0] 25))
    have row2 : (w1.alloc (.cells #[.int .i64 0, .int .i64 0] 25)).ownsRow (w.alloc (.cells #[.int .i64 0, .int .i64 0] 25)).heap.size 189 2 (.slice a n c) n (pvals (tly fs)) := row.alloc _
    have F1 := F0.below ka
    have K1 : Below w.heap.size w (w1.alloc (.cells #[.int .i64 0, .int .i64 0] 25)) := (((Below.refl _ w).alloc (Nat.le_refl _) _).trans (k1.mono (by simp))).trans (ka.mono (by have := k1.size; simp at this; omega))
    have HRow : Hid ((w1.alloc (.cells #[.int .i64 0, .int .i64 0] 25)).ownsRow (w.alloc (.cells #[.int .i64 0, .int .i64 0] 25)).heap.size 189 2 (.slice a n c) n (pvals (tly fs))) := row2
    have HF1 : Hid (Cl w.heap.size [.int .i64 0, .int .i64 0] 25 (w1.alloc (.cells #[.int .i64 0, .int .i64 0] 25))) := F1
    have HK1 : Hid (Below w.heap.size w (w1.alloc (.cells #[.int .i64 0, .int .i64 0] 25))) := K1
    clear row row2 F0 F1 K1 ka k1
    go_wp2_with fail
    generalize hW2 : (w1.alloc (.cells #[.int .i64 0, .int .i64 0] 25)) = W2 at HRow HF1 HK1 ⊢
    refine (product_phi (tly fs) a c _ n W2 HTp.out.1 HTp.out.2 HNN.out hn50 HRow.out).mono ?_
    rw [← HZ.out]
    rintro e w3 ⟨rfl, k3⟩
    have F3 := HF1.out.below k3
    have f0 := F3.cell 0
    have f1 := F3.cell 1
    have f2 := F3.frozen 0
    have f3 := F3.frozen 1
    simp at f0 f1
    have HF3 : Hid (Cl w.heap.size [.int .i64 0, .int .i64 0] 25 w3) := F3
    have HK3 : Hid (Below w.heap.size w w3) := HK1.out.trans (k3.mono (by have := HF1.out.lt; omega))
    clear F3 k3
    go_wp2
    have Z := (HF3.out.set 0 (.int .i64 0)).set 1 (.int .i64 0)
    have z0 := Z.cell 0
    have z1 := Z.cell 1
    simp at z0 z1
    exact bodyPost_ret (v := .tuple #[.int .i64 z, .agg #[.int .i64 0, .int .i64 0]]) (by simp [results, Tryz.results166, go_sem, z0, z1]) rfl ⟨rfl, (HK3.out.setCell (Nat.le_refl _) _).setCell (Nat.le_refl _) _⟩
  go_enter Tryz.func155, Tryz.ntmps155
  go_wp2_with fail
  refine (HPO.out _ (HT.out.alloc _)).mono ?_
  rintro e w1 ⟨rfl, k1⟩
  have F0 := (Cl.new [.int .i64 0, .int .i64 0] 25 w).below k1
  have f0 := F0.cell 0
  have f1 := F0.cell 1
  have f2 := F0.frozen 0
  have f3 := F0.frozen 1
  simp at f0 f1
  have HF3 : Hid (Cl w.heap.size [.int .i64 0, .int .i64 0] 25 w1) := F0
  have HK3 : Hid (Below w.heap.size w w1) := ((Below.refl _ w).alloc (Nat.le_refl _) _).trans (k1.mono (by simp))
  clear F0 k1
  go_wp2
  have Z := (HF3.out.set 0 (.int .i64 0)).set 1 (.int .i64 0)
  have z0 := Z.cell 0
  have z1 := Z.cell 1
  simp at z0 z1
  exact bodyPost_ret (v := .tuple #[.int .i64 z, .agg #[.int .i64 0, .int .i64 0]]) (by simp [results, Tryz.results155, go_sem, z0, z1]) rfl ⟨rfl, (HK3.out.setCell (Nat.le_refl _) _).setCell (Nat.le_refl _) _⟩
end Go.Proofs.YtcnfhndejkngkaaGreatDoor
end
