/- The laws' example of package partition: partitionBegun, out of what is asked of Count and Odd. -/
import Derived.Test.YtmifenflbaohnaaGreatDoorPtG
import Derived.Test.YtmifenflbaohnaaGreatDoorJnB
import Derived.Test.YtmifenflbaohnaaGreatDoorTxA
set_option linter.unusedSimpArgs false
set_option linter.unusedVariables false
set_option maxRecDepth 100000
namespace Go.Proofs.YtmifenflbaohnaaGreatDoor
open Go.RowKit LgM

theorem pt_100 : PT.pt 100 100 = 190569292 := by
  have h := PT.pt_ok (n := 100) (by omega)
  unfold PT.okp at h
  simp only [Bool.and_eq_true, Bool.or_eq_true, Bool.not_eq_true'] at h
  rcases h.2.2.2.2.2.2 with h | h
  · simp at h
  · exact Nat.eq_of_beq_eq_true h
theorem dec_100 : Lib.decDigits 190569292 = [49, 57, 48, 53, 54, 57, 50, 57, 50] := by
  rw [dec_ge (by decide), dec_ge (by decide), dec_ge (by decide), dec_ge (by decide), dec_ge (by decide), dec_ge (by decide), dec_ge (by decide), dec_ge (by decide), dec_lt (by decide)]
  rfl
/-- What does not rise is told by its counts. -/
theorem dn_eq : ∀ (a b : List Int), (∀ j, j + 1 < a.length → a.getD (j + 1) 0 ≤ a.getD j 0) → (∀ j, j + 1 < b.length → b.getD (j + 1) 0 ≤ b.getD j 0) → (∀ x, PT.cnt a x = PT.cnt b x) → a = b
  | [], [], _, _, _ => rfl
  | [], y :: b, _, _, h => by have := h y; simp [PT.cnt] at this
  | x :: a, [], _, _, h => by have := h x; simp [PT.cnt] at this
  | x :: a, y :: b, ha, hb, h => by
    have top : ∀ (x : Int) (a : List Int), (∀ j, j + 1 < (x :: a).length → (x :: a).getD (j + 1) 0 ≤ (x :: a).getD j 0) → ∀ z ∈ x :: a, z ≤ x := by
      intro x a
      induction a generalizing x with
      | nil => intro _ z hz; simp at hz; omega
      | cons u a ih =>
        intro hd z hz
        have h1 := hd 0 (by simp)
        simp at h1
        rcases List.mem_cons.1 hz with e | e
        · omega
        · have := ih u (fun j hj => by have := hd (j + 1) (by simp at hj ⊢; omega); simpa using this) z e
          omega
    have mem : ∀ (l : List Int) (z : Int), 0 < PT.cnt l z ↔ z ∈ l := fun l z => by
      unfold PT.cnt
      rw [List.countP_pos_iff]
      constructor
      · rintro ⟨u, hu, e⟩; simp at e; rw [← e]; exact hu
      · intro hz; exact ⟨z, hz, by simp⟩
    have e1 : x ≤ y := top y b hb x ((mem _ _).1 (by rw [← h x]; exact (mem _ _).2 List.mem_cons_self))
    have e2 : y ≤ x := top x a ha y ((mem _ _).1 (by rw [h y]; exact (mem _ _).2 List.mem_cons_self))
    obtain rfl : x = y := by omega
    congr 1
    refine dn_eq a b (fun j hj => ?_) (fun j hj => ?_) (fun z => ?_)
    · have := ha (j + 1) (by simp; omega); simpa using this
    · have := hb (j + 1) (by simp; omega); simpa using this
    · have := h z
      unfold PT.cnt at this ⊢
      rw [List.countP_cons, List.countP_cons] at this
      omega
theorem od_61 : PT.od 6 = 3 ∧ PT.p2 6 = 2 ∧ PT.od 1 = 1 ∧ PT.p2 1 = 1 := by
  have a := PT.od_even (x := 6) (by decide) (by decide)
  have b := PT.p2_even (x := 6) (by decide) (by decide)
  have c := PT.od_odd (x := 3) (by decide)
  have d := PT.p2_odd (x := 3) (by decide)
  rw [show 6 / 2 = 3 by decide] at a b
  exact ⟨a.trans c, by rw [b, d], PT.od_odd (by decide), PT.p2_odd (by decide)⟩
theorem gl_61 {o : List Int} (h : PT.Gl [6, 1] o) : o = [3, 3, 1] := by
  obtain ⟨e1, e2, e3, e4⟩ := od_61
  refine dn_eq o [3, 3, 1] h.od (fun j hj => ?_) (fun x => ?_)
  · match j, hj with
    | 0, _ => decide
    | 1, _ => decide
  · have hw : ∀ n : Nat, PT.wsum [6, 1] (n : Int) = (if (3 : Int) = n then 2 else 0) + ((if (1 : Int) = n then 1 else 0) + 0) := fun n => by
      unfold PT.wsum
      simp only [List.map_cons, List.map_nil, List.sum_cons, List.sum_nil]
      rw [show (6 : Int).toNat = 6 from rfl, show (1 : Int).toNat = 1 from rfl, e1, e2, e3, e4]
      rfl
    have h331 : PT.cnt [3, 3, 1] x = (if (3 : Int) = x then 2 else 0) + ((if (1 : Int) = x then 1 else 0) + 0) := by
      unfold PT.cnt
      by_cases a : x = 3
      · subst a; rfl
      · by_cases b : x = 1
        · subst b; rfl
        · rw [if_neg (fun e => a e.symm), if_neg (fun e => b e.symm)]
          have a' : ((3 : Int) == x) = false := beq_eq_false_iff_ne.2 (fun e => a e.symm)
          have b' : ((1 : Int) == x) = false := beq_eq_false_iff_ne.2 (fun e => b e.symm)
          simp [List.countP_cons, a', b']
    by_cases hx : ∃ n : Nat, x = (n : Int) ∧ n ≤ 2000 ∧ n % 2 = 1
    · obtain ⟨n, rfl, h1, h2⟩ := hx
      rw [h.ct n h1 h2, hw n, h331]
    · have z : PT.cnt o x = 0 := by
        rcases Nat.eq_zero_or_pos (PT.cnt o x) with q | q
        · exact q
        · exfalso
          unfold PT.cnt at q
          have q := List.countP_pos_iff.1 q
          obtain ⟨u, hu, e⟩ := q
          obtain ⟨j, hj, ej⟩ := List.getElem_of_mem hu
          have hb := h.ob j hj
          have e' : u = x := by simpa using e
          have e3 : o.getD j 0 = x := by rw [List.getD_eq_getElem?_getD, List.getElem?_eq_getElem hj, ← e']; exact ej
          rw [e3] at hb
          exact hx ⟨x.toNat, by omega, by omega, by omega⟩
      rw [z, h331, if_neg (fun e => hx ⟨3, by omega, by omega, by omega⟩), if_neg (fun e => hx ⟨1, by omega, by omega, by omega⟩)]

set_option maxRecDepth 100000 in
set_option maxHeartbeats 4000000 in
theorem partitionBegun_of (hOd : ∀ (v : Value) (l : List Int) (w : World), IS w v l → I64 l → Calls Tryz.prog 13 #[v] w fun e w' => ∃ v', e = .returned (.tuple #[v', .agg #[.int .i64 (PT.odf l).1, .int .i64 (PT.odf l).2]]) ∧ OutO w'.heap.size l v' (PT.odf l).1 w' ∧ Below w.heap.size w w') (w : World) (hCt : Calls Tryz.prog 4 #[.int .i64 100] w fun e w' => e = .returned (.tuple #[.string ⟨(Lib.decDigits (PT.pt 100 100)).toArray⟩, .agg #[.int .i64 0, .int .i64 0]]) ∧ Below w.heap.size w w') :
    Calls Tryz.prog 5 #[] w fun e w' => e = .returned (.bool true) ∧ Below w.heap.size w w' := by
  rw [pt_100, dec_100] at hCt
  have HCt : Hid (Calls Tryz.prog 4 #[.int .i64 100] w fun e w' => e = .returned (.tuple #[.string ⟨[49, 57, 48, 53, 54, 57, 50, 57, 50].toArray⟩, .agg #[.int .i64 0, .int .i64 0]]) ∧ Below w.heap.size w w') := hCt
  have hl : PT.odf [6, 1] = (0, 0) := by decide
  have HOd : Hid (∀ v w, IS w v [6, 1] → Calls Tryz.prog 13 #[v] w fun e w' => ∃ v', e = .returned (.tuple #[v', .agg #[.int .i64 0, .int .i64 0]]) ∧ IS w' v' [3, 3, 1] ∧ Below w.heap.size w w') := fun v w h => by
    have := hOd v [6, 1] w h ⟨by simp, fun x hx => by simp at hx; omega⟩
    rw [hl] at this
    refine this.mono ?_
    rintro e w' ⟨v', rfl, ho, k⟩
    rcases ho with ⟨h0, _⟩ | ⟨_, o, h1, h2, h3⟩
    · exact absurd rfl h0
    · rw [gl_61 h3] at h1
      exact ⟨v', rfl, h1.is (Nat.le_refl _), k⟩
  clear hOd hCt hl
  go_enter Tryz.func5, Tryz.ntmps5
  go_wp2_with fail
  refine HCt.out.mono ?_
  rintro e w1 ⟨rfl, k1⟩
  go_wp2_with fail
  obtain ⟨b2, hb2⟩ : ∃ b, w1.heap.size = b := ⟨_, rfl⟩
  have kb := below_one w1 (.cells #[.int .i64 0, .int .i64 0] 23)
  have kc := below_one (w1.alloc (.cells #[.int .i64 0, .int .i64 0] 23)) (.cells #[.int .i64 6, .int .i64 1] 3)
  obtain ⟨W3, hW3⟩ : ∃ W, (w1.alloc (.cells #[.int .i64 0, .int .i64 0] 23)).alloc (.cells #[.int .i64 6, .int .i64 1] 3) = W := ⟨_, rfl⟩
  have K3 : Hid (Sv b2 0 0 W3 ∧ Below w.heap.size w W3 ∧ IS W3 (.slice (some ⟨w1.heap.size + 1, 0, none⟩) 2 2) [6, 1]) := by
    show _ ∧ _
    have C := Cl.new [.int .i64 6, .int .i64 1] 3 (w1.alloc (.cells #[.int .i64 0, .int .i64 0] 23))
    rw [World.size_alloc] at C
    rw [← hW3]
    refine ⟨(Sv.fresh 0 0 hb2).below kc, (k1.trans (kb.mono k1.size)).trans (kc.mono (k1.trans (kb.mono k1.size)).size), ⟨_, w1.heap.size + 1, 0, 2, rfl, fun _ => rfl, fun i hi => ?_, fun _ => C.lt⟩⟩
    match i, hi with
    | 0, _ => exact C.cell 0
    | 1, _ => exact C.cell 1
  rw [hb2] at K3
  rw [hW3, hb2]
  clear hW3 hb2 kb kc k1 HCt
  refine (HOd.out _ _ K3.out.2.2).mono ?_
  rintro e w4 ⟨vo, rfl, hv, k4⟩
  have K4 : Hid (Sv b2 0 0 w4 ∧ Below w.heap.size w w4 ∧ IS w4 vo [3, 3, 1]) := ⟨K3.out.1.below k4, K3.out.2.1.trans (k4.mono K3.out.2.1.size), hv⟩
  clear k4 hv K3 HOd
  have z0 : ∀ o : Obj, (w4.alloc o).cell? ⟨b2, 0, none⟩ = some (.int .i64 0) := fun o => (K4.out.1.below (below_one w4 o)).c0
  go_wp2_with fail
  have kb := below_one w4 (.cells #[.int .i64 0, .int .i64 0] 23)
  have kc := below_one (w4.alloc (.cells #[.int .i64 0, .int .i64 0] 23)) (.cells #[.int .i64 3, .int .i64 3, .int .i64 1] 3)
  have kk := kb.trans (kc.mono kb.size)
  have C := Cl.new [.int .i64 3, .int .i64 3, .int .i64 1] 3 (w4.alloc (.cells #[.int .i64 0, .int .i64 0] 23))
  rw [World.size_alloc] at C
  have KI := K4.out.2.1.trans (kk.mono K4.out.2.1.size)
  refine (ints_yes _ _ [3, 3, 1] _ (K4.out.2.2.belowP kk) ⟨_, w4.heap.size + 1, 0, 3, rfl, fun _ => rfl, fun i hi => ?_, fun _ => C.lt⟩ (by decide)).mono ?_
  · match i, hi with
    | 0, _ => exact C.cell 0
    | 1, _ => exact C.cell 1
    | 2, _ => exact C.cell 2
  rintro e w6 ⟨rfl, k6⟩
  have K6 : Hid (Below w.heap.size w w6) := KI.trans (k6.mono KI.size)
  clear kb kc kk C KI k6 z0
  go_wp2
  go_ret
  exact ⟨rfl, K6.out⟩

end Go.Proofs.YtmifenflbaohnaaGreatDoor
