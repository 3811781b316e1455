/- The reference: Legendre, and CurvePoints of small curves. -/
import Derived.Test.YtbeceimopamllaaDoorCuR
import Derived.Test.YtbeceimopamllaaDoorCuM
import Derived.Test.YtbeceimopamllaaDoorHsM
set_option linter.unusedSimpArgs false
set_option linter.unusedVariables false
set_option maxRecDepth 100000
namespace Go.Proofs.YtbeceimopamllaaDoor
open Go.RowKit EC

set_option maxHeartbeats 1000000 in
theorem Legendre_any (P g : Nat) (c : Nat) (w : World) (h : HS.Gen P g) (hP : P ≤ 2000) (hc : c ≤ 1000000000000) :
    Calls Tryd.prog 12 #[.int .i64 c, .int .i64 P] w fun e w' => e = .returned (.int .i64 ((HS.rt P (c % P) : Nat) - 1 : Int)) ∧ Below w.heap.size w w' := by
  have h5 := h.p5
  have HPw : Hid (∀ w, Calls Tryd.prog 28 #[.int .i64 c, .int .i64 ((P - 1) / 2 : Nat), .int .i64 P] w fun e w' => e = .returned (.int .i64 ((c ^ ((P - 1) / 2) % P : Nat) : Int)) ∧ Below w.heap.size w w') := fun w => by
    have := refPower_any c ((P - 1) / 2) P w (by omega) (by omega) (by omega) (by omega)
    rw [show ((c : Int) % (P : Int)).toNat = c % P by rw [← Int.natCast_emod, Int.toNat_natCast], ← Nat.pow_mod] at this
    exact this
  have he := HS.euler h c
  have hx : c ^ ((P - 1) / 2) % P < P := Nat.mod_lt _ (by omega)
  obtain ⟨X, hX⟩ : ∃ X, c ^ ((P - 1) / 2) % P = X := ⟨_, rfl⟩
  obtain ⟨r, hr⟩ : ∃ r, HS.rt P (c % P) = r := ⟨_, rfl⟩
  rw [hX] at HPw he hx
  rw [hr] at he ⊢
  obtain ⟨E, hE⟩ : ∃ E, (P - 1) / 2 = E := ⟨_, rfl⟩
  rw [hE] at HPw
  have e1 : (P : Int) - 1 = ((P - 1 : Nat) : Int) := by omega
  have e2 : ((P - 1 : Nat) : Int) / 2 = (E : Int) := by rw [← hE]; omega
  obtain ⟨Q, hQ⟩ : ∃ Q, P - 1 = Q := ⟨_, rfl⟩
  rw [hQ] at e1 e2 he
  have hEb : E ≤ 2000 := by omega
  clear hX hr hE h
  rcases he with ⟨h1, h2⟩ | ⟨h1, h2⟩
  · subst h1
    subst h2
    go_enter Tryd.func12, Tryd.ntmps12
    go_wp2_with fail
    refine (HPw.out _).mono ?_
    rintro e w1 ⟨rfl, k1⟩
    have HK : Hid (Below w.heap.size w w1) := k1
    clear k1
    go_wp2
    go_ret
    exact ⟨by simp, HK.out⟩
  · have t1 : ((X : Int) == (Q : Int)) = false := beq_eq_false_iff_ne.2 (by omega)
    have hret : ((r : Nat) : Int) - 1 = (X : Int) := by omega
    rw [hret]
    clear h1 h2 hret
    go_enter Tryd.func12, Tryd.ntmps12
    go_wp2_with fail
    refine (HPw.out _).mono ?_
    rintro e w1 ⟨rfl, k1⟩
    have HK : Hid (Below w.heap.size w w1) := k1
    clear k1
    go_wp2
    go_ret
    exact ⟨rfl, HK.out⟩

theorem hasB_nat {P : Nat} {a b : Int} (hc : Cv P a b) {x y : Nat} (hx : x < P) (hy : y < P) : hasB P a b ⟨x, y, false⟩ = (y * y % P == sqx P a b x) := by
  rw [Bool.eq_iff_iff]
  unfold hasB
  simp only [Bool.false_eq_true, if_false, Bool.and_eq_true, decide_eq_true_eq, beq_iff_eq]
  rw [sqx_int hc x]
  have e : (y : Int) * (y : Int) % (P : Int) = ((y * y % P : Nat) : Int) := by simp
  rw [e]
  constructor
  · rintro ⟨_, h⟩; omega
  · intro h; refine ⟨⟨⟨⟨by omega, by omega⟩, by omega⟩, by omega⟩, by omega⟩

/-- The row of x, up to y. -/
def rowy (P : Nat) (a b : Int) (x y : Nat) : List Pn := (sqs P (sqx P a b x) y).map fun v => ⟨x, v, false⟩
theorem rowy_succ (P : Nat) (a b : Int) (x y : Nat) : rowy P a b x (y + 1) = rowy P a b x y ++ (if y * y % P = sqx P a b x then [⟨x, y, false⟩] else []) := by
  unfold rowy
  rw [sqs_succ, List.map_append]
  congr 1
  split
  · rfl
  · rfl
theorem rowy_len (P : Nat) (a b : Int) (x y : Nat) : (rowy P a b x y).length ≤ y := by unfold rowy; rw [List.length_map]; exact sqs_len _ _ _

set_option maxHeartbeats 4000000 in
theorem refPoints_any (P : Nat) (a b : Int) (w : World) (hc : Cv P a b) :
    Calls Tryd.prog 13 #[.int .i64 P, .int .i64 a, .int .i64 b] w fun e w' => ∃ (aa : Option Addr) (cc : Nat), e = .returned (.slice aa (pts P a b P).length cc) ∧ Below w.heap.size w w' := by
  obtain ⟨k0, hk, hx0, hx1, hx2⟩ := info_parts Tryd.infoPt
  have HP : Hid (Tryd.prog.info? 30 = some k0 ∧ k0.zero = some (.agg #[.int .i64 0, .int .i64 0, .bool false]) ∧ k0.size = 3 ∧ k0.bytes = 24) := ⟨hk, hx0, hx1, hx2⟩
  have hp := hc.p2
  have hp5 := hc.p5
  have HC : Hid (Cv P a b) := hc
  have HR2 : Hid (Pq w.heap.size (pts P a b 0) (some ⟨w.heap.size, 0, none⟩) 1 w (w.alloc (.cells #[.int .i64 0, .int .i64 0, .bool true] 30))) :=
    ⟨⟨rfl, .inr ⟨w.heap.size, 1, #[.int .i64 0, .int .i64 0, .bool true], rfl, Nat.le_refl _, Cl.new (Pl farP) 30 w, by simp [pts], by unfold maxLen; omega, rfl, rfl⟩⟩, ala _ _⟩
  clear hk hx0 hx1 hx2 hc
  go_enter Tryd.func13, Tryd.ntmps13
  go_wp2
  go_loopw [7, 8] (fun lv xv wx => ∃ (x : Nat) (aa : Option Addr) (cc : Nat), x ≤ P ∧ lv = .slice aa (pts P a b x).length cc ∧ xv = .int .i64 x ∧ Hid (Pq w.heap.size (pts P a b x) aa cc w wx)) (fun _ xv _ => P - (intOf xv).toNat)
  case atStart => exact ⟨0, _, 1, by omega, rfl, rfl, HR2.out⟩
  case round =>
    obtain ⟨x, aa, cc, hx, rfl, rfl, HQ⟩ := hrel
    clear HR2
    by_cases hxl : x < P
    · have HQ4 : Hid (Pq w.heap.size (pts P a b x ++ rowy P a b x 0) aa cc w wr) := by
        show Pq _ _ _ _ _ _
        rw [show rowy P a b x 0 = [] from rfl, List.append_nil]; exact HQ.out
      have hlen : (pts P a b x).length ≤ 5000000 := by
        have h1 := pts_len P a b x
        have h2 : x * P ≤ 2000 * 2000 := Nat.mul_le_mul (by omega) hp
        omega
      have hst : (pts P a b x).length = (pts P a b x ++ rowy P a b x 0).length := by rw [show rowy P a b x 0 = [] from rfl, List.append_nil]
      clear HQ
      go_wp2
      go_loopw [7, 9] (fun lv yv wx => ∃ (y : Nat) (aa : Option Addr) (cc : Nat), y ≤ P ∧ lv = .slice aa (pts P a b x ++ rowy P a b x y).length cc ∧ yv = .int .i64 y ∧ Hid (Pq w.heap.size (pts P a b x ++ rowy P a b x y) aa cc w wx)) (fun _ yv _ => P - (intOf yv).toNat)
      case atStart => exact ⟨0, aa, cc, by omega, by rw [hst], rfl, HQ4.out⟩
      case round =>
        obtain ⟨y, ba, bc, hy, rfl, rfl, HJ⟩ := hrel
        clear HQ4 hst
        by_cases hyl : y < P
        · have HB : Hid (∀ w, Calls Tryd.prog 11 #[.int .i64 P, .int .i64 a, .int .i64 b, Pv ⟨x, y, false⟩] w fun e w' => e = .returned (.bool (y * y % P == sqx P a b x)) ∧ Below w.heap.size w w') := fun w => by
            have := refOnCurve_any P a b ⟨x, y, false⟩ w HC.out
            rw [hasB_nat HC.out hxl hyl] at this
            exact this
          unfold Pv at HB
          obtain ⟨l, hl⟩ : ∃ l, pts P a b x ++ rowy P a b x y = l := ⟨_, rfl⟩
          have hll : l.length ≤ 6000000 := by
            have := rowy_len P a b x y
            rw [← hl, List.length_append]
            omega
          have HS : Hid (pts P a b x ++ rowy P a b x (y + 1) = l ++ (if y * y % P = sqx P a b x then [⟨x, y, false⟩] else [])) := by
            show _ = _
            rw [rowy_succ, ← hl, List.append_assoc]
          rw [hl] at HJ ⊢
          have HJ1 : Hid (Pq w.heap.size l ba bc w (wr.alloc (.cells #[.int .i64 x, .int .i64 y, .bool false] 30))) := HJ.out.below HJ.out.k.size (ala _ _)
          have C1 : Cl wr.heap.size [.int .i64 x, .int .i64 y, .bool false] 30 (wr.alloc (.cells #[.int .i64 x, .int .i64 y, .bool false] 30)) := Cl.new [.int .i64 x, .int .i64 y, .bool false] _ wr
          clear hl HJ
          go_wp2_with fail
          refine (HB.out _).mono ?_
          rintro e w3 ⟨rfl, k3⟩
          have HJ2 : Hid (Pq w.heap.size l ba bc w w3) := HJ1.out.below HJ1.out.k.size k3
          have C3 := C1.below k3
          have c0 : w3.cell? ⟨wr.heap.size, 0, none⟩ = some (.int .i64 x) := C3.cell 0
          have c1 : w3.cell? ⟨wr.heap.size, 1, none⟩ = some (.int .i64 y) := C3.cell 1
          have c2 : w3.cell? ⟨wr.heap.size, 2, none⟩ = some (.bool false) := C3.cell 2
          have HZ : Hid (w.heap.size ≤ w3.heap.size) := HJ2.out.k.size
          clear HJ1 C1 C3 k3 HB
          by_cases hq : y * y % P = sqx P a b x
          · have t1 : (y * y % P == sqx P a b x) = true := beq_iff_eq.2 hq
            rw [t1]
            have HL : Hid (pts P a b x ++ rowy P a b x (y + 1) = l ++ [⟨x, y, false⟩]) := by
              show _ = _
              rw [HS.out, if_pos hq]
            clear hq t1 HS
            go_wp2_with (at_builtin; refine wpList_append_own _ rfl _ _ 25 rfl w.heap.size 30 k0 (.agg #[.int .i64 0, .int .i64 0, .bool false]) 3 24 Tryd.underlying25 HP.out.1 HP.out.2.1 HP.out.2.2.1 HP.out.2.2.2 rfl (by decide) (.slice ba l.length bc) l.length (pcl l) rfl (HJ2.out.row.alloc _) ⟨w3.heap.size, 0, none⟩ 1 1 [.int .i64 x, .int .i64 y, .bool false] rfl rfl (Cl.new [.int .i64 x, .int .i64 y, .bool false] 30 w3).newsP (by simp [Value.oneCell']) (by simp only [maxLen]; omega) (by omega) (by have := HZ.out; simp <;> omega) ?_; intro v' w6 hown' hgrow _; obtain ⟨g', cap', rfl⟩ := ownsRow_succ hown')
            have HN6 : Hid (Pq w.heap.size (l ++ [⟨x, y, false⟩]) (some ⟨g', 0, none⟩) cap' w w6) := by
              refine ⟨?_, (HJ2.out.k.alloc HZ.out _).grown hgrow (by have := HZ.out; simp <;> omega) (fun k e => (HJ2.out.row.lt k e).1)⟩
              rw [List.length_append, pcl_append]
              exact hown'
            clear hown' hgrow c0 c1 c2
            first
            | exact ⟨⟨y + 1, _, cap', by omega, by rw [HL.out, List.length_append]; rfl, by go_num, by rw [HL.out]; exact HN6.out⟩, by simp [intOf]; omega⟩
            | (go_roundw
               case rel => exact ⟨y + 1, _, cap', by omega, by rw [HL.out, List.length_append]; rfl, by go_num, by rw [HL.out]; exact HN6.out⟩
               case measure => simp [intOf]; omega)
          · have t1 : (y * y % P == sqx P a b x) = false := beq_eq_false_iff_ne.2 hq
            rw [t1]
            have HL : Hid (pts P a b x ++ rowy P a b x (y + 1) = l) := by
              show _ = _
              rw [HS.out, if_neg hq, List.append_nil]
            clear hq t1 HS
            go_wp2
            first
            | exact ⟨⟨y + 1, ba, bc, by omega, by rw [HL.out], by go_num, by rw [HL.out]; exact HJ2.out⟩, by simp [intOf]; omega⟩
            | (go_roundw
               case rel => exact ⟨y + 1, ba, bc, by omega, by rw [HL.out], by go_num, by rw [HL.out]; exact HJ2.out⟩
               case measure => simp [intOf]; omega)
        · obtain rfl : P = y := by omega
          have hfull : pts P a b x ++ rowy P a b x P = pts P a b (x + 1) := rfl
          rw [hfull] at HJ ⊢
          clear hfull
          go_wp2
          first
          | exact ⟨⟨x + 1, ba, bc, by omega, rfl, by go_num, HJ.out⟩, by simp [intOf]; omega⟩
          | (go_roundw
             case rel => exact ⟨x + 1, ba, bc, by omega, rfl, by go_num, HJ.out⟩
             case measure => simp [intOf]; omega)
    · obtain rfl : P = x := by omega
      go_wp2
      go_ret
      exact ⟨aa, cc, rfl, HQ.out.k⟩

end Go.Proofs.YtbeceimopamllaaDoor
