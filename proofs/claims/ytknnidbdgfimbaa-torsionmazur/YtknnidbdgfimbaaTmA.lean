/- The law TorsionMazur: its faults; Plus of two points of the list. -/
import Derived.Test.YtknnidbdgfimbaaJnF
import Derived.Test.YtknnidbdgfimbaaTrI
import Derived.Test.YtknnidbdgfimbaaTrG
import Derived.Test.YtknnidbdgfimbaaJnQ
import Derived.Test.YtknnidbdgfimbaaTorsionPointsWalk
import Derived.Test.YtknnidbdgfimbaaJnL
set_option linter.unusedSimpArgs false
set_option linter.unusedVariables false
set_option maxRecDepth 100000
namespace Go.Proofs.Ytknnidbdgfimbaa
open Go.RowKit TN

set_option maxRecDepth 100000 in
set_option maxHeartbeats 4000000 in
theorem tm_bad (a b : Int) (w : World) (hc : (tf a b).1 ≠ 0) :
    Calls Try.prog 4 #[.int .i64 a, .int .i64 b] w fun e w' => e = .returned (.bool true) ∧ Below w.heap.size w w' := by
  have HSh : Hid (∀ w, Calls Try.prog 11 #[.int .i64 a, .int .i64 b] w fun e w' => e = .returned (.tuple #[.int .i64 0, .int .i64 0, .agg #[.int .i64 (tf a b).1, .int .i64 (tf a b).2]]) ∧ Below w.heap.size w w') := fun w => tShape_bad a b w hc
  have HRf : Hid (∀ w, Calls Try.prog 7 #[.int .i64 a, .int .i64 b] w fun e w' => e = .returned (.agg #[.int .i64 (tf a b).1, .int .i64 (tf a b).2]) ∧ Below w.heap.size w w') := fun w => refTorsionFault_any a b w
  obtain ⟨c, hc1⟩ : ∃ c, (tf a b).1 = c := ⟨_, rfl⟩
  obtain ⟨d, hd1⟩ : ∃ d, (tf a b).2 = d := ⟨_, rfl⟩
  rw [hc1, hd1] at HSh HRf
  rw [hc1] at hc
  have hcb : (c != 0) = true := by simp [bne]; exact hc
  clear hc hc1 hd1
  go_enter Try.func4, Try.ntmps4
  go_wp2_with fail
  refine (HSh.out _).mono ?_
  rintro e w2 ⟨rfl, k2⟩
  have C2 := Cl.new [.int .i64 c, .int .i64 d] 23 w2
  have K2 : Below w.heap.size w (w2.alloc (.cells #[.int .i64 c, .int .i64 d] 23)) := k2.alloc k2.size _
  clear k2 HSh
  go_wp2_with fail
  refine (HRf.out _).mono ?_
  rintro e w3 ⟨rfl, k3⟩
  have K3 : Below w.heap.size w (w3.alloc (.cells #[.int .i64 c, .int .i64 d] 23)) := by
    have := K2.trans (k3.mono K2.size)
    exact this.alloc this.size _
  have D2 := (C2.below k3).alloc (.cells #[.int .i64 c, .int .i64 d] 23)
  have D3 := Cl.new [.int .i64 c, .int .i64 d] 23 w3
  clear k3 C2 K2 HRf
  go_wp2_with fail
  refine (torsionBegun_any _).mono ?_
  rintro e w4 ⟨rfl, k4⟩
  have HK4 : Hid (Below w.heap.size w w4) := K3.trans (k4.mono K3.size)
  have E2 := D2.below k4
  have E3 := D3.below k4
  have x2 : w4.cell? ⟨w2.heap.size, 0, none⟩ = some (.int .i64 c) := E2.cell 0
  have x3 : w4.cell? ⟨w2.heap.size, 1, none⟩ = some (.int .i64 d) := E2.cell 1
  have x4 : w4.cell? ⟨w3.heap.size, 0, none⟩ = some (.int .i64 c) := E3.cell 0
  have x5 : w4.cell? ⟨w3.heap.size, 1, none⟩ = some (.int .i64 d) := E3.cell 1
  clear D2 D3 E2 E3 K3 k4
  go_wp2
  go_ret
  exact ⟨rfl, HK4.out⟩

/-- A place that stands for a point of the list. -/
def PlV (t : Int × Int × Bool × Nat) (v0 v1 : Value) (f : Bool) (W : World) : Prop :=
  f = t.2.2.1 ∧ (t.2.2.1 = false → ∃ bx bY : Nat, v0 = .pointer (some ⟨bx, 0, none⟩) ∧ v1 = .pointer (some ⟨bY, 0, none⟩) ∧ Rv W bx (t.1 : Rat) 2 ∧ Rv W bY (t.2.1 : Rat) 2)
theorem PlV.below {t : Int × Int × Bool × Nat} {v0 v1 : Value} {f : Bool} {W W' : World} (h : PlV t v0 v1 f W) (k : Below W.heap.size W W') : PlV t v0 v1 f W' := by
  refine ⟨h.1, fun e => ?_⟩
  obtain ⟨bx, bY, h1, h2, h3, h4⟩ := h.2 e
  exact ⟨bx, bY, h1, h2, h3.below k, h4.below k⟩
theorem PlV.updP {t : Int × Int × Bool × Nat} {v0 v1 : Value} {f : Bool} {W W' : World} {z : Nat} {c : List Value} (h : PlV t v0 v1 f W) (u : Upd z W W') (hz : Cl z c 38 W) : PlV t v0 v1 f W' := by
  refine ⟨h.1, fun e => ?_⟩
  obtain ⟨bx, bY, h1, h2, h3, h4⟩ := h.2 e
  exact ⟨bx, bY, h1, h2, h3.updP u hz, h4.updP u hz⟩
/-- Plus of two places that stand for points of the list: the answer stands for one, too. -/
theorem Plus_list (a b : Int) (lt : Its) (p q : Int × Int × Bool × Nat) (px pY qx qY : Nat) (W : World) (hc : Cu a b) (hlt : lt = (0, 0, true, 1) :: lkI a b) (hp : p ∈ lt) (hq : q ∈ lt)
    (v1 : Rv W px (p.1 : Rat) 2) (v2 : Rv W pY (p.2.1 : Rat) 2) (v3 : Rv W qx (q.1 : Rat) 2) (v4 : Rv W qY (q.2.1 : Rat) 2) :
    Calls Try.prog 12 #[.int .i64 a, .agg #[.pointer (some ⟨px, 0, none⟩), .pointer (some ⟨pY, 0, none⟩), .bool p.2.2.1], .agg #[.pointer (some ⟨qx, 0, none⟩), .pointer (some ⟨qY, 0, none⟩), .bool q.2.2.1]] W
      fun e w' => ∃ (r : Int × Int × Bool × Nat) (u0 u1 : Option Addr) (f : Bool), r ∈ lt ∧ e = .returned (.agg #[.pointer u0, .pointer u1, .bool f]) ∧ PlV r (.pointer u0) (.pointer u1) f w' ∧ Below W.heap.size W w' := by
  cases hpf : p.2.2.1 with
  | true =>
    refine (Plus_qfar a _ _ _ _ q.2.2.1 W ⟨_, rfl⟩ ⟨_, rfl⟩ ⟨_, rfl⟩ ⟨_, rfl⟩).mono ?_
    rintro e w' ⟨rfl, k⟩
    exact ⟨q, _, _, _, hq, rfl, ⟨rfl, fun _ => ⟨qx, qY, rfl, rfl, v3.below k, v4.below k⟩⟩, k⟩
  | false =>
    cases hqf : q.2.2.1 with
    | true =>
      refine (Plus_rfar a _ _ _ _ W ⟨_, rfl⟩ ⟨_, rfl⟩ ⟨_, rfl⟩ ⟨_, rfl⟩).mono ?_
      rintro e w' ⟨rfl, k⟩
      exact ⟨p, _, _, _, hp, rfl, ⟨hpf.symm, fun _ => ⟨px, pY, rfl, rfl, v1.below k, v2.below k⟩⟩, k⟩
    | false =>
      have hp' : p ∈ lkI a b := by
        rw [hlt] at hp
        rcases List.mem_cons.1 hp with g | g
        · rw [g] at hpf; simp at hpf
        · exact g
      have hq' : q ∈ lkI a b := by
        rw [hlt] at hq
        rcases List.mem_cons.1 hq with g | g
        · rw [g] at hqf; simp at hqf
        · exact g
      obtain ⟨_, lp, _⟩ := (mem_lkI hc p.1 p.2.1 p.2.2.1 p.2.2.2).1 hp'
      obtain ⟨_, lq, _⟩ := (mem_lkI hc q.1 q.2.1 q.2.2.1 q.2.2.2).1 hq'
      have had := (mz_all hc).ad p hp' q hq'
      have hne : pAdd a b q.1 q.2.1 p.1 p.2.1 ≠ none := by
        rcases had with g | ⟨r, _, g⟩ <;> rw [g] <;> simp
      refine (Plus_int a b q.1 q.2.1 p.1 p.2.1 px pY qx qY W hc lq lp hne v1 v2 v3 v4).mono ?_
      intro e w' h
      rcases had with g | ⟨r, hr, g⟩
      · rw [g] at h
        obtain ⟨rfl, k⟩ := h
        exact ⟨(0, 0, true, 1), none, none, true, by rw [hlt]; simp, rfl, ⟨rfl, fun e => by simp at e⟩, k⟩
      · rw [g] at h
        obtain ⟨bx, bY, rfl, r1, r2, k⟩ := h
        refine ⟨r, _, _, _, by rw [hlt]; exact List.mem_cons_of_mem _ hr, rfl, ⟨?_, fun _ => ⟨bx, bY, rfl, rfl, r1, r2⟩⟩, k⟩
        exact ((mem_lkI hc r.1 r.2.1 r.2.2.1 r.2.2.2).1 hr).1.symm

end Go.Proofs.Ytknnidbdgfimbaa
