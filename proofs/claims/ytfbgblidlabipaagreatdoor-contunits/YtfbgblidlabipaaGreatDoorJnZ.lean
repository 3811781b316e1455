import Derived.Test.YtfbgblidlabipaaGreatDoorJnR
import Derived.Test.YtfbgblidlabipaaGreatDoorJnJ
import Derived.Test.YtfbgblidlabipaaGreatDoorJnC
import Derived.Laws.StructEq
import Derived.Test.YtfbgblidlabipaaGreatDoorBigP
section
/- Numbers that stand: those that are only read, those of one's own, and fresh places. -/
set_option linter.unusedSimpArgs false
set_option linter.unusedVariables false
set_option maxRecDepth 100000
namespace Go.Proofs.YtfbgblidlabipaaGreatDoor
open Go.RowKit

structure Bo (w0 w : World) (B : Nat) (L O : List (Nat × Int)) (F : List Nat) : Prop where
  bel : Below B w0 w
  le : B ≤ w.heap.size
  big : ∀ p ∈ L, BigAt w p.1 p.2
  own : ∀ p ∈ O, BigAt w p.1 p.2
  fr : ∀ c ∈ F, Slot w c
  nd : (O.map Prod.fst ++ F).Nodup
  ap : ∀ c ∈ O.map Prod.fst ++ F, ∀ p ∈ L, p.1 ≠ c
  lo : ∀ c ∈ O.map Prod.fst ++ F, B ≤ c
theorem Bo.lt {w0 w : World} {B : Nat} {L O : List (Nat × Int)} {F : List Nat} (h : Bo w0 w B L O F) : ∀ c ∈ O.map Prod.fst ++ F, c < w.heap.size := by
  intro c hc
  rcases List.mem_append.1 hc with h1 | h1
  · obtain ⟨p, hp, rfl⟩ := List.mem_map.1 h1
    exact (h.own p hp).lt
  · exact (h.fr c h1).lt
theorem Bo.start {w0 w : World} (k : Below w0.heap.size w0 w) : Bo w0 w w0.heap.size [] [] [] :=
  ⟨k, k.size, (fun _ h => by cases h), (fun _ h => by cases h), (fun _ h => by cases h), List.nodup_nil, (fun _ h => by cases h), (fun _ h => by cases h)⟩
theorem Bo.below {w0 w w' : World} {B : Nat} {L O : List (Nat × Int)} {F : List Nat} (h : Bo w0 w B L O F) (k : Below w.heap.size w w') : Bo w0 w' B L O F :=
  ⟨h.bel.trans (k.mono h.le), Nat.le_trans h.le k.size, fun p hp => (h.big p hp).below k (Nat.le_refl _), fun p hp => (h.own p hp).below k (Nat.le_refl _), fun c hc => (h.fr c hc).below k (Nat.le_refl _), h.nd, h.ap, h.lo⟩
theorem Bo.drewN {w0 w : World} {B q : Nat} {L O : List (Nat × Int)} {F : List Nat} (h : Bo w0 w B L O F) : Bo w0 (w.drewN q) B L O F := h.below (below_drewN' (Below.refl _ _))
theorem Bo.alloc {w0 w : World} {B : Nat} {L O : List (Nat × Int)} {F : List Nat} (h : Bo w0 w B L O F) : Bo w0 (w.alloc (.cells #[.bool false, .slice none 0 0] 45)) B L O (w.heap.size :: F) := by
  have k : Below w.heap.size w (w.alloc (.cells #[.bool false, .slice none 0 0] 45)) := Below.alloc_self' w _
  have g := h.below k
  have pm : (O.map Prod.fst ++ w.heap.size :: F).Perm (w.heap.size :: (O.map Prod.fst ++ F)) := List.perm_middle
  refine ⟨g.bel, g.le, g.big, g.own, fun c hc => ?_, ?_, fun c hc p hp => ?_, fun c hc => ?_⟩
  · rcases List.mem_cons.1 hc with e | e
    · subst e; exact slot_new w _ _
    · exact g.fr c e
  · rw [pm.nodup_iff]
    exact List.nodup_cons.2 ⟨fun hm => Nat.lt_irrefl _ (h.lt _ hm), h.nd⟩
  · rcases List.mem_cons.1 ((pm.mem_iff).1 hc) with e | e
    · have := (h.big p hp).lt; omega
    · exact h.ap c e p hp
  · rcases List.mem_cons.1 ((pm.mem_iff).1 hc) with e | e
    · have := h.le; omega
    · exact h.lo c e
theorem Bo.alloc2 {w0 w : World} {B : Nat} {L O : List (Nat × Int)} {F : List Nat} (h : Bo w0 w B L O F) : Bo w0 ((w.alloc (.cells #[.bool false, .slice none 0 0] 45)).alloc (.cells #[.bool false, .slice none 0 0] 45)) B L O ((w.heap.size + 1) :: w.heap.size :: F) := by
  have g := h.alloc.alloc
  rw [World.size_alloc] at g
  exact g
theorem Bo.drewE {w0 w w' : World} {B q : Nat} {L O : List (Nat × Int)} {F : List Nat} (h : Bo w0 w B L O F) (e : w' = w.drewN q) : Bo w0 w' B L O F := by rw [e]; exact h.drewN
theorem Bo.made {w0 w w' : World} {B b : Nat} {x : Int} {L O : List (Nat × Int)} {F : List Nat} (h : Bo w0 w B L O F) (m : Made w w' b x) : Bo w0 w' B ((b, x) :: L) O F := by
  have g := h.below m.2.2
  refine ⟨g.bel, g.le, fun p hp => ?_, g.own, g.fr, h.nd, fun c hc p hp => ?_, h.lo⟩
  · rcases List.mem_cons.1 hp with e | e
    · subst e; exact m.2.1
    · exact g.big p e
  · rcases List.mem_cons.1 hp with e | e
    · subst e; have := h.lt c hc; have := m.1; simp; omega
    · exact h.ap c hc p e
/-- A fresh place is given a number. -/
theorem Bo.give {w0 w w' : World} {B z : Nat} {x : Int} {L O : List (Nat × Int)} {F : List Nat} (h : Bo w0 w B L O (z :: F)) (hx : BigAt w' z x) (u : Upd z w w') : Bo w0 w' B L ((z, x) :: O) F := by
  have hz : Slot w z := h.fr z (by simp)
  have pm : (O.map Prod.fst ++ z :: F).Perm (z :: (O.map Prod.fst ++ F)) := List.perm_middle
  have nd := h.nd
  rw [pm.nodup_iff, List.nodup_cons] at nd
  have hzB : B ≤ z := h.lo z (by simp)
  refine ⟨h.bel.trans (u.below h.le hzB), Nat.le_trans h.le u.size, fun p hp => (h.big p hp).upd u hz (h.ap z (by simp) p hp), fun p hp => ?_, fun c hc => ?_, ?_, fun c hc p hp => h.ap c ((pm.mem_iff).2 hc) p hp, fun c hc => h.lo c ((pm.mem_iff).2 hc)⟩
  · rcases List.mem_cons.1 hp with e | e
    · subst e; exact hx
    · refine (h.own p e).upd u hz (fun e2 => nd.1 ?_)
      rw [← e2]; exact List.mem_append_left _ (List.mem_map.2 ⟨p, e, rfl⟩)
  · exact (h.fr c (List.mem_cons_of_mem _ hc)).upd u (fun e => nd.1 (by rw [← e]; exact List.mem_append_right _ hc))
  · exact List.nodup_cons.2 nd
/-- A number of one's own changes. -/
theorem Bo.turn {w0 w w' : World} {B z : Nat} {x x' : Int} {L O : List (Nat × Int)} {F : List Nat} (h : Bo w0 w B L ((z, x) :: O) F) (hx : BigAt w' z x') (u : Upd z w w') : Bo w0 w' B L ((z, x') :: O) F := by
  have hb : BigAt w z x := h.own (z, x) (by simp)
  have hz : Slot w z := by obtain ⟨s, h1, _⟩ := hb; exact ⟨_, s, h1⟩
  have nd := h.nd
  rw [List.map_cons, List.cons_append, List.nodup_cons] at nd
  have hzB : B ≤ z := h.lo z (by simp)
  refine ⟨h.bel.trans (u.below h.le hzB), Nat.le_trans h.le u.size, fun p hp => (h.big p hp).upd u hz (h.ap z (by simp) p hp), fun p hp => ?_, fun c hc => ?_, h.nd, h.ap, h.lo⟩
  · rcases List.mem_cons.1 hp with e | e
    · subst e; exact hx
    · refine (h.own p (List.mem_cons_of_mem _ e)).upd u hz (fun e2 => nd.1 ?_)
      rw [← e2]; exact List.mem_append_left _ (List.mem_map.2 ⟨p, e, rfl⟩)
  · exact (h.fr c hc).upd u (fun e => nd.1 (by rw [← e]; exact List.mem_append_right _ hc))
/-- What isn't asked any longer is left out. -/
theorem Bo.drop {w0 w : World} {B : Nat} {p : Nat × Int} {L O : List (Nat × Int)} {F : List Nat} (h : Bo w0 w B L (p :: O) F) : Bo w0 w B L O F := by
  have nd := h.nd
  rw [List.map_cons, List.cons_append, List.nodup_cons] at nd
  exact ⟨h.bel, h.le, h.big, fun q hq => h.own q (List.mem_cons_of_mem _ hq), h.fr, nd.2, fun c hc => h.ap c (by rw [List.map_cons, List.cons_append]; exact List.mem_cons_of_mem _ hc), fun c hc => h.lo c (by rw [List.map_cons, List.cons_append]; exact List.mem_cons_of_mem _ hc)⟩
theorem Bo.swap {w0 w : World} {B : Nat} {p q : Nat × Int} {L O : List (Nat × Int)} {F : List Nat} (h : Bo w0 w B L (p :: q :: O) F) : Bo w0 w B L (q :: p :: O) F := by
  have pm : (((q :: p :: O).map Prod.fst) ++ F).Perm (((p :: q :: O).map Prod.fst) ++ F) := by
    simp only [List.map_cons, List.cons_append]; exact List.Perm.swap _ _ _
  exact ⟨h.bel, h.le, h.big, fun r hr => h.own r (by simp only [List.mem_cons] at hr ⊢; exact hr.elim (fun e => .inr (.inl e)) (fun e => e.elim .inl (fun e => .inr (.inr e)))), h.fr, (pm.nodup_iff).2 h.nd, fun c hc => h.ap c ((pm.mem_iff).1 hc), fun c hc => h.lo c ((pm.mem_iff).1 hc)⟩
/-- A number of one's own is only read from here on. -/
theorem Bo.keep {w0 w : World} {B : Nat} {p : Nat × Int} {L O : List (Nat × Int)} {F : List Nat} (h : Bo w0 w B L (p :: O) F) : Bo w0 w B (p :: L) O F := by
  have nd := h.nd
  rw [List.map_cons, List.cons_append, List.nodup_cons] at nd
  have d := h.drop
  refine ⟨d.bel, d.le, fun q hq => ?_, d.own, d.fr, d.nd, fun c hc q hq => ?_, d.lo⟩
  · rcases List.mem_cons.1 hq with e | e
    · subst e; exact h.own q (by simp)
    · exact h.big q e
  · rcases List.mem_cons.1 hq with e | e
    · subst e; intro e2; exact nd.1 (by rw [e2]; exact hc)
    · exact d.ap c hc q e
theorem Bo.sub {w0 w : World} {B : Nat} {L L' O : List (Nat × Int)} {F : List Nat} (h : Bo w0 w B L O F) (hL : ∀ p ∈ L', p ∈ L) : Bo w0 w B L' O F :=
  ⟨h.bel, h.le, fun p hp => h.big p (hL p hp), h.own, h.fr, h.nd, fun c hc p hp => h.ap c hc p (hL p hp), h.lo⟩
theorem Bo.also {w0 w : World} {B b : Nat} {x : Int} {L : List (Nat × Int)} (h : Bo w0 w B L [] []) (hx : BigAt w b x) : Bo w0 w B ((b, x) :: L) [] [] :=
  ⟨h.bel, h.le, fun p hp => by
    rcases List.mem_cons.1 hp with e | e
    · subst e; exact hx
    · exact h.big p e, h.own, h.fr, h.nd, fun c hc => by simp at hc, h.lo⟩

end Go.Proofs.YtfbgblidlabipaaGreatDoor
end

section
/- The document's examples of layer 1 (wholeBegun). -/
set_option linter.unusedSimpArgs false
set_option linter.unusedVariables false
set_option maxRecDepth 100000
namespace Go.Proofs.YtfbgblidlabipaaGreatDoor
open Go.RowKit

theorem begun_bez {u v : Int} (h : Bez 12 (-18) u v) : u = 2 ∧ v = 1 := by
  have h1 := h.lin
  have h2 := h.low (by omega)
  have h3 := h.high (by omega)
  have e : Int.gcd 12 (-18) = 6 := by decide
  rw [e] at h1 h3
  have e2 : (Int.natAbs (-18) / 6 : Nat) = 3 := by decide
  rw [e2] at h3
  omega

theorem three_cells (a b c : Int) (W : World) (B : Nat) (hB : B < W.heap.size) (h0 : W.cell? ⟨B, 0, none⟩ = some (.int .i64 a)) (h1 : W.cell? ⟨B, 1, none⟩ = some (.int .i64 b)) (h2 : W.cell? ⟨B, 2, none⟩ = some (.int .i64 c)) :
    IS W (.slice (some ⟨B, 0, none⟩) 3 3) [a, b, c] := by
  refine ⟨⟨_, B, 0, 3, rfl, fun _ => rfl, fun i hi => ?_, fun _ => hB⟩⟩
  match i, hi with
  | 0, _ => exact h0
  | 1, _ => exact h1
  | 2, _ => exact h2

theorem begun_join {R M c at' : Int} (h : JOut [2, 3, 2] [3, 5, 7] R M c at') : R = 23 ∧ M = 105 ∧ c = 0 ∧ at' = 0 := by
  have l0 : MathC.jl [3, 5, 7] 0 = 1 := rfl
  have l1 : MathC.jl [3, 5, 7] 1 = 3 := by decide
  have l2 : MathC.jl [3, 5, 7] 2 = 15 := by decide
  have l3 : MathC.jl [3, 5, 7] 3 = 105 := by decide
  rcases h.cases with h1 | h1 | ⟨_, _, k, r, m, R', M', hk, hj, rfl, rfl, rfl, hc, ho⟩ | ⟨_, _, r, m, hj, rfl, rfl, rfl, rfl⟩
  · simp at h1
  · simp at h1
  · exfalso
    have hm := hj.lcm
    have hk3 : k = 0 ∨ k = 1 ∨ k = 2 := by simp at hk; omega
    rcases hk3 with rfl | rfl | rfl
    all_goals
      first | rw [l0] at hm | rw [l1] at hm | rw [l2] at hm
      subst hm
      rcases ho.cases with ⟨_, _, _, h2⟩ | ⟨_, n, hn, n1, n2, ⟨_, _, _, h2⟩ | ⟨_, _, _, h2, h3⟩ | ⟨h2, _⟩⟩
      · simp [numB] at h2
      · have : n = 3 ∨ n = 5 ∨ n = 7 := by simp at hn; omega
        rcases this with rfl | rfl | rfl <;> first | (simp at hn; done) | exact h2 ⟨_, (Int.one_mul _).symm⟩
      · have : n = 3 ∨ n = 5 ∨ n = 7 := by simp at hn; omega
        rcases this with rfl | rfl | rfl <;> simp at h3
      · exact hc h2
  · have hm := hj.lcm
    simp only [List.length_cons, List.length_nil] at hm
    rw [l3] at hm
    subst hm
    have h1 := hj.hi
    have c0 := hj.cong 0 (by simp)
    have c1 := hj.cong 1 (by simp)
    have c2 := hj.cong 2 (by simp)
    simp at c0 c1 c2
    refine ⟨?_, by simp, rfl, rfl⟩
    omega

end Go.Proofs.YtfbgblidlabipaaGreatDoor
end

section
/- The contract of Combined; the law WholeDivides walked. -/
set_option linter.unusedSimpArgs false
set_option linter.unusedVariables false
set_option maxRecDepth 100000
namespace Go.Proofs.YtfbgblidlabipaaGreatDoor
open Go.RowKit

theorem lt_pw2 {x : Int} (h1 : -9223372036854775808 ≤ x) (h2 : x ≤ 9223372036854775807) : x.natAbs < pw 2 := by rw [pw_two]; omega
theorem mul_lt_pw {x y : Int} {m n : Nat} (hx : x.natAbs < pw m) (hy : y.natAbs < pw n) : (x * y).natAbs < pw (m + n) := by
  rw [Int.natAbs_mul, pw_add]; exact Nat.mul_lt_mul'' hx hy
theorem add_lt_pw {x y : Int} {m : Nat} (hx : x.natAbs < pw m) (hy : y.natAbs < pw m) : (x + y).natAbs < pw (m + 1) := by
  have : pw (m + 1) = 4294967296 * pw m := rfl
  omega

theorem Below.alloc_self (w : World) (o : Obj) : Below w.heap.size w (w.alloc o) := Below.alloc (Below.refl _ _) (Nat.le_refl _) _

theorem newB {W w' : World} {C : Array Value} {t : TypeId} (k : Below (W.alloc (.cells C t)).heap.size (W.alloc (.cells C t)) w') {i : Nat} {v : Value} (h : C[i]? = some v) : w'.cell? ⟨W.heap.size, i, none⟩ = some v :=
  cell_later k (by rw [World.cell?_alloc_at _ _ _ _ rfl]; exact h)
theorem keepB {W w' : World} {o : Obj} {a : Addr} {v : Value} (k : Below (W.alloc o).heap.size (W.alloc o) w') (h : W.cell? a = some v) : w'.cell? a = some v :=
  cell_later k (by rw [World.cell?_alloc_lt _ _ _ (World.block_lt_of_cell? _ _ h)]; exact h)

end Go.Proofs.YtfbgblidlabipaaGreatDoor
end

section
/- Numbers of any length: Bit, Rsh (of numbers that are not below 0). -/
set_option linter.unusedSimpArgs false
set_option linter.unusedVariables false
set_option maxRecDepth 100000
namespace Go.Proofs.YtfbgblidlabipaaGreatDoor
open Go.RowKit

theorem Bit_nat (bx A i m : Nat) (w : World) (hx : BigAt w bx (A : Int)) (hm : A < pw m) (hm' : m ≤ 100000000) (hi : i ≤ 4000000000) :
    Calls Tryz.prog 19 #[.pointer (some ⟨bx, 0, none⟩), .int .i64 i] w fun e w' => e = .returned (.int .u64 ((A / 2 ^ i % 2 : Nat) : Int)) ∧ ∃ q, w' = w.drewN q := by
  obtain ⟨xa, xl, xc, cx0, cx1, nx, _⟩ := hx.open
  have hneg : decide ((A : Int) < 0) = false := by simp
  rw [hneg] at cx0
  rw [Int.natAbs_natCast] at nx
  have NX : Hid (NS w (.slice xa xl xc) A) := nx
  have HM : Hid (A < pw m) := hm
  clear hx nx hm hneg
  go_enter Tryz.func19, Tryz.ntmps19
  go_wp2_with fail
  refine (bit_any _ A i m _ NX.out HM.out hm' hi).mono ?_
  rintro e w1 ⟨rfl, q, rfl⟩
  go_wp2
  go_ret
  exact ⟨rfl, q, rfl⟩

theorem Rsh_nat (bz bx A n m : Nat) (w : World) (hz : Slot w bz) (hx : BigAt w bx (A : Int)) (hm : A < pw m) (hm' : m ≤ 100000000) (hn : n ≤ 1000000000) :
    Calls Tryz.prog 28 #[.pointer (some ⟨bz, 0, none⟩), .pointer (some ⟨bx, 0, none⟩), .int .u64 n] w fun e w' => e = .returned (.pointer (some ⟨bz, 0, none⟩)) ∧ BigAt w' bz ((A / 2 ^ n : Nat) : Int) ∧ Upd bz w w' := by
  obtain ⟨xa, xl, xc, cx0, cx1, nx, _⟩ := hx.open
  have hneg : decide ((A : Int) < 0) = false := by simp
  rw [hneg] at cx0
  rw [Int.natAbs_natCast] at nx
  have NX : Hid (NS w (.slice xa xl xc) A) := nx
  have HZ : Hid (Slot w bz) := hz
  have HM : Hid (A < pw m) := hm
  clear hx hz nx hm hneg
  go_enter Tryz.func28, Tryz.ntmps28
  go_wp2_with fail
  refine (rightW_any _ A n m _ NX.out HM.out hm' hn).mono ?_
  rintro e w1 ⟨r, rfl, hr, hb⟩
  have HR : Hid (NS w1 r (A / 2 ^ n)) := hr
  have HB : Hid (Below w.heap.size w w1) := hb
  clear hr hb
  go_wp2_with fail
  refine (give_any bz false r (A / 2 ^ n) w1 (HZ.out.below HB.out (Nat.le_refl _)) HR.out).mono ?_
  rintro e w2 ⟨rfl, hbig, hu⟩
  have HG : Hid (BigAt w2 bz ((A / 2 ^ n : Nat) : Int)) := hbig
  have HU : Hid (Upd bz w w2) := (Upd.of_below HB.out).trans hu
  clear hbig hu
  go_wp2
  go_ret
  exact ⟨rfl, HG.out, HU.out⟩

end Go.Proofs.YtfbgblidlabipaaGreatDoor
end
