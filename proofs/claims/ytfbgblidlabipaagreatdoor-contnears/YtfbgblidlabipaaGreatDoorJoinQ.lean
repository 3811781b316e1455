import Derived.Test.YtfbgblidlabipaaGreatDoorJoinP
import Derived.Test.YtfbgblidlabipaaGreatDoorJoinJ
import Derived.Deep.LoopGhost
import Derived.Test.YtfbgblidlabipaaGreatDoorJoinM
section
/- The reference: NearOf. -/
set_option linter.unusedSimpArgs false
set_option linter.unusedVariables false
set_option maxRecDepth 100000
namespace Go.Proofs.YtfbgblidlabipaaGreatDoor
open Go.RowKit
open CnM CnS

/-- What stands ahead of the k-th of q. -/
structure Nf (a b : Int) (w W : World) (bx : Nat) (Px Qx : Int) (q k : Nat) (far : Value) : Prop where
  bel : Below w.heap.size w W
  x : Rt W bx Px Qx
  res : Cl w.heap.size [.int .i64 0, .int .i64 0] 23 W
  st : (q = 1 ∧ k = 0 ∧ far = .pointer none ∧ Cl (w.heap.size + 1) [.int .i64 0, .int .i64 0] 23 W) ∨ (∃ P Q F G bf, far = .pointer (some ⟨bf, 0, none⟩) ∧ Rt W bf F G ∧ F.natAbs < pw 16 ∧ G.natAbs < pw 16 ∧ Cl (w.heap.size + 1) [.int .i64 P, .int .i64 Q] 23 W ∧ Bs a b (q : Int) (k : Int) P Q F G ∧ (k = 0 → Q < (q : Int)))
theorem Nf.below {a b : Int} {w W W' : World} {bx : Nat} {Px Qx : Int} {q k : Nat} {far : Value} (h : Nf a b w W bx Px Qx q k far) (l : Below W.heap.size W W') : Nf a b w W' bx Px Qx q k far := by
  refine ⟨h.bel.trans (l.mono h.bel.size), h.x.below l, h.res.below l, ?_⟩
  rcases h.st with ⟨h1, h2, h3, h4⟩ | ⟨P, Q, F, G, bf, h1, h2, h3, h4, h5, h6⟩
  · exact .inl ⟨h1, h2, h3, h4.below l⟩
  · exact .inr ⟨P, Q, F, G, bf, h1, h2.below l, h3, h4, h5.below l, h6⟩
theorem Nf.next {a b : Int} {w W : World} {bx : Nat} {Px Qx : Int} {q : Nat} {far : Value} (h : Nf a b w W bx Px Qx q 2 far) : Nf a b w W bx Px Qx (q + 1) 0 far := by
  refine ⟨h.bel, h.x, h.res, ?_⟩
  rcases h.st with ⟨_, h2, _⟩ | ⟨P, Q, F, G, bf, h1, h2, h3, h4, h5, h6⟩
  · omega
  · refine .inr ⟨P, Q, F, G, bf, h1, h2, h3, h4, h5, ?_, fun _ => ?_⟩
    · have := h6.1.next
      simpa using this
    · have := h6.1.le
      push_cast
      omega

theorem Sl.updF {b : Nat} {w w' : World} {s : Value} {l : List Nat} {c : List Value} (h : Sl w s l) (hu : Upd b w w') (hs : Cl b c 23 w) : Sl w' s l := by
  refine ⟨h.small, ?_⟩
  rcases h.shape with h1 | ⟨g, cap, C, h1, h2, h3, h4⟩
  · exact Or.inl h1
  · refine Or.inr ⟨g, cap, C, h1, h2, ?_, h4⟩
    rw [hu.block g (lt_of_some h3) ?_]; exact h3
    intro e; subst e
    have h5 : w.heap[g]? = some (.cells c.toArray 23) := hs
    rw [h3] at h5; simp at h5
theorem NS.updF {b : Nat} {w w' : World} {s : Value} {n : Nat} {c : List Value} (h : NS w s n) (hu : Upd b w w') (hs : Cl b c 23 w) : NS w' s n := by
  obtain ⟨l, h1, h2⟩ := h; exact ⟨l, h1.updF hu hs, h2⟩
theorem Rt.updF {w w' : World} {b z : Nat} {P Q : Int} {c : List Value} (h : Rt w b P Q) (u : Upd z w w') (hz : Cl z c 23 w) : Rt w' b P Q := by
  obtain ⟨⟨s, t, h1, h2, h3⟩, h4, h5⟩ := h
  refine ⟨⟨s, t, (u.block b h1.lt ?_).trans h1, h2.updF u hz, h3.updF u hz⟩, h4, h5⟩
  intro e; subst e
  have h6 : w.heap[b]? = some (.cells c.toArray 23) := hz
  have h7 : w.heap[b]? = some (.cells [.bool (decide (P < 0)), s, .bool (decide (Q < 0)), t].toArray 103) := h1
  rw [h6] at h7; simp at h7
theorem BigAt.updF {b z : Nat} {w w' : World} {n : Int} {c : List Value} (h : BigAt w b n) (u : Upd z w w') (hz : Cl z c 23 w) : BigAt w' b n := by
  obtain ⟨s, h1, h2⟩ := h
  refine ⟨s, (u.block b (lt_of_some h1) ?_).trans h1, h2.updF u hz⟩
  intro e; subst e
  have h6 : w.heap[b]? = some (.cells c.toArray 23) := hz
  rw [h6] at h1; simp at h1
theorem Nf.box {a b : Int} {w W : World} {bx : Nat} {Px Qx : Int} {q k : Nat} {far : Value} (h : Nf a b w W bx Px Qx q k far) : ∃ x1 x2, Cl (w.heap.size + 1) [.int .i64 x1, .int .i64 x2] 23 W := by
  rcases h.st with ⟨_, _, _, h4⟩ | ⟨P, Q, F, G, bf, _, _, _, _, h5, _⟩
  · exact ⟨_, _, h4⟩
  · exact ⟨_, _, h5⟩
theorem Nf.put {a b : Int} {w W : World} {bx bf : Nat} {Px Qx P Q F G : Int} {q k : Nat} {far : Value} (h : Nf a b w W bx Px Qx q k far) (hf : Rt W bf F G) (hF : F.natAbs < pw 16) (hG : G.natAbs < pw 16) (hB : Bs a b (q : Int) ((k : Int) + 1) P Q F G) :
    Nf a b w ((W.setCell ⟨w.heap.size + 1, 0, none⟩ (.int .i64 P)).setCell ⟨w.heap.size + 1, 1, none⟩ (.int .i64 Q)) bx Px Qx q (k + 1) (.pointer (some ⟨bf, 0, none⟩)) := by
  obtain ⟨x1, x2, c⟩ := h.box
  have u : Upd (w.heap.size + 1) W ((W.setCell ⟨w.heap.size + 1, 0, none⟩ (.int .i64 P)).setCell ⟨w.heap.size + 1, 1, none⟩ (.int .i64 Q)) := Upd.setCell (o := 1) (Upd.setCell (o := 0) (Upd.refl _ W) _) _
  refine ⟨h.bel.trans (u.below h.bel.size (by omega)), h.x.updF u c, ?_, .inr ⟨P, Q, F, G, bf, rfl, hf.updF u c, hF, hG, (c.set 0 _).set 1 _, by simpa using hB, fun e => by omega⟩⟩
  exact (h.res.other (p := ⟨w.heap.size + 1, 0, none⟩) (by simp) _).other (p := ⟨w.heap.size + 1, 1, none⟩) (by simp) _
theorem Nf.keep {a b : Int} {w W : World} {bx bf : Nat} {Px Qx P Q F G : Int} {q k : Nat} (h : Nf a b w W bx Px Qx q k (.pointer (some ⟨bf, 0, none⟩))) (hf : Rt W bf F G) (hF : F.natAbs < pw 16) (hG : G.natAbs < pw 16) (hc : Cl (w.heap.size + 1) [.int .i64 P, .int .i64 Q] 23 W) (hB : Bs a b (q : Int) ((k : Int) + 1) P Q F G) :
    Nf a b w W bx Px Qx q (k + 1) (.pointer (some ⟨bf, 0, none⟩)) :=
  ⟨h.bel, h.x, h.res, .inr ⟨P, Q, F, G, bf, rfl, hf, hF, hG, hc, by simpa using hB, fun e => by omega⟩⟩

end Go.Proofs.YtfbgblidlabipaaGreatDoor
end

section
/- Numbers that lie within a block: Uint64, Int64; how far a fraction is, by ratios. -/
set_option linter.unusedSimpArgs false
set_option linter.unusedVariables false
set_option maxRecDepth 100000
namespace Go.Proofs.YtfbgblidlabipaaGreatDoor
open Go.RowKit

set_option maxHeartbeats 1000000 in
theorem Uint64_at (ox bx : Nat) (x : Int) (w : World) (hx : IntAt w bx ox x) (h : x.natAbs < 18446744073709551616) :
    Calls Tryz.prog 129 #[.pointer (some ⟨bx, ox, none⟩)] w fun e w' => e = .returned (.int .u64 (x.natAbs : Int)) ∧ ∃ q, w' = w.drewN q := by
  obtain ⟨xa, xl, xc, cx0, cx1, nx, _⟩ := hx.open
  obtain ⟨l, aa, g, cap, e, va, na, sa, pa, cell, _, lt⟩ := nx.open
  simp at e
  obtain ⟨rfl, rfl, rfl⟩ := e
  have h2 : l.length ≤ 2 := na.len (by rw [va, pw_two]; exact h)
  obtain ⟨X, gX⟩ : ∃ X, X = x.natAbs := ⟨_, rfl⟩
  rw [← gX] at va h ⊢
  clear hx nx lt na gX cx0
  rcases short_list l h2 with rfl | ⟨a, rfl⟩ | ⟨a, b, rfl⟩
  · have hv : X = 0 := by simpa [val] using va.symm
    subst hv
    clear va h cell sa pa h2
    go_enter Tryz.func129, Tryz.ntmps129
    go_wp2
    go_ret
    exact ⟨rfl, 0, rfl⟩
  · have hv : X = a := by simpa [val] using va.symm
    subst hv
    have c0 := cell 0 (by simp)
    simp at c0
    obtain rfl := pa (by simp)
    have s0 := sa X (by simp)
    clear va h cell sa pa h2
    go_enter Tryz.func129, Tryz.ntmps129
    go_wp2
    go_ret
    exact ⟨rfl, 0, rfl⟩
  · have hv : X = a + 4294967296 * b := by simpa [val] using va.symm
    have c0 := cell 0 (by simp)
    have c1 := cell 1 (by simp)
    simp at c0 c1
    obtain rfl := pa (by simp)
    have s0 := sa a (by simp)
    have s1 := sa b (by simp)
    have eo := or_low a b s0 s1
    rw [← hv] at eo
    clear va h hv cell sa pa h2
    go_enter Tryz.func129, Tryz.ntmps129
    go_wp2
    first
      | (go_ret; exact ⟨rfl, 0, rfl⟩)
      | (go_quiet (fail)
         go_wp2
         go_ret
         exact ⟨rfl, _, rfl⟩)

set_option maxHeartbeats 1000000 in
theorem Int64_at (ox bx : Nat) (x : Int) (w : World) (hx : IntAt w bx ox x) (h : x.natAbs < 9223372036854775808) :
    Calls Tryz.prog 67 #[.pointer (some ⟨bx, ox, none⟩)] w fun e w' => e = .returned (.int .i64 x) ∧ ∃ q, w' = w.drewN q := by
  obtain ⟨xa, xl, xc, cx0, cx1, nx, _⟩ := hx.open
  have HX : Hid (IntAt w bx ox x) := hx
  clear hx nx cx1
  by_cases hneg : x < 0
  · rw [decide_eq_true hneg] at cx0
    go_enter Tryz.func67, Tryz.ntmps67
    go_wp2_with fail
    refine (Uint64_at ox bx x w HX.out (by omega)).mono ?_
    rintro e w1 ⟨rfl, q, rfl⟩
    go_wp2
    go_ret
    exact ⟨ret_int (by omega), q, rfl⟩
  · rw [decide_eq_false hneg] at cx0
    go_enter Tryz.func67, Tryz.ntmps67
    go_wp2_with fail
    refine (Uint64_at ox bx x w HX.out (by omega)).mono ?_
    rintro e w1 ⟨rfl, q, rfl⟩
    go_wp2
    go_ret
    exact ⟨ret_int (by omega), q, rfl⟩

/-- How far a fraction is, out of what Sub answers. -/
theorem dist_eq {a b p q Px Qx Py Qy A B : Int} (hQx : 0 < Qx) (hQy : 0 < Qy) (hB : 0 < B) (hb : 0 < b) (hq : 0 < q) (hx : Px * b = a * Qx) (hy : Py * q = p * Qy) (h : A * (Qx * Qy) = (Px * Qy - Py * Qx) * B) : (A.natAbs : Int) * (b * q) = CnM.ds a b p q * B := by
  have e1 : A * (b * q) * (Qx * Qy) = (a * q - b * p) * B * (Qx * Qy) := by
    have h1 : A * (b * q) * (Qx * Qy) = A * (Qx * Qy) * (b * q) := by grind
    rw [h1, h]
    have h2 : (Px * Qy - Py * Qx) * B * (b * q) = (Px * b * (Qy * q) - Py * q * (Qx * b)) * B := by grind
    rw [h2, hx, hy]
    grind
  have e2 : A * (b * q) = (a * q - b * p) * B := Int.eq_of_mul_eq_mul_right (Int.ne_of_gt (Int.mul_pos hQx hQy)) e1
  have e3 := congrArg Int.natAbs e2
  rw [Int.natAbs_mul, Int.natAbs_mul, Int.natAbs_mul] at e3
  have e4 : ((A.natAbs * (b.natAbs * q.natAbs) : Nat) : Int) = (((a * q - b * p).natAbs * B.natAbs : Nat) : Int) := by rw [e3]
  push_cast at e4
  unfold CnM.ds CnM.gp
  rw [show ((b.natAbs : Nat) : Int) = b by omega, show ((q.natAbs : Nat) : Int) = q by omega, show ((B.natAbs : Nat) : Int) = B by omega] at e4
  exact e4

end Go.Proofs.YtfbgblidlabipaaGreatDoor
end

section
/- Numbers and fresh places that stand. -/
set_option linter.unusedSimpArgs false
set_option linter.unusedVariables false
set_option maxRecDepth 100000
namespace Go.Proofs.YtfbgblidlabipaaGreatDoor
open Go.RowKit

/-- Numbers and fresh places that stand, and that nothing under B has turned. -/
structure Bk (w0 w : World) (B : Nat) (L : List (Nat × Int)) (F : List Nat) : Prop where
  bel : Below B w0 w
  le : B ≤ w.heap.size
  big : ∀ p ∈ L, BigAt w p.1 p.2
  fr : ∀ b ∈ F, Slot w b
theorem Bk.alloc {w0 w : World} {B : Nat} {L : List (Nat × Int)} {F : List Nat} (h : Bk w0 w B L F) (x y : Value) : Bk w0 (w.alloc (.cells #[x, y] 45)) B L (w.heap.size :: F) :=
  ⟨h.bel.alloc h.le _, Nat.le_trans h.le (by simp), fun p hp => (h.big p hp).below (Below.alloc_self' w _) (Nat.le_refl _), fun b hb => by
    rcases List.mem_cons.1 hb with h1 | h1
    · subst h1; exact slot_new w x y
    · exact (h.fr b h1).below (Below.alloc_self' w _) (Nat.le_refl _)⟩
theorem Bk.made {w0 w w' : World} {B b : Nat} {x : Int} {L : List (Nat × Int)} {F : List Nat} (h : Bk w0 w B L F) (k : Made w w' b x) : Bk w0 w' B ((b, x) :: L) F :=
  ⟨h.bel.trans (k.2.2.mono h.le), Nat.le_trans h.le k.2.2.size, fun p hp => by
    rcases List.mem_cons.1 hp with h1 | h1
    · subst h1; exact k.2.1
    · exact (h.big p h1).below k.2.2 (Nat.le_refl _), fun c hc => (h.fr c hc).below k.2.2 (Nat.le_refl _)⟩
theorem Bk.upd {w0 w w' : World} {B z : Nat} {x : Int} {L L' : List (Nat × Int)} {F F' : List Nat} (h : Bk w0 w B L F) (hz : Slot w z) (hB : B ≤ z) (hx : BigAt w' z x) (u : Upd z w w') (hL : ∀ p ∈ L', p ∈ L ∧ p.1 ≠ z) (hF : ∀ f ∈ F', f ∈ F ∧ f ≠ z) : Bk w0 w' B ((z, x) :: L') F' :=
  ⟨h.bel.trans (u.below h.le hB), Nat.le_trans h.le u.size, fun p hp => by
    rcases List.mem_cons.1 hp with h1 | h1
    · subst h1; exact hx
    · exact (h.big p (hL p h1).1).upd u hz (hL p h1).2, fun c hc => (h.fr c (hF c hc).1).upd u (hF c hc).2⟩
theorem Bk.drewN {w0 w : World} {B q : Nat} {L : List (Nat × Int)} {F : List Nat} (h : Bk w0 w B L F) : Bk w0 (w.drewN q) B L F :=
  ⟨below_drewN' h.bel, h.le, fun p hp => (h.big p hp).drewN, fun c hc => (h.fr c hc).below (below_drewN' (Below.refl w.heap.size w)) (Nat.le_refl _)⟩

end Go.Proofs.YtfbgblidlabipaaGreatDoor
end
