import Derived.Test.YtcnfhndejkngkaaGreatDoorBigN
section
/- Numbers and fresh places that stand. -/
set_option linter.unusedSimpArgs false
set_option linter.unusedVariables false
set_option maxRecDepth 100000
namespace Go.Proofs.YtcnfhndejkngkaaGreatDoor
open Go.RowKit

/-- Numbers and fresh places that stand, and that nothing under B has turned. -/
structure Bk (w0 w : World) (B : Nat) (L : List (Nat × Int)) (F : List Nat) : Prop where
  bel : Below B w0 w
  le : B ≤ w.heap.size
  big : ∀ p ∈ L, BigAt w p.1 p.2
  fr : ∀ b ∈ F, Slot w b
theorem Bk.alloc {w0 w : World} {B : Nat} {L : List (Nat × Int)} {F : List Nat} (h : Bk w0 w B L F) (x y : Value) : Bk w0 (w.alloc (.cells #[x, y] 55)) B L (w.heap.size :: F) :=
  ⟨h.bel.alloc h.le _, Nat.le_trans h.le (by simp), fun p hp => (h.big p hp).below (Below.alloc_self' w _) (Nat.le_refl _), fun b hb => by
    rcases List.mem_cons.1 hb with h1 | h1
    · subst h1; exact slot_new w x y
    · exact (h.fr b h1).below (Below.alloc_self' w _) (Nat.le_refl _)⟩
theorem Bk.made {w0 w w' : World} {B b : Nat} {x : Int} {L : List (Nat × Int)} {F : List Nat} (h : Bk w0 w B L F) (k : Made w w' b x) : Bk w0 w' B ((b, x) :: L) F :=
  ⟨h.bel.trans (k.2.2.mono h.le), Nat.le_trans h.le k.2.2.size, fun p hp => by
    rcases List.mem_cons.1 hp with h1 | h1
    · subst h1; exact k.2.1
    · exact (h.big p h1).below k.2.2 (Nat.le_refl _), fun c hc => (h.fr c hc).below k.2.2 (Nat.le_refl _)⟩
theorem Bk.upd {w0 w w' : World} {B z : Nat} {x : Int} {L L' : List (Nat × Int)} {F F' : List Nat} (h : Bk w0 w B L F) (hz : Slot w z) (hB : B ≤ z) (hx : BigAt w' z x) (u : Upd z w w') (hL : ∀ p ∈ L', p ∈ L ∧ p.1 ≠ z) (hF : ∀ f ∈ F', f ∈ F ∧ f ≠ z) : Bk w0 w' B ((z, x) :: L') F' :=
  ⟨h.bel.trans (u.below h.le hB), Nat.le_trans h.le u.size, fun p hp => by
    rcases List.mem_cons.1 hp with h1 | h1
    · subst h1; exact hx
    · exact (h.big p (hL p h1).1).upd u hz (hL p h1).2, fun c hc => (h.fr c (hF c hc).1).upd u (hF c hc).2⟩
theorem Bk.drewN {w0 w : World} {B q : Nat} {L : List (Nat × Int)} {F : List Nat} (h : Bk w0 w B L F) : Bk w0 (w.drewN q) B L F :=
  ⟨below_drewN' h.bel, h.le, fun p hp => (h.big p hp).drewN, fun c hc => (h.fr c hc).below (below_drewN' (Below.refl w.heap.size w)) (Nat.le_refl _)⟩

end Go.Proofs.YtcnfhndejkngkaaGreatDoor
end

section
/- Numbers that stand: those that are only read, those of one's own, and fresh places. -/
set_option linter.unusedSimpArgs false
set_option linter.unusedVariables false
set_option maxRecDepth 100000
namespace Go.Proofs.YtcnfhndejkngkaaGreatDoor
open Go.RowKit

structure Bo (w0 w : World) (B : Nat) (L O : List (Nat × Int)) (F : List Nat) : Prop where
  bel : Below B w0 w
  le : B ≤ w.heap.size
  big : ∀ p ∈ L, BigAt w p.1 p.2
  own : ∀ p ∈ O, BigAt w p.1 p.2
  fr : ∀ c ∈ F, Slot w c
  nd : (O.map Prod.fst ++ F).Nodup
  ap : ∀ c ∈ O.map Prod.fst ++ F, ∀ p ∈ L, p.1 ≠ c
  lo : ∀ c ∈ O.map Prod.fst ++ F, B ≤ c
theorem Bo.lt {w0 w : World} {B : Nat} {L O : List (Nat × Int)} {F : List Nat} (h : Bo w0 w B L O F) : ∀ c ∈ O.map Prod.fst ++ F, c < w.heap.size := by
  intro c hc
  rcases List.mem_append.1 hc with h1 | h1
  · obtain ⟨p, hp, rfl⟩ := List.mem_map.1 h1
    exact (h.own p hp).lt
  · exact (h.fr c h1).lt
theorem Bo.start {w0 w : World} (k : Below w0.heap.size w0 w) : Bo w0 w w0.heap.size [] [] [] :=
  ⟨k, k.size, (fun _ h => by cases h), (fun _ h => by cases h), (fun _ h => by cases h), List.nodup_nil, (fun _ h => by cases h), (fun _ h => by cases h)⟩
theorem Bo.below {w0 w w' : World} {B : Nat} {L O : List (Nat × Int)} {F : List Nat} (h : Bo w0 w B L O F) (k : Below w.heap.size w w') : Bo w0 w' B L O F :=
  ⟨h.bel.trans (k.mono h.le), Nat.le_trans h.le k.size, fun p hp => (h.big p hp).below k (Nat.le_refl _), fun p hp => (h.own p hp).below k (Nat.le_refl _), fun c hc => (h.fr c hc).below k (Nat.le_refl _), h.nd, h.ap, h.lo⟩
theorem Bo.drewN {w0 w : World} {B q : Nat} {L O : List (Nat × Int)} {F : List Nat} (h : Bo w0 w B L O F) : Bo w0 (w.drewN q) B L O F := h.below (below_drewN' (Below.refl _ _))
theorem Bo.alloc {w0 w : World} {B : Nat} {L O : List (Nat × Int)} {F : List Nat} (h : Bo w0 w B L O F) : Bo w0 (w.alloc (.cells #[.bool false, .slice none 0 0] 55)) B L O (w.heap.size :: F) := by
  have k : Below w.heap.size w (w.alloc (.cells #[.bool false, .slice none 0 0] 55)) := Below.alloc_self' w _
  have g := h.below k
  have pm : (O.map Prod.fst ++ w.heap.size :: F).Perm (w.heap.size :: (O.map Prod.fst ++ F)) := List.perm_middle
  refine ⟨g.bel, g.le, g.big, g.own, fun c hc => ?_, ?_, fun c hc p hp => ?_, fun c hc => ?_⟩
  · rcases List.mem_cons.1 hc with e | e
    · subst e; exact slot_new w _ _
    · exact g.fr c e
  · rw [pm.nodup_iff]
    exact List.nodup_cons.2 ⟨fun hm => Nat.lt_irrefl _ (h.lt _ hm), h.nd⟩
  · rcases List.mem_cons.1 ((pm.mem_iff).1 hc) with e | e
    · have := (h.big p hp).lt; omega
    · exact h.ap c e p hp
  · rcases List.mem_cons.1 ((pm.mem_iff).1 hc) with e | e
    · have := h.le; omega
    · exact h.lo c e
theorem Bo.alloc2 {w0 w : World} {B : Nat} {L O : List (Nat × Int)} {F : List Nat} (h : Bo w0 w B L O F) : Bo w0 ((w.alloc (.cells #[.bool false, .slice none 0 0] 55)).alloc (.cells #[.bool false, .slice none 0 0] 55)) B L O ((w.heap.size + 1) :: w.heap.size :: F) := by
  have g := h.alloc.alloc
  rw [World.size_alloc] at g
  exact g
theorem Bo.drewE {w0 w w' : World} {B q : Nat} {L O : List (Nat × Int)} {F : List Nat} (h : Bo w0 w B L O F) (e : w' = w.drewN q) : Bo w0 w' B L O F := by rw [e]; exact h.drewN
theorem Bo.made {w0 w w' : World} {B b : Nat} {x : Int} {L O : List (Nat × Int)} {F : List Nat} (h : Bo w0 w B L O F) (m : Made w w' b x) : Bo w0 w' B ((b, x) :: L) O F := by
  have g := h.below m.2.2
  refine ⟨g.bel, g.le, fun p hp => ?_, g.own, g.fr, h.nd, fun c hc p hp => ?_, h.lo⟩
  · rcases List.mem_cons.1 hp with e | e
    · subst e; exact m.2.1
    · exact g.big p e
  · rcases List.mem_cons.1 hp with e | e
    · subst e; have := h.lt c hc; have := m.1; simp; omega
    · exact h.ap c hc p e
/-- A fresh place is given a number. -/
theorem Bo.give {w0 w w' : World} {B z : Nat} {x : Int} {L O : List (Nat × Int)} {F : List Nat} (h : Bo w0 w B L O (z :: F)) (hx : BigAt w' z x) (u : Upd z w w') : Bo w0 w' B L ((z, x) :: O) F := by
  have hz : Slot w z := h.fr z (by simp)
  have pm : (O.map Prod.fst ++ z :: F).Perm (z :: (O.map Prod.fst ++ F)) := List.perm_middle
  have nd := h.nd
  rw [pm.nodup_iff, List.nodup_cons] at nd
  have hzB : B ≤ z := h.lo z (by simp)
  refine ⟨h.bel.trans (u.below h.le hzB), Nat.le_trans h.le u.size, fun p hp => (h.big p hp).upd u hz (h.ap z (by simp) p hp), fun p hp => ?_, fun c hc => ?_, ?_, fun c hc p hp => h.ap c ((pm.mem_iff).2 hc) p hp, fun c hc => h.lo c ((pm.mem_iff).2 hc)⟩
  · rcases List.mem_cons.1 hp with e | e
    · subst e; exact hx
    · refine (h.own p e).upd u hz (fun e2 => nd.1 ?_)
      rw [← e2]; exact List.mem_append_left _ (List.mem_map.2 ⟨p, e, rfl⟩)
  · exact (h.fr c (List.mem_cons_of_mem _ hc)).upd u (fun e => nd.1 (by rw [← e]; exact List.mem_append_right _ hc))
  · exact List.nodup_cons.2 nd
/-- A number of one's own changes. -/
theorem Bo.turn {w0 w w' : World} {B z : Nat} {x x' : Int} {L O : List (Nat × Int)} {F : List Nat} (h : Bo w0 w B L ((z, x) :: O) F) (hx : BigAt w' z x') (u : Upd z w w') : Bo w0 w' B L ((z, x') :: O) F := by
  have hb : BigAt w z x := h.own (z, x) (by simp)
  have hz : Slot w z := by obtain ⟨s, h1, _⟩ := hb; exact ⟨_, s, h1⟩
  have nd := h.nd
  rw [List.map_cons, List.cons_append, List.nodup_cons] at nd
  have hzB : B ≤ z := h.lo z (by simp)
  refine ⟨h.bel.trans (u.below h.le hzB), Nat.le_trans h.le u.size, fun p hp => (h.big p hp).upd u hz (h.ap z (by simp) p hp), fun p hp => ?_, fun c hc => ?_, h.nd, h.ap, h.lo⟩
  · rcases List.mem_cons.1 hp with e | e
    · subst e; exact hx
    · refine (h.own p (List.mem_cons_of_mem _ e)).upd u hz (fun e2 => nd.1 ?_)
      rw [← e2]; exact List.mem_append_left _ (List.mem_map.2 ⟨p, e, rfl⟩)
  · exact (h.fr c hc).upd u (fun e => nd.1 (by rw [← e]; exact List.mem_append_right _ hc))
/-- What isn't asked any longer is left out. -/
theorem Bo.drop {w0 w : World} {B : Nat} {p : Nat × Int} {L O : List (Nat × Int)} {F : List Nat} (h : Bo w0 w B L (p :: O) F) : Bo w0 w B L O F := by
  have nd := h.nd
  rw [List.map_cons, List.cons_append, List.nodup_cons] at nd
  exact ⟨h.bel, h.le, h.big, fun q hq => h.own q (List.mem_cons_of_mem _ hq), h.fr, nd.2, fun c hc => h.ap c (by rw [List.map_cons, List.cons_append]; exact List.mem_cons_of_mem _ hc), fun c hc => h.lo c (by rw [List.map_cons, List.cons_append]; exact List.mem_cons_of_mem _ hc)⟩
theorem Bo.swap {w0 w : World} {B : Nat} {p q : Nat × Int} {L O : List (Nat × Int)} {F : List Nat} (h : Bo w0 w B L (p :: q :: O) F) : Bo w0 w B L (q :: p :: O) F := by
  have pm : (((q :: p :: O).map Prod.fst) ++ F).Perm (((p :: q :: O).map Prod.fst) ++ F) := by
    simp only [List.map_cons, List.cons_append]; exact List.Perm.swap _ _ _
  exact ⟨h.bel, h.le, h.big, fun r hr => h.own r (by simp only [List.mem_cons] at hr ⊢; exact hr.elim (fun e => .inr (.inl e)) (fun e => e.elim .inl (fun e => .inr (.inr e)))), h.fr, (pm.nodup_iff).2 h.nd, fun c hc => h.ap c ((pm.mem_iff).1 hc), fun c hc => h.lo c ((pm.mem_iff).1 hc)⟩
/-- A number of one's own is only read from here on. -/
theorem Bo.keep {w0 w : World} {B : Nat} {p : Nat × Int} {L O : List (Nat × Int)} {F : List Nat} (h : Bo w0 w B L (p :: O) F) : Bo w0 w B (p :: L) O F := by
  have nd := h.nd
  rw [List.map_cons, List.cons_append, List.nodup_cons] at nd
  have d := h.drop
  refine ⟨d.bel, d.le, fun q hq => ?_, d.own, d.fr, d.nd, fun c hc q hq => ?_, d.lo⟩
  · rcases List.mem_cons.1 hq with e | e
    · subst e; exact h.own q (by simp)
    · exact h.big q e
  · rcases List.mem_cons.1 hq with e | e
    · subst e; intro e2; exact nd.1 (by rw [e2]; exact hc)
    · exact d.ap c hc q e
theorem Bo.sub {w0 w : World} {B : Nat} {L L' O : List (Nat × Int)} {F : List Nat} (h : Bo w0 w B L O F) (hL : ∀ p ∈ L', p ∈ L) : Bo w0 w B L' O F :=
  ⟨h.bel, h.le, fun p hp => h.big p (hL p hp), h.own, h.fr, h.nd, fun c hc p hp => h.ap c hc p (hL p hp), h.lo⟩
theorem Bo.also {w0 w : World} {B b : Nat} {x : Int} {L : List (Nat × Int)} (h : Bo w0 w B L [] []) (hx : BigAt w b x) : Bo w0 w B ((b, x) :: L) [] [] :=
  ⟨h.bel, h.le, fun p hp => by
    rcases List.mem_cons.1 hp with e | e
    · subst e; exact hx
    · exact h.big p e, h.own, h.fr, h.nd, fun c hc => by simp at hc, h.lo⟩

end Go.Proofs.YtcnfhndejkngkaaGreatDoor
end
