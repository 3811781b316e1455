import Derived.Test.YtknnidbdgfimbaaJnD
import Derived.Scope
import Derived.Maps.AppendAt
import Derived.WalkSmall
import Derived.Test.YtknnidbdgfimbaaTpD
section
/- A scope through which the run goes without a goto, inside a fence. -/
set_option linter.unusedSimpArgs false
set_option linter.unusedVariables false
set_option maxRecDepth 100000
namespace Go.Proofs.Ytknnidbdgfimbaa
open Go.RowKit

section
variable {F : Fence} {n : Nat} {P : Program} {Q : Exit → Act → World → Prop} {a : Act} {w : World}

theorem stepR_scope {b : Frame} {k : List Item} {cs : List Frame} {c : Code} : step P (lone (b.atR a (.code (.scope c) :: k)) cs w) = .next (lone (b.atR a (.code c :: .inScope c :: k)) cs w) :=
  step_lone_go (by simp [stepG, stepG.exec, Frame.atR])
theorem stepR_inScope {b : Frame} {k : List Item} {cs : List Frame} {c : Code} : step P (lone (b.atR a (.inScope c :: k)) cs w) = .next (lone (b.atR a k) cs w) :=
  step_lone_go (by simp [stepG, stepG.exec, Frame.atR])

theorem wpIn_scope_plain {c : Code} (h : c.wpIn F n P (Exit.noGoto Q) a w) : (Code.scope c).wpIn F n P Q a w := by
  intro b k cs hro hb hr
  have h0 : (lone (b.atR a (.code (.scope c) :: k)) cs w).fenced P F := fenced_calm hb hr rfl
  obtain ⟨e, a₁, w₁, hq, harr⟩ := h b (.inScope c :: k) cs hro hb hr
  cases e with
  | goto l => exact hq.elim
  | normal => exact ⟨.normal, a₁, w₁, hq, .head h0 stepR_scope (StepsIn.trans harr (.one (fenced_calm hb hr rfl) stepR_inScope))⟩
  | exit id =>
    have hx : exitTo id (.inScope c :: k) = exitTo id k := by simp [exitTo]
    exact ⟨.exit id, a₁, w₁, hq, fun k' hk => .head h0 stepR_scope (harr.1 k' (by rw [hx]; exact hk)),
      fun hr' hk => let ⟨k₁, h1, h2⟩ := harr.2 hr' (by rw [hx]; exact hk); ⟨k₁, h1, .head h0 stepR_scope h2⟩⟩
  | ret => exact ⟨_, a₁, w₁, hq, .of_steps (.one h0 stepR_scope) harr⟩
  | panic ch => exact ⟨_, a₁, w₁, hq, .of_steps (.one h0 stepR_scope) harr⟩
  | outgrown => exact ⟨_, a₁, w₁, hq, .of_steps (.one h0 stepR_scope) harr⟩
end

end Go.Proofs.Ytknnidbdgfimbaa
end

section
/- prime.rising yields the primes up to 29; it writes into one block of its own. -/
set_option linter.unusedSimpArgs false
set_option linter.unusedVariables false
set_option maxRecDepth 100000
namespace Go.Proofs.Ytknnidbdgfimbaa
open Go.RowKit
attribute [local go_sem] Oper.semAt_some

theorem Try.infoInt : (Try.prog.info? 3).map (fun i => (i.zero, i.size, i.bytes)) = some (some (.int .i64 0), 1, 8) := by kernel_rfl

def ints (l : List Int) : List Value := l.map (Value.int .i64)

def pr10 : List Int := [2, 3, 5, 7, 11, 13, 17, 19, 23, 29]
/-- The primes below m (up to 29). -/
def bef (m : Nat) : List Int := pr10.takeWhile (fun p => decide (p < (m : Int)))

/-- All ahead of place i leave something, and their squares are not above m. -/
def befPassed (m i : Nat) : Prop := ∀ j, j < i → (bef m).getD j 0 * (bef m).getD j 0 ≤ m ∧ (m : Int) % (bef m).getD j 0 ≠ 0
instance (m i : Nat) : Decidable (befPassed m i) := by unfold befPassed; infer_instance

theorem bef_len : ∀ m, m < 30 → (bef m).length ≤ 9 := by decide +kernel
theorem bef_el0 : ∀ m, m < 30 → ∀ i, i < 9 → i < (bef m).length → 2 ≤ (bef m).getD i 0 ∧ (bef m).getD i 0 ≤ 23 := by decide +kernel
theorem bef_yield0 : ∀ m, m < 30 → ∀ i, i < 10 → (2 ≤ m ∧ i ≤ (bef m).length ∧ befPassed m i ∧ (i = (bef m).length ∨ (m : Int) < (bef m).getD i 0 * (bef m).getD i 0)) → (bef m ++ [(m : Int)]).isPrefixOf pr10 = true ∧ (m = 29 ∨ bef (m + 1) = bef m ++ [(m : Int)]) := by decide +kernel
theorem bef_go0 : ∀ m, m < 30 → ∀ i, i < 10 → (2 ≤ m ∧ i < (bef m).length ∧ befPassed m i ∧ ¬ ((m : Int) < (bef m).getD i 0 * (bef m).getD i 0) ∧ (m : Int) % (bef m).getD i 0 = 0) → m < 29 ∧ bef (m + 1) = bef m := by decide +kernel

theorem row_kept {B e n : Nat} {v : Value} {W W' : World} {xs : List Value} (h : W.ownsRow B e 1 v n xs) (k : ∀ g, v.ownBlock = some g → W'.heap[g]? = W.heap[g]?) : W'.ownsRow B e 1 v n xs := by
  obtain ⟨h1, h2⟩ := h
  refine ⟨h1, ?_⟩
  rcases h2 with h3 | ⟨g, cap, cur, h3, h4, h5, h6⟩
  · exact .inl h3
  · exact .inr ⟨g, cap, cur, h3, h4, (k g (by rw [h3]; rfl)).trans h5, h6⟩

end Go.Proofs.Ytknnidbdgfimbaa
end

section
/- The program: package torsion's each and Points. -/
set_option linter.unusedSimpArgs false
set_option linter.unusedVariables false
set_option maxRecDepth 100000
namespace Go.Proofs.Ytknnidbdgfimbaa
open Go.RowKit TN

theorem Try.infoPq : (Try.prog.info? 30).map (fun i => (i.zero, i.size, i.bytes)) = some (some (.agg #[.int .i64 0, .int .i64 0, .bool false]), 3, 24) := by kernel_rfl
theorem tnewsP {b : Nat} {l : List Value} {t : TypeId} {w : World} (h : Cl b l t w) : ∀ j u, l[j]? = some u → w.cell? ((⟨b, 0, none⟩ : Addr).add j) = some u := by
  intro j u hu
  have hadd : (⟨b, 0, none⟩ : Addr).add j = ⟨b, j, none⟩ := by unfold Addr.add; split <;> simp_all
  rw [hadd, h.cell j]
  exact hu
theorem trow_bel {B e n size : Nat} {v : Value} {xs : List Value} {w w' : World} (h : w.ownsRow B e size v n xs) (k : Below w.heap.size w w') : w'.ownsRow B e size v n xs := by
  refine ⟨h.1, ?_⟩
  rcases h.2 with h2 | ⟨g, cap, cur, h2, h3, h4, rest⟩
  · exact .inl h2
  · exact .inr ⟨g, cap, cur, h2, h3, (k.block g (Array.getElem?_eq_some_iff.1 h4).1).trans h4, rest⟩
theorem trow_kept {B e n size : Nat} {v : Value} {xs : List Value} {w w' : World} (h : w.ownsRow B e size v n xs) (k : ∀ g, v.ownBlock = some g → w'.heap[g]? = w.heap[g]?) : w'.ownsRow B e size v n xs := by
  refine ⟨h.1, ?_⟩
  rcases h.2 with h2 | ⟨g, cap, cur, h2, h3, h4, rest⟩
  · exact .inl h2
  · exact .inr ⟨g, cap, cur, h2, h3, (k g (by rw [h2]; rfl)).trans h4, rest⟩
theorem trow_ty {B e n size g : Nat} {v : Value} {xs : List Value} {w : World} (h : w.ownsRow B e size v n xs) (hv : v.ownBlock = some g) : ∃ c, w.heap[g]? = some (.cells c e (0, 0)) := by
  rcases h.2 with ⟨h2, _⟩ | ⟨g', cap, cur, h2, h3, h4, _⟩
  · rw [h2] at hv; simp [Value.ownBlock] at hv
  · rw [h2] at hv
    simp [Value.ownBlock] at hv
    subst hv
    exact ⟨cur, h4⟩
theorem trow_ne {B e n size b t : Nat} {v : Value} {xs c : List Value} {w : World} (h : w.ownsRow B e size v n xs) (hc : Cl b c t w) (ht : t ≠ e) : v.ownBlock ≠ some b := by
  intro hv
  obtain ⟨c', h'⟩ := trow_ty h hv
  unfold Cl at hc
  rw [hc] at h'
  injection h' with h'
  injection h' with _ h2
  exact ht h2
/-- The cells of the points so far. -/
def icl' : Its → List Value
  | [] => []
  | q :: l => Ql q.1 q.2.1 q.2.2.1 ++ icl' l
theorem icl'_append (l k : Its) : icl' (l ++ k) = icl' l ++ icl' k := by
  induction l with
  | nil => rfl
  | cons q l ih => rw [List.cons_append, icl', ih, icl', List.append_assoc]

/-- Points' variable: the list so far. -/
def StP (w0 : World) (bL : Nat) (l : Its) (W : World) : Prop :=
  ∃ (aa : Option Addr) (cc : Nat), Cl bL [.slice aa l.length cc] 25 W ∧ W.ownsRow (bL + 1) 30 3 (.slice aa l.length cc) l.length (icl' l) ∧ Below w0.heap.size w0 W ∧ w0.heap.size ≤ bL
theorem StP.below {w0 : World} {bL : Nat} {l : Its} {W W' : World} (h : StP w0 bL l W) (k : Below W.heap.size W W') : StP w0 bL l W' := by
  obtain ⟨aa, cc, h1, h2, h3, h4⟩ := h
  exact ⟨aa, cc, h1.below k, trow_bel h2 k, h3.trans (k.mono h3.size), h4⟩

set_option maxHeartbeats 2000000 in
theorem pointsOne_any (w0 : World) (bL : Nat) (l : Its) (x y : Int) (f : Bool) (n : Nat) (w : World) (hs : StP w0 bL l w) (hl : l.length ≤ 4000) :
    Calls Try.prog 19 #[.agg #[.int .i64 x, .int .i64 y, .bool f], .int .i64 n, .pointer (some ⟨bL, 0, none⟩)] w fun e w' => (∃ v, e = .returned v) ∧ StP w0 bL (l ++ [(x, y, f, n)]) w' ∧ Kp w w' := by
  obtain ⟨k0, hk, hx0, hx1, hx2⟩ := info_parts Try.infoPq
  have HP : Hid (Try.prog.info? 30 = some k0 ∧ k0.zero = some (.agg #[.int .i64 0, .int .i64 0, .bool false]) ∧ k0.size = 3 ∧ k0.bytes = 24) := ⟨hk, hx0, hx1, hx2⟩
  clear hk hx0 hx1 hx2
  obtain ⟨aa, cc, h1, h2, h3, h4⟩ := hs
  have L0 : ∀ o : Obj, (w.alloc o).cell? ⟨bL, 0, none⟩ = some (.slice aa l.length cc) := fun o => (h1.alloc o).cell 0
  have HA : Hid (Cl bL [.slice aa l.length cc] 25 w ∧ w.ownsRow (bL + 1) 30 3 (.slice aa l.length cc) l.length (icl' l) ∧ Below w0.heap.size w0 w ∧ w0.heap.size ≤ bL) := ⟨h1, h2, h3, h4⟩
  have HZ : Hid (bL < w.heap.size) := h1.lt
  clear h1 h2 h3 h4
  go_enter Try.func19, Try.ntmps19
  go_wp2_with (at_builtin; refine wpList_append_own _ rfl _ _ 25 rfl (bL + 1) 30 k0 (.agg #[.int .i64 0, .int .i64 0, .bool false]) 3 24 Try.underlying25 HP.out.1 HP.out.2.1 HP.out.2.2.1 HP.out.2.2.2 rfl (by decide) (.slice aa l.length cc) l.length (icl' l) rfl ((HA.out.2.1.alloc _).alloc _) ⟨w.heap.size + 1, 0, none⟩ 1 1 [.int .i64 x, .int .i64 y, .bool f] rfl rfl (tnewsP (tcnew _ [.int .i64 x, .int .i64 y, .bool f] 30 (w.heap.size + 1) (by simp))) (by simp [Value.oneCell']) (by simp only [maxLen]; omega) (by omega) (by have := HZ.out; simp <;> omega) ?_; intro v' w6 hown' hgrow _; obtain ⟨g', cap', rfl⟩ := ownsRow_succ hown'; have hrow2 := (HA.out.2.1.alloc (.cells #[.int .i64 x, .int .i64 y, .bool f] 30)).alloc (.cells #[.int .i64 x, .int .i64 y, .bool f] 30); have L6 : Cl bL [.slice aa l.length cc] 25 w6 := ((HA.out.1.alloc _).alloc _).grown hgrow (trow_ne hrow2 ((HA.out.1.alloc _).alloc _) (by decide)); have HL6 : Hid (Cl bL [.slice aa l.length cc] 25 w6) := L6; have c6 : w6.cell? ⟨bL, 0, none⟩ = some (.slice aa l.length cc) := L6.cell 0; have f6 := L6.frozen 0; have HG : Hid (w6.ownsRow (bL + 1) 30 3 (.slice (some ⟨g', 0, none⟩) (l.length + 1) cap') (l.length + 1) (icl' l ++ [.int .i64 x, .int .i64 y, .bool f]) ∧ World.grownBy ((w.alloc (.cells #[.int .i64 x, .int .i64 y, .bool f] 30)).alloc (.cells #[.int .i64 x, .int .i64 y, .bool f] 30)) w6 (Value.slice aa l.length cc).ownBlock) := ⟨hown', hgrow⟩; clear L6 hrow2 hown' hgrow)
  have HE : Hid (StP w0 bL (l ++ [(x, y, f, n)]) (w6.setCell ⟨bL, 0, none⟩ (.slice (some ⟨g', 0, none⟩) (l.length + 1) cap')) ∧ Kp w (w6.setCell ⟨bL, 0, none⟩ (.slice (some ⟨g', 0, none⟩) (l.length + 1) cap'))) := by
    obtain ⟨h1, h2, h3, h4⟩ := HA.out
    obtain ⟨hown', hgrow⟩ := HG.out
    have L6 := HL6.out
    have hrow2 := (h2.alloc (.cells #[.int .i64 x, .int .i64 y, .bool f] 30)).alloc (.cells #[.int .i64 x, .int .i64 y, .bool f] 30)
    have hz := HZ.out
    have al : Below w.heap.size w ((w.alloc (.cells #[.int .i64 x, .int .i64 y, .bool f] 30)).alloc (.cells #[.int .i64 x, .int .i64 y, .bool f] 30)) := (tala _ _).trans ((tala _ _).mono (by simp))
    have hg' : bL + 1 ≤ g' := (hown'.lt g' rfl).1
    refine ⟨⟨some ⟨g', 0, none⟩, cap', ?_, ?_, ?_, h4⟩, ⟨?_, ?_, ?_⟩⟩
    · rw [List.length_append]; exact L6.set 0 _
    · rw [List.length_append, icl'_append]
      refine trow_kept hown' (fun g e => ?_)
      simp [Value.ownBlock] at e
      subst e
      exact Below.heap_setCell w6 ⟨bL, 0, none⟩ _ g' (by show g' ≠ bL; omega)
    · refine ((h3.trans (al.mono h3.size)).grown hgrow (by simp; omega) (fun k e => ?_)).setCell (by show w0.heap.size ≤ bL; omega) _
      have := (hrow2.lt k e).1
      omega
    · have := hgrow.size
      simp at this ⊢
      omega
    · intro b c hc
      refine (((hc.alloc _).alloc _).grown hgrow (trow_ne hrow2 ((hc.alloc _).alloc _) (by decide))).other ?_ _
      intro e
      have e' : b = bL := e
      subst e'
      have := h1.symm.trans hc
      injection this with this
      injection this with _ this
      exact absurd this (by decide)
    · intro b c hc
      refine (((hc.alloc _).alloc _).grown hgrow (trow_ne hrow2 ((hc.alloc _).alloc _) (by decide))).other ?_ _
      intro e
      have e' : b = bL := e
      subst e'
      have := h1.symm.trans hc
      injection this with this
      injection this with _ this
      exact absurd this (by decide)
  exact bodyPost_end (results_none rfl _ _ _) rfl ⟨⟨_, rfl⟩, HE.out⟩
theorem pointsDc (w0 : World) (bL : Nat) : Dc 19 #[.pointer (some ⟨bL, 0, none⟩)] (StP w0 bL) :=
  ⟨fun l W W' h k => h.below k, fun l x y f n W h hl _ => pointsOne_any w0 bL l x y f n W h hl⟩

set_option maxHeartbeats 400000 in
theorem eachP_any (w0 : World) (bL : Nat) (a b : Int) (w : World) (h : Cu a b) (hs : StP w0 bL [] w) :
    Calls Try.prog 18 #[Tv a b, .func (.func 19) #[] #[.pointer (some ⟨bL, 0, none⟩)]] w fun e w' => (∃ v, e = .returned v) ∧ StP w0 bL ((0, 0, true, 1) :: lkI a b) w' := by
  have HD : Hid (Dc 19 #[.pointer (some ⟨bL, 0, none⟩)] (StP w0 bL)) := pointsDc w0 bL
  have HC : Hid (Cu a b) := h
  have HS0 : Hid (Sx 19 #[.pointer (some ⟨bL, 0, none⟩)] (StP w0 bL) w.heap.size (w.heap.size + 1) a b [] ((w.alloc (.cells #[.int .i64 a, .int .i64 b, .int .i64 (dis a b)] 45)).alloc (.cells #[.func (.func 19) #[] #[.pointer (some ⟨bL, 0, none⟩)]] 48))) :=
    ⟨hs.below ((tala _ _).trans ((tala _ _).mono (by simp))), (Cl.new (Tl a b) _ w).alloc _, tcnew _ [.func (.func 19) #[] #[.pointer (some ⟨bL, 0, none⟩)]] _ _ (by simp)⟩
  clear h hs
  unfold Tv
  go_enter Try.func18, Try.ntmps18
  go_wp2_with fail
  refine (HD.out.call [] 0 0 true 1 _ HS0.out.s (by simp) (by omega)).mono ?_
  rintro e w1 ⟨⟨v, rfl⟩, s1, k1⟩
  have S1 : Sx 19 #[.pointer (some ⟨bL, 0, none⟩)] (StP w0 bL) w.heap.size (w.heap.size + 1) a b [(0, 0, true, 1)] w1 := ⟨s1, k1.g _ _ HS0.out.g, k1.f _ _ HS0.out.d⟩
  have HS1 : Hid (Sx 19 #[.pointer (some ⟨bL, 0, none⟩)] (StP w0 bL) w.heap.size (w.heap.size + 1) a b [(0, 0, true, 1)] w1) := S1
  have g0 : w1.cell? ⟨w.heap.size, 0, none⟩ = some (.int .i64 a) := S1.g.cell 0
  have g1 : w1.cell? ⟨w.heap.size, 1, none⟩ = some (.int .i64 b) := S1.g.cell 1
  have g2 : w1.cell? ⟨w.heap.size, 2, none⟩ = some (.int .i64 (dis a b)) := S1.g.cell 2
  clear s1 k1 S1 HS0
  go_wp2_with fail
  refine (eachLikely_any 19 #[.pointer (some ⟨bL, 0, none⟩)] (StP w0 bL) a b [(0, 0, true, 1)] w.heap.size (w.heap.size + 1) w1 HC.out (by simp) HD.out (fun l x y W hl hn hs => eachOneP bL (StP w0 bL) HD.out a b x y l _ _ W HC.out hl hs hn) HS1.out).mono ?_
  rintro e w2 ⟨⟨v2, rfl⟩, s2⟩
  have HE : Hid (StP w0 bL ((0, 0, true, 1) :: lkI a b) w2) := by
    have h2 := s2.s
    rw [List.singleton_append] at h2
    exact h2
  clear s2
  go_wp2
  exact bodyPost_end (results_none rfl _ _ _) rfl ⟨⟨_, rfl⟩, HE.out⟩

end Go.Proofs.Ytknnidbdgfimbaa
end
