/- RegionG within a fence, in a round too: a region that draws its order, holds loads beside calls, and ends in one call (number g). No operation of it is a defer statement. -/
import Derived.Test.YtmifenflbaohnaaDoorJnD
import Derived.OrdersIn
import Derived.OwnWalkIn
set_option linter.unusedSimpArgs false
set_option linter.unusedVariables false
set_option maxRecDepth 100000
namespace Go.Proofs.YtmifenflbaohnaaDoor
open Go.RowKit

section
variable {F : Fence} {n : Nat} {P : Program} {ops : Array Oper} {Q : Exit → Act → World → Prop} {md : Region.Mode} {S : World → Prop}

def noDefer (ops : Array Oper) : Bool := ops.all fun o => match o.op with | .defer _ => false | _ => true
theorem noDefer_spec (h : noDefer ops = true) : ∀ (j : Nat) (o : Oper), ops[j]? = some o → ∀ c, o.op ≠ .defer c := by
  intro j o ho c hc
  rw [noDefer, Array.all_eq_true] at h
  obtain ⟨hj, e⟩ := Array.getElem?_eq_some_iff.1 ho
  have := h j hj
  rw [e, hc] at this
  cases this

theorem yieldsIf_wpOpIn {i : Nat} {o : Oper} {v : Value} {a : Act} (hd : ∀ c, o.op ≠ .defer c) (hi : ops[i]? = some o) (hy : YieldsIf P ops S o v a) (hb : ∀ w, o.about P w a.eval = none)
    {K : Act → World → Prop} {w : World} (hS : S w) (h : K (a.put o.dst v) w) : wpOpIn F n P ops Q i K a w := by
  unfold Go.wpOpIn
  simp only [hi]
  have hab : ∀ f, o.about P w a.eval = some f → F.fn f := fun f hf => by rw [hb w] at hf; cases hf
  rcases hy with ⟨hw, hv⟩ | ⟨hw, rfl⟩
  · simp only [hw, if_true, Oper.wpIn, Oper.semAt_eq _ _ _ hd, hv w hS, Oper.uponIn]; exact ⟨hab, h⟩
  · simp only [hw, Bool.false_eq_true, if_false]; exact ⟨hab, h⟩

theorem wpOpIn_putIf {j : Nat} {oi oj : Oper} {v : Value} (hdj : ∀ c, oj.op ≠ .defer c) (hj : ops[j]? = some oj) (hap : oi.apart ops oj = true)
    (hsi : ∀ cs b, oi.op ≠ .select cs b) (hsj : ∀ cs b, oj.op ≠ .select cs b)
    (hQ : ∀ c a w, Q (.panic c) (a.put oi.dst v) w → Q (.panic c) a w) {K : Act → World → Prop} {a : Act} {w : World}
    (hy : YieldsIf P ops S oi v a) (hb : ∀ w, oi.about P w a.eval = none) (h : wpOpIn F n P ops Q j K (a.put oi.dst v) w) :
    wpOpIn F n P ops Q j (fun a' w' => (YieldsIf P ops S oi v a' ∧ ∀ w, oi.about P w a'.eval = none) ∧ K (a'.put oi.dst v) w') a w := by
  obtain ⟨h1, h2, h3⟩ := Oper.apart_spec hap
  have keep : ∀ (a : Act), (YieldsIf P ops S oi v a ∧ ∀ w, oi.about P w a.eval = none) → ∀ u, (YieldsIf P ops S oi v (a.put oj.dst u) ∧ ∀ w, oi.about P w (a.put oj.dst u).eval = none) := fun a hy u =>
    ⟨hy.1.of_same (execOp_put oi hsi a oj.dst u h3) (wanted_put oi a oj.dst u h3), fun w => by rw [about_put oi w a oj.dst u h3]; exact hy.2 w⟩
  have hyb : YieldsIf P ops S oi v a ∧ ∀ w, oi.about P w a.eval = none := ⟨hy, hb⟩
  unfold wpOpIn at *
  simp only [hj] at *
  rw [wanted_put oj a oi.dst v h1, about_put oj w a oi.dst v h1] at h
  split
  · rename_i hw
    simp only [hw, if_true] at h
    unfold Oper.wpIn at *
    rw [about_put oj w a oi.dst v h1] at h
    refine ⟨h.1, ?_⟩
    have h := h.2
    rw [Oper.semAt_eq _ _ _ hdj, execOp_put oj hsj a oi.dst v h1] at h
    rw [Oper.semAt_eq _ _ _ hdj]
    generalize (execOp a.eval oj).run P w = r at *
    cases r with
    | ok x w' =>
      cases x <;> simp only [Oper.uponIn] at h ⊢
      case value u => exact ⟨keep a hyb u, by rw [← Act.put_comm a v u h2]; exact h⟩
      case skip => exact ⟨keep a hyb _, by rw [← Act.put_comm a v undef h2]; exact h⟩
      case defer d =>
        refine ⟨keep { a with defers := d :: a.defers } ⟨hy.of_same rfl rfl, fun w => hb w⟩ _, ?_⟩
        rw [← Act.put_comm _ v undef h2, ← Act.put_defers]
        exact h
      case enter f args =>
        refine ⟨h.1, CallsIn.mono h.2 fun e w'' he => ?_⟩
        cases e with
        | returned u => exact ⟨keep a hyb u, by rw [← Act.put_comm a v u h2]; exact he⟩
        | panicked c => exact hQ _ _ _ he
        | outgrown => exact he
      case row row args => exact ⟨h.1, RowsIn.mono h.2 fun u w'' he => ⟨keep a hyb u, by rw [← Act.put_comm a v u h2]; exact he⟩⟩
      case round l f tmps assign body =>
        refine ⟨h.1, RoundIn.mono h.2 fun e w'' he => ?_⟩
        cases e with
        | returned u => exact ⟨keep a hyb u, by rw [← Act.put_comm a v u h2]; exact he⟩
        | panicked c => exact hQ _ _ _ he
        | outgrown => exact he
    | halt x w' =>
      cases x <;> simp only [Oper.uponIn] at h ⊢
      case panic u => exact hQ _ _ _ h
  · rename_i hw
    simp only [hw] at h
    exact ⟨h.1, keep a hyb _, by rw [← Act.put_comm a v undef h2]; exact h.2⟩

/-- Whatever order is picked from here on; till g comes up S holds behind every operation. -/
def wpAnyGIn (F : Fence) (n : Nat) (P : Program) (md : Region.Mode) (ops : Array Oper) (Q : Exit → Act → World → Prop) (S : World → Prop) (g : Nat) : Nat → Array Bool → Act → World → Prop
  | 0, listed, a, w => Region.ready md ops listed = [] ∧ Q .normal a w
  | fuel + 1, listed, a, w =>
    (Region.ready md ops listed = [] → Q .normal a w) ∧
    ∀ i ∈ Region.ready md ops listed, wpOpIn F n P ops Q i (fun a' w' => (listed.getD g false = false → i ≠ g → S w') ∧ wpAnyGIn F n P md ops Q S g fuel (listed.setIfInBounds i true) a' w') a w

theorem wpAnyIn_of_G {g : Nat} : ∀ (fuel : Nat) (listed : Array Bool) (a : Act) (w : World), wpAnyGIn F n P md ops Q S g fuel listed a w → wpAnyIn F n P md ops Q fuel listed a w
  | 0, _, _, _, h => h
  | fuel + 1, _, _, _, h => ⟨h.1, fun i hi => wpOpIn_mono (fun a' w' h' => wpAnyIn_of_G fuel _ a' w' h'.2) (h.2 i hi)⟩

theorem wpAnyGIn_first {i g m : Nat} {oi : Oper} {v : Value} (hi : ops[i]? = some oi) (hwt : waitsB md ops i m g = true) (hsel : ∀ (j : Nat) (o : Oper) cs b, ops[j]? = some o → o.op ≠ .select cs b)
    (hdef : ∀ (j : Nat) (o : Oper), ops[j]? = some o → ∀ c, o.op ≠ .defer c)
    (hQ : ∀ c a w, Q (.panic c) (a.put oi.dst v) w → Q (.panic c) a w) :
    ∀ (fuel : Nat) (listed : Array Bool) (a : Act) (w : World), Closed md ops listed → Loose md ops i oi listed → i ∈ Region.ready md ops listed → YieldsIf P ops S oi v a → (∀ w, oi.about P w a.eval = none) → S w →
      wpAnyGIn F n P md ops Q S g fuel (listed.setIfInBounds i true) (a.put oi.dst v) w → wpAnyGIn F n P md ops Q S g (fuel + 1) listed a w
  | 0, listed, a, w, _, _, hr, hy, hb, hS, H => by
    refine ⟨not_none_ready hr, fun j hj => ?_⟩
    by_cases hji : j = i
    · rw [hji] at hj ⊢; exact yieldsIf_wpOpIn (hdef i oi hi) hi hy hb hS ⟨fun _ _ => hS, H⟩
    · exact absurd (ready_mono hj hji) (by rw [H.1]; exact List.not_mem_nil)
  | fuel + 1, listed, a, w, hcl, hlo, hr, hy, hb, hS, H => by
    refine ⟨not_none_ready hr, fun j hj => ?_⟩
    by_cases hji : j = i
    · rw [hji] at hj ⊢; exact yieldsIf_wpOpIn (hdef i oi hi) hi hy hb hS ⟨fun _ _ => hS, H⟩
    obtain ⟨gun, gnr⟩ := waits_unlisted hcl (unlisted_of_ready hr) m g hwt
    have hjg : j ≠ g := fun e => gnr (e ▸ hj)
    have hig : i ≠ g := fun e => gnr (e ▸ hr)
    obtain ⟨jun, oj, hoj, hall⟩ := mem_ready.1 hj
    have step := wpOpIn_putIf (hdef j oj hoj) hoj (hlo j oj hoj hji jun (ready_apart hr hall)) (fun cs b => hsel i oi cs b hi) (fun cs b => hsel j oj cs b hoj) hQ hy hb (H.2 j (ready_mono hj hji))
    refine wpOpIn_mono (fun a' w' h3 => ?_) step
    obtain ⟨⟨y3, b3⟩, s3, r3⟩ := h3
    have sw : S w' := s3 (by rw [getD_set_ne false hig]; exact gun) hjg
    rw [Array.setIfInBounds_comm _ _ (Ne.symm hji)] at r3
    exact ⟨fun _ _ => sw, wpAnyGIn_first hi hwt hsel hdef hQ fuel _ a' w' (hcl.step hj) (hlo.step jun) (ready_mono hr (Ne.symm hji)) y3 b3 sw r3⟩

/-- Take number i first. -/
theorem wpAnyGIn_take {i g : Nat} {oi : Oper} {v : Value} {fuel : Nat} {listed : Array Bool} {a : Act} {w : World} (hi : ops[i]? = some oi)
    (hc : (Region.noSelect ops && Region.free md ops listed i && (Region.ready md ops listed).contains i && closedB md ops listed && waitsB md ops i 12 g && noDefer ops) = true)
    (hQ : ∀ c a w, Q (.panic c) (a.put oi.dst v) w → Q (.panic c) a w) (hy : YieldsIf P ops S oi v a) (hS : S w)
    (h : wpAnyGIn F n P md ops Q S g fuel (listed.setIfInBounds i true) (a.put oi.dst v) w) (hb : ∀ w, oi.about P w a.eval = none := by intro _; rfl) : wpAnyGIn F n P md ops Q S g (fuel + 1) listed a w := by
  simp only [Bool.and_eq_true] at hc
  obtain ⟨⟨⟨⟨⟨hs, hf⟩, hr⟩, hcl⟩, hw⟩, hd⟩ := hc
  exact wpAnyGIn_first hi hw (Region.noSelect_spec hs) (noDefer_spec hd) hQ fuel listed a w (closed_of hcl) (Region.free_spec hi hf) (by simpa using hr) hy hb hS h

/-- One alone may come up, and it is not g: behind it S is to be shown anew. -/
theorem wpAnyGIn_one {i g : Nat} {o : Oper} {fuel : Nat} {listed : Array Bool} {a : Act} {w : World} (ho : ops[i]? = some o) (hr : Region.ready md ops listed = [i])
    (h : ∀ K' : Act → World → Prop, Hid (∀ a w, S w → wpAnyGIn F n P md ops Q S g fuel (listed.setIfInBounds i true) a w → K' a w) → if Region.wanted o (yielded ops a.tmps) = true then Oper.wpIn F n P o a w K' Q else (∀ f, o.about P w a.eval = some f → F.fn f) ∧ K' (a.put o.dst undef) w) : wpAnyGIn F n P md ops Q S g (fuel + 1) listed a w := by
  refine ⟨fun h0 => (by rw [hr] at h0; cases h0), fun j hj => ?_⟩
  rw [hr] at hj
  simp at hj
  subst hj
  exact wpOpIn_step ho fun K' hK => h K' (fun a w h1 h2 => hK a w ⟨fun _ _ => h1, h2⟩)

/-- One alone may come up, and it is g, or comes behind g. -/
theorem wpAnyGIn_last {i g : Nat} {o : Oper} {fuel : Nat} {listed : Array Bool} {a : Act} {w : World} (ho : ops[i]? = some o) (hr : Region.ready md ops listed = [i]) (hg : (listed.getD g false || i == g) = true)
    (h : ∀ K' : Act → World → Prop, Hid (∀ a w, wpAnyGIn F n P md ops Q S g fuel (listed.setIfInBounds i true) a w → K' a w) → if Region.wanted o (yielded ops a.tmps) = true then Oper.wpIn F n P o a w K' Q else (∀ f, o.about P w a.eval = some f → F.fn f) ∧ K' (a.put o.dst undef) w) : wpAnyGIn F n P md ops Q S g (fuel + 1) listed a w := by
  refine ⟨fun h0 => (by rw [hr] at h0; cases h0), fun j hj => ?_⟩
  rw [hr] at hj
  simp at hj
  subst hj
  refine wpOpIn_step ho fun K' hK => h K' (fun a w h1 => hK a w ⟨fun h2 h3 => ?_, h1⟩)
  simp [h3] at hg
  simp [hg] at h2

theorem wpAnyGIn_done {g : Nat} {listed : Array Bool} {a : Act} {w : World} (hr : Region.ready md ops listed = []) (h : Q .normal a w) :
    ∀ fuel, wpAnyGIn F n P md ops Q S g fuel listed a w
  | 0 => ⟨hr, h⟩
  | _ + 1 => ⟨fun _ => h, by rw [hr]; simp⟩

theorem wpIn_region_G {id : Nat} {a : Act} {w : World} (S : World → Prop) (g : Nat) (hm : P.follows .mixedOrders = true) (hS : S w.drew)
    (h : S w.drew → wpAnyGIn F n P .any ops Q S g ops.size (Array.replicate ops.size false) a w.drew) : (Code.region id ops true).wpIn F n P Q a w :=
  wpIn_region_any hm (wpAnyIn_of_G _ _ _ _ (h hS))
end
end Go.Proofs.YtmifenflbaohnaaDoor
