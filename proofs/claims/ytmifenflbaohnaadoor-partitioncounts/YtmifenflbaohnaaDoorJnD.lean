import Derived.Test.YtmifenflbaohnaaDoorLgM
import Derived.Test.YtmifenflbaohnaaDoorPrimeL
import Derived.Test.YtmifenflbaohnaaDoorJnC
import Derived.Test.YtmifenflbaohnaaDoorRsK
import Derived.Maps.AppendAt
import Derived.Test.YtmifenflbaohnaaDoorRows
import Derived.WalkKit
import Derived.OrdersHeld
import Derived.Deep.RegionWith
section
/- Package long: numbers by limbs: what a slice holds; carried, Of, limb. -/
set_option linter.unusedSimpArgs false
set_option linter.unusedVariables false
set_option maxRecDepth 100000
namespace Go.Proofs.YtmifenflbaohnaaDoor
open Go.RowKit LgM

def nz (l : List Nat) : List Int := l.map (fun x : Nat => (x : Int))
theorem nz_len (l : List Nat) : (nz l).length = l.length := by simp [nz]
theorem nz_append (x y : List Nat) : nz (x ++ y) = nz x ++ nz y := by simp [nz]

theorem IS.ownL {w : World} {base k : Nat} {v : Value} {l : List Int} (hk : l.length = k) (h : w.ownsRow base 3 1 v k (ints l)) : IS w v l := by
  subst hk
  obtain ⟨_, ⟨h1, h2⟩ | ⟨g, cap, cur, e1, _, e3, e4, _, e6, e7⟩⟩ := h
  · exact ⟨none, 0, 0, 0, by rw [h1, h2], fun h => by omega, fun i hi => by omega, fun h => by omega⟩
  · refine ⟨some ⟨g, 0, none⟩, g, 0, cap, e1, fun _ => rfl, fun i hi => ?_, fun _ => lt_of_some e3⟩
    have h3 : (cur.toList.take (l.length * 1))[i]? = (ints l)[i]? := by rw [e7]
    rw [List.getElem?_take, if_pos (by omega)] at h3
    simp only [World.cell?, e3, Nat.zero_add]
    rw [← Array.getElem?_toList, h3]
    simp [ints, hi, List.getD_eq_getElem?_getD]
theorem IS.belowL {w w' : World} {s : Value} {xs : List Int} (h : IS w s xs) (k : Below w.heap.size w w') : IS w' s xs := by
  obtain ⟨a, g, o, c, e, p, cell, lt⟩ := h.shape
  refine ⟨a, g, o, c, e, p, fun i hi => ?_, fun hp => Nat.lt_of_lt_of_le (lt hp) k.size⟩
  rw [k.cell (p := ⟨g, o + i, none⟩) (lt (by omega))]; exact cell i hi
theorem IS.nilL (w : World) : IS w (.slice none 0 0) [] := ⟨none, 0, 0, 0, rfl, fun h => by simp at h, fun i hi => by simp at hi, fun h => by simp at h⟩

/-- The block holds ints. -/
def TyB (w : World) (b : Nat) : Prop := ∃ arr fr, w.heap[b]? = some (.cells arr 3 fr)
theorem TyB.below {w w' : World} {b : Nat} (h : TyB w b) (k : Below w.heap.size w w') : TyB w' b := by
  obtain ⟨arr, fr, h⟩ := h
  exact ⟨arr, fr, (k.block b (lt_of_some h)).trans h⟩
theorem TyB.set {w : World} {b : Nat} (h : TyB w b) (p : Addr) (v : Value) : TyB (w.setCell p v) b := by
  obtain ⟨arr, fr, h⟩ := h
  by_cases e : b = p.block
  · subst e
    refine ⟨if p.spot.isSome = true then arr else arr.setIfInBounds p.off v, fr, ?_⟩
    simp only [World.setCell, Array.getElem?_modify]
    rw [h]
    simp
  · exact ⟨arr, fr, (Below.heap_setCell w p v b e).trans h⟩
/-- The slice's array, if it has one, holds ints. -/
def TyI (w : World) (v : Value) : Prop := ∀ a k c, v = .slice (some a) k c → 0 < k → TyB w a.block
theorem TyI.below {w w' : World} {v : Value} (h : TyI w v) (k : Below w.heap.size w w') : TyI w' v := fun a l c e hl => (h a l c e hl).below k
theorem TyI.set {w : World} {v : Value} (h : TyI w v) (p : Addr) (u : Value) : TyI (w.setCell p u) v := fun a l c e hl => (h a l c e hl).set p u
theorem TyI.ownL {w : World} {base k : Nat} {v : Value} {xs : List Value} (h : w.ownsRow base 3 1 v k xs) : TyI w v := by
  intro a l c e hl
  obtain ⟨_, ⟨h1, _⟩ | ⟨g, cap, cur, e1, _, e3, _⟩⟩ := h
  · rw [h1] at e; simp at e
  · rw [e1] at e
    simp only [Value.slice.injEq, Option.some.injEq] at e
    obtain ⟨rfl, _⟩ := e
    exact ⟨cur, _, e3⟩
/-- The slice holds the number n: its limbs, no more. -/
def LN (w : World) (v : Value) (n : Nat) : Prop := ∃ k, Nd k n ∧ IS w v (nz (dgl k n)) ∧ TyI w v
theorem LN.below {w w' : World} {v : Value} {n : Nat} (h : LN w v n) (k : Below w.heap.size w w') : LN w' v n := by
  obtain ⟨i, h1, h2, h3⟩ := h; exact ⟨i, h1, h2.belowL k, h3.below k⟩
theorem LN.zero (w : World) : LN w (.slice none 0 0) 0 := ⟨0, Nd.zero, IS.nilL w, fun a k c e => by simp at e⟩

theorem ints_snoc (l : List Nat) (x : Int) : ints (nz l) ++ [.int .i64 x] = ints (nz l ++ [x]) := by simp [ints]
theorem limb_int (q : Nat) : ((q : Int) % 1000000000) = ((q % Bs : Nat) : Int) := by rw [Int.natCast_emod]; rfl

set_option maxHeartbeats 1000000 in
theorem carried_any (B i n m : Nat) (a : Option Addr) (c : Nat) (w : World) (hrow : w.ownsRow B 3 1 (.slice a i c) i (ints (nz (dgl i n)))) (hB : B ≤ w.heap.size) (hq : n / Bs ^ i ≤ 9000000000000000000) (hm : n < Bs ^ m) (him : i ≤ m) (hm2 : m ≤ 1000000000) :
    Calls Tryd.prog 54 #[.slice a i c, .int .i64 ((n / Bs ^ i : Nat) : Int)] w fun e w' => ∃ k a' c', e = .returned (.slice a' k c') ∧ (n < Bs ^ k ∧ (k = i ∨ Bs ^ (k - 1) ≤ n)) ∧ w'.ownsRow B 3 1 (.slice a' k c') k (ints (nz (dgl k n))) ∧ Below B w w' := by
  obtain ⟨i0, hi, hz0, hz1, hz2⟩ := info_parts Tryd.infoInt
  have HI : Hid (Tryd.prog.info? 3 = some i0 ∧ i0.zero = some (.int .i64 0) ∧ i0.size = 1 ∧ i0.bytes = 8) := ⟨hi, hz0, hz1, hz2⟩
  clear hi hz0 hz1 hz2
  have HR0 : Hid (w.ownsRow B 3 1 (.slice a i c) i (ints (nz (dgl i n)))) := hrow
  clear hrow
  obtain ⟨q, hqe⟩ : ∃ q, q = n / Bs ^ i := ⟨_, rfl⟩
  have HQ : Hid (q = n / Bs ^ i) := hqe
  have HM : Hid (n < Bs ^ m) := hm
  rw [← hqe] at hq ⊢
  clear hqe hm
  go_enter Tryd.func54, Tryd.ntmps54
  go_wp2
  go_loopw [0, 1] (fun lv cv wx => ∃ (k q : Nat) (a' : Option Addr) (c' : Nat), lv = .slice a' k c' ∧ cv = .int .i64 (q : Int) ∧ q ≤ 9000000000000000000 ∧ k ≤ m ∧ Hid ((q = n / Bs ^ k ∧ (k = i ∨ Bs ^ (k - 1) ≤ n)) ∧ wx.ownsRow B 3 1 (.slice a' k c') k (ints (nz (dgl k n))) ∧ Below B w wx)) (fun _ cv _ => (intOf cv).toNat)
  case atStart => exact ⟨i, q, a, c, rfl, rfl, hq, him, ⟨HQ.out, .inl rfl⟩, HR0.out, Below.refl _ _⟩
  case round =>
    clear HQ HR0 him hq
    obtain ⟨k, q, a', c', rfl, rfl, hq, hkm, HR⟩ := hrel
    by_cases h0 : q = 0
    · subst h0
      go_wp2
      go_ret
      obtain ⟨⟨e1, e2⟩, e3, e4⟩ := HR.out
      refine ⟨k, a', c', rfl, ⟨?_, e2⟩, e3, e4⟩
      rcases Nat.lt_or_ge n (Bs ^ k) with h | h
      · exact h
      · have := Nat.div_pos h (bs_pos k); omega
    · have hge : Bs ^ k ≤ n := by
        have := HR.out.1.1
        rcases Nat.lt_or_ge n (Bs ^ k) with h | h
        · rw [Nat.div_eq_of_lt h] at this; omega
        · exact h
      have hkm2 : k < m := by
        rcases Nat.lt_or_ge k m with h | h
        · exact h
        · have := Nat.pow_le_pow_right (show 0 < Bs by decide) h; have := HM.out; omega
      have HGE : Hid (Bs ^ k ≤ n) := hge
      have hpos : decide ((0 : Int) < (q : Int)) = true := decide_eq_true (by omega)
      have hwz := HR.out.2.2.size
      clear hge
      go_wp2_with (at_builtin; refine wpList_append_own _ rfl _ _ 36 rfl B 3 i0 (.int .i64 0) 1 8 Tryd.underlying36 HI.out.1 HI.out.2.1 HI.out.2.2.1 HI.out.2.2.2 rfl (by decide) (.slice a' k c') k (ints (nz (dgl k n))) rfl (HR.out.2.1.alloc _) ⟨wr.heap.size, 0, none⟩ 1 1 [.int .i64 ((q : Int) % 1000000000)] rfl rfl (cell_one_new _ _ _) (by simp [Value.oneCell']) (by simp only [maxLen]; omega) (by omega) (by simp; omega) ?_; intro v' w1 hown' hgrow _; obtain ⟨g', cap', rfl⟩ := ownsRow_succ hown')
      have HN : Hid (w1.ownsRow B 3 1 (.slice (some ⟨g', 0, none⟩) (k + 1) cap') (k + 1) (ints (nz (dgl (k + 1) n))) ∧ Below B w w1) := by
        refine ⟨?_, ((HR.out.2.2.alloc (by omega) _).grown hgrow (by simp; omega) (fun g e => (HR.out.2.1.lt g e).1))⟩
        rw [dgl_succ, nz_append]
        have e : nz [n / Bs ^ k % Bs] = [(q : Int) % 1000000000] := by rw [← HR.out.1.1, limb_int]; rfl
        rw [e, ← ints_snoc]
        exact hown'
      clear hown' hgrow
      go_roundw
      case rel =>
        refine ⟨k + 1, q / 1000000000, _, _, rfl, by go_num, by omega, by omega, ⟨?_, .inr ?_⟩, HN.out⟩
        · rw [div_s, ← HR.out.1.1]
        · exact HGE.out
      case measure => simp [intOf]; omega

end Go.Proofs.YtmifenflbaohnaaDoor
end

section
/- A region that draws its order, holds loads beside calls, and ends in one call (number g) that may write the very cells that were loaded: what g waits for may be taken first. -/
set_option linter.unusedSimpArgs false
set_option linter.unusedVariables false
set_option maxRecDepth 100000
namespace Go.Proofs.YtmifenflbaohnaaDoor
open Go.RowKit

section
variable {P : Program} {ops : Array Oper} {Q : Exit → Act → World → Prop} {md : Region.Mode} {S : World → Prop}

/-- Number g waits for number i, by a chain of edges. -/
def waitsB (md : Region.Mode) (ops : Array Oper) (i : Nat) : Nat → Nat → Bool
  | 0, _ => false
  | fuel + 1, g => match ops[g]? with
    | none => false
    | some o => o.after.any fun e => Region.binds md e && (e.on == i || waitsB md ops i fuel e.on)

/-- What has come up has come up behind all that it waits for. -/
def Closed (md : Region.Mode) (ops : Array Oper) (listed : Array Bool) : Prop :=
  ∀ j oj, ops[j]? = some oj → listed.getD j false = true → ∀ e ∈ oj.after, Region.binds md e = true → listed.getD e.on false = true

def closedB (md : Region.Mode) (ops : Array Oper) (listed : Array Bool) : Bool :=
  (List.range ops.size).all fun j => match ops[j]? with
    | none => true
    | some oj => !listed.getD j false || oj.after.all fun e => !Region.binds md e || listed.getD e.on false

theorem closed_of {listed : Array Bool} (h : closedB md ops listed = true) : Closed md ops listed := by
  intro j oj hj hl e he hb
  simp only [closedB, List.all_eq_true, List.mem_range] at h
  have h1 := h j (Array.getElem?_eq_some_iff.1 hj).1
  simp only [hj, hl, Bool.not_true, Bool.false_or, Array.all_eq_true] at h1
  obtain ⟨k, hk, rfl⟩ := Array.getElem_of_mem he
  have h2 := h1 k hk
  simp only [hb, Bool.not_true, Bool.false_or] at h2
  exact h2

theorem Closed.step {listed : Array Bool} {j : Nat} (h : Closed md ops listed) (hj : j ∈ Region.ready md ops listed) : Closed md ops (listed.setIfInBounds j true) := by
  obtain ⟨_, o, ho, hall⟩ := mem_ready.1 hj
  intro k ok hk hl e he hb
  by_cases hkj : j = k
  · subst hkj
    rw [ho] at hk; cases hk
    exact getD_set_true (hall e he hb)
  · rw [getD_set_ne false hkj] at hl
    exact getD_set_true (h k ok hk hl e he hb)

theorem waits_unlisted {i : Nat} {listed : Array Bool} (hc : Closed md ops listed) (hi : listed.getD i false = false) :
    ∀ (fuel g : Nat), waitsB md ops i fuel g = true → listed.getD g false = false ∧ g ∉ Region.ready md ops listed := by
  intro fuel
  induction fuel with
  | zero => intro g h; simp [waitsB] at h
  | succ n ih =>
    intro g h
    simp only [waitsB] at h
    cases ho : ops[g]? with
    | none => simp [ho] at h
    | some o =>
      simp only [ho, Array.any_eq_true, Bool.and_eq_true, Bool.or_eq_true, beq_iff_eq] at h
      obtain ⟨k, hk, hb, h2⟩ := h
      have hun : listed.getD o.after[k].on false = false := by
        rcases h2 with h2 | h2
        · rw [h2]; exact hi
        · exact (ih _ h2).1
      have hmem : o.after[k] ∈ o.after := Array.getElem_mem hk
      constructor
      · cases hg : listed.getD g false
        · rfl
        · have := hc g o ho hg _ hmem hb
          rw [hun] at this; cases this
      · intro hr
        obtain ⟨_, o', ho', hall⟩ := mem_ready.1 hr
        rw [ho] at ho'; cases ho'
        have := hall _ hmem hb
        rw [hun] at this; cases this

/-- Whatever order is picked from here on; till g comes up S holds behind every operation. -/
def wpAnyG (P : Program) (md : Region.Mode) (ops : Array Oper) (Q : Exit → Act → World → Prop) (S : World → Prop) (g : Nat) : Nat → Array Bool → Act → World → Prop
  | 0, listed, a, w => Region.ready md ops listed = [] ∧ Q .normal a w
  | fuel + 1, listed, a, w =>
    (Region.ready md ops listed = [] → Q .normal a w) ∧
    ∀ i ∈ Region.ready md ops listed, wpOp P ops Q i (fun a' w' => (listed.getD g false = false → i ≠ g → S w') ∧ wpAnyG P md ops Q S g fuel (listed.setIfInBounds i true) a' w') a w

theorem wpAny_of_G {g : Nat} : ∀ (fuel : Nat) (listed : Array Bool) (a : Act) (w : World), wpAnyG P md ops Q S g fuel listed a w → wpAny P md ops Q fuel listed a w
  | 0, _, _, _, h => h
  | fuel + 1, _, _, _, h => ⟨h.1, fun i hi => wpOp_mono (fun a' w' h' => wpAny_of_G fuel _ a' w' h'.2) (h.2 i hi)⟩

theorem unlisted_of_ready {i : Nat} {listed : Array Bool} (h : i ∈ Region.ready md ops listed) : listed.getD i false = false := by
  have h0 := (mem_ready.1 h).1
  rcases Nat.lt_or_ge i listed.size with h' | h'
  · simp [h'] at h0 ⊢; exact h0
  · simp [h']

/-- Whatever has not come up and waits not for number i is apart from it. -/
def Loose (md : Region.Mode) (ops : Array Oper) (i : Nat) (oi : Oper) (listed : Array Bool) : Prop :=
  ∀ j oj, ops[j]? = some oj → j ≠ i → listed.getD j true = false → (∀ e ∈ oj.after, Region.binds md e = true → e.on ≠ i) → oi.apart ops oj = true

theorem Loose.step {i j : Nat} {oi : Oper} {listed : Array Bool} (h : Loose md ops i oi listed) (hj : listed.getD j true = false) : Loose md ops i oi (listed.setIfInBounds j true) := by
  intro k ok hk hki hun hno
  by_cases e : j = k
  · exact h k ok hk hki (e ▸ hj) hno
  · exact h k ok hk hki (by rwa [getD_set_ne true e] at hun) hno

/-- Of two that may come up neither waits for the other. -/
theorem ready_apart {i : Nat} {listed : Array Bool} (hi : i ∈ Region.ready md ops listed) {oj : Oper} (hall : ∀ e ∈ oj.after, Region.binds md e = true → listed.getD e.on false = true) :
    ∀ e ∈ oj.after, Region.binds md e = true → e.on ≠ i := by
  intro e he hb hei
  have h1 := hall e he hb
  rw [hei, unlisted_of_ready hi] at h1
  cases h1

theorem not_none_ready {i : Nat} {listed : Array Bool} {p : Prop} (hi : i ∈ Region.ready md ops listed) : Region.ready md ops listed = [] → p := fun h0 => by
  rw [h0] at hi; exact absurd hi (List.not_mem_nil)

theorem wpAnyG_first {i g n : Nat} {oi : Oper} {v : Value} (hi : ops[i]? = some oi) (hwt : waitsB md ops i n g = true) (hsel : ∀ (j : Nat) (o : Oper) cs b, ops[j]? = some o → o.op ≠ .select cs b)
    (hQ : ∀ c a w, Q (.panic c) (a.put oi.dst v) w → Q (.panic c) a w) :
    ∀ (fuel : Nat) (listed : Array Bool) (a : Act) (w : World), Closed md ops listed → Loose md ops i oi listed → i ∈ Region.ready md ops listed → YieldsIf P ops S oi v a → S w →
      wpAnyG P md ops Q S g fuel (listed.setIfInBounds i true) (a.put oi.dst v) w → wpAnyG P md ops Q S g (fuel + 1) listed a w
  | 0, listed, a, w, _, _, hr, hy, hS, H => by
    refine ⟨not_none_ready hr, fun j hj => ?_⟩
    by_cases hji : j = i
    · rw [hji] at hj ⊢; exact hy.wpOp hi hS ⟨fun _ _ => hS, H⟩
    · exact absurd (ready_mono hj hji) (by rw [H.1]; exact List.not_mem_nil)
  | fuel + 1, listed, a, w, hcl, hlo, hr, hy, hS, H => by
    refine ⟨not_none_ready hr, fun j hj => ?_⟩
    by_cases hji : j = i
    · rw [hji] at hj ⊢; exact hy.wpOp hi hS ⟨fun _ _ => hS, H⟩
    obtain ⟨gun, gnr⟩ := waits_unlisted hcl (unlisted_of_ready hr) n g hwt
    have hjg : j ≠ g := fun e => gnr (e ▸ hj)
    have hig : i ≠ g := fun e => gnr (e ▸ hr)
    obtain ⟨jun, oj, hoj, hall⟩ := mem_ready.1 hj
    have step := wpOp_putIf hoj (hlo j oj hoj hji jun (ready_apart hr hall)) (fun cs b => hsel i oi cs b hi) (fun cs b => hsel j oj cs b hoj) hQ hy (H.2 j (ready_mono hj hji))
    refine wpOp_mono (fun a' w' h3 => ?_) step
    obtain ⟨y3, s3, r3⟩ := h3
    have sw : S w' := s3 (by rw [getD_set_ne false hig]; exact gun) hjg
    rw [Array.setIfInBounds_comm _ _ (Ne.symm hji)] at r3
    exact ⟨fun _ _ => sw, wpAnyG_first hi hwt hsel hQ fuel _ a' w' (hcl.step hj) (hlo.step jun) (ready_mono hr (Ne.symm hji)) y3 sw r3⟩

/-- Take number i first. -/
theorem wpAnyG_take {i g : Nat} {oi : Oper} {v : Value} {fuel : Nat} {listed : Array Bool} {a : Act} {w : World} (hi : ops[i]? = some oi)
    (hc : (Region.noSelect ops && Region.free md ops listed i && (Region.ready md ops listed).contains i && closedB md ops listed && waitsB md ops i 12 g) = true)
    (hQ : ∀ c a w, Q (.panic c) (a.put oi.dst v) w → Q (.panic c) a w) (hy : YieldsIf P ops S oi v a) (hS : S w)
    (h : wpAnyG P md ops Q S g fuel (listed.setIfInBounds i true) (a.put oi.dst v) w) : wpAnyG P md ops Q S g (fuel + 1) listed a w := by
  simp only [Bool.and_eq_true] at hc
  obtain ⟨⟨⟨⟨hs, hf⟩, hr⟩, hcl⟩, hw⟩ := hc
  exact wpAnyG_first hi hw (Region.noSelect_spec hs) hQ fuel listed a w (closed_of hcl) (Region.free_spec hi hf) (by simpa using hr) hy hS h

/-- One alone may come up, and it is not g: behind it S is to be shown anew. -/
theorem wpAnyG_one {i g : Nat} {o : Oper} {fuel : Nat} {listed : Array Bool} {a : Act} {w : World} (ho : ops[i]? = some o) (hr : Region.ready md ops listed = [i])
    (h : ∀ K' : Act → World → Prop, Hid (∀ a w, S w → wpAnyG P md ops Q S g fuel (listed.setIfInBounds i true) a w → K' a w) → if Region.wanted o (yielded ops a.tmps) = true then Oper.wp P o a w K' Q else K' (a.put o.dst undef) w) : wpAnyG P md ops Q S g (fuel + 1) listed a w := by
  refine ⟨fun h0 => (by rw [hr] at h0; cases h0), fun j hj => ?_⟩
  rw [hr] at hj
  simp at hj
  subst hj
  exact wpOp_step ho fun K' hK => h K' (fun a w h1 h2 => hK a w ⟨fun _ _ => h1, h2⟩)

/-- One alone may come up, and it is g, or comes behind g. -/
theorem wpAnyG_last {i g : Nat} {o : Oper} {fuel : Nat} {listed : Array Bool} {a : Act} {w : World} (ho : ops[i]? = some o) (hr : Region.ready md ops listed = [i]) (hg : (listed.getD g false || i == g) = true)
    (h : ∀ K' : Act → World → Prop, Hid (∀ a w, wpAnyG P md ops Q S g fuel (listed.setIfInBounds i true) a w → K' a w) → if Region.wanted o (yielded ops a.tmps) = true then Oper.wp P o a w K' Q else K' (a.put o.dst undef) w) : wpAnyG P md ops Q S g (fuel + 1) listed a w := by
  refine ⟨fun h0 => (by rw [hr] at h0; cases h0), fun j hj => ?_⟩
  rw [hr] at hj
  simp at hj
  subst hj
  refine wpOp_step ho fun K' hK => h K' (fun a w h1 => hK a w ⟨fun h2 h3 => ?_, h1⟩)
  simp [h3] at hg
  simp [hg] at h2

theorem wpAnyG_done {g : Nat} {listed : Array Bool} {a : Act} {w : World} (hr : Region.ready md ops listed = []) (h : Q .normal a w) :
    ∀ fuel, wpAnyG P md ops Q S g fuel listed a w
  | 0 => ⟨hr, h⟩
  | _ + 1 => ⟨fun _ => h, by rw [hr]; simp⟩

theorem wp_region_G {id : Nat} {a : Act} {w : World} (S : World → Prop) (g : Nat) (hm : P.follows .mixedOrders = true) (hS : S w.drew)
    (h : S w.drew → wpAnyG P .any ops Q S g ops.size (Array.replicate ops.size false) a w.drew) : (Code.region id ops true).wp P Q a w :=
  wp_region_any hm (wpAny_of_G _ _ _ _ (h hS))
end
end Go.Proofs.YtmifenflbaohnaaDoor
end

section
/- Package long: Of, limb, Plus. -/
set_option linter.unusedSimpArgs false
set_option linter.unusedVariables false
set_option maxRecDepth 100000
namespace Go.Proofs.YtmifenflbaohnaaDoor
open Go.RowKit LgM

/-- The slice of a number, opened. -/
theorem LN.open {w : World} {v : Value} {n : Nat} (h : LN w v n) : ∃ (k : Nat) (aa : Option Addr) (g o c : Nat), v = .slice aa k c ∧ Nd k n ∧ (0 < k → aa = some ⟨g, o, none⟩) ∧ (∀ i, i < k → w.cell? ⟨g, o + i, none⟩ = some (.int .i64 ((n / Bs ^ i % Bs : Nat) : Int))) ∧ (0 < k → g < w.heap.size) := by
  obtain ⟨k, hk, ⟨aa, g, o, c, e, p, cell, lt⟩, _⟩ := h
  have hl : (nz (dgl k n)).length = k := by rw [nz_len, dgl_len]
  rw [hl] at e p cell lt
  refine ⟨k, aa, g, o, c, e, hk, p, fun i hi => ?_, lt⟩
  rw [cell i hi]
  simp [nz, List.getD_eq_getElem?_getD, dgl, hi]

set_option maxHeartbeats 1000000 in
theorem limb_any (v : Value) (n i : Nat) (w : World) (h : LN w v n) (hi : i ≤ 1000000000) :
    Calls Tryd.prog 72 #[.agg #[v], .int .i64 (i : Int)] w fun e w' => e = .returned (.int .i64 ((n / Bs ^ i % Bs : Nat) : Int)) ∧ Below w.heap.size w w' := by
  obtain ⟨k, aa, g, o, c, rfl, hk, hp, hc, hlt⟩ := h.open
  clear h
  have HC : Hid (∀ i, i < k → w.cell? ⟨g, o + i, none⟩ = some (.int .i64 ((n / Bs ^ i % Bs : Nat) : Int))) := hc
  have HK : Hid (Nd k n) := hk
  obtain ⟨d, hd⟩ : ∃ d, d = n / Bs ^ i % Bs := ⟨_, rfl⟩
  have HD : Hid (d = n / Bs ^ i % Bs) := hd
  rw [← hd]
  clear hc hk hd
  by_cases hik : i < k
  · obtain rfl := hp (by omega)
    have hlt := hlt (by omega)
    have q1 : ∀ x : Obj, (w.alloc x).cell? ⟨g, o + i, none⟩ = some (.int .i64 (d : Int)) := fun x => by
      rw [cell_old_at _ _ _ hlt, HD.out]; exact HC.out i hik
    clear hp
    go_enter Tryd.func72, Tryd.ntmps72
    go_wp2
    go_ret
    exact ⟨rfl, (Below.refl _ _).alloc (Nat.le_refl _) _⟩
  · have hz : d = 0 := by rw [HD.out]; exact HK.out.limb i (by omega)
    subst hz
    clear hp hlt
    go_enter Tryd.func72, Tryd.ntmps72
    go_wp2
    go_ret
    exact ⟨rfl, (Below.refl _ _).alloc (Nat.le_refl _) _⟩

set_option maxHeartbeats 1000000 in
theorem Of_any (n : Nat) (w : World) (hn : n ≤ 9000000000000000000) :
    Calls Tryd.prog 37 #[.int .i64 (n : Int)] w fun e w' => ∃ v, e = .returned (.agg #[v]) ∧ LN w' v n ∧ Below w.heap.size w w' := by
  have hc := carried_any (w.heap.size + 1) 0 n 4 none 0 (w.alloc (.cells #[.slice none 0 0] 46)) (World.ownsRow_nil _ _ _ _) (by simp) (by simpa using hn) (Nat.lt_of_le_of_lt hn (by decide)) (by omega) (by omega)
  simp only [Nat.pow_zero, Nat.div_one] at hc
  have HC : Hid (Calls Tryd.prog 54 #[.slice none 0 0, .int .i64 (n : Int)] (w.alloc (.cells #[.slice none 0 0] 46)) fun e w' => ∃ k a' c', e = .returned (.slice a' k c') ∧ (n < Bs ^ k ∧ (k = 0 ∨ Bs ^ (k - 1) ≤ n)) ∧ w'.ownsRow (w.heap.size + 1) 3 1 (.slice a' k c') k (ints (nz (dgl k n))) ∧ Below (w.heap.size + 1) (w.alloc (.cells #[.slice none 0 0] 46)) w') := hc
  clear hc
  go_enter Tryd.func37, Tryd.ntmps37
  go_wp2_with fail
  refine HC.out.mono ?_
  rintro e w1 ⟨k, a', c', rfl, hk, hrow, hb⟩
  have C1 : Cl w.heap.size [.slice none 0 0] 46 w1 := (Cl.new [.slice none 0 0] 46 w).below (hb.mono (by simp))
  have q1 := C1.cell 0
  have q2 := C1.frozen 0
  have hl : LN w1 (.slice a' k c') n := ⟨k, ⟨hk.1, hk.2⟩, IS.ownL (by rw [nz_len, dgl_len]) hrow, TyI.ownL hrow⟩
  have HL : Hid (LN w1 (.slice a' k c') n) := hl
  have HB : Hid (Below (w.heap.size + 1) (w.alloc (.cells #[.slice none 0 0] 46)) w1) := hb
  have HC1 : Hid (Cl w.heap.size [.slice none 0 0] 46 w1) := C1
  have HR : Hid (w1.ownsRow (w.heap.size + 1) 3 1 (.slice a' k c') k (ints (nz (dgl k n)))) := hrow
  have HKk : Hid (Nd k n) := ⟨hk.1, hk.2⟩
  clear hl hb C1 hrow hk HC
  simp at q1
  go_wp2
  have C2 := HC1.out.set 0 (.slice a' k c')
  have q3 := C2.cell 0
  simp at q3
  refine bodyPost_ret (v := .agg #[.slice a' k c']) (by simp [results, Tryd.results37, go_sem, q3]) rfl ⟨_, rfl, ?_, ?_⟩
  · exact ⟨k, HKk.out, IS.ownL (by rw [nz_len, dgl_len]) (ownsRow_setCell_below HR.out (by show w.heap.size < _; omega) _), (TyI.ownL HR.out).set _ _⟩
  · exact (((Below.refl _ _).alloc (Nat.le_refl _) _).trans (HB.out.mono (by omega))).setCell (by simp) _

/-- What Plus holds while it goes: its two boxes and its answer's. -/
structure Pb (b : Nat) (vx vy : Value) (w : World) : Prop where
  x : Cl b [vx] 46 w
  y : Cl (b + 1) [vy] 46 w
  z : Cl (b + 2) [.slice none 0 0] 46 w
theorem Pb.below {b B : Nat} {vx vy : Value} {w w' : World} (h : Pb b vx vy w) (k : Below B w w') (hB : b + 3 ≤ B) : Pb b vx vy w' :=
  ⟨(k.block _ (by omega)).trans h.x, (k.block _ (by omega)).trans h.y, (k.block _ (by omega)).trans h.z⟩
theorem Pb.start (vx vy : Value) (w : World) : Pb w.heap.size vx vy (((w.alloc (.cells #[vx] 46)).alloc (.cells #[vy] 46)).alloc (.cells #[.slice none 0 0] 46)) := by
  refine ⟨((Cl.new [vx] _ w).alloc _).alloc _, ?_, ?_⟩
  · have := (Cl.new [vy] 46 (w.alloc (.cells #[vx] 46))).alloc (.cells #[.slice none 0 0] 46)
    simpa using this
  · have := (Cl.new [.slice none 0 0] 46 ((w.alloc (.cells #[vx] 46)).alloc (.cells #[vy] 46)))
    simpa using this

set_option maxHeartbeats 4000000 in
theorem Plus_any (vx vy : Value) (x y m : Nat) (w : World) (hx : LN w vx x) (hy : LN w vy y) (hxm : x < Bs ^ m) (hym : y < Bs ^ m) (hm : m ≤ 100000000) :
    Calls Tryd.prog 56 #[.agg #[vx], .agg #[vy]] w fun e w' => ∃ v, e = .returned (.agg #[v]) ∧ LN w' v (x + y) ∧ Below w.heap.size w w' := by
  obtain ⟨i0, hi, hz0, hz1, hz2⟩ := info_parts Tryd.infoInt
  have HI : Hid (Tryd.prog.info? 3 = some i0 ∧ i0.zero = some (.int .i64 0) ∧ i0.size = 1 ∧ i0.bytes = 8) := ⟨hi, hz0, hz1, hz2⟩
  clear hi hz0 hz1 hz2
  have HX : Hid (LN w vx x) := hx
  have HY : Hid (LN w vy y) := hy
  obtain ⟨kx, ax, gx, ox, cx, rfl, nx, _⟩ := hx.open
  obtain ⟨ky, ay, gy, oy, cy, rfl, ny, _⟩ := hy.open
  have hkx := nx.le hxm
  have hky := ny.le hym
  have HNX : Hid (Nd kx x) := nx
  have HNY : Hid (Nd ky y) := ny
  have HXM : Hid (x < Bs ^ m) := hxm
  have HYM : Hid (y < Bs ^ m) := hym
  clear hx hy nx ny hxm hym
  obtain ⟨M, hM⟩ : ∃ M : Nat, max (kx : Int) (ky : Int) = (M : Int) := ⟨max kx ky, by omega⟩
  have hM1 : kx ≤ M ∧ ky ≤ M ∧ M ≤ m := by omega
  go_enter Tryd.func56, Tryd.ntmps56
  have P0 := Pb.start (.slice ax kx cx) (.slice ay ky cy) w
  obtain ⟨W0, hW0⟩ : ∃ W0, W0 = (((w.alloc (.cells #[.slice ax kx cx] 46)).alloc (.cells #[.slice ay ky cy] 46)).alloc (.cells #[.slice none 0 0] 46)) := ⟨_, rfl⟩
  rw [← hW0] at P0
  have z0 : W0.heap.size = w.heap.size + 3 := by rw [hW0]; simp
  have KB0 : Hid (Below w.heap.size w W0) := by
    show Below _ _ _
    rw [hW0]; exact (((Below.refl _ _).alloc (Nat.le_refl _) _).alloc (by simp) _).alloc (by simp; omega) _
  have HP0 : Hid (Pb w.heap.size (.slice ax kx cx) (.slice ay ky cy) W0) := P0
  clear P0
  rename_i hq1 hq2
  clear hq1 hq2
  go_wp2
  rw [← hW0]
  clear hW0
  go_loopw [5, 6, 15] (fun sv cv iv wx => ∃ (i c : Nat) (a' : Option Addr) (c' : Nat), i ≤ M ∧ c ≤ 1 ∧ sv = .slice a' i c' ∧ cv = .int .i64 (c : Int) ∧ iv = .int .i64 (i : Int) ∧ Hid (c = (x % Bs ^ i + y % Bs ^ i) / Bs ^ i ∧ wx.ownsRow (w.heap.size + 3) 3 1 (.slice a' i c') i (ints (nz (dgl i (x + y)))) ∧ Pb w.heap.size (.slice ax kx cx) (.slice ay ky cy) wx ∧ Below (w.heap.size + 3) W0 wx)) (fun _ _ iv _ => M - (intOf iv).toNat)
  case atStart => exact ⟨0, 0, none, 0, Nat.zero_le _, by omega, rfl, rfl, rfl, by simp [Nat.mod_one], World.ownsRow_nil _ _ _ _, HP0.out, Below.refl _ _⟩
  case round =>
    obtain ⟨i, c, a', c', hiM, hc1, rfl, rfl, rfl, HR⟩ := hrel
    have hP := HR.out.2.2.1
    have hzr : w.heap.size + 3 ≤ wr.heap.size := by have := HR.out.2.2.2.size; omega
    by_cases hiM2 : i < M
    · have HLx : Hid (∀ W, Below (w.heap.size + 3) W0 W → LN W (.slice ax kx cx) x) := fun W k => (HX.out.below KB0.out).below (k.mono (by omega))
      have HLy : Hid (∀ W, Below (w.heap.size + 3) W0 W → LN W (.slice ay ky cy) y) := fun W k => (HY.out.below KB0.out).below (k.mono (by omega))
      obtain ⟨dx, hdx⟩ : ∃ dx, dx = x / Bs ^ i % Bs := ⟨_, rfl⟩
      obtain ⟨dy, hdy⟩ : ∃ dy, dy = y / Bs ^ i % Bs := ⟨_, rfl⟩
      have hdx1 : dx ≤ 999999999 := by rw [hdx]; exact lim_le (Nat.mod_lt _ (by decide))
      have hdy1 : dy ≤ 999999999 := by rw [hdy]; exact lim_le (Nat.mod_lt _ (by decide))
      have HDX : Hid (dx = x / Bs ^ i % Bs) := hdx
      have HDY : Hid (dy = y / Bs ^ i % Bs) := hdy
      clear hdx hdy
      have q1 := hP.x.cell 0
      have q2 := hP.y.cell 0
      simp at q1 q2
      have HPw : Hid (Pb w.heap.size (.slice ax kx cx) (.slice ay ky cy) wr) := hP
      clear hP
      go_wp2
      refine wp_region_G (fun w' => w'.cell? ⟨w.heap.size, 0, none⟩ = some (.slice ax kx cx) ∧ w'.cell? ⟨w.heap.size + 1, 0, none⟩ = some (.slice ay ky cy)) 9 (by kernel_rfl) ⟨q1, q2⟩ (fun hHeld => ?_)
      refine wpAnyG_take (i := 0) (v := ?v0x1) rfl (by kernel_rfl) (fun _ _ _ h => h) (Or.inl ⟨by rfl, ?y0x1⟩) hHeld ?r0x1
      case y0x1 => (intro wS hSw; obtain ⟨s1, s2⟩ := hSw; go_simp; try with_reducible rfl)
      try simp only [Act.put, List.setIfInBounds_toArray, List.set_cons_zero, List.set_cons_succ]
      refine wpAnyG_take (i := 1) (v := ?v1x2) rfl (by kernel_rfl) (fun _ _ _ h => h) (Or.inl ⟨by rfl, ?y1x2⟩) hHeld ?r1x2
      case y1x2 => (intro wS hSw; obtain ⟨s1, s2⟩ := hSw; go_simp; try with_reducible rfl)
      try simp only [Act.put, List.setIfInBounds_toArray, List.set_cons_zero, List.set_cons_succ]
      refine wpAnyG_take (i := 2) (v := ?v2x3) rfl (by kernel_rfl) (fun _ _ _ h => h) (Or.inl ⟨by rfl, ?y2x3⟩) hHeld ?r2x3
      case y2x3 => (intro wS hSw; obtain ⟨s1, s2⟩ := hSw; go_simp; try with_reducible rfl)
      try simp only [Act.put, List.setIfInBounds_toArray, List.set_cons_zero, List.set_cons_succ]
      refine wpAnyG_take (i := 4) (v := ?v4x4) rfl (by kernel_rfl) (fun _ _ _ h => h) (Or.inl ⟨by rfl, ?y4x4⟩) hHeld ?r4x4
      case y4x4 => (intro wS hSw; obtain ⟨s1, s2⟩ := hSw; go_simp; try with_reducible rfl)
      try simp only [Act.put, List.setIfInBounds_toArray, List.set_cons_zero, List.set_cons_succ]
      refine wpAnyG_take (i := 5) (v := ?v5x5) rfl (by kernel_rfl) (fun _ _ _ h => h) (Or.inl ⟨by rfl, ?y5x5⟩) hHeld ?r5x5
      case y5x5 => (intro wS hSw; obtain ⟨s1, s2⟩ := hSw; go_simp; try with_reducible rfl)
      try simp only [Act.put, List.setIfInBounds_toArray, List.set_cons_zero, List.set_cons_succ]
      refine wpAnyG_one (i := 3) rfl (by kernel_rfl) (fun K hK => ?_)
      go_simp
      refine (limb_any _ x i _ (HLx.out _ (HR.out.2.2.2.drew)) (by omega)).mono ?_
      rw [← HDX.out]
      rintro e w1 ⟨rfl, k1⟩
      have KB1 : Hid (Below (w.heap.size + 3) W0 w1) := HR.out.2.2.2.drew.trans (k1.mono hzr)
      have P1 := HPw.out.below (HR.out.2.2.2.drew.trans (k1.mono hzr) |> fun _ => ((Below.refl (w.heap.size + 3) wr).drew.trans (k1.mono hzr))) (Nat.le_refl _)
      have z1 : wr.heap.size ≤ w1.heap.size := k1.size
      have hH1 : w1.cell? ⟨w.heap.size, 0, none⟩ = some (.slice ax kx cx) ∧ w1.cell? ⟨w.heap.size + 1, 0, none⟩ = some (.slice ay ky cy) := by
        have a1 := P1.x.cell 0
        have a2 := P1.y.cell 0
        simp at a1 a2
        exact ⟨a1, a2⟩
      refine hK.out _ _ hH1 ?_
      clear hK K
      try simp only [Act.put, List.setIfInBounds_toArray, List.set_cons_zero, List.set_cons_succ]
      clear hHeld
      have hHeld := hH1
      refine wpAnyG_one (i := 6) rfl (by kernel_rfl) (fun K hK => ?_)
      go_simp
      refine (limb_any _ y i _ (HLy.out _ KB1.out) (by omega)).mono ?_
      rw [← HDY.out]
      rintro e w2 ⟨rfl, k2⟩
      have KB2 : Hid (Below (w.heap.size + 3) W0 w2) := KB1.out.trans (k2.mono (by omega))
      have P2 := P1.below (k2.mono (show w.heap.size + 3 ≤ w1.heap.size by omega)) (Nat.le_refl _)
      have z2 : wr.heap.size ≤ w2.heap.size := Nat.le_trans z1 k2.size
      have hH2 : w2.cell? ⟨w.heap.size, 0, none⟩ = some (.slice ax kx cx) ∧ w2.cell? ⟨w.heap.size + 1, 0, none⟩ = some (.slice ay ky cy) := by
        have a1 := P2.x.cell 0
        have a2 := P2.y.cell 0
        simp at a1 a2
        exact ⟨a1, a2⟩
      refine hK.out _ _ hH2 ?_
      clear hK K
      try simp only [Act.put, List.setIfInBounds_toArray, List.set_cons_zero, List.set_cons_succ]
      clear hHeld
      have hHeld := hH2
      refine wpAnyG_take (i := 7) (v := ?v7x6) rfl (by kernel_rfl) (fun _ _ _ h => h) (Or.inl ⟨by rfl, ?y7x6⟩) hHeld ?r7x6
      case y7x6 => (intro wS hSw; obtain ⟨s1, s2⟩ := hSw; go_simp; try with_reducible rfl)
      try simp only [Act.put, List.setIfInBounds_toArray, List.set_cons_zero, List.set_cons_succ]
      refine wpAnyG_take (i := 8) (v := ?v8x7) rfl (by kernel_rfl) (fun _ _ _ h => h) (Or.inl ⟨by rfl, ?y8x7⟩) hHeld ?r8x7
      case y8x7 => (intro wS hSw; obtain ⟨s1, s2⟩ := hSw; go_simp; try with_reducible rfl)
      try simp only [Act.put, List.setIfInBounds_toArray, List.set_cons_zero, List.set_cons_succ]
      refine wpAnyG_last (i := 9) rfl (by kernel_rfl) (by kernel_rfl) (fun K hK => ?_)
      go_simp
      refine hK.out _ _ ?_
      clear hK K
      try simp only [Act.put, List.setIfInBounds_toArray, List.set_cons_zero, List.set_cons_succ]
      refine wpAnyG_done (by kernel_rfl) ?_ _
      have R2 : Hid (w2.ownsRow (w.heap.size + 3) 3 1 (.slice a' i c') i (ints (nz (dgl i (x + y))))) := row_kept HR.out.2.1 (fun g e => (k2.block g (Nat.lt_of_lt_of_le (HR.out.2.1.lt g e).2 z1)).trans (k1.block g (HR.out.2.1.lt g e).2))
      have HP2 : Hid (Pb w.heap.size (.slice ax kx cx) (.slice ay ky cy) w2) := P2
      have hsum : Hid (c + (dx + dy) = (x % Bs ^ (i + 1) + y % Bs ^ (i + 1)) / Bs ^ i) := by
        show _ = _
        rw [HR.out.1, HDX.out, HDY.out]; exact plus_step x y i
      obtain ⟨t, ht⟩ : ∃ t, t = c + (dx + dy) := ⟨_, rfl⟩
      have ht2 : t ≤ 1999999999 := by omega
      have htI : (c : Int) + ((dx : Int) + (dy : Int)) = (t : Int) := by omega
      have HT : Hid (t = c + (dx + dy)) := ht
      clear k1 k2 P1 P2 hH1 hH2 hHeld q1 q2 ht
      have hw0 : IntKind.i64.wrap ((dx : Int) + (dy : Int)) = (dx : Int) + (dy : Int) := by rw [IntKind.wrap_i64]; omega
      have hw1 : IntKind.i64.wrap ((c : Int) + IntKind.i64.wrap ((dx : Int) + (dy : Int))) = (t : Int) := by rw [hw0, htI, IntKind.wrap_i64]; omega
      simp only [hw1]
      clear hw0 hw1 htI
      go_wp2_with (at_builtin; refine wpList_append_own _ rfl _ _ 36 rfl (w.heap.size + 3) 3 i0 (.int .i64 0) 1 8 Tryd.underlying36 HI.out.1 HI.out.2.1 HI.out.2.2.1 HI.out.2.2.2 rfl (by decide) (.slice a' i c') i (ints (nz (dgl i (x + y)))) rfl (R2.out.alloc _) ⟨w2.heap.size, 0, none⟩ 1 1 [.int .i64 ((t : Int) % 1000000000)] rfl rfl (cell_one_new _ _ _) (by simp [Value.oneCell']) (by simp only [maxLen]; omega) (by omega) (by simp; omega) ?_; intro v' w3 hown' hgrow _; obtain ⟨g', cap', rfl⟩ := ownsRow_succ hown')
      have KB3 : Hid (Below (w.heap.size + 3) w2 w3) := (((Below.refl (w.heap.size + 3) w2).alloc (by omega) _).grown hgrow (by simp; omega) (fun g e => (R2.out.lt g e).1))
      have HN : Hid (w3.ownsRow (w.heap.size + 3) 3 1 (.slice (some ⟨g', 0, none⟩) (i + 1) cap') (i + 1) (ints (nz (dgl (i + 1) (x + y))))) := by
        show World.ownsRow _ _ _ _ _ _ _
        rw [dgl_succ, nz_append]
        have e : nz [(x + y) / Bs ^ i % Bs] = [(t : Int) % 1000000000] := by
          rw [add_div_mod, ← hsum.out, ← HT.out, limb_int]; rfl
        rw [e, ← ints_snoc]
        exact hown'
      clear hown' hgrow
      go_roundw
      case rel =>
        refine ⟨i + 1, t / 1000000000, _, _, by omega, by omega, rfl, by go_num, by go_num, ?_, HN.out, HP2.out.below KB3.out (Nat.le_refl _), KB2.out.trans KB3.out⟩
        rw [HT.out, hsum.out, pow_s, ← Nat.div_div_eq_div_mul]
      case measure => simp [intOf]; omega
    · obtain rfl : i = M := by omega
      have hxM := HNX.out.mod hM1.1
      have hyM := HNY.out.mod hM1.2.1
      have hcM : Hid (c = (x + y) / Bs ^ i) := by
        show _ = _
        rw [HR.out.1, hxM, hyM]
      have hlt2 : x + y < Bs ^ (m + 1) := by
        rw [pow_s]
        have h1 := HXM.out
        have h2 := HYM.out
        have h3 : Bs ^ m * 2 ≤ Bs ^ m * Bs := Nat.mul_le_mul_left _ (by decide)
        omega
      have HC : Hid (Calls Tryd.prog 54 #[.slice a' i c', .int .i64 (c : Int)] wr fun e w' => ∃ k a1 c1, e = .returned (.slice a1 k c1) ∧ (x + y < Bs ^ k ∧ (k = i ∨ Bs ^ (k - 1) ≤ x + y)) ∧ w'.ownsRow (w.heap.size + 3) 3 1 (.slice a1 k c1) k (ints (nz (dgl k (x + y)))) ∧ Below (w.heap.size + 3) wr w') := by
        have h := carried_any (w.heap.size + 3) i (x + y) (m + 1) a' c' wr HR.out.2.1 hzr (by rw [← hcM.out]; omega) hlt2 (by omega) (by omega)
        rw [← hcM.out] at h
        exact h
      have HPw : Hid (Pb w.heap.size (.slice ax kx cx) (.slice ay ky cy) wr) := hP
      clear hP hxM hyM hlt2
      go_wp2_with fail
      refine HC.out.mono ?_
      rintro e w1 ⟨k, a1, c1, rfl, hk, hrow, hb⟩
      have P1 := HPw.out.below hb (Nat.le_refl _)
      have q1 := P1.z.cell 0
      have q2 := P1.z.frozen 0
      simp at q1
      have HKk : Hid (Nd k (x + y)) := by
        refine ⟨hk.1, ?_⟩
        rcases hk.2 with h | h
        · subst h
          rcases Nat.lt_or_ge kx ky with h5 | h5
          · have : k = ky := by omega
            subst this
            exact HNY.out.mono (by omega)
          · have : k = kx := by omega
            subst this
            exact HNX.out.mono (by omega)
        · exact .inr h
      have HROW : Hid (w1.ownsRow (w.heap.size + 3) 3 1 (.slice a1 k c1) k (ints (nz (dgl k (x + y))))) := hrow
      have HB : Hid (Below (w.heap.size + 3) W0 w1) := HR.out.2.2.2.trans hb
      have HP1 : Hid (Pb w.heap.size (.slice ax kx cx) (.slice ay ky cy) w1) := P1
      clear hb hrow P1 hk HC
      go_wp2
      have C2 := HP1.out.z.set 0 (.slice a1 k c1)
      have q3 := C2.cell 0
      simp at q3
      refine bodyPost_ret (v := .agg #[.slice a1 k c1]) (by simp [results, Tryd.results56, go_sem, q3]) rfl ⟨_, rfl, ?_, ?_⟩
      · exact ⟨k, HKk.out, IS.ownL (by rw [nz_len, dgl_len]) (ownsRow_setCell_below HROW.out (by show w.heap.size + 2 < _; omega) _), (TyI.ownL HROW.out).set _ _⟩
      · exact (KB0.out.trans (HB.out.mono (by omega))).setCell (by simp; omega) _

end Go.Proofs.YtmifenflbaohnaaDoor
end

section
/- Package long: Times. -/
set_option linter.unusedSimpArgs false
set_option linter.unusedVariables false
set_option maxRecDepth 100000
namespace Go.Proofs.YtmifenflbaohnaaDoor
open Go.RowKit LgM

structure Tbx (b : Nat) (vx : Value) (w : World) : Prop where
  x : Cl b [vx] 46 w
  z : Cl (b + 1) [.slice none 0 0] 46 w
theorem Tbx.below {b B : Nat} {vx : Value} {w w' : World} (h : Tbx b vx w) (k : Below B w w') (hB : b + 2 ≤ B) : Tbx b vx w' :=
  ⟨(k.block _ (by omega)).trans h.x, (k.block _ (by omega)).trans h.z⟩
theorem Tbx.start (vx : Value) (w : World) : Tbx w.heap.size vx ((w.alloc (.cells #[vx] 46)).alloc (.cells #[.slice none 0 0] 46)) := by
  refine ⟨(Cl.new [vx] _ w).alloc _, ?_⟩
  have := (Cl.new [.slice none 0 0] 46 (w.alloc (.cells #[vx] 46)))
  simpa using this

end Go.Proofs.YtmifenflbaohnaaDoor
end

section
/- Package long: differences, products and quotients limb by limb: plain facts. -/
set_option linter.unusedSimpArgs false
set_option linter.unusedVariables false
set_option maxRecDepth 100000
namespace Go.Proofs.YtmifenflbaohnaaDoor.LgM
/-- A difference, limb by limb: what is borrowed behind k limbs. -/
def bw (x y k : Nat) : Nat := if x % Bs ^ k < y % Bs ^ k then 1 else 0
theorem bw_zero (x y : Nat) : bw x y 0 = 0 := by simp [bw, Nat.mod_one]
theorem bw_le (x y k : Nat) : bw x y k ≤ 1 := by unfold bw; split <;> omega
theorem limb_lt (x k : Nat) : x / Bs ^ k % Bs ≤ 999999999 := lim_le (Nat.mod_lt _ (by decide))
/-- x mod B^k - y mod B^k, with what is borrowed. -/
theorem minus_low (x y k : Nat) (h : y ≤ x) : (x - y) % Bs ^ k + y % Bs ^ k = x % Bs ^ k + Bs ^ k * bw x y k := by
  obtain ⟨z, rfl⟩ := Nat.exists_eq_add_of_le h
  rw [Nat.add_sub_cancel_left]
  have h1 := Nat.mod_lt y (bs_pos k)
  have h2 := Nat.mod_lt z (bs_pos k)
  have h3 : (y + z) % Bs ^ k = (y % Bs ^ k + z % Bs ^ k) % Bs ^ k := Nat.add_mod ..
  unfold bw
  generalize y % Bs ^ k = y0 at *
  generalize z % Bs ^ k = z0 at *
  generalize (y + z) % Bs ^ k = s0 at *
  generalize Bs ^ k = P at *
  rcases Nat.lt_or_ge (y0 + z0) P with h4 | h4
  · rw [Nat.mod_eq_of_lt h4] at h3
    rw [h3, if_neg (by omega)]; omega
  · have h5 : (y0 + z0) % P = y0 + z0 - P := by
      rw [Nat.mod_eq_sub_mod h4, Nat.mod_eq_of_lt (by omega)]
    rw [h5] at h3
    rw [h3, if_pos (by omega)]; omega
theorem minus_step (x y k : Nat) (h : y ≤ x) : (x - y) / Bs ^ k % Bs + (y / Bs ^ k % Bs + bw x y k) = x / Bs ^ k % Bs + Bs * bw x y (k + 1) := by
  have e1 := minus_low x y k h
  have e2 := minus_low x y (k + 1) h
  rw [mod_s, mod_s, mod_s, pow_s, Nat.mul_assoc] at e2
  have hp := bs_pos k
  generalize (x - y) / Bs ^ k % Bs = dz at *
  generalize y / Bs ^ k % Bs = dy at *
  generalize x / Bs ^ k % Bs = dx at *
  generalize bw x y (k + 1) = b' at *
  generalize bw x y k = b at *
  generalize (x - y) % Bs ^ k = z0 at *
  generalize y % Bs ^ k = y0 at *
  generalize x % Bs ^ k = x0 at *
  generalize Bs ^ k = P at *
  have h1 : P * (dz + (dy + b)) = P * (dx + Bs * b') := by
    rw [Nat.mul_add, Nat.mul_add, Nat.mul_add]; omega
  exact Nat.eq_of_mul_eq_mul_left hp h1
theorem minus_dgt (x y k : Nat) (h : y ≤ x) :
    ((x - y) / Bs ^ k % Bs : Nat) = if x / Bs ^ k % Bs < y / Bs ^ k % Bs + bw x y k then x / Bs ^ k % Bs + Bs - (y / Bs ^ k % Bs + bw x y k) else x / Bs ^ k % Bs - (y / Bs ^ k % Bs + bw x y k) := by
  have e := minus_step x y k h
  have h1 : (x - y) / Bs ^ k % Bs < Bs := Nat.mod_lt _ (by decide)
  have h2 := bw_le x y (k + 1)
  have h3 : bw x y (k + 1) = 0 ∨ bw x y (k + 1) = 1 := by omega
  rcases h3 with h3 | h3 <;> rw [h3] at e
  · rw [if_neg (by omega)]; omega
  · rw [if_pos (by omega)]; omega
theorem minus_bw (x y k : Nat) (h : y ≤ x) :
    bw x y (k + 1) = if x / Bs ^ k % Bs < y / Bs ^ k % Bs + bw x y k then 1 else 0 := by
  have e := minus_step x y k h
  have h1 : (x - y) / Bs ^ k % Bs < Bs := Nat.mod_lt _ (by decide)
  have h2 := bw_le x y (k + 1)
  have h3 : bw x y (k + 1) = 0 ∨ bw x y (k + 1) = 1 := by omega
  rcases h3 with h3 | h3 <;> rw [h3] at e ⊢
  · rw [if_neg (by omega)]
  · rw [if_pos (by omega)]

/-- A product, limb by limb: what is summed behind i limbs of x and j limbs of y; P is what the first i limbs made. -/
def pq (P d y i j : Nat) : Nat := P % Bs ^ (i + j) + Bs ^ i * (d * (y % Bs ^ j))
theorem pq_step (P d y i j : Nat) : pq P d y i j / Bs ^ (i + j) + P / Bs ^ (i + j) % Bs + d * (y / Bs ^ j % Bs) = pq P d y i (j + 1) / Bs ^ (i + j) := by
  unfold pq
  rw [show i + (j + 1) = (i + j) + 1 from rfl, mod_s P, mod_s y, Nat.mul_add d, Nat.mul_add (Bs ^ i)]
  have e : Bs ^ i * (d * (Bs ^ j * (y / Bs ^ j % Bs))) = Bs ^ (i + j) * (d * (y / Bs ^ j % Bs)) := by
    rw [Nat.pow_add, Nat.mul_left_comm d, ← Nat.mul_assoc]
  rw [e]
  have e2 : P % Bs ^ (i + j) + Bs ^ (i + j) * (P / Bs ^ (i + j) % Bs) + (Bs ^ i * (d * (y % Bs ^ j)) + Bs ^ (i + j) * (d * (y / Bs ^ j % Bs))) = (P % Bs ^ (i + j) + Bs ^ i * (d * (y % Bs ^ j))) + Bs ^ (i + j) * (P / Bs ^ (i + j) % Bs + d * (y / Bs ^ j % Bs)) := by
    rw [Nat.mul_add]; omega
  rw [e2, Nat.add_mul_div_left _ _ (bs_pos _)]; omega
/-- The limbs below the place stay. -/
theorem pq_low (P d y i j t : Nat) (ht : t < i + j) : pq P d y i (j + 1) / Bs ^ t % Bs = pq P d y i j / Bs ^ t % Bs := by
  have h1 : ∀ z, z / Bs ^ t % Bs = z % Bs ^ (t + 1) / Bs ^ t := fun z => by rw [pow_s, Nat.mod_mul_right_div_self]
  rw [h1, h1 (pq P d y i j)]
  congr 1
  unfold pq
  rw [show i + (j + 1) = (i + j) + 1 from rfl, mod_s P, mod_s y, Nat.mul_add d, Nat.mul_add (Bs ^ i)]
  have e : Bs ^ i * (d * (Bs ^ j * (y / Bs ^ j % Bs))) = Bs ^ (i + j) * (d * (y / Bs ^ j % Bs)) := by
    rw [Nat.pow_add, Nat.mul_left_comm d, ← Nat.mul_assoc]
  rw [e]
  obtain ⟨r, hr⟩ : ∃ r, i + j = (t + 1) + r := ⟨i + j - (t + 1), by omega⟩
  have e2 : P % Bs ^ (i + j) + Bs ^ (i + j) * (P / Bs ^ (i + j) % Bs) + (Bs ^ i * (d * (y % Bs ^ j)) + Bs ^ (i + j) * (d * (y / Bs ^ j % Bs))) = (P % Bs ^ (i + j) + Bs ^ i * (d * (y % Bs ^ j))) + Bs ^ (t + 1) * (Bs ^ r * (P / Bs ^ (i + j) % Bs + d * (y / Bs ^ j % Bs))) := by
    rw [← Nat.mul_assoc (Bs ^ (t + 1)) (Bs ^ r), ← Nat.pow_add, ← hr, Nat.mul_add]; omega
  rw [e2, Nat.add_mul_mod_self_left]
theorem pq_lt (P d y i j : Nat) (hd : d < Bs) : pq P d y i j / Bs ^ (i + j) < Bs := by
  rw [Nat.div_lt_iff_lt_mul (bs_pos _)]
  unfold pq
  have h1 := Nat.mod_lt P (bs_pos (i + j))
  have h2 := Nat.mod_lt y (bs_pos j)
  have h3 : d * (y % Bs ^ j) + 1 * (y % Bs ^ j) ≤ Bs * (y % Bs ^ j) := by rw [← Nat.add_mul]; exact Nat.mul_le_mul_right _ hd
  have h4 : Bs * (y % Bs ^ j) + Bs ≤ Bs * Bs ^ j := by rw [← Nat.mul_succ]; exact Nat.mul_le_mul_left _ h2
  have h5 : d * (y % Bs ^ j) + Bs ≤ Bs * Bs ^ j := by omega
  have h6 : d * (y % Bs ^ j) + 1 + (Bs ^ j - 1) ≤ Bs * Bs ^ j := by
    rcases Nat.eq_zero_or_pos (y % Bs ^ j) with h | h
    · rw [h, Nat.mul_zero]
      have : Bs ^ j * 1 ≤ Bs ^ j * Bs := Nat.mul_le_mul_left _ (by decide)
      have := bs_pos j
      rw [Nat.mul_comm Bs]; omega
    · have h7 : d * (y % Bs ^ j) ≤ (Bs - 1) * (Bs ^ j - 1) := Nat.mul_le_mul (by omega) (by omega)
      have h8 : (Bs - 1) * (Bs ^ j - 1) + (Bs ^ j - 1) = Bs * (Bs ^ j - 1) := by
        rw [← Nat.succ_mul]; rfl
      have h9 : Bs * (Bs ^ j - 1) + Bs = Bs * Bs ^ j := by
        rw [← Nat.mul_succ]; congr 1; have := bs_pos j; omega
      have : 1 ≤ Bs := by decide
      omega
  have h10 : Bs ^ i * (d * (y % Bs ^ j) + 1 + (Bs ^ j - 1)) ≤ Bs ^ i * (Bs * Bs ^ j) := Nat.mul_le_mul_left _ h6
  have h11 : d * (y % Bs ^ j) + 1 + (Bs ^ j - 1) = d * (y % Bs ^ j) + Bs ^ j := by have := bs_pos j; omega
  rw [h11, Nat.mul_add, ← Nat.pow_add] at h10
  have h12 : Bs ^ i * (Bs * Bs ^ j) = Bs * Bs ^ (i + j) := by rw [Nat.pow_add, Nat.mul_left_comm]
  omega
theorem pq_start (P d y i : Nat) : pq P d y i 0 = P % Bs ^ i := by simp [pq, Nat.mod_one]
/-- What the first i limbs of x make with y. -/
theorem prow_next (x y i k : Nat) (hy : y < Bs ^ k) : pq (x % Bs ^ i * y) (x / Bs ^ i % Bs) y i k = x % Bs ^ (i + 1) * y := by
  unfold pq
  have h1 : x % Bs ^ i * y < Bs ^ (i + k) := by
    rw [Nat.pow_add]
    rcases Nat.eq_zero_or_pos y with h | h
    · rw [h, Nat.mul_zero]; exact Nat.mul_pos (bs_pos _) (bs_pos _)
    · exact Nat.mul_lt_mul'' (Nat.mod_lt _ (bs_pos i)) hy
  rw [Nat.mod_eq_of_lt h1, Nat.mod_eq_of_lt hy, mod_s, Nat.add_mul, Nat.mul_assoc]
theorem prow_lt (x y i k : Nat) (hy : y < Bs ^ k) : x % Bs ^ i * y < Bs ^ (i + k) := by
  rw [Nat.pow_add]
  rcases Nat.eq_zero_or_pos y with h | h
  · rw [h, Nat.mul_zero]; exact Nat.mul_pos (bs_pos _) (bs_pos _)
  · exact Nat.mul_lt_mul'' (Nat.mod_lt _ (bs_pos i)) hy
/-- The digit of a quotient is not below this guess. -/
theorem guess_ge (x y l : Nat) (hy : 0 < y / Bs ^ l) : x / y ≤ x / Bs ^ l / (y / Bs ^ l) := by
  rw [Nat.div_div_eq_div_mul]
  exact Nat.div_le_div_left (by rw [Nat.mul_comm]; exact Nat.div_mul_le_self y _) (Nat.mul_pos (bs_pos l) hy)
theorem two_limbs (x l : Nat) (h : x < Bs ^ (l + 2)) : (x / Bs ^ (l + 1) % Bs) * Bs + x / Bs ^ l % Bs = x / Bs ^ l := by
  have h1 : x / Bs ^ (l + 1) < Bs := by
    rw [Nat.div_lt_iff_lt_mul (bs_pos _)]
    rw [show l + 2 = (l + 1) + 1 from rfl, pow_s (l + 1)] at h
    rw [Nat.mul_comm]; exact h
  rw [Nat.mod_eq_of_lt h1, div_s, Nat.mul_comm, Nat.div_add_mod]
/-- The next digit of a quotient. -/
theorem quo_digit (s b i : Nat) (hb : 0 < b) : (s / Bs ^ (i + 1) % b * Bs + s / Bs ^ i % Bs) / b = s / b / Bs ^ i % Bs ∧ (s / Bs ^ (i + 1) % b * Bs + s / Bs ^ i % Bs) % b = s / Bs ^ i % b := by
  have e0 : s / Bs ^ i = s / Bs ^ (i + 1) * Bs + s / Bs ^ i % Bs := by rw [div_s, Nat.mul_comm, Nat.div_add_mod]
  have e1 : s / Bs ^ i = b * (s / Bs ^ (i + 1) / b * Bs) + (s / Bs ^ (i + 1) % b * Bs + s / Bs ^ i % Bs) := by
    have h := Nat.div_add_mod (s / Bs ^ (i + 1)) b
    have h2 : s / Bs ^ (i + 1) * Bs = (b * (s / Bs ^ (i + 1) / b) + s / Bs ^ (i + 1) % b) * Bs := by rw [h]
    rw [Nat.add_mul, Nat.mul_assoc] at h2
    omega
  have hlt : s / Bs ^ (i + 1) % b * Bs + s / Bs ^ i % Bs < b * Bs := by
    have h1 := Nat.mod_lt (s / Bs ^ (i + 1)) hb
    have h2 : s / Bs ^ i % Bs < Bs := Nat.mod_lt _ (by decide)
    have h3 : (s / Bs ^ (i + 1) % b + 1) * Bs ≤ b * Bs := Nat.mul_le_mul_right _ h1
    rw [Nat.add_mul, Nat.one_mul] at h3
    omega
  have h1 : s / b / Bs ^ i = s / Bs ^ i / b := by rw [Nat.div_div_eq_div_mul, Nat.mul_comm, ← Nat.div_div_eq_div_mul]
  rw [h1]
  clear h1 e0
  obtain ⟨T, hT⟩ : ∃ T, T = s / Bs ^ (i + 1) % b * Bs + s / Bs ^ i % Bs := ⟨_, rfl⟩
  obtain ⟨U, hU⟩ : ∃ U, U = s / Bs ^ i := ⟨_, rfl⟩
  obtain ⟨V, hV⟩ : ∃ V, V = s / Bs ^ (i + 1) / b := ⟨_, rfl⟩
  rw [← hT] at e1 hlt ⊢
  rw [← hU] at e1 ⊢
  rw [← hV] at e1
  clear hT hU hV
  subst e1
  constructor
  · rw [Nat.mul_add_div hb, Nat.mul_add_mod', Nat.mod_eq_of_lt]
    rw [Nat.div_lt_iff_lt_mul hb, Nat.mul_comm]; exact hlt
  · rw [Nat.mul_add_mod]
theorem quo_lt (s b i : Nat) (hb : 0 < b) : s / Bs ^ (i + 1) % b * Bs + s / Bs ^ i % Bs < b * Bs := by
  have h1 := Nat.mod_lt (s / Bs ^ (i + 1)) hb
  have h2 : s / Bs ^ i % Bs < Bs := Nat.mod_lt _ (by decide)
  have h3 : (s / Bs ^ (i + 1) % b + 1) * Bs ≤ b * Bs := Nat.mul_le_mul_right _ h1
  rw [Nat.add_mul, Nat.one_mul] at h3
  omega
/-- Two numbers with limbs of the same length, compared from the last limb down. -/
theorem cmp_from (x y i : Nat) (h : x / Bs ^ (i + 1) = y / Bs ^ (i + 1)) (hl : x / Bs ^ i % Bs < y / Bs ^ i % Bs) : x < y := by
  rcases Nat.lt_or_ge x y with h1 | h1
  · exact h1
  · have h2 : y / Bs ^ i ≤ x / Bs ^ i := Nat.div_le_div_right h1
    rw [div_s, div_s] at h
    have e1 := Nat.div_add_mod (x / Bs ^ i) Bs
    have e2 := Nat.div_add_mod (y / Bs ^ i) Bs
    rw [h] at e1
    omega
theorem cmp_same (x y i : Nat) (h : x / Bs ^ (i + 1) = y / Bs ^ (i + 1)) (hl : x / Bs ^ i % Bs = y / Bs ^ i % Bs) : x / Bs ^ i = y / Bs ^ i := by
  rw [div_s, div_s] at h
  have e1 := Nat.div_add_mod (x / Bs ^ i) Bs
  have e2 := Nat.div_add_mod (y / Bs ^ i) Bs
  rw [h, hl] at e1
  omega
theorem Nd.lt_of_len {k l x y : Nat} (hx : Nd k x) (hy : Nd l y) (h : k < l) : x < y := by
  have h1 := Nat.pow_le_pow_right (show 0 < Bs by decide) (show k ≤ l - 1 by omega)
  rcases hy.ge with h2 | h2
  · omega
  · have := hx.lt; omega
theorem Nd.top {k n : Nat} (h : Nd k n) (hk : 0 < k) : 1 ≤ n / Bs ^ (k - 1) ∧ n / Bs ^ (k - 1) < Bs := by
  refine ⟨Nat.div_pos (h.ge.resolve_left (by omega)) (bs_pos _), ?_⟩
  rw [Nat.div_lt_iff_lt_mul (bs_pos _)]
  have := h.lt
  obtain ⟨j, rfl⟩ := Nat.exists_eq_add_of_lt hk
  rw [show 0 + j + 1 = j + 1 by omega, pow_s] at this
  rw [show 0 + j + 1 - 1 = j by omega, Nat.mul_comm]; exact this
theorem Nd.uniq {k l n : Nat} (h : Nd k n) (h' : Nd l n) : k = l := by
  have := h.le h'.lt; have := h'.le h.lt; omega
theorem Nd.pos {k n : Nat} (h : Nd k n) : 0 < k ↔ 0 < n := by
  rcases Nat.eq_zero_or_pos k with h1 | h1
  · subst h1; have := h.lt; simp at this; omega
  · have := h.ge.resolve_left (by omega); have := bs_pos (k - 1); omega
end Go.Proofs.YtmifenflbaohnaaDoor.LgM
end

section
/- Package long: trimmed, IsZero, Compare; cmp.Compare. -/
set_option linter.unusedSimpArgs false
set_option linter.unusedVariables false
set_option maxRecDepth 100000
namespace Go.Proofs.YtmifenflbaohnaaDoor
open Go.RowKit LgM

/-- A slice that is not nil. -/
def Som (v : Value) : Prop := ∃ a k c, v = .slice (some a) k c
/-- .. whose array is no older than block B. -/
def SomF (B : Nat) (v : Value) : Prop := ∃ a k c, v = .slice (some a) k c ∧ B ≤ a.block
theorem SomF.som {B : Nat} {v : Value} (h : SomF B v) : Som v := by obtain ⟨a, k, c, e, _⟩ := h; exact ⟨a, k, c, e⟩
theorem SomF.mono {B B' : Nat} {v : Value} (h : SomF B v) (hB : B' ≤ B) : SomF B' v := by obtain ⟨a, k, c, e, g⟩ := h; exact ⟨a, k, c, e, Nat.le_trans hB g⟩
set_option maxHeartbeats 1000000 in
theorem trimmed_some (k n g o c : Nat) (w : World) (hc : ∀ i, i < k → w.cell? ⟨g, o + i, none⟩ = some (.int .i64 ((n / Bs ^ i % Bs : Nat) : Int))) (hlt : TyB w g) (hn : n < Bs ^ k) (hk : k ≤ c) (hkm : k ≤ 1000000000) :
    Calls Tryd.prog 73 #[.slice (some ⟨g, o, none⟩) k c] w fun e w' => ∃ v, e = .returned (.agg #[v]) ∧ LN w' v n ∧ SomF g v ∧ Below w.heap.size w w' := by
  have HTy : Hid (TyB w g) := hlt
  have hlt : g < w.heap.size := by obtain ⟨_, _, h⟩ := HTy.out; exact lt_of_some h
  have HC : Hid (∀ i, i < k → w.cell? ⟨g, o + i, none⟩ = some (.int .i64 ((n / Bs ^ i % Bs : Nat) : Int))) := hc
  have HN : Hid (n < Bs ^ k) := hn
  clear hc hn
  have P0 := Cl.new [.slice none 0 0] 46 w
  obtain ⟨W0, hW0⟩ : ∃ W0, W0 = w.alloc (.cells #[.slice none 0 0] 46) := ⟨_, rfl⟩
  have HP : Hid (Cl w.heap.size [.slice none 0 0] 46 W0) := by rw [hW0]; exact P0
  have KB : Hid (Below w.heap.size w W0) := by show Below _ _ _; rw [hW0]; exact (Below.refl _ _).alloc (Nat.le_refl _) _
  have HC0 : Hid (∀ i, i < k → W0.cell? ⟨g, o + i, none⟩ = some (.int .i64 ((n / Bs ^ i % Bs : Nat) : Int))) := by
    intro i hi
    rw [KB.out.cell (p := ⟨g, o + i, none⟩) hlt]; exact HC.out i hi
  have HLT : Hid (g < w.heap.size) := hlt
  clear P0 hlt
  go_enter Tryd.func73, Tryd.ntmps73
  go_wp2
  rw [← hW0]
  clear hW0
  go_loopw [3] (fun lv wx => ∃ L : Nat, L ≤ k ∧ lv = .int .i64 (L : Int) ∧ Hid (n < Bs ^ L) ∧ wx = W0) (fun lv _ => (intOf lv).toNat)
  case atStart => exact ⟨k, Nat.le_refl _, rfl, HN.out, rfl⟩
  case round =>
    obtain ⟨L, hL, rfl, HL, hwr⟩ := hrel
    subst hwr
    have HEnd : Hid ((L = 0 ∨ n / Bs ^ (L - 1) % Bs ≠ 0) → ∀ W, W = wr.setCell ⟨w.heap.size, 0, none⟩ (.slice (some ⟨g, o, none⟩) L c) → W.cell? ⟨w.heap.size, 0, none⟩ = some (.slice (some ⟨g, o, none⟩) L c) ∧ LN W (.slice (some ⟨g, o, none⟩) L c) n ∧ Below w.heap.size w W) := by
      rintro h W rfl
      have C2 := HP.out.set 0 (.slice (some ⟨g, o, none⟩) L c)
      have q3 := C2.cell 0
      refine ⟨by simpa using q3, ⟨L, ⟨HL.out, ?_⟩, ⟨some ⟨g, o, none⟩, g, o, c, by rw [nz_len, dgl_len], fun _ => rfl, fun i hi => ?_, fun _ => ?_⟩, ?_⟩, KB.out.setCell (by simp) _⟩
      · rcases h with h | h
        · exact .inl h
        · right
          rcases Nat.lt_or_ge n (Bs ^ (L - 1)) with h1 | h1
          · rw [Nat.div_eq_of_lt h1] at h; exact absurd rfl h
          · exact h1
      · rw [nz_len, dgl_len] at hi
        have h1 : (wr.setCell ⟨w.heap.size, 0, none⟩ (.slice (some ⟨g, o, none⟩) L c)).cell? ⟨g, o + i, none⟩ = wr.cell? ⟨g, o + i, none⟩ := by
          have := HLT.out
          rw [World.cell?, World.cell?, Below.heap_setCell _ _ _ g (by simp; omega)]
        rw [h1, HC0.out i (by omega)]
        simp [nz, List.getD_eq_getElem?_getD, dgl, hi]
      · have := HLT.out; have := KB.out.size; simp; omega
      · intro a l c' e hl
        simp only [Value.slice.injEq, Option.some.injEq] at e
        obtain ⟨rfl, _⟩ := e
        exact (HTy.out.below KB.out).set _ _
    have q1 := HP.out.cell 0
    have q2 := HP.out.frozen 0
    simp at q1
    rcases L with _ | L
    · go_wp2
      have HE := HEnd.out (.inl (by trivial)) _ rfl
      refine bodyPost_ret (v := .agg #[.slice (some ⟨g, o, none⟩) 0 c]) (by simp [results, Tryd.results73, go_sem, HE.1]) rfl ⟨_, rfl, HE.2.1, ⟨_, _, _, rfl, Nat.le_refl _⟩, HE.2.2⟩
    · obtain ⟨d, hd⟩ : ∃ d, d = n / Bs ^ L % Bs := ⟨_, rfl⟩
      have hc1 : wr.cell? ⟨g, o + L, none⟩ = some (.int .i64 (d : Int)) := by rw [hd]; exact HC0.out L (by omega)
      have HD : Hid (d = n / Bs ^ L % Bs) := hd
      clear hd
      have hLi : ((L + 1 : Nat) : Int) - 1 = (L : Int) := by omega
      have hpos : decide ((0 : Int) < ((L + 1 : Nat) : Int)) = true := decide_eq_true (by omega)
      by_cases h0 : d = 0
      · subst h0
        go_wp2
        go_roundw
        case rel => exact ⟨L, by omega, by first | rfl | trivial, by
          show n < Bs ^ L
          have h1 := HL.out
          have h2 := HD.out
          rcases Nat.lt_or_ge n (Bs ^ L) with h3 | h3
          · exact h3
          · have h4 : n / Bs ^ L < Bs := by
              rw [Nat.div_lt_iff_lt_mul (bs_pos _), Nat.mul_comm, ← pow_s]; exact h1
            rw [Nat.mod_eq_of_lt h4] at h2
            have := Nat.div_pos h3 (bs_pos L)
            omega, by trivial⟩
        case measure => simp [intOf]
      · have hdb : ((d : Int) == 0) = false := beq_eq_false_iff_ne.2 (by omega)
        go_wp2
        have HE := HEnd.out (.inr (by rw [show L + 1 - 1 = L from rfl, ← HD.out]; exact h0)) _ rfl
        refine bodyPost_ret (v := .agg #[.slice (some ⟨g, o, none⟩) (L + 1) c]) (by simp [results, Tryd.results73, go_sem, HE.1]) rfl ⟨_, rfl, HE.2.1, ⟨_, _, _, rfl, Nat.le_refl _⟩, HE.2.2⟩

theorem trimmed_any (k n g o c : Nat) (w : World) (hc : ∀ i, i < k → w.cell? ⟨g, o + i, none⟩ = some (.int .i64 ((n / Bs ^ i % Bs : Nat) : Int))) (hlt : TyB w g) (hn : n < Bs ^ k) (hk : k ≤ c) (hkm : k ≤ 1000000000) :
    Calls Tryd.prog 73 #[.slice (some ⟨g, o, none⟩) k c] w fun e w' => ∃ v, e = .returned (.agg #[v]) ∧ LN w' v n ∧ Below w.heap.size w w' :=
  (trimmed_some k n g o c w hc hlt hn hk hkm).mono fun e w' ⟨v, h1, h2, _, h3⟩ => ⟨v, h1, h2, h3⟩

theorem LN.zero_iff {w : World} {aa : Option Addr} {k c n : Nat} (h : LN w (.slice aa k c) n) : k = 0 ↔ n = 0 := by
  obtain ⟨j, hj, h2, _⟩ := h
  obtain ⟨a, g, o, c', e, _⟩ := h2.shape
  rw [nz_len, dgl_len] at e
  simp at e
  have := hj.pos
  omega
def cmI (x y : Int) : Int := if x < y then -1 else if y < x then 1 else 0
theorem cmI_vals (x y : Int) : cmI x y = -1 ∨ cmI x y = 0 ∨ cmI x y = 1 := by unfold cmI; split <;> (try split) <;> simp
theorem cmI_zero {x y : Int} : cmI x y = 0 ↔ x = y := by unfold cmI; split <;> (try split) <;> omega
end Go.Proofs.YtmifenflbaohnaaDoor
end

section
/- Package long: Compare. -/
set_option linter.unusedSimpArgs false
set_option linter.unusedVariables false
set_option maxRecDepth 100000
namespace Go.Proofs.YtmifenflbaohnaaDoor
open Go.RowKit LgM

structure Cbx (b : Nat) (vx vy : Value) (w : World) : Prop where
  x : Cl b [vx] 46 w
  y : Cl (b + 1) [vy] 46 w
theorem Cbx.start (vx vy : Value) (w : World) : Cbx w.heap.size vx vy ((w.alloc (.cells #[vx] 46)).alloc (.cells #[vy] 46)) := by
  refine ⟨(Cl.new [vx] _ w).alloc _, ?_⟩
  have := (Cl.new [vy] 46 (w.alloc (.cells #[vx] 46)))
  simpa using this
theorem Cbx.below {b B : Nat} {vx vy : Value} {w w' : World} (h : Cbx b vx vy w) (k : Below B w w') (hB : b + 2 ≤ B) : Cbx b vx vy w' :=
  ⟨(k.block _ (by omega)).trans h.x, (k.block _ (by omega)).trans h.y⟩

end Go.Proofs.YtmifenflbaohnaaDoor
end

section
/- Package long: Minus. -/
set_option linter.unusedSimpArgs false
set_option linter.unusedVariables false
set_option maxRecDepth 100000
namespace Go.Proofs.YtmifenflbaohnaaDoor
open Go.RowKit LgM

theorem cl_of_mk {w' : World} {b n : Nat} (h : w'.ownsRow b 3 1 (.slice (some ⟨b, 0, none⟩) n n) n (madeCells #[Value.int .i64 0] n).toList) : Cl b (List.replicate n (.int .i64 0)) 3 w' := by
  obtain ⟨h1, h2 | ⟨g, cap, cur, e1, e2, e3, e4, e5, e6, e7⟩⟩ := h
  · obtain ⟨h2, rfl⟩ := h2
    simp at h2
  · simp at e1
    obtain ⟨rfl, rfl⟩ := e1
    unfold Cl
    rw [e3]
    have : cur.toList = (madeCells #[Value.int .i64 0] n).toList := by
      rw [← e7, List.take_of_length_le (by simp; omega)]
    have e8 : cur = madeCells #[Value.int .i64 0] n := Array.toList_inj.1 this
    rw [e8]
    congr 2
    apply Array.ext
    · simp [madeCells]
    · intro i h1 h2
      simp [madeCells, Nat.mod_one]

def icn (k : Nat) (B : Nat → Int) : List Value := (List.range k).map fun j => .int .i64 (B j)
theorem icn_zero (k : Nat) : icn k (fun _ => 0) = List.replicate k (.int .i64 0) := by
  apply List.ext_getElem?
  intro i
  by_cases hi : i < k
  · simp [icn, hi]
  · simp [icn, hi]
theorem icn_set {k i : Nat} (B : Nat → Int) (v : Int) : (icn k B).set i (.int .i64 v) = icn k (fun j => if j = i then v else B j) := by
  apply List.ext_getElem?
  intro j
  rw [List.getElem?_set]
  by_cases hj : i = j
  · subst hj
    by_cases hk : i < k
    · simp [icn, hk]
    · simp [icn, hk]
  · rw [if_neg hj]
    by_cases hk : j < k
    · simp [icn, hk, show j ≠ i from fun e => hj e.symm]
    · simp [icn, hk]
theorem icn_get {k : Nat} (B : Nat → Int) {i : Nat} (h : i < k) : (icn k B)[i]? = some (.int .i64 (B i)) := by simp [icn, h]

/-- A box of a Number is written: numbers stay. -/
theorem LN.set {w : World} {v : Value} {n b : Nat} {a : Option Addr} {k c : Nat} {t : TypeId} (h : LN w v n) (hc : Cl b [.slice a k c] t w) (u : Value) : LN (w.setCell ⟨b, 0, none⟩ u) v n := by
  obtain ⟨j, hj, ⟨aa, g, o, c', e, p, cell, lt⟩, hty⟩ := h
  refine ⟨j, hj, ⟨aa, g, o, c', e, p, fun i hi => ?_, fun hp => by have := lt hp; simp; omega⟩, hty.set _ _⟩
  have hne : g ≠ b := by
    intro e2
    subst e2
    have h1 := cell i hi
    rw [hc.cell] at h1
    rcases ho : o + i with _ | s
    · rw [ho] at h1; simp at h1
    · rw [ho] at h1; simp at h1
  rw [World.cell?, Below.heap_setCell _ _ _ g (by simpa using hne)]
  exact cell i hi
set_option maxHeartbeats 4000000 in
theorem NMinus_some (vx vy : Value) (x y m : Nat) (w : World) (hx : LN w vx x) (hy : LN w vy y) (hxm : x < Bs ^ m) (hm : m ≤ 100000000) (hyx : y ≤ x) :
    Calls Tryd.prog 57 #[.agg #[vx], .agg #[vy]] w fun e w' => ∃ v, e = .returned (.agg #[v]) ∧ LN w' v (x - y) ∧ SomF w.heap.size v ∧ Below w.heap.size w w' := by
  obtain ⟨i0, hi, hz0, hz1, hz2⟩ := info_parts Tryd.infoInt
  have HY : Hid (LN w vy y) := hy
  obtain ⟨kx, ax, gx, ox, cx, rfl, nx, hpx, hcx, hlx⟩ := hx.open
  have hkx := nx.le hxm
  have HXm : Hid (x < Bs ^ kx) := nx.lt
  have HPX : Hid (0 < kx → ax = some ⟨gx, ox, none⟩) := hpx
  have HCX : Hid (∀ i, i < kx → w.cell? ⟨gx, ox + i, none⟩ = some (.int .i64 ((x / Bs ^ i % Bs : Nat) : Int))) := hcx
  have HLX : Hid (0 < kx → gx < w.heap.size) := hlx
  have HYX : Hid (y ≤ x) := hyx
  clear hx hy nx hpx hcx hlx hxm hyx
  have P0 := Pb.start (.slice ax kx cx) vy w
  obtain ⟨W0, hW0⟩ : ∃ W0, W0 = (((w.alloc (.cells #[.slice ax kx cx] 46)).alloc (.cells #[vy] 46)).alloc (.cells #[.slice none 0 0] 46)) := ⟨_, rfl⟩
  rw [← hW0] at P0
  have z0 : W0.heap.size = w.heap.size + 3 := by rw [hW0]; simp
  have KB0 : Hid (Below w.heap.size w W0) := by
    show Below _ _ _
    rw [hW0]; exact (((Below.refl _ _).alloc (Nat.le_refl _) _).alloc (by simp) _).alloc (by simp; omega) _
  have HP0 : Hid (Pb w.heap.size (.slice ax kx cx) vy W0) := P0
  clear P0
  go_enter Tryd.func57, Tryd.ntmps57
  go_wp2_with (at_make; rw [← hW0]; refine wpList_make_full _ rfl _ _ 36 rfl W0.heap.size 3 i0 (.int .i64 0) 1 Tryd.underlying36 hi hz0 hz1 .i64 .i64 _ _ kx rfl rfl (by omega) (by omega) (by rw [hz2]; omega) (by unfold maxLen; omega) (Nat.le_refl _) ?_)
  intro w1 hown hgrow
  have hcl := cl_of_mk hown
  rw [← icn_zero] at hcl
  have HCl : Hid (Cl (w.heap.size + 1 + 1 + 1) (icn kx (fun _ => 0)) 3 w1) := hcl
  have HB : Hid (Below (w.heap.size + 3) W0 w1) := by
    have := (Below.refl W0.heap.size W0).grown (hW0 ▸ hgrow) (Nat.le_refl _) (by simp)
    rw [z0] at this; exact this
  have z1 : w.heap.size + 3 ≤ w1.heap.size := by have := HB.out.size; omega
  have q1 := (HP0.out.below HB.out (by omega)).x.cell 0
  simp at q1
  clear hown hgrow hcl hi hz0 hz1 hz2 hW0
  go_wp2
  clear q1
  go_loopw [6, 16] (fun bv iv wx => ∃ (i b : Nat) (B : Nat → Int), i ≤ kx ∧ b ≤ 1 ∧ bv = .int .i64 (b : Int) ∧ iv = .int .i64 (i : Int) ∧ Hid (b = bw x y i ∧ (∀ j, j < i → B j = (((x - y) / Bs ^ j % Bs : Nat) : Int)) ∧ Cl (w.heap.size + 1 + 1 + 1) (icn kx B) 3 wx ∧ Below (w.heap.size + 3) W0 wx)) (fun _ iv _ => kx - (intOf iv).toNat)
  case atStart => exact ⟨0, 0, fun _ => 0, Nat.zero_le _, by omega, rfl, rfl, by rw [bw_zero], fun j hj => absurd hj (Nat.not_lt_zero _), HCl.out, HB.out⟩
  case round =>
    clear z1 HB HCl
    obtain ⟨i, b, B, hi, hb, rfl, rfl, HR⟩ := hrel
    by_cases hlt : i < kx
    · obtain rfl := HPX.out (by omega)
      obtain ⟨dx, hdx⟩ : ∃ dx, dx = x / Bs ^ i % Bs := ⟨_, rfl⟩
      obtain ⟨dy, hdy⟩ : ∃ dy, dy = y / Bs ^ i % Bs := ⟨_, rfl⟩
      have hdx1 : dx ≤ 999999999 := by rw [hdx]; exact limb_lt x i
      have hdy1 : dy ≤ 999999999 := by rw [hdy]; exact limb_lt y i
      have HPw : Hid (Pb w.heap.size (.slice (some ⟨gx, ox, none⟩) kx cx) vy wr) := HP0.out.below HR.out.2.2.2 (Nat.le_refl _)
      have q1 : wr.cell? ⟨gx, ox + i, none⟩ = some (.int .i64 (dx : Int)) := by
        have hl := HLX.out (by omega)
        rw [hdx, (KB0.out.trans (HR.out.2.2.2.mono (by omega))).cell (p := ⟨gx, ox + i, none⟩) hl]; exact HCX.out i hlt
      have q2 := HPw.out.y.cell 0
      simp at q2
      have HLy : Hid (LN wr vy y) := (HY.out.below KB0.out).below (HR.out.2.2.2.mono (by omega))
      have HD : Hid (dx = x / Bs ^ i % Bs ∧ dy = y / Bs ^ i % Bs) := ⟨hdx, hdy⟩
      have HLm : Hid (Calls Tryd.prog 72 #[.agg #[vy], .int .i64 (i : Int)] wr fun e w' => e = .returned (.int .i64 (dy : Int)) ∧ Below wr.heap.size wr w') := by
        have := limb_any vy y i wr HLy.out (by omega)
        rw [← hdy] at this
        exact this
      clear hdx hdy
      have zr : w.heap.size + 3 ≤ wr.heap.size := by have := HR.out.2.2.2.size; omega
      have HZr : Hid (w.heap.size + 3 ≤ wr.heap.size) := zr
      clear zr
      go_wp2_with fail
      refine HLm.out.mono ?_
      rintro e w2 ⟨rfl, k2⟩
      have HK2 : Hid (Below (w.heap.size + 3) W0 w2) := HR.out.2.2.2.trans (k2.mono HZr.out)
      have HC2 : Hid (Cl (w.heap.size + 1 + 1 + 1) (icn kx B) 3 w2) := HR.out.2.2.1.below k2
      have hc : w2.cell? ⟨w.heap.size + 1 + 1 + 1, i, none⟩ = some (.int .i64 (B i)) := by rw [HC2.out.cell i]; exact icn_get B hlt
      have hf : w2.frozen? ⟨w.heap.size + 1 + 1 + 1, i, none⟩ = false := HC2.out.frozen i
      clear k2 q1 q2
      have hmd := minus_dgt x y i HYX.out
      have hmb := minus_bw x y i HYX.out
      rw [← HD.out.1, ← HD.out.2, ← HR.out.1] at hmd hmb
      have HNew : Hid (∀ d : Nat, d = (x - y) / Bs ^ i % Bs → Cl (w.heap.size + 1 + 1 + 1) (icn kx (fun j => if j = i then (d : Int) else B j)) 3 (w2.setCell ⟨w.heap.size + 1 + 1 + 1, i, none⟩ (.int .i64 (d : Int))) ∧ Below (w.heap.size + 3) W0 (w2.setCell ⟨w.heap.size + 1 + 1 + 1, i, none⟩ (.int .i64 (d : Int))) ∧ ∀ j, j < i + 1 → (if j = i then (d : Int) else B j) = (((x - y) / Bs ^ j % Bs : Nat) : Int)) := by
        intro d hd
        refine ⟨by rw [← icn_set]; exact HC2.out.set i _, HK2.out.setCell (by simp) _, fun j hj => ?_⟩
        by_cases hji : j = i
        · rw [if_pos hji, hd, hji]
        · rw [if_neg hji]; exact HR.out.2.1 j (by omega)
      obtain ⟨d, hd⟩ : ∃ d, d = (x - y) / Bs ^ i % Bs := ⟨_, rfl⟩
      obtain ⟨b', hb'⟩ : ∃ b', b' = bw x y (i + 1) := ⟨_, rfl⟩
      rw [← hd] at hmd
      rw [← hb'] at hmb
      have HNd := HNew.out d hd
      have HN2 : Hid (Cl (w.heap.size + 1 + 1 + 1) (icn kx (fun j => if j = i then (d : Int) else B j)) 3 (w2.setCell ⟨w.heap.size + 1 + 1 + 1, i, none⟩ (.int .i64 (d : Int))) ∧ Below (w.heap.size + 3) W0 (w2.setCell ⟨w.heap.size + 1 + 1 + 1, i, none⟩ (.int .i64 (d : Int))) ∧ ∀ j, j < i + 1 → (if j = i then (d : Int) else B j) = (((x - y) / Bs ^ j % Bs : Nat) : Int)) := HNd
      have HB' : Hid (b' = bw x y (i + 1)) := hb'
      clear HNd HNew hd hb' HLm HLy HPw
      by_cases hneg : dx < dy + b
      · rw [if_pos hneg] at hmd hmb
        have ht : decide ((dx : Int) - ((dy : Int) + (b : Int)) < 0) = true := decide_eq_true (by omega)
        have hs : (dx : Int) - ((dy : Int) + (b : Int)) + 1000000000 = (d : Int) := by rw [hmd]; unfold Bs; omega
        have HBb : Hid (b' = 1) := hmb
        have hdl : d ≤ 1000000000 := by rw [hmd]; unfold Bs; omega
        clear hmd hmb
        go_wp2
        go_roundw
        case rel => exact ⟨i + 1, 1, _, by omega, by omega, by first | rfl | go_num, by go_num, HBb.out.symm.trans HB'.out, HN2.out.2.2, HN2.out.1, HN2.out.2.1⟩
        case measure => simp [intOf]; omega
      · rw [if_neg hneg] at hmd hmb
        have ht : decide ((dx : Int) - ((dy : Int) + (b : Int)) < 0) = false := decide_eq_false (by omega)
        have hs : (dx : Int) - ((dy : Int) + (b : Int)) = (d : Int) := by rw [hmd]; omega
        have HBb : Hid (b' = 0) := hmb
        have hdl : d ≤ 1000000000 := by rw [hmd]; omega
        clear hmd hmb
        go_wp2
        go_roundw
        case rel => exact ⟨i + 1, 0, _, by omega, by omega, by first | rfl | go_num, by go_num, HBb.out.symm.trans HB'.out, HN2.out.2.2, HN2.out.1, HN2.out.2.1⟩
        case measure => simp [intOf]; omega
    · obtain rfl : i = kx := by omega
      have HT : Hid (Calls Tryd.prog 73 #[.slice (some ⟨w.heap.size + 1 + 1 + 1, 0, none⟩) i i] wr fun e w' => ∃ v, e = .returned (.agg #[v]) ∧ LN w' v (x - y) ∧ SomF (w.heap.size + 1 + 1 + 1) v ∧ Below wr.heap.size wr w') := by
        refine trimmed_some i (x - y) (w.heap.size + 1 + 1 + 1) 0 i wr (fun j hj => ?_) ⟨_, _, HR.out.2.2.1⟩ (by have := HXm.out; omega) (Nat.le_refl _) (by omega)
        rw [Nat.zero_add, HR.out.2.2.1.cell j, icn_get B hj, HR.out.2.1 j hj]
      have HZr : Hid (w.heap.size + 3 ≤ wr.heap.size) := by have := HR.out.2.2.2.size; show _ ≤ _; omega
      go_wp2_with fail
      refine HT.out.mono ?_
      rintro e w2 ⟨v, rfl, hv, hsv, k2⟩
      have HSv : Hid (SomF w.heap.size v) := hsv.mono (by omega)
      clear hsv
      have HK2 : Hid (Below (w.heap.size + 3) W0 w2) := HR.out.2.2.2.trans (k2.mono HZr.out)
      have hP2 := HP0.out.below HK2.out (Nat.le_refl _)
      have q1 := hP2.z.cell 0
      have q2 := hP2.z.frozen 0
      simp at q1
      have HV : Hid (LN w2 v (x - y)) := hv
      have HP2 : Hid (Pb w.heap.size (.slice ax i cx) vy w2) := hP2
      obtain ⟨kv, av, gv, ov, cv, rfl, _⟩ := hv.open
      clear k2 hv HT hP2
      go_wp2
      have C2 := HP2.out.z.set 0 (.slice av kv cv)
      have q3 := C2.cell 0
      simp at q3
      refine bodyPost_ret (v := .agg #[.slice av kv cv]) (by simp [results, Tryd.results57, go_sem, q3]) rfl ⟨_, rfl, ?_, HSv.out, ?_⟩
      · exact HV.out.set HP2.out.z _
      · exact (KB0.out.trans (HK2.out.mono (by omega))).setCell (by simp; omega) _
theorem NMinus_any (vx vy : Value) (x y m : Nat) (w : World) (hx : LN w vx x) (hy : LN w vy y) (hxm : x < Bs ^ m) (hm : m ≤ 100000000) (hyx : y ≤ x) :
    Calls Tryd.prog 57 #[.agg #[vx], .agg #[vy]] w fun e w' => ∃ v, e = .returned (.agg #[v]) ∧ LN w' v (x - y) ∧ Below w.heap.size w w' :=
  (NMinus_some vx vy x y m w hx hy hxm hm hyx).mono fun e w' ⟨v, h1, h2, _, h3⟩ => ⟨v, h1, h2, h3⟩
end Go.Proofs.YtmifenflbaohnaaDoor
end
