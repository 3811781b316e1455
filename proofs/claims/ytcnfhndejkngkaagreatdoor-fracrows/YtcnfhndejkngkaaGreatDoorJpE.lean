import Derived.Test.YtcnfhndejkngkaaGreatDoorRows
import Derived.WalkKit
import Derived.OrdersHeld
import Derived.Deep.RegionWith
import Derived.Test.YtcnfhndejkngkaaGreatDoorJpD
section
set_option linter.unusedSimpArgs false
set_option linter.unusedVariables false
set_option maxRecDepth 100000
namespace Go.Proofs.YtcnfhndejkngkaaGreatDoor
open Go.RowKit
section
variable {P : Program} {ops : Array Oper} {Q : Exit → Act → World → Prop} {md : Region.Mode} {S : World → Prop}
def waitsB (md : Region.Mode) (ops : Array Oper) (i : Nat) : Nat → Nat → Bool
  | 0, _ => false
  | fuel + 1, g => match ops[g]? with
    | none => false
    | some o => o.after.any fun e => Region.binds md e && (e.on == i || waitsB md ops i fuel e.on)
def Closed (md : Region.Mode) (ops : Array Oper) (listed : Array Bool) : Prop :=
  ∀ j oj, ops[j]? = some oj → listed.getD j false = true → ∀ e ∈ oj.after, Region.binds md e = true → listed.getD e.on false = true
def closedB (md : Region.Mode) (ops : Array Oper) (listed : Array Bool) : Bool :=
  (List.range ops.size).all fun j => match ops[j]? with
    | none => true
    | some oj => !listed.getD j false || oj.after.all fun e => !Region.binds md e || listed.getD e.on false
theorem closed_of {listed : Array Bool} (h : closedB md ops listed = true) : Closed md ops listed := by
  intro j oj hj hl e he hb
  simp only [closedB, List.all_eq_true, List.mem_range] at h
  have h1 := h j (Array.getElem?_eq_some_iff.1 hj).1
  simp only [hj, hl, Bool.not_true, Bool.false_or, Array.all_eq_true] at h1
  obtain ⟨k, hk, rfl⟩ := Array.getElem_of_mem he
  have h2 := h1 k hk
  simp only [hb, Bool.not_true, Bool.false_or] at h2
  exact h2
theorem Closed.step {listed : Array Bool} {j : Nat} (h : Closed md ops listed) (hj : j ∈ Region.ready md ops listed) : Closed md ops (listed.setIfInBounds j true) := by
  obtain ⟨_, o, ho, hall⟩ := mem_ready.1 hj
  intro k ok hk hl e he hb
  by_cases hkj : j = k
  · subst hkj
    rw [ho] at hk; cases hk
    exact getD_set_true (hall e he hb)
  · rw [getD_set_ne false hkj] at hl
    exact getD_set_true (h k ok hk hl e he hb)
theorem waits_unlisted {i : Nat} {listed : Array Bool} (hc : Closed md ops listed) (hi : listed.getD i false = false) :
    ∀ (fuel g : Nat), waitsB md ops i fuel g = true → listed.getD g false = false ∧ g ∉ Region.ready md ops listed := by
  intro fuel
  induction fuel with
  | zero => intro g h; simp [waitsB] at h
  | succ n ih =>
    intro g h
    simp only [waitsB] at h
    cases ho : ops[g]? with
    | none => simp [ho] at h
    | some o =>
      simp only [ho, Array.any_eq_true, Bool.and_eq_true, Bool.or_eq_true, beq_iff_eq] at h
      obtain ⟨k, hk, hb, h2⟩ := h
      have hun : listed.getD o.after[k].on false = false := by
        rcases h2 with h2 | h2
        · rw [h2]; exact hi
        · exact (ih _ h2).1
      have hmem : o.after[k] ∈ o.after := Array.getElem_mem hk
      constructor
      · cases hg : listed.getD g false
        · rfl
        · have := hc g o ho hg _ hmem hb
          rw [hun] at this; cases this
      · intro hr
        obtain ⟨_, o', ho', hall⟩ := mem_ready.1 hr
        rw [ho] at ho'; cases ho'
        have := hall _ hmem hb
        rw [hun] at this; cases this
def wpAnyG (P : Program) (md : Region.Mode) (ops : Array Oper) (Q : Exit → Act → World → Prop) (S : World → Prop) (g : Nat) : Nat → Array Bool → Act → World → Prop
  | 0, listed, a, w => Region.ready md ops listed = [] ∧ Q .normal a w
  | fuel + 1, listed, a, w =>
    (Region.ready md ops listed = [] → Q .normal a w) ∧
    ∀ i ∈ Region.ready md ops listed, wpOp P ops Q i (fun a' w' => (listed.getD g false = false → i ≠ g → S w') ∧ wpAnyG P md ops Q S g fuel (listed.setIfInBounds i true) a' w') a w
theorem wpAny_of_G {g : Nat} : ∀ (fuel : Nat) (listed : Array Bool) (a : Act) (w : World), wpAnyG P md ops Q S g fuel listed a w → wpAny P md ops Q fuel listed a w
  | 0, _, _, _, h => h
  | fuel + 1, _, _, _, h => ⟨h.1, fun i hi => wpOp_mono (fun a' w' h' => wpAny_of_G fuel _ a' w' h'.2) (h.2 i hi)⟩
theorem unlisted_of_ready {i : Nat} {listed : Array Bool} (h : i ∈ Region.ready md ops listed) : listed.getD i false = false := by
  have h0 := (mem_ready.1 h).1
  rcases Nat.lt_or_ge i listed.size with h' | h'
  · simp [h'] at h0 ⊢; exact h0
  · simp [h']
def Loose (md : Region.Mode) (ops : Array Oper) (i : Nat) (oi : Oper) (listed : Array Bool) : Prop :=
  ∀ j oj, ops[j]? = some oj → j ≠ i → listed.getD j true = false → (∀ e ∈ oj.after, Region.binds md e = true → e.on ≠ i) → oi.apart ops oj = true
theorem Loose.step {i j : Nat} {oi : Oper} {listed : Array Bool} (h : Loose md ops i oi listed) (hj : listed.getD j true = false) : Loose md ops i oi (listed.setIfInBounds j true) := by
  intro k ok hk hki hun hno
  by_cases e : j = k
  · exact h k ok hk hki (e ▸ hj) hno
  · exact h k ok hk hki (by rwa [getD_set_ne true e] at hun) hno
theorem ready_apart {i : Nat} {listed : Array Bool} (hi : i ∈ Region.ready md ops listed) {oj : Oper} (hall : ∀ e ∈ oj.after, Region.binds md e = true → listed.getD e.on false = true) :
    ∀ e ∈ oj.after, Region.binds md e = true → e.on ≠ i := by
  intro e he hb hei
  have h1 := hall e he hb
  rw [hei, unlisted_of_ready hi] at h1
  cases h1
theorem not_none_ready {i : Nat} {listed : Array Bool} {p : Prop} (hi : i ∈ Region.ready md ops listed) : Region.ready md ops listed = [] → p := fun h0 => by
  rw [h0] at hi; exact absurd hi (List.not_mem_nil)
theorem wpAnyG_first {i g n : Nat} {oi : Oper} {v : Value} (hi : ops[i]? = some oi) (hwt : waitsB md ops i n g = true) (hsel : ∀ (j : Nat) (o : Oper) cs b, ops[j]? = some o → o.op ≠ .select cs b)
    (hQ : ∀ c a w, Q (.panic c) (a.put oi.dst v) w → Q (.panic c) a w) :
    ∀ (fuel : Nat) (listed : Array Bool) (a : Act) (w : World), Closed md ops listed → Loose md ops i oi listed → i ∈ Region.ready md ops listed → YieldsIf P ops S oi v a → S w →
      wpAnyG P md ops Q S g fuel (listed.setIfInBounds i true) (a.put oi.dst v) w → wpAnyG P md ops Q S g (fuel + 1) listed a w
  | 0, listed, a, w, _, _, hr, hy, hS, H => by
    refine ⟨not_none_ready hr, fun j hj => ?_⟩
    by_cases hji : j = i
    · rw [hji] at hj ⊢; exact hy.wpOp hi hS ⟨fun _ _ => hS, H⟩
    · exact absurd (ready_mono hj hji) (by rw [H.1]; exact List.not_mem_nil)
  | fuel + 1, listed, a, w, hcl, hlo, hr, hy, hS, H => by
    refine ⟨not_none_ready hr, fun j hj => ?_⟩
    by_cases hji : j = i
    · rw [hji] at hj ⊢; exact hy.wpOp hi hS ⟨fun _ _ => hS, H⟩
    obtain ⟨gun, gnr⟩ := waits_unlisted hcl (unlisted_of_ready hr) n g hwt
    have hjg : j ≠ g := fun e => gnr (e ▸ hj)
    have hig : i ≠ g := fun e => gnr (e ▸ hr)
    obtain ⟨jun, oj, hoj, hall⟩ := mem_ready.1 hj
    have step := wpOp_putIf hoj (hlo j oj hoj hji jun (ready_apart hr hall)) (fun cs b => hsel i oi cs b hi) (fun cs b => hsel j oj cs b hoj) hQ hy (H.2 j (ready_mono hj hji))
    refine wpOp_mono (fun a' w' h3 => ?_) step
    obtain ⟨y3, s3, r3⟩ := h3
    have sw : S w' := s3 (by rw [getD_set_ne false hig]; exact gun) hjg
    rw [Array.setIfInBounds_comm _ _ (Ne.symm hji)] at r3
    exact ⟨fun _ _ => sw, wpAnyG_first hi hwt hsel hQ fuel _ a' w' (hcl.step hj) (hlo.step jun) (ready_mono hr (Ne.symm hji)) y3 sw r3⟩
theorem wpAnyG_take {i g : Nat} {oi : Oper} {v : Value} {fuel : Nat} {listed : Array Bool} {a : Act} {w : World} (hi : ops[i]? = some oi)
    (hc : (Region.noSelect ops && Region.free md ops listed i && (Region.ready md ops listed).contains i && closedB md ops listed && waitsB md ops i 12 g) = true)
    (hQ : ∀ c a w, Q (.panic c) (a.put oi.dst v) w → Q (.panic c) a w) (hy : YieldsIf P ops S oi v a) (hS : S w)
    (h : wpAnyG P md ops Q S g fuel (listed.setIfInBounds i true) (a.put oi.dst v) w) : wpAnyG P md ops Q S g (fuel + 1) listed a w := by
  simp only [Bool.and_eq_true] at hc
  obtain ⟨⟨⟨⟨hs, hf⟩, hr⟩, hcl⟩, hw⟩ := hc
  exact wpAnyG_first hi hw (Region.noSelect_spec hs) hQ fuel listed a w (closed_of hcl) (Region.free_spec hi hf) (by simpa using hr) hy hS h
theorem wpAnyG_one {i g : Nat} {o : Oper} {fuel : Nat} {listed : Array Bool} {a : Act} {w : World} (ho : ops[i]? = some o) (hr : Region.ready md ops listed = [i])
    (h : ∀ K' : Act → World → Prop, Hid (∀ a w, S w → wpAnyG P md ops Q S g fuel (listed.setIfInBounds i true) a w → K' a w) → if Region.wanted o (yielded ops a.tmps) = true then Oper.wp P o a w K' Q else K' (a.put o.dst undef) w) : wpAnyG P md ops Q S g (fuel + 1) listed a w := by
  refine ⟨fun h0 => (by rw [hr] at h0; cases h0), fun j hj => ?_⟩
  rw [hr] at hj
  simp at hj
  subst hj
  exact wpOp_step ho fun K' hK => h K' (fun a w h1 h2 => hK a w ⟨fun _ _ => h1, h2⟩)
theorem wpAnyG_last {i g : Nat} {o : Oper} {fuel : Nat} {listed : Array Bool} {a : Act} {w : World} (ho : ops[i]? = some o) (hr : Region.ready md ops listed = [i]) (hg : (listed.getD g false || i == g) = true)
    (h : ∀ K' : Act → World → Prop, Hid (∀ a w, wpAnyG P md ops Q S g fuel (listed.setIfInBounds i true) a w → K' a w) → if Region.wanted o (yielded ops a.tmps) = true then Oper.wp P o a w K' Q else K' (a.put o.dst undef) w) : wpAnyG P md ops Q S g (fuel + 1) listed a w := by
  refine ⟨fun h0 => (by rw [hr] at h0; cases h0), fun j hj => ?_⟩
  rw [hr] at hj
  simp at hj
  subst hj
  refine wpOp_step ho fun K' hK => h K' (fun a w h1 => hK a w ⟨fun h2 h3 => ?_, h1⟩)
  simp [h3] at hg
  simp [hg] at h2
theorem wpAnyG_done {g : Nat} {listed : Array Bool} {a : Act} {w : World} (hr : Region.ready md ops listed = []) (h : Q .normal a w) :
    ∀ fuel, wpAnyG P md ops Q S g fuel listed a w
  | 0 => ⟨hr, h⟩
  | _ + 1 => ⟨fun _ => h, by rw [hr]; simp⟩
theorem wp_region_G {id : Nat} {a : Act} {w : World} (S : World → Prop) (g : Nat) (hm : P.follows .mixedOrders = true) (hS : S w.drew)
    (h : S w.drew → wpAnyG P .any ops Q S g ops.size (Array.replicate ops.size false) a w.drew) : (Code.region id ops true).wp P Q a w :=
  wp_region_any hm (wpAny_of_G _ _ _ _ (h hS))
end
end Go.Proofs.YtcnfhndejkngkaaGreatDoor
end

section
set_option linter.unusedSimpArgs false
set_option linter.unusedVariables false
set_option maxRecDepth 100000
namespace Go.Proofs.YtcnfhndejkngkaaGreatDoor
open Go.RowKit
theorem NS.drew {w : World} {s : Value} {n : Nat} (h : NS w s n) : NS w.drew s n := h.below (Below.refl w.heap.size w).drew (Nat.le_refl _)
theorem Slot.drew {w : World} {b : Nat} (h : Slot w b) : Slot w.drew b := h
theorem NS.drewN {w : World} {s : Value} {q n : Nat} (h : NS w s n) : NS (w.drewN q) s n := h.below (below_drewN' (Below.refl w.heap.size w)) (Nat.le_refl _)
theorem BigAt.open {w : World} {b : Nat} {n : Int} (h : BigAt w b n) : ∃ aa len cap, w.cell? ⟨b, 0, none⟩ = some (.bool (decide (n < 0))) ∧ w.cell? ⟨b, 1, none⟩ = some (.slice aa len cap) ∧ NS w (.slice aa len cap) n.natAbs ∧ (0 < len ↔ 0 < n.natAbs) := by
  obtain ⟨s, h1, h2⟩ := h
  obtain ⟨aa, len, cap, rfl, hl⟩ := h2.shape
  exact ⟨aa, len, cap, by simp [World.cell?, h1], by simp [World.cell?, h1], h2, hl⟩
theorem sgd_self (x : Int) : sgd (decide (x < 0)) x.natAbs = x := by unfold sgd; by_cases h : x < 0 <;> simp [h] <;> omega
theorem sgd_mul (p q : Bool) (a b : Nat) : sgd (p != q) (a * b) = sgd p a * sgd q b := by
  cases p <;> cases q <;> simp [sgd, Int.neg_mul, Int.mul_neg]
theorem sgd_not (q : Bool) (b : Nat) : sgd (!q) b = -sgd q b := by cases q <;> simp [sgd]
set_option maxHeartbeats 1000000 in
theorem Mul_any (bz bx by' : Nat) (x y : Int) (m n : Nat) (w : World) (hz : Slot w bz) (hx : BigAt w bx x) (hy : BigAt w by' y) (hm : x.natAbs < pw m) (hn : y.natAbs < pw n) (hm' : m ≤ 100000000) (hn' : n ≤ 100000000) :
    Calls Tryz.prog 41 #[.pointer (some ⟨bz, 0, none⟩), .pointer (some ⟨bx, 0, none⟩), .pointer (some ⟨by', 0, none⟩)] w fun e w' => e = .returned (.pointer (some ⟨bz, 0, none⟩)) ∧ BigAt w' bz (x * y) ∧ Upd bz w w' := by
  obtain ⟨xa, xl, xc, cx0, cx1, nx, _⟩ := hx.open
  obtain ⟨ya, yl, yc, cy0, cy1, ny, _⟩ := hy.open
  have lx := hx.lt
  have ly := hy.lt
  have HZ : Hid (Slot w bz) := hz
  have NX : Hid (NS w (.slice xa xl xc) x.natAbs) := nx
  have NY : Hid (NS w (.slice ya yl yc) y.natAbs) := ny
  have HM : Hid (x.natAbs < pw m) := hm
  have HN : Hid (y.natAbs < pw n) := hn
  clear hx hy hz nx ny hm hn
  obtain ⟨p, hp⟩ : ∃ p, p = decide (x < 0) := ⟨_, rfl⟩
  obtain ⟨q, hq⟩ : ∃ q, q = decide (y < 0) := ⟨_, rfl⟩
  rw [← hp] at cx0
  rw [← hq] at cy0
  have HXY : Hid (sgd (p != q) (x.natAbs * y.natAbs) = x * y) := by show _ = _; rw [sgd_mul, hp, hq, sgd_self, sgd_self]
  clear hp hq
  go_enter Tryz.func41, Tryz.ntmps41
  go_wp2
  refine wp_region_G (fun w' => w'.cell? ⟨bx, 0, none⟩ = some (.bool p) ∧ w'.cell? ⟨bx, 1, none⟩ = some (.slice xa xl xc) ∧ w'.cell? ⟨by', 0, none⟩ = some (.bool q) ∧ w'.cell? ⟨by', 1, none⟩ = some (.slice ya yl yc)) 19 (by kernel_rfl) ⟨cx0, cx1, cy0, cy1⟩ (fun hHeld => ?_)
  refine wpAnyG_take (i := 0) (v := ?v0) rfl (by kernel_rfl) (fun _ _ _ h => h) (Or.inl ⟨by rfl, ?y0⟩) hHeld ?r0
  case y0 => (intro wS hSw; obtain ⟨s1, s2, s3, s4⟩ := hSw; go_simp; try with_reducible rfl)
  try simp only [Act.put, List.setIfInBounds_toArray, List.set_cons_zero, List.set_cons_succ]
  refine wpAnyG_take (i := 1) (v := ?v1) rfl (by kernel_rfl) (fun _ _ _ h => h) (Or.inl ⟨by rfl, ?y1⟩) hHeld ?r1
  case y1 => (intro wS hSw; obtain ⟨s1, s2, s3, s4⟩ := hSw; go_simp; try with_reducible rfl)
  try simp only [Act.put, List.setIfInBounds_toArray, List.set_cons_zero, List.set_cons_succ]
  refine wpAnyG_take (i := 2) (v := ?v2) rfl (by kernel_rfl) (fun _ _ _ h => h) (Or.inl ⟨by rfl, ?y2⟩) hHeld ?r2
  case y2 => (intro wS hSw; obtain ⟨s1, s2, s3, s4⟩ := hSw; go_simp; try with_reducible rfl)
  try simp only [Act.put, List.setIfInBounds_toArray, List.set_cons_zero, List.set_cons_succ]
  refine wpAnyG_take (i := 3) (v := ?v3) rfl (by kernel_rfl) (fun _ _ _ h => h) (Or.inl ⟨by rfl, ?y3⟩) hHeld ?r3
  case y3 => (intro wS hSw; obtain ⟨s1, s2, s3, s4⟩ := hSw; go_simp; try with_reducible rfl)
  try simp only [Act.put, List.setIfInBounds_toArray, List.set_cons_zero, List.set_cons_succ]
  refine wpAnyG_take (i := 4) (v := ?v4) rfl (by kernel_rfl) (fun _ _ _ h => h) (Or.inl ⟨by rfl, ?y4⟩) hHeld ?r4
  case y4 => (intro wS hSw; obtain ⟨s1, s2, s3, s4⟩ := hSw; go_simp; try with_reducible rfl)
  try simp only [Act.put, List.setIfInBounds_toArray, List.set_cons_zero, List.set_cons_succ]
  refine wpAnyG_take (i := 5) (v := ?v5) rfl (by kernel_rfl) (fun _ _ _ h => h) (Or.inl ⟨by rfl, ?y5⟩) hHeld ?r5
  case y5 => (intro wS hSw; obtain ⟨s1, s2, s3, s4⟩ := hSw; go_simp; try with_reducible rfl)
  try simp only [Act.put, List.setIfInBounds_toArray, List.set_cons_zero, List.set_cons_succ]
  refine wpAnyG_take (i := 6) (v := ?v6) rfl (by kernel_rfl) (fun _ _ _ h => h) (Or.inl ⟨by rfl, ?y6⟩) hHeld ?r6
  case y6 => (intro wS hSw; obtain ⟨s1, s2, s3, s4⟩ := hSw; go_simp; try with_reducible rfl)
  try simp only [Act.put, List.setIfInBounds_toArray, List.set_cons_zero, List.set_cons_succ]
  refine wpAnyG_take (i := 7) (v := ?v7) rfl (by kernel_rfl) (fun _ _ _ h => h) (Or.inl ⟨by rfl, ?y7⟩) hHeld ?r7
  case y7 => (intro wS hSw; obtain ⟨s1, s2, s3, s4⟩ := hSw; go_simp; try with_reducible rfl)
  try simp only [Act.put, List.setIfInBounds_toArray, List.set_cons_zero, List.set_cons_succ]
  refine wpAnyG_take (i := 8) (v := ?v8) rfl (by kernel_rfl) (fun _ _ _ h => h) (Or.inl ⟨by rfl, ?y8⟩) hHeld ?r8
  case y8 => (intro wS hSw; obtain ⟨s1, s2, s3, s4⟩ := hSw; go_simp; try with_reducible rfl)
  try simp only [Act.put, List.setIfInBounds_toArray, List.set_cons_zero, List.set_cons_succ]
  refine wpAnyG_take (i := 9) (v := ?v9) rfl (by kernel_rfl) (fun _ _ _ h => h) (Or.inl ⟨by rfl, ?y9⟩) hHeld ?r9
  case y9 => (intro wS hSw; obtain ⟨s1, s2, s3, s4⟩ := hSw; go_simp; try with_reducible rfl)
  try simp only [Act.put, List.setIfInBounds_toArray, List.set_cons_zero, List.set_cons_succ]
  refine wpAnyG_take (i := 10) (v := ?v10) rfl (by kernel_rfl) (fun _ _ _ h => h) (Or.inl ⟨by rfl, ?y10⟩) hHeld ?r10
  case y10 => (intro wS hSw; obtain ⟨s1, s2, s3, s4⟩ := hSw; go_simp; try with_reducible rfl)
  try simp only [Act.put, List.setIfInBounds_toArray, List.set_cons_zero, List.set_cons_succ]
  refine wpAnyG_take (i := 11) (v := ?v11) rfl (by kernel_rfl) (fun _ _ _ h => h) (Or.inl ⟨by rfl, ?y11⟩) hHeld ?r11
  case y11 => (intro wS hSw; obtain ⟨s1, s2, s3, s4⟩ := hSw; go_simp; try with_reducible rfl)
  try simp only [Act.put, List.setIfInBounds_toArray, List.set_cons_zero, List.set_cons_succ]
  refine wpAnyG_take (i := 12) (v := ?v12) rfl (by kernel_rfl) (fun _ _ _ h => h) (Or.inl ⟨by rfl, ?y12⟩) hHeld ?r12
  case y12 => (intro wS hSw; obtain ⟨s1, s2, s3, s4⟩ := hSw; go_simp; try with_reducible rfl)
  try simp only [Act.put, List.setIfInBounds_toArray, List.set_cons_zero, List.set_cons_succ]
  refine wpAnyG_take (i := 13) (v := ?v13) rfl (by kernel_rfl) (fun _ _ _ h => h) (Or.inl ⟨by rfl, ?y13⟩) hHeld ?r13
  case y13 => (intro wS hSw; obtain ⟨s1, s2, s3, s4⟩ := hSw; go_simp; try with_reducible rfl)
  try simp only [Act.put, List.setIfInBounds_toArray, List.set_cons_zero, List.set_cons_succ]
  refine wpAnyG_take (i := 14) (v := ?v14) rfl (by kernel_rfl) (fun _ _ _ h => h) (Or.inl ⟨by rfl, ?y14⟩) hHeld ?r14
  case y14 => (intro wS hSw; obtain ⟨s1, s2, s3, s4⟩ := hSw; go_simp; try with_reducible rfl)
  try simp only [Act.put, List.setIfInBounds_toArray, List.set_cons_zero, List.set_cons_succ]
  refine wpAnyG_take (i := 15) (v := ?v15) rfl (by kernel_rfl) (fun _ _ _ h => h) (Or.inl ⟨by rfl, ?y15⟩) hHeld ?r15
  case y15 => (intro wS hSw; obtain ⟨s1, s2, s3, s4⟩ := hSw; go_simp; try with_reducible rfl)
  try simp only [Act.put, List.setIfInBounds_toArray, List.set_cons_zero, List.set_cons_succ]
  refine wpAnyG_take (i := 16) (v := ?v16) rfl (by kernel_rfl) (fun _ _ _ h => h) (Or.inl ⟨by rfl, ?y16⟩) hHeld ?r16
  case y16 => (intro wS hSw; obtain ⟨s1, s2, s3, s4⟩ := hSw; go_simp; try with_reducible rfl)
  try simp only [Act.put, List.setIfInBounds_toArray, List.set_cons_zero, List.set_cons_succ]
  refine wpAnyG_take (i := 17) (v := ?v17) rfl (by kernel_rfl) (fun _ _ _ h => h) (Or.inl ⟨by rfl, ?y17⟩) hHeld ?r17
  case y17 => (intro wS hSw; obtain ⟨s1, s2, s3, s4⟩ := hSw; go_simp; try with_reducible rfl)
  try simp only [Act.put, List.setIfInBounds_toArray, List.set_cons_zero, List.set_cons_succ]
  refine wpAnyG_one (i := 18) rfl (by kernel_rfl) (fun K hK => ?_)
  go_simp
  refine (mul_any _ _ x.natAbs y.natAbs m n _ NX.out.drew NY.out.drew HM.out HN.out hm' hn').mono ?_
  rintro e w1 ⟨r, rfl, hr, hb⟩
  refine hK.out _ _ ⟨(hb.cell lx).trans cx0, (hb.cell lx).trans cx1, (hb.cell ly).trans cy0, (hb.cell ly).trans cy1⟩ ?_
  clear hK K
  try simp only [Act.put, List.setIfInBounds_toArray, List.set_cons_zero, List.set_cons_succ]
  refine wpAnyG_last (i := 19) rfl (by kernel_rfl) (by kernel_rfl) (fun K hK => ?_)
  go_simp
  refine (give_any bz (p != q) r (x.natAbs * y.natAbs) w1 (HZ.out.drew.below hb (Nat.le_refl _)) hr).mono ?_
  rw [HXY.out]
  rintro e w2 ⟨rfl, hbig, hu⟩
  refine hK.out _ _ ?_
  clear hK K
  try simp only [Act.put, List.setIfInBounds_toArray, List.set_cons_zero, List.set_cons_succ]
  refine wpAnyG_last (i := 20) rfl (by kernel_rfl) (by kernel_rfl) (fun K hK => ?_)
  go_simp
  refine hK.out _ _ ?_
  clear hK K
  try simp only [Act.put, List.setIfInBounds_toArray, List.set_cons_zero, List.set_cons_succ]
  refine wpAnyG_done (by kernel_rfl) ?_ _
  go_wp2
  go_ret
  exact ⟨rfl, hbig, (Upd.refl bz w).drew.trans (Upd.then_below hb hu)⟩
theorem sum_any (p q : Bool) (s t : Value) (a b m n : Nat) (w : World) (ha : NS w s a) (hb : NS w t b) (hm : a < pw m) (hn : b < pw n) (hm' : m ≤ 100000000) (hn' : n ≤ 100000000) :
    Calls Tryz.prog 56 #[.bool p, s, .bool q, t] w fun e w' => ∃ o r c, e = .returned (.tuple #[.bool o, r]) ∧ NS w' r c ∧ sgd o c = sgd p a + sgd q b ∧ Below w.heap.size w w' := by
  obtain ⟨xa, xl, xc, rfl, _⟩ := ha.shape
  obtain ⟨ya, yl, yc, rfl, _⟩ := hb.shape
  have HA : Hid (NS w (.slice xa xl xc) a) := ha
  have HB : Hid (NS w (.slice ya yl yc) b) := hb
  have HM : Hid (a < pw m) := hm
  have HN : Hid (b < pw n) := hn
  clear ha hb hm hn
  by_cases hpq : p = q
  · subst hpq
    go_enter Tryz.func56, Tryz.ntmps56
    go_wp2_with fail
    refine (add_any _ _ a b m n w HA.out HB.out HM.out HN.out hm' hn').mono ?_
    rintro e w1 ⟨r, rfl, hr, hbl⟩
    go_wp2
    go_ret2
    exact ⟨p, r, a + b, rfl, hr, by cases p <;> simp [sgd] <;> omega, hbl⟩
  · have h0 : (p == q) = false := by simpa using hpq
    go_enter Tryz.func56, Tryz.ntmps56
    go_wp2_with fail
    refine (cmp_any _ _ a b m n w HA.out HB.out HM.out HN.out hm' hn').mono ?_
    rintro e w1 ⟨rfl, nq, rfl⟩
    by_cases hab : b ≤ a
    · have hc : 0 ≤ cmpN a b := by unfold cmpN; split <;> (try split) <;> omega
      go_wp2_with fail
      refine (sub_any _ _ a b m _ HA.out.drewN HB.out.drewN hab HM.out hm').mono ?_
      rintro e w1 ⟨r, rfl, hr, hbl⟩
      go_wp2
      go_ret2
      exact ⟨p, r, a - b, rfl, hr, by cases p <;> cases q <;> simp_all [sgd] <;> omega, (below_drewN' (Below.refl _ _)).trans hbl⟩
    · have hc : cmpN a b < 0 := by unfold cmpN; split <;> (try split) <;> omega
      go_wp2_with fail
      refine (sub_any _ _ b a n _ HB.out.drewN HA.out.drewN (by omega) HN.out hn').mono ?_
      rintro e w1 ⟨r, rfl, hr, hbl⟩
      go_wp2
      go_ret2
      exact ⟨q, r, b - a, rfl, hr, by cases p <;> cases q <;> simp_all [sgd] <;> omega, (below_drewN' (Below.refl _ _)).trans hbl⟩
end Go.Proofs.YtcnfhndejkngkaaGreatDoor
end
