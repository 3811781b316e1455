import Derived.Test.YtcnfhndejkngkaaGreatDoorJpA
section
set_option linter.unusedSimpArgs false
set_option linter.unusedVariables false
set_option maxRecDepth 100000
namespace Go.Proofs.YtcnfhndejkngkaaGreatDoor
open Go.RowKit
def val : List Nat → Nat
  | [] => 0
  | x :: r => x + 4294967296 * val r
def pw : Nat → Nat
  | 0 => 1
  | n + 1 => 4294967296 * pw n
theorem pw_pos (n : Nat) : 0 < pw n := by induction n with
  | zero => exact Nat.one_pos
  | succ n ih => unfold pw; omega
theorem pw_add (a b : Nat) : pw (a + b) = pw a * pw b := by induction a with
  | zero => simp [pw]
  | succ n ih =>
    rw [Nat.add_right_comm]
    show 4294967296 * pw (n + b) = 4294967296 * pw n * pw b
    rw [ih, Nat.mul_assoc]
theorem pw_le {a b : Nat} (h : a ≤ b) : pw a ≤ pw b := by
  obtain ⟨c, rfl⟩ := Nat.exists_eq_add_of_le h
  rw [pw_add]; exact Nat.le_mul_of_pos_right _ (pw_pos c)
theorem pw_lt_iff {a b : Nat} (h : pw a < pw b) : a < b := by
  rcases Nat.lt_or_ge a b with k | k
  · exact k
  · have := pw_le k; omega
theorem pw_two : pw 2 = 18446744073709551616 := by decide
theorem val_append (a b : List Nat) : val (a ++ b) = val a + pw a.length * val b := by induction a with
  | nil => simp [val, pw]
  | cons x r ih => simp only [List.cons_append, val, ih, List.length_cons, pw, Nat.mul_add, Nat.mul_assoc]; omega
theorem val_lt (l : List Nat) (h : ∀ x ∈ l, x < 4294967296) : val l < pw l.length := by induction l with
  | nil => simp [val, pw]
  | cons x r ih =>
    have h1 := h x (by simp)
    have h2 := ih (fun y hy => h y (by simp [hy]))
    simp only [val, List.length_cons, pw]; omega
def Nm (l : List Nat) : Prop := l = [] ∨ pw (l.length - 1) ≤ val l
theorem Nm.len {l : List Nat} {m : Nat} (h : Nm l) (hv : val l < pw m) : l.length ≤ m := by
  rcases h with h | h
  · subst h; exact Nat.zero_le _
  · have := pw_lt_iff (Nat.lt_of_le_of_lt h hv); omega
theorem Nm.nil_iff {l : List Nat} (h : Nm l) : l = [] ↔ val l = 0 := by
  constructor
  · intro e; subst e; rfl
  · intro e; rcases h with h | h
    · exact h
    · have := pw_pos (l.length - 1); omega
theorem Nm.len_le {l m : List Nat} (h : Nm l) (hm : ∀ x ∈ m, x < 4294967296) (hv : val l ≤ val m) : l.length ≤ m.length :=
  h.len (Nat.lt_of_le_of_lt hv (val_lt m hm))
structure Sl (w : World) (s : Value) (l : List Nat) : Prop where
  small : ∀ x ∈ l, x < 4294967296
  shape : (l = [] ∧ s = .slice none 0 0) ∨ ∃ g cap C, s = .slice (some ⟨g, 0, none⟩) l.length cap ∧ l.length ≤ cap ∧ w.heap[g]? = some (.cells C 106 (0, 0)) ∧ ∀ i, i < l.length → C[i]? = some (.int .u32 (l.getD i 0 : Int))
def NS (w : World) (s : Value) (n : Nat) : Prop := ∃ l, Sl w s l ∧ val l = n ∧ Nm l
def BigAt (w : World) (b : Nat) (n : Int) : Prop := ∃ s, w.heap[b]? = some (.cells #[.bool (decide (n < 0)), s] 55 (0, 0)) ∧ NS w s n.natAbs
def Slot (w : World) (b : Nat) : Prop := ∃ x y, w.heap[b]? = some (.cells #[x, y] 55 (0, 0))
structure Upd (b : Nat) (w w' : World) : Prop where
  os : w'.os = w.os
  tape : w'.tape = w.tape
  output : w'.output = w.output
  size : w.heap.size ≤ w'.heap.size
  block : ∀ k, k < w.heap.size → k ≠ b → w'.heap[k]? = w.heap[k]?
theorem lt_of_some {w : World} {k : Nat} {o : Obj} (h : w.heap[k]? = some o) : k < w.heap.size := by
  rcases Nat.lt_or_ge k w.heap.size with h1 | h1
  · exact h1
  · rw [Array.getElem?_eq_none h1] at h; cases h
theorem BigAt.slot {w : World} {b : Nat} {n : Int} (h : BigAt w b n) : Slot w b := ⟨_, _, h.choose_spec.1⟩
theorem BigAt.lt {w : World} {b : Nat} {n : Int} (h : BigAt w b n) : b < w.heap.size := lt_of_some h.choose_spec.1
theorem Slot.lt {w : World} {b : Nat} (h : Slot w b) : b < w.heap.size := by obtain ⟨x, y, h⟩ := h; exact lt_of_some h
theorem Sl.below {B : Nat} {w w' : World} {s : Value} {l : List Nat} (h : Sl w s l) (hb : Below B w w') (hB : w.heap.size ≤ B) : Sl w' s l := by
  refine ⟨h.small, ?_⟩
  rcases h.shape with h1 | ⟨g, cap, C, h1, h2, h3, h4⟩
  · exact Or.inl h1
  · exact Or.inr ⟨g, cap, C, h1, h2, by rw [hb.block g (Nat.lt_of_lt_of_le (lt_of_some h3) hB)]; exact h3, h4⟩
theorem NS.below {B : Nat} {w w' : World} {s : Value} {n : Nat} (h : NS w s n) (hb : Below B w w') (hB : w.heap.size ≤ B) : NS w' s n := by
  obtain ⟨l, h1, h2⟩ := h; exact ⟨l, h1.below hb hB, h2⟩
theorem BigAt.below {B : Nat} {w w' : World} {b : Nat} {n : Int} (h : BigAt w b n) (hb : Below B w w') (hB : w.heap.size ≤ B) : BigAt w' b n := by
  obtain ⟨s, h1, h2⟩ := h
  exact ⟨s, by rw [hb.block b (Nat.lt_of_lt_of_le (lt_of_some h1) hB)]; exact h1, h2.below hb hB⟩
theorem Slot.below {B : Nat} {w w' : World} {b : Nat} (h : Slot w b) (hb : Below B w w') (hB : w.heap.size ≤ B) : Slot w' b := by
  obtain ⟨x, y, h1⟩ := h
  exact ⟨x, y, by rw [hb.block b (Nat.lt_of_lt_of_le (lt_of_some h1) hB)]; exact h1⟩
theorem Upd.of_below {b : Nat} {w w' : World} (h : Below w.heap.size w w') : Upd b w w' := ⟨h.os, h.tape, h.output, h.size, fun k hk _ => h.block k hk⟩
theorem Upd.below {b B : Nat} {w w' : World} (h : Upd b w w') (h1 : B ≤ w.heap.size) (h2 : B ≤ b) : Below B w w' :=
  ⟨h.os, h.tape, h.output, h.size, fun k hk => h.block k (by omega) (by omega)⟩
theorem Upd.trans {b : Nat} {x y z : World} (h : Upd b x y) (k : Upd b y z) : Upd b x z :=
  ⟨k.os.trans h.os, k.tape.trans h.tape, k.output.trans h.output, Nat.le_trans h.size k.size, fun i hi hn => (k.block i (Nat.lt_of_lt_of_le hi h.size) hn).trans (h.block i hi hn)⟩
theorem Upd.refl (b : Nat) (w : World) : Upd b w w := ⟨rfl, rfl, rfl, Nat.le_refl _, fun _ _ _ => rfl⟩
theorem Upd.drew {b : Nat} {x y : World} (h : Upd b x y) : Upd b x y.drew := ⟨h.os, h.tape, h.output, h.size, h.block⟩
theorem Upd.setCell {b o : Nat} {x y : World} (h : Upd b x y) (u : Value) : Upd b x (y.setCell ⟨b, o, none⟩ u) :=
  h.trans ⟨rfl, rfl, rfl, by simp [World.setCell], fun k hk hn => Below.heap_setCell _ _ _ _ hn⟩
theorem Sl.upd {b : Nat} {w w' : World} {s : Value} {l : List Nat} (h : Sl w s l) (hu : Upd b w w') (hs : Slot w b) : Sl w' s l := by
  refine ⟨h.small, ?_⟩
  rcases h.shape with h1 | ⟨g, cap, C, h1, h2, h3, h4⟩
  · exact Or.inl h1
  · refine Or.inr ⟨g, cap, C, h1, h2, ?_, h4⟩
    rw [hu.block g (lt_of_some h3) ?_]; exact h3
    intro e; subst e; obtain ⟨x, y, h5⟩ := hs; rw [h3] at h5; simp at h5
theorem NS.upd {b : Nat} {w w' : World} {s : Value} {n : Nat} (h : NS w s n) (hu : Upd b w w') (hs : Slot w b) : NS w' s n := by
  obtain ⟨l, h1, h2⟩ := h; exact ⟨l, h1.upd hu hs, h2⟩
theorem BigAt.upd {b c : Nat} {w w' : World} {n : Int} (h : BigAt w c n) (hu : Upd b w w') (hs : Slot w b) (hne : c ≠ b) : BigAt w' c n := by
  obtain ⟨s, h1, h2⟩ := h
  exact ⟨s, by rw [hu.block c (lt_of_some h1) hne]; exact h1, h2.upd hu hs⟩
theorem Slot.upd {b c : Nat} {w w' : World} (h : Slot w c) (hu : Upd b w w') (hne : c ≠ b) : Slot w' c := by
  obtain ⟨x, y, h1⟩ := h
  exact ⟨x, y, by rw [hu.block c (lt_of_some h1) hne]; exact h1⟩
theorem Sl.nonnil {w : World} {s : Value} {l : List Nat} (h : Sl w s l) (hl : l ≠ []) : ∃ g cap, s = .slice (some ⟨g, 0, none⟩) l.length cap ∧ l.length ≤ cap ∧ g < w.heap.size ∧ ∀ i, i < l.length → w.cell? ⟨g, i, none⟩ = some (.int .u32 (l.getD i 0 : Int)) := by
  rcases h.shape with h1 | ⟨g, cap, C, h1, h2, h3, h4⟩
  · exact absurd h1.1 hl
  · refine ⟨g, cap, h1, h2, lt_of_some h3, fun i hi => ?_⟩
    simp only [World.cell?, h3]; exact h4 i hi
theorem cell_new_at (x : World) (C : Array Value) (t : TypeId) (z i : Nat) (hz : x.heap.size = z) : (x.alloc (.cells C t)).cell? ⟨z, i, none⟩ = C[i]? := by
  have h : (x.alloc (.cells C t)).heap[z]? = some (.cells C t) := by subst hz; show (x.heap.push _)[x.heap.size]? = _; simp
  simp only [World.cell?, h]; rfl
theorem frozen_new_at (x : World) (C : Array Value) (t : TypeId) (z i : Nat) (hz : x.heap.size = z) : (x.alloc (.cells C t)).frozen? ⟨z, i, none⟩ = false := by
  have h : (x.alloc (.cells C t)).heap[z]? = some (.cells C t) := by subst hz; show (x.heap.push _)[x.heap.size]? = _; simp
  simp only [World.frozen?, h]; simp
theorem cell_old_at (x : World) (o : Obj) (p : Addr) (h : p.block < x.heap.size) : (x.alloc o).cell? p = x.cell? p := ((Below.refl x.heap.size x).alloc (Nat.le_refl _) o).cell h
theorem frozen_old_at (x : World) (o : Obj) (p : Addr) (h : p.block < x.heap.size) : (x.alloc o).frozen? p = x.frozen? p := ((Below.refl x.heap.size x).alloc (Nat.le_refl _) o).frozen h
end Go.Proofs.YtcnfhndejkngkaaGreatDoor
end

section
set_option linter.unusedSimpArgs false
set_option linter.unusedVariables false
set_option maxRecDepth 100000
namespace Go.Proofs.YtcnfhndejkngkaaGreatDoor
open Go.RowKit
theorem val_take (l : List Nat) (k : Nat) (h : ∀ j, k ≤ j → j < l.length → l.getD j 0 = 0) : val (l.take k) = val l := by
  induction l generalizing k with
  | nil => simp
  | cons x r ih =>
    cases k with
    | zero =>
      have h0 := h 0 (Nat.le_refl _) (by simp)
      have := ih 0 (fun j _ hj => by have := h (j + 1) (by omega) (by simp; omega); simpa using this)
      simp [val] at h0 this ⊢; omega
    | succ k =>
      have := ih k (fun j hk hj => by have := h (j + 1) (by omega) (by simp; omega); simpa using this)
      simp [val, this]
theorem val_last (l : List Nat) (k : Nat) (hk : k < l.length) (h : l.getD k 0 ≠ 0) : pw k ≤ val (l.take (k + 1)) := by
  rw [List.take_succ_eq_append_getElem hk, val_append, List.length_take, Nat.min_eq_left (by omega)]
  have h1 : l[k] ≠ 0 := by rwa [List.getD_eq_getElem?_getD, List.getElem?_eq_getElem hk, Option.getD_some] at h
  simp only [val]
  have : pw k * 1 ≤ pw k * (l[k] + 4294967296 * 0) := Nat.mul_le_mul_left _ (by omega)
  omega
theorem Sl.take {w : World} {g cap : Nat} {l : List Nat} (h : Sl w (.slice (some ⟨g, 0, none⟩) l.length cap) l) (k : Nat) (hk : k ≤ l.length) : Sl w (.slice (some ⟨g, 0, none⟩) k cap) (l.take k) := by
  refine ⟨fun x hx => h.small x (List.mem_of_mem_take hx), ?_⟩
  rcases h.shape with ⟨_, h1⟩ | ⟨g', cap', C, h1, h2, h3, h4⟩
  · simp at h1
  · simp at h1
    obtain ⟨rfl, rfl⟩ := h1
    have e : (l.take k).length = k := by simp; omega
    refine Or.inr ⟨g, cap, C, by rw [e], by omega, h3, fun i hi => ?_⟩
    rw [e] at hi
    rw [h4 i (by omega)]
    simp [List.getElem?_take, hi]
set_option maxHeartbeats 400000 in
theorem trim_full (l : List Nat) (g cap : Nat) (w : World) (hl : l.length ≤ 1000000000) (h : Sl w (.slice (some ⟨g, 0, none⟩) l.length cap) l) (hcap : l.length ≤ cap) (hcell : ∀ i, i < l.length → w.cell? ⟨g, i, none⟩ = some (.int .u32 (l.getD i 0 : Int))) :
    Calls Tryz.prog 99 #[.slice (some ⟨g, 0, none⟩) l.length cap] w fun e w' => ∃ k, k ≤ l.length ∧ e = .returned (.slice (some ⟨g, 0, none⟩) k cap) ∧ val (l.take k) = val l ∧ Nm (l.take k) ∧ w' = w := by
  have HS : Hid (Sl w (.slice (some ⟨g, 0, none⟩) l.length cap) l) := h
  have HC : Hid (∀ i, i < l.length → w.cell? ⟨g, i, none⟩ = some (.int .u32 (l.getD i 0 : Int))) := hcell
  clear h hcell
  go_enter Tryz.func99, Tryz.ntmps99
  go_wp2
  go_loop [3] (fun i => ∃ k : Nat, k ≤ l.length ∧ i = .int .i64 k ∧ ∀ j, k ≤ j → j < l.length → l.getD j 0 = 0) (fun i => (intOf i).toNat)
  case atStart => exact ⟨l.length, Nat.le_refl _, rfl, fun j h1 h2 => by omega⟩
  case round =>
    obtain ⟨k, hk, rfl, hz⟩ := hrel
    have HZ : Hid (∀ j, k ≤ j → j < l.length → l.getD j 0 = 0) := hz
    clear hz
    by_cases h0 : k = 0
    · subst h0
      go_wp2
      go_ret
      exact ⟨0, by omega, rfl, val_take l 0 HZ.out, Or.inl rfl, rfl⟩
    · obtain ⟨m, rfl⟩ : ∃ m, k = m + 1 := ⟨k - 1, by omega⟩
      have hcm := HC.out m (by omega)
      obtain ⟨x, hx⟩ : ∃ x, x = l.getD m 0 := ⟨_, rfl⟩
      rw [← hx] at hcm
      have HX : Hid (x = l.getD m 0) := hx
      clear hx
      by_cases hxz : x = 0
      · go_wp2
        go_round
        case rel =>
          refine ⟨m, by omega, by go_num, fun j h1 h2 => ?_⟩
          by_cases e : j = m
          · subst e; rw [← HX.out]; exact hxz
          · exact HZ.out j (by omega) h2
        case measure => simp [intOf]
      · have hxi : ((x : Int) == 0) = false := by simpa using hxz
        go_wp2
        go_ret
        refine ⟨m + 1, hk, by first | rfl | (congr 2), val_take l (m + 1) HZ.out, Or.inr ?_, rfl⟩
        have : (l.take (m + 1)).length - 1 = m := by simp; omega
        rw [this]
        exact val_last l m (by omega) (by rw [← HX.out]; exact hxz)
theorem trim_any (l : List Nat) (s : Value) (w : World) (hl : l.length ≤ 1000000000) (h : Sl w s l) :
    Calls Tryz.prog 99 #[s] w fun e w' => ∃ s', e = .returned s' ∧ NS w s' (val l) ∧ w' = w := by
  rcases h.shape with ⟨rfl, rfl⟩ | ⟨g, cap, C, rfl, h2, h3, h4⟩
  · go_enter Tryz.func99, Tryz.ntmps99
    go_wp2
    refine wp_loop_rounds 1 ?_
    rw [rounds_succ]
    go_wp2
    go_ret
    exact ⟨_, rfl, ⟨[], ⟨by simp, Or.inl ⟨rfl, rfl⟩⟩, rfl, Or.inl rfl⟩, rfl⟩
  · have hc : ∀ i, i < l.length → w.cell? ⟨g, i, none⟩ = some (.int .u32 (l.getD i 0 : Int)) := fun i hi => by
      simp only [World.cell?, h3]; exact h4 i hi
    refine (trim_full l g cap w hl h h2 hc).mono ?_
    rintro e w' ⟨k, hk, rfl, hv, hn, rfl⟩
    exact ⟨_, rfl, ⟨l.take k, h.take k hk, hv, hn⟩, rfl⟩
theorem Sl.new (w : World) (l : List Nat) (h : ∀ x ∈ l, x < 4294967296) : Sl (w.alloc (.cells (l.map fun x : Nat => Value.int .u32 (x : Int)).toArray 106)) (.slice (some ⟨w.heap.size, 0, none⟩) l.length l.length) l := by
  refine ⟨h, Or.inr ⟨w.heap.size, l.length, _, rfl, Nat.le_refl _, heap_alloc_new _ _, fun i hi => ?_⟩⟩
  simp [hi]
set_option maxHeartbeats 400000 in
theorem words_any (x : Nat) (hx : x < 18446744073709551616) (w : World) :
    Calls Tryz.prog 107 #[.int .u64 x] w fun e w' => ∃ s, e = .returned s ∧ NS w' s x ∧ Below w.heap.size w w' := by
  have H : Hid (Sl (w.alloc (.cells #[.int .u32 ((x : Int) % 4294967296), .int .u32 ((x : Int) / 4294967296)] 106)) (.slice (some ⟨w.heap.size, 0, none⟩) 2 2) [x % 4294967296, x / 4294967296]) := by
    have := Sl.new w [x % 4294967296, x / 4294967296] (by simp; omega)
    simpa [Hid] using this
  have HV : Hid (val [x % 4294967296, x / 4294967296] = x) := by show val _ = x; simp only [val]; omega
  have hxi : (x : Int) ≤ 18446744073709551615 := by omega
  go_enter Tryz.func107, Tryz.ntmps107
  go_wp2_with fail
  refine (trim_any [x % 4294967296, x / 4294967296] _ _ (by simp) H.out).mono ?_
  rw [HV.out]
  rintro e w1 ⟨s', rfl, hns, rfl⟩
  obtain ⟨l, hsl, hv, hnm⟩ := hns
  have HN : Hid (NS (w.alloc (.cells #[.int .u32 ((x : Int) % 4294967296), .int .u32 ((x : Int) / 4294967296)] 106)) s' x) := ⟨l, hsl, hv, hnm⟩
  clear hsl hv hnm H HV
  go_wp2
  go_ret
  exact ⟨s', rfl, HN.out, Below.alloc (Below.refl _ _) (Nat.le_refl _) _⟩
theorem slot_cells {w : World} {b : Nat} (h : Slot w b) : (∃ x y, w.cell? ⟨b, 0, none⟩ = some x ∧ w.cell? ⟨b, 1, none⟩ = some y) ∧ w.frozen? ⟨b, 0, none⟩ = false ∧ w.frozen? ⟨b, 1, none⟩ = false := by
  obtain ⟨x, y, h⟩ := h
  refine ⟨⟨x, y, ?_, ?_⟩, ?_, ?_⟩ <;> simp [World.cell?, World.frozen?, h]
theorem slot_set {w : World} {b : Nat} (h : Slot w b) (p q : Value) : ((w.setCell ⟨b, 1, none⟩ q).setCell ⟨b, 0, none⟩ p).heap[b]? = some (.cells #[p, q] 55 (0, 0)) := by
  obtain ⟨x, y, h⟩ := h
  simp [World.setCell, Array.getElem?_modify, h]
theorem NS.shape {w : World} {s : Value} {n : Nat} (h : NS w s n) : ∃ aa len cap, s = .slice aa len cap ∧ (0 < len ↔ 0 < n) := by
  obtain ⟨l, h1, h2, h3⟩ := h
  have : l = [] ↔ n = 0 := by rw [← h2]; exact h3.nil_iff
  have e : 0 < l.length ↔ 0 < n := by
    have := List.length_pos_iff (l := l); constructor
    · intro hh; rcases Nat.eq_zero_or_pos n with k | k
      · simp_all
      · exact k
    · intro hh; rw [this]; intro k; simp_all
  rcases h1.shape with ⟨k1, k2⟩ | ⟨g, cap, C, k1, _⟩
  · exact ⟨_, _, _, k2, by rw [← e, k1]; simp⟩
  · exact ⟨_, _, _, k1, e⟩
def sgd (neg : Bool) (m : Nat) : Int := if neg = true then -(m : Int) else m
theorem give_end {w : World} {b m : Nat} {s : Value} (hz : Slot w b) (hs : NS w s m) (q : Bool) (n : Int) (hq : q = decide (n < 0)) (hm : n.natAbs = m) :
    BigAt ((w.setCell ⟨b, 1, none⟩ s).setCell ⟨b, 0, none⟩ (.bool q)) b n ∧ Upd b w ((w.setCell ⟨b, 1, none⟩ s).setCell ⟨b, 0, none⟩ (.bool q)) := by
  have hu : Upd b w ((w.setCell ⟨b, 1, none⟩ s).setCell ⟨b, 0, none⟩ (.bool q)) := Upd.setCell (o := 0) (Upd.setCell (o := 1) (Upd.refl b w) s) (.bool q)
  refine ⟨⟨s, ?_, ?_⟩, hu⟩
  · rw [slot_set hz, hq]
  · rw [hm]; exact hs.upd hu hz
set_option maxHeartbeats 400000 in
theorem give_any (b : Nat) (neg : Bool) (s : Value) (m : Nat) (w : World) (hz : Slot w b) (hs : NS w s m) :
    Calls Tryz.prog 55 #[.pointer (some ⟨b, 0, none⟩), .bool neg, s] w fun e w' => e = .returned (.pointer (some ⟨b, 0, none⟩)) ∧ BigAt w' b (sgd neg m) ∧ Upd b w w' := by
  obtain ⟨⟨x, y, c0, c1⟩, f0, f1⟩ := slot_cells hz
  obtain ⟨aa, len, cap, rfl, hlen⟩ := hs.shape
  have HZ : Hid (Slot w b) := hz
  have HS : Hid (NS w (.slice aa len cap) m) := hs
  clear hz hs
  have HL : Hid (0 < len ↔ 0 < m) := hlen
  clear hlen
  cases neg <;> by_cases hp : 0 < len
  all_goals
    go_enter Tryz.func55, Tryz.ntmps55
    go_wp2
    go_ret
    refine ⟨rfl, give_end HZ.out HS.out _ _ ?_ ?_⟩
    · have := HL.out; simp [sgd]; try omega
    · simp [sgd]
theorem wrap_neg (x : Int) (h1 : -9223372036854775808 ≤ x) (hx : x < 0) : IntKind.u64.wrap (-IntKind.u64.wrap x) = ((x.natAbs : Nat) : Int) := by
  rw [IntKind.wrap_u64, IntKind.wrap_u64]; omega
theorem sgd_neg {x : Int} (h : x < 0) : sgd true x.natAbs = x := by simp [sgd]; omega
theorem Upd.then_below {b : Nat} {w w1 w2 : World} (hb : Below w.heap.size w w1) (hu : Upd b w1 w2) : Upd b w w2 := (Upd.of_below hb).trans hu
set_option maxHeartbeats 400000 in
theorem SetInt64_any (b : Nat) (x : Int) (w : World) (hz : Slot w b) (h1 : -9223372036854775808 ≤ x) (h2 : x ≤ 9223372036854775807) :
    Calls Tryz.prog 75 #[.pointer (some ⟨b, 0, none⟩), .int .i64 x] w fun e w' => e = .returned (.pointer (some ⟨b, 0, none⟩)) ∧ BigAt w' b x ∧ Upd b w w' := by
  have HZ : Hid (Slot w b) := hz
  clear hz
  by_cases hx : x < 0
  · go_enter Tryz.func75, Tryz.ntmps75
    go_wp2_with fail
    rw [wrap_neg x h1 hx]
    refine (words_any x.natAbs (by omega) _).mono ?_
    rintro e w1 ⟨s, rfl, hns, hb⟩
    go_wp2_with fail
    refine (give_any b true s x.natAbs w1 (HZ.out.below hb (Nat.le_refl _)) hns).mono ?_
    rintro e w2 ⟨rfl, hbig, hu⟩
    rw [sgd_neg hx] at hbig
    go_wp2
    go_ret
    exact ⟨rfl, hbig, Upd.then_below hb hu⟩
  · obtain ⟨n, rfl⟩ := Int.eq_ofNat_of_zero_le (show 0 ≤ x by omega)
    go_enter Tryz.func75, Tryz.ntmps75
    go_wp2_with fail
    refine (words_any n (by omega) _).mono ?_
    rintro e w1 ⟨s, rfl, hns, hb⟩
    go_wp2_with fail
    refine (give_any b false s n w1 (HZ.out.below hb (Nat.le_refl _)) hns).mono ?_
    rintro e w2 ⟨rfl, hbig, hu⟩
    go_wp2
    go_ret
    exact ⟨rfl, hbig, Upd.then_below hb hu⟩
theorem slot_new (w : World) (x y : Value) : Slot (w.alloc (.cells #[x, y] 55)) w.heap.size := ⟨x, y, heap_alloc_new _ _⟩
def Made (w w' : World) (b : Nat) (n : Int) : Prop := w.heap.size ≤ b ∧ BigAt w' b n ∧ Below w.heap.size w w'
set_option maxHeartbeats 400000 in
theorem NewInt_any (x : Int) (w : World) (h1 : -9223372036854775808 ≤ x) (h2 : x ≤ 9223372036854775807) :
    Calls Tryz.prog 49 #[.int .i64 x] w fun e w' => ∃ b, e = .returned (.pointer (some ⟨b, 0, none⟩)) ∧ Made w w' b x := by
  go_enter Tryz.func49, Tryz.ntmps49
  go_wp2_with fail
  refine (SetInt64_any w.heap.size x _ (slot_new w _ _) h1 h2).mono ?_
  rintro e w2 ⟨rfl, hbig, hu⟩
  go_wp2
  go_ret
  exact ⟨w.heap.size, rfl, Nat.le_refl _, hbig, Below.trans (Below.alloc (Below.refl _ _) (Nat.le_refl _) _) (hu.below (by simp) (Nat.le_refl _))⟩
theorem B_any (x : Int) (w : World) (h1 : -9223372036854775808 ≤ x) (h2 : x ≤ 9223372036854775807) :
    Calls Tryz.prog 18 #[.int .i64 x] w fun e w' => ∃ b, e = .returned (.pointer (some ⟨b, 0, none⟩)) ∧ Made w w' b x := by
  go_enter Tryz.func18, Tryz.ntmps18
  go_wp2_with fail
  refine (NewInt_any x _ h1 h2).mono ?_
  rintro e w2 ⟨b, rfl, hm⟩
  go_wp2
  go_ret
  exact ⟨b, rfl, hm⟩
end Go.Proofs.YtcnfhndejkngkaaGreatDoor
end
