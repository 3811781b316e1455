import Derived.Test.YtknnidbdgfimbaaJnB
section
/- Numbers of any length in memory: a slice of 32-bit words, a struct of a sign and such a slice. Definitions and what carries them from world to world. -/
set_option linter.unusedSimpArgs false
set_option linter.unusedVariables false
set_option maxRecDepth 100000
namespace Go.Proofs.Ytknnidbdgfimbaa
open Go.RowKit

/-- The number that words (the least first) stand for. -/
def val : List Nat → Nat
  | [] => 0
  | x :: r => x + 4294967296 * val r
/-- The powers of 2^32. -/
def pw : Nat → Nat
  | 0 => 1
  | n + 1 => 4294967296 * pw n

theorem pw_pos (n : Nat) : 0 < pw n := by induction n with
  | zero => exact Nat.one_pos
  | succ n ih => unfold pw; omega
theorem pw_add (a b : Nat) : pw (a + b) = pw a * pw b := by induction a with
  | zero => simp [pw]
  | succ n ih =>
    rw [Nat.add_right_comm]
    show 4294967296 * pw (n + b) = 4294967296 * pw n * pw b
    rw [ih, Nat.mul_assoc]
theorem pw_le {a b : Nat} (h : a ≤ b) : pw a ≤ pw b := by
  obtain ⟨c, rfl⟩ := Nat.exists_eq_add_of_le h
  rw [pw_add]; exact Nat.le_mul_of_pos_right _ (pw_pos c)
theorem pw_lt_iff {a b : Nat} (h : pw a < pw b) : a < b := by
  rcases Nat.lt_or_ge a b with k | k
  · exact k
  · have := pw_le k; omega
theorem pw_two : pw 2 = 18446744073709551616 := by decide

theorem val_append (a b : List Nat) : val (a ++ b) = val a + pw a.length * val b := by induction a with
  | nil => simp [val, pw]
  | cons x r ih => simp only [List.cons_append, val, ih, List.length_cons, pw, Nat.mul_add, Nat.mul_assoc]; omega
theorem val_lt (l : List Nat) (h : ∀ x ∈ l, x < 4294967296) : val l < pw l.length := by induction l with
  | nil => simp [val, pw]
  | cons x r ih =>
    have h1 := h x (by simp)
    have h2 := ih (fun y hy => h y (by simp [hy]))
    simp only [val, List.length_cons, pw]; omega

/-- Without a nought at the end. -/
def Nm (l : List Nat) : Prop := l = [] ∨ pw (l.length - 1) ≤ val l
theorem Nm.len {l : List Nat} {m : Nat} (h : Nm l) (hv : val l < pw m) : l.length ≤ m := by
  rcases h with h | h
  · subst h; exact Nat.zero_le _
  · have := pw_lt_iff (Nat.lt_of_le_of_lt h hv); omega
theorem Nm.nil_iff {l : List Nat} (h : Nm l) : l = [] ↔ val l = 0 := by
  constructor
  · intro e; subst e; rfl
  · intro e; rcases h with h | h
    · exact h
    · have := pw_pos (l.length - 1); omega
theorem Nm.len_le {l m : List Nat} (h : Nm l) (hm : ∀ x ∈ m, x < 4294967296) (hv : val l ≤ val m) : l.length ≤ m.length :=
  h.len (Nat.lt_of_le_of_lt hv (val_lt m hm))

/-- The slice s holds the words l. -/
structure Sl (w : World) (s : Value) (l : List Nat) : Prop where
  small : ∀ x ∈ l, x < 4294967296
  shape : (l = [] ∧ s = .slice none 0 0) ∨ ∃ g cap C, s = .slice (some ⟨g, 0, none⟩) l.length cap ∧ l.length ≤ cap ∧ w.heap[g]? = some (.cells C 89 (0, 0)) ∧ ∀ i, i < l.length → C[i]? = some (.int .u32 (l.getD i 0 : Int))

/-- The slice s holds the number n, without noughts at the end. -/
def NS (w : World) (s : Value) (n : Nat) : Prop := ∃ l, Sl w s l ∧ val l = n ∧ Nm l

/-- Block b is a struct that holds the number n. -/
def BigAt (w : World) (b : Nat) (n : Int) : Prop := ∃ s, w.heap[b]? = some (.cells #[.bool (decide (n < 0)), s] 54 (0, 0)) ∧ NS w s n.natAbs

/-- Block b is such a struct, whatever it holds. -/
def Slot (w : World) (b : Nat) : Prop := ∃ x y, w.heap[b]? = some (.cells #[x, y] 54 (0, 0))

/-- w' is w with new blocks, and with writes to block b alone. -/
structure Upd (b : Nat) (w w' : World) : Prop where
  os : w'.os = w.os
  tape : w'.tape = w.tape
  output : w'.output = w.output
  size : w.heap.size ≤ w'.heap.size
  block : ∀ k, k < w.heap.size → k ≠ b → w'.heap[k]? = w.heap[k]?

theorem lt_of_some {w : World} {k : Nat} {o : Obj} (h : w.heap[k]? = some o) : k < w.heap.size := by
  rcases Nat.lt_or_ge k w.heap.size with h1 | h1
  · exact h1
  · rw [Array.getElem?_eq_none h1] at h; cases h

theorem BigAt.slot {w : World} {b : Nat} {n : Int} (h : BigAt w b n) : Slot w b := ⟨_, _, h.choose_spec.1⟩
theorem BigAt.lt {w : World} {b : Nat} {n : Int} (h : BigAt w b n) : b < w.heap.size := lt_of_some h.choose_spec.1
theorem Slot.lt {w : World} {b : Nat} (h : Slot w b) : b < w.heap.size := by obtain ⟨x, y, h⟩ := h; exact lt_of_some h

theorem Sl.below {B : Nat} {w w' : World} {s : Value} {l : List Nat} (h : Sl w s l) (hb : Below B w w') (hB : w.heap.size ≤ B) : Sl w' s l := by
  refine ⟨h.small, ?_⟩
  rcases h.shape with h1 | ⟨g, cap, C, h1, h2, h3, h4⟩
  · exact Or.inl h1
  · exact Or.inr ⟨g, cap, C, h1, h2, by rw [hb.block g (Nat.lt_of_lt_of_le (lt_of_some h3) hB)]; exact h3, h4⟩
theorem NS.below {B : Nat} {w w' : World} {s : Value} {n : Nat} (h : NS w s n) (hb : Below B w w') (hB : w.heap.size ≤ B) : NS w' s n := by
  obtain ⟨l, h1, h2⟩ := h; exact ⟨l, h1.below hb hB, h2⟩
theorem BigAt.below {B : Nat} {w w' : World} {b : Nat} {n : Int} (h : BigAt w b n) (hb : Below B w w') (hB : w.heap.size ≤ B) : BigAt w' b n := by
  obtain ⟨s, h1, h2⟩ := h
  exact ⟨s, by rw [hb.block b (Nat.lt_of_lt_of_le (lt_of_some h1) hB)]; exact h1, h2.below hb hB⟩
theorem Slot.below {B : Nat} {w w' : World} {b : Nat} (h : Slot w b) (hb : Below B w w') (hB : w.heap.size ≤ B) : Slot w' b := by
  obtain ⟨x, y, h1⟩ := h
  exact ⟨x, y, by rw [hb.block b (Nat.lt_of_lt_of_le (lt_of_some h1) hB)]; exact h1⟩

theorem Upd.of_below {b : Nat} {w w' : World} (h : Below w.heap.size w w') : Upd b w w' := ⟨h.os, h.tape, h.output, h.size, fun k hk _ => h.block k hk⟩
theorem Upd.below {b B : Nat} {w w' : World} (h : Upd b w w') (h1 : B ≤ w.heap.size) (h2 : B ≤ b) : Below B w w' :=
  ⟨h.os, h.tape, h.output, h.size, fun k hk => h.block k (by omega) (by omega)⟩
theorem Upd.trans {b : Nat} {x y z : World} (h : Upd b x y) (k : Upd b y z) : Upd b x z :=
  ⟨k.os.trans h.os, k.tape.trans h.tape, k.output.trans h.output, Nat.le_trans h.size k.size, fun i hi hn => (k.block i (Nat.lt_of_lt_of_le hi h.size) hn).trans (h.block i hi hn)⟩
theorem Upd.refl (b : Nat) (w : World) : Upd b w w := ⟨rfl, rfl, rfl, Nat.le_refl _, fun _ _ _ => rfl⟩
theorem Upd.drew {b : Nat} {x y : World} (h : Upd b x y) : Upd b x y.drew := ⟨h.os, h.tape, h.output, h.size, h.block⟩
theorem Upd.drewN {b n : Nat} {x y : World} (h : Upd b x y) : Upd b x (y.drewN n) := ⟨h.os, h.tape, h.output, h.size, h.block⟩
theorem Upd.setCell {b o : Nat} {x y : World} (h : Upd b x y) (u : Value) : Upd b x (y.setCell ⟨b, o, none⟩ u) :=
  h.trans ⟨rfl, rfl, rfl, by simp [World.setCell], fun k hk hn => Below.heap_setCell _ _ _ _ hn⟩
theorem Upd.alloc {b : Nat} {x y : World} (h : Upd b x y) (o : Obj) : Upd b x (y.alloc o) :=
  h.trans ⟨rfl, rfl, rfl, by simp, fun k hk _ => Below.heap_alloc _ _ _ hk⟩

/-- Words are no struct: a write to a struct turns no words. -/
theorem Sl.upd {b : Nat} {w w' : World} {s : Value} {l : List Nat} (h : Sl w s l) (hu : Upd b w w') (hs : Slot w b) : Sl w' s l := by
  refine ⟨h.small, ?_⟩
  rcases h.shape with h1 | ⟨g, cap, C, h1, h2, h3, h4⟩
  · exact Or.inl h1
  · refine Or.inr ⟨g, cap, C, h1, h2, ?_, h4⟩
    rw [hu.block g (lt_of_some h3) ?_]; exact h3
    intro e; subst e; obtain ⟨x, y, h5⟩ := hs; rw [h3] at h5; simp at h5
theorem NS.upd {b : Nat} {w w' : World} {s : Value} {n : Nat} (h : NS w s n) (hu : Upd b w w') (hs : Slot w b) : NS w' s n := by
  obtain ⟨l, h1, h2⟩ := h; exact ⟨l, h1.upd hu hs, h2⟩
theorem BigAt.upd {b c : Nat} {w w' : World} {n : Int} (h : BigAt w c n) (hu : Upd b w w') (hs : Slot w b) (hne : c ≠ b) : BigAt w' c n := by
  obtain ⟨s, h1, h2⟩ := h
  exact ⟨s, by rw [hu.block c (lt_of_some h1) hne]; exact h1, h2.upd hu hs⟩
theorem Slot.upd {b c : Nat} {w w' : World} (h : Slot w c) (hu : Upd b w w') (hne : c ≠ b) : Slot w' c := by
  obtain ⟨x, y, h1⟩ := h
  exact ⟨x, y, by rw [hu.block c (lt_of_some h1) hne]; exact h1⟩

/-- A cell of words, read. -/
theorem Sl.nonnil {w : World} {s : Value} {l : List Nat} (h : Sl w s l) (hl : l ≠ []) : ∃ g cap, s = .slice (some ⟨g, 0, none⟩) l.length cap ∧ l.length ≤ cap ∧ g < w.heap.size ∧ ∀ i, i < l.length → w.cell? ⟨g, i, none⟩ = some (.int .u32 (l.getD i 0 : Int)) := by
  rcases h.shape with h1 | ⟨g, cap, C, h1, h2, h3, h4⟩
  · exact absurd h1.1 hl
  · refine ⟨g, cap, h1, h2, lt_of_some h3, fun i hi => ?_⟩
    simp only [World.cell?, h3]; exact h4 i hi

theorem cell_new_at (x : World) (C : Array Value) (t : TypeId) (z i : Nat) (hz : x.heap.size = z) : (x.alloc (.cells C t)).cell? ⟨z, i, none⟩ = C[i]? := by
  have h : (x.alloc (.cells C t)).heap[z]? = some (.cells C t) := by subst hz; show (x.heap.push _)[x.heap.size]? = _; simp
  simp only [World.cell?, h]; rfl
theorem frozen_new_at (x : World) (C : Array Value) (t : TypeId) (z i : Nat) (hz : x.heap.size = z) : (x.alloc (.cells C t)).frozen? ⟨z, i, none⟩ = false := by
  have h : (x.alloc (.cells C t)).heap[z]? = some (.cells C t) := by subst hz; show (x.heap.push _)[x.heap.size]? = _; simp
  simp only [World.frozen?, h]; simp
theorem cell_old_at (x : World) (o : Obj) (p : Addr) (h : p.block < x.heap.size) : (x.alloc o).cell? p = x.cell? p := ((Below.refl x.heap.size x).alloc (Nat.le_refl _) o).cell h
theorem frozen_old_at (x : World) (o : Obj) (p : Addr) (h : p.block < x.heap.size) : (x.alloc o).frozen? p = x.frozen? p := ((Below.refl x.heap.size x).alloc (Nat.le_refl _) o).frozen h

end Go.Proofs.Ytknnidbdgfimbaa
end

section
/- Contracts of arithmeticabig: trim, words, give, SetInt64, NewInt; and B. -/
set_option linter.unusedSimpArgs false
set_option linter.unusedVariables false
set_option maxRecDepth 100000
namespace Go.Proofs.Ytknnidbdgfimbaa
open Go.RowKit

theorem val_take (l : List Nat) (k : Nat) (h : ∀ j, k ≤ j → j < l.length → l.getD j 0 = 0) : val (l.take k) = val l := by
  induction l generalizing k with
  | nil => simp
  | cons x r ih =>
    cases k with
    | zero =>
      have h0 := h 0 (Nat.le_refl _) (by simp)
      have := ih 0 (fun j _ hj => by have := h (j + 1) (by omega) (by simp; omega); simpa using this)
      simp [val] at h0 this ⊢; omega
    | succ k =>
      have := ih k (fun j hk hj => by have := h (j + 1) (by omega) (by simp; omega); simpa using this)
      simp [val, this]

theorem val_last (l : List Nat) (k : Nat) (hk : k < l.length) (h : l.getD k 0 ≠ 0) : pw k ≤ val (l.take (k + 1)) := by
  rw [List.take_succ_eq_append_getElem hk, val_append, List.length_take, Nat.min_eq_left (by omega)]
  have h1 : l[k] ≠ 0 := by rwa [List.getD_eq_getElem?_getD, List.getElem?_eq_getElem hk, Option.getD_some] at h
  simp only [val]
  have : pw k * 1 ≤ pw k * (l[k] + 4294967296 * 0) := Nat.mul_le_mul_left _ (by omega)
  omega

theorem Sl.take {w : World} {g cap : Nat} {l : List Nat} (h : Sl w (.slice (some ⟨g, 0, none⟩) l.length cap) l) (k : Nat) (hk : k ≤ l.length) : Sl w (.slice (some ⟨g, 0, none⟩) k cap) (l.take k) := by
  refine ⟨fun x hx => h.small x (List.mem_of_mem_take hx), ?_⟩
  rcases h.shape with ⟨_, h1⟩ | ⟨g', cap', C, h1, h2, h3, h4⟩
  · simp at h1
  · simp at h1
    obtain ⟨rfl, rfl⟩ := h1
    have e : (l.take k).length = k := by simp; omega
    refine Or.inr ⟨g, cap, C, by rw [e], by omega, h3, fun i hi => ?_⟩
    rw [e] at hi
    rw [h4 i (by omega)]
    simp [List.getElem?_take, hi]

set_option maxHeartbeats 400000 in
theorem trim_full (l : List Nat) (g cap : Nat) (w : World) (hl : l.length ≤ 1000000000) (h : Sl w (.slice (some ⟨g, 0, none⟩) l.length cap) l) (hcap : l.length ≤ cap) (hcell : ∀ i, i < l.length → w.cell? ⟨g, i, none⟩ = some (.int .u32 (l.getD i 0 : Int))) :
    Calls Try.prog 66 #[.slice (some ⟨g, 0, none⟩) l.length cap] w fun e w' => ∃ k, k ≤ l.length ∧ e = .returned (.slice (some ⟨g, 0, none⟩) k cap) ∧ val (l.take k) = val l ∧ Nm (l.take k) ∧ w' = w := by
  have HS : Hid (Sl w (.slice (some ⟨g, 0, none⟩) l.length cap) l) := h
  have HC : Hid (∀ i, i < l.length → w.cell? ⟨g, i, none⟩ = some (.int .u32 (l.getD i 0 : Int))) := hcell
  clear h hcell
  go_enter Try.func66, Try.ntmps66
  go_wp2
  go_loop [3] (fun i => ∃ k : Nat, k ≤ l.length ∧ i = .int .i64 k ∧ ∀ j, k ≤ j → j < l.length → l.getD j 0 = 0) (fun i => (intOf i).toNat)
  case atStart => exact ⟨l.length, Nat.le_refl _, rfl, fun j h1 h2 => by omega⟩
  case round =>
    obtain ⟨k, hk, rfl, hz⟩ := hrel
    have HZ : Hid (∀ j, k ≤ j → j < l.length → l.getD j 0 = 0) := hz
    clear hz
    by_cases h0 : k = 0
    · subst h0
      go_wp2
      go_ret
      exact ⟨0, by omega, rfl, val_take l 0 HZ.out, Or.inl rfl, rfl⟩
    · obtain ⟨m, rfl⟩ : ∃ m, k = m + 1 := ⟨k - 1, by omega⟩
      have hcm := HC.out m (by omega)
      obtain ⟨x, hx⟩ : ∃ x, x = l.getD m 0 := ⟨_, rfl⟩
      rw [← hx] at hcm
      have HX : Hid (x = l.getD m 0) := hx
      clear hx
      by_cases hxz : x = 0
      · go_wp2
        go_round
        case rel =>
          refine ⟨m, by omega, by go_num, fun j h1 h2 => ?_⟩
          by_cases e : j = m
          · subst e; rw [← HX.out]; exact hxz
          · exact HZ.out j (by omega) h2
        case measure => simp [intOf]
      · have hxi : ((x : Int) == 0) = false := by simpa using hxz
        go_wp2
        go_ret
        refine ⟨m + 1, hk, by first | rfl | (congr 2), val_take l (m + 1) HZ.out, Or.inr ?_, rfl⟩
        have : (l.take (m + 1)).length - 1 = m := by simp; omega
        rw [this]
        exact val_last l m (by omega) (by rw [← HX.out]; exact hxz)

theorem trim_any (l : List Nat) (s : Value) (w : World) (hl : l.length ≤ 1000000000) (h : Sl w s l) :
    Calls Try.prog 66 #[s] w fun e w' => ∃ s', e = .returned s' ∧ NS w s' (val l) ∧ w' = w := by
  rcases h.shape with ⟨rfl, rfl⟩ | ⟨g, cap, C, rfl, h2, h3, h4⟩
  · go_enter Try.func66, Try.ntmps66
    go_wp2
    refine wp_loop_rounds 1 ?_
    rw [rounds_succ]
    go_wp2
    go_ret
    exact ⟨_, rfl, ⟨[], ⟨by simp, Or.inl ⟨rfl, rfl⟩⟩, rfl, Or.inl rfl⟩, rfl⟩
  · have hc : ∀ i, i < l.length → w.cell? ⟨g, i, none⟩ = some (.int .u32 (l.getD i 0 : Int)) := fun i hi => by
      simp only [World.cell?, h3]; exact h4 i hi
    refine (trim_full l g cap w hl h h2 hc).mono ?_
    rintro e w' ⟨k, hk, rfl, hv, hn, rfl⟩
    exact ⟨_, rfl, ⟨l.take k, h.take k hk, hv, hn⟩, rfl⟩

theorem Sl.new (w : World) (l : List Nat) (h : ∀ x ∈ l, x < 4294967296) : Sl (w.alloc (.cells (l.map fun x : Nat => Value.int .u32 (x : Int)).toArray 89)) (.slice (some ⟨w.heap.size, 0, none⟩) l.length l.length) l := by
  refine ⟨h, Or.inr ⟨w.heap.size, l.length, _, rfl, Nat.le_refl _, heap_alloc_new _ _, fun i hi => ?_⟩⟩
  simp [hi]

set_option maxHeartbeats 400000 in
theorem words_any (x : Nat) (hx : x < 18446744073709551616) (w : World) :
    Calls Try.prog 61 #[.int .u64 x] w fun e w' => ∃ s, e = .returned s ∧ NS w' s x ∧ Below w.heap.size w w' := by
  have H : Hid (Sl (w.alloc (.cells #[.int .u32 ((x : Int) % 4294967296), .int .u32 ((x : Int) / 4294967296)] 89)) (.slice (some ⟨w.heap.size, 0, none⟩) 2 2) [x % 4294967296, x / 4294967296]) := by
    have := Sl.new w [x % 4294967296, x / 4294967296] (by simp; omega)
    simpa [Hid] using this
  have HV : Hid (val [x % 4294967296, x / 4294967296] = x) := by show val _ = x; simp only [val]; omega
  have hxi : (x : Int) ≤ 18446744073709551615 := by omega
  go_enter Try.func61, Try.ntmps61
  go_wp2_with fail
  refine (trim_any [x % 4294967296, x / 4294967296] _ _ (by simp) H.out).mono ?_
  rw [HV.out]
  rintro e w1 ⟨s', rfl, hns, rfl⟩
  obtain ⟨l, hsl, hv, hnm⟩ := hns
  have HN : Hid (NS (w.alloc (.cells #[.int .u32 ((x : Int) % 4294967296), .int .u32 ((x : Int) / 4294967296)] 89)) s' x) := ⟨l, hsl, hv, hnm⟩
  clear hsl hv hnm H HV
  go_wp2
  go_ret
  exact ⟨s', rfl, HN.out, Below.alloc (Below.refl _ _) (Nat.le_refl _) _⟩

theorem slot_cells {w : World} {b : Nat} (h : Slot w b) : (∃ x y, w.cell? ⟨b, 0, none⟩ = some x ∧ w.cell? ⟨b, 1, none⟩ = some y) ∧ w.frozen? ⟨b, 0, none⟩ = false ∧ w.frozen? ⟨b, 1, none⟩ = false := by
  obtain ⟨x, y, h⟩ := h
  refine ⟨⟨x, y, ?_, ?_⟩, ?_, ?_⟩ <;> simp [World.cell?, World.frozen?, h]

theorem slot_set {w : World} {b : Nat} (h : Slot w b) (p q : Value) : ((w.setCell ⟨b, 1, none⟩ q).setCell ⟨b, 0, none⟩ p).heap[b]? = some (.cells #[p, q] 54 (0, 0)) := by
  obtain ⟨x, y, h⟩ := h
  simp [World.setCell, Array.getElem?_modify, h]

theorem NS.shape {w : World} {s : Value} {n : Nat} (h : NS w s n) : ∃ aa len cap, s = .slice aa len cap ∧ (0 < len ↔ 0 < n) := by
  obtain ⟨l, h1, h2, h3⟩ := h
  have : l = [] ↔ n = 0 := by rw [← h2]; exact h3.nil_iff
  have e : 0 < l.length ↔ 0 < n := by
    have := List.length_pos_iff (l := l); constructor
    · intro hh; rcases Nat.eq_zero_or_pos n with k | k
      · simp_all
      · exact k
    · intro hh; rw [this]; intro k; simp_all
  rcases h1.shape with ⟨k1, k2⟩ | ⟨g, cap, C, k1, _⟩
  · exact ⟨_, _, _, k2, by rw [← e, k1]; simp⟩
  · exact ⟨_, _, _, k1, e⟩

def sgd (neg : Bool) (m : Nat) : Int := if neg = true then -(m : Int) else m

theorem give_end {w : World} {b m : Nat} {s : Value} (hz : Slot w b) (hs : NS w s m) (q : Bool) (n : Int) (hq : q = decide (n < 0)) (hm : n.natAbs = m) :
    BigAt ((w.setCell ⟨b, 1, none⟩ s).setCell ⟨b, 0, none⟩ (.bool q)) b n ∧ Upd b w ((w.setCell ⟨b, 1, none⟩ s).setCell ⟨b, 0, none⟩ (.bool q)) := by
  have hu : Upd b w ((w.setCell ⟨b, 1, none⟩ s).setCell ⟨b, 0, none⟩ (.bool q)) := Upd.setCell (o := 0) (Upd.setCell (o := 1) (Upd.refl b w) s) (.bool q)
  refine ⟨⟨s, ?_, ?_⟩, hu⟩
  · rw [slot_set hz, hq]
  · rw [hm]; exact hs.upd hu hz

set_option maxHeartbeats 400000 in
theorem give_any (b : Nat) (neg : Bool) (s : Value) (m : Nat) (w : World) (hz : Slot w b) (hs : NS w s m) :
    Calls Try.prog 52 #[.pointer (some ⟨b, 0, none⟩), .bool neg, s] w fun e w' => e = .returned (.pointer (some ⟨b, 0, none⟩)) ∧ BigAt w' b (sgd neg m) ∧ Upd b w w' := by
  obtain ⟨⟨x, y, c0, c1⟩, f0, f1⟩ := slot_cells hz
  obtain ⟨aa, len, cap, rfl, hlen⟩ := hs.shape
  have HZ : Hid (Slot w b) := hz
  have HS : Hid (NS w (.slice aa len cap) m) := hs
  clear hz hs
  have HL : Hid (0 < len ↔ 0 < m) := hlen
  clear hlen
  cases neg <;> by_cases hp : 0 < len
  all_goals
    go_enter Try.func52, Try.ntmps52
    go_wp2
    go_ret
    refine ⟨rfl, give_end HZ.out HS.out _ _ ?_ ?_⟩
    · have := HL.out; simp [sgd]; try omega
    · simp [sgd]

theorem wrap_neg (x : Int) (h1 : -9223372036854775808 ≤ x) (hx : x < 0) : IntKind.u64.wrap (-IntKind.u64.wrap x) = ((x.natAbs : Nat) : Int) := by
  rw [IntKind.wrap_u64, IntKind.wrap_u64]; omega
theorem wrap_pos (x : Int) (h2 : x ≤ 9223372036854775807) (hx : ¬ x < 0) : x = ((x.natAbs : Nat) : Int) := by omega

theorem sgd_neg {x : Int} (h : x < 0) : sgd true x.natAbs = x := by simp [sgd]; omega
theorem sgd_pos {x : Int} (h : ¬ x < 0) : sgd false x.natAbs = x := by simp [sgd]; omega

theorem Upd.then_below {b : Nat} {w w1 w2 : World} (hb : Below w.heap.size w w1) (hu : Upd b w1 w2) : Upd b w w2 := (Upd.of_below hb).trans hu

set_option maxHeartbeats 400000 in
theorem SetInt64_any (b : Nat) (x : Int) (w : World) (hz : Slot w b) (h1 : -9223372036854775808 ≤ x) (h2 : x ≤ 9223372036854775807) :
    Calls Try.prog 41 #[.pointer (some ⟨b, 0, none⟩), .int .i64 x] w fun e w' => e = .returned (.pointer (some ⟨b, 0, none⟩)) ∧ BigAt w' b x ∧ Upd b w w' := by
  have HZ : Hid (Slot w b) := hz
  clear hz
  by_cases hx : x < 0
  · go_enter Try.func41, Try.ntmps41
    go_wp2_with fail
    rw [wrap_neg x h1 hx]
    refine (words_any x.natAbs (by omega) _).mono ?_
    rintro e w1 ⟨s, rfl, hns, hb⟩
    go_wp2_with fail
    refine (give_any b true s x.natAbs w1 (HZ.out.below hb (Nat.le_refl _)) hns).mono ?_
    rintro e w2 ⟨rfl, hbig, hu⟩
    rw [sgd_neg hx] at hbig
    go_wp2
    go_ret
    exact ⟨rfl, hbig, Upd.then_below hb hu⟩
  · obtain ⟨n, rfl⟩ := Int.eq_ofNat_of_zero_le (show 0 ≤ x by omega)
    go_enter Try.func41, Try.ntmps41
    go_wp2_with fail
    refine (words_any n (by omega) _).mono ?_
    rintro e w1 ⟨s, rfl, hns, hb⟩
    go_wp2_with fail
    refine (give_any b false s n w1 (HZ.out.below hb (Nat.le_refl _)) hns).mono ?_
    rintro e w2 ⟨rfl, hbig, hu⟩
    go_wp2
    go_ret
    exact ⟨rfl, hbig, Upd.then_below hb hu⟩

theorem slot_new (w : World) (x y : Value) : Slot (w.alloc (.cells #[x, y] 54)) w.heap.size := ⟨x, y, heap_alloc_new _ _⟩

/-- A number that was made anew: it lies in a new block, and nothing old has turned. -/
def Made (w w' : World) (b : Nat) (n : Int) : Prop := w.heap.size ≤ b ∧ BigAt w' b n ∧ Below w.heap.size w w'

set_option maxHeartbeats 400000 in
theorem NewInt_any (x : Int) (w : World) (h1 : -9223372036854775808 ≤ x) (h2 : x ≤ 9223372036854775807) :
    Calls Try.prog 45 #[.int .i64 x] w fun e w' => ∃ b, e = .returned (.pointer (some ⟨b, 0, none⟩)) ∧ Made w w' b x := by
  go_enter Try.func45, Try.ntmps45
  go_wp2_with fail
  refine (SetInt64_any w.heap.size x _ (slot_new w _ _) h1 h2).mono ?_
  rintro e w2 ⟨rfl, hbig, hu⟩
  go_wp2
  go_ret
  exact ⟨w.heap.size, rfl, Nat.le_refl _, hbig, Below.trans (Below.alloc (Below.refl _ _) (Nat.le_refl _) _) (hu.below (by simp) (Nat.le_refl _))⟩

theorem B_any (x : Int) (w : World) (h1 : -9223372036854775808 ≤ x) (h2 : x ≤ 9223372036854775807) :
    Calls Try.prog 24 #[.int .i64 x] w fun e w' => ∃ b, e = .returned (.pointer (some ⟨b, 0, none⟩)) ∧ Made w w' b x := by
  go_enter Try.func24, Try.ntmps24
  go_wp2_with fail
  refine (NewInt_any x _ h1 h2).mono ?_
  rintro e w2 ⟨b, rfl, hm⟩
  go_wp2
  go_ret
  exact ⟨b, rfl, hm⟩

end Go.Proofs.Ytknnidbdgfimbaa
end

section
/- Rows of words in the call's own memory; the contract of cmp. -/
set_option linter.unusedSimpArgs false
set_option linter.unusedVariables false
set_option maxRecDepth 100000
namespace Go.Proofs.Ytknnidbdgfimbaa
open Go.RowKit

/-- Block g is a row of just the words R. -/
def Row (w : World) (g : Nat) (R : List Nat) : Prop := w.heap[g]? = some (.cells (R.map (fun x : Nat => Value.int .u32 (x : Int))).toArray 89 (0, 0))

theorem Row.lt {w : World} {g : Nat} {R : List Nat} (h : Row w g R) : g < w.heap.size := lt_of_some h
theorem Row.cell {w : World} {g : Nat} {R : List Nat} (h : Row w g R) (i : Nat) (hi : i < R.length) : w.cell? ⟨g, i, none⟩ = some (.int .u32 (R.getD i 0 : Int)) := by
  unfold Row at h
  simp [World.cell?, h, hi]
theorem Row.frozen {w : World} {g : Nat} {R : List Nat} (h : Row w g R) (i : Nat) : w.frozen? ⟨g, i, none⟩ = false := by
  unfold Row at h
  simp [World.frozen?, h]
theorem Row.set {w : World} {g : Nat} {R : List Nat} (h : Row w g R) (i : Nat) (y : Int) (x : Nat) (e : y = x) : Row (w.setCell ⟨g, i, none⟩ (.int .u32 y)) g (R.set i x) := by
  subst e
  unfold Row at h ⊢
  simp [World.setCell, Array.getElem?_modify, h, List.map_set]
theorem Row.below {B g : Nat} {w w' : World} {R : List Nat} (h : Row w g R) (hb : Below B w w') (hg : g < B) : Row w' g R := by
  unfold Row at h ⊢; rw [hb.block g hg]; exact h
theorem Row.sl {w : World} {g : Nat} {R : List Nat} (h : Row w g R) (hs : ∀ x ∈ R, x < 4294967296) : Sl w (.slice (some ⟨g, 0, none⟩) R.length R.length) R := by
  refine ⟨hs, Or.inr ⟨g, _, _, rfl, Nat.le_refl _, h, fun i hi => ?_⟩⟩
  simp [hi]
theorem Row.drewN {w : World} {g n : Nat} {R : List Nat} (h : Row w g R) : Row (w.drewN n) g R := h
theorem Row.of_make {w w' : World} {n : Nat} (h : w'.ownsRow w.heap.size 89 1 (.slice (some ⟨w.heap.size, 0, none⟩) n n) n (madeCells #[Value.int .u32 0] n).toList) : Row w' w.heap.size (List.replicate n 0) := by
  obtain ⟨h1, h2 | ⟨g, cap, cur, e1, e2, e3, e4, e5, e6, e7⟩⟩ := h
  · obtain ⟨h2, rfl⟩ := h2
    simp at h2
  · simp at e1
    obtain ⟨rfl, rfl⟩ := e1
    unfold Row
    rw [e3]
    have : cur.toList = (madeCells #[Value.int .u32 0] n).toList := by
      rw [← e7, List.take_of_length_le (by simp; omega)]
    have e8 : cur = madeCells #[Value.int .u32 0] n := Array.toList_inj.1 this
    rw [e8]
    congr 2
    apply Array.ext
    · simp [madeCells]
    · intro i h1 h2
      simp [madeCells, Nat.mod_one]

/-- How two numbers stand to each other. -/
def cmpN (a b : Nat) : Int := if a < b then -1 else if b < a then 1 else 0

theorem val_split (l : List Nat) (k : Nat) (hk : k < l.length) : val l = val (l.take k) + pw k * (l.getD k 0 + 4294967296 * val (l.drop (k + 1))) := by
  have e : l = l.take k ++ (l.getD k 0 :: l.drop (k + 1)) := by
    rw [List.getD_eq_getElem?_getD, List.getElem?_eq_getElem hk, Option.getD_some, ← List.drop_eq_getElem_cons hk, List.take_append_drop]
  have h := val_append (l.take k) (l.getD k 0 :: l.drop (k + 1))
  rw [← e, List.length_take, Nat.min_eq_left (by omega)] at h
  rw [h]; rfl
theorem take_lt (l : List Nat) (k : Nat) (hk : k ≤ l.length) (h : ∀ x ∈ l, x < 4294967296) : val (l.take k) < pw k := by
  have := val_lt (l.take k) (fun x hx => h x (List.mem_of_mem_take hx))
  rwa [List.length_take, Nat.min_eq_left hk] at this
theorem drop_same (a b : List Nat) (k : Nat) (hl : a.length = b.length) (h : ∀ j, k ≤ j → j < a.length → a.getD j 0 = b.getD j 0) : a.drop k = b.drop k := by
  apply List.ext_getElem
  · simp [hl]
  · intro i h1 h2
    simp at h1 h2
    have := h (k + i) (by omega) (by omega)
    rw [List.getD_eq_getElem?_getD, List.getElem?_eq_getElem (by omega), List.getD_eq_getElem?_getD, List.getElem?_eq_getElem (by omega)] at this
    simpa using this
theorem val_lt_of (a b : List Nat) (k : Nat) (hk : k < a.length) (hl : a.length = b.length) (ha : ∀ x ∈ a, x < 4294967296)
    (h : ∀ j, k + 1 ≤ j → j < a.length → a.getD j 0 = b.getD j 0) (hlt : a.getD k 0 < b.getD k 0) : val a < val b := by
  rw [val_split a k hk, val_split b k (by omega), drop_same a b (k + 1) hl h]
  have h1 := take_lt a k (by omega) ha
  have h2 : pw k * (a.getD k 0 + 4294967296 * val (b.drop (k + 1)) + 1) ≤ pw k * (b.getD k 0 + 4294967296 * val (b.drop (k + 1))) := Nat.mul_le_mul_left _ (by omega)
  rw [Nat.mul_add, Nat.mul_one] at h2
  omega
theorem val_len_lt (a b : List Nat) (ha : ∀ x ∈ a, x < 4294967296) (hb : Nm b) (h : a.length < b.length) : val a < val b := by
  have h1 := val_lt a ha
  rcases hb with hb | hb
  · subst hb; simp at h
  · have := pw_le (show a.length ≤ b.length - 1 by omega); omega
theorem cmpN_lt {a b : Nat} (h : a < b) : cmpN a b = -1 := by simp [cmpN, h]
theorem cmpN_gt {a b : Nat} (h : b < a) : cmpN a b = 1 := by simp [cmpN]; omega
theorem cmpN_eq {a b : Nat} (h : a = b) : cmpN a b = 0 := by simp [cmpN, h]

theorem NS.open {w : World} {s : Value} {n : Nat} (h : NS w s n) : ∃ (l : List Nat) (aa : Option Addr) (g cap : Nat), s = .slice aa l.length cap ∧ val l = n ∧ Nm l ∧ (∀ x ∈ l, x < 4294967296) ∧ (0 < l.length → aa = some ⟨g, 0, none⟩) ∧
    (∀ i, i < l.length → w.cell? ⟨g, i, none⟩ = some (.int .u32 (l.getD i 0 : Int))) ∧ l.length ≤ cap ∧ (0 < l.length → g < w.heap.size) := by
  obtain ⟨l, h1, h2, h3⟩ := h
  rcases h1.shape with ⟨rfl, rfl⟩ | ⟨g, cap, C, rfl, k2, k3, k4⟩
  · exact ⟨[], none, 0, 0, rfl, h2, h3, by simp, by simp, by simp, by simp, by simp⟩
  · refine ⟨l, _, g, cap, rfl, h2, h3, h1.small, fun _ => rfl, fun i hi => ?_, k2, fun _ => lt_of_some k3⟩
    simp only [World.cell?, k3]; exact k4 i hi

theorem drewN_more {w wr : World} (h : ∃ q, wr = w.drewN q) (n : Nat) : ∃ q, wr.drewN n = w.drewN q := by
  obtain ⟨q, rfl⟩ := h
  exact ⟨q + n, World.drewN_drewN ..⟩

set_option maxHeartbeats 1000000 in
theorem cmp_any (s t : Value) (a b m n : Nat) (w : World) (ha : NS w s a) (hb : NS w t b) (hm : a < pw m) (hn : b < pw n) (hm' : m ≤ 100000000) (hn' : n ≤ 100000000) :
    Calls Try.prog 51 #[s, t] w fun e w' => e = .returned (.int .i64 (cmpN a b)) ∧ ∃ q, w' = w.drewN q := by
  obtain ⟨la, aa, ga, ca, rfl, va, na, sa, pa, cella, _, _⟩ := ha.open
  obtain ⟨lb, ab, gb, cb, rfl, vb, nb, sb, pb, cellb, _, _⟩ := hb.open
  subst va vb
  have l1 : la.length ≤ 100000000 := Nat.le_trans (na.len hm) hm'
  have l2 : lb.length ≤ 100000000 := Nat.le_trans (nb.len hn) hn'
  have NA : Hid (Nm la) := na
  have NB : Hid (Nm lb) := nb
  have SA : Hid (∀ x ∈ la, x < 4294967296) := sa
  have SB : Hid (∀ x ∈ lb, x < 4294967296) := sb
  have CA : Hid (∀ i, i < la.length → w.cell? ⟨ga, i, none⟩ = some (.int .u32 (la.getD i 0 : Int))) := cella
  have CB : Hid (∀ i, i < lb.length → w.cell? ⟨gb, i, none⟩ = some (.int .u32 (lb.getD i 0 : Int))) := cellb
  have PA : Hid (0 < la.length → aa = some ⟨ga, 0, none⟩) := pa
  have PB : Hid (0 < lb.length → ab = some ⟨gb, 0, none⟩) := pb
  clear na nb sa sb cella cellb pa pb ha hb hm hn
  rcases Nat.lt_trichotomy la.length lb.length with h | h | h
  · have h0 : ((la.length : Int) != (lb.length : Int)) = true := by rw [bne_iff_ne]; omega
    go_enter Try.func51, Try.ntmps51
    go_wp2
    go_ret
    exact ⟨ret_int (cmpN_lt (val_len_lt la lb SA.out NB.out h)).symm, 0, rfl⟩
  · have h0 : ((la.length : Int) != (lb.length : Int)) = false := by simp; omega
    have HL : Hid (la.length = lb.length) := h
    have hle1 : la.length ≤ lb.length := by omega
    have hle2 : lb.length ≤ la.length := by omega
    clear h
    go_enter Try.func51, Try.ntmps51
    go_wp2
    go_loopw [5] (fun i wr => ∃ k : Nat, k ≤ la.length ∧ i = .int .i64 ((k : Int) - 1) ∧ (∀ j, k ≤ j → j < la.length → la.getD j 0 = lb.getD j 0) ∧ ∃ q, wr = w.drewN q) (fun i _ => (intOf i + 1).toNat)
    case atStart => exact ⟨la.length, Nat.le_refl _, rfl, fun j h1 h2 => by omega, 0, rfl⟩
    case round =>
      obtain ⟨k, hk, rfl, hs, hw⟩ := hrel
      have HS : Hid (∀ j, k ≤ j → j < la.length → la.getD j 0 = lb.getD j 0) := hs
      have HW : Hid (∃ q, wr = w.drewN q) := hw
      clear hs hw
      by_cases h00 : k = 0
      · subst h00
        go_wp2
        go_ret
        refine ⟨ret_int (cmpN_eq ?_).symm, HW.out⟩
        have := drop_same la lb 0 HL.out HS.out
        simpa using congrArg val this
      · obtain ⟨m', rfl⟩ : ∃ m', k = m' + 1 := ⟨k - 1, by omega⟩
        have hca : wr.cell? ⟨ga, m', none⟩ = some (.int .u32 (la.getD m' 0 : Int)) := by obtain ⟨q, e⟩ := HW.out; rw [e]; exact CA.out m' (by omega)
        have hcb : wr.cell? ⟨gb, m', none⟩ = some (.int .u32 (lb.getD m' 0 : Int)) := by obtain ⟨q, e⟩ := HW.out; rw [e]; exact CB.out m' (by omega)
        obtain ⟨x, hx⟩ : ∃ x, x = la.getD m' 0 := ⟨_, rfl⟩
        obtain ⟨y, hy⟩ : ∃ y, y = lb.getD m' 0 := ⟨_, rfl⟩
        rw [← hx] at hca
        rw [← hy] at hcb
        have HX : Hid (x = la.getD m' 0) := hx
        have HY : Hid (y = lb.getD m' 0) := hy
        obtain rfl := PA.out (by omega)
        obtain rfl := PB.out (by omega)
        clear hx hy
        rcases Nat.lt_trichotomy x y with c | c | c
        · have d : ((x : Int) != (y : Int)) = true := by rw [bne_iff_ne]; omega
          go_wp2
          go_quiet (fail)
          go_wp2
          go_quiet (fail)
          go_wp2
          go_ret
          exact ⟨ret_int (cmpN_lt (val_lt_of la lb m' (by omega) HL.out SA.out HS.out (by rw [← HX.out, ← HY.out]; exact c))).symm, drewN_more (drewN_more HW.out _) _⟩
        · have d : ((x : Int) != (y : Int)) = false := by simp; omega
          go_wp2
          go_quiet (fail)
          go_wp2
          go_roundw
          case rel =>
            refine ⟨m', by omega, by go_num, fun j h1 h2 => ?_, drewN_more HW.out _⟩
            by_cases e : j = m'
            · subst e; rw [← HX.out, ← HY.out]; exact c
            · exact HS.out j (by omega) h2
          case measure => simp [intOf]
        · have d : ((x : Int) != (y : Int)) = true := by rw [bne_iff_ne]; omega
          go_wp2
          go_quiet (fail)
          go_wp2
          go_quiet (fail)
          go_wp2
          go_ret
          exact ⟨ret_int (cmpN_gt (val_lt_of lb la m' (by omega) HL.out.symm SB.out (fun j h1 h2 => (HS.out j h1 (by omega)).symm) (by rw [← HX.out, ← HY.out]; exact c))).symm, drewN_more (drewN_more HW.out _) _⟩
  · have h0 : ((la.length : Int) != (lb.length : Int)) = true := by rw [bne_iff_ne]; omega
    go_enter Try.func51, Try.ntmps51
    go_wp2
    go_ret
    exact ⟨ret_int (cmpN_gt (val_len_lt lb la SB.out NA.out h)).symm, 0, rfl⟩

end Go.Proofs.Ytknnidbdgfimbaa
end

section
/- The contract of modulo.Power: a power by a number, bit by bit. -/
set_option linter.unusedSimpArgs false
set_option linter.unusedVariables false
set_option maxRecDepth 100000
namespace Go.Proofs.Ytknnidbdgfimbaa
open Go.RowKit

/-- One more bit of the exponent. -/
theorem mod_pow_succ (n i : Nat) : n % 2 ^ (i + 1) = n % 2 ^ i + 2 ^ i * (n / 2 ^ i % 2) := by
  rw [Nat.pow_succ, Nat.mod_mul]

theorem pow_sq (A i m : Nat) : (A ^ 2 ^ i % m) * (A ^ 2 ^ i % m) % m = A ^ 2 ^ (i + 1) % m := by
  rw [← Nat.mul_mod, ← Nat.pow_add, Nat.pow_succ]; congr 2; omega

theorem pow_one_bit (A n i m : Nat) (h : n / 2 ^ i % 2 = 1) : (A ^ (n % 2 ^ i) % m) * (A ^ 2 ^ i % m) % m = A ^ (n % 2 ^ (i + 1)) % m := by
  rw [← Nat.mul_mod, ← Nat.pow_add, mod_pow_succ, h, Nat.mul_one]
theorem pow_no_bit (A n i m : Nat) (h : n / 2 ^ i % 2 = 0) : A ^ (n % 2 ^ i) % m = A ^ (n % 2 ^ (i + 1)) % m := by
  rw [mod_pow_succ, h, Nat.mul_zero, Nat.add_zero]

theorem and_one_i64 (a : Nat) (ha : a < 9223372036854775808) : bits .and .i64 (a : Int) 1 = ((a % 2 : Nat) : Int) := by
  have h1 : (BitVec.ofInt 64 (a : Int)).toNat = a := by
    rw [BitVec.ofInt_natCast, BitVec.toNat_ofNat]; exact Nat.mod_eq_of_lt (by omega)
  have h2 : (BitVec.ofInt 64 (1 : Int)).toNat = 1 := by decide
  show IntKind.i64.wrap ((BitVec.ofInt 64 (a : Int) &&& BitVec.ofInt 64 (1 : Int)).toNat : Int) = _
  rw [BitVec.toNat_and, h1, h2, Nat.and_one_is_mod, IntKind.wrap_i64]
  omega

theorem bit_i64 (n i b : Nat) (hn : n < 9223372036854775808) (h : n / 2 ^ i % 2 = b) : bits .and .i64 ((n : Int) / 2 ^ i) 1 = (b : Int) := by
  have e : (n : Int) / 2 ^ i = ((n / 2 ^ i : Nat) : Int) := by simp
  rw [e, and_one_i64 _ (Nat.lt_of_le_of_lt (Nat.div_le_self ..) hn), h]

end Go.Proofs.Ytknnidbdgfimbaa
end

section
/- Contracts: the calls Power and Inverse. -/
set_option linter.unusedSimpArgs false
set_option linter.unusedVariables false
set_option maxRecDepth 100000
namespace Go.Proofs.Ytknnidbdgfimbaa
open Go.RowKit

theorem triple_cells (a b c : Int) (W : World) (B : Nat) (h0 : W.cell? ⟨B, 0, none⟩ = some (.int .i64 a)) (h1 : W.cell? ⟨B, 1, none⟩ = some (.int .i64 b)) (h2 : W.cell? ⟨B, 2, none⟩ = some (.int .i64 c)) :
    ∀ j, j < [a, b, c].length → W.cell? ⟨B, 0 + j, none⟩ = some (.int .i64 ([a, b, c].getD j 0)) := by
  intro j hj
  match j, hj with
  | 0, _ => exact h0
  | 1, _ => exact h1
  | 2, _ => exact h2

def okB3 (a b c : Int) : Bool := numB a && numB b && numB c

theorem okB3_bounds {a b c : Int} (h : okB3 a b c = true) : a.natAbs ≤ 1000000000000000000 ∧ b.natAbs ≤ 1000000000000000000 ∧ c.natAbs ≤ 1000000000000000000 := by
  unfold okB3 at h; rw [Bool.and_eq_true, Bool.and_eq_true] at h
  have h1 := numB_true h.1.1; have h2 := numB_true h.1.2; have h3 := numB_true h.2; omega
theorem okB3_nf {a b c : Int} (h : okB3 a b c = true) : nf 0 [a, b, c] = (0, 0) := by
  unfold okB3 at h; rw [Bool.and_eq_true, Bool.and_eq_true] at h
  simp [nf, h.1.1, h.1.2, h.2]
theorem okB3_ne {a b c : Int} (h : okB3 a b c = false) : ((nf 0 [a, b, c]).1 != 0) = true := by
  unfold okB3 at h; unfold nf nf nf nf; cases h1 : numB a <;> cases h2 : numB b <;> cases h3 : numB c <;> simp_all

theorem okB_ne {a b : Int} (h : okB a b = false) : ((nf 0 [a, b]).1 != 0) = true := by
  unfold okB at h; unfold nf nf nf; cases h1 : numB a <;> cases h2 : numB b <;> simp_all

theorem inv_of_bez {a m u v : Int} (hm : 0 < m) (hg : Int.gcd a m = 1) (h : Bez a m u v) : 0 ≤ u ∧ u < m ∧ (u * a) % m = 1 % m := by
  have h1 := h.low (by omega)
  have h2 := h.high (by omega)
  have h3 := h.lin
  rw [hg] at h2 h3
  refine ⟨h1, by rw [Nat.div_one] at h2; omega, ?_⟩
  have e : u * a = 1 + m * (-v) := by rw [Int.mul_neg, Int.mul_comm m]; omega
  rw [e, Int.add_mul_emod_self_left]

end Go.Proofs.Ytknnidbdgfimbaa
end
