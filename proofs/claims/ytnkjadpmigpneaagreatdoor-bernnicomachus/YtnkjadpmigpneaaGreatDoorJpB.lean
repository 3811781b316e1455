import Derived.Test.YtnkjadpmigpneaaGreatDoorJpA
section
set_option linter.unusedSimpArgs false
set_option linter.unusedVariables false
set_option maxRecDepth 100000
namespace Go.Proofs.YtnkjadpmigpneaaGreatDoor
open Go.RowKit
def nf : Nat → List Int → Int × Int
  | _, [] => (0, 0)
  | i, x :: r => if numB x = true then nf (i + 1) r else (3, i)
theorem nf_skip (xs : List Int) (k : Nat) (hk : k ≤ xs.length) (h : ∀ j, j < k → numB (xs.getD j 0) = true) : nf 0 xs = nf k (xs.drop k) := by
  induction k with
  | zero => rfl
  | succ n ih =>
    rw [ih (by omega) (fun j hj => h j (by omega)), List.drop_eq_getElem_cons (by omega), nf]
    have := h n (by omega)
    rw [List.getD_eq_getElem?_getD, List.getElem?_eq_getElem (by omega), Option.getD_some] at this
    rw [if_pos this]
theorem nf_none (xs : List Int) (h : ∀ j, j < xs.length → numB (xs.getD j 0) = true) : nf 0 xs = (0, 0) := by
  rw [nf_skip xs xs.length (Nat.le_refl _) h, List.drop_length]; rfl
theorem nf_nw : ∀ (xs : List Int) (i : Nat), nf i xs = nw 1000000000000000000 i xs
  | [], _ => rfl
  | x :: r, i => by rw [nf, nw, nf_nw r (i + 1)]; rfl
set_option maxHeartbeats 400000 in
theorem numbersFault_any (xs : List Int) (b o cap : Nat) (w : World) (hl : xs.length ≤ 1000000000) (hb : b < w.heap.size)
    (hc : ∀ j, j < xs.length → w.cell? ⟨b, o + j, none⟩ = some (.int .i64 (xs.getD j 0))) :
    Calls Tryz.prog 123 #[.slice (some ⟨b, o, none⟩) xs.length cap] w fun e w' => e = .returned (.agg #[.int .i64 (nf 0 xs).1, .int .i64 (nf 0 xs).2]) ∧ Below w.heap.size w w' := by
  obtain ⟨K, hK⟩ : ∃ K, K = nf 0 xs := ⟨_, rfl⟩
  have HB : Hid (∀ w', Below w.heap.size w w' → Calls Tryz.prog 134 #[.int .i64 1000000000000000000, .slice (some ⟨b, o, none⟩) xs.length cap] w' fun e w'' => e = .returned (.agg #[.int .i64 K.1, .int .i64 K.2]) ∧ Below w'.heap.size w' w'') := fun w' k => by
    rw [hK, nf_nw]
    exact bwithin_any 1000000000000000000 xs b o cap w' (by decide) (by decide) hl (Nat.lt_of_lt_of_le hb k.size) (fun j hj => (k.cell (p := ⟨b, o + j, none⟩) hb).trans (hc j hj))
  rw [← hK]
  clear hK hc hl hb
  go_enter Tryz.func123, Tryz.ntmps123
  go_wp2_with fail
  have K0 : Below w.heap.size w (w.alloc (.cells #[.int .i64 0, .int .i64 0] 23)) := Below.alloc (Below.refl _ _) (Nat.le_refl _) _
  refine (HB.out _ K0).mono ?_
  rintro e w1 ⟨rfl, k1⟩
  have hz : w.heap.size < w1.heap.size := by have := k1.size; simp at this; omega
  have q0 : w1.cell? ⟨w.heap.size, 0, none⟩ = some (.int .i64 0) := cell_later k1 (by simp)
  have q1 : w1.cell? ⟨w.heap.size, 1, none⟩ = some (.int .i64 0) := cell_later k1 (by simp)
  have q2 : w1.frozen? ⟨w.heap.size, 0, none⟩ = false := (k1.frozen (p := ⟨w.heap.size, 0, none⟩) (by simp)).trans (by simp)
  have q3 : w1.frozen? ⟨w.heap.size, 1, none⟩ = false := (k1.frozen (p := ⟨w.heap.size, 1, none⟩) (by simp)).trans (by simp)
  have HK : Hid (Below w.heap.size w w1) := K0.trans (k1.mono (by simp))
  clear K0 k1 HB
  go_wp2
  refine bodyPost_ret (v := .agg #[.int .i64 K.1, .int .i64 K.2]) (by simp [results, Tryz.results123, go_sem, q0, q1, hz]) rfl ⟨rfl, ?_⟩
  exact Below.setCell (Below.setCell HK.out (Nat.le_refl _) _) (Nat.le_refl _) _
theorem below_drewN' {B n : Nat} {a w : World} (h : Below B a w) : Below B a (w.drewN n) := ⟨h.os, h.tape, h.output, h.size, h.block⟩
def okB (a b : Int) : Bool := numB a && numB b
end Go.Proofs.YtnkjadpmigpneaaGreatDoor
end

section
set_option linter.unusedSimpArgs false
set_option linter.unusedVariables false
set_option maxRecDepth 100000
namespace Go.Proofs.YtnkjadpmigpneaaGreatDoor
open Go.RowKit
def val : List Nat → Nat
  | [] => 0
  | x :: r => x + 4294967296 * val r
def pw : Nat → Nat
  | 0 => 1
  | n + 1 => 4294967296 * pw n
theorem pw_pos (n : Nat) : 0 < pw n := by induction n with
  | zero => exact Nat.one_pos
  | succ n ih => unfold pw; omega
theorem pw_add (a b : Nat) : pw (a + b) = pw a * pw b := by induction a with
  | zero => simp [pw]
  | succ n ih =>
    rw [Nat.add_right_comm]
    show 4294967296 * pw (n + b) = 4294967296 * pw n * pw b
    rw [ih, Nat.mul_assoc]
theorem pw_le {a b : Nat} (h : a ≤ b) : pw a ≤ pw b := by
  obtain ⟨c, rfl⟩ := Nat.exists_eq_add_of_le h
  rw [pw_add]; exact Nat.le_mul_of_pos_right _ (pw_pos c)
theorem pw_lt_iff {a b : Nat} (h : pw a < pw b) : a < b := by
  rcases Nat.lt_or_ge a b with k | k
  · exact k
  · have := pw_le k; omega
theorem pw_two : pw 2 = 18446744073709551616 := by decide
theorem val_append (a b : List Nat) : val (a ++ b) = val a + pw a.length * val b := by induction a with
  | nil => simp [val, pw]
  | cons x r ih => simp only [List.cons_append, val, ih, List.length_cons, pw, Nat.mul_add, Nat.mul_assoc]; omega
theorem val_lt (l : List Nat) (h : ∀ x ∈ l, x < 4294967296) : val l < pw l.length := by induction l with
  | nil => simp [val, pw]
  | cons x r ih =>
    have h1 := h x (by simp)
    have h2 := ih (fun y hy => h y (by simp [hy]))
    simp only [val, List.length_cons, pw]; omega
def Nm (l : List Nat) : Prop := l = [] ∨ pw (l.length - 1) ≤ val l
theorem Nm.len {l : List Nat} {m : Nat} (h : Nm l) (hv : val l < pw m) : l.length ≤ m := by
  rcases h with h | h
  · subst h; exact Nat.zero_le _
  · have := pw_lt_iff (Nat.lt_of_le_of_lt h hv); omega
theorem Nm.nil_iff {l : List Nat} (h : Nm l) : l = [] ↔ val l = 0 := by
  constructor
  · intro e; subst e; rfl
  · intro e; rcases h with h | h
    · exact h
    · have := pw_pos (l.length - 1); omega
theorem Nm.len_le {l m : List Nat} (h : Nm l) (hm : ∀ x ∈ m, x < 4294967296) (hv : val l ≤ val m) : l.length ≤ m.length :=
  h.len (Nat.lt_of_le_of_lt hv (val_lt m hm))
structure Sl (w : World) (s : Value) (l : List Nat) : Prop where
  small : ∀ x ∈ l, x < 4294967296
  shape : (l = [] ∧ s = .slice none 0 0) ∨ ∃ g cap C, s = .slice (some ⟨g, 0, none⟩) l.length cap ∧ l.length ≤ cap ∧ w.heap[g]? = some (.cells C 106 (0, 0)) ∧ ∀ i, i < l.length → C[i]? = some (.int .u32 (l.getD i 0 : Int))
def NS (w : World) (s : Value) (n : Nat) : Prop := ∃ l, Sl w s l ∧ val l = n ∧ Nm l
def BigAt (w : World) (b : Nat) (n : Int) : Prop := ∃ s, w.heap[b]? = some (.cells #[.bool (decide (n < 0)), s] 37 (0, 0)) ∧ NS w s n.natAbs
def Slot (w : World) (b : Nat) : Prop := ∃ x y, w.heap[b]? = some (.cells #[x, y] 37 (0, 0))
structure Upd (b : Nat) (w w' : World) : Prop where
  os : w'.os = w.os
  tape : w'.tape = w.tape
  output : w'.output = w.output
  size : w.heap.size ≤ w'.heap.size
  block : ∀ k, k < w.heap.size → k ≠ b → w'.heap[k]? = w.heap[k]?
theorem lt_of_some {w : World} {k : Nat} {o : Obj} (h : w.heap[k]? = some o) : k < w.heap.size := by
  rcases Nat.lt_or_ge k w.heap.size with h1 | h1
  · exact h1
  · rw [Array.getElem?_eq_none h1] at h; cases h
theorem BigAt.slot {w : World} {b : Nat} {n : Int} (h : BigAt w b n) : Slot w b := ⟨_, _, h.choose_spec.1⟩
theorem BigAt.lt {w : World} {b : Nat} {n : Int} (h : BigAt w b n) : b < w.heap.size := lt_of_some h.choose_spec.1
theorem Slot.lt {w : World} {b : Nat} (h : Slot w b) : b < w.heap.size := by obtain ⟨x, y, h⟩ := h; exact lt_of_some h
theorem Sl.below {B : Nat} {w w' : World} {s : Value} {l : List Nat} (h : Sl w s l) (hb : Below B w w') (hB : w.heap.size ≤ B) : Sl w' s l := by
  refine ⟨h.small, ?_⟩
  rcases h.shape with h1 | ⟨g, cap, C, h1, h2, h3, h4⟩
  · exact Or.inl h1
  · exact Or.inr ⟨g, cap, C, h1, h2, by rw [hb.block g (Nat.lt_of_lt_of_le (lt_of_some h3) hB)]; exact h3, h4⟩
theorem NS.below {B : Nat} {w w' : World} {s : Value} {n : Nat} (h : NS w s n) (hb : Below B w w') (hB : w.heap.size ≤ B) : NS w' s n := by
  obtain ⟨l, h1, h2⟩ := h; exact ⟨l, h1.below hb hB, h2⟩
theorem BigAt.below {B : Nat} {w w' : World} {b : Nat} {n : Int} (h : BigAt w b n) (hb : Below B w w') (hB : w.heap.size ≤ B) : BigAt w' b n := by
  obtain ⟨s, h1, h2⟩ := h
  exact ⟨s, by rw [hb.block b (Nat.lt_of_lt_of_le (lt_of_some h1) hB)]; exact h1, h2.below hb hB⟩
theorem Slot.below {B : Nat} {w w' : World} {b : Nat} (h : Slot w b) (hb : Below B w w') (hB : w.heap.size ≤ B) : Slot w' b := by
  obtain ⟨x, y, h1⟩ := h
  exact ⟨x, y, by rw [hb.block b (Nat.lt_of_lt_of_le (lt_of_some h1) hB)]; exact h1⟩
theorem Upd.of_below {b : Nat} {w w' : World} (h : Below w.heap.size w w') : Upd b w w' := ⟨h.os, h.tape, h.output, h.size, fun k hk _ => h.block k hk⟩
theorem Upd.below {b B : Nat} {w w' : World} (h : Upd b w w') (h1 : B ≤ w.heap.size) (h2 : B ≤ b) : Below B w w' :=
  ⟨h.os, h.tape, h.output, h.size, fun k hk => h.block k (by omega) (by omega)⟩
theorem Upd.trans {b : Nat} {x y z : World} (h : Upd b x y) (k : Upd b y z) : Upd b x z :=
  ⟨k.os.trans h.os, k.tape.trans h.tape, k.output.trans h.output, Nat.le_trans h.size k.size, fun i hi hn => (k.block i (Nat.lt_of_lt_of_le hi h.size) hn).trans (h.block i hi hn)⟩
theorem Upd.refl (b : Nat) (w : World) : Upd b w w := ⟨rfl, rfl, rfl, Nat.le_refl _, fun _ _ _ => rfl⟩
theorem Upd.drew {b : Nat} {x y : World} (h : Upd b x y) : Upd b x y.drew := ⟨h.os, h.tape, h.output, h.size, h.block⟩
theorem Upd.setCell {b o : Nat} {x y : World} (h : Upd b x y) (u : Value) : Upd b x (y.setCell ⟨b, o, none⟩ u) :=
  h.trans ⟨rfl, rfl, rfl, by simp [World.setCell], fun k hk hn => Below.heap_setCell _ _ _ _ hn⟩
theorem Sl.upd {b : Nat} {w w' : World} {s : Value} {l : List Nat} (h : Sl w s l) (hu : Upd b w w') (hs : Slot w b) : Sl w' s l := by
  refine ⟨h.small, ?_⟩
  rcases h.shape with h1 | ⟨g, cap, C, h1, h2, h3, h4⟩
  · exact Or.inl h1
  · refine Or.inr ⟨g, cap, C, h1, h2, ?_, h4⟩
    rw [hu.block g (lt_of_some h3) ?_]; exact h3
    intro e; subst e; obtain ⟨x, y, h5⟩ := hs; rw [h3] at h5; simp at h5
theorem NS.upd {b : Nat} {w w' : World} {s : Value} {n : Nat} (h : NS w s n) (hu : Upd b w w') (hs : Slot w b) : NS w' s n := by
  obtain ⟨l, h1, h2⟩ := h; exact ⟨l, h1.upd hu hs, h2⟩
theorem BigAt.upd {b c : Nat} {w w' : World} {n : Int} (h : BigAt w c n) (hu : Upd b w w') (hs : Slot w b) (hne : c ≠ b) : BigAt w' c n := by
  obtain ⟨s, h1, h2⟩ := h
  exact ⟨s, by rw [hu.block c (lt_of_some h1) hne]; exact h1, h2.upd hu hs⟩
theorem cell_new_at (x : World) (C : Array Value) (t : TypeId) (z i : Nat) (hz : x.heap.size = z) : (x.alloc (.cells C t)).cell? ⟨z, i, none⟩ = C[i]? := by
  have h : (x.alloc (.cells C t)).heap[z]? = some (.cells C t) := by subst hz; show (x.heap.push _)[x.heap.size]? = _; simp
  simp only [World.cell?, h]; rfl
theorem frozen_new_at (x : World) (C : Array Value) (t : TypeId) (z i : Nat) (hz : x.heap.size = z) : (x.alloc (.cells C t)).frozen? ⟨z, i, none⟩ = false := by
  have h : (x.alloc (.cells C t)).heap[z]? = some (.cells C t) := by subst hz; show (x.heap.push _)[x.heap.size]? = _; simp
  simp only [World.frozen?, h]; simp
theorem cell_old_at (x : World) (o : Obj) (p : Addr) (h : p.block < x.heap.size) : (x.alloc o).cell? p = x.cell? p := ((Below.refl x.heap.size x).alloc (Nat.le_refl _) o).cell h
theorem frozen_old_at (x : World) (o : Obj) (p : Addr) (h : p.block < x.heap.size) : (x.alloc o).frozen? p = x.frozen? p := ((Below.refl x.heap.size x).alloc (Nat.le_refl _) o).frozen h
end Go.Proofs.YtnkjadpmigpneaaGreatDoor
end
