/- Markov: what stands in memory while the tree is gone through; slices.Sort of three. -/
import Derived.Test.YtcbepaionliepaaMkA
import Derived.Test.YtcbepaionliepaaShelf
import Derived.Sort.OwnSortedInts
import Derived.Laws.EntriesVeiled
set_option linter.unusedSimpArgs false
set_option linter.unusedVariables false
set_option maxRecDepth 100000
namespace Go.Proofs.Ytcbepaionliepaa
open Go.RowKit Go.Maps Go.Sort

theorem mrow_ty {B e n size g : Nat} {v : Value} {xs : List Value} {w : World} (h : w.ownsRow B e size v n xs) (hv : v.ownBlock = some g) : ∃ c, w.heap[g]? = some (.cells c e (0, 0)) := by
  rcases h.2 with ⟨h2, _⟩ | ⟨g', cap, cur, h2, h3, h4, _⟩
  · rw [h2] at hv; simp [Value.ownBlock] at hv
  · rw [h2] at hv
    simp [Value.ownBlock] at hv
    subst hv
    exact ⟨cur, h4⟩
theorem mrow_ne {B e n size b t : Nat} {v : Value} {xs c : List Value} {w : World} (h : w.ownsRow B e size v n xs) (hc : Cl b c t w) (ht : t ≠ e) : v.ownBlock ≠ some b := by
  intro hv
  obtain ⟨c', h'⟩ := mrow_ty h hv
  unfold Cl at hc
  rw [hc] at h'
  injection h' with h'
  injection h' with _ h2
  exact ht h2
theorem mrow_kept {B e n size : Nat} {v : Value} {xs : List Value} {w w' : World} (h : w.ownsRow B e size v n xs) (k : ∀ g, v.ownBlock = some g → w'.heap[g]? = w.heap[g]?) : w'.ownsRow B e size v n xs := by
  refine ⟨h.1, ?_⟩
  rcases h.2 with h2 | ⟨g, cap, cur, h2, h3, h4, rest⟩
  · exact .inl h2
  · exact .inr ⟨g, cap, cur, h2, h3, (k g (by rw [h2]; rfl)).trans h4, rest⟩
theorem mmap_kept {b n : Nat} {E : DataW Unit} {w w' : World} (h : w.ownsMap Try.prog 42 (unitElem (H := Unit)) b n E) (e : w'.heap[b]? = w.heap[b]?) : w'.ownsMap Try.prog 42 (unitElem (H := Unit)) b n E := by
  obtain ⟨es, clock, hb, r⟩ := h
  exact ⟨es, clock, e.trans hb, r⟩
theorem mmap_ty {b n : Nat} {E : DataW Unit} {w : World} (h : w.ownsMap Try.prog 42 (unitElem (H := Unit)) b n E) : ∃ es clock, w.heap[b]? = some (.map es clock) := by
  obtain ⟨es, clock, hb, r⟩ := h
  exact ⟨es, clock, hb⟩

def caps (bs bl bm bv : Nat) : Array Value := #[.pointer (some ⟨bs, 0, none⟩), .pointer (some ⟨bl, 0, none⟩), .pointer (some ⟨bm, 0, none⟩), .pointer (some ⟨bv, 0, none⟩)]
/-- What stands while the tree is gone through: S has been visited; rb is the block of the list's row. -/
structure Mv (bs bl bm bv bM most : Nat) (S : List T3) (rb : Option Nat) (W : World) : Prop where
  s : Cl bs [.map (some bM)] 78 W
  m : Cl bm [.int .i64 (most : Int)] 3 W
  v : Cl bv [.func (.func 47) #[] (caps bs bl bm bv)] 79 W
  map : ∃ (E : DataW Unit) (n : Nat), W.ownsMap Try.prog 42 (unitElem (H := Unit)) bM n E ∧ n ≤ S.length ∧ Hs3 E S
  l : ∃ aa cc, Cl bl [.slice aa S.length cc] 36 W ∧ W.ownsRow (bl + 1) 42 3 (.slice aa S.length cc) S.length (tcl3 S) ∧ rb = (Value.slice aa S.length cc).ownBlock
  vs : MV.Vs most S

/-- What stays: all but the list's variable, its row and the set. -/
structure Fr (bl bM : Nat) (rb : Option Nat) (W W' : World) : Prop where
  os : W'.os = W.os
  tape : W'.tape = W.tape
  output : W'.output = W.output
  size : W.heap.size ≤ W'.heap.size
  block : ∀ b, b < W.heap.size → b ≠ bl → b ≠ bM → rb ≠ some b → W'.heap[b]? = W.heap[b]?
/-- The row stays, or is new. -/
def Nr (rb rb' : Option Nat) (W : World) : Prop := rb' = rb ∨ ∃ g, rb' = some g ∧ W.heap.size ≤ g
theorem Fr.below {bl bM : Nat} {rb : Option Nat} {W W' : World} (k : Below W.heap.size W W') : Fr bl bM rb W W' := ⟨k.os, k.tape, k.output, k.size, fun b hb _ _ _ => k.block b hb⟩
theorem Fr.trans {bl bM : Nat} {rb rb1 : Option Nat} {A B C : World} (h : Fr bl bM rb A B) (n : Nr rb rb1 A) (k : Fr bl bM rb1 B C) : Fr bl bM rb A C :=
  ⟨k.os.trans h.os, k.tape.trans h.tape, k.output.trans h.output, Nat.le_trans h.size k.size, fun b hb h1 h2 h3 => by
    refine (k.block b (Nat.lt_of_lt_of_le hb h.size) h1 h2 ?_).trans (h.block b hb h1 h2 h3)
    rcases n with rfl | ⟨g, rfl, hg⟩
    · exact h3
    · intro e; injection e with e; omega⟩
theorem Nr.trans {bl bM : Nat} {rb rb1 rb2 : Option Nat} {A B : World} (h : Fr bl bM rb A B) (n : Nr rb rb1 A) (k : Nr rb1 rb2 B) : Nr rb rb2 A := by
  rcases k with rfl | ⟨g, rfl, hg⟩
  · exact n
  · exact .inr ⟨g, rfl, Nat.le_trans h.size hg⟩
theorem Fr.cl {bl bM b t : Nat} {rb : Option Nat} {c : List Value} {W W' : World} (k : Fr bl bM rb W W') (h : Cl b c t W) (h1 : b ≠ bl) (h2 : b ≠ bM) (h3 : rb ≠ some b) : Cl b c t W' := (k.block b h.lt h1 h2 h3).trans h

theorem Mv.row {bs bl bm bv bM most : Nat} {S : List T3} {rb : Option Nat} {W : World} (h : Mv bs bl bm bv bM most S rb W) : ∀ g, rb = some g → bl < g ∧ g < W.heap.size := fun g e => by
  obtain ⟨aa, cc, h1, h2, h3⟩ := h.l
  have := h2.lt g (h3 ▸ e)
  exact ⟨by omega, by omega⟩
theorem Mv.keep {bs bl bm bv bM most : Nat} {S : List T3} {rb : Option Nat} {W W' : World} (h : Mv bs bl bm bv bM most S rb W) (e : ∀ b, b < W.heap.size → W'.heap[b]? = W.heap[b]?) : Mv bs bl bm bv bM most S rb W' := by
  obtain ⟨s, m, v, ⟨E, n, m1, m2, m3⟩, ⟨aa, cc, l1, l2, l3⟩, vs⟩ := h
  refine ⟨(e _ s.lt).trans s, (e _ m.lt).trans m, (e _ v.lt).trans v, ⟨E, n, mmap_kept m1 (e _ m1.lt), m2, m3⟩, ⟨aa, cc, (e _ l1.lt).trans l1, mrow_kept l2 (fun g hg => e g ?_), l3⟩, vs⟩
  obtain ⟨c, hc⟩ := mrow_ty l2 hg
  exact (Array.getElem?_eq_some_iff.1 hc).1
theorem Mv.below {bs bl bm bv bM most : Nat} {S : List T3} {rb : Option Nat} {W W' : World} (h : Mv bs bl bm bv bM most S rb W) (k : Below W.heap.size W W') : Mv bs bl bm bv bM most S rb W' := h.keep k.block
/-- A block of triples that is neither the row's nor the list's may be written. -/
theorem Mv.other {bs bl bm bv bM most b : Nat} {S : List T3} {rb : Option Nat} {W W' : World} (h : Mv bs bl bm bv bM most S rb W) {c : List Value} (hb : Cl b c 42 W) (hr : rb ≠ some b) (e : ∀ k, k < W.heap.size → k ≠ b → W'.heap[k]? = W.heap[k]?) : Mv bs bl bm bv bM most S rb W' := by
  obtain ⟨s, m, v, ⟨E, n, m1, m2, m3⟩, ⟨aa, cc, l1, l2, l3⟩, vs⟩ := h
  have ne : ∀ {k t : Nat} {d : List Value}, Cl k d t W → t ≠ 42 → k ≠ b := fun {k t d} hk ht ek => by
    subst ek
    unfold Cl at hk hb
    rw [hk] at hb
    injection hb with hb
    injection hb with _ h2
    exact ht h2
  refine ⟨(e _ s.lt (ne s (by decide))).trans s, (e _ m.lt (ne m (by decide))).trans m, (e _ v.lt (ne v (by decide))).trans v, ⟨E, n, mmap_kept m1 (e _ m1.lt ?_), m2, m3⟩, ⟨aa, cc, (e _ l1.lt (ne l1 (by decide))).trans l1, mrow_kept l2 (fun g hg => e g ?_ ?_), l3⟩, vs⟩
  · intro ek
    obtain ⟨es, ck, hm⟩ := mmap_ty m1
    unfold Cl at hb
    rw [ek, hb] at hm
    cases hm
  · obtain ⟨c, hc⟩ := mrow_ty l2 hg
    exact (Array.getElem?_eq_some_iff.1 hc).1
  · rintro rfl
    exact hr (l3.trans hg)
/-- Apart: the list's variable, the set and a triple's box. -/
theorem Mv.ne {bs bl bm bv bM most b : Nat} {S : List T3} {rb : Option Nat} {W : World} (h : Mv bs bl bm bv bM most S rb W) {c : List Value} (hb : Cl b c 42 W) : b ≠ bl ∧ b ≠ bM := by
  obtain ⟨s, m, v, ⟨E, n, m1, m2, m3⟩, ⟨aa, cc, l1, l2, l3⟩, vs⟩ := h
  refine ⟨?_, ?_⟩
  · rintro rfl
    unfold Cl at hb l1
    rw [hb] at l1
    injection l1 with l1
    injection l1 with _ h2
    exact absurd h2 (by decide)
  · rintro rfl
    obtain ⟨es, ck, hm⟩ := mmap_ty m1
    unfold Cl at hb
    rw [hb] at hm
    cases hm

theorem srt_sorted (a b c : Nat) : ([(a : Int), (b : Int), (c : Int)].mergeSort fun x y => decide (x ≤ y)) = [((MV.srt a b c).1 : Int), ((MV.srt a b c).2.1 : Int), ((MV.srt a b c).2.2 : Int)] := by
  obtain ⟨p, s1, s2⟩ := MV.srt_perm a b c
  have p' : [((MV.srt a b c).1 : Int), ((MV.srt a b c).2.1 : Int), ((MV.srt a b c).2.2 : Int)].Perm [(a : Int), (b : Int), (c : Int)] := p.map (fun n : Nat => (n : Int))
  refine List.Perm.eq_of_pairwise (le := fun x y : Int => x ≤ y) ?_ ?_ ?_ ((List.mergeSort_perm _ _).trans p'.symm)
  · intro x y _ _ h1 h2; omega
  · have h1 : ([(a : Int), (b : Int), (c : Int)].mergeSort fun x y => decide (x ≤ y)).Pairwise (fun x y => decide (x ≤ y) = true) := List.pairwise_mergeSort (fun a b c h1 h2 => by simp only [decide_eq_true_eq] at *; omega) (fun a b => by simp only [Bool.or_eq_true, decide_eq_true_eq]; omega) _
    exact h1.imp (fun h => of_decide_eq_true h)
  · simp
    omega
theorem sort3_any (a b c : Nat) (g : Nat) (w : World) (h : Cl g (tl3 (a, b, c)) 42 w) :
    Calls Try.prog 63 #[.slice (some ⟨g, 0, none⟩) 3 3] w fun e w' => (∃ v, e = .returned v) ∧ Cl g (tl3 (MV.srt a b c)) 42 w' ∧ w.grownBy w' (some g) := by
  have hH : Holds (Value.int .i64) w g 0 [(a : Int), (b : Int), (c : Int)].toArray := holds_of_blockI (cur := (tl3 (a, b, c)).toArray) h rfl
  refine (Try.slices_Sort_int g 0 3 [(a : Int), (b : Int), (c : Int)] w hH h.lt (by simp)).mono ?_
  rintro e w' ⟨rfl, n, os, rfl⟩
  rw [srt_sorted]
  refine ⟨⟨_, rfl⟩, ?_, grownBy_sortedI _⟩
  unfold Cl
  rw [heap_sortedI _ h]
  congr 2

end Go.Proofs.Ytcbepaionliepaa
