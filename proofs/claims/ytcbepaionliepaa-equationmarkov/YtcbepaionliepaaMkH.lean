/- Markov: triples compared; the reference's Threes, the law's ahead. -/
import Derived.Test.YtcbepaionliepaaMkG
import Derived.DeepKeys
set_option linter.unusedSimpArgs false
set_option linter.unusedVariables false
set_option maxRecDepth 100000
namespace Go.Proofs.Ytcbepaionliepaa
open Go.RowKit Go.WideMaps

theorem eqk3 : EqAt Try.prog (9998 + 2) 42 := run_equalIn_deep 9998 2 42 (by kernel_rfl)
theorem lits3 (D : Nat) {a b c : Int} (wa : (Lit.int .i64 a).wf = true) (wb : (Lit.int .i64 b).wf = true) (wc : (Lit.int .i64 c).wf = true) : Try.prog.keyLits (D + 2) 42 [.int .i64 a, .int .i64 b, .int .i64 c] = some [.int .i64 a, .int .i64 b, .int .i64 c] := by
  have A := Try.arr3
  have he := Try.underlying3
  unfold Program.keyLits
  simp only [A.hu]
  rw [if_pos (by rw [A.size]; rfl), show List.range 3 = [0, 1, 2] from rfl, List.mapM_cons, List.mapM_cons, List.mapM_cons, List.mapM_nil]
  simp [A.one, Program.keyLits, he, wa, wb, wc]
theorem form3 (t : T3) : (tv3 t).formed Try.prog 42 = true := by
  have A := Try.arr3
  simp [Value.formed, A.hu, A.size]
/-- Two triples are compared. -/
theorem eq3 {t u : T3} (ht : Fit3 t) (hu : Fit3 u) (w : World) : (Op.equalIn 10000 42 (tv3 t) (tv3 u)).run Try.prog w = .ok (decide (t = u)) w := by
  obtain ⟨r, h1, h2⟩ := eqk3 w 2 2 (tv3 t) (tv3 u) _ _ (form3 t) (form3 u) (lits3 0 (wf18 ht.x) (wf18 ht.y) (wf18 ht.z)) (lits3 0 (wf18 hu.x) (wf18 hu.y) (wf18 hu.z))
  have e : r = decide (t = u) := by
    rw [Bool.eq_iff_iff, h2, decide_eq_true_eq]
    constructor
    · intro h
      obtain ⟨a, b, c⟩ := t
      obtain ⟨d, e, f⟩ := u
      simp at h
      obtain ⟨h1, h2, h3⟩ := h
      have a1 : a = d := by omega
      have a2 : b = e := by omega
      have a3 : c = f := by omega
      rw [a1, a2, a3]
    · rintro rfl; rfl
  rw [← e]
  exact h1

theorem TR.at3 {B : Nat} {w : World} {v : Value} {l : List T3} {g : Nat} (hc : ∀ j, j < l.length * 3 → w.cell? ⟨g, j, none⟩ = (tcl3 l)[j]?) {i : Nat} (hi : i < l.length) : w.cell? ⟨g, i * 3, none⟩ = some (.int .i64 ((l[i]'hi).1 : Int)) ∧ w.cell? ⟨g, i * 3 + 1, none⟩ = some (.int .i64 ((l[i]'hi).2.1 : Int)) ∧ w.cell? ⟨g, i * 3 + 2, none⟩ = some (.int .i64 ((l[i]'hi).2.2 : Int)) := by
  have e : l[i]! = l[i]'hi := getElem!_pos l i hi
  refine ⟨?_, ?_, ?_⟩
  · rw [hc _ (by omega), tcl3_get l (by omega), show i * 3 / 3 = i by omega, show i * 3 % 3 = 0 by omega, e]; rfl
  · rw [hc _ (by omega), tcl3_get l (by omega), show (i * 3 + 1) / 3 = i by omega, show (i * 3 + 1) % 3 = 1 by omega, e]; rfl
  · rw [hc _ (by omega), tcl3_get l (by omega), show (i * 3 + 2) / 3 = i by omega, show (i * 3 + 2) % 3 = 2 by omega, e]; rfl

set_option maxRecDepth 100000 in
set_option maxHeartbeats 4000000 in
/-- Two rows that hold one list. -/
theorem Threes_same {B B' : Nat} {v v' : Value} {l : List T3} (w : World) (h : TR B w v l) (h' : TR B' w v' l) (hf : ∀ t ∈ l, Fit3 t) (hl : l.length ≤ 1000) :
    Calls Try.prog 16 #[v, v'] w fun e w' => e = .returned (.bool true) ∧ ∃ q, w' = w.drewN q := by
  obtain ⟨aa, g, cc, rfl, p1, c1⟩ := h.shape
  obtain ⟨ab, g', cd, rfl, p2, c2⟩ := h'.shape
  have HC : Hid ((0 < l.length → aa = some ⟨g, 0, none⟩ ∧ ab = some ⟨g', 0, none⟩) ∧ ∀ (q i : Nat) (hi : i < l.length), (w.drewN q).cell? ⟨g, i * 3, none⟩ = some (.int .i64 ((l[i]'hi).1 : Int)) ∧ (w.drewN q).cell? ⟨g, i * 3 + 1, none⟩ = some (.int .i64 ((l[i]'hi).2.1 : Int)) ∧ (w.drewN q).cell? ⟨g, i * 3 + 2, none⟩ = some (.int .i64 ((l[i]'hi).2.2 : Int)) ∧ (w.drewN q).cell? ⟨g', i * 3, none⟩ = some (.int .i64 ((l[i]'hi).1 : Int)) ∧ (w.drewN q).cell? ⟨g', i * 3 + 1, none⟩ = some (.int .i64 ((l[i]'hi).2.1 : Int)) ∧ (w.drewN q).cell? ⟨g', i * 3 + 2, none⟩ = some (.int .i64 ((l[i]'hi).2.2 : Int))) := by
    refine ⟨fun h0 => ⟨(p1 h0).1, (p2 h0).1⟩, fun q i hi => ?_⟩
    have a := TR.at3 (B := 0) (v := undef) c1 hi
    have b := TR.at3 (B := 0) (v := undef) c2 hi
    exact ⟨a.1, a.2.1, a.2.2, b.1, b.2.1, b.2.2⟩
  have HQ : Hid (∀ (i : Nat) (hi : i < l.length) (w : World), (Op.equalIn 10000 42 (.agg #[.int .i64 ((l[i]'hi).1 : Int), .int .i64 ((l[i]'hi).2.1 : Int), .int .i64 ((l[i]'hi).2.2 : Int)]) (.agg #[.int .i64 ((l[i]'hi).1 : Int), .int .i64 ((l[i]'hi).2.1 : Int), .int .i64 ((l[i]'hi).2.2 : Int)])).run Try.prog w = .ok true w) := fun i hi w => by
    have := eq3 (hf _ (List.getElem_mem hi)) (hf _ (List.getElem_mem hi)) w
    rw [decide_eq_true rfl] at this
    exact this
  clear h h' p1 p2 c1 c2 hf
  obtain ⟨N, hN⟩ : ∃ N, N = l.length := ⟨_, rfl⟩
  have HNn : Hid (N = l.length) := hN
  rw [← hN] at hl
  rw [← hN]
  clear hN
  go_enter Try.func16, Try.ntmps16
  go_wp2
  go_loopg [5] N (fun gk iv wx => ∃ i q : Nat, iv = .int .i64 i ∧ Hid (gk = N - i ∧ i ≤ N ∧ wx = w.drewN q))
  case atStart => exact ⟨0, 0, rfl, rfl, by omega, rfl⟩
  case round =>
    obtain ⟨i, q, rfl, HR⟩ := hrel
    obtain ⟨h1, h2, h3⟩ := HR.out
    have HK : Hid (gk = N - i) := h1
    have HW : Hid (wr = w.drewN q) := h3
    clear HR h1
    by_cases hi : i < N
    · have ti : decide ((i : Int) < (N : Int)) = true := decide_eq_true (by omega)
      have hil : i < l.length := by have := HNn.out; omega
      obtain ⟨ea, eb⟩ := HC.out.1 (by omega)
      subst ea eb
      obtain ⟨a0, a1, a2, b0, b1, b2⟩ := HC.out.2 q i hil
      rw [← h3] at a0 a1 a2 b0 b1 b2
      have heq := HQ.out i hil
      obtain ⟨t, ht⟩ : ∃ t, t = l[i]'hil := ⟨_, rfl⟩
      rw [← ht] at a0 a1 a2 b0 b1 b2 heq
      clear ht h3
      go_wp2
      go_region
      go_wp2
      go_roundg (N - (i + 1))
      case rel => exact ⟨i + 1, q + 1, by go_num, rfl, by omega, by rw [HW.out]; rfl⟩
      case measure => have := HK.out; omega
    · have ti : decide ((i : Int) < (N : Int)) = false := decide_eq_false (by omega)
      clear h3
      go_wp2
      go_ret
      exact ⟨rfl, q, HW.out⟩

set_option maxRecDepth 100000 in
set_option maxHeartbeats 4000000 in
theorem ahead_lt (t u : T3) (w : World) (h : MV.tz t < MV.tz u) :
    Calls Try.prog 19 #[tv3 t, tv3 u] w fun e w' => e = .returned (.bool true) ∧ Below w.heap.size w w' := by
  unfold tv3
  unfold MV.tz at h
  obtain ⟨x, y, z⟩ := t
  obtain ⟨x', y', z'⟩ := u
  simp only [] at h ⊢
  obtain ⟨W1, hW1⟩ : ∃ W1, W1 = (w.alloc (.cells #[.int .i64 (x : Int), .int .i64 (y : Int), .int .i64 (z : Int)] 42)).alloc (.cells #[.int .i64 (x' : Int), .int .i64 (y' : Int), .int .i64 (z' : Int)] 42) := ⟨_, rfl⟩
  have HW : Hid (W1.cell? ⟨w.heap.size, 2, none⟩ = some (.int .i64 (z : Int)) ∧ W1.cell? ⟨w.heap.size + 1, 2, none⟩ = some (.int .i64 (z' : Int)) ∧ Below w.heap.size w W1) := by
    rw [hW1]
    refine ⟨((Cl.new [.int .i64 (x : Int), .int .i64 (y : Int), .int .i64 (z : Int)] 42 w).alloc _).cell 2, ?_, Below.alloc (Below.alloc (Below.refl _ _) (Nat.le_refl _) _) (by simp) _⟩
    have := Cl.new [.int .i64 (x' : Int), .int .i64 (y' : Int), .int .i64 (z' : Int)] 42 (w.alloc (.cells #[.int .i64 (x : Int), .int .i64 (y : Int), .int .i64 (z : Int)] 42))
    rw [World.size_alloc] at this
    exact this.cell 2
  have t1 : ((z : Int) != (z' : Int)) = true := bne_iff_ne.2 (by omega)
  have t2 : decide ((z : Int) < (z' : Int)) = true := decide_eq_true (by omega)
  go_enter Try.func19, Try.ntmps19
  go_wp2
  rw [← hW1]
  clear hW1
  go_loopg [5] 0 (fun gk iv wx => iv = .int .i64 2 ∧ Hid (wx = W1))
  case atStart => exact ⟨rfl, rfl⟩
  case round =>
    obtain ⟨rfl, HR⟩ := hrel
    have hw := HR.out
    rw [hw]
    clear hw HR
    obtain ⟨a0, a1, a2⟩ := HW.out
    have HB : Hid (Below w.heap.size w W1) := a2
    clear a2
    go_wp2
    go_region
    go_wp2
    obtain ⟨wq, hwq⟩ : ∃ wq, wq = W1.drew := ⟨_, rfl⟩
    have b0 : wq.cell? ⟨w.heap.size, 2, none⟩ = some (.int .i64 (z : Int)) := by rw [hwq]; exact a0
    have b1 : wq.cell? ⟨w.heap.size + 1, 2, none⟩ = some (.int .i64 (z' : Int)) := by rw [hwq]; exact a1
    have HB2 : Hid (Below w.heap.size w wq) := by show Below _ _ _; rw [hwq]; exact Below.drew HB.out
    rw [← hwq]
    clear hwq a0 a1
    go_region
    go_wp2
    go_ret
    exact ⟨rfl, Below.drew HB2.out⟩

end Go.Proofs.Ytcbepaionliepaa
