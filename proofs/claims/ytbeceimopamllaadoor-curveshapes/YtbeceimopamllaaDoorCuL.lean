/- Plain facts and memory for a curve's points: the Ys by their squares. -/
import Derived.Test.YtbeceimopamllaaDoorCuA
import Derived.Test.YtbeceimopamllaaDoorPrimeL
import Derived.Maps.AppendAt
import Derived.Deep.CutBlock
set_option linter.unusedSimpArgs false
set_option linter.unusedVariables false
set_option maxRecDepth 100000
namespace Go.Proofs.YtbeceimopamllaaDoor
open Go.RowKit EC

theorem Tryd.infoSl : (Tryd.prog.info? 64).map (fun i => (i.zero, i.size, i.bytes)) = some (some (.slice none 0 0), 1, 24) := by kernel_rfl
theorem Tryd.infoPt : (Tryd.prog.info? 30).map (fun i => (i.zero, i.size, i.bytes)) = some (some (.agg #[.int .i64 0, .int .i64 0, .bool false]), 3, 24) := by kernel_rfl

/-- The Ys up to y whose squares leave s. -/
def sqs (P s y : Nat) : List Int := ((List.range y).filter fun t => t * t % P == s).map fun t : Nat => (t : Int)
theorem sqs_succ (P s y : Nat) : sqs P s (y + 1) = sqs P s y ++ (if y * y % P = s then [(y : Int)] else []) := by
  unfold sqs
  rw [List.range_succ, List.filter_append, List.map_append]
  congr 1
  by_cases h : y * y % P = s
  · simp [h]
  · simp [h]
theorem sqs_len (P s y : Nat) : (sqs P s y).length ≤ y := by
  unfold sqs
  rw [List.length_map]
  exact Nat.le_trans (List.length_filter_le _ _) (by simp)
theorem sqs_mem {P s y : Nat} {t : Int} (h : t ∈ sqs P s y) : ∃ u : Nat, t = u ∧ u < y ∧ u * u % P = s := by
  unfold sqs at h
  obtain ⟨u, hu, rfl⟩ := List.mem_map.1 h
  obtain ⟨h1, h2⟩ := List.mem_filter.1 hu
  exact ⟨u, rfl, List.mem_range.1 h1, by simpa using h2⟩
theorem mem_sqs {P s y u : Nat} (h1 : u < y) (h2 : u * u % P = s) : (u : Int) ∈ sqs P s y :=
  List.mem_map.2 ⟨u, List.mem_filter.2 ⟨List.mem_range.2 h1, by simpa using h2⟩, rfl⟩

def vcl (P : Nat) (V : Nat → Value) : List Value := (List.range P).map V
theorem vcl_get {P : Nat} (V : Nat → Value) {i : Nat} (h : i < P) : (vcl P V)[i]? = some (V i) := by simp [vcl, h]
theorem vcl_set {P i : Nat} (V : Nat → Value) (v : Value) : (vcl P V).set i v = vcl P (fun j => if j = i then v else V j) := by
  apply List.ext_getElem?
  intro j
  rw [List.getElem?_set]
  by_cases hj : i = j
  · subst hj
    by_cases hk : i < P
    · simp [vcl, hk]
    · simp [vcl, hk]
  · rw [if_neg hj]
    by_cases hk : j < P
    · simp [vcl, hk, show j ≠ i from fun e => hj e.symm]
    · simp [vcl, hk]
theorem vcl_nil (P : Nat) : vcl P (fun _ => .slice none 0 0) = List.replicate P (.slice none 0 0) := by
  apply List.ext_getElem?
  intro i
  by_cases hi : i < P
  · simp [vcl, hi]
  · simp [vcl, hi]
theorem cl_of_mkS {w' : World} {b n : Nat} (h : w'.ownsRow b 64 1 (.slice (some ⟨b, 0, none⟩) n n) n (madeCells #[Value.slice none 0 0] n).toList) : Cl b (List.replicate n (.slice none 0 0)) 64 w' := by
  obtain ⟨h1, h2 | ⟨g, cap, cur, e1, e2, e3, e4, e5, e6, e7⟩⟩ := h
  · obtain ⟨h2, rfl⟩ := h2
    simp at h2
  · simp at e1
    obtain ⟨rfl, rfl⟩ := e1
    unfold Cl
    rw [e3]
    have : cur.toList = (madeCells #[Value.slice none 0 0] n).toList := by
      rw [← e7, List.take_of_length_le (by simp; omega)]
    have e8 : cur = madeCells #[Value.slice none 0 0] n := Array.toList_inj.1 this
    rw [e8]
    congr 2
    apply Array.ext
    · simp [madeCells]
    · intro i h1 h2
      simp [madeCells, Nat.mod_one]

/-- The rows of roots, each its own. -/
structure Rw (ob P y : Nat) (V : Nat → Value) (W : World) : Prop where
  o : Cl ob (vcl P V) 64 W
  r : ∀ s, s < P → W.ownsRow (ob + 1) 3 1 (V s) (sqs P s y).length (ints (sqs P s y))
  d : ∀ s t, s < P → t < P → s ≠ t → (V s).ownBlock = none ∨ (V s).ownBlock ≠ (V t).ownBlock

theorem row_sl {B e n size : Nat} {v : Value} {xs : List Value} {w : World} (h : w.ownsRow B e size v n xs) : ∃ aa cc, v = .slice aa n cc := by
  rcases h.2 with ⟨rfl, rfl⟩ | ⟨g, cap, cur, rfl, _⟩
  · exact ⟨_, _, rfl⟩
  · exact ⟨_, _, rfl⟩

theorem row_put {B e n size : Nat} {v : Value} {xs : List Value} {w : World} (h : w.ownsRow B e size v n xs) {p : Addr} (hp : p.block < B) (u : Value) : (w.setCell p u).ownsRow B e size v n xs := by
  refine ⟨h.1, ?_⟩
  rcases h.2 with h2 | ⟨g, cap, cur, h2, h3, h4, rest⟩
  · exact .inl h2
  · refine .inr ⟨g, cap, cur, h2, h3, ?_, rest⟩
    rw [Below.heap_setCell w p u g (by omega)]
    exact h4

theorem Rw.step {ob P y q : Nat} {V : Nat → Value} {W w6 : World} {v' : Value} (h : Rw ob P y V W) (hq : y * y % P = q) (hqP : q < P) {o : Obj}
    (hown : w6.ownsRow (ob + 1) 3 1 v' ((sqs P q y).length + 1) (ints (sqs P q y) ++ [.int .i64 (y : Int)]))
    (hg : (W.alloc o).grownBy w6 (V q).ownBlock) (hob : v'.ownBlock = (V q).ownBlock ∨ v'.ownBlock = some (W.heap.size + 1)) :
    Rw ob P (y + 1) (fun s => if s = q then v' else V s) (w6.setCell ⟨ob, q, none⟩ v') := by
  have hobne : ∀ g, (V q).ownBlock = some g → ob + 1 ≤ g ∧ g < W.heap.size := (h.r q hqP).lt
  refine ⟨?_, ?_, ?_⟩
  · have h1 := (h.o.alloc o).grown hg (fun e => by have := hobne _ e; omega)
    have h2 := h1.set q v'
    rw [vcl_set] at h2
    exact h2
  · intro s hs
    by_cases e : s = q
    · subst e
      rw [sqs_succ, if_pos hq]
      simp only [if_true]
      rw [List.length_append, show ints (sqs P s y ++ [(y : Int)]) = ints (sqs P s y) ++ [.int .i64 (y : Int)] by simp [ints]]
      exact row_put hown (by show ob < ob + 1; omega) _
    · rw [sqs_succ, if_neg (show ¬ y * y % P = s by omega), List.append_nil]
      simp only [if_neg e]
      refine row_put (((h.r s hs).alloc o).kept hg ?_) (by show ob < ob + 1; omega) _
      exact h.d s q hs hqP e
  · intro s t hs ht hst
    by_cases e : s = q
    · subst e
      simp only [if_true, if_neg (fun e => hst e.symm : ¬ t = s)]
      rcases hob with e1 | e1
      · rw [e1]; exact h.d s t hs ht hst
      · right
        rw [e1]
        intro e2
        have := (h.r t ht).lt _ e2.symm
        omega
    · simp only [if_neg e]
      by_cases e2 : t = q
      · subst e2
        simp only [if_true]
        rcases hob with e1 | e1
        · rw [e1]; exact h.d s t hs ht hst
        · right
          rw [e1]
          intro e3
          have := (h.r s hs).lt _ e3
          omega
      · simp only [if_neg e2]
        exact h.d s t hs ht hst

def pcl : List Pn → List Value
  | [] => []
  | q :: l => Pl q ++ pcl l
theorem pcl_append (l k : List Pn) : pcl (l ++ k) = pcl l ++ pcl k := by
  induction l with
  | nil => rfl
  | cons q l ih => rw [List.cons_append, pcl, pcl, ih, List.append_assoc]
theorem pcl_len (l : List Pn) : (pcl l).length = l.length * 3 := by
  induction l with
  | nil => rfl
  | cons q l ih => rw [pcl, List.length_append, ih, List.length_cons]; simp [Pl]; omega
theorem pcl_get : ∀ (l : List Pn) (i : Nat), i < l.length → (pcl l)[i * 3]? = some (.int .i64 (l.getD i farP).x) ∧ (pcl l)[i * 3 + 1]? = some (.int .i64 (l.getD i farP).y) ∧ (pcl l)[i * 3 + 2]? = some (.bool (l.getD i farP).far)
  | [], i, h => by simp at h
  | q :: l, 0, h => by simp [pcl, Pl]
  | q :: l, i + 1, h => by
    have := pcl_get l i (by simpa using h)
    rw [pcl, show (i + 1) * 3 = i * 3 + 3 by omega, show i * 3 + 3 + 1 = (i * 3 + 1) + 3 by omega, show i * 3 + 3 + 2 = (i * 3 + 2) + 3 by omega]
    have hl : (Pl q).length = 3 := rfl
    rw [List.getElem?_append_right (by omega), List.getElem?_append_right (by omega), List.getElem?_append_right (by omega), hl]
    simpa using this

/-- The points up to x. -/
def sqx (P : Nat) (a b : Int) (x : Nat) : Nat := ((x : Int) * x * x + a * x + b).toNat % P
def rowx (P : Nat) (a b : Int) (x : Nat) : List Pn := (sqs P (sqx P a b x) P).map fun y => ⟨x, y, false⟩
def pts (P : Nat) (a b : Int) : Nat → List Pn
  | 0 => [farP]
  | x + 1 => pts P a b x ++ rowx P a b x
theorem rowx_len (P : Nat) (a b : Int) (x : Nat) : (rowx P a b x).length ≤ P := by
  unfold rowx; rw [List.length_map]; exact sqs_len _ _ _
theorem pts_len (P : Nat) (a b : Int) : ∀ x, (pts P a b x).length ≤ 1 + x * P
  | 0 => by simp [pts]
  | x + 1 => by
    rw [pts, List.length_append]
    have h1 := pts_len P a b x
    have h2 := rowx_len P a b x
    rw [Nat.succ_mul]
    omega

end Go.Proofs.YtbeceimopamllaaDoor
