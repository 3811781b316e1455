import Derived.Test.YtnkjadpmigpneaaGreatDoorBigA
import Derived.Test.YtnkjadpmigpneaaGreatDoorJpE
import Derived.Test.YtnkjadpmigpneaaGreatDoorPrimeL
import Derived.Test.YtnkjadpmigpneaaGreatDoorJpL
import Derived.Test.YtnkjadpmigpneaaGreatDoorRegionG
import Derived.Maps.AppendAt
section
set_option linter.unusedSimpArgs false
set_option linter.unusedVariables false
set_option maxRecDepth 100000
namespace Go.Proofs.YtnkjadpmigpneaaGreatDoor
open Go.RowKit
def Row (w : World) (g : Nat) (R : List Nat) : Prop := w.heap[g]? = some (.cells (R.map (fun x : Nat => Value.int .u32 (x : Int))).toArray 106 (0, 0))
theorem Row.cell {w : World} {g : Nat} {R : List Nat} (h : Row w g R) (i : Nat) (hi : i < R.length) : w.cell? ⟨g, i, none⟩ = some (.int .u32 (R.getD i 0 : Int)) := by
  unfold Row at h
  simp [World.cell?, h, hi]
theorem Row.frozen {w : World} {g : Nat} {R : List Nat} (h : Row w g R) (i : Nat) : w.frozen? ⟨g, i, none⟩ = false := by
  unfold Row at h
  simp [World.frozen?, h]
theorem Row.set {w : World} {g : Nat} {R : List Nat} (h : Row w g R) (i : Nat) (y : Int) (x : Nat) (e : y = x) : Row (w.setCell ⟨g, i, none⟩ (.int .u32 y)) g (R.set i x) := by
  subst e
  unfold Row at h ⊢
  simp [World.setCell, Array.getElem?_modify, h, List.map_set]
theorem Row.sl {w : World} {g : Nat} {R : List Nat} (h : Row w g R) (hs : ∀ x ∈ R, x < 4294967296) : Sl w (.slice (some ⟨g, 0, none⟩) R.length R.length) R := by
  refine ⟨hs, Or.inr ⟨g, _, _, rfl, Nat.le_refl _, h, fun i hi => ?_⟩⟩
  simp [hi]
theorem Row.drewN {w : World} {g n : Nat} {R : List Nat} (h : Row w g R) : Row (w.drewN n) g R := h
theorem Row.of_make {w w' : World} {n : Nat} (h : w'.ownsRow w.heap.size 106 1 (.slice (some ⟨w.heap.size, 0, none⟩) n n) n (madeCells #[Value.int .u32 0] n).toList) : Row w' w.heap.size (List.replicate n 0) := by
  obtain ⟨h1, h2 | ⟨g, cap, cur, e1, e2, e3, e4, e5, e6, e7⟩⟩ := h
  · obtain ⟨h2, rfl⟩ := h2
    simp at h2
  · simp at e1
    obtain ⟨rfl, rfl⟩ := e1
    unfold Row
    rw [e3]
    have : cur.toList = (madeCells #[Value.int .u32 0] n).toList := by
      rw [← e7, List.take_of_length_le (by simp; omega)]
    have e8 : cur = madeCells #[Value.int .u32 0] n := Array.toList_inj.1 this
    rw [e8]
    congr 2
    apply Array.ext
    · simp [madeCells]
    · intro i h1 h2
      simp [madeCells, Nat.mod_one]
def cmpN (a b : Nat) : Int := if a < b then -1 else if b < a then 1 else 0
theorem val_split (l : List Nat) (k : Nat) (hk : k < l.length) : val l = val (l.take k) + pw k * (l.getD k 0 + 4294967296 * val (l.drop (k + 1))) := by
  have e : l = l.take k ++ (l.getD k 0 :: l.drop (k + 1)) := by
    rw [List.getD_eq_getElem?_getD, List.getElem?_eq_getElem hk, Option.getD_some, ← List.drop_eq_getElem_cons hk, List.take_append_drop]
  have h := val_append (l.take k) (l.getD k 0 :: l.drop (k + 1))
  rw [← e, List.length_take, Nat.min_eq_left (by omega)] at h
  rw [h]; rfl
theorem take_lt (l : List Nat) (k : Nat) (hk : k ≤ l.length) (h : ∀ x ∈ l, x < 4294967296) : val (l.take k) < pw k := by
  have := val_lt (l.take k) (fun x hx => h x (List.mem_of_mem_take hx))
  rwa [List.length_take, Nat.min_eq_left hk] at this
theorem drop_same (a b : List Nat) (k : Nat) (hl : a.length = b.length) (h : ∀ j, k ≤ j → j < a.length → a.getD j 0 = b.getD j 0) : a.drop k = b.drop k := by
  apply List.ext_getElem
  · simp [hl]
  · intro i h1 h2
    simp at h1 h2
    have := h (k + i) (by omega) (by omega)
    rw [List.getD_eq_getElem?_getD, List.getElem?_eq_getElem (by omega), List.getD_eq_getElem?_getD, List.getElem?_eq_getElem (by omega)] at this
    simpa using this
theorem val_lt_of (a b : List Nat) (k : Nat) (hk : k < a.length) (hl : a.length = b.length) (ha : ∀ x ∈ a, x < 4294967296)
    (h : ∀ j, k + 1 ≤ j → j < a.length → a.getD j 0 = b.getD j 0) (hlt : a.getD k 0 < b.getD k 0) : val a < val b := by
  rw [val_split a k hk, val_split b k (by omega), drop_same a b (k + 1) hl h]
  have h1 := take_lt a k (by omega) ha
  have h2 : pw k * (a.getD k 0 + 4294967296 * val (b.drop (k + 1)) + 1) ≤ pw k * (b.getD k 0 + 4294967296 * val (b.drop (k + 1))) := Nat.mul_le_mul_left _ (by omega)
  rw [Nat.mul_add, Nat.mul_one] at h2
  omega
theorem val_len_lt (a b : List Nat) (ha : ∀ x ∈ a, x < 4294967296) (hb : Nm b) (h : a.length < b.length) : val a < val b := by
  have h1 := val_lt a ha
  rcases hb with hb | hb
  · subst hb; simp at h
  · have := pw_le (show a.length ≤ b.length - 1 by omega); omega
theorem cmpN_lt {a b : Nat} (h : a < b) : cmpN a b = -1 := by simp [cmpN, h]
theorem cmpN_gt {a b : Nat} (h : b < a) : cmpN a b = 1 := by simp [cmpN]; omega
theorem cmpN_eq {a b : Nat} (h : a = b) : cmpN a b = 0 := by simp [cmpN, h]
theorem NS.open {w : World} {s : Value} {n : Nat} (h : NS w s n) : ∃ (l : List Nat) (aa : Option Addr) (g cap : Nat), s = .slice aa l.length cap ∧ val l = n ∧ Nm l ∧ (∀ x ∈ l, x < 4294967296) ∧ (0 < l.length → aa = some ⟨g, 0, none⟩) ∧
    (∀ i, i < l.length → w.cell? ⟨g, i, none⟩ = some (.int .u32 (l.getD i 0 : Int))) ∧ l.length ≤ cap ∧ (0 < l.length → g < w.heap.size) := by
  obtain ⟨l, h1, h2, h3⟩ := h
  rcases h1.shape with ⟨rfl, rfl⟩ | ⟨g, cap, C, rfl, k2, k3, k4⟩
  · exact ⟨[], none, 0, 0, rfl, h2, h3, by simp, by simp, by simp, by simp, by simp⟩
  · refine ⟨l, _, g, cap, rfl, h2, h3, h1.small, fun _ => rfl, fun i hi => ?_, k2, fun _ => lt_of_some k3⟩
    simp only [World.cell?, k3]; exact k4 i hi
theorem drewN_more {w wr : World} (h : ∃ q, wr = w.drewN q) (n : Nat) : ∃ q, wr.drewN n = w.drewN q := by
  obtain ⟨q, rfl⟩ := h
  exact ⟨q + n, World.drewN_drewN ..⟩
set_option maxHeartbeats 1000000 in
theorem cmp_any (s t : Value) (a b m n : Nat) (w : World) (ha : NS w s a) (hb : NS w t b) (hm : a < pw m) (hn : b < pw n) (hm' : m ≤ 100000000) (hn' : n ≤ 100000000) :
    Calls Tryz.prog 57 #[s, t] w fun e w' => e = .returned (.int .i64 (cmpN a b)) ∧ ∃ q, w' = w.drewN q := by
  obtain ⟨la, aa, ga, ca, rfl, va, na, sa, pa, cella, _, _⟩ := ha.open
  obtain ⟨lb, ab, gb, cb, rfl, vb, nb, sb, pb, cellb, _, _⟩ := hb.open
  subst va vb
  have l1 : la.length ≤ 100000000 := Nat.le_trans (na.len hm) hm'
  have l2 : lb.length ≤ 100000000 := Nat.le_trans (nb.len hn) hn'
  have NA : Hid (Nm la) := na
  have NB : Hid (Nm lb) := nb
  have SA : Hid (∀ x ∈ la, x < 4294967296) := sa
  have SB : Hid (∀ x ∈ lb, x < 4294967296) := sb
  have CA : Hid (∀ i, i < la.length → w.cell? ⟨ga, i, none⟩ = some (.int .u32 (la.getD i 0 : Int))) := cella
  have CB : Hid (∀ i, i < lb.length → w.cell? ⟨gb, i, none⟩ = some (.int .u32 (lb.getD i 0 : Int))) := cellb
  have PA : Hid (0 < la.length → aa = some ⟨ga, 0, none⟩) := pa
  have PB : Hid (0 < lb.length → ab = some ⟨gb, 0, none⟩) := pb
  clear na nb sa sb cella cellb pa pb ha hb hm hn
  rcases Nat.lt_trichotomy la.length lb.length with h | h | h
  · have h0 : ((la.length : Int) != (lb.length : Int)) = true := by rw [bne_iff_ne]; omega
    go_enter Tryz.func57, Tryz.ntmps57
    go_wp2
    go_ret
    exact ⟨ret_int (cmpN_lt (val_len_lt la lb SA.out NB.out h)).symm, 0, rfl⟩
  · have h0 : ((la.length : Int) != (lb.length : Int)) = false := by simp; omega
    have HL : Hid (la.length = lb.length) := h
    have hle1 : la.length ≤ lb.length := by omega
    have hle2 : lb.length ≤ la.length := by omega
    clear h
    go_enter Tryz.func57, Tryz.ntmps57
    go_wp2
    go_loopw [5] (fun i wr => ∃ k : Nat, k ≤ la.length ∧ i = .int .i64 ((k : Int) - 1) ∧ (∀ j, k ≤ j → j < la.length → la.getD j 0 = lb.getD j 0) ∧ ∃ q, wr = w.drewN q) (fun i _ => (intOf i + 1).toNat)
    case atStart => exact ⟨la.length, Nat.le_refl _, rfl, fun j h1 h2 => by omega, 0, rfl⟩
    case round =>
      obtain ⟨k, hk, rfl, hs, hw⟩ := hrel
      have HS : Hid (∀ j, k ≤ j → j < la.length → la.getD j 0 = lb.getD j 0) := hs
      have HW : Hid (∃ q, wr = w.drewN q) := hw
      clear hs hw
      by_cases h00 : k = 0
      · subst h00
        go_wp2
        go_ret
        refine ⟨ret_int (cmpN_eq ?_).symm, HW.out⟩
        have := drop_same la lb 0 HL.out HS.out
        simpa using congrArg val this
      · obtain ⟨m', rfl⟩ : ∃ m', k = m' + 1 := ⟨k - 1, by omega⟩
        have hca : wr.cell? ⟨ga, m', none⟩ = some (.int .u32 (la.getD m' 0 : Int)) := by obtain ⟨q, e⟩ := HW.out; rw [e]; exact CA.out m' (by omega)
        have hcb : wr.cell? ⟨gb, m', none⟩ = some (.int .u32 (lb.getD m' 0 : Int)) := by obtain ⟨q, e⟩ := HW.out; rw [e]; exact CB.out m' (by omega)
        obtain ⟨x, hx⟩ : ∃ x, x = la.getD m' 0 := ⟨_, rfl⟩
        obtain ⟨y, hy⟩ : ∃ y, y = lb.getD m' 0 := ⟨_, rfl⟩
        rw [← hx] at hca
        rw [← hy] at hcb
        have HX : Hid (x = la.getD m' 0) := hx
        have HY : Hid (y = lb.getD m' 0) := hy
        obtain rfl := PA.out (by omega)
        obtain rfl := PB.out (by omega)
        clear hx hy
        rcases Nat.lt_trichotomy x y with c | c | c
        · have d : ((x : Int) != (y : Int)) = true := by rw [bne_iff_ne]; omega
          go_wp2
          go_quiet (fail)
          go_wp2
          go_quiet (fail)
          go_wp2
          go_ret
          exact ⟨ret_int (cmpN_lt (val_lt_of la lb m' (by omega) HL.out SA.out HS.out (by rw [← HX.out, ← HY.out]; exact c))).symm, drewN_more (drewN_more HW.out _) _⟩
        · have d : ((x : Int) != (y : Int)) = false := by simp; omega
          go_wp2
          go_quiet (fail)
          go_wp2
          go_roundw
          case rel =>
            refine ⟨m', by omega, by go_num, fun j h1 h2 => ?_, drewN_more HW.out _⟩
            by_cases e : j = m'
            · subst e; rw [← HX.out, ← HY.out]; exact c
            · exact HS.out j (by omega) h2
          case measure => simp [intOf]
        · have d : ((x : Int) != (y : Int)) = true := by rw [bne_iff_ne]; omega
          go_wp2
          go_quiet (fail)
          go_wp2
          go_quiet (fail)
          go_wp2
          go_ret
          exact ⟨ret_int (cmpN_gt (val_lt_of lb la m' (by omega) HL.out.symm SB.out (fun j h1 h2 => (HS.out j h1 (by omega)).symm) (by rw [← HX.out, ← HY.out]; exact c))).symm, drewN_more (drewN_more HW.out _) _⟩
  · have h0 : ((la.length : Int) != (lb.length : Int)) = true := by rw [bne_iff_ne]; omega
    go_enter Tryz.func57, Tryz.ntmps57
    go_wp2
    go_ret
    exact ⟨ret_int (cmpN_gt (val_len_lt lb la SB.out NA.out h)).symm, 0, rfl⟩
end Go.Proofs.YtnkjadpmigpneaaGreatDoor
end

section
set_option linter.unusedSimpArgs false
set_option linter.unusedVariables false
set_option maxRecDepth 100000
namespace Go.Proofs.YtnkjadpmigpneaaGreatDoor
open Go.RowKit
end Go.Proofs.YtnkjadpmigpneaaGreatDoor
end

section
set_option linter.unusedSimpArgs false
set_option linter.unusedVariables false
set_option maxRecDepth 100000
namespace Go.Proofs.YtnkjadpmigpneaaGreatDoor
open Go.RowKit
theorem oper_append_ownP {P : Program} {o : Oper} {a : Act} {K : Act → World → Prop} {Q : Exit → Act → World → Prop} (w : World) (s x : Operand) (t : TypeId)
    (ho : o.op = .call { callee := .builtin .append, args := #[s, x], argTypes := #[t, t] })
    (base : Nat) (e : TypeId) (i : TypeInfo) (z : Value) (size bytes : Nat) (ht : P.underlying t = some (.slice e)) (hi : P.info? e = some i) (hz : i.zero = some z)
    (hsize : i.size = size) (hby : i.bytes = bytes) (hzs : z.cells.size = size) (hsz : 0 < size)
    (v : Value) (n : Nat) (xs : List Value) (hs : a.eval s = v) (hown : w.ownsRow base e size v n xs)
    (ad : Addr) (m c : Nat) (news : List Value) (hx : a.eval x = .slice (some ad) m c) (hl : news.length = m * size) (hnews : ∀ j u, news[j]? = some u → w.cell? (ad.add j) = some u) (h1 : ∀ u ∈ news, u.oneCell' = true)
    (h63 : n + m ≤ maxLen) (hbytes : (n + m) * bytes ≤ 140737488355328) (hbase : base ≤ w.heap.size)
    (h : ∀ v' w', w'.ownsRow base e size v' (n + m) (xs ++ news) → w.grownBy w' v.ownBlock → K (a.put o.dst v') w') : Oper.wp P o a w K Q := by
  obtain ⟨v', w', hr, h2, h3, _, _⟩ := run_append_own_at (P := P) w base t o.type e i z size bytes ht hi hz hsize hby hzs hsz v n xs hown ad m c news hl hnews h1 h63 hbytes hbase
  unfold Oper.wp execOp
  simp only [ho, resolve, invoke, builtin, Sem.run_bind, Sem.run_pure, Result.andThen_ok, List.map_toArray, List.map_cons, List.map_nil, hs, hx, hr]
  exact h v' w' h2 h3
def dml (l : List Int) (m : Nat) : List Int := (List.range (l.length - 1)).map fun j : Nat => (((j : Int) + 1) * l.getD (j + 1) 0) % (m : Int)
end Go.Proofs.YtnkjadpmigpneaaGreatDoor
end
