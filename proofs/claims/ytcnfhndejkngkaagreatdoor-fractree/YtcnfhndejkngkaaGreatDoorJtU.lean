import Derived.Test.YtcnfhndejkngkaaGreatDoorJtO
import Derived.Test.YtcnfhndejkngkaaGreatDoorJtS
import Derived.Test.YtcnfhndejkngkaaGreatDoorJtT
import Derived.Test.YtcnfhndejkngkaaGreatDoorJtM
import Derived.Test.YtcnfhndejkngkaaGreatDoorStB
import Derived.Test.YtcnfhndejkngkaaGreatDoorTxB
import Derived.Deep.LoopGhost
section
/- frac.runsTo, frac.steps and frac.Path. -/
set_option linter.unusedSimpArgs false
set_option linter.unusedVariables false
set_option maxRecDepth 100000
namespace Go.Proofs.YtcnfhndejkngkaaGreatDoor
open Go.RowKit LgM

namespace ST
theorem sum_take (L : List Nat) (i : Nat) (h : i < L.length) : (L.take (i + 1)).sum = (L.take i).sum + L.getD i 0 := by
  rw [List.take_succ_eq_append_getElem h, List.sum_append, List.getD_eq_getElem?_getD, List.getElem?_eq_getElem h]
  simp
theorem sum_take_le (L : List Nat) (i : Nat) : (L.take i).sum ≤ L.sum := by
  have h : (L.take i ++ L.drop i).sum = L.sum := by rw [List.take_append_drop]
  rw [List.sum_append] at h
  omega
theorem get_le (L : List Nat) (i : Nat) (h : i < L.length) : L.getD i 0 ≤ L.sum := by
  have h1 := sum_take L i h
  have h2 := sum_take_le L (i + 1)
  omega
/-- Steps as bytes. -/
def byt (l : List Bool) : List UInt8 := l.map fun r => if r then (82 : UInt8) else 76
theorem byt_app (a b : List Bool) : byt (a ++ b) = byt a ++ byt b := by unfold byt; rw [List.map_append]
theorem byt_rep (n : Nat) (b : Bool) : byt (List.replicate n b) = List.replicate n (if b then 82 else 76) := by unfold byt; rw [List.map_replicate]
theorem byt_len (l : List Bool) : (byt l).length = l.length := by unfold byt; rw [List.length_map]
end ST
theorem repeatL_byte (b : UInt8) (c : Nat) : Lib.repeatL [b] c = List.replicate c b := by
  induction c with
  | zero => rfl
  | succ c ih => rw [Lib.repeatL, ih]; rfl
/-- A row of numbers that lies. -/
structure Rw9 (L : List Nat) (n : Nat) (g : Nat) (w : World) : Prop where
  len : n = L.length
  lt : g < w.heap.size
  at' : ∀ i, i < n → w.cell? ⟨g, i, none⟩ = some (.int .i64 ((L.getD i 0 : Nat) : Int))
theorem Rw9.below {L : List Nat} {n g : Nat} {w w' : World} (h : Rw9 L n g w) (k : Below w.heap.size w w') : Rw9 L n g w' :=
  ⟨h.len, Nat.lt_of_lt_of_le h.lt k.size, fun i hi => (k.cell (p := ⟨g, i, none⟩) h.lt).trans (h.at' i hi)⟩

set_option maxHeartbeats 4000000 in
theorem runsTo_any (x y : Nat) (w : World) (hx : 1 ≤ x) (hx2 : x ≤ 1000000000000000000) (hy : 1 ≤ y) (hy2 : y ≤ 1000000000000000000) (hg : Nat.gcd x y = 1) :
    Calls Tryz.prog 46 #[.agg #[.int .i64 (x : Int), .int .i64 (y : Int)]] w fun e w' => ∃ (L : List Nat) (n g c : Nat), e = .returned (.tuple #[.slice (some ⟨g, 0, none⟩) n c, .bool (decide (ST.qsum x y ≤ 20001))]) ∧ Rw9 L n g w' ∧ n ≤ 120 ∧ ST.rl true L = ST.path x y ∧ L.sum + 1 = ST.qsum x y ∧ Below w.heap.size w w' := by
  have HG : Hid (Nat.gcd x y = 1 ∧ 1 ≤ x ∧ 1 ≤ y) := ⟨hg, hx, hy⟩
  have HEx : Hid (∀ W, Calls Tryz.prog 71 #[.int .i64 (x : Int), .int .i64 (y : Int)] W fun e w' => ∃ xs p c, e = .returned (.tuple #[.slice p xs.length c, .agg #[.int .i64 0, .int .i64 0]]) ∧ ExIs (x : Int) (y : Int) xs ∧ w'.ownsRow W.heap.size 3 1 (.slice p xs.length c) xs.length (ints xs) ∧ Below W.heap.size W w') := fun W => Expand_pos (x : Int) (y : Int) W (by unfold okB; rw [numB_mk (by omega) (by omega), numB_mk (by omega) (by omega)]; rfl) (by omega)
  have hqs := ST.qsum_le x y
  have HQ : Hid (ST.qsum x y ≤ 2000000000000000000) := by show _ ≤ _; omega
  clear hg hqs
  obtain ⟨W0, hW0⟩ : ∃ W, W = w.alloc (.cells #[.int .i64 (x : Int), .int .i64 (y : Int)] 23) := ⟨_, rfl⟩
  have HK0 : Hid (Below w.heap.size w W0 ∧ w.heap.size ≤ W0.heap.size) := by
    show _ ∧ _
    rw [hW0]
    exact ⟨(Below.refl _ _).alloc (Nat.le_refl _) _, by simp⟩
  go_enter Tryz.func46, Tryz.ntmps46
  go_wp2_with fail
  rw [← hW0]
  clear hW0
  refine (HEx.out W0).mono ?_
  rintro e w1 ⟨xs, p, c, rfl, hex, row, k1⟩
  obtain ⟨A, B, N, hE, hxs, hN, hAB, hA, hB⟩ := hex
  obtain ⟨hE2, hek⟩ := ST.en_low HG.out.1 HG.out.2.2 hE (by rw [hAB])
  obtain ⟨L, hL1, hL2, hL3, hL4, hL5⟩ := ST.runs_of HG.out.2.1 HG.out.1 hE2
  have hlen : xs.length = N := by rw [hxs, CnQ.ek_len]
  obtain ⟨M, rfl⟩ : ∃ M, N = M + 1 := ⟨N - 1, by have := hE.one; omega⟩
  rw [hlen] at row
  obtain ⟨g, cap, hp, hg1, hg2, hcl⟩ := own_shape row (by omega)
  rw [hlen]
  cases hp
  have HB1 : Below w.heap.size w w1 := HK0.out.1.trans (k1.mono HK0.out.1.size)
  have hgw : w.heap.size ≤ g := by have := HK0.out.2; omega
  have hget : ∀ i, i < M + 1 → (ints xs)[i]? = some (.int .i64 (((L.getD i 0) + (if i + 1 = M + 1 then 1 else 0) : Nat) : Int)) := fun i hi => by
    rw [← hL2 i hi, hxs, hek]
    unfold ints CnQ.ek
    rw [List.getElem?_map, List.getElem?_map, List.getElem?_range hi]
    rfl
  obtain ⟨q, hq⟩ : ∃ q, q = L.getD M 0 := ⟨_, rfl⟩
  have hq2 : q ≤ 2000000000000000000 := by
    have := ST.get_le L M (by omega)
    have := HQ.out
    omega
  have c0 : w1.cell? ⟨g, M, none⟩ = some (.int .i64 ((q + 1 : Nat) : Int)) := by
    rw [(hcl M (by omega)).1, hget M (by omega), if_pos rfl, hq]
  have f0 : w1.frozen? ⟨g, M, none⟩ = false := (hcl M (by omega)).2
  obtain ⟨q1, hq1⟩ : ∃ q1, q1 = q + 1 := ⟨_, rfl⟩
  rw [← hq1] at c0
  have eq1 : (q1 : Int) - 1 = (q : Int) := by omega
  have wq : IntKind.i64.wrap (q : Int) = (q : Int) := by rw [IntKind.wrap_i64]; omega
  obtain ⟨n, hn⟩ : ∃ n, n = M + 1 := ⟨_, rfl⟩
  have en : ((M + 1 : Nat) : Int) - 1 = (M : Int) := by omega
  have en1 : (n : Int) - 1 = (M : Int) := by omega
  have wM : IntKind.i64.wrap (M : Int) = (M : Int) := by rw [IntKind.wrap_i64]; omega
  have xM : (M : Int) < (n : Int) := by omega
  have HS : Hid (Rw9 L n g ((w1.setCell ⟨g, M, none⟩ (.int .i64 (q : Int))).alloc (.cells #[.int .i64 0, .int .i64 0] 25)) ∧ Below w.heap.size w ((w1.setCell ⟨g, M, none⟩ (.int .i64 (q : Int))).alloc (.cells #[.int .i64 0, .int .i64 0] 25))) := by
    have hB2 : Below w.heap.size w (w1.setCell ⟨g, M, none⟩ (.int .i64 (q : Int))) := HB1.setCell hgw _
    refine ⟨⟨by omega, by simp; omega, fun i hi => ?_⟩, hB2.alloc hB2.size _⟩
    have hkk : Below w1.heap.size (w1.setCell ⟨g, M, none⟩ (.int .i64 (q : Int))) ((w1.setCell ⟨g, M, none⟩ (.int .i64 (q : Int))).alloc (.cells #[.int .i64 0, .int .i64 0] 25)) := (Below.refl _ _).alloc (by rw [World.size_setCell]; exact Nat.le_refl _) _
    rw [hkk.cell (p := ⟨g, i, none⟩) hg2]
    by_cases e : i = M
    · subst e
      rw [← hq]
      exact World.cell?_setCell_same _ _ _ c0
    · have := (hcl i (by omega)).1
      rw [hget i (by omega), if_neg (by omega)] at this
      rw [World.cell?_setCell_other _ _ _ _ (by intro e2; cases e2; exact e rfl)]
      exact this
  have HL : Hid (n = L.length ∧ n ≤ 120 ∧ ST.rl true L = ST.path x y ∧ L.sum + 1 = ST.qsum x y) := ⟨by omega, by omega, hL3, hL5⟩
  have hn120 : n ≤ 120 := by omega
  rw [← hn]
  clear hE hE2 hek hL1 hL2 hL3 hL4 hL5 hxs hN hAB hA hB hlen row hcl hget k1 HB1 hq hq1 hn HEx
  go_wp2
  clear c0 f0
  go_loopg [6, 27] n (fun gk sv iv wx => ∃ i : Nat, sv = .int .i64 (((L.take i).sum : Nat) : Int) ∧ iv = .int .i64 (i : Int) ∧ Hid (gk = n - i ∧ i ≤ n ∧ Rw9 L n g wx ∧ Below w.heap.size w wx))
  case atStart => exact ⟨0, rfl, rfl, by omega, by omega, HS.out⟩
  case round =>
    clear HS
    obtain ⟨i, rfl, rfl, HR⟩ := hrel
    obtain ⟨h1, h2, h3, h4⟩ := HR.out
    have HGk : Hid (gk = n - i) := h1
    have HC : Hid (Rw9 L n g wr ∧ Below w.heap.size w wr) := ⟨h3, h4⟩
    clear HR h1 h3 h4
    by_cases hi : i < n
    · have ti : decide ((i : Int) < (n : Int)) = true := decide_eq_true (by omega)
      have xi : (i : Int) < (n : Int) := by omega
      obtain ⟨v, hv⟩ : ∃ v, v = L.getD i 0 := ⟨_, rfl⟩
      obtain ⟨s, hs⟩ : ∃ s, s = (L.take i).sum := ⟨_, rfl⟩
      obtain ⟨s', hs'⟩ : ∃ s', s' = (L.take (i + 1)).sum := ⟨_, rfl⟩
      have es : s' = s + v := by rw [hs', hs, hv]; exact ST.sum_take L i (by have := HL.out.1; omega)
      have bs : s' ≤ 2000000000000000000 := by
        have h5 := ST.sum_take_le L (i + 1)
        have h6 := HL.out.2.2.2
        have h7 := HQ.out
        omega
      have q0 : wr.cell? ⟨g, i, none⟩ = some (.int .i64 (v : Int)) := by rw [hv]; exact HC.out.1.at' i hi
      have ev : (s : Int) + (v : Int) = (s' : Int) := by omega
      have ws : IntKind.i64.wrap (s' : Int) = (s' : Int) := by rw [IntKind.wrap_i64]; omega
      have HS' : Hid (s' = (L.take (i + 1)).sum) := hs'
      rw [← hs]
      clear hv hs hs' es bs
      go_wp2
      go_roundg (n - (i + 1))
      case rel => exact ⟨i + 1, by rw [← HS'.out], by go_num, rfl, by omega, HC.out⟩
      case measure => have := HGk.out; omega
    · have ti : decide ((i : Int) < (n : Int)) = false := decide_eq_false (by omega)
      obtain rfl : i = n := by omega
      have hT : L.take i = L := by rw [HL.out.1, List.take_length]
      rw [hT]
      obtain ⟨s, hs⟩ : ∃ s, s = L.sum := ⟨_, rfl⟩
      have HSs : Hid (s = L.sum) := hs
      rw [← hs]
      have tb : decide ((s : Int) ≤ 20000) = decide (ST.qsum x y ≤ 20001) := by
        have := HL.out.2.2.2
        by_cases h : ST.qsum x y ≤ 20001
        · rw [decide_eq_true h]; exact decide_eq_true (by omega)
        · rw [decide_eq_false h]; exact decide_eq_false (by omega)
      obtain ⟨B, hB⟩ : ∃ B, B = decide (ST.qsum x y ≤ 20001) := ⟨_, rfl⟩
      rw [← hB] at tb
      have HBb : Hid (B = decide (ST.qsum x y ≤ 20001)) := hB
      clear hT hs hB
      go_wp2
      exact bodyPost_ret (v := .tuple #[.slice (some ⟨g, 0, none⟩) i c, .bool B]) (by simp [results, Tryz.results46, go_sem]) rfl ⟨L, i, g, c, by rw [HBb.out], HC.out.1, hn120, HL.out.2.2.1, HL.out.2.2.2, HC.out.2⟩

set_option maxHeartbeats 4000000 in
theorem steps_any (L : List Nat) (n g c : Nat) (w : World) (h : Rw9 L n g w) (hn : n ≤ 120) (hs : L.sum ≤ 20000) :
    Calls Tryz.prog 47 #[.slice (some ⟨g, 0, none⟩) n c] w fun e w' => e = .returned (.string (pathS (ST.rl true L))) ∧ Below w.heap.size w w' := by
  have HL : Hid (n = L.length ∧ L.sum ≤ 20000 ∧ g < w.heap.size) := ⟨h.len, hs, h.lt⟩
  have HA : Hid (∀ W, Below w.heap.size w W → ∀ i, i < n → W.cell? ⟨g, i, none⟩ = some (.int .i64 ((L.getD i 0 : Nat) : Int))) := fun W k i hi => (k.cell (p := ⟨g, i, none⟩) h.lt).trans (h.at' i hi)
  obtain ⟨W0, hW0⟩ : ∃ W, W = w.alloc (.cells #[.pointer none, .slice none 0 0] 100) := ⟨_, rfl⟩
  have HS : Hid (Bd w.heap.size [] W0 ∧ Below w.heap.size w W0 ∧ w.heap.size + 1 ≤ W0.heap.size) := by
    show _ ∧ _
    rw [hW0]
    exact ⟨Bd.new w, (Below.refl _ _).alloc (Nat.le_refl _) _, by simp⟩
  clear h hs
  go_enter Tryz.func47, Tryz.ntmps47
  go_wp2_with fail
  rw [← hW0]
  clear hW0
  go_wp2
  go_loopg [9] n (fun gk iv wx => ∃ i : Nat, iv = .int .i64 (i : Int) ∧ Hid (gk = n - i ∧ i ≤ n ∧ Bd w.heap.size (ST.byt (ST.rl true (L.take i))) wx ∧ Below w.heap.size w wx ∧ w.heap.size + 1 ≤ wx.heap.size))
  case atStart => exact ⟨0, rfl, by omega, by omega, HS.out⟩
  case round =>
    clear HS
    obtain ⟨i, rfl, HR⟩ := hrel
    obtain ⟨h1, h2, h3, h4, h5⟩ := HR.out
    have HGk : Hid (gk = n - i) := h1
    have HC : Hid (Bd w.heap.size (ST.byt (ST.rl true (L.take i))) wr ∧ Below w.heap.size w wr) := ⟨h3, h4⟩
    have hz : w.heap.size + 1 ≤ wr.heap.size := h5
    clear HR h1 h3 h4 h5
    by_cases hi : i < n
    · have ti : decide ((i : Int) < (n : Int)) = true := decide_eq_true (by omega)
      have xi : (i : Int) < (n : Int) := by omega
      obtain ⟨v, hv⟩ : ∃ v, v = L.getD i 0 := ⟨_, rfl⟩
      have q0 : wr.cell? ⟨g, i, none⟩ = some (.int .i64 (v : Int)) := by rw [hv]; exact HA.out wr HC.out.2 i hi
      have hv2 : v ≤ 20000 := by
        have := ST.get_le L i (by have := HL.out.1; omega)
        have := HL.out.2.1
        omega
      have HBn : Hid ((ST.byt (ST.rl true (L.take i))).length + v ≤ 20000) := by
        show _ ≤ _
        rw [ST.byt_len, ST.rl_len, hv, ← ST.sum_take L i (by have := HL.out.1; omega)]
        have := ST.sum_take_le L (i + 1)
        have := HL.out.2.1
        omega
      have hst := ST.rl_take L true i (by have := HL.out.1; omega)
      rw [← hv] at hst
      by_cases hp : i % 2 = 1
      · have tp : Int.tmod (i : Int) 2 = 1 := by rw [show Int.tmod (i : Int) 2 = ((i % 2 : Nat) : Int) from rfl, hp]; rfl
        have HSt : Hid (ST.byt (ST.rl true (L.take i)) ++ List.replicate v 76 = ST.byt (ST.rl true (L.take (i + 1)))) := by
          show _ = _
          rw [hst, if_neg (by omega), ST.byt_app, ST.byt_rep]
          rfl
        have HRp : Hid (∀ W, Calls Tryz.prog 73 #[.string ⟨#[76]⟩, .int .i64 (v : Int)] W fun e w' => e = .returned (.string ⟨(List.replicate v (76 : UInt8)).toArray⟩) ∧ Below W.heap.size W w') := fun W => by
          have := Tryz.strings_Repeat ⟨#[76]⟩ v W (by omega) (by show 1 * v ≤ _; omega)
          rw [← repeatL_byte]; exact this
        clear hst hv hp
        go_wp2_with fail
        refine (HRp.out _).mono ?_
        rintro e w1 ⟨rfl, k1⟩
        have hz1 := k1.size
        have HC1 : Hid (Bd w.heap.size (ST.byt (ST.rl true (L.take i))) w1 ∧ Below w.heap.size w w1) := ⟨HC.out.1.below k1, HC.out.2.trans (k1.mono HC.out.2.size)⟩
        clear k1
        go_wp2_with fail
        refine (Write_text w.heap.size _ (List.replicate v 76) w1 HC1.out.1 HC1.out.2.size (by have := HBn.out; simp only [List.length_replicate]; omega)).mono ?_
        rintro e w2 ⟨rfl, D2, k2⟩
        rw [HSt.out] at D2
        have hz2 := k2.size
        have HC2 : Hid (Bd w.heap.size (ST.byt (ST.rl true (L.take (i + 1)))) w2 ∧ Below w.heap.size w w2) := ⟨D2, HC1.out.2.trans k2⟩
        clear D2 k2 HC HC1
        go_wp2
        go_roundg (n - (i + 1))
        case rel => exact ⟨i + 1, by go_num, rfl, by omega, HC2.out.1, HC2.out.2, by omega⟩
        case measure => have := HGk.out; omega
      · have tp : Int.tmod (i : Int) 2 = 0 := by rw [show Int.tmod (i : Int) 2 = ((i % 2 : Nat) : Int) from rfl, show i % 2 = 0 by omega]; rfl
        have HSt : Hid (ST.byt (ST.rl true (L.take i)) ++ List.replicate v 82 = ST.byt (ST.rl true (L.take (i + 1)))) := by
          show _ = _
          rw [hst, if_pos (by omega), ST.byt_app, ST.byt_rep]
          rfl
        have HRp : Hid (∀ W, Calls Tryz.prog 73 #[.string ⟨#[82]⟩, .int .i64 (v : Int)] W fun e w' => e = .returned (.string ⟨(List.replicate v (82 : UInt8)).toArray⟩) ∧ Below W.heap.size W w') := fun W => by
          have := Tryz.strings_Repeat ⟨#[82]⟩ v W (by omega) (by show 1 * v ≤ _; omega)
          rw [← repeatL_byte]; exact this
        clear hst hv hp
        go_wp2_with fail
        refine (HRp.out _).mono ?_
        rintro e w1 ⟨rfl, k1⟩
        have hz1 := k1.size
        have HC1 : Hid (Bd w.heap.size (ST.byt (ST.rl true (L.take i))) w1 ∧ Below w.heap.size w w1) := ⟨HC.out.1.below k1, HC.out.2.trans (k1.mono HC.out.2.size)⟩
        clear k1
        go_wp2_with fail
        refine (Write_text w.heap.size _ (List.replicate v 82) w1 HC1.out.1 HC1.out.2.size (by have := HBn.out; simp only [List.length_replicate]; omega)).mono ?_
        rintro e w2 ⟨rfl, D2, k2⟩
        rw [HSt.out] at D2
        have hz2 := k2.size
        have HC2 : Hid (Bd w.heap.size (ST.byt (ST.rl true (L.take (i + 1)))) w2 ∧ Below w.heap.size w w2) := ⟨D2, HC1.out.2.trans k2⟩
        clear D2 k2 HC HC1
        go_wp2
        go_roundg (n - (i + 1))
        case rel => exact ⟨i + 1, by go_num, rfl, by omega, HC2.out.1, HC2.out.2, by omega⟩
        case measure => have := HGk.out; omega
    · have ti : decide ((i : Int) < (n : Int)) = false := decide_eq_false (by omega)
      obtain rfl : i = n := by omega
      have HB9 : Hid (Bd w.heap.size (ST.byt (ST.rl true L)) wr) := by
        have := HC.out.1
        rw [HL.out.1, List.take_length] at this
        exact this
      go_wp2_with fail
      refine (Tryz.Builder_String_any_k w.heap.size w.heap.size (ST.byt (ST.rl true L)) wr HB9.out (by omega)).mono ?_
      rintro e w1 ⟨rfl, _, k1, _⟩
      have HK9 : Hid (Below w.heap.size w w1) := HC.out.2.trans k1
      clear k1
      go_wp2
      go_ret
      exact ⟨rfl, HK9.out⟩
end Go.Proofs.YtcnfhndejkngkaaGreatDoor
end

section
/- frac.Path. -/
set_option linter.unusedSimpArgs false
set_option linter.unusedVariables false
set_option maxRecDepth 100000
namespace Go.Proofs.YtcnfhndejkngkaaGreatDoor
open Go.RowKit LgM

set_option maxHeartbeats 4000000 in
theorem Path_any (x y : Int) (w : World) :
    Calls Tryz.prog 15 #[.agg #[.int .i64 x, .int .i64 y]] w fun e w' => e = .returned (.tuple #[.string (ptext x y), .agg #[.int .i64 (pcode x y), .int .i64 0]]) ∧ Below w.heap.size w w' := by
  have HPc : Hid _ := path_cases x y
  have HOk : Hid (ffF x y = 0 → -1000000000000000000 ≤ x ∧ x ≤ 1000000000000000000 ∧ 1 ≤ y ∧ y ≤ 1000000000000000000 ∧ Int.gcd x y = 1) := fun h => ffF_ok h
  obtain ⟨c0, hc0⟩ : ∃ c, c = ffF x y := ⟨_, rfl⟩
  have HCh : Hid (∀ W, Calls Tryz.prog 37 #[.agg #[.int .i64 x, .int .i64 y]] W fun e w' => e = .returned (.agg #[.int .i64 c0, .int .i64 0]) ∧ Below W.heap.size W w') := fun W => by rw [hc0]; exact check_any x y W
  have HC0 : Hid (c0 = ffF x y) := hc0
  clear hc0
  obtain ⟨bf, hbf⟩ : ∃ b, b = w.heap.size + 1 := ⟨_, rfl⟩
  obtain ⟨W0, hW0⟩ : ∃ W, W = (w.alloc (.cells #[.int .i64 x, .int .i64 y] 23)).alloc (.cells #[.int .i64 0, .int .i64 0] 25) := ⟨_, rfl⟩
  have K0 : Hid (Cl w.heap.size [.int .i64 x, .int .i64 y] 23 W0 ∧ Cl bf [.int .i64 0, .int .i64 0] 25 W0 ∧ Below w.heap.size w W0 ∧ w.heap.size ≤ bf) := by
    have h1 := Cl.new [.int .i64 0, .int .i64 0] 25 (w.alloc (.cells #[.int .i64 x, .int .i64 y] 23))
    show _ ∧ _
    rw [hW0, hbf]
    exact ⟨(Cl.new _ _ _).alloc _, by simpa using h1, ((Below.refl _ _).alloc (Nat.le_refl _) _).alloc (by simp) _, by omega⟩
  have p0 := K0.out.1.cell 0
  have p1 := K0.out.1.cell 1
  simp at p0 p1
  go_enter Tryz.func15, Tryz.ntmps15
  go_wp2_with fail
  rw [← hW0]
  simp only [← hbf]
  clear hW0 hbf
  refine (HCh.out W0).mono ?_
  rintro e w1 ⟨rfl, k1⟩
  obtain ⟨W2, hW2⟩ : ∃ W, W = w1.alloc (.cells #[.int .i64 c0, .int .i64 0] 25) := ⟨_, rfl⟩
  have K1 : Hid (Cl w.heap.size [.int .i64 x, .int .i64 y] 23 w1 ∧ Cl bf [.int .i64 0, .int .i64 0] 25 w1 ∧ Below w.heap.size w w1 ∧ w.heap.size ≤ bf) := ⟨K0.out.1.below k1, K0.out.2.1.below k1, K0.out.2.2.1.trans (k1.mono K0.out.2.2.1.size), K0.out.2.2.2⟩
  have K2 : Hid (Cl w.heap.size [.int .i64 x, .int .i64 y] 23 W2 ∧ Cl bf [.int .i64 0, .int .i64 0] 25 W2 ∧ Below w.heap.size w W2 ∧ w.heap.size ≤ bf) := by
    show _ ∧ _
    rw [hW2]
    exact ⟨K1.out.1.alloc _, K1.out.2.1.alloc _, K1.out.2.2.1.alloc K1.out.2.2.1.size _, K1.out.2.2.2⟩
  have HW2 : Hid (W2 = w1.alloc (.cells #[.int .i64 c0, .int .i64 0] 25)) := hW2
  clear k1 K0 hW2 p0 p1
  have p0 := K1.out.1.cell 0
  have p1 := K1.out.1.cell 1
  have p2 := K1.out.1.lt
  have p3 := K1.out.2.1.cell 0
  have p4 := K1.out.2.1.cell 1
  have p5 := K1.out.2.1.lt
  have p6 := K1.out.2.1.frozen 0
  have p7 := K1.out.2.1.frozen 1
  simp at p0 p1 p3 p4
  rcases HPc.out with ⟨h0, h1, h2⟩ | ⟨h0, h1, h2, h3⟩ | ⟨h0, h1, h2, h3, h4⟩ | ⟨h0, h1, h2, h3, h4⟩
  · have HC : Hid (pcode x y = c0 ∧ ptext x y = ⟨#[]⟩) := ⟨by rw [h1, HC0.out], h2⟩
    have tc : (c0 != 0) = true := by
      rw [HC0.out]
      rcases h0 with h | h <;> rw [h] <;> rfl
    have HF : Hid (Below w.heap.size w (((w1.setCell ⟨bf, 0, none⟩ (.int .i64 c0)).setCell ⟨bf, 1, none⟩ (.int .i64 0)).alloc (.cells #[.int .i64 c0, .int .i64 0] 25)) ∧ Cl bf [.int .i64 c0, .int .i64 0] 25 (((w1.setCell ⟨bf, 0, none⟩ (.int .i64 c0)).setCell ⟨bf, 1, none⟩ (.int .i64 0)).alloc (.cells #[.int .i64 c0, .int .i64 0] 25))) := by
      have h := (K1.out.2.2.1.setCell (p := ⟨bf, 0, none⟩) K1.out.2.2.2 (.int .i64 c0)).setCell (p := ⟨bf, 1, none⟩) K1.out.2.2.2 (.int .i64 0)
      exact ⟨h.alloc h.size _, ((K1.out.2.1.set 0 _).set 1 _).alloc _⟩
    clear h0 h1 h2 HPc HOk HCh HC0 HW2 K2
    go_wp2
    go_region
    all_goals
      go_wp2
      have e1 := HF.out.2.drew.cell 0
      have e2 := HF.out.2.drew.cell 1
      simp at e1 e2
      exact bodyPost_ret (v := .tuple #[.string ⟨#[]⟩, .agg #[.int .i64 c0, .int .i64 0]]) (by simp [results, Tryz.results15, go_sem, e1, e2]) rfl ⟨by rw [HC.out.1, HC.out.2], HF.out.1.drew⟩
  · have HC : Hid (pcode x y = 3 ∧ ptext x y = ⟨#[]⟩) := ⟨h2, h3⟩
    have tx : decide (x < 1) = true := decide_eq_true h1
    have tc : c0 = 0 := by rw [HC0.out, h0]
    subst tc
    have HF : Hid (Below w.heap.size w (((w1.setCell ⟨bf, 0, none⟩ (.int .i64 3)).setCell ⟨bf, 1, none⟩ (.int .i64 0)).alloc (.cells #[.int .i64 0, .int .i64 0] 25)) ∧ Cl bf [.int .i64 3, .int .i64 0] 25 (((w1.setCell ⟨bf, 0, none⟩ (.int .i64 3)).setCell ⟨bf, 1, none⟩ (.int .i64 0)).alloc (.cells #[.int .i64 0, .int .i64 0] 25))) := by
      have h := (K1.out.2.2.1.setCell (p := ⟨bf, 0, none⟩) K1.out.2.2.2 (.int .i64 3)).setCell (p := ⟨bf, 1, none⟩) K1.out.2.2.2 (.int .i64 0)
      exact ⟨h.alloc h.size _, ((K1.out.2.1.set 0 _).set 1 _).alloc _⟩
    clear h0 h1 h2 h3 HPc HOk HCh HC0 HW2 K2
    go_wp2
    have e1 := HF.out.2.cell 0
    have e2 := HF.out.2.cell 1
    simp at e1 e2
    exact bodyPost_ret (v := .tuple #[.string ⟨#[]⟩, .agg #[.int .i64 3, .int .i64 0]]) (by simp [results, Tryz.results15, go_sem, e1, e2]) rfl ⟨by rw [HC.out.1, HC.out.2], HF.out.1⟩
  · have HC : Hid (pcode x y = 9 ∧ ptext x y = ⟨#[]⟩) := ⟨h3, h4⟩
    have tx : decide (x < 1) = false := decide_eq_false (by omega)
    have h5 := HOk.out h0
    obtain ⟨X, hX⟩ : ∃ X : Nat, X = x.toNat := ⟨_, rfl⟩
    obtain ⟨Y, hY⟩ : ∃ Y : Nat, Y = y.toNat := ⟨_, rfl⟩
    try rw [← hX, ← hY] at h2
    try rw [← hX, ← hY] at h4
    have eX : x = (X : Int) := by omega
    have eY : y = (Y : Int) := by omega
    have HRn : Hid (∀ W, Calls Tryz.prog 46 #[.agg #[.int .i64 x, .int .i64 y]] W fun e w' => ∃ (L : List Nat) (n g c : Nat), e = .returned (.tuple #[.slice (some ⟨g, 0, none⟩) n c, .bool (decide (ST.qsum X Y ≤ 20001))]) ∧ Rw9 L n g w' ∧ n ≤ 120 ∧ ST.rl true L = ST.path X Y ∧ L.sum + 1 = ST.qsum X Y ∧ Below W.heap.size W w') := fun W => by
      rw [eX, eY]
      exact runsTo_any X Y W (by omega) (by omega) (by omega) (by omega) (by
        have := h5.2.2.2.2
        rw [eX, eY] at this
        exact this)
    have tc : c0 = 0 := by rw [HC0.out, h0]
    subst tc
    clear h5 eX eY hX hY h0 HPc HOk HCh HC0
    go_wp2_with fail
    rw [← HW2.out]
    clear HW2 p0 p1 p2 p3 p4 p5 p6 p7
    refine (HRn.out W2).mono ?_
    rintro e w3 ⟨L, n, g, c, rfl, hrw, hn, hrl, hsum, k3⟩
    have K3 : Hid (Cl bf [.int .i64 0, .int .i64 0] 25 w3 ∧ Below w.heap.size w w3 ∧ w.heap.size ≤ bf) := ⟨K2.out.2.1.below k3, K2.out.2.2.1.trans (k3.mono K2.out.2.2.1.size), K2.out.2.2.2⟩
    clear k3 K1 K2
    have td : decide (ST.qsum X Y ≤ 20001) = false := decide_eq_false (by omega)
    have f0 := K3.out.1.cell 0
    have f1 := K3.out.1.cell 1
    have f2 := K3.out.1.frozen 0
    have f3 := K3.out.1.frozen 1
    simp at f0 f1
    have HF : Hid (Below w.heap.size w ((w3.setCell ⟨bf, 0, none⟩ (.int .i64 9)).setCell ⟨bf, 1, none⟩ (.int .i64 0)) ∧ Cl bf [.int .i64 9, .int .i64 0] 25 ((w3.setCell ⟨bf, 0, none⟩ (.int .i64 9)).setCell ⟨bf, 1, none⟩ (.int .i64 0))) :=
      ⟨(K3.out.2.1.setCell K3.out.2.2 _).setCell K3.out.2.2 _, (K3.out.1.set 0 _).set 1 _⟩
    clear hrw hrl hsum h1 h2 h3 h4 K3
    rw [td]
    clear td
    go_wp2
    have e1 := HF.out.2.cell 0
    have e2 := HF.out.2.cell 1
    simp at e1 e2
    exact bodyPost_ret (v := .tuple #[.string ⟨#[]⟩, .agg #[.int .i64 9, .int .i64 0]]) (by simp [results, Tryz.results15, go_sem, e1, e2]) rfl ⟨by rw [HC.out.1, HC.out.2], HF.out.1⟩
  · obtain ⟨T, hT⟩ : ∃ T, T = ptext x y := ⟨_, rfl⟩
    have HC : Hid (pcode x y = 0 ∧ ptext x y = T) := ⟨h3, hT.symm⟩
    rw [← hT] at h4
    clear hT
    have tx : decide (x < 1) = false := decide_eq_false (by omega)
    have h5 := HOk.out h0
    obtain ⟨X, hX⟩ : ∃ X : Nat, X = x.toNat := ⟨_, rfl⟩
    obtain ⟨Y, hY⟩ : ∃ Y : Nat, Y = y.toNat := ⟨_, rfl⟩
    try rw [← hX, ← hY] at h2
    try rw [← hX, ← hY] at h4
    have eX : x = (X : Int) := by omega
    have eY : y = (Y : Int) := by omega
    have HRn : Hid (∀ W, Calls Tryz.prog 46 #[.agg #[.int .i64 x, .int .i64 y]] W fun e w' => ∃ (L : List Nat) (n g c : Nat), e = .returned (.tuple #[.slice (some ⟨g, 0, none⟩) n c, .bool (decide (ST.qsum X Y ≤ 20001))]) ∧ Rw9 L n g w' ∧ n ≤ 120 ∧ ST.rl true L = ST.path X Y ∧ L.sum + 1 = ST.qsum X Y ∧ Below W.heap.size W w') := fun W => by
      rw [eX, eY]
      exact runsTo_any X Y W (by omega) (by omega) (by omega) (by omega) (by
        have := h5.2.2.2.2
        rw [eX, eY] at this
        exact this)
    have tc : c0 = 0 := by rw [HC0.out, h0]
    subst tc
    clear h5 eX eY hX hY h0 HPc HOk HCh HC0
    go_wp2_with fail
    rw [← HW2.out]
    clear HW2 p0 p1 p2 p3 p4 p5 p6 p7
    refine (HRn.out W2).mono ?_
    rintro e w3 ⟨L, n, g, c, rfl, hrw, hn, hrl, hsum, k3⟩
    have K3 : Hid (Cl bf [.int .i64 0, .int .i64 0] 25 w3 ∧ Below w.heap.size w w3 ∧ w.heap.size ≤ bf) := ⟨K2.out.2.1.below k3, K2.out.2.2.1.trans (k3.mono K2.out.2.2.1.size), K2.out.2.2.2⟩
    clear k3 K1 K2
    have td : decide (ST.qsum X Y ≤ 20001) = true := decide_eq_true (by omega)
    have HSt : Hid (∀ W, Below w3.heap.size w3 W → Calls Tryz.prog 47 #[.slice (some ⟨g, 0, none⟩) n c] W fun e w' => e = .returned (.string T) ∧ Below W.heap.size W w') := fun W kk => by
      rw [h4, ← hrl]
      exact steps_any L n g c W (hrw.below kk) hn (by omega)
    clear hrw hrl hsum h1 h2 h3 h4
    rw [td]
    clear td
    go_wp2_with fail
    refine (HSt.out w3 (Below.refl _ _)).mono ?_
    rintro e w4 ⟨rfl, k4⟩
    have K4 : Hid (Cl bf [.int .i64 0, .int .i64 0] 25 w4 ∧ Below w.heap.size w w4 ∧ w.heap.size ≤ bf) := ⟨K3.out.1.below k4, K3.out.2.1.trans (k4.mono K3.out.2.1.size), K3.out.2.2⟩
    clear k4 K3 HSt
    have f0 := K4.out.1.cell 0
    have f1 := K4.out.1.cell 1
    have f2 := K4.out.1.frozen 0
    have f3 := K4.out.1.frozen 1
    simp at f0 f1
    have HF : Hid (Below w.heap.size w ((w4.setCell ⟨bf, 0, none⟩ (.int .i64 0)).setCell ⟨bf, 1, none⟩ (.int .i64 0)) ∧ Cl bf [.int .i64 0, .int .i64 0] 25 ((w4.setCell ⟨bf, 0, none⟩ (.int .i64 0)).setCell ⟨bf, 1, none⟩ (.int .i64 0))) :=
      ⟨(K4.out.2.1.setCell K4.out.2.2 _).setCell K4.out.2.2 _, (K4.out.1.set 0 _).set 1 _⟩
    clear K4
    go_wp2
    have e1 := HF.out.2.cell 0
    have e2 := HF.out.2.cell 1
    simp at e1 e2
    exact bodyPost_ret (v := .tuple #[.string T, .agg #[.int .i64 0, .int .i64 0]]) (by simp [results, Tryz.results15, go_sem, e1, e2]) rfl ⟨by rw [HC.out.1, HC.out.2], HF.out.1⟩
end Go.Proofs.YtcnfhndejkngkaaGreatDoor
end
