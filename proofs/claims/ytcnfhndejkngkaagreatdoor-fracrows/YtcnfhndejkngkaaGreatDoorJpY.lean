import Derived.Test.YtcnfhndejkngkaaGreatDoorJpV
import Derived.Test.YtcnfhndejkngkaaGreatDoorJpX
import Derived.Test.YtcnfhndejkngkaaGreatDoorJpP
import Derived.Test.YtcnfhndejkngkaaGreatDoorJpO
import Derived.Deep.LoopGhost
import Derived.Test.YtcnfhndejkngkaaGreatDoorRows
import Derived.Test.YtcnfhndejkngkaaGreatDoorJpM
import Derived.Test.YtcnfhndejkngkaaGreatDoorJpQ
import Derived.Lib.ItoaNum
import Derived.BigQuiet
import Derived.Test.YtcnfhndejkngkaaGreatDoorJpU
import Derived.Test.YtcnfhndejkngkaaGreatDoorJpE
import Derived.Maps.AppendAt
import Derived.ArgAppend
import Derived.Laws.OwnMore
section
set_option linter.unusedSimpArgs false
set_option linter.unusedVariables false
set_option maxRecDepth 100000
namespace Go.Proofs.YtcnfhndejkngkaaGreatDoor
open Go.RowKit LgM
namespace ST
theorem sum_take (L : List Nat) (i : Nat) (h : i < L.length) : (L.take (i + 1)).sum = (L.take i).sum + L.getD i 0 := by
  rw [List.take_succ_eq_append_getElem h, List.sum_append, List.getD_eq_getElem?_getD, List.getElem?_eq_getElem h]
  simp
theorem sum_take_le (L : List Nat) (i : Nat) : (L.take i).sum ≤ L.sum := by
  have h : (L.take i ++ L.drop i).sum = L.sum := by rw [List.take_append_drop]
  rw [List.sum_append] at h
  omega
theorem get_le (L : List Nat) (i : Nat) (h : i < L.length) : L.getD i 0 ≤ L.sum := by
  have h1 := sum_take L i h
  have h2 := sum_take_le L (i + 1)
  omega
def byt (l : List Bool) : List UInt8 := l.map fun r => if r then (82 : UInt8) else 76
theorem byt_app (a b : List Bool) : byt (a ++ b) = byt a ++ byt b := by unfold byt; rw [List.map_append]
theorem byt_rep (n : Nat) (b : Bool) : byt (List.replicate n b) = List.replicate n (if b then 82 else 76) := by unfold byt; rw [List.map_replicate]
theorem byt_len (l : List Bool) : (byt l).length = l.length := by unfold byt; rw [List.length_map]
end ST
theorem repeatL_byte (b : UInt8) (c : Nat) : Lib.repeatL [b] c = List.replicate c b := by
  induction c with
  | zero => rfl
  | succ c ih => rw [Lib.repeatL, ih]; rfl
structure Rw9 (L : List Nat) (n : Nat) (g : Nat) (w : World) : Prop where
  len : n = L.length
  lt : g < w.heap.size
  at' : ∀ i, i < n → w.cell? ⟨g, i, none⟩ = some (.int .i64 ((L.getD i 0 : Nat) : Int))
theorem Rw9.below {L : List Nat} {n g : Nat} {w w' : World} (h : Rw9 L n g w) (k : Below w.heap.size w w') : Rw9 L n g w' :=
  ⟨h.len, Nat.lt_of_lt_of_le h.lt k.size, fun i hi => (k.cell (p := ⟨g, i, none⟩) h.lt).trans (h.at' i hi)⟩
set_option maxHeartbeats 4000000 in
theorem runsTo_any (x y : Nat) (w : World) (hx : 1 ≤ x) (hx2 : x ≤ 1000000000000000000) (hy : 1 ≤ y) (hy2 : y ≤ 1000000000000000000) (hg : Nat.gcd x y = 1) :
    Calls Tryz.prog 46 #[.agg #[.int .i64 (x : Int), .int .i64 (y : Int)]] w fun e w' => ∃ (L : List Nat) (n g c : Nat), e = .returned (.tuple #[.slice (some ⟨g, 0, none⟩) n c, .bool (decide (ST.qsum x y ≤ 20001))]) ∧ Rw9 L n g w' ∧ n ≤ 120 ∧ ST.rl true L = ST.path x y ∧ L.sum + 1 = ST.qsum x y ∧ Below w.heap.size w w' := by
  have HG : Hid (Nat.gcd x y = 1 ∧ 1 ≤ x ∧ 1 ≤ y) := ⟨hg, hx, hy⟩
  have HEx : Hid (∀ W, Calls Tryz.prog 71 #[.int .i64 (x : Int), .int .i64 (y : Int)] W fun e w' => ∃ xs p c, e = .returned (.tuple #[.slice p xs.length c, .agg #[.int .i64 0, .int .i64 0]]) ∧ ExIs (x : Int) (y : Int) xs ∧ w'.ownsRow W.heap.size 3 1 (.slice p xs.length c) xs.length (ints xs) ∧ Below W.heap.size W w') := fun W => Expand_pos (x : Int) (y : Int) W (by unfold okB; rw [numB_mk (by omega) (by omega), numB_mk (by omega) (by omega)]; rfl) (by omega)
  have hqs := ST.qsum_le x y
  have HQ : Hid (ST.qsum x y ≤ 2000000000000000000) := by show _ ≤ _; omega
  clear hg hqs
  obtain ⟨W0, hW0⟩ : ∃ W, W = w.alloc (.cells #[.int .i64 (x : Int), .int .i64 (y : Int)] 23) := ⟨_, rfl⟩
  have HK0 : Hid (Below w.heap.size w W0 ∧ w.heap.size ≤ W0.heap.size) := by
    show _ ∧ _
    rw [hW0]
    exact ⟨(Below.refl _ _).alloc (Nat.le_refl _) _, by simp⟩
  go_enter Tryz.func46, Tryz.ntmps46
  go_wp2_with fail
  rw [← hW0]
  clear hW0
  refine (HEx.out W0).mono ?_
  rintro e w1 ⟨xs, p, c, rfl, hex, row, k1⟩
  obtain ⟨A, B, N, hE, hxs, hN, hAB, hA, hB⟩ := hex
  obtain ⟨hE2, hek⟩ := ST.en_low HG.out.1 HG.out.2.2 hE (by rw [hAB])
  obtain ⟨L, hL1, hL2, hL3, hL4, hL5⟩ := ST.runs_of HG.out.2.1 HG.out.1 hE2
  have hlen : xs.length = N := by rw [hxs, CnQ.ek_len]
  obtain ⟨M, rfl⟩ : ∃ M, N = M + 1 := ⟨N - 1, by have := hE.one; omega⟩
  rw [hlen] at row
  obtain ⟨g, cap, hp, hg1, hg2, hcl⟩ := own_shape row (by omega)
  rw [hlen]
  cases hp
  have HB1 : Below w.heap.size w w1 := HK0.out.1.trans (k1.mono HK0.out.1.size)
  have hgw : w.heap.size ≤ g := by have := HK0.out.2; omega
  have hget : ∀ i, i < M + 1 → (ints xs)[i]? = some (.int .i64 (((L.getD i 0) + (if i + 1 = M + 1 then 1 else 0) : Nat) : Int)) := fun i hi => by
    rw [← hL2 i hi, hxs, hek]
    unfold ints CnQ.ek
    rw [List.getElem?_map, List.getElem?_map, List.getElem?_range hi]
    rfl
  obtain ⟨q, hq⟩ : ∃ q, q = L.getD M 0 := ⟨_, rfl⟩
  have hq2 : q ≤ 2000000000000000000 := by
    have := ST.get_le L M (by omega)
    have := HQ.out
    omega
  have c0 : w1.cell? ⟨g, M, none⟩ = some (.int .i64 ((q + 1 : Nat) : Int)) := by
    rw [(hcl M (by omega)).1, hget M (by omega), if_pos rfl, hq]
  have f0 : w1.frozen? ⟨g, M, none⟩ = false := (hcl M (by omega)).2
  obtain ⟨q1, hq1⟩ : ∃ q1, q1 = q + 1 := ⟨_, rfl⟩
  rw [← hq1] at c0
  have eq1 : (q1 : Int) - 1 = (q : Int) := by omega
  have wq : IntKind.i64.wrap (q : Int) = (q : Int) := by rw [IntKind.wrap_i64]; omega
  obtain ⟨n, hn⟩ : ∃ n, n = M + 1 := ⟨_, rfl⟩
  have en : ((M + 1 : Nat) : Int) - 1 = (M : Int) := by omega
  have en1 : (n : Int) - 1 = (M : Int) := by omega
  have wM : IntKind.i64.wrap (M : Int) = (M : Int) := by rw [IntKind.wrap_i64]; omega
  have xM : (M : Int) < (n : Int) := by omega
  have HS : Hid (Rw9 L n g ((w1.setCell ⟨g, M, none⟩ (.int .i64 (q : Int))).alloc (.cells #[.int .i64 0, .int .i64 0] 25)) ∧ Below w.heap.size w ((w1.setCell ⟨g, M, none⟩ (.int .i64 (q : Int))).alloc (.cells #[.int .i64 0, .int .i64 0] 25))) := by
    have hB2 : Below w.heap.size w (w1.setCell ⟨g, M, none⟩ (.int .i64 (q : Int))) := HB1.setCell hgw _
    refine ⟨⟨by omega, by simp; omega, fun i hi => ?_⟩, hB2.alloc hB2.size _⟩
    have hkk : Below w1.heap.size (w1.setCell ⟨g, M, none⟩ (.int .i64 (q : Int))) ((w1.setCell ⟨g, M, none⟩ (.int .i64 (q : Int))).alloc (.cells #[.int .i64 0, .int .i64 0] 25)) := (Below.refl _ _).alloc (by rw [World.size_setCell]; exact Nat.le_refl _) _
    rw [hkk.cell (p := ⟨g, i, none⟩) hg2]
    by_cases e : i = M
    · subst e
      rw [← hq]
      exact World.cell?_setCell_same _ _ _ c0
    · have := (hcl i (by omega)).1
      rw [hget i (by omega), if_neg (by omega)] at this
      rw [World.cell?_setCell_other _ _ _ _ (by intro e2; cases e2; exact e rfl)]
      exact this
  have HL : Hid (n = L.length ∧ n ≤ 120 ∧ ST.rl true L = ST.path x y ∧ L.sum + 1 = ST.qsum x y) := ⟨by omega, by omega, hL3, hL5⟩
  have hn120 : n ≤ 120 := by omega
  rw [← hn]
  clear hE hE2 hek hL1 hL2 hL3 hL4 hL5 hxs hN hAB hA hB hlen row hcl hget k1 HB1 hq hq1 hn HEx
  go_wp2
  clear c0 f0
  go_loopg [6, 27] n (fun gk sv iv wx => ∃ i : Nat, sv = .int .i64 (((L.take i).sum : Nat) : Int) ∧ iv = .int .i64 (i : Int) ∧ Hid (gk = n - i ∧ i ≤ n ∧ Rw9 L n g wx ∧ Below w.heap.size w wx))
  case atStart => exact ⟨0, rfl, rfl, by omega, by omega, HS.out⟩
  case round =>
    clear HS
    obtain ⟨i, rfl, rfl, HR⟩ := hrel
    obtain ⟨h1, h2, h3, h4⟩ := HR.out
    have HGk : Hid (gk = n - i) := h1
    have HC : Hid (Rw9 L n g wr ∧ Below w.heap.size w wr) := ⟨h3, h4⟩
    clear HR h1 h3 h4
    by_cases hi : i < n
    · have ti : decide ((i : Int) < (n : Int)) = true := decide_eq_true (by omega)
      have xi : (i : Int) < (n : Int) := by omega
      obtain ⟨v, hv⟩ : ∃ v, v = L.getD i 0 := ⟨_, rfl⟩
      obtain ⟨s, hs⟩ : ∃ s, s = (L.take i).sum := ⟨_, rfl⟩
      obtain ⟨s', hs'⟩ : ∃ s', s' = (L.take (i + 1)).sum := ⟨_, rfl⟩
      have es : s' = s + v := by rw [hs', hs, hv]; exact ST.sum_take L i (by have := HL.out.1; omega)
      have bs : s' ≤ 2000000000000000000 := by
        have h5 := ST.sum_take_le L (i + 1)
        have h6 := HL.out.2.2.2
        have h7 := HQ.out
        omega
      have q0 : wr.cell? ⟨g, i, none⟩ = some (.int .i64 (v : Int)) := by rw [hv]; exact HC.out.1.at' i hi
      have ev : (s : Int) + (v : Int) = (s' : Int) := by omega
      have ws : IntKind.i64.wrap (s' : Int) = (s' : Int) := by rw [IntKind.wrap_i64]; omega
      have HS' : Hid (s' = (L.take (i + 1)).sum) := hs'
      rw [← hs]
      clear hv hs hs' es bs
      go_wp2
      go_roundg (n - (i + 1))
      case rel => exact ⟨i + 1, by rw [← HS'.out], by go_num, rfl, by omega, HC.out⟩
      case measure => have := HGk.out; omega
    · have ti : decide ((i : Int) < (n : Int)) = false := decide_eq_false (by omega)
      obtain rfl : i = n := by omega
      have hT : L.take i = L := by rw [HL.out.1, List.take_length]
      rw [hT]
      obtain ⟨s, hs⟩ : ∃ s, s = L.sum := ⟨_, rfl⟩
      have HSs : Hid (s = L.sum) := hs
      rw [← hs]
      have tb : decide ((s : Int) ≤ 20000) = decide (ST.qsum x y ≤ 20001) := by
        have := HL.out.2.2.2
        by_cases h : ST.qsum x y ≤ 20001
        · rw [decide_eq_true h]; exact decide_eq_true (by omega)
        · rw [decide_eq_false h]; exact decide_eq_false (by omega)
      obtain ⟨B, hB⟩ : ∃ B, B = decide (ST.qsum x y ≤ 20001) := ⟨_, rfl⟩
      rw [← hB] at tb
      have HBb : Hid (B = decide (ST.qsum x y ≤ 20001)) := hB
      clear hT hs hB
      go_wp2
      exact bodyPost_ret (v := .tuple #[.slice (some ⟨g, 0, none⟩) i c, .bool B]) (by simp [results, Tryz.results46, go_sem]) rfl ⟨L, i, g, c, by rw [HBb.out], HC.out.1, hn120, HL.out.2.2.1, HL.out.2.2.2, HC.out.2⟩
set_option maxHeartbeats 4000000 in
theorem steps_any (L : List Nat) (n g c : Nat) (w : World) (h : Rw9 L n g w) (hn : n ≤ 120) (hs : L.sum ≤ 20000) :
    Calls Tryz.prog 47 #[.slice (some ⟨g, 0, none⟩) n c] w fun e w' => e = .returned (.string (pathS (ST.rl true L))) ∧ Below w.heap.size w w' := by
  have HL : Hid (n = L.length ∧ L.sum ≤ 20000 ∧ g < w.heap.size) := ⟨h.len, hs, h.lt⟩
  have HA : Hid (∀ W, Below w.heap.size w W → ∀ i, i < n → W.cell? ⟨g, i, none⟩ = some (.int .i64 ((L.getD i 0 : Nat) : Int))) := fun W k i hi => (k.cell (p := ⟨g, i, none⟩) h.lt).trans (h.at' i hi)
  obtain ⟨W0, hW0⟩ : ∃ W, W = w.alloc (.cells #[.pointer none, .slice none 0 0] 100) := ⟨_, rfl⟩
  have HS : Hid (Bd w.heap.size [] W0 ∧ Below w.heap.size w W0 ∧ w.heap.size + 1 ≤ W0.heap.size) := by
    show _ ∧ _
    rw [hW0]
    exact ⟨Bd.new w, (Below.refl _ _).alloc (Nat.le_refl _) _, by simp⟩
  clear h hs
  go_enter Tryz.func47, Tryz.ntmps47
  go_wp2_with fail
  rw [← hW0]
  clear hW0
  go_wp2
  go_loopg [9] n (fun gk iv wx => ∃ i : Nat, iv = .int .i64 (i : Int) ∧ Hid (gk = n - i ∧ i ≤ n ∧ Bd w.heap.size (ST.byt (ST.rl true (L.take i))) wx ∧ Below w.heap.size w wx ∧ w.heap.size + 1 ≤ wx.heap.size))
  case atStart => exact ⟨0, rfl, by omega, by omega, HS.out⟩
  case round =>
    clear HS
    obtain ⟨i, rfl, HR⟩ := hrel
    obtain ⟨h1, h2, h3, h4, h5⟩ := HR.out
    have HGk : Hid (gk = n - i) := h1
    have HC : Hid (Bd w.heap.size (ST.byt (ST.rl true (L.take i))) wr ∧ Below w.heap.size w wr) := ⟨h3, h4⟩
    have hz : w.heap.size + 1 ≤ wr.heap.size := h5
    clear HR h1 h3 h4 h5
    by_cases hi : i < n
    · have ti : decide ((i : Int) < (n : Int)) = true := decide_eq_true (by omega)
      have xi : (i : Int) < (n : Int) := by omega
      obtain ⟨v, hv⟩ : ∃ v, v = L.getD i 0 := ⟨_, rfl⟩
      have q0 : wr.cell? ⟨g, i, none⟩ = some (.int .i64 (v : Int)) := by rw [hv]; exact HA.out wr HC.out.2 i hi
      have hv2 : v ≤ 20000 := by
        have := ST.get_le L i (by have := HL.out.1; omega)
        have := HL.out.2.1
        omega
      have HBn : Hid ((ST.byt (ST.rl true (L.take i))).length + v ≤ 20000) := by
        show _ ≤ _
        rw [ST.byt_len, ST.rl_len, hv, ← ST.sum_take L i (by have := HL.out.1; omega)]
        have := ST.sum_take_le L (i + 1)
        have := HL.out.2.1
        omega
      have hst := ST.rl_take L true i (by have := HL.out.1; omega)
      rw [← hv] at hst
      by_cases hp : i % 2 = 1
      · have tp : Int.tmod (i : Int) 2 = 1 := by rw [show Int.tmod (i : Int) 2 = ((i % 2 : Nat) : Int) from rfl, hp]; rfl
        have HSt : Hid (ST.byt (ST.rl true (L.take i)) ++ List.replicate v 76 = ST.byt (ST.rl true (L.take (i + 1)))) := by
          show _ = _
          rw [hst, if_neg (by omega), ST.byt_app, ST.byt_rep]
          rfl
        have HRp : Hid (∀ W, Calls Tryz.prog 73 #[.string ⟨#[76]⟩, .int .i64 (v : Int)] W fun e w' => e = .returned (.string ⟨(List.replicate v (76 : UInt8)).toArray⟩) ∧ Below W.heap.size W w') := fun W => by
          have := Tryz.strings_Repeat ⟨#[76]⟩ v W (by omega) (by show 1 * v ≤ _; omega)
          rw [← repeatL_byte]; exact this
        clear hst hv hp
        go_wp2_with fail
        refine (HRp.out _).mono ?_
        rintro e w1 ⟨rfl, k1⟩
        have hz1 := k1.size
        have HC1 : Hid (Bd w.heap.size (ST.byt (ST.rl true (L.take i))) w1 ∧ Below w.heap.size w w1) := ⟨HC.out.1.below k1, HC.out.2.trans (k1.mono HC.out.2.size)⟩
        clear k1
        go_wp2_with fail
        refine (Write_text w.heap.size _ (List.replicate v 76) w1 HC1.out.1 HC1.out.2.size (by have := HBn.out; simp only [List.length_replicate]; omega)).mono ?_
        rintro e w2 ⟨rfl, D2, k2⟩
        rw [HSt.out] at D2
        have hz2 := k2.size
        have HC2 : Hid (Bd w.heap.size (ST.byt (ST.rl true (L.take (i + 1)))) w2 ∧ Below w.heap.size w w2) := ⟨D2, HC1.out.2.trans k2⟩
        clear D2 k2 HC HC1
        go_wp2
        go_roundg (n - (i + 1))
        case rel => exact ⟨i + 1, by go_num, rfl, by omega, HC2.out.1, HC2.out.2, by omega⟩
        case measure => have := HGk.out; omega
      · have tp : Int.tmod (i : Int) 2 = 0 := by rw [show Int.tmod (i : Int) 2 = ((i % 2 : Nat) : Int) from rfl, show i % 2 = 0 by omega]; rfl
        have HSt : Hid (ST.byt (ST.rl true (L.take i)) ++ List.replicate v 82 = ST.byt (ST.rl true (L.take (i + 1)))) := by
          show _ = _
          rw [hst, if_pos (by omega), ST.byt_app, ST.byt_rep]
          rfl
        have HRp : Hid (∀ W, Calls Tryz.prog 73 #[.string ⟨#[82]⟩, .int .i64 (v : Int)] W fun e w' => e = .returned (.string ⟨(List.replicate v (82 : UInt8)).toArray⟩) ∧ Below W.heap.size W w') := fun W => by
          have := Tryz.strings_Repeat ⟨#[82]⟩ v W (by omega) (by show 1 * v ≤ _; omega)
          rw [← repeatL_byte]; exact this
        clear hst hv hp
        go_wp2_with fail
        refine (HRp.out _).mono ?_
        rintro e w1 ⟨rfl, k1⟩
        have hz1 := k1.size
        have HC1 : Hid (Bd w.heap.size (ST.byt (ST.rl true (L.take i))) w1 ∧ Below w.heap.size w w1) := ⟨HC.out.1.below k1, HC.out.2.trans (k1.mono HC.out.2.size)⟩
        clear k1
        go_wp2_with fail
        refine (Write_text w.heap.size _ (List.replicate v 82) w1 HC1.out.1 HC1.out.2.size (by have := HBn.out; simp only [List.length_replicate]; omega)).mono ?_
        rintro e w2 ⟨rfl, D2, k2⟩
        rw [HSt.out] at D2
        have hz2 := k2.size
        have HC2 : Hid (Bd w.heap.size (ST.byt (ST.rl true (L.take (i + 1)))) w2 ∧ Below w.heap.size w w2) := ⟨D2, HC1.out.2.trans k2⟩
        clear D2 k2 HC HC1
        go_wp2
        go_roundg (n - (i + 1))
        case rel => exact ⟨i + 1, by go_num, rfl, by omega, HC2.out.1, HC2.out.2, by omega⟩
        case measure => have := HGk.out; omega
    · have ti : decide ((i : Int) < (n : Int)) = false := decide_eq_false (by omega)
      obtain rfl : i = n := by omega
      have HB9 : Hid (Bd w.heap.size (ST.byt (ST.rl true L)) wr) := by
        have := HC.out.1
        rw [HL.out.1, List.take_length] at this
        exact this
      go_wp2_with fail
      refine (Tryz.Builder_String_any_k w.heap.size w.heap.size (ST.byt (ST.rl true L)) wr HB9.out (by omega)).mono ?_
      rintro e w1 ⟨rfl, _, k1, _⟩
      have HK9 : Hid (Below w.heap.size w w1) := HC.out.2.trans k1
      clear k1
      go_wp2
      go_ret
      exact ⟨rfl, HK9.out⟩
end Go.Proofs.YtcnfhndejkngkaaGreatDoor
end

section
set_option linter.unusedSimpArgs false
set_option linter.unusedVariables false
set_option maxRecDepth 100000
namespace Go.Proofs.YtcnfhndejkngkaaGreatDoor
namespace PT
def pt : Nat → Nat → Nat
  | 0, m => if m = 0 then 1 else 0
  | k + 1, m => if h : m < k + 1 then pt k m else pt k m + pt (k + 1) (m - (k + 1))
termination_by k m => (k, m)
def ptr (k m j : Nat) : Nat := if j < m then pt (k + 1) j else pt k j
end PT
end Go.Proofs.YtcnfhndejkngkaaGreatDoor
end

section
set_option linter.unusedSimpArgs false
set_option linter.unusedVariables false
set_option maxRecDepth 100000
namespace Go.Proofs.YtcnfhndejkngkaaGreatDoor
open Go.RowKit
def vcells (m : Nat) (c : Nat → Value) : List Value := (List.range m).map c
structure Pp (w W : World) (g n d : Nat) (c : Nat → Value) (f : Nat → Nat) : Prop where
  row : Cl g (vcells (n + 1) c) 39 W
  num : ∀ j, j < d → ∃ b, c j = .pointer (some ⟨b, 0, none⟩) ∧ BigAt W b (f j : Nat)
  g0 : w.heap.size ≤ g
  k : Below w.heap.size w W
end Go.Proofs.YtcnfhndejkngkaaGreatDoor
end

section
set_option linter.unusedSimpArgs false
set_option linter.unusedVariables false
set_option maxRecDepth 100000
namespace Go.Proofs.YtcnfhndejkngkaaGreatDoor
namespace DC
def rs (u d : Nat) : Nat → Nat
  | 0 => u % d
  | j + 1 => rs u d j * 10 % d
def dg (u d j : Nat) : Nat := rs u d j * 10 / d
theorem rs_lt {u d : Nat} (hd : 0 < d) : ∀ j, rs u d j < d
  | 0 => Nat.mod_lt _ hd
  | _ + 1 => Nat.mod_lt _ hd
def ends (u d j : Nat) : Bool := rs u d j == 0 || (List.range j).any fun i => rs u d i == rs u d j
theorem ends_iff (u d j : Nat) : ends u d j = true ↔ rs u d j = 0 ∨ ∃ i, i < j ∧ rs u d i = rs u d j := by
  unfold ends
  rw [Bool.or_eq_true, List.any_eq_true]
  constructor
  · rintro (h | ⟨i, h1, h2⟩)
    · exact .inl (by simpa using h)
    · exact .inr ⟨i, by simpa using h1, by simpa using h2⟩
  · rintro (h | ⟨i, h1, h2⟩)
    · exact .inl (by simpa using h)
    · exact .inr ⟨i, by simpa using h1, by simpa using h2⟩
def on (u d j : Nat) : Prop := ∀ i, i < j → ends u d i = false
theorem on_lt {u d j : Nat} (hd : 0 < d) (h : on u d j) : j < d := by
  rcases Nat.lt_or_ge j d with h1 | h1
  · exact h1
  · obtain ⟨i, h2, h3⟩ := pigeon d (rs u d) (fun i _ => rs_lt hd i) (fun i k h2 h3 e => by
      have h4 := h k (by omega)
      rw [(ends_iff u d k).2 (.inr ⟨i, h2, e⟩)] at h4
      exact absurd h4 (by decide)) 0 hd
    have h4 := h i (by omega)
    rw [(ends_iff u d i).2 (.inl h3)] at h4
    exact absurd h4 (by decide)
theorem on_ne {u d j i k : Nat} (h : on u d j) (h1 : i < k) (h2 : k < j) : rs u d i ≠ rs u d k := fun e => by
  have h4 := h k h2
  rw [(ends_iff u d k).2 (.inr ⟨i, h1, e⟩)] at h4
  exact absurd h4 (by decide)
def stp (u d : Nat) : Nat → Nat → Nat
  | 0, j => j
  | f + 1, j => if ends u d j then j else stp u d f (j + 1)
theorem stp_is {u d : Nat} (hd : 0 < d) : ∀ f j, on u d j → d ≤ f + j → on u d (stp u d f j) ∧ ends u d (stp u d f j) = true
  | 0, j, h, hf => by have := on_lt hd h; omega
  | f + 1, j, h, hf => by
    unfold stp
    by_cases e : ends u d j = true
    · rw [if_pos e]; exact ⟨h, e⟩
    · rw [if_neg e]
      refine stp_is hd f (j + 1) (fun i hi => ?_) (by omega)
      by_cases e2 : i = j
      · subst e2; simpa using e
      · exact h i (by omega)
def stop (u d : Nat) : Nat := stp u d d 0
theorem stop_is {u d : Nat} (hd : 0 < d) : on u d (stop u d) ∧ ends u d (stop u d) = true := stp_is hd d 0 (fun i hi => by omega) (by omega)
theorem stop_uniq {u d n : Nat} (hd : 0 < d) (h1 : on u d n) (h2 : ends u d n = true) : n = stop u d := by
  obtain ⟨h3, h4⟩ := stop_is (u := u) hd
  rcases Nat.lt_trichotomy n (stop u d) with h | h | h
  · have := h3 n h; rw [h2] at this; exact absurd this (by decide)
  · exact h
  · have := h1 _ h; rw [h4] at this; exact absurd this (by decide)
def dtl (u d : Nat) (j : Nat) : List UInt8 := (List.range j).map fun i => UInt8.ofNat (48 + dg u d i)
theorem dtl_succ (u d j : Nat) : dtl u d (j + 1) = dtl u d j ++ [UInt8.ofNat (48 + dg u d j)] := by simp [dtl, List.range_succ]
theorem dtl_len (u d j : Nat) : (dtl u d j).length = j := by simp [dtl]
def back (u d : Nat) : Nat := ((List.range (stop u d)).find? fun i => rs u d i == rs u d (stop u d)).getD 0
theorem back_is {u d k : Nat} (hd : 0 < d) (h1 : k < stop u d) (h2 : rs u d k = rs u d (stop u d)) : back u d = k := by
  have h3 := (stop_is (u := u) hd).1
  unfold back
  have : ((List.range (stop u d)).find? fun i => rs u d i == rs u d (stop u d)) = some k := by
    rw [List.find?_eq_some_iff_append]
    refine ⟨by simpa using h2, List.range k, (List.range (stop u d - k - 1)).map (fun i => k + 1 + i), ?_, ?_⟩
    · have : stop u d = k + (stop u d - k - 1 + 1) := by omega
      conv => lhs; rw [this, List.range_add]
      rw [List.range_succ_eq_map, List.map_cons]
      simp [Function.comp_def]
      omega
    · intro i hi
      have hi : i < k := by simpa using hi
      have := on_ne h3 hi h1
      rw [h2] at this
      simpa using this
  rw [this]
  rfl
def tail (u d : Nat) : List UInt8 :=
  if u % d = 0 then [] else 46 :: (if rs u d (stop u d) = 0 then dtl u d (stop u d) else dtl u d (back u d) ++ 40 :: (dtl u d (stop u d)).drop (back u d) ++ [41])
def text (x : Int) (d : Nat) : List UInt8 := (if x < 0 then [45] else []) ++ Lib.decDigits (x.natAbs / d) ++ tail x.natAbs d
end DC
end Go.Proofs.YtcnfhndejkngkaaGreatDoor
end

section
set_option linter.unusedSimpArgs false
set_option linter.unusedVariables false
set_option maxRecDepth 100000
namespace Go.Proofs.YtcnfhndejkngkaaGreatDoor
open Go.RowKit LgM
namespace DC
def sn (u d : Nat) : Nat → Nat → Int
  | 0 => fun _ => -1
  | n + 1 => fun i => if i = rs u d n then (n : Int) else sn u d n i
end DC
def icells (N : Nat) (f : Nat → Int) : List Value := vcells N (fun i => .int .i64 (f i))
structure Dq (x y : Int) (N : Nat) (w W : World) (g : Nat) (f : Nat → Int) (v : Value) (n : Nat) (cs : List UInt8) : Prop where
  xs : Cl w.heap.size [.int .i64 x, .int .i64 y] 23 W
  row : Cl g (icells N f) 3 W
  dig : W.ownsRow (g + 1) 5 1 v n (u8s cs)
  g0 : w.heap.size < g
  k : Below w.heap.size w W
end Go.Proofs.YtcnfhndejkngkaaGreatDoor
end

section
set_option linter.unusedSimpArgs false
set_option linter.unusedVariables false
set_option maxRecDepth 100000
namespace Go.Proofs.YtcnfhndejkngkaaGreatDoor
open Go.RowKit
theorem own_belF {B n sz : Nat} {w w' : World} {v : Value} {xs : List Value} {e : TypeId} (h : w.ownsRow B e sz v n xs) (k : Below w.heap.size w w') : w'.ownsRow B e sz v n xs := by
  refine ⟨h.1, ?_⟩
  rcases h.2 with hn | ⟨g, cap, cur, h1, h2, h3, h4⟩
  · exact .inl hn
  · exact .inr ⟨g, cap, cur, h1, h2, (k.block g (lt_of_some h3)).trans h3, h4⟩
def fbl (n : Nat) : List Int := (List.range n).map fun k => (FZ.fib k : Int)
def nzl (L : List Nat) : List Int := List.map (fun k : Nat => (k : Int)) L
end Go.Proofs.YtcnfhndejkngkaaGreatDoor
end

section
set_option linter.unusedSimpArgs false
set_option linter.unusedVariables false
set_option maxRecDepth 100000
namespace Go.Proofs.YtcnfhndejkngkaaGreatDoor
open Go.RowKit
section
variable {P : Program} {ops : Array Oper} {Q : Exit → Act → World → Prop} {md : Region.Mode} {S : World → Prop}
theorem wpAnyG_two {i j g : Nat} {oi oj : Oper} {fuel : Nat} {listed : Array Bool} {a : Act} {w : World} (hi : ops[i]? = some oi) (hj : ops[j]? = some oj) (hr : Region.ready md ops listed = [i, j])
    (h1 : ∀ K' : Act → World → Prop, Hid (∀ a w, S w → wpAnyG P md ops Q S g fuel (listed.setIfInBounds i true) a w → K' a w) → if Region.wanted oi (yielded ops a.tmps) = true then Oper.wp P oi a w K' Q else K' (a.put oi.dst undef) w)
    (h2 : ∀ K' : Act → World → Prop, Hid (∀ a w, S w → wpAnyG P md ops Q S g fuel (listed.setIfInBounds j true) a w → K' a w) → if Region.wanted oj (yielded ops a.tmps) = true then Oper.wp P oj a w K' Q else K' (a.put oj.dst undef) w) :
    wpAnyG P md ops Q S g (fuel + 1) listed a w := by
  refine ⟨fun h0 => (by rw [hr] at h0; cases h0), fun m hm => ?_⟩
  rw [hr] at hm
  simp at hm
  rcases hm with rfl | rfl
  · exact wpOp_step hi fun K' hK => h1 K' (fun a w h1 h2 => hK a w ⟨fun _ _ => h1, h2⟩)
  · exact wpOp_step hj fun K' hK => h2 K' (fun a w h1 h2 => hK a w ⟨fun _ _ => h1, h2⟩)
end
end Go.Proofs.YtcnfhndejkngkaaGreatDoor
end
