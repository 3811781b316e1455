/- The reference's ClassesOf. -/
import Derived.Test.YtijkanilpblogaeFormReducesWalk
import Derived.Maps.AppendAt
set_option linter.unusedSimpArgs false
set_option linter.unusedVariables false
set_option maxRecDepth 100000
namespace Go.Proofs.Ytijkanilpblogae
open Go.RowKit

/-- The form with this A and B, of the discriminant d. -/
def formOf (d a b : Int) : Qf := ⟨a, b, (b * b - d).tdiv (4 * a)⟩
/-- What the search takes at A and B. -/
def clsB (d a b : Int) : Bool := ((b * b - d).tmod (4 * a) == 0) && ((formOf d a b).redB && ((ffault (formOf d a b)).1 == 0))
def cls (d a b : Int) : List Qf := if clsB d a b then [formOf d a b] else []
/-- One A, the first n numbers B from -A on. -/
def rowTo (d a : Int) (n : Nat) : List Qf := (List.range n).flatMap fun i : Nat => cls d a ((i : Int) - a)
/-- A from 1 to n. -/
def classesTo (d : Int) (n : Nat) : List Qf := (List.range n).flatMap fun k : Nat => rowTo d ((k : Int) + 1) (2 * (k + 1) + 1)

theorem rowTo_succ (d a : Int) (n : Nat) : rowTo d a (n + 1) = rowTo d a n ++ cls d a ((n : Int) - a) := by
  unfold rowTo; rw [List.range_succ, List.flatMap_append]; simp
theorem classesTo_succ (d : Int) (n : Nat) : classesTo d (n + 1) = classesTo d n ++ rowTo d ((n : Int) + 1) (2 * (n + 1) + 1) := by
  unfold classesTo; rw [List.range_succ, List.flatMap_append]; simp
theorem cls_len (d a b : Int) : (cls d a b).length ≤ 1 := by unfold cls; split <;> simp
theorem rowTo_len (d a : Int) : ∀ n, (rowTo d a n).length ≤ n
  | 0 => by simp [rowTo]
  | n + 1 => by
    rw [rowTo_succ, List.length_append]
    have := rowTo_len d a n
    have := cls_len d a ((n : Int) - a)
    omega
theorem classesTo_len (d : Int) : ∀ n, n ≤ 300 → (classesTo d n).length ≤ n * 603
  | 0, _ => by simp [classesTo]
  | n + 1, h => by
    rw [classesTo_succ, List.length_append]
    have := classesTo_len d n (by omega)
    have := rowTo_len d ((n : Int) + 1) (2 * (n + 1) + 1)
    omega

/-- Forms in a row of cells. -/
def qcells (l : List Qf) : List Value := l.flatMap Qf.l
theorem qcells_one (l : List Qf) (f : Qf) : qcells (l ++ [f]) = qcells l ++ f.l := by simp [qcells]
/-- The list so far. -/
structure Lw (B : Nat) (l : List Qf) (a : Option Addr) (c : Nat) (w W : World) : Prop where
  row : W.ownsRow B 32 3 (.slice a l.length c) l.length (qcells l)
  k : Below B w W

theorem Try.infoForm : (Try.prog.info? 32).map (fun i => (i.zero, i.size, i.bytes)) = some (some (.agg #[.int .i64 0, .int .i64 0, .int .i64 0]), 3, 24) := by kernel_rfl

theorem row_any {B n : Nat} {v : Value} {t : TypeId} {W W' : World} {xs : List Value} (h : W.ownsRow B t 3 v n xs) (k : Below W.heap.size W W') : W'.ownsRow B t 3 v n xs := by
  obtain ⟨h1, h2⟩ := h
  refine ⟨h1, ?_⟩
  rcases h2 with h3 | ⟨g, cap, cur, h3, h4, h5, h6⟩
  · exact .inl h3
  · exact .inr ⟨g, cap, cur, h3, h4, (k.block g (Array.getElem?_eq_some_iff.1 h5).1).trans h5, h6⟩
theorem Lw.below {B : Nat} {l : List Qf} {a : Option Addr} {c : Nat} {w W W' : World} (h : Lw B l a c w W) (hB : B ≤ W.heap.size) (k : Below W.heap.size W W') : Lw B l a c w W' := ⟨row_any h.row k, h.k.trans (k.mono hB)⟩

theorem Cl.news {b : Nat} {l : List Value} {t : TypeId} {w : World} (h : Cl b l t w) : ∀ j u, l[j]? = some u → w.cell? ((⟨b, 0, none⟩ : Addr).add j) = some u := by
  intro j u hu
  have := h.cell j
  rw [hu] at this
  rcases j with _ | j
  · simpa [Addr.add] using this
  · simpa [Addr.add] using this
theorem field_fault0 (w : World) (x y : Int) : (Instr.field 24 (.agg #[.int .i64 x, .int .i64 y]) 0).run Try.prog w = .ok (.int .i64 x) w := by
  kernel_rfl

set_option maxHeartbeats 8000000 in
theorem ClassesOf_any (d : Int) (w : World) (hd : -200000 ≤ d ∧ d < 0) :
    Calls Try.prog 12 #[.int .i64 d] w fun e w' => ∃ (n : Nat) (a : Option Addr) (c : Nat), e = .returned (.slice a (classesTo d n).length c) ∧ (3 * (n : Int) * n ≤ -d ∧ -d < 3 * ((n : Int) + 1) * ((n : Int) + 1)) ∧ Lw w.heap.size (classesTo d n) a c w w' := by
  obtain ⟨i0, hi, hz0, hz1, hz2⟩ := info_parts Try.infoForm
  have HI : Hid (Try.prog.info? 32 = some i0 ∧ i0.zero = some (.agg #[.int .i64 0, .int .i64 0, .int .i64 0]) ∧ i0.size = 3 ∧ i0.bytes = 24) := ⟨hi, hz0, hz1, hz2⟩
  clear hi hz0 hz1 hz2
  obtain ⟨hd1, hd2⟩ := hd
  go_enter Try.func12, Try.ntmps12
  go_wp2
  go_loopw [3, 4] (fun ov av wx => ∃ (n : Nat) (A : Int) (a : Option Addr) (c : Nat), ov = .slice a (classesTo d n).length c ∧ av = .int .i64 A ∧ Hid (A = (n : Int) + 1 ∧ 3 * (n : Int) * n ≤ -d ∧ n ≤ 258 ∧ Lw w.heap.size (classesTo d n) a c w wx)) (fun _ av _ => 300 - (intOf av).toNat)
  case atStart => exact ⟨0, 1, none, 0, rfl, rfl, rfl, by omega, by omega, World.ownsRow_nil _ _ _ _, Below.refl _ _⟩
  case round =>
    obtain ⟨n, A, a, c, rfl, rfl, HR⟩ := hrel
    obtain ⟨hA, hn, hn2, hL⟩ := HR.out
    have hA1 : 1 ≤ A ∧ A ≤ 259 := by omega
    obtain ⟨Q, hQ⟩ : ∃ Q, Q = 3 * A * A := ⟨_, rfl⟩
    have hQb : 0 ≤ Q ∧ Q ≤ 300000 := by
      have h1 : A * A ≤ 259 * 259 := Int.mul_le_mul hA1.2 hA1.2 (by omega) (by omega)
      have h2 := sq_nn A
      have h3 : 3 * A * A = 3 * (A * A) := Int.mul_assoc ..
      omega
    have hQ2 : 3 * A * A = Q := hQ.symm
    have HQ : Hid (Q = 3 * A * A) := hQ
    clear hQ hA hn hn2 hL
    by_cases hle : Q ≤ -d
    · have hlb : decide (Q ≤ -d) = true := decide_eq_true hle
      have hAn := HR.out.1
      have HL0 : Hid (Lw w.heap.size (classesTo d n) a c w wr) := HR.out.2.2.2
      have HN : Hid (A = (n : Int) + 1 ∧ n ≤ 258) := ⟨HR.out.1, HR.out.2.2.1⟩
      have hclen : (classesTo d n).length ≤ 160000 := by have := classesTo_len d n (by have := HN.out.2; omega); have := HN.out.2; omega
      obtain ⟨L0, hL0⟩ : ∃ L0, L0 = classesTo d n := ⟨_, rfl⟩
      rw [← hL0] at HL0 hclen ⊢
      have HL00 : Hid (L0 = classesTo d n) := hL0
      have HQle : Hid (3 * ((n : Int) + 1) * ((n : Int) + 1) ≤ -d) := by
        have := HQ.out
        rw [HN.out.1] at this
        show _ ≤ _
        omega
      clear hL0 HR hAn
      go_wp2
      go_loopw [3, 5] (fun ov bv wx => ∃ (i : Nat) (b : Int) (a' : Option Addr) (c' : Nat), ov = .slice a' (L0 ++ rowTo d A i).length c' ∧ bv = .int .i64 b ∧ Hid (b = (i : Int) - A ∧ (i : Int) ≤ 2 * A + 1 ∧ Lw w.heap.size (L0 ++ rowTo d A i) a' c' w wx)) (fun _ bv _ => (A + 1 - intOf bv).toNat)
      case atStart => exact ⟨0, -A, a, c, by simp [rowTo], rfl, by omega, by omega, by simpa [rowTo] using HL0.out⟩
      case round =>
        clear HL0 hlb hle hQ2 hQb
        obtain ⟨i, b, a', c', rfl, rfl, HR⟩ := hrel
        obtain ⟨hb, hi2, hLw⟩ := HR.out
        have hb1 : -A ≤ b ∧ b ≤ A + 1 := by omega
        have HB : Hid (b = (i : Int) - A) := hb
        have hilen : (rowTo d A i).length ≤ 600 := by have := rowTo_len d A i; omega
        obtain ⟨L, hL⟩ : ∃ L, L = L0 ++ rowTo d A i := ⟨_, rfl⟩
        have hLlen : L.length ≤ 200000 := by rw [hL, List.length_append]; omega
        rw [← hL] at hLw ⊢
        have HLw : Hid (Lw w.heap.size L a' c' w wr) := hLw
        have HL : Hid (L = L0 ++ rowTo d A i) := hL
        have hwz := hLw.k.size
        clear HR hb hi2 hLw hL hilen
        by_cases hbA : b ≤ A
        · have hbb : decide (b ≤ A) = true := decide_eq_true hbA
          obtain ⟨P, hP⟩ : ∃ P, P = b * b := ⟨_, rfl⟩
          have hPb : 0 ≤ P ∧ P ≤ 70000 := by
            have h1 := sq_bd (show -259 ≤ b by omega) (show b ≤ 259 by omega) (show -259 ≤ b by omega) (show b ≤ 259 by omega)
            have h2 := sq_nn b
            omega
          have hP2 : b * b = P := hP.symm
          have hz4 : (4 * A == 0) = false := beq_eq_false_iff_ne.2 (by omega)
          obtain ⟨T, hT⟩ : ∃ T, (P - d).tmod (4 * A) = T := ⟨_, rfl⟩
          obtain ⟨C, hC⟩ : ∃ C, (P - d).tdiv (4 * A) = C := ⟨_, rfl⟩
          have hTb : -2000 ≤ T ∧ T ≤ 2000 := by
            have h1 := Int.tmod_nonneg (4 * A) (show 0 ≤ P - d by omega)
            have h2 := Int.tmod_lt_of_pos (P - d) (show 0 < 4 * A by omega)
            omega
          have hCb : 0 ≤ C ∧ C ≤ 300000 := by
            have h1 := Int.tdiv_nonneg (show 0 ≤ P - d by omega) (show 0 ≤ 4 * A by omega)
            have h2 := Int.natAbs_tdiv (P - d) (4 * A)
            have h3 : (P - d).natAbs.div (4 * A).natAbs ≤ (P - d).natAbs := Nat.div_le_self _ _
            rw [hC] at h1 h2
            omega
          have hF : formOf d A b = ⟨A, b, C⟩ := by unfold formOf; rw [hP2, hC]
          have HS : Hid (rowTo d A (i + 1) = rowTo d A i ++ cls d A b) := by have := rowTo_succ d A i; rw [← HB.out] at this; exact this
          have HCl : Hid (clsB d A b = ((T == 0) && ((⟨A, b, C⟩ : Qf).redB && ((ffault ⟨A, b, C⟩).1 == 0)))) := by show clsB d A b = _; unfold clsB; rw [hF, hP2, hT]
          have HF : Hid (formOf d A b = ⟨A, b, C⟩) := hF
          have hskip : clsB d A b = false → (L0 ++ rowTo d A (i + 1)) = L := fun h => by
            rw [HS.out, cls, h, HL.out]; simp
          have HSk : Hid (clsB d A b = false → (L0 ++ rowTo d A (i + 1)) = L) := hskip
          clear hP hF hskip
          cases hT0 : (T == 0)
          · have hlen := HSk.out (by rw [HCl.out, hT0]; rfl)
            have HLen : Hid ((L0 ++ rowTo d A (i + 1)) = L) := hlen
            clear hlen
            go_wp2
            go_roundw
            case rel => exact ⟨i + 1, b + 1, a', c', by rw [HLen.out], by go_num, by have := HB.out; omega, by have := HB.out; omega, by rw [HLen.out]; exact HLw.out⟩
            case measure => simp [intOf]; omega
          · have HRed : Hid (∀ w, Calls Try.prog 16 #[(⟨A, b, C⟩ : Qf).v] w fun e w' => e = .returned (.bool (⟨A, b, C⟩ : Qf).redB) ∧ Below w.heap.size w w') := fun w => refReduced_any ⟨A, b, C⟩ w ⟨by show -4000000000000 ≤ A; omega, by show A ≤ 4000000000000; omega, by show -4000000000000 ≤ b; omega, by show b ≤ 4000000000000; omega, by show -4000000000000 ≤ C; omega, by show C ≤ 4000000000000; omega⟩
            have HFl : Hid (∀ w, Calls Try.prog 14 #[(⟨A, b, C⟩ : Qf).v] w fun e w' => e = .returned (ffv (ffault ⟨A, b, C⟩)) ∧ Below w.heap.size w w') := fun w => refFormFault_any ⟨A, b, C⟩ w
            unfold Qf.v at HRed HFl
            simp only [] at HRed HFl
            obtain ⟨rb, hrb⟩ : ∃ rb, (⟨A, b, C⟩ : Qf).redB = rb := ⟨_, rfl⟩
            obtain ⟨f1, f2, hfl⟩ : ∃ f1 f2, ffault ⟨A, b, C⟩ = (f1, f2) := ⟨_, _, rfl⟩
            rw [hrb] at HRed
            rw [hfl] at HFl
            replace HFl : Hid (∀ w, Calls Try.prog 14 #[.agg #[.int .i64 A, .int .i64 b, .int .i64 C]] w fun e w' => e = .returned (.agg #[.int .i64 f1, .int .i64 f2]) ∧ Below w.heap.size w w') := HFl
            have hfld := fun w : World => field_fault0 w f1 f2
            rw [hrb, hfl] at HCl
            clear hrb hfl
            cases rb
            · go_wp2_with fail
              refine (HRed.out _).mono ?_
              rintro e w1 ⟨rfl, k1⟩
              have HLw1 : Hid (Lw w.heap.size L a' c' w w1) := (HLw.out.below hwz (al1 wr _)).below (by simp; omega) k1
              clear k1
              have hlen := HSk.out (by rw [HCl.out, hT0]; simp)
              have HLen : Hid ((L0 ++ rowTo d A (i + 1)) = L) := hlen
              clear hlen
              go_wp2
              go_roundw
              case rel => exact ⟨i + 1, b + 1, a', c', by rw [HLen.out], by go_num, by have := HB.out; omega, by have := HB.out; omega, by rw [HLen.out]; exact HLw1.out⟩
              case measure => simp [intOf]; omega
            · cases hf1 : (f1 == 0)
              · go_wp2_with fail
                refine (HRed.out _).mono ?_
                rintro e w1 ⟨rfl, k1⟩
                have HLw1 : Hid (Lw w.heap.size L a' c' w w1) := (HLw.out.below hwz (al1 wr _)).below (by simp; omega) k1
                have P1 := (Cl.new [.int .i64 A, .int .i64 b, .int .i64 C] 32 wr).below k1
                have p0 := P1.cell 0
                have p1 := P1.cell 1
                have p2 := P1.cell 2
                simp at p0 p1 p2
                have hz1 : w.heap.size ≤ w1.heap.size := by have := k1.size; simp at this; omega
                clear k1 P1
                go_wp2_with fail
                refine (HFl.out _).mono ?_
                rintro e w2 ⟨rfl, k2⟩
                have HLw2 : Hid (Lw w.heap.size L a' c' w w2) := HLw1.out.below hz1 k2
                clear k2 p0 p1 p2
                have hlen := HSk.out (by rw [HCl.out, hT0, show ((f1, f2).1 == 0) = false from hf1]; simp)
                have HLen : Hid ((L0 ++ rowTo d A (i + 1)) = L) := hlen
                clear hlen
                go_wp2
                go_roundw
                case rel => exact ⟨i + 1, b + 1, a', c', by rw [HLen.out], by go_num, by have := HB.out; omega, by have := HB.out; omega, by rw [HLen.out]; exact HLw2.out⟩
                case measure => simp [intOf]; omega
              · go_wp2_with fail
                refine (HRed.out _).mono ?_
                rintro e w1 ⟨rfl, k1⟩
                have HLw1 : Hid (Lw w.heap.size L a' c' w w1) := (HLw.out.below hwz (al1 wr _)).below (by simp; omega) k1
                have P1 := (Cl.new [.int .i64 A, .int .i64 b, .int .i64 C] 32 wr).below k1
                have HP1 : Hid (Cl wr.heap.size [.int .i64 A, .int .i64 b, .int .i64 C] 32 w1) := P1
                have p0 := P1.cell 0
                have p1 := P1.cell 1
                have p2 := P1.cell 2
                simp at p0 p1 p2
                have hz1 : w.heap.size ≤ w1.heap.size := by have := k1.size; simp at this; omega
                clear k1 P1
                go_wp2_with fail
                refine (HFl.out _).mono ?_
                rintro e w2 ⟨rfl, k2⟩
                have HLw2 : Hid (Lw w.heap.size L a' c' w w2) := HLw1.out.below hz1 k2
                have P2 := HP1.out.below k2
                have hz2 : w.heap.size ≤ w2.heap.size := by have := k2.size; omega
                clear k2 p0 p1 p2 HP1
                have p0 := P2.cell 0
                have p1 := P2.cell 1
                have p2 := P2.cell 2
                simp at p0 p1 p2
                clear P2
                go_wp2_with (at_builtin; refine wpList_append_own _ rfl _ _ 22 rfl w.heap.size 32 i0 (.agg #[.int .i64 0, .int .i64 0, .int .i64 0]) 3 24 Try.underlying22 HI.out.1 HI.out.2.1 HI.out.2.2.1 HI.out.2.2.2 rfl (by decide) (.slice a' L.length c') L.length (qcells L) rfl (HLw2.out.row.alloc _) ⟨w2.heap.size, 0, none⟩ 1 1 [.int .i64 A, .int .i64 b, .int .i64 C] rfl rfl (Cl.new [.int .i64 A, .int .i64 b, .int .i64 C] 32 w2).news (by simp [Value.oneCell']) (by simp only [maxLen]; omega) (by omega) (by simp; omega) ?_; intro v' w6 hown' hgrow _; obtain ⟨g', cap', rfl⟩ := ownsRow_succ hown')
                have HN6 : Hid (Lw w.heap.size (L ++ [⟨A, b, C⟩]) (some ⟨g', 0, none⟩) cap' w w6) :=
                  ⟨by rw [List.length_append, qcells_one]; exact hown', (HLw2.out.k.alloc hz2 _).grown hgrow (by simp; omega) (fun k e => (HLw2.out.row.lt k e).1)⟩
                clear hown' hgrow
                go_roundw
                case rel =>
                  have hc1 : clsB d A b = true := by rw [HCl.out, hT0, show ((f1, f2).1 == 0) = true from hf1]; rfl
                  have hLL : L0 ++ rowTo d A (i + 1) = L ++ [⟨A, b, C⟩] := by
                    rw [HS.out, cls, hc1, HF.out, HL.out, List.append_assoc]; rfl
                  exact ⟨i + 1, b + 1, some ⟨g', 0, none⟩, cap', by rw [hLL, List.length_append]; rfl, by go_num, by have := HB.out; omega, by have := HB.out; omega, by rw [hLL]; exact HN6.out⟩
                case measure => simp [intOf]; omega
        · have hbb : decide (b ≤ A) = false := decide_eq_false hbA
          go_wp2
          go_roundw
          case rel =>
            have hiA : i = 2 * (n + 1) + 1 := by have := HB.out; have := HN.out.1; omega
            have hLn : L = classesTo d (n + 1) := by
              rw [classesTo_succ, HL.out, HL00.out, hiA, HN.out.1]
            have hn258 : n + 1 ≤ 258 := by
              rcases Nat.lt_or_ge 258 (n + 1) with h | h
              · exfalso
                have h2 : (259 : Int) * 259 ≤ ((n : Int) + 1) * ((n : Int) + 1) := Int.mul_le_mul (by omega) (by omega) (by omega) (by omega)
                have h3 := HQle.out
                rw [Int.mul_assoc] at h3
                omega
              · exact h
            refine ⟨n + 1, A + 1, a', c', by rw [hLn], by go_num, by have := HN.out.1; omega, ?_, hn258, by rw [← hLn]; exact HLw.out⟩
            have := HQle.out
            push_cast
            exact this
          case measure => simp [intOf]; omega
    · have hlb : decide (Q ≤ -d) = false := decide_eq_false hle
      go_wp2
      go_ret
      obtain ⟨hA, hn, hn2, hL⟩ := HR.out
      refine ⟨n, a, c, rfl, ⟨hn, ?_⟩, hL⟩
      have := HQ.out
      rw [hA] at this
      omega

end Go.Proofs.Ytijkanilpblogae
