/- The program: quad.classes and Classes. -/
import Derived.Test.YtijkanilpblogaeQcE
import Derived.Test.YtijkanilpblogaeQfF
import Derived.Test.YtijkanilpblogaeFormClassesWalk
import Derived.Maps.AppendAt
set_option linter.unusedSimpArgs false
set_option linter.unusedVariables false
set_option maxRecDepth 100000
namespace Go.Proofs.Ytijkanilpblogae
open Go.RowKit

/-- What the program tests, is what the reference tests. -/
theorem clsB_code {d A b C : Int} (hd : d < 0) (hA : 1 ≤ A) (hC : (b * b - d).tdiv (4 * A) = C) (hU : Qf.upto 1000000 ⟨A, b, C⟩) :
    clsB d A b = (((⟨A, b, C⟩ : Qf).disc == d) && ((⟨A, b, C⟩ : Qf).redB && ((Int.gcd (Int.gcd A b) C : Int) == 1))) := by
  have hF : formOf d A b = ⟨A, b, C⟩ := by unfold formOf; rw [hC]
  have h1 := Int.mul_tdiv_add_tmod (b * b - d) (4 * A)
  rw [hC] at h1
  have h2 : (⟨A, b, C⟩ : Qf).disc = d + (b * b - d).tmod (4 * A) := by
    unfold Qf.disc; simp only []; omega
  unfold clsB
  rw [hF]
  by_cases h3 : (b * b - d).tmod (4 * A) = 0
  · rw [h3] at h2 ⊢
    have h4 : (⟨A, b, C⟩ : Qf).disc = d := by omega
    rw [h4]
    have h5 : ((ffault ⟨A, b, C⟩).1 == 0) = ((Int.gcd (Int.gcd A b) C : Int) == 1) := by
      have o : ∀ x : Int, -1000000 ≤ x → x ≤ 1000000 → okc x = true := fun x h1 h2 => by unfold okc; simp; omega
      obtain ⟨u1, u2, u3, u4, u5, u6⟩ := hU
      unfold ffault
      simp only [] at u1 u2 u3 u4 u5 u6 ⊢
      rw [if_neg (by rw [o A u1 u2]; simp), if_neg (by rw [o b u3 u4]; simp), if_neg (by rw [o C u5 u6]; simp), if_neg (by rw [h4]; omega)]
      by_cases h6 : Int.gcd (Int.gcd A b) C = 1
      · rw [if_neg (by simpa using h6), h6]; rfl
      · rw [if_pos h6]
        have : ((Int.gcd (Int.gcd A b) C : Int) == 1) = false := beq_eq_false_iff_ne.2 (by omega)
        rw [this]; rfl
    rw [h5]
    simp
  · have h4 : ((⟨A, b, C⟩ : Qf).disc == d) = false := beq_eq_false_iff_ne.2 (by omega)
    rw [h4, beq_eq_false_iff_ne.2 h3]
    rfl

set_option maxHeartbeats 8000000 in
theorem classes_any (d : Int) (w : World) (hd : -200000 ≤ d ∧ d < 0) :
    Calls Try.prog 30 #[.int .i64 d] w fun e w' => ∃ (n : Nat) (a : Option Addr) (c : Nat), e = .returned (.slice a (classesTo d n).length c) ∧ (3 * (n : Int) * n ≤ -d ∧ -d < 3 * ((n : Int) + 1) * ((n : Int) + 1)) ∧ Lw w.heap.size (classesTo d n) a c w w' := by
  obtain ⟨i0, hi, hz0, hz1, hz2⟩ := info_parts Try.infoForm
  have HI : Hid (Try.prog.info? 32 = some i0 ∧ i0.zero = some (.agg #[.int .i64 0, .int .i64 0, .int .i64 0]) ∧ i0.size = 3 ∧ i0.bytes = 24) := ⟨hi, hz0, hz1, hz2⟩
  clear hi hz0 hz1 hz2
  obtain ⟨hd1, hd2⟩ := hd
  go_enter Try.func30, Try.ntmps30
  go_wp2
  go_loopw [3, 4] (fun ov av wx => ∃ (n : Nat) (A : Int) (a : Option Addr) (c : Nat), ov = .slice a (classesTo d n).length c ∧ av = .int .i64 A ∧ Hid (A = (n : Int) + 1 ∧ 3 * (n : Int) * n ≤ -d ∧ n ≤ 258 ∧ Lw w.heap.size (classesTo d n) a c w wx)) (fun _ av _ => 300 - (intOf av).toNat)
  case atStart => exact ⟨0, 1, none, 0, rfl, rfl, rfl, by omega, by omega, World.ownsRow_nil _ _ _ _, Below.refl _ _⟩
  case round =>
    obtain ⟨n, A, a, c, rfl, rfl, HR⟩ := hrel
    obtain ⟨hA, hn, hn2, hL⟩ := HR.out
    have hA1 : 1 ≤ A ∧ A ≤ 259 := by omega
    obtain ⟨Q, hQ⟩ : ∃ Q, Q = 3 * A * A := ⟨_, rfl⟩
    have hQb : 0 ≤ Q ∧ Q ≤ 300000 := by
      have h1 : A * A ≤ 259 * 259 := Int.mul_le_mul hA1.2 hA1.2 (by omega) (by omega)
      have h2 := sq_nn A
      have h3 : 3 * A * A = 3 * (A * A) := Int.mul_assoc ..
      omega
    have hQ2 : 3 * A * A = Q := hQ.symm
    have HQ : Hid (Q = 3 * A * A) := hQ
    clear hQ hA hn hn2 hL
    by_cases hle : Q ≤ -d
    · have hlb : decide (Q ≤ -d) = true := decide_eq_true hle
      have hAn := HR.out.1
      have HL0 : Hid (Lw w.heap.size (classesTo d n) a c w wr) := HR.out.2.2.2
      have HN : Hid (A = (n : Int) + 1 ∧ n ≤ 258) := ⟨HR.out.1, HR.out.2.2.1⟩
      have hclen : (classesTo d n).length ≤ 160000 := by have := classesTo_len d n (by have := HN.out.2; omega); have := HN.out.2; omega
      obtain ⟨L0, hL0⟩ : ∃ L0, L0 = classesTo d n := ⟨_, rfl⟩
      rw [← hL0] at HL0 hclen ⊢
      have HL00 : Hid (L0 = classesTo d n) := hL0
      have HQle : Hid (3 * ((n : Int) + 1) * ((n : Int) + 1) ≤ -d) := by
        have := HQ.out
        rw [HN.out.1] at this
        show _ ≤ _
        omega
      clear hL0 HR hAn
      go_wp2
      go_loopw [3, 5] (fun ov bv wx => ∃ (i : Nat) (b : Int) (a' : Option Addr) (c' : Nat), ov = .slice a' (L0 ++ rowTo d A i).length c' ∧ bv = .int .i64 b ∧ Hid (b = (i : Int) - A ∧ (i : Int) ≤ 2 * A + 1 ∧ Lw w.heap.size (L0 ++ rowTo d A i) a' c' w wx)) (fun _ bv _ => (A + 1 - intOf bv).toNat)
      case atStart => exact ⟨0, -A, a, c, by simp [rowTo], rfl, by omega, by omega, by simpa [rowTo] using HL0.out⟩
      case round =>
        clear HL0 hlb hle hQ2 hQb
        obtain ⟨i, b, a', c', rfl, rfl, HR⟩ := hrel
        obtain ⟨hb, hi2, hLw⟩ := HR.out
        have hb1 : -A ≤ b ∧ b ≤ A + 1 := by omega
        have HB : Hid (b = (i : Int) - A) := hb
        have hilen : (rowTo d A i).length ≤ 600 := by have := rowTo_len d A i; omega
        obtain ⟨L, hL⟩ : ∃ L, L = L0 ++ rowTo d A i := ⟨_, rfl⟩
        have hLlen : L.length ≤ 200000 := by rw [hL, List.length_append]; omega
        rw [← hL] at hLw ⊢
        have HLw : Hid (Lw w.heap.size L a' c' w wr) := hLw
        have HL : Hid (L = L0 ++ rowTo d A i) := hL
        have hwz := hLw.k.size
        clear HR hb hi2 hLw hL hilen
        by_cases hbA : b ≤ A
        · have hbb : decide (b ≤ A) = true := decide_eq_true hbA
          obtain ⟨P, hP⟩ : ∃ P, P = b * b := ⟨_, rfl⟩
          have hPb : 0 ≤ P ∧ P ≤ 70000 := by
            have h1 := sq_bd (show -259 ≤ b by omega) (show b ≤ 259 by omega) (show -259 ≤ b by omega) (show b ≤ 259 by omega)
            have h2 := sq_nn b
            omega
          have hP2 : b * b = P := hP.symm
          have hz4 : (4 * A == 0) = false := beq_eq_false_iff_ne.2 (by omega)
          obtain ⟨C, hC⟩ : ∃ C, (P - d).tdiv (4 * A) = C := ⟨_, rfl⟩
          have hCb : 0 ≤ C ∧ C ≤ 300000 := by
            have h1 := Int.tdiv_nonneg (show 0 ≤ P - d by omega) (show 0 ≤ 4 * A by omega)
            have h2 := Int.natAbs_tdiv (P - d) (4 * A)
            have h3 : (P - d).natAbs.div (4 * A).natAbs ≤ (P - d).natAbs := Nat.div_le_self _ _
            rw [hC] at h1 h2
            omega
          have hF : formOf d A b = ⟨A, b, C⟩ := by unfold formOf; rw [hP2, hC]
          have hU : Qf.upto 1000000 ⟨A, b, C⟩ := ⟨by show -1000000 ≤ A; omega, by show A ≤ 1000000; omega, by show -1000000 ≤ b; omega, by show b ≤ 1000000; omega, by show -1000000 ≤ C; omega, by show C ≤ 1000000; omega⟩
          have HS : Hid (rowTo d A (i + 1) = rowTo d A i ++ cls d A b) := by have := rowTo_succ d A i; rw [← HB.out] at this; exact this
          have hCl := clsB_code (d := d) (A := A) (b := b) (C := C) hd2 hA1.1 (by rw [hP2]; exact hC) hU
          have HF : Hid (formOf d A b = ⟨A, b, C⟩) := hF
          have hskip : clsB d A b = false → (L0 ++ rowTo d A (i + 1)) = L := fun h => by
            rw [HS.out, cls, h, HL.out]; simp
          have HSk : Hid (clsB d A b = false → (L0 ++ rowTo d A (i + 1)) = L) := hskip
          have HDi : Hid (∀ w, Calls Try.prog 32 #[(⟨A, b, C⟩ : Qf).v] w fun e w' => e = .returned (.int .i64 (⟨A, b, C⟩ : Qf).disc) ∧ Below w.heap.size w w') := fun w => discriminant_any ⟨A, b, C⟩ w hU
          have HRed : Hid (∀ w, Calls Try.prog 45 #[(⟨A, b, C⟩ : Qf).v] w fun e w' => e = .returned (.bool (⟨A, b, C⟩ : Qf).redB) ∧ Below w.heap.size w w') := fun w => isReduced_any ⟨A, b, C⟩ w (up_up hU)
          have HGc : Hid (∀ w, Calls Try.prog 46 #[(⟨A, b, C⟩ : Qf).v] w fun e w' => e = .returned (.int .i64 (Int.gcd (Int.gcd A b) C : Int)) ∧ Below w.heap.size w w') := fun w => commonDivisor_any ⟨A, b, C⟩ w hU
          unfold Qf.v at HDi HRed HGc
          simp only [] at HDi HRed HGc
          obtain ⟨D, hD⟩ : ∃ D, (⟨A, b, C⟩ : Qf).disc = D := ⟨_, rfl⟩
          obtain ⟨rb, hrb⟩ : ∃ rb, (⟨A, b, C⟩ : Qf).redB = rb := ⟨_, rfl⟩
          obtain ⟨G, hG⟩ : ∃ G : Nat, Int.gcd (Int.gcd A b) C = G := ⟨_, rfl⟩
          rw [hD] at HDi
          rw [hrb] at HRed
          rw [hG] at HGc
          rw [hD, hrb, hG] at hCl
          have HCl : Hid (clsB d A b = ((D == d) && (rb && ((G : Int) == 1)))) := hCl
          clear hP hF hskip hU hD hrb hG hCl
          cases hT0 : (D == d)
          · skip
            go_wp2_with fail
            refine (HDi.out _).mono ?_
            rintro e w1 ⟨rfl, k1⟩
            have HLw1 : Hid (Lw w.heap.size L a' c' w w1) := (HLw.out.below hwz (al1 wr _)).below (by simp; omega) k1
            have P1 := (Cl.new [.int .i64 A, .int .i64 b, .int .i64 C] 32 wr).below k1
            have HP1 : Hid (Cl wr.heap.size [.int .i64 A, .int .i64 b, .int .i64 C] 32 w1) := P1
            have hz1 : w.heap.size ≤ w1.heap.size := by have := k1.size; simp at this; omega
            have p0 := P1.cell 0
            have p1 := P1.cell 1
            have p2 := P1.cell 2
            simp at p0 p1 p2
            clear k1 P1
            have hlen := HSk.out (by rw [HCl.out, hT0]; simp)
            have HLen : Hid ((L0 ++ rowTo d A (i + 1)) = L) := hlen
            clear hlen
            go_wp2
            go_roundw
            case rel => exact ⟨i + 1, b + 1, a', c', by rw [HLen.out], by go_num, by have := HB.out; omega, by have := HB.out; omega, by rw [HLen.out]; exact HLw1.out⟩
            case measure => simp [intOf]; omega
          · cases rb
            · skip
              go_wp2_with fail
              refine (HDi.out _).mono ?_
              rintro e w1 ⟨rfl, k1⟩
              have HLw1 : Hid (Lw w.heap.size L a' c' w w1) := (HLw.out.below hwz (al1 wr _)).below (by simp; omega) k1
              have P1 := (Cl.new [.int .i64 A, .int .i64 b, .int .i64 C] 32 wr).below k1
              have HP1 : Hid (Cl wr.heap.size [.int .i64 A, .int .i64 b, .int .i64 C] 32 w1) := P1
              have hz1 : w.heap.size ≤ w1.heap.size := by have := k1.size; simp at this; omega
              have p0 := P1.cell 0
              have p1 := P1.cell 1
              have p2 := P1.cell 2
              simp at p0 p1 p2
              clear k1 P1
              go_wp2_with fail
              refine (HRed.out _).mono ?_
              rintro e w2 ⟨rfl, k1⟩
              have HLw2 : Hid (Lw w.heap.size L a' c' w w2) := HLw1.out.below hz1 k1
              have P1 := HP1.out.below k1
              have HP2 : Hid (Cl wr.heap.size [.int .i64 A, .int .i64 b, .int .i64 C] 32 w2) := P1
              have hz2 : w.heap.size ≤ w2.heap.size := by have := k1.size; omega
              clear p0 p1 p2
              have p0 := P1.cell 0
              have p1 := P1.cell 1
              have p2 := P1.cell 2
              simp at p0 p1 p2
              clear k1 P1
              have hlen := HSk.out (by rw [HCl.out, hT0]; simp)
              have HLen : Hid ((L0 ++ rowTo d A (i + 1)) = L) := hlen
              clear hlen
              go_wp2
              go_roundw
              case rel => exact ⟨i + 1, b + 1, a', c', by rw [HLen.out], by go_num, by have := HB.out; omega, by have := HB.out; omega, by rw [HLen.out]; exact HLw2.out⟩
              case measure => simp [intOf]; omega
            · cases hf1 : ((G : Int) == 1)
              · skip
                go_wp2_with fail
                refine (HDi.out _).mono ?_
                rintro e w1 ⟨rfl, k1⟩
                have HLw1 : Hid (Lw w.heap.size L a' c' w w1) := (HLw.out.below hwz (al1 wr _)).below (by simp; omega) k1
                have P1 := (Cl.new [.int .i64 A, .int .i64 b, .int .i64 C] 32 wr).below k1
                have HP1 : Hid (Cl wr.heap.size [.int .i64 A, .int .i64 b, .int .i64 C] 32 w1) := P1
                have hz1 : w.heap.size ≤ w1.heap.size := by have := k1.size; simp at this; omega
                have p0 := P1.cell 0
                have p1 := P1.cell 1
                have p2 := P1.cell 2
                simp at p0 p1 p2
                clear k1 P1
                go_wp2_with fail
                refine (HRed.out _).mono ?_
                rintro e w2 ⟨rfl, k1⟩
                have HLw2 : Hid (Lw w.heap.size L a' c' w w2) := HLw1.out.below hz1 k1
                have P1 := HP1.out.below k1
                have HP2 : Hid (Cl wr.heap.size [.int .i64 A, .int .i64 b, .int .i64 C] 32 w2) := P1
                have hz2 : w.heap.size ≤ w2.heap.size := by have := k1.size; omega
                clear p0 p1 p2
                have p0 := P1.cell 0
                have p1 := P1.cell 1
                have p2 := P1.cell 2
                simp at p0 p1 p2
                clear k1 P1
                go_wp2_with fail
                refine (HGc.out _).mono ?_
                rintro e w3 ⟨rfl, k1⟩
                have HLw3 : Hid (Lw w.heap.size L a' c' w w3) := HLw2.out.below hz2 k1
                have P1 := HP2.out.below k1
                have HP3 : Hid (Cl wr.heap.size [.int .i64 A, .int .i64 b, .int .i64 C] 32 w3) := P1
                have hz3 : w.heap.size ≤ w3.heap.size := by have := k1.size; omega
                clear p0 p1 p2
                have p0 := P1.cell 0
                have p1 := P1.cell 1
                have p2 := P1.cell 2
                simp at p0 p1 p2
                clear k1 P1
                have hlen := HSk.out (by rw [HCl.out, hT0,hf1]; simp)
                have HLen : Hid ((L0 ++ rowTo d A (i + 1)) = L) := hlen
                clear hlen
                go_wp2
                go_roundw
                case rel => exact ⟨i + 1, b + 1, a', c', by rw [HLen.out], by go_num, by have := HB.out; omega, by have := HB.out; omega, by rw [HLen.out]; exact HLw3.out⟩
                case measure => simp [intOf]; omega
              · skip
                go_wp2_with fail
                refine (HDi.out _).mono ?_
                rintro e w1 ⟨rfl, k1⟩
                have HLw1 : Hid (Lw w.heap.size L a' c' w w1) := (HLw.out.below hwz (al1 wr _)).below (by simp; omega) k1
                have P1 := (Cl.new [.int .i64 A, .int .i64 b, .int .i64 C] 32 wr).below k1
                have HP1 : Hid (Cl wr.heap.size [.int .i64 A, .int .i64 b, .int .i64 C] 32 w1) := P1
                have hz1 : w.heap.size ≤ w1.heap.size := by have := k1.size; simp at this; omega
                have p0 := P1.cell 0
                have p1 := P1.cell 1
                have p2 := P1.cell 2
                simp at p0 p1 p2
                clear k1 P1
                go_wp2_with fail
                refine (HRed.out _).mono ?_
                rintro e w2 ⟨rfl, k1⟩
                have HLw2 : Hid (Lw w.heap.size L a' c' w w2) := HLw1.out.below hz1 k1
                have P1 := HP1.out.below k1
                have HP2 : Hid (Cl wr.heap.size [.int .i64 A, .int .i64 b, .int .i64 C] 32 w2) := P1
                have hz2 : w.heap.size ≤ w2.heap.size := by have := k1.size; omega
                clear p0 p1 p2
                have p0 := P1.cell 0
                have p1 := P1.cell 1
                have p2 := P1.cell 2
                simp at p0 p1 p2
                clear k1 P1
                go_wp2_with fail
                refine (HGc.out _).mono ?_
                rintro e w3 ⟨rfl, k1⟩
                have HLw3 : Hid (Lw w.heap.size L a' c' w w3) := HLw2.out.below hz2 k1
                have P1 := HP2.out.below k1
                have HP3 : Hid (Cl wr.heap.size [.int .i64 A, .int .i64 b, .int .i64 C] 32 w3) := P1
                have hz3 : w.heap.size ≤ w3.heap.size := by have := k1.size; omega
                clear p0 p1 p2
                have p0 := P1.cell 0
                have p1 := P1.cell 1
                have p2 := P1.cell 2
                simp at p0 p1 p2
                clear k1 P1
                go_wp2_with (at_builtin; refine wpList_append_own _ rfl _ _ 22 rfl w.heap.size 32 i0 (.agg #[.int .i64 0, .int .i64 0, .int .i64 0]) 3 24 Try.underlying22 HI.out.1 HI.out.2.1 HI.out.2.2.1 HI.out.2.2.2 rfl (by decide) (.slice a' L.length c') L.length (qcells L) rfl (HLw3.out.row.alloc _) ⟨w3.heap.size, 0, none⟩ 1 1 [.int .i64 A, .int .i64 b, .int .i64 C] rfl rfl (Cl.new [.int .i64 A, .int .i64 b, .int .i64 C] 32 w3).news (by simp [Value.oneCell']) (by simp only [maxLen]; omega) (by omega) (by simp; omega) ?_; intro v' w6 hown' hgrow _; obtain ⟨g', cap', rfl⟩ := ownsRow_succ hown')
                have HN6 : Hid (Lw w.heap.size (L ++ [⟨A, b, C⟩]) (some ⟨g', 0, none⟩) cap' w w6) :=
                  ⟨by rw [List.length_append, qcells_one]; exact hown', (HLw3.out.k.alloc hz3 _).grown hgrow (by simp; omega) (fun k e => (HLw3.out.row.lt k e).1)⟩
                clear hown' hgrow
                go_roundw
                case rel =>
                  have hc1 : clsB d A b = true := by rw [HCl.out, hT0, hf1]; rfl
                  have hLL : L0 ++ rowTo d A (i + 1) = L ++ [⟨A, b, C⟩] := by
                    rw [HS.out, cls, hc1, HF.out, HL.out, List.append_assoc]; rfl
                  exact ⟨i + 1, b + 1, some ⟨g', 0, none⟩, cap', by rw [hLL, List.length_append]; rfl, by go_num, by have := HB.out; omega, by have := HB.out; omega, by rw [hLL]; exact HN6.out⟩
                case measure => simp [intOf]; omega
        · have hbb : decide (b ≤ A) = false := decide_eq_false hbA
          go_wp2
          go_roundw
          case rel =>
            have hiA : i = 2 * (n + 1) + 1 := by have := HB.out; have := HN.out.1; omega
            have hLn : L = classesTo d (n + 1) := by
              rw [classesTo_succ, HL.out, HL00.out, hiA, HN.out.1]
            have hn258 : n + 1 ≤ 258 := by
              rcases Nat.lt_or_ge 258 (n + 1) with h | h
              · exfalso
                have h2 : (259 : Int) * 259 ≤ ((n : Int) + 1) * ((n : Int) + 1) := Int.mul_le_mul (by omega) (by omega) (by omega) (by omega)
                have h3 := HQle.out
                rw [Int.mul_assoc] at h3
                omega
              · exact h
            refine ⟨n + 1, A + 1, a', c', by rw [hLn], by go_num, by have := HN.out.1; omega, ?_, hn258, by rw [← hLn]; exact HLw.out⟩
            have := HQle.out
            push_cast
            exact this
          case measure => simp [intOf]; omega
    · have hlb : decide (Q ≤ -d) = false := decide_eq_false hle
      go_wp2
      go_ret
      obtain ⟨hA, hn, hn2, hL⟩ := HR.out
      refine ⟨n, a, c, rfl, ⟨hn, ?_⟩, hL⟩
      have := HQ.out
      rw [hA] at this
      omega

end Go.Proofs.Ytijkanilpblogae
