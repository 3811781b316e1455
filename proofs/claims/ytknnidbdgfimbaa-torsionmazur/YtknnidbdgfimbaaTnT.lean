/- Every likely point with y above 0 was gone through. Written by mktn.py. -/
import Derived.Test.YtknnidbdgfimbaaTnA
import Derived.Test.YtknnidbdgfimbaaTnB
import Derived.Test.YtknnidbdgfimbaaTnC
import Derived.Test.YtknnidbdgfimbaaTnD
import Derived.Test.YtknnidbdgfimbaaTnE
import Derived.Test.YtknnidbdgfimbaaTnF
import Derived.Test.YtknnidbdgfimbaaTnG
import Derived.Test.YtknnidbdgfimbaaTnH
import Derived.Test.YtknnidbdgfimbaaTnI
import Derived.Test.YtknnidbdgfimbaaTnJ
import Derived.Test.YtknnidbdgfimbaaTnK
import Derived.Test.YtknnidbdgfimbaaTnL
set_option linter.unusedVariables false
set_option maxRecDepth 100000
set_option maxRecDepth 100000
namespace Go.Proofs.Ytknnidbdgfimbaa
namespace TN

theorem ent_join' {far : Int → Int → Int → Int → Nat → Bool} {neg : Bool} {x lo c d l t : Nat} (h1 : ent far neg x lo c = true) (h2 : ent far neg x l d = true) (hl : lo + c = l) (ht : c + d = t) : ent far neg x lo t = true := by
  subst hl ht
  exact ent_join h1 h2
theorem ent0_join' {far : Int → Int → Int → Int → Nat → Bool} {lo c d l t : Nat} (h1 : ent0 far lo c = true) (h2 : ent0 far l d = true) (hl : lo + c = l) (ht : c + d = t) : ent0 far lo t = true := by
  subst hl ht
  exact ent0_join h1 h2
theorem j_m10_100 : ent tabB true 10 1 100 = true := ent_join' g120 g104 (by decide) (by decide)
theorem e_m10 : ent tabB true 10 1 100 = true := j_m10_100
theorem j_m8_92 : ent tabB true 8 1 92 = true := ent_join' g100 g49 (by decide) (by decide)
theorem e_m8 : ent tabB true 8 1 92 = true := j_m8_92
theorem j_m7_87 : ent tabB true 7 1 87 = true := ent_join' g27 g41 (by decide) (by decide)
theorem e_m7 : ent tabB true 7 1 87 = true := j_m7_87
theorem j_m6_48 : ent tabB true 6 1 48 = true := ent_join' g46 g79 (by decide) (by decide)
theorem j_m6_82 : ent tabB true 6 1 82 = true := ent_join' j_m6_48 g124 (by decide) (by decide)
theorem e_m6 : ent tabB true 6 1 82 = true := j_m6_82
theorem j_m5_74 : ent tabB true 5 1 74 = true := ent_join' g18 g68 (by decide) (by decide)
theorem j_m5_76 : ent tabB true 5 1 76 = true := ent_join' j_m5_74 g126 (by decide) (by decide)
theorem e_m5 : ent tabB true 5 1 76 = true := j_m5_76
theorem j_m4_20 : ent tabB true 4 1 20 = true := ent_join' g15 g3 (by decide) (by decide)
theorem j_m4_55 : ent tabB true 4 1 55 = true := ent_join' j_m4_20 g119 (by decide) (by decide)
theorem j_m4_70 : ent tabB true 4 1 70 = true := ent_join' j_m4_55 g72 (by decide) (by decide)
theorem e_m4 : ent tabB true 4 1 70 = true := j_m4_70
theorem j_m3_21 : ent tabB true 3 1 21 = true := ent_join' g66 g99 (by decide) (by decide)
theorem j_m3_59 : ent tabB true 3 1 59 = true := ent_join' j_m3_21 g47 (by decide) (by decide)
theorem j_m3_63 : ent tabB true 3 1 63 = true := ent_join' j_m3_59 g125 (by decide) (by decide)
theorem e_m3 : ent tabB true 3 1 63 = true := j_m3_63
theorem j_m2_6 : ent tabB true 2 1 6 = true := ent_join' g32 g2 (by decide) (by decide)
theorem j_m2_13 : ent tabB true 2 1 13 = true := ent_join' j_m2_6 g16 (by decide) (by decide)
theorem j_m2_25 : ent tabB true 2 1 25 = true := ent_join' j_m2_13 g98 (by decide) (by decide)
theorem j_m2_43 : ent tabB true 2 1 43 = true := ent_join' j_m2_25 g101 (by decide) (by decide)
theorem j_m2_54 : ent tabB true 2 1 54 = true := ent_join' j_m2_43 g10 (by decide) (by decide)
theorem e_m2 : ent tabB true 2 1 54 = true := j_m2_54
theorem j_m1_3 : ent tabB true 1 1 3 = true := ent_join' g84 g23 (by decide) (by decide)
theorem j_m1_6 : ent tabB true 1 1 6 = true := ent_join' j_m1_3 g35 (by decide) (by decide)
theorem j_m1_11 : ent tabB true 1 1 11 = true := ent_join' j_m1_6 g45 (by decide) (by decide)
theorem j_m1_19 : ent tabB true 1 1 19 = true := ent_join' j_m1_11 g36 (by decide) (by decide)
theorem j_m1_31 : ent tabB true 1 1 31 = true := ent_join' j_m1_19 g87 (by decide) (by decide)
theorem j_m1_44 : ent tabB true 1 1 44 = true := ent_join' j_m1_31 g114 (by decide) (by decide)
theorem e_m1 : ent tabB true 1 1 44 = true := j_m1_44
theorem j_p0_2 : ent0 tabB 1 2 = true := ent0_join' g42 g52 (by decide) (by decide)
theorem j_p0_4 : ent0 tabB 1 4 = true := ent0_join' j_p0_2 g53 (by decide) (by decide)
theorem j_p0_7 : ent0 tabB 1 7 = true := ent0_join' j_p0_4 g86 (by decide) (by decide)
theorem j_p0_11 : ent0 tabB 1 11 = true := ent0_join' j_p0_7 g75 (by decide) (by decide)
theorem j_p0_16 : ent0 tabB 1 16 = true := ent0_join' j_p0_11 g117 (by decide) (by decide)
theorem j_p0_24 : ent0 tabB 1 24 = true := ent0_join' j_p0_16 g24 (by decide) (by decide)
theorem j_p0_31 : ent0 tabB 1 31 = true := ent0_join' j_p0_24 g39 (by decide) (by decide)
theorem e_zero : ent0 tabB 1 31 = true := j_p0_31
theorem j_p1_3 : ent tabB false 1 1 3 = true := ent_join' g73 g33 (by decide) (by decide)
theorem j_p1_6 : ent tabB false 1 1 6 = true := ent_join' j_p1_3 g118 (by decide) (by decide)
theorem j_p1_11 : ent tabB false 1 1 11 = true := ent_join' j_p1_6 g55 (by decide) (by decide)
theorem j_p1_19 : ent tabB false 1 1 19 = true := ent_join' j_p1_11 g56 (by decide) (by decide)
theorem j_p1_31 : ent tabB false 1 1 31 = true := ent_join' j_p1_19 g76 (by decide) (by decide)
theorem j_p1_44 : ent tabB false 1 1 44 = true := ent_join' j_p1_31 g21 (by decide) (by decide)
theorem e_p1 : ent tabB false 1 1 44 = true := j_p1_44
theorem j_p2_6 : ent tabB false 2 1 6 = true := ent_join' g62 g13 (by decide) (by decide)
theorem j_p2_13 : ent tabB false 2 1 13 = true := ent_join' j_p2_6 g26 (by decide) (by decide)
theorem j_p2_25 : ent tabB false 2 1 25 = true := ent_join' j_p2_13 g25 (by decide) (by decide)
theorem j_p2_43 : ent tabB false 2 1 43 = true := ent_join' j_p2_25 g6 (by decide) (by decide)
theorem j_p2_54 : ent tabB false 2 1 54 = true := ent_join' j_p2_43 g82 (by decide) (by decide)
theorem e_p2 : ent tabB false 2 1 54 = true := j_p2_54
theorem j_p3_21 : ent tabB false 3 1 21 = true := ent_join' g77 g88 (by decide) (by decide)
theorem j_p3_59 : ent tabB false 3 1 59 = true := ent_join' j_p3_21 g110 (by decide) (by decide)
theorem j_p3_63 : ent tabB false 3 1 63 = true := ent_join' j_p3_59 g94 (by decide) (by decide)
theorem e_p3 : ent tabB false 3 1 63 = true := j_p3_63
theorem j_p4_20 : ent tabB false 4 1 20 = true := ent_join' g108 g65 (by decide) (by decide)
theorem j_p4_55 : ent tabB false 4 1 55 = true := ent_join' j_p4_20 g78 (by decide) (by decide)
theorem j_p4_71 : ent tabB false 4 1 71 = true := ent_join' j_p4_55 g83 (by decide) (by decide)
theorem e_p4 : ent tabB false 4 1 71 = true := j_p4_71
theorem j_p5_74 : ent tabB false 5 1 74 = true := ent_join' g58 g90 (by decide) (by decide)
theorem j_p5_78 : ent tabB false 5 1 78 = true := ent_join' j_p5_74 g11 (by decide) (by decide)
theorem e_p5 : ent tabB false 5 1 78 = true := j_p5_78
theorem j_p6_48 : ent tabB false 6 1 48 = true := ent_join' g109 g111 (by decide) (by decide)
theorem j_p6_84 : ent tabB false 6 1 84 = true := ent_join' j_p6_48 g93 (by decide) (by decide)
theorem e_p6 : ent tabB false 6 1 84 = true := j_p6_84
theorem j_p7_91 : ent tabB false 7 1 91 = true := ent_join' g37 g61 (by decide) (by decide)
theorem e_p7 : ent tabB false 7 1 91 = true := j_p7_91
theorem j_p8_97 : ent tabB false 8 1 97 = true := ent_join' g89 g91 (by decide) (by decide)
theorem e_p8 : ent tabB false 8 1 97 = true := j_p8_97
theorem j_p10_109 : ent tabB false 10 1 109 = true := ent_join' g57 g31 (by decide) (by decide)
theorem e_p10 : ent tabB false 10 1 109 = true := j_p10_109
theorem j_p12_121 : ent tabB false 12 1 121 = true := ent_join' g28 g71 (by decide) (by decide)
theorem e_p12 : ent tabB false 12 1 121 = true := j_p12_121
def lBig : List (Bool × Nat × Nat × Nat) := [(true, 10, 1, 100), (true, 8, 1, 92), (true, 7, 1, 87), (true, 6, 1, 82), (true, 5, 1, 76), (true, 4, 1, 70), (true, 3, 1, 63), (true, 2, 1, 54), (true, 1, 1, 44), (false, 1, 1, 44), (false, 2, 1, 54), (false, 3, 1, 63), (false, 4, 1, 71), (false, 5, 1, 78), (false, 6, 1, 84), (false, 7, 1, 91), (false, 8, 1, 97), (false, 10, 1, 109), (false, 12, 1, 121)]
theorem big_ok : ∀ e ∈ lBig, bnd e.1 e.2.1 e.2.2.1 e.2.2.2 = true ∧ ent tabB e.1 e.2.1 e.2.2.1 e.2.2.2 = true := by
  intro e he
  unfold lBig at he
  simp only [List.mem_cons, List.not_mem_nil, or_false] at he
  rcases he with rfl | rfl | rfl | rfl | rfl | rfl | rfl | rfl | rfl | rfl | rfl | rfl | rfl | rfl | rfl | rfl | rfl | rfl | rfl
  · exact ⟨by decide +kernel, e_m10⟩
  · exact ⟨by decide +kernel, e_m8⟩
  · exact ⟨by decide +kernel, e_m7⟩
  · exact ⟨by decide +kernel, e_m6⟩
  · exact ⟨by decide +kernel, e_m5⟩
  · exact ⟨by decide +kernel, e_m4⟩
  · exact ⟨by decide +kernel, e_m3⟩
  · exact ⟨by decide +kernel, e_m2⟩
  · exact ⟨by decide +kernel, e_m1⟩
  · exact ⟨by decide +kernel, e_p1⟩
  · exact ⟨by decide +kernel, e_p2⟩
  · exact ⟨by decide +kernel, e_p3⟩
  · exact ⟨by decide +kernel, e_p4⟩
  · exact ⟨by decide +kernel, e_p5⟩
  · exact ⟨by decide +kernel, e_p6⟩
  · exact ⟨by decide +kernel, e_p7⟩
  · exact ⟨by decide +kernel, e_p8⟩
  · exact ⟨by decide +kernel, e_p10⟩
  · exact ⟨by decide +kernel, e_p12⟩
def LL : List (Nat × Nat × List (Bool × Nat × Nat × Nat)) := [(1, 40, lBig), (17, 18, l1), (32, 35, l4), (36, 39, l5), (18, 18, l7), (67, 77, l8), (213, 277, l9), (22, 23, l12), (28, 29, l14), (13, 13, l17), (78, 91, l19), (31, 32, l20), (19, 19, l22), (17, 17, l29), (110, 133, l30), (14, 14, l34), (40, 44, l38), (507, 700, l40), (27, 28, l43), (11, 11, l44), (20, 20, l48), (167, 212, l50), (1314, 1599, l51), (29, 30, l54), (51, 57, l59), (278, 372, l60), (26, 27, l63), (11, 11, l64), (16, 16, l67), (45, 50, l69), (701, 959, l70), (9, 9, l74), (13, 13, l80), (373, 506, l81), (14, 14, l85), (92, 109, l92), (23, 24, l95), (12, 12, l96), (30, 31, l97), (58, 66, l102), (134, 166, l103), (21, 21, l105), (9, 9, l106), (16, 16, l107), (15, 15, l112), (20, 20, l113), (24, 25, l115), (25, 26, l116), (22, 22, l121), (15, 15, l122), (960, 1313, l123)]
theorem all_ok : ∀ t ∈ LL, ∀ e ∈ t.2.2, bnd e.1 e.2.1 e.2.2.1 e.2.2.2 = true ∧ ent tabB e.1 e.2.1 e.2.2.1 e.2.2.2 = true := by
  intro t ht
  unfold LL at ht
  simp only [List.mem_cons, List.not_mem_nil, or_false] at ht
  rcases ht with rfl | rfl | rfl | rfl | rfl | rfl | rfl | rfl | rfl | rfl | rfl | rfl | rfl | rfl | rfl | rfl | rfl | rfl | rfl | rfl | rfl | rfl | rfl | rfl | rfl | rfl | rfl | rfl | rfl | rfl | rfl | rfl | rfl | rfl | rfl | rfl | rfl | rfl | rfl | rfl | rfl | rfl | rfl | rfl | rfl | rfl | rfl | rfl | rfl | rfl | rfl
  · exact big_ok
  · exact entL_ok l1 g1
  · exact entL_ok l4 g4
  · exact entL_ok l5 g5
  · exact entL_ok l7 g7
  · exact entL_ok l8 g8
  · exact entL_ok l9 g9
  · exact entL_ok l12 g12
  · exact entL_ok l14 g14
  · exact entL_ok l17 g17
  · exact entL_ok l19 g19
  · exact entL_ok l20 g20
  · exact entL_ok l22 g22
  · exact entL_ok l29 g29
  · exact entL_ok l30 g30
  · exact entL_ok l34 g34
  · exact entL_ok l38 g38
  · exact entL_ok l40 g40
  · exact entL_ok l43 g43
  · exact entL_ok l44 g44
  · exact entL_ok l48 g48
  · exact entL_ok l50 g50
  · exact entL_ok l51 g51
  · exact entL_ok l54 g54
  · exact entL_ok l59 g59
  · exact entL_ok l60 g60
  · exact entL_ok l63 g63
  · exact entL_ok l64 g64
  · exact entL_ok l67 g67
  · exact entL_ok l69 g69
  · exact entL_ok l70 g70
  · exact entL_ok l74 g74
  · exact entL_ok l80 g80
  · exact entL_ok l81 g81
  · exact entL_ok l85 g85
  · exact entL_ok l92 g92
  · exact entL_ok l95 g95
  · exact entL_ok l96 g96
  · exact entL_ok l97 g97
  · exact entL_ok l102 g102
  · exact entL_ok l103 g103
  · exact entL_ok l105 g105
  · exact entL_ok l106 g106
  · exact entL_ok l107 g107
  · exact entL_ok l112 g112
  · exact entL_ok l113 g113
  · exact entL_ok l115 g115
  · exact entL_ok l116 g116
  · exact entL_ok l121 g121
  · exact entL_ok l122 g122
  · exact entL_ok l123 g123
def hasE (neg : Bool) (x : Nat) : Bool := LL.any fun t => Nat.ble t.1 x && (Nat.ble x t.2.1 && t.2.2.any fun e => e.1 == neg && Nat.beq e.2.1 x)
theorem in_pos : (List.range 1599).all (fun n => hasE false (n + 1)) = true := by decide +kernel
theorem in_neg : (List.range 32).all (fun n => hasE true (n + 1)) = true := by decide +kernel
theorem has_ok {neg : Bool} {x : Nat} (h : hasE neg x = true) {a b y : Int} (hc : Cu a b) (hy : 0 < y) (hl : Lk a b (if neg = true then -(x : Int) else x) y) : Good tabB a b (if neg = true then -(x : Int) else x) y := by
  unfold hasE at h
  obtain ⟨t, ht, h⟩ := List.any_eq_true.1 h
  rw [Bool.and_eq_true, Bool.and_eq_true] at h
  obtain ⟨e, he, h⟩ := List.any_eq_true.1 h.2.2
  rw [Bool.and_eq_true] at h
  have e1 : e.1 = neg := by simpa using h.1
  have e2 : e.2.1 = x := Nat.eq_of_beq_eq_true h.2
  have := all_ok t ht e he
  rw [e1, e2] at this
  exact ent_ok this.1 this.2 hc hy hl
theorem good_all {a b x y : Int} (hc : Cu a b) (hy : 0 < y) (hl : Lk a b x y) : Good tabB a b x y := by
  have hr := hl.range hc
  rcases Int.lt_trichotomy x 0 with h | h | h
  · have h1 := List.all_eq_true.1 in_neg ((-x).toNat - 1) (List.mem_range.2 (by omega))
    rw [show (-x).toNat - 1 + 1 = (-x).toNat by omega] at h1
    have e : x = (if true = true then -(((-x).toNat : Nat) : Int) else (((-x).toNat : Nat) : Int)) := by rw [if_pos rfl]; omega
    rw [e] at hl ⊢
    exact has_ok h1 hc hy hl
  · subst h
    exact ent0_ok e_zero hc hy hl
  · have h1 := List.all_eq_true.1 in_pos (x.toNat - 1) (List.mem_range.2 (by omega))
    rw [show x.toNat - 1 + 1 = x.toNat by omega] at h1
    have e : x = (if false = true then -((x.toNat : Nat) : Int) else ((x.toNat : Nat) : Int)) := by rw [if_neg (by simp)]; omega
    rw [e] at hl ⊢
    exact has_ok h1 hc hy hl

end TN
end Go.Proofs.Ytknnidbdgfimbaa
