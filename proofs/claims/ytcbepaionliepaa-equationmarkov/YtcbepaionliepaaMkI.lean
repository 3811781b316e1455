/- Markov: the reference's MarkovOf, out of what MarkovIs answers. -/
import Derived.Test.YtcbepaionliepaaMkH
set_option linter.unusedSimpArgs false
set_option linter.unusedVariables false
set_option maxRecDepth 100000
namespace Go.Proofs.Ytcbepaionliepaa
open Go.RowKit Go.Maps

theorem rowX_len (y z : Nat) : ∀ x, (MV.rowX y z x).length ≤ x
  | 0 => Nat.le_refl _
  | x + 1 => by
    rw [MV.rowX, List.length_append]
    have := rowX_len y z x
    split <;> simp <;> omega
theorem rowY_len (z : Nat) : ∀ y, y ≤ 100 → (MV.rowY z y).length ≤ y * 100
  | 0, _ => Nat.zero_le _
  | y + 1, h => by
    rw [MV.rowY, List.length_append]
    have := rowY_len z y (by omega)
    have := rowX_len (y + 1) z (y + 1)
    omega
theorem rowZ_len : ∀ z, z ≤ 100 → (MV.rowZ z).length ≤ z * 10000
  | 0, _ => Nat.zero_le _
  | z + 1, h => by
    rw [MV.rowZ, List.length_append]
    have := rowZ_len z (by omega)
    have := rowY_len (z + 1) (z + 1) h
    omega
/-- The row so far. -/
structure Ot (w wx : World) (v : Value) (L : List T3) : Prop where
  row : wx.ownsRow w.heap.size 42 3 v L.length (tcl3 L)
  k : Below w.heap.size w wx
theorem Ot.below {w wx wy : World} {v : Value} {L : List T3} (h : Ot w wx v L) (k : Below wx.heap.size wx wy) : Ot w wy v L := by
  refine ⟨mrow_kept h.row (fun g hg => ?_), h.k.trans (k.mono h.k.size)⟩
  obtain ⟨c, hc⟩ := mrow_ty h.row hg
  exact k.block g (Array.getElem?_eq_some_iff.1 hc).1
theorem Ot.tr {w wx : World} {v : Value} {L : List T3} (h : Ot w wx v L) : TR w.heap.size wx v L := by
  obtain ⟨h1, ⟨h2, h3⟩ | ⟨g, cap, cur, e1, e2, e3, e4⟩⟩ := id h.row
  · have e : L = [] := List.eq_nil_of_length_eq_zero h3
    subst e
    rw [h2]
    exact ⟨none, 0, 0, rfl, fun h => by simp at h, fun j hj => by simp at hj⟩
  · subst e1
    refine ⟨some ⟨g, 0, none⟩, g, cap, rfl, fun _ => ⟨rfl, e2, (Array.getElem?_eq_some_iff.1 e3).1⟩, fun j hj => h.row.cellAt j hj⟩

set_option maxRecDepth 100000 in
set_option maxHeartbeats 8000000 in
theorem MarkovOf_of (HIs : ∀ (x y z : Nat) (w : World), x ≤ 100 → y ≤ 100 → z ≤ 100 → Calls Try.prog 18 #[tv3 (x, y, z)] w fun e w' => e = .returned (.bool (MV.isM x y z)) ∧ Below w.heap.size w w') (most : Nat) (w : World) (hm : most ≤ 100) :
    Calls Try.prog 17 #[.int .i64 (most : Int)] w fun e w' => ∃ v, e = .returned v ∧ TR w.heap.size w' v (MV.um most) ∧ Below w.heap.size w w' := by
  have HI : Hid (∀ (x y z : Nat) (w : World), x ≤ 100 → y ≤ 100 → z ≤ 100 → Calls Try.prog 18 #[.agg #[.int .i64 (x : Int), .int .i64 (y : Int), .int .i64 (z : Int)]] w fun e w' => e = .returned (.bool (MV.isM x y z)) ∧ Below w.heap.size w w') := HIs
  obtain ⟨k0, hk, hx0, hx1, hx2⟩ := info_parts Try.info3
  have HP : Hid (Try.prog.info? 42 = some k0 ∧ k0.zero = some (.agg #[.int .i64 0, .int .i64 0, .int .i64 0]) ∧ k0.size = 3 ∧ k0.bytes = 24) := ⟨hk, hx0, hx1, hx2⟩
  clear HIs hk hx0 hx1 hx2
  go_enter Try.func17, Try.ntmps17
  go_wp2
  go_loopg [3, 4] most (fun gk ov zv wx => ∃ (v : Value) (z : Nat), ov = v ∧ zv = .int .i64 ((z + 1 : Nat) : Int) ∧ Hid (gk = most - z ∧ z ≤ most ∧ Ot w wx v (MV.rowZ z)))
  case atStart => exact ⟨_, 0, rfl, rfl, by omega, by omega, ⟨⟨rfl, .inl ⟨rfl, rfl⟩⟩, Below.refl _ _⟩⟩
  case round =>
    obtain ⟨v, z, hv, rfl, HR⟩ := hrel
    have hv2 := hv.symm
    clear hv
    subst hv2
    obtain ⟨h1, h2, h3⟩ := HR.out
    have HK : Hid (gk = most - z) := h1
    have HO : Hid (Ot w wr v (MV.rowZ z)) := h3
    clear HR h1 h3
    by_cases hz : z < most
    · have tz : decide (((z + 1 : Nat) : Int) ≤ (most : Int)) = true := decide_eq_true (by omega)
      obtain ⟨Z, hZ⟩ : ∃ Z, Z = z + 1 := ⟨_, rfl⟩
      have HZ : Hid (Z = z + 1) := hZ
      have bZ : Z ≤ most := by omega
      rw [← hZ] at tz
      rw [← hZ]
      clear hZ
      go_wp2
      go_loopg [3, 5] Z (fun gk ov yv wx => ∃ (v : Value) (y : Nat), ov = v ∧ yv = .int .i64 ((y + 1 : Nat) : Int) ∧ Hid (gk = Z - y ∧ y ≤ Z ∧ Ot w wx v (MV.rowZ z ++ MV.rowY Z y)))
      case atStart => exact ⟨_, 0, rfl, rfl, by omega, by omega, by rw [MV.rowY, List.append_nil]; exact HO.out⟩
      case round =>
        clear HO
        obtain ⟨v, y, hv, rfl, HR⟩ := hrel
        have hv2 := hv.symm
        clear hv
        subst hv2
        obtain ⟨h1, h2', h3⟩ := HR.out
        have HKy : Hid (gk = Z - y) := h1
        have HO : Hid (Ot w wr v (MV.rowZ z ++ MV.rowY Z y)) := h3
        clear HR h1 h3
        by_cases hy : y < Z
        · have ty : decide (((y + 1 : Nat) : Int) ≤ (Z : Int)) = true := decide_eq_true (by omega)
          obtain ⟨Y, hY⟩ : ∃ Y, Y = y + 1 := ⟨_, rfl⟩
          have HY : Hid (Y = y + 1) := hY
          have bY : Y ≤ Z := by omega
          rw [← hY] at ty
          rw [← hY]
          clear hY
          go_wp2
          go_loopg [3, 6] Y (fun gk ov xv wx => ∃ (v : Value) (x : Nat), ov = v ∧ xv = .int .i64 ((x + 1 : Nat) : Int) ∧ Hid (gk = Y - x ∧ x ≤ Y ∧ Ot w wx v (MV.rowZ z ++ MV.rowY Z y ++ MV.rowX Y Z x)))
          case atStart => exact ⟨_, 0, rfl, rfl, by omega, by omega, by rw [MV.rowX, List.append_nil]; exact HO.out⟩
          case round =>
            clear HO
            obtain ⟨v, x, hv, rfl, HR⟩ := hrel
            have hv2 := hv.symm
            clear hv
            subst hv2
            obtain ⟨h1, h2'', h3⟩ := HR.out
            have HKx : Hid (gk = Y - x) := h1
            have HO : Hid (Ot w wr v (MV.rowZ z ++ MV.rowY Z y ++ MV.rowX Y Z x)) := h3
            clear HR h1 h3
            by_cases hx : x < Y
            · have tx : decide (((x + 1 : Nat) : Int) ≤ (Y : Int)) = true := decide_eq_true (by omega)
              obtain ⟨X, hX⟩ : ∃ X, X = x + 1 := ⟨_, rfl⟩
              have HX : Hid (X = x + 1) := hX
              have bX : X ≤ Y := by omega
              rw [← hX] at tx
              rw [← hX]
              obtain ⟨L, hL⟩ : ∃ L, L = MV.rowZ z ++ MV.rowY Z y ++ MV.rowX Y Z x := ⟨_, rfl⟩
              have HLn : Hid (L.length ≤ 1010200) := by
                show _ ≤ _
                rw [hL, List.length_append, List.length_append]
                have a := rowZ_len z (by omega)
                have b := rowY_len Z y (by omega)
                have c := rowX_len Y Z x
                omega
              have HLe : Hid (MV.rowZ z ++ MV.rowY Z y ++ MV.rowX Y Z (x + 1) = L ++ (if MV.isM X Y Z = true then [(X, Y, Z)] else [])) := by
                show _ = _
                rw [MV.rowX, hL, hX, List.append_assoc, List.append_assoc, List.append_assoc]
              rw [← hL] at HO
              have HIc : Hid (∀ w, Calls Try.prog 18 #[.agg #[.int .i64 (X : Int), .int .i64 (Y : Int), .int .i64 (Z : Int)]] w fun e w' => e = .returned (.bool (MV.isM X Y Z)) ∧ Below w.heap.size w w') := fun w => HI.out X Y Z w (by omega) (by omega) (by omega)
              obtain ⟨b, hb⟩ : ∃ b, MV.isM X Y Z = b := ⟨_, rfl⟩
              rw [hb] at HIc HLe
              clear hL hX hb
              go_wp2_with fail
              refine (HIc.out _).mono ?_
              rintro e w1 ⟨rfl, k1⟩
              have HO1 : Hid (Ot w w1 v L) := HO.out.below k1
              clear k1 HO
              cases b
              · go_wp2
                go_roundg (Y - (x + 1))
                case rel => exact ⟨_, x + 1, rfl, by rw [HX.out]; go_num, rfl, by omega, by rw [HLe.out]; simp; exact HO1.out⟩
                case measure => have := HKx.out; omega
              · go_wp2_with (at_builtin; refine wpList_append_own _ rfl _ _ 36 rfl w.heap.size 42 k0 (.agg #[.int .i64 0, .int .i64 0, .int .i64 0]) 3 24 Try.underlying36 HP.out.1 HP.out.2.1 HP.out.2.2.1 HP.out.2.2.2 rfl (by decide) v L.length (tcl3 L) rfl (HO1.out.row.alloc _) ⟨w1.heap.size, 0, none⟩ 1 1 [.int .i64 (X : Int), .int .i64 (Y : Int), .int .i64 (Z : Int)] rfl rfl (news3 (Cl.new [.int .i64 (X : Int), .int .i64 (Y : Int), .int .i64 (Z : Int)] 42 w1)) (by simp [Value.oneCell']) (by have := HLn.out; simp only [maxLen]; omega) (by have := HLn.out; omega) (by have := HO1.out.k.size; simp; omega) ?_; intro v' w6 hown' hgrow _; have HO6 : Hid (Ot w w6 v' (L ++ [(X, Y, Z)])) := ⟨(by rw [List.length_append, tcl3_append]; exact hown'), (Below.alloc HO1.out.k HO1.out.k.size _).grown hgrow (by have := HO1.out.k.size; simp; omega) (fun j hj => (HO1.out.row.lt j hj).1)⟩; clear hown' hgrow)
                go_roundg (Y - (x + 1))
                case rel => exact ⟨_, x + 1, rfl, by rw [HX.out]; go_num, rfl, by omega, by rw [HLe.out]; simpa using HO6.out⟩
                case measure => have := HKx.out; omega
            · have tx : decide (((x + 1 : Nat) : Int) ≤ (Y : Int)) = false := decide_eq_false (by omega)
              have ex : x = Y := by omega
              have HE : Hid (Ot w wr v (MV.rowZ z ++ MV.rowY Z (y + 1))) := by
                have h := HO.out
                rw [ex, HY.out, List.append_assoc, ← MV.rowY] at h
                exact h
              clear HO ex
              go_wp2
              go_roundg (Z - (y + 1))
              case rel => exact ⟨_, y + 1, rfl, by rw [HY.out]; go_num, rfl, by omega, HE.out⟩
              case measure => have := HKy.out; omega
        · have ty : decide (((y + 1 : Nat) : Int) ≤ (Z : Int)) = false := decide_eq_false (by omega)
          have ey : y = Z := by omega
          have HE : Hid (Ot w wr v (MV.rowZ (z + 1))) := by
            have h := HO.out
            rw [ey, HZ.out, ← MV.rowZ] at h
            exact h
          clear HO ey
          go_wp2
          go_roundg (most - (z + 1))
          case rel => exact ⟨_, z + 1, rfl, by rw [HZ.out]; go_num, rfl, by omega, HE.out⟩
          case measure => have := HK.out; omega
    · have tz : decide (((z + 1 : Nat) : Int) ≤ (most : Int)) = false := decide_eq_false (by omega)
      obtain rfl : z = most := by omega
      have HE : Hid (TR w.heap.size wr v (MV.um z) ∧ Below w.heap.size w wr) := ⟨by rw [← MV.rowZ_um z hm]; exact HO.out.tr, HO.out.k⟩
      go_wp2
      go_ret
      exact ⟨_, rfl, HE.out⟩

end Go.Proofs.Ytcbepaionliepaa
