/- Package ring: slices.SortFunc of one; takeApart at the example (3). -/
import Derived.Test.YtogdggdaaiajnadGreatDoorEfB
import Derived.Maps.AppendAt
import Derived.Deep.CutBlock
import Derived.RegionTactic
import Derived.BigRegion
set_option linter.unusedSimpArgs false
set_option linter.unusedVariables false
set_option maxRecDepth 100000
namespace Go.Proofs.YtogdggdaaiajnadGreatDoor.E3
open Go.RowKit

/-- What takeOut answers at the example. -/
theorem out_a (k : Kd) (K : KdIs (-1) k) (w : World) : Calls Tryz.prog 92 #[k.v, pv ⟨2, 1⟩, pv ⟨3, 0⟩] w fun e w' => e = .returned (.tuple #[pv ⟨0, -1⟩, .int .i64 2]) ∧ Below w.heap.size w w' :=
  takeOut_any (-1) k K ⟨2, 1⟩ (fun i => if i = 0 then ⟨3, 0⟩ else if i = 1 then ⟨1, -1⟩ else ⟨0, -1⟩) 2 w (.inr rfl) (by unfold Nb; decide)
    (fun i hi => by have : i = 0 ∨ i = 1 ∨ i = 2 := by omega
                    rcases this with rfl | rfl | rfl <;> (unfold Nb; decide)) (by decide) (by decide)
    (fun i hi => by have : i = 0 ∨ i = 1 := by omega
                    rcases this with rfl | rfl <;> decide)
    (fun i hi => by have : i = 0 ∨ i = 1 := by omega
                    rcases this with rfl | rfl <;> decide) (by decide)
theorem out_b (k : Kd) (K : KdIs (-1) k) (w : World) : Calls Tryz.prog 92 #[k.v, pv ⟨2, 1⟩, pv ⟨0, -1⟩] w fun e w' => e = .returned (.tuple #[pv ⟨0, -1⟩, .int .i64 0]) ∧ Below w.heap.size w w' :=
  takeOut_any (-1) k K ⟨2, 1⟩ (fun _ => ⟨0, -1⟩) 0 w (.inr rfl) (by unfold Nb; decide) (fun i hi => by unfold Nb; decide) (by decide) (by decide) (fun i hi => by omega) (fun i hi => by omega) (by decide)

abbrev lO : List Value := [.int .i64 2, .int .i64 1, .int .i64 2]

set_option maxHeartbeats 1000000 in
theorem insertionF_1 (b g cap : Nat) (w : World) :
    Calls Tryz.prog 148 #[.slice (some ⟨g, 0, none⟩) 1 cap, .int .i64 0, .int .i64 1, .func (.func 94) #[] #[.pointer (some ⟨b, 0, none⟩)]] w fun e w' => (∃ v, e = .returned v) ∧ Below w.heap.size w w' := by
  go_enter Tryz.func148, Tryz.ntmps148
  go_wp2
  go_loopw [8] (fun iv wx => iv = .int .i64 1 ∧ Hid (Below w.heap.size w wx)) (fun _ _ => 0)
  case atStart => exact ⟨rfl, Below.refl _ _⟩
  case round =>
    obtain ⟨rfl, HB⟩ := hrel
    go_wp2
    go_end0
    exact ⟨⟨_, rfl⟩, HB.out⟩

set_option maxHeartbeats 1000000 in
theorem pdqF_1 (b g cap : Nat) (lim : Int) (w : World) :
    Calls Tryz.prog 125 #[.slice (some ⟨g, 0, none⟩) 1 cap, .int .i64 0, .int .i64 1, .int .i64 lim, .func (.func 94) #[] #[.pointer (some ⟨b, 0, none⟩)]] w fun e w' => (∃ v, e = .returned v) ∧ Below w.heap.size w w' := by
  go_enter Tryz.func125, Tryz.ntmps125
  go_wp2
  go_loopw [1, 2, 3, 10, 11] (fun av bv lv x1 x2 wx => av = .int .i64 0 ∧ bv = .int .i64 1 ∧ lv = .int .i64 lim ∧ x1 = .bool true ∧ x2 = .bool true ∧ Hid (wx = w)) (fun _ _ _ _ _ _ => 0)
  case atStart => exact ⟨rfl, rfl, rfl, rfl, rfl, rfl⟩
  case round =>
    obtain ⟨rfl, rfl, rfl, rfl, rfl, HW⟩ := hrel
    have hw := HW.out
    subst hw
    clear HW
    go_wp2_with fail
    refine (insertionF_1 b g cap wr).mono ?_
    rintro e w1 ⟨⟨v, rfl⟩, k1⟩
    have K1 : Hid (Below wr.heap.size wr w1) := k1
    clear k1
    go_wp2
    exact bodyPost_ret (results_none rfl _ _ _) rfl ⟨⟨_, rfl⟩, K1.out⟩

theorem SortFunc_1 (b g cap : Nat) (w : World) :
    Calls Tryz.prog 93 #[.slice (some ⟨g, 0, none⟩) 1 cap, .func (.func 94) #[] #[.pointer (some ⟨b, 0, none⟩)]] w fun e w' => (∃ v, e = .returned v) ∧ Below w.heap.size w w' := by
  go_enter Tryz.func93, Tryz.ntmps93
  go_wp2_with fail
  refine (Len_of 1 w (by omega) (by omega)).mono ?_
  rintro e w1 ⟨rfl, rfl⟩
  obtain ⟨lim, hlim⟩ : ∃ lim : Int, lim = (Lib.bitLen (Int.toNat 1) : Int) := ⟨_, rfl⟩
  rw [← hlim]
  clear hlim
  go_wp2_with fail
  refine (pdqF_1 b g cap lim w1).mono ?_
  rintro e w2 ⟨⟨v, rfl⟩, k2⟩
  have HR2 : Hid (Below w1.heap.size w1 w2) := k2
  clear k2
  go_wp2
  go_end0
  exact ⟨⟨_, rfl⟩, HR2.out⟩

theorem Tryz.infoPP : (Tryz.prog.info? 47).map (fun i => (i.zero, i.size, i.bytes)) = some (some (.agg #[.int .i64 0, .int .i64 0, .int .i64 0]), 3, 24) := by kernel_rfl

theorem Sv.grown {b : Nat} {c d : Int} {W W1 : World} {row : Option Nat} (h : Sv b c d W) (hg : W.grownBy W1 row) (hr : row ≠ some b) : Sv b c d W1 := by
  have e := hg.block b h.lt (fun e => hr e.symm)
  exact ⟨(World.cell?_of_block e).trans h.c0, (World.cell?_of_block e).trans h.c1, (World.frozen?_of_block e).trans h.f0, (World.frozen?_of_block e).trans h.f1, Nat.lt_of_lt_of_le h.lt hg.size⟩
theorem Cm.grown {b : Nat} {k : Kd} {x : Pp} {w W W1 : World} {row : Option Nat} (h : Cm b k x w W) (hg : W.grownBy W1 row) (hr : ∀ r, row = some r → b + 3 ≤ r) : Cm b k x w W1 :=
  ⟨h.r.grown hg (fun e => by have := hr _ e; omega), Sv.grown h.x hg (fun e => by have := hr _ e; omega), Sv.grown h.o hg (fun e => by have := hr _ e; omega), h.k.grown hg (by have := h.o.lt; omega) (fun r e => by have := hr _ e; omega)⟩
theorem row_setx {B n c g b : Nat} {t : TypeId} {W : World} {xs : List Value} (h : W.ownsRow B t 3 (.slice (some ⟨g, 0, none⟩) n c) n xs) (hb : b < B) (v1 v2 : Value) : ((W.setCell ⟨b, 0, none⟩ v1).setCell ⟨b, 1, none⟩ v2).ownsRow B t 3 (.slice (some ⟨g, 0, none⟩) n c) n xs :=
  ownsRow_setCell_below (ownsRow_setCell_below h (a := ⟨b, 0, none⟩) hb v1) (a := ⟨b, 1, none⟩) hb v2

/-- The memory of takeApart in its inner loop: x is what is left; the primes lie in go. -/
structure Ap (b : Nat) (k : Kd) (x : Pp) (go : Nat) (w W : World) : Prop where
  m : Cm b k x w W
  c : Cl go [.int .i64 2, .int .i64 1, .int .i64 2, .int .i64 1] 23 W
theorem Ap.below {b : Nat} {k : Kd} {x : Pp} {go : Nat} {w W W' : World} (h : Ap b k x go w W) (c : Below W.heap.size W W') : Ap b k x go w W' := ⟨h.m.below c, h.c.below c⟩
theorem Ap.alloc {b : Nat} {k : Kd} {x : Pp} {go : Nat} {w W : World} (h : Ap b k x go w W) (o : Obj) : Ap b k x go w (W.alloc o) := h.below (Below.alloc (Below.refl _ _) (Nat.le_refl _) _)
theorem Ap.grown {b : Nat} {k : Kd} {x : Pp} {go : Nat} {w W W1 : World} {row : Option Nat} (h : Ap b k x go w W) (hg : W.grownBy W1 row) (hr : ∀ r, row = some r → b + 3 ≤ r ∧ r ≠ go) : Ap b k x go w W1 :=
  ⟨Cm.grown h.m hg (fun r e => (hr r e).1), h.c.grown hg (fun e => (hr _ e).2 rfl)⟩
theorem Ap.setx {b : Nat} {k : Kd} {x : Pp} {go : Nat} {w W : World} (h : Ap b k x go w W) (hgo : b + 2 < go) (y : Pp) : Ap b k y go w ((W.setCell ⟨b + 1, 0, none⟩ (.int .i64 y.a)).setCell ⟨b + 1, 1, none⟩ (.int .i64 y.b)) :=
  ⟨h.m.setx y, (h.c.other (by show go ≠ b + 1; omega) _).other (by show go ≠ b + 1; omega) _⟩

set_option maxHeartbeats 2000000 in
theorem takeApart_3 (k : Kd) (K : KdIs (-1) k) (es : ∀ (args : Array Value) (w : World), (callFunc k.fs args).run Tryz.prog w = .ok (.enter k.fs args) w)
    (S3 : ∀ w, Calls Tryz.prog k.fs #[.int .i64 3] w fun e w' => e = .returned (.tuple #[pv ⟨1, 2⟩, .bool true]) ∧ Below w.heap.size w w') (w : World) :
    Calls Tryz.prog 67 #[k.v, pv ⟨3, 0⟩] w fun e w' => ∃ g cap, e = .returned (.tuple #[pv ⟨0, -1⟩, .slice (some ⟨g, 0, none⟩) 1 cap]) ∧ w'.ownsRow w.heap.size 47 3 (.slice (some ⟨g, 0, none⟩) 1 cap) 1 lO ∧ Below w.heap.size w w' := by
  have HO : Hid (∀ w, Calls Tryz.prog 91 #[k.v, .int .i64 3, pv ⟨3, 0⟩] w fun e w' => ∃ g, e = .returned (.slice (some ⟨g, 0, none⟩) 2 2) ∧ w.heap.size ≤ g ∧ Cl g [.int .i64 2, .int .i64 1, .int .i64 2, .int .i64 1] 23 w' ∧ Below w.heap.size w w') := fun w => over_3 k K es S3 w
  have HN : Hid (∀ w, Calls Tryz.prog 55 #[k.v, pv ⟨3, 0⟩] w fun e w' => e = .returned (.int .i64 9) ∧ Below w.heap.size w w') := fun w => rnorm_any (-1) k K ⟨3, 0⟩ w (.inr rfl) ⟨by decide, by decide, by decide, by decide⟩
  have HA : Hid (∀ w, Calls Tryz.prog 92 #[k.v, pv ⟨2, 1⟩, pv ⟨3, 0⟩] w fun e w' => e = .returned (.tuple #[pv ⟨0, -1⟩, .int .i64 2]) ∧ Below w.heap.size w w') := fun w => out_a k K w
  have HB : Hid (∀ w, Calls Tryz.prog 92 #[k.v, pv ⟨2, 1⟩, pv ⟨0, -1⟩] w fun e w' => e = .returned (.tuple #[pv ⟨0, -1⟩, .int .i64 0]) ∧ Below w.heap.size w w') := fun w => out_b k K w
  have HK : Hid (KdIs (-1) k) := K
  clear S3 K
  obtain ⟨u, o, ft, fm, fc, fs⟩ := k
  have HM0 : Hid (Cm w.heap.size ⟨u, o, ft, fm, fc, fs⟩ ⟨3, 0⟩ w (((w.alloc (.cells (Kd.cells ⟨u, o, ft, fm, fc, fs⟩) 55)).alloc (.cells #[.int .i64 3, .int .i64 0] 23)).alloc (.cells #[.int .i64 0, .int .i64 0] 23))) := cm_new w ⟨u, o, ft, fm, fc, fs⟩ ⟨3, 0⟩
  go_enter Tryz.func67, Tryz.ntmps67
  go_wp2_with fail
  refine (HN.out _).mono ?_
  rintro e w1 ⟨rfl, k1⟩
  have HM1 : Hid (Cm w.heap.size ⟨u, o, ft, fm, fc, fs⟩ ⟨3, 0⟩ w w1) := HM0.out.below k1
  clear k1 HM0
  go_wp2_with fail
  refine (Factor_sm [3, 3] 9 ⟨by decide, by decide⟩ (by decide) rfl (by decide) _).mono ?_
  rintro e w2 ⟨a, c, rfl, row, k2⟩
  replace row : w2.ownsRow w1.heap.size 101 2 (.slice a 1 c) 1 [.int .i64 3, .int .i64 2] := row
  rw [show (tly [3, 3]).length = 1 from rfl]
  obtain ⟨gp, rfl⟩ : ∃ gp, a = some ⟨gp, 0, none⟩ := by
    rcases row.2 with ⟨_, h⟩ | ⟨gp, _, _, h, _⟩
    · omega
    · simp only [Value.slice.injEq] at h; exact ⟨gp, h.1⟩
  have hcp : 1 ≤ c := by
    rcases row.2 with ⟨h, h2⟩ | ⟨_, _, _, h, _, _, h4, _⟩
    · omega
    · cases h; exact h4
  have HC2 : Hid (w2.cell? ⟨gp, 0, none⟩ = some (.int .i64 3) ∧ w2.cell? ⟨gp, 1, none⟩ = some (.int .i64 2)) := ⟨row.cellAt 0 (by decide), row.cellAt 1 (by decide)⟩
  have hgp := (row.lt gp rfl).2
  have HM2 : Hid (Cm w.heap.size ⟨u, o, ft, fm, fc, fs⟩ ⟨3, 0⟩ w w2) := HM1.out.below k2
  clear row k2 HM1
  obtain ⟨W3, hW3⟩ : ∃ W3, W3 = w2.alloc (.cells #[.int .i64 0, .int .i64 0] 28) := ⟨_, rfl⟩
  have HM3 : Hid (Cm w.heap.size ⟨u, o, ft, fm, fc, fs⟩ ⟨3, 0⟩ w W3) := by rw [hW3]; exact HM2.out.alloc _
  have HC3 : Hid (W3.cell? ⟨gp, 0, none⟩ = some (.int .i64 3) ∧ W3.cell? ⟨gp, 1, none⟩ = some (.int .i64 2)) := by
    have ka := (Below.refl w2.heap.size w2).alloc (Nat.le_refl _) (.cells #[.int .i64 0, .int .i64 0] 28)
    rw [hW3]
    exact ⟨(ka.cell (p := ⟨gp, 0, none⟩) hgp).trans HC2.out.1, (ka.cell (p := ⟨gp, 1, none⟩) hgp).trans HC2.out.2⟩
  obtain ⟨i0, hi, hz0, hz1, hz2⟩ := info_parts Tryz.infoPP
  have HI : Hid (Tryz.prog.info? 47 = some i0 ∧ i0.zero = some (.agg #[.int .i64 0, .int .i64 0, .int .i64 0]) ∧ i0.size = 3 ∧ i0.bytes = 24) := ⟨hi, hz0, hz1, hz2⟩
  clear hi hz0 hz1 hz2
  go_wp2
  rw [← hW3]
  clear hW3 HC2 HM2 hgp HN
  go_loopw [5, 23] (fun lv iv wx => (lv = .slice none 0 0 ∧ iv = .int .i64 0 ∧ Hid (wx = W3)) ∨ (∃ g cg, lv = .slice (some ⟨g, 0, none⟩) 1 cg ∧ iv = .int .i64 1 ∧ Hid (Cm w.heap.size ⟨u, o, ft, fm, fc, fs⟩ ⟨0, -1⟩ w wx ∧ wx.ownsRow (w.heap.size + 3) 47 3 (.slice (some ⟨g, 0, none⟩) 1 cg) 1 lO))) (fun _ iv _ => 1 - (intOf iv).toNat)
  case atStart => exact .inl ⟨rfl, rfl, rfl⟩
  case round =>
    rcases hrel with ⟨rfl, rfl, HW⟩ | ⟨g, cg, rfl, rfl, HR⟩
    · have hw := HW.out
      subst hw
      clear HW
      have g0 := HC3.out.1
      have g1 := HC3.out.2
      have r := fun o : Obj => Kt.rd (HM3.out.alloc o).r
      have r0 := fun o => (r o).1
      have r1 := fun o => (r o).2.1
      have r2 := fun o => (r o).2.2.1
      have r3 := fun o => (r o).2.2.2.1
      have r4 := fun o => (r o).2.2.2.2.1
      have r5 := fun o => (r o).2.2.2.2.2.1
      have r6 := fun o => (r o).2.2.2.2.2.2
      have x0 := fun o : Obj => (HM3.out.alloc o).x.c0
      have x1 := fun o : Obj => (HM3.out.alloc o).x.c1
      clear r
      go_wp2_with fail
      refine (HO.out _).mono ?_
      rintro e w4 ⟨go, rfl, hgo, hcgo, k4⟩
      have hgo' : w.heap.size + 2 < go := by have := HM3.out.o.lt; simp at hgo; omega
      have HA4 : Hid (Ap w.heap.size ⟨u, o, ft, fm, fc, fs⟩ ⟨3, 0⟩ go w w4) := ⟨(HM3.out.alloc _).below k4, hcgo⟩
      clear hgo hcgo k4 g0 g1 r0 r1 r2 r3 r4 r5 r6 x0 x1 HC3
      go_wp2
      go_loopw [5, 33] (fun lv jv wx => (lv = .slice none 0 0 ∧ jv = .int .i64 0 ∧ Hid (Ap w.heap.size ⟨u, o, ft, fm, fc, fs⟩ ⟨3, 0⟩ go w wx ∧ True)) ∨
          (∃ g cg, lv = .slice (some ⟨g, 0, none⟩) 1 cg ∧ jv = .int .i64 1 ∧ Hid (Ap w.heap.size ⟨u, o, ft, fm, fc, fs⟩ ⟨0, -1⟩ go w wx ∧ wx.ownsRow (w.heap.size + 3) 47 3 (.slice (some ⟨g, 0, none⟩) 1 cg) 1 lO)) ∨
          (∃ g cg, lv = .slice (some ⟨g, 0, none⟩) 1 cg ∧ jv = .int .i64 2 ∧ Hid (Ap w.heap.size ⟨u, o, ft, fm, fc, fs⟩ ⟨0, -1⟩ go w wx ∧ wx.ownsRow (w.heap.size + 3) 47 3 (.slice (some ⟨g, 0, none⟩) 1 cg) 1 lO))) (fun _ jv _ => 2 - (intOf jv).toNat)
      case atStart => exact .inl ⟨rfl, rfl, HA4.out, trivial⟩
      case round =>
        clear HA4
        rcases hrel with ⟨rfl, rfl, HR⟩ | ⟨g, cg, rfl, rfl, HR⟩ | ⟨g, cg, rfl, rfl, HR⟩
        · have r := fun o : Obj => Kt.rd (HR.out.1.alloc o).m.r
          have r0 := fun o => (r o).1
          have r1 := fun o => (r o).2.1
          have r2 := fun o => (r o).2.2.1
          have r3 := fun o => (r o).2.2.2.1
          have r4 := fun o => (r o).2.2.2.2.1
          have r5 := fun o => (r o).2.2.2.2.2.1
          have r6 := fun o => (r o).2.2.2.2.2.2
          have x0 := fun o : Obj => (HR.out.1.alloc o).m.x.c0
          have x1 := fun o : Obj => (HR.out.1.alloc o).m.x.c1
          have d0 := HR.out.1.c.cell 0
          have d1 := HR.out.1.c.cell 1
          simp at d0 d1
          have zr := HR.out.1.m.o.lt
          clear r
          go_wp2_with fail
          refine (HA.out _).mono ?_
          rintro e w5 ⟨rfl, k5⟩
          have A5 : Hid (Ap w.heap.size ⟨u, o, ft, fm, fc, fs⟩ ⟨3, 0⟩ go w w5) := (HR.out.1.alloc _).below k5
          have P5 : Sv wr.heap.size 2 1 w5 := (sv_new wr 23 wr.heap.size rfl 2 1).below k5
          skip
          have z5 : wr.heap.size < w5.heap.size := P5.lt
          have p0 := fun o : Obj => (sv_alloc P5 o).c0
          have p1 := fun o : Obj => (sv_alloc P5 o).c1
          clear HR k5 r0 r1 r2 r3 r4 r5 r6 x0 x1 d0 d1 P5
          go_wp2_with (at_builtin; refine wpList_append_own _ rfl _ _ 43 rfl (w.heap.size + 3) 47 i0 (.agg #[.int .i64 0, .int .i64 0, .int .i64 0]) 3 24 Tryz.underlying43 HI.out.1 HI.out.2.1 HI.out.2.2.1 HI.out.2.2.2 rfl (by decide) (.slice none 0 0) 0 [] rfl (World.ownsRow_nil _ _ _ _) ⟨w5.heap.size + 1, 0, none⟩ 1 1 [.int .i64 2, .int .i64 1, .int .i64 2] rfl rfl (cells_at _ _ _ _ (by simp)) (by simp [Value.oneCell']) (by simp only [maxLen]; omega) (by omega) (by simp; omega) ?_; intro v' w6 hown' hgrow _; obtain ⟨g', cap', rfl⟩ := ownsRow_succ hown'; have L6 : Sv w5.heap.size (0) (-1) w6 := Sv.grown (sv_alloc (sv_new w5 23 w5.heap.size rfl (0) (-1)) _) hgrow (by simp [Value.ownBlock]); have A6 := ((A5.out.alloc _).alloc _).grown hgrow (fun r e => by simp [Value.ownBlock] at e); have HA6 : Hid (Ap w.heap.size ⟨u, o, ft, fm, fc, fs⟩ ⟨3, 0⟩ go w w6) := A6; have HO6 : Hid (w6.ownsRow (w.heap.size + 3) 47 3 (.slice (some ⟨g', 0, none⟩) 1 cap') 1 lO) := hown'; have l0 := L6.c0; have l1 := L6.c1; have x0 := A6.m.x.c0; have x1 := A6.m.x.c1; have x2 := A6.m.x.f0; have x3 := A6.m.x.f1; have x4 := A6.m.x.lt; clear L6 A6 hown' hgrow A5 p0 p1)
          go_wp2
          go_roundw
          case rel => exact .inr (.inl ⟨g', cap', rfl, by go_num, HA6.out.setx hgo' ⟨0, -1⟩, row_setx HO6.out (by omega) _ _⟩)
          case measure => simp [intOf]
        · have r := fun o : Obj => Kt.rd (HR.out.1.alloc o).m.r
          have r0 := fun o => (r o).1
          have r1 := fun o => (r o).2.1
          have r2 := fun o => (r o).2.2.1
          have r3 := fun o => (r o).2.2.2.1
          have r4 := fun o => (r o).2.2.2.2.1
          have r5 := fun o => (r o).2.2.2.2.2.1
          have r6 := fun o => (r o).2.2.2.2.2.2
          have y0 := fun o : Obj => (HR.out.1.alloc o).m.x.c0
          have y1 := fun o : Obj => (HR.out.1.alloc o).m.x.c1
          have d0 := HR.out.1.c.cell 2
          have d1 := HR.out.1.c.cell 3
          simp at d0 d1
          have zr := HR.out.1.m.o.lt
          clear r
          go_wp2_with fail
          refine (HB.out _).mono ?_
          rintro e w5 ⟨rfl, k5⟩
          have A5 := (HR.out.1.alloc (.cells #[.int .i64 2, .int .i64 1] 23)).below k5
          have W5 := row3_below (row3_below HR.out.2 (Below.alloc (Below.refl _ _) (Nat.le_refl _) (.cells #[.int .i64 2, .int .i64 1] 23))) k5
          have HA6 : Hid (Ap w.heap.size ⟨u, o, ft, fm, fc, fs⟩ ⟨0, -1⟩ go w (w5.alloc (.cells #[.int .i64 0, .int .i64 (-1)] 23))) := A5.alloc _
          have HO6 : Hid ((w5.alloc (.cells #[.int .i64 0, .int .i64 (-1)] 23)).ownsRow (w.heap.size + 3) 47 3 (.slice (some ⟨g, 0, none⟩) 1 cg) 1 lO) := W5.alloc _
          have x0 := HA6.out.m.x.c0
          have x1 := HA6.out.m.x.c1
          have x2 := HA6.out.m.x.f0
          have x3 := HA6.out.m.x.f1
          have x4 := HA6.out.m.x.lt
          clear HR k5 r0 r1 r2 r3 r4 r5 r6 y0 y1 d0 d1 A5 W5
          go_wp2
          go_roundw
          case rel => exact .inr (.inr ⟨g, cg, rfl, by go_num, HA6.out.setx hgo' ⟨0, -1⟩, row_setx HO6.out (by omega) _ _⟩)
          case measure => simp [intOf]
        · go_wp2
          go_roundw
          case rel => exact .inr ⟨g, cg, rfl, rfl, HR.out.1.m, HR.out.2⟩
          case measure => simp [intOf]
    · have x0 := HR.out.1.x.c0
      have x1 := HR.out.1.x.c1
      go_wp2_with fail
      refine (SortFunc_1 w.heap.size g cg wr).mono ?_
      rintro e w4 ⟨⟨v, rfl⟩, k4⟩
      have hrow := row3_below HR.out.2 k4
      have z4 := HR.out.1.o.lt
      have X4 : Sv (w.heap.size + 1) 0 (-1) w4 := HR.out.1.x.below k4
      have O4 : Sv (w.heap.size + 2) 0 0 w4 := HR.out.1.o.below k4
      have HK4 : Hid (Below w.heap.size w w4) := HR.out.1.k.trans (k4.mono (by omega))
      have HO4 : Hid (w4.ownsRow (w.heap.size + 3) 47 3 (.slice (some ⟨g, 0, none⟩) 1 cg) 1 lO) := hrow
      clear x0 x1 hrow k4 HR
      have x0 := X4.c0
      have x1 := X4.c1
      have o0 := O4.c0
      have o1 := O4.c1
      have o2 := O4.f0
      have o3 := O4.f1
      have o4 := O4.lt
      have HE : Hid (Sv (w.heap.size + 1 + 1) 0 (-1) ((w4.setCell ⟨w.heap.size + 1 + 1, 0, none⟩ (.int .i64 0)).setCell ⟨w.heap.size + 1 + 1, 1, none⟩ (.int .i64 (-1)))) := O4.set 0 (-1)
      have HO5 := row_setx HO4.out (show w.heap.size + 1 + 1 < w.heap.size + 3 by omega) (.int .i64 0) (.int .i64 (-1))
      have HO6 : Hid (((w4.setCell ⟨w.heap.size + 1 + 1, 0, none⟩ (.int .i64 0)).setCell ⟨w.heap.size + 1 + 1, 1, none⟩ (.int .i64 (-1))).ownsRow w.heap.size 47 3 (.slice (some ⟨g, 0, none⟩) 1 cg) 1 lO) := by
        obtain ⟨h6, h7⟩ := HO5
        refine ⟨h6, ?_⟩
        rcases h7 with h8 | ⟨g9, cp9, cur, h9, h10, h11⟩
        · exact .inl h8
        · exact .inr ⟨g9, cp9, cur, h9, by omega, h11⟩
      have HK6 : Hid (Below w.heap.size w ((w4.setCell ⟨w.heap.size + 1 + 1, 0, none⟩ (.int .i64 0)).setCell ⟨w.heap.size + 1 + 1, 1, none⟩ (.int .i64 (-1)))) := (HK4.out.setCell (by show w.heap.size ≤ w.heap.size + 2; omega) _).setCell (by show w.heap.size ≤ w.heap.size + 2; omega) _
      clear X4 O4 HO5 HO4
      go_wp2_with fail
      generalize hWF : World.setCell _ _ _ = WF
      have E : Sv (w.heap.size + 1 + 1) 0 (-1) WF := hWF ▸ HE.out
      have E2 : WF.ownsRow w.heap.size 47 3 (.slice (some ⟨g, 0, none⟩) 1 cg) 1 lO := hWF ▸ HO6.out
      have E3 : Below w.heap.size w WF := hWF ▸ HK6.out
      have e0 := E.c0
      have e1 := E.c1
      have e4 := E.lt
      exact bodyPost_ret (v := .tuple #[pv ⟨0, -1⟩, .slice (some ⟨g, 0, none⟩) 1 cg]) (by simp [results, Tryz.results67, go_sem, e0, e1, e4]) rfl ⟨g, cg, rfl, E2, E3⟩

end Go.Proofs.YtogdggdaaiajnadGreatDoor.E3
