import Derived.Test.YtfbgblidlabipaaGreatDoorJnC
import Derived.Test.YtfbgblidlabipaaGreatDoorJnM
import Derived.Deep.CutBlock
section
/- A region that draws its order: two may come up. -/
set_option linter.unusedSimpArgs false
set_option linter.unusedVariables false
set_option maxRecDepth 100000
namespace Go.Proofs.YtfbgblidlabipaaGreatDoor
open Go.RowKit

section
variable {P : Program} {ops : Array Oper} {Q : Exit → Act → World → Prop} {md : Region.Mode} {S : World → Prop}

/-- Two may come up, and neither is g. -/
theorem wpAnyG_two {i j g : Nat} {oi oj : Oper} {fuel : Nat} {listed : Array Bool} {a : Act} {w : World} (hi : ops[i]? = some oi) (hj : ops[j]? = some oj) (hr : Region.ready md ops listed = [i, j])
    (h1 : ∀ K' : Act → World → Prop, Hid (∀ a w, S w → wpAnyG P md ops Q S g fuel (listed.setIfInBounds i true) a w → K' a w) → if Region.wanted oi (yielded ops a.tmps) = true then Oper.wp P oi a w K' Q else K' (a.put oi.dst undef) w)
    (h2 : ∀ K' : Act → World → Prop, Hid (∀ a w, S w → wpAnyG P md ops Q S g fuel (listed.setIfInBounds j true) a w → K' a w) → if Region.wanted oj (yielded ops a.tmps) = true then Oper.wp P oj a w K' Q else K' (a.put oj.dst undef) w) :
    wpAnyG P md ops Q S g (fuel + 1) listed a w := by
  refine ⟨fun h0 => (by rw [hr] at h0; cases h0), fun m hm => ?_⟩
  rw [hr] at hm
  simp at hm
  rcases hm with rfl | rfl
  · exact wpOp_step hi fun K' hK => h1 K' (fun a w h1 h2 => hK a w ⟨fun _ _ => h1, h2⟩)
  · exact wpOp_step hj fun K' hK => h2 K' (fun a w h1 h2 => hK a w ⟨fun _ _ => h1, h2⟩)
end
end Go.Proofs.YtfbgblidlabipaaGreatDoor
end

section
/- The program: cont.climb. -/
set_option linter.unusedSimpArgs false
set_option linter.unusedVariables false
set_option maxRecDepth 100000
namespace Go.Proofs.YtfbgblidlabipaaGreatDoor
open Go.RowKit LgM

/-- The fractions on the way, from entry to entry. -/
def cb (L : List Nat) (s : (Nat × Nat) × (Nat × Nat)) : Nat → (Nat × Nat) × (Nat × Nat)
  | 0 => s
  | i + 1 => ((cb L s i).2, ((cb L s i).1.1 + (cb L s i).2.1 * L.getD i 0, (cb L s i).1.2 + (cb L s i).2.2 * L.getD i 0))
theorem cb_lt (L : List Nat) (s : (Nat × Nat) × (Nat × Nat)) (m : Nat) (hL : ∀ i, L.getD i 0 ≤ 999999998) (h : s.1.1 < Bs ^ m ∧ s.1.2 < Bs ^ m ∧ s.2.1 < Bs ^ m ∧ s.2.2 < Bs ^ m) (i : Nat) :
    (cb L s i).1.1 < Bs ^ (m + i) ∧ (cb L s i).1.2 < Bs ^ (m + i) ∧ (cb L s i).2.1 < Bs ^ (m + i) ∧ (cb L s i).2.2 < Bs ^ (m + i) := by
  induction i with
  | zero => exact h
  | succ i ih =>
    obtain ⟨h1, h2, h3, h4⟩ := ih
    have hp : Bs ^ (m + (i + 1)) = Bs ^ (m + i) * Bs := pow_s (m + i)
    rw [hp]
    have hl := hL i
    simp only [cb]
    generalize Bs ^ (m + i) = B at *
    generalize L.getD i 0 = q at *
    have g : ∀ x y, x < B → y < B → x + y * q < B * Bs := by
      intro x y hx hy
      have e1 : y * q ≤ B * 999999998 := Nat.mul_le_mul (by omega) hl
      have e2 : B * Bs = B * 999999998 + B * 2 := by rw [← Nat.mul_add]
      omega
    have e3 : B * Bs = B + B * 999999999 := by show B * 1000000000 = _; omega
    exact ⟨by omega, by omega, g _ _ h1 h3, g _ _ h2 h4⟩

/-- What climb holds ahead of the loop. -/
structure Cm (h d r p q B7 : Nat) (a0 b0 : Value) (x0 y0 : Nat) (w W : World) : Prop where
  s : Cl h (sgc d r p q) 110 W
  z : Cl (h + 1) [.slice none 0 0, .slice none 0 0] 120 W
  b : Cl B7 [a0, b0] 120 W
  la : LN W a0 x0
  lb : LN W b0 y0
  k : Below h w W
  h7 : h + 1 < B7
theorem Cm.below {h d r p q B7 : Nat} {a0 b0 : Value} {x0 y0 : Nat} {w W W' : World} (c : Cm h d r p q B7 a0 b0 x0 y0 w W) (k : Below W.heap.size W W') : Cm h d r p q B7 a0 b0 x0 y0 w W' :=
  ⟨c.s.below k, c.z.below k, c.b.below k, c.la.below k, c.lb.below k, c.k.trans (k.mono (by have := c.s.lt; omega)), c.h7⟩
theorem Cm.lt {h d r p q B7 : Nat} {a0 b0 : Value} {x0 y0 : Nat} {w W : World} (c : Cm h d r p q B7 a0 b0 x0 y0 w W) : B7 < W.heap.size := c.b.lt
theorem Cm.held {h d r p q B7 : Nat} {a0 b0 : Value} {x0 y0 : Nat} {w W : World} (c : Cm h d r p q B7 a0 b0 x0 y0 w W) : S4c h d r p q W := s4c_of c.s
theorem Cm.set {h d r p q B7 B8 o : Nat} {a0 b0 : Value} {x0 y0 : Nat} {w W : World} {l : List Value} (c : Cm h d r p q B7 a0 b0 x0 y0 w W) (hz : Cl B8 l 120 W) (hl : ∀ u ∈ l, ∀ z, u ≠ .int .i64 z) (h8 : B7 < B8) (v : Value) : Cm h d r p q B7 a0 b0 x0 y0 w (W.setCell ⟨B8, o, none⟩ v) :=
  ⟨c.s.other (by have := c.h7; simp; omega) v, c.z.other (by have := c.h7; simp; omega) v, c.b.other (by simp; omega) v, c.la.setc hz hl v, c.lb.setc hz hl v, c.k.setCell (by have := c.h7; simp; omega) v, c.h7⟩

/-- .. and with the second box. -/
def Cn (h d r p q B7 B8 : Nat) (a0 b0 a1 b1 : Value) (x0 y0 x1 y1 : Nat) (w W : World) : Prop :=
  Cm h d r p q B7 a0 b0 x0 y0 w W ∧ Cl B8 [a1, b1] 120 W ∧ LN W a1 x1 ∧ LN W b1 y1 ∧ B7 < B8

theorem cl_end {h d r p q B7 B8 : Nat} {a0 b0 : Value} {x0 y0 x1 y1 : Nat} {w W : World} {a1 a2 : Option Addr} {k1 c1 k2 c2 : Nat} (m : Cm h d r p q B7 a0 b0 x0 y0 w W) (hz : Cl B8 [.slice none 0 0, .slice none 0 0] 120 W) (h8 : B7 < B8) (l1 : LN W (.slice a1 k1 c1) x1) (l2 : LN W (.slice a2 k2 c2) y1) :
    ∃ (B8' : Nat) (a1' b1' : Value), Value.pointer (some ⟨B8, 0, none⟩) = .pointer (some ⟨B8', 0, none⟩) ∧ Hid (Cn h d r p q B7 B8' a0 b0 a1' b1' x0 y0 x1 y1 w ((W.setCell ⟨B8, 0, none⟩ (.slice a1 k1 c1)).setCell ⟨B8, 1, none⟩ (.slice a2 k2 c2))) := by
  have Z1 := hz.set 0 (.slice a1 k1 c1)
  have Z2 := Z1.set 1 (.slice a2 k2 c2)
  simp at Z1
  exact ⟨B8, .slice a1 k1 c1, .slice a2 k2 c2, rfl, (m.set hz (by simp) h8 _).set Z1 (by simp) h8 _, Z2, (l1.setc hz (by simp) _).setc Z1 (by simp) _, (l2.setc hz (by simp) _).setc Z1 (by simp) _, h8⟩

theorem cl_new {h d r p q B7 : Nat} {a0 b0 : Value} {x0 y0 x1 y1 : Nat} {w W : World} {a1 a2 : Option Addr} {k1 c1 k2 c2 : Nat} (m : Cm h d r p q B7 a0 b0 x0 y0 w W) (l1 : LN W (.slice a1 k1 c1) x1) (l2 : LN W (.slice a2 k2 c2) y1) :
    ∃ (B8' : Nat) (a1' b1' : Value), Value.pointer (some ⟨W.heap.size, 0, none⟩) = .pointer (some ⟨B8', 0, none⟩) ∧ Hid (Cn h d r p q B7 B8' a0 b0 a1' b1' x0 y0 x1 y1 w (W.alloc (.cells #[.slice a1 k1 c1, .slice a2 k2 c2] 120))) := by
  have ka := ((Below.refl W.heap.size W).alloc (Nat.le_refl _) (.cells #[.slice a1 k1 c1, .slice a2 k2 c2] 120))
  exact ⟨W.heap.size, .slice a1 k1 c1, .slice a2 k2 c2, rfl, m.below ka, Cl.new [.slice a1 k1 c1, .slice a2 k2 c2] _ W, l1.below ka, l2.below ka, m.lt⟩

theorem cn_step {h d r p q B7 B8 : Nat} {x0 y0 x1 y1 x2 y2 : Nat} {w W : World} {a0 a1 a2 a3 a4 a5 : Option Addr} {k0 c0 k1 c1 k2 c2 k3 c3 k4 c4 k5 c5 : Nat} (m : Cm h d r p q B7 (.slice a0 k0 c0) (.slice a1 k1 c1) x0 y0 w W) (C8 : Cl B8 [.slice a2 k2 c2, .slice a3 k3 c3] 120 W) (h8 : B7 < B8)
    (l2 : LN W (.slice a2 k2 c2) x1) (l3 : LN W (.slice a3 k3 c3) y1) (l4 : LN W (.slice a4 k4 c4) x2) (l5 : LN W (.slice a5 k5 c5) y2) :
    Cn h d r p q B7 B8 (.slice a2 k2 c2) (.slice a3 k3 c3) (.slice a4 k4 c4) (.slice a5 k5 c5) x1 y1 x2 y2 w ((((W.setCell ⟨B7, 0, none⟩ (.slice a2 k2 c2)).setCell ⟨B7, 1, none⟩ (.slice a3 k3 c3)).setCell ⟨B8, 0, none⟩ (.slice a4 k4 c4)).setCell ⟨B8, 1, none⟩ (.slice a5 k5 c5)) := by
  have h7 := m.h7
  have A1 : Cl B7 [.slice a2 k2 c2, .slice a1 k1 c1] 120 (W.setCell ⟨B7, 0, none⟩ (.slice a2 k2 c2)) := m.b.set 0 _
  have A2 : Cl B7 [.slice a2 k2 c2, .slice a3 k3 c3] 120 ((W.setCell ⟨B7, 0, none⟩ (.slice a2 k2 c2)).setCell ⟨B7, 1, none⟩ (.slice a3 k3 c3)) := A1.set 1 _
  have D1 := C8.other (p := ⟨B7, 0, none⟩) (by simp; omega) (.slice a2 k2 c2)
  have D2 := D1.other (p := ⟨B7, 1, none⟩) (by simp; omega) (.slice a3 k3 c3)
  have D3 : Cl B8 [.slice a4 k4 c4, .slice a3 k3 c3] 120 (((W.setCell ⟨B7, 0, none⟩ (.slice a2 k2 c2)).setCell ⟨B7, 1, none⟩ (.slice a3 k3 c3)).setCell ⟨B8, 0, none⟩ (.slice a4 k4 c4)) := D2.set 0 _
  have D4 := D3.set 1 (.slice a5 k5 c5)
  have G : ∀ {v : Value} {n : Nat}, LN W v n → LN ((((W.setCell ⟨B7, 0, none⟩ (.slice a2 k2 c2)).setCell ⟨B7, 1, none⟩ (.slice a3 k3 c3)).setCell ⟨B8, 0, none⟩ (.slice a4 k4 c4)).setCell ⟨B8, 1, none⟩ (.slice a5 k5 c5)) v n := fun l =>
    (((l.setc m.b (by simp) _).setc A1 (by simp) _).setc D2 (by simp) _).setc D3 (by simp) _
  have O : ∀ {b : Nat} {l : List Value} {t : TypeId}, Cl b l t W → b < B7 → Cl b l t ((((W.setCell ⟨B7, 0, none⟩ (.slice a2 k2 c2)).setCell ⟨B7, 1, none⟩ (.slice a3 k3 c3)).setCell ⟨B8, 0, none⟩ (.slice a4 k4 c4)).setCell ⟨B8, 1, none⟩ (.slice a5 k5 c5)) := fun l hb =>
    (((l.other (by simp; omega) _).other (by simp; omega) _).other (by simp; omega) _).other (by simp; omega) _
  refine ⟨⟨O m.s (by omega), O m.z (by omega), ?_, G l2, G l3, ?_, h7⟩, D4, G l4, G l5, h8⟩
  · exact (A2.other (by simp; omega) _).other (by simp; omega) _
  · exact (((m.k.setCell (by simp; omega) _).setCell (by simp; omega) _).setCell (by simp; omega) _).setCell (by simp; omega) _

set_option maxHeartbeats 8000000 in
theorem climb_any (d r p q P Q c : Nat) (L : List Nat) (lv : Value) (w : World) (hcap : ∀ a k c, lv = .slice a k c → k ≤ c) (hnx : Nx d r p q P Q) (hc : c ≤ 2) (hq2 : q ≤ 2) (hl : IS w lv (nz L)) (hL1 : 1 ≤ L.length) (hL2 : L.length ≤ 4000) (hL : ∀ i, L.getD i 0 ≤ 999999998) :
    Calls Tryz.prog 72 #[sgv d r p q, .int .i64 (c : Int), lv] w fun e w' => ∃ a b, e = .returned (.agg #[a, b]) ∧ LN w' a (cb L ((c, 0), (c * P / q, c / q)) (L.length - 1)).2.1 ∧ LN w' b (cb L ((c, 0), (c * P / q, c / q)) (L.length - 1)).2.2 ∧ Below w.heap.size w w' := by
  have HNx : Hid (∀ W, Calls Tryz.prog 135 #[.agg #[.int .i64 (d : Int), .int .i64 (r : Int), .int .i64 (p : Int), .int .i64 (q : Int)]] W fun e w' => e = .returned (.agg #[.int .i64 (d : Int), .int .i64 (r : Int), .int .i64 (P : Int), .int .i64 (Q : Int)]) ∧ Below W.heap.size W w') := fun W => hnx.call W
  obtain ⟨cP, hcP⟩ : ∃ cP : Nat, cP = c * P := ⟨_, rfl⟩
  have hPb := hnx.hP
  have hcP2 : cP ≤ 2000000 := by rw [hcP]; exact Nat.le_trans (Nat.mul_le_mul hc hPb) (by omega)
  have hcPI : (c : Int) * (P : Int) = (cP : Int) := by rw [hcP, Int.natCast_mul]
  rw [← hcP]
  obtain ⟨x1, hx1⟩ : ∃ x1 : Nat, x1 = cP / q := ⟨_, rfl⟩
  obtain ⟨y1, hy1⟩ : ∃ y1 : Nat, y1 = c / q := ⟨_, rfl⟩
  have hx1I : Int.tdiv (cP : Int) (q : Int) = (x1 : Int) := by rw [hx1]; rfl
  have hx1J : (cP : Int) / (q : Int) = (x1 : Int) := by rw [hx1, Int.natCast_ediv]
  have hy1I : Int.tdiv (c : Int) (q : Int) = (y1 : Int) := by rw [hy1]; rfl
  have hy1J : (c : Int) / (q : Int) = (y1 : Int) := by rw [hy1, Int.natCast_ediv]
  have hx1b : x1 ≤ 2000000 := by rw [hx1]; exact Nat.le_trans (Nat.div_le_self _ _) hcP2
  have hy1b : y1 ≤ 2 := by rw [hy1]; exact Nat.le_trans (Nat.div_le_self _ _) hc
  rw [← hx1, ← hy1]
  have hq0 : ((q : Int) == 0) = false := beq_eq_false_iff_ne.2 (by have := hnx.hq; omega)
  have hq1 := hnx.hq
  have HC0 : Hid (∀ W, Calls Tryz.prog 134 #[.int .i64 (c : Int)] W fun e w' => ∃ v, e = .returned (.agg #[v]) ∧ LN w' v c ∧ Below W.heap.size W w') := fun W => Of_any c W (by omega)
  have HZ0 : Hid (∀ W, Calls Tryz.prog 134 #[.int .i64 0] W fun e w' => ∃ v, e = .returned (.agg #[v]) ∧ LN w' v 0 ∧ Below W.heap.size W w') := fun W => Of_any 0 W (by omega)
  have HA : Hid (∀ W, Calls Tryz.prog 134 #[.int .i64 (x1 : Int)] W fun e w' => ∃ v, e = .returned (.agg #[v]) ∧ LN w' v x1 ∧ Below W.heap.size W w') := fun W => Of_any x1 W (by omega)
  have HB : Hid (∀ W, Calls Tryz.prog 134 #[.int .i64 (y1 : Int)] W fun e w' => ∃ v, e = .returned (.agg #[v]) ∧ LN w' v y1 ∧ Below W.heap.size W w') := fun W => Of_any y1 W (by omega)
  have HIS : Hid (IS w lv (nz L)) := hl
  obtain ⟨N, hN⟩ : ∃ N, L.length = N + 1 := ⟨L.length - 1, by omega⟩
  have HN : Hid (L.length = N + 1) := hN
  have HL : Hid (∀ i, L.getD i 0 ≤ 999999998) := hL
  obtain ⟨la, lg, lo, lc, rfl, lp, lcell, llt⟩ := hl.shape
  have hnl : (nz L).length = N + 1 := by rw [nz_len, hN]
  rw [hnl] at lp lcell llt ⊢
  obtain rfl := lp (by omega)
  have hlt := llt (by omega)
  have hcap2 : N ≤ lc := by have := hcap _ _ _ rfl; omega
  clear hcap
  have HLc : Hid (∀ i, i < N + 1 → w.cell? ⟨lg, lo + i, none⟩ = some (.int .i64 ((nz L).getD i 0))) := lcell
  have hNb : N ≤ 4000 := by omega
  rw [show L.length - 1 = N by omega]
  clear hnx hcP hx1 hy1 hl hL1 hL2 hL hN lp lcell llt hnl
  unfold sgv
  go_enter Tryz.func72, Tryz.ntmps72
  go_wp2_with fail
  refine (HC0.out _).mono ?_
  rintro e w1 ⟨v1, rfl, l1, k1⟩
  obtain ⟨a0, ka, ca, rfl⟩ := l1.slice
  go_wp2_with fail
  refine (HZ0.out _).mono ?_
  rintro e w2 ⟨v2, rfl, l2, k2⟩
  obtain ⟨b0, kb, cb0, rfl⟩ := l2.slice
  have l1 := l1.below k2
  have S0 : Cl w.heap.size (sgc d r p q) 110 w2 := (((Cl.new (sgc d r p q) 110 w).alloc (.cells #[.slice none 0 0, .slice none 0 0] 120)).below k1).below k2
  have Z0 : Cl (w.heap.size + 1) [.slice none 0 0, .slice none 0 0] 120 w2 := by
    have := Cl.new [.slice none 0 0, .slice none 0 0] 120 (w.alloc (.cells #[.int .i64 (d : Int), .int .i64 (r : Int), .int .i64 (p : Int), .int .i64 (q : Int)] 110))
    rw [World.size_alloc] at this
    exact (this.below k1).below k2
  have K0 : Below w.heap.size w w2 := ((((Below.refl _ w).alloc (Nat.le_refl _) _).alloc (by simp) _).trans (k1.mono (by simp; omega))).trans (k2.mono (by have := k1.size; simp at this; omega))
  have z2 : w.heap.size + 2 ≤ w2.heap.size := by have := k1.size; have := k2.size; simp at *; omega
  have M0 : Cm w.heap.size d r p q w2.heap.size (.slice a0 ka ca) (.slice b0 kb cb0) c 0 w (w2.alloc (.cells #[.slice a0 ka ca, .slice b0 kb cb0] 120)) := by
    have ka' := ((Below.refl w2.heap.size w2).alloc (Nat.le_refl _) (.cells #[.slice a0 ka ca, .slice b0 kb cb0] 120))
    exact ⟨S0.below ka', Z0.below ka', Cl.new [.slice a0 ka ca, .slice b0 kb cb0] _ w2, l1.below ka', l2.below ka', K0.trans (ka'.mono (by omega)), by omega⟩
  clear S0 Z0 K0 l1 l2 k1 k2 HC0 HZ0
  go_wp2_with fail
  obtain ⟨W0, hW0⟩ : ∃ W0, W0 = w2.alloc (.cells #[.slice a0 ka ca, .slice b0 kb cb0] 120) := ⟨_, rfl⟩
  rw [← hW0] at M0 ⊢
  clear hW0
  obtain ⟨B7, hB7⟩ : ∃ B7, B7 = w2.heap.size := ⟨_, rfl⟩
  rw [← hB7] at M0 ⊢
  clear hB7 z2
  go_cut [8] from 15 to 29 (fun v8 wx => ∃ (B8 : Nat) (a1 b1 : Value), v8 = .pointer (some ⟨B8, 0, none⟩) ∧ Hid (Cn w.heap.size d r p q B7 B8 (.slice a0 ka ca) (.slice b0 kb cb0) a1 b1 c 0 x1 y1 w wx))
  case first =>
    refine wp_region_G (S4c w.heap.size d r p q) 16 (by kernel_rfl) M0.held (fun hHeld => ?_)
    have M0 := M0.below (Below.refl W0.heap.size W0).drew
    have hqn : ¬ q = 0 := by omega
    have hwy : IntKind.i64.wrap (y1 : Int) = (y1 : Int) := by rw [IntKind.wrap_i64]; omega
    have hwx : IntKind.i64.wrap (x1 : Int) = (x1 : Int) := by rw [IntKind.wrap_i64]; omega
    have hwc : IntKind.i64.wrap (cP : Int) = (cP : Int) := by rw [IntKind.wrap_i64]; omega
    refine wpAnyG_take (i := 0) (v := ?v0x1) rfl (by kernel_rfl) (fun _ _ _ h => h) (Or.inl ⟨by rfl, ?y0x1⟩) hHeld ?r0x1
    case y0x1 => (intro wS hSw; obtain ⟨s1, s2, s3, s4⟩ := hSw; go_simp; try with_reducible rfl)
    try simp only [Act.put, List.setIfInBounds_toArray, List.set_cons_zero, List.set_cons_succ]
    refine wpAnyG_take (i := 1) (v := ?v1x2) rfl (by kernel_rfl) (fun _ _ _ h => h) (Or.inl ⟨by rfl, ?y1x2⟩) hHeld ?r1x2
    case y1x2 => (intro wS hSw; obtain ⟨s1, s2, s3, s4⟩ := hSw; go_simp; try with_reducible rfl)
    try simp only [Act.put, List.setIfInBounds_toArray, List.set_cons_zero, List.set_cons_succ]
    refine wpAnyG_take (i := 5) (v := ?v5x3) rfl (by kernel_rfl) (fun _ _ _ h => h) (Or.inl ⟨by rfl, ?y5x3⟩) hHeld ?r5x3
    case y5x3 => (intro wS hSw; obtain ⟨s1, s2, s3, s4⟩ := hSw; go_simp; try with_reducible rfl)
    try simp only [Act.put, List.setIfInBounds_toArray, List.set_cons_zero, List.set_cons_succ]
    refine wpAnyG_take (i := 6) (v := ?v6x4) rfl (by kernel_rfl) (fun _ _ _ h => h) (Or.inl ⟨by rfl, ?y6x4⟩) hHeld ?r6x4
    case y6x4 => (intro wS hSw; obtain ⟨s1, s2, s3, s4⟩ := hSw; go_simp; try with_reducible rfl)
    try simp only [Act.put, List.setIfInBounds_toArray, List.set_cons_zero, List.set_cons_succ]
    refine wpAnyG_take (i := 9) (v := ?v9x5) rfl (by kernel_rfl) (fun _ _ _ h => h) (Or.inl ⟨by rfl, ?y9x5⟩) hHeld ?r9x5
    case y9x5 => (intro wS hSw; obtain ⟨s1, s2, s3, s4⟩ := hSw; go_simp; try with_reducible rfl)
    try simp only [Act.put, List.setIfInBounds_toArray, List.set_cons_zero, List.set_cons_succ]
    refine wpAnyG_take (i := 10) (v := ?v10x6) rfl (by kernel_rfl) (fun _ _ _ h => h) (Or.inl ⟨by rfl, ?y10x6⟩) hHeld ?r10x6
    case y10x6 => (intro wS hSw; obtain ⟨s1, s2, s3, s4⟩ := hSw; go_simp; try with_reducible rfl)
    try simp only [Act.put, List.setIfInBounds_toArray, List.set_cons_zero, List.set_cons_succ]
    refine wpAnyG_take (i := 11) (v := ?v11x7) rfl (by kernel_rfl) (fun _ _ _ h => h) (Or.inl ⟨by rfl, ?y11x7⟩) hHeld ?r11x7
    case y11x7 => (intro wS hSw; obtain ⟨s1, s2, s3, s4⟩ := hSw; go_simp; try with_reducible rfl)
    try simp only [Act.put, List.setIfInBounds_toArray, List.set_cons_zero, List.set_cons_succ]
    refine wpAnyG_take (i := 12) (v := .int .i64 (y1 : Int)) rfl (by kernel_rfl) (fun _ _ _ h => h) (Or.inl ⟨by kernel_rfl, ?y12x8⟩) hHeld ?r12x8
    case y12x8 => (intro wS hSw; obtain ⟨s1, s2, s3, s4⟩ := hSw; go_simp; try rw [if_neg hqn, hwy])
    try simp only [Act.put, List.setIfInBounds_toArray, List.set_cons_zero, List.set_cons_succ]
    --WAYS
    refine wpAnyG_two (i := 2) (j := 15) rfl rfl (by kernel_rfl) (fun K hK => ?_) (fun K hK => ?_)
    · go_simp
      refine (HNx.out _).mono ?_
      rintro e w1 ⟨rfl, k1⟩
      have M1 := M0.below k1
      refine hK.out _ _ M1.held ?_
      clear hK K
      try simp only [Act.put, List.setIfInBounds_toArray, List.set_cons_zero, List.set_cons_succ]
      clear hHeld
      have hHeld := M1.held
      refine wpAnyG_take (i := 3) (v := .int .i64 (P : Int)) rfl (by kernel_rfl) (fun _ _ _ h => h) (Or.inl ⟨by kernel_rfl, ?y3x9⟩) hHeld ?r3x9
      case y3x9 => (intro wS hSw; kernel_rfl)
      try simp only [Act.put, List.setIfInBounds_toArray, List.set_cons_zero, List.set_cons_succ]
      refine wpAnyG_take (i := 4) (v := .int .i64 (cP : Int)) rfl (by kernel_rfl) (fun _ _ _ h => h) (Or.inl ⟨by kernel_rfl, ?y4x10⟩) hHeld ?r4x10
      case y4x10 => (intro wS hSw; obtain ⟨s1, s2, s3, s4⟩ := hSw; go_simp; try rw [hwc])
      try simp only [Act.put, List.setIfInBounds_toArray, List.set_cons_zero, List.set_cons_succ]
      refine wpAnyG_take (i := 7) (v := .int .i64 (x1 : Int)) rfl (by kernel_rfl) (fun _ _ _ h => h) (Or.inl ⟨by kernel_rfl, ?y7x11⟩) hHeld ?r7x11
      case y7x11 => (intro wS hSw; obtain ⟨s1, s2, s3, s4⟩ := hSw; go_simp; try rw [if_neg hqn, hwx])
      try simp only [Act.put, List.setIfInBounds_toArray, List.set_cons_zero, List.set_cons_succ]
      refine wpAnyG_two (i := 8) (j := 15) rfl rfl (by kernel_rfl) (fun K hK => ?_) (fun K hK => ?_)
      · go_simp
        refine (HA.out _).mono ?_
        rintro e w2 ⟨r2, rfl, l2, k2⟩
        obtain ⟨aA, bA, cA, rfl⟩ := l2.slice
        have M2 := M1.below k2
        refine hK.out _ _ M2.held ?_
        clear hK K
        try simp only [Act.put, List.setIfInBounds_toArray, List.set_cons_zero, List.set_cons_succ]
        clear hHeld
        have hHeld := M2.held
        refine wpAnyG_two (i := 13) (j := 15) rfl rfl (by kernel_rfl) (fun K hK => ?_) (fun K hK => ?_)
        · go_simp
          refine (HB.out _).mono ?_
          rintro e w3 ⟨r3, rfl, l3, k3⟩
          obtain ⟨aB, bB, cB, rfl⟩ := l3.slice
          have M3 := M2.below k3
          have lA3 := l2.below k3
          refine hK.out _ _ M3.held ?_
          clear hK K
          try simp only [Act.put, List.setIfInBounds_toArray, List.set_cons_zero, List.set_cons_succ]
          clear hHeld
          have hHeld := M3.held
          refine wpAnyG_take (i := 14) (v := ?v14x12) rfl (by kernel_rfl) (fun _ _ _ h => h) (Or.inl ⟨by rfl, ?y14x12⟩) hHeld ?r14x12
          case y14x12 => (intro wS hSw; obtain ⟨s1, s2, s3, s4⟩ := hSw; go_simp; try with_reducible rfl)
          try simp only [Act.put, List.setIfInBounds_toArray, List.set_cons_zero, List.set_cons_succ]
          refine wpAnyG_one (i := 15) rfl (by kernel_rfl) (fun K hK => ?_)
          go_simp
          have M4 := M3.below (((Below.refl (w3).heap.size (w3)).alloc (Nat.le_refl _) (.cells #[.slice none 0 0, .slice none 0 0] 120)))
          have z4 := M3.lt
          have Z4 : Cl (w3).heap.size [.slice none 0 0, .slice none 0 0] 120 ((w3).alloc (.cells #[.slice none 0 0, .slice none 0 0] 120)) := Cl.new [.slice none 0 0, .slice none 0 0] 120 (w3)
          have lA4 := lA3.below (((Below.refl (w3).heap.size (w3)).alloc (Nat.le_refl _) (.cells #[.slice none 0 0, .slice none 0 0] 120)))
          have lB4 := l3.below (((Below.refl (w3).heap.size (w3)).alloc (Nat.le_refl _) (.cells #[.slice none 0 0, .slice none 0 0] 120)))
          refine hK.out _ _ M4.held ?_
          clear hK K
          try simp only [Act.put, List.setIfInBounds_toArray, List.set_cons_zero, List.set_cons_succ]
          clear hHeld
          have hHeld := M4.held
          refine wpAnyG_last (i := 16) rfl (by kernel_rfl) (by kernel_rfl) (fun K hK => ?_)
          go_simp
          refine hK.out _ _ ?_
          clear hK K
          try simp only [Act.put, List.setIfInBounds_toArray, List.set_cons_zero, List.set_cons_succ]
          refine wpAnyG_done (by kernel_rfl) ?_ _
          go_wp2
          go_meet
          exact cl_new M3 lA3 l3
        · go_simp
          have M5 := M2.below (((Below.refl (w2).heap.size (w2)).alloc (Nat.le_refl _) (.cells #[.slice none 0 0, .slice none 0 0] 120)))
          have z5 := M2.lt
          have Z5 : Cl (w2).heap.size [.slice none 0 0, .slice none 0 0] 120 ((w2).alloc (.cells #[.slice none 0 0, .slice none 0 0] 120)) := Cl.new [.slice none 0 0, .slice none 0 0] 120 (w2)
          have lA5 := l2.below (((Below.refl (w2).heap.size (w2)).alloc (Nat.le_refl _) (.cells #[.slice none 0 0, .slice none 0 0] 120)))
          refine hK.out _ _ M5.held ?_
          clear hK K
          try simp only [Act.put, List.setIfInBounds_toArray, List.set_cons_zero, List.set_cons_succ]
          clear hHeld
          have hHeld := M5.held
          refine wpAnyG_one (i := 13) rfl (by kernel_rfl) (fun K hK => ?_)
          go_simp
          refine (HB.out _).mono ?_
          rintro e w6 ⟨r6, rfl, l6, k6⟩
          obtain ⟨aB, bB, cB, rfl⟩ := l6.slice
          have M6 := M5.below k6
          have lA6 := lA5.below k6
          have Z6 := Z5.below k6
          refine hK.out _ _ M6.held ?_
          clear hK K
          try simp only [Act.put, List.setIfInBounds_toArray, List.set_cons_zero, List.set_cons_succ]
          clear hHeld
          have hHeld := M6.held
          refine wpAnyG_take (i := 14) (v := ?v14x13) rfl (by kernel_rfl) (fun _ _ _ h => h) (Or.inl ⟨by rfl, ?y14x13⟩) hHeld ?r14x13
          case y14x13 => (intro wS hSw; obtain ⟨s1, s2, s3, s4⟩ := hSw; go_simp; try with_reducible rfl)
          try simp only [Act.put, List.setIfInBounds_toArray, List.set_cons_zero, List.set_cons_succ]
          have c0 := Z6.cell 0
          have c1 := Z6.cell 1
          have c2 := Z6.frozen 0
          have c3 := Z6.frozen 1
          simp at c0 c1
          refine wpAnyG_last (i := 16) rfl (by kernel_rfl) (by kernel_rfl) (fun K hK => ?_)
          go_simp
          refine hK.out _ _ ?_
          clear hK K
          try simp only [Act.put, List.setIfInBounds_toArray, List.set_cons_zero, List.set_cons_succ]
          refine wpAnyG_done (by kernel_rfl) ?_ _
          go_wp2
          go_meet
          exact cl_end M6 Z6 z5 lA6 l6
      · go_simp
        have M7 := M1.below (((Below.refl (w1).heap.size (w1)).alloc (Nat.le_refl _) (.cells #[.slice none 0 0, .slice none 0 0] 120)))
        have z7 := M1.lt
        have Z7 : Cl (w1).heap.size [.slice none 0 0, .slice none 0 0] 120 ((w1).alloc (.cells #[.slice none 0 0, .slice none 0 0] 120)) := Cl.new [.slice none 0 0, .slice none 0 0] 120 (w1)
        refine hK.out _ _ M7.held ?_
        clear hK K
        try simp only [Act.put, List.setIfInBounds_toArray, List.set_cons_zero, List.set_cons_succ]
        clear hHeld
        have hHeld := M7.held
        refine wpAnyG_one (i := 8) rfl (by kernel_rfl) (fun K hK => ?_)
        go_simp
        refine (HA.out _).mono ?_
        rintro e w8 ⟨r8, rfl, l8, k8⟩
        obtain ⟨aA, bA, cA, rfl⟩ := l8.slice
        have M8 := M7.below k8
        have Z8 := Z7.below k8
        refine hK.out _ _ M8.held ?_
        clear hK K
        try simp only [Act.put, List.setIfInBounds_toArray, List.set_cons_zero, List.set_cons_succ]
        clear hHeld
        have hHeld := M8.held
        refine wpAnyG_one (i := 13) rfl (by kernel_rfl) (fun K hK => ?_)
        go_simp
        refine (HB.out _).mono ?_
        rintro e w9 ⟨r9, rfl, l9, k9⟩
        obtain ⟨aB, bB, cB, rfl⟩ := l9.slice
        have M9 := M8.below k9
        have lA9 := l8.below k9
        have Z9 := Z8.below k9
        refine hK.out _ _ M9.held ?_
        clear hK K
        try simp only [Act.put, List.setIfInBounds_toArray, List.set_cons_zero, List.set_cons_succ]
        clear hHeld
        have hHeld := M9.held
        refine wpAnyG_take (i := 14) (v := ?v14x14) rfl (by kernel_rfl) (fun _ _ _ h => h) (Or.inl ⟨by rfl, ?y14x14⟩) hHeld ?r14x14
        case y14x14 => (intro wS hSw; obtain ⟨s1, s2, s3, s4⟩ := hSw; go_simp; try with_reducible rfl)
        try simp only [Act.put, List.setIfInBounds_toArray, List.set_cons_zero, List.set_cons_succ]
        have c0 := Z9.cell 0
        have c1 := Z9.cell 1
        have c2 := Z9.frozen 0
        have c3 := Z9.frozen 1
        simp at c0 c1
        refine wpAnyG_last (i := 16) rfl (by kernel_rfl) (by kernel_rfl) (fun K hK => ?_)
        go_simp
        refine hK.out _ _ ?_
        clear hK K
        try simp only [Act.put, List.setIfInBounds_toArray, List.set_cons_zero, List.set_cons_succ]
        refine wpAnyG_done (by kernel_rfl) ?_ _
        go_wp2
        go_meet
        exact cl_end M9 Z9 z7 lA9 l9
    · go_simp
      have M10 := M0.below (((Below.refl (W0.drew).heap.size (W0.drew)).alloc (Nat.le_refl _) (.cells #[.slice none 0 0, .slice none 0 0] 120)))
      have z10 := M0.lt
      have Z10 : Cl (W0).heap.size [.slice none 0 0, .slice none 0 0] 120 ((W0.drew).alloc (.cells #[.slice none 0 0, .slice none 0 0] 120)) := Cl.new [.slice none 0 0, .slice none 0 0] 120 (W0.drew)
      refine hK.out _ _ M10.held ?_
      clear hK K
      try simp only [Act.put, List.setIfInBounds_toArray, List.set_cons_zero, List.set_cons_succ]
      clear hHeld
      have hHeld := M10.held
      refine wpAnyG_one (i := 2) rfl (by kernel_rfl) (fun K hK => ?_)
      go_simp
      refine (HNx.out _).mono ?_
      rintro e w11 ⟨rfl, k11⟩
      have M11 := M10.below k11
      have Z11 := Z10.below k11
      refine hK.out _ _ M11.held ?_
      clear hK K
      try simp only [Act.put, List.setIfInBounds_toArray, List.set_cons_zero, List.set_cons_succ]
      clear hHeld
      have hHeld := M11.held
      refine wpAnyG_take (i := 3) (v := .int .i64 (P : Int)) rfl (by kernel_rfl) (fun _ _ _ h => h) (Or.inl ⟨by kernel_rfl, ?y3x15⟩) hHeld ?r3x15
      case y3x15 => (intro wS hSw; kernel_rfl)
      try simp only [Act.put, List.setIfInBounds_toArray, List.set_cons_zero, List.set_cons_succ]
      refine wpAnyG_take (i := 4) (v := .int .i64 (cP : Int)) rfl (by kernel_rfl) (fun _ _ _ h => h) (Or.inl ⟨by kernel_rfl, ?y4x16⟩) hHeld ?r4x16
      case y4x16 => (intro wS hSw; obtain ⟨s1, s2, s3, s4⟩ := hSw; go_simp; try rw [hwc])
      try simp only [Act.put, List.setIfInBounds_toArray, List.set_cons_zero, List.set_cons_succ]
      refine wpAnyG_take (i := 7) (v := .int .i64 (x1 : Int)) rfl (by kernel_rfl) (fun _ _ _ h => h) (Or.inl ⟨by kernel_rfl, ?y7x17⟩) hHeld ?r7x17
      case y7x17 => (intro wS hSw; obtain ⟨s1, s2, s3, s4⟩ := hSw; go_simp; try rw [if_neg hqn, hwx])
      try simp only [Act.put, List.setIfInBounds_toArray, List.set_cons_zero, List.set_cons_succ]
      refine wpAnyG_one (i := 8) rfl (by kernel_rfl) (fun K hK => ?_)
      go_simp
      refine (HA.out _).mono ?_
      rintro e w12 ⟨r12, rfl, l12, k12⟩
      obtain ⟨aA, bA, cA, rfl⟩ := l12.slice
      have M12 := M11.below k12
      have Z12 := Z11.below k12
      refine hK.out _ _ M12.held ?_
      clear hK K
      try simp only [Act.put, List.setIfInBounds_toArray, List.set_cons_zero, List.set_cons_succ]
      clear hHeld
      have hHeld := M12.held
      refine wpAnyG_one (i := 13) rfl (by kernel_rfl) (fun K hK => ?_)
      go_simp
      refine (HB.out _).mono ?_
      rintro e w13 ⟨r13, rfl, l13, k13⟩
      obtain ⟨aB, bB, cB, rfl⟩ := l13.slice
      have M13 := M12.below k13
      have lA13 := l12.below k13
      have Z13 := Z12.below k13
      refine hK.out _ _ M13.held ?_
      clear hK K
      try simp only [Act.put, List.setIfInBounds_toArray, List.set_cons_zero, List.set_cons_succ]
      clear hHeld
      have hHeld := M13.held
      refine wpAnyG_take (i := 14) (v := ?v14x18) rfl (by kernel_rfl) (fun _ _ _ h => h) (Or.inl ⟨by rfl, ?y14x18⟩) hHeld ?r14x18
      case y14x18 => (intro wS hSw; obtain ⟨s1, s2, s3, s4⟩ := hSw; go_simp; try with_reducible rfl)
      try simp only [Act.put, List.setIfInBounds_toArray, List.set_cons_zero, List.set_cons_succ]
      have c0 := Z13.cell 0
      have c1 := Z13.cell 1
      have c2 := Z13.frozen 0
      have c3 := Z13.frozen 1
      simp at c0 c1
      refine wpAnyG_last (i := 16) rfl (by kernel_rfl) (by kernel_rfl) (fun K hK => ?_)
      go_simp
      refine hK.out _ _ ?_
      clear hK K
      try simp only [Act.put, List.setIfInBounds_toArray, List.set_cons_zero, List.set_cons_succ]
      refine wpAnyG_done (by kernel_rfl) ?_ _
      go_wp2
      go_meet
      exact cl_end M13 Z13 z10 lA13 l13
    --ENDWAYS
  case rest =>
    clear M0 HNx HA HB
    obtain ⟨B8, a1, b1, rfl, HCn⟩ := hcut
    have HLc2 : Hid (∀ W, Below w.heap.size w W → ∀ i, i < N + 1 → W.cell? ⟨lg, lo + i, none⟩ = some (.int .i64 ((L.getD i 0 : Nat) : Int))) := fun W k i hi => by
      rw [k.cell (p := ⟨lg, lo + i, none⟩) hlt, HLc.out i hi]
      have h1 : i < L.length := by have := HN.out; omega
      simp [nz, List.getD_eq_getElem?_getD, h1]
    have hB78 := HCn.out.2.2.2.2
    have hB7 := HCn.out.1.h7
    have hx1I := hx1I
    clear hx1I hx1J hy1I hy1J hcPI HLc
    go_wp2
    go_loopw [36] (fun iv wx => ∃ (i : Nat) (e0 e1 e2 e3 : Value), i ≤ N ∧ iv = .int .i64 (i : Int) ∧ Hid (Cn w.heap.size d r p q B7 B8 e0 e1 e2 e3 (cb L ((c, 0), (x1, y1)) i).1.1 (cb L ((c, 0), (x1, y1)) i).1.2 (cb L ((c, 0), (x1, y1)) i).2.1 (cb L ((c, 0), (x1, y1)) i).2.2 w wx)) (fun iv _ => N - (intOf iv).toNat)
    case atStart => exact ⟨0, _, _, _, _, Nat.zero_le _, rfl, HCn.out⟩
    case round =>
      clear HCn
      obtain ⟨i, e0, e1, e2, e3, hiN, rfl, HR⟩ := hrel
      by_cases hi : i < N
      · obtain ⟨M, C8, l2, l3, _⟩ := HR.out
        have hbd := cb_lt L ((c, 0), (x1, y1)) 1 HL.out ⟨by show c < _; rw [Nat.pow_one]; exact Nat.lt_of_le_of_lt hc (by decide), by show 0 < _; decide, by show x1 < _; rw [Nat.pow_one]; exact Nat.lt_of_le_of_lt hx1b (by decide), by show y1 < _; rw [Nat.pow_one]; exact Nat.lt_of_le_of_lt hy1b (by decide)⟩ i
        obtain ⟨s0, n0, m0, rfl⟩ := M.la.slice
        obtain ⟨s1, n1, m1, rfl⟩ := M.lb.slice
        obtain ⟨s2, n2, m2, rfl⟩ := l2.slice
        obtain ⟨s3, n3, m3, rfl⟩ := l3.slice
        obtain ⟨t, ht⟩ : ∃ t : Nat, t = L.getD i 0 := ⟨_, rfl⟩
        have htb : t ≤ 999999998 := by rw [ht]; exact HL.out i
        have q0 : wr.cell? ⟨lg, lo + i, none⟩ = some (.int .i64 (t : Int)) := by rw [ht]; exact HLc2.out wr M.k i (by omega)
        have HPl : Hid (∀ W, Below wr.heap.size wr W → Calls Tryz.prog 136 #[.agg #[.slice s0 n0 m0, .slice s1 n1 m1], .int .i64 (t : Int), .agg #[.slice s2 n2 m2, .slice s3 n3 m3]] W fun e w' => ∃ a b, e = .returned (.agg #[a, b]) ∧ LN w' a (cb L ((c, 0), (x1, y1)) (i + 1)).2.1 ∧ LN w' b (cb L ((c, 0), (x1, y1)) (i + 1)).2.2 ∧ Below W.heap.size W w') := fun W k => by
          have := pplus_any _ _ _ _ _ _ _ _ t (1 + i) W (M.la.below k) (M.lb.below k) (l2.below k) (l3.below k) hbd.1 hbd.2.1 hbd.2.2.1 hbd.2.2.2 (by omega) (by omega)
          rw [ht] at this ⊢
          exact this
        have c0 := M.b.cell 0
        have c1 := M.b.cell 1
        have c2 := C8.cell 0
        have c3 := C8.cell 1
        simp at c0 c1 c2 c3
        have HM : Hid (Cm w.heap.size d r p q B7 (.slice s0 n0 m0) (.slice s1 n1 m1) (cb L ((c, 0), (x1, y1)) i).1.1 (cb L ((c, 0), (x1, y1)) i).1.2 w wr) := M
        have HC8 : Hid (Cl B8 [.slice s2 n2 m2, .slice s3 n3 m3] 120 wr) := C8
        have Hl2 : Hid (LN wr (.slice s2 n2 m2) (cb L ((c, 0), (x1, y1)) i).2.1) := l2
        have Hl3 : Hid (LN wr (.slice s3 n3 m3) (cb L ((c, 0), (x1, y1)) i).2.2) := l3
        clear M C8 l2 l3 hbd ht
        go_wp2
        refine wp_region_G (fun w' => w'.cell? ⟨B7, 0, none⟩ = some (.slice s0 n0 m0) ∧ w'.cell? ⟨B7, 1, none⟩ = some (.slice s1 n1 m1) ∧ w'.cell? ⟨B8, 0, none⟩ = some (.slice s2 n2 m2) ∧ w'.cell? ⟨B8, 1, none⟩ = some (.slice s3 n3 m3)) 5 (by kernel_rfl) ⟨c0, c1, c2, c3⟩ (fun hHeld => ?_)
        refine wpAnyG_take (i := 0) (v := ?v0x19) rfl (by kernel_rfl) (fun _ _ _ h => h) (Or.inl ⟨by rfl, ?y0x19⟩) hHeld ?r0x19
        case y0x19 => (intro wS hSw; obtain ⟨t1, t2, t3, t4⟩ := hSw; go_simp; try with_reducible rfl)
        try simp only [Act.put, List.setIfInBounds_toArray, List.set_cons_zero, List.set_cons_succ]
        refine wpAnyG_take (i := 1) (v := ?v1x20) rfl (by kernel_rfl) (fun _ _ _ h => h) (Or.inl ⟨by rfl, ?y1x20⟩) hHeld ?r1x20
        case y1x20 => (intro wS hSw; obtain ⟨t1, t2, t3, t4⟩ := hSw; go_simp; try with_reducible rfl)
        try simp only [Act.put, List.setIfInBounds_toArray, List.set_cons_zero, List.set_cons_succ]
        refine wpAnyG_take (i := 2) (v := ?v2x21) rfl (by kernel_rfl) (fun _ _ _ h => h) (Or.inl ⟨by rfl, ?y2x21⟩) hHeld ?r2x21
        case y2x21 => (intro wS hSw; obtain ⟨t1, t2, t3, t4⟩ := hSw; go_simp; try with_reducible rfl)
        try simp only [Act.put, List.setIfInBounds_toArray, List.set_cons_zero, List.set_cons_succ]
        refine wpAnyG_take (i := 3) (v := ?v3x22) rfl (by kernel_rfl) (fun _ _ _ h => h) (Or.inl ⟨by rfl, ?y3x22⟩) hHeld ?r3x22
        case y3x22 => (intro wS hSw; obtain ⟨t1, t2, t3, t4⟩ := hSw; go_simp; try with_reducible rfl)
        try simp only [Act.put, List.setIfInBounds_toArray, List.set_cons_zero, List.set_cons_succ]
        refine wpAnyG_one (i := 4) rfl (by kernel_rfl) (fun K hK => ?_)
        go_simp
        refine (HPl.out _ (Below.refl wr.heap.size wr).drew).mono ?_
        rintro e w3 ⟨r1, r2, rfl, lr1, lr2, k3⟩
        obtain ⟨s4, n4, m4, rfl⟩ := lr1.slice
        obtain ⟨s5, n5, m5, rfl⟩ := lr2.slice
        have k3' : Below wr.heap.size wr w3 := (Below.refl wr.heap.size wr).drew.trans k3
        have M3 := HM.out.below k3'
        have C3 := HC8.out.below k3'
        have L2 := Hl2.out.below k3'
        have L3 := Hl3.out.below k3'
        have d0 := M3.b.cell 0
        have d1 := M3.b.cell 1
        have d2 := C3.cell 0
        have d3 := C3.cell 1
        have g0 := M3.b.frozen 0
        have g1 := M3.b.frozen 1
        have g2 := C3.frozen 0
        have g3 := C3.frozen 1
        simp at d0 d1 d2 d3
        refine hK.out _ _ ⟨d0, d1, d2, d3⟩ ?_
        clear hK K
        try simp only [Act.put, List.setIfInBounds_toArray, List.set_cons_zero, List.set_cons_succ]
        clear hHeld c0 c1 c2 c3
        refine wpAnyG_last (i := 5) rfl (by kernel_rfl) (by kernel_rfl) (fun K hK => ?_)
        go_simp
        refine hK.out _ _ ?_
        clear hK K
        try simp only [Act.put, List.setIfInBounds_toArray, List.set_cons_zero, List.set_cons_succ]
        refine wpAnyG_last (i := 6) rfl (by kernel_rfl) (by kernel_rfl) (fun K hK => ?_)
        go_simp
        refine hK.out _ _ ?_
        clear hK K
        try simp only [Act.put, List.setIfInBounds_toArray, List.set_cons_zero, List.set_cons_succ]
        refine wpAnyG_done (by kernel_rfl) ?_ _
        have HNew : Hid (Cn w.heap.size d r p q B7 B8 (.slice s2 n2 m2) (.slice s3 n3 m3) (.slice s4 n4 m4) (.slice s5 n5 m5) (cb L ((c, 0), (x1, y1)) i).2.1 (cb L ((c, 0), (x1, y1)) i).2.2 (cb L ((c, 0), (x1, y1)) (i + 1)).2.1 (cb L ((c, 0), (x1, y1)) (i + 1)).2.2 w ((((w3.setCell ⟨B7, 0, none⟩ (.slice s2 n2 m2)).setCell ⟨B7, 1, none⟩ (.slice s3 n3 m3)).setCell ⟨B8, 0, none⟩ (.slice s4 n4 m4)).setCell ⟨B8, 1, none⟩ (.slice s5 n5 m5))) := cn_step M3 C3 hB78 L2 L3 lr1 lr2
        generalize hWF : ((((w3.setCell ⟨B7, 0, none⟩ (.slice s2 n2 m2)).setCell ⟨B7, 1, none⟩ (.slice s3 n3 m3)).setCell ⟨B8, 0, none⟩ (.slice s4 n4 m4)).setCell ⟨B8, 1, none⟩ (.slice s5 n5 m5)) = WF at HNew ⊢
        clear M3 C3 L2 L3 lr1 lr2 k3 k3' d0 d1 d2 d3 g0 g1 g2 g3 hWF HPl HM HC8 Hl2 Hl3 q0
        go_wp2
        go_roundw
        case rel => exact ⟨i + 1, _, _, _, _, by omega, by go_num, HNew.out⟩
        case measure => simp [intOf]; omega
      · obtain rfl : i = N := by omega
        obtain ⟨M, C8, l2, l3, _⟩ := HR.out
        obtain ⟨s2, n2, m2, rfl⟩ := l2.slice
        obtain ⟨s3, n3, m3, rfl⟩ := l3.slice
        have c2 := C8.cell 0
        have c3 := C8.cell 1
        have d0 := M.z.cell 0
        have d1 := M.z.cell 1
        have g0 := M.z.frozen 0
        have g1 := M.z.frozen 1
        simp at c2 c3 d0 d1
        have Z1 : Cl (w.heap.size + 1) [.slice s2 n2 m2, .slice none 0 0] 120 (wr.setCell ⟨w.heap.size + 1, 0, none⟩ (.slice s2 n2 m2)) := M.z.set 0 _
        have Z2 : Cl (w.heap.size + 1) [.slice s2 n2 m2, .slice s3 n3 m3] 120 ((wr.setCell ⟨w.heap.size + 1, 0, none⟩ (.slice s2 n2 m2)).setCell ⟨w.heap.size + 1, 1, none⟩ (.slice s3 n3 m3)) := Z1.set 1 _
        have E2 := (l2.setc M.z (by simp) (.slice s2 n2 m2) (o' := 0)).setc Z1 (by simp) (.slice s3 n3 m3) (o' := 1)
        have E3 := (l3.setc M.z (by simp) (.slice s2 n2 m2) (o' := 0)).setc Z1 (by simp) (.slice s3 n3 m3) (o' := 1)
        have KF : Below w.heap.size w ((wr.setCell ⟨w.heap.size + 1, 0, none⟩ (.slice s2 n2 m2)).setCell ⟨w.heap.size + 1, 1, none⟩ (.slice s3 n3 m3)) := (M.k.setCell (by simp) _).setCell (by simp) _
        have f0 := Z2.cell 0
        have f1 := Z2.cell 1
        simp at f0 f1
        have HE2 : Hid (LN ((wr.setCell ⟨w.heap.size + 1, 0, none⟩ (.slice s2 n2 m2)).setCell ⟨w.heap.size + 1, 1, none⟩ (.slice s3 n3 m3)) (.slice s2 n2 m2) (cb L ((c, 0), (x1, y1)) i).2.1) := E2
        have HE3 : Hid (LN ((wr.setCell ⟨w.heap.size + 1, 0, none⟩ (.slice s2 n2 m2)).setCell ⟨w.heap.size + 1, 1, none⟩ (.slice s3 n3 m3)) (.slice s3 n3 m3) (cb L ((c, 0), (x1, y1)) i).2.2) := E3
        have HKF : Hid (Below w.heap.size w ((wr.setCell ⟨w.heap.size + 1, 0, none⟩ (.slice s2 n2 m2)).setCell ⟨w.heap.size + 1, 1, none⟩ (.slice s3 n3 m3))) := KF
        have HF0 : Hid (World.cell? ((wr.setCell ⟨w.heap.size + 1, 0, none⟩ (.slice s2 n2 m2)).setCell ⟨w.heap.size + 1, 1, none⟩ (.slice s3 n3 m3)) ⟨w.heap.size + 1, 0, none⟩ = some (.slice s2 n2 m2)) := f0
        have HF1 : Hid (World.cell? ((wr.setCell ⟨w.heap.size + 1, 0, none⟩ (.slice s2 n2 m2)).setCell ⟨w.heap.size + 1, 1, none⟩ (.slice s3 n3 m3)) ⟨w.heap.size + 1, 1, none⟩ = some (.slice s3 n3 m3)) := f1
        clear M C8 l2 l3 Z1 Z2 E2 E3 KF f0 f1
        go_wp2
        generalize hWF : ((wr.setCell ⟨w.heap.size + 1, 0, none⟩ (.slice s2 n2 m2)).setCell ⟨w.heap.size + 1, 1, none⟩ (.slice s3 n3 m3)) = WF at HE2 HE3 HKF HF0 HF1 ⊢
        have f0 := HF0.out
        have f1 := HF1.out
        exact bodyPost_ret (v := .agg #[.slice s2 n2 m2, .slice s3 n3 m3]) (by simp [results, Tryz.results72, go_sem, f0, f1]) rfl ⟨_, _, rfl, HE2.out, HE3.out, HKF.out⟩

end Go.Proofs.YtfbgblidlabipaaGreatDoor
end
