import Derived.Test.YtijkanilpblogaeQfQ
import Derived.Test.YtijkanilpblogaeQfXb
import Derived.Test.YtijkanilpblogaeRefL
import Derived.Deep.CutBlock
import Derived.Deep.LoopGhost
import Derived.Test.YtijkanilpblogaeFormCom
import Derived.Test.YtijkanilpblogaeQfG
section
/- The reference's Composed. -/
set_option linter.unusedSimpArgs false
set_option linter.unusedVariables false
set_option maxRecDepth 100000
namespace Go.Proofs.Ytijkanilpblogae
open Go.RowKit

theorem left_int (a n : Int) (w : World) (ha : a.natAbs ≤ 4000000000000000000) (h0 : 1 ≤ n) (hn : n ≤ 1000000000000000000) :
    Calls Try.prog 11 #[.int .i64 a, .int .i64 n] w fun e w' => e = .returned (.int .i64 (a % n)) ∧ w' = w := by
  obtain ⟨m, rfl⟩ : ∃ m : Nat, n = m := ⟨n.toNat, by omega⟩
  exact refLeft_any a m w ha (by omega) hn

theorem red_pos {r : Qf} (h : r.redB = true) (hd : r.disc < 0) : 1 ≤ r.a := by
  obtain ⟨h1, h2, h3⟩ := redB_parts h
  rcases Int.lt_or_le 0 r.a with h4 | h4
  · omega
  · exfalso
    have ha : r.a = 0 := by omega
    have hb : r.b = 0 := by omega
    unfold Qf.disc at hd
    rw [ha, hb] at hd
    simp at hd

theorem tur_bd {g : Qf} {D : Int} (hr : g.redB = true) (ha : 1 ≤ g.a) (hd : g.disc = D) (lo : -20000 ≤ D) {m : Mt} (hm : m.upto 83) : -200000000 ≤ (tur g m).b ∧ (tur g m).b ≤ 200000000 := by
  obtain ⟨a81, c5, _, b1, b2, ac⟩ := MQ.red_small hr ha hd lo
  obtain ⟨⟨p1, p2⟩, ⟨q1, q2⟩, ⟨r1, r2⟩, s1, s2⟩ := hm
  have x1 := bd3 (show (-162 : Int) ≤ 2 * g.a by omega) (show 2 * g.a ≤ 162 by omega) p1 p2
  have x2 := bd3 x1.1 x1.2 q1 q2
  have y1 := bd3 p1 p2 s1 s2
  have y2 := bd3 q1 q2 r1 r2
  have y3 := bd3 (show (-81 : Int) ≤ g.b by omega) (show g.b ≤ 81 by omega) (show (-13778 : Int) ≤ m.p * m.s + m.q * m.r by omega) (show m.p * m.s + m.q * m.r ≤ 13778 by omega)
  have z1 := bd3 (show (-10000 : Int) ≤ 2 * g.c by omega) (show 2 * g.c ≤ 10000 by omega) r1 r2
  have z2 := bd3 z1.1 z1.2 s1 s2
  show -200000000 ≤ 2 * g.a * m.p * m.q + g.b * (m.p * m.s + m.q * m.r) + 2 * g.c * m.r * m.s ∧ _ ≤ _
  refine ⟨?_, ?_⟩
  · omega
  · show 2 * g.a * m.p * m.q + g.b * (m.p * m.s + m.q * m.r) + 2 * g.c * m.r * m.s ≤ 200000000
    omega

/-- What is known when r and s are found. -/
structure Found (f g : Qf) (D : Int) (m : Mt) : Prop where
  c : MQ.Cin f g D
  det : m.p * m.s - m.q * m.r = 1
  up : m.upto 83
  a : 1 ≤ (tur g m).a ∧ (tur g m).a ≤ 16810000
  cp : Int.gcd (tur g m).a f.a = 1

theorem Found.disc {f g : Qf} {D : Int} {m : Mt} (h : Found f g D m) : (tur g m).disc = D := by
  have h1 : (tur g m).disc = g.disc * ((m.p * m.s - m.q * m.r) * (m.p * m.s - m.q * m.r)) := by
    simp only [Qf.disc, tur, Qf.at]; grind
  rw [h1, h.det, h.c.dg]; omega
/-- How far the search for b goes. -/
theorem Found.search {f g : Qf} {D : Int} {m : Mt} (h : Found f g D m) : ∃ t : Nat, (t : Int) < (tur g m).a ∧ (f.b % (2 * f.a) + 2 * f.a * t - (tur g m).b) % (2 * (tur g m).a) = 0 := by
  refine MQ.search_b h.c.fa h.a.1 (by rw [Int.gcd_comm]; exact h.cp) ?_
  have e1 := h.disc
  have e2 := h.c.df
  obtain ⟨s, n, hs, e⟩ := MQ.disc_sn f
  have k1 := (MQ.Fk.of (show 0 < f.a by have := h.c.fa; omega) hs e).b
  have k2 := (MQ.Fk.of (show 0 < (tur g m).a by have := h.a.1; omega) hs (show (tur g m).disc = s * s + 4 * n by rw [e1, ← e2, e])).b
  have k3 := Int.mul_ediv_add_emod f.b (2 * f.a)
  have k4 : 2 * f.a * (f.b / (2 * f.a)) = 2 * (f.a * (f.b / (2 * f.a))) := Int.mul_assoc ..
  omega
/-- The form that is reduced at the end. -/
theorem Found.last {f g : Qf} {D : Int} {m : Mt} (h : Found f g D m) {b : Int} {t : Nat} (ht : (t : Int) < (tur g m).a) (hb : b = f.b % (2 * f.a) + 2 * f.a * t) (h0 : (b - (tur g m).b) % (2 * (tur g m).a) = 0) :
    ∃ c : Int, b * b - D = 4 * (f.a * (tur g m).a) * c ∧ (0 ≤ b ∧ b < 2 * (f.a * (tur g m).a)) ∧ f.a * (tur g m).a ≤ 1361610000 ∧ Qf.upto 2800000000 ⟨f.a * (tur g m).a, b, c⟩ ∧ 1 ≤ f.a * (tur g m).a ∧ Qf.disc ⟨f.a * (tur g m).a, b, c⟩ = D ∧ (b - f.b) % (2 * f.a) = 0 := by
  obtain ⟨a81, _, _, _, _, _⟩ := MQ.red_small h.c.rf h.c.fa h.c.df h.c.lo
  have fa := h.c.fa
  have ha := h.a
  have hlo := h.c.lo
  have hhi := h.c.hi
  have hb1 : (b - f.b) % (2 * f.a) = 0 := by
    have k3 := Int.mul_ediv_add_emod f.b (2 * f.a)
    rw [hb, show f.b % (2 * f.a) + 2 * f.a * t - f.b = 2 * f.a * (t - f.b / (2 * f.a)) by
      have : 2 * f.a * (t - f.b / (2 * f.a)) = 2 * f.a * t - 2 * f.a * (f.b / (2 * f.a)) := Int.mul_sub ..
      omega]
    exact Int.mul_emod_right ..
  have hbr : 0 ≤ b ∧ b < 2 * (f.a * (tur g m).a) := by
    have e1 := Int.emod_nonneg f.b (show 2 * f.a ≠ 0 by omega)
    have e2 := Int.emod_lt_of_pos f.b (show 0 < 2 * f.a by omega)
    have e3 : 0 ≤ 2 * f.a * (t : Int) := Int.mul_nonneg (by omega) (by omega)
    have e4 : 2 * f.a * (t : Int) ≤ 2 * f.a * ((tur g m).a - 1) := Int.mul_le_mul_of_nonneg_left (by omega) (by omega)
    have e5 : 2 * f.a * ((tur g m).a - 1) = 2 * (f.a * (tur g m).a) - 2 * f.a := by rw [Int.mul_sub, Int.mul_assoc]; omega
    omega
  have hA : f.a * (tur g m).a ≤ 1361610000 := by
    have := Int.mul_le_mul a81 ha.2 (by omega) (by omega)
    omega
  have hA1 : 1 ≤ f.a * (tur g m).a := by
    have := Int.mul_le_mul fa ha.1 (by omega) (by omega)
    omega
  -- the division goes up
  obtain ⟨s, n, hs, e⟩ := MQ.disc_sn f
  have k1 := MQ.Fk.of (show 0 < f.a by omega) hs e
  have k2 := MQ.Fk.of (show 0 < (tur g m).a by omega) hs (show (tur g m).disc = s * s + 4 * n by rw [h.disc, ← h.c.df, e])
  obtain ⟨t1, ht1⟩ := Int.dvd_of_emod_eq_zero hb1
  obtain ⟨t2, ht2⟩ := Int.dvd_of_emod_eq_zero h0
  have b1 := k1.b
  have b2 := k2.b
  obtain ⟨μ, hμ⟩ : ∃ μ, b = 2 * μ + s := ⟨(f.b - s) / 2 + f.a * t1, by have : 2 * f.a * t1 = 2 * (f.a * t1) := Int.mul_assoc ..; omega⟩
  have m1 : μ = (f.b - s) / 2 + f.a * t1 := by have : 2 * f.a * t1 = 2 * (f.a * t1) := Int.mul_assoc ..; omega
  have m2 : μ = ((tur g m).b - s) / 2 + (tur g m).a * t2 := by have : 2 * (tur g m).a * t2 = 2 * ((tur g m).a * t2) := Int.mul_assoc ..; omega
  have a1 := k1.ac
  have a2 := k2.ac
  have d1 : f.a ∣ μ * μ + s * μ - n := by
    generalize (f.b - s) / 2 = k at *
    exact ⟨f.c + 2 * k * t1 + f.a * t1 * t1 + s * t1, by rw [m1]; grind⟩
  have d2 : (tur g m).a ∣ μ * μ + s * μ - n := by
    generalize ((tur g m).b - s) / 2 = k at *
    exact ⟨(tur g m).c + 2 * k * t2 + (tur g m).a * t2 * t2 + s * t2, by rw [m2]; grind⟩
  obtain ⟨c, hc⟩ : f.a * (tur g m).a ∣ μ * μ + s * μ - n := by
    obtain ⟨u, hu⟩ := d1
    rw [hu] at d2 ⊢
    obtain ⟨v, hv⟩ := (MQ.Cp.of_gcd h.cp).dvd d2
    exact ⟨v, by rw [hv, Int.mul_assoc]⟩
  have hD : D = s * s + 4 * n := by rw [← h.c.df, e]
  have hcc : b * b - D = 4 * (f.a * (tur g m).a) * c := by
    rw [hμ, hD, Int.mul_assoc, ← hc]; grind
  have hdd : Qf.disc ⟨f.a * (tur g m).a, b, c⟩ = D := by simp only [Qf.disc]; omega
  refine ⟨c, hcc, hbr, hA, ⟨by show -2800000000 ≤ f.a * (tur g m).a; omega, by show f.a * (tur g m).a ≤ 2800000000; omega, by show -2800000000 ≤ b; omega, by show b ≤ 2800000000; omega, ?_, ?_⟩, hA1, hdd, hb1⟩
  · have := pos_c (g := ⟨f.a * (tur g m).a, b, c⟩) hA1 (by rw [hdd]; exact hhi)
    show -2800000000 ≤ c
    have h3 : 1 ≤ c := this
    omega
  · show c ≤ 2800000000
    rcases Int.lt_or_le 2800000000 c with h4 | h4
    · exfalso
      have e1 : b * b ≤ (2 * (f.a * (tur g m).a)) * (2 * (f.a * (tur g m).a)) := Int.mul_le_mul (by omega) (by omega) (by omega) (by omega)
      generalize f.a * (tur g m).a = A at *
      have e2 : 4 * A * 2800000001 ≤ 4 * A * c := Int.mul_le_mul_of_nonneg_left (by omega) (by omega)
      have e3 : 2 * A * (2 * A) ≤ 2 * A * 2723220000 := Int.mul_le_mul_of_nonneg_left (by omega) (by omega)
      omega
    · exact h4

end Go.Proofs.Ytijkanilpblogae
end

section
/- The reference's Composed: the walk. -/
set_option linter.unusedSimpArgs false
set_option linter.unusedVariables false
set_option maxRecDepth 100000
namespace Go.Proofs.Ytijkanilpblogae
open Go.RowKit

abbrev BLc (f g : Qf) (w : World) : List (Nat × List Value × TypeId) := [(w.heap.size + 1 + 1, [.int .i64 0, .int .i64 0, .int .i64 0], 32), (w.heap.size + 1, g.l, 32), (w.heap.size, f.l, 32)]
/-- The cells that are read. -/
abbrev S4c (f g : Qf) (b : Nat) (W : World) : Prop :=
  W.cell? ⟨b, 0, none⟩ = some (.int .i64 f.a) ∧ W.cell? ⟨b + 1, 0, none⟩ = some (.int .i64 g.a) ∧ W.cell? ⟨b + 1, 1, none⟩ = some (.int .i64 g.b) ∧ W.cell? ⟨b + 1, 2, none⟩ = some (.int .i64 g.c)
theorem s4c_of {f g : Qf} {w W : World} (h : Ms (BLc f g w) w W) : S4c f g w.heap.size W := by
  have h1 := h.1 _ (.tail _ (.head _))
  have h2 := h.1 _ (.tail _ (.tail _ (.head _)))
  exact ⟨h2.cell 0, h1.cell 0, h1.cell 1, h1.cell 2⟩

abbrev S2c (f h : Qf) (b b1 : Nat) (W : World) : Prop := W.cell? ⟨b, 0, none⟩ = some (.int .i64 f.a) ∧ W.cell? ⟨b1, 0, none⟩ = some (.int .i64 h.a)
theorem s2c_of {f g h : Qf} {b1 : Nat} {w W : World} (k : Ms ((b1, h.l, 32) :: BLc f g w) w W) : S2c f h w.heap.size b1 W := ⟨(k.1 _ (.tail _ (.tail _ (.tail _ (.head _))))).cell 0, (k.1 _ (.head _)).cell 0⟩

/-- x and y are found at last. -/
structure Sx (f g : Qf) (K x0 y0 : Nat) : Prop where
  k : K = x0 + y0
  g1 : Int.gcd x0 y0 = 1
  g2 : Int.gcd (g.at x0 y0) f.a = 1
  b : (g.a = 1 ∧ K ≤ 1) ∨ (2 ≤ g.a ∧ K ≤ 82)

set_option maxRecDepth 100000 in
set_option maxHeartbeats 16000000 in
theorem Composed_any (f g : Qf) (D : Int) (w : World) (H : MQ.Cin f g D) :
    Calls Try.prog 17 #[f.v, g.v] w fun e w' => (∃ r : Qf, e = .returned r.v ∧ MQ.Cz f g r) ∧ Below w.heap.size w w' := by
  have HH : Hid (MQ.Cin f g D) := H
  obtain ⟨fa81, fc5, _, fb1, fb2, fac⟩ := MQ.red_small H.rf H.fa H.df H.lo
  obtain ⟨ga81, gc5, _, gb1, gb2, gac⟩ := MQ.red_small H.rg H.ga H.dg H.lo
  have hfa := H.fa
  have hga := H.ga
  have hfu : f.upto 1000000 := ⟨by omega, by omega, by omega, by omega, by omega, by omega⟩
  have hgu : g.upto 1000000 := ⟨by omega, by omega, by omega, by omega, by omega, by omega⟩
  have hDb : -20000 ≤ D ∧ D < 0 := ⟨H.lo, H.hi⟩
  obtain ⟨x0, y0, gx, gy, hb0⟩ := MQ.search_xy H
  obtain ⟨K, hK0⟩ : ∃ K, K = x0 + y0 := ⟨_, rfl⟩
  have hK82 : K ≤ 82 := by omega
  have HSx : Hid (Sx f g K x0 y0) := ⟨hK0, gx, gy, by omega⟩
  have hx0K : x0 ≤ K := by omega
  have HV : Hid (∀ (p q : Int) w, (-3000 ≤ p ∧ p ≤ 3000) → (-3000 ≤ q ∧ q ≤ 3000) → Calls Try.prog 37 #[g.v, .int .i64 p, .int .i64 q] w fun e w' => e = .returned (.int .i64 (g.at p q)) ∧ Below w.heap.size w w') := fun p q w hp hq => Value_any g p q w hgu hp hq
  have HDf : Hid (∀ w, Calls Try.prog 15 #[f.v] w fun e w' => e = .returned (.int .i64 D) ∧ Below w.heap.size w w') := fun w => by rw [← H.df]; exact refDisc_any f w hfu
  have HT : Hid (∀ (m : Mt) w, m.upto 3000 → Calls Try.prog 38 #[g.v, m.v] w fun e w' => e = .returned (tur g m).v ∧ Below w.heap.size w w') := fun m w hm => Turned_any g m w hgu hm
  have HL0 : Hid (∀ w, Calls Try.prog 11 #[.int .i64 f.b, .int .i64 (2 * f.a)] w fun e w' => e = .returned (.int .i64 (f.b % (2 * f.a))) ∧ w' = w) := fun w => left_int f.b (2 * f.a) w (by omega) (by omega) (by omega)
  unfold Qf.v at HV HDf
  clear gx gy hb0 hK0 hfu hgu H fc5 fac gc5 gac gb1 gb2 ga81 hga
  unfold Qf.v
  go_enter Try.func17, Try.ntmps17
  have HM0 : Hid (Ms (BLc f g w) w (((w.alloc (.cells #[.int .i64 f.a, .int .i64 f.b, .int .i64 f.c] 32)).alloc (.cells #[.int .i64 g.a, .int .i64 g.b, .int .i64 g.c] 32)).alloc (.cells #[.int .i64 0, .int .i64 0, .int .i64 0] 32))) := by
    have h1 := Ms.new (l := []) (w := w) (W := w) ⟨fun x hx => (by cases hx), Below.refl _ _⟩ f.l 32
    have h2 := h1.new g.l 32
    have h3 := h2.new [.int .i64 0, .int .i64 0, .int .i64 0] 32
    rw [World.size_alloc, World.size_alloc] at h3
    exact h3
  go_wp2
  go_loopg [5] 100 (fun gk kv wx => ∃ k : Nat, kv = .int .i64 k ∧ k ≤ K ∧ Hid (gk = 100 - k ∧ Ms (BLc f g w) w wx))
  case atStart => exact ⟨0, rfl, Nat.zero_le _, rfl, HM0.out⟩
  case round =>
    clear HM0
    obtain ⟨k, rfl, hk, HR⟩ := hrel
    have HGk : Hid (gk = 100 - k) := HR.out.1
    have HMk : Hid (Ms (BLc f g w) w wr) := HR.out.2
    clear HR
    go_wp2
    go_loopg [6] 100 (fun gk xv wx => ∃ x : Nat, xv = .int .i64 x ∧ x ≤ k + 1 ∧ Hid (gk = 100 - x ∧ (k = K → x ≤ x0) ∧ Ms (BLc f g w) w wx))
    case atStart => exact ⟨0, rfl, Nat.zero_le _, rfl, fun _ => Nat.zero_le _, HMk.out⟩
    case round =>
      clear HMk
      obtain ⟨x, rfl, hx, HR⟩ := hrel
      have HGx : Hid (gk = 100 - x) := HR.out.1
      have HIx : Hid (k = K → x ≤ x0) := HR.out.2.1
      have HMx : Hid (Ms (BLc f g w) w wr) := HR.out.2.2
      clear HR
      by_cases hxk : x ≤ k
      · have bx : decide ((x : Int) ≤ (k : Int)) = true := decide_eq_true (by omega)
        obtain ⟨y, hy⟩ : ∃ y : Nat, y = k - x := ⟨_, rfl⟩
        have hyi : (k : Int) - x = (y : Int) := by omega
        have hxy : x + y = k := by omega
        obtain ⟨G1, hG1⟩ : ∃ G : Int, G = (Int.gcd x y : Int) := ⟨_, rfl⟩
        have HG1 : Hid (∀ w, Calls Try.prog 35 #[.int .i64 x, .int .i64 y] w fun e w' => e = .returned (.int .i64 G1) ∧ w' = w) := fun w => by rw [hG1]; exact refGcd_nat x y w (by omega) (by omega) _ _ (by simp) (by simp)
        obtain ⟨V, hV⟩ : ∃ V, V = g.at x y := ⟨_, rfl⟩
        have HVx : Hid (∀ w, Calls Try.prog 37 #[.agg #[.int .i64 g.a, .int .i64 g.b, .int .i64 g.c], .int .i64 x, .int .i64 y] w fun e w' => e = .returned (.int .i64 V) ∧ Below w.heap.size w w') := fun w => by rw [hV]; exact HV.out x y w (by omega) (by omega)
        have hVb : 0 ≤ V ∧ V ≤ 16810000 := by
          rw [hV]
          by_cases h0 : 0 < x + y
          · have := MQ.at_few HH.out.rg HH.out.ga HH.out.dg HH.out.lo HH.out.hi (x := x) (y := y) (by have := HSx.out.b; omega) h0
            omega
          · obtain ⟨rfl, rfl⟩ : x = 0 ∧ y = 0 := by omega
            simp [Qf.at]
        obtain ⟨G2, hG2⟩ : ∃ G : Int, G = (Int.gcd V f.a : Int) := ⟨_, rfl⟩
        have HG2 : Hid (∀ w, Calls Try.prog 35 #[.int .i64 V, .int .i64 f.a] w fun e w' => e = .returned (.int .i64 G2) ∧ w' = w) := fun w => by rw [hG2]; exact refGcd_nat V.natAbs f.a.natAbs w (by omega) (by omega) _ _ rfl rfl
        have HGG : Hid (G1 = (Int.gcd x y : Int) ∧ V = g.at x y ∧ G2 = (Int.gcd V f.a : Int)) := ⟨hG1, hV, hG2⟩
        clear hG1 hV hG2 hy
        obtain ⟨BB, hBB⟩ : ∃ b : Bool, b = (G1 != 1 || G2 != 1) := ⟨_, rfl⟩
        have HBB : Hid (BB = (G1 != 1 || G2 != 1)) := hBB
        clear hBB
        go_wp2_with fail
        go_cut [36] from 15 to 109 (fun bv wx => bv = .bool BB ∧ Hid (Ms (BLc f g w) w wx))
        case first =>
          have N0 := HMx.out.below ((Below.refl wr.heap.size wr).drew)
          cases hb1 : (G1 != 1)
          · cases hb2 : (G2 != 1)
            · refine wp_region_G (S4c f g w.heap.size) 13 (by kernel_rfl) (s4c_of N0) (fun hHeld => ?_)
              refine wpAnyG_take (i := 0) (v := ?v0x1) rfl (by kernel_rfl) (fun _ _ _ h => h) (Or.inl ⟨by rfl, ?y0x1⟩) hHeld ?r0x1
              case y0x1 => (intro wS hSw; obtain ⟨s1, s2, s3, s4⟩ := hSw; go_simp; try with_reducible rfl)
              try simp only [Act.put, List.setIfInBounds_toArray, List.set_cons_zero, List.set_cons_succ]
              refine wpAnyG_take (i := 1) (v := ?v1x2) rfl (by kernel_rfl) (fun _ _ _ h => h) (Or.inl ⟨by rfl, ?y1x2⟩) hHeld ?r1x2
              case y1x2 => (intro wS hSw; obtain ⟨s1, s2, s3, s4⟩ := hSw; go_simp; try with_reducible rfl)
              try simp only [Act.put, List.setIfInBounds_toArray, List.set_cons_zero, List.set_cons_succ]
              refine wpAnyG_one (i := 2) rfl (by kernel_rfl) (fun K hK => ?_)
              go_simp
              refine (HG1.out _).mono ?_
              rintro e w4 ⟨rfl, rfl⟩
              refine hK.out _ _ hHeld ?_
              clear hK K
              try simp only [Act.put, List.setIfInBounds_toArray, List.set_cons_zero, List.set_cons_succ]
              refine wpAnyG_take (i := 3) (v := .bool false) rfl (by kernel_rfl) (fun _ _ _ h => h) (Or.inl ⟨by kernel_rfl, ?y3x3⟩) hHeld ?r3x3
              case y3x3 => (intro wS hSw; (go_simp; try simp only [hb1]))
              try simp only [Act.put, List.setIfInBounds_toArray, List.set_cons_zero, List.set_cons_succ]
              refine wpAnyG_take (i := 4) (v := .bool false) rfl (by kernel_rfl) (fun _ _ _ h => h) (Or.inl ⟨by kernel_rfl, ?y4x4⟩) hHeld ?r4x4
              case y4x4 => (intro wS hSw; (go_simp; try rfl))
              try simp only [Act.put, List.setIfInBounds_toArray, List.set_cons_zero, List.set_cons_succ]
              refine wpAnyG_take (i := 5) (v := ?v5x5) rfl (by kernel_rfl) (fun _ _ _ h => h) (Or.inl ⟨by kernel_rfl, ?y5x5⟩) hHeld ?r5x5
              case y5x5 => (intro wS hSw; have s1 := hSw; go_simp; try with_reducible rfl)
              try simp only [Act.put, List.setIfInBounds_toArray, List.set_cons_zero, List.set_cons_succ]
              refine wpAnyG_take (i := 6) (v := ?v6x6) rfl (by kernel_rfl) (fun _ _ _ h => h) (Or.inl ⟨by kernel_rfl, ?y6x6⟩) hHeld ?r6x6
              case y6x6 => (intro wS hSw; have s1 := hSw; go_simp; try with_reducible rfl)
              try simp only [Act.put, List.setIfInBounds_toArray, List.set_cons_zero, List.set_cons_succ]
              refine wpAnyG_take (i := 7) (v := ?v7x7) rfl (by kernel_rfl) (fun _ _ _ h => h) (Or.inl ⟨by kernel_rfl, ?y7x7⟩) hHeld ?r7x7
              case y7x7 => (intro wS hSw; have s1 := hSw; go_simp; try with_reducible rfl)
              try simp only [Act.put, List.setIfInBounds_toArray, List.set_cons_zero, List.set_cons_succ]
              refine wpAnyG_take (i := 9) (v := ?v9x8) rfl (by kernel_rfl) (fun _ _ _ h => h) (Or.inl ⟨by kernel_rfl, ?y9x8⟩) hHeld ?r9x8
              case y9x8 => (intro wS hSw; have s1 := hSw; go_simp; try with_reducible rfl)
              try simp only [Act.put, List.setIfInBounds_toArray, List.set_cons_zero, List.set_cons_succ]
              refine wpAnyG_take (i := 10) (v := ?v10x9) rfl (by kernel_rfl) (fun _ _ _ h => h) (Or.inl ⟨by kernel_rfl, ?y10x9⟩) hHeld ?r10x9
              case y10x9 => (intro wS hSw; have s1 := hSw; go_simp; try with_reducible rfl)
              try simp only [Act.put, List.setIfInBounds_toArray, List.set_cons_zero, List.set_cons_succ]
              refine wpAnyG_one (i := 8) rfl (by kernel_rfl) (fun K hK => ?_)
              rw [if_pos (by kernel_rfl)]
              go_simp
              refine (HVx.out _).mono ?_
              rintro e w5 ⟨rfl, k5⟩
              have N1 := N0.below k5
              refine hK.out _ _ (s4c_of N1) ?_
              clear hK K
              try simp only [Act.put, List.setIfInBounds_toArray, List.set_cons_zero, List.set_cons_succ]
              refine wpAnyG_one (i := 11) rfl (by kernel_rfl) (fun K hK => ?_)
              rw [if_pos (by kernel_rfl)]
              go_simp
              refine (HG2.out _).mono ?_
              rintro e w6 ⟨rfl, rfl⟩
              refine hK.out _ _ (s4c_of N1) ?_
              clear hK K
              try simp only [Act.put, List.setIfInBounds_toArray, List.set_cons_zero, List.set_cons_succ]
              clear hHeld
              have hHeld : S4c f g w.heap.size w6 := s4c_of N1
              refine wpAnyG_take (i := 12) (v := .bool false) rfl (by kernel_rfl) (fun _ _ _ h => h) (Or.inl ⟨by kernel_rfl, ?y12x10⟩) hHeld ?r12x10
              case y12x10 => (intro wS hSw; (go_simp; try simp only [hb2]))
              try simp only [Act.put, List.setIfInBounds_toArray, List.set_cons_zero, List.set_cons_succ]
              refine wpAnyG_last (i := 13) rfl (by kernel_rfl) (by kernel_rfl) (fun K hK => ?_)
              go_simp
              refine hK.out _ _ ?_
              clear hK K
              try simp only [Act.put, List.setIfInBounds_toArray, List.set_cons_zero, List.set_cons_succ]
              refine wpAnyG_done (by kernel_rfl) ?_ _
              have HM4 : Hid (Ms (BLc f g w) w w6) := N1
              clear hHeld N0 N1
              go_wp2
              go_meet
              exact ⟨by rw [HBB.out, hb1, hb2]; rfl, HM4.out⟩
            · refine wp_region_G (S4c f g w.heap.size) 13 (by kernel_rfl) (s4c_of N0) (fun hHeld => ?_)
              refine wpAnyG_take (i := 0) (v := ?v0x11) rfl (by kernel_rfl) (fun _ _ _ h => h) (Or.inl ⟨by rfl, ?y0x11⟩) hHeld ?r0x11
              case y0x11 => (intro wS hSw; obtain ⟨s1, s2, s3, s4⟩ := hSw; go_simp; try with_reducible rfl)
              try simp only [Act.put, List.setIfInBounds_toArray, List.set_cons_zero, List.set_cons_succ]
              refine wpAnyG_take (i := 1) (v := ?v1x12) rfl (by kernel_rfl) (fun _ _ _ h => h) (Or.inl ⟨by rfl, ?y1x12⟩) hHeld ?r1x12
              case y1x12 => (intro wS hSw; obtain ⟨s1, s2, s3, s4⟩ := hSw; go_simp; try with_reducible rfl)
              try simp only [Act.put, List.setIfInBounds_toArray, List.set_cons_zero, List.set_cons_succ]
              refine wpAnyG_one (i := 2) rfl (by kernel_rfl) (fun K hK => ?_)
              go_simp
              refine (HG1.out _).mono ?_
              rintro e w4 ⟨rfl, rfl⟩
              refine hK.out _ _ hHeld ?_
              clear hK K
              try simp only [Act.put, List.setIfInBounds_toArray, List.set_cons_zero, List.set_cons_succ]
              refine wpAnyG_take (i := 3) (v := .bool false) rfl (by kernel_rfl) (fun _ _ _ h => h) (Or.inl ⟨by kernel_rfl, ?y3x13⟩) hHeld ?r3x13
              case y3x13 => (intro wS hSw; (go_simp; try simp only [hb1]))
              try simp only [Act.put, List.setIfInBounds_toArray, List.set_cons_zero, List.set_cons_succ]
              refine wpAnyG_take (i := 4) (v := .bool false) rfl (by kernel_rfl) (fun _ _ _ h => h) (Or.inl ⟨by kernel_rfl, ?y4x14⟩) hHeld ?r4x14
              case y4x14 => (intro wS hSw; (go_simp; try rfl))
              try simp only [Act.put, List.setIfInBounds_toArray, List.set_cons_zero, List.set_cons_succ]
              refine wpAnyG_take (i := 5) (v := ?v5x15) rfl (by kernel_rfl) (fun _ _ _ h => h) (Or.inl ⟨by kernel_rfl, ?y5x15⟩) hHeld ?r5x15
              case y5x15 => (intro wS hSw; have s1 := hSw; go_simp; try with_reducible rfl)
              try simp only [Act.put, List.setIfInBounds_toArray, List.set_cons_zero, List.set_cons_succ]
              refine wpAnyG_take (i := 6) (v := ?v6x16) rfl (by kernel_rfl) (fun _ _ _ h => h) (Or.inl ⟨by kernel_rfl, ?y6x16⟩) hHeld ?r6x16
              case y6x16 => (intro wS hSw; have s1 := hSw; go_simp; try with_reducible rfl)
              try simp only [Act.put, List.setIfInBounds_toArray, List.set_cons_zero, List.set_cons_succ]
              refine wpAnyG_take (i := 7) (v := ?v7x17) rfl (by kernel_rfl) (fun _ _ _ h => h) (Or.inl ⟨by kernel_rfl, ?y7x17⟩) hHeld ?r7x17
              case y7x17 => (intro wS hSw; have s1 := hSw; go_simp; try with_reducible rfl)
              try simp only [Act.put, List.setIfInBounds_toArray, List.set_cons_zero, List.set_cons_succ]
              refine wpAnyG_take (i := 9) (v := ?v9x18) rfl (by kernel_rfl) (fun _ _ _ h => h) (Or.inl ⟨by kernel_rfl, ?y9x18⟩) hHeld ?r9x18
              case y9x18 => (intro wS hSw; have s1 := hSw; go_simp; try with_reducible rfl)
              try simp only [Act.put, List.setIfInBounds_toArray, List.set_cons_zero, List.set_cons_succ]
              refine wpAnyG_take (i := 10) (v := ?v10x19) rfl (by kernel_rfl) (fun _ _ _ h => h) (Or.inl ⟨by kernel_rfl, ?y10x19⟩) hHeld ?r10x19
              case y10x19 => (intro wS hSw; have s1 := hSw; go_simp; try with_reducible rfl)
              try simp only [Act.put, List.setIfInBounds_toArray, List.set_cons_zero, List.set_cons_succ]
              refine wpAnyG_one (i := 8) rfl (by kernel_rfl) (fun K hK => ?_)
              rw [if_pos (by kernel_rfl)]
              go_simp
              refine (HVx.out _).mono ?_
              rintro e w5 ⟨rfl, k5⟩
              have N1 := N0.below k5
              refine hK.out _ _ (s4c_of N1) ?_
              clear hK K
              try simp only [Act.put, List.setIfInBounds_toArray, List.set_cons_zero, List.set_cons_succ]
              refine wpAnyG_one (i := 11) rfl (by kernel_rfl) (fun K hK => ?_)
              rw [if_pos (by kernel_rfl)]
              go_simp
              refine (HG2.out _).mono ?_
              rintro e w6 ⟨rfl, rfl⟩
              refine hK.out _ _ (s4c_of N1) ?_
              clear hK K
              try simp only [Act.put, List.setIfInBounds_toArray, List.set_cons_zero, List.set_cons_succ]
              clear hHeld
              have hHeld : S4c f g w.heap.size w6 := s4c_of N1
              refine wpAnyG_take (i := 12) (v := .bool true) rfl (by kernel_rfl) (fun _ _ _ h => h) (Or.inl ⟨by kernel_rfl, ?y12x20⟩) hHeld ?r12x20
              case y12x20 => (intro wS hSw; (go_simp; try simp only [hb2]))
              try simp only [Act.put, List.setIfInBounds_toArray, List.set_cons_zero, List.set_cons_succ]
              refine wpAnyG_last (i := 13) rfl (by kernel_rfl) (by kernel_rfl) (fun K hK => ?_)
              go_simp
              refine hK.out _ _ ?_
              clear hK K
              try simp only [Act.put, List.setIfInBounds_toArray, List.set_cons_zero, List.set_cons_succ]
              refine wpAnyG_done (by kernel_rfl) ?_ _
              have HM4 : Hid (Ms (BLc f g w) w w6) := N1
              clear hHeld N0 N1
              go_wp2
              go_meet
              exact ⟨by rw [HBB.out, hb1, hb2]; rfl, HM4.out⟩
          · refine wp_region_G (S4c f g w.heap.size) 13 (by kernel_rfl) (s4c_of N0) (fun hHeld => ?_)
            refine wpAnyG_take (i := 0) (v := ?v0x21) rfl (by kernel_rfl) (fun _ _ _ h => h) (Or.inl ⟨by rfl, ?y0x21⟩) hHeld ?r0x21
            case y0x21 => (intro wS hSw; obtain ⟨s1, s2, s3, s4⟩ := hSw; go_simp; try with_reducible rfl)
            try simp only [Act.put, List.setIfInBounds_toArray, List.set_cons_zero, List.set_cons_succ]
            refine wpAnyG_take (i := 1) (v := ?v1x22) rfl (by kernel_rfl) (fun _ _ _ h => h) (Or.inl ⟨by rfl, ?y1x22⟩) hHeld ?r1x22
            case y1x22 => (intro wS hSw; obtain ⟨s1, s2, s3, s4⟩ := hSw; go_simp; try with_reducible rfl)
            try simp only [Act.put, List.setIfInBounds_toArray, List.set_cons_zero, List.set_cons_succ]
            refine wpAnyG_one (i := 2) rfl (by kernel_rfl) (fun K hK => ?_)
            go_simp
            refine (HG1.out _).mono ?_
            rintro e w4 ⟨rfl, rfl⟩
            refine hK.out _ _ hHeld ?_
            clear hK K
            try simp only [Act.put, List.setIfInBounds_toArray, List.set_cons_zero, List.set_cons_succ]
            refine wpAnyG_take (i := 3) (v := .bool true) rfl (by kernel_rfl) (fun _ _ _ h => h) (Or.inl ⟨by kernel_rfl, ?y3x23⟩) hHeld ?r3x23
            case y3x23 => (intro wS hSw; (go_simp; try simp only [hb1]))
            try simp only [Act.put, List.setIfInBounds_toArray, List.set_cons_zero, List.set_cons_succ]
            refine wpAnyG_take (i := 4) (v := .bool true) rfl (by kernel_rfl) (fun _ _ _ h => h) (Or.inl ⟨by kernel_rfl, ?y4x24⟩) hHeld ?r4x24
            case y4x24 => (intro wS hSw; (go_simp; try rfl))
            try simp only [Act.put, List.setIfInBounds_toArray, List.set_cons_zero, List.set_cons_succ]
            refine wpAnyG_take (i := 5) (v := undef) rfl (by kernel_rfl) (fun _ _ _ h => h) (Or.inr ⟨by kernel_rfl, rfl⟩) hHeld ?_
            try simp only [Act.put, List.setIfInBounds_toArray, List.set_cons_zero, List.set_cons_succ]
            refine wpAnyG_take (i := 6) (v := undef) rfl (by kernel_rfl) (fun _ _ _ h => h) (Or.inr ⟨by kernel_rfl, rfl⟩) hHeld ?_
            try simp only [Act.put, List.setIfInBounds_toArray, List.set_cons_zero, List.set_cons_succ]
            refine wpAnyG_take (i := 7) (v := undef) rfl (by kernel_rfl) (fun _ _ _ h => h) (Or.inr ⟨by kernel_rfl, rfl⟩) hHeld ?_
            try simp only [Act.put, List.setIfInBounds_toArray, List.set_cons_zero, List.set_cons_succ]
            refine wpAnyG_take (i := 8) (v := undef) rfl (by kernel_rfl) (fun _ _ _ h => h) (Or.inr ⟨by kernel_rfl, rfl⟩) hHeld ?_
            try simp only [Act.put, List.setIfInBounds_toArray, List.set_cons_zero, List.set_cons_succ]
            refine wpAnyG_take (i := 9) (v := undef) rfl (by kernel_rfl) (fun _ _ _ h => h) (Or.inr ⟨by kernel_rfl, rfl⟩) hHeld ?_
            try simp only [Act.put, List.setIfInBounds_toArray, List.set_cons_zero, List.set_cons_succ]
            refine wpAnyG_take (i := 10) (v := undef) rfl (by kernel_rfl) (fun _ _ _ h => h) (Or.inr ⟨by kernel_rfl, rfl⟩) hHeld ?_
            try simp only [Act.put, List.setIfInBounds_toArray, List.set_cons_zero, List.set_cons_succ]
            refine wpAnyG_take (i := 11) (v := undef) rfl (by kernel_rfl) (fun _ _ _ h => h) (Or.inr ⟨by kernel_rfl, rfl⟩) hHeld ?_
            try simp only [Act.put, List.setIfInBounds_toArray, List.set_cons_zero, List.set_cons_succ]
            refine wpAnyG_take (i := 12) (v := undef) rfl (by kernel_rfl) (fun _ _ _ h => h) (Or.inr ⟨by kernel_rfl, rfl⟩) hHeld ?_
            try simp only [Act.put, List.setIfInBounds_toArray, List.set_cons_zero, List.set_cons_succ]
            refine wpAnyG_last (i := 13) rfl (by kernel_rfl) (by kernel_rfl) (fun K hK => ?_)
            go_simp
            refine hK.out _ _ ?_
            clear hK K
            try simp only [Act.put, List.setIfInBounds_toArray, List.set_cons_zero, List.set_cons_succ]
            refine wpAnyG_done (by kernel_rfl) ?_ _
            have HM4 : Hid (Ms (BLc f g w) w wr.drew) := N0
            clear hHeld N0
            go_wp2
            go_meet
            exact ⟨by rw [HBB.out, hb1]; rfl, HM4.out⟩
        case rest =>
          obtain ⟨rfl, HMc⟩ := hcut
          have hbv := HBB.out
          clear HMx HBB HG1 HVx HG2 bx
          cases BB
          · obtain ⟨g1, g2⟩ : G1 = 1 ∧ G2 = 1 := by
              have h1 := hbv.symm
              rw [Bool.or_eq_false_iff, bne_eq_false_iff_eq, bne_eq_false_iff_eq] at h1
              exact h1
            have hgx : Int.gcd x y = 1 := by have := HGG.out.1; omega
            have hgv : Int.gcd (g.at x y) f.a = 1 := by have h1 := HGG.out.2.2; rw [HGG.out.2.1] at h1; omega
            have hxy0 : 0 < x + y := by
              rcases Nat.lt_or_ge 0 (x + y) with h | h
              · exact h
              · obtain ⟨rfl, rfl⟩ : x = 0 ∧ y = 0 := by omega
                simp at hgx
            have hVV := MQ.at_few HH.out.rg HH.out.ga HH.out.dg HH.out.lo HH.out.hi (x := x) (y := y) (by have := HSx.out.b; omega) hxy0
            obtain ⟨r0, s0, hr1, hr2, hs1, hs2, hrs⟩ := MQ.search_rs hgx
            have hr3 : -(k : Int) ≤ r0 ∧ r0 ≤ (k : Int) + 1 := by omega
            have hs3 : -(k : Int) ≤ s0 ∧ s0 ≤ (k : Int) + 1 := by omega
            have HXY : Hid (Int.gcd x y = 1 ∧ Int.gcd (g.at x y) f.a = 1 ∧ (1 ≤ g.at x y ∧ g.at x y ≤ 16810000) ∧ (x : Int) * s0 - y * r0 = 1) := ⟨hgx, hgv, hVV, hrs⟩
            have hk82 : (k : Int) ≤ 82 := by omega
            clear g1 g2 hgx hgv hxy0 hVV hr1 hr2 hs1 hs2 hrs hbv HGG hVb
            go_wp2
            go_loopg [8] (200 + k) (fun gk rv wx => ∃ r : Int, rv = .int .i64 r ∧ -(k : Int) ≤ r ∧ r ≤ r0 ∧ Hid (gk = (200 - r).toNat ∧ Ms (BLc f g w) w wx))
            case atStart => exact ⟨-(k : Int), rfl, Int.le_refl _, hr3.1, by omega, HMc.out⟩
            case round =>
              clear HMc
              obtain ⟨r, rfl, hra, hrb, HR⟩ := hrel
              have HGr : Hid (gk = (200 - r).toNat) := HR.out.1
              have HMr : Hid (Ms (BLc f g w) w wr) := HR.out.2
              clear HR
              have br : decide (r ≤ (k : Int) + 1) = true := decide_eq_true (by omega)
              go_wp2
              go_loopg [9] (200 + k) (fun gk sv wx => ∃ s : Int, sv = .int .i64 s ∧ -(k : Int) ≤ s ∧ s ≤ (k : Int) + 2 ∧ Hid (gk = (200 - s).toNat ∧ (r = r0 → s ≤ s0) ∧ Ms (BLc f g w) w wx))
              case atStart => exact ⟨-(k : Int), rfl, Int.le_refl _, by omega, by omega, fun _ => hs3.1, HMr.out⟩
              case round =>
                clear HMr br
                obtain ⟨s, rfl, hsa, hsb, HR⟩ := hrel
                have HGs : Hid (gk = (200 - s).toNat) := HR.out.1
                have HIs : Hid (r = r0 → s ≤ s0) := HR.out.2.1
                have HMs : Hid (Ms (BLc f g w) w wr) := HR.out.2.2
                clear HR
                by_cases hsk : s ≤ (k : Int) + 1
                · have bs : decide (s ≤ (k : Int) + 1) = true := decide_eq_true hsk
                  obtain ⟨P1, e1⟩ : ∃ P, (x : Int) * s = P := ⟨_, rfl⟩
                  obtain ⟨P2, e2⟩ : ∃ P, (y : Int) * r = P := ⟨_, rfl⟩
                  have hP1 : -7000 ≤ P1 ∧ P1 ≤ 7000 := by have := bd3 (show (-82 : Int) ≤ x by omega) (show (x : Int) ≤ 82 by omega) (show (-84 : Int) ≤ s by omega) (show s ≤ 84 by omega); rw [e1] at this; omega
                  have hP2 : -7000 ≤ P2 ∧ P2 ≤ 7000 := by have := bd3 (show (-82 : Int) ≤ y by omega) (show (y : Int) ≤ 82 by omega) (show (-84 : Int) ≤ r by omega) (show r ≤ 84 by omega); rw [e2] at this; omega
                  by_cases hdet : P1 - P2 = 1
                  · have hFo : Found f g D ⟨x, r, y, s⟩ := by
                      refine ⟨HH.out, ?_, ⟨⟨by show (-83 : Int) ≤ x; omega, by show (x : Int) ≤ 83; omega⟩, ⟨by show -83 ≤ r; omega, by show r ≤ 83; omega⟩, ⟨by show (-83 : Int) ≤ y; omega, by show (y : Int) ≤ 83; omega⟩, by show -83 ≤ s; omega, by show s ≤ 83; omega⟩, HXY.out.2.2.1, HXY.out.2.1⟩
                      show (x : Int) * s - r * y = 1
                      rw [Int.mul_comm r, e1, e2]; exact hdet
                    have HFo : Hid (Found f g D ⟨x, r, y, s⟩) := hFo
                    have hhb := tur_bd HH.out.rg HH.out.ga HH.out.dg HH.out.lo hFo.up
                    have hha := hFo.a
                    obtain ⟨h, hh⟩ : ∃ h, h = tur g ⟨x, r, y, s⟩ := ⟨_, rfl⟩
                    have HTm : Hid (∀ w, Calls Try.prog 38 #[g.v, Mt.v ⟨x, r, y, s⟩] w fun e w' => e = .returned h.v ∧ Below w.heap.size w w') := fun w => by rw [hh]; exact HT.out ⟨x, r, y, s⟩ w ⟨⟨by show (-3000 : Int) ≤ x; omega, by show (x : Int) ≤ 3000; omega⟩, ⟨by show -3000 ≤ r; omega, by show r ≤ 3000; omega⟩, ⟨by show (-3000 : Int) ≤ y; omega, by show (y : Int) ≤ 3000; omega⟩, by show -3000 ≤ s; omega, by show s ≤ 3000; omega⟩
                    obtain ⟨t0, ht0, hz0⟩ := hFo.search
                    rw [← hh] at hhb hha ht0 hz0
                    have HHh : Hid (h = tur g ⟨x, r, y, s⟩) := hh
                    have HZ0 : Hid ((t0 : Int) < h.a ∧ (f.b % (2 * f.a) + 2 * f.a * t0 - h.b) % (2 * h.a) = 0) := ⟨ht0, hz0⟩
                    have hbd : (P1 - P2 != 1) = false := by simp [hdet]
                    unfold Qf.v Mt.v at HTm
                    have q0 := (HMs.out.1 _ (.tail _ (.head _))).cell 0
                    have q1 := (HMs.out.1 _ (.tail _ (.head _))).cell 1
                    have q2 := (HMs.out.1 _ (.tail _ (.head _))).cell 2
                    simp at q0 q1 q2
                    clear hFo hh ht0 hz0 hdet
                    go_wp2_with fail
                    refine (HTm.out _).mono ?_
                    rintro e w1 ⟨rfl, k1⟩
                    have HM1 : Hid (Ms ((w1.heap.size, h.l, 32) :: BLc f g w) w (w1.alloc (.cells #[.int .i64 h.a, .int .i64 h.b, .int .i64 h.c] 32))) := (HMs.out.below k1).new h.l 32
                    have HLT : Hid (∀ x ∈ BLc f g w, x.1 < w1.heap.size) := (HMs.out.below k1).lt
                    clear q0 q1 q2 k1 HMs HTm bs hbd e1 e2 hP1 hP2
                    obtain ⟨W1, hW1⟩ : ∃ W, W = w1.alloc (.cells #[.int .i64 h.a, .int .i64 h.b, .int .i64 h.c] 32) := ⟨_, rfl⟩
                    rw [← hW1] at HM1
                    have q0 : W1.cell? ⟨w.heap.size, 0, none⟩ = some (.int .i64 f.a) := (HM1.out.1 _ (.tail _ (.tail _ (.tail _ (.head _))))).cell 0
                    have q1 : W1.cell? ⟨w.heap.size, 1, none⟩ = some (.int .i64 f.b) := (HM1.out.1 _ (.tail _ (.tail _ (.tail _ (.head _))))).cell 1
                    have q2 : W1.cell? ⟨w.heap.size, 2, none⟩ = some (.int .i64 f.c) := (HM1.out.1 _ (.tail _ (.tail _ (.tail _ (.head _))))).cell 2
                    rw [hW1] at q0 q1 q2
                    go_wp2_with fail
                    rw [← hW1]
                    clear hW1 q0 q1 q2
                    refine (HDf.out _).mono ?_
                    rintro e w2 ⟨rfl, k2⟩
                    have HM2 : Hid (Ms ((w1.heap.size, h.l, 32) :: BLc f g w) w w2) := HM1.out.below k2
                    have q0 : w2.cell? ⟨w.heap.size, 0, none⟩ = some (.int .i64 f.a) := (HM2.out.1 _ (.tail _ (.tail _ (.tail _ (.head _))))).cell 0
                    have q1 : w2.cell? ⟨w.heap.size, 1, none⟩ = some (.int .i64 f.b) := (HM2.out.1 _ (.tail _ (.tail _ (.tail _ (.head _))))).cell 1
                    clear k2 HM1
                    obtain ⟨b0, hb0⟩ : ∃ b0, b0 = f.b % (2 * f.a) := ⟨_, rfl⟩
                    have hb0b : 0 ≤ b0 ∧ b0 < 2 * f.a := by rw [hb0]; exact ⟨Int.emod_nonneg f.b (by omega), Int.emod_lt_of_pos f.b (by omega)⟩
                    have HB0 : Hid (b0 = f.b % (2 * f.a)) := hb0
                    rw [← hb0] at HL0
                    clear hb0
                    go_wp2_with fail
                    refine (HL0.out _).mono ?_
                    rintro e w3 ⟨rfl, h3⟩
                    rw [h3]
                    clear h3 w3 q0 q1
                    go_wp2
                    go_loopg [12] (t0 + 1) (fun gk bv wx => ∃ (t : Nat) (b : Int), bv = .int .i64 b ∧ Hid (gk = t0 + 1 - t ∧ t ≤ t0 ∧ b = b0 + 2 * f.a * t ∧ Ms ((w1.heap.size, h.l, 32) :: BLc f g w) w wx))
                    case atStart => exact ⟨0, b0, rfl, rfl, Nat.zero_le _, by simp, HM2.out⟩
                    case round =>
                      clear HM2
                      obtain ⟨t, b, rfl, HR⟩ := hrel
                      have HGt : Hid (gk = t0 + 1 - t) := HR.out.1
                      have HTt : Hid (t ≤ t0 ∧ b = b0 + 2 * f.a * t) := HR.out.2.1 |> fun h1 => ⟨h1, HR.out.2.2.1⟩
                      have HMb : Hid (Ms ((w1.heap.size, h.l, 32) :: BLc f g w) w wr) := HR.out.2.2.2
                      clear HR
                      have hbb : 0 ≤ b ∧ b ≤ 2723220000 := by
                        obtain ⟨h1, h2⟩ := HTt.out
                        have h3 := HZ0.out.1
                        have x1 : 0 ≤ 2 * f.a * (t : Int) := Int.mul_nonneg (by omega) (by omega)
                        have x2 : 2 * f.a * (t : Int) ≤ 162 * (h.a - 1) := Int.mul_le_mul (by omega) (by omega) (by omega) (by omega)
                        omega
                      obtain ⟨R, hR⟩ : ∃ R, R = (b - h.b) % (2 * h.a) := ⟨_, rfl⟩
                      have HRr : Hid (R = (b - h.b) % (2 * h.a)) := hR
                      have HLb : Hid (∀ w, Calls Try.prog 11 #[.int .i64 (b - h.b), .int .i64 (2 * h.a)] w fun e w' => e = .returned (.int .i64 R) ∧ w' = w) := fun w => by rw [hR]; exact left_int (b - h.b) (2 * h.a) w (by omega) (by omega) (by omega)
                      clear hR
                      have q0 : wr.cell? ⟨w1.heap.size, 0, none⟩ = some (.int .i64 h.a) := (HMb.out.1 _ (.head _)).cell 0
                      have q1 : wr.cell? ⟨w1.heap.size, 1, none⟩ = some (.int .i64 h.b) := (HMb.out.1 _ (.head _)).cell 1
                      have q3 : wr.cell? ⟨w.heap.size, 0, none⟩ = some (.int .i64 f.a) := (HMb.out.1 _ (.tail _ (.tail _ (.tail _ (.head _))))).cell 0
                      go_wp2_with fail
                      refine (HLb.out _).mono ?_
                      rintro e w4 ⟨rfl, h4⟩
                      rw [h4]
                      clear h4 w4 HLb
                      cases hR0 : (R == 0)
                      · have hRn : R ≠ 0 := by simpa using hR0
                        have htt : t + 1 ≤ t0 := by
                          obtain ⟨h1, h2⟩ := HTt.out
                          rcases Nat.lt_or_ge t t0 with h3 | h3
                          · exact h3
                          · exfalso
                            obtain rfl : t = t0 := by omega
                            apply hRn
                            rw [HRr.out, h2, HB0.out]
                            exact HZ0.out.2
                        have HNb : Hid (b + 2 * f.a = b0 + 2 * f.a * ((t + 1 : Nat) : Int)) := by
                          show _ = _
                          rw [HTt.out.2]; push_cast; rw [Int.mul_add]; omega
                        clear hRn
                        go_wp2
                        go_roundg (t0 + 1 - (t + 1))
                        case rel => exact ⟨t + 1, b + 2 * f.a, rfl, rfl, htt, HNb.out, HMb.out⟩
                        case measure => have := HGt.out; omega
                      · have hRz : R = 0 := by simpa using hR0
                        have hlast := HFo.out.last (b := b) (t := t) (by rw [← HHh.out]; have h1 := HTt.out.1; have h2 := HZ0.out.1; omega) (by rw [← HB0.out]; exact HTt.out.2) (by rw [← HHh.out, ← HRr.out]; exact hRz)
                        rw [← HHh.out] at hlast
                        obtain ⟨c, l1, l2, l3, l4, l5, l6, l7⟩ := hlast
                        have HRO : Hid (∀ w, Calls Try.prog 18 #[Qf.v ⟨f.a * h.a, b, c⟩] w fun e w' => ∃ (z : Qf) (m : Mt), e = .returned z.v ∧ Rd ⟨f.a * h.a, b, c⟩ z m ∧ Below w.heap.size w w') := fun w => by
                          refine (RB.ReducedOf_any ⟨f.a * h.a, b, c⟩ w l4 l5 (by rw [l6]; exact hDb.2)).mono ?_
                          rintro e w' ⟨⟨z, m, h1, h2⟩, k⟩
                          exact ⟨z, m, h1, h2, k⟩
                        have HFin : Hid (∀ z m, Rd ⟨f.a * h.a, b, c⟩ z m → MQ.Cz f g z) := fun z m hz => by
                          have hzd : z.disc < 0 := by rw [hz.disc, l6]; exact hDb.2
                          exact MQ.composed_is (h := h) HH.out hha.1 (by rw [HHh.out]; exact HFo.out.cp) (by rw [HHh.out]; exact tur_lk HFo.out.det) l7 (by rw [← HRr.out]; exact hRz) l1 (by have := red_pos hz.red hzd; omega) hz
                        obtain ⟨AA, eA⟩ : ∃ A, f.a * h.a = A := ⟨_, rfl⟩
                        obtain ⟨Q, eQ⟩ : ∃ Q, b * b = Q := ⟨_, rfl⟩
                        obtain ⟨DD, eD⟩ : ∃ D, 4 * f.a * h.a = D := ⟨_, rfl⟩
                        have hDD : DD = 4 * AA := by rw [← eD, Int.mul_assoc, eA]
                        rw [eA] at l1 l2 l3 l5 HRO HFin
                        rw [eQ] at l1
                        have hAb : 1 ≤ AA ∧ AA ≤ 1361610000 := ⟨l5, l3⟩
                        have hQb : 0 ≤ Q ∧ Q ≤ 7500000000000000000 := by
                          rw [← eQ]
                          have := Int.mul_le_mul hbb.2 hbb.2 hbb.1 (by omega)
                          exact ⟨sq_nn b, by omega⟩
                        have hquo : (Q - D).tdiv DD = c := by
                          rw [l1, hDD, Int.mul_tdiv_cancel_left _ (by omega)]
                        have hcb : -2800000000 ≤ c ∧ c ≤ 2800000000 := ⟨l4.2.2.2.2.1, l4.2.2.2.2.2⟩
                        have hnzp : ¬ DD = 0 := by omega
                        have hnz : (DD == 0) = false := beq_eq_false_iff_ne.2 hnzp
                        have xw1 : IntKind.i64.wrap AA = AA := by rw [IntKind.wrap_i64]; omega
                        have xw2 : IntKind.i64.wrap Q = Q := by rw [IntKind.wrap_i64]; omega
                        have xw3 : IntKind.i64.wrap (Q - D) = Q - D := by rw [IntKind.wrap_i64]; omega
                        have xw4 : IntKind.i64.wrap (4 * f.a) = 4 * f.a := by rw [IntKind.wrap_i64]; omega
                        have xw5 : IntKind.i64.wrap DD = DD := by rw [IntKind.wrap_i64]; omega
                        have xw6 : IntKind.i64.wrap c = c := by rw [IntKind.wrap_i64]; omega
                        have HQ : Hid ((Q - D).tdiv DD = c) := hquo
                        unfold Qf.v at HRO
                        clear l1 l2 l3 l4 l5 l6 l7 hRz hDD hquo
                        have hq2 : (Q - D) / DD = c := by
                          rw [← HQ.out, Int.tdiv_eq_ediv_of_nonneg (by omega)]
                        have hq1 := HQ.out
                        have N0 := HMb.out.below ((Below.refl wr.heap.size wr).drew)
                        go_wp2_with fail
                        refine wp_region_G (S2c f h w.heap.size w1.heap.size) 20 (by kernel_rfl) (s2c_of N0) (fun hHeld => ?_)
                        clear q0 q1 q3
                        refine wpAnyG_take (i := 0) (v := ?v0x25) rfl (by kernel_rfl) (fun _ _ _ h => h) (Or.inl ⟨by rfl, ?y0x25⟩) hHeld ?r0x25
                        case y0x25 => (intro wS hSw; obtain ⟨s1, s2⟩ := hSw; go_simp; try with_reducible rfl)
                        try simp only [Act.put, List.setIfInBounds_toArray, List.set_cons_zero, List.set_cons_succ]
                        refine wpAnyG_take (i := 1) (v := ?v1x26) rfl (by kernel_rfl) (fun _ _ _ h => h) (Or.inl ⟨by rfl, ?y1x26⟩) hHeld ?r1x26
                        case y1x26 => (intro wS hSw; obtain ⟨s1, s2⟩ := hSw; go_simp; try with_reducible rfl)
                        try simp only [Act.put, List.setIfInBounds_toArray, List.set_cons_zero, List.set_cons_succ]
                        refine wpAnyG_take (i := 2) (v := ?v2x27) rfl (by kernel_rfl) (fun _ _ _ h => h) (Or.inl ⟨by rfl, ?y2x27⟩) hHeld ?r2x27
                        case y2x27 => (intro wS hSw; obtain ⟨s1, s2⟩ := hSw; go_simp; try with_reducible rfl)
                        try simp only [Act.put, List.setIfInBounds_toArray, List.set_cons_zero, List.set_cons_succ]
                        refine wpAnyG_take (i := 3) (v := ?v3x28) rfl (by kernel_rfl) (fun _ _ _ h => h) (Or.inl ⟨by rfl, ?y3x28⟩) hHeld ?r3x28
                        case y3x28 => (intro wS hSw; obtain ⟨s1, s2⟩ := hSw; go_simp; try with_reducible rfl)
                        try simp only [Act.put, List.setIfInBounds_toArray, List.set_cons_zero, List.set_cons_succ]
                        refine wpAnyG_take (i := 4) (v := .int .i64 AA) rfl (by kernel_rfl) (fun _ _ _ h => h) (Or.inl ⟨by kernel_rfl, ?y4x29⟩) hHeld ?r4x29
                        case y4x29 => (intro wS hSw; (obtain ⟨s1, s2⟩ := hSw; go_simp; try simp only [eA, xw1]))
                        try simp only [Act.put, List.setIfInBounds_toArray, List.set_cons_zero, List.set_cons_succ]
                        refine wpAnyG_take (i := 5) (v := ?v5x30) rfl (by kernel_rfl) (fun _ _ _ h => h) (Or.inl ⟨by rfl, ?y5x30⟩) hHeld ?r5x30
                        case y5x30 => (intro wS hSw; obtain ⟨s1, s2⟩ := hSw; go_simp; try with_reducible rfl)
                        try simp only [Act.put, List.setIfInBounds_toArray, List.set_cons_zero, List.set_cons_succ]
                        refine wpAnyG_take (i := 6) (v := ?v6x31) rfl (by kernel_rfl) (fun _ _ _ h => h) (Or.inl ⟨by rfl, ?y6x31⟩) hHeld ?r6x31
                        case y6x31 => (intro wS hSw; obtain ⟨s1, s2⟩ := hSw; go_simp; try with_reducible rfl)
                        try simp only [Act.put, List.setIfInBounds_toArray, List.set_cons_zero, List.set_cons_succ]
                        refine wpAnyG_take (i := 7) (v := ?v7x32) rfl (by kernel_rfl) (fun _ _ _ h => h) (Or.inl ⟨by rfl, ?y7x32⟩) hHeld ?r7x32
                        case y7x32 => (intro wS hSw; obtain ⟨s1, s2⟩ := hSw; go_simp; try with_reducible rfl)
                        try simp only [Act.put, List.setIfInBounds_toArray, List.set_cons_zero, List.set_cons_succ]
                        refine wpAnyG_take (i := 8) (v := .int .i64 Q) rfl (by kernel_rfl) (fun _ _ _ h => h) (Or.inl ⟨by kernel_rfl, ?y8x33⟩) hHeld ?r8x33
                        case y8x33 => (intro wS hSw; (go_simp; try simp only [eQ, xw2]))
                        try simp only [Act.put, List.setIfInBounds_toArray, List.set_cons_zero, List.set_cons_succ]
                        refine wpAnyG_take (i := 9) (v := ?v9x34) rfl (by kernel_rfl) (fun _ _ _ h => h) (Or.inl ⟨by rfl, ?y9x34⟩) hHeld ?r9x34
                        case y9x34 => (intro wS hSw; obtain ⟨s1, s2⟩ := hSw; go_simp; try with_reducible rfl)
                        try simp only [Act.put, List.setIfInBounds_toArray, List.set_cons_zero, List.set_cons_succ]
                        refine wpAnyG_take (i := 10) (v := .int .i64 (Q - D)) rfl (by kernel_rfl) (fun _ _ _ h => h) (Or.inl ⟨by kernel_rfl, ?y10x35⟩) hHeld ?r10x35
                        case y10x35 => (intro wS hSw; (go_simp; try simp only [xw3]))
                        try simp only [Act.put, List.setIfInBounds_toArray, List.set_cons_zero, List.set_cons_succ]
                        refine wpAnyG_take (i := 11) (v := ?v11x36) rfl (by kernel_rfl) (fun _ _ _ h => h) (Or.inl ⟨by rfl, ?y11x36⟩) hHeld ?r11x36
                        case y11x36 => (intro wS hSw; obtain ⟨s1, s2⟩ := hSw; go_simp; try with_reducible rfl)
                        try simp only [Act.put, List.setIfInBounds_toArray, List.set_cons_zero, List.set_cons_succ]
                        refine wpAnyG_take (i := 12) (v := ?v12x37) rfl (by kernel_rfl) (fun _ _ _ h => h) (Or.inl ⟨by rfl, ?y12x37⟩) hHeld ?r12x37
                        case y12x37 => (intro wS hSw; obtain ⟨s1, s2⟩ := hSw; go_simp; try with_reducible rfl)
                        try simp only [Act.put, List.setIfInBounds_toArray, List.set_cons_zero, List.set_cons_succ]
                        refine wpAnyG_take (i := 13) (v := .int .i64 (4 * f.a)) rfl (by kernel_rfl) (fun _ _ _ h => h) (Or.inl ⟨by kernel_rfl, ?y13x38⟩) hHeld ?r13x38
                        case y13x38 => (intro wS hSw; (go_simp; try simp only [xw4]))
                        try simp only [Act.put, List.setIfInBounds_toArray, List.set_cons_zero, List.set_cons_succ]
                        refine wpAnyG_take (i := 14) (v := ?v14x39) rfl (by kernel_rfl) (fun _ _ _ h => h) (Or.inl ⟨by rfl, ?y14x39⟩) hHeld ?r14x39
                        case y14x39 => (intro wS hSw; obtain ⟨s1, s2⟩ := hSw; go_simp; try with_reducible rfl)
                        try simp only [Act.put, List.setIfInBounds_toArray, List.set_cons_zero, List.set_cons_succ]
                        refine wpAnyG_take (i := 15) (v := ?v15x40) rfl (by kernel_rfl) (fun _ _ _ h => h) (Or.inl ⟨by rfl, ?y15x40⟩) hHeld ?r15x40
                        case y15x40 => (intro wS hSw; obtain ⟨s1, s2⟩ := hSw; go_simp; try with_reducible rfl)
                        try simp only [Act.put, List.setIfInBounds_toArray, List.set_cons_zero, List.set_cons_succ]
                        refine wpAnyG_take (i := 16) (v := .int .i64 DD) rfl (by kernel_rfl) (fun _ _ _ h => h) (Or.inl ⟨by kernel_rfl, ?y16x41⟩) hHeld ?r16x41
                        case y16x41 => (intro wS hSw; (go_simp; try simp only [eD, xw5]))
                        try simp only [Act.put, List.setIfInBounds_toArray, List.set_cons_zero, List.set_cons_succ]
                        refine wpAnyG_take (i := 17) (v := .int .i64 c) rfl (by kernel_rfl) (fun _ _ _ h => h) (Or.inl ⟨by kernel_rfl, ?y17x42⟩) hHeld ?r17x42
                        case y17x42 => (intro wS hSw; (go_simp; try first | exact hnzp | simp only [hq1, hq2, xw6]))
                        try simp only [Act.put, List.setIfInBounds_toArray, List.set_cons_zero, List.set_cons_succ]
                        refine wpAnyG_take (i := 18) (v := ?v18x43) rfl (by kernel_rfl) (fun _ _ _ h => h) (Or.inl ⟨by rfl, ?y18x43⟩) hHeld ?r18x43
                        case y18x43 => (intro wS hSw; obtain ⟨s1, s2⟩ := hSw; go_simp; try with_reducible rfl)
                        try simp only [Act.put, List.setIfInBounds_toArray, List.set_cons_zero, List.set_cons_succ]
                        refine wpAnyG_one (i := 19) rfl (by kernel_rfl) (fun K hK => ?_)
                        go_simp
                        refine (HRO.out _).mono ?_
                        rintro e w5 ⟨z, m, rfl, hz, k5⟩
                        have HCz : Hid (MQ.Cz f g z) := HFin.out z m hz
                        have N1 := N0.below k5
                        refine hK.out _ _ (s2c_of N1) ?_
                        clear hK K
                        try simp only [Act.put, List.setIfInBounds_toArray, List.set_cons_zero, List.set_cons_succ]
                        have z0 := (N1.1 _ (.tail _ (.head _))).cell 0
                        have z1 := (N1.1 _ (.tail _ (.head _))).cell 1
                        have z2 := (N1.1 _ (.tail _ (.head _))).cell 2
                        have z3 := (N1.1 _ (.tail _ (.head _))).frozen 0
                        have z4 := (N1.1 _ (.tail _ (.head _))).frozen 1
                        have z5 := (N1.1 _ (.tail _ (.head _))).frozen 2
                        have z6 : w.heap.size + 1 + 1 < w5.heap.size := (N1.1 _ (.tail _ (.head _))).lt
                        simp at z0 z1 z2
                        have HE : Hid (Ms [(w.heap.size + 1 + 1, z.l, 32)] w (((w5.setCell ⟨w.heap.size + 1 + 1, 0, none⟩ (.int .i64 z.a)).setCell ⟨w.heap.size + 1 + 1, 1, none⟩ (.int .i64 z.b)).setCell ⟨w.heap.size + 1 + 1, 2, none⟩ (.int .i64 z.c))) :=
                          (N1.mono (l' := []) (fun x hx => (by cases hx))).set3 (N1.1 _ (.tail _ (.head _))) (fun x hx => (by cases hx)) (by omega) _ _ _
                        refine wpAnyG_last (i := 20) rfl (by kernel_rfl) (by kernel_rfl) (fun K hK => ?_)
                        go_simp
                        refine hK.out _ _ ?_
                        clear hK K
                        try simp only [Act.put, List.setIfInBounds_toArray, List.set_cons_zero, List.set_cons_succ]
                        refine wpAnyG_done (by kernel_rfl) ?_ _
                        clear hHeld N0 N1 z0 z1 z2 z3 z4 z5 hz k5 HFin HRO HMb
                        go_wp2_with fail
                        generalize hWF : World.setCell _ _ _ = WF
                        have E : Ms [(w.heap.size + 1 + 1, z.l, 32)] w WF := hWF ▸ HE.out
                        have y0 := (E.1 _ (.head _)).cell 0
                        have y1 := (E.1 _ (.head _)).cell 1
                        have y2 := (E.1 _ (.head _)).cell 2
                        have y3 : w.heap.size + 1 + 1 < WF.heap.size := (E.1 _ (.head _)).lt
                        simp at y0 y1 y2
                        exact bodyPost_ret (v := .agg #[.int .i64 z.a, .int .i64 z.b, .int .i64 z.c]) (by simp [results, Try.results17, go_sem, y0, y1, y2, y3]) rfl ⟨⟨z, rfl, HCz.out⟩, E.2⟩
                  · have hbd : (P1 - P2 != 1) = true := by simpa using hdet
                    have hss : r = r0 → s + 1 ≤ s0 := fun h => by
                      have h1 := HIs.out h
                      rcases Int.lt_or_le s s0 with h2 | h2
                      · omega
                      · exfalso
                        have h3 : s = s0 := by omega
                        have h4 := HXY.out.2.2.2
                        rw [← h3, ← h, e1, e2] at h4
                        exact hdet h4
                    have HSS : Hid (r = r0 → s + 1 ≤ s0) := hss
                    clear hss
                    go_wp2
                    go_roundg ((200 - (s + 1)).toNat)
                    case rel => exact ⟨s + 1, by go_num, by omega, by omega, rfl, HSS.out, HMs.out⟩
                    case measure => have := HGs.out; omega
                · have bs : decide (s ≤ (k : Int) + 1) = false := decide_eq_false hsk
                  have hrr : r + 1 ≤ r0 := by
                    have h1 := HIs.out
                    rcases Int.lt_or_le r r0 with h2 | h2
                    · omega
                    · exfalso
                      have := h1 (by omega)
                      omega
                  go_wp2
                  go_roundg ((200 - (r + 1)).toNat)
                  case rel => exact ⟨r + 1, by go_num, by omega, hrr, rfl, HMs.out⟩
                  case measure => have := HGr.out; omega
          · have hxx : k = K → x + 1 ≤ x0 := fun h => by
              have h1 := HIx.out h
              rcases Nat.lt_or_ge x x0 with h2 | h2
              · omega
              · exfalso
                obtain rfl : x = x0 := by omega
                obtain rfl : y = y0 := by have := HSx.out.k; omega
                have e1 := HSx.out.g1
                have e2 := HSx.out.g2
                obtain ⟨h3, h4, h5⟩ := HGG.out
                rw [e1] at h3
                rw [h4, e2] at h5
                rw [h3, h5] at hbv
                simp at hbv
            have HXX : Hid (k = K → x + 1 ≤ x0) := hxx
            clear hxx hbv
            go_wp2
            go_roundg (100 - (x + 1))
            case rel => exact ⟨x + 1, by go_num, by omega, rfl, HXX.out, HMc.out⟩
            case measure => have := HGx.out; omega
      · have bx : decide ((x : Int) ≤ (k : Int)) = false := decide_eq_false (by omega)
        have hkK : k < K := by
          have h1 := HIx.out
          omega
        go_wp2
        go_roundg (100 - (k + 1))
        case rel => exact ⟨k + 1, by go_num, by omega, rfl, HMx.out⟩
        case measure => have := HGk.out; omega

end Go.Proofs.Ytijkanilpblogae
end

section
/- FormComposes, the law's own walk: out of what is asked of the example and of Compose. Written by composes.py. -/
set_option linter.unusedSimpArgs false
set_option linter.unusedVariables false
set_option maxRecDepth 100000
namespace Go.Proofs.Ytijkanilpblogae
open Go.RowKit

/-- What is asked of the example and of Compose. -/
structure ComposeIs (Bg : World → Prop) : Prop where
  keep : ∀ w w' : World, Bg w → Below w.heap.size w w' → Bg w'
  begun : ∀ w : World, Bg w → Calls Try.prog 9 #[] w fun e w' => e = .returned (.bool true) ∧ Below w.heap.size w w'
  compose : ∀ (f g : Qf) (w : World), Calls Try.prog 13 #[f.v, g.v] w fun e w' => ∃ h, e = .returned (.tuple #[h.v, ffv (compF f g)]) ∧ ComOut f g h ∧ Below w.heap.size w w'

/-- The cells of the two forms, and of the third. -/
abbrev S9m (f g h : Qf) (b b1 : Nat) (W : World) : Prop :=
  W.cell? ⟨b, 0, none⟩ = some (.int .i64 f.a) ∧ W.cell? ⟨b, 1, none⟩ = some (.int .i64 f.b) ∧ W.cell? ⟨b, 2, none⟩ = some (.int .i64 f.c) ∧
  W.cell? ⟨b + 1, 0, none⟩ = some (.int .i64 g.a) ∧ W.cell? ⟨b + 1, 1, none⟩ = some (.int .i64 g.b) ∧ W.cell? ⟨b + 1, 2, none⟩ = some (.int .i64 g.c) ∧
  W.cell? ⟨b1, 0, none⟩ = some (.int .i64 h.a) ∧ W.cell? ⟨b1, 1, none⟩ = some (.int .i64 h.b) ∧ W.cell? ⟨b1, 2, none⟩ = some (.int .i64 h.c)
theorem s9m_of {f g h : Qf} {b1 : Nat} {w W : World} {e0 e2 : Nat × List Value × TypeId} (k : Ms [e0, (b1, h.l, 32), e2, (w.heap.size + 1, g.l, 32), (w.heap.size, f.l, 32)] w W) : S9m f g h w.heap.size b1 W := by
  have k1 := k.1 _ (.tail _ (.head _))
  have k2 := k.1 _ (.tail _ (.tail _ (.tail _ (.head _))))
  have k3 := k.1 _ (.tail _ (.tail _ (.tail _ (.tail _ (.head _)))))
  exact ⟨k3.cell 0, k3.cell 1, k3.cell 2, k2.cell 0, k2.cell 1, k2.cell 2, k1.cell 0, k1.cell 1, k1.cell 2⟩
/-- .. and of a fault's code. -/
abbrev S10m (f g h : Qf) (c : Int) (b b1 b2 : Nat) (W : World) : Prop := S9m f g h b b1 W ∧ W.cell? ⟨b2, 0, none⟩ = some (.int .i64 c)

theorem cz_big {f g h : Qf} (uf : f.upto 1000000) (hd : f.disc < 0) (c : MQ.Cz f g h) : h.upto 4000000000000 ∧ (-2000000 ≤ h.a ∧ h.a ≤ 2000000) ∧ (-2000000 ≤ h.b ∧ h.b ≤ 2000000) ∧ (-1000000000000000 ≤ h.a * h.c ∧ h.a * h.c ≤ 1000000000000000) := by
  obtain ⟨u1, u2, u3, u4, u5, u6⟩ := uf
  have lo : -4000000000000 ≤ f.disc := by
    have x1 := sq_nn f.b
    have x2 := (sq_bd u1 u2 u5 u6).2
    unfold Qf.disc
    rw [Int.mul_assoc]
    omega
  obtain ⟨h1, h2, h3, h4, h5, h6, h7⟩ := cz_up (by decide) hd lo c
  have h8 := c.pos
  have h9 : h.a ≤ 2000000 := by
    rcases Int.lt_or_le 2000000 h.a with k | k
    · have : 2000000 * 2000000 ≤ h.a * h.a := Int.mul_le_mul (by omega) (by omega) (by omega) (by omega)
      omega
    · exact k
  have h10 : 0 ≤ h.a * h.c := Int.mul_nonneg (by omega) (by omega)
  exact ⟨⟨by omega, by omega, by omega, by omega, by omega, by omega⟩, by omega, by omega, by omega⟩
theorem cin_of {f g f' g' : Qf} {m m' : Mt} (hf : ffault f = (0, 0)) (hg : ffault g = (0, 0)) (h1 : Rd f f' m) (h2 : Rd g g' m') (hd : f.disc = g.disc) (lo : -20000 ≤ f.disc) : MQ.Cin f' g' f.disc := by
  obtain ⟨_, a1, d1, _⟩ := ffault_ok hf
  obtain ⟨_, a2, d2, _⟩ := ffault_ok hg
  obtain ⟨_, _, _, p1⟩ := ffault_ok (h1.fault hf)
  obtain ⟨_, _, _, p2⟩ := ffault_ok (h2.fault hg)
  exact ⟨h1.red, h2.red, (h1.upto hf).2.1, (h2.upto hg).2.1, h1.disc, by rw [h2.disc, hd], lo, d1, MQ.Pm.of_gcd p1, MQ.Pm.of_gcd p2⟩

set_option maxRecDepth 100000 in
set_option maxHeartbeats 8000000 in
theorem fcm_start (Bg : World → Prop) (G : ComposeIs Bg) (f g : Qf) (w : World) (hbg : Bg w) :
    Calls Try.prog 4 #[f.v, g.v] w fun e w' => e = .returned (.bool true) ∧ Below w.heap.size w w' := by
  have HG : Hid (ComposeIs Bg) := G
  have HBG : Hid (Bg w) := hbg
  clear G hbg
  obtain ⟨c, d, hcd⟩ : ∃ c d, compF f g = (c, d) := ⟨_, _, rfl⟩
  have HCD : Hid (compF f g = (c, d)) := hcd
  have HC1 : Hid (∀ w, Calls Try.prog 13 #[f.v, g.v] w fun e w' => ∃ z : Qf, e = .returned (.tuple #[z.v, ffv (c, d)]) ∧ ComOut f g z ∧ Below w.heap.size w w') := fun w => by rw [← hcd]; exact HG.out.compose f g w
  clear hcd
  obtain ⟨c0, d0, h0⟩ : ∃ c d, ffault f = (c, d) := ⟨_, _, rfl⟩
  obtain ⟨c1, d1, h1⟩ : ∃ c d, ffault g = (c, d) := ⟨_, _, rfl⟩
  have HF0 : Hid (ffault f = (c0, d0)) := h0
  have HF1 : Hid (ffault g = (c1, d1)) := h1
  have HFf : Hid (∀ w, Calls Try.prog 14 #[f.v] w fun e w' => e = .returned (ffv (c0, d0)) ∧ Below w.heap.size w w') := fun w => by have h := refFormFault_any f w; rw [h0] at h; exact h
  have HFg : Hid (∀ w, Calls Try.prog 14 #[g.v] w fun e w' => e = .returned (ffv (c1, d1)) ∧ Below w.heap.size w w') := fun w => by have h := refFormFault_any g w; rw [h1] at h; exact h
  clear h0 h1
  unfold Qf.v at HC1 HFf HFg ⊢
  go_enter Try.func4, Try.ntmps4
  have HM0 : Hid (Ms [(w.heap.size + 1, g.l, 32), (w.heap.size, f.l, 32)] w ((w.alloc (.cells #[.int .i64 f.a, .int .i64 f.b, .int .i64 f.c] 32)).alloc (.cells #[.int .i64 g.a, .int .i64 g.b, .int .i64 g.c] 32))) := by
    have h1 := Ms.new (l := []) (w := w) (W := w) ⟨fun x hx => (by cases hx), Below.refl _ _⟩ f.l 32
    have h2 := h1.new g.l 32
    rw [World.size_alloc] at h2
    exact h2
  go_wp2_with fail
  refine (HC1.out _).mono ?_
  rintro e w1 ⟨h, rfl, hco, k1⟩
  have HCO : Hid (ComOut f g h) := hco
  have HM1 : Hid (Ms [(w1.heap.size, h.l, 32), (w1.heap.size + 1, [.int .i64 c, .int .i64 d], 24), (w.heap.size + 1, g.l, 32), (w.heap.size, f.l, 32)] w ((w1.alloc (.cells #[.int .i64 h.a, .int .i64 h.b, .int .i64 h.c] 32)).alloc (.cells #[.int .i64 c, .int .i64 d] 24))) := by
    have h1 := (HM0.out.below k1).new h.l 32
    have h2 := h1.new [.int .i64 c, .int .i64 d] 24
    rw [World.size_alloc] at h2
    refine h2.mono (fun x hx => ?_)
    simp only [List.mem_cons, List.not_mem_nil, or_false] at hx ⊢
    rcases hx with hx | hx | hx
    · exact .inr (.inl hx)
    · exact .inl hx
    · exact .inr (.inr hx)
  obtain ⟨W1, hW1⟩ : ∃ W, W = (w1.alloc (.cells #[.int .i64 h.a, .int .i64 h.b, .int .i64 h.c] 32)).alloc (.cells #[.int .i64 c, .int .i64 d] 24) := ⟨_, rfl⟩
  rw [← hW1] at HM1
  have q0 : W1.cell? ⟨w.heap.size, 0, none⟩ = some (.int .i64 f.a) := (HM1.out.1 _ (.tail _ (.tail _ (.tail _ (.head _))))).cell 0
  have q1 : W1.cell? ⟨w.heap.size, 1, none⟩ = some (.int .i64 f.b) := (HM1.out.1 _ (.tail _ (.tail _ (.tail _ (.head _))))).cell 1
  have q2 : W1.cell? ⟨w.heap.size, 2, none⟩ = some (.int .i64 f.c) := (HM1.out.1 _ (.tail _ (.tail _ (.tail _ (.head _))))).cell 2
  rw [hW1] at q0 q1 q2
  clear hco k1 HM0 HC1
  go_wp2_with fail
  rw [← hW1]
  clear hW1 q0 q1 q2
  refine (HFf.out _).mono ?_
  rintro e w2 ⟨rfl, k2⟩
  have HLT : Hid (∀ x ∈ [(w1.heap.size, h.l, 32), (w1.heap.size + 1, [.int .i64 c, .int .i64 d], 24), (w.heap.size + 1, g.l, 32), (w.heap.size, f.l, 32)], x.1 < w2.heap.size) := (HM1.out.below k2).lt
  have HSZ : Hid (w.heap.size ≤ w2.heap.size) := (HM1.out.below k2).2.size
  have HM2 : Hid (Ms [(w2.heap.size, [.int .i64 c0, .int .i64 d0], 24), (w1.heap.size, h.l, 32), (w1.heap.size + 1, [.int .i64 c, .int .i64 d], 24), (w.heap.size + 1, g.l, 32), (w.heap.size, f.l, 32)] w (w2.alloc (.cells #[.int .i64 c0, .int .i64 d0] 24))) := (HM1.out.below k2).new [.int .i64 c0, .int .i64 d0] 24
  obtain ⟨W2, hW2⟩ : ∃ W, W = w2.alloc (.cells #[.int .i64 c0, .int .i64 d0] 24) := ⟨_, rfl⟩
  rw [← hW2] at HM2
  clear k2 HM1
  have v0 : W2.cell? ⟨w2.heap.size, 0, none⟩ = some (.int .i64 c0) := (HM2.out.1 _ (.head _)).cell 0
  rw [hW2] at v0
  rcases ffault_code HF0.out with ⟨rfl, rfl⟩ | hc0
  · have q0 : W2.cell? ⟨w.heap.size + 1, 0, none⟩ = some (.int .i64 g.a) := (HM2.out.1 _ (.tail _ (.tail _ (.tail _ (.head _))))).cell 0
    have q1 : W2.cell? ⟨w.heap.size + 1, 1, none⟩ = some (.int .i64 g.b) := (HM2.out.1 _ (.tail _ (.tail _ (.tail _ (.head _))))).cell 1
    have q2 : W2.cell? ⟨w.heap.size + 1, 2, none⟩ = some (.int .i64 g.c) := (HM2.out.1 _ (.tail _ (.tail _ (.tail _ (.head _))))).cell 2
    rw [hW2] at q0 q1 q2
    go_wp2_with fail
    rw [← hW2]
    clear hW2 q0 q1 q2 v0
    refine (HFg.out _).mono ?_
    rintro e w3 ⟨rfl, k3⟩
    have HM3 : Hid (Ms [(w2.heap.size, [.int .i64 0, .int .i64 0], 24), (w1.heap.size, h.l, 32), (w1.heap.size + 1, [.int .i64 c, .int .i64 d], 24), (w.heap.size + 1, g.l, 32), (w.heap.size, f.l, 32)] w w3) := HM2.out.below k3
    have y0 := (HM3.out.1 _ (.head _)).cell 0
    have y1 := (HM3.out.1 _ (.head _)).cell 1
    have y2 := (HM3.out.1 _ (.head _)).frozen 0
    have y3 := (HM3.out.1 _ (.head _)).frozen 1
    have y4 : w2.heap.size < w3.heap.size := (HM3.out.1 _ (.head _)).lt
    simp at y0 y1
    clear k3 HM2
    have HM3b : Hid (Ms [(w2.heap.size, [.int .i64 c1, .int .i64 d1], 24), (w1.heap.size, h.l, 32), (w1.heap.size + 1, [.int .i64 c, .int .i64 d], 24), (w.heap.size + 1, g.l, 32), (w.heap.size, f.l, 32)] w ((w3.setCell ⟨w2.heap.size, 0, none⟩ (.int .i64 c1)).setCell ⟨w2.heap.size, 1, none⟩ (.int .i64 d1))) :=
      (HM3.out.mono (l' := [(w1.heap.size, h.l, 32), (w1.heap.size + 1, [.int .i64 c, .int .i64 d], 24), (w.heap.size + 1, g.l, 32), (w.heap.size, f.l, 32)]) (fun x hx => .tail _ hx)).set2 (HM3.out.1 _ (.head _)) (fun x hx => by have := HLT.out x hx; omega) HSZ.out (.int .i64 c1) (.int .i64 d1)
    obtain ⟨W3, hW3⟩ : ∃ W, W = (w3.setCell ⟨w2.heap.size, 0, none⟩ (.int .i64 c1)).setCell ⟨w2.heap.size, 1, none⟩ (.int .i64 d1) := ⟨_, rfl⟩
    rw [← hW3] at HM3b
    go_wp2_with fail
    rw [← hW3]
    clear hW3 y0 y1 y2 y3 y4 HM3
    rcases ffault_code HF1.out with ⟨rfl, rfl⟩ | hc1
    · obtain ⟨hfu, _, hfd, _⟩ := ffault_ok HF0.out
      obtain ⟨hgu, _, hgd, _⟩ := ffault_ok HF1.out
      obtain ⟨D, hD⟩ : ∃ D, D = f.disc := ⟨_, rfl⟩
      obtain ⟨D2, hD2⟩ : ∃ D, D = g.disc := ⟨_, rfl⟩
      have HDD : Hid (D = f.disc ∧ D2 = g.disc) := ⟨hD, hD2⟩
      have HDf : Hid (∀ w, Calls Try.prog 15 #[f.v] w fun e w' => e = .returned (.int .i64 D) ∧ Below w.heap.size w w') := fun w => by rw [hD]; exact refDisc_any f w hfu
      have HDg : Hid (∀ w, Calls Try.prog 15 #[g.v] w fun e w' => e = .returned (.int .i64 D2) ∧ Below w.heap.size w w') := fun w => by rw [hD2]; exact refDisc_any g w hgu
      have HFD : Hid (f.disc < 0) := hfd
      unfold Qf.v at HDf HDg
      clear hfu hfd hgu hgd hD hD2
      by_cases hDE : D = D2
      · subst hDE
        have hne : (D != D) = false := by simp
        obtain ⟨rfl, rfl⟩ : c = 0 ∧ d = 0 := by
          have h3 := compF_ok HF0.out HF1.out (by rw [← HDD.out.1, HDD.out.2])
          have h4 := HCD.out
          rw [h3] at h4
          simp at h4
          omega
        obtain ⟨hcz, hhf⟩ := HCO.out.good HCD.out
        have HCZ : Hid (MQ.Cz f g h ∧ True) := ⟨hcz, trivial⟩
        have hhu := cz_big (ffault_ok HF0.out).1 HFD.out hcz
        have HRh : Hid (∀ w, Calls Try.prog 16 #[h.v] w fun e w' => e = .returned (.bool true) ∧ Below w.heap.size w w') := fun w => by
          have k := refReduced_any h w hhu.1
          rw [hcz.red] at k
          exact k
        have HDh : Hid (∀ w, Calls Try.prog 15 #[h.v] w fun e w' => e = .returned (.int .i64 D) ∧ Below w.heap.size w w') := fun w => by
          have k := refDisc_mid h w hhu.2.1 hhu.2.2.1 hhu.2.2.2
          rw [hcz.disc, ← HDD.out.1] at k
          exact k
        unfold Qf.v at HRh HDh
        clear hcz hhf hhu
        have N3 := HM3b.out.below ((Below.refl W3.heap.size W3).drew)
        refine wp_region_G (S10m f g h 0 w.heap.size w1.heap.size w2.heap.size) 9 (by kernel_rfl) ⟨s9m_of N3, (N3.1 _ (.head _)).cell 0⟩ (fun hHeld => ?_)
        refine wpAnyG_take (i := 0) (v := ?v0x1) rfl (by kernel_rfl) (fun _ _ _ h => h) (Or.inl ⟨by rfl, ?y0x1⟩) hHeld ?r0x1
        case y0x1 => (intro wS hSw; obtain ⟨⟨s1, s2, s3, s4, s5, s6, s7, s8, s9⟩, s10⟩ := hSw; go_simp; try with_reducible rfl)
        try simp only [Act.put, List.setIfInBounds_toArray, List.set_cons_zero, List.set_cons_succ]
        refine wpAnyG_take (i := 1) (v := ?v1x2) rfl (by kernel_rfl) (fun _ _ _ h => h) (Or.inl ⟨by rfl, ?y1x2⟩) hHeld ?r1x2
        case y1x2 => (intro wS hSw; obtain ⟨⟨s1, s2, s3, s4, s5, s6, s7, s8, s9⟩, s10⟩ := hSw; go_simp; try with_reducible rfl)
        try simp only [Act.put, List.setIfInBounds_toArray, List.set_cons_zero, List.set_cons_succ]
        refine wpAnyG_take (i := 2) (v := .bool true) rfl (by kernel_rfl) (fun _ _ _ h => h) (Or.inl ⟨by kernel_rfl, ?y2x3⟩) hHeld ?r2x3
        case y2x3 => (intro wS hSw; (go_simp; try rfl))
        try simp only [Act.put, List.setIfInBounds_toArray, List.set_cons_zero, List.set_cons_succ]
        refine wpAnyG_take (i := 3) (v := .bool true) rfl (by kernel_rfl) (fun _ _ _ h => h) (Or.inl ⟨by kernel_rfl, ?y3x4⟩) hHeld ?r3x4
        case y3x4 => (intro wS hSw; (go_simp; try rfl))
        try simp only [Act.put, List.setIfInBounds_toArray, List.set_cons_zero, List.set_cons_succ]
        refine wpAnyG_take (i := 4) (v := ?v4x5) rfl (by kernel_rfl) (fun _ _ _ h => h) (Or.inl ⟨by kernel_rfl, ?y4x5⟩) hHeld ?r4x5
        case y4x5 => (intro wS hSw; have s1 := hSw; go_simp; try with_reducible rfl)
        try simp only [Act.put, List.setIfInBounds_toArray, List.set_cons_zero, List.set_cons_succ]
        refine wpAnyG_take (i := 6) (v := ?v6x6) rfl (by kernel_rfl) (fun _ _ _ h => h) (Or.inl ⟨by kernel_rfl, ?y6x6⟩) hHeld ?r6x6
        case y6x6 => (intro wS hSw; have s1 := hSw; go_simp; try with_reducible rfl)
        try simp only [Act.put, List.setIfInBounds_toArray, List.set_cons_zero, List.set_cons_succ]
        refine wpAnyG_one (i := 5) rfl (by kernel_rfl) (fun K hK => ?_)
        rw [if_pos (by kernel_rfl)]
        go_simp
        refine (HDf.out _).mono ?_
        rintro e ua ⟨rfl, ka⟩
        have N4 := N3.below ka
        refine hK.out _ _ ⟨s9m_of N4, (N4.1 _ (.head _)).cell 0⟩ ?_
        clear hK K
        try simp only [Act.put, List.setIfInBounds_toArray, List.set_cons_zero, List.set_cons_succ]
        refine wpAnyG_one (i := 7) rfl (by kernel_rfl) (fun K hK => ?_)
        rw [if_pos (by kernel_rfl)]
        go_simp
        refine (HDg.out _).mono ?_
        rintro e ub ⟨rfl, kb⟩
        have N5 := N4.below kb
        refine hK.out _ _ ⟨s9m_of N5, (N5.1 _ (.head _)).cell 0⟩ ?_
        clear hK K
        try simp only [Act.put, List.setIfInBounds_toArray, List.set_cons_zero, List.set_cons_succ]
        clear hHeld
        have hHeld : S10m f g h 0 w.heap.size w1.heap.size w2.heap.size ub := ⟨s9m_of N5, (N5.1 _ (.head _)).cell 0⟩
        refine wpAnyG_take (i := 8) (v := .bool false) rfl (by kernel_rfl) (fun _ _ _ h => h) (Or.inl ⟨by kernel_rfl, ?y8x7⟩) hHeld ?r8x7
        case y8x7 => (intro wS hSw; (go_simp; try simp only [hne]))
        try simp only [Act.put, List.setIfInBounds_toArray, List.set_cons_zero, List.set_cons_succ]
        refine wpAnyG_last (i := 9) rfl (by kernel_rfl) (by kernel_rfl) (fun K hK => ?_)
        go_simp
        refine hK.out _ _ ?_
        clear hK K
        try simp only [Act.put, List.setIfInBounds_toArray, List.set_cons_zero, List.set_cons_succ]
        refine wpAnyG_done (by kernel_rfl) ?_ _
        have HM4 : Hid (Ms [(w2.heap.size, [.int .i64 0, .int .i64 0], 24), (w1.heap.size, h.l, 32), (w1.heap.size + 1, [.int .i64 0, .int .i64 0], 24), (w.heap.size + 1, g.l, 32), (w.heap.size, f.l, 32)] w ub) := N5
        clear hHeld N3 N4 N5 ka kb HM3b
        go_wp2_with fail
        refine (HG.out.begun _ (HG.out.keep _ _ HBG.out HM4.out.2)).mono ?_
        rintro e w5 ⟨rfl, k5⟩
        have HM5 : Hid (Ms [(w2.heap.size, [.int .i64 0, .int .i64 0], 24), (w1.heap.size, h.l, 32), (w1.heap.size + 1, [.int .i64 0, .int .i64 0], 24), (w.heap.size + 1, g.l, 32), (w.heap.size, f.l, 32)] w w5) := HM4.out.below k5
        have p0 := (HM5.out.1 _ (.head _)).cell 0
        have p1 := (HM5.out.1 _ (.head _)).cell 1
        have p2 := (HM5.out.1 _ (.tail _ (.tail _ (.head _)))).cell 0
        have p3 := (HM5.out.1 _ (.tail _ (.tail _ (.head _)))).cell 1
        have p4 := (HM5.out.1 _ (.tail _ (.tail _ (.tail _ (.tail _ (.head _)))))).cell 0
        have p5 := (HM5.out.1 _ (.tail _ (.tail _ (.tail _ (.tail _ (.head _)))))).cell 1
        have p6 := (HM5.out.1 _ (.tail _ (.tail _ (.tail _ (.tail _ (.head _)))))).cell 2
        simp at p0 p1 p2 p3 p4 p5 p6
        clear k5 HM4
        go_wp2_with fail
        refine (HDf.out _).mono ?_
        rintro e w6 ⟨rfl, k6⟩
        have HM6 : Hid (Ms [(w2.heap.size, [.int .i64 0, .int .i64 0], 24), (w1.heap.size, h.l, 32), (w1.heap.size + 1, [.int .i64 0, .int .i64 0], 24), (w.heap.size + 1, g.l, 32), (w.heap.size, f.l, 32)] w w6) := HM5.out.below k6
        clear k6 HM5 p0 p1 p2 p3 p4 p5 p6
        by_cases hlow : D < -20000
        · have hlb : decide (D < -20000) = true := decide_eq_true hlow
          go_wp2_with fail
          have N3 := HM6.out.below ((Below.refl w6.heap.size w6).drew)
          refine wp_region_G (S9m f g h w.heap.size w1.heap.size) 9 (by kernel_rfl) (s9m_of N3) (fun hHeld => ?_)
          refine wpAnyG_take (i := 0) (v := ?v0x8) rfl (by kernel_rfl) (fun _ _ _ h => h) (Or.inl ⟨by rfl, ?y0x8⟩) hHeld ?r0x8
          case y0x8 => (intro wS hSw; obtain ⟨s1, s2, s3, s4, s5, s6, s7, s8, s9⟩ := hSw; go_simp; try with_reducible rfl)
          try simp only [Act.put, List.setIfInBounds_toArray, List.set_cons_zero, List.set_cons_succ]
          refine wpAnyG_one (i := 1) rfl (by kernel_rfl) (fun K hK => ?_)
          go_simp
          refine (HRh.out _).mono ?_
          rintro e ua ⟨rfl, ka⟩
          have N4 := N3.below ka
          refine hK.out _ _ (s9m_of N4) ?_
          clear hK K
          try simp only [Act.put, List.setIfInBounds_toArray, List.set_cons_zero, List.set_cons_succ]
          clear hHeld
          have hHeld : S9m f g h w.heap.size w1.heap.size ua := s9m_of N4
          refine wpAnyG_take (i := 2) (v := .bool true) rfl (by kernel_rfl) (fun _ _ _ h => h) (Or.inl ⟨by kernel_rfl, ?y2x9⟩) hHeld ?r2x9
          case y2x9 => (intro wS hSw; (go_simp; try rfl))
          try simp only [Act.put, List.setIfInBounds_toArray, List.set_cons_zero, List.set_cons_succ]
          refine wpAnyG_take (i := 3) (v := ?v3x10) rfl (by kernel_rfl) (fun _ _ _ h => h) (Or.inl ⟨by kernel_rfl, ?y3x10⟩) hHeld ?r3x10
          case y3x10 => (intro wS hSw; have s1 := hSw; go_simp; try with_reducible rfl)
          try simp only [Act.put, List.setIfInBounds_toArray, List.set_cons_zero, List.set_cons_succ]
          refine wpAnyG_take (i := 5) (v := ?v5x11) rfl (by kernel_rfl) (fun _ _ _ h => h) (Or.inl ⟨by kernel_rfl, ?y5x11⟩) hHeld ?r5x11
          case y5x11 => (intro wS hSw; have s1 := hSw; go_simp; try with_reducible rfl)
          try simp only [Act.put, List.setIfInBounds_toArray, List.set_cons_zero, List.set_cons_succ]
          refine wpAnyG_one (i := 4) rfl (by kernel_rfl) (fun K hK => ?_)
          rw [if_pos (by kernel_rfl)]
          go_simp
          refine (HDh.out _).mono ?_
          rintro e ub ⟨rfl, kb⟩
          have N5 := N4.below kb
          refine hK.out _ _ (s9m_of N5) ?_
          clear hK K
          try simp only [Act.put, List.setIfInBounds_toArray, List.set_cons_zero, List.set_cons_succ]
          refine wpAnyG_one (i := 6) rfl (by kernel_rfl) (fun K hK => ?_)
          rw [if_pos (by kernel_rfl)]
          go_simp
          refine (HDf.out _).mono ?_
          rintro e uc ⟨rfl, kc⟩
          have N6 := N5.below kc
          refine hK.out _ _ (s9m_of N6) ?_
          clear hK K
          try simp only [Act.put, List.setIfInBounds_toArray, List.set_cons_zero, List.set_cons_succ]
          clear hHeld
          have hHeld : S9m f g h w.heap.size w1.heap.size uc := s9m_of N6
          refine wpAnyG_take (i := 7) (v := .bool true) rfl (by kernel_rfl) (fun _ _ _ h => h) (Or.inl ⟨by kernel_rfl, ?y7x12⟩) hHeld ?r7x12
          case y7x12 => (intro wS hSw; (go_simp; try simp))
          try simp only [Act.put, List.setIfInBounds_toArray, List.set_cons_zero, List.set_cons_succ]
          refine wpAnyG_take (i := 8) (v := .bool true) rfl (by kernel_rfl) (fun _ _ _ h => h) (Or.inl ⟨by kernel_rfl, ?y8x13⟩) hHeld ?r8x13
          case y8x13 => (intro wS hSw; (go_simp; try rfl))
          try simp only [Act.put, List.setIfInBounds_toArray, List.set_cons_zero, List.set_cons_succ]
          refine wpAnyG_last (i := 9) rfl (by kernel_rfl) (by kernel_rfl) (fun K hK => ?_)
          go_simp
          refine hK.out _ _ ?_
          clear hK K
          try simp only [Act.put, List.setIfInBounds_toArray, List.set_cons_zero, List.set_cons_succ]
          refine wpAnyG_done (by kernel_rfl) ?_ _
          have HKe : Hid (Below w.heap.size w uc) := N6.2
          clear hHeld N3 N4 N5 N6 ka kb kc HM6
          go_wp2_with fail
          go_ret
          exact ⟨rfl, HKe.out⟩
        · have hlb : decide (D < -20000) = false := decide_eq_false hlow
          have HRf : Hid (∀ w, Calls Try.prog 18 #[f.v] w fun e w' => ∃ (z : Qf) (m : Mt), e = .returned z.v ∧ Rd f z m ∧ Below w.heap.size w w') := fun w => by
            refine (ReducedOf_any f w HF0.out).mono ?_
            rintro e w' ⟨⟨z, m, k1, k2⟩, k⟩
            exact ⟨z, m, k1, k2, k⟩
          have HRg : Hid (∀ w, Calls Try.prog 18 #[g.v] w fun e w' => ∃ (z : Qf) (m : Mt), e = .returned z.v ∧ Rd g z m ∧ Below w.heap.size w w') := fun w => by
            refine (ReducedOf_any g w HF1.out).mono ?_
            rintro e w' ⟨⟨z, m, k1, k2⟩, k⟩
            exact ⟨z, m, k1, k2, k⟩
          have HCm : Hid (∀ (f' g' : Qf) (m m' : Mt), Rd f f' m → Rd g g' m' → ∀ w, Calls Try.prog 17 #[f'.v, g'.v] w fun e w' => e = .returned h.v ∧ Below w.heap.size w w') := fun f' g' m m' k1 k2 w => by
            have hd : f.disc = g.disc := by rw [← HDD.out.1]; exact HDD.out.2
            have hlo : -20000 ≤ f.disc := by rw [← HDD.out.1]; omega
            refine (Composed_any f' g' f.disc w (cin_of HF0.out HF1.out k1 k2 hd hlo)).mono ?_
            rintro e w' ⟨⟨r, rfl, hr⟩, k⟩
            obtain ⟨_, a1, _, _⟩ := ffault_ok HF0.out
            obtain ⟨_, a2, _, _⟩ := ffault_ok HF1.out
            have a3 := (k1.upto HF0.out).2.1
            have a4 := (k2.upto HF1.out).2.1
            have hr2 : MQ.Cz f g r := MQ.Cz.like (by omega) (by omega) (by omega) (by omega) HFD.out hd.symm k1.disc (by rw [k2.disc, hd]) (MQ.Lk.of k1) (MQ.Lk.of k2) hr
            rw [MQ.Cz.one HFD.out HCZ.out.1 hr2]
            exact ⟨rfl, k⟩
          unfold Qf.v at HRf HRg HCm
          go_wp2_with fail
          have N3 := HM6.out.below ((Below.refl w6.heap.size w6).drew)
          refine wp_region_G (S9m f g h w.heap.size w1.heap.size) 7 (by kernel_rfl) (s9m_of N3) (fun hHeld => ?_)
          refine wpAnyG_take (i := 0) (v := ?v0x14) rfl (by kernel_rfl) (fun _ _ _ h => h) (Or.inl ⟨by rfl, ?y0x14⟩) hHeld ?r0x14
          case y0x14 => (intro wS hSw; obtain ⟨s1, s2, s3, s4, s5, s6, s7, s8, s9⟩ := hSw; go_simp; try with_reducible rfl)
          try simp only [Act.put, List.setIfInBounds_toArray, List.set_cons_zero, List.set_cons_succ]
          refine wpAnyG_take (i := 1) (v := ?v1x15) rfl (by kernel_rfl) (fun _ _ _ h => h) (Or.inl ⟨by rfl, ?y1x15⟩) hHeld ?r1x15
          case y1x15 => (intro wS hSw; obtain ⟨s1, s2, s3, s4, s5, s6, s7, s8, s9⟩ := hSw; go_simp; try with_reducible rfl)
          try simp only [Act.put, List.setIfInBounds_toArray, List.set_cons_zero, List.set_cons_succ]
          refine wpAnyG_take (i := 3) (v := ?v3x16) rfl (by kernel_rfl) (fun _ _ _ h => h) (Or.inl ⟨by rfl, ?y3x16⟩) hHeld ?r3x16
          case y3x16 => (intro wS hSw; obtain ⟨s1, s2, s3, s4, s5, s6, s7, s8, s9⟩ := hSw; go_simp; try with_reducible rfl)
          try simp only [Act.put, List.setIfInBounds_toArray, List.set_cons_zero, List.set_cons_succ]
          refine wpAnyG_one (i := 2) rfl (by kernel_rfl) (fun K hK => ?_)
          go_simp
          refine (HRf.out _).mono ?_
          rintro e ua ⟨f', m, rfl, k1, ka⟩
          have N4 := N3.below ka
          refine hK.out _ _ (s9m_of N4) ?_
          clear hK K
          try simp only [Act.put, List.setIfInBounds_toArray, List.set_cons_zero, List.set_cons_succ]
          refine wpAnyG_one (i := 4) rfl (by kernel_rfl) (fun K hK => ?_)
          go_simp
          refine (HRg.out _).mono ?_
          rintro e ub ⟨g', m', rfl, k2, kb⟩
          have N5 := N4.below kb
          refine hK.out _ _ (s9m_of N5) ?_
          clear hK K
          try simp only [Act.put, List.setIfInBounds_toArray, List.set_cons_zero, List.set_cons_succ]
          refine wpAnyG_one (i := 5) rfl (by kernel_rfl) (fun K hK => ?_)
          go_simp
          refine (HCm.out f' g' m m' k1 k2 _).mono ?_
          rintro e uc ⟨rfl, kc⟩
          have N6 := N5.below kc
          refine hK.out _ _ (s9m_of N6) ?_
          clear hK K
          try simp only [Act.put, List.setIfInBounds_toArray, List.set_cons_zero, List.set_cons_succ]
          clear hHeld
          have hHeld : S9m f g h w.heap.size w1.heap.size uc := s9m_of N6
          refine wpAnyG_take (i := 6) (v := .bool true) rfl (by kernel_rfl) (fun _ _ _ h => h) (Or.inl ⟨by kernel_rfl, ?y6x17⟩) hHeld ?r6x17
          case y6x17 => (intro wS hSw; (go_simp; try simp))
          try simp only [Act.put, List.setIfInBounds_toArray, List.set_cons_zero, List.set_cons_succ]
          refine wpAnyG_last (i := 7) rfl (by kernel_rfl) (by kernel_rfl) (fun K hK => ?_)
          go_simp
          refine hK.out _ _ ?_
          clear hK K
          try simp only [Act.put, List.setIfInBounds_toArray, List.set_cons_zero, List.set_cons_succ]
          refine wpAnyG_done (by kernel_rfl) ?_ _
          have HKe : Hid (Below w.heap.size w uc) := N6.2
          clear hHeld N3 N4 N5 N6 ka kb kc HM6
          go_wp2_with fail
          go_ret
          exact ⟨rfl, HKe.out⟩
      · have hne : (D != D2) = true := by simpa using hDE
        obtain ⟨rfl, rfl⟩ : c = 8 ∧ d = 1 := by
          have h4 := HCD.out
          unfold compF at h4
          rw [HF0.out, HF1.out, if_neg (by simp), if_neg (by simp), if_pos (by rw [← HDD.out.1, ← HDD.out.2]; exact hDE)] at h4
          simp at h4
          omega
        obtain rfl : h = ⟨0, 0, 0⟩ := HCO.out.bad (by rw [HCD.out]; simp)
        have N3 := HM3b.out.below ((Below.refl W3.heap.size W3).drew)
        refine wp_region_G (S10m f g ⟨0, 0, 0⟩ 0 w.heap.size w1.heap.size w2.heap.size) 9 (by kernel_rfl) ⟨s9m_of N3, (N3.1 _ (.head _)).cell 0⟩ (fun hHeld => ?_)
        refine wpAnyG_take (i := 0) (v := ?v0x18) rfl (by kernel_rfl) (fun _ _ _ h => h) (Or.inl ⟨by rfl, ?y0x18⟩) hHeld ?r0x18
        case y0x18 => (intro wS hSw; obtain ⟨⟨s1, s2, s3, s4, s5, s6, s7, s8, s9⟩, s10⟩ := hSw; go_simp; try with_reducible rfl)
        try simp only [Act.put, List.setIfInBounds_toArray, List.set_cons_zero, List.set_cons_succ]
        refine wpAnyG_take (i := 1) (v := ?v1x19) rfl (by kernel_rfl) (fun _ _ _ h => h) (Or.inl ⟨by rfl, ?y1x19⟩) hHeld ?r1x19
        case y1x19 => (intro wS hSw; obtain ⟨⟨s1, s2, s3, s4, s5, s6, s7, s8, s9⟩, s10⟩ := hSw; go_simp; try with_reducible rfl)
        try simp only [Act.put, List.setIfInBounds_toArray, List.set_cons_zero, List.set_cons_succ]
        refine wpAnyG_take (i := 2) (v := .bool true) rfl (by kernel_rfl) (fun _ _ _ h => h) (Or.inl ⟨by kernel_rfl, ?y2x20⟩) hHeld ?r2x20
        case y2x20 => (intro wS hSw; (go_simp; try rfl))
        try simp only [Act.put, List.setIfInBounds_toArray, List.set_cons_zero, List.set_cons_succ]
        refine wpAnyG_take (i := 3) (v := .bool true) rfl (by kernel_rfl) (fun _ _ _ h => h) (Or.inl ⟨by kernel_rfl, ?y3x21⟩) hHeld ?r3x21
        case y3x21 => (intro wS hSw; (go_simp; try rfl))
        try simp only [Act.put, List.setIfInBounds_toArray, List.set_cons_zero, List.set_cons_succ]
        refine wpAnyG_take (i := 4) (v := ?v4x22) rfl (by kernel_rfl) (fun _ _ _ h => h) (Or.inl ⟨by kernel_rfl, ?y4x22⟩) hHeld ?r4x22
        case y4x22 => (intro wS hSw; have s1 := hSw; go_simp; try with_reducible rfl)
        try simp only [Act.put, List.setIfInBounds_toArray, List.set_cons_zero, List.set_cons_succ]
        refine wpAnyG_take (i := 6) (v := ?v6x23) rfl (by kernel_rfl) (fun _ _ _ h => h) (Or.inl ⟨by kernel_rfl, ?y6x23⟩) hHeld ?r6x23
        case y6x23 => (intro wS hSw; have s1 := hSw; go_simp; try with_reducible rfl)
        try simp only [Act.put, List.setIfInBounds_toArray, List.set_cons_zero, List.set_cons_succ]
        refine wpAnyG_one (i := 5) rfl (by kernel_rfl) (fun K hK => ?_)
        rw [if_pos (by kernel_rfl)]
        go_simp
        refine (HDf.out _).mono ?_
        rintro e ua ⟨rfl, ka⟩
        have N4 := N3.below ka
        refine hK.out _ _ ⟨s9m_of N4, (N4.1 _ (.head _)).cell 0⟩ ?_
        clear hK K
        try simp only [Act.put, List.setIfInBounds_toArray, List.set_cons_zero, List.set_cons_succ]
        refine wpAnyG_one (i := 7) rfl (by kernel_rfl) (fun K hK => ?_)
        rw [if_pos (by kernel_rfl)]
        go_simp
        refine (HDg.out _).mono ?_
        rintro e ub ⟨rfl, kb⟩
        have N5 := N4.below kb
        refine hK.out _ _ ⟨s9m_of N5, (N5.1 _ (.head _)).cell 0⟩ ?_
        clear hK K
        try simp only [Act.put, List.setIfInBounds_toArray, List.set_cons_zero, List.set_cons_succ]
        clear hHeld
        have hHeld : S10m f g ⟨0, 0, 0⟩ 0 w.heap.size w1.heap.size w2.heap.size ub := ⟨s9m_of N5, (N5.1 _ (.head _)).cell 0⟩
        refine wpAnyG_take (i := 8) (v := .bool true) rfl (by kernel_rfl) (fun _ _ _ h => h) (Or.inl ⟨by kernel_rfl, ?y8x24⟩) hHeld ?r8x24
        case y8x24 => (intro wS hSw; (go_simp; try simp only [hne]))
        try simp only [Act.put, List.setIfInBounds_toArray, List.set_cons_zero, List.set_cons_succ]
        refine wpAnyG_last (i := 9) rfl (by kernel_rfl) (by kernel_rfl) (fun K hK => ?_)
        go_simp
        refine hK.out _ _ ?_
        clear hK K
        try simp only [Act.put, List.setIfInBounds_toArray, List.set_cons_zero, List.set_cons_succ]
        refine wpAnyG_done (by kernel_rfl) ?_ _
        have HM4 : Hid (Ms [(w2.heap.size, [.int .i64 0, .int .i64 0], 24), (w1.heap.size, Qf.l ⟨0, 0, 0⟩, 32), (w1.heap.size + 1, [.int .i64 8, .int .i64 1], 24), (w.heap.size + 1, g.l, 32), (w.heap.size, f.l, 32)] w ub) := N5
        clear hHeld N3 N4 N5 ka kb HM3b
        go_wp2_with fail
        refine (F_any 8 1 _).mono ?_
        rintro e w4 ⟨rfl, k4⟩
        have HM5 : Hid (Ms [(w2.heap.size, [.int .i64 0, .int .i64 0], 24), (w1.heap.size, Qf.l ⟨0, 0, 0⟩, 32), (w1.heap.size + 1, [.int .i64 8, .int .i64 1], 24), (w.heap.size + 1, g.l, 32), (w.heap.size, f.l, 32)] w w4) := HM4.out.below k4
        have y0 := (HM5.out.1 _ (.head _)).cell 0
        have y1 := (HM5.out.1 _ (.head _)).cell 1
        have y2 := (HM5.out.1 _ (.head _)).frozen 0
        have y3 := (HM5.out.1 _ (.head _)).frozen 1
        have y4 : w2.heap.size < w4.heap.size := (HM5.out.1 _ (.head _)).lt
        simp at y0 y1
        clear k4 HM4
        have HM6 : Hid (Ms [(w2.heap.size, [.int .i64 8, .int .i64 1], 24), (w1.heap.size, Qf.l ⟨0, 0, 0⟩, 32), (w1.heap.size + 1, [.int .i64 8, .int .i64 1], 24), (w.heap.size + 1, g.l, 32), (w.heap.size, f.l, 32)] w ((w4.setCell ⟨w2.heap.size, 0, none⟩ (.int .i64 8)).setCell ⟨w2.heap.size, 1, none⟩ (.int .i64 1))) :=
          (HM5.out.mono (l' := [(w1.heap.size, Qf.l ⟨0, 0, 0⟩, 32), (w1.heap.size + 1, [.int .i64 8, .int .i64 1], 24), (w.heap.size + 1, g.l, 32), (w.heap.size, f.l, 32)]) (fun x hx => .tail _ hx)).set2 (HM5.out.1 _ (.head _)) (fun x hx => by have := HLT.out x hx; omega) HSZ.out (.int .i64 8) (.int .i64 1)
        obtain ⟨W4, hW4⟩ : ∃ W, W = (w4.setCell ⟨w2.heap.size, 0, none⟩ (.int .i64 8)).setCell ⟨w2.heap.size, 1, none⟩ (.int .i64 1) := ⟨_, rfl⟩
        rw [← hW4] at HM6
        go_wp2_with fail
        rw [← hW4]
        clear hW4 y0 y1 y2 y3 y4 HM5
        refine (HG.out.begun _ (HG.out.keep _ _ HBG.out HM6.out.2)).mono ?_
        rintro e w5 ⟨rfl, k5⟩
        have N5 := HM6.out.below k5
        have p0 := (N5.1 _ (.head _)).cell 0
        have p1 := (N5.1 _ (.head _)).cell 1
        have p2 := (N5.1 _ (.tail _ (.tail _ (.head _)))).cell 0
        have p3 := (N5.1 _ (.tail _ (.tail _ (.head _)))).cell 1
        have p4 := (N5.1 _ (.tail _ (.head _))).cell 0
        have p5 := (N5.1 _ (.tail _ (.head _))).cell 1
        have p6 := (N5.1 _ (.tail _ (.head _))).cell 2
        simp at p0 p1 p2 p3 p4 p5 p6
        have HK5 : Hid (Below w.heap.size w w5) := N5.2
        clear N5 k5 HM6
        go_wp2_with fail
        go_ret
        exact ⟨rfl, HK5.out⟩
    · have hcb : (c1 != 0) = true := by simpa using hc1
      have hce : (c1 == 0) = false := by simpa using hc1
      obtain ⟨rfl, rfl⟩ : c = c1 ∧ d = d1 := by
        have h4 := HCD.out
        unfold compF at h4
        rw [HF0.out, HF1.out, if_neg (by simp), if_pos (by intro k; exact hc1 (congrArg Prod.fst k))] at h4
        simp at h4
        omega
      obtain rfl : h = ⟨0, 0, 0⟩ := HCO.out.bad (by rw [HCD.out]; intro k; exact hc1 (congrArg Prod.fst k))
      have N3 := HM3b.out.below ((Below.refl W3.heap.size W3).drew)
      refine wp_region_G (S10m f g ⟨0, 0, 0⟩ c w.heap.size w1.heap.size w2.heap.size) 9 (by kernel_rfl) ⟨s9m_of N3, (N3.1 _ (.head _)).cell 0⟩ (fun hHeld => ?_)
      refine wpAnyG_take (i := 0) (v := ?v0x25) rfl (by kernel_rfl) (fun _ _ _ h => h) (Or.inl ⟨by rfl, ?y0x25⟩) hHeld ?r0x25
      case y0x25 => (intro wS hSw; obtain ⟨⟨s1, s2, s3, s4, s5, s6, s7, s8, s9⟩, s10⟩ := hSw; go_simp; try with_reducible rfl)
      try simp only [Act.put, List.setIfInBounds_toArray, List.set_cons_zero, List.set_cons_succ]
      refine wpAnyG_take (i := 1) (v := ?v1x26) rfl (by kernel_rfl) (fun _ _ _ h => h) (Or.inl ⟨by rfl, ?y1x26⟩) hHeld ?r1x26
      case y1x26 => (intro wS hSw; obtain ⟨⟨s1, s2, s3, s4, s5, s6, s7, s8, s9⟩, s10⟩ := hSw; go_simp; try with_reducible rfl)
      try simp only [Act.put, List.setIfInBounds_toArray, List.set_cons_zero, List.set_cons_succ]
      refine wpAnyG_take (i := 2) (v := .bool false) rfl (by kernel_rfl) (fun _ _ _ h => h) (Or.inl ⟨by kernel_rfl, ?y2x27⟩) hHeld ?r2x27
      case y2x27 => (intro wS hSw; (go_simp; try simp only [hce]))
      try simp only [Act.put, List.setIfInBounds_toArray, List.set_cons_zero, List.set_cons_succ]
      refine wpAnyG_take (i := 3) (v := .bool false) rfl (by kernel_rfl) (fun _ _ _ h => h) (Or.inl ⟨by kernel_rfl, ?y3x28⟩) hHeld ?r3x28
      case y3x28 => (intro wS hSw; (go_simp; try rfl))
      try simp only [Act.put, List.setIfInBounds_toArray, List.set_cons_zero, List.set_cons_succ]
      refine wpAnyG_take (i := 4) (v := undef) rfl (by kernel_rfl) (fun _ _ _ h => h) (Or.inr ⟨by kernel_rfl, rfl⟩) hHeld ?_
      try simp only [Act.put, List.setIfInBounds_toArray, List.set_cons_zero, List.set_cons_succ]
      refine wpAnyG_take (i := 5) (v := undef) rfl (by kernel_rfl) (fun _ _ _ h => h) (Or.inr ⟨by kernel_rfl, rfl⟩) hHeld ?_
      try simp only [Act.put, List.setIfInBounds_toArray, List.set_cons_zero, List.set_cons_succ]
      refine wpAnyG_take (i := 6) (v := undef) rfl (by kernel_rfl) (fun _ _ _ h => h) (Or.inr ⟨by kernel_rfl, rfl⟩) hHeld ?_
      try simp only [Act.put, List.setIfInBounds_toArray, List.set_cons_zero, List.set_cons_succ]
      refine wpAnyG_take (i := 7) (v := undef) rfl (by kernel_rfl) (fun _ _ _ h => h) (Or.inr ⟨by kernel_rfl, rfl⟩) hHeld ?_
      try simp only [Act.put, List.setIfInBounds_toArray, List.set_cons_zero, List.set_cons_succ]
      refine wpAnyG_take (i := 8) (v := undef) rfl (by kernel_rfl) (fun _ _ _ h => h) (Or.inr ⟨by kernel_rfl, rfl⟩) hHeld ?_
      try simp only [Act.put, List.setIfInBounds_toArray, List.set_cons_zero, List.set_cons_succ]
      refine wpAnyG_last (i := 9) rfl (by kernel_rfl) (by kernel_rfl) (fun K hK => ?_)
      go_simp
      refine hK.out _ _ ?_
      clear hK K
      try simp only [Act.put, List.setIfInBounds_toArray, List.set_cons_zero, List.set_cons_succ]
      refine wpAnyG_done (by kernel_rfl) ?_ _
      have HM4 : Hid (Ms [(w2.heap.size, [.int .i64 c, .int .i64 d], 24), (w1.heap.size, Qf.l ⟨0, 0, 0⟩, 32), (w1.heap.size + 1, [.int .i64 c, .int .i64 d], 24), (w.heap.size + 1, g.l, 32), (w.heap.size, f.l, 32)] w W3.drew) := N3
      clear hHeld N3 HM3b
      go_wp2_with fail
      refine (HG.out.begun _ (HG.out.keep _ _ HBG.out HM4.out.2)).mono ?_
      rintro e w5 ⟨rfl, k5⟩
      have N5 := HM4.out.below k5
      have p0 := (N5.1 _ (.head _)).cell 0
      have p1 := (N5.1 _ (.head _)).cell 1
      have p2 := (N5.1 _ (.tail _ (.tail _ (.head _)))).cell 0
      have p3 := (N5.1 _ (.tail _ (.tail _ (.head _)))).cell 1
      have p4 := (N5.1 _ (.tail _ (.head _))).cell 0
      have p5 := (N5.1 _ (.tail _ (.head _))).cell 1
      have p6 := (N5.1 _ (.tail _ (.head _))).cell 2
      simp at p0 p1 p2 p3 p4 p5 p6
      have HK5 : Hid (Below w.heap.size w w5) := N5.2
      clear N5 k5 HM4
      go_wp2_with fail
      go_ret
      exact ⟨rfl, HK5.out⟩
  · have hcb : (c0 != 0) = true := by simpa using hc0
    have hce : (c0 == 0) = false := by simpa using hc0
    obtain ⟨rfl, rfl⟩ : c = c0 ∧ d = d0 := by
      have h4 := HCD.out
      unfold compF at h4
      rw [HF0.out, if_pos (by intro k; exact hc0 (congrArg Prod.fst k))] at h4
      simp at h4
      omega
    obtain rfl : h = ⟨0, 0, 0⟩ := HCO.out.bad (by rw [HCD.out]; intro k; exact hc0 (congrArg Prod.fst k))
    go_wp2_with fail
    rw [← hW2]
    clear hW2 v0
    have N3 := HM2.out.below ((Below.refl W2.heap.size W2).drew)
    refine wp_region_G (S10m f g ⟨0, 0, 0⟩ c w.heap.size w1.heap.size w2.heap.size) 9 (by kernel_rfl) ⟨s9m_of N3, (N3.1 _ (.head _)).cell 0⟩ (fun hHeld => ?_)
    refine wpAnyG_take (i := 0) (v := ?v0x29) rfl (by kernel_rfl) (fun _ _ _ h => h) (Or.inl ⟨by rfl, ?y0x29⟩) hHeld ?r0x29
    case y0x29 => (intro wS hSw; obtain ⟨⟨s1, s2, s3, s4, s5, s6, s7, s8, s9⟩, s10⟩ := hSw; go_simp; try with_reducible rfl)
    try simp only [Act.put, List.setIfInBounds_toArray, List.set_cons_zero, List.set_cons_succ]
    refine wpAnyG_take (i := 1) (v := ?v1x30) rfl (by kernel_rfl) (fun _ _ _ h => h) (Or.inl ⟨by rfl, ?y1x30⟩) hHeld ?r1x30
    case y1x30 => (intro wS hSw; obtain ⟨⟨s1, s2, s3, s4, s5, s6, s7, s8, s9⟩, s10⟩ := hSw; go_simp; try with_reducible rfl)
    try simp only [Act.put, List.setIfInBounds_toArray, List.set_cons_zero, List.set_cons_succ]
    refine wpAnyG_take (i := 2) (v := .bool false) rfl (by kernel_rfl) (fun _ _ _ h => h) (Or.inl ⟨by kernel_rfl, ?y2x31⟩) hHeld ?r2x31
    case y2x31 => (intro wS hSw; (go_simp; try simp only [hce]))
    try simp only [Act.put, List.setIfInBounds_toArray, List.set_cons_zero, List.set_cons_succ]
    refine wpAnyG_take (i := 3) (v := .bool false) rfl (by kernel_rfl) (fun _ _ _ h => h) (Or.inl ⟨by kernel_rfl, ?y3x32⟩) hHeld ?r3x32
    case y3x32 => (intro wS hSw; (go_simp; try rfl))
    try simp only [Act.put, List.setIfInBounds_toArray, List.set_cons_zero, List.set_cons_succ]
    refine wpAnyG_take (i := 4) (v := undef) rfl (by kernel_rfl) (fun _ _ _ h => h) (Or.inr ⟨by kernel_rfl, rfl⟩) hHeld ?_
    try simp only [Act.put, List.setIfInBounds_toArray, List.set_cons_zero, List.set_cons_succ]
    refine wpAnyG_take (i := 5) (v := undef) rfl (by kernel_rfl) (fun _ _ _ h => h) (Or.inr ⟨by kernel_rfl, rfl⟩) hHeld ?_
    try simp only [Act.put, List.setIfInBounds_toArray, List.set_cons_zero, List.set_cons_succ]
    refine wpAnyG_take (i := 6) (v := undef) rfl (by kernel_rfl) (fun _ _ _ h => h) (Or.inr ⟨by kernel_rfl, rfl⟩) hHeld ?_
    try simp only [Act.put, List.setIfInBounds_toArray, List.set_cons_zero, List.set_cons_succ]
    refine wpAnyG_take (i := 7) (v := undef) rfl (by kernel_rfl) (fun _ _ _ h => h) (Or.inr ⟨by kernel_rfl, rfl⟩) hHeld ?_
    try simp only [Act.put, List.setIfInBounds_toArray, List.set_cons_zero, List.set_cons_succ]
    refine wpAnyG_take (i := 8) (v := undef) rfl (by kernel_rfl) (fun _ _ _ h => h) (Or.inr ⟨by kernel_rfl, rfl⟩) hHeld ?_
    try simp only [Act.put, List.setIfInBounds_toArray, List.set_cons_zero, List.set_cons_succ]
    refine wpAnyG_last (i := 9) rfl (by kernel_rfl) (by kernel_rfl) (fun K hK => ?_)
    go_simp
    refine hK.out _ _ ?_
    clear hK K
    try simp only [Act.put, List.setIfInBounds_toArray, List.set_cons_zero, List.set_cons_succ]
    refine wpAnyG_done (by kernel_rfl) ?_ _
    have HM4 : Hid (Ms [(w2.heap.size, [.int .i64 c, .int .i64 d], 24), (w1.heap.size, Qf.l ⟨0, 0, 0⟩, 32), (w1.heap.size + 1, [.int .i64 c, .int .i64 d], 24), (w.heap.size + 1, g.l, 32), (w.heap.size, f.l, 32)] w W2.drew) := N3
    clear hHeld N3 HM2
    go_wp2_with fail
    refine (HG.out.begun _ (HG.out.keep _ _ HBG.out HM4.out.2)).mono ?_
    rintro e w5 ⟨rfl, k5⟩
    have N5 := HM4.out.below k5
    have p0 := (N5.1 _ (.head _)).cell 0
    have p1 := (N5.1 _ (.head _)).cell 1
    have p2 := (N5.1 _ (.tail _ (.tail _ (.head _)))).cell 0
    have p3 := (N5.1 _ (.tail _ (.tail _ (.head _)))).cell 1
    have p4 := (N5.1 _ (.tail _ (.head _))).cell 0
    have p5 := (N5.1 _ (.tail _ (.head _))).cell 1
    have p6 := (N5.1 _ (.tail _ (.head _))).cell 2
    simp at p0 p1 p2 p3 p4 p5 p6
    have HK5 : Hid (Below w.heap.size w w5) := N5.2
    clear N5 k5 HM4
    go_wp2_with fail
    go_ret
    exact ⟨rfl, HK5.out⟩

end Go.Proofs.Ytijkanilpblogae
end
