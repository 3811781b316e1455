/- Markov: equation.eachNeighbour and the visit of a triple. -/
import Derived.Test.YtcbepaionliepaaMkB
import Derived.BigRegion
set_option linter.unusedSimpArgs false
set_option linter.unusedVariables false
set_option maxRecDepth 100000
namespace Go.Proofs.Ytcbepaionliepaa
open Go.RowKit Go.Maps Go.Sort

/-- What a visit does, where at least L have been visited. -/
def VisP (bs bl bm bv bM most L : Nat) : Prop := ∀ (S : List T3) (t : T3) (rb : Option Nat) (W : World), L ≤ S.length → Mv bs bl bm bv bM most S rb W → t ∈ MV.tab → MV.tz t ≤ most →
  Calls Try.prog 47 #[tv3 t, .pointer (some ⟨bs, 0, none⟩), .pointer (some ⟨bl, 0, none⟩), .pointer (some ⟨bm, 0, none⟩), .pointer (some ⟨bv, 0, none⟩)] W fun e w' => (∃ v, e = .returned v) ∧ ∃ (S' : List T3) (rb' : Option Nat), Mv bs bl bm bv bM most S' rb' w' ∧ MV.Df most S S' ∧ t ∈ S' ∧ Fr bl bM rb W w' ∧ Nr rb rb' W

/-- Where eachNeighbour stands. -/
structure En (bs bl bm bv bM most bT : Nat) (S : List T3) (t : T3) (rb : Option Nat) (W : World) (i : Nat) (S' : List T3) (rb' : Option Nat) (wx : World) : Prop where
  mv : Mv bs bl bm bv bM most S' rb' wx
  df : MV.Df most S S'
  nb : ∀ j, j < i → MV.okN most t j = true → MV.nbr t j ∈ S'
  fr : Fr bl bM rb W wx
  nr : Nr rb rb' W
  bx : Cl bT (tl3 t) 42 wx
  rn : rb' ≠ some bT
theorem En.skip {bs bl bm bv bM most bT i : Nat} {S S' : List T3} {t : T3} {rb rb' : Option Nat} {W wx : World} (h : En bs bl bm bv bM most bT S t rb W i S' rb' wx) (hn : MV.okN most t i = false) : En bs bl bm bv bM most bT S t rb W (i + 1) S' rb' wx :=
  ⟨h.mv, h.df, fun j hj ho => by
    by_cases e : j = i
    · subst e; rw [hn] at ho; cases ho
    · exact h.nb j (by omega) ho, h.fr, h.nr, h.bx, h.rn⟩
theorem En.keep {bs bl bm bv bM most bT i : Nat} {S S' : List T3} {t : T3} {rb rb' : Option Nat} {W wx wy : World} (h : En bs bl bm bv bM most bT S t rb W i S' rb' wx) (k : Below wx.heap.size wx wy) : En bs bl bm bv bM most bT S t rb W i S' rb' wy :=
  ⟨h.mv.below k, h.df, h.nb, h.fr.trans h.nr (Fr.below k), h.nr, h.bx.below k, h.rn⟩
theorem En.next {bs bl bm bv bM most bT i : Nat} {S S' S'' : List T3} {t : T3} {rb rb' rb'' : Option Nat} {W wx wy : World} (h : En bs bl bm bv bM most bT S t rb W i S' rb' wx) (m : Mv bs bl bm bv bM most S'' rb'' wy) (d : MV.Df most S' S'') (n : MV.nbr t i ∈ S'') (f : Fr bl bM rb' wx wy) (r : Nr rb' rb'' wx) : En bs bl bm bv bM most bT S t rb W (i + 1) S'' rb'' wy := by
  have hne := h.mv.ne h.bx
  refine ⟨m, h.df.trans d, fun j hj ho => ?_, h.fr.trans h.nr f, Nr.trans h.fr h.nr r, f.cl h.bx hne.1 hne.2 h.rn, ?_⟩
  · by_cases e : j = i
    · subst e; exact n
    · exact d.sub _ (h.nb j (by omega) ho)
  · rcases r with rfl | ⟨g, rfl, hg⟩
    · exact h.rn
    · intro e; injection e with e; have := h.bx.lt; omega
/-- The facts on numbers at one neighbour. -/
structure Nm3 (most N P Q D V : Nat) : Prop where
  n : 1 ≤ N ∧ N ≤ 1000000000000000000
  p : 1 ≤ P ∧ P ≤ 1000000000000000000
  q : 1 ≤ Q ∧ Q ≤ 1000000000000000000
  m : most ≤ 1000000000000000000
  db : D ≤ 2000000000000000000
  d : ((most : Int) + (N : Int)).tdiv (3 * (Q : Int)) = (D : Int)
  ok : P ≤ D → 3 * P * Q ≤ most + N ∧ V = 3 * P * Q - N ∧ N < 3 * P * Q
  no : ¬ P ≤ D → ¬ 3 * P * Q ≤ most + N
theorem nm3_of {most : Nat} {t : T3} {i : Nat} (hm : most ≤ 1000000000000000000) (h : t ∈ MV.tab) (hi : i < 3) : Nm3 most (MV.pn t i).1 (MV.pn t i).2.1 (MV.pn t i).2.2 ((most + (MV.pn t i).1) / (3 * (MV.pn t i).2.2)) (MV.nw3 t i) := by
  have g := MV.good_of h
  have g0 := g.x1
  have g1 := g.xy
  have g2 := g.yz
  have g3 := g.zm
  have b : (1 ≤ (MV.pn t i).1 ∧ (MV.pn t i).1 ≤ 1000000000000000000) ∧ (1 ≤ (MV.pn t i).2.1 ∧ (MV.pn t i).2.1 ≤ 1000000000000000000) ∧ (1 ≤ (MV.pn t i).2.2 ∧ (MV.pn t i).2.2 ≤ 1000000000000000000) := by
    match i, hi with
    | 0, _ => simp only [MV.pn]; omega
    | 1, _ => simp only [MV.pn]; omega
    | 2, _ => simp only [MV.pn]; omega
  have np := MV.nw_pos h hi
  have hv : MV.nw3 t i = 3 * (MV.pn t i).2.1 * (MV.pn t i).2.2 - (MV.pn t i).1 := rfl
  rw [hv]
  clear hv
  generalize (MV.pn t i).1 = N at *
  generalize (MV.pn t i).2.1 = P at *
  generalize (MV.pn t i).2.2 = Q at *
  have key : P ≤ (most + N) / (3 * Q) ↔ 3 * P * Q ≤ most + N := by
    rw [Nat.le_div_iff_mul_le (by omega)]
    have : P * (3 * Q) = 3 * P * Q := by rw [Nat.mul_left_comm, Nat.mul_assoc]
    rw [this]
  refine ⟨b.1, b.2.1, b.2.2, hm, Nat.le_trans (Nat.div_le_self _ _) (by omega), ?_, fun hp => ⟨key.1 hp, rfl, np⟩, fun hp hq => hp (key.2 hq)⟩
  rw [show (most : Int) + (N : Int) = ((most + N : Nat) : Int) by omega, show 3 * (Q : Int) = ((3 * Q : Nat) : Int) by omega, ← Int.ofNat_tdiv]

set_option maxRecDepth 100000 in
set_option maxHeartbeats 8000000 in
theorem each_any (bs bl bm bv bM most L : Nat) (hV : VisP bs bl bm bv bM most L) (S : List T3) (t : T3) (rb : Option Nat) (w : World) (hL : L ≤ S.length) (hmost : most ≤ 1000000000000000000) (ht : t ∈ MV.tab) (hz : MV.tz t ≤ most) (h : Mv bs bl bm bv bM most S rb w) :
    Calls Try.prog 48 #[tv3 t, .int .i64 (most : Int), .func (.func 47) #[] (caps bs bl bm bv)] w fun e w' => (∃ v, e = .returned v) ∧ ∃ (S' : List T3) (rb' : Option Nat), Mv bs bl bm bv bM most S' rb' w' ∧ MV.Df most S S' ∧ (∀ i, i < 3 → MV.okN most t i = true → MV.nbr t i ∈ S') ∧ Fr bl bM rb w w' ∧ Nr rb rb' w := by
  have HV : Hid (VisP bs bl bm bv bM most L) := hV
  have HT : Hid (t ∈ MV.tab ∧ MV.tz t ≤ most ∧ most ≤ 1000000000000000000 ∧ L ≤ S.length) := ⟨ht, hz, hmost, hL⟩
  have HF : Hid (∀ i, i < 3 → Nm3 most (MV.pn t i).1 (MV.pn t i).2.1 (MV.pn t i).2.2 ((most + (MV.pn t i).1) / (3 * (MV.pn t i).2.2)) (MV.nw3 t i)) := fun i hi => nm3_of hmost ht hi
  have k0 : Below w.heap.size w (w.alloc (.cells (tl3 t).toArray 42)) := Below.alloc (Below.refl _ _) (Nat.le_refl _) _
  have E0 : En bs bl bm bv bM most w.heap.size S t rb w 0 S rb (w.alloc (.cells (tl3 t).toArray 42)) := by
    refine ⟨h.below k0, MV.Df.refl h.vs, fun j hj => by omega, Fr.below k0, .inl rfl, Cl.new (tl3 t) _ w, fun e => ?_⟩
    have := (h.row _ e).2
    omega
  have HE0 : Hid (En bs bl bm bv bM most w.heap.size S t rb w 0 S rb (w.alloc (.cells #[.int .i64 (t.1 : Int), .int .i64 (t.2.1 : Int), .int .i64 (t.2.2 : Int)] 42))) := E0
  clear hV hL hmost ht hz h k0 E0
  unfold tv3
  obtain ⟨x, hx⟩ : ∃ x, x = t.1 := ⟨_, rfl⟩
  obtain ⟨y, hy⟩ : ∃ x, x = t.2.1 := ⟨_, rfl⟩
  obtain ⟨z, hzz⟩ : ∃ x, x = t.2.2 := ⟨_, rfl⟩
  have HX : Hid (x = t.1 ∧ y = t.2.1 ∧ z = t.2.2) := ⟨hx, hy, hzz⟩
  rw [← hx, ← hy, ← hzz] at HE0
  rw [← hx, ← hy, ← hzz]
  clear hx hy hzz
  have ix0 : ∀ w : World, (Instr.index 42 (.agg #[.int .i64 (x : Int), .int .i64 (y : Int), .int .i64 (z : Int)]) (.int .i64 0)).run Try.prog w = .ok (.int .i64 (x : Int)) w := fun _ => by kernel_rfl
  have ix1 : ∀ w : World, (Instr.index 42 (.agg #[.int .i64 (x : Int), .int .i64 (y : Int), .int .i64 (z : Int)]) (.int .i64 1)).run Try.prog w = .ok (.int .i64 (y : Int)) w := fun _ => by kernel_rfl
  have ix2 : ∀ w : World, (Instr.index 42 (.agg #[.int .i64 (x : Int), .int .i64 (y : Int), .int .i64 (z : Int)]) (.int .i64 2)).run Try.prog w = .ok (.int .i64 (z : Int)) w := fun _ => by kernel_rfl
  go_enter Try.func48, Try.ntmps48
  go_wp2
  go_loopg [12] 3 (fun gk iv wx => ∃ (i : Nat) (S' : List T3) (rb' : Option Nat), iv = .int .i64 i ∧ Hid (gk = 3 - i ∧ i ≤ 3 ∧ En bs bl bm bv bM most w.heap.size S t rb w i S' rb' wx))
  case atStart => exact ⟨0, S, rb, rfl, rfl, by omega, HE0.out⟩
  case round =>
    clear HE0
    obtain ⟨i, S', rb', rfl, HR⟩ := hrel
    obtain ⟨h1, h2, h3⟩ := HR.out
    by_cases hi : i < 3
    · have hi3 : i = 0 ∨ i = 1 ∨ i = 2 := by omega
      rcases hi3 with rfl | rfl | rfl
      · have hF : ∃ D V, Nm3 most x y z D V ∧ V = MV.nw3 t 0 := ⟨_, _, by rw [HX.out.1, HX.out.2.1, HX.out.2.2]; exact HF.out 0 (by omega), rfl⟩
        obtain ⟨D, V, F, hV⟩ := hF
        have c0 : wr.cell? ⟨w.heap.size, 0, none⟩ = some (.int .i64 (x : Int)) := by rw [HX.out.1]; exact h3.bx.cell 0
        have c1 : wr.cell? ⟨w.heap.size, 1, none⟩ = some (.int .i64 (y : Int)) := by rw [HX.out.2.1]; exact h3.bx.cell 1
        have c2 : wr.cell? ⟨w.heap.size, 2, none⟩ = some (.int .i64 (z : Int)) := by rw [HX.out.2.2]; exact h3.bx.cell 2
        have HK : Hid (gk = 3 - 0 ∧ En bs bl bm bv bM most w.heap.size S t rb w 0 S' rb' wr) := ⟨h1, h3⟩
        have HVV : Hid (V = MV.nw3 t 0) := hV
        obtain ⟨f1, f2, f3, f4, fd, f5, f6, f7⟩ := F
        have t3 : ((3 * (z : Int)) == 0) = false := beq_eq_false_iff_ne.2 (by omega)
        have w1 : IntKind.i64.wrap ((most : Int) + (x : Int)) = (most : Int) + (x : Int) := by rw [IntKind.wrap_i64]; omega
        have w2 : IntKind.i64.wrap (3 * (z : Int)) = 3 * (z : Int) := by rw [IntKind.wrap_i64]; omega
        have w6 : IntKind.i64.wrap (D : Int) = (D : Int) := by rw [IntKind.wrap_i64]; omega
        by_cases hp : y ≤ D
        · obtain ⟨p1, p2, p3⟩ := f6 hp
          have td : decide ((D : Int) < (y : Int)) = false := decide_eq_false (by omega)
          obtain ⟨M, hM⟩ : ∃ M, M = 3 * y * z := ⟨_, rfl⟩
          have e1 : 3 * (y : Int) * (z : Int) = (M : Int) := by rw [hM]; push_cast; rfl
          rw [← hM] at p1 p2 p3
          have w3 : IntKind.i64.wrap (3 * (y : Int)) = 3 * (y : Int) := by rw [IntKind.wrap_i64]; omega
          have w4 : IntKind.i64.wrap (M : Int) = (M : Int) := by rw [IntKind.wrap_i64]; omega
          have e2 : (M : Int) - (x : Int) = (V : Int) := by omega
          have w5 : IntKind.i64.wrap (V : Int) = (V : Int) := by rw [IntKind.wrap_i64]; omega
          have HO : Hid (MV.okN most t 0 = true) := by
            show _ = _
            rw [MV.okN_iff]
            show 3 * t.2.1 * t.2.2 ≤ most + t.1
            rw [← HX.out.1, ← HX.out.2.1, ← HX.out.2.2]
            omega
          clear HR h1 h3 hV hM f6 f7 p1 p2 p3
          go_wp2
          go_region
          go_wp2_with fail
          obtain ⟨W1, hW1⟩ : ∃ W1, W1 = (wr.alloc (.cells #[.int .i64 (V : Int), .int .i64 (y : Int), .int .i64 (z : Int)] 42)).drew := ⟨_, rfl⟩
          have K1 : Below wr.heap.size wr W1 := by rw [hW1]; exact Below.drew (Below.alloc (Below.refl _ _) (Nat.le_refl _) _)
          have C1 : Cl wr.heap.size (tl3 (V, y, z)) 42 W1 := by rw [hW1]; exact (Cl.new [.int .i64 (V : Int), .int .i64 (y : Int), .int .i64 (z : Int)] 42 wr).drew
          have E1 := HK.out.2.keep K1
          have r1 : rb' ≠ some wr.heap.size := fun e => by have := (HK.out.2.mv.row _ e).2; omega
          rw [← hW1]
          clear hW1 K1
          refine (sort3_any _ _ _ _ _ C1).mono ?_
          rintro e W2 ⟨⟨v, rfl⟩, C2, g2⟩
          have en : MV.nbr t 0 = MV.srt V y z := by rw [HVV.out, HX.out.2.1, HX.out.2.2]; rfl
          have M2 : Mv bs bl bm bv bM most S' rb' W2 := E1.mv.other C1 r1 (fun k hk hne => g2.block k hk (fun e => hne (Option.some.inj e)))
          have E2 : En bs bl bm bv bM most w.heap.size S t rb w 0 S' rb' W2 := by
            have hlt : w.heap.size < wr.heap.size := HK.out.2.bx.lt
            have hb2 : ∀ k, k < wr.heap.size → W2.heap[k]? = W1.heap[k]? := fun k hk => g2.block k (Nat.lt_trans hk C1.lt) (fun e => by injection e with e; omega)
            refine ⟨M2, E1.df, E1.nb, ⟨g2.os.trans E1.fr.os, g2.tape.trans E1.fr.tape, g2.output.trans E1.fr.output, Nat.le_trans E1.fr.size g2.size, fun b hb n1 n2 n3 => ?_⟩, E1.nr, (hb2 _ hlt).trans E1.bx, E1.rn⟩
            exact (hb2 b (by omega)).trans (E1.fr.block b hb n1 n2 n3)
          rw [← en] at C2
          have nin := MV.nbr_in HT.out.2.2.1 HT.out.1 HT.out.2.1 (show 0 < 3 by omega) HO.out
          have HE2 : Hid (En bs bl bm bv bM most w.heap.size S t rb w 0 S' rb' W2 ∧ MV.nbr t 0 ∈ MV.tab ∧ MV.tz (MV.nbr t 0) ≤ most) := ⟨E2, nin⟩
          have HL2 : Hid (L ≤ S'.length) := Nat.le_trans HT.out.2.2.2 E2.df.len
          obtain ⟨u, hu⟩ : ∃ u, u = MV.nbr t 0 := ⟨_, rfl⟩
          rw [← hu] at C2 HE2
          have HU : Hid (u = MV.nbr t 0) := hu
          have d0 : W2.cell? ⟨wr.heap.size, 0, none⟩ = some (.int .i64 (u.1 : Int)) := C2.cell 0
          have d1 : W2.cell? ⟨wr.heap.size, 1, none⟩ = some (.int .i64 (u.2.1 : Int)) := C2.cell 1
          have d2 : W2.cell? ⟨wr.heap.size, 2, none⟩ = some (.int .i64 (u.2.2 : Int)) := C2.cell 2
          clear C1 E1 r1 C2 g2 en M2 E2 nin hu c0 c1 c2
          go_wp2_with fail
          refine (HV.out S' u rb' W2 HL2.out HE2.out.1.mv HE2.out.2.1 HE2.out.2.2).mono ?_
          rintro e W3 ⟨⟨v3, rfl⟩, S'', rb'', m3, df3, in3, fr3, nr3⟩
          have HE3 : Hid (En bs bl bm bv bM most w.heap.size S t rb w (0 + 1) S'' rb'' W3) := HE2.out.1.next m3 df3 (by rw [← HU.out]; exact in3) fr3 nr3
          clear m3 df3 in3 fr3 nr3 d0 d1 d2
          go_wp2
          go_roundg (3 - (0 + 1))
          case rel => exact ⟨0 + 1, S'', rb'', by first | rfl | go_num, rfl, by omega, HE3.out⟩
          case measure => have := HK.out.1; omega
        · have td : decide ((D : Int) < (y : Int)) = true := decide_eq_true (by omega)
          have HO : Hid (MV.okN most t 0 = false) := by
            show _ = _
            rw [← Bool.not_eq_true, MV.okN_iff]
            have := f7 hp
            rw [HX.out.1, HX.out.2.1, HX.out.2.2] at this
            exact this
          clear HR h1 h3 hV f6 f7
          go_wp2
          go_region
          go_wp2
          go_roundg (3 - (0 + 1))
          case rel => exact ⟨0 + 1, S', rb', by first | rfl | go_num, rfl, by omega, (HK.out.2.skip HO.out).keep (Below.drew (Below.refl _ _))⟩
          case measure => have := HK.out.1; omega
      · have hF : ∃ D V, Nm3 most y z x D V ∧ V = MV.nw3 t 1 := ⟨_, _, by rw [HX.out.1, HX.out.2.1, HX.out.2.2]; exact HF.out 1 (by omega), rfl⟩
        obtain ⟨D, V, F, hV⟩ := hF
        have c0 : wr.cell? ⟨w.heap.size, 0, none⟩ = some (.int .i64 (x : Int)) := by rw [HX.out.1]; exact h3.bx.cell 0
        have c1 : wr.cell? ⟨w.heap.size, 1, none⟩ = some (.int .i64 (y : Int)) := by rw [HX.out.2.1]; exact h3.bx.cell 1
        have c2 : wr.cell? ⟨w.heap.size, 2, none⟩ = some (.int .i64 (z : Int)) := by rw [HX.out.2.2]; exact h3.bx.cell 2
        have HK : Hid (gk = 3 - 1 ∧ En bs bl bm bv bM most w.heap.size S t rb w 1 S' rb' wr) := ⟨h1, h3⟩
        have HVV : Hid (V = MV.nw3 t 1) := hV
        obtain ⟨f1, f2, f3, f4, fd, f5, f6, f7⟩ := F
        have t3 : ((3 * (x : Int)) == 0) = false := beq_eq_false_iff_ne.2 (by omega)
        have w1 : IntKind.i64.wrap ((most : Int) + (y : Int)) = (most : Int) + (y : Int) := by rw [IntKind.wrap_i64]; omega
        have w2 : IntKind.i64.wrap (3 * (x : Int)) = 3 * (x : Int) := by rw [IntKind.wrap_i64]; omega
        have w6 : IntKind.i64.wrap (D : Int) = (D : Int) := by rw [IntKind.wrap_i64]; omega
        by_cases hp : z ≤ D
        · obtain ⟨p1, p2, p3⟩ := f6 hp
          have td : decide ((D : Int) < (z : Int)) = false := decide_eq_false (by omega)
          obtain ⟨M, hM⟩ : ∃ M, M = 3 * z * x := ⟨_, rfl⟩
          have e1 : 3 * (z : Int) * (x : Int) = (M : Int) := by rw [hM]; push_cast; rfl
          rw [← hM] at p1 p2 p3
          have w3 : IntKind.i64.wrap (3 * (z : Int)) = 3 * (z : Int) := by rw [IntKind.wrap_i64]; omega
          have w4 : IntKind.i64.wrap (M : Int) = (M : Int) := by rw [IntKind.wrap_i64]; omega
          have e2 : (M : Int) - (y : Int) = (V : Int) := by omega
          have w5 : IntKind.i64.wrap (V : Int) = (V : Int) := by rw [IntKind.wrap_i64]; omega
          have HO : Hid (MV.okN most t 1 = true) := by
            show _ = _
            rw [MV.okN_iff]
            show 3 * t.2.2 * t.1 ≤ most + t.2.1
            rw [← HX.out.1, ← HX.out.2.1, ← HX.out.2.2]
            omega
          clear HR h1 h3 hV hM f6 f7 p1 p2 p3
          go_wp2
          go_region
          go_wp2_with fail
          obtain ⟨W1, hW1⟩ : ∃ W1, W1 = (wr.alloc (.cells #[.int .i64 (x : Int), .int .i64 (V : Int), .int .i64 (z : Int)] 42)).drew := ⟨_, rfl⟩
          have K1 : Below wr.heap.size wr W1 := by rw [hW1]; exact Below.drew (Below.alloc (Below.refl _ _) (Nat.le_refl _) _)
          have C1 : Cl wr.heap.size (tl3 (x, V, z)) 42 W1 := by rw [hW1]; exact (Cl.new [.int .i64 (x : Int), .int .i64 (V : Int), .int .i64 (z : Int)] 42 wr).drew
          have E1 := HK.out.2.keep K1
          have r1 : rb' ≠ some wr.heap.size := fun e => by have := (HK.out.2.mv.row _ e).2; omega
          rw [← hW1]
          clear hW1 K1
          refine (sort3_any _ _ _ _ _ C1).mono ?_
          rintro e W2 ⟨⟨v, rfl⟩, C2, g2⟩
          have en : MV.nbr t 1 = MV.srt x V z := by rw [HVV.out, HX.out.1, HX.out.2.2]; rfl
          have M2 : Mv bs bl bm bv bM most S' rb' W2 := E1.mv.other C1 r1 (fun k hk hne => g2.block k hk (fun e => hne (Option.some.inj e)))
          have E2 : En bs bl bm bv bM most w.heap.size S t rb w 1 S' rb' W2 := by
            have hlt : w.heap.size < wr.heap.size := HK.out.2.bx.lt
            have hb2 : ∀ k, k < wr.heap.size → W2.heap[k]? = W1.heap[k]? := fun k hk => g2.block k (Nat.lt_trans hk C1.lt) (fun e => by injection e with e; omega)
            refine ⟨M2, E1.df, E1.nb, ⟨g2.os.trans E1.fr.os, g2.tape.trans E1.fr.tape, g2.output.trans E1.fr.output, Nat.le_trans E1.fr.size g2.size, fun b hb n1 n2 n3 => ?_⟩, E1.nr, (hb2 _ hlt).trans E1.bx, E1.rn⟩
            exact (hb2 b (by omega)).trans (E1.fr.block b hb n1 n2 n3)
          rw [← en] at C2
          have nin := MV.nbr_in HT.out.2.2.1 HT.out.1 HT.out.2.1 (show 1 < 3 by omega) HO.out
          have HE2 : Hid (En bs bl bm bv bM most w.heap.size S t rb w 1 S' rb' W2 ∧ MV.nbr t 1 ∈ MV.tab ∧ MV.tz (MV.nbr t 1) ≤ most) := ⟨E2, nin⟩
          have HL2 : Hid (L ≤ S'.length) := Nat.le_trans HT.out.2.2.2 E2.df.len
          obtain ⟨u, hu⟩ : ∃ u, u = MV.nbr t 1 := ⟨_, rfl⟩
          rw [← hu] at C2 HE2
          have HU : Hid (u = MV.nbr t 1) := hu
          have d0 : W2.cell? ⟨wr.heap.size, 0, none⟩ = some (.int .i64 (u.1 : Int)) := C2.cell 0
          have d1 : W2.cell? ⟨wr.heap.size, 1, none⟩ = some (.int .i64 (u.2.1 : Int)) := C2.cell 1
          have d2 : W2.cell? ⟨wr.heap.size, 2, none⟩ = some (.int .i64 (u.2.2 : Int)) := C2.cell 2
          clear C1 E1 r1 C2 g2 en M2 E2 nin hu c0 c1 c2
          go_wp2_with fail
          refine (HV.out S' u rb' W2 HL2.out HE2.out.1.mv HE2.out.2.1 HE2.out.2.2).mono ?_
          rintro e W3 ⟨⟨v3, rfl⟩, S'', rb'', m3, df3, in3, fr3, nr3⟩
          have HE3 : Hid (En bs bl bm bv bM most w.heap.size S t rb w (1 + 1) S'' rb'' W3) := HE2.out.1.next m3 df3 (by rw [← HU.out]; exact in3) fr3 nr3
          clear m3 df3 in3 fr3 nr3 d0 d1 d2
          go_wp2
          go_roundg (3 - (1 + 1))
          case rel => exact ⟨1 + 1, S'', rb'', by first | rfl | go_num, rfl, by omega, HE3.out⟩
          case measure => have := HK.out.1; omega
        · have td : decide ((D : Int) < (z : Int)) = true := decide_eq_true (by omega)
          have HO : Hid (MV.okN most t 1 = false) := by
            show _ = _
            rw [← Bool.not_eq_true, MV.okN_iff]
            have := f7 hp
            rw [HX.out.1, HX.out.2.1, HX.out.2.2] at this
            exact this
          clear HR h1 h3 hV f6 f7
          go_wp2
          go_region
          go_wp2
          go_roundg (3 - (1 + 1))
          case rel => exact ⟨1 + 1, S', rb', by first | rfl | go_num, rfl, by omega, (HK.out.2.skip HO.out).keep (Below.drew (Below.refl _ _))⟩
          case measure => have := HK.out.1; omega
      · have hF : ∃ D V, Nm3 most z x y D V ∧ V = MV.nw3 t 2 := ⟨_, _, by rw [HX.out.1, HX.out.2.1, HX.out.2.2]; exact HF.out 2 (by omega), rfl⟩
        obtain ⟨D, V, F, hV⟩ := hF
        have c0 : wr.cell? ⟨w.heap.size, 0, none⟩ = some (.int .i64 (x : Int)) := by rw [HX.out.1]; exact h3.bx.cell 0
        have c1 : wr.cell? ⟨w.heap.size, 1, none⟩ = some (.int .i64 (y : Int)) := by rw [HX.out.2.1]; exact h3.bx.cell 1
        have c2 : wr.cell? ⟨w.heap.size, 2, none⟩ = some (.int .i64 (z : Int)) := by rw [HX.out.2.2]; exact h3.bx.cell 2
        have HK : Hid (gk = 3 - 2 ∧ En bs bl bm bv bM most w.heap.size S t rb w 2 S' rb' wr) := ⟨h1, h3⟩
        have HVV : Hid (V = MV.nw3 t 2) := hV
        obtain ⟨f1, f2, f3, f4, fd, f5, f6, f7⟩ := F
        have t3 : ((3 * (y : Int)) == 0) = false := beq_eq_false_iff_ne.2 (by omega)
        have w1 : IntKind.i64.wrap ((most : Int) + (z : Int)) = (most : Int) + (z : Int) := by rw [IntKind.wrap_i64]; omega
        have w2 : IntKind.i64.wrap (3 * (y : Int)) = 3 * (y : Int) := by rw [IntKind.wrap_i64]; omega
        have w6 : IntKind.i64.wrap (D : Int) = (D : Int) := by rw [IntKind.wrap_i64]; omega
        by_cases hp : x ≤ D
        · obtain ⟨p1, p2, p3⟩ := f6 hp
          have td : decide ((D : Int) < (x : Int)) = false := decide_eq_false (by omega)
          obtain ⟨M, hM⟩ : ∃ M, M = 3 * x * y := ⟨_, rfl⟩
          have e1 : 3 * (x : Int) * (y : Int) = (M : Int) := by rw [hM]; push_cast; rfl
          rw [← hM] at p1 p2 p3
          have w3 : IntKind.i64.wrap (3 * (x : Int)) = 3 * (x : Int) := by rw [IntKind.wrap_i64]; omega
          have w4 : IntKind.i64.wrap (M : Int) = (M : Int) := by rw [IntKind.wrap_i64]; omega
          have e2 : (M : Int) - (z : Int) = (V : Int) := by omega
          have w5 : IntKind.i64.wrap (V : Int) = (V : Int) := by rw [IntKind.wrap_i64]; omega
          have HO : Hid (MV.okN most t 2 = true) := by
            show _ = _
            rw [MV.okN_iff]
            show 3 * t.1 * t.2.1 ≤ most + t.2.2
            rw [← HX.out.1, ← HX.out.2.1, ← HX.out.2.2]
            omega
          clear HR h1 h3 hV hM f6 f7 p1 p2 p3
          go_wp2
          go_region
          go_wp2_with fail
          obtain ⟨W1, hW1⟩ : ∃ W1, W1 = (wr.alloc (.cells #[.int .i64 (x : Int), .int .i64 (y : Int), .int .i64 (V : Int)] 42)).drew := ⟨_, rfl⟩
          have K1 : Below wr.heap.size wr W1 := by rw [hW1]; exact Below.drew (Below.alloc (Below.refl _ _) (Nat.le_refl _) _)
          have C1 : Cl wr.heap.size (tl3 (x, y, V)) 42 W1 := by rw [hW1]; exact (Cl.new [.int .i64 (x : Int), .int .i64 (y : Int), .int .i64 (V : Int)] 42 wr).drew
          have E1 := HK.out.2.keep K1
          have r1 : rb' ≠ some wr.heap.size := fun e => by have := (HK.out.2.mv.row _ e).2; omega
          rw [← hW1]
          clear hW1 K1
          refine (sort3_any _ _ _ _ _ C1).mono ?_
          rintro e W2 ⟨⟨v, rfl⟩, C2, g2⟩
          have en : MV.nbr t 2 = MV.srt x y V := by rw [HVV.out, HX.out.1, HX.out.2.1]; rfl
          have M2 : Mv bs bl bm bv bM most S' rb' W2 := E1.mv.other C1 r1 (fun k hk hne => g2.block k hk (fun e => hne (Option.some.inj e)))
          have E2 : En bs bl bm bv bM most w.heap.size S t rb w 2 S' rb' W2 := by
            have hlt : w.heap.size < wr.heap.size := HK.out.2.bx.lt
            have hb2 : ∀ k, k < wr.heap.size → W2.heap[k]? = W1.heap[k]? := fun k hk => g2.block k (Nat.lt_trans hk C1.lt) (fun e => by injection e with e; omega)
            refine ⟨M2, E1.df, E1.nb, ⟨g2.os.trans E1.fr.os, g2.tape.trans E1.fr.tape, g2.output.trans E1.fr.output, Nat.le_trans E1.fr.size g2.size, fun b hb n1 n2 n3 => ?_⟩, E1.nr, (hb2 _ hlt).trans E1.bx, E1.rn⟩
            exact (hb2 b (by omega)).trans (E1.fr.block b hb n1 n2 n3)
          rw [← en] at C2
          have nin := MV.nbr_in HT.out.2.2.1 HT.out.1 HT.out.2.1 (show 2 < 3 by omega) HO.out
          have HE2 : Hid (En bs bl bm bv bM most w.heap.size S t rb w 2 S' rb' W2 ∧ MV.nbr t 2 ∈ MV.tab ∧ MV.tz (MV.nbr t 2) ≤ most) := ⟨E2, nin⟩
          have HL2 : Hid (L ≤ S'.length) := Nat.le_trans HT.out.2.2.2 E2.df.len
          obtain ⟨u, hu⟩ : ∃ u, u = MV.nbr t 2 := ⟨_, rfl⟩
          rw [← hu] at C2 HE2
          have HU : Hid (u = MV.nbr t 2) := hu
          have d0 : W2.cell? ⟨wr.heap.size, 0, none⟩ = some (.int .i64 (u.1 : Int)) := C2.cell 0
          have d1 : W2.cell? ⟨wr.heap.size, 1, none⟩ = some (.int .i64 (u.2.1 : Int)) := C2.cell 1
          have d2 : W2.cell? ⟨wr.heap.size, 2, none⟩ = some (.int .i64 (u.2.2 : Int)) := C2.cell 2
          clear C1 E1 r1 C2 g2 en M2 E2 nin hu c0 c1 c2
          go_wp2_with fail
          refine (HV.out S' u rb' W2 HL2.out HE2.out.1.mv HE2.out.2.1 HE2.out.2.2).mono ?_
          rintro e W3 ⟨⟨v3, rfl⟩, S'', rb'', m3, df3, in3, fr3, nr3⟩
          have HE3 : Hid (En bs bl bm bv bM most w.heap.size S t rb w (2 + 1) S'' rb'' W3) := HE2.out.1.next m3 df3 (by rw [← HU.out]; exact in3) fr3 nr3
          clear m3 df3 in3 fr3 nr3 d0 d1 d2
          go_wp2
          go_roundg (3 - (2 + 1))
          case rel => exact ⟨2 + 1, S'', rb'', by first | rfl | go_num, rfl, by omega, HE3.out⟩
          case measure => have := HK.out.1; omega
        · have td : decide ((D : Int) < (x : Int)) = true := decide_eq_true (by omega)
          have HO : Hid (MV.okN most t 2 = false) := by
            show _ = _
            rw [← Bool.not_eq_true, MV.okN_iff]
            have := f7 hp
            rw [HX.out.1, HX.out.2.1, HX.out.2.2] at this
            exact this
          clear HR h1 h3 hV f6 f7
          go_wp2
          go_region
          go_wp2
          go_roundg (3 - (2 + 1))
          case rel => exact ⟨2 + 1, S', rb', by first | rfl | go_num, rfl, by omega, (HK.out.2.skip HO.out).keep (Below.drew (Below.refl _ _))⟩
          case measure => have := HK.out.1; omega
    · obtain rfl : i = 3 := by omega
      have HE : Hid (Mv bs bl bm bv bM most S' rb' wr ∧ MV.Df most S S' ∧ (∀ i, i < 3 → MV.okN most t i = true → MV.nbr t i ∈ S') ∧ Fr bl bM rb w wr ∧ Nr rb rb' w) := ⟨h3.mv, h3.df, h3.nb, h3.fr, h3.nr⟩
      clear HR h1 h3
      go_wp2
      exact bodyPost_end (results_none rfl _ _ _) rfl ⟨⟨_, rfl⟩, S', rb', HE.out⟩

end Go.Proofs.Ytcbepaionliepaa
