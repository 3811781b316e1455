/- Package ring: Gcd, Div, with their faults. -/
import Derived.Test.YtoionlnbodfhlacGreatDoorGsF
set_option linter.unusedSimpArgs false
set_option linter.unusedVariables false
set_option maxRecDepth 100000
namespace Go.Proofs.YtoionlnbodfhlacGreatDoor
open Go.RowKit

/-- What Gcd answers. -/
def GcdOut (T : Int) (x y : Pp) (w : World) (e : Ending) (w' : World) : Prop :=
  (∃ g, e = .returned (.tuple #[pv g, fv (pfl 0 [x, y])]) ∧ (pfl 0 [x, y] ≠ (0, 0) → g = Pp.zero) ∧ (pfl 0 [x, y] = (0, 0) → Gd T x y g ∧ (IsCh T g ∨ g = Pp.zero))) ∧ Below w.heap.size w w'
theorem GcdOut.bad {T : Int} {x y : Pp} {w w' : World} {d : Int} (h : pfl 0 [x, y] = (3, d)) (k : Below w.heap.size w w') : GcdOut T x y w (.returned (.tuple #[pv Pp.zero, fv (3, d)])) w' :=
  ⟨⟨Pp.zero, by rw [h], fun _ => rfl, fun h2 => by rw [h] at h2; simp at h2⟩, k⟩
theorem GcdOut.good {T : Int} {x y g : Pp} {w w' : World} (h : pfl 0 [x, y] = (0, 0)) (h1 : Gd T x y g) (h2 : IsCh T g ∨ g = Pp.zero) (k : Below w.heap.size w w') : GcdOut T x y w (.returned (.tuple #[pv g, fv (0, 0)])) w' :=
  ⟨⟨g, by rw [h], fun h3 => absurd h h3, fun _ => ⟨h1, h2⟩⟩, k⟩

set_option maxHeartbeats 1000000 in
theorem rGcd_any (T : Int) (k : Kd) (K : KdIs T k) (x y : Pp) (w : World) (hT : TT T) :
    Calls Tryz.prog 57 #[k.v, pv x, pv y] w (GcdOut T x y w) := by
  have HK : Hid (KdIs T k) := K
  have M0 := (dm_newT w k x y 44 23).alloc (.cells #[.int .i64 x.a, .int .i64 x.b, .int .i64 y.a, .int .i64 y.b] 44)
  have A0 := cl_new (((((w.alloc (.cells k.cells 84)).alloc (.cells #[.int .i64 x.a, .int .i64 x.b] 44)).alloc (.cells #[.int .i64 y.a, .int .i64 y.b] 44)).alloc (.cells #[.int .i64 0, .int .i64 0] 44)).alloc (.cells #[.int .i64 0, .int .i64 0] 23)) [.int .i64 x.a, .int .i64 x.b, .int .i64 y.a, .int .i64 y.b] 44 (w.heap.size + 1 + 1 + 1 + 1 + 1) (by simp)
  obtain ⟨W0, hW0⟩ : ∃ W0, W0 = (((((w.alloc (.cells k.cells 84)).alloc (.cells #[.int .i64 x.a, .int .i64 x.b] 44)).alloc (.cells #[.int .i64 y.a, .int .i64 y.b] 44)).alloc (.cells #[.int .i64 0, .int .i64 0] 44)).alloc (.cells #[.int .i64 0, .int .i64 0] 23)).alloc (.cells #[.int .i64 x.a, .int .i64 x.b, .int .i64 y.a, .int .i64 y.b] 44) := ⟨_, rfl⟩
  rw [← hW0] at M0
  rw [show (#[.int .i64 x.a, .int .i64 x.b, .int .i64 y.a, .int .i64 y.b] : Array Value) = [.int .i64 x.a, .int .i64 x.b, .int .i64 y.a, .int .i64 y.b].toArray from rfl] at hW0
  rw [← hW0] at A0
  have HP : Hid (Calls Tryz.prog 92 #[.slice (some ⟨w.heap.size + 1 + 1 + 1 + 1 + 1, 0, none⟩) 2 2] W0 fun e w' => e = .returned (.agg #[.int .i64 (pfl 0 [x, y]).1, .int .i64 (pfl 0 [x, y]).2]) ∧ Below W0.heap.size W0 w') := pairs_two x y _ _ W0 A0.lt (A0.cell 0) (A0.cell 1) (A0.cell 2) (A0.cell 3)
  have HM0 : Hid (Dm w.heap.size k x y Pp.zero w W0) := M0
  have HW0 : Hid (W0 = (((((w.alloc (.cells k.cells 84)).alloc (.cells #[.int .i64 x.a, .int .i64 x.b] 44)).alloc (.cells #[.int .i64 y.a, .int .i64 y.b] 44)).alloc (.cells #[.int .i64 0, .int .i64 0] 44)).alloc (.cells #[.int .i64 0, .int .i64 0] 23)).alloc (.cells #[.int .i64 x.a, .int .i64 x.b, .int .i64 y.a, .int .i64 y.b] 44)) := hW0
  clear M0 A0 hW0
  rcases pfl_two x y with ⟨ho, ho2, hp⟩ | ⟨d, hp⟩
  · rw [hp] at HP
    have HPf : Hid (pfl 0 [x, y] = (0, 0)) := hp
    have HG : Hid (∀ w, Calls Tryz.prog 97 #[k.v, pv x, pv y] w (GreatPost T x y w)) := fun w => rgcd_any T k K x y w hT (okP_nb hT ho) (okP_nb hT ho2)
    clear hp ho ho2 hT K
    obtain ⟨u, o, ft, fm, fc, fs⟩ := k
    go_enter Tryz.func57, Tryz.ntmps57
    go_wp2_with fail
    rw [← HW0.out]
    refine HP.out.mono ?_
    rintro e w1 ⟨rfl, k1⟩
    have M1 := (HM0.out.below k1).alloc (.cells #[.int .i64 0, .int .i64 0] 23)
    have HM1 : Hid (Dm w.heap.size ⟨u, o, ft, fm, fc, fs⟩ x y Pp.zero w (w1.alloc (.cells #[.int .i64 0, .int .i64 0] 23))) := M1
    clear HM0 k1 HP HW0
    have x0 := M1.x.c0
    have x1 := M1.x.c1
    have y0 := M1.y.c0
    have y1 := M1.y.c1
    obtain ⟨r0, r1, r2, r3, r4, r5, r6⟩ := Kt.rd M1.r
    clear M1
    go_wp2_with fail
    refine (HG.out _).mono ?_
    rintro e w2 ⟨z, rfl, hgd, hch, k2⟩
    have HGd : Hid (Gd T x y z) := hgd
    have HCh : Hid (IsCh T z ∨ z = Pp.zero) := hch
    have M3 := HM1.out.below k2
    clear hgd hch HM1 k2 x0 x1 y0 y1 r0 r1 r2 r3 r4 r5 r6
    have q0 := M3.q.c0
    have q1 := M3.q.c1
    have q2 := M3.q.f0
    have q3 := M3.q.f1
    have q4 := M3.q.lt
    have l0 := M3.l.c0
    have l1 := M3.l.c1
    have l2 := M3.l.f0
    have l3 := M3.l.f1
    have l4 := M3.l.lt
    go_wp2_with fail
    have E := M3.fin0 z 0 0
    clear q0 q1 q2 q3 q4 l0 l1 l2 l3 l4 M3
    generalize hWF : World.setCell _ _ _ = WF
    replace E : Df w.heap.size z ⟨0, 0⟩ w WF := hWF ▸ E
    clear hWF
    have e0 := E.q.c0
    have e1 := E.q.c1
    have e4 := E.q.lt
    have g0 := E.l.c0
    have g1 := E.l.c1
    have g4 := E.l.lt
    exact bodyPost_ret (v := .tuple #[pv z, fv (0, 0)]) (by simp [results, Tryz.results57, go_sem, e0, e1, e4, g0, g1, g4]) rfl (GcdOut.good HPf.out HGd.out HCh.out E.k)
  · have HPf : Hid (pfl 0 [x, y] = (3, d)) := hp
    rw [hp] at HP
    clear hp hT K
    obtain ⟨u, o, ft, fm, fc, fs⟩ := k
    go_enter Tryz.func57, Tryz.ntmps57
    go_wp2_with fail
    rw [← HW0.out]
    refine HP.out.mono ?_
    rintro e w1 ⟨rfl, k1⟩
    have M1 := (HM0.out.below k1).alloc (.cells #[.int .i64 3, .int .i64 d] 23)
    have z1 : w.heap.size + 4 < w1.heap.size := (HM0.out.below k1).l.lt
    have HK1 : Hid (Below w.heap.size w (w1.alloc (.cells #[.int .i64 3, .int .i64 d] 23))) := M1.k
    clear HM0 k1 HP HW0
    have P1 := sv_new w1 23 w1.heap.size rfl 3 d
    have q0 := M1.q.c0
    have q1 := M1.q.c1
    have q2 := M1.q.f0
    have q3 := M1.q.f1
    have q4 := M1.q.lt
    have l0 := M1.l.c0
    have l1 := M1.l.c1
    have l2 := M1.l.f0
    have l3 := M1.l.f1
    have l4 := M1.l.lt
    go_wp2_with fail
    refine wp_region_G (fun W => W.cell? ⟨w1.heap.size, 0, none⟩ = some (.int .i64 3) ∧ W.cell? ⟨w1.heap.size, 1, none⟩ = some (.int .i64 d)) 3 (by kernel_rfl) ⟨P1.c0, P1.c1⟩ (fun hHeld => ?_)
    refine wpAnyG_take (i := 0) (v := ?v0x1) rfl (by kernel_rfl) (fun _ _ _ h => h) (Or.inl ⟨by rfl, ?y0x1⟩) hHeld ?r0x1
    case y0x1 => (intro wS hSw; obtain ⟨s1, s2⟩ := hSw; go_simp; try with_reducible rfl)
    try simp only [Act.put, List.setIfInBounds_toArray, List.set_cons_zero, List.set_cons_succ]
    refine wpAnyG_take (i := 1) (v := ?v1x2) rfl (by kernel_rfl) (fun _ _ _ h => h) (Or.inl ⟨by rfl, ?y1x2⟩) hHeld ?r1x2
    case y1x2 => (intro wS hSw; obtain ⟨s1, s2⟩ := hSw; go_simp; try with_reducible rfl)
    try simp only [Act.put, List.setIfInBounds_toArray, List.set_cons_zero, List.set_cons_succ]
    refine wpAnyG_one (i := 2) rfl (by kernel_rfl) (fun K hK => ?_)
    go_simp
    have P2 := (P1.other (.int .i64 0) (.int .i64 0) (show w.heap.size + 3 ≠ w1.heap.size by omega)).drew
    refine hK.out _ _ ⟨P2.c0, P2.c1⟩ ?_
    clear hK K
    try simp only [Act.put, List.setIfInBounds_toArray, List.set_cons_zero, List.set_cons_succ]
    refine wpAnyG_last (i := 3) rfl (by kernel_rfl) (by kernel_rfl) (fun K hK => ?_)
    go_simp
    refine hK.out _ _ ?_
    clear hK K
    try simp only [Act.put, List.setIfInBounds_toArray, List.set_cons_zero, List.set_cons_succ]
    refine wpAnyG_done (by kernel_rfl) ?_ _
    clear hHeld P2
    go_wp2_with fail
    have E := M1.fin Pp.zero 3 d
    generalize hWF : World.drew _ = WF
    replace E : Df w.heap.size Pp.zero ⟨3, d⟩ w WF := hWF ▸ E
    clear hWF
    have e0 := E.q.c0
    have e1 := E.q.c1
    have e4 := E.q.lt
    have g0 := E.l.c0
    have g1 := E.l.c1
    have g4 := E.l.lt
    exact bodyPost_ret (v := .tuple #[pv Pp.zero, fv (3, d)]) (by simp [results, Tryz.results57, go_sem, e0, e1, e4, g0, g1, g4]) rfl (GcdOut.bad HPf.out E.k)

end Go.Proofs.YtoionlnbodfhlacGreatDoor
