/- Package ring: Norm, Mul, Div, Gcd, with their faults. -/
import Derived.Test.YtoionlnbodfhlacGreatDoorGsE
import Derived.Test.YtoionlnbodfhlacGreatDoorReckonsBase
set_option linter.unusedSimpArgs false
set_option linter.unusedVariables false
set_option maxRecDepth 100000
namespace Go.Proofs.YtoionlnbodfhlacGreatDoor
open Go.RowKit

/-- The fault of one pair, of two. -/
theorem pairs_one (x : Pp) (b cap : Nat) (w : World) (hb : b < w.heap.size) (h0 : w.cell? ⟨b, 0, none⟩ = some (.int .i64 x.a)) (h1 : w.cell? ⟨b, 1, none⟩ = some (.int .i64 x.b)) :
    Calls Tryz.prog 92 #[.slice (some ⟨b, 0, none⟩) 1 cap] w fun e w' => e = .returned (.agg #[.int .i64 (pfl 0 [x]).1, .int .i64 (pfl 0 [x]).2]) ∧ Below w.heap.size w w' :=
  Pairs_any [x] b cap w (by simp) hb (fun j hj => by obtain rfl : j = 0 := by simp at hj; omega
                                                     exact ⟨h0, h1⟩)
theorem pairs_two (x y : Pp) (b cap : Nat) (w : World) (hb : b < w.heap.size) (h0 : w.cell? ⟨b, 0, none⟩ = some (.int .i64 x.a)) (h1 : w.cell? ⟨b, 1, none⟩ = some (.int .i64 x.b)) (h2 : w.cell? ⟨b, 2, none⟩ = some (.int .i64 y.a)) (h3 : w.cell? ⟨b, 3, none⟩ = some (.int .i64 y.b)) :
    Calls Tryz.prog 92 #[.slice (some ⟨b, 0, none⟩) 2 cap] w fun e w' => e = .returned (.agg #[.int .i64 (pfl 0 [x, y]).1, .int .i64 (pfl 0 [x, y]).2]) ∧ Below w.heap.size w w' :=
  Pairs_any [x, y] b cap w (by simp) hb (fun j hj => by
    have : j = 0 ∨ j = 1 := by simp at hj; omega
    rcases this with rfl | rfl
    · exact ⟨h0, h1⟩
    · exact ⟨h2, h3⟩)

theorem cm_newT (w : World) (k : Kd) (x : Pp) (t : TypeId) : Cm w.heap.size k x w (((w.alloc (.cells k.cells 84)).alloc (.cells #[.int .i64 x.a, .int .i64 x.b] 44)).alloc (.cells #[.int .i64 0, .int .i64 0] t)) :=
  ⟨((Cl.new k.list 84 w).alloc _).alloc _, sv_alloc (sv_new _ _ _ (by simp) _ _) _, sv_new _ _ _ (by simp) _ _, below3 _ _ _ _⟩
theorem Cm.alloc {b : Nat} {k : Kd} {x : Pp} {w W : World} (h : Cm b k x w W) (o : Obj) : Cm b k x w (W.alloc o) := h.below (Below.alloc (Below.refl _ _) (Nat.le_refl _) _)
theorem dm_newT (w : World) (k : Kd) (x y : Pp) (t4 t5 : TypeId) : Dm w.heap.size k x y Pp.zero w (((((w.alloc (.cells k.cells 84)).alloc (.cells #[.int .i64 x.a, .int .i64 x.b] 44)).alloc (.cells #[.int .i64 y.a, .int .i64 y.b] 44)).alloc (.cells #[.int .i64 0, .int .i64 0] t4)).alloc (.cells #[.int .i64 0, .int .i64 0] t5)) :=
  ⟨((((Cl.new k.list 84 w).alloc _).alloc _).alloc _).alloc _, sv_alloc (sv_alloc (sv_alloc (sv_new _ _ _ (by simp) _ _) _) _) _, sv_alloc (sv_alloc (sv_new _ _ _ (by simp) _ _) _) _, sv_alloc (sv_new _ _ _ (by simp) _ _) _, sv_new _ _ _ (by simp) _ _, (below4 _ _ _ _ _).alloc (by simp; omega) _⟩
theorem pfl_one (x : Pp) : (okP x = true ∧ pfl 0 [x] = (0, 0)) ∨ (okP x = false ∧ pfl 0 [x] = (3, 0)) := by
  cases h : okP x <;> simp [pfl, h]
theorem pfl_two (x y : Pp) : (okP x = true ∧ okP y = true ∧ pfl 0 [x, y] = (0, 0)) ∨ (∃ d : Int, pfl 0 [x, y] = (3, d)) := by
  cases h : okP x <;> cases h2 : okP y <;> simp [pfl, h, h2]
theorem okP_nb {T : Int} (hT : TT T) {x : Pp} (h : okP x = true) : Nb T x := Nb.of hT (okP_true h)

set_option maxHeartbeats 1000000 in
theorem rNorm_any (T : Int) (k : Kd) (K : KdIs T k) (x : Pp) (w : World) (hT : TT T) :
    Calls Tryz.prog 54 #[k.v, pv x] w fun e w' => e = .returned (.tuple #[.int .i64 (if okP x then x.norm T else 0), fv (pfl 0 [x])]) ∧ Below w.heap.size w w' := by
  have HK : Hid (KdIs T k) := K
  have M0 := (cm_newT w k x 23).alloc (.cells #[.int .i64 x.a, .int .i64 x.b] 44)
  have HM0 : Hid (Cm w.heap.size k x w ((((w.alloc (.cells k.cells 84)).alloc (.cells #[.int .i64 x.a, .int .i64 x.b] 44)).alloc (.cells #[.int .i64 0, .int .i64 0] 23)).alloc (.cells #[.int .i64 x.a, .int .i64 x.b] 44))) := M0
  clear M0
  rcases pfl_one x with ⟨ho, hp⟩ | ⟨ho, hp⟩
  · rw [if_pos ho]
    have HN : Hid (∀ w, Calls Tryz.prog 93 #[k.v, pv x] w fun e w' => e = .returned (.int .i64 (x.norm T)) ∧ Below w.heap.size w w') := fun w => rnorm_any T k K x w hT ((okP_nb hT ho).bd hT)
    have HPf : Hid (pfl 0 [x] = (0, 0)) := hp
    rw [hp]
    clear hT K ho hp
    obtain ⟨n, hn⟩ : ∃ n, n = x.norm T := ⟨_, rfl⟩
    rw [← hn] at HN ⊢
    clear hn
    obtain ⟨u, o, ft, fm, fc, fs⟩ := k
    go_enter Tryz.func54, Tryz.ntmps54
    go_wp2_with fail
    have A0 := sv_new (((w.alloc (.cells (Kd.cells ⟨u, o, ft, fm, fc, fs⟩) 84)).alloc (.cells #[.int .i64 x.a, .int .i64 x.b] 44)).alloc (.cells #[.int .i64 0, .int .i64 0] 23)) 44 (w.heap.size + 1 + 1 + 1) (by simp) x.a x.b
    refine (pairs_one x _ _ _ A0.lt A0.c0 A0.c1).mono ?_
    clear A0
    rw [HPf.out]
    rintro e w1 ⟨rfl, k1⟩
    have M1 := (HM0.out.below k1).alloc (.cells #[.int .i64 0, .int .i64 0] 23)
    have HM1 : Hid (Cm w.heap.size ⟨u, o, ft, fm, fc, fs⟩ x w (w1.alloc (.cells #[.int .i64 0, .int .i64 0] 23))) := M1
    clear HM0 k1
    have x0 := M1.x.c0
    have x1 := M1.x.c1
    obtain ⟨r0, r1, r2, r3, r4, r5, r6⟩ := Kt.rd M1.r
    clear M1
    go_wp2_with fail
    refine (HN.out _).mono ?_
    rintro e w2 ⟨rfl, k2⟩
    have M2 := HM1.out.below k2
    have HK2 : Hid (Below w.heap.size w w2) := M2.k
    clear HM1 k2 x0 x1 r0 r1 r2 r3 r4 r5 r6
    have o0 := M2.o.c0
    have o1 := M2.o.c1
    have o2 := M2.o.f0
    have o3 := M2.o.f1
    have o4 := M2.o.lt
    clear M2
    go_wp2
    refine bodyPost_ret (v := .tuple #[.int .i64 n, fv (0, 0)]) (by simp [results, Tryz.results54, go_sem, o0, o1, o4]) rfl ⟨rfl, ?_⟩
    exact (HK2.out.setCell (by simp <;> omega) _).setCell (by simp <;> omega) _
  · rw [ho, if_neg (by decide)]
    have HPf : Hid (pfl 0 [x] = (3, 0)) := hp
    rw [hp]
    clear hT K ho hp
    obtain ⟨u, o, ft, fm, fc, fs⟩ := k
    go_enter Tryz.func54, Tryz.ntmps54
    go_wp2_with fail
    have A0 := sv_new (((w.alloc (.cells (Kd.cells ⟨u, o, ft, fm, fc, fs⟩) 84)).alloc (.cells #[.int .i64 x.a, .int .i64 x.b] 44)).alloc (.cells #[.int .i64 0, .int .i64 0] 23)) 44 (w.heap.size + 1 + 1 + 1) (by simp) x.a x.b
    refine (pairs_one x _ _ _ A0.lt A0.c0 A0.c1).mono ?_
    clear A0
    rw [HPf.out]
    rintro e w1 ⟨rfl, k1⟩
    have M1 := (HM0.out.below k1).alloc (.cells #[.int .i64 3, .int .i64 0] 23)
    have HK1 : Hid (Below w.heap.size w (w1.alloc (.cells #[.int .i64 3, .int .i64 0] 23))) := M1.k
    clear HM0 k1
    have o0 := M1.o.c0
    have o1 := M1.o.c1
    have o2 := M1.o.f0
    have o3 := M1.o.f1
    have o4 := M1.o.lt
    have F1 := sv_new w1 23 w1.heap.size rfl 3 0
    clear M1
    go_wp2_with fail
    refine wp_region_G (fun W => W.cell? ⟨w1.heap.size, 0, none⟩ = some (.int .i64 3) ∧ W.cell? ⟨w1.heap.size, 1, none⟩ = some (.int .i64 0)) 2 (by kernel_rfl) ⟨F1.c0, F1.c1⟩ (fun hHeld => ?_)
    refine wpAnyG_take (i := 0) (v := ?v0x1) rfl (by kernel_rfl) (fun _ _ _ h => h) (Or.inl ⟨by rfl, ?y0x1⟩) hHeld ?r0x1
    case y0x1 => (intro wS hSw; obtain ⟨s1, s2⟩ := hSw; go_simp; try with_reducible rfl)
    try simp only [Act.put, List.setIfInBounds_toArray, List.set_cons_zero, List.set_cons_succ]
    refine wpAnyG_take (i := 1) (v := ?v1x2) rfl (by kernel_rfl) (fun _ _ _ h => h) (Or.inl ⟨by rfl, ?y1x2⟩) hHeld ?r1x2
    case y1x2 => (intro wS hSw; obtain ⟨s1, s2⟩ := hSw; go_simp; try with_reducible rfl)
    try simp only [Act.put, List.setIfInBounds_toArray, List.set_cons_zero, List.set_cons_succ]
    refine wpAnyG_last (i := 2) rfl (by kernel_rfl) (by kernel_rfl) (fun K hK => ?_)
    go_simp
    refine hK.out _ _ ?_
    clear hK K
    try simp only [Act.put, List.setIfInBounds_toArray, List.set_cons_zero, List.set_cons_succ]
    refine wpAnyG_done (by kernel_rfl) ?_ _
    clear hHeld F1
    go_wp2
    refine bodyPost_ret (v := .tuple #[.int .i64 0, fv (3, 0)]) (by simp [results, Tryz.results54, go_sem, o0, o1, o4]) rfl ⟨rfl, ?_⟩
    exact ((HK1.out.setCell (by simp <;> omega) _).setCell (by simp <;> omega) _).drew

theorem Dm.fin0 {b : Nat} {k : Kd} {x y p : Pp} {w W : World} (h : Dm b k x y p w W) (q : Pp) (l1 l2 : Int) : Df b q ⟨l1, l2⟩ w ((((W.setCell ⟨b + 1 + 1 + 1, 0, none⟩ (.int .i64 q.a)).setCell ⟨b + 1 + 1 + 1, 1, none⟩ (.int .i64 q.b)).setCell ⟨b + 1 + 1 + 1 + 1, 0, none⟩ (.int .i64 l1)).setCell ⟨b + 1 + 1 + 1 + 1, 1, none⟩ (.int .i64 l2)) :=
  have h2 := h.setq q
  ⟨(h2.q.other _ _ (by omega)), (h2.l.set l1 l2), ((h2.k.setCell (by show b ≤ b + 4; omega) _).setCell (by show b ≤ b + 4; omega) _)⟩
theorem cl_new (W : World) (l : List Value) (t : TypeId) (z : Nat) (hz : W.heap.size = z) : Cl z l t (W.alloc (.cells l.toArray t)) := by subst hz; exact Cl.new l t W
theorem mulF_two (T : Int) (x y : Pp) (d : Int) (h : pfl 0 [x, y] = (3, d)) : mulF T x y = (3, d) ∧ mulV T x y = Pp.zero := by
  have h1 : mulF T x y = (3, d) := by unfold mulF; rw [h, if_pos (by simp)]
  exact ⟨h1, by unfold mulV; rw [h1, if_neg (by simp)]⟩
theorem mulF_much (T : Int) (x y : Pp) (h : pfl 0 [x, y] = (0, 0)) (ho : okP (x.mul T y) = false) : mulF T x y = (9, 0) ∧ mulV T x y = Pp.zero := by
  have h1 : mulF T x y = (9, 0) := by unfold mulF; rw [h, if_neg (by simp), ho]; rfl
  exact ⟨h1, by unfold mulV; rw [h1, if_neg (by simp)]⟩
theorem mulF_ok (T : Int) (x y : Pp) (h : pfl 0 [x, y] = (0, 0)) (ho : okP (x.mul T y) = true) : mulF T x y = (0, 0) ∧ mulV T x y = x.mul T y := by
  have h1 : mulF T x y = (0, 0) := by unfold mulF; rw [h, if_neg (by simp), ho]; rfl
  exact ⟨h1, by unfold mulV; rw [h1, if_pos rfl]⟩

set_option maxHeartbeats 1000000 in
theorem rMul_any (T : Int) (k : Kd) (K : KdIs T k) (x y : Pp) (w : World) (hT : TT T) :
    Calls Tryz.prog 55 #[k.v, pv x, pv y] w fun e w' => e = .returned (.tuple #[pv (mulV T x y), fv (mulF T x y)]) ∧ Below w.heap.size w w' := by
  have HK : Hid (KdIs T k) := K
  have M0 := (dm_newT w k x y 44 23).alloc (.cells #[.int .i64 x.a, .int .i64 x.b, .int .i64 y.a, .int .i64 y.b] 44)
  have A0 := cl_new (((((w.alloc (.cells k.cells 84)).alloc (.cells #[.int .i64 x.a, .int .i64 x.b] 44)).alloc (.cells #[.int .i64 y.a, .int .i64 y.b] 44)).alloc (.cells #[.int .i64 0, .int .i64 0] 44)).alloc (.cells #[.int .i64 0, .int .i64 0] 23)) [.int .i64 x.a, .int .i64 x.b, .int .i64 y.a, .int .i64 y.b] 44 (w.heap.size + 1 + 1 + 1 + 1 + 1) (by simp)
  obtain ⟨W0, hW0⟩ : ∃ W0, W0 = (((((w.alloc (.cells k.cells 84)).alloc (.cells #[.int .i64 x.a, .int .i64 x.b] 44)).alloc (.cells #[.int .i64 y.a, .int .i64 y.b] 44)).alloc (.cells #[.int .i64 0, .int .i64 0] 44)).alloc (.cells #[.int .i64 0, .int .i64 0] 23)).alloc (.cells #[.int .i64 x.a, .int .i64 x.b, .int .i64 y.a, .int .i64 y.b] 44) := ⟨_, rfl⟩
  rw [← hW0] at M0
  rw [show (#[.int .i64 x.a, .int .i64 x.b, .int .i64 y.a, .int .i64 y.b] : Array Value) = [.int .i64 x.a, .int .i64 x.b, .int .i64 y.a, .int .i64 y.b].toArray from rfl] at hW0
  rw [← hW0] at A0
  have HP : Hid (Calls Tryz.prog 92 #[.slice (some ⟨w.heap.size + 1 + 1 + 1 + 1 + 1, 0, none⟩) 2 2] W0 fun e w' => e = .returned (.agg #[.int .i64 (pfl 0 [x, y]).1, .int .i64 (pfl 0 [x, y]).2]) ∧ Below W0.heap.size W0 w') := pairs_two x y _ _ W0 A0.lt (A0.cell 0) (A0.cell 1) (A0.cell 2) (A0.cell 3)
  have HM0 : Hid (Dm w.heap.size k x y Pp.zero w W0) := M0
  have HW0 : Hid (W0 = (((((w.alloc (.cells k.cells 84)).alloc (.cells #[.int .i64 x.a, .int .i64 x.b] 44)).alloc (.cells #[.int .i64 y.a, .int .i64 y.b] 44)).alloc (.cells #[.int .i64 0, .int .i64 0] 44)).alloc (.cells #[.int .i64 0, .int .i64 0] 23)).alloc (.cells #[.int .i64 x.a, .int .i64 x.b, .int .i64 y.a, .int .i64 y.b] 44)) := hW0
  clear M0 A0 hW0
  rcases pfl_two x y with ⟨ho, ho2, hp⟩ | ⟨d, hp⟩
  · rw [hp] at HP
    have HTm : Hid (∀ w, Calls Tryz.prog k.ft #[pv x, pv y] w fun e w' => e = .returned (pv (x.mul T y)) ∧ Below w.heap.size w w') := fun w => K.times x y w (Mb.of (okP_true ho) (okP_true ho2) (by omega))
    have HI : Hid (∀ w, Calls Tryz.prog 94 #[pv (x.mul T y)] w fun e w' => e = .returned (.bool (okP (x.mul T y))) ∧ Below w.heap.size w w') := fun w => IsPair_any _ w
    have hF := mulF_ok T x y hp
    have hG := mulF_much T x y hp
    obtain ⟨z, hz⟩ : ∃ z, z = x.mul T y := ⟨_, rfl⟩
    rw [← hz] at HTm HI hF hG
    have et := K.et
    clear hz hp ho ho2 hT K
    obtain ⟨u, o, ft, fm, fc, fs⟩ := k
    have Hgo : ∀ (V : Pp) (F : Int × Int) (b : Bool), okP z = b → (b = true → V = z ∧ F = (0, 0)) → (b = false → V = Pp.zero ∧ F = (9, 0)) →
        Calls Tryz.prog 55 #[Kd.v ⟨u, o, ft, fm, fc, fs⟩, pv x, pv y] w fun e w' => e = .returned (.tuple #[pv V, fv F]) ∧ Below w.heap.size w w' := by
      intro V F b hb h1 h2
      rw [hb] at HI
      clear hF hG hb
      cases b
      · obtain ⟨rfl, rfl⟩ := h2 rfl
        clear h1 h2
        go_enter Tryz.func55, Tryz.ntmps55
        go_wp2_with fail
        rw [← HW0.out]
        refine HP.out.mono ?_
        rintro e w1 ⟨rfl, k1⟩
        have M1 := (HM0.out.below k1).alloc (.cells #[.int .i64 0, .int .i64 0] 23)
        have HM1 : Hid (Dm w.heap.size ⟨u, o, ft, fm, fc, fs⟩ x y Pp.zero w (w1.alloc (.cells #[.int .i64 0, .int .i64 0] 23))) := M1
        clear HM0 k1 HP HW0
        have x0 := M1.x.c0
        have x1 := M1.x.c1
        have y0 := M1.y.c0
        have y1 := M1.y.c1
        obtain ⟨r0, r1, r2, r3, r4, r5, r6⟩ := Kt.rd M1.r
        clear M1
        go_wp2_with fail
        refine (HTm.out _).mono ?_
        rintro e w2 ⟨rfl, k2⟩
        have M2 := (HM1.out.below k2).alloc (.cells #[.int .i64 z.a, .int .i64 z.b] 44)
        have HM2 : Hid (Dm w.heap.size ⟨u, o, ft, fm, fc, fs⟩ x y Pp.zero w (w2.alloc (.cells #[.int .i64 z.a, .int .i64 z.b] 44))) := M2
        have z2 : w.heap.size + 4 < w2.heap.size := (HM1.out.below k2).l.lt
        clear HM1 k2 x0 x1 y0 y1 r0 r1 r2 r3 r4 r5 r6 M2
        go_wp2_with fail
        refine (HI.out _).mono ?_
        rintro e w3 ⟨rfl, k3⟩
        have M3 := HM2.out.below k3
        have HK3 : Hid (Below w.heap.size w w3) := M3.k
        have P3 := (sv_new w2 44 w2.heap.size rfl z.a z.b).below k3
        clear HM2 k3
        have q0 := M3.q.c0
        have q1 := M3.q.c1
        have q2 := M3.q.f0
        have q3 := M3.q.f1
        have q4 := M3.q.lt
        have l0 := M3.l.c0
        have l1 := M3.l.c1
        have l2 := M3.l.f0
        have l3 := M3.l.f1
        have l4 := M3.l.lt
        have p0 := P3.c0
        have p1 := P3.c1
        go_wp2_with fail
        have E := M3.fin0 Pp.zero 9 0
        clear q0 q1 q2 q3 q4 l0 l1 l2 l3 l4 p0 p1 P3 M3
        generalize hWF : World.setCell _ _ _ = WF
        replace E : Df w.heap.size Pp.zero ⟨9, 0⟩ w WF := hWF ▸ E
        clear hWF
        have e0 := E.q.c0
        have e1 := E.q.c1
        have e4 := E.q.lt
        have g0 := E.l.c0
        have g1 := E.l.c1
        have g4 := E.l.lt
        exact bodyPost_ret (v := .tuple #[pv Pp.zero, fv (9, 0)]) (by simp [results, Tryz.results55, go_sem, e0, e1, e4, g0, g1, g4]) rfl ⟨rfl, E.k⟩
      · obtain ⟨hV, hF0⟩ := h1 rfl
        rw [hV, hF0]
        clear h1 h2 hV hF0
        go_enter Tryz.func55, Tryz.ntmps55
        go_wp2_with fail
        rw [← HW0.out]
        refine HP.out.mono ?_
        rintro e w1 ⟨rfl, k1⟩
        have M1 := (HM0.out.below k1).alloc (.cells #[.int .i64 0, .int .i64 0] 23)
        have HM1 : Hid (Dm w.heap.size ⟨u, o, ft, fm, fc, fs⟩ x y Pp.zero w (w1.alloc (.cells #[.int .i64 0, .int .i64 0] 23))) := M1
        clear HM0 k1 HP HW0
        have x0 := M1.x.c0
        have x1 := M1.x.c1
        have y0 := M1.y.c0
        have y1 := M1.y.c1
        obtain ⟨r0, r1, r2, r3, r4, r5, r6⟩ := Kt.rd M1.r
        clear M1
        go_wp2_with fail
        refine (HTm.out _).mono ?_
        rintro e w2 ⟨rfl, k2⟩
        have M2 := (HM1.out.below k2).alloc (.cells #[.int .i64 z.a, .int .i64 z.b] 44)
        have HM2 : Hid (Dm w.heap.size ⟨u, o, ft, fm, fc, fs⟩ x y Pp.zero w (w2.alloc (.cells #[.int .i64 z.a, .int .i64 z.b] 44))) := M2
        have z2 : w.heap.size + 4 < w2.heap.size := (HM1.out.below k2).l.lt
        clear HM1 k2 x0 x1 y0 y1 r0 r1 r2 r3 r4 r5 r6 M2
        go_wp2_with fail
        refine (HI.out _).mono ?_
        rintro e w3 ⟨rfl, k3⟩
        have M3 := HM2.out.below k3
        have HK3 : Hid (Below w.heap.size w w3) := M3.k
        have P3 := (sv_new w2 44 w2.heap.size rfl z.a z.b).below k3
        clear HM2 k3
        have q0 := M3.q.c0
        have q1 := M3.q.c1
        have q2 := M3.q.f0
        have q3 := M3.q.f1
        have q4 := M3.q.lt
        have l0 := M3.l.c0
        have l1 := M3.l.c1
        have l2 := M3.l.f0
        have l3 := M3.l.f1
        have l4 := M3.l.lt
        have p0 := P3.c0
        have p1 := P3.c1
        go_wp2_with fail
        have E := M3.fin0 z 0 0
        clear q0 q1 q2 q3 q4 l0 l1 l2 l3 l4 p0 p1 P3 M3
        generalize hWF : World.setCell _ _ _ = WF
        replace E : Df w.heap.size z ⟨0, 0⟩ w WF := hWF ▸ E
        clear hWF
        have e0 := E.q.c0
        have e1 := E.q.c1
        have e4 := E.q.lt
        have g0 := E.l.c0
        have g1 := E.l.c1
        have g4 := E.l.lt
        exact bodyPost_ret (v := .tuple #[pv z, fv (0, 0)]) (by simp [results, Tryz.results55, go_sem, e0, e1, e4, g0, g1, g4]) rfl ⟨rfl, E.k⟩
    cases hb : okP z
    · have h := hG hb
      rw [h.1, h.2]
      exact Hgo _ _ false hb (by simp) (fun _ => ⟨rfl, rfl⟩)
    · have h := hF hb
      rw [h.1, h.2]
      exact Hgo _ _ true hb (fun _ => ⟨rfl, rfl⟩) (by simp)
  · have hF := mulF_two T x y d hp
    rw [hF.1, hF.2]
    rw [hp] at HP
    clear hF hp hT K
    obtain ⟨u, o, ft, fm, fc, fs⟩ := k
    go_enter Tryz.func55, Tryz.ntmps55
    go_wp2_with fail
    rw [← HW0.out]
    refine HP.out.mono ?_
    rintro e w1 ⟨rfl, k1⟩
    have M1 := (HM0.out.below k1).alloc (.cells #[.int .i64 3, .int .i64 d] 23)
    have z1 : w.heap.size + 4 < w1.heap.size := (HM0.out.below k1).l.lt
    have HK1 : Hid (Below w.heap.size w (w1.alloc (.cells #[.int .i64 3, .int .i64 d] 23))) := M1.k
    clear HM0 k1 HP HW0
    have P1 := sv_new w1 23 w1.heap.size rfl 3 d
    have q0 := M1.q.c0
    have q1 := M1.q.c1
    have q2 := M1.q.f0
    have q3 := M1.q.f1
    have q4 := M1.q.lt
    have l0 := M1.l.c0
    have l1 := M1.l.c1
    have l2 := M1.l.f0
    have l3 := M1.l.f1
    have l4 := M1.l.lt
    go_wp2_with fail
    refine wp_region_G (fun W => W.cell? ⟨w1.heap.size, 0, none⟩ = some (.int .i64 3) ∧ W.cell? ⟨w1.heap.size, 1, none⟩ = some (.int .i64 d)) 3 (by kernel_rfl) ⟨P1.c0, P1.c1⟩ (fun hHeld => ?_)
    refine wpAnyG_take (i := 0) (v := ?v0x3) rfl (by kernel_rfl) (fun _ _ _ h => h) (Or.inl ⟨by rfl, ?y0x3⟩) hHeld ?r0x3
    case y0x3 => (intro wS hSw; obtain ⟨s1, s2⟩ := hSw; go_simp; try with_reducible rfl)
    try simp only [Act.put, List.setIfInBounds_toArray, List.set_cons_zero, List.set_cons_succ]
    refine wpAnyG_take (i := 1) (v := ?v1x4) rfl (by kernel_rfl) (fun _ _ _ h => h) (Or.inl ⟨by rfl, ?y1x4⟩) hHeld ?r1x4
    case y1x4 => (intro wS hSw; obtain ⟨s1, s2⟩ := hSw; go_simp; try with_reducible rfl)
    try simp only [Act.put, List.setIfInBounds_toArray, List.set_cons_zero, List.set_cons_succ]
    refine wpAnyG_one (i := 2) rfl (by kernel_rfl) (fun K hK => ?_)
    go_simp
    have P2 := (P1.other (.int .i64 0) (.int .i64 0) (show w.heap.size + 3 ≠ w1.heap.size by omega)).drew
    refine hK.out _ _ ⟨P2.c0, P2.c1⟩ ?_
    clear hK K
    try simp only [Act.put, List.setIfInBounds_toArray, List.set_cons_zero, List.set_cons_succ]
    refine wpAnyG_last (i := 3) rfl (by kernel_rfl) (by kernel_rfl) (fun K hK => ?_)
    go_simp
    refine hK.out _ _ ?_
    clear hK K
    try simp only [Act.put, List.setIfInBounds_toArray, List.set_cons_zero, List.set_cons_succ]
    refine wpAnyG_done (by kernel_rfl) ?_ _
    clear hHeld P2
    go_wp2_with fail
    have E := M1.fin Pp.zero 3 d
    generalize hWF : World.drew _ = WF
    replace E : Df w.heap.size Pp.zero ⟨3, d⟩ w WF := hWF ▸ E
    clear hWF
    have e0 := E.q.c0
    have e1 := E.q.c1
    have e4 := E.q.lt
    have g0 := E.l.c0
    have g1 := E.l.c1
    have g4 := E.l.lt
    exact bodyPost_ret (v := .tuple #[pv Pp.zero, fv (3, d)]) (by simp [results, Tryz.results55, go_sem, e0, e1, e4, g0, g1, g4]) rfl ⟨rfl, E.k⟩

end Go.Proofs.YtoionlnbodfhlacGreatDoor
