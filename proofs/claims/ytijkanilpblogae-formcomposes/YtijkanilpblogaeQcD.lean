/- The program: quad.reduce and Reduce. -/
import Derived.Test.YtijkanilpblogaeQcC
import Derived.Test.YtijkanilpblogaeQfN
import Derived.Deep.LoopGhost
set_option linter.unusedSimpArgs false
set_option linter.unusedVariables false
set_option maxRecDepth 100000
namespace Go.Proofs.Ytijkanilpblogae
open Go.RowKit

/-- On the way: a form that is like f, slid. -/
structure Rs (f g : Qf) (M : Mt) : Prop where
  lk : MQ.Lk f g M
  a : 1 ≤ g.a
  up : g.upto 4000000000000
  disc : g.disc = f.disc
  sl : slidB g
theorem Rs.start {f : Qf} (h : f.upto 4000000000000) (ha : 1 ≤ f.a) (hd : f.disc < 0) : Rs f (slideF f) (slideM f ⟨1, 0, 0, 1⟩) := by
  obtain ⟨h1, h2, h3, h4, h5, h6⟩ := h
  obtain ⟨s1, s2, s3⟩ := slide_b ha
  obtain ⟨s4, s5, s6⟩ := slide_c ha hd
  have sA : (slideF f).a = f.a := rfl
  exact ⟨slide_lk (MQ.Lk.refl f), by rw [sA]; exact ha, ⟨by omega, by omega, by omega, by omega, by omega, by omega⟩, slide_disc f, ⟨by omega, by omega⟩⟩
theorem Rs.next {f g : Qf} {M : Mt} (r : Rs f g M) (hd : f.disc < 0) : Rs f (slideF (swapF g)) (slideM (swapF g) (swapM M)) := by
  obtain ⟨h1, h2, h3, h4, h5, h6⟩ := r.up
  have hc := disc_c r.a (by rw [r.disc]; exact hd)
  have hd' : (swapF g).disc < 0 := by rw [swap_disc, r.disc]; exact hd
  have ha' : 1 ≤ (swapF g).a := hc
  obtain ⟨s1, s2, s3⟩ := slide_b ha'
  obtain ⟨s4, s5, s6⟩ := slide_c ha' hd'
  have e1 : (swapF g).a = g.c := rfl
  have e2 : (swapF g).c = g.a := rfl
  have e4 : (slideF (swapF g)).a = g.c := rfl
  exact ⟨slide_lk (swap_lk r.lk), by rw [e4]; exact hc, ⟨by omega, by omega, by omega, by omega, by omega, by omega⟩, by rw [slide_disc, swap_disc, r.disc], ⟨by omega, by omega⟩⟩
theorem swap_up {g : Qf} (h : g.upto 4000000000000) : (swapF g).upto 4000000000000 := by
  obtain ⟨h1, h2, h3, h4, h5, h6⟩ := h
  exact ⟨h5, h6, by show -4000000000000 ≤ -g.b; omega, by show -g.b ≤ 4000000000000; omega, h1, h2⟩

abbrev l7 (g : Qf) (m : Mt) : List Value := [.int .i64 g.a, .int .i64 g.b, .int .i64 g.c, .int .i64 m.p, .int .i64 m.q, .int .i64 m.r, .int .i64 m.s]
/-- The memory of the walk. -/
structure Tm (h b : Nat) (g : Qf) (m : Mt) (w W : World) : Prop where
  t : Cl b (l7 g m) 63 W
  o : Cl (h + 1) [.int .i64 0, .int .i64 0, .int .i64 0, .int .i64 0, .int .i64 0, .int .i64 0, .int .i64 0] 63 W
  ne : h + 1 < b
  k : Below h w W
theorem Tm.below {h b : Nat} {g : Qf} {m : Mt} {w W W' : World} (x : Tm h b g m w W) (c : Below W.heap.size W W') : Tm h b g m w W' :=
  ⟨x.t.below c, x.o.below c, x.ne, x.k.trans (c.mono (by have := x.o.lt; omega))⟩
theorem Tm.set {h b : Nat} {g : Qf} {m : Mt} {w W : World} (x : Tm h b g m w W) (g' : Qf) (m' : Mt) :
    Tm h b g' m' w (((((((W.setCell ⟨b, 0, none⟩ (.int .i64 g'.a)).setCell ⟨b, 1, none⟩ (.int .i64 g'.b)).setCell ⟨b, 2, none⟩ (.int .i64 g'.c)).setCell ⟨b, 3, none⟩ (.int .i64 m'.p)).setCell ⟨b, 4, none⟩ (.int .i64 m'.q)).setCell ⟨b, 5, none⟩ (.int .i64 m'.r)).setCell ⟨b, 6, none⟩ (.int .i64 m'.s)) := by
  have hn := x.ne
  refine ⟨((((((x.t.set 0 _).set 1 _).set 2 _).set 3 _).set 4 _).set 5 _).set 6 _, ?_, hn, ?_⟩
  · exact (((((((x.o.other (by show h + 1 ≠ b; omega) _).other (by show h + 1 ≠ b; omega) _).other (by show h + 1 ≠ b; omega) _).other (by show h + 1 ≠ b; omega) _).other (by show h + 1 ≠ b; omega) _).other (by show h + 1 ≠ b; omega) _).other (by show h + 1 ≠ b; omega) _)
  · have := x.k
    iterate 7 refine Below.setCell ?_ (by show h ≤ b; omega) _
    exact this

set_option maxHeartbeats 4000000 in
theorem reduce_any (f : Qf) (w : World) (h : f.upto 4000000000000) (ha : 1 ≤ f.a) (hd : f.disc < 0) :
    Calls Try.prog 33 #[f.v] w fun e w' => (∃ g M, e = .returned (Tv g M.w) ∧ Rd f g M ∧ 1 ≤ g.a) ∧ Below w.heap.size w w' := by
  have HD : Hid (f.disc < 0) := hd
  have HR0 : Hid (Rs f (slideF f) (slideM f ⟨1, 0, 0, 1⟩)) := Rs.start h ha hd
  have HS0 : Hid (∀ w, Calls Try.prog 48 #[Tv f ⟨1, 0, 0, 1⟩] w fun e w' => e = .returned (Tv (slideF f) (slideM f ⟨1, 0, 0, 1⟩).w) ∧ Below w.heap.size w w') := fun w => by
    have k := slide_any f ⟨1, 0, 0, 1⟩ w h ha hd
    rw [show (⟨1, 0, 0, 1⟩ : Mt).w = ⟨1, 0, 0, 1⟩ by unfold Mt.w; simp only [Mt.mk.injEq]; refine ⟨wrap64_id (by decide), wrap64_id (by decide), wrap64_id (by decide), wrap64_id (by decide)⟩] at k
    exact k
  obtain ⟨g0, hg0⟩ : ∃ g0, slideF f = g0 := ⟨_, rfl⟩
  obtain ⟨M0, hM0⟩ : ∃ M0, slideM f ⟨1, 0, 0, 1⟩ = M0 := ⟨_, rfl⟩
  rw [hg0, hM0] at HR0 HS0
  clear hg0 hM0 h ha hd
  unfold Tv at HS0
  unfold Qf.v
  go_enter Try.func33, Try.ntmps33
  go_wp2_with fail
  obtain ⟨W1, hW1⟩ : ∃ W1, W1 = (w.alloc (.cells #[.int .i64 f.a, .int .i64 f.b, .int .i64 f.c] 32)).alloc (.cells #[.int .i64 0, .int .i64 0, .int .i64 0, .int .i64 0, .int .i64 0, .int .i64 0, .int .i64 0] 63) := ⟨_, rfl⟩
  have C1 : Cl (w.heap.size + 1) [.int .i64 0, .int .i64 0, .int .i64 0, .int .i64 0, .int .i64 0, .int .i64 0, .int .i64 0] 63 W1 := by rw [hW1]; exact cl_new0 _ _ _ _ (by simp)
  have K1 : Below w.heap.size w W1 := by rw [hW1]; exact Below.alloc (Below.alloc (Below.refl _ _) (Nat.le_refl _) _) (by simp) _
  rw [← hW1]
  clear hW1
  refine (HS0.out _).mono ?_
  rintro e w1 ⟨rfl, k1⟩
  have HT0 : Hid (Tm w.heap.size w1.heap.size g0 M0.w w (w1.alloc (.cells #[.int .i64 g0.a, .int .i64 g0.b, .int .i64 g0.c, .int .i64 M0.w.p, .int .i64 M0.w.q, .int .i64 M0.w.r, .int .i64 M0.w.s] 63))) :=
    ⟨Cl.new (l7 g0 M0.w) _ w1, (C1.below k1).alloc _, Nat.lt_of_lt_of_le C1.lt k1.size, (K1.trans (k1.mono K1.size)).trans ((al1 w1 _).mono (K1.trans (k1.mono K1.size)).size)⟩
  clear C1 K1 k1 HS0
  go_wp2
  go_loopg [8] (mea g0) (fun gk _ wx => ∃ (g : Qf) (m : Mt), Hid (Rs f g m ∧ gk = mea g ∧ Tm w.heap.size w1.heap.size g m.w w wx))
  case atStart => exact ⟨g0, M0, HR0.out, rfl, HT0.out⟩
  case round =>
    clear HT0 HR0
    obtain ⟨g, m, HH⟩ := hrel
    have HR : Hid (Rs f g m) := HH.out.1
    have HG : Hid (gk = mea g) := HH.out.2.1
    have HF : Hid (Tm w.heap.size w1.heap.size g m.w w wr) := HH.out.2.2
    have HRed : Hid (∀ w, Calls Try.prog 45 #[g.v] w fun e w' => e = .returned (.bool g.redB) ∧ Below w.heap.size w w') := fun w => isReduced_any g w HR.out.up
    unfold Qf.v at HRed
    have c0 := HF.out.t.cell 0
    have c1 := HF.out.t.cell 1
    have c2 := HF.out.t.cell 2
    simp at c0 c1 c2
    clear HH
    cases hrb : g.redB
    · rw [hrb] at HRed
      have HRb : Hid (g.redB = false) := hrb
      have HSw : Hid (∀ w, Calls Try.prog 49 #[Tv g m.w] w fun e w' => e = .returned (Tv (swapF g) (swapM m).w) ∧ Below w.heap.size w w') := fun w => swap_any g m w HR.out.up
      have HSl : Hid (∀ w, Calls Try.prog 48 #[Tv (swapF g) (swapM m).w] w fun e w' => e = .returned (Tv (slideF (swapF g)) (slideM (swapF g) (swapM m)).w) ∧ Below w.heap.size w w') := fun w =>
        slide_any (swapF g) (swapM m) w (swap_up HR.out.up) (disc_c HR.out.a (by rw [HR.out.disc]; exact HD.out)) (by rw [swap_disc, HR.out.disc]; exact HD.out)
      have HN : Hid (Rs f (slideF (swapF g)) (slideM (swapF g) (swapM m)) ∧ mea (slideF (swapF g)) < gk) := ⟨HR.out.next HD.out, by rw [HG.out]; exact mea_less HR.out.a (by rw [HR.out.disc]; exact HD.out) HR.out.sl HRb.out⟩
      obtain ⟨g1, hg1⟩ : ∃ g1, slideF (swapF g) = g1 := ⟨_, rfl⟩
      obtain ⟨m1, hm1⟩ : ∃ m1, slideM (swapF g) (swapM m) = m1 := ⟨_, rfl⟩
      obtain ⟨gs, hgs⟩ : ∃ g1, swapF g = g1 := ⟨_, rfl⟩
      obtain ⟨ms, hms⟩ : ∃ m1, (swapM m).w = m1 := ⟨_, rfl⟩
      rw [hg1, hm1] at HN HSl
      rw [hgs, hms] at HSl HSw
      unfold Tv at HSw HSl
      clear hrb hg1 hm1 hgs hms
      go_wp2_with fail
      refine (HRed.out _).mono ?_
      rintro e w2 ⟨rfl, k1⟩
      have HF1 : Hid (Tm w.heap.size w1.heap.size g m.w w w2) := HF.out.below k1
      clear c0 c1 c2 k1 HF
      have c0 := HF1.out.t.cell 0
      have c1 := HF1.out.t.cell 1
      have c2 := HF1.out.t.cell 2
      have c3 := HF1.out.t.cell 3
      have c4 := HF1.out.t.cell 4
      have c5 := HF1.out.t.cell 5
      have c6 := HF1.out.t.cell 6
      simp at c0 c1 c2 c3 c4 c5 c6
      go_wp2_with fail
      refine (HSw.out _).mono ?_
      rintro e w3 ⟨rfl, k1⟩
      have HF2 : Hid (Tm w.heap.size w1.heap.size g m.w w w3) := HF1.out.below k1
      clear c0 c1 c2 c3 c4 c5 c6 k1 HF1
      go_wp2_with fail
      refine (HSl.out _).mono ?_
      rintro e w4 ⟨rfl, k1⟩
      have HF3 : Hid (Tm w.heap.size w1.heap.size g m.w w w4) := HF2.out.below k1
      clear k1 HF2
      have c0 := HF3.out.t.cell 0
      have c1 := HF3.out.t.cell 1
      have c2 := HF3.out.t.cell 2
      have c3 := HF3.out.t.cell 3
      have c4 := HF3.out.t.cell 4
      have c5 := HF3.out.t.cell 5
      have c6 := HF3.out.t.cell 6
      have d0 := HF3.out.t.frozen 0
      have d1 := HF3.out.t.frozen 1
      have d2 := HF3.out.t.frozen 2
      have d3 := HF3.out.t.frozen 3
      have d4 := HF3.out.t.frozen 4
      have d5 := HF3.out.t.frozen 5
      have d6 := HF3.out.t.frozen 6
      simp at c0 c1 c2 c3 c4 c5 c6
      go_wp2
      go_roundg (mea g1)
      case rel => exact ⟨g1, m1, HN.out.1, rfl, HF3.out.set g1 m1.w⟩
      case measure => exact HN.out.2
    · rw [hrb] at HRed
      have HRd : Hid (Rd f g m ∧ 1 ≤ g.a) := ⟨⟨hrb, HR.out.lk.det, HR.out.lk.like⟩, HR.out.a⟩
      clear hrb
      go_wp2_with fail
      refine (HRed.out _).mono ?_
      rintro e w2 ⟨rfl, k1⟩
      have F1 := HF.out.below k1
      have HK1 : Hid (Below w.heap.size w w2) := F1.k
      clear c0 c1 c2 k1 HF
      have c0 := F1.t.cell 0
      have c1 := F1.t.cell 1
      have c2 := F1.t.cell 2
      have c3 := F1.t.cell 3
      have c4 := F1.t.cell 4
      have c5 := F1.t.cell 5
      have c6 := F1.t.cell 6
      have o0 := F1.o.cell 0
      have o1 := F1.o.cell 1
      have o2 := F1.o.cell 2
      have o3 := F1.o.cell 3
      have o4 := F1.o.cell 4
      have o5 := F1.o.cell 5
      have o6 := F1.o.cell 6
      have p0 := F1.o.frozen 0
      have p1 := F1.o.frozen 1
      have p2 := F1.o.frozen 2
      have p3 := F1.o.frozen 3
      have p4 := F1.o.frozen 4
      have p5 := F1.o.frozen 5
      have p6 := F1.o.frozen 6
      have p7 := F1.o.lt
      simp at c0 c1 c2 c3 c4 c5 c6 o0 o1 o2 o3 o4 o5 o6
      clear F1
      go_wp2
      refine bodyPost_ret (v := Tv g m.w) (by simp [Tv, results, Try.results33, go_sem, o0, o1, o2, o3, o4, o5, o6, p7]) rfl ⟨⟨g, m, rfl, HRd.out⟩, ?_⟩
      iterate 7 refine Below.setCell ?_ (by show w.heap.size ≤ w.heap.size + 1; omega) _
      exact HK1.out

end Go.Proofs.Ytijkanilpblogae
