/- Markov: the visit of a triple. -/
import Derived.Test.YtcbepaionliepaaMkC
set_option linter.unusedSimpArgs false
set_option linter.unusedVariables false
set_option maxRecDepth 100000
namespace Go.Proofs.Ytcbepaionliepaa
open Go.RowKit Go.Maps Go.Sort

theorem Try.info3 : (Try.prog.info? 42).map (fun i => (i.zero, i.size, i.bytes)) = some (some (.agg #[.int .i64 0, .int .i64 0, .int .i64 0]), 3, 24) := by kernel_rfl
theorem Try.zeroU (w : World) : (zeroValue 80).run Try.prog w = .ok (.agg #[]) w := by kernel_rfl
theorem news3 {b : Nat} {l : List Value} {t : TypeId} {w : World} (h : Cl b l t w) : ∀ j u, l[j]? = some u → w.cell? ((⟨b, 0, none⟩ : Addr).add j) = some u := by
  intro j u hu
  have hadd : (⟨b, 0, none⟩ : Addr).add j = ⟨b, j, none⟩ := by unfold Addr.add; split <;> simp_all
  rw [hadd, h.cell j]
  exact hu

set_option maxRecDepth 100000 in
set_option maxHeartbeats 8000000 in
theorem visit_in (bs bl bm bv bM most : Nat) (S : List T3) (t : T3) (rb : Option Nat) (w : World) (h : Mv bs bl bm bv bM most S rb w) (ht : t ∈ MV.tab) (hin : t ∈ S) :
    Calls Try.prog 47 #[tv3 t, .pointer (some ⟨bs, 0, none⟩), .pointer (some ⟨bl, 0, none⟩), .pointer (some ⟨bm, 0, none⟩), .pointer (some ⟨bv, 0, none⟩)] w fun e w' => (∃ v, e = .returned v) ∧ Below w.heap.size w w' := by
  obtain ⟨E, n, m1, m2, m3⟩ := h.map
  have hh : Maps.has E (kt3 t) = true := by rw [m3.has (fun u hu => Fit3.of (h.vs.tb u hu).1) (Fit3.of ht), decide_eq_true hin]
  have hkey := key3 (Fit3.of ht)
  have c0 : ∀ o : Obj, (w.alloc o).cell? ⟨bs, 0, none⟩ = some (.map (some bM)) := fun o => (h.s.alloc o).cell 0
  have HM : Hid (w.ownsMap Try.prog 42 (unitElem (H := Unit)) bM n E) := m1
  have HMa : Hid (∀ o : Obj, (w.alloc o).ownsMap Try.prog 42 (unitElem (H := Unit)) bM n E) := fun o => mmap_kept m1 ((Below.alloc (Below.refl w.heap.size w) (Nat.le_refl _) o).block bM m1.lt)
  clear h ht hin m1 m2 m3
  unfold tv3 at hkey ⊢
  obtain ⟨x, hx⟩ : ∃ x, x = t.1 := ⟨_, rfl⟩
  obtain ⟨y, hy⟩ : ∃ x, x = t.2.1 := ⟨_, rfl⟩
  obtain ⟨z, hz⟩ : ∃ x, x = t.2.2 := ⟨_, rfl⟩
  rw [← hx, ← hy, ← hz] at hkey ⊢
  clear hx hy hz
  go_enter Try.func47, Try.ntmps47
  go_wp2_with (at_lookup; refine wpList_lookup_own_unit _ rfl _ _ 78 rfl 42 80 law3 Try.underlying78 (Try.zeroU _) bM n E rfl (HMa.out _) _ _ rfl hkey ?_; rw [hh])
  refine bodyPost_ret (results_none rfl _ _ _) rfl ⟨⟨_, rfl⟩, Below.alloc (Below.alloc (Below.refl _ _) (Nat.le_refl _) _) (by simp) _⟩

theorem ne_map {b t bM n : Nat} {c : List Value} {E : DataW Unit} {W : World} (h : Cl b c t W) (m : W.ownsMap Try.prog 42 (unitElem (H := Unit)) bM n E) : b ≠ bM := by
  rintro rfl
  obtain ⟨es, ck, hm⟩ := mmap_ty m
  unfold Cl at h
  rw [h] at hm
  cases hm
theorem row_ne_map {B e k size bM n : Nat} {v : Value} {xs : List Value} {E : DataW Unit} {W : World} (h : W.ownsRow B e size v k xs) (m : W.ownsMap Try.prog 42 (unitElem (H := Unit)) bM n E) : v.ownBlock ≠ some bM := by
  intro hv
  obtain ⟨c, hc⟩ := mrow_ty h hv
  obtain ⟨es, ck, hm⟩ := mmap_ty m
  rw [hc] at hm
  cases hm
/-- Behind the set's update. -/
structure A4 (bs bl bm bv bM most : Nat) (S : List T3) (t : T3) (aa : Option Addr) (cc : Nat) (w w4 : World) : Prop where
  s : Cl bs [.map (some bM)] 78 w4
  m : Cl bm [.int .i64 (most : Int)] 3 w4
  v : Cl bv [.func (.func 47) #[] (caps bs bl bm bv)] 79 w4
  map : ∃ (E : DataW Unit) (n : Nat), w4.ownsMap Try.prog 42 (unitElem (H := Unit)) bM n E ∧ n ≤ (S ++ [t]).length ∧ Hs3 E (S ++ [t])
  l : Cl bl [.slice aa S.length cc] 36 w4
  r : w4.ownsRow (bl + 1) 42 3 (.slice aa S.length cc) S.length (tcl3 S)
  bx : Cl w.heap.size (tl3 t) 42 w4
  fr : Fr bl bM (Value.slice aa S.length cc).ownBlock w w4
  lt : bl < w.heap.size
  rl : ∀ g, (Value.slice aa S.length cc).ownBlock = some g → g < w.heap.size
theorem a4_of {bs bl bm bv bM most n : Nat} {S : List T3} {t : T3} {aa : Option Addr} {cc : Nat} {E : DataW Unit} {w w4 : World} {o2 : Obj}
    (s : Cl bs [.map (some bM)] 78 w) (m : Cl bm [.int .i64 (most : Int)] 3 w) (v : Cl bv [.func (.func 47) #[] (caps bs bl bm bv)] 79 w)
    (m1 : w.ownsMap Try.prog 42 (unitElem (H := Unit)) bM n E) (m2 : n ≤ S.length) (m3 : Hs3 E S) (l1 : Cl bl [.slice aa S.length cc] 36 w) (l2 : w.ownsRow (bl + 1) 42 3 (.slice aa S.length cc) S.length (tcl3 S))
    (hown : w4.ownsMap Try.prog 42 (unitElem (H := Unit)) bM (n + 1) (E.put (kt3 t) (.agg []))) (hg : ((w.alloc (.cells (tl3 t).toArray 42)).alloc o2).grownBy w4 (some bM)) : A4 bs bl bm bv bM most S t aa cc w w4 := by
  have k : Below w.heap.size w ((w.alloc (.cells (tl3 t).toArray 42)).alloc o2) := Below.alloc (Below.alloc (Below.refl _ _) (Nat.le_refl _) _) (by simp) _
  have hlt : bM < w.heap.size := m1.lt
  refine ⟨(s.below k).grown hg ?_, (m.below k).grown hg ?_, (v.below k).grown hg ?_, ⟨_, n + 1, hown, by rw [List.length_append]; simp; omega, m3.put m1.isMap t _⟩, (l1.below k).grown hg ?_, ?_, (((Cl.new (tl3 t) _ w).alloc _)).grown hg ?_, ?_, l1.lt, fun g hgg => ?_⟩
  · intro e; exact ne_map s m1 (Option.some.inj e).symm
  · intro e; exact ne_map m m1 (Option.some.inj e).symm
  · intro e; exact ne_map v m1 (Option.some.inj e).symm
  · intro e; exact ne_map l1 m1 (Option.some.inj e).symm
  · refine mrow_kept l2 (fun g hgg => ?_)
    obtain ⟨c, hc⟩ := mrow_ty l2 hgg
    have hgl : g < w.heap.size := (Array.getElem?_eq_some_iff.1 hc).1
    refine (hg.block g (Nat.lt_of_lt_of_le hgl k.size) (fun e => ?_)).trans (k.block g hgl)
    exact row_ne_map l2 m1 (by rw [hgg]; exact e)
  · intro e; have := Option.some.inj e; omega
  · refine ⟨hg.os.trans k.os, hg.tape.trans k.tape, hg.output.trans k.output, Nat.le_trans k.size hg.size, fun b hb n1 n2 n3 => (hg.block b (Nat.lt_of_lt_of_le hb k.size) (fun e => n2 (Option.some.inj e))).trans (k.block b hb)⟩
  · obtain ⟨c, hc⟩ := mrow_ty l2 hgg
    exact (Array.getElem?_eq_some_iff.1 hc).1
/-- Behind the append. -/
theorem a7_of {bs bl bm bv bM most g' cap' : Nat} {S : List T3} {t : T3} {aa : Option Addr} {cc : Nat} {w w4 w6 : World} {o5 : Obj} (a : A4 bs bl bm bv bM most S t aa cc w w4) (vs : MV.Vs most (S ++ [t]))
    (hown : w6.ownsRow (bl + 1) 42 3 (.slice (some ⟨g', 0, none⟩) (S.length + 1) cap') (S.length + 1) (tcl3 S ++ tl3 t)) (hg : (w4.alloc o5).grownBy w6 (Value.slice aa S.length cc).ownBlock)
    (hn : (Value.slice (some ⟨g', 0, none⟩) (S.length + 1) cap').ownBlock = (Value.slice aa S.length cc).ownBlock ∨ (Value.slice (some ⟨g', 0, none⟩) (S.length + 1) cap').ownBlock = some (w4.alloc o5).heap.size) :
    Mv bs bl bm bv bM most (S ++ [t]) (some g') (w6.setCell ⟨bl, 0, none⟩ (.slice (some ⟨g', 0, none⟩) (S.length + 1) cap')) ∧ Fr bl bM (Value.slice aa S.length cc).ownBlock w (w6.setCell ⟨bl, 0, none⟩ (.slice (some ⟨g', 0, none⟩) (S.length + 1) cap')) ∧ Nr (Value.slice aa S.length cc).ownBlock (some g') w ∧ Cl w.heap.size (tl3 t) 42 (w6.setCell ⟨bl, 0, none⟩ (.slice (some ⟨g', 0, none⟩) (S.length + 1) cap')) := by
  have k : Below w4.heap.size w4 (w4.alloc o5) := Below.alloc (Below.refl _ _) (Nat.le_refl _) _
  obtain ⟨E, n, e1, e2, e3⟩ := a.map
  have keep : ∀ {b c ty}, Cl b c ty w4 → ty ≠ 42 → Cl b c ty w6 := fun {b c ty} hc ht => (hc.below k).grown hg (fun e => mrow_ne a.r hc ht e)
  have l6 := keep a.l (by decide)
  have set7 : ∀ {b c ty}, Cl b c ty w6 → b ≠ bl → Cl b c ty (w6.setCell ⟨bl, 0, none⟩ (.slice (some ⟨g', 0, none⟩) (S.length + 1) cap')) := fun hc hb => hc.other hb _
  have diff : ∀ {b c ty}, Cl b c ty w4 → ty ≠ 36 → b ≠ bl := fun {b c ty} hc ht e => by
    subst e
    have h2 := a.l
    unfold Cl at hc h2
    rw [hc] at h2
    injection h2 with h2
    injection h2 with _ h3
    exact ht h3
  have hg'b : bl + 1 ≤ g' := (hown.lt g' rfl).1
  have hbl : bl < w.heap.size := a.lt
  have rne : (Value.slice aa S.length cc).ownBlock ≠ some w.heap.size → Cl w.heap.size (tl3 t) 42 w6 := fun h => (a.bx.below k).grown hg h
  have frk : ∀ b, b < w.heap.size → b ≠ bl → b ≠ bM → (Value.slice aa S.length cc).ownBlock ≠ some b → (w6.setCell ⟨bl, 0, none⟩ (.slice (some ⟨g', 0, none⟩) (S.length + 1) cap')).heap[b]? = w.heap[b]? := fun b hb n1 n2 n3 => by
    have s4 : w.heap.size ≤ w4.heap.size := a.fr.size
    refine (Below.heap_setCell w6 ⟨bl, 0, none⟩ _ b n1).trans ((hg.block b (Nat.lt_of_lt_of_le (by omega) k.size) (fun e => n3 e.symm)).trans ((k.block b (by omega)).trans (a.fr.block b hb n1 n2 n3)))
  have kb : Below 0 w6 (w6.setCell ⟨bl, 0, none⟩ (.slice (some ⟨g', 0, none⟩) (S.length + 1) cap')) := Below.setCell (Below.refl _ _) (Nat.zero_le _) _
  have hlen : (S ++ [t]).length = S.length + 1 := by simp
  have htc : tcl3 (S ++ [t]) = tcl3 S ++ tl3 t := by rw [tcl3_append]; simp [tcl3]
  have s4 : w.heap.size ≤ w4.heap.size := a.fr.size
  have s5 : w4.heap.size ≤ (w4.alloc o5).heap.size := k.size
  refine ⟨⟨set7 (keep a.s (by decide)) (diff a.s (by decide)), set7 (keep a.m (by decide)) (diff a.m (by decide)), set7 (keep a.v (by decide)) (diff a.v (by decide)), ⟨E, n, mmap_kept e1 ?_, e2, e3⟩, ⟨some ⟨g', 0, none⟩, cap', ?_, ?_, rfl⟩, vs⟩, ⟨kb.os.trans (hg.os.trans (k.os.trans a.fr.os)), kb.tape.trans (hg.tape.trans (k.tape.trans a.fr.tape)), kb.output.trans (hg.output.trans (k.output.trans a.fr.output)), Nat.le_trans s4 (Nat.le_trans s5 (Nat.le_trans hg.size kb.size)), frk⟩, ?_, set7 (rne (fun e => by have := a.rl _ e; omega)) (diff a.bx (by decide))⟩
  · exact (Below.heap_setCell w6 ⟨bl, 0, none⟩ _ bM (fun e => ne_map a.l e1 e.symm)).trans ((hg.block bM (Nat.lt_of_lt_of_le e1.lt k.size) (fun e => row_ne_map a.r e1 e.symm)).trans (k.block bM e1.lt))
  · rw [hlen]; exact l6.set 0 _
  · rw [hlen, htc]
    refine mrow_kept hown (fun g e => ?_)
    have e' : g' = g := Option.some.inj e
    subst e'
    exact Below.heap_setCell w6 ⟨bl, 0, none⟩ _ g' (by show g' ≠ bl; omega)
  · rcases hn with hn | hn
    · exact .inl hn
    · have e : g' = (w4.alloc o5).heap.size := Option.some.inj hn
      exact .inr ⟨g', rfl, by omega⟩

set_option maxRecDepth 100000 in
set_option maxHeartbeats 8000000 in
theorem visit_new (bs bl bm bv bM most L : Nat) (hV : VisP bs bl bm bv bM most (L + 1)) (hmost : most ≤ 1000000000000000000) (S : List T3) (t : T3) (rb : Option Nat) (w : World) (hL : L ≤ S.length) (h : Mv bs bl bm bv bM most S rb w) (ht : t ∈ MV.tab) (hz : MV.tz t ≤ most) (hin : t ∉ S) :
    Calls Try.prog 47 #[tv3 t, .pointer (some ⟨bs, 0, none⟩), .pointer (some ⟨bl, 0, none⟩), .pointer (some ⟨bm, 0, none⟩), .pointer (some ⟨bv, 0, none⟩)] w fun e w' => (∃ v, e = .returned v) ∧ ∃ (S' : List T3) (rb' : Option Nat), Mv bs bl bm bv bM most S' rb' w' ∧ MV.Df most S S' ∧ t ∈ S' ∧ Fr bl bM rb w w' ∧ Nr rb rb' w := by
  have hlen := h.vs.len
  have hvs : MV.Vs most (S ++ [t]) := h.vs.add hin ht hz
  have HEa : Hid (∀ (rb : Option Nat) (w : World), Mv bs bl bm bv bM most (S ++ [t]) rb w → Calls Try.prog 48 #[tv3 t, .int .i64 (most : Int), .func (.func 47) #[] (caps bs bl bm bv)] w fun e w' => (∃ v, e = .returned v) ∧ ∃ (S' : List T3) (rb' : Option Nat), Mv bs bl bm bv bM most S' rb' w' ∧ MV.Df most (S ++ [t]) S' ∧ (∀ i, i < 3 → MV.okN most t i = true → MV.nbr t i ∈ S') ∧ Fr bl bM rb w w' ∧ Nr rb rb' w) := fun rb w hm => each_any bs bl bm bv bM most (L + 1) hV (S ++ [t]) t rb w (by simp; omega) hmost ht hz hm
  obtain ⟨s, m, v, ⟨E, n, m1, m2, m3⟩, ⟨aa, cc, l1, l2, l3⟩, vs⟩ := h
  subst l3
  have hh : Maps.has E (kt3 t) = false := by rw [m3.has (fun u hu => Fit3.of (vs.tb u hu).1) (Fit3.of ht), decide_eq_false hin]
  have hkey := key3 (Fit3.of ht)
  obtain ⟨k0, hk, hx0, hx1, hx2⟩ := info_parts Try.info3
  have HP : Hid (Try.prog.info? 42 = some k0 ∧ k0.zero = some (.agg #[.int .i64 0, .int .i64 0, .int .i64 0]) ∧ k0.size = 3 ∧ k0.bytes = 24) := ⟨hk, hx0, hx1, hx2⟩
  have c0 : ∀ o : Obj, (w.alloc o).cell? ⟨bs, 0, none⟩ = some (.map (some bM)) := fun o => (s.alloc o).cell 0
  have c1 : ∀ o o' : Obj, ((w.alloc o).alloc o').cell? ⟨bs, 0, none⟩ = some (.map (some bM)) := fun o o' => ((s.alloc o).alloc o').cell 0
  have HMa : Hid (∀ o : Obj, (w.alloc o).ownsMap Try.prog 42 (unitElem (H := Unit)) bM n E) := fun o => mmap_kept m1 ((Below.alloc (Below.refl w.heap.size w) (Nat.le_refl _) o).block bM m1.lt)
  have HMb : Hid (∀ o o' : Obj, ((w.alloc o).alloc o').ownsMap Try.prog 42 (unitElem (H := Unit)) bM n E) := fun o o' => mmap_kept m1 ((Below.alloc (Below.alloc (Below.refl w.heap.size w) (Nat.le_refl _) o) (by simp) o').block bM m1.lt)
  have HA4 : Hid (∀ (o2 : Obj) (w4 : World), w4.ownsMap Try.prog 42 (unitElem (H := Unit)) bM (n + 1) (E.put (kt3 t) (.agg [])) → ((w.alloc (.cells #[.int .i64 (t.1 : Int), .int .i64 (t.2.1 : Int), .int .i64 (t.2.2 : Int)] 42)).alloc o2).grownBy w4 (some bM) → A4 bs bl bm bv bM most S t aa cc w w4) := fun o2 w4 hown hg => a4_of s m v m1 m2 m3 l1 l2 hown hg
  have HVS : Hid (MV.Vs most (S ++ [t])) := hvs
  have hnb : n ≤ 328 := by omega
  clear hV hmost hL ht hz hin s m v m1 m2 m3 l1 l2 vs hvs hk hx0 hx1 hx2
  unfold tv3 at hkey HEa ⊢
  obtain ⟨x, hx⟩ : ∃ x, x = t.1 := ⟨_, rfl⟩
  obtain ⟨y, hy⟩ : ∃ x, x = t.2.1 := ⟨_, rfl⟩
  obtain ⟨z, hzz⟩ : ∃ x, x = t.2.2 := ⟨_, rfl⟩
  have HX : Hid (tl3 t = [.int .i64 (x : Int), .int .i64 (y : Int), .int .i64 (z : Int)]) := by show _ = _; rw [hx, hy, hzz]; rfl
  have HB3 : Hid (∀ (b : Nat) (W : World), Cl b (tl3 t) 42 W → W.cell? ⟨b, 0, none⟩ = some (.int .i64 (x : Int)) ∧ W.cell? ⟨b, 1, none⟩ = some (.int .i64 (y : Int)) ∧ W.cell? ⟨b, 2, none⟩ = some (.int .i64 (z : Int))) := fun b W h => by
    rw [HX.out] at h
    exact ⟨h.cell 0, h.cell 1, h.cell 2⟩
  rw [← hx, ← hy, ← hzz] at hkey HEa HA4
  rw [← hx, ← hy, ← hzz]
  clear hx hy hzz
  go_enter Try.func47, Try.ntmps47
  go_wp2_with (first | (at_lookup; refine wpList_lookup_own_unit _ rfl _ _ 78 rfl 42 80 law3 Try.underlying78 (Try.zeroU _) bM n E rfl (HMa.out _) _ _ rfl hkey ?_; rw [hh]) | (at_mapUpdate; refine wpList_mapUpdate_own _ rfl _ _ _ 78 rfl 42 80 law3 Try.underlying78 (unitElem (H := Unit)) bM n _ rfl (HMb.out _ _) (by unfold maxLen; omega) _ _ _ rfl rfl hkey _ [] unitElem_mk ?_; intro w4 hown4 hgrow4; have A := HA4.out _ w4 hown4 hgrow4; have HA : Hid (A4 bs bl bm bv bM most S t aa cc w w4) := A; have a0 : w4.cell? ⟨bl, 0, none⟩ = some (.slice aa S.length cc) := A.l.cell 0; have a1 : w4.cell? ⟨w.heap.size, 0, none⟩ = some (.int .i64 (x : Int)) := (HB3.out _ _ A.bx).1; have a2 : w4.cell? ⟨w.heap.size, 1, none⟩ = some (.int .i64 (y : Int)) := (HB3.out _ _ A.bx).2.1; have a3 : w4.cell? ⟨w.heap.size, 2, none⟩ = some (.int .i64 (z : Int)) := (HB3.out _ _ A.bx).2.2; clear A hown4 hgrow4) | (at_builtin; refine wpList_append_own_at _ rfl _ _ 36 rfl (bl + 1) 42 k0 (.agg #[.int .i64 0, .int .i64 0, .int .i64 0]) 3 24 Try.underlying36 HP.out.1 HP.out.2.1 HP.out.2.2.1 HP.out.2.2.2 rfl (by decide) (.slice aa S.length cc) S.length (tcl3 S) rfl (HA.out.r.alloc _) ⟨w4.heap.size, 0, none⟩ 1 1 [.int .i64 (x : Int), .int .i64 (y : Int), .int .i64 (z : Int)] rfl rfl (news3 (Cl.new [.int .i64 (x : Int), .int .i64 (y : Int), .int .i64 (z : Int)] 42 w4)) (by simp [Value.oneCell']) (by simp only [maxLen]; omega) (by omega) (by have := HA.out.l.lt; simp <;> omega) ?_; intro v' w6 hown' hgrow _ hblk; obtain ⟨g', cap', rfl⟩ := ownsRow_succ hown'; have L6 : Cl bl [.slice aa S.length cc] 36 w6 := (HA.out.l.alloc _).grown hgrow (mrow_ne HA.out.r HA.out.l (by decide)); have c6 : w6.cell? ⟨bl, 0, none⟩ = some (.slice aa S.length cc) := L6.cell 0; have f6 : w6.frozen? ⟨bl, 0, none⟩ = false := L6.frozen 0; have HG : Hid (Mv bs bl bm bv bM most (S ++ [t]) (some g') (w6.setCell ⟨bl, 0, none⟩ (.slice (some ⟨g', 0, none⟩) (S.length + 1) cap')) ∧ Fr bl bM (Value.slice aa S.length cc).ownBlock w (w6.setCell ⟨bl, 0, none⟩ (.slice (some ⟨g', 0, none⟩) (S.length + 1) cap')) ∧ Nr (Value.slice aa S.length cc).ownBlock (some g') w ∧ Cl w.heap.size (tl3 t) 42 (w6.setCell ⟨bl, 0, none⟩ (.slice (some ⟨g', 0, none⟩) (S.length + 1) cap'))) := a7_of HA.out HVS.out (by have q := HX.out; rw [q]; exact hown') hgrow hblk; have b1 : (w6.setCell ⟨bl, 0, none⟩ (.slice (some ⟨g', 0, none⟩) (S.length + 1) cap')).cell? ⟨w.heap.size, 0, none⟩ = some (.int .i64 (x : Int)) := (HB3.out _ _ HG.out.2.2.2).1; have b2 : (w6.setCell ⟨bl, 0, none⟩ (.slice (some ⟨g', 0, none⟩) (S.length + 1) cap')).cell? ⟨w.heap.size, 1, none⟩ = some (.int .i64 (y : Int)) := (HB3.out _ _ HG.out.2.2.2).2.1; have b3 : (w6.setCell ⟨bl, 0, none⟩ (.slice (some ⟨g', 0, none⟩) (S.length + 1) cap')).cell? ⟨w.heap.size, 2, none⟩ = some (.int .i64 (z : Int)) := (HB3.out _ _ HG.out.2.2.2).2.2; have b4 : (w6.setCell ⟨bl, 0, none⟩ (.slice (some ⟨g', 0, none⟩) (S.length + 1) cap')).cell? ⟨bm, 0, none⟩ = some (.int .i64 (most : Int)) := HG.out.1.m.cell 0; have b5 : (w6.setCell ⟨bl, 0, none⟩ (.slice (some ⟨g', 0, none⟩) (S.length + 1) cap')).cell? ⟨bv, 0, none⟩ = some (.func (.func 47) #[] (caps bs bl bm bv)) := HG.out.1.v.cell 0; clear L6 hown' hgrow hblk))
  refine (HEa.out _ _ HG.out.1).mono ?_
  rintro e w8 ⟨⟨v8, rfl⟩, S', rb', m8, d8, n8, f8, r8⟩
  have HE : Hid (Mv bs bl bm bv bM most S' rb' w8 ∧ MV.Df most S S' ∧ t ∈ S' ∧ Fr bl bM (Value.slice aa S.length cc).ownBlock w w8 ∧ Nr (Value.slice aa S.length cc).ownBlock rb' w) := by
    have dv := d8.visit n8
    exact ⟨m8, dv.1, dv.2, HG.out.2.1.trans HG.out.2.2.1 f8, Nr.trans HG.out.2.1 HG.out.2.2.1 r8⟩
  clear m8 d8 n8 f8 r8 b1 b2 b3 b4 b5 c6 f6
  go_wp2
  exact bodyPost_end (results_none rfl _ _ _) rfl ⟨⟨_, rfl⟩, S', rb', HE.out⟩

/-- A visit, whatever has been visited. -/
theorem vis_all (bs bl bm bv bM most : Nat) (hmost : most ≤ 1000000000000000000) : ∀ k L, 329 ≤ L + k → VisP bs bl bm bv bM most L
  | 0, L, h => fun S t rb W hL hm => by
    have := hm.vs.len
    omega
  | k + 1, L, h => fun S t rb W hL hm ht hz => by
    by_cases hin : t ∈ S
    · refine (visit_in bs bl bm bv bM most S t rb W hm ht hin).mono ?_
      rintro e w' ⟨hv, kb⟩
      exact ⟨hv, S, rb, hm.below kb, MV.Df.refl hm.vs, hin, Fr.below kb, .inl rfl⟩
    · exact visit_new bs bl bm bv bM most L (vis_all bs bl bm bv bM most hmost k (L + 1) (by omega)) hmost S t rb W hL hm ht hz hin

end Go.Proofs.Ytcbepaionliepaa
