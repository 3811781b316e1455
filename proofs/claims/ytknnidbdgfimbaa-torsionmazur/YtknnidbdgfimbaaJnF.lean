import Derived.Test.YtknnidbdgfimbaaTpF
import Derived.Test.YtknnidbdgfimbaaTnO
section
/- The program: torsion.Shape. -/
set_option linter.unusedSimpArgs false
set_option linter.unusedVariables false
set_option maxRecDepth 100000
namespace Go.Proofs.Ytknnidbdgfimbaa
open Go.RowKit TN

/-- The greatest order. -/
def mxo (l : Its) : Nat := l.foldl (fun m q => max m q.2.2.2) 0
theorem mxo_append (l : Its) (q : Int × Int × Bool × Nat) : mxo (l ++ [q]) = max (mxo l) q.2.2.2 := by
  unfold mxo
  rw [List.foldl_append]
  rfl
/-- Shape's variables: how many there are, the greatest order; and the fault's. -/
structure StS (w0 : World) (bM bN bF : Nat) (l : Its) (W : World) : Prop where
  m : Cl bM [.int .i64 l.length] 3 W
  n : Cl bN [.int .i64 (mxo l)] 3 W
  f : Cl bF [.int .i64 0, .int .i64 0] 23 W
  b : mxo l ≤ 12
  ne : bM ≠ bN ∧ w0.heap.size ≤ bM ∧ w0.heap.size ≤ bN ∧ bF ≠ bM ∧ bF ≠ bN
  k : Below w0.heap.size w0 W
theorem StS.below {w0 : World} {bM bN bF : Nat} {l : Its} {W W' : World} (h : StS w0 bM bN bF l W) (k : Below W.heap.size W W') : StS w0 bM bN bF l W' :=
  ⟨h.m.below k, h.n.below k, h.f.below k, h.b, h.ne, h.k.trans (k.mono h.k.size)⟩

set_option maxHeartbeats 2000000 in
theorem shapeOne_any (w0 : World) (bM bN bF : Nat) (l : Its) (x y : Int) (f : Bool) (n : Nat) (w : World) (hs : StS w0 bM bN bF l w) (hl : l.length ≤ 4000) (hn : n ≤ 12) :
    Calls Try.prog 26 #[.agg #[.int .i64 x, .int .i64 y, .bool f], .int .i64 n, .pointer (some ⟨bM, 0, none⟩), .pointer (some ⟨bN, 0, none⟩)] w fun e w' => (∃ v, e = .returned v) ∧ StS w0 bM bN bF (l ++ [(x, y, f, n)]) w' ∧ Kp w w' := by
  have S0 := hs.below (tala w (.cells #[.int .i64 x, .int .i64 y, .bool f] 30))
  obtain ⟨W, hW⟩ : ∃ W, w.alloc (.cells #[.int .i64 x, .int .i64 y, .bool f] 30) = W := ⟨_, rfl⟩
  have K0 : Kp w W := by rw [← hW]; exact Kp.below (tala w _)
  have hmb := hs.b
  obtain ⟨M, hM⟩ : ∃ M, mxo l = M := ⟨_, rfl⟩
  obtain ⟨L, hL⟩ : ∃ L, l.length = L := ⟨_, rfl⟩
  rw [hW] at S0
  have m0 : W.cell? ⟨bM, 0, none⟩ = some (.int .i64 L) := by rw [← hL]; exact S0.m.cell 0
  have n0 : W.cell? ⟨bN, 0, none⟩ = some (.int .i64 M) := by rw [← hM]; exact S0.n.cell 0
  have mf := S0.m.frozen 0
  have nf' := S0.n.frozen 0
  have hne : ¬ bM = bN := S0.ne.1
  have hne2 : ¬ bN = bM := fun e => hne e.symm
  have n1 : ∀ v, (W.setCell ⟨bM, 0, none⟩ v).cell? ⟨bN, 0, none⟩ = some (.int .i64 M) := fun v => by rw [← hM]; exact (S0.n.other (p := ⟨bM, 0, none⟩) hne2 v).cell 0
  have n2 : ∀ v, (W.setCell ⟨bM, 0, none⟩ v).frozen? ⟨bN, 0, none⟩ = false := fun v => (S0.n.other (p := ⟨bM, 0, none⟩) hne2 v).frozen 0
  rw [hM] at hmb
  rw [hL] at hl
  have HE : Hid (StS w0 bM bN bF (l ++ [(x, y, f, n)]) ((W.setCell ⟨bM, 0, none⟩ (.int .i64 ((L : Int) + 1))).setCell ⟨bN, 0, none⟩ (.int .i64 ((max M n : Nat) : Int))) ∧ Kp w ((W.setCell ⟨bM, 0, none⟩ (.int .i64 ((L : Int) + 1))).setCell ⟨bN, 0, none⟩ (.int .i64 ((max M n : Nat) : Int)))) := by
    obtain ⟨e1, e2, e3, e4, e5⟩ := S0.ne
    refine ⟨⟨?_, ?_, ?_, ?_, S0.ne, ?_⟩, ⟨?_, ?_, ?_⟩⟩
    · rw [List.length_append, hL]; exact (S0.m.set 0 _).other (p := ⟨bN, 0, none⟩) e1 _
    · rw [mxo_append, hM]; exact (S0.n.other (p := ⟨bM, 0, none⟩) hne2 _).set 0 _
    · exact (S0.f.other (p := ⟨bM, 0, none⟩) e4 _).other (p := ⟨bN, 0, none⟩) e5 _
    · rw [mxo_append, hM]; show max M n ≤ 12; omega
    · exact (S0.k.setCell e2 _).setCell e3 _
    · have := K0.size; simp; exact this
    · intro b c hc
      have hc := K0.g b c hc
      refine (hc.other (p := ⟨bM, 0, none⟩) ?_ _).other (p := ⟨bN, 0, none⟩) ?_ _
      · intro e; have e' : b = bM := e; subst e'; have := S0.m.symm.trans hc; injection this with this; injection this with _ this; exact absurd this (by decide)
      · intro e; have e' : b = bN := e; subst e'; have := S0.n.symm.trans hc; injection this with this; injection this with _ this; exact absurd this (by decide)
    · intro b c hc
      have hc := K0.f b c hc
      refine (hc.other (p := ⟨bM, 0, none⟩) ?_ _).other (p := ⟨bN, 0, none⟩) ?_ _
      · intro e; have e' : b = bM := e; subst e'; have := S0.m.symm.trans hc; injection this with this; injection this with _ this; exact absurd this (by decide)
      · intro e; have e' : b = bN := e; subst e'; have := S0.n.symm.trans hc; injection this with this; injection this with _ this; exact absurd this (by decide)
  have hmx : max (M : Int) (n : Int) = ((max M n : Nat) : Int) := by omega
  clear S0 K0 hs hM hL
  go_enter Try.func26, Try.ntmps26
  go_wp2
  exact bodyPost_end (results_none rfl _ _ _) rfl ⟨⟨_, rfl⟩, HE.out⟩
theorem shapeDc (w0 : World) (bM bN bF : Nat) : Dc 26 #[.pointer (some ⟨bM, 0, none⟩), .pointer (some ⟨bN, 0, none⟩)] (StS w0 bM bN bF) :=
  ⟨fun l W W' h k => h.below k, fun l x y f n W h hl hn => shapeOne_any w0 bM bN bF l x y f n W h hl hn⟩

set_option maxHeartbeats 2000000 in
theorem eachS_any (w0 : World) (bM bN bF : Nat) (a b : Int) (w : World) (h : Cu a b) (hs : StS w0 bM bN bF [] w) :
    Calls Try.prog 18 #[Tv a b, .func (.func 26) #[] #[.pointer (some ⟨bM, 0, none⟩), .pointer (some ⟨bN, 0, none⟩)]] w fun e w' => (∃ v, e = .returned v) ∧ StS w0 bM bN bF ((0, 0, true, 1) :: lkI a b) w' := by
  have HD : Hid (Dc 26 #[.pointer (some ⟨bM, 0, none⟩), .pointer (some ⟨bN, 0, none⟩)] (StS w0 bM bN bF)) := shapeDc w0 bM bN bF
  have HC : Hid (Cu a b) := h
  have HS0 : Hid (Sx 26 #[.pointer (some ⟨bM, 0, none⟩), .pointer (some ⟨bN, 0, none⟩)] (StS w0 bM bN bF) w.heap.size (w.heap.size + 1) a b [] ((w.alloc (.cells #[.int .i64 a, .int .i64 b, .int .i64 (dis a b)] 45)).alloc (.cells #[.func (.func 26) #[] #[.pointer (some ⟨bM, 0, none⟩), .pointer (some ⟨bN, 0, none⟩)]] 48))) :=
    ⟨hs.below ((tala _ _).trans ((tala _ _).mono (by simp))), (Cl.new (Tl a b) _ w).alloc _, tcnew _ [.func (.func 26) #[] #[.pointer (some ⟨bM, 0, none⟩), .pointer (some ⟨bN, 0, none⟩)]] _ _ (by simp)⟩
  clear h hs
  unfold Tv
  go_enter Try.func18, Try.ntmps18
  go_wp2_with fail
  refine (HD.out.call [] 0 0 true 1 _ HS0.out.s (by simp) (by omega)).mono ?_
  rintro e w1 ⟨⟨v, rfl⟩, s1, k1⟩
  have S1 : Sx 26 #[.pointer (some ⟨bM, 0, none⟩), .pointer (some ⟨bN, 0, none⟩)] (StS w0 bM bN bF) w.heap.size (w.heap.size + 1) a b [(0, 0, true, 1)] w1 := ⟨s1, k1.g _ _ HS0.out.g, k1.f _ _ HS0.out.d⟩
  have HS1 : Hid (Sx 26 #[.pointer (some ⟨bM, 0, none⟩), .pointer (some ⟨bN, 0, none⟩)] (StS w0 bM bN bF) w.heap.size (w.heap.size + 1) a b [(0, 0, true, 1)] w1) := S1
  have g0 : w1.cell? ⟨w.heap.size, 0, none⟩ = some (.int .i64 a) := S1.g.cell 0
  have g1 : w1.cell? ⟨w.heap.size, 1, none⟩ = some (.int .i64 b) := S1.g.cell 1
  have g2 : w1.cell? ⟨w.heap.size, 2, none⟩ = some (.int .i64 (dis a b)) := S1.g.cell 2
  clear s1 k1 S1 HS0
  go_wp2_with fail
  refine (eachLikely_any 26 #[.pointer (some ⟨bM, 0, none⟩), .pointer (some ⟨bN, 0, none⟩)] (StS w0 bM bN bF) a b [(0, 0, true, 1)] w.heap.size (w.heap.size + 1) w1 HC.out (by simp) HD.out (fun l x y W hl hn hs => eachOneS bM bN (StS w0 bM bN bF) HD.out a b x y l _ _ W HC.out hl hs hn) HS1.out).mono ?_
  rintro e w2 ⟨⟨v2, rfl⟩, s2⟩
  have HE : Hid (StS w0 bM bN bF ((0, 0, true, 1) :: lkI a b) w2) := by
    have h2 := s2.s
    rw [List.singleton_append] at h2
    exact h2
  clear s2
  go_wp2
  exact bodyPost_end (results_none rfl _ _ _) rfl ⟨⟨_, rfl⟩, HE.out⟩

/-- What Shape holds in memory behind Check. -/
structure Tn (z gb : Nat) (c d : Int) (w W : World) : Prop where
  n : Cl z [.int .i64 0] 3 W
  f : Cl (z + 1) [.int .i64 0, .int .i64 0] 23 W
  e : Cl gb [.int .i64 c, .int .i64 d] 23 W
  ne : z + 1 < gb
  k : Below z w W
set_option maxHeartbeats 2000000 in
theorem tShape_bad (a b : Int) (w : World) (hc : (tf a b).1 ≠ 0) :
    Calls Try.prog 11 #[.int .i64 a, .int .i64 b] w fun e w' => e = .returned (.tuple #[.int .i64 0, .int .i64 0, .agg #[.int .i64 (tf a b).1, .int .i64 (tf a b).2]]) ∧ Below w.heap.size w w' := by
  have HCk : Hid (∀ w, Calls Try.prog 5 #[.int .i64 a, .int .i64 b] w fun e w' => e = .returned (.agg #[.int .i64 (tf a b).1, .int .i64 (tf a b).2]) ∧ Below w.heap.size w w') := fun w => tCheck_any a b w
  obtain ⟨c, hc1⟩ : ∃ c, (tf a b).1 = c := ⟨_, rfl⟩
  obtain ⟨d, hd1⟩ : ∃ d, (tf a b).2 = d := ⟨_, rfl⟩
  rw [hc1, hd1] at HCk ⊢
  rw [hc1] at hc
  have hcb : (c != 0) = true := by simp [bne]; exact hc
  clear hc hc1 hd1
  go_enter Try.func11, Try.ntmps11
  go_wp2_with fail
  have Cn : Cl w.heap.size [.int .i64 0] 3 ((w.alloc (.cells #[.int .i64 0] 3)).alloc (.cells #[.int .i64 0, .int .i64 0] 23)) := (Cl.new _ _ w).alloc _
  have Ce : Cl (w.heap.size + 1) [.int .i64 0, .int .i64 0] 23 ((w.alloc (.cells #[.int .i64 0] 3)).alloc (.cells #[.int .i64 0, .int .i64 0] 23)) := tcnew _ [.int .i64 0, .int .i64 0] _ _ (by simp)
  have K0 : Below w.heap.size w ((w.alloc (.cells #[.int .i64 0] 3)).alloc (.cells #[.int .i64 0, .int .i64 0] 23)) := (tala _ _).trans ((tala _ _).mono (by simp))
  refine (HCk.out _).mono ?_
  rintro e w1 ⟨rfl, k1⟩
  have K1 : Below w.heap.size w w1 := K0.trans (k1.mono K0.size)
  have HM : Hid (Tn w.heap.size w1.heap.size c d w (w1.alloc (.cells #[.int .i64 c, .int .i64 d] 23))) :=
    ⟨(Cn.below k1).alloc _, (Ce.below k1).alloc _, Cl.new [.int .i64 c, .int .i64 d] _ w1, (Ce.below k1).lt, K1.alloc K1.size _⟩
  clear Cn Ce K0 K1 k1 HCk
  go_wp2
  generalize hW : World.alloc _ _ = W at HM ⊢
  have n5 : ¬ w.heap.size = w1.heap.size := by have := HM.out.ne; omega
  have n6 : ¬ w1.heap.size = w.heap.size := by have := HM.out.ne; omega
  have n7 : ¬ w.heap.size + 1 = w1.heap.size := by have := HM.out.ne; omega
  have n8 : ¬ w1.heap.size = w.heap.size + 1 := by have := HM.out.ne; omega
  clear hW
  have f9 : W.cell? ⟨w.heap.size, 0, none⟩ = some (.int .i64 0) := HM.out.n.cell 0
  have f8 := HM.out.n.frozen 0
  have f0 : W.cell? ⟨w.heap.size + 1, 0, none⟩ = some (.int .i64 0) := HM.out.f.cell 0
  have f1 : W.cell? ⟨w.heap.size + 1, 1, none⟩ = some (.int .i64 0) := HM.out.f.cell 1
  have f3 := HM.out.f.frozen 0
  have f4 := HM.out.f.frozen 1
  have c0 : W.cell? ⟨w1.heap.size, 0, none⟩ = some (.int .i64 c) := HM.out.e.cell 0
  have c1 : W.cell? ⟨w1.heap.size, 1, none⟩ = some (.int .i64 d) := HM.out.e.cell 1
  go_region
  all_goals
    go_wp2
    refine bodyPost_ret (v := .tuple #[.int .i64 0, .int .i64 0, .agg #[.int .i64 c, .int .i64 d]]) (by simp [results, Try.results11, go_sem, f0, f1, f9]) rfl ⟨rfl, ?_⟩
    first
    | exact (Below.setCell (Below.setCell (Below.setCell HM.out.k.drew (by simp) _) (by simp) _) (by simp) _)
    | exact (Below.setCell (Below.setCell (Below.setCell HM.out.k (by simp) _) (by simp) _) (by simp) _).drew

end Go.Proofs.Ytknnidbdgfimbaa
end

section
/- The program: torsion.Shape, where there is no fault. -/
set_option linter.unusedSimpArgs false
set_option linter.unusedVariables false
set_option maxRecDepth 100000
namespace Go.Proofs.Ytknnidbdgfimbaa
open Go.RowKit TN

theorem foldl_ge (l : Its) : ∀ m : Nat, m ≤ l.foldl (fun m q => max m q.2.2.2) m := by
  induction l with
  | nil => intro m; exact Nat.le_refl _
  | cons q l ih => intro m; rw [List.foldl_cons]; have := ih (max m q.2.2.2); omega
theorem mxo_one (l : Its) : 1 ≤ mxo ((0, 0, true, 1) :: l) := by
  unfold mxo
  rw [List.foldl_cons]
  exact foldl_ge l 1

set_option maxHeartbeats 4000000 in
theorem tShape_ok (a b : Int) (w : World) (h : Cu a b) :
    Calls Try.prog 11 #[.int .i64 a, .int .i64 b] w fun e w' => e = .returned (.tuple #[.int .i64 ((((lkI a b).length + 1) / mxo ((0, 0, true, 1) :: lkI a b) : Nat) : Int), .int .i64 (mxo ((0, 0, true, 1) :: lkI a b)), .agg #[.int .i64 0, .int .i64 0]]) ∧ mxo ((0, 0, true, 1) :: lkI a b) ≤ 12 ∧ Below w.heap.size w w' := by
  have HCk : Hid (∀ w, Calls Try.prog 5 #[.int .i64 a, .int .i64 b] w fun e w' => e = .returned (.agg #[.int .i64 0, .int .i64 0]) ∧ Below w.heap.size w w') := fun w => by
    have := tCheck_any a b w
    rw [tf_cu h] at this
    exact this
  have HG : Hid (∀ w, Calls Try.prog 17 #[.int .i64 a, .int .i64 b] w fun e w' => e = .returned (Tv a b) ∧ Below w.heap.size w w') := fun w => groupOf_any a b w h
  have HC : Hid (Cu a b) := h
  have hm1 := mxo_one (lkI a b)
  have hlen := lkI_len a b
  obtain ⟨M, hM⟩ : ∃ M, mxo ((0, 0, true, 1) :: lkI a b) = M := ⟨_, rfl⟩
  obtain ⟨L, hL⟩ : ∃ L, (lkI a b).length + 1 = L := ⟨_, rfl⟩
  obtain ⟨Q, hQ⟩ : ∃ Q : Nat, L / M = Q := ⟨_, rfl⟩
  have hL2 : L ≤ 3265 := by omega
  rw [hM] at hm1
  rw [hM, hL, hQ]
  have HML : Hid (mxo ((0, 0, true, 1) :: lkI a b) = M ∧ (lkI a b).length + 1 = L) := ⟨hM, hL⟩
  have hQi : (L : Int) / (M : Int) = (Q : Int) := by rw [← hQ]; simp
  have hQt : (L : Int).tdiv (M : Int) = (Q : Int) := by rw [← hQ]; simp
  have hQb : Q ≤ L := by rw [← hQ]; exact Nat.div_le_self _ _
  clear h hM hL hQ hlen
  go_enter Try.func11, Try.ntmps11
  go_wp2_with fail
  have Cn : Cl w.heap.size [.int .i64 0] 3 ((w.alloc (.cells #[.int .i64 0] 3)).alloc (.cells #[.int .i64 0, .int .i64 0] 23)) := (Cl.new _ _ w).alloc _
  have Ce : Cl (w.heap.size + 1) [.int .i64 0, .int .i64 0] 23 ((w.alloc (.cells #[.int .i64 0] 3)).alloc (.cells #[.int .i64 0, .int .i64 0] 23)) := tcnew _ [.int .i64 0, .int .i64 0] _ _ (by simp)
  have K0 : Below w.heap.size w ((w.alloc (.cells #[.int .i64 0] 3)).alloc (.cells #[.int .i64 0, .int .i64 0] 23)) := (tala _ _).trans ((tala _ _).mono (by simp))
  refine (HCk.out _).mono ?_
  rintro e w1 ⟨rfl, k1⟩
  have K1 : Below w.heap.size w w1 := K0.trans (k1.mono K0.size)
  have HM : Hid (Tn w.heap.size w1.heap.size 0 0 w (w1.alloc (.cells #[.int .i64 0, .int .i64 0] 23))) :=
    ⟨(Cn.below k1).alloc _, (Ce.below k1).alloc _, Cl.new [.int .i64 0, .int .i64 0] _ w1, (Ce.below k1).lt, K1.alloc K1.size _⟩
  clear Cn Ce K0 K1 k1 HCk
  go_wp2_with fail
  refine (HG.out _).mono ?_
  rintro e w2 ⟨rfl, k2⟩
  have HS2 : Hid (StS w (w1.heap.size + 1) w.heap.size (w.heap.size + 1) [] w2) := by
    have hne := HM.out.ne
    refine ⟨?_, (HM.out.n.alloc _).below k2, (HM.out.f.alloc _).below k2, by decide, ⟨by omega, by omega, by omega, by omega, by omega⟩, ?_⟩
    · exact (tcnew _ [.int .i64 0] 3 (w1.heap.size + 1) (by simp)).below k2
    · exact (HM.out.k.alloc (by have := HM.out.k.size; exact this) _).trans (k2.mono (by have := HM.out.k.size; simp at this ⊢; omega))
  clear k2 HG HM
  unfold Tv
  go_wp2_with fail
  refine (eachS_any w (w1.heap.size + 1) w.heap.size (w.heap.size + 1) a b w2 HC.out HS2.out).mono ?_
  rintro e w3 ⟨⟨v3, rfl⟩, s3⟩
  obtain ⟨hM, hL⟩ := HML.out
  have hLL : ((0, 0, true, 1) :: lkI a b).length = L := by rw [List.length_cons, hL]
  have m0 : w3.cell? ⟨w1.heap.size + 1, 0, none⟩ = some (.int .i64 L) := by rw [← hLL]; exact s3.m.cell 0
  have n0 : w3.cell? ⟨w.heap.size, 0, none⟩ = some (.int .i64 M) := by rw [← hM]; exact s3.n.cell 0
  have n1 := s3.n.frozen 0
  have f0 : w3.cell? ⟨w.heap.size + 1, 0, none⟩ = some (.int .i64 0) := s3.f.cell 0
  have f1 : w3.cell? ⟨w.heap.size + 1, 1, none⟩ = some (.int .i64 0) := s3.f.cell 1
  have f3 := s3.f.frozen 0
  have f4 := s3.f.frozen 1
  have hb := s3.b
  rw [hM] at hb
  have HK : Hid (Below w.heap.size w w3 ∧ M ≤ 12) := ⟨s3.k, hb⟩
  have n7 : ¬ w1.heap.size + 1 = w.heap.size := s3.ne.1
  have n8 : ¬ w.heap.size = w1.heap.size + 1 := fun e => n7 e.symm
  have n9 : ¬ w1.heap.size + 1 = w.heap.size + 1 := fun e => s3.ne.2.2.2.1 e.symm
  have n10 : ¬ w.heap.size + 1 = w1.heap.size + 1 := s3.ne.2.2.2.1
  have hz : ((M : Int) == 0) = false := beq_eq_false_iff_ne.2 (by omega)
  clear s3 HS2 hM hL hLL HML
  go_wp2
  go_region
  all_goals
    go_wp2
    refine bodyPost_ret (v := .tuple #[.int .i64 Q, .int .i64 M, .agg #[.int .i64 0, .int .i64 0]]) (by simp [results, Try.results11, go_sem, f0, f1, n0]) rfl ⟨rfl, HK.out.2, ?_⟩
    first
    | exact (Below.setCell (Below.setCell (Below.setCell HK.out.1.drew (by simp) _) (by simp) _) (by simp) _)
    | exact (Below.setCell (Below.setCell (Below.setCell HK.out.1 (by simp) _) (by simp) _) (by simp) _).drew

end Go.Proofs.Ytknnidbdgfimbaa
end

section
/- Plain facts: the points of the curves 0, 1 and -1, 0. -/
set_option linter.unusedVariables false
set_option maxRecDepth 100000
namespace Go.Proofs.Ytknnidbdgfimbaa
namespace TN

theorem lkA_skip {a b lo : Int} (m n : Nat) (h : ∀ i : Nat, i < m → lkL a b (lo + i) = []) : lkA a b lo (m + n) = lkA a b (lo + m) n := by
  rw [lkA_add, lkA_none m h, List.nil_append]
theorem lkA_one {a b lo : Int} (n : Nat) : lkA a b lo (1 + n) = lkL a b lo ++ lkA a b (lo + 1) n := by
  rw [lkA_add]
  congr 1
  show [] ++ lkL a b (lo + ((0 : Nat) : Int)) = _
  simp
theorem cu1 : Cu 0 1 := ⟨by decide, by decide, by decide, by decide, by decide⟩
theorem cu2 : Cu (-1) 0 := ⟨by decide, by decide, by decide, by decide, by decide⟩
theorem sq_small {y : Int} {m : Nat} (h : (y * y : Int) = m) : y.natAbs * y.natAbs = m := by
  have := Int.natAbs_mul_self (a := y)
  rw [h] at this
  exact_mod_cast this
/-- A square that divides is small. -/
theorem dv_small {D : Int} {y : Int} (h : y = 0 ∨ D % (y * y) = 0) (hD : D ≠ 0) : y.natAbs * y.natAbs ≤ D.natAbs := by
  rcases h with h | h
  · subst h; simp
  · have h1 := Int.dvd_of_emod_eq_zero h
    have h2 := Int.natAbs_dvd_natAbs.2 h1
    rw [Int.natAbs_mul] at h2
    exact Nat.le_of_dvd (by omega) h2
theorem lk1 {x y : Int} (h : Lk 0 1 x y) : x = -1 ∨ x = 0 ∨ x = 2 := by
  have h1 := dv_small h.dv (by decide)
  have h2 := h.on
  have hr := h.range cu1
  have hy : y.natAbs ≤ 5 := by
    rcases Nat.lt_or_ge 5 y.natAbs with g | g
    · have := Nat.mul_le_mul (show 6 ≤ y.natAbs by omega) (show 6 ≤ y.natAbs by omega)
      have e : (dis 0 1).natAbs = 27 := by decide
      omega
    · exact g
  have hx : x ≤ 3 := by
    rcases Int.lt_or_le 3 x with g | g
    · have h3 : 16 ≤ x * x := by
        have := Int.mul_nonneg (show 0 ≤ x - 4 by omega) (show 0 ≤ x + 4 by omega)
        have e : (x - 4) * (x + 4) = x * x - 16 := by grind
        omega
      have h4 := Int.mul_le_mul h3 (show 4 ≤ x by omega) (by decide) (by omega)
      unfold cub at h2
      have h5 : y * y ≤ 25 := by
        have := Int.natAbs_mul_self (a := y)
        have := Nat.mul_le_mul hy hy
        omega
      omega
    · exact g
  have key : ∀ X : Fin 36, ∀ Y : Fin 11, ((Y.1 : Int) - 5) * ((Y.1 : Int) - 5) = cub 0 1 ((X.1 : Int) - 32) → (((Y.1 : Int) - 5) = 0 ∨ dis 0 1 % (((Y.1 : Int) - 5) * ((Y.1 : Int) - 5)) = 0) → ((X.1 : Int) - 32) = -1 ∨ ((X.1 : Int) - 32) = 0 ∨ ((X.1 : Int) - 32) = 2 := by decide
  have := key ⟨(x + 32).toNat, by omega⟩ ⟨(y + 5).toNat, by omega⟩
  have ex : (((x + 32).toNat : Nat) : Int) - 32 = x := by omega
  have ey : (((y + 5).toNat : Nat) : Int) - 5 = y := by omega
  simp only [ex, ey] at this
  exact this h2 h.dv
theorem lk2 {x y : Int} (h : Lk (-1) 0 x y) : x = -1 ∨ x = 0 ∨ x = 1 := by
  have h1 := dv_small h.dv (by decide)
  have h2 := h.on
  have hr := h.range cu2
  have hy : y.natAbs ≤ 2 := by
    rcases Nat.lt_or_ge 2 y.natAbs with g | g
    · have := Nat.mul_le_mul (show 3 ≤ y.natAbs by omega) (show 3 ≤ y.natAbs by omega)
      have e : (dis (-1) 0).natAbs = 4 := by decide
      omega
    · exact g
  have hx : x ≤ 3 := by
    rcases Int.lt_or_le 3 x with g | g
    · have h3 : 16 ≤ x * x := by
        have := Int.mul_nonneg (show 0 ≤ x - 4 by omega) (show 0 ≤ x + 4 by omega)
        have e : (x - 4) * (x + 4) = x * x - 16 := by grind
        omega
      have h4 := Int.mul_nonneg (show 0 ≤ x * x - 16 by omega) (show 0 ≤ x by omega)
      have e4 : (x * x - 16) * x = x * x * x - 16 * x := by grind
      unfold cub at h2
      have h5 : y * y ≤ 4 := by
        have := Int.natAbs_mul_self (a := y)
        have := Nat.mul_le_mul hy hy
        omega
      omega
    · exact g
  have key : ∀ X : Fin 36, ∀ Y : Fin 5, ((Y.1 : Int) - 2) * ((Y.1 : Int) - 2) = cub (-1) 0 ((X.1 : Int) - 32) → (((Y.1 : Int) - 2) = 0 ∨ dis (-1) 0 % (((Y.1 : Int) - 2) * ((Y.1 : Int) - 2)) = 0) → ((X.1 : Int) - 32) = -1 ∨ ((X.1 : Int) - 32) = 0 ∨ ((X.1 : Int) - 32) = 1 := by decide
  have := key ⟨(x + 32).toNat, by omega⟩ ⟨(y + 2).toNat, by omega⟩
  have ex : (((x + 32).toNat : Nat) : Int) - 32 = x := by omega
  have ey : (((y + 2).toNat : Nat) : Int) - 2 = y := by omega
  simp only [ex, ey] at this
  exact this h2 h.dv
theorem list1 : lkA 0 1 (-32) 1632 = [(-1, 0), (0, -1), (0, 1), (2, -3), (2, 3)] := by
  have no : ∀ x : Int, x ≠ -1 → x ≠ 0 → x ≠ 2 → lkL 0 1 x = [] := fun x h1 h2 h3 => lkL_none fun y h => by rcases lk1 h with g | g | g <;> omega
  have a1 : lkL 0 1 (-1) = [(-1, 0)] := lkL_zero ⟨by decide, by decide⟩
  have a2 : lkL 0 1 0 = [(0, -1), (0, 1)] := lkL_pos (y := 1) (by decide) ⟨by decide, by decide⟩
  have a3 : lkL 0 1 2 = [(2, -3), (2, 3)] := lkL_pos (y := 3) (by decide) ⟨by decide, by decide⟩
  rw [show 1632 = 31 + (1 + (1 + (1 + (1 + (1597 + 0))))) from rfl, lkA_skip 31 _ (fun i hi => no _ (by omega) (by omega) (by omega))]
  rw [show (-32 : Int) + ((31 : Nat) : Int) = -1 by decide, lkA_one, a1, show (-1 : Int) + 1 = 0 by decide, lkA_one, a2, show (0 : Int) + 1 = 1 by decide, lkA_one, no 1 (by decide) (by decide) (by decide), show (1 : Int) + 1 = 2 by decide, lkA_one, a3, lkA_skip 1597 0 (fun i hi => no _ (by omega) (by omega) (by omega))]
  rfl
theorem list2 : lkA (-1) 0 (-32) 1632 = [(-1, 0), (0, 0), (1, 0)] := by
  have no : ∀ x : Int, x ≠ -1 → x ≠ 0 → x ≠ 1 → lkL (-1) 0 x = [] := fun x h1 h2 h3 => lkL_none fun y h => by rcases lk2 h with g | g | g <;> omega
  have a1 : lkL (-1) 0 (-1) = [(-1, 0)] := lkL_zero ⟨by decide, by decide⟩
  have a2 : lkL (-1) 0 0 = [(0, 0)] := lkL_zero ⟨by decide, by decide⟩
  have a3 : lkL (-1) 0 1 = [(1, 0)] := lkL_zero ⟨by decide, by decide⟩
  rw [show 1632 = 31 + (1 + (1 + (1 + (1598 + 0)))) from rfl, lkA_skip 31 _ (fun i hi => no _ (by omega) (by omega) (by omega))]
  rw [show (-32 : Int) + ((31 : Nat) : Int) = -1 by decide, lkA_one, a1, show (-1 : Int) + 1 = 0 by decide, lkA_one, a2, show (0 : Int) + 1 = 1 by decide, lkA_one, a3, lkA_skip 1598 0 (fun i hi => no _ (by omega) (by omega) (by omega))]
  rfl
theorem lkI1 : lkI 0 1 = [(-1, 0, false, 2), (0, -1, false, 3), (0, 1, false, 3), (2, -3, false, 6), (2, 3, false, 6)] := by
  unfold lkI
  rw [list1]
  decide
theorem lkI2 : lkI (-1) 0 = [(-1, 0, false, 2), (0, 0, false, 2), (1, 0, false, 2)] := by
  unfold lkI
  rw [list2]
  decide

end TN
end Go.Proofs.Ytknnidbdgfimbaa
end

section
/- The law's examples: torsionBegun. -/
set_option linter.unusedSimpArgs false
set_option linter.unusedVariables false
set_option maxRecDepth 100000
namespace Go.Proofs.Ytknnidbdgfimbaa
open Go.RowKit TN

theorem trow_at {B e n vc size : Nat} {va : Option Addr} {xs : List Value} {w : World} (h : w.ownsRow B e size (.slice va n vc) n xs) (hn : 0 < n) :
    ∃ g, va = some ⟨g, 0, none⟩ ∧ g < w.heap.size ∧ B ≤ g ∧ ∀ j u, xs[j]? = some u → w.cell? ⟨g, j, none⟩ = some u := by
  rcases h.2 with ⟨_, h2⟩ | ⟨g, cap, cur, h2, h3, h4, _⟩
  · omega
  · injection h2 with e1 _ _
    subst e1
    refine ⟨g, rfl, (Array.getElem?_eq_some_iff.1 h4).1, h3, fun j u hu => ?_⟩
    have := h.cells (g := g) rfl j u hu
    have hadd : (⟨g, 0, none⟩ : Addr).add j = ⟨g, j, none⟩ := by unfold Addr.add; split <;> simp_all
    rw [hadd] at this
    exact this

set_option maxHeartbeats 4000000 in
theorem torsionBegun_any (w : World) :
    Calls Try.prog 8 #[] w fun e w' => e = .returned (.bool true) ∧ Below w.heap.size w w' := by
  have HPo : Hid (∀ w, Calls Try.prog 6 #[.int .i64 0, .int .i64 1] w fun e w' => ∃ (g : Nat) (cc : Nat), e = .returned (.tuple #[.slice (some ⟨g, 0, none⟩) 6 cc, .agg #[.int .i64 0, .int .i64 0]]) ∧ g < w'.heap.size ∧ (w'.cell? ⟨g, 2, none⟩ = some (.bool true) ∧ w'.cell? ⟨g, 3, none⟩ = some (.int .i64 (-1)) ∧ w'.cell? ⟨g, 4, none⟩ = some (.int .i64 0) ∧ w'.cell? ⟨g, 5, none⟩ = some (.bool false)) ∧ Below w.heap.size w w') := by
    intro w
    refine (tPoints_ok 0 1 w cu1).mono ?_
    rintro e w' ⟨aa, cc, rfl, r, k⟩
    rw [lkI1] at r ⊢
    obtain ⟨g, rfl, hg, _, hc⟩ := trow_at r (by decide)
    exact ⟨g, cc, rfl, hg, ⟨hc 2 _ rfl, hc 3 _ rfl, hc 4 _ rfl, hc 5 _ rfl⟩, k⟩
  have HSh : Hid (∀ w, Calls Try.prog 11 #[.int .i64 (-1), .int .i64 0] w fun e w' => e = .returned (.tuple #[.int .i64 2, .int .i64 2, .agg #[.int .i64 0, .int .i64 0]]) ∧ Below w.heap.size w w') := by
    intro w
    refine (tShape_ok (-1) 0 w cu2).mono ?_
    rintro e w' ⟨rfl, _, k⟩
    rw [lkI2]
    exact ⟨rfl, k⟩
  go_enter Try.func8, Try.ntmps8
  go_wp2_with fail
  refine (HPo.out _).mono ?_
  rintro e w1 ⟨g, cc, rfl, hg, ⟨c2, c3, c4, c5⟩, k1⟩
  have F1 : Cl w1.heap.size [.int .i64 0, .int .i64 0] 23 (w1.alloc (.cells #[.int .i64 0, .int .i64 0] 23)) := Cl.new _ _ w1
  have K1 := tala w1 (.cells #[.int .i64 0, .int .i64 0] 23)
  have HG : Hid (g < w1.heap.size ∧ Below w.heap.size w w1) := ⟨hg, k1⟩
  clear hg k1 HPo
  go_wp2_with fail
  refine (HSh.out _).mono ?_
  rintro e w2 ⟨rfl, k2⟩
  have K2 : Below w1.heap.size w1 w2 := K1.trans (k2.mono (by simp))
  have F2 := F1.below k2
  have G2 : ∀ o : Obj, Cl w1.heap.size [.int .i64 0, .int .i64 0] 23 (w2.alloc o) := fun o => F2.alloc o
  have f0 : ∀ o : Obj, (w2.alloc o).cell? ⟨w1.heap.size, 0, none⟩ = some (.int .i64 0) := fun o => (G2 o).cell 0
  have KA : ∀ o : Obj, Below w1.heap.size w1 (w2.alloc o) := fun o => K2.trans ((tala w2 o).mono K2.size)
  have d2 : ∀ o : Obj, (w2.alloc o).cell? ⟨g, 2, none⟩ = some (.bool true) := fun o => ((KA o).cell (p := ⟨g, 2, none⟩) HG.out.1).trans c2
  have d3 : ∀ o : Obj, (w2.alloc o).cell? ⟨g, 3, none⟩ = some (.int .i64 (-1)) := fun o => ((KA o).cell (p := ⟨g, 3, none⟩) HG.out.1).trans c3
  have d4 : ∀ o : Obj, (w2.alloc o).cell? ⟨g, 4, none⟩ = some (.int .i64 0) := fun o => ((KA o).cell (p := ⟨g, 4, none⟩) HG.out.1).trans c4
  have d5 : ∀ o : Obj, (w2.alloc o).cell? ⟨g, 5, none⟩ = some (.bool false) := fun o => ((KA o).cell (p := ⟨g, 5, none⟩) HG.out.1).trans c5
  have HE : Hid (∀ o : Obj, Below w.heap.size w (w2.alloc o)) := fun o => HG.out.2.trans ((KA o).mono HG.out.2.size)
  clear c2 c3 c4 c5 F1 K1 k2 K2 F2 G2 KA HSh HG
  go_wp2
  go_ret
  exact ⟨rfl, HE.out _⟩

end Go.Proofs.Ytknnidbdgfimbaa
end
