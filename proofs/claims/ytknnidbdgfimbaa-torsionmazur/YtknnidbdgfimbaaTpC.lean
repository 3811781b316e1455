/- The program: package torsion's order. -/
import Derived.Test.YtknnidbdgfimbaaTpB
import Derived.Deep.LoopGhost
set_option linter.unusedSimpArgs false
set_option linter.unusedVariables false
set_option maxRecDepth 100000
namespace Go.Proofs.Ytknnidbdgfimbaa
open Go.RowKit TN

/-- What order answers. -/
def OrV : Option Nat → Value
  | none => .tuple #[.int .i64 0, .bool false]
  | some n => .tuple #[.int .i64 n, .bool true]

/-- What order holds in memory: the curve, the point, and the sum so far. -/
structure To (h bb : Nat) (a b x y X Y : Int) (f : Bool) (w W : World) : Prop where
  g : Cl h (Tl a b) 45 W
  q : Cl (h + 1) (Ql x y false) 30 W
  s : Cl bb (Ql X Y f) 30 W
  ne : h + 1 < bb
  k : Below h w W
theorem To.below {h bb : Nat} {a b x y X Y : Int} {f : Bool} {w W W' : World} (t : To h bb a b x y X Y f w W) (c : Below W.heap.size W W') : To h bb a b x y X Y f w W' :=
  ⟨t.g.below c, t.q.below c, t.s.below c, t.ne, t.k.trans (c.mono (by have := t.g.lt; omega))⟩
theorem To.fresh {h bb : Nat} {a b x y X Y : Int} {f : Bool} {w W : World} (t : To h bb a b x y X Y f w W) (X' Y' : Int) (f' : Bool) {z : Nat} (hz : W.heap.size = z) : To h z a b x y X' Y' f' w (W.alloc (.cells #[.int .i64 X', .int .i64 Y', .bool f'] 30)) := by
  subst hz
  exact ⟨t.g.alloc _, t.q.alloc _, Cl.new (Ql X' Y' f') _ W, t.q.lt, t.k.alloc (by have := t.g.lt; omega) _⟩
theorem To.set {h bb : Nat} {a b x y X Y : Int} {f : Bool} {w W : World} (t : To h bb a b x y X Y f w W) (X' Y' : Int) (f' : Bool) :
    To h bb a b x y X' Y' f' w (((W.setCell ⟨bb, 0, none⟩ (.int .i64 X')).setCell ⟨bb, 1, none⟩ (.int .i64 Y')).setCell ⟨bb, 2, none⟩ (.bool f')) := by
  have hn := t.ne
  refine ⟨?_, ?_, ((t.s.set 0 _).set 1 _).set 2 _, hn, ?_⟩
  · exact ((t.g.other (by show h ≠ bb; omega) _).other (by show h ≠ bb; omega) _).other (by show h ≠ bb; omega) _
  · exact ((t.q.other (by show h + 1 ≠ bb; omega) _).other (by show h + 1 ≠ bb; omega) _).other (by show h + 1 ≠ bb; omega) _
  · exact ((t.k.setCell (by show h ≤ bb; omega) _).setCell (by show h ≤ bb; omega) _).setCell (by show h ≤ bb; omega) _

/-- Where order stands: F steps are allowed still. -/
def Ost (a b x y : Int) (r : Option Nat) (F j : Nat) (X Y : Int) (f : Bool) : Prop :=
  (f = false ∧ Lk a b X Y ∧ pOrd a b x y F j X Y = some r) ∨ (f = true ∧ r = some j)

set_option maxHeartbeats 2000000 in
theorem torder_any (a b x y : Int) (F : Nat) (r : Option Nat) (w : World) (h : Cu a b) (hq : Lk a b x y) (hr : pOrd a b x y F 1 x y = some r) (hF : F ≤ 1000) :
    Calls Try.prog 39 #[Tv a b, .agg #[.int .i64 x, .int .i64 y, .bool false]] w fun e w' => e = .returned (OrV r) ∧ Below w.heap.size w w' := by
  have HC : Hid (Cu a b ∧ Lk a b x y) := ⟨h, hq⟩
  have HO0 : Hid (To w.heap.size (w.heap.size + 2) a b x y x y false w (((w.alloc (.cells #[.int .i64 a, .int .i64 b, .int .i64 (dis a b)] 45)).alloc (.cells #[.int .i64 x, .int .i64 y, .bool false] 30)).alloc (.cells #[.int .i64 x, .int .i64 y, .bool false] 30))) := by
    refine ⟨((Cl.new (Tl a b) _ w).alloc _).alloc _, (tcnew _ (Ql x y false) _ _ (by simp)).alloc _, tcnew _ (Ql x y false) _ _ (by simp), by omega, ?_⟩
    exact ((tala _ _).trans ((tala _ _).mono (by simp))).trans ((tala _ _).mono (by simp; omega))
  have HS0 : Hid (Ost a b x y r F 1 x y false) := Or.inl ⟨rfl, hq, hr⟩
  clear h hq hr
  unfold Tv
  go_enter Try.func39, Try.ntmps39
  go_wp2
  go_loopg [4, 5, 6] (F + 1) (fun g nv ov bv wx => ∃ (j bb G : Nat) (X Y : Int) (f o : Bool), j + G ≤ F + 1 ∧ g = (if f = true then 0 else G + 1) ∧ nv = .int .i64 j ∧ ov = .bool o ∧ bv = .pointer (some ⟨bb, 0, none⟩) ∧ Hid (Ost a b x y r G j X Y f ∧ To w.heap.size bb a b x y X Y f w wx))
  case atStart => exact ⟨1, w.heap.size + 2, F, x, y, false, false, by omega, by simp, rfl, rfl, rfl, HS0.out, HO0.out⟩
  case round =>
    obtain ⟨j, bb, G, X, Y, f, o, jb, hg, rfl, rfl, rfl, HS⟩ := hrel
    clear HO0 HS0
    have HO : Hid (To w.heap.size bb a b x y X Y f w wr) := HS.out.2
    have HSs : Hid (Ost a b x y r G j X Y f) := HS.out.1
    clear HS
    have c0 : wr.cell? ⟨bb, 0, none⟩ = some (.int .i64 X) := HO.out.s.cell 0
    have c1 : wr.cell? ⟨bb, 1, none⟩ = some (.int .i64 Y) := HO.out.s.cell 1
    have c2 : wr.cell? ⟨bb, 2, none⟩ = some (.bool f) := HO.out.s.cell 2
    cases f with
    | true =>
      have hr : r = some j := by
        rcases HSs.out with ⟨e, _⟩ | ⟨_, e⟩
        · simp at e
        · exact e
      subst hr
      clear hg
      go_wp2
      exact bodyPost_ret (v := .tuple #[.int .i64 j, .bool true]) (by simp [results, Try.results39, go_sem]) rfl ⟨rfl, HO.out.k⟩
    | false =>
      have hs : Lk a b X Y ∧ pOrd a b x y G j X Y = some r := by
        rcases HSs.out with ⟨_, e⟩ | ⟨e, _⟩
        · exact e
        · simp at e
      clear HSs
      obtain ⟨hl, hp⟩ := hs
      obtain ⟨G', rfl⟩ : ∃ G', G = G' + 1 := by
        cases G with
        | zero => simp [pOrd] at hp
        | succ n => exact ⟨n, rfl⟩
      unfold pOrd at hp
      have HA : Hid (∀ w, Calls Try.prog 55 #[Tv a b, .agg #[.int .i64 X, .int .i64 Y, .bool false], .agg #[.int .i64 x, .int .i64 y, .bool false]] w fun e w' => e = .returned (AdV (pAdd a b x y X Y)) ∧ Below w.heap.size w w') := fun w => tadd_any a b X Y x y w HC.out.1 hl HC.out.2
      have HLk : Hid (∀ q, pAdd a b x y X Y = some (some q) → Lk a b q.1 q.2) := fun q e => pAdd_lk HC.out.2 hl e
      have G0 : wr.cell? ⟨w.heap.size, 0, none⟩ = some (.int .i64 a) := HO.out.g.cell 0
      have G1 : wr.cell? ⟨w.heap.size, 1, none⟩ = some (.int .i64 b) := HO.out.g.cell 1
      have G2 : wr.cell? ⟨w.heap.size, 2, none⟩ = some (.int .i64 (dis a b)) := HO.out.g.cell 2
      have Q0 : wr.cell? ⟨w.heap.size + 1, 0, none⟩ = some (.int .i64 x) := HO.out.q.cell 0
      have Q1 : wr.cell? ⟨w.heap.size + 1, 1, none⟩ = some (.int .i64 y) := HO.out.q.cell 1
      have Q2 : wr.cell? ⟨w.heap.size + 1, 2, none⟩ = some (.bool false) := HO.out.q.cell 2
      unfold Tv at HA
      obtain ⟨R, hR⟩ : ∃ R, pAdd a b x y X Y = R := ⟨_, rfl⟩
      rw [hR] at HA HLk hp
      clear hR hl
      have HP : Hid (_ = some r) := hp
      clear hp
      go_wp2_with fail
      refine (HA.out _).mono ?_
      rintro e w1 ⟨rfl, k1⟩
      have F1 := HO.out.below k1
      have HF1 : Hid (To w.heap.size bb a b x y X Y false w w1) := F1
      have d0 : w1.cell? ⟨bb, 0, none⟩ = some (.int .i64 X) := F1.s.cell 0
      have d1 : w1.cell? ⟨bb, 1, none⟩ = some (.int .i64 Y) := F1.s.cell 1
      have d2 : w1.cell? ⟨bb, 2, none⟩ = some (.bool false) := F1.s.cell 2
      have f0 := F1.s.frozen 0
      have f1 := F1.s.frozen 1
      have f2 := F1.s.frozen 2
      clear F1 k1 HO G0 G1 G2 Q0 Q1 Q2 c0 c1 c2 HA
      rcases R with _ | _ | ⟨X', Y'⟩
      · have hr : r = none := by have := HP.out; simpa using this.symm
        subst hr
        clear HP
        unfold AdV
        go_wp2
        refine bodyPost_ret (v := .tuple #[.int .i64 0, .bool false]) (by simp [results, Try.results39, go_sem]) rfl ⟨rfl, ?_⟩
        exact (HF1.out.set 0 0 false).k
      · have hr : r = some (j + 1) := by have := HP.out; simpa using this.symm
        subst hr
        clear HP
        unfold AdV
        go_wp2
        go_roundg 0
        case rel => exact ⟨j + 1, _, G', 0, 0, true, true, by omega, by simp, by go_num, rfl, rfl, Or.inr ⟨rfl, rfl⟩, (HF1.out.set 0 0 true).fresh 0 0 true (by simp)⟩
        case measure => rw [hg]; simp
      · have hr : pOrd a b x y G' (j + 1) X' Y' = some r := HP.out
        have HNx : Hid (Ost a b x y r G' (j + 1) X' Y' false) := Or.inl ⟨rfl, HLk.out (X', Y') rfl, hr⟩
        clear HP hr
        unfold AdV
        go_wp2
        go_roundg (G' + 1)
        case rel => exact ⟨j + 1, _, G', X', Y', false, true, by omega, by simp, by go_num, rfl, rfl, HNx.out, (HF1.out.set X' Y' false).fresh X' Y' false (by simp)⟩
        case measure => rw [hg]; simp

end Go.Proofs.Ytknnidbdgfimbaa
