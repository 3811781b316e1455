/- joined at the example (4 by 15): a root of one family, all roots of one. -/
import Derived.Test.YtoionlnbodfhlacGreatDoorRsE
import Derived.Test.YtoionlnbodfhlacGreatDoorWholeF
set_option linter.unusedSimpArgs false
set_option linter.unusedVariables false
set_option maxRecDepth 100000
namespace Go.Proofs.YtoionlnbodfhlacGreatDoor
open Go.RowKit

theorem is_two {W : World} {b : Nat} {x y : Int} {t : TypeId} (h : Cl b [.int .i64 x, .int .i64 y] t W) : IS W (.slice (some ⟨b, 0, none⟩) 2 2) [x, y] := by
  refine ⟨⟨_, b, 0, 2, rfl, fun _ => rfl, fun i hi => ?_, fun _ => h.lt⟩⟩
  match i, hi with
  | 0, _ => exact h.cell 0
  | 1, _ => exact h.cell 1

set_option maxHeartbeats 1000000 in
theorem do_is (j : Jx) (place rest mod power root next mp : Int) (out : List Int) (bR bM bP bS : Nat) (hmp : mod * power = mp) (hb : 0 ≤ place ∧ place ≤ 100 ∧ 0 ≤ mp ∧ mp ≤ 100)
    (N : Nat) (hN : N ≤ 100) (hch : Ch N j (place + 1) next mp out) (hjoin : ∀ R M c at', JOut [rest, root] [mod, power] R M c at' → R = next)
    (W : World) (xs : List Int) (a : Option Addr) (c : Nat) (HJ : JS j xs a c W) (hx : xs.length ≤ N) (hR : Cl bR [.int .i64 rest] 3 W) (hM : Cl bM [.int .i64 mod] 3 W) (hP : Cl bP [.int .i64 power] 3 W) (hS : Cl bS [.int .i64 place] 3 W)
    (lR : Loc j a bR) (lM : Loc j a bM) (lP : Loc j a bP) (lS : Loc j a bS) :
    Calls Tryz.prog 79 #[.int .i64 root, .pointer (some ⟨bR, 0, none⟩), .pointer (some ⟨bM, 0, none⟩), .pointer (some ⟨bP, 0, none⟩), .pointer (some ⟨j.bC, 0, none⟩), .pointer (some ⟨bS, 0, none⟩)] W
      fun e W' => (∃ v, e = .returned v) ∧ ∃ a' c', JS j (xs ++ out) a' c' W' ∧ Fr j a W a' W' := by
  have r0 : W.cell? ⟨bR, 0, none⟩ = some (.int .i64 rest) := hR.cell 0
  have m0 : W.cell? ⟨bM, 0, none⟩ = some (.int .i64 mod) := hM.cell 0
  have p0 : W.cell? ⟨bP, 0, none⟩ = some (.int .i64 power) := hP.cell 0
  have s0 : W.cell? ⟨bS, 0, none⟩ = some (.int .i64 place) := hS.cell 0
  have zR := hR.lt
  have zM := hM.lt
  have zP := hP.lt
  have zS := hS.lt
  have HJW : Hid (JS j xs a c W) := HJ
  have HCH : Hid (Ch N j (place + 1) next mp out) := hch
  have HJO : Hid (∀ R M c at', JOut [rest, root] [mod, power] R M c at' → R = next) := hjoin
  have HL : Hid (Cl bM [.int .i64 mod] 3 W ∧ Cl bP [.int .i64 power] 3 W ∧ Cl bS [.int .i64 place] 3 W) := ⟨hM, hP, hS⟩
  clear hch hjoin HJ hR hM hP hS lR lM lP lS
  go_enter Tryz.func79, Tryz.ntmps79
  go_wp2_with fail
  refine (Join_any _ _ [rest, root] [mod, power] _ (is_two ((Cl.new _ _ W).alloc _)) ?_ (by simp) (by simp)).mono ?_
  · have := Cl.new [.int .i64 mod, .int .i64 power] 3 (W.alloc (.cells #[.int .i64 rest, .int .i64 root] 3))
    rw [World.size_alloc] at this
    exact is_two this
  rintro e w2 ⟨R, M, c2, at2, rfl, hj, k2⟩
  obtain rfl := HJO.out _ _ _ _ hj
  have K2 : Hid (Below W.heap.size W w2) := (((Below.refl _ _).alloc (Nat.le_refl _) _).alloc (by simp) _).trans (k2.mono (by simp; omega))
  have z2 := K2.out.size
  have HJ2 : Hid (JS j xs a c w2) := HJW.out.below K2.out
  have q1 : ∀ o, (w2.alloc o).cell? ⟨bM, 0, none⟩ = some (.int .i64 mod) := fun o => ((HL.out.1.below K2.out).alloc o).cell 0
  have q2 : ∀ o, (w2.alloc o).cell? ⟨bP, 0, none⟩ = some (.int .i64 power) := fun o => ((HL.out.2.1.below K2.out).alloc o).cell 0
  have q3 : ∀ o, (w2.alloc o).cell? ⟨bS, 0, none⟩ = some (.int .i64 place) := fun o => ((HL.out.2.2.below K2.out).alloc o).cell 0
  have q4 : ∀ o, (w2.alloc o).cell? ⟨j.bC, 0, none⟩ = some j.clo := fun o => (HJ2.out.C.alloc o).cell 0
  unfold Jx.clo at q4
  clear hj k2 r0 m0 p0 s0 HL HJO
  go_wp2_with fail
  refine (HCH.out _ xs a c (HJ2.out.below ((Below.refl _ _).alloc (Nat.le_refl _) _)) hx).mono ?_
  rintro e w3 ⟨⟨v, rfl⟩, a', c', hj3, hf3⟩
  have HR : Hid (JS j (xs ++ out) a' c' w3 ∧ Fr j a W a' w3) := ⟨hj3, (Fr.below a (K2.out.alloc z2 _)).trans hf3⟩
  clear hj3 hf3 q1 q2 q3 q4
  go_wp2
  go_end0
  exact ⟨⟨_, rfl⟩, a', c', HR.out⟩

/-- What one root of a family adds to the list, whatever stands beside. -/
def Dn (N : Nat) (j : Jx) (bR bM bP bS : Nat) (rest mod power place : Int) (root : Int) (out : List Int) : Prop :=
  ∀ (W : World) (xs : List Int) (a : Option Addr) (c : Nat), JS j xs a c W → xs.length ≤ N → Cl bR [.int .i64 rest] 3 W → Cl bM [.int .i64 mod] 3 W → Cl bP [.int .i64 power] 3 W → Cl bS [.int .i64 place] 3 W →
    Loc j a bR → Loc j a bM → Loc j a bP → Loc j a bS →
    Calls Tryz.prog 79 #[.int .i64 root, .pointer (some ⟨bR, 0, none⟩), .pointer (some ⟨bM, 0, none⟩), .pointer (some ⟨bP, 0, none⟩), .pointer (some ⟨j.bC, 0, none⟩), .pointer (some ⟨bS, 0, none⟩)] W
      fun e W' => (∃ v, e = .returned v) ∧ ∃ a' c', JS j (xs ++ out) a' c' W' ∧ Fr j a W a' W'

/-- In the midst of going through a family: b is each's own block. -/
def ES (j : Jx) (bR bM bP bS : Nat) (rest mod power place : Int) (W0 : World) (a0 : Option Addr) (b : Nat) (rc : List Value) (ys : List Int) (Wx : World) : Prop :=
  ∃ a' c', JS j ys a' c' Wx ∧ Fr j a0 W0 a' Wx ∧ (Cl b rc 98 Wx ∧ Loc j a' b) ∧ (Cl bR [.int .i64 rest] 3 Wx ∧ Cl bM [.int .i64 mod] 3 Wx ∧ Cl bP [.int .i64 power] 3 Wx ∧ Cl bS [.int .i64 place] 3 Wx) ∧ (Loc j a' bR ∧ Loc j a' bM ∧ Loc j a' bP ∧ Loc j a' bS)

theorem es_call {j : Jx} {bR bM bP bS : Nat} {rest mod power place root : Int} {out : List Int} {N : Nat} (h : Dn N j bR bM bP bS rest mod power place root out) {W0 : World} {a0 : Option Addr} {b : Nat} {rc : List Value} {ys : List Int} {Wx : World}
    (hs : ES j bR bM bP bS rest mod power place W0 a0 b rc ys Wx) (hl : ys.length ≤ N) :
    Calls Tryz.prog 79 #[.int .i64 root, .pointer (some ⟨bR, 0, none⟩), .pointer (some ⟨bM, 0, none⟩), .pointer (some ⟨bP, 0, none⟩), .pointer (some ⟨j.bC, 0, none⟩), .pointer (some ⟨bS, 0, none⟩)] Wx
      fun e W' => (∃ v, e = .returned v) ∧ ES j bR bM bP bS rest mod power place W0 a0 b rc (ys ++ out) W' := by
  obtain ⟨a', c', hj, hf, ⟨hb, lb⟩, ⟨hR, hM, hP, hS⟩, lR, lM, lP, lS⟩ := hs
  refine (h Wx ys a' c' hj hl hR hM hP hS lR lM lP lS).mono ?_
  rintro e W' ⟨hv, a'', c'', hj2, hf2⟩
  exact ⟨hv, a'', c'', hj2, hf.trans hf2, ⟨hf2.cl hb lb, hf2.loc b hb.lt lb⟩, ⟨hf2.cl hR lR, hf2.cl hM lM, hf2.cl hP lP, hf2.cl hS lS⟩, hf2.loc _ hR.lt lR, hf2.loc _ hM.lt lM, hf2.loc _ hP.lt lP, hf2.loc _ hS.lt lS⟩

set_option maxHeartbeats 1000000 in
theorem each_is (j : Jx) (g : Nat) (x y p : Int) (place rest mod power : Int) (o1 o2 : List Int) (bR bM bP bS : Nat) (hp : 0 ≤ p ∧ p ≤ 100) (hxy : 0 ≤ x ∧ x ≤ 100 ∧ 0 ≤ y ∧ y ≤ 100)
    (N : Nat) (h1 : Dn N j bR bM bP bS rest mod power place x o1) (h2 : Dn N j bR bM bP bS rest mod power place y o2)
    (hg : ∀ xs a c W, JS j xs a c W → Cl g [.int .i64 x, .int .i64 y] 3 W)
    (W : World) (xs : List Int) (a : Option Addr) (c : Nat) (HJ : JS j xs a c W) (hx : xs.length + o1.length ≤ N) (hR : Cl bR [.int .i64 rest] 3 W) (hM : Cl bM [.int .i64 mod] 3 W) (hP : Cl bP [.int .i64 power] 3 W) (hS : Cl bS [.int .i64 place] 3 W)
    (lR : Loc j a bR) (lM : Loc j a bM) (lP : Loc j a bP) (lS : Loc j a bS) :
    Calls Tryz.prog 78 #[.agg #[.slice (some ⟨g, 0, none⟩) 2 2, .int .i64 p, .int .i64 1], .func (.func 79) #[] #[.pointer (some ⟨bR, 0, none⟩), .pointer (some ⟨bM, 0, none⟩), .pointer (some ⟨bP, 0, none⟩), .pointer (some ⟨j.bC, 0, none⟩), .pointer (some ⟨bS, 0, none⟩)]] W
      fun e W' => (∃ v, e = .returned v) ∧ ∃ a' c', JS j (xs ++ o1 ++ o2) a' c' W' ∧ Fr j a W a' W' := by
  have H1 : Hid (Dn N j bR bM bP bS rest mod power place x o1) := h1
  have H2 : Hid (Dn N j bR bM bP bS rest mod power place y o2) := h2
  have HG : Hid (∀ xs a c W, JS j xs a c W → Cl g [.int .i64 x, .int .i64 y] 3 W) := hg
  have HJW : Hid (JS j xs a c W) := HJ
  have HL : Hid ((Cl bR [.int .i64 rest] 3 W ∧ Cl bM [.int .i64 mod] 3 W ∧ Cl bP [.int .i64 power] 3 W ∧ Cl bS [.int .i64 place] 3 W) ∧ (Loc j a bR ∧ Loc j a bM ∧ Loc j a bP ∧ Loc j a bS)) := ⟨⟨hR, hM, hP, hS⟩, lR, lM, lP, lS⟩
  have H0 : Hid (ES j bR bM bP bS rest mod power place W a W.heap.size [.slice (some ⟨g, 0, none⟩) 2 2, .int .i64 p, .int .i64 1] xs (W.alloc (.cells #[.slice (some ⟨g, 0, none⟩) 2 2, .int .i64 p, .int .i64 1] 98))) := by
    have k := (Below.refl W.heap.size W).alloc (Nat.le_refl _) (.cells #[.slice (some ⟨g, 0, none⟩) 2 2, .int .i64 p, .int .i64 1] 98)
    exact ⟨a, c, HJ.below k, Fr.below a k, ⟨Cl.new _ _ W, HJ.loc (Nat.le_refl _)⟩, ⟨hR.alloc _, hM.alloc _, hP.alloc _, hS.alloc _⟩, lR, lM, lP, lS⟩
  clear h1 h2 hg HJ hR hM hP hS lR lM lP lS HL HJW
  go_enter Tryz.func78, Tryz.ntmps78
  go_wp2
  go_loopw [9] (fun iv wx => (iv = .int .i64 0 ∧ Hid (ES j bR bM bP bS rest mod power place W a W.heap.size [.slice (some ⟨g, 0, none⟩) 2 2, .int .i64 p, .int .i64 1] xs wx)) ∨ (iv = .int .i64 1 ∧ Hid (ES j bR bM bP bS rest mod power place W a W.heap.size [.slice (some ⟨g, 0, none⟩) 2 2, .int .i64 p, .int .i64 1] (xs ++ o1 ++ o2) wx))) (fun iv _ => 1 - (intOf iv).toNat)
  case atStart => exact .inl ⟨rfl, H0.out⟩
  case round =>
    rcases hrel with ⟨rfl, HE⟩ | ⟨rfl, HE⟩
    · have c0 : wr.cell? ⟨W.heap.size, 0, none⟩ = some (.slice (some ⟨g, 0, none⟩) 2 2) := by obtain ⟨_, _, _, _, ⟨h, _⟩, _⟩ := HE.out; exact h.cell 0
      go_wp2
      go_loopw [15] (fun kv wx => (kv = .int .i64 0 ∧ Hid (ES j bR bM bP bS rest mod power place W a W.heap.size [.slice (some ⟨g, 0, none⟩) 2 2, .int .i64 p, .int .i64 1] xs wx)) ∨ (kv = .int .i64 1 ∧ Hid (ES j bR bM bP bS rest mod power place W a W.heap.size [.slice (some ⟨g, 0, none⟩) 2 2, .int .i64 p, .int .i64 1] (xs ++ o1) wx)) ∨ (kv = .int .i64 2 ∧ Hid (ES j bR bM bP bS rest mod power place W a W.heap.size [.slice (some ⟨g, 0, none⟩) 2 2, .int .i64 p, .int .i64 1] (xs ++ o1 ++ o2) wx))) (fun kv _ => 2 - (intOf kv).toNat)
      case atStart => exact .inl ⟨rfl, HE.out⟩
      case round =>
        clear c0 HE
        rcases hrel with ⟨rfl, HE⟩ | ⟨rfl, HE⟩ | ⟨rfl, HE⟩
        · have c1 := (show Cl g [.int .i64 x, .int .i64 y] 3 _ by obtain ⟨_, _, h, _⟩ := HE.out; exact HG.out _ _ _ _ h).cell 0
          simp at c1
          have c2 := (show Cl W.heap.size [.slice (some ⟨g, 0, none⟩) 2 2, .int .i64 p, .int .i64 1] 98 _ by obtain ⟨_, _, _, _, ⟨h, _⟩, _⟩ := HE.out; exact h).cell 1
          simp at c2
          go_wp2_with fail
          refine (es_call H1.out HE.out (by omega)).mono ?_
          rintro e w2 ⟨⟨v, rfl⟩, hs⟩
          have HE2 : Hid (ES j bR bM bP bS rest mod power place W a W.heap.size [.slice (some ⟨g, 0, none⟩) 2 2, .int .i64 p, .int .i64 1] (xs ++ o1) w2) := hs
          clear hs c1 c2 HE
          go_wp2
          go_roundw
          case rel => exact .inr (.inl ⟨rfl, HE2.out⟩)
          case measure => simp [intOf]
        · have c1 := (show Cl g [.int .i64 x, .int .i64 y] 3 _ by obtain ⟨_, _, h, _⟩ := HE.out; exact HG.out _ _ _ _ h).cell 1
          simp at c1
          have c2 := (show Cl W.heap.size [.slice (some ⟨g, 0, none⟩) 2 2, .int .i64 p, .int .i64 1] 98 _ by obtain ⟨_, _, _, _, ⟨h, _⟩, _⟩ := HE.out; exact h).cell 1
          simp at c2
          go_wp2_with fail
          refine (es_call H2.out HE.out (by simp; omega)).mono ?_
          rintro e w2 ⟨⟨v, rfl⟩, hs⟩
          have HE2 : Hid (ES j bR bM bP bS rest mod power place W a W.heap.size [.slice (some ⟨g, 0, none⟩) 2 2, .int .i64 p, .int .i64 1] (xs ++ o1 ++ o2) w2) := hs
          clear hs c1 c2 HE
          go_wp2
          go_roundw
          case rel => exact .inr (.inr ⟨rfl, HE2.out⟩)
          case measure => simp [intOf]
        · go_wp2
          go_roundw
          case rel => exact .inr ⟨rfl, HE.out⟩
          case measure => simp [intOf]
    · go_wp2
      go_end0
      obtain ⟨a', c', h1, h2, _⟩ := HE.out
      exact ⟨⟨_, rfl⟩, a', c', h1, h2⟩

end Go.Proofs.YtoionlnbodfhlacGreatDoor
