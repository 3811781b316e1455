/- The reference's CertParts: a stack of certificates. -/
import Derived.Test.YtknmfohipdjlpabGreatDoorCertD
import Derived.Maps.AppendAt
import Derived.WalkSmall
set_option linter.unusedSimpArgs false
set_option linter.unusedVariables false
set_option maxRecDepth 100000
namespace Go.Proofs.YtknmfohipdjlpabGreatDoor
open Go.RowKit

theorem Tryz.infoCert : (Tryz.prog.info? 24).map (fun i => (i.zero, i.size, i.bytes)) = some (some (.agg #[.int .i64 0, .int .i64 0, .slice none 0 0]), 3, 40) := by kernel_rfl

def cells3 : List Ct → List Value
  | [] => []
  | c :: t => .int .i64 c.n :: .int .i64 c.r :: c.sl :: cells3 t
theorem cells3_length (l : List Ct) : (cells3 l).length = l.length * 3 := by
  induction l with
  | nil => rfl
  | cons c t ih => simp only [cells3, List.length_cons, ih]; omega
theorem cells3_append (x y : List Ct) : cells3 (x ++ y) = cells3 x ++ cells3 y := by
  induction x with
  | nil => rfl
  | cons c t ih => simp only [List.cons_append, cells3, ih]
theorem cells3_at : ∀ (l : List Ct) (i : Nat) (h : i < l.length), (cells3 l)[i * 3]? = some (.int .i64 l[i].n) ∧ (cells3 l)[i * 3 + 1]? = some (.int .i64 l[i].r) ∧ (cells3 l)[i * 3 + 2]? = some l[i].sl := by
  intro l
  induction l with
  | nil => intro i h; simp at h
  | cons c t ih =>
    intro i h
    cases i with
    | zero => simp [cells3]
    | succ i =>
      have := ih i (by simpa using h)
      simp only [cells3, show (i + 1) * 3 = i * 3 + 1 + 1 + 1 by omega, show i * 3 + 1 + 1 + 1 + 1 = (i * 3 + 1) + 1 + 1 + 1 by omega, show i * 3 + 1 + 1 + 1 + 2 = (i * 3 + 2) + 1 + 1 + 1 by omega, List.getElem?_cons_succ, List.getElem_cons_succ]
      exact this

theorem cell_three_new (w : World) (a b c : Value) (t : TypeId) : ∀ j u, [a, b, c][j]? = some u → (w.alloc (.cells #[a, b, c] t)).cell? ((⟨w.heap.size, 0, none⟩ : Addr).add j) = some u := by
  intro j u h
  have hj : j < 3 := by
    rcases Nat.lt_or_ge j 3 with h1 | h1
    · exact h1
    · rw [List.getElem?_eq_none (by simpa using h1)] at h; cases h
  match j, hj, h with
  | 0, _, h => simp at h; subst h; simp [Addr.add]
  | 1, _, h => simp at h; subst h; simp [Addr.add]
  | 2, _, h => simp at h; subst h; simp [Addr.add]

/-- Two rows of the call's own: the stack and what has come out. -/
structure PR (H : Nat) (w wx : World) (gs cs : Nat) (oa : Option Addr) (oc : Nat) (st out : List Ct) : Prop where
  so : wx.ownsRow H 24 3 (.slice (some ⟨gs, 0, none⟩) st.length cs) st.length (cells3 st)
  oo : wx.ownsRow H 24 3 (.slice oa out.length oc) out.length (cells3 out)
  ne : (Value.slice oa out.length oc).ownBlock ≠ some gs
  bel : Below H w wx
  le : H ≤ wx.heap.size

theorem PR.alloc {H : Nat} {w wx : World} {gs cs : Nat} {oa : Option Addr} {oc : Nat} {st out : List Ct} (h : PR H w wx gs cs oa oc st out) (o : Obj) : PR H w (wx.alloc o) gs cs oa oc st out :=
  ⟨h.so.alloc o, h.oo.alloc o, h.ne, h.bel.alloc h.le o, by simp; have := h.le; omega⟩

theorem row_shape {w : World} {H e n : Nat} {v : Value} {l : List Ct} (h : w.ownsRow H e 3 v n (cells3 l)) : ∃ a cap, v = .slice a l.length cap ∧ n = l.length := by
  obtain ⟨h1, h2⟩ := h
  rw [cells3_length] at h1
  obtain rfl : n = l.length := by omega
  rcases h2 with ⟨h3, h4⟩ | ⟨g, cap, cur, h3, _⟩
  · exact ⟨none, 0, by rw [h3, h4], rfl⟩
  · exact ⟨_, _, h3, rfl⟩

theorem PR.cell {H : Nat} {w wx w' : World} {gs cs : Nat} {oa : Option Addr} {oc : Nat} {st out : List Ct} (h : PR H w wx gs cs oa oc st out) {g X k : Nat} {v : Value} (hX : wx.cell? ⟨X, k, none⟩ = some v) (hne : g ≠ X) (hg : wx.grownBy w' (some g)) : w'.cell? ⟨X, k, none⟩ = some v :=
  hg.cell hX (by intro e; cases e; exact hne rfl)

theorem PR.push {H : Nat} {w wx w' : World} {gs cs : Nat} {oa : Option Addr} {oc : Nat} {st out : List Ct} (h : PR H w wx gs cs oa oc st out) (x : Ct) {v' : Value}
    (hown : w'.ownsRow H 24 3 v' (st.length + 1) (cells3 st ++ [.int .i64 x.n, .int .i64 x.r, x.sl])) (hg : wx.grownBy w' (Value.slice (some ⟨gs, 0, none⟩) st.length cs).ownBlock)
    (hat : v'.ownBlock = (Value.slice (some ⟨gs, 0, none⟩) st.length cs).ownBlock ∨ v'.ownBlock = some wx.heap.size) :
    ∃ gs' cs', v' = .slice (some ⟨gs', 0, none⟩) (st.length + 1) cs' ∧ PR H w w' gs' cs' oa oc (st ++ [x]) out := by
  have e : cells3 st ++ [.int .i64 x.n, .int .i64 x.r, x.sl] = cells3 (st ++ [x]) := by rw [cells3_append]; rfl
  rw [e] at hown
  have hgs := (h.so.lt gs rfl).1
  rcases hown.2 with ⟨_, h0⟩ | ⟨g, cap, cur, h3, h4, _⟩
  · omega
  · subst h3
    refine ⟨g, cap, rfl, by simpa using hown, h.oo.kept hg (.inr h.ne), ?_, h.bel.grown hg h.le (fun k hk => by cases hk; exact hgs), Nat.le_trans h.le hg.size⟩
    intro e2
    rcases hat with h5 | h5
    · exact h.ne (e2.trans h5)
    · have h6 := h.oo.lt _ e2
      simp only [Value.ownBlock, Option.some.injEq] at h5
      omega

theorem PR.out {H : Nat} {w wx w' : World} {gs cs : Nat} {oa : Option Addr} {oc : Nat} {st out : List Ct} (h : PR H w wx gs cs oa oc st out) (x : Ct) {v' : Value}
    (hown : w'.ownsRow H 24 3 v' (out.length + 1) (cells3 out ++ [.int .i64 x.n, .int .i64 x.r, x.sl])) (hg : wx.grownBy w' (Value.slice oa out.length oc).ownBlock)
    (hat : v'.ownBlock = (Value.slice oa out.length oc).ownBlock ∨ v'.ownBlock = some wx.heap.size) :
    ∃ oa' oc', v' = .slice oa' (out.length + 1) oc' ∧ PR H w w' gs cs oa' oc' st (out ++ [x]) := by
  have e : cells3 out ++ [.int .i64 x.n, .int .i64 x.r, x.sl] = cells3 (out ++ [x]) := by rw [cells3_append]; rfl
  rw [e] at hown
  rcases hown.2 with ⟨_, h0⟩ | ⟨g, cap, cur, h3, h4, _⟩
  · omega
  · subst h3
    refine ⟨_, cap, rfl, h.so.kept hg (.inr (fun e3 => h.ne e3.symm)), by simpa using hown, ?_, h.bel.grown hg h.le (fun k hk => (h.oo.lt k hk).1), Nat.le_trans h.le hg.size⟩
    intro e2
    rcases hat with h5 | h5
    · simp only [List.length_append, List.length_cons, List.length_nil, Nat.zero_add] at e2; rw [h5] at e2; exact h.ne e2
    · have h6 := h.so.lt gs rfl
      simp only [Value.ownBlock, Option.some.injEq] at h5 e2
      omega

theorem PR.out' {H : Nat} {w wx w' : World} {gs cs : Nat} {oa : Option Addr} {oc : Nat} {st out : List Ct} (h : PR H w wx gs cs oa oc st out) (x : Ct) {v' u0 u1 u2 : Value} {X k : Nat} {v : Value}
    (hx : .int .i64 x.n = u0 ∧ .int .i64 x.r = u1 ∧ x.sl = u2) (hX : wx.cell? ⟨X, k, none⟩ = some v) (hne : (Value.slice oa out.length oc).ownBlock ≠ some X)
    (hown : w'.ownsRow H 24 3 v' (out.length + 1) (cells3 out ++ [u0, u1, u2])) (hg : wx.grownBy w' (Value.slice oa out.length oc).ownBlock)
    (hat : v'.ownBlock = (Value.slice oa out.length oc).ownBlock ∨ v'.ownBlock = some wx.heap.size) :
    ∃ oa' oc', v' = .slice oa' (out.length + 1) oc' ∧ w'.cell? ⟨X, k, none⟩ = some v ∧ wx.heap.size ≤ w'.heap.size ∧ Hid (PR H w w' gs cs oa' oc' st (out ++ [x])) := by
  obtain ⟨rfl, rfl, rfl⟩ := hx
  obtain ⟨oa', oc', h1, h2⟩ := h.out x hown hg hat
  exact ⟨oa', oc', h1, hg.cell hX (fun e => hne e.symm), hg.size, h2⟩

theorem PR.push' {H : Nat} {w wx w' : World} {gs cs : Nat} {oa : Option Addr} {oc : Nat} {st out : List Ct} (h : PR H w wx gs cs oa oc st out) (x : Ct) {v' u0 u1 u2 : Value} {X k : Nat} {v : Value}
    (hx : .int .i64 x.n = u0 ∧ .int .i64 x.r = u1 ∧ x.sl = u2) (hX : wx.cell? ⟨X, k, none⟩ = some v) (hne : gs ≠ X) (hXl : X < wx.heap.size)
    (hown : w'.ownsRow H 24 3 v' (st.length + 1) (cells3 st ++ [u0, u1, u2])) (hg : wx.grownBy w' (Value.slice (some ⟨gs, 0, none⟩) st.length cs).ownBlock)
    (hat : v'.ownBlock = (Value.slice (some ⟨gs, 0, none⟩) st.length cs).ownBlock ∨ v'.ownBlock = some wx.heap.size) :
    ∃ gs' cs', v' = .slice (some ⟨gs', 0, none⟩) (st.length + 1) cs' ∧ st.length + 1 ≤ cs' ∧ gs' ≠ X ∧ w'.cell? ⟨X, k, none⟩ = some v ∧ wx.heap.size ≤ w'.heap.size ∧ Hid (PR H w w' gs' cs' oa oc (st ++ [x]) out) := by
  obtain ⟨rfl, rfl, rfl⟩ := hx
  obtain ⟨gs', cs', h1, h2⟩ := h.push x hown hg hat
  subst h1
  refine ⟨gs', cs', rfl, ?_, ?_, hg.cell hX (by intro e; cases e; exact hne rfl), hg.size, h2⟩
  · rcases hown.2 with ⟨h3, _⟩ | ⟨g, cap, cur, h3, _, _, h4, _⟩
    · cases h3
    · cases h3; exact h4
  · simp only [Value.ownBlock, Option.some.injEq] at hat
    omega

theorem PR.oblock {H : Nat} {w wx : World} {gs cs : Nat} {oa : Option Addr} {oc : Nat} {st out : List Ct} (h : PR H w wx gs cs oa oc st out) {X : Nat} (hX : wx.heap.size ≤ X) : (Value.slice oa out.length oc).ownBlock ≠ some X := by
  intro e
  have := (h.oo.lt X e).2
  omega

theorem PR.pop {H : Nat} {w wx : World} {gs cs : Nat} {oa : Option Addr} {oc : Nat} {st out : List Ct} {x : Ct} (h : PR H w wx gs cs oa oc (st ++ [x]) out) : PR H w wx gs cs oa oc st out := by
  refine ⟨?_, h.oo, h.ne, h.bel, h.le⟩
  have h1 := h.so
  rw [cells3_append, List.length_append] at h1
  exact ownsRow_pop (cells3_length st) h1

/-- The top of the stack, read. -/
theorem PR.top {H : Nat} {w wx : World} {gs cs : Nat} {oa : Option Addr} {oc : Nat} {st out : List Ct} {x : Ct} (h : PR H w wx gs cs oa oc (st ++ [x]) out) :
    wx.cell? ⟨gs, st.length * 3, none⟩ = some (.int .i64 x.n) ∧ wx.cell? ⟨gs, st.length * 3 + 1, none⟩ = some (.int .i64 x.r) ∧ wx.cell? ⟨gs, st.length * 3 + 2, none⟩ = some x.sl := by
  have hl : (st ++ [x]).length = st.length + 1 := by simp
  have c := cells3_at (st ++ [x]) st.length (by omega)
  simp only [List.getElem_concat_length] at c
  rw [h.so.cellAt _ (by omega), h.so.cellAt _ (by omega), h.so.cellAt _ (by omega)]
  exact c

/-- The length in a slot. -/
def lenOf : Value → Nat | .slice _ n _ => n | _ => 0

def PartsPost (c : Ct) (w : World) (e : Ending) (w' : World) : Prop :=
  ∃ v, e = .returned v ∧ w'.ownsRow w.heap.size 24 3 v (c.flat.take 1001).length (cells3 (c.flat.take 1001)) ∧ Below w.heap.size w w'

set_option maxHeartbeats 1000000 in
theorem CertParts_any {B : Nat} {w0 : World} {c : Ct} (hc : InW B w0 c) (hs : Slim c) (w : World) (hb : Below B w0 w) (hB : B ≤ w.heap.size) :
    Calls Tryz.prog 15 #[.agg #[.int .i64 c.n, .int .i64 c.r, c.sl]] w (PartsPost c w) := by
  obtain ⟨n, hn⟩ : ∃ n, c.n = n := ⟨_, rfl⟩
  obtain ⟨r, hr⟩ : ∃ r, c.r = r := ⟨_, rfl⟩
  obtain ⟨sa, sl, sc, hsl⟩ : ∃ x y z, c.sl = .slice x y z := ⟨_, _, _, rfl⟩
  rw [hn, hr, hsl]
  obtain ⟨i0, hi, hz0, hz1, hz2⟩ := info_parts Tryz.infoCert
  have HI : Hid (Tryz.prog.info? 24 = some i0 ∧ i0.zero = some (.agg #[.int .i64 0, .int .i64 0, .slice none 0 0]) ∧ i0.size = 3 ∧ i0.bytes = 40) := ⟨hi, hz0, hz1, hz2⟩
  have HC : Hid (InW B w0 c) := hc
  have HSl : Hid (Slim c) := hs
  have HN : Hid (c.n = n ∧ c.r = r ∧ c.sl = .slice sa sl sc) := ⟨hn, hr, hsl⟩
  clear hi hz0 hz1 hz2 hc hs hn hr hsl
  go_enter Tryz.func15, Tryz.ntmps15
  go_wp2
  go_loopw [3, 4] (fun sv ov wx => ∃ (gs cs : Nat) (oa : Option Addr) (oc sn on : Nat), sv = .slice (some ⟨gs, 0, none⟩) sn cs ∧ ov = .slice oa on oc ∧ sn ≤ cs ∧ on ≤ 1001 ∧ sn ≤ 1200000 ∧ Hid (∃ st out : List Ct, st.length = sn ∧ out.length = on ∧ PR w.heap.size w wx gs cs oa oc st out ∧ (out ++ Ct.flats st.reverse).take 1001 = c.flat.take 1001 ∧ (∀ x ∈ st, InW B w0 x ∧ Slim x) ∧ sn ≤ 1 + 1100 * on)) (fun _ ov _ => 1001 - lenOf ov)
  case atStart =>
    refine ⟨w.heap.size + 1, 1, none, 0, 1, 0, rfl, rfl, Nat.le_refl _, by omega, by omega, [c], [], rfl, rfl, ⟨?_, World.ownsRow_nil _ _ _ _, (by intro h; cases h), ((Below.refl _ _).alloc (Nat.le_refl _) _).alloc (by simp) _, by simp; omega⟩, by simp [Ct.flats_cons, Ct.flats], fun x hx => ?_, by omega⟩
    · have h := World.ownsRow_lit (base := w.heap.size) (e := 24) (size := 3) (w.alloc (.cells #[.int .i64 n, .int .i64 r, .slice sa sl sc] 24)) #[.int .i64 n, .int .i64 r, .slice sa sl sc] 1 (by simp) (by decide) rfl
      rw [show cells3 [c] = [.int .i64 n, .int .i64 r, .slice sa sl sc] from by rw [cells3, HN.out.1, HN.out.2.1, HN.out.2.2]; rfl]
      simpa using h
    · obtain rfl : x = c := by simpa using hx
      exact ⟨HC.out, HSl.out⟩
  case round =>
    obtain ⟨wo, hwo⟩ : ∃ wo, wo = wr := ⟨_, rfl⟩
    subst hwo
    obtain ⟨gs, cs, oa, oc, sn, on, rfl, rfl, hsc, hon, hsn, HR⟩ := hrel
    by_cases h1 : sn = 0
    · subst h1
      go_wp2
      go_ret
      obtain ⟨st, out, e1, e2, hP, hE, hOk, hF⟩ := HR.out
      obtain rfl : st = [] := List.eq_nil_of_length_eq_zero e1
      subst e2
      refine ⟨_, rfl, ?_, hP.bel⟩
      rw [← hE]
      simp only [List.reverse_nil, Ct.flats, List.append_nil]
      rw [List.take_of_length_le hon]
      exact hP.oo
    by_cases h2 : on = 1001
    · subst h2
      go_wp2
      go_ret
      obtain ⟨st, out, e1, e2, hP, hE, hOk, hF⟩ := HR.out
      refine ⟨_, rfl, ?_, hP.bel⟩
      rw [← hE, List.take_append_of_le_length (by omega), List.take_of_length_le (by omega), e2]
      have := hP.oo
      rw [e2] at this; exact this
    obtain ⟨k, rfl⟩ : ∃ k, sn = k + 1 := ⟨sn - 1, by omega⟩
    obtain ⟨st, out, e1, e2, hP, hE, hOk, hF⟩ := HR.out
    obtain ⟨st', x, rfl⟩ : ∃ st' x, st = st' ++ [x] := by
      rcases List.eq_nil_or_concat st with h | ⟨l, a, h⟩
      · subst h; simp at e1
      · exact ⟨l, a, by rw [h, List.concat_eq_append]⟩
    have e1' : st'.length = k := by simpa using e1
    subst e1' e2
    obtain ⟨t0, t1, t2⟩ := hP.top
    have hoa := row_shape hP.oo
    have HX : Hid (InW B w0 x ∧ Slim x) := hOk x (by simp)
    obtain ⟨xn, hxn⟩ : ∃ y, x.n = y := ⟨_, rfl⟩
    obtain ⟨xr, hxr⟩ : ∃ y, x.r = y := ⟨_, rfl⟩
    obtain ⟨xa, xc, hxs⟩ : ∃ a c, x.sl = .slice a x.ps.length c := ⟨_, _, rfl⟩
    have hxl := HX.out.2.few
    rw [hxn] at t0
    rw [hxr] at t1
    rw [hxs] at t2
    have HXN : Hid (x.n = xn ∧ x.r = xr ∧ x.sl = .slice xa x.ps.length xc) := ⟨hxn, hxr, hxs⟩
    have HP : Hid (PR w.heap.size w wo gs cs oa oc (st' ++ [x]) out) := hP
    have HE : Hid ((out ++ Ct.flats (st' ++ [x]).reverse).take 1001 = c.flat.take 1001) := hE
    have HOk : Hid (∀ y ∈ st' ++ [x], InW B w0 y ∧ Slim y) := hOk
    have HF : Hid (st'.length + 1 ≤ 1 + 1100 * out.length) := hF
    have hgl := (hP.so.lt gs rfl).2
    clear HR hP hE hOk hF e1 hxn hxr hxs hoa
    have h2' : decide ((out.length : Int) < 1001) = true := by simp; omega
    have hone : ∀ u ∈ [Value.int .i64 xn, .int .i64 xr, .slice xa x.ps.length xc], u.oneCell' = true := by simp [Value.oneCell']
    have HP1 : Hid (PR w.heap.size w ((wo.alloc (.cells #[.int .i64 xn, .int .i64 xr, .slice xa x.ps.length xc] 24)).alloc (.cells #[.int .i64 xn, .int .i64 xr, .slice xa x.ps.length xc] 24)) gs cs oa oc st' out) := (HP.out.pop.alloc _).alloc _
    have HONE : Hid (∀ u ∈ [Value.int .i64 xn, .int .i64 xr, .slice xa x.ps.length xc], u.oneCell' = true) := hone
    have hle := HP.out.le
    clear hone
    have hx2 : ((wo.alloc (.cells #[.int .i64 xn, .int .i64 xr, .slice xa x.ps.length xc] 24)).alloc (.cells #[.int .i64 xn, .int .i64 xr, .slice xa x.ps.length xc] 24)).cell? ⟨wo.heap.size, 2, none⟩ = some (.slice xa x.ps.length xc) := by
      rw [cell_old_at _ _ _ (by simp), cell_new_at _ _ _ _ _ rfl]; rfl
    have HX2 : Hid (((wo.alloc (.cells #[.int .i64 xn, .int .i64 xr, .slice xa x.ps.length xc] 24)).alloc (.cells #[.int .i64 xn, .int .i64 xr, .slice xa x.ps.length xc] 24)).cell? ⟨wo.heap.size, 2, none⟩ = some (.slice xa x.ps.length xc)) := hx2
    have HOB : Hid ((Value.slice oa out.length oc).ownBlock ≠ some wo.heap.size) := HP.out.oblock (Nat.le_refl _)
    clear hx2
    go_wp2_with (at_builtin; refine wpList_append_own_at _ rfl _ _ 22 rfl w.heap.size 24 i0 (.agg #[.int .i64 0, .int .i64 0, .slice none 0 0]) 3 40 Tryz.underlying22 HI.out.1 HI.out.2.1 HI.out.2.2.1 HI.out.2.2.2 rfl (by decide) (.slice oa out.length oc) out.length (cells3 out) rfl HP1.out.oo ⟨wo.heap.size + 1, 0, none⟩ 1 1 [.int .i64 xn, .int .i64 xr, .slice xa x.ps.length xc] rfl rfl (by have h := cell_three_new (wo.alloc (.cells #[.int .i64 xn, .int .i64 xr, .slice xa x.ps.length xc] 24)) (.int .i64 xn) (.int .i64 xr) (.slice xa x.ps.length xc) 24; simpa using h) HONE.out (by simp only [maxLen]; omega) (by omega) (by simp; omega) ?_; intro v1 w1 hown1 hgrow1 hnil1 hat1; obtain ⟨oa1, oc1, rfl, y2, z1, P1⟩ := HP1.out.out' x (by rw [HXN.out.1, HXN.out.2.1, HXN.out.2.2]; exact ⟨rfl, rfl, rfl⟩) HX2.out HOB.out hown1 hgrow1 hat1; clear hown1 hgrow1 hnil1 hat1; simp at z1)
    have HL1 : Hid ((out ++ [x]).length = out.length + 1) := by show _ = _; simp
    clear HP1 HX2 t0 t1 t2 HP
    go_loopw [3, 6] (fun sv iv wx => ∃ (gs cs j sn : Nat) (i : Int), sv = .slice (some ⟨gs, 0, none⟩) sn cs ∧ iv = .int .i64 i ∧ i = (j : Int) - 1 ∧ j ≤ x.ps.length ∧ sn ≤ cs ∧ gs ≠ wo.heap.size ∧ wx.cell? ⟨wo.heap.size, 2, none⟩ = some (.slice xa x.ps.length xc) ∧ wo.heap.size + 2 ≤ wx.heap.size ∧ sn + j = st'.length + x.ps.length ∧ Hid (∃ st, st = st' ++ (x.ps.drop j).reverse ∧ st.length = sn ∧ PR w.heap.size w wx gs cs oa1 oc1 st (out ++ [x]))) (fun _ iv _ => (intOf iv + 1).toNat)
    case atStart =>
      refine ⟨gs, cs, x.ps.length, st'.length, (x.ps.length : Int) - 1, rfl, rfl, rfl, Nat.le_refl _, by omega, by omega, y2, z1, rfl, st', by simp, rfl, P1.out⟩
    case round =>
      obtain ⟨g2, c2, j, sn, i, rfl, rfl, hij, hj, hsc2, hgx, hX2, hz2, hsum, HR2⟩ := hrel
      cases j with
      | zero =>
        have hi0 : i < 0 := by omega
        clear hij
        go_wp2
        go_roundw
        case rel =>
          obtain ⟨st, e1, e2, hP⟩ := HR2.out
          have hlen : (out ++ [x]).length = out.length + 1 := by simp
          simp only [List.drop_zero] at e1
          refine ⟨g2, c2, oa1, oc1, sn, out.length + 1, rfl, rfl, hsc2, by omega, ?_, st, out ++ [x], e2, hlen, hP, ?_, ?_, ?_⟩
          · have := HF.out; omega
          · rw [← HE.out, e1]
            simp only [List.reverse_append, List.reverse_reverse, List.reverse_cons, List.reverse_nil, List.nil_append, List.singleton_append, Ct.flats_append, Ct.flats_cons, List.append_assoc]
            rw [Ct.flat_eq x]
            simp
          · intro y hy
            rw [e1, List.mem_append, List.mem_reverse] at hy
            rcases hy with h | h
            · exact HOk.out y (by simp [h])
            · obtain ⟨k, hk, rfl⟩ := List.mem_iff_getElem.1 h
              exact ⟨HX.out.1.part k hk, HX.out.2.part k hk⟩
          · have := HF.out; omega
        case measure => simp [lenOf]; omega
      | succ m =>
        obtain rfl : i = (m : Int) := by omega
        obtain ⟨st, e1, e2, hP⟩ := HR2.out
        subst e2
        have hm : m < x.ps.length := by omega
        have HBW : Hid (Below B w0 wr) := hb.trans (hP.bel.mono hB)
        obtain ⟨b, o, ea, hbB, c0, c1, c2'⟩ := HX.out.1.cells HBW.out m hm
        have hxa : xa = some ⟨b, o, none⟩ := by
          have h := HXN.out.2.2
          simp only [Ct.sl, Value.slice.injEq] at h
          rw [← h.1, ea]
        subst hxa
        obtain ⟨pn, hpn⟩ : ∃ y, x.ps[m].n = y := ⟨_, rfl⟩
        obtain ⟨pr, hpr⟩ : ∃ y, x.ps[m].r = y := ⟨_, rfl⟩
        obtain ⟨pa, pl, pc, hps⟩ : ∃ a l c, x.ps[m].sl = .slice a l c := ⟨_, _, _, rfl⟩
        rw [hpn] at c0
        rw [hpr] at c1
        rw [hps] at c2'
        have HPN : Hid (Value.int .i64 x.ps[m].n = .int .i64 pn ∧ Value.int .i64 x.ps[m].r = .int .i64 pr ∧ x.ps[m].sl = .slice pa pl pc) := by rw [hpn, hpr, hps]; exact ⟨rfl, rfl, rfl⟩
        have HP2 : Hid (PR w.heap.size w (wr.alloc (.cells #[.int .i64 pn, .int .i64 pr, .slice pa pl pc] 24)) g2 c2 oa1 oc1 st (out ++ [x])) := hP.alloc _
        have HONE2 : Hid (∀ u ∈ [Value.int .i64 pn, .int .i64 pr, .slice pa pl pc], u.oneCell' = true) := by intro u hu; simp at hu; rcases hu with rfl | rfl | rfl <;> rfl
        have HX3 : Hid ((wr.alloc (.cells #[.int .i64 pn, .int .i64 pr, .slice pa pl pc] 24)).cell? ⟨wo.heap.size, 2, none⟩ = some (.slice (some ⟨b, o, none⟩) x.ps.length xc)) := by
          show _ = _
          rw [cell_old_at _ _ _ (by show wo.heap.size < _; omega)]; exact hX2
        have HE1 : Hid (st = st' ++ (x.ps.drop (m + 1)).reverse) := e1
        have hfs := HF.out
        have hle2 := hP.le
        have hstl : st.length ≤ 1200000 := by omega
        have HSum : Hid (st.length + (m + 1) = st'.length + x.ps.length) := hsum
        clear HR2 e1 hP ea hpn hpr hps hij hsum
        go_wp2_with (at_builtin; refine wpList_append_own_at _ rfl _ _ 22 rfl w.heap.size 24 i0 (.agg #[.int .i64 0, .int .i64 0, .slice none 0 0]) 3 40 Tryz.underlying22 HI.out.1 HI.out.2.1 HI.out.2.2.1 HI.out.2.2.2 rfl (by decide) (.slice (some ⟨g2, 0, none⟩) st.length c2) st.length (cells3 st) rfl HP2.out.so ⟨wr.heap.size, 0, none⟩ 1 1 [.int .i64 pn, .int .i64 pr, .slice pa pl pc] rfl rfl (cell_three_new wr (.int .i64 pn) (.int .i64 pr) (.slice pa pl pc) 24) HONE2.out (by simp only [maxLen]; omega) (by omega) (by simp; omega) ?_; intro v1 w1 hown1 hgrow1 hnil1 hat1; obtain ⟨g3, c3, rfl, hsc3, hgx3, y3, z3, P3⟩ := HP2.out.push' x.ps[m] HPN.out HX3.out hgx (by simp; omega) hown1 hgrow1 hat1; clear hown1 hgrow1 hnil1 hat1; rw [World.size_alloc] at z3)
        go_roundw
        case rel =>
          refine ⟨g3, c3, m, st.length + 1, (m : Int) - 1, rfl, rfl, rfl, by omega, hsc3, hgx3, y3, by omega, by have := HSum.out; omega, st ++ [x.ps[m]], ?_, by simp, P3.out⟩
          rw [HE1.out, List.append_assoc, List.drop_eq_getElem_cons hm, List.reverse_cons]
        case measure => simp [intOf]

end Go.Proofs.YtknmfohipdjlpabGreatDoor
