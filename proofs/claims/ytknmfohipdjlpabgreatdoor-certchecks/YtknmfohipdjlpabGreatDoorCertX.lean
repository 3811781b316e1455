import Derived.Test.YtknmfohipdjlpabGreatDoorPrimeX
import Derived.Test.YtknmfohipdjlpabGreatDoorCertC
import Derived.Test.YtknmfohipdjlpabGreatDoorRegionG
import Derived.Test.YtknmfohipdjlpabGreatDoorCertE
import Derived.Maps.AppendAt
import Derived.Test.YtknmfohipdjlpabGreatDoorCertD
section
/- cert.root: the least number whose powers by each prime less do not leave 1. -/
set_option linter.unusedSimpArgs false
set_option linter.unusedVariables false
set_option maxRecDepth 100000
namespace Go.Proofs.YtknmfohipdjlpabGreatDoor
open Go.RowKit

theorem once_at1 : ∀ (l : List Int) (i : Nat), i < l.length → (once l)[i * 2 + 1]? = some (.int .i64 1) := by
  intro l
  induction l with
  | nil => intro i h; simp at h
  | cons p t ih =>
    intro i h
    cases i with
    | zero => rfl
    | succ i =>
      have := ih i (by simpa using h)
      simp only [once, show (i + 1) * 2 + 1 = (i * 2 + 1) + 1 + 1 by omega, List.getElem?_cons_succ]
      exact this

/-- The powers of c by place j of l. -/
def pw7 (N : Nat) (l : List Int) (c j : Nat) : Nat := c ^ (N / (l.getD j 0).toNat) % (N + 1)

set_option maxHeartbeats 1000000 in
theorem root_any (N Rt : Nat) (l : List Int) (g cap : Nat) (w : World) (hN : (N : Int) ≤ 1000) (hR2 : 2 ≤ Rt) (hRN : Rt ≤ N) (hl : l.length ≤ 50) (hlc : l.length ≤ cap) (hg : g < w.heap.size)
    (hq : ∀ j, j < l.length → 2 ≤ l.getD j 0 ∧ l.getD j 0 ≤ 1000) (hc0 : ∀ j, j < l.length → w.cell? ⟨g, j * 2, none⟩ = some (.int .i64 (l.getD j 0))) (hc1 : ∀ j, j < l.length → w.cell? ⟨g, j * 2 + 1, none⟩ = some (.int .i64 1))
    (hok : ∀ j, j < l.length → pw7 N l Rt j ≠ 1) (hno : ∀ c, 2 ≤ c → c < Rt → ∃ j, j < l.length ∧ pw7 N l c j = 1) :
    Calls Tryz.prog 38 #[.int .i64 ((N : Int) + 1), .slice (some ⟨g, 0, none⟩) l.length cap] w fun e w' => e = .returned (.int .i64 Rt) ∧ Below w.heap.size w w' := by
  have HQ : Hid (∀ j, j < l.length → 2 ≤ l.getD j 0 ∧ l.getD j 0 ≤ 1000) := hq
  have HC0 : Hid (∀ j, j < l.length → w.cell? ⟨g, j * 2, none⟩ = some (.int .i64 (l.getD j 0))) := hc0
  have HC1 : Hid (∀ j, j < l.length → w.cell? ⟨g, j * 2 + 1, none⟩ = some (.int .i64 1)) := hc1
  have HOk : Hid (∀ j, j < l.length → pw7 N l Rt j ≠ 1) := hok
  have HNo : Hid (∀ c, 2 ≤ c → c < Rt → ∃ j, j < l.length ∧ pw7 N l c j = 1) := hno
  clear hq hc0 hc1 hok hno
  go_enter Tryz.func38, Tryz.ntmps38
  go_wp2
  refine wp_scope_straight ?_
  go_wp2
  refine wp_label ?_
  go_wp2
  go_loopw [5] (fun cv wx => ∃ c : Nat, cv = .int .i64 c ∧ 2 ≤ c ∧ c ≤ Rt ∧ Hid (Below w.heap.size w wx)) (fun cv _ => Rt + 1 - (intOf cv).toNat)
  case atStart => exact ⟨2, rfl, by omega, by omega, Below.refl _ _⟩
  case round =>
    obtain ⟨wo, hwo⟩ : ∃ wo, wo = wr := ⟨_, rfl⟩
    subst hwo
    obtain ⟨c, rfl, hc1, hc2, HB⟩ := hrel
    have zo := HB.out.size
    go_wp2
    go_loopw [12] (fun iv wx => ∃ i : Nat, i ≤ l.length ∧ iv = .int .i64 i ∧ Hid ((∀ j, j < i → pw7 N l c j ≠ 1) ∧ Below w.heap.size w wx)) (fun iv _ => l.length - (intOf iv).toNat)
    case atStart => exact ⟨0, Nat.zero_le _, rfl, fun j h => absurd h (Nat.not_lt_zero _), HB.out⟩
    case round =>
      obtain ⟨i, hi, rfl, HR⟩ := hrel
      have zr := HR.out.2.size
      by_cases hlt : i < l.length
      · have d0 : wr.cell? ⟨g, i * 2, none⟩ = some (.int .i64 (l.getD i 0)) := (HR.out.2.cell (p := ⟨g, i * 2, none⟩) hg).trans (HC0.out i hlt)
        have d1 : wr.cell? ⟨g, i * 2 + 1, none⟩ = some (.int .i64 1) := (HR.out.2.cell (p := ⟨g, i * 2 + 1, none⟩) hg).trans (HC1.out i hlt)
        obtain ⟨hq1, hq2⟩ := HQ.out i hlt
        obtain ⟨Q, hQ⟩ : ∃ Q : Nat, l.getD i 0 = Q := ⟨(l.getD i 0).toNat, by omega⟩
        rw [hQ] at d0 hq1 hq2
        have hQ0 : ((Q : Int) == 0) = false := beq_eq_false_iff_ne.2 (by omega)
        obtain ⟨S, hS⟩ : ∃ S, c ^ (N / Q) % (N + 1) = S := ⟨_, rfl⟩
        have HS : Hid (c ^ (N / Q) % (N + 1) = S) := hS
        have HP : Hid (pw7 N l c i = S) := by show pw7 N l c i = S; rw [pw7, hQ, ← hS, Int.toNat_natCast]
        obtain ⟨D, hD⟩ : ∃ D, N / Q = D := ⟨_, rfl⟩
        have hDle : D ≤ N := by rw [← hD]; exact Nat.div_le_self _ _
        have HD : Hid (N / Q = D) := hD
        have HDE : Hid ((N : Int) / (Q : Int) = (D : Int)) := by show _ = _; rw [← hD]; simp
        have HW : Hid (wrap64 (D : Int) = (D : Int)) := by show wrap64 (D : Int) = (D : Int); unfold wrap64; omega
        clear hQ hS hD
        by_cases hS1 : S = 1
        · have s1 : ((S : Int) == 1) = true := by rw [hS1]; rfl
          have hcl : c < Rt := by
            rcases Nat.lt_or_ge c Rt with h | h
            · exact h
            · obtain rfl : c = Rt := by omega
              exact absurd (HP.out.trans hS1) (HOk.out i hlt)
          clear hS1
          go_wp2_with fail
          refine (modPower_sp c _ _ _ D (N + 1) S rfl (by rw [HDE.out]; exact HW.out) (by omega) (by omega) (by omega) (by omega) (by rw [← HD.out]; exact HS.out) _).mono ?_
          rintro e w2 ⟨rfl, q2, rfl⟩
          go_wp2
          go_roundw
          case rel => exact ⟨c + 1, by go_num, by omega, by omega, below_drewN' (HR.out.2.alloc zr _)⟩
          case measure => simp [intOf]; omega
        · have s1 : ((S : Int) == 1) = false := beq_eq_false_iff_ne.2 (by omega)
          go_wp2_with fail
          refine (modPower_sp c _ _ _ D (N + 1) S rfl (by rw [HDE.out]; exact HW.out) (by omega) (by omega) (by omega) (by omega) (by rw [← HD.out]; exact HS.out) _).mono ?_
          rintro e w2 ⟨rfl, q2, rfl⟩
          go_wp2
          go_roundw
          case rel =>
            refine ⟨i + 1, by omega, by go_num, fun j hj => ?_, below_drewN' (HR.out.2.alloc zr _)⟩
            by_cases hji : j = i
            · subst hji; rw [HP.out]; exact hS1
            · exact HR.out.1 j (by omega)
          case measure => simp [intOf]; omega
      · have hcR : c = Rt := by
          rcases Nat.lt_or_ge c Rt with h | h
          · obtain ⟨j, hj, hj1⟩ := HNo.out c hc1 h
            exact absurd hj1 (HR.out.1 j (by omega))
          · omega
        subst hcR
        have HB2 : Hid (Below w.heap.size w wr) := HR.out.2
        clear HR
        go_wp2
        rw [Exit.noGoto_ret]
        go_ret
        exact ⟨rfl, HB2.out⟩

theorem root_three (g cap : Nat) (w : World) (hcap : 1 ≤ cap) (hg : g < w.heap.size) (h0 : w.cell? ⟨g, 0, none⟩ = some (.int .i64 2)) (h1 : w.cell? ⟨g, 1, none⟩ = some (.int .i64 1)) :
    Calls Tryz.prog 38 #[.int .i64 3, .slice (some ⟨g, 0, none⟩) 1 cap] w fun e w' => e = .returned (.int .i64 2) ∧ Below w.heap.size w w' :=
  root_any 2 2 [2] g cap w (by decide) (by decide) (by decide) (by decide) hcap hg
    (fun j hj => by obtain rfl : j = 0 := by simpa using hj
                    decide)
    (fun j hj => by obtain rfl : j = 0 := by simpa using hj
                    exact h0)
    (fun j hj => by obtain rfl : j = 0 := by simpa using hj
                    exact h1)
    (fun j hj => by obtain rfl : j = 0 := by simpa using hj
                    decide)
    (fun c h2 hc => by omega)

theorem two_cases {j : Nat} (hj : j < [(2 : Int), 3].length) : j = 0 ∨ j = 1 := by
  have : j < 2 := hj
  omega

theorem root_seven (g cap : Nat) (w : World) (hcap : 2 ≤ cap) (hg : g < w.heap.size) (h0 : w.cell? ⟨g, 0, none⟩ = some (.int .i64 2)) (h1 : w.cell? ⟨g, 1, none⟩ = some (.int .i64 1))
    (h2 : w.cell? ⟨g, 2, none⟩ = some (.int .i64 3)) (h3 : w.cell? ⟨g, 3, none⟩ = some (.int .i64 1)) :
    Calls Tryz.prog 38 #[.int .i64 7, .slice (some ⟨g, 0, none⟩) 2 cap] w fun e w' => e = .returned (.int .i64 3) ∧ Below w.heap.size w w' :=
  root_any 6 3 [2, 3] g cap w (by decide) (by decide) (by decide) (by decide) hcap hg
    (fun j hj => by rcases two_cases hj with rfl | rfl <;> decide)
    (fun j hj => by rcases two_cases hj with rfl | rfl
                    · exact h0
                    · exact h2)
    (fun j hj => by rcases two_cases hj with rfl | rfl
                    · exact h1
                    · exact h3)
    (fun j hj => by rcases two_cases hj with rfl | rfl <;> decide)
    (fun c h2 hc => by
      obtain rfl : c = 2 := by omega
      exact ⟨0, by decide, by decide⟩)

end Go.Proofs.YtknmfohipdjlpabGreatDoor
end

section
/- cert.certify of 2, 3 and 7: the number that the certificate is of. -/
set_option linter.unusedSimpArgs false
set_option linter.unusedVariables false
set_option maxRecDepth 100000
namespace Go.Proofs.YtknmfohipdjlpabGreatDoor
open Go.RowKit

theorem once_len : ∀ l : List Int, (once l).length = l.length * 2 := by
  intro l
  induction l with
  | nil => rfl
  | cons p t ih => simp only [once, List.length_cons, ih]; omega

/-- Block b holds three. -/
structure S3 (b : Nat) (x y z : Value) (w : World) : Prop where
  c0 : w.cell? ⟨b, 0, none⟩ = some x
  c1 : w.cell? ⟨b, 1, none⟩ = some y
  c2 : w.cell? ⟨b, 2, none⟩ = some z
  f0 : w.frozen? ⟨b, 0, none⟩ = false
  f1 : w.frozen? ⟨b, 1, none⟩ = false
  f2 : w.frozen? ⟨b, 2, none⟩ = false
  lt : b < w.heap.size

theorem S3.below {b B : Nat} {x y z : Value} {w w' : World} (h : S3 b x y z w) (k : Below B w w') (hb : b < B) : S3 b x y z w' :=
  ⟨(k.cell (p := ⟨b, 0, none⟩) hb).trans h.c0, (k.cell (p := ⟨b, 1, none⟩) hb).trans h.c1, (k.cell (p := ⟨b, 2, none⟩) hb).trans h.c2, (k.frozen (p := ⟨b, 0, none⟩) hb).trans h.f0, (k.frozen (p := ⟨b, 1, none⟩) hb).trans h.f1, (k.frozen (p := ⟨b, 2, none⟩) hb).trans h.f2, Nat.lt_of_lt_of_le h.lt k.size⟩
theorem S3.new (x y z : Value) (w : World) (t : TypeId) : S3 w.heap.size x y z (w.alloc (.cells #[x, y, z] t)) :=
  ⟨by simp, by simp, by simp, by simp, by simp, by simp, by simp⟩

theorem S3.set2 {b : Nat} {x y z : Value} {w : World} (h : S3 b x y z w) (v : Value) : S3 b x y v (w.setCell ⟨b, 2, none⟩ v) := by
  obtain ⟨c0, c1, c2, f0, f1, f2, lt⟩ := h
  exact ⟨by go_simp, by go_simp, by go_simp, by go_simp, by go_simp, by go_simp, by simpa using lt⟩
theorem S3.other {b b' o : Nat} {x y z : Value} {w : World} (h : S3 b x y z w) (hne : b ≠ b') (v : Value) : S3 b x y z (w.setCell ⟨b', o, none⟩ v) := by
  have e : (w.setCell ⟨b', o, none⟩ v).heap[b]? = w.heap[b]? := Below.heap_setCell _ _ _ _ hne
  exact ⟨(World.cell?_of_block e).trans h.c0, (World.cell?_of_block e).trans h.c1, (World.cell?_of_block e).trans h.c2, (World.frozen?_of_block e).trans h.f0, (World.frozen?_of_block e).trans h.f1, (World.frozen?_of_block e).trans h.f2, by simpa using h.lt⟩

/-- append onto a row of one's own, at an operation that stands alone. -/
theorem oper_append_own {P : Program} {o : Oper} {a : Act} {K : Act → World → Prop} {Q : Exit → Act → World → Prop} (w : World) (s x : Operand) (t : TypeId)
    (ho : o.op = .call { callee := .builtin .append, args := #[s, x], argTypes := #[t, t] })
    (base : Nat) (e : TypeId) (i : TypeInfo) (z : Value) (size bytes : Nat) (ht : P.underlying t = some (.slice e)) (hi : P.info? e = some i) (hz : i.zero = some z)
    (hsize : i.size = size) (hby : i.bytes = bytes) (hzs : z.cells.size = size) (hsz : 0 < size)
    (v : Value) (n : Nat) (xs : List Value) (hs : a.eval s = v) (hown : w.ownsRow base e size v n xs)
    (ad : Addr) (m c : Nat) (news : List Value) (hx : a.eval x = .slice (some ad) m c) (hl : news.length = m * size) (hnews : ∀ j u, news[j]? = some u → w.cell? (ad.add j) = some u) (h1 : ∀ u ∈ news, u.oneCell' = true)
    (h63 : n + m ≤ maxLen) (hbytes : (n + m) * bytes ≤ 140737488355328) (hbase : base ≤ w.heap.size)
    (h : ∀ v' w', w'.ownsRow base e size v' (n + m) (xs ++ news) → w.grownBy w' v.ownBlock → K (a.put o.dst v') w') : Oper.wp P o a w K Q := by
  obtain ⟨v', w', hr, h2, h3, _, _⟩ := run_append_own_at (P := P) w base t o.type e i z size bytes ht hi hz hsize hby hzs hsz v n xs hown ad m c news hl hnews h1 h63 hbytes hbase
  unfold Oper.wp execOp
  simp only [ho, resolve, invoke, builtin, Sem.run_bind, Sem.run_pure, Result.andThen_ok, List.map_toArray, List.map_cons, List.map_nil, hs, hx, hr]
  exact h v' w' h2 h3

def CertPost (p : Int) (w : World) (e : Ending) (w' : World) : Prop :=
  ∃ (r : Int) (a : Option Addr) (n c : Nat), e = .returned (.agg #[.int .i64 p, .int .i64 r, .slice a n c]) ∧ Below w.heap.size w w'

theorem certify_two (w : World) : Calls Tryz.prog 22 #[.int .i64 2] w (CertPost 2 w) := by
  go_enter Tryz.func22, Tryz.ntmps22
  go_wp2
  refine bodyPost_ret (v := .agg #[.int .i64 2, .int .i64 0, .slice none 0 0]) (by simp [results, Tryz.results22, go_sem]) rfl ?_
  refine ⟨0, none, 0, 0, rfl, ?_⟩
  repeat (first | exact (Below.refl _ _).alloc (Nat.le_refl _) _ | refine Below.setCell ?_ (by simp) _)

/-- What holds at every turn: block z is the answer's, block y the certificate's. -/
structure CI (w : World) (z y g : Nat) (l : List Int) (p r : Int) (a : Option Addr) (i c : Nat) (wx : World) : Prop where
  s : S3 y (.int .i64 p) (.int .i64 r) (.slice a i c) wx
  o : S3 z (.int .i64 0) (.int .i64 0) (.slice none 0 0) wx
  row : ∃ cs, wx.ownsRow (y + 1) 24 3 (.slice a i c) i cs
  k : Below z w wx
  cell : ∀ j v, (once l)[j]? = some v → wx.cell? ⟨g, j, none⟩ = some v

theorem Tryz.infoCert' : (Tryz.prog.info? 24).map (fun i => (i.zero, i.size, i.bytes)) = some (some (.agg #[.int .i64 0, .int .i64 0, .slice none 0 0]), 3, 40) := by kernel_rfl

set_option maxHeartbeats 1000000 in
theorem certify_step (N Rt : Nat) (l : List Int) (hN0 : 2 ≤ N) (hN : (N : Int) ≤ 1000) (hl0 : 0 < l.length) (hl : l.length ≤ 50)
    (hf : ∀ w, Calls Tryz.prog 37 #[.int .i64 N] w (FactorPost l w))
    (hr : ∀ g cap w, l.length ≤ cap → g < w.heap.size → (∀ j v, (once l)[j]? = some v → w.cell? ⟨g, j, none⟩ = some v) → Calls Tryz.prog 38 #[.int .i64 ((N : Int) + 1), .slice (some ⟨g, 0, none⟩) l.length cap] w fun e w' => e = .returned (.int .i64 Rt) ∧ Below w.heap.size w w')
    (hs : ∀ j, j < l.length → ∀ w, Calls Tryz.prog 22 #[.int .i64 (l.getD j 0)] w (CertPost (l.getD j 0) w)) (w : World) :
    Calls Tryz.prog 22 #[.int .i64 ((N : Int) + 1)] w (CertPost ((N : Int) + 1) w) := by
  have HF : Hid (∀ w, Calls Tryz.prog 37 #[.int .i64 N] w (FactorPost l w)) := hf
  have HRoot : Hid (∀ g cap w, l.length ≤ cap → g < w.heap.size → (∀ j v, (once l)[j]? = some v → w.cell? ⟨g, j, none⟩ = some v) → Calls Tryz.prog 38 #[.int .i64 ((N : Int) + 1), .slice (some ⟨g, 0, none⟩) l.length cap] w fun e w' => e = .returned (.int .i64 Rt) ∧ Below w.heap.size w w') := hr
  have HSub : Hid (∀ j, j < l.length → ∀ w, Calls Tryz.prog 22 #[.int .i64 (l.getD j 0)] w (CertPost (l.getD j 0) w)) := hs
  obtain ⟨i0, hi, hz0, hz1, hz2⟩ := info_parts Tryz.infoCert'
  have HI : Hid (Tryz.prog.info? 24 = some i0 ∧ i0.zero = some (.agg #[.int .i64 0, .int .i64 0, .slice none 0 0]) ∧ i0.size = 3 ∧ i0.bytes = 40) := ⟨hi, hz0, hz1, hz2⟩
  clear hf hr hs hi hz0 hz1 hz2
  have hn2 : ((N : Int) + 1 == 2) = false := beq_eq_false_iff_ne.2 (by omega)
  go_enter Tryz.func22, Tryz.ntmps22
  go_wp2_with fail
  refine (HF.out _).mono ?_
  rintro e w1 ⟨g, cap, rfl, row, k1⟩
  have z1 := k1.size
  simp at z1
  have S1 : Hid (S3 w.heap.size (.int .i64 0) (.int .i64 0) (.slice none 0 0) w1) := (S3.new _ _ _ w _).below k1 (by simp)
  have hlc : l.length ≤ cap := by
    rcases row.2 with ⟨h, _⟩ | ⟨_, _, _, h, _, _, h4, _⟩
    · cases h
    · cases h; exact h4
  have hg := (row.lt g rfl).2
  have HCell : Hid (∀ j v, (once l)[j]? = some v → w1.cell? ⟨g, j, none⟩ = some v) := by
    intro j v hv
    have hj := (List.getElem?_eq_some_iff.1 hv).1
    rw [row.cellAt j (by rw [once_len] at hj; omega)]; exact hv
  have K1 : Hid (Below w.heap.size w w1) := ((Below.refl _ _).alloc (Nat.le_refl _) _).trans (k1.mono (by simp))
  clear row k1
  go_wp2_with fail
  refine (HRoot.out g cap _ hlc (by simp; omega) (fun j v hv => by
    rw [((Below.alloc_self w1 _).cell (p := ⟨g, j, none⟩) hg)]; exact HCell.out j v hv)).mono ?_
  rintro e w2 ⟨rfl, k2⟩
  have z2 := k2.size
  simp at z2
  have S2 : Hid (S3 w.heap.size (.int .i64 0) (.int .i64 0) (.slice none 0 0) w2) := (S1.out.below (Below.alloc_self w1 _) (by omega)).below k2 (by simp; omega)
  have HCell2 : Hid (∀ j v, (once l)[j]? = some v → w2.cell? ⟨g, j, none⟩ = some v) := fun j v hv =>
    (k2.cell (p := ⟨g, j, none⟩) (by simp; omega)).trans ((((Below.alloc_self w1 _).cell (p := ⟨g, j, none⟩) hg)).trans (HCell.out j v hv))
  have K2 : Hid (Below w.heap.size w w2) := (K1.out.alloc (by omega) _).trans (k2.mono (by simp; omega))
  clear k2 S1 HCell K1
  go_wp2
  have HST : Hid (CI w w.heap.size w2.heap.size g l ((N : Int) + 1) Rt none 0 0 (w2.alloc (.cells #[.int .i64 ((N : Int) + 1), .int .i64 Rt, .slice none 0 0] 24))) := by
    refine ⟨S3.new _ _ _ w2 _, S2.out.below (Below.alloc_self w2 _) (by omega), ⟨[], World.ownsRow_nil _ _ _ _⟩, K2.out.alloc (by omega) _, fun j v hv => ((Below.alloc_self w2 _).cell (p := ⟨g, j, none⟩) (by show g < _; omega)).trans (HCell2.out j v hv)⟩
  have hgy : g < w2.heap.size := by omega
  have hzy : w.heap.size < w2.heap.size := by omega
  clear S2 HCell2 K2
  go_loopw [24] (fun iv wx => ∃ (i : Nat) (a : Option Addr) (ac : Nat), i ≤ l.length ∧ iv = .int .i64 i ∧ Hid (CI w w.heap.size w2.heap.size g l ((N : Int) + 1) Rt a i ac wx)) (fun iv _ => l.length - (intOf iv).toNat)
  case atStart => exact ⟨0, none, 0, Nat.zero_le _, rfl, HST.out⟩
  case round =>
    obtain ⟨i, a, ac, hi1, rfl, HR⟩ := hrel
    by_cases hlt : i < l.length
    · have d0 : wr.cell? ⟨g, i * 2, none⟩ = some (.int .i64 (l.getD i 0)) := HR.out.cell _ _ (once_at l i hlt)
      have d1 : wr.cell? ⟨g, i * 2 + 1, none⟩ = some (.int .i64 1) := HR.out.cell _ _ (once_at1 l i hlt)
      have HSi : Hid (∀ w, Calls Tryz.prog 22 #[.int .i64 (l.getD i 0)] w (CertPost (l.getD i 0) w)) := HSub.out i hlt
      obtain ⟨p, hp⟩ : ∃ p, l.getD i 0 = p := ⟨_, rfl⟩
      rw [hp] at d0 HSi
      clear hp
      have yr := HR.out.s.lt
      have c2 := HR.out.s.c2
      go_wp2_with fail
      refine wp_region_G (fun w' => w'.cell? ⟨w2.heap.size, 2, none⟩ = some (.slice a i ac) ∧ w'.cell? ⟨wr.heap.size, 0, none⟩ = some (.int .i64 p)) 8 (by kernel_rfl) ⟨((Below.alloc_self wr _).cell (p := ⟨w2.heap.size, 2, none⟩) yr).trans c2, by simp⟩ (fun hHeld => ?_)
      refine wpAnyG_take (i := 0) (v := ?v0x1) rfl (by kernel_rfl) (fun _ _ _ h => h) (Or.inl ⟨by rfl, ?y0x1⟩) hHeld ?r0x1
      case y0x1 => (intro wS hSw; obtain ⟨s1, s2⟩ := hSw; go_simp; try with_reducible rfl)
      try simp only [Act.put, List.setIfInBounds_toArray, List.set_cons_zero, List.set_cons_succ]
      refine wpAnyG_take (i := 1) (v := ?v1x2) rfl (by kernel_rfl) (fun _ _ _ h => h) (Or.inl ⟨by rfl, ?y1x2⟩) hHeld ?r1x2
      case y1x2 => (intro wS hSw; obtain ⟨s1, s2⟩ := hSw; go_simp; try with_reducible rfl)
      try simp only [Act.put, List.setIfInBounds_toArray, List.set_cons_zero, List.set_cons_succ]
      refine wpAnyG_take (i := 2) (v := ?v2x3) rfl (by kernel_rfl) (fun _ _ _ h => h) (Or.inl ⟨by rfl, ?y2x3⟩) hHeld ?r2x3
      case y2x3 => (intro wS hSw; obtain ⟨s1, s2⟩ := hSw; go_simp; try with_reducible rfl)
      try simp only [Act.put, List.setIfInBounds_toArray, List.set_cons_zero, List.set_cons_succ]
      refine wpAnyG_take (i := 3) (v := ?v3x4) rfl (by kernel_rfl) (fun _ _ _ h => h) (Or.inl ⟨by rfl, ?y3x4⟩) hHeld ?r3x4
      case y3x4 => (intro wS hSw; obtain ⟨s1, s2⟩ := hSw; go_simp; try with_reducible rfl)
      try simp only [Act.put, List.setIfInBounds_toArray, List.set_cons_zero, List.set_cons_succ]
      refine wpAnyG_one (i := 4) rfl (by kernel_rfl) (fun K hK => ?_)
      go_simp
      refine (HSi.out _).mono ?_
      rintro e w3 ⟨r3, a3, n3, c3, rfl, k3⟩
      have z3 := k3.size
      simp at z3
      have K3 : Hid (Below wr.heap.size wr w3) := (((Below.refl _ _).alloc (Nat.le_refl _) _).drew).trans (k3.mono (by simp))
      have h1 : w3.cell? ⟨w2.heap.size, 2, none⟩ = some (.slice a i ac) := (K3.out.cell (p := ⟨w2.heap.size, 2, none⟩) yr).trans c2
      have h2 : w3.cell? ⟨wr.heap.size, 0, none⟩ = some (.int .i64 p) := (k3.cell (p := ⟨wr.heap.size, 0, none⟩) (by simp)).trans (by simp)
      clear k3
      refine hK.out _ _ ⟨h1, h2⟩ ?_
      clear hK K
      try simp only [Act.put, List.setIfInBounds_toArray, List.set_cons_zero, List.set_cons_succ]
      refine wpAnyG_one (i := 5) rfl (by kernel_rfl) (fun K hK => ?_)
      go_simp
      clear hHeld
      obtain ⟨w4, hw4⟩ : ∃ w4, w3.alloc (.cells #[.int .i64 p, .int .i64 r3, .slice a3 n3 c3] 24) = w4 := ⟨_, rfl⟩
      have HNew : Hid (∀ j u, [Value.int .i64 p, .int .i64 r3, .slice a3 n3 c3][j]? = some u → w4.cell? ((⟨w3.heap.size, 0, none⟩ : Addr).add j) = some u) := by rw [← hw4]; exact cell_three_new w3 _ _ _ _
      have z4 : w4.heap.size = w3.heap.size + 1 := by rw [← hw4]; simp
      have K4 : Hid (Below wr.heap.size wr w4) := by rw [← hw4]; exact K3.out.alloc K3.out.size _
      have hHeld : w4.cell? ⟨w2.heap.size, 2, none⟩ = some (.slice a i ac) ∧ w4.cell? ⟨wr.heap.size, 0, none⟩ = some (.int .i64 p) := by
        rw [← hw4]
        exact ⟨((Below.alloc_self w3 _).cell (p := ⟨w2.heap.size, 2, none⟩) (by show w2.heap.size < _; omega)).trans h1, ((Below.alloc_self w3 _).cell (p := ⟨wr.heap.size, 0, none⟩) (by show wr.heap.size < _; omega)).trans h2⟩
      rw [hw4]
      refine hK.out _ _ hHeld ?_
      clear hK K
      try simp only [Act.put, List.setIfInBounds_toArray, List.set_cons_zero, List.set_cons_succ]
      clear h1 h2 K3 hw4
      obtain ⟨cs, row⟩ := HR.out.row
      have row4 : w4.ownsRow (w2.heap.size + 1) 24 3 (.slice a i ac) i cs := by
        obtain ⟨h1, h2⟩ := row
        refine ⟨h1, ?_⟩
        rcases h2 with h3 | ⟨g, cap, cur, h3, h4, h5, h6⟩
        · exact .inl h3
        · exact .inr ⟨g, cap, cur, h3, h4, (K4.out.block g (lt_of_some h5)).trans h5, h6⟩
      refine wpAnyG_one (i := 6) rfl (by kernel_rfl) (fun K hK => ?_)
      rw [if_pos (by kernel_rfl)]
      refine oper_append_own w4 _ _ 22 rfl (w2.heap.size + 1) 24 i0 (.agg #[.int .i64 0, .int .i64 0, .slice none 0 0]) 3 40 Tryz.underlying22 HI.out.1 HI.out.2.1 HI.out.2.2.1 HI.out.2.2.2 rfl (by decide) (.slice a i ac) i cs rfl row4 ⟨w3.heap.size, 0, none⟩ 1 1 [.int .i64 p, .int .i64 r3, .slice a3 n3 c3] rfl rfl HNew.out (by simp [Value.oneCell']) (by simp only [maxLen]; omega) (by omega) (by omega) ?_
      intro v' w5 hown hgrow
      obtain ⟨g', cap', rfl⟩ := ownsRow_succ hown
      have K5 : Below (w2.heap.size + 1) wr w5 := (K4.out.mono (by omega)).grown hgrow (by omega) (fun k e => (row.lt k e).1)
      have e1 : w5.cell? ⟨w2.heap.size, 2, none⟩ = some (.slice a i ac) := (K5.cell (p := ⟨w2.heap.size, 2, none⟩) (by show w2.heap.size < _; omega)).trans c2
      have e2 : w5.cell? ⟨wr.heap.size, 0, none⟩ = some (.int .i64 p) := (World.cell?_of_block (hgrow.block wr.heap.size (by omega) (fun e => by have := (row.lt _ e.symm).2; omega))).trans hHeld.2
      have e3 : w5.frozen? ⟨w2.heap.size, 2, none⟩ = false := (K5.frozen (p := ⟨w2.heap.size, 2, none⟩) (by show w2.heap.size < _; omega)).trans HR.out.s.f2
      clear hHeld
      have hHeld : w5.cell? ⟨w2.heap.size, 2, none⟩ = some (.slice a i ac) ∧ w5.cell? ⟨wr.heap.size, 0, none⟩ = some (.int .i64 p) := ⟨e1, e2⟩
      have HNext : Hid (CI w w.heap.size w2.heap.size g l ((N : Int) + 1) Rt (some ⟨g', 0, none⟩) (i + 1) cap' (w5.setCell ⟨w2.heap.size, 2, none⟩ (.slice (some ⟨g', 0, none⟩) (i + 1) cap'))) := by
        refine ⟨(HR.out.s.below K5 (by omega)).set2 _, (HR.out.o.below K5 (by omega)).other (by show w.heap.size ≠ w2.heap.size; omega) _, ⟨_, ownsRow_setCell_below hown (a := ⟨w2.heap.size, 2, none⟩) (by show w2.heap.size < _; omega) _⟩, (HR.out.k.trans (K5.mono (by omega))).setCell (by show w.heap.size ≤ w2.heap.size; omega) _, fun j v hv => ?_⟩
        rw [World.cell?_of_block (Below.heap_setCell w5 ⟨w2.heap.size, 2, none⟩ _ g (by show g ≠ w2.heap.size; omega))]
        exact (K5.cell (p := ⟨g, j, none⟩) (by show g < _; omega)).trans (HR.out.cell j v hv)
      clear K5 hown hgrow row row4 K4
      refine hK.out _ _ hHeld ?_
      clear hK K
      try simp only [Act.put, List.setIfInBounds_toArray, List.set_cons_zero, List.set_cons_succ]
      refine wpAnyG_take (i := 7) (v := ?v7x5) rfl (by kernel_rfl) (fun _ _ _ h => h) (Or.inl ⟨by rfl, ?y7x5⟩) hHeld ?r7x5
      case y7x5 => (intro wS hSw; obtain ⟨s1, s2⟩ := hSw; go_simp; try with_reducible rfl)
      try simp only [Act.put, List.setIfInBounds_toArray, List.set_cons_zero, List.set_cons_succ]
      refine wpAnyG_last (i := 8) rfl (by kernel_rfl) (by kernel_rfl) (fun K hK => ?_)
      go_simp
      refine hK.out _ _ ?_
      clear hK K
      try simp only [Act.put, List.setIfInBounds_toArray, List.set_cons_zero, List.set_cons_succ]
      refine wpAnyG_done (by kernel_rfl) ?_ _
      go_wp2
      go_roundw
      case rel => exact ⟨i + 1, some ⟨g', 0, none⟩, cap', by omega, by go_num, HNext.out⟩
      case measure => simp [intOf]; omega
    · obtain rfl : i = l.length := by omega
      have q0 := HR.out.s.c0
      have q1 := HR.out.s.c1
      have q2 := HR.out.s.c2
      have q3 := HR.out.s.lt
      have o0 := HR.out.o.f0
      have o1 := HR.out.o.f1
      have o2 := HR.out.o.f2
      have o3 := HR.out.o.lt
      have o4 := HR.out.o.c0
      have o5 := HR.out.o.c1
      have o6 := HR.out.o.c2
      go_wp2
      refine bodyPost_ret (v := .agg #[.int .i64 ((N : Int) + 1), .int .i64 Rt, .slice a l.length ac]) (by simp [results, Tryz.results22, go_sem, o3, o4, o5, o6]) rfl ?_
      exact ⟨Rt, a, l.length, ac, rfl, ((HR.out.k.setCell (Nat.le_refl _) _).setCell (Nat.le_refl _) _).setCell (Nat.le_refl _) _⟩

end Go.Proofs.YtknmfohipdjlpabGreatDoor
end

section
/- The certificate of seven, as the law builds it; what Check says of it. -/
set_option linter.unusedSimpArgs false
set_option linter.unusedVariables false
set_option maxRecDepth 100000
namespace Go.Proofs.YtknmfohipdjlpabGreatDoor
open Go.RowKit

/-- The certificate of seven, its Parts in blocks h1 and h2. -/
def two7 : Ct := .mk 2 0 none 0 []
def three7 (h : Nat) : Ct := .mk 3 2 (some ⟨h, 0, none⟩) 1 [two7]
def ct7 (h1 h2 : Nat) : Ct := .mk 7 3 (some ⟨h2, 0, none⟩) 2 [two7, three7 h1]

theorem strip26 : strip 2 6 = 3 := by rw [strip_go (by decide) (by decide) (by decide), show 6 / 2 = 3 by decide, strip_end (by decide)]
theorem strip33 : strip 3 3 = 1 := by rw [strip_go (by decide) (by decide) (by decide), show 3 / 3 = 1 by decide, strip_end (by decide)]
theorem strip22 : strip 2 2 = 1 := by rw [strip_go (by decide) (by decide) (by decide), show 2 / 2 = 1 by decide, strip_end (by decide)]

theorem code_two7 : two7.code = 0 := by decide
theorem formed3 : formedB 3 2 [2] = true := by
  rw [formedB, if_neg (by decide), if_neg (by decide), show ((3 : Int) - 1).toNat = 2 by decide, strips, show (2 : Int).toNat = 2 by decide, if_neg (by decide), strip22]
  decide
theorem formed7 : formedB 7 3 [2, 3] = true := by
  rw [formedB, if_neg (by decide), if_neg (by decide), show ((7 : Int) - 1).toNat = 6 by decide, strips, show (2 : Int).toNat = 2 by decide, if_neg (by decide), strip26, strips, show (3 : Int).toNat = 3 by decide, if_neg (by decide), strip33]
  decide
theorem code_three7 (h : Nat) : (three7 h).code = 0 := by
  show codeOf 3 2 [2] = 0
  rw [codeOf, if_neg (by decide), if_pos formed3, if_pos (by decide)]
theorem code_ct7 (h1 h2 : Nat) : (ct7 h1 h2).code = 0 := by
  show codeOf 7 3 [2, 3] = 0
  rw [codeOf, if_neg (by decide), if_pos formed7, if_pos (by decide)]

theorem go_ct7 (h1 h2 : Nat) : goF (ct7 h1 h2).flat 0 = (0, 0) := by
  have e : (ct7 h1 h2).flat = [ct7 h1 h2, two7, three7 h1, two7] := by
    simp only [ct7, three7, two7, Ct.flat, Ct.flats, List.append_nil, List.cons_append, List.nil_append]
  rw [e]
  simp only [goF, code_ct7, code_two7, code_three7]
  decide

theorem node_two7 (B : Nat) (w : World) : InW B w two7 :=
  .mk ⟨by decide, by decide, by decide, by decide, by decide, by decide, fun h => by simp [two7, Ct.ps] at h⟩ (fun i h => by simp [two7, Ct.ps] at h)

theorem in_ct7 (w : World) (h1 h2 : Nat) (l1 : h1 < w.heap.size) (l2 : h2 < w.heap.size)
    (a0 : w.cell? ⟨h1, 0, none⟩ = some (.int .i64 2)) (a1 : w.cell? ⟨h1, 1, none⟩ = some (.int .i64 0)) (a2 : w.cell? ⟨h1, 2, none⟩ = some (.slice none 0 0))
    (b0 : w.cell? ⟨h2, 0, none⟩ = some (.int .i64 2)) (b1 : w.cell? ⟨h2, 1, none⟩ = some (.int .i64 0)) (b2 : w.cell? ⟨h2, 2, none⟩ = some (.slice none 0 0))
    (b3 : w.cell? ⟨h2, 3, none⟩ = some (.int .i64 3)) (b4 : w.cell? ⟨h2, 4, none⟩ = some (.int .i64 2)) (b5 : w.cell? ⟨h2, 5, none⟩ = some (.slice (some ⟨h1, 0, none⟩) 1 1)) :
    InW w.heap.size w (ct7 h1 h2) := by
  have h3 : InW w.heap.size w (three7 h1) := by
    refine .mk ⟨by show (-9223372036854775808 : Int) ≤ 3; decide, by show (3 : Int) ≤ 9223372036854775807; decide, by show (-9223372036854775808 : Int) ≤ 2; decide, by show (2 : Int) ≤ 9223372036854775807; decide, by show 1 ≤ 9223372036854775807; omega, by show 1 ≤ 1; omega, fun _ => ⟨h1, 0, rfl, l1, fun i hi => ?_⟩⟩ (fun i hi => ?_)
    · have hi' : i < 1 := hi
      obtain rfl : i = 0 := by omega
      exact ⟨a0, a1, a2⟩
    · have hi' : i < 1 := hi
      obtain rfl : i = 0 := by omega
      exact node_two7 _ _
  refine .mk ⟨by show (-9223372036854775808 : Int) ≤ 7; decide, by show (7 : Int) ≤ 9223372036854775807; decide, by show (-9223372036854775808 : Int) ≤ 3; decide, by show (3 : Int) ≤ 9223372036854775807; decide, by show 2 ≤ 9223372036854775807; omega, by show 2 ≤ 2; omega, fun _ => ⟨h2, 0, rfl, l2, fun i hi => ?_⟩⟩ (fun i hi => ?_)
  · have hi' : i < 2 := hi
    rcases (show i = 0 ∨ i = 1 by omega) with rfl | rfl
    · exact ⟨b0, b1, b2⟩
    · exact ⟨b3, b4, b5⟩
  · have hi' : i < 2 := hi
    rcases (show i = 0 ∨ i = 1 by omega) with rfl | rfl
    · exact node_two7 _ _
    · exact h3

def SevenPost (w : World) (e : Ending) (w' : World) : Prop :=
  ∃ c : Ct, e = .returned (.agg #[.int .i64 c.n, .int .i64 c.r, c.sl]) ∧ InW w'.heap.size w' c ∧ goF c.flat 0 = (0, 0) ∧ Below w.heap.size w w'

theorem seven_any (w : World) : Calls Tryz.prog 13 #[] w (SevenPost w) := by
  go_enter Tryz.func13, Tryz.ntmps13
  go_wp2
  refine bodyPost_ret (v := .agg #[.int .i64 7, .int .i64 3, .slice (some ⟨w.heap.size + 1 + 1, 0, none⟩) 2 2]) (by simp [results, Tryz.results13, go_sem]) rfl ?_
  refine ⟨ct7 (w.heap.size + 1) (w.heap.size + 1 + 1), rfl, ?_, go_ct7 _ _, ?_⟩
  · refine in_ct7 _ _ _ (by simp) (by simp) ?_ ?_ ?_ ?_ ?_ ?_ ?_ ?_ ?_
    · rw [cell_old_at _ _ _ (by simp), cell_new_at _ _ _ _ _ (by simp)]; rfl
    · rw [cell_old_at _ _ _ (by simp), cell_new_at _ _ _ _ _ (by simp)]; rfl
    · rw [cell_old_at _ _ _ (by simp), cell_new_at _ _ _ _ _ (by simp)]; rfl
    · rw [cell_new_at _ _ _ _ _ (by simp)]; rfl
    · rw [cell_new_at _ _ _ _ _ (by simp)]; rfl
    · rw [cell_new_at _ _ _ _ _ (by simp)]; rfl
    · rw [cell_new_at _ _ _ _ _ (by simp)]; rfl
    · rw [cell_new_at _ _ _ _ _ (by simp)]; rfl
    · rw [cell_new_at _ _ _ _ _ (by simp)]; rfl
  · exact (((Below.refl _ _).alloc (Nat.le_refl _) _).alloc (by simp) _).alloc (by simp; omega) _

end Go.Proofs.YtknmfohipdjlpabGreatDoor
end

section
/- The document's example: certBegun, out of what Make answers for seven. -/
set_option linter.unusedSimpArgs false
set_option linter.unusedVariables false
set_option maxRecDepth 100000
namespace Go.Proofs.YtknmfohipdjlpabGreatDoor
open Go.RowKit

theorem field_code (w : World) (x y : Int) : (Instr.field 28 (.agg #[.int .i64 x, .int .i64 y]) 0).run Tryz.prog w = .ok (.int .i64 x) w := by
  kernel_rfl

def MakesSeven : Prop := ∀ w : World, Calls Tryz.prog 10 #[.int .i64 7] w fun e w' => ∃ (r : Int) (a : Option Addr) (l c : Nat), e = .returned (.tuple #[.agg #[.int .i64 7, .int .i64 r, .slice a l c], .agg #[.int .i64 0, .int .i64 0]]) ∧ Below w.heap.size w w'

theorem begun_of (hm : MakesSeven) (w : World) : Calls Tryz.prog 5 #[] w fun e w' => e = .returned (.bool true) ∧ Below w.heap.size w w' := by
  go_enter Tryz.func5, Tryz.ntmps5
  go_wp2_with fail
  refine (hm _).mono ?_
  rintro e w1 ⟨r, a, l, c, rfl, k1⟩
  have K1 : Hid (Below w.heap.size w w1) := k1
  have z1 := k1.size
  clear k1 hm
  go_wp2_with fail
  refine (seven_any _).mono ?_
  rintro e w2 ⟨ct, rfl, hin, hgo, k2⟩
  obtain ⟨cn, hn⟩ : ∃ n, ct.n = n := ⟨_, rfl⟩
  obtain ⟨cr, hr⟩ : ∃ r, ct.r = r := ⟨_, rfl⟩
  obtain ⟨sa, sl, sc, hsl⟩ : ∃ x y z, ct.sl = .slice x y z := ⟨_, _, _, rfl⟩
  have hcall := Check_any hin w2 (Below.refl _ _) (Nat.le_refl _)
  rw [hgo, hn, hr, hsl] at hcall
  rw [hn, hr, hsl]
  have HCall : Hid (Calls Tryz.prog 7 #[.agg #[.int .i64 cn, .int .i64 cr, .slice sa sl sc]] w2 fun e w' => e = .returned (.agg #[.int .i64 0, .int .i64 0]) ∧ Below w2.heap.size w2 w') := hcall
  have z2 := k2.size
  simp at z2
  have K2 : Hid (Below w.heap.size w w2) := ((K1.out.alloc z1 _).alloc (by simp; omega) _).trans (k2.mono (by simp; omega))
  clear hcall hin hgo k2 hn hr hsl
  go_wp2_with fail
  refine HCall.out.mono ?_
  rintro e w3 ⟨rfl, k3⟩
  have K3 : Hid (Below w.heap.size w w3) := K2.out.trans (k3.mono (by omega))
  clear k3
  have hfield := field_code w3 0 0
  go_wp2
  go_ret
  exact ⟨rfl, K3.out⟩

end Go.Proofs.YtknmfohipdjlpabGreatDoor
end

section
/- cert.certify of 3 and 7; prime.Is and cert.Make of 7; the document's example. -/
set_option linter.unusedSimpArgs false
set_option linter.unusedVariables false
set_option maxRecDepth 100000
namespace Go.Proofs.YtknmfohipdjlpabGreatDoor
open Go.RowKit

theorem certify_three (w : World) : Calls Tryz.prog 22 #[.int .i64 3] w (CertPost 3 w) :=
  certify_step 2 2 [2] (by decide) (by decide) (by decide) (by decide) Factor_two
    (fun g cap w hcap hg hc => root_three g cap w hcap hg (hc 0 _ rfl) (hc 1 _ rfl))
    (fun j hj w => by
      obtain rfl : j = 0 := by simpa using hj
      exact certify_two w) w

theorem certify_seven (w : World) : Calls Tryz.prog 22 #[.int .i64 7] w (CertPost 7 w) :=
  certify_step 6 3 [2, 3] (by decide) (by decide) (by decide) (by decide) Factor_six
    (fun g cap w hcap hg hc => root_seven g cap w hcap hg (hc 0 _ rfl) (hc 1 _ rfl) (hc 2 _ rfl) (hc 3 _ rfl))
    (fun j hj w => by
      rcases two_cases hj with rfl | rfl
      · exact certify_two w
      · exact certify_three w) w

theorem numbers_seven (b : Nat) (w : World) (hb : b < w.heap.size) (hc : w.cell? ⟨b, 0, none⟩ = some (.int .i64 7)) :
    Calls Tryz.prog 20 #[.slice (some ⟨b, 0, none⟩) 1 1] w fun e w' => e = .returned (.agg #[.int .i64 0, .int .i64 0]) ∧ Below w.heap.size w w' := by
  refine (numbersFault_any [7] b 0 1 w (by decide) hb (fun j hj => ?_)).mono ?_
  · obtain rfl : j = 0 := by simpa using hj
    exact hc
  · rintro e w' ⟨rfl, k⟩
    exact ⟨rfl, k⟩

theorem Is_seven (w : World) : Calls Tryz.prog 21 #[.int .i64 7] w fun e w' => e = .returned (.tuple #[.bool true, .agg #[.int .i64 0, .int .i64 0]]) ∧ Below w.heap.size w w' := by
  go_enter Tryz.func21, Tryz.ntmps21
  go_wp2_with fail
  refine (numbers_seven _ _ (by simp) (by simp)).mono ?_
  rintro e w1 ⟨rfl, k1⟩
  have z1 := k1.size
  simp at z1
  have S1 : Hid (Sv w.heap.size 0 0 w1) := ((Sv.new 0 0 w).alloc _ _).below k1
  have K1 : Hid (Below w.heap.size w w1) := (((Below.refl _ _).alloc (Nat.le_refl _) _).alloc (by simp) _).trans (k1.mono (by simp; omega))
  clear k1
  go_wp2_with fail
  refine (isPrime_small 7 (by decide) _).mono ?_
  rintro e w2 ⟨rfl, k2⟩
  have z2 := k2.size
  simp at z2
  have S2 := (S1.out.alloc _ _).below k2
  have q0 := S2.c0
  have q1 := S2.c1
  have q2 := S2.f0
  have q3 := S2.f1
  have q4 := S2.lt
  have K2 : Hid (Below w.heap.size w w2) := (K1.out.alloc (by omega) _).trans (k2.mono (by simp; omega))
  clear k2 S1 K1 S2
  go_wp2
  refine bodyPost_ret (v := .tuple #[.bool true, .agg #[.int .i64 0, .int .i64 0]]) (by simp [results, Tryz.results21, go_sem, q0, q1, q4]) rfl ?_
  exact ⟨rfl, (K2.out.setCell (by simp) _).setCell (by simp) _⟩

theorem makesSeven : MakesSeven := by
  intro w
  go_enter Tryz.func10, Tryz.ntmps10
  go_wp2_with fail
  refine (numbers_seven _ _ (by simp) ((cell_new_at _ _ _ _ _ (by simp)).trans rfl)).mono ?_
  rintro e w1 ⟨rfl, k1⟩
  have z1 := k1.size
  simp at z1
  have S1 : Hid (S3 w.heap.size (.int .i64 0) (.int .i64 0) (.slice none 0 0) w1) := (((S3.new _ _ _ w _).below (Below.alloc_self _ _) (by simp)).below (Below.alloc_self _ _) (by simp; omega)).below k1 (by simp; omega)
  have T1 : Hid (Sv (w.heap.size + 1) 0 0 w1) := by
    have h := ((Sv.new 0 0 (w.alloc (.cells #[.int .i64 0, .int .i64 0, .slice none 0 0] 24))).alloc _ _).below k1
    have h2 : Sv (w.heap.size + 1) 0 0 w1 := by simpa using h
    exact h2
  have K1 : Hid (Below w.heap.size w w1) := ((((Below.refl _ _).alloc (Nat.le_refl _) _).alloc (by simp) _).alloc (by simp; omega) _).trans (k1.mono (by simp; omega))
  clear k1
  go_wp2_with fail
  refine (Is_seven _).mono ?_
  rintro e w2 ⟨rfl, k2⟩
  have z2 := k2.size
  simp at z2
  have S2 : Hid (S3 w.heap.size (.int .i64 0) (.int .i64 0) (.slice none 0 0) w2) := (S1.out.below (Below.alloc_self _ _) (by omega)).below k2 (by simp; omega)
  have T2 : Hid (Sv (w.heap.size + 1) 0 0 w2) := (T1.out.alloc _ _).below k2
  have K2 : Hid (Below w.heap.size w w2) := (K1.out.alloc (by omega) _).trans (k2.mono (by simp; omega))
  clear k2 S1 T1 K1
  go_wp2_with fail
  refine (certify_seven _).mono ?_
  rintro e w3 ⟨r, a, n, c, rfl, k3⟩
  have z3 := k3.size
  simp at z3
  have S := (S2.out.below (Below.alloc_self _ _) (by omega)).below k3 (by simp; omega)
  have T := (T2.out.alloc _ _).below k3
  have q0 := T.c0
  have q1 := T.c1
  have q2 := T.f0
  have q3 := T.f1
  have q4 := T.lt
  have o0 := S.c0
  have o1 := S.c1
  have o2 := S.c2
  have o3 := S.f0
  have o4 := S.f1
  have o5 := S.f2
  have o6 := S.lt
  have K3 : Hid (Below w.heap.size w w3) := (K2.out.alloc (by omega) _).trans (k3.mono (by simp; omega))
  clear k3 S2 T2 K2 S T
  go_wp2
  refine bodyPost_ret (v := .tuple #[.agg #[.int .i64 7, .int .i64 r, .slice a n c], .agg #[.int .i64 0, .int .i64 0]]) (by simp [results, Tryz.results10, go_sem, q0, q1, q4, o0, o1, o2, o6]) rfl ?_
  refine ⟨r, a, n, c, rfl, ?_⟩
  repeat (first | exact K3.out | refine Below.setCell ?_ (by simp) _)

theorem begun_all (w : World) : Calls Tryz.prog 5 #[] w fun e w' => e = .returned (.bool true) ∧ Below w.heap.size w w' := begun_of makesSeven w

end Go.Proofs.YtknmfohipdjlpabGreatDoor
end
