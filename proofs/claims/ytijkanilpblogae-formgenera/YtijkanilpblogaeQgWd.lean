import Derived.Test.YtijkanilpblogaeQgVd
import Derived.Test.YtijkanilpblogaeQgB
import Derived.Test.YtijkanilpblogaeShelf
import Derived.Lib.SlKeysI
import Derived.Sort.OwnSortedInts
import Derived.Test.YtijkanilpblogaeFormGe
import Derived.Test.YtijkanilpblogaeQcVd
import Derived.Test.YtijkanilpblogaeFormGeneraWalk
section
/- The program: genus. -/
set_option linter.unusedSimpArgs false
set_option linter.unusedVariables false
set_option maxRecDepth 100000
namespace Go.Proofs.Ytijkanilpblogae
open Go.RowKit Go.Maps Go.Sort

theorem oneF_first {f : Qf} {D : Int} (hd : -f.disc = D) (hD : 1 ≤ D) : MQ.Fst f (oneF D) ∧ 3 ≤ D ∧ 4 * ((D + D % 2) / 4) = D + D % 2 := by
  have hb : f.b * f.b % 4 = 0 ∨ f.b * f.b % 4 = 1 := by
    rcases (show f.b % 2 = 0 ∨ f.b % 2 = 1 by omega) with h | h
    · obtain ⟨q, hq⟩ : ∃ q, f.b = 2 * q := ⟨f.b / 2, by omega⟩
      rw [hq]
      have : 2 * q * (2 * q) = 4 * (q * q) := by grind
      omega
    · obtain ⟨q, hq⟩ : ∃ q, f.b = 2 * q + 1 := ⟨f.b / 2, by omega⟩
      rw [hq]
      have : (2 * q + 1) * (2 * q + 1) = 4 * (q * q + q) + 1 := by grind
      omega
  have e : f.disc = f.b * f.b - 4 * (f.a * f.c) := by unfold Qf.disc; rw [Int.mul_assoc]
  refine ⟨⟨rfl, ?_, ?_⟩, by omega, by omega⟩
  · show D % 2 = 0 ∨ D % 2 = 1
    omega
  · show (D % 2) * (D % 2) - 4 * 1 * ((D + D % 2) / 4) = f.disc
    rcases (show D % 2 = 0 ∨ D % 2 = 1 by omega) with h | h <;> rw [h] <;> omega
theorem eqm_emod (D a : Int) : MQ.Eqm D (a % D) a := ⟨-(a / D), by rw [Int.mul_neg]; have := Int.emod_add_mul_ediv a D; omega⟩
theorem cp_eqm {D a b : Int} (h : MQ.Eqm D a b) (k : MQ.Cp a D) : MQ.Cp b D := by
  obtain ⟨q, hq⟩ := h
  obtain ⟨x, y, e⟩ := k
  exact ⟨x, y + x * q, by have : a = b + D * q := by omega
                          rw [this] at e; grind⟩
theorem eqm_eq {D a b : Int} (h : MQ.Eqm D a b) (ha : 0 ≤ a ∧ a < D) (hb : 0 ≤ b ∧ b < D) : a = b := by
  have h1 : a % D = b % D := Int.emod_eq_emod_iff_emod_sub_eq_zero.2 (Int.emod_eq_zero_of_dvd h)
  rwa [Int.emod_eq_of_lt ha.1 ha.2, Int.emod_eq_of_lt hb.1 hb.2] at h1
theorem eqm_of_emod {D a b : Int} (h : a % D = b % D) : MQ.Eqm D a b := Int.dvd_of_emod_eq_zero (Int.emod_eq_emod_iff_emod_sub_eq_zero.1 h)
theorem met_bd {D i : Int} {y x : Nat} (hD : 1 ≤ D) (h : Met D y x i) : 0 ≤ i ∧ i < D := by
  obtain ⟨x', y', _, _, _, _, rfl⟩ := h
  exact ⟨Int.emod_nonneg _ (by omega), Int.emod_lt_of_pos _ (by omega)⟩
theorem met_one {D : Int} (hD : 3 ≤ D) : Met D 2 0 1 := by
  have e : orest D 1 0 = 1 := by
    unfold orest oneF Qf.at
    simp
    exact Int.emod_eq_of_lt (by omega) (by omega)
  exact ⟨1, 0, by omega, by omega, by omega, by rw [e]; simp, e.symm⟩
theorem gen_mem {f : Qf} {D x0 U v : Int} {ss : List Int} (ha : 0 < f.a) (hd : -f.disc = D) (hD : 1 ≤ D) (cp : MQ.Cp (f.at x0 1) D) (hU : U = f.at x0 1 % D) (hss : ∀ x, x ∈ ss ↔ Met D 2 0 x) :
    v ∈ ss.map (fun x => U * x % D) ↔ 0 ≤ v ∧ v < D ∧ MQ.Cp v D ∧ MQ.Vl D f v := by
  obtain ⟨ho, hD3, h4⟩ := oneF_first hd hD
  have eU : MQ.Eqm D U (f.at x0 1) := by rw [hU]; exact eqm_emod _ _
  have cU : MQ.Cp U D := cp_eqm eU.symm cp
  rw [List.mem_map]
  constructor
  · rintro ⟨m, hm, rfl⟩
    obtain ⟨x', y', _, _, _, hg, rfl⟩ := (hss m).1 hm
    have e1 : MQ.Eqm D (orest D x' y') ((oneF D).at x' y') := eqm_emod _ _
    have cv : MQ.Cp (U * orest D x' y' % D) D := cp_eqm (eqm_emod _ _).symm (cU.mul' (MQ.Cp.of_gcd hg))
    refine ⟨Int.emod_nonneg _ (by omega), Int.emod_lt_of_pos _ (by omega), cv, ?_⟩
    refine (MQ.genus_is ha (by omega) ho cp cv).2 ⟨orest D x' y', ⟨x', y', e1.symm⟩, MQ.Cp.of_gcd hg, ?_⟩
    exact (eU.symm.mul (MQ.Eqm.refl _ _)).trans (eqm_emod _ _).symm
  · rintro ⟨v0, v1, cv, hv⟩
    obtain ⟨m, hm, cm, e⟩ := (MQ.genus_is ha (by omega) ho cp cv).1 hv
    obtain ⟨D', rfl⟩ : ∃ D' : Nat, D = (D' : Int) := ⟨D.toNat, by omega⟩
    obtain ⟨x', y', hx', hy', e2⟩ := MQ.first_two (o := oneF (D' : Int)) rfl rfl h4 (by omega) hm
    have e1 : MQ.Eqm (D' : Int) (orest D' x' y') ((oneF D').at x' y') := eqm_emod _ _
    have e3 := e1.trans e2
    refine ⟨orest D' x' y', (hss _).2 ⟨x', y', by omega, hy', by omega, (cp_eqm e3.symm cm).gcd, rfl⟩, ?_⟩
    refine eqm_eq ?_ ⟨Int.emod_nonneg _ (by omega), Int.emod_lt_of_pos _ (by omega)⟩ ⟨v0, v1⟩
    exact ((eqm_emod _ _).trans (eU.mul e3)).trans e
theorem gen_nodup {D U : Int} {ss : List Int} (cu : MQ.Cp U D) (hb : ∀ x ∈ ss, 0 ≤ x ∧ x < D) (hn : ss.Nodup) : (ss.map (fun x => U * x % D)).Nodup := by
  refine List.pairwise_map.2 (List.Pairwise.imp_of_mem (fun {x y} hx hy hne e => hne ?_) hn)
  exact eqm_eq ((eqm_of_emod e).cancel cu) (hb x hx) (hb y hy)
theorem sort_lt {l : List Int} (hn : l.Nodup) : (l.mergeSort fun x y => decide (x ≤ y)).Pairwise (· < ·) := by
  have h1 : (l.mergeSort fun x y => decide (x ≤ y)).Pairwise (fun x y => decide (x ≤ y) = true) := List.pairwise_mergeSort (fun a b c h1 h2 => by simp only [decide_eq_true_eq] at *; omega) (fun a b => by simp only [Bool.or_eq_true, decide_eq_true_eq]; omega) l
  have h2 : (l.mergeSort fun x y => decide (x ≤ y)).Nodup := (List.mergeSort_perm l _).nodup_iff.2 hn
  refine (h1.and h2).imp ?_
  rintro a b ⟨h3, h4⟩
  simp only [decide_eq_true_eq] at h3
  omega
theorem cnt_le {H : Type} {P : Program} {k : TypeId} {R : Value → Option (DataW H × List MemPlace)} {w : World} {b r n : Nat} {D : DataW H} {left : Lit → Bool} {cnt : Nat} (h : w.ranges P k R b r n D left cnt) : cnt ≤ n := by
  obtain ⟨es, clock, since, seen, c0, _, _, hs, _, _, _, hc, _⟩ := h
  have : (leftOf es seen).size ≤ es.size := by unfold leftOf; exact Array.size_filter_le ..
  omega
theorem grown_below {w w' : World} (h : Below w.heap.size w w') : w.grownBy w' none := ⟨h.os, h.tape, h.output, h.size, fun k hk _ => h.block k hk⟩
theorem own_kept {w w' : World} {base : Nat} {e : TypeId} {size : Nat} {v : Value} {n : Nat} {xs : List Value} (h : w.ownsRow base e size v n xs) (k : w.grownBy w' none) : w'.ownsRow base e size v n xs :=
  h.kept k (by rcases v.ownBlock with _ | _ <;> simp)
theorem at_pos {f : Qf} {D : Int} (ha : 0 < f.a) (hd : -f.disc = D) (hD : 1 ≤ D) (x : Int) : 0 ≤ f.at x 1 := by
  have h4 : 4 * f.a * f.at x 1 = (2 * f.a * x + f.b) * (2 * f.a * x + f.b) + D := by rw [← hd]; simp only [Qf.at, Qf.disc]; grind
  have h5 := sq_nn (2 * f.a * x + f.b)
  rcases Int.lt_or_le (f.at x 1) 0 with h | h
  · have := Int.mul_nonneg (show 0 ≤ 4 * f.a by omega) (show 0 ≤ -f.at x 1 by omega)
    rw [Int.mul_neg] at this
    omega
  · exact h
theorem invK : ∀ key kl, keyOf Try.prog 3 key = some kl → ∃ x, key = Value.int .i64 x := fun key kl h => by
  obtain ⟨x, rfl, _⟩ := Maps.keyOf_i64 Try.underlying3 h
  exact ⟨x, rfl⟩
theorem invV : ∀ (v : Value) (y : DataW Unit × List MemPlace), unitElem v = some y → ∃ c : Unit, v = (fun _ : Unit => Value.agg #[]) c := fun v y h => ⟨(), (unitElem_inv h).1⟩

set_option maxRecDepth 100000 in
set_option maxHeartbeats 8000000 in
theorem genus_any (f : Qf) (D : Int) (w : World) (hf : f.upto 1000000) (ha : 0 < f.a) (hD : 1 ≤ D ∧ D ≤ 2000) (pf : MQ.Pm f) (hd : -f.disc = D) :
    Calls Try.prog 39 #[f.v, .int .i64 D] w fun e w' => ∃ (l : List Int) (a : Option Addr) (c : Nat), e = .returned (.slice a l.length c) ∧ (IS w' (.slice a l.length c) l ∧ (l ≠ [] → ∃ b : Nat, ∃ o : Nat, a = some ⟨b, o, none⟩ ∧ w.heap.size ≤ b)) ∧ l.Pairwise (· < ·) ∧ (∀ v, v ∈ l ↔ 0 ≤ v ∧ v < D ∧ MQ.Cp v D ∧ MQ.Vl D f v) ∧ Below w.heap.size w w' := by
  obtain ⟨j0, hj, hy0, hy1, hy2⟩ := info_parts Try.infoIntG
  have HJ : Hid (Try.prog.info? 3 = some j0 ∧ j0.zero = some (.int .i64 0) ∧ j0.size = 1 ∧ j0.bytes = 8) := ⟨hj, hy0, hy1, hy2⟩
  clear hj hy0 hy1 hy2
  have HUV : Hid (∀ w, Calls Try.prog 51 #[f.v, .int .i64 D] w fun e w' => (∃ x : Nat, e = .returned (.int .i64 (f.at x 1)) ∧ x ≤ 2000 ∧ MQ.Cp (f.at x 1) D) ∧ Below w.heap.size w w') := fun w => unitValue_any f D w hf hD pf hd
  have HU1 : Hid (∀ w, Calls Try.prog 52 #[.int .i64 D] w fun e w' => ∃ (b n : Nat) (E : DataW Unit), e = .returned (.map (some b)) ∧ w'.ownsMap Try.prog 3 (unitElem (H := Unit)) b n E ∧ n ≤ 4000 ∧ w.heap.size ≤ b ∧ Hs E D 2 0 ∧ Below w.heap.size w w') := fun w => unitsOfOne_any D w hD
  have HAt : Hid (∀ x : Nat, x ≤ 2000 → (f.at x 1).tmod D = f.at x 1 % D ∧ 0 ≤ f.at x 1 ∧ f.at x 1 ≤ 20000000000000) := fun x hx => by
    have h1 := at_pos ha hd hD.1 x
    have h2 := at_bd hf (show -2000 ≤ (x : Int) ∧ (x : Int) ≤ 2000 by omega) (show -2000 ≤ (1 : Int) ∧ (1 : Int) ≤ 2000 by omega)
    exact ⟨Int.tmod_eq_emod_of_nonneg h1, h1, by omega⟩
  have HMem : Hid (∀ (x0 U : Int) (ss : List Int), MQ.Cp (f.at x0 1) D → U = f.at x0 1 % D → (∀ x, x ∈ ss ↔ Met D 2 0 x) → ∀ v, v ∈ ss.map (fun x => U * x % D) ↔ 0 ≤ v ∧ v < D ∧ MQ.Cp v D ∧ MQ.Vl D f v) := fun x0 U ss h1 h2 h3 v => gen_mem ha hd hD.1 h1 h2 h3
  have HD3 : Hid (3 ≤ D) := (oneF_first hd hD.1).2.1
  have t0 : (D == 0) = false := beq_eq_false_iff_ne.2 (by omega)
  clear hf ha pf hd
  unfold Qf.v at HUV ⊢
  go_enter Try.func39, Try.ntmps39
  go_wp2_with fail
  refine (HUV.out _).mono ?_
  rintro e w1 ⟨⟨x, rfl, x2, x3⟩, k1⟩
  obtain ⟨hV1, hV2, hV3⟩ := HAt.out x x2
  obtain ⟨U, hU⟩ : ∃ U, U = f.at x 1 % D := ⟨_, rfl⟩
  have hUb : 0 ≤ U ∧ U < D := by rw [hU]; exact ⟨Int.emod_nonneg _ (by omega), Int.emod_lt_of_pos _ (by omega)⟩
  rw [← hU] at hV1
  have HU : Hid (U = f.at x 1 % D ∧ MQ.Cp (f.at x 1) D ∧ MQ.Cp U D) := ⟨hU, x3, by rw [hU]; exact cp_eqm (eqm_emod _ _).symm x3⟩
  have HPr : Hid (∀ (y : Int) (w : World), 0 ≤ y → y < D → Calls Try.prog 53 #[.int .i64 U, .int .i64 y, .int .i64 D] w fun e w' => e = .returned (.int .i64 (U * y % D)) ∧ Below w.heap.size w w') := fun y w h1 h2 => by
    have := productLeft_any U.toNat y.toNat D.toNat w (by omega) (by omega) (by omega)
    rw [Int.natCast_emod, Int.natCast_mul, Int.toNat_of_nonneg hUb.1, Int.toNat_of_nonneg h1, Int.toNat_of_nonneg (show 0 ≤ D by omega)] at this
    refine this.mono ?_
    rintro e w' ⟨rfl, n, rfl⟩
    exact ⟨rfl, below_drewN' (Below.refl _ _)⟩
  have HK1 : Hid (Below w.heap.size w w1) := (al1 w _).trans (k1.mono (by simp))
  generalize f.at x 1 = V at hV1 hV2 hV3 ⊢
  clear hU x2 x3 k1 HUV HAt
  go_wp2_with fail
  refine (HU1.out _).mono ?_
  rintro e w2 ⟨b, n, E, rfl, om, hn, hb, hs, k2⟩
  have HK2 : Hid (Below w.heap.size w w2) := HK1.out.trans (k2.mono HK1.out.size)
  have HE : Hid (Hs E D 2 0 ∧ n ≤ 4000 ∧ b < w2.heap.size ∧ w1.heap.size ≤ b) := ⟨hs, hn, om.lt, hb⟩
  clear k2 HU1 hs hn hb HK1
  go_wp2_with (at_range; refine wpList_range_own _ rfl _ 81 rfl 3 100 lawI Try.underlying81 _ b n _ rfl om ?_; intro w3 hrg3 hg3 hs3)
  have HR3 : Hid (w3.ranges Try.prog 3 (unitElem (H := Unit)) b w2.heap.size n E (Maps.has E) (Maps.size E) ∧ Below w.heap.size w w3) := ⟨hrg3, HK2.out.grown hg3 HK2.out.size (by simp)⟩
  have HSz : Hid (w3.heap.size = w2.heap.size + 1 ∧ w.heap.size ≤ w2.heap.size) := ⟨hs3, HK2.out.size⟩
  clear hrg3 hg3 hs3 om HK2
  go_frame
  go_loopw [6] (fun lv wx => ∃ (left : Lit → Bool) (cnt : Nat) (ss : List Int) (a : Option Addr) (c : Nat), lv = .slice a ss.length c ∧ Hid (wx.ranges Try.prog 3 (unitElem (H := Unit)) b w2.heap.size n E left cnt ∧ CollectedI E left ss ∧ ss.length + cnt ≤ 4000 ∧ wx.ownsRow (w2.heap.size + 1) 3 1 (.slice a ss.length c) ss.length (gints (ss.map fun x => U * x % D)) ∧ w2.heap.size + 1 ≤ wx.heap.size ∧ Below w.heap.size w wx)) (fun _ wx => wx.rangeLeft b w2.heap.size)
  case atStart => exact ⟨_, _, [], none, 0, rfl, HR3.out.1, CollectedI.start E, by have := cnt_le HR3.out.1; have := HE.out.2.1; simp; omega, World.ownsRow_nil _ _ _ _, by have := HSz.out.1; omega, HR3.out.2⟩
  case round =>
    clear HR3
    obtain ⟨left, cnt, ss, a, c, rfl, HR⟩ := hrel
    obtain ⟨hrg, hco, hle, hrow, hsz, hbe⟩ := HR.out
    have HM : Hid (wr.rangeLeft b w2.heap.size = cnt) := hrg.left_eq
    go_wp2_with (at_next; refine wpList_next_ranges _ rfl _ rfl 3 lawI (unitElem (H := Unit)) (Value.int .i64) (fun _ : Unit => .agg #[]) invK invV b w2.heap.size n E left cnt rfl hrg ?_ ?_)
    · intro hc0 hl0
      have hss : ∀ y, y ∈ ss ↔ Met D 2 0 y := fun y => by
        rw [hco.2 y, hl0, HE.out.1]
        constructor
        · rintro ⟨⟨i, hi, hm⟩, _⟩; cases hi; exact hm
        · intro h; exact ⟨⟨y, rfl, h⟩, rfl⟩
      have hbd : ∀ y ∈ ss, 0 ≤ y ∧ y < D := fun y hy => met_bd hD.1 ((hss y).1 hy)
      have hone : 1 ∈ ss := (hss 1).2 (met_one HD3.out)
      obtain ⟨zs, hzs⟩ : ∃ zs, zs = ss.map fun x => U * x % D := ⟨_, rfl⟩
      have hlen : ss.length = zs.length := by rw [hzs, List.length_map]
      have hpos : 0 < zs.length := by rw [← hlen]; exact List.length_pos_of_mem hone
      have hnd : zs.Nodup := by rw [hzs]; exact gen_nodup HU.out.2.2 hbd hco.1
      have hmem := HMem.out _ _ ss HU.out.2.1 HU.out.1 hss
      rw [← hzs] at hrow hmem
      rw [hlen] at hrow hle ⊢
      have HB : Hid (Below w.heap.size w wr) := hbe
      obtain ⟨_, h2 | ⟨g, cap, cur, e1, e2, e3, e4, e5, e6, e7⟩⟩ := hrow
      · exfalso; have := h2.2; omega
      · simp only [Value.slice.injEq] at e1
        obtain ⟨rfl, _, rfl⟩ := e1
        have hblk : g < wr.heap.size := (Array.getElem?_eq_some_iff.1 e3).1
        have hH : Holds (Value.int .i64) wr g 0 zs.toArray := holds_of_blockI e3 (by rw [Nat.mul_one] at e7; exact e7)
        have HS : Hid (Calls Try.prog 54 #[.slice (some ⟨g, 0, none⟩) zs.length c] wr fun e w' => e = .returned (.tuple #[]) ∧ ∃ n os, w' = grow (putRow (Value.int .i64) (Sort.ahead wr n) g 0 (zs.mergeSort fun x y => decide (x ≤ y)).toArray) os) := Try.slices_Sort_int g 0 c zs wr hH hblk (by omega)
        have HEnd : Hid (∀ n os, (grow (putRow (Value.int .i64) (Sort.ahead wr n) g 0 (zs.mergeSort fun x y => decide (x ≤ y)).toArray) os).ownsRow (w2.heap.size + 1) 3 1 (.slice (some ⟨g, 0, none⟩) zs.length c) zs.length ((zs.mergeSort fun x y => decide (x ≤ y)).map (Value.int .i64)) ∧ Below w.heap.size w (grow (putRow (Value.int .i64) (Sort.ahead wr n) g 0 (zs.mergeSort fun x y => decide (x ≤ y)).toArray) os)) := fun n os => by
          refine ⟨ownsRow_sortedI (List.length_mergeSort _) e2 e3 e4 e5 e6, ?_⟩
          refine HB.out.grown (grownBy_sortedI _) HB.out.size (fun j hj => ?_)
          cases hj
          have := HSz.out.2
          omega
        have HZ : Hid (zs.Nodup ∧ ∀ v, v ∈ zs ↔ 0 ≤ v ∧ v < D ∧ MQ.Cp v D ∧ MQ.Vl D f v) := ⟨hnd, hmem⟩
        clear hmem hnd hH hblk e2 e3 e4 e5 e6 e7 HB hbe hzs hlen hone hbd hss hco hrg HR hsz
        go_wp2_with fail
        refine HS.out.mono ?_
        rintro e w6 ⟨rfl, n6, os6, rfl⟩
        have h6 := HEnd.out n6 os6
        generalize grow (putRow (Value.int .i64) (Sort.ahead wr n6) g 0 (zs.mergeSort fun x y => decide (x ≤ y)).toArray) os6 = w7 at h6
        have HF : Hid (w7.ownsRow (w2.heap.size + 1) 3 1 (.slice (some ⟨g, 0, none⟩) zs.length c) zs.length ((zs.mergeSort fun x y => decide (x ≤ y)).map (Value.int .i64)) ∧ Below w.heap.size w w7) := h6
        clear h6 HS HEnd
        go_wp2_with fail
        go_ret
        have hl : (zs.mergeSort fun x y => decide (x ≤ y)).length = zs.length := List.length_mergeSort _
        refine ⟨zs.mergeSort fun x y => decide (x ≤ y), some ⟨g, 0, none⟩, c, by rw [hl]; rfl, ?_, sort_lt HZ.out.1, fun v => ?_, HF.out.2⟩
        · have h1 := HF.out.1
          have h2 := (h1.lt g rfl).1
          rw [← hl] at h1
          exact ⟨is_of_row h1, fun _ => ⟨g, 0, rfl, by have := HSz.out.2; omega⟩⟩
        · rw [← HZ.out.2 v]
          exact (List.mergeSort_perm zs _).mem_iff
    · intro y cc kl yy w4 cnt' hkey hlk hv hat hrg4 hlt hgr hsz4 hen
      obtain ⟨y', hy', hkl, hwf⟩ := Maps.keyOf_i64 Try.underlying3 hkey
      obtain rfl : y = y' := by simpa [encZ] using hy'
      subst hkl
      have hmet : 0 ≤ y ∧ y < D := by
        have h1 := has_true_of_atKey hat
        obtain ⟨i, hi, hm⟩ := (HE.out.1 _).1 h1
        cases hi
        exact met_bd hD.1 hm
      have HCo : Hid (CollectedI E (fun z => left z && !z.sameKey (.int .i64 y)) (ss ++ [y])) := hco.step hlk hat
      have hrow4 := hrow.kept hgr (.inr (row_ne_low hrow (Nat.lt_succ_self _)).symm)
      have HX : Hid (w4.ranges Try.prog 3 (unitElem (H := Unit)) b w2.heap.size n E (fun z => left z && !z.sameKey (.int .i64 y)) cnt' ∧ cnt' < cnt ∧ w4.ownsRow (w2.heap.size + 1) 3 1 (.slice a ss.length c) ss.length (gints (ss.map fun x => U * x % D)) ∧ w2.heap.size + 1 ≤ w4.heap.size ∧ Below w.heap.size w w4) := ⟨hrg4, hlt, hrow4, by omega, hbe.grown hgr hbe.size (fun j hj => by cases hj; exact HSz.out.2)⟩
      have hll : ss.length ≤ 4000 := by omega
      have HL : Hid (ss.length + cnt ≤ 4000) := hle
      have HPy : Hid (∀ w : World, Calls Try.prog 53 #[.int .i64 U, .int .i64 y, .int .i64 D] w fun e w' => e = .returned (.int .i64 (U * y % D)) ∧ Below w.heap.size w w') := fun w => HPr.out y w hmet.1 hmet.2
      obtain ⟨X, hX⟩ : ∃ X, U * y % D = X := ⟨_, rfl⟩
      rw [hX] at HPy
      have HXe : Hid (U * y % D = X) := hX
      clear hrow4 hrg4 hlt hgr hsz4 hrg hco hle hrow hsz hbe HR hkey hy' hwf hlk hv hat hX
      go_wp2_with fail
      refine (HPy.out _).mono ?_
      rintro e w5 ⟨rfl, k5⟩
      have HY : Hid (w5.ranges Try.prog 3 (unitElem (H := Unit)) b w2.heap.size n E (fun z => left z && !z.sameKey (.int .i64 y)) cnt' ∧ w5.ownsRow (w2.heap.size + 1) 3 1 (.slice a ss.length c) ss.length (gints (ss.map fun x => U * x % D)) ∧ w2.heap.size + 1 ≤ w5.heap.size ∧ Below w.heap.size w w5) := ⟨HX.out.1.kept (grown_below k5) (by simp) (by simp), own_kept HX.out.2.2.1 (grown_below k5), by have := k5.size; have := HX.out.2.2.2.1; omega, HX.out.2.2.2.2.trans (k5.mono HX.out.2.2.2.2.size)⟩
      have HLt : Hid (cnt' < cnt) := HX.out.2.1
      clear k5 HX HPy hen
      go_wp2_with (at_builtin; refine wpList_append_own _ rfl _ _ 47 rfl (w2.heap.size + 1) 3 j0 (.int .i64 0) 1 8 Try.underlying47 HJ.out.1 HJ.out.2.1 HJ.out.2.2.1 HJ.out.2.2.2 rfl (by decide) (.slice a ss.length c) ss.length (gints (ss.map fun x => U * x % D)) rfl (HY.out.2.1.alloc _) ⟨w5.heap.size, 0, none⟩ 1 1 [.int .i64 X] rfl rfl (Cl.new [.int .i64 X] 3 w5).news (by simp [Value.oneCell']) (by simp only [maxLen]; omega) (by omega) (by have := HY.out.2.2.1; simp; omega) ?_; intro v' w6 hown' hgrow _; obtain ⟨g', cap', rfl⟩ := ownsRow_succ hown')
      have HZ : Hid (w6.ranges Try.prog 3 (unitElem (H := Unit)) b w2.heap.size n E (fun z => left z && !z.sameKey (.int .i64 y)) cnt' ∧ w6.ownsRow (w2.heap.size + 1) 3 1 (.slice (some ⟨g', 0, none⟩) (ss ++ [y]).length cap') (ss ++ [y]).length (gints ((ss ++ [y]).map fun x => U * x % D)) ∧ w2.heap.size + 1 ≤ w6.heap.size ∧ Below w.heap.size w w6) := by
        have hro := HY.out.2.1.alloc (.cells #[.int .i64 X] 3)
        refine ⟨(HY.out.1.alloc _).kept hgrow (row_ne_low hro (by have := HE.out.2.2.1; omega)) (row_ne_low hro (by omega)), ?_, ?_, ?_⟩
        · rw [List.length_append, show gints ((ss ++ [y]).map fun x => U * x % D) = gints (ss.map fun x => U * x % D) ++ [.int .i64 X] by simp [gints, HXe.out]]
          exact hown'
        · have h1 := hgrow.size
          have := HY.out.2.2.1
          simp at h1
          omega
        · refine (HY.out.2.2.2.alloc HY.out.2.2.2.size _).grown hgrow (by have := HY.out.2.2.2.size; simp; omega) (fun k e => ?_)
          have := (hro.lt k e).1
          have := HSz.out.2
          omega
      clear hown' hgrow HY
      go_roundw
      case rel => exact ⟨_, cnt', ss ++ [y], some ⟨g', 0, none⟩, cap', by simp, HZ.out.1, HCo.out, by have := HL.out; have := HLt.out; simp; omega, HZ.out.2.1, HZ.out.2.2.1, HZ.out.2.2.2⟩
      case measure => rw [HZ.out.1.left_eq, HM.out]; exact HLt.out

end Go.Proofs.Ytijkanilpblogae
end

section
/- The program: Genus. -/
set_option linter.unusedSimpArgs false
set_option linter.unusedVariables false
set_option maxRecDepth 100000
namespace Go.Proofs.Ytijkanilpblogae
open Go.RowKit

/-- The memory of the walk. -/
structure Gq (h : Nat) (f : Qf) (w W : World) : Prop where
  cf : Cl h f.l 32 W
  e : Sv (h + 1) 0 0 W
  k : Below h w W
theorem Gq.below {h : Nat} {f : Qf} {w W W' : World} (x : Gq h f w W) (c : Below W.heap.size W W') : Gq h f w W' :=
  ⟨x.cf.below c, x.e.below c, x.k.trans (c.mono (Nat.le_of_lt x.cf.lt))⟩

set_option maxHeartbeats 4000000 in
theorem Genus_any (f : Qf) (w : World) : Calls Try.prog 21 #[f.v] w fun e w' => ∃ (a : Option Addr) (c : Nat) (l : List Int), e = .returned (.tuple #[.slice a l.length c, ffv (gfault f)]) ∧ GeOut f l ∧ IS w' (.slice a l.length c) l ∧ (l ≠ [] → ∃ b : Nat, ∃ o : Nat, a = some ⟨b, o, none⟩ ∧ w.heap.size ≤ b) ∧ Below w.heap.size w w' := by
  obtain ⟨c, d, hcd⟩ : ∃ c d, ffault f = (c, d) := ⟨_, _, rfl⟩
  obtain ⟨pc, pd, hpc⟩ : ∃ c d, gfault f = (c, d) := ⟨_, _, rfl⟩
  have HFF : Hid (ffault f = (c, d)) := hcd
  have HPF : Hid (gfault f = (pc, pd)) := hpc
  have HC : Hid (∀ w, Calls Try.prog 31 #[f.v] w fun e w' => e = .returned (.agg #[.int .i64 c, .int .i64 d]) ∧ Below w.heap.size w w') := fun w => by have k := Check_any f w; rw [hcd] at k; exact k
  have HNil : Hid (∀ w : World, IS w (.slice none ([] : List Int).length 0) []) := fun w => ⟨none, 0, 0, 0, rfl, fun k => by simp at k, fun i hi => by simp at hi, fun k => by simp at k⟩
  rw [hpc]
  clear hcd hpc
  unfold Qf.v at HC ⊢
  unfold ffv
  go_enter Try.func21, Try.ntmps21
  go_wp2_with fail
  obtain ⟨W1, hW1⟩ : ∃ W1, W1 = (w.alloc (.cells #[.int .i64 f.a, .int .i64 f.b, .int .i64 f.c] 32)).alloc (.cells #[.int .i64 0, .int .i64 0] 24) := ⟨_, rfl⟩
  have HO1 : Hid (Gq w.heap.size f w W1) := by
    show Gq _ _ _ _
    rw [hW1]
    exact ⟨(Cl.new f.l _ w).alloc _, sv_new0 _ _ _ (by simp) _ _, Below.alloc (Below.alloc (Below.refl _ _) (Nat.le_refl _) _) (by simp) _⟩
  rw [← hW1]
  clear hW1
  refine (HC.out _).mono ?_
  rintro e w1 ⟨rfl, k1⟩
  have z9 : w.heap.size + 1 < w1.heap.size := ((HO1.out.below k1).e).lt
  have HO : Hid (Gq w.heap.size f w (w1.alloc (.cells #[.int .i64 c, .int .i64 d] 24))) := (HO1.out.below k1).below (al1 _ _)
  clear k1 HO1 HC
  rcases ffault_code HFF.out with ⟨rfl, rfl⟩ | hc
  · have HZ9 : Hid (w.heap.size + 1 < w1.heap.size) := z9
    clear z9
    obtain ⟨fu, fa, fd, fg⟩ := ffault_ok HFF.out
    obtain ⟨D, hD⟩ : ∃ D, f.disc = D := ⟨_, rfl⟩
    have HDi : Hid (∀ w, Calls Try.prog 32 #[f.v] w fun e w' => e = .returned (.int .i64 D) ∧ Below w.heap.size w w') := fun w => by rw [← hD]; exact discriminant_any f w fu
    have hDb : -4000000000000 ≤ D ∧ D < 0 := by
      obtain ⟨u1, u2, u3, u4, u5, u6⟩ := fu
      have x1 := sq_nn f.b
      have x2 := (sq_bd u1 u2 u5 u6).2
      have x3 : f.disc = f.b * f.b - 4 * (f.a * f.c) := by unfold Qf.disc; rw [Int.mul_assoc]
      omega
    have HFo : Hid (f.upto 1000000 ∧ 0 < f.a ∧ Int.gcd (Int.gcd f.a f.b) f.c = 1 ∧ f.disc = D) := ⟨fu, fa, fg, hD⟩
    unfold Qf.v at HDi
    have c0 := HO.out.cf.cell 0
    have c1 := HO.out.cf.cell 1
    have c2 := HO.out.cf.cell 2
    simp at c0 c1 c2
    clear fu fa fd fg hD
    go_wp2_with fail
    refine (HDi.out _).mono ?_
    rintro e w2 ⟨rfl, k2⟩
    have HO2 : Hid (Gq w.heap.size f w w2 ∧ w1.heap.size ≤ w2.heap.size) := ⟨HO.out.below k2, by have := k2.size; simp at this; omega⟩
    clear c0 c1 c2 HO k2 HDi
    have HO : Hid (Gq w.heap.size f w w2) := HO2.out.1
    by_cases h1 : 2000 < -D
    · have t1 : decide (2000 < -D) = true := decide_eq_true h1
      obtain ⟨rfl, rfl⟩ : pc = 2 ∧ pd = 0 := by
        have h := HPF.out
        rw [gfault, if_neg (by rw [HFF.out]; simp), if_pos (by have := HFo.out.2.2.2; omega)] at h
        simp at h; omega
      clear h1
      have q0 := HO.out.e.c0
      have q1 := HO.out.e.c1
      have q2 := HO.out.e.f0
      have q3 := HO.out.e.f1
      have q4 := HO.out.e.lt
      go_wp2
      refine bodyPost_ret (v := .tuple #[.slice none 0 0, .agg #[.int .i64 2, .int .i64 0]]) (by simp [results, Try.results21, go_sem, q0, q1, q4]) rfl ⟨none, 0, [], rfl, ⟨fun _ => rfl, fun h => ?_⟩, HNil.out _, fun h => absurd rfl h, ?_⟩
      · rw [HPF.out] at h; simp at h
      · iterate 2 refine Below.setCell ?_ (by show w.heap.size ≤ w.heap.size + 1; omega) _
        exact HO.out.k
    have t1 : decide (2000 < -D) = false := decide_eq_false h1
    obtain ⟨rfl, rfl⟩ : pc = 0 ∧ pd = 0 := by
      have h := HPF.out
      rw [gfault, if_neg (by rw [HFF.out]; simp), if_neg (by have := HFo.out.2.2.2; omega)] at h
      simp at h; omega
    have HG : Hid (∀ w, Calls Try.prog 39 #[f.v, .int .i64 (-D)] w fun e w' => ∃ (l : List Int) (a : Option Addr) (c : Nat), e = .returned (.slice a l.length c) ∧ (IS w' (.slice a l.length c) l ∧ (l ≠ [] → ∃ b : Nat, ∃ o : Nat, a = some ⟨b, o, none⟩ ∧ w.heap.size ≤ b)) ∧ l.Pairwise (· < ·) ∧ (∀ v, v ∈ l ↔ 0 ≤ v ∧ v < -D ∧ MQ.Cp v (-D) ∧ MQ.Vl (-D) f v) ∧ Below w.heap.size w w') := fun w => genus_any f (-D) w HFo.out.1 HFo.out.2.1 (by omega) (MQ.Pm.of_gcd HFo.out.2.2.1) (by rw [HFo.out.2.2.2])
    unfold Qf.v at HG
    have c0 := HO.out.cf.cell 0
    have c1 := HO.out.cf.cell 1
    have c2 := HO.out.cf.cell 2
    simp at c0 c1 c2
    clear h1
    go_wp2_with fail
    refine (HG.out _).mono ?_
    rintro e w3 ⟨l, a, c, rfl, ⟨his, hne⟩, hri, hme, k3⟩
    have HR : Hid (l.Pairwise (· < ·) ∧ (∀ v, v ∈ l ↔ 0 ≤ v ∧ v < -D ∧ MQ.Cp v (-D) ∧ MQ.Vl (-D) f v)) := ⟨hri, hme⟩
    have HIS : Hid (IS w3 (.slice a l.length c) l ∧ (l ≠ [] → ∃ b : Nat, ∃ o : Nat, a = some ⟨b, o, none⟩ ∧ w.heap.size + 1 < b)) := ⟨his, fun h => by
      obtain ⟨b, o, h1, h2⟩ := hne h
      exact ⟨b, o, h1, by have := HZ9.out; have := HO2.out.2; omega⟩⟩
    have HO3 : Hid (Gq w.heap.size f w w3) := HO.out.below k3
    clear his hne hri hme c0 c1 c2 HG k3 HO
    have HO := HO3
    clear HO3
    have q0 := HO.out.e.c0
    have q1 := HO.out.e.c1
    have q2 := HO.out.e.f0
    have q3 := HO.out.e.f1
    have q4 := HO.out.e.lt
    go_wp2
    refine bodyPost_ret (v := .tuple #[.slice a l.length c, .agg #[.int .i64 0, .int .i64 0]]) (by simp [results, Try.results21, go_sem, q0, q1, q4]) rfl ⟨a, c, l, rfl, ⟨fun h => absurd HPF.out h, fun _ => ?_⟩, ?_, fun h => by obtain ⟨b, o, h1, h2⟩ := HIS.out.2 h; exact ⟨b, o, h1, by omega⟩, ?_⟩
    · rw [HFo.out.2.2.2]; exact HR.out
    · obtain ⟨a', g, o, c', e1, e2, e3, e4⟩ := HIS.out.1
      simp only [Value.slice.injEq] at e1
      obtain ⟨rfl, _, rfl⟩ := e1
      refine ⟨a, g, o, c, rfl, e2, fun i hi => ?_, fun k => by simpa using e4 k⟩
      have hl : l ≠ [] := fun e => by rw [e] at hi; simp at hi
      have hgn : g ≠ w.heap.size + 1 := by
        obtain ⟨b, o', h1, h2⟩ := HIS.out.2 hl
        have h3 := e2 (by omega)
        rw [h1] at h3
        simp at h3
        omega
      rw [← e3 i hi]
      have e : ∀ (W : World) (k : Nat) (v : Value), (W.setCell ⟨w.heap.size + 1, k, none⟩ v).cell? ⟨g, o + i, none⟩ = W.cell? ⟨g, o + i, none⟩ := fun W k v => World.cell?_of_block (Below.heap_setCell W ⟨w.heap.size + 1, k, none⟩ v g hgn)
      rw [e, e]
    · iterate 2 refine Below.setCell ?_ (by show w.heap.size ≤ w.heap.size + 1; omega) _
      exact HO.out.k
  · have hcb : (c != 0) = true := by simpa using hc
    obtain ⟨rfl, rfl⟩ : pc = c ∧ pd = d := by
      have h := HPF.out
      rw [gfault, if_pos (by rw [HFF.out]; intro h; exact hc (congrArg Prod.fst h)), HFF.out] at h
      simp at h; omega
    have HX : Hid (pc ≠ 0) := hc
    clear hc
    obtain ⟨W3, hW3⟩ : ∃ W3, W3 = w1.alloc (.cells #[.int .i64 pc, .int .i64 pd] 24) := ⟨_, rfl⟩
    rw [← hW3] at HO
    have CE : Sv w1.heap.size pc pd W3 := by rw [hW3]; exact sv_new0 _ _ _ rfl _ _
    have e0 := CE.c0
    have e1 := CE.c1
    have q0 := HO.out.e.c0
    have q1 := HO.out.e.c1
    have q2 := HO.out.e.f0
    have q3 := HO.out.e.f1
    have q4 := HO.out.e.lt
    clear CE
    rw [hW3] at e0 e1 q0 q1 q2 q3 q4
    go_wp2_with fail
    rw [← hW3] at *
    clear hW3
    go_region
    go_wp2
    refine bodyPost_ret (v := .tuple #[.slice none 0 0, .agg #[.int .i64 pc, .int .i64 pd]]) (by simp [results, Try.results21, go_sem, q0, q1, q4]) rfl ⟨none, 0, [], rfl, ⟨fun _ => rfl, fun h => ?_⟩, HNil.out _, fun h => absurd rfl h, ?_⟩
    · rw [HPF.out] at h; simp at h; exact absurd h.1 HX.out
    · refine Below.drew ?_
      iterate 2 refine Below.setCell ?_ (by show w.heap.size ≤ w.heap.size + 1; omega) _
      exact HO.out.k

end Go.Proofs.Ytijkanilpblogae
end

section
/- What FormGenera asks of the program. -/
set_option maxRecDepth 100000
namespace Go.Proofs.Ytijkanilpblogae

theorem genera_is : GeneraIs (fun _ => True) := ⟨fun _ _ _ _ => trivial, fun w _ => formBegun_any w, Compose_any, Genus_any⟩

end Go.Proofs.Ytijkanilpblogae
end
