import Derived.Test.YtcnfhndejkngkaaGreatDoorJpY
import Derived.Deep.LoopGhost
section
set_option linter.unusedSimpArgs false
set_option linter.unusedVariables false
set_option maxRecDepth 100000
namespace Go.Proofs.YtcnfhndejkngkaaGreatDoor
open Go.RowKit LgM
theorem DC.sapp (a b : List UInt8) : (⟨a.toArray⟩ : ByteArray) ++ ⟨b.toArray⟩ = ⟨(a ++ b).toArray⟩ := by
  apply ByteArray.ext
  simp
theorem conv_at {W : World} {gd o cap : Nat} {T L : List UInt8} (h : ∀ j, j < T.length → W.cell? ⟨gd, j, none⟩ = (u8s T)[j]?) (hL : ∀ j, j < L.length → o + j < T.length ∧ T[o + j]? = L[j]?) : (convert 89 9 (.slice (some ⟨gd, o, none⟩) L.length cap)).run Tryz.prog W = .ok (.string ⟨L.toArray⟩) W :=
  run_convert_bytes_back W 89 9 5 ⟨gd, o, none⟩ cap L Tryz.underlying89 Tryz.underlying5 Tryz.underlying9 (fun j hj => by
    have hadd : (⟨gd, o, none⟩ : Addr).add j = ⟨gd, o + j, none⟩ := by unfold Addr.add; split <;> simp_all
    rw [hadd, h _ (hL j hj).1]
    unfold u8s
    rw [List.getElem?_map, (hL j hj).2, List.getElem?_eq_getElem hj]
    rfl)
theorem text_zero {x : Int} {d : Nat} (h : x.natAbs % d = 0) : DC.text x d = (if x < 0 then [45] else []) ++ Lib.decDigits (x.natAbs / d) := by
  unfold DC.text DC.tail
  rw [if_pos h, List.append_nil]
end Go.Proofs.YtcnfhndejkngkaaGreatDoor
end

section
set_option linter.unusedSimpArgs false
set_option linter.unusedVariables false
set_option maxRecDepth 100000
namespace Go.Proofs.YtcnfhndejkngkaaGreatDoor
namespace DC
theorem rs_pow (u d : Nat) : ∀ j, rs u d j = u * 10 ^ j % d
  | 0 => by show u % d = _; rw [Nat.pow_zero, Nat.mul_one]
  | j + 1 => by
    show rs u d j * 10 % d = _
    rw [rs_pow u d j, Nat.pow_succ, ← Nat.mul_assoc, Nat.mul_mod, Nat.mod_mod, ← Nat.mul_mod]
theorem rs_shift (u d n : Nat) : ∀ j, rs (rs u d n) d j = rs u d (n + j)
  | 0 => by
    show rs u d n % d = rs u d n
    rw [rs_pow, Nat.mod_mod]
  | j + 1 => by
    show rs (rs u d n) d j * 10 % d = rs u d (n + j) * 10 % d
    rw [rs_shift u d n j]
theorem dg_shift (u d n j : Nat) : dg (rs u d n) d j = dg u d (n + j) := by unfold dg; rw [rs_shift]
theorem dtl_add (u d n : Nat) : ∀ m, dtl u d (n + m) = dtl u d n ++ dtl (rs u d n) d m
  | 0 => by simp [dtl]
  | m + 1 => by rw [← Nat.add_assoc, dtl_succ, dtl_add u d n m, dtl_succ, dg_shift, List.append_assoc]
theorem dtl_drop (u d n m : Nat) : (dtl u d (n + m)).drop n = dtl (rs u d n) d m := by
  have h := dtl_len u d n
  rw [dtl_add, List.drop_append_of_le_length (by omega), List.drop_eq_nil_of_le (by omega), List.nil_append]
def el : Nat → Nat → Nat × Nat
  | 0, d => (0, d)
  | f + 1, d => if 1 < Nat.gcd d 10 then ((el f (d / Nat.gcd d 10)).1 + 1, (el f (d / Nat.gcd d 10)).2) else (0, d)
def chk (d : Nat) : Bool :=
  Nat.ble 1 (el 13 d).2 && (Nat.beq ((el 13 d).2 * (d / (el 13 d).2)) d && (Nat.beq (Nat.gcd (el 13 d).2 10) 1 && (Nat.beq (Nat.gcd (el 13 d).2 (d / (el 13 d).2)) 1 && (Nat.beq (10 ^ (el 13 d).1 % (d / (el 13 d).2)) 0 && (Nat.beq (el 13 d).1 0 || Nat.ble 1 (10 ^ ((el 13 d).1 - 1) % (d / (el 13 d).2)))))))
theorem chk_all : (List.range 5000).all (fun i => chk (i + 1)) = true := by decide +kernel
structure Len (d n m e t : Nat) : Prop where
  hd : 1 ≤ d
  he : 1 ≤ e
  ht : e * t = d
  cop : Nat.Coprime e 10
  cet : Nat.Coprime e t
  dv : t ∣ 10 ^ n
  mn : ∀ i, t ∣ 10 ^ i → n ≤ i
  one : e = 1 → m = 0
  ord : e ≠ 1 → 1 ≤ m ∧ 10 ^ m % e = 1 % e ∧ ∀ k, 1 ≤ k → 10 ^ k % e = 1 % e → m ≤ k
theorem el_is {d : Nat} (h1 : 1 ≤ d) (h2 : d ≤ 5000) : ∃ t, 1 ≤ (el 13 d).2 ∧ (el 13 d).2 * t = d ∧ Nat.Coprime (el 13 d).2 10 ∧ Nat.Coprime (el 13 d).2 t ∧ t ∣ 10 ^ (el 13 d).1 ∧ ∀ i, t ∣ 10 ^ i → (el 13 d).1 ≤ i := by
  have h := List.all_eq_true.1 chk_all (d - 1) (by rw [List.mem_range]; omega)
  rw [show d - 1 + 1 = d by omega] at h
  unfold chk at h
  simp only [Bool.and_eq_true, Bool.or_eq_true, Nat.beq_eq, Nat.ble_eq] at h
  obtain ⟨a1, a2, a3, a4, a5, a6⟩ := h
  refine ⟨d / (el 13 d).2, a1, a2, a3, a4, Nat.dvd_of_mod_eq_zero a5, fun i hi => ?_⟩
  rcases a6 with a6 | a6
  · omega
  · rcases Nat.lt_or_ge i (el 13 d).1 with h3 | h3
    · exfalso
      have h4 : d / (el 13 d).2 ∣ 10 ^ ((el 13 d).1 - 1) := by
        rw [show (el 13 d).1 - 1 = i + ((el 13 d).1 - 1 - i) by omega, Nat.pow_add]
        exact Nat.dvd_mul_right_of_dvd hi _
      have := Nat.mod_eq_zero_of_dvd h4
      omega
    · exact h3
theorem len_of {d : Nat} (h1 : 1 ≤ d) (h2 : d ≤ 5000) (m : Nat) (h3 : (el 13 d).2 = 1 → m = 0) (h4 : (el 13 d).2 ≠ 1 → 1 ≤ m ∧ 10 ^ m % (el 13 d).2 = 1 % (el 13 d).2 ∧ ∀ k, 1 ≤ k → 10 ^ k % (el 13 d).2 = 1 % (el 13 d).2 → m ≤ k) : ∃ t, Len d (el 13 d).1 m (el 13 d).2 t := by
  obtain ⟨t, a1, a2, a3, a4, a5, a6⟩ := el_is h1 h2
  exact ⟨t, h1, a1, a2, a3, a4, a5, a6, h3, h4⟩
theorem cop_less {k : Nat} (hk : 1 ≤ k) : Nat.Coprime 10 (10 ^ k - 1) := by
  obtain ⟨j, rfl⟩ : ∃ j, k = j + 1 := ⟨k - 1, by omega⟩
  have h1 : 1 ≤ 10 ^ j := Nat.one_le_pow _ _ (by omega)
  have h2 : Nat.gcd 10 (10 ^ (j + 1) - 1) ∣ 10 ^ (j + 1) := Nat.dvd_trans (Nat.gcd_dvd_left _ _) ⟨10 ^ j, by rw [Nat.pow_succ]; omega⟩
  have h3 := Nat.dvd_sub h2 (Nat.gcd_dvd_right 10 (10 ^ (j + 1) - 1))
  have h4 : 1 ≤ 10 ^ (j + 1) := Nat.one_le_pow _ _ (by omega)
  rw [show 10 ^ (j + 1) - (10 ^ (j + 1) - 1) = 1 by omega] at h3
  exact Nat.dvd_one.1 h3
variable {u d n m e t : Nat}
theorem Len.same (L : Len d n m e t) (hg : Nat.gcd u d = 1) {i k : Nat} (hik : i < k) (h : rs u d i = rs u d k) : n ≤ i ∧ (e ≠ 1 → m ≤ k - i) := by
  rw [rs_pow, rs_pow] at h
  have h1 := Nat.sub_mod_eq_zero_of_mod_eq h.symm
  have hp : 1 ≤ 10 ^ (k - i) := Nat.one_le_pow _ _ (by omega)
  have h2 : u * 10 ^ k - u * 10 ^ i = u * (10 ^ i * (10 ^ (k - i) - 1)) := by
    rw [← Nat.mul_sub, Nat.mul_sub (10 ^ i), ← Nat.pow_add, Nat.mul_one, show i + (k - i) = k by omega]
  rw [h2] at h1
  have h3 : d ∣ 10 ^ i * (10 ^ (k - i) - 1) := Nat.Coprime.dvd_of_dvd_mul_left (Nat.Coprime.symm hg) (Nat.dvd_of_mod_eq_zero h1)
  have ht : t ∣ d := ⟨e, by rw [← L.ht, Nat.mul_comm]⟩
  have hed : e ∣ d := ⟨t, L.ht.symm⟩
  have hc := cop_less (k := k - i) (by omega)
  refine ⟨L.mn i ?_, fun he => ?_⟩
  · have h4 : Nat.Coprime t (10 ^ (k - i) - 1) := (hc.pow_left n).coprime_dvd_left L.dv
    exact Nat.Coprime.dvd_of_dvd_mul_right h4 (Nat.dvd_trans ht h3)
  · have h5 : Nat.Coprime e (10 ^ i) := L.cop.pow_right i
    have h6 := Nat.Coprime.dvd_of_dvd_mul_left h5 (Nat.dvd_trans hed h3)
    refine (L.ord he).2.2 (k - i) (by omega) ?_
    obtain ⟨c, hc2⟩ := h6
    rw [show 10 ^ (k - i) = 1 + e * c by omega, Nat.add_mul_mod_self_left]
theorem Len.nought (L : Len d n m e t) (hg : Nat.gcd u d = 1) {k : Nat} (h : rs u d k = 0) : e = 1 ∧ n ≤ k := by
  rw [rs_pow] at h
  have h3 : d ∣ 10 ^ k := Nat.Coprime.dvd_of_dvd_mul_left (Nat.Coprime.symm hg) (Nat.dvd_of_mod_eq_zero h)
  have ht : t ∣ d := ⟨e, by rw [← L.ht, Nat.mul_comm]⟩
  have hed : e ∣ d := ⟨t, L.ht.symm⟩
  refine ⟨?_, L.mn k (Nat.dvd_trans ht h3)⟩
  have h5 : Nat.Coprime e (10 ^ k) := L.cop.pow_right k
  exact Nat.Coprime.eq_one_of_dvd h5 (Nat.dvd_trans hed h3)
theorem Len.on (L : Len d n m e t) (hg : Nat.gcd u d = 1) : on u d (n + m) := by
  intro k hk
  rcases hx : ends u d k with _ | _
  · rfl
  · exfalso
    rcases (ends_iff u d k).1 hx with h | ⟨i, h1, h2⟩
    · obtain ⟨h3, h4⟩ := L.nought hg h
      have := L.one h3
      omega
    · obtain ⟨h3, h4⟩ := L.same hg h1 h2
      by_cases he : e = 1
      · have := L.one he; omega
      · have := h4 he; omega
theorem Len.back (L : Len d n m e t) (hg : Nat.gcd u d = 1) (he : e ≠ 1) : rs u d n = rs u d (n + m) := by
  rw [rs_pow, rs_pow]
  have h1 := (L.ord he).2.1
  have hp : 1 ≤ 10 ^ m := Nat.one_le_pow _ _ (by omega)
  have h2 : e ∣ 10 ^ m - 1 := Nat.dvd_of_mod_eq_zero (Nat.sub_mod_eq_zero_of_mod_eq h1)
  obtain ⟨a, ha⟩ := L.dv
  obtain ⟨b, hb⟩ := h2
  have h3 : u * 10 ^ (n + m) = u * 10 ^ n + d * (u * a * b) := by
    have h4 : 10 ^ m = e * b + 1 := by omega
    rw [Nat.pow_add, h4, ha, ← L.ht]
    grind
  rw [h3, Nat.add_mul_mod_self_left]
theorem Len.ends (L : Len d n m e t) (hg : Nat.gcd u d = 1) : ends u d (n + m) = true := by
  rw [ends_iff]
  by_cases he : e = 1
  · refine .inl ?_
    rw [L.one he, rs_pow]
    have h1 : t = d := by rw [← L.ht, he, Nat.one_mul]
    exact Nat.mod_eq_zero_of_dvd (Nat.dvd_mul_left_of_dvd (h1 ▸ L.dv) _)
  · exact .inr ⟨n, by have := (L.ord he).1; omega, L.back hg he⟩
theorem Len.tail (L : Len d n m e t) (hg : Nat.gcd u d = 1) (hd1 : d ≠ 1) : tail u d = 46 :: (if e = 1 then dtl u d n else dtl u d n ++ 40 :: dtl (rs u d n) d m ++ [41]) := by
  have hs := (stop_uniq L.hd (L.on hg) (L.ends hg)).symm
  have h0 : ¬ u % d = 0 := fun h => by
    have h1 := Nat.gcd_eq_right (Nat.dvd_of_mod_eq_zero h)
    omega
  unfold DC.tail
  rw [if_neg h0, hs]
  by_cases he : e = 1
  · rw [if_pos he]
    have hm := L.one he
    have h1 : rs u d (n + m) = 0 := by
      rcases (ends_iff u d (n + m)).1 (L.ends hg) with h | ⟨i, h1, h2⟩
      · exact h
      · have := (L.same hg h1 h2).1; omega
    rw [if_pos h1, hm, Nat.add_zero]
  · rw [if_neg he]
    have h1 : rs u d (n + m) ≠ 0 := fun h => he (L.nought hg h).1
    have hb : DC.back u d = n := back_is L.hd (by rw [hs]; have := (L.ord he).1; omega) (by rw [hs]; exact L.back hg he)
    rw [if_neg h1, hb, dtl_drop]
end DC
end Go.Proofs.YtcnfhndejkngkaaGreatDoor
end

section
set_option linter.unusedSimpArgs false
set_option linter.unusedVariables false
set_option maxRecDepth 100000
namespace Go.Proofs.YtcnfhndejkngkaaGreatDoor
open Go.RowKit LgM
namespace DC
def bl (u d N i : Nat) : List UInt8 := dtl u d i ++ List.replicate (N - i) 0
theorem bl_len {u d N i : Nat} (h : i ≤ N) : (bl u d N i).length = N := by unfold bl; rw [List.length_append, dtl_len, List.length_replicate]; omega
theorem bl_set {u d N i : Nat} (h : i < N) : (bl u d N i).set i (UInt8.ofNat (48 + dg u d i)) = bl u d N (i + 1) := by
  unfold bl
  rw [List.set_append_right _ _ (by rw [dtl_len]; exact Nat.le_refl _), dtl_len, Nat.sub_self, show N - i = N - (i + 1) + 1 by omega, List.replicate_succ, List.set_cons_zero, dtl_succ, List.append_assoc]
  rfl
theorem bl_end (u d N : Nat) : bl u d N N = dtl u d N := by unfold bl; rw [Nat.sub_self]; simp
end DC
theorem cl_of_makeB {w w' : World} {n : Nat} (h : w'.ownsRow w.heap.size 5 1 (.slice (some ⟨w.heap.size, 0, none⟩) n n) n (madeCells #[Value.int .u8 0] n).toList) : Cl w.heap.size (List.replicate n (.int .u8 0)) 5 w' := by
  obtain ⟨h1, h2 | ⟨g, cap, cur, e1, e2, e3, e4, e5, e6, e7⟩⟩ := h
  · obtain ⟨h2, rfl⟩ := h2
    simp at h2
  · simp at e1
    obtain ⟨rfl, rfl⟩ := e1
    unfold Cl
    rw [e3]
    have : cur.toList = (madeCells #[Value.int .u8 0] n).toList := by
      rw [← e7, List.take_of_length_le (by simp; omega)]
    have e8 : cur = madeCells #[Value.int .u8 0] n := Array.toList_inj.1 this
    rw [e8]
    congr 2
    apply Array.ext
    · simp [madeCells]
    · intro i h1 h2
      simp [madeCells, Nat.mod_one]
set_option maxHeartbeats 4000000 in
theorem digits_any (r0 d N : Nat) (w : World) (hr : r0 < d) (hd : d ≤ 5000) (hN : N ≤ 1000000) :
    Calls Tryz.prog 94 #[.int .i64 (r0 : Int), .int .i64 (d : Int), .int .i64 (N : Int)] w fun e w' => e = .returned (.tuple #[.string ⟨(DC.dtl r0 d N).toArray⟩, .int .i64 ((DC.rs r0 d N : Nat) : Int)]) ∧ Below w.heap.size w w' := by
  obtain ⟨k0, hk, hx0, hx1, hx2⟩ := info_parts Tryz.infoU8
  have hr0 : DC.rs r0 d 0 = r0 := Nat.mod_eq_of_lt hr
  have nd : ¬ d = 0 := by omega
  have ndi : ¬ (d : Int) = 0 := by omega
  go_enter Tryz.func94, Tryz.ntmps94
  go_wp2_with (at_make; refine wpList_make_full _ rfl _ _ 89 rfl w.heap.size 5 k0 (.int .u8 0) 1 Tryz.underlying89 hk hx0 hx1 .i64 .i64 _ _ N rfl rfl (by omega) (by omega) (by rw [hx2]; omega) (by unfold maxLen; omega) (Nat.le_refl _) ?_)
  intro w4 hown hgrow
  obtain ⟨g, hg⟩ : ∃ g, g = w.heap.size := ⟨_, rfl⟩
  have HS : Hid (Cl g (u8s (DC.bl r0 d N 0)) 5 w4 ∧ Below w.heap.size w w4 ∧ w.heap.size ≤ g) := by
    refine ⟨?_, (Below.refl _ _).grown hgrow (Nat.le_refl _) (by simp), by omega⟩
    have h := cl_of_makeB hown
    rw [hg]
    have e : u8s (DC.bl r0 d N 0) = List.replicate N (.int .u8 0) := by
      unfold DC.bl u8s
      simp [DC.dtl]
    rw [e]
    exact h
  clear hown hgrow hk hx0 hx1 hx2
  rw [← hg]
  clear hg
  go_wp2
  go_loopg [0, 13] N (fun gk rv iv wx => ∃ i : Nat, rv = .int .i64 ((DC.rs r0 d i : Nat) : Int) ∧ iv = .int .i64 (i : Int) ∧ Hid (gk = N - i ∧ i ≤ N ∧ Cl g (u8s (DC.bl r0 d N i)) 5 wx ∧ Below w.heap.size w wx ∧ w.heap.size ≤ g))
  case atStart => exact ⟨0, by rw [hr0], rfl, by omega, by omega, HS.out⟩
  case round =>
    clear HS
    obtain ⟨i, rfl, rfl, HR⟩ := hrel
    obtain ⟨h1, h2, h3, h4, h5⟩ := HR.out
    have HG : Hid (gk = N - i) := h1
    have HC : Hid (Cl g (u8s (DC.bl r0 d N i)) 5 wr ∧ Below w.heap.size w wr ∧ w.heap.size ≤ g) := ⟨h3, h4, h5⟩
    clear HR h1 h3 h4 h5
    by_cases hi : i < N
    · have ti : decide ((i : Int) < (N : Int)) = true := decide_eq_true (by omega)
      have xi : (i : Int) < (N : Int) := by omega
      have c0 : wr.cell? ⟨g, i, none⟩ = (u8s (DC.bl r0 d N i))[i]? := HC.out.1.cell i
      have c1 : ∃ v, wr.cell? ⟨g, i, none⟩ = some v := by
        rw [c0]
        have : i < (u8s (DC.bl r0 d N i)).length := by unfold u8s; rw [List.length_map, DC.bl_len h2]; exact hi
        exact ⟨_, List.getElem?_eq_getElem this⟩
      obtain ⟨v0, c2⟩ := c1
      have f0 := HC.out.1.frozen i
      obtain ⟨r, hr1⟩ : ∃ r, r = DC.rs r0 d i := ⟨_, rfl⟩
      have hrl : r < d := by rw [hr1]; exact DC.rs_lt (by omega) i
      obtain ⟨T, hT⟩ : ∃ T, T = r * 10 := ⟨_, rfl⟩
      obtain ⟨D, hD⟩ : ∃ D, D = r * 10 / d := ⟨_, rfl⟩
      obtain ⟨r', hr'⟩ : ∃ r', r' = r * 10 % d := ⟨_, rfl⟩
      have hD9 : D ≤ 9 := by
        have : D < 10 := by rw [hD, Nat.div_lt_iff_lt_mul (by omega)]; omega
        omega
      obtain ⟨D48, hD48⟩ : ∃ D', D' = 48 + D := ⟨_, rfl⟩
      have e48 : 48 + (D : Int) = (D48 : Int) := by omega
      have eT : (r : Int) * 10 = (T : Int) := by omega
      have wT : IntKind.i64.wrap (T : Int) = (T : Int) := by rw [IntKind.wrap_i64]; omega
      have tqT : Int.tdiv (T : Int) (d : Int) = (D : Int) := by rw [hD, hT]; rfl
      have trT : Int.tmod (T : Int) (d : Int) = (r' : Int) := by rw [hr', hT]; rfl
      have wD : IntKind.i64.wrap (D : Int) = (D : Int) := by rw [IntKind.wrap_i64]; omega
      have w48 : IntKind.i64.wrap (D48 : Int) = (D48 : Int) := by rw [IntKind.wrap_i64]; omega
      have w48u : IntKind.u8.wrap (D48 : Int) = (D48 : Int) := by rw [IntKind.wrap_u8]; omega
      have hrl' : r' < d := by rw [hr']; exact Nat.mod_lt _ (by omega)
      have wr' : IntKind.i64.wrap (r' : Int) = (r' : Int) := by rw [IntKind.wrap_i64]; omega
      have HN : Hid (DC.rs r0 d (i + 1) = r' ∧ Cl g (u8s (DC.bl r0 d N (i + 1))) 5 (wr.setCell ⟨g, i, none⟩ (.int .u8 (D48 : Int))) ∧ Below w.heap.size w (wr.setCell ⟨g, i, none⟩ (.int .u8 (D48 : Int)))) := by
        refine ⟨?_, ?_, HC.out.2.1.setCell HC.out.2.2 _⟩
        · show DC.rs r0 d i * 10 % d = r'
          rw [← hr1, hr']
        · have h := HC.out.1.set i (.int .u8 (D48 : Int))
          have e : (u8s (DC.bl r0 d N i)).set i (.int .u8 (D48 : Int)) = u8s (DC.bl r0 d N (i + 1)) := by
            rw [← DC.bl_set hi]
            unfold u8s
            rw [List.map_set]
            have e2 : ((UInt8.ofNat (48 + DC.dg r0 d i)).toNat : Int) = (D48 : Int) := by
              unfold DC.dg
              rw [← hr1, ← hD, ← hD48, UInt8.toNat_ofNat', Nat.mod_eq_of_lt (by omega)]
            rw [e2]
          rw [e] at h
          exact h
      rw [← hr1]
      clear hr1 hT hD hr' hD48 c0
      go_wp2
      go_roundg (N - (i + 1))
      case rel => exact ⟨i + 1, by rw [HN.out.1], by go_num, rfl, by omega, HN.out.2.1, HN.out.2.2, HC.out.2.2⟩
      case measure => have := HG.out; omega
    · have ti : decide ((i : Int) < (N : Int)) = false := decide_eq_false (by omega)
      obtain rfl : i = N := by omega
      have hcl : ∀ j, j < (DC.dtl r0 d i).length → wr.cell? ⟨g, j, none⟩ = (u8s (DC.dtl r0 d i))[j]? := fun j hj => by
        have h := HC.out.1.cell j
        rw [DC.bl_end] at h
        exact h
      have kc := conv_at (cap := i) (W := wr) (o := 0) (L := DC.dtl r0 d i) hcl (fun j hj => ⟨by omega, by rw [Nat.zero_add]⟩)
      rw [DC.dtl_len] at kc
      obtain ⟨SD, hSD⟩ : ∃ S : ByteArray, S = ⟨(DC.dtl r0 d i).toArray⟩ := ⟨_, rfl⟩
      rw [← hSD] at kc
      have HSD : Hid (SD = ⟨(DC.dtl r0 d i).toArray⟩) := hSD
      clear hcl hSD
      go_wp2
      exact bodyPost_ret (v := .tuple #[.string SD, .int .i64 ((DC.rs r0 d i : Nat) : Int)]) (by simp [results, Tryz.results94, go_sem]) rfl ⟨by rw [HSD.out], HC.out.2.1⟩
end Go.Proofs.YtcnfhndejkngkaaGreatDoor
end
