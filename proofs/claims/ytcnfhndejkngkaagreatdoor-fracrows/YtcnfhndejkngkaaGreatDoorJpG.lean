import Derived.Test.YtcnfhndejkngkaaGreatDoorBigG
import Derived.Test.YtcnfhndejkngkaaGreatDoorBitsB
import Derived.Laws.AppendOwnNone
section
set_option linter.unusedSimpArgs false
set_option linter.unusedVariables false
set_option maxRecDepth 100000
namespace Go.Proofs.YtcnfhndejkngkaaGreatDoor
open Go.RowKit
theorem Sl.of_own {w : World} {base : Nat} {v : Value} {l : List Nat} (h : w.ownsRow base 106 1 v l.length (l.map fun x : Nat => Value.int .u32 (x : Int))) (hs : ∀ x ∈ l, x < 4294967296) : Sl w v l := by
  obtain ⟨_, ⟨h1, h2⟩ | ⟨g, cap, cur, e1, _, e3, e4, _, e6, e7⟩⟩ := h
  · exact ⟨hs, Or.inl ⟨List.length_eq_zero_iff.1 h2, h1⟩⟩
  · refine ⟨hs, Or.inr ⟨g, cap, cur, e1, e4, e3, fun i hi => ?_⟩⟩
    have h3 : (cur.toList.take (l.length * 1))[i]? = (l.map fun x : Nat => Value.int .u32 (x : Int))[i]? := by rw [e7]
    rw [List.getElem?_take, if_pos (by omega)] at h3
    rw [← Array.getElem?_toList, h3]
    simp [hi]
set_option maxHeartbeats 400000 in
theorem twin_any (s : Value) (a m : Nat) (w : World) (ha : NS w s a) (hm : a < pw m) (hm' : m ≤ 100000000) :
    Calls Tryz.prog 87 #[s] w fun e w' => ∃ r, e = .returned r ∧ NS w' r a ∧ Below w.heap.size w w' := by
  obtain ⟨l, hsl, hv, hn⟩ := ha
  subst hv
  have l1 : l.length ≤ 100000000 := Nat.le_trans (hn.len hm) hm'
  have HN : Hid (Nm l) := hn
  have HS : Hid (∀ x ∈ l, x < 4294967296) := hsl.small
  clear hm hn
  obtain ⟨i0, hi, hz0, hz1, hz2⟩ := info_parts Tryz.info32
  rcases hsl.shape with ⟨rfl, rfl⟩ | ⟨g, cap, C, rfl, h2, h3, h4⟩
  · go_enter Tryz.func87, Tryz.ntmps87
    go_wp2_with (at_builtin; refine wpList_append_own_none rfl _ _ 53 rfl w.heap.size 106 i0 1 Tryz.underlying53 hi _ 0 [] rfl (World.ownsRow_nil _ _ _ _) rfl ?_)
    go_wp2
    go_ret
    exact ⟨_, rfl, ⟨[], ⟨by simp, Or.inl ⟨rfl, rfl⟩⟩, rfl, Or.inl rfl⟩, Below.refl _ _⟩
  · have hcell : ∀ (j : Nat) (u : Value), (l.map fun x : Nat => Value.int .u32 (x : Int))[j]? = some u → w.cell? ((⟨g, 0, none⟩ : Addr).add j) = some u := by
      intro j u hj
      have hjl : j < l.length := by
        rcases Nat.lt_or_ge j l.length with c | c
        · exact c
        · rw [List.getElem?_eq_none (by simpa using c)] at hj; cases hj
      have := h4 j hjl
      have e : ((⟨g, 0, none⟩ : Addr).add j) = ⟨g, j, none⟩ := by
        cases j with
        | zero => rfl
        | succ n => simp [Addr.add]
      rw [e]
      simp only [World.cell?, h3]
      simp only [Option.isSome_none, Bool.false_eq_true, if_false]
      rw [this, ← hj]; simp [hjl]
    have hone : ∀ u ∈ (l.map fun x : Nat => Value.int .u32 (x : Int)), u.oneCell' = true := by
      intro u hu; simp at hu; obtain ⟨x, _, rfl⟩ := hu; rfl
    have HC : Hid (∀ (j : Nat) (u : Value), (l.map fun x : Nat => Value.int .u32 (x : Int))[j]? = some u → w.cell? ((⟨g, 0, none⟩ : Addr).add j) = some u) := hcell
    have HO : Hid (∀ u ∈ (l.map fun x : Nat => Value.int .u32 (x : Int)), u.oneCell' = true) := hone
    clear hcell hone h4 h3 hsl
    go_enter Tryz.func87, Tryz.ntmps87
    go_wp2_with (at_builtin; refine wpList_append_own _ rfl _ _ 53 rfl w.heap.size 106 i0 (.int .u32 0) 1 4 Tryz.underlying53 hi hz0 hz1 hz2 rfl (by decide) _ 0 [] rfl (World.ownsRow_nil _ _ _ _) ⟨g, 0, none⟩ l.length cap (l.map fun x : Nat => Value.int .u32 (x : Int)) rfl (by simp) HC.out HO.out (by unfold maxLen; omega) (by omega) (Nat.le_refl _) ?_)
    intro v' w1 hown hgrow _
    try simp only [Nat.zero_add, List.nil_append] at hown
    have hsl' := Sl.of_own hown HS.out
    have hbel : Below w.heap.size w w1 := (Below.refl _ _).grown hgrow (Nat.le_refl _) (by simp [Value.ownBlock])
    have HF : Hid (NS w1 v' (val l)) := ⟨l, hsl', rfl, HN.out⟩
    clear hown hgrow hsl'
    go_wp2
    go_ret
    exact ⟨v', rfl, HF.out, hbel⟩
theorem or_low (x y : Nat) (hx : x < 4294967296) (hy : y < 4294967296) : bits .or .u64 (x : Int) ((y : Int) * 4294967296) = ((x + 4294967296 * y : Nat) : Int) := by
  have e : (y : Int) * 4294967296 = ((y * 4294967296 : Nat) : Int) := by simp
  rw [e, bits_or_u64_nat _ _ (by omega) (by omega)]
  have h := Nat.two_pow_add_eq_or_of_lt (i := 32) (b := x) (by omega) y
  rw [Nat.or_comm, Nat.mul_comm y]
  have e32 : (2 : Nat) ^ 32 = 4294967296 := by decide
  rw [e32] at h
  rw [← h, Nat.add_comm]
theorem or_high (r x : Nat) (hr : r < 4294967296) (hx : x < 4294967296) : bits .or .u64 ((r : Int) * 4294967296) (x : Int) = ((r * 4294967296 + x : Nat) : Int) := by
  have e : (r : Int) * 4294967296 = ((r * 4294967296 : Nat) : Int) := by simp
  rw [e, bits_or_u64_nat _ _ (by omega) (by omega)]
  have h := Nat.two_pow_add_eq_or_of_lt (i := 32) (b := x) (by omega) r
  have e32 : (2 : Nat) ^ 32 = 4294967296 := by decide
  rw [e32] at h
  rw [Nat.mul_comm r, ← h]
theorem short_list (l : List Nat) (h : l.length ≤ 2) : l = [] ∨ (∃ x, l = [x]) ∨ ∃ x y, l = [x, y] := by
  match l, h with
  | [], _ => exact Or.inl rfl
  | [x], _ => exact Or.inr (Or.inl ⟨x, rfl⟩)
  | [x, y], _ => exact Or.inr (Or.inr ⟨x, y, rfl⟩)
set_option maxHeartbeats 400000 in
theorem plain_any (s : Value) (a : Nat) (w : World) (ha : NS w s a) (h : a < 18446744073709551616) :
    Calls Tryz.prog 117 #[s] w fun e w' => e = .returned (.int .u64 (a : Int)) ∧ ∃ q, w' = w.drewN q := by
  obtain ⟨l, aa, g, cap, rfl, va, na, sa, pa, cell, _, _⟩ := ha.open
  have l2 : l.length ≤ 2 := na.len (by rw [va, pw_two]; exact h)
  rcases short_list l l2 with rfl | ⟨x, rfl⟩ | ⟨x, y, rfl⟩
  · have e : a = 0 := by rw [← va]; rfl
    subst e
    clear ha pa cell sa na va h
    go_enter Tryz.func117, Tryz.ntmps117
    go_wp2
    go_ret
    exact ⟨rfl, 0, rfl⟩
  · have e : a = x := by rw [← va]; simp [val]
    subst e
    have c0 := cell 0 (by simp)
    have hx := sa a (by simp)
    obtain rfl := pa (by simp)
    simp at c0
    clear ha pa cell sa na va h
    go_enter Tryz.func117, Tryz.ntmps117
    go_wp2
    go_ret
    exact ⟨rfl, 0, rfl⟩
  · have e : a = x + 4294967296 * y := by rw [← va]; simp [val]
    have HE : Hid (a = x + 4294967296 * y) := e
    have c0 := cell 0 (by simp)
    have c1 := cell 1 (by simp)
    have hx := sa x (by simp)
    have hy := sa y (by simp)
    obtain rfl := pa (by simp)
    simp at c0 c1
    have ho := or_low x y hx hy
    rw [← e] at ho
    clear ha pa cell sa na va h e
    go_enter Tryz.func117, Tryz.ntmps117
    go_wp2
    first
      | (go_ret; exact ⟨rfl, 0, rfl⟩)
      | (go_quiet (fail)
         go_wp2
         go_ret
         exact ⟨rfl, _, rfl⟩)
theorem drop_step (l : List Nat) (k : Nat) (hk : k < l.length) : val (l.drop k) = l.getD k 0 + 4294967296 * val (l.drop (k + 1)) := by
  rw [List.drop_eq_getElem_cons hk, List.getD_eq_getElem?_getD, List.getElem?_eq_getElem hk]; rfl
theorem small_step (T x d r : Nat) (hd : 0 < d) (hr : r = T % d) : (x + 4294967296 * T) / d = (r * 4294967296 + x) / d + 4294967296 * (T / d) ∧ (x + 4294967296 * T) % d = (r * 4294967296 + x) % d := by
  have e : x + 4294967296 * T = d * (4294967296 * (T / d)) + (r * 4294967296 + x) := by
    have := Nat.div_add_mod T d
    rw [← hr] at this
    rw [Nat.mul_left_comm]
    generalize d * (T / d) = z at *
    omega
  rw [e]
  refine ⟨?_, Nat.mul_add_mod ..⟩
  rw [Nat.mul_add_div hd]; omega
theorem set_rep (k d : Nat) (Q : List Nat) : (List.replicate (k + 1) 0 ++ Q).set k d = List.replicate k 0 ++ (d :: Q) := by
  rw [show List.replicate (k + 1) 0 = List.replicate k 0 ++ [0] from by rw [← List.replicate_append_replicate (n := k) (m := 1)]; rfl, List.append_assoc, List.set_append_right _ _ (by simp)]
  simp
set_option maxHeartbeats 1000000 in
theorem small_any (s : Value) (a d m : Nat) (w : World) (ha : NS w s a) (hm : a < pw m) (hm' : m ≤ 100000000) (hd : 0 < d) (hd2 : d < 4294967296) :
    Calls Tryz.prog 89 #[s, .int .u32 d] w fun e w' => ∃ r, e = .returned (.tuple #[r, .int .u32 ((a % d : Nat) : Int)]) ∧ NS w' r (a / d) ∧ Below w.heap.size w w' := by
  obtain ⟨l, aa, g, cap, rfl, va, na, sa, pa, cell, _, lt⟩ := ha.open
  subst va
  have l1 : l.length ≤ 100000000 := Nat.le_trans (na.len hm) hm'
  have SA : Hid (∀ x ∈ l, x < 4294967296) := sa
  have PA : Hid (0 < l.length → aa = some ⟨g, 0, none⟩) := pa
  have CA : Hid (∀ i, i < l.length → w.cell? ⟨g, i, none⟩ = some (.int .u32 (l.getD i 0 : Int))) := cell
  have GA : Hid (0 < l.length → g < w.heap.size) := lt
  clear na sa pa cell lt ha hm
  have t1 : ((d : Int) == 0) = false := beq_eq_false_iff_ne.2 (by omega)
  go_enter Tryz.func89, Tryz.ntmps89
  obtain ⟨i0, hi, hz0, hz1, hz2⟩ := info_parts Tryz.info32
  go_wp2_with (at_make; refine wpList_make_full _ rfl _ _ 53 rfl w.heap.size 106 i0 (.int .u32 0) 1 Tryz.underlying53 hi hz0 hz1 .i64 .i64 _ _ l.length rfl rfl (by omega) (by omega) (by rw [hz2]; omega) (by unfold maxLen; omega) (Nat.le_refl _) ?_)
  intro w1 hown hgrow
  have hrow := Row.of_make hown
  have hbel : Below w.heap.size w w1 := (Below.refl _ _).grown hgrow (Nat.le_refl _) (by simp)
  have HR : Hid (Row w1 w.heap.size (List.replicate l.length 0)) := hrow
  have HB : Hid (Below w.heap.size w w1) := hbel
  clear hown hgrow hrow hbel hi hz0 hz1 hz2
  go_wp2
  go_loopw [7, 8] (fun c i wr => ∃ (k r : Nat) (Q : List Nat), k ≤ l.length ∧ i = .int .i64 ((k : Int) - 1) ∧ c = .int .u64 r ∧ r = val (l.drop k) % d ∧ Q.length = l.length - k ∧ (∀ x ∈ Q, x < 4294967296) ∧ val Q = val (l.drop k) / d ∧ Row wr w.heap.size (List.replicate k 0 ++ Q) ∧ Below w.heap.size w wr) (fun _ i _ => (intOf i + 1).toNat)
  case atStart => exact ⟨l.length, 0, [], Nat.le_refl _, rfl, rfl, by simp [val], by simp, by simp, by simp [val], by simpa using HR.out, HB.out⟩
  case round =>
    obtain ⟨k, r, Q, hk, rfl, rfl, hr, hQ, hQs, hv, hrow, hbel⟩ := hrel
    have hrd : r < d := by rw [hr]; exact Nat.mod_lt _ hd
    have HRr : Hid (r = val (l.drop k) % d) := hr
    have HQ : Hid (Q.length = l.length - k) := hQ
    have HQs : Hid (∀ x ∈ Q, x < 4294967296) := hQs
    have HV : Hid (val Q = val (l.drop k) / d) := hv
    have HRo : Hid (Row wr w.heap.size (List.replicate k 0 ++ Q)) := hrow
    have HBr : Hid (Below w.heap.size w wr) := hbel
    have hsz : (List.replicate k 0 ++ Q).length = l.length := by simp; omega
    clear hr hQ hQs hv hbel HR HB
    by_cases h0 : k = 0
    · subst h0
      have hrow2 : Row wr w.heap.size Q := by simpa using hrow
      have hsl := hrow2.sl HQs.out
      have hql : Q.length = l.length := by simpa using hsz
      rw [hql] at hsl
      have HSL : Hid (Sl wr (.slice (some ⟨w.heap.size, 0, none⟩) l.length l.length) Q) := hsl
      have HVV : Hid (val Q = val l / d ∧ r = val l % d) := ⟨by have := HV.out; simpa using this, by have := HRr.out; simpa using this⟩
      have HLN : Hid (Q.length ≤ 1000000000) := by show _ ≤ _; omega
      clear hsl hrow2 hrow hsz hql
      go_wp2_with fail
      refine (trim_any Q _ _ HLN.out HSL.out).mono ?_
      rw [HVV.out.1]
      rintro e w2 ⟨s', rfl, hns, rfl⟩
      go_wp2
      go_ret2
      exact ⟨s', by rw [← HVV.out.2]; rfl, hns, HBr.out⟩
    · obtain ⟨j, rfl⟩ : ∃ j, k = j + 1 := ⟨k - 1, by omega⟩
      have cr : wr.cell? ⟨w.heap.size, j, none⟩ = some (.int .u32 ((List.replicate (j + 1) 0 ++ Q).getD j 0 : Int)) := hrow.cell j (by omega)
      have fr : wr.frozen? ⟨w.heap.size, j, none⟩ = false := hrow.frozen j
      generalize hqq : ((List.replicate (j + 1) 0 ++ Q).getD j 0 : Int) = qq at cr
      have ca : wr.cell? ⟨g, j, none⟩ = some (.int .u32 (l.getD j 0 : Int)) := (HBr.out.cell (p := ⟨g, j, none⟩) (GA.out (by omega))).trans (CA.out j (by omega))
      have sx := List.getD_lt_of SA.out j
      obtain ⟨x, hx⟩ : ∃ x, x = l.getD j 0 := ⟨_, rfl⟩
      rw [← hx] at ca sx
      have HX : Hid (x = l.getD j 0) := hx
      obtain rfl := PA.out (by omega)
      have ho := or_high r x (by omega) sx
      obtain ⟨t, ht⟩ : ∃ t, t = r * 4294967296 + x := ⟨_, rfl⟩
      rw [← ht] at ho
      have hst := small_step (val (l.drop (j + 1))) x d r hd HRr.out
      rw [← ht] at hst
      have htd : t / d < 4294967296 := by
        rw [Nat.div_lt_iff_lt_mul hd]
        have : (r + 1) * 4294967296 ≤ d * 4294967296 := Nat.mul_le_mul_right _ hrd
        rw [Nat.mul_comm]; omega
      have htb : t < 18446744073709551616 := by omega
      have eq1 : (t : Int) / (d : Int) = ((t / d : Nat) : Int) := (Int.natCast_ediv ..).symm
      have er1 : (t : Int) % (d : Int) = ((t % d : Nat) : Int) := (Int.natCast_emod ..).symm
      have HST : Hid ((x + 4294967296 * val (l.drop (j + 1))) / d = t / d + 4294967296 * (val (l.drop (j + 1)) / d) ∧ (x + 4294967296 * val (l.drop (j + 1))) % d = t % d) := hst
      obtain ⟨qd, gqd⟩ : ∃ qd, qd = t / d := ⟨_, rfl⟩
      obtain ⟨rd, grd⟩ : ∃ rd, rd = t % d := ⟨_, rfl⟩
      rw [← gqd] at eq1 htd
      rw [← grd] at er1
      have HG : Hid (qd = t / d ∧ rd = t % d) := ⟨gqd, grd⟩
      have hrdb : rd < d := by rw [grd]; exact Nat.mod_lt _ hd
      have htI : (t : Int) ≤ 18446744073709551615 := by omega
      clear hqq hx ht hst hrow hsz gqd grd htb
      go_wp2
      go_roundw
      case rel =>
        have hds := drop_step l j (by omega)
        rw [← HX.out] at hds
        refine ⟨j, rd, qd :: Q, by omega, by go_num, by rw [er1], ?_, ?_, ?_, ?_, ?_, ?_⟩
        · rw [hds, HST.out.2]; exact HG.out.2
        · simp [HQ.out]; omega
        · intro z hz; rw [List.mem_cons] at hz; rcases hz with rfl | hz
          · exact htd
          · exact HQs.out z hz
        · rw [hds, HST.out.1, ← HV.out, ← HG.out.1]; rfl
        · rw [← set_rep]
          exact HRo.out.set j _ _ (by first | rfl | omega)
        · exact HBr.out.setCell (Nat.le_refl _) _
      case measure => simp [intOf]
end Go.Proofs.YtcnfhndejkngkaaGreatDoor
end

section
set_option linter.unusedSimpArgs false
set_option linter.unusedVariables false
set_option maxRecDepth 100000
namespace Go.Proofs.YtcnfhndejkngkaaGreatDoor
open Go.RowKit
set_option maxHeartbeats 1000000 in
theorem Set_any (bz bx : Nat) (x : Int) (m : Nat) (w : World) (hz : Slot w bz) (hx : BigAt w bx x) (hm : x.natAbs < pw m) (hm' : m ≤ 100000000) :
    Calls Tryz.prog 57 #[.pointer (some ⟨bz, 0, none⟩), .pointer (some ⟨bx, 0, none⟩)] w fun e w' => e = .returned (.pointer (some ⟨bz, 0, none⟩)) ∧ BigAt w' bz (x) ∧ Upd bz w w' := by
  obtain ⟨xa, xl, xc, cx0, cx1, nx, _⟩ := hx.open
  have lx := hx.lt
  have HZ : Hid (Slot w bz) := hz
  have NX : Hid (NS w (.slice xa xl xc) x.natAbs) := nx
  have HM : Hid (x.natAbs < pw m) := hm
  clear hx hz nx hm
  obtain ⟨p, hp⟩ : ∃ p, p = decide (x < 0) := ⟨_, rfl⟩
  rw [← hp] at cx0
  have HXY : Hid (sgd p x.natAbs = x) := by show _ = _; rw [hp, sgd_self]
  clear hp
  go_enter Tryz.func57, Tryz.ntmps57
  go_wp2
  refine wp_region_G (fun w' => w'.cell? ⟨bx, 0, none⟩ = some (.bool p) ∧ w'.cell? ⟨bx, 1, none⟩ = some (.slice xa xl xc)) 10 (by kernel_rfl) ⟨cx0, cx1⟩ (fun hHeld => ?_)
  refine wpAnyG_take (i := 0) (v := ?v0) rfl (by kernel_rfl) (fun _ _ _ h => h) (Or.inl ⟨by rfl, ?y0⟩) hHeld ?r0
  case y0 => (intro wS hSw; obtain ⟨s1, s2⟩ := hSw; go_simp; try with_reducible rfl)
  try simp only [Act.put, List.setIfInBounds_toArray, List.set_cons_zero, List.set_cons_succ]
  refine wpAnyG_take (i := 1) (v := ?v1) rfl (by kernel_rfl) (fun _ _ _ h => h) (Or.inl ⟨by rfl, ?y1⟩) hHeld ?r1
  case y1 => (intro wS hSw; obtain ⟨s1, s2⟩ := hSw; go_simp; try with_reducible rfl)
  try simp only [Act.put, List.setIfInBounds_toArray, List.set_cons_zero, List.set_cons_succ]
  refine wpAnyG_take (i := 2) (v := ?v2) rfl (by kernel_rfl) (fun _ _ _ h => h) (Or.inl ⟨by rfl, ?y2⟩) hHeld ?r2
  case y2 => (intro wS hSw; obtain ⟨s1, s2⟩ := hSw; go_simp; try with_reducible rfl)
  try simp only [Act.put, List.setIfInBounds_toArray, List.set_cons_zero, List.set_cons_succ]
  refine wpAnyG_take (i := 3) (v := ?v3) rfl (by kernel_rfl) (fun _ _ _ h => h) (Or.inl ⟨by rfl, ?y3⟩) hHeld ?r3
  case y3 => (intro wS hSw; obtain ⟨s1, s2⟩ := hSw; go_simp; try with_reducible rfl)
  try simp only [Act.put, List.setIfInBounds_toArray, List.set_cons_zero, List.set_cons_succ]
  refine wpAnyG_take (i := 4) (v := ?v4) rfl (by kernel_rfl) (fun _ _ _ h => h) (Or.inl ⟨by rfl, ?y4⟩) hHeld ?r4
  case y4 => (intro wS hSw; obtain ⟨s1, s2⟩ := hSw; go_simp; try with_reducible rfl)
  try simp only [Act.put, List.setIfInBounds_toArray, List.set_cons_zero, List.set_cons_succ]
  refine wpAnyG_take (i := 5) (v := ?v5) rfl (by kernel_rfl) (fun _ _ _ h => h) (Or.inl ⟨by rfl, ?y5⟩) hHeld ?r5
  case y5 => (intro wS hSw; obtain ⟨s1, s2⟩ := hSw; go_simp; try with_reducible rfl)
  try simp only [Act.put, List.setIfInBounds_toArray, List.set_cons_zero, List.set_cons_succ]
  refine wpAnyG_take (i := 6) (v := ?v6) rfl (by kernel_rfl) (fun _ _ _ h => h) (Or.inl ⟨by rfl, ?y6⟩) hHeld ?r6
  case y6 => (intro wS hSw; obtain ⟨s1, s2⟩ := hSw; go_simp; try with_reducible rfl)
  try simp only [Act.put, List.setIfInBounds_toArray, List.set_cons_zero, List.set_cons_succ]
  refine wpAnyG_take (i := 7) (v := ?v7) rfl (by kernel_rfl) (fun _ _ _ h => h) (Or.inl ⟨by rfl, ?y7⟩) hHeld ?r7
  case y7 => (intro wS hSw; obtain ⟨s1, s2⟩ := hSw; go_simp; try with_reducible rfl)
  try simp only [Act.put, List.setIfInBounds_toArray, List.set_cons_zero, List.set_cons_succ]
  refine wpAnyG_take (i := 8) (v := ?v8) rfl (by kernel_rfl) (fun _ _ _ h => h) (Or.inl ⟨by rfl, ?y8⟩) hHeld ?r8
  case y8 => (intro wS hSw; obtain ⟨s1, s2⟩ := hSw; go_simp; try with_reducible rfl)
  try simp only [Act.put, List.setIfInBounds_toArray, List.set_cons_zero, List.set_cons_succ]
  refine wpAnyG_one (i := 9) rfl (by kernel_rfl) (fun K hK => ?_)
  go_simp
  refine (twin_any _ x.natAbs m _ NX.out.drew HM.out hm').mono ?_
  rintro e w1 ⟨r, rfl, hr, hb⟩
  refine hK.out _ _ ⟨(hb.cell lx).trans cx0, (hb.cell lx).trans cx1⟩ ?_
  clear hK K
  try simp only [Act.put, List.setIfInBounds_toArray, List.set_cons_zero, List.set_cons_succ]
  refine wpAnyG_last (i := 10) rfl (by kernel_rfl) (by kernel_rfl) (fun K hK => ?_)
  go_simp
  refine (give_any bz p r x.natAbs w1 (HZ.out.drew.below hb (Nat.le_refl _)) hr).mono ?_
  rw [HXY.out]
  rintro e w2 ⟨rfl, hbig, hu⟩
  refine hK.out _ _ ?_
  clear hK K
  try simp only [Act.put, List.setIfInBounds_toArray, List.set_cons_zero, List.set_cons_succ]
  refine wpAnyG_last (i := 11) rfl (by kernel_rfl) (by kernel_rfl) (fun K hK => ?_)
  go_simp
  refine hK.out _ _ ?_
  clear hK K
  try simp only [Act.put, List.setIfInBounds_toArray, List.set_cons_zero, List.set_cons_succ]
  refine wpAnyG_done (by kernel_rfl) ?_ _
  go_wp2
  go_ret
  exact ⟨rfl, hbig, (Upd.refl bz w).drew.trans (Upd.then_below hb hu)⟩
end Go.Proofs.YtcnfhndejkngkaaGreatDoor
end
