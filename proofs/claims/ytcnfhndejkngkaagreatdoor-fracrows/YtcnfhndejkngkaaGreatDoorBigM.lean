import Derived.Test.YtcnfhndejkngkaaGreatDoorJpI
import Derived.Laws.CopyOwn
import Derived.Deep.CutBlock
set_option linter.unusedSimpArgs false
set_option linter.unusedVariables false
set_option maxRecDepth 100000
namespace Go.Proofs.YtcnfhndejkngkaaGreatDoor
open Go.RowKit
theorem shifted_words {lb lv : List Nat} {t s : Nat} (hlb : 0 < lb.length) (sb : ∀ x ∈ lb, x < 4294967296) (hbits : Bits (lb.getD (lb.length - 1) 0) t) (htop : lb.getD (lb.length - 1) 0 ≠ 0) (hs : s + t = 32) (hv : val lv = val lb * 2 ^ s) (nv : Nm lv) (sv : ∀ x ∈ lv, x < 4294967296) :
    lv.length = lb.length ∧ 2147483648 ≤ lv.getD (lv.length - 1) 0 := by
  obtain ⟨n, hn⟩ : ∃ n, lb.length = n + 1 := ⟨lb.length - 1, by omega⟩
  rw [hn] at hbits htop
  simp only [Nat.add_sub_cancel] at hbits htop
  have hsp := val_split lb n (by omega)
  have htk := take_lt lb n (by omega) sb
  have hdr : val (lb.drop (n + 1)) = 0 := by rw [List.drop_eq_nil_of_le (by omega)]; rfl
  rw [hdr] at hsp
  simp only [Nat.mul_zero, Nat.add_zero] at hsp
  generalize lb.getD n 0 = x at *
  obtain ⟨g1, g2⟩ := hbits.ge htop
  have h32 : 2 ^ t * 2 ^ s = 4294967296 := by rw [← Nat.pow_add, show t + s = 32 by omega]
  have h31 : 2 ^ (t - 1) * 2 ^ s = 2147483648 := by rw [← Nat.pow_add, show t - 1 + s = 31 by omega]
  have up : val lv < pw (n + 1) := by
    have h1 : val lb < pw n * 2 ^ t := by
      have : pw n * (x + 1) ≤ pw n * 2 ^ t := Nat.mul_le_mul_left _ hbits.lt
      rw [Nat.mul_add, Nat.mul_one] at this; omega
    have h2 : val lb * 2 ^ s < pw n * 2 ^ t * 2 ^ s := Nat.mul_lt_mul_of_pos_right h1 (Nat.two_pow_pos s)
    rw [Nat.mul_assoc, h32] at h2
    rw [hv]; show _ < 4294967296 * pw n; omega
  have low : pw n * 2147483648 ≤ val lv := by
    have h1 : pw n * 2 ^ (t - 1) ≤ val lb := by
      have : pw n * 2 ^ (t - 1) ≤ pw n * x := Nat.mul_le_mul_left _ g2
      omega
    have h2 : pw n * 2 ^ (t - 1) * 2 ^ s ≤ val lb * 2 ^ s := Nat.mul_le_mul_right _ h1
    rw [Nat.mul_assoc, h31] at h2
    rw [hv]; exact h2
  have l1 := nv.len up
  have l2 : n < lv.length := by
    rcases Nat.lt_or_ge n lv.length with c | c
    · exact c
    · have h1 := val_lt lv sv
      have h2 := pw_le c
      have := pw_pos n
      omega
  have hl : lv.length = n + 1 := by omega
  refine ⟨by omega, ?_⟩
  rw [hl]
  simp only [Nat.add_sub_cancel]
  have hsp2 := val_split lv n (by omega)
  have htk2 := take_lt lv n (by omega) sv
  have hdr2 : val (lv.drop (n + 1)) = 0 := by rw [List.drop_eq_nil_of_le (by omega)]; rfl
  rw [hdr2] at hsp2
  simp only [Nat.mul_zero, Nat.add_zero] at hsp2
  generalize lv.getD n 0 = y at *
  rcases Nat.lt_or_ge y 2147483648 with c | c
  · have : pw n * (y + 1) ≤ pw n * 2147483648 := Nat.mul_le_mul_left _ c
    rw [Nat.mul_add, Nat.mul_one] at this
    omega
  · exact c
theorem top_ne {l : List Nat} (h : Nm l) (hl : 0 < l.length) (hs : ∀ x ∈ l, x < 4294967296) : l.getD (l.length - 1) 0 ≠ 0 := by
  obtain ⟨n, hn⟩ : ∃ n, l.length = n + 1 := ⟨l.length - 1, by omega⟩
  rcases h with h | h
  · subst h; simp at hl
  · rw [hn] at h ⊢
    simp only [Nat.add_sub_cancel] at h ⊢
    intro e
    have hsp := val_split l n (by omega)
    have htk := take_lt l n (by omega) hs
    have hdr : val (l.drop (n + 1)) = 0 := by rw [List.drop_eq_nil_of_le (by omega)]; rfl
    rw [hdr, e] at hsp
    simp at hsp
    omega
theorem getD_in (P X R : List Nat) (j i : Nat) (hP : P.length = j) (hi : i < X.length) : (P ++ (X ++ R)).getD (j + i) 0 = X.getD i 0 := by
  subst hP
  rw [List.getD_eq_getElem?_getD, List.getElem?_append_right (by omega), List.getElem?_append_left (by omega), List.getD_eq_getElem?_getD]
  simp
theorem quo_le {h top : Nat} (hh : h < 18446744073709551616) (ht : 2147483648 ≤ top) : h / top ≤ 8589934592 := by
  refine Nat.div_le_of_le_mul ?_
  have : 2147483648 * 8589934592 ≤ top * 8589934592 := Nat.mul_le_mul_right _ ht
  omega
theorem dec_true {a b c : Nat} (h : a < b * c) : decide ((a : Int) < (b : Int) * (c : Int)) = true := by
  rw [← Int.natCast_mul]; simp only [decide_eq_true_iff]; exact Int.ofNat_lt.2 h
theorem dec_false {a b c : Nat} (h : ¬ a < b * c) : decide ((a : Int) < (b : Int) * (c : Int)) = false := by
  rw [← Int.natCast_mul]; simp only [decide_eq_false_iff_not]; intro k; exact h (Int.ofNat_lt.1 k)
theorem take_digit (x y d : Nat) (hx : x < 4294967296) (hy : y < 4294967296) (hd : d ≤ 1) : ∃ z d2 : Nat, d2 ≤ 1 ∧ z < 4294967296 ∧ z + y + d = x + 4294967296 * d2 ∧
    IntKind.u64.wrap (IntKind.u64.wrap ((x : Int) - (y : Int)) - (d : Int)) / 9223372036854775808 = (d2 : Int) ∧ IntKind.u64.wrap (IntKind.u64.wrap ((x : Int) - (y : Int)) - (d : Int)) % 4294967296 = (z : Int) := by
  simp only [IntKind.wrap_u64]
  by_cases h : x < y + d
  · exact ⟨x + 4294967296 - y - d, 1, by omega, by omega, by omega, by omega, by omega⟩
  · exact ⟨x - y - d, 0, by omega, by omega, by omega, by omega, by omega⟩
theorem top_neg (x c d : Nat) (hx : x < 4294967296) (hc : c < 4294967296) (hd : d ≤ 1) (h : x < c + d) : ∃ z : Nat, z < 4294967296 ∧ z + (c + d) = x + 4294967296 ∧
    IntKind.u64.wrap (IntKind.u64.wrap ((x : Int) - (c : Int)) - (d : Int)) / 9223372036854775808 = 1 ∧ IntKind.u64.wrap (IntKind.u64.wrap ((x : Int) - (c : Int)) - (d : Int)) % 4294967296 = (z : Int) := by
  simp only [IntKind.wrap_u64]
  exact ⟨x + 4294967296 - c - d, by omega, by omega, by omega, by omega⟩
theorem quot_facts {W V gs : Nat} (hV : 0 < V) (h : gs = W / V) : W < (gs + 1) * V ∧ gs * V ≤ W := by
  subst h
  have h1 := Nat.div_add_mod W V
  have h2 := Nat.mod_lt W hV
  have h3 : W / V * V = V * (W / V) := Nat.mul_comm ..
  rw [Nat.add_mul, Nat.one_mul]
  omega
theorem Row.other {w : World} {g : Nat} {R : List Nat} (h : Row w g R) (g' i : Nat) (v : Value) (hne : g' ≠ g) : Row (w.setCell ⟨g', i, none⟩ v) g R := by
  unfold Row at h ⊢
  simp [World.setCell, Array.getElem?_modify, h, hne]
theorem app_zero (Y : List Nat) (k : Nat) : (Y ++ [0]) ++ List.replicate k 0 = Y ++ List.replicate (k + 1) 0 := by
  rw [List.append_assoc, List.replicate_succ]; rfl
theorem ks_end {A V n m : Nat} {Y Q : List Nat} (h : MathE.KS A V n m 0 [] Y Q) : A / V = val Q ∧ A % V = val Y := by
  have h1 := h.eq
  have h2 := h.lt
  simp only [pw, Nat.one_mul, val, Nat.zero_add] at h1
  have hV : 0 < V := by omega
  constructor
  · rw [h1, Nat.mul_comm, Nat.mul_add_div hV, Nat.div_eq_of_lt h2, Nat.add_zero]
  · rw [h1, Nat.mul_comm, Nat.mul_add_mod, Nat.mod_eq_of_lt h2]
theorem drop_cons (X : List Nat) (i : Nat) (hi : i < X.length) : X.drop i = X.getD i 0 :: X.drop (i + 1) := by
  rw [List.drop_eq_getElem_cons hi, List.getD_eq_getElem?_getD, List.getElem?_eq_getElem hi, Option.getD_some]
theorem getD_pos' (P Y : List Nat) (x : Nat) (R : List Nat) (j i : Nat) (hP : P.length = j) (hY : Y.length = i) : (P ++ (Y ++ (x :: R))).getD (i + j) 0 = x := by
  rw [Nat.add_comm]; exact MathD.getD_pos P Y x R j i hP hY
theorem set_pos' (P Y : List Nat) (x y : Nat) (R : List Nat) (j i : Nat) (hP : P.length = j) (hY : Y.length = i) : (P ++ (Y ++ (x :: R))).set (i + j) y = P ++ ((Y ++ [y]) ++ R) := by
  rw [Nat.add_comm]; exact MathD.set_pos P Y x y R j i hP hY
theorem Tryz.size32 : (Tryz.prog.info? 106).map (·.size) = some 1 := by kernel_rfl
set_option maxHeartbeats 8000000 in
set_option maxRecDepth 100000 in
theorem div_knuth (s0 t0 : Value) (a b m0 n0 : Nat) (w : World) (ha : NS w s0 a) (hb : NS w t0 b) (hm : a < pw m0) (hn : b < pw n0) (hm' : m0 ≤ 100000000) (hn' : n0 ≤ 100000000) (hab : b ≤ a) (h64 : ¬ a < 18446744073709551616) (h32 : ¬ b < 4294967296) :
    Calls Tryz.prog 88 #[s0, t0] w fun e w' => ∃ q r, e = .returned (.tuple #[q, r]) ∧ NS w' q (a / b) ∧ NS w' r (a % b) ∧ Below w.heap.size w w' := by
  obtain ⟨la, aa, ga, ca, rfl, va, na, sa, pa, cella, _, lta⟩ := ha.open
  obtain ⟨lb, ab, gb, cb, rfl, vb, nb, sb, pb, cellb, _, ltb⟩ := hb.open
  have hLA : la.length ≤ 100000000 := Nat.le_trans (na.len (by rw [va]; exact hm)) hm'
  have hla3 : 3 ≤ la.length := by
    rcases Nat.lt_or_ge la.length 3 with c | c
    · exact absurd (ha.short.1.1 (by omega)) h64
    · exact c
  have hlb2 : 2 ≤ lb.length := by
    rcases Nat.lt_or_ge lb.length 2 with c | c
    · exfalso
      have h1 := val_lt lb sb
      have h2 := pw_le (show lb.length ≤ 1 by omega)
      have h3 : pw 1 = 4294967296 := rfl
      rw [vb] at h1; omega
    · exact c
  have hlab : lb.length ≤ la.length := nb.len_le sa (by rw [va, vb]; exact hab)
  have htop := top_ne nb (by omega) sb
  have hAl : a < pw la.length := by rw [← va]; exact val_lt la sa
  have SB : Hid (∀ x ∈ lb, x < 4294967296) := sb
  have VB : Hid (val lb = b) := vb
  have TB : Hid (lb.getD (lb.length - 1) 0 ≠ 0) := htop
  have HA : Hid (NS w (.slice aa la.length ca) a) := ha
  have HB : Hid (NS w (.slice ab lb.length cb) b) := hb
  have HM : Hid (a < pw m0) := hm
  have HN : Hid (b < pw n0) := hn
  have HAl : Hid (a < pw la.length) := hAl
  have CB : Hid (∀ i, i < lb.length → w.cell? ⟨gb, i, none⟩ = some (.int .u32 (lb.getD i 0 : Int))) := cellb
  obtain rfl := pb (by omega)
  have q0 : ((lb.length : Int) == 0) = false := beq_eq_false_iff_ne.2 (by omega)
  have q1 : ((lb.length : Int) == 1) = false := beq_eq_false_iff_ne.2 (by omega)
  have hc : 0 ≤ cmpN a b := by unfold cmpN; split <;> (try split) <;> omega
  clear ha hb hm hn htop hAl na nb sa sb pa pb cella cellb lta ltb va vb
  go_enter Tryz.func88, Tryz.ntmps88
  go_wp2_with fail
  refine (cmp_any _ _ a b m0 n0 w HA.out HB.out HM.out HN.out hm' hn').mono ?_
  rintro e w1 ⟨rfl, hw1⟩
  have A1 : Hid (NS w1 (.slice aa la.length ca) a) := by obtain ⟨k, rfl⟩ := hw1; exact HA.out.drewN
  have B1 : Hid (NS w1 (.slice (some ⟨gb, 0, none⟩) lb.length cb) b) := by obtain ⟨k, rfl⟩ := hw1; exact HB.out.drewN
  have K1 : Hid (Below w.heap.size w w1) := by obtain ⟨k, rfl⟩ := hw1; exact below_drewN' (Below.refl _ _)
  have c1 : Hid (w1.cell? ⟨gb, lb.length - 1, none⟩ = some (.int .u32 (lb.getD (lb.length - 1) 0 : Int))) := by obtain ⟨k, rfl⟩ := hw1; exact CB.out _ (by omega)
  clear hw1 HA HB CB
  go_wp2_with fail
  refine (length_core lb _ gb cb w1 (by omega) (by omega) SB.out rfl c1.out).mono ?_
  rintro e w2 ⟨t, rfl, hbits, ht, rfl⟩
  have ht1 : 1 ≤ t := (hbits.ge TB.out).1
  have HBI : Hid (Bits (lb.getD (lb.length - 1) 0) t) := hbits
  obtain ⟨L, gL⟩ : ∃ L, L = (lb.length - 1) * 32 + t := ⟨_, rfl⟩
  rw [← gL]
  have eL : ((L : Int) - 1) % 32 = (t : Int) - 1 := by omega
  obtain ⟨s, gs⟩ : ∃ s, s = 32 - t := ⟨_, rfl⟩
  have hst : s + t = 32 := by omega
  have eS : (32 : Int) - ((t : Int) - 1) - 1 = (s : Int) := by omega
  have hLb : 1 ≤ L ∧ L ≤ 4000000000 := by omega
  clear hbits gL gs c1
  go_wp2_with fail
  refine (leftW_any _ b s n0 w2 B1.out HN.out hn' (by omega)).mono ?_
  rintro e w3 ⟨r3, rfl, hns3, k3⟩
  obtain ⟨lv, av, gv, cv, rfl, vv, nv, sv, pv, cellv, _, ltv⟩ := hns3.open
  obtain ⟨hlv, hv31⟩ := shifted_words (by omega) SB.out HBI.out TB.out hst (by rw [vv, VB.out]) nv sv
  obtain rfl := pv (by omega)
  have gvl := ltv (by omega)
  obtain ⟨n2, hlen⟩ : ∃ n2, lv.length = n2 + 2 := ⟨lv.length - 2, by omega⟩
  rw [hlen] at hv31 hlv ⊢
  have HLEN : Hid (lv.length = n2 + 2) := hlen
  rw [show n2 + 2 - 1 = n2 + 1 by omega] at hv31
  have SV : Hid (∀ x ∈ lv, x < 4294967296) := sv
  have VV : Hid (val lv = b * 2 ^ s) := vv
  have CV : Hid (∀ i, i < n2 + 2 → w3.cell? ⟨gv, i, none⟩ = some (.int .u32 (lv.getD i 0 : Int))) := fun i hi => cellv i (by omega)
  have hnl : n2 + 2 ≤ la.length := by omega
  have A3 : Hid (NS w3 (.slice aa la.length ca) a) := A1.out.below k3 (Nat.le_refl _)
  have K3 : Hid (Below w.heap.size w w3) := K1.out.trans (k3.mono K1.out.size)
  clear hns3 hlv vv nv sv pv cellv ltv k3 K1 A1 B1 eL eS hLb hlen
  obtain ⟨i0, hi, hz0, hz1, hz2⟩ := info_parts Tryz.info32
  go_wp2_with (at_make; refine wpList_make_full _ rfl _ _ 53 rfl w3.heap.size 106 i0 (.int .u32 0) 1 Tryz.underlying53 hi hz0 hz1 .i64 .i64 _ _ (la.length + 2) rfl rfl (by omega) (by omega) (by rw [hz2]; omega) (by unfold maxLen; omega) (Nat.le_refl _) ?_)
  intro w4 hown4 hgrow4
  have R4 : Hid (Row w4 w3.heap.size (List.replicate (la.length + 2) 0)) := Row.of_make hown4
  have K4 : Hid (Below w3.heap.size w3 w4) := (Below.refl _ _).grown hgrow4 (Nat.le_refl _) (by simp)
  have z4 : w3.heap.size < w4.heap.size := R4.out.lt
  clear hown4 hgrow4
  go_wp2_with fail
  refine (leftW_any _ a s m0 w4 (A3.out.below K4.out (Nat.le_refl _)) HM.out hm' (by omega)).mono ?_
  rintro e w5 ⟨r5, rfl, hns5, k5⟩
  obtain ⟨lx, ax, gx, cx, rfl, vx, nx, sx, px, cellx, _, ltx⟩ := hns5.open
  have hlx : lx.length ≤ la.length + 1 := by
    refine nx.len ?_
    rw [vx]
    have h1 : 2 ^ s ≤ 2147483648 := by
      have : 2 ^ s ≤ 2 ^ 31 := Nat.pow_le_pow_right (by omega) (by omega)
      omega
    have h2 : a * 2 ^ s ≤ a * 2147483648 := Nat.mul_le_mul_left _ h1
    have h3 := HAl.out
    show _ < 4294967296 * pw la.length
    omega
  have R5 : Hid (Row w5 w3.heap.size (List.replicate (la.length + 2) 0)) := R4.out.below k5 z4
  have K5 : Hid (Below w3.heap.size w3 w5) := K4.out.trans (k5.mono (by omega))
  have SX : Hid (∀ x ∈ lx, x < 4294967296) := sx
  have VX : Hid (val lx = a * 2 ^ s) := vx
  have PX : Hid (0 < lx.length → ax = some ⟨gx, 0, none⟩) := px
  have CX : Hid (∀ i, i < lx.length → w5.cell? ⟨gx, i, none⟩ = some (.int .u32 (lx.getD i 0 : Int))) := cellx
  clear hns5 vx nx sx px cellx ltx k5 R4 K4 A3
  have HPO : Hid (0 < (lx.map fun x : Nat => Value.int .u32 (x : Int)).length → ∃ ad, ax = some ad ∧ ∀ j v, (lx.map fun x : Nat => Value.int .u32 (x : Int))[j]? = some v → w5.cell? (ad.add j) = some v) := by
    intro h
    rw [List.length_map] at h
    refine ⟨⟨gx, 0, none⟩, PX.out h, fun j v hj => ?_⟩
    have hjl : j < lx.length := by
      rcases Nat.lt_or_ge j lx.length with c | c
      · exact c
      · rw [List.getElem?_eq_none (by simpa using c)] at hj; cases hj
    have e : ((⟨gx, 0, none⟩ : Addr).add j) = ⟨gx, j, none⟩ := by
      cases j with
      | zero => rfl
      | succ n => simp [Addr.add]
    rw [e, CX.out j hjl, ← hj]; simp [hjl]
  have HON : Hid (∀ v ∈ (lx.map fun x : Nat => Value.int .u32 (x : Int)), v.oneCell' = true) := by
    intro u hu; simp at hu; obtain ⟨x, _, rfl⟩ := hu; rfl
  have HMI : Hid ((lx.map fun x : Nat => Value.int .u32 (x : Int)).length = Nat.min lx.length (la.length + 2)) := by
    show _ = min _ _; rw [List.length_map]; omega
  have HFI : Hid (0 + (lx.map fun x : Nat => Value.int .u32 (x : Int)).length ≤ ((List.replicate (la.length + 2) 0).map fun x : Nat => Value.int .u32 (x : Int)).length) := by
    show _ ≤ _; simp; omega
  clear CX PX
  go_wp2_with ((refine wpList_copy_splice rfl _ _ 53 53 rfl 106 Tryz.underlying53 Tryz.size32 _ _ _ _ _ _ rfl rfl w3.heap.size 0 ((List.replicate (la.length + 2) 0).map fun x : Nat => Value.int .u32 (x : Int)) 106 R5.out (lx.map fun x : Nat => Value.int .u32 (x : Int)) HMI.out (fun h => ⟨rfl, HPO.out h⟩) HFI.out HON.out w3.heap.size w3 K5.out (Nat.le_refl _) ?_))
  intro w6 hr6 k6
  have R6 : Hid (Row w6 w3.heap.size (lx ++ List.replicate (la.length + 2 - lx.length) 0)) := by
    have := hr6.out
    show _ = _
    rw [this]
    congr 2
    simp [splice]
  have z6 : w3.heap.size < w6.heap.size := R6.out.lt
  have K6 : Hid (Below w3.heap.size w3 w6) := k6
  clear hr6 k6 R5 K5 HPO HON HMI HFI
  obtain ⟨m, gm⟩ : ∃ m, m = la.length + 1 - (n2 + 2) := ⟨_, rfl⟩
  have em : (la.length : Int) + 2 - ((n2 : Int) + 2) - 1 = (m : Int) := by omega
  have hmn : m + n2 + 1 = la.length := by omega
  have hmn1 : m + n2 + 1 ≤ la.length := by omega
  have hmn2 : la.length ≤ m + n2 + 1 := by omega
  have HMN : Hid (m + n2 + 1 = la.length) := hmn
  clear gm hmn
  go_wp2_with (at_make; refine wpList_make_full _ rfl _ _ 53 rfl w6.heap.size 106 i0 (.int .u32 0) 1 Tryz.underlying53 hi hz0 hz1 .i64 .i64 _ _ (m + 1) rfl rfl (by omega) (by omega) (by rw [hz2]; omega) (by unfold maxLen; omega) (Nat.le_refl _) ?_)
  intro w7 hown7 hgrow7
  have Q7 : Hid (Row w7 w6.heap.size (List.replicate (m + 1) 0)) := Row.of_make hown7
  have k7 : Below w6.heap.size w6 w7 := (Below.refl _ _).grown hgrow7 (Nat.le_refl _) (by simp)
  have R7 : Hid (Row w7 w3.heap.size (lx ++ List.replicate (la.length + 2 - lx.length) 0)) := R6.out.below k7 z6
  have K7 : Hid (Below w3.heap.size w3 w7) := K6.out.trans (k7.mono (by omega))
  have z7 : w6.heap.size < w7.heap.size := Q7.out.lt
  have cv1 : w7.cell? ⟨gv, n2 + 1, none⟩ = some (.int .u32 (lv.getD (n2 + 1) 0 : Int)) := (K7.out.cell (p := ⟨gv, n2 + 1, none⟩) gvl).trans (CV.out _ (by omega))
  have cv2 : w7.cell? ⟨gv, n2, none⟩ = some (.int .u32 (lv.getD n2 0 : Int)) := (K7.out.cell (p := ⟨gv, n2, none⟩) gvl).trans (CV.out _ (by omega))
  have sv1 := List.getD_lt_of SV.out (n2 + 1)
  have sv2 := List.getD_lt_of SV.out n2
  obtain ⟨top, gtop⟩ : ∃ top, top = lv.getD (n2 + 1) 0 := ⟨_, rfl⟩
  obtain ⟨nxt, gnxt⟩ : ∃ nxt, nxt = lv.getD n2 0 := ⟨_, rfl⟩
  rw [← gtop] at cv1 sv1 hv31
  rw [← gnxt] at cv2 sv2
  have HTOP : Hid (top = lv.getD (n2 + 1) 0) := gtop
  have HNXT : Hid (nxt = lv.getD n2 0) := gnxt
  have HST : Hid (MathE.KS (a * 2 ^ s) (val lv) (n2 + 2) m (m + 1) ((lx ++ List.replicate (la.length + 2 - lx.length) 0).take (m + 1)) ((lx ++ List.replicate (la.length + 2 - lx.length) 0).drop (m + 1)) []) := by
    refine MathE.ks_start (by simp; omega) ?_ ?_ ?_ (by omega) ?_
    · intro x hx; rw [List.mem_append] at hx; rcases hx with hx | hx
      · exact SX.out x hx
      · rw [List.eq_of_mem_replicate hx]; omega
    · rw [val_zeros]; exact VX.out
    · rw [← VX.out]
      refine Nat.lt_of_lt_of_le (val_lt lx SX.out) (pw_le ?_)
      omega
    · have e := MathE.two_tops lv n2 HLEN.out
      rw [← gtop, ← gnxt] at e
      rw [e, show n2 + 2 - 1 = n2 + 1 by omega]
      show 4294967296 * pw n2 ≤ _
      have := Nat.mul_le_mul_right (pw n2) (show 4294967296 ≤ top * 4294967296 + nxt by omega)
      omega
  have R8 : Hid (Row w7 w3.heap.size ((lx ++ List.replicate (la.length + 2 - lx.length) 0).take (m + 1) ++ ((lx ++ List.replicate (la.length + 2 - lx.length) 0).drop (m + 1) ++ List.replicate 0 0))) := by
    have := R7.out
    show Row _ _ _
    simpa using this
  clear hown7 hgrow7 k7 R6 K6 R7 gtop gnxt hi hz0 hz1 hz2 em HM HN HAl SB TB VB HBI SX VX hlx
  generalize (lx ++ List.replicate (la.length + 2 - lx.length) 0).take (m + 1) = P0 at *
  generalize (lx ++ List.replicate (la.length + 2 - lx.length) 0).drop (m + 1) = Y0 at *
  go_wp2
  go_quiet (fail)
  generalize hw8 : w7.drewN nq = w8
  have R8' : Hid (Row w8 w3.heap.size (P0 ++ (Y0 ++ List.replicate 0 0))) := by rw [← hw8]; exact R8.out
  have Q8 : Hid (Row w8 w6.heap.size (List.replicate (m + 1) 0)) := by rw [← hw8]; exact Q7.out
  have K8 : Hid (Below w3.heap.size w3 w8) := by rw [← hw8]; exact below_drewN' K7.out
  clear hw8 R8 Q7 K7 cv1 cv2 z7 z4
  go_wp2
  go_loopw [18] (fun jv wr => ∃ (k : Nat) (P Y Q : List Nat), k ≤ m + 1 ∧ jv = .int .i64 ((k : Int) - 1) ∧ MathE.KS (a * 2 ^ s) (val lv) (n2 + 2) m k P Y Q ∧ Row wr w3.heap.size (P ++ (Y ++ List.replicate (m + 1 - k) 0)) ∧ Row wr w6.heap.size (List.replicate k 0 ++ Q) ∧ Below w3.heap.size w3 wr) (fun jv _ => (intOf jv + 1).toNat)
  case atStart => exact ⟨m + 1, P0, Y0, [], Nat.le_refl _, by go_num, HST.out, by simpa using R8'.out, by simpa using Q8.out, K8.out⟩
  case round =>
    clear HST R8' Q8 K8
    obtain ⟨k, P, Y, Q, hk, hjv, hks, hru, hrq, hbl⟩ := hrel
    have KSx : Hid (MathE.KS (a * 2 ^ s) (val lv) (n2 + 2) m k P Y Q) := hks
    have RU : Hid (Row wr w3.heap.size (P ++ (Y ++ List.replicate (m + 1 - k) 0))) := hru
    have RQ : Hid (Row wr w6.heap.size (List.replicate k 0 ++ Q)) := hrq
    have KB : Hid (Below w3.heap.size w3 wr) := hbl
    clear hks hru hrq hbl
    by_cases h0 : k = 0
    · subst h0
      subst hjv
      obtain rfl : P = [] := List.length_eq_zero_iff.1 KSx.out.lp
      obtain ⟨f1, f2⟩ := ks_end KSx.out
      rw [VV.out] at f1 f2
      obtain ⟨f3, f4⟩ := MathB.unshifted a b s _ _ f1 f2
      have HF3 : Hid (val Q = a / b) := f3.symm
      have HF4 : Hid (val Y / 2 ^ s = a % b) := f4.symm
      have hlq : Q.length = m + 1 := KSx.out.lq
      have HSQ : Hid (Sl wr (.slice (some ⟨w6.heap.size, 0, none⟩) (m + 1) (m + 1)) Q) := by
        have h : Row wr w6.heap.size Q := by simpa using RQ.out
        have h2 := h.sl KSx.out.sq
        rw [hlq] at h2
        exact h2
      have hly : (Y ++ List.replicate (m + 1) 0).length = la.length + 2 := by simp [KSx.out.ly]; omega
      have HSU : Hid (Sl wr (.slice (some ⟨w3.heap.size, 0, none⟩) (la.length + 2) (la.length + 2)) (Y ++ List.replicate (m + 1) 0)) := by
        have h : Row wr w3.heap.size (Y ++ List.replicate (m + 1) 0) := by simpa using RU.out
        have h2 := h.sl (fun x hx => by
          rw [List.mem_append] at hx
          rcases hx with hx | hx
          · exact KSx.out.sy x hx
          · rw [List.eq_of_mem_replicate hx]; omega)
        rw [hly] at h2
        exact h2
      have HYL : Hid (val Y < pw (n2 + 2)) := by have h := val_lt Y KSx.out.sy; rw [KSx.out.ly] at h; exact h
      have z9 := K3.out.size
      have z8 := KB.out.size
      clear f1 f2 f3 f4 RU RQ
      go_wp2_with fail
      refine (trim_any Q _ _ (by omega) HSQ.out).mono ?_
      rw [HF3.out]
      rintro e w1 ⟨s1, rfl, hn1, rfl⟩
      obtain ⟨qa, ql, qc, rfl, _⟩ := hn1.shape
      have HN1 : Hid (NS w1 (.slice qa ql qc) (a / b)) := hn1
      clear hn1
      go_wp2_with fail
      refine (trim_any (Y ++ List.replicate (m + 1) 0) _ _ (by omega) HSU.out).mono ?_
      rw [val_zeros]
      rintro e w2 ⟨s2, rfl, hn2, rfl⟩
      obtain ⟨ua, ul, uc, rfl, _⟩ := hn2.shape
      have HN2 : Hid (NS w2 (.slice ua ul uc) (val Y)) := hn2
      clear hn2
      go_wp2_with fail
      refine (rightW_any _ (val Y) s (n2 + 2) _ HN2.out HYL.out (by omega) (by omega)).mono ?_
      rw [HF4.out]
      rintro e w3' ⟨r, rfl, hn3, k3⟩
      obtain ⟨ra, rl, rc, rfl, _⟩ := hn3.shape
      go_wp2
      go_ret2
      exact ⟨_, _, rfl, HN1.out.below k3 (Nat.le_refl _), hn3, (K3.out.trans (KB.out.mono z9)).trans (k3.mono (by omega))⟩
    · obtain ⟨j, rfl⟩ : ∃ j, k = j + 1 := ⟨k - 1, by omega⟩
      have hjv2 := hjv.trans (show Value.int .i64 (((j + 1 : Nat) : Int) - 1) = Value.int .i64 (j : Int) from by congr 1; omega)
      subst hjv2
      clear hjv
      obtain ⟨P', X, xn, lP, lX, sP, sX, sxn, hcat, hWlt, hAeq⟩ := MathE.ks_window KSx.out
      have RU' : Hid (Row wr w3.heap.size (P' ++ (X ++ (xn :: List.replicate (m + 1 - (j + 1)) 0)))) := by
        have := RU.out
        rw [hcat] at this; exact this
      obtain ⟨hh1, hh2, hh3, hh4⟩ := MathE.guess_all HLEN.out lX SV.out sX hWlt (by rw [← HTOP.out]; exact hv31)
      rw [← HTOP.out, ← HNXT.out] at hh1 hh2 hh4
      have hjm : j ≤ m := by omega
      have hlenU : (P' ++ (X ++ (xn :: List.replicate (m + 1 - (j + 1)) 0))).length = la.length + 2 := by simp [lP, lX]; omega
      have cu0 : wr.cell? ⟨w3.heap.size, j + (n2 + 2), none⟩ = some (.int .u32 (xn : Int)) := by
        have := RU'.out.cell (j + (n2 + 2)) (by omega)
        rwa [MathD.getD_pos P' X xn _ j (n2 + 2) lP lX] at this
      have cu1 : wr.cell? ⟨w3.heap.size, j + (n2 + 1), none⟩ = some (.int .u32 (X.getD (n2 + 1) 0 : Int)) := by
        have := RU'.out.cell (j + (n2 + 1)) (by omega)
        rwa [getD_in P' X _ j (n2 + 1) lP (by omega)] at this
      have cu2 : wr.cell? ⟨w3.heap.size, j + n2, none⟩ = some (.int .u32 (X.getD n2 0 : Int)) := by
        have := RU'.out.cell (j + n2) (by omega)
        rwa [getD_in P' X _ j n2 lP (by omega)] at this
      have sx1 := List.getD_lt_of sX (n2 + 1)
      have sx2 := List.getD_lt_of sX n2
      obtain ⟨x1, gx1⟩ : ∃ x1, x1 = X.getD (n2 + 1) 0 := ⟨_, rfl⟩
      obtain ⟨x2, gx2⟩ : ∃ x2, x2 = X.getD n2 0 := ⟨_, rfl⟩
      rw [← gx1] at cu1 sx1 hh1 hh2 hh4
      rw [← gx2] at cu2 sx2 hh2 hh4
      clear gx1 gx2
      have eh := or_high xn x1 sxn sx1
      obtain ⟨h, gh⟩ : ∃ h, h = xn * 4294967296 + x1 := ⟨_, rfl⟩
      rw [← gh] at eh hh1 hh2 hh4
      have hhb : h < 18446744073709551616 := by omega
      obtain ⟨gs, ggs⟩ : ∃ gs, gs = (val X + pw (n2 + 2) * xn) / val lv := ⟨_, rfl⟩
      rw [← ggs] at hh2 hh3
      have HGS : Hid (gs = (val X + pw (n2 + 2) * xn) / val lv) := ggs
      have HH1 : Hid (h ≤ top * 4294967296 + nxt) := hh1
      have HH2 : Hid (gs * (top * 4294967296 + nxt) ≤ h * 4294967296 + x2) := hh2
      have HH4 : Hid (∀ q, q < 4294967296 → q * (top * 4294967296 + nxt) ≤ h * 4294967296 + x2 → q * val lv < val X + pw (n2 + 2) * xn + val lv) := hh4
      have HLP : Hid (P'.length = j) := lP
      have HLX : Hid (X.length = n2 + 2) := lX
      have HSP : Hid (∀ x ∈ P', x < 4294967296) := sP
      have HSX : Hid (∀ x ∈ X, x < 4294967296) := sX
      have HWL : Hid (val X + pw (n2 + 2) * xn < 4294967296 * val lv) := hWlt
      have HAE : Hid (a * 2 ^ s = val Q * (pw (j + 1) * val lv) + (val P' + pw j * (val X + pw (n2 + 2) * xn))) := hAeq
      have hq0 : h / top ≤ 8589934592 := quo_le hhb hv31
      have HK0 : Hid (MathD.Kg h top gs (h / top) (h % top)) := by
        refine ⟨by rw [Nat.mul_comm]; exact Nat.div_add_mod h top, ?_⟩
        have h1 := hh2
        rcases Nat.lt_or_ge (h / top) gs with c | c
        · exfalso
          rw [Nat.div_lt_iff_lt_mul (by omega)] at c
          have h2 : (h + 1) * 4294967296 ≤ gs * top * 4294967296 := Nat.mul_le_mul_right _ c
          have h3 : gs * (top * 4294967296 + nxt) = gs * top * 4294967296 + gs * nxt := by rw [Nat.mul_add, Nat.mul_assoc]
          rw [h3] at h1; omega
        · exact c
      have hr0 : h % top < top := Nat.mod_lt _ (by omega)
      have eq1 : (h : Int) / (top : Int) = ((h / top : Nat) : Int) := (Int.natCast_ediv ..).symm
      have er1 : (h : Int) % (top : Int) = ((h % top : Nat) : Int) := (Int.natCast_emod ..).symm
      have er2 : (h : Int).tmod (top : Int) = ((h % top : Nat) : Int) := (Int.tmod_eq_emod_of_nonneg (by omega)).trans er1
      obtain ⟨g0, gg0⟩ : ∃ g0, g0 = h / top := ⟨_, rfl⟩
      obtain ⟨r0, gr0⟩ : ∃ r0, r0 = h % top := ⟨_, rfl⟩
      rw [← gg0] at hq0 HK0 eq1
      rw [← gr0] at hr0 HK0 er1 er2
      have ew : IntKind.u64.wrap (g0 : Int) = (g0 : Int) := wrapN g0 (by omega)
      have hhI : (h : Int) ≤ 18446744073709551615 := by omega
      have hqI : (g0 : Int) ≤ 8589934592 := by omega
      have tt : ((top : Int) == 0) = false := beq_eq_false_iff_ne.2 (by omega)
      have hfz : wr.frozen? ⟨w3.heap.size, j, none⟩ = false := RU'.out.frozen j
      clear hcat hWlt hAeq hh1 hh2 hh4 gh ggs gg0 gr0 lP lX sP sX hlenU hhb
      go_wp2
      go_quiet (fail)
      generalize hw9 : wr.drewN nq = w9
      have cu2' : w9.cell? ⟨w3.heap.size, j + n2, none⟩ = some (.int .u32 (x2 : Int)) := by rw [← hw9]; exact cu2
      have RU9 : Hid (Row w9 w3.heap.size (P' ++ (X ++ (xn :: List.replicate (m + 1 - (j + 1)) 0)))) := by rw [← hw9]; exact RU'.out
      have RQ9 : Hid (Row w9 w6.heap.size (List.replicate (j + 1) 0 ++ Q)) := by rw [← hw9]; exact RQ.out
      have KB9 : Hid (Below w3.heap.size w3 w9) := by rw [← hw9]; exact below_drewN' KB.out
      clear hw9 cu0 cu1 cu2 RU RU' RQ KB hfz
      go_wp2
      go_quiet (fail)
      generalize hw10 : w9.drewN nq = w10
      have cu2 : w10.cell? ⟨w3.heap.size, j + n2, none⟩ = some (.int .u32 (x2 : Int)) := by rw [← hw10]; exact cu2'
      have RU : Hid (Row w10 w3.heap.size (P' ++ (X ++ (xn :: List.replicate (m + 1 - (j + 1)) 0)))) := by rw [← hw10]; exact RU9.out
      have RQ : Hid (Row w10 w6.heap.size (List.replicate (j + 1) 0 ++ Q)) := by rw [← hw10]; exact RQ9.out
      have KB : Hid (Below w3.heap.size w3 w10) := by rw [← hw10]; exact below_drewN' KB9.out
      have cu2b : w10.cell? ⟨w3.heap.size, j + (n2 + 2) - 2, none⟩ = some (.int .u32 (x2 : Int)) := cu2
      clear hw10 cu2' RU9 RQ9 KB9
      go_upto_block 2 with fail
      go_cut [20, 21] from 109 to 266 (fun gv _ wx => ∃ g : Nat, gv = .int .u64 g ∧ Hid (gs ≤ g ∧ g < 4294967296 ∧ g * (top * 4294967296 + nxt) ≤ h * 4294967296 + x2) ∧ wx = w10)
      case first =>
        go_wp2_with fail
        go_loop [20, 21] (fun gv rv => ∃ q r : Nat, gv = .int .u64 q ∧ rv = .int .u64 r ∧ Hid (MathD.Kg h top gs q r ∧ r < 4294967296 ∧ q ≤ 8589934592)) (fun gv _ => (intOf gv).toNat)
        case atStart => exact ⟨g0, r0, rfl, rfl, ⟨HK0.out, by omega, hq0⟩⟩
        case round =>
          clear HK0 eq1 er1 er2 ew hqI hhI hr0 hq0 eh tt
          obtain ⟨q, r, rfl, rfl, hd0⟩ := hrel
          obtain ⟨hd, hr, hq4⟩ := hd0.out
          have HQ : Hid (MathD.Kg h top gs q r) := hd
          clear hd0 hd
          by_cases hA : 4294967296 ≤ q
          · obtain ⟨p1, p2⟩ := MathD.kg_step HQ.out hh3 HH2.out (Or.inl hA)
            have HQ' : Hid (MathD.Kg h top gs (q - 1) (r + top)) := p2
            have hA' : decide ((4294967295 : Int) < (q : Int)) = true := by simp; omega
            clear p2 hA HQ
            by_cases hB : 4294967296 ≤ r + top
            · have hB' : decide ((4294967295 : Int) < (r : Int) + (top : Int)) = true := by simp; omega
              have E1 := MathD.kg_end (n := x2) HQ'.out HH1.out sv2 (Or.inr hB)
              obtain ⟨k1, gk⟩ : ∃ k1, k1 = q - 1 := ⟨_, rfl⟩
              rw [← gk] at E1
              have HE : Hid (gs ≤ k1 ∧ k1 < 4294967296 ∧ k1 * (top * 4294967296 + nxt) ≤ h * 4294967296 + x2) := E1
              have ek : (q : Int) - 1 = (k1 : Int) := by omega
              clear hB gk HQ' E1
              go_wp2
              go_meet
              exact ⟨k1, rfl, HE, rfl⟩
            · have hB' : decide ((4294967295 : Int) < (r : Int) + (top : Int)) = false := by simp; omega
              have HBn : Hid (¬ 4294967296 ≤ r + top) := hB
              clear hB
              go_wp2
              go_round
              case rel => exact ⟨q - 1, r + top, by go_num, by go_num, ⟨HQ'.out, by have := HBn.out; omega, by omega⟩⟩
              case measure => simp [intOf]; omega
          · have hvb := prod_leI2 q nxt (by omega) sv2
            have hA' : decide ((4294967295 : Int) < (q : Int)) = false := by simp; omega
            have eo := or_high r x2 hr sx2
            have hre : Hid (¬ 4294967296 ≤ q) := hA
            obtain ⟨rx, grx⟩ : ∃ rx, rx = r * 4294967296 + x2 := ⟨_, rfl⟩
            rw [← grx] at eo
            have HRX : Hid (4294967296 * r + x2 = rx) := by show _ = _; rw [grx, Nat.mul_comm]
            clear hA grx
            by_cases hC : rx < q * nxt
            · obtain ⟨p1, p2⟩ := MathD.kg_step HQ.out hh3 HH2.out (Or.inr (by rw [HRX.out]; exact hC))
              have HQ' : Hid (MathD.Kg h top gs (q - 1) (r + top)) := p2
              have hC' : decide ((rx : Int) < (q : Int) * (nxt : Int)) = true := dec_true hC
              clear p2 hC HQ hre
              by_cases hB : 4294967296 ≤ r + top
              · have hB' : decide ((4294967295 : Int) < (r : Int) + (top : Int)) = true := by simp; omega
                have E1 := MathD.kg_end (n := x2) HQ'.out HH1.out sv2 (Or.inr hB)
                obtain ⟨k1, gk⟩ : ∃ k1, k1 = q - 1 := ⟨_, rfl⟩
                rw [← gk] at E1
                have HE : Hid (gs ≤ k1 ∧ k1 < 4294967296 ∧ k1 * (top * 4294967296 + nxt) ≤ h * 4294967296 + x2) := E1
                have ek : (q : Int) - 1 = (k1 : Int) := by omega
                clear hB gk HQ' E1
                go_wp2
                go_meet
                exact ⟨k1, rfl, HE, rfl⟩
              · have hB' : decide ((4294967295 : Int) < (r : Int) + (top : Int)) = false := by simp; omega
                have HBn : Hid (¬ 4294967296 ≤ r + top) := hB
                clear hB
                go_wp2
                go_round
                case rel => exact ⟨q - 1, r + top, by go_num, by go_num, ⟨HQ'.out, by have := HBn.out; omega, by omega⟩⟩
                case measure => simp [intOf]; omega
            · have hC' : decide ((rx : Int) < (q : Int) * (nxt : Int)) = false := dec_false hC
              have E1 := MathD.kg_end (n := x2) HQ.out HH1.out sv2 (Or.inl ⟨Nat.lt_of_not_le hre.out, by rw [HRX.out]; exact Nat.le_of_not_lt hC⟩)
              have HE : Hid (gs ≤ q ∧ q < 4294967296 ∧ q * (top * 4294967296 + nxt) ≤ h * 4294967296 + x2) := E1
              clear hC HQ hre E1
              go_wp2
              go_meet
              exact ⟨q, rfl, HE, rfl⟩
      case rest =>
        obtain ⟨g, rfl, HG, rfl⟩ := hcut
        have hg32 : g < 4294967296 := HG.out.2.1
        go_wp2_with fail
        go_loopw [22, 23, 24] (fun cv dv iv wx => ∃ (i c d : Nat) (Y3 : List Nat), i ≤ n2 + 2 ∧ iv = .int .i64 i ∧ cv = .int .u64 c ∧ dv = .int .u64 d ∧ c < 4294967296 ∧ d ≤ 1 ∧ Hid (Y3.length = i ∧ (∀ x ∈ Y3, x < 4294967296) ∧ val Y3 + g * val (lv.take i) = val (X.take i) + pw i * (c + d) ∧ Row wx w3.heap.size (P' ++ (Y3 ++ (X.drop i ++ (xn :: List.replicate (m + 1 - (j + 1)) 0)))) ∧ Row wx w6.heap.size (List.replicate (j + 1) 0 ++ Q) ∧ Below w3.heap.size w3 wx)) (fun _ _ iv _ => n2 + 2 - (intOf iv).toNat)
        case atStart => exact ⟨0, 0, 0, [], Nat.zero_le _, rfl, rfl, rfl, by omega, by omega, rfl, by simp, by simp [val], by simpa using RU.out, RQ.out, KB.out⟩
        case round =>
          clear HK0 eq1 er1 er2 ew hqI hhI hr0 hq0 eh tt cu2 cu2b RU RQ KB
          obtain ⟨i, c, d, Y3, hi, rfl, rfl, rfl, hc, hd, HR0⟩ := hrel
          have HY3 : Hid (Y3.length = i) := HR0.out.1
          have HS3 : Hid (∀ x ∈ Y3, x < 4294967296) := HR0.out.2.1
          have HV3 : Hid (val Y3 + g * val (lv.take i) = val (X.take i) + pw i * (c + d)) := HR0.out.2.2.1
          have HR3 : Hid (Row wr w3.heap.size (P' ++ (Y3 ++ (X.drop i ++ (xn :: List.replicate (m + 1 - (j + 1)) 0))))) := HR0.out.2.2.2.1
          have HQ3 : Hid (Row wr w6.heap.size (List.replicate (j + 1) 0 ++ Q)) := HR0.out.2.2.2.2.1
          have HB3 : Hid (Below w3.heap.size w3 wr) := HR0.out.2.2.2.2.2
          clear HR0
          by_cases hin : i < n2 + 2
          · have HR3' : Hid (Row wr w3.heap.size (P' ++ (Y3 ++ (X.getD i 0 :: (X.drop (i + 1) ++ (xn :: List.replicate (m + 1 - (j + 1)) 0)))))) := by
              have h := HR3.out
              rw [drop_cons X i (by rw [HLX.out]; exact hin)] at h
              exact h
            have sx := List.getD_lt_of HSX.out i
            have sy := List.getD_lt_of SV.out i
            have cv0 : wr.cell? ⟨gv, i, none⟩ = some (.int .u32 (lv.getD i 0 : Int)) := (HB3.out.cell (p := ⟨gv, i, none⟩) gvl).trans (CV.out _ (by omega))
            obtain ⟨x, hx⟩ : ∃ x, x = X.getD i 0 := ⟨_, rfl⟩
            obtain ⟨y, hy⟩ : ∃ y, y = lv.getD i 0 := ⟨_, rfl⟩
            rw [← hx] at sx HR3'
            rw [← hy] at sy cv0
            have HX : Hid (x = X.getD i 0) := hx
            have HY : Hid (y = lv.getD i 0) := hy
            have cr : wr.cell? ⟨w3.heap.size, i + j, none⟩ = some (.int .u32 (x : Int)) := by
              have h := HR3'.out.cell (i + j) (by have h1 := HY3.out; have h2 := HLP.out; simp; omega)
              rwa [getD_pos' P' Y3 x _ j i HLP.out HY3.out] at h
            have fr : wr.frozen? ⟨w3.heap.size, i + j, none⟩ = false := HR3'.out.frozen (i + j)
            have hxy := prod_leI g y hg32 sy
            clear hx hy HR3
            go_wp2
            go_roundw
            case rel =>
              have hprod : (c : Int) + (g : Int) * (y : Int) = ((c + g * y : Nat) : Int) := by simp
              have hlow : ((c + g * y : Nat) : Int) % 4294967296 = (((c + g * y) % 4294967296 : Nat) : Int) := (Int.natCast_emod ..).symm
              obtain ⟨z, d2, h1, h2, h3, h4, h5⟩ := take_digit x ((c + g * y) % 4294967296) d sx (Nat.mod_lt _ (by omega)) hd
              rw [hprod, hlow, h4]
              refine ⟨i + 1, (c + g * y) / 4294967296, d2, Y3 ++ [z], by omega, by go_num, ?_, rfl, ?_, h1, by simp [HY3.out], mem_snoc HS3.out h2, ?_, ?_, ?_, ?_⟩
              · congr 1
              · have h6 := hxy.2
                rw [← Int.natCast_mul] at h6
                omega
              · rw [val_take_succ lv i, val_take_succ X i, ← HX.out, ← HY.out]
                exact MathD.take_step Y3 i g c d x y z d2 _ _ HY3.out HV3.out h3
              · have h := HR3'.out.set (i + j) _ z h5
                rwa [set_pos' P' Y3 x z _ j i HLP.out HY3.out] at h
              · exact HQ3.out.other _ _ _ (by omega)
              · exact HB3.out.setCell (Nat.le_refl _) _
            case measure => simp [intOf]; omega
          · obtain rfl : i = n2 + 2 := by omega
            have HV4 : Hid (val Y3 + g * val lv = val X + pw (n2 + 2) * (c + d)) := by
              have h := HV3.out
              rw [List.take_of_length_le (by rw [HLEN.out]; exact Nat.le_refl _), List.take_of_length_le (by rw [HLX.out]; exact Nat.le_refl _)] at h
              exact h
            have HR4 : Hid (Row wr w3.heap.size (P' ++ (Y3 ++ (xn :: List.replicate (m + 1 - (j + 1)) 0)))) := by
              have h := HR3.out
              rw [List.drop_eq_nil_of_le (by rw [HLX.out]; exact Nat.le_refl _)] at h
              exact h
            have cr : wr.cell? ⟨w3.heap.size, j + (n2 + 2), none⟩ = some (.int .u32 (xn : Int)) := by
              have h := HR4.out.cell (j + (n2 + 2)) (by have h1 := HY3.out; have h2 := HLP.out; simp; omega)
              rwa [MathD.getD_pos P' Y3 xn _ j (n2 + 2) HLP.out HY3.out] at h
            have fr : wr.frozen? ⟨w3.heap.size, j + (n2 + 2), none⟩ = false := HR4.out.frozen _
            have cq : wr.cell? ⟨w6.heap.size, j, none⟩ = some (.int .u32 0) := by
              have h := HQ3.out.cell j (by simp; omega)
              have e : (List.replicate (j + 1) 0 ++ Q).getD j 0 = 0 := by
                rw [List.getD_eq_getElem?_getD, List.getElem?_append_left (by simp), List.getElem?_replicate]
                simp
              rw [e] at h
              exact h
            have fq : wr.frozen? ⟨w6.heap.size, j, none⟩ = false := HQ3.out.frozen _
            have HVn : Hid (val lv < pw (n2 + 2)) := by have h := val_lt lv SV.out; rw [HLEN.out] at h; exact h
            have hV0 : 0 < val lv := by
              rcases Nat.eq_zero_or_pos (val lv) with e | e
              · have h := HWL.out
                rw [e] at h
                omega
              · exact e
            have HQF : Hid (val X + pw (n2 + 2) * xn < (gs + 1) * val lv ∧ gs * val lv ≤ val X + pw (n2 + 2) * xn) := quot_facts hV0 HGS.out
            clear HV3 HR3
            by_cases hge : c + d ≤ xn
            · obtain ⟨e1, e2, e3, e4⟩ := MathD.take_right HV4.out rfl HVn.out hge HG.out.1 HQF.out.1 HQF.out.2
              have hcx : c ≤ xn := by omega
              have hxI : (xn : Int) - (c : Int) - (d : Int) = 0 := by omega
              have HE3 : Hid (val Y3 + gs * val lv = val X + pw (n2 + 2) * xn) := by
                have h := HQF.out.2
                show _ = _
                rw [e3]; exact Nat.sub_add_cancel h
              have HE4 : Hid (val Y3 < val lv) := e4
              have HGG : Hid (g = gs) := e2
              clear e1 e2 e3 e4 hge
              go_wp2
              go_roundw
              case rel =>
                refine ⟨j, P', Y3, gs :: Q, by omega, rfl, MathE.ks_next KSx.out HLP.out HSP.out HAE.out HY3.out HS3.out HE3.out HE4.out hh3, ?_, ?_, ?_⟩
                · have h := HR4.out.set (j + (n2 + 2)) 0 0 rfl
                  rw [MathD.set_pos P' Y3 xn 0 _ j (n2 + 2) HLP.out HY3.out, app_zero, show m + 1 - (j + 1) + 1 = m + 1 - j by omega] at h
                  exact h.other _ _ _ (by omega)
                · have h := (HQ3.out.other w3.heap.size (j + (n2 + 2)) (.int .u32 0) (by omega)).set j (g : Int) gs (by rw [HGG.out])
                  rw [set_rep] at h
                  exact h
                · exact (HB3.out.setCell (Nat.le_refl _) _).setCell (Nat.le_of_lt z6) _
              case measure => simp [intOf]
            · obtain ⟨z, z1, z2, z3, z4⟩ := top_neg xn c d sxn hc hd (by omega)
              have hg1 : 1 ≤ g := by
                rcases Nat.eq_zero_or_pos g with e | e
                · exfalso
                  have h := HV4.out
                  rw [e, Nat.zero_mul] at h
                  have h1 := val_lt Y3 HS3.out
                  rw [HY3.out] at h1
                  have h2 : pw (n2 + 2) * 1 ≤ pw (n2 + 2) * (c + d) := Nat.mul_le_mul_left _ (by omega)
                  omega
                · exact e
              obtain ⟨g1, hg1e⟩ : ∃ g1, g = g1 + 1 := ⟨g - 1, by omega⟩
              have eg : (g : Int) - 1 = (g1 : Int) := by omega
              have HLT : Hid (xn < c + d) := Nat.lt_of_not_le hge
              have HZ2 : Hid (z + (c + d) = xn + 4294967296) := z2
              have cr1 : (wr.setCell ⟨w3.heap.size, j + (n2 + 2), none⟩ (.int .u32 (z : Int))).frozen? ⟨w6.heap.size, j, none⟩ = false := (HQ3.out.other _ _ _ (by omega)).frozen _
              have HR5 : Hid (Row (wr.setCell ⟨w3.heap.size, j + (n2 + 2), none⟩ (.int .u32 (z : Int))) w3.heap.size (P' ++ (Y3 ++ (z :: List.replicate (m + 1 - (j + 1)) 0)))) := by
                have h := HR4.out.set (j + (n2 + 2)) (z : Int) z rfl
                rw [MathD.set_pos P' Y3 xn z _ j (n2 + 2) HLP.out HY3.out, List.append_assoc] at h
                exact h
              have HQ5 : Hid (Row (wr.setCell ⟨w3.heap.size, j + (n2 + 2), none⟩ (.int .u32 (z : Int))) w6.heap.size (List.replicate (j + 1) 0 ++ Q)) := HQ3.out.other _ _ _ (by omega)
              have HB5 : Hid (Below w3.heap.size w3 (wr.setCell ⟨w3.heap.size, j + (n2 + 2), none⟩ (.int .u32 (z : Int)))) := HB3.out.setCell (Nat.le_refl _) _
              clear hge z2
              go_wp2
              clear z3 z4
              go_loopw [22, 27] (fun cv iv wx => ∃ (i k : Nat) (Z : List Nat), i ≤ n2 + 2 ∧ iv = .int .i64 i ∧ cv = .int .u64 k ∧ k ≤ 1 ∧ Hid (Z.length = i ∧ (∀ x ∈ Z, x < 4294967296) ∧ val Z + pw i * k = val (Y3.take i) + val (lv.take i) ∧ Row wx w3.heap.size (P' ++ (Z ++ (Y3.drop i ++ (z :: List.replicate (m + 1 - (j + 1)) 0)))) ∧ Row wx w6.heap.size (List.replicate (j + 1) 0 ++ Q) ∧ Below w3.heap.size w3 wx)) (fun _ iv _ => n2 + 2 - (intOf iv).toNat)
              case atStart => exact ⟨0, 0, [], Nat.zero_le _, rfl, rfl, by omega, rfl, by simp, by simp [val], by simpa using HR5.out, HQ5.out, HB5.out⟩
              case round =>
                clear HR5 HQ5 HB5 cr fr cq fq cr1 HR4 HQ3 HB3
                obtain ⟨i, k, Z, hi, rfl, rfl, hk1, HR0⟩ := hrel
                have HZL : Hid (Z.length = i) := HR0.out.1
                have HZS : Hid (∀ x ∈ Z, x < 4294967296) := HR0.out.2.1
                have HZV : Hid (val Z + pw i * k = val (Y3.take i) + val (lv.take i)) := HR0.out.2.2.1
                have HR6 : Hid (Row wr w3.heap.size (P' ++ (Z ++ (Y3.drop i ++ (z :: List.replicate (m + 1 - (j + 1)) 0))))) := HR0.out.2.2.2.1
                have HQ6 : Hid (Row wr w6.heap.size (List.replicate (j + 1) 0 ++ Q)) := HR0.out.2.2.2.2.1
                have HB6 : Hid (Below w3.heap.size w3 wr) := HR0.out.2.2.2.2.2
                clear HR0
                by_cases hin : i < n2 + 2
                · have HR6' : Hid (Row wr w3.heap.size (P' ++ (Z ++ (Y3.getD i 0 :: (Y3.drop (i + 1) ++ (z :: List.replicate (m + 1 - (j + 1)) 0)))))) := by
                    have h := HR6.out
                    rw [drop_cons Y3 i (by rw [HY3.out]; exact hin)] at h
                    exact h
                  have sx := List.getD_lt_of HS3.out i
                  have sy := List.getD_lt_of SV.out i
                  have cv0 : wr.cell? ⟨gv, i, none⟩ = some (.int .u32 (lv.getD i 0 : Int)) := (HB6.out.cell (p := ⟨gv, i, none⟩) gvl).trans (CV.out _ (by omega))
                  obtain ⟨x, hx⟩ : ∃ x, x = Y3.getD i 0 := ⟨_, rfl⟩
                  obtain ⟨y, hy⟩ : ∃ y, y = lv.getD i 0 := ⟨_, rfl⟩
                  rw [← hx] at sx HR6'
                  rw [← hy] at sy cv0
                  have HX : Hid (x = Y3.getD i 0) := hx
                  have HY : Hid (y = lv.getD i 0) := hy
                  have cr : wr.cell? ⟨w3.heap.size, i + j, none⟩ = some (.int .u32 (x : Int)) := by
                    have h := HR6'.out.cell (i + j) (by have h1 := HZL.out; have h2 := HLP.out; simp; omega)
                    rwa [getD_pos' P' Z x _ j i HLP.out HZL.out] at h
                  have fr : wr.frozen? ⟨w3.heap.size, i + j, none⟩ = false := HR6'.out.frozen (i + j)
                  clear hx hy HR6
                  go_wp2
                  go_quiet (fail)
                  go_wp2
                  go_roundw
                  case rel =>
                    have hs : (k : Int) + ((x : Int) + (y : Int)) = ((k + x + y : Nat) : Int) := by omega
                    rw [hs]
                    refine ⟨i + 1, (k + x + y) / 4294967296, Z ++ [(k + x + y) % 4294967296], by omega, by go_num, by congr 1, by omega, by simp [HZL.out], mem_snoc HZS.out (Nat.mod_lt _ (by omega)), ?_, ?_, ?_, ?_⟩
                    · rw [val_take_succ Y3 i, val_take_succ lv i, ← HX.out, ← HY.out]
                      have h := carry_step Z i k _ _ x y HZL.out HZV.out rfl
                      omega
                    · have h := (HR6'.out.drewN (n := nq)).set (i + j) (((k + x + y : Nat) : Int) % 4294967296) ((k + x + y) % 4294967296) (Int.natCast_emod ..).symm
                      rw [set_pos' P' Z x _ _ j i HLP.out HZL.out] at h
                      exact h
                    · exact (HQ6.out.drewN).other _ _ _ (by omega)
                    · exact (below_drewN' HB6.out).setCell (Nat.le_refl _) _
                  case measure => simp [intOf]; omega
                · obtain rfl : i = n2 + 2 := by omega
                  have HB7 : Hid (val Y3 + val lv = val Z + pw (n2 + 2) * k) := by
                    have h := HZV.out
                    rw [List.take_of_length_le (by rw [HY3.out]; exact Nat.le_refl _), List.take_of_length_le (by rw [HLEN.out]; exact Nat.le_refl _)] at h
                    exact h.symm
                  have HR7 : Hid (Row wr w3.heap.size (P' ++ (Z ++ (z :: List.replicate (m + 1 - (j + 1)) 0)))) := by
                    have h := HR6.out
                    rw [List.drop_eq_nil_of_le (by rw [HY3.out]; exact Nat.le_refl _)] at h
                    exact h
                  have hy3 : val Y3 < pw (n2 + 2) := by have h := val_lt Y3 HS3.out; rwa [HY3.out] at h
                  have hzz : val Z < pw (n2 + 2) := by have h := val_lt Z HZS.out; rwa [HZL.out] at h
                  obtain ⟨e1, e2, e3, e4⟩ := MathD.take_back HV4.out rfl HVn.out HLT.out hy3 HG.out.1 (HH4.out g hg32 HG.out.2.2) HQF.out.1 HQF.out.2 HB7.out hzz
                  have ez0 : z + k = 4294967296 := by have h := HZ2.out; omega
                  have ez : IntKind.u32.wrap ((z : Int) + (k : Int)) = 0 := by simp only [IntKind.wrap_u32]; omega
                  have ez2 : ((z : Int) + (k : Int)) % 4294967296 = 0 := by omega
                  have HE3 : Hid (val Z + gs * val lv = val X + pw (n2 + 2) * xn) := by
                    have h := HQF.out.2
                    show _ = _
                    rw [e3]; exact Nat.sub_add_cancel h
                  have HE4 : Hid (val Z < val lv) := e4
                  have HGG : Hid (g1 = gs) := by show _ = _; omega
                  have hg1b : g1 < 4294967296 := by omega
                  have cr : wr.cell? ⟨w3.heap.size, j + (n2 + 2), none⟩ = some (.int .u32 (z : Int)) := by
                    have h := HR7.out.cell (j + (n2 + 2)) (by have h1 := HZL.out; have h2 := HLP.out; simp; omega)
                    rwa [MathD.getD_pos P' Z z _ j (n2 + 2) HLP.out HZL.out] at h
                  have fr : wr.frozen? ⟨w3.heap.size, j + (n2 + 2), none⟩ = false := HR7.out.frozen _
                  have cq : wr.cell? ⟨w6.heap.size, j, none⟩ = some (.int .u32 0) := by
                    have h := HQ6.out.cell j (by simp; omega)
                    have e : (List.replicate (j + 1) 0 ++ Q).getD j 0 = 0 := by
                      rw [List.getD_eq_getElem?_getD, List.getElem?_append_left (by simp), List.getElem?_replicate]
                      simp
                    rw [e] at h
                    exact h
                  have fq : wr.frozen? ⟨w6.heap.size, j, none⟩ = false := HQ6.out.frozen _
                  clear e1 e2 e3 e4 hy3 hzz HR6
                  go_wp2
                  go_roundw
                  case rel =>
                    refine ⟨j, P', Z, gs :: Q, by omega, rfl, MathE.ks_next KSx.out HLP.out HSP.out HAE.out HZL.out HZS.out HE3.out HE4.out hh3, ?_, ?_, ?_⟩
                    · have h := HR7.out.set (j + (n2 + 2)) 0 0 rfl
                      rw [MathD.set_pos P' Z z 0 _ j (n2 + 2) HLP.out HZL.out, app_zero, show m + 1 - (j + 1) + 1 = m + 1 - j by omega] at h
                      exact h.other _ _ _ (by omega)
                    · have h := (HQ6.out.other w3.heap.size (j + (n2 + 2)) (.int .u32 0) (by omega)).set j (g1 : Int) gs (by rw [HGG.out])
                      rw [set_rep] at h
                      exact h
                    · exact (HB6.out.setCell (Nat.le_refl _) _).setCell (Nat.le_of_lt z6) _
                  case measure => simp [intOf]
theorem div_any (s t : Value) (a b m n : Nat) (w : World) (ha : NS w s a) (hb : NS w t b) (hm : a < pw m) (hn : b < pw n) (hm' : m ≤ 100000000) (hn' : n ≤ 100000000) (hb0 : 0 < b) :
    Calls Tryz.prog 88 #[s, t] w fun e w' => ∃ q r, e = .returned (.tuple #[q, r]) ∧ NS w' q (a / b) ∧ NS w' r (a % b) ∧ Below w.heap.size w w' := by
  by_cases h1 : a < b
  · exact div_less s t a b m n w ha hb hm hn hm' hn' h1
  · by_cases h2 : a < 18446744073709551616
    · exact div_short s t a b m n w ha hb hm hn hm' hn' (by omega) hb0 h2
    · by_cases h3 : b < 4294967296
      · exact div_word s t a b m n w ha hb hm hn hm' hn' (by omega) hb0 h2 h3
      · exact div_knuth s t a b m n w ha hb hm hn hm' hn' (by omega) h2 h3
end Go.Proofs.YtcnfhndejkngkaaGreatDoor
