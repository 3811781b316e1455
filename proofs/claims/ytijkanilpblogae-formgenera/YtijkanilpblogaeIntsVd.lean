import Derived.Test.YtijkanilpblogaeWholeF
import Derived.Test.YtijkanilpblogaeBigB
import Derived.Test.YtijkanilpblogaeFormGe
import Derived.Test.YtijkanilpblogaeFormCom
import Derived.Test.YtijkanilpblogaeFormClassesWalk
import Derived.Test.YtijkanilpblogaeQfVd
import Derived.Test.YtijkanilpblogaeQfY
section
/- The reference's Ints: two lists of numbers that are the same. -/
set_option linter.unusedSimpArgs false
set_option linter.unusedVariables false
set_option maxRecDepth 100000
namespace Go.Proofs.Ytijkanilpblogae
open Go.RowKit

set_option maxHeartbeats 1000000 in
theorem refInts_same (s t : Value) (xs : List Int) (w : World) (hs : IS w s xs) (ht : IS w t xs) (hl : xs.length ≤ 9000000000000000000) :
    Calls Try.prog 22 #[s, t] w fun e w' => e = .returned (.bool true) ∧ ∃ q, w' = w.drewN q := by
  obtain ⟨a1, g1, o1, c1, rfl, p1, cell1, lt1⟩ := hs.shape
  obtain ⟨a2, g2, o2, c2, rfl, p2, cell2, lt2⟩ := ht.shape
  clear hs ht
  have P1 : Hid (0 < xs.length → a1 = some ⟨g1, o1, none⟩) := p1
  have P2 : Hid (0 < xs.length → a2 = some ⟨g2, o2, none⟩) := p2
  have C1 : Hid (∀ i, i < xs.length → w.cell? ⟨g1, o1 + i, none⟩ = some (.int .i64 (xs.getD i 0))) := cell1
  have C2 : Hid (∀ i, i < xs.length → w.cell? ⟨g2, o2 + i, none⟩ = some (.int .i64 (xs.getD i 0))) := cell2
  clear p1 p2 cell1 cell2 lt1 lt2
  go_enter Try.func22, Try.ntmps22
  go_wp2
  go_loopw [5] (fun iv wx => ∃ k : Nat, k ≤ xs.length ∧ iv = .int .i64 k ∧ Hid (∃ q, wx = w.drewN q)) (fun iv _ => xs.length - (intOf iv).toNat)
  case atStart => exact ⟨0, Nat.zero_le _, rfl, 0, rfl⟩
  case round =>
    obtain ⟨k, hk, rfl, HW⟩ := hrel
    by_cases hlt : k < xs.length
    · obtain rfl := P1.out (by omega)
      obtain rfl := P2.out (by omega)
      have q1 : wr.cell? ⟨g1, o1 + k, none⟩ = some (.int .i64 (xs.getD k 0)) := by obtain ⟨q, e⟩ := HW.out; rw [e]; exact C1.out k hlt
      have q2 : wr.cell? ⟨g2, o2 + k, none⟩ = some (.int .i64 (xs.getD k 0)) := by obtain ⟨q, e⟩ := HW.out; rw [e]; exact C2.out k hlt
      generalize xs.getD k 0 = x at q1 q2
      go_wp2
      go_quiet (fail)
      go_wp2
      go_roundw
      case rel => exact ⟨k + 1, by omega, by go_num, drewN_more HW.out _⟩
      case measure => simp [intOf]; omega
    · obtain rfl : k = xs.length := by omega
      go_wp2
      go_ret
      exact ⟨rfl, HW.out⟩

end Go.Proofs.Ytijkanilpblogae
end

section
/- The reference's Ints: two lists of numbers, whatever they are. -/
set_option linter.unusedSimpArgs false
set_option linter.unusedVariables false
set_option maxRecDepth 100000
namespace Go.Proofs.Ytijkanilpblogae
open Go.RowKit

theorem ext_getD {xs ys : List Int} (hl : xs.length = ys.length) (h : ∀ i, i < xs.length → xs.getD i 0 = ys.getD i 0) : xs = ys := by
  apply List.ext_getElem hl
  intro i h1 h2
  have := h i h1
  simpa [List.getD_eq_getElem?_getD, List.getElem?_eq_getElem h1, List.getElem?_eq_getElem h2] using this

set_option maxHeartbeats 1000000 in
theorem refInts_any (s t : Value) (xs ys : List Int) (w : World) (hs : IS w s xs) (ht : IS w t ys) (hl : xs.length ≤ 9000000000000000000) (hm : ys.length ≤ 9000000000000000000) :
    Calls Try.prog 22 #[s, t] w fun e w' => e = .returned (.bool (decide (xs = ys))) ∧ ∃ q, w' = w.drewN q := by
  obtain ⟨a1, g1, o1, c1, rfl, p1, cell1, lt1⟩ := hs.shape
  obtain ⟨a2, g2, o2, c2, rfl, p2, cell2, lt2⟩ := ht.shape
  clear hs ht
  have P1 : Hid (0 < xs.length → a1 = some ⟨g1, o1, none⟩) := p1
  have P2 : Hid (0 < ys.length → a2 = some ⟨g2, o2, none⟩) := p2
  have C1 : Hid (∀ i, i < xs.length → w.cell? ⟨g1, o1 + i, none⟩ = some (.int .i64 (xs.getD i 0))) := cell1
  have C2 : Hid (∀ i, i < ys.length → w.cell? ⟨g2, o2 + i, none⟩ = some (.int .i64 (ys.getD i 0))) := cell2
  clear p1 p2 cell1 cell2 lt1 lt2
  by_cases hlen : xs.length = ys.length
  · obtain ⟨bE, hE⟩ : ∃ b, decide (xs = ys) = b := ⟨_, rfl⟩
    have HE : Hid (decide (xs = ys) = bE) := hE
    have HLn : Hid (xs.length = ys.length) := hlen
    rw [hE]
    clear hE
    obtain ⟨n, hn⟩ : ∃ n, n = xs.length := ⟨_, rfl⟩
    have HNn : Hid (n = xs.length) := hn
    rw [← hlen, ← hn]
    rw [← hn] at hl
    clear hlen hm hn
    go_enter Try.func22, Try.ntmps22
    go_wp2
    go_loopw [5] (fun iv wx => ∃ k : Nat, k ≤ n ∧ iv = .int .i64 k ∧ Hid ((∀ i, i < k → xs.getD i 0 = ys.getD i 0) ∧ ∃ q, wx = w.drewN q)) (fun iv _ => n - (intOf iv).toNat)
    case atStart => exact ⟨0, Nat.zero_le _, rfl, fun i hi => by omega, 0, rfl⟩
    case round =>
      obtain ⟨k, hk, rfl, HW⟩ := hrel
      by_cases hlt : k < n
      · obtain rfl := P1.out (by have := HNn.out; omega)
        obtain rfl := P2.out (by have := HNn.out; have := HLn.out; omega)
        have q1 : wr.cell? ⟨g1, o1 + k, none⟩ = some (.int .i64 (xs.getD k 0)) := by obtain ⟨_, q, e⟩ := HW.out; rw [e]; exact C1.out k (by have := HNn.out; omega)
        have q2 : wr.cell? ⟨g2, o2 + k, none⟩ = some (.int .i64 (ys.getD k 0)) := by obtain ⟨_, q, e⟩ := HW.out; rw [e]; exact C2.out k (by have := HNn.out; have := HLn.out; omega)
        obtain ⟨u, hu⟩ : ∃ u, xs.getD k 0 = u := ⟨_, rfl⟩
        obtain ⟨v, hv⟩ : ∃ v, ys.getD k 0 = v := ⟨_, rfl⟩
        rw [hu] at q1
        rw [hv] at q2
        by_cases huv : u = v
        · subst huv
          have HN : Hid (∀ i, i < k + 1 → xs.getD i 0 = ys.getD i 0) := fun i hi => by
            by_cases h : i < k
            · exact HW.out.1 i h
            · obtain rfl : i = k := by omega
              rw [hu, hv]
          clear hu hv
          go_wp2
          go_quiet (fail)
          go_wp2
          go_roundw
          case rel => exact ⟨k + 1, by omega, by go_num, HN.out, drewN_more HW.out.2 _⟩
          case measure => simp [intOf]; omega
        · have hne : (u != v) = true := by simpa using huv
          obtain rfl : bE = false := by
            rw [← HE.out]
            apply decide_eq_false
            intro e
            rw [e] at hu
            exact huv (hu.symm.trans hv)
          clear hu hv huv
          go_wp2
          go_quiet (fail)
          go_wp2
          go_ret
          exact ⟨rfl, drewN_more HW.out.2 _⟩
      · obtain rfl : k = n := by omega
        obtain rfl : bE = true := by
          rw [← HE.out]
          apply decide_eq_true
          exact ext_getD HLn.out (fun i hi => HW.out.1 i (by have := HNn.out; omega))
        go_wp2
        go_ret
        exact ⟨rfl, HW.out.2⟩
  · have hb : ((xs.length : Int) != (ys.length : Int)) = true := by simp; omega
    rw [decide_eq_false (fun e => hlen (by rw [e]))]
    clear hlen
    go_enter Try.func22, Try.ntmps22
    go_wp2
    go_ret
    exact ⟨rfl, 0, rfl⟩

end Go.Proofs.Ytijkanilpblogae
end

section
/- Facts that FormGenera's walk wants: among them, that a form has the first genus just if it is a square. -/
set_option linter.unusedSimpArgs false
set_option linter.unusedVariables false
set_option maxRecDepth 100000
namespace Go.Proofs.Ytijkanilpblogae
open Go.RowKit

theorem is_below {w w' : World} {v : Value} {l : List Int} (h : IS w v l) (k : Below w.heap.size w w') : IS w' v l := by
  obtain ⟨a, g, o, c, e1, e2, e3, e4⟩ := h
  refine ⟨a, g, o, c, e1, e2, fun i hi => ?_, fun hp => Nat.lt_of_lt_of_le (e4 hp) k.size⟩
  rw [← e3 i hi]
  exact k.cell (p := ⟨g, o + i, none⟩) (e4 (by omega))
/-- Where the list lies. -/
def Fr (h : Nat) (a : Option Addr) (l : List Int) : Prop := l ≠ [] → ∃ b : Nat, ∃ o : Nat, a = some ⟨b, o, none⟩ ∧ h ≤ b
theorem is_set {w : World} {a : Option Addr} {c : Nat} {l : List Int} (h : IS w (.slice a l.length c) l) {B k : Nat} {v : Value} (hb : ∀ b o : Nat, l ≠ [] → a = some ⟨b, o, none⟩ → b ≠ B) : IS (w.setCell ⟨B, k, none⟩ v) (.slice a l.length c) l := by
  obtain ⟨a', g, o, c', e1, e2, e3, e4⟩ := h
  simp only [Value.slice.injEq] at e1
  obtain ⟨rfl, _, rfl⟩ := e1
  refine ⟨a, g, o, c, rfl, e2, fun i hi => ?_, fun hp => by simpa using e4 hp⟩
  rw [← e3 i hi]
  exact World.cell?_of_block (Below.heap_setCell w ⟨B, k, none⟩ v g (hb g o (fun e => by rw [e] at hi; simp at hi) (e2 (by omega))))
theorem is_low {w : World} {a : Option Addr} {c : Nat} {l : List Int} (h : IS w (.slice a l.length c) l) : ∀ b o : Nat, l ≠ [] → a = some ⟨b, o, none⟩ → b < w.heap.size := fun b o hl ha => by
  obtain ⟨a', g, o', c', e1, e2, e3, e4⟩ := h
  simp only [Value.slice.injEq] at e1
  obtain ⟨rfl, _, rfl⟩ := e1
  have hp : 0 < l.length := by
    cases l with
    | nil => exact absurd rfl hl
    | cons _ _ => simp
  have := e2 hp
  rw [ha] at this
  simp at this
  have := e4 hp
  omega
/-- The list is short. -/
theorem rise_len : ∀ (l : List Int) (lo hi : Int), lo ≤ hi → l.Pairwise (· < ·) → (∀ v ∈ l, lo ≤ v ∧ v < hi) → (l.length : Int) ≤ hi - lo
  | [], lo, hi, h0, _, _ => by simp; omega
  | a :: l, lo, hi, h0, h1, h2 => by
    have h3 := h2 a (.head _)
    rw [List.pairwise_cons] at h1
    have ih := rise_len l (a + 1) hi (by omega) h1.2 (fun v hv => ⟨by have := h1.1 v hv; omega, (h2 v (.tail _ hv)).2⟩)
    simp only [List.length_cons]
    omega
theorem ge_len {f : Qf} {l : List Int} (h : GeOut f l) : l.length ≤ 2000 := by
  by_cases hf : gfault f = (0, 0)
  · obtain ⟨h1, h2⟩ := h.good hf
    have h3 := gfault_ok hf
    have h4 := (ffault_ok h3.1).2.2.1
    have := rise_len l 0 (-f.disc) (by omega) h1 (fun v hv => by have := (h2 v).1 hv; exact ⟨this.1, this.2.1⟩)
    omega
  · rw [h.bad hf]; simp
/-- The first form of a form without a fault. -/
theorem first_fine {f : Qf} (h : gfault f = (0, 0)) : gfault (firstOf f.disc) = (0, 0) ∧ (firstOf f.disc).disc = f.disc := by
  have ho : MQ.Fst f (firstOf f.disc) := firstOf_is
  obtain ⟨h1, h2⟩ := gfault_ok h
  have h3 := (ffault_ok h1).2.2.1
  have ob := ho.b
  have oa := ho.a
  have od := ho.disc
  generalize firstOf f.disc = o at *
  have e : o.disc = o.b * o.b - 4 * o.c := by unfold Qf.disc; rw [oa, Int.mul_one]
  have hc : 0 < o.c ∧ o.c ≤ 600 := by
    rcases ob with h | h <;> rw [h] at e <;> omega
  have hff : ffault o = (0, 0) := by
    have k : ∀ x : Int, -1000000 ≤ x → x ≤ 1000000 → okc x = true := fun x h1 h2 => by unfold okc; simp; omega
    unfold ffault
    rw [if_neg (by rw [k o.a (by omega) (by omega)]; simp), if_neg (by rw [k o.b (by omega) (by omega)]; simp), if_neg (by rw [k o.c (by omega) (by omega)]; simp), if_neg (by omega), if_neg]
    rw [oa]; simp [Int.gcd]
  refine ⟨?_, od⟩
  unfold gfault
  rw [if_neg (by rw [hff]; simp), if_neg (by omega)]

theorem pm_gcd {f : Qf} (h : MQ.Pm f) : Int.gcd (Int.gcd f.a f.b) f.c = 1 := by
  obtain ⟨x, y, z, e⟩ := h
  have h1 : (Int.gcd f.a f.b : Int) ∣ f.a := Int.gcd_dvd_left ..
  have h2 : (Int.gcd f.a f.b : Int) ∣ f.b := Int.gcd_dvd_right ..
  obtain ⟨p, hp⟩ := h1
  obtain ⟨q, hq⟩ := h2
  generalize (Int.gcd f.a f.b : Int) = g at *
  refine MQ.Cp.gcd ⟨x * p + y * q, z, ?_⟩
  rw [hp, hq] at e
  grind
/-- A reduced form of a small discriminant has no fault. -/
theorem rf_fault {d : Int} {r : Qf} (hd : -2000 ≤ d ∧ d < 0) (h : MQ.Rf d r) : ffault r = (0, 0) := by
  obtain ⟨b1, b2, b3⟩ := redB_parts h.red
  have ha := h.a
  have hdis := h.disc
  simp only [Qf.disc] at hdis
  have e1 : r.b * r.b ≤ r.a * r.a := by
    have := Int.mul_nonneg (show 0 ≤ r.a - r.b by omega) (show 0 ≤ r.a + r.b by omega)
    grind
  have e2 : r.a * r.a ≤ r.a * r.c := Int.mul_le_mul_of_nonneg_left b3 (by omega)
  have e3 : 4 * r.a * r.c = 4 * (r.a * r.c) := Int.mul_assoc ..
  have e4 : 1 * r.c ≤ r.a * r.c := Int.mul_le_mul_of_nonneg_right ha (by omega)
  have hc : r.c ≤ 2000 := by omega
  exact ffault_of ⟨by omega, by omega, by omega, by omega, by omega, by omega⟩ ha (by rw [h.disc]; omega) (pm_gcd h.pm)
/-- The first genus: the squares. -/
theorem dup_all {f r : Qf} {m : Mt} {l lf : List Int} {n : Nat} (hf : gfault f = (0, 0)) (hr : Rd f r m) (h : GeOut f l) (k : GeOut (firstOf f.disc) lf) (hn : -f.disc < 3 * ((n : Int) + 1) * ((n : Int) + 1)) : l = lf ↔ ∃ q, q ∈ classesTo f.disc n ∧ MQ.Cz q q r := by
  obtain ⟨hk, hd⟩ := first_fine hf
  obtain ⟨h1, h2⟩ := gfault_ok hf
  obtain ⟨fu, fa, fd, fg⟩ := ffault_ok h1
  rw [ge_same h k hf hk hd]
  have lk : MQ.Lk f r m := MQ.Lk.of hr
  have hrd := hr.disc
  have hru := hr.upto h1
  obtain ⟨_, _, _, rg⟩ := ffault_ok (hr.fault h1)
  have hro : MQ.Fst r (firstOf f.disc) := by
    have := firstOf_is (f := r)
    rw [hrd] at this
    exact this
  constructor
  · intro hv
    have h4 : f.disc % 4 = 0 ∨ f.disc % 4 = 1 := by
      have hb : f.b * f.b % 4 = 0 ∨ f.b * f.b % 4 = 1 := by
        rcases (show f.b % 2 = 0 ∨ f.b % 2 = 1 by omega) with h | h
        · obtain ⟨q, hq⟩ : ∃ q, f.b = 2 * q := ⟨f.b / 2, by omega⟩
          rw [hq]
          have : 2 * q * (2 * q) = 4 * (q * q) := by grind
          omega
        · obtain ⟨q, hq⟩ : ∃ q, f.b = 2 * q + 1 := ⟨f.b / 2, by omega⟩
          rw [hq]
          have : (2 * q + 1) * (2 * q + 1) = 4 * (q * q + q) + 1 := by grind
          omega
      have e : f.disc = f.b * f.b - 4 * (f.a * f.c) := by unfold Qf.disc; rw [Int.mul_assoc]
      omega
    have hrf : MQ.Rf f.disc r := ⟨hr.red, hru.2.1, hrd, MQ.Pm.of_gcd rg⟩
    obtain ⟨q, hq, hz⟩ := MQ.dup h2 fd hrf rg hro (MQ.chk_all h2 fd h4) (fun v cv => by rw [← MQ.Vl.iff lk]; exact hv v cv)
    have hqf := MQ.cls_is hq
    exact ⟨q, mem_classesTo hn hqf.red (rf_fault ⟨h2, fd⟩ hqf) hqf.disc, hz⟩
  · rintro ⟨q, hq, hz⟩ v cv
    obtain ⟨q1, q2, q3⟩ := classesTo_is fd hq
    obtain ⟨_, qa, _, qg⟩ := ffault_ok q2
    have hqo : MQ.Fst q (firstOf f.disc) := by
      have := firstOf_is (f := q)
      rw [q3] at this
      exact this
    rw [MQ.Vl.iff lk]
    exact MQ.dup_back (by omega) (by omega) (by omega) (MQ.Pm.of_gcd qg) hqo hz v cv

/-- Cells of a list of forms. -/
def Al (a : Option Addr) (l : List Qf) (W : World) : Prop := l ≠ [] → ∃ b : Nat, a = some ⟨b, 0, none⟩ ∧ b < W.heap.size ∧ ∀ j u, (qcells l)[j]? = some u → W.cell? ⟨b, j, none⟩ = some u
theorem Al.below {a : Option Addr} {l : List Qf} {W W' : World} (h : Al a l W) (k : Below W.heap.size W W') : Al a l W' := fun hl => by
  obtain ⟨b, h1, h2, h3⟩ := h hl
  exact ⟨b, h1, Nat.lt_of_lt_of_le h2 k.size, fun j u hu => (k.cell (p := ⟨b, j, none⟩) h2).trans (h3 j u hu)⟩
theorem Al.of {B : Nat} {l : List Qf} {a : Option Addr} {c : Nat} {w W : World} (h : Lw B l a c w W) : Al a l W := fun hl => by
  have hp : 0 < l.length := by
    cases l with
    | nil => exact absurd rfl hl
    | cons _ _ => simp
  have hr := h.row
  obtain ⟨_, h2 | ⟨g, cap, cur, e1, e2, e3, e4⟩⟩ := h.row
  · exfalso; have := h2.2; omega
  · simp only [Value.slice.injEq] at e1
    obtain ⟨rfl, _, rfl⟩ := e1
    refine ⟨g, rfl, (Array.getElem?_eq_some_iff.1 e3).1, fun j u hu => ?_⟩
    have := hr.cells (g := g) rfl j u hu
    rw [show ((⟨g, 0, none⟩ : Addr).add j) = ⟨g, j, none⟩ by simp [Addr.add]; exact fun h => h.symm] at this
    exact this
/-- The three cells of one of them. -/
abbrev S3c (q : Qf) (b i : Nat) (W : World) : Prop := W.cell? ⟨b, i * 3, none⟩ = some (.int .i64 q.a) ∧ W.cell? ⟨b, i * 3 + 1, none⟩ = some (.int .i64 q.b) ∧ W.cell? ⟨b, i * 3 + 2, none⟩ = some (.int .i64 q.c)

/-- What is asked of the example, of Genus and of Compose. -/
structure GeneraIs (Bg : World → Prop) : Prop where
  keep : ∀ w w' : World, Bg w → Below w.heap.size w w' → Bg w'
  begun : ∀ w : World, Bg w → Calls Try.prog 9 #[] w fun e w' => e = .returned (.bool true) ∧ Below w.heap.size w w'
  compose : ∀ (f g : Qf) (w : World), Calls Try.prog 13 #[f.v, g.v] w fun e w' => ∃ h, e = .returned (.tuple #[h.v, ffv (compF f g)]) ∧ ComOut f g h ∧ Below w.heap.size w w'
  genus : ∀ (f : Qf) (w : World), Calls Try.prog 21 #[f.v] w fun e w' => ∃ (a : Option Addr) (c : Nat) (l : List Int), e = .returned (.tuple #[.slice a l.length c, ffv (gfault f)]) ∧ GeOut f l ∧ IS w' (.slice a l.length c) l ∧ Fr w.heap.size a l ∧ Below w.heap.size w w'

end Go.Proofs.Ytijkanilpblogae
end
