/- The program: a curve's points. -/
import Derived.Test.YtbeceimopamllaaDoorCuL
set_option linter.unusedSimpArgs false
set_option linter.unusedVariables false
set_option maxRecDepth 100000
namespace Go.Proofs.YtbeceimopamllaaDoor
open Go.RowKit EC

theorem Cl.newsP {b : Nat} {l : List Value} {t : TypeId} {w : World} (h : Cl b l t w) : ∀ j u, l[j]? = some u → w.cell? ((⟨b, 0, none⟩ : Addr).add j) = some u := by
  intro j u hu
  have hadd : (⟨b, 0, none⟩ : Addr).add j = ⟨b, j, none⟩ := by unfold Addr.add; split <;> simp_all
  rw [hadd, h.cell j]
  exact hu

/-- The list of points as it grows, beside what stood ahead of it. -/
structure Pq (B : Nat) (l : List Pn) (aa : Option Addr) (cc : Nat) (w W : World) : Prop where
  row : W.ownsRow B 30 3 (.slice aa l.length cc) l.length (pcl l)
  k : Below B w W

theorem row_bel {B e n size : Nat} {v : Value} {xs : List Value} {w w' : World} (h : w.ownsRow B e size v n xs) (k : Below w.heap.size w w') : w'.ownsRow B e size v n xs := by
  refine ⟨h.1, ?_⟩
  rcases h.2 with h2 | ⟨g, cap, cur, h2, h3, h4, rest⟩
  · exact .inl h2
  · exact .inr ⟨g, cap, cur, h2, h3, (k.block g (Array.getElem?_eq_some_iff.1 h4).1).trans h4, rest⟩
theorem row_low {B B' e n size : Nat} {v : Value} {xs : List Value} {w : World} (h : w.ownsRow B e size v n xs) (hb : B' ≤ B) : w.ownsRow B' e size v n xs := by
  refine ⟨h.1, ?_⟩
  rcases h.2 with h2 | ⟨g, cap, cur, h2, h3, rest⟩
  · exact .inl h2
  · exact .inr ⟨g, cap, cur, h2, by omega, rest⟩
theorem Pq.below {B : Nat} {l : List Pn} {aa : Option Addr} {cc : Nat} {w W W' : World} (h : Pq B l aa cc w W) (hB : B ≤ W.heap.size) (k : Below W.heap.size W W') : Pq B l aa cc w W' :=
  ⟨row_bel h.row k, h.k.trans (k.mono hB)⟩
/-- A number of a row. -/
theorem row_at {B n vc j : Nat} {va : Option Addr} {xs : List Value} {u : Value} {w : World} (h : w.ownsRow B 3 1 (.slice va n vc) n xs) (hj : j < n) (hu : xs[j]? = some u) : ∃ gg, va = some ⟨gg, 0, none⟩ ∧ gg < w.heap.size ∧ w.cell? ⟨gg, j, none⟩ = some u := by
  rcases h.2 with ⟨_, h2⟩ | ⟨g, cap, cur, h2, h3, h4, _⟩
  · omega
  · injection h2 with e1 _ _
    subst e1
    refine ⟨g, rfl, (Array.getElem?_eq_some_iff.1 h4).1, ?_⟩
    have := h.cells (g := g) rfl j u hu
    have hadd : (⟨g, 0, none⟩ : Addr).add j = ⟨g, j, none⟩ := by unfold Addr.add; split <;> simp_all
    rw [hadd] at this
    exact this
theorem sqx_int {P : Nat} {a b : Int} (hc : Cv P a b) (x : Nat) : ((x : Int) * x * x + a * x + b) % (P : Int) = (sqx P a b x : Nat) := by
  unfold sqx
  have h0 : 0 ≤ (x : Int) * x * x + a * x + b := by
    have h1 : 0 ≤ (x : Int) * x * x := Int.mul_nonneg (Int.mul_nonneg (by omega) (by omega)) (by omega)
    have h2 : 0 ≤ a * (x : Int) := Int.mul_nonneg hc.a0 (by omega)
    have := hc.b0
    omega
  obtain ⟨T, hT⟩ : ∃ T : Nat, (x : Int) * x * x + a * x + b = T := ⟨_, (Int.toNat_of_nonneg h0).symm⟩
  rw [hT]
  simp

theorem row_nb {B e n size b : Nat} {v : Value} {xs : List Value} {w : World} (h : w.ownsRow B e size v n xs) (hb : b < B) : v.ownBlock ≠ some b := fun e => by
  have := h.lt b e
  omega

set_option maxHeartbeats 4000000 in
theorem points_any (P : Nat) (a b : Int) (w : World) (hc : Cv P a b) :
    Calls Tryd.prog 26 #[Gv P a b] w fun e w' => ∃ (aa : Option Addr) (cc : Nat), e = .returned (.slice aa (pts P a b P).length cc) ∧ w'.ownsRow w.heap.size 30 3 (.slice aa (pts P a b P).length cc) (pts P a b P).length (pcl (pts P a b P)) ∧ Below w.heap.size w w' := by
  obtain ⟨i0, hi, hz0, hz1, hz2⟩ := info_parts Tryd.infoSl
  obtain ⟨j0, hj, hy0, hy1, hy2⟩ := info_parts Tryd.infoInt
  obtain ⟨k0, hk, hx0, hx1, hx2⟩ := info_parts Tryd.infoPt
  have HI : Hid (Tryd.prog.info? 3 = some j0 ∧ j0.zero = some (.int .i64 0) ∧ j0.size = 1 ∧ j0.bytes = 8) := ⟨hj, hy0, hy1, hy2⟩
  have HP : Hid (Tryd.prog.info? 30 = some k0 ∧ k0.zero = some (.agg #[.int .i64 0, .int .i64 0, .bool false]) ∧ k0.size = 3 ∧ k0.bytes = 24) := ⟨hk, hx0, hx1, hx2⟩
  have hp := hc.p2
  have hp5 := hc.p5
  have HC : Hid (Cv P a b) := hc
  have hP0 : ((P : Int) == 0) = false := beq_eq_false_iff_ne.2 (by omega)
  clear hj hy0 hy1 hy2 hk hx0 hx1 hx2 hc
  unfold Gv
  go_enter Tryd.func26, Tryd.ntmps26
  go_wp2_with (at_make; refine wpList_make_full _ rfl _ _ 63 rfl (w.heap.size + 1) 64 i0 (.slice none 0 0) 1 Tryd.underlying63 hi hz0 hz1 .i64 .i64 _ _ P rfl rfl (by omega) (by omega) (by rw [hz2]; omega) (by unfold maxLen; omega) (by simp) ?_)
  intro w1 hown hgrow
  have hcl := cl_of_mkS hown
  rw [← vcl_nil] at hcl
  have G0 : Cl w.heap.size (Gl P a b) 52 w1 := (Cl.new (Gl P a b) 52 w).grown hgrow (by simp)
  have K0 : Below w.heap.size w w1 := (ala w _).grown hgrow (by simp) (by simp)
  have HR0 : Hid (Rw (w.heap.size + 1) P 0 (fun _ => .slice none 0 0) w1 ∧ Cl w.heap.size (Gl P a b) 52 w1 ∧ Below w.heap.size w w1) :=
    ⟨⟨hcl, fun s _ => World.ownsRow_nil _ _ _ _, fun s t _ _ _ => .inl rfl⟩, G0, K0⟩
  have g0 : w1.cell? ⟨w.heap.size, 0, none⟩ = some (.int .i64 P) := G0.cell 0
  clear hown hgrow hcl hi hz0 hz1 hz2 G0 K0
  go_wp2
  go_loopw [15] (fun yv wx => ∃ y : Nat, y ≤ P ∧ yv = .int .i64 y ∧ Hid (∃ V, Rw (w.heap.size + 1) P y V wx ∧ Cl w.heap.size (Gl P a b) 52 wx ∧ Below w.heap.size w wx)) (fun yv _ => P - (intOf yv).toNat)
  case atStart => exact ⟨0, by omega, rfl, _, HR0.out⟩
  case round =>
    obtain ⟨y, hy, rfl, HR⟩ := hrel
    clear HR0 g0
    by_cases hlt : y < P
    · obtain ⟨V, hR, hG, hK⟩ := HR.out
      obtain ⟨Y, hY⟩ : ∃ Y : Nat, y * y = Y := ⟨_, rfl⟩
      have hYi : (y : Int) * (y : Int) = (Y : Int) := by rw [← hY, Int.natCast_mul]
      have hY4 : Y ≤ 4000000 := by rw [← hY]; exact Nat.mul_le_mul (show y ≤ 2000 by omega) (show y ≤ 2000 by omega)
      obtain ⟨q, hq⟩ : ∃ q, Y % P = q := ⟨_, rfl⟩
      have hqP : q < P := by rw [← hq]; exact Nat.mod_lt _ (by omega)
      have hqi : (Y : Int) % (P : Int) = (q : Int) := by rw [← hq]; simp
      have hrow := hR.r q hqP
      obtain ⟨va, vc, hV⟩ := row_sl hrow
      obtain ⟨n, hn⟩ : ∃ n, (sqs P q y).length = n := ⟨_, rfl⟩
      have hn2 : n ≤ 2000 := by have := sqs_len P q y; omega
      rw [hn] at hV hrow
      rw [hV] at hrow
      have c0 : wr.cell? ⟨w.heap.size + 1, q, none⟩ = some (.slice va n vc) := by rw [hR.o.cell q, vcl_get V hqP, hV]
      have g0 : wr.cell? ⟨w.heap.size, 0, none⟩ = some (.int .i64 P) := hG.cell 0
      have HRow : Hid (wr.ownsRow (w.heap.size + 1 + 1) 3 1 (.slice va n vc) n (ints (sqs P q y))) := hrow
      have HA : Hid (Rw (w.heap.size + 1) P y V wr ∧ Cl w.heap.size (Gl P a b) 52 wr ∧ Below w.heap.size w wr ∧ y * y % P = q ∧ (sqs P q y).length = n ∧ V q = .slice va n vc) := ⟨hR, hG, hK, by rw [hY, hq], hn, hV⟩
      have HZ : Hid (w.heap.size + 1 < wr.heap.size) := hR.o.lt
      clear hR hG hK hrow hV hY hq hn HR
      go_wp2_with (at_builtin; refine wpList_append_own_at _ rfl _ _ 64 rfl (w.heap.size + 1 + 1) 3 j0 (.int .i64 0) 1 8 Tryd.underlying64 HI.out.1 HI.out.2.1 HI.out.2.2.1 HI.out.2.2.2 rfl (by decide) (.slice va n vc) n (ints (sqs P q y)) rfl (HRow.out.alloc _) ⟨wr.heap.size, 0, none⟩ 1 1 [.int .i64 (y : Int)] rfl rfl (Cl.new [.int .i64 (y : Int)] 3 wr).newsP (by simp [Value.oneCell']) (by simp only [maxLen]; omega) (by omega) (by have := HZ.out; simp <;> omega) ?_; intro v' w6 hown' hgrow _ hob; obtain ⟨g', cap', rfl⟩ := ownsRow_succ hown'; have O6 := (HA.out.1.o.alloc (.cells #[.int .i64 (y : Int)] 3)).grown hgrow (row_nb HRow.out (by omega)); have s0 : w6.cell? ⟨w.heap.size + 1, q, none⟩ = some (.slice va n vc) := (O6.cell q).trans ((vcl_get V hqP).trans (congrArg some HA.out.2.2.2.2.2)); have s1 : w6.frozen? ⟨w.heap.size + 1, q, none⟩ = false := O6.frozen q; clear O6)
      have HN : Hid (∃ V, Rw (w.heap.size + 1) P (y + 1) V (w6.setCell ⟨w.heap.size + 1, q, none⟩ (.slice (some ⟨g', 0, none⟩) (n + 1) cap')) ∧ Cl w.heap.size (Gl P a b) 52 (w6.setCell ⟨w.heap.size + 1, q, none⟩ (.slice (some ⟨g', 0, none⟩) (n + 1) cap')) ∧ Below w.heap.size w (w6.setCell ⟨w.heap.size + 1, q, none⟩ (.slice (some ⟨g', 0, none⟩) (n + 1) cap'))) := by
        obtain ⟨hR, hG, hK, e1, e2, e3⟩ := HA.out
        rw [← e3] at hgrow hob
        refine ⟨_, hR.step e1 hqP (by rw [e2]; exact hown') hgrow (by simpa using hob), ?_, ?_⟩
        · refine ((hG.alloc _).grown hgrow ?_).other (by show w.heap.size ≠ w.heap.size + 1; omega) _
          rw [e3]
          exact row_nb HRow.out (by omega)
        · refine ((hK.alloc hK.size _).grown hgrow (by have := hK.size; simp; omega) ?_).setCell (by simp) _
          intro k e
          rw [e3] at e
          have := (HRow.out.lt k e).1
          omega
      clear hown' hgrow hob s0 s1
      exact ⟨⟨y + 1, by omega, by go_num, HN.out⟩, by simp [intOf]; omega⟩
    · obtain rfl : P = y := by omega
      obtain ⟨V, hR, hG, hK⟩ := HR.out
      generalize wr = W1 at hR hG hK ⊢
      have g0 : W1.cell? ⟨w.heap.size, 0, none⟩ = some (.int .i64 P) := hG.cell 0
      have HA : Hid (Rw (w.heap.size + 1) P P V W1 ∧ Cl w.heap.size (Gl P a b) 52 W1 ∧ Below w.heap.size w W1) := ⟨hR, hG, hK⟩
      have g1 : ∀ x : Obj, (W1.alloc x).cell? ⟨w.heap.size, 0, none⟩ = some (.int .i64 P) := fun x => (hG.alloc x).cell 0
      have HR2 : Hid (Pq W1.heap.size (pts P a b 0) (some ⟨W1.heap.size, 0, none⟩) 1 W1 (W1.alloc (.cells #[.int .i64 0, .int .i64 0, .bool true] 30))) :=
        ⟨⟨rfl, .inr ⟨W1.heap.size, 1, #[.int .i64 0, .int .i64 0, .bool true], rfl, Nat.le_refl _, Cl.new (Pl farP) 30 W1, by simp [pts], by unfold maxLen; omega, rfl, rfl⟩⟩, ala _ _⟩
      clear hR hG hK HR
      go_wp2
      go_loopw [6, 39] (fun lv xv wx => ∃ (x : Nat) (aa : Option Addr) (cc : Nat), x ≤ P ∧ lv = .slice aa (pts P a b x).length cc ∧ xv = .int .i64 x ∧ Hid (Pq W1.heap.size (pts P a b x) aa cc W1 wx)) (fun _ xv _ => P - (intOf xv).toNat)
      case atStart => exact ⟨0, _, 1, by omega, rfl, rfl, HR2.out⟩
      case round =>
        obtain ⟨x, aa, cc, hx, rfl, rfl, HQ⟩ := hrel
        clear HR2 g0 g1
        by_cases hxl : x < P
        · obtain ⟨sq, hsq⟩ : ∃ sq, sqx P a b x = sq := ⟨_, rfl⟩
          have hsP : sq < P := by rw [← hsq]; exact Nat.mod_lt _ (by omega)
          have HSq : Hid (∀ w, Calls Tryd.prog 38 #[Gv P a b, .int .i64 x] w fun e w' => e = .returned (.int .i64 (sq : Int)) ∧ Below w.heap.size w w') := fun w => by
            have := square_any P a b x w HC.out (by omega) (by omega)
            rw [sqx_int HC.out x, hsq] at this
            exact this
          unfold Gv at HSq
          have hG := HA.out.2.1.below HQ.out.k
          have hO := HA.out.1.o.below HQ.out.k
          have hrow := HA.out.1.r sq hsP
          obtain ⟨va, vc, hV⟩ := row_sl hrow
          obtain ⟨n, hn⟩ : ∃ n, (sqs P sq P).length = n := ⟨_, rfl⟩
          have hn2 : n ≤ 2000 := by have := sqs_len P sq P; omega
          rw [hn] at hV hrow
          rw [hV] at hrow
          have g0 : wr.cell? ⟨w.heap.size, 0, none⟩ = some (.int .i64 P) := hG.cell 0
          have g1 : wr.cell? ⟨w.heap.size, 1, none⟩ = some (.int .i64 a) := hG.cell 1
          have g2 : wr.cell? ⟨w.heap.size, 2, none⟩ = some (.int .i64 b) := hG.cell 2
          have HRow : Hid (W1.ownsRow (w.heap.size + 1 + 1) 3 1 (.slice va n vc) n (ints (sqs P sq P))) := hrow
          have HV : Hid (V sq = .slice va n vc) := hV
          have HN : Hid ((sqs P sq P).length = n ∧ rowx P a b x = (sqs P sq P).map fun y => ⟨x, y, false⟩) := ⟨hn, by rw [← hsq]; rfl⟩
          clear hG hrow hV hn hsq hO
          go_wp2_with fail
          refine (HSq.out _).mono ?_
          rintro e w3 ⟨rfl, k3⟩
          have HQ3 : Hid (Pq W1.heap.size (pts P a b x) aa cc W1 w3) := HQ.out.below HQ.out.k.size k3
          have c0 : w3.cell? ⟨w.heap.size + 1, sq, none⟩ = some (.slice va n vc) := by rw [(HA.out.1.o.below HQ3.out.k).cell sq, vcl_get V hsP, HV.out]
          have HQ4 : Hid (Pq W1.heap.size (pts P a b x ++ (rowx P a b x).take 0) aa cc W1 w3) := by
            show Pq _ _ _ _ _ _
            rw [List.take_zero, List.append_nil]; exact HQ3.out
          have hlen : (pts P a b x).length ≤ 5000000 := by
            have h1 := pts_len P a b x
            have h2 : x * P ≤ 2000 * 2000 := Nat.mul_le_mul (by omega) hp
            omega
          clear g0 g1 g2 k3 HQ HSq
          go_wp2
          go_loopw [6, 49] (fun lv jv wx => ∃ (j : Nat) (aa : Option Addr) (cc : Nat), j ≤ n ∧ lv = .slice aa (pts P a b x ++ (rowx P a b x).take j).length cc ∧ jv = .int .i64 j ∧ Hid (Pq W1.heap.size (pts P a b x ++ (rowx P a b x).take j) aa cc W1 wx)) (fun _ jv _ => n - (intOf jv).toNat)
          case atStart => exact ⟨0, aa, cc, by omega, by simp, rfl, HQ4.out⟩
          case round =>
            obtain ⟨j, ba, bc, hj, rfl, rfl, HJ⟩ := hrel
            clear HQ3 HQ4 c0
            by_cases hjn : j < n
            · obtain ⟨l, hl⟩ : ∃ l, pts P a b x ++ (rowx P a b x).take j = l := ⟨_, rfl⟩
              rw [hl] at HJ ⊢
              obtain ⟨v, hv⟩ : ∃ v, (sqs P sq P).getD j 0 = v := ⟨_, rfl⟩
              have hv2 : (sqs P sq P)[j]? = some v := by
                rw [← hv, List.getD_eq_getElem?_getD, List.getElem?_eq_getElem (by rw [HN.out.1]; exact hjn), Option.getD_some]
              obtain ⟨u, rfl, hu1, _⟩ := sqs_mem (List.mem_of_getElem? hv2)
              have hll : l.length ≤ 6000000 := by
                rw [← hl, List.length_append, List.length_take]
                omega
              have HL : Hid (pts P a b x ++ (rowx P a b x).take (j + 1) = l ++ [⟨x, u, false⟩]) := by
                show _ = _
                rw [← hl, List.append_assoc]
                congr 1
                have hr : (rowx P a b x)[j]? = some ⟨x, u, false⟩ := by rw [HN.out.2, List.getElem?_map, hv2]; rfl
                rw [List.take_add_one, hr]
                rfl
              obtain ⟨gg, e1, hgl, hcell⟩ := row_at HRow.out hjn (by unfold ints; rw [List.getElem?_map, hv2]; rfl)
              subst e1
              have c0 : wr.cell? ⟨gg, j, none⟩ = some (.int .i64 (u : Int)) := by
                rw [World.cell?_of_block (a := ⟨gg, j, none⟩) (HJ.out.k.block gg hgl)]
                exact hcell
              have HZ : Hid (W1.heap.size ≤ wr.heap.size) := HJ.out.k.size
              clear hv hv2 hcell hgl hl
              go_wp2_with (at_builtin; refine wpList_append_own _ rfl _ _ 25 rfl W1.heap.size 30 k0 (.agg #[.int .i64 0, .int .i64 0, .bool false]) 3 24 Tryd.underlying25 HP.out.1 HP.out.2.1 HP.out.2.2.1 HP.out.2.2.2 rfl (by decide) (.slice ba l.length bc) l.length (pcl l) rfl (HJ.out.row.alloc _) ⟨wr.heap.size, 0, none⟩ 1 1 [.int .i64 x, .int .i64 u, .bool false] rfl rfl (Cl.new [.int .i64 x, .int .i64 u, .bool false] 30 wr).newsP (by simp [Value.oneCell']) (by simp only [maxLen]; omega) (by omega) (by have := HZ.out; simp <;> omega) ?_; intro v' w6 hown' hgrow _; obtain ⟨g', cap', rfl⟩ := ownsRow_succ hown')
              have HN6 : Hid (Pq W1.heap.size (l ++ [⟨x, u, false⟩]) (some ⟨g', 0, none⟩) cap' W1 w6) := by
                refine ⟨?_, (HJ.out.k.alloc HZ.out _).grown hgrow (by have := HZ.out; simp <;> omega) (fun k e => (HJ.out.row.lt k e).1)⟩
                rw [List.length_append, pcl_append]
                exact hown'
              clear hown' hgrow c0
              first
              | exact ⟨⟨j + 1, _, cap', by omega, by rw [HL.out, List.length_append]; rfl, by go_num, by rw [HL.out]; exact HN6.out⟩, by simp [intOf]; omega⟩
              | (go_roundw
                 case rel => exact ⟨j + 1, _, cap', by omega, by rw [HL.out, List.length_append]; rfl, by go_num, by rw [HL.out]; exact HN6.out⟩
                 case measure => simp [intOf]; omega)
            · obtain rfl : n = j := by omega
              have hfull : pts P a b x ++ (rowx P a b x).take n = pts P a b (x + 1) := by
                rw [pts, List.take_of_length_le (by rw [HN.out.2, List.length_map, HN.out.1]; omega)]
              rw [hfull] at HJ ⊢
              clear hfull
              go_wp2
              first
              | exact ⟨⟨x + 1, ba, bc, by omega, rfl, by go_num, HJ.out⟩, by simp [intOf]; omega⟩
              | (go_roundw
                 case rel => exact ⟨x + 1, ba, bc, by omega, rfl, by go_num, HJ.out⟩
                 case measure => simp [intOf]; omega)
        · obtain rfl : P = x := by omega
          go_wp2
          go_ret
          refine ⟨aa, cc, rfl, ?_, HA.out.2.2.trans (HQ.out.k.mono HA.out.2.2.size)⟩
          exact row_low HQ.out.row HA.out.2.2.size

end Go.Proofs.YtbeceimopamllaaDoor
