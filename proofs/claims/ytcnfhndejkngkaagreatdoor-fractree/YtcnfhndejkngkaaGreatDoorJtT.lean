import Derived.Shelf.Strings.Builder1
import Derived.Shelf.Strings.BuilderK
import Derived.Shelf.LaysM
import Derived.Shelf.Strconv.Itoa3
import Derived.Shelf.Strings.Repeat
import Derived.Test.YtcnfhndejkngkaaGreatDoorProg
import Derived.Test.YtcnfhndejkngkaaGreatDoorLgB
import Derived.Lib.AppendIntMem
import Derived.Test.YtcnfhndejkngkaaGreatDoorJtI
import Derived.Test.YtcnfhndejkngkaaGreatDoorJtO
import Derived.Test.YtcnfhndejkngkaaGreatDoorJtH
import Derived.Laws.IdiomStrings
section
/- The shelf's contracts of strconv.Itoa, strings.Repeat and strings.Builder at this program, laid by the kit's tools in plain words. -/
namespace Go.Proofs.YtcnfhndejkngkaaGreatDoor
open Go.Shelf
def Tryz.lays169_ren : Go.Shelf.Ren := ⟨fun | 169 => 74 | n => n, fun | 70 => 98 | 9 => 9 | 0 => 0 | 72 => 100 | 37 => 89 | 127 => 143 | 3 => 3 | 5 => 5 | n => n, fun | n => n⟩
theorem Tryz.lays169 : Go.Proofs.Lays.n169 Tryz.prog Tryz.lays169_ren := {
  mixed := by kernel_rfl
  f169 := Tryz.func74.trans (congrArg some (by kernel_rfl))
  t0 := Tryz.underlying0
  a0 := Tryz.isAgg0
  z0 := Tryz.sizeOf0
  v0 := Tryz.zeroValue0
  t3 := Tryz.underlying3
  a3 := Tryz.isAgg3
  z3 := Tryz.sizeOf3
  v3 := Tryz.zeroValue3
  t9 := Tryz.underlying9
  a9 := Tryz.isAgg9
  z9 := Tryz.sizeOf9
  v9 := Tryz.zeroValue9
  t37 := Tryz.underlying89
  a37 := Tryz.isAgg89
  z37 := Tryz.sizeOf89
  v37 := Tryz.zeroValue89
  t70 := Tryz.underlying98
  a70 := Tryz.isAgg98
  z70 := Tryz.sizeOf98
  v70 := Tryz.zeroValue98
  t72 := Tryz.underlying100
  a72 := Tryz.isAgg100
  z72 := Tryz.sizeOf100
  v72 := Tryz.zeroValue100
  t127 := Tryz.underlying143
  a127 := Tryz.isAgg143
  z127 := Tryz.sizeOf143
  v127 := Tryz.zeroValue143 }
theorem Tryz.Builder_Extra_169 : Builder.Extra Tryz.prog Tryz.lays169_ren := {
  sizeBuilder := by kernel_rfl
  liesBuilder := by kernel_rfl
  t5 := Tryz.underlying5
  a5 := Tryz.isAgg5
  z5 := Tryz.sizeOf5
  v5 := Tryz.zeroValue5
  infoByte := by kernel_rfl
  cellsByte := by kernel_rfl
  sizeByte := by kernel_rfl
  neB5 := by decide }
open Go.RowKit in
theorem Tryz.Builder_String_any_k (B b : Nat) (l : List UInt8) (w : World) (h : Lib.IsBuilderF 100 5 B b (Lib.byteCells l) w) (hBw : B ≤ w.heap.size) :
    Calls Tryz.prog 74 #[.pointer (some ⟨b, 0, none⟩)] w fun e w' => e = .returned (.string ⟨l.toArray⟩) ∧ (Lib.IsBuilderF 100 5 B b (Lib.byteCells l) w' ∧ Below B w w' ∧ Lib.OthersKept 5 (some b) w w') := Any.Builder_String_any_k Tryz.lays169 Tryz.Builder_Extra_169 B b l w h hBw
def Tryz.laysM171_ren : Go.Shelf.Ren := ⟨fun | 171 => 92 | 243 => 121 | 246 => 142 | 283 => 151 | 284 => 152 | 285 => 153 | 286 => 154 | 129 => 162 | 317 => 161 | 318 => 163 | 319 => 164 | 320 => 165 | 337 => 174 | 338 => 175 | n => n, fun | 3 => 3 | 9 => 9 | 2 => 2 | 4 => 4 | 171 => 179 | 0 => 0 | 53 => 94 | 37 => 89 | 5 => 5 | 173 => 182 | 212 => 192 | 51 => 106 | 20 => 20 | 213 => 193 | 46 => 134 | 232 => 203 | 233 => 204 | n => n, fun | 17 => 3 | 18 => 4 | 19 => 5 | n => n⟩
theorem Tryz.laysM171 : Go.Proofs.LaysM.n171 Tryz.prog Tryz.laysM171_ren := {
  mixed := by kernel_rfl
  f129 := Tryz.func162.trans (congrArg some (by kernel_rfl))
  f171 := Tryz.func92.trans (congrArg some (by kernel_rfl))
  f243 := Tryz.func121.trans (congrArg some (by kernel_rfl))
  f246 := Tryz.func142.trans (congrArg some (by kernel_rfl))
  f283 := Tryz.func151.trans (congrArg some (by kernel_rfl))
  f284 := Tryz.func152.trans (congrArg some (by kernel_rfl))
  f285 := Tryz.func153.trans (congrArg some (by kernel_rfl))
  f286 := Tryz.func154.trans (congrArg some (by kernel_rfl))
  f317 := Tryz.func161.trans (congrArg some (by kernel_rfl))
  f318 := Tryz.func163.trans (congrArg some (by kernel_rfl))
  f319 := Tryz.func164.trans (congrArg some (by kernel_rfl))
  f320 := Tryz.func165.trans (congrArg some (by kernel_rfl))
  f337 := Tryz.func174.trans (congrArg some (by kernel_rfl))
  f338 := Tryz.func175.trans (congrArg some (by kernel_rfl))
  t0 := Tryz.underlying0
  a0 := Tryz.isAgg0
  z0 := Tryz.sizeOf0
  v0 := Tryz.zeroValue0
  t2 := Tryz.underlying2
  a2 := Tryz.isAgg2
  z2 := Tryz.sizeOf2
  v2 := Tryz.zeroValue2
  t3 := Tryz.underlying3
  a3 := Tryz.isAgg3
  z3 := Tryz.sizeOf3
  v3 := Tryz.zeroValue3
  t4 := Tryz.underlying4
  a4 := Tryz.isAgg4
  z4 := Tryz.sizeOf4
  v4 := Tryz.zeroValue4
  t5 := Tryz.underlying5
  a5 := Tryz.isAgg5
  z5 := Tryz.sizeOf5
  v5 := Tryz.zeroValue5
  t9 := Tryz.underlying9
  a9 := Tryz.isAgg9
  z9 := Tryz.sizeOf9
  v9 := Tryz.zeroValue9
  t20 := Tryz.underlying20
  a20 := Tryz.isAgg20
  z20 := Tryz.sizeOf20
  v20 := Tryz.zeroValue20
  t37 := Tryz.underlying89
  a37 := Tryz.isAgg89
  z37 := Tryz.sizeOf89
  v37 := Tryz.zeroValue89
  t46 := Tryz.underlying134
  a46 := Tryz.isAgg134
  z46 := Tryz.sizeOf134
  v46 := Tryz.zeroValue134
  t51 := Tryz.underlying106
  a51 := Tryz.isAgg106
  z51 := Tryz.sizeOf106
  v51 := Tryz.zeroValue106
  t53 := Tryz.underlying94
  a53 := Tryz.isAgg94
  z53 := Tryz.sizeOf94
  v53 := Tryz.zeroValue94
  t171 := Tryz.underlying179
  a171 := Tryz.isAgg179
  z171 := Tryz.sizeOf179
  v171 := Tryz.zeroValue179
  t173 := Tryz.underlying182
  a173 := Tryz.isAgg182
  z173 := Tryz.sizeOf182
  v173 := Tryz.zeroValue182
  t212 := Tryz.underlying192
  a212 := Tryz.isAgg192
  z212 := Tryz.sizeOf192
  v212 := Tryz.zeroValue192
  t213 := Tryz.underlying193
  a213 := Tryz.isAgg193
  z213 := Tryz.sizeOf193
  t232 := Tryz.underlying203
  a232 := Tryz.isAgg203
  z232 := Tryz.sizeOf203
  v232 := Tryz.zeroValue203
  t233 := Tryz.underlying204
  a233 := Tryz.isAgg204
  z233 := Tryz.sizeOf204
  v233 := Tryz.zeroValue204
  g17 := by kernel_rfl
  g18 := by kernel_rfl
  g19 := by kernel_rfl
  i0 := by kernel_rfl
  i2 := by kernel_rfl
  i3 := by kernel_rfl
  i4 := by kernel_rfl
  i5 := by kernel_rfl
  i9 := by kernel_rfl
  i20 := by kernel_rfl
  i37 := by kernel_rfl
  i46 := by kernel_rfl
  i51 := by kernel_rfl
  i53 := by kernel_rfl
  i171 := by kernel_rfl
  i173 := by kernel_rfl
  i212 := by kernel_rfl
  i232 := by kernel_rfl
  i233 := by kernel_rfl
  m17 := by kernel_rfl
  m18 := by kernel_rfl
  m19 := by kernel_rfl }
open Go.RowKit Go.Sort Go.Lib in
theorem Tryz.strconv_Itoa (n : Int) (h0 : -9223372036854775808 ≤ n) (h1 : n ≤ 9223372036854775807) (w : World) (htab : Lib.TabIs Tryz.prog w "internal/strconv.uint64pow10" .u64 Lib.pow10Tab) :
    Calls Tryz.prog 92 #[.int .i64 n] w fun e w' => e = .returned (.string ⟨(Lib.itoa n).toArray⟩) ∧ ∃ k os, w' = grow (w.drewN k) os := Any.strconv_Itoa Tryz.laysM171 n h0 h1 w htab
def Tryz.lays105_ren : Go.Shelf.Ren := ⟨fun | 105 => 73 | 212 => 103 | 99 => 104 | 165 => 105 | 166 => 72 | 170 => 106 | 169 => 74 | 263 => 131 | 264 => 132 | 206 => 133 | 240 => 102 | 241 => 134 | 276 => 130 | 277 => 145 | n => n, fun | 9 => 9 | 3 => 3 | 4 => 4 | 20 => 20 | 0 => 0 | 46 => 134 | 109 => 139 | 5 => 5 | 72 => 100 | 76 => 103 | 51 => 106 | 146 => 160 | 53 => 94 | 148 => 162 | 70 => 98 | 37 => 89 | 75 => 102 | 127 => 143 | 164 => 158 | 80 => 58 | n => n, fun | n => n⟩
theorem Tryz.lays105 : Go.Proofs.Lays.n105 Tryz.prog Tryz.lays105_ren := {
  mixed := by kernel_rfl
  f99 := Tryz.func104.trans (congrArg some (by kernel_rfl))
  f105 := Tryz.func73.trans (congrArg some (by kernel_rfl))
  f165 := Tryz.func105.trans (congrArg some (by kernel_rfl))
  f166 := Tryz.func72.trans (congrArg some (by kernel_rfl))
  f169 := Tryz.func74.trans (congrArg some (by kernel_rfl))
  f170 := Tryz.func106.trans (congrArg some (by kernel_rfl))
  f206 := Tryz.func133.trans (congrArg some (by kernel_rfl))
  f212 := Tryz.func103.trans (congrArg some (by kernel_rfl))
  f240 := Tryz.func102.trans (congrArg some (by kernel_rfl))
  f241 := Tryz.func134.trans (congrArg some (by kernel_rfl))
  f263 := Tryz.func131.trans (congrArg some (by kernel_rfl))
  f264 := Tryz.func132.trans (congrArg some (by kernel_rfl))
  f276 := Tryz.func130.trans (congrArg some (by kernel_rfl))
  f277 := Tryz.func145.trans (congrArg some (by kernel_rfl))
  t0 := Tryz.underlying0
  a0 := Tryz.isAgg0
  z0 := Tryz.sizeOf0
  v0 := Tryz.zeroValue0
  t3 := Tryz.underlying3
  a3 := Tryz.isAgg3
  z3 := Tryz.sizeOf3
  v3 := Tryz.zeroValue3
  t4 := Tryz.underlying4
  a4 := Tryz.isAgg4
  z4 := Tryz.sizeOf4
  v4 := Tryz.zeroValue4
  t5 := Tryz.underlying5
  a5 := Tryz.isAgg5
  z5 := Tryz.sizeOf5
  v5 := Tryz.zeroValue5
  t9 := Tryz.underlying9
  a9 := Tryz.isAgg9
  z9 := Tryz.sizeOf9
  v9 := Tryz.zeroValue9
  t20 := Tryz.underlying20
  a20 := Tryz.isAgg20
  z20 := Tryz.sizeOf20
  v20 := Tryz.zeroValue20
  t37 := Tryz.underlying89
  a37 := Tryz.isAgg89
  z37 := Tryz.sizeOf89
  v37 := Tryz.zeroValue89
  t46 := Tryz.underlying134
  a46 := Tryz.isAgg134
  z46 := Tryz.sizeOf134
  v46 := Tryz.zeroValue134
  t51 := Tryz.underlying106
  a51 := Tryz.isAgg106
  z51 := Tryz.sizeOf106
  v51 := Tryz.zeroValue106
  t53 := Tryz.underlying94
  a53 := Tryz.isAgg94
  z53 := Tryz.sizeOf94
  v53 := Tryz.zeroValue94
  t70 := Tryz.underlying98
  a70 := Tryz.isAgg98
  z70 := Tryz.sizeOf98
  v70 := Tryz.zeroValue98
  t72 := Tryz.underlying100
  a72 := Tryz.isAgg100
  z72 := Tryz.sizeOf100
  v72 := Tryz.zeroValue100
  t75 := Tryz.underlying102
  a75 := Tryz.isAgg102
  z75 := Tryz.sizeOf102
  v75 := Tryz.zeroValue102
  t76 := Tryz.underlying103
  a76 := Tryz.isAgg103
  z76 := Tryz.sizeOf103
  v76 := Tryz.zeroValue103
  t109 := Tryz.underlying139
  a109 := Tryz.isAgg139
  z109 := Tryz.sizeOf139
  v109 := Tryz.zeroValue139
  t127 := Tryz.underlying143
  a127 := Tryz.isAgg143
  z127 := Tryz.sizeOf143
  v127 := Tryz.zeroValue143
  t146 := Tryz.underlying160
  a146 := Tryz.isAgg160
  z146 := Tryz.sizeOf160
  v146 := Tryz.zeroValue160
  t148 := Tryz.underlying162
  a148 := Tryz.isAgg162
  z148 := Tryz.sizeOf162
  v148 := Tryz.zeroValue162
  t164 := Tryz.underlying158
  a164 := Tryz.isAgg158
  z164 := Tryz.sizeOf158
  v164 := Tryz.zeroValue158 }
theorem Tryz.Builder_Extra_105 : Builder.Extra Tryz.prog Tryz.lays105_ren := {
  sizeBuilder := by kernel_rfl
  liesBuilder := by kernel_rfl
  t5 := Tryz.underlying5
  a5 := Tryz.isAgg5
  z5 := Tryz.sizeOf5
  v5 := Tryz.zeroValue5
  infoByte := by kernel_rfl
  cellsByte := by kernel_rfl
  sizeByte := by kernel_rfl
  neB5 := by decide }
open Go.RowKit Go.Lib in
theorem Tryz.strings_Repeat (s : ByteArray) (c : Nat) (w : World) (hc : c ≤ 9223372036854775807) (hlen : s.size * c ≤ 140737488355328) :
    Calls Tryz.prog 73 #[.string s, .int .i64 c] w fun e w' => e = .returned (.string ⟨(Lib.repeatL s.data.toList c).toArray⟩) ∧ Below w.heap.size w w' := Any.strings_Repeat Tryz.lays105 Tryz.Builder_Extra_105 s c w hc hlen
end Go.Proofs.YtcnfhndejkngkaaGreatDoor
end

section
/- Package long: String. -/
set_option linter.unusedSimpArgs false
set_option linter.unusedVariables false
set_option maxRecDepth 100000
namespace Go.Proofs.YtcnfhndejkngkaaGreatDoor
open Go.RowKit LgM

/-- The table of powers of ten lies as it was laid. -/
def Tq (w : World) : Prop := Lib.TabIs Tryz.prog w "internal/strconv.uint64pow10" .u64 Lib.pow10Tab
theorem Tq.below {w w' : World} (h : Tq w) (k : Below w.heap.size w w') : Tq w' := Lib.tabBelow_of_tabIs h w' k
theorem Tq.upto {B : Nat} {w w' : World} (h : Tq w) (k : Below B w w') (hB : w.heap.size ≤ B) : Tq w' := h.below (k.mono hB)

theorem below_grow (w : World) (k : Nat) (os : Array Obj) : Below w.heap.size w (Sort.grow (w.drewN k) os) := by
  refine ⟨rfl, rfl, rfl, by simp [Sort.grow, World.drewN], fun j hj => ?_⟩
  have : (w.drewN k).heap = w.heap := rfl
  simp [Sort.grow, this, Array.getElem?_append_left hj]

/-- The builder at block b, made by this call, holds the text l. -/
def Bd (b : Nat) (l : List UInt8) (w : World) : Prop := Lib.IsBuilderF 100 5 b b (Lib.byteCells l) w
theorem BuilderAtF_below {T e : TypeId} {B b : Nat} {p : Value} {bs : List Value} {w w' : World} (h : Lib.BuilderAtF T e B b p bs w) (k : Below w.heap.size w w') : Lib.BuilderAtF T e B b p bs w' := by
  obtain ⟨h1, v, h2, h3, h4⟩ := h
  refine ⟨h1, v, (k.block b (lt_of_some h2)).trans h2, ?_, h4⟩
  obtain ⟨h5, h6 | ⟨g, cap, cur, fz, a1, a2, a3, a4⟩⟩ := h3
  · exact ⟨h5, .inl h6⟩
  · exact ⟨h5, .inr ⟨g, cap, cur, fz, a1, a2, (k.block g (lt_of_some a3)).trans a3, a4⟩⟩
theorem Bd.below {b : Nat} {l : List UInt8} {w w' : World} (h : Bd b l w) (k : Below w.heap.size w w') : Bd b l w' := by
  rcases h with h | h
  · exact .inl (BuilderAtF_below h k)
  · exact .inr (BuilderAtF_below h k)
theorem Bd.new (w : World) : Bd w.heap.size [] (w.alloc (.cells #[.pointer none, .slice none 0 0] 100)) := Lib.IsBuilderF.of (Lib.fresh_isBuilder _ _ w)

theorem repeatL_one (c : Nat) : Lib.repeatL [48] c = List.replicate c 48 := by
  induction c with
  | zero => rfl
  | succ c ih => rw [Lib.repeatL, ih]; rfl

theorem Itoa_nat (n : Nat) (h : n ≤ 9000000000000000000) (w : World) (hT : Tq w) :
    Calls Tryz.prog 92 #[.int .i64 (n : Int)] w fun e w' => e = .returned (.string ⟨(Lib.decDigits n).toArray⟩) ∧ Below w.heap.size w w' := by
  refine (Tryz.strconv_Itoa n (by omega) (by omega) w hT).mono ?_
  rintro e w' ⟨rfl, k, os, rfl⟩
  refine ⟨?_, below_grow w k os⟩
  unfold Lib.itoa
  rw [if_neg (by omega)]
  rfl

theorem Tryz.Write_k (B b : Nat) (bs : List Value) (s : ByteArray) (w : World) (h : Lib.IsBuilderF 100 5 B b bs w) (hlen : bs.length + s.size ≤ 140737488355328) (hBw : B ≤ w.heap.size) :
    Calls Tryz.prog 72 #[.pointer (some ⟨b, 0, none⟩), .string s] w fun e w' => e = .returned (.tuple #[.int .i64 s.size, .nilIface]) ∧ (Lib.BuilderAtF 100 5 B b (.pointer (some ⟨b, 0, none⟩)) (bs ++ Lib.strCells s) w' ∧ Below B w w' ∧ Lib.OthersKept 5 (some b) w w') :=
  Any.Builder_WriteString_k (ρ := Tryz.lays105_ren) { Tryz.lays105 with } Tryz.Builder_Extra_105 B b bs s w h hlen hBw

theorem Write_text (b : Nat) (l s : List UInt8) (w : World) (h : Bd b l w) (hb : b ≤ w.heap.size) (hl : l.length + s.length ≤ 100000000) :
    Calls Tryz.prog 72 #[.pointer (some ⟨b, 0, none⟩), .string ⟨s.toArray⟩] w fun e w' => e = .returned (.tuple #[.int .i64 s.length, .nilIface]) ∧ Bd b (l ++ s) w' ∧ Below b w w' := by
  refine (Tryz.Write_k b b _ ⟨s.toArray⟩ w h (by rw [Lib.byteCells_length]; show l.length + s.toArray.size ≤ _; simp; omega) hb).mono ?_
  rintro e w' ⟨rfl, h1, h2, _⟩
  refine ⟨rfl, .inr ?_, h2⟩
  rw [Lib.byteCells_append]
  exact h1

theorem pow9 (m : Nat) : Bs ^ m = 10 ^ (9 * m) := by rw [Nat.pow_mul]
theorem text_len (x m : Nat) (hm : 1 ≤ m) (h : x < Bs ^ m) : (Lib.decDigits x).length ≤ 9 * m := dec_len x (9 * m) (by omega) (by rw [← pow9]; exact h)

set_option maxHeartbeats 4000000 in
theorem String_any (v : Value) (n m : Nat) (w : World) (h : LN w v n) (hn : n < Bs ^ m) (hm1 : 1 ≤ m) (hm : m ≤ 1000000) (hT : Tq w) :
    Calls Tryz.prog 83 #[.agg #[v]] w fun e w' => e = .returned (.string ⟨(Lib.decDigits n).toArray⟩) ∧ Below w.heap.size w w' := by
  obtain ⟨k, ax, gx, ox, cx, rfl, nx, hpx, hcx, hlx⟩ := h.open
  have hkm := nx.le hn
  have HNX : Hid (Nd k n) := nx
  have HN : Hid (n < Bs ^ m) := hn
  have HT : Hid (Tq w) := hT
  clear h nx hn hT
  by_cases hk0 : k = 0
  · subst hk0
    have hn0 : n = 0 := by have := HNX.out.lt; simpa using this
    subst hn0
    clear hpx hcx hlx
    go_enter Tryz.func83, Tryz.ntmps83
    go_wp2
    go_ret
    exact ⟨by rw [dec_lt (by decide)]; rfl, (Below.refl _ _).alloc (Nat.le_refl _) _⟩
  · obtain ⟨L, rfl⟩ : ∃ L, k = L + 1 := ⟨k - 1, by omega⟩
    obtain rfl := hpx (by omega)
    have hlx := hlx (by omega)
    have HCX : Hid (∀ W, Below w.heap.size w W → ∀ i, i < L + 1 → W.cell? ⟨gx, ox + i, none⟩ = some (.int .i64 ((n / Bs ^ i % Bs : Nat) : Int))) := fun W k i hi => (k.cell (p := ⟨gx, ox + i, none⟩) hlx).trans (hcx i hi)
    have hge : Bs ^ L ≤ n := by rcases HNX.out.ge with h | h; omega; simpa using h
    have HGE : Hid (Bs ^ L ≤ n) := hge
    clear hpx hcx hge hk0
    obtain ⟨W0, hW0⟩ : ∃ W0, W0 = ((w.alloc (.cells #[.slice (some ⟨gx, ox, none⟩) (L + 1) cx] 116)).alloc (.cells #[.pointer none, .slice none 0 0] 100)) := ⟨_, rfl⟩
    have z0 : W0.heap.size = w.heap.size + 2 := by rw [hW0]; simp
    have KB0 : Hid (Below w.heap.size w W0) := by
      show Below _ _ _
      rw [hW0]; exact ((Below.refl _ _).alloc (Nat.le_refl _) _).alloc (by simp) _
    have X0 : Cl w.heap.size [.slice (some ⟨gx, ox, none⟩) (L + 1) cx] 116 W0 := by rw [hW0]; exact (Cl.new [.slice (some ⟨gx, ox, none⟩) (L + 1) cx] _ w).alloc _
    have B0 : Bd (w.heap.size + 1) [] W0 := by rw [hW0]; have := Bd.new (w.alloc (.cells #[.slice (some ⟨gx, ox, none⟩) (L + 1) cx] 116)); simpa using this
    have HX0 : Hid (Cl w.heap.size [.slice (some ⟨gx, ox, none⟩) (L + 1) cx] 116 W0) := X0
    have HB0 : Hid (Bd (w.heap.size + 1) [] W0) := B0
    obtain ⟨d, hd⟩ : ∃ d, d = n / Bs ^ L % Bs := ⟨_, rfl⟩
    have htop : n / Bs ^ L % Bs = n / Bs ^ L := Nat.mod_eq_of_lt (by rw [Nat.div_lt_iff_lt_mul (bs_pos L), Nat.mul_comm, ← pow_s]; exact HNX.out.lt)
    have q0 : ∀ x y : Obj, ((w.alloc x).alloc y).cell? ⟨gx, ox + L, none⟩ = some (.int .i64 (d : Int)) := fun x y => by
      rw [hd]; exact HCX.out _ (((Below.refl _ _).alloc (Nat.le_refl _) _).alloc (by simp) _) L (by omega)
    have hd1 : d ≤ 999999999 := by rw [hd]; exact lim_le (Nat.mod_lt _ (by decide))
    have HD : Hid (d = n / Bs ^ L) := by show _ = _; rw [hd]; exact htop
    have HI0 : Hid (∀ W, Tq W → Calls Tryz.prog 92 #[.int .i64 (d : Int)] W fun e w' => e = .returned (.string ⟨(Lib.decDigits d).toArray⟩) ∧ Below W.heap.size W w') := fun W h => Itoa_nat d (by omega) W h
    clear hd htop X0 B0
    go_enter Tryz.func83, Tryz.ntmps83
    go_wp2_with fail
    rw [← hW0]
    clear q0 hW0
    refine (HI0.out W0 (HT.out.below KB0.out)).mono ?_
    rintro e w1 ⟨rfl, k1⟩
    have D1 := HB0.out.below k1
    go_wp2_with fail
    refine (Write_text (w.heap.size + 1) [] (Lib.decDigits d) w1 D1 (by have := k1.size; omega) (by have := text_len d 1 (by omega) (by rw [Nat.pow_one]; exact Nat.lt_of_le_of_lt hd1 (by decide)); simp; omega)).mono ?_
    rintro e w2 ⟨rfl, D2, k2⟩
    rw [List.nil_append, HD.out] at D2
    have HB2 : Hid (Bd (w.heap.size + 1) (Lib.decDigits (n / Bs ^ L)) w2) := D2
    have HK2 : Hid (Below (w.heap.size + 1) W0 w2) := (k1.mono (by omega)).trans k2
    have z2 : w.heap.size + 2 ≤ w2.heap.size := by have := HK2.out.size; omega
    clear D1 k1 D2 k2 HI0 HB0
    go_wp2
    go_loopw [21] (fun iv wx => ∃ i : Nat, i ≤ L ∧ iv = .int .i64 (i : Int) ∧ Hid (Bd (w.heap.size + 1) (Lib.decDigits (n / Bs ^ (L - i))) wx ∧ Below (w.heap.size + 1) W0 wx)) (fun iv _ => L - (intOf iv).toNat)
    case atStart => exact ⟨0, Nat.zero_le _, rfl, HB2.out, HK2.out⟩
    case round =>
      clear HB2 HK2
      obtain ⟨i, hiL, rfl, HR⟩ := hrel
      have hzr : w.heap.size + 2 ≤ wr.heap.size := by have := HR.out.2.size; omega
      by_cases hlt : i < L
      · obtain ⟨j, hj⟩ : ∃ j, j = L - 1 - i := ⟨_, rfl⟩
        obtain ⟨d, hd⟩ : ∃ d, d = n / Bs ^ j % Bs := ⟨_, rfl⟩
        have hd1 : d ≤ 999999999 := by rw [hd]; exact lim_le (Nat.mod_lt _ (by decide))
        have q1 : wr.cell? ⟨w.heap.size, 0, none⟩ = some (.slice (some ⟨gx, ox, none⟩) (L + 1) cx) := by
          have a := HX0.out.cell 0
          rw [HR.out.2.cell (p := ⟨w.heap.size, 0, none⟩) (by show w.heap.size < _; omega)]
          simpa using a
        have q0 : wr.cell? ⟨gx, ox + (L - 1 - i), none⟩ = some (.int .i64 (d : Int)) := by
          rw [hd, hj]; exact HCX.out _ (KB0.out.trans (HR.out.2.mono (by omega))) (L - 1 - i) (by omega)
        have hjI : (L : Int) - 1 - (i : Int) = ((L - 1 - i : Nat) : Int) := by omega
        rw [← hj] at q0 hjI
        have HJ : Hid (j = L - 1 - i) := hj
        have hjL : j < L := by omega
        have HDd : Hid (d = n / Bs ^ j % Bs) := hd
        have HTr : Hid (Tq wr) := HT.out.below (KB0.out.trans (HR.out.2.mono (by omega)))
        have hdl : (Lib.decDigits d).length ≤ 9 := text_len d 1 (by omega) (by rw [Nat.pow_one]; exact Nat.lt_of_le_of_lt hd1 (by decide))
        obtain ⟨s, hs⟩ : ∃ s, s = Lib.decDigits d := ⟨_, rfl⟩
        rw [← hs] at hdl
        obtain ⟨c, hc⟩ : ∃ c : Nat, c = 9 - s.length := ⟨_, rfl⟩
        have hcI : (9 : Int) - (s.length : Int) = (c : Int) := by omega
        have HS : Hid (s = Lib.decDigits d) := hs
        have HCc : Hid (c = 9 - s.length) := hc
        have hc9 : c ≤ 9 := by omega
        have HI0 : Hid (∀ W, Tq W → Calls Tryz.prog 92 #[.int .i64 (d : Int)] W fun e w' => e = .returned (.string ⟨s.toArray⟩) ∧ Below W.heap.size W w') := fun W h => by rw [hs]; exact Itoa_nat d (by omega) W h
        clear hj hd hs hc
        go_wp2_with fail
        refine (HI0.out wr HTr.out).mono ?_
        rintro e w1 ⟨rfl, k1⟩
        have D1 : Hid (Bd (w.heap.size + 1) (Lib.decDigits (n / Bs ^ (L - i))) w1) := HR.out.1.below k1
        have z1 := k1.size
        have HK1 : Hid (Below (w.heap.size + 1) W0 w1) := HR.out.2.trans (k1.mono (by omega))
        clear k1 q0 q1
        have HRep : Hid (∀ W, Calls Tryz.prog 73 #[.string ⟨#[48]⟩, .int .i64 (c : Int)] W fun e w' => e = .returned (.string ⟨(List.replicate c (48 : UInt8)).toArray⟩) ∧ Below W.heap.size W w') := fun W => by
          have := Tryz.strings_Repeat ⟨#[48]⟩ c W (by omega) (by show 1 * c ≤ _; omega)
          rw [← repeatL_one]; exact this
        have hTx : (Lib.decDigits (n / Bs ^ (L - i))).length ≤ 9000000 := by
          have h1 : n / Bs ^ (L - i) < Bs ^ m := Nat.lt_of_le_of_lt (Nat.div_le_self _ _) HN.out
          have := text_len _ m hm1 h1
          omega
        have HTx : Hid ((Lib.decDigits (n / Bs ^ (L - i))).length ≤ 9000000) := hTx
        have HStep : Hid (Lib.decDigits (n / Bs ^ (L - i)) ++ List.replicate c 48 ++ s = Lib.decDigits (n / Bs ^ (L - (i + 1)))) := by
          show _ = _
          have h1 := dec_limb n j (by
            have := HGE.out
            have h2 := Nat.pow_le_pow_right (show 0 < Bs by decide) (show j + 1 ≤ L by omega)
            omega)
          rw [show L - (i + 1) = j by have := HJ.out; omega, h1, show L - i = j + 1 by have := HJ.out; omega, HCc.out, HS.out, HDd.out, List.append_assoc]
        clear hTx
        go_wp2_with fail
        refine (HRep.out w1).mono ?_
        rintro e w3 ⟨rfl, k3⟩
        have D3 : Hid (Bd (w.heap.size + 1) (Lib.decDigits (n / Bs ^ (L - i))) w3) := D1.out.below k3
        have z3 := k3.size
        have HK3 : Hid (Below (w.heap.size + 1) W0 w3) := HK1.out.trans (k3.mono (by omega))
        clear k3
        go_wp2_with fail
        refine (Write_text (w.heap.size + 1) _ (List.replicate c 48) w3 D3.out (by omega) (by have := HTx.out; simp; omega)).mono ?_
        rintro e w4 ⟨rfl, D4, k4⟩
        have HD4 : Hid (Bd (w.heap.size + 1) (Lib.decDigits (n / Bs ^ (L - i)) ++ List.replicate c 48) w4) := D4
        have z4 := k4.size
        have HK4 : Hid (Below (w.heap.size + 1) W0 w4) := HK3.out.trans k4
        clear D4 k4
        go_wp2_with fail
        refine (Write_text (w.heap.size + 1) _ s w4 HD4.out (by omega) (by have := HTx.out; simp; omega)).mono ?_
        rintro e w5 ⟨rfl, D5, k5⟩
        rw [HStep.out] at D5
        have HD5 : Hid (Bd (w.heap.size + 1) (Lib.decDigits (n / Bs ^ (L - (i + 1)))) w5) := D5
        have HK5 : Hid (Below (w.heap.size + 1) W0 w5) := HK4.out.trans k5
        clear D5 k5
        go_wp2
        go_roundw
        case rel => exact ⟨i + 1, by omega, by go_num, HD5.out, HK5.out⟩
        case measure => simp [intOf]; omega
      · obtain rfl : i = L := by omega
        have HB9 : Hid (Bd (w.heap.size + 1) (Lib.decDigits n) wr) := by
          have := HR.out.1
          rw [Nat.sub_self, Nat.pow_zero, Nat.div_one] at this
          exact this
        go_wp2_with fail
        refine (Tryz.Builder_String_any_k (w.heap.size + 1) (w.heap.size + 1) (Lib.decDigits n) wr HB9.out (by omega)).mono ?_
        rintro e w1 ⟨rfl, _, k1, _⟩
        have HK9 : Hid (Below w.heap.size w w1) := KB0.out.trans ((HR.out.2.trans k1).mono (by omega))
        clear k1
        go_wp2
        go_ret
        exact ⟨rfl, HK9.out⟩

end Go.Proofs.YtcnfhndejkngkaaGreatDoor
end

section
/- Numbers of any length: their decimal digits (Text, String). -/
set_option linter.unusedSimpArgs false
set_option linter.unusedVariables false
set_option maxRecDepth 100000
namespace Go.Proofs.YtcnfhndejkngkaaGreatDoor
open Go.RowKit LgM

/-- A number's decimal digits, with '-' ahead where it is below 0. -/
def decZ (x : Int) : List UInt8 := if x < 0 then 45 :: Lib.decDigits x.natAbs else Lib.decDigits x.natAbs
theorem decZ_nat (n : Nat) : decZ (n : Int) = Lib.decDigits n := by unfold decZ; rw [if_neg (by omega)]; rfl
theorem decZ_neg {x : Int} (h : x < 0) : decZ x = 45 :: Lib.decDigits x.natAbs := by unfold decZ; rw [if_pos h]
theorem decZ_pos {x : Int} (h : ¬ x < 0) : decZ x = Lib.decDigits x.natAbs := by unfold decZ; rw [if_neg h]
theorem pw_ten (m : Nat) : pw m ≤ 10 ^ (10 * m) := by
  induction m with
  | zero => decide
  | succ m ih =>
    rw [show 10 * (m + 1) = 10 * m + 10 by omega, Nat.pow_add, Nat.mul_comm]
    exact Nat.mul_le_mul (by decide) ih
theorem dec_pos (n : Nat) : 1 ≤ (Lib.decDigits n).length := by
  by_cases h : n < 10
  · rw [dec_lt h]; simp
  · rw [dec_ge h]; simp
theorem dec_pw {n m : Nat} (h : n < pw m) (hm : 1 ≤ m) : (Lib.decDigits n).length ≤ 10 * m := dec_len n (10 * m) (by omega) (Nat.lt_of_lt_of_le h (pw_ten m))
theorem Tryz.infoU8 : (Tryz.prog.info? 5).map (fun i => (i.zero, i.size, i.bytes)) = some (some (.int .u8 0), 1, 1) := by kernel_rfl
theorem own_later {B n size : Nat} {w w' : World} {v : Value} {xs : List Value} {e : TypeId} (h : w.ownsRow B e size v n xs) (k : Below w.heap.size w w') : w'.ownsRow B e size v n xs := by
  refine ⟨h.1, ?_⟩
  rcases h.2 with hn | ⟨g, cap, cur, rfl, hb, hgg, rest⟩
  · exact .inl hn
  · exact .inr ⟨g, cap, cur, rfl, hb, (k.block g (Array.getElem?_eq_some_iff.1 hgg).1).trans hgg, rest⟩
def u8s (l : List UInt8) : List Value := l.map fun c => .int .u8 (c.toNat : Int)
/-- The digits so far, the last one first. -/
structure Dg (w wx : World) (v : Value) (cs : List UInt8) : Prop where
  row : wx.ownsRow w.heap.size 5 1 v cs.length (u8s cs)
  k : Below w.heap.size w wx
theorem Dg.below {w wx wy : World} {v : Value} {cs : List UInt8} (h : Dg w wx v cs) (k : Below wx.heap.size wx wy) : Dg w wy v cs := ⟨own_later h.row k, h.k.trans (k.mono h.k.size)⟩
theorem own_news {b : Nat} {l : List Value} {t : TypeId} {w : World} (h : Cl b l t w) : ∀ j u, l[j]? = some u → w.cell? ((⟨b, 0, none⟩ : Addr).add j) = some u := by
  intro j u hu
  have hadd : (⟨b, 0, none⟩ : Addr).add j = ⟨b, j, none⟩ := by unfold Addr.add; split <;> simp_all
  rw [hadd, h.cell j]
  exact hu
/-- What is left and what is there make the digits. -/
def Lf (n a : Nat) (cs : List UInt8) : Prop := (0 < a ∧ Lib.decDigits n = Lib.decDigits a ++ cs.reverse) ∨ (a = 0 ∧ Lib.decDigits n = cs.reverse)
theorem Lf.step {n a : Nat} {cs : List UInt8} (h : Lf n a cs) (ha : 0 < a) : Lf n (a / 10) (cs ++ [UInt8.ofNat (48 + a % 10)]) := by
  rcases h with ⟨_, h⟩ | ⟨h, _⟩
  · by_cases h1 : a < 10
    · refine .inr ⟨by omega, ?_⟩
      rw [h, dec_lt h1, List.reverse_append, Nat.mod_eq_of_lt h1]; rfl
    · refine .inl ⟨by omega, ?_⟩
      rw [h, dec_ge h1, List.reverse_append, List.append_assoc]; rfl
  · omega
theorem Lf.len {n a : Nat} {cs : List UInt8} (h : Lf n a cs) : cs.length ≤ (Lib.decDigits n).length := by
  rcases h with ⟨_, h⟩ | ⟨_, h⟩
  · rw [h]; simp
  · rw [h]; simp
/-- A row that is turned from its two ends: i of each are done. -/
def rv (T : List UInt8) (i j : Nat) : Nat := if j < i ∨ T.length - 1 - i < j then (T.getD (T.length - 1 - j) 0).toNat else (T.getD j 0).toNat
/-- The row in memory. -/
def Rvd (T : List UInt8) (g i : Nat) (W : World) : Prop := ∀ j, j < T.length → W.cell? ⟨g, j, none⟩ = some (.int .u8 (rv T i j : Int)) ∧ W.frozen? ⟨g, j, none⟩ = false
theorem rv_zero (T : List UInt8) {j : Nat} (h : j < T.length) : rv T 0 j = (T.getD j 0).toNat := by unfold rv; rw [if_neg (by omega)]
theorem rv_end {T : List UInt8} {i j : Nat} (h : j < T.length) (hi : T.length - 1 - i ≤ i) (hi2 : i < T.length) : rv T i j = (T.getD (T.length - 1 - j) 0).toNat := by
  unfold rv
  split
  · rfl
  · rw [show T.length - 1 - j = j by omega]
theorem rv_step {T : List UInt8} {i j : Nat} (h : j < T.length) (hi : i < T.length - 1 - i) : rv T (i + 1) j = if j = T.length - 1 - i then rv T i i else if j = i then rv T i (T.length - 1 - i) else rv T i j := by
  have e1 : rv T i i = (T.getD i 0).toNat := by unfold rv; rw [if_neg (by omega)]
  have e2 : rv T i (T.length - 1 - i) = (T.getD (T.length - 1 - i) 0).toNat := by unfold rv; rw [if_neg (by omega)]
  rw [e1, e2]
  by_cases h1 : j = T.length - 1 - i
  · rw [if_pos h1]; unfold rv
    rw [if_pos (by omega), h1, show T.length - 1 - (T.length - 1 - i) = i by omega]
  · rw [if_neg h1]
    by_cases h2 : j = i
    · rw [if_pos h2]; unfold rv
      rw [if_pos (by omega), h2]
    · rw [if_neg h2]; unfold rv
      by_cases h3 : j < i ∨ T.length - 1 - i < j
      · rw [if_pos h3, if_pos (by omega)]
      · rw [if_neg h3, if_neg (by omega)]

end Go.Proofs.YtcnfhndejkngkaaGreatDoor
end
