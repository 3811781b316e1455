import Derived.Shelf.Strings.Builder1
import Derived.Shelf.Strings.BuilderK
import Derived.Shelf.LaysM
import Derived.Shelf.Strconv.Itoa3
import Derived.Shelf.Strings.Repeat
import Derived.Test.YtnkjadpmigpneaaGreatDoorProg
import Derived.Test.YtnkjadpmigpneaaGreatDoorJsD
import Derived.Lib.AppendIntMem
import Derived.Test.YtnkjadpmigpneaaGreatDoorJsN
set_option linter.unusedSimpArgs false
set_option linter.unusedVariables false
namespace Go.Proofs.YtnkjadpmigpneaaGreatDoor
section
open Go.Shelf
def Tryz.lays169_ren:Go.Shelf.Ren:=⟨fun | 169=>101 | n=>n,fun | 70=>115 | 9=>9 | 0=>0 | 72=>117 | 37=>105 | 127=>139 | 3=>3 | 5=>5 | n=>n,fun | n=>n⟩
theorem Tryz.lays169:Go.Proofs.Lays.n169 Tryz.prog Tryz.lays169_ren:={
 mixed:=by kernel_rfl
 f169:=Tryz.func101.trans (congrArg some (by kernel_rfl))
 t0:=Tryz.underlying0
 a0:=Tryz.isAgg0
 z0:=Tryz.sizeOf0
 v0:=Tryz.zeroValue0
 t3:=Tryz.underlying3
 a3:=Tryz.isAgg3
 z3:=Tryz.sizeOf3
 v3:=Tryz.zeroValue3
 t9:=Tryz.underlying9
 a9:=Tryz.isAgg9
 z9:=Tryz.sizeOf9
 v9:=Tryz.zeroValue9
 t37:=Tryz.underlying105
 a37:=Tryz.isAgg105
 z37:=Tryz.sizeOf105
 v37:=Tryz.zeroValue105
 t70:=Tryz.underlying115
 a70:=Tryz.isAgg115
 z70:=Tryz.sizeOf115
 v70:=Tryz.zeroValue115
 t72:=Tryz.underlying117
 a72:=Tryz.isAgg117
 z72:=Tryz.sizeOf117
 v72:=Tryz.zeroValue117
 t127:=Tryz.underlying139
 a127:=Tryz.isAgg139
 z127:=Tryz.sizeOf139
 v127:=Tryz.zeroValue139 }
theorem Tryz.Builder_Extra_169:Builder.Extra Tryz.prog Tryz.lays169_ren:={
 sizeBuilder:=by kernel_rfl
 liesBuilder:=by kernel_rfl
 t5:=Tryz.underlying5
 a5:=Tryz.isAgg5
 z5:=Tryz.sizeOf5
 v5:=Tryz.zeroValue5
 infoByte:=by kernel_rfl
 cellsByte:=by kernel_rfl
 sizeByte:=by kernel_rfl
 neB5:=by decide }
open Go.RowKit in
theorem Tryz.Builder_String_any_k (B b:Nat) (l:List UInt8) (w:World) (h:Lib.IsBuilderF 117 5 B b (Lib.byteCells l) w) (hBw:B≤w.heap.size) :
  Calls Tryz.prog 101 #[.pointer (some ⟨b,0,none⟩)] w fun e w'=>e = .returned (.string ⟨l.toArray⟩)∧(Lib.IsBuilderF 117 5 B b (Lib.byteCells l) w'∧Below B w w'∧Lib.OthersKept 5 (some b) w w'):=Any.Builder_String_any_k Tryz.lays169 Tryz.Builder_Extra_169 B b l w h hBw
def Tryz.laysM171_ren:Go.Shelf.Ren:=⟨fun | 171=>99 | 243=>118 | 246=>129 | 283=>137 | 284=>138 | 285=>139 | 286=>140 | 129=>146 | 317=>145 | 318=>147 | 319=>148 | 320=>149 | 337=>152 | 338=>142 | n=>n,fun | 3=>3 | 9=>9 | 2=>2 | 4=>4 | 171=>151 | 0=>0 | 53=>110 | 37=>105 | 5=>5 | 173=>154 | 212=>159 | 51=>106 | 20=>20 | 213=>160 | 46=>84 | 232=>166 | 233=>162 | n=>n,fun | 17=>0 | 18=>3 | 19=>2 | n=>n⟩
theorem Tryz.laysM171:Go.Proofs.LaysM.n171 Tryz.prog Tryz.laysM171_ren:={
 mixed:=by kernel_rfl
 f129:=Tryz.func146.trans (congrArg some (by kernel_rfl))
 f171:=Tryz.func99.trans (congrArg some (by kernel_rfl))
 f243:=Tryz.func118.trans (congrArg some (by kernel_rfl))
 f246:=Tryz.func129.trans (congrArg some (by kernel_rfl))
 f283:=Tryz.func137.trans (congrArg some (by kernel_rfl))
 f284:=Tryz.func138.trans (congrArg some (by kernel_rfl))
 f285:=Tryz.func139.trans (congrArg some (by kernel_rfl))
 f286:=Tryz.func140.trans (congrArg some (by kernel_rfl))
 f317:=Tryz.func145.trans (congrArg some (by kernel_rfl))
 f318:=Tryz.func147.trans (congrArg some (by kernel_rfl))
 f319:=Tryz.func148.trans (congrArg some (by kernel_rfl))
 f320:=Tryz.func149.trans (congrArg some (by kernel_rfl))
 f337:=Tryz.func152.trans (congrArg some (by kernel_rfl))
 f338:=Tryz.func142.trans (congrArg some (by kernel_rfl))
 t0:=Tryz.underlying0
 a0:=Tryz.isAgg0
 z0:=Tryz.sizeOf0
 v0:=Tryz.zeroValue0
 t2:=Tryz.underlying2
 a2:=Tryz.isAgg2
 z2:=Tryz.sizeOf2
 v2:=Tryz.zeroValue2
 t3:=Tryz.underlying3
 a3:=Tryz.isAgg3
 z3:=Tryz.sizeOf3
 v3:=Tryz.zeroValue3
 t4:=Tryz.underlying4
 a4:=Tryz.isAgg4
 z4:=Tryz.sizeOf4
 v4:=Tryz.zeroValue4
 t5:=Tryz.underlying5
 a5:=Tryz.isAgg5
 z5:=Tryz.sizeOf5
 v5:=Tryz.zeroValue5
 t9:=Tryz.underlying9
 a9:=Tryz.isAgg9
 z9:=Tryz.sizeOf9
 v9:=Tryz.zeroValue9
 t20:=Tryz.underlying20
 a20:=Tryz.isAgg20
 z20:=Tryz.sizeOf20
 v20:=Tryz.zeroValue20
 t37:=Tryz.underlying105
 a37:=Tryz.isAgg105
 z37:=Tryz.sizeOf105
 v37:=Tryz.zeroValue105
 t46:=Tryz.underlying84
 a46:=Tryz.isAgg84
 z46:=Tryz.sizeOf84
 v46:=Tryz.zeroValue84
 t51:=Tryz.underlying106
 a51:=Tryz.isAgg106
 z51:=Tryz.sizeOf106
 v51:=Tryz.zeroValue106
 t53:=Tryz.underlying110
 a53:=Tryz.isAgg110
 z53:=Tryz.sizeOf110
 v53:=Tryz.zeroValue110
 t171:=Tryz.underlying151
 a171:=Tryz.isAgg151
 z171:=Tryz.sizeOf151
 v171:=Tryz.zeroValue151
 t173:=Tryz.underlying154
 a173:=Tryz.isAgg154
 z173:=Tryz.sizeOf154
 v173:=Tryz.zeroValue154
 t212:=Tryz.underlying159
 a212:=Tryz.isAgg159
 z212:=Tryz.sizeOf159
 v212:=Tryz.zeroValue159
 t213:=Tryz.underlying160
 a213:=Tryz.isAgg160
 z213:=Tryz.sizeOf160
 t232:=Tryz.underlying166
 a232:=Tryz.isAgg166
 z232:=Tryz.sizeOf166
 v232:=Tryz.zeroValue166
 t233:=Tryz.underlying162
 a233:=Tryz.isAgg162
 z233:=Tryz.sizeOf162
 v233:=Tryz.zeroValue162
 g17:=by kernel_rfl
 g18:=by kernel_rfl
 g19:=by kernel_rfl
 i0:=by kernel_rfl
 i2:=by kernel_rfl
 i3:=by kernel_rfl
 i4:=by kernel_rfl
 i5:=by kernel_rfl
 i9:=by kernel_rfl
 i20:=by kernel_rfl
 i37:=by kernel_rfl
 i46:=by kernel_rfl
 i51:=by kernel_rfl
 i53:=by kernel_rfl
 i171:=by kernel_rfl
 i173:=by kernel_rfl
 i212:=by kernel_rfl
 i232:=by kernel_rfl
 i233:=by kernel_rfl
 m17:=by kernel_rfl
 m18:=by kernel_rfl
 m19:=by kernel_rfl }
open Go.RowKit Go.Sort Go.Lib in
theorem Tryz.strconv_Itoa (n : Int) (h0 : -9223372036854775808 ≤ n) (h1 : n ≤ 9223372036854775807) (w : World) (htab : Lib.TabIs Tryz.prog w "internal/strconv.uint64pow10" .u64 Lib.pow10Tab) :
  Calls Tryz.prog 99 #[.int .i64 n] w fun e w'=>e = .returned (.string ⟨(Lib.itoa n).toArray⟩)∧∃ k os,w' = grow (w.drewN k) os:=Any.strconv_Itoa Tryz.laysM171 n h0 h1 w htab
def Tryz.lays105_ren:Go.Shelf.Ren:=⟨fun | 105=>100 | 212=>119 | 99=>120 | 165=>121 | 166=>98 | 170=>122 | 169=>101 | 263=>130 | 264=>131 | 206=>132 | 240=>117 | 241=>133 | 276=>128 | 277=>141 | n=>n,fun | 9=>9 | 3=>3 | 4=>4 | 20=>20 | 0=>0 | 46=>84 | 109=>135 | 5=>5 | 72=>117 | 76=>120 | 51=>106 | 146=>145 | 53=>110 | 148=>147 | 70=>115 | 37=>105 | 75=>119 | 127=>139 | 164=>142 | 80=>33 | n=>n,fun | n=>n⟩
theorem Tryz.lays105:Go.Proofs.Lays.n105 Tryz.prog Tryz.lays105_ren:={
 mixed:=by kernel_rfl
 f99:=Tryz.func120.trans (congrArg some (by kernel_rfl))
 f105:=Tryz.func100.trans (congrArg some (by kernel_rfl))
 f165:=Tryz.func121.trans (congrArg some (by kernel_rfl))
 f166:=Tryz.func98.trans (congrArg some (by kernel_rfl))
 f169:=Tryz.func101.trans (congrArg some (by kernel_rfl))
 f170:=Tryz.func122.trans (congrArg some (by kernel_rfl))
 f206:=Tryz.func132.trans (congrArg some (by kernel_rfl))
 f212:=Tryz.func119.trans (congrArg some (by kernel_rfl))
 f240:=Tryz.func117.trans (congrArg some (by kernel_rfl))
 f241:=Tryz.func133.trans (congrArg some (by kernel_rfl))
 f263:=Tryz.func130.trans (congrArg some (by kernel_rfl))
 f264:=Tryz.func131.trans (congrArg some (by kernel_rfl))
 f276:=Tryz.func128.trans (congrArg some (by kernel_rfl))
 f277:=Tryz.func141.trans (congrArg some (by kernel_rfl))
 t0:=Tryz.underlying0
 a0:=Tryz.isAgg0
 z0:=Tryz.sizeOf0
 v0:=Tryz.zeroValue0
 t3:=Tryz.underlying3
 a3:=Tryz.isAgg3
 z3:=Tryz.sizeOf3
 v3:=Tryz.zeroValue3
 t4:=Tryz.underlying4
 a4:=Tryz.isAgg4
 z4:=Tryz.sizeOf4
 v4:=Tryz.zeroValue4
 t5:=Tryz.underlying5
 a5:=Tryz.isAgg5
 z5:=Tryz.sizeOf5
 v5:=Tryz.zeroValue5
 t9:=Tryz.underlying9
 a9:=Tryz.isAgg9
 z9:=Tryz.sizeOf9
 v9:=Tryz.zeroValue9
 t20:=Tryz.underlying20
 a20:=Tryz.isAgg20
 z20:=Tryz.sizeOf20
 v20:=Tryz.zeroValue20
 t37:=Tryz.underlying105
 a37:=Tryz.isAgg105
 z37:=Tryz.sizeOf105
 v37:=Tryz.zeroValue105
 t46:=Tryz.underlying84
 a46:=Tryz.isAgg84
 z46:=Tryz.sizeOf84
 v46:=Tryz.zeroValue84
 t51:=Tryz.underlying106
 a51:=Tryz.isAgg106
 z51:=Tryz.sizeOf106
 v51:=Tryz.zeroValue106
 t53:=Tryz.underlying110
 a53:=Tryz.isAgg110
 z53:=Tryz.sizeOf110
 v53:=Tryz.zeroValue110
 t70:=Tryz.underlying115
 a70:=Tryz.isAgg115
 z70:=Tryz.sizeOf115
 v70:=Tryz.zeroValue115
 t72:=Tryz.underlying117
 a72:=Tryz.isAgg117
 z72:=Tryz.sizeOf117
 v72:=Tryz.zeroValue117
 t75:=Tryz.underlying119
 a75:=Tryz.isAgg119
 z75:=Tryz.sizeOf119
 v75:=Tryz.zeroValue119
 t76:=Tryz.underlying120
 a76:=Tryz.isAgg120
 z76:=Tryz.sizeOf120
 v76:=Tryz.zeroValue120
 t109:=Tryz.underlying135
 a109:=Tryz.isAgg135
 z109:=Tryz.sizeOf135
 v109:=Tryz.zeroValue135
 t127:=Tryz.underlying139
 a127:=Tryz.isAgg139
 z127:=Tryz.sizeOf139
 v127:=Tryz.zeroValue139
 t146:=Tryz.underlying145
 a146:=Tryz.isAgg145
 z146:=Tryz.sizeOf145
 v146:=Tryz.zeroValue145
 t148:=Tryz.underlying147
 a148:=Tryz.isAgg147
 z148:=Tryz.sizeOf147
 v148:=Tryz.zeroValue147
 t164:=Tryz.underlying142
 a164:=Tryz.isAgg142
 z164:=Tryz.sizeOf142
 v164:=Tryz.zeroValue142 }
theorem Tryz.Builder_Extra_105:Builder.Extra Tryz.prog Tryz.lays105_ren:={
 sizeBuilder:=by kernel_rfl
 liesBuilder:=by kernel_rfl
 t5:=Tryz.underlying5
 a5:=Tryz.isAgg5
 z5:=Tryz.sizeOf5
 v5:=Tryz.zeroValue5
 infoByte:=by kernel_rfl
 cellsByte:=by kernel_rfl
 sizeByte:=by kernel_rfl
 neB5:=by decide }
open Go.RowKit Go.Lib in
theorem Tryz.strings_Repeat (s:ByteArray) (c:Nat) (w:World) (hc:c≤9223372036854775807) (hlen:s.size * c≤140737488355328) :
  Calls Tryz.prog 100 #[.string s,.int .i64 c] w fun e w'=>e = .returned (.string ⟨(Lib.repeatL s.data.toList c).toArray⟩)∧Below w.heap.size w w':=Any.strings_Repeat Tryz.lays105 Tryz.Builder_Extra_105 s c w hc hlen
end
section
set_option maxRecDepth 100000
open Go.RowKit LgM
def Tq (w : World) : Prop := Lib.TabIs Tryz.prog w "internal/strconv.uint64pow10" .u64 Lib.pow10Tab
theorem Tq.below {w w':World} (h:Tq w) (k:Below w.heap.size w w'):Tq w':=Lib.tabBelow_of_tabIs h w' k
theorem below_grow (w:World) (k:Nat) (os:Array Obj):Below w.heap.size w (Sort.grow (w.drewN k) os):=by
 refine ⟨rfl,rfl,rfl,by simp [Sort.grow,World.drewN],fun j hj=>?_⟩
 have:(w.drewN k).heap = w.heap:=rfl
 simp [Sort.grow,this,Array.getElem?_append_left hj]
def Bd (b:Nat) (l:List UInt8) (w:World):Prop:=Lib.IsBuilderF 117 5 b b (Lib.byteCells l) w
theorem BuilderAtF_below {T e:TypeId} {B b:Nat} {p:Value} {bs:List Value} {w w':World} (h:Lib.BuilderAtF T e B b p bs w) (k:Below w.heap.size w w'):Lib.BuilderAtF T e B b p bs w':=by
 obtain ⟨h1,v,h2,h3,h4⟩:=h
 refine ⟨h1,v,(k.block b (lt_of_some h2)).trans h2,?_,h4⟩
 obtain ⟨h5,h6 | ⟨g,cap,cur,fz,a1,a2,a3,a4⟩⟩:=h3
 ·exact ⟨h5,.inl h6⟩
 ·exact ⟨h5,.inr ⟨g,cap,cur,fz,a1,a2,(k.block g (lt_of_some a3)).trans a3,a4⟩⟩
theorem Bd.below {b:Nat} {l:List UInt8} {w w':World} (h:Bd b l w) (k:Below w.heap.size w w'):Bd b l w':=by
 rcases h with h | h
 ·exact .inl (BuilderAtF_below h k)
 ·exact .inr (BuilderAtF_below h k)
theorem Bd.new (w:World):Bd w.heap.size [] (w.alloc (.cells #[.pointer none,.slice none 0 0] 117)):=Lib.IsBuilderF.of (Lib.fresh_isBuilder _ _ w)
theorem repeatL_one (c:Nat):Lib.repeatL [48] c = List.replicate c 48:=by
 induction c with
 | zero=>rfl
 | succ c ih=>rw [Lib.repeatL,ih]; rfl
theorem Itoa_nat (n:Nat) (h:n≤9000000000000000000) (w:World) (hT:Tq w) :
  Calls Tryz.prog 99 #[.int .i64 (n:Int)] w fun e w'=>e = .returned (.string ⟨(Lib.decDigits n).toArray⟩)∧Below w.heap.size w w':=by
 refine (Tryz.strconv_Itoa n (by omega) (by omega) w hT).mono ?_
 rintro e w' ⟨rfl,k,os,rfl⟩
 refine ⟨?_,below_grow w k os⟩
 unfold Lib.itoa
 rw [if_neg (by omega)]
 rfl
theorem Tryz.Write_k (B b:Nat) (bs:List Value) (s:ByteArray) (w:World) (h:Lib.IsBuilderF 117 5 B b bs w) (hlen:bs.length + s.size≤140737488355328) (hBw:B≤w.heap.size) :
  Calls Tryz.prog 98 #[.pointer (some ⟨b,0,none⟩),.string s] w fun e w'=>e = .returned (.tuple #[.int .i64 s.size,.nilIface])∧(Lib.BuilderAtF 117 5 B b (.pointer (some ⟨b,0,none⟩)) (bs ++ Lib.strCells s) w'∧Below B w w'∧Lib.OthersKept 5 (some b) w w') :=
 Any.Builder_WriteString_k (ρ:=Tryz.lays105_ren) { Tryz.lays105 with } Tryz.Builder_Extra_105 B b bs s w h hlen hBw
theorem Write_text (b:Nat) (l s:List UInt8) (w:World) (h:Bd b l w) (hb:b≤w.heap.size) (hl:l.length + s.length≤100000000) :
  Calls Tryz.prog 98 #[.pointer (some ⟨b,0,none⟩),.string ⟨s.toArray⟩] w fun e w'=>e = .returned (.tuple #[.int .i64 s.length,.nilIface])∧Bd b (l ++ s) w'∧Below b w w':=by
 refine (Tryz.Write_k b b _ ⟨s.toArray⟩ w h (by rw [Lib.byteCells_length]; show l.length + s.toArray.size≤_; simp; omega) hb).mono ?_
 rintro e w' ⟨rfl,h1,h2,_⟩
 refine ⟨rfl,.inr ?_,h2⟩
 rw [Lib.byteCells_append]
 exact h1
theorem pow9 (m:Nat):Bs ^ m = 10 ^ (9 * m):=by rw [Nat.pow_mul]
theorem text_len (x m:Nat) (hm:1≤m) (h:x < Bs ^ m):(Lib.decDigits x).length≤9 * m:=dec_len x (9 * m) (by omega) (by rw [← pow9]; exact h)
set_option maxHeartbeats 4000000 in
theorem String_any (v:Value) (n m:Nat) (w:World) (h:LN w v n) (hn:n < Bs ^ m) (hm1:1≤m) (hm:m≤1000000) (hT:Tq w) :
  Calls Tryz.prog 68 #[.agg #[v]] w fun e w'=>e = .returned (.string ⟨(Lib.decDigits n).toArray⟩)∧Below w.heap.size w w':=by
 obtain ⟨k,ax,gx,ox,cx,rfl,nx,hpx,hcx,hlx⟩:=h.open
 have hkm:=nx.le hn
 have HNX:Hid (Nd k n):=nx
 have HN:Hid (n < Bs ^ m):=hn
 have HT:Hid (Tq w):=hT
 clear h nx hn hT
 by_cases hk0:k = 0
 ·subst hk0
  have hn0:n = 0:=by have:=HNX.out.lt; simpa using this
  subst hn0
  clear hpx hcx hlx
  go_enter Tryz.func68,Tryz.ntmps68
  go_wp2
  go_ret
  exact ⟨by rw [dec_lt (by decide)]; rfl,(Below.refl _ _).alloc (Nat.le_refl _) _⟩
 ·obtain ⟨L,rfl⟩:∃ L,k = L + 1:=⟨k - 1,by omega⟩
  obtain rfl:=hpx (by omega)
  have hlx:=hlx (by omega)
  have HCX:Hid (∀ W,Below w.heap.size w W→∀ i,i < L + 1→W.cell? ⟨gx,ox + i,none⟩ = some (.int .i64 ((n / Bs ^ i % Bs:Nat):Int))):=fun W k i hi=>(k.cell (p:=⟨gx,ox + i,none⟩) hlx).trans (hcx i hi)
  have hge:Bs ^ L≤n:=by rcases HNX.out.ge with h | h; omega; simpa using h
  have HGE:Hid (Bs ^ L≤n):=hge
  clear hpx hcx hge hk0
  obtain ⟨W0,hW0⟩:∃ W0,W0 = ((w.alloc (.cells #[.slice (some ⟨gx,ox,none⟩) (L + 1) cx] 64)).alloc (.cells #[.pointer none,.slice none 0 0] 117)):=⟨_,rfl⟩
  have z0:W0.heap.size = w.heap.size + 2:=by rw [hW0]; simp
  have KB0:Hid (Below w.heap.size w W0):=by
   show Below _ _ _
   rw [hW0]; exact ((Below.refl _ _).alloc (Nat.le_refl _) _).alloc (by simp) _
  have X0:Cl w.heap.size [.slice (some ⟨gx,ox,none⟩) (L + 1) cx] 64 W0:=by rw [hW0]; exact (Cl.new [.slice (some ⟨gx,ox,none⟩) (L + 1) cx] _ w).alloc _
  have B0:Bd (w.heap.size + 1) [] W0:=by rw [hW0]; have:=Bd.new (w.alloc (.cells #[.slice (some ⟨gx,ox,none⟩) (L + 1) cx] 64)); simpa using this
  have HX0:Hid (Cl w.heap.size [.slice (some ⟨gx,ox,none⟩) (L + 1) cx] 64 W0):=X0
  have HB0:Hid (Bd (w.heap.size + 1) [] W0):=B0
  obtain ⟨d,hd⟩:∃ d,d = n / Bs ^ L % Bs:=⟨_,rfl⟩
  have htop:n / Bs ^ L % Bs = n / Bs ^ L:=Nat.mod_eq_of_lt (by rw [Nat.div_lt_iff_lt_mul (bs_pos L),Nat.mul_comm,← pow_s]; exact HNX.out.lt)
  have q0:∀ x y:Obj,((w.alloc x).alloc y).cell? ⟨gx,ox + L,none⟩ = some (.int .i64 (d:Int)):=fun x y=>by
   rw [hd]; exact HCX.out _ (((Below.refl _ _).alloc (Nat.le_refl _) _).alloc (by simp) _) L (by omega)
  have hd1:d≤999999999:=by rw [hd]; exact lim_le (Nat.mod_lt _ (by decide))
  have HD:Hid (d = n / Bs ^ L):=by show _ = _; rw [hd]; exact htop
  have HI0:Hid (∀ W,Tq W→Calls Tryz.prog 99 #[.int .i64 (d:Int)] W fun e w'=>e = .returned (.string ⟨(Lib.decDigits d).toArray⟩)∧Below W.heap.size W w'):=fun W h=>Itoa_nat d (by omega) W h
  clear hd htop X0 B0
  go_enter Tryz.func68,Tryz.ntmps68
  go_wp2_with fail
  rw [← hW0]
  clear q0 hW0
  refine (HI0.out W0 (HT.out.below KB0.out)).mono ?_
  rintro e w1 ⟨rfl,k1⟩
  have D1:=HB0.out.below k1
  go_wp2_with fail
  refine (Write_text (w.heap.size + 1) [] (Lib.decDigits d) w1 D1 (by have:=k1.size; omega) (by have:=text_len d 1 (by omega) (by rw [Nat.pow_one]; exact Nat.lt_of_le_of_lt hd1 (by decide)); simp; omega)).mono ?_
  rintro e w2 ⟨rfl,D2,k2⟩
  rw [List.nil_append,HD.out] at D2
  have HB2:Hid (Bd (w.heap.size + 1) (Lib.decDigits (n / Bs ^ L)) w2):=D2
  have HK2:Hid (Below (w.heap.size + 1) W0 w2):=(k1.mono (by omega)).trans k2
  have z2:w.heap.size + 2≤w2.heap.size:=by have:=HK2.out.size; omega
  clear D1 k1 D2 k2 HI0 HB0
  go_wp2
  go_loopw [21] (fun iv wx=>∃ i:Nat,i≤L∧iv = .int .i64 (i:Int)∧Hid (Bd (w.heap.size + 1) (Lib.decDigits (n / Bs ^ (L - i))) wx∧Below (w.heap.size + 1) W0 wx)) (fun iv _=>L - (intOf iv).toNat)
  case atStart=>exact ⟨0,Nat.zero_le _,rfl,HB2.out,HK2.out⟩
  case round =>
   clear HB2 HK2
   obtain ⟨i,hiL,rfl,HR⟩:=hrel
   have hzr:w.heap.size + 2≤wr.heap.size:=by have:=HR.out.2.size; omega
   by_cases hlt:i < L
   ·obtain ⟨j,hj⟩:∃ j,j = L - 1 - i:=⟨_,rfl⟩
    obtain ⟨d,hd⟩:∃ d,d = n / Bs ^ j % Bs:=⟨_,rfl⟩
    have hd1:d≤999999999:=by rw [hd]; exact lim_le (Nat.mod_lt _ (by decide))
    have q1:wr.cell? ⟨w.heap.size,0,none⟩ = some (.slice (some ⟨gx,ox,none⟩) (L + 1) cx):=by
     have a:=HX0.out.cell 0
     rw [HR.out.2.cell (p:=⟨w.heap.size,0,none⟩) (by show w.heap.size < _; omega)]
     simpa using a
    have q0:wr.cell? ⟨gx,ox + (L - 1 - i),none⟩ = some (.int .i64 (d:Int)):=by
     rw [hd,hj]; exact HCX.out _ (KB0.out.trans (HR.out.2.mono (by omega))) (L - 1 - i) (by omega)
    have hjI:(L:Int) - 1 - (i:Int) = ((L - 1 - i:Nat):Int):=by omega
    rw [← hj] at q0 hjI
    have HJ:Hid (j = L - 1 - i):=hj
    have hjL:j < L:=by omega
    have HDd:Hid (d = n / Bs ^ j % Bs):=hd
    have HTr:Hid (Tq wr):=HT.out.below (KB0.out.trans (HR.out.2.mono (by omega)))
    have hdl:(Lib.decDigits d).length≤9:=text_len d 1 (by omega) (by rw [Nat.pow_one]; exact Nat.lt_of_le_of_lt hd1 (by decide))
    obtain ⟨s,hs⟩:∃ s,s = Lib.decDigits d:=⟨_,rfl⟩
    rw [← hs] at hdl
    obtain ⟨c,hc⟩:∃ c:Nat,c = 9 - s.length:=⟨_,rfl⟩
    have hcI:(9:Int) - (s.length:Int) = (c:Int):=by omega
    have HS:Hid (s = Lib.decDigits d):=hs
    have HCc:Hid (c = 9 - s.length):=hc
    have hc9:c≤9:=by omega
    have HI0:Hid (∀ W,Tq W→Calls Tryz.prog 99 #[.int .i64 (d:Int)] W fun e w'=>e = .returned (.string ⟨s.toArray⟩)∧Below W.heap.size W w'):=fun W h=>by rw [hs]; exact Itoa_nat d (by omega) W h
    clear hj hd hs hc
    go_wp2_with fail
    refine (HI0.out wr HTr.out).mono ?_
    rintro e w1 ⟨rfl,k1⟩
    have D1:Hid (Bd (w.heap.size + 1) (Lib.decDigits (n / Bs ^ (L - i))) w1):=HR.out.1.below k1
    have z1:=k1.size
    have HK1:Hid (Below (w.heap.size + 1) W0 w1):=HR.out.2.trans (k1.mono (by omega))
    clear k1 q0 q1
    have HRep:Hid (∀ W,Calls Tryz.prog 100 #[.string ⟨#[48]⟩,.int .i64 (c:Int)] W fun e w'=>e = .returned (.string ⟨(List.replicate c (48:UInt8)).toArray⟩)∧Below W.heap.size W w'):=fun W=>by
     have:=Tryz.strings_Repeat ⟨#[48]⟩ c W (by omega) (by show 1 * c≤_; omega)
     rw [← repeatL_one]; exact this
    have hTx:(Lib.decDigits (n / Bs ^ (L - i))).length≤9000000:=by
     have h1:n / Bs ^ (L - i) < Bs ^ m:=Nat.lt_of_le_of_lt (Nat.div_le_self _ _) HN.out
     have:=text_len _ m hm1 h1
     omega
    have HTx:Hid ((Lib.decDigits (n / Bs ^ (L - i))).length≤9000000):=hTx
    have HStep:Hid (Lib.decDigits (n / Bs ^ (L - i)) ++ List.replicate c 48 ++ s = Lib.decDigits (n / Bs ^ (L - (i + 1)))):=by
     show _ = _
     have h1:=dec_limb n j (by
      have:=HGE.out
      have h2:=Nat.pow_le_pow_right (show 0 < Bs by decide) (show j + 1≤L by omega)
      omega)
     rw [show L - (i + 1) = j by have:=HJ.out; omega,h1,show L - i = j + 1 by have:=HJ.out; omega,HCc.out,HS.out,HDd.out,List.append_assoc]
    clear hTx
    go_wp2_with fail
    refine (HRep.out w1).mono ?_
    rintro e w3 ⟨rfl,k3⟩
    have D3:Hid (Bd (w.heap.size + 1) (Lib.decDigits (n / Bs ^ (L - i))) w3):=D1.out.below k3
    have z3:=k3.size
    have HK3:Hid (Below (w.heap.size + 1) W0 w3):=HK1.out.trans (k3.mono (by omega))
    clear k3
    go_wp2_with fail
    refine (Write_text (w.heap.size + 1) _ (List.replicate c 48) w3 D3.out (by omega) (by have:=HTx.out; simp; omega)).mono ?_
    rintro e w4 ⟨rfl,D4,k4⟩
    have HD4:Hid (Bd (w.heap.size + 1) (Lib.decDigits (n / Bs ^ (L - i)) ++ List.replicate c 48) w4):=D4
    have z4:=k4.size
    have HK4:Hid (Below (w.heap.size + 1) W0 w4):=HK3.out.trans k4
    clear D4 k4
    go_wp2_with fail
    refine (Write_text (w.heap.size + 1) _ s w4 HD4.out (by omega) (by have:=HTx.out; simp; omega)).mono ?_
    rintro e w5 ⟨rfl,D5,k5⟩
    rw [HStep.out] at D5
    have HD5:Hid (Bd (w.heap.size + 1) (Lib.decDigits (n / Bs ^ (L - (i + 1)))) w5):=D5
    have HK5:Hid (Below (w.heap.size + 1) W0 w5):=HK4.out.trans k5
    clear D5 k5
    go_wp2
    go_roundw
    case rel=>exact ⟨i + 1,by omega,by go_num,HD5.out,HK5.out⟩
    case measure=>simp [intOf]; omega
   ·obtain rfl:i = L:=by omega
    have HB9:Hid (Bd (w.heap.size + 1) (Lib.decDigits n) wr):=by
     have:=HR.out.1
     rw [Nat.sub_self,Nat.pow_zero,Nat.div_one] at this
     exact this
    go_wp2_with fail
    refine (Tryz.Builder_String_any_k (w.heap.size + 1) (w.heap.size + 1) (Lib.decDigits n) wr HB9.out (by omega)).mono ?_
    rintro e w1 ⟨rfl,_,k1,_⟩
    have HK9:Hid (Below w.heap.size w w1):=KB0.out.trans ((HR.out.2.trans k1).mono (by omega))
    clear k1
    go_wp2
    go_ret
    exact ⟨rfl,HK9.out⟩
end
section
set_option maxRecDepth 100000
open Go.RowKit LgM
def Vx (b:Nat) (x:Int) (w:World):Prop:=∃ a k c,Cl b [.slice a k c,.bool (decide (x < 0))] 66 w∧LN w (.slice a k c) x.natAbs
set_option maxHeartbeats 8000000 in
theorem bsum_any (k n:Nat) (w:World) (hk:k≤60) (hn:n≤1000000000000000000) (hT:Tb w) :
  Calls Tryz.prog 51 #[.int .i64 (k:Int),.int .i64 (n:Int)] w fun e w'=>∃ u,e = .returned (.agg #[u,.bool false])∧LN w' u (BN.pk k n)∧Below w.heap.size w w':=by
 obtain ⟨K2,hK2⟩:∃ K2,K2 = k + 2:=⟨_,rfl⟩
 have HK2:Hid (K2 = k + 2):=hK2
 have hK2l:K2≤62:=by omega
 obtain ⟨W0,hW0⟩:∃ W0,W0 = w.alloc (.cells #[.slice none 0 0,.bool false] 66):=⟨_,rfl⟩
 have H0:Hid (Cl w.heap.size [.slice none 0 0,.bool false] 66 W0∧Below w.heap.size w W0∧Tb W0∧W0.heap.size = w.heap.size + 1):=by
  show _∧_
  rw [hW0]
  exact ⟨Cl.new _ _ _,(Below.refl _ _).alloc (Nat.le_refl _) _,hT.below ((Below.refl _ _).alloc (Nat.le_refl _) _),by simp⟩
 have HFm:Hid (Calls Tryz.prog 50 #[.int .i64 (k:Int)] W0 fun e w'=>∃ v u,e = .returned (.tuple #[v,.agg #[u,.bool false]])∧VA w' v K2 (BN.cf k)∧LN w' u (BN.prm (k + 1) * (k + 1))∧Below W0.heap.size W0 w'):=by
  show Calls _ _ _ _ _
  rw [hK2]
  exact formula_any k W0 hk H0.out.2.2.1
 clear hT hK2
 go_enter Tryz.func51,Tryz.ntmps51
 go_wp2_with fail
 rw [← hW0]
 clear hW0
 refine HFm.out.mono ?_
 rintro e w1 ⟨v1,u1,rfl,va1,l1,k1⟩
 obtain ⟨a1,m1,c1,rfl⟩:=l1.shape
 obtain ⟨ga,oa,ca,rfl,hga,hal⟩:=va1.look (by have:=HK2.out; omega)
 have HSg:Hid (∀ W,Calls Tryz.prog 86 #[.int .i64 (n:Int)] W fun e w'=>∃ v,e = .returned (.agg #[v,.bool false])∧LN w' v n∧Below W.heap.size W w'):=fun W=>by
  have h:=SignedOf_any (n:Int) W (by omega) (by omega)
  rw [decide_eq_false (by omega),Int.natAbs_natCast] at h
  exact h
 obtain ⟨W2,hW2⟩:∃ W2,W2 = w1.alloc (.cells #[.slice a1 m1 c1,.bool false] 66):=⟨_,rfl⟩
 obtain ⟨b6,hb6⟩:∃ b6,b6 = w1.heap.size:=⟨_,rfl⟩
 have k2:Below w1.heap.size w1 W2:=by rw [hW2]; exact (Below.refl _ _).alloc (Nat.le_refl _) _
 have H2:Hid (Cl w.heap.size [.slice none 0 0,.bool false] 66 W2∧Cl b6 [.slice a1 m1 c1,.bool false] 66 W2∧LN W2 (.slice a1 m1 c1) (BN.prm (k + 1) * (k + 1))∧Below w.heap.size w W2∧ga < W2.heap.size∧w.heap.size < b6∧W2.heap.size = b6 + 1∧(∀ W,Below W2.heap.size W2 W→∀ j,j < K2→∃ sa sk sc,W.cell? ⟨ga,oa + j * 2,none⟩ = some (.slice sa sk sc)∧W.cell? ⟨ga,oa + j * 2 + 1,none⟩ = some (.bool (decide (BN.cf k j < 0)))∧LN W (.slice sa sk sc) (BN.cf k j).natAbs)):=by
  have hz:=k1.size
  rw [H0.out.2.2.2] at hz
  refine ⟨(H0.out.1.below k1).below k2,by rw [hW2,hb6]; exact Cl.new _ _ _,l1.below k2,(H0.out.2.1.trans (k1.mono (by rw [H0.out.2.2.2]; omega))).trans (k2.mono (by omega)),Nat.lt_of_lt_of_le hga k2.size,by omega,by rw [hW2,hb6]; simp,fun W kk=>hal W (k2.trans (kk.mono k2.size))⟩
 clear va1 l1 k1 hga hal HFm H0 k2
 go_wp2_with fail
 rw [← hW2]
 rw [← hb6]
 clear hW2 hb6
 refine (HSg.out W2).mono ?_
 rintro e w3 ⟨v3,rfl,l3,k3⟩
 obtain ⟨a3,m3,c3,rfl⟩:=l3.shape
 obtain ⟨W4,hW4⟩:∃ W4,W4 = (w3.alloc (.cells #[.slice a3 m3 c3,.bool false] 66)).alloc (.cells #[.slice none 0 0,.bool false] 66):=⟨_,rfl⟩
 obtain ⟨b7,hb7⟩:∃ b7,b7 = w3.heap.size:=⟨_,rfl⟩
 have k4:Below w3.heap.size w3 W4:=by rw [hW4]; exact ((Below.refl _ _).alloc (Nat.le_refl _) _).alloc (by simp) _
 have H4:Hid (Cl b7 [.slice a3 m3 c3,.bool false] 66 W4∧LN W4 (.slice a3 m3 c3) n∧Vx (b7 + 1) (BN.hz (BN.cf k) (n:Int) K2 0) W4∧Below W2.heap.size W2 W4∧W2.heap.size≤b7∧W4.heap.size = b7 + 2):=by
  have hz:=k3.size
  refine ⟨by rw [hW4,hb7]; exact (Cl.new _ _ _).alloc _,l3.below k4,⟨none,0,0,?_,LN.zero _⟩,k3.trans (k4.mono hz),by omega,by rw [hW4,hb7]; simp⟩
  rw [hW4,hb7]
  have:=Cl.new [.slice none 0 0,.bool false] 66 (w3.alloc (.cells #[.slice a3 m3 c3,.bool false] 66))
  simpa [BN.hz] using this
 clear l3 k3 k4 HSg
 go_wp2
 rw [← hW4]
 rw [← hb7]
 clear hW4 hb7
 obtain ⟨b8,hb8⟩:∃ b8,b8 = b7 + 1:=⟨_,rfl⟩
 rw [← hb8] at H4 ⊢
 have HB8:Hid (b8 = b7 + 1):=hb8
 clear hb8
 go_loopw [21] (fun iv wx=>∃ i:Nat,i≤K2∧iv = .int .i64 (i:Int)∧Hid (Vx b8 (BN.hz (BN.cf k) (n:Int) K2 i) wx∧Cl b7 [.slice a3 m3 c3,.bool false] 66 wx∧LN wx (.slice a3 m3 c3) n∧Below W2.heap.size W2 wx)) (fun iv _=>K2 - (intOf iv).toNat)
 case atStart=>exact ⟨0,Nat.zero_le _,rfl,H4.out.2.2.1,H4.out.1,H4.out.2.1,H4.out.2.2.2.1⟩
 case round =>
  obtain ⟨i,hin,rfl,HR⟩:=hrel
  by_cases hlt:i < K2
  ·have HLt:Hid (i < K2):=hlt
   obtain ⟨D,hD⟩:∃ D,D = K2 - 1 - i:=⟨_,rfl⟩
   have HD:Hid (D = K2 - 1 - i∧D < K2):=⟨hD,by omega⟩
   obtain ⟨K1,hK1⟩:∃ K1,K1 = K2 - 1:=⟨_,rfl⟩
   have hK1i:(K2:Int) - 1 = (K1:Int):=by omega
   have hDi:(K1:Int) - (i:Int) = (D:Int):=by omega
   have hwK:IntKind.i64.wrap (K1:Int) = (K1:Int):=by rw [IntKind.wrap_i64]; have:=HK2.out; omega
   have hwD:IntKind.i64.wrap (D:Int) = (D:Int):=by rw [IntKind.wrap_i64]; have:=HK2.out; omega
   clear hK1
   have hDK:D < K2:=by omega
   obtain ⟨xa,xk,xc,q1,q2,lx⟩:=H2.out.2.2.2.2.2.2.2 wr HR.out.2.2.2 D hDK
   obtain ⟨ta,tk,tc,ct,lt⟩:=HR.out.1
   obtain ⟨zx,hzx⟩:∃ zx,zx = decide (BN.cf k D < 0):=⟨_,rfl⟩
   obtain ⟨zt,hzt⟩:∃ zt,zt = decide (BN.hz (BN.cf k) (n:Int) K2 i < 0):=⟨_,rfl⟩
   obtain ⟨zp,hzp⟩:∃ zp,zp = decide (BN.hz (BN.cf k) (n:Int) K2 i * (n:Int) < 0):=⟨_,rfl⟩
   obtain ⟨zs,hzs⟩:∃ zs,zs = decide (BN.hz (BN.cf k) (n:Int) K2 (i + 1) < 0):=⟨_,rfl⟩
   rw [← hzx] at q2
   rw [← hzt] at ct
   have HL:Hid (LN wr (.slice xa xk xc) (BN.cf k D).natAbs∧LN wr (.slice ta tk tc) (BN.hz (BN.cf k) (n:Int) K2 i).natAbs∧Cl b8 [.slice ta tk tc,.bool zt] 66 wr):=⟨lx,lt,ct⟩
   have HZ:Hid (zs = decide (BN.hz (BN.cf k) (n:Int) K2 (i + 1) < 0)):=hzs
   have HPr:Hid (∀ W,Below wr.heap.size wr W→Calls Tryz.prog 84 #[.agg #[.slice ta tk tc,.bool zt],.agg #[.slice a3 m3 c3,.bool false]] W fun e w'=>∃ v,e = .returned (.agg #[v,.bool zp])∧LN w' v (BN.hz (BN.cf k) (n:Int) K2 i * (n:Int)).natAbs∧Below W.heap.size W w'):=fun W kk=>by
    have h1:=hz_bs hk hn i
    rw [← HK2.out] at h1
    have h:=SProduct_any (.slice ta tk tc) (.slice a3 m3 c3) (BN.hz (BN.cf k) (n:Int) K2 i) (n:Int) (46 + 3 * i) W (lt.below kk) (by rw [Int.natAbs_natCast]; exact HR.out.2.2.1.below kk) h1 (by rw [Int.natAbs_natCast]; exact Nat.lt_of_le_of_lt hn (Nat.lt_of_lt_of_le (show 1000000000000000000 < Bs ^ 3 by decide +kernel) (Nat.pow_le_pow_right (by decide) (by omega)))) (by have:=HK2.out; omega)
    rw [← hzt,decide_eq_false (show ¬ (n:Int) < 0 by omega),← hzp] at h
    exact h
   have HPl:Hid (∀ W v,Below wr.heap.size wr W→LN W v (BN.hz (BN.cf k) (n:Int) K2 i * (n:Int)).natAbs→Calls Tryz.prog 87 #[.agg #[v,.bool zp],.agg #[.slice xa xk xc,.bool zx]] W fun e w'=>∃ v,e = .returned (.agg #[v,.bool zs])∧LN w' v (BN.hz (BN.cf k) (n:Int) K2 (i + 1)).natAbs∧Below W.heap.size W w'):=fun W v kk l=>by
    have h1:=hz_bs hk hn i
    rw [← HK2.out] at h1
    have e:BN.hz (BN.cf k) (n:Int) K2 i * (n:Int) + BN.cf k D = BN.hz (BN.cf k) (n:Int) K2 (i + 1):=by rw [hD]; rfl
    have h2:(BN.hz (BN.cf k) (n:Int) K2 i * (n:Int)).natAbs < Bs ^ (49 + 3 * i):=by
     rw [Int.natAbs_mul,Int.natAbs_natCast]
     have h3:(BN.hz (BN.cf k) (n:Int) K2 i).natAbs * n≤Bs ^ (46 + 3 * i) * n:=Nat.mul_le_mul_right _ (Nat.le_of_lt h1)
     have h4:Bs ^ (46 + 3 * i) * n < Bs ^ (46 + 3 * i) * Bs ^ 3:=Nat.mul_lt_mul_of_pos_left (Nat.lt_of_le_of_lt hn (by decide +kernel)) (Nat.pow_pos (by decide))
     rw [← Nat.pow_add,show 46 + 3 * i + 3 = 49 + 3 * i by omega] at h4
     omega
    have h:=SPlus_any v (.slice xa xk xc) (BN.hz (BN.cf k) (n:Int) K2 i * (n:Int)) (BN.cf k D) (49 + 3 * i) W l (lx.below kk) h2 (Nat.lt_of_lt_of_le (cf_bs hk) (Nat.pow_le_pow_right (by decide) (by omega))) (by have:=HK2.out; omega)
    rw [e,← hzp,← hzx,← hzs] at h
    exact h
   have HK:Hid (∀ W,Below wr.heap.size wr W→(W.cell? ⟨b8,0,none⟩ = some (.slice ta tk tc)∧W.cell? ⟨b8,1,none⟩ = some (.bool zt))∧(W.cell? ⟨b7,0,none⟩ = some (.slice a3 m3 c3)∧W.cell? ⟨b7,1,none⟩ = some (.bool false))∧(W.cell? ⟨ga,oa + D * 2,none⟩ = some (.slice xa xk xc)∧W.cell? ⟨ga,oa + D * 2 + 1,none⟩ = some (.bool zx))):=fun W kk=>by
    have hg:=Nat.lt_of_lt_of_le H2.out.2.2.2.2.1 HR.out.2.2.2.size
    have d1:=HL.out.2.2.below kk
    have d2:=HR.out.2.1.below kk
    have e1:=d1.cell 0
    have e2:=d1.cell 1
    have e3:=d2.cell 0
    have e4:=d2.cell 1
    simp at e1 e2 e3 e4
    exact ⟨⟨e1,e2⟩,⟨e3,e4⟩,(kk.cell (p:=⟨ga,oa + D * 2,none⟩) hg).trans q1,(kk.cell (p:=⟨ga,oa + D * 2 + 1,none⟩) hg).trans q2⟩
   clear lx lt ct q1 q2 hzx hzt hzp hzs hD
   go_wp2
   refine wp_region_G (fun W=>(W.cell? ⟨b8,0,none⟩ = some (.slice ta tk tc)∧W.cell? ⟨b8,1,none⟩ = some (.bool zt))∧(W.cell? ⟨b7,0,none⟩ = some (.slice a3 m3 c3)∧W.cell? ⟨b7,1,none⟩ = some (.bool false))∧(W.cell? ⟨ga,oa + D * 2,none⟩ = some (.slice xa xk xc)∧W.cell? ⟨ga,oa + D * 2 + 1,none⟩ = some (.bool zx))) 12 (by kernel_rfl) (HK.out _ (Below.refl _ _).drew) (fun hHeld=>?_)
   refine wpAnyG_take (i:=0) (v:=?v0x1) rfl (by kernel_rfl) (fun _ _ _ h=>h) (Or.inl ⟨by rfl,?y0x1⟩) hHeld ?r0x1
   case y0x1=>(intro wS hSw; obtain ⟨⟨s1,s2⟩,⟨s3,s4⟩,s5,s6⟩:=hSw; go_simp; try with_reducible rfl)
   simp only [Act.put,List.getElem_toArray,List.getElem_cons_zero,List.getElem_cons_succ,List.setIfInBounds_toArray,List.set_cons_zero,List.set_cons_succ]
   refine wpAnyG_take (i:=1) (v:=?v1x2) rfl (by kernel_rfl) (fun _ _ _ h=>h) (Or.inl ⟨by rfl,?y1x2⟩) hHeld ?r1x2
   case y1x2=>(intro wS hSw; obtain ⟨⟨s1,s2⟩,⟨s3,s4⟩,s5,s6⟩:=hSw; go_simp; try with_reducible rfl)
   simp only [Act.put,List.getElem_toArray,List.getElem_cons_zero,List.getElem_cons_succ,List.setIfInBounds_toArray,List.set_cons_zero,List.set_cons_succ]
   refine wpAnyG_take (i:=3) (v:=?v3x3) rfl (by kernel_rfl) (fun _ _ _ h=>h) (Or.inl ⟨by rfl,?y3x3⟩) hHeld ?r3x3
   case y3x3=>(intro wS hSw; obtain ⟨⟨s1,s2⟩,⟨s3,s4⟩,s5,s6⟩:=hSw; go_simp; try with_reducible rfl)
   simp only [Act.put,List.getElem_toArray,List.getElem_cons_zero,List.getElem_cons_succ,List.setIfInBounds_toArray,List.set_cons_zero,List.set_cons_succ]
   refine wpAnyG_take (i:=4) (v:=?v4x4) rfl (by kernel_rfl) (fun _ _ _ h=>h) (Or.inl ⟨by rfl,?y4x4⟩) hHeld ?r4x4
   case y4x4=>(intro wS hSw; obtain ⟨⟨s1,s2⟩,⟨s3,s4⟩,s5,s6⟩:=hSw; go_simp; try with_reducible rfl)
   simp only [Act.put,List.getElem_toArray,List.getElem_cons_zero,List.getElem_cons_succ,List.setIfInBounds_toArray,List.set_cons_zero,List.set_cons_succ]
   refine wpAnyG_take (i:=5) (v:=?v5x5) rfl (by kernel_rfl) (fun _ _ _ h=>h) (Or.inl ⟨by rfl,?y5x5⟩) hHeld ?r5x5
   case y5x5=>(intro wS hSw; obtain ⟨⟨s1,s2⟩,⟨s3,s4⟩,s5,s6⟩:=hSw; go_simp; try with_reducible rfl)
   simp only [Act.put,List.getElem_toArray,List.getElem_cons_zero,List.getElem_cons_succ,List.setIfInBounds_toArray,List.set_cons_zero,List.set_cons_succ]
   refine wpAnyG_take (i:=6) (v:=?v6x6) rfl (by kernel_rfl) (fun _ _ _ h=>h) (Or.inl ⟨by rfl,?y6x6⟩) hHeld ?r6x6
   case y6x6=>(intro wS hSw; obtain ⟨⟨s1,s2⟩,⟨s3,s4⟩,s5,s6⟩:=hSw; go_simp; try with_reducible rfl)
   simp only [Act.put,List.getElem_toArray,List.getElem_cons_zero,List.getElem_cons_succ,List.setIfInBounds_toArray,List.set_cons_zero,List.set_cons_succ]
   refine wpAnyG_take (i:=7) (v:=?v7x7) rfl (by kernel_rfl) (fun _ _ _ h=>h) (Or.inl ⟨by rfl,?y7x7⟩) hHeld ?r7x7
   case y7x7=>(intro wS hSw; obtain ⟨⟨s1,s2⟩,⟨s3,s4⟩,s5,s6⟩:=hSw; go_simp; try with_reducible rfl)
   simp only [Act.put,List.getElem_toArray,List.getElem_cons_zero,List.getElem_cons_succ,List.setIfInBounds_toArray,List.set_cons_zero,List.set_cons_succ]
   refine wpAnyG_take (i:=8) (v:=?v8x8) rfl (by kernel_rfl) (fun _ _ _ h=>h) (Or.inl ⟨by rfl,?y8x8⟩) hHeld ?r8x8
   case y8x8=>(intro wS hSw; obtain ⟨⟨s1,s2⟩,⟨s3,s4⟩,s5,s6⟩:=hSw; go_simp; try with_reducible rfl)
   simp only [Act.put,List.getElem_toArray,List.getElem_cons_zero,List.getElem_cons_succ,List.setIfInBounds_toArray,List.set_cons_zero,List.set_cons_succ]
   refine wpAnyG_take (i:=9) (v:=?v9x9) rfl (by kernel_rfl) (fun _ _ _ h=>h) (Or.inl ⟨by rfl,?y9x9⟩) hHeld ?r9x9
   case y9x9=>(intro wS hSw; obtain ⟨⟨s1,s2⟩,⟨s3,s4⟩,s5,s6⟩:=hSw; go_simp; try with_reducible rfl)
   simp only [Act.put,List.getElem_toArray,List.getElem_cons_zero,List.getElem_cons_succ,List.setIfInBounds_toArray,List.set_cons_zero,List.set_cons_succ]
   refine wpAnyG_take (i:=10) (v:=?v10x10) rfl (by kernel_rfl) (fun _ _ _ h=>h) (Or.inl ⟨by rfl,?y10x10⟩) hHeld ?r10x10
   case y10x10=>(intro wS hSw; obtain ⟨⟨s1,s2⟩,⟨s3,s4⟩,s5,s6⟩:=hSw; go_simp; try with_reducible rfl)
   simp only [Act.put,List.getElem_toArray,List.getElem_cons_zero,List.getElem_cons_succ,List.setIfInBounds_toArray,List.set_cons_zero,List.set_cons_succ]
   refine wpAnyG_one (i:=2) rfl (by kernel_rfl) (fun K hK=>?_)
   go_simp
   refine (HPr.out _ (Below.refl _ _).drew).mono ?_
   rintro e w5 ⟨v5,rfl,l5,k5⟩
   obtain ⟨a5,m5,c5,rfl⟩:=l5.shape
   have HL5:Hid (LN w5 (.slice a5 m5 c5) (BN.hz (BN.cf k) (n:Int) K2 i * (n:Int)).natAbs∧Below wr.heap.size wr w5):=⟨l5,(Below.refl _ _).drew.trans k5⟩
   clear l5 k5
   refine hK.out _ _ (HK.out _ HL5.out.2) ?_
   clear hK K hHeld
   have hHeld:=HK.out _ HL5.out.2
   refine wpAnyG_one (i:=11) rfl (by kernel_rfl) (fun K hK=>?_)
   go_simp
   refine (HPl.out w5 (.slice a5 m5 c5) HL5.out.2 HL5.out.1).mono ?_
   rintro e w6 ⟨v6,rfl,l6,k6⟩
   obtain ⟨a6,m6,c6,rfl⟩:=l6.shape
   have HK6:Hid (Below wr.heap.size wr w6):=HL5.out.2.trans (k6.mono HL5.out.2.size)
   have HC6:Hid (Cl b8 [.slice ta tk tc,.bool zt] 66 w6):=HL.out.2.2.below HK6.out
   have HN:Hid (Vx b8 (BN.hz (BN.cf k) (n:Int) K2 (i + 1)) ((w6.setCell ⟨b8,0,none⟩ (.slice a6 m6 c6)).setCell ⟨b8,1,none⟩ (.bool zs))∧Cl b7 [.slice a3 m3 c3,.bool false] 66 ((w6.setCell ⟨b8,0,none⟩ (.slice a6 m6 c6)).setCell ⟨b8,1,none⟩ (.bool zs))∧LN ((w6.setCell ⟨b8,0,none⟩ (.slice a6 m6 c6)).setCell ⟨b8,1,none⟩ (.bool zs)) (.slice a3 m3 c3) n∧Below W2.heap.size W2 ((w6.setCell ⟨b8,0,none⟩ (.slice a6 m6 c6)).setCell ⟨b8,1,none⟩ (.bool zs))):=by
    have hb:=HB8.out
    have hz:=H4.out.2.2.2.2.1
    refine ⟨⟨a6,m6,c6,by rw [← HZ.out]; exact HC6.out.two _ _,l6.setTwo HC6.out⟩,((HR.out.2.1.below HK6.out).other (by simp; omega) _).other (by simp; omega) _,(HR.out.2.2.1.below HK6.out).setTwo HC6.out,(((HR.out.2.2.2.trans (HK6.out.mono HR.out.2.2.2.size)).setCell (by simp; omega) _).setCell (by simp; omega) _)⟩
   have u1:=HC6.out.cell 0
   have u2:=HC6.out.cell 1
   have u3:=HC6.out.frozen 0
   have u4:=HC6.out.frozen 1
   simp at u1 u2
   clear l6 k6
   refine hK.out _ _ (HK.out _ HK6.out) ?_
   clear hK K hHeld
   have hHeld:=HK.out _ HK6.out
   refine wpAnyG_last (i:=12) rfl (by kernel_rfl) (by kernel_rfl) (fun K hK=>?_)
   go_simp
   refine hK.out _ _ ?_
   clear hK K
   refine wpAnyG_done (by kernel_rfl) ?_ _
   clear u1 u2 u3 u4 hHeld
   go_wp2
   go_roundw
   case rel=>exact ⟨i + 1,by have:=HLt.out; omega,by go_num,HN.out⟩
   case measure=>have:=HLt.out; simp [intOf]; omega
  ·obtain rfl:K2 = i:=by omega
   obtain ⟨ta,tk,tc,ct,lt⟩:=HR.out.1
   have hv:BN.hz (BN.cf k) (n:Int) K2 K2 = ((BN.prm (k + 1) * (k + 1) * BN.pk k n:Nat):Int):=by
    rw [HK2.out,BN.hz_faul k n (by omega)]
    simp only [Int.natCast_mul,Int.natCast_add,Int.natCast_one]
    grind
   rw [hv] at ct lt
   rw [decide_eq_false (by omega)] at ct
   rw [Int.natAbs_natCast] at lt
   have hvb:BN.prm (k + 1) * (k + 1) * BN.pk k n < Bs ^ (46 + 3 * K2):=by
    have:=hz_bs hk hn K2
    rw [← HK2.out,hv,Int.natAbs_natCast] at this
    exact this
   have hlb:=below_bs hk
   have hc0:0 < BN.prm (k + 1) * (k + 1):=Nat.mul_pos (BN.prm_pos _) (by omega)
   obtain ⟨B,hB⟩:∃ B,B = BN.prm (k + 1) * (k + 1):=⟨_,rfl⟩
   have HDv:Hid (Calls Tryz.prog 88 #[.agg #[.slice ta tk tc,.bool false],.agg #[.slice a1 m1 c1,.bool false]] wr fun e w'=>∃ qa qk qc ea ek ec,e = .returned (.tuple #[.agg #[.slice qa qk qc,.bool false],.agg #[.slice ea ek ec,.bool false]])∧LN w' (.slice qa qk qc) (BN.pk k n)∧Below wr.heap.size wr w'):=by
    have h:=SDivide_any (.slice ta tk tc) (.slice a1 m1 c1) ((B * BN.pk k n:Nat):Int) (B:Int) (46 + 3 * K2) wr (by rw [Int.natAbs_natCast,hB]; exact lt) (by rw [Int.natAbs_natCast,hB]; exact H2.out.2.2.1.below HR.out.2.2.2) (by rw [Int.natAbs_natCast,hB]; exact hvb) (by rw [Int.natAbs_natCast,hB]; exact Nat.lt_of_lt_of_le hlb (Nat.pow_le_pow_right (by decide) (by omega))) (by have:=HK2.out; omega) (by omega)
    have hq:=fdiv_uniq (x:=((B * BN.pk k n:Nat):Int)) (y:=(B:Int)) (q:=((BN.pk k n:Nat):Int)) (r:=0) (by omega) (by rw [Int.natCast_mul,Int.add_zero,Int.mul_comm]) (by rw [Int.natAbs_natCast]; show 0 < B; omega) (fun _=>by omega) (fun _=>by omega)
    rw [hq.1,hq.2,decide_eq_false (by omega),decide_eq_false (by omega),decide_eq_false (by omega),Int.natAbs_natCast] at h
    refine h.mono fun e w' ⟨v,u,h1,h2,h3,h4⟩=>?_
    obtain ⟨qa,qk,qc,rfl⟩:=h2.shape
    obtain ⟨ea,ek,ec,rfl⟩:=h3.shape
    exact ⟨qa,qk,qc,ea,ek,ec,h1,h2,h4⟩
   have C8:=ct
   have C6:=H2.out.2.1.below HR.out.2.2.2
   have q1:=C8.cell 0
   have q2:=C8.cell 1
   have q3:=C6.cell 0
   have q4:=C6.cell 1
   simp at q1 q2 q3 q4
   clear ct lt hv hvb hlb hc0 C8 C6
   go_wp2_with fail
   refine HDv.out.mono ?_
   rintro e w5 ⟨qa,qk,qc,ea,ek,ec,rfl,l5,k5⟩
   have H5:Hid (LN w5 (.slice qa qk qc) (BN.pk k n)∧Below W2.heap.size W2 w5):=⟨l5,HR.out.2.2.2.trans (k5.mono HR.out.2.2.2.size)⟩
   have hzw:w.heap.size < w5.heap.size:=by have h1:=H5.out.2.size; have h2:=H2.out.2.2.2.2.2.1; have h3:=H2.out.2.2.2.2.2.2.1; omega
   have HC5:Hid (Cl w.heap.size [.slice none 0 0,.bool false] 66 w5):=H2.out.1.below H5.out.2
   have hc5:=HC5.out
   have r1:=hc5.cell 0
   have r2:=hc5.cell 1
   have r3:=hc5.frozen 0
   have r4:=hc5.frozen 1
   simp at r1 r2
   obtain ⟨W6,hW6⟩:∃ W6,W6 = (w5.setCell ⟨w.heap.size,0,none⟩ (.slice qa qk qc)).setCell ⟨w.heap.size,1,none⟩ (.bool false):=⟨_,rfl⟩
   obtain ⟨W7,hW7⟩:∃ W7,W7 = (W6.alloc (.cells #[.slice qa qk qc,.bool false] 66)).alloc (.cells #[.slice ea ek ec,.bool false] 66):=⟨_,rfl⟩
   have HF:Hid (Cl w.heap.size [.slice qa qk qc,.bool false] 66 W7∧LN W7 (.slice qa qk qc) (BN.pk k n)∧Below w.heap.size w W7):=by
    have kw:Below w.heap.size w w5:=H2.out.2.2.2.1.trans (H5.out.2.mono (by have h2:=H2.out.2.2.2.2.2.1; have h3:=H2.out.2.2.2.2.2.2.1; omega))
    have c6:Cl w.heap.size [.slice qa qk qc,.bool false] 66 W6:=by rw [hW6]; exact hc5.two _ _
    have k7:Below W6.heap.size W6 W7:=by rw [hW7]; exact ((Below.refl _ _).alloc (Nat.le_refl _) _).alloc (by simp) _
    have l6:LN W6 (.slice qa qk qc) (BN.pk k n):=by rw [hW6]; exact H5.out.1.setTwo hc5
    have kw6:Below w.heap.size w W6:=by rw [hW6]; exact (kw.setCell (by simp) _).setCell (by simp) _
    exact ⟨c6.below k7,l6.below k7,kw6.trans (k7.mono kw6.size)⟩
   have HW7:Hid (W7 = ((((w5.setCell ⟨w.heap.size,0,none⟩ (.slice qa qk qc)).setCell ⟨w.heap.size,1,none⟩ (.bool false)).alloc (.cells #[.slice qa qk qc,.bool false] 66)).alloc (.cells #[.slice ea ek ec,.bool false] 66))):=by show _ = _; rw [hW7,hW6]
   clear q1 q2 q3 q4 HDv HR hc5 hW6 hW7
   clear l5 k5
   go_wp2
   rw [← HW7.out]
   have C3:=HF.out.1
   have e1:=C3.cell 0
   have e2:=C3.cell 1
   simp at e1 e2
   exact bodyPost_ret (v:=.agg #[.slice qa qk qc,.bool false]) (by simp [results,Tryz.results51,go_sem,e1,e2]) rfl ⟨_,rfl,HF.out.2.1,HF.out.2.2⟩
set_option maxHeartbeats 2000000 in
theorem SString_any (v:Value) (n m:Nat) (w:World) (h:LN w v n) (hn:n < Bs ^ m) (hm1:1≤m) (hm:m≤1000000) (hT:Tq w) :
  Calls Tryz.prog 52 #[.agg #[v,.bool false]] w fun e w'=>e = .returned (.string ⟨(Lib.decDigits n).toArray⟩)∧Below w.heap.size w w':=by
 obtain ⟨a,k,c,rfl⟩:=h.shape
 obtain ⟨W0,hW0⟩:∃ W0,W0 = w.alloc (.cells #[.slice a k c,.bool false] 66):=⟨_,rfl⟩
 have k0:Below w.heap.size w W0:=by rw [hW0]; exact (Below.refl _ _).alloc (Nat.le_refl _) _
 have HS:Hid (Calls Tryz.prog 68 #[.agg #[.slice a k c]] W0 fun e w'=>e = .returned (.string ⟨(Lib.decDigits n).toArray⟩)∧Below W0.heap.size W0 w'):=String_any (.slice a k c) n m W0 (h.below k0) hn hm1 hm (hT.below k0)
 have HK:Hid (Below w.heap.size w W0):=k0
 clear h hT k0
 go_enter Tryz.func52,Tryz.ntmps52
 go_wp2_with fail
 rw [← hW0]
 clear hW0
 refine HS.out.mono ?_
 rintro e w1 ⟨rfl,k1⟩
 have HK1:Hid (Below w.heap.size w w1):=HK.out.trans (k1.mono HK.out.size)
 clear k1
 go_wp2
 go_ret
 exact ⟨rfl,HK1.out⟩
end
end Go.Proofs.YtnkjadpmigpneaaGreatDoor
