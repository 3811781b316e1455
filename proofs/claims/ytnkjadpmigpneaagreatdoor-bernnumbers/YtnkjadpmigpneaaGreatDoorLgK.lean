import Derived.Test.YtnkjadpmigpneaaGreatDoorJsG
set_option linter.unusedSimpArgs false
set_option linter.unusedVariables false
set_option maxRecDepth 100000
namespace Go.Proofs.YtnkjadpmigpneaaGreatDoor
open Go.RowKit LgM
structure Db (b:Nat) (vx vy:Value) (w:World):Prop where
 x:Cl b [vx] 64 w
 y:Cl (b + 1) [vy] 64 w
 q:Cl (b + 2) [.slice none 0 0] 64 w
 r:Cl (b + 3) [.slice none 0 0] 64 w
theorem Db.below {b B:Nat} {vx vy:Value} {w w':World} (h:Db b vx vy w) (k:Below B w w') (hB:b + 4≤B):Db b vx vy w' :=
 ⟨(k.block _ (by omega)).trans h.x,(k.block _ (by omega)).trans h.y,(k.block _ (by omega)).trans h.q,(k.block _ (by omega)).trans h.r⟩
theorem Db.start (vx vy:Value) (w:World):Db w.heap.size vx vy ((((w.alloc (.cells #[vx] 64)).alloc (.cells #[vy] 64)).alloc (.cells #[.slice none 0 0] 64)).alloc (.cells #[.slice none 0 0] 64)):=by
 have h:=Pb.start vx vy w
 refine ⟨h.x.alloc _,h.y.alloc _,h.z.alloc _,?_⟩
 have:=(Cl.new [.slice none 0 0] 64 (((w.alloc (.cells #[vx] 64)).alloc (.cells #[vy] 64)).alloc (.cells #[.slice none 0 0] 64)))
 simpa using this
set_option maxHeartbeats 8000000 in
theorem NDivide_any (vx vy:Value) (x y m:Nat) (w:World) (hx:LN w vx x) (hy:LN w vy y) (hxm:x < Bs ^ m) (hym:y < Bs ^ m) (hm:m≤1000000) (hy0:0 < y) :
  Calls Tryz.prog 77 #[.agg #[vx],.agg #[vy]] w fun e w'=>∃ v u,e = .returned (.tuple #[.agg #[v],.agg #[u]])∧LN w' v (x / y)∧LN w' u (x % y)∧Below w.heap.size w w':=by
 obtain ⟨i0,hi,hz0,hz1,hz2⟩:=info_parts Tryz.infoInt
 have HI:Hid (Tryz.prog.info? 3 = some i0∧i0.zero = some (.int .i64 0)∧i0.size = 1∧i0.bytes = 8):=⟨hi,hz0,hz1,hz2⟩
 clear hi hz0 hz1 hz2
 obtain ⟨ax,kx,cx,rfl⟩:=hx.shape
 have HX:Hid (LN w (.slice ax kx cx) x):=hx
 have HY:Hid (LN w vy y):=hy
 obtain ⟨ky,ay,gy,oy,cy,rfl,ny,hpy,hcy,hly⟩:=hy.open
 have HXM:Hid (x < Bs ^ m):=hxm
 have HYM:Hid (y < Bs ^ m):=hym
 have HY0:Hid (0 < y):=hy0
 obtain ⟨L,rfl⟩:∃ L,ky = L + 1:=⟨ky - 1,by have:=ny.pos.2 hy0; omega⟩
 obtain rfl:=hpy (by omega)
 have hLi:((L + 1:Nat):Int) - 1 = (L:Int):=by omega
 have hLm:=ny.le hym
 obtain ⟨yl,hyl⟩:∃ yl,yl = y / Bs ^ L % Bs:=⟨_,rfl⟩
 have hyl1:yl≤999999999:=by rw [hyl]; exact limb_lt y L
 have P0:=Db.start (.slice ax kx cx) (.slice (some ⟨gy,oy,none⟩) (L + 1) cy) w
 obtain ⟨W0,hW0⟩:∃ W0,W0 = ((((w.alloc (.cells #[.slice ax kx cx] 64)).alloc (.cells #[.slice (some ⟨gy,oy,none⟩) (L + 1) cy] 64)).alloc (.cells #[.slice none 0 0] 64)).alloc (.cells #[.slice none 0 0] 64)):=⟨_,rfl⟩
 rw [← hW0] at P0
 have z0:W0.heap.size = w.heap.size + 4:=by rw [hW0]; simp
 have KB0:Hid (Below w.heap.size w W0):=by
  show Below _ _ _
  rw [hW0]; exact ((((Below.refl _ _).alloc (Nat.le_refl _) _).alloc (by simp) _).alloc (by simp; omega) _).alloc (by simp; omega) _
 have HP0:Hid (Db w.heap.size (.slice ax kx cx) (.slice (some ⟨gy,oy,none⟩) (L + 1) cy) W0):=P0
 have HZ0:Hid (W0.heap.size = w.heap.size + 4):=z0
 have q1:=P0.x.cell 0
 have q2:=P0.y.cell 0
 simp at q1 q2
 have q3:∀ a b c d:Obj,((((w.alloc a).alloc b).alloc c).alloc d).cell? ⟨gy,oy + L,none⟩ = some (.int .i64 (yl:Int)):=fun a b c d=>by
  have hl:=hly (by omega)
  rw [cell_old_at _ _ _ (by simp; omega),cell_old_at _ _ _ (by simp; omega),cell_old_at _ _ _ (by simp; omega),cell_old_at _ _ _ hl,hyl]; exact hcy L (by omega)
 have HXw:Hid (∀ W,Below (w.heap.size + 4) W0 W→LN W (.slice ax kx cx) x):=fun W k=>(HX.out.below KB0.out).below (k.mono (by omega))
 have HYw:Hid (∀ W,Below (w.heap.size + 4) W0 W→LN W (.slice (some ⟨gy,oy,none⟩) (L + 1) cy) y):=fun W k=>(HY.out.below KB0.out).below (k.mono (by omega))
 obtain ⟨sc,hsc⟩:∃ sc,sc = 1000000000 / (yl + 1):=⟨_,rfl⟩
 have hsc1:1≤sc∧sc≤1000000000:=by
  rw [hsc]
  exact ⟨by rw [Nat.le_div_iff_mul_le (by omega)]; omega,Nat.div_le_self _ _⟩
 have hscI:(1000000000:Int) / ((yl:Int) + 1) = (sc:Int):=by rw [hsc,Int.natCast_ediv]; rfl
 have hyz:(((yl:Int) + 1) == 0) = false:=beq_eq_false_iff_ne.2 (by omega)
 have HZl:Hid (∀ W,Below (w.heap.size + 4) W0 W→w.heap.size + 4≤W.heap.size):=fun W k=>by have:=k.size; have:=HZ0.out; omega
 have HS:Hid (∀ W,Below (w.heap.size + 4) W0 W→W.cell? ⟨w.heap.size,0,none⟩ = some (.slice ax kx cx)∧W.cell? ⟨w.heap.size + 1,0,none⟩ = some (.slice (some ⟨gy,oy,none⟩) (L + 1) cy)):=fun W k=>by
  have h:=HP0.out.below k (Nat.le_refl _)
  have a1:=h.x.cell 0
  have a2:=h.y.cell 0
  simp at a1 a2
  exact ⟨a1,a2⟩
 have HT2:Hid (∀ W,Below (w.heap.size + 4) W0 W→Calls Tryz.prog 97 #[.agg #[.slice ax kx cx],.int .i64 (sc:Int)] W fun e w'=>∃ a k c,e = .returned (.agg #[.slice a k c])∧LN w' (.slice a k c) (x * sc)∧Below W.heap.size W w'):=fun W k =>
  (Times_any _ x sc m W (HXw.out W k) HXM.out (by omega) hsc1.2).mono fun e w' ⟨v,h1,h2,h3⟩=>by
   obtain ⟨a,k,c,rfl⟩:=h2.shape
   exact ⟨a,k,c,h1,h2,h3⟩
 have HT5:Hid (∀ W,Below (w.heap.size + 4) W0 W→Calls Tryz.prog 97 #[.agg #[.slice (some ⟨gy,oy,none⟩) (L + 1) cy],.int .i64 (sc:Int)] W fun e w'=>∃ a k c,e = .returned (.agg #[.slice a k c])∧LN w' (.slice a k c) (y * sc)∧Below W.heap.size W w'):=fun W k =>
  (Times_any _ y sc m W (HYw.out W k) HYM.out (by omega) hsc1.2).mono fun e w' ⟨v,h1,h2,h3⟩=>by
   obtain ⟨a,k,c,rfl⟩:=h2.shape
   exact ⟨a,k,c,h1,h2,h3⟩
 clear P0 z0 hx hy hxm hym ny hpy hcy hly hy0 hyl hsc
 go_enter Tryz.func77,Tryz.ntmps77
 go_wp2
 rw [← hW0,hscI]
 clear hW0 q3
 refine wp_region_G (fun w'=>w'.cell? ⟨w.heap.size,0,none⟩ = some (.slice ax kx cx)∧w'.cell? ⟨w.heap.size + 1,0,none⟩ = some (.slice (some ⟨gy,oy,none⟩) (L + 1) cy)) 9 (by kernel_rfl) ⟨q1,q2⟩ (fun hHeld=>?_)
 refine wpAnyG_take (i:=0) (v:=?v0x1) rfl (by kernel_rfl) (fun _ _ _ h=>h) (Or.inl ⟨by rfl,?y0x1⟩) hHeld ?r0x1
 case y0x1=>(intro wS hSw; obtain ⟨s1,s2⟩:=hSw; go_simp; try with_reducible rfl)
 try simp only [Act.put,List.setIfInBounds_toArray,List.set_cons_zero,List.set_cons_succ]
 refine wpAnyG_take (i:=1) (v:=?v1x2) rfl (by kernel_rfl) (fun _ _ _ h=>h) (Or.inl ⟨by rfl,?y1x2⟩) hHeld ?r1x2
 case y1x2=>(intro wS hSw; obtain ⟨s1,s2⟩:=hSw; go_simp; try with_reducible rfl)
 try simp only [Act.put,List.setIfInBounds_toArray,List.set_cons_zero,List.set_cons_succ]
 refine wpAnyG_take (i:=3) (v:=?v3x3) rfl (by kernel_rfl) (fun _ _ _ h=>h) (Or.inl ⟨by rfl,?y3x3⟩) hHeld ?r3x3
 case y3x3=>(intro wS hSw; obtain ⟨s1,s2⟩:=hSw; go_simp; try with_reducible rfl)
 try simp only [Act.put,List.setIfInBounds_toArray,List.set_cons_zero,List.set_cons_succ]
 refine wpAnyG_take (i:=4) (v:=?v4x4) rfl (by kernel_rfl) (fun _ _ _ h=>h) (Or.inl ⟨by rfl,?y4x4⟩) hHeld ?r4x4
 case y4x4=>(intro wS hSw; obtain ⟨s1,s2⟩:=hSw; go_simp; try with_reducible rfl)
 try simp only [Act.put,List.setIfInBounds_toArray,List.set_cons_zero,List.set_cons_succ]
 have hHeld0:=hHeld
 clear hHeld
 refine wpAnyG_inv (fun n l a w1=>(n = 6∧l = #[true,true,false,true,true,false,false,false,false,false]∧a = { tmps:=#[.agg #[.slice ax kx cx],.agg #[.slice (some ⟨gy,oy,none⟩) (L + 1) cy],.pointer (some ⟨w.heap.size,0,none⟩),.pointer (some ⟨w.heap.size + 1,0,none⟩),.pointer (some ⟨w.heap.size + 1 + 1,0,none⟩),.pointer (some ⟨w.heap.size + 1 + 1 + 1,0,none⟩),.int .i64 (sc:Int),undef,undef,undef,undef,undef,.pointer (some ⟨w.heap.size + 1,0,none⟩),.slice (some ⟨gy,oy,none⟩) (L + 1) cy,.pointer (some ⟨w.heap.size + 1,0,none⟩),.slice (some ⟨gy,oy,none⟩) (L + 1) cy,.int .i64 ((L:Int) + 1),.int .i64 (L:Int),.pointer (some ⟨gy,oy + L,none⟩),.int .i64 (yl:Int),.int .i64 ((yl:Int) + 1),.int .i64 (sc:Int),.agg #[.slice ax kx cx],.int .i64 (sc:Int),undef,.agg #[.slice (some ⟨gy,oy,none⟩) (L + 1) cy],.int .i64 (sc:Int),undef,undef,undef,undef,undef,undef,undef,undef,undef,undef,undef,undef,undef,undef,undef,undef,undef,undef,undef,undef,undef,undef,undef,undef,undef,undef,undef,undef,undef,undef,undef,undef,undef,undef,undef],defers:=[] }∧Hid (Below (w.heap.size + 4) W0 w1))∨(∃ b7:Nat,n = 5∧l = #[true,true,false,true,true,false,true,false,false,false]∧a = { tmps:=#[.agg #[.slice ax kx cx],.agg #[.slice (some ⟨gy,oy,none⟩) (L + 1) cy],.pointer (some ⟨w.heap.size,0,none⟩),.pointer (some ⟨w.heap.size + 1,0,none⟩),.pointer (some ⟨w.heap.size + 1 + 1,0,none⟩),.pointer (some ⟨w.heap.size + 1 + 1 + 1,0,none⟩),.int .i64 (sc:Int),.pointer (some ⟨b7,0,none⟩),undef,undef,undef,undef,.pointer (some ⟨w.heap.size + 1,0,none⟩),.slice (some ⟨gy,oy,none⟩) (L + 1) cy,.pointer (some ⟨w.heap.size + 1,0,none⟩),.slice (some ⟨gy,oy,none⟩) (L + 1) cy,.int .i64 ((L:Int) + 1),.int .i64 (L:Int),.pointer (some ⟨gy,oy + L,none⟩),.int .i64 (yl:Int),.int .i64 ((yl:Int) + 1),.int .i64 (sc:Int),.agg #[.slice ax kx cx],.int .i64 (sc:Int),undef,.agg #[.slice (some ⟨gy,oy,none⟩) (L + 1) cy],.int .i64 (sc:Int),undef,undef,undef,undef,undef,undef,undef,undef,undef,undef,undef,undef,undef,undef,undef,undef,undef,undef,undef,undef,undef,undef,undef,undef,undef,undef,undef,undef,undef,undef,undef,undef,undef,undef,undef],defers:=[] }∧Hid (Below (w.heap.size + 4) W0 w1∧w.heap.size + 4≤b7∧Cl b7 [.slice none 0 0] 64 w1))∨(∃ b8:Nat,n = 5∧l = #[true,true,false,true,true,false,false,true,false,false]∧a = { tmps:=#[.agg #[.slice ax kx cx],.agg #[.slice (some ⟨gy,oy,none⟩) (L + 1) cy],.pointer (some ⟨w.heap.size,0,none⟩),.pointer (some ⟨w.heap.size + 1,0,none⟩),.pointer (some ⟨w.heap.size + 1 + 1,0,none⟩),.pointer (some ⟨w.heap.size + 1 + 1 + 1,0,none⟩),.int .i64 (sc:Int),undef,.pointer (some ⟨b8,0,none⟩),undef,undef,undef,.pointer (some ⟨w.heap.size + 1,0,none⟩),.slice (some ⟨gy,oy,none⟩) (L + 1) cy,.pointer (some ⟨w.heap.size + 1,0,none⟩),.slice (some ⟨gy,oy,none⟩) (L + 1) cy,.int .i64 ((L:Int) + 1),.int .i64 (L:Int),.pointer (some ⟨gy,oy + L,none⟩),.int .i64 (yl:Int),.int .i64 ((yl:Int) + 1),.int .i64 (sc:Int),.agg #[.slice ax kx cx],.int .i64 (sc:Int),undef,.agg #[.slice (some ⟨gy,oy,none⟩) (L + 1) cy],.int .i64 (sc:Int),undef,undef,undef,undef,undef,undef,undef,undef,undef,undef,undef,undef,undef,undef,undef,undef,undef,undef,undef,undef,undef,undef,undef,undef,undef,undef,undef,undef,undef,undef,undef,undef,undef,undef,undef],defers:=[] }∧Hid (Below (w.heap.size + 4) W0 w1∧w.heap.size + 4≤b8∧Cl b8 [.slice none 0 0] 64 w1))∨(∃ b7 b8:Nat,n = 4∧l = #[true,true,false,true,true,false,true,true,false,false]∧a = { tmps:=#[.agg #[.slice ax kx cx],.agg #[.slice (some ⟨gy,oy,none⟩) (L + 1) cy],.pointer (some ⟨w.heap.size,0,none⟩),.pointer (some ⟨w.heap.size + 1,0,none⟩),.pointer (some ⟨w.heap.size + 1 + 1,0,none⟩),.pointer (some ⟨w.heap.size + 1 + 1 + 1,0,none⟩),.int .i64 (sc:Int),.pointer (some ⟨b7,0,none⟩),.pointer (some ⟨b8,0,none⟩),undef,undef,undef,.pointer (some ⟨w.heap.size + 1,0,none⟩),.slice (some ⟨gy,oy,none⟩) (L + 1) cy,.pointer (some ⟨w.heap.size + 1,0,none⟩),.slice (some ⟨gy,oy,none⟩) (L + 1) cy,.int .i64 ((L:Int) + 1),.int .i64 (L:Int),.pointer (some ⟨gy,oy + L,none⟩),.int .i64 (yl:Int),.int .i64 ((yl:Int) + 1),.int .i64 (sc:Int),.agg #[.slice ax kx cx],.int .i64 (sc:Int),undef,.agg #[.slice (some ⟨gy,oy,none⟩) (L + 1) cy],.int .i64 (sc:Int),undef,undef,undef,undef,undef,undef,undef,undef,undef,undef,undef,undef,undef,undef,undef,undef,undef,undef,undef,undef,undef,undef,undef,undef,undef,undef,undef,undef,undef,undef,undef,undef,undef,undef,undef],defers:=[] }∧Hid (Below (w.heap.size + 4) W0 w1∧w.heap.size + 4≤b7∧Cl b7 [.slice none 0 0] 64 w1∧w.heap.size + 4≤b8∧Cl b8 [.slice none 0 0] 64 w1∧b7 ≠ b8))∨(∃ a1:Option Addr,∃ k1 c1:Nat,n = 5∧l = #[true,true,true,true,true,false,false,false,false,false]∧a = { tmps:=#[.agg #[.slice ax kx cx],.agg #[.slice (some ⟨gy,oy,none⟩) (L + 1) cy],.pointer (some ⟨w.heap.size,0,none⟩),.pointer (some ⟨w.heap.size + 1,0,none⟩),.pointer (some ⟨w.heap.size + 1 + 1,0,none⟩),.pointer (some ⟨w.heap.size + 1 + 1 + 1,0,none⟩),.int .i64 (sc:Int),undef,undef,undef,undef,undef,.pointer (some ⟨w.heap.size + 1,0,none⟩),.slice (some ⟨gy,oy,none⟩) (L + 1) cy,.pointer (some ⟨w.heap.size + 1,0,none⟩),.slice (some ⟨gy,oy,none⟩) (L + 1) cy,.int .i64 ((L:Int) + 1),.int .i64 (L:Int),.pointer (some ⟨gy,oy + L,none⟩),.int .i64 (yl:Int),.int .i64 ((yl:Int) + 1),.int .i64 (sc:Int),.agg #[.slice ax kx cx],.int .i64 (sc:Int),.agg #[.slice a1 k1 c1],.agg #[.slice (some ⟨gy,oy,none⟩) (L + 1) cy],.int .i64 (sc:Int),undef,undef,undef,undef,undef,undef,undef,undef,undef,undef,undef,undef,undef,undef,undef,undef,undef,undef,undef,undef,undef,undef,undef,undef,undef,undef,undef,undef,undef,undef,undef,undef,undef,undef,undef],defers:=[] }∧Hid (Below (w.heap.size + 4) W0 w1∧LN w1 (.slice a1 k1 c1) (x * sc)))∨(∃ b7:Nat,∃ a1:Option Addr,∃ k1 c1:Nat,n = 4∧l = #[true,true,true,true,true,false,true,false,false,false]∧a = { tmps:=#[.agg #[.slice ax kx cx],.agg #[.slice (some ⟨gy,oy,none⟩) (L + 1) cy],.pointer (some ⟨w.heap.size,0,none⟩),.pointer (some ⟨w.heap.size + 1,0,none⟩),.pointer (some ⟨w.heap.size + 1 + 1,0,none⟩),.pointer (some ⟨w.heap.size + 1 + 1 + 1,0,none⟩),.int .i64 (sc:Int),.pointer (some ⟨b7,0,none⟩),undef,undef,undef,undef,.pointer (some ⟨w.heap.size + 1,0,none⟩),.slice (some ⟨gy,oy,none⟩) (L + 1) cy,.pointer (some ⟨w.heap.size + 1,0,none⟩),.slice (some ⟨gy,oy,none⟩) (L + 1) cy,.int .i64 ((L:Int) + 1),.int .i64 (L:Int),.pointer (some ⟨gy,oy + L,none⟩),.int .i64 (yl:Int),.int .i64 ((yl:Int) + 1),.int .i64 (sc:Int),.agg #[.slice ax kx cx],.int .i64 (sc:Int),.agg #[.slice a1 k1 c1],.agg #[.slice (some ⟨gy,oy,none⟩) (L + 1) cy],.int .i64 (sc:Int),undef,undef,undef,undef,undef,undef,undef,undef,undef,undef,undef,undef,undef,undef,undef,undef,undef,undef,undef,undef,undef,undef,undef,undef,undef,undef,undef,undef,undef,undef,undef,undef,undef,undef,undef],defers:=[] }∧Hid (Below (w.heap.size + 4) W0 w1∧w.heap.size + 4≤b7∧Cl b7 [.slice none 0 0] 64 w1∧LN w1 (.slice a1 k1 c1) (x * sc)))∨(∃ b8:Nat,∃ a1:Option Addr,∃ k1 c1:Nat,n = 4∧l = #[true,true,true,true,true,false,false,true,false,false]∧a = { tmps:=#[.agg #[.slice ax kx cx],.agg #[.slice (some ⟨gy,oy,none⟩) (L + 1) cy],.pointer (some ⟨w.heap.size,0,none⟩),.pointer (some ⟨w.heap.size + 1,0,none⟩),.pointer (some ⟨w.heap.size + 1 + 1,0,none⟩),.pointer (some ⟨w.heap.size + 1 + 1 + 1,0,none⟩),.int .i64 (sc:Int),undef,.pointer (some ⟨b8,0,none⟩),undef,undef,undef,.pointer (some ⟨w.heap.size + 1,0,none⟩),.slice (some ⟨gy,oy,none⟩) (L + 1) cy,.pointer (some ⟨w.heap.size + 1,0,none⟩),.slice (some ⟨gy,oy,none⟩) (L + 1) cy,.int .i64 ((L:Int) + 1),.int .i64 (L:Int),.pointer (some ⟨gy,oy + L,none⟩),.int .i64 (yl:Int),.int .i64 ((yl:Int) + 1),.int .i64 (sc:Int),.agg #[.slice ax kx cx],.int .i64 (sc:Int),.agg #[.slice a1 k1 c1],.agg #[.slice (some ⟨gy,oy,none⟩) (L + 1) cy],.int .i64 (sc:Int),undef,undef,undef,undef,undef,undef,undef,undef,undef,undef,undef,undef,undef,undef,undef,undef,undef,undef,undef,undef,undef,undef,undef,undef,undef,undef,undef,undef,undef,undef,undef,undef,undef,undef,undef],defers:=[] }∧Hid (Below (w.heap.size + 4) W0 w1∧w.heap.size + 4≤b8∧Cl b8 [.slice none 0 0] 64 w1∧LN w1 (.slice a1 k1 c1) (x * sc)))∨(∃ b7 b8:Nat,∃ a1:Option Addr,∃ k1 c1:Nat,n = 3∧l = #[true,true,true,true,true,false,true,true,false,false]∧a = { tmps:=#[.agg #[.slice ax kx cx],.agg #[.slice (some ⟨gy,oy,none⟩) (L + 1) cy],.pointer (some ⟨w.heap.size,0,none⟩),.pointer (some ⟨w.heap.size + 1,0,none⟩),.pointer (some ⟨w.heap.size + 1 + 1,0,none⟩),.pointer (some ⟨w.heap.size + 1 + 1 + 1,0,none⟩),.int .i64 (sc:Int),.pointer (some ⟨b7,0,none⟩),.pointer (some ⟨b8,0,none⟩),undef,undef,undef,.pointer (some ⟨w.heap.size + 1,0,none⟩),.slice (some ⟨gy,oy,none⟩) (L + 1) cy,.pointer (some ⟨w.heap.size + 1,0,none⟩),.slice (some ⟨gy,oy,none⟩) (L + 1) cy,.int .i64 ((L:Int) + 1),.int .i64 (L:Int),.pointer (some ⟨gy,oy + L,none⟩),.int .i64 (yl:Int),.int .i64 ((yl:Int) + 1),.int .i64 (sc:Int),.agg #[.slice ax kx cx],.int .i64 (sc:Int),.agg #[.slice a1 k1 c1],.agg #[.slice (some ⟨gy,oy,none⟩) (L + 1) cy],.int .i64 (sc:Int),undef,undef,undef,undef,undef,undef,undef,undef,undef,undef,undef,undef,undef,undef,undef,undef,undef,undef,undef,undef,undef,undef,undef,undef,undef,undef,undef,undef,undef,undef,undef,undef,undef,undef,undef],defers:=[] }∧Hid (Below (w.heap.size + 4) W0 w1∧w.heap.size + 4≤b7∧Cl b7 [.slice none 0 0] 64 w1∧w.heap.size + 4≤b8∧Cl b8 [.slice none 0 0] 64 w1∧b7 ≠ b8∧LN w1 (.slice a1 k1 c1) (x * sc)))∨(∃ a1:Option Addr,∃ k1 c1:Nat,∃ a2:Option Addr,∃ k2 c2:Nat,n = 4∧l = #[true,true,true,true,true,true,false,false,false,false]∧a = { tmps:=#[.agg #[.slice ax kx cx],.agg #[.slice (some ⟨gy,oy,none⟩) (L + 1) cy],.pointer (some ⟨w.heap.size,0,none⟩),.pointer (some ⟨w.heap.size + 1,0,none⟩),.pointer (some ⟨w.heap.size + 1 + 1,0,none⟩),.pointer (some ⟨w.heap.size + 1 + 1 + 1,0,none⟩),.int .i64 (sc:Int),undef,undef,undef,undef,undef,.pointer (some ⟨w.heap.size + 1,0,none⟩),.slice (some ⟨gy,oy,none⟩) (L + 1) cy,.pointer (some ⟨w.heap.size + 1,0,none⟩),.slice (some ⟨gy,oy,none⟩) (L + 1) cy,.int .i64 ((L:Int) + 1),.int .i64 (L:Int),.pointer (some ⟨gy,oy + L,none⟩),.int .i64 (yl:Int),.int .i64 ((yl:Int) + 1),.int .i64 (sc:Int),.agg #[.slice ax kx cx],.int .i64 (sc:Int),.agg #[.slice a1 k1 c1],.agg #[.slice (some ⟨gy,oy,none⟩) (L + 1) cy],.int .i64 (sc:Int),.agg #[.slice a2 k2 c2],undef,undef,undef,undef,undef,undef,undef,undef,undef,undef,undef,undef,undef,undef,undef,undef,undef,undef,undef,undef,undef,undef,undef,undef,undef,undef,undef,undef,undef,undef,undef,undef,undef,undef],defers:=[] }∧Hid (Below (w.heap.size + 4) W0 w1∧LN w1 (.slice a1 k1 c1) (x * sc)∧LN w1 (.slice a2 k2 c2) (y * sc)))∨(∃ b7:Nat,∃ a1:Option Addr,∃ k1 c1:Nat,∃ a2:Option Addr,∃ k2 c2:Nat,n = 3∧l = #[true,true,true,true,true,true,true,false,false,false]∧a = { tmps:=#[.agg #[.slice ax kx cx],.agg #[.slice (some ⟨gy,oy,none⟩) (L + 1) cy],.pointer (some ⟨w.heap.size,0,none⟩),.pointer (some ⟨w.heap.size + 1,0,none⟩),.pointer (some ⟨w.heap.size + 1 + 1,0,none⟩),.pointer (some ⟨w.heap.size + 1 + 1 + 1,0,none⟩),.int .i64 (sc:Int),.pointer (some ⟨b7,0,none⟩),undef,undef,undef,undef,.pointer (some ⟨w.heap.size + 1,0,none⟩),.slice (some ⟨gy,oy,none⟩) (L + 1) cy,.pointer (some ⟨w.heap.size + 1,0,none⟩),.slice (some ⟨gy,oy,none⟩) (L + 1) cy,.int .i64 ((L:Int) + 1),.int .i64 (L:Int),.pointer (some ⟨gy,oy + L,none⟩),.int .i64 (yl:Int),.int .i64 ((yl:Int) + 1),.int .i64 (sc:Int),.agg #[.slice ax kx cx],.int .i64 (sc:Int),.agg #[.slice a1 k1 c1],.agg #[.slice (some ⟨gy,oy,none⟩) (L + 1) cy],.int .i64 (sc:Int),.agg #[.slice a2 k2 c2],undef,undef,undef,undef,undef,undef,undef,undef,undef,undef,undef,undef,undef,undef,undef,undef,undef,undef,undef,undef,undef,undef,undef,undef,undef,undef,undef,undef,undef,undef,undef,undef,undef,undef],defers:=[] }∧Hid (Below (w.heap.size + 4) W0 w1∧w.heap.size + 4≤b7∧Cl b7 [.slice none 0 0] 64 w1∧LN w1 (.slice a1 k1 c1) (x * sc)∧LN w1 (.slice a2 k2 c2) (y * sc)))∨(∃ b8:Nat,∃ a1:Option Addr,∃ k1 c1:Nat,∃ a2:Option Addr,∃ k2 c2:Nat,n = 3∧l = #[true,true,true,true,true,true,false,true,false,false]∧a = { tmps:=#[.agg #[.slice ax kx cx],.agg #[.slice (some ⟨gy,oy,none⟩) (L + 1) cy],.pointer (some ⟨w.heap.size,0,none⟩),.pointer (some ⟨w.heap.size + 1,0,none⟩),.pointer (some ⟨w.heap.size + 1 + 1,0,none⟩),.pointer (some ⟨w.heap.size + 1 + 1 + 1,0,none⟩),.int .i64 (sc:Int),undef,.pointer (some ⟨b8,0,none⟩),undef,undef,undef,.pointer (some ⟨w.heap.size + 1,0,none⟩),.slice (some ⟨gy,oy,none⟩) (L + 1) cy,.pointer (some ⟨w.heap.size + 1,0,none⟩),.slice (some ⟨gy,oy,none⟩) (L + 1) cy,.int .i64 ((L:Int) + 1),.int .i64 (L:Int),.pointer (some ⟨gy,oy + L,none⟩),.int .i64 (yl:Int),.int .i64 ((yl:Int) + 1),.int .i64 (sc:Int),.agg #[.slice ax kx cx],.int .i64 (sc:Int),.agg #[.slice a1 k1 c1],.agg #[.slice (some ⟨gy,oy,none⟩) (L + 1) cy],.int .i64 (sc:Int),.agg #[.slice a2 k2 c2],undef,undef,undef,undef,undef,undef,undef,undef,undef,undef,undef,undef,undef,undef,undef,undef,undef,undef,undef,undef,undef,undef,undef,undef,undef,undef,undef,undef,undef,undef,undef,undef,undef,undef],defers:=[] }∧Hid (Below (w.heap.size + 4) W0 w1∧w.heap.size + 4≤b8∧Cl b8 [.slice none 0 0] 64 w1∧LN w1 (.slice a1 k1 c1) (x * sc)∧LN w1 (.slice a2 k2 c2) (y * sc)))∨(∃ b7 b8:Nat,∃ a1:Option Addr,∃ k1 c1:Nat,∃ a2:Option Addr,∃ k2 c2:Nat,n = 2∧l = #[true,true,true,true,true,true,true,true,false,false]∧a = { tmps:=#[.agg #[.slice ax kx cx],.agg #[.slice (some ⟨gy,oy,none⟩) (L + 1) cy],.pointer (some ⟨w.heap.size,0,none⟩),.pointer (some ⟨w.heap.size + 1,0,none⟩),.pointer (some ⟨w.heap.size + 1 + 1,0,none⟩),.pointer (some ⟨w.heap.size + 1 + 1 + 1,0,none⟩),.int .i64 (sc:Int),.pointer (some ⟨b7,0,none⟩),.pointer (some ⟨b8,0,none⟩),undef,undef,undef,.pointer (some ⟨w.heap.size + 1,0,none⟩),.slice (some ⟨gy,oy,none⟩) (L + 1) cy,.pointer (some ⟨w.heap.size + 1,0,none⟩),.slice (some ⟨gy,oy,none⟩) (L + 1) cy,.int .i64 ((L:Int) + 1),.int .i64 (L:Int),.pointer (some ⟨gy,oy + L,none⟩),.int .i64 (yl:Int),.int .i64 ((yl:Int) + 1),.int .i64 (sc:Int),.agg #[.slice ax kx cx],.int .i64 (sc:Int),.agg #[.slice a1 k1 c1],.agg #[.slice (some ⟨gy,oy,none⟩) (L + 1) cy],.int .i64 (sc:Int),.agg #[.slice a2 k2 c2],undef,undef,undef,undef,undef,undef,undef,undef,undef,undef,undef,undef,undef,undef,undef,undef,undef,undef,undef,undef,undef,undef,undef,undef,undef,undef,undef,undef,undef,undef,undef,undef,undef,undef],defers:=[] }∧Hid (Below (w.heap.size + 4) W0 w1∧w.heap.size + 4≤b7∧Cl b7 [.slice none 0 0] 64 w1∧w.heap.size + 4≤b8∧Cl b8 [.slice none 0 0] 64 w1∧b7 ≠ b8∧LN w1 (.slice a1 k1 c1) (x * sc)∧LN w1 (.slice a2 k2 c2) (y * sc)))∨(∃ b7 b8:Nat,∃ a1:Option Addr,∃ k1 c1:Nat,∃ a2:Option Addr,∃ k2 c2:Nat,n = 1∧l = #[true,true,true,true,true,true,true,true,true,false]∧a = { tmps:=#[.agg #[.slice ax kx cx],.agg #[.slice (some ⟨gy,oy,none⟩) (L + 1) cy],.pointer (some ⟨w.heap.size,0,none⟩),.pointer (some ⟨w.heap.size + 1,0,none⟩),.pointer (some ⟨w.heap.size + 1 + 1,0,none⟩),.pointer (some ⟨w.heap.size + 1 + 1 + 1,0,none⟩),.int .i64 (sc:Int),.pointer (some ⟨b7,0,none⟩),.pointer (some ⟨b8,0,none⟩),undef,undef,undef,.pointer (some ⟨w.heap.size + 1,0,none⟩),.slice (some ⟨gy,oy,none⟩) (L + 1) cy,.pointer (some ⟨w.heap.size + 1,0,none⟩),.slice (some ⟨gy,oy,none⟩) (L + 1) cy,.int .i64 ((L:Int) + 1),.int .i64 (L:Int),.pointer (some ⟨gy,oy + L,none⟩),.int .i64 (yl:Int),.int .i64 ((yl:Int) + 1),.int .i64 (sc:Int),.agg #[.slice ax kx cx],.int .i64 (sc:Int),.agg #[.slice a1 k1 c1],.agg #[.slice (some ⟨gy,oy,none⟩) (L + 1) cy],.int .i64 (sc:Int),.agg #[.slice a2 k2 c2],undef,undef,undef,undef,undef,undef,undef,undef,undef,undef,undef,undef,undef,undef,undef,undef,undef,undef,undef,undef,undef,undef,undef,undef,undef,undef,undef,undef,undef,undef,undef,undef,undef,undef],defers:=[] }∧Hid (Below (w.heap.size + 4) W0 w1∧w.heap.size + 4≤b7∧Cl b7 [.slice a1 k1 c1] 64 w1∧w.heap.size + 4≤b8∧Cl b8 [.slice none 0 0] 64 w1∧b7 ≠ b8∧LN w1 (.slice a1 k1 c1) (x * sc)∧LN w1 (.slice a2 k2 c2) (y * sc)))∨(∃ b7 b8:Nat,∃ a1:Option Addr,∃ k1 c1:Nat,∃ a2:Option Addr,∃ k2 c2:Nat,n = 0∧l = #[true,true,true,true,true,true,true,true,true,true]∧a = { tmps:=#[.agg #[.slice ax kx cx],.agg #[.slice (some ⟨gy,oy,none⟩) (L + 1) cy],.pointer (some ⟨w.heap.size,0,none⟩),.pointer (some ⟨w.heap.size + 1,0,none⟩),.pointer (some ⟨w.heap.size + 1 + 1,0,none⟩),.pointer (some ⟨w.heap.size + 1 + 1 + 1,0,none⟩),.int .i64 (sc:Int),.pointer (some ⟨b7,0,none⟩),.pointer (some ⟨b8,0,none⟩),undef,undef,undef,.pointer (some ⟨w.heap.size + 1,0,none⟩),.slice (some ⟨gy,oy,none⟩) (L + 1) cy,.pointer (some ⟨w.heap.size + 1,0,none⟩),.slice (some ⟨gy,oy,none⟩) (L + 1) cy,.int .i64 ((L:Int) + 1),.int .i64 (L:Int),.pointer (some ⟨gy,oy + L,none⟩),.int .i64 (yl:Int),.int .i64 ((yl:Int) + 1),.int .i64 (sc:Int),.agg #[.slice ax kx cx],.int .i64 (sc:Int),.agg #[.slice a1 k1 c1],.agg #[.slice (some ⟨gy,oy,none⟩) (L + 1) cy],.int .i64 (sc:Int),.agg #[.slice a2 k2 c2],undef,undef,undef,undef,undef,undef,undef,undef,undef,undef,undef,undef,undef,undef,undef,undef,undef,undef,undef,undef,undef,undef,undef,undef,undef,undef,undef,undef,undef,undef,undef,undef,undef,undef],defers:=[] }∧Hid (Below (w.heap.size + 4) W0 w1∧w.heap.size + 4≤b7∧Cl b7 [.slice a1 k1 c1] 64 w1∧w.heap.size + 4≤b8∧Cl b8 [.slice a2 k2 c2] 64 w1∧b7 ≠ b8∧LN w1 (.slice a1 k1 c1) (x * sc)∧LN w1 (.slice a2 k2 c2) (y * sc)))) ?steps _ _ _ _ ?start
 case start=>exact Or.inl (⟨rfl,rfl,rfl,(Below.refl _ _).drew⟩)
 case steps =>
  intro n l a w1 hI
  rcases hI with hI | hI | hI | hI | hI | hI | hI | hI | hI | hI | hI | hI | hI | hI
  ·obtain ⟨rfl,rfl,rfl,HH⟩:=hI
   right
   refine ⟨5,[2,6,7],rfl,by kernel_rfl,by simp,fun i hi=>?_⟩
   simp only [List.mem_cons,List.not_mem_nil,or_false] at hi
   rcases hi with rfl | rfl | rfl
   ·refine ⟨_,rfl,fun K' hK=>?_⟩
    go_simp
    have K:=HH.out
    have zl:=HZl.out _ K
    refine (HT2.out w1 K).mono ?_
    rintro e w2 ⟨a1,k1,c1,rfl,ln2,kk⟩
    refine hK.out _ _ (fun _ _=>HS.out _ (K.trans (kk.mono zl))) (Or.inr (Or.inr (Or.inr (Or.inr (Or.inl (⟨a1,k1,c1,rfl,rfl,rfl,K.trans (kk.mono zl),ln2⟩))))))
   ·refine ⟨_,rfl,fun K' hK=>?_⟩
    go_simp
    have K:=HH.out
    have zl:=HZl.out _ K
    refine hK.out _ _ (fun _ _=>HS.out _ (K.alloc zl _)) (Or.inr (Or.inl (⟨w1.heap.size,rfl,rfl,rfl,K.alloc zl _,zl,Cl.new [.slice none 0 0] _ w1⟩)))
   ·refine ⟨_,rfl,fun K' hK=>?_⟩
    go_simp
    have K:=HH.out
    have zl:=HZl.out _ K
    refine hK.out _ _ (fun _ _=>HS.out _ (K.alloc zl _)) (Or.inr (Or.inr (Or.inl (⟨w1.heap.size,rfl,rfl,rfl,K.alloc zl _,zl,Cl.new [.slice none 0 0] _ w1⟩))))
  ·obtain ⟨b7,rfl,rfl,rfl,HH⟩:=hI
   right
   refine ⟨4,[2,7],rfl,by kernel_rfl,by simp,fun i hi=>?_⟩
   simp only [List.mem_cons,List.not_mem_nil,or_false] at hi
   rcases hi with rfl | rfl
   ·refine ⟨_,rfl,fun K' hK=>?_⟩
    go_simp
    obtain ⟨K,ge_b7,at_b7⟩:=HH.out
    have zl:=HZl.out _ K
    refine (HT2.out w1 K).mono ?_
    rintro e w2 ⟨a1,k1,c1,rfl,ln2,kk⟩
    refine hK.out _ _ (fun _ _=>HS.out _ (K.trans (kk.mono zl))) (Or.inr (Or.inr (Or.inr (Or.inr (Or.inr (Or.inl (⟨b7,a1,k1,c1,rfl,rfl,rfl,K.trans (kk.mono zl),ge_b7,at_b7.below kk,ln2⟩)))))))
   ·refine ⟨_,rfl,fun K' hK=>?_⟩
    go_simp
    obtain ⟨K,ge_b7,at_b7⟩:=HH.out
    have zl:=HZl.out _ K
    refine hK.out _ _ (fun _ _=>HS.out _ (K.alloc zl _)) (Or.inr (Or.inr (Or.inr (Or.inl (⟨b7,w1.heap.size,rfl,rfl,rfl,K.alloc zl _,ge_b7,at_b7.alloc _,zl,Cl.new [.slice none 0 0] _ w1,(Nat.ne_of_lt at_b7.lt)⟩)))))
  ·obtain ⟨b8,rfl,rfl,rfl,HH⟩:=hI
   right
   refine ⟨4,[2,6],rfl,by kernel_rfl,by simp,fun i hi=>?_⟩
   simp only [List.mem_cons,List.not_mem_nil,or_false] at hi
   rcases hi with rfl | rfl
   ·refine ⟨_,rfl,fun K' hK=>?_⟩
    go_simp
    obtain ⟨K,ge_b8,at_b8⟩:=HH.out
    have zl:=HZl.out _ K
    refine (HT2.out w1 K).mono ?_
    rintro e w2 ⟨a1,k1,c1,rfl,ln2,kk⟩
    refine hK.out _ _ (fun _ _=>HS.out _ (K.trans (kk.mono zl))) (Or.inr (Or.inr (Or.inr (Or.inr (Or.inr (Or.inr (Or.inl (⟨b8,a1,k1,c1,rfl,rfl,rfl,K.trans (kk.mono zl),ge_b8,at_b8.below kk,ln2⟩))))))))
   ·refine ⟨_,rfl,fun K' hK=>?_⟩
    go_simp
    obtain ⟨K,ge_b8,at_b8⟩:=HH.out
    have zl:=HZl.out _ K
    refine hK.out _ _ (fun _ _=>HS.out _ (K.alloc zl _)) (Or.inr (Or.inr (Or.inr (Or.inl (⟨w1.heap.size,b8,rfl,rfl,rfl,K.alloc zl _,zl,Cl.new [.slice none 0 0] _ w1,ge_b8,at_b8.alloc _,(Nat.ne_of_gt at_b8.lt)⟩)))))
  ·obtain ⟨b7,b8,rfl,rfl,rfl,HH⟩:=hI
   right
   refine ⟨3,[2],rfl,by kernel_rfl,by simp,fun i hi=>?_⟩
   simp only [List.mem_cons,List.not_mem_nil,or_false] at hi
   subst hi
   refine ⟨_,rfl,fun K' hK=>?_⟩
   go_simp
   obtain ⟨K,ge_b7,at_b7,ge_b8,at_b8,ne78⟩:=HH.out
   have zl:=HZl.out _ K
   refine (HT2.out w1 K).mono ?_
   rintro e w2 ⟨a1,k1,c1,rfl,ln2,kk⟩
   refine hK.out _ _ (fun _ _=>HS.out _ (K.trans (kk.mono zl))) (Or.inr (Or.inr (Or.inr (Or.inr (Or.inr (Or.inr (Or.inr (Or.inl (⟨b7,b8,a1,k1,c1,rfl,rfl,rfl,K.trans (kk.mono zl),ge_b7,at_b7.below kk,ge_b8,at_b8.below kk,ne78,ln2⟩)))))))))
  ·obtain ⟨a1,k1,c1,rfl,rfl,rfl,HH⟩:=hI
   right
   refine ⟨4,[5,6,7],rfl,by kernel_rfl,by simp,fun i hi=>?_⟩
   simp only [List.mem_cons,List.not_mem_nil,or_false] at hi
   rcases hi with rfl | rfl | rfl
   ·refine ⟨_,rfl,fun K' hK=>?_⟩
    go_simp
    obtain ⟨K,ln2⟩:=HH.out
    have zl:=HZl.out _ K
    refine (HT5.out w1 K).mono ?_
    rintro e w2 ⟨a2,k2,c2,rfl,ln5,kk⟩
    refine hK.out _ _ (fun _ _=>HS.out _ (K.trans (kk.mono zl))) (Or.inr (Or.inr (Or.inr (Or.inr (Or.inr (Or.inr (Or.inr (Or.inr (Or.inl (⟨a1,k1,c1,a2,k2,c2,rfl,rfl,rfl,K.trans (kk.mono zl),ln2.below kk,ln5⟩))))))))))
   ·refine ⟨_,rfl,fun K' hK=>?_⟩
    go_simp
    obtain ⟨K,ln2⟩:=HH.out
    have zl:=HZl.out _ K
    refine hK.out _ _ (fun _ _=>HS.out _ (K.alloc zl _)) (Or.inr (Or.inr (Or.inr (Or.inr (Or.inr (Or.inl (⟨w1.heap.size,a1,k1,c1,rfl,rfl,rfl,K.alloc zl _,zl,Cl.new [.slice none 0 0] _ w1,ln2.below ((Below.refl _ _).alloc (Nat.le_refl _) _)⟩)))))))
   ·refine ⟨_,rfl,fun K' hK=>?_⟩
    go_simp
    obtain ⟨K,ln2⟩:=HH.out
    have zl:=HZl.out _ K
    refine hK.out _ _ (fun _ _=>HS.out _ (K.alloc zl _)) (Or.inr (Or.inr (Or.inr (Or.inr (Or.inr (Or.inr (Or.inl (⟨w1.heap.size,a1,k1,c1,rfl,rfl,rfl,K.alloc zl _,zl,Cl.new [.slice none 0 0] _ w1,ln2.below ((Below.refl _ _).alloc (Nat.le_refl _) _)⟩))))))))
  ·obtain ⟨b7,a1,k1,c1,rfl,rfl,rfl,HH⟩:=hI
   right
   refine ⟨3,[5,7],rfl,by kernel_rfl,by simp,fun i hi=>?_⟩
   simp only [List.mem_cons,List.not_mem_nil,or_false] at hi
   rcases hi with rfl | rfl
   ·refine ⟨_,rfl,fun K' hK=>?_⟩
    go_simp
    obtain ⟨K,ge_b7,at_b7,ln2⟩:=HH.out
    have zl:=HZl.out _ K
    refine (HT5.out w1 K).mono ?_
    rintro e w2 ⟨a2,k2,c2,rfl,ln5,kk⟩
    refine hK.out _ _ (fun _ _=>HS.out _ (K.trans (kk.mono zl))) (Or.inr (Or.inr (Or.inr (Or.inr (Or.inr (Or.inr (Or.inr (Or.inr (Or.inr (Or.inl (⟨b7,a1,k1,c1,a2,k2,c2,rfl,rfl,rfl,K.trans (kk.mono zl),ge_b7,at_b7.below kk,ln2.below kk,ln5⟩)))))))))))
   ·refine ⟨_,rfl,fun K' hK=>?_⟩
    go_simp
    obtain ⟨K,ge_b7,at_b7,ln2⟩:=HH.out
    have zl:=HZl.out _ K
    refine hK.out _ _ (fun _ _=>HS.out _ (K.alloc zl _)) (Or.inr (Or.inr (Or.inr (Or.inr (Or.inr (Or.inr (Or.inr (Or.inl (⟨b7,w1.heap.size,a1,k1,c1,rfl,rfl,rfl,K.alloc zl _,ge_b7,at_b7.alloc _,zl,Cl.new [.slice none 0 0] _ w1,(Nat.ne_of_lt at_b7.lt),ln2.below ((Below.refl _ _).alloc (Nat.le_refl _) _)⟩)))))))))
  ·obtain ⟨b8,a1,k1,c1,rfl,rfl,rfl,HH⟩:=hI
   right
   refine ⟨3,[5,6],rfl,by kernel_rfl,by simp,fun i hi=>?_⟩
   simp only [List.mem_cons,List.not_mem_nil,or_false] at hi
   rcases hi with rfl | rfl
   ·refine ⟨_,rfl,fun K' hK=>?_⟩
    go_simp
    obtain ⟨K,ge_b8,at_b8,ln2⟩:=HH.out
    have zl:=HZl.out _ K
    refine (HT5.out w1 K).mono ?_
    rintro e w2 ⟨a2,k2,c2,rfl,ln5,kk⟩
    refine hK.out _ _ (fun _ _=>HS.out _ (K.trans (kk.mono zl))) (Or.inr (Or.inr (Or.inr (Or.inr (Or.inr (Or.inr (Or.inr (Or.inr (Or.inr (Or.inr (Or.inl (⟨b8,a1,k1,c1,a2,k2,c2,rfl,rfl,rfl,K.trans (kk.mono zl),ge_b8,at_b8.below kk,ln2.below kk,ln5⟩))))))))))))
   ·refine ⟨_,rfl,fun K' hK=>?_⟩
    go_simp
    obtain ⟨K,ge_b8,at_b8,ln2⟩:=HH.out
    have zl:=HZl.out _ K
    refine hK.out _ _ (fun _ _=>HS.out _ (K.alloc zl _)) (Or.inr (Or.inr (Or.inr (Or.inr (Or.inr (Or.inr (Or.inr (Or.inl (⟨w1.heap.size,b8,a1,k1,c1,rfl,rfl,rfl,K.alloc zl _,zl,Cl.new [.slice none 0 0] _ w1,ge_b8,at_b8.alloc _,(Nat.ne_of_gt at_b8.lt),ln2.below ((Below.refl _ _).alloc (Nat.le_refl _) _)⟩)))))))))
  ·obtain ⟨b7,b8,a1,k1,c1,rfl,rfl,rfl,HH⟩:=hI
   right
   refine ⟨2,[5],rfl,by kernel_rfl,by simp,fun i hi=>?_⟩
   simp only [List.mem_cons,List.not_mem_nil,or_false] at hi
   subst hi
   refine ⟨_,rfl,fun K' hK=>?_⟩
   go_simp
   obtain ⟨K,ge_b7,at_b7,ge_b8,at_b8,ne78,ln2⟩:=HH.out
   have zl:=HZl.out _ K
   refine (HT5.out w1 K).mono ?_
   rintro e w2 ⟨a2,k2,c2,rfl,ln5,kk⟩
   refine hK.out _ _ (fun _ _=>HS.out _ (K.trans (kk.mono zl))) (Or.inr (Or.inr (Or.inr (Or.inr (Or.inr (Or.inr (Or.inr (Or.inr (Or.inr (Or.inr (Or.inr (Or.inl (⟨b7,b8,a1,k1,c1,a2,k2,c2,rfl,rfl,rfl,K.trans (kk.mono zl),ge_b7,at_b7.below kk,ge_b8,at_b8.below kk,ne78,ln2.below kk,ln5⟩)))))))))))))
  ·obtain ⟨a1,k1,c1,a2,k2,c2,rfl,rfl,rfl,HH⟩:=hI
   right
   refine ⟨3,[6,7],rfl,by kernel_rfl,by simp,fun i hi=>?_⟩
   simp only [List.mem_cons,List.not_mem_nil,or_false] at hi
   rcases hi with rfl | rfl
   ·refine ⟨_,rfl,fun K' hK=>?_⟩
    go_simp
    obtain ⟨K,ln2,ln5⟩:=HH.out
    have zl:=HZl.out _ K
    refine hK.out _ _ (fun _ _=>HS.out _ (K.alloc zl _)) (Or.inr (Or.inr (Or.inr (Or.inr (Or.inr (Or.inr (Or.inr (Or.inr (Or.inr (Or.inl (⟨w1.heap.size,a1,k1,c1,a2,k2,c2,rfl,rfl,rfl,K.alloc zl _,zl,Cl.new [.slice none 0 0] _ w1,ln2.below ((Below.refl _ _).alloc (Nat.le_refl _) _),ln5.below ((Below.refl _ _).alloc (Nat.le_refl _) _)⟩)))))))))))
   ·refine ⟨_,rfl,fun K' hK=>?_⟩
    go_simp
    obtain ⟨K,ln2,ln5⟩:=HH.out
    have zl:=HZl.out _ K
    refine hK.out _ _ (fun _ _=>HS.out _ (K.alloc zl _)) (Or.inr (Or.inr (Or.inr (Or.inr (Or.inr (Or.inr (Or.inr (Or.inr (Or.inr (Or.inr (Or.inl (⟨w1.heap.size,a1,k1,c1,a2,k2,c2,rfl,rfl,rfl,K.alloc zl _,zl,Cl.new [.slice none 0 0] _ w1,ln2.below ((Below.refl _ _).alloc (Nat.le_refl _) _),ln5.below ((Below.refl _ _).alloc (Nat.le_refl _) _)⟩))))))))))))
  ·obtain ⟨b7,a1,k1,c1,a2,k2,c2,rfl,rfl,rfl,HH⟩:=hI
   right
   refine ⟨2,[7],rfl,by kernel_rfl,by simp,fun i hi=>?_⟩
   simp only [List.mem_cons,List.not_mem_nil,or_false] at hi
   subst hi
   refine ⟨_,rfl,fun K' hK=>?_⟩
   go_simp
   obtain ⟨K,ge_b7,at_b7,ln2,ln5⟩:=HH.out
   have zl:=HZl.out _ K
   refine hK.out _ _ (fun _ _=>HS.out _ (K.alloc zl _)) (Or.inr (Or.inr (Or.inr (Or.inr (Or.inr (Or.inr (Or.inr (Or.inr (Or.inr (Or.inr (Or.inr (Or.inl (⟨b7,w1.heap.size,a1,k1,c1,a2,k2,c2,rfl,rfl,rfl,K.alloc zl _,ge_b7,at_b7.alloc _,zl,Cl.new [.slice none 0 0] _ w1,(Nat.ne_of_lt at_b7.lt),ln2.below ((Below.refl _ _).alloc (Nat.le_refl _) _),ln5.below ((Below.refl _ _).alloc (Nat.le_refl _) _)⟩)))))))))))))
  ·obtain ⟨b8,a1,k1,c1,a2,k2,c2,rfl,rfl,rfl,HH⟩:=hI
   right
   refine ⟨2,[6],rfl,by kernel_rfl,by simp,fun i hi=>?_⟩
   simp only [List.mem_cons,List.not_mem_nil,or_false] at hi
   subst hi
   refine ⟨_,rfl,fun K' hK=>?_⟩
   go_simp
   obtain ⟨K,ge_b8,at_b8,ln2,ln5⟩:=HH.out
   have zl:=HZl.out _ K
   refine hK.out _ _ (fun _ _=>HS.out _ (K.alloc zl _)) (Or.inr (Or.inr (Or.inr (Or.inr (Or.inr (Or.inr (Or.inr (Or.inr (Or.inr (Or.inr (Or.inr (Or.inl (⟨w1.heap.size,b8,a1,k1,c1,a2,k2,c2,rfl,rfl,rfl,K.alloc zl _,zl,Cl.new [.slice none 0 0] _ w1,ge_b8,at_b8.alloc _,(Nat.ne_of_gt at_b8.lt),ln2.below ((Below.refl _ _).alloc (Nat.le_refl _) _),ln5.below ((Below.refl _ _).alloc (Nat.le_refl _) _)⟩)))))))))))))
  ·obtain ⟨b7,b8,a1,k1,c1,a2,k2,c2,rfl,rfl,rfl,HH⟩:=hI
   right
   refine ⟨1,[8],rfl,by kernel_rfl,by simp,fun i hi=>?_⟩
   simp only [List.mem_cons,List.not_mem_nil,or_false] at hi
   subst hi
   refine ⟨_,rfl,fun K' hK=>?_⟩
   obtain ⟨K,ge_b7,at_b7,ge_b8,at_b8,ne78,ln2,ln5⟩:=HH.out
   have qc:=at_b7.cell 0
   have qf:=at_b7.frozen 0
   simp at qc
   have Z_K:Hid _:=K
   have Z_ge_b7:Hid _:=ge_b7
   have Z_at_b7:Hid _:=at_b7
   have Z_ge_b8:Hid _:=ge_b8
   have Z_at_b8:Hid _:=at_b8
   have Z_ne78:Hid _:=ne78
   have Z_ln2:Hid _:=ln2
   have Z_ln5:Hid _:=ln5
   clear ln5 ln2 ne78 at_b8 ge_b8 at_b7 ge_b7 K
   go_simp
   have K:=Z_K.out
   have ge_b7:=Z_ge_b7.out
   have at_b7:=Z_at_b7.out
   have ge_b8:=Z_ge_b8.out
   have at_b8:=Z_at_b8.out
   have ne78:=Z_ne78.out
   have ln2:=Z_ln2.out
   have ln5:=Z_ln5.out
   refine hK.out _ _ (fun _ _=>HS.out _ (Below.setCell K (by simpa using ge_b7) _)) (Or.inr (Or.inr (Or.inr (Or.inr (Or.inr (Or.inr (Or.inr (Or.inr (Or.inr (Or.inr (Or.inr (Or.inr (Or.inl (⟨b7,b8,a1,k1,c1,a2,k2,c2,rfl,rfl,rfl,Below.setCell K (by simpa using ge_b7) _,ge_b7,Cl.set at_b7 0 _,ge_b8,Cl.other at_b8 (by simpa using (Ne.symm ne78)) _,ne78,LN.set ln2 at_b7 _,LN.set ln5 at_b7 _⟩))))))))))))))
  ·obtain ⟨b7,b8,a1,k1,c1,a2,k2,c2,rfl,rfl,rfl,HH⟩:=hI
   right
   refine ⟨0,[9],rfl,by kernel_rfl,by simp,fun i hi=>?_⟩
   simp only [List.mem_cons,List.not_mem_nil,or_false] at hi
   subst hi
   refine ⟨_,rfl,fun K' hK=>?_⟩
   obtain ⟨K,ge_b7,at_b7,ge_b8,at_b8,ne78,ln2,ln5⟩:=HH.out
   have qc:=at_b8.cell 0
   have qf:=at_b8.frozen 0
   simp at qc
   have Z_K:Hid _:=K
   have Z_ge_b7:Hid _:=ge_b7
   have Z_at_b7:Hid _:=at_b7
   have Z_ge_b8:Hid _:=ge_b8
   have Z_at_b8:Hid _:=at_b8
   have Z_ne78:Hid _:=ne78
   have Z_ln2:Hid _:=ln2
   have Z_ln5:Hid _:=ln5
   clear ln5 ln2 ne78 at_b8 ge_b8 at_b7 ge_b7 K
   go_simp
   have K:=Z_K.out
   have ge_b7:=Z_ge_b7.out
   have at_b7:=Z_at_b7.out
   have ge_b8:=Z_ge_b8.out
   have at_b8:=Z_at_b8.out
   have ne78:=Z_ne78.out
   have ln2:=Z_ln2.out
   have ln5:=Z_ln5.out
   refine hK.out _ _ (fun _ h=>absurd rfl h) (Or.inr (Or.inr (Or.inr (Or.inr (Or.inr (Or.inr (Or.inr (Or.inr (Or.inr (Or.inr (Or.inr (Or.inr (Or.inr (⟨b7,b8,a1,k1,c1,a2,k2,c2,rfl,rfl,rfl,Below.setCell K (by simpa using ge_b8) _,ge_b7,Cl.other at_b7 (by simpa using ne78) _,ge_b8,Cl.set at_b8 0 _,ne78,LN.set ln2 at_b8 _,LN.set ln5 at_b8 _⟩))))))))))))))
  ·obtain ⟨b7,b8,a1,k1,c1,a2,k2,c2,rfl,rfl,rfl,HH⟩:=hI
   left
   refine ⟨by kernel_rfl,?_⟩
   clear hHeld0 q1 q2 hscI hyz HT2 HT5
   dsimp only
   obtain ⟨K,ge_b7,at_b7,ge_b8,at_b8,ne78,ln2,ln5⟩:=HH.out
   obtain ⟨X,hX⟩:∃ X,X = x * sc:=⟨_,rfl⟩
   obtain ⟨Y,hY⟩:∃ Y,Y = y * sc:=⟨_,rfl⟩
   rw [← hX] at ln2
   rw [← hY] at ln5
   have HXY:Hid (0 < Y∧X / Y = x / y∧X < Bs ^ (m + 2)∧Y < Bs ^ (m + 2)):=by
    refine ⟨by rw [hY]; exact Nat.mul_pos HY0.out hsc1.1,by rw [hX,hY,Nat.mul_div_mul_right _ _ hsc1.1],?_,?_⟩
    ·rw [hX,show m + 2 = m + 1 + 1 from rfl,pow_s]
     have h1:=HXM.out
     have h2:x * sc≤x * Bs:=Nat.mul_le_mul_left _ hsc1.2
     have h3:x * Bs < Bs ^ m * Bs:=Nat.mul_lt_mul_of_pos_right h1 (by decide)
     have h4:Bs ^ (m + 1) * 1≤Bs ^ (m + 1) * Bs:=Nat.mul_le_mul_left _ (by decide)
     rw [pow_s] at h4 ⊢
     omega
    ·rw [hY,show m + 2 = m + 1 + 1 from rfl,pow_s]
     have h1:=HYM.out
     have h2:y * sc≤y * Bs:=Nat.mul_le_mul_left _ hsc1.2
     have h3:y * Bs < Bs ^ m * Bs:=Nat.mul_lt_mul_of_pos_right h1 (by decide)
     have h4:Bs ^ (m + 1) * 1≤Bs ^ (m + 1) * Bs:=Nat.mul_le_mul_left _ (by decide)
     rw [pow_s] at h4 ⊢
     omega
   clear hX hY
   obtain ⟨kk,aa,g1,o1,cc,e,n1,p1,c1f,l1⟩:=ln2.open
   simp only [Value.slice.injEq] at e
   obtain ⟨rfl,rfl,rfl⟩:=e
   have hk1:=n1.le HXY.out.2.2.1
   have HB7:Hid (Cl b7 [.slice a1 k1 c1] 64 w1∧Cl b8 [.slice a2 k2 c2] 64 w1∧LN w1 (.slice a2 k2 c2) Y):=⟨at_b7,at_b8,ln5⟩
   have HX1:Hid (X < Bs ^ k1∧(0 < k1→a1 = some ⟨g1,o1,none⟩)∧(∀ i,i < k1→w1.cell? ⟨g1,o1 + i,none⟩ = some (.int .i64 ((X / Bs ^ i % Bs:Nat):Int)))∧(0 < k1→g1 < w1.heap.size)):=⟨n1.lt,p1,c1f,l1⟩
   have HK1:Hid (Below (w.heap.size + 4) W0 w1):=K
   have q1:=at_b7.cell 0
   simp at q1
   clear K ge_b7 at_b7 ge_b8 at_b8 ne78 ln2 ln5 n1 p1 c1f l1 HH
   go_wp2_with (at_make; refine wpList_make_full _ rfl _ _ 62 rfl w1.heap.size 3 i0 (.int .i64 0) 1 Tryz.underlying62 HI.out.1 HI.out.2.1 HI.out.2.2.1 .i64 .i64 _ _ k1 rfl rfl (by omega) (by omega) (by rw [HI.out.2.2.2]; omega) (by unfold maxLen; omega) (Nat.le_refl _) ?_)
   intro w2 hown hgrow
   have hcl:=cl_of_mk hown
   rw [← icn_zero] at hcl
   have hB:Below w1.heap.size w1 w2:=(Below.refl _ _).grown hgrow (Nat.le_refl _) (by simp)
   obtain ⟨bl,hbl⟩:∃ bl,bl = w2.heap.size:=⟨_,rfl⟩
   have hbf:w1.heap.size < w2.heap.size:=hcl.lt
   obtain ⟨W3,hW3⟩:∃ W3,W3 = w2.alloc (.cells #[.slice none 0 0] 64):=⟨_,rfl⟩
   have HR3:Hid (Cl w1.heap.size (icn k1 (fun _=>0)) 3 W3∧Cl bl [.slice none 0 0] 64 W3∧Below w1.heap.size w1 W3∧w1.heap.size < bl):=by
    refine ⟨by rw [hW3]; exact hcl.alloc _,by rw [hW3,hbl]; exact Cl.new _ _ _,?_,by omega⟩
    rw [hW3]; exact hB.alloc (by omega) _
   have HBL:Hid (w1.heap.size < bl):=by rw [hbl]; exact hbf
   clear hown hgrow hcl hB hbf
   go_wp2
   rw [← hW3,← hbl]
   clear hW3 hbl q1
   go_loopw [11] (fun iv wx=>∃ (n:Nat) (B:Nat→Int) (al:Option Addr) (kl cl:Nat),n≤k1∧iv = .int .i64 ((n:Int) - 1)∧Hid ((∀ t,n≤t→t < k1→B t = ((X / Y / Bs ^ t % Bs:Nat):Int))∧Cl w1.heap.size (icn k1 B) 3 wx∧Cl bl [.slice al kl cl] 64 wx∧LN wx (.slice al kl cl) (X / Bs ^ n % Y)∧(NilOk (.slice al kl cl)∧Frs (w1.heap.size + 1) (.slice al kl cl))∧Below w1.heap.size w1 wx)) (fun iv _=>(intOf iv + 1).toNat)
   case atStart =>
    refine ⟨k1,fun _=>0,none,0,0,Nat.le_refl _,rfl,fun t h1 h2=>by omega,HR3.out.1,HR3.out.2.1,?_,⟨NilOk.zero,Frs.zero _⟩,HR3.out.2.2.1⟩
    rw [Nat.div_eq_of_lt HX1.out.1,Nat.zero_mod]; exact LN.zero _
   case round =>
    clear HR3
    obtain ⟨n,B,al,kl,cl,hn,rfl,HR⟩:=hrel
    have HZr:Hid (w1.heap.size≤wr.heap.size):=HR.out.2.2.2.2.2.size
    rcases n with _ | i
    ·obtain ⟨I,hI⟩:∃ I:Int,I = ((0:Nat):Int) - 1:=⟨_,rfl⟩
     rw [← hI]
     have hI2:I < 0:=by omega
     clear hI
     have HTr:Hid (Calls Tryz.prog 107 #[.slice (some ⟨w1.heap.size,0,none⟩) k1 k1] wr fun e w'=>∃ v,e = .returned (.agg #[v])∧LN w' v (X / Y)∧Below wr.heap.size wr w'):=by
      refine trimmed_any k1 (X / Y) w1.heap.size 0 k1 wr (fun j hj=>?_) ⟨_,_,HR.out.2.1⟩ (Nat.lt_of_le_of_lt (Nat.div_le_self _ _) HX1.out.1) (Nat.le_refl _) (by omega)
      rw [Nat.zero_add,HR.out.2.1.cell j,icn_get B hj,HR.out.1 j (Nat.zero_le _) hj]
     go_wp2_with fail
     refine HTr.out.mono ?_
     rintro e w4 ⟨v,rfl,hv,k4⟩
     obtain ⟨av,kv,cv,rfl⟩:=hv.shape
     have HK4:Hid (Below (w.heap.size + 4) W0 w4):=(HK1.out.trans (HR.out.2.2.2.2.2.mono (HZl.out _ HK1.out))).trans (k4.mono (Nat.le_trans (HZl.out _ HK1.out) HZr.out))
     have hP4:=HP0.out.below HK4.out (Nat.le_refl _)
     have HP4:Hid (Db w.heap.size (.slice ax kx cx) (.slice (some ⟨gy,oy,none⟩) (L + 1) cy) w4):=hP4
     rw [HXY.out.2.1] at hv
     have HV4:Hid (LN w4 (.slice av kv cv) (x / y)):=hv
     have q1:=hP4.q.cell 0
     have q2:=hP4.q.frozen 0
     simp at q1
     clear hP4 hv k4 HTr hI2
     go_wp2
     obtain ⟨w5,hw5⟩:∃ w5,w5 = w4.setCell ⟨w.heap.size + 1 + 1,0,none⟩ (.slice av kv cv):=⟨_,rfl⟩
     rw [← hw5]
     have HC5:Hid (Cl w.heap.size [.slice ax kx cx] 64 w5∧Cl (w.heap.size + 1) [.slice (some ⟨gy,oy,none⟩) (L + 1) cy] 64 w5∧Cl (w.heap.size + 2) [.slice av kv cv] 64 w5∧Cl (w.heap.size + 3) [.slice none 0 0] 64 w5∧LN w5 (.slice av kv cv) (x / y)∧LN w5 (.slice ax kx cx) x∧LN w5 (.slice (some ⟨gy,oy,none⟩) (L + 1) cy) y∧Below w.heap.size w w5):=by
      rw [hw5]
      refine ⟨HP4.out.x.other (by simp; omega) _,HP4.out.y.other (by simp) _,HP4.out.q.set 0 _,HP4.out.r.other (by simp) _,HV4.out.set HP4.out.q _,(HXw.out _ HK4.out).set HP4.out.q _,(HYw.out _ HK4.out).set HP4.out.q _,(KB0.out.trans (HK4.out.mono (by omega))).setCell (by simp; omega) _⟩
     have HZ5:Hid (w.heap.size + 4≤w5.heap.size):=by have:=HC5.out.2.2.2.1.lt; show _≤_; omega
     clear hw5 q1 q2
     have HS5:Hid (∀ W,Below w5.heap.size w5 W→W.cell? ⟨w.heap.size,0,none⟩ = some (.slice ax kx cx)∧W.cell? ⟨w.heap.size + 1,0,none⟩ = some (.slice (some ⟨gy,oy,none⟩) (L + 1) cy)∧W.cell? ⟨w.heap.size + 1 + 1,0,none⟩ = some (.slice av kv cv)):=by
      intro W hW
      have a1:=(HC5.out.1.below hW).cell 0
      have a2:=(HC5.out.2.1.below hW).cell 0
      have a3:=(HC5.out.2.2.1.below hW).cell 0
      simp at a1 a2 a3
      exact ⟨a1,a2,a3⟩
     refine wp_region_G (fun w'=>w'.cell? ⟨w.heap.size,0,none⟩ = some (.slice ax kx cx)∧w'.cell? ⟨w.heap.size + 1,0,none⟩ = some (.slice (some ⟨gy,oy,none⟩) (L + 1) cy)∧w'.cell? ⟨w.heap.size + 1 + 1,0,none⟩ = some (.slice av kv cv)) 7 (by kernel_rfl) (HS5.out _ (Below.refl _ _).drew) (fun hHeld=>?_)
     refine wpAnyG_take (i:=0) (v:=?v0x5) rfl (by kernel_rfl) (fun _ _ _ h=>h) (Or.inl ⟨by rfl,?y0x5⟩) hHeld ?r0x5
     case y0x5=>(intro wS hSw; obtain ⟨s1,s2,s3⟩:=hSw; go_simp; try with_reducible rfl)
     try simp only [Act.put,List.setIfInBounds_toArray,List.set_cons_zero,List.set_cons_succ]
     refine wpAnyG_take (i:=1) (v:=?v1x6) rfl (by kernel_rfl) (fun _ _ _ h=>h) (Or.inl ⟨by rfl,?y1x6⟩) hHeld ?r1x6
     case y1x6=>(intro wS hSw; obtain ⟨s1,s2,s3⟩:=hSw; go_simp; try with_reducible rfl)
     try simp only [Act.put,List.setIfInBounds_toArray,List.set_cons_zero,List.set_cons_succ]
     refine wpAnyG_take (i:=2) (v:=?v2x7) rfl (by kernel_rfl) (fun _ _ _ h=>h) (Or.inl ⟨by rfl,?y2x7⟩) hHeld ?r2x7
     case y2x7=>(intro wS hSw; obtain ⟨s1,s2,s3⟩:=hSw; go_simp; try with_reducible rfl)
     try simp only [Act.put,List.setIfInBounds_toArray,List.set_cons_zero,List.set_cons_succ]
     refine wpAnyG_take (i:=3) (v:=?v3x8) rfl (by kernel_rfl) (fun _ _ _ h=>h) (Or.inl ⟨by rfl,?y3x8⟩) hHeld ?r3x8
     case y3x8=>(intro wS hSw; obtain ⟨s1,s2,s3⟩:=hSw; go_simp; try with_reducible rfl)
     try simp only [Act.put,List.setIfInBounds_toArray,List.set_cons_zero,List.set_cons_succ]
     refine wpAnyG_one (i:=4) rfl (by kernel_rfl) (fun K hK=>?_)
     go_simp
     refine (NProduct_any (.slice av kv cv) (.slice (some ⟨gy,oy,none⟩) (L + 1) cy) (x / y) y m w5.drew (HC5.out.2.2.2.2.1.below (Below.refl _ _).drew) (HC5.out.2.2.2.2.2.2.1.below (Below.refl _ _).drew) (Nat.lt_of_le_of_lt (Nat.div_le_self _ _) HXM.out) HYM.out (by omega)).mono ?_
     rintro e w6 ⟨vp,rfl,hvp,k6⟩
     obtain ⟨avp,kvp,cvp,rfl⟩:=hvp.shape
     have HK6:Hid (Below w5.heap.size w5 w6):=(Below.refl _ _).drew.trans k6
     have HVp:Hid (LN w6 (.slice avp kvp cvp) (x / y * y)):=hvp
     refine hK.out _ _ (HS5.out _ HK6.out) ?_
     clear hvp k6
     clear hK K
     try simp only [Act.put,List.setIfInBounds_toArray,List.set_cons_zero,List.set_cons_succ]
     clear hHeld
     have hHeld:=HS5.out _ HK6.out
     refine wpAnyG_one (i:=5) rfl (by kernel_rfl) (fun K hK=>?_)
     go_simp
     refine (NMinus_any (.slice ax kx cx) (.slice avp kvp cvp) x (x / y * y) m w6 (HC5.out.2.2.2.2.2.1.below HK6.out) HVp.out HXM.out (by omega) (Nat.div_mul_le_self _ _)).mono ?_
     rintro e w7 ⟨vr,rfl,hvr,k7⟩
     obtain ⟨avr,kvr,cvr,rfl⟩:=hvr.shape
     have HK7:Hid (Below w5.heap.size w5 w7):=HK6.out.trans (k7.mono HK6.out.size)
     have HVr:Hid (LN w7 (.slice avr kvr cvr) (x % y)):=by
      have e:x - x / y * y = x % y:=by have:=Nat.div_add_mod x y; rw [Nat.mul_comm] at this; omega
      rw [e] at hvr; exact hvr
     refine hK.out _ _ (HS5.out _ HK7.out) ?_
     clear hvr k7
     clear hK K
     try simp only [Act.put,List.setIfInBounds_toArray,List.set_cons_zero,List.set_cons_succ]
     clear hHeld
     have hHeld:=HS5.out _ HK7.out
     have u3:=hHeld.2.2
     have u4:=(HC5.out.2.2.1.below HK7.out).frozen 0
     have hs7:w7.setCell ⟨w.heap.size + 1 + 1,0,none⟩ (.slice av kv cv) = w7.setCell ⟨w.heap.size + 1 + 1,0,none⟩ (.slice av kv cv):=rfl
     clear hs7 hHeld
     refine wpAnyG_one (i:=6) rfl (by kernel_rfl) (fun K hK=>?_)
     go_simp
     obtain ⟨w8,hw8⟩:∃ w8,w8 = w7.setCell ⟨w.heap.size + 1 + 1,0,none⟩ (.slice av kv cv):=⟨_,rfl⟩
     rw [← hw8]
     have HC8:Hid (Cl w.heap.size [.slice ax kx cx] 64 w8∧Cl (w.heap.size + 1) [.slice (some ⟨gy,oy,none⟩) (L + 1) cy] 64 w8∧Cl (w.heap.size + 2) [.slice av kv cv] 64 w8∧Cl (w.heap.size + 3) [.slice none 0 0] 64 w8∧LN w8 (.slice av kv cv) (x / y)∧LN w8 (.slice avr kvr cvr) (x % y)∧Below w.heap.size w w8):=by
      rw [hw8]
      have cq:=HC5.out.2.2.1.below HK7.out
      refine ⟨(HC5.out.1.below HK7.out).other (by simp; omega) _,(HC5.out.2.1.below HK7.out).other (by simp) _,cq.set 0 _,(HC5.out.2.2.2.1.below HK7.out).other (by simp) _,(HC5.out.2.2.2.2.1.below HK7.out).set cq _,HVr.out.set cq _,(HC5.out.2.2.2.2.2.2.2.trans (HK7.out.mono (by have:=HZ5.out; omega))).setCell (by simp; omega) _⟩
     have hH8:w8.cell? ⟨w.heap.size,0,none⟩ = some (.slice ax kx cx)∧w8.cell? ⟨w.heap.size + 1,0,none⟩ = some (.slice (some ⟨gy,oy,none⟩) (L + 1) cy)∧w8.cell? ⟨w.heap.size + 1 + 1,0,none⟩ = some (.slice av kv cv):=by
      have a1:=HC8.out.1.cell 0
      have a2:=HC8.out.2.1.cell 0
      have a3:=HC8.out.2.2.1.cell 0
      simp at a1 a2 a3
      exact ⟨a1,a2,a3⟩
     refine hK.out _ _ hH8 ?_
     clear hw8 u3 u4
     clear hK K
     try simp only [Act.put,List.setIfInBounds_toArray,List.set_cons_zero,List.set_cons_succ]
     have u5:=HC8.out.2.2.2.1.cell 0
     have u6:=HC8.out.2.2.2.1.frozen 0
     simp at u5
     refine wpAnyG_last (i:=7) rfl (by kernel_rfl) (by kernel_rfl) (fun K hK=>?_)
     go_simp
     refine hK.out _ _ ?_
     clear hK K
     try simp only [Act.put,List.setIfInBounds_toArray,List.set_cons_zero,List.set_cons_succ]
     refine wpAnyG_done (by kernel_rfl) ?_ _
     clear u5 u6 hH8
     go_wp2
     have e1:=(HC8.out.2.2.2.1.set 0 (.slice avr kvr cvr)).cell 0
     have e2:=(HC8.out.2.2.1.other (p:=⟨w.heap.size + 3,0,none⟩) (by simp) (.slice avr kvr cvr)).cell 0
     simp at e1 e2
     refine bodyPost_ret (v:=.tuple #[.agg #[.slice av kv cv],.agg #[.slice avr kvr cvr]]) (by simp [results,Tryz.results77,go_sem,e1,e2]) rfl ⟨_,_,rfl,?_,?_,?_⟩
     ·exact HC8.out.2.2.2.2.1.set HC8.out.2.2.2.1 _
     ·exact HC8.out.2.2.2.2.2.1.set HC8.out.2.2.2.1 _
     ·exact HC8.out.2.2.2.2.2.2.setCell (by simp; omega) _
    ·have hji:((i + 1:Nat):Int) - 1 = (i:Int):=by omega
     rw [hji]
     clear hji
     have hik:i < k1:=by omega
     obtain rfl:=HX1.out.2.1 (by omega)
     obtain ⟨d,hd⟩:∃ d,d = X / Bs ^ i % Bs:=⟨_,rfl⟩
     have hd1:d≤999999999:=by rw [hd]; exact limb_lt X i
     have HCell:Hid (∀ W,Below w1.heap.size w1 W→W.cell? ⟨b7,0,none⟩ = some (.slice (some ⟨g1,o1,none⟩) k1 c1)∧W.cell? ⟨b8,0,none⟩ = some (.slice a2 k2 c2)∧W.cell? ⟨g1,o1 + i,none⟩ = some (.int .i64 (d:Int))∧LN W (.slice a2 k2 c2) Y):=by
      intro W hW
      have a1:=(HB7.out.1.below hW).cell 0
      have a2:=(HB7.out.2.1.below hW).cell 0
      simp at a1 a2
      refine ⟨a1,a2,?_,HB7.out.2.2.below hW⟩
      rw [hd,hW.cell (p:=⟨g1,o1 + i,none⟩) (HX1.out.2.2.2 (by omega))]; exact HX1.out.2.2.1 i hik
     have HD:Hid (d = X / Bs ^ i % Bs):=hd
     have hC:=HCell.out wr HR.out.2.2.2.2.2
     have q1:=hC.1
     have q2:=hC.2.1
     have q3:=hC.2.2.1
     have q4:=HR.out.2.2.1.cell 0
     simp at q4
     obtain ⟨z,hz⟩:∃ z,z = X / Bs ^ (i + 1) % Y * Bs + d:=⟨_,rfl⟩
     have HZ:Hid (z < Y * Bs∧z / Y = X / Y / Bs ^ i % Bs∧z % Y = X / Bs ^ i % Y∧z < Bs ^ (m + 3)):=by
      have h1:=quo_digit X Y i HXY.out.1
      have h2:=quo_lt X Y i HXY.out.1
      rw [← hd,← hz] at h1 h2
      refine ⟨h2,h1.1,h1.2,Nat.lt_trans h2 ?_⟩
      rw [show m + 3 = m + 2 + 1 from rfl,pow_s]
      exact Nat.mul_lt_mul_of_pos_right HXY.out.2.2.2 (by decide)
     have HAh:Hid (∀ W,Below wr.heap.size wr W→Calls Tryz.prog 106 #[.agg #[.slice al kl cl],.int .i64 (d:Int)] W fun e w'=>∃ v',e = .returned (.agg #[v'])∧LN w' v' z∧SomF W.heap.size v'∧Below W.heap.size W w'):=fun W hW=>by
      have hm1:X / Bs ^ (i + 1) % Y < Bs ^ (m + 2):=Nat.lt_trans (Nat.mod_lt _ HXY.out.1) HXY.out.2.2.2
      have:=ahead_any (.slice al kl cl) (X / Bs ^ (i + 1) % Y) d (m + 2) W (HR.out.2.2.2.1.below hW) HR.out.2.2.2.2.1.1 (by unfold Bs; omega) hm1 (by omega)
      rw [← hz] at this
      exact this
     clear hd hz hC
     have hbli:(i:Int) < (k1:Int):=by omega
     go_wp2
     refine wp_region_G (fun w'=>w'.cell? ⟨bl,0,none⟩ = some (.slice al kl cl)∧w'.cell? ⟨b7,0,none⟩ = some (.slice (some ⟨g1,o1,none⟩) k1 c1)∧w'.cell? ⟨b8,0,none⟩ = some (.slice a2 k2 c2)∧w'.cell? ⟨g1,o1 + i,none⟩ = some (.int .i64 (d:Int))) 16 (by kernel_rfl) ⟨q4,q1,q2,q3⟩ (fun hHeld=>?_)
     refine wpAnyG_take (i:=0) (v:=?v0x9) rfl (by kernel_rfl) (fun _ _ _ h=>h) (Or.inl ⟨by rfl,?y0x9⟩) hHeld ?r0x9
     case y0x9=>(intro wS hSw; obtain ⟨s1,s2,s3,s4⟩:=hSw; go_simp; try with_reducible rfl)
     try simp only [Act.put,List.setIfInBounds_toArray,List.set_cons_zero,List.set_cons_succ]
     refine wpAnyG_take (i:=1) (v:=?v1x10) rfl (by kernel_rfl) (fun _ _ _ h=>h) (Or.inl ⟨by rfl,?y1x10⟩) hHeld ?r1x10
     case y1x10=>(intro wS hSw; obtain ⟨s1,s2,s3,s4⟩:=hSw; go_simp; try with_reducible rfl)
     try simp only [Act.put,List.setIfInBounds_toArray,List.set_cons_zero,List.set_cons_succ]
     refine wpAnyG_take (i:=2) (v:=?v2x11) rfl (by kernel_rfl) (fun _ _ _ h=>h) (Or.inl ⟨by rfl,?y2x11⟩) hHeld ?r2x11
     case y2x11=>(intro wS hSw; obtain ⟨s1,s2,s3,s4⟩:=hSw; go_simp; try with_reducible rfl)
     try simp only [Act.put,List.setIfInBounds_toArray,List.set_cons_zero,List.set_cons_succ]
     refine wpAnyG_take (i:=3) (v:=?v3x12) rfl (by kernel_rfl) (fun _ _ _ h=>h) (Or.inl ⟨by rfl,?y3x12⟩) hHeld ?r3x12
     case y3x12=>(intro wS hSw; obtain ⟨s1,s2,s3,s4⟩:=hSw; go_simp; try with_reducible rfl)
     try simp only [Act.put,List.setIfInBounds_toArray,List.set_cons_zero,List.set_cons_succ]
     refine wpAnyG_take (i:=4) (v:=?v4x13) rfl (by kernel_rfl) (fun _ _ _ h=>h) (Or.inl ⟨by rfl,?y4x13⟩) hHeld ?r4x13
     case y4x13=>(intro wS hSw; obtain ⟨s1,s2,s3,s4⟩:=hSw; go_simp; try with_reducible rfl)
     try simp only [Act.put,List.setIfInBounds_toArray,List.set_cons_zero,List.set_cons_succ]
     refine wpAnyG_take (i:=5) (v:=?v5x14) rfl (by kernel_rfl) (fun _ _ _ h=>h) (Or.inl ⟨by rfl,?y5x14⟩) hHeld ?r5x14
     case y5x14=>(intro wS hSw; obtain ⟨s1,s2,s3,s4⟩:=hSw; go_simp; try with_reducible rfl)
     try simp only [Act.put,List.setIfInBounds_toArray,List.set_cons_zero,List.set_cons_succ]
     refine wpAnyG_take (i:=6) (v:=?v6x15) rfl (by kernel_rfl) (fun _ _ _ h=>h) (Or.inl ⟨by rfl,?y6x15⟩) hHeld ?r6x15
     case y6x15=>(intro wS hSw; obtain ⟨s1,s2,s3,s4⟩:=hSw; go_simp; try with_reducible rfl)
     try simp only [Act.put,List.setIfInBounds_toArray,List.set_cons_zero,List.set_cons_succ]
     refine wpAnyG_take (i:=7) (v:=?v7x16) rfl (by kernel_rfl) (fun _ _ _ h=>h) (Or.inl ⟨by rfl,?y7x16⟩) hHeld ?r7x16
     case y7x16=>(intro wS hSw; obtain ⟨s1,s2,s3,s4⟩:=hSw; go_simp; try with_reducible rfl)
     try simp only [Act.put,List.setIfInBounds_toArray,List.set_cons_zero,List.set_cons_succ]
     refine wpAnyG_take (i:=9) (v:=?v9x17) rfl (by kernel_rfl) (fun _ _ _ h=>h) (Or.inl ⟨by rfl,?y9x17⟩) hHeld ?r9x17
     case y9x17=>(intro wS hSw; obtain ⟨s1,s2,s3,s4⟩:=hSw; go_simp; try with_reducible rfl)
     try simp only [Act.put,List.setIfInBounds_toArray,List.set_cons_zero,List.set_cons_succ]
     refine wpAnyG_one (i:=8) rfl (by kernel_rfl) (fun K hK=>?_)
     go_simp
     refine (HAh.out wr.drew (Below.refl _ _).drew).mono ?_
     rintro e w4 ⟨va,rfl,hva,hso,k4⟩
     have HFa:Hid (Frs (w1.heap.size + 1) va):=hso.frs.mono (by have:=HBL.out; have:=HR.out.2.2.1.lt; simp; omega)
     obtain ⟨ava,kva,cva,rfl,hge⟩:=hso
     clear hge
     have HK4:Hid (Below wr.heap.size wr w4):=(Below.refl _ _).drew.trans k4
     have HVa:Hid (LN w4 (.slice (some ava) kva cva) z):=hva
     have hHs:Hid (∀ W,Below wr.heap.size wr W→W.cell? ⟨bl,0,none⟩ = some (.slice al kl cl)∧W.cell? ⟨b7,0,none⟩ = some (.slice (some ⟨g1,o1,none⟩) k1 c1)∧W.cell? ⟨b8,0,none⟩ = some (.slice a2 k2 c2)∧W.cell? ⟨g1,o1 + i,none⟩ = some (.int .i64 (d:Int))):=by
      intro W hW
      have h1:=HCell.out W (HR.out.2.2.2.2.2.trans (hW.mono HZr.out))
      have h2:=(HR.out.2.2.1.below hW).cell 0
      simp at h2
      exact ⟨h2,h1.1,h1.2.1,h1.2.2.1⟩
     refine hK.out _ _ (hHs.out _ HK4.out) ?_
     clear hva k4
     clear hK K
     try simp only [Act.put,List.setIfInBounds_toArray,List.set_cons_zero,List.set_cons_succ]
     clear hHeld
     have hHeld:=hHs.out _ HK4.out
     refine wpAnyG_one (i:=10) rfl (by kernel_rfl) (fun K hK=>?_)
     go_simp
     refine (digit_any (.slice (some ava) kva cva) (.slice a2 k2 c2) z Y (m + 3) w4 HVa.out (Som.nilOk ⟨_,_,_,rfl⟩) (HCell.out w4 (HR.out.2.2.2.2.2.trans (HK4.out.mono HZr.out))).2.2.2 HZ.out.2.2.2 (by omega) HXY.out.1 HZ.out.1 (w1.heap.size + 1) (by have:=HBL.out; have:=HR.out.2.2.1.lt; have:=HK4.out.size; omega) HFa.out).mono ?_
     rw [HZ.out.2.1,HZ.out.2.2.1]
     rintro e w5 ⟨vr,rfl,hvr,hnr,hfr,k5⟩
     obtain ⟨avr,kvr,cvr,rfl⟩:=hvr.shape
     have HK5:Hid (Below wr.heap.size wr w5):=HK4.out.trans (k5.mono HK4.out.size)
     have HVr:Hid (LN w5 (.slice avr kvr cvr) (X / Bs ^ i % Y)∧NilOk (.slice avr kvr cvr)∧Frs (w1.heap.size + 1) (.slice avr kvr cvr)):=⟨hvr,hnr,hfr⟩
     refine hK.out _ _ (hHs.out _ HK5.out) ?_
     clear hvr hnr hfr k5
     clear hK K
     try simp only [Act.put,List.setIfInBounds_toArray,List.set_cons_zero,List.set_cons_succ]
     clear hHeld
     have hHeld:=hHs.out _ HK5.out
     obtain ⟨qd,hqd⟩:∃ qd,qd = X / Y / Bs ^ i % Bs:=⟨_,rfl⟩
     rw [← hqd]
     have HQD:Hid (qd = X / Y / Bs ^ i % Bs):=hqd
     clear hqd
     have HC5:Hid (Cl w1.heap.size (icn k1 B) 3 w5∧Cl bl [.slice al kl cl] 64 w5):=⟨HR.out.2.1.below HK5.out,HR.out.2.2.1.below HK5.out⟩
     refine wpAnyG_take (i:=11) (v:=?v11x18) rfl (by kernel_rfl) (fun _ _ _ h=>h) (Or.inl ⟨by rfl,?y11x18⟩) hHeld ?r11x18
     case y11x18=>(intro wS hSw; obtain ⟨s1,s2,s3,s4⟩:=hSw; go_simp; try with_reducible rfl)
     try simp only [Act.put,List.setIfInBounds_toArray,List.set_cons_zero,List.set_cons_succ]
     refine wpAnyG_take (i:=12) (v:=?v12x19) rfl (by kernel_rfl) (fun _ _ _ h=>h) (Or.inl ⟨by rfl,?y12x19⟩) hHeld ?r12x19
     case y12x19=>(intro wS hSw; obtain ⟨s1,s2,s3,s4⟩:=hSw; go_simp; try with_reducible rfl)
     try simp only [Act.put,List.setIfInBounds_toArray,List.set_cons_zero,List.set_cons_succ]
     refine wpAnyG_take (i:=13) (v:=?v13x20) rfl (by kernel_rfl) (fun _ _ _ h=>h) (Or.inl ⟨by rfl,?y13x20⟩) hHeld ?r13x20
     case y13x20=>(intro wS hSw; obtain ⟨s1,s2,s3,s4⟩:=hSw; go_simp; try with_reducible rfl)
     try simp only [Act.put,List.setIfInBounds_toArray,List.set_cons_zero,List.set_cons_succ]
     refine wpAnyG_take (i:=14) (v:=?v14x21) rfl (by kernel_rfl) (fun _ _ _ h=>h) (Or.inl ⟨by rfl,?y14x21⟩) hHeld ?r14x21
     case y14x21=>(intro wS hSw; obtain ⟨s1,s2,s3,s4⟩:=hSw; go_simp; try with_reducible rfl)
     try simp only [Act.put,List.setIfInBounds_toArray,List.set_cons_zero,List.set_cons_succ]
     clear hHeld
     have u1:=HC5.out.1.cell i
     rw [icn_get B hik] at u1
     have u2:=HC5.out.1.frozen i
     refine wpAnyG_one (i:=15) rfl (by kernel_rfl) (fun K hK=>?_)
     go_simp
     obtain ⟨w6,hw6⟩:∃ w6,w6 = w5.setCell ⟨w1.heap.size,i,none⟩ (.int .i64 (qd:Int)):=⟨_,rfl⟩
     rw [← hw6]
     have HC6:Hid (Cl w1.heap.size (icn k1 (fun j=>if j = i then (qd:Int) else B j)) 3 w6∧Cl bl [.slice al kl cl] 64 w6∧LN w6 (.slice avr kvr cvr) (X / Bs ^ i % Y)∧Below w1.heap.size w1 w6):=by
      rw [hw6]
      have hne:bl ≠ w1.heap.size:=Nat.ne_of_gt HBL.out
      refine ⟨by rw [← icn_set]; exact HC5.out.1.set i _,HC5.out.2.other (by simpa using hne) _,?_,(HR.out.2.2.2.2.2.trans (HK5.out.mono HZr.out)).setCell (by simp) _⟩
      exact HVr.out.1.setF HVr.out.2.2 (by omega) _
     have hH6:w6.cell? ⟨bl,0,none⟩ = some (.slice al kl cl)∧w6.cell? ⟨b7,0,none⟩ = some (.slice (some ⟨g1,o1,none⟩) k1 c1)∧w6.cell? ⟨b8,0,none⟩ = some (.slice a2 k2 c2)∧w6.cell? ⟨g1,o1 + i,none⟩ = some (.int .i64 (d:Int)):=by
      have h1:=HCell.out w6 HC6.out.2.2.2
      have h2:=HC6.out.2.1.cell 0
      simp at h2
      exact ⟨h2,h1.1,h1.2.1,h1.2.2.1⟩
     refine hK.out _ _ hH6 ?_
     clear hw6 u1 u2
     clear hK K
     try simp only [Act.put,List.setIfInBounds_toArray,List.set_cons_zero,List.set_cons_succ]
     have c3:=HC6.out.2.1.cell 0
     have c4:=HC6.out.2.1.frozen 0
     simp at c3
     refine wpAnyG_last (i:=16) rfl (by kernel_rfl) (by kernel_rfl) (fun K hK=>?_)
     go_simp
     refine hK.out _ _ ?_
     clear hK K
     try simp only [Act.put,List.setIfInBounds_toArray,List.set_cons_zero,List.set_cons_succ]
     refine wpAnyG_done (by kernel_rfl) ?_ _
     have HN:Hid (Cl w1.heap.size (icn k1 (fun j=>if j = i then (qd:Int) else B j)) 3 (w6.setCell ⟨bl,0,none⟩ (.slice avr kvr cvr))∧Cl bl [.slice avr kvr cvr] 64 (w6.setCell ⟨bl,0,none⟩ (.slice avr kvr cvr))∧LN (w6.setCell ⟨bl,0,none⟩ (.slice avr kvr cvr)) (.slice avr kvr cvr) (X / Bs ^ i % Y)∧Below w1.heap.size w1 (w6.setCell ⟨bl,0,none⟩ (.slice avr kvr cvr))):=by
      have hne:w1.heap.size ≠ bl:=Nat.ne_of_lt HBL.out
      exact ⟨HC6.out.1.other (by simpa using hne) _,HC6.out.2.1.set 0 _,HC6.out.2.2.1.set HC6.out.2.1 _,HC6.out.2.2.2.setCell (by have:=HBL.out; simp; omega) _⟩
     clear c3 c4 q1 q2 q3 q4 hH6
     go_wp2
     go_roundw
     case rel =>
      refine ⟨i,_,avr,kvr,cvr,by omega,by first | rfl | go_num,fun t h1 h2=>?_,HN.out.1,HN.out.2.1,HN.out.2.2.1,⟨HVr.out.2.1,HVr.out.2.2⟩,HN.out.2.2.2⟩
      by_cases e:t = i
      ·rw [if_pos e,HQD.out,e]
      ·rw [if_neg e]; exact HR.out.1 t (by omega) h2
     case measure=>simp [intOf] <;> omega
end Go.Proofs.YtnkjadpmigpneaaGreatDoor
