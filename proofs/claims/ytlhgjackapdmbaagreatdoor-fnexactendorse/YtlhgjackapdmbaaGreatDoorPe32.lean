/- Contracts. -/
import Derived.Test.YtlhgjackapdmbaaGreatDoorPe31
import Derived.Test.YtlhgjackapdmbaaGreatDoorPe15
import Derived.RegionIn
import Derived.BigRegionIn
import Derived.Test.YtlhgjackapdmbaaGreatDoorPe20
import Derived.Deep.RegionWith
import Derived.Shelf.SlMaps.Clone
namespace Go.Proofs.YtlhgjackapdmbaaGreatDoor
set_option maxRecDepth 100000
set_option maxHeartbeats 8000000
open Go.RowKit
set_option linter.unusedVariables false
set_option linter.unusedSimpArgs false

section
open Go.RowKit Go.Shelf Go.Maps
attribute [local go_sem] Oper.semAt_some
attribute [local go_sem] QJ3
set_option linter.unusedVariables false
set_option linter.unusedSimpArgs false
def accL (f:RoI→Int) (nm:Int) (pre:List P8):Int:=(pre.map (·.1)).foldl (fun o y=>orI o (f (y,nm))) 0
theorem accL_snoc (f:RoI→Int) (nm:Int) (pre:List P8) (x:P8):accL f nm (pre++[x])=orI (accL f nm pre) (f (x.1,nm)):=by
 simp [accL,List.foldl_append]
theorem accL_set {f:RoI→Int} (hf:FN f) (nm:Int) (pre:List P8):qL2 (accL f nm pre):=by
 unfold accL
 exact (QE1 hf.st nm _ 0 ⟨by omega,by omega⟩).1
theorem linked_w (n:Nat) (hn:3≤n) (b:Nat) (f:RoI→Int) (s nm:Int) (w:World) (h:GM w b f) (hs:qL2 s) (n0:1≤nm) (n1:nm≤5) :
  CallsIn Fence.wide n Tryz.prog 211 #[.map (some b),.int .u8 s,.int .i64 nm] w fun e W'=>e = .returned (.int .u8 (qL7 f nm (qB2 s 8) (qB2 s 8).length))∧Below w.heap.size w W':=by
 have h1:1≤n:=by omega
 have s0:=hs.1
 have s1:=hs.2
 have hfn:=h.fn
 have hlt:=h.lt
 refine callsIn_of_wp_marks Tryz.func211 rfl trivial ?_ rfl
 simp only [Tryz.ntmps211,List.size_toArray,List.length_cons,List.length_nil,Nat.reduceAdd,Nat.reduceSub,Array.replicate_succ,Array.replicate_zero,List.push_toArray,List.append_toArray,List.nil_append,List.cons_append]
 gi_wp2_with (gi_at_call 163;refine (prin_in _ _ _).mono ?_;rintro e w' ⟨rfl,rfl⟩)
 have bM:=Boxed.new w 240 (.map (some b))
 have bN:=Boxed.new (w.alloc (.cells #[.map (some b)] 240)) 2 (.int .i64 nm)
 rw [World.size_alloc] at bN
 have bA:=Boxed.new ((w.alloc (.cells #[.map (some b)] 240)).alloc (.cells #[.int .i64 nm] 2)) 220 (.int .u8 0)
 rw [World.size_alloc,World.size_alloc] at bA
 have bS:=Boxed.new (((w.alloc (.cells #[.map (some b)] 240)).alloc (.cells #[.int .i64 nm] 2)).alloc (.cells #[.int .u8 0] 220)) 220 (.int .u8 s)
 rw [World.size_alloc,World.size_alloc,World.size_alloc] at bS
 have bM':=((bM.alloc (.cells #[.int .i64 nm] 2)).alloc (.cells #[.int .u8 0] 220)).alloc (.cells #[.int .u8 s] 220)
 have bN':=(bN.alloc (.cells #[.int .u8 0] 220)).alloc (.cells #[.int .u8 s] 220)
 have bA':=bA.alloc (.cells #[.int .u8 s] 220)
 obtain ⟨W0,hW0⟩:∃ W0,(((w.alloc (.cells #[.map (some b)] 240)).alloc (.cells #[.int .i64 nm] 2)).alloc (.cells #[.int .u8 0] 220)).alloc (.cells #[.int .u8 s] 220)=W0:=⟨_,rfl⟩
 have hsz:W0.heap.size=w.heap.size+4:=by rw [← hW0];simp
 have hB0:Below w.heap.size w W0:=by rw [← hW0];exact ((((Below.refl _ w).alloc (Nat.le_refl _) _).alloc (by simp) _).alloc (by simp;omega) _).alloc (by simp;omega) _
 rw [hW0] at bS bA' bM' bN' ⊢
 have HB0:Hid (Below w.heap.size w W0):=hB0
 have hG0:=h.below hlt hB0
 clear bA bM bN hW0 hB0
 refine wpIn_rangeFunc_ownG rfl h1 (gf:=183) (lb:=#[.pointer (some ⟨w.heap.size+1+1+1,0,none⟩)]) rfl trivial (enters_of Tryz.func183 (by kernel_rfl) rfl)
  (QK3 (n - 1) (by omega) (w.heap.size+1+1+1) s s0 s1 W0 (by omega) bS.cell) (Kp:=qZ7 (w.heap.size+1+1+1)) (fun h k=>Eq.trans k h) (fun W l o o' hl h _ _=>World.putObj_heap_other (by omega)) (Below.refl _ _) (fun _=>rfl)
  (fun pre W=>(Boxed W (w.heap.size+1+1) 220 (.int .u8 (accL f nm pre))∧Boxed W (w.heap.size+1+1+1) 220 (.int .u8 s))∧Below (w.heap.size+1+1) W0 W)
  (fun _ _ _=>False)
  (OwnFrom.and (OwnFrom.and (Own.from (boxed_own _ _ (fun pre => .int .u8 (accL f nm pre))) _) (Own.from (boxed_own _ _ (fun _ => .int .u8 s)) _)) (ownFrom_below (by omega) (by omega)))
  (fun _ _ _ _ _ hs _ _=>hs)
  ⟨⟨bA',bS⟩,Below.refl _ _⟩
  (fun x=>{ tmps:=#[.map (some b),.int .u8 s,.int .i64 nm,.pointer (some ⟨w.heap.size,0,none⟩),undef,.pointer (some ⟨w.heap.size+1,0,none⟩),.int .u8 0,.pointer (some ⟨w.heap.size+1+1,0,none⟩),.int .i64 x.1,.int .u8 s,.func (.func 183) #[] #[.pointer (some ⟨w.heap.size+1+1+1,0,none⟩)],.int .i64 x.1,undef,undef,undef,undef,undef,undef,undef,undef],defers:=[] }) ?assign ?body ?done ?stop
 case assign =>
  intro l x W K hK
  gi_wp2
  exact hK
 case body =>
  rintro l pre x W ⟨⟨hA,hS⟩,hB⟩ hlt'
  have cA:W.drew.cell? ⟨w.heap.size+1+1,0,none⟩=some (.int .u8 (accL f nm pre)):=hA.cell
  have fA:W.drew.frozen? ⟨w.heap.size+1+1,0,none⟩=false:=hA.frozen
  have cM:W.drew.cell? ⟨w.heap.size,0,none⟩=some (.map (some b)):=(hB.cell (p:=⟨w.heap.size,0,none⟩) (by simp;omega)).trans bM'.cell
  have cN:W.drew.cell? ⟨w.heap.size+1,0,none⟩=some (.int .i64 nm):=(hB.cell (p:=⟨w.heap.size+1,0,none⟩) (by simp)).trans bN'.cell
  have hG:=hG0.below (k:=w.heap.size+1+1) (by omega) hB
  have hlk:(Instr.lookup 240 (.map (some b)) (.agg #[.int .i64 x.1,.int .i64 nm]) false).run Tryz.prog W.drew = .ok (.int .u8 (f (x.1,nm))) W.drew:=QC4 (w:=W.drew) (qQ2 hG rfl) (r:=(x.1,nm)) (QK0 (by have:=x.2;simp [qD3,qU5,qV6];omega))
  have hor:bits .or .u8 (accL f nm pre) (f (x.1,nm))=accL f nm (pre++[x]):=by rw [accL_snoc];exact u8_or _ _ (accL_set hfn nm pre) (hfn.st _)
  have hA':Boxed W.drew (w.heap.size+1+1) 220 (.int .u8 (accL f nm pre)):=hA
  have hS':Boxed W.drew (w.heap.size+1+1+1) 220 (.int .u8 s):=hS
  gi_wp2
  gi_region
  all_goals exact ⟨((KeepsOthers.drew W).trans (KeepsOthers.setCell W.drew ⟨w.heap.size+1+1,0,none⟩ _)).from _,(hS'.other (by omega) _).trans hS.symm,⟨hA'.set _,hS'.other (by omega) _⟩,(hB.drew).setCell (p:=⟨w.heap.size+1+1,0,none⟩) (Nat.le_refl _) _⟩
 case done =>
  rintro D ys W hD hys ⟨⟨hA,_⟩,hB⟩ hK
  have cA:=hA.cell
  gi_wp2
  refine ⟨by simp,.inl ⟨_,_,rfl,run_takeDeferred hK,?_⟩⟩
  refine ⟨.int .u8 (accL f nm ys),?res,?val,?below⟩
  case res=>simp [results,Tryz.results211,go_sem]
  case val =>
   have : accL f nm ys=qL7 f nm (qB2 s 8) (qB2 s 8).length:=by
    unfold accL qL7
    rw [List.take_length,hys]
   rw [this]
  case below=>exact (HB0.out.trans (hB.mono (by omega))).trans (belowK_b (w:=w) (Nat.le_refl _) _ D _ _ (by omega) hK rfl rfl)
 case stop =>
  rintro D c pre W _ _ h _
  exact h.elim
theorem linked_c (b:Nat) (f:RoI→Int) (s nm:Int) (w:World) (h:GM w b f) (hs:qL2 s) (n0:1≤nm) (n1:nm≤5) :
  Calls Tryz.prog 211 #[.map (some b),.int .u8 s,.int .i64 nm] w fun e W'=>e = .returned (.int .u8 (qL7 f nm (qB2 s 8) (qB2 s 8).length))∧Below w.heap.size w W' :=
 callsIn_wide.1 (linked_w 3 (Nat.le_refl _) b f s nm w h hs n0 n1)
end

section
open Go.RowKit Go.Maps
attribute [local go_sem] ta11 ta12 ta13 ta14 ta21 ta22 ta23 ta24 ta31 ta32 ta33 ta34 ta41 ta42 ta43 ta44
theorem look_gm (w:World) {ops:Array Oper} {rest:List Oper} {o:Oper} {a:Act} {Q:Exit→Act→World→Prop} (hg:o.guard=none) (m x:Operand) (hop:o.op=Op.lookup 240 m x false)
  (b:Nat) (f:RoI→Int) (r:RoI) (hm:a.eval m = .map (some b)) (hx:a.eval x = .agg #[.int .i64 r.1,.int .i64 r.2]) {w1:World} (hG:GM w1 b f) (hB:Below w1.heap.size w1 w) (hr:roW r)
  (hK:wpList Tryz.prog ops Q rest (a.put o.dst (.int .u8 (f r))) w):wpList Tryz.prog ops Q (o::rest) a w:=by
 refine wpList_plain hg fun K' hK'=>?_
 have hrun:=QC4 (hG.below hG.lt hB) hr
 unfold Oper.wp
 simp only [roV] at hrun
 simp [execOp,hop,hm,hx,hrun,Result.andThen]
 exact hK' _ _ hK
theorem bn_new {w w1:World} {o:Obj} (h:Below (w.alloc o).heap.size (w.alloc o) w1):Below w.heap.size w w1:=(zN).trans (h.mono (by simp))
theorem qW6 {r:qA1} (h:qA8 r=0):1≤r.k∧r.k≤4∧qD3 r.ho r.hn=true∧QE4 r=true:=by
 unfold qA8 at h
 split at h
 ·cases h
 ·rename_i h1
  split at h
  ·cases h
  ·rename_i h2
   split at h
   ·cases h
   ·split at h
    ·cases h
    ·rename_i h4
     exact ⟨by omega,by omega,by simpa using h2,by simpa using h4⟩
theorem told_1 (b:Nat) (f:RoI→Int) (r:qA1) (w:World) (h:GM w b f) (hc:qA8 r=0) (e1:r.k=1) :
  Calls Tryz.prog 201 #[.map (some b),.agg #[.int .i64 r.k,.int .i64 r.ho,.int .i64 r.hn,.int .i64 r.w,.int .i64 r.oo,.int .i64 r.on,.int .i64 r.to,.int .i64 r.tn]] w fun e w'=>e = .returned (.int .u8 (byF f r))∧Below w.heap.size w w':=by
 have hh:=(qW6 hc).2.2.2
 have hp:1≤r.w∧r.w≤8:=by simpa [QE4,e1,qU5] using hh
 have eb:byF f r=bitI r.w:=by simp [byF,e1]
 rw [eb]
 have E1:Hid _:=e1
 clear hh eb hc e1
 go_enter Tryz.func201,Tryz.ntmps201
 go_wp2_with (first | (go_at_call 191;refine (QW4 r E1.out _).mono ?_;rintro e w1 ⟨rfl,hb0⟩;have hb:=bn_new hb0;clear hb0) | (go_at_call 184;refine (QW5 r.w hp.1 hp.2 _).mono ?_;rintro e w2 ⟨rfl,rfl⟩) | go_in)
 go_ret
 exact ⟨rfl,hb.alloc hb.size _⟩
theorem told_2 (b:Nat) (f:RoI→Int) (r:qA1) (w:World) (h:GM w b f) (hc:qA8 r=0) (e1:r.k=2) :
  Calls Tryz.prog 201 #[.map (some b),.agg #[.int .i64 r.k,.int .i64 r.ho,.int .i64 r.hn,.int .i64 r.w,.int .i64 r.oo,.int .i64 r.on,.int .i64 r.to,.int .i64 r.tn]] w fun e w'=>e = .returned (.int .u8 (byF f r))∧Below w.heap.size w w':=by
 have hh:=(qW6 hc).2.2.2
 have hp:qD3 r.oo r.on=true:=by simpa [QE4,e1] using hh
 have eb:byF f r=f (r.oo,r.on):=by simp [byF,e1]
 rw [eb]
 have E1:Hid _:=e1
 clear hh eb hc e1
 go_enter Tryz.func201,Tryz.ntmps201
 go_wp2_with (first | (go_at_call 191;refine (QW3 r E1.out _).mono ?_;rintro e w1 ⟨rfl,hb0⟩;have hb:=bn_new hb0;clear hb0) | (at_lookup;refine look_gm _ rfl _ _ rfl b f (r.oo,r.on) rfl rfl h (hb.alloc hb.size _) (QK0 hp) ?_) | go_in)
 go_ret
 exact ⟨rfl,hb.alloc hb.size _⟩
theorem told_3 (b:Nat) (f:RoI→Int) (r:qA1) (w:World) (h:GM w b f) (hc:qA8 r=0) (e1:r.k=3) :
  Calls Tryz.prog 201 #[.map (some b),.agg #[.int .i64 r.k,.int .i64 r.ho,.int .i64 r.hn,.int .i64 r.w,.int .i64 r.oo,.int .i64 r.on,.int .i64 r.to,.int .i64 r.tn]] w fun e w'=>e = .returned (.int .u8 (byF f r))∧Below w.heap.size w w':=by
 have hh:=(qW6 hc).2.2.2
 have hp:qD3 r.oo r.on=true∧1≤r.tn∧r.tn≤5:=by simpa [QE4,e1,qV6] using hh
 have eb:byF f r=qL7 f r.tn (qB2 (f (r.oo,r.on)) 8) (qB2 (f (r.oo,r.on)) 8).length:=by simp [byF,e1]
 rw [eb]
 have E1:Hid _:=e1
 clear hh eb hc e1
 go_enter Tryz.func201,Tryz.ntmps201
 go_wp2_with (first | (go_at_call 191;refine (QI8 r E1.out _).mono ?_;rintro e w1 ⟨rfl,hb0⟩;have hb:=bn_new hb0;clear hb0) | go_in)
 have hB1:=hb.alloc hb.size (.cells #[.int .i64 r.oo,.int .i64 r.on,.int .i64 r.tn] 296)
 have hG1:=h.below h.lt hB1
 have hl:=QC4 (w:=(w1.alloc (.cells #[.int .i64 r.oo,.int .i64 r.on,.int .i64 r.tn] 296)).drew) (qQ2 hG1 rfl) (QK0 (r:=(r.oo,r.on)) hp.1)
 simp only [roV] at hl
 have HG:Hid (GM (w1.alloc (.cells #[.int .i64 r.oo,.int .i64 r.on,.int .i64 r.tn] 296)).drew b f):=qQ2 hG1 rfl
 have HB:Hid (Below w.heap.size w (w1.alloc (.cells #[.int .i64 r.oo,.int .i64 r.on,.int .i64 r.tn] 296)).drew):=hB1.drew
 have HS:Hid (qL2 (f (r.oo,r.on))):=h.fn.st _
 clear hB1 hG1 h hb
 go_region_with (first | (go_at_call 211;refine (linked_c b f (f (r.oo,r.on)) r.tn _ HG.out HS.out hp.2.1 hp.2.2).mono ?_;rintro e w2 ⟨rfl,hb2⟩))
 all_goals go_wp2
 all_goals go_ret
 all_goals exact ⟨rfl,HB.out.trans (hb2.mono HB.out.size)⟩
theorem told_4 (b:Nat) (f:RoI→Int) (r:qA1) (w:World) (h:GM w b f) (hc:qA8 r=0) (e1:r.k=4) :
  Calls Tryz.prog 201 #[.map (some b),.agg #[.int .i64 r.k,.int .i64 r.ho,.int .i64 r.hn,.int .i64 r.w,.int .i64 r.oo,.int .i64 r.on,.int .i64 r.to,.int .i64 r.tn]] w fun e w'=>e = .returned (.int .u8 (byF f r))∧Below w.heap.size w w':=by
 have hh:=(qW6 hc).2.2.2
 have hp:qD3 r.oo r.on=true∧qD3 r.to r.tn=true:=by simpa [QE4,e1] using hh
 have eb:byF f r=bits .and .u8 (f (r.oo,r.on)) (f (r.to,r.tn)):=by simp [byF,e1,u8_and _ _ (h.fn.st _) (h.fn.st _)]
 rw [eb]
 have E1:Hid _:=e1
 clear hh eb hc e1
 go_enter Tryz.func201,Tryz.ntmps201
 go_wp2_with (first | (go_at_call 191;refine (QW2 r E1.out _).mono ?_;rintro e w1 ⟨rfl,hb0⟩;have hb:=bn_new hb0;clear hb0) | go_in)
 have hB1:=hb.alloc hb.size (.cells #[.int .i64 r.oo,.int .i64 r.on,.int .i64 r.to,.int .i64 r.tn] 298)
 have hG1:=h.below h.lt hB1
 have hl1:=fun m=>QC4 (w:=(w1.alloc (.cells #[.int .i64 r.oo,.int .i64 r.on,.int .i64 r.to,.int .i64 r.tn] 298)).drewN m) (qQ2 hG1 rfl) (QK0 (r:=(r.oo,r.on)) hp.1)
 have hl2:=fun m=>QC4 (w:=(w1.alloc (.cells #[.int .i64 r.oo,.int .i64 r.on,.int .i64 r.to,.int .i64 r.tn] 298)).drewN m) (qQ2 hG1 rfl) (QK0 (r:=(r.to,r.tn)) hp.2)
 simp only [roV] at hl1 hl2
 have HB:Hid (Below w.heap.size w (w1.alloc (.cells #[.int .i64 r.oo,.int .i64 r.on,.int .i64 r.to,.int .i64 r.tn] 298))):=hB1
 clear hB1 hG1 h hb
 go_quiet (fail)
 go_wp2
 go_ret
 exact ⟨rfl,bdN HB.out _⟩
end

section
open Go.RowKit Go.Maps Go.Proofs
theorem told_c (b:Nat) (f:RoI→Int) (r:qA1) (w:World) (h:GM w b f) (hc:qA8 r=0) :
  Calls Tryz.prog 201 #[.map (some b),.agg #[.int .i64 r.k,.int .i64 r.ho,.int .i64 r.hn,.int .i64 r.w,.int .i64 r.oo,.int .i64 r.on,.int .i64 r.to,.int .i64 r.tn]] w fun e w'=>e = .returned (.int .u8 (byF f r))∧Below w.heap.size w w':=by
 have hk:=qW6 hc
 have h4:r.k=1∨r.k=2∨r.k=3∨r.k=4:=by omega
 rcases h4 with e | e | e | e
 ·exact told_1 b f r w h hc e
 ·exact told_2 b f r w h hc e
 ·exact told_3 b f r w h hc e
 ·exact told_4 b f r w h hc e
theorem Below.turn {B:Nat} {w w1 w2:World} {b:Nat} (h:Below B w w1) (hB:B≤w1.heap.size) (hb:B≤b) (hg:w1.grownBy w2 (some b)):Below B w w2:=h.grown hg hB (fun k e=>by cases e;exact hb)
end

end Go.Proofs.YtlhgjackapdmbaaGreatDoor
