/- Contracts. -/
import Derived.Test.YtdppdbihhlipeaaGreatDoorPr31
import Derived.RegionIn
import Derived.BigRegionIn
import Derived.Test.YtdppdbihhlipeaaGreatDoorPr21
import Derived.Deep.RegionWith
namespace Go.Proofs.YtdppdbihhlipeaaGreatDoor
set_option maxRecDepth 100000
set_option maxHeartbeats 8000000
open Go.RowKit
set_option linter.unusedVariables false
set_option linter.unusedSimpArgs false

section
open Go.RowKit Go.Shelf Go.Maps
attribute [local go_sem] Oper.semAt_some
attribute [local go_sem] QK2
set_option linter.unusedVariables false
set_option linter.unusedSimpArgs false
def qEC (f:RoI->Int) (nm:Int) (pre:List P8):Int:=(pre.map (·.1)).foldl (fun o y=>orI o (f (y,nm))) 0
theorem qHn (f:RoI->Int) (nm:Int) (pre:List P8) (x:P8):qEC f nm (pre++[x])=orI (qEC f nm pre) (f (x.1,nm)):=by
 simp [qEC,List.foldl_append]
theorem qJT {f:RoI->Int} (hf:FN f) (nm:Int) (pre:List P8):qK9 (qEC f nm pre):=by
 unfold qEC;exact (QE0 hf.st nm _ 0 ⟨by omega,by omega⟩).1
theorem qIo (n:Nat) (hn:3<=n) (b:Nat) (f:RoI->Int) (s nm:Int) (w:World) (h:GM w b f) (hs:qK9 s) (n0:1<=nm) (n1:nm<=5) :
  CallsIn Fence.wide n Tryz.prog 229 #[.map (some b),.int .u8 s,.int .i64 nm] w fun e W'=>e = .returned (.int .u8 (qL7 f nm (qB3 s 8) (qB3 s 8).length))/\Below w.heap.size w W':=by
 have h1:1<=n:=by omega
 have s0:=hs.1;have s1:=hs.2;have hfn:=h.fn;have hlt:=h.lt;refine callsIn_of_wp_marks Tryz.func229 rfl trivial ?_ rfl;simp only [Tryz.ntmps229,List.size_toArray,List.length_cons,List.length_nil,Nat.reduceAdd,Nat.reduceSub,Array.replicate_succ,Array.replicate_zero,List.push_toArray,List.append_toArray,List.nil_append,List.cons_append];gi_wp2_with (gi_at_call 189;refine (qBk _ _ _).mono ?_;rintro e w' ⟨rfl,rfl⟩)
 have bM:=Boxed.new w 280 (.map (some b));have bN:=Boxed.new (w.alloc (.cells #[.map (some b)] 280)) 2 (.int .i64 nm);rw [World.size_alloc] at bN;have bA:=Boxed.new ((w.alloc (.cells #[.map (some b)] 280)).alloc (.cells #[.int .i64 nm] 2)) 257 (.int .u8 0);rw [World.size_alloc,World.size_alloc] at bA;have bS:=Boxed.new (((w.alloc (.cells #[.map (some b)] 280)).alloc (.cells #[.int .i64 nm] 2)).alloc (.cells #[.int .u8 0] 257)) 257 (.int .u8 s);rw [World.size_alloc,World.size_alloc,World.size_alloc] at bS;have bM':=((bM.alloc (.cells #[.int .i64 nm] 2)).alloc (.cells #[.int .u8 0] 257)).alloc (.cells #[.int .u8 s] 257);have bN':=(bN.alloc (.cells #[.int .u8 0] 257)).alloc (.cells #[.int .u8 s] 257);have bA':=bA.alloc (.cells #[.int .u8 s] 257);obtain ⟨W0,hW0⟩:∃ W0,(((w.alloc (.cells #[.map (some b)] 280)).alloc (.cells #[.int .i64 nm] 2)).alloc (.cells #[.int .u8 0] 257)).alloc (.cells #[.int .u8 s] 257)=W0:=⟨_,rfl⟩;have hsz:W0.heap.size=w.heap.size+4:=by rw [<- hW0];simp
 have hB0:Below w.heap.size w W0:=by rw [<- hW0];exact ((((Below.refl _ w).alloc (Nat.le_refl _) _).alloc (by simp) _).alloc (by simp;omega) _).alloc (by simp;omega) _
 rw [hW0] at bS bA' bM' bN' ⊢
 have HB0:Hid (Below w.heap.size w W0):=hB0;have hG0:=h.below hlt hB0;clear bA bM bN hW0 hB0
 refine wpIn_rangeFunc_ownG rfl h1 (gf:=209) (lb:=#[.pointer (some ⟨w.heap.size+1+1+1,0,none⟩)]) rfl trivial (enters_of Tryz.func209 (by kernel_rfl) rfl)
  (QL4 (n - 1) (by omega) (w.heap.size+1+1+1) s s0 s1 W0 (by omega) bS.cell) (Kp:=qZ2 (w.heap.size+1+1+1)) (fun h k=>Eq.trans k h) (fun W l o o' hl h _ _=>World.putObj_heap_other (by omega)) (Below.refl _ _) (fun _=>rfl)
  (fun pre W=>(Boxed W (w.heap.size+1+1) 257 (.int .u8 (qEC f nm pre))/\Boxed W (w.heap.size+1+1+1) 257 (.int .u8 s))/\Below (w.heap.size+1+1) W0 W)
  (fun _ _ _=>False)
  (OwnFrom.and (OwnFrom.and (Own.from (boxed_own _ _ (fun pre => .int .u8 (qEC f nm pre))) _) (Own.from (boxed_own _ _ (fun _ => .int .u8 s)) _)) (ownFrom_below (by omega) (by omega)))
  (fun _ _ _ _ _ hs _ _=>hs)
  ⟨⟨bA',bS⟩,Below.refl _ _⟩
  (fun x=>{ tmps:=#[.map (some b),.int .u8 s,.int .i64 nm,.pointer (some ⟨w.heap.size,0,none⟩),undef,.pointer (some ⟨w.heap.size+1,0,none⟩),.int .u8 0,.pointer (some ⟨w.heap.size+1+1,0,none⟩),.int .i64 x.1,.int .u8 s,.func (.func 209) #[] #[.pointer (some ⟨w.heap.size+1+1+1,0,none⟩)],.int .i64 x.1,undef,undef,undef,undef,undef,undef,undef,undef],defers:=[] }) ?assign ?body ?done ?stop
 case assign =>
  intro l x W K hK;gi_wp2
  exact hK
 case body =>
  rintro l pre x W ⟨⟨hA,hS⟩,hB⟩ hlt';have cA:W.drew.cell? ⟨w.heap.size+1+1,0,none⟩=some (.int .u8 (qEC f nm pre)):=hA.cell;have fA:W.drew.frozen? ⟨w.heap.size+1+1,0,none⟩=false:=hA.frozen;have cM:W.drew.cell? ⟨w.heap.size,0,none⟩=some (.map (some b)):=(hB.cell (p:=⟨w.heap.size,0,none⟩) (by simp;omega)).trans bM'.cell;have cN:W.drew.cell? ⟨w.heap.size+1,0,none⟩=some (.int .i64 nm):=(hB.cell (p:=⟨w.heap.size+1,0,none⟩) (by simp)).trans bN'.cell;have hG:=hG0.below (k:=w.heap.size+1+1) (by omega) hB;have hlk:(Instr.lookup 280 (.map (some b)) (.agg #[.int .i64 x.1,.int .i64 nm]) false).run Tryz.prog W.drew = .ok (.int .u8 (f (x.1,nm))) W.drew:=QB8 (w:=W.drew) (qP5 hG rfl) (r:=(x.1,nm)) (QL0 (by have:=x.2;simp [qD6,qU0,qV1];omega));have hor:bits .or .u8 (qEC f nm pre) (f (x.1,nm))=qEC f nm (pre++[x]):=by rw [qHn];exact qLU _ _ (qJT hfn nm pre) (hfn.st _)
  have hA':Boxed W.drew (w.heap.size+1+1) 257 (.int .u8 (qEC f nm pre)):=hA;have hS':Boxed W.drew (w.heap.size+1+1+1) 257 (.int .u8 s):=hS;gi_wp2
  gi_region
  all_goals exact ⟨((KeepsOthers.drew W).trans (KeepsOthers.setCell W.drew ⟨w.heap.size+1+1,0,none⟩ _)).from _,(hS'.other (by omega) _).trans hS.symm,⟨hA'.set _,hS'.other (by omega) _⟩,(hB.drew).setCell (p:=⟨w.heap.size+1+1,0,none⟩) (Nat.le_refl _) _⟩
 case done =>
  rintro D ys W hD hys ⟨⟨hA,_⟩,hB⟩ hK;have cA:=hA.cell;gi_wp2
  refine ⟨by simp,.inl ⟨_,_,rfl,run_takeDeferred hK,?_⟩⟩;refine ⟨.int .u8 (qEC f nm ys),?res,?val,?below⟩
  case res=>simp [results,Tryz.results229,go_sem]
  case val =>
   have : qEC f nm ys=qL7 f nm (qB3 s 8) (qB3 s 8).length:=by
    unfold qEC qL7;rw [List.take_length,hys]
   rw [this]
  case below=>exact (HB0.out.trans (hB.mono (by omega))).trans (belowK_b (w:=w) (Nat.le_refl _) _ D _ _ (by omega) hK rfl rfl)
 case stop =>
  rintro D c pre W _ _ h _;exact h.elim
theorem qIp (b:Nat) (f:RoI->Int) (s nm:Int) (w:World) (h:GM w b f) (hs:qK9 s) (n0:1<=nm) (n1:nm<=5) :
  Calls Tryz.prog 229 #[.map (some b),.int .u8 s,.int .i64 nm] w fun e W'=>e = .returned (.int .u8 (qL7 f nm (qB3 s 8) (qB3 s 8).length))/\Below w.heap.size w W' :=
 callsIn_wide.1 (qIo 3 (Nat.le_refl _) b f s nm w h hs n0 n1)
end

section
open Go.RowKit Go.Maps
attribute [local go_sem] qMf qMe qMd qMc qMb qMa qMZ qMY qMX qMW qMV qMU qMT qMS qMR qMQ
theorem qKi (w:World) {ops:Array Oper} {rest:List Oper} {o:Oper} {a:Act} {Q:Exit->Act->World->Prop} (hg:o.guard=none) (m x:Operand) (hop:o.op=Op.lookup 280 m x false)
  (b:Nat) (f:RoI->Int) (r:RoI) (hm:a.eval m = .map (some b)) (hx:a.eval x = .agg #[.int .i64 r.1,.int .i64 r.2]) {w1:World} (hG:GM w1 b f) (hB:Below w1.heap.size w1 w) (hr:roW r)
  (hK:wpList Tryz.prog ops Q rest (a.put o.dst (.int .u8 (f r))) w):wpList Tryz.prog ops Q (o::rest) a w:=by
 refine wpList_plain hg fun K' hK'=>?_
 have hrun:=QB8 (hG.below hG.lt hB) hr;unfold Oper.wp;simp only [roV] at hrun;simp [execOp,hop,hm,hx,hrun,Result.andThen];exact hK' _ _ hK
theorem qEA {w w1:World} {o:Obj} (h:Below (w.alloc o).heap.size (w.alloc o) w1):Below w.heap.size w w1:=(zN).trans (h.mono (by simp))
theorem qW3 {r:qA2} (h:qA8 r=0):1<=r.k/\r.k<=4/\qD6 r.ho r.hn=true/\QE3 r=true:=by
 unfold qA8 at h;split at h
 ·cases h
 ·rename_i h1;split at h
  ·cases h
  ·rename_i h2;split at h
   ·cases h
   ·split at h
    ·cases h
    ·rename_i h4;exact ⟨by omega,by omega,by simpa using h2,by simpa using h4⟩
theorem qLb (b:Nat) (f:RoI->Int) (r:qA2) (w:World) (h:GM w b f) (hc:qA8 r=0) (e1:r.k=1) :
  Calls Tryz.prog 222 #[.map (some b),.agg #[.int .i64 r.k,.int .i64 r.ho,.int .i64 r.hn,.int .i64 r.w,.int .i64 r.oo,.int .i64 r.on,.int .i64 r.to,.int .i64 r.tn]] w fun e w'=>e = .returned (.int .u8 (byF f r))/\Below w.heap.size w w':=by
 have hh:=(qW3 hc).2.2.2;have hp:1<=r.w/\r.w<=8:=by simpa [QE3,e1,qU0] using hh
 have eb:byF f r=qFT r.w:=by simp [byF,e1]
 rw [eb];have E1:Hid _:=e1;clear hh eb hc e1;go_enter Tryz.func222,Tryz.ntmps222;go_wp2_with (first | (go_at_call 196;refine (QY6 r E1.out _).mono ?_;rintro e w1 ⟨rfl,hb0⟩;have hb:=qEA hb0;clear hb0) | (go_at_call 210;refine (QY7 r.w hp.1 hp.2 _).mono ?_;rintro e w2 ⟨rfl,rfl⟩) | go_in)
 go_ret;exact ⟨rfl,hb.alloc hb.size _⟩
theorem qLa (b:Nat) (f:RoI->Int) (r:qA2) (w:World) (h:GM w b f) (hc:qA8 r=0) (e1:r.k=2) :
  Calls Tryz.prog 222 #[.map (some b),.agg #[.int .i64 r.k,.int .i64 r.ho,.int .i64 r.hn,.int .i64 r.w,.int .i64 r.oo,.int .i64 r.on,.int .i64 r.to,.int .i64 r.tn]] w fun e w'=>e = .returned (.int .u8 (byF f r))/\Below w.heap.size w w':=by
 have hh:=(qW3 hc).2.2.2;have hp:qD6 r.oo r.on=true:=by simpa [QE3,e1] using hh
 have eb:byF f r=f (r.oo,r.on):=by simp [byF,e1]
 rw [eb];have E1:Hid _:=e1;clear hh eb hc e1;go_enter Tryz.func222,Tryz.ntmps222;go_wp2_with (first | (go_at_call 196;refine (QY5 r E1.out _).mono ?_;rintro e w1 ⟨rfl,hb0⟩;have hb:=qEA hb0;clear hb0) | (at_lookup;refine qKi _ rfl _ _ rfl b f (r.oo,r.on) rfl rfl h (hb.alloc hb.size _) (QL0 hp) ?_) | go_in)
 go_ret;exact ⟨rfl,hb.alloc hb.size _⟩
theorem qLZ (b:Nat) (f:RoI->Int) (r:qA2) (w:World) (h:GM w b f) (hc:qA8 r=0) (e1:r.k=3) :
  Calls Tryz.prog 222 #[.map (some b),.agg #[.int .i64 r.k,.int .i64 r.ho,.int .i64 r.hn,.int .i64 r.w,.int .i64 r.oo,.int .i64 r.on,.int .i64 r.to,.int .i64 r.tn]] w fun e w'=>e = .returned (.int .u8 (byF f r))/\Below w.heap.size w w':=by
 have hh:=(qW3 hc).2.2.2;have hp:qD6 r.oo r.on=true/\1<=r.tn/\r.tn<=5:=by simpa [QE3,e1,qV1] using hh
 have eb:byF f r=qL7 f r.tn (qB3 (f (r.oo,r.on)) 8) (qB3 (f (r.oo,r.on)) 8).length:=by simp [byF,e1]
 rw [eb];have E1:Hid _:=e1;clear hh eb hc e1;go_enter Tryz.func222,Tryz.ntmps222;go_wp2_with (first | (go_at_call 196;refine (QJ7 r E1.out _).mono ?_;rintro e w1 ⟨rfl,hb0⟩;have hb:=qEA hb0;clear hb0) | go_in)
 have hB1:=hb.alloc hb.size (.cells #[.int .i64 r.oo,.int .i64 r.on,.int .i64 r.tn] 307);have hG1:=h.below h.lt hB1;have hl:=QB8 (w:=(w1.alloc (.cells #[.int .i64 r.oo,.int .i64 r.on,.int .i64 r.tn] 307)).drew) (qP5 hG1 rfl) (QL0 (r:=(r.oo,r.on)) hp.1);simp only [roV] at hl;have HG:Hid (GM (w1.alloc (.cells #[.int .i64 r.oo,.int .i64 r.on,.int .i64 r.tn] 307)).drew b f):=qP5 hG1 rfl;have HB:Hid (Below w.heap.size w (w1.alloc (.cells #[.int .i64 r.oo,.int .i64 r.on,.int .i64 r.tn] 307)).drew):=hB1.drew;have HS:Hid (qK9 (f (r.oo,r.on))):=h.fn.st _;clear hB1 hG1 h hb;go_region_with (first | (go_at_call 229;refine (qIp b f (f (r.oo,r.on)) r.tn _ HG.out HS.out hp.2.1 hp.2.2).mono ?_;rintro e w2 ⟨rfl,hb2⟩))
 all_goals go_wp2
 all_goals go_ret
 all_goals exact ⟨rfl,HB.out.trans (hb2.mono HB.out.size)⟩
theorem qLY (b:Nat) (f:RoI->Int) (r:qA2) (w:World) (h:GM w b f) (hc:qA8 r=0) (e1:r.k=4) :
  Calls Tryz.prog 222 #[.map (some b),.agg #[.int .i64 r.k,.int .i64 r.ho,.int .i64 r.hn,.int .i64 r.w,.int .i64 r.oo,.int .i64 r.on,.int .i64 r.to,.int .i64 r.tn]] w fun e w'=>e = .returned (.int .u8 (byF f r))/\Below w.heap.size w w':=by
 have hh:=(qW3 hc).2.2.2;have hp:qD6 r.oo r.on=true/\qD6 r.to r.tn=true:=by simpa [QE3,e1] using hh
 have eb:byF f r=bits .and .u8 (f (r.oo,r.on)) (f (r.to,r.tn)):=by simp [byF,e1,qLW _ _ (h.fn.st _) (h.fn.st _)]
 rw [eb];have E1:Hid _:=e1;clear hh eb hc e1;go_enter Tryz.func222,Tryz.ntmps222;go_wp2_with (first | (go_at_call 196;refine (QY4 r E1.out _).mono ?_;rintro e w1 ⟨rfl,hb0⟩;have hb:=qEA hb0;clear hb0) | go_in)
 have hB1:=hb.alloc hb.size (.cells #[.int .i64 r.oo,.int .i64 r.on,.int .i64 r.to,.int .i64 r.tn] 309);have hG1:=h.below h.lt hB1;have hl1:=fun m=>QB8 (w:=(w1.alloc (.cells #[.int .i64 r.oo,.int .i64 r.on,.int .i64 r.to,.int .i64 r.tn] 309)).drewN m) (qP5 hG1 rfl) (QL0 (r:=(r.oo,r.on)) hp.1)
 have hl2:=fun m=>QB8 (w:=(w1.alloc (.cells #[.int .i64 r.oo,.int .i64 r.on,.int .i64 r.to,.int .i64 r.tn] 309)).drewN m) (qP5 hG1 rfl) (QL0 (r:=(r.to,r.tn)) hp.2)
 simp only [roV] at hl1 hl2;have HB:Hid (Below w.heap.size w (w1.alloc (.cells #[.int .i64 r.oo,.int .i64 r.on,.int .i64 r.to,.int .i64 r.tn] 309))):=hB1;clear hB1 hG1 h hb;go_quiet (fail)
 go_wp2;go_ret;exact ⟨rfl,bdN HB.out _⟩
end
