/- Contracts. -/
import Derived.Test.YtlhgjackapdmbaaGreatDoorPc32
import Derived.Test.YtlhgjackapdmbaaGreatDoorPc15
import Derived.RegionIn
import Derived.BigRegionIn
namespace Go.Proofs.YtlhgjackapdmbaaGreatDoor
set_option maxRecDepth 100000
set_option maxHeartbeats 8000000
open Go.RowKit
set_option linter.unusedVariables false
set_option linter.unusedSimpArgs false

section
open Go.RowKit Go.Shelf Go.Maps
attribute [local go_sem] Oper.semAt_some
attribute [local go_sem] QJ5
set_option linter.unusedVariables false
set_option linter.unusedSimpArgs false
def accL (f:RoI→Int) (nm:Int) (pre:List P8):Int:=(pre.map (·.1)).foldl (fun o y=>orI o (f (y,nm))) 0
theorem accL_snoc (f:RoI→Int) (nm:Int) (pre:List P8) (x:P8):accL f nm (pre++[x])=orI (accL f nm pre) (f (x.1,nm)):=by
 simp [accL,List.foldl_append]
theorem accL_set {f:RoI→Int} (hf:FN f) (nm:Int) (pre:List P8):qL1 (accL f nm pre):=by
 unfold accL
 exact (QE2 hf.st nm _ 0 ⟨by omega,by omega⟩).1
theorem linked_w (n:Nat) (hn:3≤n) (b:Nat) (f:RoI→Int) (s nm:Int) (w:World) (h:GM w b f) (hs:qL1 s) (n0:1≤nm) (n1:nm≤5) :
  CallsIn Fence.wide n Tryz.prog 211 #[.map (some b),.int .u8 s,.int .i64 nm] w fun e W'=>e = .returned (.int .u8 (qL5 f nm (qB2 s 8) (qB2 s 8).length))∧Below w.heap.size w W':=by
 have h1:1≤n:=by omega
 have s0:=hs.1
 have s1:=hs.2
 have hfn:=h.fn
 have hlt:=h.lt
 refine callsIn_of_wp_marks Tryz.func211 rfl trivial ?_ rfl
 simp only [Tryz.ntmps211,List.size_toArray,List.length_cons,List.length_nil,Nat.reduceAdd,Nat.reduceSub,Array.replicate_succ,Array.replicate_zero,List.push_toArray,List.append_toArray,List.nil_append,List.cons_append]
 gi_wp2_with (gi_at_call 163;refine (prin_in _ _ _).mono ?_;rintro e w' ⟨rfl,rfl⟩)
 have bM:=Boxed.new w 240 (.map (some b))
 have bN:=Boxed.new (w.alloc (.cells #[.map (some b)] 240)) 2 (.int .i64 nm)
 rw [World.size_alloc] at bN
 have bA:=Boxed.new ((w.alloc (.cells #[.map (some b)] 240)).alloc (.cells #[.int .i64 nm] 2)) 220 (.int .u8 0)
 rw [World.size_alloc,World.size_alloc] at bA
 have bS:=Boxed.new (((w.alloc (.cells #[.map (some b)] 240)).alloc (.cells #[.int .i64 nm] 2)).alloc (.cells #[.int .u8 0] 220)) 220 (.int .u8 s)
 rw [World.size_alloc,World.size_alloc,World.size_alloc] at bS
 have bM':=((bM.alloc (.cells #[.int .i64 nm] 2)).alloc (.cells #[.int .u8 0] 220)).alloc (.cells #[.int .u8 s] 220)
 have bN':=(bN.alloc (.cells #[.int .u8 0] 220)).alloc (.cells #[.int .u8 s] 220)
 have bA':=bA.alloc (.cells #[.int .u8 s] 220)
 obtain ⟨W0,hW0⟩:∃ W0,(((w.alloc (.cells #[.map (some b)] 240)).alloc (.cells #[.int .i64 nm] 2)).alloc (.cells #[.int .u8 0] 220)).alloc (.cells #[.int .u8 s] 220)=W0:=⟨_,rfl⟩
 have hsz:W0.heap.size=w.heap.size+4:=by rw [← hW0];simp
 have hB0:Below w.heap.size w W0:=by rw [← hW0];exact ((((Below.refl _ w).alloc (Nat.le_refl _) _).alloc (by simp) _).alloc (by simp;omega) _).alloc (by simp;omega) _
 rw [hW0] at bS bA' bM' bN' ⊢
 have HB0:Hid (Below w.heap.size w W0):=hB0
 have hG0:=h.below hlt hB0
 clear bA bM bN hW0 hB0
 refine wpIn_rangeFunc_ownG rfl h1 (gf:=183) (lb:=#[.pointer (some ⟨w.heap.size+1+1+1,0,none⟩)]) rfl trivial (enters_of Tryz.func183 (by kernel_rfl) rfl)
  (QK4 (n - 1) (by omega) (w.heap.size+1+1+1) s s0 s1 W0 (by omega) bS.cell) (Kp:=QA0 (w.heap.size+1+1+1)) (fun h k=>Eq.trans k h) (fun W l o o' hl h _ _=>World.putObj_heap_other (by omega)) (Below.refl _ _) (fun _=>rfl)
  (fun pre W=>(Boxed W (w.heap.size+1+1) 220 (.int .u8 (accL f nm pre))∧Boxed W (w.heap.size+1+1+1) 220 (.int .u8 s))∧Below (w.heap.size+1+1) W0 W)
  (fun _ _ _=>False)
  (OwnFrom.and (OwnFrom.and (Own.from (boxed_own _ _ (fun pre => .int .u8 (accL f nm pre))) _) (Own.from (boxed_own _ _ (fun _ => .int .u8 s)) _)) (ownFrom_below (by omega) (by omega)))
  (fun _ _ _ _ _ hs _ _=>hs)
  ⟨⟨bA',bS⟩,Below.refl _ _⟩
  (fun x=>{ tmps:=#[.map (some b),.int .u8 s,.int .i64 nm,.pointer (some ⟨w.heap.size,0,none⟩),undef,.pointer (some ⟨w.heap.size+1,0,none⟩),.int .u8 0,.pointer (some ⟨w.heap.size+1+1,0,none⟩),.int .i64 x.1,.int .u8 s,.func (.func 183) #[] #[.pointer (some ⟨w.heap.size+1+1+1,0,none⟩)],.int .i64 x.1,undef,undef,undef,undef,undef,undef,undef,undef],defers:=[] }) ?assign ?body ?done ?stop
 case assign =>
  intro l x W K hK
  gi_wp2
  exact hK
 case body =>
  rintro l pre x W ⟨⟨hA,hS⟩,hB⟩ hlt'
  have cA:W.drew.cell? ⟨w.heap.size+1+1,0,none⟩=some (.int .u8 (accL f nm pre)):=hA.cell
  have fA:W.drew.frozen? ⟨w.heap.size+1+1,0,none⟩=false:=hA.frozen
  have cM:W.drew.cell? ⟨w.heap.size,0,none⟩=some (.map (some b)):=(hB.cell (p:=⟨w.heap.size,0,none⟩) (by simp;omega)).trans bM'.cell
  have cN:W.drew.cell? ⟨w.heap.size+1,0,none⟩=some (.int .i64 nm):=(hB.cell (p:=⟨w.heap.size+1,0,none⟩) (by simp)).trans bN'.cell
  have hG:=hG0.below (k:=w.heap.size+1+1) (by omega) hB
  have hlk:(Instr.lookup 240 (.map (some b)) (.agg #[.int .i64 x.1,.int .i64 nm]) false).run Tryz.prog W.drew = .ok (.int .u8 (f (x.1,nm))) W.drew:=QC3 (w:=W.drew) (qP9 hG rfl) (r:=(x.1,nm)) (QK1 (by have:=x.2;simp [qD3,qU7,qV9];omega))
  have hor:bits .or .u8 (accL f nm pre) (f (x.1,nm))=accL f nm (pre++[x]):=by rw [accL_snoc];exact u8_or _ _ (accL_set hfn nm pre) (hfn.st _)
  have hA':Boxed W.drew (w.heap.size+1+1) 220 (.int .u8 (accL f nm pre)):=hA
  have hS':Boxed W.drew (w.heap.size+1+1+1) 220 (.int .u8 s):=hS
  gi_wp2
  gi_region
  all_goals exact ⟨((KeepsOthers.drew W).trans (KeepsOthers.setCell W.drew ⟨w.heap.size+1+1,0,none⟩ _)).from _,(hS'.other (by omega) _).trans hS.symm,⟨hA'.set _,hS'.other (by omega) _⟩,(hB.drew).setCell (p:=⟨w.heap.size+1+1,0,none⟩) (Nat.le_refl _) _⟩
 case done =>
  rintro D ys W hD hys ⟨⟨hA,_⟩,hB⟩ hK
  have cA:=hA.cell
  gi_wp2
  refine ⟨by simp,.inl ⟨_,_,rfl,run_takeDeferred hK,?_⟩⟩
  refine ⟨.int .u8 (accL f nm ys),?res,?val,?below⟩
  case res=>simp [results,Tryz.results211,go_sem]
  case val =>
   have : accL f nm ys=qL5 f nm (qB2 s 8) (qB2 s 8).length:=by
    unfold accL qL5
    rw [List.take_length,hys]
   rw [this]
  case below=>exact (HB0.out.trans (hB.mono (by omega))).trans (belowK_b (w:=w) (Nat.le_refl _) _ D _ _ (by omega) hK rfl rfl)
 case stop =>
  rintro D c pre W _ _ h _
  exact h.elim
theorem linked_c (b:Nat) (f:RoI→Int) (s nm:Int) (w:World) (h:GM w b f) (hs:qL1 s) (n0:1≤nm) (n1:nm≤5) :
  Calls Tryz.prog 211 #[.map (some b),.int .u8 s,.int .i64 nm] w fun e W'=>e = .returned (.int .u8 (qL5 f nm (qB2 s 8) (qB2 s 8).length))∧Below w.heap.size w W' :=
 callsIn_wide.1 (linked_w 3 (Nat.le_refl _) b f s nm w h hs n0 n1)
end

end Go.Proofs.YtlhgjackapdmbaaGreatDoor
