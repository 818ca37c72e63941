/- Contracts. -/
import Derived.Laws.AppendOwn
import Derived.Maps.Own
import Derived.Maps.OwnSet
import Derived.Maps.RangeWalk
import Derived.RangeFuncNested
import Derived.RangeFuncBound
import Derived.RangeFuncCalls
import Derived.RangeFuncBox
import Derived.RangeFuncLeaves
import Derived.Shelf.Abstract
import Derived.OwnWalkIn
import Derived.TacticsInMore
import Derived.LoopNIn
import Derived.LoopIn
import Derived.Maps.AppendAt
import Derived.Stop.RegionWithIn
import Derived.Sort.BigQuietIn
import Derived.RangeFuncSeq
import Derived.RangeFuncGives
import Derived.Sort.MapsRangeIn
import Derived.Shelf.SlSortCmp.Whole1
import Derived.Shelf.SlSortCmp.NoneTotal
import Derived.Shelf.SlGeneric
import Derived.Ground.SlsfProg
import Derived.Test.YthogdfnaojijhaaGreatPa17
import Derived.Sort.OwnSorted
import Derived.Test.YthogdfnaojijhaaGreatPa12
import Derived.Shelf.SlSortCmp.WholeK
namespace Go.Proofs.YthogdfnaojijhaaGreat
set_option maxRecDepth 100000
set_option maxHeartbeats 8000000
open Go.RowKit
set_option linter.unusedVariables false
set_option linter.unusedSimpArgs false

structure qD6 (lo hi:Nat) (P:World→Prop) (W:World):Prop where
 out:P W
 le:hi≤W.heap.size
 kept:∀ X X':World,P X→(∀ b,lo≤b→b < hi→X'.heap[b]? = X.heap[b]?)→P X'
theorem qD6.below {lo hi:Nat} {P:World→Prop} {W W':World} (h:qD6 lo hi P W) (hb:Below W.heap.size W W'):qD6 lo hi P W' :=
 ⟨h.kept _ _ h.out (fun b _ h2=>hb.block b (Nat.lt_of_lt_of_le h2 h.le)),Nat.le_trans h.le hb.size,h.kept⟩
theorem qD6.alloc {lo hi:Nat} {P:World→Prop} {W:World} (h:qD6 lo hi P W) (o:Obj):qD6 lo hi P (W.alloc o):=h.below (zN)
theorem qD6.drew {lo hi:Nat} {P:World→Prop} {W:World} (h:qD6 lo hi P W):qD6 lo hi P W.drew:=h.below (Below.refl _ _).drew
structure Chg (lo hi:Nat) (W W':World):Prop where
 below:∀ B,B≤lo→B≤W.heap.size→Below B W W'
 size:W.heap.size≤W'.heap.size
 block:∀ b,b < W.heap.size→(b < lo∨hi≤b)→W'.heap[b]? = W.heap[b]?
theorem Chg.grown {lo hi:Nat} {W W':World} {row:Option Nat} (hg:W.grownBy W' row) (h:∀ q,row=some q→lo≤q∧q < hi):Chg lo hi W W' :=
 ⟨fun B h1 h2=>(Below.refl _ _).grown hg h2 (fun q e=>Nat.le_trans h1 (h q e).1),hg.size,fun b h1 h2=>hg.block b h1 (fun e=>by have:=h b e.symm;omega)⟩
theorem Chg.trans {lo hi:Nat} {A B C:World} (h:Chg lo hi A B) (k:Chg lo hi B C):Chg lo hi A C :=
 ⟨fun b h1 h2=>(h.below b h1 h2).trans (k.below b h1 (Nat.le_trans h2 h.size)),Nat.le_trans h.size k.size,fun b h1 h2=>(k.block b (Nat.lt_of_lt_of_le h1 h.size) h2).trans (h.block b h1 h2)⟩
theorem qD6.chg {lo hi l r:Nat} {P:World→Prop} {W W':World} (h:qD6 lo hi P W) (c:Chg l r W W') (d:hi≤l∨r≤lo):qD6 lo hi P W' :=
 ⟨h.kept _ _ h.out (fun b h1 h2=>c.block b (Nat.lt_of_lt_of_le h2 h.le) (by omega)),Nat.le_trans h.le c.size,h.kept⟩
theorem qU8 {B l r:Nat} {w W W':World} (h:Below B w W) (c:Chg l r W W') (h1:B≤l) (h2:B≤W.heap.size):Below B w W':=h.trans (c.below B h1 h2)
theorem qV6 {W w:World} (h:(∀ b o,b < W.heap.size→w.cell? ⟨b,o,none⟩=W.cell? ⟨b,o,none⟩)∧Below W.heap.size W w) (o:Obj):(∀ b i,b < W.heap.size→(w.alloc o).cell? ⟨b,i,none⟩=W.cell? ⟨b,i,none⟩)∧Below W.heap.size W (w.alloc o) :=
 ⟨fun b i hb=>(((Below.refl w.heap.size w).alloc (Nat.le_refl _) o).cell (p:=⟨b,i,none⟩) (Nat.lt_of_lt_of_le hb h.2.size)).trans (h.1 b i hb),h.2.alloc h.2.size _⟩
theorem qT5 {w:World} {base:Nat} {e:TypeId} {size:Nat} {v:Value} {n:Nat} {xs:List Value} (h:w.ownsRow base e size v n xs) {a:Addr} (ha:a.block < base) (u:Value):(w.setCell a u).ownsRow base e size v n xs:=by
 refine ⟨h.1,?_⟩
 rcases h.2 with q | ⟨g,cap,cur,e1,hg,hb,rest⟩
 ·exact .inl q
 ·exact .inr ⟨g,cap,cur,e1,hg,(Below.heap_setCell _ _ _ _ (by intro q;omega)).trans hb,rest⟩
def qJ1 (b:Nat) (vs:List Value) (X:World):Prop:=∀ j v,vs[j]? = some v→X.cell? ⟨b,j,none⟩=some v
theorem qJ1.hold {b:Nat} {vs:List Value} {W:World} (h:qJ1 b vs W) (hb:b < W.heap.size):qD6 b (b+1) (qJ1 b vs) W :=
 ⟨h,hb,fun X X' hX hk j v e=>(World.cell?_of_block (w:=X) (w':=X') (a:=⟨b,j,none⟩) (hk b (Nat.le_refl _) (by omega))).trans (hX j v e)⟩
theorem qD0 (W:World) (cs:Array Value) (t:TypeId):qD6 W.heap.size (W.heap.size+1) (qJ1 W.heap.size cs.toList) (W.alloc (.cells cs t)):=by
 refine qJ1.hold (fun j v e=>?_) (by simp)
 have h:(W.alloc (.cells cs t)).heap[W.heap.size]? = some (.cells cs t):=by show (W.heap.push _)[W.heap.size]? = _;simp
 unfold World.cell?
 simp only
 rw [h]
 simpa using e
def qI7 (b:Nat) (vs:List Value) (X:World):Prop:=qJ1 b vs X∧(∀ j,X.frozen? ⟨b,j,none⟩=false)
theorem qI7.hold {b:Nat} {vs:List Value} {W:World} (h:qI7 b vs W) (hb:b < W.heap.size):qD6 b (b+1) (qI7 b vs) W :=
 ⟨h,hb,fun X X' hX hk=>⟨(qJ1.hold h.1 hb).kept X X' hX.1 hk,fun j=>(World.frozen?_of_block (w:=X) (w':=X') (a:=⟨b,j,none⟩) (hk b (Nat.le_refl _) (by omega))).trans (hX.2 j)⟩⟩
theorem qI7.below {b:Nat} {vs:List Value} {W W':World} (h:qI7 b vs W) (hb:b < W.heap.size) (hw:Below W.heap.size W W'):qI7 b vs W':=((h.hold hb).below hw).out
theorem qI5 (W:World) (cs:Array Value) (t:TypeId):qI7 W.heap.size cs.toList (W.alloc (.cells cs t)) :=
 ⟨(qD0 W cs t).out,fun j=>by
  have h:(W.alloc (.cells cs t)).heap[W.heap.size]? = some (.cells cs t):=by show (W.heap.push _)[W.heap.size]? = _;simp
  unfold World.frozen?
  simp only
  rw [h]
  simp⟩
theorem qI7.put {b:Nat} {vs:List Value} {X:World} (h:qI7 b vs X) (j:Nat) (hj:j < vs.length) (v:Value):qI7 b (vs.set j v) (X.setCell ⟨b,j,none⟩ v):=by
 refine ⟨fun i u e=>?_,fun i=>by rw [World.frozen?_setCell];exact h.2 i⟩
 by_cases q:i=j
 ·subst q
  rw [List.getElem?_set_self hj] at e
  have hc:=h.1 i _ (List.getElem?_eq_getElem hj)
  cases e
  simp [go_sem,hc]
 ·rw [List.getElem?_set_ne (Ne.symm q)] at e
  rw [World.cell?_setCell_other (h:=fun e=>q (by have:=congrArg Addr.off e;simp at this;omega))]
  exact h.1 i u e
theorem qI7.other {b:Nat} {vs:List Value} {X:World} (h:qI7 b vs X) {p:Addr} (hp:p.block≠b) (v:Value):qI7 b vs (X.setCell p v):=by
 refine ⟨fun i u e=>?_,fun i=>by rw [World.frozen?_setCell];exact h.2 i⟩
 rw [World.cell?_setCell_other (h:=fun e=>hp (by rw [e]))]
 exact h.1 i u e
def qL3 (g n:Nat) (zs:List Int) (X:World):Prop:=(∀ k x,zs[k]? = some x→X.cell? ⟨g,k,none⟩=some (.int .i64 x))∧(∀ j,j < n→∃ v,X.cell? ⟨g,j,none⟩=some v)∧∀ j,X.frozen? ⟨g,j,none⟩=false
theorem qL3.hold {g n:Nat} {zs:List Int} {W:World} (h:qL3 g n zs W) (hg:g < W.heap.size):qD6 g (g+1) (qL3 g n zs) W :=
 ⟨h,hg,fun X X' hX hk=>by
  have hb:=hk g (Nat.le_refl _) (by omega)
  exact ⟨fun k x e=>(World.cell?_of_block (a:=⟨g,k,none⟩) hb).trans (hX.1 k x e),fun j hj=>by
   obtain ⟨v,e⟩:=hX.2.1 j hj
   exact ⟨v,(World.cell?_of_block (a:=⟨g,j,none⟩) hb).trans e⟩,fun j=>(World.frozen?_of_block (a:=⟨g,j,none⟩) hb).trans (hX.2.2 j)⟩⟩
theorem qT4 {X X':World} {B:Nat} {t:TypeId} {sz:Nat} {v:Value} {n:Nat} {xs:List Value} (h:X.ownsRow B t sz v n xs) (hk:∀ g,v.ownBlock=some g→X'.heap[g]? = X.heap[g]?):X'.ownsRow B t sz v n xs:=by
 refine ⟨h.1,?_⟩
 rcases h.2 with q | ⟨g,cap,cur,e,hg,hb,rest⟩
 ·exact .inl q
 ·exact .inr ⟨g,cap,cur,e,hg,(hk g (by rw [e];rfl)).trans hb,rest⟩

section
open Go.RowKit Go.Maps
theorem sn_map:Tryz.prog.underlying 186=some (.map 2 217):=by kernel_rfl
theorem QG0:Keyed Tryz.prog 2:=int_keyed Tryz.underlying2
abbrev QM5 (i:Int):Prop:=(Lit.int .i64 i).wf=true
theorem sn_key {i:Int} (h:QM5 i):keyOf Tryz.prog 2 (.int .i64 i)=some (.int .i64 i):=keyOf_int_mk Tryz.underlying2 h
theorem i64W_of {i:Int} (h0 : -100≤i) (h1:i≤100):QM5 i:=by
 simp [QM5,Lit.wf,IntKind.min,IntKind.max,IntKind.signed,IntKind.bits];omega
noncomputable abbrev elS:Value→Option (DataW Unit × List MemPlace):=unitElem
def SM (w:World) (b N:Nat) (p:Int→Bool):Prop:=∃ D n,n≤N∧w.ownsMap Tryz.prog 2 elS b n D∧∀ i,QM5 i→Maps.has D (.int .i64 i)=p i
theorem SM.lt {w:World} {b N:Nat} {p:Int→Bool} (h:SM w b N p):b < w.heap.size:=by
 obtain ⟨D,n,_,ho,_⟩:=h
 exact ho.lt
theorem sm_heap {w w':World} {b N:Nat} {p:Int→Bool} (h:SM w b N p) (e:w'.heap[b]? = w.heap[b]?):SM w' b N p:=by
 obtain ⟨D,n,h1,⟨es,clock,hb,F,hs,hD⟩,hv⟩:=h
 exact ⟨D,n,h1,⟨es,clock,e.trans hb,F,hs,hD⟩,hv⟩
theorem SM.below {w w':World} {b N k:Nat} {p:Int→Bool} (h:SM w b N p) (hk:b < k) (hb:Below k w w'):SM w' b N p:=sm_heap h (hb.block b hk)
theorem sm_made (w:World):SM (w.alloc (.map #[] 0)) w.heap.size 0 (fun _=>false) :=
 ⟨.map [],0,Nat.le_refl _,World.ownsMap_made w _ _ _,fun i _=>rfl⟩
def putP (p:Int→Bool) (i:Int):Int→Bool:=fun j=>decide (j=i) || p j
def delP (p:Int→Bool) (i:Int):Int→Bool:=fun j => !decide (j=i)&&p j
theorem key_is (i:Int):WideAt.IsKeyLit (.int .i64 i):=trivial
theorem lit_ne {i j:Int} (h:¬ j=i):(Lit.int .i64 j)≠(Lit.int .i64 i):=fun e=>h (by injection e)
theorem sm_put {w:World} {b N:Nat} {p:Int→Bool} (h:SM w b N p) (hN:N < 1000000) {i:Int} (hi:QM5 i) :
  ∃ w',(Instr.mapUpdate 186 (.map (some b)) (.int .i64 i) (.agg #[])).run Tryz.prog w = .ok () w'∧SM w' b (N+1) (putP p i)∧w.grownBy w' (some b):=by
 obtain ⟨D,n,h1,ho,hv⟩:=h
 obtain ⟨w',hr,ho',ht⟩:=ho.store QG0 sn_map (by unfold maxLen;omega) (sn_key hi) (unitElem_mk (H:=Unit))
 refine ⟨w',hr,⟨_,n+1,by omega,ho',fun j hj=>?_⟩,ht.grown⟩
 by_cases e:j=i
 ·subst e
  rw [has_put_same ho.isMap (key_is _)];simp [putP]
 ·rw [has_put_other (lit_ne e),hv j hj];simp [putP,e]
theorem sm_del {w:World} {b N:Nat} {p:Int→Bool} (h:SM w b N p) {i:Int} (hi:QM5 i) (ty:TypeId) :
  ∃ w',(Builtin.delete_ #[186,2] ty #[.map (some b),.int .i64 i]).run Tryz.prog w = .ok (.tuple #[]) w'∧SM w' b N (delP p i)∧w.grownBy w' (some b):=by
 obtain ⟨D,n,h1,ho,hv⟩:=h
 obtain ⟨w',hr,ho',ht⟩:=ho.drop QG0 sn_map (sn_key hi) ty
 refine ⟨w',hr,⟨_,n,h1,ho',fun j hj=>?_⟩,ht.grown⟩
 by_cases e:j=i
 ·subst e
  rw [has_del_same];simp [delP]
 ·rw [has_del_other (lit_ne e),hv j hj];simp [delP,e]
theorem sm_len {w:World} {b N:Nat} {p:Int→Bool} (h:SM w b N p) (ty:TypeId) :
  ∃ m:Nat,(Builtin.len_ #[186] ty #[.map (some b)]).run Tryz.prog w = .ok (.int .i64 (m:Int)) w∧m≤N∧(m=0↔∀ i,QM5 i→p i=false):=by
 obtain ⟨D,n,h1,ho,hv⟩:=h
 refine ⟨Maps.size D,ho.len sn_map ty,Nat.le_trans ho.size_le h1,?_⟩
 obtain ⟨es,hD,hne,hk⟩:=ho.entries QG0
 constructor
 ·intro h0 i hi
  rw [← hv i hi,hD]
  rw [hD,size_eq] at h0
  rw [List.eq_nil_of_length_eq_zero h0];rfl
 ·intro hp
  cases es with
  | nil=>rw [hD];rfl
  | cons e es =>
   exfalso
   obtain ⟨es0,clock,hb,F,hs,hDD⟩:=ho
   have hm:e∈es0.toList.map (WideElems.rg Tryz.prog 2 elS):=by
    rw [hD] at hDD
    have:=(DataW.map.inj hDD)
    exact mem_sorted.1 (by rw [← this];simp)
   obtain ⟨v,hvv⟩:=fit_keys F e hm
   obtain ⟨i,rfl,hw,hkl⟩:∃ i,v = .int .i64 i∧QM5 i∧e.1 = .int .i64 i:=by
    simp only [keyOf,Tryz.underlying2,mapKey] at hvv
    cases v <;> simp at hvv
    obtain ⟨⟨rfl,hw⟩,hh⟩:=hvv
    exact ⟨_,rfl,hw,hh.symm⟩
   have h2:=hp i hw
   rw [← hv i hw,hD,has_eq] at h2
   simp [hkl,WideAt.sameKey_self (key_is i)] at h2
theorem snPut_c (b N:Nat) (p:Int→Bool) (i:Int) (w:World) (h:SM w b N p) (hN:N < 1000000) (hi:QM5 i) :
  Calls Tryz.prog 120 #[.map (some b),.int .i64 i] w fun e w'=>e = .returned (.tuple #[])∧SM w' b (N+1) (putP p i)∧w.grownBy w' (some b):=by
 obtain ⟨w',hr,hs,hg⟩:=sm_put h hN hi
 go_enter Tryz.func120,Tryz.ntmps120
 go_wp2
 go_end0
 exact ⟨rfl,hs,hg⟩
end

section
open Go.RowKit Go.Shelf Go.Maps Go.Sort Go.Proofs Go.Lib
attribute [local go_sem] Oper.semAt_some
set_option linter.unusedVariables false
set_option linter.unusedSimpArgs false
theorem Tryz.infoI2:(Tryz.prog.info? 2).map (fun i=>(i.zero,i.size,i.bytes))=some (some (.int .i64 0),1,8):=by kernel_rfl
theorem nodup_lenI (xs ys:List Int) (hn:xs.Nodup) (h:∀ x∈xs,x∈ys):xs.length≤ys.length:=by
 induction xs generalizing ys with
 | nil=>simp
 | cons x xs ih =>
  obtain ⟨h1,h2⟩:=List.nodup_cons.1 hn
  have hx:=h x (by simp)
  have:=ih (ys.erase x) h2 (fun y hy=>(List.mem_erase_of_ne (fun e=>h1 (by rw [← e];exact hy))).2 (h y (List.mem_cons_of_mem _ hy)))
  rw [List.length_erase_of_mem hx] at this
  have : 0 < ys.length:=List.length_pos_of_mem hx
  simp;omega
end

section
open Go.RowKit Go.Sort Go.Proofs Go.Lib
def cmpI (x y:Int):Int:=if x < y then -1 else if y < x then 1 else 0
def orC (c d:Int):Int:=if c=0 then d else c
def cfR (p q:RoI):Int:=orC (cmpI p.1 q.1) (cmpI p.2 q.2)
end

end Go.Proofs.YthogdfnaojijhaaGreat
