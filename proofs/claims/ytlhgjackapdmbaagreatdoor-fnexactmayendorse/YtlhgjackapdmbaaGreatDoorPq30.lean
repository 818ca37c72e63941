/- Contracts. -/
import Derived.Test.YtlhgjackapdmbaaGreatDoorRows
import Derived.OpenVars
import Derived.Stop.LaidErr
import Derived.LaidLaws
import Derived.Test.YtlhgjackapdmbaaGreatDoorPq02
import Derived.Test.YtlhgjackapdmbaaGreatDoorPq04
import Derived.Laws.AppendOwn
namespace Go.Proofs.YtlhgjackapdmbaaGreatDoor
set_option maxRecDepth 100000
set_option maxHeartbeats 8000000
open Go.RowKit
set_option linter.unusedVariables false
set_option linter.unusedSimpArgs false

section
open Go.ChangeShapes Go.WideShapes Go.RowKit
def qM7 (g:Nat) (w:World):Prop:=∃ a:Addr,w.cell? ⟨g,0,none⟩=some (.iface 308 (.pointer (some a)))
theorem qM7.below {g:Nat} {w w':World} (h:qM7 g w) (hb:Below w.heap.size w w'):qM7 g w':=by
 obtain ⟨a,h⟩:=h
 exact ⟨a,(hb.cell (p:=⟨g,0,none⟩) (zL w ⟨g,0,none⟩ h)).trans h⟩
theorem Tryz.cellsES:Tryz.prog.cellsOf 332=1:=by kernel_rfl
theorem Tryz.cellsStr:Tryz.prog.cellsOf 9=1:=by kernel_rfl
theorem starES : "*" ++ "errors.errorString" = "*errors.errorString" := by decide
theorem Tryz.rowES (u:TypeId) (h:Tryz.prog.typeName? 3 u=some "*errors.errorString"):u=308 :=
 typeName_ptr_named (nm := "errors.errorString") (by rw [starES];kernel_rfl) (by kernel_rfl) (by decide) u (by rw [starES];exact h)
theorem vars_one {H:Type} {enc:TypeId × Value→H} {P:Program} {w:World} {sp:Nat→Bool} {n:String} {gs:List (DataW H)} {ps:List MemPlace} (h:DataW.TrodVars enc P w sp [n] gs ps):∃ g,gs=[g]:=by
 rcases gs with _ | ⟨g,_ | ⟨g2,r⟩⟩
 ·exact h.elim
 ·exact ⟨g,rfl⟩
 ·obtain ⟨_,_,_,_,_,_,_,_,_,_,hs,_⟩:=h
  exact hs.elim
end

structure Hold (lo hi:Nat) (P:World→Prop) (W:World):Prop where
 out:P W
 le:hi≤W.heap.size
 kept:∀ X X':World,P X→(∀ b,lo≤b→b < hi→X'.heap[b]? = X.heap[b]?)→P X'
theorem Hold.below {lo hi:Nat} {P:World→Prop} {W W':World} (h:Hold lo hi P W) (hb:Below W.heap.size W W'):Hold lo hi P W' :=
 ⟨h.kept _ _ h.out (fun b _ h2=>hb.block b (Nat.lt_of_lt_of_le h2 h.le)),Nat.le_trans h.le hb.size,h.kept⟩
theorem Hold.alloc {lo hi:Nat} {P:World→Prop} {W:World} (h:Hold lo hi P W) (o:Obj):Hold lo hi P (W.alloc o):=h.below (zN)
def qU8 (b:Nat) (vs:List Value) (X:World):Prop:=∀ j v,vs[j]? = some v→X.cell? ⟨b,j,none⟩=some v
theorem qU8.hold {b:Nat} {vs:List Value} {W:World} (h:qU8 b vs W) (hb:b < W.heap.size):Hold b (b+1) (qU8 b vs) W :=
 ⟨h,hb,fun X X' hX hk j v e=>(World.cell?_of_block (w:=X) (w':=X') (a:=⟨b,j,none⟩) (hk b (Nat.le_refl _) (by omega))).trans (hX j v e)⟩
theorem qE5 (W:World) (cs:Array Value) (t:TypeId):Hold W.heap.size (W.heap.size+1) (qU8 W.heap.size cs.toList) (W.alloc (.cells cs t)):=by
 refine qU8.hold (fun j v e=>?_) (by simp)
 have h:(W.alloc (.cells cs t)).heap[W.heap.size]? = some (.cells cs t):=by show (W.heap.push _)[W.heap.size]? = _;simp
 unfold World.cell?
 simp only
 rw [h]
 simpa using e
def qI3 (b:Nat) (vs:List Value) (X:World):Prop:=qU8 b vs X∧(∀ j,X.frozen? ⟨b,j,none⟩=false)
theorem qI3.hold {b:Nat} {vs:List Value} {W:World} (h:qI3 b vs W) (hb:b < W.heap.size):Hold b (b+1) (qI3 b vs) W :=
 ⟨h,hb,fun X X' hX hk=>⟨(qU8.hold h.1 hb).kept X X' hX.1 hk,fun j=>(World.frozen?_of_block (w:=X) (w':=X') (a:=⟨b,j,none⟩) (hk b (Nat.le_refl _) (by omega))).trans (hX.2 j)⟩⟩
theorem qI3.below {b:Nat} {vs:List Value} {W W':World} (h:qI3 b vs W) (hb:b < W.heap.size) (hw:Below W.heap.size W W'):qI3 b vs W':=((h.hold hb).below hw).out
theorem qI2 (W:World) (cs:Array Value) (t:TypeId):qI3 W.heap.size cs.toList (W.alloc (.cells cs t)) :=
 ⟨(qE5 W cs t).out,fun j=>by
  have h:(W.alloc (.cells cs t)).heap[W.heap.size]? = some (.cells cs t):=by show (W.heap.push _)[W.heap.size]? = _;simp
  unfold World.frozen?
  simp only
  rw [h]
  simp⟩
theorem qI3.put {b:Nat} {vs:List Value} {X:World} (h:qI3 b vs X) (j:Nat) (hj:j < vs.length) (v:Value):qI3 b (vs.set j v) (X.setCell ⟨b,j,none⟩ v):=by
 refine ⟨fun i u e=>?_,fun i=>by rw [World.frozen?_setCell];exact h.2 i⟩
 by_cases q:i=j
 ·subst q
  rw [List.getElem?_set_self hj] at e
  have hc:=h.1 i _ (List.getElem?_eq_getElem hj)
  cases e
  simp [go_sem,hc]
 ·rw [List.getElem?_set_ne (Ne.symm q)] at e
  rw [World.cell?_setCell_other (h:=fun e=>q (by have:=congrArg Addr.off e;simp at this;omega))]
  exact h.1 i u e
theorem qI3.other {b:Nat} {vs:List Value} {X:World} (h:qI3 b vs X) {p:Addr} (hp:p.block≠b) (v:Value):qI3 b vs (X.setCell p v):=by
 refine ⟨fun i u e=>?_,fun i=>by rw [World.frozen?_setCell];exact h.2 i⟩
 rw [World.cell?_setCell_other (h:=fun e=>hp (by rw [e]))]
 exact h.1 i u e
theorem qA3 {X X':World} {B:Nat} {t:TypeId} {sz:Nat} {v:Value} {n:Nat} {xs:List Value} (h:X.ownsRow B t sz v n xs) (hk:∀ g,v.ownBlock=some g→X'.heap[g]? = X.heap[g]?):X'.ownsRow B t sz v n xs:=by
 refine ⟨h.1,?_⟩
 rcases h.2 with q | ⟨g,cap,cur,e,hg,hb,rest⟩
 ·exact .inl q
 ·exact .inr ⟨g,cap,cur,e,hg,(hk g (by rw [e];rfl)).trans hb,rest⟩

end Go.Proofs.YtlhgjackapdmbaaGreatDoor
