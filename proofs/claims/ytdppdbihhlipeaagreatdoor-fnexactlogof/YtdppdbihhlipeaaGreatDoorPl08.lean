/- Contracts. -/
import Derived.Test.YtdppdbihhlipeaaGreatDoorPl03
import Derived.Laws.AppendOwn
import Derived.Scope
import Derived.ScopeJumps
import Derived.WalkMore
namespace Go.Proofs.YtdppdbihhlipeaaGreatDoor
set_option maxRecDepth 100000
set_option maxHeartbeats 8000000
open Go.RowKit
set_option linter.unusedVariables false
set_option linter.unusedSimpArgs false

structure qC4 (lo hi:Nat) (P:World→Prop) (W:World):Prop where
 out:P W
 le:hi≤W.heap.size
 kept:∀ X X':World,P X→(∀ b,lo≤b→b < hi→X'.heap[b]? = X.heap[b]?)→P X'
theorem qC4.below {lo hi:Nat} {P:World→Prop} {W W':World} (h:qC4 lo hi P W) (hb:Below W.heap.size W W'):qC4 lo hi P W' :=
 ⟨h.kept _ _ h.out (fun b _ h2=>hb.block b (Nat.lt_of_lt_of_le h2 h.le)),Nat.le_trans h.le hb.size,h.kept⟩
theorem qC4.alloc {lo hi:Nat} {P:World→Prop} {W:World} (h:qC4 lo hi P W) (o:Obj):qC4 lo hi P (W.alloc o):=h.below (zN)
theorem qC4.drew {lo hi:Nat} {P:World→Prop} {W:World} (h:qC4 lo hi P W):qC4 lo hi P W.drew:=h.below (Below.refl _ _).drew
structure Chg (lo hi:Nat) (W W':World):Prop where
 below:∀ B,B≤lo→B≤W.heap.size→Below B W W'
 size:W.heap.size≤W'.heap.size
 block:∀ b,b < W.heap.size→(b < lo∨hi≤b)→W'.heap[b]? = W.heap[b]?
theorem Chg.grown {lo hi:Nat} {W W':World} {row:Option Nat} (hg:W.grownBy W' row) (h:∀ q,row=some q→lo≤q∧q < hi):Chg lo hi W W' :=
 ⟨fun B h1 h2=>(Below.refl _ _).grown hg h2 (fun q e=>Nat.le_trans h1 (h q e).1),hg.size,fun b h1 h2=>hg.block b h1 (fun e=>by have:=h b e.symm;omega)⟩
theorem Chg.calls {lo hi:Nat} {W W':World} (hb:Below W.heap.size W W'):Chg lo hi W W' :=
 ⟨fun B h1 h2=>hb.mono h2,hb.size,fun b h1 h2=>hb.block b h1⟩
theorem Chg.trans {lo hi:Nat} {A B C:World} (h:Chg lo hi A B) (k:Chg lo hi B C):Chg lo hi A C :=
 ⟨fun b h1 h2=>(h.below b h1 h2).trans (k.below b h1 (Nat.le_trans h2 h.size)),Nat.le_trans h.size k.size,fun b h1 h2=>(k.block b (Nat.lt_of_lt_of_le h1 h.size) h2).trans (h.block b h1 h2)⟩
theorem qC4.chg {lo hi l r:Nat} {P:World→Prop} {W W':World} (h:qC4 lo hi P W) (c:Chg l r W W') (d:hi≤l∨r≤lo):qC4 lo hi P W' :=
 ⟨h.kept _ _ h.out (fun b h1 h2=>c.block b (Nat.lt_of_lt_of_le h2 h.le) (by omega)),Nat.le_trans h.le c.size,h.kept⟩
theorem QO3 {B l r:Nat} {w W W':World} (h:Below B w W) (c:Chg l r W W') (h1:B≤l) (h2:B≤W.heap.size):Below B w W':=h.trans (c.below B h1 h2)
theorem qN1 {w:World} {base:Nat} {e:TypeId} {size:Nat} {v:Value} {n:Nat} {xs:List Value} (h:w.ownsRow base e size v n xs) {a:Addr} (ha:a.block < base) (u:Value):(w.setCell a u).ownsRow base e size v n xs:=by
 refine ⟨h.1,?_⟩
 rcases h.2 with q | ⟨g,cap,cur,e1,hg,hb,rest⟩
 ·exact .inl q
 ·exact .inr ⟨g,cap,cur,e1,hg,(Below.heap_setCell _ _ _ _ (by intro q;omega)).trans hb,rest⟩
def qE3 (b:Nat) (vs:List Value) (X:World):Prop:=∀ j v,vs[j]? = some v→X.cell? ⟨b,j,none⟩=some v
theorem qE3.hold {b:Nat} {vs:List Value} {W:World} (h:qE3 b vs W) (hb:b < W.heap.size):qC4 b (b+1) (qE3 b vs) W :=
 ⟨h,hb,fun X X' hX hk j v e=>(World.cell?_of_block (w:=X) (w':=X') (a:=⟨b,j,none⟩) (hk b (Nat.le_refl _) (by omega))).trans (hX j v e)⟩
theorem qD6 (W:World) (cs:Array Value) (t:TypeId):qC4 W.heap.size (W.heap.size+1) (qE3 W.heap.size cs.toList) (W.alloc (.cells cs t)):=by
 refine qE3.hold (fun j v e=>?_) (by simp)
 have h:(W.alloc (.cells cs t)).heap[W.heap.size]? = some (.cells cs t):=by show (W.heap.push _)[W.heap.size]? = _;simp
 unfold World.cell?
 simp only
 rw [h]
 simpa using e
def qI3 (b:Nat) (vs:List Value) (X:World):Prop:=qE3 b vs X∧(∀ j,X.frozen? ⟨b,j,none⟩=false)
theorem qI3.hold {b:Nat} {vs:List Value} {W:World} (h:qI3 b vs W) (hb:b < W.heap.size):qC4 b (b+1) (qI3 b vs) W :=
 ⟨h,hb,fun X X' hX hk=>⟨(qE3.hold h.1 hb).kept X X' hX.1 hk,fun j=>(World.frozen?_of_block (w:=X) (w':=X') (a:=⟨b,j,none⟩) (hk b (Nat.le_refl _) (by omega))).trans (hX.2 j)⟩⟩
theorem qI3.below {b:Nat} {vs:List Value} {W W':World} (h:qI3 b vs W) (hb:b < W.heap.size) (hw:Below W.heap.size W W'):qI3 b vs W':=((h.hold hb).below hw).out
theorem qG8 (W:World) (cs:Array Value) (t:TypeId):qI3 W.heap.size cs.toList (W.alloc (.cells cs t)) :=
 ⟨(qD6 W cs t).out,fun j=>by
  have h:(W.alloc (.cells cs t)).heap[W.heap.size]? = some (.cells cs t):=by show (W.heap.push _)[W.heap.size]? = _;simp
  unfold World.frozen?
  simp only
  rw [h]
  simp⟩
theorem qI3.put {b:Nat} {vs:List Value} {X:World} (h:qI3 b vs X) (j:Nat) (hj:j < vs.length) (v:Value):qI3 b (vs.set j v) (X.setCell ⟨b,j,none⟩ v):=by
 refine ⟨fun i u e=>?_,fun i=>by rw [World.frozen?_setCell];exact h.2 i⟩
 by_cases q:i=j
 ·subst q
  rw [List.getElem?_set_self hj] at e
  have hc:=h.1 i _ (List.getElem?_eq_getElem hj)
  cases e
  simp [go_sem,hc]
 ·rw [List.getElem?_set_ne (Ne.symm q)] at e
  rw [World.cell?_setCell_other (h:=fun e=>q (by have:=congrArg Addr.off e;simp at this;omega))]
  exact h.1 i u e
theorem qI3.other {b:Nat} {vs:List Value} {X:World} (h:qI3 b vs X) {p:Addr} (hp:p.block≠b) (v:Value):qI3 b vs (X.setCell p v):=by
 refine ⟨fun i u e=>?_,fun i=>by rw [World.frozen?_setCell];exact h.2 i⟩
 rw [World.cell?_setCell_other (h:=fun e=>hp (by rw [e]))]
 exact h.1 i u e
theorem qA4 {X X':World} {B:Nat} {t:TypeId} {sz:Nat} {v:Value} {n:Nat} {xs:List Value} (h:X.ownsRow B t sz v n xs) (hk:∀ g,v.ownBlock=some g→X'.heap[g]? = X.heap[g]?):X'.ownsRow B t sz v n xs:=by
 refine ⟨h.1,?_⟩
 rcases h.2 with q | ⟨g,cap,cur,e,hg,hb,rest⟩
 ·exact .inl q
 ·exact .inr ⟨g,cap,cur,e,hg,(hk g (by rw [e];rfl)).trans hb,rest⟩
theorem owns_hold {W:World} {B:Nat} {t:TypeId} {sz:Nat} {v:Value} {n:Nat} {xs:List Value} (h:W.ownsRow B t sz v n xs) (hi:Nat) (h1:∀ g,v.ownBlock=some g→g < hi) (h2:hi≤W.heap.size):qC4 B hi (fun X=>X.ownsRow B t sz v n xs) W :=
 ⟨h,h2,fun X X' hX hk=>qA4 hX (fun g e=>hk g (hX.lt g e).1 (h1 g e))⟩
theorem qV2 {W:World} {B:Nat} {t:TypeId} {sz:Nat} {v:Value} {n:Nat} {xs:List Value} (h:W.ownsRow B t sz v n xs):qC4 B W.heap.size (fun X=>X.ownsRow B t sz v n xs) W:=owns_hold h _ (fun g e=>(h.lt g e).2) (Nat.le_refl _)

section
open Go
def qU5 (J:Nat→Act→World→Prop) (Q:Exit→Act→World→Prop):Exit→Act→World→Prop
 | .goto l,a,w=>J l a w
 | e,a,w=>Q e a w
theorem wp_weaken {P:Program} {c:Code} {Q Q':Exit→Act→World→Prop} {a:Act} {w:World} (h:c.wp P Q a w) (hq:∀ e a w,Q e a w→Q' e a w):c.wp P Q' a w:=by
 intro b k cs
 obtain ⟨e,a',w',h1,h2⟩:=h b k cs
 exact ⟨e,a',w',hq e a' w' h1,h2⟩
theorem QJ6 {P:Program} {c:Code} {Q:Exit→Act→World→Prop} {a:Act} {w:World} (rest:Nat→Code) (J:Nat→Nat→Act→World→Prop) (hf:∀ l m a w,J l m a w→findLabel c l=some (rest l))
  (first:c.wp P (qU5 (fun l a' w'=>∃ m,J l m a' w') Q) a w)
  (pass:∀ l m a w,J l m a w→(rest l).wp P (qU5 (fun l' a' w'=>∃ m',m' < m∧J l' m' a' w') Q) a w):(Code.scope c).wp P Q a w:=by
 intro b k cs
 have again:∀ m l a w,J l m a w→∃ e a' w',Q e a' w'∧Arrives P (lone (b.at a (.code (rest l) :: .inScope c::k)) cs w) b k cs e a' w':=by
  intro m
  induction m using Nat.strongRecOn with
  | _ m ih =>
   intro l a w hJ
   obtain ⟨e,a1,w1,hq,har⟩:=pass l m a w hJ b (.inScope c::k) cs
   cases e with
   | goto l' =>
    obtain ⟨m',hlt,hJ'⟩:=hq
    obtain ⟨e2,a2,w2,hq2,har2⟩:=ih m' hlt l' a1 w1 hJ'
    have hg:gotoIn l' (.inScope c::k)=some (.code (rest l') :: .inScope c::k):=by simp [gotoIn,hf l' m' a1 w1 hJ']
    exact ⟨e2,a2,w2,hq2,.of_steps (har _ hg) har2⟩
   | normal=>exact ⟨.normal,a1,w1,hq,Steps.trans har (.one step_inScope)⟩
   | exit id=>exact ⟨.exit id,a1,w1,hq,fun k' hk=>har k' (by simp [exitTo,hk])⟩
   | ret=>exact ⟨_,a1,w1,hq,har⟩
   | panic ch=>exact ⟨_,a1,w1,hq,har⟩
   | outgrown=>exact ⟨_,a1,w1,hq,har⟩
 obtain ⟨e,a1,w1,hq,har⟩:=first b (.inScope c::k) cs
 cases e with
 | goto l =>
  obtain ⟨m,hJ⟩:=hq
  obtain ⟨e2,a2,w2,hq2,har2⟩:=again m l a1 w1 hJ
  have hg:gotoIn l (.inScope c::k)=some (.code (rest l) :: .inScope c::k):=by simp [gotoIn,hf l m a1 w1 hJ]
  exact ⟨e2,a2,w2,hq2,.of_steps (.head step_scope (har _ hg)) har2⟩
 | normal=>exact ⟨.normal,a1,w1,hq,.head step_scope (Steps.trans har (.one step_inScope))⟩
 | exit id=>exact ⟨.exit id,a1,w1,hq,fun k' hk => .head step_scope (har k' (by simp [exitTo,hk]))⟩
 | ret=>exact ⟨_,a1,w1,hq,.of_steps (.one step_scope) har⟩
 | panic ch=>exact ⟨_,a1,w1,hq,.of_steps (.one step_scope) har⟩
 | outgrown=>exact ⟨_,a1,w1,hq,.of_steps (.one step_scope) har⟩
theorem jumps_weaken {J:Nat→Act→World→Prop} {J':Nat→Act→World→Prop} {Q:Exit→Act→World→Prop} (h:∀ l a w,J l a w→J' l a w):∀ e a w,qU5 J Q e a w→qU5 J' Q e a w
 | .goto l,a,w,q=>h l a w q
 | .normal,_,_,q=>q
 | .exit _,_,_,q=>q
 | .ret,_,_,q=>q
 | .panic _,_,_,q=>q
 | .outgrown,_,_,q=>q
def two (x y:Code):Nat→Code
 | 0=>x
 | _=>y
theorem QY2 {P:Program} {c r0 r1:Code} {Q:Exit→Act→World→Prop} {a:Act} {w:World} (J:Nat→Nat→Act→World→Prop) (hf0:findLabel c 0=some (Code.seq .skip r0)) (hf1:findLabel c 1=some (Code.seq .skip r1)) (hJ:∀ l m a w,J l m a w→l=0∨l=1)
  (first:(∀ m a w,J 0 m a w→r0.wp P (qU5 (fun l' a' w'=>∃ m',m' < m∧J l' m' a' w') Q) a w)→c.wp P (qU5 (fun l a' w'=>∃ m,J l m a' w') Q) a w)
  (core0:∀ m a w,J 0 m a w→r0.wp P (qU5 (fun l' a' w'=>∃ m',m' < m∧J l' m' a' w') Q) a w)
  (core1:∀ m a w,J 1 m a w→r1.wp P (qU5 (fun l' a' w'=>∃ m',m' < m∧J l' m' a' w') Q) a w):(Code.scope c).wp P Q a w:=by
 refine QJ6 (two (Code.seq .skip r0) (Code.seq .skip r1)) J ?_ (first core0) ?_
 ·intro l m a w h
  rcases hJ l m a w h with rfl | rfl
  ·exact hf0
  ·exact hf1
 ·intro l m a w h
  rcases hJ l m a w h with rfl | rfl
  ·exact wp_seq (wp_skip (core0 m a w h))
  ·exact wp_seq (wp_skip (core1 m a w h))
end

end Go.Proofs.YtdppdbihhlipeaaGreatDoor
