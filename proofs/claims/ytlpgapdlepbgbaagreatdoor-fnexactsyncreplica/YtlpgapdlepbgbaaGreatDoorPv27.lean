/- Contracts. -/
import Derived.Test.YtlpgapdlepbgbaaGreatDoorRows
import Derived.OpenVars
import Derived.Stop.LaidErr
import Derived.LaidLaws
import Derived.Scope
import Derived.ScopeJumps
import Derived.WalkMore
import Derived.Test.YtlpgapdlepbgbaaGreatDoorPv26
import Derived.Shelf.SlMaps.Clone
import Derived.Test.YtlpgapdlepbgbaaGreatDoorPv19
import Derived.Shelf.SlSortCmp.WholeK
import Derived.Sort.OwnSorted
import Derived.Laws.AppendOwn
namespace Go.Proofs.YtlpgapdlepbgbaaGreatDoor
set_option maxRecDepth 100000
set_option maxHeartbeats 8000000
open Go.RowKit
set_option linter.unusedVariables false
set_option linter.unusedSimpArgs false

section
open Go.ChangeShapes Go.WideShapes Go.RowKit
def qN5 (g:Nat) (w:World):Prop:=∃ a:Addr,w.cell? ⟨g,0,none⟩=some (.iface 307 (.pointer (some a)))
theorem qN5.below {g:Nat} {w w':World} (h:qN5 g w) (hb:Below w.heap.size w w'):qN5 g w':=by
 obtain ⟨a,h⟩:=h
 exact ⟨a,(hb.cell (p:=⟨g,0,none⟩) (zL w ⟨g,0,none⟩ h)).trans h⟩
theorem Tryz.cellsES:Tryz.prog.cellsOf 331=1:=by kernel_rfl
theorem Tryz.cellsStr:Tryz.prog.cellsOf 9=1:=by kernel_rfl
theorem starES : "*" ++ "errors.errorString" = "*errors.errorString" := by decide
theorem Tryz.rowES (u:TypeId) (h:Tryz.prog.typeName? 3 u=some "*errors.errorString"):u=307 :=
 typeName_ptr_named (nm := "errors.errorString") (by rw [starES];kernel_rfl) (by kernel_rfl) (by decide) u (by rw [starES];exact h)
theorem vars_one {H:Type} {enc:TypeId × Value → H} {P:Program} {w:World} {sp:Nat → Bool} {n:String} {gs:List (DataW H)} {ps:List MemPlace} (h:DataW.TrodVars enc P w sp [n] gs ps):∃ g,gs=[g]:=by
 rcases gs with _ | ⟨g,_ | ⟨g2,r⟩⟩
 ·exact h.elim
 ·exact ⟨g,rfl⟩
 ·obtain ⟨_,_,_,_,_,_,_,_,_,_,hs,_⟩:=h
  exact hs.elim
end

section
open Go
def qU0 (J:Nat → Act → World → Prop) (Q:Exit → Act → World → Prop):Exit → Act → World → Prop
 | .goto l,a,w=>J l a w
 | e,a,w=>Q e a w
theorem wp_weaken {P:Program} {c:Code} {Q Q':Exit → Act → World → Prop} {a:Act} {w:World} (h:c.wp P Q a w) (hq:∀ e a w,Q e a w → Q' e a w):c.wp P Q' a w:=by
 intro b k cs
 obtain ⟨e,a',w',h1,h2⟩:=h b k cs
 exact ⟨e,a',w',hq e a' w' h1,h2⟩
theorem QI4 {P:Program} {c:Code} {Q:Exit → Act → World → Prop} {a:Act} {w:World} (rest:Nat → Code) (J:Nat → Nat → Act → World → Prop) (hf:∀ l m a w,J l m a w → findLabel c l=some (rest l))
  (first:c.wp P (qU0 (fun l a' w'=>∃ m,J l m a' w') Q) a w)
  (pass:∀ l m a w,J l m a w → (rest l).wp P (qU0 (fun l' a' w'=>∃ m',m' < m∧J l' m' a' w') Q) a w):(Code.scope c).wp P Q a w:=by
 intro b k cs
 have again:∀ m l a w,J l m a w → ∃ e a' w',Q e a' w'∧Arrives P (lone (b.at a (.code (rest l) :: .inScope c :: k)) cs w) b k cs e a' w':=by
  intro m
  induction m using Nat.strongRecOn with
  | _ m ih =>
   intro l a w hJ
   obtain ⟨e,a1,w1,hq,har⟩:=pass l m a w hJ b (.inScope c :: k) cs
   cases e with
   | goto l' =>
    obtain ⟨m',hlt,hJ'⟩:=hq
    obtain ⟨e2,a2,w2,hq2,har2⟩:=ih m' hlt l' a1 w1 hJ'
    have hg:gotoIn l' (.inScope c :: k)=some (.code (rest l') :: .inScope c :: k):=by simp [gotoIn,hf l' m' a1 w1 hJ']
    exact ⟨e2,a2,w2,hq2,.of_steps (har _ hg) har2⟩
   | normal=>exact ⟨.normal,a1,w1,hq,Steps.trans har (.one step_inScope)⟩
   | exit id=>exact ⟨.exit id,a1,w1,hq,fun k' hk=>har k' (by simp [exitTo,hk])⟩
   | ret=>exact ⟨_,a1,w1,hq,har⟩
   | panic ch=>exact ⟨_,a1,w1,hq,har⟩
   | outgrown=>exact ⟨_,a1,w1,hq,har⟩
 obtain ⟨e,a1,w1,hq,har⟩:=first b (.inScope c :: k) cs
 cases e with
 | goto l =>
  obtain ⟨m,hJ⟩:=hq
  obtain ⟨e2,a2,w2,hq2,har2⟩:=again m l a1 w1 hJ
  have hg:gotoIn l (.inScope c :: k)=some (.code (rest l) :: .inScope c :: k):=by simp [gotoIn,hf l m a1 w1 hJ]
  exact ⟨e2,a2,w2,hq2,.of_steps (.head step_scope (har _ hg)) har2⟩
 | normal=>exact ⟨.normal,a1,w1,hq,.head step_scope (Steps.trans har (.one step_inScope))⟩
 | exit id=>exact ⟨.exit id,a1,w1,hq,fun k' hk => .head step_scope (har k' (by simp [exitTo,hk]))⟩
 | ret=>exact ⟨_,a1,w1,hq,.of_steps (.one step_scope) har⟩
 | panic ch=>exact ⟨_,a1,w1,hq,.of_steps (.one step_scope) har⟩
 | outgrown=>exact ⟨_,a1,w1,hq,.of_steps (.one step_scope) har⟩
theorem QZ1 {J:Nat → Act → World → Prop} {J':Nat → Act → World → Prop} {Q:Exit → Act → World → Prop} (h:∀ l a w,J l a w → J' l a w):∀ e a w,qU0 J Q e a w → qU0 J' Q e a w
 | .goto l,a,w,q=>h l a w q
 | .normal,_,_,q=>q
 | .exit _,_,_,q=>q
 | .ret,_,_,q=>q
 | .panic _,_,_,q=>q
 | .outgrown,_,_,q=>q
def two (x y:Code):Nat → Code
 | 0=>x
 | _=>y
theorem QW1 {P:Program} {c r0 r1:Code} {Q:Exit → Act → World → Prop} {a:Act} {w:World} (J:Nat → Nat → Act → World → Prop) (hf0:findLabel c 0=some (Code.seq .skip r0)) (hf1:findLabel c 1=some (Code.seq .skip r1)) (hJ:∀ l m a w,J l m a w → l=0 ∨ l=1)
  (first:(∀ m a w,J 0 m a w → r0.wp P (qU0 (fun l' a' w'=>∃ m',m' < m∧J l' m' a' w') Q) a w) → c.wp P (qU0 (fun l a' w'=>∃ m,J l m a' w') Q) a w)
  (core0:∀ m a w,J 0 m a w → r0.wp P (qU0 (fun l' a' w'=>∃ m',m' < m∧J l' m' a' w') Q) a w)
  (core1:∀ m a w,J 1 m a w → r1.wp P (qU0 (fun l' a' w'=>∃ m',m' < m∧J l' m' a' w') Q) a w):(Code.scope c).wp P Q a w:=by
 refine QI4 (two (Code.seq .skip r0) (Code.seq .skip r1)) J ?_ (first core0) ?_
 ·intro l m a w h
  rcases hJ l m a w h with rfl | rfl
  ·exact hf0
  ·exact hf1
 ·intro l m a w h
  rcases hJ l m a w h with rfl | rfl
  ·exact wp_seq (wp_skip (core0 m a w h))
  ·exact wp_seq (wp_skip (core1 m a w h))
end

section
open Go.RowKit Go.Maps Go.Proofs
theorem told_c (b:Nat) (f:RoI → Int) (r:qA0) (w:World) (h:GM w b f) (hc:qA7 r=0) :
  Calls Tryz.prog 200 #[.map (some b),.agg #[.int .i64 r.k,.int .i64 r.ho,.int .i64 r.hn,.int .i64 r.w,.int .i64 r.oo,.int .i64 r.on,.int .i64 r.to,.int .i64 r.tn]] w fun e w'=>e = .returned (.int .u8 (byF f r))∧Below w.heap.size w w':=by
 have hk:=qW2 hc
 have h4:r.k=1 ∨ r.k=2 ∨ r.k=3 ∨ r.k=4:=by omega
 rcases h4 with e | e | e | e
 ·exact told_1 b f r w h hc e
 ·exact told_2 b f r w h hc e
 ·exact told_3 b f r w h hc e
 ·exact told_4 b f r w h hc e
theorem Below.turn {B:Nat} {w w1 w2:World} {b:Nat} (h:Below B w w1) (hB:B≤w1.heap.size) (hb:B≤b) (hg:w1.grownBy w2 (some b)):Below B w w2:=h.grown hg hB (fun k e=>by cases e;exact hb)
end

section
open Go.RowKit Go.Sort Go.Proofs Go.Lib
def cmpI (x y:Int):Int:=if x < y then -1 else if y < x then 1 else 0
def orC (c d:Int):Int:=if c=0 then d else c
def cfR (p q:RoI):Int:=orC (cmpI p.1 q.1) (cmpI p.2 q.2)
end

structure qB9 (lo hi:Nat) (P:World → Prop) (W:World):Prop where
 out:P W
 le:hi≤W.heap.size
 kept:∀ X X':World,P X → (∀ b,lo≤b → b < hi → X'.heap[b]? = X.heap[b]?) → P X'
theorem qB9.below {lo hi:Nat} {P:World → Prop} {W W':World} (h:qB9 lo hi P W) (hb:Below W.heap.size W W'):qB9 lo hi P W' :=
 ⟨h.kept _ _ h.out (fun b _ h2=>hb.block b (Nat.lt_of_lt_of_le h2 h.le)),Nat.le_trans h.le hb.size,h.kept⟩
structure Chg (lo hi:Nat) (W W':World):Prop where
 below:∀ B,B≤lo → B≤W.heap.size → Below B W W'
 size:W.heap.size≤W'.heap.size
 block:∀ b,b < W.heap.size → (b < lo ∨ hi≤b) → W'.heap[b]? = W.heap[b]?
theorem Chg.grown {lo hi:Nat} {W W':World} {row:Option Nat} (hg:W.grownBy W' row) (h:∀ q,row=some q → lo≤q∧q < hi):Chg lo hi W W' :=
 ⟨fun B h1 h2=>(Below.refl _ _).grown hg h2 (fun q e=>Nat.le_trans h1 (h q e).1),hg.size,fun b h1 h2=>hg.block b h1 (fun e=>by have:=h b e.symm;omega)⟩
theorem Chg.calls {lo hi:Nat} {W W':World} (hb:Below W.heap.size W W'):Chg lo hi W W' :=
 ⟨fun B h1 h2=>hb.mono h2,hb.size,fun b h1 h2=>hb.block b h1⟩
theorem Chg.trans {lo hi:Nat} {A B C:World} (h:Chg lo hi A B) (k:Chg lo hi B C):Chg lo hi A C :=
 ⟨fun b h1 h2=>(h.below b h1 h2).trans (k.below b h1 (Nat.le_trans h2 h.size)),Nat.le_trans h.size k.size,fun b h1 h2=>(k.block b (Nat.lt_of_lt_of_le h1 h.size) h2).trans (h.block b h1 h2)⟩
theorem qB9.chg {lo hi l r:Nat} {P:World → Prop} {W W':World} (h:qB9 lo hi P W) (c:Chg l r W W') (d:hi≤l ∨ r≤lo):qB9 lo hi P W' :=
 ⟨h.kept _ _ h.out (fun b h1 h2=>c.block b (Nat.lt_of_lt_of_le h2 h.le) (by omega)),Nat.le_trans h.le c.size,h.kept⟩
theorem QM8 {B l r:Nat} {w W W':World} (h:Below B w W) (c:Chg l r W W') (h1:B≤l) (h2:B≤W.heap.size):Below B w W':=h.trans (c.below B h1 h2)
def qE5 (b:Nat) (vs:List Value) (X:World):Prop:=∀ j v,vs[j]? = some v → X.cell? ⟨b,j,none⟩=some v
theorem qE5.hold {b:Nat} {vs:List Value} {W:World} (h:qE5 b vs W) (hb:b < W.heap.size):qB9 b (b+1) (qE5 b vs) W :=
 ⟨h,hb,fun X X' hX hk j v e=>(World.cell?_of_block (w:=X) (w':=X') (a:=⟨b,j,none⟩) (hk b (Nat.le_refl _) (by omega))).trans (hX j v e)⟩
theorem qE2 (W:World) (cs:Array Value) (t:TypeId):qB9 W.heap.size (W.heap.size+1) (qE5 W.heap.size cs.toList) (W.alloc (.cells cs t)):=by
 refine qE5.hold (fun j v e=>?_) (by simp)
 have h:(W.alloc (.cells cs t)).heap[W.heap.size]? = some (.cells cs t):=by show (W.heap.push _)[W.heap.size]? = _;simp
 unfold World.cell?
 simp only
 rw [h]
 simpa using e
def qI6 (b:Nat) (vs:List Value) (X:World):Prop:=qE5 b vs X∧(∀ j,X.frozen? ⟨b,j,none⟩=false)
theorem qI6.hold {b:Nat} {vs:List Value} {W:World} (h:qI6 b vs W) (hb:b < W.heap.size):qB9 b (b+1) (qI6 b vs) W :=
 ⟨h,hb,fun X X' hX hk=>⟨(qE5.hold h.1 hb).kept X X' hX.1 hk,fun j=>(World.frozen?_of_block (w:=X) (w':=X') (a:=⟨b,j,none⟩) (hk b (Nat.le_refl _) (by omega))).trans (hX.2 j)⟩⟩
theorem qI6.below {b:Nat} {vs:List Value} {W W':World} (h:qI6 b vs W) (hb:b < W.heap.size) (hw:Below W.heap.size W W'):qI6 b vs W':=((h.hold hb).below hw).out
theorem qH4 (W:World) (cs:Array Value) (t:TypeId):qI6 W.heap.size cs.toList (W.alloc (.cells cs t)) :=
 ⟨(qE2 W cs t).out,fun j=>by
  have h:(W.alloc (.cells cs t)).heap[W.heap.size]? = some (.cells cs t):=by show (W.heap.push _)[W.heap.size]? = _;simp
  unfold World.frozen?
  simp only
  rw [h]
  simp⟩
theorem qI6.put {b:Nat} {vs:List Value} {X:World} (h:qI6 b vs X) (j:Nat) (hj:j < vs.length) (v:Value):qI6 b (vs.set j v) (X.setCell ⟨b,j,none⟩ v):=by
 refine ⟨fun i u e=>?_,fun i=>by rw [World.frozen?_setCell];exact h.2 i⟩
 by_cases q:i=j
 ·subst q
  rw [List.getElem?_set_self hj] at e
  have hc:=h.1 i _ (List.getElem?_eq_getElem hj)
  cases e
  simp [go_sem,hc]
 ·rw [List.getElem?_set_ne (Ne.symm q)] at e
  rw [World.cell?_setCell_other (h:=fun e=>q (by have:=congrArg Addr.off e;simp at this;omega))]
  exact h.1 i u e
theorem qI6.other {b:Nat} {vs:List Value} {X:World} (h:qI6 b vs X) {p:Addr} (hp:p.block ≠ b) (v:Value):qI6 b vs (X.setCell p v):=by
 refine ⟨fun i u e=>?_,fun i=>by rw [World.frozen?_setCell];exact h.2 i⟩
 rw [World.cell?_setCell_other (h:=fun e=>hp (by rw [e]))]
 exact h.1 i u e
theorem qA3 {X X':World} {B:Nat} {t:TypeId} {sz:Nat} {v:Value} {n:Nat} {xs:List Value} (h:X.ownsRow B t sz v n xs) (hk:∀ g,v.ownBlock=some g → X'.heap[g]? = X.heap[g]?):X'.ownsRow B t sz v n xs:=by
 refine ⟨h.1,?_⟩
 rcases h.2 with q | ⟨g,cap,cur,e,hg,hb,rest⟩
 ·exact .inl q
 ·exact .inr ⟨g,cap,cur,e,hg,(hk g (by rw [e];rfl)).trans hb,rest⟩
theorem QJ8 {W:World} {B:Nat} {t:TypeId} {sz:Nat} {v:Value} {n:Nat} {xs:List Value} (h:W.ownsRow B t sz v n xs) (hi:Nat) (h1:∀ g,v.ownBlock=some g → g < hi) (h2:hi≤W.heap.size):qB9 B hi (fun X=>X.ownsRow B t sz v n xs) W :=
 ⟨h,h2,fun X X' hX hk=>qA3 hX (fun g e=>hk g (hX.lt g e).1 (h1 g e))⟩
theorem qR0 {W:World} {B:Nat} {t:TypeId} {sz:Nat} {v:Value} {n:Nat} {xs:List Value} (h:W.ownsRow B t sz v n xs):qB9 B W.heap.size (fun X=>X.ownsRow B t sz v n xs) W:=QJ8 h _ (fun g e=>(h.lt g e).2) (Nat.le_refl _)

end Go.Proofs.YtlpgapdlepbgbaaGreatDoor
