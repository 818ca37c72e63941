/- Contracts. -/
import Derived.Test.YthogdfnaojijhaaGreatPa06
import Derived.Test.YthogdfnaojijhaaGreatPa04
import Derived.Deep.DeepCutAuto
import Derived.Deep.CutBlock
namespace Go.Proofs.YthogdfnaojijhaaGreat
set_option maxRecDepth 100000
set_option maxHeartbeats 8000000
open Go.RowKit
set_option linter.unusedVariables false
set_option linter.unusedSimpArgs false

section
def GrAt (w:World) (b o:Nat) (x:GrI):Prop:=w.cell? ⟨b,o,none⟩=some (.int .i64 x.1.1)∧w.cell? ⟨b,o+1,none⟩=some (.int .i64 x.1.2)∧w.cell? ⟨b,o+2,none⟩=some (.int .i64 x.2)
theorem GrAt.below {w w':World} {B b o:Nat} {x:GrI} (h:GrAt w b o x) (hb:Below B w w') (hB:b < B):GrAt w' b o x :=
 ⟨(hb.cell (p:=⟨b,o,none⟩) hB).trans h.1,(hb.cell (p:=⟨b,o+1,none⟩) hB).trans h.2.1,(hb.cell (p:=⟨b,o+2,none⟩) hB).trans h.2.2⟩
def qS7 (w:World) (a:Option Addr) (n:Nat) (gs:List GrI):Prop:=gs.length=n∧(0 < n→∃ b off,a=some ⟨b,off,none⟩∧∀ k x,gs[k]? = some x→GrAt w b (off+k * 3) x)
theorem qS7.below {w w':World} {a:Option Addr} {n:Nat} {gs:List GrI} (h:qS7 w a n gs) (hb:Below w.heap.size w w'):qS7 w' a n gs:=by
 refine ⟨h.1,fun hn=>?_⟩
 obtain ⟨b,off,e,k⟩:=h.2 hn
 exact ⟨b,off,e,fun j x hx=>(k j x hx).below hb (zL w ⟨b,off+j * 3,none⟩ (k j x hx).1)⟩
theorem qS7.at {w:World} {a:Option Addr} {n:Nat} {gs:List GrI} (h:qS7 w a n gs) {k:Nat} (hk:k < n):∃ b off x,a=some ⟨b,off,none⟩∧gs[k]? = some x∧GrAt w b (off+k * 3) x∧b < w.heap.size:=by
 obtain ⟨b,off,e,q⟩:=h.2 (by omega)
 have hx:=List.getElem?_eq_getElem (l:=gs) (i:=k) (by rw [h.1];exact hk)
 exact ⟨b,off,_,e,hx,q k _ hx,zL w ⟨b,off+k * 3,none⟩ (q k _ hx).1⟩
theorem QV3 {gs:List GrI} {k:Nat} {x:GrI} (h:gs[k]? = some x) (r:RoI):ofG (gs.drop k) r=if x.1=r then x.2 else ofG (gs.drop (k+1)) r:=by
 have hk:k < gs.length:=by
  by_cases q:k < gs.length
  ·exact q
  ·rw [List.getElem?_eq_none (by omega)] at h;cases h
 have e:gs[k]=x:=by rw [List.getElem?_eq_getElem hk] at h;exact Option.some.inj h
 rw [List.drop_eq_getElem_cons hk,e]
 rfl
def eqRo (p q:RoI):Bool:=p.1==q.1&&p.2==q.2
theorem qM1 (p q:RoI):eqRo p q=true↔p=q:=by
 obtain ⟨a,b⟩:=p
 obtain ⟨c,d⟩:=q
 simp [eqRo]
theorem QU6 (p q:RoI) (w:World):(binOp .eql 147 (.agg #[.int .i64 p.1,.int .i64 p.2]) (.agg #[.int .i64 q.1,.int .i64 q.2])).run Tryz.prog w = .ok (.bool (eqRo p q)) w:=by
 obtain ⟨a0,a1⟩:=p
 obtain ⟨b0,b1⟩:=q
 simp only [eqRo]
 cases e0:(a0==b0)
 ·simp [go_sem,e0]
 cases e1:(a1==b1)
 ·simp [go_sem,e0,e1]
 ·simp [go_sem,e0,e1]
attribute [local go_sem ↓] QU6
theorem qZ6 (a:Option Addr) (n c:Nat) (gs:List GrI) (r:RoI) (w:World) (hg:qS7 w a n gs) (hn:n≤1048576) :
  Calls Tryz.prog 129 #[.slice a n c,.agg #[.int .i64 r.1,.int .i64 r.2]] w fun e w'=>e = .returned (.int .i64 (ofG gs r))∧Below w.heap.size w w':=by
 have W0:Hid (qS7 (w.alloc (.cells #[.int .i64 r.1,.int .i64 r.2] 147)) a n gs):=hg.below (zN)
 have R0:Hid ((w.alloc (.cells #[.int .i64 r.1,.int .i64 r.2] 147)).cell? ⟨w.heap.size,0,none⟩=some (.int .i64 r.1)∧(w.alloc (.cells #[.int .i64 r.1,.int .i64 r.2] 147)).cell? ⟨w.heap.size,1,none⟩=some (.int .i64 r.2)):=⟨by simp,by simp⟩
 clear hg
 have hn':(n:Int)≤1048576:=by omega
 go_enter Tryz.func129,Tryz.ntmps129
 go_wp2
 go_loopw [5] (fun i wr=>∃ k:Nat,k≤n∧i = .int .i64 (k:Int)∧ofG gs r=ofG (gs.drop k) r∧∃ m,wr=(w.alloc (.cells #[.int .i64 r.1,.int .i64 r.2] 147)).drewN m) (fun i _=>n - (intOf i).toNat)
 case atStart=>exact ⟨0,Nat.zero_le _,rfl,rfl,0,rfl⟩
 case round =>
  obtain ⟨k,hk,rfl,hof,m,rfl⟩:=hrel
  have HF:Hid (ofG gs r=ofG (gs.drop k) r):=hof
  clear hof
  by_cases hlt:k < n
  ·obtain ⟨b,off,x,e,hx,⟨c0,c1,c2⟩,hbl⟩:=W0.out.at hlt
   obtain ⟨r0,r1⟩:=R0.out
   subst e
   have HX:Hid (gs[k]? = some x):=hx
   clear hx
   have hlt':(k:Int) < (n:Int):=by omega
   cases he:eqRo x.1 r
   ·have HE:Hid (ofG gs r=ofG (gs.drop (k+1)) r):=by
     show ofG gs r=_
     rw [HF.out,QV3 HX.out,if_neg (fun q=>by rw [(qM1 _ _).2 q] at he;cases he)]
    go_wp2
    go_quiet (fail)
    go_wp2
    exact ⟨⟨k+1,by omega,by go_num,HE.out,_,rfl⟩,by simp [intOf];omega⟩
   ·have HE:Hid (ofG gs r=x.2):=by
     show ofG gs r=_
     rw [HF.out,QV3 HX.out,if_pos ((qM1 _ _).1 he)]
    go_wp2
    go_quiet (fail)
    go_wp2
    go_ret
    exact ⟨by rw [HE.out];rfl,bdN (zN) _⟩
  ·have hkn:k=n:=by omega
   subst hkn
   go_wp2
   go_ret
   have : ofG gs r=0:=by rw [HF.out,List.drop_eq_nil_of_le (by rw [W0.out.1];exact Nat.le_refl _)];rfl
   exact ⟨by rw [this];rfl,bdN (zN) _⟩
end

structure ShI where
 r:Int
 k:Int
 e:Int
 f:Int
 s:Int
 n:Int
deriving DecidableEq,Inhabited
def QC1 (w:World) (b o:Nat) (x:ShI):Prop:=w.cell? ⟨b,o,none⟩=some (.int .i64 x.r)∧w.cell? ⟨b,o+1,none⟩=some (.int .i64 x.k)∧w.cell? ⟨b,o+2,none⟩=some (.int .i64 x.e)∧w.cell? ⟨b,o+3,none⟩=some (.int .i64 x.f)∧w.cell? ⟨b,o+4,none⟩=some (.int .i64 x.s)∧w.cell? ⟨b,o+5,none⟩=some (.int .i64 x.n)
theorem QC1.below {w w':World} {B b o:Nat} {x:ShI} (h:QC1 w b o x) (hb:Below B w w') (hB:b < B):QC1 w' b o x :=
 ⟨(hb.cell (p:=⟨b,o,none⟩) hB).trans h.1,(hb.cell (p:=⟨b,o+1,none⟩) hB).trans h.2.1,(hb.cell (p:=⟨b,o+2,none⟩) hB).trans h.2.2.1,(hb.cell (p:=⟨b,o+3,none⟩) hB).trans h.2.2.2.1,(hb.cell (p:=⟨b,o+4,none⟩) hB).trans h.2.2.2.2.1,(hb.cell (p:=⟨b,o+5,none⟩) hB).trans h.2.2.2.2.2⟩
def qD9 (w:World) (a:Option Addr) (n:Nat) (gs:List ShI):Prop:=gs.length=n∧(0 < n→∃ b off,a=some ⟨b,off,none⟩∧∀ k x,gs[k]? = some x→QC1 w b (off+k * 6) x)
theorem qD9.below {w w':World} {a:Option Addr} {n:Nat} {gs:List ShI} (h:qD9 w a n gs) (hb:Below w.heap.size w w'):qD9 w' a n gs:=by
 refine ⟨h.1,fun hn=>?_⟩
 obtain ⟨b,off,e,k⟩:=h.2 hn
 exact ⟨b,off,e,fun j x hx=>(k j x hx).below hb (zL w ⟨b,off+j * 6,none⟩ (k j x hx).1)⟩
theorem qD9.at {w:World} {a:Option Addr} {n:Nat} {gs:List ShI} (h:qD9 w a n gs) {k:Nat} (hk:k < n):∃ b off x,a=some ⟨b,off,none⟩∧gs[k]? = some x∧QC1 w b (off+k * 6) x∧b < w.heap.size:=by
 obtain ⟨b,off,e,q⟩:=h.2 (by omega)
 have hx:=List.getElem?_eq_getElem (l:=gs) (i:=k) (by rw [h.1];exact hk)
 exact ⟨b,off,_,e,hx,q k _ hx,zL w ⟨b,off+k * 6,none⟩ (q k _ hx).1⟩
def qX2 (w:World) (g:Nat) (gs:List ShI):Prop:=∀ k x,gs[k]? = some x→QC1 w g (k * 6) x
theorem qX2.below {w w':World} {g:Nat} {gs:List ShI} (h:qX2 w g gs) (hb:Below w.heap.size w w'):qX2 w' g gs:=fun k x e =>
 (h k x e).below hb (zL w ⟨g,k * 6,none⟩ (h k x e).1)
theorem qD9.of {w:World} {g n:Nat} {gs:List ShI} (hl:gs.length=n) (h:qX2 w g gs):qD9 w (some ⟨g,0,none⟩) n gs :=
 ⟨hl,fun _=>⟨g,0,rfl,fun k x e=>by rw [Nat.zero_add];exact h k x e⟩⟩
def qU9 (w:World) (g n:Nat):Prop:=(∀ j,j < n * 6→∃ v,w.cell? ⟨g,j,none⟩=some v)∧∀ j,w.frozen? ⟨g,j,none⟩=false
abbrev QO9 (w:World) (g o:Nat) (s:ShI):World:=((((((w.setCell ⟨g,o,none⟩ (.int .i64 s.r)).setCell ⟨g,o+1,none⟩ (.int .i64 s.k)).setCell ⟨g,o+2,none⟩ (.int .i64 s.e)).setCell ⟨g,o+3,none⟩ (.int .i64 s.f)).setCell ⟨g,o+4,none⟩ (.int .i64 s.s)).setCell ⟨g,o+5,none⟩ (.int .i64 s.n))
theorem qG3 (w:World) (g o:Nat) (s:ShI) (a:Addr) (h:∀ j,j < 6→a≠⟨g,o+j,none⟩):(QO9 w g o s).cell? a=w.cell? a:=by
 rw [World.cell?_setCell_other (h:=Ne.symm (h 5 (by omega))),World.cell?_setCell_other (h:=Ne.symm (h 4 (by omega))),World.cell?_setCell_other (h:=Ne.symm (h 3 (by omega))),World.cell?_setCell_other (h:=Ne.symm (h 2 (by omega))),World.cell?_setCell_other (h:=Ne.symm (h 1 (by omega))),World.cell?_setCell_other (h:=Ne.symm (a:=a) (b:=⟨g,o,none⟩) (by simpa using h 0 (by omega)))]
theorem ShPut_at (w:World) (g o:Nat) (s:ShI) (h:∀ j,j < 6→∃ v,w.cell? ⟨g,o+j,none⟩=some v):QC1 (QO9 w g o s) g o s:=by
 obtain ⟨v0,h0⟩:=h 0 (by omega)
 obtain ⟨v1,h1⟩:=h 1 (by omega)
 obtain ⟨v2,h2⟩:=h 2 (by omega)
 obtain ⟨v3,h3⟩:=h 3 (by omega)
 obtain ⟨v4,h4⟩:=h 4 (by omega)
 obtain ⟨v5,h5⟩:=h 5 (by omega)
 rw [Nat.add_zero] at h0
 refine ⟨?_,?_,?_,?_,?_,?_⟩ <;> simp [go_sem,h0,h1,h2,h3,h4,h5]
theorem ShPut_room {w:World} {g n k:Nat} {zs:List ShI} {s:ShI} (hroom:qU9 w g n) (hd:qX2 w g (zs.take k)) (hs:zs[k]? = some s) (hk:k < n) :
  qU9 (QO9 w g (k * 6) s) g n∧qX2 (QO9 w g (k * 6) s) g (zs.take (k+1)):=by
 have hr:=ShPut_at w g (k * 6) s (fun j hj=>hroom.1 (k * 6+j) (by omega))
 refine ⟨⟨fun j hj=>?_,fun j=>?_⟩,fun i r e=>?_⟩
 ·by_cases h:k * 6≤j∧j < k * 6+6
  ·have hj':j=k * 6∨j=k * 6+1∨j=k * 6+2∨j=k * 6+3∨j=k * 6+4∨j=k * 6+5:=by omega
   obtain ⟨h0,h1,h2,h3,h4,h5⟩:=hr
   rcases hj' with rfl | rfl | rfl | rfl | rfl | rfl
   ·exact ⟨_,h0⟩
   ·exact ⟨_,h1⟩
   ·exact ⟨_,h2⟩
   ·exact ⟨_,h3⟩
   ·exact ⟨_,h4⟩
   ·exact ⟨_,h5⟩
  ·rw [qG3 w g (k * 6) s ⟨g,j,none⟩ (fun i hi e=>by have e2:=congrArg Addr.off e;simp only at e2;omega)]
   exact hroom.1 j hj
 ·simp only [World.frozen?_setCell]
  exact hroom.2 j
 ·rw [List.getElem?_take] at e
  split at e
  ·by_cases hik:i=k
   ·subst hik
    rw [hs] at e
    cases e
    exact hr
   ·have hi:i < k:=by omega
    have h1:=hd i r (by rw [List.getElem?_take,if_pos hi];exact e)
    obtain ⟨h0,h1,h2,h3,h4,h5⟩:=h1
    refine ⟨?_,?_,?_,?_,?_,?_⟩
    ·rw [qG3 w g (k * 6) s ⟨g,i * 6,none⟩ (fun j hj e=>by have e2:=congrArg Addr.off e;simp only at e2;omega)];exact h0
    ·rw [qG3 w g (k * 6) s ⟨g,i * 6+1,none⟩ (fun j hj e=>by have e2:=congrArg Addr.off e;simp only at e2;omega)];exact h1
    ·rw [qG3 w g (k * 6) s ⟨g,i * 6+2,none⟩ (fun j hj e=>by have e2:=congrArg Addr.off e;simp only at e2;omega)];exact h2
    ·rw [qG3 w g (k * 6) s ⟨g,i * 6+3,none⟩ (fun j hj e=>by have e2:=congrArg Addr.off e;simp only at e2;omega)];exact h3
    ·rw [qG3 w g (k * 6) s ⟨g,i * 6+4,none⟩ (fun j hj e=>by have e2:=congrArg Addr.off e;simp only at e2;omega)];exact h4
    ·rw [qG3 w g (k * 6) s ⟨g,i * 6+5,none⟩ (fun j hj e=>by have e2:=congrArg Addr.off e;simp only at e2;omega)];exact h5
  ·cases e
theorem QT3 {w0 w:World} {B g o:Nat} (h:Below B w0 w) (hg:B≤g) (s:ShI):Below B w0 (QO9 w g o s) :=
 h.setCell hg _ |>.setCell hg _ |>.setCell hg _ |>.setCell hg _ |>.setCell hg _ |>.setCell hg _
theorem Tryz.info77:(Tryz.prog.info? 77).map (fun i=>(i.zero,i.size,i.bytes))=some (some (.agg #[.int .i64 0,.int .i64 0,.int .i64 0,.int .i64 0,.int .i64 0,.int .i64 0]),6,48):=by kernel_rfl
theorem toShare_c (x:ShI) (w:World):Calls Tryz.prog 31 #[.agg #[.int .i64 x.r,.int .i64 x.k,.int .i64 x.e,.int .i64 x.f,.int .i64 x.s,.int .i64 x.n]] w fun e w'=>e = .returned (.agg #[.int .i64 x.r,.int .i64 x.k,.int .i64 x.e,.int .i64 x.f,.int .i64 x.s,.int .i64 x.n])∧Below w.heap.size w w':=by
 go_enter Tryz.func31,Tryz.ntmps31
 go_wp2
 go_returns
 exact ⟨rfl,by go_grown⟩
theorem qO0 (a:Option Addr) (n cap:Nat) (zs:List ShI) (w:World) (hn:n≤1048576) (h:qD9 w a n zs) :
  Calls Tryz.prog 9 #[.slice a n cap] w fun e w'=>e = .returned (.slice (some ⟨w.heap.size,0,none⟩) n n)∧qX2 w' w.heap.size zs∧w.heap.size < w'.heap.size∧Below w.heap.size w w'∧qU9 w' w.heap.size n:=by
 obtain ⟨i0,hi,hz0,hz1,hz2⟩:=info_parts Tryz.info77
 obtain ⟨wm,hmk,hownm,hgrm⟩:=run_make_full (P:=Tryz.prog) (w:=w) w.heap.size 40 77 i0 (.agg #[.int .i64 0,.int .i64 0,.int .i64 0,.int .i64 0,.int .i64 0,.int .i64 0]) 6 Tryz.underlying40 hi hz0 hz1 .i64 .i64 n (by rw [hz2];omega) (by unfold maxLen;omega) (Nat.le_refl _)
 have H:Hid (qD9 w a n zs):=h
 have hz:Hid (zs.length=n):=h.1
 clear h
 have HM:Hid (qU9 wm w.heap.size n∧w.heap.size < wm.heap.size):=by
  refine ⟨⟨fun j hj=>?_,fun j=>hownm.frozenAt j⟩,(hownm.lt _ rfl).2⟩
  have hl:=hownm.1
  exact ⟨_,(hownm.cellAt j hj).trans (List.getElem?_eq_getElem (by omega))⟩
 clear hownm
 have HG:Hid (w.grownBy wm none):=hgrm
 clear hgrm
 have hn':(n:Int)≤1048576:=by omega
 go_enter Tryz.func9,Tryz.ntmps9
 go_wp2
 go_loopw [4] (fun i wr=>∃ k:Nat,k≤n∧i = .int .i64 (k:Int)∧qU9 wr w.heap.size n∧qX2 wr w.heap.size (zs.take k)∧w.heap.size < wr.heap.size∧Below w.heap.size w wr)
  (fun i _=>n - (intOf i).toNat)
 case atStart=>exact ⟨0,Nat.zero_le _,rfl,HM.out.1,fun k r e=>by simp at e,HM.out.2,(Below.refl _ _).grown HG.out (Nat.le_refl _) (fun k e=>by cases e)⟩
 case round =>
  obtain ⟨k,hk,rfl,hroom,hdone,hlt0,hnx⟩:=hrel
  by_cases hlt:k < n
  ·obtain ⟨b,off,s,rfl,hs,hr,hb⟩:=H.out.at hlt
   have HS:Hid (zs[k]? = some s):=hs
   clear hs
   obtain ⟨h0,h1,h2,h3,h4,h5⟩:=hr.below hnx hb
   have HD:Hid (qU9 wr w.heap.size n∧qX2 wr w.heap.size (zs.take k)):=⟨hroom,hdone⟩
   clear hroom hdone hr
   have hlt':(k:Int) < (n:Int):=by omega
   go_wp2_with fail
   refine (toShare_c s _).mono ?_
   rintro e w1 ⟨rfl,hb1⟩
   obtain ⟨⟨hc,hf⟩,hd⟩:=HD.out
   have hz1:=hb1.size
   have HD1:Hid (qU9 w1 w.heap.size n∧qX2 w1 w.heap.size (zs.take k)∧Below w.heap.size w w1) :=
    ⟨⟨fun j hj=>by obtain ⟨v,e⟩:=hc j hj;exact ⟨v,(hb1.cell (p:=⟨w.heap.size,j,none⟩) hlt0).trans e⟩,fun j=>(hb1.frozen (p:=⟨w.heap.size,j,none⟩) hlt0).trans (hf j)⟩,hd.below hb1,hnx.trans (hb1.mono hnx.size)⟩
   clear hc hf hd HD h0 h1 h2 h3 h4 h5
   obtain ⟨v0,c0⟩:=HD1.out.1.1 (k * 6) (by omega)
   obtain ⟨v1,c1⟩:=HD1.out.1.1 (k * 6+1) (by omega)
   obtain ⟨v2,c2⟩:=HD1.out.1.1 (k * 6+2) (by omega)
   obtain ⟨v3,c3⟩:=HD1.out.1.1 (k * 6+3) (by omega)
   obtain ⟨v4,c4⟩:=HD1.out.1.1 (k * 6+4) (by omega)
   obtain ⟨v5,c5⟩:=HD1.out.1.1 (k * 6+5) (by omega)
   have f0:=HD1.out.1.2 (k * 6)
   have f1:=HD1.out.1.2 (k * 6+1)
   have f2:=HD1.out.1.2 (k * 6+2)
   have f3:=HD1.out.1.2 (k * 6+3)
   have f4:=HD1.out.1.2 (k * 6+4)
   have f5:=HD1.out.1.2 (k * 6+5)
   have RM:Hid (qU9 (QO9 w1 w.heap.size (k * 6) s) w.heap.size n∧qX2 (QO9 w1 w.heap.size (k * 6) s) w.heap.size (zs.take (k+1))∧Below w.heap.size w (QO9 w1 w.heap.size (k * 6) s)):=by
    have h2:=ShPut_room HD1.out.1 HD1.out.2.1 HS.out hlt
    exact ⟨h2.1,h2.2,QT3 HD1.out.2.2 (Nat.le_refl _) s⟩
   go_wp2
   exact ⟨⟨k+1,by omega,by go_num,RM.out.1,RM.out.2.1,by simp only [World.size_setCell];omega,RM.out.2.2⟩,by simp [intOf];omega⟩
  ·have hkn:k=n:=by omega
   subst hkn
   rw [List.take_of_length_le (by rw [hz.out];exact Nat.le_refl _)] at hdone
   go_wp2
   go_ret
   exact ⟨rfl,hdone,hlt0,hnx,hroom⟩
theorem QN4 (x:ShI) (w:World) :
  Calls Tryz.prog 39 #[.agg #[.int .i64 x.r,.int .i64 x.k,.int .i64 x.e,.int .i64 x.f,.int .i64 x.s,.int .i64 x.n],.agg #[.int .i64 x.r,.int .i64 x.k,.int .i64 x.e,.int .i64 x.f,.int .i64 x.s,.int .i64 x.n]] w fun e w'=>e = .returned (.bool true)∧Below w.heap.size w w':=by
 go_enter Tryz.func39,Tryz.ntmps39
 go_wp2
 go_ret
 exact ⟨rfl,by go_grown⟩
theorem QH7 (a b:Option Addr) (n c d:Nat) (zs:List ShI) (w:World) (hn:n≤1048576) (ha:qD9 w a n zs) (hb:qD9 w b n zs) :
  Calls Tryz.prog 14 #[.slice a n c,.slice b n d] w fun e w'=>e = .returned (.bool true)∧Below w.heap.size w w':=by
 have HA:Hid (qD9 w a n zs):=ha
 have HB:Hid (qD9 w b n zs):=hb
 clear ha hb
 have hn':(n:Int)≤1048576:=by omega
 go_enter Tryz.func14,Tryz.ntmps14
 go_wp2
 go_loopw [5] (fun i wr=>∃ k:Nat,k≤n∧i = .int .i64 (k:Int)∧Below w.heap.size w wr) (fun i _=>n - (intOf i).toNat)
 case atStart=>exact ⟨0,Nat.zero_le _,rfl,Below.refl _ _⟩
 case round =>
  obtain ⟨k,hk,rfl,hnx⟩:=hrel
  by_cases hlt:k < n
  ·obtain ⟨b1,o1,s,e1,hs,hr,hl1⟩:=HA.out.at hlt
   obtain ⟨b2,o2,s2,e2,hs2,hr2,hl2⟩:=HB.out.at hlt
   obtain rfl:s=s2:=Option.some.inj (hs.symm.trans hs2)
   subst e1 e2
   clear hs hs2
   obtain ⟨h0,h1,h2,h3,h4,h5⟩:=hr.below hnx hl1
   obtain ⟨g0,g1,g2,g3,g4,g5⟩:=hr2.below hnx hl2
   clear hr hr2
   have hlt':(k:Int) < (n:Int):=by omega
   have hb1:b1 < wr.heap.size:=zL wr ⟨b1,o1+k * 6,none⟩ h0
   have hb2:b2 < wr.heap.size:=zL wr ⟨b2,o2+k * 6,none⟩ g0
   go_wp2
   go_region_held3 (fun w'=>(∀ b o,b < wr.heap.size→w'.cell? ⟨b,o,none⟩=wr.cell? ⟨b,o,none⟩)∧Below wr.heap.size wr w') (first | exact hS | exact qB6 _)
    (first | (go_at_call 39;refine (QN4 s _).mono ?_;rintro e w' ⟨rfl,hb1⟩;have hS:=qA8 (by assumption) hb1))
   go_wp2
   exact ⟨⟨k+1,by omega,by go_num,hnx.trans (hS.2.mono hnx.size)⟩,by simp [intOf];omega⟩
  ·have hkn:k=n:=by omega
   subst hkn
   go_wp2
   go_ret
   exact ⟨rfl,hnx⟩

def QT6 (w:World) (B:Nat) (x y:Value):Prop:=w.cell? ⟨B,0,none⟩=some x∧w.cell? ⟨B,1,none⟩=some y
theorem QT6.lt {w:World} {B:Nat} {x y:Value} (h:QT6 w B x y):B < w.heap.size:=zL w ⟨B,0,none⟩ h.1
theorem QT6.below {w w':World} {B:Nat} {x y:Value} (h:QT6 w B x y) (hb:Below w.heap.size w w'):QT6 w' B x y :=
 ⟨(hb.cell (p:=⟨B,0,none⟩) h.lt).trans h.1,(hb.cell (p:=⟨B,1,none⟩) h.lt).trans h.2⟩
theorem QT6.grown {w w':World} {B:Nat} {x y:Value} {row:Option Nat} (h:QT6 w B x y) (hg:w.grownBy w' row) (hne:some B≠row):QT6 w' B x y :=
 ⟨hg.cell h.1 hne,hg.cell h.2 hne⟩
theorem QT6.new (w:World) (x y:Value) (t:TypeId):QT6 (w.alloc (.cells #[x,y] t)) w.heap.size x y:=⟨by simp,by simp⟩

theorem l3By_1 (a:Option Addr) (n c:Nat) (gs:List GrI) (g off:Nat) (r:qA0) (w:World) (hg:qS7 w a n gs) (hn:n≤1048576) (hr:qB0 w g off r) (hs:∀ q,qF4 (ofG gs q)) (hk:okR r) (hk4:r.k=1) :
  Calls Tryz.prog 174 #[.slice a n c,.pointer (some ⟨g,off,none⟩)] w fun e w'=>e = .returned (.int .i64 (byF (ofG gs) r))∧Below w.heap.size w w':=by
 have HG:Hid (qS7 w a n gs):=hg
 have HX:Hid (qB0 w g off r):=hr
 have HS:Hid (∀ q,qF4 (ofG gs q)):=hs
 have E:Hid (byF (ofG gs) r=bitI r.w):=by show byF (ofG gs) r=_;simp [byF,hk4]
 have hw:=hk.2 hk4
 clear hk
 clear hg hr hs
 obtain ⟨k,ho,hn0,wh,oo,on,t0,tn⟩:=r
 have hb:Below w.heap.size w w:=Below.refl _ _
 obtain ⟨h0,h1,h2,h3,h4,h5,h6,h7⟩:=HX.out.below hb
 simp only at h0 h1 h2 h3 h4 h5 h6 h7 hk4 hw
 subst hk4
 go_enter Tryz.func174,Tryz.ntmps174
 go_wp2_with (first | (go_at_call 129;refine (qZ6 _ _ _ gs (oo,on) _ (HG.out.below hb) hn).mono ?_;rintro e w1 ⟨rfl,hb1⟩;replace hb:=hb.trans (hb1.mono hb.size);clear h0 h1 h2 h3 h4 h5 h6 h7 hb1;obtain ⟨h0,h1,h2,h3,h4,h5,h6,h7⟩:=HX.out.below hb;simp only at h0 h1 h2 h3 h4 h5 h6 h7) | (go_at_call 130;refine (l1Bit_c _ hw.1 hw.2 _).mono ?_;rintro e w2 ⟨rfl,rfl⟩))
 go_ret
 exact ⟨by rw [E.out];rfl,hb⟩
theorem l3By_2 (a:Option Addr) (n c:Nat) (gs:List GrI) (g off:Nat) (r:qA0) (w:World) (hg:qS7 w a n gs) (hn:n≤1048576) (hr:qB0 w g off r) (hs:∀ q,qF4 (ofG gs q)) (hk:okR r) (hk4:r.k=2) :
  Calls Tryz.prog 174 #[.slice a n c,.pointer (some ⟨g,off,none⟩)] w fun e w'=>e = .returned (.int .i64 (byF (ofG gs) r))∧Below w.heap.size w w':=by
 have HG:Hid (qS7 w a n gs):=hg
 have HX:Hid (qB0 w g off r):=hr
 have HS:Hid (∀ q,qF4 (ofG gs q)):=hs
 have E:Hid (byF (ofG gs) r=ofG gs (r.oo,r.on)):=by show byF (ofG gs) r=_;simp [byF,hk4]
 clear hk
 clear hg hr hs
 obtain ⟨k,ho,hn0,wh,oo,on,t0,tn⟩:=r
 have hb:Below w.heap.size w w:=Below.refl _ _
 obtain ⟨h0,h1,h2,h3,h4,h5,h6,h7⟩:=HX.out.below hb
 simp only at h0 h1 h2 h3 h4 h5 h6 h7 hk4
 subst hk4
 go_enter Tryz.func174,Tryz.ntmps174
 go_wp2_with (first | (go_at_call 129;refine (qZ6 _ _ _ gs (oo,on) _ (HG.out.below hb) hn).mono ?_;rintro e w1 ⟨rfl,hb1⟩;replace hb:=hb.trans (hb1.mono hb.size);clear h0 h1 h2 h3 h4 h5 h6 h7 hb1;obtain ⟨h0,h1,h2,h3,h4,h5,h6,h7⟩:=HX.out.below hb;simp only at h0 h1 h2 h3 h4 h5 h6 h7))
 go_ret
 exact ⟨by rw [E.out];rfl,hb⟩
theorem l3By_4 (a:Option Addr) (n c:Nat) (gs:List GrI) (g off:Nat) (r:qA0) (w:World) (hg:qS7 w a n gs) (hn:n≤1048576) (hr:qB0 w g off r) (hs:∀ q,qF4 (ofG gs q)) (hk:okR r) (hk4:r.k=4) :
  Calls Tryz.prog 174 #[.slice a n c,.pointer (some ⟨g,off,none⟩)] w fun e w'=>e = .returned (.int .i64 (byF (ofG gs) r))∧Below w.heap.size w w':=by
 have HG:Hid (qS7 w a n gs):=hg
 have HX:Hid (qB0 w g off r):=hr
 have HS:Hid (∀ q,qF4 (ofG gs q)):=hs
 have E:Hid (byF (ofG gs) r=andI (ofG gs (r.oo,r.on)) (ofG gs (r.to,r.tn))):=by show byF (ofG gs) r=_;simp [byF,hk4]
 clear hk
 clear hg hr hs
 obtain ⟨k,ho,hn0,wh,oo,on,t0,tn⟩:=r
 have hb:Below w.heap.size w w:=Below.refl _ _
 obtain ⟨h0,h1,h2,h3,h4,h5,h6,h7⟩:=HX.out.below hb
 simp only at h0 h1 h2 h3 h4 h5 h6 h7 hk4
 subst hk4
 go_enter Tryz.func174,Tryz.ntmps174
 go_upto_region 8 with (first | (go_at_call 129;refine (qZ6 _ _ _ gs (oo,on) _ (HG.out.below hb) hn).mono ?_;rintro e w1 ⟨rfl,hb1⟩;replace hb:=hb.trans (hb1.mono hb.size);clear h0 h1 h2 h3 h4 h5 h6 h7 hb1;obtain ⟨h0,h1,h2,h3,h4,h5,h6,h7⟩:=HX.out.below hb;simp only at h0 h1 h2 h3 h4 h5 h6 h7))
 go_wp2_with (first | (go_at_call 129;refine (qZ6 _ _ _ gs (t0,tn) _ (HG.out.below hb) hn).mono ?_;rintro e w2 ⟨rfl,hb1⟩;replace hb:=hb.trans (hb1.mono hb.size);clear h0 h1 h2 h3 h4 h5 h6 h7 hb1))
 go_ret
 exact ⟨by rw [E.out];rfl,hb⟩
theorem l3By_3 (a:Option Addr) (n c:Nat) (gs:List GrI) (g off:Nat) (r:qA0) (w:World) (hg:qS7 w a n gs) (hn:n≤1048576) (hr:qB0 w g off r) (hs:∀ q,qF4 (ofG gs q)) (hk:okR r) (hk4:r.k=3) :
  Calls Tryz.prog 174 #[.slice a n c,.pointer (some ⟨g,off,none⟩)] w fun e w'=>e = .returned (.int .i64 (byF (ofG gs) r))∧Below w.heap.size w w':=by
 have HG:Hid (qS7 w a n gs):=hg
 have HX:Hid (qB0 w g off r):=hr
 have HS:Hid (∀ q,qF4 (ofG gs q)):=hs
 have E:Hid (byF (ofG gs) r=qF8 (ofG gs) r.tn (qA6 (ofG gs (r.oo,r.on)) 8) (qA6 (ofG gs (r.oo,r.on)) 8).length):=by show byF (ofG gs) r=_;simp [byF,hk4]
 clear hk
 clear hg hr hs
 obtain ⟨k,ho,hn0,wh,oo,on,t0,tn⟩:=r
 have hb:Below w.heap.size w w:=Below.refl _ _
 obtain ⟨h0,h1,h2,h3,h4,h5,h6,h7⟩:=HX.out.below hb
 simp only at h0 h1 h2 h3 h4 h5 h6 h7 hk4
 subst hk4
 go_enter Tryz.func174,Tryz.ntmps174
 go_upto_region 10 with (first | (go_at_call 129;refine (qZ6 _ _ _ gs (oo,on) _ (HG.out.below hb) hn).mono ?_;rintro e w1 ⟨rfl,hb1⟩;replace hb:=hb.trans (hb1.mono hb.size);clear h0 h1 h2 h3 h4 h5 h6 h7 hb1;obtain ⟨h0,h1,h2,h3,h4,h5,h6,h7⟩:=HX.out.below hb;simp only at h0 h1 h2 h3 h4 h5 h6 h7))
 have HLs:=HS.out (oo,on)
 obtain ⟨ys,hys⟩:∃ ys,ys=qA6 (ofG gs (oo,on)) 8:=⟨_,rfl⟩
 have hl8:ys.length≤8:=by rw [hys];exact QE3 _ 8
 have hl8':(ys.length:Int)≤8:=by omega
 have E2:Hid (byF (ofG gs) ⟨3,ho,hn0,wh,oo,on,t0,tn⟩=qF8 (ofG gs) tn ys ys.length):=by rw [hys];exact E.out
 have HC:Hid (∀ W:World,Calls Tryz.prog 128 #[.int .i64 (ofG gs (oo,on))] W fun e w'=>∃ g cap,e = .returned (.slice (some ⟨g,0,none⟩) ys.length cap)∧w'.ownsRow W.heap.size 2 1 (.slice (some ⟨g,0,none⟩) ys.length cap) ys.length (ys.map (Value.int .i64))∧Below W.heap.size W w'):=fun W=>by rw [hys];exact QV7 _ HLs.1 HLs.2 W
 clear E hys HLs
 go_wp2_with (first | (go_at_call 128;refine (HC.out _).mono ?_;rintro e w2 ⟨gl,cl,rfl,hown,hb1⟩;replace hb:=hb.trans (hb1.mono hb.size);clear h0 h1 h2 h3 h4 h5 h6 h7 hb1))
 have HR:Hid (qB0 w2 g off ⟨3,ho,hn0,wh,oo,on,t0,tn⟩):=HX.out.below hb
 have HY:Hid (∀ k y,ys[k]? = some y→w2.cell? ⟨gl,k,none⟩=some (.int .i64 y)):=fun k y hy=>by
  have hk:k < ys.length:=by
   by_cases q:k < ys.length
   ·exact q
   ·rw [List.getElem?_eq_none (by omega)] at hy;cases hy
  rw [hown.cellAt k (by omega),List.getElem?_map,hy]
  rfl
 have hgl:gl < w2.heap.size:=by
  rcases hown.2 with ⟨h',_⟩ | ⟨g',cap',cur,h',_,hg',_⟩
  ·simp at h'
  ·simp at h';rw [h'.1];exact (Array.getElem?_eq_some_iff.1 hg').1
 clear hown
 go_loopw [6,8] (fun o i wr=>∃ k:Nat,k≤ys.length∧i = .int .i64 (k:Int)∧o = .int .i64 (qF8 (ofG gs) tn ys k)∧Below w2.heap.size w2 wr) (fun _ i _=>ys.length - (intOf i).toNat)
 case atStart=>exact ⟨0,Nat.zero_le _,rfl,by rw [QQ8],Below.refl _ _⟩
 case round =>
  obtain ⟨k,hk,rfl,rfl,hnx⟩:=hrel
  by_cases hlt:k < ys.length
  ·obtain ⟨y,hy⟩:∃ y,ys[k]? = some y:=⟨_,List.getElem?_eq_getElem hlt⟩
   have c0:=(hnx.cell (p:=⟨gl,k,none⟩) hgl).trans (HY.out k y hy)
   have HL:Hid (qF8 (ofG gs) tn ys (k+1)=orI (qF8 (ofG gs) tn ys k) (ofG gs (y,tn))):=QQ9 hy _ _
   have hw:Below w.heap.size w wr:=hb.trans (hnx.mono hb.size)
   clear hy
   obtain ⟨h0,h1,h2,h3,h4,h5,h6,h7⟩:=HR.out.below hnx
   simp only at h0 h1 h2 h3 h4 h5 h6 h7
   have hlt':(k:Int) < (ys.length:Int):=by omega
   have HQ:Hid (∀ W:World,((∀ b o,b < wr.heap.size→W.cell? ⟨b,o,none⟩=wr.cell? ⟨b,o,none⟩)∧Below wr.heap.size wr W)→Calls Tryz.prog 129 #[.slice a n c,.agg #[.int .i64 y,.int .i64 tn]] W fun e w'=>e = .returned (.int .i64 (ofG gs (y,tn)))∧Below W.heap.size W w'):=fun W hW=>qZ6 _ _ _ gs (y,tn) _ (HG.out.below (hw.trans (hW.2.mono hw.size))) hn
   have hbg:g < wr.heap.size:=zL wr ⟨g,off,none⟩ h0
   have hgl2:gl < wr.heap.size:=zL wr ⟨gl,k,none⟩ c0
   go_wp2
   go_region_held3 (fun w'=>(∀ b o,b < wr.heap.size→w'.cell? ⟨b,o,none⟩=wr.cell? ⟨b,o,none⟩)∧Below wr.heap.size wr w') (first | exact hS | exact qB6 _)
    (first | (go_at_call 129;refine (HQ.out _ (by assumption)).mono ?_;rintro e w' ⟨rfl,hb1⟩;have hS:=qA8 (by assumption) hb1))
   go_wp2
   exact ⟨⟨k+1,by omega,by go_num,by rw [HL.out],hnx.trans (hS.2.mono hnx.size)⟩,by simp [intOf];omega⟩
  ·have hkn:k=ys.length:=by omega
   subst hkn
   go_wp2
   go_ret
   exact ⟨by rw [E2.out];rfl,hb.trans (hnx.mono hb.size)⟩
theorem l3By_c (a:Option Addr) (n c:Nat) (gs:List GrI) (g off:Nat) (r:qA0) (w:World) (hg:qS7 w a n gs) (hn:n≤1048576) (hr:qB0 w g off r) (hs:∀ q,qF4 (ofG gs q)) (hk:okR r) (hk4:1≤r.k∧r.k≤4) :
  Calls Tryz.prog 174 #[.slice a n c,.pointer (some ⟨g,off,none⟩)] w fun e w'=>e = .returned (.int .i64 (byF (ofG gs) r))∧Below w.heap.size w w':=by
 have h4:r.k=1∨r.k=2∨r.k=3∨r.k=4:=by omega
 rcases h4 with e | e | e | e
 ·exact l3By_1 a n c gs g off r w hg hn hr hs hk e
 ·exact l3By_2 a n c gs g off r w hg hn hr hs hk e
 ·exact l3By_3 a n c gs g off r w hg hn hr hs hk e
 ·exact l3By_4 a n c gs g off r w hg hn hr hs hk e

end Go.Proofs.YthogdfnaojijhaaGreat
