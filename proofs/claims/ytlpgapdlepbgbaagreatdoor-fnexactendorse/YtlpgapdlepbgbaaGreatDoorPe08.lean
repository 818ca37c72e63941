/- Contracts. -/
import Derived.Deep.AppendLies
import Derived.Test.YtlpgapdlepbgbaaGreatDoorPe07
import Derived.Deep.CutBlock
namespace Go.Proofs.YtlpgapdlepbgbaaGreatDoor
set_option maxRecDepth 100000
set_option maxHeartbeats 8000000
open Go.RowKit
set_option linter.unusedVariables false
set_option linter.unusedSimpArgs false

structure StI where
 k:Int
 e:Int
 f:Int
 s:Int
 n:Int
deriving DecidableEq,Inhabited
def qS7 (w:World) (b o:Nat) (x:StI):Prop:=w.cell? ⟨b,o,none⟩=some (.int .i64 x.k)∧w.cell? ⟨b,o+1,none⟩=some (.int .i64 x.e)∧w.cell? ⟨b,o+2,none⟩=some (.int .i64 x.f)∧w.cell? ⟨b,o+3,none⟩=some (.int .i64 x.s)∧w.cell? ⟨b,o+4,none⟩=some (.int .i64 x.n)
theorem qS7.below {w w':World} {B b o:Nat} {x:StI} (h:qS7 w b o x) (hb:Below B w w') (hB:b < B):qS7 w' b o x :=
 ⟨(hb.cell (p:=⟨b,o,none⟩) hB).trans h.1,(hb.cell (p:=⟨b,o+1,none⟩) hB).trans h.2.1,(hb.cell (p:=⟨b,o+2,none⟩) hB).trans h.2.2.1,(hb.cell (p:=⟨b,o+3,none⟩) hB).trans h.2.2.2.1,(hb.cell (p:=⟨b,o+4,none⟩) hB).trans h.2.2.2.2⟩
def qM5 (w:World) (a:Option Addr) (n:Nat) (gs:List StI):Prop:=gs.length=n∧(0 < n→∃ b off,a=some ⟨b,off,none⟩∧∀ k x,gs[k]? = some x→qS7 w b (off+k * 5) x)
theorem qM5.below {w w':World} {a:Option Addr} {n:Nat} {gs:List StI} (h:qM5 w a n gs) (hb:Below w.heap.size w w'):qM5 w' a n gs:=by
 refine ⟨h.1,fun hn=>?_⟩
 obtain ⟨b,off,e,k⟩:=h.2 hn
 exact ⟨b,off,e,fun j x hx=>(k j x hx).below hb (zL w ⟨b,off+j * 5,none⟩ (k j x hx).1)⟩
theorem qM5.at {w:World} {a:Option Addr} {n:Nat} {gs:List StI} (h:qM5 w a n gs) {k:Nat} (hk:k < n):∃ b off x,a=some ⟨b,off,none⟩∧gs[k]? = some x∧qS7 w b (off+k * 5) x∧b < w.heap.size:=by
 obtain ⟨b,off,e,q⟩:=h.2 (by omega)
 have hx:=List.getElem?_eq_getElem (l:=gs) (i:=k) (by rw [h.1];exact hk)
 exact ⟨b,off,_,e,hx,q k _ hx,zL w ⟨b,off+k * 5,none⟩ (q k _ hx).1⟩
def qZ4 (w:World) (g:Nat) (gs:List StI):Prop:=∀ k x,gs[k]? = some x→qS7 w g (k * 5) x
theorem qZ4.below {w w':World} {g:Nat} {gs:List StI} (h:qZ4 w g gs) (hb:Below w.heap.size w w'):qZ4 w' g gs:=fun k x e =>
 (h k x e).below hb (zL w ⟨g,k * 5,none⟩ (h k x e).1)
theorem qM5.of {w:World} {g n:Nat} {gs:List StI} (hl:gs.length=n) (h:qZ4 w g gs):qM5 w (some ⟨g,0,none⟩) n gs :=
 ⟨hl,fun _=>⟨g,0,rfl,fun k x e=>by rw [Nat.zero_add];exact h k x e⟩⟩
def qJ6 (w:World) (g n:Nat):Prop:=(∀ j,j < n * 5→∃ v,w.cell? ⟨g,j,none⟩=some v)∧∀ j,w.frozen? ⟨g,j,none⟩=false
abbrev StPut (w:World) (g o:Nat) (s:StI):World:=(((((w.setCell ⟨g,o,none⟩ (.int .i64 s.k)).setCell ⟨g,o+1,none⟩ (.int .i64 s.e)).setCell ⟨g,o+2,none⟩ (.int .i64 s.f)).setCell ⟨g,o+3,none⟩ (.int .i64 s.s)).setCell ⟨g,o+4,none⟩ (.int .i64 s.n))
theorem qP3 (w:World) (g o:Nat) (s:StI) (a:Addr) (h:∀ j,j < 5→a≠⟨g,o+j,none⟩):(StPut w g o s).cell? a=w.cell? a:=by
 rw [World.cell?_setCell_other (h:=Ne.symm (h 4 (by omega))),World.cell?_setCell_other (h:=Ne.symm (h 3 (by omega))),World.cell?_setCell_other (h:=Ne.symm (h 2 (by omega))),World.cell?_setCell_other (h:=Ne.symm (h 1 (by omega))),World.cell?_setCell_other (h:=Ne.symm (a:=a) (b:=⟨g,o,none⟩) (by simpa using h 0 (by omega)))]
theorem StPut_at (w:World) (g o:Nat) (s:StI) (h:∀ j,j < 5→∃ v,w.cell? ⟨g,o+j,none⟩=some v):qS7 (StPut w g o s) g o s:=by
 obtain ⟨v0,h0⟩:=h 0 (by omega)
 obtain ⟨v1,h1⟩:=h 1 (by omega)
 obtain ⟨v2,h2⟩:=h 2 (by omega)
 obtain ⟨v3,h3⟩:=h 3 (by omega)
 obtain ⟨v4,h4⟩:=h 4 (by omega)
 rw [Nat.add_zero] at h0
 refine ⟨?_,?_,?_,?_,?_⟩ <;> simp [go_sem,h0,h1,h2,h3,h4]
theorem StPut_room {w:World} {g n k:Nat} {zs:List StI} {s:StI} (hroom:qJ6 w g n) (hd:qZ4 w g (zs.take k)) (hs:zs[k]? = some s) (hk:k < n) :
  qJ6 (StPut w g (k * 5) s) g n∧qZ4 (StPut w g (k * 5) s) g (zs.take (k+1)):=by
 have hr:=StPut_at w g (k * 5) s (fun j hj=>hroom.1 (k * 5+j) (by omega))
 refine ⟨⟨fun j hj=>?_,fun j=>?_⟩,fun i r e=>?_⟩
 ·by_cases h:k * 5≤j∧j < k * 5+5
  ·have hj':j=k * 5∨j=k * 5+1∨j=k * 5+2∨j=k * 5+3∨j=k * 5+4:=by omega
   obtain ⟨h0,h1,h2,h3,h4⟩:=hr
   rcases hj' with rfl | rfl | rfl | rfl | rfl
   ·exact ⟨_,h0⟩
   ·exact ⟨_,h1⟩
   ·exact ⟨_,h2⟩
   ·exact ⟨_,h3⟩
   ·exact ⟨_,h4⟩
  ·rw [qP3 w g (k * 5) s ⟨g,j,none⟩ (fun i hi e=>by have e2:=congrArg Addr.off e;simp only at e2;omega)]
   exact hroom.1 j hj
 ·simp only [World.frozen?_setCell]
  exact hroom.2 j
 ·rw [List.getElem?_take] at e
  split at e
  ·by_cases hik:i=k
   ·subst hik
    rw [hs] at e
    cases e
    exact hr
   ·have hi:i < k:=by omega
    have h1:=hd i r (by rw [List.getElem?_take,if_pos hi];exact e)
    obtain ⟨h0,h1,h2,h3,h4⟩:=h1
    refine ⟨?_,?_,?_,?_,?_⟩
    ·rw [qP3 w g (k * 5) s ⟨g,i * 5,none⟩ (fun j hj e=>by have e2:=congrArg Addr.off e;simp only at e2;omega)];exact h0
    ·rw [qP3 w g (k * 5) s ⟨g,i * 5+1,none⟩ (fun j hj e=>by have e2:=congrArg Addr.off e;simp only at e2;omega)];exact h1
    ·rw [qP3 w g (k * 5) s ⟨g,i * 5+2,none⟩ (fun j hj e=>by have e2:=congrArg Addr.off e;simp only at e2;omega)];exact h2
    ·rw [qP3 w g (k * 5) s ⟨g,i * 5+3,none⟩ (fun j hj e=>by have e2:=congrArg Addr.off e;simp only at e2;omega)];exact h3
    ·rw [qP3 w g (k * 5) s ⟨g,i * 5+4,none⟩ (fun j hj e=>by have e2:=congrArg Addr.off e;simp only at e2;omega)];exact h4
  ·cases e
theorem StPut_below {w0 w:World} {B g o:Nat} (h:Below B w0 w) (hg:B≤g) (s:StI):Below B w0 (StPut w g o s) :=
 h.setCell hg _ |>.setCell hg _ |>.setCell hg _ |>.setCell hg _ |>.setCell hg _
theorem Tryz.info45:(Tryz.prog.info? 45).map (fun i=>(i.zero,i.size,i.bytes))=some (some (.agg #[.int .i64 0,.int .i64 0,.int .i64 0,.int .i64 0,.int .i64 0]),5,40):=by kernel_rfl
theorem qE9 (x:StI) (w:World):Calls Tryz.prog 17 #[.agg #[.int .i64 x.k,.int .i64 x.e,.int .i64 x.f,.int .i64 x.s,.int .i64 x.n]] w fun e w'=>e = .returned (.agg #[.int .i64 x.k,.int .i64 x.e,.int .i64 x.f,.int .i64 x.s,.int .i64 x.n])∧Below w.heap.size w w':=by
 go_enter Tryz.func17,Tryz.ntmps17
 go_wp2
 go_returns
 exact ⟨rfl,by go_grown⟩
theorem QE9 (a:Option Addr) (n cap:Nat) (zs:List StI) (w:World) (hn:n≤1048576) (h:qM5 w a n zs) :
  Calls Tryz.prog 34 #[.slice a n cap] w fun e w'=>e = .returned (.slice (some ⟨w.heap.size,0,none⟩) n n)∧qZ4 w' w.heap.size zs∧w.heap.size < w'.heap.size∧Below w.heap.size w w'∧qJ6 w' w.heap.size n:=by
 obtain ⟨i0,hi,hz0,hz1,hz2⟩:=info_parts Tryz.info45
 obtain ⟨wm,hmk,hownm,hgrm⟩:=run_make_full (P:=Tryz.prog) (w:=w) w.heap.size 30 45 i0 (.agg #[.int .i64 0,.int .i64 0,.int .i64 0,.int .i64 0,.int .i64 0]) 5 Tryz.underlying30 hi hz0 hz1 .i64 .i64 n (by rw [hz2];omega) (by unfold maxLen;omega) (Nat.le_refl _)
 have H:Hid (qM5 w a n zs):=h
 have hz:Hid (zs.length=n):=h.1
 clear h
 have HM:Hid (qJ6 wm w.heap.size n∧w.heap.size < wm.heap.size):=by
  refine ⟨⟨fun j hj=>?_,fun j=>hownm.frozenAt j⟩,(hownm.lt _ rfl).2⟩
  have hl:=hownm.1
  exact ⟨_,(hownm.cellAt j hj).trans (List.getElem?_eq_getElem (by omega))⟩
 clear hownm
 have HG:Hid (w.grownBy wm none):=hgrm
 clear hgrm
 have hn':(n:Int)≤1048576:=by omega
 go_enter Tryz.func34,Tryz.ntmps34
 go_wp2
 go_loopw [4] (fun i wr=>∃ k:Nat,k≤n∧i = .int .i64 (k:Int)∧qJ6 wr w.heap.size n∧qZ4 wr w.heap.size (zs.take k)∧w.heap.size < wr.heap.size∧Below w.heap.size w wr)
  (fun i _=>n - (intOf i).toNat)
 case atStart=>exact ⟨0,Nat.zero_le _,rfl,HM.out.1,fun k r e=>by simp at e,HM.out.2,(Below.refl _ _).grown HG.out (Nat.le_refl _) (fun k e=>by cases e)⟩
 case round =>
  obtain ⟨k,hk,rfl,hroom,hdone,hlt0,hnx⟩:=hrel
  by_cases hlt:k < n
  ·obtain ⟨b,off,s,rfl,hs,hr,hb⟩:=H.out.at hlt
   have HS:Hid (zs[k]? = some s):=hs
   clear hs
   obtain ⟨h0,h1,h2,h3,h4⟩:=hr.below hnx hb
   have HD:Hid (qJ6 wr w.heap.size n∧qZ4 wr w.heap.size (zs.take k)):=⟨hroom,hdone⟩
   clear hroom hdone hr
   have hlt':(k:Int) < (n:Int):=by omega
   go_wp2_with fail
   refine (qE9 s _).mono ?_
   rintro e w1 ⟨rfl,hb1⟩
   obtain ⟨⟨hc,hf⟩,hd⟩:=HD.out
   have hz1:=hb1.size
   have HD1:Hid (qJ6 w1 w.heap.size n∧qZ4 w1 w.heap.size (zs.take k)∧Below w.heap.size w w1) :=
    ⟨⟨fun j hj=>by obtain ⟨v,e⟩:=hc j hj;exact ⟨v,(hb1.cell (p:=⟨w.heap.size,j,none⟩) hlt0).trans e⟩,fun j=>(hb1.frozen (p:=⟨w.heap.size,j,none⟩) hlt0).trans (hf j)⟩,hd.below hb1,hnx.trans (hb1.mono hnx.size)⟩
   clear hc hf hd HD h0 h1 h2 h3 h4
   obtain ⟨v0,c0⟩:=HD1.out.1.1 (k * 5) (by omega)
   obtain ⟨v1,c1⟩:=HD1.out.1.1 (k * 5+1) (by omega)
   obtain ⟨v2,c2⟩:=HD1.out.1.1 (k * 5+2) (by omega)
   obtain ⟨v3,c3⟩:=HD1.out.1.1 (k * 5+3) (by omega)
   obtain ⟨v4,c4⟩:=HD1.out.1.1 (k * 5+4) (by omega)
   have f0:=HD1.out.1.2 (k * 5)
   have f1:=HD1.out.1.2 (k * 5+1)
   have f2:=HD1.out.1.2 (k * 5+2)
   have f3:=HD1.out.1.2 (k * 5+3)
   have f4:=HD1.out.1.2 (k * 5+4)
   have RM:Hid (qJ6 (StPut w1 w.heap.size (k * 5) s) w.heap.size n∧qZ4 (StPut w1 w.heap.size (k * 5) s) w.heap.size (zs.take (k+1))∧Below w.heap.size w (StPut w1 w.heap.size (k * 5) s)):=by
    have h2:=StPut_room HD1.out.1 HD1.out.2.1 HS.out hlt
    exact ⟨h2.1,h2.2,StPut_below HD1.out.2.2 (Nat.le_refl _) s⟩
   go_wp2
   exact ⟨⟨k+1,by omega,by go_num,RM.out.1,RM.out.2.1,by simp only [World.size_setCell];omega,RM.out.2.2⟩,by simp [intOf];omega⟩
  ·have hkn:k=n:=by omega
   subst hkn
   rw [List.take_of_length_le (by rw [hz.out];exact Nat.le_refl _)] at hdone
   go_wp2
   go_ret
   exact ⟨rfl,hdone,hlt0,hnx,hroom⟩
theorem QH6 (x:StI) (w:World) :
  Calls Tryz.prog 66 #[.agg #[.int .i64 x.k,.int .i64 x.e,.int .i64 x.f,.int .i64 x.s,.int .i64 x.n],.agg #[.int .i64 x.k,.int .i64 x.e,.int .i64 x.f,.int .i64 x.s,.int .i64 x.n]] w fun e w'=>e = .returned (.bool true)∧Below w.heap.size w w':=by
 go_enter Tryz.func66,Tryz.ntmps66
 go_wp2
 go_ret
 exact ⟨rfl,by go_grown⟩
theorem QF7 (a b:Option Addr) (n c d:Nat) (zs:List StI) (w:World) (hn:n≤1048576) (ha:qM5 w a n zs) (hb:qM5 w b n zs) :
  Calls Tryz.prog 38 #[.slice a n c,.slice b n d] w fun e w'=>e = .returned (.bool true)∧Below w.heap.size w w':=by
 have HA:Hid (qM5 w a n zs):=ha
 have HB:Hid (qM5 w b n zs):=hb
 clear ha hb
 have hn':(n:Int)≤1048576:=by omega
 go_enter Tryz.func38,Tryz.ntmps38
 go_wp2
 go_loopw [5] (fun i wr=>∃ k:Nat,k≤n∧i = .int .i64 (k:Int)∧Below w.heap.size w wr) (fun i _=>n - (intOf i).toNat)
 case atStart=>exact ⟨0,Nat.zero_le _,rfl,Below.refl _ _⟩
 case round =>
  obtain ⟨k,hk,rfl,hnx⟩:=hrel
  by_cases hlt:k < n
  ·obtain ⟨b1,o1,s,e1,hs,hr,hl1⟩:=HA.out.at hlt
   obtain ⟨b2,o2,s2,e2,hs2,hr2,hl2⟩:=HB.out.at hlt
   obtain rfl:s=s2:=Option.some.inj (hs.symm.trans hs2)
   subst e1 e2
   clear hs hs2
   obtain ⟨h0,h1,h2,h3,h4⟩:=hr.below hnx hl1
   obtain ⟨g0,g1,g2,g3,g4⟩:=hr2.below hnx hl2
   clear hr hr2
   have hlt':(k:Int) < (n:Int):=by omega
   have hb1:b1 < wr.heap.size:=zL wr ⟨b1,o1+k * 5,none⟩ h0
   have hb2:b2 < wr.heap.size:=zL wr ⟨b2,o2+k * 5,none⟩ g0
   go_wp2
   go_region_held3 (fun w'=>(∀ b o,b < wr.heap.size→w'.cell? ⟨b,o,none⟩=wr.cell? ⟨b,o,none⟩)∧Below wr.heap.size wr w') (first | exact hS | exact qB4 _)
    (first | (go_at_call 66;refine (QH6 s _).mono ?_;rintro e w' ⟨rfl,hb1⟩;have hS:=qA0 (by assumption) hb1))
   go_wp2
   exact ⟨⟨k+1,by omega,by go_num,hnx.trans (hS.2.mono hnx.size)⟩,by simp [intOf];omega⟩
  ·have hkn:k=n:=by omega
   subst hkn
   go_wp2
   go_ret
   exact ⟨rfl,hnx⟩

def Box2 (w:World) (B:Nat) (x y:Value):Prop:=w.cell? ⟨B,0,none⟩=some x∧w.cell? ⟨B,1,none⟩=some y
theorem Box2.lt {w:World} {B:Nat} {x y:Value} (h:Box2 w B x y):B < w.heap.size:=zL w ⟨B,0,none⟩ h.1
theorem Box2.below {w w':World} {B:Nat} {x y:Value} (h:Box2 w B x y) (hb:Below w.heap.size w w'):Box2 w' B x y :=
 ⟨(hb.cell (p:=⟨B,0,none⟩) h.lt).trans h.1,(hb.cell (p:=⟨B,1,none⟩) h.lt).trans h.2⟩
theorem Box2.grown {w w':World} {B:Nat} {x y:Value} {row:Option Nat} (h:Box2 w B x y) (hg:w.grownBy w' row) (hne:some B≠row):Box2 w' B x y :=
 ⟨hg.cell h.1 hne,hg.cell h.2 hne⟩
theorem Box2.new (w:World) (x y:Value) (t:TypeId):Box2 (w.alloc (.cells #[x,y] t)) w.heap.size x y:=⟨by simp,by simp⟩

def qC4:List StI→List Value
 | []=>[]
 | p::ps => .int .i64 p.k :: .int .i64 p.e :: .int .i64 p.f :: .int .i64 p.s :: .int .i64 p.n::qC4 ps
theorem qN8 (a b:List StI):qC4 (a++b)=qC4 a++qC4 b:=by
 induction a with
 | nil=>rfl
 | cons p ps ih=>simp [qC4,ih]
theorem QA3 (a:List StI):(qC4 a).length=a.length * 5:=by
 induction a with
 | nil=>rfl
 | cons p ps ih=>simp [qC4,ih];omega
theorem QN1:∀ (a:List StI) (k:Nat) (p:StI),a[k]? = some p→(qC4 a)[k * 5]? = some (.int .i64 p.k)∧(qC4 a)[k * 5+1]? = some (.int .i64 p.e)∧(qC4 a)[k * 5+2]? = some (.int .i64 p.f)∧(qC4 a)[k * 5+3]? = some (.int .i64 p.s)∧(qC4 a)[k * 5+4]? = some (.int .i64 p.n)
 | [],_,_,h=>by simp at h
 | q::qs,0,p,h=>by simp at h;subst h;exact ⟨rfl,rfl,rfl,rfl,rfl⟩
 | q::qs,k+1,p,h=>by
  have:=QN1 qs k p (by simpa using h)
  rw [show (k+1) * 5=k * 5+1+1+1+1+1 by omega,show k * 5+1+1+1+1+1+1=(k * 5+1)+1+1+1+1+1 by omega,show k * 5+1+1+1+1+1+2=(k * 5+2)+1+1+1+1+1 by omega,show k * 5+1+1+1+1+1+3=(k * 5+3)+1+1+1+1+1 by omega,show k * 5+1+1+1+1+1+4=(k * 5+4)+1+1+1+1+1 by omega]
  simpa [qC4] using this
theorem qP1 (a:List StI):∀ u∈qC4 a,u.oneCell'=true:=by
 induction a with
 | nil=>simp [qC4]
 | cons p ps ih =>
  intro u hu
  simp only [qC4,List.mem_cons] at hu
  rcases hu with rfl | rfl | rfl | rfl | rfl | hu
  ·rfl
  ·rfl
  ·rfl
  ·rfl
  ·rfl
  ·exact ih u hu
def qB1 (w:World) (B:Nat) (v:Value) (gs:List StI):Prop:=w.ownsRow B 45 5 v gs.length (qC4 gs)
theorem qB1.shape {w:World} {B:Nat} {v:Value} {gs:List StI} (h:qB1 w B v gs) (hv:v ≠ .slice none 0 0):∃ g cap,v = .slice (some ⟨g,0,none⟩) gs.length cap:=by
 have h0:w.ownsRow B 45 5 v gs.length (qC4 gs):=h
 rcases h0.2 with ⟨h',_⟩ | ⟨g,cap,cur,h',_⟩
 ·exact absurd h' hv
 ·exact ⟨g,cap,h'⟩
theorem qB1.below {w w':World} {B:Nat} {v:Value} {gs:List StI} (h:qB1 w B v gs) (hb:Below w.heap.size w w'):qB1 w' B v gs :=
 World.ownsRow.kept (row:=none) h ⟨hb.os,hb.tape,hb.output,hb.size,fun k hk _=>hb.block k hk⟩ (by cases v.ownBlock <;> simp)
theorem qC5 {w:World} {B B':Nat} {v:Value} {gs:List StI} (h:qB1 w B v gs) (hb:B'≤B):qB1 w B' v gs:=by
 have h0:w.ownsRow B 45 5 v gs.length (qC4 gs):=h
 refine ⟨h0.1,?_⟩
 rcases h0.2 with h' | ⟨g,cap,cur,e,hg,rest⟩
 ·exact .inl h'
 ·exact .inr ⟨g,cap,cur,e,Nat.le_trans hb hg,rest⟩
theorem QR1 {w:World} {B:Nat} {v:Value} {es:List StI} {x:StI} (h:w.ownsRow B 45 5 v (es.length+1) (qC4 es++[.int .i64 x.k,.int .i64 x.e,.int .i64 x.f,.int .i64 x.s,.int .i64 x.n])):qB1 w B v (es++[x]):=by
 unfold qB1
 rw [List.length_append,qN8]
 exact h
theorem ownSt_grown {w1 Z w':World} {B:Nat} {v:Value} {es:List StI} (ho:qB1 Z B v es) (hb:Below B w1 Z) (hg:Z.grownBy w' v.ownBlock) (hB:B≤Z.heap.size):Below B w1 w':=by
 have h0:Z.ownsRow B 45 5 v es.length (qC4 es):=ho
 exact hb.grown hg hB (fun j hj=>(h0.lt j hj).1)
def StV (w:World) (a:Option Addr) (zs:List StI):Prop:=∀ k p,zs[k]? = some p→∃ g,a=some ⟨g,0,none⟩∧qS7 w g (k * 5) p
theorem StV.below {w w':World} {a:Option Addr} {zs:List StI} (h:StV w a zs) (hb:Below w.heap.size w w'):StV w' a zs:=fun k p e=>by
 obtain ⟨g,ha,h1⟩:=h k p e
 exact ⟨g,ha,h1.below hb (zL w ⟨g,k * 5,none⟩ h1.1)⟩
theorem StV.isIn {w:World} {a:Option Addr} {n:Nat} {zs:List StI} (hn:zs.length=n) (h:StV w a zs):qM5 w a n zs:=by
 refine ⟨hn,fun hp=>?_⟩
 obtain ⟨g,ha,_⟩:=h 0 _ (List.getElem?_eq_getElem (by omega))
 refine ⟨g,0,ha,fun k x e=>?_⟩
 obtain ⟨g',ha',hx⟩:=h k x e
 rw [ha] at ha'
 cases ha'
 rw [Nat.zero_add]
 exact hx
theorem qB1.view {w:World} {B:Nat} {a:Option Addr} {n cap:Nat} {zs:List StI} (h:qB1 w B (.slice a n cap) zs):StV w a zs:=by
 intro k p e
 have hk:k < zs.length:=by
  by_cases q:k < zs.length
  ·exact q
  ·rw [List.getElem?_eq_none (by omega)] at e;cases e
 have h0:w.ownsRow B 45 5 (.slice a n cap) zs.length (qC4 zs):=h
 rcases h0.2 with ⟨h',h''⟩ | ⟨g,cap',cur,h',_⟩
 ·omega
 ·simp at h'
  obtain ⟨rfl,rfl,rfl⟩:=h'
  obtain ⟨f0,f1,f2,f3,f4⟩:=QN1 zs k p e
  exact ⟨g,rfl,(h0.cellAt (k * 5) (by omega)).trans f0,(h0.cellAt (k * 5+1) (by omega)).trans f1,(h0.cellAt (k * 5+2) (by omega)).trans f2,(h0.cellAt (k * 5+3) (by omega)).trans f3,(h0.cellAt (k * 5+4) (by omega)).trans f4⟩
theorem qB1.form {w:World} {B:Nat} {v:Value} {zs:List StI} (h:qB1 w B v zs):(v = .slice none 0 0∧zs=[])∨∃ g cap,v = .slice (some ⟨g,0,none⟩) zs.length cap∧B≤g∧g < w.heap.size∧zs.length≤cap∧cap≤maxLen:=by
 have h0:w.ownsRow B 45 5 v zs.length (qC4 zs):=h
 rcases h0.2 with ⟨h',h''⟩ | ⟨g,cap',cur,h',hb,hg,hc,hm,_⟩
 ·exact .inl ⟨h',List.length_eq_zero_iff.1 h''⟩
 ·exact .inr ⟨g,cap',h',hb,(Array.getElem?_eq_some_iff.1 hg).1,hc,hm⟩
theorem qB1.slice {w:World} {B:Nat} {v:Value} {zs:List StI} (h:qB1 w B v zs):∃ a cap,v = .slice a zs.length cap:=by
 rcases h.form with ⟨rfl,rfl⟩ | ⟨g,cap,rfl,_⟩
 ·exact ⟨none,0,rfl⟩
 ·exact ⟨_,_,rfl⟩
def QX1 (n:Nat):List StI:=(List.range n).map fun j=>(⟨((1+5 * j:Nat):Int),((2+5 * j:Nat):Int),((3+5 * j:Nat):Int),((4+5 * j:Nat):Int),((5+5 * j:Nat):Int)⟩:StI)
theorem mkSt_len (n:Nat):(QX1 n).length=n:=by simp [QX1]
theorem mkSt_at (n j:Nat) (h:j < n):(QX1 n)[j]? = some (⟨((1+5 * j:Nat):Int),((2+5 * j:Nat):Int),((3+5 * j:Nat):Int),((4+5 * j:Nat):Int),((5+5 * j:Nat):Int)⟩:StI):=by simp [QX1,h]
theorem flatSt_set (a:List StI) (k:Nat) (p:StI):qC4 (a.set k p)=((((((qC4 a).set (k * 5) (.int .i64 p.k)).set (k * 5+1) (.int .i64 p.e)).set (k * 5+2) (.int .i64 p.f)).set (k * 5+3) (.int .i64 p.s)).set (k * 5+4) (.int .i64 p.n)):=by
 induction a generalizing k with
 | nil=>simp [qC4]
 | cons q qs ih =>
  cases k with
  | zero=>simp [qC4]
  | succ k =>
   rw [show (k+1) * 5=k * 5+1+1+1+1+1 by omega]
   simp [qC4,ih]
theorem qB1.put {w:World} {B g cap:Nat} {zs:List StI} {n:Nat} (hn:n=zs.length) (h:qB1 w B (.slice (some ⟨g,0,none⟩) n cap) zs) (j:Nat) (p:StI) :
  qB1 (((((w.setCell ⟨g,j * 5,none⟩ (.int .i64 p.k)).setCell ⟨g,j * 5+1,none⟩ (.int .i64 p.e)).setCell ⟨g,j * 5+2,none⟩ (.int .i64 p.f)).setCell ⟨g,j * 5+3,none⟩ (.int .i64 p.s)).setCell ⟨g,j * 5+4,none⟩ (.int .i64 p.n)) B (.slice (some ⟨g,0,none⟩) n cap) (zs.set j p)∧w.grownBy (((((w.setCell ⟨g,j * 5,none⟩ (.int .i64 p.k)).setCell ⟨g,j * 5+1,none⟩ (.int .i64 p.e)).setCell ⟨g,j * 5+2,none⟩ (.int .i64 p.f)).setCell ⟨g,j * 5+3,none⟩ (.int .i64 p.s)).setCell ⟨g,j * 5+4,none⟩ (.int .i64 p.n)) (some g):=by
 subst hn
 have h0:w.ownsRow B 45 5 (.slice (some ⟨g,0,none⟩) zs.length cap) zs.length (qC4 zs):=h
 have h1:=h0.stored (j * 5) (.int .i64 p.k)
 have h2:=h1.1.stored (j * 5+1) (.int .i64 p.e)
 have h3:=h2.1.stored (j * 5+2) (.int .i64 p.f)
 have h4:=h3.1.stored (j * 5+3) (.int .i64 p.s)
 have h5:=h4.1.stored (j * 5+4) (.int .i64 p.n)
 refine ⟨?_,qF9 (qF9 (qF9 (qF9 h1.2 h2.2) h3.2) h4.2) h5.2⟩
 show World.ownsRow _ B 45 5 _ (zs.set j p).length (qC4 (zs.set j p))
 rw [flatSt_set,List.length_set]
 exact h5.1
theorem qB1.cell {w:World} {B g cap:Nat} {zs:List StI} {n:Nat} (hn:n=zs.length) (h:qB1 w B (.slice (some ⟨g,0,none⟩) n cap) zs) (j:Nat) (hj:j < n * 5):(∃ v,w.cell? ⟨g,j,none⟩=some v)∧w.frozen? ⟨g,j,none⟩=false:=by
 subst hn
 have h0:w.ownsRow B 45 5 (.slice (some ⟨g,0,none⟩) zs.length cap) zs.length (qC4 zs):=h
 exact ⟨⟨_,(h0.cellAt j hj).trans (List.getElem?_eq_getElem (by rw [QA3];exact hj))⟩,h0.frozenAt j⟩
theorem QH2 (B:Nat) (a:Option Addr) (n cap:Nat) (zs:List StI) (w:World) (hz:n=zs.length) (hn:n≤1048576) (h:qB1 w B (.slice a n cap) zs) :
  Calls Tryz.prog 44 #[.slice a n cap,.int .i64 1] w fun e w'=>e = .returned (.int .i64 (1+5 * (n:Int)))∧qB1 w' B (.slice a n cap) (QX1 n)∧w.grownBy w' (Value.slice a n cap).ownBlock:=by
 have HO:Hid (qB1 w B (.slice a n cap) zs):=h
 have HZ:Hid (n=zs.length):=hz
 clear h hz
 have hn':(n:Int)≤1048576:=by omega
 go_enter Tryz.func44,Tryz.ntmps44
 go_wp2
 go_loopw [1,5] (fun q i wr=>∃ (j:Nat) (es:List StI),j≤n∧i = .int .i64 (j:Int)∧q = .int .i64 (1+5 * (j:Int))∧n=es.length∧qB1 wr B (.slice a n cap) es∧(∀ m,m < j→es[m]? = some (⟨((1+5 * m:Nat):Int),((2+5 * m:Nat):Int),((3+5 * m:Nat):Int),((4+5 * m:Nat):Int),((5+5 * m:Nat):Int)⟩:StI))∧w.grownBy wr (Value.slice a n cap).ownBlock)
  (fun _ i _=>n - (intOf i).toNat)
 case atStart=>exact ⟨0,zs,Nat.zero_le _,rfl,rfl,HZ.out,HO.out,fun m hm=>by omega,qM8 _ _⟩
 case round =>
  obtain ⟨j,es,hj,rfl,rfl,hes,hown,hys,hgr⟩:=hrel
  have HE:Hid (n=es.length):=hes
  clear hes
  by_cases hlt:j < n
  ·obtain ⟨g,ha⟩:∃ g,a=some ⟨g,0,none⟩:=by
    rcases hown.form with ⟨h1,h2⟩ | ⟨g,cap',h1,_⟩
    ·have:=HE.out;rw [h2] at this;simp at this;omega
    ·simp at h1;exact ⟨g,h1.1⟩
   subst ha
   obtain ⟨⟨v0,c0⟩,f0⟩:=hown.cell HE.out (j * 5) (by omega)
   obtain ⟨⟨v1,c1⟩,f1⟩:=hown.cell HE.out (j * 5+1) (by omega)
   obtain ⟨⟨v2,c2⟩,f2⟩:=hown.cell HE.out (j * 5+2) (by omega)
   obtain ⟨⟨v3,c3⟩,f3⟩:=hown.cell HE.out (j * 5+3) (by omega)
   obtain ⟨⟨v4,c4⟩,f4⟩:=hown.cell HE.out (j * 5+4) (by omega)
   have hst:=hown.put HE.out j (⟨1+5 * (j:Int),1+5 * (j:Int)+1,1+5 * (j:Int)+1+1,1+5 * (j:Int)+1+1+1,1+5 * (j:Int)+1+1+1+1⟩:StI)
   have R:Hid (qB1 (((((wr.setCell ⟨g,j * 5,none⟩ (.int .i64 (1+5 * (j:Int)))).setCell ⟨g,j * 5+1,none⟩ (.int .i64 (1+5 * (j:Int)+1))).setCell ⟨g,j * 5+2,none⟩ (.int .i64 (1+5 * (j:Int)+1+1))).setCell ⟨g,j * 5+3,none⟩ (.int .i64 (1+5 * (j:Int)+1+1+1))).setCell ⟨g,j * 5+4,none⟩ (.int .i64 (1+5 * (j:Int)+1+1+1+1))) B (.slice (some ⟨g,0,none⟩) n cap) (es.set j (⟨1+5 * (j:Int),1+5 * (j:Int)+1,1+5 * (j:Int)+1+1,1+5 * (j:Int)+1+1+1,1+5 * (j:Int)+1+1+1+1⟩:StI))∧(∀ m,m < j+1→(es.set j (⟨1+5 * (j:Int),1+5 * (j:Int)+1,1+5 * (j:Int)+1+1,1+5 * (j:Int)+1+1+1,1+5 * (j:Int)+1+1+1+1⟩:StI))[m]? = some (⟨((1+5 * m:Nat):Int),((2+5 * m:Nat):Int),((3+5 * m:Nat):Int),((4+5 * m:Nat):Int),((5+5 * m:Nat):Int)⟩:StI))∧w.grownBy (((((wr.setCell ⟨g,j * 5,none⟩ (.int .i64 (1+5 * (j:Int)))).setCell ⟨g,j * 5+1,none⟩ (.int .i64 (1+5 * (j:Int)+1))).setCell ⟨g,j * 5+2,none⟩ (.int .i64 (1+5 * (j:Int)+1+1))).setCell ⟨g,j * 5+3,none⟩ (.int .i64 (1+5 * (j:Int)+1+1+1))).setCell ⟨g,j * 5+4,none⟩ (.int .i64 (1+5 * (j:Int)+1+1+1+1))) (some g)):=by
    refine ⟨hst.1,fun m hm=>?_,qF9 hgr hst.2⟩
    have:=HE.out
    by_cases e:m=j
    ·subst e;rw [List.getElem?_set_self (by omega)];simp only [Option.some.injEq,StI.mk.injEq];omega
    ·rw [List.getElem?_set_ne (by omega)];exact hys m (by omega)
   clear hst hown hys hgr
   have hlt':(j:Int) < (n:Int):=by omega
   go_wp2
   refine ⟨⟨j+1,_,by omega,by go_num,?_,by rw [List.length_set];exact HE.out,R.out.1,R.out.2.1,R.out.2.2⟩,by simp [intOf];omega⟩
   congr 1
  ·have hjn:j=n:=by omega
   subst hjn
   have E:es=QX1 j:=by
    have:=HE.out
    apply List.ext_getElem?
    intro i
    by_cases hi:i < j
    ·rw [hys i hi,mkSt_at j i hi]
    ·rw [List.getElem?_eq_none (by omega),List.getElem?_eq_none (by rw [mkSt_len];omega)]
   rw [E] at hown
   go_wp2
   go_ret
   exact ⟨rfl,hown,hgr⟩
theorem QH4 (a:Option Addr) (n cap:Nat) (w:World) (hn:n≤1048576) (h:StV w a (QX1 n)) :
  Calls Tryz.prog 83 #[.slice a n cap,.int .i64 1] w fun e w'=>e = .returned (.int .i64 (1+5 * (n:Int)))∧w=w':=by
 have HR:Hid (StV w a (QX1 n)):=h
 clear h
 have hn':(n:Int)≤1048576:=by omega
 go_enter Tryz.func83,Tryz.ntmps83
 go_wp2
 go_loop [1,5] (fun q i=>∃ (j:Nat),j≤n∧i = .int .i64 (j:Int)∧q = .int .i64 (1+5 * (j:Int))) (fun _ i=>n - (intOf i).toNat)
 case atStart=>exact ⟨0,Nat.zero_le _,rfl,rfl⟩
 case round =>
  obtain ⟨j,hj,rfl,rfl⟩:=hrel
  by_cases hlt:j < n
  ·obtain ⟨g,ha,c0,c1,c2,c3,c4⟩:=HR.out j _ (mkSt_at n j hlt)
   subst ha
   simp only [show ((1+5 * j:Nat):Int)=1+5 * (j:Int) from by omega,show ((2+5 * j:Nat):Int)=1+5 * (j:Int)+1 from by omega,show ((3+5 * j:Nat):Int)=1+5 * (j:Int)+1+1 from by omega,show ((4+5 * j:Nat):Int)=1+5 * (j:Int)+1+1+1 from by omega,show ((5+5 * j:Nat):Int)=1+5 * (j:Int)+1+1+1+1 from by omega] at c0 c1 c2 c3 c4
   have hlt':(j:Int) < (n:Int):=by omega
   go_wp2
   refine ⟨⟨j+1,by omega,by go_num,?_⟩,by simp [intOf];omega⟩
   congr 1
  ·have hjn:j=n:=by omega
   subst hjn
   go_wp2
   go_ret
   exact ⟨rfl,rfl⟩
theorem qJ6.below {w w':World} {g n:Nat} (h:qJ6 w g n) (hg:g < w.heap.size) (hb:Below w.heap.size w w'):qJ6 w' g n :=
 ⟨fun j hj=>by obtain ⟨v,e⟩:=h.1 j hj;exact ⟨v,(hb.cell (p:=⟨g,j,none⟩) hg).trans e⟩,fun j=>(hb.frozen (p:=⟨g,j,none⟩) hg).trans (h.2 j)⟩
theorem qJ6.grown {w w':World} {g n:Nat} {row:Option Nat} (h:qJ6 w g n) (hg:g < w.heap.size) (hr:w.grownBy w' row) (hne:some g≠row):qJ6 w' g n :=
 ⟨fun j hj=>by obtain ⟨v,e⟩:=h.1 j hj;exact ⟨v,hr.cell e hne⟩,fun j=>by
  have:=h.2 j
  unfold World.frozen? at this ⊢
  simp only at this ⊢
  rw [hr.block g hg hne]
  exact this⟩
theorem qJ6.set {w:World} {g n:Nat} (h:qJ6 w g n) (o:Nat) (v:Value):qJ6 (w.setCell ⟨g,o,none⟩ v) g n:=by
 refine ⟨fun j hj=>?_,fun j=>by simp only [World.frozen?_setCell];exact h.2 j⟩
 obtain ⟨u,e⟩:=h.1 j hj
 by_cases q:j=o
 ·subst q
  exact ⟨v,by simp [go_sem,e]⟩
 ·exact ⟨u,by rw [World.cell?_setCell_other (h:=fun e=>q (by have:=congrArg Addr.off e;simp at this;omega))];exact e⟩
theorem QA5 (g n cap:Nat) (k0:Int) (w:World) (hn:n≤1048576) (h0:0≤k0) (h1:k0≤100000000) (h:qJ6 w g n) :
  Calls Tryz.prog 44 #[.slice (some ⟨g,0,none⟩) n cap,.int .i64 k0] w fun e w'=>e = .returned (.int .i64 (k0+5 * (n:Int)))∧w.grownBy w' (some g):=by
 have HO:Hid (qJ6 w g n):=h
 clear h
 have hn':(n:Int)≤1048576:=by omega
 go_enter Tryz.func44,Tryz.ntmps44
 go_wp2
 go_loopw [1,5] (fun q i wr=>∃ (j:Nat),j≤n∧i = .int .i64 (j:Int)∧q = .int .i64 (k0+5 * (j:Int))∧qJ6 wr g n∧w.grownBy wr (some g))
  (fun _ i _=>n - (intOf i).toNat)
 case atStart=>exact ⟨0,Nat.zero_le _,rfl,by simp,HO.out,qM8 _ _⟩
 case round =>
  obtain ⟨j,hj,rfl,rfl,hroom,hgr⟩:=hrel
  have HG:Hid (qJ6 wr g n∧w.grownBy wr (some g)):=⟨hroom,hgr⟩
  by_cases hlt:j < n
  ·have hlt':(j:Int) < (n:Int):=by omega
   obtain ⟨v0,c0⟩:=hroom.1 (j * 5) (by omega)
   have f0:=hroom.2 (j * 5)
   obtain ⟨v1,c1⟩:=hroom.1 (j * 5+1) (by omega)
   have f1:=hroom.2 (j * 5+1)
   obtain ⟨v2,c2⟩:=hroom.1 (j * 5+2) (by omega)
   have f2:=hroom.2 (j * 5+2)
   obtain ⟨v3,c3⟩:=hroom.1 (j * 5+3) (by omega)
   have f3:=hroom.2 (j * 5+3)
   obtain ⟨v4,c4⟩:=hroom.1 (j * 5+4) (by omega)
   have f4:=hroom.2 (j * 5+4)
   clear hroom hgr
   go_wp2
   refine ⟨⟨j+1,by omega,by go_num,?_,?_,?_⟩,by simp [intOf];omega⟩
   ·congr 1;omega
   ·exact (((((HG.out.1.set _ _).set _ _).set _ _).set _ _).set _ _)
   ·exact (qF9 (qF9 (qF9 (qF9 (qF9 HG.out.2 (qJ5 _ _ _ _)) (qJ5 _ _ _ _)) (qJ5 _ _ _ _)) (qJ5 _ _ _ _)) (qJ5 _ _ _ _))
  ·have hjn:j=n:=by omega
   subst hjn
   go_wp2
   go_ret
   exact ⟨rfl,hgr⟩
theorem QK6 {W:World} {B:Nat} {a:Option Addr} {n cap:Nat} {ys:List StI} (h:qB1 W B (.slice a n cap) ys):∀ q,(Value.slice a n cap).ownBlock=some q→B≤q∧q < W.heap.size:=by
 have h0:W.ownsRow B 45 5 (.slice a n cap) ys.length (qC4 ys):=h
 exact fun q e=>h0.lt q e

def qA3:List LkI→List Value
 | []=>[]
 | p::ps => .int .i64 p.e :: .int .i64 p.c :: .int .i64 p.p :: .int .i64 p.f::qA3 ps
theorem qR3 (a b:List LkI):qA3 (a++b)=qA3 a++qA3 b:=by
 induction a with
 | nil=>rfl
 | cons p ps ih=>simp [qA3,ih]
theorem qF4 (a:List LkI):(qA3 a).length=a.length * 4:=by
 induction a with
 | nil=>rfl
 | cons p ps ih=>simp [qA3,ih];omega
theorem QN2:∀ (a:List LkI) (k:Nat) (p:LkI),a[k]? = some p→(qA3 a)[k * 4]? = some (.int .i64 p.e)∧(qA3 a)[k * 4+1]? = some (.int .i64 p.c)∧(qA3 a)[k * 4+2]? = some (.int .i64 p.p)∧(qA3 a)[k * 4+3]? = some (.int .i64 p.f)
 | [],_,_,h=>by simp at h
 | q::qs,0,p,h=>by simp at h;subst h;exact ⟨rfl,rfl,rfl,rfl⟩
 | q::qs,k+1,p,h=>by
  have:=QN2 qs k p (by simpa using h)
  rw [show (k+1) * 4=k * 4+1+1+1+1 by omega,show k * 4+1+1+1+1+1=(k * 4+1)+1+1+1+1 by omega,show k * 4+1+1+1+1+2=(k * 4+2)+1+1+1+1 by omega,show k * 4+1+1+1+1+3=(k * 4+3)+1+1+1+1 by omega]
  simpa [qA3] using this
theorem qP2 (a:List LkI):∀ u∈qA3 a,u.oneCell'=true:=by
 induction a with
 | nil=>simp [qA3]
 | cons p ps ih =>
  intro u hu
  simp only [qA3,List.mem_cons] at hu
  rcases hu with rfl | rfl | rfl | rfl | hu
  ·rfl
  ·rfl
  ·rfl
  ·rfl
  ·exact ih u hu
def qA5 (w:World) (B:Nat) (v:Value) (gs:List LkI):Prop:=w.ownsRow B 98 4 v gs.length (qA3 gs)
theorem qA5.shape {w:World} {B:Nat} {v:Value} {gs:List LkI} (h:qA5 w B v gs) (hv:v ≠ .slice none 0 0):∃ g cap,v = .slice (some ⟨g,0,none⟩) gs.length cap:=by
 have h0:w.ownsRow B 98 4 v gs.length (qA3 gs):=h
 rcases h0.2 with ⟨h',_⟩ | ⟨g,cap,cur,h',_⟩
 ·exact absurd h' hv
 ·exact ⟨g,cap,h'⟩
theorem qA5.below {w w':World} {B:Nat} {v:Value} {gs:List LkI} (h:qA5 w B v gs) (hb:Below w.heap.size w w'):qA5 w' B v gs :=
 World.ownsRow.kept (row:=none) h ⟨hb.os,hb.tape,hb.output,hb.size,fun k hk _=>hb.block k hk⟩ (by cases v.ownBlock <;> simp)
theorem qA9 {w:World} {B B':Nat} {v:Value} {gs:List LkI} (h:qA5 w B v gs) (hb:B'≤B):qA5 w B' v gs:=by
 have h0:w.ownsRow B 98 4 v gs.length (qA3 gs):=h
 refine ⟨h0.1,?_⟩
 rcases h0.2 with h' | ⟨g,cap,cur,e,hg,rest⟩
 ·exact .inl h'
 ·exact .inr ⟨g,cap,cur,e,Nat.le_trans hb hg,rest⟩
theorem qV4 {w:World} {B:Nat} {v:Value} {es:List LkI} {x:LkI} (h:w.ownsRow B 98 4 v (es.length+1) (qA3 es++[.int .i64 x.e,.int .i64 x.c,.int .i64 x.p,.int .i64 x.f])):qA5 w B v (es++[x]):=by
 unfold qA5
 rw [List.length_append,qR3]
 exact h
theorem QC1 {w1 Z w':World} {B:Nat} {v:Value} {es:List LkI} (ho:qA5 Z B v es) (hb:Below B w1 Z) (hg:Z.grownBy w' v.ownBlock) (hB:B≤Z.heap.size):Below B w1 w':=by
 have h0:Z.ownsRow B 98 4 v es.length (qA3 es):=ho
 exact hb.grown hg hB (fun j hj=>(h0.lt j hj).1)
def LkV (w:World) (a:Option Addr) (zs:List LkI):Prop:=∀ k p,zs[k]? = some p→∃ g,a=some ⟨g,0,none⟩∧QC7 w g (k * 4) p
theorem LkV.below {w w':World} {a:Option Addr} {zs:List LkI} (h:LkV w a zs) (hb:Below w.heap.size w w'):LkV w' a zs:=fun k p e=>by
 obtain ⟨g,ha,h1⟩:=h k p e
 exact ⟨g,ha,h1.below hb (zL w ⟨g,k * 4,none⟩ h1.1)⟩
theorem LkV.isIn {w:World} {a:Option Addr} {n:Nat} {zs:List LkI} (hn:zs.length=n) (h:LkV w a zs):qK1 w a n zs:=by
 refine ⟨hn,fun hp=>?_⟩
 obtain ⟨g,ha,_⟩:=h 0 _ (List.getElem?_eq_getElem (by omega))
 refine ⟨g,0,ha,fun k x e=>?_⟩
 obtain ⟨g',ha',hx⟩:=h k x e
 rw [ha] at ha'
 cases ha'
 rw [Nat.zero_add]
 exact hx
theorem qA5.view {w:World} {B:Nat} {a:Option Addr} {n cap:Nat} {zs:List LkI} (h:qA5 w B (.slice a n cap) zs):LkV w a zs:=by
 intro k p e
 have hk:k < zs.length:=by
  by_cases q:k < zs.length
  ·exact q
  ·rw [List.getElem?_eq_none (by omega)] at e;cases e
 have h0:w.ownsRow B 98 4 (.slice a n cap) zs.length (qA3 zs):=h
 rcases h0.2 with ⟨h',h''⟩ | ⟨g,cap',cur,h',_⟩
 ·omega
 ·simp at h'
  obtain ⟨rfl,rfl,rfl⟩:=h'
  obtain ⟨f0,f1,f2,f3⟩:=QN2 zs k p e
  exact ⟨g,rfl,(h0.cellAt (k * 4) (by omega)).trans f0,(h0.cellAt (k * 4+1) (by omega)).trans f1,(h0.cellAt (k * 4+2) (by omega)).trans f2,(h0.cellAt (k * 4+3) (by omega)).trans f3⟩
theorem qA5.form {w:World} {B:Nat} {v:Value} {zs:List LkI} (h:qA5 w B v zs):(v = .slice none 0 0∧zs=[])∨∃ g cap,v = .slice (some ⟨g,0,none⟩) zs.length cap∧B≤g∧g < w.heap.size∧zs.length≤cap∧cap≤maxLen:=by
 have h0:w.ownsRow B 98 4 v zs.length (qA3 zs):=h
 rcases h0.2 with ⟨h',h''⟩ | ⟨g,cap',cur,h',hb,hg,hc,hm,_⟩
 ·exact .inl ⟨h',List.length_eq_zero_iff.1 h''⟩
 ·exact .inr ⟨g,cap',h',hb,(Array.getElem?_eq_some_iff.1 hg).1,hc,hm⟩
theorem qA5.slice {w:World} {B:Nat} {v:Value} {zs:List LkI} (h:qA5 w B v zs):∃ a cap,v = .slice a zs.length cap:=by
 rcases h.form with ⟨rfl,rfl⟩ | ⟨g,cap,rfl,_⟩
 ·exact ⟨none,0,rfl⟩
 ·exact ⟨_,_,rfl⟩
theorem qA5.alloc {w:World} {B:Nat} {v:Value} {zs:List LkI} (h:qA5 w B v zs) (o:Obj):qA5 (w.alloc o) B v zs:=World.ownsRow.alloc h o
theorem flatLk_set (a:List LkI) (k:Nat) (p:LkI):qA3 (a.set k p)=(((((qA3 a).set (k * 4) (.int .i64 p.e)).set (k * 4+1) (.int .i64 p.c)).set (k * 4+2) (.int .i64 p.p)).set (k * 4+3) (.int .i64 p.f)):=by
 induction a generalizing k with
 | nil=>simp [qA3]
 | cons q qs ih =>
  cases k with
  | zero=>simp [qA3]
  | succ k =>
   rw [show (k+1) * 4=k * 4+1+1+1+1 by omega]
   simp [qA3,ih]
theorem qA5.put {w:World} {B g cap:Nat} {zs:List LkI} {n:Nat} (hn:n=zs.length) (h:qA5 w B (.slice (some ⟨g,0,none⟩) n cap) zs) (j:Nat) (p:LkI) :
  qA5 ((((w.setCell ⟨g,j * 4,none⟩ (.int .i64 p.e)).setCell ⟨g,j * 4+1,none⟩ (.int .i64 p.c)).setCell ⟨g,j * 4+2,none⟩ (.int .i64 p.p)).setCell ⟨g,j * 4+3,none⟩ (.int .i64 p.f)) B (.slice (some ⟨g,0,none⟩) n cap) (zs.set j p)∧w.grownBy ((((w.setCell ⟨g,j * 4,none⟩ (.int .i64 p.e)).setCell ⟨g,j * 4+1,none⟩ (.int .i64 p.c)).setCell ⟨g,j * 4+2,none⟩ (.int .i64 p.p)).setCell ⟨g,j * 4+3,none⟩ (.int .i64 p.f)) (some g):=by
 subst hn
 have h0:w.ownsRow B 98 4 (.slice (some ⟨g,0,none⟩) zs.length cap) zs.length (qA3 zs):=h
 have h1:=h0.stored (j * 4) (.int .i64 p.e)
 have h2:=h1.1.stored (j * 4+1) (.int .i64 p.c)
 have h3:=h2.1.stored (j * 4+2) (.int .i64 p.p)
 have h4:=h3.1.stored (j * 4+3) (.int .i64 p.f)
 refine ⟨?_,qF9 (qF9 (qF9 h1.2 h2.2) h3.2) h4.2⟩
 show World.ownsRow _ B 98 4 _ (zs.set j p).length (qA3 (zs.set j p))
 rw [flatLk_set,List.length_set]
 exact h4.1
theorem qA5.cell {w:World} {B g cap:Nat} {zs:List LkI} {n:Nat} (hn:n=zs.length) (h:qA5 w B (.slice (some ⟨g,0,none⟩) n cap) zs) (j:Nat) (hj:j < n * 4):(∃ v,w.cell? ⟨g,j,none⟩=some v)∧w.frozen? ⟨g,j,none⟩=false:=by
 subst hn
 have h0:w.ownsRow B 98 4 (.slice (some ⟨g,0,none⟩) zs.length cap) zs.length (qA3 zs):=h
 exact ⟨⟨_,(h0.cellAt j hj).trans (List.getElem?_eq_getElem (by rw [qF4];exact hj))⟩,h0.frozenAt j⟩
theorem qJ2.below {w w':World} {g n:Nat} (h:qJ2 w g n) (hg:g < w.heap.size) (hb:Below w.heap.size w w'):qJ2 w' g n :=
 ⟨fun j hj=>by obtain ⟨v,e⟩:=h.1 j hj;exact ⟨v,(hb.cell (p:=⟨g,j,none⟩) hg).trans e⟩,fun j=>(hb.frozen (p:=⟨g,j,none⟩) hg).trans (h.2 j)⟩
theorem qJ2.grown {w w':World} {g n:Nat} {row:Option Nat} (h:qJ2 w g n) (hg:g < w.heap.size) (hr:w.grownBy w' row) (hne:some g≠row):qJ2 w' g n :=
 ⟨fun j hj=>by obtain ⟨v,e⟩:=h.1 j hj;exact ⟨v,hr.cell e hne⟩,fun j=>by
  have:=h.2 j
  unfold World.frozen? at this ⊢
  simp only at this ⊢
  rw [hr.block g hg hne]
  exact this⟩
theorem qJ2.set {w:World} {g n:Nat} (h:qJ2 w g n) (o:Nat) (v:Value):qJ2 (w.setCell ⟨g,o,none⟩ v) g n:=by
 refine ⟨fun j hj=>?_,fun j=>by simp only [World.frozen?_setCell];exact h.2 j⟩
 obtain ⟨u,e⟩:=h.1 j hj
 by_cases q:j=o
 ·subst q
  exact ⟨v,by simp [go_sem,e]⟩
 ·exact ⟨u,by rw [World.cell?_setCell_other (h:=fun e=>q (by have:=congrArg Addr.off e;simp at this;omega))];exact e⟩
theorem QL4 (g n cap:Nat) (k0:Int) (w:World) (hn:n≤1048576) (h0:0≤k0) (h1:k0≤100000000) (h:qJ2 w g n) :
  Calls Tryz.prog 45 #[.slice (some ⟨g,0,none⟩) n cap,.int .i64 k0] w fun e w'=>e = .returned (.int .i64 (k0+4 * (n:Int)))∧w.grownBy w' (some g):=by
 have HO:Hid (qJ2 w g n):=h
 clear h
 have hn':(n:Int)≤1048576:=by omega
 go_enter Tryz.func45,Tryz.ntmps45
 go_wp2
 go_loopw [1,5] (fun q i wr=>∃ (j:Nat),j≤n∧i = .int .i64 (j:Int)∧q = .int .i64 (k0+4 * (j:Int))∧qJ2 wr g n∧w.grownBy wr (some g))
  (fun _ i _=>n - (intOf i).toNat)
 case atStart=>exact ⟨0,Nat.zero_le _,rfl,by simp,HO.out,qM8 _ _⟩
 case round =>
  obtain ⟨j,hj,rfl,rfl,hroom,hgr⟩:=hrel
  have HG:Hid (qJ2 wr g n∧w.grownBy wr (some g)):=⟨hroom,hgr⟩
  by_cases hlt:j < n
  ·have hlt':(j:Int) < (n:Int):=by omega
   obtain ⟨v0,c0⟩:=hroom.1 (j * 4) (by omega)
   have f0:=hroom.2 (j * 4)
   obtain ⟨v1,c1⟩:=hroom.1 (j * 4+1) (by omega)
   have f1:=hroom.2 (j * 4+1)
   obtain ⟨v2,c2⟩:=hroom.1 (j * 4+2) (by omega)
   have f2:=hroom.2 (j * 4+2)
   obtain ⟨v3,c3⟩:=hroom.1 (j * 4+3) (by omega)
   have f3:=hroom.2 (j * 4+3)
   clear hroom hgr
   go_wp2
   refine ⟨⟨j+1,by omega,by go_num,?_,?_,?_⟩,by simp [intOf];omega⟩
   ·congr 1;omega
   ·exact ((((HG.out.1.set _ _).set _ _).set _ _).set _ _)
   ·exact (qF9 (qF9 (qF9 (qF9 HG.out.2 (qJ5 _ _ _ _)) (qJ5 _ _ _ _)) (qJ5 _ _ _ _)) (qJ5 _ _ _ _))
  ·have hjn:j=n:=by omega
   subst hjn
   go_wp2
   go_ret
   exact ⟨rfl,hgr⟩
theorem qV3 {W:World} {B:Nat} {a:Option Addr} {n cap:Nat} {ys:List LkI} (h:qA5 W B (.slice a n cap) ys):∀ q,(Value.slice a n cap).ownBlock=some q→B≤q∧q < W.heap.size:=by
 have h0:W.ownsRow B 98 4 (.slice a n cap) ys.length (qA3 ys):=h
 exact fun q e=>h0.lt q e
theorem QR2 {W W':World} {B q:Nat} {a:Option Addr} {n cap:Nat} {ys:List LkI} (h:qA5 W B (.slice a n cap) ys) (hg:W.grownBy W' (some q)) (hq:q < B):qA5 W' B (.slice a n cap) ys:=by
 refine World.ownsRow.kept h hg ?_
 rcases a with _ | ⟨g,o,sp⟩
 ·rcases h.form with ⟨h1,_⟩ | ⟨g',cap',h1,h2,_⟩
  ·simp at h1;obtain ⟨rfl,rfl⟩:=h1;exact .inl rfl
  ·simp at h1
 ·rcases h.form with ⟨h1,_⟩ | ⟨g',cap',h1,h2,_⟩
  ·simp at h1
  ·simp at h1
   obtain ⟨⟨rfl,rfl,rfl⟩,_⟩:=h1
   exact .inr (by simp [Value.ownBlock];omega)

structure qH4 where
 i:Int
 u:Int
 sa:Option Addr
 sn:Nat
 sc:Nat
 ss:List StI
 la:Option Addr
 ln:Nat
 lc:Nat
 ls:List LkI
deriving Inhabited
structure qE3 (w:World) (r:qH4):Prop where
 said:qM5 w r.sa r.sn r.ss
 locks:qK1 w r.la r.ln r.ls
theorem qE3.below {w w':World} {r:qH4} (h:qE3 w r) (hb:Below w.heap.size w w'):qE3 w' r:=⟨h.said.below hb,h.locks.below hb⟩
structure qL7 (m:Nat) (r:qH4):Prop where
 said:r.sn≤m
 locks:r.ln≤m
structure qH3 (w:World) (L:Nat) (r y:qH4):Prop where
 i:y.i=r.i
 u:y.u=r.u
 sn:y.sn=r.sn
 ln:y.ln=r.ln
 sc:y.sc=r.sn
 lc:y.lc=r.ln
 ss:y.ss=r.ss
 ls:y.ls=r.ls
 sa:y.sa=some ⟨L,0,none⟩
 la:∃ g,y.la=some ⟨g,0,none⟩∧L < g∧g < w.heap.size∧qZ6 w g r.ls∧qJ2 w g r.ln
 sl:qZ4 w L r.ss∧qJ6 w L r.sn
 slt:L < w.heap.size
theorem qH3.below {w w':World} {L:Nat} {r y:qH4} (h:qH3 w L r y) (hb:Below w.heap.size w w'):qH3 w' L r y:=by
 obtain ⟨g,e,h1,h2,h3,h4⟩:=h.la
 exact ⟨h.i,h.u,h.sn,h.ln,h.sc,h.lc,h.ss,h.ls,h.sa,⟨g,e,h1,by have:=hb.size;omega,h3.below hb,h4.below h2 hb⟩,⟨h.sl.1.below hb,h.sl.2.below h.slt hb⟩,by have:=hb.size;have:=h.slt;omega⟩
theorem qH3.isIn {w:World} {L:Nat} {r y:qH4} (h:qH3 w L r y) (h1:r.ss.length=r.sn) (h2:r.ls.length=r.ln):qE3 w y:=by
 obtain ⟨g,e,_,_,h3,_⟩:=h.la
 refine ⟨?_,?_⟩
 ·rw [h.sa,h.sn,h.ss];exact qM5.of h1 h.sl.1
 ·rw [e,h.ln,h.ls];exact qK1.of h2 h3
structure QB5 (w:World) (b:Nat) (u0 u1 u2 u3:Value):Prop where
 c0:w.cell? ⟨b,0,none⟩=some u0
 c1:w.cell? ⟨b,1,none⟩=some u1
 c2:w.cell? ⟨b,2,none⟩=some u2
 c3:w.cell? ⟨b,3,none⟩=some u3
 fz:∀ j,w.frozen? ⟨b,j,none⟩=false
theorem QB5.lt {w:World} {b:Nat} {u0 u1 u2 u3:Value} (h:QB5 w b u0 u1 u2 u3):b < w.heap.size:=zL w ⟨b,0,none⟩ h.c0
theorem QB5.below {w w':World} {b:Nat} {u0 u1 u2 u3:Value} (h:QB5 w b u0 u1 u2 u3) (hb:Below w.heap.size w w'):QB5 w' b u0 u1 u2 u3 :=
 ⟨(hb.cell (p:=⟨b,0,none⟩) h.lt).trans h.c0,(hb.cell (p:=⟨b,1,none⟩) h.lt).trans h.c1,(hb.cell (p:=⟨b,2,none⟩) h.lt).trans h.c2,(hb.cell (p:=⟨b,3,none⟩) h.lt).trans h.c3,fun j=>(hb.frozen (p:=⟨b,j,none⟩) h.lt).trans (h.fz j)⟩
theorem QB5.new (w:World) (u0 u1 u2 u3:Value) (t:TypeId):QB5 (w.alloc (.cells #[u0,u1,u2,u3] t)) w.heap.size u0 u1 u2 u3:=⟨by simp,by simp,by simp,by simp,fun j=>by simp [go_sem]⟩
theorem QB5.put2 {w:World} {b:Nat} {u0 u1 u2 u3:Value} (h:QB5 w b u0 u1 u2 u3) (v:Value):QB5 (w.setCell ⟨b,2,none⟩ v) b u0 u1 v u3:=by
 obtain ⟨h0,h1,h2,h3,hf⟩:=h
 refine ⟨?_,?_,?_,?_,fun j=>by simp [hf]⟩ <;> simp [go_sem,h0,h1,h2,h3]
theorem QB5.put3 {w:World} {b:Nat} {u0 u1 u2 u3:Value} (h:QB5 w b u0 u1 u2 u3) (v:Value):QB5 (w.setCell ⟨b,3,none⟩ v) b u0 u1 u2 v:=by
 obtain ⟨h0,h1,h2,h3,hf⟩:=h
 refine ⟨?_,?_,?_,?_,fun j=>by simp [hf]⟩ <;> simp [go_sem,h0,h1,h2,h3]
theorem qR8 (w:World) (q o:Nat) (v:Value):w.grownBy (w.setCell ⟨q,o,none⟩ v) (some q):=by
 refine ⟨rfl,rfl,rfl,by simp,fun i hi hne=>?_⟩
 have hq:i≠q:=fun e=>hne (by rw [e])
 rw [Below.heap_setCell _ _ _ _ hq]
theorem qY9 {w w1 w2:World} {row:Option Nat} (h:w.grownBy w1 row) (h':w1.grownBy w2 row):w.grownBy w2 row :=
 ⟨h'.os.trans h.os,h'.tape.trans h.tape,h'.output.trans h.output,Nat.le_trans h.size h'.size,fun i hi hne=>by rw [h'.block i (Nat.lt_of_lt_of_le hi h.size) hne];exact h.block i hi hne⟩
theorem QB5.grown {w w':World} {b:Nat} {u0 u1 u2 u3:Value} {row:Option Nat} (h:QB5 w b u0 u1 u2 u3) (hg:w.grownBy w' row) (hne:some b≠row):QB5 w' b u0 u1 u2 u3 :=
 ⟨hg.cell h.c0 hne,hg.cell h.c1 hne,hg.cell h.c2 hne,hg.cell h.c3 hne,fun j=>by
  have:=h.fz j
  unfold World.frozen? at this ⊢
  rw [hg.block b h.lt hne]
  exact this⟩
theorem qZ4.grown {w w':World} {g:Nat} {gs:List StI} {row:Option Nat} (h:qZ4 w g gs) (hg:w.grownBy w' row) (hne:some g≠row):qZ4 w' g gs:=fun k x e=>by
 obtain ⟨h0,h1,h2,h3,h4⟩:=h k x e
 exact ⟨hg.cell h0 hne,hg.cell h1 hne,hg.cell h2 hne,hg.cell h3 hne,hg.cell h4 hne⟩
theorem qZ6.grown {w w':World} {g:Nat} {gs:List LkI} {row:Option Nat} (h:qZ6 w g gs) (hg:w.grownBy w' row) (hne:some g≠row):qZ6 w' g gs:=fun k x e=>by
 obtain ⟨h0,h1,h2,h3⟩:=h k x e
 exact ⟨hg.cell h0 hne,hg.cell h1 hne,hg.cell h2 hne,hg.cell h3 hne⟩
theorem qO6 (r:qH4) (w:World) (hle:qL7 1048576 r) (h:qE3 w r) :
  Calls Tryz.prog 11 #[.agg #[.int .i64 r.i,.int .i64 r.u,.slice r.sa r.sn r.sc,.slice r.la r.ln r.lc]] w fun e w'=>∃ (y:qH4) (L:Nat),e = .returned (.agg #[.int .i64 y.i,.int .i64 y.u,.slice y.sa y.sn y.sc,.slice y.la y.ln y.lc])∧w.heap.size≤L∧qH3 w' L r y∧Below w.heap.size w w':=by
 have H:Hid (qE3 w r):=h
 have HLE:Hid (qL7 1048576 r):=hle
 clear h hle
 obtain ⟨V0,hV0⟩:∃ V,V=w.alloc (.cells #[.int .i64 r.i,.int .i64 r.u,.slice r.sa r.sn r.sc,.slice r.la r.ln r.lc] 25):=⟨_,rfl⟩
 obtain ⟨V1,hV1⟩:∃ V,V=V0.alloc (.cells #[.int .i64 0,.int .i64 0,.slice none 0 0,.slice none 0 0] 33):=⟨_,rfl⟩
 obtain ⟨V,hV⟩:∃ V,V=V1.alloc (.cells #[.int .i64 r.i,.int .i64 r.u,.slice none 0 0,.slice none 0 0] 33):=⟨_,rfl⟩
 have z0:V0.heap.size=w.heap.size+1:=by rw [hV0];simp
 have z1:V1.heap.size=w.heap.size+1+1:=by rw [hV1];simp [z0]
 have z2:V.heap.size=w.heap.size+1+1+1:=by rw [hV];simp [z1]
 have b0:Below w.heap.size w V0:=by rw [hV0];exact zN
 have b1:Below V0.heap.size V0 V1:=by rw [hV1];exact zN
 have b2:Below V1.heap.size V1 V:=by rw [hV];exact zN
 have X0:QB5 V w.heap.size (.int .i64 r.i) (.int .i64 r.u) (.slice r.sa r.sn r.sc) (.slice r.la r.ln r.lc):=by
  have q:QB5 V0 w.heap.size (.int .i64 r.i) (.int .i64 r.u) (.slice r.sa r.sn r.sc) (.slice r.la r.ln r.lc):=by rw [hV0];exact QB5.new _ _ _ _ _ _
  exact (q.below b1).below b2
 have Y0:QB5 V (w.heap.size+1) (.int .i64 0) (.int .i64 0) (.slice none 0 0) (.slice none 0 0):=by
  have q:QB5 V1 V0.heap.size (.int .i64 0) (.int .i64 0) (.slice none 0 0) (.slice none 0 0):=by rw [hV1];exact QB5.new _ _ _ _ _ _
  rw [z0] at q
  exact q.below b2
 have O0:QB5 V (w.heap.size+1+1) (.int .i64 r.i) (.int .i64 r.u) (.slice none 0 0) (.slice none 0 0):=by
  have q:QB5 V V1.heap.size (.int .i64 r.i) (.int .i64 r.u) (.slice none 0 0) (.slice none 0 0):=by rw [hV];exact QB5.new _ _ _ _ _ _
  rw [z1] at q
  exact q
 have B0:Hid (Below w.heap.size w V):=(b0.trans (b1.mono b0.size)).trans (b2.mono (by omega))
 have HV:Hid (V=((w.alloc (.cells #[.int .i64 r.i,.int .i64 r.u,.slice r.sa r.sn r.sc,.slice r.la r.ln r.lc] 25)).alloc (.cells #[.int .i64 0,.int .i64 0,.slice none 0 0,.slice none 0 0] 33)).alloc (.cells #[.int .i64 r.i,.int .i64 r.u,.slice none 0 0,.slice none 0 0] 33)):=by rw [hV,hV1,hV0];exact rfl
 have Z2:Hid (V.heap.size=w.heap.size+1+1+1):=z2
 have XX:Hid (QB5 V w.heap.size (.int .i64 r.i) (.int .i64 r.u) (.slice r.sa r.sn r.sc) (.slice r.la r.ln r.lc)∧QB5 V (w.heap.size+1) (.int .i64 0) (.int .i64 0) (.slice none 0 0) (.slice none 0 0)∧QB5 V (w.heap.size+1+1) (.int .i64 r.i) (.int .i64 r.u) (.slice none 0 0) (.slice none 0 0)):=⟨X0,Y0,O0⟩
 clear hV hV1 hV0 z0 z1 z2 b0 b1 b2 X0 Y0 O0 V0 V1
 go_enter Tryz.func11,Tryz.ntmps11
 go_wp2_with fail
 rw [← HV.out]
 clear HV
 refine (QE9 r.sa r.sn r.sc r.ss V HLE.out.said (H.out.said.below B0.out)).mono ?_
 rintro e w1 ⟨rfl,hat1,hlt1,hb1,hroom1⟩
 obtain ⟨X1,Y1,O1⟩:=XX.out
 have X1:=X1.below hb1
 have Y1:=Y1.below hb1
 have O1:=O1.below hb1
 have B1:Below w.heap.size w w1:=B0.out.trans (hb1.mono B0.out.size)
 have hz1:w.heap.size+1+1+1≤w1.heap.size:=by have:=Z2.out;have:=hb1.size;omega
 obtain ⟨U,hU⟩:∃ U,U=w1.setCell ⟨w.heap.size+1+1,2,none⟩ (.slice (some ⟨V.heap.size,0,none⟩) r.sn r.sn):=⟨_,rfl⟩
 have gU:w1.grownBy U (some (w.heap.size+1+1)):=by rw [hU];exact qR8 _ _ _ _
 have BU:Hid (Below w.heap.size w U):=by rw [hU];exact B1.setCell (by show w.heap.size≤w.heap.size+1+1;omega) _
 have XU:Hid (QB5 U w.heap.size (.int .i64 r.i) (.int .i64 r.u) (.slice r.sa r.sn r.sc) (.slice r.la r.ln r.lc)∧QB5 U (w.heap.size+1) (.int .i64 0) (.int .i64 0) (.slice none 0 0) (.slice none 0 0)∧QB5 U (w.heap.size+1+1) (.int .i64 r.i) (.int .i64 r.u) (.slice (some ⟨V.heap.size,0,none⟩) r.sn r.sn) (.slice none 0 0)):=by
  refine ⟨X1.grown gU (fun e=>by injection e;omega),Y1.grown gU (fun e=>by injection e;omega),?_⟩
  rw [hU];exact O1.put2 _
 have SU:Hid (qZ4 U V.heap.size r.ss∧qJ6 U V.heap.size r.sn∧V.heap.size < U.heap.size):=by
  have hne:some V.heap.size≠some (w.heap.size+1+1):=fun e=>by injection e;have:=Z2.out;omega
  exact ⟨hat1.grown gU hne,hroom1.grown hlt1 gU hne,by have:=gU.size;omega⟩
 obtain ⟨x0,x1,x2,x3,_⟩:=X1
 obtain ⟨o0,o1,o2,o3,of⟩:=O1
 have of2:=of 2
 have hlo:w.heap.size+1+1 < w1.heap.size:=by omega
 have hlx:w.heap.size < w1.heap.size:=by omega
 clear hat1 hroom1 hb1 Y1 B1 gU XX of
 go_wp2_with fail
 rw [← hU]
 clear hU x0 x1 x2 x3 o0 o1 o2 o3 of2 hlo hlx
 refine (QX7 r.la r.ln r.lc r.ls U HLE.out.locks (H.out.locks.below BU.out)).mono ?_
 rintro e w2 ⟨rfl,hat2,hlt2,hb2,hroom2⟩
 obtain ⟨X2,Y2,O2⟩:=XU.out
 have X2:=X2.below hb2
 have Y2:=Y2.below hb2
 have O2:=O2.below hb2
 have B2:Below w.heap.size w w2:=BU.out.trans (hb2.mono BU.out.size)
 have hz2:w.heap.size+1+1+1≤w2.heap.size:=by have:=SU.out.2.2;have:=Z2.out;have:=hb2.size;omega
 obtain ⟨T,hT⟩:∃ T,T=w2.setCell ⟨w.heap.size+1+1,3,none⟩ (.slice (some ⟨U.heap.size,0,none⟩) r.ln r.ln):=⟨_,rfl⟩
 have gT:w2.grownBy T (some (w.heap.size+1+1)):=by rw [hT];exact qR8 _ _ _ _
 have BT:Below w.heap.size w T:=by rw [hT];exact B2.setCell (by show w.heap.size≤w.heap.size+1+1;omega) _
 have YT:=Y2.grown gT (fun e=>by injection e;omega)
 have OT:QB5 T (w.heap.size+1+1) (.int .i64 r.i) (.int .i64 r.u) (.slice (some ⟨V.heap.size,0,none⟩) r.sn r.sn) (.slice (some ⟨U.heap.size,0,none⟩) r.ln r.ln):=by rw [hT];exact O2.put3 _
 have ST:Hid (qZ4 T V.heap.size r.ss∧qJ6 T V.heap.size r.sn∧V.heap.size < T.heap.size∧qZ6 T U.heap.size r.ls∧qJ2 T U.heap.size r.ln∧U.heap.size < T.heap.size∧V.heap.size < U.heap.size∧w.heap.size+1+1 < V.heap.size):=by
  have hz:=Z2.out
  have hs:=SU.out
  have hne:some V.heap.size≠some (w.heap.size+1+1):=fun e=>by injection e;omega
  have hne2:some U.heap.size≠some (w.heap.size+1+1):=fun e=>by injection e;omega
  have hsz:=gT.size
  have hbz:=hb2.size
  exact ⟨(hs.1.below hb2).grown gT hne,(hs.2.1.below hs.2.2 hb2).grown (by omega) gT hne,by omega,hat2.grown gT hne2,hroom2.grown hlt2 gT hne2,by omega,hs.2.2,by omega⟩
 obtain ⟨x0,x1,x2,x3,_⟩:=X2
 obtain ⟨o0,o1,o2,o3,of⟩:=O2
 have of3:=of 3
 have hlo:w.heap.size+1+1 < w2.heap.size:=by omega
 have hlx:w.heap.size < w2.heap.size:=by omega
 obtain ⟨p0,p1,p2,p3,_⟩:=OT
 obtain ⟨y0,y1,y2,y3,yf⟩:=YT
 have f0:=yf 0
 have f1:=yf 1
 have f2:=yf 2
 have f3:=yf 3
 have BT':Hid (Below w.heap.size w T):=BT
 clear hat2 hroom2 hb2 Y2 B2 gT XU of BT yf SU BU
 go_upto_region 6 with fail
 rw [← hT]
 clear hT x0 x1 x2 x3 o0 o1 o2 o3 of3
 have g4:Hid (T.grownBy ((((T.setCell ⟨w.heap.size+1,0,none⟩ (.int .i64 r.i)).setCell ⟨w.heap.size+1,1,none⟩ (.int .i64 r.u)).setCell ⟨w.heap.size+1,2,none⟩ (.slice (some ⟨V.heap.size,0,none⟩) r.sn r.sn)).setCell ⟨w.heap.size+1,3,none⟩ (.slice (some ⟨U.heap.size,0,none⟩) r.ln r.ln)) (some (w.heap.size+1))):=qY9 (qY9 (qY9 (qR8 _ _ _ _) (qR8 _ _ _ _)) (qR8 _ _ _ _)) (qR8 _ _ _ _)
 have b4:Hid (Below w.heap.size w ((((T.setCell ⟨w.heap.size+1,0,none⟩ (.int .i64 r.i)).setCell ⟨w.heap.size+1,1,none⟩ (.int .i64 r.u)).setCell ⟨w.heap.size+1,2,none⟩ (.slice (some ⟨V.heap.size,0,none⟩) r.sn r.sn)).setCell ⟨w.heap.size+1,3,none⟩ (.slice (some ⟨U.heap.size,0,none⟩) r.ln r.ln))):=(((BT'.out.setCell (by show w.heap.size≤w.heap.size+1;omega) _).setCell (by show w.heap.size≤w.heap.size+1;omega) _).setCell (by show w.heap.size≤w.heap.size+1;omega) _).setCell (by show w.heap.size≤w.heap.size+1;omega) _
 go_wp2
 refine bodyPost_ret (v:=.agg #[.int .i64 r.i,.int .i64 r.u,.slice (some ⟨V.heap.size,0,none⟩) r.sn r.sn,.slice (some ⟨U.heap.size,0,none⟩) r.ln r.ln]) (by simp [results,Tryz.results11,go_sem,y0,y1,y2,y3]) rfl ?_
 refine ⟨⟨r.i,r.u,some ⟨V.heap.size,0,none⟩,r.sn,r.sn,r.ss,some ⟨U.heap.size,0,none⟩,r.ln,r.ln,r.ls⟩,V.heap.size,rfl,by have:=ST.out;omega,?_,b4.out⟩
 obtain ⟨s1,s2,s3,s4,s5,s6,s7,s8⟩:=ST.out
 have hne:some V.heap.size≠some (w.heap.size+1):=fun e=>by injection e;omega
 have hne2:some U.heap.size≠some (w.heap.size+1):=fun e=>by injection e;omega
 have hsz:=g4.out.size
 exact ⟨rfl,rfl,rfl,rfl,rfl,rfl,rfl,rfl,rfl,⟨U.heap.size,rfl,s7,by omega,s4.grown g4.out hne2,s5.grown s6 g4.out hne2⟩,⟨s1.grown g4.out hne,s2.grown s3 g4.out hne⟩,by omega⟩

theorem hasForm_c (s p:Int) (h0:0≤s) (h1:s≤15) (p0:1≤p) (p1:p≤4) (w:World) :
  Calls Tryz.prog 161 #[.int .i64 s,.int .i64 p] w fun e w'=>e = .returned (.bool (qJ0 s p))∧w=w':=by
 have hp:p=1∨p=2∨p=3∨p=4:=by omega
 rcases hp with rfl | rfl | rfl | rfl
 ·have e1:=qQ4 s 1 h0 (by omega) (by omega) (by omega)
  simp at e1
  go_enter Tryz.func161,Tryz.ntmps161
  go_wp2
  go_ret
  exact ⟨rfl,rfl⟩
 ·have e1:=qQ4 s 2 h0 (by omega) (by omega) (by omega)
  simp at e1
  go_enter Tryz.func161,Tryz.ntmps161
  go_wp2
  go_ret
  exact ⟨rfl,rfl⟩
 ·have e1:=qQ4 s 3 h0 (by omega) (by omega) (by omega)
  simp at e1
  go_enter Tryz.func161,Tryz.ntmps161
  go_wp2
  go_ret
  exact ⟨rfl,rfl⟩
 ·have e1:=qQ4 s 4 h0 (by omega) (by omega) (by omega)
  simp at e1
  go_enter Tryz.func161,Tryz.ntmps161
  go_wp2
  go_ret
  exact ⟨rfl,rfl⟩
theorem in_dec:∀ n:Fin 16,∀ k:Fin 4,(bits .and .i64 (((n.val:Nat):Int) / ((2 ^ k.val:Nat):Int)) 1==1)=n.val.testBit k.val:=by
 decide +kernel
theorem in_i64 (s p:Int) (h0:0≤s) (h1:s≤15) (p0:1≤p) (p1:p≤4):(bits .and .i64 (s / ((2 ^ (p - 1).toNat:Nat):Int)) 1==1)=qJ0 s p:=by
 obtain ⟨n,rfl⟩:=Int.eq_ofNat_of_zero_le h0
 have:=in_dec ⟨n,by omega⟩ ⟨(p - 1).toNat,by omega⟩
 simpa [qJ0] using this
theorem l5In_c (s p:Int) (h0:0≤s) (h1:s≤15) (p0:1≤p) (p1:p≤4) (w:World) :
  Calls Tryz.prog 129 #[.int .i64 s,.int .i64 p] w fun e w'=>e = .returned (.bool (qJ0 s p))∧w=w':=by
 have hp:p=1∨p=2∨p=3∨p=4:=by omega
 rcases hp with rfl | rfl | rfl | rfl
 ·have e1:Hid ((bits .and .i64 s 1==1)=qJ0 s 1):=by have:=in_i64 s 1 h0 h1 (by omega) (by omega);simp at this;exact this
  go_enter Tryz.func129,Tryz.ntmps129
  go_wp2
  go_ret
  exact ⟨by rw [← e1.out];rfl,rfl⟩
 ·have e1:Hid ((bits .and .i64 (s / 2) 1==1)=qJ0 s 2):=by have:=in_i64 s 2 h0 h1 (by omega) (by omega);simp at this;exact this
  go_enter Tryz.func129,Tryz.ntmps129
  go_wp2
  go_ret
  exact ⟨by rw [← e1.out];rfl,rfl⟩
 ·have e1:Hid ((bits .and .i64 (s / 4) 1==1)=qJ0 s 3):=by have:=in_i64 s 3 h0 h1 (by omega) (by omega);simp at this;exact this
  go_enter Tryz.func129,Tryz.ntmps129
  go_wp2
  go_ret
  exact ⟨by rw [← e1.out];rfl,rfl⟩
 ·have e1:Hid ((bits .and .i64 (s / 8) 1==1)=qJ0 s 4):=by have:=in_i64 s 4 h0 h1 (by omega) (by omega);simp at this;exact this
  go_enter Tryz.func129,Tryz.ntmps129
  go_wp2
  go_ret
  exact ⟨by rw [← e1.out];rfl,rfl⟩
def bothB (zs:List Int) (a b:Int):Bool:=zs.any (fun c=>qJ0 c a&&qJ0 c b)
def clashB (zs:List Int) (a b:Int):Bool:=(a != b)&&bothB zs a b
def clashV (zs:List Int) (a b:Int):Bool:=(qG7 zs==0)&&(inR a 1 4&&(inR b 1 4&&clashB zs a b))
theorem cl_at {zs:List Int} {k:Nat} {x:Int} (h:∀ x∈zs,inR x 0 15=true) (hx:zs[k]? = some x):0≤x∧x≤15:=(qG9 _ _ _).1 (h x (List.mem_of_getElem? hx))

def qG3 (e f:Int) (k:Nat) (ps:List Int):List LkI:=ps.map (fun p=>(⟨e,(k:Int),p,f⟩:LkI))
def qS5 (zs:List Int) (e f s:Int) (k:Nat):List LkI:=if qJ0 (zs[k]?.getD 0) f=true then qG3 e f k (qB2 s 8) else []
def qB3 (zs:List Int) (e f s:Int):Nat→List LkI
 | 0=>[]
 | k+1=>qB3 zs e f s k++qS5 zs e f s k
theorem needOne_len (zs:List Int) (e f s:Int) (k:Nat):(qS5 zs e f s k).length≤8:=by
 unfold qS5
 split
 ·simpa [qG3] using qY8 s 8
 ·simp
theorem qV5 (zs:List Int) (e f s:Int):∀ k,(qB3 zs e f s k).length≤k * 8
 | 0=>by simp [qB3]
 | k+1=>by
  have h1:=qV5 zs e f s k
  have h2:=needOne_len zs e f s k
  simp only [qB3,List.length_append]
  omega
def qE6 (zs:List Int) (e f s:Int):Int:=if qG7 zs=0 then (if (inR e 1 9&&(inR f 1 4&&inR s 0 255))=true then 0 else 3) else qG7 zs
theorem QK9 {zs:List Int} {e f s:Int} (h:qE6 zs e f s=0):qG7 zs=0∧inR e 1 9=true∧inR f 1 4=true∧inR s 0 255=true:=by
 unfold qE6 at h
 split at h
 ·rename_i q
  split at h
  ·rename_i q2
   simp only [Bool.and_eq_true] at q2
   exact ⟨q,q2.1,q2.2.1,q2.2.2⟩
  ·cases h
 ·exact absurd h (by assumption)
theorem need_of {zs:List Int} {e f s:Int} (h0:qG7 zs=0) (h1:inR e 1 9=true) (h2:inR f 1 4=true) (h3:inR s 0 255=true):qE6 zs e f s=0:=by
 simp [qE6,h0,h1,h2,h3]
theorem cell_new4 (W:World) (b:Nat) (hb:b=W.heap.size) (u0 u1 u2 u3:Value) (T:TypeId):∀ j u,[u0,u1,u2,u3][j]? = some u→(W.alloc (.cells #[u0,u1,u2,u3] T)).cell? ((⟨b,0,none⟩:Addr).add j)=some u:=by
 subst hb
 intro j u hj
 match j,hj with
 | 0,hj=>simp at hj;subst hj;simp [Addr.add]
 | 1,hj=>simp at hj;subst hj;simp [Addr.add]
 | 2,hj=>simp at hj;subst hj;simp [Addr.add]
 | 3,hj=>simp at hj;subst hj;simp [Addr.add]
theorem lk_apart {w:World} {B B' gl m cl:Nat} {v:Value} {gs:List LkI} {xs:List Value} (h:qA5 w B v gs) (k:w.ownsRow B' 2 1 (.slice (some ⟨gl,0,none⟩) m cl) m xs):v.ownBlock≠some gl:=by
 intro e
 have h0:w.ownsRow B 98 4 v gs.length (qA3 gs):=h
 rcases h0.2 with ⟨h',_⟩ | ⟨g,cap,cur,h',_,hg,_⟩
 ·rw [h'] at e;cases e
 ·rw [h'] at e
  simp [Value.ownBlock] at e
  subst e
  rcases k.2 with ⟨k',_⟩ | ⟨g',cap',cur',k',_,kg,_⟩
  ·cases k'
  ·simp at k'
   obtain ⟨rfl,_⟩:=k'
   rw [hg] at kg
   simp at kg
theorem ints_row {w:World} {B gl n c:Nat} {L:List Int} (h:w.ownsRow B 2 1 (.slice (some ⟨gl,0,none⟩) n c) n (L.map (Value.int .i64))) {k:Nat} {x:Int} (hx:L[k]? = some x) (hk:k < n):w.cell? ⟨gl,k,none⟩=some (.int .i64 x):=by
 rw [h.cellAt k (by omega)]
 simp [hx]
theorem needAt_next {L:List Int} {e f p:Int} {k m:Nat} (h:L[m]? = some p):qG3 e f k (L.take (m+1))=qG3 e f k (L.take m)++[⟨e,(k:Int),p,f⟩]:=by
 have hm:m < L.length:=by
  by_cases q:m < L.length
  ·exact q
  ·rw [List.getElem?_eq_none (by omega)] at h;cases h
 have : L[m]=p:=by rw [List.getElem?_eq_getElem hm] at h;exact Option.some.inj h
 rw [List.take_succ_eq_append_getElem hm,this]
 simp [qG3]
theorem l5Needs_c (a:Option Addr) (n cap:Nat) (zs:List Int) (e f s:Int) (w:World) (h:qH0 w a n zs) (hcl:∀ x∈zs,inR x 0 15=true) (hn:n≤4) (f0:1≤f) (f1:f≤4) (s0:0≤s) (s1:s≤255) :
  Calls Tryz.prog 100 #[.slice a n cap,.int .i64 e,.int .i64 f,.int .i64 s] w fun r w'=>∃ g c,r = .returned (.slice (some ⟨g,0,none⟩) (qB3 zs e f s n).length c)∧qA5 w' w.heap.size (.slice (some ⟨g,0,none⟩) (qB3 zs e f s n).length c) (qB3 zs e f s n)∧Below w.heap.size w w':=by
 obtain ⟨i0,hi,hz0,hz1,hz2⟩:=info_parts Tryz.info98
 have hn':(n:Int)≤4:=by omega
 have HZ:Hid (zs.length=n):=h.1
 have HK:Hid (∀ x∈zs,inR x 0 15=true):=hcl
 obtain ⟨w1,hw1⟩:∃ w1,w1=w.alloc (.cells #[] 98):=⟨_,rfl⟩
 have hb1:Below w.heap.size w w1:=by rw [hw1];exact zN
 have HO1:Hid (qA5 w1 w.heap.size (.slice (some ⟨w.heap.size,0,none⟩) 0 0) []):=by rw [hw1];exact World.ownsRow_lit w #[] 0 (Nat.le_refl _) (Nat.zero_le _) rfl
 have HI1:Hid (qH0 w1 a n zs):=h.below hb1
 have HB1:Hid (Below w.heap.size w w1):=hb1
 have HAL0:Hid (∀ b off,a=some ⟨b,off,none⟩→n=0∨b < w.heap.size):=int_lt h
 clear h hcl hb1
 go_enter Tryz.func100,Tryz.ntmps100
 go_wp2_with fail
 rw [← hw1]
 clear hw1
 refine (QU4 s s0 s1 _).mono ?_
 rintro r w2 ⟨gl,cl,rfl,hown2,hb2⟩
 obtain ⟨L,hL⟩:∃ L,qB2 s 8=L:=⟨_,rfl⟩
 rw [hL] at hown2 ⊢
 have hL8:L.length≤8:=by rw [← hL];exact qY8 s 8
 have hL8':(L.length:Int)≤8:=by omega
 have HLL:Hid (qB2 s 8=L):=hL
 have HIL:Hid (w2.ownsRow w1.heap.size 2 1 (.slice (some ⟨gl,0,none⟩) L.length cl) L.length (L.map (Value.int .i64))):=hown2
 have HAL:Hid (∀ b off,a=some ⟨b,off,none⟩→n=0∨b < w.heap.size):=HAL0.out
 have HO2:Hid (qA5 w2 w.heap.size (.slice (some ⟨w.heap.size,0,none⟩) 0 0) []):=HO1.out.below hb2
 have HI2:Hid (qH0 w2 a n zs):=HI1.out.below hb2
 have HB2:Hid (Below w.heap.size w w2):=HB1.out.trans (hb2.mono HB1.out.size)
 have hsz2:w.heap.size≤w2.heap.size:=HB2.out.size
 clear hown2 hb2 hL HO1 HI1 HB1
 go_wp2
 go_loopw [9,11] (fun v i wr=>∃ k:Nat,k≤n∧i = .int .i64 (k:Int)∧qA5 wr w.heap.size v (qB3 zs e f s k)∧v ≠ .slice none 0 0∧Below w.heap.size w wr∧qH0 wr a n zs∧wr.ownsRow w1.heap.size 2 1 (.slice (some ⟨gl,0,none⟩) L.length cl) L.length (L.map (Value.int .i64))) (fun _ i _=>n - (intOf i).toNat)
 case atStart=>exact ⟨0,Nat.zero_le _,rfl,HO2.out,by simp,HB2.out,HI2.out,HIL.out⟩
 case round =>
  obtain ⟨k,hk,rfl,hown,hnn,hnx,hia,hil⟩:=hrel
  have HO:Hid (qA5 wr w.heap.size u9 (qB3 zs e f s k)):=hown
  have HNN:Hid (u9 ≠ .slice none 0 0):=hnn
  have HNX:Hid (Below w.heap.size w wr):=hnx
  have HIA:Hid (qH0 wr a n zs):=hia
  have HIL2:Hid (wr.ownsRow w1.heap.size 2 1 (.slice (some ⟨gl,0,none⟩) L.length cl) L.length (L.map (Value.int .i64))):=hil
  clear hown hnn hnx hia hil
  by_cases hlt:k < n
  ·have hlt':(k:Int) < (n:Int):=by omega
   obtain ⟨x,hx⟩:∃ x,zs[k]? = some x:=⟨_,List.getElem?_eq_getElem (by rw [HZ.out];exact hlt)⟩
   obtain ⟨x0,x1⟩:=cl_at HK.out hx
   have HX:Hid (zs[k]? = some x):=hx
   obtain ⟨t,ht⟩:∃ t,qJ0 x f=t:=⟨_,rfl⟩
   have HT:Hid (qJ0 x f=t):=ht
   clear hx ht
   cases t
   ·have HN:Hid (qB3 zs e f s (k+1)=qB3 zs e f s k):=by show qB3 zs e f s (k+1)=_;simp [qB3,qS5,HX.out,HT.out]
    go_wp2
    go_loopw [9,12] (fun v j wq=>v=u9∧j = .int .i64 0∧wq=wr) (fun _ _ _=>0)
    case atStart=>exact ⟨rfl,rfl,rfl⟩
    case round =>
     obtain ⟨rfl,rfl,rfl⟩:=hrel
     by_cases hl0:0 < L.length
     ·have hl0':(0:Int) < (L.length:Int):=by omega
      obtain ⟨b,off,y,e2,hy,c0,hbl⟩:=HIA.out.at hlt
      subst e2
      rw [HX.out] at hy
      cases hy
      go_wp2_with (go_at_call 129;refine (l5In_c _ _ (by omega) (by omega) (by omega) (by omega) _).mono ?_;rintro e w' ⟨rfl,rfl⟩;rw [HT.out])
      exact ⟨⟨k+1,by omega,by go_num,by rw [HN.out];exact HO.out,HNN.out,HNX.out,HIA.out,HIL2.out⟩,by simp [intOf];omega⟩
     ·have hl0':¬ ((0:Int) < (L.length:Int)):=by omega
      go_wp2
      exact ⟨⟨k+1,by omega,by go_num,by rw [HN.out];exact HO.out,HNN.out,HNX.out,HIA.out,HIL2.out⟩,by simp [intOf];omega⟩
   ·have HN:Hid (qB3 zs e f s (k+1)=qB3 zs e f s k++qG3 e f k L):=by show qB3 zs e f s (k+1)=_;simp [qB3,qS5,HX.out,HT.out,HLL.out]
    go_wp2
    go_loopw [9,12] (fun v j wq=>∃ m:Nat,m≤L.length∧j = .int .i64 (m:Int)∧qA5 wq w.heap.size v (qB3 zs e f s k++qG3 e f k (L.take m))∧v ≠ .slice none 0 0∧Below w.heap.size w wq∧qH0 wq a n zs∧wq.ownsRow w1.heap.size 2 1 (.slice (some ⟨gl,0,none⟩) L.length cl) L.length (L.map (Value.int .i64))) (fun _ j _=>L.length - (intOf j).toNat)
    case atStart=>exact ⟨0,Nat.zero_le _,rfl,by simpa [qG3] using HO.out,HNN.out,HNX.out,HIA.out,HIL2.out⟩
    case round =>
     obtain ⟨m,hm,rfl,hown,hnn,hnx,hia,hil⟩:=hrel
     have HO3:Hid (qA5 wr w.heap.size u9 (qB3 zs e f s k++qG3 e f k (L.take m))):=hown
     have HNN3:Hid (u9 ≠ .slice none 0 0):=hnn
     have HNX3:Hid (Below w.heap.size w wr):=hnx
     have HIA3:Hid (qH0 wr a n zs):=hia
     have HIL3:Hid (wr.ownsRow w1.heap.size 2 1 (.slice (some ⟨gl,0,none⟩) L.length cl) L.length (L.map (Value.int .i64))):=hil
     clear hown hnn hnx hia hil HO HNN HNX HIA HIL2
     by_cases hlm:m < L.length
     ·obtain ⟨b,off,y,e2,hy,c0,hbl⟩:=HIA3.out.at hlt
      rw [HX.out] at hy
      cases hy
      have hp:L[m]? = some L[m]:=List.getElem?_eq_getElem hlm
      generalize L[m]=p at hp
      have c1:=ints_row HIL3.out hp hlm
      have hlm':(m:Int) < (L.length:Int):=by omega
      have HP:Hid (qB3 zs e f s k++qG3 e f k (L.take (m+1))=(qB3 zs e f s k++qG3 e f k (L.take m))++[⟨e,(k:Int),p,f⟩]):=by
       show qB3 zs e f s k++qG3 e f k (L.take (m+1))=_
       rw [needAt_next hp,List.append_assoc]
      have HLE:Hid ((qB3 zs e f s k++qG3 e f k (L.take m)).length≤40):=by
       show (qB3 zs e f s k++qG3 e f k (L.take m)).length≤40
       have:=qV5 zs e f s k
       simp [qG3]
       omega
      generalize qB3 zs e f s k++qG3 e f k (L.take m)=es at HO3 HP HLE
      have hsw:=HNX3.out.size
      have HA:Hid (a=some ⟨b,off,none⟩):=e2
      subst e2
      clear hp
      go_wp2_with (first | (go_at_call 129;refine (l5In_c _ _ (by omega) (by omega) (by omega) (by omega) _).mono ?_;rintro e w' ⟨rfl,rfl⟩;rw [HT.out]) | (at_builtin;refine wpList_append_own _ rfl _ _ 31 rfl w.heap.size 98 i0 (.agg #[.int .i64 0,.int .i64 0,.int .i64 0,.int .i64 0]) 4 32 Tryz.under31 hi hz0 hz1 hz2 rfl (by decide) u9 (es.length) (qA3 es) rfl ?c0 ⟨_,0,none⟩ 1 1 [.int .i64 e,.int .i64 (k:Int),.int .i64 p,.int .i64 f] rfl rfl ?c1 ?c2 ?c3 ?c4 ?c5 ?_))
      case c0=>exact HO3.out.below (zN)
      case c1=>exact cell_new4 _ _ (by first | rfl | simp) _ _ _ _ _
      case c2=>intro u hu;simp at hu;rcases hu with rfl | rfl | rfl | rfl <;> rfl
      case c3=>have:=HLE.out;unfold maxLen;omega
      case c4=>have:=HLE.out;omega
      case c5=>simp;omega
      ·intro v' w' hown' hgrow hnil
       have B0:Below wr.heap.size wr (wr.alloc (.cells #[.int .i64 e,.int .i64 (k:Int),.int .i64 p,.int .i64 f] 98)):=zN
       have hlt9:∀ q,u9.ownBlock=some q→w.heap.size≤q:=fun q e9=>by
        have h0:wr.ownsRow w.heap.size 98 4 u9 es.length (qA3 es):=HO3.out
        exact (h0.lt q e9).1
       have R1:Hid (qA5 w' w.heap.size v' (es++[⟨e,(k:Int),p,f⟩])):=qV4 (x:=⟨e,(k:Int),p,f⟩) hown'
       have R2:Hid (Below w.heap.size w w'):=QC1 (HO3.out.below B0) (HNX3.out.alloc hsw _) hgrow (by simp;omega)
       have R3:Hid (qH0 w' (some ⟨b,off,none⟩) n zs):=intIn_kept (HIA3.out.below B0) hgrow HAL.out hlt9
       have R4:Hid (w'.ownsRow w1.heap.size 2 1 (.slice (some ⟨gl,0,none⟩) L.length cl) L.length (L.map (Value.int .i64))):=World.ownsRow.kept (HIL3.out.alloc _) hgrow (.inr (fun q=>lk_apart HO3.out HIL3.out (by rw [← q];rfl)))
       have hnn':v' ≠ .slice none 0 0:=by first | exact hnil | simpa using hnil
       clear hown' hgrow hnil B0 hlt9
       go_wp2
       exact ⟨⟨m+1,by omega,by go_num,by rw [HP.out];exact R1.out,hnn',R2.out,R3.out,R4.out⟩,by simp [intOf];omega⟩
     ·have hlm':¬ ((m:Int) < (L.length:Int)):=by omega
      have HE:Hid (qB3 zs e f s (k+1)=qB3 zs e f s k++qG3 e f k (L.take m)):=by show qB3 zs e f s (k+1)=_;rw [HN.out,List.take_of_length_le (by omega)]
      go_wp2
      exact ⟨⟨k+1,by omega,by go_num,by rw [HE.out];exact HO3.out,HNN3.out,HNX3.out,HIA3.out,HIL3.out⟩,by simp [intOf];omega⟩
  ·have hkn:k=n:=by omega
   subst hkn
   obtain ⟨g,c,e9⟩:=HO.out.shape HNN.out
   subst e9
   go_wp2
   go_ret
   exact ⟨g,c,rfl,HO.out,HNX.out⟩

end Go.Proofs.YtlpgapdlepbgbaaGreatDoor
