/- Contracts. -/
import Derived.Test.YtlhgjackapdmbaaGreatDoorPc07
import Derived.Test.YtlhgjackapdmbaaGreatDoorPc08
import Derived.Test.YtlhgjackapdmbaaGreatDoorRows
import Derived.OpenVars
import Derived.Stop.LaidErr
import Derived.LaidLaws
namespace Go.Proofs.YtlhgjackapdmbaaGreatDoor
set_option maxRecDepth 100000
set_option maxHeartbeats 8000000
open Go.RowKit
set_option linter.unusedVariables false
set_option linter.unusedSimpArgs false

structure StI where
 k:Int
 e:Int
 f:Int
 s:Int
 n:Int
deriving DecidableEq,Inhabited
def qS7 (w:World) (b o:Nat) (x:StI):Prop:=w.cell? ⟨b,o,none⟩=some (.int .i64 x.k)∧w.cell? ⟨b,o+1,none⟩=some (.int .i64 x.e)∧w.cell? ⟨b,o+2,none⟩=some (.int .i64 x.f)∧w.cell? ⟨b,o+3,none⟩=some (.int .i64 x.s)∧w.cell? ⟨b,o+4,none⟩=some (.int .i64 x.n)
theorem qS7.below {w w':World} {B b o:Nat} {x:StI} (h:qS7 w b o x) (hb:Below B w w') (hB:b < B):qS7 w' b o x :=
 ⟨(hb.cell (p:=⟨b,o,none⟩) hB).trans h.1,(hb.cell (p:=⟨b,o+1,none⟩) hB).trans h.2.1,(hb.cell (p:=⟨b,o+2,none⟩) hB).trans h.2.2.1,(hb.cell (p:=⟨b,o+3,none⟩) hB).trans h.2.2.2.1,(hb.cell (p:=⟨b,o+4,none⟩) hB).trans h.2.2.2.2⟩
def qK9 (w:World) (a:Option Addr) (n:Nat) (gs:List StI):Prop:=gs.length=n∧(0 < n→∃ b off,a=some ⟨b,off,none⟩∧∀ k x,gs[k]? = some x→qS7 w b (off+k * 5) x)
theorem qK9.below {w w':World} {a:Option Addr} {n:Nat} {gs:List StI} (h:qK9 w a n gs) (hb:Below w.heap.size w w'):qK9 w' a n gs:=by
 refine ⟨h.1,fun hn=>?_⟩
 obtain ⟨b,off,e,k⟩:=h.2 hn
 exact ⟨b,off,e,fun j x hx=>(k j x hx).below hb (zL w ⟨b,off+j * 5,none⟩ (k j x hx).1)⟩
theorem qK9.at {w:World} {a:Option Addr} {n:Nat} {gs:List StI} (h:qK9 w a n gs) {k:Nat} (hk:k < n):∃ b off x,a=some ⟨b,off,none⟩∧gs[k]? = some x∧qS7 w b (off+k * 5) x∧b < w.heap.size:=by
 obtain ⟨b,off,e,q⟩:=h.2 (by omega)
 have hx:=List.getElem?_eq_getElem (l:=gs) (i:=k) (by rw [h.1];exact hk)
 exact ⟨b,off,_,e,hx,q k _ hx,zL w ⟨b,off+k * 5,none⟩ (q k _ hx).1⟩
def qZ7 (w:World) (g:Nat) (gs:List StI):Prop:=∀ k x,gs[k]? = some x→qS7 w g (k * 5) x
theorem qZ7.below {w w':World} {g:Nat} {gs:List StI} (h:qZ7 w g gs) (hb:Below w.heap.size w w'):qZ7 w' g gs:=fun k x e =>
 (h k x e).below hb (zL w ⟨g,k * 5,none⟩ (h k x e).1)
theorem qK9.of {w:World} {g n:Nat} {gs:List StI} (hl:gs.length=n) (h:qZ7 w g gs):qK9 w (some ⟨g,0,none⟩) n gs :=
 ⟨hl,fun _=>⟨g,0,rfl,fun k x e=>by rw [Nat.zero_add];exact h k x e⟩⟩
def qJ4 (w:World) (g n:Nat):Prop:=(∀ j,j < n * 5→∃ v,w.cell? ⟨g,j,none⟩=some v)∧∀ j,w.frozen? ⟨g,j,none⟩=false
abbrev StPut (w:World) (g o:Nat) (s:StI):World:=(((((w.setCell ⟨g,o,none⟩ (.int .i64 s.k)).setCell ⟨g,o+1,none⟩ (.int .i64 s.e)).setCell ⟨g,o+2,none⟩ (.int .i64 s.f)).setCell ⟨g,o+3,none⟩ (.int .i64 s.s)).setCell ⟨g,o+4,none⟩ (.int .i64 s.n))
theorem qO7 (w:World) (g o:Nat) (s:StI) (a:Addr) (h:∀ j,j < 5→a≠⟨g,o+j,none⟩):(StPut w g o s).cell? a=w.cell? a:=by
 rw [World.cell?_setCell_other (h:=Ne.symm (h 4 (by omega))),World.cell?_setCell_other (h:=Ne.symm (h 3 (by omega))),World.cell?_setCell_other (h:=Ne.symm (h 2 (by omega))),World.cell?_setCell_other (h:=Ne.symm (h 1 (by omega))),World.cell?_setCell_other (h:=Ne.symm (a:=a) (b:=⟨g,o,none⟩) (by simpa using h 0 (by omega)))]
theorem StPut_at (w:World) (g o:Nat) (s:StI) (h:∀ j,j < 5→∃ v,w.cell? ⟨g,o+j,none⟩=some v):qS7 (StPut w g o s) g o s:=by
 obtain ⟨v0,h0⟩:=h 0 (by omega)
 obtain ⟨v1,h1⟩:=h 1 (by omega)
 obtain ⟨v2,h2⟩:=h 2 (by omega)
 obtain ⟨v3,h3⟩:=h 3 (by omega)
 obtain ⟨v4,h4⟩:=h 4 (by omega)
 rw [Nat.add_zero] at h0
 refine ⟨?_,?_,?_,?_,?_⟩ <;> simp [go_sem,h0,h1,h2,h3,h4]
theorem StPut_room {w:World} {g n k:Nat} {zs:List StI} {s:StI} (hroom:qJ4 w g n) (hd:qZ7 w g (zs.take k)) (hs:zs[k]? = some s) (hk:k < n) :
  qJ4 (StPut w g (k * 5) s) g n∧qZ7 (StPut w g (k * 5) s) g (zs.take (k+1)):=by
 have hr:=StPut_at w g (k * 5) s (fun j hj=>hroom.1 (k * 5+j) (by omega))
 refine ⟨⟨fun j hj=>?_,fun j=>?_⟩,fun i r e=>?_⟩
 ·by_cases h:k * 5≤j∧j < k * 5+5
  ·have hj':j=k * 5∨j=k * 5+1∨j=k * 5+2∨j=k * 5+3∨j=k * 5+4:=by omega
   obtain ⟨h0,h1,h2,h3,h4⟩:=hr
   rcases hj' with rfl | rfl | rfl | rfl | rfl
   ·exact ⟨_,h0⟩
   ·exact ⟨_,h1⟩
   ·exact ⟨_,h2⟩
   ·exact ⟨_,h3⟩
   ·exact ⟨_,h4⟩
  ·rw [qO7 w g (k * 5) s ⟨g,j,none⟩ (fun i hi e=>by have e2:=congrArg Addr.off e;simp only at e2;omega)]
   exact hroom.1 j hj
 ·simp only [World.frozen?_setCell]
  exact hroom.2 j
 ·rw [List.getElem?_take] at e
  split at e
  ·by_cases hik:i=k
   ·subst hik
    rw [hs] at e
    cases e
    exact hr
   ·have hi:i < k:=by omega
    have h1:=hd i r (by rw [List.getElem?_take,if_pos hi];exact e)
    obtain ⟨h0,h1,h2,h3,h4⟩:=h1
    refine ⟨?_,?_,?_,?_,?_⟩
    ·rw [qO7 w g (k * 5) s ⟨g,i * 5,none⟩ (fun j hj e=>by have e2:=congrArg Addr.off e;simp only at e2;omega)];exact h0
    ·rw [qO7 w g (k * 5) s ⟨g,i * 5+1,none⟩ (fun j hj e=>by have e2:=congrArg Addr.off e;simp only at e2;omega)];exact h1
    ·rw [qO7 w g (k * 5) s ⟨g,i * 5+2,none⟩ (fun j hj e=>by have e2:=congrArg Addr.off e;simp only at e2;omega)];exact h2
    ·rw [qO7 w g (k * 5) s ⟨g,i * 5+3,none⟩ (fun j hj e=>by have e2:=congrArg Addr.off e;simp only at e2;omega)];exact h3
    ·rw [qO7 w g (k * 5) s ⟨g,i * 5+4,none⟩ (fun j hj e=>by have e2:=congrArg Addr.off e;simp only at e2;omega)];exact h4
  ·cases e
theorem StPut_below {w0 w:World} {B g o:Nat} (h:Below B w0 w) (hg:B≤g) (s:StI):Below B w0 (StPut w g o s) :=
 h.setCell hg _ |>.setCell hg _ |>.setCell hg _ |>.setCell hg _ |>.setCell hg _
theorem Tryz.info43:(Tryz.prog.info? 43).map (fun i=>(i.zero,i.size,i.bytes))=some (some (.agg #[.int .i64 0,.int .i64 0,.int .i64 0,.int .i64 0,.int .i64 0]),5,40):=by kernel_rfl
theorem QT1 (x:StI) (w:World):Calls Tryz.prog 17 #[.agg #[.int .i64 x.k,.int .i64 x.e,.int .i64 x.f,.int .i64 x.s,.int .i64 x.n]] w fun e w'=>e = .returned (.agg #[.int .i64 x.k,.int .i64 x.e,.int .i64 x.f,.int .i64 x.s,.int .i64 x.n])∧Below w.heap.size w w':=by
 go_enter Tryz.func17,Tryz.ntmps17
 go_wp2
 go_returns
 exact ⟨rfl,by go_grown⟩
theorem QF1 (a:Option Addr) (n cap:Nat) (zs:List StI) (w:World) (hn:n≤1048576) (h:qK9 w a n zs) :
  Calls Tryz.prog 34 #[.slice a n cap] w fun e w'=>e = .returned (.slice (some ⟨w.heap.size,0,none⟩) n n)∧qZ7 w' w.heap.size zs∧w.heap.size < w'.heap.size∧Below w.heap.size w w'∧qJ4 w' w.heap.size n:=by
 obtain ⟨i0,hi,hz0,hz1,hz2⟩:=info_parts Tryz.info43
 obtain ⟨wm,hmk,hownm,hgrm⟩:=run_make_full (P:=Tryz.prog) (w:=w) w.heap.size 30 43 i0 (.agg #[.int .i64 0,.int .i64 0,.int .i64 0,.int .i64 0,.int .i64 0]) 5 Tryz.underlying30 hi hz0 hz1 .i64 .i64 n (by rw [hz2];omega) (by unfold maxLen;omega) (Nat.le_refl _)
 have H:Hid (qK9 w a n zs):=h
 have hz:Hid (zs.length=n):=h.1
 clear h
 have HM:Hid (qJ4 wm w.heap.size n∧w.heap.size < wm.heap.size):=by
  refine ⟨⟨fun j hj=>?_,fun j=>hownm.frozenAt j⟩,(hownm.lt _ rfl).2⟩
  have hl:=hownm.1
  exact ⟨_,(hownm.cellAt j hj).trans (List.getElem?_eq_getElem (by omega))⟩
 clear hownm
 have HG:Hid (w.grownBy wm none):=hgrm
 clear hgrm
 have hn':(n:Int)≤1048576:=by omega
 go_enter Tryz.func34,Tryz.ntmps34
 go_wp2
 go_loopw [4] (fun i wr=>∃ k:Nat,k≤n∧i = .int .i64 (k:Int)∧qJ4 wr w.heap.size n∧qZ7 wr w.heap.size (zs.take k)∧w.heap.size < wr.heap.size∧Below w.heap.size w wr)
  (fun i _=>n - (intOf i).toNat)
 case atStart=>exact ⟨0,Nat.zero_le _,rfl,HM.out.1,fun k r e=>by simp at e,HM.out.2,(Below.refl _ _).grown HG.out (Nat.le_refl _) (fun k e=>by cases e)⟩
 case round =>
  obtain ⟨k,hk,rfl,hroom,hdone,hlt0,hnx⟩:=hrel
  by_cases hlt:k < n
  ·obtain ⟨b,off,s,rfl,hs,hr,hb⟩:=H.out.at hlt
   have HS:Hid (zs[k]? = some s):=hs
   clear hs
   obtain ⟨h0,h1,h2,h3,h4⟩:=hr.below hnx hb
   have HD:Hid (qJ4 wr w.heap.size n∧qZ7 wr w.heap.size (zs.take k)):=⟨hroom,hdone⟩
   clear hroom hdone hr
   have hlt':(k:Int) < (n:Int):=by omega
   go_wp2_with fail
   refine (QT1 s _).mono ?_
   rintro e w1 ⟨rfl,hb1⟩
   obtain ⟨⟨hc,hf⟩,hd⟩:=HD.out
   have hz1:=hb1.size
   have HD1:Hid (qJ4 w1 w.heap.size n∧qZ7 w1 w.heap.size (zs.take k)∧Below w.heap.size w w1) :=
    ⟨⟨fun j hj=>by obtain ⟨v,e⟩:=hc j hj;exact ⟨v,(hb1.cell (p:=⟨w.heap.size,j,none⟩) hlt0).trans e⟩,fun j=>(hb1.frozen (p:=⟨w.heap.size,j,none⟩) hlt0).trans (hf j)⟩,hd.below hb1,hnx.trans (hb1.mono hnx.size)⟩
   clear hc hf hd HD h0 h1 h2 h3 h4
   obtain ⟨v0,c0⟩:=HD1.out.1.1 (k * 5) (by omega)
   obtain ⟨v1,c1⟩:=HD1.out.1.1 (k * 5+1) (by omega)
   obtain ⟨v2,c2⟩:=HD1.out.1.1 (k * 5+2) (by omega)
   obtain ⟨v3,c3⟩:=HD1.out.1.1 (k * 5+3) (by omega)
   obtain ⟨v4,c4⟩:=HD1.out.1.1 (k * 5+4) (by omega)
   have f0:=HD1.out.1.2 (k * 5)
   have f1:=HD1.out.1.2 (k * 5+1)
   have f2:=HD1.out.1.2 (k * 5+2)
   have f3:=HD1.out.1.2 (k * 5+3)
   have f4:=HD1.out.1.2 (k * 5+4)
   have RM:Hid (qJ4 (StPut w1 w.heap.size (k * 5) s) w.heap.size n∧qZ7 (StPut w1 w.heap.size (k * 5) s) w.heap.size (zs.take (k+1))∧Below w.heap.size w (StPut w1 w.heap.size (k * 5) s)):=by
    have h2:=StPut_room HD1.out.1 HD1.out.2.1 HS.out hlt
    exact ⟨h2.1,h2.2,StPut_below HD1.out.2.2 (Nat.le_refl _) s⟩
   go_wp2
   exact ⟨⟨k+1,by omega,by go_num,RM.out.1,RM.out.2.1,by simp only [World.size_setCell];omega,RM.out.2.2⟩,by simp [intOf];omega⟩
  ·have hkn:k=n:=by omega
   subst hkn
   rw [List.take_of_length_le (by rw [hz.out];exact Nat.le_refl _)] at hdone
   go_wp2
   go_ret
   exact ⟨rfl,hdone,hlt0,hnx,hroom⟩
theorem QH7 (x:StI) (w:World) :
  Calls Tryz.prog 66 #[.agg #[.int .i64 x.k,.int .i64 x.e,.int .i64 x.f,.int .i64 x.s,.int .i64 x.n],.agg #[.int .i64 x.k,.int .i64 x.e,.int .i64 x.f,.int .i64 x.s,.int .i64 x.n]] w fun e w'=>e = .returned (.bool true)∧Below w.heap.size w w':=by
 go_enter Tryz.func66,Tryz.ntmps66
 go_wp2
 go_ret
 exact ⟨rfl,by go_grown⟩
theorem QF8 (a b:Option Addr) (n c d:Nat) (zs:List StI) (w:World) (hn:n≤1048576) (ha:qK9 w a n zs) (hb:qK9 w b n zs) :
  Calls Tryz.prog 38 #[.slice a n c,.slice b n d] w fun e w'=>e = .returned (.bool true)∧Below w.heap.size w w':=by
 have HA:Hid (qK9 w a n zs):=ha
 have HB:Hid (qK9 w b n zs):=hb
 clear ha hb
 have hn':(n:Int)≤1048576:=by omega
 go_enter Tryz.func38,Tryz.ntmps38
 go_wp2
 go_loopw [5] (fun i wr=>∃ k:Nat,k≤n∧i = .int .i64 (k:Int)∧Below w.heap.size w wr) (fun i _=>n - (intOf i).toNat)
 case atStart=>exact ⟨0,Nat.zero_le _,rfl,Below.refl _ _⟩
 case round =>
  obtain ⟨k,hk,rfl,hnx⟩:=hrel
  by_cases hlt:k < n
  ·obtain ⟨b1,o1,s,e1,hs,hr,hl1⟩:=HA.out.at hlt
   obtain ⟨b2,o2,s2,e2,hs2,hr2,hl2⟩:=HB.out.at hlt
   obtain rfl:s=s2:=Option.some.inj (hs.symm.trans hs2)
   subst e1 e2
   clear hs hs2
   obtain ⟨h0,h1,h2,h3,h4⟩:=hr.below hnx hl1
   obtain ⟨g0,g1,g2,g3,g4⟩:=hr2.below hnx hl2
   clear hr hr2
   have hlt':(k:Int) < (n:Int):=by omega
   have hb1:b1 < wr.heap.size:=zL wr ⟨b1,o1+k * 5,none⟩ h0
   have hb2:b2 < wr.heap.size:=zL wr ⟨b2,o2+k * 5,none⟩ g0
   go_wp2
   go_region_held3 (fun w'=>(∀ b o,b < wr.heap.size→w'.cell? ⟨b,o,none⟩=wr.cell? ⟨b,o,none⟩)∧Below wr.heap.size wr w') (first | exact hS | exact qB6 _)
    (first | (go_at_call 66;refine (QH7 s _).mono ?_;rintro e w' ⟨rfl,hb1⟩;have hS:=qA7 (by assumption) hb1))
   go_wp2
   exact ⟨⟨k+1,by omega,by go_num,hnx.trans (hS.2.mono hnx.size)⟩,by simp [intOf];omega⟩
  ·have hkn:k=n:=by omega
   subst hkn
   go_wp2
   go_ret
   exact ⟨rfl,hnx⟩

def swT (k:Int):ByteArray:=if k=1 then ⟨#[105,115,115,117,101]⟩ else if k=2 then ⟨#[114,101,118,111,107,101]⟩ else if k=3 then ⟨#[110,101,120,116]⟩ else if k=4 then ⟨#[116,97,107,101]⟩ else ⟨#[]⟩
def QH6 (k:Int):Bool:=decide (k=1) || decide (k=2)
def ownI (x:StI):StI:=if QH6 x.k=true then ⟨x.k,x.e,x.f,x.s,0⟩ else ⟨x.k,x.e,0,0,x.n⟩
def qP3 (x y:StI):Bool:=decide (x=y)
def ownB (x:StI):Bool:=qP3 x (ownI x)
def rngB (x:StI):Bool:=if inR x.e 1 9=false then false else if QH6 x.k=true then (if inR x.f 1 4=false then false else inR x.s 1 255) else inR x.n 0 7
def qC4 (x:StI):Int:=if inR x.k 1 4=false then 1 else if ownB x=false then 1 else if rngB x=false then 3 else 0
theorem QX9 (k:Int) (w:World):Calls Tryz.prog 102 #[.int .i64 k] w fun e w'=>e = .returned (.string (swT k))∧w=w':=by
 unfold swT
 by_cases h1:k=1
 ·subst h1;go_enter Tryz.func102,Tryz.ntmps102;go_wp2;go_ret;exact ⟨rfl,rfl⟩
 by_cases h2:k=2
 ·subst h2;go_enter Tryz.func102,Tryz.ntmps102;go_wp2;go_ret;exact ⟨rfl,rfl⟩
 by_cases h3:k=3
 ·subst h3;go_enter Tryz.func102,Tryz.ntmps102;go_wp2;go_ret;exact ⟨rfl,rfl⟩
 by_cases h4:k=4
 ·subst h4;go_enter Tryz.func102,Tryz.ntmps102;go_wp2;go_ret;exact ⟨rfl,rfl⟩
 rw [if_neg h1,if_neg h2,if_neg h3,if_neg h4]
 go_enter Tryz.func102,Tryz.ntmps102;go_wp2;go_ret;exact ⟨rfl,rfl⟩
theorem byteNe_of {a b:ByteArray} (h:a≠b):(a.toList==b.toList)=false:=by
 rw [beq_eq_false_iff_ne]
 intro e
 rw [ByteArray.toList_eq,ByteArray.toList_eq] at e
 exact h (WideShapes.bytes_inj e)
theorem sw_in {k:Int} (h:inR k 1 4=true):swT k≠⟨#[]⟩:=by
 rw [qG5] at h
 have : k=1∨k=2∨k=3∨k=4:=by omega
 rcases this with rfl | rfl | rfl | rfl <;> (intro e;have:=congrArg (fun b:ByteArray=>b.data.size) e;simp [swT] at this)
theorem sw_out {k:Int} (h:inR k 1 4=false):swT k=⟨#[]⟩:=by
 have h':¬ (1≤k∧k≤4):=fun q=>by rw [← qG5,h] at q;cases q
 unfold swT
 rw [if_neg (by omega),if_neg (by omega),if_neg (by omega),if_neg (by omega)]
theorem qV4 (k:Int) (w:World):Calls Tryz.prog 130 #[.int .i64 k] w fun e w'=>e = .returned (.bool (QH6 k))∧w=w':=by
 unfold QH6
 by_cases h1:k=1
 ·subst h1;go_enter Tryz.func130,Tryz.ntmps130;go_wp2;go_ret;exact ⟨rfl,rfl⟩
 by_cases h2:k=2
 ·subst h2;go_enter Tryz.func130,Tryz.ntmps130;go_wp2;go_ret;exact ⟨rfl,rfl⟩
 go_enter Tryz.func130,Tryz.ntmps130;go_wp2;go_ret;exact ⟨by simp [h1,h2],rfl⟩
theorem isNext_c (v:Int) (w:World):Calls Tryz.prog 134 #[.int .i64 v] w fun e w'=>e = .returned (.bool (inR v 0 7))∧w=w':=by
 unfold inR
 cases h0:decide (0≤v)
 ·go_enter Tryz.func134,Tryz.ntmps134
  go_wp2
  go_ret
  exact ⟨by simp,rfl⟩
 ·cases h1:decide (v≤7)
  all_goals
   go_enter Tryz.func134,Tryz.ntmps134
   go_wp2
   go_ret
   exact ⟨by simp,rfl⟩
def qU4 (v:Int):Int:=if inR v 0 255=true then 0 else 3
theorem iSetFault_c (v:Int) (w:World):Calls Tryz.prog 133 #[.int .i64 v] w fun e w'=>e = .returned (.int .i64 (qU4 v))∧w=w':=by
 by_cases q0:0≤v
 ·by_cases q1:v < 256
  ·have e0:qU4 v=0:=by unfold qU4;rw [if_pos ((qG5 _ _ _).2 ⟨by omega,by omega⟩)]
   rw [e0]
   clear e0
   go_enter Tryz.func133,Tryz.ntmps133
   go_wp2
   go_ret
   exact ⟨rfl,rfl⟩
  ·have e0:qU4 v=3:=by unfold qU4;rw [if_neg (fun h=>by rw [qG5] at h;omega)]
   rw [e0]
   clear e0
   have q2:(256:Int)≤v:=by omega
   go_enter Tryz.func133,Tryz.ntmps133
   go_wp2
   go_ret
   exact ⟨rfl,rfl⟩
 ·have e0:qU4 v=3:=by unfold qU4;rw [if_neg (fun h=>by rw [qG5] at h;omega)]
  rw [e0]
  clear e0
  have q2:v < (0:Int):=by omega
  go_enter Tryz.func133,Tryz.ntmps133
  go_wp2
  go_ret
  exact ⟨rfl,rfl⟩
theorem own_c (x:StI) (w:World):Calls Tryz.prog 103 #[.agg #[.int .i64 x.k,.int .i64 x.e,.int .i64 x.f,.int .i64 x.s,.int .i64 x.n]] w fun e w'=>e = .returned (.agg #[.int .i64 (ownI x).k,.int .i64 (ownI x).e,.int .i64 (ownI x).f,.int .i64 (ownI x).s,.int .i64 (ownI x).n])∧Below w.heap.size w w':=by
 unfold ownI
 cases hk:QH6 x.k
 all_goals
  go_enter Tryz.func103,Tryz.ntmps103
  go_wp2_with (go_at_call 130;refine (qV4 _ _).mono ?_;rintro e w' ⟨rfl,rfl⟩;rw [hk])
  go_returns
  exact ⟨rfl,by go_grown⟩
theorem sameSt_mk (a0 a1 a2 a3 a4 b0 b1 b2 b3 b4:Int):qP3 ⟨a0,a1,a2,a3,a4⟩ ⟨b0,b1,b2,b3,b4⟩=(a0==b0&&a1==b1&&a2==b2&&a3==b3&&a4==b4):=by
 unfold qP3
 rw [Bool.eq_iff_iff]
 simp only [decide_eq_true_eq,StI.mk.injEq,Bool.and_eq_true,beq_iff_eq]
 constructor
 ·rintro ⟨h0,h1,h2,h3,h4⟩;exact ⟨⟨⟨⟨h0,h1⟩,h2⟩,h3⟩,h4⟩
 ·rintro ⟨⟨⟨⟨h0,h1⟩,h2⟩,h3⟩,h4⟩;exact ⟨h0,h1,h2,h3,h4⟩
theorem st_eql (x y:StI) (w:World):(binOp .eql 43 (.agg #[.int .i64 x.k,.int .i64 x.e,.int .i64 x.f,.int .i64 x.s,.int .i64 x.n]) (.agg #[.int .i64 y.k,.int .i64 y.e,.int .i64 y.f,.int .i64 y.s,.int .i64 y.n])).run Tryz.prog w = .ok (.bool (qP3 x y)) w:=by
 obtain ⟨a0,a1,a2,a3,a4⟩:=x
 obtain ⟨b0,b1,b2,b3,b4⟩:=y
 simp only
 rw [sameSt_mk]
 cases e0:(a0==b0)
 ·simp [go_sem,e0]
 cases e1:(a1==b1)
 ·simp [go_sem,e0,e1]
 cases e2:(a2==b2)
 ·simp [go_sem,e0,e1,e2]
 cases e3:(a3==b3)
 ·simp [go_sem,e0,e1,e2,e3]
 cases e4:(a4==b4)
 ·simp [go_sem,e0,e1,e2,e3,e4]
 ·simp [go_sem,e0,e1,e2,e3,e4]

def qQ8 (said:List StI) (k e:Int):Bool:=said.any (fun x=>decide (x.k=k)&&decide (x.e=e))
def qI5 (said:List StI) (k e:Int):Option StI:=said.find? (fun x=>decide (x.k=k)&&decide (x.e=e))
def qU6 (said:List StI) (e:Int):Bool:=qQ8 said 3 e || qQ8 said 4 e
def qT0 (x:StI):StI:=⟨2,x.e,x.f,x.s,0⟩
def qD7 (said:List StI) (x:StI):Bool:=said.any (fun y=>qP3 y x)
theorem QY2 {said:List StI} {x:StI}:qD7 said x=true↔x∈said:=by
 unfold qD7 qP3
 rw [List.any_eq_true]
 constructor
 ·rintro ⟨y,hy,h⟩
  have : y=x:=of_decide_eq_true h
  subst this;exact hy
 ·intro h
  exact ⟨x,h,decide_eq_true rfl⟩
theorem QC0 {said:List StI} {j:Nat} {x:StI} (h:said[j]? = some x) (k e:Int):qI5 (said.drop j) k e=if x.k=k∧x.e=e then some x else qI5 (said.drop (j+1)) k e:=by
 have hl:j < said.length:=by
  by_cases q:j < said.length
  ·exact q
  ·rw [List.getElem?_eq_none (by omega)] at h;cases h
 rw [List.getElem?_eq_getElem hl] at h
 rw [List.drop_eq_getElem_cons hl,Option.some.inj h]
 unfold qI5
 rw [List.find?_cons]
 by_cases q:x.k=k∧x.e=e
 ·rw [if_pos q];simp [q.1,q.2]
 ·rw [if_neg q]
  have : (decide (x.k=k)&&decide (x.e=e))=false:=by
   rw [Bool.and_eq_false_iff]
   by_cases q1:x.k=k
   ·exact .inr (decide_eq_false (fun q2=>q ⟨q1,q2⟩))
   ·exact .inl (decide_eq_false q1)
  rw [this]
theorem kindB_at (said:List StI) (k e:Int):qQ8 said k e=(qI5 said k e).isSome:=by
 unfold qQ8 qI5
 induction said with
 | nil=>rfl
 | cons x r ih =>
  rw [List.any_cons,List.find?_cons]
  cases (decide (x.k=k)&&decide (x.e=e))
  ·simpa using ih
  ·simp
theorem saidB_drop {said:List StI} {j:Nat} {x:StI} (h:said[j]? = some x) (y:StI):qD7 (said.drop j) y=(qP3 x y || qD7 (said.drop (j+1)) y):=by
 have hl:j < said.length:=by
  by_cases q:j < said.length
  ·exact q
  ·rw [List.getElem?_eq_none (by omega)] at h;cases h
 rw [List.getElem?_eq_getElem hl] at h
 rw [List.drop_eq_getElem_cons hl,Option.some.inj h]
 unfold qD7
 rw [List.any_cons]

theorem qS7.new (w:World) (x:StI) (t:TypeId):qS7 (w.alloc (.cells #[.int .i64 x.k,.int .i64 x.e,.int .i64 x.f,.int .i64 x.s,.int .i64 x.n] t)) w.heap.size 0 x:=by
 simp [qS7]
theorem inBounds_c (x:StI) (w:World):Calls Tryz.prog 104 #[.agg #[.int .i64 x.k,.int .i64 x.e,.int .i64 x.f,.int .i64 x.s,.int .i64 x.n]] w fun e w'=>e = .returned (.bool (rngB x))∧Below w.heap.size w w':=by
 obtain ⟨xk,xe,xf,xs,xn⟩:=x
 unfold rngB
 simp only
 cases he:inR xe 1 9
 ·go_enter Tryz.func104,Tryz.ntmps104
  go_wp2_with (go_at_call 131;refine (qI4 _ _).mono ?_;rintro e w' ⟨rfl,rfl⟩;rw [he])
  go_ret
  exact ⟨rfl,by go_grown⟩
 ·cases hk:QH6 xk
  ·cases hn:inR xn 0 7
   all_goals
    go_enter Tryz.func104,Tryz.ntmps104
    go_wp2_with (first
     | (go_at_call 131;refine (qI4 _ _).mono ?_;rintro e w' ⟨rfl,rfl⟩;rw [he])
     | (go_at_call 130;refine (qV4 _ _).mono ?_;rintro e w' ⟨rfl,rfl⟩;rw [hk])
     | (go_at_call 134;refine (isNext_c _ _).mono ?_;rintro e w' ⟨rfl,rfl⟩;rw [hn]))
    go_ret
    exact ⟨rfl,by go_grown⟩
  ·cases hf:inR xf 1 4
   ·go_enter Tryz.func104,Tryz.ntmps104
    go_wp2_with (first
     | (go_at_call 131;refine (qI4 _ _).mono ?_;rintro e w' ⟨rfl,rfl⟩;rw [he])
     | (go_at_call 130;refine (qV4 _ _).mono ?_;rintro e w' ⟨rfl,rfl⟩;rw [hk])
     | (go_at_call 132;refine (QC1 _ _).mono ?_;rintro e w' ⟨rfl,rfl⟩;rw [hf]))
    go_ret
    exact ⟨rfl,by go_grown⟩
   ·by_cases hs:xs=0
    ·subst hs
     go_enter Tryz.func104,Tryz.ntmps104
     go_wp2_with (first
      | (go_at_call 131;refine (qI4 _ _).mono ?_;rintro e w' ⟨rfl,rfl⟩;rw [he])
      | (go_at_call 130;refine (qV4 _ _).mono ?_;rintro e w' ⟨rfl,rfl⟩;rw [hk])
      | (go_at_call 132;refine (QC1 _ _).mono ?_;rintro e w' ⟨rfl,rfl⟩;rw [hf]))
     go_ret
     exact ⟨rfl,by go_grown⟩
    ·have hsb:(xs != 0)=true:=by simpa using hs
     obtain ⟨c,hc⟩:∃ c,qU4 xs=c:=⟨_,rfl⟩
     have HV:Hid (inR xs 1 255=(c==0)):=by
      show inR xs 1 255=(c==0)
      rw [← hc]
      unfold qU4
      rw [Bool.eq_iff_iff,qG5]
      by_cases q:inR xs 0 255=true
      ·rw [if_pos q]
       rw [qG5] at q
       simp
       omega
      ·rw [if_neg q]
       rw [qG5] at q
       simp
       omega
     have HC:Hid (qU4 xs=c):=hc
     clear hc hs
     go_enter Tryz.func104,Tryz.ntmps104
     go_wp2_with (first
      | (go_at_call 131;refine (qI4 _ _).mono ?_;rintro e w' ⟨rfl,rfl⟩;rw [he])
      | (go_at_call 130;refine (qV4 _ _).mono ?_;rintro e w' ⟨rfl,rfl⟩;rw [hk])
      | (go_at_call 132;refine (QC1 _ _).mono ?_;rintro e w' ⟨rfl,rfl⟩;rw [hf])
      | (go_at_call 133;refine (iSetFault_c _ _).mono ?_;rintro e w' ⟨rfl,rfl⟩;rw [HC.out]))
     go_ret
     exact ⟨by rw [HV.out];rfl,by go_grown⟩
theorem st_neq (x y:StI) (w:World):(binOp .neq 43 (.agg #[.int .i64 x.k,.int .i64 x.e,.int .i64 x.f,.int .i64 x.s,.int .i64 x.n]) (.agg #[.int .i64 y.k,.int .i64 y.e,.int .i64 y.f,.int .i64 y.s,.int .i64 y.n])).run Tryz.prog w = .ok (.bool (!(qP3 x y))) w:=by
 have h:=st_eql x y w
 simp only [binOp,Sem.run_bind] at h ⊢
 revert h
 cases (Op.equal 43 (.agg #[.int .i64 x.k,.int .i64 x.e,.int .i64 x.f,.int .i64 x.s,.int .i64 x.n]) (.agg #[.int .i64 y.k,.int .i64 y.e,.int .i64 y.f,.int .i64 y.s,.int .i64 y.n])).run Tryz.prog w <;> simp [Result.andThen]
theorem qC1 (x:StI) (w:World):Calls Tryz.prog 79 #[.agg #[.int .i64 x.k,.int .i64 x.e,.int .i64 x.f,.int .i64 x.s,.int .i64 x.n]] w fun e w'=>e = .returned (.int .i64 (qC4 x))∧Below w.heap.size w w':=by
  obtain ⟨W,hW⟩:∃ W,W=w.alloc (.cells #[.int .i64 x.k,.int .i64 x.e,.int .i64 x.f,.int .i64 x.s,.int .i64 x.n] 43):=⟨_,rfl⟩
  have B0:Below w.heap.size w W:=by rw [hW];exact zN
  have hz:w.heap.size < W.heap.size:=by rw [hW];simp
  have HX:Hid (qS7 W w.heap.size 0 x):=by rw [hW];exact qS7.new w x _
  have HWE:Hid (W=w.alloc (.cells #[.int .i64 x.k,.int .i64 x.e,.int .i64 x.f,.int .i64 x.s,.int .i64 x.n] 43)):=hW
  clear hW
  cases hk:inR x.k 1 4
  · have HT:Hid (swT x.k=⟨#[]⟩):=sw_out hk
    have hC:Hid (qC4 x=1):=by show qC4 x=1;unfold qC4;rw [if_pos hk]
    rw [hC.out]
    clear hk
    go_enter Tryz.func79,Tryz.ntmps79
    go_wp2_with fail
    rw [← HWE.out]
    obtain ⟨x0,x1,x2,x3,x4⟩:=HX.out
    simp only [Nat.zero_add] at x0 x1 x2 x3 x4
    refine wp_region_held_drew (S:=fun w'=>(∀ b o,b < W.heap.size→w'.cell? ⟨b,o,none⟩=W.cell? ⟨b,o,none⟩)∧Below W.heap.size W w') (by kernel_rfl) (qB6 _) (fun hHeld=>?_)
    refine Zk.go [0,1] ?_
    iterate 2
      refine Zk.st (v:=?_) rfl ?_ ?_
      rotate_left 1
      · intro w hSw;(try dsimp only at hSw);go_simp;try (with_reducible rfl)
      try simp only [Act.put,zA,zB,zC,zD,zE,zF]
    refine Zk.fin ?_
    refine Zk.rd (i:=2) rfl (fun K hK=>?_)
    go_simp
    refine (QX9 _ _).mono ?_
    rintro e w' ⟨rfl,rfl⟩
    rw [HT.out]
    have hS:=hHeld
    refine hK.out _ _ hS (fun hHeld=>?_)
    clear hK K
    try simp only [Act.put,zA,zB,zC,zD,zE,zF]
    refine Zk.go [3,4,5,6,7,8,9] ?_
    iterate 2
      refine Zk.st (v:=?_) rfl ?_ ?_
      rotate_left 1
      · intro w hSw;(try dsimp only at hSw);go_simp;try (with_reducible rfl)
      try simp only [Act.put,zA,zB,zC,zD,zE,zF]
    iterate 4 (refine Zk.un rfl ?_;try simp only [Act.put,zA,zB,zC,zD,zE,zF])
    refine Zk.st (v:=?_) rfl ?_ ?_
    rotate_left 1
    · intro w hSw;(try dsimp only at hSw);go_simp;try (with_reducible rfl)
    try simp only [Act.put,zA,zB,zC,zD,zE,zF]
    refine Zk.fin ?_
    refine wpAnyH_done (by kernel_rfl) ?_ _
    go_wp2
    go_ret
    exact ⟨rfl,B0.trans (hHeld.2.mono B0.size)⟩
  · have hT0:=byteNe_of (sw_in hk)
    obtain ⟨T,hT⟩:∃ T,swT x.k=T:=⟨_,rfl⟩
    have HT:Hid (swT x.k=T):=hT
    have hw:T.toList.isEmpty=false:=by
      rw [hT] at hT0
      cases q:T.toList with
      | nil=>rw [q] at hT0;simp at hT0
      | cons a as'=>rfl
    obtain ⟨y,hy⟩:∃ y,ownI x=y:=⟨_,rfl⟩
    have HO:=own_c x
    rw [hy] at HO
    have HOO:Hid (∀ w:World,Calls Tryz.prog 103 #[.agg #[.int .i64 x.k,.int .i64 x.e,.int .i64 x.f,.int .i64 x.s,.int .i64 x.n]] w fun e w'=>e = .returned (.agg #[.int .i64 y.k,.int .i64 y.e,.int .i64 y.f,.int .i64 y.s,.int .i64 y.n])∧Below w.heap.size w w'):=HO
    have HB:Hid (∀ w:World,Calls Tryz.prog 104 #[.agg #[.int .i64 x.k,.int .i64 x.e,.int .i64 x.f,.int .i64 x.s,.int .i64 x.n]] w fun e w'=>e = .returned (.bool (rngB x))∧Below w.heap.size w w'):=inBounds_c x
    have hE:∀ w:World,_:=fun w=>st_neq x y w
    have hob:ownB x=qP3 x y:=by unfold ownB;rw [hy]
    obtain ⟨t,ht⟩:∃ t,qP3 x y=t:=⟨_,rfl⟩
    obtain ⟨r,hr⟩:∃ r,rngB x=r:=⟨_,rfl⟩
    have HC:Hid (qC4 x=if t=false then 1 else if r=false then 3 else 0):=by show qC4 x=_;unfold qC4;rw [if_neg (by rw [hk];simp),hob,ht,hr]
    rw [ht] at hE
    rw [hr] at HB
    rw [HC.out]
    clear HO hob hk hT0 hT hy ht hr
    go_enter Tryz.func79,Tryz.ntmps79
    go_wp2_with fail
    rw [← HWE.out]
    obtain ⟨x0,x1,x2,x3,x4⟩:=HX.out
    simp only [Nat.zero_add] at x0 x1 x2 x3 x4
    go_region_held3 (fun w'=>(∀ b o,b < W.heap.size→w'.cell? ⟨b,o,none⟩=W.cell? ⟨b,o,none⟩)∧Below W.heap.size W w') (first | exact hS | exact qB6 _)
      (first | (go_at_call 102;refine (QX9 _ _).mono ?_;rintro e w' ⟨rfl,rfl⟩;rw [HT.out])
             | (go_at_call 103;refine (HOO.out _).mono ?_;rintro e w' ⟨rfl,hb1⟩;have hS:=qA7 (by assumption) hb1))
    cases t
    · go_wp2
      go_ret
      exact ⟨rfl,B0.trans (hS.2.mono B0.size)⟩
    · obtain ⟨x0,x1,x2,x3,x4⟩:=HX.out.below hS.2 hz
      simp only [Nat.zero_add] at x0 x1 x2 x3 x4
      go_wp2_with fail
      refine (HB.out _).mono ?_
      rintro e w2 ⟨rfl,hb2⟩
      cases r
      all_goals
        go_wp2
        go_ret
        exact ⟨rfl,(B0.trans (hS.2.mono B0.size)).trans (hb2.mono (by have:=hS.2.size;omega))⟩

theorem revokeOf_c (x:StI) (w:World):Calls Tryz.prog 137 #[.agg #[.int .i64 x.k,.int .i64 x.e,.int .i64 x.f,.int .i64 x.s,.int .i64 x.n]] w fun e w'=>e = .returned (.agg #[.int .i64 2,.int .i64 x.e,.int .i64 x.f,.int .i64 x.s,.int .i64 0])∧Below w.heap.size w w':=by
 go_enter Tryz.func137,Tryz.ntmps137
 go_wp2
 refine bodyPost_ret (v:=.agg #[.int .i64 2,.int .i64 x.e,.int .i64 x.f,.int .i64 x.s,.int .i64 0]) (by simp [results,Tryz.results137,go_sem]) rfl ⟨rfl,(zN).alloc (by simp) _⟩

def qC5:List StI→List Value
 | []=>[]
 | p::ps => .int .i64 p.k :: .int .i64 p.e :: .int .i64 p.f :: .int .i64 p.s :: .int .i64 p.n::qC5 ps
theorem qN6 (a b:List StI):qC5 (a++b)=qC5 a++qC5 b:=by
 induction a with
 | nil=>rfl
 | cons p ps ih=>simp [qC5,ih]
theorem QA5 (a:List StI):(qC5 a).length=a.length * 5:=by
 induction a with
 | nil=>rfl
 | cons p ps ih=>simp [qC5,ih];omega
theorem QN2:∀ (a:List StI) (k:Nat) (p:StI),a[k]? = some p→(qC5 a)[k * 5]? = some (.int .i64 p.k)∧(qC5 a)[k * 5+1]? = some (.int .i64 p.e)∧(qC5 a)[k * 5+2]? = some (.int .i64 p.f)∧(qC5 a)[k * 5+3]? = some (.int .i64 p.s)∧(qC5 a)[k * 5+4]? = some (.int .i64 p.n)
 | [],_,_,h=>by simp at h
 | q::qs,0,p,h=>by simp at h;subst h;exact ⟨rfl,rfl,rfl,rfl,rfl⟩
 | q::qs,k+1,p,h=>by
  have:=QN2 qs k p (by simpa using h)
  rw [show (k+1) * 5=k * 5+1+1+1+1+1 by omega,show k * 5+1+1+1+1+1+1=(k * 5+1)+1+1+1+1+1 by omega,show k * 5+1+1+1+1+1+2=(k * 5+2)+1+1+1+1+1 by omega,show k * 5+1+1+1+1+1+3=(k * 5+3)+1+1+1+1+1 by omega,show k * 5+1+1+1+1+1+4=(k * 5+4)+1+1+1+1+1 by omega]
  simpa [qC5] using this
theorem qO5 (a:List StI):∀ u∈qC5 a,u.oneCell'=true:=by
 induction a with
 | nil=>simp [qC5]
 | cons p ps ih =>
  intro u hu
  simp only [qC5,List.mem_cons] at hu
  rcases hu with rfl | rfl | rfl | rfl | rfl | hu
  ·rfl
  ·rfl
  ·rfl
  ·rfl
  ·rfl
  ·exact ih u hu
def qB1 (w:World) (B:Nat) (v:Value) (gs:List StI):Prop:=w.ownsRow B 43 5 v gs.length (qC5 gs)
theorem qB1.shape {w:World} {B:Nat} {v:Value} {gs:List StI} (h:qB1 w B v gs) (hv:v ≠ .slice none 0 0):∃ g cap,v = .slice (some ⟨g,0,none⟩) gs.length cap:=by
 have h0:w.ownsRow B 43 5 v gs.length (qC5 gs):=h
 rcases h0.2 with ⟨h',_⟩ | ⟨g,cap,cur,h',_⟩
 ·exact absurd h' hv
 ·exact ⟨g,cap,h'⟩
theorem qB1.below {w w':World} {B:Nat} {v:Value} {gs:List StI} (h:qB1 w B v gs) (hb:Below w.heap.size w w'):qB1 w' B v gs :=
 World.ownsRow.kept (row:=none) h ⟨hb.os,hb.tape,hb.output,hb.size,fun k hk _=>hb.block k hk⟩ (by cases v.ownBlock <;> simp)
theorem qC0 {w:World} {B B':Nat} {v:Value} {gs:List StI} (h:qB1 w B v gs) (hb:B'≤B):qB1 w B' v gs:=by
 have h0:w.ownsRow B 43 5 v gs.length (qC5 gs):=h
 refine ⟨h0.1,?_⟩
 rcases h0.2 with h' | ⟨g,cap,cur,e,hg,rest⟩
 ·exact .inl h'
 ·exact .inr ⟨g,cap,cur,e,Nat.le_trans hb hg,rest⟩
theorem QR2 {w:World} {B:Nat} {v:Value} {es:List StI} {x:StI} (h:w.ownsRow B 43 5 v (es.length+1) (qC5 es++[.int .i64 x.k,.int .i64 x.e,.int .i64 x.f,.int .i64 x.s,.int .i64 x.n])):qB1 w B v (es++[x]):=by
 unfold qB1
 rw [List.length_append,qN6]
 exact h
theorem ownSt_grown {w1 Z w':World} {B:Nat} {v:Value} {es:List StI} (ho:qB1 Z B v es) (hb:Below B w1 Z) (hg:Z.grownBy w' v.ownBlock) (hB:B≤Z.heap.size):Below B w1 w':=by
 have h0:Z.ownsRow B 43 5 v es.length (qC5 es):=ho
 exact hb.grown hg hB (fun j hj=>(h0.lt j hj).1)
def StV (w:World) (a:Option Addr) (zs:List StI):Prop:=∀ k p,zs[k]? = some p→∃ g,a=some ⟨g,0,none⟩∧qS7 w g (k * 5) p
theorem StV.below {w w':World} {a:Option Addr} {zs:List StI} (h:StV w a zs) (hb:Below w.heap.size w w'):StV w' a zs:=fun k p e=>by
 obtain ⟨g,ha,h1⟩:=h k p e
 exact ⟨g,ha,h1.below hb (zL w ⟨g,k * 5,none⟩ h1.1)⟩
theorem StV.isIn {w:World} {a:Option Addr} {n:Nat} {zs:List StI} (hn:zs.length=n) (h:StV w a zs):qK9 w a n zs:=by
 refine ⟨hn,fun hp=>?_⟩
 obtain ⟨g,ha,_⟩:=h 0 _ (List.getElem?_eq_getElem (by omega))
 refine ⟨g,0,ha,fun k x e=>?_⟩
 obtain ⟨g',ha',hx⟩:=h k x e
 rw [ha] at ha'
 cases ha'
 rw [Nat.zero_add]
 exact hx
theorem qB1.view {w:World} {B:Nat} {a:Option Addr} {n cap:Nat} {zs:List StI} (h:qB1 w B (.slice a n cap) zs):StV w a zs:=by
 intro k p e
 have hk:k < zs.length:=by
  by_cases q:k < zs.length
  ·exact q
  ·rw [List.getElem?_eq_none (by omega)] at e;cases e
 have h0:w.ownsRow B 43 5 (.slice a n cap) zs.length (qC5 zs):=h
 rcases h0.2 with ⟨h',h''⟩ | ⟨g,cap',cur,h',_⟩
 ·omega
 ·simp at h'
  obtain ⟨rfl,rfl,rfl⟩:=h'
  obtain ⟨f0,f1,f2,f3,f4⟩:=QN2 zs k p e
  exact ⟨g,rfl,(h0.cellAt (k * 5) (by omega)).trans f0,(h0.cellAt (k * 5+1) (by omega)).trans f1,(h0.cellAt (k * 5+2) (by omega)).trans f2,(h0.cellAt (k * 5+3) (by omega)).trans f3,(h0.cellAt (k * 5+4) (by omega)).trans f4⟩
theorem qB1.form {w:World} {B:Nat} {v:Value} {zs:List StI} (h:qB1 w B v zs):(v = .slice none 0 0∧zs=[])∨∃ g cap,v = .slice (some ⟨g,0,none⟩) zs.length cap∧B≤g∧g < w.heap.size∧zs.length≤cap∧cap≤maxLen:=by
 have h0:w.ownsRow B 43 5 v zs.length (qC5 zs):=h
 rcases h0.2 with ⟨h',h''⟩ | ⟨g,cap',cur,h',hb,hg,hc,hm,_⟩
 ·exact .inl ⟨h',List.length_eq_zero_iff.1 h''⟩
 ·exact .inr ⟨g,cap',h',hb,(Array.getElem?_eq_some_iff.1 hg).1,hc,hm⟩
def QP1 (n:Nat):List StI:=(List.range n).map fun j=>(⟨((1+5 * j:Nat):Int),((2+5 * j:Nat):Int),((3+5 * j:Nat):Int),((4+5 * j:Nat):Int),((5+5 * j:Nat):Int)⟩:StI)
theorem mkSt_len (n:Nat):(QP1 n).length=n:=by simp [QP1]
theorem mkSt_at (n j:Nat) (h:j < n):(QP1 n)[j]? = some (⟨((1+5 * j:Nat):Int),((2+5 * j:Nat):Int),((3+5 * j:Nat):Int),((4+5 * j:Nat):Int),((5+5 * j:Nat):Int)⟩:StI):=by simp [QP1,h]
theorem flatSt_set (a:List StI) (k:Nat) (p:StI):qC5 (a.set k p)=((((((qC5 a).set (k * 5) (.int .i64 p.k)).set (k * 5+1) (.int .i64 p.e)).set (k * 5+2) (.int .i64 p.f)).set (k * 5+3) (.int .i64 p.s)).set (k * 5+4) (.int .i64 p.n)):=by
 induction a generalizing k with
 | nil=>simp [qC5]
 | cons q qs ih =>
  cases k with
  | zero=>simp [qC5]
  | succ k =>
   rw [show (k+1) * 5=k * 5+1+1+1+1+1 by omega]
   simp [qC5,ih]
theorem qB1.put {w:World} {B g cap:Nat} {zs:List StI} {n:Nat} (hn:n=zs.length) (h:qB1 w B (.slice (some ⟨g,0,none⟩) n cap) zs) (j:Nat) (p:StI) :
  qB1 (((((w.setCell ⟨g,j * 5,none⟩ (.int .i64 p.k)).setCell ⟨g,j * 5+1,none⟩ (.int .i64 p.e)).setCell ⟨g,j * 5+2,none⟩ (.int .i64 p.f)).setCell ⟨g,j * 5+3,none⟩ (.int .i64 p.s)).setCell ⟨g,j * 5+4,none⟩ (.int .i64 p.n)) B (.slice (some ⟨g,0,none⟩) n cap) (zs.set j p)∧w.grownBy (((((w.setCell ⟨g,j * 5,none⟩ (.int .i64 p.k)).setCell ⟨g,j * 5+1,none⟩ (.int .i64 p.e)).setCell ⟨g,j * 5+2,none⟩ (.int .i64 p.f)).setCell ⟨g,j * 5+3,none⟩ (.int .i64 p.s)).setCell ⟨g,j * 5+4,none⟩ (.int .i64 p.n)) (some g):=by
 subst hn
 have h0:w.ownsRow B 43 5 (.slice (some ⟨g,0,none⟩) zs.length cap) zs.length (qC5 zs):=h
 have h1:=h0.stored (j * 5) (.int .i64 p.k)
 have h2:=h1.1.stored (j * 5+1) (.int .i64 p.e)
 have h3:=h2.1.stored (j * 5+2) (.int .i64 p.f)
 have h4:=h3.1.stored (j * 5+3) (.int .i64 p.s)
 have h5:=h4.1.stored (j * 5+4) (.int .i64 p.n)
 refine ⟨?_,qF7 (qF7 (qF7 (qF7 h1.2 h2.2) h3.2) h4.2) h5.2⟩
 show World.ownsRow _ B 43 5 _ (zs.set j p).length (qC5 (zs.set j p))
 rw [flatSt_set,List.length_set]
 exact h5.1
theorem qB1.cell {w:World} {B g cap:Nat} {zs:List StI} {n:Nat} (hn:n=zs.length) (h:qB1 w B (.slice (some ⟨g,0,none⟩) n cap) zs) (j:Nat) (hj:j < n * 5):(∃ v,w.cell? ⟨g,j,none⟩=some v)∧w.frozen? ⟨g,j,none⟩=false:=by
 subst hn
 have h0:w.ownsRow B 43 5 (.slice (some ⟨g,0,none⟩) zs.length cap) zs.length (qC5 zs):=h
 exact ⟨⟨_,(h0.cellAt j hj).trans (List.getElem?_eq_getElem (by rw [QA5];exact hj))⟩,h0.frozenAt j⟩
theorem QH3 (B:Nat) (a:Option Addr) (n cap:Nat) (zs:List StI) (w:World) (hz:n=zs.length) (hn:n≤1048576) (h:qB1 w B (.slice a n cap) zs) :
  Calls Tryz.prog 43 #[.slice a n cap,.int .i64 1] w fun e w'=>e = .returned (.int .i64 (1+5 * (n:Int)))∧qB1 w' B (.slice a n cap) (QP1 n)∧w.grownBy w' (Value.slice a n cap).ownBlock:=by
 have HO:Hid (qB1 w B (.slice a n cap) zs):=h
 have HZ:Hid (n=zs.length):=hz
 clear h hz
 have hn':(n:Int)≤1048576:=by omega
 go_enter Tryz.func43,Tryz.ntmps43
 go_wp2
 go_loopw [1,5] (fun q i wr=>∃ (j:Nat) (es:List StI),j≤n∧i = .int .i64 (j:Int)∧q = .int .i64 (1+5 * (j:Int))∧n=es.length∧qB1 wr B (.slice a n cap) es∧(∀ m,m < j→es[m]? = some (⟨((1+5 * m:Nat):Int),((2+5 * m:Nat):Int),((3+5 * m:Nat):Int),((4+5 * m:Nat):Int),((5+5 * m:Nat):Int)⟩:StI))∧w.grownBy wr (Value.slice a n cap).ownBlock)
  (fun _ i _=>n - (intOf i).toNat)
 case atStart=>exact ⟨0,zs,Nat.zero_le _,rfl,rfl,HZ.out,HO.out,fun m hm=>by omega,qM6 _ _⟩
 case round =>
  obtain ⟨j,es,hj,rfl,rfl,hes,hown,hys,hgr⟩:=hrel
  have HE:Hid (n=es.length):=hes
  clear hes
  by_cases hlt:j < n
  ·obtain ⟨g,ha⟩:∃ g,a=some ⟨g,0,none⟩:=by
    rcases hown.form with ⟨h1,h2⟩ | ⟨g,cap',h1,_⟩
    ·have:=HE.out;rw [h2] at this;simp at this;omega
    ·simp at h1;exact ⟨g,h1.1⟩
   subst ha
   obtain ⟨⟨v0,c0⟩,f0⟩:=hown.cell HE.out (j * 5) (by omega)
   obtain ⟨⟨v1,c1⟩,f1⟩:=hown.cell HE.out (j * 5+1) (by omega)
   obtain ⟨⟨v2,c2⟩,f2⟩:=hown.cell HE.out (j * 5+2) (by omega)
   obtain ⟨⟨v3,c3⟩,f3⟩:=hown.cell HE.out (j * 5+3) (by omega)
   obtain ⟨⟨v4,c4⟩,f4⟩:=hown.cell HE.out (j * 5+4) (by omega)
   have hst:=hown.put HE.out j (⟨1+5 * (j:Int),1+5 * (j:Int)+1,1+5 * (j:Int)+1+1,1+5 * (j:Int)+1+1+1,1+5 * (j:Int)+1+1+1+1⟩:StI)
   have R:Hid (qB1 (((((wr.setCell ⟨g,j * 5,none⟩ (.int .i64 (1+5 * (j:Int)))).setCell ⟨g,j * 5+1,none⟩ (.int .i64 (1+5 * (j:Int)+1))).setCell ⟨g,j * 5+2,none⟩ (.int .i64 (1+5 * (j:Int)+1+1))).setCell ⟨g,j * 5+3,none⟩ (.int .i64 (1+5 * (j:Int)+1+1+1))).setCell ⟨g,j * 5+4,none⟩ (.int .i64 (1+5 * (j:Int)+1+1+1+1))) B (.slice (some ⟨g,0,none⟩) n cap) (es.set j (⟨1+5 * (j:Int),1+5 * (j:Int)+1,1+5 * (j:Int)+1+1,1+5 * (j:Int)+1+1+1,1+5 * (j:Int)+1+1+1+1⟩:StI))∧(∀ m,m < j+1→(es.set j (⟨1+5 * (j:Int),1+5 * (j:Int)+1,1+5 * (j:Int)+1+1,1+5 * (j:Int)+1+1+1,1+5 * (j:Int)+1+1+1+1⟩:StI))[m]? = some (⟨((1+5 * m:Nat):Int),((2+5 * m:Nat):Int),((3+5 * m:Nat):Int),((4+5 * m:Nat):Int),((5+5 * m:Nat):Int)⟩:StI))∧w.grownBy (((((wr.setCell ⟨g,j * 5,none⟩ (.int .i64 (1+5 * (j:Int)))).setCell ⟨g,j * 5+1,none⟩ (.int .i64 (1+5 * (j:Int)+1))).setCell ⟨g,j * 5+2,none⟩ (.int .i64 (1+5 * (j:Int)+1+1))).setCell ⟨g,j * 5+3,none⟩ (.int .i64 (1+5 * (j:Int)+1+1+1))).setCell ⟨g,j * 5+4,none⟩ (.int .i64 (1+5 * (j:Int)+1+1+1+1))) (some g)):=by
    refine ⟨hst.1,fun m hm=>?_,qF7 hgr hst.2⟩
    have:=HE.out
    by_cases e:m=j
    ·subst e;rw [List.getElem?_set_self (by omega)];simp only [Option.some.injEq,StI.mk.injEq];omega
    ·rw [List.getElem?_set_ne (by omega)];exact hys m (by omega)
   clear hst hown hys hgr
   have hlt':(j:Int) < (n:Int):=by omega
   go_wp2
   refine ⟨⟨j+1,_,by omega,by go_num,?_,by rw [List.length_set];exact HE.out,R.out.1,R.out.2.1,R.out.2.2⟩,by simp [intOf];omega⟩
   congr 1
  ·have hjn:j=n:=by omega
   subst hjn
   have E:es=QP1 j:=by
    have:=HE.out
    apply List.ext_getElem?
    intro i
    by_cases hi:i < j
    ·rw [hys i hi,mkSt_at j i hi]
    ·rw [List.getElem?_eq_none (by omega),List.getElem?_eq_none (by rw [mkSt_len];omega)]
   rw [E] at hown
   go_wp2
   go_ret
   exact ⟨rfl,hown,hgr⟩
theorem QH5 (a:Option Addr) (n cap:Nat) (w:World) (hn:n≤1048576) (h:StV w a (QP1 n)) :
  Calls Tryz.prog 72 #[.slice a n cap,.int .i64 1] w fun e w'=>e = .returned (.int .i64 (1+5 * (n:Int)))∧w=w':=by
 have HR:Hid (StV w a (QP1 n)):=h
 clear h
 have hn':(n:Int)≤1048576:=by omega
 go_enter Tryz.func72,Tryz.ntmps72
 go_wp2
 go_loop [1,5] (fun q i=>∃ (j:Nat),j≤n∧i = .int .i64 (j:Int)∧q = .int .i64 (1+5 * (j:Int))) (fun _ i=>n - (intOf i).toNat)
 case atStart=>exact ⟨0,Nat.zero_le _,rfl,rfl⟩
 case round =>
  obtain ⟨j,hj,rfl,rfl⟩:=hrel
  by_cases hlt:j < n
  ·obtain ⟨g,ha,c0,c1,c2,c3,c4⟩:=HR.out j _ (mkSt_at n j hlt)
   subst ha
   simp only [show ((1+5 * j:Nat):Int)=1+5 * (j:Int) from by omega,show ((2+5 * j:Nat):Int)=1+5 * (j:Int)+1 from by omega,show ((3+5 * j:Nat):Int)=1+5 * (j:Int)+1+1 from by omega,show ((4+5 * j:Nat):Int)=1+5 * (j:Int)+1+1+1 from by omega,show ((5+5 * j:Nat):Int)=1+5 * (j:Int)+1+1+1+1 from by omega] at c0 c1 c2 c3 c4
   have hlt':(j:Int) < (n:Int):=by omega
   go_wp2
   refine ⟨⟨j+1,by omega,by go_num,?_⟩,by simp [intOf];omega⟩
   congr 1
  ·have hjn:j=n:=by omega
   subst hjn
   go_wp2
   go_ret
   exact ⟨rfl,rfl⟩
theorem qJ4.below {w w':World} {g n:Nat} (h:qJ4 w g n) (hg:g < w.heap.size) (hb:Below w.heap.size w w'):qJ4 w' g n :=
 ⟨fun j hj=>by obtain ⟨v,e⟩:=h.1 j hj;exact ⟨v,(hb.cell (p:=⟨g,j,none⟩) hg).trans e⟩,fun j=>(hb.frozen (p:=⟨g,j,none⟩) hg).trans (h.2 j)⟩
theorem qJ4.grown {w w':World} {g n:Nat} {row:Option Nat} (h:qJ4 w g n) (hg:g < w.heap.size) (hr:w.grownBy w' row) (hne:some g≠row):qJ4 w' g n :=
 ⟨fun j hj=>by obtain ⟨v,e⟩:=h.1 j hj;exact ⟨v,hr.cell e hne⟩,fun j=>by
  have:=h.2 j
  unfold World.frozen? at this ⊢
  simp only at this ⊢
  rw [hr.block g hg hne]
  exact this⟩
theorem qJ4.set {w:World} {g n:Nat} (h:qJ4 w g n) (o:Nat) (v:Value):qJ4 (w.setCell ⟨g,o,none⟩ v) g n:=by
 refine ⟨fun j hj=>?_,fun j=>by simp only [World.frozen?_setCell];exact h.2 j⟩
 obtain ⟨u,e⟩:=h.1 j hj
 by_cases q:j=o
 ·subst q
  exact ⟨v,by simp [go_sem,e]⟩
 ·exact ⟨u,by rw [World.cell?_setCell_other (h:=fun e=>q (by have:=congrArg Addr.off e;simp at this;omega))];exact e⟩
theorem QA7 (g n cap:Nat) (k0:Int) (w:World) (hn:n≤1048576) (h0:0≤k0) (h1:k0≤100000000) (h:qJ4 w g n) :
  Calls Tryz.prog 43 #[.slice (some ⟨g,0,none⟩) n cap,.int .i64 k0] w fun e w'=>e = .returned (.int .i64 (k0+5 * (n:Int)))∧w.grownBy w' (some g):=by
 have HO:Hid (qJ4 w g n):=h
 clear h
 have hn':(n:Int)≤1048576:=by omega
 go_enter Tryz.func43,Tryz.ntmps43
 go_wp2
 go_loopw [1,5] (fun q i wr=>∃ (j:Nat),j≤n∧i = .int .i64 (j:Int)∧q = .int .i64 (k0+5 * (j:Int))∧qJ4 wr g n∧w.grownBy wr (some g))
  (fun _ i _=>n - (intOf i).toNat)
 case atStart=>exact ⟨0,Nat.zero_le _,rfl,by simp,HO.out,qM6 _ _⟩
 case round =>
  obtain ⟨j,hj,rfl,rfl,hroom,hgr⟩:=hrel
  have HG:Hid (qJ4 wr g n∧w.grownBy wr (some g)):=⟨hroom,hgr⟩
  by_cases hlt:j < n
  ·have hlt':(j:Int) < (n:Int):=by omega
   obtain ⟨v0,c0⟩:=hroom.1 (j * 5) (by omega)
   have f0:=hroom.2 (j * 5)
   obtain ⟨v1,c1⟩:=hroom.1 (j * 5+1) (by omega)
   have f1:=hroom.2 (j * 5+1)
   obtain ⟨v2,c2⟩:=hroom.1 (j * 5+2) (by omega)
   have f2:=hroom.2 (j * 5+2)
   obtain ⟨v3,c3⟩:=hroom.1 (j * 5+3) (by omega)
   have f3:=hroom.2 (j * 5+3)
   obtain ⟨v4,c4⟩:=hroom.1 (j * 5+4) (by omega)
   have f4:=hroom.2 (j * 5+4)
   clear hroom hgr
   go_wp2
   refine ⟨⟨j+1,by omega,by go_num,?_,?_,?_⟩,by simp [intOf];omega⟩
   ·congr 1;omega
   ·exact (((((HG.out.1.set _ _).set _ _).set _ _).set _ _).set _ _)
   ·exact (qF7 (qF7 (qF7 (qF7 (qF7 HG.out.2 (qJ3 _ _ _ _)) (qJ3 _ _ _ _)) (qJ3 _ _ _ _)) (qJ3 _ _ _ _)) (qJ3 _ _ _ _))
  ·have hjn:j=n:=by omega
   subst hjn
   go_wp2
   go_ret
   exact ⟨rfl,hgr⟩
theorem QD7 {W:World} {B:Nat} {a:Option Addr} {n cap:Nat} {ys:List StI} (h:qB1 W B (.slice a n cap) ys):∀ q,(Value.slice a n cap).ownBlock=some q→B≤q∧q < W.heap.size:=by
 have h0:W.ownsRow B 43 5 (.slice a n cap) ys.length (qC5 ys):=h
 exact fun q e=>h0.lt q e

section
open Go.ChangeShapes Go.WideShapes Go.RowKit
def qL8 (g:Nat) (w:World):Prop:=∃ a:Addr,w.cell? ⟨g,0,none⟩=some (.iface 308 (.pointer (some a)))
theorem qL8.below {g:Nat} {w w':World} (h:qL8 g w) (hb:Below w.heap.size w w'):qL8 g w':=by
 obtain ⟨a,h⟩:=h
 exact ⟨a,(hb.cell (p:=⟨g,0,none⟩) (zL w ⟨g,0,none⟩ h)).trans h⟩
theorem Tryz.cellsES:Tryz.prog.cellsOf 332=1:=by kernel_rfl
theorem Tryz.cellsStr:Tryz.prog.cellsOf 9=1:=by kernel_rfl
theorem starES : "*" ++ "errors.errorString" = "*errors.errorString" := by decide
theorem Tryz.rowES (u:TypeId) (h:Tryz.prog.typeName? 3 u=some "*errors.errorString"):u=308 :=
 typeName_ptr_named (nm := "errors.errorString") (by rw [starES];kernel_rfl) (by kernel_rfl) (by decide) u (by rw [starES];exact h)
theorem vars_one {H:Type} {enc:TypeId × Value→H} {P:Program} {w:World} {sp:Nat→Bool} {n:String} {gs:List (DataW H)} {ps:List MemPlace} (h:DataW.TrodVars enc P w sp [n] gs ps):∃ g,gs=[g]:=by
 rcases gs with _ | ⟨g,_ | ⟨g2,r⟩⟩
 ·exact h.elim
 ·exact ⟨g,rfl⟩
 ·obtain ⟨_,_,_,_,_,_,_,_,_,_,hs,_⟩:=h
  exact hs.elim
end

end Go.Proofs.YtlhgjackapdmbaaGreatDoor
