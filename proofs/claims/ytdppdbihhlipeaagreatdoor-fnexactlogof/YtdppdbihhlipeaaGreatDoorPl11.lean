/- Contracts. -/
import Derived.Test.YtdppdbihhlipeaaGreatDoorPl10
namespace Go.Proofs.YtdppdbihhlipeaaGreatDoor
set_option maxRecDepth 100000
set_option maxHeartbeats 8000000
open Go.RowKit
set_option linter.unusedVariables false
set_option linter.unusedSimpArgs false

structure StI where
 k:Int
 e:Int
 f:Int
 s:Int
 n:Int
deriving DecidableEq,Inhabited
def qQ3 (w:World) (b o:Nat) (x:StI):Prop:=w.cell? ⟨b,o,none⟩=some (.int .i64 x.k)∧w.cell? ⟨b,o+1,none⟩=some (.int .i64 x.e)∧w.cell? ⟨b,o+2,none⟩=some (.int .i64 x.f)∧w.cell? ⟨b,o+3,none⟩=some (.int .i64 x.s)∧w.cell? ⟨b,o+4,none⟩=some (.int .i64 x.n)
theorem qQ3.below {w w':World} {B b o:Nat} {x:StI} (h:qQ3 w b o x) (hb:Below B w w') (hB:b < B):qQ3 w' b o x :=
 ⟨(hb.cell (p:=⟨b,o,none⟩) hB).trans h.1,(hb.cell (p:=⟨b,o+1,none⟩) hB).trans h.2.1,(hb.cell (p:=⟨b,o+2,none⟩) hB).trans h.2.2.1,(hb.cell (p:=⟨b,o+3,none⟩) hB).trans h.2.2.2.1,(hb.cell (p:=⟨b,o+4,none⟩) hB).trans h.2.2.2.2⟩
def qL2 (w:World) (a:Option Addr) (n:Nat) (gs:List StI):Prop:=gs.length=n∧(0 < n→∃ b off,a=some ⟨b,off,none⟩∧∀ k x,gs[k]? = some x→qQ3 w b (off+k * 5) x)
theorem qL2.below {w w':World} {a:Option Addr} {n:Nat} {gs:List StI} (h:qL2 w a n gs) (hb:Below w.heap.size w w'):qL2 w' a n gs:=by
 refine ⟨h.1,fun hn=>?_⟩
 obtain ⟨b,off,e,k⟩:=h.2 hn
 exact ⟨b,off,e,fun j x hx=>(k j x hx).below hb (zL w ⟨b,off+j * 5,none⟩ (k j x hx).1)⟩
theorem qL2.at {w:World} {a:Option Addr} {n:Nat} {gs:List StI} (h:qL2 w a n gs) {k:Nat} (hk:k < n):∃ b off x,a=some ⟨b,off,none⟩∧gs[k]? = some x∧qQ3 w b (off+k * 5) x∧b < w.heap.size:=by
 obtain ⟨b,off,e,q⟩:=h.2 (by omega)
 have hx:=List.getElem?_eq_getElem (l:=gs) (i:=k) (by rw [h.1];exact hk)
 exact ⟨b,off,_,e,hx,q k _ hx,zL w ⟨b,off+k * 5,none⟩ (q k _ hx).1⟩
def qZ8 (w:World) (g:Nat) (gs:List StI):Prop:=∀ k x,gs[k]? = some x→qQ3 w g (k * 5) x
theorem qZ8.below {w w':World} {g:Nat} {gs:List StI} (h:qZ8 w g gs) (hb:Below w.heap.size w w'):qZ8 w' g gs:=fun k x e =>
 (h k x e).below hb (zL w ⟨g,k * 5,none⟩ (h k x e).1)
theorem qL2.of {w:World} {g n:Nat} {gs:List StI} (hl:gs.length=n) (h:qZ8 w g gs):qL2 w (some ⟨g,0,none⟩) n gs :=
 ⟨hl,fun _=>⟨g,0,rfl,fun k x e=>by rw [Nat.zero_add];exact h k x e⟩⟩
def qJ2 (w:World) (g n:Nat):Prop:=(∀ j,j < n * 5→∃ v,w.cell? ⟨g,j,none⟩=some v)∧∀ j,w.frozen? ⟨g,j,none⟩=false
abbrev StPut (w:World) (g o:Nat) (s:StI):World:=(((((w.setCell ⟨g,o,none⟩ (.int .i64 s.k)).setCell ⟨g,o+1,none⟩ (.int .i64 s.e)).setCell ⟨g,o+2,none⟩ (.int .i64 s.f)).setCell ⟨g,o+3,none⟩ (.int .i64 s.s)).setCell ⟨g,o+4,none⟩ (.int .i64 s.n))
theorem qO7 (w:World) (g o:Nat) (s:StI) (a:Addr) (h:∀ j,j < 5→a≠⟨g,o+j,none⟩):(StPut w g o s).cell? a=w.cell? a:=by
 rw [World.cell?_setCell_other (h:=Ne.symm (h 4 (by omega))),World.cell?_setCell_other (h:=Ne.symm (h 3 (by omega))),World.cell?_setCell_other (h:=Ne.symm (h 2 (by omega))),World.cell?_setCell_other (h:=Ne.symm (h 1 (by omega))),World.cell?_setCell_other (h:=Ne.symm (a:=a) (b:=⟨g,o,none⟩) (by simpa using h 0 (by omega)))]
theorem StPut_at (w:World) (g o:Nat) (s:StI) (h:∀ j,j < 5→∃ v,w.cell? ⟨g,o+j,none⟩=some v):qQ3 (StPut w g o s) g o s:=by
 obtain ⟨v0,h0⟩:=h 0 (by omega)
 obtain ⟨v1,h1⟩:=h 1 (by omega)
 obtain ⟨v2,h2⟩:=h 2 (by omega)
 obtain ⟨v3,h3⟩:=h 3 (by omega)
 obtain ⟨v4,h4⟩:=h 4 (by omega)
 rw [Nat.add_zero] at h0
 refine ⟨?_,?_,?_,?_,?_⟩ <;> simp [go_sem,h0,h1,h2,h3,h4]
theorem StPut_room {w:World} {g n k:Nat} {zs:List StI} {s:StI} (hroom:qJ2 w g n) (hd:qZ8 w g (zs.take k)) (hs:zs[k]? = some s) (hk:k < n) :
  qJ2 (StPut w g (k * 5) s) g n∧qZ8 (StPut w g (k * 5) s) g (zs.take (k+1)):=by
 have hr:=StPut_at w g (k * 5) s (fun j hj=>hroom.1 (k * 5+j) (by omega))
 refine ⟨⟨fun j hj=>?_,fun j=>?_⟩,fun i r e=>?_⟩
 ·by_cases h:k * 5≤j∧j < k * 5+5
  ·have hj':j=k * 5∨j=k * 5+1∨j=k * 5+2∨j=k * 5+3∨j=k * 5+4:=by omega
   obtain ⟨h0,h1,h2,h3,h4⟩:=hr
   rcases hj' with rfl | rfl | rfl | rfl | rfl
   ·exact ⟨_,h0⟩
   ·exact ⟨_,h1⟩
   ·exact ⟨_,h2⟩
   ·exact ⟨_,h3⟩
   ·exact ⟨_,h4⟩
  ·rw [qO7 w g (k * 5) s ⟨g,j,none⟩ (fun i hi e=>by have e2:=congrArg Addr.off e;simp only at e2;omega)]
   exact hroom.1 j hj
 ·simp only [World.frozen?_setCell]
  exact hroom.2 j
 ·rw [List.getElem?_take] at e
  split at e
  ·by_cases hik:i=k
   ·subst hik
    rw [hs] at e
    cases e
    exact hr
   ·have hi:i < k:=by omega
    have h1:=hd i r (by rw [List.getElem?_take,if_pos hi];exact e)
    obtain ⟨h0,h1,h2,h3,h4⟩:=h1
    refine ⟨?_,?_,?_,?_,?_⟩
    ·rw [qO7 w g (k * 5) s ⟨g,i * 5,none⟩ (fun j hj e=>by have e2:=congrArg Addr.off e;simp only at e2;omega)];exact h0
    ·rw [qO7 w g (k * 5) s ⟨g,i * 5+1,none⟩ (fun j hj e=>by have e2:=congrArg Addr.off e;simp only at e2;omega)];exact h1
    ·rw [qO7 w g (k * 5) s ⟨g,i * 5+2,none⟩ (fun j hj e=>by have e2:=congrArg Addr.off e;simp only at e2;omega)];exact h2
    ·rw [qO7 w g (k * 5) s ⟨g,i * 5+3,none⟩ (fun j hj e=>by have e2:=congrArg Addr.off e;simp only at e2;omega)];exact h3
    ·rw [qO7 w g (k * 5) s ⟨g,i * 5+4,none⟩ (fun j hj e=>by have e2:=congrArg Addr.off e;simp only at e2;omega)];exact h4
  ·cases e
theorem StPut_below {w0 w:World} {B g o:Nat} (h:Below B w0 w) (hg:B≤g) (s:StI):Below B w0 (StPut w g o s) :=
 h.setCell hg _ |>.setCell hg _ |>.setCell hg _ |>.setCell hg _ |>.setCell hg _
theorem Tryz.info85:(Tryz.prog.info? 85).map (fun i=>(i.zero,i.size,i.bytes))=some (some (.agg #[.int .i64 0,.int .i64 0,.int .i64 0,.int .i64 0,.int .i64 0]),5,40):=by kernel_rfl
theorem QT7 (x:StI) (w:World):Calls Tryz.prog 61 #[.agg #[.int .i64 x.k,.int .i64 x.e,.int .i64 x.f,.int .i64 x.s,.int .i64 x.n]] w fun e w'=>e = .returned (.agg #[.int .i64 x.k,.int .i64 x.e,.int .i64 x.f,.int .i64 x.s,.int .i64 x.n])∧Below w.heap.size w w':=by
 go_enter Tryz.func61,Tryz.ntmps61
 go_wp2
 go_returns
 exact ⟨rfl,by go_grown⟩
theorem QF6 (a:Option Addr) (n cap:Nat) (zs:List StI) (w:World) (hn:n≤1048576) (h:qL2 w a n zs) :
  Calls Tryz.prog 31 #[.slice a n cap] w fun e w'=>e = .returned (.slice (some ⟨w.heap.size,0,none⟩) n n)∧qZ8 w' w.heap.size zs∧w.heap.size < w'.heap.size∧Below w.heap.size w w'∧qJ2 w' w.heap.size n:=by
 obtain ⟨i0,hi,hz0,hz1,hz2⟩:=info_parts Tryz.info85
 obtain ⟨wm,hmk,hownm,hgrm⟩:=run_make_full (P:=Tryz.prog) (w:=w) w.heap.size 33 85 i0 (.agg #[.int .i64 0,.int .i64 0,.int .i64 0,.int .i64 0,.int .i64 0]) 5 Tryz.underlying33 hi hz0 hz1 .i64 .i64 n (by rw [hz2];omega) (by unfold maxLen;omega) (Nat.le_refl _)
 have H:Hid (qL2 w a n zs):=h
 have hz:Hid (zs.length=n):=h.1
 clear h
 have HM:Hid (qJ2 wm w.heap.size n∧w.heap.size < wm.heap.size):=by
  refine ⟨⟨fun j hj=>?_,fun j=>hownm.frozenAt j⟩,(hownm.lt _ rfl).2⟩
  have hl:=hownm.1
  exact ⟨_,(hownm.cellAt j hj).trans (List.getElem?_eq_getElem (by omega))⟩
 clear hownm
 have HG:Hid (w.grownBy wm none):=hgrm
 clear hgrm
 have hn':(n:Int)≤1048576:=by omega
 go_enter Tryz.func31,Tryz.ntmps31
 go_wp2
 go_loopw [4] (fun i wr=>∃ k:Nat,k≤n∧i = .int .i64 (k:Int)∧qJ2 wr w.heap.size n∧qZ8 wr w.heap.size (zs.take k)∧w.heap.size < wr.heap.size∧Below w.heap.size w wr)
  (fun i _=>n - (intOf i).toNat)
 case atStart=>exact ⟨0,Nat.zero_le _,rfl,HM.out.1,fun k r e=>by simp at e,HM.out.2,(Below.refl _ _).grown HG.out (Nat.le_refl _) (fun k e=>by cases e)⟩
 case round =>
  obtain ⟨k,hk,rfl,hroom,hdone,hlt0,hnx⟩:=hrel
  by_cases hlt:k < n
  ·obtain ⟨b,off,s,rfl,hs,hr,hb⟩:=H.out.at hlt
   have HS:Hid (zs[k]? = some s):=hs
   clear hs
   obtain ⟨h0,h1,h2,h3,h4⟩:=hr.below hnx hb
   have HD:Hid (qJ2 wr w.heap.size n∧qZ8 wr w.heap.size (zs.take k)):=⟨hroom,hdone⟩
   clear hroom hdone hr
   have hlt':(k:Int) < (n:Int):=by omega
   go_wp2_with fail
   refine (QT7 s _).mono ?_
   rintro e w1 ⟨rfl,hb1⟩
   obtain ⟨⟨hc,hf⟩,hd⟩:=HD.out
   have hz1:=hb1.size
   have HD1:Hid (qJ2 w1 w.heap.size n∧qZ8 w1 w.heap.size (zs.take k)∧Below w.heap.size w w1) :=
    ⟨⟨fun j hj=>by obtain ⟨v,e⟩:=hc j hj;exact ⟨v,(hb1.cell (p:=⟨w.heap.size,j,none⟩) hlt0).trans e⟩,fun j=>(hb1.frozen (p:=⟨w.heap.size,j,none⟩) hlt0).trans (hf j)⟩,hd.below hb1,hnx.trans (hb1.mono hnx.size)⟩
   clear hc hf hd HD h0 h1 h2 h3 h4
   obtain ⟨v0,c0⟩:=HD1.out.1.1 (k * 5) (by omega)
   obtain ⟨v1,c1⟩:=HD1.out.1.1 (k * 5+1) (by omega)
   obtain ⟨v2,c2⟩:=HD1.out.1.1 (k * 5+2) (by omega)
   obtain ⟨v3,c3⟩:=HD1.out.1.1 (k * 5+3) (by omega)
   obtain ⟨v4,c4⟩:=HD1.out.1.1 (k * 5+4) (by omega)
   have f0:=HD1.out.1.2 (k * 5)
   have f1:=HD1.out.1.2 (k * 5+1)
   have f2:=HD1.out.1.2 (k * 5+2)
   have f3:=HD1.out.1.2 (k * 5+3)
   have f4:=HD1.out.1.2 (k * 5+4)
   have RM:Hid (qJ2 (StPut w1 w.heap.size (k * 5) s) w.heap.size n∧qZ8 (StPut w1 w.heap.size (k * 5) s) w.heap.size (zs.take (k+1))∧Below w.heap.size w (StPut w1 w.heap.size (k * 5) s)):=by
    have h2:=StPut_room HD1.out.1 HD1.out.2.1 HS.out hlt
    exact ⟨h2.1,h2.2,StPut_below HD1.out.2.2 (Nat.le_refl _) s⟩
   go_wp2
   exact ⟨⟨k+1,by omega,by go_num,RM.out.1,RM.out.2.1,by simp only [World.size_setCell];omega,RM.out.2.2⟩,by simp [intOf];omega⟩
  ·have hkn:k=n:=by omega
   subst hkn
   rw [List.take_of_length_le (by rw [hz.out];exact Nat.le_refl _)] at hdone
   go_wp2
   go_ret
   exact ⟨rfl,hdone,hlt0,hnx,hroom⟩
theorem QI1 (x:StI) (w:World) :
  Calls Tryz.prog 68 #[.agg #[.int .i64 x.k,.int .i64 x.e,.int .i64 x.f,.int .i64 x.s,.int .i64 x.n],.agg #[.int .i64 x.k,.int .i64 x.e,.int .i64 x.f,.int .i64 x.s,.int .i64 x.n]] w fun e w'=>e = .returned (.bool true)∧Below w.heap.size w w':=by
 go_enter Tryz.func68,Tryz.ntmps68
 go_wp2
 go_ret
 exact ⟨rfl,by go_grown⟩
theorem QG4 (a b:Option Addr) (n c d:Nat) (zs:List StI) (w:World) (hn:n≤1048576) (ha:qL2 w a n zs) (hb:qL2 w b n zs) :
  Calls Tryz.prog 36 #[.slice a n c,.slice b n d] w fun e w'=>e = .returned (.bool true)∧Below w.heap.size w w':=by
 have HA:Hid (qL2 w a n zs):=ha
 have HB:Hid (qL2 w b n zs):=hb
 clear ha hb
 have hn':(n:Int)≤1048576:=by omega
 go_enter Tryz.func36,Tryz.ntmps36
 go_wp2
 go_loopw [5] (fun i wr=>∃ k:Nat,k≤n∧i = .int .i64 (k:Int)∧Below w.heap.size w wr) (fun i _=>n - (intOf i).toNat)
 case atStart=>exact ⟨0,Nat.zero_le _,rfl,Below.refl _ _⟩
 case round =>
  obtain ⟨k,hk,rfl,hnx⟩:=hrel
  by_cases hlt:k < n
  ·obtain ⟨b1,o1,s,e1,hs,hr,hl1⟩:=HA.out.at hlt
   obtain ⟨b2,o2,s2,e2,hs2,hr2,hl2⟩:=HB.out.at hlt
   obtain rfl:s=s2:=Option.some.inj (hs.symm.trans hs2)
   subst e1 e2
   clear hs hs2
   obtain ⟨h0,h1,h2,h3,h4⟩:=hr.below hnx hl1
   obtain ⟨g0,g1,g2,g3,g4⟩:=hr2.below hnx hl2
   clear hr hr2
   have hlt':(k:Int) < (n:Int):=by omega
   have hb1:b1 < wr.heap.size:=zL wr ⟨b1,o1+k * 5,none⟩ h0
   have hb2:b2 < wr.heap.size:=zL wr ⟨b2,o2+k * 5,none⟩ g0
   go_wp2
   go_region_held3 (fun w'=>(∀ b o,b < wr.heap.size→w'.cell? ⟨b,o,none⟩=wr.cell? ⟨b,o,none⟩)∧Below wr.heap.size wr w') (first | exact hS | exact qB6 _)
    (first | (go_at_call 68;refine (QI1 s _).mono ?_;rintro e w' ⟨rfl,hb1⟩;have hS:=qA7 (by assumption) hb1))
   go_wp2
   exact ⟨⟨k+1,by omega,by go_num,hnx.trans (hS.2.mono hnx.size)⟩,by simp [intOf];omega⟩
  ·have hkn:k=n:=by omega
   subst hkn
   go_wp2
   go_ret
   exact ⟨rfl,hnx⟩

def swT (k:Int):ByteArray:=if k=1 then ⟨#[105,115,115,117,101]⟩ else if k=2 then ⟨#[114,101,118,111,107,101]⟩ else if k=3 then ⟨#[110,101,120,116]⟩ else if k=4 then ⟨#[116,97,107,101]⟩ else ⟨#[]⟩
def QI0 (k:Int):Bool:=decide (k=1) || decide (k=2)
def ownI (x:StI):StI:=if QI0 x.k=true then ⟨x.k,x.e,x.f,x.s,0⟩ else ⟨x.k,x.e,0,0,x.n⟩
def qP2 (x y:StI):Bool:=decide (x=y)
def ownB (x:StI):Bool:=qP2 x (ownI x)
def rngB (x:StI):Bool:=if inR x.e 1 9=false then false else if QI0 x.k=true then (if inR x.f 1 4=false then false else inR x.s 1 255) else inR x.n 0 7
def qB8 (x:StI):Int:=if inR x.k 1 4=false then 1 else if ownB x=false then 1 else if rngB x=false then 3 else 0
theorem QY9 (k:Int) (w:World):Calls Tryz.prog 120 #[.int .i64 k] w fun e w'=>e = .returned (.string (swT k))∧w=w':=by
 unfold swT
 by_cases h1:k=1
 ·subst h1;go_enter Tryz.func120,Tryz.ntmps120;go_wp2;go_ret;exact ⟨rfl,rfl⟩
 by_cases h2:k=2
 ·subst h2;go_enter Tryz.func120,Tryz.ntmps120;go_wp2;go_ret;exact ⟨rfl,rfl⟩
 by_cases h3:k=3
 ·subst h3;go_enter Tryz.func120,Tryz.ntmps120;go_wp2;go_ret;exact ⟨rfl,rfl⟩
 by_cases h4:k=4
 ·subst h4;go_enter Tryz.func120,Tryz.ntmps120;go_wp2;go_ret;exact ⟨rfl,rfl⟩
 rw [if_neg h1,if_neg h2,if_neg h3,if_neg h4]
 go_enter Tryz.func120,Tryz.ntmps120;go_wp2;go_ret;exact ⟨rfl,rfl⟩
theorem byteNe_of {a b:ByteArray} (h:a≠b):(a.toList==b.toList)=false:=by
 rw [beq_eq_false_iff_ne]
 intro e
 rw [ByteArray.toList_eq,ByteArray.toList_eq] at e
 exact h (WideShapes.bytes_inj e)
theorem sw_in {k:Int} (h:inR k 1 4=true):swT k≠⟨#[]⟩:=by
 rw [qE4] at h
 have : k=1∨k=2∨k=3∨k=4:=by omega
 rcases this with rfl | rfl | rfl | rfl <;> (intro e;have:=congrArg (fun b:ByteArray=>b.data.size) e;simp [swT] at this)
theorem sw_out {k:Int} (h:inR k 1 4=false):swT k=⟨#[]⟩:=by
 have h':¬ (1≤k∧k≤4):=fun q=>by rw [← qE4,h] at q;cases q
 unfold swT
 rw [if_neg (by omega),if_neg (by omega),if_neg (by omega),if_neg (by omega)]
theorem qV0 (k:Int) (w:World):Calls Tryz.prog 148 #[.int .i64 k] w fun e w'=>e = .returned (.bool (QI0 k))∧w=w':=by
 unfold QI0
 by_cases h1:k=1
 ·subst h1;go_enter Tryz.func148,Tryz.ntmps148;go_wp2;go_ret;exact ⟨rfl,rfl⟩
 by_cases h2:k=2
 ·subst h2;go_enter Tryz.func148,Tryz.ntmps148;go_wp2;go_ret;exact ⟨rfl,rfl⟩
 go_enter Tryz.func148,Tryz.ntmps148;go_wp2;go_ret;exact ⟨by simp [h1,h2],rfl⟩
theorem isNext_c (v:Int) (w:World):Calls Tryz.prog 152 #[.int .i64 v] w fun e w'=>e = .returned (.bool (inR v 0 7))∧w=w':=by
 unfold inR
 cases h0:decide (0≤v)
 ·go_enter Tryz.func152,Tryz.ntmps152
  go_wp2
  go_ret
  exact ⟨by simp,rfl⟩
 ·cases h1:decide (v≤7)
  all_goals
   go_enter Tryz.func152,Tryz.ntmps152
   go_wp2
   go_ret
   exact ⟨by simp,rfl⟩
def qU1 (v:Int):Int:=if inR v 0 255=true then 0 else 3
theorem iSetFault_c (v:Int) (w:World):Calls Tryz.prog 151 #[.int .i64 v] w fun e w'=>e = .returned (.int .i64 (qU1 v))∧w=w':=by
 by_cases q0:0≤v
 ·by_cases q1:v < 256
  ·have e0:qU1 v=0:=by unfold qU1;rw [if_pos ((qE4 _ _ _).2 ⟨by omega,by omega⟩)]
   rw [e0]
   clear e0
   go_enter Tryz.func151,Tryz.ntmps151
   go_wp2
   go_ret
   exact ⟨rfl,rfl⟩
  ·have e0:qU1 v=3:=by unfold qU1;rw [if_neg (fun h=>by rw [qE4] at h;omega)]
   rw [e0]
   clear e0
   have q2:(256:Int)≤v:=by omega
   go_enter Tryz.func151,Tryz.ntmps151
   go_wp2
   go_ret
   exact ⟨rfl,rfl⟩
 ·have e0:qU1 v=3:=by unfold qU1;rw [if_neg (fun h=>by rw [qE4] at h;omega)]
  rw [e0]
  clear e0
  have q2:v < (0:Int):=by omega
  go_enter Tryz.func151,Tryz.ntmps151
  go_wp2
  go_ret
  exact ⟨rfl,rfl⟩
theorem own_c (x:StI) (w:World):Calls Tryz.prog 121 #[.agg #[.int .i64 x.k,.int .i64 x.e,.int .i64 x.f,.int .i64 x.s,.int .i64 x.n]] w fun e w'=>e = .returned (.agg #[.int .i64 (ownI x).k,.int .i64 (ownI x).e,.int .i64 (ownI x).f,.int .i64 (ownI x).s,.int .i64 (ownI x).n])∧Below w.heap.size w w':=by
 unfold ownI
 cases hk:QI0 x.k
 all_goals
  go_enter Tryz.func121,Tryz.ntmps121
  go_wp2_with (go_at_call 148;refine (qV0 _ _).mono ?_;rintro e w' ⟨rfl,rfl⟩;rw [hk])
  go_returns
  exact ⟨rfl,by go_grown⟩
theorem sameSt_mk (a0 a1 a2 a3 a4 b0 b1 b2 b3 b4:Int):qP2 ⟨a0,a1,a2,a3,a4⟩ ⟨b0,b1,b2,b3,b4⟩=(a0==b0&&a1==b1&&a2==b2&&a3==b3&&a4==b4):=by
 unfold qP2
 rw [Bool.eq_iff_iff]
 simp only [decide_eq_true_eq,StI.mk.injEq,Bool.and_eq_true,beq_iff_eq]
 constructor
 ·rintro ⟨h0,h1,h2,h3,h4⟩;exact ⟨⟨⟨⟨h0,h1⟩,h2⟩,h3⟩,h4⟩
 ·rintro ⟨⟨⟨⟨h0,h1⟩,h2⟩,h3⟩,h4⟩;exact ⟨h0,h1,h2,h3,h4⟩
theorem st_eql (x y:StI) (w:World):(binOp .eql 85 (.agg #[.int .i64 x.k,.int .i64 x.e,.int .i64 x.f,.int .i64 x.s,.int .i64 x.n]) (.agg #[.int .i64 y.k,.int .i64 y.e,.int .i64 y.f,.int .i64 y.s,.int .i64 y.n])).run Tryz.prog w = .ok (.bool (qP2 x y)) w:=by
 obtain ⟨a0,a1,a2,a3,a4⟩:=x
 obtain ⟨b0,b1,b2,b3,b4⟩:=y
 simp only
 rw [sameSt_mk]
 cases e0:(a0==b0)
 ·simp [go_sem,e0]
 cases e1:(a1==b1)
 ·simp [go_sem,e0,e1]
 cases e2:(a2==b2)
 ·simp [go_sem,e0,e1,e2]
 cases e3:(a3==b3)
 ·simp [go_sem,e0,e1,e2,e3]
 cases e4:(a4==b4)
 ·simp [go_sem,e0,e1,e2,e3,e4]
 ·simp [go_sem,e0,e1,e2,e3,e4]

theorem qQ3.new (w:World) (x:StI) (t:TypeId):qQ3 (w.alloc (.cells #[.int .i64 x.k,.int .i64 x.e,.int .i64 x.f,.int .i64 x.s,.int .i64 x.n] t)) w.heap.size 0 x:=by
 simp [qQ3]
theorem inBounds_c (x:StI) (w:World):Calls Tryz.prog 122 #[.agg #[.int .i64 x.k,.int .i64 x.e,.int .i64 x.f,.int .i64 x.s,.int .i64 x.n]] w fun e w'=>e = .returned (.bool (rngB x))∧Below w.heap.size w w':=by
 obtain ⟨xk,xe,xf,xs,xn⟩:=x
 unfold rngB
 simp only
 cases he:inR xe 1 9
 ·go_enter Tryz.func122,Tryz.ntmps122
  go_wp2_with (go_at_call 149;refine (qH9 _ _).mono ?_;rintro e w' ⟨rfl,rfl⟩;rw [he])
  go_ret
  exact ⟨rfl,by go_grown⟩
 ·cases hk:QI0 xk
  ·cases hn:inR xn 0 7
   all_goals
    go_enter Tryz.func122,Tryz.ntmps122
    go_wp2_with (first
     | (go_at_call 149;refine (qH9 _ _).mono ?_;rintro e w' ⟨rfl,rfl⟩;rw [he])
     | (go_at_call 148;refine (qV0 _ _).mono ?_;rintro e w' ⟨rfl,rfl⟩;rw [hk])
     | (go_at_call 152;refine (isNext_c _ _).mono ?_;rintro e w' ⟨rfl,rfl⟩;rw [hn]))
    go_ret
    exact ⟨rfl,by go_grown⟩
  ·cases hf:inR xf 1 4
   ·go_enter Tryz.func122,Tryz.ntmps122
    go_wp2_with (first
     | (go_at_call 149;refine (qH9 _ _).mono ?_;rintro e w' ⟨rfl,rfl⟩;rw [he])
     | (go_at_call 148;refine (qV0 _ _).mono ?_;rintro e w' ⟨rfl,rfl⟩;rw [hk])
     | (go_at_call 150;refine (QC5 _ _).mono ?_;rintro e w' ⟨rfl,rfl⟩;rw [hf]))
    go_ret
    exact ⟨rfl,by go_grown⟩
   ·by_cases hs:xs=0
    ·subst hs
     go_enter Tryz.func122,Tryz.ntmps122
     go_wp2_with (first
      | (go_at_call 149;refine (qH9 _ _).mono ?_;rintro e w' ⟨rfl,rfl⟩;rw [he])
      | (go_at_call 148;refine (qV0 _ _).mono ?_;rintro e w' ⟨rfl,rfl⟩;rw [hk])
      | (go_at_call 150;refine (QC5 _ _).mono ?_;rintro e w' ⟨rfl,rfl⟩;rw [hf]))
     go_ret
     exact ⟨rfl,by go_grown⟩
    ·have hsb:(xs != 0)=true:=by simpa using hs
     obtain ⟨c,hc⟩:∃ c,qU1 xs=c:=⟨_,rfl⟩
     have HV:Hid (inR xs 1 255=(c==0)):=by
      show inR xs 1 255=(c==0)
      rw [← hc]
      unfold qU1
      rw [Bool.eq_iff_iff,qE4]
      by_cases q:inR xs 0 255=true
      ·rw [if_pos q]
       rw [qE4] at q
       simp
       omega
      ·rw [if_neg q]
       rw [qE4] at q
       simp
       omega
     have HC:Hid (qU1 xs=c):=hc
     clear hc hs
     go_enter Tryz.func122,Tryz.ntmps122
     go_wp2_with (first
      | (go_at_call 149;refine (qH9 _ _).mono ?_;rintro e w' ⟨rfl,rfl⟩;rw [he])
      | (go_at_call 148;refine (qV0 _ _).mono ?_;rintro e w' ⟨rfl,rfl⟩;rw [hk])
      | (go_at_call 150;refine (QC5 _ _).mono ?_;rintro e w' ⟨rfl,rfl⟩;rw [hf])
      | (go_at_call 151;refine (iSetFault_c _ _).mono ?_;rintro e w' ⟨rfl,rfl⟩;rw [HC.out]))
     go_ret
     exact ⟨by rw [HV.out];rfl,by go_grown⟩
theorem st_neq (x y:StI) (w:World):(binOp .neq 85 (.agg #[.int .i64 x.k,.int .i64 x.e,.int .i64 x.f,.int .i64 x.s,.int .i64 x.n]) (.agg #[.int .i64 y.k,.int .i64 y.e,.int .i64 y.f,.int .i64 y.s,.int .i64 y.n])).run Tryz.prog w = .ok (.bool (!(qP2 x y))) w:=by
 have h:=st_eql x y w
 simp only [binOp,Sem.run_bind] at h ⊢
 revert h
 cases (Op.equal 85 (.agg #[.int .i64 x.k,.int .i64 x.e,.int .i64 x.f,.int .i64 x.s,.int .i64 x.n]) (.agg #[.int .i64 y.k,.int .i64 y.e,.int .i64 y.f,.int .i64 y.s,.int .i64 y.n])).run Tryz.prog w <;> simp [Result.andThen]
theorem qB4 (x:StI) (w:World):Calls Tryz.prog 93 #[.agg #[.int .i64 x.k,.int .i64 x.e,.int .i64 x.f,.int .i64 x.s,.int .i64 x.n]] w fun e w'=>e = .returned (.int .i64 (qB8 x))∧Below w.heap.size w w':=by
  obtain ⟨W,hW⟩:∃ W,W=w.alloc (.cells #[.int .i64 x.k,.int .i64 x.e,.int .i64 x.f,.int .i64 x.s,.int .i64 x.n] 85):=⟨_,rfl⟩
  have B0:Below w.heap.size w W:=by rw [hW];exact zN
  have hz:w.heap.size < W.heap.size:=by rw [hW];simp
  have HX:Hid (qQ3 W w.heap.size 0 x):=by rw [hW];exact qQ3.new w x _
  have HWE:Hid (W=w.alloc (.cells #[.int .i64 x.k,.int .i64 x.e,.int .i64 x.f,.int .i64 x.s,.int .i64 x.n] 85)):=hW
  clear hW
  cases hk:inR x.k 1 4
  · have HT:Hid (swT x.k=⟨#[]⟩):=sw_out hk
    have hC:Hid (qB8 x=1):=by show qB8 x=1;unfold qB8;rw [if_pos hk]
    rw [hC.out]
    clear hk
    go_enter Tryz.func93,Tryz.ntmps93
    go_wp2_with fail
    rw [← HWE.out]
    obtain ⟨x0,x1,x2,x3,x4⟩:=HX.out
    simp only [Nat.zero_add] at x0 x1 x2 x3 x4
    refine wp_region_held_drew (S:=fun w'=>(∀ b o,b < W.heap.size→w'.cell? ⟨b,o,none⟩=W.cell? ⟨b,o,none⟩)∧Below W.heap.size W w') (by kernel_rfl) (qB6 _) (fun hHeld=>?_)
    refine Zk.go [0,1] ?_
    iterate 2
      refine Zk.st (v:=?_) rfl ?_ ?_
      rotate_left 1
      · intro w hSw;(try dsimp only at hSw);go_simp;try (with_reducible rfl)
      try simp only [Act.put,zA,zB,zC,zD,zE,zF]
    refine Zk.fin ?_
    refine Zk.rd (i:=2) rfl (fun K hK=>?_)
    go_simp
    refine (QY9 _ _).mono ?_
    rintro e w' ⟨rfl,rfl⟩
    rw [HT.out]
    have hS:=hHeld
    refine hK.out _ _ hS (fun hHeld=>?_)
    clear hK K
    try simp only [Act.put,zA,zB,zC,zD,zE,zF]
    refine Zk.go [3,4,5,6,7,8,9] ?_
    iterate 2
      refine Zk.st (v:=?_) rfl ?_ ?_
      rotate_left 1
      · intro w hSw;(try dsimp only at hSw);go_simp;try (with_reducible rfl)
      try simp only [Act.put,zA,zB,zC,zD,zE,zF]
    iterate 4 (refine Zk.un rfl ?_;try simp only [Act.put,zA,zB,zC,zD,zE,zF])
    refine Zk.st (v:=?_) rfl ?_ ?_
    rotate_left 1
    · intro w hSw;(try dsimp only at hSw);go_simp;try (with_reducible rfl)
    try simp only [Act.put,zA,zB,zC,zD,zE,zF]
    refine Zk.fin ?_
    refine wpAnyH_done (by kernel_rfl) ?_ _
    go_wp2
    go_ret
    exact ⟨rfl,B0.trans (hHeld.2.mono B0.size)⟩
  · have hT0:=byteNe_of (sw_in hk)
    obtain ⟨T,hT⟩:∃ T,swT x.k=T:=⟨_,rfl⟩
    have HT:Hid (swT x.k=T):=hT
    have hw:T.toList.isEmpty=false:=by
      rw [hT] at hT0
      cases q:T.toList with
      | nil=>rw [q] at hT0;simp at hT0
      | cons a as'=>rfl
    obtain ⟨y,hy⟩:∃ y,ownI x=y:=⟨_,rfl⟩
    have HO:=own_c x
    rw [hy] at HO
    have HOO:Hid (∀ w:World,Calls Tryz.prog 121 #[.agg #[.int .i64 x.k,.int .i64 x.e,.int .i64 x.f,.int .i64 x.s,.int .i64 x.n]] w fun e w'=>e = .returned (.agg #[.int .i64 y.k,.int .i64 y.e,.int .i64 y.f,.int .i64 y.s,.int .i64 y.n])∧Below w.heap.size w w'):=HO
    have HB:Hid (∀ w:World,Calls Tryz.prog 122 #[.agg #[.int .i64 x.k,.int .i64 x.e,.int .i64 x.f,.int .i64 x.s,.int .i64 x.n]] w fun e w'=>e = .returned (.bool (rngB x))∧Below w.heap.size w w'):=inBounds_c x
    have hE:∀ w:World,_:=fun w=>st_neq x y w
    have hob:ownB x=qP2 x y:=by unfold ownB;rw [hy]
    obtain ⟨t,ht⟩:∃ t,qP2 x y=t:=⟨_,rfl⟩
    obtain ⟨r,hr⟩:∃ r,rngB x=r:=⟨_,rfl⟩
    have HC:Hid (qB8 x=if t=false then 1 else if r=false then 3 else 0):=by show qB8 x=_;unfold qB8;rw [if_neg (by rw [hk];simp),hob,ht,hr]
    rw [ht] at hE
    rw [hr] at HB
    rw [HC.out]
    clear HO hob hk hT0 hT hy ht hr
    go_enter Tryz.func93,Tryz.ntmps93
    go_wp2_with fail
    rw [← HWE.out]
    obtain ⟨x0,x1,x2,x3,x4⟩:=HX.out
    simp only [Nat.zero_add] at x0 x1 x2 x3 x4
    go_region_held3 (fun w'=>(∀ b o,b < W.heap.size→w'.cell? ⟨b,o,none⟩=W.cell? ⟨b,o,none⟩)∧Below W.heap.size W w') (first | exact hS | exact qB6 _)
      (first | (go_at_call 120;refine (QY9 _ _).mono ?_;rintro e w' ⟨rfl,rfl⟩;rw [HT.out])
             | (go_at_call 121;refine (HOO.out _).mono ?_;rintro e w' ⟨rfl,hb1⟩;have hS:=qA7 (by assumption) hb1))
    cases t
    · go_wp2
      go_ret
      exact ⟨rfl,B0.trans (hS.2.mono B0.size)⟩
    · obtain ⟨x0,x1,x2,x3,x4⟩:=HX.out.below hS.2 hz
      simp only [Nat.zero_add] at x0 x1 x2 x3 x4
      go_wp2_with fail
      refine (HB.out _).mono ?_
      rintro e w2 ⟨rfl,hb2⟩
      cases r
      all_goals
        go_wp2
        go_ret
        exact ⟨rfl,(B0.trans (hS.2.mono B0.size)).trans (hb2.mono (by have:=hS.2.size;omega))⟩

theorem st_form {x:StI} (hk:inR x.k 1 4=true) (h:x.k < 3):qB8 x=if x.n=0 then (if inR x.e 1 9=false then 3 else if inR x.f 1 4=false then 3 else if inR x.s 1 255=false then 3 else 0) else 1:=by
 obtain ⟨k,e,f,s,n⟩:=x
 simp only at hk h ⊢
 have hf:QI0 k=true:=by rw [qE4] at hk;have : k=1∨k=2:=(by omega);rcases this with rfl | rfl <;> rfl
 have ho:ownB ⟨k,e,f,s,n⟩=decide (n=0):=by
  unfold ownB ownI
  simp only [hf,if_true,qP2]
  simp [eq_comm]
 unfold qB8 rngB
 simp only [hk,ho,hf]
 by_cases h0:n=0
 ·subst h0
  cases inR e 1 9 <;> cases inR f 1 4 <;> cases inR s 1 255 <;> simp
 ·simp [h0]
theorem st_next {x:StI} (hk:inR x.k 1 4=true) (h:3≤x.k):qB8 x=if x.f=0∧x.s=0 then (if inR x.e 1 9=false then 3 else if inR x.n 0 7=false then 3 else 0) else 1:=by
 obtain ⟨k,e,f,s,n⟩:=x
 simp only at hk h ⊢
 have hf:QI0 k=false:=by rw [qE4] at hk;have : k=3∨k=4:=(by omega);rcases this with rfl | rfl <;> rfl
 have ho:ownB ⟨k,e,f,s,n⟩=decide (f=0∧s=0):=by
  unfold ownB ownI
  simp only [hf,qP2]
  simp
 unfold qB8 rngB
 simp only [hk,ho,hf]
 by_cases h0:f=0∧s=0
 ·obtain ⟨rfl,rfl⟩:=h0
  cases inR e 1 9 <;> cases inR n 0 7 <;> simp
 ·simp [h0]
theorem in07:inR 0 0 7=true:=rfl
theorem qL5 (b o:Nat) (x:StI) (w:World) (h:qQ3 w b o x):Calls Tryz.prog 59 #[.pointer (some ⟨b,o,none⟩)] w fun e w'=>e = .returned (.int .i64 (qB8 x))∧w=w':=by
 obtain ⟨x0,x1,x2,x3,x4⟩:=h
 cases hk:inR x.k 1 4
 ·have hC:qB8 x=1:=by unfold qB8;rw [if_pos hk]
  rw [hC]
  clear hC
  go_enter Tryz.func59,Tryz.ntmps59
  go_wp2_with (first | (go_at_call 57;refine (qY0 _ _ _ _).mono ?_;rintro e w' ⟨rfl,rfl⟩;rw [hk]))
  go_ret
  exact ⟨rfl,rfl⟩
 ·by_cases h3:3≤x.k
  ·rw [st_next hk h3]
   by_cases f0:x.f=0
   ·by_cases s0:x.s=0
    ·rw [if_pos ⟨f0,s0⟩]
     rw [f0] at x2
     rw [s0] at x3
     clear f0 s0
     cases he:inR x.e 1 9
     ·go_enter Tryz.func59,Tryz.ntmps59
      go_wp2_with (first | (go_at_call 57;refine (qY0 _ _ _ _).mono ?_;rintro e w' ⟨rfl,rfl⟩;rw [hk]) | (go_at_call 89;refine (qT2 _ _).mono ?_;rintro e w' ⟨rfl,rfl⟩;rw [he]))
      go_ret
      exact ⟨rfl,rfl⟩
     ·cases hn:inR x.n 0 7
      all_goals
       go_enter Tryz.func59,Tryz.ntmps59
       go_wp2_with (first | (go_at_call 57;refine (qY0 _ _ _ _).mono ?_;rintro e w' ⟨rfl,rfl⟩;rw [hk]) | (go_at_call 89;refine (qT2 _ _).mono ?_;rintro e w' ⟨rfl,rfl⟩;rw [he]) | (go_at_call 57;refine (qY0 _ _ _ _).mono ?_;rintro e w' ⟨rfl,rfl⟩;rw [hn]))
       go_ret
       exact ⟨rfl,rfl⟩
    ·rw [if_neg (fun q=>s0 q.2)]
     rw [f0] at x2
     have sb:(x.s != 0)=true:=by simpa using s0
     clear f0 s0
     go_enter Tryz.func59,Tryz.ntmps59
     go_wp2_with (first | (go_at_call 57;refine (qY0 _ _ _ _).mono ?_;rintro e w' ⟨rfl,rfl⟩;rw [hk]))
     go_ret
     exact ⟨rfl,rfl⟩
   ·rw [if_neg (fun q=>f0 q.1)]
    have fb:(x.f != 0)=true:=by simpa using f0
    clear f0
    go_enter Tryz.func59,Tryz.ntmps59
    go_wp2_with (first | (go_at_call 57;refine (qY0 _ _ _ _).mono ?_;rintro e w' ⟨rfl,rfl⟩;rw [hk]))
    go_ret
    exact ⟨rfl,rfl⟩
  ·have h3':x.k < 3:=by omega
   rw [st_form hk h3']
   clear h3
   by_cases n0:x.n=0
   ·rw [if_pos n0]
    rw [n0] at x4
    clear n0
    have hn:=in07
    cases he:inR x.e 1 9
    ·go_enter Tryz.func59,Tryz.ntmps59
     go_wp2_with (first | (go_at_call 57;refine (qY0 _ _ _ _).mono ?_;rintro e w' ⟨rfl,rfl⟩;rw [hk]) | (go_at_call 89;refine (qT2 _ _).mono ?_;rintro e w' ⟨rfl,rfl⟩;rw [he]))
     go_ret
     exact ⟨rfl,rfl⟩
    ·cases hf:inR x.f 1 4
     ·go_enter Tryz.func59,Tryz.ntmps59
      go_wp2_with (first | (go_at_call 57;refine (qY0 _ _ _ _).mono ?_;rintro e w' ⟨rfl,rfl⟩;rw [hk]) | (go_at_call 89;refine (qT2 _ _).mono ?_;rintro e w' ⟨rfl,rfl⟩;rw [he]) | (go_at_call 90;refine (sForm_c _ _).mono ?_;rintro e w' ⟨rfl,rfl⟩;rw [hf]))
      go_ret
      exact ⟨rfl,rfl⟩
     ·cases hs:inR x.s 1 255
      all_goals
       go_enter Tryz.func59,Tryz.ntmps59
       go_wp2_with (first | (go_at_call 57;refine (qY0 _ _ _ _).mono ?_;rintro e w' ⟨rfl,rfl⟩;rw [hk]) | (go_at_call 89;refine (qT2 _ _).mono ?_;rintro e w' ⟨rfl,rfl⟩;rw [he]) | (go_at_call 90;refine (sForm_c _ _).mono ?_;rintro e w' ⟨rfl,rfl⟩;rw [hf]) | (go_at_call 57;refine (qY0 _ _ _ _).mono ?_;rintro e w' ⟨rfl,rfl⟩;rw [hs]) | (go_at_call 57;refine (qY0 _ _ _ _).mono ?_;rintro e w' ⟨rfl,rfl⟩;rw [hn]))
       go_ret
       exact ⟨rfl,rfl⟩
   ·rw [if_neg n0]
    have nb:(x.n != 0)=true:=by simpa using n0
    clear n0
    go_enter Tryz.func59,Tryz.ntmps59
    go_wp2_with (first | (go_at_call 57;refine (qY0 _ _ _ _).mono ?_;rintro e w' ⟨rfl,rfl⟩;rw [hk]))
    go_ret
    exact ⟨rfl,rfl⟩

def qQ8 (said:List StI) (k e:Int):Bool:=said.any (fun x=>decide (x.k=k)&&decide (x.e=e))
def qI0 (said:List StI) (k e:Int):Option StI:=said.find? (fun x=>decide (x.k=k)&&decide (x.e=e))
def qU3 (said:List StI) (e:Int):Bool:=qQ8 said 3 e || qQ8 said 4 e
def qS8 (x:StI):StI:=⟨2,x.e,x.f,x.s,0⟩
def qD2 (said:List StI) (x:StI):Bool:=said.any (fun y=>qP2 y x)
theorem QZ2 {said:List StI} {x:StI}:qD2 said x=true↔x∈said:=by
 unfold qD2 qP2
 rw [List.any_eq_true]
 constructor
 ·rintro ⟨y,hy,h⟩
  have : y=x:=of_decide_eq_true h
  subst this;exact hy
 ·intro h
  exact ⟨x,h,decide_eq_true rfl⟩
theorem QC4 {said:List StI} {j:Nat} {x:StI} (h:said[j]? = some x) (k e:Int):qI0 (said.drop j) k e=if x.k=k∧x.e=e then some x else qI0 (said.drop (j+1)) k e:=by
 have hl:j < said.length:=by
  by_cases q:j < said.length
  ·exact q
  ·rw [List.getElem?_eq_none (by omega)] at h;cases h
 rw [List.getElem?_eq_getElem hl] at h
 rw [List.drop_eq_getElem_cons hl,Option.some.inj h]
 unfold qI0
 rw [List.find?_cons]
 by_cases q:x.k=k∧x.e=e
 ·rw [if_pos q];simp [q.1,q.2]
 ·rw [if_neg q]
  have : (decide (x.k=k)&&decide (x.e=e))=false:=by
   rw [Bool.and_eq_false_iff]
   by_cases q1:x.k=k
   ·exact .inr (decide_eq_false (fun q2=>q ⟨q1,q2⟩))
   ·exact .inl (decide_eq_false q1)
  rw [this]
theorem kindB_at (said:List StI) (k e:Int):qQ8 said k e=(qI0 said k e).isSome:=by
 unfold qQ8 qI0
 induction said with
 | nil=>rfl
 | cons x r ih =>
  rw [List.any_cons,List.find?_cons]
  cases (decide (x.k=k)&&decide (x.e=e))
  ·simpa using ih
  ·simp
theorem saidB_drop {said:List StI} {j:Nat} {x:StI} (h:said[j]? = some x) (y:StI):qD2 (said.drop j) y=(qP2 x y || qD2 (said.drop (j+1)) y):=by
 have hl:j < said.length:=by
  by_cases q:j < said.length
  ·exact q
  ·rw [List.getElem?_eq_none (by omega)] at h;cases h
 rw [List.getElem?_eq_getElem hl] at h
 rw [List.drop_eq_getElem_cons hl,Option.some.inj h]
 unfold qD2
 rw [List.any_cons]

theorem revokeOf_c (x:StI) (w:World):Calls Tryz.prog 169 #[.agg #[.int .i64 x.k,.int .i64 x.e,.int .i64 x.f,.int .i64 x.s,.int .i64 x.n]] w fun e w'=>e = .returned (.agg #[.int .i64 2,.int .i64 x.e,.int .i64 x.f,.int .i64 x.s,.int .i64 0])∧Below w.heap.size w w':=by
 go_enter Tryz.func169,Tryz.ntmps169
 go_wp2
 refine bodyPost_ret (v:=.agg #[.int .i64 2,.int .i64 x.e,.int .i64 x.f,.int .i64 x.s,.int .i64 0]) (by simp [results,Tryz.results169,go_sem]) rfl ⟨rfl,(zN).alloc (by simp) _⟩

def qD0:List StI→List Value
 | []=>[]
 | p::ps => .int .i64 p.k :: .int .i64 p.e :: .int .i64 p.f :: .int .i64 p.s :: .int .i64 p.n::qD0 ps
theorem qN4 (a b:List StI):qD0 (a++b)=qD0 a++qD0 b:=by
 induction a with
 | nil=>rfl
 | cons p ps ih=>simp [qD0,ih]
theorem QG3 (a:List StI):(qD0 a).length=a.length * 5:=by
 induction a with
 | nil=>rfl
 | cons p ps ih=>simp [qD0,ih];omega
theorem QN6:∀ (a:List StI) (k:Nat) (p:StI),a[k]? = some p→(qD0 a)[k * 5]? = some (.int .i64 p.k)∧(qD0 a)[k * 5+1]? = some (.int .i64 p.e)∧(qD0 a)[k * 5+2]? = some (.int .i64 p.f)∧(qD0 a)[k * 5+3]? = some (.int .i64 p.s)∧(qD0 a)[k * 5+4]? = some (.int .i64 p.n)
 | [],_,_,h=>by simp at h
 | q::qs,0,p,h=>by simp at h;subst h;exact ⟨rfl,rfl,rfl,rfl,rfl⟩
 | q::qs,k+1,p,h=>by
  have:=QN6 qs k p (by simpa using h)
  rw [show (k+1) * 5=k * 5+1+1+1+1+1 by omega,show k * 5+1+1+1+1+1+1=(k * 5+1)+1+1+1+1+1 by omega,show k * 5+1+1+1+1+1+2=(k * 5+2)+1+1+1+1+1 by omega,show k * 5+1+1+1+1+1+3=(k * 5+3)+1+1+1+1+1 by omega,show k * 5+1+1+1+1+1+4=(k * 5+4)+1+1+1+1+1 by omega]
  simpa [qD0] using this
theorem qO5 (a:List StI):∀ u∈qD0 a,u.oneCell'=true:=by
 induction a with
 | nil=>simp [qD0]
 | cons p ps ih =>
  intro u hu
  simp only [qD0,List.mem_cons] at hu
  rcases hu with rfl | rfl | rfl | rfl | rfl | hu
  ·rfl
  ·rfl
  ·rfl
  ·rfl
  ·rfl
  ·exact ih u hu
def qE7 (w:World) (B:Nat) (v:Value) (gs:List StI):Prop:=w.ownsRow B 85 5 v gs.length (qD0 gs)
theorem qE7.shape {w:World} {B:Nat} {v:Value} {gs:List StI} (h:qE7 w B v gs) (hv:v ≠ .slice none 0 0):∃ g cap,v = .slice (some ⟨g,0,none⟩) gs.length cap:=by
 have h0:w.ownsRow B 85 5 v gs.length (qD0 gs):=h
 rcases h0.2 with ⟨h',_⟩ | ⟨g,cap,cur,h',_⟩
 ·exact absurd h' hv
 ·exact ⟨g,cap,h'⟩
theorem qE7.below {w w':World} {B:Nat} {v:Value} {gs:List StI} (h:qE7 w B v gs) (hb:Below w.heap.size w w'):qE7 w' B v gs :=
 World.ownsRow.kept (row:=none) h ⟨hb.os,hb.tape,hb.output,hb.size,fun k hk _=>hb.block k hk⟩ (by cases v.ownBlock <;> simp)
theorem qC8 {w:World} {B B':Nat} {v:Value} {gs:List StI} (h:qE7 w B v gs) (hb:B'≤B):qE7 w B' v gs:=by
 have h0:w.ownsRow B 85 5 v gs.length (qD0 gs):=h
 refine ⟨h0.1,?_⟩
 rcases h0.2 with h' | ⟨g,cap,cur,e,hg,rest⟩
 ·exact .inl h'
 ·exact .inr ⟨g,cap,cur,e,Nat.le_trans hb hg,rest⟩
theorem QR8 {w:World} {B:Nat} {v:Value} {es:List StI} {x:StI} (h:w.ownsRow B 85 5 v (es.length+1) (qD0 es++[.int .i64 x.k,.int .i64 x.e,.int .i64 x.f,.int .i64 x.s,.int .i64 x.n])):qE7 w B v (es++[x]):=by
 unfold qE7
 rw [List.length_append,qN4]
 exact h
theorem ownSt_grown {w1 Z w':World} {B:Nat} {v:Value} {es:List StI} (ho:qE7 Z B v es) (hb:Below B w1 Z) (hg:Z.grownBy w' v.ownBlock) (hB:B≤Z.heap.size):Below B w1 w':=by
 have h0:Z.ownsRow B 85 5 v es.length (qD0 es):=ho
 exact hb.grown hg hB (fun j hj=>(h0.lt j hj).1)
def StV (w:World) (a:Option Addr) (zs:List StI):Prop:=∀ k p,zs[k]? = some p→∃ g,a=some ⟨g,0,none⟩∧qQ3 w g (k * 5) p
theorem StV.isIn {w:World} {a:Option Addr} {n:Nat} {zs:List StI} (hn:zs.length=n) (h:StV w a zs):qL2 w a n zs:=by
 refine ⟨hn,fun hp=>?_⟩
 obtain ⟨g,ha,_⟩:=h 0 _ (List.getElem?_eq_getElem (by omega))
 refine ⟨g,0,ha,fun k x e=>?_⟩
 obtain ⟨g',ha',hx⟩:=h k x e
 rw [ha] at ha'
 cases ha'
 rw [Nat.zero_add]
 exact hx
theorem qE7.view {w:World} {B:Nat} {a:Option Addr} {n cap:Nat} {zs:List StI} (h:qE7 w B (.slice a n cap) zs):StV w a zs:=by
 intro k p e
 have hk:k < zs.length:=by
  by_cases q:k < zs.length
  ·exact q
  ·rw [List.getElem?_eq_none (by omega)] at e;cases e
 have h0:w.ownsRow B 85 5 (.slice a n cap) zs.length (qD0 zs):=h
 rcases h0.2 with ⟨h',h''⟩ | ⟨g,cap',cur,h',_⟩
 ·omega
 ·simp at h'
  obtain ⟨rfl,rfl,rfl⟩:=h'
  obtain ⟨f0,f1,f2,f3,f4⟩:=QN6 zs k p e
  exact ⟨g,rfl,(h0.cellAt (k * 5) (by omega)).trans f0,(h0.cellAt (k * 5+1) (by omega)).trans f1,(h0.cellAt (k * 5+2) (by omega)).trans f2,(h0.cellAt (k * 5+3) (by omega)).trans f3,(h0.cellAt (k * 5+4) (by omega)).trans f4⟩
theorem qE7.form {w:World} {B:Nat} {v:Value} {zs:List StI} (h:qE7 w B v zs):(v = .slice none 0 0∧zs=[])∨∃ g cap,v = .slice (some ⟨g,0,none⟩) zs.length cap∧B≤g∧g < w.heap.size∧zs.length≤cap∧cap≤maxLen:=by
 have h0:w.ownsRow B 85 5 v zs.length (qD0 zs):=h
 rcases h0.2 with ⟨h',h''⟩ | ⟨g,cap',cur,h',hb,hg,hc,hm,_⟩
 ·exact .inl ⟨h',List.length_eq_zero_iff.1 h''⟩
 ·exact .inr ⟨g,cap',h',hb,(Array.getElem?_eq_some_iff.1 hg).1,hc,hm⟩
theorem qJ2.below {w w':World} {g n:Nat} (h:qJ2 w g n) (hg:g < w.heap.size) (hb:Below w.heap.size w w'):qJ2 w' g n :=
 ⟨fun j hj=>by obtain ⟨v,e⟩:=h.1 j hj;exact ⟨v,(hb.cell (p:=⟨g,j,none⟩) hg).trans e⟩,fun j=>(hb.frozen (p:=⟨g,j,none⟩) hg).trans (h.2 j)⟩
theorem qJ2.grown {w w':World} {g n:Nat} {row:Option Nat} (h:qJ2 w g n) (hg:g < w.heap.size) (hr:w.grownBy w' row) (hne:some g≠row):qJ2 w' g n :=
 ⟨fun j hj=>by obtain ⟨v,e⟩:=h.1 j hj;exact ⟨v,hr.cell e hne⟩,fun j=>by
  have:=h.2 j
  unfold World.frozen? at this ⊢
  simp only at this ⊢
  rw [hr.block g hg hne]
  exact this⟩
theorem qJ2.set {w:World} {g n:Nat} (h:qJ2 w g n) (o:Nat) (v:Value):qJ2 (w.setCell ⟨g,o,none⟩ v) g n:=by
 refine ⟨fun j hj=>?_,fun j=>by simp only [World.frozen?_setCell];exact h.2 j⟩
 obtain ⟨u,e⟩:=h.1 j hj
 by_cases q:j=o
 ·subst q
  exact ⟨v,by simp [go_sem,e]⟩
 ·exact ⟨u,by rw [World.cell?_setCell_other (h:=fun e=>q (by have:=congrArg Addr.off e;simp at this;omega))];exact e⟩
theorem QB0 (g n cap:Nat) (k0:Int) (w:World) (hn:n≤1048576) (h0:0≤k0) (h1:k0≤100000000) (h:qJ2 w g n) :
  Calls Tryz.prog 39 #[.slice (some ⟨g,0,none⟩) n cap,.int .i64 k0] w fun e w'=>e = .returned (.int .i64 (k0+5 * (n:Int)))∧w.grownBy w' (some g):=by
 have HO:Hid (qJ2 w g n):=h
 clear h
 have hn':(n:Int)≤1048576:=by omega
 go_enter Tryz.func39,Tryz.ntmps39
 go_wp2
 go_loopw [1,5] (fun q i wr=>∃ (j:Nat),j≤n∧i = .int .i64 (j:Int)∧q = .int .i64 (k0+5 * (j:Int))∧qJ2 wr g n∧w.grownBy wr (some g))
  (fun _ i _=>n - (intOf i).toNat)
 case atStart=>exact ⟨0,Nat.zero_le _,rfl,by simp,HO.out,qR5 _ _⟩
 case round =>
  obtain ⟨j,hj,rfl,rfl,hroom,hgr⟩:=hrel
  have HG:Hid (qJ2 wr g n∧w.grownBy wr (some g)):=⟨hroom,hgr⟩
  by_cases hlt:j < n
  ·have hlt':(j:Int) < (n:Int):=by omega
   obtain ⟨v0,c0⟩:=hroom.1 (j * 5) (by omega)
   have f0:=hroom.2 (j * 5)
   obtain ⟨v1,c1⟩:=hroom.1 (j * 5+1) (by omega)
   have f1:=hroom.2 (j * 5+1)
   obtain ⟨v2,c2⟩:=hroom.1 (j * 5+2) (by omega)
   have f2:=hroom.2 (j * 5+2)
   obtain ⟨v3,c3⟩:=hroom.1 (j * 5+3) (by omega)
   have f3:=hroom.2 (j * 5+3)
   obtain ⟨v4,c4⟩:=hroom.1 (j * 5+4) (by omega)
   have f4:=hroom.2 (j * 5+4)
   clear hroom hgr
   go_wp2
   refine ⟨⟨j+1,by omega,by go_num,?_,?_,?_⟩,by simp [intOf];omega⟩
   ·congr 1;omega
   ·exact (((((HG.out.1.set _ _).set _ _).set _ _).set _ _).set _ _)
   ·exact (qM1 (qM1 (qM1 (qM1 (qM1 HG.out.2 (qJ1 _ _ _ _)) (qJ1 _ _ _ _)) (qJ1 _ _ _ _)) (qJ1 _ _ _ _)) (qJ1 _ _ _ _))
  ·have hjn:j=n:=by omega
   subst hjn
   go_wp2
   go_ret
   exact ⟨rfl,hgr⟩

structure qG5 where
 i:Int
 u:Int
 sa:Option Addr
 sn:Nat
 sc:Nat
 ss:List StI
 la:Option Addr
 ln:Nat
 lc:Nat
 ls:List LkI
deriving Inhabited
structure qD8 (w:World) (r:qG5):Prop where
 said:qL2 w r.sa r.sn r.ss
 locks:qJ9 w r.la r.ln r.ls
theorem qD8.below {w w':World} {r:qG5} (h:qD8 w r) (hb:Below w.heap.size w w'):qD8 w' r:=⟨h.said.below hb,h.locks.below hb⟩
structure qK5 (m:Nat) (r:qG5):Prop where
 said:r.sn≤m
 locks:r.ln≤m
structure qF6 (w:World) (L:Nat) (r y:qG5):Prop where
 i:y.i=r.i
 u:y.u=r.u
 sn:y.sn=r.sn
 ln:y.ln=r.ln
 sc:y.sc=r.sn
 lc:y.lc=r.ln
 ss:y.ss=r.ss
 ls:y.ls=r.ls
 sa:y.sa=some ⟨L,0,none⟩
 la:∃ g,y.la=some ⟨g,0,none⟩∧L < g∧g < w.heap.size∧QA1 w g r.ls∧qI6 w g r.ln
 sl:qZ8 w L r.ss∧qJ2 w L r.sn
 slt:L < w.heap.size
theorem qF6.below {w w':World} {L:Nat} {r y:qG5} (h:qF6 w L r y) (hb:Below w.heap.size w w'):qF6 w' L r y:=by
 obtain ⟨g,e,h1,h2,h3,h4⟩:=h.la
 exact ⟨h.i,h.u,h.sn,h.ln,h.sc,h.lc,h.ss,h.ls,h.sa,⟨g,e,h1,by have:=hb.size;omega,h3.below hb,h4.below h2 hb⟩,⟨h.sl.1.below hb,h.sl.2.below h.slt hb⟩,by have:=hb.size;have:=h.slt;omega⟩
theorem qF6.isIn {w:World} {L:Nat} {r y:qG5} (h:qF6 w L r y) (h1:r.ss.length=r.sn) (h2:r.ls.length=r.ln):qD8 w y:=by
 obtain ⟨g,e,_,_,h3,_⟩:=h.la
 refine ⟨?_,?_⟩
 ·rw [h.sa,h.sn,h.ss];exact qL2.of h1 h.sl.1
 ·rw [e,h.ln,h.ls];exact qJ9.of h2 h3
structure QB8 (w:World) (b:Nat) (u0 u1 u2 u3:Value):Prop where
 c0:w.cell? ⟨b,0,none⟩=some u0
 c1:w.cell? ⟨b,1,none⟩=some u1
 c2:w.cell? ⟨b,2,none⟩=some u2
 c3:w.cell? ⟨b,3,none⟩=some u3
 fz:∀ j,w.frozen? ⟨b,j,none⟩=false
theorem QB8.lt {w:World} {b:Nat} {u0 u1 u2 u3:Value} (h:QB8 w b u0 u1 u2 u3):b < w.heap.size:=zL w ⟨b,0,none⟩ h.c0
theorem QB8.below {w w':World} {b:Nat} {u0 u1 u2 u3:Value} (h:QB8 w b u0 u1 u2 u3) (hb:Below w.heap.size w w'):QB8 w' b u0 u1 u2 u3 :=
 ⟨(hb.cell (p:=⟨b,0,none⟩) h.lt).trans h.c0,(hb.cell (p:=⟨b,1,none⟩) h.lt).trans h.c1,(hb.cell (p:=⟨b,2,none⟩) h.lt).trans h.c2,(hb.cell (p:=⟨b,3,none⟩) h.lt).trans h.c3,fun j=>(hb.frozen (p:=⟨b,j,none⟩) h.lt).trans (h.fz j)⟩
theorem QB8.new (w:World) (u0 u1 u2 u3:Value) (t:TypeId):QB8 (w.alloc (.cells #[u0,u1,u2,u3] t)) w.heap.size u0 u1 u2 u3:=⟨by simp,by simp,by simp,by simp,fun j=>by simp [go_sem]⟩
theorem QB8.put2 {w:World} {b:Nat} {u0 u1 u2 u3:Value} (h:QB8 w b u0 u1 u2 u3) (v:Value):QB8 (w.setCell ⟨b,2,none⟩ v) b u0 u1 v u3:=by
 obtain ⟨h0,h1,h2,h3,hf⟩:=h
 refine ⟨?_,?_,?_,?_,fun j=>by simp [hf]⟩ <;> simp [go_sem,h0,h1,h2,h3]
theorem QB8.put3 {w:World} {b:Nat} {u0 u1 u2 u3:Value} (h:QB8 w b u0 u1 u2 u3) (v:Value):QB8 (w.setCell ⟨b,3,none⟩ v) b u0 u1 u2 v:=by
 obtain ⟨h0,h1,h2,h3,hf⟩:=h
 refine ⟨?_,?_,?_,?_,fun j=>by simp [hf]⟩ <;> simp [go_sem,h0,h1,h2,h3]
theorem qR6 (w:World) (q o:Nat) (v:Value):w.grownBy (w.setCell ⟨q,o,none⟩ v) (some q):=by
 refine ⟨rfl,rfl,rfl,by simp,fun i hi hne=>?_⟩
 have hq:i≠q:=fun e=>hne (by rw [e])
 rw [Below.heap_setCell _ _ _ _ hq]
theorem qZ2 {w w1 w2:World} {row:Option Nat} (h:w.grownBy w1 row) (h':w1.grownBy w2 row):w.grownBy w2 row :=
 ⟨h'.os.trans h.os,h'.tape.trans h.tape,h'.output.trans h.output,Nat.le_trans h.size h'.size,fun i hi hne=>by rw [h'.block i (Nat.lt_of_lt_of_le hi h.size) hne];exact h.block i hi hne⟩
theorem QB8.grown {w w':World} {b:Nat} {u0 u1 u2 u3:Value} {row:Option Nat} (h:QB8 w b u0 u1 u2 u3) (hg:w.grownBy w' row) (hne:some b≠row):QB8 w' b u0 u1 u2 u3 :=
 ⟨hg.cell h.c0 hne,hg.cell h.c1 hne,hg.cell h.c2 hne,hg.cell h.c3 hne,fun j=>by
  have:=h.fz j
  unfold World.frozen? at this ⊢
  rw [hg.block b h.lt hne]
  exact this⟩
theorem qZ8.grown {w w':World} {g:Nat} {gs:List StI} {row:Option Nat} (h:qZ8 w g gs) (hg:w.grownBy w' row) (hne:some g≠row):qZ8 w' g gs:=fun k x e=>by
 obtain ⟨h0,h1,h2,h3,h4⟩:=h k x e
 exact ⟨hg.cell h0 hne,hg.cell h1 hne,hg.cell h2 hne,hg.cell h3 hne,hg.cell h4 hne⟩
theorem QA1.grown {w w':World} {g:Nat} {gs:List LkI} {row:Option Nat} (h:QA1 w g gs) (hg:w.grownBy w' row) (hne:some g≠row):QA1 w' g gs:=fun k x e=>by
 obtain ⟨h0,h1,h2,h3⟩:=h k x e
 exact ⟨hg.cell h0 hne,hg.cell h1 hne,hg.cell h2 hne,hg.cell h3 hne⟩
theorem qW3 (r:qG5) (w:World) (hle:qK5 1048576 r) (h:qD8 w r) :
  Calls Tryz.prog 8 #[.agg #[.int .i64 r.i,.int .i64 r.u,.slice r.sa r.sn r.sc,.slice r.la r.ln r.lc]] w fun e w'=>∃ (y:qG5) (L:Nat),e = .returned (.agg #[.int .i64 y.i,.int .i64 y.u,.slice y.sa y.sn y.sc,.slice y.la y.ln y.lc])∧w.heap.size≤L∧qF6 w' L r y∧Below w.heap.size w w':=by
 have H:Hid (qD8 w r):=h
 have HLE:Hid (qK5 1048576 r):=hle
 clear h hle
 obtain ⟨V0,hV0⟩:∃ V,V=w.alloc (.cells #[.int .i64 r.i,.int .i64 r.u,.slice r.sa r.sn r.sc,.slice r.la r.ln r.lc] 25):=⟨_,rfl⟩
 obtain ⟨V1,hV1⟩:∃ V,V=V0.alloc (.cells #[.int .i64 0,.int .i64 0,.slice none 0 0,.slice none 0 0] 36):=⟨_,rfl⟩
 obtain ⟨V,hV⟩:∃ V,V=V1.alloc (.cells #[.int .i64 r.i,.int .i64 r.u,.slice none 0 0,.slice none 0 0] 36):=⟨_,rfl⟩
 have z0:V0.heap.size=w.heap.size+1:=by rw [hV0];simp
 have z1:V1.heap.size=w.heap.size+1+1:=by rw [hV1];simp [z0]
 have z2:V.heap.size=w.heap.size+1+1+1:=by rw [hV];simp [z1]
 have b0:Below w.heap.size w V0:=by rw [hV0];exact zN
 have b1:Below V0.heap.size V0 V1:=by rw [hV1];exact zN
 have b2:Below V1.heap.size V1 V:=by rw [hV];exact zN
 have X0:QB8 V w.heap.size (.int .i64 r.i) (.int .i64 r.u) (.slice r.sa r.sn r.sc) (.slice r.la r.ln r.lc):=by
  have q:QB8 V0 w.heap.size (.int .i64 r.i) (.int .i64 r.u) (.slice r.sa r.sn r.sc) (.slice r.la r.ln r.lc):=by rw [hV0];exact QB8.new _ _ _ _ _ _
  exact (q.below b1).below b2
 have Y0:QB8 V (w.heap.size+1) (.int .i64 0) (.int .i64 0) (.slice none 0 0) (.slice none 0 0):=by
  have q:QB8 V1 V0.heap.size (.int .i64 0) (.int .i64 0) (.slice none 0 0) (.slice none 0 0):=by rw [hV1];exact QB8.new _ _ _ _ _ _
  rw [z0] at q
  exact q.below b2
 have O0:QB8 V (w.heap.size+1+1) (.int .i64 r.i) (.int .i64 r.u) (.slice none 0 0) (.slice none 0 0):=by
  have q:QB8 V V1.heap.size (.int .i64 r.i) (.int .i64 r.u) (.slice none 0 0) (.slice none 0 0):=by rw [hV];exact QB8.new _ _ _ _ _ _
  rw [z1] at q
  exact q
 have B0:Hid (Below w.heap.size w V):=(b0.trans (b1.mono b0.size)).trans (b2.mono (by omega))
 have HV:Hid (V=((w.alloc (.cells #[.int .i64 r.i,.int .i64 r.u,.slice r.sa r.sn r.sc,.slice r.la r.ln r.lc] 25)).alloc (.cells #[.int .i64 0,.int .i64 0,.slice none 0 0,.slice none 0 0] 36)).alloc (.cells #[.int .i64 r.i,.int .i64 r.u,.slice none 0 0,.slice none 0 0] 36)):=by rw [hV,hV1,hV0];exact rfl
 have Z2:Hid (V.heap.size=w.heap.size+1+1+1):=z2
 have XX:Hid (QB8 V w.heap.size (.int .i64 r.i) (.int .i64 r.u) (.slice r.sa r.sn r.sc) (.slice r.la r.ln r.lc)∧QB8 V (w.heap.size+1) (.int .i64 0) (.int .i64 0) (.slice none 0 0) (.slice none 0 0)∧QB8 V (w.heap.size+1+1) (.int .i64 r.i) (.int .i64 r.u) (.slice none 0 0) (.slice none 0 0)):=⟨X0,Y0,O0⟩
 clear hV hV1 hV0 z0 z1 z2 b0 b1 b2 X0 Y0 O0 V0 V1
 go_enter Tryz.func8,Tryz.ntmps8
 go_wp2_with fail
 rw [← HV.out]
 clear HV
 refine (QF6 r.sa r.sn r.sc r.ss V HLE.out.said (H.out.said.below B0.out)).mono ?_
 rintro e w1 ⟨rfl,hat1,hlt1,hb1,hroom1⟩
 obtain ⟨X1,Y1,O1⟩:=XX.out
 have X1:=X1.below hb1
 have Y1:=Y1.below hb1
 have O1:=O1.below hb1
 have B1:Below w.heap.size w w1:=B0.out.trans (hb1.mono B0.out.size)
 have hz1:w.heap.size+1+1+1≤w1.heap.size:=by have:=Z2.out;have:=hb1.size;omega
 obtain ⟨U,hU⟩:∃ U,U=w1.setCell ⟨w.heap.size+1+1,2,none⟩ (.slice (some ⟨V.heap.size,0,none⟩) r.sn r.sn):=⟨_,rfl⟩
 have gU:w1.grownBy U (some (w.heap.size+1+1)):=by rw [hU];exact qR6 _ _ _ _
 have BU:Hid (Below w.heap.size w U):=by rw [hU];exact B1.setCell (by show w.heap.size≤w.heap.size+1+1;omega) _
 have XU:Hid (QB8 U w.heap.size (.int .i64 r.i) (.int .i64 r.u) (.slice r.sa r.sn r.sc) (.slice r.la r.ln r.lc)∧QB8 U (w.heap.size+1) (.int .i64 0) (.int .i64 0) (.slice none 0 0) (.slice none 0 0)∧QB8 U (w.heap.size+1+1) (.int .i64 r.i) (.int .i64 r.u) (.slice (some ⟨V.heap.size,0,none⟩) r.sn r.sn) (.slice none 0 0)):=by
  refine ⟨X1.grown gU (fun e=>by injection e;omega),Y1.grown gU (fun e=>by injection e;omega),?_⟩
  rw [hU];exact O1.put2 _
 have SU:Hid (qZ8 U V.heap.size r.ss∧qJ2 U V.heap.size r.sn∧V.heap.size < U.heap.size):=by
  have hne:some V.heap.size≠some (w.heap.size+1+1):=fun e=>by injection e;have:=Z2.out;omega
  exact ⟨hat1.grown gU hne,hroom1.grown hlt1 gU hne,by have:=gU.size;omega⟩
 obtain ⟨x0,x1,x2,x3,_⟩:=X1
 obtain ⟨o0,o1,o2,o3,of⟩:=O1
 have of2:=of 2
 have hlo:w.heap.size+1+1 < w1.heap.size:=by omega
 have hlx:w.heap.size < w1.heap.size:=by omega
 clear hat1 hroom1 hb1 Y1 B1 gU XX of
 go_wp2_with fail
 rw [← hU]
 clear hU x0 x1 x2 x3 o0 o1 o2 o3 of2 hlo hlx
 refine (QY6 r.la r.ln r.lc r.ls U HLE.out.locks (H.out.locks.below BU.out)).mono ?_
 rintro e w2 ⟨rfl,hat2,hlt2,hb2,hroom2⟩
 obtain ⟨X2,Y2,O2⟩:=XU.out
 have X2:=X2.below hb2
 have Y2:=Y2.below hb2
 have O2:=O2.below hb2
 have B2:Below w.heap.size w w2:=BU.out.trans (hb2.mono BU.out.size)
 have hz2:w.heap.size+1+1+1≤w2.heap.size:=by have:=SU.out.2.2;have:=Z2.out;have:=hb2.size;omega
 obtain ⟨T,hT⟩:∃ T,T=w2.setCell ⟨w.heap.size+1+1,3,none⟩ (.slice (some ⟨U.heap.size,0,none⟩) r.ln r.ln):=⟨_,rfl⟩
 have gT:w2.grownBy T (some (w.heap.size+1+1)):=by rw [hT];exact qR6 _ _ _ _
 have BT:Below w.heap.size w T:=by rw [hT];exact B2.setCell (by show w.heap.size≤w.heap.size+1+1;omega) _
 have YT:=Y2.grown gT (fun e=>by injection e;omega)
 have OT:QB8 T (w.heap.size+1+1) (.int .i64 r.i) (.int .i64 r.u) (.slice (some ⟨V.heap.size,0,none⟩) r.sn r.sn) (.slice (some ⟨U.heap.size,0,none⟩) r.ln r.ln):=by rw [hT];exact O2.put3 _
 have ST:Hid (qZ8 T V.heap.size r.ss∧qJ2 T V.heap.size r.sn∧V.heap.size < T.heap.size∧QA1 T U.heap.size r.ls∧qI6 T U.heap.size r.ln∧U.heap.size < T.heap.size∧V.heap.size < U.heap.size∧w.heap.size+1+1 < V.heap.size):=by
  have hz:=Z2.out
  have hs:=SU.out
  have hne:some V.heap.size≠some (w.heap.size+1+1):=fun e=>by injection e;omega
  have hne2:some U.heap.size≠some (w.heap.size+1+1):=fun e=>by injection e;omega
  have hsz:=gT.size
  have hbz:=hb2.size
  exact ⟨(hs.1.below hb2).grown gT hne,(hs.2.1.below hs.2.2 hb2).grown (by omega) gT hne,by omega,hat2.grown gT hne2,hroom2.grown hlt2 gT hne2,by omega,hs.2.2,by omega⟩
 obtain ⟨x0,x1,x2,x3,_⟩:=X2
 obtain ⟨o0,o1,o2,o3,of⟩:=O2
 have of3:=of 3
 have hlo:w.heap.size+1+1 < w2.heap.size:=by omega
 have hlx:w.heap.size < w2.heap.size:=by omega
 obtain ⟨p0,p1,p2,p3,_⟩:=OT
 obtain ⟨y0,y1,y2,y3,yf⟩:=YT
 have f0:=yf 0
 have f1:=yf 1
 have f2:=yf 2
 have f3:=yf 3
 have BT':Hid (Below w.heap.size w T):=BT
 clear hat2 hroom2 hb2 Y2 B2 gT XU of BT yf SU BU
 go_upto_region 6 with fail
 rw [← hT]
 clear hT x0 x1 x2 x3 o0 o1 o2 o3 of3
 have g4:Hid (T.grownBy ((((T.setCell ⟨w.heap.size+1,0,none⟩ (.int .i64 r.i)).setCell ⟨w.heap.size+1,1,none⟩ (.int .i64 r.u)).setCell ⟨w.heap.size+1,2,none⟩ (.slice (some ⟨V.heap.size,0,none⟩) r.sn r.sn)).setCell ⟨w.heap.size+1,3,none⟩ (.slice (some ⟨U.heap.size,0,none⟩) r.ln r.ln)) (some (w.heap.size+1))):=qZ2 (qZ2 (qZ2 (qR6 _ _ _ _) (qR6 _ _ _ _)) (qR6 _ _ _ _)) (qR6 _ _ _ _)
 have b4:Hid (Below w.heap.size w ((((T.setCell ⟨w.heap.size+1,0,none⟩ (.int .i64 r.i)).setCell ⟨w.heap.size+1,1,none⟩ (.int .i64 r.u)).setCell ⟨w.heap.size+1,2,none⟩ (.slice (some ⟨V.heap.size,0,none⟩) r.sn r.sn)).setCell ⟨w.heap.size+1,3,none⟩ (.slice (some ⟨U.heap.size,0,none⟩) r.ln r.ln))):=(((BT'.out.setCell (by show w.heap.size≤w.heap.size+1;omega) _).setCell (by show w.heap.size≤w.heap.size+1;omega) _).setCell (by show w.heap.size≤w.heap.size+1;omega) _).setCell (by show w.heap.size≤w.heap.size+1;omega) _
 go_wp2
 refine bodyPost_ret (v:=.agg #[.int .i64 r.i,.int .i64 r.u,.slice (some ⟨V.heap.size,0,none⟩) r.sn r.sn,.slice (some ⟨U.heap.size,0,none⟩) r.ln r.ln]) (by simp [results,Tryz.results8,go_sem,y0,y1,y2,y3]) rfl ?_
 refine ⟨⟨r.i,r.u,some ⟨V.heap.size,0,none⟩,r.sn,r.sn,r.ss,some ⟨U.heap.size,0,none⟩,r.ln,r.ln,r.ls⟩,V.heap.size,rfl,by have:=ST.out;omega,?_,b4.out⟩
 obtain ⟨s1,s2,s3,s4,s5,s6,s7,s8⟩:=ST.out
 have hne:some V.heap.size≠some (w.heap.size+1):=fun e=>by injection e;omega
 have hne2:some U.heap.size≠some (w.heap.size+1):=fun e=>by injection e;omega
 have hsz:=g4.out.size
 exact ⟨rfl,rfl,rfl,rfl,rfl,rfl,rfl,rfl,rfl,⟨U.heap.size,rfl,s7,by omega,s4.grown g4.out hne2,s5.grown s6 g4.out hne2⟩,⟨s1.grown g4.out hne,s2.grown s3 g4.out hne⟩,by omega⟩

section
attribute [local go_sem ↓] st_eql
def qG4 (w:World) (b:Nat) (r:qG5):Prop:=w.cell? ⟨b,0,none⟩=some (.int .i64 r.i)∧w.cell? ⟨b,1,none⟩=some (.int .i64 r.u)∧w.cell? ⟨b,2,none⟩=some (.slice r.sa r.sn r.sc)∧w.cell? ⟨b,3,none⟩=some (.slice r.la r.ln r.lc)
theorem qG4.lt {w:World} {b:Nat} {r:qG5} (h:qG4 w b r):b < w.heap.size:=zL w ⟨b,0,none⟩ h.1
theorem qG4.below {w w':World} {b:Nat} {r:qG5} (h:qG4 w b r) (hb:Below w.heap.size w w'):qG4 w' b r :=
 ⟨(hb.cell (p:=⟨b,0,none⟩) h.lt).trans h.1,(hb.cell (p:=⟨b,1,none⟩) h.lt).trans h.2.1,(hb.cell (p:=⟨b,2,none⟩) h.lt).trans h.2.2.1,(hb.cell (p:=⟨b,3,none⟩) h.lt).trans h.2.2.2⟩
theorem qG4.new (w:World) (r:qG5) (t:TypeId):qG4 (w.alloc (.cells #[.int .i64 r.i,.int .i64 r.u,.slice r.sa r.sn r.sc,.slice r.la r.ln r.lc] t)) w.heap.size r:=⟨by simp,by simp,by simp,by simp⟩
theorem l8Kind_c (b:Nat) (r:qG5) (k e:Int) (w:World) (hx:qG4 w b r) (h:qL2 w r.sa r.sn r.ss) (hn:r.sn≤1048576) :
  Calls Tryz.prog 101 #[.pointer (some ⟨b,0,none⟩),.int .i64 k,.int .i64 e] w fun d w'=>d = .returned (.bool (qQ8 r.ss k e))∧Below w.heap.size w w':=by
 obtain ⟨i,u,sa,n,sc,said,la,ln,lc,ls⟩:=r
 simp only at hx h hn ⊢
 have HZ:Hid (said.length=n):=h.1
 have H:Hid (qL2 w sa n said):=h
 have hbl:=hx.lt
 obtain ⟨_,_,x2,_⟩:=hx
 have X2:Hid (w.cell? ⟨b,2,none⟩=some (.slice sa n sc)):=x2
 clear h x2
 have hn':(n:Int)≤1048576:=by omega
 rw [kindB_at]
 obtain ⟨t,ht⟩:∃ t,(qI0 said k e).isSome=t:=⟨_,rfl⟩
 have HT:Hid ((qI0 said k e).isSome=t):=ht
 rw [ht]
 clear ht
 go_enter Tryz.func101,Tryz.ntmps101
 go_wp2
 go_loopw [7] (fun i wr=>∃ j:Nat,j≤n∧i = .int .i64 (j:Int)∧(qI0 (said.drop j) k e).isSome=t∧Below w.heap.size w wr) (fun i _=>n - (intOf i).toNat)
 case atStart=>exact ⟨0,Nat.zero_le _,rfl,HT.out,Below.refl _ _⟩
 case round =>
  obtain ⟨j,hj,rfl,hp,hnx⟩:=hrel
  have x2:=(hnx.cell (p:=⟨b,2,none⟩) hbl).trans X2.out
  have hbw2:b < wr.heap.size:=Nat.lt_of_lt_of_le hbl hnx.size
  by_cases hlt:j < n
  ·obtain ⟨g,off,x,rfl,hs,hxa,hgl⟩:=H.out.at hlt
   rw [QC4 hs] at hp
   obtain ⟨g0,g1,g2,g3,g4⟩:=hxa.below hnx hgl
   have hbw:g < wr.heap.size:=Nat.lt_of_lt_of_le hgl hnx.size
   have hlt':(j:Int) < (n:Int):=by omega
   clear hs hxa
   by_cases q1:x.k=k
   ·have b1:(x.k==k)=true:=by simp [q1]
    by_cases q2:x.e=e
    ·have b2:(x.e==e)=true:=by simp [q2]
     rw [if_pos ⟨q1,q2⟩] at hp
     have HP:Hid (true=t):=hp
     clear hp q1 q2
     go_wp2
     go_ret
     exact ⟨by rw [← HP.out];rfl,hnx⟩
    ·have b2:(x.e==e)=false:=by simp [q2]
     rw [if_neg (fun q=>q2 q.2)] at hp
     have HP:Hid ((qI0 (said.drop (j+1)) k e).isSome=t):=hp
     clear hp q1 q2
     go_wp2
     exact ⟨⟨j+1,by omega,by go_num,HP.out,hnx⟩,by simp [intOf];omega⟩
   ·have b1:(x.k==k)=false:=by simp [q1]
    rw [if_neg (fun q=>q1 q.1)] at hp
    have HP:Hid ((qI0 (said.drop (j+1)) k e).isSome=t):=hp
    clear hp q1
    go_wp2
    exact ⟨⟨j+1,by omega,by go_num,HP.out,hnx⟩,by simp [intOf];omega⟩
  ·have hkn:j=n:=by omega
   subst hkn
   rw [List.drop_of_length_le (by rw [HZ.out];exact Nat.le_refl _)] at hp
   have HP:Hid (false=t):=hp
   clear hp
   go_wp2
   go_ret
   exact ⟨by rw [← HP.out];rfl,hnx⟩
theorem QA8 (b:Nat) (r:qG5) (e:Int) (w:World) (hx:qG4 w b r) (h:qL2 w r.sa r.sn r.ss) (hn:r.sn≤1048576) :
  Calls Tryz.prog 97 #[.pointer (some ⟨b,0,none⟩),.int .i64 e] w fun d w'=>d = .returned (.bool (qU3 r.ss e))∧Below w.heap.size w w':=by
 have HK:Hid (∀ (k:Int) (w2:World),Below w.heap.size w w2→Calls Tryz.prog 101 #[.pointer (some ⟨b,0,none⟩),.int .i64 k,.int .i64 e] w2 fun d w'=>d = .returned (.bool (qQ8 r.ss k e))∧Below w2.heap.size w2 w'):=fun k w2 hb=>l8Kind_c b r k e w2 (hx.below hb) (h.below hb) hn
 clear hx h
 unfold qU3
 cases q:qQ8 r.ss 3 e
 ·have HQ:Hid (qQ8 r.ss 3 e=false):=q
  clear q
  obtain ⟨t,ht⟩:∃ t,qQ8 r.ss 4 e=t:=⟨_,rfl⟩
  have HT:Hid (qQ8 r.ss 4 e=t):=ht
  rw [ht,Bool.false_or]
  clear ht
  go_enter Tryz.func97,Tryz.ntmps97
  go_wp2_with fail
  refine (HK.out 3 _ (Below.refl _ _)).mono ?_
  rintro d w1 ⟨rfl,hb1⟩
  rw [HQ.out]
  go_wp2_with fail
  refine (HK.out 4 _ hb1).mono ?_
  rintro d w2 ⟨rfl,hb2⟩
  rw [HT.out]
  go_wp2
  go_ret
  exact ⟨rfl,hb1.trans (hb2.mono hb1.size)⟩
 ·have HQ:Hid (qQ8 r.ss 3 e=true):=q
  clear q
  rw [Bool.true_or]
  go_enter Tryz.func97,Tryz.ntmps97
  go_wp2_with fail
  refine (HK.out 3 _ (Below.refl _ _)).mono ?_
  rintro d w1 ⟨rfl,hb1⟩
  rw [HQ.out]
  go_wp2
  go_ret
  exact ⟨rfl,hb1⟩
theorem qM0 (b:Nat) (r:qG5) (y:StI) (w:World) (hx:qG4 w b r) (h:qL2 w r.sa r.sn r.ss) (hn:r.sn≤1048576) :
  Calls Tryz.prog 47 #[.pointer (some ⟨b,0,none⟩),.agg #[.int .i64 y.k,.int .i64 y.e,.int .i64 y.f,.int .i64 y.s,.int .i64 y.n]] w fun d w'=>d = .returned (.bool (qD2 r.ss y))∧Below w.heap.size w w':=by
 obtain ⟨i,u,sa,n,sc,said,la,ln,lc,ls⟩:=r
 simp only at hx h hn ⊢
 have HZ:Hid (said.length=n):=h.1
 obtain ⟨w0,hw0⟩:∃ w0,w0=w.alloc (.cells #[.int .i64 y.k,.int .i64 y.e,.int .i64 y.f,.int .i64 y.s,.int .i64 y.n] 85):=⟨_,rfl⟩
 have hb0:Below w.heap.size w w0:=by rw [hw0];exact zN
 have hs0:w.heap.size < w0.heap.size:=by rw [hw0];simp
 have HB0:Hid (Below w.heap.size w w0):=hb0
 have H:Hid (qL2 w0 sa n said):=h.below hb0
 have HY:Hid (qQ3 w0 w.heap.size 0 y):=by rw [hw0];exact qQ3.new w y _
 have hbl:=(hx.below hb0).lt
 obtain ⟨_,_,x2,_⟩:=hx.below hb0
 have X2:Hid (w0.cell? ⟨b,2,none⟩=some (.slice sa n sc)):=x2
 clear h x2 hx hb0
 have hn':(n:Int)≤1048576:=by omega
 obtain ⟨t,ht⟩:∃ t,qD2 said y=t:=⟨_,rfl⟩
 have HT:Hid (qD2 said y=t):=ht
 rw [ht]
 clear ht
 go_enter Tryz.func47,Tryz.ntmps47
 go_wp2
 rw [← hw0]
 clear hw0
 go_loopw [5] (fun i wr=>∃ j:Nat,j≤n∧i = .int .i64 (j:Int)∧qD2 (said.drop j) y=t∧Below w0.heap.size w0 wr) (fun i _=>n - (intOf i).toNat)
 case atStart=>exact ⟨0,Nat.zero_le _,rfl,HT.out,Below.refl _ _⟩
 case round =>
  obtain ⟨j,hj,rfl,hp,hnx⟩:=hrel
  have x2:=(hnx.cell (p:=⟨b,2,none⟩) hbl).trans X2.out
  have hbw2:b < wr.heap.size:=Nat.lt_of_lt_of_le hbl hnx.size
  have BN:Hid (Below w.heap.size w wr):=HB0.out.trans (hnx.mono (by omega))
  by_cases hlt:j < n
  ·obtain ⟨g,off,x,rfl,hs,hxa,hgl⟩:=H.out.at hlt
   rw [saidB_drop hs] at hp
   obtain ⟨g0,g1,g2,g3,g4⟩:=hxa.below hnx hgl
   obtain ⟨y0,y1,y2,y3,y4⟩:=HY.out.below hnx hs0
   simp only [Nat.zero_add] at y0 y1 y2 y3 y4
   have hbw:g < wr.heap.size:=Nat.lt_of_lt_of_le hgl hnx.size
   have hyw:w.heap.size < wr.heap.size:=Nat.lt_of_lt_of_le hs0 hnx.size
   have hlt':(j:Int) < (n:Int):=by omega
   clear hs hxa
   cases q:qP2 x y
   ·rw [q,Bool.false_or] at hp
    have HP:Hid (qD2 (said.drop (j+1)) y=t):=hp
    clear hp
    go_wp2
    go_quiet (fail)
    go_wp2
    exact ⟨⟨j+1,by omega,by go_num,HP.out,below_drewN hnx _⟩,by simp [intOf];omega⟩
   ·rw [q,Bool.true_or] at hp
    have HP:Hid (true=t):=hp
    clear hp
    go_wp2
    go_quiet (fail)
    go_wp2
    go_ret
    exact ⟨by rw [← HP.out];rfl,below_drewN BN.out _⟩
  ·have hkn:j=n:=by omega
   subst hkn
   rw [List.drop_of_length_le (by rw [HZ.out];exact Nat.le_refl _)] at hp
   have HP:Hid (false=t):=hp
   clear hp
   go_wp2
   go_ret
   exact ⟨by rw [← HP.out];rfl,BN.out⟩
def QA0 (said:List StI) (k e i:Int):Prop:=(i = -1∧qI0 said k e=none)∨∃ (j:Nat) (x:StI),i=(j:Int)∧said[j]? = some x∧qI0 said k e=some x
theorem saidOf1_c (bk be:Nat) (x:StI) (k e:Int) (w:World) (hk:w.cell? ⟨bk,0,none⟩=some (.int .i64 k)) (he:w.cell? ⟨be,0,none⟩=some (.int .i64 e)) :
  Calls Tryz.prog 168 #[.agg #[.int .i64 x.k,.int .i64 x.e,.int .i64 x.f,.int .i64 x.s,.int .i64 x.n],.pointer (some ⟨bk,0,none⟩),.pointer (some ⟨be,0,none⟩)] w fun d w'=>d = .returned (.bool (decide (x.k=k∧x.e=e)))∧Below w.heap.size w w':=by
 have hkl:=zL w ⟨bk,0,none⟩ hk
 have hel:=zL w ⟨be,0,none⟩ he
 by_cases q1:x.k=k
 ·have b1:(x.k==k)=true:=by simp [q1]
  by_cases q2:x.e=e
  ·have b2:(x.e==e)=true:=by simp [q2]
   rw [decide_eq_true ⟨q1,q2⟩]
   clear q1 q2
   go_enter Tryz.func168,Tryz.ntmps168
   go_wp2
   go_ret
   exact ⟨rfl,by go_grown⟩
  ·have b2:(x.e==e)=false:=by simp [q2]
   rw [decide_eq_false (fun q=>q2 q.2)]
   clear q1 q2
   go_enter Tryz.func168,Tryz.ntmps168
   go_wp2
   go_ret
   exact ⟨rfl,by go_grown⟩
 ·have b1:(x.k==k)=false:=by simp [q1]
  rw [decide_eq_false (fun q=>q1 q.1)]
  clear q1
  go_enter Tryz.func168,Tryz.ntmps168
  go_wp2
  go_ret
  exact ⟨rfl,by go_grown⟩
theorem saidIndex_c (bk be:Nat) (a:Option Addr) (n cap:Nat) (said:List StI) (k e:Int) (w:World) (hn:n≤1048576) (h:qL2 w a n said) (hk:w.cell? ⟨bk,0,none⟩=some (.int .i64 k)) (he:w.cell? ⟨be,0,none⟩=some (.int .i64 e)) :
  Calls Tryz.prog 167 #[.slice a n cap,.func (.func 168) #[] #[.pointer (some ⟨bk,0,none⟩),.pointer (some ⟨be,0,none⟩)]] w fun d w'=>(∃ i:Int,d = .returned (.int .i64 i)∧QA0 said k e i)∧Below w.heap.size w w':=by
 have HZ:Hid (said.length=n):=h.1
 have H:Hid (qL2 w a n said):=h
 have hkl:=zL w ⟨bk,0,none⟩ hk
 have hel:=zL w ⟨be,0,none⟩ he
 have HC:Hid (∀ (x:StI) (w2:World),Below w.heap.size w w2→Calls Tryz.prog 168 #[.agg #[.int .i64 x.k,.int .i64 x.e,.int .i64 x.f,.int .i64 x.s,.int .i64 x.n],.pointer (some ⟨bk,0,none⟩),.pointer (some ⟨be,0,none⟩)] w2 fun d w'=>d = .returned (.bool (decide (x.k=k∧x.e=e)))∧Below w2.heap.size w2 w'):=fun x w2 hb=>saidOf1_c bk be x k e w2 ((hb.cell (p:=⟨bk,0,none⟩) hkl).trans hk) ((hb.cell (p:=⟨be,0,none⟩) hel).trans he)
 clear h hk he hkl hel
 have hn':(n:Int)≤1048576:=by omega
 go_enter Tryz.func167,Tryz.ntmps167
 go_wp2_with fail
 go_loopw [8] (fun i wr=>∃ j:Nat,j≤n∧i = .int .i64 (j:Int)∧Hid (qI0 (said.drop j) k e=qI0 said k e)∧Below w.heap.size w wr) (fun i _=>n - (intOf i).toNat)
 case atStart=>exact ⟨0,Nat.zero_le _,rfl,by show qI0 (said.drop 0) k e=_;rw [List.drop_zero],Below.refl _ _⟩
 case round =>
  obtain ⟨j,hj,rfl,HP,hnx⟩:=hrel
  by_cases hlt:j < n
  ·obtain ⟨g,off,x,rfl,hs,hxa,hgl⟩:=H.out.at hlt
   have HS:Hid (said[j]? = some x):=hs
   have HD:=QC4 hs k e
   obtain ⟨g0,g1,g2,g3,g4⟩:=hxa.below hnx hgl
   have hbw:g < wr.heap.size:=Nat.lt_of_lt_of_le hgl hnx.size
   have hlt':(j:Int) < (n:Int):=by omega
   clear hs hxa
   by_cases q:x.k=k∧x.e=e
   ·have HI:Hid (QA0 said k e (j:Int)):=.inr ⟨j,x,rfl,HS.out,by rw [← HP.out,HD,if_pos q]⟩
    have HQ:Hid (decide (x.k=k∧x.e=e)=true):=decide_eq_true q
    clear q HD
    go_wp2_with fail
    refine (HC.out x _ hnx).mono ?_
    rintro d w1 ⟨rfl,hb1⟩
    rw [HQ.out]
    go_wp2
    go_ret
    exact ⟨⟨_,rfl,HI.out⟩,hnx.trans (hb1.mono hnx.size)⟩
   ·have HN:Hid (qI0 (said.drop (j+1)) k e=qI0 said k e):=by show _=_;rw [← HP.out,HD,if_neg q]
    have HQ:Hid (decide (x.k=k∧x.e=e)=false):=decide_eq_false q
    clear q HD
    go_wp2_with fail
    refine (HC.out x _ hnx).mono ?_
    rintro d w1 ⟨rfl,hb1⟩
    rw [HQ.out]
    go_wp2
    exact ⟨⟨j+1,by omega,by go_num,HN,hnx.trans (hb1.mono hnx.size)⟩,by simp [intOf];omega⟩
  ·have hkn:j=n:=by omega
   subst hkn
   have HI:Hid (QA0 said k e (-1)):=.inl ⟨rfl,by rw [← HP.out,List.drop_of_length_le (by rw [HZ.out];exact Nat.le_refl _)];rfl⟩
   go_wp2
   go_ret
   exact ⟨⟨_,rfl,HI.out⟩,hnx⟩
theorem QU2 (a:Option Addr) (n cap:Nat) (said:List StI) (k e:Int) (w:World) (hn:n≤1048576) (h:qL2 w a n said) :
  Calls Tryz.prog 139 #[.slice a n cap,.int .i64 k,.int .i64 e] w fun d w'=>(∃ i:Int,d = .returned (.int .i64 i)∧QA0 said k e i)∧Below w.heap.size w w':=by
 obtain ⟨W,hW⟩:∃ W,W=(w.alloc (.cells #[.int .i64 k] 2)).alloc (.cells #[.int .i64 e] 2):=⟨_,rfl⟩
 have B0:Below w.heap.size w W:=by rw [hW];exact (zN).alloc (by simp) _
 have c0:W.cell? ⟨w.heap.size,0,none⟩=some (.int .i64 k):=by rw [hW];simp
 have c1:W.cell? ⟨w.heap.size+1,0,none⟩=some (.int .i64 e):=by rw [hW];simp
 have HC:Hid (Calls Tryz.prog 167 #[.slice a n cap,.func (.func 168) #[] #[.pointer (some ⟨w.heap.size,0,none⟩),.pointer (some ⟨w.heap.size+1,0,none⟩)]] W fun d w'=>(∃ i:Int,d = .returned (.int .i64 i)∧QA0 said k e i)∧Below W.heap.size W w'):=saidIndex_c _ _ a n cap said k e W hn (h.below B0) c0 c1
 clear h c0 c1
 have hmf:∀ (fn:Fn) (first cap:Array Value) (w:World),(Instr.makeFunc fn first cap).run Tryz.prog w = .ok (.func fn first cap) w:=fun _ _ _ _=>rfl
 go_enter Tryz.func139,Tryz.ntmps139
 go_wp2_with fail
 rw [← hW]
 clear hW
 refine HC.out.mono ?_
 rintro d w1 ⟨⟨i,rfl,hi⟩,hb1⟩
 go_wp2
 go_ret
 exact ⟨⟨i,rfl,hi⟩,B0.trans (hb1.mono B0.size)⟩
end

theorem QJ0 {said:List StI} {k e i:Int} (h:QA0 said k e i):decide (0≤i)=qQ8 said k e:=by
 rw [kindB_at]
 rcases h with ⟨rfl,q⟩ | ⟨j,x,rfl,_,q⟩
 ·rw [q];rfl
 ·rw [q];simp
theorem isSealed_c (a:Option Addr) (n cap:Nat) (said:List StI) (e:Int) (w:World) (hn:n≤1048576) (h:qL2 w a n said) :
  Calls Tryz.prog 140 #[.slice a n cap,.int .i64 e] w fun d w'=>d = .returned (.bool (qU3 said e))∧Below w.heap.size w w':=by
 have HK:Hid (∀ (k:Int) (w2:World),Below w.heap.size w w2→Calls Tryz.prog 139 #[.slice a n cap,.int .i64 k,.int .i64 e] w2 fun d w'=>(∃ i:Int,d = .returned (.int .i64 i)∧QA0 said k e i)∧Below w2.heap.size w2 w'):=fun k w2 hb=>QU2 a n cap said k e w2 hn (h.below hb)
 clear h
 unfold qU3
 cases q:qQ8 said 3 e
 ·have HQ:Hid (qQ8 said 3 e=false):=q
  clear q
  obtain ⟨t,ht⟩:∃ t,qQ8 said 4 e=t:=⟨_,rfl⟩
  have HT:Hid (qQ8 said 4 e=t):=ht
  rw [ht,Bool.false_or]
  clear ht
  go_enter Tryz.func140,Tryz.ntmps140
  go_wp2_with fail
  refine (HK.out 3 _ (Below.refl _ _)).mono ?_
  rintro d w1 ⟨⟨i,rfl,hi⟩,hb1⟩
  have h1:=QJ0 hi
  rw [HQ.out] at h1
  clear hi
  go_wp2_with fail
  refine (HK.out 4 _ hb1).mono ?_
  rintro d w2 ⟨⟨i2,rfl,hi2⟩,hb2⟩
  have h2:=QJ0 hi2
  rw [HT.out] at h2
  have H2:Hid (decide (0≤i2)=t):=h2
  clear hi2 h1 h2
  go_wp2
  go_ret
  exact ⟨by rw [← H2.out];rfl,hb1.trans (hb2.mono hb1.size)⟩
 ·have HQ:Hid (qQ8 said 3 e=true):=q
  clear q
  rw [Bool.true_or]
  go_enter Tryz.func140,Tryz.ntmps140
  go_wp2_with fail
  refine (HK.out 3 _ (Below.refl _ _)).mono ?_
  rintro d w1 ⟨⟨i,rfl,hi⟩,hb1⟩
  have h1:=QJ0 hi
  rw [HQ.out] at h1
  clear hi
  go_wp2
  go_ret
  exact ⟨rfl,hb1⟩
theorem QY7 (r:qG5) (l:Int) (w:World) (h0:(r.sn:Int)+(r.ln:Int)≤l) (hl:l≤1048576) :
  Calls Tryz.prog 5 #[.agg #[.int .i64 r.i,.int .i64 r.u,.slice r.sa r.sn r.sc,.slice r.la r.ln r.lc],.int .i64 l] w fun e w'=>e = .returned (.int .i64 (l - r.sn - r.ln))∧Below w.heap.size w w':=by
 have h1:(r.sn:Int)≤l:=by omega
 have h2:¬ (l - (r.sn:Int) < 0):=by omega
 have h3:¬ (l - (r.sn:Int) - (r.ln:Int) < 0):=by omega
 go_enter Tryz.func5,Tryz.ntmps5
 go_wp2_with go_in
 go_ret
 exact ⟨rfl,by go_grown⟩
theorem QP2 (r:qG5) (l:Int) (w:World) (hm:r.sn≤maxLen) (h0:l < (r.sn:Int)) (hl0:0≤l) (hl:l≤1048576) :
  Calls Tryz.prog 5 #[.agg #[.int .i64 r.i,.int .i64 r.u,.slice r.sa r.sn r.sc,.slice r.la r.ln r.lc],.int .i64 l] w fun e w'=>e = .returned (.int .i64 (-1))∧Below w.heap.size w w':=by
 unfold maxLen at hm
 have hm':(r.sn:Int)≤9223372036854775807:=by omega
 clear hm
 go_enter Tryz.func5,Tryz.ntmps5
 go_wp2_with go_in
 go_ret
 exact ⟨rfl,by go_grown⟩
theorem QK0 (r:qG5) (l:Int) (w:World) (h1:(r.sn:Int)≤l) (hm:r.ln≤maxLen) (h0:l < (r.sn:Int)+(r.ln:Int)) (hl:l≤1048576) :
  Calls Tryz.prog 5 #[.agg #[.int .i64 r.i,.int .i64 r.u,.slice r.sa r.sn r.sc,.slice r.la r.ln r.lc],.int .i64 l] w fun e w'=>e = .returned (.int .i64 (-1))∧Below w.heap.size w w':=by
 unfold maxLen at hm
 have hm':(r.ln:Int)≤9223372036854775807:=by omega
 clear hm
 go_enter Tryz.func5,Tryz.ntmps5
 go_wp2_with go_in
 go_ret
 exact ⟨rfl,by go_grown⟩
theorem szReplica_c (r:qG5) (l:Int) (w:World) (hm:qK5 maxLen r) (hl0:0≤l) (hl:l≤1048576) :
  Calls Tryz.prog 5 #[.agg #[.int .i64 r.i,.int .i64 r.u,.slice r.sa r.sn r.sc,.slice r.la r.ln r.lc],.int .i64 l] w fun e w'=>(∃ v:Int,e = .returned (.int .i64 v)∧v≤l∧(0≤v→(r.sn:Int)≤l∧(r.ln:Int)≤l))∧Below w.heap.size w w':=by
 by_cases h1:(r.sn:Int)≤l
 ·by_cases h2:(r.sn:Int)+(r.ln:Int)≤l
  ·exact (QY7 r l w h2 hl).mono fun e w' h=>⟨⟨_,h.1,by omega,fun _=>by omega⟩,h.2⟩
  ·exact (QK0 r l w h1 hm.locks (by omega) hl).mono fun e w' h=>⟨⟨_,h.1,by omega,fun q=>by omega⟩,h.2⟩
 ·exact (QP2 r l w hm.said (by omega) hl0 hl).mono fun e w' h=>⟨⟨_,h.1,by omega,fun q=>by omega⟩,h.2⟩

end Go.Proofs.YtdppdbihhlipeaaGreatDoor
