/- Contracts. -/
import Derived.Test.YtlpgapdlepbgbaaGreatDoorPv14
namespace Go.Proofs.YtlpgapdlepbgbaaGreatDoor
set_option maxRecDepth 100000
set_option maxHeartbeats 8000000
open Go.RowKit
set_option linter.unusedVariables false
set_option linter.unusedSimpArgs false

structure StI where
 k:Int
 e:Int
 f:Int
 s:Int
 n:Int
deriving DecidableEq,Inhabited
def qS1 (w:World) (b o:Nat) (x:StI):Prop:=w.cell? ⟨b,o,none⟩=some (.int .i64 x.k)∧w.cell? ⟨b,o+1,none⟩=some (.int .i64 x.e)∧w.cell? ⟨b,o+2,none⟩=some (.int .i64 x.f)∧w.cell? ⟨b,o+3,none⟩=some (.int .i64 x.s)∧w.cell? ⟨b,o+4,none⟩=some (.int .i64 x.n)
theorem qS1.below {w w':World} {B b o:Nat} {x:StI} (h:qS1 w b o x) (hb:Below B w w') (hB:b < B):qS1 w' b o x :=
 ⟨(hb.cell (p:=⟨b,o,none⟩) hB).trans h.1,(hb.cell (p:=⟨b,o+1,none⟩) hB).trans h.2.1,(hb.cell (p:=⟨b,o+2,none⟩) hB).trans h.2.2.1,(hb.cell (p:=⟨b,o+3,none⟩) hB).trans h.2.2.2.1,(hb.cell (p:=⟨b,o+4,none⟩) hB).trans h.2.2.2.2⟩
def qL9 (w:World) (a:Option Addr) (n:Nat) (gs:List StI):Prop:=gs.length=n∧(0 < n → ∃ b off,a=some ⟨b,off,none⟩∧∀ k x,gs[k]? = some x → qS1 w b (off+k * 5) x)
theorem qL9.below {w w':World} {a:Option Addr} {n:Nat} {gs:List StI} (h:qL9 w a n gs) (hb:Below w.heap.size w w'):qL9 w' a n gs:=by
 refine ⟨h.1,fun hn=>?_⟩
 obtain ⟨b,off,e,k⟩:=h.2 hn
 exact ⟨b,off,e,fun j x hx=>(k j x hx).below hb (zL w ⟨b,off+j * 5,none⟩ (k j x hx).1)⟩
theorem qL9.at {w:World} {a:Option Addr} {n:Nat} {gs:List StI} (h:qL9 w a n gs) {k:Nat} (hk:k < n):∃ b off x,a=some ⟨b,off,none⟩∧gs[k]? = some x∧qS1 w b (off+k * 5) x∧b < w.heap.size:=by
 obtain ⟨b,off,e,q⟩:=h.2 (by omega)
 have hx:=List.getElem?_eq_getElem (l:=gs) (i:=k) (by rw [h.1];exact hk)
 exact ⟨b,off,_,e,hx,q k _ hx,zL w ⟨b,off+k * 5,none⟩ (q k _ hx).1⟩
def qZ0 (w:World) (g:Nat) (gs:List StI):Prop:=∀ k x,gs[k]? = some x → qS1 w g (k * 5) x
theorem qZ0.below {w w':World} {g:Nat} {gs:List StI} (h:qZ0 w g gs) (hb:Below w.heap.size w w'):qZ0 w' g gs:=fun k x e =>
 (h k x e).below hb (zL w ⟨g,k * 5,none⟩ (h k x e).1)
theorem qL9.of {w:World} {g n:Nat} {gs:List StI} (hl:gs.length=n) (h:qZ0 w g gs):qL9 w (some ⟨g,0,none⟩) n gs :=
 ⟨hl,fun _=>⟨g,0,rfl,fun k x e=>by rw [Nat.zero_add];exact h k x e⟩⟩
def qJ2 (w:World) (g n:Nat):Prop:=(∀ j,j < n * 5 → ∃ v,w.cell? ⟨g,j,none⟩=some v)∧∀ j,w.frozen? ⟨g,j,none⟩=false
abbrev StPut (w:World) (g o:Nat) (s:StI):World:=(((((w.setCell ⟨g,o,none⟩ (.int .i64 s.k)).setCell ⟨g,o+1,none⟩ (.int .i64 s.e)).setCell ⟨g,o+2,none⟩ (.int .i64 s.f)).setCell ⟨g,o+3,none⟩ (.int .i64 s.s)).setCell ⟨g,o+4,none⟩ (.int .i64 s.n))
theorem qO3 (w:World) (g o:Nat) (s:StI) (a:Addr) (h:∀ j,j < 5 → a ≠ ⟨g,o+j,none⟩):(StPut w g o s).cell? a=w.cell? a:=by
 rw [World.cell?_setCell_other (h:=Ne.symm (h 4 (by omega))),World.cell?_setCell_other (h:=Ne.symm (h 3 (by omega))),World.cell?_setCell_other (h:=Ne.symm (h 2 (by omega))),World.cell?_setCell_other (h:=Ne.symm (h 1 (by omega))),World.cell?_setCell_other (h:=Ne.symm (a:=a) (b:=⟨g,o,none⟩) (by simpa using h 0 (by omega)))]
theorem StPut_at (w:World) (g o:Nat) (s:StI) (h:∀ j,j < 5 → ∃ v,w.cell? ⟨g,o+j,none⟩=some v):qS1 (StPut w g o s) g o s:=by
 obtain ⟨v0,h0⟩:=h 0 (by omega)
 obtain ⟨v1,h1⟩:=h 1 (by omega)
 obtain ⟨v2,h2⟩:=h 2 (by omega)
 obtain ⟨v3,h3⟩:=h 3 (by omega)
 obtain ⟨v4,h4⟩:=h 4 (by omega)
 rw [Nat.add_zero] at h0
 refine ⟨?_,?_,?_,?_,?_⟩ <;> simp [go_sem,h0,h1,h2,h3,h4]
theorem StPut_room {w:World} {g n k:Nat} {zs:List StI} {s:StI} (hroom:qJ2 w g n) (hd:qZ0 w g (zs.take k)) (hs:zs[k]? = some s) (hk:k < n) :
  qJ2 (StPut w g (k * 5) s) g n∧qZ0 (StPut w g (k * 5) s) g (zs.take (k+1)):=by
 have hr:=StPut_at w g (k * 5) s (fun j hj=>hroom.1 (k * 5+j) (by omega))
 refine ⟨⟨fun j hj=>?_,fun j=>?_⟩,fun i r e=>?_⟩
 ·by_cases h:k * 5≤j∧j < k * 5+5
  ·have hj':j=k * 5 ∨ j=k * 5+1 ∨ j=k * 5+2 ∨ j=k * 5+3 ∨ j=k * 5+4:=by omega
   obtain ⟨h0,h1,h2,h3,h4⟩:=hr
   rcases hj' with rfl | rfl | rfl | rfl | rfl
   ·exact ⟨_,h0⟩
   ·exact ⟨_,h1⟩
   ·exact ⟨_,h2⟩
   ·exact ⟨_,h3⟩
   ·exact ⟨_,h4⟩
  ·rw [qO3 w g (k * 5) s ⟨g,j,none⟩ (fun i hi e=>by have e2:=congrArg Addr.off e;simp only at e2;omega)]
   exact hroom.1 j hj
 ·simp only [World.frozen?_setCell]
  exact hroom.2 j
 ·rw [List.getElem?_take] at e
  split at e
  ·by_cases hik:i=k
   ·subst hik
    rw [hs] at e
    cases e
    exact hr
   ·have hi:i < k:=by omega
    have h1:=hd i r (by rw [List.getElem?_take,if_pos hi];exact e)
    obtain ⟨h0,h1,h2,h3,h4⟩:=h1
    refine ⟨?_,?_,?_,?_,?_⟩
    ·rw [qO3 w g (k * 5) s ⟨g,i * 5,none⟩ (fun j hj e=>by have e2:=congrArg Addr.off e;simp only at e2;omega)];exact h0
    ·rw [qO3 w g (k * 5) s ⟨g,i * 5+1,none⟩ (fun j hj e=>by have e2:=congrArg Addr.off e;simp only at e2;omega)];exact h1
    ·rw [qO3 w g (k * 5) s ⟨g,i * 5+2,none⟩ (fun j hj e=>by have e2:=congrArg Addr.off e;simp only at e2;omega)];exact h2
    ·rw [qO3 w g (k * 5) s ⟨g,i * 5+3,none⟩ (fun j hj e=>by have e2:=congrArg Addr.off e;simp only at e2;omega)];exact h3
    ·rw [qO3 w g (k * 5) s ⟨g,i * 5+4,none⟩ (fun j hj e=>by have e2:=congrArg Addr.off e;simp only at e2;omega)];exact h4
  ·cases e
theorem StPut_below {w0 w:World} {B g o:Nat} (h:Below B w0 w) (hg:B≤g) (s:StI):Below B w0 (StPut w g o s) :=
 h.setCell hg _ |>.setCell hg _ |>.setCell hg _ |>.setCell hg _ |>.setCell hg _
theorem Tryz.info45:(Tryz.prog.info? 45).map (fun i=>(i.zero,i.size,i.bytes))=some (some (.agg #[.int .i64 0,.int .i64 0,.int .i64 0,.int .i64 0,.int .i64 0]),5,40):=by kernel_rfl
theorem QS0 (x:StI) (w:World):Calls Tryz.prog 17 #[.agg #[.int .i64 x.k,.int .i64 x.e,.int .i64 x.f,.int .i64 x.s,.int .i64 x.n]] w fun e w'=>e = .returned (.agg #[.int .i64 x.k,.int .i64 x.e,.int .i64 x.f,.int .i64 x.s,.int .i64 x.n])∧Below w.heap.size w w':=by
 go_enter Tryz.func17,Tryz.ntmps17
 go_wp2
 go_returns
 exact ⟨rfl,by go_grown⟩
theorem QE3 (a:Option Addr) (n cap:Nat) (zs:List StI) (w:World) (hn:n≤1048576) (h:qL9 w a n zs) :
  Calls Tryz.prog 34 #[.slice a n cap] w fun e w'=>e = .returned (.slice (some ⟨w.heap.size,0,none⟩) n n)∧qZ0 w' w.heap.size zs∧w.heap.size < w'.heap.size∧Below w.heap.size w w'∧qJ2 w' w.heap.size n:=by
 obtain ⟨i0,hi,hz0,hz1,hz2⟩:=info_parts Tryz.info45
 obtain ⟨wm,hmk,hownm,hgrm⟩:=run_make_full (P:=Tryz.prog) (w:=w) w.heap.size 30 45 i0 (.agg #[.int .i64 0,.int .i64 0,.int .i64 0,.int .i64 0,.int .i64 0]) 5 Tryz.underlying30 hi hz0 hz1 .i64 .i64 n (by rw [hz2];omega) (by unfold maxLen;omega) (Nat.le_refl _)
 have H:Hid (qL9 w a n zs):=h
 have hz:Hid (zs.length=n):=h.1
 clear h
 have HM:Hid (qJ2 wm w.heap.size n∧w.heap.size < wm.heap.size):=by
  refine ⟨⟨fun j hj=>?_,fun j=>hownm.frozenAt j⟩,(hownm.lt _ rfl).2⟩
  have hl:=hownm.1
  exact ⟨_,(hownm.cellAt j hj).trans (List.getElem?_eq_getElem (by omega))⟩
 clear hownm
 have HG:Hid (w.grownBy wm none):=hgrm
 clear hgrm
 have hn':(n:Int)≤1048576:=by omega
 go_enter Tryz.func34,Tryz.ntmps34
 go_wp2
 go_loopw [4] (fun i wr=>∃ k:Nat,k≤n∧i = .int .i64 (k:Int)∧qJ2 wr w.heap.size n∧qZ0 wr w.heap.size (zs.take k)∧w.heap.size < wr.heap.size∧Below w.heap.size w wr)
  (fun i _=>n - (intOf i).toNat)
 case atStart=>exact ⟨0,Nat.zero_le _,rfl,HM.out.1,fun k r e=>by simp at e,HM.out.2,(Below.refl _ _).grown HG.out (Nat.le_refl _) (fun k e=>by cases e)⟩
 case round =>
  obtain ⟨k,hk,rfl,hroom,hdone,hlt0,hnx⟩:=hrel
  by_cases hlt:k < n
  ·obtain ⟨b,off,s,rfl,hs,hr,hb⟩:=H.out.at hlt
   have HS:Hid (zs[k]? = some s):=hs
   clear hs
   obtain ⟨h0,h1,h2,h3,h4⟩:=hr.below hnx hb
   have HD:Hid (qJ2 wr w.heap.size n∧qZ0 wr w.heap.size (zs.take k)):=⟨hroom,hdone⟩
   clear hroom hdone hr
   have hlt':(k:Int) < (n:Int):=by omega
   go_wp2_with fail
   refine (QS0 s _).mono ?_
   rintro e w1 ⟨rfl,hb1⟩
   obtain ⟨⟨hc,hf⟩,hd⟩:=HD.out
   have hz1:=hb1.size
   have HD1:Hid (qJ2 w1 w.heap.size n∧qZ0 w1 w.heap.size (zs.take k)∧Below w.heap.size w w1) :=
    ⟨⟨fun j hj=>by obtain ⟨v,e⟩:=hc j hj;exact ⟨v,(hb1.cell (p:=⟨w.heap.size,j,none⟩) hlt0).trans e⟩,fun j=>(hb1.frozen (p:=⟨w.heap.size,j,none⟩) hlt0).trans (hf j)⟩,hd.below hb1,hnx.trans (hb1.mono hnx.size)⟩
   clear hc hf hd HD h0 h1 h2 h3 h4
   obtain ⟨v0,c0⟩:=HD1.out.1.1 (k * 5) (by omega)
   obtain ⟨v1,c1⟩:=HD1.out.1.1 (k * 5+1) (by omega)
   obtain ⟨v2,c2⟩:=HD1.out.1.1 (k * 5+2) (by omega)
   obtain ⟨v3,c3⟩:=HD1.out.1.1 (k * 5+3) (by omega)
   obtain ⟨v4,c4⟩:=HD1.out.1.1 (k * 5+4) (by omega)
   have f0:=HD1.out.1.2 (k * 5)
   have f1:=HD1.out.1.2 (k * 5+1)
   have f2:=HD1.out.1.2 (k * 5+2)
   have f3:=HD1.out.1.2 (k * 5+3)
   have f4:=HD1.out.1.2 (k * 5+4)
   have RM:Hid (qJ2 (StPut w1 w.heap.size (k * 5) s) w.heap.size n∧qZ0 (StPut w1 w.heap.size (k * 5) s) w.heap.size (zs.take (k+1))∧Below w.heap.size w (StPut w1 w.heap.size (k * 5) s)):=by
    have h2:=StPut_room HD1.out.1 HD1.out.2.1 HS.out hlt
    exact ⟨h2.1,h2.2,StPut_below HD1.out.2.2 (Nat.le_refl _) s⟩
   go_wp2
   exact ⟨⟨k+1,by omega,by go_num,RM.out.1,RM.out.2.1,by simp only [World.size_setCell];omega,RM.out.2.2⟩,by simp [intOf];omega⟩
  ·have hkn:k=n:=by omega
   subst hkn
   rw [List.take_of_length_le (by rw [hz.out];exact Nat.le_refl _)] at hdone
   go_wp2
   go_ret
   exact ⟨rfl,hdone,hlt0,hnx,hroom⟩
theorem QG9 (x:StI) (w:World) :
  Calls Tryz.prog 66 #[.agg #[.int .i64 x.k,.int .i64 x.e,.int .i64 x.f,.int .i64 x.s,.int .i64 x.n],.agg #[.int .i64 x.k,.int .i64 x.e,.int .i64 x.f,.int .i64 x.s,.int .i64 x.n]] w fun e w'=>e = .returned (.bool true)∧Below w.heap.size w w':=by
 go_enter Tryz.func66,Tryz.ntmps66
 go_wp2
 go_ret
 exact ⟨rfl,by go_grown⟩
theorem QF0 (a b:Option Addr) (n c d:Nat) (zs:List StI) (w:World) (hn:n≤1048576) (ha:qL9 w a n zs) (hb:qL9 w b n zs) :
  Calls Tryz.prog 38 #[.slice a n c,.slice b n d] w fun e w'=>e = .returned (.bool true)∧Below w.heap.size w w':=by
 have HA:Hid (qL9 w a n zs):=ha
 have HB:Hid (qL9 w b n zs):=hb
 clear ha hb
 have hn':(n:Int)≤1048576:=by omega
 go_enter Tryz.func38,Tryz.ntmps38
 go_wp2
 go_loopw [5] (fun i wr=>∃ k:Nat,k≤n∧i = .int .i64 (k:Int)∧Below w.heap.size w wr) (fun i _=>n - (intOf i).toNat)
 case atStart=>exact ⟨0,Nat.zero_le _,rfl,Below.refl _ _⟩
 case round =>
  obtain ⟨k,hk,rfl,hnx⟩:=hrel
  by_cases hlt:k < n
  ·obtain ⟨b1,o1,s,e1,hs,hr,hl1⟩:=HA.out.at hlt
   obtain ⟨b2,o2,s2,e2,hs2,hr2,hl2⟩:=HB.out.at hlt
   obtain rfl:s=s2:=Option.some.inj (hs.symm.trans hs2)
   subst e1 e2
   clear hs hs2
   obtain ⟨h0,h1,h2,h3,h4⟩:=hr.below hnx hl1
   obtain ⟨g0,g1,g2,g3,g4⟩:=hr2.below hnx hl2
   clear hr hr2
   have hlt':(k:Int) < (n:Int):=by omega
   have hb1:b1 < wr.heap.size:=zL wr ⟨b1,o1+k * 5,none⟩ h0
   have hb2:b2 < wr.heap.size:=zL wr ⟨b2,o2+k * 5,none⟩ g0
   go_wp2
   go_region_held3 (fun w'=>(∀ b o,b < wr.heap.size → w'.cell? ⟨b,o,none⟩=wr.cell? ⟨b,o,none⟩)∧Below wr.heap.size wr w') (first | exact hS | exact qB6 _)
    (first | (go_at_call 66;refine (QG9 s _).mono ?_;rintro e w' ⟨rfl,hb1⟩;have hS:=qA8 (by assumption) hb1))
   go_wp2
   exact ⟨⟨k+1,by omega,by go_num,hnx.trans (hS.2.mono hnx.size)⟩,by simp [intOf];omega⟩
  ·have hkn:k=n:=by omega
   subst hkn
   go_wp2
   go_ret
   exact ⟨rfl,hnx⟩

def swT (k:Int):ByteArray:=if k=1 then ⟨#[105,115,115,117,101]⟩ else if k=2 then ⟨#[114,101,118,111,107,101]⟩ else if k=3 then ⟨#[110,101,120,116]⟩ else if k=4 then ⟨#[116,97,107,101]⟩ else ⟨#[]⟩
def QG8 (k:Int):Bool:=decide (k=1) || decide (k=2)
def ownI (x:StI):StI:=if QG8 x.k=true then ⟨x.k,x.e,x.f,x.s,0⟩ else ⟨x.k,x.e,0,0,x.n⟩
def qO8 (x y:StI):Bool:=decide (x=y)
def ownB (x:StI):Bool:=qO8 x (ownI x)
def rngB (x:StI):Bool:=if inR x.e 1 9=false then false else if QG8 x.k=true then (if inR x.f 1 4=false then false else inR x.s 1 255) else inR x.n 0 7
def qC2 (x:StI):Int:=if inR x.k 1 4=false then 1 else if ownB x=false then 1 else if rngB x=false then 3 else 0
theorem QW8 (k:Int) (w:World):Calls Tryz.prog 102 #[.int .i64 k] w fun e w'=>e = .returned (.string (swT k))∧w=w':=by
 unfold swT
 by_cases h1:k=1
 ·subst h1;go_enter Tryz.func102,Tryz.ntmps102;go_wp2;go_ret;exact ⟨rfl,rfl⟩
 by_cases h2:k=2
 ·subst h2;go_enter Tryz.func102,Tryz.ntmps102;go_wp2;go_ret;exact ⟨rfl,rfl⟩
 by_cases h3:k=3
 ·subst h3;go_enter Tryz.func102,Tryz.ntmps102;go_wp2;go_ret;exact ⟨rfl,rfl⟩
 by_cases h4:k=4
 ·subst h4;go_enter Tryz.func102,Tryz.ntmps102;go_wp2;go_ret;exact ⟨rfl,rfl⟩
 rw [if_neg h1,if_neg h2,if_neg h3,if_neg h4]
 go_enter Tryz.func102,Tryz.ntmps102;go_wp2;go_ret;exact ⟨rfl,rfl⟩
theorem byteNe_of {a b:ByteArray} (h:a ≠ b):(a.toList == b.toList)=false:=by
 rw [beq_eq_false_iff_ne]
 intro e
 rw [ByteArray.toList_eq,ByteArray.toList_eq] at e
 exact h (WideShapes.bytes_inj e)
theorem sw_in {k:Int} (h:inR k 1 4=true):swT k ≠ ⟨#[]⟩:=by
 rw [qG4] at h
 have : k=1 ∨ k=2 ∨ k=3 ∨ k=4:=by omega
 rcases this with rfl | rfl | rfl | rfl <;> (intro e;have:=congrArg (fun b:ByteArray=>b.data.size) e;simp [swT] at this)
theorem sw_out {k:Int} (h:inR k 1 4=false):swT k=⟨#[]⟩:=by
 have h':¬ (1≤k∧k≤4):=fun q=>by rw [← qG4,h] at q;cases q
 unfold swT
 rw [if_neg (by omega),if_neg (by omega),if_neg (by omega),if_neg (by omega)]
theorem qU5 (k:Int) (w:World):Calls Tryz.prog 130 #[.int .i64 k] w fun e w'=>e = .returned (.bool (QG8 k))∧w=w':=by
 unfold QG8
 by_cases h1:k=1
 ·subst h1;go_enter Tryz.func130,Tryz.ntmps130;go_wp2;go_ret;exact ⟨rfl,rfl⟩
 by_cases h2:k=2
 ·subst h2;go_enter Tryz.func130,Tryz.ntmps130;go_wp2;go_ret;exact ⟨rfl,rfl⟩
 go_enter Tryz.func130,Tryz.ntmps130;go_wp2;go_ret;exact ⟨by simp [h1,h2],rfl⟩
theorem isNext_c (v:Int) (w:World):Calls Tryz.prog 134 #[.int .i64 v] w fun e w'=>e = .returned (.bool (inR v 0 7))∧w=w':=by
 unfold inR
 cases h0:decide (0≤v)
 ·go_enter Tryz.func134,Tryz.ntmps134
  go_wp2
  go_ret
  exact ⟨by simp,rfl⟩
 ·cases h1:decide (v≤7)
  all_goals
   go_enter Tryz.func134,Tryz.ntmps134
   go_wp2
   go_ret
   exact ⟨by simp,rfl⟩
def qT5 (v:Int):Int:=if inR v 0 255=true then 0 else 3
theorem iSetFault_c (v:Int) (w:World):Calls Tryz.prog 133 #[.int .i64 v] w fun e w'=>e = .returned (.int .i64 (qT5 v))∧w=w':=by
 by_cases q0:0≤v
 ·by_cases q1:v < 256
  ·have e0:qT5 v=0:=by unfold qT5;rw [if_pos ((qG4 _ _ _).2 ⟨by omega,by omega⟩)]
   rw [e0]
   clear e0
   go_enter Tryz.func133,Tryz.ntmps133
   go_wp2
   go_ret
   exact ⟨rfl,rfl⟩
  ·have e0:qT5 v=3:=by unfold qT5;rw [if_neg (fun h=>by rw [qG4] at h;omega)]
   rw [e0]
   clear e0
   have q2:(256:Int)≤v:=by omega
   go_enter Tryz.func133,Tryz.ntmps133
   go_wp2
   go_ret
   exact ⟨rfl,rfl⟩
 ·have e0:qT5 v=3:=by unfold qT5;rw [if_neg (fun h=>by rw [qG4] at h;omega)]
  rw [e0]
  clear e0
  have q2:v < (0:Int):=by omega
  go_enter Tryz.func133,Tryz.ntmps133
  go_wp2
  go_ret
  exact ⟨rfl,rfl⟩
theorem own_c (x:StI) (w:World):Calls Tryz.prog 103 #[.agg #[.int .i64 x.k,.int .i64 x.e,.int .i64 x.f,.int .i64 x.s,.int .i64 x.n]] w fun e w'=>e = .returned (.agg #[.int .i64 (ownI x).k,.int .i64 (ownI x).e,.int .i64 (ownI x).f,.int .i64 (ownI x).s,.int .i64 (ownI x).n])∧Below w.heap.size w w':=by
 unfold ownI
 cases hk:QG8 x.k
 all_goals
  go_enter Tryz.func103,Tryz.ntmps103
  go_wp2_with (go_at_call 130;refine (qU5 _ _).mono ?_;rintro e w' ⟨rfl,rfl⟩;rw [hk])
  go_returns
  exact ⟨rfl,by go_grown⟩
theorem sameSt_mk (a0 a1 a2 a3 a4 b0 b1 b2 b3 b4:Int):qO8 ⟨a0,a1,a2,a3,a4⟩ ⟨b0,b1,b2,b3,b4⟩=(a0 == b0 && a1 == b1 && a2 == b2 && a3 == b3 && a4 == b4):=by
 unfold qO8
 rw [Bool.eq_iff_iff]
 simp only [decide_eq_true_eq,StI.mk.injEq,Bool.and_eq_true,beq_iff_eq]
 constructor
 ·rintro ⟨h0,h1,h2,h3,h4⟩;exact ⟨⟨⟨⟨h0,h1⟩,h2⟩,h3⟩,h4⟩
 ·rintro ⟨⟨⟨⟨h0,h1⟩,h2⟩,h3⟩,h4⟩;exact ⟨h0,h1,h2,h3,h4⟩
theorem st_eql (x y:StI) (w:World):(binOp .eql 45 (.agg #[.int .i64 x.k,.int .i64 x.e,.int .i64 x.f,.int .i64 x.s,.int .i64 x.n]) (.agg #[.int .i64 y.k,.int .i64 y.e,.int .i64 y.f,.int .i64 y.s,.int .i64 y.n])).run Tryz.prog w = .ok (.bool (qO8 x y)) w:=by
 obtain ⟨a0,a1,a2,a3,a4⟩:=x
 obtain ⟨b0,b1,b2,b3,b4⟩:=y
 simp only
 rw [sameSt_mk]
 cases e0:(a0 == b0)
 ·simp [go_sem,e0]
 cases e1:(a1 == b1)
 ·simp [go_sem,e0,e1]
 cases e2:(a2 == b2)
 ·simp [go_sem,e0,e1,e2]
 cases e3:(a3 == b3)
 ·simp [go_sem,e0,e1,e2,e3]
 cases e4:(a4 == b4)
 ·simp [go_sem,e0,e1,e2,e3,e4]
 ·simp [go_sem,e0,e1,e2,e3,e4]

def qQ4 (said:List StI) (k e:Int):Bool:=said.any (fun x=>decide (x.k=k) && decide (x.e=e))
def qI0 (said:List StI) (k e:Int):Option StI:=said.find? (fun x=>decide (x.k=k) && decide (x.e=e))
def qT7 (said:List StI) (e:Int):Bool:=qQ4 said 3 e || qQ4 said 4 e
def qS4 (x:StI):StI:=⟨2,x.e,x.f,x.s,0⟩
def qD5 (said:List StI) (x:StI):Bool:=said.any (fun y=>qO8 y x)
theorem QX1 {said:List StI} {x:StI}:qD5 said x=true ↔ x ∈ said:=by
 unfold qD5 qO8
 rw [List.any_eq_true]
 constructor
 ·rintro ⟨y,hy,h⟩
  have : y=x:=of_decide_eq_true h
  subst this;exact hy
 ·intro h
  exact ⟨x,h,decide_eq_true rfl⟩
theorem QB5 {said:List StI} {j:Nat} {x:StI} (h:said[j]? = some x) (k e:Int):qI0 (said.drop j) k e=if x.k=k∧x.e=e then some x else qI0 (said.drop (j+1)) k e:=by
 have hl:j < said.length:=by
  by_cases q:j < said.length
  ·exact q
  ·rw [List.getElem?_eq_none (by omega)] at h;cases h
 rw [List.getElem?_eq_getElem hl] at h
 rw [List.drop_eq_getElem_cons hl,Option.some.inj h]
 unfold qI0
 rw [List.find?_cons]
 by_cases q:x.k=k∧x.e=e
 ·rw [if_pos q];simp [q.1,q.2]
 ·rw [if_neg q]
  have : (decide (x.k=k) && decide (x.e=e))=false:=by
   rw [Bool.and_eq_false_iff]
   by_cases q1:x.k=k
   ·exact .inr (decide_eq_false (fun q2=>q ⟨q1,q2⟩))
   ·exact .inl (decide_eq_false q1)
  rw [this]
theorem kindB_at (said:List StI) (k e:Int):qQ4 said k e=(qI0 said k e).isSome:=by
 unfold qQ4 qI0
 induction said with
 | nil=>rfl
 | cons x r ih =>
  rw [List.any_cons,List.find?_cons]
  cases (decide (x.k=k) && decide (x.e=e))
  ·simpa using ih
  ·simp
theorem saidB_drop {said:List StI} {j:Nat} {x:StI} (h:said[j]? = some x) (y:StI):qD5 (said.drop j) y=(qO8 x y || qD5 (said.drop (j+1)) y):=by
 have hl:j < said.length:=by
  by_cases q:j < said.length
  ·exact q
  ·rw [List.getElem?_eq_none (by omega)] at h;cases h
 rw [List.getElem?_eq_getElem hl] at h
 rw [List.drop_eq_getElem_cons hl,Option.some.inj h]
 unfold qD5
 rw [List.any_cons]

def qC3:List StI → List Value
 | []=>[]
 | p :: ps => .int .i64 p.k :: .int .i64 p.e :: .int .i64 p.f :: .int .i64 p.s :: .int .i64 p.n :: qC3 ps
theorem qN1 (a b:List StI):qC3 (a ++ b)=qC3 a ++ qC3 b:=by
 induction a with
 | nil=>rfl
 | cons p ps ih=>simp [qC3,ih]
theorem qZ9 (a:List StI):(qC3 a).length=a.length * 5:=by
 induction a with
 | nil=>rfl
 | cons p ps ih=>simp [qC3,ih];omega
theorem QM3:∀ (a:List StI) (k:Nat) (p:StI),a[k]? = some p → (qC3 a)[k * 5]? = some (.int .i64 p.k)∧(qC3 a)[k * 5+1]? = some (.int .i64 p.e)∧(qC3 a)[k * 5+2]? = some (.int .i64 p.f)∧(qC3 a)[k * 5+3]? = some (.int .i64 p.s)∧(qC3 a)[k * 5+4]? = some (.int .i64 p.n)
 | [],_,_,h=>by simp at h
 | q :: qs,0,p,h=>by simp at h;subst h;exact ⟨rfl,rfl,rfl,rfl,rfl⟩
 | q :: qs,k+1,p,h=>by
  have:=QM3 qs k p (by simpa using h)
  rw [show (k+1) * 5=k * 5+1+1+1+1+1 by omega,show k * 5+1+1+1+1+1+1=(k * 5+1)+1+1+1+1+1 by omega,show k * 5+1+1+1+1+1+2=(k * 5+2)+1+1+1+1+1 by omega,show k * 5+1+1+1+1+1+3=(k * 5+3)+1+1+1+1+1 by omega,show k * 5+1+1+1+1+1+4=(k * 5+4)+1+1+1+1+1 by omega]
  simpa [qC3] using this
theorem qO1 (a:List StI):∀ u ∈ qC3 a,u.oneCell'=true:=by
 induction a with
 | nil=>simp [qC3]
 | cons p ps ih =>
  intro u hu
  simp only [qC3,List.mem_cons] at hu
  rcases hu with rfl | rfl | rfl | rfl | rfl | hu
  ·rfl
  ·rfl
  ·rfl
  ·rfl
  ·rfl
  ·exact ih u hu
def qB1 (w:World) (B:Nat) (v:Value) (gs:List StI):Prop:=w.ownsRow B 45 5 v gs.length (qC3 gs)
theorem qB1.shape {w:World} {B:Nat} {v:Value} {gs:List StI} (h:qB1 w B v gs) (hv:v ≠ .slice none 0 0):∃ g cap,v = .slice (some ⟨g,0,none⟩) gs.length cap:=by
 have h0:w.ownsRow B 45 5 v gs.length (qC3 gs):=h
 rcases h0.2 with ⟨h',_⟩ | ⟨g,cap,cur,h',_⟩
 ·exact absurd h' hv
 ·exact ⟨g,cap,h'⟩
theorem qB1.below {w w':World} {B:Nat} {v:Value} {gs:List StI} (h:qB1 w B v gs) (hb:Below w.heap.size w w'):qB1 w' B v gs :=
 World.ownsRow.kept (row:=none) h ⟨hb.os,hb.tape,hb.output,hb.size,fun k hk _=>hb.block k hk⟩ (by cases v.ownBlock <;> simp)
theorem qC4 {w:World} {B B':Nat} {v:Value} {gs:List StI} (h:qB1 w B v gs) (hb:B'≤B):qB1 w B' v gs:=by
 have h0:w.ownsRow B 45 5 v gs.length (qC3 gs):=h
 refine ⟨h0.1,?_⟩
 rcases h0.2 with h' | ⟨g,cap,cur,e,hg,rest⟩
 ·exact .inl h'
 ·exact .inr ⟨g,cap,cur,e,Nat.le_trans hb hg,rest⟩
theorem QQ1 {w:World} {B:Nat} {v:Value} {es:List StI} {x:StI} (h:w.ownsRow B 45 5 v (es.length+1) (qC3 es ++ [.int .i64 x.k,.int .i64 x.e,.int .i64 x.f,.int .i64 x.s,.int .i64 x.n])):qB1 w B v (es ++ [x]):=by
 unfold qB1
 rw [List.length_append,qN1]
 exact h
theorem ownSt_grown {w1 Z w':World} {B:Nat} {v:Value} {es:List StI} (ho:qB1 Z B v es) (hb:Below B w1 Z) (hg:Z.grownBy w' v.ownBlock) (hB:B≤Z.heap.size):Below B w1 w':=by
 have h0:Z.ownsRow B 45 5 v es.length (qC3 es):=ho
 exact hb.grown hg hB (fun j hj=>(h0.lt j hj).1)
def StV (w:World) (a:Option Addr) (zs:List StI):Prop:=∀ k p,zs[k]? = some p → ∃ g,a=some ⟨g,0,none⟩∧qS1 w g (k * 5) p
theorem StV.below {w w':World} {a:Option Addr} {zs:List StI} (h:StV w a zs) (hb:Below w.heap.size w w'):StV w' a zs:=fun k p e=>by
 obtain ⟨g,ha,h1⟩:=h k p e
 exact ⟨g,ha,h1.below hb (zL w ⟨g,k * 5,none⟩ h1.1)⟩
theorem StV.isIn {w:World} {a:Option Addr} {n:Nat} {zs:List StI} (hn:zs.length=n) (h:StV w a zs):qL9 w a n zs:=by
 refine ⟨hn,fun hp=>?_⟩
 obtain ⟨g,ha,_⟩:=h 0 _ (List.getElem?_eq_getElem (by omega))
 refine ⟨g,0,ha,fun k x e=>?_⟩
 obtain ⟨g',ha',hx⟩:=h k x e
 rw [ha] at ha'
 cases ha'
 rw [Nat.zero_add]
 exact hx
theorem qB1.view {w:World} {B:Nat} {a:Option Addr} {n cap:Nat} {zs:List StI} (h:qB1 w B (.slice a n cap) zs):StV w a zs:=by
 intro k p e
 have hk:k < zs.length:=by
  by_cases q:k < zs.length
  ·exact q
  ·rw [List.getElem?_eq_none (by omega)] at e;cases e
 have h0:w.ownsRow B 45 5 (.slice a n cap) zs.length (qC3 zs):=h
 rcases h0.2 with ⟨h',h''⟩ | ⟨g,cap',cur,h',_⟩
 ·omega
 ·simp at h'
  obtain ⟨rfl,rfl,rfl⟩:=h'
  obtain ⟨f0,f1,f2,f3,f4⟩:=QM3 zs k p e
  exact ⟨g,rfl,(h0.cellAt (k * 5) (by omega)).trans f0,(h0.cellAt (k * 5+1) (by omega)).trans f1,(h0.cellAt (k * 5+2) (by omega)).trans f2,(h0.cellAt (k * 5+3) (by omega)).trans f3,(h0.cellAt (k * 5+4) (by omega)).trans f4⟩
theorem qB1.form {w:World} {B:Nat} {v:Value} {zs:List StI} (h:qB1 w B v zs):(v = .slice none 0 0∧zs=[]) ∨ ∃ g cap,v = .slice (some ⟨g,0,none⟩) zs.length cap∧B≤g∧g < w.heap.size∧zs.length≤cap∧cap≤maxLen:=by
 have h0:w.ownsRow B 45 5 v zs.length (qC3 zs):=h
 rcases h0.2 with ⟨h',h''⟩ | ⟨g,cap',cur,h',hb,hg,hc,hm,_⟩
 ·exact .inl ⟨h',List.length_eq_zero_iff.1 h''⟩
 ·exact .inr ⟨g,cap',h',hb,(Array.getElem?_eq_some_iff.1 hg).1,hc,hm⟩
def QO0 (n:Nat):List StI:=(List.range n).map fun j=>(⟨((1+5 * j:Nat):Int),((2+5 * j:Nat):Int),((3+5 * j:Nat):Int),((4+5 * j:Nat):Int),((5+5 * j:Nat):Int)⟩:StI)
theorem mkSt_len (n:Nat):(QO0 n).length=n:=by simp [QO0]
theorem mkSt_at (n j:Nat) (h:j < n):(QO0 n)[j]? = some (⟨((1+5 * j:Nat):Int),((2+5 * j:Nat):Int),((3+5 * j:Nat):Int),((4+5 * j:Nat):Int),((5+5 * j:Nat):Int)⟩:StI):=by simp [QO0,h]
theorem flatSt_set (a:List StI) (k:Nat) (p:StI):qC3 (a.set k p)=((((((qC3 a).set (k * 5) (.int .i64 p.k)).set (k * 5+1) (.int .i64 p.e)).set (k * 5+2) (.int .i64 p.f)).set (k * 5+3) (.int .i64 p.s)).set (k * 5+4) (.int .i64 p.n)):=by
 induction a generalizing k with
 | nil=>simp [qC3]
 | cons q qs ih =>
  cases k with
  | zero=>simp [qC3]
  | succ k =>
   rw [show (k+1) * 5=k * 5+1+1+1+1+1 by omega]
   simp [qC3,ih]
theorem qB1.put {w:World} {B g cap:Nat} {zs:List StI} {n:Nat} (hn:n=zs.length) (h:qB1 w B (.slice (some ⟨g,0,none⟩) n cap) zs) (j:Nat) (p:StI) :
  qB1 (((((w.setCell ⟨g,j * 5,none⟩ (.int .i64 p.k)).setCell ⟨g,j * 5+1,none⟩ (.int .i64 p.e)).setCell ⟨g,j * 5+2,none⟩ (.int .i64 p.f)).setCell ⟨g,j * 5+3,none⟩ (.int .i64 p.s)).setCell ⟨g,j * 5+4,none⟩ (.int .i64 p.n)) B (.slice (some ⟨g,0,none⟩) n cap) (zs.set j p)∧w.grownBy (((((w.setCell ⟨g,j * 5,none⟩ (.int .i64 p.k)).setCell ⟨g,j * 5+1,none⟩ (.int .i64 p.e)).setCell ⟨g,j * 5+2,none⟩ (.int .i64 p.f)).setCell ⟨g,j * 5+3,none⟩ (.int .i64 p.s)).setCell ⟨g,j * 5+4,none⟩ (.int .i64 p.n)) (some g):=by
 subst hn
 have h0:w.ownsRow B 45 5 (.slice (some ⟨g,0,none⟩) zs.length cap) zs.length (qC3 zs):=h
 have h1:=h0.stored (j * 5) (.int .i64 p.k)
 have h2:=h1.1.stored (j * 5+1) (.int .i64 p.e)
 have h3:=h2.1.stored (j * 5+2) (.int .i64 p.f)
 have h4:=h3.1.stored (j * 5+3) (.int .i64 p.s)
 have h5:=h4.1.stored (j * 5+4) (.int .i64 p.n)
 refine ⟨?_,qF3 (qF3 (qF3 (qF3 h1.2 h2.2) h3.2) h4.2) h5.2⟩
 show World.ownsRow _ B 45 5 _ (zs.set j p).length (qC3 (zs.set j p))
 rw [flatSt_set,List.length_set]
 exact h5.1
theorem qB1.cell {w:World} {B g cap:Nat} {zs:List StI} {n:Nat} (hn:n=zs.length) (h:qB1 w B (.slice (some ⟨g,0,none⟩) n cap) zs) (j:Nat) (hj:j < n * 5):(∃ v,w.cell? ⟨g,j,none⟩=some v)∧w.frozen? ⟨g,j,none⟩=false:=by
 subst hn
 have h0:w.ownsRow B 45 5 (.slice (some ⟨g,0,none⟩) zs.length cap) zs.length (qC3 zs):=h
 exact ⟨⟨_,(h0.cellAt j hj).trans (List.getElem?_eq_getElem (by rw [qZ9];exact hj))⟩,h0.frozenAt j⟩
theorem QG5 (B:Nat) (a:Option Addr) (n cap:Nat) (zs:List StI) (w:World) (hz:n=zs.length) (hn:n≤1048576) (h:qB1 w B (.slice a n cap) zs) :
  Calls Tryz.prog 44 #[.slice a n cap,.int .i64 1] w fun e w'=>e = .returned (.int .i64 (1+5 * (n:Int)))∧qB1 w' B (.slice a n cap) (QO0 n)∧w.grownBy w' (Value.slice a n cap).ownBlock:=by
 have HO:Hid (qB1 w B (.slice a n cap) zs):=h
 have HZ:Hid (n=zs.length):=hz
 clear h hz
 have hn':(n:Int)≤1048576:=by omega
 go_enter Tryz.func44,Tryz.ntmps44
 go_wp2
 go_loopw [1,5] (fun q i wr=>∃ (j:Nat) (es:List StI),j≤n∧i = .int .i64 (j:Int)∧q = .int .i64 (1+5 * (j:Int))∧n=es.length∧qB1 wr B (.slice a n cap) es∧(∀ m,m < j → es[m]? = some (⟨((1+5 * m:Nat):Int),((2+5 * m:Nat):Int),((3+5 * m:Nat):Int),((4+5 * m:Nat):Int),((5+5 * m:Nat):Int)⟩:StI))∧w.grownBy wr (Value.slice a n cap).ownBlock)
  (fun _ i _=>n - (intOf i).toNat)
 case atStart=>exact ⟨0,zs,Nat.zero_le _,rfl,rfl,HZ.out,HO.out,fun m hm=>by omega,qM2 _ _⟩
 case round =>
  obtain ⟨j,es,hj,rfl,rfl,hes,hown,hys,hgr⟩:=hrel
  have HE:Hid (n=es.length):=hes
  clear hes
  by_cases hlt:j < n
  ·obtain ⟨g,ha⟩:∃ g,a=some ⟨g,0,none⟩:=by
    rcases hown.form with ⟨h1,h2⟩ | ⟨g,cap',h1,_⟩
    ·have:=HE.out;rw [h2] at this;simp at this;omega
    ·simp at h1;exact ⟨g,h1.1⟩
   subst ha
   obtain ⟨⟨v0,c0⟩,f0⟩:=hown.cell HE.out (j * 5) (by omega)
   obtain ⟨⟨v1,c1⟩,f1⟩:=hown.cell HE.out (j * 5+1) (by omega)
   obtain ⟨⟨v2,c2⟩,f2⟩:=hown.cell HE.out (j * 5+2) (by omega)
   obtain ⟨⟨v3,c3⟩,f3⟩:=hown.cell HE.out (j * 5+3) (by omega)
   obtain ⟨⟨v4,c4⟩,f4⟩:=hown.cell HE.out (j * 5+4) (by omega)
   have hst:=hown.put HE.out j (⟨1+5 * (j:Int),1+5 * (j:Int)+1,1+5 * (j:Int)+1+1,1+5 * (j:Int)+1+1+1,1+5 * (j:Int)+1+1+1+1⟩:StI)
   have R:Hid (qB1 (((((wr.setCell ⟨g,j * 5,none⟩ (.int .i64 (1+5 * (j:Int)))).setCell ⟨g,j * 5+1,none⟩ (.int .i64 (1+5 * (j:Int)+1))).setCell ⟨g,j * 5+2,none⟩ (.int .i64 (1+5 * (j:Int)+1+1))).setCell ⟨g,j * 5+3,none⟩ (.int .i64 (1+5 * (j:Int)+1+1+1))).setCell ⟨g,j * 5+4,none⟩ (.int .i64 (1+5 * (j:Int)+1+1+1+1))) B (.slice (some ⟨g,0,none⟩) n cap) (es.set j (⟨1+5 * (j:Int),1+5 * (j:Int)+1,1+5 * (j:Int)+1+1,1+5 * (j:Int)+1+1+1,1+5 * (j:Int)+1+1+1+1⟩:StI))∧(∀ m,m < j+1 → (es.set j (⟨1+5 * (j:Int),1+5 * (j:Int)+1,1+5 * (j:Int)+1+1,1+5 * (j:Int)+1+1+1,1+5 * (j:Int)+1+1+1+1⟩:StI))[m]? = some (⟨((1+5 * m:Nat):Int),((2+5 * m:Nat):Int),((3+5 * m:Nat):Int),((4+5 * m:Nat):Int),((5+5 * m:Nat):Int)⟩:StI))∧w.grownBy (((((wr.setCell ⟨g,j * 5,none⟩ (.int .i64 (1+5 * (j:Int)))).setCell ⟨g,j * 5+1,none⟩ (.int .i64 (1+5 * (j:Int)+1))).setCell ⟨g,j * 5+2,none⟩ (.int .i64 (1+5 * (j:Int)+1+1))).setCell ⟨g,j * 5+3,none⟩ (.int .i64 (1+5 * (j:Int)+1+1+1))).setCell ⟨g,j * 5+4,none⟩ (.int .i64 (1+5 * (j:Int)+1+1+1+1))) (some g)):=by
    refine ⟨hst.1,fun m hm=>?_,qF3 hgr hst.2⟩
    have:=HE.out
    by_cases e:m=j
    ·subst e;rw [List.getElem?_set_self (by omega)];simp only [Option.some.injEq,StI.mk.injEq];omega
    ·rw [List.getElem?_set_ne (by omega)];exact hys m (by omega)
   clear hst hown hys hgr
   have hlt':(j:Int) < (n:Int):=by omega
   go_wp2
   refine ⟨⟨j+1,_,by omega,by go_num,?_,by rw [List.length_set];exact HE.out,R.out.1,R.out.2.1,R.out.2.2⟩,by simp [intOf];omega⟩
   congr 1
  ·have hjn:j=n:=by omega
   subst hjn
   have E:es=QO0 j:=by
    have:=HE.out
    apply List.ext_getElem?
    intro i
    by_cases hi:i < j
    ·rw [hys i hi,mkSt_at j i hi]
    ·rw [List.getElem?_eq_none (by omega),List.getElem?_eq_none (by rw [mkSt_len];omega)]
   rw [E] at hown
   go_wp2
   go_ret
   exact ⟨rfl,hown,hgr⟩
theorem QG7 (a:Option Addr) (n cap:Nat) (w:World) (hn:n≤1048576) (h:StV w a (QO0 n)) :
  Calls Tryz.prog 83 #[.slice a n cap,.int .i64 1] w fun e w'=>e = .returned (.int .i64 (1+5 * (n:Int)))∧w=w':=by
 have HR:Hid (StV w a (QO0 n)):=h
 clear h
 have hn':(n:Int)≤1048576:=by omega
 go_enter Tryz.func83,Tryz.ntmps83
 go_wp2
 go_loop [1,5] (fun q i=>∃ (j:Nat),j≤n∧i = .int .i64 (j:Int)∧q = .int .i64 (1+5 * (j:Int))) (fun _ i=>n - (intOf i).toNat)
 case atStart=>exact ⟨0,Nat.zero_le _,rfl,rfl⟩
 case round =>
  obtain ⟨j,hj,rfl,rfl⟩:=hrel
  by_cases hlt:j < n
  ·obtain ⟨g,ha,c0,c1,c2,c3,c4⟩:=HR.out j _ (mkSt_at n j hlt)
   subst ha
   simp only [show ((1+5 * j:Nat):Int)=1+5 * (j:Int) from by omega,show ((2+5 * j:Nat):Int)=1+5 * (j:Int)+1 from by omega,show ((3+5 * j:Nat):Int)=1+5 * (j:Int)+1+1 from by omega,show ((4+5 * j:Nat):Int)=1+5 * (j:Int)+1+1+1 from by omega,show ((5+5 * j:Nat):Int)=1+5 * (j:Int)+1+1+1+1 from by omega] at c0 c1 c2 c3 c4
   have hlt':(j:Int) < (n:Int):=by omega
   go_wp2
   refine ⟨⟨j+1,by omega,by go_num,?_⟩,by simp [intOf];omega⟩
   congr 1
  ·have hjn:j=n:=by omega
   subst hjn
   go_wp2
   go_ret
   exact ⟨rfl,rfl⟩
theorem qJ2.below {w w':World} {g n:Nat} (h:qJ2 w g n) (hg:g < w.heap.size) (hb:Below w.heap.size w w'):qJ2 w' g n :=
 ⟨fun j hj=>by obtain ⟨v,e⟩:=h.1 j hj;exact ⟨v,(hb.cell (p:=⟨g,j,none⟩) hg).trans e⟩,fun j=>(hb.frozen (p:=⟨g,j,none⟩) hg).trans (h.2 j)⟩
theorem qJ2.grown {w w':World} {g n:Nat} {row:Option Nat} (h:qJ2 w g n) (hg:g < w.heap.size) (hr:w.grownBy w' row) (hne:some g ≠ row):qJ2 w' g n :=
 ⟨fun j hj=>by obtain ⟨v,e⟩:=h.1 j hj;exact ⟨v,hr.cell e hne⟩,fun j=>by
  have:=h.2 j
  unfold World.frozen? at this ⊢
  simp only at this ⊢
  rw [hr.block g hg hne]
  exact this⟩
theorem qJ2.set {w:World} {g n:Nat} (h:qJ2 w g n) (o:Nat) (v:Value):qJ2 (w.setCell ⟨g,o,none⟩ v) g n:=by
 refine ⟨fun j hj=>?_,fun j=>by simp only [World.frozen?_setCell];exact h.2 j⟩
 obtain ⟨u,e⟩:=h.1 j hj
 by_cases q:j=o
 ·subst q
  exact ⟨v,by simp [go_sem,e]⟩
 ·exact ⟨u,by rw [World.cell?_setCell_other (h:=fun e=>q (by have:=congrArg Addr.off e;simp at this;omega))];exact e⟩
theorem QA1 (g n cap:Nat) (k0:Int) (w:World) (hn:n≤1048576) (h0:0≤k0) (h1:k0≤100000000) (h:qJ2 w g n) :
  Calls Tryz.prog 44 #[.slice (some ⟨g,0,none⟩) n cap,.int .i64 k0] w fun e w'=>e = .returned (.int .i64 (k0+5 * (n:Int)))∧w.grownBy w' (some g):=by
 have HO:Hid (qJ2 w g n):=h
 clear h
 have hn':(n:Int)≤1048576:=by omega
 go_enter Tryz.func44,Tryz.ntmps44
 go_wp2
 go_loopw [1,5] (fun q i wr=>∃ (j:Nat),j≤n∧i = .int .i64 (j:Int)∧q = .int .i64 (k0+5 * (j:Int))∧qJ2 wr g n∧w.grownBy wr (some g))
  (fun _ i _=>n - (intOf i).toNat)
 case atStart=>exact ⟨0,Nat.zero_le _,rfl,by simp,HO.out,qM2 _ _⟩
 case round =>
  obtain ⟨j,hj,rfl,rfl,hroom,hgr⟩:=hrel
  have HG:Hid (qJ2 wr g n∧w.grownBy wr (some g)):=⟨hroom,hgr⟩
  by_cases hlt:j < n
  ·have hlt':(j:Int) < (n:Int):=by omega
   obtain ⟨v0,c0⟩:=hroom.1 (j * 5) (by omega)
   have f0:=hroom.2 (j * 5)
   obtain ⟨v1,c1⟩:=hroom.1 (j * 5+1) (by omega)
   have f1:=hroom.2 (j * 5+1)
   obtain ⟨v2,c2⟩:=hroom.1 (j * 5+2) (by omega)
   have f2:=hroom.2 (j * 5+2)
   obtain ⟨v3,c3⟩:=hroom.1 (j * 5+3) (by omega)
   have f3:=hroom.2 (j * 5+3)
   obtain ⟨v4,c4⟩:=hroom.1 (j * 5+4) (by omega)
   have f4:=hroom.2 (j * 5+4)
   clear hroom hgr
   go_wp2
   refine ⟨⟨j+1,by omega,by go_num,?_,?_,?_⟩,by simp [intOf];omega⟩
   ·congr 1;omega
   ·exact (((((HG.out.1.set _ _).set _ _).set _ _).set _ _).set _ _)
   ·exact (qF3 (qF3 (qF3 (qF3 (qF3 HG.out.2 (qJ1 _ _ _ _)) (qJ1 _ _ _ _)) (qJ1 _ _ _ _)) (qJ1 _ _ _ _)) (qJ1 _ _ _ _))
  ·have hjn:j=n:=by omega
   subst hjn
   go_wp2
   go_ret
   exact ⟨rfl,hgr⟩
theorem QX8 {W:World} {B:Nat} {a:Option Addr} {n cap:Nat} {ys:List StI} (h:qB1 W B (.slice a n cap) ys):∀ q,(Value.slice a n cap).ownBlock=some q → B≤q∧q < W.heap.size:=by
 have h0:W.ownsRow B 45 5 (.slice a n cap) ys.length (qC3 ys):=h
 exact fun q e=>h0.lt q e

structure qG9 where
 i:Int
 u:Int
 sa:Option Addr
 sn:Nat
 sc:Nat
 ss:List StI
 la:Option Addr
 ln:Nat
 lc:Nat
 ls:List LkI
deriving Inhabited
structure qD7 (w:World) (r:qG9):Prop where
 said:qL9 w r.sa r.sn r.ss
 locks:qJ6 w r.la r.ln r.ls
theorem qD7.below {w w':World} {r:qG9} (h:qD7 w r) (hb:Below w.heap.size w w'):qD7 w' r:=⟨h.said.below hb,h.locks.below hb⟩
structure qK5 (m:Nat) (r:qG9):Prop where
 said:r.sn≤m
 locks:r.ln≤m
structure qF6 (w:World) (L:Nat) (r y:qG9):Prop where
 i:y.i=r.i
 u:y.u=r.u
 sn:y.sn=r.sn
 ln:y.ln=r.ln
 sc:y.sc=r.sn
 lc:y.lc=r.ln
 ss:y.ss=r.ss
 ls:y.ls=r.ls
 sa:y.sa=some ⟨L,0,none⟩
 la:∃ g,y.la=some ⟨g,0,none⟩∧L < g∧g < w.heap.size∧qZ2 w g r.ls∧qI8 w g r.ln
 sl:qZ0 w L r.ss∧qJ2 w L r.sn
 slt:L < w.heap.size
theorem qF6.below {w w':World} {L:Nat} {r y:qG9} (h:qF6 w L r y) (hb:Below w.heap.size w w'):qF6 w' L r y:=by
 obtain ⟨g,e,h1,h2,h3,h4⟩:=h.la
 exact ⟨h.i,h.u,h.sn,h.ln,h.sc,h.lc,h.ss,h.ls,h.sa,⟨g,e,h1,by have:=hb.size;omega,h3.below hb,h4.below h2 hb⟩,⟨h.sl.1.below hb,h.sl.2.below h.slt hb⟩,by have:=hb.size;have:=h.slt;omega⟩
theorem qF6.isIn {w:World} {L:Nat} {r y:qG9} (h:qF6 w L r y) (h1:r.ss.length=r.sn) (h2:r.ls.length=r.ln):qD7 w y:=by
 obtain ⟨g,e,_,_,h3,_⟩:=h.la
 refine ⟨?_,?_⟩
 ·rw [h.sa,h.sn,h.ss];exact qL9.of h1 h.sl.1
 ·rw [e,h.ln,h.ls];exact qJ6.of h2 h3
structure QA9 (w:World) (b:Nat) (u0 u1 u2 u3:Value):Prop where
 c0:w.cell? ⟨b,0,none⟩=some u0
 c1:w.cell? ⟨b,1,none⟩=some u1
 c2:w.cell? ⟨b,2,none⟩=some u2
 c3:w.cell? ⟨b,3,none⟩=some u3
 fz:∀ j,w.frozen? ⟨b,j,none⟩=false
theorem QA9.lt {w:World} {b:Nat} {u0 u1 u2 u3:Value} (h:QA9 w b u0 u1 u2 u3):b < w.heap.size:=zL w ⟨b,0,none⟩ h.c0
theorem QA9.below {w w':World} {b:Nat} {u0 u1 u2 u3:Value} (h:QA9 w b u0 u1 u2 u3) (hb:Below w.heap.size w w'):QA9 w' b u0 u1 u2 u3 :=
 ⟨(hb.cell (p:=⟨b,0,none⟩) h.lt).trans h.c0,(hb.cell (p:=⟨b,1,none⟩) h.lt).trans h.c1,(hb.cell (p:=⟨b,2,none⟩) h.lt).trans h.c2,(hb.cell (p:=⟨b,3,none⟩) h.lt).trans h.c3,fun j=>(hb.frozen (p:=⟨b,j,none⟩) h.lt).trans (h.fz j)⟩
theorem QA9.new (w:World) (u0 u1 u2 u3:Value) (t:TypeId):QA9 (w.alloc (.cells #[u0,u1,u2,u3] t)) w.heap.size u0 u1 u2 u3:=⟨by simp,by simp,by simp,by simp,fun j=>by simp [go_sem]⟩
theorem QA9.put2 {w:World} {b:Nat} {u0 u1 u2 u3:Value} (h:QA9 w b u0 u1 u2 u3) (v:Value):QA9 (w.setCell ⟨b,2,none⟩ v) b u0 u1 v u3:=by
 obtain ⟨h0,h1,h2,h3,hf⟩:=h
 refine ⟨?_,?_,?_,?_,fun j=>by simp [hf]⟩ <;> simp [go_sem,h0,h1,h2,h3]
theorem QA9.put3 {w:World} {b:Nat} {u0 u1 u2 u3:Value} (h:QA9 w b u0 u1 u2 u3) (v:Value):QA9 (w.setCell ⟨b,3,none⟩ v) b u0 u1 u2 v:=by
 obtain ⟨h0,h1,h2,h3,hf⟩:=h
 refine ⟨?_,?_,?_,?_,fun j=>by simp [hf]⟩ <;> simp [go_sem,h0,h1,h2,h3]
theorem qR2 (w:World) (q o:Nat) (v:Value):w.grownBy (w.setCell ⟨q,o,none⟩ v) (some q):=by
 refine ⟨rfl,rfl,rfl,by simp,fun i hi hne=>?_⟩
 have hq:i ≠ q:=fun e=>hne (by rw [e])
 rw [Below.heap_setCell _ _ _ _ hq]
theorem qY5 {w w1 w2:World} {row:Option Nat} (h:w.grownBy w1 row) (h':w1.grownBy w2 row):w.grownBy w2 row :=
 ⟨h'.os.trans h.os,h'.tape.trans h.tape,h'.output.trans h.output,Nat.le_trans h.size h'.size,fun i hi hne=>by rw [h'.block i (Nat.lt_of_lt_of_le hi h.size) hne];exact h.block i hi hne⟩
theorem QA9.grown {w w':World} {b:Nat} {u0 u1 u2 u3:Value} {row:Option Nat} (h:QA9 w b u0 u1 u2 u3) (hg:w.grownBy w' row) (hne:some b ≠ row):QA9 w' b u0 u1 u2 u3 :=
 ⟨hg.cell h.c0 hne,hg.cell h.c1 hne,hg.cell h.c2 hne,hg.cell h.c3 hne,fun j=>by
  have:=h.fz j
  unfold World.frozen? at this ⊢
  rw [hg.block b h.lt hne]
  exact this⟩
theorem qZ0.grown {w w':World} {g:Nat} {gs:List StI} {row:Option Nat} (h:qZ0 w g gs) (hg:w.grownBy w' row) (hne:some g ≠ row):qZ0 w' g gs:=fun k x e=>by
 obtain ⟨h0,h1,h2,h3,h4⟩:=h k x e
 exact ⟨hg.cell h0 hne,hg.cell h1 hne,hg.cell h2 hne,hg.cell h3 hne,hg.cell h4 hne⟩
theorem qZ2.grown {w w':World} {g:Nat} {gs:List LkI} {row:Option Nat} (h:qZ2 w g gs) (hg:w.grownBy w' row) (hne:some g ≠ row):qZ2 w' g gs:=fun k x e=>by
 obtain ⟨h0,h1,h2,h3⟩:=h k x e
 exact ⟨hg.cell h0 hne,hg.cell h1 hne,hg.cell h2 hne,hg.cell h3 hne⟩
theorem qV8 (r:qG9) (w:World) (hle:qK5 1048576 r) (h:qD7 w r) :
  Calls Tryz.prog 11 #[.agg #[.int .i64 r.i,.int .i64 r.u,.slice r.sa r.sn r.sc,.slice r.la r.ln r.lc]] w fun e w'=>∃ (y:qG9) (L:Nat),e = .returned (.agg #[.int .i64 y.i,.int .i64 y.u,.slice y.sa y.sn y.sc,.slice y.la y.ln y.lc])∧w.heap.size≤L∧qF6 w' L r y∧Below w.heap.size w w':=by
 have H:Hid (qD7 w r):=h
 have HLE:Hid (qK5 1048576 r):=hle
 clear h hle
 obtain ⟨V0,hV0⟩:∃ V,V=w.alloc (.cells #[.int .i64 r.i,.int .i64 r.u,.slice r.sa r.sn r.sc,.slice r.la r.ln r.lc] 25):=⟨_,rfl⟩
 obtain ⟨V1,hV1⟩:∃ V,V=V0.alloc (.cells #[.int .i64 0,.int .i64 0,.slice none 0 0,.slice none 0 0] 33):=⟨_,rfl⟩
 obtain ⟨V,hV⟩:∃ V,V=V1.alloc (.cells #[.int .i64 r.i,.int .i64 r.u,.slice none 0 0,.slice none 0 0] 33):=⟨_,rfl⟩
 have z0:V0.heap.size=w.heap.size+1:=by rw [hV0];simp
 have z1:V1.heap.size=w.heap.size+1+1:=by rw [hV1];simp [z0]
 have z2:V.heap.size=w.heap.size+1+1+1:=by rw [hV];simp [z1]
 have b0:Below w.heap.size w V0:=by rw [hV0];exact zN
 have b1:Below V0.heap.size V0 V1:=by rw [hV1];exact zN
 have b2:Below V1.heap.size V1 V:=by rw [hV];exact zN
 have X0:QA9 V w.heap.size (.int .i64 r.i) (.int .i64 r.u) (.slice r.sa r.sn r.sc) (.slice r.la r.ln r.lc):=by
  have q:QA9 V0 w.heap.size (.int .i64 r.i) (.int .i64 r.u) (.slice r.sa r.sn r.sc) (.slice r.la r.ln r.lc):=by rw [hV0];exact QA9.new _ _ _ _ _ _
  exact (q.below b1).below b2
 have Y0:QA9 V (w.heap.size+1) (.int .i64 0) (.int .i64 0) (.slice none 0 0) (.slice none 0 0):=by
  have q:QA9 V1 V0.heap.size (.int .i64 0) (.int .i64 0) (.slice none 0 0) (.slice none 0 0):=by rw [hV1];exact QA9.new _ _ _ _ _ _
  rw [z0] at q
  exact q.below b2
 have O0:QA9 V (w.heap.size+1+1) (.int .i64 r.i) (.int .i64 r.u) (.slice none 0 0) (.slice none 0 0):=by
  have q:QA9 V V1.heap.size (.int .i64 r.i) (.int .i64 r.u) (.slice none 0 0) (.slice none 0 0):=by rw [hV];exact QA9.new _ _ _ _ _ _
  rw [z1] at q
  exact q
 have B0:Hid (Below w.heap.size w V):=(b0.trans (b1.mono b0.size)).trans (b2.mono (by omega))
 have HV:Hid (V=((w.alloc (.cells #[.int .i64 r.i,.int .i64 r.u,.slice r.sa r.sn r.sc,.slice r.la r.ln r.lc] 25)).alloc (.cells #[.int .i64 0,.int .i64 0,.slice none 0 0,.slice none 0 0] 33)).alloc (.cells #[.int .i64 r.i,.int .i64 r.u,.slice none 0 0,.slice none 0 0] 33)):=by rw [hV,hV1,hV0];exact rfl
 have Z2:Hid (V.heap.size=w.heap.size+1+1+1):=z2
 have XX:Hid (QA9 V w.heap.size (.int .i64 r.i) (.int .i64 r.u) (.slice r.sa r.sn r.sc) (.slice r.la r.ln r.lc)∧QA9 V (w.heap.size+1) (.int .i64 0) (.int .i64 0) (.slice none 0 0) (.slice none 0 0)∧QA9 V (w.heap.size+1+1) (.int .i64 r.i) (.int .i64 r.u) (.slice none 0 0) (.slice none 0 0)):=⟨X0,Y0,O0⟩
 clear hV hV1 hV0 z0 z1 z2 b0 b1 b2 X0 Y0 O0 V0 V1
 go_enter Tryz.func11,Tryz.ntmps11
 go_wp2_with fail
 rw [← HV.out]
 clear HV
 refine (QE3 r.sa r.sn r.sc r.ss V HLE.out.said (H.out.said.below B0.out)).mono ?_
 rintro e w1 ⟨rfl,hat1,hlt1,hb1,hroom1⟩
 obtain ⟨X1,Y1,O1⟩:=XX.out
 have X1:=X1.below hb1
 have Y1:=Y1.below hb1
 have O1:=O1.below hb1
 have B1:Below w.heap.size w w1:=B0.out.trans (hb1.mono B0.out.size)
 have hz1:w.heap.size+1+1+1≤w1.heap.size:=by have:=Z2.out;have:=hb1.size;omega
 obtain ⟨U,hU⟩:∃ U,U=w1.setCell ⟨w.heap.size+1+1,2,none⟩ (.slice (some ⟨V.heap.size,0,none⟩) r.sn r.sn):=⟨_,rfl⟩
 have gU:w1.grownBy U (some (w.heap.size+1+1)):=by rw [hU];exact qR2 _ _ _ _
 have BU:Hid (Below w.heap.size w U):=by rw [hU];exact B1.setCell (by show w.heap.size≤w.heap.size+1+1;omega) _
 have XU:Hid (QA9 U w.heap.size (.int .i64 r.i) (.int .i64 r.u) (.slice r.sa r.sn r.sc) (.slice r.la r.ln r.lc)∧QA9 U (w.heap.size+1) (.int .i64 0) (.int .i64 0) (.slice none 0 0) (.slice none 0 0)∧QA9 U (w.heap.size+1+1) (.int .i64 r.i) (.int .i64 r.u) (.slice (some ⟨V.heap.size,0,none⟩) r.sn r.sn) (.slice none 0 0)):=by
  refine ⟨X1.grown gU (fun e=>by injection e;omega),Y1.grown gU (fun e=>by injection e;omega),?_⟩
  rw [hU];exact O1.put2 _
 have SU:Hid (qZ0 U V.heap.size r.ss∧qJ2 U V.heap.size r.sn∧V.heap.size < U.heap.size):=by
  have hne:some V.heap.size ≠ some (w.heap.size+1+1):=fun e=>by injection e;have:=Z2.out;omega
  exact ⟨hat1.grown gU hne,hroom1.grown hlt1 gU hne,by have:=gU.size;omega⟩
 obtain ⟨x0,x1,x2,x3,_⟩:=X1
 obtain ⟨o0,o1,o2,o3,of⟩:=O1
 have of2:=of 2
 have hlo:w.heap.size+1+1 < w1.heap.size:=by omega
 have hlx:w.heap.size < w1.heap.size:=by omega
 clear hat1 hroom1 hb1 Y1 B1 gU XX of
 go_wp2_with fail
 rw [← hU]
 clear hU x0 x1 x2 x3 o0 o1 o2 o3 of2 hlo hlx
 refine (QW5 r.la r.ln r.lc r.ls U HLE.out.locks (H.out.locks.below BU.out)).mono ?_
 rintro e w2 ⟨rfl,hat2,hlt2,hb2,hroom2⟩
 obtain ⟨X2,Y2,O2⟩:=XU.out
 have X2:=X2.below hb2
 have Y2:=Y2.below hb2
 have O2:=O2.below hb2
 have B2:Below w.heap.size w w2:=BU.out.trans (hb2.mono BU.out.size)
 have hz2:w.heap.size+1+1+1≤w2.heap.size:=by have:=SU.out.2.2;have:=Z2.out;have:=hb2.size;omega
 obtain ⟨T,hT⟩:∃ T,T=w2.setCell ⟨w.heap.size+1+1,3,none⟩ (.slice (some ⟨U.heap.size,0,none⟩) r.ln r.ln):=⟨_,rfl⟩
 have gT:w2.grownBy T (some (w.heap.size+1+1)):=by rw [hT];exact qR2 _ _ _ _
 have BT:Below w.heap.size w T:=by rw [hT];exact B2.setCell (by show w.heap.size≤w.heap.size+1+1;omega) _
 have YT:=Y2.grown gT (fun e=>by injection e;omega)
 have OT:QA9 T (w.heap.size+1+1) (.int .i64 r.i) (.int .i64 r.u) (.slice (some ⟨V.heap.size,0,none⟩) r.sn r.sn) (.slice (some ⟨U.heap.size,0,none⟩) r.ln r.ln):=by rw [hT];exact O2.put3 _
 have ST:Hid (qZ0 T V.heap.size r.ss∧qJ2 T V.heap.size r.sn∧V.heap.size < T.heap.size∧qZ2 T U.heap.size r.ls∧qI8 T U.heap.size r.ln∧U.heap.size < T.heap.size∧V.heap.size < U.heap.size∧w.heap.size+1+1 < V.heap.size):=by
  have hz:=Z2.out
  have hs:=SU.out
  have hne:some V.heap.size ≠ some (w.heap.size+1+1):=fun e=>by injection e;omega
  have hne2:some U.heap.size ≠ some (w.heap.size+1+1):=fun e=>by injection e;omega
  have hsz:=gT.size
  have hbz:=hb2.size
  exact ⟨(hs.1.below hb2).grown gT hne,(hs.2.1.below hs.2.2 hb2).grown (by omega) gT hne,by omega,hat2.grown gT hne2,hroom2.grown hlt2 gT hne2,by omega,hs.2.2,by omega⟩
 obtain ⟨x0,x1,x2,x3,_⟩:=X2
 obtain ⟨o0,o1,o2,o3,of⟩:=O2
 have of3:=of 3
 have hlo:w.heap.size+1+1 < w2.heap.size:=by omega
 have hlx:w.heap.size < w2.heap.size:=by omega
 obtain ⟨p0,p1,p2,p3,_⟩:=OT
 obtain ⟨y0,y1,y2,y3,yf⟩:=YT
 have f0:=yf 0
 have f1:=yf 1
 have f2:=yf 2
 have f3:=yf 3
 have BT':Hid (Below w.heap.size w T):=BT
 clear hat2 hroom2 hb2 Y2 B2 gT XU of BT yf SU BU
 go_upto_region 6 with fail
 rw [← hT]
 clear hT x0 x1 x2 x3 o0 o1 o2 o3 of3
 have g4:Hid (T.grownBy ((((T.setCell ⟨w.heap.size+1,0,none⟩ (.int .i64 r.i)).setCell ⟨w.heap.size+1,1,none⟩ (.int .i64 r.u)).setCell ⟨w.heap.size+1,2,none⟩ (.slice (some ⟨V.heap.size,0,none⟩) r.sn r.sn)).setCell ⟨w.heap.size+1,3,none⟩ (.slice (some ⟨U.heap.size,0,none⟩) r.ln r.ln)) (some (w.heap.size+1))):=qY5 (qY5 (qY5 (qR2 _ _ _ _) (qR2 _ _ _ _)) (qR2 _ _ _ _)) (qR2 _ _ _ _)
 have b4:Hid (Below w.heap.size w ((((T.setCell ⟨w.heap.size+1,0,none⟩ (.int .i64 r.i)).setCell ⟨w.heap.size+1,1,none⟩ (.int .i64 r.u)).setCell ⟨w.heap.size+1,2,none⟩ (.slice (some ⟨V.heap.size,0,none⟩) r.sn r.sn)).setCell ⟨w.heap.size+1,3,none⟩ (.slice (some ⟨U.heap.size,0,none⟩) r.ln r.ln))):=(((BT'.out.setCell (by show w.heap.size≤w.heap.size+1;omega) _).setCell (by show w.heap.size≤w.heap.size+1;omega) _).setCell (by show w.heap.size≤w.heap.size+1;omega) _).setCell (by show w.heap.size≤w.heap.size+1;omega) _
 go_wp2
 refine bodyPost_ret (v:=.agg #[.int .i64 r.i,.int .i64 r.u,.slice (some ⟨V.heap.size,0,none⟩) r.sn r.sn,.slice (some ⟨U.heap.size,0,none⟩) r.ln r.ln]) (by simp [results,Tryz.results11,go_sem,y0,y1,y2,y3]) rfl ?_
 refine ⟨⟨r.i,r.u,some ⟨V.heap.size,0,none⟩,r.sn,r.sn,r.ss,some ⟨U.heap.size,0,none⟩,r.ln,r.ln,r.ls⟩,V.heap.size,rfl,by have:=ST.out;omega,?_,b4.out⟩
 obtain ⟨s1,s2,s3,s4,s5,s6,s7,s8⟩:=ST.out
 have hne:some V.heap.size ≠ some (w.heap.size+1):=fun e=>by injection e;omega
 have hne2:some U.heap.size ≠ some (w.heap.size+1):=fun e=>by injection e;omega
 have hsz:=g4.out.size
 exact ⟨rfl,rfl,rfl,rfl,rfl,rfl,rfl,rfl,rfl,⟨U.heap.size,rfl,s7,by omega,s4.grown g4.out hne2,s5.grown s6 g4.out hne2⟩,⟨s1.grown g4.out hne,s2.grown s3 g4.out hne⟩,by omega⟩

theorem qS1.new (w:World) (x:StI) (t:TypeId):qS1 (w.alloc (.cells #[.int .i64 x.k,.int .i64 x.e,.int .i64 x.f,.int .i64 x.s,.int .i64 x.n] t)) w.heap.size 0 x:=by
 simp [qS1]
theorem inBounds_c (x:StI) (w:World):Calls Tryz.prog 104 #[.agg #[.int .i64 x.k,.int .i64 x.e,.int .i64 x.f,.int .i64 x.s,.int .i64 x.n]] w fun e w'=>e = .returned (.bool (rngB x))∧Below w.heap.size w w':=by
 obtain ⟨xk,xe,xf,xs,xn⟩:=x
 unfold rngB
 simp only
 cases he:inR xe 1 9
 ·go_enter Tryz.func104,Tryz.ntmps104
  go_wp2_with (go_at_call 131;refine (qH9 _ _).mono ?_;rintro e w' ⟨rfl,rfl⟩;rw [he])
  go_ret
  exact ⟨rfl,by go_grown⟩
 ·cases hk:QG8 xk
  ·cases hn:inR xn 0 7
   all_goals
    go_enter Tryz.func104,Tryz.ntmps104
    go_wp2_with (first
     | (go_at_call 131;refine (qH9 _ _).mono ?_;rintro e w' ⟨rfl,rfl⟩;rw [he])
     | (go_at_call 130;refine (qU5 _ _).mono ?_;rintro e w' ⟨rfl,rfl⟩;rw [hk])
     | (go_at_call 134;refine (isNext_c _ _).mono ?_;rintro e w' ⟨rfl,rfl⟩;rw [hn]))
    go_ret
    exact ⟨rfl,by go_grown⟩
  ·cases hf:inR xf 1 4
   ·go_enter Tryz.func104,Tryz.ntmps104
    go_wp2_with (first
     | (go_at_call 131;refine (qH9 _ _).mono ?_;rintro e w' ⟨rfl,rfl⟩;rw [he])
     | (go_at_call 130;refine (qU5 _ _).mono ?_;rintro e w' ⟨rfl,rfl⟩;rw [hk])
     | (go_at_call 132;refine (QB6 _ _).mono ?_;rintro e w' ⟨rfl,rfl⟩;rw [hf]))
    go_ret
    exact ⟨rfl,by go_grown⟩
   ·by_cases hs:xs=0
    ·subst hs
     go_enter Tryz.func104,Tryz.ntmps104
     go_wp2_with (first
      | (go_at_call 131;refine (qH9 _ _).mono ?_;rintro e w' ⟨rfl,rfl⟩;rw [he])
      | (go_at_call 130;refine (qU5 _ _).mono ?_;rintro e w' ⟨rfl,rfl⟩;rw [hk])
      | (go_at_call 132;refine (QB6 _ _).mono ?_;rintro e w' ⟨rfl,rfl⟩;rw [hf]))
     go_ret
     exact ⟨rfl,by go_grown⟩
    ·have hsb:(xs != 0)=true:=by simpa using hs
     obtain ⟨c,hc⟩:∃ c,qT5 xs=c:=⟨_,rfl⟩
     have HV:Hid (inR xs 1 255=(c == 0)):=by
      show inR xs 1 255=(c == 0)
      rw [← hc]
      unfold qT5
      rw [Bool.eq_iff_iff,qG4]
      by_cases q:inR xs 0 255=true
      ·rw [if_pos q]
       rw [qG4] at q
       simp
       omega
      ·rw [if_neg q]
       rw [qG4] at q
       simp
       omega
     have HC:Hid (qT5 xs=c):=hc
     clear hc hs
     go_enter Tryz.func104,Tryz.ntmps104
     go_wp2_with (first
      | (go_at_call 131;refine (qH9 _ _).mono ?_;rintro e w' ⟨rfl,rfl⟩;rw [he])
      | (go_at_call 130;refine (qU5 _ _).mono ?_;rintro e w' ⟨rfl,rfl⟩;rw [hk])
      | (go_at_call 132;refine (QB6 _ _).mono ?_;rintro e w' ⟨rfl,rfl⟩;rw [hf])
      | (go_at_call 133;refine (iSetFault_c _ _).mono ?_;rintro e w' ⟨rfl,rfl⟩;rw [HC.out]))
     go_ret
     exact ⟨by rw [HV.out];rfl,by go_grown⟩
theorem st_neq (x y:StI) (w:World):(binOp .neq 45 (.agg #[.int .i64 x.k,.int .i64 x.e,.int .i64 x.f,.int .i64 x.s,.int .i64 x.n]) (.agg #[.int .i64 y.k,.int .i64 y.e,.int .i64 y.f,.int .i64 y.s,.int .i64 y.n])).run Tryz.prog w = .ok (.bool (!(qO8 x y))) w:=by
 have h:=st_eql x y w
 simp only [binOp,Sem.run_bind] at h ⊢
 revert h
 cases (Op.equal 45 (.agg #[.int .i64 x.k,.int .i64 x.e,.int .i64 x.f,.int .i64 x.s,.int .i64 x.n]) (.agg #[.int .i64 y.k,.int .i64 y.e,.int .i64 y.f,.int .i64 y.s,.int .i64 y.n])).run Tryz.prog w <;> simp [Result.andThen]
theorem qC0 (x:StI) (w:World):Calls Tryz.prog 76 #[.agg #[.int .i64 x.k,.int .i64 x.e,.int .i64 x.f,.int .i64 x.s,.int .i64 x.n]] w fun e w'=>e = .returned (.int .i64 (qC2 x))∧Below w.heap.size w w':=by
  obtain ⟨W,hW⟩:∃ W,W=w.alloc (.cells #[.int .i64 x.k,.int .i64 x.e,.int .i64 x.f,.int .i64 x.s,.int .i64 x.n] 45):=⟨_,rfl⟩
  have B0:Below w.heap.size w W:=by rw [hW];exact zN
  have hz:w.heap.size < W.heap.size:=by rw [hW];simp
  have HX:Hid (qS1 W w.heap.size 0 x):=by rw [hW];exact qS1.new w x _
  have HWE:Hid (W=w.alloc (.cells #[.int .i64 x.k,.int .i64 x.e,.int .i64 x.f,.int .i64 x.s,.int .i64 x.n] 45)):=hW
  clear hW
  cases hk:inR x.k 1 4
  · have HT:Hid (swT x.k=⟨#[]⟩):=sw_out hk
    have hC:Hid (qC2 x=1):=by show qC2 x=1;unfold qC2;rw [if_pos hk]
    rw [hC.out]
    clear hk
    go_enter Tryz.func76,Tryz.ntmps76
    go_wp2_with fail
    rw [← HWE.out]
    obtain ⟨x0,x1,x2,x3,x4⟩:=HX.out
    simp only [Nat.zero_add] at x0 x1 x2 x3 x4
    refine wp_region_held_drew (S:=fun w'=>(∀ b o,b < W.heap.size → w'.cell? ⟨b,o,none⟩=W.cell? ⟨b,o,none⟩)∧Below W.heap.size W w') (by kernel_rfl) (qB6 _) (fun hHeld=>?_)
    refine Zk.go [0,1] ?_
    iterate 2
      refine Zk.st (v:=?_) rfl ?_ ?_
      rotate_left 1
      · intro w hSw;(try dsimp only at hSw);go_simp;try (with_reducible rfl)
      try simp only [Act.put,zA,zB,zC,zD,zE,zF]
    refine Zk.fin ?_
    refine Zk.rd (i:=2) rfl (fun K hK=>?_)
    go_simp
    refine (QW8 _ _).mono ?_
    rintro e w' ⟨rfl,rfl⟩
    rw [HT.out]
    have hS:=hHeld
    refine hK.out _ _ hS (fun hHeld=>?_)
    clear hK K
    try simp only [Act.put,zA,zB,zC,zD,zE,zF]
    refine Zk.go [3,4,5,6,7,8,9] ?_
    iterate 2
      refine Zk.st (v:=?_) rfl ?_ ?_
      rotate_left 1
      · intro w hSw;(try dsimp only at hSw);go_simp;try (with_reducible rfl)
      try simp only [Act.put,zA,zB,zC,zD,zE,zF]
    iterate 4 (refine Zk.un rfl ?_;try simp only [Act.put,zA,zB,zC,zD,zE,zF])
    refine Zk.st (v:=?_) rfl ?_ ?_
    rotate_left 1
    · intro w hSw;(try dsimp only at hSw);go_simp;try (with_reducible rfl)
    try simp only [Act.put,zA,zB,zC,zD,zE,zF]
    refine Zk.fin ?_
    refine wpAnyH_done (by kernel_rfl) ?_ _
    go_wp2
    go_ret
    exact ⟨rfl,B0.trans (hHeld.2.mono B0.size)⟩
  · have hT0:=byteNe_of (sw_in hk)
    obtain ⟨T,hT⟩:∃ T,swT x.k=T:=⟨_,rfl⟩
    have HT:Hid (swT x.k=T):=hT
    have hw:T.toList.isEmpty=false:=by
      rw [hT] at hT0
      cases q:T.toList with
      | nil=>rw [q] at hT0;simp at hT0
      | cons a as'=>rfl
    obtain ⟨y,hy⟩:∃ y,ownI x=y:=⟨_,rfl⟩
    have HO:=own_c x
    rw [hy] at HO
    have HOO:Hid (∀ w:World,Calls Tryz.prog 103 #[.agg #[.int .i64 x.k,.int .i64 x.e,.int .i64 x.f,.int .i64 x.s,.int .i64 x.n]] w fun e w'=>e = .returned (.agg #[.int .i64 y.k,.int .i64 y.e,.int .i64 y.f,.int .i64 y.s,.int .i64 y.n])∧Below w.heap.size w w'):=HO
    have HB:Hid (∀ w:World,Calls Tryz.prog 104 #[.agg #[.int .i64 x.k,.int .i64 x.e,.int .i64 x.f,.int .i64 x.s,.int .i64 x.n]] w fun e w'=>e = .returned (.bool (rngB x))∧Below w.heap.size w w'):=inBounds_c x
    have hE:∀ w:World,_:=fun w=>st_neq x y w
    have hob:ownB x=qO8 x y:=by unfold ownB;rw [hy]
    obtain ⟨t,ht⟩:∃ t,qO8 x y=t:=⟨_,rfl⟩
    obtain ⟨r,hr⟩:∃ r,rngB x=r:=⟨_,rfl⟩
    have HC:Hid (qC2 x=if t=false then 1 else if r=false then 3 else 0):=by show qC2 x=_;unfold qC2;rw [if_neg (by rw [hk];simp),hob,ht,hr]
    rw [ht] at hE
    rw [hr] at HB
    rw [HC.out]
    clear HO hob hk hT0 hT hy ht hr
    go_enter Tryz.func76,Tryz.ntmps76
    go_wp2_with fail
    rw [← HWE.out]
    obtain ⟨x0,x1,x2,x3,x4⟩:=HX.out
    simp only [Nat.zero_add] at x0 x1 x2 x3 x4
    go_region_held3 (fun w'=>(∀ b o,b < W.heap.size → w'.cell? ⟨b,o,none⟩=W.cell? ⟨b,o,none⟩)∧Below W.heap.size W w') (first | exact hS | exact qB6 _)
      (first | (go_at_call 102;refine (QW8 _ _).mono ?_;rintro e w' ⟨rfl,rfl⟩;rw [HT.out])
             | (go_at_call 103;refine (HOO.out _).mono ?_;rintro e w' ⟨rfl,hb1⟩;have hS:=qA8 (by assumption) hb1))
    cases t
    · go_wp2
      go_ret
      exact ⟨rfl,B0.trans (hS.2.mono B0.size)⟩
    · obtain ⟨x0,x1,x2,x3,x4⟩:=HX.out.below hS.2 hz
      simp only [Nat.zero_add] at x0 x1 x2 x3 x4
      go_wp2_with fail
      refine (HB.out _).mono ?_
      rintro e w2 ⟨rfl,hb2⟩
      cases r
      all_goals
        go_wp2
        go_ret
        exact ⟨rfl,(B0.trans (hS.2.mono B0.size)).trans (hb2.mono (by have:=hS.2.size;omega))⟩

section
attribute [local go_sem ↓] st_eql
def qG3 (w:World) (b:Nat) (r:qG9):Prop:=w.cell? ⟨b,0,none⟩=some (.int .i64 r.i)∧w.cell? ⟨b,1,none⟩=some (.int .i64 r.u)∧w.cell? ⟨b,2,none⟩=some (.slice r.sa r.sn r.sc)∧w.cell? ⟨b,3,none⟩=some (.slice r.la r.ln r.lc)
theorem qG3.lt {w:World} {b:Nat} {r:qG9} (h:qG3 w b r):b < w.heap.size:=zL w ⟨b,0,none⟩ h.1
theorem qG3.below {w w':World} {b:Nat} {r:qG9} (h:qG3 w b r) (hb:Below w.heap.size w w'):qG3 w' b r :=
 ⟨(hb.cell (p:=⟨b,0,none⟩) h.lt).trans h.1,(hb.cell (p:=⟨b,1,none⟩) h.lt).trans h.2.1,(hb.cell (p:=⟨b,2,none⟩) h.lt).trans h.2.2.1,(hb.cell (p:=⟨b,3,none⟩) h.lt).trans h.2.2.2⟩
theorem qG3.new (w:World) (r:qG9) (t:TypeId):qG3 (w.alloc (.cells #[.int .i64 r.i,.int .i64 r.u,.slice r.sa r.sn r.sc,.slice r.la r.ln r.lc] t)) w.heap.size r:=⟨by simp,by simp,by simp,by simp⟩
theorem l8Kind_c (b:Nat) (r:qG9) (k e:Int) (w:World) (hx:qG3 w b r) (h:qL9 w r.sa r.sn r.ss) (hn:r.sn≤1048576) :
  Calls Tryz.prog 101 #[.pointer (some ⟨b,0,none⟩),.int .i64 k,.int .i64 e] w fun d w'=>d = .returned (.bool (qQ4 r.ss k e))∧Below w.heap.size w w':=by
 obtain ⟨i,u,sa,n,sc,said,la,ln,lc,ls⟩:=r
 simp only at hx h hn ⊢
 have HZ:Hid (said.length=n):=h.1
 have H:Hid (qL9 w sa n said):=h
 have hbl:=hx.lt
 obtain ⟨_,_,x2,_⟩:=hx
 have X2:Hid (w.cell? ⟨b,2,none⟩=some (.slice sa n sc)):=x2
 clear h x2
 have hn':(n:Int)≤1048576:=by omega
 rw [kindB_at]
 obtain ⟨t,ht⟩:∃ t,(qI0 said k e).isSome=t:=⟨_,rfl⟩
 have HT:Hid ((qI0 said k e).isSome=t):=ht
 rw [ht]
 clear ht
 go_enter Tryz.func101,Tryz.ntmps101
 go_wp2
 go_loopw [7] (fun i wr=>∃ j:Nat,j≤n∧i = .int .i64 (j:Int)∧(qI0 (said.drop j) k e).isSome=t∧Below w.heap.size w wr) (fun i _=>n - (intOf i).toNat)
 case atStart=>exact ⟨0,Nat.zero_le _,rfl,HT.out,Below.refl _ _⟩
 case round =>
  obtain ⟨j,hj,rfl,hp,hnx⟩:=hrel
  have x2:=(hnx.cell (p:=⟨b,2,none⟩) hbl).trans X2.out
  have hbw2:b < wr.heap.size:=Nat.lt_of_lt_of_le hbl hnx.size
  by_cases hlt:j < n
  ·obtain ⟨g,off,x,rfl,hs,hxa,hgl⟩:=H.out.at hlt
   rw [QB5 hs] at hp
   obtain ⟨g0,g1,g2,g3,g4⟩:=hxa.below hnx hgl
   have hbw:g < wr.heap.size:=Nat.lt_of_lt_of_le hgl hnx.size
   have hlt':(j:Int) < (n:Int):=by omega
   clear hs hxa
   by_cases q1:x.k=k
   ·have b1:(x.k == k)=true:=by simp [q1]
    by_cases q2:x.e=e
    ·have b2:(x.e == e)=true:=by simp [q2]
     rw [if_pos ⟨q1,q2⟩] at hp
     have HP:Hid (true=t):=hp
     clear hp q1 q2
     go_wp2
     go_ret
     exact ⟨by rw [← HP.out];rfl,hnx⟩
    ·have b2:(x.e == e)=false:=by simp [q2]
     rw [if_neg (fun q=>q2 q.2)] at hp
     have HP:Hid ((qI0 (said.drop (j+1)) k e).isSome=t):=hp
     clear hp q1 q2
     go_wp2
     exact ⟨⟨j+1,by omega,by go_num,HP.out,hnx⟩,by simp [intOf];omega⟩
   ·have b1:(x.k == k)=false:=by simp [q1]
    rw [if_neg (fun q=>q1 q.1)] at hp
    have HP:Hid ((qI0 (said.drop (j+1)) k e).isSome=t):=hp
    clear hp q1
    go_wp2
    exact ⟨⟨j+1,by omega,by go_num,HP.out,hnx⟩,by simp [intOf];omega⟩
  ·have hkn:j=n:=by omega
   subst hkn
   rw [List.drop_of_length_le (by rw [HZ.out];exact Nat.le_refl _)] at hp
   have HP:Hid (false=t):=hp
   clear hp
   go_wp2
   go_ret
   exact ⟨by rw [← HP.out];rfl,hnx⟩
theorem qZ8 (b:Nat) (r:qG9) (e:Int) (w:World) (hx:qG3 w b r) (h:qL9 w r.sa r.sn r.ss) (hn:r.sn≤1048576) :
  Calls Tryz.prog 97 #[.pointer (some ⟨b,0,none⟩),.int .i64 e] w fun d w'=>d = .returned (.bool (qT7 r.ss e))∧Below w.heap.size w w':=by
 have HK:Hid (∀ (k:Int) (w2:World),Below w.heap.size w w2 → Calls Tryz.prog 101 #[.pointer (some ⟨b,0,none⟩),.int .i64 k,.int .i64 e] w2 fun d w'=>d = .returned (.bool (qQ4 r.ss k e))∧Below w2.heap.size w2 w'):=fun k w2 hb=>l8Kind_c b r k e w2 (hx.below hb) (h.below hb) hn
 clear hx h
 unfold qT7
 cases q:qQ4 r.ss 3 e
 ·have HQ:Hid (qQ4 r.ss 3 e=false):=q
  clear q
  obtain ⟨t,ht⟩:∃ t,qQ4 r.ss 4 e=t:=⟨_,rfl⟩
  have HT:Hid (qQ4 r.ss 4 e=t):=ht
  rw [ht,Bool.false_or]
  clear ht
  go_enter Tryz.func97,Tryz.ntmps97
  go_wp2_with fail
  refine (HK.out 3 _ (Below.refl _ _)).mono ?_
  rintro d w1 ⟨rfl,hb1⟩
  rw [HQ.out]
  go_wp2_with fail
  refine (HK.out 4 _ hb1).mono ?_
  rintro d w2 ⟨rfl,hb2⟩
  rw [HT.out]
  go_wp2
  go_ret
  exact ⟨rfl,hb1.trans (hb2.mono hb1.size)⟩
 ·have HQ:Hid (qQ4 r.ss 3 e=true):=q
  clear q
  rw [Bool.true_or]
  go_enter Tryz.func97,Tryz.ntmps97
  go_wp2_with fail
  refine (HK.out 3 _ (Below.refl _ _)).mono ?_
  rintro d w1 ⟨rfl,hb1⟩
  rw [HQ.out]
  go_wp2
  go_ret
  exact ⟨rfl,hb1⟩
theorem qL6 (b:Nat) (r:qG9) (y:StI) (w:World) (hx:qG3 w b r) (h:qL9 w r.sa r.sn r.ss) (hn:r.sn≤1048576) :
  Calls Tryz.prog 72 #[.pointer (some ⟨b,0,none⟩),.agg #[.int .i64 y.k,.int .i64 y.e,.int .i64 y.f,.int .i64 y.s,.int .i64 y.n]] w fun d w'=>d = .returned (.bool (qD5 r.ss y))∧Below w.heap.size w w':=by
 obtain ⟨i,u,sa,n,sc,said,la,ln,lc,ls⟩:=r
 simp only at hx h hn ⊢
 have HZ:Hid (said.length=n):=h.1
 obtain ⟨w0,hw0⟩:∃ w0,w0=w.alloc (.cells #[.int .i64 y.k,.int .i64 y.e,.int .i64 y.f,.int .i64 y.s,.int .i64 y.n] 45):=⟨_,rfl⟩
 have hb0:Below w.heap.size w w0:=by rw [hw0];exact zN
 have hs0:w.heap.size < w0.heap.size:=by rw [hw0];simp
 have HB0:Hid (Below w.heap.size w w0):=hb0
 have H:Hid (qL9 w0 sa n said):=h.below hb0
 have HY:Hid (qS1 w0 w.heap.size 0 y):=by rw [hw0];exact qS1.new w y _
 have hbl:=(hx.below hb0).lt
 obtain ⟨_,_,x2,_⟩:=hx.below hb0
 have X2:Hid (w0.cell? ⟨b,2,none⟩=some (.slice sa n sc)):=x2
 clear h x2 hx hb0
 have hn':(n:Int)≤1048576:=by omega
 obtain ⟨t,ht⟩:∃ t,qD5 said y=t:=⟨_,rfl⟩
 have HT:Hid (qD5 said y=t):=ht
 rw [ht]
 clear ht
 go_enter Tryz.func72,Tryz.ntmps72
 go_wp2
 rw [← hw0]
 clear hw0
 go_loopw [5] (fun i wr=>∃ j:Nat,j≤n∧i = .int .i64 (j:Int)∧qD5 (said.drop j) y=t∧Below w0.heap.size w0 wr) (fun i _=>n - (intOf i).toNat)
 case atStart=>exact ⟨0,Nat.zero_le _,rfl,HT.out,Below.refl _ _⟩
 case round =>
  obtain ⟨j,hj,rfl,hp,hnx⟩:=hrel
  have x2:=(hnx.cell (p:=⟨b,2,none⟩) hbl).trans X2.out
  have hbw2:b < wr.heap.size:=Nat.lt_of_lt_of_le hbl hnx.size
  have BN:Hid (Below w.heap.size w wr):=HB0.out.trans (hnx.mono (by omega))
  by_cases hlt:j < n
  ·obtain ⟨g,off,x,rfl,hs,hxa,hgl⟩:=H.out.at hlt
   rw [saidB_drop hs] at hp
   obtain ⟨g0,g1,g2,g3,g4⟩:=hxa.below hnx hgl
   obtain ⟨y0,y1,y2,y3,y4⟩:=HY.out.below hnx hs0
   simp only [Nat.zero_add] at y0 y1 y2 y3 y4
   have hbw:g < wr.heap.size:=Nat.lt_of_lt_of_le hgl hnx.size
   have hyw:w.heap.size < wr.heap.size:=Nat.lt_of_lt_of_le hs0 hnx.size
   have hlt':(j:Int) < (n:Int):=by omega
   clear hs hxa
   cases q:qO8 x y
   ·rw [q,Bool.false_or] at hp
    have HP:Hid (qD5 (said.drop (j+1)) y=t):=hp
    clear hp
    go_wp2
    go_quiet (fail)
    go_wp2
    exact ⟨⟨j+1,by omega,by go_num,HP.out,below_drewN hnx _⟩,by simp [intOf];omega⟩
   ·rw [q,Bool.true_or] at hp
    have HP:Hid (true=t):=hp
    clear hp
    go_wp2
    go_quiet (fail)
    go_wp2
    go_ret
    exact ⟨by rw [← HP.out];rfl,below_drewN BN.out _⟩
  ·have hkn:j=n:=by omega
   subst hkn
   rw [List.drop_of_length_le (by rw [HZ.out];exact Nat.le_refl _)] at hp
   have HP:Hid (false=t):=hp
   clear hp
   go_wp2
   go_ret
   exact ⟨by rw [← HP.out];rfl,BN.out⟩
def qZ1 (said:List StI) (k e i:Int):Prop:=(i = -1∧qI0 said k e=none) ∨ ∃ (j:Nat) (x:StI),i=(j:Int)∧said[j]? = some x∧qI0 said k e=some x
theorem saidOf1_c (bk be:Nat) (x:StI) (k e:Int) (w:World) (hk:w.cell? ⟨bk,0,none⟩=some (.int .i64 k)) (he:w.cell? ⟨be,0,none⟩=some (.int .i64 e)) :
  Calls Tryz.prog 136 #[.agg #[.int .i64 x.k,.int .i64 x.e,.int .i64 x.f,.int .i64 x.s,.int .i64 x.n],.pointer (some ⟨bk,0,none⟩),.pointer (some ⟨be,0,none⟩)] w fun d w'=>d = .returned (.bool (decide (x.k=k∧x.e=e)))∧Below w.heap.size w w':=by
 have hkl:=zL w ⟨bk,0,none⟩ hk
 have hel:=zL w ⟨be,0,none⟩ he
 by_cases q1:x.k=k
 ·have b1:(x.k == k)=true:=by simp [q1]
  by_cases q2:x.e=e
  ·have b2:(x.e == e)=true:=by simp [q2]
   rw [decide_eq_true ⟨q1,q2⟩]
   clear q1 q2
   go_enter Tryz.func136,Tryz.ntmps136
   go_wp2
   go_ret
   exact ⟨rfl,by go_grown⟩
  ·have b2:(x.e == e)=false:=by simp [q2]
   rw [decide_eq_false (fun q=>q2 q.2)]
   clear q1 q2
   go_enter Tryz.func136,Tryz.ntmps136
   go_wp2
   go_ret
   exact ⟨rfl,by go_grown⟩
 ·have b1:(x.k == k)=false:=by simp [q1]
  rw [decide_eq_false (fun q=>q1 q.1)]
  clear q1
  go_enter Tryz.func136,Tryz.ntmps136
  go_wp2
  go_ret
  exact ⟨rfl,by go_grown⟩
theorem saidIndex_c (bk be:Nat) (a:Option Addr) (n cap:Nat) (said:List StI) (k e:Int) (w:World) (hn:n≤1048576) (h:qL9 w a n said) (hk:w.cell? ⟨bk,0,none⟩=some (.int .i64 k)) (he:w.cell? ⟨be,0,none⟩=some (.int .i64 e)) :
  Calls Tryz.prog 135 #[.slice a n cap,.func (.func 136) #[] #[.pointer (some ⟨bk,0,none⟩),.pointer (some ⟨be,0,none⟩)]] w fun d w'=>(∃ i:Int,d = .returned (.int .i64 i)∧qZ1 said k e i)∧Below w.heap.size w w':=by
 have HZ:Hid (said.length=n):=h.1
 have H:Hid (qL9 w a n said):=h
 have hkl:=zL w ⟨bk,0,none⟩ hk
 have hel:=zL w ⟨be,0,none⟩ he
 have HC:Hid (∀ (x:StI) (w2:World),Below w.heap.size w w2 → Calls Tryz.prog 136 #[.agg #[.int .i64 x.k,.int .i64 x.e,.int .i64 x.f,.int .i64 x.s,.int .i64 x.n],.pointer (some ⟨bk,0,none⟩),.pointer (some ⟨be,0,none⟩)] w2 fun d w'=>d = .returned (.bool (decide (x.k=k∧x.e=e)))∧Below w2.heap.size w2 w'):=fun x w2 hb=>saidOf1_c bk be x k e w2 ((hb.cell (p:=⟨bk,0,none⟩) hkl).trans hk) ((hb.cell (p:=⟨be,0,none⟩) hel).trans he)
 clear h hk he hkl hel
 have hn':(n:Int)≤1048576:=by omega
 go_enter Tryz.func135,Tryz.ntmps135
 go_wp2_with fail
 go_loopw [8] (fun i wr=>∃ j:Nat,j≤n∧i = .int .i64 (j:Int)∧Hid (qI0 (said.drop j) k e=qI0 said k e)∧Below w.heap.size w wr) (fun i _=>n - (intOf i).toNat)
 case atStart=>exact ⟨0,Nat.zero_le _,rfl,by show qI0 (said.drop 0) k e=_;rw [List.drop_zero],Below.refl _ _⟩
 case round =>
  obtain ⟨j,hj,rfl,HP,hnx⟩:=hrel
  by_cases hlt:j < n
  ·obtain ⟨g,off,x,rfl,hs,hxa,hgl⟩:=H.out.at hlt
   have HS:Hid (said[j]? = some x):=hs
   have HD:=QB5 hs k e
   obtain ⟨g0,g1,g2,g3,g4⟩:=hxa.below hnx hgl
   have hbw:g < wr.heap.size:=Nat.lt_of_lt_of_le hgl hnx.size
   have hlt':(j:Int) < (n:Int):=by omega
   clear hs hxa
   by_cases q:x.k=k∧x.e=e
   ·have HI:Hid (qZ1 said k e (j:Int)):=.inr ⟨j,x,rfl,HS.out,by rw [← HP.out,HD,if_pos q]⟩
    have HQ:Hid (decide (x.k=k∧x.e=e)=true):=decide_eq_true q
    clear q HD
    go_wp2_with fail
    refine (HC.out x _ hnx).mono ?_
    rintro d w1 ⟨rfl,hb1⟩
    rw [HQ.out]
    go_wp2
    go_ret
    exact ⟨⟨_,rfl,HI.out⟩,hnx.trans (hb1.mono hnx.size)⟩
   ·have HN:Hid (qI0 (said.drop (j+1)) k e=qI0 said k e):=by show _=_;rw [← HP.out,HD,if_neg q]
    have HQ:Hid (decide (x.k=k∧x.e=e)=false):=decide_eq_false q
    clear q HD
    go_wp2_with fail
    refine (HC.out x _ hnx).mono ?_
    rintro d w1 ⟨rfl,hb1⟩
    rw [HQ.out]
    go_wp2
    exact ⟨⟨j+1,by omega,by go_num,HN,hnx.trans (hb1.mono hnx.size)⟩,by simp [intOf];omega⟩
  ·have hkn:j=n:=by omega
   subst hkn
   have HI:Hid (qZ1 said k e (-1)):=.inl ⟨rfl,by rw [← HP.out,List.drop_of_length_le (by rw [HZ.out];exact Nat.le_refl _)];rfl⟩
   go_wp2
   go_ret
   exact ⟨⟨_,rfl,HI.out⟩,hnx⟩
theorem QS4 (a:Option Addr) (n cap:Nat) (said:List StI) (k e:Int) (w:World) (hn:n≤1048576) (h:qL9 w a n said) :
  Calls Tryz.prog 106 #[.slice a n cap,.int .i64 k,.int .i64 e] w fun d w'=>(∃ i:Int,d = .returned (.int .i64 i)∧qZ1 said k e i)∧Below w.heap.size w w':=by
 obtain ⟨W,hW⟩:∃ W,W=(w.alloc (.cells #[.int .i64 k] 2)).alloc (.cells #[.int .i64 e] 2):=⟨_,rfl⟩
 have B0:Below w.heap.size w W:=by rw [hW];exact (zN).alloc (by simp) _
 have c0:W.cell? ⟨w.heap.size,0,none⟩=some (.int .i64 k):=by rw [hW];simp
 have c1:W.cell? ⟨w.heap.size+1,0,none⟩=some (.int .i64 e):=by rw [hW];simp
 have HC:Hid (Calls Tryz.prog 135 #[.slice a n cap,.func (.func 136) #[] #[.pointer (some ⟨w.heap.size,0,none⟩),.pointer (some ⟨w.heap.size+1,0,none⟩)]] W fun d w'=>(∃ i:Int,d = .returned (.int .i64 i)∧qZ1 said k e i)∧Below W.heap.size W w'):=saidIndex_c _ _ a n cap said k e W hn (h.below B0) c0 c1
 clear h c0 c1
 have hmf:∀ (fn:Fn) (first cap:Array Value) (w:World),(Instr.makeFunc fn first cap).run Tryz.prog w = .ok (.func fn first cap) w:=fun _ _ _ _=>rfl
 go_enter Tryz.func106,Tryz.ntmps106
 go_wp2_with fail
 rw [← hW]
 clear hW
 refine HC.out.mono ?_
 rintro d w1 ⟨⟨i,rfl,hi⟩,hb1⟩
 go_wp2
 go_ret
 exact ⟨⟨i,rfl,hi⟩,B0.trans (hb1.mono B0.size)⟩
end

theorem tk_steps {locks needs:List LkI} (hs:SL locks) (ho:∀ x ∈ locks,okL x=true) (hn:SL needs) (hno:∀ x ∈ needs,okL x=true):∀ k,k≤needs.length → qJ0 locks needs k=none ∨ ∃ all,TkS locks needs k all
 | 0,_ => .inr ⟨locks,TkS.zero needs hs ho⟩
 | k+1,hk=>by
  rcases tk_steps hs ho hn hno k (by omega) with h | ⟨all,h⟩
  ·exact .inl (qS7 h (by omega))
  ·have hx:=List.getElem?_eq_getElem (l:=needs) (i:=k) (by omega)
   have hok:=hno _ (List.mem_of_getElem? hx)
   rcases QC6 locks all needs[k] with ⟨h0,_⟩ | ⟨h0,h1,_⟩ | ⟨h0,h1,h2⟩
   ·exact .inr ⟨_,h.put hn hx hok h0⟩
   ·exact .inr ⟨_,h.stay hx h0 h1⟩
   ·exact .inl (by rw [qI9 h.tk hx];exact h2)

theorem qY6:∀ {gs:List LkI} {x:LkI},SL gs → x ∈ gs → qE3 gs x.e x.c x.p=x.f
 | y :: r,x,hs,hx=>by
  have hs':=List.pairwise_cons.1 hs
  rw [qV3]
  by_cases q:y.e=x.e∧y.c=x.c∧y.p=x.p
  ·rw [if_pos q]
   rcases List.mem_cons.1 hx with rfl | h
   ·rfl
   ·have hlt:=hs'.1 x h
    simp only [ltL,decide_eq_true_eq] at hlt
    omega
  ·rw [if_neg q]
   rcases List.mem_cons.1 hx with rfl | h
   ·exact absurd ⟨rfl,rfl,rfl⟩ q
   ·exact qY6 hs'.2 h
theorem QK3:∀ {gs:List LkI} {x:LkI},qE3 gs x.e x.c x.p=x.f → x.f ≠ 0 → x ∈ gs
 | [],x,h,h0=>absurd h.symm h0
 | y :: r,x,h,h0=>by
  rw [qV3] at h
  by_cases q:y.e=x.e∧y.c=x.c∧y.p=x.p
  ·rw [if_pos q] at h
   have : y=x:=by
    cases x;cases y
    simp_all
   rw [this]
   exact List.mem_cons_self
  ·rw [if_neg q] at h
   exact List.mem_cons_of_mem _ (QK3 h h0)
theorem okL_form {x:LkI} (h:okL x=true):x.f ≠ 0:=by
 simp [okL,inR] at h
 omega
theorem tk_needs {locks needs:List LkI} (hs:SL locks) (ho:∀ x ∈ locks,okL x=true) (hn:SL needs) (hno:∀ x ∈ needs,okL x=true):∀ k,k≤needs.length → ∀ all,qJ0 locks needs k=some all → TkS locks needs k all∧∀ j x,j < k → needs[j]? = some x → x ∈ all
 | 0,_,all,h=>by
  have : locks=all:=Option.some.inj h
  subst this
  exact ⟨TkS.zero needs hs ho,fun j x hj _=>by omega⟩
 | k+1,hk,all,h=>by
  have hx:=List.getElem?_eq_getElem (l:=needs) (i:=k) (by omega)
  have hok:=hno _ (List.mem_of_getElem? hx)
  rcases tk_steps hs ho hn hno k (by omega) with q | ⟨all0,q⟩
  ·rw [qS7 q (by omega)] at h;cases h
  ·have ih:=(tk_needs hs ho hn hno k (by omega) all0 q.tk).2
   rw [qI9 q.tk hx] at h
   rcases QC6 locks all0 needs[k] with ⟨h0,h1⟩ | ⟨h0,h1,h2⟩ | ⟨h0,h1,h2⟩
   ·rw [h1] at h
    have e:QA5 all0 needs[k]=all:=Option.some.inj h
    subst e
    refine ⟨q.put hn hx hok h0,fun j x hj hjx=>?_⟩
    by_cases e:j=k
    ·subst e
     rw [hx] at hjx
     cases hjx
     exact QH4.2 (.inl rfl)
    ·exact QH4.2 (.inr (ih j x (by omega) hjx))
   ·rw [h2] at h
    have e:all0=all:=Option.some.inj h
    subst e
    refine ⟨q.stay hx h0 h1,fun j x hj hjx=>?_⟩
    by_cases e:j=k
    ·subst e
     rw [hx] at hjx
     cases hjx
     exact q.old _ (QK3 h1 (okL_form hok))
    ·exact ih j x (by omega) hjx
   ·rw [h2] at h;cases h
theorem tk_again {all needs:List LkI} (hs:SL all) (hno:∀ x ∈ needs,okL x=true) (hm:∀ x ∈ needs,x ∈ all):∀ k,k≤needs.length → qJ0 all needs k=some all
 | 0,_=>rfl
 | k+1,hk=>by
  have hx:=List.getElem?_eq_getElem (l:=needs) (i:=k) (by omega)
  have hmem:=List.mem_of_getElem? hx
  have hf:=qY6 hs (hm _ hmem)
  have h0:=okL_form (hno _ hmem)
  rw [qI9 (tk_again hs hno hm k (by omega)) hx,qN8,if_neg (by rw [hf];exact h0),if_pos hf]
theorem tk_refused {locks needs:List LkI} {j:Nat} {x:LkI} (hx:needs[j]? = some x) (h0:qE3 locks x.e x.c x.p ≠ 0) (h1:qE3 locks x.e x.c x.p ≠ x.f):qI7 locks needs=6:=by
 have hj:j < needs.length:=by
  by_cases q:j < needs.length
  ·exact q
  ·rw [List.getElem?_eq_none (by omega)] at hx;cases hx
 have hn:qJ0 locks needs (j+1)=none:=by
  cases h:qJ0 locks needs j with
  | none=>exact qS7 h (by omega)
  | some all=>rw [qI9 h hx,qN8,if_neg h0,if_neg h1]
 exact (QC5 hn (by omega)).1

theorem lk_of {gs:List LkI} (hl:gs.length≤200) (hs:SL gs) (ho:∀ x ∈ gs,okL x=true):qJ5 gs=0:=by
 have key:∀ k,k≤gs.length → QH5 gs k=0:=by
  intro k
  induction k with
  | zero=>intro _;rfl
  | succ k ih =>
   intro hk
   have hx:=List.getElem?_eq_getElem (l:=gs) (i:=k) (by omega)
   rw [QL1 hx (ih (by omega)),QE9]
   refine ⟨ho _ (List.mem_of_getElem? hx),?_⟩
   cases k with
   | zero=>rfl
   | succ j =>
    have hy:=List.getElem?_eq_getElem (l:=gs) (i:=j) (by omega)
    rw [prevL_of hy]
    exact List.pairwise_iff_getElem.1 hs j (j+1) (by omega) (by omega) (by omega)
 unfold qJ5
 rw [if_neg (by omega)]
 exact key _ (Nat.le_refl _)
theorem QQ7 {s p:Int}:∀ {k:Nat},1≤p → p≤(k:Int) → qI5 s p=true → p ∈ qB2 s k
 | 0,h1,h2,_=>by omega
 | k+1,h1,h2,h=>by
  by_cases e:p=(k:Int)+1
  ·subst e
   rw [qV0 s k h]
   simp
  ·have ih:=QQ7 (s:=s) (p:=p) (k:=k) h1 (by omega) h
   unfold qB2
   split
   ·exact List.mem_append.2 (.inl ih)
   ·exact ih
theorem QE7 {zs:List Int} {e f s p z:Int} {k:Nat} (hz:zs[k]? = some z) (hf:qI5 z f=true) (h1:1≤p) (h2:p≤8) (hp:qI5 s p=true):∀ n,k < n → (⟨e,(k:Int),p,f⟩:LkI) ∈ qB3 zs e f s n
 | 0,h=>by omega
 | n+1,h=>by
  unfold qB3
  by_cases e':k=n
  ·subst e'
   refine List.mem_append.2 (.inr ?_)
   unfold qR9
   rw [hz,if_pos (by simpa using hf)]
   unfold qF9
   exact List.mem_map.2 ⟨p,QQ7 h1 (by simpa using h2) hp,rfl⟩
  ·exact List.mem_append.2 (.inl (QE7 hz hf h1 h2 hp n (by omega)))
theorem some_bit:∀ n:Fin 256,n.val=0 ∨ ∃ k:Fin 8,n.val.testBit k.val=true:=by decide +kernel
theorem some_in {s:Int} (h0:0≤s) (h1:s≤255) (hs:s ≠ 0):∃ p:Int,1≤p∧p≤8∧qI5 s p=true:=by
 obtain ⟨n,rfl⟩:=Int.eq_ofNat_of_zero_le h0
 rcases some_bit ⟨n,by omega⟩ with h | ⟨k,h⟩
 ·simp only at h;omega
 ·refine ⟨(k.val:Int)+1,by omega,by have:=k.isLt;omega,?_⟩
  simpa [qI5] using h
theorem classes_law {L:List LkI} {zs:List Int} {e f s:Int} (h:qD9 L zs e f s=0) :
  qE1 zs e f s=0∧qJ5 (qL1 L zs e f s)=0∧(qL1 L zs e f s).length≤200∧(∀ x ∈ qB3 zs e f s zs.length,qE3 (qL1 L zs e f s) e x.c x.p=f)∧(∀ x ∈ L,qE3 (qL1 L zs e f s) x.e x.c x.p=x.f)∧L.length≤200
   ∧ qD9 (qL1 L zs e f s) zs e f s=0∧qL1 (qL1 L zs e f s) zs e f s=qL1 L zs e f s∧(∀ o,clashV zs f o=true → s ≠ 0 → qD9 (qL1 L zs e f s) zs e o s=6):=by
 have hk:qJ5 L=0:=by
  by_cases q:qJ5 L=0
  ·exact q
  ·unfold qD9 at h;rw [if_neg q] at h;exact absurd h q
 have hn:qE1 zs e f s=0:=by
  by_cases q:qE1 zs e f s=0
  ·exact q
  ·unfold qD9 at h;rw [if_pos hk,if_neg q] at h;exact absurd h q
 have ht:qI7 L (qB3 zs e f s zs.length)=0:=by unfold qD9 at h;rw [if_pos hk,if_pos hn] at h;exact h
 have hR:qL1 L zs e f s=tkL L (qB3 zs e f s zs.length):=by unfold qL1;rw [if_pos ⟨hk,hn⟩]
 obtain ⟨l1,l2,l3⟩:=QE8 hk
 obtain ⟨n1,n2⟩:=QT0 hn
 obtain ⟨n0,ne,nf,ns⟩:=QK1 hn
 cases ha:qJ0 L (qB3 zs e f s zs.length) (qB3 zs e f s zs.length).length with
 | none=>rw [(QC5 ha (Nat.le_refl _)).1] at ht;cases ht
 | some all =>
  have hm:¬ 200 < all.length:=fun q=>by rw [(QS1 ha q).1] at ht;cases ht
  have hRa:qL1 L zs e f s=all:=by rw [hR];exact (QE4 ha hm).2
  obtain ⟨T,hin⟩:=tk_needs l2 l3 n1 n2 _ (Nat.le_refl _) all ha
  have hmem:∀ x ∈ qB3 zs e f s zs.length,x ∈ all:=fun x hx=>by
   obtain ⟨j,hj,e'⟩:=List.getElem_of_mem hx
   exact hin j x hj (by rw [List.getElem?_eq_getElem hj,e'])
  have hlk:qJ5 all=0:=lk_of (by omega) T.sl T.ok
  have hag:=tk_again T.sl n2 hmem (qB3 zs e f s zs.length).length (Nat.le_refl _)
  rw [hRa]
  refine ⟨hn,hlk,by omega,fun x hx=>?_,fun x hx=>qY6 T.sl (T.old x hx),l1,?_,?_,fun o hc hs0=>?_⟩
  ·have q:=(QK2 zs e f s zs.length).2 x hx
   have:=qY6 T.sl (hmem x hx)
   rw [q.1,q.2.2.2] at this
   exact this
  ·unfold qD9;rw [if_pos hlk,if_pos hn];exact (QE4 hag hm).1
  ·unfold qL1;rw [if_pos ⟨hlk,hn⟩];exact (QE4 hag hm).2
  ·simp only [clashV,clashB,bothB,Bool.and_eq_true,List.any_eq_true,beq_iff_eq,bne_iff_ne] at hc
   obtain ⟨_,_,ho,hne,z,hz,hzf,hzo⟩:=hc
   obtain ⟨k,hkl,hzk⟩:=List.getElem_of_mem hz
   have hzk':zs[k]? = some z:=by rw [List.getElem?_eq_getElem hkl,hzk]
   rw [qG4] at ns
   obtain ⟨p,p1,p2,hp⟩:=some_in ns.1 ns.2 hs0
   have m1:=hmem _ (QE7 (e:=e) hzk' hzf p1 p2 hp zs.length hkl)
   have m2:=QE7 (e:=e) hzk' hzo p1 p2 hp zs.length hkl
   have f1:qE3 all e (k:Int) p=f:=qY6 T.sl m1
   obtain ⟨j,hj,ej⟩:=List.getElem_of_mem m2
   have hno:qE1 zs e o s=0:=need_of n0 ne ho (by rw [qG4];exact ns)
   unfold qD9
   rw [if_pos hlk,if_pos hno]
   rw [qG4] at nf
   exact tk_refused (j:=j) (x:=⟨e,(k:Int),p,o⟩) (by rw [List.getElem?_eq_getElem hj,ej]) (by show qE3 all e (k:Int) p ≠ 0;rw [f1];omega) (by show qE3 all e (k:Int) p ≠ o;rw [f1];exact hne)

structure qI3 where
 es:List Int
 al:Nat → Int → Int → Bool
 cl:Nat → List Int
def nextOf (o:Option StI):Int:=match o with
 | some y=>y.n
 | none => -1
def qB4 (E:qI3) (said:List StI) (e:Int):Int:=if e=E.es.headD 0 then 0 else nextOf (qI0 said 4 (e - 1))
def qD0 (E:qI3) (said:List StI) (x:StI):Int:=if qQ4 said x.k x.e=true then 6 else if (E.es.length:Int)≤x.n then 3 else if E.es[x.n.toNat]?.getD 0 ≠ x.e+1 then 10 else 0
def qH2 (E:qI3) (said:List StI) (locks:List LkI) (p:Nat) (x:StI):Int:=if (qT7 said x.e || qD5 said (qS4 x))=true then 9 else if E.al p x.f x.s=false then 8 else qD9 locks (E.cl p) x.e x.f x.s
def qF5 (E:qI3) (said:List StI) (locks:List LkI) (x:StI):Int:=if qB4 E said x.e < 0 then 4 else if 40≤said.length then 2 else if x.k=1 then qH2 E said locks (qB4 E said x.e).toNat x else if x.k=2 then 0 else qD0 E said x
def qF0 (E:qI3) (said:List StI) (locks:List LkI) (x:StI):Int:=if qC2 x=0 then (if qD5 said x=true then 0 else qF5 E said locks x) else qC2 x
def qE0 (E:qI3) (said:List StI) (locks:List LkI) (x:StI):List LkI:=if x.k=1 then qL1 locks (E.cl (qB4 E said x.e).toNat) x.e x.f x.s else locks
def qY8 (said:List StI) (x:StI):List StI:=if qD5 said x=true then said else said ++ [x]
def qT3 (E:qI3) (said:List StI) (locks:List LkI) (x:StI):List LkI:=if qD5 said x=true then locks else qE0 E said locks x
def qF4 (E:qI3) (xs:List StI):Nat → Option (List LkI)
 | 0=>some []
 | k+1=>match qF4 E xs k with
  | none=>none
  | some ls=>match xs[k]? with
   | none=>some ls
   | some x=>if qD5 (xs.take k) x=true then none else if qF0 E (xs.take k) ls x=0 then some (qE0 E (xs.take k) ls x) else none
theorem qZ5 {E:qI3} {xs:List StI} {k m:Nat} (h:qF4 E xs k=none) (hm:k≤m):qF4 E xs m=none:=by
  induction m with
  | zero => obtain rfl:k=0:=by omega
            exact h
  | succ m ih =>
    by_cases e:k=m+1
    · subst e;exact h
    · simp [qF4,ih (by omega)]
theorem QJ7 {E:qI3} {xs:List StI} {k:Nat} {ls:List LkI} {x:StI} (h:qF4 E xs k=some ls) (hx:xs[k]? = some x):qF4 E xs (k+1)=if qD5 (xs.take k) x=true then none else if qF0 E (xs.take k) ls x=0 then some (qE0 E (xs.take k) ls x) else none:=by
 simp [qF4,h,hx]
structure RpS (E:qI3) (said:List StI) (ls:List LkI):Prop where
 lk:qJ5 ls=0
 st:∀ x ∈ said,qC2 x=0
 nx:∀ x ∈ said,x.k=4 → 0≤x.n∧x.n < (E.es.length:Int)
 len:said.length≤40
theorem RpS.nil (E:qI3):RpS E [] []:=⟨rfl,fun x h=>(List.not_mem_nil h).elim,fun x h=>(List.not_mem_nil h).elim,Nat.zero_le _⟩
theorem st_zero {x:StI} (h:qC2 x=0):inR x.k 1 4=true∧ownB x=true∧rngB x=true:=by
 unfold qC2 at h
 cases h1:inR x.k 1 4 with
 | false=>rw [h1] at h;simp at h
 | true =>
  cases h2:ownB x with
  | false=>rw [h1,h2] at h;simp at h
  | true =>
   cases h3:rngB x with
   | false=>rw [h1,h2,h3] at h;simp at h
   | true=>exact ⟨rfl,rfl,rfl⟩
theorem qH7 {x:StI} (h:qC2 x=0):(1≤x.k∧x.k≤4)∧(1≤x.e∧x.e≤9)∧(0≤x.n∧x.n≤7)∧(0≤x.f∧x.f≤4)∧(0≤x.s∧x.s≤255)∧(x.k≤2 → 1≤x.f∧1≤x.s∧x.n=0)∧(3≤x.k → x.f=0∧x.s=0):=by
 obtain ⟨h1,h2,h3⟩:=st_zero h
 rw [qG4] at h1
 have h2':x=ownI x:=by
  have : qO8 x (ownI x)=true:=h2
  exact of_decide_eq_true this
 unfold rngB at h3
 cases q:inR x.e 1 9 with
 | false=>rw [q] at h3;simp at h3
 | true =>
  rw [q] at h3
  rw [qG4] at q
  unfold ownI at h2'
  cases f:QG8 x.k with
  | true =>
   rw [f] at h3 h2'
   simp only [Bool.true_eq_false, ↓reduceIte] at h3 h2'
   have hn:x.n=0:=by rw [h2']
   cases g:inR x.f 1 4 with
   | false=>rw [g] at h3;simp at h3
   | true =>
    rw [g] at h3
    simp only [Bool.true_eq_false, ↓reduceIte] at h3
    rw [qG4] at g h3
    have hk:x.k=1 ∨ x.k=2:=by simpa [QG8] using f
    omega
  | false =>
   rw [f] at h3 h2'
   simp only [Bool.true_eq_false,Bool.false_eq_true, ↓reduceIte] at h3 h2'
   rw [qG4] at h3
   have hf:x.f=0:=by rw [h2']
   have hs:x.s=0:=by rw [h2']
   have hk:¬ (x.k=1 ∨ x.k=2):=by
    intro q
    have : QG8 x.k=true:=by simpa [QG8] using q
    rw [this] at f;cases f
   omega
theorem take_lk {L:List LkI} {zs:List Int} {e f s:Int} (h:qD9 L zs e f s=0):qJ5 (qL1 L zs e f s)=0:=(classes_law h).2.1
theorem QK0 {E:qI3} {said:List StI} {ls:List LkI} {x:StI} (hc:qF5 E said ls x=0):¬ qB4 E said x.e < 0∧¬ 40≤said.length∧(x.k=1 → qH2 E said ls (qB4 E said x.e).toNat x=0)∧(x.k ≠ 1 → x.k ≠ 2 → qD0 E said x=0):=by
 unfold qF5 at hc
 by_cases h1:qB4 E said x.e < 0
 ·rw [if_pos h1] at hc;omega
 ·rw [if_neg h1] at hc
  by_cases h2:40≤said.length
  ·rw [if_pos h2] at hc;omega
  ·rw [if_neg h2] at hc
   refine ⟨h1,h2,fun q=>?_,fun q q2=>?_⟩
   ·rw [if_pos q] at hc;exact hc
   ·rw [if_neg q,if_neg q2] at hc;exact hc
theorem issue_parts {E:qI3} {said:List StI} {ls:List LkI} {p:Nat} {x:StI} (hc:qH2 E said ls p x=0):(qT7 said x.e || qD5 said (qS4 x))=false∧E.al p x.f x.s=true∧qD9 ls (E.cl p) x.e x.f x.s=0:=by
 unfold qH2 at hc
 cases h1:(qT7 said x.e || qD5 said (qS4 x)) with
 | true=>rw [if_pos h1] at hc;omega
 | false =>
  rw [if_neg (by rw [h1];simp)] at hc
  cases h2:E.al p x.f x.s with
  | false=>rw [if_pos h2] at hc;omega
  | true=>rw [if_neg (by rw [h2];simp)] at hc;exact ⟨rfl,rfl,hc⟩
theorem next_parts {E:qI3} {said:List StI} {x:StI} (hc:qD0 E said x=0):qQ4 said x.k x.e=false∧x.n < (E.es.length:Int)∧E.es[x.n.toNat]?.getD 0=x.e+1:=by
 unfold qD0 at hc
 cases h1:qQ4 said x.k x.e with
 | true=>rw [if_pos h1] at hc;omega
 | false =>
  rw [if_neg (by rw [h1];simp)] at hc
  by_cases h2:(E.es.length:Int)≤x.n
  ·rw [if_pos h2] at hc;omega
  ·rw [if_neg h2] at hc
   by_cases h3:E.es[x.n.toNat]?.getD 0=x.e+1
   ·exact ⟨rfl,by omega,h3⟩
   ·rw [if_pos h3] at hc;omega
theorem new_lk {E:qI3} {said:List StI} {ls:List LkI} {x:StI} (h:RpS E said ls) (hc:qF5 E said ls x=0):qJ5 (qE0 E said ls x)=0:=by
 unfold qE0
 by_cases q:x.k=1
 ·rw [if_pos q]
  exact take_lk (issue_parts ((QK0 hc).2.2.1 q)).2.2
 ·rw [if_neg q];exact h.lk
theorem RpS.next {E:qI3} {said:List StI} {ls:List LkI} {x:StI} (h:RpS E said ls) (hs:qC2 x=0) (hc:qF5 E said ls x=0):RpS E (said ++ [x]) (qE0 E said ls x):=by
 have hl:=(QK0 hc).2.1
 refine ⟨new_lk h hc,fun y hy=>?_,fun y hy hk=>?_,by rw [List.length_append];simp;omega⟩
 ·rcases List.mem_append.1 hy with q | q
  ·exact h.st y q
  ·rw [List.mem_singleton] at q;rw [q];exact hs
 ·rcases List.mem_append.1 hy with q | q
  ·exact h.nx y q hk
  ·rw [List.mem_singleton] at q
   subst q
   exact ⟨(qH7 hs).2.2.1.1,(next_parts ((QK0 hc).2.2.2 (by omega) (by omega))).2.1⟩
theorem end_new {E:qI3} {said:List StI} {ls:List LkI} {x:StI} (hn:qD5 said x=false) (hc:qF0 E said ls x=0):qC2 x=0∧qF5 E said ls x=0:=by
 unfold qF0 at hc
 split at hc
 ·rename_i q
  rw [hn] at hc
  simp only [Bool.false_eq_true, ↓reduceIte] at hc
  exact ⟨q,hc⟩
 ·rename_i q;exact absurd hc q
theorem QS8 {E:qI3} {xs:List StI}:∀ k ls,k≤xs.length → qF4 E xs k=some ls → RpS E (xs.take k) ls
 | 0,ls,_,h=>by
  have : ([]:List LkI)=ls:=Option.some.inj h
  subst this
  simpa using RpS.nil E
 | k+1,ls,hk,h=>by
  cases hp:qF4 E xs k with
  | none=>rw [qZ5 hp (by omega)] at h;cases h
  | some l0 =>
   have hx:=List.getElem?_eq_getElem (l:=xs) (i:=k) (by omega)
   have ih:=QS8 k l0 (by omega) hp
   rw [QJ7 hp hx] at h
   split at h
   ·cases h
   ·rename_i hn
    split at h
    ·rename_i hc
     have e:qE0 E (xs.take k) l0 xs[k]=ls:=Option.some.inj h
     subst e
     have hn':qD5 (xs.take k) xs[k]=false:=by simpa using hn
     obtain ⟨q1,q2⟩:=end_new hn' hc
     rw [List.take_succ_eq_append_getElem (by omega)]
     exact ih.next q1 q2
    ·cases h
theorem known_in {E:qI3} {said:List StI} {ls:List LkI} (h:RpS E said ls) (hE:0 < E.es.length) (e:Int):qB4 E said e = -1 ∨ (0≤qB4 E said e∧qB4 E said e < (E.es.length:Int)):=by
 unfold qB4
 split
 ·exact .inr ⟨by omega,by omega⟩
 ·cases hk:qI0 said 4 (e - 1) with
  | none=>exact .inl rfl
  | some y =>
   have hm:=List.mem_of_find?_eq_some hk
   have hp:=List.find?_some hk
   simp only [Bool.and_eq_true,decide_eq_true_eq] at hp
   exact .inr (h.nx y hm hp.1)

theorem QH8 {said:List StI} {k e i:Int} (h:qZ1 said k e i):decide (0≤i)=qQ4 said k e:=by
 rw [kindB_at]
 rcases h with ⟨rfl,q⟩ | ⟨j,x,rfl,_,q⟩
 ·rw [q];rfl
 ·rw [q];simp
theorem isSealed_c (a:Option Addr) (n cap:Nat) (said:List StI) (e:Int) (w:World) (hn:n≤1048576) (h:qL9 w a n said) :
  Calls Tryz.prog 107 #[.slice a n cap,.int .i64 e] w fun d w'=>d = .returned (.bool (qT7 said e))∧Below w.heap.size w w':=by
 have HK:Hid (∀ (k:Int) (w2:World),Below w.heap.size w w2 → Calls Tryz.prog 106 #[.slice a n cap,.int .i64 k,.int .i64 e] w2 fun d w'=>(∃ i:Int,d = .returned (.int .i64 i)∧qZ1 said k e i)∧Below w2.heap.size w2 w'):=fun k w2 hb=>QS4 a n cap said k e w2 hn (h.below hb)
 clear h
 unfold qT7
 cases q:qQ4 said 3 e
 ·have HQ:Hid (qQ4 said 3 e=false):=q
  clear q
  obtain ⟨t,ht⟩:∃ t,qQ4 said 4 e=t:=⟨_,rfl⟩
  have HT:Hid (qQ4 said 4 e=t):=ht
  rw [ht,Bool.false_or]
  clear ht
  go_enter Tryz.func107,Tryz.ntmps107
  go_wp2_with fail
  refine (HK.out 3 _ (Below.refl _ _)).mono ?_
  rintro d w1 ⟨⟨i,rfl,hi⟩,hb1⟩
  have h1:=QH8 hi
  rw [HQ.out] at h1
  clear hi
  go_wp2_with fail
  refine (HK.out 4 _ hb1).mono ?_
  rintro d w2 ⟨⟨i2,rfl,hi2⟩,hb2⟩
  have h2:=QH8 hi2
  rw [HT.out] at h2
  have H2:Hid (decide (0≤i2)=t):=h2
  clear hi2 h1 h2
  go_wp2
  go_ret
  exact ⟨by rw [← H2.out];rfl,hb1.trans (hb2.mono hb1.size)⟩
 ·have HQ:Hid (qQ4 said 3 e=true):=q
  clear q
  rw [Bool.true_or]
  go_enter Tryz.func107,Tryz.ntmps107
  go_wp2_with fail
  refine (HK.out 3 _ (Below.refl _ _)).mono ?_
  rintro d w1 ⟨⟨i,rfl,hi⟩,hb1⟩
  have h1:=QH8 hi
  rw [HQ.out] at h1
  clear hi
  go_wp2
  go_ret
  exact ⟨rfl,hb1⟩
theorem QW6 (r:qG9) (l:Int) (w:World) (h0:(r.sn:Int)+(r.ln:Int)≤l) (hl:l≤1048576) :
  Calls Tryz.prog 8 #[.agg #[.int .i64 r.i,.int .i64 r.u,.slice r.sa r.sn r.sc,.slice r.la r.ln r.lc],.int .i64 l] w fun e w'=>e = .returned (.int .i64 (l - r.sn - r.ln))∧Below w.heap.size w w':=by
 have h1:(r.sn:Int)≤l:=by omega
 have h2:¬ (l - (r.sn:Int) < 0):=by omega
 have h3:¬ (l - (r.sn:Int) - (r.ln:Int) < 0):=by omega
 go_enter Tryz.func8,Tryz.ntmps8
 go_wp2_with go_in
 go_ret
 exact ⟨rfl,by go_grown⟩
theorem QN7 (r:qG9) (l:Int) (w:World) (hm:r.sn≤maxLen) (h0:l < (r.sn:Int)) (hl0:0≤l) (hl:l≤1048576) :
  Calls Tryz.prog 8 #[.agg #[.int .i64 r.i,.int .i64 r.u,.slice r.sa r.sn r.sc,.slice r.la r.ln r.lc],.int .i64 l] w fun e w'=>e = .returned (.int .i64 (-1))∧Below w.heap.size w w':=by
 unfold maxLen at hm
 have hm':(r.sn:Int)≤9223372036854775807:=by omega
 clear hm
 go_enter Tryz.func8,Tryz.ntmps8
 go_wp2_with go_in
 go_ret
 exact ⟨rfl,by go_grown⟩
theorem QI8 (r:qG9) (l:Int) (w:World) (h1:(r.sn:Int)≤l) (hm:r.ln≤maxLen) (h0:l < (r.sn:Int)+(r.ln:Int)) (hl:l≤1048576) :
  Calls Tryz.prog 8 #[.agg #[.int .i64 r.i,.int .i64 r.u,.slice r.sa r.sn r.sc,.slice r.la r.ln r.lc],.int .i64 l] w fun e w'=>e = .returned (.int .i64 (-1))∧Below w.heap.size w w':=by
 unfold maxLen at hm
 have hm':(r.ln:Int)≤9223372036854775807:=by omega
 clear hm
 go_enter Tryz.func8,Tryz.ntmps8
 go_wp2_with go_in
 go_ret
 exact ⟨rfl,by go_grown⟩
theorem szReplica_c (r:qG9) (l:Int) (w:World) (hm:qK5 maxLen r) (hl0:0≤l) (hl:l≤1048576) :
  Calls Tryz.prog 8 #[.agg #[.int .i64 r.i,.int .i64 r.u,.slice r.sa r.sn r.sc,.slice r.la r.ln r.lc],.int .i64 l] w fun e w'=>(∃ v:Int,e = .returned (.int .i64 v)∧v≤l∧(0≤v → (r.sn:Int)≤l∧(r.ln:Int)≤l))∧Below w.heap.size w w':=by
 by_cases h1:(r.sn:Int)≤l
 ·by_cases h2:(r.sn:Int)+(r.ln:Int)≤l
  ·exact (QW6 r l w h2 hl).mono fun e w' h=>⟨⟨_,h.1,by omega,fun _=>by omega⟩,h.2⟩
  ·exact (QI8 r l w h1 hm.locks (by omega) hl).mono fun e w' h=>⟨⟨_,h.1,by omega,fun q=>by omega⟩,h.2⟩
 ·exact (QN7 r l w hm.said (by omega) hl0 hl).mono fun e w' h=>⟨⟨_,h.1,by omega,fun q=>by omega⟩,h.2⟩

end Go.Proofs.YtlpgapdlepbgbaaGreatDoor
