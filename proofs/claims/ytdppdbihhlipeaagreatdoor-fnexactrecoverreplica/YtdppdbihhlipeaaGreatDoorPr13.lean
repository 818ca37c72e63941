/- Contracts. -/
import Derived.Test.YtdppdbihhlipeaaGreatDoorPr12
namespace Go.Proofs.YtdppdbihhlipeaaGreatDoor
set_option maxRecDepth 100000
set_option maxHeartbeats 8000000
open Go.RowKit
set_option linter.unusedVariables false
set_option linter.unusedSimpArgs false

structure StI where
 k:Int
 e:Int
 f:Int
 s:Int
 n:Int
deriving DecidableEq,Inhabited
def qL3 (w:World) (b o:Nat) (x:StI):Prop:=w.cell? ⟨b,o,none⟩=some (.int .i64 x.k)/\w.cell? ⟨b,o+1,none⟩=some (.int .i64 x.e)/\w.cell? ⟨b,o+2,none⟩=some (.int .i64 x.f)/\w.cell? ⟨b,o+3,none⟩=some (.int .i64 x.s)/\w.cell? ⟨b,o+4,none⟩=some (.int .i64 x.n)
theorem qL3.below {w w':World} {B b o:Nat} {x:StI} (h:qL3 w b o x) (hb:Below B w w') (hB:b < B):qL3 w' b o x :=
 ⟨(hb.cell (p:=⟨b,o,none⟩) hB).trans h.1,(hb.cell (p:=⟨b,o+1,none⟩) hB).trans h.2.1,(hb.cell (p:=⟨b,o+2,none⟩) hB).trans h.2.2.1,(hb.cell (p:=⟨b,o+3,none⟩) hB).trans h.2.2.2.1,(hb.cell (p:=⟨b,o+4,none⟩) hB).trans h.2.2.2.2⟩
def qN8 (w:World) (a:Option Addr) (n:Nat) (gs:List StI):Prop:=gs.length=n/\(0 < n->∃ b off,a=some ⟨b,off,none⟩/\∀ k x,gs[k]? = some x->qL3 w b (off+k * 5) x)
theorem qN8.below {w w':World} {a:Option Addr} {n:Nat} {gs:List StI} (h:qN8 w a n gs) (hb:Below w.heap.size w w'):qN8 w' a n gs:=by
 refine ⟨h.1,fun hn=>?_⟩;obtain ⟨b,off,e,k⟩:=h.2 hn;exact ⟨b,off,e,fun j x hx=>(k j x hx).below hb (zL w ⟨b,off+j * 5,none⟩ (k j x hx).1)⟩
theorem qN8.at {w:World} {a:Option Addr} {n:Nat} {gs:List StI} (h:qN8 w a n gs) {k:Nat} (hk:k < n):∃ b off x,a=some ⟨b,off,none⟩/\gs[k]? = some x/\qL3 w b (off+k * 5) x/\b < w.heap.size:=by
 obtain ⟨b,off,e,q⟩:=h.2 (by omega);have hx:=List.getElem?_eq_getElem (l:=gs) (i:=k) (by rw [h.1];exact hk);exact ⟨b,off,_,e,hx,q k _ hx,zL w ⟨b,off+k * 5,none⟩ (q k _ hx).1⟩
abbrev qFU (w:World) (g o:Nat) (s:StI):World:=(((((w.setCell ⟨g,o,none⟩ (.int .i64 s.k)).setCell ⟨g,o+1,none⟩ (.int .i64 s.e)).setCell ⟨g,o+2,none⟩ (.int .i64 s.f)).setCell ⟨g,o+3,none⟩ (.int .i64 s.s)).setCell ⟨g,o+4,none⟩ (.int .i64 s.n))
theorem qB1 (w:World) (g o:Nat) (s:StI) (a:Addr) (h:∀ j,j < 5->a≠⟨g,o+j,none⟩):(qFU w g o s).cell? a=w.cell? a:=by
 rw [World.cell?_setCell_other (h:=Ne.symm (h 4 (by omega))),World.cell?_setCell_other (h:=Ne.symm (h 3 (by omega))),World.cell?_setCell_other (h:=Ne.symm (h 2 (by omega))),World.cell?_setCell_other (h:=Ne.symm (h 1 (by omega))),World.cell?_setCell_other (h:=Ne.symm (a:=a) (b:=⟨g,o,none⟩) (by simpa using h 0 (by omega)))]
theorem Tryz.info85:(Tryz.prog.info? 85).map (fun i=>(i.zero,i.size,i.bytes))=some (some (.agg #[.int .i64 0,.int .i64 0,.int .i64 0,.int .i64 0,.int .i64 0]),5,40):=by kernel_rfl
theorem QI3 (x:StI) (w:World) :
  Calls Tryz.prog 68 #[.agg #[.int .i64 x.k,.int .i64 x.e,.int .i64 x.f,.int .i64 x.s,.int .i64 x.n],.agg #[.int .i64 x.k,.int .i64 x.e,.int .i64 x.f,.int .i64 x.s,.int .i64 x.n]] w fun e w'=>e = .returned (.bool true)/\Below w.heap.size w w':=by
 go_enter Tryz.func68,Tryz.ntmps68;go_wp2;go_ret;exact ⟨rfl,by go_grown⟩
theorem QF9 (a b:Option Addr) (n c d:Nat) (zs:List StI) (w:World) (hn:n<=1048576) (ha:qN8 w a n zs) (hb:qN8 w b n zs) :
  Calls Tryz.prog 36 #[.slice a n c,.slice b n d] w fun e w'=>e = .returned (.bool true)/\Below w.heap.size w w':=by
 have HA:Hid (qN8 w a n zs):=ha;have HB:Hid (qN8 w b n zs):=hb;clear ha hb;have hn':(n:Int)<=1048576:=by omega
 go_enter Tryz.func36,Tryz.ntmps36;go_wp2;go_loopw [5] (fun i wr=>∃ k:Nat,k<=n/\i = .int .i64 (k:Int)/\Below w.heap.size w wr) (fun i _=>n - (intOf i).toNat)
 case atStart=>exact ⟨0,Nat.zero_le _,rfl,Below.refl _ _⟩
 case round =>
  obtain ⟨k,hk,rfl,hnx⟩:=hrel;by_cases hlt:k < n
  ·obtain ⟨b1,o1,s,e1,hs,hr,hl1⟩:=HA.out.at hlt
   obtain ⟨b2,o2,s2,e2,hs2,hr2,hl2⟩:=HB.out.at hlt
   obtain rfl:s=s2:=Option.some.inj (hs.symm.trans hs2);subst e1 e2;clear hs hs2;obtain ⟨h0,h1,h2,h3,h4⟩:=hr.below hnx hl1;obtain ⟨g0,g1,g2,g3,g4⟩:=hr2.below hnx hl2;clear hr hr2;have hlt':(k:Int) < (n:Int):=by omega
   have hb1:b1 < wr.heap.size:=zL wr ⟨b1,o1+k * 5,none⟩ h0;have hb2:b2 < wr.heap.size:=zL wr ⟨b2,o2+k * 5,none⟩ g0;go_wp2
   go_region_held3 (fun w'=>(∀ b o,b < wr.heap.size->w'.cell? ⟨b,o,none⟩=wr.cell? ⟨b,o,none⟩)/\Below wr.heap.size wr w') (first | exact hS | exact qC1 _)
    (first | (go_at_call 68;refine (QI3 s _).mono ?_;rintro e w' ⟨rfl,hb1⟩;have hS:=qA9 (by assumption) hb1))
   go_wp2;exact ⟨⟨k+1,by omega,by go_num,hnx.trans (hS.2.mono hnx.size)⟩,by simp [intOf];omega⟩
  ·have hkn:k=n:=by omega
   subst hkn;go_wp2;go_ret;exact ⟨rfl,hnx⟩

def swT (k:Int):ByteArray:=if k=1 then ⟨#[105,115,115,117,101]⟩ else if k=2 then ⟨#[114,101,118,111,107,101]⟩ else if k=3 then ⟨#[110,101,120,116]⟩ else if k=4 then ⟨#[116,97,107,101]⟩ else ⟨#[]⟩
def QI2 (k:Int):Bool:=decide (k=1) || decide (k=2)
def qEi (x:StI):StI:=if QI2 x.k=true then ⟨x.k,x.e,x.f,x.s,0⟩ else ⟨x.k,x.e,0,0,x.n⟩
def qP0 (x y:StI):Bool:=decide (x=y)
def qIc (x:StI):Bool:=qP0 x (qEi x)
def qHs (x:StI):Bool:=if inR x.e 1 9=false then false else if QI2 x.k=true then (if inR x.f 1 4=false then false else inR x.s 1 255) else inR x.n 0 7
def qB5 (x:StI):Int:=if inR x.k 1 4=false then 1 else if qIc x=false then 1 else if qHs x=false then 3 else 0
theorem qAC (k:Int) (w:World):Calls Tryz.prog 120 #[.int .i64 k] w fun e w'=>e = .returned (.string (swT k))/\w=w':=by
 unfold swT;by_cases h1:k=1
 ·subst h1;go_enter Tryz.func120,Tryz.ntmps120;go_wp2;go_ret;exact ⟨rfl,rfl⟩
 by_cases h2:k=2
 ·subst h2;go_enter Tryz.func120,Tryz.ntmps120;go_wp2;go_ret;exact ⟨rfl,rfl⟩
 by_cases h3:k=3
 ·subst h3;go_enter Tryz.func120,Tryz.ntmps120;go_wp2;go_ret;exact ⟨rfl,rfl⟩
 by_cases h4:k=4
 ·subst h4;go_enter Tryz.func120,Tryz.ntmps120;go_wp2;go_ret;exact ⟨rfl,rfl⟩
 rw [if_neg h1,if_neg h2,if_neg h3,if_neg h4];go_enter Tryz.func120,Tryz.ntmps120;go_wp2;go_ret;exact ⟨rfl,rfl⟩
theorem qHg {a b:ByteArray} (h:a≠b):(a.toList==b.toList)=false:=by
 rw [beq_eq_false_iff_ne];intro e;rw [ByteArray.toList_eq,ByteArray.toList_eq] at e;exact h (WideShapes.bytes_inj e)
theorem qMo {k:Int} (h:inR k 1 4=true):swT k≠⟨#[]⟩:=by
 rw [qE7] at h;have : k=1\/k=2\/k=3\/k=4:=by omega
 rcases this with rfl | rfl | rfl | rfl <;> (intro e;have:=congrArg (fun b:ByteArray=>b.data.size) e;simp [swT] at this)
theorem qLc {k:Int} (h:inR k 1 4=false):swT k=⟨#[]⟩:=by
 have h':¬ (1<=k/\k<=4):=fun q=>by rw [<- qE7,h] at q;cases q
 unfold swT;rw [if_neg (by omega),if_neg (by omega),if_neg (by omega),if_neg (by omega)]
theorem qU6 (k:Int) (w:World):Calls Tryz.prog 148 #[.int .i64 k] w fun e w'=>e = .returned (.bool (QI2 k))/\w=w':=by
 unfold QI2;by_cases h1:k=1
 ·subst h1;go_enter Tryz.func148,Tryz.ntmps148;go_wp2;go_ret;exact ⟨rfl,rfl⟩
 by_cases h2:k=2
 ·subst h2;go_enter Tryz.func148,Tryz.ntmps148;go_wp2;go_ret;exact ⟨rfl,rfl⟩
 go_enter Tryz.func148,Tryz.ntmps148;go_wp2;go_ret;exact ⟨by simp [h1,h2],rfl⟩
theorem qJB (v:Int) (w:World):Calls Tryz.prog 152 #[.int .i64 v] w fun e w'=>e = .returned (.bool (inR v 0 7))/\w=w':=by
 unfold inR;cases h0:decide (0<=v)
 ·go_enter Tryz.func152,Tryz.ntmps152;go_wp2;go_ret;exact ⟨by simp,rfl⟩
 ·cases h1:decide (v<=7)
  all_goals
   go_enter Tryz.func152,Tryz.ntmps152;go_wp2;go_ret;exact ⟨by simp,rfl⟩
def qT6 (v:Int):Int:=if inR v 0 255=true then 0 else 3
theorem qCV (v:Int) (w:World):Calls Tryz.prog 151 #[.int .i64 v] w fun e w'=>e = .returned (.int .i64 (qT6 v))/\w=w':=by
 by_cases q0:0<=v
 ·by_cases q1:v < 256
  ·have e0:qT6 v=0:=by unfold qT6;rw [if_pos ((qE7 _ _ _).2 ⟨by omega,by omega⟩)]
   rw [e0];clear e0;go_enter Tryz.func151,Tryz.ntmps151;go_wp2;go_ret;exact ⟨rfl,rfl⟩
  ·have e0:qT6 v=3:=by unfold qT6;rw [if_neg (fun h=>by rw [qE7] at h;omega)]
   rw [e0];clear e0;have q2:(256:Int)<=v:=by omega
   go_enter Tryz.func151,Tryz.ntmps151;go_wp2;go_ret;exact ⟨rfl,rfl⟩
 ·have e0:qT6 v=3:=by unfold qT6;rw [if_neg (fun h=>by rw [qE7] at h;omega)]
  rw [e0];clear e0;have q2:v < (0:Int):=by omega
  go_enter Tryz.func151,Tryz.ntmps151;go_wp2;go_ret;exact ⟨rfl,rfl⟩
theorem qMp (x:StI) (w:World):Calls Tryz.prog 121 #[.agg #[.int .i64 x.k,.int .i64 x.e,.int .i64 x.f,.int .i64 x.s,.int .i64 x.n]] w fun e w'=>e = .returned (.agg #[.int .i64 (qEi x).k,.int .i64 (qEi x).e,.int .i64 (qEi x).f,.int .i64 (qEi x).s,.int .i64 (qEi x).n])/\Below w.heap.size w w':=by
 unfold qEi;cases hk:QI2 x.k
 all_goals
  go_enter Tryz.func121,Tryz.ntmps121;go_wp2_with (go_at_call 148;refine (qU6 _ _).mono ?_;rintro e w' ⟨rfl,rfl⟩;rw [hk])
  go_returns
  exact ⟨rfl,by go_grown⟩
theorem qFx (a0 a1 a2 a3 a4 b0 b1 b2 b3 b4:Int):qP0 ⟨a0,a1,a2,a3,a4⟩ ⟨b0,b1,b2,b3,b4⟩=(a0==b0&&a1==b1&&a2==b2&&a3==b3&&a4==b4):=by
 unfold qP0;rw [Bool.eq_iff_iff];simp only [decide_eq_true_eq,StI.mk.injEq,Bool.and_eq_true,beq_iff_eq];constructor
 ·rintro ⟨h0,h1,h2,h3,h4⟩;exact ⟨⟨⟨⟨h0,h1⟩,h2⟩,h3⟩,h4⟩
 ·rintro ⟨⟨⟨⟨h0,h1⟩,h2⟩,h3⟩,h4⟩;exact ⟨h0,h1,h2,h3,h4⟩
theorem qFo (x y:StI) (w:World):(binOp .eql 85 (.agg #[.int .i64 x.k,.int .i64 x.e,.int .i64 x.f,.int .i64 x.s,.int .i64 x.n]) (.agg #[.int .i64 y.k,.int .i64 y.e,.int .i64 y.f,.int .i64 y.s,.int .i64 y.n])).run Tryz.prog w = .ok (.bool (qP0 x y)) w:=by
 obtain ⟨a0,a1,a2,a3,a4⟩:=x;obtain ⟨b0,b1,b2,b3,b4⟩:=y;simp only;rw [qFx];cases e0:(a0==b0)
 ·simp [go_sem,e0]
 cases e1:(a1==b1)
 ·simp [go_sem,e0,e1]
 cases e2:(a2==b2)
 ·simp [go_sem,e0,e1,e2]
 cases e3:(a3==b3)
 ·simp [go_sem,e0,e1,e2,e3]
 cases e4:(a4==b4)
 ·simp [go_sem,e0,e1,e2,e3,e4]
 ·simp [go_sem,e0,e1,e2,e3,e4]

theorem qL3.new (w:World) (x:StI) (t:TypeId):qL3 (w.alloc (.cells #[.int .i64 x.k,.int .i64 x.e,.int .i64 x.f,.int .i64 x.s,.int .i64 x.n] t)) w.heap.size 0 x:=by
 simp [qL3]
theorem qFF (x:StI) (w:World):Calls Tryz.prog 122 #[.agg #[.int .i64 x.k,.int .i64 x.e,.int .i64 x.f,.int .i64 x.s,.int .i64 x.n]] w fun e w'=>e = .returned (.bool (qHs x))/\Below w.heap.size w w':=by
 obtain ⟨xk,xe,xf,xs,xn⟩:=x;unfold qHs;simp only;cases he:inR xe 1 9
 ·go_enter Tryz.func122,Tryz.ntmps122;go_wp2_with (go_at_call 149;refine (qI0 _ _).mono ?_;rintro e w' ⟨rfl,rfl⟩;rw [he])
  go_ret;exact ⟨rfl,by go_grown⟩
 ·cases hk:QI2 xk
  ·cases hn:inR xn 0 7
   all_goals
    go_enter Tryz.func122,Tryz.ntmps122
    go_wp2_with (first
     | (go_at_call 149;refine (qI0 _ _).mono ?_;rintro e w' ⟨rfl,rfl⟩;rw [he])
     | (go_at_call 148;refine (qU6 _ _).mono ?_;rintro e w' ⟨rfl,rfl⟩;rw [hk])
     | (go_at_call 152;refine (qJB _ _).mono ?_;rintro e w' ⟨rfl,rfl⟩;rw [hn]))
    go_ret;exact ⟨rfl,by go_grown⟩
  ·cases hf:inR xf 1 4
   ·go_enter Tryz.func122,Tryz.ntmps122
    go_wp2_with (first
     | (go_at_call 149;refine (qI0 _ _).mono ?_;rintro e w' ⟨rfl,rfl⟩;rw [he])
     | (go_at_call 148;refine (qU6 _ _).mono ?_;rintro e w' ⟨rfl,rfl⟩;rw [hk])
     | (go_at_call 150;refine (QB6 _ _).mono ?_;rintro e w' ⟨rfl,rfl⟩;rw [hf]))
    go_ret;exact ⟨rfl,by go_grown⟩
   ·by_cases hs:xs=0
    ·subst hs;go_enter Tryz.func122,Tryz.ntmps122
     go_wp2_with (first
      | (go_at_call 149;refine (qI0 _ _).mono ?_;rintro e w' ⟨rfl,rfl⟩;rw [he])
      | (go_at_call 148;refine (qU6 _ _).mono ?_;rintro e w' ⟨rfl,rfl⟩;rw [hk])
      | (go_at_call 150;refine (QB6 _ _).mono ?_;rintro e w' ⟨rfl,rfl⟩;rw [hf]))
     go_ret;exact ⟨rfl,by go_grown⟩
    ·have hsb:(xs != 0)=true:=by simpa using hs
     obtain ⟨c,hc⟩:∃ c,qT6 xs=c:=⟨_,rfl⟩
     have HV:Hid (inR xs 1 255=(c==0)):=by
      show inR xs 1 255=(c==0)
      rw [<- hc];unfold qT6;rw [Bool.eq_iff_iff,qE7];by_cases q:inR xs 0 255=true
      ·rw [if_pos q];rw [qE7] at q;simp;omega
      ·rw [if_neg q];rw [qE7] at q;simp;omega
     have HC:Hid (qT6 xs=c):=hc;clear hc hs;go_enter Tryz.func122,Tryz.ntmps122
     go_wp2_with (first
      | (go_at_call 149;refine (qI0 _ _).mono ?_;rintro e w' ⟨rfl,rfl⟩;rw [he])
      | (go_at_call 148;refine (qU6 _ _).mono ?_;rintro e w' ⟨rfl,rfl⟩;rw [hk])
      | (go_at_call 150;refine (QB6 _ _).mono ?_;rintro e w' ⟨rfl,rfl⟩;rw [hf])
      | (go_at_call 151;refine (qCV _ _).mono ?_;rintro e w' ⟨rfl,rfl⟩;rw [HC.out]))
     go_ret;exact ⟨by rw [HV.out];rfl,by go_grown⟩
theorem qLe (x y:StI) (w:World):(binOp .neq 85 (.agg #[.int .i64 x.k,.int .i64 x.e,.int .i64 x.f,.int .i64 x.s,.int .i64 x.n]) (.agg #[.int .i64 y.k,.int .i64 y.e,.int .i64 y.f,.int .i64 y.s,.int .i64 y.n])).run Tryz.prog w = .ok (.bool (!(qP0 x y))) w:=by
 have h:=qFo x y w;simp only [binOp,Sem.run_bind] at h ⊢
 revert h
 cases (Op.equal 85 (.agg #[.int .i64 x.k,.int .i64 x.e,.int .i64 x.f,.int .i64 x.s,.int .i64 x.n]) (.agg #[.int .i64 y.k,.int .i64 y.e,.int .i64 y.f,.int .i64 y.s,.int .i64 y.n])).run Tryz.prog w <;> simp [Result.andThen]
theorem qB7 (x:StI) (w:World):Calls Tryz.prog 93 #[.agg #[.int .i64 x.k,.int .i64 x.e,.int .i64 x.f,.int .i64 x.s,.int .i64 x.n]] w fun e w'=>e = .returned (.int .i64 (qB5 x))/\Below w.heap.size w w':=by
  obtain ⟨W,hW⟩:∃ W,W=w.alloc (.cells #[.int .i64 x.k,.int .i64 x.e,.int .i64 x.f,.int .i64 x.s,.int .i64 x.n] 85):=⟨_,rfl⟩;have B0:Below w.heap.size w W:=by rw [hW];exact zN
  have hz:w.heap.size < W.heap.size:=by rw [hW];simp
  have HX:Hid (qL3 W w.heap.size 0 x):=by rw [hW];exact qL3.new w x _
  have HWE:Hid (W=w.alloc (.cells #[.int .i64 x.k,.int .i64 x.e,.int .i64 x.f,.int .i64 x.s,.int .i64 x.n] 85)):=hW;clear hW;cases hk:inR x.k 1 4
  · have HT:Hid (swT x.k=⟨#[]⟩):=qLc hk;have hC:Hid (qB5 x=1):=by show qB5 x=1;unfold qB5;rw [if_pos hk]
    rw [hC.out];clear hk;go_enter Tryz.func93,Tryz.ntmps93;go_wp2_with fail
    rw [<- HWE.out];obtain ⟨x0,x1,x2,x3,x4⟩:=HX.out;simp only [Nat.zero_add] at x0 x1 x2 x3 x4;refine wp_region_held_drew (S:=fun w'=>(∀ b o,b < W.heap.size->w'.cell? ⟨b,o,none⟩=W.cell? ⟨b,o,none⟩)/\Below W.heap.size W w') (by kernel_rfl) (qC1 _) (fun hHeld=>?_);refine Zk.go [0,1] ?_
    iterate 2
      refine Zk.st (v:=?_) rfl ?_ ?_;rotate_left 1
      · intro w hSw;(try dsimp only at hSw);go_simp;try (with_reducible rfl)
      try simp only [Act.put,zA,zB,zC,zD,zE,zF]
    refine Zk.fin ?_;refine Zk.rd (i:=2) rfl (fun K hK=>?_);go_simp;refine (qAC _ _).mono ?_;rintro e w' ⟨rfl,rfl⟩;rw [HT.out];have hS:=hHeld;refine hK.out _ _ hS (fun hHeld=>?_);clear hK K;try simp only [Act.put,zA,zB,zC,zD,zE,zF]
    refine Zk.go [3,4,5,6,7,8,9] ?_
    iterate 2
      refine Zk.st (v:=?_) rfl ?_ ?_;rotate_left 1
      · intro w hSw;(try dsimp only at hSw);go_simp;try (with_reducible rfl)
      try simp only [Act.put,zA,zB,zC,zD,zE,zF]
    iterate 4 (refine Zk.un rfl ?_;try simp only [Act.put,zA,zB,zC,zD,zE,zF])
    refine Zk.st (v:=?_) rfl ?_ ?_;rotate_left 1
    · intro w hSw;(try dsimp only at hSw);go_simp;try (with_reducible rfl)
    try simp only [Act.put,zA,zB,zC,zD,zE,zF]
    refine Zk.fin ?_;refine wpAnyH_done (by kernel_rfl) ?_ _;go_wp2;go_ret;exact ⟨rfl,B0.trans (hHeld.2.mono B0.size)⟩
  · have hT0:=qHg (qMo hk);obtain ⟨T,hT⟩:∃ T,swT x.k=T:=⟨_,rfl⟩;have HT:Hid (swT x.k=T):=hT
    have hw:T.toList.isEmpty=false:=by
      rw [hT] at hT0;cases q:T.toList with
      | nil=>rw [q] at hT0;simp at hT0
      | cons a as'=>rfl
    obtain ⟨y,hy⟩:∃ y,qEi x=y:=⟨_,rfl⟩;have HO:=qMp x;rw [hy] at HO;have HOO:Hid (∀ w:World,Calls Tryz.prog 121 #[.agg #[.int .i64 x.k,.int .i64 x.e,.int .i64 x.f,.int .i64 x.s,.int .i64 x.n]] w fun e w'=>e = .returned (.agg #[.int .i64 y.k,.int .i64 y.e,.int .i64 y.f,.int .i64 y.s,.int .i64 y.n])/\Below w.heap.size w w'):=HO;have HB:Hid (∀ w:World,Calls Tryz.prog 122 #[.agg #[.int .i64 x.k,.int .i64 x.e,.int .i64 x.f,.int .i64 x.s,.int .i64 x.n]] w fun e w'=>e = .returned (.bool (qHs x))/\Below w.heap.size w w'):=qFF x;have hE:∀ w:World,_:=fun w=>qLe x y w
    have hob:qIc x=qP0 x y:=by unfold qIc;rw [hy]
    obtain ⟨t,ht⟩:∃ t,qP0 x y=t:=⟨_,rfl⟩;obtain ⟨r,hr⟩:∃ r,qHs x=r:=⟨_,rfl⟩;have HC:Hid (qB5 x=if t=false then 1 else if r=false then 3 else 0):=by show qB5 x=_;unfold qB5;rw [if_neg (by rw [hk];simp),hob,ht,hr]
    rw [ht] at hE;rw [hr] at HB;rw [HC.out];clear HO hob hk hT0 hT hy ht hr;go_enter Tryz.func93,Tryz.ntmps93;go_wp2_with fail
    rw [<- HWE.out];obtain ⟨x0,x1,x2,x3,x4⟩:=HX.out;simp only [Nat.zero_add] at x0 x1 x2 x3 x4
    go_region_held3 (fun w'=>(∀ b o,b < W.heap.size->w'.cell? ⟨b,o,none⟩=W.cell? ⟨b,o,none⟩)/\Below W.heap.size W w') (first | exact hS | exact qC1 _)
      (first | (go_at_call 120;refine (qAC _ _).mono ?_;rintro e w' ⟨rfl,rfl⟩;rw [HT.out])
             | (go_at_call 121;refine (HOO.out _).mono ?_;rintro e w' ⟨rfl,hb1⟩;have hS:=qA9 (by assumption) hb1))
    cases t
    · go_wp2;go_ret;exact ⟨rfl,B0.trans (hS.2.mono B0.size)⟩
    · obtain ⟨x0,x1,x2,x3,x4⟩:=HX.out.below hS.2 hz;simp only [Nat.zero_add] at x0 x1 x2 x3 x4;go_wp2_with fail
      refine (HB.out _).mono ?_;rintro e w2 ⟨rfl,hb2⟩;cases r
      all_goals
        go_wp2;go_ret;exact ⟨rfl,(B0.trans (hS.2.mono B0.size)).trans (hb2.mono (by have:=hS.2.size;omega))⟩

def qC3:List StI->List Value
 | []=>[]
 | p::ps => .int .i64 p.k :: .int .i64 p.e :: .int .i64 p.f :: .int .i64 p.s :: .int .i64 p.n::qC3 ps
theorem qK4 (a b:List StI):qC3 (a++b)=qC3 a++qC3 b:=by
 induction a with
 | nil=>rfl
 | cons p ps ih=>simp [qC3,ih]
theorem qZ8 (a:List StI):(qC3 a).length=a.length * 5:=by
 induction a with
 | nil=>rfl
 | cons p ps ih=>simp [qC3,ih];omega
theorem QO8:∀ (a:List StI) (k:Nat) (p:StI),a[k]? = some p->(qC3 a)[k * 5]? = some (.int .i64 p.k)/\(qC3 a)[k * 5+1]? = some (.int .i64 p.e)/\(qC3 a)[k * 5+2]? = some (.int .i64 p.f)/\(qC3 a)[k * 5+3]? = some (.int .i64 p.s)/\(qC3 a)[k * 5+4]? = some (.int .i64 p.n)
 | [],_,_,h=>by simp at h
 | q::qs,0,p,h=>by simp at h;subst h;exact ⟨rfl,rfl,rfl,rfl,rfl⟩
 | q::qs,k+1,p,h=>by
  have:=QO8 qs k p (by simpa using h);rw [show (k+1) * 5=k * 5+1+1+1+1+1 by omega,show k * 5+1+1+1+1+1+1=(k * 5+1)+1+1+1+1+1 by omega,show k * 5+1+1+1+1+1+2=(k * 5+2)+1+1+1+1+1 by omega,show k * 5+1+1+1+1+1+3=(k * 5+3)+1+1+1+1+1 by omega,show k * 5+1+1+1+1+1+4=(k * 5+4)+1+1+1+1+1 by omega];simpa [qC3] using this
theorem qO3 (a:List StI):∀ u∈qC3 a,u.oneCell'=true:=by
 induction a with
 | nil=>simp [qC3]
 | cons p ps ih =>
  intro u hu;simp only [qC3,List.mem_cons] at hu;rcases hu with rfl | rfl | rfl | rfl | rfl | hu
  ·rfl
  ·rfl
  ·rfl
  ·rfl
  ·rfl
  ·exact ih u hu
def qB2 (w:World) (B:Nat) (v:Value) (gs:List StI):Prop:=w.ownsRow B 85 5 v gs.length (qC3 gs)
theorem qB2.shape {w:World} {B:Nat} {v:Value} {gs:List StI} (h:qB2 w B v gs) (hv:v ≠ .slice none 0 0):∃ g cap,v = .slice (some ⟨g,0,none⟩) gs.length cap:=by
 have h0:w.ownsRow B 85 5 v gs.length (qC3 gs):=h;rcases h0.2 with ⟨h',_⟩ | ⟨g,cap,cur,h',_⟩
 ·exact absurd h' hv
 ·exact ⟨g,cap,h'⟩
theorem qB2.below {w w':World} {B:Nat} {v:Value} {gs:List StI} (h:qB2 w B v gs) (hb:Below w.heap.size w w'):qB2 w' B v gs :=
 World.ownsRow.kept (row:=none) h ⟨hb.os,hb.tape,hb.output,hb.size,fun k hk _=>hb.block k hk⟩ (by cases v.ownBlock <;> simp)
theorem qC0 {w:World} {B B':Nat} {v:Value} {gs:List StI} (h:qB2 w B v gs) (hb:B'<=B):qB2 w B' v gs:=by
 have h0:w.ownsRow B 85 5 v gs.length (qC3 gs):=h;refine ⟨h0.1,?_⟩;rcases h0.2 with h' | ⟨g,cap,cur,e,hg,rest⟩
 ·exact .inl h'
 ·exact .inr ⟨g,cap,cur,e,Nat.le_trans hb hg,rest⟩
theorem QF5 {w:World} {B:Nat} {v:Value} {es:List StI} {x:StI} (h:w.ownsRow B 85 5 v (es.length+1) (qC3 es++[.int .i64 x.k,.int .i64 x.e,.int .i64 x.f,.int .i64 x.s,.int .i64 x.n])):qB2 w B v (es++[x]):=by
 unfold qB2;rw [List.length_append,qK4];exact h
theorem qBx {w1 Z w':World} {B:Nat} {v:Value} {es:List StI} (ho:qB2 Z B v es) (hb:Below B w1 Z) (hg:Z.grownBy w' v.ownBlock) (hB:B<=Z.heap.size):Below B w1 w':=by
 have h0:Z.ownsRow B 85 5 v es.length (qC3 es):=ho;exact hb.grown hg hB (fun j hj=>(h0.lt j hj).1)
def StV (w:World) (a:Option Addr) (zs:List StI):Prop:=∀ k p,zs[k]? = some p->∃ g,a=some ⟨g,0,none⟩/\qL3 w g (k * 5) p
theorem StV.below {w w':World} {a:Option Addr} {zs:List StI} (h:StV w a zs) (hb:Below w.heap.size w w'):StV w' a zs:=fun k p e=>by
 obtain ⟨g,ha,h1⟩:=h k p e;exact ⟨g,ha,h1.below hb (zL w ⟨g,k * 5,none⟩ h1.1)⟩
theorem StV.isIn {w:World} {a:Option Addr} {n:Nat} {zs:List StI} (hn:zs.length=n) (h:StV w a zs):qN8 w a n zs:=by
 refine ⟨hn,fun hp=>?_⟩;obtain ⟨g,ha,_⟩:=h 0 _ (List.getElem?_eq_getElem (by omega));refine ⟨g,0,ha,fun k x e=>?_⟩;obtain ⟨g',ha',hx⟩:=h k x e;rw [ha] at ha';cases ha';rw [Nat.zero_add];exact hx
theorem qB2.view {w:World} {B:Nat} {a:Option Addr} {n cap:Nat} {zs:List StI} (h:qB2 w B (.slice a n cap) zs):StV w a zs:=by
 intro k p e
 have hk:k < zs.length:=by
  by_cases q:k < zs.length
  ·exact q
  ·rw [List.getElem?_eq_none (by omega)] at e;cases e
 have h0:w.ownsRow B 85 5 (.slice a n cap) zs.length (qC3 zs):=h;rcases h0.2 with ⟨h',h''⟩ | ⟨g,cap',cur,h',_⟩
 ·omega
 ·simp at h';obtain ⟨rfl,rfl,rfl⟩:=h';obtain ⟨f0,f1,f2,f3,f4⟩:=QO8 zs k p e;exact ⟨g,rfl,(h0.cellAt (k * 5) (by omega)).trans f0,(h0.cellAt (k * 5+1) (by omega)).trans f1,(h0.cellAt (k * 5+2) (by omega)).trans f2,(h0.cellAt (k * 5+3) (by omega)).trans f3,(h0.cellAt (k * 5+4) (by omega)).trans f4⟩
theorem qB2.form {w:World} {B:Nat} {v:Value} {zs:List StI} (h:qB2 w B v zs):(v = .slice none 0 0/\zs=[])\/∃ g cap,v = .slice (some ⟨g,0,none⟩) zs.length cap/\B<=g/\g < w.heap.size/\zs.length<=cap/\cap<=maxLen:=by
 have h0:w.ownsRow B 85 5 v zs.length (qC3 zs):=h;rcases h0.2 with ⟨h',h''⟩ | ⟨g,cap',cur,h',hb,hg,hc,hm,_⟩
 ·exact .inl ⟨h',List.length_eq_zero_iff.1 h''⟩
 ·exact .inr ⟨g,cap',h',hb,(Array.getElem?_eq_some_iff.1 hg).1,hc,hm⟩
theorem qB2.alloc {w:World} {B:Nat} {v:Value} {zs:List StI} (h:qB2 w B v zs) (o:Obj):qB2 (w.alloc o) B v zs:=World.ownsRow.alloc h o
def qDd (n:Nat):List StI:=(List.range n).map fun j=>(⟨((1+5 * j:Nat):Int),((2+5 * j:Nat):Int),((3+5 * j:Nat):Int),((4+5 * j:Nat):Int),((5+5 * j:Nat):Int)⟩:StI)
theorem qIi (n:Nat):(qDd n).length=n:=by simp [qDd]
theorem qGf (n j:Nat) (h:j < n):(qDd n)[j]? = some (⟨((1+5 * j:Nat):Int),((2+5 * j:Nat):Int),((3+5 * j:Nat):Int),((4+5 * j:Nat):Int),((5+5 * j:Nat):Int)⟩:StI):=by simp [qDd,h]
theorem qFK (a:List StI) (k:Nat) (p:StI):qC3 (a.set k p)=((((((qC3 a).set (k * 5) (.int .i64 p.k)).set (k * 5+1) (.int .i64 p.e)).set (k * 5+2) (.int .i64 p.f)).set (k * 5+3) (.int .i64 p.s)).set (k * 5+4) (.int .i64 p.n)):=by
 induction a generalizing k with
 | nil=>simp [qC3]
 | cons q qs ih =>
  cases k with
  | zero=>simp [qC3]
  | succ k =>
   rw [show (k+1) * 5=k * 5+1+1+1+1+1 by omega];simp [qC3,ih]
theorem qB2.put {w:World} {B g cap:Nat} {zs:List StI} {n:Nat} (hn:n=zs.length) (h:qB2 w B (.slice (some ⟨g,0,none⟩) n cap) zs) (j:Nat) (p:StI) :
  qB2 (((((w.setCell ⟨g,j * 5,none⟩ (.int .i64 p.k)).setCell ⟨g,j * 5+1,none⟩ (.int .i64 p.e)).setCell ⟨g,j * 5+2,none⟩ (.int .i64 p.f)).setCell ⟨g,j * 5+3,none⟩ (.int .i64 p.s)).setCell ⟨g,j * 5+4,none⟩ (.int .i64 p.n)) B (.slice (some ⟨g,0,none⟩) n cap) (zs.set j p)/\w.grownBy (((((w.setCell ⟨g,j * 5,none⟩ (.int .i64 p.k)).setCell ⟨g,j * 5+1,none⟩ (.int .i64 p.e)).setCell ⟨g,j * 5+2,none⟩ (.int .i64 p.f)).setCell ⟨g,j * 5+3,none⟩ (.int .i64 p.s)).setCell ⟨g,j * 5+4,none⟩ (.int .i64 p.n)) (some g):=by
 subst hn;have h0:w.ownsRow B 85 5 (.slice (some ⟨g,0,none⟩) zs.length cap) zs.length (qC3 zs):=h;have h1:=h0.stored (j * 5) (.int .i64 p.k);have h2:=h1.1.stored (j * 5+1) (.int .i64 p.e);have h3:=h2.1.stored (j * 5+2) (.int .i64 p.f);have h4:=h3.1.stored (j * 5+3) (.int .i64 p.s);have h5:=h4.1.stored (j * 5+4) (.int .i64 p.n);refine ⟨?_,qM2 (qM2 (qM2 (qM2 h1.2 h2.2) h3.2) h4.2) h5.2⟩;show World.ownsRow _ B 85 5 _ (zs.set j p).length (qC3 (zs.set j p))
 rw [qFK,List.length_set];exact h5.1
theorem qB2.cell {w:World} {B g cap:Nat} {zs:List StI} {n:Nat} (hn:n=zs.length) (h:qB2 w B (.slice (some ⟨g,0,none⟩) n cap) zs) (j:Nat) (hj:j < n * 5):(∃ v,w.cell? ⟨g,j,none⟩=some v)/\w.frozen? ⟨g,j,none⟩=false:=by
 subst hn;have h0:w.ownsRow B 85 5 (.slice (some ⟨g,0,none⟩) zs.length cap) zs.length (qC3 zs):=h;exact ⟨⟨_,(h0.cellAt j hj).trans (List.getElem?_eq_getElem (by rw [qZ8];exact hj))⟩,h0.frozenAt j⟩
theorem QH9 (B:Nat) (a:Option Addr) (n cap:Nat) (zs:List StI) (w:World) (hz:n=zs.length) (hn:n<=1048576) (h:qB2 w B (.slice a n cap) zs) :
  Calls Tryz.prog 39 #[.slice a n cap,.int .i64 1] w fun e w'=>e = .returned (.int .i64 (1+5 * (n:Int)))/\qB2 w' B (.slice a n cap) (qDd n)/\w.grownBy w' (Value.slice a n cap).ownBlock:=by
 have HO:Hid (qB2 w B (.slice a n cap) zs):=h;have HZ:Hid (n=zs.length):=hz;clear h hz;have hn':(n:Int)<=1048576:=by omega
 go_enter Tryz.func39,Tryz.ntmps39;go_wp2
 go_loopw [1,5] (fun q i wr=>∃ (j:Nat) (es:List StI),j<=n/\i = .int .i64 (j:Int)/\q = .int .i64 (1+5 * (j:Int))/\n=es.length/\qB2 wr B (.slice a n cap) es/\(∀ m,m < j->es[m]? = some (⟨((1+5 * m:Nat):Int),((2+5 * m:Nat):Int),((3+5 * m:Nat):Int),((4+5 * m:Nat):Int),((5+5 * m:Nat):Int)⟩:StI))/\w.grownBy wr (Value.slice a n cap).ownBlock)
  (fun _ i _=>n - (intOf i).toNat)
 case atStart=>exact ⟨0,zs,Nat.zero_le _,rfl,rfl,HZ.out,HO.out,fun m hm=>by omega,qR1 _ _⟩
 case round =>
  obtain ⟨j,es,hj,rfl,rfl,hes,hown,hys,hgr⟩:=hrel;have HE:Hid (n=es.length):=hes;clear hes;by_cases hlt:j < n
  ·obtain ⟨g,ha⟩:∃ g,a=some ⟨g,0,none⟩:=by
    rcases hown.form with ⟨h1,h2⟩ | ⟨g,cap',h1,_⟩
    ·have:=HE.out;rw [h2] at this;simp at this;omega
    ·simp at h1;exact ⟨g,h1.1⟩
   subst ha;obtain ⟨⟨v0,c0⟩,f0⟩:=hown.cell HE.out (j * 5) (by omega);obtain ⟨⟨v1,c1⟩,f1⟩:=hown.cell HE.out (j * 5+1) (by omega);obtain ⟨⟨v2,c2⟩,f2⟩:=hown.cell HE.out (j * 5+2) (by omega);obtain ⟨⟨v3,c3⟩,f3⟩:=hown.cell HE.out (j * 5+3) (by omega);obtain ⟨⟨v4,c4⟩,f4⟩:=hown.cell HE.out (j * 5+4) (by omega);have hst:=hown.put HE.out j (⟨1+5 * (j:Int),1+5 * (j:Int)+1,1+5 * (j:Int)+1+1,1+5 * (j:Int)+1+1+1,1+5 * (j:Int)+1+1+1+1⟩:StI)
   have R:Hid (qB2 (((((wr.setCell ⟨g,j * 5,none⟩ (.int .i64 (1+5 * (j:Int)))).setCell ⟨g,j * 5+1,none⟩ (.int .i64 (1+5 * (j:Int)+1))).setCell ⟨g,j * 5+2,none⟩ (.int .i64 (1+5 * (j:Int)+1+1))).setCell ⟨g,j * 5+3,none⟩ (.int .i64 (1+5 * (j:Int)+1+1+1))).setCell ⟨g,j * 5+4,none⟩ (.int .i64 (1+5 * (j:Int)+1+1+1+1))) B (.slice (some ⟨g,0,none⟩) n cap) (es.set j (⟨1+5 * (j:Int),1+5 * (j:Int)+1,1+5 * (j:Int)+1+1,1+5 * (j:Int)+1+1+1,1+5 * (j:Int)+1+1+1+1⟩:StI))/\(∀ m,m < j+1->(es.set j (⟨1+5 * (j:Int),1+5 * (j:Int)+1,1+5 * (j:Int)+1+1,1+5 * (j:Int)+1+1+1,1+5 * (j:Int)+1+1+1+1⟩:StI))[m]? = some (⟨((1+5 * m:Nat):Int),((2+5 * m:Nat):Int),((3+5 * m:Nat):Int),((4+5 * m:Nat):Int),((5+5 * m:Nat):Int)⟩:StI))/\w.grownBy (((((wr.setCell ⟨g,j * 5,none⟩ (.int .i64 (1+5 * (j:Int)))).setCell ⟨g,j * 5+1,none⟩ (.int .i64 (1+5 * (j:Int)+1))).setCell ⟨g,j * 5+2,none⟩ (.int .i64 (1+5 * (j:Int)+1+1))).setCell ⟨g,j * 5+3,none⟩ (.int .i64 (1+5 * (j:Int)+1+1+1))).setCell ⟨g,j * 5+4,none⟩ (.int .i64 (1+5 * (j:Int)+1+1+1+1))) (some g)):=by
    refine ⟨hst.1,fun m hm=>?_,qM2 hgr hst.2⟩;have:=HE.out;by_cases e:m=j
    ·subst e;rw [List.getElem?_set_self (by omega)];simp only [Option.some.injEq,StI.mk.injEq];omega
    ·rw [List.getElem?_set_ne (by omega)];exact hys m (by omega)
   clear hst hown hys hgr;have hlt':(j:Int) < (n:Int):=by omega
   go_wp2;refine ⟨⟨j+1,_,by omega,by go_num,?_,by rw [List.length_set];exact HE.out,R.out.1,R.out.2.1,R.out.2.2⟩,by simp [intOf];omega⟩;congr 1
  ·have hjn:j=n:=by omega
   subst hjn
   have E:es=qDd j:=by
    have:=HE.out;apply List.ext_getElem?;intro i;by_cases hi:i < j
    ·rw [hys i hi,qGf j i hi]
    ·rw [List.getElem?_eq_none (by omega),List.getElem?_eq_none (by rw [qIi];omega)]
   rw [E] at hown;go_wp2;go_ret;exact ⟨rfl,hown,hgr⟩
theorem QI1 (a:Option Addr) (n cap:Nat) (w:World) (hn:n<=1048576) (h:StV w a (qDd n)) :
  Calls Tryz.prog 85 #[.slice a n cap,.int .i64 1] w fun e w'=>e = .returned (.int .i64 (1+5 * (n:Int)))/\w=w':=by
 have HR:Hid (StV w a (qDd n)):=h;clear h;have hn':(n:Int)<=1048576:=by omega
 go_enter Tryz.func85,Tryz.ntmps85;go_wp2;go_loop [1,5] (fun q i=>∃ (j:Nat),j<=n/\i = .int .i64 (j:Int)/\q = .int .i64 (1+5 * (j:Int))) (fun _ i=>n - (intOf i).toNat)
 case atStart=>exact ⟨0,Nat.zero_le _,rfl,rfl⟩
 case round =>
  obtain ⟨j,hj,rfl,rfl⟩:=hrel;by_cases hlt:j < n
  ·obtain ⟨g,ha,c0,c1,c2,c3,c4⟩:=HR.out j _ (qGf n j hlt);subst ha;simp only [show ((1+5 * j:Nat):Int)=1+5 * (j:Int) from by omega,show ((2+5 * j:Nat):Int)=1+5 * (j:Int)+1 from by omega,show ((3+5 * j:Nat):Int)=1+5 * (j:Int)+1+1 from by omega,show ((4+5 * j:Nat):Int)=1+5 * (j:Int)+1+1+1 from by omega,show ((5+5 * j:Nat):Int)=1+5 * (j:Int)+1+1+1+1 from by omega] at c0 c1 c2 c3 c4;have hlt':(j:Int) < (n:Int):=by omega
   go_wp2;refine ⟨⟨j+1,by omega,by go_num,?_⟩,by simp [intOf];omega⟩;congr 1
  ·have hjn:j=n:=by omega
   subst hjn;go_wp2;go_ret;exact ⟨rfl,rfl⟩
theorem QM2 {W:World} {B:Nat} {a:Option Addr} {n cap:Nat} {ys:List StI} (h:qB2 W B (.slice a n cap) ys):∀ q,(Value.slice a n cap).ownBlock=some q->B<=q/\q < W.heap.size:=by
 have h0:W.ownsRow B 85 5 (.slice a n cap) ys.length (qC3 ys):=h;exact fun q e=>h0.lt q e

def qQ4 (said:List StI) (k e:Int):Bool:=said.any (fun x=>decide (x.k=k)&&decide (x.e=e))
def qI1 (said:List StI) (k e:Int):Option StI:=said.find? (fun x=>decide (x.k=k)&&decide (x.e=e))
def qT8 (said:List StI) (e:Int):Bool:=qQ4 said 3 e || qQ4 said 4 e
def qS3 (x:StI):StI:=⟨2,x.e,x.f,x.s,0⟩
def qD9 (said:List StI) (x:StI):Bool:=said.any (fun y=>qP0 y x)
theorem qAF {said:List StI} {x:StI}:qD9 said x=true↔x∈said:=by
 unfold qD9 qP0;rw [List.any_eq_true];constructor
 ·rintro ⟨y,hy,h⟩;have : y=x:=of_decide_eq_true h;subst this;exact hy
 ·intro h;exact ⟨x,h,decide_eq_true rfl⟩
theorem QB5 {said:List StI} {j:Nat} {x:StI} (h:said[j]? = some x) (k e:Int):qI1 (said.drop j) k e=if x.k=k/\x.e=e then some x else qI1 (said.drop (j+1)) k e:=by
 have hl:j < said.length:=by
  by_cases q:j < said.length
  ·exact q
  ·rw [List.getElem?_eq_none (by omega)] at h;cases h
 rw [List.getElem?_eq_getElem hl] at h;rw [List.drop_eq_getElem_cons hl,Option.some.inj h];unfold qI1;rw [List.find?_cons];by_cases q:x.k=k/\x.e=e
 ·rw [if_pos q];simp [q.1,q.2]
 ·rw [if_neg q]
  have : (decide (x.k=k)&&decide (x.e=e))=false:=by
   rw [Bool.and_eq_false_iff];by_cases q1:x.k=k
   ·exact .inr (decide_eq_false (fun q2=>q ⟨q1,q2⟩))
   ·exact .inl (decide_eq_false q1)
  rw [this]
theorem qDl (said:List StI) (k e:Int):qQ4 said k e=(qI1 said k e).isSome:=by
 unfold qQ4 qI1;induction said with
 | nil=>rfl
 | cons x r ih =>
  rw [List.any_cons,List.find?_cons];cases (decide (x.k=k)&&decide (x.e=e))
  ·simpa using ih
  ·simp
theorem qER {said:List StI} {j:Nat} {x:StI} (h:said[j]? = some x) (y:StI):qD9 (said.drop j) y=(qP0 x y || qD9 (said.drop (j+1)) y):=by
 have hl:j < said.length:=by
  by_cases q:j < said.length
  ·exact q
  ·rw [List.getElem?_eq_none (by omega)] at h;cases h
 rw [List.getElem?_eq_getElem hl] at h;rw [List.drop_eq_getElem_cons hl,Option.some.inj h];unfold qD9;rw [List.any_cons]

theorem qEW (x:StI) (w:World):Calls Tryz.prog 169 #[.agg #[.int .i64 x.k,.int .i64 x.e,.int .i64 x.f,.int .i64 x.s,.int .i64 x.n]] w fun e w'=>e = .returned (.agg #[.int .i64 2,.int .i64 x.e,.int .i64 x.f,.int .i64 x.s,.int .i64 0])/\Below w.heap.size w w':=by
 go_enter Tryz.func169,Tryz.ntmps169;go_wp2;refine bodyPost_ret (v:=.agg #[.int .i64 2,.int .i64 x.e,.int .i64 x.f,.int .i64 x.s,.int .i64 0]) (by simp [results,Tryz.results169,go_sem]) rfl ⟨rfl,(zN).alloc (by simp) _⟩

structure qL4 where
 i:Int
 u:Int
 sa:Option Addr
 sn:Nat
 sc:Nat
 ss:List StI
 la:Option Addr
 ln:Nat
 lc:Nat
 ls:List LkI
deriving Inhabited
structure qG1 (w:World) (r:qL4):Prop where
 said:qN8 w r.sa r.sn r.ss
 locks:qK8 w r.la r.ln r.ls
theorem qG1.below {w w':World} {r:qL4} (h:qG1 w r) (hb:Below w.heap.size w w'):qG1 w' r:=⟨h.said.below hb,h.locks.below hb⟩
structure QC0 (m:Nat) (r:qL4):Prop where
 said:r.sn<=m
 locks:r.ln<=m

section
attribute [local go_sem ↓] qFo
def qF8 (w:World) (b:Nat) (r:qL4):Prop:=w.cell? ⟨b,0,none⟩=some (.int .i64 r.i)/\w.cell? ⟨b,1,none⟩=some (.int .i64 r.u)/\w.cell? ⟨b,2,none⟩=some (.slice r.sa r.sn r.sc)/\w.cell? ⟨b,3,none⟩=some (.slice r.la r.ln r.lc)
theorem qF8.lt {w:World} {b:Nat} {r:qL4} (h:qF8 w b r):b < w.heap.size:=zL w ⟨b,0,none⟩ h.1
theorem qF8.below {w w':World} {b:Nat} {r:qL4} (h:qF8 w b r) (hb:Below w.heap.size w w'):qF8 w' b r :=
 ⟨(hb.cell (p:=⟨b,0,none⟩) h.lt).trans h.1,(hb.cell (p:=⟨b,1,none⟩) h.lt).trans h.2.1,(hb.cell (p:=⟨b,2,none⟩) h.lt).trans h.2.2.1,(hb.cell (p:=⟨b,3,none⟩) h.lt).trans h.2.2.2⟩
theorem qF8.new (w:World) (r:qL4) (t:TypeId):qF8 (w.alloc (.cells #[.int .i64 r.i,.int .i64 r.u,.slice r.sa r.sn r.sc,.slice r.la r.ln r.lc] t)) w.heap.size r:=⟨by simp,by simp,by simp,by simp⟩
theorem qDh (b:Nat) (r:qL4) (k e:Int) (w:World) (hx:qF8 w b r) (h:qN8 w r.sa r.sn r.ss) (hn:r.sn<=1048576) :
  Calls Tryz.prog 101 #[.pointer (some ⟨b,0,none⟩),.int .i64 k,.int .i64 e] w fun d w'=>d = .returned (.bool (qQ4 r.ss k e))/\Below w.heap.size w w':=by
 obtain ⟨i,u,sa,n,sc,said,la,ln,lc,ls⟩:=r;simp only at hx h hn ⊢
 have HZ:Hid (said.length=n):=h.1;have H:Hid (qN8 w sa n said):=h;have hbl:=hx.lt;obtain ⟨_,_,x2,_⟩:=hx;have X2:Hid (w.cell? ⟨b,2,none⟩=some (.slice sa n sc)):=x2;clear h x2;have hn':(n:Int)<=1048576:=by omega
 rw [qDl];obtain ⟨t,ht⟩:∃ t,(qI1 said k e).isSome=t:=⟨_,rfl⟩;have HT:Hid ((qI1 said k e).isSome=t):=ht;rw [ht];clear ht;go_enter Tryz.func101,Tryz.ntmps101;go_wp2;go_loopw [7] (fun i wr=>∃ j:Nat,j<=n/\i = .int .i64 (j:Int)/\(qI1 (said.drop j) k e).isSome=t/\Below w.heap.size w wr) (fun i _=>n - (intOf i).toNat)
 case atStart=>exact ⟨0,Nat.zero_le _,rfl,HT.out,Below.refl _ _⟩
 case round =>
  obtain ⟨j,hj,rfl,hp,hnx⟩:=hrel;have x2:=(hnx.cell (p:=⟨b,2,none⟩) hbl).trans X2.out;have hbw2:b < wr.heap.size:=Nat.lt_of_lt_of_le hbl hnx.size;by_cases hlt:j < n
  ·obtain ⟨g,off,x,rfl,hs,hxa,hgl⟩:=H.out.at hlt
   rw [QB5 hs] at hp;obtain ⟨g0,g1,g2,g3,g4⟩:=hxa.below hnx hgl;have hbw:g < wr.heap.size:=Nat.lt_of_lt_of_le hgl hnx.size;have hlt':(j:Int) < (n:Int):=by omega
   clear hs hxa;by_cases q1:x.k=k
   ·have b1:(x.k==k)=true:=by simp [q1]
    by_cases q2:x.e=e
    ·have b2:(x.e==e)=true:=by simp [q2]
     rw [if_pos ⟨q1,q2⟩] at hp;have HP:Hid (true=t):=hp;clear hp q1 q2;go_wp2;go_ret;exact ⟨by rw [<- HP.out];rfl,hnx⟩
    ·have b2:(x.e==e)=false:=by simp [q2]
     rw [if_neg (fun q=>q2 q.2)] at hp;have HP:Hid ((qI1 (said.drop (j+1)) k e).isSome=t):=hp;clear hp q1 q2;go_wp2;exact ⟨⟨j+1,by omega,by go_num,HP.out,hnx⟩,by simp [intOf];omega⟩
   ·have b1:(x.k==k)=false:=by simp [q1]
    rw [if_neg (fun q=>q1 q.1)] at hp;have HP:Hid ((qI1 (said.drop (j+1)) k e).isSome=t):=hp;clear hp q1;go_wp2;exact ⟨⟨j+1,by omega,by go_num,HP.out,hnx⟩,by simp [intOf];omega⟩
  ·have hkn:j=n:=by omega
   subst hkn;rw [List.drop_of_length_le (by rw [HZ.out];exact Nat.le_refl _)] at hp;have HP:Hid (false=t):=hp;clear hp;go_wp2;go_ret;exact ⟨by rw [<- HP.out];rfl,hnx⟩
theorem qZ7 (b:Nat) (r:qL4) (e:Int) (w:World) (hx:qF8 w b r) (h:qN8 w r.sa r.sn r.ss) (hn:r.sn<=1048576) :
  Calls Tryz.prog 97 #[.pointer (some ⟨b,0,none⟩),.int .i64 e] w fun d w'=>d = .returned (.bool (qT8 r.ss e))/\Below w.heap.size w w':=by
 have HK:Hid (∀ (k:Int) (w2:World),Below w.heap.size w w2->Calls Tryz.prog 101 #[.pointer (some ⟨b,0,none⟩),.int .i64 k,.int .i64 e] w2 fun d w'=>d = .returned (.bool (qQ4 r.ss k e))/\Below w2.heap.size w2 w'):=fun k w2 hb=>qDh b r k e w2 (hx.below hb) (h.below hb) hn
 clear hx h;unfold qT8;cases q:qQ4 r.ss 3 e
 ·have HQ:Hid (qQ4 r.ss 3 e=false):=q;clear q;obtain ⟨t,ht⟩:∃ t,qQ4 r.ss 4 e=t:=⟨_,rfl⟩;have HT:Hid (qQ4 r.ss 4 e=t):=ht;rw [ht,Bool.false_or];clear ht;go_enter Tryz.func97,Tryz.ntmps97;go_wp2_with fail
  refine (HK.out 3 _ (Below.refl _ _)).mono ?_;rintro d w1 ⟨rfl,hb1⟩;rw [HQ.out];go_wp2_with fail
  refine (HK.out 4 _ hb1).mono ?_;rintro d w2 ⟨rfl,hb2⟩;rw [HT.out];go_wp2;go_ret;exact ⟨rfl,hb1.trans (hb2.mono hb1.size)⟩
 ·have HQ:Hid (qQ4 r.ss 3 e=true):=q;clear q;rw [Bool.true_or];go_enter Tryz.func97,Tryz.ntmps97;go_wp2_with fail
  refine (HK.out 3 _ (Below.refl _ _)).mono ?_;rintro d w1 ⟨rfl,hb1⟩;rw [HQ.out];go_wp2;go_ret;exact ⟨rfl,hb1⟩
theorem qK3 (b:Nat) (r:qL4) (y:StI) (w:World) (hx:qF8 w b r) (h:qN8 w r.sa r.sn r.ss) (hn:r.sn<=1048576) :
  Calls Tryz.prog 47 #[.pointer (some ⟨b,0,none⟩),.agg #[.int .i64 y.k,.int .i64 y.e,.int .i64 y.f,.int .i64 y.s,.int .i64 y.n]] w fun d w'=>d = .returned (.bool (qD9 r.ss y))/\Below w.heap.size w w':=by
 obtain ⟨i,u,sa,n,sc,said,la,ln,lc,ls⟩:=r;simp only at hx h hn ⊢
 have HZ:Hid (said.length=n):=h.1;obtain ⟨w0,hw0⟩:∃ w0,w0=w.alloc (.cells #[.int .i64 y.k,.int .i64 y.e,.int .i64 y.f,.int .i64 y.s,.int .i64 y.n] 85):=⟨_,rfl⟩;have hb0:Below w.heap.size w w0:=by rw [hw0];exact zN
 have hs0:w.heap.size < w0.heap.size:=by rw [hw0];simp
 have HB0:Hid (Below w.heap.size w w0):=hb0;have H:Hid (qN8 w0 sa n said):=h.below hb0;have HY:Hid (qL3 w0 w.heap.size 0 y):=by rw [hw0];exact qL3.new w y _
 have hbl:=(hx.below hb0).lt;obtain ⟨_,_,x2,_⟩:=hx.below hb0;have X2:Hid (w0.cell? ⟨b,2,none⟩=some (.slice sa n sc)):=x2;clear h x2 hx hb0;have hn':(n:Int)<=1048576:=by omega
 obtain ⟨t,ht⟩:∃ t,qD9 said y=t:=⟨_,rfl⟩;have HT:Hid (qD9 said y=t):=ht;rw [ht];clear ht;go_enter Tryz.func47,Tryz.ntmps47;go_wp2;rw [<- hw0];clear hw0;go_loopw [5] (fun i wr=>∃ j:Nat,j<=n/\i = .int .i64 (j:Int)/\qD9 (said.drop j) y=t/\Below w0.heap.size w0 wr) (fun i _=>n - (intOf i).toNat)
 case atStart=>exact ⟨0,Nat.zero_le _,rfl,HT.out,Below.refl _ _⟩
 case round =>
  obtain ⟨j,hj,rfl,hp,hnx⟩:=hrel;have x2:=(hnx.cell (p:=⟨b,2,none⟩) hbl).trans X2.out;have hbw2:b < wr.heap.size:=Nat.lt_of_lt_of_le hbl hnx.size;have BN:Hid (Below w.heap.size w wr):=HB0.out.trans (hnx.mono (by omega));by_cases hlt:j < n
  ·obtain ⟨g,off,x,rfl,hs,hxa,hgl⟩:=H.out.at hlt
   rw [qER hs] at hp;obtain ⟨g0,g1,g2,g3,g4⟩:=hxa.below hnx hgl;obtain ⟨y0,y1,y2,y3,y4⟩:=HY.out.below hnx hs0;simp only [Nat.zero_add] at y0 y1 y2 y3 y4;have hbw:g < wr.heap.size:=Nat.lt_of_lt_of_le hgl hnx.size;have hyw:w.heap.size < wr.heap.size:=Nat.lt_of_lt_of_le hs0 hnx.size;have hlt':(j:Int) < (n:Int):=by omega
   clear hs hxa;cases q:qP0 x y
   ·rw [q,Bool.false_or] at hp;have HP:Hid (qD9 (said.drop (j+1)) y=t):=hp;clear hp;go_wp2;go_quiet (fail)
    go_wp2;exact ⟨⟨j+1,by omega,by go_num,HP.out,below_drewN hnx _⟩,by simp [intOf];omega⟩
   ·rw [q,Bool.true_or] at hp;have HP:Hid (true=t):=hp;clear hp;go_wp2;go_quiet (fail)
    go_wp2;go_ret;exact ⟨by rw [<- HP.out];rfl,below_drewN BN.out _⟩
  ·have hkn:j=n:=by omega
   subst hkn;rw [List.drop_of_length_le (by rw [HZ.out];exact Nat.le_refl _)] at hp;have HP:Hid (false=t):=hp;clear hp;go_wp2;go_ret;exact ⟨by rw [<- HP.out];rfl,BN.out⟩
def qZ1 (said:List StI) (k e i:Int):Prop:=(i = -1/\qI1 said k e=none)\/∃ (j:Nat) (x:StI),i=(j:Int)/\said[j]? = some x/\qI1 said k e=some x
theorem qFy (bk be:Nat) (x:StI) (k e:Int) (w:World) (hk:w.cell? ⟨bk,0,none⟩=some (.int .i64 k)) (he:w.cell? ⟨be,0,none⟩=some (.int .i64 e)) :
  Calls Tryz.prog 168 #[.agg #[.int .i64 x.k,.int .i64 x.e,.int .i64 x.f,.int .i64 x.s,.int .i64 x.n],.pointer (some ⟨bk,0,none⟩),.pointer (some ⟨be,0,none⟩)] w fun d w'=>d = .returned (.bool (decide (x.k=k/\x.e=e)))/\Below w.heap.size w w':=by
 have hkl:=zL w ⟨bk,0,none⟩ hk;have hel:=zL w ⟨be,0,none⟩ he;by_cases q1:x.k=k
 ·have b1:(x.k==k)=true:=by simp [q1]
  by_cases q2:x.e=e
  ·have b2:(x.e==e)=true:=by simp [q2]
   rw [decide_eq_true ⟨q1,q2⟩];clear q1 q2;go_enter Tryz.func168,Tryz.ntmps168;go_wp2;go_ret;exact ⟨rfl,by go_grown⟩
  ·have b2:(x.e==e)=false:=by simp [q2]
   rw [decide_eq_false (fun q=>q2 q.2)];clear q1 q2;go_enter Tryz.func168,Tryz.ntmps168;go_wp2;go_ret;exact ⟨rfl,by go_grown⟩
 ·have b1:(x.k==k)=false:=by simp [q1]
  rw [decide_eq_false (fun q=>q1 q.1)];clear q1;go_enter Tryz.func168,Tryz.ntmps168;go_wp2;go_ret;exact ⟨rfl,by go_grown⟩
theorem qBf (bk be:Nat) (a:Option Addr) (n cap:Nat) (said:List StI) (k e:Int) (w:World) (hn:n<=1048576) (h:qN8 w a n said) (hk:w.cell? ⟨bk,0,none⟩=some (.int .i64 k)) (he:w.cell? ⟨be,0,none⟩=some (.int .i64 e)) :
  Calls Tryz.prog 167 #[.slice a n cap,.func (.func 168) #[] #[.pointer (some ⟨bk,0,none⟩),.pointer (some ⟨be,0,none⟩)]] w fun d w'=>(∃ i:Int,d = .returned (.int .i64 i)/\qZ1 said k e i)/\Below w.heap.size w w':=by
 have HZ:Hid (said.length=n):=h.1;have H:Hid (qN8 w a n said):=h;have hkl:=zL w ⟨bk,0,none⟩ hk;have hel:=zL w ⟨be,0,none⟩ he;have HC:Hid (∀ (x:StI) (w2:World),Below w.heap.size w w2->Calls Tryz.prog 168 #[.agg #[.int .i64 x.k,.int .i64 x.e,.int .i64 x.f,.int .i64 x.s,.int .i64 x.n],.pointer (some ⟨bk,0,none⟩),.pointer (some ⟨be,0,none⟩)] w2 fun d w'=>d = .returned (.bool (decide (x.k=k/\x.e=e)))/\Below w2.heap.size w2 w'):=fun x w2 hb=>qFy bk be x k e w2 ((hb.cell (p:=⟨bk,0,none⟩) hkl).trans hk) ((hb.cell (p:=⟨be,0,none⟩) hel).trans he)
 clear h hk he hkl hel;have hn':(n:Int)<=1048576:=by omega
 go_enter Tryz.func167,Tryz.ntmps167;go_wp2_with fail
 go_loopw [8] (fun i wr=>∃ j:Nat,j<=n/\i = .int .i64 (j:Int)/\Hid (qI1 (said.drop j) k e=qI1 said k e)/\Below w.heap.size w wr) (fun i _=>n - (intOf i).toNat)
 case atStart=>exact ⟨0,Nat.zero_le _,rfl,by show qI1 (said.drop 0) k e=_;rw [List.drop_zero],Below.refl _ _⟩
 case round =>
  obtain ⟨j,hj,rfl,HP,hnx⟩:=hrel;by_cases hlt:j < n
  ·obtain ⟨g,off,x,rfl,hs,hxa,hgl⟩:=H.out.at hlt
   have HS:Hid (said[j]? = some x):=hs;have HD:=QB5 hs k e;obtain ⟨g0,g1,g2,g3,g4⟩:=hxa.below hnx hgl;have hbw:g < wr.heap.size:=Nat.lt_of_lt_of_le hgl hnx.size;have hlt':(j:Int) < (n:Int):=by omega
   clear hs hxa;by_cases q:x.k=k/\x.e=e
   ·have HI:Hid (qZ1 said k e (j:Int)):=.inr ⟨j,x,rfl,HS.out,by rw [<- HP.out,HD,if_pos q]⟩;have HQ:Hid (decide (x.k=k/\x.e=e)=true):=decide_eq_true q;clear q HD;go_wp2_with fail
    refine (HC.out x _ hnx).mono ?_;rintro d w1 ⟨rfl,hb1⟩;rw [HQ.out];go_wp2;go_ret;exact ⟨⟨_,rfl,HI.out⟩,hnx.trans (hb1.mono hnx.size)⟩
   ·have HN:Hid (qI1 (said.drop (j+1)) k e=qI1 said k e):=by show _=_;rw [<- HP.out,HD,if_neg q]
    have HQ:Hid (decide (x.k=k/\x.e=e)=false):=decide_eq_false q;clear q HD;go_wp2_with fail
    refine (HC.out x _ hnx).mono ?_;rintro d w1 ⟨rfl,hb1⟩;rw [HQ.out];go_wp2;exact ⟨⟨j+1,by omega,by go_num,HN,hnx.trans (hb1.mono hnx.size)⟩,by simp [intOf];omega⟩
  ·have hkn:j=n:=by omega
   subst hkn;have HI:Hid (qZ1 said k e (-1)):=.inl ⟨rfl,by rw [<- HP.out,List.drop_of_length_le (by rw [HZ.out];exact Nat.le_refl _)];rfl⟩;go_wp2;go_ret;exact ⟨⟨_,rfl,HI.out⟩,hnx⟩
theorem QV6 (a:Option Addr) (n cap:Nat) (said:List StI) (k e:Int) (w:World) (hn:n<=1048576) (h:qN8 w a n said) :
  Calls Tryz.prog 139 #[.slice a n cap,.int .i64 k,.int .i64 e] w fun d w'=>(∃ i:Int,d = .returned (.int .i64 i)/\qZ1 said k e i)/\Below w.heap.size w w':=by
 obtain ⟨W,hW⟩:∃ W,W=(w.alloc (.cells #[.int .i64 k] 2)).alloc (.cells #[.int .i64 e] 2):=⟨_,rfl⟩;have B0:Below w.heap.size w W:=by rw [hW];exact (zN).alloc (by simp) _
 have c0:W.cell? ⟨w.heap.size,0,none⟩=some (.int .i64 k):=by rw [hW];simp
 have c1:W.cell? ⟨w.heap.size+1,0,none⟩=some (.int .i64 e):=by rw [hW];simp
 have HC:Hid (Calls Tryz.prog 167 #[.slice a n cap,.func (.func 168) #[] #[.pointer (some ⟨w.heap.size,0,none⟩),.pointer (some ⟨w.heap.size+1,0,none⟩)]] W fun d w'=>(∃ i:Int,d = .returned (.int .i64 i)/\qZ1 said k e i)/\Below W.heap.size W w'):=qBf _ _ a n cap said k e W hn (h.below B0) c0 c1;clear h c0 c1;have hmf:∀ (fn:Fn) (first cap:Array Value) (w:World),(Instr.makeFunc fn first cap).run Tryz.prog w = .ok (.func fn first cap) w:=fun _ _ _ _=>rfl
 go_enter Tryz.func139,Tryz.ntmps139;go_wp2_with fail
 rw [<- hW];clear hW;refine HC.out.mono ?_;rintro d w1 ⟨⟨i,rfl,hi⟩,hb1⟩;go_wp2;go_ret;exact ⟨⟨i,rfl,hi⟩,B0.trans (hb1.mono B0.size)⟩
end

theorem qDE {locks needs:List LkI} (hs:SL locks) (ho:∀ x∈locks,okL x=true) (hn:SL needs) (hno:∀ x∈needs,okL x=true):∀ k,k<=needs.length->qI8 locks needs k=none\/∃ all,TkS locks needs k all
 | 0,_ => .inr ⟨locks,TkS.zero needs hs ho⟩
 | k+1,hk=>by
  rcases qDE hs ho hn hno k (by omega) with h | ⟨all,h⟩
  ·exact .inl (qS6 h (by omega))
  ·have hx:=List.getElem?_eq_getElem (l:=needs) (i:=k) (by omega);have hok:=hno _ (List.mem_of_getElem? hx);rcases QC6 locks all needs[k] with ⟨h0,_⟩ | ⟨h0,h1,_⟩ | ⟨h0,h1,h2⟩
   ·exact .inr ⟨_,h.put hn hx hok h0⟩
   ·exact .inr ⟨_,h.stay hx h0 h1⟩
   ·exact .inl (by rw [qI7 h.tk hx];exact h2)

theorem qY8:∀ {gs:List LkI} {x:LkI},SL gs->x∈gs->qE8 gs x.e x.c x.p=x.f
 | y::r,x,hs,hx=>by
  have hs':=List.pairwise_cons.1 hs;rw [qV5];by_cases q:y.e=x.e/\y.c=x.c/\y.p=x.p
  ·rw [if_pos q];rcases List.mem_cons.1 hx with rfl | h
   ·rfl
   ·have hlt:=hs'.1 x h;simp only [ltL,decide_eq_true_eq] at hlt;omega
  ·rw [if_neg q];rcases List.mem_cons.1 hx with rfl | h
   ·exact absurd ⟨rfl,rfl,rfl⟩ q
   ·exact qY8 hs'.2 h
theorem QM7:∀ {gs:List LkI} {x:LkI},qE8 gs x.e x.c x.p=x.f->x.f≠0->x∈gs
 | [],x,h,h0=>absurd h.symm h0
 | y::r,x,h,h0=>by
  rw [qV5] at h;by_cases q:y.e=x.e/\y.c=x.c/\y.p=x.p
  ·rw [if_pos q] at h
   have : y=x:=by
    cases x;cases y;simp_all
   rw [this];exact List.mem_cons_self
  ·rw [if_neg q] at h;exact List.mem_cons_of_mem _ (QM7 h h0)
theorem qDX {x:LkI} (h:okL x=true):x.f≠0:=by
 simp [okL,inR] at h;omega
theorem qDF {locks needs:List LkI} (hs:SL locks) (ho:∀ x∈locks,okL x=true) (hn:SL needs) (hno:∀ x∈needs,okL x=true):∀ k,k<=needs.length->∀ all,qI8 locks needs k=some all->TkS locks needs k all/\∀ j x,j < k->needs[j]? = some x->x∈all
 | 0,_,all,h=>by
  have : locks=all:=Option.some.inj h;subst this;exact ⟨TkS.zero needs hs ho,fun j x hj _=>by omega⟩
 | k+1,hk,all,h=>by
  have hx:=List.getElem?_eq_getElem (l:=needs) (i:=k) (by omega);have hok:=hno _ (List.mem_of_getElem? hx);rcases qDE hs ho hn hno k (by omega) with q | ⟨all0,q⟩
  ·rw [qS6 q (by omega)] at h;cases h
  ·have ih:=(qDF hs ho hn hno k (by omega) all0 q.tk).2;rw [qI7 q.tk hx] at h;rcases QC6 locks all0 needs[k] with ⟨h0,h1⟩ | ⟨h0,h1,h2⟩ | ⟨h0,h1,h2⟩
   ·rw [h1] at h;have e:QA6 all0 needs[k]=all:=Option.some.inj h;subst e;refine ⟨q.put hn hx hok h0,fun j x hj hjx=>?_⟩;by_cases e:j=k
    ·subst e;rw [hx] at hjx;cases hjx;exact QI9.2 (.inl rfl)
    ·exact QI9.2 (.inr (ih j x (by omega) hjx))
   ·rw [h2] at h;have e:all0=all:=Option.some.inj h;subst e;refine ⟨q.stay hx h0 h1,fun j x hj hjx=>?_⟩;by_cases e:j=k
    ·subst e;rw [hx] at hjx;cases hjx;exact q.old _ (QM7 h1 (qDX hok))
    ·exact ih j x (by omega) hjx
   ·rw [h2] at h;cases h
theorem qDG {all needs:List LkI} (hs:SL all) (hno:∀ x∈needs,okL x=true) (hm:∀ x∈needs,x∈all):∀ k,k<=needs.length->qI8 all needs k=some all
 | 0,_=>rfl
 | k+1,hk=>by
  have hx:=List.getElem?_eq_getElem (l:=needs) (i:=k) (by omega);have hmem:=List.mem_of_getElem? hx;have hf:=qY8 hs (hm _ hmem);have h0:=qDX (hno _ hmem);rw [qI7 (qDG hs hno hm k (by omega)) hx,qO0,if_neg (by rw [hf];exact h0),if_pos hf]
theorem qEM {locks needs:List LkI} {j:Nat} {x:LkI} (hx:needs[j]? = some x) (h0:qE8 locks x.e x.c x.p≠0) (h1:qE8 locks x.e x.c x.p≠x.f):qI6 locks needs=6:=by
 have hj:j < needs.length:=by
  by_cases q:j < needs.length
  ·exact q
  ·rw [List.getElem?_eq_none (by omega)] at hx;cases hx
 have hn:qI8 locks needs (j+1)=none:=by
  cases h:qI8 locks needs j with
  | none=>exact qS6 h (by omega)
  | some all=>rw [qI7 h hx,qO0,if_neg h0,if_neg h1]
 exact (QC5 hn (by omega)).1

theorem qMs {gs:List LkI} (hl:gs.length<=200) (hs:SL gs) (ho:∀ x∈gs,okL x=true):qJ0 gs=0:=by
 have key:∀ k,k<=gs.length->QJ0 gs k=0:=by
  intro k;induction k with
  | zero=>intro _;rfl
  | succ k ih =>
   intro hk;have hx:=List.getElem?_eq_getElem (l:=gs) (i:=k) (by omega);rw [QN5 hx (ih (by omega)),QF8];refine ⟨ho _ (List.mem_of_getElem? hx),?_⟩;cases k with
   | zero=>rfl
   | succ j =>
    have hy:=List.getElem?_eq_getElem (l:=gs) (i:=j) (by omega);rw [qDS hy];exact List.pairwise_iff_getElem.1 hs j (j+1) (by omega) (by omega) (by omega)
 unfold qJ0;rw [if_neg (by omega)];exact key _ (Nat.le_refl _)
theorem QT5 {s p:Int}:∀ {k:Nat},1<=p->p<=(k:Int)->qI5 s p=true->p∈qB3 s k
 | 0,h1,h2,_=>by omega
 | k+1,h1,h2,h=>by
  by_cases e:p=(k:Int)+1
  ·subst e;rw [qV2 s k h];simp
  ·have ih:=QT5 (s:=s) (p:=p) (k:=k) h1 (by omega) h;unfold qB3;split
   ·exact List.mem_append.2 (.inl ih)
   ·exact ih
theorem QF6 {zs:List Int} {e f s p z:Int} {k:Nat} (hz:zs[k]? = some z) (hf:qI5 z f=true) (h1:1<=p) (h2:p<=8) (hp:qI5 s p=true):∀ n,k < n->(⟨e,(k:Int),p,f⟩:LkI)∈qB4 zs e f s n
 | 0,h=>by omega
 | n+1,h=>by
  unfold qB4;by_cases e':k=n
  ·subst e';refine List.mem_append.2 (.inr ?_);unfold qS0;rw [hz,if_pos (by simpa using hf)];unfold qG3;exact List.mem_map.2 ⟨p,QT5 h1 (by simpa using h2) hp,rfl⟩
  ·exact List.mem_append.2 (.inl (QF6 hz hf h1 h2 hp n (by omega)))
theorem qII:∀ n:Fin 256,n.val=0\/∃ k:Fin 8,n.val.testBit k.val=true:=by decide +kernel
theorem qKQ {s:Int} (h0:0<=s) (h1:s<=255) (hs:s≠0):∃ p:Int,1<=p/\p<=8/\qI5 s p=true:=by
 obtain ⟨n,rfl⟩:=Int.eq_ofNat_of_zero_le h0;rcases qII ⟨n,by omega⟩ with h | ⟨k,h⟩
 ·simp only at h;omega
 ·refine ⟨(k.val:Int)+1,by omega,by have:=k.isLt;omega,?_⟩;simpa [qI5] using h
theorem qCn {L:List LkI} {zs:List Int} {e f s:Int} (h:qE4 L zs e f s=0) :
  qE5 zs e f s=0/\qJ0 (qL5 L zs e f s)=0/\(qL5 L zs e f s).length<=200/\(∀ x∈qB4 zs e f s zs.length,qE8 (qL5 L zs e f s) e x.c x.p=f)/\(∀ x∈L,qE8 (qL5 L zs e f s) x.e x.c x.p=x.f)/\L.length<=200
   /\ qE4 (qL5 L zs e f s) zs e f s=0/\qL5 (qL5 L zs e f s) zs e f s=qL5 L zs e f s/\(∀ o,qJv zs f o=true->s≠0->qE4 (qL5 L zs e f s) zs e o s=6):=by
 have hk:qJ0 L=0:=by
  by_cases q:qJ0 L=0
  ·exact q
  ·unfold qE4 at h;rw [if_neg q] at h;exact absurd h q
 have hn:qE5 zs e f s=0:=by
  by_cases q:qE5 zs e f s=0
  ·exact q
  ·unfold qE4 at h;rw [if_pos hk,if_neg q] at h;exact absurd h q
 have ht:qI6 L (qB4 zs e f s zs.length)=0:=by unfold qE4 at h;rw [if_pos hk,if_pos hn] at h;exact h
 have hR:qL5 L zs e f s=tkL L (qB4 zs e f s zs.length):=by unfold qL5;rw [if_pos ⟨hk,hn⟩]
 obtain ⟨l1,l2,l3⟩:=QF7 hk;obtain ⟨n1,n2⟩:=QW4 hn;obtain ⟨n0,ne,nf,ns⟩:=QM5 hn;cases ha:qI8 L (qB4 zs e f s zs.length) (qB4 zs e f s zs.length).length with
 | none=>rw [(QC5 ha (Nat.le_refl _)).1] at ht;cases ht
 | some all =>
  have hm:¬ 200 < all.length:=fun q=>by rw [(QV1 ha q).1] at ht;cases ht
  have hRa:qL5 L zs e f s=all:=by rw [hR];exact (QF1 ha hm).2
  obtain ⟨T,hin⟩:=qDF l2 l3 n1 n2 _ (Nat.le_refl _) all ha
  have hmem:∀ x∈qB4 zs e f s zs.length,x∈all:=fun x hx=>by
   obtain ⟨j,hj,e'⟩:=List.getElem_of_mem hx;exact hin j x hj (by rw [List.getElem?_eq_getElem hj,e'])
  have hlk:qJ0 all=0:=qMs (by omega) T.sl T.ok;have hag:=qDG T.sl n2 hmem (qB4 zs e f s zs.length).length (Nat.le_refl _);rw [hRa];refine ⟨hn,hlk,by omega,fun x hx=>?_,fun x hx=>qY8 T.sl (T.old x hx),l1,?_,?_,fun o hc hs0=>?_⟩
  ·have q:=(QM6 zs e f s zs.length).2 x hx;have:=qY8 T.sl (hmem x hx);rw [q.1,q.2.2.2] at this;exact this
  ·unfold qE4;rw [if_pos hlk,if_pos hn];exact (QF1 hag hm).1
  ·unfold qL5;rw [if_pos ⟨hlk,hn⟩];exact (QF1 hag hm).2
  ·simp only [qJv,qJw,qMK,Bool.and_eq_true,List.any_eq_true,beq_iff_eq,bne_iff_ne] at hc;obtain ⟨_,_,ho,hne,z,hz,hzf,hzo⟩:=hc;obtain ⟨k,hkl,hzk⟩:=List.getElem_of_mem hz;have hzk':zs[k]? = some z:=by rw [List.getElem?_eq_getElem hkl,hzk]
   rw [qE7] at ns;obtain ⟨p,p1,p2,hp⟩:=qKQ ns.1 ns.2 hs0;have m1:=hmem _ (QF6 (e:=e) hzk' hzf p1 p2 hp zs.length hkl);have m2:=QF6 (e:=e) hzk' hzo p1 p2 hp zs.length hkl;have f1:qE8 all e (k:Int) p=f:=qY8 T.sl m1;obtain ⟨j,hj,ej⟩:=List.getElem_of_mem m2;have hno:qE5 zs e o s=0:=qGd n0 ne ho (by rw [qE7];exact ns);unfold qE4;rw [if_pos hlk,if_pos hno];rw [qE7] at nf;exact qEM (j:=j) (x:=⟨e,(k:Int),p,o⟩) (by rw [List.getElem?_eq_getElem hj,ej]) (by show qE8 all e (k:Int) p≠0;rw [f1];omega) (by show qE8 all e (k:Int) p≠o;rw [f1];exact hne)

structure qH1 where
 es:List Int
 al:Nat->Int->Int->Bool
 cl:Nat->List Int
def qDb (o:Option StI):Int:=match o with
 | some y=>y.n
 | none => -1
def qB6 (E:qH1) (said:List StI) (e:Int):Int:=if e=E.es.headD 0 then 0 else qDb (qI1 said 4 (e - 1))
def qD5 (E:qH1) (said:List StI) (x:StI):Int:=if qQ4 said x.k x.e=true then 6 else if (E.es.length:Int)<=x.n then 3 else if E.es[x.n.toNat]?.getD 0≠x.e+1 then 10 else 0
def qH4 (E:qH1) (said:List StI) (locks:List LkI) (p:Nat) (x:StI):Int:=if (qT8 said x.e || qD9 said (qS3 x))=true then 9 else if E.al p x.f x.s=false then 8 else qE4 locks (E.cl p) x.e x.f x.s
def qF7 (E:qH1) (said:List StI) (locks:List LkI) (x:StI):Int:=if qB6 E said x.e < 0 then 4 else if 40<=said.length then 2 else if x.k=1 then qH4 E said locks (qB6 E said x.e).toNat x else if x.k=2 then 0 else qD5 E said x
def qE9 (E:qH1) (said:List StI) (locks:List LkI) (x:StI):Int:=if qB5 x=0 then (if qD9 said x=true then 0 else qF7 E said locks x) else qB5 x
def qE1 (E:qH1) (said:List StI) (locks:List LkI) (x:StI):List LkI:=if x.k=1 then qL5 locks (E.cl (qB6 E said x.e).toNat) x.e x.f x.s else locks
def qO5 (said:List StI) (x:StI):List StI:=if qD9 said x=true then said else said++[x]
def qK5 (E:qH1) (said:List StI) (locks:List LkI) (x:StI):List LkI:=if qD9 said x=true then locks else qE1 E said locks x
def qD2 (E:qH1) (xs:List StI):Nat->Option (List LkI)
 | 0=>some []
 | k+1=>match qD2 E xs k with
  | none=>none
  | some ls=>match xs[k]? with
   | none=>some ls
   | some x=>if qD9 (xs.take k) x=true then none else if qE9 E (xs.take k) ls x=0 then some (qE1 E (xs.take k) ls x) else none
theorem qU7 {E:qH1} {xs:List StI} {k m:Nat} (h:qD2 E xs k=none) (hm:k<=m):qD2 E xs m=none:=by
  induction m with
  | zero => obtain rfl:k=0:=by omega
            exact h
  | succ m ih =>
    by_cases e:k=m+1
    · subst e;exact h
    · simp [qD2,ih (by omega)]
theorem QL7 {E:qH1} {xs:List StI} {k:Nat} {ls:List LkI} {x:StI} (h:qD2 E xs k=some ls) (hx:xs[k]? = some x):qD2 E xs (k+1)=if qD9 (xs.take k) x=true then none else if qE9 E (xs.take k) ls x=0 then some (qE1 E (xs.take k) ls x) else none:=by
 simp [qD2,h,hx]
structure RpS (E:qH1) (said:List StI) (ls:List LkI):Prop where
 lk:qJ0 ls=0
 st:∀ x∈said,qB5 x=0
 nx:∀ x∈said,x.k=4->0<=x.n/\x.n < (E.es.length:Int)
 len:said.length<=40
theorem RpS.nil (E:qH1):RpS E [] []:=⟨rfl,fun x h=>(List.not_mem_nil h).elim,fun x h=>(List.not_mem_nil h).elim,Nat.zero_le _⟩
theorem qKN {x:StI} (h:qB5 x=0):inR x.k 1 4=true/\qIc x=true/\qHs x=true:=by
 unfold qB5 at h;cases h1:inR x.k 1 4 with
 | false=>rw [h1] at h;simp at h
 | true =>
  cases h2:qIc x with
  | false=>rw [h1,h2] at h;simp at h
  | true =>
   cases h3:qHs x with
   | false=>rw [h1,h2,h3] at h;simp at h
   | true=>exact ⟨rfl,rfl,rfl⟩
theorem qH8 {x:StI} (h:qB5 x=0):(1<=x.k/\x.k<=4)/\(1<=x.e/\x.e<=9)/\(0<=x.n/\x.n<=7)/\(0<=x.f/\x.f<=4)/\(0<=x.s/\x.s<=255)/\(x.k<=2->1<=x.f/\1<=x.s/\x.n=0)/\(3<=x.k->x.f=0/\x.s=0):=by
 obtain ⟨h1,h2,h3⟩:=qKN h;rw [qE7] at h1
 have h2':x=qEi x:=by
  have : qP0 x (qEi x)=true:=h2;exact of_decide_eq_true this
 unfold qHs at h3;cases q:inR x.e 1 9 with
 | false=>rw [q] at h3;simp at h3
 | true =>
  rw [q] at h3;rw [qE7] at q;unfold qEi at h2';cases f:QI2 x.k with
  | true =>
   rw [f] at h3 h2';simp only [Bool.true_eq_false, ↓reduceIte] at h3 h2';have hn:x.n=0:=by rw [h2']
   cases g:inR x.f 1 4 with
   | false=>rw [g] at h3;simp at h3
   | true =>
    rw [g] at h3;simp only [Bool.true_eq_false, ↓reduceIte] at h3;rw [qE7] at g h3;have hk:x.k=1\/x.k=2:=by simpa [QI2] using f
    omega
  | false =>
   rw [f] at h3 h2';simp only [Bool.true_eq_false,Bool.false_eq_true, ↓reduceIte] at h3 h2';rw [qE7] at h3;have hf:x.f=0:=by rw [h2']
   have hs:x.s=0:=by rw [h2']
   have hk:¬ (x.k=1\/x.k=2):=by
    intro q;have : QI2 x.k=true:=by simpa [QI2] using q
    rw [this] at f;cases f
   omega
theorem qKF {L:List LkI} {zs:List Int} {e f s:Int} (h:qE4 L zs e f s=0):qJ0 (qL5 L zs e f s)=0:=(qCn h).2.1
theorem QM4 {E:qH1} {said:List StI} {ls:List LkI} {x:StI} (hc:qF7 E said ls x=0):¬ qB6 E said x.e < 0/\¬ 40<=said.length/\(x.k=1->qH4 E said ls (qB6 E said x.e).toNat x=0)/\(x.k≠1->x.k≠2->qD5 E said x=0):=by
 unfold qF7 at hc;by_cases h1:qB6 E said x.e < 0
 ·rw [if_pos h1] at hc;omega
 ·rw [if_neg h1] at hc;by_cases h2:40<=said.length
  ·rw [if_pos h2] at hc;omega
  ·rw [if_neg h2] at hc;refine ⟨h1,h2,fun q=>?_,fun q q2=>?_⟩
   ·rw [if_pos q] at hc;exact hc
   ·rw [if_neg q,if_neg q2] at hc;exact hc
theorem qCM {E:qH1} {said:List StI} {ls:List LkI} {p:Nat} {x:StI} (hc:qH4 E said ls p x=0):(qT8 said x.e || qD9 said (qS3 x))=false/\E.al p x.f x.s=true/\qE4 ls (E.cl p) x.e x.f x.s=0:=by
 unfold qH4 at hc;cases h1:(qT8 said x.e || qD9 said (qS3 x)) with
 | true=>rw [if_pos h1] at hc;omega
 | false =>
  rw [if_neg (by rw [h1];simp)] at hc;cases h2:E.al p x.f x.s with
  | false=>rw [if_pos h2] at hc;omega
  | true=>rw [if_neg (by rw [h2];simp)] at hc;exact ⟨rfl,rfl,hc⟩
theorem qEk {E:qH1} {said:List StI} {x:StI} (hc:qD5 E said x=0):qQ4 said x.k x.e=false/\x.n < (E.es.length:Int)/\E.es[x.n.toNat]?.getD 0=x.e+1:=by
 unfold qD5 at hc;cases h1:qQ4 said x.k x.e with
 | true=>rw [if_pos h1] at hc;omega
 | false =>
  rw [if_neg (by rw [h1];simp)] at hc;by_cases h2:(E.es.length:Int)<=x.n
  ·rw [if_pos h2] at hc;omega
  ·rw [if_neg h2] at hc;by_cases h3:E.es[x.n.toNat]?.getD 0=x.e+1
   ·exact ⟨rfl,by omega,h3⟩
   ·rw [if_pos h3] at hc;omega
theorem qLp {E:qH1} {said:List StI} {ls:List LkI} {x:StI} (h:RpS E said ls) (hc:qF7 E said ls x=0):qJ0 (qE1 E said ls x)=0:=by
 unfold qE1;by_cases q:x.k=1
 ·rw [if_pos q];exact qKF (qCM ((QM4 hc).2.2.1 q)).2.2
 ·rw [if_neg q];exact h.lk
theorem RpS.next {E:qH1} {said:List StI} {ls:List LkI} {x:StI} (h:RpS E said ls) (hs:qB5 x=0) (hc:qF7 E said ls x=0):RpS E (said++[x]) (qE1 E said ls x):=by
 have hl:=(QM4 hc).2.1;refine ⟨qLp h hc,fun y hy=>?_,fun y hy hk=>?_,by rw [List.length_append];simp;omega⟩
 ·rcases List.mem_append.1 hy with q | q
  ·exact h.st y q
  ·rw [List.mem_singleton] at q;rw [q];exact hs
 ·rcases List.mem_append.1 hy with q | q
  ·exact h.nx y q hk
  ·rw [List.mem_singleton] at q;subst q;exact ⟨(qH8 hs).2.2.1.1,(qEk ((QM4 hc).2.2.2 (by omega) (by omega))).2.1⟩
theorem qLF {E:qH1} {said:List StI} {ls:List LkI} {x:StI} (hn:qD9 said x=false) (hc:qE9 E said ls x=0):qB5 x=0/\qF7 E said ls x=0:=by
 unfold qE9 at hc;split at hc
 ·rename_i q;rw [hn] at hc;simp only [Bool.false_eq_true, ↓reduceIte] at hc;exact ⟨q,hc⟩
 ·rename_i q;exact absurd hc q
theorem QL6 {E:qH1} {xs:List StI}:∀ k ls,k<=xs.length->qD2 E xs k=some ls->RpS E (xs.take k) ls
 | 0,ls,_,h=>by
  have : ([]:List LkI)=ls:=Option.some.inj h;subst this;simpa using RpS.nil E
 | k+1,ls,hk,h=>by
  cases hp:qD2 E xs k with
  | none=>rw [qU7 hp (by omega)] at h;cases h
  | some l0 =>
   have hx:=List.getElem?_eq_getElem (l:=xs) (i:=k) (by omega);have ih:=QL6 k l0 (by omega) hp;rw [QL7 hp hx] at h;split at h
   ·cases h
   ·rename_i hn;split at h
    ·rename_i hc;have e:qE1 E (xs.take k) l0 xs[k]=ls:=Option.some.inj h;subst e;have hn':qD9 (xs.take k) xs[k]=false:=by simpa using hn
     obtain ⟨q1,q2⟩:=qLF hn' hc;rw [List.take_succ_eq_append_getElem (by omega)];exact ih.next q1 q2
    ·cases h
theorem qDk {E:qH1} {said:List StI} {ls:List LkI} (h:RpS E said ls) (hE:0 < E.es.length) (e:Int):qB6 E said e = -1\/(0<=qB6 E said e/\qB6 E said e < (E.es.length:Int)):=by
 unfold qB6;split
 ·exact .inr ⟨by omega,by omega⟩
 ·cases hk:qI1 said 4 (e - 1) with
  | none=>exact .inl rfl
  | some y =>
   have hm:=List.mem_of_find?_eq_some hk;have hp:=List.find?_some hk;simp only [Bool.and_eq_true,decide_eq_true_eq] at hp;exact .inr (h.nx y hm hp.1)

theorem QJ3 {said:List StI} {k e i:Int} (h:qZ1 said k e i):decide (0<=i)=qQ4 said k e:=by
 rw [qDl];rcases h with ⟨rfl,q⟩ | ⟨j,x,rfl,_,q⟩
 ·rw [q];rfl
 ·rw [q];simp
theorem qEz (a:Option Addr) (n cap:Nat) (said:List StI) (e:Int) (w:World) (hn:n<=1048576) (h:qN8 w a n said) :
  Calls Tryz.prog 140 #[.slice a n cap,.int .i64 e] w fun d w'=>d = .returned (.bool (qT8 said e))/\Below w.heap.size w w':=by
 have HK:Hid (∀ (k:Int) (w2:World),Below w.heap.size w w2->Calls Tryz.prog 139 #[.slice a n cap,.int .i64 k,.int .i64 e] w2 fun d w'=>(∃ i:Int,d = .returned (.int .i64 i)/\qZ1 said k e i)/\Below w2.heap.size w2 w'):=fun k w2 hb=>QV6 a n cap said k e w2 hn (h.below hb)
 clear h;unfold qT8;cases q:qQ4 said 3 e
 ·have HQ:Hid (qQ4 said 3 e=false):=q;clear q;obtain ⟨t,ht⟩:∃ t,qQ4 said 4 e=t:=⟨_,rfl⟩;have HT:Hid (qQ4 said 4 e=t):=ht;rw [ht,Bool.false_or];clear ht;go_enter Tryz.func140,Tryz.ntmps140;go_wp2_with fail
  refine (HK.out 3 _ (Below.refl _ _)).mono ?_;rintro d w1 ⟨⟨i,rfl,hi⟩,hb1⟩;have h1:=QJ3 hi;rw [HQ.out] at h1;clear hi;go_wp2_with fail
  refine (HK.out 4 _ hb1).mono ?_;rintro d w2 ⟨⟨i2,rfl,hi2⟩,hb2⟩;have h2:=QJ3 hi2;rw [HT.out] at h2;have H2:Hid (decide (0<=i2)=t):=h2;clear hi2 h1 h2;go_wp2;go_ret;exact ⟨by rw [<- H2.out];rfl,hb1.trans (hb2.mono hb1.size)⟩
 ·have HQ:Hid (qQ4 said 3 e=true):=q;clear q;rw [Bool.true_or];go_enter Tryz.func140,Tryz.ntmps140;go_wp2_with fail
  refine (HK.out 3 _ (Below.refl _ _)).mono ?_;rintro d w1 ⟨⟨i,rfl,hi⟩,hb1⟩;have h1:=QJ3 hi;rw [HQ.out] at h1;clear hi;go_wp2;go_ret;exact ⟨rfl,hb1⟩
