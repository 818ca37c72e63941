/- Contracts. -/
import Derived.Test.YtdppdbihhlipeaaGreatDoorPr01
import Derived.ProofKit
import Derived.Outline
import Derived.Handy
import Derived.Laws.StructEq
import Derived.BigQuiet
import Derived.Deep.QuietTactic
import Derived.WalkSmall
namespace Go.Proofs.YtdppdbihhlipeaaGreatDoor
set_option maxRecDepth 100000
set_option maxHeartbeats 8000000
open Go.RowKit
set_option linter.unusedVariables false
set_option linter.unusedSimpArgs false

theorem qC8 {w w1:World} {o:Obj} (h:Below (w.alloc o).heap.size (w.alloc o) w1):Below w.heap.size w w1:=(zN).trans (h.mono (by simp))
theorem QE1 (p:Int) (w:World) :
  Calls Tryz.prog 176 #[.int .i64 p] w fun e w'=>e = .returned (.bool (qU0 p))/\w=w':=by
 unfold qU0;go_each [1<=p,p<=8]=>(go_enter Tryz.func176,Tryz.ntmps176;go_wp2;go_ret;exact ⟨by simp [*],rfl⟩)
theorem qDi (p:Int) (w:World) :
  Calls Tryz.prog 177 #[.int .i64 p] w fun e w'=>e = .returned (.bool (qV1 p))/\w=w':=by
 unfold qV1;go_each [1<=p,p<=5]=>(go_enter Tryz.func177,Tryz.ntmps177;go_wp2;go_ret;exact ⟨by simp [*],rfl⟩)
theorem qDo (p:Int) (w:World) :
  Calls Tryz.prog 206 #[.int .i64 p] w fun e w'=>e = .returned (.bool (qU0 p))/\w=w':=by
 unfold qU0;go_each [1<=p,p<=8]=>(go_enter Tryz.func206,Tryz.ntmps206;go_wp2;go_ret;exact ⟨by simp [*],rfl⟩)
theorem qDp (p:Int) (w:World) :
  Calls Tryz.prog 217 #[.int .i64 p] w fun e w'=>e = .returned (.bool (qV1 p))/\w=w':=by
 unfold qV1;go_each [1<=p,p<=5]=>(go_enter Tryz.func217,Tryz.ntmps217;go_wp2;go_ret;exact ⟨by simp [*],rfl⟩)
theorem qQ3 (o n:Int) (w:World) :
  Calls Tryz.prog 146 #[.agg #[.int .i64 o,.int .i64 n]] w fun e w'=>e = .returned (.bool (qD6 o n))/\Below w.heap.size w w':=by
 unfold qD6;cases hp:qU0 o <;> cases hn:qV1 n
 all_goals
  go_enter Tryz.func146,Tryz.ntmps146;go_wp2_with (first | (go_at_call 176;refine (QE1 o _).mono ?_;rintro e w' ⟨rfl,rfl⟩;rw [hp]) | (go_at_call 177;refine (qDi n _).mono ?_;rintro e w' ⟨rfl,rfl⟩;rw [hn]))
  go_ret;exact ⟨rfl,by go_grown⟩
theorem qD3 (o n:Int) (w:World) :
  Calls Tryz.prog 197 #[.agg #[.int .i64 o,.int .i64 n]] w fun e w'=>e = .returned (.int .i64 (qF1 o n))/\Below w.heap.size w w':=by
 unfold qF1 qD6;cases hp:qU0 o <;> cases hn:qV1 n
 all_goals
  go_enter Tryz.func197,Tryz.ntmps197;go_wp2_with (first | (go_at_call 206;refine (qDo o _).mono ?_;rintro e w' ⟨rfl,rfl⟩;rw [hp]) | (go_at_call 217;refine (qDp n _).mono ?_;rintro e w' ⟨rfl,rfl⟩;rw [hn]))
  go_ret;exact ⟨rfl,by go_grown⟩

theorem bdN {B:Nat} {a w:World} (h:Below B a w) (n:Nat):Below B a (w.drewN n):=h.trans ⟨rfl,rfl,rfl,Nat.le_refl _,fun _ _=>rfl⟩
theorem qIz (g off:Nat) (r:qA2) (w:World) (h:qD0 w g off r) (hk:1<=r.k/\r.k<=4) :
  Calls Tryz.prog 175 #[.pointer (some ⟨g,off,none⟩)] w fun e w'=>e = .returned (.bool (QP5 r))/\Below w.heap.size w w':=by
 obtain ⟨k,ho,hn,wh,oo,on,tw,tn⟩:=r;obtain ⟨h0,h1,h2,h3,h4,h5,h6,h7⟩:=h;simp only at h0 h1 h2 h3 h4 h5 h6 h7 hk;have hg:g < w.heap.size:=zL w ⟨g,off,none⟩ h0;have hk':k=1\/k=2\/k=3\/k=4:=by omega
 clear hk;simp only [QP5];rcases hk' with rfl | rfl | rfl | rfl
 ·cases e1:(oo==0) <;> cases e2:(on==0) <;> cases e3:(tw==0) <;> cases e4:(tn==0)
  all_goals
   go_enter Tryz.func175,Tryz.ntmps175;go_wp2;go_quiet (fail)
   go_wp2;go_ret;exact ⟨by simp [e1,e2,e3,e4],bdN (by go_grown) _⟩
 ·cases e1:(wh==0) <;> cases e2:(tw==0) <;> cases e3:(tn==0)
  all_goals
   go_enter Tryz.func175,Tryz.ntmps175;go_wp2;go_quiet (fail)
   go_wp2;go_ret;exact ⟨by simp [e1,e2,e3],bdN (by go_grown) _⟩
 ·cases e1:(wh==0) <;> cases e2:(tw==0)
  all_goals
   go_enter Tryz.func175,Tryz.ntmps175;go_wp2;go_ret;exact ⟨by simp [e1,e2],by go_grown⟩
 ·cases e1:(wh==0)
  all_goals
   go_enter Tryz.func175,Tryz.ntmps175;go_wp2;go_ret;exact ⟨by simp [e1],by go_grown⟩
theorem qIA (r:qA2) (w:World) :
  Calls Tryz.prog 91 #[.agg #[.int .i64 r.k,.int .i64 r.ho,.int .i64 r.hn,.int .i64 r.w,.int .i64 r.oo,.int .i64 r.on,.int .i64 r.to,.int .i64 r.tn]] w fun e w' =>
   e = .returned (.agg #[.int .i64 r.k,.int .i64 r.ho,.int .i64 r.hn,.int .i64 r.w,.int .i64 r.oo,.int .i64 r.on,.int .i64 r.to,.int .i64 r.tn])/\Below w.heap.size w w':=by
 obtain ⟨k,ho,hn,wh,oo,on,tw,tn⟩:=r;simp only;go_enter Tryz.func91,Tryz.ntmps91;go_wp2;go_returns
 exact ⟨rfl,by go_grown⟩

def QF2 (r s:qA2):Bool:=decide (r=s)
theorem qIM (a0 a1 a2 a3 a4 a5 a6 a7 b0 b1 b2 b3 b4 b5 b6 b7:Int):QF2 ⟨a0,a1,a2,a3,a4,a5,a6,a7⟩ ⟨b0,b1,b2,b3,b4,b5,b6,b7⟩=(a0==b0&&(a1==b1&&a2==b2)&&a3==b3&&(a4==b4&&a5==b5)&&(a6==b6&&a7==b7)):=by
 unfold QF2;rw [Bool.eq_iff_iff];simp only [decide_eq_true_eq,qA2.mk.injEq,Bool.and_eq_true,beq_iff_eq];constructor
 ·rintro ⟨h0,h1,h2,h3,h4,h5,h6,h7⟩;exact ⟨⟨⟨⟨h0,h1,h2⟩,h3⟩,h4,h5⟩,h6,h7⟩
 ·rintro ⟨⟨⟨⟨h0,h1,h2⟩,h3⟩,h4,h5⟩,h6,h7⟩;exact ⟨h0,h1,h2,h3,h4,h5,h6,h7⟩
theorem qDM (r s:qA2) (w:World):(binOp .eql 125 (.agg #[.int .i64 r.k,.int .i64 r.ho,.int .i64 r.hn,.int .i64 r.w,.int .i64 r.oo,.int .i64 r.on,.int .i64 r.to,.int .i64 r.tn]) (.agg #[.int .i64 s.k,.int .i64 s.ho,.int .i64 s.hn,.int .i64 s.w,.int .i64 s.oo,.int .i64 s.on,.int .i64 s.to,.int .i64 s.tn])).run Tryz.prog w = .ok (.bool (QF2 r s)) w:=by
 obtain ⟨a0,a1,a2,a3,a4,a5,a6,a7⟩:=r;obtain ⟨b0,b1,b2,b3,b4,b5,b6,b7⟩:=s;simp only;rw [qIM];cases e0:(a0==b0)
 ·simp [go_sem,e0]
 cases e1:(a1==b1)
 ·simp [go_sem,e0,e1]
 cases e2:(a2==b2)
 ·simp [go_sem,e0,e1,e2]
 cases e3:(a3==b3)
 ·simp [go_sem,e0,e1,e2,e3]
 cases e4:(a4==b4)
 ·simp [go_sem,e0,e1,e2,e3,e4]
 cases e5:(a5==b5)
 ·simp [go_sem,e0,e1,e2,e3,e4,e5]
 cases e6:(a6==b6)
 ·simp [go_sem,e0,e1,e2,e3,e4,e5,e6]
 cases e7:(a7==b7)
 ·simp [go_sem,e0,e1,e2,e3,e4,e5,e6,e7]
 ·simp [go_sem,e0,e1,e2,e3,e4,e5,e6,e7]

theorem Tryz.info125:(Tryz.prog.info? 125).map (fun i=>(i.zero,i.size,i.bytes))=some (some (.agg #[.int .i64 0,.int .i64 0,.int .i64 0,.int .i64 0,.int .i64 0,.int .i64 0,.int .i64 0,.int .i64 0]),8,64):=by kernel_rfl
def qN6 (w:World) (g n:Nat):Prop:=(∀ j,j < n * 8->∃ v,w.cell? ⟨g,j,none⟩=some v)/\∀ j,w.frozen? ⟨g,j,none⟩=false
abbrev qHt (w:World) (g o:Nat) (s:qA2):World:=((((((((w.setCell ⟨g,o,none⟩ (.int .i64 s.k)).setCell ⟨g,o+1,none⟩ (.int .i64 s.ho)).setCell ⟨g,o+2,none⟩ (.int .i64 s.hn)).setCell ⟨g,o+3,none⟩ (.int .i64 s.w)).setCell ⟨g,o+4,none⟩ (.int .i64 s.oo)).setCell ⟨g,o+5,none⟩ (.int .i64 s.on)).setCell ⟨g,o+6,none⟩ (.int .i64 s.to)).setCell ⟨g,o+7,none⟩ (.int .i64 s.tn))
theorem qJ9 (w:World) (g o:Nat) (s:qA2) (a:Addr) (h:∀ j,j < 8->a≠⟨g,o+j,none⟩):(qHt w g o s).cell? a=w.cell? a:=by
 rw [World.cell?_setCell_other (h:=Ne.symm (h 7 (by omega))),World.cell?_setCell_other (h:=Ne.symm (h 6 (by omega))),World.cell?_setCell_other (h:=Ne.symm (h 5 (by omega))),World.cell?_setCell_other (h:=Ne.symm (h 4 (by omega))),World.cell?_setCell_other (h:=Ne.symm (h 3 (by omega))),World.cell?_setCell_other (h:=Ne.symm (h 2 (by omega))),World.cell?_setCell_other (h:=Ne.symm (h 1 (by omega))),World.cell?_setCell_other (h:=Ne.symm (a:=a) (b:=⟨g,o,none⟩) (by simpa using h 0 (by omega)))]
theorem qGK (w:World) (g o:Nat) (s:qA2) (h:∀ j,j < 8->∃ v,w.cell? ⟨g,o+j,none⟩=some v):qD0 (qHt w g o s) g o s:=by
 obtain ⟨v0,h0⟩:=h 0 (by omega);obtain ⟨v1,h1⟩:=h 1 (by omega);obtain ⟨v2,h2⟩:=h 2 (by omega);obtain ⟨v3,h3⟩:=h 3 (by omega);obtain ⟨v4,h4⟩:=h 4 (by omega);obtain ⟨v5,h5⟩:=h 5 (by omega);obtain ⟨v6,h6⟩:=h 6 (by omega);obtain ⟨v7,h7⟩:=h 7 (by omega);rw [Nat.add_zero] at h0;refine ⟨?_,?_,?_,?_,?_,?_,?_,?_⟩ <;> simp [go_sem,h0,h1,h2,h3,h4,h5,h6,h7]
theorem qAJ {w:World} {g n k:Nat} {zs:List qA2} {s:qA2} (hroom:qN6 w g n) (hd:qL2 w g 0 (zs.take k)) (hs:zs[k]? = some s) (hk:k < n) :
  qN6 (qHt w g (k * 8) s) g n/\qL2 (qHt w g (k * 8) s) g 0 (zs.take (k+1)):=by
 have hr:=qGK w g (k * 8) s (fun j hj=>hroom.1 (k * 8+j) (by omega));refine ⟨⟨fun j hj=>?_,fun j=>?_⟩,fun i r e=>?_⟩
 ·by_cases h:k * 8<=j/\j < k * 8+8
  ·have hj':j=k * 8\/j=k * 8+1\/j=k * 8+2\/j=k * 8+3\/j=k * 8+4\/j=k * 8+5\/j=k * 8+6\/j=k * 8+7:=by omega
   obtain ⟨h0,h1,h2,h3,h4,h5,h6,h7⟩:=hr;rcases hj' with rfl | rfl | rfl | rfl | rfl | rfl | rfl | rfl
   ·exact ⟨_,h0⟩
   ·exact ⟨_,h1⟩
   ·exact ⟨_,h2⟩
   ·exact ⟨_,h3⟩
   ·exact ⟨_,h4⟩
   ·exact ⟨_,h5⟩
   ·exact ⟨_,h6⟩
   ·exact ⟨_,h7⟩
  ·rw [qJ9 w g (k * 8) s ⟨g,j,none⟩ (fun i hi e=>by have e2:=congrArg Addr.off e;simp only at e2;omega)];exact hroom.1 j hj
 ·simp only [World.frozen?_setCell];exact hroom.2 j
 ·rw [List.getElem?_take] at e;split at e
  ·by_cases hik:i=k
   ·subst hik;rw [hs] at e;cases e;rw [Nat.zero_add];exact hr
   ·have hi:i < k:=by omega
    have h1:=hd i r (by rw [List.getElem?_take,if_pos hi];exact e);obtain ⟨h0,h1,h2,h3,h4,h5,h6,h7⟩:=h1;refine ⟨?_,?_,?_,?_,?_,?_,?_,?_⟩
    ·rw [qJ9 w g (k * 8) s ⟨g,0+i * 8,none⟩ (fun j hj e=>by have e2:=congrArg Addr.off e;simp only at e2;omega)];exact h0
    ·rw [qJ9 w g (k * 8) s ⟨g,0+i * 8+1,none⟩ (fun j hj e=>by have e2:=congrArg Addr.off e;simp only at e2;omega)];exact h1
    ·rw [qJ9 w g (k * 8) s ⟨g,0+i * 8+2,none⟩ (fun j hj e=>by have e2:=congrArg Addr.off e;simp only at e2;omega)];exact h2
    ·rw [qJ9 w g (k * 8) s ⟨g,0+i * 8+3,none⟩ (fun j hj e=>by have e2:=congrArg Addr.off e;simp only at e2;omega)];exact h3
    ·rw [qJ9 w g (k * 8) s ⟨g,0+i * 8+4,none⟩ (fun j hj e=>by have e2:=congrArg Addr.off e;simp only at e2;omega)];exact h4
    ·rw [qJ9 w g (k * 8) s ⟨g,0+i * 8+5,none⟩ (fun j hj e=>by have e2:=congrArg Addr.off e;simp only at e2;omega)];exact h5
    ·rw [qJ9 w g (k * 8) s ⟨g,0+i * 8+6,none⟩ (fun j hj e=>by have e2:=congrArg Addr.off e;simp only at e2;omega)];exact h6
    ·rw [qJ9 w g (k * 8) s ⟨g,0+i * 8+7,none⟩ (fun j hj e=>by have e2:=congrArg Addr.off e;simp only at e2;omega)];exact h7
  ·cases e
theorem QS5 {w0 w:World} {B g o:Nat} (h:Below B w0 w) (hg:B<=g) (s:qA2):Below B w0 (qHt w g o s) :=
 h.setCell hg _ |>.setCell hg _ |>.setCell hg _ |>.setCell hg _ |>.setCell hg _ |>.setCell hg _ |>.setCell hg _ |>.setCell hg _
theorem QZ9 (a:Option Addr) (n cap:Nat) (zs:List qA2) (w:World) (hn:n<=1048576) (h:qB8 w a n zs) :
  Calls Tryz.prog 63 #[.slice a n cap] w fun e w'=>e = .returned (.slice (some ⟨w.heap.size,0,none⟩) n n)/\qL2 w' w.heap.size 0 zs/\w.heap.size < w'.heap.size/\Below w.heap.size w w'/\qN6 w' w.heap.size n:=by
 obtain ⟨i0,hi,hz0,hz1,hz2⟩:=info_parts Tryz.info125;obtain ⟨wm,hmk,hownm,hgrm⟩:=run_make_full (P:=Tryz.prog) (w:=w) w.heap.size 68 125 i0 (.agg #[.int .i64 0,.int .i64 0,.int .i64 0,.int .i64 0,.int .i64 0,.int .i64 0,.int .i64 0,.int .i64 0]) 8 Tryz.underlying68 hi hz0 hz1 .i64 .i64 n (by rw [hz2];omega) (by unfold maxLen;omega) (Nat.le_refl _);have H:Hid (qB8 w a n zs):=h;have hz:Hid (zs.length=n):=h.1;clear h
 have HM:Hid (qN6 wm w.heap.size n/\w.heap.size < wm.heap.size):=by
  refine ⟨⟨fun j hj=>?_,fun j=>hownm.frozenAt j⟩,(hownm.lt _ rfl).2⟩;have hl:=hownm.1;exact ⟨_,(hownm.cellAt j hj).trans (List.getElem?_eq_getElem (by omega))⟩
 clear hownm;have HG:Hid (w.grownBy wm none):=hgrm;clear hgrm;have hn':(n:Int)<=1048576:=by omega
 go_enter Tryz.func63,Tryz.ntmps63;go_wp2
 go_loopw [4] (fun i wr=>∃ k:Nat,k<=n/\i = .int .i64 (k:Int)/\qN6 wr w.heap.size n/\qL2 wr w.heap.size 0 (zs.take k)/\w.heap.size < wr.heap.size/\Below w.heap.size w wr)
  (fun i _=>n - (intOf i).toNat)
 case atStart=>exact ⟨0,Nat.zero_le _,rfl,HM.out.1,fun k r e=>by simp at e,HM.out.2,(Below.refl _ _).grown HG.out (Nat.le_refl _) (fun k e=>by cases e)⟩
 case round =>
  obtain ⟨k,hk,rfl,hroom,hdone,hlt0,hnx⟩:=hrel;by_cases hlt:k < n
  ·obtain ⟨b,off,s,rfl,hs,hr⟩:=H.out.at hlt
   have HS:Hid (zs[k]? = some s):=hs;clear hs;have hb:b < w.heap.size:=zL w ⟨b,off+k * 8,none⟩ hr.1;have hr':=hr.below hnx;have HD:Hid (qN6 wr w.heap.size n/\qL2 wr w.heap.size 0 (zs.take k)):=⟨hroom,hdone⟩;obtain ⟨h0,h1,h2,h3,h4,h5,h6,h7⟩:=hr';clear hroom hdone hr;have hlt':(k:Int) < (n:Int):=by omega
   go_wp2_with fail
   refine (qIA s _).mono ?_;rintro e w1 ⟨rfl,hb1⟩;obtain ⟨⟨hc,hf⟩,hd⟩:=HD.out;have hz1:=hb1.size
   have HD1:Hid (qN6 w1 w.heap.size n/\qL2 w1 w.heap.size 0 (zs.take k)/\Below w.heap.size w w1) :=
    ⟨⟨fun j hj=>by obtain ⟨v,e⟩:=hc j hj;exact ⟨v,(hb1.cell (p:=⟨w.heap.size,j,none⟩) hlt0).trans e⟩,fun j=>(hb1.frozen (p:=⟨w.heap.size,j,none⟩) hlt0).trans (hf j)⟩,hd.below hb1,hnx.trans (hb1.mono hnx.size)⟩
   clear hc hf hd HD h0 h1 h2 h3 h4 h5 h6 h7;obtain ⟨v0,c0⟩:=HD1.out.1.1 (k * 8) (by omega);obtain ⟨v1,c1⟩:=HD1.out.1.1 (k * 8+1) (by omega);obtain ⟨v2,c2⟩:=HD1.out.1.1 (k * 8+2) (by omega);obtain ⟨v3,c3⟩:=HD1.out.1.1 (k * 8+3) (by omega);obtain ⟨v4,c4⟩:=HD1.out.1.1 (k * 8+4) (by omega);obtain ⟨v5,c5⟩:=HD1.out.1.1 (k * 8+5) (by omega);obtain ⟨v6,c6⟩:=HD1.out.1.1 (k * 8+6) (by omega);obtain ⟨v7,c7⟩:=HD1.out.1.1 (k * 8+7) (by omega);have f0:=HD1.out.1.2 (k * 8);have f1:=HD1.out.1.2 (k * 8+1);have f2:=HD1.out.1.2 (k * 8+2);have f3:=HD1.out.1.2 (k * 8+3);have f4:=HD1.out.1.2 (k * 8+4);have f5:=HD1.out.1.2 (k * 8+5);have f6:=HD1.out.1.2 (k * 8+6);have f7:=HD1.out.1.2 (k * 8+7)
   have RM:Hid (qN6 (qHt w1 w.heap.size (k * 8) s) w.heap.size n/\qL2 (qHt w1 w.heap.size (k * 8) s) w.heap.size 0 (zs.take (k+1))/\Below w.heap.size w (qHt w1 w.heap.size (k * 8) s)):=by
    have h2:=qAJ HD1.out.1 HD1.out.2.1 HS.out hlt;exact ⟨h2.1,h2.2,QS5 HD1.out.2.2 (Nat.le_refl _) s⟩
   go_wp2;exact ⟨⟨k+1,by omega,by go_num,RM.out.1,RM.out.2.1,by simp only [World.size_setCell];omega,RM.out.2.2⟩,by simp [intOf];omega⟩
  ·have hkn:k=n:=by omega
   subst hkn;rw [List.take_of_length_le (by rw [hz.out];exact Nat.le_refl _)] at hdone;go_wp2;go_ret;exact ⟨rfl,hdone,hlt0,hnx,hroom⟩
theorem qCg (r:qA2) (w:World) :
  Calls Tryz.prog 95 #[.agg #[.int .i64 r.k,.int .i64 r.ho,.int .i64 r.hn,.int .i64 r.w,.int .i64 r.oo,.int .i64 r.on,.int .i64 r.to,.int .i64 r.tn],.agg #[.int .i64 r.k,.int .i64 r.ho,.int .i64 r.hn,.int .i64 r.w,.int .i64 r.oo,.int .i64 r.on,.int .i64 r.to,.int .i64 r.tn]] w fun e w'=>e = .returned (.bool true)/\Below w.heap.size w w':=by
 go_enter Tryz.func95,Tryz.ntmps95;go_wp2;go_ret;exact ⟨rfl,by go_grown⟩
theorem qAw (a b:Option Addr) (n c d:Nat) (zs:List qA2) (w:World) (hn:n<=1048576) (ha:qB8 w a n zs) (hb:qB8 w b n zs) :
  Calls Tryz.prog 70 #[.slice a n c,.slice b n d] w fun e w'=>e = .returned (.bool true)/\Below w.heap.size w w':=by
 have HA:Hid (qB8 w a n zs):=ha;have HB:Hid (qB8 w b n zs):=hb;clear ha hb;have hn':(n:Int)<=1048576:=by omega
 go_enter Tryz.func70,Tryz.ntmps70;go_wp2;go_loopw [5] (fun i wr=>∃ k:Nat,k<=n/\i = .int .i64 (k:Int)/\Below w.heap.size w wr) (fun i _=>n - (intOf i).toNat)
 case atStart=>exact ⟨0,Nat.zero_le _,rfl,Below.refl _ _⟩
 case round =>
  obtain ⟨k,hk,rfl,hnx⟩:=hrel;by_cases hlt:k < n
  ·obtain ⟨b1,o1,s,e1,hs,hr⟩:=HA.out.at hlt
   obtain ⟨b2,o2,s2,e2,hs2,hr2⟩:=HB.out.at hlt
   obtain rfl:s=s2:=Option.some.inj (hs.symm.trans hs2);subst e1 e2;clear hs hs2;obtain ⟨h0,h1,h2,h3,h4,h5,h6,h7⟩:=hr.below hnx;obtain ⟨g0,g1,g2,g3,g4,g5,g6,g7⟩:=hr2.below hnx;clear hr hr2;have hlt':(k:Int) < (n:Int):=by omega
   have hb1:b1 < wr.heap.size:=zL wr ⟨b1,o1+k * 8,none⟩ h0;have hb2:b2 < wr.heap.size:=zL wr ⟨b2,o2+k * 8,none⟩ g0;go_wp2
   go_region_held3 (fun w'=>(∀ b o,b < wr.heap.size->w'.cell? ⟨b,o,none⟩=wr.cell? ⟨b,o,none⟩)/\Below wr.heap.size wr w') (first | exact hS | exact qC1 _)
    (first | (go_at_call 95;refine (qCg s _).mono ?_;rintro e w' ⟨rfl,hb1⟩;have hS:=qA9 (by assumption) hb1))
   go_wp2;exact ⟨⟨k+1,by omega,by go_num,hnx.trans (hS.2.mono hnx.size)⟩,by simp [intOf];omega⟩
  ·have hkn:k=n:=by omega
   subst hkn;go_wp2;go_ret;exact ⟨rfl,hnx⟩
