/- Contracts. -/
import Derived.Test.YtdppdbihhlipeaaGreatDoorPr06
import Derived.Test.YtdppdbihhlipeaaGreatDoorPr27
namespace Go.Proofs.YtdppdbihhlipeaaGreatDoor
set_option maxRecDepth 100000
set_option maxHeartbeats 8000000
open Go.RowKit
set_option linter.unusedVariables false
set_option linter.unusedSimpArgs false

structure qD4 where
 k:Int
 ro:Int
 rn:Int
 l:Int
 r:Int
deriving DecidableEq,Inhabited
def qJ1 (k:Nat) (p:qD4):Int :=
 if ¬ (1<=p.k/\p.k<=3) then 1
 else if p.k=1 then (if qD6 p.ro p.rn=false then 3 else if ¬ (p.l=0/\p.r=0) then 1 else 0)
 else if ¬ (p.ro=0/\p.rn=0) then 1 else if ¬ (0<=p.l/\p.l < k) then 3 else if ¬ (0<=p.r/\p.r < k) then 3 else 0
def QH8 (zs:List qD4):Nat->Int
 | 0=>0
 | k+1=>if QH8 zs k≠0 then QH8 zs k else match zs[k]? with
  | none=>0
  | some x=>qJ1 k x
def qN2 (zs:List qD4):Int:=if zs.length < 1 then 2 else if 8 < zs.length then 2 else QH8 zs zs.length
theorem QL2 (zs:List qD4) (k m:Nat) (c:Int) (hc:c≠0) (h:QH8 zs k=c) (hm:k<=m):QH8 zs m=c:=by
  induction m with
  | zero => obtain rfl:k=0:=by omega
            exact h
  | succ m ih =>
    by_cases e:k=m+1
    · subst e;exact h
    · have:=ih (by omega);simp only [QH8,this];rw [if_pos hc]
theorem QL3 {zs:List qD4} {k:Nat} {x:qD4} (hk:zs[k]? = some x) (h0:QH8 zs k=0):QH8 zs (k+1)=qJ1 k x:=by
 simp [QH8,h0,hk]
theorem qDQ {zs:List qD4} {m:Nat} (h:QH8 zs m=0):∀ k,k<=m->QH8 zs k=0:=by
 intro k hk;by_cases q:QH8 zs k=0
 ·exact q
 ·have:=QL2 zs k m _ q rfl hk;rw [this] at h;exact absurd h q
theorem QS7 {zs:List qD4} (h:qN2 zs=0):1<=zs.length/\zs.length<=8/\∀ k x,zs[k]? = some x->qJ1 k x=0:=by
 unfold qN2 at h;split at h
 ·cases h
 ·split at h
  ·cases h
  ·refine ⟨by omega,by omega,fun k x e=>?_⟩
   have hk:k < zs.length:=by
    by_cases q:k < zs.length
    ·exact q
    ·rw [List.getElem?_eq_none (by omega)] at e;cases e
   have h0:=qDQ h k (by omega);have h1:=qDQ h (k+1) (by omega);rw [QL3 e h0] at h1;exact h1
def qV8 (w:World) (g off:Nat) (x:qD4):Prop:=w.cell? ⟨g,off,none⟩=some (.int .i64 x.k)/\w.cell? ⟨g,off+1,none⟩=some (.int .i64 x.ro)/\w.cell? ⟨g,off+2,none⟩=some (.int .i64 x.rn)/\w.cell? ⟨g,off+3,none⟩=some (.int .i64 x.l)/\w.cell? ⟨g,off+4,none⟩=some (.int .i64 x.r)
theorem qV8.below {w w':World} {g off:Nat} {x:qD4} (h:qV8 w g off x) (hb:Below w.heap.size w w'):qV8 w' g off x:=by
 have key:∀ (o:Nat) (v:Value),w.cell? ⟨g,o,none⟩=some v->w'.cell? ⟨g,o,none⟩=some v:=fun o v e=>(hb.cell (p:=⟨g,o,none⟩) (zL w ⟨g,o,none⟩ e)).trans e
 obtain ⟨h0,h1,h2,h3,h4⟩:=h;exact ⟨key _ _ h0,key _ _ h1,key _ _ h2,key _ _ h3,key _ _ h4⟩
theorem qV8.lt {w:World} {g off:Nat} {x:qD4} (h:qV8 w g off x):g < w.heap.size:=zL w ⟨g,off,none⟩ h.1
def qO6 (w:World) (g off:Nat) (zs:List qD4):Prop:=∀ k x,zs[k]? = some x->qV8 w g (off+k * 5) x
theorem qO6.below {w w':World} {g off:Nat} {zs:List qD4} (h:qO6 w g off zs) (hb:Below w.heap.size w w'):qO6 w' g off zs:=fun k x e=>(h k x e).below hb
def qC7 (w:World) (a:Option Addr) (len:Nat) (zs:List qD4):Prop:=zs.length=len/\(0 < len->∃ b off,a=some ⟨b,off,none⟩/\qO6 w b off zs)
theorem qC7.below {w w':World} {a:Option Addr} {len:Nat} {zs:List qD4} (h:qC7 w a len zs) (hb:Below w.heap.size w w'):qC7 w' a len zs:=by
 refine ⟨h.1,fun hl=>?_⟩;obtain ⟨b,off,e,hr⟩:=h.2 hl;exact ⟨b,off,e,hr.below hb⟩
theorem qC7.at {w:World} {a:Option Addr} {len:Nat} {zs:List qD4} (h:qC7 w a len zs) {k:Nat} (hk:k < len) :
  ∃ b off x,a=some ⟨b,off,none⟩/\zs[k]? = some x/\qV8 w b (off+k * 5) x:=by
 obtain ⟨b,off,e,hr⟩:=h.2 (by omega);have hl:=h.1;exact ⟨b,off,zs[k]'(by omega),e,List.getElem?_eq_getElem (by omega),hr k _ (List.getElem?_eq_getElem (by omega))⟩
theorem qC7.of {w:World} {g len:Nat} {zs:List qD4} (hl:zs.length=len) (h:qO6 w g 0 zs):qC7 w (some ⟨g,0,none⟩) len zs :=
 ⟨hl,fun _=>⟨g,0,rfl,h⟩⟩
def QZ2 (w:World) (a:Option Addr) (len:Nat) (zs:List qD4):Prop:=qC7 w a len zs/\len<=maxLen
def QA2 (w:World) (g n:Nat):Prop:=(∀ j,j < n * 5->∃ v,w.cell? ⟨g,j,none⟩=some v)/\∀ j,w.frozen? ⟨g,j,none⟩=false
theorem QA2.below {w w':World} {g n:Nat} (h:QA2 w g n) (hg:g < w.heap.size) (hb:Below w.heap.size w w'):QA2 w' g n :=
 ⟨fun j hj=>by obtain ⟨v,e⟩:=h.1 j hj;exact ⟨v,(hb.cell (p:=⟨g,j,none⟩) hg).trans e⟩,fun j=>(hb.frozen (p:=⟨g,j,none⟩) hg).trans (h.2 j)⟩
abbrev qIT (w:World) (g o:Nat) (s:qD4):World:=(((((w.setCell ⟨g,o,none⟩ (.int .i64 s.k)).setCell ⟨g,o+1,none⟩ (.int .i64 s.ro)).setCell ⟨g,o+2,none⟩ (.int .i64 s.rn)).setCell ⟨g,o+3,none⟩ (.int .i64 s.l)).setCell ⟨g,o+4,none⟩ (.int .i64 s.r))
theorem QS6 (w:World) (g o:Nat) (s:qD4) (a:Addr) (h:∀ j,j < 5->a≠⟨g,o+j,none⟩):(qIT w g o s).cell? a=w.cell? a:=by
 rw [World.cell?_setCell_other (h:=Ne.symm (h 4 (by omega))),World.cell?_setCell_other (h:=Ne.symm (h 3 (by omega))),World.cell?_setCell_other (h:=Ne.symm (h 2 (by omega))),World.cell?_setCell_other (h:=Ne.symm (h 1 (by omega))),World.cell?_setCell_other (h:=Ne.symm (a:=a) (b:=⟨g,o,none⟩) (by simpa using h 0 (by omega)))]
theorem qKY (w:World) (g o:Nat) (s:qD4) (h:∀ j,j < 5->∃ v,w.cell? ⟨g,o+j,none⟩=some v):qV8 (qIT w g o s) g o s:=by
 obtain ⟨v0,h0⟩:=h 0 (by omega);obtain ⟨v1,h1⟩:=h 1 (by omega);obtain ⟨v2,h2⟩:=h 2 (by omega);obtain ⟨v3,h3⟩:=h 3 (by omega);obtain ⟨v4,h4⟩:=h 4 (by omega);rw [Nat.add_zero] at h0;refine ⟨?_,?_,?_,?_,?_⟩ <;> simp [go_sem,h0,h1,h2,h3,h4]
theorem qGL {w:World} {g n k:Nat} {zs:List qD4} {s:qD4} (hroom:QA2 w g n) (hd:qO6 w g 0 (zs.take k)) (hs:zs[k]? = some s) (hk:k < n) :
  QA2 (qIT w g (k * 5) s) g n/\qO6 (qIT w g (k * 5) s) g 0 (zs.take (k+1)):=by
 have hr:=qKY w g (k * 5) s (fun j hj=>hroom.1 (k * 5+j) (by omega));refine ⟨⟨fun j hj=>?_,fun j=>?_⟩,fun i r e=>?_⟩
 ·by_cases h:k * 5<=j/\j < k * 5+5
  ·have hj':j=k * 5\/j=k * 5+1\/j=k * 5+2\/j=k * 5+3\/j=k * 5+4:=by omega
   obtain ⟨h0,h1,h2,h3,h4⟩:=hr;rcases hj' with rfl | rfl | rfl | rfl | rfl
   ·exact ⟨_,h0⟩
   ·exact ⟨_,h1⟩
   ·exact ⟨_,h2⟩
   ·exact ⟨_,h3⟩
   ·exact ⟨_,h4⟩
  ·rw [QS6 w g (k * 5) s ⟨g,j,none⟩ (fun i hi e=>by have e2:=congrArg Addr.off e;simp only at e2;omega)];exact hroom.1 j hj
 ·simp only [World.frozen?_setCell];exact hroom.2 j
 ·rw [List.getElem?_take] at e;split at e
  ·by_cases hik:i=k
   ·subst hik;rw [hs] at e;cases e;rw [Nat.zero_add];exact hr
   ·have hi:i < k:=by omega
    have h1:=hd i r (by rw [List.getElem?_take,if_pos hi];exact e)
    have key:∀ (o:Nat) (v:Value),o < k * 5->w.cell? ⟨g,o,none⟩=some v->(qIT w g (k * 5) s).cell? ⟨g,o,none⟩=some v:=fun o v ho hv=>by
     rw [QS6 w g (k * 5) s ⟨g,o,none⟩ (fun j hj e=>by have e2:=congrArg Addr.off e;simp only at e2;omega)];exact hv
    obtain ⟨h0,h1,h2,h3,h4⟩:=h1;exact ⟨key _ _ (by omega) h0,key _ _ (by omega) h1,key _ _ (by omega) h2,key _ _ (by omega) h3,key _ _ (by omega) h4⟩
  ·cases e
theorem qEb {w0 w:World} {B g o:Nat} (h:Below B w0 w) (hg:B<=g) (s:qD4):Below B w0 (qIT w g o s) :=
 h.setCell hg _ |>.setCell hg _ |>.setCell hg _ |>.setCell hg _ |>.setCell hg _
theorem qIB (x:qD4) (w:World):Calls Tryz.prog 147 #[.agg #[.int .i64 x.k,.int .i64 x.ro,.int .i64 x.rn,.int .i64 x.l,.int .i64 x.r]] w fun e w'=>e = .returned (.agg #[.int .i64 x.k,.int .i64 x.ro,.int .i64 x.rn,.int .i64 x.l,.int .i64 x.r])/\Below w.heap.size w w':=by
 go_enter Tryz.func147,Tryz.ntmps147;go_wp2;go_returns
 exact ⟨rfl,by go_grown⟩
theorem Tryz.info162:(Tryz.prog.info? 162).map (fun i=>(i.zero,i.size,i.bytes))=some (some (.agg #[.int .i64 0,.int .i64 0,.int .i64 0,.int .i64 0,.int .i64 0]),5,40):=by kernel_rfl
theorem qAA (a:Option Addr) (n cap:Nat) (zs:List qD4) (w:World) (hn:n<=1048576) (h:qC7 w a n zs) :
  Calls Tryz.prog 119 #[.slice a n cap] w fun e w'=>e = .returned (.slice (some ⟨w.heap.size,0,none⟩) n n)/\qO6 w' w.heap.size 0 zs/\w.heap.size < w'.heap.size/\Below w.heap.size w w'/\QA2 w' w.heap.size n:=by
 obtain ⟨i0,hi,hz0,hz1,hz2⟩:=info_parts Tryz.info162;obtain ⟨wm,hmk,hownm,hgrm⟩:=run_make_full (P:=Tryz.prog) (w:=w) w.heap.size 127 162 i0 (.agg #[.int .i64 0,.int .i64 0,.int .i64 0,.int .i64 0,.int .i64 0]) 5 Tryz.underlying127 hi hz0 hz1 .i64 .i64 n (by rw [hz2];omega) (by unfold maxLen;omega) (Nat.le_refl _);have H:Hid (qC7 w a n zs):=h;have hz:Hid (zs.length=n):=h.1;clear h
 have HM:Hid (QA2 wm w.heap.size n/\w.heap.size < wm.heap.size):=by
  refine ⟨⟨fun j hj=>?_,fun j=>hownm.frozenAt j⟩,(hownm.lt _ rfl).2⟩;have hl:=hownm.1;exact ⟨_,(hownm.cellAt j hj).trans (List.getElem?_eq_getElem (by omega))⟩
 clear hownm;have HG:Hid (w.grownBy wm none):=hgrm;clear hgrm;have hn':(n:Int)<=1048576:=by omega
 go_enter Tryz.func119,Tryz.ntmps119;go_wp2
 go_loopw [4] (fun i wr=>∃ k:Nat,k<=n/\i = .int .i64 (k:Int)/\QA2 wr w.heap.size n/\qO6 wr w.heap.size 0 (zs.take k)/\w.heap.size < wr.heap.size/\Below w.heap.size w wr)
  (fun i _=>n - (intOf i).toNat)
 case atStart=>exact ⟨0,Nat.zero_le _,rfl,HM.out.1,fun k r e=>by simp at e,HM.out.2,(Below.refl _ _).grown HG.out (Nat.le_refl _) (fun k e=>by cases e)⟩
 case round =>
  obtain ⟨k,hk,rfl,hroom,hdone,hlt0,hnx⟩:=hrel;by_cases hlt:k < n
  ·obtain ⟨b,off,s,rfl,hs,hr⟩:=H.out.at hlt
   have HS:Hid (zs[k]? = some s):=hs;have hb:b < w.heap.size:=hr.lt;clear hs;obtain ⟨h0,h1,h2,h3,h4⟩:=hr.below hnx;have HD:Hid (QA2 wr w.heap.size n/\qO6 wr w.heap.size 0 (zs.take k)):=⟨hroom,hdone⟩;clear hroom hdone hr;have hlt':(k:Int) < (n:Int):=by omega
   go_wp2_with fail
   refine (qIB s _).mono ?_;rintro e w1 ⟨rfl,hb1⟩;obtain ⟨⟨hc,hf⟩,hd⟩:=HD.out;have hz1:=hb1.size
   have HD1:Hid (QA2 w1 w.heap.size n/\qO6 w1 w.heap.size 0 (zs.take k)/\Below w.heap.size w w1) :=
    ⟨⟨fun j hj=>by obtain ⟨v,e⟩:=hc j hj;exact ⟨v,(hb1.cell (p:=⟨w.heap.size,j,none⟩) hlt0).trans e⟩,fun j=>(hb1.frozen (p:=⟨w.heap.size,j,none⟩) hlt0).trans (hf j)⟩,hd.below hb1,hnx.trans (hb1.mono hnx.size)⟩
   clear hc hf hd HD h0 h1 h2 h3 h4;obtain ⟨v0,c0⟩:=HD1.out.1.1 (k * 5) (by omega);obtain ⟨v1,c1⟩:=HD1.out.1.1 (k * 5+1) (by omega);obtain ⟨v2,c2⟩:=HD1.out.1.1 (k * 5+2) (by omega);obtain ⟨v3,c3⟩:=HD1.out.1.1 (k * 5+3) (by omega);obtain ⟨v4,c4⟩:=HD1.out.1.1 (k * 5+4) (by omega);have f0:=HD1.out.1.2 (k * 5);have f1:=HD1.out.1.2 (k * 5+1);have f2:=HD1.out.1.2 (k * 5+2);have f3:=HD1.out.1.2 (k * 5+3);have f4:=HD1.out.1.2 (k * 5+4)
   have RM:Hid (QA2 (qIT w1 w.heap.size (k * 5) s) w.heap.size n/\qO6 (qIT w1 w.heap.size (k * 5) s) w.heap.size 0 (zs.take (k+1))/\Below w.heap.size w (qIT w1 w.heap.size (k * 5) s)):=by
    have h2:=qGL HD1.out.1 HD1.out.2.1 HS.out hlt;exact ⟨h2.1,h2.2,qEb HD1.out.2.2 (Nat.le_refl _) s⟩
   go_wp2;exact ⟨⟨k+1,by omega,by go_num,RM.out.1,RM.out.2.1,by simp only [World.size_setCell];omega,RM.out.2.2⟩,by simp [intOf];omega⟩
  ·have hkn:k=n:=by omega
   subst hkn;rw [List.take_of_length_le (by rw [hz.out];exact Nat.le_refl _)] at hdone;go_wp2;go_ret;exact ⟨rfl,hdone,hlt0,hnx,hroom⟩
theorem qCh (x:qD4) (w:World) :
  Calls Tryz.prog 153 #[.agg #[.int .i64 x.k,.int .i64 x.ro,.int .i64 x.rn,.int .i64 x.l,.int .i64 x.r],.agg #[.int .i64 x.k,.int .i64 x.ro,.int .i64 x.rn,.int .i64 x.l,.int .i64 x.r]] w fun e w'=>e = .returned (.bool true)/\Below w.heap.size w w':=by
 go_enter Tryz.func153,Tryz.ntmps153;go_wp2;go_ret;exact ⟨rfl,by go_grown⟩
theorem qAx (a b:Option Addr) (n c d:Nat) (zs:List qD4) (w:World) (hn:n<=1048576) (ha:qC7 w a n zs) (hb:qC7 w b n zs) :
  Calls Tryz.prog 124 #[.slice a n c,.slice b n d] w fun e w'=>e = .returned (.bool true)/\Below w.heap.size w w':=by
 have HA:Hid (qC7 w a n zs):=ha;have HB:Hid (qC7 w b n zs):=hb;clear ha hb;have hn':(n:Int)<=1048576:=by omega
 go_enter Tryz.func124,Tryz.ntmps124;go_wp2;go_loopw [5] (fun i wr=>∃ k:Nat,k<=n/\i = .int .i64 (k:Int)/\Below w.heap.size w wr) (fun i _=>n - (intOf i).toNat)
 case atStart=>exact ⟨0,Nat.zero_le _,rfl,Below.refl _ _⟩
 case round =>
  obtain ⟨k,hk,rfl,hnx⟩:=hrel;by_cases hlt:k < n
  ·obtain ⟨b1,o1,s,e1,hs,hr⟩:=HA.out.at hlt
   obtain ⟨b2,o2,s2,e2,hs2,hr2⟩:=HB.out.at hlt
   obtain rfl:s=s2:=Option.some.inj (hs.symm.trans hs2);subst e1 e2;clear hs hs2;obtain ⟨h0,h1,h2,h3,h4⟩:=hr.below hnx;obtain ⟨g0,g1,g2,g3,g4⟩:=hr2.below hnx;clear hr hr2;have hlt':(k:Int) < (n:Int):=by omega
   have hb1:b1 < wr.heap.size:=zL wr ⟨b1,o1+k * 5,none⟩ h0;have hb2:b2 < wr.heap.size:=zL wr ⟨b2,o2+k * 5,none⟩ g0;go_wp2
   go_region_held3 (fun w'=>(∀ b o,b < wr.heap.size->w'.cell? ⟨b,o,none⟩=wr.cell? ⟨b,o,none⟩)/\Below wr.heap.size wr w') (first | exact hS | exact qC1 _)
    (first | (go_at_call 153;refine (qCh s _).mono ?_;rintro e w' ⟨rfl,hb1⟩;have hS:=qA9 (by assumption) hb1))
   go_wp2;exact ⟨⟨k+1,by omega,by go_num,hnx.trans (hS.2.mono hnx.size)⟩,by simp [intOf];omega⟩
  ·have hkn:k=n:=by omega
   subst hkn;go_wp2;go_ret;exact ⟨rfl,hnx⟩

structure qF2 where
 a:Option Addr
 n:Nat
 cap:Nat
 ps:List qD4
deriving Inhabited
def QH5 (w:World) (g off:Nat) (x:qF2):Prop:=w.cell? ⟨g,off,none⟩=some (.slice x.a x.n x.cap)/\qC7 w x.a x.n x.ps
theorem QH5.below {w w':World} {g off:Nat} {x:qF2} (h:QH5 w g off x) (hb:Below w.heap.size w w'):QH5 w' g off x :=
 ⟨(hb.cell (p:=⟨g,off,none⟩) (zL w ⟨g,off,none⟩ h.1)).trans h.1,h.2.below hb⟩
theorem QH5.lt {w:World} {g off:Nat} {x:qF2} (h:QH5 w g off x):g < w.heap.size:=zL w ⟨g,off,none⟩ h.1
def qS2 (w:World) (g off:Nat) (fs:List qF2):Prop:=∀ (k:Nat) (x:qF2),fs[k]? = some x->QH5 w g (off+k) x
theorem qS2.below {w w':World} {g off:Nat} {fs:List qF2} (h:qS2 w g off fs) (hb:Below w.heap.size w w'):qS2 w' g off fs:=fun k x e=>(h k x e).below hb
def qF9 (w:World) (a:Option Addr) (n:Nat) (fs:List qF2):Prop:=fs.length=n/\(0 < n->∃ b off,a=some ⟨b,off,none⟩/\qS2 w b off fs)
theorem qF9.below {w w':World} {a:Option Addr} {n:Nat} {fs:List qF2} (h:qF9 w a n fs) (hb:Below w.heap.size w w'):qF9 w' a n fs:=by
 refine ⟨h.1,fun hl=>?_⟩;obtain ⟨b,off,e,hr⟩:=h.2 hl;exact ⟨b,off,e,hr.below hb⟩
theorem qF9.at {w:World} {a:Option Addr} {n:Nat} {fs:List qF2} (h:qF9 w a n fs) {k:Nat} (hk:k < n) :
  ∃ b off x,a=some ⟨b,off,none⟩/\fs[k]? = some x/\QH5 w b (off+k) x:=by
 obtain ⟨b,off,e,hr⟩:=h.2 (by omega);have hl:=h.1;exact ⟨b,off,fs[k]'(by omega),e,List.getElem?_eq_getElem (by omega),hr k _ (List.getElem?_eq_getElem (by omega))⟩
theorem qF9.of {w:World} {g n:Nat} {fs:List qF2} (hl:fs.length=n) (h:qS2 w g 0 fs):qF9 w (some ⟨g,0,none⟩) n fs :=
 ⟨hl,fun _=>⟨g,0,rfl,h⟩⟩
def qA5 (fs:List qF2):List (List qD4):=fs.map qF2.ps
def qM5 (m:Nat) (fs:List qF2):Prop:=∀ (k:Nat) (x:qF2),fs[k]? = some x->x.n<=m
def qO7 (w:World) (L:Nat) (x:qF2):Prop:=x.cap=x.n/\∃ g,x.a=some ⟨g,0,none⟩/\L<=g/\g < w.heap.size/\QA2 w g x.n
theorem qO7.below {w w':World} {L:Nat} {x:qF2} (h:qO7 w L x) (hb:Below w.heap.size w w'):qO7 w' L x:=by
 obtain ⟨h0,g,h1,h2,h3,h4⟩:=h;exact ⟨h0,g,h1,h2,by have:=hb.size;omega,h4.below h3 hb⟩
def qK6 (w:World) (L:Nat) (fs:List qF2):Prop:=∀ (k:Nat) (x:qF2),fs[k]? = some x->qO7 w L x
theorem qK6.below {w w':World} {L:Nat} {fs:List qF2} (h:qK6 w L fs) (hb:Below w.heap.size w w'):qK6 w' L fs:=fun k x e=>(h k x e).below hb
theorem Tryz.info129:(Tryz.prog.info? 129).map (fun i=>(i.zero,i.size,i.bytes))=some (some (.agg #[.slice none 0 0]),1,24):=by kernel_rfl
theorem qC7.set {w:World} {a:Option Addr} {n g o:Nat} {v:Value} {zs:List qD4} (h:qC7 w a n zs) (hne:∀ b off,a=some ⟨b,off,none⟩->b≠g):qC7 (w.setCell ⟨g,o,none⟩ v) a n zs:=by
 refine ⟨h.1,fun hp=>?_⟩;obtain ⟨b,off,e,hr⟩:=h.2 hp;refine ⟨b,off,e,fun k x hx=>?_⟩
 have key:∀ (q:Nat) (u:Value),w.cell? ⟨b,q,none⟩=some u->(w.setCell ⟨g,o,none⟩ v).cell? ⟨b,q,none⟩=some u:=fun q u hu=>by
  rw [World.cell?_setCell_other (h:=fun e2=>hne b off e (by have:=congrArg Addr.block e2;simp at this;omega))];exact hu
 obtain ⟨h0,h1,h2,h3,h4⟩:=hr k x hx;exact ⟨key _ _ h0,key _ _ h1,key _ _ h2,key _ _ h3,key _ _ h4⟩
theorem QA2.setAny {w:World} {g n:Nat} (h:QA2 w g n) (b o:Nat) (v:Value):QA2 (w.setCell ⟨b,o,none⟩ v) g n:=by
 refine ⟨fun j hj=>?_,fun j=>by simp only [World.frozen?_setCell];exact h.2 j⟩;obtain ⟨u,e⟩:=h.1 j hj;by_cases q:(⟨b,o,none⟩:Addr)=⟨g,j,none⟩
 ·cases q;exact ⟨v,by simp [go_sem,e]⟩
 ·exact ⟨u,by rw [World.cell?_setCell_other (h:=q)];exact e⟩
theorem qIC (x:qF2) (w:World) (hn:x.n<=1048576) (h:qC7 w x.a x.n x.ps) :
  Calls Tryz.prog 92 #[.agg #[.slice x.a x.n x.cap]] w fun e w'=>∃ y:qF2,e = .returned (.agg #[.slice y.a y.n y.cap])/\y.ps=x.ps/\y.n=x.n/\qC7 w' y.a y.n y.ps/\qO7 w' w.heap.size y/\Below w.heap.size w w':=by
 have HP:Hid (qC7 w x.a x.n x.ps):=h;clear h;obtain ⟨W,hW⟩:∃ W,W=((w.alloc (.cells #[.slice x.a x.n x.cap] 150)).alloc (.cells #[.slice none 0 0] 129)).alloc (.cells #[.slice none 0 0] 129):=⟨_,rfl⟩;have hs:W.heap.size=w.heap.size+3:=by rw [hW];simp
 have B0:Below w.heap.size w W:=by rw [hW];exact ((zN).alloc (by simp) _).alloc (by simp;omega) _
 have c1:W.cell? ⟨w.heap.size+1,0,none⟩=some (.slice none 0 0):=by rw [hW];go_cell
 have c2:W.cell? ⟨w.heap.size+2,0,none⟩=some (.slice none 0 0):=by rw [hW];go_cell
 have f1:W.frozen? ⟨w.heap.size+1,0,none⟩=false:=by rw [hW];simp [go_sem]
 have f2:W.frozen? ⟨w.heap.size+2,0,none⟩=false:=by rw [hW];simp [go_sem]
 go_enter Tryz.func92,Tryz.ntmps92;go_wp2_with fail
 rw [<- hW];clear hW;refine (qAA x.a x.n x.cap x.ps W hn (HP.out.below B0)).mono ?_;rintro e w1 ⟨rfl,hat,hlt,hb,hroom⟩;have HQ:Hid (qO6 w1 W.heap.size 0 x.ps/\QA2 w1 W.heap.size x.n/\Below w.heap.size w w1):=⟨hat,hroom,B0.trans (hb.mono (by omega))⟩;have d1:w1.cell? ⟨w.heap.size+1,0,none⟩=some (.slice none 0 0):=(hb.cell (p:=⟨w.heap.size+1,0,none⟩) (by show w.heap.size+1 < W.heap.size;omega)).trans c1;have d2:w1.cell? ⟨w.heap.size+2,0,none⟩=some (.slice none 0 0):=(hb.cell (p:=⟨w.heap.size+2,0,none⟩) (by show w.heap.size+2 < W.heap.size;omega)).trans c2;have g1:w1.frozen? ⟨w.heap.size+1,0,none⟩=false:=(hb.frozen (p:=⟨w.heap.size+1,0,none⟩) (by show w.heap.size+1 < W.heap.size;omega)).trans f1;have g2:w1.frozen? ⟨w.heap.size+2,0,none⟩=false:=(hb.frozen (p:=⟨w.heap.size+2,0,none⟩) (by show w.heap.size+2 < W.heap.size;omega)).trans f2;have hw:w.heap.size+2 < w1.heap.size:=by omega
 have HS:Hid (W.heap.size=w.heap.size+3):=hs;clear hat hroom hb c1 c2 f1 f2 B0 hs;go_wp2;refine bodyPost_ret (v:=.agg #[.slice (some ⟨W.heap.size,0,none⟩) x.n x.n]) (by simp [results,Tryz.results92,go_sem,d1,d2,hw]) rfl ⟨⟨some ⟨W.heap.size,0,none⟩,x.n,x.n,x.ps⟩,rfl,rfl,rfl,?_,⟨rfl,_,rfl,by have:=HS.out;omega,by simp only [World.size_setCell];exact hlt,(HQ.out.2.1.setAny _ _ _).setAny _ _ _⟩,?_⟩
 ·exact ((qC7.of HP.out.1 HQ.out.1).set (fun b off e=>by cases e;have:=HS.out;omega)).set (fun b off e=>by cases e;have:=HS.out;omega)
 ·exact (HQ.out.2.2.setCell (by simp;omega) _).setCell (by simp) _
theorem qHP {w:World} {B k n:Nat} {ys:List qF2} {y:qF2} (hroom:qH9 w B n) (hk:k < n) (hl:ys.length=k) (hat:qS2 w B 0 ys) (hnew:qK6 w (B+1) ys) (hp:qC7 w y.a y.n y.ps) (hy:qO7 w (B+1) y) :
  qH9 (w.setCell ⟨B,k,none⟩ (.slice y.a y.n y.cap)) B n/\qS2 (w.setCell ⟨B,k,none⟩ (.slice y.a y.n y.cap)) B 0 (ys++[y])/\qK6 (w.setCell ⟨B,k,none⟩ (.slice y.a y.n y.cap)) (B+1) (ys++[y]):=by
 have hne:∀ z:qF2,qO7 w (B+1) z->∀ b off,z.a=some ⟨b,off,none⟩->b≠B:=fun z hz b off e=>by
  obtain ⟨_,g,e',hg,_⟩:=hz;rw [e] at e';cases e';omega
 have hns:∀ z:qF2,qO7 w (B+1) z->qO7 (w.setCell ⟨B,k,none⟩ (.slice y.a y.n y.cap)) (B+1) z:=fun z hz=>by
  obtain ⟨h0,g,e',hg,hlt,hr⟩:=hz;exact ⟨h0,g,e',hg,by simp only [World.size_setCell];exact hlt,hr.setAny _ _ _⟩
 obtain ⟨u,hu⟩:=hroom.1 k hk;refine ⟨hroom.set _ _,fun j x e=>?_,fun j x e=>?_⟩
 ·by_cases hj:j < k
  ·rw [List.getElem?_append_left (by omega)] at e;obtain ⟨h1,h2⟩:=hat j x e;refine ⟨?_,h2.set (hne x (hnew j x e))⟩;rw [World.cell?_setCell_other (h:=fun q=>by have:=congrArg Addr.off q;simp at this;omega)];exact h1
  ·have hjk:j=k:=by
    by_cases q:j < (ys++[y]).length
    ·simp at q;omega
    ·rw [List.getElem?_eq_none (by omega)] at e;cases e
   subst hjk;rw [<- hl,List.getElem?_append_right (Nat.le_refl _),Nat.sub_self] at e;simp at e;subst e;refine ⟨?_,hp.set (hne y hy)⟩;rw [Nat.zero_add];simp [go_sem,hu]
 ·rcases List.mem_append.1 (List.mem_of_getElem? e) with h | h
  ·obtain ⟨i,hi⟩:=List.mem_iff_getElem?.1 h;exact hns x (hnew i x hi)
  ·rw [List.mem_singleton.1 h];exact hns y hy
structure qDC (w0 w:World) (n:Nat) (fs ys:List qF2):Prop where
 ln:ys.length=n
 ps:qA5 ys=qA5 fs
 at':qS2 w w0.heap.size 0 ys
 nw:qK6 w (w0.heap.size+1) ys
 rm:qH9 w w0.heap.size n
 lt:w0.heap.size < w.heap.size
 bl:Below w0.heap.size w0 w
theorem qFh (a:Option Addr) (n cap:Nat) (fs:List qF2) (w:World) (hn:n<=1048576) (hle:qM5 1048576 fs) (h:qF9 w a n fs) :
  Calls Tryz.prog 64 #[.slice a n cap] w fun e w'=>e = .returned (.slice (some ⟨w.heap.size,0,none⟩) n n)/\∃ ys,qDC w w' n fs ys:=by
 obtain ⟨i0,hi,hz0,hz1,hz2⟩:=info_parts Tryz.info129;obtain ⟨wm,hmk,hownm,hgrm⟩:=run_make_full (P:=Tryz.prog) (w:=w) w.heap.size 69 129 i0 (.agg #[.slice none 0 0]) 1 Tryz.underlying69 hi hz0 hz1 .i64 .i64 n (by rw [hz2];omega) (by unfold maxLen;omega) (Nat.le_refl _);have H:Hid (qF9 w a n fs):=h;have HLE:Hid (qM5 1048576 fs):=hle;have hz:Hid (fs.length=n):=h.1;clear h hle
 have HM:Hid (qH9 wm w.heap.size n/\w.heap.size < wm.heap.size):=by
  refine ⟨⟨fun j hj=>?_,fun j=>hownm.frozenAt j⟩,(hownm.lt _ rfl).2⟩;have hl:=hownm.1;exact ⟨_,(hownm.cellAt j (by omega)).trans (List.getElem?_eq_getElem (by omega))⟩
 clear hownm;have HG:Hid (w.grownBy wm none):=hgrm;clear hgrm;have hn':(n:Int)<=1048576:=by omega
 go_enter Tryz.func64,Tryz.ntmps64;go_wp2
 go_loopw [4] (fun i wr=>∃ (k:Nat) (ys:List qF2),k<=n/\i = .int .i64 (k:Int)/\ys.length=k/\qA5 ys=qA5 (fs.take k)/\qH9 wr w.heap.size n/\qS2 wr w.heap.size 0 ys/\qK6 wr (w.heap.size+1) ys/\w.heap.size < wr.heap.size/\Below w.heap.size w wr)
  (fun i _=>n - (intOf i).toNat)
 case atStart=>exact ⟨0,[],Nat.zero_le _,rfl,rfl,rfl,HM.out.1,fun k r e=>by simp at e,fun k r e=>by simp at e,HM.out.2,(Below.refl _ _).grown HG.out (Nat.le_refl _) (fun k e=>by cases e)⟩
 case round =>
  obtain ⟨k,ys,hk,rfl,hyl,hyp,hroom,hat,hnew,hlt0,hnx⟩:=hrel;have HY:Hid (ys.length=k/\qA5 ys=qA5 (fs.take k)):=⟨hyl,hyp⟩;clear hyl hyp;by_cases hlt:k < n
  ·obtain ⟨b,off,x,rfl,hs,hr⟩:=H.out.at hlt
   have HS:Hid (fs[k]? = some x):=hs;have hb:b < w.heap.size:=hr.lt;have hx:x.n<=1048576:=HLE.out k x hs;clear hs;have hr2:=hr.below hnx;have h0:=hr2.1;have HX:Hid (qC7 wr x.a x.n x.ps):=hr2.2;have HD:Hid (qH9 wr w.heap.size n/\qS2 wr w.heap.size 0 ys/\qK6 wr (w.heap.size+1) ys/\Below w.heap.size w wr):=⟨hroom,hat,hnew,hnx⟩;clear hroom hat hnew hr hr2 hnx;have hlt':(k:Int) < (n:Int):=by omega
   go_wp2_with fail
   refine (qIC x _ hx HX.out).mono ?_;rintro e w1 ⟨y,rfl,hyps,hyn,hyP,hyN,hb1⟩;have hz1:=hb1.size;have HB:Hid (Below wr.heap.size wr w1):=hb1
   have hyN':qO7 w1 (w.heap.size+1) y:=by
    obtain ⟨q0,g,q1,q2,q3⟩:=hyN;exact ⟨q0,g,q1,by omega,q3⟩
   obtain ⟨P1,P2,P3⟩:=qHP (HD.out.1.below hlt0 hb1) hlt HY.out.1 (HD.out.2.1.below hb1) (HD.out.2.2.1.below hb1) hyP hyN';have RM:Hid (qH9 (w1.setCell ⟨w.heap.size,k,none⟩ (.slice y.a y.n y.cap)) w.heap.size n/\qS2 (w1.setCell ⟨w.heap.size,k,none⟩ (.slice y.a y.n y.cap)) w.heap.size 0 (ys++[y])/\qK6 (w1.setCell ⟨w.heap.size,k,none⟩ (.slice y.a y.n y.cap)) (w.heap.size+1) (ys++[y])/\Below w.heap.size w (w1.setCell ⟨w.heap.size,k,none⟩ (.slice y.a y.n y.cap))):=⟨P1,P2,P3,(HD.out.2.2.2.trans (hb1.mono HD.out.2.2.2.size)).setCell (Nat.le_refl _) _⟩
   have HP:Hid (qA5 (ys++[y])=qA5 (fs.take (k+1))):=by
    show qA5 (ys++[y])=qA5 (fs.take (k+1))
    have h1:=HY.out.2;unfold qA5 at h1 ⊢
    rw [List.map_append,h1,List.take_add_one,HS.out];simp [hyps]
   obtain ⟨u,hu⟩:=(HD.out.1.below hlt0 hb1).1 k hlt;have hf:=(HD.out.1.below hlt0 hb1).2 k;clear P1 P2 P3 hyps hyn hyP hyN hyN' hb1 h0;go_wp2;exact ⟨⟨k+1,ys++[y],by omega,by go_num,by simp [HY.out.1],HP.out,RM.out.1,RM.out.2.1,RM.out.2.2.1,by simp only [World.size_setCell];omega,RM.out.2.2.2⟩,by simp [intOf];omega⟩
  ·have hkn:k=n:=by omega
   subst hkn
   have HQ:Hid (qDC w wr k fs ys):=by
    refine ⟨HY.out.1,?_,hat,hnew,hroom,hlt0,hnx⟩;have:=HY.out.2;rw [List.take_of_length_le (by rw [hz.out];exact Nat.le_refl _)] at this;exact this
   go_wp2;go_ret;exact ⟨rfl,ys,HQ.out⟩
theorem qCj (x y:qF2) (w:World) (hn:x.n<=1048576) (hp:y.ps=x.ps) (ha:qC7 w x.a x.n x.ps) (hb:qC7 w y.a y.n y.ps) :
  Calls Tryz.prog 96 #[.agg #[.slice x.a x.n x.cap],.agg #[.slice y.a y.n y.cap]] w fun e w'=>e = .returned (.bool true)/\Below w.heap.size w w':=by
 have hyn:y.n=x.n:=by have h1:=ha.1;have h2:=hb.1;rw [hp] at h2;omega
 rw [hyn] at hb;rw [hp] at hb;rw [hyn];clear hyn hp;have HA:Hid (qC7 w x.a x.n x.ps):=ha;have HB:Hid (qC7 w y.a x.n x.ps):=hb;clear ha hb;obtain ⟨W,hW⟩:∃ W,W=(w.alloc (.cells #[.slice x.a x.n x.cap] 129)).alloc (.cells #[.slice y.a x.n y.cap] 129):=⟨_,rfl⟩;have B0:Below w.heap.size w W:=by rw [hW];exact (zN).alloc (by simp) _
 go_enter Tryz.func96,Tryz.ntmps96;go_wp2_with fail
 rw [<- hW];clear hW;refine (qAx x.a y.a x.n x.cap y.cap x.ps W hn (HA.out.below B0) (HB.out.below B0)).mono ?_;rintro e w1 ⟨rfl,hb1⟩;have hbb:Below w.heap.size w w1:=B0.trans (hb1.mono B0.size);clear B0 hb1;go_wp2;go_ret;exact ⟨rfl,hbb⟩
theorem qIY {fs ys:List qF2} (hp:qA5 ys=qA5 fs) {k:Nat} {x y:qF2} (hx:fs[k]? = some x) (hy:ys[k]? = some y):y.ps=x.ps:=by
 have h1:(qA5 ys)[k]? = some y.ps:=by unfold qA5;rw [List.getElem?_map,hy];rfl
 have h2:(qA5 fs)[k]? = some x.ps:=by unfold qA5;rw [List.getElem?_map,hx];rfl
 rw [hp,h2] at h1;exact (Option.some.inj h1).symm
theorem qAz (a b:Option Addr) (n c d:Nat) (fs ys:List qF2) (w:World) (hn:n<=1048576) (hle:qM5 1048576 fs) (hp:qA5 ys=qA5 fs) (ha:qF9 w a n fs) (hb:qF9 w b n ys) :
  Calls Tryz.prog 71 #[.slice a n c,.slice b n d] w fun e w'=>e = .returned (.bool true)/\Below w.heap.size w w':=by
 have HA:Hid (qF9 w a n fs):=ha;have HB:Hid (qF9 w b n ys):=hb;have HLE:Hid (qM5 1048576 fs):=hle;have HP:Hid (qA5 ys=qA5 fs):=hp;clear ha hb hle hp;have hn':(n:Int)<=1048576:=by omega
 go_enter Tryz.func71,Tryz.ntmps71;go_wp2;go_loopw [5] (fun i wr=>∃ k:Nat,k<=n/\i = .int .i64 (k:Int)/\Below w.heap.size w wr) (fun i _=>n - (intOf i).toNat)
 case atStart=>exact ⟨0,Nat.zero_le _,rfl,Below.refl _ _⟩
 case round =>
  obtain ⟨k,hk,rfl,hnx⟩:=hrel;by_cases hlt:k < n
  ·obtain ⟨b1,o1,x,e1,hs,hr⟩:=HA.out.at hlt
   obtain ⟨b2,o2,y,e2,hs2,hr2⟩:=HB.out.at hlt
   have hxn:=HLE.out k x hs;have hxy:=qIY HP.out hs hs2;subst e1 e2;clear hs hs2;have h0:=(hr.below hnx).1;have g0:=(hr2.below hnx).1;have HX:Hid (qC7 wr x.a x.n x.ps/\qC7 wr y.a y.n y.ps/\y.ps=x.ps):=⟨(hr.below hnx).2,(hr2.below hnx).2,hxy⟩;clear hr hr2 hxy;have hlt':(k:Int) < (n:Int):=by omega
   have hb1:b1 < wr.heap.size:=zL wr ⟨b1,o1+k,none⟩ h0;have hb2:b2 < wr.heap.size:=zL wr ⟨b2,o2+k,none⟩ g0;have HC:Hid (∀ w':World,((∀ b o,b < wr.heap.size->w'.cell? ⟨b,o,none⟩=wr.cell? ⟨b,o,none⟩)/\Below wr.heap.size wr w')->Calls Tryz.prog 96 #[.agg #[.slice x.a x.n x.cap],.agg #[.slice y.a y.n y.cap]] w' fun e w''=>e = .returned (.bool true)/\Below w'.heap.size w' w''):=fun w' q=>qCj x y w' hxn HX.out.2.2 (HX.out.1.below q.2) (HX.out.2.1.below q.2)
   go_wp2
   go_region_held3 (fun w'=>(∀ b o,b < wr.heap.size->w'.cell? ⟨b,o,none⟩=wr.cell? ⟨b,o,none⟩)/\Below wr.heap.size wr w') (first | exact hS | exact qC1 _)
    (first | (go_at_call 96;refine (HC.out _ (by assumption)).mono ?_;rintro e w' ⟨rfl,hb1⟩;have hS:=qA9 (by assumption) hb1))
   go_wp2;exact ⟨⟨k+1,by omega,by go_num,hnx.trans (hS.2.mono hnx.size)⟩,by simp [intOf];omega⟩
  ·have hkn:k=n:=by omega
   subst hkn;go_wp2;go_ret;exact ⟨rfl,hnx⟩

structure qA4 where
 e:Int
 f:Int
 ra:Option Addr
 rn:Nat
 rc:Nat
 zs:List qA2
 fa:Option Addr
 fn:Nat
 fc:Nat
 fs:List qF2
 ca:Option Addr
 cn:Nat
 cc:Nat
 cs:List Int
deriving Inhabited
structure qF5 (w:World) (c:qA4):Prop where
 rules:qB8 w c.ra c.rn c.zs
 forms:qF9 w c.fa c.fn c.fs
 classes:qC9 w c.ca c.cn c.cs
theorem qF5.below {w w':World} {c:qA4} (h:qF5 w c) (hb:Below w.heap.size w w'):qF5 w' c:=⟨h.rules.below hb,h.forms.below hb,h.classes.below hb⟩
structure qE0 (m:Nat) (c:qA4):Prop where
 rules:c.rn<=m
 forms:c.fn<=m
 parts:qM5 m c.fs
 classes:c.cn<=m
structure qH7 (c d:qA4):Prop where
 e:d.e=c.e
 f:d.f=c.f
 rn:d.rn=c.rn
 zs:d.zs=c.zs
 fn:d.fn=c.fn
 ps:qA5 d.fs=qA5 c.fs
 cn:d.cn=c.cn
 cs:d.cs=c.cs
theorem qK6.le {w:World} {L m n:Nat} {a:Option Addr} {ys fs:List qF2} (hy:qF9 w a n ys) (hf:∀ (k:Nat) (x:qF2),fs[k]? = some x->x.ps.length=x.n) (hp:qA5 ys=qA5 fs) (h:qM5 m fs):qM5 m ys:=by
 intro k y e
 have hk:k < n:=by
  by_cases q:k < n
  ·exact q
  ·rw [List.getElem?_eq_none (by rw [hy.1];omega)] at e;cases e
 obtain ⟨b,off,y',_,e',hat⟩:=hy.at hk
 rw [e] at e';cases e';have h1:(qA5 ys)[k]? = some y.ps:=by unfold qA5;rw [List.getElem?_map,e];rfl
 rw [hp] at h1;unfold qA5 at h1;rw [List.getElem?_map] at h1;cases q:fs[k]? with
 | none=>rw [q] at h1;cases h1
 | some x =>
  rw [q] at h1;simp at h1;have h2:=h k x q;have h3:=hf k x q;have h4:=hat.2.1;rw [<- h1] at h4;omega
theorem qIE (x:qF2) (l:Int) (w:World) (hx:x.n<=maxLen) (h0:0<=l) (h1:l<=1048576) :
  Calls Tryz.prog 87 #[.agg #[.slice x.a x.n x.cap],.int .i64 l] w fun e w'=>(∃ r:Int,e = .returned (.int .i64 r)/\r<=l/\(0<=r->(x.n:Int)<=l))/\Below w.heap.size w w':=by
 unfold maxLen at hx;have hx':(x.n:Int)<=9223372036854775807:=by omega
 by_cases hlt:(x.n:Int)<=l
 ·go_enter Tryz.func87,Tryz.ntmps87;go_wp2;go_ret;exact ⟨⟨_,rfl,by omega,fun _=>hlt⟩,by go_grown⟩
 ·have hlt':l < (x.n:Int):=by omega
  go_enter Tryz.func87,Tryz.ntmps87;go_wp2;go_ret;exact ⟨⟨_,rfl,by omega,fun q=>by omega⟩,by go_grown⟩
theorem qFi (a:Option Addr) (n cap:Nat) (fs:List qF2) (l:Int) (w:World) (hn:n<=maxLen) (hle:qM5 maxLen fs) (h0:0<=l) (h1:l<=1048576) (h:qF9 w a n fs) :
  Calls Tryz.prog 54 #[.slice a n cap,.int .i64 l] w fun e w'=>(∃ r:Int,e = .returned (.int .i64 r)/\r<=l/\(0<=r->(n:Int)<=l/\qM5 l.toNat fs))/\Below w.heap.size w w':=by
 have H:Hid (qF9 w a n fs):=h;have HZ:Hid (fs.length=n):=h.1;have HLE:Hid (qM5 maxLen fs):=hle;have hn':(n:Int)<=9223372036854775807:=by unfold maxLen at hn;omega
 clear h hle hn;by_cases hlt:(n:Int)<=l
 ·go_enter Tryz.func54,Tryz.ntmps54;go_wp2
  go_loopw [1,5] (fun q i wr=>∃ (k:Nat) (r:Int),k<=n/\i = .int .i64 (k:Int)/\q = .int .i64 r/\0<=r/\r<=l/\(∀ j x,j < k->fs[j]? = some x->x.n<=l.toNat)/\Below w.heap.size w wr)
   (fun _ i _=>n - (intOf i).toNat)
  case atStart=>exact ⟨0,_,Nat.zero_le _,rfl,rfl,by omega,by omega,fun j x hj=>by omega,Below.refl _ _⟩
  case round =>
   obtain ⟨k,r,hk,rfl,rfl,hr0,hr1,hok,hnx⟩:=hrel;have HOK:Hid (∀ j x,j < k->fs[j]? = some x->x.n<=l.toNat):=hok;clear hok;by_cases hkn:k < n
   ·obtain ⟨b,off,x,rfl,hs,hr⟩:=H.out.at hkn
    have HS:Hid (fs[k]? = some x):=hs;have hx:x.n<=maxLen:=HLE.out k x hs;have hb:b < w.heap.size:=hr.lt;have hc:=(hr.below hnx).1;clear hs hr;have hkn':(k:Int) < (n:Int):=by omega
    go_wp2_with fail
    refine (qIE x r _ hx hr0 (by omega)).mono ?_;rintro e w1 ⟨⟨r',rfl,hr'1,hr'2⟩,hb1⟩;have hb01:Below w.heap.size w w1:=hnx.trans (hb1.mono hnx.size);by_cases hneg:r' < 0
    ·clear hc;go_wp2;go_ret;exact ⟨⟨_,rfl,by omega,fun q=>by omega⟩,hb01⟩
    ·have HN:Hid (∀ j y,j < k+1->fs[j]? = some y->y.n<=l.toNat):=fun j y hj hy=>by
      by_cases e:j=k
      ·subst e;rw [HS.out] at hy;cases hy;have:=hr'2 (by omega);omega
      ·exact HOK.out j y (by omega) hy
     have hge:0<=r':=by omega
     clear hc hr'2;go_wp2;exact ⟨⟨k+1,r',by omega,by go_num,rfl,hge,by omega,HN.out,hb01⟩,by simp [intOf];omega⟩
   ·have hkn':k=n:=by omega
    subst hkn'
    have HQ:Hid (qM5 l.toNat fs):=fun j x hj=>by
     have : j < k:=by
      by_cases q:j < k
      ·exact q
      ·rw [List.getElem?_eq_none (by rw [HZ.out];omega)] at hj;cases hj
     exact HOK.out j x this hj
    go_wp2;go_ret;exact ⟨⟨r,rfl,hr1,fun _=>⟨hlt,HQ.out⟩⟩,hnx⟩
 ·have hlt':l < (n:Int):=by omega
  go_enter Tryz.func54,Tryz.ntmps54;go_wp2;go_ret;exact ⟨⟨_,rfl,by omega,fun q=>by omega⟩,by go_grown⟩
theorem qEO (c:qA4) (l:Int) (w:World) (hle:qE0 maxLen c) (h0:0<=l) (h1:l<=1048576) (h:qF5 w c) :
  Calls Tryz.prog 28 #[.agg #[.int .i64 c.e,.int .i64 c.f,.slice c.ra c.rn c.rc,.slice c.fa c.fn c.fc,.slice c.ca c.cn c.cc],.int .i64 l] w fun e w'=>(∃ r:Int,e = .returned (.int .i64 r)/\r<=l/\(0<=r->qE0 l.toNat c))/\Below w.heap.size w w':=by
 have hr1:=hle.rules;have hc1:=hle.classes;unfold maxLen at hr1 hc1;have hr':(c.rn:Int)<=9223372036854775807:=by omega
 have hc':(c.cn:Int)<=9223372036854775807:=by omega
 have HLE:Hid (qE0 maxLen c):=hle;have H:Hid (qF5 w c):=h;clear h hle hr1 hc1;obtain ⟨W,hW⟩:∃ W,W=w.alloc (.cells #[.int .i64 c.e,.int .i64 c.f,.slice c.ra c.rn c.rc,.slice c.fa c.fn c.fc,.slice c.ca c.cn c.cc] 62):=⟨_,rfl⟩;have hs:W.heap.size=w.heap.size+1:=by rw [hW];simp
 have B0:Below w.heap.size w W:=by rw [hW];exact zN
 have c4:W.cell? ⟨w.heap.size,4,none⟩=some (.slice c.ca c.cn c.cc):=by rw [hW];simp
 by_cases q1:(c.rn:Int)<=l
 ·go_enter Tryz.func28,Tryz.ntmps28;go_wp2_with (first | (go_at_call 53;go_in) | fail)
  rw [<- hW];clear hW;refine (qFi c.fa c.fn c.fc c.fs _ W HLE.out.forms HLE.out.parts (by omega) (by omega) (H.out.forms.below B0)).mono ?_;rintro e w1 ⟨⟨r,rfl,hr1,hr2⟩,hb1⟩;have HR:Hid (0<=r->(c.fn:Int)<=l - c.rn/\qM5 (l - c.rn).toNat c.fs):=hr2;have hb:Below w.heap.size w w1:=B0.trans (hb1.mono (by omega));have d4:=(hb1.cell (p:=⟨w.heap.size,4,none⟩) (by show w.heap.size < W.heap.size;omega)).trans c4;have hw:w.heap.size < w1.heap.size:=by have:=hb1.size;omega
  clear hr2 hb1 c4 B0 hs;by_cases q2:r < 0
  ·go_wp2;go_ret;exact ⟨⟨_,rfl,by omega,fun q=>by omega⟩,hb⟩
  ·have q2':0<=r:=by omega
   by_cases q3:(c.cn:Int)<=r
   ·go_wp2;go_ret;refine ⟨⟨_,rfl,by omega,fun _=>?_⟩,hb⟩;obtain ⟨h3,h4⟩:=HR.out q2';exact ⟨by omega,by omega,fun k x e=>by have:=h4 k x e;omega,by omega⟩
   ·have q3':r < (c.cn:Int):=by omega
    go_wp2;go_ret;exact ⟨⟨_,rfl,by omega,fun q=>by omega⟩,hb⟩
 ·have q1':l < (c.rn:Int):=by omega
  go_enter Tryz.func28,Tryz.ntmps28;go_wp2;go_ret;exact ⟨⟨_,rfl,by omega,fun q=>by omega⟩,by go_grown⟩
def qQ0 (w:World) (g:Nat) (c:qA4):Prop:=w.cell? ⟨g,0,none⟩=some (.int .i64 c.e)/\w.cell? ⟨g,1,none⟩=some (.int .i64 c.f)/\w.cell? ⟨g,2,none⟩=some (.slice c.ra c.rn c.rc)/\w.cell? ⟨g,3,none⟩=some (.slice c.fa c.fn c.fc)/\w.cell? ⟨g,4,none⟩=some (.slice c.ca c.cn c.cc)
theorem qQ0.lt {w:World} {g:Nat} {c:qA4} (h:qQ0 w g c):g < w.heap.size:=zL w ⟨g,0,none⟩ h.1
theorem qQ0.below {w w':World} {g:Nat} {c:qA4} (h:qQ0 w g c) (hb:Below w.heap.size w w'):qQ0 w' g c:=by
 have key:∀ (o:Nat) (v:Value),w.cell? ⟨g,o,none⟩=some v->w'.cell? ⟨g,o,none⟩=some v:=fun o v e=>(hb.cell (p:=⟨g,o,none⟩) h.lt).trans e
 exact ⟨key _ _ h.1,key _ _ h.2.1,key _ _ h.2.2.1,key _ _ h.2.2.2.1,key _ _ h.2.2.2.2⟩
theorem qQ0.new (w:World) (c:qA4) (t:TypeId):qQ0 (w.alloc (.cells #[.int .i64 c.e,.int .i64 c.f,.slice c.ra c.rn c.rc,.slice c.fa c.fn c.fc,.slice c.ca c.cn c.cc] t)) w.heap.size c:=⟨by simp,by simp,by simp,by simp,by simp⟩
structure qM6 (w:World) (L:Nat) (d:qA4):Prop where
 rules:d.rc=d.rn/\∃ g,d.ra=some ⟨g,0,none⟩/\L<=g/\g < w.heap.size/\qN6 w g d.rn
 forms:d.fc=d.fn/\∃ g,d.fa=some ⟨g,0,none⟩/\L<=g/\g < w.heap.size/\qH9 w g d.fn
 parts:qK6 w L d.fs
 classes:d.cc=d.cn/\∃ g,d.ca=some ⟨g,0,none⟩/\L<=g/\g < w.heap.size/\qH9 w g d.cn
structure QE7 (w:World) (g:Nat) (v0 v1 v2 v3 v4:Value):Prop where
 c0:w.cell? ⟨g,0,none⟩=some v0
 c1:w.cell? ⟨g,1,none⟩=some v1
 c2:w.cell? ⟨g,2,none⟩=some v2
 c3:w.cell? ⟨g,3,none⟩=some v3
 c4:w.cell? ⟨g,4,none⟩=some v4
 fz:∀ j,w.frozen? ⟨g,j,none⟩=false
theorem QE7.lt {w:World} {g:Nat} {v0 v1 v2 v3 v4:Value} (h:QE7 w g v0 v1 v2 v3 v4):g < w.heap.size:=zL w ⟨g,0,none⟩ h.c0
theorem QE7.below {w w':World} {g:Nat} {v0 v1 v2 v3 v4:Value} (h:QE7 w g v0 v1 v2 v3 v4) (hb:Below w.heap.size w w'):QE7 w' g v0 v1 v2 v3 v4:=by
 have key:∀ (o:Nat) (v:Value),w.cell? ⟨g,o,none⟩=some v->w'.cell? ⟨g,o,none⟩=some v:=fun o v e=>(hb.cell (p:=⟨g,o,none⟩) h.lt).trans e
 exact ⟨key _ _ h.c0,key _ _ h.c1,key _ _ h.c2,key _ _ h.c3,key _ _ h.c4,fun j=>(hb.frozen (p:=⟨g,j,none⟩) h.lt).trans (h.fz j)⟩
theorem QE7.other {w:World} {g b o:Nat} {v v0 v1 v2 v3 v4:Value} (h:QE7 w g v0 v1 v2 v3 v4) (hne:b≠g):QE7 (w.setCell ⟨b,o,none⟩ v) g v0 v1 v2 v3 v4:=by
 have key:∀ (q:Nat) (u:Value),w.cell? ⟨g,q,none⟩=some u->(w.setCell ⟨b,o,none⟩ v).cell? ⟨g,q,none⟩=some u:=fun q u e=>by
  rw [World.cell?_setCell_other (h:=fun e2=>hne (by have:=congrArg Addr.block e2;simpa using this))];exact e
 exact ⟨key _ _ h.c0,key _ _ h.c1,key _ _ h.c2,key _ _ h.c3,key _ _ h.c4,fun j=>by simp only [World.frozen?_setCell];exact h.fz j⟩
theorem QE7.new (w:World) (v0 v1 v2 v3 v4:Value) (t:TypeId):QE7 (w.alloc (.cells #[v0,v1,v2,v3,v4] t)) w.heap.size v0 v1 v2 v3 v4:=⟨by simp,by simp,by simp,by simp,by simp,fun j=>by simp [go_sem]⟩
theorem QE7.set0 {w:World} {g:Nat} {v v0 v1 v2 v3 v4:Value} (h:QE7 w g v0 v1 v2 v3 v4):QE7 (w.setCell ⟨g,0,none⟩ v) g v v1 v2 v3 v4:=⟨by simp [go_sem,h.c0],by simp [go_sem,h.c1],by simp [go_sem,h.c2],by simp [go_sem,h.c3],by simp [go_sem,h.c4],fun j=>by simp only [World.frozen?_setCell];exact h.fz j⟩
theorem QE7.set1 {w:World} {g:Nat} {v v0 v1 v2 v3 v4:Value} (h:QE7 w g v0 v1 v2 v3 v4):QE7 (w.setCell ⟨g,1,none⟩ v) g v0 v v2 v3 v4:=⟨by simp [go_sem,h.c0],by simp [go_sem,h.c1],by simp [go_sem,h.c2],by simp [go_sem,h.c3],by simp [go_sem,h.c4],fun j=>by simp only [World.frozen?_setCell];exact h.fz j⟩
theorem QE7.set2 {w:World} {g:Nat} {v v0 v1 v2 v3 v4:Value} (h:QE7 w g v0 v1 v2 v3 v4):QE7 (w.setCell ⟨g,2,none⟩ v) g v0 v1 v v3 v4:=⟨by simp [go_sem,h.c0],by simp [go_sem,h.c1],by simp [go_sem,h.c2],by simp [go_sem,h.c3],by simp [go_sem,h.c4],fun j=>by simp only [World.frozen?_setCell];exact h.fz j⟩
theorem QE7.set3 {w:World} {g:Nat} {v v0 v1 v2 v3 v4:Value} (h:QE7 w g v0 v1 v2 v3 v4):QE7 (w.setCell ⟨g,3,none⟩ v) g v0 v1 v2 v v4:=⟨by simp [go_sem,h.c0],by simp [go_sem,h.c1],by simp [go_sem,h.c2],by simp [go_sem,h.c3],by simp [go_sem,h.c4],fun j=>by simp only [World.frozen?_setCell];exact h.fz j⟩
theorem QE7.set4 {w:World} {g:Nat} {v v0 v1 v2 v3 v4:Value} (h:QE7 w g v0 v1 v2 v3 v4):QE7 (w.setCell ⟨g,4,none⟩ v) g v0 v1 v2 v3 v:=⟨by simp [go_sem,h.c0],by simp [go_sem,h.c1],by simp [go_sem,h.c2],by simp [go_sem,h.c3],by simp [go_sem,h.c4],fun j=>by simp only [World.frozen?_setCell];exact h.fz j⟩
structure CfW (w:World) (c:qA4) (v0 v1 v2 v3 v4:Value) (V:World):Prop where
 bl:Below w.heap.size w V
 ar:qQ0 V w.heap.size c
 re:QE7 V (w.heap.size+1) (.int .i64 0) (.int .i64 0) (.slice none 0 0) (.slice none 0 0) (.slice none 0 0)
 ou:QE7 V (w.heap.size+2) v0 v1 v2 v3 v4
theorem CfW.below {w:World} {c:qA4} {v0 v1 v2 v3 v4:Value} {V V':World} (h:CfW w c v0 v1 v2 v3 v4 V) (hb:Below V.heap.size V V'):CfW w c v0 v1 v2 v3 v4 V' :=
 ⟨h.bl.trans (hb.mono h.bl.size),h.ar.below hb,h.re.below hb,h.ou.below hb⟩
theorem qQ0.other {w:World} {g b o:Nat} {v:Value} {c:qA4} (h:qQ0 w g c) (hne:b≠g):qQ0 (w.setCell ⟨b,o,none⟩ v) g c:=by
 have key:∀ (q:Nat) (u:Value),w.cell? ⟨g,q,none⟩=some u->(w.setCell ⟨b,o,none⟩ v).cell? ⟨g,q,none⟩=some u:=fun q u e=>by
  rw [World.cell?_setCell_other (h:=fun e2=>hne (by have:=congrArg Addr.block e2;simpa using this))];exact e
 exact ⟨key _ _ h.1,key _ _ h.2.1,key _ _ h.2.2.1,key _ _ h.2.2.2.1,key _ _ h.2.2.2.2⟩
theorem CfW.set2 {w:World} {c:qA4} {v v0 v1 v2 v3 v4:Value} {V:World} (h:CfW w c v0 v1 v2 v3 v4 V):CfW w c v0 v1 v v3 v4 (V.setCell ⟨w.heap.size+2,2,none⟩ v):=⟨h.bl.setCell (by simp) _,h.ar.other (by omega),h.re.other (by omega),h.ou.set2⟩
theorem CfW.set3 {w:World} {c:qA4} {v v0 v1 v2 v3 v4:Value} {V:World} (h:CfW w c v0 v1 v2 v3 v4 V):CfW w c v0 v1 v2 v v4 (V.setCell ⟨w.heap.size+2,3,none⟩ v):=⟨h.bl.setCell (by simp) _,h.ar.other (by omega),h.re.other (by omega),h.ou.set3⟩
theorem CfW.set4 {w:World} {c:qA4} {v v0 v1 v2 v3 v4:Value} {V:World} (h:CfW w c v0 v1 v2 v3 v4 V):CfW w c v0 v1 v2 v3 v (V.setCell ⟨w.heap.size+2,4,none⟩ v):=⟨h.bl.setCell (by simp) _,h.ar.other (by omega),h.re.other (by omega),h.ou.set4⟩
theorem qB8.set {w:World} {a:Option Addr} {n g o:Nat} {v:Value} {zs:List qA2} (h:qB8 w a n zs) (hne:∀ b off,a=some ⟨b,off,none⟩->b≠g):qB8 (w.setCell ⟨g,o,none⟩ v) a n zs:=by
 refine ⟨h.1,fun hp=>?_⟩;obtain ⟨b,off,e,hr⟩:=h.2 hp;refine ⟨b,off,e,fun k x hx=>?_⟩
 have key:∀ (q:Nat) (u:Value),w.cell? ⟨b,q,none⟩=some u->(w.setCell ⟨g,o,none⟩ v).cell? ⟨b,q,none⟩=some u:=fun q u hu=>by
  rw [World.cell?_setCell_other (h:=fun e2=>hne b off e (by have:=congrArg Addr.block e2;simp at this;omega))];exact hu
 obtain ⟨h0,h1,h2,h3,h4,h5,h6,h7⟩:=hr k x hx;exact ⟨key _ _ h0,key _ _ h1,key _ _ h2,key _ _ h3,key _ _ h4,key _ _ h5,key _ _ h6,key _ _ h7⟩
theorem qC9.set {w:World} {a:Option Addr} {n g o:Nat} {v:Value} {zs:List Int} (h:qC9 w a n zs) (hne:∀ b off,a=some ⟨b,off,none⟩->b≠g):qC9 (w.setCell ⟨g,o,none⟩ v) a n zs:=by
 refine ⟨h.1,fun hp=>?_⟩;obtain ⟨b,off,e,hr⟩:=h.2 hp;refine ⟨b,off,e,fun k x hx=>?_⟩;rw [World.cell?_setCell_other (h:=fun e2=>hne b off e (by have:=congrArg Addr.block e2;simp at this;omega))];exact hr k x hx
theorem qF9.set {w:World} {a:Option Addr} {n g o:Nat} {v:Value} {fs:List qF2} (h:qF9 w a n fs) (hne:∀ b off,a=some ⟨b,off,none⟩->b≠g) (hnp:∀ (k:Nat) (x:qF2),fs[k]? = some x->∀ b off,x.a=some ⟨b,off,none⟩->b≠g):qF9 (w.setCell ⟨g,o,none⟩ v) a n fs:=by
 refine ⟨h.1,fun hp=>?_⟩;obtain ⟨b,off,e,hr⟩:=h.2 hp;refine ⟨b,off,e,fun k x hx=>⟨?_,(hr k x hx).2.set (hnp k x hx)⟩⟩;rw [World.cell?_setCell_other (h:=fun e2=>hne b off e (by have:=congrArg Addr.block e2;simp at this;omega))];exact (hr k x hx).1
theorem qH9.setAny {w:World} {g n:Nat} (h:qH9 w g n) (b o:Nat) (v:Value):qH9 (w.setCell ⟨b,o,none⟩ v) g n:=by
 refine ⟨fun j hj=>?_,fun j=>by simp only [World.frozen?_setCell];exact h.2 j⟩;obtain ⟨u,e⟩:=h.1 j hj;by_cases q:(⟨b,o,none⟩:Addr)=⟨g,j,none⟩
 ·cases q;exact ⟨v,by simp [go_sem,e]⟩
 ·exact ⟨u,by rw [World.cell?_setCell_other (h:=q)];exact e⟩
theorem qN6.setAny {w:World} {g n:Nat} (h:qN6 w g n) (b o:Nat) (v:Value):qN6 (w.setCell ⟨b,o,none⟩ v) g n:=by
 refine ⟨fun j hj=>?_,fun j=>by simp only [World.frozen?_setCell];exact h.2 j⟩;obtain ⟨u,e⟩:=h.1 j hj;by_cases q:(⟨b,o,none⟩:Addr)=⟨g,j,none⟩
 ·cases q;exact ⟨v,by simp [go_sem,e]⟩
 ·exact ⟨u,by rw [World.cell?_setCell_other (h:=q)];exact e⟩
theorem QB2 {w w':World} {g n:Nat} (h:qN6 w g n) (hg:g < w.heap.size) (hb:Below w.heap.size w w'):qN6 w' g n :=
 ⟨fun j hj=>by obtain ⟨v,e⟩:=h.1 j hj;exact ⟨v,(hb.cell (p:=⟨g,j,none⟩) hg).trans e⟩,fun j=>(hb.frozen (p:=⟨g,j,none⟩) hg).trans (h.2 j)⟩
theorem qO7.setAny {w:World} {L:Nat} {x:qF2} (h:qO7 w L x) (b o:Nat) (v:Value):qO7 (w.setCell ⟨b,o,none⟩ v) L x:=by
 obtain ⟨h0,g,h1,h2,h3,h4⟩:=h;exact ⟨h0,g,h1,h2,by simp only [World.size_setCell];exact h3,h4.setAny _ _ _⟩
theorem qM6.setAny {w:World} {L:Nat} {d:qA4} (h:qM6 w L d) (b o:Nat) (v:Value):qM6 (w.setCell ⟨b,o,none⟩ v) L d:=by
 obtain ⟨⟨r0,rg,r1,r2,r3,r4⟩,⟨f0,fg,f1,f2,f3,f4⟩,hp,⟨k0,kg,k1,k2,k3,k4⟩⟩:=h;exact ⟨⟨r0,rg,r1,r2,by simp only [World.size_setCell];exact r3,r4.setAny _ _ _⟩,⟨f0,fg,f1,f2,by simp only [World.size_setCell];exact f3,f4.setAny _ _ _⟩,fun k x e=>(hp k x e).setAny _ _ _,⟨k0,kg,k1,k2,by simp only [World.size_setCell];exact k3,k4.setAny _ _ _⟩⟩
theorem qF5.set {w:World} {L g o:Nat} {v:Value} {d:qA4} (h:qF5 w d) (hn:qM6 w L d) (hg:g < L):qF5 (w.setCell ⟨g,o,none⟩ v) d:=by
 obtain ⟨⟨r0,rg,r1,r2,r3,r4⟩,⟨f0,fg,f1,f2,f3,f4⟩,hp,⟨k0,kg,k1,k2,k3,k4⟩⟩:=hn;refine ⟨h.rules.set (fun b off e=>by rw [r1] at e;cases e;omega),h.forms.set (fun b off e=>by rw [f1] at e;cases e;omega) (fun k x hx b off e=>?_),h.classes.set (fun b off e=>by rw [k1] at e;cases e;omega)⟩;obtain ⟨_,q,q1,q2,_⟩:=hp k x hx;rw [q1] at e;cases e;omega
theorem qM6.low {w:World} {L M:Nat} {d:qA4} (h:qM6 w L d) (hM:M<=L):qM6 w M d:=by
 obtain ⟨⟨r0,rg,r1,r2,r3,r4⟩,⟨f0,fg,f1,f2,f3,f4⟩,hp,⟨k0,kg,k1,k2,k3,k4⟩⟩:=h;refine ⟨⟨r0,rg,r1,by omega,r3,r4⟩,⟨f0,fg,f1,by omega,f3,f4⟩,fun k x e=>?_,⟨k0,kg,k1,by omega,k3,k4⟩⟩;obtain ⟨q0,g,q1,q2,q3⟩:=hp k x e;exact ⟨q0,g,q1,by omega,q3⟩
theorem qM6.below {w w':World} {L:Nat} {d:qA4} (h:qM6 w L d) (hb:Below w.heap.size w w'):qM6 w' L d:=by
 have hz:=hb.size;obtain ⟨⟨r0,rg,r1,r2,r3,r4⟩,⟨f0,fg,f1,f2,f3,f4⟩,hp,⟨k0,kg,k1,k2,k3,k4⟩⟩:=h;exact ⟨⟨r0,rg,r1,r2,by omega,QB2 r4 r3 hb⟩,⟨f0,fg,f1,f2,by omega,f4.below f3 hb⟩,fun k x e=>(hp k x e).below hb,⟨k0,kg,k1,k2,by omega,k4.below k3 hb⟩⟩
structure CfN (w:World) (L:Nat) (d:qA4):Prop where
 rd:qF5 w d
 nw:qM6 w L d
theorem CfN.set {w:World} {L g o:Nat} {v:Value} {d:qA4} (h:CfN w L d) (hg:g < L):CfN (w.setCell ⟨g,o,none⟩ v) L d:=⟨h.rd.set h.nw hg,h.nw.setAny _ _ _⟩
theorem qEL (c:qA4) (w:World) (hle:qE0 1048576 c) (h:qF5 w c) :
  Calls Tryz.prog 33 #[.agg #[.int .i64 c.e,.int .i64 c.f,.slice c.ra c.rn c.rc,.slice c.fa c.fn c.fc,.slice c.ca c.cn c.cc]] w fun e w'=>∃ d:qA4,e = .returned (.agg #[.int .i64 d.e,.int .i64 d.f,.slice d.ra d.rn d.rc,.slice d.fa d.fn d.fc,.slice d.ca d.cn d.cc])/\qH7 c d/\qF5 w' d/\qM6 w' w.heap.size d/\Below w.heap.size w w':=by
 have HLE:Hid (qE0 1048576 c):=hle;have H:Hid (qF5 w c):=h;clear h hle;obtain ⟨V,hV⟩:∃ V,V=((w.alloc (.cells #[.int .i64 c.e,.int .i64 c.f,.slice c.ra c.rn c.rc,.slice c.fa c.fn c.fc,.slice c.ca c.cn c.cc] 62)).alloc (.cells #[.int .i64 0,.int .i64 0,.slice none 0 0,.slice none 0 0,.slice none 0 0] 71)).alloc (.cells #[.int .i64 c.e,.int .i64 c.f,.slice none 0 0,.slice none 0 0,.slice none 0 0] 71):=⟨_,rfl⟩
 have X0:Hid (CfW w c (.int .i64 c.e) (.int .i64 c.f) (.slice none 0 0) (.slice none 0 0) (.slice none 0 0) V/\w.heap.size+2 < V.heap.size):=by
  rw [hV];have b1:Below w.heap.size w (w.alloc (.cells #[.int .i64 c.e,.int .i64 c.f,.slice c.ra c.rn c.rc,.slice c.fa c.fn c.fc,.slice c.ca c.cn c.cc] 62)):=zN;have b2:=(Below.refl (w.alloc (.cells #[.int .i64 c.e,.int .i64 c.f,.slice c.ra c.rn c.rc,.slice c.fa c.fn c.fc,.slice c.ca c.cn c.cc] 62)).heap.size (w.alloc (.cells #[.int .i64 c.e,.int .i64 c.f,.slice c.ra c.rn c.rc,.slice c.fa c.fn c.fc,.slice c.ca c.cn c.cc] 62))).alloc (Nat.le_refl _) (.cells #[.int .i64 0,.int .i64 0,.slice none 0 0,.slice none 0 0,.slice none 0 0] 71);have k1:=(qQ0.new w c 62).below b2;have x1:=QE7.new (w.alloc (.cells #[.int .i64 c.e,.int .i64 c.f,.slice c.ra c.rn c.rc,.slice c.fa c.fn c.fc,.slice c.ca c.cn c.cc] 62)) (.int .i64 0) (.int .i64 0) (.slice none 0 0) (.slice none 0 0) (.slice none 0 0) 71;have x2:=QE7.new ((w.alloc (.cells #[.int .i64 c.e,.int .i64 c.f,.slice c.ra c.rn c.rc,.slice c.fa c.fn c.fc,.slice c.ca c.cn c.cc] 62)).alloc (.cells #[.int .i64 0,.int .i64 0,.slice none 0 0,.slice none 0 0,.slice none 0 0] 71)) (.int .i64 c.e) (.int .i64 c.f) (.slice none 0 0) (.slice none 0 0) (.slice none 0 0) 71;have b3:=(Below.refl ((w.alloc (.cells #[.int .i64 c.e,.int .i64 c.f,.slice c.ra c.rn c.rc,.slice c.fa c.fn c.fc,.slice c.ca c.cn c.cc] 62)).alloc (.cells #[.int .i64 0,.int .i64 0,.slice none 0 0,.slice none 0 0,.slice none 0 0] 71)).heap.size ((w.alloc (.cells #[.int .i64 c.e,.int .i64 c.f,.slice c.ra c.rn c.rc,.slice c.fa c.fn c.fc,.slice c.ca c.cn c.cc] 62)).alloc (.cells #[.int .i64 0,.int .i64 0,.slice none 0 0,.slice none 0 0,.slice none 0 0] 71))).alloc (Nat.le_refl _) (.cells #[.int .i64 c.e,.int .i64 c.f,.slice none 0 0,.slice none 0 0,.slice none 0 0] 71);have k2:=k1.below b3;have y1:=x1.below b3;have hz1:(w.alloc (.cells #[.int .i64 c.e,.int .i64 c.f,.slice c.ra c.rn c.rc,.slice c.fa c.fn c.fc,.slice c.ca c.cn c.cc] 62)).heap.size=w.heap.size+1:=by simp
  have hz2:((w.alloc (.cells #[.int .i64 c.e,.int .i64 c.f,.slice c.ra c.rn c.rc,.slice c.fa c.fn c.fc,.slice c.ca c.cn c.cc] 62)).alloc (.cells #[.int .i64 0,.int .i64 0,.slice none 0 0,.slice none 0 0,.slice none 0 0] 71)).heap.size=w.heap.size+2:=by simp
  rw [hz1] at y1;rw [hz2] at x2;exact ⟨⟨(b1.alloc (by simp) _).alloc (by simp;omega) _,k2,y1,x2⟩,by simp⟩
 go_enter Tryz.func33,Tryz.ntmps33;go_wp2_with fail
 rw [<- hV];clear hV;refine (QZ9 c.ra c.rn c.rc c.zs V HLE.out.rules (H.out.rules.below X0.out.1.bl)).mono ?_;rintro e w1 ⟨rfl,hat1,hlt1,hb1,hroom1⟩;have x1:=X0.out.1.below hb1;have hz1:=hb1.size;have A1:Hid (qB8 w1 (some ⟨V.heap.size,0,none⟩) c.rn c.zs/\qN6 w1 V.heap.size c.rn):=⟨qB8.of H.out.rules.1 hat1,hroom1⟩;obtain ⟨k0,k1,k2,k3,k4⟩:=x1.ar;obtain ⟨o0,o1,o2,o3,o4,of⟩:=x1.ou;have X1:Hid (CfW w c (.int .i64 c.e) (.int .i64 c.f) (.slice (some ⟨V.heap.size,0,none⟩) c.rn c.rn) (.slice none 0 0) (.slice none 0 0) (w1.setCell ⟨w.heap.size+2,2,none⟩ (.slice (some ⟨V.heap.size,0,none⟩) c.rn c.rn))):=x1.set2;have hw1:w.heap.size+2 < w1.heap.size:=by have:=X0.out.2;omega
 have hwV:Hid (w.heap.size+2 < V.heap.size):=X0.out.2;clear hat1 hroom1 hb1 x1 X0;go_wp2_with fail
 obtain ⟨V1,hV1⟩:∃ V1,V1=w1.setCell ⟨w.heap.size+2,2,none⟩ (.slice (some ⟨V.heap.size,0,none⟩) c.rn c.rn):=⟨_,rfl⟩
 have A1':Hid (qB8 V1 (some ⟨V.heap.size,0,none⟩) c.rn c.zs/\qN6 V1 V.heap.size c.rn/\V.heap.size < V1.heap.size):=by
  rw [hV1];exact ⟨A1.out.1.set (fun b off e=>by cases e;have:=hwV.out;omega),A1.out.2.setAny _ _ _,by simp only [World.size_setCell];exact hlt1⟩
 have HS1:Hid (V1.heap.size=w1.heap.size):=by rw [hV1];exact World.size_setCell ..
 rw [<- hV1] at X1 ⊢
 clear hV1 A1 k0 k1 k2 k3 k4 o0 o1 o2 o3 o4 of;refine (qFh c.fa c.fn c.fc c.fs V1 HLE.out.forms HLE.out.parts (H.out.forms.below X1.out.bl)).mono ?_;rintro e w2 ⟨rfl,ys,hF⟩;have hb2:=hF.bl;have x2:=X1.out.below hb2;have hz2:=hb2.size;have A2:Hid (qB8 w2 (some ⟨V.heap.size,0,none⟩) c.rn c.zs/\qN6 w2 V.heap.size c.rn/\qDC V1 w2 c.fn c.fs ys):=⟨A1'.out.1.below hb2,QB2 A1'.out.2.1 A1'.out.2.2 hb2,hF⟩;obtain ⟨k0,k1,k2,k3,k4⟩:=x2.ar;obtain ⟨o0,o1,o2,o3,o4,of⟩:=x2.ou;have X2:Hid (CfW w c (.int .i64 c.e) (.int .i64 c.f) (.slice (some ⟨V.heap.size,0,none⟩) c.rn c.rn) (.slice (some ⟨V1.heap.size,0,none⟩) c.fn c.fn) (.slice none 0 0) (w2.setCell ⟨w.heap.size+2,3,none⟩ (.slice (some ⟨V1.heap.size,0,none⟩) c.fn c.fn))):=x2.set3;have hw2:w.heap.size+2 < w2.heap.size:=by have:=HS1.out;omega
 clear hF hb2 x2 X1;go_wp2_with fail
 obtain ⟨V2,hV2⟩:∃ V2,V2=w2.setCell ⟨w.heap.size+2,3,none⟩ (.slice (some ⟨V1.heap.size,0,none⟩) c.fn c.fn):=⟨_,rfl⟩
 have A2':Hid (qB8 V2 (some ⟨V.heap.size,0,none⟩) c.rn c.zs/\qN6 V2 V.heap.size c.rn/\qF9 V2 (some ⟨V1.heap.size,0,none⟩) c.fn ys/\qK6 V2 (V1.heap.size+1) ys/\qH9 V2 V1.heap.size c.fn/\qA5 ys=qA5 c.fs/\V1.heap.size < V2.heap.size):=by
  rw [hV2];obtain ⟨q1,q2,q3⟩:=A2.out;have hv:=hwV.out;have hs1:=HS1.out;refine ⟨q1.set (fun b off e=>by cases e;omega),q2.setAny _ _ _,(qF9.of q3.ln q3.at').set (fun b off e=>by cases e;omega) (fun k x hx b off e=>?_),fun k x hx=>(q3.nw k x hx).setAny _ _ _,q3.rm.setAny _ _ _,q3.ps,by simp only [World.size_setCell];exact q3.lt⟩;obtain ⟨_,q,e1,e2,_⟩:=q3.nw k x hx;rw [e1] at e;cases e;omega
 have HS2:Hid (V2.heap.size=w2.heap.size):=by rw [hV2];exact World.size_setCell ..
 rw [<- hV2] at X2 ⊢
 clear hV2 A2 A1' k0 k1 k2 k3 k4 o0 o1 o2 o3 o4 of;refine (qR5 c.ca c.cn c.cc c.cs V2 HLE.out.classes (H.out.classes.below X2.out.bl)).mono ?_;rintro e w3 ⟨rfl,hat3,hlt3,hb3,hroom3⟩;have x3:=X2.out.below hb3;have hz3:=hb3.size;obtain ⟨d,hd⟩:∃ d:qA4,d=⟨c.e,c.f,some ⟨V.heap.size,0,none⟩,c.rn,c.rn,c.zs,some ⟨V1.heap.size,0,none⟩,c.fn,c.fn,ys,some ⟨V2.heap.size,0,none⟩,c.cn,c.cn,c.cs⟩:=⟨_,rfl⟩
 have HD:Hid (qF5 w3 d/\qM6 w3 (w.heap.size+3) d/\qH7 c d):=by
  obtain ⟨q1,q2,q3,q4,q5,q6,q7⟩:=A2'.out;have hv:=hwV.out;have hs1:=HS1.out;have hs2:=HS2.out;rw [hd]
  exact ⟨⟨q1.below hb3,q3.below hb3,qC9.of H.out.classes.1 hat3⟩,⟨⟨rfl,_,rfl,by omega,by omega,QB2 q2 (by omega) hb3⟩,⟨rfl,_,rfl,by omega,by omega,q5.below q7 hb3⟩,fun k x e=>by
   obtain ⟨r0,g,r1,r2,r3⟩:=(q4 k x e).below hb3;exact ⟨r0,g,r1,by omega,r3⟩,⟨rfl,_,rfl,by omega,hlt3,hroom3⟩⟩,⟨rfl,rfl,rfl,rfl,rfl,q6,rfl,rfl⟩⟩
 obtain ⟨k0,k1,k2,k3,k4⟩:=x3.ar;obtain ⟨o0,o1,o2,o3,o4,of⟩:=x3.ou;obtain ⟨r0,r1,r2,r3,r4,rf⟩:=x3.re;have hw3:w.heap.size+2 < w3.heap.size:=by have:=HS1.out;have:=HS2.out;omega
 have HB:Hid (Below w.heap.size w w3):=x3.bl;have HDE:Hid (d=⟨c.e,c.f,some ⟨V.heap.size,0,none⟩,c.rn,c.rn,c.zs,some ⟨V1.heap.size,0,none⟩,c.fn,c.fn,ys,some ⟨V2.heap.size,0,none⟩,c.cn,c.cn,c.cs⟩):=hd;clear hd hat3 hroom3 hb3 x3 X2 A2';go_wp2;refine bodyPost_ret (v:=.agg #[.int .i64 d.e,.int .i64 d.f,.slice d.ra d.rn d.rc,.slice d.fa d.fn d.fc,.slice d.ca d.cn d.cc]) (by rw [HDE.out];simp [results,Tryz.results33,go_sem,o0,o1,o2,o3,o4,r0,r1,r2,r3,r4,hw3]) rfl ⟨d,rfl,HD.out.2.2,?_,?_,?_⟩
 ·refine (?_:CfN _ (w.heap.size+3) d).rd;repeat (refine CfN.set ?_ (by omega))
  exact ⟨HD.out.1,HD.out.2.1⟩
 ·refine ((?_:CfN _ (w.heap.size+3) d).nw).low (by omega);repeat (refine CfN.set ?_ (by omega))
  exact ⟨HD.out.1,HD.out.2.1⟩
 ·repeat (refine Below.setCell ?_ (by simp;try omega) _)
  exact HB.out
theorem QX9 (c d:qA4) (w:World) (hle:qE0 1048576 c) (hsm:qH7 c d) (h:qF5 w c) (h':qF5 w d) :
  Calls Tryz.prog 38 #[.agg #[.int .i64 c.e,.int .i64 c.f,.slice c.ra c.rn c.rc,.slice c.fa c.fn c.fc,.slice c.ca c.cn c.cc],.agg #[.int .i64 d.e,.int .i64 d.f,.slice d.ra d.rn d.rc,.slice d.fa d.fn d.fc,.slice d.ca d.cn d.cc]] w fun e w'=>e = .returned (.bool true)/\Below w.heap.size w w':=by
 obtain ⟨d0,d1,da,dn,dc,dz,ea,en,ec,ds,ga,gn,gc,gs⟩:=d;obtain ⟨e1,e2,e3,e4,e5,e6,e7,e8⟩:=hsm;simp only at e1 e2 e3 e4 e5 e6 e7 e8;subst e1 e2 e3 e4 e5 e7 e8;have HP:Hid (qA5 ds=qA5 c.fs):=e6;have HLE:Hid (qE0 1048576 c):=hle;have H:Hid (qF5 w c):=h;have H':Hid (qB8 w da c.rn c.zs/\qF9 w ea c.fn ds/\qC9 w ga c.cn c.cs):=⟨h'.rules,h'.forms,h'.classes⟩;clear h h' hle e6;obtain ⟨W,hW⟩:∃ W,W=(w.alloc (.cells #[.int .i64 c.e,.int .i64 c.f,.slice c.ra c.rn c.rc,.slice c.fa c.fn c.fc,.slice c.ca c.cn c.cc] 71)).alloc (.cells #[.int .i64 c.e,.int .i64 c.f,.slice da c.rn dc,.slice ea c.fn ec,.slice ga c.cn gc] 71):=⟨_,rfl⟩;have hs:W.heap.size=w.heap.size+2:=by rw [hW];simp
 have B0:Below w.heap.size w W:=by rw [hW];exact (zN).alloc (by simp) _
 have a3:W.cell? ⟨w.heap.size,3,none⟩=some (.slice c.fa c.fn c.fc):=by rw [hW];go_cell
 have a4:W.cell? ⟨w.heap.size,4,none⟩=some (.slice c.ca c.cn c.cc):=by rw [hW];go_cell
 have b3:W.cell? ⟨w.heap.size+1,3,none⟩=some (.slice ea c.fn ec):=by rw [hW];go_cell
 have b4:W.cell? ⟨w.heap.size+1,4,none⟩=some (.slice ga c.cn gc):=by rw [hW];go_cell
 go_enter Tryz.func38,Tryz.ntmps38;go_wp2_with fail
 rw [<- hW];clear hW;refine (qAw c.ra da c.rn c.rc dc c.zs W HLE.out.rules (H.out.rules.below B0) (H'.out.1.below B0)).mono ?_;rintro e w1 ⟨rfl,hb1⟩;have hz1:=hb1.size;obtain ⟨hc,hf⟩:=qML hb1;have p3:=(hc w.heap.size 3 (by omega)).trans a3;have p4:=(hc w.heap.size 4 (by omega)).trans a4;have r3:=(hc (w.heap.size+1) 3 (by omega)).trans b3;have r4:=(hc (w.heap.size+1) 4 (by omega)).trans b4;have B1:Hid (Below w.heap.size w w1):=B0.trans (hb1.mono (by omega));have hw1:w.heap.size+1 < w1.heap.size:=by omega
 clear hc hf hb1 a3 a4 b3 b4 B0 hs;go_wp2_with fail
 refine (qAz c.fa ea c.fn c.fc ec c.fs ds w1 HLE.out.forms HLE.out.parts HP.out (H.out.forms.below B1.out) (H'.out.2.1.below B1.out)).mono ?_;rintro e w2 ⟨rfl,hb2⟩;have hz2:=hb2.size;obtain ⟨hc,hf⟩:=qML hb2;have q4:=(hc w.heap.size 4 (by omega)).trans p4;have s4:=(hc (w.heap.size+1) 4 (by omega)).trans r4;have B2:Hid (Below w.heap.size w w2):=B1.out.trans (hb2.mono (by omega));have hw2:w.heap.size+1 < w2.heap.size:=by omega
 clear hc hf hb2 p3 p4 r3 r4;go_wp2_with fail
 refine (QH1 c.ca ga c.cn c.cc gc c.cs w2 HLE.out.classes (H.out.classes.below B2.out) (H'.out.2.2.below B2.out)).mono ?_;rintro e w3 ⟨rfl,hb3⟩;have B3:Below w.heap.size w w3:=B2.out.trans (hb3.mono B2.out.size);clear hb3 q4 s4;go_wp2;go_ret;exact ⟨rfl,B3⟩
theorem qH7.le {w w':World} {c d:qA4} {m:Nat} (h:qH7 c d) (hc:qF5 w c) (hd:qF5 w' d) (hle:qE0 m c):qE0 m d:=by
 refine ⟨by rw [h.rn];exact hle.rules,by rw [h.fn];exact hle.forms,qK6.le (L:=0) hd.forms (fun k x e=>?_) h.ps hle.parts,by rw [h.cn];exact hle.classes⟩
 have hk:k < c.fn:=by
  by_cases q:k < c.fn
  ·exact q
  ·rw [List.getElem?_eq_none (by rw [hc.forms.1];omega)] at e;cases e
 obtain ⟨b,off,y,_,e',hat⟩:=hc.forms.at hk
 rw [e] at e';cases e';exact hat.2.1
theorem qH7.trans {c d f:qA4} (h:qH7 c d) (g:qH7 c f):qH7 d f :=
 ⟨g.e.trans h.e.symm,g.f.trans h.f.symm,g.rn.trans h.rn.symm,g.zs.trans h.zs.symm,g.fn.trans h.fn.symm,g.ps.trans h.ps.symm,g.cn.trans h.cn.symm,g.cs.trans h.cs.symm⟩
theorem qM6.cap {w:World} {L:Nat} {d:qA4} (h:qM6 w L d):d.rn<=d.rc:=by rw [h.rules.1];exact Nat.le_refl _

abbrev TS:=Nat->Bool
def noT:TS:=fun _=>false
def QI7 (T:TS) (x:Nat):TS:=fun y=>if y=x then true else T y
def qGZ (s:Int):TS:=fun x=>(List.range 8).any fun p=>(x==2 ^ p)&&qI5 s ((p:Int)+1)
def qEj (ap:Bool) (a b:Nat):Bool := !(ap&&(a &&& b != 0))
def QR6 (ap:Bool) (L R:TS):TS:=fun x=>(List.range 256).any fun a=>L a&&(List.range 256).any fun b=>R b&&qEj ap a b&&(a ||| b==x)
theorem qHh {ap:Bool} {L R:TS} {x:Nat}:QR6 ap L R x=true↔∃ a b,a < 256/\b < 256/\L a=true/\R b=true/\qEj ap a b=true/\a ||| b=x:=by
 unfold QR6;rw [List.any_eq_true];constructor
 ·rintro ⟨a,ha,h⟩;rw [Bool.and_eq_true,List.any_eq_true] at h;obtain ⟨hL,b,hb,h⟩:=h;rw [Bool.and_eq_true,Bool.and_eq_true] at h;exact ⟨a,b,List.mem_range.1 ha,List.mem_range.1 hb,hL,h.1.1,h.1.2,by simpa using h.2⟩
 ·rintro ⟨a,b,ha,hb,hL,hR,ho,rfl⟩;refine ⟨a,List.mem_range.2 ha,?_⟩;rw [Bool.and_eq_true,List.any_eq_true];exact ⟨hL,b,List.mem_range.2 hb,by simp [hR,ho]⟩
def QZ5 (ap:Bool) (L R:TS) (i j:Nat) (T:TS):Prop:=∀ x,x < 256->(T x=true↔∃ a b,(a < i\/a=i/\b < j)/\a < 256/\b < 256/\L a=true/\R b=true/\qEj ap a b=true/\a ||| b=x)
theorem QU3 (ap:Bool) (L R:TS):QZ5 ap L R 0 0 noT:=by
 intro x hx;constructor
 ·intro h;cases h
 ·rintro ⟨a,b,h,_⟩;omega
theorem qBN {ap:Bool} {L R:TS} {i j:Nat} {T:TS} (h:QZ5 ap L R i j T) (hl:L i=false):QZ5 ap L R (i+1) 0 T:=by
 intro x hx;rw [h x hx];constructor
 ·rintro ⟨a,b,h0,h1⟩;exact ⟨a,b,by omega,h1⟩
 ·rintro ⟨a,b,h0,h1,h2,h3,h4⟩;have : a≠i:=fun e=>by rw [e,hl] at h3;cases h3
  exact ⟨a,b,by omega,h1,h2,h3,h4⟩
theorem qBO {ap:Bool} {L R:TS} {i:Nat} {T:TS} (h:QZ5 ap L R i 256 T):QZ5 ap L R (i+1) 0 T:=by
 intro x hx;rw [h x hx];constructor
 ·rintro ⟨a,b,h0,h1⟩;exact ⟨a,b,by omega,h1⟩
 ·rintro ⟨a,b,h0,h1,h2,h3⟩;exact ⟨a,b,by omega,h1,h2,h3⟩
theorem qCq {ap:Bool} {L R:TS} {i j:Nat} {T:TS} (h:QZ5 ap L R i j T) (hn:(R j&&qEj ap i j)=false):QZ5 ap L R i (j+1) T:=by
 intro x hx;rw [h x hx];constructor
 ·rintro ⟨a,b,h0,h1⟩;exact ⟨a,b,by omega,h1⟩
 ·rintro ⟨a,b,h0,h1,h2,h3,h4,h5,h6⟩
  have : ¬ (a=i/\b=j):=by
   rintro ⟨rfl,rfl⟩;rw [h4,h5] at hn;cases hn
  exact ⟨a,b,by omega,h1,h2,h3,h4,h5,h6⟩
theorem QY3 {ap:Bool} {L R:TS} {i j:Nat} {T:TS} (h:QZ5 ap L R i j T) (hi:i < 256) (hj:j < 256) (hL:L i=true) (hn:(R j&&qEj ap i j)=true):QZ5 ap L R i (j+1) (QI7 T (i ||| j)):=by
 rw [Bool.and_eq_true] at hn;intro x hx;unfold QI7;by_cases e:x=i ||| j
 ·rw [if_pos e];exact ⟨fun _=>⟨i,j,by omega,hi,hj,hL,hn.1,hn.2,e.symm⟩,fun _=>rfl⟩
 ·rw [if_neg e,h x hx];constructor
  ·rintro ⟨a,b,h0,h1⟩;exact ⟨a,b,by omega,h1⟩
  ·rintro ⟨a,b,h0,h1,h2,h3,h4,h5,h6⟩
   have : ¬ (a=i/\b=j):=by
    rintro ⟨rfl,rfl⟩;exact e h6.symm
   exact ⟨a,b,by omega,h1,h2,h3,h4,h5,h6⟩
theorem qDz {ap:Bool} {L R:TS} {j:Nat} {T:TS} (h:QZ5 ap L R 256 j T):∀ x,x < 256->T x=QR6 ap L R x:=by
 intro x hx;rw [Bool.eq_iff_iff,h x hx,qHh];constructor
 ·rintro ⟨a,b,h0,h1⟩;exact ⟨a,b,h1⟩
 ·rintro ⟨a,b,h1,h2,h3⟩;exact ⟨a,b,.inl h1,h1,h2,h3⟩
def qH2 (T:TS):Array Value:=((List.range 256).map fun i=>Value.bool (T i)).toArray
theorem qI3 (T:TS):(qH2 T).size=256:=by simp [qH2]
theorem qZ0 (T:TS) {i:Nat} (h:i < 256):(qH2 T)[i]? = some (.bool (T i)):=by simp [qH2,h]
theorem qJQ {T U:TS} (h:∀ x,x < 256->T x=U x):qH2 T=qH2 U:=by
 unfold qH2;congr 1;apply List.map_congr_left;intro x hx;rw [h x (List.mem_range.1 hx)]
theorem QY8 (T:TS) {i:Nat} (h:i < 256):(qH2 T).setIfInBounds i (.bool true)=qH2 (QI7 T i):=by
 apply Array.ext_getElem?;intro j;rw [Array.getElem?_setIfInBounds];by_cases hj:j < 256
 ·by_cases e:i=j
  ·subst e;rw [if_pos rfl,if_pos (by rw [qI3];exact h),qZ0 _ h];simp [QI7]
  ·rw [if_neg e,qZ0 _ hj,qZ0 _ hj];simp [QI7,show ¬ j=i from fun q=>e q.symm]
 ·rw [if_neg (by omega),Array.getElem?_eq_none (by rw [qI3];omega),Array.getElem?_eq_none (by rw [qI3];omega)]
theorem QU4 (T:TS):(qH2 T).all (·.oneCell')=true:=by
 rw [Array.all_eq_true'];intro v hv;simp [qH2] at hv;obtain ⟨i,_,rfl⟩:=hv;rfl
def qP4 (f:RoI->Int) (ts:List TS) (p:qD4):TS:=if p.k=1 then qGZ (f (p.ro,p.rn)) else QR6 (decide (p.k=3)) (ts[p.l.toNat]?.getD noT) (ts[p.r.toNat]?.getD noT)
def qC2 (f:RoI->Int) (zs:List qD4):Nat->List TS
 | 0=>[]
 | k+1=>match zs[k]? with
  | none=>qC2 f zs k
  | some p=>qC2 f zs k++[qP4 f (qC2 f zs k) p]
theorem qS5 {zs:List qD4} {k:Nat} {p:qD4} (h:zs[k]? = some p) (f:RoI->Int):qC2 f zs (k+1)=qC2 f zs k++[qP4 f (qC2 f zs k) p]:=by
 simp [qC2,h]
theorem qR6 (f:RoI->Int) (zs:List qD4):∀ k,k<=zs.length->(qC2 f zs k).length=k
 | 0,_=>rfl
 | k+1,h=>by
  rw [qS5 (List.getElem?_eq_getElem (show k < zs.length by omega))];simp [qR6 f zs k (by omega)]
/-- What the last part tells. -/
def qR7 (f:RoI->Int) (zs:List qD4):TS:=(qC2 f zs zs.length)[zs.length - 1]?.getD noT
