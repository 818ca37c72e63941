/- Contracts. -/
import Derived.Test.YtdppdbihhlipeaaGreatDoorChecked
import Derived.Test.YtdppdbihhlipeaaGreatDoorPr02
import Derived.ProofKit
import Derived.Outline
import Derived.Test.YtdppdbihhlipeaaGreatDoorPr01
import Derived.WalkSmall
import Derived.BigQuiet
import Derived.Deep.QuietTactic
import Derived.Laws.AppendOwn
import Derived.RangeFuncNested
import Derived.RangeFuncBound
import Derived.RangeFuncCalls
import Derived.RangeFuncBox
import Derived.RangeFuncLeaves
import Derived.Shelf.Abstract
import Derived.OwnWalkIn
import Derived.TacticsInMore
import Derived.LoopNIn
import Derived.LoopIn
import Derived.Maps.AppendAt
import Derived.Stop.RegionWithIn
import Derived.Sort.BigQuietIn
namespace Go.Proofs.YtdppdbihhlipeaaGreatDoor
set_option maxRecDepth 100000
set_option maxHeartbeats 8000000
open Go.RowKit
set_option linter.unusedVariables false
set_option linter.unusedSimpArgs false

theorem qGz (s p:Int) (h0:0<=s) (h1:s<=255) (p0:1<=p) (p1:p<=8) (w:World) :
  Calls Tryz.prog 158 #[.int .i64 s,.int .i64 p] w fun e w'=>e = .returned (.bool (qI5 s p))/\w=w':=by
 have hp:p=1\/p=2\/p=3\/p=4\/p=5\/p=6\/p=7\/p=8:=by omega
 rcases hp with rfl | rfl | rfl | rfl | rfl | rfl | rfl | rfl
 ·have e1:=qP6 s 1 h0 h1 (by omega) (by omega);simp at e1;go_enter Tryz.func158,Tryz.ntmps158;go_wp2;go_ret;exact ⟨rfl,rfl⟩
 ·have e1:=qP6 s 2 h0 h1 (by omega) (by omega);simp at e1;go_enter Tryz.func158,Tryz.ntmps158;go_wp2;go_ret;exact ⟨rfl,rfl⟩
 ·have e1:=qP6 s 3 h0 h1 (by omega) (by omega);simp at e1;go_enter Tryz.func158,Tryz.ntmps158;go_wp2;go_ret;exact ⟨rfl,rfl⟩
 ·have e1:=qP6 s 4 h0 h1 (by omega) (by omega);simp at e1;go_enter Tryz.func158,Tryz.ntmps158;go_wp2;go_ret;exact ⟨rfl,rfl⟩
 ·have e1:=qP6 s 5 h0 h1 (by omega) (by omega);simp at e1;go_enter Tryz.func158,Tryz.ntmps158;go_wp2;go_ret;exact ⟨rfl,rfl⟩
 ·have e1:=qP6 s 6 h0 h1 (by omega) (by omega);simp at e1;go_enter Tryz.func158,Tryz.ntmps158;go_wp2;go_ret;exact ⟨rfl,rfl⟩
 ·have e1:=qP6 s 7 h0 h1 (by omega) (by omega);simp at e1;go_enter Tryz.func158,Tryz.ntmps158;go_wp2;go_ret;exact ⟨rfl,rfl⟩
 ·have e1:=qP6 s 8 h0 h1 (by omega) (by omega);simp at e1;go_enter Tryz.func158,Tryz.ntmps158;go_wp2;go_ret;exact ⟨rfl,rfl⟩
theorem Tryz.info2:(Tryz.prog.info? 2).map (fun i=>(i.zero,i.size,i.bytes))=some (some (.int .i64 0),1,8):=by kernel_rfl
theorem qY7 (s:Int) (k:Nat):(qB3 s k).length<=k:=by
 induction k with
 | zero=>simp [qB3]
 | succ k ih =>
  simp only [qB3];split
  ·simp;omega
  ·omega
theorem qV2 (s:Int) (k:Nat) (h:qI5 s ((k:Int)+1)=true):qB3 s (k+1)=qB3 s k++[(k:Int)+1]:=by simp [qB3,h]
theorem QN7 (s:Int) (k:Nat) (h:qI5 s ((k:Int)+1)=false):qB3 s (k+1)=qB3 s k:=by simp [qB3,h]
theorem qGo {B k:Nat} {s:Int} {w wr w1:World} {u v':Value} {o:Obj} (hB:B<=wr.heap.size) (hh:qI5 s ((k:Int)+1)=true)
  (hown:wr.ownsRow B 2 1 u (qB3 s k).length ((qB3 s k).map (Value.int .i64))) (hnx:Below B w wr)
  (hown':w1.ownsRow B 2 1 v' ((qB3 s k).length+1) ((qB3 s k).map (Value.int .i64)++[.int .i64 ((k:Int)+1)])) (hgrow:(wr.alloc o).grownBy w1 u.ownBlock) :
  w1.ownsRow B 2 1 v' (qB3 s (k+1)).length ((qB3 s (k+1)).map (Value.int .i64))/\Below B w w1:=by
 refine ⟨by rw [qV2 s k hh];simpa using hown',(hnx.alloc (by omega) o).grown hgrow (by simp;omega) (fun j hj=>by have:=(hown.lt j hj).1;omega)⟩
theorem qML {W w1:World} (hb:Below W.heap.size W w1):(∀ b o,b < W.heap.size->w1.cell? ⟨b,o,none⟩=W.cell? ⟨b,o,none⟩)/\(∀ b o,b < W.heap.size->w1.frozen? ⟨b,o,none⟩=W.frozen? ⟨b,o,none⟩) :=
 ⟨fun b o h=>hb.cell (p:=⟨b,o,none⟩) h,fun b o h=>hb.frozen (p:=⟨b,o,none⟩) h⟩
theorem qEg {w:World} {b:Nat} {t:TypeId} {v:Value} {n:Nat} {xs:List Value} (h:w.ownsRow b t 1 v n xs) (hv:v ≠ .slice none 0 0):∃ g cap,v = .slice (some ⟨g,0,none⟩) n cap:=by
 rcases h.2 with ⟨h',_⟩ | ⟨g,cap,cur,h',_⟩
 ·exact absurd h' hv
 ·exact ⟨g,cap,h'⟩
theorem QW8 (s:Int) (h0:0<=s) (h1:s<=255) (w:World) :
  Calls Tryz.prog 129 #[.int .i64 s] w fun e w'=>∃ g cap,e = .returned (.slice (some ⟨g,0,none⟩) (qB3 s 8).length cap) /\
   w'.ownsRow w.heap.size 2 1 (.slice (some ⟨g,0,none⟩) (qB3 s 8).length cap) (qB3 s 8).length ((qB3 s 8).map (Value.int .i64))/\Below w.heap.size w w':=by
 obtain ⟨i0,hi,hz0,hz1,hz2⟩:=info_parts Tryz.info2;go_enter Tryz.func129,Tryz.ntmps129;go_wp2
 go_loopw [3,4] (fun v p wr=>∃ k:Nat,k<=8/\p = .int .i64 ((k:Int)+1)/\wr.ownsRow w.heap.size 2 1 v (qB3 s k).length ((qB3 s k).map (Value.int .i64))/\Below w.heap.size w wr/\v ≠ .slice none 0 0)
  (fun _ p _=>9 - (intOf p).toNat)
 case atStart=>exact ⟨0,Nat.zero_le _,rfl,World.ownsRow_lit w #[] 0 (Nat.le_refl _) (Nat.zero_le _) rfl,zN,by simp⟩
 case round =>
  obtain ⟨k,hk,rfl,hown,hnx,hnn⟩:=hrel;have hkl:=qY7 s k;by_cases hlt:k < 8
  ·have hlt':(k:Int)+1<=8:=by omega
   cases hh:qI5 s ((k:Int)+1) with
   | true =>
    have HH:Hid (qI5 s ((k:Int)+1)=true):=hh;clear hh
    go_wp2_with (first
     | (at_builtin;refine wpList_append_own _ rfl _ _ 29 rfl w.heap.size 2 i0 (.int .i64 0) 1 8 Tryz.underlying29 hi hz0 hz1 hz2 rfl (by decide) _ _ _ rfl (hown.alloc _) ⟨wr.heap.size,0,none⟩ 1 1 [.int .i64 ((k:Int)+1)] rfl rfl ?c1 ?c2 ?c3 ?c4 ?c5 ?_)
     | (go_at_call 158;refine (qGz s _ h0 h1 (by omega) (by omega) _).mono ?_;rintro e w' ⟨rfl,rfl⟩;rw [HH.out]))
    case c1 =>
     intro j u hj;match j,hj with
     | 0,hj=>simp at hj;subst hj;simp [Addr.add]
    case c2=>intro u hu;simp at hu;subst hu;rfl
    case c3=>unfold maxLen;omega
    case c4=>omega
    case c5=>have:=hnx.size;simp;omega
    ·intro v' w1 hown' hgrow hnil;have hnn':v' ≠ .slice none 0 0:=hnil;clear hnil;have R:=qGo (by have:=hnx.size;omega) HH.out hown hnx hown' hgrow;clear hown' hgrow hown;go_wp2;go_roundw
     case rel=>exact ⟨k+1,by omega,by go_num,R.1,R.2,hnn'⟩
     case measure=>simp [intOf];omega
   | false =>
    have HH:Hid (qI5 s ((k:Int)+1)=false):=hh;clear hh;go_wp2_with (go_at_call 158;refine (qGz s _ h0 h1 (by omega) (by omega) _).mono ?_;rintro e w' ⟨rfl,rfl⟩;rw [HH.out])
    go_roundw
    case rel=>exact ⟨k+1,by omega,by go_num,by rw [QN7 s k HH.out];exact hown,hnx,hnn⟩
    case measure=>simp [intOf];omega
  ·have hk8:k=8:=by omega
   subst hk8;obtain ⟨g,cap,hv⟩:=qEg hown hnn;rw [hv] at hown ⊢
   clear hv hnn;go_wp2;go_ret;exact ⟨g,cap,rfl,hown,hnx⟩

def QZ1 (w:World) (a:Option Addr) (len:Nat) (zs:List Int):Prop :=
 len<=zs.length/\∀ k,k < len->∃ b off,a=some ⟨b,off,none⟩/\w.cell? ⟨b,off+k,none⟩=some (.int .i64 (zs[k]?.getD 0))
theorem qGC {n:Nat} {ys:List Value} {zs:List Int} (hz:n<=zs.length) (hl:ys.length=n) (h:∀ j,j < n->ys[j]? = some (.int .i64 (zs[j]?.getD 0))):ys=(zs.take n).map (Value.int .i64):=by
 apply List.ext_getElem?;intro i;by_cases hi:i < n
 ·rw [h i hi];simp [hi,List.getElem?_eq_getElem (show i < zs.length by omega)]
 ·rw [List.getElem?_eq_none (by omega),List.getElem?_eq_none (by simp;omega)]
theorem qMn (a0:Option Addr) (len cap:Nat) (zs:List Int) (w:World) (hl:len<=1048576) (hr:QZ1 w a0 len zs) :
  Calls Tryz.prog 19 #[.slice a0 len cap] w fun e w'=>e = .returned (.slice (some ⟨w.heap.size,0,none⟩) len len) /\
   w'.ownsRow w.heap.size 2 1 (.slice (some ⟨w.heap.size,0,none⟩) len len) len ((zs.take len).map (Value.int .i64))/\Below w.heap.size w w':=by
 obtain ⟨i0,hi,hz0,hz1,hz2⟩:=info_parts Tryz.info2;obtain ⟨wm,hmk,hownm,hgrm⟩:=run_make_full (P:=Tryz.prog) (w:=w) w.heap.size 29 2 i0 (.int .i64 0) 1 Tryz.underlying29 hi hz0 hz1 .i64 .i64 len (by rw [hz2];omega) (by unfold maxLen;omega) (Nat.le_refl _);obtain ⟨hzl,hcs⟩:=hr;have HC:Hid (∀ k,k < len->∃ b off,a0=some ⟨b,off,none⟩/\w.cell? ⟨b,off+k,none⟩=some (.int .i64 (zs[k]?.getD 0))):=hcs;clear hcs;have HM:Hid (wm.ownsRow w.heap.size 2 1 (.slice (some ⟨w.heap.size,0,none⟩) len len) len (madeCells (Value.int .i64 0).cells (len * 1)).toList):=hownm;clear hownm;have HG:Hid (w.grownBy wm none):=hgrm;clear hgrm;have hl':(len:Int)<=1048576:=by omega
 go_enter Tryz.func19,Tryz.ntmps19;go_wp2
 go_loopw [4] (fun i wr=>∃ (k:Nat) (ys:List Value),k<=len/\i = .int .i64 (k:Int)/\wr.ownsRow w.heap.size 2 1 (.slice (some ⟨w.heap.size,0,none⟩) len len) len ys/\(∀ j,j < k->ys[j]? = some (.int .i64 (zs[j]?.getD 0)))/\Below w.heap.size w wr)
  (fun i _=>len - (intOf i).toNat)
 case atStart=>exact ⟨0,_,Nat.zero_le _,rfl,HM.out,fun j hj=>by omega,(Below.refl _ _).grown HG.out (Nat.le_refl _) (fun k e=>by cases e)⟩
 case round =>
  obtain ⟨k,ys,hk,rfl,hown,hys,hnx⟩:=hrel;by_cases hlt:k < len
  ·obtain ⟨b,off,ha,hc⟩:=HC.out k hlt;subst ha;obtain ⟨y,hy⟩:∃ y,y=zs[k]?.getD 0:=⟨_,rfl⟩;rw [<- hy] at hc;have hb:b < w.heap.size:=zL w ⟨b,off+k,none⟩ hc;have hcr:wr.cell? ⟨b,off+k,none⟩=some (.int .i64 y):=(hnx.cell (p:=⟨b,off+k,none⟩) hb).trans hc;have hlen:ys.length=len:=by simpa using hown.1
   obtain ⟨v0,hco⟩:∃ v0,wr.cell? ⟨w.heap.size,k,none⟩=some v0:=⟨_,(hown.cellAt k (by omega)).trans (List.getElem?_eq_getElem (show k < ys.length by omega))⟩;have hfo:=hown.frozenAt k;have hst:=hown.stored k (.int .i64 y)
   have R:Hid ((wr.setCell ⟨w.heap.size,k,none⟩ (.int .i64 y)).ownsRow w.heap.size 2 1 (.slice (some ⟨w.heap.size,0,none⟩) len len) len (ys.set k (.int .i64 y))/\(∀ j,j < k+1->(ys.set k (.int .i64 y))[j]? = some (.int .i64 (zs[j]?.getD 0)))/\Below w.heap.size w (wr.setCell ⟨w.heap.size,k,none⟩ (.int .i64 y))):=by
    refine ⟨hst.1,fun j hj=>?_,hnx.setCell (Nat.le_refl _) _⟩;by_cases e:j=k
    ·subst e;rw [List.getElem?_set_self (by omega),hy]
    ·rw [List.getElem?_set_ne (by omega)];exact hys j (by omega)
   clear hst hown hys hy hc hlen;have hlt':(k:Int) < (len:Int):=by omega
   go_wp2;go_roundw
   case rel=>exact ⟨k+1,_,by omega,by go_num,R.out.1,R.out.2.1,R.out.2.2⟩
   case measure=>simp [intOf];omega
  ·have hkn:k=len:=by omega
   subst hkn;have E:=qGC hzl (by simpa using hown.1) hys;rw [E] at hown;go_wp2;go_ret;exact ⟨rfl,hown,hnx⟩
theorem qJJ (a b:Option Addr) (n c d:Nat) (zs:List Int) (w:World) (hn:n<=1048576)
  (ha:∀ k,k < n->∃ g off,a=some ⟨g,off,none⟩/\w.cell? ⟨g,off+k,none⟩=some (.int .i64 (zs[k]?.getD 0))) (hb:∀ k,k < n->∃ g off,b=some ⟨g,off,none⟩/\w.cell? ⟨g,off+k,none⟩=some (.int .i64 (zs[k]?.getD 0))) :
  Calls Tryz.prog 22 #[.slice a n c,.slice b n d] w fun e w'=>e = .returned (.bool true)/\Below w.heap.size w w':=by
 have HA:Hid (∀ k,k < n->∃ g off,a=some ⟨g,off,none⟩/\w.cell? ⟨g,off+k,none⟩=some (.int .i64 (zs[k]?.getD 0))):=ha;have HB:Hid (∀ k,k < n->∃ g off,b=some ⟨g,off,none⟩/\w.cell? ⟨g,off+k,none⟩=some (.int .i64 (zs[k]?.getD 0))):=hb;clear ha hb;have hn':(n:Int)<=1048576:=by omega
 go_enter Tryz.func22,Tryz.ntmps22;go_wp2;go_loopw [5] (fun i wr=>∃ (k:Nat),k<=n/\i = .int .i64 (k:Int)/\∃ m,wr=w.drewN m) (fun i _=>n - (intOf i).toNat)
 case atStart=>exact ⟨0,Nat.zero_le _,rfl,0,rfl⟩
 case round =>
  obtain ⟨k,hk,rfl,m,rfl⟩:=hrel;by_cases hlt:k < n
  ·obtain ⟨g,off,e1,hca⟩:=HA.out k hlt;obtain ⟨g2,off2,e2,hcb⟩:=HB.out k hlt;subst e1 e2;obtain ⟨y,hy⟩:∃ y,y=zs[k]?.getD 0:=⟨_,rfl⟩;rw [<- hy] at hca hcb;clear hy;have hlt':(k:Int) < (n:Int):=by omega
   go_wp2;go_quiet (fail)
   go_wp2;exact ⟨⟨k+1,by omega,by go_num,_,rfl⟩,by simp [intOf];omega⟩
  ·have hkn:k=n:=by omega
   subst hkn;go_wp2;go_ret;exact ⟨rfl,below_drewN (Below.refl _ _) _⟩
theorem qBw {w:World} {base g len cap:Nat} {zs:List Int} (h:w.ownsRow base 2 1 (.slice (some ⟨g,0,none⟩) len cap) len ((zs.take len).map (Value.int .i64))) (hz:len<=zs.length) :
  ∀ k,k < len->w.cell? ⟨g,k,none⟩=some (.int .i64 (zs[k]?.getD 0)):=by
 intro k hk;rw [h.cellAt k (by omega)];simp [hk,List.getElem?_eq_getElem (show k < zs.length by omega)]
theorem qIZ {w:World} {base g len cap:Nat} {xs:List Value} (h:w.ownsRow base 2 1 (.slice (some ⟨g,0,none⟩) len cap) len xs):g < w.heap.size:=(h.lt g rfl).2

structure qX3 (lo hi:Nat) (P:World->Prop) (W:World):Prop where
 out:P W
 le:hi<=W.heap.size
 kept:∀ X X':World,P X->(∀ b,lo<=b->b < hi->X'.heap[b]? = X.heap[b]?)->P X'
theorem qX3.below {lo hi:Nat} {P:World->Prop} {W W':World} (h:qX3 lo hi P W) (hb:Below W.heap.size W W'):qX3 lo hi P W' :=
 ⟨h.kept _ _ h.out (fun b _ h2=>hb.block b (Nat.lt_of_lt_of_le h2 h.le)),Nat.le_trans h.le hb.size,h.kept⟩
theorem qX3.drew {lo hi:Nat} {P:World->Prop} {W:World} (h:qX3 lo hi P W):qX3 lo hi P W.drew:=h.below (Below.refl _ _).drew
structure Chg (lo hi:Nat) (W W':World):Prop where
 below:∀ B,B<=lo->B<=W.heap.size->Below B W W'
 size:W.heap.size<=W'.heap.size
 block:∀ b,b < W.heap.size->(b < lo\/hi<=b)->W'.heap[b]? = W.heap[b]?
theorem Chg.grown {lo hi:Nat} {W W':World} {row:Option Nat} (hg:W.grownBy W' row) (h:∀ q,row=some q->lo<=q/\q < hi):Chg lo hi W W' :=
 ⟨fun B h1 h2=>(Below.refl _ _).grown hg h2 (fun q e=>Nat.le_trans h1 (h q e).1),hg.size,fun b h1 h2=>hg.block b h1 (fun e=>by have:=h b e.symm;omega)⟩
theorem Chg.calls {lo hi:Nat} {W W':World} (hb:Below W.heap.size W W'):Chg lo hi W W' :=
 ⟨fun B h1 h2=>hb.mono h2,hb.size,fun b h1 h2=>hb.block b h1⟩
theorem Chg.trans {lo hi:Nat} {A B C:World} (h:Chg lo hi A B) (k:Chg lo hi B C):Chg lo hi A C :=
 ⟨fun b h1 h2=>(h.below b h1 h2).trans (k.below b h1 (Nat.le_trans h2 h.size)),Nat.le_trans h.size k.size,fun b h1 h2=>(k.block b (Nat.lt_of_lt_of_le h1 h.size) h2).trans (h.block b h1 h2)⟩
theorem qX3.chg {lo hi l r:Nat} {P:World->Prop} {W W':World} (h:qX3 lo hi P W) (c:Chg l r W W') (d:hi<=l\/r<=lo):qX3 lo hi P W' :=
 ⟨h.kept _ _ h.out (fun b h1 h2=>c.block b (Nat.lt_of_lt_of_le h2 h.le) (by omega)),Nat.le_trans h.le c.size,h.kept⟩
theorem QP4 {B l r:Nat} {w W W':World} (h:Below B w W) (c:Chg l r W W') (h1:B<=l) (h2:B<=W.heap.size):Below B w W':=h.trans (c.below B h1 h2)
def qV9 (b:Nat) (vs:List Value) (X:World):Prop:=∀ j v,vs[j]? = some v->X.cell? ⟨b,j,none⟩=some v
theorem qV9.hold {b:Nat} {vs:List Value} {W:World} (h:qV9 b vs W) (hb:b < W.heap.size):qX3 b (b+1) (qV9 b vs) W :=
 ⟨h,hb,fun X X' hX hk j v e=>(World.cell?_of_block (w:=X) (w':=X') (a:=⟨b,j,none⟩) (hk b (Nat.le_refl _) (by omega))).trans (hX j v e)⟩
theorem qE6 (W:World) (cs:Array Value) (t:TypeId):qX3 W.heap.size (W.heap.size+1) (qV9 W.heap.size cs.toList) (W.alloc (.cells cs t)):=by
 refine qV9.hold (fun j v e=>?_) (by simp);have h:(W.alloc (.cells cs t)).heap[W.heap.size]? = some (.cells cs t):=by show (W.heap.push _)[W.heap.size]? = _;simp
 unfold World.cell?;simp only;rw [h];simpa using e
def qH0 (b:Nat) (vs:List Value) (X:World):Prop:=qV9 b vs X/\(∀ j,X.frozen? ⟨b,j,none⟩=false)
theorem qH0.hold {b:Nat} {vs:List Value} {W:World} (h:qH0 b vs W) (hb:b < W.heap.size):qX3 b (b+1) (qH0 b vs) W :=
 ⟨h,hb,fun X X' hX hk=>⟨(qV9.hold h.1 hb).kept X X' hX.1 hk,fun j=>(World.frozen?_of_block (w:=X) (w':=X') (a:=⟨b,j,none⟩) (hk b (Nat.le_refl _) (by omega))).trans (hX.2 j)⟩⟩
theorem qH0.below {b:Nat} {vs:List Value} {W W':World} (h:qH0 b vs W) (hb:b < W.heap.size) (hw:Below W.heap.size W W'):qH0 b vs W':=((h.hold hb).below hw).out
theorem qG7 (W:World) (cs:Array Value) (t:TypeId):qH0 W.heap.size cs.toList (W.alloc (.cells cs t)) :=
 ⟨(qE6 W cs t).out,fun j=>by
  have h:(W.alloc (.cells cs t)).heap[W.heap.size]? = some (.cells cs t):=by show (W.heap.push _)[W.heap.size]? = _;simp
  unfold World.frozen?;simp only;rw [h];simp⟩
theorem qH0.put {b:Nat} {vs:List Value} {X:World} (h:qH0 b vs X) (j:Nat) (hj:j < vs.length) (v:Value):qH0 b (vs.set j v) (X.setCell ⟨b,j,none⟩ v):=by
 refine ⟨fun i u e=>?_,fun i=>by rw [World.frozen?_setCell];exact h.2 i⟩;by_cases q:i=j
 ·subst q;rw [List.getElem?_set_self hj] at e;have hc:=h.1 i _ (List.getElem?_eq_getElem hj);cases e;simp [go_sem,hc]
 ·rw [List.getElem?_set_ne (Ne.symm q)] at e;rw [World.cell?_setCell_other (h:=fun e=>q (by have:=congrArg Addr.off e;simp at this;omega))];exact h.1 i u e
theorem qH0.other {b:Nat} {vs:List Value} {X:World} (h:qH0 b vs X) {p:Addr} (hp:p.block≠b) (v:Value):qH0 b vs (X.setCell p v):=by
 refine ⟨fun i u e=>?_,fun i=>by rw [World.frozen?_setCell];exact h.2 i⟩;rw [World.cell?_setCell_other (h:=fun e=>hp (by rw [e]))];exact h.1 i u e
def QI4 (g n:Nat) (zs:List Int) (X:World):Prop:=(∀ k x,zs[k]? = some x->X.cell? ⟨g,k,none⟩=some (.int .i64 x))/\(∀ j,j < n->∃ v,X.cell? ⟨g,j,none⟩=some v)/\∀ j,X.frozen? ⟨g,j,none⟩=false
theorem QI4.hold {g n:Nat} {zs:List Int} {W:World} (h:QI4 g n zs W) (hg:g < W.heap.size):qX3 g (g+1) (QI4 g n zs) W :=
 ⟨h,hg,fun X X' hX hk=>by
  have hb:=hk g (Nat.le_refl _) (by omega)
  exact ⟨fun k x e=>(World.cell?_of_block (a:=⟨g,k,none⟩) hb).trans (hX.1 k x e),fun j hj=>by
   obtain ⟨v,e⟩:=hX.2.1 j hj;exact ⟨v,(World.cell?_of_block (a:=⟨g,j,none⟩) hb).trans e⟩,fun j=>(World.frozen?_of_block (a:=⟨g,j,none⟩) hb).trans (hX.2.2 j)⟩⟩
theorem qA0 {X X':World} {B:Nat} {t:TypeId} {sz:Nat} {v:Value} {n:Nat} {xs:List Value} (h:X.ownsRow B t sz v n xs) (hk:∀ g,v.ownBlock=some g->X'.heap[g]? = X.heap[g]?):X'.ownsRow B t sz v n xs:=by
 refine ⟨h.1,?_⟩;rcases h.2 with q | ⟨g,cap,cur,e,hg,hb,rest⟩
 ·exact .inl q
 ·exact .inr ⟨g,cap,cur,e,hg,(hk g (by rw [e];rfl)).trans hb,rest⟩
theorem QM1 {W:World} {B:Nat} {t:TypeId} {sz:Nat} {v:Value} {n:Nat} {xs:List Value} (h:W.ownsRow B t sz v n xs) (hi:Nat) (h1:∀ g,v.ownBlock=some g->g < hi) (h2:hi<=W.heap.size):qX3 B hi (fun X=>X.ownsRow B t sz v n xs) W :=
 ⟨h,h2,fun X X' hX hk=>qA0 hX (fun g e=>hk g (hX.lt g e).1 (h1 g e))⟩
theorem qK0 {W:World} {B:Nat} {t:TypeId} {sz:Nat} {v:Value} {n:Nat} {xs:List Value} (h:W.ownsRow B t sz v n xs):qX3 B W.heap.size (fun X=>X.ownsRow B t sz v n xs) W:=QM1 h _ (fun g e=>(h.lt g e).2) (Nat.le_refl _)

theorem qHA (p:Int) (p0:1<=p) (p1:p<=8) (w:World) :
  Calls Tryz.prog 156 #[.int .i64 p] w fun e w'=>e = .returned (.int .i64 (qFT p))/\w=w':=by
 have hp:p=1\/p=2\/p=3\/p=4\/p=5\/p=6\/p=7\/p=8:=by omega
 rcases hp with rfl | rfl | rfl | rfl | rfl | rfl | rfl | rfl
 all_goals
  go_enter Tryz.func156,Tryz.ntmps156;go_wp2;go_ret;exact ⟨rfl,rfl⟩
theorem QY7 (p:Int) (p0:1<=p) (p1:p<=8) (w:World) :
  Calls Tryz.prog 210 #[.int .i64 p] w fun e w'=>e = .returned (.int .u8 (qFT p))/\w=w':=by
 have hp:p=1\/p=2\/p=3\/p=4\/p=5\/p=6\/p=7\/p=8:=by omega
 rcases hp with rfl | rfl | rfl | rfl | rfl | rfl | rfl | rfl
 all_goals
  go_enter Tryz.func210,Tryz.ntmps210;go_wp2;go_ret;exact ⟨rfl,rfl⟩

section
open Go.RowKit Go.Shelf
attribute [local go_sem] Oper.semAt_some
set_option linter.unusedVariables false
theorem QK2 (k:FuncId):Fence.wide.fn k=True:=eq_true trivial
attribute [local go_sem] QK2
attribute [local simp] QK2
theorem QT2 (s:Int) (k m:Nat) (h:k<=m):qB3 s k <+: qB3 s m:=by
 induction m with
 | zero =>
  have e:k=0:=by omega
  subst e;exact List.prefix_refl _
 | succ m ih =>
  by_cases e:k=m+1
  ·subst e;exact List.prefix_refl _
  ·have:=ih (by omega);simp only [qB3];split
   ·exact this.trans (List.prefix_append _ _)
   ·exact this
theorem qGp (s:Int) (k m:Nat) (h:k < m) (hh:qI5 s ((k:Int)+1)=true):(qB3 s k).length < (qB3 s m).length:=by
 have h1:=(QT2 s (k+1) m (by omega)).length_le;rw [qV2 s k hh] at h1;simp at h1;omega
def qZ2 (b:Nat) (W W':World):Prop:=W'.heap[b]? = W.heap[b]?
theorem qCW (W:World) (m:Nat):W.grownBy (W.drewN m) none:=⟨rfl,rfl,rfl,Nat.le_refl _,fun _ _ _=>rfl⟩
theorem qFI (W:World):W.grownBy W.drew none:=⟨rfl,rfl,rfl,Nat.le_refl _,fun _ _ _=>rfl⟩
theorem qDR (n:Nat) (hn:1<=n) (l Bn B:Nat) (s:Int) (s0:0<=s) (s1:s<=255) (J Jx:List Int->World->Prop) (hJ:AbidesFrom B J)
  (hY:∀ pre x W,J pre W->pre.length < (qB3 s 8).length->1<=x->x<=8->YieldAt Fence.wide (n - 1) Tryz.prog l #[.int .i64 x] W fun e W' =>
   (e = .returned (.bool true)/\J (pre++[x]) W'/\qZ2 Bn W W')\/(e = .returned (.bool false)/\Jx (pre++[x]) W'))
  (W:World) (hBn:W.cell? ⟨Bn,0,none⟩=some (.int .u8 s)) (h0:J [] W) :
  CallsIn Fence.wide n Tryz.prog 209 #[.func (.yield l) #[] #[],.pointer (some ⟨Bn,0,none⟩)] W fun e W'=>(∃ v,e = .returned v) /\
   ((∃ ys,ys=qB3 s 8/\J ys W')\/(∃ pre,pre <+: qB3 s 8/\Jx pre W')):=by
 refine callsIn_of_wp Tryz.func209 rfl trivial ?_ rfl;simp only [Tryz.ntmps209,List.size_toArray,List.length_cons,List.length_nil,Nat.reduceAdd,Nat.reduceSub,Array.replicate_succ,Array.replicate_zero,List.push_toArray,List.append_toArray,List.nil_append,List.cons_append];gi_wp2
 gi_loopw [3] (fun p wr=>∃ (k:Nat),k<=8/\p = .int .i64 ((k:Int)+1)/\wr.cell? ⟨Bn,0,none⟩=some (.int .u8 s)/\J (qB3 s k) wr)
  (fun p _=>9 - (intOf p).toNat)
 case atStart=>exact ⟨0,Nat.zero_le _,rfl,hBn,h0⟩
 case round =>
  obtain ⟨k,hk,rfl,hc,hJs⟩:=hrel;by_cases hlt:k < 8
  ·have hlt':(k:Int)+1<=8:=by omega
   cases hh:qI5 s ((k:Int)+1) with
   | true =>
    have e2:(bits .and .u8 s (qFT ((k:Int)+1)) != 0)=true:=by rw [<- hh];exact qKA s _ s0 s1 (by omega) (by omega)
    have HH:Hid (qI5 s ((k:Int)+1)=true):=hh;clear hh;have hJd:=hJ _ wr wr.drew none hJs (qFI wr) (fun r e=>by cases e);have hcd:wr.drew.cell? ⟨Bn,0,none⟩=some (.int .u8 s):=hc;obtain ⟨fn,tmps,assign,body,hy,hR⟩:=hY _ ((k:Int)+1) wr.drew hJd (qGp s k 8 hlt HH.out) (by omega) (by omega)
    have hR':=hR.mono (R':=fun e W'=>∃ b:Bool,e = .returned (.bool b)/\Hid ((b=true/\J (qB3 s k++[(k:Int)+1]) W'/\qZ2 Bn wr.drew W')\/(b=false/\Jx (qB3 s k++[(k:Int)+1]) W'))) (by
     rintro e W' (⟨rfl,h⟩ | ⟨rfl,h⟩)
     ·exact ⟨true,rfl,.inl ⟨rfl,h⟩⟩
     ·exact ⟨false,rfl,.inr ⟨rfl,h⟩⟩)
    clear hR hY hJ hJd hJs h0;gi_wp2
    gi_region_with (first | (gi_at_call 210;refine (callsIn_wide.2 (QY7 ((k:Int)+1) (by omega) (by omega) _)).mono ?_;rintro e w' ⟨rfl,rfl⟩) | (refine hR'.mono ?_;rintro e W3 ⟨b,rfl,HD⟩))
    all_goals
     rcases HD.out with ⟨rfl,hJ3,hk3⟩ | ⟨rfl,hJx3⟩
     ·have hc3:W3.cell? ⟨Bn,0,none⟩=some (.int .u8 s):=(World.cell?_of_block (a:=⟨Bn,0,none⟩) hk3).trans hcd;gi_wp2
      go_roundw
      case rel=>exact ⟨k+1,by omega,by go_num,hc3,by rw [qV2 s k HH.out];exact hJ3⟩
      case measure=>simp [intOf];omega
     ·gi_wp2
      refine bodyPost_ret (results_none rfl _ _ _) rfl ?_;exact ⟨⟨_,rfl⟩,.inr ⟨_,by have hp:=QT2 s (k+1) 8 (by omega);rw [qV2 s k HH.out] at hp;exact hp,hJx3⟩⟩
   | false =>
    have e2:(bits .and .u8 s (qFT ((k:Int)+1)) != 0)=false:=by rw [<- hh];exact qKA s _ s0 s1 (by omega) (by omega)
    have HH:Hid (qI5 s ((k:Int)+1)=false):=hh;clear hh;have HJ:Hid (∀ m,J (qB3 s (k+1)) (wr.drewN m)):=by rw [QN7 s k HH.out];exact fun m=>hJ _ wr (wr.drewN m) none hJs (qCW wr m) (fun r e=>by cases e)
    clear hY hJ hJs h0;gi_wp2
    gi_big_quiet_th ((gi_at_call 210;refine CallsIn.quiet_of_same ((callsIn_wide.2 (QY7 ((k:Int)+1) (by omega) (by omega) _)).mono (fun _ _ h=>⟨h.1,h.2.symm⟩))))
    gi_wp2
    go_roundw
    case rel=>exact ⟨k+1,by omega,by go_num,hc,HJ.out _⟩
    case measure=>simp [intOf];omega
  ·have hk8:k=8:=by omega
   subst hk8;gi_wp2
   go_end0
   exact ⟨⟨_,rfl⟩,.inl ⟨_,rfl,hJs⟩⟩
theorem qBk (n:Nat) (s:Int) (w:World) :
  CallsIn Fence.wide n Tryz.prog 189 #[.int .u8 s] w fun e w'=>e = .returned (.func (.func 209) #[] #[.pointer (some ⟨w.heap.size,0,none⟩)])/\w.alloc (.cells #[.int .u8 s] 257)=w':=by
 refine callsIn_of_wp Tryz.func189 rfl trivial ?_ rfl;simp only [Tryz.ntmps189,List.size_toArray,List.length_cons,List.length_nil,Nat.reduceAdd,Nat.reduceSub,Array.replicate_succ,Array.replicate_zero,List.push_toArray,List.append_toArray,List.nil_append,List.cons_append];gi_wp2
 go_ret;exact ⟨rfl,rfl⟩
theorem qEc (n:Nat) (hn:1<=n) (Bn:Nat) (s:Int) (s0:0<=s) (s1:s<=255) (w:World) (hBn:Bn < w.heap.size) (hc:w.cell? ⟨Bn,0,none⟩=some (.int .u8 s)) :
  SeqStopsK Fence.wide n Tryz.prog 209 #[.pointer (some ⟨Bn,0,none⟩)] (fun x:Int => #[Value.int .i64 x]) (qZ2 Bn) (fun ys=>ys=qB3 s 8) (fun pre=>pre <+: qB3 s 8) (qB3 s 8).length w:=fun l J Jx W hW hJ _ hY h0 =>
 qDR n hn l Bn W.heap.size s s0 s1 J Jx hJ (fun pre x W hj hl _ _=>hY pre x W hj hl) W ((hW.cell (p:=⟨Bn,0,none⟩) hBn).trans hc) h0
abbrev P8:={ x:Int // 1<=x/\x<=8 }
theorem QL4 (n:Nat) (hn:1<=n) (Bn:Nat) (s:Int) (s0:0<=s) (s1:s<=255) (w:World) (hBn:Bn < w.heap.size) (hc:w.cell? ⟨Bn,0,none⟩=some (.int .u8 s)) :
  SeqStopsK Fence.wide n Tryz.prog 209 #[.pointer (some ⟨Bn,0,none⟩)] (fun x:P8 => #[Value.int .i64 x.1]) (qZ2 Bn) (fun ys=>ys.map (·.1)=qB3 s 8) (fun pre=>pre.map (·.1) <+: qB3 s 8) (qB3 s 8).length w:=fun l J Jx W hW hJ _ hY h0=>by
 have hY':∀ (pre:List Int) (x:Int) (W1:World),(∃ p:List P8,p.map (·.1)=pre/\J p W1)->pre.length < (qB3 s 8).length->1<=x->x<=8->YieldAt Fence.wide (n - 1) Tryz.prog l #[.int .i64 x] W1 fun e W' =>
   (e = .returned (.bool true)/\(∃ p:List P8,p.map (·.1)=pre++[x]/\J p W')/\qZ2 Bn W1 W')\/(e = .returned (.bool false)/\(∃ p:List P8,p.map (·.1)=pre++[x]/\Jx p W')):=by
  rintro pre x W1 ⟨p,rfl,hj⟩ hl x1 x8;obtain ⟨fn,tmps,assign,body,hy,hR⟩:=hY p ⟨x,x1,x8⟩ W1 hj (by simpa using hl);refine ⟨fn,tmps,assign,body,hy,hR.mono ?_⟩;rintro e W' (⟨he,h1,h2⟩ | ⟨he,h1⟩)
  ·exact .inl ⟨he,⟨p++[⟨x,x1,x8⟩],by simp,h1⟩,h2⟩
  ·exact .inr ⟨he,⟨p++[⟨x,x1,x8⟩],by simp,h1⟩⟩
 refine (qDR n hn l Bn W.heap.size s s0 s1 (fun pre W1=>∃ p:List P8,p.map (·.1)=pre/\J p W1) (fun pre W1=>∃ p:List P8,p.map (·.1)=pre/\Jx p W1)
  (fun pre X Y row ⟨p,hp,hj⟩ hg hr=>⟨p,hp,hJ p X Y row hj hg hr⟩) hY' W ((hW.cell (p:=⟨Bn,0,none⟩) hBn).trans hc) ⟨[],rfl,h0⟩).mono ?_
 rintro e W' ⟨hv,⟨ys,rfl,p,hp,hj⟩ | ⟨pre,hpre,p,hp,hj⟩⟩
 ·exact ⟨hv,.inl ⟨p,hp,hj⟩⟩
 ·exact ⟨hv,.inr ⟨p,by show p.map (·.1) <+: qB3 s 8;rw [hp];exact hpre,hj⟩⟩
end
