/- Contracts. -/
import Derived.Test.YtlhgjackapdmbaaGreatDoorPe03
import Derived.RangeFuncNested
import Derived.RangeFuncBound
import Derived.RangeFuncCalls
import Derived.RangeFuncBox
import Derived.RangeFuncLeaves
import Derived.Shelf.Abstract
import Derived.OwnWalkIn
import Derived.TacticsInMore
import Derived.LoopNIn
import Derived.LoopIn
import Derived.Maps.AppendAt
import Derived.Stop.RegionWithIn
import Derived.Sort.BigQuietIn
namespace Go.Proofs.YtlhgjackapdmbaaGreatDoor
set_option maxRecDepth 100000
set_option maxHeartbeats 8000000
open Go.RowKit
set_option linter.unusedVariables false
set_option linter.unusedSimpArgs false

theorem l1Bit_c (p:Int) (p0:1≤p) (p1:p≤8) (w:World) :
  Calls Tryz.prog 154 #[.int .i64 p] w fun e w'=>e = .returned (.int .i64 (bitI p))∧w=w':=by
 have hp:p=1∨p=2∨p=3∨p=4∨p=5∨p=6∨p=7∨p=8:=by omega
 rcases hp with rfl | rfl | rfl | rfl | rfl | rfl | rfl | rfl
 all_goals
  go_enter Tryz.func154,Tryz.ntmps154
  go_wp2
  go_ret
  exact ⟨rfl,rfl⟩
theorem QW5 (p:Int) (p0:1≤p) (p1:p≤8) (w:World) :
  Calls Tryz.prog 184 #[.int .i64 p] w fun e w'=>e = .returned (.int .u8 (bitI p))∧w=w':=by
 have hp:p=1∨p=2∨p=3∨p=4∨p=5∨p=6∨p=7∨p=8:=by omega
 rcases hp with rfl | rfl | rfl | rfl | rfl | rfl | rfl | rfl
 all_goals
  go_enter Tryz.func184,Tryz.ntmps184
  go_wp2
  go_ret
  exact ⟨rfl,rfl⟩

section
open Go.RowKit Go.Shelf
attribute [local go_sem] Oper.semAt_some
set_option linter.unusedVariables false
theorem QJ3 (k:FuncId):Fence.wide.fn k=True:=eq_true trivial
attribute [local go_sem] QJ3
attribute [local simp] QJ3
theorem QR4 (s:Int) (k m:Nat) (h:k≤m):qB2 s k <+: qB2 s m:=by
 induction m with
 | zero =>
  have e:k=0:=by omega
  subst e;exact List.prefix_refl _
 | succ m ih =>
  by_cases e:k=m+1
  ·subst e;exact List.prefix_refl _
  ·have:=ih (by omega)
   simp only [qB2]
   split
   ·exact this.trans (List.prefix_append _ _)
   ·exact this
theorem listTo_lt (s:Int) (k m:Nat) (h:k < m) (hh:qJ0 s ((k:Int)+1)=true):(qB2 s k).length < (qB2 s m).length:=by
 have h1:=(QR4 s (k+1) m (by omega)).length_le
 rw [qV7 s k hh] at h1
 simp at h1
 omega
def qZ7 (b:Nat) (W W':World):Prop:=W'.heap[b]? = W.heap[b]?
theorem grown_drewN (W:World) (m:Nat):W.grownBy (W.drewN m) none:=⟨rfl,rfl,rfl,Nat.le_refl _,fun _ _ _=>rfl⟩
theorem grown_drew (W:World):W.grownBy W.drew none:=⟨rfl,rfl,rfl,Nat.le_refl _,fun _ _ _=>rfl⟩
theorem prin1_in (n:Nat) (hn:1≤n) (l Bn B:Nat) (s:Int) (s0:0≤s) (s1:s≤255) (J Jx:List Int→World→Prop) (hJ:AbidesFrom B J)
  (hY:∀ pre x W,J pre W→pre.length < (qB2 s 8).length→1≤x→x≤8→YieldAt Fence.wide (n - 1) Tryz.prog l #[.int .i64 x] W fun e W' =>
   (e = .returned (.bool true)∧J (pre++[x]) W'∧qZ7 Bn W W')∨(e = .returned (.bool false)∧Jx (pre++[x]) W'))
  (W:World) (hBn:W.cell? ⟨Bn,0,none⟩=some (.int .u8 s)) (h0:J [] W) :
  CallsIn Fence.wide n Tryz.prog 183 #[.func (.yield l) #[] #[],.pointer (some ⟨Bn,0,none⟩)] W fun e W'=>(∃ v,e = .returned v) ∧
   ((∃ ys,ys=qB2 s 8∧J ys W')∨(∃ pre,pre <+: qB2 s 8∧Jx pre W')):=by
 refine callsIn_of_wp Tryz.func183 rfl trivial ?_ rfl
 simp only [Tryz.ntmps183,List.size_toArray,List.length_cons,List.length_nil,Nat.reduceAdd,Nat.reduceSub,Array.replicate_succ,Array.replicate_zero,List.push_toArray,List.append_toArray,List.nil_append,List.cons_append]
 gi_wp2
 gi_loopw [3] (fun p wr=>∃ (k:Nat),k≤8∧p = .int .i64 ((k:Int)+1)∧wr.cell? ⟨Bn,0,none⟩=some (.int .u8 s)∧J (qB2 s k) wr)
  (fun p _=>9 - (intOf p).toNat)
 case atStart=>exact ⟨0,Nat.zero_le _,rfl,hBn,h0⟩
 case round =>
  obtain ⟨k,hk,rfl,hc,hJs⟩:=hrel
  by_cases hlt:k < 8
  ·have hlt':(k:Int)+1≤8:=by omega
   cases hh:qJ0 s ((k:Int)+1) with
   | true =>
    have e2:(bits .and .u8 s (bitI ((k:Int)+1)) != 0)=true:=by rw [← hh];exact and_u8 s _ s0 s1 (by omega) (by omega)
    have HH:Hid (qJ0 s ((k:Int)+1)=true):=hh
    clear hh
    have hJd:=hJ _ wr wr.drew none hJs (grown_drew wr) (fun r e=>by cases e)
    have hcd:wr.drew.cell? ⟨Bn,0,none⟩=some (.int .u8 s):=hc
    obtain ⟨fn,tmps,assign,body,hy,hR⟩:=hY _ ((k:Int)+1) wr.drew hJd (listTo_lt s k 8 hlt HH.out) (by omega) (by omega)
    have hR':=hR.mono (R':=fun e W'=>∃ b:Bool,e = .returned (.bool b)∧Hid ((b=true∧J (qB2 s k++[(k:Int)+1]) W'∧qZ7 Bn wr.drew W')∨(b=false∧Jx (qB2 s k++[(k:Int)+1]) W'))) (by
     rintro e W' (⟨rfl,h⟩ | ⟨rfl,h⟩)
     ·exact ⟨true,rfl,.inl ⟨rfl,h⟩⟩
     ·exact ⟨false,rfl,.inr ⟨rfl,h⟩⟩)
    clear hR hY hJ hJd hJs h0
    gi_wp2
    gi_region_with (first | (gi_at_call 184;refine (callsIn_wide.2 (QW5 ((k:Int)+1) (by omega) (by omega) _)).mono ?_;rintro e w' ⟨rfl,rfl⟩) | (refine hR'.mono ?_;rintro e W3 ⟨b,rfl,HD⟩))
    all_goals
     rcases HD.out with ⟨rfl,hJ3,hk3⟩ | ⟨rfl,hJx3⟩
     ·have hc3:W3.cell? ⟨Bn,0,none⟩=some (.int .u8 s):=(World.cell?_of_block (a:=⟨Bn,0,none⟩) hk3).trans hcd
      gi_wp2
      go_roundw
      case rel=>exact ⟨k+1,by omega,by go_num,hc3,by rw [qV7 s k HH.out];exact hJ3⟩
      case measure=>simp [intOf];omega
     ·gi_wp2
      refine bodyPost_ret (results_none rfl _ _ _) rfl ?_
      exact ⟨⟨_,rfl⟩,.inr ⟨_,by have hp:=QR4 s (k+1) 8 (by omega);rw [qV7 s k HH.out] at hp;exact hp,hJx3⟩⟩
   | false =>
    have e2:(bits .and .u8 s (bitI ((k:Int)+1)) != 0)=false:=by rw [← hh];exact and_u8 s _ s0 s1 (by omega) (by omega)
    have HH:Hid (qJ0 s ((k:Int)+1)=false):=hh
    clear hh
    have HJ:Hid (∀ m,J (qB2 s (k+1)) (wr.drewN m)):=by rw [QM1 s k HH.out];exact fun m=>hJ _ wr (wr.drewN m) none hJs (grown_drewN wr m) (fun r e=>by cases e)
    clear hY hJ hJs h0
    gi_wp2
    gi_big_quiet_th ((gi_at_call 184;refine CallsIn.quiet_of_same ((callsIn_wide.2 (QW5 ((k:Int)+1) (by omega) (by omega) _)).mono (fun _ _ h=>⟨h.1,h.2.symm⟩))))
    gi_wp2
    go_roundw
    case rel=>exact ⟨k+1,by omega,by go_num,hc,HJ.out _⟩
    case measure=>simp [intOf];omega
  ·have hk8:k=8:=by omega
   subst hk8
   gi_wp2
   go_end0
   exact ⟨⟨_,rfl⟩,.inl ⟨_,rfl,hJs⟩⟩
theorem prin_in (n:Nat) (s:Int) (w:World) :
  CallsIn Fence.wide n Tryz.prog 163 #[.int .u8 s] w fun e w'=>e = .returned (.func (.func 183) #[] #[.pointer (some ⟨w.heap.size,0,none⟩)])∧w.alloc (.cells #[.int .u8 s] 220)=w':=by
 refine callsIn_of_wp Tryz.func163 rfl trivial ?_ rfl
 simp only [Tryz.ntmps163,List.size_toArray,List.length_cons,List.length_nil,Nat.reduceAdd,Nat.reduceSub,Array.replicate_succ,Array.replicate_zero,List.push_toArray,List.append_toArray,List.nil_append,List.cons_append]
 gi_wp2
 go_ret
 exact ⟨rfl,rfl⟩
theorem prin_stops (n:Nat) (hn:1≤n) (Bn:Nat) (s:Int) (s0:0≤s) (s1:s≤255) (w:World) (hBn:Bn < w.heap.size) (hc:w.cell? ⟨Bn,0,none⟩=some (.int .u8 s)) :
  SeqStopsK Fence.wide n Tryz.prog 183 #[.pointer (some ⟨Bn,0,none⟩)] (fun x:Int => #[Value.int .i64 x]) (qZ7 Bn) (fun ys=>ys=qB2 s 8) (fun pre=>pre <+: qB2 s 8) (qB2 s 8).length w:=fun l J Jx W hW hJ _ hY h0 =>
 prin1_in n hn l Bn W.heap.size s s0 s1 J Jx hJ (fun pre x W hj hl _ _=>hY pre x W hj hl) W ((hW.cell (p:=⟨Bn,0,none⟩) hBn).trans hc) h0
abbrev P8:={ x:Int // 1≤x∧x≤8 }
theorem QK3 (n:Nat) (hn:1≤n) (Bn:Nat) (s:Int) (s0:0≤s) (s1:s≤255) (w:World) (hBn:Bn < w.heap.size) (hc:w.cell? ⟨Bn,0,none⟩=some (.int .u8 s)) :
  SeqStopsK Fence.wide n Tryz.prog 183 #[.pointer (some ⟨Bn,0,none⟩)] (fun x:P8 => #[Value.int .i64 x.1]) (qZ7 Bn) (fun ys=>ys.map (·.1)=qB2 s 8) (fun pre=>pre.map (·.1) <+: qB2 s 8) (qB2 s 8).length w:=fun l J Jx W hW hJ _ hY h0=>by
 have hY':∀ (pre:List Int) (x:Int) (W1:World),(∃ p:List P8,p.map (·.1)=pre∧J p W1)→pre.length < (qB2 s 8).length→1≤x→x≤8→YieldAt Fence.wide (n - 1) Tryz.prog l #[.int .i64 x] W1 fun e W' =>
   (e = .returned (.bool true)∧(∃ p:List P8,p.map (·.1)=pre++[x]∧J p W')∧qZ7 Bn W1 W')∨(e = .returned (.bool false)∧(∃ p:List P8,p.map (·.1)=pre++[x]∧Jx p W')):=by
  rintro pre x W1 ⟨p,rfl,hj⟩ hl x1 x8
  obtain ⟨fn,tmps,assign,body,hy,hR⟩:=hY p ⟨x,x1,x8⟩ W1 hj (by simpa using hl)
  refine ⟨fn,tmps,assign,body,hy,hR.mono ?_⟩
  rintro e W' (⟨he,h1,h2⟩ | ⟨he,h1⟩)
  ·exact .inl ⟨he,⟨p++[⟨x,x1,x8⟩],by simp,h1⟩,h2⟩
  ·exact .inr ⟨he,⟨p++[⟨x,x1,x8⟩],by simp,h1⟩⟩
 refine (prin1_in n hn l Bn W.heap.size s s0 s1 (fun pre W1=>∃ p:List P8,p.map (·.1)=pre∧J p W1) (fun pre W1=>∃ p:List P8,p.map (·.1)=pre∧Jx p W1)
  (fun pre X Y row ⟨p,hp,hj⟩ hg hr=>⟨p,hp,hJ p X Y row hj hg hr⟩) hY' W ((hW.cell (p:=⟨Bn,0,none⟩) hBn).trans hc) ⟨[],rfl,h0⟩).mono ?_
 rintro e W' ⟨hv,⟨ys,rfl,p,hp,hj⟩ | ⟨pre,hpre,p,hp,hj⟩⟩
 ·exact ⟨hv,.inl ⟨p,hp,hj⟩⟩
 ·exact ⟨hv,.inr ⟨p,by show p.map (·.1) <+: qB2 s 8;rw [hp];exact hpre,hj⟩⟩
end

end Go.Proofs.YtlhgjackapdmbaaGreatDoor
