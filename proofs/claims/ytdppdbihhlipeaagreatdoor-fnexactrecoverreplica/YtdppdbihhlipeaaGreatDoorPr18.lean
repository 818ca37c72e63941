/- Contracts. -/
import Derived.Test.YtdppdbihhlipeaaGreatDoorPr16
import Derived.Test.YtdppdbihhlipeaaGreatDoorPr17
namespace Go.Proofs.YtdppdbihhlipeaaGreatDoor
set_option maxRecDepth 100000
set_option maxHeartbeats 8000000
open Go.RowKit
set_option linter.unusedVariables false
set_option linter.unusedSimpArgs false

def whC (zs:List Int):Int:=if 240 < zs.length then 2 else 0
def whV (zs:List Int):Int:=if 240 < zs.length then 0 else ((rdL zs).length:Int) * 6
theorem qAb (a:Option Addr) (n cap:Nat) (t:Bool) (w:World) (hn:n<=1048576) (ht:decide (240 < n)=t) :
  Calls Tryz.prog 44 #[.slice a n cap] w fun e w'=>e = .returned (.bool t)/\w=w':=by
 have hni:(n:Int)<=1048576:=by omega
 have HT:Hid (decide ((240:Int) < (n:Int))=t):=by show _=_;rw [<- ht];simp only [decide_eq_decide];omega
 clear ht;go_enter Tryz.func44,Tryz.ntmps44;go_wp2;go_ret;exact ⟨by rw [<- HT.out];rfl,rfl⟩
theorem qR3 (w:World) (x:StI) (t:TypeId):∀ j u,[Value.int .i64 x.k,.int .i64 x.e,.int .i64 x.f,.int .i64 x.s,.int .i64 x.n][j]? = some u->(w.alloc (.cells #[.int .i64 x.k,.int .i64 x.e,.int .i64 x.f,.int .i64 x.s,.int .i64 x.n] t)).cell? ((⟨w.heap.size,0,none⟩:Addr).add j)=some u:=by
 intro j u e;rw [Go.WideShapes.add_plain,Nat.zero_add];exact (qE6 w #[.int .i64 x.k,.int .i64 x.e,.int .i64 x.f,.int .i64 x.s,.int .i64 x.n] t).out j u e
theorem qHB (a:Option Addr) (n cap:Nat) (zs:List Int) (w:World) (hn:n<=240) (hc:n<=cap) (hcm:cap<=maxLen) (h:qC9 w a n zs) :
  Calls Tryz.prog 45 #[.slice a n cap] w fun e w'=>∃ a' c',e = .returned (.slice a' (rdL zs).length c')/\qB2 w' w.heap.size (.slice a' (rdL zs).length c') (rdL zs)/\Below w.heap.size w w':=by
 have HR:=qT1 h;have HL:Hid (zs.length=n):=h.1;have hnl:(n:Int)<=240:=by omega
 have hcl:(n:Int)<=(cap:Int):=by omega
 obtain ⟨xs,hxs⟩:∃ xs,rdL zs=xs:=⟨_,rfl⟩;have HXS:=qT1 hxs;rw [hxs];obtain ⟨N,hN⟩:∃ N,xs.length=N:=⟨_,rfl⟩;have HN:=qT1 hN;have hNn:N * 6<=n:=by have:=QC9 (zs:=zs);rw [hxs,hN,HL.out] at this;exact this
 obtain ⟨i0,hi,hz0,hz1,hz2⟩:=info_parts Tryz.info85;have hO0:Hid (qB2 (w.alloc (.cells #[] 85)) w.heap.size (.slice (some ⟨w.heap.size,0,none⟩) 0 0) []):=World.ownsRow_lit (base:=w.heap.size) (e:=85) (size:=5) w #[] 0 (Nat.le_refl _) (by unfold maxLen;omega) rfl;clear h hxs hN;go_enter Tryz.func45,Tryz.ntmps45;go_wp2_with fail
 go_loopw [3,4] (fun v i wr=>∃ k:Nat,k<=N/\i = .int .i64 ((k:Int) * 6)/\Hid (∃ g c,v = .slice (some ⟨g,0,none⟩) k c/\qB2 wr w.heap.size (.slice (some ⟨g,0,none⟩) k c) (xs.take k))/\Below w.heap.size w wr) (fun _ i _=>240 - (intOf i).toNat)
 case atStart=>exact ⟨0,Nat.zero_le _,rfl,⟨_,_,rfl,hO0.out⟩,zN⟩
 case round =>
  clear hO0;obtain ⟨k,hk,rfl,HO,hbw⟩:=hrel;have hw6:IntKind.i64.wrap ((k:Int) * 6+6)=(k:Int) * 6+6:=by rw [IntKind.wrap_i64];omega
  obtain ⟨g,c,rfl,hO⟩:=HO.out;have HO2:=qT1 hO;have BW:=qT1 hbw;clear hO HO;by_cases hfit:(k:Int) * 6+6<=(n:Int)
  ·have hk0:(0:Int)<=(k:Int) * 6:=by omega
   have hk1:(k:Int) * 6<=(k:Int) * 6+6:=by omega
   have hk2:(k:Int) * 6+6<=(cap:Int):=by omega
   obtain ⟨b,off,rfl,hcc⟩:=HR.out.2 (by omega);have h1:((k:Int) * 6).toNat=k * 6:=by omega
   have h2:((k:Int) * 6+6).toNat=k * 6+6:=by omega
   have h3:¬ cap=k * 6:=by omega
   have h4:k * 6+6 - k * 6=6:=by omega
   have PI:Hid (qC9 wr (some ⟨b,off+k * 6,none⟩) 6 (qD8 zs k)):=by
    refine qC9.below (w:=w) ⟨QD3 (by rw [HL.out];omega),fun _=>⟨b,off+k * 6,rfl,fun j x e=>?_⟩⟩ hbw
    have hj:j < 6:=by
     by_cases q:j < 6
     ·exact q
     ·rw [List.getElem?_eq_none (by rw [QD3 (by rw [HL.out];omega)];omega)] at e;cases e
    rw [QD4 hj] at e;rw [Nat.add_assoc];exact hcc _ x e
   obtain ⟨x,hG,hGx⟩:=qEv (some ⟨b,off+k * 6,none⟩) 6 (cap - k * 6) (qD8 zs k) wr PI.out;obtain ⟨t,ht⟩:∃ t,(QE8 (qD8 zs k)).isSome=t:=⟨_,rfl⟩;rw [ht] at hG hGx;have HT:=qT1 ht;have HGX:=qT1 hGx;unfold QH4 at hG;have HG:=qT1 hG;clear hG hGx ht PI hcc hbw;go_wp2_with fail
   refine HG.out.mono ?_;rintro e w1 ⟨rfl,hb1⟩;have O1:=qT1 (HO2.out.below hb1);have B1:=qT1 (BW.out.trans (hb1.mono BW.out.size));clear hb1 HG HO2;cases t
   ·have hkN:k=N:=by
     by_cases q:k < N
     ·have e:=QF3 (zs:=zs) (k:=k) (List.getElem?_eq_getElem (by rw [HXS.out,HN.out];exact q));have ht:=HT.out;rw [e] at ht;cases ht
     ·omega
    subst hkN;have HTK:Hid (xs.take k=xs):=by show _=_;rw [<- HN.out];exact List.take_length
    go_wp2_with fail
    go_ret;refine ⟨some ⟨g,0,none⟩,c,?_,?_,B1.out.alloc B1.out.size _⟩
    ·rw [HN.out];rfl
    ·have q:=O1.out.alloc (.cells #[.int .i64 x.k,.int .i64 x.e,.int .i64 x.f,.int .i64 x.s,.int .i64 x.n] 85);rw [HTK.out] at q;rw [HN.out];exact q
   ·have hkN:k < N:=by
     by_cases q:k < N
     ·exact q
     ·have e:=qGF zs;rw [HXS.out,HN.out,show N=k by omega] at e;have ht:=HT.out;rw [e] at ht;cases ht
    have HXK:Hid (xs[k]? = some x):=by
     have e:=QF3 (zs:=zs) (k:=k) (List.getElem?_eq_getElem (by rw [HXS.out,HN.out];exact hkN));have hx:=HGX.out rfl;unfold qW9 at hx;rw [e] at hx;show xs[k]? = some x
     have q:(rdL zs)[k]? = some x:=by rw [List.getElem?_eq_getElem (by rw [HXS.out,HN.out];exact hkN),hx];rfl
     rw [HXS.out] at q;exact q
    have HTN:Hid (xs.take (k+1)=xs.take k++[x]):=by show _=_;rw [List.take_add_one,HXK.out];rfl
    have HLK:Hid ((xs.take k).length=k):=by show _=_;rw [List.length_take,HN.out];omega
    obtain ⟨Z,hZ⟩:∃ Z,Z=w1.alloc (.cells #[.int .i64 x.k,.int .i64 x.e,.int .i64 x.f,.int .i64 x.s,.int .i64 x.n] 85):=⟨_,rfl⟩;have OZ:Hid (qB2 Z w.heap.size (.slice (some ⟨g,0,none⟩) k c) (xs.take k)):=by rw [hZ];exact O1.out.alloc _
    have BZ:Hid (Below w.heap.size w Z):=by rw [hZ];exact B1.out.alloc B1.out.size _
    have XZ:Hid (qX3 w1.heap.size (w1.heap.size+1) (qV9 w1.heap.size [.int .i64 x.k,.int .i64 x.e,.int .i64 x.f,.int .i64 x.s,.int .i64 x.n]) Z):=by rw [hZ];exact qE6 w1 #[.int .i64 x.k,.int .i64 x.e,.int .i64 x.f,.int .i64 x.s,.int .i64 x.n] 85
    go_upto_region 6 with fail
    rw [<- hZ];clear hZ O1 B1;generalize w1.heap.size=bz at XZ ⊢
    have y0:=XZ.out.out 0 _ rfl;have y1:=XZ.out.out 1 _ rfl;have y2:=XZ.out.out 2 _ rfl;have y3:=XZ.out.out 3 _ rfl;have y4:=XZ.out.out 4 _ rfl;have hzl:bz < Z.heap.size:=XZ.out.le
    have OW:Hid ((Z.alloc (.cells #[.int .i64 x.k,.int .i64 x.e,.int .i64 x.f,.int .i64 x.s,.int .i64 x.n] 85)).ownsRow w.heap.size 85 5 (.slice (some ⟨g,0,none⟩) k c) k (qC3 (xs.take k))):=by
     have q:=OZ.out.alloc (.cells #[.int .i64 x.k,.int .i64 x.e,.int .i64 x.f,.int .i64 x.s,.int .i64 x.n] 85);unfold qB2 at q;rw [HLK.out] at q;exact q
    go_wp2_with (at_builtin;refine wpList_append_own _ rfl _ _ 33 rfl w.heap.size 85 i0 (.agg #[.int .i64 0,.int .i64 0,.int .i64 0,.int .i64 0,.int .i64 0]) 5 40 Tryz.underlying33 hi hz0 hz1 hz2 rfl (by decide) (.slice (some ⟨g,0,none⟩) k c) k (qC3 (xs.take k)) rfl OW.out ⟨Z.heap.size,0,none⟩ 1 1 [.int .i64 x.k,.int .i64 x.e,.int .i64 x.f,.int .i64 x.s,.int .i64 x.n] rfl rfl (qR3 Z x _) (by simp [Value.oneCell']) (by unfold maxLen;omega) (by omega) (by have:=BZ.out.size;simp;omega) ?_)
    intro v5 w5 how5 hgr5 hnil5
    have H5:Hid (qB2 w5 w.heap.size v5 (xs.take (k+1))):=by
     rw [HTN.out];refine QF5 ?_;rw [HLK.out];exact how5
    have B5:Hid (Below w.heap.size w w5):=(BZ.out.alloc BZ.out.size _).grown hgr5 (by have:=BZ.out.size;simp;omega) (fun q e=>(OW.out.lt q e).1)
    obtain ⟨g5,c5,hv5⟩:∃ g c,v5 = .slice (some ⟨g,0,none⟩) (k+1) c:=by
     have hne:v5 ≠ .slice none 0 0:=fun e=>hnil5 e
     obtain ⟨g',c',e⟩:=qB2.shape H5.out hne;rw [HTN.out,List.length_append,HLK.out] at e;exact ⟨g',c',e⟩
    subst hv5;clear how5 hgr5 hnil5 y0 y1 y2 y3 y4 hzl;go_wp2_with fail
    exact ⟨⟨k+1,hkN,by congr 1;push_cast;omega,⟨g5,c5,rfl,H5.out⟩,B5.out⟩,by simp [intOf];omega⟩
  ·have hkN:k=N:=by
    by_cases q:k < N
    ·have:=qBi (zs:=zs) (k:=k) (by rw [HXS.out,HN.out];exact q);rw [HL.out] at this;omega
    ·omega
   subst hkN;have HTK:Hid (xs.take k=xs):=by show _=_;rw [<- HN.out];exact List.take_length
   go_wp2_with fail
   go_ret;refine ⟨some ⟨g,0,none⟩,c,?_,?_,BW.out⟩
   ·rw [HN.out];rfl
   ·have q:=HO2.out;rw [HTK.out] at q;rw [HN.out];exact q

theorem qGR (w1:World) (cT:Array Value) (zs:List Int) (h:zs.length=240) (hc:(vI zs).toArray=cT):(∀ W:World,(zeroValue 114).run Tryz.prog W = .ok (.agg (vI qF0).toArray) W)/\(storeCells ⟨w1.heap.size,0,none⟩ cT.toList 0).run Tryz.prog (w1.alloc (.cells (vI qF0).toArray 114)) = .ok () (w1.alloc (.cells cT 114))/\QA3 (w1.alloc (.cells cT 114)) w1.heap.size zs:=by
 refine ⟨qBl,?_,?_⟩
 ·rw [<- hc];exact run_storeCells_new w1 114 (vI qF0).toArray (vI zs).toArray (by rw [qJ8 h];exact qGP) (by rw [qJ8 h,qJ8 (zs:=qF0) rfl]) (Array.all_eq_true_iff_forall_mem.2 (fun v hv=>qDD zs v (by simpa using hv)))
 ·rw [<- hc];exact qGQ w1 zs h

section
open Go.RowKit Go.Shelf
attribute [local go_sem] Oper.semAt_some
set_option linter.unusedVariables false
set_option linter.unusedSimpArgs false
theorem QI5 (k:FuncId):Fence.wide.fn k=True:=eq_true trivial
attribute [local go_sem] QI5
attribute [local simp] QI5
def KB2 (Bs Bn:Nat) (W W':World):Prop:=W'.heap[Bs]? = W.heap[Bs]? /\ W'.heap[Bn]? = W.heap[Bn]?
theorem qAo (W:World) (m:Nat):W.grownBy (W.drewN m) none:=⟨rfl,rfl,rfl,Nat.le_refl _,fun _ _ _=>rfl⟩
theorem QL1 (k:Nat):List.range (k+1)=List.range k++[k]:=List.range_succ
theorem qEY {k N:Nat} (h:k<=N):List.range k <+: List.range N:=by
 obtain ⟨d,rfl⟩:∃ d,N=k+d:=⟨N - k,by omega⟩;rw [List.range_add];exact List.prefix_append _ _
theorem qHd (n:Nat) (hn:1<=n) (l Bs Bn g B N:Nat) (hN:N<=40) (J Jx:List Nat->World->Prop) (hJ:AbidesFrom B J)
  (hY:∀ pre x W,J pre W->pre.length < N->x < 40->YieldAt Fence.wide (n - 1) Tryz.prog l #[.slice (some ⟨g,x * 6,none⟩) 6 6] W fun e W' =>
   (e = .returned (.bool true)/\J (pre++[x]) W'/\KB2 Bs Bn W W')\/(e = .returned (.bool false)/\Jx (pre++[x]) W'))
  (W:World) (hs:W.cell? ⟨Bs,0,none⟩=some (.slice (some ⟨g,0,none⟩) (N * 6) 240)) (h6:W.cell? ⟨Bn,0,none⟩=some (.int .i64 6)) (h0:J [] W) :
  CallsIn Fence.wide n Tryz.prog 134 #[.func (.yield l) #[] #[],.pointer (some ⟨Bs,0,none⟩),.pointer (some ⟨Bn,0,none⟩)] W fun e W'=>(∃ v,e = .returned v) /\
   ((∃ ys,ys=List.range N/\J ys W')\/(∃ pre,pre <+: List.range N/\Jx pre W')):=by
 obtain ⟨M,hM⟩:∃ M,N * 6=M:=⟨_,rfl⟩;rw [hM] at hs;have HM:=qT1 hM;have hMn:(M:Int)<=240:=by omega
 clear hM;refine callsIn_of_wp Tryz.func134 rfl trivial ?_ rfl;simp only [Tryz.ntmps134,List.size_toArray,List.length_cons,List.length_nil,Nat.reduceAdd,Nat.reduceSub,Array.replicate_succ,Array.replicate_zero,List.push_toArray,List.append_toArray,List.nil_append,List.cons_append];gi_wp2
 gi_loopw [4] (fun p wr=>∃ (k:Nat),k<=N/\p = .int .i64 ((k:Int) * 6)/\wr.cell? ⟨Bs,0,none⟩=some (.slice (some ⟨g,0,none⟩) M 240)/\wr.cell? ⟨Bn,0,none⟩=some (.int .i64 6)/\J (List.range k) wr)
  (fun p _=>240 - (intOf p).toNat)
 case atStart=>exact ⟨0,Nat.zero_le _,rfl,hs,h6,h0⟩
 case round =>
  obtain ⟨k,hk,rfl,hcs,hc6,hJs⟩:=hrel;by_cases hlt:k < N
  ·have hM6:M=N * 6:=HM.out.symm;have hlt':(k:Int) * 6 < (M:Int):=by omega
   have hk0:(0:Int)<=(k:Int) * 6:=by omega
   have hkl:(k:Int) * 6<=(M:Int):=by omega
   have hkN:((k:Int) * 6).toNat=k * 6:=by omega
   have hk1:((k:Int) * 6+6).toNat=k * 6+6:=by omega
   have hne:¬ (240=k * 6):=by omega
   have hne2:¬ (k * 6+6=k * 6):=by omega
   have hmin:min (6:Int) ((M - k * 6:Nat):Int)=6:=by omega
   have HMI:=qT1 hmin;have hw6:IntKind.i64.wrap ((k:Int) * 6+6)=(k:Int) * 6+6:=by rw [IntKind.wrap_i64];omega
   have hq1:(k:Int) * 6<=(k:Int) * 6+6:=by omega
   have hq2:(k:Int) * 6+6<=(k:Int) * 6+6:=by omega
   have hq3:(k:Int) * 6+6<=240:=by omega
   clear hM6 hmin;gi_wp2
   gi_big_quiet_th (fail)
   rw [HMI.out];have hJd:=hJ _ wr (wr.drewN nq) none hJs (qAo wr nq) (fun r e=>by cases e);have hcsd:(wr.drewN nq).cell? ⟨Bs,0,none⟩=some (.slice (some ⟨g,0,none⟩) M 240):=hcs;have hc6d:(wr.drewN nq).cell? ⟨Bn,0,none⟩=some (.int .i64 6):=hc6;obtain ⟨fn,tmps,assign,body,hy,hR⟩:=hY _ k (wr.drewN nq) hJd (by rw [List.length_range];exact hlt) (by omega)
   have hR':=hR.mono (R':=fun e W'=>∃ b:Bool,e = .returned (.bool b)/\Hid ((b=true/\J (List.range k++[k]) W'/\KB2 Bs Bn (wr.drewN nq) W')\/(b=false/\Jx (List.range k++[k]) W'))) (by
    rintro e W' (⟨rfl,h⟩ | ⟨rfl,h⟩)
    ·exact ⟨true,rfl,.inl ⟨rfl,h⟩⟩
    ·exact ⟨false,rfl,.inr ⟨rfl,h⟩⟩)
   clear hR hY hJ hJd hJs h0;have hlt40:k * 6+6<=240:=by omega
   have hs6:k * 6+6 - k * 6=6:=by omega
   gi_wp2_with (fail)
   refine hR'.mono ?_;rintro e W3 ⟨b,rfl,HD⟩;rcases HD.out with ⟨rfl,hJ3,hk3⟩ | ⟨rfl,hJx3⟩
   ·have hc3:W3.cell? ⟨Bs,0,none⟩=some (.slice (some ⟨g,0,none⟩) M 240):=(World.cell?_of_block (a:=⟨Bs,0,none⟩) hk3.1).trans hcsd;have hc4:W3.cell? ⟨Bn,0,none⟩=some (.int .i64 6):=(World.cell?_of_block (a:=⟨Bn,0,none⟩) hk3.2).trans hc6d;gi_wp2
    go_roundw
    case rel=>exact ⟨k+1,hlt,by congr 1;push_cast;omega,hc3,hc4,by rw [QL1];exact hJ3⟩
    case measure=>simp [intOf];omega
   ·gi_wp2
    refine bodyPost_ret (results_none rfl _ _ _) rfl ?_;exact ⟨⟨_,rfl⟩,.inr ⟨_,by rw [<- QL1];exact qEY hlt,hJx3⟩⟩
  ·have hkN:k=N:=by omega
   subst hkN;have hlt':¬ ((k:Int) * 6 < (M:Int)):=by have:=HM.out;omega
   gi_wp2
   go_end0
   first | exact ⟨⟨_,rfl⟩,.inl ⟨_,rfl,hJs⟩⟩ | exact ⟨⟨_,rfl⟩,.inl hJs⟩
theorem qZ9 (n:Nat) (a:Option Addr) (m cap:Nat) (w:World) :
  CallsIn Fence.wide n Tryz.prog 104 #[.slice a m cap,.int .i64 6] w fun e w'=>e = .returned (.func (.func 134) #[] #[.pointer (some ⟨w.heap.size,0,none⟩),.pointer (some ⟨w.heap.size+1,0,none⟩)])/\(w.alloc (.cells #[.slice a m cap] 29)).alloc (.cells #[.int .i64 6] 3)=w':=by
 refine callsIn_of_wp Tryz.func104 rfl trivial ?_ rfl;simp only [Tryz.ntmps104,List.size_toArray,List.length_cons,List.length_nil,Nat.reduceAdd,Nat.reduceSub,Array.replicate_succ,Array.replicate_zero,List.push_toArray,List.append_toArray,List.nil_append,List.cons_append];gi_wp2
 go_ret;exact ⟨rfl,rfl⟩
abbrev P40:={ x:Nat // x < 40 }
theorem qCo (n:Nat) (hn:1<=n) (Bs Bn g N:Nat) (hN:N<=40) (w:World) (hBs:Bs < w.heap.size) (hBn:Bn < w.heap.size) (hs:w.cell? ⟨Bs,0,none⟩=some (.slice (some ⟨g,0,none⟩) (N * 6) 240)) (h6:w.cell? ⟨Bn,0,none⟩=some (.int .i64 6)) :
  SeqStopsK Fence.wide n Tryz.prog 134 #[.pointer (some ⟨Bs,0,none⟩),.pointer (some ⟨Bn,0,none⟩)] (fun x:P40 => #[Value.slice (some ⟨g,x.1 * 6,none⟩) 6 6]) (KB2 Bs Bn) (fun ys=>ys.map (·.1)=List.range N) (fun pre=>pre.map (·.1) <+: List.range N) N w:=fun l J Jx W hW hJ _ hY h0=>by
 have hY':∀ (pre:List Nat) (x:Nat) (W1:World),(∃ p:List P40,p.map (·.1)=pre/\J p W1)->pre.length < N->x < 40->YieldAt Fence.wide (n - 1) Tryz.prog l #[.slice (some ⟨g,x * 6,none⟩) 6 6] W1 fun e W' =>
   (e = .returned (.bool true)/\(∃ p:List P40,p.map (·.1)=pre++[x]/\J p W')/\KB2 Bs Bn W1 W')\/(e = .returned (.bool false)/\(∃ p:List P40,p.map (·.1)=pre++[x]/\Jx p W')):=by
  rintro pre x W1 ⟨p,rfl,hj⟩ hl x40;obtain ⟨fn,tmps,assign,body,hy,hR⟩:=hY p ⟨x,x40⟩ W1 hj (by simpa using hl);refine ⟨fn,tmps,assign,body,hy,hR.mono ?_⟩;rintro e W' (⟨he,h1,h2⟩ | ⟨he,h1⟩)
  ·exact .inl ⟨he,⟨p++[⟨x,x40⟩],by simp,h1⟩,h2⟩
  ·exact .inr ⟨he,⟨p++[⟨x,x40⟩],by simp,h1⟩⟩
 refine (qHd n hn l Bs Bn g W.heap.size N hN (fun pre W1=>∃ p:List P40,p.map (·.1)=pre/\J p W1) (fun pre W1=>∃ p:List P40,p.map (·.1)=pre/\Jx p W1)
  (fun pre X Y row ⟨p,hp,hj⟩ hg hr=>⟨p,hp,hJ p X Y row hj hg hr⟩) hY' W ((hW.cell (p:=⟨Bs,0,none⟩) hBs).trans hs) ((hW.cell (p:=⟨Bn,0,none⟩) hBn).trans h6) ⟨[],rfl,h0⟩).mono ?_
 rintro e W' ⟨hv,⟨ys,rfl,p,hp,hj⟩ | ⟨pre,hpre,p,hp,hj⟩⟩
 ·exact ⟨hv,.inl ⟨p,hp,hj⟩⟩
 ·exact ⟨hv,.inr ⟨p,by show p.map (·.1) <+: List.range N;rw [hp];exact hpre,hj⟩⟩
end

section
open Go.RowKit Go.Shelf
attribute [local go_sem] Oper.semAt_some
attribute [local go_sem] QI5
attribute [local simp] QI5
set_option linter.unusedVariables false
set_option linter.unusedSimpArgs false
theorem qL6 {F:Fence} {n:Nat} {P:Program} {w:World} {ops:Array Oper} {o:Oper} {a:Act} {K:Act->World->Prop} {Q:Exit->Act->World->Prop} {E:Prop}
  (hg:o.guard=none) (s x:Operand) (t:TypeId) (hop:o.op=Op.call { callee:=Callee.builtin Builtin.append,args:=#[s,x],argTypes:=#[t,t] })
  (base:Nat) (e:TypeId) (i:TypeInfo) (z:Value) (size bytes:Nat) (h1:P.underlying t=some (.slice e)) (h2:P.info? e=some i) (h3:i.zero=some z) (h4:i.size=size) (h5:i.bytes=bytes) (h6:z.cells.size=size) (h7:0 < size)
  (v:Value) (k:Nat) (xs:List Value) (hs:a.eval s=v) (hown:w.ownsRow base e size v k xs) (ad:Addr) (m c:Nat) (news:List Value) (hx:a.eval x = .slice (some ad) m c) (hn:news.length=m * size)
  (hc:∀ j u,news[j]? = some u->w.cell? (ad.add j)=some u) (h1c:∀ u∈news,u.oneCell'=true) (b1:k+m<=maxLen) (b2:(k+m) * bytes<=140737488355328) (b3:base<=w.heap.size)
  (hK:∀ v' w',w'.ownsRow base e size v' (k+m) (xs++news)->w.grownBy w' v.ownBlock->K (a.put o.dst v') w') :
  if Region.wanted o (yielded ops a.tmps)=true then Oper.wpIn F n P o a w K Q else E:=by
 have hw:Region.wanted o (yielded ops a.tmps)=true:=by simp [Region.wanted,hg]
 rw [if_pos hw];obtain ⟨v',w',hrun,r1,r2,r3⟩:=run_append_own (P:=P) w base t o.type e i z size bytes h1 h2 h3 h4 h5 h6 h7 v k xs hown ad m c news hn hc h1c b1 b2 b3;unfold Oper.wpIn;refine ⟨?_,?_⟩
 ·simp [Oper.about,hop,resolve,Target.leads,Sem.run_pure]
 ·rw [Oper.semAt_plain F _ _ (by rw [hop];intro c hc';cases hc')];simp [execOp,hop,resolve,invoke,builtin,hs,hx,hrun,Result.andThen];exact hK v' w' r1 r2
theorem Tryz.fldT169 (c a0 a1 a2 a3 a4:Int) (w:World):(Instr.field 169 (.agg #[.int .i64 c,.int .i64 a0,.int .i64 a1,.int .i64 a2,.int .i64 a3,.int .i64 a4]) 1).run Tryz.prog w = .ok (.agg #[.int .i64 a0,.int .i64 a1,.int .i64 a2,.int .i64 a3,.int .i64 a4]) w:=by kernel_rfl
attribute [local go_sem] Tryz.fldT169
theorem qLj (n:Nat) (hn:3<=n) (g N:Nat) (zs:List Int) (w:World) (h:QA3 w g zs) (he:qHr zs N) (hE:qG2 0 w) :
  CallsIn Fence.wide n Tryz.prog 79 #[.pointer (some ⟨g,0,none⟩)] w fun e W'=>∃ a cap,e = .returned (.slice a N cap)/\W'.ownsRow w.heap.size 85 5 (.slice a N cap) N (qC3 ((List.range N).map (fun k=>qW9 (qD8 zs k))))/\Below w.heap.size w W':=by
 have h1:1<=n:=by omega
 have hN:N<=40:=he.1;have HP:=qT1 h;have HEr:=qT1 hE;obtain ⟨M,hM⟩:∃ M,N * 6=M:=⟨_,rfl⟩;have hM2:M<=240:=by omega
 have HEN:Hid (∀ W:World,Below w.heap.size w W->Calls Tryz.prog 94 #[.pointer (some ⟨g,0,none⟩)] W fun e w'=>e = .returned (.int .i64 (M:Int))/\W=w'):=fun W hW=>by
  have q:=qGW g N zs W (h.below hW) he;rw [hM] at q;exact q
 have hsl:=qAL g M hM2;have HM:=qT1 hM;have hgl:g < w.heap.size:=h.lt;have hmx:Tryz.prog.follows .mixedOrders=true:=by kernel_rfl
 obtain ⟨i0,hi,hz0,hz1,hz2⟩:=info_parts Tryz.info85;clear h he hE hM;refine callsIn_of_wp_marks Tryz.func79 rfl trivial ?_ rfl;simp only [Tryz.ntmps79,List.size_toArray,List.length_cons,List.length_nil,Nat.reduceAdd,Nat.reduceSub,Array.replicate_succ,Array.replicate_zero,List.push_toArray,List.append_toArray,List.nil_append,List.cons_append];gi_wp2_with (fail)
 refine Code.wpIn_mono (Q:=fun e a' w'=>e = .normal/\a' = { tmps:=#[.pointer (some ⟨g,0,none⟩),undef,.slice none 0 0,.pointer (some ⟨w.heap.size,0,none⟩),undef,.pointer (some ⟨g,0,none⟩),.pointer (some ⟨g,0,none⟩),.pointer (some ⟨g,0,none⟩),.int .i64 (M:Int),.slice (some ⟨g,0,none⟩) M 240,.func (.func 134) #[] #[.pointer (some ⟨w.heap.size+1,0,none⟩),.pointer (some ⟨w.heap.size+1+1,0,none⟩)],undef,undef,undef,undef,undef,undef,undef,undef],defers:=[] }/\w'=(((w.alloc (.cells #[.slice none 0 0] 33)).alloc (.cells #[.slice (some ⟨g,0,none⟩) M 240] 29)).alloc (.cells #[.int .i64 6] 3)).drew) ?_ ?_;rotate_left 1
 ·refine wpIn_region_any hmx ?_;change wpAnyIn _ _ _ _ _ _ _ _ _ (World.drew _)
  refine wpAnyIn_ready (rs:=[0,2]) (by decide +kernel) (by simp) (AllReadyIn.cons rfl (fun K hK=>?_) (AllReadyIn.cons rfl (fun K hK=>?_) AllReadyIn.nil))
  ·go_simp;refine hK _ _ ?_;clear hK K;refine wpAnyIn_ready (rs:=[1,2]) (by decide +kernel) (by simp) (AllReadyIn.cons rfl (fun K hK=>?_) (AllReadyIn.cons rfl (fun K hK=>?_) AllReadyIn.nil))
   ·go_simp;refine hK _ _ ?_;clear hK K;refine wpAnyIn_ready (rs:=[2]) (by decide +kernel) (by simp) (AllReadyIn.cons rfl (fun K hK=>?_) AllReadyIn.nil);go_simp;refine hK _ _ ?_;clear hK K;refine wpAnyIn_ready (rs:=[3]) (by decide +kernel) (by simp) (AllReadyIn.cons rfl (fun K hK=>?_) AllReadyIn.nil);go_simp;refine (callsIn_wide.2 (HEN.out _ (zN).drew)).mono ?_;rintro e w' ⟨rfl,rfl⟩;refine hK _ _ ?_;clear hK K;refine wpAnyIn_ready (rs:=[4]) (by decide +kernel) (by simp) (AllReadyIn.cons rfl (fun K hK=>?_) AllReadyIn.nil);go_simp;refine hK _ _ ?_;clear hK K;refine wpAnyIn_ready (rs:=[5]) (by decide +kernel) (by simp) (AllReadyIn.cons rfl (fun K hK=>?_) AllReadyIn.nil);go_simp;refine (qZ9 _ _ _ _ _).mono ?_;rintro e w' ⟨rfl,rfl⟩;refine hK _ _ ?_;clear hK K;refine wpAnyIn_done (by decide +kernel) ?_ _;refine ⟨rfl,?_,by first | rfl | simp⟩;simp
   ·go_simp;refine hK _ _ ?_;clear hK K;refine wpAnyIn_ready (rs:=[1,3]) (by decide +kernel) (by simp) (AllReadyIn.cons rfl (fun K hK=>?_) (AllReadyIn.cons rfl (fun K hK=>?_) AllReadyIn.nil))
    ·go_simp;refine hK _ _ ?_;clear hK K;refine wpAnyIn_ready (rs:=[3]) (by decide +kernel) (by simp) (AllReadyIn.cons rfl (fun K hK=>?_) AllReadyIn.nil);go_simp;refine (callsIn_wide.2 (HEN.out _ (zN).drew)).mono ?_;rintro e w' ⟨rfl,rfl⟩;refine hK _ _ ?_;clear hK K;refine wpAnyIn_ready (rs:=[4]) (by decide +kernel) (by simp) (AllReadyIn.cons rfl (fun K hK=>?_) AllReadyIn.nil);go_simp;refine hK _ _ ?_;clear hK K;refine wpAnyIn_ready (rs:=[5]) (by decide +kernel) (by simp) (AllReadyIn.cons rfl (fun K hK=>?_) AllReadyIn.nil);go_simp;refine (qZ9 _ _ _ _ _).mono ?_;rintro e w' ⟨rfl,rfl⟩;refine hK _ _ ?_;clear hK K;refine wpAnyIn_done (by decide +kernel) ?_ _;refine ⟨rfl,?_,by first | rfl | simp⟩;simp
    ·go_simp;refine (callsIn_wide.2 (HEN.out _ (zN).drew)).mono ?_;rintro e w' ⟨rfl,rfl⟩;refine hK _ _ ?_;clear hK K;refine wpAnyIn_ready (rs:=[1]) (by decide +kernel) (by simp) (AllReadyIn.cons rfl (fun K hK=>?_) AllReadyIn.nil);go_simp;refine hK _ _ ?_;clear hK K;refine wpAnyIn_ready (rs:=[4]) (by decide +kernel) (by simp) (AllReadyIn.cons rfl (fun K hK=>?_) AllReadyIn.nil);go_simp;refine hK _ _ ?_;clear hK K;refine wpAnyIn_ready (rs:=[5]) (by decide +kernel) (by simp) (AllReadyIn.cons rfl (fun K hK=>?_) AllReadyIn.nil);go_simp;refine (qZ9 _ _ _ _ _).mono ?_;rintro e w' ⟨rfl,rfl⟩;refine hK _ _ ?_;clear hK K;refine wpAnyIn_done (by decide +kernel) ?_ _;refine ⟨rfl,?_,by first | rfl | simp⟩;simp
  ·go_simp;refine hK _ _ ?_;clear hK K;refine wpAnyIn_ready (rs:=[0,3]) (by decide +kernel) (by simp) (AllReadyIn.cons rfl (fun K hK=>?_) (AllReadyIn.cons rfl (fun K hK=>?_) AllReadyIn.nil))
   ·go_simp;refine hK _ _ ?_;clear hK K;refine wpAnyIn_ready (rs:=[1,3]) (by decide +kernel) (by simp) (AllReadyIn.cons rfl (fun K hK=>?_) (AllReadyIn.cons rfl (fun K hK=>?_) AllReadyIn.nil))
    ·go_simp;refine hK _ _ ?_;clear hK K;refine wpAnyIn_ready (rs:=[3]) (by decide +kernel) (by simp) (AllReadyIn.cons rfl (fun K hK=>?_) AllReadyIn.nil);go_simp;refine (callsIn_wide.2 (HEN.out _ (zN).drew)).mono ?_;rintro e w' ⟨rfl,rfl⟩;refine hK _ _ ?_;clear hK K;refine wpAnyIn_ready (rs:=[4]) (by decide +kernel) (by simp) (AllReadyIn.cons rfl (fun K hK=>?_) AllReadyIn.nil);go_simp;refine hK _ _ ?_;clear hK K;refine wpAnyIn_ready (rs:=[5]) (by decide +kernel) (by simp) (AllReadyIn.cons rfl (fun K hK=>?_) AllReadyIn.nil);go_simp;refine (qZ9 _ _ _ _ _).mono ?_;rintro e w' ⟨rfl,rfl⟩;refine hK _ _ ?_;clear hK K;refine wpAnyIn_done (by decide +kernel) ?_ _;refine ⟨rfl,?_,by first | rfl | simp⟩;simp
    ·go_simp;refine (callsIn_wide.2 (HEN.out _ (zN).drew)).mono ?_;rintro e w' ⟨rfl,rfl⟩;refine hK _ _ ?_;clear hK K;refine wpAnyIn_ready (rs:=[1]) (by decide +kernel) (by simp) (AllReadyIn.cons rfl (fun K hK=>?_) AllReadyIn.nil);go_simp;refine hK _ _ ?_;clear hK K;refine wpAnyIn_ready (rs:=[4]) (by decide +kernel) (by simp) (AllReadyIn.cons rfl (fun K hK=>?_) AllReadyIn.nil);go_simp;refine hK _ _ ?_;clear hK K;refine wpAnyIn_ready (rs:=[5]) (by decide +kernel) (by simp) (AllReadyIn.cons rfl (fun K hK=>?_) AllReadyIn.nil);go_simp;refine (qZ9 _ _ _ _ _).mono ?_;rintro e w' ⟨rfl,rfl⟩;refine hK _ _ ?_;clear hK K;refine wpAnyIn_done (by decide +kernel) ?_ _;refine ⟨rfl,?_,by first | rfl | simp⟩;simp
   ·go_simp;refine (callsIn_wide.2 (HEN.out _ (zN).drew)).mono ?_;rintro e w' ⟨rfl,rfl⟩;refine hK _ _ ?_;clear hK K;refine wpAnyIn_ready (rs:=[0]) (by decide +kernel) (by simp) (AllReadyIn.cons rfl (fun K hK=>?_) AllReadyIn.nil);go_simp;refine hK _ _ ?_;clear hK K;refine wpAnyIn_ready (rs:=[1]) (by decide +kernel) (by simp) (AllReadyIn.cons rfl (fun K hK=>?_) AllReadyIn.nil);go_simp;refine hK _ _ ?_;clear hK K;refine wpAnyIn_ready (rs:=[4]) (by decide +kernel) (by simp) (AllReadyIn.cons rfl (fun K hK=>?_) AllReadyIn.nil);go_simp;refine hK _ _ ?_;clear hK K;refine wpAnyIn_ready (rs:=[5]) (by decide +kernel) (by simp) (AllReadyIn.cons rfl (fun K hK=>?_) AllReadyIn.nil);go_simp;refine (qZ9 _ _ _ _ _).mono ?_;rintro e w' ⟨rfl,rfl⟩;refine hK _ _ ?_;clear hK K;refine wpAnyIn_done (by decide +kernel) ?_ _;refine ⟨rfl,?_,by first | rfl | simp⟩;simp
 rintro e a' w' ⟨rfl,rfl,rfl⟩;clear HEN hsl;have bL:Boxed (((w.alloc (.cells #[.slice none 0 0] 33)).alloc (.cells #[.slice (some ⟨g,0,none⟩) M 240] 29)).alloc (.cells #[.int .i64 6] 3)).drew w.heap.size 33 (.slice none 0 0):=((Boxed.new w 33 (.slice none 0 0)).alloc _).alloc _
 have bS:Boxed (((w.alloc (.cells #[.slice none 0 0] 33)).alloc (.cells #[.slice (some ⟨g,0,none⟩) M 240] 29)).alloc (.cells #[.int .i64 6] 3)).drew (w.heap.size+1) 29 (.slice (some ⟨g,0,none⟩) M 240):=by
  have q:=(Boxed.new (w.alloc (.cells #[.slice none 0 0] 33)) 29 (.slice (some ⟨g,0,none⟩) M 240)).alloc (.cells #[.int .i64 6] 3);rw [World.size_alloc] at q;exact q
 have bN:Boxed (((w.alloc (.cells #[.slice none 0 0] 33)).alloc (.cells #[.slice (some ⟨g,0,none⟩) M 240] 29)).alloc (.cells #[.int .i64 6] 3)).drew (w.heap.size+1+1) 3 (.int .i64 6):=by
  have q:=Boxed.new ((w.alloc (.cells #[.slice none 0 0] 33)).alloc (.cells #[.slice (some ⟨g,0,none⟩) M 240] 29)) 3 (.int .i64 6);rw [World.size_alloc,World.size_alloc] at q;exact q
 obtain ⟨W0,hW0⟩:∃ W0,(((w.alloc (.cells #[.slice none 0 0] 33)).alloc (.cells #[.slice (some ⟨g,0,none⟩) M 240] 29)).alloc (.cells #[.int .i64 6] 3)).drew=W0:=⟨_,rfl⟩;have hsz:W0.heap.size=w.heap.size+3:=by rw [<- hW0];simp
 have hB0:Below w.heap.size w W0:=by rw [<- hW0];exact ((((Below.refl _ w).alloc (Nat.le_refl _) _).alloc (by simp) _).alloc (by simp;omega) _).drew
 rw [hW0] at bL bS bN ⊢
 have HB0:=qT1 hB0;have HZ:Hid (w.heap.size<=W0.heap.size):=by show _<=_;omega
 clear hW0 hB0
 have HUW:Hid (∀ (x:P40) (W:World),Below w.heap.size W0 W->∀ W1,Below W.heap.size W W1->Calls Tryz.prog 102 #[.slice (some ⟨g,x.1 * 6,none⟩) 6 6] W1 fun e w'=>e = .returned (.agg #[.int .i64 (qFf (qD8 zs x.1)),.int .i64 (qW9 (qD8 zs x.1)).k,.int .i64 (qW9 (qD8 zs x.1)).e,.int .i64 (qW9 (qD8 zs x.1)).f,.int .i64 (qW9 (qD8 zs x.1)).s,.int .i64 (qW9 (qD8 zs x.1)).n])/\Below W1.heap.size W1 w'):=fun x W hW W1 hW1=>by
  have hb:Below w.heap.size w W1:=(HB0.out.trans hW).trans (hW1.mono (Nat.le_trans HZ.out hW.size));exact QH0 (some ⟨g,x.1 * 6,none⟩) 6 6 (qD8 zs x.1) W1 ((HP.out.below hb).piece x.2) (HEr.out.below hb)
 gi_wp2_with (fail)
 refine wpIn_rangeFunc_ownG rfl h1 (gf:=134) (lb:=#[.pointer (some ⟨w.heap.size+1,0,none⟩),.pointer (some ⟨w.heap.size+1+1,0,none⟩)]) rfl trivial (enters_of Tryz.func134 (by kernel_rfl) rfl)
  (qCo (n - 1) (by omega) (w.heap.size+1) (w.heap.size+1+1) g N hN W0 (by omega) (by omega) (by rw [HM.out];exact bS.cell) bN.cell) (Kp:=KB2 (w.heap.size+1) (w.heap.size+1+1)) (fun h k=>⟨k.1.trans h.1,k.2.trans h.2⟩) (fun W l o o' hl h _ _=>⟨World.putObj_heap_other (by omega),World.putObj_heap_other (by omega)⟩) (Below.refl _ _) (fun _=>rfl)
  (fun pre W=>((∃ v,Boxed W w.heap.size 33 v/\W.ownsRow w.heap.size 85 5 v pre.length (qC3 (pre.map (fun x=>qW9 (qD8 zs x.1))))/\True)/\Boxed W (w.heap.size+1) 29 (.slice (some ⟨g,0,none⟩) M 240)/\Boxed W (w.heap.size+1+1) 3 (.int .i64 6))/\Below w.heap.size W0 W)
  (fun _ _ _=>False)
  (OwnFrom.and (OwnFrom.and (Own.from (holdsRow_own w.heap.size w.heap.size 33 85 5 (fun pre:List P40=>pre.length) (fun pre=>qC3 (pre.map (fun x=>qW9 (qD8 zs x.1)))) (fun _ _=>True)) _) (OwnFrom.and (Own.from (boxed_own _ _ (fun _ => .slice (some ⟨g,0,none⟩) M 240)) _) (Own.from (boxed_own _ _ (fun _ => .int .i64 6)) _))) (ownFrom_below (by omega) (by omega)))
  (fun _ _ _ _ _ hs _ _=>hs)
  ⟨⟨⟨_,bL,World.ownsRow_nil _ _ _ _,trivial⟩,bS,bN⟩,Below.refl _ _⟩
  (fun x=>{ tmps:=#[.pointer (some ⟨g,0,none⟩),undef,.slice none 0 0,.pointer (some ⟨w.heap.size,0,none⟩),.slice (some ⟨g,x.1 * 6,none⟩) 6 6,.pointer (some ⟨g,0,none⟩),.pointer (some ⟨g,0,none⟩),.pointer (some ⟨g,0,none⟩),.int .i64 (M:Int),.slice (some ⟨g,0,none⟩) M 240,.func (.func 134) #[] #[.pointer (some ⟨w.heap.size+1,0,none⟩),.pointer (some ⟨w.heap.size+1+1,0,none⟩)],.slice (some ⟨g,x.1 * 6,none⟩) 6 6,undef,undef,undef,undef,undef,undef,undef],defers:=[] }) ?assign ?body ?done ?stop
 case assign =>
  intro l x W K hK;gi_wp2
  exact hK
 case body =>
  rintro l pre x W ⟨⟨⟨v,hv,hrow,_⟩,hS,hNb⟩,hB⟩ hlt;have hc:=hv.cell;have hvl:=hv.lt;have HU:=qT1 (HUW.out x W hB);obtain ⟨y,hy⟩:∃ y,qW9 (qD8 zs x.1)=y:=⟨_,rfl⟩;rw [hy] at HU
  have HFL:Hid (∀ (X:World) (u:Value),X.ownsRow w.heap.size 85 5 u (pre.length+1) (qC3 (pre.map (fun x=>qW9 (qD8 zs x.1)))++[.int .i64 y.k,.int .i64 y.e,.int .i64 y.f,.int .i64 y.s,.int .i64 y.n])->X.ownsRow w.heap.size 85 5 u (pre++[x]).length (qC3 ((pre++[x]).map (fun x=>qW9 (qD8 zs x.1))))):=fun X u q=>by
   rw [List.length_append,List.map_append,qK4,List.map_cons,List.map_nil,hy];exact q
  clear HUW hy;gi_wp2_with (fail)
  refine wpIn_region_any hmx ?_;change wpAnyIn _ _ _ _ _ _ _ _ _ (World.drew _)
  refine wpAnyIn_ready (rs:=[0,1]) (by decide +kernel) (by simp) (AllReadyIn.cons rfl (fun K hK=>?_) (AllReadyIn.cons rfl (fun K hK=>?_) AllReadyIn.nil))
  ·go_simp;refine hK _ _ ?_;clear hK K;refine wpAnyIn_ready (rs:=[1]) (by decide +kernel) (by simp) (AllReadyIn.cons rfl (fun K hK=>?_) AllReadyIn.nil);go_simp;refine hK _ _ ?_;clear hK K;refine wpAnyIn_ready (rs:=[2]) (by decide +kernel) (by simp) (AllReadyIn.cons rfl (fun K hK=>?_) AllReadyIn.nil);go_simp;refine ⟨fun h=>(by cases h),?_⟩;refine (CallsIn.inRound l (callsIn_wide.2 (HU.out _ (Below.refl _ _).drew))).mono ?_;rintro e wU ⟨rfl,hbU⟩;have hvU:Boxed wU w.heap.size 33 v:=(hbU.block _ hv.lt).trans hv;have hcU:=hvU.cell;have hlU:=hvU.lt;have hrowU:=((qK0 hrow).drew.below hbU).out;have hSU:Boxed wU (w.heap.size+1) 29 (.slice (some ⟨g,0,none⟩) M 240):=(hbU.block _ hS.lt).trans hS;have hNU:Boxed wU (w.heap.size+1+1) 3 (.int .i64 6):=(hbU.block _ hNb.lt).trans hNb;have hKU:KeepsOthers W wU:=⟨hbU.size,fun k o hk _=>(hbU.block k (Array.getElem?_eq_some_iff.1 hk).1).trans hk⟩;have hBU:Below w.heap.size W0 wU:=hB.trans (((Below.refl _ _).drew).trans (hbU.mono (Nat.le_trans HZ.out hB.size)));refine hK _ _ ?_;clear hK K;refine wpAnyIn_ready (rs:=[3]) (by decide +kernel) (by simp) (AllReadyIn.cons rfl (fun K hK=>?_) AllReadyIn.nil);go_simp;refine hK _ _ ?_;clear hK K;refine wpAnyIn_ready (rs:=[4]) (by decide +kernel) (by simp) (AllReadyIn.cons rfl (fun K hK=>?_) AllReadyIn.nil);go_simp;refine hK _ _ ?_;clear hK K;refine wpAnyIn_ready (rs:=[5]) (by decide +kernel) (by simp) (AllReadyIn.cons rfl (fun K hK=>?_) AllReadyIn.nil);refine qL6 rfl (.tmp 12) (.tmp 16) 33 rfl w.heap.size 85 i0 (.agg #[.int .i64 0,.int .i64 0,.int .i64 0,.int .i64 0,.int .i64 0]) 5 40 Tryz.underlying33 hi hz0 hz1 hz2 rfl (by decide) v pre.length (qC3 (pre.map (fun x=>qW9 (qD8 zs x.1)))) rfl (hrowU.alloc _) ⟨wU.heap.size,0,none⟩ 1 1 [.int .i64 y.k,.int .i64 y.e,.int .i64 y.f,.int .i64 y.s,.int .i64 y.n] rfl rfl (by exact qR3 wU y _) (by simp [Value.oneCell']) (by unfold maxLen;omega) (by omega) (by have:=hBU.size;simp;omega) ?_;intro v' w1 hown' hgrow;obtain ⟨g',cap',rfl⟩:=ownsRow_succ hown';obtain ⟨hv1,hv2,hr2,hk2,hb2⟩:=hvU.appended (by decide) hrowU (by have:=hBU.size;omega) (Nat.le_refl _) hown' ⟨hgrow.os,hgrow.tape,hgrow.output,hgrow.size,hgrow.block⟩;have hc1:=hv1.cell;have hf1:=hv1.frozen;have hS1:=((hSU.alloc _).kept (row:=v.ownBlock) ⟨hgrow.os,hgrow.tape,hgrow.output,hgrow.size,hgrow.block⟩ (hSU.not_row (by decide) hrowU)).other (B':=w.heap.size) (by omega) (.slice (some ⟨g',0,none⟩) (pre.length+1) cap');have hN1:=((hNU.alloc _).kept (row:=v.ownBlock) ⟨hgrow.os,hgrow.tape,hgrow.output,hgrow.size,hgrow.block⟩ (hNU.not_row (by decide) hrowU)).other (B':=w.heap.size) (by omega) (.slice (some ⟨g',0,none⟩) (pre.length+1) cap');refine hK _ _ ?_;clear hK K;refine wpAnyIn_ready (rs:=[6]) (by decide +kernel) (by simp) (AllReadyIn.cons rfl (fun K hK=>?_) AllReadyIn.nil);go_simp;refine hK _ _ ?_;clear hK K;refine wpAnyIn_done (by decide +kernel) ?_ _;gi_wp2
   exact ⟨(hKU.trans hk2).from _,⟨hS1.trans hS.symm,hN1.trans hNb.symm⟩,⟨⟨_,hv2,(HFL.out _ _ hr2),trivial⟩,hS1,hN1⟩,hBU.trans hb2⟩
  ·go_simp;refine hK _ _ ?_;clear hK K;refine wpAnyIn_ready (rs:=[0,2]) (by decide +kernel) (by simp) (AllReadyIn.cons rfl (fun K hK=>?_) (AllReadyIn.cons rfl (fun K hK=>?_) AllReadyIn.nil))
   ·go_simp;refine hK _ _ ?_;clear hK K;refine wpAnyIn_ready (rs:=[2]) (by decide +kernel) (by simp) (AllReadyIn.cons rfl (fun K hK=>?_) AllReadyIn.nil);go_simp;refine ⟨fun h=>(by cases h),?_⟩;refine (CallsIn.inRound l (callsIn_wide.2 (HU.out _ (Below.refl _ _).drew))).mono ?_;rintro e wU ⟨rfl,hbU⟩;have hvU:Boxed wU w.heap.size 33 v:=(hbU.block _ hv.lt).trans hv;have hcU:=hvU.cell;have hlU:=hvU.lt;have hrowU:=((qK0 hrow).drew.below hbU).out;have hSU:Boxed wU (w.heap.size+1) 29 (.slice (some ⟨g,0,none⟩) M 240):=(hbU.block _ hS.lt).trans hS;have hNU:Boxed wU (w.heap.size+1+1) 3 (.int .i64 6):=(hbU.block _ hNb.lt).trans hNb;have hKU:KeepsOthers W wU:=⟨hbU.size,fun k o hk _=>(hbU.block k (Array.getElem?_eq_some_iff.1 hk).1).trans hk⟩;have hBU:Below w.heap.size W0 wU:=hB.trans (((Below.refl _ _).drew).trans (hbU.mono (Nat.le_trans HZ.out hB.size)));refine hK _ _ ?_;clear hK K;refine wpAnyIn_ready (rs:=[3]) (by decide +kernel) (by simp) (AllReadyIn.cons rfl (fun K hK=>?_) AllReadyIn.nil);go_simp;refine hK _ _ ?_;clear hK K;refine wpAnyIn_ready (rs:=[4]) (by decide +kernel) (by simp) (AllReadyIn.cons rfl (fun K hK=>?_) AllReadyIn.nil);go_simp;refine hK _ _ ?_;clear hK K;refine wpAnyIn_ready (rs:=[5]) (by decide +kernel) (by simp) (AllReadyIn.cons rfl (fun K hK=>?_) AllReadyIn.nil);refine qL6 rfl (.tmp 12) (.tmp 16) 33 rfl w.heap.size 85 i0 (.agg #[.int .i64 0,.int .i64 0,.int .i64 0,.int .i64 0,.int .i64 0]) 5 40 Tryz.underlying33 hi hz0 hz1 hz2 rfl (by decide) v pre.length (qC3 (pre.map (fun x=>qW9 (qD8 zs x.1)))) rfl (hrowU.alloc _) ⟨wU.heap.size,0,none⟩ 1 1 [.int .i64 y.k,.int .i64 y.e,.int .i64 y.f,.int .i64 y.s,.int .i64 y.n] rfl rfl (by exact qR3 wU y _) (by simp [Value.oneCell']) (by unfold maxLen;omega) (by omega) (by have:=hBU.size;simp;omega) ?_;intro v' w1 hown' hgrow;obtain ⟨g',cap',rfl⟩:=ownsRow_succ hown';obtain ⟨hv1,hv2,hr2,hk2,hb2⟩:=hvU.appended (by decide) hrowU (by have:=hBU.size;omega) (Nat.le_refl _) hown' ⟨hgrow.os,hgrow.tape,hgrow.output,hgrow.size,hgrow.block⟩;have hc1:=hv1.cell;have hf1:=hv1.frozen;have hS1:=((hSU.alloc _).kept (row:=v.ownBlock) ⟨hgrow.os,hgrow.tape,hgrow.output,hgrow.size,hgrow.block⟩ (hSU.not_row (by decide) hrowU)).other (B':=w.heap.size) (by omega) (.slice (some ⟨g',0,none⟩) (pre.length+1) cap');have hN1:=((hNU.alloc _).kept (row:=v.ownBlock) ⟨hgrow.os,hgrow.tape,hgrow.output,hgrow.size,hgrow.block⟩ (hNU.not_row (by decide) hrowU)).other (B':=w.heap.size) (by omega) (.slice (some ⟨g',0,none⟩) (pre.length+1) cap');refine hK _ _ ?_;clear hK K;refine wpAnyIn_ready (rs:=[6]) (by decide +kernel) (by simp) (AllReadyIn.cons rfl (fun K hK=>?_) AllReadyIn.nil);go_simp;refine hK _ _ ?_;clear hK K;refine wpAnyIn_done (by decide +kernel) ?_ _;gi_wp2
    exact ⟨(hKU.trans hk2).from _,⟨hS1.trans hS.symm,hN1.trans hNb.symm⟩,⟨⟨_,hv2,(HFL.out _ _ hr2),trivial⟩,hS1,hN1⟩,hBU.trans hb2⟩
   ·go_simp;refine ⟨fun h=>(by cases h),?_⟩;refine (CallsIn.inRound l (callsIn_wide.2 (HU.out _ (Below.refl _ _).drew))).mono ?_;rintro e wU ⟨rfl,hbU⟩;have hvU:Boxed wU w.heap.size 33 v:=(hbU.block _ hv.lt).trans hv;have hcU:=hvU.cell;have hlU:=hvU.lt;have hrowU:=((qK0 hrow).drew.below hbU).out;have hSU:Boxed wU (w.heap.size+1) 29 (.slice (some ⟨g,0,none⟩) M 240):=(hbU.block _ hS.lt).trans hS;have hNU:Boxed wU (w.heap.size+1+1) 3 (.int .i64 6):=(hbU.block _ hNb.lt).trans hNb;have hKU:KeepsOthers W wU:=⟨hbU.size,fun k o hk _=>(hbU.block k (Array.getElem?_eq_some_iff.1 hk).1).trans hk⟩;have hBU:Below w.heap.size W0 wU:=hB.trans (((Below.refl _ _).drew).trans (hbU.mono (Nat.le_trans HZ.out hB.size)));refine hK _ _ ?_;clear hK K;refine wpAnyIn_ready (rs:=[0,3]) (by decide +kernel) (by simp) (AllReadyIn.cons rfl (fun K hK=>?_) (AllReadyIn.cons rfl (fun K hK=>?_) AllReadyIn.nil))
    ·go_simp;refine hK _ _ ?_;clear hK K;refine wpAnyIn_ready (rs:=[3]) (by decide +kernel) (by simp) (AllReadyIn.cons rfl (fun K hK=>?_) AllReadyIn.nil);go_simp;refine hK _ _ ?_;clear hK K;refine wpAnyIn_ready (rs:=[4]) (by decide +kernel) (by simp) (AllReadyIn.cons rfl (fun K hK=>?_) AllReadyIn.nil);go_simp;refine hK _ _ ?_;clear hK K;refine wpAnyIn_ready (rs:=[5]) (by decide +kernel) (by simp) (AllReadyIn.cons rfl (fun K hK=>?_) AllReadyIn.nil);refine qL6 rfl (.tmp 12) (.tmp 16) 33 rfl w.heap.size 85 i0 (.agg #[.int .i64 0,.int .i64 0,.int .i64 0,.int .i64 0,.int .i64 0]) 5 40 Tryz.underlying33 hi hz0 hz1 hz2 rfl (by decide) v pre.length (qC3 (pre.map (fun x=>qW9 (qD8 zs x.1)))) rfl (hrowU.alloc _) ⟨wU.heap.size,0,none⟩ 1 1 [.int .i64 y.k,.int .i64 y.e,.int .i64 y.f,.int .i64 y.s,.int .i64 y.n] rfl rfl (by exact qR3 wU y _) (by simp [Value.oneCell']) (by unfold maxLen;omega) (by omega) (by have:=hBU.size;simp;omega) ?_;intro v' w1 hown' hgrow;obtain ⟨g',cap',rfl⟩:=ownsRow_succ hown';obtain ⟨hv1,hv2,hr2,hk2,hb2⟩:=hvU.appended (by decide) hrowU (by have:=hBU.size;omega) (Nat.le_refl _) hown' ⟨hgrow.os,hgrow.tape,hgrow.output,hgrow.size,hgrow.block⟩;have hc1:=hv1.cell;have hf1:=hv1.frozen;have hS1:=((hSU.alloc _).kept (row:=v.ownBlock) ⟨hgrow.os,hgrow.tape,hgrow.output,hgrow.size,hgrow.block⟩ (hSU.not_row (by decide) hrowU)).other (B':=w.heap.size) (by omega) (.slice (some ⟨g',0,none⟩) (pre.length+1) cap');have hN1:=((hNU.alloc _).kept (row:=v.ownBlock) ⟨hgrow.os,hgrow.tape,hgrow.output,hgrow.size,hgrow.block⟩ (hNU.not_row (by decide) hrowU)).other (B':=w.heap.size) (by omega) (.slice (some ⟨g',0,none⟩) (pre.length+1) cap');refine hK _ _ ?_;clear hK K;refine wpAnyIn_ready (rs:=[6]) (by decide +kernel) (by simp) (AllReadyIn.cons rfl (fun K hK=>?_) AllReadyIn.nil);go_simp;refine hK _ _ ?_;clear hK K;refine wpAnyIn_done (by decide +kernel) ?_ _;gi_wp2
     exact ⟨(hKU.trans hk2).from _,⟨hS1.trans hS.symm,hN1.trans hNb.symm⟩,⟨⟨_,hv2,(HFL.out _ _ hr2),trivial⟩,hS1,hN1⟩,hBU.trans hb2⟩
    ·go_simp;refine hK _ _ ?_;clear hK K;refine wpAnyIn_ready (rs:=[0,4]) (by decide +kernel) (by simp) (AllReadyIn.cons rfl (fun K hK=>?_) (AllReadyIn.cons rfl (fun K hK=>?_) AllReadyIn.nil))
     ·go_simp;refine hK _ _ ?_;clear hK K;refine wpAnyIn_ready (rs:=[4]) (by decide +kernel) (by simp) (AllReadyIn.cons rfl (fun K hK=>?_) AllReadyIn.nil);go_simp;refine hK _ _ ?_;clear hK K;refine wpAnyIn_ready (rs:=[5]) (by decide +kernel) (by simp) (AllReadyIn.cons rfl (fun K hK=>?_) AllReadyIn.nil);refine qL6 rfl (.tmp 12) (.tmp 16) 33 rfl w.heap.size 85 i0 (.agg #[.int .i64 0,.int .i64 0,.int .i64 0,.int .i64 0,.int .i64 0]) 5 40 Tryz.underlying33 hi hz0 hz1 hz2 rfl (by decide) v pre.length (qC3 (pre.map (fun x=>qW9 (qD8 zs x.1)))) rfl (hrowU.alloc _) ⟨wU.heap.size,0,none⟩ 1 1 [.int .i64 y.k,.int .i64 y.e,.int .i64 y.f,.int .i64 y.s,.int .i64 y.n] rfl rfl (by exact qR3 wU y _) (by simp [Value.oneCell']) (by unfold maxLen;omega) (by omega) (by have:=hBU.size;simp;omega) ?_;intro v' w1 hown' hgrow;obtain ⟨g',cap',rfl⟩:=ownsRow_succ hown';obtain ⟨hv1,hv2,hr2,hk2,hb2⟩:=hvU.appended (by decide) hrowU (by have:=hBU.size;omega) (Nat.le_refl _) hown' ⟨hgrow.os,hgrow.tape,hgrow.output,hgrow.size,hgrow.block⟩;have hc1:=hv1.cell;have hf1:=hv1.frozen;have hS1:=((hSU.alloc _).kept (row:=v.ownBlock) ⟨hgrow.os,hgrow.tape,hgrow.output,hgrow.size,hgrow.block⟩ (hSU.not_row (by decide) hrowU)).other (B':=w.heap.size) (by omega) (.slice (some ⟨g',0,none⟩) (pre.length+1) cap');have hN1:=((hNU.alloc _).kept (row:=v.ownBlock) ⟨hgrow.os,hgrow.tape,hgrow.output,hgrow.size,hgrow.block⟩ (hNU.not_row (by decide) hrowU)).other (B':=w.heap.size) (by omega) (.slice (some ⟨g',0,none⟩) (pre.length+1) cap');refine hK _ _ ?_;clear hK K;refine wpAnyIn_ready (rs:=[6]) (by decide +kernel) (by simp) (AllReadyIn.cons rfl (fun K hK=>?_) AllReadyIn.nil);go_simp;refine hK _ _ ?_;clear hK K;refine wpAnyIn_done (by decide +kernel) ?_ _;gi_wp2
      exact ⟨(hKU.trans hk2).from _,⟨hS1.trans hS.symm,hN1.trans hNb.symm⟩,⟨⟨_,hv2,(HFL.out _ _ hr2),trivial⟩,hS1,hN1⟩,hBU.trans hb2⟩
     ·go_simp;refine hK _ _ ?_;clear hK K;refine wpAnyIn_ready (rs:=[0]) (by decide +kernel) (by simp) (AllReadyIn.cons rfl (fun K hK=>?_) AllReadyIn.nil);go_simp;refine hK _ _ ?_;clear hK K;refine wpAnyIn_ready (rs:=[5]) (by decide +kernel) (by simp) (AllReadyIn.cons rfl (fun K hK=>?_) AllReadyIn.nil);refine qL6 rfl (.tmp 12) (.tmp 16) 33 rfl w.heap.size 85 i0 (.agg #[.int .i64 0,.int .i64 0,.int .i64 0,.int .i64 0,.int .i64 0]) 5 40 Tryz.underlying33 hi hz0 hz1 hz2 rfl (by decide) v pre.length (qC3 (pre.map (fun x=>qW9 (qD8 zs x.1)))) rfl (hrowU.alloc _) ⟨wU.heap.size,0,none⟩ 1 1 [.int .i64 y.k,.int .i64 y.e,.int .i64 y.f,.int .i64 y.s,.int .i64 y.n] rfl rfl (by exact qR3 wU y _) (by simp [Value.oneCell']) (by unfold maxLen;omega) (by omega) (by have:=hBU.size;simp;omega) ?_;intro v' w1 hown' hgrow;obtain ⟨g',cap',rfl⟩:=ownsRow_succ hown';obtain ⟨hv1,hv2,hr2,hk2,hb2⟩:=hvU.appended (by decide) hrowU (by have:=hBU.size;omega) (Nat.le_refl _) hown' ⟨hgrow.os,hgrow.tape,hgrow.output,hgrow.size,hgrow.block⟩;have hc1:=hv1.cell;have hf1:=hv1.frozen;have hS1:=((hSU.alloc _).kept (row:=v.ownBlock) ⟨hgrow.os,hgrow.tape,hgrow.output,hgrow.size,hgrow.block⟩ (hSU.not_row (by decide) hrowU)).other (B':=w.heap.size) (by omega) (.slice (some ⟨g',0,none⟩) (pre.length+1) cap');have hN1:=((hNU.alloc _).kept (row:=v.ownBlock) ⟨hgrow.os,hgrow.tape,hgrow.output,hgrow.size,hgrow.block⟩ (hNU.not_row (by decide) hrowU)).other (B':=w.heap.size) (by omega) (.slice (some ⟨g',0,none⟩) (pre.length+1) cap');refine hK _ _ ?_;clear hK K;refine wpAnyIn_ready (rs:=[6]) (by decide +kernel) (by simp) (AllReadyIn.cons rfl (fun K hK=>?_) AllReadyIn.nil);go_simp;refine hK _ _ ?_;clear hK K;refine wpAnyIn_done (by decide +kernel) ?_ _;gi_wp2
      exact ⟨(hKU.trans hk2).from _,⟨hS1.trans hS.symm,hN1.trans hNb.symm⟩,⟨⟨_,hv2,(HFL.out _ _ hr2),trivial⟩,hS1,hN1⟩,hBU.trans hb2⟩
 case done =>
  rintro D ys W hD hys ⟨⟨⟨v,hv,hrow,_⟩,_⟩,hB⟩ hK
  have hyl:ys.length=N:=by
   have q:=congrArg List.length hys;rw [List.length_map,List.length_range] at q;exact q
  have hmap:ys.map (fun x:P40=>qW9 (qD8 zs x.1))=(List.range N).map (fun k=>qW9 (qD8 zs k)):=by
   rw [<- hys,List.map_map];rfl
  rw [hyl,hmap] at hrow;obtain ⟨a,cap,rfl⟩:=qAN hrow;have hc:=hv.cell;have HRW:=qT1 hrow;have hlw:=hv.lt;clear hmap hyl;gi_wp2
  refine ⟨by simp,.inl ⟨_,_,rfl,run_takeDeferred hK,?_⟩⟩;refine ⟨_,results_tmp rfl _ _ _,a,cap,rfl,ownsRow_putObj HRW.out _ hK rfl,?_⟩;exact (HB0.out.trans hB).trans (belowK_b (w:=w) (Nat.le_refl _) W D _ _ (by omega) hK rfl rfl)
 case stop =>
  rintro D c pre W _ _ h _;exact h.elim
theorem qLk (g N:Nat) (zs:List Int) (w:World) (h:QA3 w g zs) (he:qHr zs N) (hE:qG2 0 w) :
  Calls Tryz.prog 79 #[.pointer (some ⟨g,0,none⟩)] w fun e W'=>∃ a cap,e = .returned (.slice a N cap)/\W'.ownsRow w.heap.size 85 5 (.slice a N cap) N (qC3 ((List.range N).map (fun k=>qW9 (qD8 zs k))))/\Below w.heap.size w W' :=
 callsIn_wide.1 (qLj 3 (Nat.le_refl _) g N zs w h he hE)
end

def rdX (zs:List Int):List StI:=if 240 < zs.length then [] else rdL zs
theorem qLl (zs:List Int):(List.range (rdL zs).length).map (fun k=>qW9 (qD8 (qBp zs) k))=rdL zs:=by
 apply List.ext_getElem?;intro k;by_cases hk:k < (rdL zs).length
 ·rw [List.getElem?_map,List.getElem?_range hk];have e:=QF3 (zs:=zs) (k:=k) (List.getElem?_eq_getElem hk);have hp:qD8 (qBp zs) k=qD8 zs k:=by unfold qBp;exact QS9 QC9 (by omega)
  simp only [Option.map_some];rw [hp];unfold qW9;rw [e,List.getElem?_eq_getElem hk];rfl
 ·rw [List.getElem?_eq_none (by simp;omega),List.getElem?_eq_none (by omega)]
theorem QW3 {w:World} {B:Nat} {e:TypeId} {size:Nat} {v:Value} {n:Nat} {xs:List Value} {q:Nat} {u0 u1:Value} (h:w.ownsRow B e size v n xs) (hq:∀ g,v.ownBlock=some g->g≠q):((w.setCell ⟨q,0,none⟩ u0).setCell ⟨q,1,none⟩ u1).ownsRow B e size v n xs :=
 qA0 h (fun g hg=>by rw [Below.heap_setCell _ _ _ _ (hq g hg),Below.heap_setCell _ _ _ _ (hq g hg)])
def qDA (f:Nat) (a:Option Addr) (n cap:Nat) (c:Int) (ys:List StI) (w:World):Prop:=Calls Tryz.prog f #[.slice a n cap] w fun e w'=>∃ a cap,e = .returned (.agg #[.int .i64 c,.slice a ys.length cap])/\qB2 w' w.heap.size (.slice a ys.length cap) ys/\Below w.heap.size w w'
theorem qFG (a:Option Addr) (n cap:Nat) (zs:List Int) (w:World) (hn:n<=1048576) (h:qC9 w a n zs) (hE:qG2 0 w):qDA 48 a n cap (whC zs) (rdX zs) w:=by
 have hl:zs.length=n:=h.1;obtain ⟨K,hK⟩:∃ K,whC zs=K:=⟨_,rfl⟩;obtain ⟨U,hU⟩:∃ U,rdX zs=U:=⟨_,rfl⟩;unfold qDA;rw [hK,hU];obtain ⟨V,hV⟩:∃ V,V=w.alloc (.cells #[.int .i64 0,.slice none 0 0] 88):=⟨_,rfl⟩;have BV:Hid (Below w.heap.size w V):=by rw [hV];exact zN
 have XV:Hid (qH0 w.heap.size [.int .i64 0,.slice none 0 0] V):=by rw [hV];exact qG7 w #[.int .i64 0,.slice none 0 0] 88
 have hvl:w.heap.size < V.heap.size:=by rw [hV];simp
 have HEr:=qT1 hE;by_cases h240:240 < n
 ·have HE:Hid (K=2/\U=[]):=by
   refine ⟨?_,?_⟩
   ·rw [<- hK];unfold whC;rw [if_pos (by omega)]
   ·rw [<- hU];unfold rdX;rw [if_pos (by omega)]
  have HPO0:=qBu a n cap V hn h240;have hkp0:=fun w1:World=>qGR w1 (vI qF0).toArray qF0 rfl rfl
  have hcs:=qJ8 (zs:=qF0) rfl;generalize (vI qF0).toArray=cZ at HPO0 hkp0 hcs;have HPO:=qT1 HPO0;have HKP:=qT1 hkp0;have hz:∀ W:World,(zeroValue 114).run Tryz.prog W = .ok (.agg cZ) W:=(hkp0 w).1;clear hK hU h hl HPO0 hkp0 hE;go_enter Tryz.func48,Tryz.ntmps48;go_upto_region 1 with fail
  rw [<- hV];clear hV;go_wp2_with fail
  refine HPO.out.mono ?_;rintro e w1 ⟨rfl,hb1⟩;have hst:=(HKP.out w1).2.1;have A1:Below w1.heap.size w1 (w1.alloc (.cells cZ 114)):=zN;have X2:=qT1 ((XV.out.below hvl hb1).below (Nat.lt_of_lt_of_le hvl hb1.size) A1);have B2:=qT1 ((BV.out.trans (hb1.mono BV.out.size)).trans (A1.mono (Nat.le_trans BV.out.size hb1.size)));have hwl:w.heap.size < (w1.alloc (.cells cZ 114)).heap.size:=Nat.lt_of_lt_of_le (Nat.lt_of_lt_of_le hvl hb1.size) A1.size;clear hb1 A1 HPO XV BV HKP;go_upto_region 2 with fail
  clear hst hz hcs;generalize w1.alloc (.cells cZ 114)=W2 at X2 B2 hwl ⊢
  have c0:=X2.out.1 0 _ rfl;have c1:=X2.out.1 1 _ rfl;have f0:=X2.out.2 0;have f1:=X2.out.2 1;go_wp2_with fail
  refine bodyPost_ret (v:=.agg #[.int .i64 2,.slice none 0 0]) (by simp [results,Tryz.results48,go_sem,c0,c1,hwl]) rfl ?_;rw [HE.out.1,HE.out.2];exact ⟨none,0,rfl,World.ownsRow_nil _ _ _ _,(B2.out.setCell (Nat.le_refl _) _).setCell (Nat.le_refl _) _⟩
 ·have HE:Hid (K=0/\U=rdL zs):=by
   refine ⟨?_,?_⟩
   ·rw [<- hK];unfold whC;rw [if_neg (by omega)]
   ·rw [<- hU];unfold rdX;rw [if_neg (by omega)]
  obtain ⟨N,hN⟩:∃ N,(rdL zs).length=N:=⟨_,rfl⟩;have HN:=qT1 hN;have hPL:(qBp zs).length=240:=by unfold qBp;exact qDU QC9 (by have:=QC9 (zs:=zs);omega)
  have HEA:Hid (qHr (qBp zs) N):=by rw [<- hN];exact qIW zs (by omega)
  have HPO0:=qGV a n cap zs V (h.below BV.out) (by omega) (hE.below BV.out);obtain ⟨cT,hcT⟩:∃ c,(vI (qBp zs)).toArray=c:=⟨_,rfl⟩;have hkp0:=fun w1:World=>qGR w1 cT (qBp zs) hPL hcT
  have hcs:cT.size=240:=by rw [<- hcT];exact qJ8 hPL
  have hcz:=qJ8 (zs:=qF0) rfl;rw [hcT] at HPO0;clear hcT;generalize (vI qF0).toArray=cZ at hkp0 hcz;have HPO:=qT1 HPO0;have HKP:=qT1 hkp0;have hz:∀ W:World,(zeroValue 114).run Tryz.prog W = .ok (.agg cZ) W:=(hkp0 w).1;clear hK hU h hl HPO0 hkp0 hE hPL hN;go_enter Tryz.func48,Tryz.ntmps48;go_upto_region 1 with fail
  rw [<- hV];clear hV;go_wp2_with fail
  refine HPO.out.mono ?_;rintro e w1 ⟨rfl,hb1⟩;have hst:=(HKP.out w1).2.1;have PG:=qT1 (HKP.out w1).2.2;have A1:Below w1.heap.size w1 (w1.alloc (.cells cT 114)):=zN;have X2:=qT1 ((XV.out.below hvl hb1).below (Nat.lt_of_lt_of_le hvl hb1.size) A1);have B2:=qT1 ((BV.out.trans (hb1.mono BV.out.size)).trans (A1.mono (Nat.le_trans BV.out.size hb1.size)));have hwl:w.heap.size < (w1.alloc (.cells cT 114)).heap.size:=Nat.lt_of_lt_of_le (Nat.lt_of_lt_of_le hvl hb1.size) A1.size;clear hb1 A1 HPO XV BV HKP;go_upto_region 2 with fail
  clear hst hz hcs hcz;generalize w1.alloc (.cells cT 114)=W2 at X2 B2 PG hwl ⊢
  generalize w1.heap.size=gp at PG ⊢
  have HSD:=qT1 (qLk gp N (qBp zs) W2 PG.out HEA.out (HEr.out.below B2.out));go_wp2_with fail
  refine HSD.out.mono ?_;rintro e w3 ⟨ra,rc,rfl,how,hb3⟩;have B3:=qT1 (B2.out.trans (hb3.mono B2.out.size));have X3:=qT1 (X2.out.below hwl hb3)
  have O3:Hid (qB2 w3 W2.heap.size (.slice ra N rc) (rdL zs)):=by
   show qB2 _ _ _ _
   unfold qB2;have q:=how;have e:=qLl zs;rw [HN.out] at e;rw [e] at q;rw [HN.out];exact q
  have hw3:w.heap.size < w3.heap.size:=Nat.lt_of_lt_of_le hwl hb3.size;clear how hb3 HSD X2 B2;have c0:=X3.out.1 0 _ rfl;have c1:=X3.out.1 1 _ rfl;have f0:=X3.out.2 0;have f1:=X3.out.2 1;go_wp2_with fail
  refine bodyPost_ret (v:=.agg #[.int .i64 0,.slice ra N rc]) (by simp [results,Tryz.results48,go_sem,c0,c1,hw3]) rfl ?_;rw [HE.out.1,HE.out.2,HN.out];refine ⟨ra,rc,rfl,?_,(B3.out.setCell (Nat.le_refl _) _).setCell (Nat.le_refl _) _⟩;have q:=qC0 O3.out (Nat.le_of_lt hwl);unfold qB2 at q ⊢
  exact QW3 q (by have:=QM2 O3.out;exact fun g e=>by have:=this g e;show g≠w.heap.size;omega)
