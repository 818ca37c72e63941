/- Contracts. -/
import Derived.Test.YtdghpccmdnnenaaGreatDoorPx18
import Derived.RangeFuncSeq
import Derived.RangeFuncGives
import Derived.Sort.MapsRangeIn
import Derived.Test.YtdghpccmdnnenaaGreatDoorPx14
import Derived.Shelf.SlSortCmp.NoneTotal
import Derived.Deep.RegionLaw
namespace Go.Proofs.YtdghpccmdnnenaaGreatDoor
set_option maxRecDepth 100000
set_option maxHeartbeats 8000000
open Go.RowKit Go.Proofs.Tryz
set_option linter.unusedVariables false
set_option linter.unusedSimpArgs false
theorem qKw(zs:List qA1)(hc:qC3 zs=0):∃gs,QM8 zs gs:=by
 have hz:∀z∈zs,okR z:=fun z h=>((qHh hc).2 z h).1
 obtain⟨n,_,h⟩:=qMw hz;exact⟨_,qJI hz h⟩
theorem qHj{zs:List qA1}{n:Nat}(h:zs.length=n)(hc:qC3 zs=0):n<=16:=by
 unfold qC3 at hc;split at hc
 .simp at hc
 .omega
theorem qNr(g:Nat)(c d:Int)(w:World)(h0:w.cell? ⟨g,0,none⟩=some (iv c))(h1:w.cell? ⟨g,1,none⟩=some (iv d)):
  CP 64 #[.slice (some ⟨g,0,none⟩) 2 2] w fun e w'=>e=.returned (iv (orC c d))/\w=w':=by
 go_enter func64,ntmps64;go_wp2;go_loop [8] (fun i=>∃k:Nat,k<=2/\i=iv (k:Int)/\(1<=k->c=0)/\(2<=k->d=0)) (fun i=>2-(intOf i).toNat)
 case atStart=>exact⟨0,by omega,rfl,fun h=>by omega,fun h=>by omega⟩
 case round =>
  obtain⟨k,hk,rfl,hc,hd⟩:=hrel;have hk':k=0\/k=1\/k=2:=by omega
  rcases hk' with rfl|rfl|rfl
  .clear hc hd;by_cases e:c=0
   .have b:(c != 0)=false:=by simp[e]
    have HE:=hJJ e;clear e;go_wp2;exact⟨⟨1,by omega,by go_num,fun _=>HE.out,fun h=>by omega⟩,by simp[intOf]⟩
   .have b:(c != 0)=true:=by simp[e]
    go_wp2;go_ret;exact⟨by simp[orC,e],rfl⟩
  .have HC:Hid (c=0):=hc (by omega);clear hc hd;by_cases e:d=0
   .have b:(d != 0)=false:=by simp[e]
    have HE:=hJJ e;clear e;go_wp2;exact⟨⟨2,by omega,by go_num,fun _=>HC.out,fun _=>HE.out⟩,by simp[intOf]⟩
   .have b:(d != 0)=true:=by simp[e]
    go_wp2;go_ret;exact⟨by simp[orC,HC.out],rfl⟩
  .have HC:Hid (c=0):=hc (by omega);have HD:Hid (d=0):=hd (by omega);clear hc hd;go_wp2;go_ret;exact⟨by simp[orC,HC.out,HD.out],rfl⟩
theorem qIW{W w:World}(h:(∀b o,b<W.heap.size->w.cell? ⟨b,o,none⟩=W.cell? ⟨b,o,none⟩)/\Below W.heap.size W w)(o:Obj):(∀b i,b<W.heap.size->(w.alloc o).cell? ⟨b,i,none⟩=W.cell? ⟨b,i,none⟩)/\Below W.heap.size W (w.alloc o) :=
 qA0 h (zN)
theorem qKx:SS qAi:=by
 unfold SS;decide
theorem qND{f:RoI->Int}(h:FN f):∃gs,SG gs/\ofG gs=f:=by
 refine⟨_,qMN h (rs:=qAi.filter (fun r=>decide (f r≠0))) ?_ (fun r=>?_)⟩
 .exact List.Pairwise.sublist List.filter_sublist qKx
 .rw[List.mem_filter];exact⟨fun q=>kK q.2,fun q=>⟨QP5 (h.ro r q),jQ q⟩⟩
theorem qNC{w:World}{b:Nat}{f:RoI->Int}(h:GM w b f):∃gs,SG gs/\ofG gs=f:=qND h.fn
