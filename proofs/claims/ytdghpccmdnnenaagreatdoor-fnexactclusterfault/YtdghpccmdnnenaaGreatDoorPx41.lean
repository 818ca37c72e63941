/- Contracts. -/
import Derived.Test.YtdghpccmdnnenaaGreatDoorPx40
namespace Go.Proofs.YtdghpccmdnnenaaGreatDoor
set_option maxRecDepth 100000
set_option maxHeartbeats 8000000
open Go.RowKit Go.Proofs.Tryz
set_option linter.unusedVariables false
set_option linter.unusedSimpArgs false
structure qQ8 (cs ds:List qA5):Prop where
 ln:ds.length=cs.length
 sm:∀(j:Nat) c d,cs[j]?=some c->ds[j]?=some d->qH0 c d
theorem qCB{c d:qA5}(h:qH0 c d):qV5 d=qV5 c:=by
 unfold qV5;rw[h.e,h.f,h.zs,h.ps,h.cs]
theorem qQ8.get{cs ds:List qA5}(h:qQ8 cs ds){j:Nat}{d:qA5}(e:ds[j]?=some d):∃c,cs[j]?=some c/\qH0 c d:=by
 have hj:=(gY.1 e).1;rw[h.ln]at hj;exact⟨_,gA hj,h.sm j _ d (gA hj) e⟩
theorem qQ8.f0{cs ds:List qA5}(h:qQ8 cs ds):(ds[0]?.getD default).f=(cs[0]?.getD default).f:=by
 cases e:ds[0]? with
 | none =>
  have : ds.length<=0:=by simpa using e
  have e2:cs[0]?=none:=gE (by rw[<- h.ln];exact this);rw[e2]
 | some d =>
  obtain⟨c,hc,hs⟩:=h.get e;rw[hc];exact hs.f
theorem qBE{cs ds:List qA5}(h:qQ8 cs ds):∀k,qJ8 ds k=qJ8 cs k
 | 0=>rfl
 | k+1=>by
  have ih:=qBE h k
  show (if qJ8 ds k=0 then (match ds[k]? with
   | none=>0
   | some c=>if qV5 c=0 then (if c.f=(ds[0]?.getD default).f then 0 else 1) else qV5 c) else qJ8 ds k)=_
  rw[ih];by_cases q:qJ8 cs k=0
  .rw[gK q];cases e:ds[k]? with
   | none =>
    have : ds.length<=k:=by simpa using e
    have e2:cs[k]?=none:=gE (by rw[<- h.ln];exact this);rw[qJ8,gK q,e2]
   | some d =>
    obtain⟨c,hc,hs⟩:=h.get e;rw[QC9 hc q];simp only;rw[qCB hs,hs.f,h.f0]
  .rw[gI q,qJ8,gI q]
theorem qQ8.cfs{cs ds:List qA5}(h:qQ8 cs ds):qB1 ds=qB1 cs:=by
 unfold qB1;rw[h.ln,qBE h]
theorem QV1{cs ds es:List qA5}(h:qQ8 cs ds)(g:qQ8 cs es):∀(j:Nat) c d,ds[j]?=some c->es[j]?=some d->qH0 c d:=fun j c d e1 e2=>by
 obtain⟨x,hx,hs⟩:=h.get e1;exact hs.trans (g.sm j x d hx e2)
