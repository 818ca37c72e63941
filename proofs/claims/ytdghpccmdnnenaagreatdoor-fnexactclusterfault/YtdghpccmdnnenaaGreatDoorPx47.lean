/- Contracts. -/
import Derived.Test.YtdghpccmdnnenaaGreatDoorPx37
import Derived.Test.YtdghpccmdnnenaaGreatDoorPx41
import Derived.Test.YtdghpccmdnnenaaGreatDoorPx46
namespace Go.Proofs.YtdghpccmdnnenaaGreatDoor
set_option maxRecDepth 100000
set_option maxHeartbeats 8000000
open Go.RowKit Go.Proofs.Tryz
set_option linter.unusedVariables false
set_option linter.unusedSimpArgs false
theorem qQ8.env{cs ds:List qA5}{E:qH3}(h:qQ8 cs ds)(hE:qN0 E cs)(hl:qG4 1048576 ds):qN0 E ds:=by
 refine⟨?_,fun p d hd=>?_⟩
 .rw[hE.es];refine List.ext_getElem? (fun j=>?_);rw[jI,jI];cases e:ds[j]? with
  | none =>
   have : ds.length<=j:=by simpa using e
   rw[gE (by rw[<- h.ln];exact this)]
  | some d =>
   obtain⟨c,hc,hs⟩:=h.get e;rw[hc];simp[hs.e]
 .obtain⟨c,hc,hs⟩:=h.get hd;obtain⟨⟨_,_,_,h4⟩,gs,g1,g2,g3⟩:=hE.cf p c hc;exact⟨⟨hl.le p d hd,(hl.rc p d hd).1,(hl.rc p d hd).2,(qCB hs).trans h4⟩,gs,by rw[hs.zs];exact g1,fun f s=>by rw[hs.ps];exact g2 f s,by rw[hs.cs];exact g3⟩
