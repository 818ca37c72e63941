/- Contracts. -/
import Derived.Test.YtlhgjackapdmbaaGreatDoorPc48
import Derived.Test.YtlhgjackapdmbaaGreatDoorPc50
import Derived.Test.YtlhgjackapdmbaaGreatDoorPc47
namespace Go.Proofs.YtlhgjackapdmbaaGreatDoor
set_option maxRecDepth 100000
set_option maxHeartbeats 8000000
open Go.RowKit
set_option linter.unusedVariables false
set_option linter.unusedSimpArgs false

theorem qP6.env {cs ds:List qA3} {E:qH0} (h:qP6 cs ds) (hE:qN0 E cs) (hl:qE7 1048576 ds):qN0 E ds:=by
 refine ⟨?_,fun p d hd=>?_⟩
 ·rw [hE.es]
  refine List.ext_getElem? (fun j=>?_)
  rw [List.getElem?_map,List.getElem?_map]
  cases e:ds[j]? with
  | none =>
   have : ds.length≤j:=by simpa using e
   rw [List.getElem?_eq_none (by rw [← h.ln];exact this)]
  | some d =>
   obtain ⟨c,hc,hs⟩:=h.get e
   rw [hc]
   simp [hs.e]
 ·obtain ⟨c,hc,hs⟩:=h.get hd
  obtain ⟨⟨_,_,_,h4⟩,gs,g1,g2,g3⟩:=hE.cf p c hc
  exact ⟨⟨hl.le p d hd,(hl.rc p d hd).1,(hl.rc p d hd).2,(code_same hs).trans h4⟩,gs,by rw [hs.zs];exact g1,fun f s=>by rw [hs.ps];exact g2 f s,by rw [hs.cs];exact g3⟩
theorem QY4 {E:qH0} {cs ds:List qA3} {w:World} {L:Nat} {r y:qF4} (h:qP6 cs ds) (hy:qF1 w L r y):qH3 E ds y=qH3 E cs r:=by
 unfold qH3 qI0 f0C
 rw [h.cfs,h.f0,hy.i,hy.u,hy.sn,hy.ss,hy.ls]
theorem eqCopies {L L':Nat} {r y z:qF4} (w:World) (hy:qF1 w L r y) (hz:qF1 w L' r z) (hl:r.ss.length=r.sn∧r.ls.length=r.ln) (hle:qJ6 1048576 r) :
  Calls Tryz.prog 14 #[.agg #[.int .i64 y.i,.int .i64 y.u,.slice y.sa y.sn y.sc,.slice y.la y.ln y.lc],.agg #[.int .i64 z.i,.int .i64 z.u,.slice z.sa z.sn z.sc,.slice z.la z.ln z.lc]] w fun e w'=>e = .returned (.bool true)∧Below w.heap.size w w':=by
 have i1:=hy.isIn hl.1 hl.2
 have i2:=hz.isIn hl.1 hl.2
 have a1:=i1.said
 have a2:=i2.said
 have b1:=i1.locks
 have b2:=i2.locks
 rw [hy.sn,hy.ss] at a1
 rw [hz.sn,hz.ss] at a2
 rw [hy.ln,hy.ls] at b1
 rw [hz.ln,hz.ls] at b2
 rw [hy.i,hz.i,hy.u,hz.u,hy.sn,hz.sn,hy.ln,hz.ln]
 exact QB4 r.i r.u y.sa z.sa r.sn y.sc z.sc r.ss y.la z.la r.ln y.lc z.lc r.ls w hle.said hle.locks a1 a2 b1 b2

theorem newAt {w:World} {L:Nat} {r y:qF4} (h:qF1 w L r y):∀ p,y.la=some p→∃ b0 o0,p=⟨b0,o0,none⟩∧b0 < w.heap.size:=fun p q=>by
 obtain ⟨g,e,_,hg,_⟩:=h.la
 rw [e] at q
 cases q
 exact ⟨g,0,rfl,hg⟩

end Go.Proofs.YtlhgjackapdmbaaGreatDoor
