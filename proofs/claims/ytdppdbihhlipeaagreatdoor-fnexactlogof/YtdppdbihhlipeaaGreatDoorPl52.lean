/- Contracts. -/
import Derived.Test.YtdppdbihhlipeaaGreatDoorPl50
import Derived.Test.YtdppdbihhlipeaaGreatDoorPl51
namespace Go.Proofs.YtdppdbihhlipeaaGreatDoor
set_option maxRecDepth 100000
set_option maxHeartbeats 8000000
open Go.RowKit
set_option linter.unusedVariables false
set_option linter.unusedSimpArgs false

section
open Go.RowKit Go.ChangeShapes Go.WideShapes
theorem Tryz.cells25:Tryz.prog.cellsOf 25=4:=by kernel_rfl
theorem Tryz.cells22:Tryz.prog.cellsOf 22=1:=by kernel_rfl
theorem Tryz.cells23:Tryz.prog.cellsOf 23=1:=by kernel_rfl
theorem listRe {α:Type} {l:List α} (h:l.length=4):∃ c0 c1 c2 c3,l=[c0,c1,c2,c3]:=by
 match l,h with
 | [c0,c1,c2,c3],_=>exact ⟨c0,c1,c2,c3,rfl⟩
theorem sts_val {H:Type} {enc:TypeId × Value→H} {w:World} {base:Nat} {spare:Nat→Bool} {held:Bool} {fuel:Nat} {cs:List Value} {x:DataW H × List MemPlace} (h:DataW.trod enc Tryz.prog w base spare held fuel 22 cs=some x) :
  ∃ a n c,cs=[.slice a n c]:=by
 rcases Go.Deep.open_slice Tryz.underlying22 h with ⟨hcs,_⟩ | ⟨a,l,c,m,n,D,Pl,hcs,_⟩
 ·exact ⟨_,_,_,hcs⟩
 ·exact ⟨_,_,_,hcs⟩
theorem lks_val {H:Type} {enc:TypeId × Value→H} {w:World} {base:Nat} {spare:Nat→Bool} {held:Bool} {fuel:Nat} {cs:List Value} {x:DataW H × List MemPlace} (h:DataW.trod enc Tryz.prog w base spare held fuel 23 cs=some x) :
  ∃ a n c,cs=[.slice a n c]:=by
 rcases Go.Deep.open_slice Tryz.underlying23 h with ⟨hcs,_⟩ | ⟨a,l,c,m,n,D,Pl,hcs,_⟩
 ·exact ⟨_,_,_,hcs⟩
 ·exact ⟨_,_,_,hcs⟩
theorem rep_list {H:Type} {enc:TypeId × Value→H} {w:World} {base:Nat} {spare:Nat→Bool} {held:Bool} {fuel:Nat} {cs:List Value} {x:DataW H × List MemPlace} (h:DataW.trod enc Tryz.prog w base spare held fuel 25 cs=some x) :
  ∃ r:qG5,cs=[.int .i64 r.i,.int .i64 r.u,.slice r.sa r.sn r.sc,.slice r.la r.ln r.lc]∧qD8 w r∧qK5 maxLen r:=by
 obtain ⟨xs,n,_,_,hl,hlen,hf⟩:=DataW.trod_struct Tryz.underlying25 h
 rw [Tryz.cells25] at hl
 obtain ⟨c0,c1,c2,c3,rfl⟩:=listRe hl
 obtain ⟨y0,y1,y2,y3,rfl⟩:=listRe hlen
 have g0:=hf 0 _ rfl
 have g1:=hf 1 _ rfl
 have g2:=hf 2 _ rfl
 have g3:=hf 3 _ rfl
 simp [cells64St,Tryz.cells22,Tryz.cells23] at g0 g1 g2 g3
 obtain ⟨e0,q0,_,_⟩:=DataW.trod_int Tryz.underlying2 g0
 obtain ⟨e1,q1,_,_⟩:=DataW.trod_int Tryz.underlying2 g1
 obtain ⟨sa,sn,sc,q2⟩:=sts_val g2
 obtain ⟨la,ln,lc,q3⟩:=lks_val g3
 simp at q0 q1 q2 q3
 subst q0 q1 q2 q3
 obtain ⟨ss,hs⟩:=QH6 g2
 obtain ⟨ls,hl⟩:=locks_shape g3
 exact ⟨⟨e0,e1,sa,sn,sc,ss,la,ln,lc,ls⟩,rfl,⟨hs.1,hl.1⟩,⟨hs.2,hl.2⟩⟩
theorem rep_shape {H:Type} {enc:TypeId × Value→H} {w:World} {base:Nat} {spare:Nat→Bool} {held:Bool} {fuel:Nat} (cs:Array Value) {x:DataW H × List MemPlace} (h:DataW.trod enc Tryz.prog w base spare held fuel 25 cs.toList=some x) :
  ∃ r:qG5,cs = #[.int .i64 r.i,.int .i64 r.u,.slice r.sa r.sn r.sc,.slice r.la r.ln r.lc]∧qD8 w r∧qK5 maxLen r:=by
 obtain ⟨r,e,h1,h2⟩:=rep_list h
 exact ⟨r,by cases cs;simp_all,h1,h2⟩
end

end Go.Proofs.YtdppdbihhlipeaaGreatDoor
