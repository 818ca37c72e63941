/- Contracts. -/
import Derived.Test.YtdppdbihhlipeaaGreatDoorPr32
import Derived.Shelf.SlMaps.Clone
import Derived.Test.YtdppdbihhlipeaaGreatDoorPr23
import Derived.Shelf.SlSortCmp.WholeK
import Derived.Sort.OwnSorted
import Derived.Test.YtdppdbihhlipeaaGreatDoorPr24
namespace Go.Proofs.YtdppdbihhlipeaaGreatDoor
set_option maxRecDepth 100000
set_option maxHeartbeats 8000000
open Go.RowKit
set_option linter.unusedVariables false
set_option linter.unusedSimpArgs false

section
open Go.RowKit Go.Maps Go.Proofs
theorem qLX (b:Nat) (f:RoI->Int) (r:qA2) (w:World) (h:GM w b f) (hc:qA8 r=0) :
  Calls Tryz.prog 222 #[.map (some b),.agg #[.int .i64 r.k,.int .i64 r.ho,.int .i64 r.hn,.int .i64 r.w,.int .i64 r.oo,.int .i64 r.on,.int .i64 r.to,.int .i64 r.tn]] w fun e w'=>e = .returned (.int .u8 (byF f r))/\Below w.heap.size w w':=by
 have hk:=qW3 hc;have h4:r.k=1\/r.k=2\/r.k=3\/r.k=4:=by omega
 rcases h4 with e | e | e | e
 ·exact qLb b f r w h hc e
 ·exact qLa b f r w h hc e
 ·exact qLZ b f r w h hc e
 ·exact qLY b f r w h hc e
theorem Below.turn {B:Nat} {w w1 w2:World} {b:Nat} (h:Below B w w1) (hB:B<=w1.heap.size) (hb:B<=b) (hg:w1.grownBy w2 (some b)):Below B w w2:=h.grown hg hB (fun k e=>by cases e;exact hb)
end

section
open Go.RowKit Go.Sort Go.Proofs Go.Lib
def qND (x y:Int):Int:=if x < y then -1 else if y < x then 1 else 0
def orC (c d:Int):Int:=if c=0 then d else c
def cfR (p q:RoI):Int:=orC (qND p.1 q.1) (qND p.2 q.2)
end

def qQ2 (s:Int):Bool:=decide (0<=s)&&decide (s<=255)

section
open Go.RowKit Go.Sort
theorem QS2 (s:Int) (w:World):Calls Tryz.prog 151 #[.int .i64 s] w fun e w'=>e = .returned (.int .i64 (if qQ2 s=true then 0 else 3))/\w=w':=by
 by_cases h0:0<=s
 ·by_cases h1:s<=255
  ·have h2:s < (256:Int):=by omega
   rw [show (if qQ2 s=true then (0:Int) else 3)=0 by simp [qQ2,h0,h1]];go_enter Tryz.func151,Tryz.ntmps151;go_wp2;go_ret;exact ⟨rfl,rfl⟩
  ·have h2:(256:Int)<=s:=by omega
   rw [show (if qQ2 s=true then (0:Int) else 3)=3 by simp [qQ2,h1]];go_enter Tryz.func151,Tryz.ntmps151;go_wp2;go_ret;exact ⟨rfl,rfl⟩
 ·have h2:s < (0:Int):=by omega
  rw [show (if qQ2 s=true then (0:Int) else 3)=3 by simp [qQ2,h0]];go_enter Tryz.func151,Tryz.ntmps151;go_wp2;go_ret;exact ⟨rfl,rfl⟩
end

theorem qKs (s:Int) (w:World):Calls Tryz.prog 125 #[.int .i64 s] w fun e w'=>e = .returned (.bool (qQ2 s))/\w=w':=by
 unfold qQ2;cases h0:decide (0<=s)
 ·go_enter Tryz.func125,Tryz.ntmps125;go_wp2;go_ret;exact ⟨by simp,rfl⟩
 ·have h0':=of_decide_eq_true h0;cases h1:decide (s<=255)
  all_goals
   go_enter Tryz.func125,Tryz.ntmps125;go_wp2;go_ret;exact ⟨by simp,rfl⟩
