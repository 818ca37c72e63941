/- Contracts. -/
import Derived.Test.YtlhgjackapdmbaaGreatDoorPv08
import Derived.Test.YtlhgjackapdmbaaGreatDoorPv22
import Derived.Shelf.SlSortCmp.WholeK
import Derived.Sort.OwnSorted
namespace Go.Proofs.YtlhgjackapdmbaaGreatDoor
set_option maxRecDepth 100000
set_option maxHeartbeats 8000000
open Go.RowKit
set_option linter.unusedVariables false
set_option linter.unusedSimpArgs false

theorem iBad_c (v:Int) (w:World):Calls Tryz.prog 146 #[.int .i64 v] w fun e w'=>e = .returned (.bool (inR v 1 2))∧w=w':=by
 unfold inR
 cases h0:decide (1≤v)
 ·go_enter Tryz.func146,Tryz.ntmps146
  go_wp2
  go_ret
  exact ⟨by simp,rfl⟩
 ·cases h1:decide (v≤2)
  all_goals
   go_enter Tryz.func146,Tryz.ntmps146
   go_wp2
   go_ret
   exact ⟨by simp,rfl⟩
theorem l6F_c (v:Int) (w:World):Calls Tryz.prog 113 #[.int .i64 v] w fun e w'=>e = .returned (.bool (inR v 1 2))∧w=w':=by
 go_enter Tryz.func113,Tryz.ntmps113
 go_wp2_with (go_at_call 51;refine (qX5 _ _ _ _).mono ?_;rintro e w' ⟨rfl,rfl⟩)
 go_ret
 exact ⟨rfl,rfl⟩
def GivesNF (fn:Nat) (f c v:Int) (w:World):Prop:=Calls Tryz.prog fn #[.int .i64 f] w fun e w'=>e = .returned (.agg #[.int .i64 c,.int .i64 v])∧Below w.heap.size w w'
def nfCode (f:Int):Int:=if inR f 1 2=true then 0 else 3
def nfVal (k f:Int):Int:=if inR f 1 2=true then k * f+1 else 0
theorem QG6 (f:Int) (w:World):GivesNF 92 f (nfCode f) (nfVal 3 f) w:=by
 unfold GivesNF nfCode nfVal
 cases h:inR f 1 2
 ·have H:Hid (inR f 1 2=false):=h
  clear h
  simp only [Bool.false_eq_true,if_false]
  go_enter Tryz.func92,Tryz.ntmps92
  go_wp2_with (first | (go_at_call 146;refine (iBad_c _ _).mono ?_;rintro e w' ⟨rfl,rfl⟩;rw [H.out]) | go_in)
  go_returns
  exact ⟨rfl,by go_grown⟩
 ·have H:Hid (inR f 1 2=true):=h
  obtain ⟨h1,h2⟩:=(qG4 f 1 2).1 h
  clear h
  simp only [if_true]
  go_enter Tryz.func92,Tryz.ntmps92
  go_wp2_with (first | (go_at_call 146;refine (iBad_c _ _).mono ?_;rintro e w' ⟨rfl,rfl⟩;rw [H.out]) | go_in)
  go_returns
  exact ⟨rfl,by go_grown⟩

section
open Go.RowKit Go.Sort Go.Proofs Go.Lib
def cmpI (x y:Int):Int:=if x < y then -1 else if y < x then 1 else 0
def orC (c d:Int):Int:=if c=0 then d else c
def cfR (p q:RoI):Int:=orC (cmpI p.1 q.1) (cmpI p.2 q.2)
end

end Go.Proofs.YtlhgjackapdmbaaGreatDoor
