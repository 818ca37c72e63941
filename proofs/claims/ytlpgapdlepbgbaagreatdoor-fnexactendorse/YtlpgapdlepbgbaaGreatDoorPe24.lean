/- Contracts. -/
import Derived.Test.YtlpgapdlepbgbaaGreatDoorRows
import Derived.OpenVars
import Derived.Stop.LaidErr
import Derived.LaidLaws
import Derived.Test.YtlpgapdlepbgbaaGreatDoorPe20
import Derived.Shelf.SlSortCmp.WholeK
import Derived.Sort.OwnSorted
namespace Go.Proofs.YtlpgapdlepbgbaaGreatDoor
set_option maxRecDepth 100000
set_option maxHeartbeats 8000000
open Go.RowKit
set_option linter.unusedVariables false
set_option linter.unusedSimpArgs false

section
open Go.ChangeShapes Go.WideShapes Go.RowKit
def qN1 (g:Nat) (w:World):Prop:=∃ a:Addr,w.cell? ⟨g,0,none⟩=some (.iface 307 (.pointer (some a)))
theorem qN1.below {g:Nat} {w w':World} (h:qN1 g w) (hb:Below w.heap.size w w'):qN1 g w':=by
 obtain ⟨a,h⟩:=h
 exact ⟨a,(hb.cell (p:=⟨g,0,none⟩) (zL w ⟨g,0,none⟩ h)).trans h⟩
theorem Tryz.cellsES:Tryz.prog.cellsOf 331=1:=by kernel_rfl
theorem Tryz.cellsStr:Tryz.prog.cellsOf 9=1:=by kernel_rfl
theorem starES : "*" ++ "errors.errorString" = "*errors.errorString" := by decide
theorem Tryz.rowES (u:TypeId) (h:Tryz.prog.typeName? 3 u=some "*errors.errorString"):u=307 :=
 typeName_ptr_named (nm := "errors.errorString") (by rw [starES];kernel_rfl) (by kernel_rfl) (by decide) u (by rw [starES];exact h)
theorem vars_one {H:Type} {enc:TypeId × Value→H} {P:Program} {w:World} {sp:Nat→Bool} {n:String} {gs:List (DataW H)} {ps:List MemPlace} (h:DataW.TrodVars enc P w sp [n] gs ps):∃ g,gs=[g]:=by
 rcases gs with _ | ⟨g,_ | ⟨g2,r⟩⟩
 ·exact h.elim
 ·exact ⟨g,rfl⟩
 ·obtain ⟨_,_,_,_,_,_,_,_,_,_,hs,_⟩:=h
  exact hs.elim
end

section
open Go.RowKit Go.Sort Go.Proofs Go.Lib
def cmpI (x y:Int):Int:=if x < y then -1 else if y < x then 1 else 0
def orC (c d:Int):Int:=if c=0 then d else c
def cfR (p q:RoI):Int:=orC (cmpI p.1 q.1) (cmpI p.2 q.2)
end

def qQ9 (s:Int):Bool:=decide (0≤s)&&decide (s≤255)

section
open Go.RowKit Go.Sort
theorem QQ3 (s:Int) (w:World):Calls Tryz.prog 133 #[.int .i64 s] w fun e w'=>e = .returned (.int .i64 (if qQ9 s=true then 0 else 3))∧w=w':=by
 by_cases h0:0≤s
 ·by_cases h1:s≤255
  ·have h2:s < (256:Int):=by omega
   rw [show (if qQ9 s=true then (0:Int) else 3)=0 by simp [qQ9,h0,h1]]
   go_enter Tryz.func133,Tryz.ntmps133
   go_wp2
   go_ret
   exact ⟨rfl,rfl⟩
  ·have h2:(256:Int)≤s:=by omega
   rw [show (if qQ9 s=true then (0:Int) else 3)=3 by simp [qQ9,h1]]
   go_enter Tryz.func133,Tryz.ntmps133
   go_wp2
   go_ret
   exact ⟨rfl,rfl⟩
 ·have h2:s < (0:Int):=by omega
  rw [show (if qQ9 s=true then (0:Int) else 3)=3 by simp [qQ9,h0]]
  go_enter Tryz.func133,Tryz.ntmps133
  go_wp2
  go_ret
  exact ⟨rfl,rfl⟩
end

theorem l1Set_c (s:Int) (w:World):Calls Tryz.prog 124 #[.int .i64 s] w fun e w'=>e = .returned (.bool (qQ9 s))∧w=w':=by
 unfold qQ9
 cases h0:decide (0≤s)
 ·go_enter Tryz.func124,Tryz.ntmps124
  go_wp2
  go_ret
  exact ⟨by simp,rfl⟩
 ·have h0':=of_decide_eq_true h0
  cases h1:decide (s≤255)
  all_goals
   go_enter Tryz.func124,Tryz.ntmps124
   go_wp2
   go_ret
   exact ⟨by simp,rfl⟩

end Go.Proofs.YtlpgapdlepbgbaaGreatDoor
