/- Contracts. -/
import Derived.Test.YtlhgjackapdmbaaGreatDoorPq23
import Derived.Test.YtlhgjackapdmbaaGreatDoorPq22
namespace Go.Proofs.YtlhgjackapdmbaaGreatDoor
set_option maxRecDepth 100000
set_option maxHeartbeats 8000000
open Go.RowKit
set_option linter.unusedVariables false
set_option linter.unusedSimpArgs false

def qP5 (s:Int):Bool:=decide (0≤s)&&decide (s≤255)

section
open Go.RowKit Go.Sort
theorem QO1 (s:Int) (w:World):Calls Tryz.prog 133 #[.int .i64 s] w fun e w'=>e = .returned (.int .i64 (if qP5 s=true then 0 else 3))∧w=w':=by
 by_cases h0:0≤s
 ·by_cases h1:s≤255
  ·have h2:s < (256:Int):=by omega
   rw [show (if qP5 s=true then (0:Int) else 3)=0 by simp [qP5,h0,h1]]
   go_enter Tryz.func133,Tryz.ntmps133
   go_wp2
   go_ret
   exact ⟨rfl,rfl⟩
  ·have h2:(256:Int)≤s:=by omega
   rw [show (if qP5 s=true then (0:Int) else 3)=3 by simp [qP5,h1]]
   go_enter Tryz.func133,Tryz.ntmps133
   go_wp2
   go_ret
   exact ⟨rfl,rfl⟩
 ·have h2:s < (0:Int):=by omega
  rw [show (if qP5 s=true then (0:Int) else 3)=3 by simp [qP5,h0]]
  go_enter Tryz.func133,Tryz.ntmps133
  go_wp2
  go_ret
  exact ⟨rfl,rfl⟩
end

theorem l1Set_c (s:Int) (w:World):Calls Tryz.prog 124 #[.int .i64 s] w fun e w'=>e = .returned (.bool (qP5 s))∧w=w':=by
 unfold qP5
 cases h0:decide (0≤s)
 ·go_enter Tryz.func124,Tryz.ntmps124
  go_wp2
  go_ret
  exact ⟨by simp,rfl⟩
 ·have h0':=of_decide_eq_true h0
  cases h1:decide (s≤255)
  all_goals
   go_enter Tryz.func124,Tryz.ntmps124
   go_wp2
   go_ret
   exact ⟨by simp,rfl⟩

end Go.Proofs.YtlhgjackapdmbaaGreatDoor
