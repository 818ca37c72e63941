/- Contracts. -/
import Derived.Test.YthogdfnaojijhaaGreatPa19
namespace Go.Proofs.YthogdfnaojijhaaGreat
set_option maxRecDepth 100000
set_option maxHeartbeats 8000000
open Go.RowKit
set_option linter.unusedVariables false
set_option linter.unusedSimpArgs false

section
open Go.RowKit Go.Sort
theorem QD4 (s:Int) (w:World):Calls Tryz.prog 135 #[.int .i64 s] w fun e w'=>e = .returned (.int .i64 (if qJ9 s=true then 0 else 3))∧w=w':=by
 by_cases h0:0≤s
 ·by_cases h1:s≤255
  ·have h2:s < (256:Int):=by omega
   rw [show (if qJ9 s=true then (0:Int) else 3)=0 by simp [qJ9,h0,h1]]
   go_enter Tryz.func135,Tryz.ntmps135
   go_wp2
   go_ret
   exact ⟨rfl,rfl⟩
  ·have h2:(256:Int)≤s:=by omega
   rw [show (if qJ9 s=true then (0:Int) else 3)=3 by simp [qJ9,h1]]
   go_enter Tryz.func135,Tryz.ntmps135
   go_wp2
   go_ret
   exact ⟨rfl,rfl⟩
 ·have h2:s < (0:Int):=by omega
  rw [show (if qJ9 s=true then (0:Int) else 3)=3 by simp [qJ9,h0]]
  go_enter Tryz.func135,Tryz.ntmps135
  go_wp2
  go_ret
  exact ⟨rfl,rfl⟩
end

theorem l1Set_c (s:Int) (w:World):Calls Tryz.prog 93 #[.int .i64 s] w fun e w'=>e = .returned (.bool (qJ9 s))∧w=w':=by
 unfold qJ9
 cases h0:decide (0≤s)
 ·go_enter Tryz.func93,Tryz.ntmps93
  go_wp2
  go_ret
  exact ⟨by simp,rfl⟩
 ·have h0':=of_decide_eq_true h0
  cases h1:decide (s≤255)
  all_goals
   go_enter Tryz.func93,Tryz.ntmps93
   go_wp2
   go_ret
   exact ⟨by simp,rfl⟩

end Go.Proofs.YthogdfnaojijhaaGreat
