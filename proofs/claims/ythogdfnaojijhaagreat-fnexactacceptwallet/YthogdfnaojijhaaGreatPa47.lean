/- Contracts. -/
import Derived.Test.YthogdfnaojijhaaGreatPa45
namespace Go.Proofs.YthogdfnaojijhaaGreat
set_option maxRecDepth 100000
set_option maxHeartbeats 8000000
open Go.RowKit
set_option linter.unusedVariables false
set_option linter.unusedSimpArgs false

theorem cinQ_c (v lo hi:Int) (t:Bool) (h:inR v lo hi=t) (w:World):Calls Tryz.prog 65 #[.int .i64 v,.int .i64 lo,.int .i64 hi] w fun e w'=>e = .returned (.bool t)∧w'=w:=by
 rw [← h]
 exact (qL2 v lo hi w).mono fun e w' hh=>⟨hh.1,hh.2.symm⟩
theorem setQ_c (v:Int) (t:Bool) (h:qJ9 v=t) (w:World):Calls Tryz.prog 93 #[.int .i64 v] w fun e w'=>e = .returned (.bool t)∧w'=w:=by
 rw [← h]
 exact (l1Set_c v w).mono fun e w' hh=>⟨hh.1,hh.2.symm⟩

end Go.Proofs.YthogdfnaojijhaaGreat
