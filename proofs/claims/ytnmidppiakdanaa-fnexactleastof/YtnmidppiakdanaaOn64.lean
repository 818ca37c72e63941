/-
  CONTRACT: math/bits.OnesCount of small numbers.
  Conditions: each contract bears its own.
-/
import Derived.Test.YtnmidppiakdanaaTl0
import Derived.Test.YtnmidppiakdanaaSpec1
namespace Go.Proofs.Ytnmidppiakdanaa
open Go.RowKit
set_option linter.unusedVariables false
set_option linter.unusedSimpArgs false

def q1 (x : Int) : Int := IntKind.u64.wrap (bits .and .u64 (x / 2) 6148914691236517205 + bits .and .u64 x 6148914691236517205)
def q2 (x : Int) : Int := IntKind.u64.wrap (bits .and .u64 (x / 4) 3689348814741910323 + bits .and .u64 x 3689348814741910323)
def q3 (x : Int) : Int := bits .and .u64 (IntKind.u64.wrap (x / 16 + x)) 1085102592571150095
def q4 (x : Int) : Int := IntKind.u64.wrap (x + x / 256)
def q5 (x : Int) : Int := IntKind.u64.wrap (x + x / 65536)
def q6 (x : Int) : Int := IntKind.u64.wrap (x + x / 4294967296)
theorem ones64_eq : ∀ n : Fin 256, bits .and .i64 (wrap64 (q6 (q5 (q4 (q3 (q2 (q1 (n.val : Int)))))))) 127 = (pcN n.val : Int) := by decide +kernel

set_option maxRecDepth 100000 in
set_option maxHeartbeats 1000000 in
theorem ones64_c (x : Nat) (hx : x < 256) (w : World) :
    Calls Try.prog 140 #[.int .u64 (x : Int)] w fun e w' => e = .returned (.int .i64 (pcN x : Int)) ∧ w = w' := by
  go_enter Try.func140, Try.ntmps140
  go_wp2
  go_ret
  refine ⟨congrArg (fun z => Ending.returned (Value.int .i64 z)) (?_ : _ = (pcN x : Int)), rfl⟩
  have h := ones64_eq ⟨x, hx⟩
  simp only [q1, q2, q3, q4, q5, q6] at h
  exact h

set_option maxRecDepth 100000 in
set_option maxHeartbeats 1000000 in
theorem ones_small (x : Nat) (hx : x < 256) (w : World) :
    Calls Try.prog 104 #[.int .u64 (x : Int)] w fun e w' => e = .returned (.int .i64 (pcN x : Int)) ∧ w = w' := by
  go_enter Try.func104, Try.ntmps104
  go_wp2_with (first | (go_at_call 140; refine (ones64_c x hx _).mono ?_; rintro e w1 ⟨rfl, rfl⟩) | fail)
  go_ret
  exact ⟨rfl, rfl⟩

end Go.Proofs.Ytnmidppiakdanaa
