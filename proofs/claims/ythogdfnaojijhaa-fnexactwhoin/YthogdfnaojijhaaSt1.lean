/-
  CONTRACTS: StatementFault of both programs.
  Conditions: each contract bears its own.
-/
import Derived.Test.YthogdfnaojijhaaSt0
import Derived.Test.YthogdfnaojijhaaCl0
import Derived.Test.YthogdfnaojijhaaPlain
import Derived.Laws.StructEq
namespace Go.Proofs.Ythogdfnaojijhaa
open Go.RowKit
set_option linter.unusedVariables false
set_option linter.unusedSimpArgs false

/-- The word of a kind. -/
def swT (k : Int) : ByteArray := if k = 1 then ⟨#[105, 115, 115, 117, 101]⟩ else if k = 2 then ⟨#[114, 101, 118, 111, 107, 101]⟩ else if k = 3 then ⟨#[110, 101, 120, 116]⟩ else if k = 4 then ⟨#[116, 97, 107, 101]⟩ else ⟨#[]⟩

/-- A kind that has a form and a set. -/
def formK (k : Int) : Bool := decide (k = 1) || decide (k = 2)

def ownI (x : StI) : StI := if formK x.k = true then ⟨x.k, x.e, x.f, x.s, 0⟩ else ⟨x.k, x.e, 0, 0, x.n⟩

def sameSt (x y : StI) : Bool := decide (x = y)

def ownB (x : StI) : Bool := sameSt x (ownI x)

def rngB (x : StI) : Bool := if inR x.e 1 9 = false then false else if formK x.k = true then (if inR x.f 1 4 = false then false else inR x.s 1 255) else inR x.n 0 7

def stCode (x : StI) : Int := if inR x.k 1 4 = false then 1 else if ownB x = false then 1 else if rngB x = false then 3 else 0

set_option maxHeartbeats 400000 in
theorem sayWord_c (k : Int) (w : World) : Calls Try.prog 63 #[.int .i64 k] w fun e w' => e = .returned (.string (swT k)) ∧ w = w' := by
  unfold swT
  by_cases h1 : k = 1
  · subst h1; go_enter Try.func63, Try.ntmps63; go_wp2; go_ret; exact ⟨rfl, rfl⟩
  by_cases h2 : k = 2
  · subst h2; go_enter Try.func63, Try.ntmps63; go_wp2; go_ret; exact ⟨rfl, rfl⟩
  by_cases h3 : k = 3
  · subst h3; go_enter Try.func63, Try.ntmps63; go_wp2; go_ret; exact ⟨rfl, rfl⟩
  by_cases h4 : k = 4
  · subst h4; go_enter Try.func63, Try.ntmps63; go_wp2; go_ret; exact ⟨rfl, rfl⟩
  rw [if_neg h1, if_neg h2, if_neg h3, if_neg h4]
  go_enter Try.func63, Try.ntmps63; go_wp2; go_ret; exact ⟨rfl, rfl⟩

theorem byteEq_of {a b : ByteArray} (h : a = b) : (a.toList == b.toList) = true := by subst h; simp

theorem byteNe_of {a b : ByteArray} (h : a ≠ b) : (a.toList == b.toList) = false := by
  rw [beq_eq_false_iff_ne]
  intro e
  rw [ByteArray.toList_eq, ByteArray.toList_eq] at e
  exact h (WideShapes.bytes_inj e)

theorem sw_in {k : Int} (h : inR k 1 4 = true) : swT k ≠ ⟨#[]⟩ := by
  rw [inR_iff] at h
  have : k = 1 ∨ k = 2 ∨ k = 3 ∨ k = 4 := by omega
  rcases this with rfl | rfl | rfl | rfl <;> (intro e; have := congrArg (fun b : ByteArray => b.data.size) e; simp [swT] at this)

theorem sw_out {k : Int} (h : inR k 1 4 = false) : swT k = ⟨#[]⟩ := by
  have h' : ¬ (1 ≤ k ∧ k ≤ 4) := fun q => by rw [← inR_iff, h] at q; cases q
  unfold swT
  rw [if_neg (by omega), if_neg (by omega), if_neg (by omega), if_neg (by omega)]

set_option maxHeartbeats 400000 in
theorem saysForm_c (k : Int) (w : World) : Calls Try.prog 76 #[.int .i64 k] w fun e w' => e = .returned (.bool (formK k)) ∧ w = w' := by
  unfold formK
  by_cases h1 : k = 1
  · subst h1; go_enter Try.func76, Try.ntmps76; go_wp2; go_ret; exact ⟨rfl, rfl⟩
  by_cases h2 : k = 2
  · subst h2; go_enter Try.func76, Try.ntmps76; go_wp2; go_ret; exact ⟨rfl, rfl⟩
  go_enter Try.func76, Try.ntmps76; go_wp2; go_ret; exact ⟨by simp [h1, h2], rfl⟩

set_option maxHeartbeats 400000 in
theorem isNext_c (v : Int) (w : World) : Calls Try.prog 79 #[.int .i64 v] w fun e w' => e = .returned (.bool (inR v 0 7)) ∧ w = w' := by
  unfold inR
  cases h0 : decide (0 ≤ v)
  · go_enter Try.func79, Try.ntmps79
    go_wp2
    go_ret
    exact ⟨by simp, rfl⟩
  · cases h1 : decide (v ≤ 7)
    all_goals
      go_enter Try.func79, Try.ntmps79
      go_wp2
      go_ret
      exact ⟨by simp, rfl⟩

def setCode (v : Int) : Int := if inR v 0 255 = true then 0 else 3

set_option maxHeartbeats 400000 in
theorem iSetFault_c (v : Int) (w : World) : Calls Try.prog 72 #[.int .i64 v] w fun e w' => e = .returned (.int .i64 (setCode v)) ∧ w = w' := by
  by_cases q0 : 0 ≤ v
  · by_cases q1 : v < 256
    · have e0 : setCode v = 0 := by unfold setCode; rw [if_pos ((inR_iff _ _ _).2 ⟨by omega, by omega⟩)]
      rw [e0]
      clear e0
      go_enter Try.func72, Try.ntmps72
      go_wp2
      go_ret
      exact ⟨rfl, rfl⟩
    · have e0 : setCode v = 3 := by unfold setCode; rw [if_neg (fun h => by rw [inR_iff] at h; omega)]
      rw [e0]
      clear e0
      have q2 : (256 : Int) ≤ v := by omega
      go_enter Try.func72, Try.ntmps72
      go_wp2
      go_ret
      exact ⟨rfl, rfl⟩
  · have e0 : setCode v = 3 := by unfold setCode; rw [if_neg (fun h => by rw [inR_iff] at h; omega)]
    rw [e0]
    clear e0
    have q2 : v < (0 : Int) := by omega
    go_enter Try.func72, Try.ntmps72
    go_wp2
    go_ret
    exact ⟨rfl, rfl⟩

set_option maxHeartbeats 1000000 in
theorem own_c (x : StI) (w : World) : Calls Try.prog 64 #[.agg #[.int .i64 x.k, .int .i64 x.e, .int .i64 x.f, .int .i64 x.s, .int .i64 x.n]] w fun e w' => e = .returned (.agg #[.int .i64 (ownI x).k, .int .i64 (ownI x).e, .int .i64 (ownI x).f, .int .i64 (ownI x).s, .int .i64 (ownI x).n]) ∧ Below w.heap.size w w' := by
  unfold ownI
  cases hk : formK x.k
  all_goals
    go_enter Try.func64, Try.ntmps64
    go_wp2_with (go_at_call 76; refine (saysForm_c _ _).mono ?_; rintro e w' ⟨rfl, rfl⟩; rw [hk])
    go_returns
    exact ⟨rfl, by go_grown⟩

theorem sameSt_mk (a0 a1 a2 a3 a4 b0 b1 b2 b3 b4 : Int) : sameSt ⟨a0, a1, a2, a3, a4⟩ ⟨b0, b1, b2, b3, b4⟩ = (a0 == b0 && a1 == b1 && a2 == b2 && a3 == b3 && a4 == b4) := by
  unfold sameSt
  rw [Bool.eq_iff_iff]
  simp only [decide_eq_true_eq, StI.mk.injEq, Bool.and_eq_true, beq_iff_eq]
  constructor
  · rintro ⟨h0, h1, h2, h3, h4⟩; exact ⟨⟨⟨⟨h0, h1⟩, h2⟩, h3⟩, h4⟩
  · rintro ⟨⟨⟨⟨h0, h1⟩, h2⟩, h3⟩, h4⟩; exact ⟨h0, h1, h2, h3, h4⟩

set_option maxHeartbeats 1000000 in
theorem st_eql (x y : StI) (w : World) : (binOp .eql 36 (.agg #[.int .i64 x.k, .int .i64 x.e, .int .i64 x.f, .int .i64 x.s, .int .i64 x.n]) (.agg #[.int .i64 y.k, .int .i64 y.e, .int .i64 y.f, .int .i64 y.s, .int .i64 y.n])).run Try.prog w = .ok (.bool (sameSt x y)) w := by
  obtain ⟨a0, a1, a2, a3, a4⟩ := x
  obtain ⟨b0, b1, b2, b3, b4⟩ := y
  simp only
  rw [sameSt_mk]
  cases e0 : (a0 == b0)
  · simp [go_sem, e0]
  cases e1 : (a1 == b1)
  · simp [go_sem, e0, e1]
  cases e2 : (a2 == b2)
  · simp [go_sem, e0, e1, e2]
  cases e3 : (a3 == b3)
  · simp [go_sem, e0, e1, e2, e3]
  cases e4 : (a4 == b4)
  · simp [go_sem, e0, e1, e2, e3, e4]
  · simp [go_sem, e0, e1, e2, e3, e4]

end Go.Proofs.Ythogdfnaojijhaa
