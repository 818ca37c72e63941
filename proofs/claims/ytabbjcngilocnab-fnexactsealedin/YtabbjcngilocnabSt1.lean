/-
  CONTRACTS: StatementFault of both programs.
  Conditions: each contract bears its own.
-/
import Derived.Test.YtabbjcngilocnabSt0
import Derived.Test.YtabbjcngilocnabCl0
import Derived.Test.YtabbjcngilocnabPlain
import Derived.Laws.StructEq
namespace Go.Proofs.Ytabbjcngilocnab
open Go.RowKit
set_option linter.unusedVariables false
set_option linter.unusedSimpArgs false

/-- The word of a kind. -/
def swT (k : Int) : ByteArray := if k = 1 then ⟨#[105, 115, 115, 117, 101]⟩ else if k = 2 then ⟨#[114, 101, 118, 111, 107, 101]⟩ else if k = 3 then ⟨#[110, 101, 120, 116]⟩ else if k = 4 then ⟨#[116, 97, 107, 101]⟩ else ⟨#[]⟩

/-- A kind that has a form and a set. -/
def formK (k : Int) : Bool := decide (k = 1) || decide (k = 2)

def ownI (x : StI) : StI := if formK x.k = true then ⟨x.k, x.e, x.f, x.s, 0⟩ else ⟨x.k, x.e, 0, 0, x.n⟩

def sameSt (x y : StI) : Bool := decide (x = y)

def ownB (x : StI) : Bool := sameSt x (ownI x)

def rngB (x : StI) : Bool := if inR x.e 1 9 = false then false else if formK x.k = true then (if inR x.f 1 4 = false then false else inR x.s 1 255) else inR x.n 0 7

def stCode (x : StI) : Int := if inR x.k 1 4 = false then 1 else if ownB x = false then 1 else if rngB x = false then 3 else 0

theorem byteEq_of {a b : ByteArray} (h : a = b) : (a.toList == b.toList) = true := by subst h; simp

theorem byteNe_of {a b : ByteArray} (h : a ≠ b) : (a.toList == b.toList) = false := by
  rw [beq_eq_false_iff_ne]
  intro e
  rw [ByteArray.toList_eq, ByteArray.toList_eq] at e
  exact h (WideShapes.bytes_inj e)

theorem sw_in {k : Int} (h : inR k 1 4 = true) : swT k ≠ ⟨#[]⟩ := by
  rw [inR_iff] at h
  have : k = 1 ∨ k = 2 ∨ k = 3 ∨ k = 4 := by omega
  rcases this with rfl | rfl | rfl | rfl <;> (intro e; have := congrArg (fun b : ByteArray => b.data.size) e; simp [swT] at this)

theorem sw_out {k : Int} (h : inR k 1 4 = false) : swT k = ⟨#[]⟩ := by
  have h' : ¬ (1 ≤ k ∧ k ≤ 4) := fun q => by rw [← inR_iff, h] at q; cases q
  unfold swT
  rw [if_neg (by omega), if_neg (by omega), if_neg (by omega), if_neg (by omega)]

def setCode (v : Int) : Int := if inR v 0 255 = true then 0 else 3

theorem sameSt_mk (a0 a1 a2 a3 a4 b0 b1 b2 b3 b4 : Int) : sameSt ⟨a0, a1, a2, a3, a4⟩ ⟨b0, b1, b2, b3, b4⟩ = (a0 == b0 && a1 == b1 && a2 == b2 && a3 == b3 && a4 == b4) := by
  unfold sameSt
  rw [Bool.eq_iff_iff]
  simp only [decide_eq_true_eq, StI.mk.injEq, Bool.and_eq_true, beq_iff_eq]
  constructor
  · rintro ⟨h0, h1, h2, h3, h4⟩; exact ⟨⟨⟨⟨h0, h1⟩, h2⟩, h3⟩, h4⟩
  · rintro ⟨⟨⟨⟨h0, h1⟩, h2⟩, h3⟩, h4⟩; exact ⟨h0, h1, h2, h3, h4⟩

set_option maxHeartbeats 1000000 in
theorem st_eql (x y : StI) (w : World) : (binOp .eql 46 (.agg #[.int .i64 x.k, .int .i64 x.e, .int .i64 x.f, .int .i64 x.s, .int .i64 x.n]) (.agg #[.int .i64 y.k, .int .i64 y.e, .int .i64 y.f, .int .i64 y.s, .int .i64 y.n])).run Try.prog w = .ok (.bool (sameSt x y)) w := by
  obtain ⟨a0, a1, a2, a3, a4⟩ := x
  obtain ⟨b0, b1, b2, b3, b4⟩ := y
  simp only
  rw [sameSt_mk]
  cases e0 : (a0 == b0)
  · simp [go_sem, e0]
  cases e1 : (a1 == b1)
  · simp [go_sem, e0, e1]
  cases e2 : (a2 == b2)
  · simp [go_sem, e0, e1, e2]
  cases e3 : (a3 == b3)
  · simp [go_sem, e0, e1, e2, e3]
  cases e4 : (a4 == b4)
  · simp [go_sem, e0, e1, e2, e3, e4]
  · simp [go_sem, e0, e1, e2, e3, e4]

end Go.Proofs.Ytabbjcngilocnab
