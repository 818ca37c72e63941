/-
  CONTRACTS on rules in impl: bodyOf; the type switch.
  Conditions: each contract bears its own.
-/
import Derived.Test.YtaeigimgobilaaaGreatDoorRule0
namespace Go.Proofs.YtaeigimgobilaaaGreatDoor
open Go.RowKit
set_option linter.unusedVariables false
set_option linter.unusedSimpArgs false

set_option maxHeartbeats 400000 in
theorem bodyOf_1 (r : RuleI) (h : r.k = 1) (w : World) :
    Calls Tryz.prog 84 #[.agg #[.int .i64 r.k, .int .i64 r.ho, .int .i64 r.hn, .int .i64 r.w, .int .i64 r.oo, .int .i64 r.on, .int .i64 r.to, .int .i64 r.tn]] w fun e w' =>
      e = .returned (.iface 160 (.agg #[.int .i64 r.w])) ∧ Below w.heap.size w w' := by
  go_enter Tryz.func84, Tryz.ntmps84
  go_wp2
  go_ret
  exact ⟨rfl, by go_grown⟩

set_option maxHeartbeats 400000 in
theorem bodyOf_2 (r : RuleI) (h : r.k = 2) (w : World) :
    Calls Tryz.prog 84 #[.agg #[.int .i64 r.k, .int .i64 r.ho, .int .i64 r.hn, .int .i64 r.w, .int .i64 r.oo, .int .i64 r.on, .int .i64 r.to, .int .i64 r.tn]] w fun e w' =>
      e = .returned (.iface 162 (.agg #[.int .i64 r.oo, .int .i64 r.on])) ∧ Below w.heap.size w w' := by
  go_enter Tryz.func84, Tryz.ntmps84
  go_wp2
  go_ret
  exact ⟨rfl, by go_grown⟩

set_option maxHeartbeats 400000 in
theorem bodyOf_3 (r : RuleI) (h : r.k = 3) (w : World) :
    Calls Tryz.prog 84 #[.agg #[.int .i64 r.k, .int .i64 r.ho, .int .i64 r.hn, .int .i64 r.w, .int .i64 r.oo, .int .i64 r.on, .int .i64 r.to, .int .i64 r.tn]] w fun e w' =>
      e = .returned (.iface 164 (.agg #[.int .i64 r.oo, .int .i64 r.on, .int .i64 r.tn])) ∧ Below w.heap.size w w' := by
  go_enter Tryz.func84, Tryz.ntmps84
  go_wp2
  go_ret
  exact ⟨rfl, by go_grown⟩

set_option maxHeartbeats 400000 in
theorem bodyOf_4 (r : RuleI) (h : r.k = 4) (w : World) :
    Calls Tryz.prog 84 #[.agg #[.int .i64 r.k, .int .i64 r.ho, .int .i64 r.hn, .int .i64 r.w, .int .i64 r.oo, .int .i64 r.on, .int .i64 r.to, .int .i64 r.tn]] w fun e w' =>
      e = .returned (.iface 166 (.agg #[.int .i64 r.oo, .int .i64 r.on, .int .i64 r.to, .int .i64 r.tn])) ∧ Below w.heap.size w w' := by
  go_enter Tryz.func84, Tryz.ntmps84
  go_wp2
  go_ret
  exact ⟨rfl, by go_grown⟩

set_option maxHeartbeats 400000 in
theorem bodyOf_0 (r : RuleI) (h : ¬ (1 ≤ r.k ∧ r.k ≤ 4)) (w : World) :
    Calls Tryz.prog 84 #[.agg #[.int .i64 r.k, .int .i64 r.ho, .int .i64 r.hn, .int .i64 r.w, .int .i64 r.oo, .int .i64 r.on, .int .i64 r.to, .int .i64 r.tn]] w fun e w' =>
      e = .returned .nilIface ∧ Below w.heap.size w w' := by
  have h1 : (r.k == 1) = false := by simp; omega
  have h2 : (r.k == 2) = false := by simp; omega
  have h3 : (r.k == 3) = false := by simp; omega
  have h4 : (r.k == 4) = false := by simp; omega
  clear h
  go_enter Tryz.func84, Tryz.ntmps84
  go_wp2
  go_ret
  exact ⟨rfl, by go_grown⟩

theorem bcell2 {W w1 : World} (hb : Below W.heap.size W w1) : (∀ b o, b < W.heap.size → w1.cell? ⟨b, o, none⟩ = W.cell? ⟨b, o, none⟩) ∧ (∀ b o, b < W.heap.size → w1.frozen? ⟨b, o, none⟩ = W.frozen? ⟨b, o, none⟩) :=
  ⟨fun b o h => hb.cell (p := ⟨b, o, none⟩) h, fun b o h => hb.frozen (p := ⟨b, o, none⟩) h⟩

/-! The type switch: which body it is. -/
theorem ta11 (cs : Array Value) (w : World) : (Instr.typeAssert (.iface 160 (.agg cs)) 125 160 true).run Tryz.prog w = .ok (.tuple #[.agg cs, .bool true]) w := by kernel_rfl
theorem ta12 (cs : Array Value) (w : World) : (Instr.typeAssert (.iface 160 (.agg cs)) 125 162 true).run Tryz.prog w = .ok (.tuple #[.agg #[.int .i64 0, .int .i64 0], .bool false]) w := by kernel_rfl
theorem ta13 (cs : Array Value) (w : World) : (Instr.typeAssert (.iface 160 (.agg cs)) 125 164 true).run Tryz.prog w = .ok (.tuple #[.agg #[.int .i64 0, .int .i64 0, .int .i64 0], .bool false]) w := by kernel_rfl
theorem ta14 (cs : Array Value) (w : World) : (Instr.typeAssert (.iface 160 (.agg cs)) 125 166 true).run Tryz.prog w = .ok (.tuple #[.agg #[.int .i64 0, .int .i64 0, .int .i64 0, .int .i64 0], .bool false]) w := by kernel_rfl
theorem ta21 (cs : Array Value) (w : World) : (Instr.typeAssert (.iface 162 (.agg cs)) 125 160 true).run Tryz.prog w = .ok (.tuple #[.agg #[.int .i64 0], .bool false]) w := by kernel_rfl
theorem ta22 (cs : Array Value) (w : World) : (Instr.typeAssert (.iface 162 (.agg cs)) 125 162 true).run Tryz.prog w = .ok (.tuple #[.agg cs, .bool true]) w := by kernel_rfl
theorem ta23 (cs : Array Value) (w : World) : (Instr.typeAssert (.iface 162 (.agg cs)) 125 164 true).run Tryz.prog w = .ok (.tuple #[.agg #[.int .i64 0, .int .i64 0, .int .i64 0], .bool false]) w := by kernel_rfl
theorem ta24 (cs : Array Value) (w : World) : (Instr.typeAssert (.iface 162 (.agg cs)) 125 166 true).run Tryz.prog w = .ok (.tuple #[.agg #[.int .i64 0, .int .i64 0, .int .i64 0, .int .i64 0], .bool false]) w := by kernel_rfl
theorem ta31 (cs : Array Value) (w : World) : (Instr.typeAssert (.iface 164 (.agg cs)) 125 160 true).run Tryz.prog w = .ok (.tuple #[.agg #[.int .i64 0], .bool false]) w := by kernel_rfl
theorem ta32 (cs : Array Value) (w : World) : (Instr.typeAssert (.iface 164 (.agg cs)) 125 162 true).run Tryz.prog w = .ok (.tuple #[.agg #[.int .i64 0, .int .i64 0], .bool false]) w := by kernel_rfl
theorem ta33 (cs : Array Value) (w : World) : (Instr.typeAssert (.iface 164 (.agg cs)) 125 164 true).run Tryz.prog w = .ok (.tuple #[.agg cs, .bool true]) w := by kernel_rfl
theorem ta34 (cs : Array Value) (w : World) : (Instr.typeAssert (.iface 164 (.agg cs)) 125 166 true).run Tryz.prog w = .ok (.tuple #[.agg #[.int .i64 0, .int .i64 0, .int .i64 0, .int .i64 0], .bool false]) w := by kernel_rfl
theorem ta41 (cs : Array Value) (w : World) : (Instr.typeAssert (.iface 166 (.agg cs)) 125 160 true).run Tryz.prog w = .ok (.tuple #[.agg #[.int .i64 0], .bool false]) w := by kernel_rfl
theorem ta42 (cs : Array Value) (w : World) : (Instr.typeAssert (.iface 166 (.agg cs)) 125 162 true).run Tryz.prog w = .ok (.tuple #[.agg #[.int .i64 0, .int .i64 0], .bool false]) w := by kernel_rfl
theorem ta43 (cs : Array Value) (w : World) : (Instr.typeAssert (.iface 166 (.agg cs)) 125 164 true).run Tryz.prog w = .ok (.tuple #[.agg #[.int .i64 0, .int .i64 0, .int .i64 0], .bool false]) w := by kernel_rfl
theorem ta44 (cs : Array Value) (w : World) : (Instr.typeAssert (.iface 166 (.agg cs)) 125 166 true).run Tryz.prog w = .ok (.tuple #[.agg cs, .bool true]) w := by kernel_rfl
theorem below_new3 {w w1 : World} {o1 o2 o3 : Obj} (h : Below (((w.alloc o1).alloc o2).alloc o3).heap.size (((w.alloc o1).alloc o2).alloc o3) w1) : Below w.heap.size w w1 := below_new (below_new (below_new h))

end Go.Proofs.YtaeigimgobilaaaGreatDoor
