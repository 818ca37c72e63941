/-
  CONTRACTS: what leaves the reading of a statement by a panic, and who hears of it (impl's demand and readOrTell).
  Conditions: the variable errUnreadable holds an error, where the panic is met.
-/
import Derived.Test.YtnlmoapopdchkaaDoorSt4
import Derived.Test.YtnlmoapopdchkaaDoorEr0
import Derived.WalkLawsBesides
import Derived.Defers
import Derived.Recover
namespace Go.Proofs.YtnlmoapopdchkaaDoor
open Go.RowKit
set_option linter.unusedVariables false
set_option linter.unusedSimpArgs false

/-- A call that ended in a panic with an error. -/
def Panics (e : Ending) : Prop := ∃ (u : TypeId) (pv : Value), e = .panicked [{ v := .iface u pv, recovered := false }]

set_option maxHeartbeats 400000 in
theorem demand_ok (w : World) : Calls Tryd.prog 39 #[.bool true] w fun e w' => e = .returned (.tuple #[]) ∧ w = w' := by
  go_enter Tryd.func39, Tryd.ntmps39
  go_wp2
  first | go_end0 | go_returns
  exact ⟨rfl, rfl⟩

set_option maxHeartbeats 400000 in
theorem demand_bad (w : World) (h : ErrAt 0 w) : Calls Tryd.prog 39 #[.bool false] w fun e w' => Panics e ∧ w = w' := by
  obtain ⟨a, ha⟩ := h
  go_enter Tryd.func39, Tryd.ntmps39
  go_wp2
  exact ⟨rfl, ⟨_, _, rfl⟩, rfl⟩

/-- Six cells of a block that may be written: a statement's result. -/
def SRes (w : World) (b : Nat) (c : Int) (x : StI) : Prop := (w.cell? ⟨b, 0, none⟩ = some (.int .i64 c) ∧ w.cell? ⟨b, 1, none⟩ = some (.int .i64 x.k) ∧ w.cell? ⟨b, 2, none⟩ = some (.int .i64 x.e) ∧ w.cell? ⟨b, 3, none⟩ = some (.int .i64 x.f) ∧ w.cell? ⟨b, 4, none⟩ = some (.int .i64 x.s) ∧ w.cell? ⟨b, 5, none⟩ = some (.int .i64 x.n)) ∧ ∀ j, w.frozen? ⟨b, j, none⟩ = false

theorem SRes.below {w w' : World} {b : Nat} {c : Int} {x : StI} (h : SRes w b c x) (hb : Below w.heap.size w w') : SRes w' b c x := by
  have hl := World.block_lt_of_cell? w ⟨b, 0, none⟩ h.1.1
  obtain ⟨⟨h0, h1, h2, h3, h4, h5⟩, hf⟩ := h
  exact ⟨⟨(hb.cell (p := ⟨b, 0, none⟩) hl).trans h0, (hb.cell (p := ⟨b, 1, none⟩) hl).trans h1, (hb.cell (p := ⟨b, 2, none⟩) hl).trans h2, (hb.cell (p := ⟨b, 3, none⟩) hl).trans h3, (hb.cell (p := ⟨b, 4, none⟩) hl).trans h4, (hb.cell (p := ⟨b, 5, none⟩) hl).trans h5⟩, fun j => (hb.frozen (p := ⟨b, j, none⟩) hl).trans (hf j)⟩

def noSt : StI := ⟨0, 0, 0, 0, 0⟩

theorem SRes.new (w : World) (t : TypeId) : SRes (w.alloc (.cells #[.int .i64 0, .int .i64 0, .int .i64 0, .int .i64 0, .int .i64 0, .int .i64 0] t)) w.heap.size 0 noSt :=
  ⟨⟨by simp [noSt], by simp [noSt], by simp [noSt], by simp [noSt], by simp [noSt], by simp [noSt]⟩, fun j => by simp [go_sem]⟩

abbrev SPut (w : World) (b : Nat) (c : Int) (x : StI) : World := (((((w.setCell ⟨b, 0, none⟩ (.int .i64 c)).setCell ⟨b, 1, none⟩ (.int .i64 x.k)).setCell ⟨b, 2, none⟩ (.int .i64 x.e)).setCell ⟨b, 3, none⟩ (.int .i64 x.f)).setCell ⟨b, 4, none⟩ (.int .i64 x.s)).setCell ⟨b, 5, none⟩ (.int .i64 x.n)

theorem SPut_at {w : World} {b : Nat} {c c' : Int} {x x' : StI} (h : SRes w b c x) : SRes (SPut w b c' x') b c' x' := by
  obtain ⟨⟨h0, h1, h2, h3, h4, h5⟩, hf⟩ := h
  refine ⟨⟨?_, ?_, ?_, ?_, ?_, ?_⟩, fun j => by simp [hf]⟩ <;> simp [go_sem, h0, h1, h2, h3, h4, h5]

theorem SPut_below {w0 w : World} {B b : Nat} (h : Below B w0 w) (hB : B ≤ b) (c : Int) (x : StI) : Below B w0 (SPut w b c x) :=
  h.setCell hB _ |>.setCell hB _ |>.setCell hB _ |>.setCell hB _ |>.setCell hB _ |>.setCell hB _

set_option maxHeartbeats 1000000 in
theorem catch_panicking (b : Nat) (c : Int) (x : StI) (u : TypeId) (pv : Value) (older : List PanicEntry) (w : World) (h : SRes w b c x) :
    CallsD Tryd.prog 38 #[.pointer (some ⟨b, 0, none⟩)] (.panicking ({ v := .iface u pv, recovered := false } :: older)) w fun e u' w' =>
      e = .returned (.tuple #[]) ∧ u' = .panicking ({ v := .iface u pv, recovered := true } :: older) ∧ w' = SPut w b 5 noSt := by
  obtain ⟨⟨h0, h1, h2, h3, h4, h5⟩, hf⟩ := h
  have f0 := hf 0
  have f1 := hf 1
  have f2 := hf 2
  have f3 := hf 3
  have f4 := hf 4
  have f5 := hf 5
  clear hf
  refine callsD_of_wpS Tryd.func38 rfl fun c₀ cs hu => ?_
  apply wpS_seq
  apply wpS_region
  simp [wpOpsS, go_sem, recoverD, hu, Tryd.ntmps38, Exit.thenS]
  refine wpS_cond (t := true) (by simp [Act.eval, Array.replicate]) ?_
  simp only [if_true]
  apply wpS_region
  simp [wpOpsS, go_sem, h0, h1, h2, h3, h4, h5, f0, f1, f2, f3, f4, f5, bodyPostS, results, Tryd.results38, noSt]

set_option maxHeartbeats 1000000 in
theorem catch_idle (p : Addr) (w : World) :
    CallsD Tryd.prog 38 #[.pointer (some p)] .returning w fun e u' w' => e = .returned (.tuple #[]) ∧ u' = .returning ∧ w' = w := by
  refine callsD_of_wpS Tryd.func38 rfl fun c₀ cs hu => ?_
  apply wpS_seq
  apply wpS_region
  simp [wpOpsS, go_sem, recoverD, hu, Tryd.ntmps38, Exit.thenS]
  refine wpS_cond (t := false) (by simp [Act.eval, Array.replicate]) ?_
  simp only [Bool.false_eq_true, if_false]
  refine wpS_of_wp (wp_skip ?_)
  cases c₀
  simp_all [bodyPostS, results, Tryd.results38]

set_option maxRecDepth 20000 in
set_option maxHeartbeats 2000000 in
theorem readOrTell_ok (C : Nat) (cap : Array Value) (x : StI) (w : World) (hcf : ∀ w : World, (callFunc C cap).run Tryd.prog w = .ok (.enter C cap) w) (HC : Hid (∀ w2 : World, Below w.heap.size w w2 → Calls Tryd.prog C cap w2 fun e w' => e = .returned (.agg #[.int .i64 x.k, .int .i64 x.e, .int .i64 x.f, .int .i64 x.s, .int .i64 x.n]) ∧ Below w2.heap.size w2 w')) :
    Calls Tryd.prog 31 #[.func (.func C) #[] cap] w fun e w' => e = .returned (.agg #[.int .i64 0, .int .i64 x.k, .int .i64 x.e, .int .i64 x.f, .int .i64 x.s, .int .i64 x.n]) ∧ Below w.heap.size w w' := by
  have hmf : ∀ (fn : Fn) (first cap : Array Value) (w : World), (Instr.makeFunc fn first cap).run Tryd.prog w = .ok (.func fn first cap) w := fun _ _ _ _ => rfl
  go_enter_defers Tryd.func31, Tryd.ntmps31
  go_wp2_with fail
  refine (HC.out _ ((Below.refl _ _).alloc (Nat.le_refl _) _)).mono ?_
  rintro e w1 ⟨rfl, hb1⟩
  have S1 := (SRes.new w 51).below hb1
  have B1 : Below w.heap.size w w1 := below_new hb1
  have R1 : Hid (SRes (SPut w1 w.heap.size 0 x) w.heap.size 0 x) := SPut_at S1
  have B2 : Hid (Below w.heap.size w (SPut w1 w.heap.size 0 x)) := SPut_below B1 (Nat.le_refl _) 0 x
  obtain ⟨⟨d0, d1, d2, d3, d4, d5⟩, hf⟩ := S1
  have f0 := hf 0
  have f1 := hf 1
  have f2 := hf 2
  have f3 := hf 3
  have f4 := hf 4
  have f5 := hf 5
  have hw : w.heap.size < w1.heap.size := by have := hb1.size; simp at this; omega
  clear hf hb1 B1
  go_wp2_with fail
  refine leaves_cons (f := 38) (args := #[.pointer (some ⟨w.heap.size, 0, none⟩)]) (by simp) (by simp [go_sem]) ?_
  refine (catch_idle ⟨w.heap.size, 0, none⟩ _).mono ?_
  rintro e u' w'' ⟨rfl, rfl, rfl⟩
  obtain ⟨⟨c0, c1, c2, c3, c4, c5⟩, _⟩ := R1.out
  refine ⟨_, by simp [results, Tryd.results31, go_sem, c0, c1, c2, c3, c4, c5], rfl, B2.out⟩

set_option maxRecDepth 20000 in
set_option maxHeartbeats 2000000 in
theorem readOrTell_bad (C : Nat) (cap : Array Value) (w : World) (hcf : ∀ w : World, (callFunc C cap).run Tryd.prog w = .ok (.enter C cap) w) (HC : Hid (∀ w2 : World, Below w.heap.size w w2 → Calls Tryd.prog C cap w2 fun e w' => Panics e ∧ Below w2.heap.size w2 w')) :
    Calls Tryd.prog 31 #[.func (.func C) #[] cap] w fun e w' => e = .returned (.agg #[.int .i64 5, .int .i64 0, .int .i64 0, .int .i64 0, .int .i64 0, .int .i64 0]) ∧ Below w.heap.size w w' := by
  have hmf : ∀ (fn : Fn) (first cap : Array Value) (w : World), (Instr.makeFunc fn first cap).run Tryd.prog w = .ok (.func fn first cap) w := fun _ _ _ _ => rfl
  go_enter_defers Tryd.func31, Tryd.ntmps31
  go_wp2_with fail
  refine (HC.out _ ((Below.refl _ _).alloc (Nat.le_refl _) _)).mono ?_
  rintro e w1 ⟨⟨u, pv, rfl⟩, hb1⟩
  have S1 := (SRes.new w 51).below hb1
  have B1 : Below w.heap.size w w1 := below_new hb1
  have R1 : Hid (SRes (SPut w1 w.heap.size 5 noSt) w.heap.size 5 noSt) := SPut_at S1
  have B2 : Hid (Below w.heap.size w (SPut w1 w.heap.size 5 noSt)) := SPut_below B1 (Nat.le_refl _) 5 noSt
  go_wp2_with fail
  refine leaves_cons (f := 38) (args := #[.pointer (some ⟨w.heap.size, 0, none⟩)]) (by simp) (by simp [go_sem]) ?_
  refine (catch_panicking w.heap.size 0 noSt u pv [] _ S1).mono ?_
  rintro e u' w'' ⟨rfl, rfl, rfl⟩
  obtain ⟨⟨c0, c1, c2, c3, c4, c5⟩, _⟩ := R1.out
  exact ⟨.agg #[.int .i64 5, .int .i64 noSt.k, .int .i64 noSt.e, .int .i64 noSt.f, .int .i64 noSt.s, .int .i64 noSt.n], by simp [results, Tryd.results31, go_sem, c0, c1, c2, c3, c4, c5], rfl, B2.out⟩

end Go.Proofs.YtnlmoapopdchkaaDoor
