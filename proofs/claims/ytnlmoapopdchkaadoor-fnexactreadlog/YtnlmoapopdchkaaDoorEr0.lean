/-
  WHAT THE LISTED VARIABLES HOLD: the errors of package level, as the program's text lays them.
  Conditions: each fact bears its own.
-/
import Derived.Test.YtnlmoapopdchkaaDoorProg
import Derived.Test.YtnlmoapopdchkaaDoorRows
import Derived.WalkKit
import Derived.Below
import Derived.OpenVars
import Derived.Stop.LaidErr
import Derived.LaidLaws
namespace Go.Proofs.YtnlmoapopdchkaaDoor
open Go.ChangeShapes Go.WideShapes Go.RowKit
set_option linter.unusedVariables false

/-- A variable holds an error of errors.New. -/
def ErrAt (g : Nat) (w : World) : Prop := ∃ a : Addr, w.cell? ⟨g, 0, none⟩ = some (.iface 77 (.pointer (some a)))

theorem ErrAt.below {g : Nat} {w w' : World} (h : ErrAt g w) (hb : Below w.heap.size w w') : ErrAt g w' := by
  obtain ⟨a, h⟩ := h
  exact ⟨a, (hb.cell (p := ⟨g, 0, none⟩) (World.block_lt_of_cell? w ⟨g, 0, none⟩ h)).trans h⟩

theorem Tryd.cellsES : Tryd.prog.cellsOf 94 = 1 := by kernel_rfl

theorem Tryd.cellsStr : Tryd.prog.cellsOf 9 = 1 := by kernel_rfl

theorem starES : "*" ++ "errors.errorString" = "*errors.errorString" := by decide

/-- The one row of that name. -/
theorem Tryd.rowES (u : TypeId) (h : Tryd.prog.typeName? 3 u = some "*errors.errorString") : u = 77 :=
  typeName_ptr_named (nm := "errors.errorString") (by rw [starES]; kernel_rfl) (by kernel_rfl) (by decide) u (by rw [starES]; exact h)

theorem Tryd.gU : Tryd.prog.globalNamed "loop.example/g00338/impl.errUnreadable" = some 0 := by kernel_rfl

theorem Tryd.gUT : (Tryd.prog.globals[0]?).map (·.type) = some 72 := by kernel_rfl

theorem errU_of {text : List UInt8} {r : List (String × DataW Unit)} {W : World} (h : laidMet Tryd.prog (("loop.example/g00338/impl.errUnreadable", .iface "*errors.errorString" (.ptr (.agg [.lit (.string text)]))) :: r) W) : ErrAt 0 W := by
  obtain ⟨a, s, hv, _⟩ := laid_sentinel h Tryd.gU Tryd.gUT Tryd.underlying72 Tryd.rowES Tryd.underlying77 Tryd.underlying94 rfl rfl Tryd.underlying9 Tryd.cellsES Tryd.cellsStr
  exact ⟨a, by simpa using World.var?_cell Tryd.gU hv 0⟩

theorem vars_one {H : Type} {enc : TypeId × Value → H} {P : Program} {w : World} {sp : Nat → Bool} {n : String} {gs : List (DataW H)} {ps : List MemPlace} (h : DataW.TrodVars enc P w sp [n] gs ps) : ∃ g, gs = [g] := by
  rcases gs with _ | ⟨g, _ | ⟨g2, r⟩⟩
  · exact h.elim
  · exact ⟨g, rfl⟩
  · obtain ⟨_, _, _, _, _, _, _, _, _, _, hs, _⟩ := h
    exact hs.elim

end Go.Proofs.YtnlmoapopdchkaaDoor
