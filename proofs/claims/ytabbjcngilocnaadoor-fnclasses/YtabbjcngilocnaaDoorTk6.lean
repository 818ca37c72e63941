/-
  CONTRACTS: errors.As at a target of impl.takenError.
  Conditions: each contract bears its own. (The handles' block and the fuel of a method's search are numbers of the dump.)
-/
import Derived.Test.YtabbjcngilocnaaDoorTk5
import Derived.WalkKit
import Derived.LaidEql
import Derived.Stop.Asserts
import Derived.RowKitTokens
namespace Go.Proofs.YtabbjcngilocnaaDoor
open Go.RowKit Go.Extern.Stop Go.Stop Go.Extern
set_option linter.unusedVariables false
set_option linter.unusedSimpArgs false

/-- A taken error's value. -/
def tkV (x : LkI) : Value := .agg #[.int .i64 x.e, .int .i64 x.c, .int .i64 x.p, .int .i64 x.f]

theorem Tryd.valueOfP (t : Addr) (w : World) : (ReflectliteValue.unpack (.iface 89 (.pointer (some t)))).run Tryd.prog w
    = .ok (.agg #[.pointer (some ⟨11, 89, none⟩), .pointer (some ⟨w.heap.size, 0, none⟩), .int .u64 150]) (w.alloc (.cells #[.pointer (some t)] 89)) := by kernel_rfl
theorem Tryd.typeP (a : Addr) (w : World) : (ReflectliteValue.methodAny (ReflectliteValue.valueError "reflectlite.Value.Type" 0) (fun t _ _ _ => ReflectliteType.toType t) #[.agg #[.pointer (some ⟨11, 89, none⟩), .pointer (some a), .int .u64 150]]).run Tryd.prog w
    = .ok (.iface 138 (.agg #[.pointer (some ⟨11, 89, none⟩)])) w := by kernel_rfl
theorem Tryd.methodKind (h : Value) (w : World) : (Go.method 332 138 (.agg #[h]) "Kind").run Tryd.prog w = .ok (166, h) w := by kernel_rfl
theorem Tryd.kindP (w : World) : ((ReflectliteType.abiMethod fun t => (fun a : Nat => Value.int IntKind.u8 (a : Int)) <$> Rtype.kind t) #[.pointer (some ⟨11, 89, none⟩)]).run Tryd.prog w = .ok (.int .u8 22) w := by kernel_rfl
theorem Tryd.kindT (w : World) : ((ReflectliteType.abiMethod fun t => (fun a : Nat => Value.int IntKind.u8 (a : Int)) <$> Rtype.kind t) #[.pointer (some ⟨11, 85, none⟩)]).run Tryd.prog w = .ok (.int .u8 25) w := by kernel_rfl

theorem rlm (z : Sem Value) (f : TypeId → Addr → Nat → Nat → Sem Value) (v : Value) :
    ReflectliteValue.method z f #[v] = (do match ← ReflectliteValue.parts v with | none => z | some (t, a, fl) => f t a fl (fl % 32)) := rfl
theorem Tryd.partsP (a : Addr) (w : World) : (ReflectliteValue.parts (.agg #[.pointer (some ⟨11, 89, none⟩), .pointer (some a), .int .u64 150])).run Tryd.prog w = .ok (some (89, a, 150)) w := by kernel_rfl
theorem Tryd.underP : Tryd.prog.underlying 89 = some (.pointer 85) := by kernel_rfl
theorem Tryd.isNilP (a p : Addr) (W : World) (ha : W.cell? a = some (.pointer (some p))) :
    (ReflectliteValue.method (ReflectliteValue.valueError "reflectlite.Value.IsNil" 0) ReflectliteValue.isNil #[.agg #[.pointer (some ⟨11, 89, none⟩), .pointer (some a), .int .u64 150]]).run Tryd.prog W = .ok (.bool false) W := by
  rw [rlm]
  simp only [Sem.run_bind, Tryd.partsP, Result.andThen]
  simp [ReflectliteValue.isNil, loadVar, isAgg, underlying, Tryd.underP, ha, Result.andThen]

theorem Tryd.methodElem (h : Value) (w : World) : (Go.method 332 138 (.agg #[h]) "Elem").run Tryd.prog w = .ok (178, .agg #[h]) w := by kernel_rfl
theorem Tryd.methodImplements (h : Value) (w : World) : (Go.method 332 138 (.agg #[h]) "Implements").run Tryd.prog w = .ok (179, .agg #[h]) w := by kernel_rfl
theorem Tryd.methodAssignableTo (h : Value) (w : World) : (Go.method 332 138 (.agg #[h]) "AssignableTo").run Tryd.prog w = .ok (176, .agg #[h]) w := by kernel_rfl
theorem Tryd.elemP (w : World) : (ReflectliteType.method ReflectliteType.elem #[.agg #[.pointer (some ⟨11, 89, none⟩)]]).run Tryd.prog w = .ok (.iface 138 (.agg #[.pointer (some ⟨11, 85, none⟩)])) w := by kernel_rfl
theorem Tryd.implementsT (w : World) : (ReflectliteType.relation "Implements" ReflectliteType.implements_ #[.agg #[.pointer (some ⟨11, 85, none⟩)], .iface 138 (.agg #[.pointer (some ⟨11, 54, none⟩)])]).run Tryd.prog w = .ok (.bool true) w := by kernel_rfl
theorem Tryd.typeOfT (v : Value) (w : World) : (ReflectliteType.typeOf #[.iface 85 v]).run Tryd.prog w = .ok (.iface 138 (.agg #[.pointer (some ⟨11, 85, none⟩)])) w := by kernel_rfl
theorem Tryd.typeOfN (v : Value) (w : World) : (ReflectliteType.typeOf #[.iface 87 v]).run Tryd.prog w = .ok (.iface 138 (.agg #[.pointer (some ⟨11, 87, none⟩)])) w := by kernel_rfl
theorem Tryd.typeOfS (v : Value) (w : World) : (ReflectliteType.typeOf #[.iface 194 v]).run Tryd.prog w = .ok (.iface 138 (.agg #[.pointer (some ⟨11, 194, none⟩)])) w := by kernel_rfl
theorem Tryd.assignT (w : World) : (ReflectliteType.relation "AssignableTo" ReflectliteType.assignableTo #[.agg #[.pointer (some ⟨11, 85, none⟩)], .iface 138 (.agg #[.pointer (some ⟨11, 85, none⟩)])]).run Tryd.prog w = .ok (.bool true) w := by kernel_rfl
theorem Tryd.assignN (w : World) : (ReflectliteType.relation "AssignableTo" ReflectliteType.assignableTo #[.agg #[.pointer (some ⟨11, 87, none⟩)], .iface 138 (.agg #[.pointer (some ⟨11, 85, none⟩)])]).run Tryd.prog w = .ok (.bool false) w := by kernel_rfl
theorem Tryd.assignS (w : World) : (ReflectliteType.relation "AssignableTo" ReflectliteType.assignableTo #[.agg #[.pointer (some ⟨11, 194, none⟩)], .iface 138 (.agg #[.pointer (some ⟨11, 85, none⟩)])]).run Tryd.prog w = .ok (.bool false) w := by kernel_rfl
theorem Tryd.valueOfT (x : LkI) (w : World) : (ReflectliteValue.unpack (.iface 85 (.agg #[.int .i64 x.e, .int .i64 x.c, .int .i64 x.p, .int .i64 x.f]))).run Tryd.prog w
    = .ok (.agg #[.pointer (some ⟨11, 85, none⟩), .pointer (some ⟨w.heap.size, 0, none⟩), .int .u64 153]) (w.alloc (.cells #[.int .i64 x.e, .int .i64 x.c, .int .i64 x.p, .int .i64 x.f] 85)) := by kernel_rfl

theorem Tryd.elemOfP (w : World) : (Rtype.elem? 89).run Tryd.prog w = .ok (some 85) w := by kernel_rfl
theorem Tryd.mkT (p : Addr) (w : World) : (ReflectliteValue.mk 85 p ReflectliteValue.flagAddr).run Tryd.prog w = .ok (.agg #[.pointer (some ⟨11, 85, none⟩), .pointer (some p), .int .u64 409]) w := by kernel_rfl
theorem Tryd.elemVP (a p : Addr) (W : World) (ha : W.cell? a = some (.pointer (some p))) :
    (ReflectliteValue.method (ReflectliteValue.valueError "reflectlite.Value.Elem" 0) ReflectliteValue.elem #[.agg #[.pointer (some ⟨11, 89, none⟩), .pointer (some a), .int .u64 150]]).run Tryd.prog W
      = .ok (.agg #[.pointer (some ⟨11, 85, none⟩), .pointer (some p), .int .u64 409]) W := by
  rw [rlm]
  simp only [Sem.run_bind, Tryd.partsP, Result.andThen]
  simp [ReflectliteValue.elem, loadVar, isAgg, underlying, Tryd.underP, ha, Result.andThen, Tryd.elemOfP, Tryd.mkT]
theorem rls (v x : Value) : ReflectliteValue.set #[v, x] = (do
    let (some (dst, a, fl), some (src, b, _)) := (← ReflectliteValue.parts v, ← ReflectliteValue.parts x)
      | unsupported (.noEntry "extern/(internal/reflectlite.Value).Set.zeroValue")
    if fl / ReflectliteValue.flagAddr % 2 == 0 then unsupported (.noEntry "extern/(internal/reflectlite.Value).Set.unaddressable")
    let val ← loadVar src b
    if ← Rtype.directlyAssignable dst src then storeVar dst a val
    else if ← Rtype.implements dst src then
      if (← Rtype.kind src) == 20 then
        match val with
        | .nilIface => unsupported (.noEntry "extern/reflectlite: a nil value of one interface type handed on as a value of another")
        | _ => storeVar dst a val
      else storeVar dst a (.iface src val)
    else panicString ("reflectlite.Set: value of type " ++ (← Rtype.spelt src) ++ " is not assignable to type " ++ (← Rtype.spelt dst))
    pure (.tuple #[])) := rfl
theorem Tryd.partsTa (a : Addr) (w : World) : (ReflectliteValue.parts (.agg #[.pointer (some ⟨11, 85, none⟩), .pointer (some a), .int .u64 409])).run Tryd.prog w = .ok (some (85, a, 409)) w := by kernel_rfl
theorem Tryd.partsT (a : Addr) (w : World) : (ReflectliteValue.parts (.agg #[.pointer (some ⟨11, 85, none⟩), .pointer (some a), .int .u64 153])).run Tryd.prog w = .ok (some (85, a, 153)) w := by kernel_rfl
theorem Tryd.directT (w : World) : (Rtype.directlyAssignable 85 85).run Tryd.prog w = .ok true w := by kernel_rfl
theorem Tryd.sizeT (w : World) : (sizeOf 85).run Tryd.prog w = .ok 4 w := by kernel_rfl
theorem Tryd.isAggT (w : World) : (isAgg 85).run Tryd.prog w = .ok true w := by kernel_rfl

/-- (Value).Set: the takenError at 'tb' gets what the Value's own variable 'b' holds. -/
theorem Tryd.setT (tb b : Nat) (x : LkI) (W : World) (hb : LkAt W b 0 x) (ht : ∀ j, j < 4 → (W.cell? ⟨tb, 0 + j, none⟩).isSome = true) (hf : ∀ j, j < 4 → W.frozen? ⟨tb, 0 + j, none⟩ = false) :
    (ReflectliteValue.set #[.agg #[.pointer (some ⟨11, 85, none⟩), .pointer (some ⟨tb, 0, none⟩), .int .u64 409], .agg #[.pointer (some ⟨11, 85, none⟩), .pointer (some ⟨b, 0, none⟩), .int .u64 153]]).run Tryd.prog W
      = .ok (.tuple #[]) (W.setCells tb 0 (vLk x)) := by
  have hl := run_loadCells_list (P := Tryd.prog) W ⟨b, 0, none⟩ (vLk x) (fun j v hj => by rw [Go.WideShapes.add_plain, Nat.zero_add]; exact vLk_at hb j v hj)
  have hs := run_storeCells_cells (P := Tryd.prog) tb 0 (vLk x) 0 W (by simpa [vLk] using ht) (by simpa [vLk] using hf) (vLk_one x)
  have hlen : (vLk x).length = 4 := rfl
  rw [hlen] at hl
  have hlv : (loadVar 85 ⟨b, 0, none⟩).run Tryd.prog W = .ok (.agg (vLk x).toArray) W := by
    simp [loadVar, Tryd.isAggT, Tryd.sizeT, hl, Result.andThen]
  have hsv : (storeVar 85 ⟨tb, 0, none⟩ (.agg (vLk x).toArray)).run Tryd.prog W = .ok () (W.setCells tb 0 (vLk x)) := by
    have hc : (Value.agg (vLk x).toArray).cells = (vLk x).toArray := rfl
    simp [storeVar, hc, Tryd.sizeT, hlen, Result.andThen, hs]
  rw [rls]
  simp only [Sem.run_bind, Tryd.partsTa, Tryd.partsT, Result.andThen]
  simp [ReflectliteValue.flagAddr, hlv, Result.andThen, Tryd.directT, hsv]

end Go.Proofs.YtabbjcngilocnaaDoor
