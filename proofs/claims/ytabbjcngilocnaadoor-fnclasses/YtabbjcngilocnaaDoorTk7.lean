/-
  CONTRACTS: errors.As and impl.takingCode.
  Conditions: each contract bears its own.
-/
import Derived.Test.YtabbjcngilocnaaDoorTk6
namespace Go.Proofs.YtabbjcngilocnaaDoor
open Go.RowKit Go.Extern.Stop Go.Stop Go.Extern
set_option linter.unusedVariables false
set_option linter.unusedSimpArgs false

theorem Tryd.noAsN (v : Value) (xT : TypeId) (w : World) : (Instr.typeAssert (.iface 87 v) xT 143 true).run Tryd.prog w = .ok (.tuple #[.nilIface, .bool false]) w := run_typeAssert_lacksB Tryd.underlying143 (by kernel_rfl) (by kernel_rfl) v xT w
theorem Tryd.noAsS (v : Value) (xT : TypeId) (w : World) : (Instr.typeAssert (.iface 194 v) xT 143 true).run Tryd.prog w = .ok (.tuple #[.nilIface, .bool false]) w := run_typeAssert_lacksB Tryd.underlying143 (by kernel_rfl) (by kernel_rfl) v xT w
theorem Tryd.unN (v : Value) (xT : TypeId) (w : World) : (Instr.typeAssert (.iface 87 v) xT 146 true).run Tryd.prog w = .ok (.tuple #[.iface 87 v, .bool true]) w := run_typeAssert_hasB Tryd.underlying146 (by kernel_rfl) v xT w
theorem Tryd.noUnS (v : Value) (xT : TypeId) (w : World) : (Instr.typeAssert (.iface 194 v) xT 146 true).run Tryd.prog w = .ok (.tuple #[.nilIface, .bool false]) w := run_typeAssert_lacksB Tryd.underlying146 (by kernel_rfl) (by kernel_rfl) v xT w
theorem Tryd.noUmS (v : Value) (xT : TypeId) (w : World) : (Instr.typeAssert (.iface 194 v) xT 148 true).run Tryd.prog w = .ok (.tuple #[.nilIface, .bool false]) w := run_typeAssert_lacksB Tryd.underlying148 (by kernel_rfl) (by kernel_rfl) v xT w
theorem Tryd.methodUnwrap (a b c d e : Value) (w : World) : (Go.method 332 87 (.agg #[a, b, c, d, e]) "Unwrap").run Tryd.prog w = .ok (171, .agg #[a, b, c, d, e]) w := by kernel_rfl

theorem unwrap_c (y : LkI) (v : Value) (w : World) : Calls Tryd.prog 171 #[.agg #[.int .i64 y.e, .int .i64 y.c, .int .i64 y.p, .int .i64 y.f, .iface 85 v]] w fun e w' => e = .returned (.iface 85 v) ∧ w' = w.alloc (.cells #[.int .i64 y.e, .int .i64 y.c, .int .i64 y.p, .int .i64 y.f, .iface 85 v] 87) := by
  go_enter Tryd.func171, Tryd.ntmps171
  go_wp2
  go_ret
  exact ⟨rfl, rfl⟩

theorem below_cellsK {B b : Nat} {a : World} (hb : B ≤ b) : ∀ (vs : List Value) (o : Nat) (w : World), Below B a w → Below B a (w.setCells b o vs)
  | [], _, _, h => h
  | v :: r, o, w, h => below_cellsK hb r (o + 1) _ (h.setCell (p := ⟨b, o, none⟩) hb v)

set_option maxHeartbeats 4000000 in
set_option maxRecDepth 20000 in
/-- errors.As at a needError that wraps a takenError. -/
theorem as_need (y x : LkI) (tb : Nat) (w : World) (hg : w.cell? ⟨1, 0, none⟩ = some (.iface 138 (.agg #[.pointer (some ⟨11, 54, none⟩)]))) (ht0 : ∀ j, j < 4 → (w.cell? ⟨tb, 0 + j, none⟩).isSome = true) (hf0 : ∀ j, j < 4 → w.frozen? ⟨tb, 0 + j, none⟩ = false) :
    Calls Tryd.prog 47 #[.iface 87 (.agg #[.int .i64 y.e, .int .i64 y.c, .int .i64 y.p, .int .i64 y.f, .iface 85 (.agg #[.int .i64 x.e, .int .i64 x.c, .int .i64 x.p, .int .i64 x.f])]), .iface 89 (.pointer (some ⟨tb, 0, none⟩))] w fun ev w' => ev = .returned (.bool true) ∧ Below tb w w' := by
  have h6 := @run_callFunc_extern Tryd.prog 80 _ (fun args => ReflectliteValue.unpack (args.getD 0 (.tuple #[]))) Tryd.func80 (by kernel_rfl) (by kernel_rfl) (by kernel_rfl) (by kernel_rfl)
  have h7 := @run_callFunc_extern Tryd.prog 81 _ (ReflectliteValue.methodAny (ReflectliteValue.valueError "reflectlite.Value.Type" 0) (fun t _ _ _ => ReflectliteType.toType t)) Tryd.func81 (by kernel_rfl) (by kernel_rfl) (by kernel_rfl) (by kernel_rfl)
  have h8 := @run_callFunc_extern Tryd.prog 82 _ (ReflectliteValue.method (ReflectliteValue.valueError "reflectlite.Value.IsNil" 0) ReflectliteValue.isNil) Tryd.func82 (by kernel_rfl) (by kernel_rfl) (by kernel_rfl) (by kernel_rfl)
  have h27 := @run_callFunc_extern Tryd.prog 166 _ (ReflectliteType.abiMethod fun t => do pure (.int .u8 (← Rtype.kind t))) Tryd.func166 (by kernel_rfl) (by kernel_rfl) (by kernel_rfl) (by kernel_rfl)
  have h37 := @run_callFunc_extern Tryd.prog 178 _ (ReflectliteType.method ReflectliteType.elem) Tryd.func178 (by kernel_rfl) (by kernel_rfl) (by kernel_rfl) (by kernel_rfl)
  have h38 := @run_callFunc_extern Tryd.prog 179 _ (ReflectliteType.relation "Implements" ReflectliteType.implements_) Tryd.func179 (by kernel_rfl) (by kernel_rfl) (by kernel_rfl) (by kernel_rfl)
  have h10 := @run_callFunc_extern Tryd.prog 97 _ ReflectliteType.typeOf Tryd.func97 (by kernel_rfl) (by kernel_rfl) (by kernel_rfl) (by kernel_rfl)
  have h35 := @run_callFunc_extern Tryd.prog 176 _ (ReflectliteType.relation "AssignableTo" ReflectliteType.assignableTo) Tryd.func176 (by kernel_rfl) (by kernel_rfl) (by kernel_rfl) (by kernel_rfl)
  have h11 := @run_callFunc_extern Tryd.prog 98 _ (ReflectliteValue.method (ReflectliteValue.valueError "reflectlite.Value.Elem" 0) ReflectliteValue.elem) Tryd.func98 (by kernel_rfl) (by kernel_rfl) (by kernel_rfl) (by kernel_rfl)
  have h12 := @run_callFunc_extern Tryd.prog 99 _ ReflectliteValue.set Tryd.func99 (by kernel_rfl) (by kernel_rfl) (by kernel_rfl) (by kernel_rfl)
  have tT := Tryd.typeOfT
  have tN := Tryd.typeOfN
  have mA := Tryd.methodAssignableTo
  have aT := Tryd.assignT
  have aN := Tryd.assignN
  have vT := Tryd.valueOfT
  have f6 := Tryd.valueOfP
  have f7 := Tryd.typeP
  have mK := Tryd.methodKind
  have mE := Tryd.methodElem
  have mI := Tryd.methodImplements
  have kP := Tryd.kindP
  have kT := Tryd.kindT
  have eP := Tryd.elemP
  have iT := Tryd.implementsT
  have nA := Tryd.noAsN
  have uN := Tryd.unN
  have mU := Tryd.methodUnwrap
  have htl : tb < w.heap.size := by
    have := ht0 0 (by omega)
    obtain ⟨v, hv⟩ := Option.isSome_iff_exists.1 this
    exact World.block_lt_of_cell? w ⟨tb, 0 + 0, none⟩ hv
  have hgl : 1 < w.heap.size := World.block_lt_of_cell? w _ hg
  obtain ⟨W2, hW2⟩ : ∃ W2, W2 = (w.alloc (.cells #[.pointer (some ⟨tb, 0, none⟩)] 89)).alloc (.cells #[.pointer (some ⟨11, 89, none⟩), .pointer (some ⟨w.heap.size, 0, none⟩), .int .u64 150] 118) := ⟨_, rfl⟩
  have n8 := Tryd.isNilP ⟨w.heap.size, 0, none⟩ ⟨tb, 0, none⟩ ((w.alloc (.cells #[.pointer (some ⟨tb, 0, none⟩)] 89)).alloc (.cells #[.pointer (some ⟨11, 89, none⟩), .pointer (some ⟨w.heap.size, 0, none⟩), .int .u64 150] 118)) (by simp)
  have hg2 : ((w.alloc (.cells #[.pointer (some ⟨tb, 0, none⟩)] 89)).alloc (.cells #[.pointer (some ⟨11, 89, none⟩), .pointer (some ⟨w.heap.size, 0, none⟩), .int .u64 150] 118)).cell? ⟨1, 0, none⟩ = some (.iface 138 (.agg #[.pointer (some ⟨11, 54, none⟩)])) := by
    rw [World.cell?_alloc_lt _ _ ⟨1, 0, none⟩ (by simp; omega), World.cell?_alloc_lt _ _ ⟨1, 0, none⟩ hgl]; exact hg
  obtain ⟨W4, hW4⟩ : ∃ W4, W4 = (((w.alloc (.cells #[.pointer (some ⟨tb, 0, none⟩)] 89)).alloc (.cells #[.pointer (some ⟨11, 89, none⟩), .pointer (some ⟨w.heap.size, 0, none⟩), .int .u64 150] 118)).alloc (.cells #[.pointer (some ⟨11, 89, none⟩), .pointer (some ⟨w.heap.size, 0, none⟩), .int .u64 150] 118)).alloc (.cells #[.int .i64 y.e, .int .i64 y.c, .int .i64 y.p, .int .i64 y.f, .iface 85 (.agg #[.int .i64 x.e, .int .i64 x.c, .int .i64 x.p, .int .i64 x.f])] 87) := ⟨_, rfl⟩
  have hb4 : Below w.heap.size w W4 := by
    rw [hW4]
    exact ((((Below.refl _ _).alloc (Nat.le_refl _) _).alloc (by simp) _).alloc (by simp; omega) _).alloc (by simp; omega) _
  have hz4 : W4.heap.size = w.heap.size + 1 + 1 + 1 + 1 := by rw [hW4]; simp
  have c0 : W4.cell? ⟨w.heap.size, 0, none⟩ = some (.pointer (some ⟨tb, 0, none⟩)) := by
    rw [hW4, World.cell?_alloc_lt _ _ ⟨w.heap.size, 0, none⟩ (by simp; omega), World.cell?_alloc_lt _ _ ⟨w.heap.size, 0, none⟩ (by simp; omega), World.cell?_alloc_lt _ _ ⟨w.heap.size, 0, none⟩ (by simp)]; simp
  have el := Tryd.elemVP ⟨w.heap.size, 0, none⟩ ⟨tb, 0, none⟩ W4 c0
  have bx : ∀ j v, #[Value.pointer (some ⟨11, 89, none⟩), .pointer (some ⟨w.heap.size, 0, none⟩), .int .u64 150][j]? = some v → W4.cell? ⟨w.heap.size + 1 + 1, j, none⟩ = some v := fun j v hj => by
    rw [hW4, World.cell?_alloc_lt _ _ ⟨w.heap.size + 1 + 1, j, none⟩ (by simp), World.cell?_alloc_at _ _ _ _ (by simp)]; exact hj
  have b0 := bx 0 _ rfl
  have b1 := bx 1 _ rfl
  have b2 := bx 2 _ rfl
  have hb5 : Below w.heap.size w (W4.alloc (.cells #[.int .i64 x.e, .int .i64 x.c, .int .i64 x.p, .int .i64 x.f] 85)) := hb4.alloc (by omega) _
  have st := Tryd.setT tb (w.heap.size + 1 + 1 + 1 + 1) x (W4.alloc (.cells #[.int .i64 x.e, .int .i64 x.c, .int .i64 x.p, .int .i64 x.f] 85))
    (by rw [← hz4]; exact ⟨by simp, by simp, by simp, by simp⟩)
    (fun j hj => by rw [hb5.cell (p := ⟨tb, 0 + j, none⟩) htl]; exact ht0 j hj)
    (fun j hj => by rw [hb5.frozen (p := ⟨tb, 0 + j, none⟩) htl]; exact hf0 j hj)
  have HB : Hid (Below tb w ((W4.alloc (.cells #[.int .i64 x.e, .int .i64 x.c, .int .i64 x.p, .int .i64 x.f] 85)).setCells tb 0 (vLk x))) := below_cellsK (by omega) _ _ _ (hb5.mono (by omega))
  have HW4 := (show Hid (_ = _) from hW4)
  clear hW2 hb4 hb5 hW4 bx c0 hg ht0 hf0
  go_enter Tryd.func47, Tryd.ntmps47
  go_wp2
  refine wp_loop_rounds 2 ?_
  rw [rounds_succ]
  go_wp2_with (first
    | (go_at_call 171; refine (unwrap_c y _ _).mono ?_; rintro e w' ⟨rfl, rfl⟩)
    | fail)
  rw [← HW4.out]
  rw [rounds_succ]
  go_wp2
  go_ret
  exact ⟨rfl, HB.out⟩

set_option maxHeartbeats 4000000 in
set_option maxRecDepth 20000 in
/-- errors.As at an error of errors.New's make. -/
theorem as_other (q : Addr) (tb : Nat) (w : World) (hg : w.cell? ⟨1, 0, none⟩ = some (.iface 138 (.agg #[.pointer (some ⟨11, 54, none⟩)]))) :
    Calls Tryd.prog 47 #[.iface 194 (.pointer (some q)), .iface 89 (.pointer (some ⟨tb, 0, none⟩))] w fun ev w' => ev = .returned (.bool false) ∧ Below w.heap.size w w' := by
  have h6 := @run_callFunc_extern Tryd.prog 80 _ (fun args => ReflectliteValue.unpack (args.getD 0 (.tuple #[]))) Tryd.func80 (by kernel_rfl) (by kernel_rfl) (by kernel_rfl) (by kernel_rfl)
  have h7 := @run_callFunc_extern Tryd.prog 81 _ (ReflectliteValue.methodAny (ReflectliteValue.valueError "reflectlite.Value.Type" 0) (fun t _ _ _ => ReflectliteType.toType t)) Tryd.func81 (by kernel_rfl) (by kernel_rfl) (by kernel_rfl) (by kernel_rfl)
  have h8 := @run_callFunc_extern Tryd.prog 82 _ (ReflectliteValue.method (ReflectliteValue.valueError "reflectlite.Value.IsNil" 0) ReflectliteValue.isNil) Tryd.func82 (by kernel_rfl) (by kernel_rfl) (by kernel_rfl) (by kernel_rfl)
  have h27 := @run_callFunc_extern Tryd.prog 166 _ (ReflectliteType.abiMethod fun t => do pure (.int .u8 (← Rtype.kind t))) Tryd.func166 (by kernel_rfl) (by kernel_rfl) (by kernel_rfl) (by kernel_rfl)
  have h37 := @run_callFunc_extern Tryd.prog 178 _ (ReflectliteType.method ReflectliteType.elem) Tryd.func178 (by kernel_rfl) (by kernel_rfl) (by kernel_rfl) (by kernel_rfl)
  have h38 := @run_callFunc_extern Tryd.prog 179 _ (ReflectliteType.relation "Implements" ReflectliteType.implements_) Tryd.func179 (by kernel_rfl) (by kernel_rfl) (by kernel_rfl) (by kernel_rfl)
  have h10 := @run_callFunc_extern Tryd.prog 97 _ ReflectliteType.typeOf Tryd.func97 (by kernel_rfl) (by kernel_rfl) (by kernel_rfl) (by kernel_rfl)
  have h35 := @run_callFunc_extern Tryd.prog 176 _ (ReflectliteType.relation "AssignableTo" ReflectliteType.assignableTo) Tryd.func176 (by kernel_rfl) (by kernel_rfl) (by kernel_rfl) (by kernel_rfl)
  have h11 := @run_callFunc_extern Tryd.prog 98 _ (ReflectliteValue.method (ReflectliteValue.valueError "reflectlite.Value.Elem" 0) ReflectliteValue.elem) Tryd.func98 (by kernel_rfl) (by kernel_rfl) (by kernel_rfl) (by kernel_rfl)
  have h12 := @run_callFunc_extern Tryd.prog 99 _ ReflectliteValue.set Tryd.func99 (by kernel_rfl) (by kernel_rfl) (by kernel_rfl) (by kernel_rfl)
  have tS := Tryd.typeOfS
  have mA := Tryd.methodAssignableTo
  have aS := Tryd.assignS
  have f6 := Tryd.valueOfP
  have f7 := Tryd.typeP
  have mK := Tryd.methodKind
  have mE := Tryd.methodElem
  have mI := Tryd.methodImplements
  have kP := Tryd.kindP
  have kT := Tryd.kindT
  have eP := Tryd.elemP
  have iT := Tryd.implementsT
  have nA := Tryd.noAsS
  have nU := Tryd.noUnS
  have nV := Tryd.noUmS
  have hgl : 1 < w.heap.size := World.block_lt_of_cell? w _ hg
  have n8 := Tryd.isNilP ⟨w.heap.size, 0, none⟩ ⟨tb, 0, none⟩ ((w.alloc (.cells #[.pointer (some ⟨tb, 0, none⟩)] 89)).alloc (.cells #[.pointer (some ⟨11, 89, none⟩), .pointer (some ⟨w.heap.size, 0, none⟩), .int .u64 150] 118)) (by simp)
  have hg2 : ((w.alloc (.cells #[.pointer (some ⟨tb, 0, none⟩)] 89)).alloc (.cells #[.pointer (some ⟨11, 89, none⟩), .pointer (some ⟨w.heap.size, 0, none⟩), .int .u64 150] 118)).cell? ⟨1, 0, none⟩ = some (.iface 138 (.agg #[.pointer (some ⟨11, 54, none⟩)])) := by
    rw [World.cell?_alloc_lt _ _ ⟨1, 0, none⟩ (by simp; omega), World.cell?_alloc_lt _ _ ⟨1, 0, none⟩ hgl]; exact hg
  clear hg
  go_enter Tryd.func47, Tryd.ntmps47
  go_wp2
  refine wp_loop_rounds 1 ?_
  rw [rounds_succ]
  go_wp2
  go_ret
  exact ⟨rfl, (((Below.refl _ _).alloc (Nat.le_refl _) _).alloc (by simp) _).alloc (by simp; omega) _⟩

end Go.Proofs.YtabbjcngilocnaaDoor
