/- Contracts. -/
import Derived.Test.YtpnpllpbbkibbaaGreatDoorPw24
namespace Go.Proofs.YtpnpllpbbkibbaaGreatDoor
set_option maxRecDepth 100000
set_option maxHeartbeats 8000000
open Go.RowKit
set_option linter.unusedVariables false
set_option linter.unusedSimpArgs false

section
open Go.RowKit Go.Extern.Stop Go.Stop Go.Extern
theorem Tryz.noAsN (v : Value) (xT : TypeId) (w : World) : (Instr.typeAssert (.iface 228 v) xT 282 true).run Tryz.prog w = .ok (.tuple #[.nilIface, .bool false]) w := run_typeAssert_lacksB Tryz.underlying282 (by kernel_rfl) (by kernel_rfl) v xT w
theorem Tryz.noAsS (v : Value) (xT : TypeId) (w : World) : (Instr.typeAssert (.iface 307 v) xT 282 true).run Tryz.prog w = .ok (.tuple #[.nilIface, .bool false]) w := run_typeAssert_lacksB Tryz.underlying282 (by kernel_rfl) (by kernel_rfl) v xT w
theorem Tryz.unN (v : Value) (xT : TypeId) (w : World) : (Instr.typeAssert (.iface 228 v) xT 285 true).run Tryz.prog w = .ok (.tuple #[.iface 228 v, .bool true]) w := run_typeAssert_hasB Tryz.underlying285 (by kernel_rfl) v xT w
theorem Tryz.noUnS (v : Value) (xT : TypeId) (w : World) : (Instr.typeAssert (.iface 307 v) xT 285 true).run Tryz.prog w = .ok (.tuple #[.nilIface, .bool false]) w := run_typeAssert_lacksB Tryz.underlying285 (by kernel_rfl) (by kernel_rfl) v xT w
theorem Tryz.noUmS (v : Value) (xT : TypeId) (w : World) : (Instr.typeAssert (.iface 307 v) xT 287 true).run Tryz.prog w = .ok (.tuple #[.nilIface, .bool false]) w := run_typeAssert_lacksB Tryz.underlying287 (by kernel_rfl) (by kernel_rfl) v xT w
theorem Tryz.methodUnwrap (a b c d e : Value) (w : World) : (Go.method 442 228 (.agg #[a, b, c, d, e]) "Unwrap").run Tryz.prog w = .ok (235, .agg #[a, b, c, d, e]) w := by kernel_rfl
theorem unwrap_c (y : LkI) (v : Value) (w : World) : Calls Tryz.prog 235 #[.agg #[.int .i64 y.e, .int .i64 y.c, .int .i64 y.p, .int .i64 y.f, .iface 226 v]] w fun e w' => e = .returned (.iface 226 v) ∧ w' = w.alloc (.cells #[.int .i64 y.e, .int .i64 y.c, .int .i64 y.p, .int .i64 y.f, .iface 226 v] 228) := by
 go_enter Tryz.func235, Tryz.ntmps235
 go_wp2
 go_ret
 exact ⟨rfl, rfl⟩
theorem below_cellsK {B b : Nat} {a : World} (hb : B ≤ b) : ∀ (vs : List Value) (o : Nat) (w : World), Below B a w → Below B a (w.setCells b o vs)
 | [], _, _, h => h
 | v :: r, o, w, h => below_cellsK hb r (o + 1) _ (h.setCell (p := ⟨b, o, none⟩) hb v)
/-- errors.As at a needError that wraps a takenError. -/
theorem as_need (y x : LkI) (tb : Nat) (w : World) (hg : w.cell? ⟨1, 0, none⟩ = some (.iface 277 (.agg #[.pointer (some ⟨2, 193, none⟩)]))) (ht0 : ∀ j, j < 4 → (w.cell? ⟨tb, 0 + j, none⟩).isSome = true) (hf0 : ∀ j, j < 4 → w.frozen? ⟨tb, 0 + j, none⟩ = false) :
  Calls Tryz.prog 166 #[.iface 228 (.agg #[.int .i64 y.e, .int .i64 y.c, .int .i64 y.p, .int .i64 y.f, .iface 226 (.agg #[.int .i64 x.e, .int .i64 x.c, .int .i64 x.p, .int .i64 x.f])]), .iface 230 (.pointer (some ⟨tb, 0, none⟩))] w fun ev w' => ev = .returned (.bool true) ∧ Below tb w w' := by
 have h6 := @run_callFunc_extern Tryz.prog 186 _ (fun args => ReflectliteValue.unpack (args.getD 0 (.tuple #[]))) Tryz.func186 (by kernel_rfl) (by kernel_rfl) (by kernel_rfl) (by kernel_rfl)
 have h7 := @run_callFunc_extern Tryz.prog 187 _ (ReflectliteValue.methodAny (ReflectliteValue.valueError "reflectlite.Value.Type" 0) (fun t _ _ _ => ReflectliteType.toType t)) Tryz.func187 (by kernel_rfl) (by kernel_rfl) (by kernel_rfl) (by kernel_rfl)
 have h8 := @run_callFunc_extern Tryz.prog 188 _ (ReflectliteValue.method (ReflectliteValue.valueError "reflectlite.Value.IsNil" 0) ReflectliteValue.isNil) Tryz.func188 (by kernel_rfl) (by kernel_rfl) (by kernel_rfl) (by kernel_rfl)
 have h27 := @run_callFunc_extern Tryz.prog 228 _ (ReflectliteType.abiMethod fun t => do pure (.int .u8 (← Rtype.kind t))) Tryz.func228 (by kernel_rfl) (by kernel_rfl) (by kernel_rfl) (by kernel_rfl)
 have h37 := @run_callFunc_extern Tryz.prog 243 _ (ReflectliteType.method ReflectliteType.elem) Tryz.func243 (by kernel_rfl) (by kernel_rfl) (by kernel_rfl) (by kernel_rfl)
 have h38 := @run_callFunc_extern Tryz.prog 244 _ (ReflectliteType.relation "Implements" ReflectliteType.implements_) Tryz.func244 (by kernel_rfl) (by kernel_rfl) (by kernel_rfl) (by kernel_rfl)
 have h10 := @run_callFunc_extern Tryz.prog 204 _ ReflectliteType.typeOf Tryz.func204 (by kernel_rfl) (by kernel_rfl) (by kernel_rfl) (by kernel_rfl)
 have h35 := @run_callFunc_extern Tryz.prog 241 _ (ReflectliteType.relation "AssignableTo" ReflectliteType.assignableTo) Tryz.func241 (by kernel_rfl) (by kernel_rfl) (by kernel_rfl) (by kernel_rfl)
 have h11 := @run_callFunc_extern Tryz.prog 205 _ (ReflectliteValue.method (ReflectliteValue.valueError "reflectlite.Value.Elem" 0) ReflectliteValue.elem) Tryz.func205 (by kernel_rfl) (by kernel_rfl) (by kernel_rfl) (by kernel_rfl)
 have h12 := @run_callFunc_extern Tryz.prog 206 _ ReflectliteValue.set Tryz.func206 (by kernel_rfl) (by kernel_rfl) (by kernel_rfl) (by kernel_rfl)
 have tT := Tryz.typeOfT
 have tN := Tryz.typeOfN
 have mA := Tryz.methodAssignableTo
 have aT := Tryz.assignT
 have aN := Tryz.assignN
 have vT := Tryz.valueOfT
 have f6 := Tryz.valueOfP
 have f7 := Tryz.typeP
 have mK := Tryz.methodKind
 have mE := Tryz.methodElem
 have mI := Tryz.methodImplements
 have kP := Tryz.kindP
 have kT := Tryz.kindT
 have eP := Tryz.elemP
 have iT := Tryz.implementsT
 have nA := Tryz.noAsN
 have uN := Tryz.unN
 have mU := Tryz.methodUnwrap
 have htl : tb < w.heap.size := by
  have := ht0 0 (by omega)
  obtain ⟨v, hv⟩ := Option.isSome_iff_exists.1 this
  exact zL w ⟨tb, 0 + 0, none⟩ hv
 have hgl : 1 < w.heap.size := zL w _ hg
 obtain ⟨W2, hW2⟩ : ∃ W2, W2 = (w.alloc (.cells #[.pointer (some ⟨tb, 0, none⟩)] 230)).alloc (.cells #[.pointer (some ⟨2, 230, none⟩), .pointer (some ⟨w.heap.size, 0, none⟩), .int .u64 150] 252) := ⟨_, rfl⟩
 have n8 := Tryz.isNilP ⟨w.heap.size, 0, none⟩ ⟨tb, 0, none⟩ ((w.alloc (.cells #[.pointer (some ⟨tb, 0, none⟩)] 230)).alloc (.cells #[.pointer (some ⟨2, 230, none⟩), .pointer (some ⟨w.heap.size, 0, none⟩), .int .u64 150] 252)) (by simp)
 have hg2 : ((w.alloc (.cells #[.pointer (some ⟨tb, 0, none⟩)] 230)).alloc (.cells #[.pointer (some ⟨2, 230, none⟩), .pointer (some ⟨w.heap.size, 0, none⟩), .int .u64 150] 252)).cell? ⟨1, 0, none⟩ = some (.iface 277 (.agg #[.pointer (some ⟨2, 193, none⟩)])) := by
  rw [World.cell?_alloc_lt _ _ ⟨1, 0, none⟩ (by simp; omega), World.cell?_alloc_lt _ _ ⟨1, 0, none⟩ hgl]; exact hg
 obtain ⟨W4, hW4⟩ : ∃ W4, W4 = (((w.alloc (.cells #[.pointer (some ⟨tb, 0, none⟩)] 230)).alloc (.cells #[.pointer (some ⟨2, 230, none⟩), .pointer (some ⟨w.heap.size, 0, none⟩), .int .u64 150] 252)).alloc (.cells #[.pointer (some ⟨2, 230, none⟩), .pointer (some ⟨w.heap.size, 0, none⟩), .int .u64 150] 252)).alloc (.cells #[.int .i64 y.e, .int .i64 y.c, .int .i64 y.p, .int .i64 y.f, .iface 226 (.agg #[.int .i64 x.e, .int .i64 x.c, .int .i64 x.p, .int .i64 x.f])] 228) := ⟨_, rfl⟩
 have hb4 : Below w.heap.size w W4 := by
  rw [hW4]
  exact (((zN).alloc (by simp) _).alloc (by simp; omega) _).alloc (by simp; omega) _
 have hz4 : W4.heap.size = w.heap.size + 1 + 1 + 1 + 1 := by rw [hW4]; simp
 have c0 : W4.cell? ⟨w.heap.size, 0, none⟩ = some (.pointer (some ⟨tb, 0, none⟩)) := by
  rw [hW4, World.cell?_alloc_lt _ _ ⟨w.heap.size, 0, none⟩ (by simp; omega), World.cell?_alloc_lt _ _ ⟨w.heap.size, 0, none⟩ (by simp; omega), World.cell?_alloc_lt _ _ ⟨w.heap.size, 0, none⟩ (by simp)]; simp
 have el := Tryz.elemVP ⟨w.heap.size, 0, none⟩ ⟨tb, 0, none⟩ W4 c0
 have bx : ∀ j v, #[Value.pointer (some ⟨2, 230, none⟩), .pointer (some ⟨w.heap.size, 0, none⟩), .int .u64 150][j]? = some v → W4.cell? ⟨w.heap.size + 1 + 1, j, none⟩ = some v := fun j v hj => by
  rw [hW4, World.cell?_alloc_lt _ _ ⟨w.heap.size + 1 + 1, j, none⟩ (by simp), World.cell?_alloc_at _ _ _ _ (by simp)]; exact hj
 have b0 := bx 0 _ rfl
 have b1 := bx 1 _ rfl
 have b2 := bx 2 _ rfl
 have hb5 : Below w.heap.size w (W4.alloc (.cells #[.int .i64 x.e, .int .i64 x.c, .int .i64 x.p, .int .i64 x.f] 226)) := hb4.alloc (by omega) _
 have st := Tryz.setT tb (w.heap.size + 1 + 1 + 1 + 1) x (W4.alloc (.cells #[.int .i64 x.e, .int .i64 x.c, .int .i64 x.p, .int .i64 x.f] 226))
  (by rw [← hz4]; exact ⟨by simp, by simp, by simp, by simp⟩)
  (fun j hj => by rw [hb5.cell (p := ⟨tb, 0 + j, none⟩) htl]; exact ht0 j hj)
  (fun j hj => by rw [hb5.frozen (p := ⟨tb, 0 + j, none⟩) htl]; exact hf0 j hj)
 have HB : Hid (Below tb w ((W4.alloc (.cells #[.int .i64 x.e, .int .i64 x.c, .int .i64 x.p, .int .i64 x.f] 226)).setCells tb 0 (vLk x))) := below_cellsK (by omega) _ _ _ (hb5.mono (by omega))
 have HW4 := (show Hid (_ = _) from hW4)
 clear hW2 hb4 hb5 hW4 bx c0 hg ht0 hf0
 go_enter Tryz.func166, Tryz.ntmps166
 go_wp2
 refine wp_loop_rounds 2 ?_
 rw [rounds_succ]
 go_wp2_with (first
  | (go_at_call 235; refine (unwrap_c y _ _).mono ?_; rintro e w' ⟨rfl, rfl⟩)
  | fail)
 rw [← HW4.out]
 rw [rounds_succ]
 go_wp2
 go_ret
 exact ⟨rfl, HB.out⟩
/-- errors.As at an error of errors.New's make. -/
theorem as_other (q : Addr) (tb : Nat) (w : World) (hg : w.cell? ⟨1, 0, none⟩ = some (.iface 277 (.agg #[.pointer (some ⟨2, 193, none⟩)]))) :
  Calls Tryz.prog 166 #[.iface 307 (.pointer (some q)), .iface 230 (.pointer (some ⟨tb, 0, none⟩))] w fun ev w' => ev = .returned (.bool false) ∧ Below w.heap.size w w' := by
 have h6 := @run_callFunc_extern Tryz.prog 186 _ (fun args => ReflectliteValue.unpack (args.getD 0 (.tuple #[]))) Tryz.func186 (by kernel_rfl) (by kernel_rfl) (by kernel_rfl) (by kernel_rfl)
 have h7 := @run_callFunc_extern Tryz.prog 187 _ (ReflectliteValue.methodAny (ReflectliteValue.valueError "reflectlite.Value.Type" 0) (fun t _ _ _ => ReflectliteType.toType t)) Tryz.func187 (by kernel_rfl) (by kernel_rfl) (by kernel_rfl) (by kernel_rfl)
 have h8 := @run_callFunc_extern Tryz.prog 188 _ (ReflectliteValue.method (ReflectliteValue.valueError "reflectlite.Value.IsNil" 0) ReflectliteValue.isNil) Tryz.func188 (by kernel_rfl) (by kernel_rfl) (by kernel_rfl) (by kernel_rfl)
 have h27 := @run_callFunc_extern Tryz.prog 228 _ (ReflectliteType.abiMethod fun t => do pure (.int .u8 (← Rtype.kind t))) Tryz.func228 (by kernel_rfl) (by kernel_rfl) (by kernel_rfl) (by kernel_rfl)
 have h37 := @run_callFunc_extern Tryz.prog 243 _ (ReflectliteType.method ReflectliteType.elem) Tryz.func243 (by kernel_rfl) (by kernel_rfl) (by kernel_rfl) (by kernel_rfl)
 have h38 := @run_callFunc_extern Tryz.prog 244 _ (ReflectliteType.relation "Implements" ReflectliteType.implements_) Tryz.func244 (by kernel_rfl) (by kernel_rfl) (by kernel_rfl) (by kernel_rfl)
 have h10 := @run_callFunc_extern Tryz.prog 204 _ ReflectliteType.typeOf Tryz.func204 (by kernel_rfl) (by kernel_rfl) (by kernel_rfl) (by kernel_rfl)
 have h35 := @run_callFunc_extern Tryz.prog 241 _ (ReflectliteType.relation "AssignableTo" ReflectliteType.assignableTo) Tryz.func241 (by kernel_rfl) (by kernel_rfl) (by kernel_rfl) (by kernel_rfl)
 have h11 := @run_callFunc_extern Tryz.prog 205 _ (ReflectliteValue.method (ReflectliteValue.valueError "reflectlite.Value.Elem" 0) ReflectliteValue.elem) Tryz.func205 (by kernel_rfl) (by kernel_rfl) (by kernel_rfl) (by kernel_rfl)
 have h12 := @run_callFunc_extern Tryz.prog 206 _ ReflectliteValue.set Tryz.func206 (by kernel_rfl) (by kernel_rfl) (by kernel_rfl) (by kernel_rfl)
 have tS := Tryz.typeOfS
 have mA := Tryz.methodAssignableTo
 have aS := Tryz.assignS
 have f6 := Tryz.valueOfP
 have f7 := Tryz.typeP
 have mK := Tryz.methodKind
 have mE := Tryz.methodElem
 have mI := Tryz.methodImplements
 have kP := Tryz.kindP
 have kT := Tryz.kindT
 have eP := Tryz.elemP
 have iT := Tryz.implementsT
 have nA := Tryz.noAsS
 have nU := Tryz.noUnS
 have nV := Tryz.noUmS
 have hgl : 1 < w.heap.size := zL w _ hg
 have n8 := Tryz.isNilP ⟨w.heap.size, 0, none⟩ ⟨tb, 0, none⟩ ((w.alloc (.cells #[.pointer (some ⟨tb, 0, none⟩)] 230)).alloc (.cells #[.pointer (some ⟨2, 230, none⟩), .pointer (some ⟨w.heap.size, 0, none⟩), .int .u64 150] 252)) (by simp)
 have hg2 : ((w.alloc (.cells #[.pointer (some ⟨tb, 0, none⟩)] 230)).alloc (.cells #[.pointer (some ⟨2, 230, none⟩), .pointer (some ⟨w.heap.size, 0, none⟩), .int .u64 150] 252)).cell? ⟨1, 0, none⟩ = some (.iface 277 (.agg #[.pointer (some ⟨2, 193, none⟩)])) := by
  rw [World.cell?_alloc_lt _ _ ⟨1, 0, none⟩ (by simp; omega), World.cell?_alloc_lt _ _ ⟨1, 0, none⟩ hgl]; exact hg
 clear hg
 go_enter Tryz.func166, Tryz.ntmps166
 go_wp2
 refine wp_loop_rounds 1 ?_
 rw [rounds_succ]
 go_wp2
 go_ret
 exact ⟨rfl, ((zN).alloc (by simp) _).alloc (by simp; omega) _⟩
end

end Go.Proofs.YtpnpllpbbkibbaaGreatDoor
