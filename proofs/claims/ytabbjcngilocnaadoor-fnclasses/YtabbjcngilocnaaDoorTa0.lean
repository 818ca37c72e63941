/-
  CONTRACTS: the law of TakeLocks, out of what both programs answer.
  Conditions: each contract bears its own.
-/
import Derived.Test.YtabbjcngilocnaaDoorTk9
import Derived.Test.YtabbjcngilocnaaDoorLkM
import Derived.Test.YtabbjcngilocnaaDoorBx2
import Derived.LaidHandle
namespace Go.Proofs.YtabbjcngilocnaaDoor
open Go.RowKit
set_option linter.unusedVariables false
set_option linter.unusedSimpArgs false

theorem Tryd.gM : Tryd.prog.globalNamed "loop.example/g00338/impl.errManyLocks" = some 0 := by kernel_rfl
theorem Tryd.gMT : (Tryd.prog.globals[0]?).map (·.type) = some 54 := by kernel_rfl
theorem errM_of {text : List UInt8} {r : List (String × DataW Unit)} {W : World} (h : laidMet Tryd.prog (("loop.example/g00338/impl.errManyLocks", .iface "*errors.errorString" (.ptr (.agg [.lit (.string text)]))) :: r) W) : ErrAt 0 W := by
  obtain ⟨a, s, hv, _⟩ := laid_sentinel h Tryd.gM Tryd.gMT Tryd.underlying54 Tryd.rowES Tryd.underlying194 Tryd.underlying196 rfl rfl Tryd.underlying9 Tryd.cellsES Tryd.cellsStr
  exact ⟨a, by simpa using World.var?_cell Tryd.gM hv 0⟩

theorem Tryd.et : Tryd.prog.globalNamed "errors.errorType" = some 1 := by kernel_rfl
theorem Tryd.rt : (Tryd.prog.cutTypes.find? (·.1 == "internal/reflectlite.rtype")).map (·.2) = some 138 := by kernel_rfl
theorem Tryd.oneRow : ((List.range 232).filter fun t => Tryd.prog.rowNamed t [101, 114, 114, 111, 114]) = [54] := by kernel_rfl
theorem Tryd.sizeTs : Tryd.prog.types.size = 232 := by kernel_rfl

theorem handle_of {laid : List (String × DataW Unit)} {W : World} (hm : ("errors.errorType", .iface "internal/reflectlite.rtype" (.agg [.ptr (.lit (.string [101, 114, 114, 111, 114]))])) ∈ laid) (h : handlesMet Tryd.prog laid W) : HandleE W := by
  obtain ⟨name, u, ty, e1, e2, e3, e4, e5⟩ := h _ (by
    first
      | exact hm
      | exact List.mem_filter.2 ⟨hm, rfl⟩)
  have en : name = [101, 114, 114, 111, 114] := (Option.some.inj e1).symm
  subst en
  obtain rfl := Option.some.inj (Tryd.rt.symm.trans e2)
  have hm : ty ∈ (List.range 232).filter fun t => Tryd.prog.rowNamed t [101, 114, 114, 111, 114] := List.mem_filter.2 ⟨List.mem_range.2 (by rw [← Tryd.sizeTs]; exact e3), e4⟩
  rw [Tryd.oneRow] at hm
  obtain rfl := List.mem_singleton.1 hm
  have hh : typeHandle Tryd.prog 54 = .pointer (some ⟨11, 54, none⟩) := by kernel_rfl
  rw [hh] at e5
  unfold HandleE
  simpa using World.var?_cell Tryd.et e5 0

/-- What the document's program answered. -/
structure P1 (w W : World) (bx : Nat) (c : Int) (a1 : Option Addr) (cap1 : Nat) (ys : List LkI) : Prop where
  bel : Below w.heap.size w W
  x : Box2 W bx (.int .i64 c) (.slice a1 ys.length cap1)
  v : LkV W a1 ys
  lo : w.heap.size ≤ bx
  hi : bx < W.heap.size
  al : ∀ g, a1 = some ⟨g, 0, none⟩ → g < bx

theorem P1.below {w W W' : World} {bx : Nat} {c : Int} {a1 : Option Addr} {cap1 : Nat} {ys : List LkI} (h : P1 w W bx c a1 cap1 ys) (hb : Below W.heap.size W W') : P1 w W' bx c a1 cap1 ys :=
  ⟨h.bel.trans (hb.mono h.bel.size), h.x.below hb, h.v.below hb, h.lo, by have := hb.size; have := h.hi; omega, h.al⟩

theorem P1.grown {w W W' : World} {bx : Nat} {c : Int} {a1 : Option Addr} {cap1 : Nat} {ys : List LkI} {row : Option Nat} (h : P1 w W bx c a1 cap1 ys) (hg : W.grownBy W' row) (hr : ∀ q, row = some q → bx < q) : P1 w W' bx c a1 cap1 ys :=
  ⟨h.bel.grown hg (by have := h.lo; have := h.hi; omega) (fun q e => by have := hr q e; have := h.lo; omega), h.x.grown hg (fun e => by have := hr bx e.symm; omega), h.v.kept hg (fun g e q => by have := h.al g e; have := hr g q.symm; omega), h.lo, by have := hg.size; have := h.hi; omega, h.al⟩

/-- The copies of the arguments. -/
structure P2 (W : World) (gl len : Nat) (zs : List LkI) (gi lb : Nat) (vs : List Int) : Prop where
  la : LksAt W gl zs
  lr : LkRoom W gl len
  ia : IntsAt W gi vs
  ir : IntRoom W gi lb
  ll : gl < W.heap.size
  li : gi < W.heap.size

theorem P2.below {W W' : World} {gl len : Nat} {zs : List LkI} {gi lb : Nat} {vs : List Int} (h : P2 W gl len zs gi lb vs) (hb : Below W.heap.size W W') : P2 W' gl len zs gi lb vs :=
  ⟨h.la.below hb, h.lr.below h.ll hb, h.ia.below hb, h.ir.below h.li hb, by have := hb.size; have := h.ll; omega, by have := hb.size; have := h.li; omega⟩

/-- What the code answered. -/
structure P3 (W : World) (B bz hi : Nat) (c : Int) (a2 : Option Addr) (cap2 : Nat) (ys : List LkI) : Prop where
  x : Box2 W bz (.int .i64 c) (.slice a2 ys.length cap2)
  o : OwnLk W B (.slice a2 ys.length cap2) ys
  bl : B ≤ bz
  al : ∀ q, (Value.slice a2 ys.length cap2).ownBlock = some q → q < bz

theorem P3.below {W W' : World} {B bz hi : Nat} {c : Int} {a2 : Option Addr} {cap2 : Nat} {ys : List LkI} (h : P3 W B bz hi c a2 cap2 ys) (hb : Below W.heap.size W W') : P3 W' B bz hi c a2 cap2 ys := ⟨h.x.below hb, h.o.below hb, h.bl, h.al⟩

theorem P3.grown {W W' : World} {B bz hi q : Nat} {c : Int} {a2 : Option Addr} {cap2 : Nat} {ys : List LkI} (h : P3 W B bz hi c a2 cap2 ys) (hg : W.grownBy W' (some q)) (hq : q < B) : P3 W' B bz hi c a2 cap2 ys :=
  ⟨h.x.grown hg (fun e => by injection e; have := h.bl; omega), ownLk_kept h.o hg hq, h.bl, h.al⟩

end Go.Proofs.YtabbjcngilocnaaDoor
