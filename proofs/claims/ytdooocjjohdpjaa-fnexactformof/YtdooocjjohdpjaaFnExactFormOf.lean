/-
  PROVED: for every slice of locks and every epoch, class and principal the law laws.FnExactFormOf returns true, that is impl.FormOf answers as spec.FormOf there (up to 1<<20 locks, as the law itself says) and writes nothing into its arguments; the arguments read as they did.
  Conditions: none beside those that the given row itself bears. The frame is the shell written by program, turned for a slice of structs; the walk is ours.
-/
import Derived.Test.YtdooocjjohdpjaaRows
import Derived.WalkKit
import Derived.ProofKit
import Derived.OpenShut
import Derived.ShutString
import Derived.ChangeOld
import Derived.Below
import Derived.Test.YtdooocjjohdpjaaFo1
import Derived.Test.YtdooocjjohdpjaaLkA
namespace Go.Proofs.Ytdooocjjohdpjaa.fnExactFormOf
open Go.ChangeShapes Go.WideShapes Go.ChangeAt Go.RowKit
open Go.ChangeMaps (open_string shut_string)
set_option linter.unusedVariables false

theorem own : ownKnob Try.prog.godebug = none := by kernel_rfl
theorem laidOut : laidOutB Try.prog = true := by kernel_rfl

/-- Two cells of a block. -/
def Box2 (w : World) (B : Nat) (x y : Value) : Prop := w.cell? ⟨B, 0, none⟩ = some x ∧ w.cell? ⟨B, 1, none⟩ = some y
theorem Box2.lt {w : World} {B : Nat} {x y : Value} (h : Box2 w B x y) : B < w.heap.size := World.block_lt_of_cell? w ⟨B, 0, none⟩ h.1
theorem Box2.below {w w' : World} {B : Nat} {x y : Value} (h : Box2 w B x y) (hb : Below w.heap.size w w') : Box2 w' B x y :=
  ⟨(hb.cell (p := ⟨B, 0, none⟩) h.lt).trans h.1, (hb.cell (p := ⟨B, 1, none⟩) h.lt).trans h.2⟩
theorem Box2.new (w : World) (x y : Value) (t : TypeId) : Box2 (w.alloc (.cells #[x, y] t)) w.heap.size x y := ⟨by simp, by simp⟩

set_option maxHeartbeats 400000 in
theorem eqIR_c (c v : Int) (w : World) : Calls Try.prog 44 #[.agg #[.int .i64 c, .int .i64 v], .agg #[.int .i64 c, .int .i64 v]] w fun e w' => e = .returned (.bool true) ∧ Below w.heap.size w w' := by
  go_enter Try.func44, Try.ntmps44
  go_wp2
  go_ret
  exact ⟨rfl, by go_grown⟩

set_option maxRecDepth 20000 in
set_option maxHeartbeats 1000000 in
theorem inner (a0 : Option Addr) (len cap : Nat) (zs : List LkI) (ep cl pr c n : Int) (w : World) (hl : len ≤ 1048576) (hr : LkIn w a0 len zs)
    (HS : Hid (∀ (g : Nat) (w : World), LksAt w g zs → GivesF 42 (some ⟨g, 0, none⟩) len len ep cl pr c n w))
    (HI : Hid (∀ (g : Nat) (w : World), LksAt w g zs → GivesF 43 (some ⟨g, 0, none⟩) len len ep cl pr c n w)) :
    Calls Try.prog 9 #[.slice a0 len cap, .int .i64 ep, .int .i64 cl, .int .i64 pr] w fun e w' => e = .returned (.bool true) ∧ Below w.heap.size w w' := by
  have hl' : (len : Int) ≤ 1048576 := by omega
  have HR : Hid (LkIn w a0 len zs) := hr
  have HZ : Hid (zs.length = len) := hr.1
  clear hr
  go_enter Try.func9, Try.ntmps9
  go_wp2_with (first | (go_at_call 37; go_in) | fail)
  refine (toLocks_c a0 len cap zs _ hl HR.out).mono ?_
  rintro e w1 ⟨rfl, hat1, hlt1, hb1⟩
  have HA1 : Hid (LksAt w1 w.heap.size zs) := hat1
  clear hat1
  go_wp2_with fail
  refine (HS.out _ _ HA1.out).mono ?_
  rintro e w2 ⟨rfl, hb2⟩
  have hz1 := hb1.size
  have hz2 := hb2.size
  have B3 : Hid (Below w.heap.size w (w2.alloc (.cells #[.int .i64 c, .int .i64 n] 39))) := (hb1.trans (hb2.mono hz1)).alloc (by omega) _
  have X3 : Hid (Box2 (w2.alloc (.cells #[.int .i64 c, .int .i64 n] 39)) w2.heap.size (.int .i64 c) (.int .i64 n)) := Box2.new _ _ _ _
  have HR3 : Hid (LkIn (w2.alloc (.cells #[.int .i64 c, .int .i64 n] 39)) a0 len zs) := HR.out.below B3.out
  clear hb1 hb2 HA1 HR
  generalize hw3 : w2.alloc (.cells #[.int .i64 c, .int .i64 n] 39) = w3 at B3 X3 HR3
  have hz3 : w3.heap.size ≤ w2.heap.size + 1 := by rw [← hw3]; simp
  have hz3' : w2.heap.size + 1 ≤ w3.heap.size := by rw [← hw3]; simp
  go_wp2_with fail
  clear hw3
  refine (toLocks_c a0 len cap zs _ hl HR3.out).mono ?_
  rintro e w4 ⟨rfl, hat4, hlt4, hb4⟩
  have HA4 : Hid (LksAt w4 w3.heap.size zs) := hat4
  have hz4 := hb4.size
  have B4 : Hid (Below w.heap.size w w4) := B3.out.trans (hb4.mono (by omega))
  have X4 : Hid (Box2 w4 w2.heap.size (.int .i64 c) (.int .i64 n)) := X3.out.below hb4
  have HR4 : Hid (LkIn w4 a0 len zs) := HR3.out.below hb4
  clear hat4 hb4 B3 X3 HR3
  go_wp2_with fail
  refine (HI.out _ _ HA4.out).mono ?_
  rintro e w5 ⟨rfl, hb5⟩
  have hz5 := hb5.size
  have A6 : Below w5.heap.size w5 (w5.alloc (.cells #[.int .i64 c, .int .i64 n] 39)) := (Below.refl _ _).alloc (Nat.le_refl _) _
  have hb56 : Below w4.heap.size w4 (w5.alloc (.cells #[.int .i64 c, .int .i64 n] 39)) := hb5.trans (A6.mono hz5)
  have B6 : Hid (Below w.heap.size w (w5.alloc (.cells #[.int .i64 c, .int .i64 n] 39))) := B4.out.trans (hb56.mono (by omega))
  have X6 : Hid (Box2 (w5.alloc (.cells #[.int .i64 c, .int .i64 n] 39)) w2.heap.size (.int .i64 c) (.int .i64 n)) := X4.out.below hb56
  have Y6 : Hid (Box2 (w5.alloc (.cells #[.int .i64 c, .int .i64 n] 39)) w5.heap.size (.int .i64 c) (.int .i64 n)) := Box2.new _ _ _ _
  have HR6 : Hid (LkIn (w5.alloc (.cells #[.int .i64 c, .int .i64 n] 39)) a0 len zs) := HR4.out.below hb56
  have HA6 : Hid (LksAt (w5.alloc (.cells #[.int .i64 c, .int .i64 n] 39)) w3.heap.size zs) := HA4.out.below hb56
  have hs6 : w5.heap.size < (w5.alloc (.cells #[.int .i64 c, .int .i64 n] 39)).heap.size := by simp
  clear hb5 A6 hb56 B4 X4 HR4 HA4
  go_upto_region 8 with fail
  generalize w5.alloc (.cells #[.int .i64 c, .int .i64 n] 39) = w6 at B6 X6 HR6 HA6 Y6 hs6 ⊢
  obtain ⟨x0, x1⟩ := X6.out
  obtain ⟨y0, y1⟩ := Y6.out
  go_wp2_with fail
  refine (eqIR_c c n _).mono ?_
  rintro e w7 ⟨rfl, hb7⟩
  have hz7 := hb7.size
  have B7 : Hid (Below w.heap.size w w7) := B6.out.trans (hb7.mono (by omega))
  have HR7 : Hid (LkIn w7 a0 len zs) := HR6.out.below hb7
  have HA7 : Hid (LksAt w7 w3.heap.size zs) := HA6.out.below hb7
  clear hb7 B6 X6 HR6 HA6 Y6 x0 x1 y0 y1
  go_wp2_with fail
  refine (toLocks_c a0 len cap zs _ hl HR7.out).mono ?_
  rintro e w8 ⟨rfl, hat8, hlt8, hb8⟩
  have hz8 := hb8.size
  have HB8 : Hid (LksAt w8 w7.heap.size zs) := hat8
  have HA8 : Hid (LksAt w8 w3.heap.size zs) := HA7.out.below hb8
  clear hat8
  go_wp2_with fail
  refine (eqLocks_same _ _ len _ _ zs _ hl (LkIn.of HZ.out HA8.out) (LkIn.of HZ.out HB8.out)).mono ?_
  rintro e w9 ⟨rfl, hb9⟩
  go_wp2
  go_ret
  exact ⟨rfl, (B7.out.trans (hb8.mono (by omega))).trans (hb9.mono (by omega))⟩

set_option maxRecDepth 20000 in
set_option maxHeartbeats 400000 in
theorem long (a0 : Option Addr) (len cap : Nat) (ep cl pr : Int) (w : World) (hl : 1048576 < len) (hm : len ≤ maxLen) :
    Calls Try.prog 9 #[.slice a0 len cap, .int .i64 ep, .int .i64 cl, .int .i64 pr] w fun e w' => e = .returned (.bool true) ∧ Below w.heap.size w w' := by
  unfold maxLen at hm
  have hl' : (1048576 : Int) < (len : Int) := by omega
  have hm' : (len : Int) ≤ 9223372036854775807 := by omega
  clear hm
  go_enter Try.func9, Try.ntmps9
  go_wp2
  go_ret
  exact ⟨rfl, Below.refl _ _⟩

/-! The walk: the Go text returns true. -/
theorem walk (a0 : Option Addr) (len0 cap0 : Nat) (z0 : List LkI) (a1 : Int) (a2 : Int) (a3 : Int) (w : World) (w0 : LkArg w a0 len0 z0) (w1 : (Lit.int .i64 a1).wf = true) (w2 : (Lit.int .i64 a2).wf = true) (w3 : (Lit.int .i64 a3).wf = true) :
    Calls Try.prog 9 #[.slice a0 len0 cap0, .int .i64 a1, .int .i64 a2, .int .i64 a3] w fun e w' => e = .returned (.bool true) ∧ Below w.heap.size w w' := by
  by_cases hl : len0 ≤ 1048576
  · exact inner a0 len0 cap0 z0 a1 a2 a3 _ _ w hl w0.1 (fun g w h => specFormOf_c _ _ _ _ _ _ _ _ (LkIn.of w0.1.1 h)) (fun g w h => implFormOf_c _ _ _ _ _ _ _ _ (LkIn.of w0.1.1 h))
  · exact long a0 len0 cap0 a1 a2 a3 w (by omega) w0.2

/-! The row's step. -/
set_option maxRecDepth 100000 in
theorem lifted (os : Os) (started : os.Started) (H : Type) (enc : TypeId × Value → H) :
    ReturnsInHanded {} Try.checked os 9 .any (Rows.fnExactFormOfSpec.pre6 enc Try.prog Try.f9 Rows.fnExactFormOfRow.domain false) (Rows.fnExactFormOfSpec.post enc Try.prog Try.f9 false true false false) := by
  refine returnsInHanded_of_change (C := Try.checked) own started (by kernel_rfl) Try.func9
    (ChangeSpec.witness6 (enc := enc) (C := Try.checked) false ⟨#[], #[.slice none 0 0, .int .i64 0, .int .i64 0, .int .i64 0], []⟩ 8 (by kernel_rfl) (by kernel_rfl) (by kernel_rfl) (by kernel_rfl)) ?_
  intro W base args ds gs before hval0 hW hcnd _
  have hval : ∀ (j : Nat) t v, Try.f9.params[j]? = some t → args[j]? = some v → Value.okWide Try.prog W .any base t v := hval0
  have hW' := hW
  obtain ⟨p, q, hA0, hV, rfl, hfz, hnd⟩ := hW
  have hA : DataW.TrodAll enc Try.prog W 0 (fun _ => true) true Try.f9.params.toList args.toList ds p := hA0
  rw [Try.params9] at hA hval
  obtain ⟨v0, vs0, d0, ds0, p0, q0, hargs, rfl, rfl, h0, r0⟩ := trodAll_cons hA
  obtain ⟨v1, vs1, d1, ds1, p1, q1, rfl, rfl, rfl, h1, r1⟩ := trodAll_cons r0
  obtain ⟨v2, vs2, d2, ds2, p2, q2, rfl, rfl, rfl, h2, r2⟩ := trodAll_cons r1
  obtain ⟨v3, vs3, d3, ds3, p3, q3, rfl, rfl, rfl, h3, r3⟩ := trodAll_cons r2
  obtain ⟨rfl, rfl, rfl⟩ := trodAll_nil r3
  obtain rfl : args = #[v0, v1, v2, v3] := by cases args; simp_all
  obtain ⟨rfl, rfl⟩ := trodVars_none hV
  obtain ⟨a0, len0, cap0, rfl⟩ := okWide_slice Try.underlying65 (hval 0 65 v0 rfl rfl)
  have k0 := h0
  have lt0 : ∀ x ∈ p0, x.block < W.heap.size := by obtain ⟨m, hm⟩ := k0; exact DataW.trod_lt m _ _ _ hm
  obtain ⟨z0, w0⟩ : ∃ zs : List LkI, LkArg W a0 len0 zs := by
    obtain ⟨fuel, hf⟩ := h0
    exact locks_shape hf
  obtain ⟨a1, rfl, rfl, rfl, w1⟩ := open_int Try.underlying2 (hval 1 2 v1 rfl rfl) h1
  obtain ⟨a2, rfl, rfl, rfl, w2⟩ := open_int Try.underlying2 (hval 2 2 v2 rfl rfl) h2
  obtain ⟨a3, rfl, rfl, rfl, w3⟩ := open_int Try.underlying2 (hval 3 2 v3 rfl rfl) h3
  clear hA0 hval0
  refine (walk a0 len0 cap0 z0 a1 a2 a3 W w0 w1 w2 w3).mono fun e W' ⟨he, bel⟩ => ?_
  subst he
  exact ⟨_, rfl, _, _, _, [], _, [], hW', trodAll_mk1 (shut_bool Try.underlying4 _), (trodAll_cons_mk (Below.trod laidOut (by kernel_rfl) (of_decide_eq_true (by kernel_rfl)) k0 bel lt0) (trodAll_cons_mk (shut_int Try.underlying2 w1) (trodAll_cons_mk (shut_int Try.underlying2 w2) (trodAll_cons_mk (shut_int Try.underlying2 w3) trodAll_mk0)))), rfl, bel.frame _, fun h => by cases h⟩

theorem over : Rows.fnExactFormOfRow.holds Try.pinned (OpenSpec.ofChange Rows.fnExactFormOfSpec) :=
  OpenClaim.holds_of_wide 9 Try.f9 rfl rfl rfl rfl rfl rfl rfl ⟨rfl, rfl, rfl, rfl, rfl⟩ rfl rfl rfl rfl rfl (by kernel_rfl) Try.func9 (by kernel_rfl)
    (of_decide_eq_true (by kernel_rfl)) (by unfold Func.isWrapper; first | (rw [if_pos (by decide +kernel)]; kernel_rfl) | (rw [if_neg (by decide +kernel)]; exact ⟨rfl, rfl⟩))
    (fun os started H enc _ => lifted os started H enc)

end Go.Proofs.Ytdooocjjohdpjaa.fnExactFormOf
namespace Go.Proofs.Ytdooocjjohdpjaa
theorem fnExactFormOf_holds : Rows.FnExactFormOfSaid := fnExactFormOf.over
#print axioms fnExactFormOf_holds
end Go.Proofs.Ytdooocjjohdpjaa
