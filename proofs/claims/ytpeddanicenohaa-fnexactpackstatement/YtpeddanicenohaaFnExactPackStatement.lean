/-
  PROVED: for every Statement the law laws.FnExactPackStatement returns true, that is impl.PackStatement answers as spec.PackStatement there and its words are memory of its own, behind another call too; the argument reads as it did.
  Conditions: none beside those that the given row itself bears. The frame is the shell written by program, turned for a struct; the walk is ours.
-/
import Derived.Test.YtpeddanicenohaaRows
import Derived.WalkKit
import Derived.ProofKit
import Derived.OpenShut
import Derived.ShutString
import Derived.ChangeOld
import Derived.Below
import Derived.Deep.CutBlock
import Derived.Test.YtpeddanicenohaaSt4
import Derived.Test.YtpeddanicenohaaStA
import Derived.Test.YtpeddanicenohaaList2
namespace Go.Proofs.Ytpeddanicenohaa.fnExactPackStatement
open Go.ChangeShapes Go.WideShapes Go.ChangeAt Go.RowKit
open Go.ChangeMaps (open_string shut_string)
set_option linter.unusedVariables false

theorem own : ownKnob Try.prog.godebug = none := by kernel_rfl
theorem laidOut : laidOutB Try.prog = true := by kernel_rfl

/-- Two cells of a block. -/
def Box2 (w : World) (B : Nat) (x y : Value) : Prop := w.cell? ⟨B, 0, none⟩ = some x ∧ w.cell? ⟨B, 1, none⟩ = some y
theorem Box2.lt {w : World} {B : Nat} {x y : Value} (h : Box2 w B x y) : B < w.heap.size := World.block_lt_of_cell? w ⟨B, 0, none⟩ h.1
theorem Box2.below {w w' : World} {B : Nat} {x y : Value} (h : Box2 w B x y) (hb : Below w.heap.size w w') : Box2 w' B x y :=
  ⟨(hb.cell (p := ⟨B, 0, none⟩) h.lt).trans h.1, (hb.cell (p := ⟨B, 1, none⟩) h.lt).trans h.2⟩
theorem Box2.grown {w w' : World} {B : Nat} {x y : Value} {row : Option Nat} (h : Box2 w B x y) (hg : w.grownBy w' row) (hne : some B ≠ row) : Box2 w' B x y :=
  ⟨hg.cell h.1 hne, hg.cell h.2 hne⟩
theorem Box2.alloc {w : World} {B : Nat} {x y : Value} (h : Box2 w B x y) (o : Obj) : Box2 (w.alloc o) B x y := h.below ((Below.refl _ _).alloc (Nat.le_refl _) _)
theorem Box2.new (w : World) (x y : Value) (t : TypeId) : Box2 (w.alloc (.cells #[x, y] t)) w.heap.size x y := ⟨by simp, by simp⟩

theorem st_old {w w' : World} {b : Nat} {x : StI} (h : StAt w b 0 x) (hb : Below w.heap.size w w') : StAt w' b 0 x := h.below hb (World.block_lt_of_cell? w ⟨b, 0, none⟩ h.1)

theorem st_grown {w w' : World} {b : Nat} {x : StI} {row : Option Nat} (h : StAt w b 0 x) (hg : w.grownBy w' row) (hne : some b ≠ row) : StAt w' b 0 x :=
  ⟨hg.cell h.1 hne, hg.cell h.2.1 hne, hg.cell h.2.2.1 hne, hg.cell h.2.2.2.1 hne, hg.cell h.2.2.2.2 hne⟩

set_option maxRecDepth 20000 in
set_option maxHeartbeats 2000000 in
theorem inner (x : StI) (c : Int) (zs : List Int) (hz : zs.length ≤ 8) (w : World) (HS : Hid (∀ w, GivesW 9 x c zs w)) (HI : Hid (∀ w, GivesW 10 x c zs w)) :
    Calls Try.prog 4 #[.agg #[.int .i64 x.k, .int .i64 x.e, .int .i64 x.f, .int .i64 x.s, .int .i64 x.n]] w fun e w' => e = .returned (.bool true) ∧ Below w.heap.size w w' := by
  have hm : zs.length ≤ 1048576 := by omega
  go_enter Try.func4, Try.ntmps4
  go_wp2_with fail
  refine (toStatement_c x _).mono ?_
  rintro e u1 ⟨rfl, hc1⟩
  have T1 : Hid (StAt u1 w.heap.size 0 x) := st_old (StAt.new w x _) hc1
  have C1 : Hid (Below w.heap.size w u1) := below_new hc1
  clear hc1
  go_wp2_with fail
  refine (HS.out _).mono ?_
  rintro e w1 ⟨a1, cap1, rfl, hown1, hb1⟩
  have O1 : Hid ((w1.alloc (.cells #[.int .i64 c, .slice a1 zs.length cap1] 30)).ownsRow u1.heap.size 2 1 (.slice a1 zs.length cap1) zs.length (zs.map (Value.int .i64))) := hown1.alloc _
  have X1 : Hid (Box2 (w1.alloc (.cells #[.int .i64 c, .slice a1 zs.length cap1] 30)) w1.heap.size (.int .i64 c) (.slice a1 zs.length cap1)) := Box2.new _ _ _ _
  have hz1 := hb1.size
  have A1 : Below w1.heap.size w1 (w1.alloc (.cells #[.int .i64 c, .slice a1 zs.length cap1] 30)) := (Below.refl _ _).alloc (Nat.le_refl _) _
  have L1 : Hid (∀ g off, a1 = some ⟨g, off, none⟩ → g < w1.heap.size) := fun g off h => (owns_block hown1 g off h).2
  have T2 : Hid (StAt (w1.alloc (.cells #[.int .i64 c, .slice a1 zs.length cap1] 30)) w.heap.size 0 x) := st_old (st_old T1.out hb1) A1
  have C2 : Hid (Below w.heap.size w (w1.alloc (.cells #[.int .i64 c, .slice a1 zs.length cap1] 30))) := (C1.out.trans (hb1.mono C1.out.size)).trans (A1.mono (by have := C1.out.size; omega))
  have hzw : w.heap.size < u1.heap.size := World.block_lt_of_cell? u1 ⟨w.heap.size, 0, none⟩ T1.out.1
  clear hown1 A1 hb1 T1
  generalize hV : w1.alloc (.cells #[.int .i64 c, .slice a1 zs.length cap1] 30) = V at O1 X1 T2 C2
  have hzV : V.heap.size ≤ w1.heap.size + 1 := by rw [← hV]; simp
  have hzV' : w1.heap.size + 1 ≤ V.heap.size := by rw [← hV]; simp
  obtain ⟨t0, t1, t2, t3, t4⟩ := T2.out
  simp only [Nat.zero_add] at t0 t1 t2 t3 t4
  go_upto_region 2 with fail
  try rw [hV]
  clear hV
  go_wp2_with fail
  refine (toStatement_c x _).mono ?_
  rintro e u2 ⟨rfl, hc2⟩
  have hzc2 := hc2.size
  have T3 : Hid (StAt u2 w.heap.size 0 x) := st_old T2.out hc2
  have C3 : Hid (Below w.heap.size w u2) := C2.out.trans (hc2.mono C2.out.size)
  have O3 : Hid (u2.ownsRow u1.heap.size 2 1 (.slice a1 zs.length cap1) zs.length (zs.map (Value.int .i64))) := owns_below O1.out hc2
  have X3 : Hid (Box2 u2 w1.heap.size (.int .i64 c) (.slice a1 zs.length cap1)) := X1.out.below hc2
  clear hc2 T2 C2 O1 X1 t0 t1 t2 t3 t4
  go_wp2_with fail
  refine (HI.out _).mono ?_
  rintro e w2 ⟨a2, cap2, rfl, hown2, hb2⟩
  have hz2 := hb2.size
  have A2 : Below w2.heap.size w2 (w2.alloc (.cells #[.int .i64 c, .slice a2 zs.length cap2] 30)) := (Below.refl _ _).alloc (Nat.le_refl _) _
  have L2 : Hid (∀ g off, a2 = some ⟨g, off, none⟩ → u2.heap.size ≤ g ∧ g < w2.heap.size) := owns_block hown2
  have X4 : Hid (Box2 (w2.alloc (.cells #[.int .i64 c, .slice a2 zs.length cap2] 30)) w1.heap.size (.int .i64 c) (.slice a1 zs.length cap1)) := (X3.out.below hb2).below A2
  have O4 : Hid ((w2.alloc (.cells #[.int .i64 c, .slice a2 zs.length cap2] 30)).ownsRow u2.heap.size 2 1 (.slice a2 zs.length cap2) zs.length (zs.map (Value.int .i64))) := hown2.alloc _
  have P4 : Hid ((w2.alloc (.cells #[.int .i64 c, .slice a2 zs.length cap2] 30)).ownsRow u1.heap.size 2 1 (.slice a1 zs.length cap1) zs.length (zs.map (Value.int .i64))) := (owns_below O3.out hb2).alloc _
  have Y4 : Hid (Box2 (w2.alloc (.cells #[.int .i64 c, .slice a2 zs.length cap2] 30)) w2.heap.size (.int .i64 c) (.slice a2 zs.length cap2)) := Box2.new _ _ _ _
  have T4 : Hid (StAt (w2.alloc (.cells #[.int .i64 c, .slice a2 zs.length cap2] 30)) w.heap.size 0 x) := st_old (st_old T3.out hb2) A2
  have C4 : Hid (Below w.heap.size w (w2.alloc (.cells #[.int .i64 c, .slice a2 zs.length cap2] 30))) := (C3.out.trans (hb2.mono C3.out.size)).trans (A2.mono (by have := C3.out.size; omega))
  have hzX : w1.heap.size < u2.heap.size := X3.out.lt
  clear hown2 O3 X3 T3 C3 hb2 A2
  generalize hV2 : w2.alloc (.cells #[.int .i64 c, .slice a2 zs.length cap2] 30) = V2 at X4 O4 P4 Y4 T4 C4
  have hzV2 : V2.heap.size ≤ w2.heap.size + 1 := by rw [← hV2]; simp
  have hzV2' : w2.heap.size + 1 ≤ V2.heap.size := by rw [← hV2]; simp
  go_upto_region 3 with fail
  try rw [hV2]
  clear hV2
  obtain ⟨x0, x1⟩ := X4.out
  obtain ⟨y0, y1⟩ := Y4.out
  go_wp2_with fail
  refine (eqInts_same c a2 a1 zs.length cap2 cap1 zs _ hm (row_of_owns O4.out) (row_of_owns P4.out)).mono ?_
  rintro e w3 ⟨rfl, hb3⟩
  have hz3 := hb3.size
  have O5 : Hid (w3.ownsRow u2.heap.size 2 1 (.slice a2 zs.length cap2) zs.length (zs.map (Value.int .i64))) := owns_below O4.out hb3
  have R5 : Hid (RowIn w3 a1 zs.length zs) := (row_of_owns P4.out).below hb3
  have X5 : Hid (Box2 w3 w1.heap.size (.int .i64 c) (.slice a1 zs.length cap1)) := X4.out.below hb3
  have Y5 : Hid (Box2 w3 w2.heap.size (.int .i64 c) (.slice a2 zs.length cap2)) := Y4.out.below hb3
  have T5 : Hid (StAt w3 w.heap.size 0 x) := st_old T4.out hb3
  have C5 : Hid (Below w.heap.size w w3) := C4.out.trans (hb3.mono C4.out.size)
  clear O4 P4 Y4 X4 T4 C4 hb3 x0 x1 y0 y1
  obtain ⟨y0, y1⟩ := Y5.out
  go_wp2_with fail
  refine (mark1 c _ a2 zs.length cap2 _ _ hm O5.out).mono ?_
  rintro e w4 ⟨rfl, hown4, hg4⟩
  have hz4 := hg4.size
  have hne : ∀ k, k < u2.heap.size ∨ w2.heap.size ≤ k → some k ≠ (Value.slice a2 zs.length cap2).ownBlock := by
    intro k hk e
    rcases a2 with _ | ⟨g, off, sp⟩
    · simp [Value.ownBlock] at e
    · simp [Value.ownBlock] at e
      rcases O5.out.2 with ⟨h', _⟩ | ⟨g', cp, cur, h', hb', _⟩
      · simp at h'
      · simp at h'
        obtain ⟨⟨rfl, rfl, rfl⟩, _⟩ := h'
        have := L2.out g 0 rfl
        omega
  have X6 : Hid (Box2 w4 w1.heap.size (.int .i64 c) (.slice a1 zs.length cap1)) := X5.out.grown hg4 (hne _ (.inl hzX))
  have Y6 : Hid (Box2 w4 w2.heap.size (.int .i64 c) (.slice a2 zs.length cap2)) := Y5.out.grown hg4 (hne _ (.inr (Nat.le_refl _)))
  have R6 : Hid (RowIn w4 a1 zs.length zs) := R5.out.kept hg4 (fun g off h => hne g (.inl (by have := L1.out g off h; omega)))
  have M6 : Hid (RowIn w4 a2 zs.length (marks 1 zs.length)) := row_of_owns hown4
  have T6 : Hid (StAt w4 w.heap.size 0 x) := st_grown T5.out hg4 (hne _ (.inl (by omega)))
  have C6 : Hid (Below w.heap.size w w4) := C5.out.grown hg4 C5.out.size (fun k e => by have := O5.out.lt k e; omega)
  clear O5 X5 Y5 R5 T5 C5 hown4 hg4 hne y0 y1
  obtain ⟨y0, y1⟩ := Y6.out
  go_wp2_with fail
  refine (held1 c a2 zs.length cap2 _ hm M6.out).mono ?_
  rintro e w5 ⟨rfl, hb5⟩
  have hz5 := hb5.size
  have X7 : Hid (Box2 w5 w1.heap.size (.int .i64 c) (.slice a1 zs.length cap1)) := X6.out.below hb5
  have Y7 : Hid (Box2 w5 w2.heap.size (.int .i64 c) (.slice a2 zs.length cap2)) := Y6.out.below hb5
  have R7 : Hid (RowIn w5 a1 zs.length zs) := R6.out.below hb5
  have M7 : Hid (RowIn w5 a2 zs.length (marks 1 zs.length)) := M6.out.below hb5
  have T7 : Hid (StAt w5 w.heap.size 0 x) := st_old T6.out hb5
  have C7 : Hid (Below w.heap.size w w5) := C6.out.trans (hb5.mono C6.out.size)
  clear X6 Y6 R6 M6 T6 C6 hb5 y0 y1
  have hlt0 : decide ((1 : Int) + (zs.length : Int) < 0) = false := by simp; omega
  obtain ⟨t0, t1, t2, t3, t4⟩ := T7.out
  simp only [Nat.zero_add] at t0 t1 t2 t3 t4
  go_wp2_with fail
  refine (toStatement_c x _).mono ?_
  rintro e u3 ⟨rfl, hc3⟩
  have X8 : Hid (Box2 u3 w1.heap.size (.int .i64 c) (.slice a1 zs.length cap1)) := X7.out.below hc3
  have Y8 : Hid (Box2 u3 w2.heap.size (.int .i64 c) (.slice a2 zs.length cap2)) := Y7.out.below hc3
  have R8 : Hid (RowIn u3 a1 zs.length zs) := R7.out.below hc3
  have M8 : Hid (RowIn u3 a2 zs.length (marks 1 zs.length)) := M7.out.below hc3
  have C8 : Hid (Below w.heap.size w u3) := C7.out.trans (hc3.mono C7.out.size)
  clear X7 Y7 R7 M7 T7 C7 hc3 t0 t1 t2 t3 t4
  go_wp2_with fail
  refine (HI.out _).mono ?_
  rintro e w6 ⟨a3, cap3, rfl, hown6, hb6⟩
  have hz6 := hb6.size
  have A6 : Below w6.heap.size w6 (w6.alloc (.cells #[.int .i64 c, .slice a3 zs.length cap3] 30)) := (Below.refl _ _).alloc (Nat.le_refl _) _
  have X9 : Hid (Box2 (w6.alloc (.cells #[.int .i64 c, .slice a3 zs.length cap3] 30)) w1.heap.size (.int .i64 c) (.slice a1 zs.length cap1)) := (X8.out.below hb6).below A6
  have R9 : Hid (RowIn (w6.alloc (.cells #[.int .i64 c, .slice a3 zs.length cap3] 30)) a1 zs.length zs) := (R8.out.below hb6).below A6
  have S9 : Hid (RowIn (w6.alloc (.cells #[.int .i64 c, .slice a3 zs.length cap3] 30)) a3 zs.length zs) := (row_of_owns hown6).below A6
  have Y9 : Hid (Box2 (w6.alloc (.cells #[.int .i64 c, .slice a3 zs.length cap3] 30)) w2.heap.size (.int .i64 c) (.slice a2 zs.length cap2)) := (Y8.out.below hb6).below A6
  have Z9 : Hid (Box2 (w6.alloc (.cells #[.int .i64 c, .slice a3 zs.length cap3] 30)) w6.heap.size (.int .i64 c) (.slice a3 zs.length cap3)) := Box2.new _ _ _ _
  have M9 : Hid (RowIn (w6.alloc (.cells #[.int .i64 c, .slice a3 zs.length cap3] 30)) a2 zs.length (marks 1 zs.length)) := (M8.out.below hb6).below A6
  have C9 : Hid (Below w.heap.size w (w6.alloc (.cells #[.int .i64 c, .slice a3 zs.length cap3] 30))) := (C8.out.trans (hb6.mono C8.out.size)).trans (A6.mono (by have := C8.out.size; omega))
  clear X8 Y8 R8 M8 C8 hown6 A6 hb6
  generalize hV3 : w6.alloc (.cells #[.int .i64 c, .slice a3 zs.length cap3] 30) = V3 at X9 R9 S9 Y9 Z9 M9 C9
  go_upto_region 14 with fail
  try rw [hV3]
  clear hV3
  obtain ⟨x0, x1⟩ := X9.out
  obtain ⟨z0, z1⟩ := Z9.out
  go_wp2_with fail
  refine (eqInts_same c a3 a1 zs.length cap3 cap1 zs _ hm S9.out R9.out).mono ?_
  rintro e w7 ⟨rfl, hb7⟩
  obtain ⟨y0, y1⟩ := Y9.out.below hb7
  have M10 : Hid (RowIn w7 a2 zs.length (marks 1 zs.length)) := M9.out.below hb7
  have C10 : Hid (Below w.heap.size w w7) := C9.out.trans (hb7.mono C9.out.size)
  clear X9 R9 S9 Y9 Z9 M9 C9 hb7 x0 x1 z0 z1
  go_wp2_with fail
  refine (held1 c a2 zs.length cap2 _ hm M10.out).mono ?_
  rintro e w8 ⟨rfl, hb8⟩
  have C11 : Hid (Below w.heap.size w w8) := C10.out.trans (hb8.mono C10.out.size)
  clear M10 C10 hb8 y0 y1
  go_wp2
  go_ret
  exact ⟨rfl, C11.out⟩

/-! The walk: the Go text returns true. -/
theorem walk (x0 : StI) (w : World)  :
    Calls Try.prog 4 #[.agg #[.int .i64 x0.k, .int .i64 x0.e, .int .i64 x0.f, .int .i64 x0.s, .int .i64 x0.n]] w fun e w' => e = .returned (.bool true) ∧ Below w.heap.size w w' := by
  by_cases hc : stCode x0 = 0
  · exact inner x0 0 (packL x0) (by simp [packL]) w (fun w => specPack_ok x0 w hc) (fun w => implPack_ok x0 w hc)
  · exact inner x0 _ [] (by simp) w (fun w => specPack_bad x0 _ w rfl hc) (fun w => implPack_bad x0 _ w rfl hc)

/-! The row's step. -/
set_option maxRecDepth 100000 in
theorem lifted (os : Os) (started : os.Started) (H : Type) (enc : TypeId × Value → H) :
    ReturnsInHanded {} Try.checked os 4 .any (Rows.fnExactPackStatementSpec.pre6 enc Try.prog Try.f4 Rows.fnExactPackStatementRow.domain false) (Rows.fnExactPackStatementSpec.post enc Try.prog Try.f4 false true false false) := by
  refine returnsInHanded_of_change (C := Try.checked) own started (by kernel_rfl) Try.func4
    (ChangeSpec.witness6 (enc := enc) (C := Try.checked) false ⟨#[], #[.agg #[.int .i64 0, .int .i64 0, .int .i64 0, .int .i64 0, .int .i64 0]], []⟩ 8 (by kernel_rfl) (by kernel_rfl) (by kernel_rfl) (by kernel_rfl)) ?_
  intro W base args ds gs before hval0 hW hcnd _
  have hval : ∀ (j : Nat) t v, Try.f4.params[j]? = some t → args[j]? = some v → Value.okWide Try.prog W .any base t v := hval0
  have hW' := hW
  obtain ⟨p, q, hA0, hV, rfl, hfz, hnd⟩ := hW
  have hA : DataW.TrodAll enc Try.prog W 0 (fun _ => true) true Try.f4.params.toList args.toList ds p := hA0
  rw [Try.params4] at hA hval
  obtain ⟨v0, vs0, d0, ds0, p0, q0, hargs, rfl, rfl, h0, r0⟩ := trodAll_cons hA
  obtain ⟨rfl, rfl, rfl⟩ := trodAll_nil r0
  obtain rfl : args = #[v0] := by cases args; simp_all
  obtain ⟨rfl, rfl⟩ := trodVars_none hV
  obtain ⟨cs0, rfl, hs0⟩ := okWide_struct Try.underlying23 (hval 0 23 v0 rfl rfl)
  have k0 := h0
  have lt0 : ∀ x ∈ p0, x.block < W.heap.size := by obtain ⟨m, hm⟩ := k0; exact DataW.trod_lt m _ _ _ hm
  obtain ⟨x0, rfl⟩ : ∃ x : StI, cs0 = #[.int .i64 x.k, .int .i64 x.e, .int .i64 x.f, .int .i64 x.s, .int .i64 x.n] := by
    obtain ⟨fuel, hf⟩ := h0
    exact statement_shape _ hf
  clear hA0 hval0
  refine (walk x0 W ).mono fun e W' ⟨he, bel⟩ => ?_
  subst he
  exact ⟨_, rfl, _, _, _, [], _, [], hW', trodAll_mk1 (shut_bool Try.underlying4 _), (trodAll_cons_mk (Below.trod laidOut (by kernel_rfl) (of_decide_eq_true (by kernel_rfl)) k0 bel lt0) trodAll_mk0), rfl, bel.frame _, fun h => by cases h⟩

theorem over : Rows.fnExactPackStatementRow.holds Try.pinned (OpenSpec.ofChange Rows.fnExactPackStatementSpec) :=
  OpenClaim.holds_of_wide 4 Try.f4 rfl rfl rfl rfl rfl rfl rfl ⟨rfl, rfl, rfl, rfl, rfl⟩ rfl rfl rfl rfl rfl (by kernel_rfl) Try.func4 (by kernel_rfl)
    (of_decide_eq_true (by kernel_rfl)) (by unfold Func.isWrapper; first | (rw [if_pos (by decide +kernel)]; kernel_rfl) | (rw [if_neg (by decide +kernel)]; exact ⟨rfl, rfl⟩))
    (fun os started H enc _ => lifted os started H enc)

end Go.Proofs.Ytpeddanicenohaa.fnExactPackStatement
namespace Go.Proofs.Ytpeddanicenohaa
theorem fnExactPackStatement_holds : Rows.FnExactPackStatementSaid := fnExactPackStatement.over
#print axioms fnExactPackStatement_holds
end Go.Proofs.Ytpeddanicenohaa
