/-
  PROVED: for every int64 the law laws.FnExactListOf returns true, that is impl.ListOf answers as spec.ListOf there and its list is memory of its own, behind another call too; the argument reads as it did.
  Conditions: none beside those that the given row itself bears. The frame is the shell written by program; the walk is ours.
-/
import Derived.Test.YtjnljmembnlebagRows
import Derived.WalkKit
import Derived.ProofKit
import Derived.Below
import Derived.OpenShut
import Derived.ShutString
import Derived.Test.YtjnljmembnlebagList1
import Derived.Test.YtjnljmembnlebagList2
namespace Go.Proofs.Ytjnljmembnlebag.fnExactListOf
open Go.ChangeShapes Go.WideShapes Go.ChangeAt Go.RowKit
open Go.ChangeMaps (open_string shut_string)
set_option linter.unusedVariables false      -- a walk need not use every 'w<i>' (that an integer argument fits its kind)

theorem own : ownKnob Try.prog.godebug = none := by kernel_rfl

/-- Two cells of a block. -/
def Box2 (w : World) (B : Nat) (x y : Value) : Prop := w.cell? ⟨B, 0, none⟩ = some x ∧ w.cell? ⟨B, 1, none⟩ = some y
theorem Box2.lt {w : World} {B : Nat} {x y : Value} (h : Box2 w B x y) : B < w.heap.size := World.block_lt_of_cell? w ⟨B, 0, none⟩ h.1
theorem Box2.below {w w' : World} {B : Nat} {x y : Value} (h : Box2 w B x y) (hb : Below w.heap.size w w') : Box2 w' B x y :=
  ⟨(hb.cell (p := ⟨B, 0, none⟩) h.lt).trans h.1, (hb.cell (p := ⟨B, 1, none⟩) h.lt).trans h.2⟩
theorem Box2.grown {w w' : World} {B : Nat} {x y : Value} {row : Option Nat} (h : Box2 w B x y) (hg : w.grownBy w' row) (hne : some B ≠ row) : Box2 w' B x y :=
  ⟨hg.cell h.1 hne, hg.cell h.2 hne⟩
theorem Box2.alloc {w : World} {B : Nat} {x y : Value} (h : Box2 w B x y) (o : Obj) : Box2 (w.alloc o) B x y := h.below ((Below.refl _ _).alloc (Nat.le_refl _) _)
theorem Box2.new (w : World) (x y : Value) (t : TypeId) : Box2 (w.alloc (.cells #[x, y] t)) w.heap.size x y := ⟨by simp, by simp⟩

/-- What a call of ListOf gives. -/
def Lists (f : Nat) (a0 c : Int) (zs : List Int) : Prop := ∀ w : World, Calls Try.prog f #[.int .i64 a0] w fun e w' => ∃ a cap, e = .returned (.agg #[.int .i64 c, .slice a zs.length cap]) ∧ w'.ownsRow (w.heap.size + 1) 2 1 (.slice a zs.length cap) zs.length (zs.map (Value.int .i64)) ∧ Below w.heap.size w w'

set_option maxHeartbeats 1000000 in
theorem inner (a0 c : Int) (zs : List Int) (hz : zs.length ≤ 8) (w : World) (HS : Lists 12 a0 c zs) (HI : Lists 13 a0 c zs) :
    Calls Try.prog 4 #[.int .i64 a0] w fun e w' => e = .returned (.bool true) ∧ Below w.heap.size w w' := by
  have hm : zs.length ≤ 1048576 := by omega
  go_enter Try.func4, Try.ntmps4
  go_wp2_with fail
  refine (HS _).mono ?_
  rintro e w1 ⟨a1, cap1, rfl, hown1, hb1⟩
  have O1 : Hid ((w1.alloc (.cells #[.int .i64 c, .slice a1 zs.length cap1] 31)).ownsRow (w.heap.size + 1) 2 1 (.slice a1 zs.length cap1) zs.length (zs.map (Value.int .i64))) := hown1.alloc _
  have X1 : Hid (Box2 (w1.alloc (.cells #[.int .i64 c, .slice a1 zs.length cap1] 31)) w1.heap.size (.int .i64 c) (.slice a1 zs.length cap1)) := Box2.new _ _ _ _
  have hz1 := hb1.size
  have L1 : Hid (∀ g off, a1 = some ⟨g, off, none⟩ → g < w1.heap.size) := fun g off h => (owns_block hown1 g off h).2
  clear hown1
  go_wp2_with fail
  refine (HI _).mono ?_
  rintro e w2 ⟨a2, cap2, rfl, hown2, hb2⟩
  have hz2 := hb2.size
  simp only [World.size_alloc] at hz2 hown2
  have L2 : Hid (∀ g off, a2 = some ⟨g, off, none⟩ → w1.heap.size + 1 + 1 ≤ g ∧ g < w2.heap.size) := owns_block hown2
  obtain ⟨x0, x1⟩ := (X1.out.below hb2).alloc (.cells #[.int .i64 c, .slice a2 zs.length cap2] 31)
  have O2 : Hid ((w2.alloc (.cells #[.int .i64 c, .slice a2 zs.length cap2] 31)).ownsRow (w1.heap.size + 1 + 1) 2 1 (.slice a2 zs.length cap2) zs.length (zs.map (Value.int .i64))) := hown2.alloc _
  have P2 : Hid ((w2.alloc (.cells #[.int .i64 c, .slice a2 zs.length cap2] 31)).ownsRow (w.heap.size + 1) 2 1 (.slice a1 zs.length cap1) zs.length (zs.map (Value.int .i64))) := (owns_below O1.out hb2).alloc _
  have Y2 : Hid (Box2 (w2.alloc (.cells #[.int .i64 c, .slice a2 zs.length cap2] 31)) w2.heap.size (.int .i64 c) (.slice a2 zs.length cap2)) := Box2.new _ _ _ _
  have X2 : Hid (Box2 (w2.alloc (.cells #[.int .i64 c, .slice a2 zs.length cap2] 31)) w1.heap.size (.int .i64 c) (.slice a1 zs.length cap1)) := ⟨x0, x1⟩
  clear hown2 O1 X1
  go_wp2_with fail
  refine (eqInts_same c a2 a1 zs.length cap2 cap1 zs _ hm (row_of_owns O2.out) (row_of_owns P2.out)).mono ?_
  rintro e w3 ⟨rfl, hb3⟩
  have hz3 := hb3.size
  simp only [World.size_alloc] at hz3
  obtain ⟨y0, y1⟩ := Y2.out.below hb3
  have O3 : Hid (w3.ownsRow (w1.heap.size + 1 + 1) 2 1 (.slice a2 zs.length cap2) zs.length (zs.map (Value.int .i64))) := owns_below O2.out hb3
  have R3 : Hid (RowIn w3 a1 zs.length zs) := (row_of_owns P2.out).below hb3
  have X3 : Hid (Box2 w3 w1.heap.size (.int .i64 c) (.slice a1 zs.length cap1)) := X2.out.below hb3
  have Y3 : Hid (Box2 w3 w2.heap.size (.int .i64 c) (.slice a2 zs.length cap2)) := ⟨y0, y1⟩
  clear O2 P2 Y2 X2 x0 x1
  go_wp2_with fail
  refine (mark1 c _ a2 zs.length cap2 _ _ hm O3.out).mono ?_
  rintro e w4 ⟨rfl, hown4, hg4⟩
  have hz4 := hg4.size
  have hne : ∀ k, k < w1.heap.size + 1 + 1 ∨ w2.heap.size ≤ k → some k ≠ (Value.slice a2 zs.length cap2).ownBlock := by
    intro k hk e
    have := O3.out.lt k e.symm
    rcases a2 with _ | ⟨g, off, sp⟩
    · simp [Value.ownBlock] at e
    · simp [Value.ownBlock] at e
      rcases (owns_parts O3.out).2 with h0 | ⟨g', hg'⟩
      · rcases O3.out.2 with ⟨h', _⟩ | ⟨g', cp, cur, h', hb', _⟩
        · simp at h'
        · simp at h'
          obtain ⟨⟨rfl, rfl, rfl⟩, _⟩ := h'
          have := L2.out g 0 rfl
          omega
      · simp at hg'
        obtain ⟨rfl, rfl, rfl⟩ := hg'
        have := L2.out g 0 rfl
        omega
  have X4 : Hid (Box2 w4 w1.heap.size (.int .i64 c) (.slice a1 zs.length cap1)) := X3.out.grown hg4 (hne _ (.inl (by omega)))
  obtain ⟨y0, y1⟩ := Y3.out.grown hg4 (hne _ (.inr (Nat.le_refl _)))
  have Y4 : Hid (Box2 w4 w2.heap.size (.int .i64 c) (.slice a2 zs.length cap2)) := ⟨y0, y1⟩
  have R4 : Hid (RowIn w4 a1 zs.length zs) := R3.out.kept hg4 (fun g off h => hne g (.inl (by have := L1.out g off h; omega)))
  have M4 : Hid (RowIn w4 a2 zs.length (marks 1 zs.length)) := row_of_owns hown4
  have G4 : Hid (Below w.heap.size w3 w4) := (Below.refl _ _).grown hg4 (by omega) (fun k e => by have := O3.out.lt k e; omega)
  clear O3 X3 Y3 R3 hown4 hg4 hne
  go_wp2_with fail
  refine (held1 c a2 zs.length cap2 _ hm M4.out).mono ?_
  rintro e w5 ⟨rfl, hb5⟩
  have hz5 := hb5.size
  have X5 : Hid (Box2 w5 w1.heap.size (.int .i64 c) (.slice a1 zs.length cap1)) := X4.out.below hb5
  have Y5 : Hid (Box2 w5 w2.heap.size (.int .i64 c) (.slice a2 zs.length cap2)) := Y4.out.below hb5
  have R5 : Hid (RowIn w5 a1 zs.length zs) := R4.out.below hb5
  have M5 : Hid (RowIn w5 a2 zs.length (marks 1 zs.length)) := M4.out.below hb5
  clear X4 Y4 R4 M4 y0 y1
  have hlt0 : decide ((1 : Int) + (zs.length : Int) < 0) = false := by simp; omega
  go_wp2_with fail
  refine (HI _).mono ?_
  rintro e w6 ⟨a3, cap3, rfl, hown6, hb6⟩
  have hz6 := hb6.size
  have A6 : Below w6.heap.size w6 (w6.alloc (.cells #[.int .i64 c, .slice a3 zs.length cap3] 31)) := (Below.refl _ _).alloc (Nat.le_refl _) _
  obtain ⟨x0, x1⟩ := (X5.out.below hb6).below A6
  have R6 : Hid (RowIn (w6.alloc (.cells #[.int .i64 c, .slice a3 zs.length cap3] 31)) a1 zs.length zs) := (R5.out.below hb6).below A6
  have S6 : Hid (RowIn (w6.alloc (.cells #[.int .i64 c, .slice a3 zs.length cap3] 31)) a3 zs.length zs) := (row_of_owns hown6).below A6
  have Y6 : Hid (Box2 (w6.alloc (.cells #[.int .i64 c, .slice a3 zs.length cap3] 31)) w2.heap.size (.int .i64 c) (.slice a2 zs.length cap2)) := (Y5.out.below hb6).below A6
  have M6 : Hid (RowIn (w6.alloc (.cells #[.int .i64 c, .slice a3 zs.length cap3] 31)) a2 zs.length (marks 1 zs.length)) := (M5.out.below hb6).below A6
  have HA6 : Hid (Below w6.heap.size w6 (w6.alloc (.cells #[.int .i64 c, .slice a3 zs.length cap3] 31))) := A6
  clear X5 Y5 R5 M5 hown6 A6
  go_wp2_with fail
  refine (eqInts_same c a3 a1 zs.length cap3 cap1 zs _ hm S6.out R6.out).mono ?_
  rintro e w7 ⟨rfl, hb7⟩
  have hz7 := hb7.size
  simp only [World.size_alloc] at hz7
  obtain ⟨y0, y1⟩ := Y6.out.below hb7
  have M7 : Hid (RowIn w7 a2 zs.length (marks 1 zs.length)) := M6.out.below hb7
  clear R6 S6 Y6 M6 x0 x1
  go_wp2_with fail
  refine (held1 c a2 zs.length cap2 _ hm M7.out).mono ?_
  rintro e w8 ⟨rfl, hb8⟩
  clear M7 y0 y1
  go_wp2
  go_ret
  have B2 : Below w.heap.size w w2 := (hb1.alloc hz1 _).trans (hb2.mono (by simp; omega))
  have B4 : Below w.heap.size w w4 := ((B2.alloc (by omega) _).trans (hb3.mono (by simp; omega))).trans G4.out
  have B6 : Below w.heap.size w w6 := (B4.trans (hb5.mono (by omega))).trans (hb6.mono (by omega))
  exact ⟨rfl, ((B6.trans (HA6.out.mono (by omega))).trans (hb7.mono (by simp; omega))).trans (hb8.mono (by omega))⟩

theorem lists_out (f : Nat) (s : Int) (h : ∀ w : World, Calls Try.prog f #[.int .i64 s] w fun e w' => e = .returned (.agg #[.int .i64 3, .slice none 0 0]) ∧ Below w.heap.size w w') : Lists f s 3 [] :=
  fun w => (h w).mono fun e w' hh => ⟨none, 0, hh.1, World.ownsRow_nil _ _ _ _, hh.2⟩

/-! The walk: the Go text returns true. -/
theorem walk (a0 : Int) (w0 : (Lit.int .i64 a0).wf = true) (w : World) :
    Calls Try.prog 4 #[.int .i64 a0] w fun e w' => e = .returned (.bool true) ∧ Below w.heap.size w w' := by
  by_cases h1 : 0 ≤ a0 ∧ a0 ≤ 255
  · exact inner a0 0 (listTo a0 8) (listTo_le a0 8) w (specList_in a0 h1.1 h1.2) (implList_in a0 h1.1 h1.2)
  · exact inner a0 3 [] (by simp) w (lists_out _ a0 (specList_out a0 (by omega))) (lists_out _ a0 (implList_out a0 (by omega)))

/-! The row's step. -/
set_option maxRecDepth 100000 in
theorem lifted (os : Os) (started : os.Started) (H : Type) (enc : TypeId × Value → H) :
    ReturnsInHanded {} Try.checked os 4 .any (Rows.fnExactListOfSpec.pre6 enc Try.prog Try.f4 Rows.fnExactListOfRow.domain false) (Rows.fnExactListOfSpec.post enc Try.prog Try.f4 false true false false) := by
  refine returnsInHanded_of_change (C := Try.checked) own started (by kernel_rfl) Try.func4
    (ChangeSpec.witness6 (enc := enc) (C := Try.checked) false ⟨#[], #[.int .i64 0], []⟩ 8 (by kernel_rfl) (by kernel_rfl) (by kernel_rfl) (by kernel_rfl)) ?_
  intro W base args ds gs before hval0 hW hcnd _
  have hval : ∀ (j : Nat) t v, Try.f4.params[j]? = some t → args[j]? = some v → Value.okWide Try.prog W .any base t v := hval0
  have hW' := hW
  obtain ⟨p, q, hA0, hV, rfl, hfz, hnd⟩ := hW
  have hA : DataW.TrodAll enc Try.prog W 0 (fun _ => true) true Try.f4.params.toList args.toList ds p := hA0
  rw [Try.params4] at hA hval
  obtain ⟨v0, vs0, d0, ds0, p0, q0, hargs, rfl, rfl, h0, r0⟩ := trodAll_cons hA
  obtain ⟨rfl, rfl, rfl⟩ := trodAll_nil r0
  obtain rfl : args = #[v0] := by cases args; simp_all
  obtain ⟨rfl, rfl⟩ := trodVars_none hV
  obtain ⟨a0, rfl, rfl, rfl, w0⟩ := open_int Try.underlying2 (hval 0 2 v0 rfl rfl) h0
  clear hA0 hval0
  simp only [List.append_nil] at hW'
  refine (walk a0 w0 W).mono fun e W' ⟨he, hg⟩ => ?_
  subst he
  exact ⟨_, rfl, _, _, _, [], [], [], hW', trodAll_cons_mk (shut_bool Try.underlying4 _) trodAll_mk0, (trodAll_cons_mk (shut_int Try.underlying2 w0) trodAll_mk0), rfl, hg.frame _, fun h => by cases h⟩

theorem over : Rows.fnExactListOfRow.holds Try.pinned (OpenSpec.ofChange Rows.fnExactListOfSpec) :=
  OpenClaim.holds_of_wide 4 Try.f4 rfl rfl rfl rfl rfl rfl rfl ⟨rfl, rfl, rfl, rfl, rfl⟩ rfl rfl rfl rfl rfl (by kernel_rfl) Try.func4 (by kernel_rfl)
    (of_decide_eq_true (by kernel_rfl)) (by unfold Func.isWrapper; first | (rw [if_pos (by decide +kernel)]; kernel_rfl) | (rw [if_neg (by decide +kernel)]; exact ⟨rfl, rfl⟩))
    (fun os started H enc _ => lifted os started H enc)

end Go.Proofs.Ytjnljmembnlebag.fnExactListOf
namespace Go.Proofs.Ytjnljmembnlebag
theorem fnExactListOf_holds : Rows.FnExactListOfSaid := fnExactListOf.over
#print axioms fnExactListOf_holds
end Go.Proofs.Ytjnljmembnlebag
