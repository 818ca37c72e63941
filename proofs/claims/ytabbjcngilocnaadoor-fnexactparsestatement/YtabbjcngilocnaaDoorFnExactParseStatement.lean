/-
  PROVED: for every string the law laws.FnExactParseStatement returns true, that is impl.ParseStatement answers as spec.ParseStatement there (up to 1<<20 bytes, as the law itself says): the statement whose text it is, or the code of a text that cannot be read; the argument and the variable errUnreadable read as they did. This is the tied card: the listed variables are as the program's text lays them.
  Conditions: none beside those that the given row and card themselves bear. The frame is the shell written by program, turned for the listed variables and the world's shape; the walk is ours.
-/
import Derived.Test.YtabbjcngilocnaaDoorRows
import Derived.WalkKit
import Derived.ProofKit
import Derived.Below
import Derived.LaidMore
import Derived.Stop.Joined
import Derived.SevenTiedAt
import Derived.Test.YtabbjcngilocnaaDoorTie
import Derived.Test.YtabbjcngilocnaaDoorCards
import Derived.OpenShut
import Derived.ShutString
import Derived.Deep.CutBlock
import Derived.Test.YtabbjcngilocnaaDoorPs5
import Derived.Test.YtabbjcngilocnaaDoorFs0
import Derived.MakeChecks
import Derived.Lay
import Derived.Test.YtabbjcngilocnaaDoorSt12
import Derived.Test.YtabbjcngilocnaaDoorEr0
namespace Go.Proofs.YtabbjcngilocnaaDoor.fnExactParseStatement
open Go.ChangeShapes Go.WideShapes Go.ChangeAt Go.RowKit
open Go.ChangeMaps (open_string shut_string)
set_option linter.unusedVariables false      -- a walk need not use every 'w<i>' (that an integer argument fits its kind)

theorem own : ownKnob Tryd.prog.godebug = none := by kernel_rfl

theorem laidOut : laidOutB Tryd.prog = true := by kernel_rfl

set_option linter.unusedSimpArgs false

set_option maxRecDepth 20000 in
set_option maxHeartbeats 2000000 in
theorem inner (t : ByteArray) (w : World) (ht : t.size ≤ 1048576) (hE : PE w) :
    Calls Tryd.prog 4 #[.string t] w fun e w' => e = .returned (.bool true) ∧ Below w.heap.size w w' := by
  have ht' : (t.size : Int) ≤ 1048576 := by omega
  obtain ⟨c, x, hr⟩ := reads_of t
  have HS : Hid (∀ w : World, Calls Tryd.prog 13 #[.string t] w fun e w' => e = .returned (.agg #[.int .i64 c, .int .i64 x.k, .int .i64 x.e, .int .i64 x.f, .int .i64 x.s, .int .i64 x.n]) ∧ Below w.heap.size w w') := fun w => specParseS_c t c x w ht hr
  have HI : Hid (∀ w2 : World, Below w.heap.size w w2 → Calls Tryd.prog 14 #[.string t] w2 fun e w' => e = .returned (.agg #[.int .i64 c, .int .i64 x.k, .int .i64 x.e, .int .i64 x.f, .int .i64 x.s, .int .i64 x.n]) ∧ Below w2.heap.size w2 w') := fun w2 hb => implParseS_c t c x w2 ht (hE.below hb) hr
  clear hr hE
  go_enter Tryd.func4, Tryd.ntmps4
  go_wp2_with fail
  refine (HS.out _).mono ?_
  rintro e w1 ⟨rfl, hb1⟩
  obtain ⟨V, hV⟩ : ∃ V, V = w1.alloc (.cells #[.int .i64 c, .int .i64 x.k, .int .i64 x.e, .int .i64 x.f, .int .i64 x.s, .int .i64 x.n] 42) := ⟨_, rfl⟩
  have B1 : Below w.heap.size w V := by rw [hV]; exact hb1.alloc hb1.size _
  have S1 : Hid (SRes V w1.heap.size c x) := by rw [hV]; exact ⟨⟨by simp, by simp, by simp, by simp, by simp, by simp⟩, fun j => by simp [go_sem]⟩
  clear hb1
  go_upto_region 4 with fail
  rw [← hV]
  clear hV
  go_wp2_with fail
  refine (HI.out _ B1).mono ?_
  rintro e w2 ⟨rfl, hb2⟩
  obtain ⟨U, hU⟩ : ∃ U, U = w2.alloc (.cells #[.int .i64 c, .int .i64 x.k, .int .i64 x.e, .int .i64 x.f, .int .i64 x.s, .int .i64 x.n] 42) := ⟨_, rfl⟩
  have A2 : Below V.heap.size V U := by rw [hU]; exact hb2.alloc hb2.size _
  have B2 : Below w.heap.size w U := B1.trans (A2.mono B1.size)
  have S2 : Hid (SRes U w1.heap.size c x) := S1.out.below A2
  have T2 : Hid (SRes U w2.heap.size c x) := by rw [hU]; exact ⟨⟨by simp, by simp, by simp, by simp, by simp, by simp⟩, fun j => by simp [go_sem]⟩
  clear hb2 A2 B1 S1
  go_upto_region 5 with fail
  rw [← hU]
  clear hU
  obtain ⟨⟨x0, x1, x2, x3, x4, x5⟩, _⟩ := S2.out
  obtain ⟨⟨y0, y1, y2, y3, y4, y5⟩, _⟩ := T2.out
  go_wp2_with fail
  refine (eqSR_same c x _).mono ?_
  rintro e w3 ⟨rfl, hb3⟩
  clear x0 x1 x2 x3 x4 x5 y0 y1 y2 y3 y4 y5
  go_wp2
  go_ret
  exact ⟨rfl, B2.trans (hb3.mono B2.size)⟩

set_option maxRecDepth 20000 in
set_option maxHeartbeats 400000 in
theorem long (t : ByteArray) (w : World) (hl : 1048576 < t.size) :
    Calls Tryd.prog 4 #[.string t] w fun e w' => e = .returned (.bool true) ∧ Below w.heap.size w w' := by
  have hl' : (1048576 : Int) < (t.size : Int) := by omega
  go_enter Tryd.func4, Tryd.ntmps4
  go_wp2
  go_ret
  exact ⟨rfl, Below.refl _ _⟩

theorem Tryd.gS : Tryd.prog.globalNamed "strconv.ErrSyntax" = some 4 := by kernel_rfl
theorem Tryd.gST : (Tryd.prog.globals[4]?).map (·.type) = some 54 := by kernel_rfl
theorem Tryd.gR : Tryd.prog.globalNamed "strconv.ErrRange" = some 5 := by kernel_rfl
theorem Tryd.gRT : (Tryd.prog.globals[5]?).map (·.type) = some 54 := by kernel_rfl

theorem pe_of {W : World} (h : laidMetH Tryd.prog Rows.fnExactParseStatementRow.laid W) (hs : W.ShapedOpen Tryd.prog) : PE W := by
  have h0 : laidMet Tryd.prog [("math/bits.deBruijn32tab", Rows.laid_math_bits_deBruijn32tab), ("math/bits.deBruijn64tab", Rows.laid_math_bits_deBruijn64tab), ("internal/strconv.uint64pow10", Rows.laid_internal_strconv_uint64pow10), ("unicode/utf8.acceptRanges", Rows.laid_unicode_utf8_acceptRanges), ("strconv.ErrRange", Rows.laid_strconv_ErrRange), ("strconv.ErrSyntax", Rows.laid_strconv_ErrSyntax), ("loop.example/g00338/impl.errUnreadable", Rows.laid_loop_example_g00338_impl_errUnreadable), ("unicode/utf8.first", Rows.laid_unicode_utf8_first)] W := by
    have q := Go.MakeChecks.laidMetH_plain Tryd.prog Rows.fnExactParseStatementRow.laid W (by kernel_rfl)
    rw [q] at h
    exact h
  have h4 := h0.tail.tail.tail.tail
  obtain ⟨a, s, hv, _⟩ := laid_sentinel h4 Tryd.gR Tryd.gRT Tryd.underlying54 Tryd.rowES Tryd.underlying194 Tryd.underlying196 rfl rfl Tryd.underlying9 Tryd.cellsES Tryd.cellsStr
  obtain ⟨a', s', hv', _⟩ := laid_sentinel h4.tail Tryd.gS Tryd.gST Tryd.underlying54 Tryd.rowES Tryd.underlying194 Tryd.underlying196 rfl rfl Tryd.underlying9 Tryd.cellsES Tryd.cellsStr
  exact ⟨errU_of h4.tail.tail, ⟨_, _, hv'⟩, ⟨_, _, hv⟩, Tryd.laysM147.s1_3 W hs⟩

/-! The listed variables: the program's own start meets the condition. -/
theorem door_met (os : Os) (args : Array Value) : laidMetH Tryd.prog Rows.fnExactParseStatementRow.laid ((World.laidAll Tryd.prog os Rows.fnExactParseStatementRow.laid).forCall (fun _ _ => 0) ⟨#[], args, []⟩).memory :=
  (Go.MakeChecks.laidMetH_plain Tryd.prog Rows.fnExactParseStatementRow.laid _ (by kernel_rfl)).mpr (laidMet_laidAll args (by kernel_rfl) (by kernel_rfl))

/-! The walk: the Go text returns true. -/
theorem walk (a0 : ByteArray) (w0 : a0.size ≤ maxLen) (w : World) (hE : PE w) :
    Calls Tryd.prog 4 #[.string a0] w fun e w' => e = .returned (.bool true) ∧ Below w.heap.size w w' := by
  by_cases hl : a0.size ≤ 1048576
  · exact inner a0 w hl hE
  · exact long a0 w (by omega)

/-! The row's step. -/
set_option maxRecDepth 100000 in
theorem lifted (os : Os) (started : os.Started) (H : Type) (enc : TypeId × Value → H) :
    ReturnsInHanded {} Tryd.checked os 4 .any (fun w args => (Rows.fnExactParseStatementSpec.pre enc Tryd.prog Tryd.f4 [] false w args ∧ laidMetH Tryd.prog Rows.fnExactParseStatementRow.laid w) ∧ sizedMet enc Tryd.prog Tryd.f4 (OpenSpec.ofChange Rows.fnExactParseStatementSpec) false w args) (Rows.fnExactParseStatementSpec.post enc Tryd.prog Tryd.f4 false true false false) := by
  refine lifted_shaped (C := Tryd.checked) own started (by kernel_rfl) Tryd.func4
    (ChangeSpec.witness_shaped (enc := enc) (C := Tryd.checked) (os := os) (X := fun w _ => laidMetH Tryd.prog Rows.fnExactParseStatementRow.laid w) false (World.laidAll Tryd.prog os Rows.fnExactParseStatementRow.laid) #[.string ByteArray.empty] 8 rfl (World.shaped_of_ZipB (by kernel_rfl) (by kernel_rfl)) (by kernel_rfl) (by kernel_rfl) (by kernel_rfl) (door_met os _)) ?_
  intro W base args ds gs before hval0 hW hL hSh
  have hval : ∀ (j : Nat) t v, Tryd.f4.params[j]? = some t → args[j]? = some v → Value.okWide Tryd.prog W .any base t v := hval0
  have hW' := hW
  obtain ⟨p, q, hA0, hV, rfl, hfz, hnd⟩ := hW
  have hA : DataW.TrodAll enc Tryd.prog W 0 (fun _ => true) true Tryd.f4.params.toList args.toList ds p := hA0
  rw [Tryd.params4] at hA hval
  obtain ⟨v0, vs0, d0, ds0, p0, q0, hargs, rfl, rfl, h0, r0⟩ := trodAll_cons hA
  obtain ⟨rfl, rfl, rfl⟩ := trodAll_nil r0
  obtain rfl : args = #[v0] := by cases args; simp_all
  have hV2 := hV
  obtain ⟨y0, rfl⟩ := vars_one hV
  obtain ⟨a0, rfl, rfl, rfl, w0⟩ := open_string Tryd.underlying9 (hval 0 9 v0 rfl rfl) h0
  clear hA0 hval0
  simp only [List.append_nil] at hW'
  refine (walk a0 w0 W (pe_of hL hSh)).mono fun e W' ⟨he, hg⟩ => ?_
  subst he
  exact ⟨_, rfl, _, _, _, [], [], _, hW', trodAll_cons_mk (shut_bool Tryd.underlying4 _) trodAll_mk0, (trodAll_cons_mk (shut_string Tryd.underlying9 w0) trodAll_mk0), Below.trodVars laidOut hg (by kernel_rfl) hV2, hg.frame _, fun h => by cases h⟩

theorem over : Rows.fnExactParseStatementRow.holds Tryd.pinned (OpenSpec.ofChange Rows.fnExactParseStatementSpec) :=
  OpenClaim.holds_of_wide 4 Tryd.f4 rfl rfl rfl rfl rfl rfl rfl ⟨rfl, rfl, rfl, rfl, rfl⟩ rfl rfl rfl rfl rfl (by kernel_rfl) Tryd.func4 (by kernel_rfl)
    (of_decide_eq_true (by kernel_rfl)) (by unfold Func.isWrapper; first | (rw [if_pos (by decide +kernel)]; kernel_rfl) | (rw [if_neg (by decide +kernel)]; exact ⟨rfl, rfl⟩))
    (fun os started H enc _ => lifted os started H enc)

end Go.Proofs.YtabbjcngilocnaaDoor.fnExactParseStatement
namespace Go.Proofs.YtabbjcngilocnaaDoor
theorem fnExactParseStatement_holds : Rows.FnExactParseStatementSaid := fnExactParseStatement.over
#print axioms fnExactParseStatement_holds
theorem fnExactParseStatement_card : Rows.FnExactParseStatementCardSaid :=
  Claim7.holds_tied_plain_at .later [] [.data, .data, .data, .data, .sentinel, .sentinel, .sentinel, .pinned] true (true, "379dbaa73d9b5120e7c5f5caf8567970306f4a12954635956a17f7a576874abf") true
    fnExactParseStatement_holds (fun _ h => by cases h) (by kernel_rfl) (fun _ h => by cases h) fnExactParseStatement_row_tie rfl ⟨rfl, rfl⟩ (by kernel_rfl) rfl
    (fun f fn hf hfn => by
      obtain rfl : f = 4 := Option.some.inj ((show Tryd.prog.funcNamed "loop.example/g00338/laws.FnExactParseStatement" = some 4 by kernel_rfl).symm.trans hf) |>.symm
      obtain rfl : fn = Tryd.f4 := (Option.some.inj (Tryd.func4.symm.trans hfn)).symm
      exact ⟨by kernel_rfl, fun j t ht => by
        rw [Tryd.params4] at ht
        have hm : t ∈ [9] := by simpa using Array.mem_of_getElem? ht
        have hall : ([9].all fun u => !Tryd.prog.wantsStandIn u) = true := by kernel_rfl
        exact (show Tryd.prog.wantsStandIn t = false by simpa using List.all_eq_true.1 hall t hm)⟩)
    (by kernel_rfl)
#print axioms fnExactParseStatement_card
end Go.Proofs.YtabbjcngilocnaaDoor
