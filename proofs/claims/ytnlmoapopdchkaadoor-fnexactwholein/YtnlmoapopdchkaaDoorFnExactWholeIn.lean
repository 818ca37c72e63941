/-
  PROVED: for every slice of int64 the law laws.FnExactWholeIn returns true, that is impl.WholeIn answers as spec.WholeIn there (up to 1<<20 words, as the law itself says) and writes nothing into its argument; the argument and the variable errUnreadable read as they did. This is the tied card: the listed variable is as the program's text lays it.
  Conditions: none beside those that the given row and card themselves bear. The frame is the shell written by program, turned for the listed variable; the walk is ours.
-/
import Derived.Test.YtnlmoapopdchkaaDoorRows
import Derived.WalkKit
import Derived.ProofKit
import Derived.LaidMore
import Derived.Stop.Joined
import Derived.SevenTiedAt
import Derived.Test.YtnlmoapopdchkaaDoorTie
import Derived.Test.YtnlmoapopdchkaaDoorCards
import Derived.OpenShut
import Derived.ShutString
import Derived.ChangeOld
import Derived.Below
import Derived.Test.YtnlmoapopdchkaaDoorPg7
import Derived.Test.YtnlmoapopdchkaaDoorEr0
namespace Go.Proofs.YtnlmoapopdchkaaDoor.fnExactWholeIn
open Go.ChangeShapes Go.WideShapes Go.ChangeAt Go.RowKit
open Go.ChangeMaps (open_string shut_string)
set_option linter.unusedVariables false

theorem own : ownKnob Tryd.prog.godebug = none := by kernel_rfl
theorem laidOut : laidOutB Tryd.prog = true := by kernel_rfl

/-- WHAT THE WALK IS TOLD OF A SLICE OF INTEGERS THAT CAME IN: it is nil; or it leads to a row of 'cap' cells, the numbers 'zs' (the first 'len' are its elements, the rest its spare room), each fitting its kind. -/
def IsRow (k : IntKind) (w : World) (a : Option Addr) (len cap : Nat) (zs : List Int) : Prop :=
  (a = none ∧ len = 0 ∧ cap = 0 ∧ zs = []) ∨
  ∃ x, a = some x ∧ len ≤ cap ∧ cap ≤ maxLen ∧ zs.length = cap ∧ (∀ i, i < zs.length → w.cell? (x.add i) = some (.int k (zs.getD i 0))) ∧ ∀ n ∈ zs, (Lit.int k n).wf = true

def SResI (w : World) (b : Nat) (c x : Int) : Prop := w.cell? ⟨b, 0, none⟩ = some (.int .i64 c) ∧ w.cell? ⟨b, 1, none⟩ = some (.int .i64 x)

theorem SResI.below {w w' : World} {b : Nat} {c x : Int} (h : SResI w b c x) (hb : Below w.heap.size w w') : SResI w' b c x := by
  have hl : b < w.heap.size := World.block_lt_of_cell? w ⟨b, 0, none⟩ h.1
  exact ⟨(hb.cell (p := ⟨b, 0, none⟩) hl).trans h.1, (hb.cell (p := ⟨b, 1, none⟩) hl).trans h.2⟩

set_option maxHeartbeats 400000 in
theorem eqWh_c (c v : Int) (w : World) : Calls Tryd.prog 15 #[.agg #[.int .i64 c, .int .i64 v], .agg #[.int .i64 c, .int .i64 v]] w fun e w' => e = .returned (.bool true) ∧ Below w.heap.size w w' := by
  go_enter Tryd.func15, Tryd.ntmps15
  go_wp2
  go_ret
  exact ⟨rfl, by go_grown⟩

theorem rowIn_of {w : World} {a0 : Option Addr} {len cap : Nat} {zs : List Int} (h : IsRow .i64 w a0 len cap zs) : RowIn w a0 len zs := by
  rcases h with ⟨rfl, rfl, rfl, rfl⟩ | ⟨x, rfl, hl, hm, hz, hc, hw⟩
  · exact ⟨Nat.zero_le _, fun k hk => by omega⟩
  · refine ⟨by omega, fun k hk => ?_⟩
    obtain ⟨b, off, rfl, hcc⟩ := ints_at hc (by omega)
    refine ⟨b, off, rfl, ?_⟩
    have := hcc k (by omega)
    simpa using this

theorem len_of {w : World} {a0 : Option Addr} {len cap : Nat} {zs : List Int} (h : IsRow .i64 w a0 len cap zs) : len ≤ maxLen := by
  rcases h with ⟨rfl, rfl, rfl, rfl⟩ | ⟨x, rfl, hl, hm, _⟩
  · exact Nat.zero_le _
  · omega

set_option maxRecDepth 20000 in
set_option maxHeartbeats 2000000 in
theorem inner (a0 : Option Addr) (len cap : Nat) (zs : List Int) (w : World) (hl : len ≤ 1048576) (hr : IntIn w a0 len zs) (hE : ErrAt 0 w) :
    Calls Tryd.prog 4 #[.slice a0 len cap] w fun e w' => e = .returned (.bool true) ∧ Below w.heap.size w w' := by
  have hl' : (len : Int) ≤ 1048576 := by omega
  have HZ : Hid (zs.length = len) := hr.1
  have HR : Hid (IntIn w a0 len zs) := hr
  have HE : Hid (ErrAt 0 w) := hE
  obtain ⟨c, hc⟩ : ∃ c, whC zs = c := ⟨_, rfl⟩
  obtain ⟨x, hx⟩ : ∃ x, whV zs = x := ⟨_, rfl⟩
  have HS : Hid (∀ (g : Nat) (w : World), IntsAt w g zs → Calls Tryd.prog 13 #[.slice (some ⟨g, 0, none⟩) len len] w fun e w' => e = .returned (.agg #[.int .i64 c, .int .i64 x]) ∧ Below w.heap.size w w') := fun g w q => by rw [← hc, ← hx]; exact specWhole_c _ _ _ zs w hl (Nat.le_refl _) (by unfold maxLen; omega) (IntIn.of HZ.out q)
  have HI : Hid (∀ (g : Nat) (w : World), IntsAt w g zs → ErrAt 0 w → Calls Tryd.prog 14 #[.slice (some ⟨g, 0, none⟩) len len] w fun e w' => e = .returned (.agg #[.int .i64 c, .int .i64 x]) ∧ Below w.heap.size w w') := fun g w q r => by rw [← hc, ← hx]; exact implWhole_c _ _ _ zs w hl (IntIn.of HZ.out q) r
  clear hr hE hc hx
  go_enter Tryd.func4, Tryd.ntmps4
  go_wp2_with fail
  refine (toInts_c a0 len cap zs _ hl HR.out).mono ?_
  rintro e w1 ⟨rfl, hat1, hlt1, hb1⟩
  have A1 : Hid (IntsAt w1 w.heap.size zs) := hat1
  clear hat1
  go_wp2_with fail
  refine (HS.out _ _ A1.out).mono ?_
  rintro e w2 ⟨rfl, hb2⟩
  have hb02 : Below w.heap.size w w2 := hb1.trans (hb2.mono hb1.size)
  have A2 : Below w2.heap.size w2 (w2.alloc (.cells #[.int .i64 c, .int .i64 x] 34)) := (Below.refl _ _).alloc (Nat.le_refl _) _
  have B3 : Hid (Below w.heap.size w (w2.alloc (.cells #[.int .i64 c, .int .i64 x] 34))) := hb02.trans (A2.mono hb02.size)
  have S3 : Hid (SResI (w2.alloc (.cells #[.int .i64 c, .int .i64 x] 34)) w2.heap.size c x) := ⟨by simp, by simp⟩
  have R3 : Hid (IntIn (w2.alloc (.cells #[.int .i64 c, .int .i64 x] 34)) a0 len zs) := HR.out.below B3.out
  have E3 : Hid (ErrAt 0 (w2.alloc (.cells #[.int .i64 c, .int .i64 x] 34))) := HE.out.below B3.out
  go_upto_region 4 with fail
  clear A1 hb1 hb2 hb02 A2
  generalize w2.alloc (.cells #[.int .i64 c, .int .i64 x] 34) = w3 at B3 S3 R3 E3 ⊢
  go_wp2_with fail
  refine (toInts_c a0 len cap zs _ hl R3.out).mono ?_
  rintro e w4 ⟨rfl, hat4, hlt4, hb4⟩
  have A4 : Hid (IntsAt w4 w3.heap.size zs) := hat4
  have B4 : Hid (Below w.heap.size w w4) := B3.out.trans (hb4.mono B3.out.size)
  have S4 : Hid (SResI w4 w2.heap.size c x) := S3.out.below hb4
  have R4 : Hid (IntIn w4 a0 len zs) := R3.out.below hb4
  have E4 : Hid (ErrAt 0 w4) := E3.out.below hb4
  clear hat4 hb4 B3 S3 R3 E3
  go_wp2_with fail
  refine (HI.out _ _ A4.out E4.out).mono ?_
  rintro e w5 ⟨rfl, hb5⟩
  have A5 : Below w5.heap.size w5 (w5.alloc (.cells #[.int .i64 c, .int .i64 x] 34)) := (Below.refl _ _).alloc (Nat.le_refl _) _
  have hb56 : Below w4.heap.size w4 (w5.alloc (.cells #[.int .i64 c, .int .i64 x] 34)) := hb5.trans (A5.mono hb5.size)
  have A6 : Hid (IntsAt (w5.alloc (.cells #[.int .i64 c, .int .i64 x] 34)) w3.heap.size zs) := A4.out.below hb56
  have B6 : Hid (Below w.heap.size w (w5.alloc (.cells #[.int .i64 c, .int .i64 x] 34))) := B4.out.trans (hb56.mono B4.out.size)
  have S6 : Hid (SResI (w5.alloc (.cells #[.int .i64 c, .int .i64 x] 34)) w2.heap.size c x) := S4.out.below hb56
  have T6 : Hid (SResI (w5.alloc (.cells #[.int .i64 c, .int .i64 x] 34)) w5.heap.size c x) := ⟨by simp, by simp⟩
  have R6 : Hid (IntIn (w5.alloc (.cells #[.int .i64 c, .int .i64 x] 34)) a0 len zs) := R4.out.below hb56
  go_upto_region 6 with fail
  clear A4 B4 S4 R4 E4 hb5 A5 hb56
  generalize w5.alloc (.cells #[.int .i64 c, .int .i64 x] 34) = w6 at A6 B6 S6 T6 R6 ⊢
  obtain ⟨x0, x1⟩ := S6.out
  obtain ⟨y0, y1⟩ := T6.out
  go_wp2_with fail
  refine (eqWh_c c x _).mono ?_
  rintro e w7 ⟨rfl, hb7⟩
  have A7 : Hid (IntsAt w7 w3.heap.size zs) := A6.out.below hb7
  have B7 : Hid (Below w.heap.size w w7) := B6.out.trans (hb7.mono B6.out.size)
  have R7 : Hid (IntIn w7 a0 len zs) := R6.out.below hb7
  clear hb7 A6 B6 S6 T6 R6 x0 x1 y0 y1
  go_wp2_with fail
  refine (toInts_c a0 len cap zs _ hl R7.out).mono ?_
  rintro e w8 ⟨rfl, hat8, hlt8, hb8⟩
  have A8 : Hid (IntsAt w8 w7.heap.size zs) := hat8
  have A8' : Hid (IntsAt w8 w3.heap.size zs) := A7.out.below hb8
  have B8 : Hid (Below w.heap.size w w8) := B7.out.trans (hb8.mono B7.out.size)
  clear hat8 hb8
  go_wp2_with fail
  refine (eqIntsS_same _ _ len _ _ zs _ hl (IntIn.of HZ.out A8'.out) (IntIn.of HZ.out A8.out)).mono ?_
  rintro e w9 ⟨rfl, hb9⟩
  have B9 : Hid (Below w.heap.size w w9) := B8.out.trans (hb9.mono B8.out.size)
  clear hb9
  go_wp2
  go_ret
  exact ⟨rfl, B9.out⟩

set_option maxRecDepth 20000 in
set_option maxHeartbeats 400000 in
theorem long (a0 : Option Addr) (len cap : Nat) (w : World) (hl : 1048576 < len) (hm : len ≤ maxLen) :
    Calls Tryd.prog 4 #[.slice a0 len cap] w fun e w' => e = .returned (.bool true) ∧ Below w.heap.size w w' := by
  unfold maxLen at hm
  have hl' : (1048576 : Int) < (len : Int) := by omega
  have hm' : (len : Int) ≤ 9223372036854775807 := by omega
  clear hm
  go_enter Tryd.func4, Tryd.ntmps4
  go_wp2
  go_ret
  exact ⟨rfl, Below.refl _ _⟩

/-! The listed variables: the program's own start meets the condition. -/
abbrev doorFuel : Nat := 400
theorem door_met (os : Os) (args : Array Value) : laidMetH Tryd.prog Rows.fnExactWholeInRow.laid ((World.doorLaid Tryd.prog doorFuel os).forCall (fun _ _ => 0) ⟨#[], args, []⟩).memory :=
  laidMetH_of_parts3 (fuel := 8) (laidMet_of_run' 8 (by kernel_rfl) (by kernel_rfl)) (by kernel_rfl) (by kernel_rfl)

/-! The walk: the Go text returns true. -/
theorem walk (a0 : Option Addr) (len0 cap0 : Nat) (z0 : List Int) (w : World) (w0 : IsRow .i64 w a0 len0 cap0 z0) (hE : ErrAt 0 w) :
    Calls Tryd.prog 4 #[.slice a0 len0 cap0] w fun e w' => e = .returned (.bool true) ∧ Below w.heap.size w w' := by
  by_cases hl : len0 ≤ 1048576
  · exact inner a0 len0 cap0 (z0.take len0) w hl (rowIn_of w0).ints hE
  · exact long a0 len0 cap0 w (by omega) (len_of w0)

/-! The row's step. -/
set_option maxRecDepth 100000 in
theorem lifted (os : Os) (started : os.Started) (H : Type) (enc : TypeId × Value → H) :
    ReturnsInHanded {} Tryd.checked os 4 .any (fun w args => (Rows.fnExactWholeInSpec.pre enc Tryd.prog Tryd.f4 [] false w args ∧ laidMetH Tryd.prog Rows.fnExactWholeInRow.laid w) ∧ sizedMet enc Tryd.prog Tryd.f4 (OpenSpec.ofChange Rows.fnExactWholeInSpec) false w args) (Rows.fnExactWholeInSpec.post enc Tryd.prog Tryd.f4 false true false false) := by
  refine returnsInHanded_of_change_and (C := Tryd.checked) (X := fun w _ => laidMetH Tryd.prog Rows.fnExactWholeInRow.laid w) (fun _ _ _ hh h => h.of_heap hh) own started (by kernel_rfl) Tryd.func4
    (ChangeSpec.witness_shaped (enc := enc) (C := Tryd.checked) (os := os) (X := fun w _ => laidMetH Tryd.prog Rows.fnExactWholeInRow.laid w) false (World.doorLaid Tryd.prog doorFuel os) #[.slice none 0 0] 8 rfl (World.shaped_of_RefB (by kernel_rfl) (by kernel_rfl)) (by kernel_rfl) (by kernel_rfl) (by kernel_rfl) (door_met os _)) ?_
  intro W base args ds gs before hval0 hW _ _ hL _
  have hval : ∀ (j : Nat) t v, Tryd.f4.params[j]? = some t → args[j]? = some v → Value.okWide Tryd.prog W .any base t v := hval0
  have hW' := hW
  obtain ⟨p, q, hA0, hV, rfl, hfz, hnd⟩ := hW
  have hA : DataW.TrodAll enc Tryd.prog W 0 (fun _ => true) true Tryd.f4.params.toList args.toList ds p := hA0
  rw [Tryd.params4] at hA hval
  obtain ⟨v0, vs0, d0, ds0, p0, q0, hargs, rfl, rfl, h0, r0⟩ := trodAll_cons hA
  obtain ⟨rfl, rfl, rfl⟩ := trodAll_nil r0
  obtain rfl : args = #[v0] := by cases args; simp_all
  have hV2 := hV
  obtain ⟨y0, rfl⟩ := vars_one hV
  obtain ⟨a0, len0, cap0, rfl⟩ := okWide_slice Tryd.underlying22 (hval 0 22 v0 rfl rfl)
  have k0 := h0
  have lt0 : ∀ x ∈ p0, x.block < W.heap.size := by obtain ⟨m, hm⟩ := k0; exact DataW.trod_lt m _ _ _ hm
  obtain ⟨z0, w0⟩ : ∃ zs, IsRow .i64 W a0 len0 cap0 zs := by
    obtain ⟨fuel, hf⟩ := h0
    rcases open_ints Tryd.underlying22 Tryd.underlying2 (by kernel_rfl) hf with ⟨hcs, _⟩ | ⟨x, l, c, zs, hcs, _, hl, hm, hz, _, hcell, hwz⟩
    · simp [Value.cells] at hcs
      obtain ⟨rfl, rfl, rfl⟩ := hcs
      exact ⟨[], .inl ⟨rfl, rfl, rfl, rfl⟩⟩
    · simp [Value.cells] at hcs
      obtain ⟨rfl, rfl, rfl⟩ := hcs
      exact ⟨zs, .inr ⟨_, rfl, hl, hm, by simpa using hz, hcell, hwz⟩⟩
  clear hA0 hval0
  refine (walk a0 len0 cap0 z0 W w0 (errU_of hL)).mono fun e W' ⟨he, bel⟩ => ?_
  subst he
  exact ⟨_, rfl, _, _, _, [], _, _, hW', trodAll_mk1 (shut_bool Tryd.underlying4 _), (trodAll_cons_mk (Below.trod laidOut (by kernel_rfl) (of_decide_eq_true (by kernel_rfl)) k0 bel lt0) trodAll_mk0), Below.trodVars laidOut bel (by kernel_rfl) hV2, bel.frame _, fun h => by cases h⟩

theorem over : Rows.fnExactWholeInRow.holds Tryd.pinned (OpenSpec.ofChange Rows.fnExactWholeInSpec) :=
  OpenClaim.holds_of_wide 4 Tryd.f4 rfl rfl rfl rfl rfl rfl rfl ⟨rfl, rfl, rfl, rfl, rfl⟩ rfl rfl rfl rfl rfl (by kernel_rfl) Tryd.func4 (by kernel_rfl)
    (of_decide_eq_true (by kernel_rfl)) (by unfold Func.isWrapper; first | (rw [if_pos (by decide +kernel)]; kernel_rfl) | (rw [if_neg (by decide +kernel)]; exact ⟨rfl, rfl⟩))
    (fun os started H enc _ => lifted os started H enc)

end Go.Proofs.YtnlmoapopdchkaaDoor.fnExactWholeIn
namespace Go.Proofs.YtnlmoapopdchkaaDoor
theorem fnExactWholeIn_holds : Rows.FnExactWholeInSaid := fnExactWholeIn.over
#print axioms fnExactWholeIn_holds
theorem fnExactWholeIn_card : Rows.FnExactWholeInCardSaid :=
  Claim7.holds_tied_plain_at .later [] [.sentinel] true (true, "1952477becfe22b0e3bca6d4d36824524c293950fb67f4fae1f4c9a33aff13b6") false
    fnExactWholeIn_holds (fun _ h => by cases h) (by kernel_rfl) (fun _ h => by cases h) fnExactWholeIn_row_tie rfl ⟨rfl, rfl⟩ (by kernel_rfl) rfl
    (fun f fn hf hfn => by
      obtain rfl : f = 4 := Option.some.inj ((show Tryd.prog.funcNamed "loop.example/g00338/laws.FnExactWholeIn" = some 4 by kernel_rfl).symm.trans hf) |>.symm
      obtain rfl : fn = Tryd.f4 := (Option.some.inj (Tryd.func4.symm.trans hfn)).symm
      exact ⟨by kernel_rfl, fun j t ht => by
        rw [Tryd.params4] at ht
        have hm : t ∈ [22] := by simpa using Array.mem_of_getElem? ht
        have hall : ([22].all fun u => !Tryd.prog.wantsStandIn u) = true := by kernel_rfl
        exact (show Tryd.prog.wantsStandIn t = false by simpa using List.all_eq_true.1 hall t hm)⟩)
    (by kernel_rfl)
#print axioms fnExactWholeIn_card
end Go.Proofs.YtnlmoapopdchkaaDoor
