/-
  PROVED: for every slice of int64 and every two Statements the law laws.FnExactClashStatements returns true, that is impl.ClashStatements answers as spec.ClashStatements there (up to 1<<20 classes, as the law itself says) and writes nothing into its arguments; the arguments read as they did.
  Conditions: none beside those that the given row itself bears. The frame is the shell written by program, turned for structs; the walk is ours.
-/
import Derived.Test.YtpeddanicenohaaRows
import Derived.WalkKit
import Derived.ProofKit
import Derived.OpenShut
import Derived.ShutString
import Derived.ChangeOld
import Derived.Below
import Derived.Test.YtpeddanicenohaaSt6
import Derived.Test.YtpeddanicenohaaStA
namespace Go.Proofs.Ytpeddanicenohaa.fnExactClashStatements
open Go.ChangeShapes Go.WideShapes Go.ChangeAt Go.RowKit
open Go.ChangeMaps (open_string shut_string)
set_option linter.unusedVariables false

theorem own : ownKnob Try.prog.godebug = none := by kernel_rfl
theorem laidOut : laidOutB Try.prog = true := by kernel_rfl

/-- WHAT THE WALK IS TOLD OF A SLICE OF INTEGERS THAT CAME IN: it is nil; or it leads to a row of 'cap' cells, the numbers 'zs' (the first 'len' are its elements, the rest its spare room), each fitting its kind. -/
def IsRow (k : IntKind) (w : World) (a : Option Addr) (len cap : Nat) (zs : List Int) : Prop :=
  (a = none ∧ len = 0 ∧ cap = 0 ∧ zs = []) ∨
  ∃ x, a = some x ∧ len ≤ cap ∧ cap ≤ maxLen ∧ zs.length = cap ∧ (∀ i, i < zs.length → w.cell? (x.add i) = some (.int k (zs.getD i 0))) ∧ ∀ n ∈ zs, (Lit.int k n).wf = true

set_option linter.unusedSimpArgs false

theorem rowIn_of {w : World} {a0 : Option Addr} {len cap : Nat} {zs : List Int} (h : IsRow .i64 w a0 len cap zs) : RowIn w a0 len zs := by
  rcases h with ⟨rfl, rfl, rfl, rfl⟩ | ⟨x, rfl, hl, hm, hz, hc, hw⟩
  · exact ⟨Nat.zero_le _, fun k hk => by omega⟩
  · refine ⟨by omega, fun k hk => ?_⟩
    obtain ⟨b, off, rfl, hcc⟩ := ints_at hc (by omega)
    refine ⟨b, off, rfl, ?_⟩
    have := hcc k (by omega)
    simpa using this

theorem len_of {w : World} {a0 : Option Addr} {len cap : Nat} {zs : List Int} (h : IsRow .i64 w a0 len cap zs) : len ≤ maxLen := by
  rcases h with ⟨rfl, rfl, rfl, rfl⟩ | ⟨x, rfl, hl, hm, _⟩
  · exact Nat.zero_le _
  · omega

set_option maxRecDepth 20000 in
set_option maxHeartbeats 2000000 in
theorem inner (a0 : Option Addr) (len cap : Nat) (zs : List Int) (x y : StI) (w : World) (hl : len ≤ 1048576) (hr : IntIn w a0 len zs) :
    Calls Try.prog 5 #[.slice a0 len cap, .agg #[.int .i64 x.k, .int .i64 x.e, .int .i64 x.f, .int .i64 x.s, .int .i64 x.n], .agg #[.int .i64 y.k, .int .i64 y.e, .int .i64 y.f, .int .i64 y.s, .int .i64 y.n]] w fun e w' => e = .returned (.bool true) ∧ Below w.heap.size w w' := by
  have hl' : (len : Int) ≤ 1048576 := by omega
  have HZ : Hid (zs.length = len) := hr.1
  obtain ⟨W, hW⟩ : ∃ W, W = ((w.alloc (.cells #[.int .i64 x.k, .int .i64 x.e, .int .i64 x.f, .int .i64 x.s, .int .i64 x.n] 23)).alloc (.cells #[.int .i64 y.k, .int .i64 y.e, .int .i64 y.f, .int .i64 y.s, .int .i64 y.n] 23)) := ⟨_, rfl⟩
  have HW : Hid (W = ((w.alloc (.cells #[.int .i64 x.k, .int .i64 x.e, .int .i64 x.f, .int .i64 x.s, .int .i64 x.n] 23)).alloc (.cells #[.int .i64 y.k, .int .i64 y.e, .int .i64 y.f, .int .i64 y.s, .int .i64 y.n] 23))) := hW
  have T0 : Hid (TwoS w W x y) := by rw [hW]; exact TwoS.new w x y _
  have R0 : Hid (IntIn W a0 len zs) := hr.below T0.out.bel
  obtain ⟨c, hc⟩ : ∃ c, csV zs x y = c := ⟨_, rfl⟩
  have HS : Hid (∀ (g : Nat) (w : World), IntsAt w g zs → GivesC 14 (some ⟨g, 0, none⟩) len len x y c w) := fun g w q => by rw [← hc]; exact specClashS_c _ _ _ zs x y w (IntIn.of HZ.out q)
  have HI : Hid (∀ (g : Nat) (w : World), IntsAt w g zs → GivesC 16 (some ⟨g, 0, none⟩) len len x y c w) := fun g w q => by rw [← hc]; exact implClashS_c _ _ _ zs x y w (IntIn.of HZ.out q)
  clear hr hW hc
  go_enter Try.func5, Try.ntmps5
  go_wp2_with fail
  rw [← HW.out]
  refine wp_region_held_drew (S := fun w' => w'.cell? ⟨w.heap.size, 0, none⟩ = some (.int .i64 x.k) ∧ w'.cell? ⟨w.heap.size, 1, none⟩ = some (.int .i64 x.e) ∧ w'.cell? ⟨w.heap.size, 2, none⟩ = some (.int .i64 x.f) ∧ w'.cell? ⟨w.heap.size, 3, none⟩ = some (.int .i64 x.s) ∧ w'.cell? ⟨w.heap.size, 4, none⟩ = some (.int .i64 x.n) ∧ w'.cell? ⟨w.heap.size + 1, 0, none⟩ = some (.int .i64 y.k) ∧ w'.cell? ⟨w.heap.size + 1, 1, none⟩ = some (.int .i64 y.e) ∧ w'.cell? ⟨w.heap.size + 1, 2, none⟩ = some (.int .i64 y.f) ∧ w'.cell? ⟨w.heap.size + 1, 3, none⟩ = some (.int .i64 y.s) ∧ w'.cell? ⟨w.heap.size + 1, 4, none⟩ = some (.int .i64 y.n)) (by kernel_rfl) (by obtain ⟨⟨x0, x1, x2, x3, x4⟩, y0, y1, y2, y3, y4⟩ := And.intro T0.out.pa T0.out.pb; simp only [Nat.zero_add] at x0 x1 x2 x3 x4 y0 y1 y2 y3 y4; exact ⟨x0, x1, x2, x3, x4, y0, y1, y2, y3, y4⟩) (fun hHeld => ?_)
  refine wpAnyH_take (i := 0) (v := ?_) rfl (by kernel_rfl) (by kernel_rfl) (by kernel_rfl) (fun _ _ _ h => h) (Or.inl ⟨by kernel_rfl, ?_⟩) (by assumption) ?_
  rotate_left 1
  · intro w hSw; (try dsimp only at hSw); go_simp; try (with_reducible rfl)
  try simp only [Act.put, List.getElem_toArray, List.getElem_cons_succ, List.getElem_cons_zero, List.setIfInBounds_toArray, List.set_cons_zero, List.set_cons_succ]
  refine wpAnyH_take (i := 2) (v := ?_) rfl (by kernel_rfl) (by kernel_rfl) (by kernel_rfl) (fun _ _ _ h => h) (Or.inl ⟨by kernel_rfl, ?_⟩) (by assumption) ?_
  rotate_left 1
  · intro w hSw; (try dsimp only at hSw); go_simp; try (with_reducible rfl)
  try simp only [Act.put, List.getElem_toArray, List.getElem_cons_succ, List.getElem_cons_zero, List.setIfInBounds_toArray, List.set_cons_zero, List.set_cons_succ]
  refine wpAnyH_take (i := 4) (v := ?_) rfl (by kernel_rfl) (by kernel_rfl) (by kernel_rfl) (fun _ _ _ h => h) (Or.inl ⟨by kernel_rfl, ?_⟩) (by assumption) ?_
  rotate_left 1
  · intro w hSw; (try dsimp only at hSw); go_simp; try (with_reducible rfl)
  try simp only [Act.put, List.getElem_toArray, List.getElem_cons_succ, List.getElem_cons_zero, List.setIfInBounds_toArray, List.set_cons_zero, List.set_cons_succ]
  refine wpAnyH_ready (rs := [1]) (by kernel_rfl) (by simp) ?_
  refine AllReadyH.cons rfl (fun K hK => ?_) AllReadyH.nil
  go_simp
  refine (toInts_c a0 len cap zs _ hl (R0.out.below ((Below.refl _ _).drew))).mono ?_
  rintro e w1 ⟨rfl, hat1, hlt1, hb1'⟩
  have hb1 : Below W.heap.size W w1 := ((Below.refl _ _).drew).trans hb1'
  have A1 : Hid (IntsAt w1 W.heap.size zs) := hat1
  clear hat1 hb1'
  have T1 : Hid (TwoS w w1 x y) := T0.out.below hb1
  have R1 : Hid (IntIn w1 a0 len zs) := R0.out.below hb1
  clear hb1
  have hS : (fun w' => w'.cell? ⟨w.heap.size, 0, none⟩ = some (.int .i64 x.k) ∧ w'.cell? ⟨w.heap.size, 1, none⟩ = some (.int .i64 x.e) ∧ w'.cell? ⟨w.heap.size, 2, none⟩ = some (.int .i64 x.f) ∧ w'.cell? ⟨w.heap.size, 3, none⟩ = some (.int .i64 x.s) ∧ w'.cell? ⟨w.heap.size, 4, none⟩ = some (.int .i64 x.n) ∧ w'.cell? ⟨w.heap.size + 1, 0, none⟩ = some (.int .i64 y.k) ∧ w'.cell? ⟨w.heap.size + 1, 1, none⟩ = some (.int .i64 y.e) ∧ w'.cell? ⟨w.heap.size + 1, 2, none⟩ = some (.int .i64 y.f) ∧ w'.cell? ⟨w.heap.size + 1, 3, none⟩ = some (.int .i64 y.s) ∧ w'.cell? ⟨w.heap.size + 1, 4, none⟩ = some (.int .i64 y.n)) w1 := by obtain ⟨⟨x0, x1, x2, x3, x4⟩, y0, y1, y2, y3, y4⟩ := And.intro T1.out.pa T1.out.pb; simp only [Nat.zero_add] at x0 x1 x2 x3 x4 y0 y1 y2 y3 y4; exact ⟨x0, x1, x2, x3, x4, y0, y1, y2, y3, y4⟩
  refine hK.out _ _ hS (fun hHeld => ?_)
  clear hK K
  try simp only [Act.put, List.getElem_toArray, List.getElem_cons_succ, List.getElem_cons_zero, List.setIfInBounds_toArray, List.set_cons_zero, List.set_cons_succ]
  refine wpAnyH_ready (rs := [3]) (by kernel_rfl) (by simp) ?_
  refine AllReadyH.cons rfl (fun K hK => ?_) AllReadyH.nil
  go_simp
  refine (toStatement_c x _).mono ?_
  rintro e w2 ⟨rfl, hb2⟩
  have A2 : Hid (IntsAt w2 W.heap.size zs) := A1.out.below hb2
  have T2 : Hid (TwoS w w2 x y) := T1.out.below hb2
  have R2 : Hid (IntIn w2 a0 len zs) := R1.out.below hb2
  clear hb2
  have hS : (fun w' => w'.cell? ⟨w.heap.size, 0, none⟩ = some (.int .i64 x.k) ∧ w'.cell? ⟨w.heap.size, 1, none⟩ = some (.int .i64 x.e) ∧ w'.cell? ⟨w.heap.size, 2, none⟩ = some (.int .i64 x.f) ∧ w'.cell? ⟨w.heap.size, 3, none⟩ = some (.int .i64 x.s) ∧ w'.cell? ⟨w.heap.size, 4, none⟩ = some (.int .i64 x.n) ∧ w'.cell? ⟨w.heap.size + 1, 0, none⟩ = some (.int .i64 y.k) ∧ w'.cell? ⟨w.heap.size + 1, 1, none⟩ = some (.int .i64 y.e) ∧ w'.cell? ⟨w.heap.size + 1, 2, none⟩ = some (.int .i64 y.f) ∧ w'.cell? ⟨w.heap.size + 1, 3, none⟩ = some (.int .i64 y.s) ∧ w'.cell? ⟨w.heap.size + 1, 4, none⟩ = some (.int .i64 y.n)) w2 := by obtain ⟨⟨x0, x1, x2, x3, x4⟩, y0, y1, y2, y3, y4⟩ := And.intro T2.out.pa T2.out.pb; simp only [Nat.zero_add] at x0 x1 x2 x3 x4 y0 y1 y2 y3 y4; exact ⟨x0, x1, x2, x3, x4, y0, y1, y2, y3, y4⟩
  refine hK.out _ _ hS (fun hHeld => ?_)
  clear hK K
  try simp only [Act.put, List.getElem_toArray, List.getElem_cons_succ, List.getElem_cons_zero, List.setIfInBounds_toArray, List.set_cons_zero, List.set_cons_succ]
  refine wpAnyH_ready (rs := [5]) (by kernel_rfl) (by simp) ?_
  refine AllReadyH.cons rfl (fun K hK => ?_) AllReadyH.nil
  go_simp
  refine (toStatement_c y _).mono ?_
  rintro e w3 ⟨rfl, hb3⟩
  have A3 : Hid (IntsAt w3 W.heap.size zs) := A2.out.below hb3
  have T3 : Hid (TwoS w w3 x y) := T2.out.below hb3
  have R3 : Hid (IntIn w3 a0 len zs) := R2.out.below hb3
  clear hb3
  have hS : (fun w' => w'.cell? ⟨w.heap.size, 0, none⟩ = some (.int .i64 x.k) ∧ w'.cell? ⟨w.heap.size, 1, none⟩ = some (.int .i64 x.e) ∧ w'.cell? ⟨w.heap.size, 2, none⟩ = some (.int .i64 x.f) ∧ w'.cell? ⟨w.heap.size, 3, none⟩ = some (.int .i64 x.s) ∧ w'.cell? ⟨w.heap.size, 4, none⟩ = some (.int .i64 x.n) ∧ w'.cell? ⟨w.heap.size + 1, 0, none⟩ = some (.int .i64 y.k) ∧ w'.cell? ⟨w.heap.size + 1, 1, none⟩ = some (.int .i64 y.e) ∧ w'.cell? ⟨w.heap.size + 1, 2, none⟩ = some (.int .i64 y.f) ∧ w'.cell? ⟨w.heap.size + 1, 3, none⟩ = some (.int .i64 y.s) ∧ w'.cell? ⟨w.heap.size + 1, 4, none⟩ = some (.int .i64 y.n)) w3 := by obtain ⟨⟨x0, x1, x2, x3, x4⟩, y0, y1, y2, y3, y4⟩ := And.intro T3.out.pa T3.out.pb; simp only [Nat.zero_add] at x0 x1 x2 x3 x4 y0 y1 y2 y3 y4; exact ⟨x0, x1, x2, x3, x4, y0, y1, y2, y3, y4⟩
  refine hK.out _ _ hS (fun hHeld => ?_)
  clear hK K
  try simp only [Act.put, List.getElem_toArray, List.getElem_cons_succ, List.getElem_cons_zero, List.setIfInBounds_toArray, List.set_cons_zero, List.set_cons_succ]
  refine wpAnyH_ready (rs := [6]) (by kernel_rfl) (by simp) ?_
  refine AllReadyH.cons rfl (fun K hK => ?_) AllReadyH.nil
  go_simp
  refine (HS.out _ _ A3.out).mono ?_
  rintro e w4 ⟨rfl, hb4⟩
  have T4 : Hid (TwoS w w4 x y) := T3.out.below hb4
  have R4 : Hid (IntIn w4 a0 len zs) := R3.out.below hb4
  clear hb4
  have hS : (fun w' => w'.cell? ⟨w.heap.size, 0, none⟩ = some (.int .i64 x.k) ∧ w'.cell? ⟨w.heap.size, 1, none⟩ = some (.int .i64 x.e) ∧ w'.cell? ⟨w.heap.size, 2, none⟩ = some (.int .i64 x.f) ∧ w'.cell? ⟨w.heap.size, 3, none⟩ = some (.int .i64 x.s) ∧ w'.cell? ⟨w.heap.size, 4, none⟩ = some (.int .i64 x.n) ∧ w'.cell? ⟨w.heap.size + 1, 0, none⟩ = some (.int .i64 y.k) ∧ w'.cell? ⟨w.heap.size + 1, 1, none⟩ = some (.int .i64 y.e) ∧ w'.cell? ⟨w.heap.size + 1, 2, none⟩ = some (.int .i64 y.f) ∧ w'.cell? ⟨w.heap.size + 1, 3, none⟩ = some (.int .i64 y.s) ∧ w'.cell? ⟨w.heap.size + 1, 4, none⟩ = some (.int .i64 y.n)) w4 := by obtain ⟨⟨x0, x1, x2, x3, x4⟩, y0, y1, y2, y3, y4⟩ := And.intro T4.out.pa T4.out.pb; simp only [Nat.zero_add] at x0 x1 x2 x3 x4 y0 y1 y2 y3 y4; exact ⟨x0, x1, x2, x3, x4, y0, y1, y2, y3, y4⟩
  refine hK.out _ _ hS (fun hHeld => ?_)
  clear hK K
  try simp only [Act.put, List.getElem_toArray, List.getElem_cons_succ, List.getElem_cons_zero, List.setIfInBounds_toArray, List.set_cons_zero, List.set_cons_succ]
  refine wpAnyH_ready (rs := [7]) (by kernel_rfl) (by simp) ?_
  refine AllReadyH.cons rfl (fun K hK => ?_) AllReadyH.nil
  go_simp
  refine hK.out _ _ (by assumption) (fun hHeld => ?_)
  clear hK K
  try simp only [Act.put, List.getElem_toArray, List.getElem_cons_succ, List.getElem_cons_zero, List.setIfInBounds_toArray, List.set_cons_zero, List.set_cons_succ]
  refine wpAnyH_done (by kernel_rfl) ?_ _
  go_wp2_with fail
  refine (toInts_c a0 len cap zs _ hl R4.out).mono ?_
  rintro e w5 ⟨rfl, hat5, hlt5, hb5⟩
  have A5 : Hid (IntsAt w5 w4.heap.size zs) := hat5
  have T5 : Hid (TwoS w w5 x y) := T4.out.below hb5
  have R5 : Hid (IntIn w5 a0 len zs) := R4.out.below hb5
  clear hat5 hb5
  go_wp2_with fail
  refine wp_region_held_drew (S := fun w' => w'.cell? ⟨w.heap.size, 0, none⟩ = some (.int .i64 x.k) ∧ w'.cell? ⟨w.heap.size, 1, none⟩ = some (.int .i64 x.e) ∧ w'.cell? ⟨w.heap.size, 2, none⟩ = some (.int .i64 x.f) ∧ w'.cell? ⟨w.heap.size, 3, none⟩ = some (.int .i64 x.s) ∧ w'.cell? ⟨w.heap.size, 4, none⟩ = some (.int .i64 x.n) ∧ w'.cell? ⟨w.heap.size + 1, 0, none⟩ = some (.int .i64 y.k) ∧ w'.cell? ⟨w.heap.size + 1, 1, none⟩ = some (.int .i64 y.e) ∧ w'.cell? ⟨w.heap.size + 1, 2, none⟩ = some (.int .i64 y.f) ∧ w'.cell? ⟨w.heap.size + 1, 3, none⟩ = some (.int .i64 y.s) ∧ w'.cell? ⟨w.heap.size + 1, 4, none⟩ = some (.int .i64 y.n)) (by kernel_rfl) (by obtain ⟨⟨x0, x1, x2, x3, x4⟩, y0, y1, y2, y3, y4⟩ := And.intro T5.out.pa T5.out.pb; simp only [Nat.zero_add] at x0 x1 x2 x3 x4 y0 y1 y2 y3 y4; exact ⟨x0, x1, x2, x3, x4, y0, y1, y2, y3, y4⟩) (fun hHeld => ?_)
  refine wpAnyH_take (i := 0) (v := ?_) rfl (by kernel_rfl) (by kernel_rfl) (by kernel_rfl) (fun _ _ _ h => h) (Or.inl ⟨by kernel_rfl, ?_⟩) (by assumption) ?_
  rotate_left 1
  · intro w hSw; (try dsimp only at hSw); go_simp; try (with_reducible rfl)
  try simp only [Act.put, List.getElem_toArray, List.getElem_cons_succ, List.getElem_cons_zero, List.setIfInBounds_toArray, List.set_cons_zero, List.set_cons_succ]
  refine wpAnyH_take (i := 1) (v := ?_) rfl (by kernel_rfl) (by kernel_rfl) (by kernel_rfl) (fun _ _ _ h => h) (Or.inl ⟨by kernel_rfl, ?_⟩) (by assumption) ?_
  rotate_left 1
  · intro w hSw; (try dsimp only at hSw); go_simp; try (with_reducible rfl)
  try simp only [Act.put, List.getElem_toArray, List.getElem_cons_succ, List.getElem_cons_zero, List.setIfInBounds_toArray, List.set_cons_zero, List.set_cons_succ]
  refine wpAnyH_take (i := 3) (v := ?_) rfl (by kernel_rfl) (by kernel_rfl) (by kernel_rfl) (fun _ _ _ h => h) (Or.inl ⟨by kernel_rfl, ?_⟩) (by assumption) ?_
  rotate_left 1
  · intro w hSw; (try dsimp only at hSw); go_simp; try (with_reducible rfl)
  try simp only [Act.put, List.getElem_toArray, List.getElem_cons_succ, List.getElem_cons_zero, List.setIfInBounds_toArray, List.set_cons_zero, List.set_cons_succ]
  refine wpAnyH_ready (rs := [2]) (by kernel_rfl) (by simp) ?_
  refine AllReadyH.cons rfl (fun K hK => ?_) AllReadyH.nil
  go_simp
  refine (toStatement_c x _).mono ?_
  rintro e w6 ⟨rfl, hb6'⟩
  have hb6 : Below w5.heap.size w5 w6 := ((Below.refl _ _).drew).trans hb6'
  clear hb6'
  have A6 : Hid (IntsAt w6 w4.heap.size zs) := A5.out.below hb6
  have T6 : Hid (TwoS w w6 x y) := T5.out.below hb6
  have R6 : Hid (IntIn w6 a0 len zs) := R5.out.below hb6
  clear hb6
  have hS : (fun w' => w'.cell? ⟨w.heap.size, 0, none⟩ = some (.int .i64 x.k) ∧ w'.cell? ⟨w.heap.size, 1, none⟩ = some (.int .i64 x.e) ∧ w'.cell? ⟨w.heap.size, 2, none⟩ = some (.int .i64 x.f) ∧ w'.cell? ⟨w.heap.size, 3, none⟩ = some (.int .i64 x.s) ∧ w'.cell? ⟨w.heap.size, 4, none⟩ = some (.int .i64 x.n) ∧ w'.cell? ⟨w.heap.size + 1, 0, none⟩ = some (.int .i64 y.k) ∧ w'.cell? ⟨w.heap.size + 1, 1, none⟩ = some (.int .i64 y.e) ∧ w'.cell? ⟨w.heap.size + 1, 2, none⟩ = some (.int .i64 y.f) ∧ w'.cell? ⟨w.heap.size + 1, 3, none⟩ = some (.int .i64 y.s) ∧ w'.cell? ⟨w.heap.size + 1, 4, none⟩ = some (.int .i64 y.n)) w6 := by obtain ⟨⟨x0, x1, x2, x3, x4⟩, y0, y1, y2, y3, y4⟩ := And.intro T6.out.pa T6.out.pb; simp only [Nat.zero_add] at x0 x1 x2 x3 x4 y0 y1 y2 y3 y4; exact ⟨x0, x1, x2, x3, x4, y0, y1, y2, y3, y4⟩
  refine hK.out _ _ hS (fun hHeld => ?_)
  clear hK K
  try simp only [Act.put, List.getElem_toArray, List.getElem_cons_succ, List.getElem_cons_zero, List.setIfInBounds_toArray, List.set_cons_zero, List.set_cons_succ]
  refine wpAnyH_ready (rs := [4]) (by kernel_rfl) (by simp) ?_
  refine AllReadyH.cons rfl (fun K hK => ?_) AllReadyH.nil
  go_simp
  refine (toStatement_c y _).mono ?_
  rintro e w7 ⟨rfl, hb7⟩
  have A7 : Hid (IntsAt w7 w4.heap.size zs) := A6.out.below hb7
  have T7 : Hid (TwoS w w7 x y) := T6.out.below hb7
  have R7 : Hid (IntIn w7 a0 len zs) := R6.out.below hb7
  clear hb7
  have hS : (fun w' => w'.cell? ⟨w.heap.size, 0, none⟩ = some (.int .i64 x.k) ∧ w'.cell? ⟨w.heap.size, 1, none⟩ = some (.int .i64 x.e) ∧ w'.cell? ⟨w.heap.size, 2, none⟩ = some (.int .i64 x.f) ∧ w'.cell? ⟨w.heap.size, 3, none⟩ = some (.int .i64 x.s) ∧ w'.cell? ⟨w.heap.size, 4, none⟩ = some (.int .i64 x.n) ∧ w'.cell? ⟨w.heap.size + 1, 0, none⟩ = some (.int .i64 y.k) ∧ w'.cell? ⟨w.heap.size + 1, 1, none⟩ = some (.int .i64 y.e) ∧ w'.cell? ⟨w.heap.size + 1, 2, none⟩ = some (.int .i64 y.f) ∧ w'.cell? ⟨w.heap.size + 1, 3, none⟩ = some (.int .i64 y.s) ∧ w'.cell? ⟨w.heap.size + 1, 4, none⟩ = some (.int .i64 y.n)) w7 := by obtain ⟨⟨x0, x1, x2, x3, x4⟩, y0, y1, y2, y3, y4⟩ := And.intro T7.out.pa T7.out.pb; simp only [Nat.zero_add] at x0 x1 x2 x3 x4 y0 y1 y2 y3 y4; exact ⟨x0, x1, x2, x3, x4, y0, y1, y2, y3, y4⟩
  refine hK.out _ _ hS (fun hHeld => ?_)
  clear hK K
  try simp only [Act.put, List.getElem_toArray, List.getElem_cons_succ, List.getElem_cons_zero, List.setIfInBounds_toArray, List.set_cons_zero, List.set_cons_succ]
  refine wpAnyH_ready (rs := [5]) (by kernel_rfl) (by simp) ?_
  refine AllReadyH.cons rfl (fun K hK => ?_) AllReadyH.nil
  go_simp
  refine (HI.out _ _ A7.out).mono ?_
  rintro e w8 ⟨rfl, hb8⟩
  have A8 : Hid (IntsAt w8 w4.heap.size zs) := A7.out.below hb8
  have T8 : Hid (TwoS w w8 x y) := T7.out.below hb8
  have R8 : Hid (IntIn w8 a0 len zs) := R7.out.below hb8
  clear hb8
  have hS : (fun w' => w'.cell? ⟨w.heap.size, 0, none⟩ = some (.int .i64 x.k) ∧ w'.cell? ⟨w.heap.size, 1, none⟩ = some (.int .i64 x.e) ∧ w'.cell? ⟨w.heap.size, 2, none⟩ = some (.int .i64 x.f) ∧ w'.cell? ⟨w.heap.size, 3, none⟩ = some (.int .i64 x.s) ∧ w'.cell? ⟨w.heap.size, 4, none⟩ = some (.int .i64 x.n) ∧ w'.cell? ⟨w.heap.size + 1, 0, none⟩ = some (.int .i64 y.k) ∧ w'.cell? ⟨w.heap.size + 1, 1, none⟩ = some (.int .i64 y.e) ∧ w'.cell? ⟨w.heap.size + 1, 2, none⟩ = some (.int .i64 y.f) ∧ w'.cell? ⟨w.heap.size + 1, 3, none⟩ = some (.int .i64 y.s) ∧ w'.cell? ⟨w.heap.size + 1, 4, none⟩ = some (.int .i64 y.n)) w8 := by obtain ⟨⟨x0, x1, x2, x3, x4⟩, y0, y1, y2, y3, y4⟩ := And.intro T8.out.pa T8.out.pb; simp only [Nat.zero_add] at x0 x1 x2 x3 x4 y0 y1 y2 y3 y4; exact ⟨x0, x1, x2, x3, x4, y0, y1, y2, y3, y4⟩
  refine hK.out _ _ hS (fun hHeld => ?_)
  clear hK K
  try simp only [Act.put, List.getElem_toArray, List.getElem_cons_succ, List.getElem_cons_zero, List.setIfInBounds_toArray, List.set_cons_zero, List.set_cons_succ]
  refine wpAnyH_ready (rs := [6]) (by kernel_rfl) (by simp) ?_
  refine AllReadyH.cons rfl (fun K hK => ?_) AllReadyH.nil
  go_simp
  refine hK.out _ _ (by assumption) (fun hHeld => ?_)
  clear hK K
  try simp only [Act.put, List.getElem_toArray, List.getElem_cons_succ, List.getElem_cons_zero, List.setIfInBounds_toArray, List.set_cons_zero, List.set_cons_succ]
  refine wpAnyH_done (by kernel_rfl) ?_ _
  go_wp2_with fail
  refine (toInts_c a0 len cap zs _ hl R8.out).mono ?_
  rintro e w9 ⟨rfl, hat9, hlt9, hb9⟩
  have A9 : Hid (IntsAt w9 w8.heap.size zs) := hat9
  have A9' : Hid (IntsAt w9 w4.heap.size zs) := A8.out.below hb9
  have T9 : Hid (TwoS w w9 x y) := T8.out.below hb9
  clear hat9 hb9
  go_wp2_with fail
  refine (eqIntsS_same _ _ len _ _ zs _ hl (IntIn.of HZ.out A9'.out) (IntIn.of HZ.out A9.out)).mono ?_
  rintro e w10 ⟨rfl, hb10⟩
  have T10 : Hid (TwoS w w10 x y) := T9.out.below hb10
  clear hb10
  go_wp2
  go_ret
  exact ⟨rfl, T10.out.bel⟩

set_option maxRecDepth 20000 in
set_option maxHeartbeats 400000 in
theorem long (a0 : Option Addr) (len cap : Nat) (x y : StI) (w : World) (hl : 1048576 < len) (hm : len ≤ maxLen) :
    Calls Try.prog 5 #[.slice a0 len cap, .agg #[.int .i64 x.k, .int .i64 x.e, .int .i64 x.f, .int .i64 x.s, .int .i64 x.n], .agg #[.int .i64 y.k, .int .i64 y.e, .int .i64 y.f, .int .i64 y.s, .int .i64 y.n]] w fun e w' => e = .returned (.bool true) ∧ Below w.heap.size w w' := by
  unfold maxLen at hm
  have hl' : (1048576 : Int) < (len : Int) := by omega
  have hm' : (len : Int) ≤ 9223372036854775807 := by omega
  clear hm
  go_enter Try.func5, Try.ntmps5
  go_wp2
  go_ret
  exact ⟨rfl, by go_grown⟩

/-! The walk: the Go text returns true. -/
theorem walk (a0 : Option Addr) (len0 cap0 : Nat) (z0 : List Int) (x1 : StI) (x2 : StI) (w : World) (w0 : IsRow .i64 w a0 len0 cap0 z0) :
    Calls Try.prog 5 #[.slice a0 len0 cap0, .agg #[.int .i64 x1.k, .int .i64 x1.e, .int .i64 x1.f, .int .i64 x1.s, .int .i64 x1.n], .agg #[.int .i64 x2.k, .int .i64 x2.e, .int .i64 x2.f, .int .i64 x2.s, .int .i64 x2.n]] w fun e w' => e = .returned (.bool true) ∧ Below w.heap.size w w' := by
  by_cases hl : len0 ≤ 1048576
  · exact inner a0 len0 cap0 (z0.take len0) x1 x2 w hl (rowIn_of w0).ints
  · exact long a0 len0 cap0 x1 x2 w (by omega) (len_of w0)

/-! The row's step. -/
set_option maxRecDepth 100000 in
theorem lifted (os : Os) (started : os.Started) (H : Type) (enc : TypeId × Value → H) :
    ReturnsInHanded {} Try.checked os 5 .any (Rows.fnExactClashStatementsSpec.pre6 enc Try.prog Try.f5 Rows.fnExactClashStatementsRow.domain false) (Rows.fnExactClashStatementsSpec.post enc Try.prog Try.f5 false true false false) := by
  refine returnsInHanded_of_change (C := Try.checked) own started (by kernel_rfl) Try.func5
    (ChangeSpec.witness6 (enc := enc) (C := Try.checked) false ⟨#[], #[.slice none 0 0, .agg #[.int .i64 0, .int .i64 0, .int .i64 0, .int .i64 0, .int .i64 0], .agg #[.int .i64 0, .int .i64 0, .int .i64 0, .int .i64 0, .int .i64 0]], []⟩ 8 (by kernel_rfl) (by kernel_rfl) (by kernel_rfl) (by kernel_rfl)) ?_
  intro W base args ds gs before hval0 hW hcnd _
  have hval : ∀ (j : Nat) t v, Try.f5.params[j]? = some t → args[j]? = some v → Value.okWide Try.prog W .any base t v := hval0
  have hW' := hW
  obtain ⟨p, q, hA0, hV, rfl, hfz, hnd⟩ := hW
  have hA : DataW.TrodAll enc Try.prog W 0 (fun _ => true) true Try.f5.params.toList args.toList ds p := hA0
  rw [Try.params5] at hA hval
  obtain ⟨v0, vs0, d0, ds0, p0, q0, hargs, rfl, rfl, h0, r0⟩ := trodAll_cons hA
  obtain ⟨v1, vs1, d1, ds1, p1, q1, rfl, rfl, rfl, h1, r1⟩ := trodAll_cons r0
  obtain ⟨v2, vs2, d2, ds2, p2, q2, rfl, rfl, rfl, h2, r2⟩ := trodAll_cons r1
  obtain ⟨rfl, rfl, rfl⟩ := trodAll_nil r2
  obtain rfl : args = #[v0, v1, v2] := by cases args; simp_all
  obtain ⟨rfl, rfl⟩ := trodVars_none hV
  obtain ⟨a0, len0, cap0, rfl⟩ := okWide_slice Try.underlying28 (hval 0 28 v0 rfl rfl)
  have k0 := h0
  have lt0 : ∀ x ∈ p0, x.block < W.heap.size := by obtain ⟨m, hm⟩ := k0; exact DataW.trod_lt m _ _ _ hm
  obtain ⟨z0, w0⟩ : ∃ zs, IsRow .i64 W a0 len0 cap0 zs := by
    obtain ⟨fuel, hf⟩ := h0
    rcases open_ints Try.underlying28 Try.underlying2 (by kernel_rfl) hf with ⟨hcs, _⟩ | ⟨x, l, c, zs, hcs, _, hl, hm, hz, _, hcell, hwz⟩
    · simp [Value.cells] at hcs
      obtain ⟨rfl, rfl, rfl⟩ := hcs
      exact ⟨[], .inl ⟨rfl, rfl, rfl, rfl⟩⟩
    · simp [Value.cells] at hcs
      obtain ⟨rfl, rfl, rfl⟩ := hcs
      exact ⟨zs, .inr ⟨_, rfl, hl, hm, by simpa using hz, hcell, hwz⟩⟩
  obtain ⟨cs1, rfl, hs1⟩ := okWide_struct Try.underlying23 (hval 1 23 v1 rfl rfl)
  have k1 := h1
  have lt1 : ∀ x ∈ p1, x.block < W.heap.size := by obtain ⟨m, hm⟩ := k1; exact DataW.trod_lt m _ _ _ hm
  obtain ⟨x1, rfl⟩ : ∃ x : StI, cs1 = #[.int .i64 x.k, .int .i64 x.e, .int .i64 x.f, .int .i64 x.s, .int .i64 x.n] := by
    obtain ⟨fuel, hf⟩ := h1
    exact statement_shape _ hf
  obtain ⟨cs2, rfl, hs2⟩ := okWide_struct Try.underlying23 (hval 2 23 v2 rfl rfl)
  have k2 := h2
  have lt2 : ∀ x ∈ p2, x.block < W.heap.size := by obtain ⟨m, hm⟩ := k2; exact DataW.trod_lt m _ _ _ hm
  obtain ⟨x2, rfl⟩ : ∃ x : StI, cs2 = #[.int .i64 x.k, .int .i64 x.e, .int .i64 x.f, .int .i64 x.s, .int .i64 x.n] := by
    obtain ⟨fuel, hf⟩ := h2
    exact statement_shape _ hf
  clear hA0 hval0
  refine (walk a0 len0 cap0 z0 x1 x2 W w0).mono fun e W' ⟨he, bel⟩ => ?_
  subst he
  exact ⟨_, rfl, _, _, _, [], _, [], hW', trodAll_mk1 (shut_bool Try.underlying4 _), (trodAll_cons_mk (Below.trod laidOut (by kernel_rfl) (of_decide_eq_true (by kernel_rfl)) k0 bel lt0) (trodAll_cons_mk (Below.trod laidOut (by kernel_rfl) (of_decide_eq_true (by kernel_rfl)) k1 bel lt1) (trodAll_cons_mk (Below.trod laidOut (by kernel_rfl) (of_decide_eq_true (by kernel_rfl)) k2 bel lt2) trodAll_mk0))), rfl, bel.frame _, fun h => by cases h⟩

theorem over : Rows.fnExactClashStatementsRow.holds Try.pinned (OpenSpec.ofChange Rows.fnExactClashStatementsSpec) :=
  OpenClaim.holds_of_wide 5 Try.f5 rfl rfl rfl rfl rfl rfl rfl ⟨rfl, rfl, rfl, rfl, rfl⟩ rfl rfl rfl rfl rfl (by kernel_rfl) Try.func5 (by kernel_rfl)
    (of_decide_eq_true (by kernel_rfl)) (by unfold Func.isWrapper; first | (rw [if_pos (by decide +kernel)]; kernel_rfl) | (rw [if_neg (by decide +kernel)]; exact ⟨rfl, rfl⟩))
    (fun os started H enc _ => lifted os started H enc)

end Go.Proofs.Ytpeddanicenohaa.fnExactClashStatements
namespace Go.Proofs.Ytpeddanicenohaa
theorem fnExactClashStatements_holds : Rows.FnExactClashStatementsSaid := fnExactClashStatements.over
#print axioms fnExactClashStatements_holds
end Go.Proofs.Ytpeddanicenohaa
