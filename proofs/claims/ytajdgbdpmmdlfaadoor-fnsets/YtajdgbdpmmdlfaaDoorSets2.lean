/-
  THE WALK of the law FnSets.
  Conditions: the code can be read, and has at most 1<<20 bytes.
-/
import Derived.Test.YtajdgbdpmmdlfaaDoorDraw2
import Derived.Test.YtajdgbdpmmdlfaaDoorSets1
import Derived.Deep.RegionWith
import Derived.Outline
import Derived.Deep.DeepCutAuto
import Derived.BigQuiet
import Derived.Deep.QuietTactic
namespace Go.Proofs.YtajdgbdpmmdlfaaDoor
open Go.RowKit
set_option linter.unusedVariables false

theorem fldI0 (x y : Int) (w : World) : (Instr.field 26 (.agg #[.int .i64 x, .int .i64 y]) 0).run Tryd.prog w = .ok (.int .i64 x) w := by kernel_rfl
theorem fldI1 (x y : Int) (w : World) : (Instr.field 26 (.agg #[.int .i64 x, .int .i64 y]) 1).run Tryd.prog w = .ok (.int .i64 y) w := by kernel_rfl
theorem fldT1 (x : Int) (t : ByteArray) (w : World) : (Instr.field 29 (.agg #[.int .i64 x, .string t]) 1).run Tryd.prog w = .ok (.string t) w := by kernel_rfl
theorem fldL0 (x : Int) (a : Option Addr) (n c : Nat) (w : World) : (Instr.field 34 (.agg #[.int .i64 x, .slice a n c]) 0).run Tryd.prog w = .ok (.int .i64 x) w := by kernel_rfl
attribute [local go_sem] fldI0
attribute [local go_sem] fldI1
attribute [local go_sem] fldT1
attribute [local go_sem] fldL0

/-- Where a list of a set stands. -/
def ListSt (wr : World) (B : Nat) (al : Option Addr) (capl b : Nat) (s : Int) : Prop :=
  wr.cell? ⟨B, 0, none⟩ = some (.int .i64 0) ∧ wr.cell? ⟨B, 1, none⟩ = some (.slice al (listTo s 8).length capl) ∧ wr.ownsRow b 2 1 (.slice al (listTo s 8).length capl) (listTo s 8).length ((listTo s 8).map (Value.int .i64))

theorem ListSt.below {w w' : World} {B : Nat} {al : Option Addr} {capl b : Nat} {s : Int} (h : ListSt w B al capl b s) (hb : Below w.heap.size w w') (hB : B < w.heap.size) : ListSt w' B al capl b s :=
  ⟨(hb.cell (p := ⟨B, 0, none⟩) hB).trans h.1, (hb.cell (p := ⟨B, 1, none⟩) hB).trans h.2.1, owns_below h.2.2 hb⟩

theorem inSet_q (s p : Int) (h0 : 0 ≤ s) (h1 : s ≤ 255) (p0 : 1 ≤ p) (p1 : p ≤ 8) (w : World) :
    Calls Tryd.prog 19 #[.int .i64 s, .int .i64 p] w fun e w' => e = .returned (.bool (hasI s p)) ∧ w' = w := (inSet_c s p h0 h1 p0 p1 w).mono fun _ _ h => ⟨h.1, h.2.symm⟩

theorem lwHas_q (s p : Int) (s0 : 0 ≤ s) (s1 : s ≤ 255) (p0 : 1 ≤ p) (p1 : p ≤ 8) (a : Option Addr) (cap : Nat) (w : World) (hr : RowIn w a (listTo s 8).length (listTo s 8)) :
    Calls Tryd.prog 20 #[.slice a (listTo s 8).length cap, .int .i64 p] w fun e w' => e = .returned (.bool (hasI s p)) ∧ w' = w := (lwHas_c s p s0 s1 p0 p1 a cap w hr).mono fun _ _ h => ⟨h.1, h.2.symm⟩

/-- What the last test of the law reads. -/
def Facts (wr : World) (B C : Nat) (al : Option Addr) (capl : Nat) (s : Int) : Prop :=
  wr.cell? ⟨B, 1, none⟩ = some (.slice al (listTo s 8).length capl) ∧ wr.cell? ⟨C, 0, none⟩ = some (.int .i64 0) ∧ wr.cell? ⟨C, 1, none⟩ = some (.string (textI s)) ∧ B < wr.heap.size ∧ C < wr.heap.size

theorem Facts.below {w w' : World} {B C : Nat} {al : Option Addr} {capl : Nat} {s : Int} (h : Facts w B C al capl s) (hb : Below w.heap.size w w') : Facts w' B C al capl s :=
  ⟨(hb.cell (p := ⟨B, 1, none⟩) h.2.2.2.1).trans h.1, (hb.cell (p := ⟨C, 0, none⟩) h.2.2.2.2).trans h.2.1, (hb.cell (p := ⟨C, 1, none⟩) h.2.2.2.2).trans h.2.2.1, Nat.lt_of_lt_of_le h.2.2.2.1 hb.size, Nat.lt_of_lt_of_le h.2.2.2.2 hb.size⟩

theorem below_of_drew {a w : World} (h : Below a.drew.heap.size a.drew w) : Below a.heap.size a w := ⟨h.os, h.tape, h.output, h.size, h.block⟩

set_option maxRecDepth 100000 in
set_option maxHeartbeats 4000000 in
theorem sets_inner (a0 : Option Addr) (len cap : Nat) (zs : List Int) (w : World) (hl : len ≤ 1048576) (hr : CodeIn w a0 len zs) :
    Calls Tryd.prog 3 #[.slice a0 len cap] w fun e w' => e = .returned (.bool true) ∧ Below w.heap.size w w' := by
  have hl' : (len : Int) ≤ 1048576 := by omega
  have HR : Hid (CodeIn w a0 len zs) := hr
  clear hr
  go_enter Tryd.func3, Tryd.ntmps3
  go_wp2_with (go_at_call 10; go_in)
  refine (drawParse_c w a0 len cap zs HR.out hl).mono ?_
  rintro e w1 ⟨t, ht, rfl, hb1⟩
  obtain ⟨c, v, hs, hi, hcase⟩ := parse_both t ht
  have HS : Hid (∀ w : World, Calls Tryd.prog 14 #[.string t] w fun e w' => e = .returned (.agg #[.int .i64 c, .int .i64 v]) ∧ Below w.heap.size w w') := hs
  have HI : Hid (∀ w : World, Calls Tryd.prog 12 #[.string t] w fun e w' => e = .returned (.agg #[.int .i64 c, .int .i64 v]) ∧ Below w.heap.size w w') := hi
  have HC : Hid ((c = 5 ∧ v = 0) ∨ (c = 0 ∧ 0 ≤ v ∧ v ≤ 255 ∧ textI v = t)) := hcase
  clear hs hi hcase
  go_wp2_with fail
  refine (HI.out _).mono ?_
  rintro e w2 ⟨rfl, hb2⟩
  have B2 : Hid (Below w.heap.size w (w2.alloc (.cells #[.int .i64 c, .int .i64 v] 26))) := (hb1.trans (hb2.mono hb1.size)).alloc (by have := hb1.size; have := hb2.size; omega) _
  clear hb1 hb2
  go_wp2
  go_cut [38] from 9 to 106 (fun s38 wx => s38 = .bool false ∧ Below w.heap.size w wx)
  case first =>
    rcases HC.out with ⟨rfl, rfl⟩ | ⟨rfl, v0, v1, htx⟩
    · clear HC HI
      refine wp_region_any (by kernel_rfl) ?_
      change wpAny _ _ _ _ _ _ _ (World.drew _)
      refine wpAny_ready (rs := [0]) (by decide +kernel) (by simp) (AllReady.cons rfl (fun K hK => ?_) AllReady.nil)
      go_simp
      refine hK _ _ ?_
      clear hK K
      refine wpAny_ready (rs := [1]) (by decide +kernel) (by simp) (AllReady.cons rfl (fun K hK => ?_) AllReady.nil)
      go_simp
      refine hK _ _ ?_
      clear hK K
      refine wpAny_ready (rs := [2]) (by decide +kernel) (by simp) (AllReady.cons rfl (fun K hK => ?_) AllReady.nil)
      go_simp
      refine hK _ _ ?_
      clear hK K
      refine wpAny_ready (rs := [3]) (by decide +kernel) (by simp) (AllReady.cons rfl (fun K hK => ?_) AllReady.nil)
      go_simp
      refine hK _ _ ?_
      clear hK K
      refine wpAny_take (i := 8) (v := undef) rfl (by decide +kernel) (by decide +kernel) (by decide +kernel) (fun _ _ _ h => h) (Or.inr ⟨by rfl, rfl⟩) ?_
      refine wpAny_ready (rs := [4]) (by decide +kernel) (by simp) (AllReady.cons rfl (fun K hK => ?_) AllReady.nil)
      go_simp
      refine hK _ _ ?_
      clear hK K
      refine wpAny_ready (rs := [5]) (by decide +kernel) (by simp) (AllReady.cons rfl (fun K hK => ?_) AllReady.nil)
      go_simp
      refine hK _ _ ?_
      clear hK K
      refine wpAny_ready (rs := [6]) (by decide +kernel) (by simp) (AllReady.cons rfl (fun K hK => ?_) AllReady.nil)
      go_simp
      refine hK _ _ ?_
      clear hK K
      refine wpAny_ready (rs := [7]) (by decide +kernel) (by simp) (AllReady.cons rfl (fun K hK => ?_) AllReady.nil)
      go_simp
      refine hK _ _ ?_
      clear hK K
      refine wpAny_ready (rs := [9]) (by decide +kernel) (by simp) (AllReady.cons rfl (fun K hK => ?_) AllReady.nil)
      go_simp
      refine hK _ _ ?_
      clear hK K
      refine wpAny_ready (rs := [10]) (by decide +kernel) (by simp) (AllReady.cons rfl (fun K hK => ?_) AllReady.nil)
      go_simp
      refine hK _ _ ?_
      clear hK K
      refine wpAny_ready (rs := [11]) (by decide +kernel) (by simp) (AllReady.cons rfl (fun K hK => ?_) AllReady.nil)
      go_simp
      refine hK _ _ ?_
      clear hK K
      refine wpAny_ready (rs := [12]) (by decide +kernel) (by simp) (AllReady.cons rfl (fun K hK => ?_) AllReady.nil)
      go_simp
      refine hK _ _ ?_
      clear hK K
      refine wpAny_ready (rs := [13]) (by decide +kernel) (by simp) (AllReady.cons rfl (fun K hK => ?_) AllReady.nil)
      go_simp
      refine hK _ _ ?_
      clear hK K
      refine wpAny_ready (rs := [14]) (by decide +kernel) (by simp) (AllReady.cons rfl (fun K hK => ?_) AllReady.nil)
      go_simp
      refine hK _ _ ?_
      clear hK K
      refine wpAny_ready (rs := [15]) (by decide +kernel) (by simp) (AllReady.cons rfl (fun K hK => ?_) AllReady.nil)
      go_simp
      refine hK _ _ ?_
      clear hK K
      refine wpAny_take (i := 16) (v := .string t) rfl (by decide +kernel) (by decide +kernel) (by decide +kernel) (fun _ _ _ h => h) (Or.inl ⟨by rfl, fun w => (by go_simp)⟩) ?_
      refine wpAny_take (i := 19) (v := .pointer (some ⟨w2.heap.size, 0, none⟩)) rfl (by decide +kernel) (by decide +kernel) (by decide +kernel) (fun _ _ _ h => h) (Or.inl ⟨by rfl, fun w => (by go_simp)⟩) ?_
      refine wpAny_ready (rs := [17, 20]) (by decide +kernel) (by simp) (AllReady.cons rfl (fun K hK => ?_) (AllReady.cons rfl (fun K hK => ?_) AllReady.nil))
      · -- the call first
        go_simp
        refine (HS.out _).mono ?_
        rintro e w3 ⟨rfl, hb3⟩
        have d0 : w3.cell? ⟨w2.heap.size, 0, none⟩ = some (.int .i64 5) := (hb3.cell (p := ⟨w2.heap.size, 0, none⟩) (by simp)).trans (by simp)
        refine hK _ _ ?_
        clear hK K
        refine wpAny_take (i := 18) (v := .int .i64 5) rfl (by decide +kernel) (by decide +kernel) (by decide +kernel) (fun _ _ _ h => h) (Or.inl ⟨by rfl, fun w => (by go_simp)⟩) ?_
        refine wpAny_ready (rs := [20]) (by decide +kernel) (by simp) (AllReady.cons rfl (fun K hK => ?_) AllReady.nil)
        go_simp
        refine hK _ _ ?_
        clear hK K
        refine wpAny_ready (rs := [21]) (by decide +kernel) (by simp) (AllReady.cons rfl (fun K hK => ?_) AllReady.nil)
        go_simp
        refine hK _ _ ?_
        clear hK K
        refine wpAny_ready (rs := [22]) (by decide +kernel) (by simp) (AllReady.cons rfl (fun K hK => ?_) AllReady.nil)
        go_simp
        refine hK _ _ ?_
        clear hK K
        refine wpAny_ready (rs := [23]) (by decide +kernel) (by simp) (AllReady.cons rfl (fun K hK => ?_) AllReady.nil)
        go_simp
        refine hK _ _ ?_
        clear hK K
        refine wpAny_done (by decide +kernel) ?_ _
        go_wp2
        go_meet
        case rel => exact ⟨rfl, B2.out.trans ((below_of_drew hb3).mono (by have h := B2.out.size; simp at h ⊢; omega))⟩
      · -- the load first
        go_simp
        refine hK _ _ ?_
        clear hK K
        refine wpAny_ready (rs := [17]) (by decide +kernel) (by simp) (AllReady.cons rfl (fun K hK => ?_) AllReady.nil)
        go_simp
        refine (HS.out _).mono ?_
        rintro e w3 ⟨rfl, hb3⟩
        refine hK _ _ ?_
        clear hK K
        refine wpAny_ready (rs := [18]) (by decide +kernel) (by simp) (AllReady.cons rfl (fun K hK => ?_) AllReady.nil)
        go_simp
        refine hK _ _ ?_
        clear hK K
        refine wpAny_ready (rs := [21]) (by decide +kernel) (by simp) (AllReady.cons rfl (fun K hK => ?_) AllReady.nil)
        go_simp
        refine hK _ _ ?_
        clear hK K
        refine wpAny_ready (rs := [22]) (by decide +kernel) (by simp) (AllReady.cons rfl (fun K hK => ?_) AllReady.nil)
        go_simp
        refine hK _ _ ?_
        clear hK K
        refine wpAny_ready (rs := [23]) (by decide +kernel) (by simp) (AllReady.cons rfl (fun K hK => ?_) AllReady.nil)
        go_simp
        refine hK _ _ ?_
        clear hK K
        refine wpAny_done (by decide +kernel) ?_ _
        go_wp2
        go_meet
        case rel => exact ⟨rfl, B2.out.trans ((below_of_drew hb3).mono (by have h := B2.out.size; simp at h ⊢; omega))⟩
    · clear HC HI
      subst htx
      have hbne := str_eq_of (rfl : textI v = textI v)
      refine wp_region_any (by kernel_rfl) ?_
      change wpAny _ _ _ _ _ _ _ (World.drew _)
      refine wpAny_ready (rs := [0]) (by decide +kernel) (by simp) (AllReady.cons rfl (fun K hK => ?_) AllReady.nil)
      go_simp
      refine hK _ _ ?_
      clear hK K
      refine wpAny_ready (rs := [1]) (by decide +kernel) (by simp) (AllReady.cons rfl (fun K hK => ?_) AllReady.nil)
      go_simp
      refine hK _ _ ?_
      clear hK K
      refine wpAny_ready (rs := [2]) (by decide +kernel) (by simp) (AllReady.cons rfl (fun K hK => ?_) AllReady.nil)
      go_simp
      refine hK _ _ ?_
      clear hK K
      refine wpAny_ready (rs := [3]) (by decide +kernel) (by simp) (AllReady.cons rfl (fun K hK => ?_) AllReady.nil)
      go_simp
      refine hK _ _ ?_
      clear hK K
      refine wpAny_take (i := 8) (v := .string (textI v)) rfl (by decide +kernel) (by decide +kernel) (by decide +kernel) (fun _ _ _ h => h) (Or.inl ⟨by rfl, fun w => (by go_simp)⟩) ?_
      refine wpAny_ready (rs := [4]) (by decide +kernel) (by simp) (AllReady.cons rfl (fun K hK => ?_) AllReady.nil)
      go_simp
      refine hK _ _ ?_
      clear hK K
      refine wpAny_ready (rs := [5]) (by decide +kernel) (by simp) (AllReady.cons rfl (fun K hK => ?_) AllReady.nil)
      go_simp
      refine hK _ _ ?_
      clear hK K
      refine wpAny_ready (rs := [6]) (by decide +kernel) (by simp) (AllReady.cons rfl (fun K hK => ?_) AllReady.nil)
      go_simp
      refine (implText_in v v0 v1 _).mono ?_
      rintro e w3 ⟨rfl, hb3⟩
      have d0 : w3.cell? ⟨w2.heap.size, 0, none⟩ = some (.int .i64 0) := (hb3.cell (p := ⟨w2.heap.size, 0, none⟩) (by simp)).trans (by simp)
      refine hK _ _ ?_
      clear hK K
      refine wpAny_ready (rs := [7]) (by decide +kernel) (by simp) (AllReady.cons rfl (fun K hK => ?_) AllReady.nil)
      go_simp
      refine hK _ _ ?_
      clear hK K
      refine wpAny_ready (rs := [9]) (by decide +kernel) (by simp) (AllReady.cons rfl (fun K hK => ?_) AllReady.nil)
      go_simp
      refine hK _ _ ?_
      clear hK K
      refine wpAny_ready (rs := [10]) (by decide +kernel) (by simp) (AllReady.cons rfl (fun K hK => ?_) AllReady.nil)
      go_simp
      refine hK _ _ ?_
      clear hK K
      refine wpAny_ready (rs := [11]) (by decide +kernel) (by simp) (AllReady.cons rfl (fun K hK => ?_) AllReady.nil)
      go_simp
      refine hK _ _ ?_
      clear hK K
      refine wpAny_ready (rs := [12]) (by decide +kernel) (by simp) (AllReady.cons rfl (fun K hK => ?_) AllReady.nil)
      go_simp
      refine hK _ _ ?_
      clear hK K
      refine wpAny_ready (rs := [13]) (by decide +kernel) (by simp) (AllReady.cons rfl (fun K hK => ?_) AllReady.nil)
      go_simp
      refine hK _ _ ?_
      clear hK K
      refine wpAny_ready (rs := [14]) (by decide +kernel) (by simp) (AllReady.cons rfl (fun K hK => ?_) AllReady.nil)
      go_simp
      refine hK _ _ ?_
      clear hK K
      refine wpAny_ready (rs := [15]) (by decide +kernel) (by simp) (AllReady.cons rfl (fun K hK => ?_) AllReady.nil)
      go_simp
      refine hK _ _ ?_
      clear hK K
      refine wpAny_take (i := 16) (v := undef) rfl (by decide +kernel) (by decide +kernel) (by decide +kernel) (fun _ _ _ h => h) (Or.inr ⟨by rfl, rfl⟩) ?_
      refine wpAny_take (i := 19) (v := undef) rfl (by decide +kernel) (by decide +kernel) (by decide +kernel) (fun _ _ _ h => h) (Or.inr ⟨by rfl, rfl⟩) ?_
      refine wpAny_take (i := 17) (v := undef) rfl (by decide +kernel) (by decide +kernel) (by decide +kernel) (fun _ _ _ h => h) (Or.inr ⟨by rfl, rfl⟩) ?_
      refine wpAny_take (i := 18) (v := undef) rfl (by decide +kernel) (by decide +kernel) (by decide +kernel) (fun _ _ _ h => h) (Or.inr ⟨by rfl, rfl⟩) ?_
      refine wpAny_take (i := 20) (v := undef) rfl (by decide +kernel) (by decide +kernel) (by decide +kernel) (fun _ _ _ h => h) (Or.inr ⟨by rfl, rfl⟩) ?_
      refine wpAny_take (i := 21) (v := undef) rfl (by decide +kernel) (by decide +kernel) (by decide +kernel) (fun _ _ _ h => h) (Or.inr ⟨by rfl, rfl⟩) ?_
      refine wpAny_ready (rs := [22]) (by decide +kernel) (by simp) (AllReady.cons rfl (fun K hK => ?_) AllReady.nil)
      go_simp
      refine hK _ _ ?_
      clear hK K
      refine wpAny_ready (rs := [23]) (by decide +kernel) (by simp) (AllReady.cons rfl (fun K hK => ?_) AllReady.nil)
      go_simp
      refine hK _ _ ?_
      clear hK K
      refine wpAny_done (by decide +kernel) ?_ _
      go_wp2
      go_meet
      case rel => exact ⟨rfl, B2.out.trans ((below_of_drew hb3).mono (by have h := B2.out.size; simp at h ⊢; omega))⟩
  case rest =>
    obtain ⟨rfl, hbb⟩ := hcut
    have HBB : Hid (Below w.heap.size w wc) := hbb
    clear hbb HC HS HI B2
    go_wp2_with fail
    refine (drawList_c wc a0 len cap zs (HR.out.kept (row := none) ⟨HBB.out.os, HBB.out.tape, HBB.out.output, HBB.out.size, fun k hk _ => HBB.out.block k hk⟩ (fun _ _ _ => .inr (by simp))) hl).mono ?_
    rintro e w4 ⟨s, rfl, hb4⟩
    have HB4 : Hid (Below w.heap.size w w4) := HBB.out.trans (hb4.mono HBB.out.size)
    clear hb4 HBB
    by_cases hs : 0 ≤ s ∧ s ≤ 255
    · obtain ⟨s0, s1⟩ := hs
      go_wp2_with fail
      refine (implList_in s s0 s1 _).mono ?_
      rintro e w5 ⟨al, capl, rfl, hown5, hb5⟩
      have HO5 : Hid (w5.ownsRow (w4.heap.size + 1) 2 1 (.slice al (listTo s 8).length capl) (listTo s 8).length ((listTo s 8).map (Value.int .i64))) := hown5
      have HB5 : Hid (Below w.heap.size w (w5.alloc (.cells #[.int .i64 0, .slice al (listTo s 8).length capl] 34))) := (HB4.out.trans (hb5.mono HB4.out.size)).alloc (by have := HB4.out.size; have := hb5.size; omega) _
      have HL5 : Hid (ListSt (w5.alloc (.cells #[.int .i64 0, .slice al (listTo s 8).length capl] 34)) w5.heap.size al capl (w4.heap.size + 1) s) := ⟨by simp, by simp, hown5.alloc _⟩
      clear hown5 hb5 HB4 HO5
      go_wp2
      go_loopw [7] (fun p wr => ∃ k : Nat, k ≤ 8 ∧ p = .int .i64 ((k : Int) + 1) ∧ Below w.heap.size w wr ∧ ListSt wr w5.heap.size al capl (w4.heap.size + 1) s) (fun p _ => 9 - (intOf p).toNat)
      case atStart => exact ⟨0, by omega, rfl, HB5.out, HL5.out⟩
      case round =>
        obtain ⟨k, hk, rfl, hbr, hst⟩ := hrel
        have HBR : Hid (Below w.heap.size w wr) := hbr
        have HST : Hid (ListSt wr w5.heap.size al capl (w4.heap.size + 1) s) := hst
        obtain ⟨g0, g1, _⟩ := hst
        have HRW : Hid (RowIn wr al (listTo s 8).length (listTo s 8)) := row_of_owns HST.out.2.2
        clear hbr
        by_cases hlt : k < 8
        · have hlt' : (k : Int) + 1 ≤ 8 := by omega
          go_wp2
          go_quiet ((first | (go_at_call 19; exact Calls.quiet_of_same (inSet_q s _ s0 s1 (by omega) (by omega) _)) | (go_at_call 20; exact Calls.quiet_of_same (lwHas_q s _ s0 s1 (by omega) (by omega) al capl _ (by exact ⟨HRW.out.1, HRW.out.2⟩)))))
          go_wp2
          exact ⟨⟨k + 1, by omega, by go_num, below_drewN HBR.out _, ⟨HST.out.1, HST.out.2.1, HST.out.2.2⟩⟩, by simp [intOf]; omega⟩
        · have hk8 : k = 8 := by omega
          subst hk8
          have hBl : w5.heap.size < wr.heap.size := World.block_lt_of_cell? wr ⟨w5.heap.size, 0, none⟩ g0
          go_wp2_with fail
          refine (implText_in s s0 s1 _).mono ?_
          rintro e w7 ⟨rfl, hb7⟩
          have hz7 := hb7.size
          have hT := textI_size s s0 s1
          have H7 : Hid (ListSt (w7.alloc (.cells #[.int .i64 0, .string (textI s)] 29)) w5.heap.size al capl (w4.heap.size + 1) s) := (HST.out.below hb7 hBl).below ((Below.refl _ _).alloc (Nat.le_refl _) _) (by omega)
          have HB7 : Hid (Below w.heap.size w (w7.alloc (.cells #[.int .i64 0, .string (textI s)] 29))) := (HBR.out.trans (hb7.mono HBR.out.size)).alloc (by have := HBR.out.size; omega) _
          obtain ⟨e0, e1, _⟩ := H7.out
          have hlt7 : w5.heap.size < w7.heap.size := by omega
          have hT2 : (2 : Int) ≤ ((textI s).size : Int) := by omega
          clear HST HRW hb7 HBR g0 g1 HL5 HB5
          have f0 : (w7.alloc (.cells #[.int .i64 0, .string (textI s)] 29)).cell? ⟨w7.heap.size, 0, none⟩ = some (.int .i64 0) := by simp
          have f1 : (w7.alloc (.cells #[.int .i64 0, .string (textI s)] 29)).cell? ⟨w7.heap.size, 1, none⟩ = some (.string (textI s)) := by simp
          have HF : Hid (Facts (w7.alloc (.cells #[.int .i64 0, .string (textI s)] 29)) w5.heap.size w7.heap.size al capl s) := ⟨e1, f0, f1, by simp; omega, by simp⟩
          clear f0 f1
          go_wp2
          go_region_with (first | (go_at_call 21; refine (setOf_list s s0 s1 al _ capl _ (by exact H7.out.2.2)).mono ?_; rintro e w8 ⟨rfl, hb8⟩; have F8 := HF.out.below (below_of_drew hb8); have a1 := F8.1; have a2 := F8.2.1; have a3 := F8.2.2.1) | (go_at_call 22; refine (implSize_in s s0 s1 _).mono ?_; rintro e w9 ⟨rfl, hb9⟩; have F9 := F8.below hb9; have c1 := F9.1; have c2 := F9.2.1; have c3 := F9.2.2.1) | (go_at_call 12; refine (parse_text s s0 s1 _).mono ?_; rintro e w10 ⟨rfl, hb10⟩))
          all_goals
            go_wp2
            go_ret
            have X8 := HB7.out.trans ((below_of_drew hb8).mono HB7.out.size)
            have X9 := X8.trans (hb9.mono X8.size)
            have X10 := X9.trans (hb10.mono X9.size)
            exact ⟨rfl, X10⟩
    · have hs' : s < 0 ∨ 255 < s := by omega
      clear hs
      go_wp2_with fail
      refine (implList_out s hs' _).mono ?_
      rintro e w5 ⟨rfl, hb5⟩
      have HB5 : Hid (Below w.heap.size w (w5.alloc (.cells #[.int .i64 3, .slice none 0 0] 34))) := (HB4.out.trans (hb5.mono HB4.out.size)).alloc (by have := HB4.out.size; have := hb5.size; omega) _
      have hz5 := HB5.out.size
      simp only [World.size_alloc] at hz5
      clear hb5 HB4
      go_wp2
      go_region_with (first | (go_at_call 17; refine (specList_out s hs' _).mono ?_; rintro e w6 ⟨rfl, hb6⟩; have hc6 := fun o => hb6.cell (p := ⟨w5.heap.size, o, none⟩) (by simp); have d0 : w6.cell? ⟨w5.heap.size, 0, none⟩ = some (.int .i64 3) := (hc6 0).trans (by simp); clear hc6) | (go_at_call 18; refine (fault_out s hs' _).mono ?_; rintro e w7 ⟨rfl, rfl⟩))
      all_goals
        go_wp2
        go_ret
        exact ⟨rfl, HB5.out.trans ((below_of_drew hb6).mono (by simp; omega))⟩

end Go.Proofs.YtajdgbdpmmdlfaaDoor
