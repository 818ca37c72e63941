/-
  PROVED: for every slice of int64 the law laws.FnExactSetOf returns true, that is impl.SetOf answers as spec.SetOf there (up to 1<<20 elements, as the law itself says) and writes nothing into its argument; the argument reads as it did.
  Conditions: none beside those that the given row itself bears. The frame is the shell written by program; the walk is ours.
-/
import Derived.Test.YtjnljmembnlebagRows
import Derived.WalkKit
import Derived.ProofKit
import Derived.OpenShut
import Derived.ShutString
import Derived.ChangeOld
import Derived.Below
import Derived.Test.YtjnljmembnlebagSize1
import Derived.Test.YtjnljmembnlebagSetOf1
import Derived.Test.YtjnljmembnlebagSlices1
namespace Go.Proofs.Ytjnljmembnlebag.fnExactSetOf
open Go.ChangeShapes Go.WideShapes Go.ChangeAt Go.RowKit
open Go.ChangeMaps (open_string shut_string)
set_option linter.unusedVariables false

theorem own : ownKnob Try.prog.godebug = none := by kernel_rfl
theorem laidOut : laidOutB Try.prog = true := by kernel_rfl

/-- WHAT THE WALK IS TOLD OF A SLICE OF INTEGERS THAT CAME IN: it is nil; or it leads to a row of 'cap' cells, the numbers 'zs' (the first 'len' are its elements, the rest its spare room), each fitting its kind. -/
def IsRow (k : IntKind) (w : World) (a : Option Addr) (len cap : Nat) (zs : List Int) : Prop :=
  (a = none ∧ len = 0 ∧ cap = 0 ∧ zs = []) ∨
  ∃ x, a = some x ∧ len ≤ cap ∧ cap ≤ maxLen ∧ zs.length = cap ∧ (∀ i, i < zs.length → w.cell? (x.add i) = some (.int k (zs.getD i 0))) ∧ ∀ n ∈ zs, (Lit.int k n).wf = true

theorem rowIn_of {w : World} {a0 : Option Addr} {len cap : Nat} {zs : List Int} (h : IsRow .i64 w a0 len cap zs) : RowIn w a0 len zs := by
  rcases h with ⟨rfl, rfl, rfl, rfl⟩ | ⟨x, rfl, hl, hm, hz, hc, hw⟩
  · exact ⟨Nat.zero_le _, fun k hk => by omega⟩
  · refine ⟨by omega, fun k hk => ?_⟩
    obtain ⟨b, off, rfl, hcc⟩ := ints_at hc (by omega)
    refine ⟨b, off, rfl, ?_⟩
    have := hcc k (by omega)
    simpa using this

set_option maxHeartbeats 400000 in
theorem inner (a0 : Option Addr) (len cap : Nat) (zs : List Int) (c n : Int) (w : World) (hl : len ≤ 1048576) (hr : RowIn w a0 len zs)
    (HS : Hid (∀ (g : Nat) (w : World), (∀ k, k < len → w.cell? ⟨g, k, none⟩ = some (.int .i64 (zs[k]?.getD 0))) → Calls Try.prog 7 #[.slice (some ⟨g, 0, none⟩) len len] w fun e w' => e = .returned (.agg #[.int .i64 c, .int .i64 n]) ∧ Below w.heap.size w w'))
    (HI : Hid (∀ (g : Nat) (w : World), (∀ k, k < len → w.cell? ⟨g, k, none⟩ = some (.int .i64 (zs[k]?.getD 0))) → Calls Try.prog 9 #[.slice (some ⟨g, 0, none⟩) len len] w fun e w' => e = .returned (.agg #[.int .i64 c, .int .i64 n]) ∧ Below w.heap.size w w')) :
    Calls Try.prog 3 #[.slice a0 len cap] w fun e w' => e = .returned (.bool true) ∧ Below w.heap.size w w' := by
  have hl' : (len : Int) ≤ 1048576 := by omega
  have HR : Hid (RowIn w a0 len zs) := hr
  clear hr
  go_enter Try.func3, Try.ntmps3
  go_wp2_with fail
  refine (toS_c a0 len cap zs _ hl HR.out).mono ?_
  rintro e w1 ⟨rfl, hown1, hb1⟩
  have HC1 : Hid (∀ k, k < len → w1.cell? ⟨w.heap.size, k, none⟩ = some (.int .i64 (zs[k]?.getD 0))) := owned_cells hown1 HR.out.1
  have HR1 : Hid (RowIn w1 a0 len zs) := HR.out.below hb1
  clear hown1 HR
  go_wp2_with fail
  refine (HS.out _ _ HC1.out).mono ?_
  rintro e w2 ⟨rfl, hb2⟩
  have HR2 : Hid (RowIn (w2.alloc (.cells #[.int .i64 c, .int .i64 n] 24)) a0 len zs) := (HR1.out.below hb2).below ((Below.refl _ _).alloc (Nat.le_refl _) _)
  clear HC1 HR1 HS
  go_wp2_with fail
  refine (toS_c a0 len cap zs _ hl HR2.out).mono ?_
  rintro e w3 ⟨rfl, hown3, hb3⟩
  have HC3 : Hid (∀ k, k < len → w3.cell? ⟨w2.heap.size + 1, k, none⟩ = some (.int .i64 (zs[k]?.getD 0))) := by
    have this := owned_cells hown3 HR2.out.1
    simp only [World.size_alloc] at this
    exact this
  have hlt3 : w2.heap.size + 1 < w3.heap.size := by have := owned_lt hown3; simpa only [World.size_alloc] using this
  have HR3 : Hid (RowIn w3 a0 len zs) := HR2.out.below hb3
  have HL3 : Hid (len ≤ zs.length) := HR2.out.1
  clear hown3 HR2
  obtain ⟨hc3, _⟩ := bcell hb3
  go_wp2_with fail
  refine (HI.out _ _ HC3.out).mono ?_
  rintro e w4 ⟨rfl, hb4⟩
  clear HI
  have hz4 := hb4.size
  obtain ⟨hc4, _⟩ := bcell hb4
  have hA0 : w4.cell? ⟨w2.heap.size, 0, none⟩ = some (.int .i64 c) := by rw [hc4 _ _ (by omega), hc3 _ _ (by simp)]; simp
  have hA1 : w4.cell? ⟨w2.heap.size, 1, none⟩ = some (.int .i64 n) := by rw [hc4 _ _ (by omega), hc3 _ _ (by simp)]; simp
  have HC4 : Hid (∀ k, k < len → (w4.alloc (.cells #[.int .i64 c, .int .i64 n] 24)).cell? ⟨w2.heap.size + 1, k, none⟩ = some (.int .i64 (zs[k]?.getD 0))) := fun k hk => by
    rw [World.cell?_alloc_past _ _ _ (by show w2.heap.size + 1 < w4.heap.size; omega), hc4 _ _ hlt3]; exact HC3.out k hk
  have HR4 : Hid (RowIn (w4.alloc (.cells #[.int .i64 c, .int .i64 n] 24)) a0 len zs) := (HR3.out.below hb4).below ((Below.refl _ _).alloc (Nat.le_refl _) _)
  clear HC3 HR3 hc3 hc4
  have hlt4 : w2.heap.size < w4.heap.size := by omega
  go_wp2_with fail
  refine (eqInt_same _ _ _).mono ?_
  rintro e w5 ⟨rfl, hb5⟩
  obtain ⟨hc5, _⟩ := bcell hb5
  have HC5 : Hid (∀ k, k < len → w5.cell? ⟨w2.heap.size + 1, k, none⟩ = some (.int .i64 (zs[k]?.getD 0))) := fun k hk => by
    rw [hc5 _ _ (by simp; omega)]; exact HC4.out k hk
  have HR5 : Hid (RowIn w5 a0 len zs) := HR4.out.below hb5
  have hz5 := hb5.size
  simp only [World.size_alloc] at hz5
  clear HC4 HR4 hc5 hA0 hA1
  go_wp2_with fail
  refine (toS_c a0 len cap zs _ hl HR5.out).mono ?_
  rintro e w6 ⟨rfl, hown6, hb6⟩
  obtain ⟨hc6, _⟩ := bcell hb6
  have HC6 : Hid (∀ k, k < len → w6.cell? ⟨w2.heap.size + 1, k, none⟩ = some (.int .i64 (zs[k]?.getD 0))) := fun k hk => by
    rw [hc6 _ _ (by omega)]; exact HC5.out k hk
  have HD6 : Hid (∀ k, k < len → w6.cell? ⟨w5.heap.size, k, none⟩ = some (.int .i64 (zs[k]?.getD 0))) := owned_cells hown6 HL3.out
  clear hown6 HC5 hc6
  go_wp2_with fail
  refine (eqS_same _ _ len _ _ zs _ hl (fun k hk => ⟨_, 0, rfl, by rw [Nat.zero_add]; exact HC6.out k hk⟩) (fun k hk => ⟨_, 0, rfl, by rw [Nat.zero_add]; exact HD6.out k hk⟩)).mono ?_
  rintro e w7 ⟨rfl, hb7⟩
  go_wp2
  go_ret
  have hz1 := hb1.size
  have hz2 := hb2.size
  have hz6 := hb6.size
  have B1 : Below w.heap.size w (w2.alloc (.cells #[.int .i64 c, .int .i64 n] 24)) := (hb1.trans (hb2.mono hz1)).alloc (by omega) _
  have B2 : Below w.heap.size w (w4.alloc (.cells #[.int .i64 c, .int .i64 n] 24)) := ((B1.trans (hb3.mono (by simp; omega))).trans (hb4.mono (by omega))).alloc (by omega) _
  exact ⟨rfl, ((B2.trans (hb5.mono (by simp; omega))).trans (hb6.mono (by omega))).trans (hb7.mono (by omega))⟩

theorem short (a0 : Option Addr) (len cap : Nat) (zs : List Int) (w : World) (hl : len ≤ 1048576) (hr : RowIn w a0 len zs) :
    Calls Try.prog 3 #[.slice a0 len cap] w fun e w' => e = .returned (.bool true) ∧ Below w.heap.size w w' := by
  have key : ∀ k, k < len → zs[k]?.getD 0 = (zs.take len)[k]?.getD 0 := fun k hk => by rw [List.getElem?_take]; simp [hk]
  have hy : (zs.take len).length = len := by have := hr.1; simp; omega
  by_cases h20 : 20 < len
  · exact inner a0 len cap zs 2 0 w hl hr (fun g w _ => specSetOf_many g len len w h20 hl) (fun g w _ => implSetOf_many g len len w h20 hl)
  · rcases okTo_or_first (zs.take len) len with hok | ⟨j, hj, hok, hbad⟩
    · exact inner a0 len cap zs 0 _ w hl hr (fun g w h => specSetOf_in g len len (zs.take len) w (by omega) hy (fun k hk => by rw [← key k hk]; exact h k hk) hok) (fun g w h => implSetOf_in g len len (zs.take len) w (by omega) hy (fun k hk => by rw [← key k hk]; exact h k hk) hok)
    · exact inner a0 len cap zs 3 0 w hl hr (fun g w h => specSetOf_bad g len len (zs.take len) w (by omega) hy (fun k hk => by rw [← key k hk]; exact h k hk) j hj hok hbad) (fun g w h => implSetOf_bad g len len (zs.take len) w (by omega) hy (fun k hk => by rw [← key k hk]; exact h k hk) j hj hok hbad)

/-! The walk: the Go text returns true. -/
theorem walk (a0 : Option Addr) (len0 cap0 : Nat) (z0 : List Int) (w : World) (w0 : IsRow .i64 w a0 len0 cap0 z0) :
    Calls Try.prog 3 #[.slice a0 len0 cap0] w fun e w' => e = .returned (.bool true) ∧ Below w.heap.size w w' := by
  by_cases hl : len0 ≤ 1048576
  · exact short a0 len0 cap0 z0 w hl (rowIn_of w0)
  · have hl' : (1048576 : Int) < (len0 : Int) := by omega
    go_enter Try.func3, Try.ntmps3
    go_wp2
    go_ret
    exact ⟨rfl, Below.refl _ _⟩

/-! The row's step. -/
set_option maxRecDepth 100000 in
theorem lifted (os : Os) (started : os.Started) (H : Type) (enc : TypeId × Value → H) :
    ReturnsInHanded {} Try.checked os 3 .any (Rows.fnExactSetOfSpec.pre6 enc Try.prog Try.f3 Rows.fnExactSetOfRow.domain false) (Rows.fnExactSetOfSpec.post enc Try.prog Try.f3 false true false false) := by
  refine returnsInHanded_of_change (C := Try.checked) own started (by kernel_rfl) Try.func3
    (ChangeSpec.witness6 (enc := enc) (C := Try.checked) false ⟨#[], #[.slice none 0 0], []⟩ 8 (by kernel_rfl) (by kernel_rfl) (by kernel_rfl) (by kernel_rfl)) ?_
  intro W base args ds gs before hval0 hW hcnd _
  have hval : ∀ (j : Nat) t v, Try.f3.params[j]? = some t → args[j]? = some v → Value.okWide Try.prog W .any base t v := hval0
  have hW' := hW
  obtain ⟨p, q, hA0, hV, rfl, hfz, hnd⟩ := hW
  have hA : DataW.TrodAll enc Try.prog W 0 (fun _ => true) true Try.f3.params.toList args.toList ds p := hA0
  rw [Try.params3] at hA hval
  obtain ⟨v0, vs0, d0, ds0, p0, q0, hargs, rfl, rfl, h0, r0⟩ := trodAll_cons hA
  obtain ⟨rfl, rfl, rfl⟩ := trodAll_nil r0
  obtain rfl : args = #[v0] := by cases args; simp_all
  obtain ⟨rfl, rfl⟩ := trodVars_none hV
  obtain ⟨a0, len0, cap0, rfl⟩ := okWide_slice Try.underlying22 (hval 0 22 v0 rfl rfl)
  have k0 := h0
  have lt0 : ∀ x ∈ p0, x.block < W.heap.size := by obtain ⟨m, hm⟩ := k0; exact DataW.trod_lt m _ _ _ hm
  obtain ⟨z0, w0⟩ : ∃ zs, IsRow .i64 W a0 len0 cap0 zs := by
    obtain ⟨fuel, hf⟩ := h0
    rcases open_ints Try.underlying22 Try.underlying2 (by kernel_rfl) hf with ⟨hcs, _⟩ | ⟨x, l, c, zs, hcs, _, hl, hm, hz, _, hcell, hwz⟩
    · simp [Value.cells] at hcs
      obtain ⟨rfl, rfl, rfl⟩ := hcs
      exact ⟨[], .inl ⟨rfl, rfl, rfl, rfl⟩⟩
    · simp [Value.cells] at hcs
      obtain ⟨rfl, rfl, rfl⟩ := hcs
      exact ⟨zs, .inr ⟨_, rfl, hl, hm, by simpa using hz, hcell, hwz⟩⟩
  clear hA0 hval0
  refine (walk a0 len0 cap0 z0 W w0).mono fun e W' ⟨he, bel⟩ => ?_
  subst he
  exact ⟨_, rfl, _, _, _, [], _, [], hW', trodAll_mk1 (shut_bool Try.underlying4 _), (trodAll_cons_mk (Below.trod laidOut (by kernel_rfl) (of_decide_eq_true (by kernel_rfl)) k0 bel lt0) trodAll_mk0), rfl, bel.frame _, fun h => by cases h⟩

theorem over : Rows.fnExactSetOfRow.holds Try.pinned (OpenSpec.ofChange Rows.fnExactSetOfSpec) :=
  OpenClaim.holds_of_wide 3 Try.f3 rfl rfl rfl rfl rfl rfl rfl ⟨rfl, rfl, rfl, rfl, rfl⟩ rfl rfl rfl rfl rfl (by kernel_rfl) Try.func3 (by kernel_rfl)
    (of_decide_eq_true (by kernel_rfl)) (by unfold Func.isWrapper; first | (rw [if_pos (by decide +kernel)]; kernel_rfl) | (rw [if_neg (by decide +kernel)]; exact ⟨rfl, rfl⟩))
    (fun os started H enc _ => lifted os started H enc)

end Go.Proofs.Ytjnljmembnlebag.fnExactSetOf
namespace Go.Proofs.Ytjnljmembnlebag
theorem fnExactSetOf_holds : Rows.FnExactSetOfSaid := fnExactSetOf.over
#print axioms fnExactSetOf_holds
end Go.Proofs.Ytjnljmembnlebag
