/-
  CONTRACT: (impl.grantMap).linked: the sets of the roles of one name, of all owners in a set, joined.
  Conditions: each contract bears its own.
  CONTRACTS on rules in impl: bodyOf; the type switch.
  Conditions: each contract bears its own.
  CONTRACT: (impl.grantMap).told: whom a rule gives its head, by what is in the map.
  Conditions: each contract bears its own.
-/
import Derived.Test.YtocdclgolhhckaaPk09
import Derived.RegionIn
import Derived.BigRegionIn
import Derived.Test.YtocdclgolhhckaaPk03
import Derived.Deep.RegionHeld3
import Derived.Deep.RegionWith
namespace Go.Proofs.Ytocdclgolhhckaa
open Go.RowKit Go.Shelf Go.Maps
attribute [local go_sem] Oper.semAt_some
attribute [local go_sem] wide_fn
set_option linter.unusedVariables false
set_option linter.unusedSimpArgs false

/-- The sets joined so far. -/
def accL (f : RoI → Int) (nm : Int) (pre : List P8) : Int := (pre.map (·.1)).foldl (fun o y => orI o (f (y, nm))) 0

theorem accL_snoc (f : RoI → Int) (nm : Int) (pre : List P8) (x : P8) : accL f nm (pre ++ [x]) = orI (accL f nm pre) (f (x.1, nm)) := by
  simp [accL, List.foldl_append]

theorem accL_set {f : RoI → Int} (hf : FN f) (nm : Int) (pre : List P8) : setB (accL f nm pre) := by
  unfold accL
  exact (link_fold hf.st nm _ 0 ⟨by omega, by omega⟩).1

set_option maxRecDepth 100000 in
set_option maxHeartbeats 2000000 in
theorem linked_w (n : Nat) (hn : 3 ≤ n) (b : Nat) (f : RoI → Int) (s nm : Int) (w : World) (h : GM w b f) (hs : setB s) (n0 : 1 ≤ nm) (n1 : nm ≤ 5) :
    CallsIn Fence.wide n Try.prog 124 #[.map (some b), .int .u8 s, .int .i64 nm] w fun e W' => e = .returned (.int .u8 (linkTo f nm (listTo s 8) (listTo s 8).length)) ∧ Below w.heap.size w W' := by
  have h1 : 1 ≤ n := by omega
  have s0 := hs.1
  have s1 := hs.2
  have hfn := h.fn
  have hlt := h.lt
  refine callsIn_of_wp_marks Try.func124 rfl trivial ?_ rfl
  simp only [Try.ntmps124, List.size_toArray, List.length_cons, List.length_nil, Nat.reduceAdd, Nat.reduceSub, Array.replicate_succ, Array.replicate_zero, List.push_toArray, List.append_toArray, List.nil_append, List.cons_append]
  gi_wp2_with (gi_at_call 133; refine (prin_in _ _ _).mono ?_; rintro e w' ⟨rfl, rfl⟩)
  have bM := Boxed.new w 88 (.map (some b))
  have bN := Boxed.new (w.alloc (.cells #[.map (some b)] 88)) 2 (.int .i64 nm)
  rw [World.size_alloc] at bN
  have bA := Boxed.new ((w.alloc (.cells #[.map (some b)] 88)).alloc (.cells #[.int .i64 nm] 2)) 86 (.int .u8 0)
  rw [World.size_alloc, World.size_alloc] at bA
  have bS := Boxed.new (((w.alloc (.cells #[.map (some b)] 88)).alloc (.cells #[.int .i64 nm] 2)).alloc (.cells #[.int .u8 0] 86)) 86 (.int .u8 s)
  rw [World.size_alloc, World.size_alloc, World.size_alloc] at bS
  have bM' := ((bM.alloc (.cells #[.int .i64 nm] 2)).alloc (.cells #[.int .u8 0] 86)).alloc (.cells #[.int .u8 s] 86)
  have bN' := (bN.alloc (.cells #[.int .u8 0] 86)).alloc (.cells #[.int .u8 s] 86)
  have bA' := bA.alloc (.cells #[.int .u8 s] 86)
  obtain ⟨W0, hW0⟩ : ∃ W0, (((w.alloc (.cells #[.map (some b)] 88)).alloc (.cells #[.int .i64 nm] 2)).alloc (.cells #[.int .u8 0] 86)).alloc (.cells #[.int .u8 s] 86) = W0 := ⟨_, rfl⟩
  have hsz : W0.heap.size = w.heap.size + 4 := by rw [← hW0]; simp
  have hB0 : Below w.heap.size w W0 := by rw [← hW0]; exact ((((Below.refl _ w).alloc (Nat.le_refl _) _).alloc (by simp) _).alloc (by simp; omega) _).alloc (by simp; omega) _
  rw [hW0] at bS bA' bM' bN' ⊢
  have HB0 : Hid (Below w.heap.size w W0) := hB0
  have hG0 := h.below hlt hB0
  clear bA bM bN hW0 hB0
  refine wpIn_rangeFunc_ownG rfl h1 (gf := 141) (lb := #[.pointer (some ⟨w.heap.size + 1 + 1 + 1, 0, none⟩)]) rfl trivial (enters_of Try.func141 (by kernel_rfl) rfl)
    (prin_stops8 (n - 1) (by omega) (w.heap.size + 1 + 1 + 1) s s0 s1 W0 (by omega) bS.cell) (Kp := KeepBox (w.heap.size + 1 + 1 + 1)) (fun h k => Eq.trans k h) (fun W l o o' hl h _ _ => World.putObj_heap_other (by omega)) (Below.refl _ _) (fun _ => rfl)
    (fun pre W => (Boxed W (w.heap.size + 1 + 1) 86 (.int .u8 (accL f nm pre)) ∧ Boxed W (w.heap.size + 1 + 1 + 1) 86 (.int .u8 s)) ∧ Below (w.heap.size + 1 + 1) W0 W)
    (fun _ _ _ => False)
    (OwnFrom.and (OwnFrom.and (Own.from (boxed_own _ _ (fun pre => .int .u8 (accL f nm pre))) _) (Own.from (boxed_own _ _ (fun _ => .int .u8 s)) _)) (ownFrom_below (by omega) (by omega)))
    (fun _ _ _ _ _ hs _ _ => hs)
    ⟨⟨bA', bS⟩, Below.refl _ _⟩
    (fun x => { tmps := #[.map (some b), .int .u8 s, .int .i64 nm, .pointer (some ⟨w.heap.size, 0, none⟩), undef, .pointer (some ⟨w.heap.size + 1, 0, none⟩), .int .u8 0, .pointer (some ⟨w.heap.size + 1 + 1, 0, none⟩), .int .i64 x.1, .int .u8 s, .func (.func 141) #[] #[.pointer (some ⟨w.heap.size + 1 + 1 + 1, 0, none⟩)], .int .i64 x.1, undef, undef, undef, undef, undef, undef, undef, undef], defers := [] }) ?assign ?body ?done ?stop
  case assign =>
    intro l x W K hK
    gi_wp2
    exact hK
  case body =>
    rintro l pre x W ⟨⟨hA, hS⟩, hB⟩ hlt'
    have cA : W.drew.cell? ⟨w.heap.size + 1 + 1, 0, none⟩ = some (.int .u8 (accL f nm pre)) := hA.cell
    have fA : W.drew.frozen? ⟨w.heap.size + 1 + 1, 0, none⟩ = false := hA.frozen
    have cM : W.drew.cell? ⟨w.heap.size, 0, none⟩ = some (.map (some b)) := (hB.cell (p := ⟨w.heap.size, 0, none⟩) (by simp; omega)).trans bM'.cell
    have cN : W.drew.cell? ⟨w.heap.size + 1, 0, none⟩ = some (.int .i64 nm) := (hB.cell (p := ⟨w.heap.size + 1, 0, none⟩) (by simp)).trans bN'.cell
    have hG := hG0.below (k := w.heap.size + 1 + 1) (by omega) hB
    have hlk : (Instr.lookup 88 (.map (some b)) (.agg #[.int .i64 x.1, .int .i64 nm]) false).run Try.prog W.drew = .ok (.int .u8 (f (x.1, nm))) W.drew := gm_look (w := W.drew) (gm_heap hG rfl) (r := (x.1, nm)) (roW_of (by have := x.2; simp [roleB, prinB, nameB]; omega))
    have hor : bits .or .u8 (accL f nm pre) (f (x.1, nm)) = accL f nm (pre ++ [x]) := by rw [accL_snoc]; exact u8_or _ _ (accL_set hfn nm pre) (hfn.st _)
    have hA' : Boxed W.drew (w.heap.size + 1 + 1) 86 (.int .u8 (accL f nm pre)) := hA
    have hS' : Boxed W.drew (w.heap.size + 1 + 1 + 1) 86 (.int .u8 s) := hS
    gi_wp2
    gi_region
    all_goals exact ⟨((KeepsOthers.drew W).trans (KeepsOthers.setCell W.drew ⟨w.heap.size + 1 + 1, 0, none⟩ _)).from _, (hS'.other (by omega) _).trans hS.symm, ⟨hA'.set _, hS'.other (by omega) _⟩, (hB.drew).setCell (p := ⟨w.heap.size + 1 + 1, 0, none⟩) (Nat.le_refl _) _⟩
  case done =>
    rintro D ys W hD hys ⟨⟨hA, _⟩, hB⟩ hK
    have cA := hA.cell
    gi_wp2
    refine ⟨by simp, .inl ⟨_, _, rfl, run_takeDeferred hK, ?_⟩⟩
    refine ⟨.int .u8 (accL f nm ys), ?res, ?val, ?below⟩
    case res => simp [results, Try.results124, go_sem]
    case val =>
      have : accL f nm ys = linkTo f nm (listTo s 8) (listTo s 8).length := by
        unfold accL linkTo
        rw [List.take_length, hys]
      rw [this]
    case below => exact (HB0.out.trans (hB.mono (by omega))).trans (belowK_b (w := w) (Nat.le_refl _) _ D _ _ (by omega) hK rfl rfl)
  case stop =>
    rintro D c pre W _ _ h _
    exact h.elim

theorem linked_c (b : Nat) (f : RoI → Int) (s nm : Int) (w : World) (h : GM w b f) (hs : setB s) (n0 : 1 ≤ nm) (n1 : nm ≤ 5) :
    Calls Try.prog 124 #[.map (some b), .int .u8 s, .int .i64 nm] w fun e W' => e = .returned (.int .u8 (linkTo f nm (listTo s 8) (listTo s 8).length)) ∧ Below w.heap.size w W' :=
  callsIn_wide.1 (linked_w 3 (Nat.le_refl _) b f s nm w h hs n0 n1)

end Go.Proofs.Ytocdclgolhhckaa

namespace Go.Proofs.Ytocdclgolhhckaa
open Go.RowKit
set_option linter.unusedVariables false
set_option linter.unusedSimpArgs false

set_option maxHeartbeats 400000 in
theorem bodyOf_1 (r : RuleI) (h : r.k = 1) (w : World) :
    Calls Try.prog 120 #[.agg #[.int .i64 r.k, .int .i64 r.ho, .int .i64 r.hn, .int .i64 r.w, .int .i64 r.oo, .int .i64 r.on, .int .i64 r.to, .int .i64 r.tn]] w fun e w' =>
      e = .returned (.iface 161 (.agg #[.int .i64 r.w])) ∧ Below w.heap.size w w' := by
  go_enter Try.func120, Try.ntmps120
  go_wp2
  go_ret
  exact ⟨rfl, by go_grown⟩

set_option maxHeartbeats 400000 in
theorem bodyOf_2 (r : RuleI) (h : r.k = 2) (w : World) :
    Calls Try.prog 120 #[.agg #[.int .i64 r.k, .int .i64 r.ho, .int .i64 r.hn, .int .i64 r.w, .int .i64 r.oo, .int .i64 r.on, .int .i64 r.to, .int .i64 r.tn]] w fun e w' =>
      e = .returned (.iface 163 (.agg #[.int .i64 r.oo, .int .i64 r.on])) ∧ Below w.heap.size w w' := by
  go_enter Try.func120, Try.ntmps120
  go_wp2
  go_ret
  exact ⟨rfl, by go_grown⟩

set_option maxHeartbeats 400000 in
theorem bodyOf_3 (r : RuleI) (h : r.k = 3) (w : World) :
    Calls Try.prog 120 #[.agg #[.int .i64 r.k, .int .i64 r.ho, .int .i64 r.hn, .int .i64 r.w, .int .i64 r.oo, .int .i64 r.on, .int .i64 r.to, .int .i64 r.tn]] w fun e w' =>
      e = .returned (.iface 165 (.agg #[.int .i64 r.oo, .int .i64 r.on, .int .i64 r.tn])) ∧ Below w.heap.size w w' := by
  go_enter Try.func120, Try.ntmps120
  go_wp2
  go_ret
  exact ⟨rfl, by go_grown⟩

set_option maxHeartbeats 400000 in
theorem bodyOf_4 (r : RuleI) (h : r.k = 4) (w : World) :
    Calls Try.prog 120 #[.agg #[.int .i64 r.k, .int .i64 r.ho, .int .i64 r.hn, .int .i64 r.w, .int .i64 r.oo, .int .i64 r.on, .int .i64 r.to, .int .i64 r.tn]] w fun e w' =>
      e = .returned (.iface 168 (.agg #[.int .i64 r.oo, .int .i64 r.on, .int .i64 r.to, .int .i64 r.tn])) ∧ Below w.heap.size w w' := by
  go_enter Try.func120, Try.ntmps120
  go_wp2
  go_ret
  exact ⟨rfl, by go_grown⟩

set_option maxHeartbeats 400000 in
theorem bodyOf_0 (r : RuleI) (h : ¬ (1 ≤ r.k ∧ r.k ≤ 4)) (w : World) :
    Calls Try.prog 120 #[.agg #[.int .i64 r.k, .int .i64 r.ho, .int .i64 r.hn, .int .i64 r.w, .int .i64 r.oo, .int .i64 r.on, .int .i64 r.to, .int .i64 r.tn]] w fun e w' =>
      e = .returned .nilIface ∧ Below w.heap.size w w' := by
  have h1 : (r.k == 1) = false := by simp; omega
  have h2 : (r.k == 2) = false := by simp; omega
  have h3 : (r.k == 3) = false := by simp; omega
  have h4 : (r.k == 4) = false := by simp; omega
  clear h
  go_enter Try.func120, Try.ntmps120
  go_wp2
  go_ret
  exact ⟨rfl, by go_grown⟩

theorem bcell2 {W w1 : World} (hb : Below W.heap.size W w1) : (∀ b o, b < W.heap.size → w1.cell? ⟨b, o, none⟩ = W.cell? ⟨b, o, none⟩) ∧ (∀ b o, b < W.heap.size → w1.frozen? ⟨b, o, none⟩ = W.frozen? ⟨b, o, none⟩) :=
  ⟨fun b o h => hb.cell (p := ⟨b, o, none⟩) h, fun b o h => hb.frozen (p := ⟨b, o, none⟩) h⟩

/-! The type switch: which body it is. -/
theorem ta11 (cs : Array Value) (w : World) : (Instr.typeAssert (.iface 161 (.agg cs)) 155 161 true).run Try.prog w = .ok (.tuple #[.agg cs, .bool true]) w := by kernel_rfl
theorem ta12 (cs : Array Value) (w : World) : (Instr.typeAssert (.iface 161 (.agg cs)) 155 163 true).run Try.prog w = .ok (.tuple #[.agg #[.int .i64 0, .int .i64 0], .bool false]) w := by kernel_rfl
theorem ta13 (cs : Array Value) (w : World) : (Instr.typeAssert (.iface 161 (.agg cs)) 155 165 true).run Try.prog w = .ok (.tuple #[.agg #[.int .i64 0, .int .i64 0, .int .i64 0], .bool false]) w := by kernel_rfl
theorem ta14 (cs : Array Value) (w : World) : (Instr.typeAssert (.iface 161 (.agg cs)) 155 168 true).run Try.prog w = .ok (.tuple #[.agg #[.int .i64 0, .int .i64 0, .int .i64 0, .int .i64 0], .bool false]) w := by kernel_rfl
theorem ta21 (cs : Array Value) (w : World) : (Instr.typeAssert (.iface 163 (.agg cs)) 155 161 true).run Try.prog w = .ok (.tuple #[.agg #[.int .i64 0], .bool false]) w := by kernel_rfl
theorem ta22 (cs : Array Value) (w : World) : (Instr.typeAssert (.iface 163 (.agg cs)) 155 163 true).run Try.prog w = .ok (.tuple #[.agg cs, .bool true]) w := by kernel_rfl
theorem ta23 (cs : Array Value) (w : World) : (Instr.typeAssert (.iface 163 (.agg cs)) 155 165 true).run Try.prog w = .ok (.tuple #[.agg #[.int .i64 0, .int .i64 0, .int .i64 0], .bool false]) w := by kernel_rfl
theorem ta24 (cs : Array Value) (w : World) : (Instr.typeAssert (.iface 163 (.agg cs)) 155 168 true).run Try.prog w = .ok (.tuple #[.agg #[.int .i64 0, .int .i64 0, .int .i64 0, .int .i64 0], .bool false]) w := by kernel_rfl
theorem ta31 (cs : Array Value) (w : World) : (Instr.typeAssert (.iface 165 (.agg cs)) 155 161 true).run Try.prog w = .ok (.tuple #[.agg #[.int .i64 0], .bool false]) w := by kernel_rfl
theorem ta32 (cs : Array Value) (w : World) : (Instr.typeAssert (.iface 165 (.agg cs)) 155 163 true).run Try.prog w = .ok (.tuple #[.agg #[.int .i64 0, .int .i64 0], .bool false]) w := by kernel_rfl
theorem ta33 (cs : Array Value) (w : World) : (Instr.typeAssert (.iface 165 (.agg cs)) 155 165 true).run Try.prog w = .ok (.tuple #[.agg cs, .bool true]) w := by kernel_rfl
theorem ta34 (cs : Array Value) (w : World) : (Instr.typeAssert (.iface 165 (.agg cs)) 155 168 true).run Try.prog w = .ok (.tuple #[.agg #[.int .i64 0, .int .i64 0, .int .i64 0, .int .i64 0], .bool false]) w := by kernel_rfl
theorem ta41 (cs : Array Value) (w : World) : (Instr.typeAssert (.iface 168 (.agg cs)) 155 161 true).run Try.prog w = .ok (.tuple #[.agg #[.int .i64 0], .bool false]) w := by kernel_rfl
theorem ta42 (cs : Array Value) (w : World) : (Instr.typeAssert (.iface 168 (.agg cs)) 155 163 true).run Try.prog w = .ok (.tuple #[.agg #[.int .i64 0, .int .i64 0], .bool false]) w := by kernel_rfl
theorem ta43 (cs : Array Value) (w : World) : (Instr.typeAssert (.iface 168 (.agg cs)) 155 165 true).run Try.prog w = .ok (.tuple #[.agg #[.int .i64 0, .int .i64 0, .int .i64 0], .bool false]) w := by kernel_rfl
theorem ta44 (cs : Array Value) (w : World) : (Instr.typeAssert (.iface 168 (.agg cs)) 155 168 true).run Try.prog w = .ok (.tuple #[.agg cs, .bool true]) w := by kernel_rfl
theorem below_new3 {w w1 : World} {o1 o2 o3 : Obj} (h : Below (((w.alloc o1).alloc o2).alloc o3).heap.size (((w.alloc o1).alloc o2).alloc o3) w1) : Below w.heap.size w w1 := below_new (below_new (below_new h))

end Go.Proofs.Ytocdclgolhhckaa

namespace Go.Proofs.Ytocdclgolhhckaa
open Go.RowKit Go.Maps
set_option linter.unusedVariables false
set_option linter.unusedSimpArgs false

attribute [local go_sem] ta11 ta12 ta13 ta14 ta21 ta22 ta23 ta24 ta31 ta32 ta33 ta34 ta41 ta42 ta43 ta44

theorem look_gm (w : World) {ops : Array Oper} {rest : List Oper} {o : Oper} {a : Act} {Q : Exit → Act → World → Prop} (hg : o.guard = none) (m x : Operand) (hop : o.op = Op.lookup 88 m x false)
    (b : Nat) (f : RoI → Int) (r : RoI) (hm : a.eval m = .map (some b)) (hx : a.eval x = .agg #[.int .i64 r.1, .int .i64 r.2]) {w1 : World} (hG : GM w1 b f) (hB : Below w1.heap.size w1 w) (hr : roW r)
    (hK : wpList Try.prog ops Q rest (a.put o.dst (.int .u8 (f r))) w) : wpList Try.prog ops Q (o :: rest) a w := by
  refine wpList_plain hg fun K' hK' => ?_
  have hrun := gm_look (hG.below hG.lt hB) hr
  unfold Oper.wp
  simp only [roV] at hrun
  simp [execOp, hop, hm, hx, hrun, Result.andThen]
  exact hK' _ _ hK

theorem bn_new {w w1 : World} {o : Obj} (h : Below (w.alloc o).heap.size (w.alloc o) w1) : Below w.heap.size w w1 := ((Below.refl _ _).alloc (Nat.le_refl _) _).trans (h.mono (by simp))

theorem rule_has {r : RuleI} (h : ruleCode r = 0) : 1 ≤ r.k ∧ r.k ≤ 4 ∧ roleB r.ho r.hn = true ∧ hasB r = true := by
  unfold ruleCode at h
  split at h
  · cases h
  · rename_i h1
    split at h
    · cases h
    · rename_i h2
      split at h
      · cases h
      · split at h
        · cases h
        · rename_i h4
          exact ⟨by omega, by omega, by simpa using h2, by simpa using h4⟩


set_option maxRecDepth 100000 in
set_option maxHeartbeats 400000 in
theorem told_1 (b : Nat) (f : RoI → Int) (r : RuleI) (w : World) (h : GM w b f) (hc : ruleCode r = 0) (e1 : r.k = 1) :
    Calls Try.prog 101 #[.map (some b), .agg #[.int .i64 r.k, .int .i64 r.ho, .int .i64 r.hn, .int .i64 r.w, .int .i64 r.oo, .int .i64 r.on, .int .i64 r.to, .int .i64 r.tn]] w fun e w' => e = .returned (.int .u8 (byF f r)) ∧ Below w.heap.size w w' := by
  have hh := (rule_has hc).2.2.2
  have hp : 1 ≤ r.w ∧ r.w ≤ 8 := by simpa [hasB, e1, prinB] using hh
  have eb : byF f r = bitI r.w := by simp [byF, e1]
  rw [eb]
  have E1 : Hid _ := e1
  clear hh eb hc e1
  go_enter Try.func101, Try.ntmps101
  go_wp2_with (first | (go_at_call 120; refine (bodyOf_1 r E1.out _).mono ?_; rintro e w1 ⟨rfl, hb0⟩; have hb := bn_new hb0; clear hb0) | (go_at_call 79; refine (bitOf_c r.w hp.1 hp.2 _).mono ?_; rintro e w2 ⟨rfl, rfl⟩) | go_in)
  go_ret
  exact ⟨rfl, hb.alloc hb.size _⟩

set_option maxRecDepth 100000 in
set_option maxHeartbeats 400000 in
theorem told_2 (b : Nat) (f : RoI → Int) (r : RuleI) (w : World) (h : GM w b f) (hc : ruleCode r = 0) (e1 : r.k = 2) :
    Calls Try.prog 101 #[.map (some b), .agg #[.int .i64 r.k, .int .i64 r.ho, .int .i64 r.hn, .int .i64 r.w, .int .i64 r.oo, .int .i64 r.on, .int .i64 r.to, .int .i64 r.tn]] w fun e w' => e = .returned (.int .u8 (byF f r)) ∧ Below w.heap.size w w' := by
  have hh := (rule_has hc).2.2.2
  have hp : roleB r.oo r.on = true := by simpa [hasB, e1] using hh
  have eb : byF f r = f (r.oo, r.on) := by simp [byF, e1]
  rw [eb]
  have E1 : Hid _ := e1
  clear hh eb hc e1
  go_enter Try.func101, Try.ntmps101
  go_wp2_with (first | (go_at_call 120; refine (bodyOf_2 r E1.out _).mono ?_; rintro e w1 ⟨rfl, hb0⟩; have hb := bn_new hb0; clear hb0) | (at_lookup; refine look_gm _ rfl _ _ rfl b f (r.oo, r.on) rfl rfl h (hb.alloc hb.size _) (roW_of hp) ?_) | go_in)
  go_ret
  exact ⟨rfl, hb.alloc hb.size _⟩


set_option maxRecDepth 100000 in
set_option maxHeartbeats 400000 in
theorem told_3 (b : Nat) (f : RoI → Int) (r : RuleI) (w : World) (h : GM w b f) (hc : ruleCode r = 0) (e1 : r.k = 3) :
    Calls Try.prog 101 #[.map (some b), .agg #[.int .i64 r.k, .int .i64 r.ho, .int .i64 r.hn, .int .i64 r.w, .int .i64 r.oo, .int .i64 r.on, .int .i64 r.to, .int .i64 r.tn]] w fun e w' => e = .returned (.int .u8 (byF f r)) ∧ Below w.heap.size w w' := by
  have hh := (rule_has hc).2.2.2
  have hp : roleB r.oo r.on = true ∧ 1 ≤ r.tn ∧ r.tn ≤ 5 := by simpa [hasB, e1, nameB] using hh
  have eb : byF f r = linkTo f r.tn (listTo (f (r.oo, r.on)) 8) (listTo (f (r.oo, r.on)) 8).length := by simp [byF, e1]
  rw [eb]
  have E1 : Hid _ := e1
  clear hh eb hc e1
  go_enter Try.func101, Try.ntmps101
  go_wp2_with (first | (go_at_call 120; refine (bodyOf_3 r E1.out _).mono ?_; rintro e w1 ⟨rfl, hb0⟩; have hb := bn_new hb0; clear hb0) | go_in)
  have hB1 := hb.alloc hb.size (.cells #[.int .i64 r.oo, .int .i64 r.on, .int .i64 r.tn] 165)
  have hG1 := h.below h.lt hB1
  have hl := gm_look (w := (w1.alloc (.cells #[.int .i64 r.oo, .int .i64 r.on, .int .i64 r.tn] 165)).drew) (gm_heap hG1 rfl) (roW_of (r := (r.oo, r.on)) hp.1)
  simp only [roV] at hl
  have HG : Hid (GM (w1.alloc (.cells #[.int .i64 r.oo, .int .i64 r.on, .int .i64 r.tn] 165)).drew b f) := gm_heap hG1 rfl
  have HB : Hid (Below w.heap.size w (w1.alloc (.cells #[.int .i64 r.oo, .int .i64 r.on, .int .i64 r.tn] 165)).drew) := hB1.drew
  have HS : Hid (setB (f (r.oo, r.on))) := h.fn.st _
  clear hB1 hG1 h hb
  go_region_with (first | (go_at_call 124; refine (linked_c b f (f (r.oo, r.on)) r.tn _ HG.out HS.out hp.2.1 hp.2.2).mono ?_; rintro e w2 ⟨rfl, hb2⟩))
  all_goals go_wp2
  all_goals go_ret
  all_goals exact ⟨rfl, HB.out.trans (hb2.mono HB.out.size)⟩

set_option maxRecDepth 100000 in
set_option maxHeartbeats 400000 in
theorem told_4 (b : Nat) (f : RoI → Int) (r : RuleI) (w : World) (h : GM w b f) (hc : ruleCode r = 0) (e1 : r.k = 4) :
    Calls Try.prog 101 #[.map (some b), .agg #[.int .i64 r.k, .int .i64 r.ho, .int .i64 r.hn, .int .i64 r.w, .int .i64 r.oo, .int .i64 r.on, .int .i64 r.to, .int .i64 r.tn]] w fun e w' => e = .returned (.int .u8 (byF f r)) ∧ Below w.heap.size w w' := by
  have hh := (rule_has hc).2.2.2
  have hp : roleB r.oo r.on = true ∧ roleB r.to r.tn = true := by simpa [hasB, e1] using hh
  have eb : byF f r = bits .and .u8 (f (r.oo, r.on)) (f (r.to, r.tn)) := by simp [byF, e1, u8_and _ _ (h.fn.st _) (h.fn.st _)]
  rw [eb]
  have E1 : Hid _ := e1
  clear hh eb hc e1
  go_enter Try.func101, Try.ntmps101
  go_wp2_with (first | (go_at_call 120; refine (bodyOf_4 r E1.out _).mono ?_; rintro e w1 ⟨rfl, hb0⟩; have hb := bn_new hb0; clear hb0) | go_in)
  have hB1 := hb.alloc hb.size (.cells #[.int .i64 r.oo, .int .i64 r.on, .int .i64 r.to, .int .i64 r.tn] 168)
  have hG1 := h.below h.lt hB1
  have hl1 := fun m => gm_look (w := (w1.alloc (.cells #[.int .i64 r.oo, .int .i64 r.on, .int .i64 r.to, .int .i64 r.tn] 168)).drewN m) (gm_heap hG1 rfl) (roW_of (r := (r.oo, r.on)) hp.1)
  have hl2 := fun m => gm_look (w := (w1.alloc (.cells #[.int .i64 r.oo, .int .i64 r.on, .int .i64 r.to, .int .i64 r.tn] 168)).drewN m) (gm_heap hG1 rfl) (roW_of (r := (r.to, r.tn)) hp.2)
  simp only [roV] at hl1 hl2
  have HB : Hid (Below w.heap.size w (w1.alloc (.cells #[.int .i64 r.oo, .int .i64 r.on, .int .i64 r.to, .int .i64 r.tn] 168))) := hB1
  clear hB1 hG1 h hb
  go_quiet (fail)
  go_wp2
  go_ret
  exact ⟨rfl, bdN HB.out _⟩

end Go.Proofs.Ytocdclgolhhckaa
