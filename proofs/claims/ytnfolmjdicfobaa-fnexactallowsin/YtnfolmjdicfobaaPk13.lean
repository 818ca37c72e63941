/-
  PLAIN WORDS on which sets the parts of a form tell, and on the least of them. No Go text is walked here.
  Conditions: each fact bears its own.
  CONTRACT: impl.together.
  Conditions: each contract bears its own.
  THE MAP OF GRANTS: what a block that holds it reads as, its look-ups, what is written at a key, in the words of the maps' library. No Go text is walked here.
  Conditions: each fact bears its own.
-/
import Derived.Test.YtnfolmjdicfobaaPk03
import Derived.Test.YtnfolmjdicfobaaPk12
import Derived.Deep.WholeRow
import Derived.Maps.Own
import Derived.Maps.OwnSet
import Derived.Maps.Ext
import Derived.Maps.RangeWalk
import Derived.DeepKeys4
import Derived.WideKeyEntry
namespace Go.Proofs.Ytnfolmjdicfobaa
open Go.RowKit
set_option linter.unusedVariables false
set_option linter.unusedSimpArgs false

/-- Which of the 256 sets are told. -/
abbrev TS := Nat → Bool
def noT : TS := fun _ => false
def putT (T : TS) (x : Nat) : TS := fun y => if y = x then true else T y
def oneT (s : Int) : TS := fun x => (List.range 8).any fun p => (x == 2 ^ p) && hasI s ((p : Int) + 1)
def okAB (ap : Bool) (a b : Nat) : Bool := !(ap && (a &&& b != 0))
def bothT (ap : Bool) (L R : TS) : TS := fun x => (List.range 256).any fun a => L a && (List.range 256).any fun b => R b && okAB ap a b && (a ||| b == x)

theorem bothT_iff {ap : Bool} {L R : TS} {x : Nat} : bothT ap L R x = true ↔ ∃ a b, a < 256 ∧ b < 256 ∧ L a = true ∧ R b = true ∧ okAB ap a b = true ∧ a ||| b = x := by
  unfold bothT
  rw [List.any_eq_true]
  constructor
  · rintro ⟨a, ha, h⟩
    rw [Bool.and_eq_true, List.any_eq_true] at h
    obtain ⟨hL, b, hb, h⟩ := h
    rw [Bool.and_eq_true, Bool.and_eq_true] at h
    exact ⟨a, b, List.mem_range.1 ha, List.mem_range.1 hb, hL, h.1.1, h.1.2, by simpa using h.2⟩
  · rintro ⟨a, b, ha, hb, hL, hR, ho, rfl⟩
    refine ⟨a, List.mem_range.2 ha, ?_⟩
    rw [Bool.and_eq_true, List.any_eq_true]
    exact ⟨hL, b, List.mem_range.2 hb, by simp [hR, ho]⟩

/-- What two loops have put so far. -/
def Both (ap : Bool) (L R : TS) (i j : Nat) (T : TS) : Prop := ∀ x, x < 256 → (T x = true ↔ ∃ a b, (a < i ∨ a = i ∧ b < j) ∧ a < 256 ∧ b < 256 ∧ L a = true ∧ R b = true ∧ okAB ap a b = true ∧ a ||| b = x)

theorem both_start (ap : Bool) (L R : TS) : Both ap L R 0 0 noT := by
  intro x hx
  constructor
  · intro h; cases h
  · rintro ⟨a, b, h, _⟩; omega

theorem both_skip {ap : Bool} {L R : TS} {i j : Nat} {T : TS} (h : Both ap L R i j T) (hl : L i = false) : Both ap L R (i + 1) 0 T := by
  intro x hx
  rw [h x hx]
  constructor
  · rintro ⟨a, b, h0, h1⟩
    exact ⟨a, b, by omega, h1⟩
  · rintro ⟨a, b, h0, h1, h2, h3, h4⟩
    have : a ≠ i := fun e => by rw [e, hl] at h3; cases h3
    exact ⟨a, b, by omega, h1, h2, h3, h4⟩

theorem both_next {ap : Bool} {L R : TS} {i : Nat} {T : TS} (h : Both ap L R i 256 T) : Both ap L R (i + 1) 0 T := by
  intro x hx
  rw [h x hx]
  constructor
  · rintro ⟨a, b, h0, h1⟩
    exact ⟨a, b, by omega, h1⟩
  · rintro ⟨a, b, h0, h1, h2, h3⟩
    exact ⟨a, b, by omega, h1, h2, h3⟩

theorem both_no {ap : Bool} {L R : TS} {i j : Nat} {T : TS} (h : Both ap L R i j T) (hn : (R j && okAB ap i j) = false) : Both ap L R i (j + 1) T := by
  intro x hx
  rw [h x hx]
  constructor
  · rintro ⟨a, b, h0, h1⟩
    exact ⟨a, b, by omega, h1⟩
  · rintro ⟨a, b, h0, h1, h2, h3, h4, h5, h6⟩
    have : ¬ (a = i ∧ b = j) := by
      rintro ⟨rfl, rfl⟩
      rw [h4, h5] at hn; cases hn
    exact ⟨a, b, by omega, h1, h2, h3, h4, h5, h6⟩

theorem both_put {ap : Bool} {L R : TS} {i j : Nat} {T : TS} (h : Both ap L R i j T) (hi : i < 256) (hj : j < 256) (hL : L i = true) (hn : (R j && okAB ap i j) = true) : Both ap L R i (j + 1) (putT T (i ||| j)) := by
  rw [Bool.and_eq_true] at hn
  intro x hx
  unfold putT
  by_cases e : x = i ||| j
  · rw [if_pos e]
    exact ⟨fun _ => ⟨i, j, by omega, hi, hj, hL, hn.1, hn.2, e.symm⟩, fun _ => rfl⟩
  · rw [if_neg e, h x hx]
    constructor
    · rintro ⟨a, b, h0, h1⟩
      exact ⟨a, b, by omega, h1⟩
    · rintro ⟨a, b, h0, h1, h2, h3, h4, h5, h6⟩
      have : ¬ (a = i ∧ b = j) := by
        rintro ⟨rfl, rfl⟩
        exact e h6.symm
      exact ⟨a, b, by omega, h1, h2, h3, h4, h5, h6⟩

theorem both_end {ap : Bool} {L R : TS} {j : Nat} {T : TS} (h : Both ap L R 256 j T) : ∀ x, x < 256 → T x = bothT ap L R x := by
  intro x hx
  rw [Bool.eq_iff_iff, h x hx, bothT_iff]
  constructor
  · rintro ⟨a, b, h0, h1⟩
    exact ⟨a, b, h1⟩
  · rintro ⟨a, b, h1, h2, h3⟩
    exact ⟨a, b, .inl h1, h1, h2, h3⟩

/-- The first principals of a set, each alone. -/
def oneTo (s : Int) (k : Nat) : TS := fun x => (List.range k).any fun p => (x == 2 ^ p) && hasI s ((p : Int) + 1)
theorem oneTo_next (s : Int) (k : Nat) : oneTo s (k + 1) = if hasI s ((k : Int) + 1) = true then putT (oneTo s k) (2 ^ k) else oneTo s k := by
  funext x
  have e0 : oneTo s (k + 1) x = (oneTo s k x || ((x == 2 ^ k) && hasI s ((k : Int) + 1))) := by
    unfold oneTo
    rw [List.range_succ, List.any_append]
    simp only [List.any_cons, List.any_nil, Bool.or_false]
  rw [e0]
  cases h : hasI s ((k : Int) + 1)
  · rw [Bool.and_false, Bool.or_false, if_neg (by simp)]
  · rw [Bool.and_true, if_pos rfl]
    unfold putT
    by_cases e : x = 2 ^ k
    · rw [if_pos e, e]; simp
    · rw [if_neg e, show (x == 2 ^ k) = false by simpa using e, Bool.or_false]

/-- The 256 cells. -/
def arrT (T : TS) : Array Value := ((List.range 256).map fun i => Value.bool (T i)).toArray

theorem arrT_size (T : TS) : (arrT T).size = 256 := by simp [arrT]
theorem arrT_at (T : TS) {i : Nat} (h : i < 256) : (arrT T)[i]? = some (.bool (T i)) := by simp [arrT, h]
theorem arrT_ext {T U : TS} (h : ∀ x, x < 256 → T x = U x) : arrT T = arrT U := by
  unfold arrT
  congr 1
  apply List.map_congr_left
  intro x hx
  rw [h x (List.mem_range.1 hx)]
theorem arrT_put (T : TS) {i : Nat} (h : i < 256) : (arrT T).setIfInBounds i (.bool true) = arrT (putT T i) := by
  apply Array.ext_getElem?
  intro j
  rw [Array.getElem?_setIfInBounds]
  by_cases hj : j < 256
  · by_cases e : i = j
    · subst e
      rw [if_pos rfl, if_pos (by rw [arrT_size]; exact h), arrT_at _ h]; simp [putT]
    · rw [if_neg e, arrT_at _ hj, arrT_at _ hj]; simp [putT, show ¬ j = i from fun q => e q.symm]
  · rw [if_neg (by omega), Array.getElem?_eq_none (by rw [arrT_size]; omega), Array.getElem?_eq_none (by rw [arrT_size]; omega)]
theorem arrT_cells (T : TS) : (arrT T).all (·.oneCell') = true := by
  rw [Array.all_eq_true']
  intro v hv
  simp [arrT] at hv
  obtain ⟨i, _, rfl⟩ := hv
  rfl

/-- What a part tells, out of what the parts ahead tell. -/
def tellOne (f : RoI → Int) (ts : List TS) (p : PartI) : TS := if p.k = 1 then oneT (f (p.ro, p.rn)) else bothT (decide (p.k = 3)) (ts[p.l.toNat]?.getD noT) (ts[p.r.toNat]?.getD noT)
def tellsTo (f : RoI → Int) (zs : List PartI) : Nat → List TS
  | 0 => []
  | k + 1 => match zs[k]? with
    | none => tellsTo f zs k
    | some p => tellsTo f zs k ++ [tellOne f (tellsTo f zs k) p]
theorem tellsTo_next {zs : List PartI} {k : Nat} {p : PartI} (h : zs[k]? = some p) (f : RoI → Int) : tellsTo f zs (k + 1) = tellsTo f zs k ++ [tellOne f (tellsTo f zs k) p] := by
  simp [tellsTo, h]
theorem tellsTo_len (f : RoI → Int) (zs : List PartI) : ∀ k, k ≤ zs.length → (tellsTo f zs k).length = k
  | 0, _ => rfl
  | k + 1, h => by
    rw [tellsTo_next (List.getElem?_eq_getElem (show k < zs.length by omega))]
    simp [tellsTo_len f zs k (by omega)]
/-- What the last part tells. -/
def tellsL (f : RoI → Int) (zs : List PartI) : TS := (tellsTo f zs zs.length)[zs.length - 1]?.getD noT

/-- The sets that are told, rising. -/
def setsTo (T : TS) (k : Nat) : List Int := ((List.range k).filter T).map (fun n : Nat => (n : Int))
def setsL (T : TS) : List Int := setsTo T 256
theorem setsTo_next (T : TS) (k : Nat) : setsTo T (k + 1) = if T k = true then setsTo T k ++ [(k : Int)] else setsTo T k := by
  unfold setsTo
  rw [List.range_succ, List.filter_append, List.map_append]
  cases h : T k <;> simp [h]
theorem setsTo_len (T : TS) (k : Nat) : (setsTo T k).length ≤ k := by
  unfold setsTo
  rw [List.length_map]
  have := List.length_filter_le T (List.range k)
  simpa using this

/-- How many a set has. -/
def pcN (x : Nat) : Nat := (listTo (x : Int) 8).length
theorem pc_le : ∀ n : Fin 256, pcN n.val ≤ 8 := by decide +kernel
def IsLeast (T : TS) (x : Nat) : Prop := x < 256 ∧ T x = true ∧ ∀ y, y < 256 → T y = true → pcN x < pcN y ∨ (pcN x = pcN y ∧ x ≤ y)
theorem least_unique {T : TS} {x y : Nat} (h : IsLeast T x) (g : IsLeast T y) : x = y := by
  have h1 := h.2.2 y g.1 g.2.1
  have h2 := g.2.2 x h.1 h.2.1
  omega

end Go.Proofs.Ytnfolmjdicfobaa

namespace Go.Proofs.Ytnfolmjdicfobaa
open Go.RowKit
set_option linter.unusedVariables false
set_option linter.unusedSimpArgs false

theorem ts_under : Try.prog.underlying 94 = some (.array 256 4) := by kernel_rfl
theorem ts_info : (Try.prog.info? 94).map (fun i => (i.zero, i.size)) = some (some (.agg (arrT noT)), 256) := by kernel_rfl
theorem ts_zero (w : World) : (zeroValue 94).run Try.prog w = .ok (.agg (arrT noT)) w := (zero_of_info ts_info).1 w
theorem ts_size : (Try.prog.info? 94).map (·.size) = some 256 := (zero_of_info ts_info).2

theorem cell_old (w : World) (o : Obj) {b : Nat} (i : Nat) (hb : b < w.heap.size) : (w.alloc o).cell? ⟨b, i, none⟩ = w.cell? ⟨b, i, none⟩ := ((Below.refl _ _).alloc (Nat.le_refl _) o).cell (p := ⟨b, i, none⟩) hb
theorem cell_new (w : World) (c : Array Value) (t : TypeId) (i : Nat) : (w.alloc (.cells c t)).cell? ⟨w.heap.size, i, none⟩ = c[i]? := cell_of_row _ _ i c t (0, 0) (heap_alloc_last w _)
theorem heap_old (w : World) (o : Obj) {b : Nat} (hb : b < w.heap.size) : (w.alloc o).heap[b]? = w.heap[b]? := ((Below.refl _ _).alloc (Nat.le_refl _) o).block b hb

theorem heap_setRow {w : World} {g : Nat} {c c' : Array Value} {t : TypeId} {fr : Nat × Nat} (h : w.heap[g]? = some (.cells c t fr)) : (w.setRow g c').heap[g]? = some (.cells c' t fr) := by
  simp only [World.setRow]
  rw [Array.getElem?_modify, if_pos rfl, h]
  rfl
theorem heap_setRow_ne {w : World} {g i : Nat} {c' : Array Value} (h : i ≠ g) : (w.setRow g c').heap[i]? = w.heap[i]? := by
  simp only [World.setRow]
  rw [Array.getElem?_modify, if_neg (fun e => h e.symm)]
theorem size_setRow (w : World) (g : Nat) (c' : Array Value) : (w.setRow g c').heap.size = w.heap.size := by simp [World.setRow]
theorem below_setRow {B : Nat} {w0 w : World} {g : Nat} (h : Below B w0 w) (hg : B ≤ g) (c : Array Value) : Below B w0 (w.setRow g c) :=
  ⟨h.os, h.tape, h.output, by rw [size_setRow]; exact h.size, fun i hi => by rw [heap_setRow_ne (by omega)]; exact h.block i hi⟩
theorem storeAt_row (w : World) (g : Nat) (old T : TS) (hg : w.heap[g]? = some (.cells (arrT old) 94 (0, 0))) :
    (Instr.storeAt 94 (.pointer (some ⟨g, 0, none⟩)) (.agg (arrT T))).run Try.prog w = .ok () (w.setRow g (arrT T)) := by
  simp only [Instr.storeAt, Instr.sureAddr, Sem.run_bind, Sem.run_pure, Result.andThen]
  exact run_storeVar_row _ _ _ _ _ _ hg (by rw [arrT_size]; exact ts_size) (by rw [arrT_size, arrT_size]) (arrT_cells T)
theorem storeCells_row (w : World) (g : Nat) (old T : TS) (hg : w.heap[g]? = some (.cells (arrT old) 94 (0, 0))) :
    (storeCells ⟨g, 0, none⟩ (arrT T).toList).run Try.prog w = .ok () (w.setRow g (arrT T)) := by
  have := run_storeCells_from (P := Try.prog) g 94 (arrT T).toList 0 (arrT old) w hg (by rw [Nat.zero_add, arrT_size, Array.length_toList, arrT_size]) (fun v hv => (Array.all_eq_true_iff_forall_mem.1 (arrT_cells T)) v (by simpa using hv))
  simpa using this
theorem loadVar_row (w : World) (g : Nat) (T : TS) (hg : w.heap[g]? = some (.cells (arrT T) 94 (0, 0))) :
    (loadVar 94 ⟨g, 0, none⟩).run Try.prog w = .ok (.agg (arrT T)) w :=
  run_loadVar_row _ _ _ _ _ _ _ hg ts_under rfl (by rw [arrT_size]; exact ts_size)
theorem loadAt_row (w : World) (g : Nat) (T : TS) (hg : w.heap[g]? = some (.cells (arrT T) 94 (0, 0))) :
    (Instr.loadAt 94 (.pointer (some ⟨g, 0, none⟩))).run Try.prog w = .ok (.agg (arrT T)) w := by
  simp only [Instr.loadAt, Instr.sureAddr, Sem.run_bind, Sem.run_pure, Result.andThen]
  exact loadVar_row w g T hg

set_option maxRecDepth 100000 in
set_option maxHeartbeats 4000000 in
theorem together_c (L R : TS) (ap : Bool) (w : World) :
    Calls Try.prog 82 #[.agg (arrT L), .agg (arrT R), .bool ap] w fun e w' => e = .returned (.agg (arrT (bothT ap L R))) ∧ Below w.heap.size w w' := by
  have hz := ts_zero
  obtain ⟨W, hW⟩ : ∃ W, W = ((w.alloc (.cells (arrT L) 94)).alloc (.cells (arrT R) 94)).alloc (.cells (arrT noT) 94) := ⟨_, rfl⟩
  have hs0 : w.heap.size + 1 + 1 + 1 = W.heap.size := by rw [hW]; simp
  have HSz : Hid (w.heap.size + 1 + 1 + 1 = W.heap.size) := hs0
  clear hs0
  have B0 : Below w.heap.size w W := by rw [hW]; exact (((Below.refl _ _).alloc (Nat.le_refl _) _).alloc (by simp) _).alloc (by simp; omega) _
  have HL : Hid (∀ (o : Obj) (i : Nat), i < 256 → (W.alloc o).cell? ⟨w.heap.size, i, none⟩ = some (.bool (L i))) := fun o i hi => by
    rw [hW, cell_old _ _ _ (by simp; omega), cell_old _ _ _ (by simp; omega), cell_old _ _ _ (by simp), cell_new, arrT_at _ hi]
  have HR : Hid (∀ (o : Obj) (i : Nat), i < 256 → (W.alloc o).cell? ⟨w.heap.size + 1, i, none⟩ = some (.bool (R i))) := fun o i hi => by
    rw [hW, cell_old _ _ _ (by simp), cell_old _ _ _ (by simp)]
    have := cell_new (w.alloc (.cells (arrT L) 94)) (arrT R) 94 i
    rw [World.size_alloc] at this
    rw [this, arrT_at _ hi]
  have HRes : Hid (∀ o : Obj, (W.alloc o).heap[w.heap.size + 1 + 1]? = some (.cells (arrT noT) 94 (0, 0))) := fun o => by
    rw [hW, heap_old _ _ (by simp)]
    have := heap_alloc_last ((w.alloc (.cells (arrT L) 94)).alloc (.cells (arrT R) 94)) (.cells (arrT noT) 94)
    rw [World.size_alloc, World.size_alloc] at this
    exact this
  go_enter Try.func82, Try.ntmps82
  go_wp2_with fail
  rw [← hW]
  clear hW hz
  have hs := HSz.out
  simp only [hs]
  go_loopw [10] (fun i wr => ∃ (k : Nat) (T : TS), k ≤ 256 ∧ i = .int .i64 (k : Int) ∧ wr = W.alloc (.cells (arrT T) 94) ∧ Hid (Both ap L R k 0 T)) (fun i _ => 256 - (intOf i).toNat)
  case atStart => exact ⟨0, noT, by omega, rfl, rfl, both_start ap L R⟩
  case round =>
    obtain ⟨k, T, hk, rfl, rfl, HB⟩ := hrel
    by_cases hlt : k < 256
    · have hlt' : (k : Int) < 256 := by omega
      have cL := HL.out (.cells (arrT T) 94) k hlt
      obtain ⟨l, hl⟩ : ∃ l, L k = l := ⟨_, rfl⟩
      have HLk : Hid (L k = l) := hl
      rw [hl] at cL
      clear hl
      cases l
      · go_wp2_with fail
        exact ⟨⟨k + 1, T, by omega, by go_num, rfl, both_skip HB.out HLk.out⟩, by simp [intOf]; omega⟩
      · go_wp2_with fail
        go_loopw [17] (fun j wr => ∃ (m : Nat) (U : TS), m ≤ 256 ∧ j = .int .i64 (m : Int) ∧ wr = W.alloc (.cells (arrT U) 94) ∧ Hid (Both ap L R k m U)) (fun j _ => 256 - (intOf j).toNat)
        case atStart => exact ⟨0, T, by omega, rfl, rfl, HB⟩
        case round =>
          obtain ⟨m, U, hm, rfl, rfl, HC⟩ := hrel
          by_cases hmt : m < 256
          · have hmt' : (m : Int) < 256 := by omega
            have cR := HR.out (.cells (arrT U) 94) m hmt
            obtain ⟨r, hr⟩ : ∃ r, R m = r := ⟨_, rfl⟩
            have HRm : Hid (R m = r) := hr
            rw [hr] at cR
            have hand : bits .and .i64 (k : Int) (m : Int) = ((k &&& m : Nat) : Int) := and_nat k m hlt hmt
            have hor : bits .or .i64 (k : Int) (m : Int) = ((k ||| m : Nat) : Int) := or_nat k m hlt hmt
            have hx : k ||| m < 256 := Nat.or_lt_two_pow (n := 8) hlt hmt
            obtain ⟨q, hq⟩ : ∃ q, ((k &&& m) != 0) = q := ⟨_, rfl⟩
            have hq' : ((((k &&& m : Nat) : Int)) != 0) = q := by rw [← hq]; rw [Bool.eq_iff_iff]; simp
            have hok : okAB ap k m = !(ap && q) := by unfold okAB; rw [hq]
            have hn0 : (R m && okAB ap k m) = (r && !(ap && q)) := by rw [hr, hok]
            have HN : Hid ((R m && okAB ap k m) = (r && !(ap && q))) := hn0
            clear hn0
            have HX : Hid (k ||| m = k ||| m) := rfl
            obtain ⟨x, hxx⟩ : ∃ x, x = k ||| m := ⟨_, rfl⟩
            have HXX : Hid (x = k ||| m) := hxx
            rw [← hxx] at hor hx
            have hx' : (x : Int) < 256 := by omega
            have cx : (arrT U)[x]? = some (.bool (U x)) := arrT_at U hx
            generalize hy : ((k &&& m : Nat) : Int) = y at hand hq'
            clear hy hr hq hok hxx HX
            cases r
            · go_wp2_with fail
              exact ⟨⟨m + 1, U, by omega, by go_num, rfl, both_no HC.out HN.out⟩, by simp [intOf]; omega⟩
            · cases ap
              · go_wp2_with fail
                refine ⟨⟨m + 1, putT U x, by omega, by go_num, ?_, ?_⟩, by simp [intOf]; omega⟩
                · rw [arrT_put U hx]
                · have := both_put HC.out hlt hmt HLk.out HN.out
                  rw [← HXX.out] at this
                  exact this
              · cases q
                · go_wp2_with fail
                  refine ⟨⟨m + 1, putT U x, by omega, by go_num, ?_, ?_⟩, by simp [intOf]; omega⟩
                  · rw [arrT_put U hx]
                  · have := both_put HC.out hlt hmt HLk.out HN.out
                    rw [← HXX.out] at this
                    exact this
                · go_wp2_with fail
                  exact ⟨⟨m + 1, U, by omega, by go_num, rfl, both_no HC.out HN.out⟩, by simp [intOf]; omega⟩
          · have hme : m = 256 := by omega
            subst hme
            go_wp2_with fail
            exact ⟨⟨k + 1, U, by omega, by go_num, rfl, both_next HC.out⟩, by simp [intOf]; omega⟩
    · have hke : k = 256 := by omega
      subst hke
      have HE : Hid (arrT T = arrT (bothT ap L R)) := arrT_ext (both_end HB.out)
      have hld := loadAt_row (W.alloc (.cells (arrT T) 94)) W.heap.size T (heap_alloc_last _ _)
      have hst := storeCells_row (W.alloc (.cells (arrT T) 94)) (w.heap.size + 1 + 1) noT T (HRes.out _)
      go_wp2_with fail
      unfold Oper.wp
      simp [execOp, Act.eval, hld, Result.andThen]
      rw [Oper.upon_value]
      have hl2 := loadVar_row ((W.alloc (.cells (arrT T) 94)).setRow (w.heap.size + 1 + 1) (arrT T)) (w.heap.size + 1 + 1) T (heap_setRow (HRes.out _))
      go_wp2
      refine bodyPost_ret (v := .agg (arrT T)) ?_ rfl ⟨by rw [HE.out], ?_⟩
      · simp [results, Try.results82, asAddr, Result.andThen, hl2]
      · exact below_setRow (B0.alloc B0.size _) (by omega) _

end Go.Proofs.Ytnfolmjdicfobaa

namespace Go.Proofs.Ytnfolmjdicfobaa
open Go.RowKit Go.Maps
open Go.ChangeMaps (setBlock heap_setBlock_same heap_setBlock_other)
set_option linter.unusedSimpArgs false
set_option maxRecDepth 4000

theorem mp_map : Try.prog.underlying 116 = some (.map 76 120) := by kernel_rfl
theorem mp_set : Try.prog.underlying 120 = some (.int .u8) := by kernel_rfl
theorem mp_laid : laidOutB Try.prog = true := by kernel_rfl
theorem mp_row : (76 : TypeId) < Try.prog.types.size := of_decide_eq_true (by kernel_rfl)
theorem mp_kt : Try.prog.keyTypeAt 2 76 = true := by kernel_rfl
theorem mp_lim : 2 + 1 ≤ 10000 := by omega
theorem mp_law : WideMaps.KeyLaw Try.prog 76 := by
  refine deep_law_laid (m := 2) mp_laid mp_lim mp_row mp_kt ?_
  rw [Try.underlying76]
theorem mp_keyed : Keyed Try.prog 76 := Keyed.of_law mp_law
theorem mp_zero (w : World) : (zeroValue 120).run Try.prog w = .ok (.int .u8 0) w := by kernel_rfl
theorem mp_cells : Try.prog.cellsOf 76 = 2 := by kernel_rfl
theorem mp_cell1 : Try.prog.cellsOf 2 = 1 := by kernel_rfl
theorem mp_keyT : Try.prog.keyType 76 = true := by kernel_rfl
theorem mp_types : ∃ d, Try.prog.types.size + 1 = d + 2 := by
  have h : 76 < Try.prog.types.size := mp_row
  generalize Try.prog.types.size = n at h ⊢
  exact ⟨n - 1, by omega⟩

abbrev roV (r : RoI) : Value := .agg #[.int .i64 r.1, .int .i64 r.2]
def roW (r : RoI) : Prop := (Lit.int .i64 r.1).wf = true ∧ (Lit.int .i64 r.2).wf = true
def keyL (r : RoI) : Lit := .string (keyBytes [.int .i64 r.1, .int .i64 r.2])

theorem roW_of {r : RoI} (h : roleB r.1 r.2 = true) : roW r := by
  simp [roleB, prinB, nameB] at h
  constructor
  · simp [Lit.wf, IntKind.min, IntKind.max, IntKind.signed, IntKind.bits]; omega
  · simp [Lit.wf, IntKind.min, IntKind.max, IntKind.signed, IntKind.bits]; omega

theorem key_lit1 (d : Nat) (v : Value) : Try.prog.keyLits (d + 1) 2 [v] = match v with | .int q n => if q = .i64 ∧ (Lit.int .i64 n).wf = true then some [.int .i64 n] else none | _ => none := by
  cases v <;> simp [Program.keyLits, Try.underlying2]

theorem key_lits (d : Nat) (a b : Value) : Try.prog.keyLits (d + 2) 76 [a, b] = (Try.prog.keyLits (d + 1) 2 [a]).bind fun x => (Try.prog.keyLits (d + 1) 2 [b]).map fun y => x ++ y := by
  generalize hx : Try.prog.keyLits (d + 1) 2 [a] = x
  generalize hy : Try.prog.keyLits (d + 1) 2 [b] = y
  conv => lhs; unfold Program.keyLits
  simp only [Try.underlying76]
  simp [mp_cells, mp_cell1, List.mapM_cons, hx, hy]
  cases x <;> simp
  cases y <;> simp

theorem key_of {r : RoI} (h : roW r) : keyOf Try.prog 76 (roV r) = some (keyL r) := by
  obtain ⟨d, hd⟩ := mp_types
  unfold keyOf
  simp only [Try.underlying76]
  simp [mp_keyT, Value.formed, Try.underlying76, mp_cells, Value.cells, hd, key_lits, key_lit1, h.1, h.2, keyL]

theorem key_inv {v : Value} {kl : Lit} (h : keyOf Try.prog 76 v = some kl) : ∃ r, roW r ∧ v = roV r ∧ kl = keyL r := by
  obtain ⟨d, hd⟩ := mp_types
  unfold keyOf at h
  simp only [Try.underlying76] at h
  split at h
  · rename_i hc
    rw [Bool.and_eq_true] at hc
    have hf := hc.2
    cases v <;> simp [Value.formed, Try.underlying76, mp_cells] at hf
    rename_i xs
    obtain ⟨a, b, rfl⟩ : ∃ a b, xs = #[a, b] := by
      rcases xs with ⟨l⟩
      match l, hf with
      | [a, b], _ => exact ⟨a, b, rfl⟩
    rw [hd, show (Value.cells (.agg #[a, b])).toList = [a, b] from rfl, key_lits, key_lit1, key_lit1] at h
    obtain ⟨ls, h1, rfl⟩ := Option.map_eq_some_iff.1 h
    obtain ⟨l1, hx, h2⟩ := Option.bind_eq_some_iff.1 h1
    obtain ⟨l2, hy, rfl⟩ := Option.map_eq_some_iff.1 h2
    cases a <;> simp at hx
    cases b <;> simp at hy
    obtain ⟨⟨rfl, wx⟩, rfl⟩ := hx
    obtain ⟨⟨rfl, wy⟩, rfl⟩ := hy
    exact ⟨(_, _), ⟨wx, wy⟩, rfl, rfl⟩
  · cases h

theorem keyL_inj {a b : RoI} (ha : roW a) (hb : roW b) (h : keyL a = keyL b) : a = b := by
  have := mp_keyed.inj (key_of ha) (h ▸ key_of hb)
  simp at this
  exact Prod.ext this.1 this.2

theorem keyL_key (r : RoI) : WideAt.IsKeyLit (keyL r) := trivial

/-- What a map reads as tells who has which role. -/
structure View (D : DataW Unit) (f : RoI → Int) : Prop where
  at' : ∀ r, roW r → D.atKey (keyL r) (.lit (.int .u8 0)) = .lit (.int .u8 (f r))
  has : ∀ r, roW r → Maps.has D (keyL r) = decide (f r ≠ 0)

noncomputable abbrev elU : Value → Option (DataW Unit × List MemPlace) := plainElem Try.prog 120

theorem elU_int {s : Int} (h : setB s) : elU (.int .u8 s) = some (.lit (.int .u8 s), []) := by
  refine plainElem_int mp_set ?_
  have := h.1
  have := h.2
  simp [Lit.wf, IntKind.min, IntKind.max, IntKind.signed, IntKind.bits]
  omega

/-- Block b holds who has which role. -/
def GM (w : World) (b : Nat) (f : RoI → Int) : Prop := FN f ∧ ∃ D n, w.ownsMap Try.prog 76 elU b n D ∧ View D f

theorem GM.fn {w : World} {b : Nat} {f : RoI → Int} (h : GM w b f) : FN f := h.1

theorem GM.lt {w : World} {b : Nat} {f : RoI → Int} (h : GM w b f) : b < w.heap.size := by
  obtain ⟨_, D, n, ho, _⟩ := h
  exact ho.lt

theorem gm_heap {w w' : World} {b b' : Nat} {f : RoI → Int} (h : GM w b f) (e : w'.heap[b']? = w.heap[b]?) : GM w' b' f := by
  obtain ⟨h1, D, n, ⟨es, clock, hb, F, hs, hD⟩, hv⟩ := h
  exact ⟨h1, D, n, ⟨es, clock, e.trans hb, F, hs, hD⟩, hv⟩

theorem GM.below {w w' : World} {b k : Nat} {f : RoI → Int} (h : GM w b f) (hk : b < k) (hb : Below k w w') : GM w' b f := gm_heap h (hb.block b hk)

/-- How many entries there may be. -/
theorem own_size {w : World} {b n : Nat} {D : DataW Unit} {f : RoI → Int} (hf : FN f) (ho : w.ownsMap Try.prog 76 elU b n D) (hv : View D f) : w.ownsMap Try.prog 76 elU b 40 D ∧ Maps.size D ≤ 40 := by
  obtain ⟨es', hD', hne, _⟩ := ho.entries mp_keyed
  obtain ⟨es, clock, hb, F, hs, hD⟩ := ho
  have hlen : Maps.size D = es.size := by
    rw [hD]
    show ((es.toList.map _).foldr DataW.insert []).length = _
    rw [length_sorted]
    simp
  have hkeys : ∀ p ∈ es', ∃ r, roleB r.1 r.2 = true ∧ p.1 = keyL r := by
    intro p hp
    have hp' : p ∈ es.toList.map (WideElems.rg Try.prog 76 elU) := by
      rw [hD] at hD'
      have := (DataW.map.inj hD').symm
      rw [this] at hp
      exact mem_sorted.1 hp
    obtain ⟨v, hvv⟩ := fit_keys F p hp'
    obtain ⟨r, hr, _, e⟩ := key_inv hvv
    refine ⟨r, ?_, e⟩
    refine hf.ro r ?_
    have h1 := hv.has r hr
    rw [hD', has_eq] at h1
    have : (es'.any fun p => p.1.sameKey (keyL r)) = true := List.any_eq_true.2 ⟨p, hp, by rw [e]; exact WideAt.sameKey_self (keyL_key r)⟩
    rw [this] at h1
    exact of_decide_eq_true h1.symm
  have h40 : es'.length ≤ 40 := by
    have hnd : (es'.map Prod.fst).Nodup := List.pairwise_map.2 hne
    have := @nodup_len Lit (fun _ _ => Classical.propDecidable _) (es'.map Prod.fst) (allRo.map keyL) hnd (fun x hx => by
      obtain ⟨p, hp, rfl⟩ := List.mem_map.1 hx
      obtain ⟨r, hr, e⟩ := hkeys p hp
      rw [e]
      exact List.mem_map.2 ⟨r, mem_allRo hr, rfl⟩)
    simpa [allRo_len] using this
  have hsz : Maps.size D ≤ 40 := by rw [hD', size_eq]; exact h40
  exact ⟨⟨es, clock, hb, F, by omega, hD⟩, hsz⟩

theorem gm_made (w : World) : GM (w.alloc (.map #[] 0)) w.heap.size zeroF := by
  refine ⟨fn_zero, .map [], 0, World.ownsMap_made w _ _ _, ⟨fun r _ => ?_, fun r _ => ?_⟩⟩
  · rfl
  · rfl

theorem gm_look {w : World} {b : Nat} {f : RoI → Int} (h : GM w b f) {r : RoI} (hr : roW r) : (Instr.lookup 116 (.map (some b)) (roV r) false).run Try.prog w = .ok (.int .u8 (f r)) w := by
  obtain ⟨_, D, n, ho, hv⟩ := h
  obtain ⟨c, h1, h2, _⟩ := ho.lookup_int mp_keyed mp_map mp_set (mp_zero w) (key_of hr)
  rw [hv.at' r hr] at h2
  cases h2
  exact h1

/-- The set at a role is turned. -/
def setF (f : RoI → Int) (r : RoI) (s : Int) : RoI → Int := fun r' => if r' = r then s else f r'

theorem view_put {D : DataW Unit} {f : RoI → Int} (hm : IsMap D) (h : View D f) {r : RoI} (hr : roW r) {s : Int} (hs : s ≠ 0) : View (D.put (keyL r) (.lit (.int .u8 s))) (setF f r s) := by
  refine ⟨fun r' hr' => ?_, fun r' hr' => ?_⟩
  · by_cases e : r' = r
    · subst e
      rw [atKey_put_same hm (keyL_key _), setF, if_pos rfl]
    · rw [atKey_put_other (fun q => e (keyL_inj hr' hr q)), h.at' r' hr', setF, if_neg e]
  · by_cases e : r' = r
    · subst e
      rw [has_put_same hm (keyL_key _), setF, if_pos rfl]
      simp [hs]
    · rw [has_put_other (fun q => e (keyL_inj hr' hr q)), h.has r' hr', setF, if_neg e]

/-- 'm[r] = ..' of the value that was there: what is asked, then what is written. -/
theorem gm_entry {w : World} {b : Nat} {f : RoI → Int} (h : GM w b f) {r : RoI} (hr : roleB r.1 r.2 = true) :
    ∃ (st : Nat) (w1 : World), (Instr.mapEntry 116 (.map (some b)) (roV r)).run Try.prog w = .ok (.tuple #[.int .u8 (f r), goInt st]) w1 ∧ w.grownBy w1 (some b) ∧ w1.heap.size = w.heap.size ∧
      ∀ (w2 : World) (s : Int), w2.heap[b]? = w1.heap[b]? → setB s → s ≠ 0 → ∃ w3, (Instr.entryStore 116 (.map (some b)) (goInt st) (.int .u8 s)).run Try.prog w2 = .ok () w3 ∧ w2.grownBy w3 (some b) ∧ w3.heap.size = w2.heap.size ∧ GM w3 b (setF f r s) := by
  have hrw := roW_of hr
  have hlook := gm_look h hrw
  obtain ⟨hfn, D, n, ho, hv⟩ := h
  have ho40 := (own_size hfn ho hv).1
  have hm := (ho40.entries mp_keyed)
  have hup := fun (s : Int) (hs : setB s) => ho40.update mp_keyed mp_map (by unfold maxLen; omega) (key_of hrw) (elU_int hs)
  obtain ⟨es, clock, hb, F, hsz, hD⟩ := ho40
  obtain ⟨v0, st, es1, clock1, h1, h2, h3⟩ := WideElems.entry_then_store mp_law mp_map mp_zero hb F (key_of hrw)
  have ev : v0 = .int .u8 (f r) := by
    rcases Maps.fit_look false mp_keyed mp_map (mp_zero w) hb F (key_of hrw) with ⟨hrun, hno, _⟩ | ⟨e0, y, he0, hk0, hrun, _⟩
    · rw [hlook] at hrun
      have hrun := (Result.ok.inj hrun).1
      rcases h2 with ⟨e0, hm0, hk0, _⟩ | ⟨_, e⟩
      · exact absurd hk0 (hno e0 hm0)
      · rw [e]; exact hrun.symm
    · rw [hlook] at hrun
      have hrun := (Result.ok.inj hrun).1
      rcases h2 with ⟨e1, hm1, hk1, e⟩ | ⟨hno, _⟩
      · rw [e]
        have hn : es.toList.Pairwise (fun x y => x.key ≠ y.key) := ((MapKept.stamped_iff es clock).1 F.stamped).2.2
        rw [entry_eq_of_key hn hm1 he0 (hk1.trans hk0.symm)]; exact hrun.symm
      · exact absurd hk0 (hno e0 he0)
  subst ev
  refine ⟨st, _, h1, ⟨rfl, rfl, rfl, by simp [setBlock], fun i _ hi => heap_setBlock_other hb _ (fun e => hi (by rw [e]))⟩, by simp [setBlock], fun w2 s hw2 hs hs0 => ?_⟩
  rw [heap_setBlock_same hb] at hw2
  obtain ⟨es', clock', h4, h5⟩ := h3 w2 (.int .u8 s) hw2
  obtain ⟨w', h6, h7, _⟩ := hup s hs
  rw [h5] at h6
  cases h6
  refine ⟨_, h4, ⟨rfl, rfl, rfl, by simp [setBlock], fun i _ hi => heap_setBlock_other hw2 _ (fun e => hi (by rw [e]))⟩, by simp [setBlock], ?_⟩
  refine gm_heap (w := setBlock w b (.map es' clock')) (b := b) ?_ (by rw [heap_setBlock_same hw2, heap_setBlock_same hb])
  refine ⟨⟨fun r' => ?_, fun r' hn => ?_⟩, _, _, h7, view_put ?_ hv hrw hs0⟩
  · unfold setF
    split
    · exact hs
    · exact hfn.st _
  · unfold setF at hn
    split at hn
    · rename_i e; rw [e]; exact hr
    · exact hfn.ro _ hn
  · obtain ⟨es0, e, _⟩ := hm
    exact ⟨es0, e⟩

end Go.Proofs.Ytnfolmjdicfobaa
