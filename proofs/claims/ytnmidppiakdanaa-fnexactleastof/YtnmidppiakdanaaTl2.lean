/-
  CONTRACT: impl.singlesOf.
  Conditions: each contract bears its own.
-/
import Derived.Test.YtnmidppiakdanaaTl1
import Derived.Test.YtnmidppiakdanaaMp3
import Derived.RangeFuncCalls
namespace Go.Proofs.Ytnmidppiakdanaa
open Go.RowKit Go.Shelf Go.Maps
attribute [local go_sem] Oper.semAt_some
attribute [local go_sem] wide_fn
set_option linter.unusedVariables false
set_option linter.unusedSimpArgs false

/-- The sets of one each. -/
def oneP (pre : List P8) : TS := (pre.map (·.1)).foldl (fun T p => putT T (2 ^ (p - 1).toNat)) noT

theorem oneP_snoc (pre : List P8) (x : P8) : oneP (pre ++ [x]) = putT (oneP pre) (2 ^ (x.1 - 1).toNat) := by
  simp [oneP, List.foldl_append]

theorem putL_iff (ps : List Int) : ∀ (T : TS) (x : Nat), ps.foldl (fun T p => putT T (2 ^ (p - 1).toNat)) T x = true ↔ T x = true ∨ ∃ p ∈ ps, x = 2 ^ (p - 1).toNat := by
  induction ps with
  | nil => intro T x; simp
  | cons q qs ih =>
    intro T x
    rw [List.foldl_cons, ih]
    unfold putT
    by_cases e : x = 2 ^ (q - 1).toNat
    · rw [if_pos e]
      exact ⟨fun _ => .inr ⟨q, by simp, e⟩, fun _ => .inl rfl⟩
    · rw [if_neg e]
      constructor
      · rintro (h | ⟨p, hp, e'⟩)
        · exact .inl h
        · exact .inr ⟨p, by simp [hp], e'⟩
      · rintro (h | ⟨p, hp, e'⟩)
        · exact .inl h
        · rcases List.mem_cons.1 hp with rfl | hp
          · exact absurd e' e
          · exact .inr ⟨p, hp, e'⟩

theorem oneP_end {s : Int} {ys : List P8} (h : ys.map (·.1) = listTo s 8) : oneP ys = oneT s := by
  funext x
  rw [Bool.eq_iff_iff]
  unfold oneP oneT
  rw [h, putL_iff, List.any_eq_true]
  constructor
  · rintro (q | ⟨p, hp, e⟩)
    · cases q
    · obtain ⟨h0, h1, h2⟩ := mem_listTo.1 hp
      refine ⟨(p - 1).toNat, List.mem_range.2 (by omega), ?_⟩
      rw [Bool.and_eq_true]
      refine ⟨by simp [e], ?_⟩
      rw [show (((p - 1).toNat : Nat) : Int) + 1 = p by omega]
      exact h2
  · rintro ⟨p, hp, e⟩
    rw [Bool.and_eq_true] at e
    have hp := List.mem_range.1 hp
    exact .inr ⟨(p : Int) + 1, mem_listTo.2 ⟨by omega, by omega, e.2⟩, by simpa using e.1⟩

/-- A block of 256 marks. -/
def RowT (W : World) (B : Nat) (T : TS) : Prop := W.heap[B]? = some (.cells (arrT T) 119 (0, 0))
theorem RowT.lt {W : World} {B : Nat} {T : TS} (h : RowT W B T) : B < W.heap.size := (Array.getElem?_eq_some_iff.1 h).1
theorem RowT.kept {W W' : World} {row : Option Nat} {B : Nat} {T : TS} (h : RowT W B T) (hg : W.grownBy W' row) (hne : some B ≠ row) : RowT W' B T := (hg.block B h.lt hne).trans h
theorem RowT.cell {W : World} {B : Nat} {T : TS} (h : RowT W B T) {i : Nat} (hi : i < 256) : W.cell? ⟨B, i, none⟩ = some (.bool (T i)) := by
  rw [cell_of_row _ _ i _ _ _ h]; exact arrT_at T hi
theorem RowT.frozen {W : World} {B : Nat} {T : TS} (h : RowT W B T) (i : Nat) : W.frozen? ⟨B, i, none⟩ = false := by simp [World.frozen?, show W.heap[B]? = _ from h]
theorem RowT.below {W W' : World} {B : Nat} {T : TS} (h : RowT W B T) (hb : Below W.heap.size W W') : RowT W' B T := (hb.block B h.lt).trans h
theorem RowT.put {W : World} {B : Nat} {T : TS} (h : RowT W B T) {i : Nat} (hi : i < 256) : RowT (W.setCell ⟨B, i, none⟩ (.bool true)) B (putT T i) := by
  obtain ⟨hlt, hk⟩ := Array.getElem?_eq_some_iff.1 h
  show (W.heap.modify B _)[B]? = _
  rw [Array.getElem?_eq_getElem (by rw [Array.size_modify]; exact hlt), Array.getElem_modify_self, hk, ← arrT_put T hi]
  rfl
theorem rowT_own {β : Type} (B : Nat) (f : β → TS) : Own (fun s W => RowT W B (f s)) := fun s X Y row hs hg hrow =>
  hs.kept hg (fun e' => by obtain ⟨o, ho, hc⟩ := hrow B e'.symm; rw [show X.heap[B]? = _ from hs] at ho; cases ho; cases hc)

set_option maxRecDepth 100000 in
set_option maxHeartbeats 2000000 in
theorem singles_w (n : Nat) (hn : 3 ≤ n) (s : Int) (w : World) (hs : setB s) :
    CallsIn Fence.wide n Try.prog 132 #[.int .u8 s] w fun e W' => e = .returned (.agg (arrT (oneT s))) ∧ Below w.heap.size w W' := by
  have h1 : 1 ≤ n := by omega
  have s0 := hs.1
  have s1 := hs.2
  have hz := ts_zero
  refine callsIn_of_wp_marks Try.func132 rfl trivial ?_ rfl
  simp only [Try.ntmps132, List.size_toArray, List.length_cons, List.length_nil, Nat.reduceAdd, Nat.reduceSub, Array.replicate_succ, Array.replicate_zero, List.push_toArray, List.append_toArray, List.nil_append, List.cons_append]
  gi_wp2_with (gi_at_call 161; refine (prin_in _ _ _).mono ?_; rintro e w' ⟨rfl, rfl⟩)
  clear hz
  have bR : RowT (w.alloc (.cells (arrT noT) 119)) w.heap.size noT := heap_alloc_last _ _
  have bT : RowT ((w.alloc (.cells (arrT noT) 119)).alloc (.cells (arrT noT) 119)) (w.heap.size + 1) noT := by
    have := heap_alloc_last (w.alloc (.cells (arrT noT) 119)) (.cells (arrT noT) 119)
    rw [World.size_alloc] at this
    exact this
  have bS := Boxed.new ((w.alloc (.cells (arrT noT) 119)).alloc (.cells (arrT noT) 119)) 102 (.int .u8 s)
  rw [World.size_alloc, World.size_alloc] at bS
  have bR' : RowT (((w.alloc (.cells (arrT noT) 119)).alloc (.cells (arrT noT) 119)).alloc (.cells #[.int .u8 s] 102)) w.heap.size noT := (bR.below ((Below.refl _ _).alloc (Nat.le_refl _) _)).below ((Below.refl _ _).alloc (Nat.le_refl _) _)
  have bT' : RowT (((w.alloc (.cells (arrT noT) 119)).alloc (.cells (arrT noT) 119)).alloc (.cells #[.int .u8 s] 102)) (w.heap.size + 1) noT := bT.below ((Below.refl _ _).alloc (Nat.le_refl _) _)
  obtain ⟨W0, hW0⟩ : ∃ W0, ((w.alloc (.cells (arrT noT) 119)).alloc (.cells (arrT noT) 119)).alloc (.cells #[.int .u8 s] 102) = W0 := ⟨_, rfl⟩
  have hsz : W0.heap.size = w.heap.size + 3 := by rw [← hW0]; simp
  have hB0 : Below w.heap.size w W0 := by rw [← hW0]; exact (((Below.refl _ w).alloc (Nat.le_refl _) _).alloc (by simp) _).alloc (by simp; omega) _
  rw [hW0] at bS bR' bT' ⊢
  have HB0 : Hid (Below w.heap.size w W0) := hB0
  clear bR bT hW0 hB0
  refine wpIn_rangeFunc_ownG rfl h1 (gf := 170) (lb := #[.pointer (some ⟨w.heap.size + 1 + 1, 0, none⟩)]) rfl trivial (enters_of Try.func170 (by kernel_rfl) rfl)
    (prin_stops8 (n - 1) (by omega) (w.heap.size + 1 + 1) s s0 s1 W0 (by omega) bS.cell) (Kp := KeepBox (w.heap.size + 1 + 1)) (fun h k => Eq.trans k h) (fun W l o o' hl h _ _ => World.putObj_heap_other (by omega)) (Below.refl _ _) (fun _ => rfl)
    (fun pre W => (RowT W (w.heap.size + 1) (oneP pre) ∧ Boxed W (w.heap.size + 1 + 1) 102 (.int .u8 s)) ∧ Below (w.heap.size + 1) W0 W)
    (fun _ _ _ => False)
    (OwnFrom.and (OwnFrom.and (Own.from (rowT_own _ (fun pre => oneP pre)) _) (Own.from (boxed_own _ _ (fun _ => .int .u8 s)) _)) (ownFrom_below (by omega) (by omega)))
    (fun _ _ _ _ _ hs _ _ => hs)
    ⟨⟨bT', bS⟩, Below.refl _ _⟩
    (fun x => { tmps := #[.int .u8 s, undef, .pointer (some ⟨w.heap.size, 0, none⟩), .pointer (some ⟨w.heap.size + 1, 0, none⟩), .int .i64 x.1, .int .u8 s, .func (.func 170) #[] #[.pointer (some ⟨w.heap.size + 1 + 1, 0, none⟩)], .int .i64 x.1, undef, undef, undef, undef], defers := [] }) ?assign ?body ?done ?stop
  case assign =>
    intro l x W K hK
    gi_wp2
    exact hK
  case body =>
    rintro l pre x W ⟨⟨hA, hS⟩, hB⟩ hlt'
    have hp := x.2
    have hbi : (2 : Nat) ^ (x.1 - 1).toNat < 256 := Nat.pow_lt_pow_right (by omega) (show (x.1 - 1).toNat < 8 by omega)
    obtain ⟨q, hq⟩ : ∃ q, q = 2 ^ (x.1 - 1).toNat := ⟨_, rfl⟩
    have HQ : Hid (q = 2 ^ (x.1 - 1).toNat) := hq
    have hbq : bitI x.1 = (q : Int) := by rw [hq]; rfl
    rw [← hq] at hbi
    clear hq
    have cA : W.cell? ⟨w.heap.size + 1, q, none⟩ = some (.bool (oneP pre q)) := hA.cell hbi
    have fA : W.frozen? ⟨w.heap.size + 1, q, none⟩ = false := hA.frozen q
    have hq' : (q : Int) < 256 := by omega
    have hd : 1 ≤ n - 1 - 1 := by omega
    gi_wp2_with (first | (gi_at_call 93; refine (CallsIn.inRound l (callsIn_wide.2 (bitOf_c x.1 hp.1 hp.2 _))).mono ?_; rintro e wb ⟨rfl, rfl⟩; rw [hbq]) | fail)
    refine ⟨(KeepsOthers.setCell W ⟨w.heap.size + 1, q, none⟩ _).from _, ?_, ⟨?_, ?_⟩, ?_⟩
    · exact Below.heap_setCell _ _ _ _ (by simp)
    · rw [oneP_snoc, ← HQ.out]; exact hA.put hbi
    · exact (Below.heap_setCell _ _ _ _ (by simp)).trans hS
    · exact hB.setCell (p := ⟨w.heap.size + 1, q, none⟩) (Nat.le_refl _) _
  case done =>
    rintro D ys W hD hys ⟨⟨hA, _⟩, hB⟩ hK
    have hld := loadAt_row W (w.heap.size + 1) (oneP ys) hA
    have hRs : RowT W w.heap.size noT := (hB.block w.heap.size (by omega)).trans bR'
    have hst := storeCells_row W w.heap.size noT (oneP ys) hRs
    have hl2 := loadVar_row (W.setRow w.heap.size (arrT (oneP ys))) w.heap.size (oneP ys) (heap_setRow hRs)
    gi_wp2
    unfold Oper.wpIn
    simp [Oper.semAt, execOp, Act.eval, hld, Result.andThen]
    refine ⟨fun f hf => (by cases hf), ?_⟩
    rw [Oper.uponIn_value]
    have hKs : (W.setRow w.heap.size (arrT (oneP ys))).heap[D]? = some (.deferred (some [])) := (heap_setRow_ne (by omega)).trans hK
    gi_wp2
    refine ⟨by simp, .inl ⟨_, _, rfl, run_takeDeferred hKs, ?_⟩⟩
    refine ⟨.agg (arrT (oneP ys)), ?res, ?val, ?below⟩
    case res =>
      have hl3 := loadVar_row ((W.setRow w.heap.size (arrT (oneP ys))).putObj D (Obj.deferred none)) w.heap.size (oneP ys) ((World.putObj_heap_other (by omega)).trans (heap_setRow hRs))
      simp [results, Try.results132, asAddr, Result.andThen, hl3]
    case val => rw [oneP_end hys]
    case below =>
      have h1 : Below w.heap.size w (W.setRow w.heap.size (arrT (oneP ys))) := below_setRow (HB0.out.trans (hB.mono (by omega))) (Nat.le_refl _) _
      exact h1.grown (grownBy_putObj' _ D _) h1.size (fun k e => by cases e; omega)
  case stop =>
    rintro D c pre W _ _ h _
    exact h.elim

theorem singles_c (s : Int) (w : World) (hs : setB s) :
    Calls Try.prog 132 #[.int .u8 s] w fun e W' => e = .returned (.agg (arrT (oneT s))) ∧ Below w.heap.size w W' :=
  callsIn_wide.1 (singles_w 3 (Nat.le_refl _) s w hs)

end Go.Proofs.Ytnmidppiakdanaa
