/-
  CONTRACTS: chapter 11, the program: a page of words (put, end, words).
  Conditions: each contract bears its own.
-/
import Derived.Test.YtnlmoapopdchkaaDoorSt4
import Derived.Test.YtnlmoapopdchkaaDoorIn0
import Derived.Test.YtnlmoapopdchkaaDoorEx0
import Derived.Test.YtnlmoapopdchkaaDoorOi0
import Derived.Laws.CopyRow
import Derived.Laws.CopyOwn
import Derived.Laws.IdiomCopy
import Derived.Shelf.Spec.SlicesInsert
import Derived.Deep.RegionHeld3
namespace Go.Proofs.YtnlmoapopdchkaaDoor
open Go.RowKit
set_option linter.unusedVariables false
set_option linter.unusedSimpArgs false

theorem hidQ {p : Prop} (h : p) : Hid p := h

/-- Whole numbers as values. -/
def vI (zs : List Int) : List Value := zs.map (Value.int .i64)

theorem vI_len (zs : List Int) : (vI zs).length = zs.length := by simp [vI]
theorem vI_at {zs : List Int} {k : Nat} {x : Int} (h : zs[k]? = some x) : (vI zs)[k]? = some (.int .i64 x) := by simp [vI, h]
theorem vI_of {zs : List Int} {k : Nat} {v : Value} (h : (vI zs)[k]? = some v) : ∃ x, zs[k]? = some x ∧ v = .int .i64 x := by
  unfold vI at h
  rw [List.getElem?_map] at h
  cases q : zs[k]? with
  | none => rw [q] at h; cases h
  | some x => rw [q] at h; exact ⟨x, rfl, (Option.some.inj h).symm⟩
theorem vI_one (zs : List Int) : ∀ v ∈ vI zs, v.oneCell' = true := by
  intro v hv
  obtain ⟨x, _, rfl⟩ := List.mem_map.1 hv
  rfl

/-- Words that are written over others, from a place on. -/
def putZ (zs : List Int) (o : Nat) (ys : List Int) : List Int := zs.take o ++ ys ++ zs.drop (o + ys.length)

theorem vI_put (zs ys : List Int) (o : Nat) : vI (putZ zs o ys) = (vI zs).take o ++ vI ys ++ (vI zs).drop (o + (vI ys).length) := by
  simp [vI, putZ, List.map_take, List.map_drop]

theorem putZ_len {zs ys : List Int} {o : Nat} (h : o + ys.length ≤ zs.length) : (putZ zs o ys).length = zs.length := by
  simp [putZ, List.length_take, List.length_drop]; omega

theorem putZ_low {zs ys : List Int} {o k : Nat} (hk : k < o) (ho : o ≤ zs.length) : (putZ zs o ys)[k]? = zs[k]? := by
  unfold putZ
  rw [List.append_assoc, List.getElem?_append_left (by rw [List.length_take]; omega), List.getElem?_take_of_lt hk]

theorem putZ_mid {zs ys : List Int} {o k : Nat} (hk : k < ys.length) (ho : o ≤ zs.length) : (putZ zs o ys)[o + k]? = ys[k]? := by
  unfold putZ
  have hl : (zs.take o).length = o := by rw [List.length_take]; omega
  rw [List.append_assoc, List.getElem?_append_right (by omega), hl, show o + k - o = k by omega, List.getElem?_append_left hk]

theorem putZ_high {zs ys : List Int} {o k : Nat} (hk : o + ys.length ≤ k) (ho : o + ys.length ≤ zs.length) : (putZ zs o ys)[k]? = zs[k]? := by
  unfold putZ
  have hl : (zs.take o).length = o := by rw [List.length_take]; omega
  rw [List.getElem?_append_right (by rw [List.length_append, hl]; omega), List.length_append, hl, List.getElem?_drop, show o + ys.length + (k - (o + ys.length)) = k by omega]

/-- A page in memory: a block of 240 words that may be written. -/
structure PgAt (w : World) (g : Nat) (zs : List Int) : Prop where
  bk : w.heap[g]? = some (.cells (vI zs).toArray 39 (0, 0))
  ln : zs.length = 240

theorem PgAt.lt {w : World} {g : Nat} {zs : List Int} (h : PgAt w g zs) : g < w.heap.size := (Array.getElem?_eq_some_iff.1 h.bk).1

theorem PgAt.below {w w' : World} {g : Nat} {zs : List Int} (h : PgAt w g zs) (hb : Below w.heap.size w w') : PgAt w' g zs := ⟨(hb.block g h.lt).trans h.bk, h.ln⟩

theorem PgAt.keep {w w' : World} {g : Nat} {zs : List Int} (h : PgAt w g zs) (hk : w'.heap[g]? = w.heap[g]?) : PgAt w' g zs := ⟨hk.trans h.bk, h.ln⟩

theorem PgAt.cell {w : World} {g : Nat} {zs : List Int} (h : PgAt w g zs) {k : Nat} {x : Int} (hx : zs[k]? = some x) : w.cell? ⟨g, k, none⟩ = some (.int .i64 x) := by
  unfold World.cell?
  simp only
  rw [h.bk]
  simpa using vI_at hx

theorem PgAt.put {w : World} {g : Nat} {zs ys : List Int} {o : Nat} (h : PgAt w g zs) (ho : o + ys.length ≤ 240) : PgAt (w.setRow g ((vI zs).toArray.toList.take o ++ vI ys ++ (vI zs).toArray.toList.drop (o + (vI ys).length)).toArray) g (putZ zs o ys) := by
  refine ⟨?_, by rw [putZ_len (by have := h.ln; omega)]; exact h.ln⟩
  rw [vI_put]
  exact setRow_heap _ _ _ _ _ _ h.bk

theorem PgAt.ints {w : World} {g : Nat} {zs : List Int} (h : PgAt w g zs) (n : Nat) (hn : n ≤ 240) : IntIn w (some ⟨g, 0, none⟩) n (zs.take n) := by
  refine ⟨by rw [List.length_take]; have := h.ln; omega, fun _ => ⟨g, 0, rfl, fun k x e => ?_⟩⟩
  rw [Nat.zero_add]
  refine h.cell ?_
  by_cases q : k < n
  · rwa [List.getElem?_take_of_lt q] at e
  · rw [List.getElem?_eq_none (by rw [List.length_take]; omega)] at e; cases e

theorem Tryd.size2 : (Tryd.prog.info? 2).map (fun i => i.size) = some 1 := by kernel_rfl

theorem Tryd.arr39 : Tryd.prog.underlying 39 = some (.array (Tryd.prog.arrayLen 39) (Tryd.prog.elem 39)) := by kernel_rfl
theorem Tryd.arrl39 : Tryd.prog.arrayLen 39 = 240 := by kernel_rfl
theorem Tryd.arrs39 (W : World) : (sizeOf (Tryd.prog.elem 39)).run Tryd.prog W = .ok 1 W := by kernel_rfl

theorem pgSlice_from (g k : Nat) (hk : k < 40) (W : World) : (Instr.sliceAt 39 (.pointer (some ⟨g, 0, none⟩)) (some (.int .i64 ((k : Int) * 6))) none none).run Tryd.prog W = .ok (.slice (some ⟨g, k * 6, none⟩) (240 - k * 6) (240 - k * 6)) W := by
  have h1 : ((k : Int) * 6).toNat = k * 6 := by omega
  rw [run_sliceAt_array_l W _ _ Tryd.arr39 .i64 _ (by omega) (by rw [Tryd.arrl39]; omega), Tryd.arrs39]
  simp only [Result.andThen_ok, slicedAt, Tryd.arrl39, h1]
  rw [if_neg (by omega), Go.WideShapes.add_plain]
  simp

theorem pgSlice_upto (g n : Nat) (hn : n ≤ 240) (W : World) : (Instr.sliceAt 39 (.pointer (some ⟨g, 0, none⟩)) none (some (.int .i64 (n : Int))) none).run Tryd.prog W = .ok (.slice (some ⟨g, 0, none⟩) n 240) W := by
  have h1 : ((n : Int)).toNat = n := by omega
  rw [run_sliceAt_array_h W _ _ Tryd.arr39 .i64 _ (by omega) (by rw [Tryd.arrl39]; omega), Tryd.arrs39]
  simp only [Result.andThen_ok, slicedAt, Tryd.arrl39, h1]
  rw [if_neg (by omega), Go.WideShapes.add_plain]
  simp

/-- Where the words of a page end: at the first statement's place that holds 0. -/
def EndAt (zs : List Int) (N : Nat) : Prop := N ≤ 40 ∧ (∀ k x, k < N → zs[k * 6]? = some x → x ≠ 0) ∧ (N < 40 → zs[N * 6]? = some 0)

set_option maxRecDepth 20000 in
set_option maxHeartbeats 2000000 in
theorem pageEnd_c (g N : Nat) (zs : List Int) (w : World) (h : PgAt w g zs) (he : EndAt zs N) :
    Calls Tryd.prog 23 #[.pointer (some ⟨g, 0, none⟩)] w fun e w' => e = .returned (.int .i64 ((N * 6 : Nat) : Int)) ∧ w = w' := by
  have HP := hidQ h
  have HE := hidQ he
  have hN : N ≤ 40 := he.1
  have hgl : g < w.heap.size := h.lt
  clear h he
  go_enter Tryd.func23, Tryd.ntmps23
  go_wp2
  go_loop [3] (fun i => ∃ k : Nat, k ≤ N ∧ i = .int .i64 ((k * 6 : Nat) : Int)) (fun i => 240 - (intOf i).toNat)
  case atStart => exact ⟨0, Nat.zero_le _, rfl⟩
  case round =>
    obtain ⟨k, hk, rfl⟩ := hrel
    by_cases hlt : k < N
    · obtain ⟨x, hx⟩ : ∃ x, zs[k * 6]? = some x := ⟨_, List.getElem?_eq_getElem (by have := HP.out.ln; omega)⟩
      have c0 := HP.out.cell hx
      have h240 : ((k * 6 : Nat) : Int) < 240 := by omega
      have h0 : (0 : Int) ≤ ((k * 6 : Nat) : Int) := by omega
      have hx0 : (x != 0) = true := by simpa using HE.out.2.1 k x hlt hx
      have hwr : IntKind.i64.wrap (((k * 6 : Nat) : Int) + 6) = (((k + 1) * 6 : Nat) : Int) := by rw [IntKind.wrap_i64]; omega
      clear hx
      generalize hm : k * 6 = m at *
      go_wp2
      exact ⟨⟨k + 1, hlt, by simp⟩, by simp [intOf]; omega⟩
    · have hkN : k = N := by omega
      subst hkN
      by_cases h40 : k < 40
      · have c0 := HP.out.cell (HE.out.2.2 h40)
        have h240 : ((k * 6 : Nat) : Int) < 240 := by omega
        have h0 : (0 : Int) ≤ ((k * 6 : Nat) : Int) := by omega
        obtain ⟨m, hm⟩ : ∃ m, k * 6 = m := ⟨_, rfl⟩
        have HM := hidQ (show ((k : Int) * 6) = (m : Int) by omega)
        rw [hm] at c0 h240 h0 ⊢
        clear hm
        go_wp2
        go_ret
        exact ⟨by rw [HM.out]; rfl, rfl⟩
      · have h240 : ¬ (((k * 6 : Nat) : Int) < 240) := by omega
        obtain ⟨m, hm⟩ : ∃ m, k * 6 = m := ⟨_, rfl⟩
        have HM := hidQ (show ((k : Int) * 6) = (m : Int) by omega)
        rw [hm] at h240 ⊢
        clear hm
        go_wp2
        go_ret
        exact ⟨by rw [HM.out]; rfl, rfl⟩

end Go.Proofs.YtnlmoapopdchkaaDoor
