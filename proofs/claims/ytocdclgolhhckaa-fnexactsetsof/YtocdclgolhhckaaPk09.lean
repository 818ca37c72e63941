/-
  THE MAP OF GRANTS, CELL BY CELL: what is asked of it and what is written, in whatever world has that block. No Go text is walked here.
  Conditions: each fact bears its own.
  CONTRACT: (impl.grantMap).give: a set given to a role in the map.
  Conditions: each contract bears its own.
  CONTRACTS of impl's iterator over the principals of a set, and of impl.ListOf.
  Conditions: each contract bears its own.
-/
import Derived.Test.YtocdclgolhhckaaPk08
import Derived.WalkSmall
import Derived.BigRegion
import Derived.BigQuiet
import Derived.Deep.QuietTactic
import Derived.RangeFuncNested
import Derived.RangeFuncBound
import Derived.RangeFuncCalls
import Derived.RangeFuncBox
import Derived.RangeFuncLeaves
import Derived.Shelf.Abstract
import Derived.WalkKit
import Derived.OwnWalkIn
import Derived.TacticsInMore
import Derived.LoopNIn
import Derived.LoopIn
import Derived.Maps.AppendAt
import Derived.Stop.RegionWithIn
import Derived.Sort.BigQuietIn
import Derived.Outline
import Derived.Test.YtocdclgolhhckaaPk05
namespace Go.Proofs.Ytocdclgolhhckaa
open Go.RowKit Go.Maps
open Go.ChangeMaps (setBlock heap_setBlock_same heap_setBlock_other)
set_option linter.unusedSimpArgs false
set_option maxRecDepth 4000

theorem look_at {w : World} {b : Nat} {es : Array MapEntry} {clock : Nat} (hb : w.heap[b]? = some (.map es clock)) (hk : ∀ e ∈ es.toList, ∃ l, keyOf Try.prog 31 e.key = some l) {r : RoI} (hr : roW r) {v : Value}
    (hv : ∀ e ∈ es.toList, e.key = roV r → e.val = v) (hex : ∃ e ∈ es.toList, e.key = roV r) : (Instr.lookup 88 (.map (some b)) (roV r) false).run Try.prog w = .ok v w := by
  rcases mp_law.find w (key_of hr) es.toList hk with ⟨_, h2⟩ | ⟨j, e0, h1, h2, h3⟩
  · obtain ⟨e, he, hke⟩ := hex
    exact absurd hke (h2 e he)
  · have := hv e0 (List.mem_of_getElem? h2) h3
    simp [Instr.lookup, run_underlying mp_map, MapKept.run_getObj_map hb, mp_law.check w _ (key_of hr), h1, Result.andThen, this]

/-- What 'm[r] |= ..' does, block by block. -/
structure EntryIs (b : Nat) (f : RoI → Int) (r : RoI) (es es1 : Array MapEntry) (clock clock1 st : Nat) : Prop where
  look0 : ∀ W : World, W.heap[b]? = some (.map es clock) → (Instr.lookup 88 (.map (some b)) (roV r) false).run Try.prog W = .ok (.int .u8 (f r)) W
  ask : ∀ W : World, W.heap[b]? = some (.map es clock) → (Instr.mapEntry 88 (.map (some b)) (roV r)).run Try.prog W = .ok (.tuple #[.int .u8 (f r), goInt st]) (setBlock W b (.map es1 clock1))
  look1 : ∀ W : World, W.heap[b]? = some (.map es1 clock1) → (Instr.lookup 88 (.map (some b)) (roV r) false).run Try.prog W = .ok (.int .u8 (f r)) W
  write : ∀ (W : World) (s : Int), W.heap[b]? = some (.map es1 clock1) → setB s → s ≠ 0 → ∃ es2 clock2, (Instr.entryStore 88 (.map (some b)) (goInt st) (.int .u8 s)).run Try.prog W = .ok () (setBlock W b (.map es2 clock2)) ∧ GM (setBlock W b (.map es2 clock2)) b (setF f r s)

theorem fit_of {w : World} {b : Nat} {f : RoI → Int} (h : GM w b f) : ∃ es clock, w.heap[b]? = some (.map es clock) ∧ ∀ W : World, W.heap[b]? = some (.map es clock) → GM W b f := by
  obtain ⟨h1, D, n, ⟨es, clock, hb, F, hs, hD⟩, hv⟩ := h
  exact ⟨es, clock, hb, fun W hW => ⟨h1, D, n, ⟨es, clock, hW, F, hs, hD⟩, hv⟩⟩

theorem entry_is {w : World} {b : Nat} {f : RoI → Int} (h : GM w b f) {r : RoI} (hr : roleB r.1 r.2 = true) : ∃ es es1 clock clock1 st, w.heap[b]? = some (.map es clock) ∧ EntryIs b f r es es1 clock clock1 st := by
  have hrw := roW_of hr
  obtain ⟨es, clock, hb, hGM⟩ := fit_of h
  obtain ⟨hfn, D, n, ho, hv⟩ := h
  have ho40 := (own_size hfn ho hv).1
  obtain ⟨es', clock', hb', F, hsz, hD⟩ := ho40
  rw [hb] at hb'
  cases hb'
  have hl0 : ∀ W : World, W.heap[b]? = some (.map es clock) → (Instr.lookup 88 (.map (some b)) (roV r) false).run Try.prog W = .ok (.int .u8 (f r)) W := fun W hW => gm_look (hGM W hW) hrw
  have hkeys : ∀ e ∈ es.toList, ∃ l, keyOf Try.prog 31 e.key = some l := F.keys
  obtain ⟨s1, s2, s3⟩ := (MapKept.stamped_iff es clock).1 F.stamped
  -- what is written, out of the law of the two steps
  have wr : ∀ (es1 : Array MapEntry) (clock1 st : Nat), (∀ (w2 : World) (val : Value), w2.heap[b]? = some (.map es1 clock1) → ∃ es' clock', (Instr.entryStore 88 (.map (some b)) (goInt st) val).run Try.prog w2 = .ok () (setBlock w2 b (.map es' clock')) ∧
        (Instr.mapUpdate 88 (.map (some b)) (roV r) val).run Try.prog w = .ok () (setBlock w b (.map es' clock'))) →
      ∀ (W : World) (s : Int), W.heap[b]? = some (.map es1 clock1) → setB s → s ≠ 0 → ∃ es2 clock2, (Instr.entryStore 88 (.map (some b)) (goInt st) (.int .u8 s)).run Try.prog W = .ok () (setBlock W b (.map es2 clock2)) ∧ GM (setBlock W b (.map es2 clock2)) b (setF f r s) := by
    intro es1 clock1 st h3 W s hW hs hs0
    obtain ⟨es2, clock2, h4, h5⟩ := h3 W (.int .u8 s) hW
    have ho40 : w.ownsMap Try.prog 31 elU b 40 D := ⟨es, clock, hb, F, hsz, hD⟩
    obtain ⟨w', h6, h7, _⟩ := ho40.update mp_keyed mp_map (by unfold maxLen; omega) (key_of hrw) (elU_int hs)
    rw [h5] at h6
    cases h6
    refine ⟨es2, clock2, h4, ?_⟩
    refine gm_heap (w := setBlock w b (.map es2 clock2)) (b := b) ?_ (by rw [heap_setBlock_same hW, heap_setBlock_same hb])
    refine ⟨⟨fun r' => ?_, fun r' hn => ?_⟩, _, _, h7, view_put ?_ hv hrw hs0⟩
    · unfold setF
      split
      · exact hs
      · exact hfn.st _
    · unfold setF at hn
      split at hn
      · rename_i e; rw [e]; exact hr
      · exact hfn.ro _ hn
    · exact ⟨_, hD⟩
  obtain ⟨v0, st, es1, clock1, h1, h2, h3⟩ := WideElems.entry_then_store mp_law mp_map mp_zero hb F (key_of hrw)
  have h3' := wr es1 clock1 st h3
  clear h3 wr
  rcases mp_law.find w (key_of hrw) es.toList hkeys with ⟨g1, g2⟩ | ⟨j, e0, g1, g2, g3⟩
  · -- the key is not there
    have ez : f r = 0 := by
      have := hl0 w hb
      simp [Instr.lookup, run_underlying mp_map, MapKept.run_getObj_map hb, mp_law.check w _ (key_of hrw), g1, mp_zero, Result.andThen] at this
      exact this.symm
    have run : ∀ W : World, W.heap[b]? = some (.map es clock) → (Instr.mapEntry 88 (.map (some b)) (roV r)).run Try.prog W = .ok (.tuple #[.int .u8 0, goInt clock]) (setBlock W b (.map (es.push ⟨roV r, .int .u8 0, clock⟩) (clock + 1))) := by
      intro W hW
      rcases mp_law.find W (key_of hrw) es.toList hkeys with ⟨q1, q2⟩ | ⟨j, e0, q1, q2, q3⟩
      · simp [Instr.mapEntry, run_underlying mp_map, MapKept.run_getObj_map hW, mp_law.check W false (key_of hrw), q1, mp_zero, MapKept.run_setObj_map _ hW, Result.andThen, setBlock]
      · exact absurd q3 (g2 e0 (List.mem_of_getElem? q2))
    have e1 := run w hb
    rw [h1] at e1
    have e2 := (Result.ok.inj e1).2
    have e3 := (Result.ok.inj e1).1
    have e4 : es1 = es.push ⟨roV r, .int .u8 0, clock⟩ ∧ clock1 = clock + 1 := by
      have : (setBlock w b (.map es1 clock1)).heap[b]? = (setBlock w b (.map (es.push ⟨roV r, .int .u8 0, clock⟩) (clock + 1))).heap[b]? := by rw [e2]
      rw [heap_setBlock_same hb, heap_setBlock_same hb] at this
      exact ⟨(Obj.map.inj (Option.some.inj this)).1, (Obj.map.inj (Option.some.inj this)).2⟩
    obtain ⟨rfl, rfl⟩ := e4
    have e5 : st = clock := by
      simp [goInt] at e3
      omega
    rw [e5] at h3'
    refine ⟨es, _, clock, _, _, hb, ⟨hl0, fun W hW => by rw [run W hW, ez], fun W hW => ?_, h3'⟩⟩
    refine look_at hW (fun e he => ?_) hrw (fun e he hke => ?_) ⟨⟨roV r, .int .u8 0, clock⟩, by simp, rfl⟩
    · simp at he
      rcases he with he | rfl
      · exact hkeys e (by simpa using he)
      · exact ⟨_, key_of hrw⟩
    · simp at he
      rcases he with he | rfl
      · exact absurd hke (g2 e (by simpa using he))
      · rw [ez]
  · -- the key is there
    have hj : es[j]? = some e0 := by simpa using g2
    have hm0 : e0 ∈ es.toList := List.mem_of_getElem? g2
    have hval : e0.val = .int .u8 (f r) := by
      have := hl0 w hb
      simp [Instr.lookup, run_underlying mp_map, MapKept.run_getObj_map hb, mp_law.check w _ (key_of hrw), g1, Result.andThen] at this
      exact this
    have hsame : es.modify j (fun e => { e with key := roV r }) = es := by
      apply Array.ext'
      rw [Array.toList_modify, ChangeMaps.modify_eq_set _ _ _ _ g2]
      have : ({ e0 with key := roV r } : MapEntry) = e0 := by rw [← g3]
      rw [this]
      exact WideElems.set_self _ _ _ g2
    have run : ∀ W : World, W.heap[b]? = some (.map es clock) → (Instr.mapEntry 88 (.map (some b)) (roV r)).run Try.prog W = .ok (.tuple #[.int .u8 (f r), goInt e0.born]) (setBlock W b (.map es clock)) := by
      intro W hW
      rcases mp_law.find W (key_of hrw) es.toList hkeys with ⟨q1, q2⟩ | ⟨j', e0', q1, q2, q3⟩
      · exact absurd g3 (q2 e0 hm0)
      · have hj' : es[j']? = some e0' := by simpa using q2
        have ee : e0' = e0 := entry_eq_of_key s3 (List.mem_of_getElem? q2) hm0 (q3.trans g3.symm)
        subst ee
        have hsame' : es.modify j' (fun e => { e with key := roV r }) = es := by
          apply Array.ext'
          rw [Array.toList_modify, ChangeMaps.modify_eq_set _ _ _ _ q2]
          have : ({ e0' with key := roV r } : MapEntry) = e0' := by rw [← g3]
          rw [this]
          exact WideElems.set_self _ _ _ q2
        simp [Instr.mapEntry, run_underlying mp_map, MapKept.run_getObj_map hW, mp_law.check W false (key_of hrw), q1, hj', q3, mp_law.stays W (key_of hrw), hsame', MapKept.run_setObj_map _ hW, Result.andThen, setBlock, hval]
    have e1 := run w hb
    rw [h1] at e1
    have e2 := (Result.ok.inj e1).2
    have e3 := (Result.ok.inj e1).1
    have e4 : es1 = es ∧ clock1 = clock := by
      have : (setBlock w b (.map es1 clock1)).heap[b]? = (setBlock w b (.map es clock)).heap[b]? := by rw [e2]
      rw [heap_setBlock_same hb, heap_setBlock_same hb] at this
      exact ⟨(Obj.map.inj (Option.some.inj this)).1, (Obj.map.inj (Option.some.inj this)).2⟩
    obtain ⟨rfl, rfl⟩ := e4
    have e5 : st = e0.born := by
      simp [goInt] at e3
      omega
    rw [e5] at h3'
    exact ⟨_, _, _, _, _, hb, ⟨hl0, run, hl0, h3'⟩⟩

/-! sets of eight bits -/

theorem u8_or (a b : Int) (ha : setB a) (hb : setB b) : bits .or .u8 a b = orI a b := by
  obtain ⟨A, rfl⟩ := Int.eq_ofNat_of_zero_le ha.1
  obtain ⟨B, rfl⟩ := Int.eq_ofNat_of_zero_le hb.1
  have h1 := ha.2
  have h2 := hb.2
  have hx : A ||| B < 2 ^ 8 := Nat.or_lt_two_pow (by omega) (by omega)
  rw [orI, or_nat A B (by omega) (by omega)]
  have ea : (BitVec.ofInt 8 (A : Int)).toNat = A := by rw [BitVec.ofInt_natCast, BitVec.toNat_ofNat]; exact Nat.mod_eq_of_lt (by omega)
  have eb : (BitVec.ofInt 8 (B : Int)).toNat = B := by rw [BitVec.ofInt_natCast, BitVec.toNat_ofNat]; exact Nat.mod_eq_of_lt (by omega)
  show IntKind.u8.wrap ((BitVec.ofInt 8 (A : Int) ||| BitVec.ofInt 8 (B : Int)).toNat : Int) = _
  rw [BitVec.toNat_or, ea, eb, IntKind.wrap_u8]
  omega

theorem u8_and (a b : Int) (ha : setB a) (hb : setB b) : bits .and .u8 a b = andI a b := by
  obtain ⟨A, rfl⟩ := Int.eq_ofNat_of_zero_le ha.1
  obtain ⟨B, rfl⟩ := Int.eq_ofNat_of_zero_le hb.1
  have h1 := ha.2
  have h2 := hb.2
  have hx : A &&& B < 2 ^ 8 := Nat.and_lt_two_pow _ (by omega)
  rw [andI, and_nat A B (by omega) (by omega)]
  have ea : (BitVec.ofInt 8 (A : Int)).toNat = A := by rw [BitVec.ofInt_natCast, BitVec.toNat_ofNat]; exact Nat.mod_eq_of_lt (by omega)
  have eb : (BitVec.ofInt 8 (B : Int)).toNat = B := by rw [BitVec.ofInt_natCast, BitVec.toNat_ofNat]; exact Nat.mod_eq_of_lt (by omega)
  show IntKind.u8.wrap ((BitVec.ofInt 8 (A : Int) &&& BitVec.ofInt 8 (B : Int)).toNat : Int) = _
  rw [BitVec.toNat_and, ea, eb, IntKind.wrap_u8]
  omega

/-- What of s is not in c. -/
theorem u8_not (s c : Int) (hs : setB s) (hc : setB c) : 0 ≤ bits .andNot .u8 s c ∧ bits .andNot .u8 s c ≤ 255 ∧ (bits .andNot .u8 s c = 0 ↔ orI c s = c) := by
  obtain ⟨S, rfl⟩ := Int.eq_ofNat_of_zero_le hs.1
  obtain ⟨C, rfl⟩ := Int.eq_ofNat_of_zero_le hc.1
  have h1 := hs.2
  have h2 := hc.2
  have ea : (BitVec.ofInt 8 (S : Int)).toNat = S := by rw [BitVec.ofInt_natCast, BitVec.toNat_ofNat]; exact Nat.mod_eq_of_lt (by omega)
  have eb : (BitVec.ofInt 8 (C : Int)).toNat = C := by rw [BitVec.ofInt_natCast, BitVec.toNat_ofNat]; exact Nat.mod_eq_of_lt (by omega)
  have e : bits .andNot .u8 (S : Int) (C : Int) = IntKind.u8.wrap ((BitVec.ofInt 8 (S : Int) &&& ~~~ (BitVec.ofInt 8 (C : Int))).toNat : Int) := rfl
  have hlt := (BitVec.ofInt 8 (S : Int) &&& ~~~ (BitVec.ofInt 8 (C : Int))).isLt
  have e2 : bits .andNot .u8 (S : Int) (C : Int) = ((BitVec.ofInt 8 (S : Int) &&& ~~~ (BitVec.ofInt 8 (C : Int))).toNat : Int) := by
    rw [e, IntKind.wrap_u8]
    omega
  refine ⟨by rw [e2]; omega, by rw [e2]; omega, ?_⟩
  rw [e2, orI, or_nat C S (by omega) (by omega)]
  have key : (BitVec.ofInt 8 (S : Int) &&& ~~~ (BitVec.ofInt 8 (C : Int))).toNat = 0 ↔ C ||| S = C := by
    constructor
    · intro h
      apply Nat.eq_of_testBit_eq
      intro i
      rw [Nat.testBit_or]
      by_cases q : i < 8
      · have hb : (BitVec.ofInt 8 (S : Int) &&& ~~~ (BitVec.ofInt 8 (C : Int))).toNat.testBit i = false := by rw [h]; simp
        rw [BitVec.testBit_toNat, BitVec.getLsbD_and, BitVec.getLsbD_not, ← BitVec.testBit_toNat, ← BitVec.testBit_toNat, ea, eb] at hb
        simp [q] at hb
        cases c1 : S.testBit i
        · simp
        · simp [hb c1]
      · have hi : 256 ≤ 2 ^ i := by
          have : 2 ^ 8 ≤ 2 ^ i := Nat.pow_le_pow_right (by omega) (by omega)
          omega
        rw [Nat.testBit_lt_two_pow (show S < 2 ^ i by omega)]
        simp
    · intro h
      apply Nat.eq_of_testBit_eq
      intro i
      rw [BitVec.testBit_toNat, BitVec.getLsbD_and, BitVec.getLsbD_not, ← BitVec.testBit_toNat, ← BitVec.testBit_toNat, ea, eb]
      have hb : (C ||| S).testBit i = C.testBit i := by rw [h]
      rw [Nat.testBit_or] at hb
      cases c1 : S.testBit i
      · simp
      · rw [c1] at hb
        simp at hb
        simp [hb]
  constructor
  · intro h
    rw [key.1 (by omega)]
  · intro h
    have := key.2 (by omega)
    omega

end Go.Proofs.Ytocdclgolhhckaa

namespace Go.Proofs.Ytocdclgolhhckaa
open Go.RowKit Go.Maps
open Go.ChangeMaps (setBlock heap_setBlock_same heap_setBlock_other)
set_option linter.unusedVariables false
set_option linter.unusedSimpArgs false

theorem heap_alloc_old (w : World) (o : Obj) {i : Nat} (h : i < w.heap.size) : (w.alloc o).heap[i]? = w.heap[i]? := (MapKept.heap_alloc w o).2 i h

theorem grown_mp {w : World} {b : Nat} {es es' : Array MapEntry} {c c' : Nat} (hb : w.heap[b]? = some (.map es c)) : w.grownBy (setBlock w b (.map es' c')) (some b) :=
  ⟨rfl, rfl, rfl, by simp [setBlock], fun i _ hi => heap_setBlock_other hb _ (fun e => hi (by rw [e]))⟩

theorem grown_dr (w : World) : w.grownBy w.drew none := ⟨rfl, rfl, rfl, Nat.le_refl _, fun _ _ _ => rfl⟩

theorem grown_two {a b c : World} {j : Nat} (h : a.grownBy b (some j)) (k : b.grownBy c (some j)) : a.grownBy c (some j) := h.andThen k (fun _ e => .inr e)

set_option maxRecDepth 100000 in
set_option maxHeartbeats 1000000 in
theorem give_c (b : Nat) (f : RoI → Int) (r : RoI) (s : Int) (w : World) (h : GM w b f) (hr : roleB r.1 r.2 = true) (hs : setB s) :
    Calls Try.prog 100 #[.map (some b), .agg #[.int .i64 r.1, .int .i64 r.2], .int .u8 s] w fun e w' => e = .returned (.bool (!decide (orI (f r) s = f r))) ∧ GM w' b (giveF f r s) ∧ w.grownBy w' (some b) := by
  obtain ⟨es, es1, clock, clock1, st, hb, E⟩ := entry_is h hr
  have hlt := h.lt
  have hfn := h.fn
  have hn := u8_not s (f r) hs (hfn.st r)
  have hba : (w.alloc (.cells #[.int .i64 r.1, .int .i64 r.2] 31)).heap[b]? = some (.map es clock) := (heap_alloc_old w _ hlt).trans hb
  have hl0 := E.look0 _ hba
  by_cases hsame : orI (f r) s = f r
  · have hz := hn.2.2.2 hsame
    go_enter Try.func100, Try.ntmps100
    go_wp2
    go_ret
    rw [decide_eq_true hsame, give_same hsame]
    exact ⟨rfl, gm_heap h (heap_alloc_old w _ hlt), (World.grownBy_alloc w _ none).but _⟩
  · obtain ⟨g, hg⟩ : ∃ g, bits .andNot .u8 s (f r) = g := ⟨_, rfl⟩
    have hg0 : g ≠ 0 := fun e => hsame (hn.2.2.1 (hg.trans e))
    clear hn
    go_enter Try.func100, Try.ntmps100
    go_wp2
    have c0 : (w.alloc (.cells #[.int .i64 r.1, .int .i64 r.2] 31)).cell? ⟨w.heap.size, 0, none⟩ = some (.int .i64 r.1) := by unfold World.cell?; rw [(MapKept.heap_alloc w _).1]; rfl
    have c1 : (w.alloc (.cells #[.int .i64 r.1, .int .i64 r.2] 31)).cell? ⟨w.heap.size, 1, none⟩ = some (.int .i64 r.2) := by unfold World.cell?; rw [(MapKept.heap_alloc w _).1]; rfl
    have hgr : w.grownBy (w.alloc (.cells #[.int .i64 r.1, .int .i64 r.2] 31)) none := World.grownBy_alloc w _ none
    generalize w.alloc (.cells #[.int .i64 r.1, .int .i64 r.2] 31) = w1 at *
    have hso : setB (orI (f r) s) := or_set (hfn.st r) hs
    have hor : bits .or .u8 (f r) s = orI (f r) s := u8_or _ _ (hfn.st r) hs
    have hs0 : orI (f r) s ≠ 0 := fun e => hsame (by have := or_le (hfn.st r) hs; have := (hfn.st r).1; omega)
    have a1 := E.ask w1.drew hba
    have l0 := E.look0 w1.drew hba
    have hb2 : (setBlock w1.drew b (.map es1 clock1)).heap[b]? = some (.map es1 clock1) := heap_setBlock_same (w := w1.drew) hba _
    have l1 := E.look1 _ hb2
    obtain ⟨es2, clock2, w2, hgm⟩ := E.write _ _ hb2 hso hs0
    have k3 : w1.drew.grownBy (setBlock w1.drew b (.map es1 clock1)) (some b) := grown_mp (w := w1.drew) hba
    generalize setBlock w1.drew b (.map es1 clock1) = w3 at *
    have k4 : w3.grownBy (setBlock w3 b (.map es2 clock2)) (some b) := grown_mp hb2
    generalize setBlock w3 b (.map es2 clock2) = w4 at *
    have k5 : w.grownBy w4 (some b) := grown_two (grown_two (grown_two (hgr.but _) ((grown_dr w1).but _)) k3) k4
    clear hgr k3 k4
    have w2' : (Instr.entryStore 88 (.map (some b)) (.int .i64 (st : Int)) (.int .u8 (orI (f r) s))).run Try.prog w3 = .ok () w4 := w2
    clear E w2
    go_region
    go_wp2
    go_ret
    rw [decide_eq_false hsame]
    exact ⟨rfl, hgm, k5⟩

end Go.Proofs.Ytocdclgolhhckaa

namespace Go.Proofs.Ytocdclgolhhckaa
open Go.RowKit Go.Shelf
attribute [local go_sem] Oper.semAt_some
set_option linter.unusedVariables false

theorem wide_fn (k : FuncId) : Fence.wide.fn k = True := eq_true trivial
attribute [local go_sem] wide_fn
attribute [local simp] wide_fn

theorem listTo_pre (s : Int) (k m : Nat) (h : k ≤ m) : listTo s k <+: listTo s m := by
  induction m with
  | zero =>
    have e : k = 0 := by omega
    subst e; exact List.prefix_refl _
  | succ m ih =>
    by_cases e : k = m + 1
    · subst e; exact List.prefix_refl _
    · have := ih (by omega)
      simp only [listTo]
      split
      · exact this.trans (List.prefix_append _ _)
      · exact this

theorem listTo_lt (s : Int) (k m : Nat) (h : k < m) (hh : hasI s ((k : Int) + 1) = true) : (listTo s k).length < (listTo s m).length := by
  have h1 := (listTo_pre s (k + 1) m (by omega)).length_le
  rw [listTo_hit s k hh] at h1
  simp at h1
  omega

/-- A round leaves block b as it was. -/
def KeepBox (b : Nat) (W W' : World) : Prop := W'.heap[b]? = W.heap[b]?

theorem grown_drewN (W : World) (m : Nat) : W.grownBy (W.drewN m) none := ⟨rfl, rfl, rfl, Nat.le_refl _, fun _ _ _ => rfl⟩
theorem grown_drew (W : World) : W.grownBy W.drew none := ⟨rfl, rfl, rfl, Nat.le_refl _, fun _ _ _ => rfl⟩

set_option maxRecDepth 100000 in
set_option maxHeartbeats 1000000 in
theorem prin1_in (n : Nat) (hn : 1 ≤ n) (l Bn B : Nat) (s : Int) (s0 : 0 ≤ s) (s1 : s ≤ 255) (J Jx : List Int → World → Prop) (hJ : AbidesFrom B J)
    (hY : ∀ pre x W, J pre W → pre.length < (listTo s 8).length → 1 ≤ x → x ≤ 8 → YieldAt Fence.wide (n - 1) Try.prog l #[.int .i64 x] W fun e W' =>
      (e = .returned (.bool true) ∧ J (pre ++ [x]) W' ∧ KeepBox Bn W W') ∨ (e = .returned (.bool false) ∧ Jx (pre ++ [x]) W'))
    (W : World) (hBn : W.cell? ⟨Bn, 0, none⟩ = some (.int .u8 s)) (h0 : J [] W) :
    CallsIn Fence.wide n Try.prog 141 #[.func (.yield l) #[] #[], .pointer (some ⟨Bn, 0, none⟩)] W fun e W' => (∃ v, e = .returned v) ∧
      ((∃ ys, ys = listTo s 8 ∧ J ys W') ∨ (∃ pre, pre <+: listTo s 8 ∧ Jx pre W')) := by
  refine callsIn_of_wp Try.func141 rfl trivial ?_ rfl
  simp only [Try.ntmps141, List.size_toArray, List.length_cons, List.length_nil, Nat.reduceAdd, Nat.reduceSub, Array.replicate_succ, Array.replicate_zero, List.push_toArray, List.append_toArray, List.nil_append, List.cons_append]
  gi_wp2
  gi_loopw [3] (fun p wr => ∃ (k : Nat), k ≤ 8 ∧ p = .int .i64 ((k : Int) + 1) ∧ wr.cell? ⟨Bn, 0, none⟩ = some (.int .u8 s) ∧ J (listTo s k) wr)
    (fun p _ => 9 - (intOf p).toNat)
  case atStart => exact ⟨0, Nat.zero_le _, rfl, hBn, h0⟩
  case round =>
    obtain ⟨k, hk, rfl, hc, hJs⟩ := hrel
    by_cases hlt : k < 8
    · have hlt' : (k : Int) + 1 ≤ 8 := by omega
      cases hh : hasI s ((k : Int) + 1) with
      | true =>
        have e2 : (bits .and .u8 s (bitI ((k : Int) + 1)) != 0) = true := by rw [← hh]; exact and_u8 s _ s0 s1 (by omega) (by omega)
        have HH : Hid (hasI s ((k : Int) + 1) = true) := hh
        clear hh
        have hJd := hJ _ wr wr.drew none hJs (grown_drew wr) (fun r e => by cases e)
        have hcd : wr.drew.cell? ⟨Bn, 0, none⟩ = some (.int .u8 s) := hc
        obtain ⟨fn, tmps, assign, body, hy, hR⟩ := hY _ ((k : Int) + 1) wr.drew hJd (listTo_lt s k 8 hlt HH.out) (by omega) (by omega)
        have hR' := hR.mono (R' := fun e W' => ∃ b : Bool, e = .returned (.bool b) ∧ Hid ((b = true ∧ J (listTo s k ++ [(k : Int) + 1]) W' ∧ KeepBox Bn wr.drew W') ∨ (b = false ∧ Jx (listTo s k ++ [(k : Int) + 1]) W'))) (by
          rintro e W' (⟨rfl, h⟩ | ⟨rfl, h⟩)
          · exact ⟨true, rfl, .inl ⟨rfl, h⟩⟩
          · exact ⟨false, rfl, .inr ⟨rfl, h⟩⟩)
        clear hR hY hJ hJd hJs h0
        gi_wp2
        gi_region_with (first | (gi_at_call 79; refine (callsIn_wide.2 (bitOf_c ((k : Int) + 1) (by omega) (by omega) _)).mono ?_; rintro e w' ⟨rfl, rfl⟩) | (refine hR'.mono ?_; rintro e W3 ⟨b, rfl, HD⟩))
        all_goals
          rcases HD.out with ⟨rfl, hJ3, hk3⟩ | ⟨rfl, hJx3⟩
          · have hc3 : W3.cell? ⟨Bn, 0, none⟩ = some (.int .u8 s) := (World.cell?_of_block (a := ⟨Bn, 0, none⟩) hk3).trans hcd
            gi_wp2
            go_roundw
            case rel => exact ⟨k + 1, by omega, by go_num, hc3, by rw [listTo_hit s k HH.out]; exact hJ3⟩
            case measure => simp [intOf]; omega
          · gi_wp2
            refine bodyPost_ret (results_none rfl _ _ _) rfl ?_
            exact ⟨⟨_, rfl⟩, .inr ⟨_, by have hp := listTo_pre s (k + 1) 8 (by omega); rw [listTo_hit s k HH.out] at hp; exact hp, hJx3⟩⟩
      | false =>
        have e2 : (bits .and .u8 s (bitI ((k : Int) + 1)) != 0) = false := by rw [← hh]; exact and_u8 s _ s0 s1 (by omega) (by omega)
        have HH : Hid (hasI s ((k : Int) + 1) = false) := hh
        clear hh
        have HJ : Hid (∀ m, J (listTo s (k + 1)) (wr.drewN m)) := by rw [listTo_miss s k HH.out]; exact fun m => hJ _ wr (wr.drewN m) none hJs (grown_drewN wr m) (fun r e => by cases e)
        clear hY hJ hJs h0
        gi_wp2
        gi_big_quiet_th ((gi_at_call 79; refine CallsIn.quiet_of_same ((callsIn_wide.2 (bitOf_c ((k : Int) + 1) (by omega) (by omega) _)).mono (fun _ _ h => ⟨h.1, h.2.symm⟩))))
        gi_wp2
        go_roundw
        case rel => exact ⟨k + 1, by omega, by go_num, hc, HJ.out _⟩
        case measure => simp [intOf]; omega
    · have hk8 : k = 8 := by omega
      subst hk8
      gi_wp2
      go_end0
      exact ⟨⟨_, rfl⟩, .inl ⟨_, rfl, hJs⟩⟩

set_option maxHeartbeats 1000000 in
theorem prin_in (n : Nat) (s : Int) (w : World) :
    CallsIn Fence.wide n Try.prog 133 #[.int .u8 s] w fun e w' => e = .returned (.func (.func 141) #[] #[.pointer (some ⟨w.heap.size, 0, none⟩)]) ∧ w.alloc (.cells #[.int .u8 s] 86) = w' := by
  refine callsIn_of_wp Try.func133 rfl trivial ?_ rfl
  simp only [Try.ntmps133, List.size_toArray, List.length_cons, List.length_nil, Nat.reduceAdd, Nat.reduceSub, Array.replicate_succ, Array.replicate_zero, List.push_toArray, List.append_toArray, List.nil_append, List.cons_append]
  gi_wp2
  go_ret
  exact ⟨rfl, rfl⟩

theorem prin_stops (n : Nat) (hn : 1 ≤ n) (Bn : Nat) (s : Int) (s0 : 0 ≤ s) (s1 : s ≤ 255) (w : World) (hBn : Bn < w.heap.size) (hc : w.cell? ⟨Bn, 0, none⟩ = some (.int .u8 s)) :
    SeqStopsK Fence.wide n Try.prog 141 #[.pointer (some ⟨Bn, 0, none⟩)] (fun x : Int => #[Value.int .i64 x]) (KeepBox Bn) (fun ys => ys = listTo s 8) (fun pre => pre <+: listTo s 8) (listTo s 8).length w := fun l J Jx W hW hJ _ hY h0 =>
  prin1_in n hn l Bn W.heap.size s s0 s1 J Jx hJ (fun pre x W hj hl _ _ => hY pre x W hj hl) W ((hW.cell (p := ⟨Bn, 0, none⟩) hBn).trans hc) h0

/-- A principal, with what it is bound to. -/
abbrev P8 := { x : Int // 1 ≤ x ∧ x ≤ 8 }

theorem prin_stops8 (n : Nat) (hn : 1 ≤ n) (Bn : Nat) (s : Int) (s0 : 0 ≤ s) (s1 : s ≤ 255) (w : World) (hBn : Bn < w.heap.size) (hc : w.cell? ⟨Bn, 0, none⟩ = some (.int .u8 s)) :
    SeqStopsK Fence.wide n Try.prog 141 #[.pointer (some ⟨Bn, 0, none⟩)] (fun x : P8 => #[Value.int .i64 x.1]) (KeepBox Bn) (fun ys => ys.map (·.1) = listTo s 8) (fun pre => pre.map (·.1) <+: listTo s 8) (listTo s 8).length w := fun l J Jx W hW hJ _ hY h0 => by
  have hY' : ∀ (pre : List Int) (x : Int) (W1 : World), (∃ p : List P8, p.map (·.1) = pre ∧ J p W1) → pre.length < (listTo s 8).length → 1 ≤ x → x ≤ 8 → YieldAt Fence.wide (n - 1) Try.prog l #[.int .i64 x] W1 fun e W' =>
      (e = .returned (.bool true) ∧ (∃ p : List P8, p.map (·.1) = pre ++ [x] ∧ J p W') ∧ KeepBox Bn W1 W') ∨ (e = .returned (.bool false) ∧ (∃ p : List P8, p.map (·.1) = pre ++ [x] ∧ Jx p W')) := by
    rintro pre x W1 ⟨p, rfl, hj⟩ hl x1 x8
    obtain ⟨fn, tmps, assign, body, hy, hR⟩ := hY p ⟨x, x1, x8⟩ W1 hj (by simpa using hl)
    refine ⟨fn, tmps, assign, body, hy, hR.mono ?_⟩
    rintro e W' (⟨he, h1, h2⟩ | ⟨he, h1⟩)
    · exact .inl ⟨he, ⟨p ++ [⟨x, x1, x8⟩], by simp, h1⟩, h2⟩
    · exact .inr ⟨he, ⟨p ++ [⟨x, x1, x8⟩], by simp, h1⟩⟩
  refine (prin1_in n hn l Bn W.heap.size s s0 s1 (fun pre W1 => ∃ p : List P8, p.map (·.1) = pre ∧ J p W1) (fun pre W1 => ∃ p : List P8, p.map (·.1) = pre ∧ Jx p W1)
    (fun pre X Y row ⟨p, hp, hj⟩ hg hr => ⟨p, hp, hJ p X Y row hj hg hr⟩) hY' W ((hW.cell (p := ⟨Bn, 0, none⟩) hBn).trans hc) ⟨[], rfl, h0⟩).mono ?_
  rintro e W' ⟨hv, ⟨ys, rfl, p, hp, hj⟩ | ⟨pre, hpre, p, hp, hj⟩⟩
  · exact ⟨hv, .inl ⟨p, hp, hj⟩⟩
  · exact ⟨hv, .inr ⟨p, by show p.map (·.1) <+: listTo s 8; rw [hp]; exact hpre, hj⟩⟩

end Go.Proofs.Ytocdclgolhhckaa
