/-
  THE MAP OF GRANTS, CELL BY CELL: what is asked of it and what is written, in whatever world has that block. No Go text is walked here.
  Conditions: each fact bears its own.
-/
import Derived.Test.YtaeigimgobilaaaGreatDoorMp0
namespace Go.Proofs.YtaeigimgobilaaaGreatDoor
open Go.RowKit Go.Maps
open Go.ChangeMaps (setBlock heap_setBlock_same heap_setBlock_other)
set_option linter.unusedSimpArgs false
set_option maxRecDepth 4000

theorem look_at {w : World} {b : Nat} {es : Array MapEntry} {clock : Nat} (hb : w.heap[b]? = some (.map es clock)) (hk : ∀ e ∈ es.toList, ∃ l, keyOf Tryz.prog 66 e.key = some l) {r : RoI} (hr : roW r) {v : Value}
    (hv : ∀ e ∈ es.toList, e.key = roV r → e.val = v) (hex : ∃ e ∈ es.toList, e.key = roV r) : (Instr.lookup 100 (.map (some b)) (roV r) false).run Tryz.prog w = .ok v w := by
  rcases mp_law.find w (key_of hr) es.toList hk with ⟨_, h2⟩ | ⟨j, e0, h1, h2, h3⟩
  · obtain ⟨e, he, hke⟩ := hex
    exact absurd hke (h2 e he)
  · have := hv e0 (List.mem_of_getElem? h2) h3
    simp [Instr.lookup, run_underlying mp_map, MapKept.run_getObj_map hb, mp_law.check w _ (key_of hr), h1, Result.andThen, this]

/-- What 'm[r] |= ..' does, block by block. -/
structure EntryIs (b : Nat) (f : RoI → Int) (r : RoI) (es es1 : Array MapEntry) (clock clock1 st : Nat) : Prop where
  look0 : ∀ W : World, W.heap[b]? = some (.map es clock) → (Instr.lookup 100 (.map (some b)) (roV r) false).run Tryz.prog W = .ok (.int .u8 (f r)) W
  ask : ∀ W : World, W.heap[b]? = some (.map es clock) → (Instr.mapEntry 100 (.map (some b)) (roV r)).run Tryz.prog W = .ok (.tuple #[.int .u8 (f r), goInt st]) (setBlock W b (.map es1 clock1))
  look1 : ∀ W : World, W.heap[b]? = some (.map es1 clock1) → (Instr.lookup 100 (.map (some b)) (roV r) false).run Tryz.prog W = .ok (.int .u8 (f r)) W
  write : ∀ (W : World) (s : Int), W.heap[b]? = some (.map es1 clock1) → setB s → s ≠ 0 → ∃ es2 clock2, (Instr.entryStore 100 (.map (some b)) (goInt st) (.int .u8 s)).run Tryz.prog W = .ok () (setBlock W b (.map es2 clock2)) ∧ GM (setBlock W b (.map es2 clock2)) b (setF f r s)

theorem fit_of {w : World} {b : Nat} {f : RoI → Int} (h : GM w b f) : ∃ es clock, w.heap[b]? = some (.map es clock) ∧ ∀ W : World, W.heap[b]? = some (.map es clock) → GM W b f := by
  obtain ⟨h1, D, n, ⟨es, clock, hb, F, hs, hD⟩, hv⟩ := h
  exact ⟨es, clock, hb, fun W hW => ⟨h1, D, n, ⟨es, clock, hW, F, hs, hD⟩, hv⟩⟩

theorem entry_is {w : World} {b : Nat} {f : RoI → Int} (h : GM w b f) {r : RoI} (hr : roleB r.1 r.2 = true) : ∃ es es1 clock clock1 st, w.heap[b]? = some (.map es clock) ∧ EntryIs b f r es es1 clock clock1 st := by
  have hrw := roW_of hr
  obtain ⟨es, clock, hb, hGM⟩ := fit_of h
  obtain ⟨hfn, D, n, ho, hv⟩ := h
  have ho40 := (own_size hfn ho hv).1
  obtain ⟨es', clock', hb', F, hsz, hD⟩ := ho40
  rw [hb] at hb'
  cases hb'
  have hl0 : ∀ W : World, W.heap[b]? = some (.map es clock) → (Instr.lookup 100 (.map (some b)) (roV r) false).run Tryz.prog W = .ok (.int .u8 (f r)) W := fun W hW => gm_look (hGM W hW) hrw
  have hkeys : ∀ e ∈ es.toList, ∃ l, keyOf Tryz.prog 66 e.key = some l := F.keys
  obtain ⟨s1, s2, s3⟩ := (MapKept.stamped_iff es clock).1 F.stamped
  -- what is written, out of the law of the two steps
  have wr : ∀ (es1 : Array MapEntry) (clock1 st : Nat), (∀ (w2 : World) (val : Value), w2.heap[b]? = some (.map es1 clock1) → ∃ es' clock', (Instr.entryStore 100 (.map (some b)) (goInt st) val).run Tryz.prog w2 = .ok () (setBlock w2 b (.map es' clock')) ∧
        (Instr.mapUpdate 100 (.map (some b)) (roV r) val).run Tryz.prog w = .ok () (setBlock w b (.map es' clock'))) →
      ∀ (W : World) (s : Int), W.heap[b]? = some (.map es1 clock1) → setB s → s ≠ 0 → ∃ es2 clock2, (Instr.entryStore 100 (.map (some b)) (goInt st) (.int .u8 s)).run Tryz.prog W = .ok () (setBlock W b (.map es2 clock2)) ∧ GM (setBlock W b (.map es2 clock2)) b (setF f r s) := by
    intro es1 clock1 st h3 W s hW hs hs0
    obtain ⟨es2, clock2, h4, h5⟩ := h3 W (.int .u8 s) hW
    have ho40 : w.ownsMap Tryz.prog 66 elU b 40 D := ⟨es, clock, hb, F, hsz, hD⟩
    obtain ⟨w', h6, h7, _⟩ := ho40.update mp_keyed mp_map (by unfold maxLen; omega) (key_of hrw) (elU_int hs)
    rw [h5] at h6
    cases h6
    refine ⟨es2, clock2, h4, ?_⟩
    refine gm_heap (w := setBlock w b (.map es2 clock2)) (b := b) ?_ (by rw [heap_setBlock_same hW, heap_setBlock_same hb])
    refine ⟨⟨fun r' => ?_, fun r' hn => ?_⟩, _, _, h7, view_put ?_ hv hrw hs0⟩
    · unfold setF
      split
      · exact hs
      · exact hfn.st _
    · unfold setF at hn
      split at hn
      · rename_i e; rw [e]; exact hr
      · exact hfn.ro _ hn
    · exact ⟨_, hD⟩
  obtain ⟨v0, st, es1, clock1, h1, h2, h3⟩ := WideElems.entry_then_store mp_law mp_map mp_zero hb F (key_of hrw)
  have h3' := wr es1 clock1 st h3
  clear h3 wr
  rcases mp_law.find w (key_of hrw) es.toList hkeys with ⟨g1, g2⟩ | ⟨j, e0, g1, g2, g3⟩
  · -- the key is not there
    have ez : f r = 0 := by
      have := hl0 w hb
      simp [Instr.lookup, run_underlying mp_map, MapKept.run_getObj_map hb, mp_law.check w _ (key_of hrw), g1, mp_zero, Result.andThen] at this
      exact this.symm
    have run : ∀ W : World, W.heap[b]? = some (.map es clock) → (Instr.mapEntry 100 (.map (some b)) (roV r)).run Tryz.prog W = .ok (.tuple #[.int .u8 0, goInt clock]) (setBlock W b (.map (es.push ⟨roV r, .int .u8 0, clock⟩) (clock + 1))) := by
      intro W hW
      rcases mp_law.find W (key_of hrw) es.toList hkeys with ⟨q1, q2⟩ | ⟨j, e0, q1, q2, q3⟩
      · simp [Instr.mapEntry, run_underlying mp_map, MapKept.run_getObj_map hW, mp_law.check W false (key_of hrw), q1, mp_zero, MapKept.run_setObj_map _ hW, Result.andThen, setBlock]
      · exact absurd q3 (g2 e0 (List.mem_of_getElem? q2))
    have e1 := run w hb
    rw [h1] at e1
    have e2 := (Result.ok.inj e1).2
    have e3 := (Result.ok.inj e1).1
    have e4 : es1 = es.push ⟨roV r, .int .u8 0, clock⟩ ∧ clock1 = clock + 1 := by
      have : (setBlock w b (.map es1 clock1)).heap[b]? = (setBlock w b (.map (es.push ⟨roV r, .int .u8 0, clock⟩) (clock + 1))).heap[b]? := by rw [e2]
      rw [heap_setBlock_same hb, heap_setBlock_same hb] at this
      exact ⟨(Obj.map.inj (Option.some.inj this)).1, (Obj.map.inj (Option.some.inj this)).2⟩
    obtain ⟨rfl, rfl⟩ := e4
    have e5 : st = clock := by
      simp [goInt] at e3
      omega
    rw [e5] at h3'
    refine ⟨es, _, clock, _, _, hb, ⟨hl0, fun W hW => by rw [run W hW, ez], fun W hW => ?_, h3'⟩⟩
    refine look_at hW (fun e he => ?_) hrw (fun e he hke => ?_) ⟨⟨roV r, .int .u8 0, clock⟩, by simp, rfl⟩
    · simp at he
      rcases he with he | rfl
      · exact hkeys e (by simpa using he)
      · exact ⟨_, key_of hrw⟩
    · simp at he
      rcases he with he | rfl
      · exact absurd hke (g2 e (by simpa using he))
      · rw [ez]
  · -- the key is there
    have hj : es[j]? = some e0 := by simpa using g2
    have hm0 : e0 ∈ es.toList := List.mem_of_getElem? g2
    have hval : e0.val = .int .u8 (f r) := by
      have := hl0 w hb
      simp [Instr.lookup, run_underlying mp_map, MapKept.run_getObj_map hb, mp_law.check w _ (key_of hrw), g1, Result.andThen] at this
      exact this
    have hsame : es.modify j (fun e => { e with key := roV r }) = es := by
      apply Array.ext'
      rw [Array.toList_modify, ChangeMaps.modify_eq_set _ _ _ _ g2]
      have : ({ e0 with key := roV r } : MapEntry) = e0 := by rw [← g3]
      rw [this]
      exact WideElems.set_self _ _ _ g2
    have run : ∀ W : World, W.heap[b]? = some (.map es clock) → (Instr.mapEntry 100 (.map (some b)) (roV r)).run Tryz.prog W = .ok (.tuple #[.int .u8 (f r), goInt e0.born]) (setBlock W b (.map es clock)) := by
      intro W hW
      rcases mp_law.find W (key_of hrw) es.toList hkeys with ⟨q1, q2⟩ | ⟨j', e0', q1, q2, q3⟩
      · exact absurd g3 (q2 e0 hm0)
      · have hj' : es[j']? = some e0' := by simpa using q2
        have ee : e0' = e0 := entry_eq_of_key s3 (List.mem_of_getElem? q2) hm0 (q3.trans g3.symm)
        subst ee
        have hsame' : es.modify j' (fun e => { e with key := roV r }) = es := by
          apply Array.ext'
          rw [Array.toList_modify, ChangeMaps.modify_eq_set _ _ _ _ q2]
          have : ({ e0' with key := roV r } : MapEntry) = e0' := by rw [← g3]
          rw [this]
          exact WideElems.set_self _ _ _ q2
        simp [Instr.mapEntry, run_underlying mp_map, MapKept.run_getObj_map hW, mp_law.check W false (key_of hrw), q1, hj', q3, mp_law.stays W (key_of hrw), hsame', MapKept.run_setObj_map _ hW, Result.andThen, setBlock, hval]
    have e1 := run w hb
    rw [h1] at e1
    have e2 := (Result.ok.inj e1).2
    have e3 := (Result.ok.inj e1).1
    have e4 : es1 = es ∧ clock1 = clock := by
      have : (setBlock w b (.map es1 clock1)).heap[b]? = (setBlock w b (.map es clock)).heap[b]? := by rw [e2]
      rw [heap_setBlock_same hb, heap_setBlock_same hb] at this
      exact ⟨(Obj.map.inj (Option.some.inj this)).1, (Obj.map.inj (Option.some.inj this)).2⟩
    obtain ⟨rfl, rfl⟩ := e4
    have e5 : st = e0.born := by
      simp [goInt] at e3
      omega
    rw [e5] at h3'
    exact ⟨_, _, _, _, _, hb, ⟨hl0, run, hl0, h3'⟩⟩

/-! sets of eight bits -/

theorem u8_or (a b : Int) (ha : setB a) (hb : setB b) : bits .or .u8 a b = orI a b := by
  obtain ⟨A, rfl⟩ := Int.eq_ofNat_of_zero_le ha.1
  obtain ⟨B, rfl⟩ := Int.eq_ofNat_of_zero_le hb.1
  have h1 := ha.2
  have h2 := hb.2
  have hx : A ||| B < 2 ^ 8 := Nat.or_lt_two_pow (by omega) (by omega)
  rw [orI, or_nat A B (by omega) (by omega)]
  have ea : (BitVec.ofInt 8 (A : Int)).toNat = A := by rw [BitVec.ofInt_natCast, BitVec.toNat_ofNat]; exact Nat.mod_eq_of_lt (by omega)
  have eb : (BitVec.ofInt 8 (B : Int)).toNat = B := by rw [BitVec.ofInt_natCast, BitVec.toNat_ofNat]; exact Nat.mod_eq_of_lt (by omega)
  show IntKind.u8.wrap ((BitVec.ofInt 8 (A : Int) ||| BitVec.ofInt 8 (B : Int)).toNat : Int) = _
  rw [BitVec.toNat_or, ea, eb, IntKind.wrap_u8]
  omega

theorem u8_and (a b : Int) (ha : setB a) (hb : setB b) : bits .and .u8 a b = andI a b := by
  obtain ⟨A, rfl⟩ := Int.eq_ofNat_of_zero_le ha.1
  obtain ⟨B, rfl⟩ := Int.eq_ofNat_of_zero_le hb.1
  have h1 := ha.2
  have h2 := hb.2
  have hx : A &&& B < 2 ^ 8 := Nat.and_lt_two_pow _ (by omega)
  rw [andI, and_nat A B (by omega) (by omega)]
  have ea : (BitVec.ofInt 8 (A : Int)).toNat = A := by rw [BitVec.ofInt_natCast, BitVec.toNat_ofNat]; exact Nat.mod_eq_of_lt (by omega)
  have eb : (BitVec.ofInt 8 (B : Int)).toNat = B := by rw [BitVec.ofInt_natCast, BitVec.toNat_ofNat]; exact Nat.mod_eq_of_lt (by omega)
  show IntKind.u8.wrap ((BitVec.ofInt 8 (A : Int) &&& BitVec.ofInt 8 (B : Int)).toNat : Int) = _
  rw [BitVec.toNat_and, ea, eb, IntKind.wrap_u8]
  omega

/-- What of s is not in c. -/
theorem u8_not (s c : Int) (hs : setB s) (hc : setB c) : 0 ≤ bits .andNot .u8 s c ∧ bits .andNot .u8 s c ≤ 255 ∧ (bits .andNot .u8 s c = 0 ↔ orI c s = c) := by
  obtain ⟨S, rfl⟩ := Int.eq_ofNat_of_zero_le hs.1
  obtain ⟨C, rfl⟩ := Int.eq_ofNat_of_zero_le hc.1
  have h1 := hs.2
  have h2 := hc.2
  have ea : (BitVec.ofInt 8 (S : Int)).toNat = S := by rw [BitVec.ofInt_natCast, BitVec.toNat_ofNat]; exact Nat.mod_eq_of_lt (by omega)
  have eb : (BitVec.ofInt 8 (C : Int)).toNat = C := by rw [BitVec.ofInt_natCast, BitVec.toNat_ofNat]; exact Nat.mod_eq_of_lt (by omega)
  have e : bits .andNot .u8 (S : Int) (C : Int) = IntKind.u8.wrap ((BitVec.ofInt 8 (S : Int) &&& ~~~ (BitVec.ofInt 8 (C : Int))).toNat : Int) := rfl
  have hlt := (BitVec.ofInt 8 (S : Int) &&& ~~~ (BitVec.ofInt 8 (C : Int))).isLt
  have e2 : bits .andNot .u8 (S : Int) (C : Int) = ((BitVec.ofInt 8 (S : Int) &&& ~~~ (BitVec.ofInt 8 (C : Int))).toNat : Int) := by
    rw [e, IntKind.wrap_u8]
    omega
  refine ⟨by rw [e2]; omega, by rw [e2]; omega, ?_⟩
  rw [e2, orI, or_nat C S (by omega) (by omega)]
  have key : (BitVec.ofInt 8 (S : Int) &&& ~~~ (BitVec.ofInt 8 (C : Int))).toNat = 0 ↔ C ||| S = C := by
    constructor
    · intro h
      apply Nat.eq_of_testBit_eq
      intro i
      rw [Nat.testBit_or]
      by_cases q : i < 8
      · have hb : (BitVec.ofInt 8 (S : Int) &&& ~~~ (BitVec.ofInt 8 (C : Int))).toNat.testBit i = false := by rw [h]; simp
        rw [BitVec.testBit_toNat, BitVec.getLsbD_and, BitVec.getLsbD_not, ← BitVec.testBit_toNat, ← BitVec.testBit_toNat, ea, eb] at hb
        simp [q] at hb
        cases c1 : S.testBit i
        · simp
        · simp [hb c1]
      · have hi : 256 ≤ 2 ^ i := by
          have : 2 ^ 8 ≤ 2 ^ i := Nat.pow_le_pow_right (by omega) (by omega)
          omega
        rw [Nat.testBit_lt_two_pow (show S < 2 ^ i by omega)]
        simp
    · intro h
      apply Nat.eq_of_testBit_eq
      intro i
      rw [BitVec.testBit_toNat, BitVec.getLsbD_and, BitVec.getLsbD_not, ← BitVec.testBit_toNat, ← BitVec.testBit_toNat, ea, eb]
      have hb : (C ||| S).testBit i = C.testBit i := by rw [h]
      rw [Nat.testBit_or] at hb
      cases c1 : S.testBit i
      · simp
      · rw [c1] at hb
        simp at hb
        simp [hb]
  constructor
  · intro h
    rw [key.1 (by omega)]
  · intro h
    have := key.2 (by omega)
    omega

end Go.Proofs.YtaeigimgobilaaaGreatDoor
