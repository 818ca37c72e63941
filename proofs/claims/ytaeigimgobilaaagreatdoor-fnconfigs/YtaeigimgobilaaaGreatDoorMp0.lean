/-
  THE MAP OF GRANTS: what a block that holds it reads as, its look-ups, what is written at a key, in the words of the maps' library. No Go text is walked here.
  Conditions: each fact bears its own.
-/
import Derived.Test.YtaeigimgobilaaaGreatDoorGr8
import Derived.Test.YtaeigimgobilaaaGreatDoorSpec1
import Derived.Maps.Own
import Derived.Maps.OwnSet
import Derived.Maps.Ext
import Derived.Maps.RangeWalk
import Derived.DeepKeys4
import Derived.WideKeyEntry
namespace Go.Proofs.YtaeigimgobilaaaGreatDoor
open Go.RowKit Go.Maps
open Go.ChangeMaps (setBlock heap_setBlock_same heap_setBlock_other)
set_option linter.unusedSimpArgs false
set_option maxRecDepth 4000

theorem mp_map : Tryz.prog.underlying 100 = some (.map 66 106) := by kernel_rfl
theorem mp_set : Tryz.prog.underlying 106 = some (.int .u8) := by kernel_rfl
theorem mp_laid : laidOutB Tryz.prog = true := by kernel_rfl
theorem mp_row : (66 : TypeId) < Tryz.prog.types.size := of_decide_eq_true (by kernel_rfl)
theorem mp_kt : Tryz.prog.keyTypeAt 2 66 = true := by kernel_rfl
theorem mp_lim : 2 + 1 ≤ 10000 := by omega
theorem mp_law : WideMaps.KeyLaw Tryz.prog 66 := by
  refine deep_law_laid (m := 2) mp_laid mp_lim mp_row mp_kt ?_
  rw [Tryz.underlying66]
theorem mp_keyed : Keyed Tryz.prog 66 := Keyed.of_law mp_law
theorem mp_zero (w : World) : (zeroValue 106).run Tryz.prog w = .ok (.int .u8 0) w := by kernel_rfl
theorem mp_cells : Tryz.prog.cellsOf 66 = 2 := by kernel_rfl
theorem mp_cell1 : Tryz.prog.cellsOf 2 = 1 := by kernel_rfl
theorem mp_keyT : Tryz.prog.keyType 66 = true := by kernel_rfl
theorem mp_types : ∃ d, Tryz.prog.types.size + 1 = d + 2 := by
  have h : 66 < Tryz.prog.types.size := mp_row
  generalize Tryz.prog.types.size = n at h ⊢
  exact ⟨n - 1, by omega⟩

abbrev roV (r : RoI) : Value := .agg #[.int .i64 r.1, .int .i64 r.2]
def roW (r : RoI) : Prop := (Lit.int .i64 r.1).wf = true ∧ (Lit.int .i64 r.2).wf = true
def keyL (r : RoI) : Lit := .string (keyBytes [.int .i64 r.1, .int .i64 r.2])

theorem roW_of {r : RoI} (h : roleB r.1 r.2 = true) : roW r := by
  simp [roleB, prinB, nameB] at h
  constructor
  · simp [Lit.wf, IntKind.min, IntKind.max, IntKind.signed, IntKind.bits]; omega
  · simp [Lit.wf, IntKind.min, IntKind.max, IntKind.signed, IntKind.bits]; omega

theorem key_lit1 (d : Nat) (v : Value) : Tryz.prog.keyLits (d + 1) 2 [v] = match v with | .int q n => if q = .i64 ∧ (Lit.int .i64 n).wf = true then some [.int .i64 n] else none | _ => none := by
  cases v <;> simp [Program.keyLits, Tryz.underlying2]

theorem key_lits (d : Nat) (a b : Value) : Tryz.prog.keyLits (d + 2) 66 [a, b] = (Tryz.prog.keyLits (d + 1) 2 [a]).bind fun x => (Tryz.prog.keyLits (d + 1) 2 [b]).map fun y => x ++ y := by
  generalize hx : Tryz.prog.keyLits (d + 1) 2 [a] = x
  generalize hy : Tryz.prog.keyLits (d + 1) 2 [b] = y
  conv => lhs; unfold Program.keyLits
  simp only [Tryz.underlying66]
  simp [mp_cells, mp_cell1, List.mapM_cons, hx, hy]
  cases x <;> simp
  cases y <;> simp

theorem key_of {r : RoI} (h : roW r) : keyOf Tryz.prog 66 (roV r) = some (keyL r) := by
  obtain ⟨d, hd⟩ := mp_types
  unfold keyOf
  simp only [Tryz.underlying66]
  simp [mp_keyT, Value.formed, Tryz.underlying66, mp_cells, Value.cells, hd, key_lits, key_lit1, h.1, h.2, keyL]

theorem key_inv {v : Value} {kl : Lit} (h : keyOf Tryz.prog 66 v = some kl) : ∃ r, roW r ∧ v = roV r ∧ kl = keyL r := by
  obtain ⟨d, hd⟩ := mp_types
  unfold keyOf at h
  simp only [Tryz.underlying66] at h
  split at h
  · rename_i hc
    rw [Bool.and_eq_true] at hc
    have hf := hc.2
    cases v <;> simp [Value.formed, Tryz.underlying66, mp_cells] at hf
    rename_i xs
    obtain ⟨a, b, rfl⟩ : ∃ a b, xs = #[a, b] := by
      rcases xs with ⟨l⟩
      match l, hf with
      | [a, b], _ => exact ⟨a, b, rfl⟩
    rw [hd, show (Value.cells (.agg #[a, b])).toList = [a, b] from rfl, key_lits, key_lit1, key_lit1] at h
    obtain ⟨ls, h1, rfl⟩ := Option.map_eq_some_iff.1 h
    obtain ⟨l1, hx, h2⟩ := Option.bind_eq_some_iff.1 h1
    obtain ⟨l2, hy, rfl⟩ := Option.map_eq_some_iff.1 h2
    cases a <;> simp at hx
    cases b <;> simp at hy
    obtain ⟨⟨rfl, wx⟩, rfl⟩ := hx
    obtain ⟨⟨rfl, wy⟩, rfl⟩ := hy
    exact ⟨(_, _), ⟨wx, wy⟩, rfl, rfl⟩
  · cases h

theorem keyL_inj {a b : RoI} (ha : roW a) (hb : roW b) (h : keyL a = keyL b) : a = b := by
  have := mp_keyed.inj (key_of ha) (h ▸ key_of hb)
  simp at this
  exact Prod.ext this.1 this.2

theorem keyL_key (r : RoI) : WideAt.IsKeyLit (keyL r) := trivial

/-- What a map reads as tells who has which role. -/
structure View (D : DataW Unit) (f : RoI → Int) : Prop where
  at' : ∀ r, roW r → D.atKey (keyL r) (.lit (.int .u8 0)) = .lit (.int .u8 (f r))
  has : ∀ r, roW r → Maps.has D (keyL r) = decide (f r ≠ 0)

noncomputable abbrev elU : Value → Option (DataW Unit × List MemPlace) := plainElem Tryz.prog 106

theorem elU_int {s : Int} (h : setB s) : elU (.int .u8 s) = some (.lit (.int .u8 s), []) := by
  refine plainElem_int mp_set ?_
  have := h.1
  have := h.2
  simp [Lit.wf, IntKind.min, IntKind.max, IntKind.signed, IntKind.bits]
  omega

/-- Block b holds who has which role. -/
def GM (w : World) (b : Nat) (f : RoI → Int) : Prop := FN f ∧ ∃ D n, w.ownsMap Tryz.prog 66 elU b n D ∧ View D f

theorem GM.fn {w : World} {b : Nat} {f : RoI → Int} (h : GM w b f) : FN f := h.1

theorem GM.lt {w : World} {b : Nat} {f : RoI → Int} (h : GM w b f) : b < w.heap.size := by
  obtain ⟨_, D, n, ho, _⟩ := h
  exact ho.lt

theorem gm_heap {w w' : World} {b b' : Nat} {f : RoI → Int} (h : GM w b f) (e : w'.heap[b']? = w.heap[b]?) : GM w' b' f := by
  obtain ⟨h1, D, n, ⟨es, clock, hb, F, hs, hD⟩, hv⟩ := h
  exact ⟨h1, D, n, ⟨es, clock, e.trans hb, F, hs, hD⟩, hv⟩

theorem GM.below {w w' : World} {b k : Nat} {f : RoI → Int} (h : GM w b f) (hk : b < k) (hb : Below k w w') : GM w' b f := gm_heap h (hb.block b hk)

/-- How many entries there may be. -/
theorem own_size {w : World} {b n : Nat} {D : DataW Unit} {f : RoI → Int} (hf : FN f) (ho : w.ownsMap Tryz.prog 66 elU b n D) (hv : View D f) : w.ownsMap Tryz.prog 66 elU b 40 D ∧ Maps.size D ≤ 40 := by
  obtain ⟨es', hD', hne, _⟩ := ho.entries mp_keyed
  obtain ⟨es, clock, hb, F, hs, hD⟩ := ho
  have hlen : Maps.size D = es.size := by
    rw [hD]
    show ((es.toList.map _).foldr DataW.insert []).length = _
    rw [length_sorted]
    simp
  have hkeys : ∀ p ∈ es', ∃ r, roleB r.1 r.2 = true ∧ p.1 = keyL r := by
    intro p hp
    have hp' : p ∈ es.toList.map (WideElems.rg Tryz.prog 66 elU) := by
      rw [hD] at hD'
      have := (DataW.map.inj hD').symm
      rw [this] at hp
      exact mem_sorted.1 hp
    obtain ⟨v, hvv⟩ := fit_keys F p hp'
    obtain ⟨r, hr, _, e⟩ := key_inv hvv
    refine ⟨r, ?_, e⟩
    refine hf.ro r ?_
    have h1 := hv.has r hr
    rw [hD', has_eq] at h1
    have : (es'.any fun p => p.1.sameKey (keyL r)) = true := List.any_eq_true.2 ⟨p, hp, by rw [e]; exact WideAt.sameKey_self (keyL_key r)⟩
    rw [this] at h1
    exact of_decide_eq_true h1.symm
  have h40 : es'.length ≤ 40 := by
    have hnd : (es'.map Prod.fst).Nodup := List.pairwise_map.2 hne
    have := @nodup_len Lit (fun _ _ => Classical.propDecidable _) (es'.map Prod.fst) (allRo.map keyL) hnd (fun x hx => by
      obtain ⟨p, hp, rfl⟩ := List.mem_map.1 hx
      obtain ⟨r, hr, e⟩ := hkeys p hp
      rw [e]
      exact List.mem_map.2 ⟨r, mem_allRo hr, rfl⟩)
    simpa [allRo_len] using this
  have hsz : Maps.size D ≤ 40 := by rw [hD', size_eq]; exact h40
  exact ⟨⟨es, clock, hb, F, by omega, hD⟩, hsz⟩

theorem gm_made (w : World) : GM (w.alloc (.map #[] 0)) w.heap.size zeroF := by
  refine ⟨fn_zero, .map [], 0, World.ownsMap_made w _ _ _, ⟨fun r _ => ?_, fun r _ => ?_⟩⟩
  · rfl
  · rfl

theorem gm_look {w : World} {b : Nat} {f : RoI → Int} (h : GM w b f) {r : RoI} (hr : roW r) : (Instr.lookup 100 (.map (some b)) (roV r) false).run Tryz.prog w = .ok (.int .u8 (f r)) w := by
  obtain ⟨_, D, n, ho, hv⟩ := h
  obtain ⟨c, h1, h2, _⟩ := ho.lookup_int mp_keyed mp_map mp_set (mp_zero w) (key_of hr)
  rw [hv.at' r hr] at h2
  cases h2
  exact h1

/-- The set at a role is turned. -/
def setF (f : RoI → Int) (r : RoI) (s : Int) : RoI → Int := fun r' => if r' = r then s else f r'

theorem view_put {D : DataW Unit} {f : RoI → Int} (hm : IsMap D) (h : View D f) {r : RoI} (hr : roW r) {s : Int} (hs : s ≠ 0) : View (D.put (keyL r) (.lit (.int .u8 s))) (setF f r s) := by
  refine ⟨fun r' hr' => ?_, fun r' hr' => ?_⟩
  · by_cases e : r' = r
    · subst e
      rw [atKey_put_same hm (keyL_key _), setF, if_pos rfl]
    · rw [atKey_put_other (fun q => e (keyL_inj hr' hr q)), h.at' r' hr', setF, if_neg e]
  · by_cases e : r' = r
    · subst e
      rw [has_put_same hm (keyL_key _), setF, if_pos rfl]
      simp [hs]
    · rw [has_put_other (fun q => e (keyL_inj hr' hr q)), h.has r' hr', setF, if_neg e]

/-- 'm[r] = ..' of the value that was there: what is asked, then what is written. -/
theorem gm_entry {w : World} {b : Nat} {f : RoI → Int} (h : GM w b f) {r : RoI} (hr : roleB r.1 r.2 = true) :
    ∃ (st : Nat) (w1 : World), (Instr.mapEntry 100 (.map (some b)) (roV r)).run Tryz.prog w = .ok (.tuple #[.int .u8 (f r), goInt st]) w1 ∧ w.grownBy w1 (some b) ∧ w1.heap.size = w.heap.size ∧
      ∀ (w2 : World) (s : Int), w2.heap[b]? = w1.heap[b]? → setB s → s ≠ 0 → ∃ w3, (Instr.entryStore 100 (.map (some b)) (goInt st) (.int .u8 s)).run Tryz.prog w2 = .ok () w3 ∧ w2.grownBy w3 (some b) ∧ w3.heap.size = w2.heap.size ∧ GM w3 b (setF f r s) := by
  have hrw := roW_of hr
  have hlook := gm_look h hrw
  obtain ⟨hfn, D, n, ho, hv⟩ := h
  have ho40 := (own_size hfn ho hv).1
  have hm := (ho40.entries mp_keyed)
  have hup := fun (s : Int) (hs : setB s) => ho40.update mp_keyed mp_map (by unfold maxLen; omega) (key_of hrw) (elU_int hs)
  obtain ⟨es, clock, hb, F, hsz, hD⟩ := ho40
  obtain ⟨v0, st, es1, clock1, h1, h2, h3⟩ := WideElems.entry_then_store mp_law mp_map mp_zero hb F (key_of hrw)
  have ev : v0 = .int .u8 (f r) := by
    rcases Maps.fit_look false mp_keyed mp_map (mp_zero w) hb F (key_of hrw) with ⟨hrun, hno, _⟩ | ⟨e0, y, he0, hk0, hrun, _⟩
    · rw [hlook] at hrun
      have hrun := (Result.ok.inj hrun).1
      rcases h2 with ⟨e0, hm0, hk0, _⟩ | ⟨_, e⟩
      · exact absurd hk0 (hno e0 hm0)
      · rw [e]; exact hrun.symm
    · rw [hlook] at hrun
      have hrun := (Result.ok.inj hrun).1
      rcases h2 with ⟨e1, hm1, hk1, e⟩ | ⟨hno, _⟩
      · rw [e]
        have hn : es.toList.Pairwise (fun x y => x.key ≠ y.key) := ((MapKept.stamped_iff es clock).1 F.stamped).2.2
        rw [entry_eq_of_key hn hm1 he0 (hk1.trans hk0.symm)]; exact hrun.symm
      · exact absurd hk0 (hno e0 he0)
  subst ev
  refine ⟨st, _, h1, ⟨rfl, rfl, rfl, by simp [setBlock], fun i _ hi => heap_setBlock_other hb _ (fun e => hi (by rw [e]))⟩, by simp [setBlock], fun w2 s hw2 hs hs0 => ?_⟩
  rw [heap_setBlock_same hb] at hw2
  obtain ⟨es', clock', h4, h5⟩ := h3 w2 (.int .u8 s) hw2
  obtain ⟨w', h6, h7, _⟩ := hup s hs
  rw [h5] at h6
  cases h6
  refine ⟨_, h4, ⟨rfl, rfl, rfl, by simp [setBlock], fun i _ hi => heap_setBlock_other hw2 _ (fun e => hi (by rw [e]))⟩, by simp [setBlock], ?_⟩
  refine gm_heap (w := setBlock w b (.map es' clock')) (b := b) ?_ (by rw [heap_setBlock_same hw2, heap_setBlock_same hb])
  refine ⟨⟨fun r' => ?_, fun r' hn => ?_⟩, _, _, h7, view_put ?_ hv hrw hs0⟩
  · unfold setF
    split
    · exact hs
    · exact hfn.st _
  · unfold setF at hn
    split at hn
    · rename_i e; rw [e]; exact hr
    · exact hfn.ro _ hn
  · obtain ⟨es0, e, _⟩ := hm
    exact ⟨es0, e⟩

end Go.Proofs.YtaeigimgobilaaaGreatDoor
