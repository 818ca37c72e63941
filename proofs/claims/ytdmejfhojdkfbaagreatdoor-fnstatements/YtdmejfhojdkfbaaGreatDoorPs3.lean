/-
  CONTRACTS: what impl's reading of a statement's words calls: kindIn, numberIn, setIn.
  Conditions: the variables hold errors where a panic is met; each contract bears its own.
-/
import Derived.Test.YtdmejfhojdkfbaaGreatDoorPs0
import Derived.Test.YtdmejfhojdkfbaaGreatDoorSt7
import Derived.Test.YtdmejfhojdkfbaaGreatDoorSt15
namespace Go.Proofs.YtdmejfhojdkfbaaGreatDoor
open Go.RowKit
set_option linter.unusedVariables false
set_option linter.unusedSimpArgs false

theorem var_below {P : Program} {n : String} {cs : Array Value} {w w' : World} (h : w.var? P n = some cs) (hb : Below w.heap.size w w') : w'.var? P n = some cs := by
  unfold World.var? at h ⊢
  cases hg : P.globalNamed n with
  | none => rw [hg] at h; cases h
  | some g =>
    rw [hg] at h
    have hl : g < w.heap.size := by
      by_cases q : g < w.heap.size
      · exact q
      · simp only [Option.bind_some] at h
        rw [Array.getElem?_eq_none (by omega)] at h
        cases h
    simp only [Option.bind_some] at h ⊢
    rw [hb.block g hl]
    exact h

/-- What the reading asks of the variables. -/
structure PE (w : World) : Prop where
  eu : ErrAt 0 w
  es : ∃ tp p, w.var? Tryz.prog "strconv.ErrSyntax" = some #[.iface tp p]
  er : ∃ tp p, w.var? Tryz.prog "strconv.ErrRange" = some #[.iface tp p]
  ml : ∃ m, w.cell? ⟨2, 0, none⟩ = some (.int .i64 m)

theorem PE.below {w w' : World} (h : PE w) (hb : Below w.heap.size w w') : PE w' := by
  obtain ⟨t1, p1, e1⟩ := h.es
  obtain ⟨t2, p2, e2⟩ := h.er
  obtain ⟨m, hm⟩ := h.ml
  exact ⟨h.eu.below hb, ⟨t1, p1, var_below e1 hb⟩, ⟨t2, p2, var_below e2 hb⟩, ⟨m, (hb.cell (p := ⟨2, 0, none⟩) (World.block_lt_of_cell? w ⟨2, 0, none⟩ hm)).trans hm⟩⟩

theorem sw_inj {j k : Int} (hj : 1 ≤ j) (hj4 : j ≤ 4) (hk : 1 ≤ k) (hk4 : k ≤ 4) (h : swT j = swT k) : j = k := by
  have h1 : j = 1 ∨ j = 2 ∨ j = 3 ∨ j = 4 := by omega
  have h2 : k = 1 ∨ k = 2 ∨ k = 3 ∨ k = 4 := by omega
  rcases h1 with rfl | rfl | rfl | rfl <;> rcases h2 with rfl | rfl | rfl | rfl <;> first | rfl | exact absurd h (by decide)

set_option maxRecDepth 20000 in
set_option maxHeartbeats 1000000 in
theorem kindIn_ok (k : Int) (w : World) (h1 : 1 ≤ k) (h4 : k ≤ 4) : Calls Tryz.prog 48 #[.string (swT k)] w fun e w' => e = .returned (.int .i64 k) ∧ Below w.heap.size w w' := by
  obtain ⟨t, ht⟩ : ∃ t, swT k = t := ⟨_, rfl⟩
  have HT : Hid (swT k = t) := ht
  rw [ht]
  clear ht
  go_enter Tryz.func48, Tryz.ntmps48
  go_wp2_with fail
  go_loopw [3] (fun v wr => ∃ j : Nat, 1 ≤ j ∧ (j : Int) ≤ k ∧ v = .int .i64 (j : Int) ∧ Below w.heap.size w wr) (fun v _ => 5 - (intOf v).toNat)
  case atStart => exact ⟨1, by omega, by omega, rfl, Below.refl _ _⟩
  case round =>
    obtain ⟨j, hj1, hjk, rfl, hnx⟩ := hrel
    have hj4 : (j : Int) ≤ 4 := by omega
    by_cases e : (j : Int) = k
    · have hs : ((swT (j : Int)).toList == t.toList) = true := by rw [e, HT.out]; simp
      have HE : Hid ((j : Int) = k) := e
      clear e
      go_wp2_with fail
      refine (sayWord_c (j : Int) _).mono ?_
      rintro d w1 ⟨rfl, rfl⟩
      generalize swT (j : Int) = u at hs ⊢
      go_wp2
      go_ret
      exact ⟨by rw [← HE.out]; rfl, hnx⟩
    · have hs : ((swT (j : Int)).toList == t.toList) = false := by
        rw [← HT.out]
        exact byteNe_of (fun q => e (sw_inj (by omega) hj4 h1 h4 q))
      have hlt : (j : Int) < k := by omega
      clear e
      go_wp2_with fail
      refine (sayWord_c (j : Int) _).mono ?_
      rintro d w1 ⟨rfl, rfl⟩
      generalize swT (j : Int) = u at hs ⊢
      go_wp2
      exact ⟨⟨j + 1, by omega, by omega, by go_num, hnx⟩, by simp [intOf]; omega⟩

set_option maxRecDepth 20000 in
set_option maxHeartbeats 1000000 in
theorem kindIn_bad (t : ByteArray) (w : World) (hE : ErrAt 0 w) (h : ∀ k : Int, 1 ≤ k → k ≤ 4 → swT k ≠ t) : Calls Tryz.prog 48 #[.string t] w fun e w' => Panics e ∧ Below w.heap.size w w' := by
  have HT : Hid (∀ k : Int, 1 ≤ k → k ≤ 4 → swT k ≠ t) := h
  have HE : Hid (ErrAt 0 w) := hE
  clear h hE
  go_enter Tryz.func48, Tryz.ntmps48
  go_wp2_with fail
  go_loopw [3] (fun v wr => ∃ j : Nat, 1 ≤ j ∧ j ≤ 5 ∧ v = .int .i64 (j : Int) ∧ Below w.heap.size w wr) (fun v _ => 5 - (intOf v).toNat)
  case atStart => exact ⟨1, by omega, by omega, rfl, Below.refl _ _⟩
  case round =>
    obtain ⟨j, hj1, hj5, rfl, hnx⟩ := hrel
    by_cases hj : j < 5
    · have hj4 : (j : Int) ≤ 4 := by omega
      have hs : ((swT (j : Int)).toList == t.toList) = false := byteNe_of (HT.out (j : Int) (by omega) hj4)
      go_wp2_with fail
      refine (sayWord_c (j : Int) _).mono ?_
      rintro d w1 ⟨rfl, rfl⟩
      generalize swT (j : Int) = u at hs ⊢
      go_wp2
      exact ⟨⟨j + 1, by omega, by omega, by go_num, hnx⟩, by simp [intOf]; omega⟩
    · have hj4 : ¬ (j : Int) ≤ 4 := by omega
      obtain ⟨a, ha⟩ := HE.out.below hnx
      go_wp2
      exact ⟨rfl, ⟨_, _, rfl⟩, hnx⟩

theorem below_bytes (w : World) (t : ByteArray) : Below w.heap.size w (Lib.bytesWorld w 5 t) :=
  ⟨rfl, rfl, rfl, by rw [Lib.bytesWorld_size]; omega, fun k hk => Lib.bytesWorld_at_old w _ t k hk⟩

/-- The number that a word tells; none: it tells none. -/
def numT (t : ByteArray) : Option Int := match Lib.parseIntB 64 t.data.toList with
  | .ok v => some v
  | _ => none

set_option maxRecDepth 20000 in
set_option maxHeartbeats 1000000 in
theorem numberIn_ok (t : ByteArray) (v : Int) (w : World) (ht : t.size ≤ 1048576) (h : numT t = some v) : Calls Tryz.prog 50 #[.string t] w fun e w' => e = .returned (.int .i64 v) ∧ Below w.heap.size w w' := by
  have hp : Lib.parseIntB 64 t.data.toList = .ok v := by
    unfold numT at h
    split at h
    · rename_i u hu; cases h; exact hu
    · cases h
  have HP : Hid (∀ w : World, Calls Tryz.prog 71 #[.string t, .int .i64 10, .int .i64 64] w fun e w' => e = .returned (.tuple #[.int .i64 v, .nilIface]) ∧ Below w.heap.size w w') := fun w => (Tryz.strconv_ParseInt_10_at64_ok t (by omega) v hp w).mono fun e w' hh => ⟨hh.1, by
    rcases hh.2 with rfl | ⟨u, rfl⟩
    · exact Below.refl _ _
    · exact below_bytes _ _⟩
  clear h hp
  go_enter Tryz.func50, Tryz.ntmps50
  go_wp2_with fail
  refine (HP.out _).mono ?_
  rintro e w1 ⟨rfl, hb1⟩
  go_wp2_with fail
  refine (demand_ok _).mono ?_
  rintro e w2 ⟨rfl, rfl⟩
  go_wp2
  go_ret
  exact ⟨rfl, hb1⟩

set_option maxRecDepth 20000 in
set_option maxHeartbeats 1000000 in
theorem numberIn_bad (t : ByteArray) (w : World) (ht : t.size ≤ 1048576) (h : numT t = none) (hE : PE w) : Calls Tryz.prog 50 #[.string t] w fun e w' => Panics e ∧ Below w.heap.size w w' := by
  have HP : Hid (Calls Tryz.prog 71 #[.string t, .int .i64 10, .int .i64 64] w fun e w' => ∃ (v : Int) (N : Nat), e = .returned (.tuple #[.int .i64 v, .iface 123 (.pointer (some ⟨N, 0, none⟩))]) ∧ Below w.heap.size w w') := by
    cases hp : Lib.parseIntB 64 t.data.toList with
    | ok v => unfold numT at h; rw [hp] at h; cases h
    | «syntax» =>
      obtain ⟨tp, p, hv⟩ := hE.es
      exact (Tryz.strconv_ParseInt_10_at64_syntax_var t (by omega) hp tp p w hv).mono fun e w' hh => by
        obtain ⟨N, h1, _, _, h4⟩ := hh
        exact ⟨0, N, h1, h4⟩
    | range =>
      obtain ⟨tp, p, hv⟩ := hE.er
      exact (Tryz.strconv_ParseInt_10_at64_range_var t (by omega) hp tp p w hv).mono fun e w' hh => by
        obtain ⟨N, h1, _, _, h4⟩ := hh
        exact ⟨_, N, h1, h4⟩
  have HE : Hid (ErrAt 0 w) := hE.eu
  clear h hE
  go_enter Tryz.func50, Tryz.ntmps50
  go_wp2_with fail
  refine HP.out.mono ?_
  rintro e w1 ⟨v, N, rfl, hb1⟩
  go_wp2_with fail
  refine (demand_bad _ (HE.out.below hb1)).mono ?_
  rintro e w2 ⟨⟨u, pv, rfl⟩, rfl⟩
  go_wp2_with fail
  exact ⟨rfl, ⟨_, _, rfl⟩, hb1⟩

/-- The set that a word tells; none: it tells none. -/
def setO (d : ByteArray) : Option Int := if d = textI (gatherTo d.data.toList d.size) then some (gatherTo d.data.toList d.size) else none

set_option maxRecDepth 20000 in
set_option maxHeartbeats 1000000 in
theorem setIn_ok (d : ByteArray) (v : Int) (w : World) (hd : d.size ≤ 1048576) (h : setO d = some v) : Calls Tryz.prog 51 #[.string d] w fun e w' => e = .returned (.int .i64 v) ∧ Below w.heap.size w w' := by
  have HP : Hid (∀ w : World, Calls Tryz.prog 72 #[.string d] w fun e w' => e = .returned (.agg #[.int .i64 0, .int .i64 v]) ∧ Below w.heap.size w w') := fun w => implParse_w d w hd 0 v (.inl (by
    unfold setO at h
    split at h
    · rename_i q; cases h; exact ⟨q, rfl, rfl⟩
    · cases h))
  clear h
  go_enter Tryz.func51, Tryz.ntmps51
  go_wp2_with fail
  refine (HP.out _).mono ?_
  rintro e w1 ⟨rfl, hb1⟩
  have B1 : Below w.heap.size w (w1.alloc (.cells #[.int .i64 0, .int .i64 v] 98)) := hb1.alloc hb1.size _
  go_wp2_with fail
  refine (demand_ok _).mono ?_
  rintro e w2 ⟨rfl, rfl⟩
  go_wp2
  go_ret
  exact ⟨rfl, B1⟩

set_option maxRecDepth 20000 in
set_option maxHeartbeats 1000000 in
theorem setIn_bad (d : ByteArray) (w : World) (hd : d.size ≤ 1048576) (h : setO d = none) (hE : PE w) : Calls Tryz.prog 51 #[.string d] w fun e w' => Panics e ∧ Below w.heap.size w w' := by
  have HP : Hid (∀ w : World, Calls Tryz.prog 72 #[.string d] w fun e w' => e = .returned (.agg #[.int .i64 5, .int .i64 0]) ∧ Below w.heap.size w w') := fun w => implParse_w d w hd 5 0 (.inr (by
    unfold setO at h
    split at h
    · cases h
    · rename_i q; exact ⟨q, rfl, rfl⟩))
  have HE : Hid (ErrAt 0 w) := hE.eu
  clear h hE
  go_enter Tryz.func51, Tryz.ntmps51
  go_wp2_with fail
  refine (HP.out _).mono ?_
  rintro e w1 ⟨rfl, hb1⟩
  have B1 : Below w.heap.size w (w1.alloc (.cells #[.int .i64 5, .int .i64 0] 98)) := hb1.alloc hb1.size _
  go_wp2_with fail
  refine (demand_bad _ (HE.out.below B1)).mono ?_
  rintro e w2 ⟨⟨u, pv, rfl⟩, rfl⟩
  go_wp2_with fail
  exact ⟨rfl, ⟨_, _, rfl⟩, B1⟩

end Go.Proofs.YtdmejfhojdkfbaaGreatDoor
