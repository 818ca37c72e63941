/-
  CONTRACTS: impl.ParseStatement.
  Conditions: the variables hold what they should; the text has at most 1<<20 bytes.
-/
import Derived.Test.YtdmejfhojdkfbaaGreatDoorPs2
import Derived.Test.YtdmejfhojdkfbaaGreatDoorPs4
namespace Go.Proofs.YtdmejfhojdkfbaaGreatDoor
open Go.RowKit
set_option linter.unusedVariables false
set_option linter.unusedSimpArgs false

theorem spW_first (t : ByteArray) : ∃ a, (spW t)[0]? = some a := by
  unfold spW
  generalize min 5 (t.size + 1) - 1 = n
  cases n with
  | zero => exact ⟨t, rfl⟩
  | succ n =>
    unfold Lib.splitB
    split
    · exact ⟨t, rfl⟩
    · exact ⟨_, rfl⟩

theorem spW_of {x : StI} (h : stCode x = 0) : spW (stText x) = stW x := by
  unfold spW
  have := stT_min h
  rw [show min 5 ((stText x).size + 1) - 1 = 4 by omega]
  exact st_split h

theorem spW_none : spW ⟨#[]⟩ = [⟨#[]⟩] := rfl

/-- What a statement's text is, fault or not. -/
theorem text_any (y : StI) (t : ByteArray) (ht : t ≠ ⟨#[]⟩) (hno : stCode y = 0 → stText y ≠ t) : ∃ (cc : Int) (tx : ByteArray), (∀ w, GivesX 7 y cc tx w) ∧ (tx.toList == t.toList) = false := by
  by_cases h : stCode y = 0
  · exact ⟨0, stText y, fun w => implSText_ok y w h, byteNe_of (hno h)⟩
  · exact ⟨stCode y, ⟨#[]⟩, fun w => implSText_bad y _ w rfl h, byteNe_of (fun e => ht e.symm)⟩

theorem four_of {α : Type} {l : List α} (h : l.length = 4) : ∃ a b c d, l = [a, b, c, d] := by
  match l, h with
  | [a, b, c, d], _ => exact ⟨a, b, c, d, rfl⟩

theorem three_of {α : Type} {l : List α} (h : l.length = 3) : ∃ a b c, l = [a, b, c] := by
  match l, h with
  | [a, b, c], _ => exact ⟨a, b, c, rfl⟩

/-- A text that is no statement's is left by a panic. -/
theorem statementIn_bad (t : ByteArray) (w : World) (ht : t.size ≤ 1048576) (hE : PE w) (hno : ∀ x, stCode x = 0 → stText x ≠ t) : Calls Tryz.prog 25 #[.string t] w fun e w' => Panics e ∧ Below w.heap.size w w' := by
  obtain ⟨a, ha⟩ := spW_first t
  by_cases hk : ∃ k : Int, 1 ≤ k ∧ k ≤ 4 ∧ swT k = a
  · obtain ⟨k, h1, h4, hka⟩ := hk
    have htn : ∀ n, n ≠ 1 → (spW t).length = n → t ≠ ⟨#[]⟩ := fun n hn hl e => by rw [e, spW_none] at hl; exact hn hl.symm
    cases hf : formK k with
    | true =>
      by_cases hl : (spW t).length = 4
      · obtain ⟨a', b, c, d, hw⟩ := four_of hl
        obtain rfl : a' = a := by rw [hw] at ha; exact Option.some.inj ha
        cases hc : numT c with
        | none => exact statementIn_form_c t w ht hE a' ha k h1 h4 hka hf b c d hw hc
        | some vf =>
          cases hd : setO d with
          | none => exact statementIn_form_d t w ht hE a' ha k h1 h4 hka hf b c d hw vf hc hd
          | some vs =>
            cases hb : numT b with
            | none => exact statementIn_form_b t w ht hE a' ha k h1 h4 hka hf b c d hw vf vs hc hd hb
            | some ve =>
              obtain ⟨cc, tx, q1, q2⟩ := text_any ⟨k, ve, vf, vs, 0⟩ t (htn 4 (by omega) hl) (hno _)
              exact statementIn_form_no t w ht hE a' ha k h1 h4 hka hf b c d hw vf vs hc hd ve hb _ rfl cc tx q1 q2
      · exact statementIn_form_len t w ht hE a ha k h1 h4 hka hf hl
    | false =>
      by_cases hl : (spW t).length = 3
      · obtain ⟨a', b, c, hw⟩ := three_of hl
        obtain rfl : a' = a := by rw [hw] at ha; exact Option.some.inj ha
        cases hc : numT c with
        | none => exact statementIn_next_c t w ht hE a' ha k h1 h4 hka hf b c hw hc
        | some vn =>
          cases hb : numT b with
          | none => exact statementIn_next_b t w ht hE a' ha k h1 h4 hka hf b c hw vn hc hb
          | some ve =>
            obtain ⟨cc, tx, q1, q2⟩ := text_any ⟨k, ve, 0, 0, vn⟩ t (htn 3 (by omega) hl) (hno _)
            exact statementIn_next_no t w ht hE a' ha k h1 h4 hka hf b c hw vn hc ve hb _ rfl cc tx q1 q2
      · exact statementIn_next_len t w ht hE a ha k h1 h4 hka hf hl
  · exact statementIn_kind t w ht hE a ha (fun k q1 q2 q3 => hk ⟨k, q1, q2, q3⟩)

theorem num_of {p : Int} (h0 : 0 ≤ p) (h9 : p ≤ 9) : numT (dgT p) = some p := by
  unfold numT
  rw [pint_of h0 h9]

theorem setO_of {s : Int} (h0 : 0 ≤ s) (h1 : s ≤ 255) : setO (textI s) = some s := by
  have := gather_text s h0 h1
  unfold setO
  rw [this, if_pos rfl]

/-- A statement's text is read as that statement. -/
theorem statementIn_ok (x : StI) (w : World) (ht : (stText x).size ≤ 1048576) (hE : PE w) (h : stCode x = 0) : Calls Tryz.prog 25 #[.string (stText x)] w fun e w' => e = .returned (.agg #[.int .i64 x.k, .int .i64 x.e, .int .i64 x.f, .int .i64 x.s, .int .i64 x.n]) ∧ Below w.heap.size w w' := by
  obtain ⟨hk, he, hn, hf, hs, hf1, hf2⟩ := stn h
  have hw := spW_of h
  cases q : formK x.k with
  | true =>
    have hw4 : spW (stText x) = [swT x.k, dgT x.e, dgT x.f, textI x.s] := by rw [hw]; unfold stW; rw [if_pos q]
    exact statementIn_form_yes (stText x) w ht hE (swT x.k) (by rw [hw4]; rfl) x.k hk.1 hk.2 rfl q _ _ _ hw4 x.f x.s (num_of (by omega) (by omega)) (setO_of hs.1 hs.2) x.e (num_of (by omega) (by omega)) x (by have := hf1 q; cases x; simp_all) 0 (stText x) (fun w => implSText_ok x w h) (byteEq_of rfl)
  | false =>
    have hw3 : spW (stText x) = [swT x.k, dgT x.e, dgT x.n] := by rw [hw]; unfold stW; rw [if_neg (by rw [q]; simp)]
    exact statementIn_next_yes (stText x) w ht hE (swT x.k) (by rw [hw3]; rfl) x.k hk.1 hk.2 rfl q _ _ hw3 x.n (num_of (by omega) (by omega)) x.e (num_of (by omega) (by omega)) x (by have := hf2 q; cases x; simp_all) 0 (stText x) (fun w => implSText_ok x w h) (byteEq_of rfl)

set_option maxRecDepth 20000 in
set_option maxHeartbeats 2000000 in
theorem parse1_ok (b : Nat) (t : ByteArray) (x : StI) (w : World) (hx : w.cell? ⟨b, 0, none⟩ = some (.string t)) (ht : t.size ≤ 1048576) (hE : PE w) (hc : stCode x = 0) (hu : stText x = t) :
    Calls Tryz.prog 24 #[.pointer (some ⟨b, 0, none⟩)] w fun e w' => e = .returned (.agg #[.int .i64 x.k, .int .i64 x.e, .int .i64 x.f, .int .i64 x.s, .int .i64 x.n]) ∧ Below w.heap.size w w' := by
  have B0 : Below w.heap.size w (w.alloc (.cells #[.int .i64 0, .int .i64 0, .int .i64 0, .int .i64 0, .int .i64 0] 26)) := (Below.refl _ _).alloc (Nat.le_refl _) _
  have hbl : b < w.heap.size := World.block_lt_of_cell? w ⟨b, 0, none⟩ hx
  have HC := statementIn_ok x _ (by rw [hu]; exact ht) (hE.below B0) hc
  rw [hu] at HC
  have HCC : Hid (Calls Tryz.prog 25 #[.string t] (w.alloc (.cells #[.int .i64 0, .int .i64 0, .int .i64 0, .int .i64 0, .int .i64 0] 26)) fun e w' => e = .returned (.agg #[.int .i64 x.k, .int .i64 x.e, .int .i64 x.f, .int .i64 x.s, .int .i64 x.n]) ∧ Below (w.heap.size + 1) (w.alloc (.cells #[.int .i64 0, .int .i64 0, .int .i64 0, .int .i64 0, .int .i64 0] 26)) w') := HC.mono fun e w' hh => ⟨hh.1, by have := hh.2; simpa using this⟩
  clear HC hE hu B0 hc
  go_enter Tryz.func24, Tryz.ntmps24
  go_wp2_with fail
  refine HCC.out.mono ?_
  rintro e w1 ⟨rfl, hb1⟩
  have hz := hb1.size
  simp only [World.size_alloc] at hz
  have hw : w.heap.size < w1.heap.size := by omega
  have d : ∀ j, j < 5 → w1.cell? ⟨w.heap.size, j, none⟩ = some (.int .i64 0) := fun j hj => (hb1.cell (p := ⟨w.heap.size, j, none⟩) (by simp)).trans (by
    match j, hj with
    | 0, _ => simp
    | 1, _ => simp
    | 2, _ => simp
    | 3, _ => simp
    | 4, _ => simp)
  have f : ∀ j, w1.frozen? ⟨w.heap.size, j, none⟩ = false := fun j => (hb1.frozen (p := ⟨w.heap.size, j, none⟩) (by simp)).trans (by simp [go_sem])
  have d0 := d 0 (by omega)
  have d1 := d 1 (by omega)
  have d2 := d 2 (by omega)
  have d3 := d 3 (by omega)
  have d4 := d 4 (by omega)
  have f0 := f 0
  have f1 := f 1
  have f2 := f 2
  have f3 := f 3
  have f4 := f 4
  have B1 : Below w.heap.size w w1 := ((Below.refl _ _).alloc (Nat.le_refl _) _).trans (hb1.mono (by omega))
  clear d f hb1
  go_wp2_with fail
  refine bodyPost_ret (v := .agg #[.int .i64 x.k, .int .i64 x.e, .int .i64 x.f, .int .i64 x.s, .int .i64 x.n]) (by simp [results, Tryz.results24, go_sem, d0, d1, d2, d3, d4]) rfl ⟨rfl, ?_⟩
  exact B1.setCell (Nat.le_refl _) _ |>.setCell (Nat.le_refl _) _ |>.setCell (Nat.le_refl _) _ |>.setCell (Nat.le_refl _) _ |>.setCell (Nat.le_refl _) _

set_option maxRecDepth 20000 in
set_option maxHeartbeats 2000000 in
theorem parse1_bad (b : Nat) (t : ByteArray) (w : World) (hx : w.cell? ⟨b, 0, none⟩ = some (.string t)) (ht : t.size ≤ 1048576) (hE : PE w) (hno : ∀ x, stCode x = 0 → stText x ≠ t) :
    Calls Tryz.prog 24 #[.pointer (some ⟨b, 0, none⟩)] w fun e w' => Panics e ∧ Below w.heap.size w w' := by
  have B0 : Below w.heap.size w (w.alloc (.cells #[.int .i64 0, .int .i64 0, .int .i64 0, .int .i64 0, .int .i64 0] 26)) := (Below.refl _ _).alloc (Nat.le_refl _) _
  have hbl : b < w.heap.size := World.block_lt_of_cell? w ⟨b, 0, none⟩ hx
  have HC := statementIn_bad t _ ht (hE.below B0) hno
  have HCC : Hid (Calls Tryz.prog 25 #[.string t] (w.alloc (.cells #[.int .i64 0, .int .i64 0, .int .i64 0, .int .i64 0, .int .i64 0] 26)) fun e w' => Panics e ∧ Below (w.heap.size + 1) (w.alloc (.cells #[.int .i64 0, .int .i64 0, .int .i64 0, .int .i64 0, .int .i64 0] 26)) w') := HC.mono fun e w' hh => ⟨hh.1, by have := hh.2; simpa using this⟩
  clear HC hE hno B0
  go_enter Tryz.func24, Tryz.ntmps24
  go_wp2_with fail
  refine HCC.out.mono ?_
  rintro e w1 ⟨⟨u, pv, rfl⟩, hb1⟩
  go_wp2_with fail
  exact ⟨rfl, ⟨_, _, rfl⟩, ((Below.refl _ _).alloc (Nat.le_refl _) _).trans (hb1.mono (by omega))⟩

theorem enterP1 (cap : Array Value) (w : World) : (callFunc 24 cap).run Tryz.prog w = .ok (.enter 24 cap) w := by kernel_rfl

set_option maxRecDepth 20000 in
set_option maxHeartbeats 2000000 in
theorem implParseS_c (t : ByteArray) (c : Int) (x : StI) (w : World) (ht : t.size ≤ 1048576) (hE : PE w) (h : ReadsS t c x) :
    Calls Tryz.prog 6 #[.string t] w fun e w' => e = .returned (.agg #[.int .i64 c, .int .i64 x.k, .int .i64 x.e, .int .i64 x.f, .int .i64 x.s, .int .i64 x.n]) ∧ Below w.heap.size w w' := by
  obtain ⟨W, hW⟩ : ∃ W, W = (w.alloc (.cells #[.string t] 9)).alloc (.cells #[.int .i64 0, .int .i64 0, .int .i64 0, .int .i64 0, .int .i64 0, .int .i64 0] 28) := ⟨_, rfl⟩
  have HW : Hid (W = (w.alloc (.cells #[.string t] 9)).alloc (.cells #[.int .i64 0, .int .i64 0, .int .i64 0, .int .i64 0, .int .i64 0, .int .i64 0] 28)) := hW
  have B0 : Below w.heap.size w W := by rw [hW]; exact ((Below.refl _ _).alloc (Nat.le_refl _) _).alloc (by simp) _
  have X0 : W.cell? ⟨w.heap.size, 0, none⟩ = some (.string t) := by rw [hW]; go_cell
  have R0 : Hid (SRes W (w.heap.size + 1) 0 noSt) := by rw [hW, show w.heap.size + 1 = (w.alloc (.cells #[.string t] 9)).heap.size by simp]; exact SRes.new _ _
  have HB0 : Hid (Below w.heap.size w W) := B0
  have hE0 := hE.below B0
  have hxl := World.block_lt_of_cell? W ⟨w.heap.size, 0, none⟩ X0
  have HK : Hid (Calls Tryz.prog 23 #[.func (.func 24) #[] #[.pointer (some ⟨w.heap.size, 0, none⟩)]] W fun e w' => e = .returned (.agg #[.int .i64 c, .int .i64 x.k, .int .i64 x.e, .int .i64 x.f, .int .i64 x.s, .int .i64 x.n]) ∧ Below W.heap.size W w') := by
    rcases h with ⟨rfl, h0, hu⟩ | ⟨rfl, rfl, hno⟩
    · exact readOrTell_ok 24 _ x W (enterP1 _) (fun w2 hb => parse1_ok _ t x w2 ((hb.cell (p := ⟨w.heap.size, 0, none⟩) hxl).trans X0) ht (hE0.below hb) h0 hu)
    · exact readOrTell_bad 24 _ W (enterP1 _) (fun w2 hb => parse1_bad _ t w2 ((hb.cell (p := ⟨w.heap.size, 0, none⟩) hxl).trans X0) ht (hE0.below hb) hno)
  have hmf : ∀ (fn : Fn) (first cap : Array Value) (w : World), (Instr.makeFunc fn first cap).run Tryz.prog w = .ok (.func fn first cap) w := fun _ _ _ _ => rfl
  clear hE0 h hE hW B0 X0 hxl
  go_enter Tryz.func6, Tryz.ntmps6
  go_wp2_with fail
  rw [← HW.out]
  refine HK.out.mono ?_
  rintro e w1 ⟨rfl, hb1⟩
  have R1 := R0.out.below hb1
  have B1 : Hid (Below w.heap.size w (SPut w1 (w.heap.size + 1) c x)) := SPut_below (HB0.out.trans (hb1.mono HB0.out.size)) (by omega) c x
  have R2 : Hid (SRes (SPut w1 (w.heap.size + 1) c x) (w.heap.size + 1) c x) := SPut_at R1
  obtain ⟨⟨d0, d1, d2, d3, d4, d5⟩, hf⟩ := R1
  have f0 := hf 0
  have f1 := hf 1
  have f2 := hf 2
  have f3 := hf 3
  have f4 := hf 4
  have f5 := hf 5
  clear hf hb1
  go_wp2_with fail
  obtain ⟨⟨c0, c1, c2, c3, c4, c5⟩, _⟩ := R2.out
  exact bodyPost_ret (v := .agg #[.int .i64 c, .int .i64 x.k, .int .i64 x.e, .int .i64 x.f, .int .i64 x.s, .int .i64 x.n]) (by simp [results, Tryz.results6, go_sem, c0, c1, c2, c3, c4, c5]) rfl ⟨rfl, B1.out⟩

end Go.Proofs.YtdmejfhojdkfbaaGreatDoor
