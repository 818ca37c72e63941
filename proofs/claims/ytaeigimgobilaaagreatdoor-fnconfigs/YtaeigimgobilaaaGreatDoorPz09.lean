/-
  CONTRACTS: AllowsIn of both programs.
  Conditions: each contract bears its own.
  CONTRACTS: spec.l6Allows, spec.AllowsIn.
  Conditions: each contract bears its own.
  CONTRACTS of spec.l1Digits (one digit) and spec.l1Text, for sets of 0 to 255.
  Conditions: each contract bears its own.
  THE LIBRARY's OWN CONTRACTS of strings.Join and strconv.FormatInt (small numbers), laid at this program by the kit's tools (lay-shelf, lay-plain).
  Conditions: each theorem bears its own.
  CONTRACTS of strconv.FormatInt and impl.numberText, for 1 to 8.
  Conditions: the number is 1 to 8.
  CONTRACTS on the text of a role: spec.l2Text, impl's Role.text, RoleText of both programs.
  Conditions: each contract bears its own.
  PLAIN WORDS on the texts of a form's parts, and CONTRACT of impl.partText.
  Conditions: each fact bears its own.
  CONTRACT: impl.PartText; laws.eqTextResult of two that are alike.
  Conditions: each contract bears its own.
-/
import Derived.Test.YtaeigimgobilaaaGreatDoorPz05
import Derived.Test.YtaeigimgobilaaaGreatDoorPz08
import Derived.Deep.RegionHeld3
import Derived.BigQuiet
import Derived.Deep.QuietTactic
import Derived.Test.YtaeigimgobilaaaGreatDoorSpec1
import Derived.WalkLawsBesides
import Derived.WalkSpells
import Derived.Laws.IdiomStrings
import Derived.Shelf.Strings.Builder1
import Derived.Shelf.Strings.Builder2
import Derived.Shelf.Strings.OnBuilder
import Derived.Shelf.Strconv.Itoa0
import Derived.Shelf.Strconv.Itoa1
import Derived.Shelf.LaysM
import Derived.Shelf.Strconv.Itoa2
import Derived.Shelf.Strconv.Itoa3
import Derived.Shelf.Strconv.Itoa4
import Derived.Test.YtaeigimgobilaaaGreatDoorProg
import Derived.Test.YtaeigimgobilaaaGreatDoorRole1

namespace Go.Proofs.YtaeigimgobilaaaGreatDoor
open Go.RowKit
set_option linter.unusedVariables false
set_option linter.unusedSimpArgs false

/-- What a form that is there allows. -/
def alW (pss : List (List PartI)) (gs : List GrI) (f s : Int) : Bool := inR f 1 (pss.length : Int) && (setIn s && (match pss[(f - 1).toNat]? with
  | none => false
  | some ps => tellsL (ofG gs) ps s.toNat))

/-- What AllowsIn tells. -/
def alB (code : Int) (pss : List (List PartI)) (gs : List GrI) (f s : Int) : Bool := decide (code = 0) && alW pss gs f s

def GivesWC (fn : Nat) (c : ConfI) (f s : Int) (t : Bool) (w : World) : Prop := Calls Tryz.prog fn #[.agg #[.int .i64 c.e, .int .i64 c.f, .slice c.ra c.rn c.rc, .slice c.fa c.fn c.fc, .slice c.ca c.cn c.cc], .int .i64 f, .int .i64 s] w fun e w' => e = .returned (.bool t) ∧ Below w.heap.size w w'

theorem alW_out {pss : List (List PartI)} {gs : List GrI} {f s : Int} (h : inR f 1 (pss.length : Int) = false) : alW pss gs f s = false := by unfold alW; rw [h, Bool.false_and]
theorem alW_set {pss : List (List PartI)} {gs : List GrI} {f s : Int} (h : setIn s = false) : alW pss gs f s = false := by unfold alW; rw [h, Bool.false_and, Bool.and_false]
theorem alW_in {pss : List (List PartI)} {gs : List GrI} {k : Nat} {s : Int} {ps : List PartI} (h : pss[k]? = some ps) : alW pss gs ((k : Int) + 1) s = (setIn s && tellsL (ofG gs) ps s.toNat) := by
  have hk : k < pss.length := by
    by_cases q : k < pss.length
    · exact q
    · rw [List.getElem?_eq_none (by omega)] at h; cases h
  unfold alW
  rw [show inR ((k : Int) + 1) 1 (pss.length : Int) = true by simp [inR]; omega, Bool.true_and, show ((k : Int) + 1 - 1).toNat = k by omega, h]

set_option maxRecDepth 100000 in
set_option maxHeartbeats 2000000 in
theorem implAllows_c (c : ConfI) (gs : List GrI) (f s : Int) (w : World) (hle : ConfLe 1048576 c) (hrc : c.rn ≤ c.rc) (hrm : c.rc ≤ maxLen) (h : ConfIn w c) (hg : polCode c.zs = 0 → AllG c.zs gs) :
    GivesWC 6 c f s (alB (cfCode c.e c.f c.zs (partsL c.fs) c.cs) (partsL c.fs) gs f s) w := by
  obtain ⟨W, hW⟩ : ∃ W, W = w.alloc (.cells #[.int .i64 c.e, .int .i64 c.f, .slice c.ra c.rn c.rc, .slice c.fa c.fn c.fc, .slice c.ca c.cn c.cc] 28) := ⟨_, rfl⟩
  have B0 : Below w.heap.size w W := by rw [hW]; exact (Below.refl _ _).alloc (Nat.le_refl _) _
  have K0 : Hid (ConfAt W w.heap.size c) := by rw [hW]; exact ConfAt.new w c _
  obtain ⟨v, hv⟩ : ∃ v, cfCode c.e c.f c.zs (partsL c.fs) c.cs = v := ⟨_, rfl⟩
  have HF : Hid (Calls Tryz.prog 10 #[.agg #[.int .i64 c.e, .int .i64 c.f, .slice c.ra c.rn c.rc, .slice c.fa c.fn c.fc, .slice c.ca c.cn c.cc]] W fun e w' => e = .returned (.int .i64 v) ∧ Below W.heap.size W w') := by rw [← hv]; exact implConfigFault_c c W hle hrc hrm (h.below B0)
  have H : Hid (ConfIn w c) := h
  have HLE : Hid (ConfLe 1048576 c) := hle
  have HZ : Hid ((partsL c.fs).length = c.fn) := by show (partsL c.fs).length = c.fn; rw [partsL_len]; exact h.forms.1
  have hfn : (c.fn : Int) ≤ 1048576 := by have := hle.forms; omega
  rw [hv]
  unfold GivesWC
  by_cases v0 : v = 0
  · have hz := cf_zero (hv.trans v0)
    have HG : Hid (AllG c.zs gs) := hg hz.2.2.1
    have HPT : Hid (polCode c.zs = 0 ∧ ∀ (k : Nat) (x : List PartI), (partsL c.fs)[k]? = some x → ptCode x = 0) := ⟨hz.2.2.1, (fm_zero hz.2.2.2.1).2⟩
    have vb : (v != 0) = false := by simp [v0]
    have HB : Hid (alB v (partsL c.fs) gs f s = alW (partsL c.fs) gs f s) := by show alB _ _ _ _ _ = _; unfold alB; rw [show decide (v = 0) = true from decide_eq_true v0, Bool.true_and]
    rw [HB.out]
    clear h hle hv hg hz v0
    by_cases f1 : f < 1
    · have HV : Hid (alW (partsL c.fs) gs f s = false) := alW_out (by simp [inR]; omega)
      rw [HV.out]
      go_enter Tryz.func6, Tryz.ntmps6
      go_wp2_with fail
      rw [← hW]
      clear hW
      refine HF.out.mono ?_
      rintro e w1 ⟨rfl, hb1⟩
      have B1 : Below w.heap.size w w1 := B0.trans (hb1.mono B0.size)
      clear hb1 B0
      go_wp2
      go_ret
      exact ⟨rfl, B1⟩
    · by_cases f2 : (c.fn : Int) < f
      · have HV : Hid (alW (partsL c.fs) gs f s = false) := alW_out (by rw [HZ.out]; simp [inR]; omega)
        rw [HV.out]
        go_enter Tryz.func6, Tryz.ntmps6
        go_wp2_with fail
        rw [← hW]
        clear hW
        refine HF.out.mono ?_
        rintro e w1 ⟨rfl, hb1⟩
        have B1 : Below w.heap.size w w1 := B0.trans (hb1.mono B0.size)
        obtain ⟨d0, d1, d2, d3, d4⟩ := K0.out.below hb1
        have hl1 := (K0.out.below hb1).lt
        clear hb1 B0 d0 d1 d2 d4
        go_wp2
        go_ret
        exact ⟨rfl, B1⟩
      · obtain ⟨k, rfl⟩ : ∃ k : Nat, f = (k : Int) + 1 := ⟨(f - 1).toNat, by omega⟩
        have hk : k < c.fn := by omega
        have hk' : (k : Int) + 1 ≤ (c.fn : Int) := by omega
        have hk2 : (k : Int) < (c.fn : Int) := by omega
        have hjw : IntKind.i64.wrap ((k : Int) + 1 - 1) = (k : Int) := by rw [IntKind.wrap_i64]; omega
        have hjw2 : IntKind.i64.wrap (k : Int) = (k : Int) := by rw [IntKind.wrap_i64]; omega
        clear f1 f2
        obtain ⟨b, off, x, hfa, hs, hr⟩ := H.out.forms.at hk
        have HV : Hid (alW (partsL c.fs) gs ((k : Int) + 1) s = admB c.zs x.ps gs s) := by
          show alW _ _ _ _ = _
          rw [alW_in (partsL_at hs)]
          unfold admB
          rw [show decide (manyCode c.zs x.ps = 0) = true from decide_eq_true (by unfold manyCode orC; rw [if_pos HPT.out.1]; exact HPT.out.2 k _ (partsL_at hs)), Bool.true_and]
        rw [HV.out]
        have hxn := HLE.out.parts k x hs
        obtain ⟨t, ht⟩ : ∃ t, admB c.zs x.ps gs s = t := ⟨_, rfl⟩
        have HA : Hid (∀ w2 : World, Below w.heap.size w w2 → Calls Tryz.prog 14 #[.slice c.ra c.rn c.rc, .slice x.a x.n x.cap, .int .i64 s] w2 fun e w' => e = .returned (.bool t) ∧ Below w2.heap.size w2 w') := fun w2 q => by rw [← ht]; exact implAdmits_c c.ra c.rn c.rc c.zs x.a x.n x.cap x.ps gs s w2 HLE.out.rules hxn hrc hrm (H.out.rules.below q) ((hr.below q).2) (fun _ => HG.out)
        rw [ht]
        have HX : Hid (FormAt w b (off + k) x) := hr
        have HFA : Hid (c.fa = some ⟨b, off, none⟩) := hfa
        clear hs hr ht hfa
        go_enter Tryz.func6, Tryz.ntmps6
        go_wp2_with fail
        rw [← hW]
        clear hW
        refine HF.out.mono ?_
        rintro e w1 ⟨rfl, hb1⟩
        have B1 : Below w.heap.size w w1 := B0.trans (hb1.mono B0.size)
        obtain ⟨d0, d1, d2, d3, d4⟩ := K0.out.below hb1
        have hl1 := (K0.out.below hb1).lt
        have hx1 := (HX.out.below B1).1
        have hbl : b < w1.heap.size := (HX.out.below B1).lt
        rw [HFA.out] at d3
        clear hb1 B0 d0 d1 d4
        go_wp2
        have HA1 : Hid (∀ w' : World, ((∀ b o, b < w1.heap.size → w'.cell? ⟨b, o, none⟩ = w1.cell? ⟨b, o, none⟩) ∧ Below w1.heap.size w1 w') → Calls Tryz.prog 14 #[.slice c.ra c.rn c.rc, .slice x.a x.n x.cap, .int .i64 s] w' fun e w'' => e = .returned (.bool t) ∧ Below w'.heap.size w' w'') := fun w' q => HA.out w' (B1.trans (q.2.mono B1.size))
        go_region_held3 (fun w' => (∀ b o, b < w1.heap.size → w'.cell? ⟨b, o, none⟩ = w1.cell? ⟨b, o, none⟩) ∧ Below w1.heap.size w1 w') (first | exact hS | exact kp_drew _)
          (first | (go_at_call 14; refine (HA1.out _ (by assumption)).mono ?_; rintro e w' ⟨rfl, hb2⟩; have hS := kp_step (by assumption) hb2))
        go_wp2
        go_ret
        exact ⟨rfl, B1.trans (hS.2.mono B1.size)⟩
  · have vb : (v != 0) = true := by simp [v0]
    have HB : Hid (alB v (partsL c.fs) gs f s = false) := by show alB _ _ _ _ _ = _; unfold alB; rw [show decide (v = 0) = false from decide_eq_false v0, Bool.false_and]
    rw [HB.out]
    clear h hle hv hg v0
    go_enter Tryz.func6, Tryz.ntmps6
    go_wp2_with fail
    rw [← hW]
    clear hW
    refine HF.out.mono ?_
    rintro e w1 ⟨rfl, hb1⟩
    have B1 : Below w.heap.size w w1 := B0.trans (hb1.mono B0.size)
    clear hb1 B0
    go_wp2
    go_ret
    exact ⟨rfl, B1⟩

end Go.Proofs.YtaeigimgobilaaaGreatDoor

namespace Go.Proofs.YtaeigimgobilaaaGreatDoor
open Go.RowKit
set_option linter.unusedVariables false
set_option linter.unusedSimpArgs false

theorem cinQ_c (v lo hi : Int) (t : Bool) (h : inR v lo hi = t) (w : World) : Calls Tryz.prog 53 #[.int .i64 v, .int .i64 lo, .int .i64 hi] w fun e w' => e = .returned (.bool t) ∧ w' = w := by
  rw [← h]
  exact (cin_c v lo hi w).mono fun e w' hh => ⟨hh.1, hh.2.symm⟩

theorem setQ_c (v : Int) (t : Bool) (h : setIn v = t) (w : World) : Calls Tryz.prog 54 #[.int .i64 v] w fun e w' => e = .returned (.bool t) ∧ w' = w := by
  rw [← h]
  exact (l1Set_c v w).mono fun e w' hh => ⟨hh.1, hh.2.symm⟩

set_option maxRecDepth 100000 in
set_option maxHeartbeats 4000000 in
theorem l6Allows_c (g : Nat) (c : ConfI) (gs : List GrI) (f s : Int) (w : World) (hle : ConfLe 1048576 c) (hk : ConfAt w g c) (h : ConfIn w c) (hg : AllG c.zs gs) (hpol : polCode c.zs = 0) (hpt : ∀ (k : Nat) (x : List PartI), (partsL c.fs)[k]? = some x → ptCode x = 0) :
    Calls Tryz.prog 26 #[.pointer (some ⟨g, 0, none⟩), .int .i64 f, .int .i64 s] w fun e w' => e = .returned (.bool (alW (partsL c.fs) gs f s)) ∧ Below w.heap.size w w' := by
  have HZ : Hid ((partsL c.fs).length = c.fn) := by show (partsL c.fs).length = c.fn; rw [partsL_len]; exact h.forms.1
  have hfn : (c.fn : Int) ≤ 1048576 := by have := hle.forms; omega
  have hgl := hk.lt
  obtain ⟨k0, k1, k2, k3, k4⟩ := hk
  cases q1 : inR f 1 (c.fn : Int)
  · have HV : Hid (alW (partsL c.fs) gs f s = false) := alW_out (by rw [HZ.out]; exact q1)
    rw [HV.out]
    have HQ : Hid (inR f 1 (c.fn : Int) = false) := q1
    clear q1 h hle hg hpol hpt
    go_enter Tryz.func26, Tryz.ntmps26
    go_wp2
    go_quiet ((go_at_call 53; exact Calls.quiet_of_same (cinQ_c _ _ _ false HQ.out _)))
    go_wp2
    go_ret
    exact ⟨rfl, below_drewN (Below.refl _ _) _⟩
  · obtain ⟨f1, f2⟩ := (inR_iff _ _ _).1 q1
    have HQ : Hid (inR f 1 (c.fn : Int) = true) := q1
    cases q2 : setIn s
    · have HV : Hid (alW (partsL c.fs) gs f s = false) := alW_set q2
      rw [HV.out]
      have HQ2 : Hid (setIn s = false) := q2
      clear q1 q2 h hle hg hpol hpt
      go_enter Tryz.func26, Tryz.ntmps26
      go_wp2
      go_quiet ((first | (go_at_call 53; exact Calls.quiet_of_same (cinQ_c _ _ _ true HQ.out _)) | (go_at_call 54; exact Calls.quiet_of_same (setQ_c _ false HQ2.out _))))
      go_wp2
      go_ret
      exact ⟨rfl, below_drewN (Below.refl _ _) _⟩
    · have HQ2 : Hid (setIn s = true) := q2
      obtain ⟨k, rfl⟩ : ∃ k : Nat, f = (k : Int) + 1 := ⟨(f - 1).toNat, by omega⟩
      have hk : k < c.fn := by omega
      have hk' : (k : Int) + 1 ≤ (c.fn : Int) := by omega
      have hk2 : (k : Int) < (c.fn : Int) := by omega
      have hjw : IntKind.i64.wrap ((k : Int) + 1 - 1) = (k : Int) := by rw [IntKind.wrap_i64]; omega
      have hjw2 : IntKind.i64.wrap (k : Int) = (k : Int) := by rw [IntKind.wrap_i64]; omega
      obtain ⟨x, rfl⟩ : ∃ x : Nat, s = (x : Int) := ⟨s.toNat, by simp [setIn] at q2; omega⟩
      have hx : x < 256 := by simp [setIn] at q2; omega
      have hx' : (x : Int) < 256 := by omega
      obtain ⟨b, off, p, hfa, hs, hr⟩ := h.forms.at hk
      have HV : Hid (alW (partsL c.fs) gs ((k : Int) + 1) (x : Int) = tellsL (ofG gs) p.ps x) := by
        show alW _ _ _ _ = _
        rw [alW_in (partsL_at hs), q2, Bool.true_and, Int.toNat_natCast]
      rw [HV.out]
      obtain ⟨T, hT⟩ : ∃ T, tellsL (ofG gs) p.ps = T := ⟨_, rfl⟩
      have HT : Hid (∀ w' : World, ((∀ b o, b < w.heap.size → w'.cell? ⟨b, o, none⟩ = w.cell? ⟨b, o, none⟩) ∧ Below w.heap.size w w') → Calls Tryz.prog 46 #[.slice c.ra c.rn c.rc, .slice p.a p.n p.cap] w' fun e w'' => ∃ g, e = .returned (.slice (some ⟨g, 0, none⟩) 256 256) ∧ RowF w'' g T ∧ Below w'.heap.size w' w'') := fun w' q => by rw [← hT]; exact l4Sets_c c.ra c.rn c.rc c.zs p.a p.n p.cap p.ps gs w' (h.rules.below q.2) hpol hg (hr.below q.2).2 (hpt k _ (partsL_at hs))
      rw [hT]
      have hc := hr.1
      have hbl := hr.lt
      rw [hfa] at k3
      clear q1 q2 h hle hg hpol hpt hs hr hfa hT f1 f2 k0 k1 k4
      go_enter Tryz.func26, Tryz.ntmps26
      go_wp2
      refine wp_region_held_drew (S := fun w' => (∀ b o, b < w.heap.size → w'.cell? ⟨b, o, none⟩ = w.cell? ⟨b, o, none⟩) ∧ Below w.heap.size w w') (by kernel_rfl) (kp_drew _) (fun hHeld => ?_)
      refine wpAnyH_take (i := 0) (v := ?_) rfl (by kernel_rfl) (by kernel_rfl) (by kernel_rfl) (fun _ _ _ h => h) (Or.inl ⟨by kernel_rfl, ?_⟩) (by assumption) ?_
      rotate_left 1
      · intro w hSw; (try dsimp only at hSw); go_simp; try (with_reducible rfl)
      try simp only [Act.put, List.getElem_toArray, List.getElem_cons_succ, List.getElem_cons_zero, List.setIfInBounds_toArray, List.set_cons_zero, List.set_cons_succ]
      refine wpAnyH_take (i := 1) (v := ?_) rfl (by kernel_rfl) (by kernel_rfl) (by kernel_rfl) (fun _ _ _ h => h) (Or.inl ⟨by kernel_rfl, ?_⟩) (by assumption) ?_
      rotate_left 1
      · intro w hSw; (try dsimp only at hSw); go_simp; try (with_reducible rfl)
      try simp only [Act.put, List.getElem_toArray, List.getElem_cons_succ, List.getElem_cons_zero, List.setIfInBounds_toArray, List.set_cons_zero, List.set_cons_succ]
      refine wpAnyH_take (i := 2) (v := ?_) rfl (by kernel_rfl) (by kernel_rfl) (by kernel_rfl) (fun _ _ _ h => h) (Or.inl ⟨by kernel_rfl, ?_⟩) (by assumption) ?_
      rotate_left 1
      · intro w hSw; (try dsimp only at hSw); go_simp; try (with_reducible rfl)
      try simp only [Act.put, List.getElem_toArray, List.getElem_cons_succ, List.getElem_cons_zero, List.setIfInBounds_toArray, List.set_cons_zero, List.set_cons_succ]
      refine wpAnyH_take (i := 3) (v := ?_) rfl (by kernel_rfl) (by kernel_rfl) (by kernel_rfl) (fun _ _ _ h => h) (Or.inl ⟨by kernel_rfl, ?_⟩) (by assumption) ?_
      rotate_left 1
      · intro w hSw; (try dsimp only at hSw); go_simp; try (with_reducible rfl)
      try simp only [Act.put, List.getElem_toArray, List.getElem_cons_succ, List.getElem_cons_zero, List.setIfInBounds_toArray, List.set_cons_zero, List.set_cons_succ]
      refine wpAnyH_take (i := 4) (v := ?_) rfl (by kernel_rfl) (by kernel_rfl) (by kernel_rfl) (fun _ _ _ h => h) (Or.inl ⟨by kernel_rfl, ?_⟩) (by assumption) ?_
      rotate_left 1
      · intro w hSw; (try dsimp only at hSw); go_simp; try (with_reducible rfl)
      try simp only [Act.put, List.getElem_toArray, List.getElem_cons_succ, List.getElem_cons_zero, List.setIfInBounds_toArray, List.set_cons_zero, List.set_cons_succ]
      refine wpAnyH_take (i := 5) (v := ?_) rfl (by kernel_rfl) (by kernel_rfl) (by kernel_rfl) (fun _ _ _ h => h) (Or.inl ⟨by kernel_rfl, ?_⟩) (by assumption) ?_
      rotate_left 1
      · intro w hSw; (try dsimp only at hSw); go_simp; try (with_reducible rfl)
      try simp only [Act.put, List.getElem_toArray, List.getElem_cons_succ, List.getElem_cons_zero, List.setIfInBounds_toArray, List.set_cons_zero, List.set_cons_succ]
      refine wpAnyH_ready (rs := [6]) (by kernel_rfl) (by simp) ?_
      refine AllReadyH.cons rfl (fun K hK => ?_) AllReadyH.nil
      go_simp
      refine (cinQ_c _ _ _ true HQ.out _).mono ?_
      rintro e wA ⟨rfl, rfl⟩
      have hS := hHeld
      refine hK.out _ _ hS (fun hHeld => ?_)
      clear hK K
      try simp only [Act.put, List.getElem_toArray, List.getElem_cons_succ, List.getElem_cons_zero, List.setIfInBounds_toArray, List.set_cons_zero, List.set_cons_succ]
      refine wpAnyH_take (i := 7) (v := ?_) rfl (by kernel_rfl) (by kernel_rfl) (by kernel_rfl) (fun _ _ _ h => h) (Or.inl ⟨by kernel_rfl, ?_⟩) (by assumption) ?_
      rotate_left 1
      · intro w hSw; (try dsimp only at hSw); go_simp; try (with_reducible rfl)
      try simp only [Act.put, List.getElem_toArray, List.getElem_cons_succ, List.getElem_cons_zero, List.setIfInBounds_toArray, List.set_cons_zero, List.set_cons_succ]
      refine wpAnyH_take (i := 8) (v := ?_) rfl (by kernel_rfl) (by kernel_rfl) (by kernel_rfl) (fun _ _ _ h => h) (Or.inl ⟨by kernel_rfl, ?_⟩) (by assumption) ?_
      rotate_left 1
      · intro w hSw; (try dsimp only at hSw); go_simp; try (with_reducible rfl)
      try simp only [Act.put, List.getElem_toArray, List.getElem_cons_succ, List.getElem_cons_zero, List.setIfInBounds_toArray, List.set_cons_zero, List.set_cons_succ]
      refine wpAnyH_ready (rs := [9]) (by kernel_rfl) (by simp) ?_
      refine AllReadyH.cons rfl (fun K hK => ?_) AllReadyH.nil
      go_simp
      refine (setQ_c _ true HQ2.out _).mono ?_
      rintro e wB ⟨rfl, rfl⟩
      have hS := hHeld
      refine hK.out _ _ hS (fun hHeld => ?_)
      clear hK K
      try simp only [Act.put, List.getElem_toArray, List.getElem_cons_succ, List.getElem_cons_zero, List.setIfInBounds_toArray, List.set_cons_zero, List.set_cons_succ]
      refine wpAnyH_take (i := 10) (v := ?_) rfl (by kernel_rfl) (by kernel_rfl) (by kernel_rfl) (fun _ _ _ h => h) (Or.inl ⟨by kernel_rfl, ?_⟩) (by assumption) ?_
      rotate_left 1
      · intro w hSw; (try dsimp only at hSw); go_simp; try (with_reducible rfl)
      try simp only [Act.put, List.getElem_toArray, List.getElem_cons_succ, List.getElem_cons_zero, List.setIfInBounds_toArray, List.set_cons_zero, List.set_cons_succ]
      refine wpAnyH_take (i := 11) (v := ?_) rfl (by kernel_rfl) (by kernel_rfl) (by kernel_rfl) (fun _ _ _ h => h) (Or.inl ⟨by kernel_rfl, ?_⟩) (by assumption) ?_
      rotate_left 1
      · intro w hSw; (try dsimp only at hSw); go_simp; try (with_reducible rfl)
      try simp only [Act.put, List.getElem_toArray, List.getElem_cons_succ, List.getElem_cons_zero, List.setIfInBounds_toArray, List.set_cons_zero, List.set_cons_succ]
      refine wpAnyH_take (i := 12) (v := ?_) rfl (by kernel_rfl) (by kernel_rfl) (by kernel_rfl) (fun _ _ _ h => h) (Or.inl ⟨by kernel_rfl, ?_⟩) (by assumption) ?_
      rotate_left 1
      · intro w hSw; (try dsimp only at hSw); go_simp; try (with_reducible rfl)
      try simp only [Act.put, List.getElem_toArray, List.getElem_cons_succ, List.getElem_cons_zero, List.setIfInBounds_toArray, List.set_cons_zero, List.set_cons_succ]
      refine wpAnyH_take (i := 13) (v := ?_) rfl (by kernel_rfl) (by kernel_rfl) (by kernel_rfl) (fun _ _ _ h => h) (Or.inl ⟨by kernel_rfl, ?_⟩) (by assumption) ?_
      rotate_left 1
      · intro w hSw; (try dsimp only at hSw); go_simp; try (with_reducible rfl)
      try simp only [Act.put, List.getElem_toArray, List.getElem_cons_succ, List.getElem_cons_zero, List.setIfInBounds_toArray, List.set_cons_zero, List.set_cons_succ]
      refine wpAnyH_take (i := 14) (v := ?_) rfl (by kernel_rfl) (by kernel_rfl) (by kernel_rfl) (fun _ _ _ h => h) (Or.inl ⟨by kernel_rfl, ?_⟩) (by assumption) ?_
      rotate_left 1
      · intro w hSw; (try dsimp only at hSw); go_simp; try (with_reducible rfl)
      try simp only [Act.put, List.getElem_toArray, List.getElem_cons_succ, List.getElem_cons_zero, List.setIfInBounds_toArray, List.set_cons_zero, List.set_cons_succ]
      refine wpAnyH_take (i := 15) (v := ?_) rfl (by kernel_rfl) (by kernel_rfl) (by kernel_rfl) (fun _ _ _ h => h) (Or.inl ⟨by kernel_rfl, ?_⟩) (by assumption) ?_
      rotate_left 1
      · intro w hSw; (try dsimp only at hSw); go_simp; try (with_reducible rfl)
      try simp only [Act.put, List.getElem_toArray, List.getElem_cons_succ, List.getElem_cons_zero, List.setIfInBounds_toArray, List.set_cons_zero, List.set_cons_succ]
      refine wpAnyH_take (i := 16) (v := ?_) rfl (by kernel_rfl) (by kernel_rfl) (by kernel_rfl) (fun _ _ _ h => h) (Or.inl ⟨by kernel_rfl, ?_⟩) (by assumption) ?_
      rotate_left 1
      · intro w hSw; (try dsimp only at hSw); go_simp; try (with_reducible rfl)
      try simp only [Act.put, List.getElem_toArray, List.getElem_cons_succ, List.getElem_cons_zero, List.setIfInBounds_toArray, List.set_cons_zero, List.set_cons_succ]
      refine wpAnyH_take (i := 17) (v := ?_) rfl (by kernel_rfl) (by kernel_rfl) (by kernel_rfl) (fun _ _ _ h => h) (Or.inl ⟨by kernel_rfl, ?_⟩) (by assumption) ?_
      rotate_left 1
      · intro w hSw; (try dsimp only at hSw); go_simp; try (with_reducible rfl)
      try simp only [Act.put, List.getElem_toArray, List.getElem_cons_succ, List.getElem_cons_zero, List.setIfInBounds_toArray, List.set_cons_zero, List.set_cons_succ]
      refine wpAnyH_take (i := 18) (v := ?_) rfl (by kernel_rfl) (by kernel_rfl) (by kernel_rfl) (fun _ _ _ h => h) (Or.inl ⟨by kernel_rfl, ?_⟩) (by assumption) ?_
      rotate_left 1
      · intro w hSw; (try dsimp only at hSw); go_simp; try (with_reducible rfl)
      try simp only [Act.put, List.getElem_toArray, List.getElem_cons_succ, List.getElem_cons_zero, List.setIfInBounds_toArray, List.set_cons_zero, List.set_cons_succ]
      refine wpAnyH_take (i := 19) (v := ?_) rfl (by kernel_rfl) (by kernel_rfl) (by kernel_rfl) (fun _ _ _ h => h) (Or.inl ⟨by kernel_rfl, ?_⟩) (by assumption) ?_
      rotate_left 1
      · intro w hSw; (try dsimp only at hSw); go_simp; try (with_reducible rfl)
      try simp only [Act.put, List.getElem_toArray, List.getElem_cons_succ, List.getElem_cons_zero, List.setIfInBounds_toArray, List.set_cons_zero, List.set_cons_succ]
      refine wpAnyH_take (i := 20) (v := ?_) rfl (by kernel_rfl) (by kernel_rfl) (by kernel_rfl) (fun _ _ _ h => h) (Or.inl ⟨by kernel_rfl, ?_⟩) (by assumption) ?_
      rotate_left 1
      · intro w hSw; (try dsimp only at hSw); go_simp; try (with_reducible rfl)
      try simp only [Act.put, List.getElem_toArray, List.getElem_cons_succ, List.getElem_cons_zero, List.setIfInBounds_toArray, List.set_cons_zero, List.set_cons_succ]
      refine wpAnyH_take (i := 21) (v := ?_) rfl (by kernel_rfl) (by kernel_rfl) (by kernel_rfl) (fun _ _ _ h => h) (Or.inl ⟨by kernel_rfl, ?_⟩) (by assumption) ?_
      rotate_left 1
      · intro w hSw; (try dsimp only at hSw); go_simp; try (with_reducible rfl)
      try simp only [Act.put, List.getElem_toArray, List.getElem_cons_succ, List.getElem_cons_zero, List.setIfInBounds_toArray, List.set_cons_zero, List.set_cons_succ]
      refine wpAnyH_take (i := 22) (v := ?_) rfl (by kernel_rfl) (by kernel_rfl) (by kernel_rfl) (fun _ _ _ h => h) (Or.inl ⟨by kernel_rfl, ?_⟩) (by assumption) ?_
      rotate_left 1
      · intro w hSw; (try dsimp only at hSw); go_simp; try (with_reducible rfl)
      try simp only [Act.put, List.getElem_toArray, List.getElem_cons_succ, List.getElem_cons_zero, List.setIfInBounds_toArray, List.set_cons_zero, List.set_cons_succ]
      refine wpAnyH_take (i := 23) (v := ?_) rfl (by kernel_rfl) (by kernel_rfl) (by kernel_rfl) (fun _ _ _ h => h) (Or.inl ⟨by kernel_rfl, ?_⟩) (by assumption) ?_
      rotate_left 1
      · intro w hSw; (try dsimp only at hSw); go_simp; try (with_reducible rfl)
      try simp only [Act.put, List.getElem_toArray, List.getElem_cons_succ, List.getElem_cons_zero, List.setIfInBounds_toArray, List.set_cons_zero, List.set_cons_succ]
      refine wpAnyH_take (i := 24) (v := ?_) rfl (by kernel_rfl) (by kernel_rfl) (by kernel_rfl) (fun _ _ _ h => h) (Or.inl ⟨by kernel_rfl, ?_⟩) (by assumption) ?_
      rotate_left 1
      · intro w hSw; (try dsimp only at hSw); go_simp; try (with_reducible rfl)
      try simp only [Act.put, List.getElem_toArray, List.getElem_cons_succ, List.getElem_cons_zero, List.setIfInBounds_toArray, List.set_cons_zero, List.set_cons_succ]
      refine wpAnyH_take (i := 26) (v := ?_) rfl (by kernel_rfl) (by kernel_rfl) (by kernel_rfl) (fun _ _ _ h => h) (Or.inl ⟨by kernel_rfl, ?_⟩) (by assumption) ?_
      rotate_left 1
      · intro w hSw; (try dsimp only at hSw); go_simp; try (with_reducible rfl)
      try simp only [Act.put, List.getElem_toArray, List.getElem_cons_succ, List.getElem_cons_zero, List.setIfInBounds_toArray, List.set_cons_zero, List.set_cons_succ]
      refine wpAnyH_ready (rs := [25]) (by kernel_rfl) (by simp) ?_
      refine AllReadyH.cons rfl (fun K hK => ?_) AllReadyH.nil
      go_simp
      refine (HT.out _ hHeld).mono ?_
      rintro e wC ⟨g', rfl, hrow, hbC⟩
      have cx := hrow x hx
      have hgl' := hrow.lt
      have hS := kp_step hHeld hbC
      clear hrow
      refine hK.out _ _ hS (fun hHeld => ?_)
      clear hK K
      try simp only [Act.put, List.getElem_toArray, List.getElem_cons_succ, List.getElem_cons_zero, List.setIfInBounds_toArray, List.set_cons_zero, List.set_cons_succ]
      refine wpAnyH_take (i := 27) (v := ?_) rfl (by kernel_rfl) (by kernel_rfl) (by kernel_rfl) (fun _ _ _ h => h) (Or.inl ⟨by kernel_rfl, ?_⟩) (by assumption) ?_
      rotate_left 1
      · intro w hSw; (try dsimp only at hSw); go_simp; try (with_reducible rfl)
      try simp only [Act.put, List.getElem_toArray, List.getElem_cons_succ, List.getElem_cons_zero, List.setIfInBounds_toArray, List.set_cons_zero, List.set_cons_succ]
      refine wpAnyH_ready (rs := [28]) (by kernel_rfl) (by simp) ?_
      refine AllReadyH.cons rfl (fun K hK => ?_) AllReadyH.nil
      go_simp
      refine hK.out _ _ hS (fun hHeld => ?_)
      clear hK K
      try simp only [Act.put, List.getElem_toArray, List.getElem_cons_succ, List.getElem_cons_zero, List.setIfInBounds_toArray, List.set_cons_zero, List.set_cons_succ]
      refine wpAnyH_take (i := 29) (v := ?_) rfl (by kernel_rfl) (by kernel_rfl) (by kernel_rfl) (fun _ _ _ h => h) (Or.inl ⟨by kernel_rfl, ?_⟩) (by assumption) ?_
      rotate_left 1
      · intro w hSw; (try dsimp only at hSw); go_simp; try (with_reducible rfl)
      try simp only [Act.put, List.getElem_toArray, List.getElem_cons_succ, List.getElem_cons_zero, List.setIfInBounds_toArray, List.set_cons_zero, List.set_cons_succ]
      refine wpAnyH_ready (rs := [30]) (by kernel_rfl) (by simp) ?_
      refine AllReadyH.cons rfl (fun K hK => ?_) AllReadyH.nil
      go_simp
      refine hK.out _ _ (by assumption) (fun hHeld => ?_)
      clear hK K
      try simp only [Act.put, List.getElem_toArray, List.getElem_cons_succ, List.getElem_cons_zero, List.setIfInBounds_toArray, List.set_cons_zero, List.set_cons_succ]
      refine wpAnyH_done (by kernel_rfl) ?_ _
      go_wp2
      go_ret
      exact ⟨rfl, hHeld.2⟩

set_option maxRecDepth 20000 in
set_option maxHeartbeats 1000000 in
theorem specAllows_c (c : ConfI) (gs : List GrI) (f s : Int) (w : World) (hle : ConfLe 1048576 c) (h : ConfIn w c) (hg : polCode c.zs = 0 → AllG c.zs gs) :
    GivesWC 8 c f s (alB (cfCode c.e c.f c.zs (partsL c.fs) c.cs) (partsL c.fs) gs f s) w := by
  obtain ⟨W, hW⟩ : ∃ W, W = w.alloc (.cells #[.int .i64 c.e, .int .i64 c.f, .slice c.ra c.rn c.rc, .slice c.fa c.fn c.fc, .slice c.ca c.cn c.cc] 28) := ⟨_, rfl⟩
  have B0 : Below w.heap.size w W := by rw [hW]; exact (Below.refl _ _).alloc (Nat.le_refl _) _
  have K0 : Hid (ConfAt W w.heap.size c) := by rw [hW]; exact ConfAt.new w c _
  obtain ⟨v, hv⟩ : ∃ v, cfCode c.e c.f c.zs (partsL c.fs) c.cs = v := ⟨_, rfl⟩
  have HF : Hid (Calls Tryz.prog 19 #[.pointer (some ⟨w.heap.size, 0, none⟩)] W fun e w' => e = .returned (.int .i64 v) ∧ Below W.heap.size W w') := by rw [← hv]; exact l6Fault_c w.heap.size c W hle K0.out (h.below B0)
  rw [hv]
  unfold GivesWC
  by_cases v0 : v = 0
  · have hz := cf_zero (hv.trans v0)
    have vb : (v == 0) = true := by simp [v0]
    have HB : Hid (alB v (partsL c.fs) gs f s = alW (partsL c.fs) gs f s) := by show alB _ _ _ _ _ = _; unfold alB; rw [show decide (v = 0) = true from decide_eq_true v0, Bool.true_and]
    rw [HB.out]
    obtain ⟨t, ht⟩ : ∃ t, alW (partsL c.fs) gs f s = t := ⟨_, rfl⟩
    have HA : Hid (∀ w2 : World, Below W.heap.size W w2 → Calls Tryz.prog 26 #[.pointer (some ⟨w.heap.size, 0, none⟩), .int .i64 f, .int .i64 s] w2 fun e w' => e = .returned (.bool t) ∧ Below w2.heap.size w2 w') := fun w2 q => by rw [← ht]; exact l6Allows_c w.heap.size c gs f s w2 hle (K0.out.below q) ((h.below B0).below q) (hg hz.2.2.1) hz.2.2.1 (fm_zero hz.2.2.2.1).2
    rw [ht]
    clear h hle hv hg hz v0 ht
    go_enter Tryz.func8, Tryz.ntmps8
    go_wp2_with fail
    rw [← hW]
    clear hW
    refine HF.out.mono ?_
    rintro e w1 ⟨rfl, hb1⟩
    have B1 : Below w.heap.size w w1 := B0.trans (hb1.mono B0.size)
    go_wp2_with fail
    refine (HA.out _ hb1).mono ?_
    rintro e w2 ⟨rfl, hb2⟩
    have B2 : Below w.heap.size w w2 := B1.trans (hb2.mono B1.size)
    clear hb1 hb2 B0 B1
    go_wp2
    go_ret
    exact ⟨rfl, B2⟩
  · have vb : (v == 0) = false := by simp [v0]
    have HB : Hid (alB v (partsL c.fs) gs f s = false) := by show alB _ _ _ _ _ = _; unfold alB; rw [show decide (v = 0) = false from decide_eq_false v0, Bool.false_and]
    rw [HB.out]
    clear h hle hv hg v0
    go_enter Tryz.func8, Tryz.ntmps8
    go_wp2_with fail
    rw [← hW]
    clear hW
    refine HF.out.mono ?_
    rintro e w1 ⟨rfl, hb1⟩
    have B1 : Below w.heap.size w w1 := B0.trans (hb1.mono B0.size)
    clear hb1 B0
    go_wp2
    go_ret
    exact ⟨rfl, B1⟩

end Go.Proofs.YtaeigimgobilaaaGreatDoor

namespace Go.Proofs.YtaeigimgobilaaaGreatDoor
open Go.RowKit
set_option linter.unusedVariables false

/-- The digit of a principal. -/
def digitB (p : Int) : UInt8 := UInt8.ofNat (48 + p.toNat)

/-- The first k of a list, as digits with commas between. -/
def bodyTo (zs : List Int) : Nat → List UInt8
  | 0 => []
  | k + 1 => bodyTo zs k ++ (if 0 < k then [44] else []) ++ [digitB (zs[k]?.getD 0)]

/-- A set's text. -/
def textI (s : Int) : ByteArray := ⟨(123 :: (bodyTo (listTo s 8) (listTo s 8).length ++ [125])).toArray⟩

theorem bodyTo_len (zs : List Int) (k : Nat) : (bodyTo zs k).length ≤ 2 * k := by
  induction k with
  | zero => simp [bodyTo]
  | succ k ih =>
    simp only [bodyTo, List.length_append, List.length_cons, List.length_nil]
    split <;> simp <;> omega

theorem textI_size (s : Int) (s0 : 0 ≤ s) (s1 : s ≤ 255) : 2 ≤ (textI s).size ∧ (textI s).size ≤ 18 := by
  have h1 := bodyTo_len (listTo s 8) (listTo s 8).length
  have h2 := listTo_le s 8
  simp [textI, ByteArray.size]
  omega

theorem listTo_mem (s : Int) (m : Nat) : ∀ k, k < (listTo s m).length → 1 ≤ (listTo s m)[k]?.getD 0 ∧ (listTo s m)[k]?.getD 0 ≤ m := by
  induction m with
  | zero => intro k hk; simp [listTo] at hk
  | succ m ih =>
    intro k hk
    simp only [listTo] at hk ⊢
    split at hk <;> rename_i hh
    · rw [if_pos hh]
      by_cases e : k < (listTo s m).length
      · rw [List.getElem?_append_left e]
        have := ih k e
        omega
      · have e2 : k = (listTo s m).length := by simp at hk; omega
        subst e2
        simp
        omega
    · rw [if_neg hh]
      have := ih k hk
      omega

theorem text_first {T : ByteArray} {zs : List Int} {y : Int} (hT : T = ⟨(123 :: bodyTo zs 0).toArray⟩) (hy : y = zs[0]?.getD 0) : T ++ ⟨#[digitB y]⟩ = ⟨(123 :: bodyTo zs 1).toArray⟩ := by
  subst hT hy
  rw [ByteArray.mk_append_mk]
  simp [bodyTo]

theorem text_next {T : ByteArray} {zs : List Int} {y : Int} {k : Nat} (hk : 0 < k) (hT : T = ⟨(123 :: bodyTo zs k).toArray⟩) (hy : y = zs[k]?.getD 0) : T ++ ⟨#[44]⟩ ++ ⟨#[digitB y]⟩ = ⟨(123 :: bodyTo zs (k + 1)).toArray⟩ := by
  subst hT hy
  rw [ByteArray.mk_append_mk, ByteArray.mk_append_mk]
  simp [bodyTo, hk]

theorem text_last {T : ByteArray} {s : Int} (hT : T = ⟨(123 :: bodyTo (listTo s 8) (listTo s 8).length).toArray⟩) : T ++ ⟨#[125]⟩ = textI s := by
  subst hT
  rw [ByteArray.mk_append_mk]
  simp [textI]

theorem conv1 (w : World) (x : Int) (b : UInt8) (hx : (b.toNat : Int) = x) :
    (convert 22 9 (.slice (some ⟨w.heap.size, 0, none⟩) 1 1)).run Tryz.prog (w.alloc (.cells #[.int .u8 x] 5)) = .ok (.string ⟨#[b]⟩) (w.alloc (.cells #[.int .u8 x] 5)) := by
  have h := run_convert_bytes_back (P := Tryz.prog) (w.alloc (.cells #[.int .u8 x] 5)) 22 9 5 ⟨w.heap.size, 0, none⟩ 1 [b] Tryz.underlying22 Tryz.underlying5 Tryz.underlying9
    (fun j hj => by
      match j, hj with
      | 0, _ => simp [Addr.add, hx])
  simpa using h

set_option maxHeartbeats 400000 in
theorem l1Digits_c (p : Int) (p0 : 1 ≤ p) (p1 : p ≤ 8) (w : World) :
    Calls Tryz.prog 27 #[.int .i64 p] w fun e w' => e = .returned (.string ⟨#[digitB p]⟩) ∧ Below w.heap.size w w' := by
  have hp : p = 1 ∨ p = 2 ∨ p = 3 ∨ p = 4 ∨ p = 5 ∨ p = 6 ∨ p = 7 ∨ p = 8 := by omega
  rcases hp with rfl | rfl | rfl | rfl | rfl | rfl | rfl | rfl
  · have hcv := conv1 w 49 49 rfl
    go_enter Tryz.func27, Tryz.ntmps27
    go_wp2
    go_ret
    exact ⟨rfl, (Below.refl _ _).alloc (Nat.le_refl _) _⟩
  · have hcv := conv1 w 50 50 rfl
    go_enter Tryz.func27, Tryz.ntmps27
    go_wp2
    go_ret
    exact ⟨rfl, (Below.refl _ _).alloc (Nat.le_refl _) _⟩
  · have hcv := conv1 w 51 51 rfl
    go_enter Tryz.func27, Tryz.ntmps27
    go_wp2
    go_ret
    exact ⟨rfl, (Below.refl _ _).alloc (Nat.le_refl _) _⟩
  · have hcv := conv1 w 52 52 rfl
    go_enter Tryz.func27, Tryz.ntmps27
    go_wp2
    go_ret
    exact ⟨rfl, (Below.refl _ _).alloc (Nat.le_refl _) _⟩
  · have hcv := conv1 w 53 53 rfl
    go_enter Tryz.func27, Tryz.ntmps27
    go_wp2
    go_ret
    exact ⟨rfl, (Below.refl _ _).alloc (Nat.le_refl _) _⟩
  · have hcv := conv1 w 54 54 rfl
    go_enter Tryz.func27, Tryz.ntmps27
    go_wp2
    go_ret
    exact ⟨rfl, (Below.refl _ _).alloc (Nat.le_refl _) _⟩
  · have hcv := conv1 w 55 55 rfl
    go_enter Tryz.func27, Tryz.ntmps27
    go_wp2
    go_ret
    exact ⟨rfl, (Below.refl _ _).alloc (Nat.le_refl _) _⟩
  · have hcv := conv1 w 56 56 rfl
    go_enter Tryz.func27, Tryz.ntmps27
    go_wp2
    go_ret
    exact ⟨rfl, (Below.refl _ _).alloc (Nat.le_refl _) _⟩

end Go.Proofs.YtaeigimgobilaaaGreatDoor

namespace Go.Proofs
open Go.Shelf
def Tryz.lays156_ren : Go.Shelf.Ren := ⟨fun | 156 => 52 | 165 => 86 | 166 => 87 | 169 => 88 | 240 => 112 | 241 => 113 | 276 => 128 | 277 => 129 | n => n, fun | 31 => 90 | 9 => 9 | 3 => 3 | 4 => 4 | 0 => 0 | 20 => 20 | 72 => 130 | 76 => 134 | 70 => 128 | 37 => 22 | 75 => 133 | 127 => 167 | 164 => 185 | 5 => 5 | 80 => 122 | n => n, fun | n => n⟩
theorem Tryz.lays156 : Go.Proofs.Lays.n156 Tryz.prog Tryz.lays156_ren := {
  mixed := by kernel_rfl
  f156 := Tryz.func52.trans (congrArg some (by kernel_rfl))
  f165 := Tryz.func86.trans (congrArg some (by kernel_rfl))
  f166 := Tryz.func87.trans (congrArg some (by kernel_rfl))
  f169 := Tryz.func88.trans (congrArg some (by kernel_rfl))
  f240 := Tryz.func112.trans (congrArg some (by kernel_rfl))
  f241 := Tryz.func113.trans (congrArg some (by kernel_rfl))
  f276 := Tryz.func128.trans (congrArg some (by kernel_rfl))
  f277 := Tryz.func129.trans (congrArg some (by kernel_rfl))
  t0 := Tryz.underlying0
  a0 := Tryz.isAgg0
  z0 := Tryz.sizeOf0
  v0 := Tryz.zeroValue0
  t3 := Tryz.underlying3
  a3 := Tryz.isAgg3
  z3 := Tryz.sizeOf3
  v3 := Tryz.zeroValue3
  t4 := Tryz.underlying4
  a4 := Tryz.isAgg4
  z4 := Tryz.sizeOf4
  v4 := Tryz.zeroValue4
  t9 := Tryz.underlying9
  a9 := Tryz.isAgg9
  z9 := Tryz.sizeOf9
  v9 := Tryz.zeroValue9
  t20 := Tryz.underlying20
  a20 := Tryz.isAgg20
  z20 := Tryz.sizeOf20
  v20 := Tryz.zeroValue20
  t31 := Tryz.underlying90
  a31 := Tryz.isAgg90
  z31 := Tryz.sizeOf90
  v31 := Tryz.zeroValue90
  t37 := Tryz.underlying22
  a37 := Tryz.isAgg22
  z37 := Tryz.sizeOf22
  v37 := Tryz.zeroValue22
  t70 := Tryz.underlying128
  a70 := Tryz.isAgg128
  z70 := Tryz.sizeOf128
  v70 := Tryz.zeroValue128
  t72 := Tryz.underlying130
  a72 := Tryz.isAgg130
  z72 := Tryz.sizeOf130
  v72 := Tryz.zeroValue130
  t75 := Tryz.underlying133
  a75 := Tryz.isAgg133
  z75 := Tryz.sizeOf133
  v75 := Tryz.zeroValue133
  t76 := Tryz.underlying134
  a76 := Tryz.isAgg134
  z76 := Tryz.sizeOf134
  v76 := Tryz.zeroValue134
  t127 := Tryz.underlying167
  a127 := Tryz.isAgg167
  z127 := Tryz.sizeOf167
  v127 := Tryz.zeroValue167
  t164 := Tryz.underlying185
  a164 := Tryz.isAgg185
  z164 := Tryz.sizeOf185
  v164 := Tryz.zeroValue185 }
theorem Tryz.Builder_Extra_156 : Builder.Extra Tryz.prog Tryz.lays156_ren := {
  sizeBuilder := by kernel_rfl
  liesBuilder := by kernel_rfl
  t5 := Tryz.underlying5
  a5 := Tryz.isAgg5
  z5 := Tryz.sizeOf5
  v5 := Tryz.zeroValue5
  infoByte := by kernel_rfl
  cellsByte := by kernel_rfl
  sizeByte := by kernel_rfl
  neB5 := by decide }
open Go.RowKit in
theorem Tryz.strings_Join_none (a : Option Addr) (c : Nat) (sep : ByteArray) (w : World) :
    Calls Tryz.prog 52 #[.slice a 0 c, .string sep] w fun e w' => e = .returned (.string ⟨#[]⟩) ∧ w' = w := Any.strings_Join_none Tryz.lays156 Tryz.Builder_Extra_156 a c sep w
open Go.RowKit in
theorem Tryz.strings_Join (bk o c : Nat) (xs : List ByteArray) (sep : ByteArray) (w : World) (hcells : ∀ (j : Nat) x, xs[j]? = some x → w.cell? ⟨bk, o + j, none⟩ = some (.string x)) (hbk : bk < w.heap.size) (hN : xs.length ≤ 140737488355328) (hcap : xs.length ≤ c) (hlen : (Lib.join (xs.map (·.data.toList)) sep.data.toList).length ≤ 140737488355328) :
    Calls Tryz.prog 52 #[.slice (some ⟨bk, o, none⟩) xs.length c, .string sep] w fun e w' => e = .returned (.string ⟨(Lib.join (xs.map (·.data.toList)) sep.data.toList).toArray⟩) ∧ Below w.heap.size w w' := Any.strings_Join Tryz.lays156 Tryz.Builder_Extra_156 bk o c xs sep w hcells hbk hN hcap hlen
def Tryz.lays173_ren : Go.Shelf.Ren := ⟨fun | 173 => 80 | 246 => 108 | 283 => 121 | 284 => 122 | 285 => 123 | 286 => 124 | 129 => 132 | 317 => 131 | 318 => 133 | 319 => 134 | 320 => 135 | 337 => 136 | 338 => 137 | n => n, fun | 2 => 2 | 3 => 3 | 9 => 9 | 4 => 4 | 171 => 179 | 0 => 0 | 53 => 175 | 37 => 22 | 5 => 5 | 173 => 182 | 212 => 191 | 51 => 192 | 20 => 20 | 213 => 193 | 46 => 155 | 232 => 197 | 233 => 198 | n => n, fun | 17 => 0 | 18 => 2 | 19 => 3 | n => n⟩
theorem Tryz.lays173 : Go.Proofs.Lays.n173 Tryz.prog Tryz.lays173_ren := {
  mixed := by kernel_rfl
  f129 := Tryz.func132.trans (congrArg some (by kernel_rfl))
  f173 := Tryz.func80.trans (congrArg some (by kernel_rfl))
  f246 := Tryz.func108.trans (congrArg some (by kernel_rfl))
  f283 := Tryz.func121.trans (congrArg some (by kernel_rfl))
  f284 := Tryz.func122.trans (congrArg some (by kernel_rfl))
  f285 := Tryz.func123.trans (congrArg some (by kernel_rfl))
  f286 := Tryz.func124.trans (congrArg some (by kernel_rfl))
  f317 := Tryz.func131.trans (congrArg some (by kernel_rfl))
  f318 := Tryz.func133.trans (congrArg some (by kernel_rfl))
  f319 := Tryz.func134.trans (congrArg some (by kernel_rfl))
  f320 := Tryz.func135.trans (congrArg some (by kernel_rfl))
  f337 := Tryz.func136.trans (congrArg some (by kernel_rfl))
  f338 := Tryz.func137.trans (congrArg some (by kernel_rfl))
  t0 := Tryz.underlying0
  a0 := Tryz.isAgg0
  z0 := Tryz.sizeOf0
  v0 := Tryz.zeroValue0
  t2 := Tryz.underlying2
  a2 := Tryz.isAgg2
  z2 := Tryz.sizeOf2
  v2 := Tryz.zeroValue2
  t3 := Tryz.underlying3
  a3 := Tryz.isAgg3
  z3 := Tryz.sizeOf3
  v3 := Tryz.zeroValue3
  t4 := Tryz.underlying4
  a4 := Tryz.isAgg4
  z4 := Tryz.sizeOf4
  v4 := Tryz.zeroValue4
  t5 := Tryz.underlying5
  a5 := Tryz.isAgg5
  z5 := Tryz.sizeOf5
  v5 := Tryz.zeroValue5
  t9 := Tryz.underlying9
  a9 := Tryz.isAgg9
  z9 := Tryz.sizeOf9
  v9 := Tryz.zeroValue9
  t20 := Tryz.underlying20
  a20 := Tryz.isAgg20
  z20 := Tryz.sizeOf20
  v20 := Tryz.zeroValue20
  t37 := Tryz.underlying22
  a37 := Tryz.isAgg22
  z37 := Tryz.sizeOf22
  v37 := Tryz.zeroValue22
  t46 := Tryz.underlying155
  a46 := Tryz.isAgg155
  z46 := Tryz.sizeOf155
  v46 := Tryz.zeroValue155
  t51 := Tryz.underlying192
  a51 := Tryz.isAgg192
  z51 := Tryz.sizeOf192
  v51 := Tryz.zeroValue192
  t53 := Tryz.underlying175
  a53 := Tryz.isAgg175
  z53 := Tryz.sizeOf175
  v53 := Tryz.zeroValue175
  t171 := Tryz.underlying179
  a171 := Tryz.isAgg179
  z171 := Tryz.sizeOf179
  v171 := Tryz.zeroValue179
  t173 := Tryz.underlying182
  a173 := Tryz.isAgg182
  z173 := Tryz.sizeOf182
  v173 := Tryz.zeroValue182
  t212 := Tryz.underlying191
  a212 := Tryz.isAgg191
  z212 := Tryz.sizeOf191
  v212 := Tryz.zeroValue191
  t213 := Tryz.underlying193
  a213 := Tryz.isAgg193
  z213 := Tryz.sizeOf193
  t232 := Tryz.underlying197
  a232 := Tryz.isAgg197
  z232 := Tryz.sizeOf197
  v232 := Tryz.zeroValue197
  t233 := Tryz.underlying198
  a233 := Tryz.isAgg198
  z233 := Tryz.sizeOf198
  v233 := Tryz.zeroValue198
  g17 := by kernel_rfl
  g18 := by kernel_rfl
  g19 := by kernel_rfl }
open Go.RowKit Go.Sort Go.Lib in
theorem Tryz.strconv_FormatInt_10_small (i : Nat) (hi : i < 100) (w : World) :
    Calls Tryz.prog 80 #[.int .i64 i, .int .i64 10] w fun e w' => e = .returned (.string ⟨(Lib.decDigits i).toArray⟩) ∧ w' = w := Any.strconv_FormatInt_10_small Tryz.lays173 i hi w
end Go.Proofs

namespace Go.Proofs.YtaeigimgobilaaaGreatDoor
open Go.RowKit Go.Shelf
set_option linter.unusedVariables false

theorem dec_digit (p : Int) (p0 : 1 ≤ p) (p1 : p ≤ 8) : Lib.decDigits p.toNat = [digitB p] := by
  rw [Lib.decDigits, dif_pos (by omega)]
  rfl

set_option maxHeartbeats 400000 in
theorem fmt_c (p : Int) (p0 : 1 ≤ p) (p1 : p ≤ 8) (w : World) :
    Calls Tryz.prog 80 #[.int .i64 p, .int .i64 10] w fun e w' => e = .returned (.string ⟨#[digitB p]⟩) ∧ w = w' := by
  obtain ⟨i, rfl⟩ := Int.eq_ofNat_of_zero_le (show 0 ≤ p by omega)
  have h := dec_digit (i : Int) p0 p1
  rw [Int.toNat_natCast] at h
  refine (Tryz.strconv_FormatInt_10_small i (by omega) w).mono fun e w' hh => ⟨?_, hh.2.symm⟩
  rw [hh.1, h]

set_option maxHeartbeats 400000 in
theorem num_c (p : Int) (p0 : 1 ≤ p) (p1 : p ≤ 8) (w : World) :
    Calls Tryz.prog 48 #[.int .i64 p] w fun e w' => e = .returned (.string ⟨#[digitB p]⟩) ∧ w = w' := by
  go_enter Tryz.func48, Tryz.ntmps48
  go_wp2_with (go_at_call 80; refine (fmt_c p p0 p1 _).mono ?_; rintro e w' ⟨rfl, rfl⟩)
  go_ret
  exact ⟨rfl, rfl⟩

end Go.Proofs.YtaeigimgobilaaaGreatDoor

namespace Go.Proofs.YtaeigimgobilaaaGreatDoor
open Go.RowKit
set_option linter.unusedVariables false
set_option linter.unusedSimpArgs false

/-- A role's text. -/
def roleT (o n : Int) : ByteArray := ⟨#[digitB o, 46, digitB n]⟩

theorem roleB_bd {o n : Int} (h : roleB o n = true) : (1 ≤ o ∧ o ≤ 8) ∧ (1 ≤ n ∧ n ≤ 5) := by
  simp [roleB, prinB, nameB] at h
  omega

theorem cat3 (a b : UInt8) : (⟨#[a]⟩ : ByteArray) ++ ⟨#[46]⟩ ++ ⟨#[b]⟩ = ⟨#[a, 46, b]⟩ := by
  rw [ByteArray.mk_append_mk, ByteArray.mk_append_mk]
  simp

/-- A role in a block of the call's own, and nothing below has turned. -/
theorem keepS {g : Nat} {o n : Int} {w0 w w' : World} (h : w.cell? ⟨g, 0, none⟩ = some (.int .i64 o) ∧ w.cell? ⟨g, 1, none⟩ = some (.int .i64 n) ∧ Below w0.heap.size w0 w) (hb : Below w.heap.size w w') :
    w'.cell? ⟨g, 0, none⟩ = some (.int .i64 o) ∧ w'.cell? ⟨g, 1, none⟩ = some (.int .i64 n) ∧ Below w0.heap.size w0 w' := by
  have key : ∀ (o : Nat) (v : Value), w.cell? ⟨g, o, none⟩ = some v → w'.cell? ⟨g, o, none⟩ = some v := fun o v e => (hb.cell (p := ⟨g, o, none⟩) (World.block_lt_of_cell? w ⟨g, o, none⟩ e)).trans e
  exact ⟨key _ _ h.1, key _ _ h.2.1, h.2.2.trans (hb.mono h.2.2.size)⟩

theorem num_k (p : Int) (p0 : 1 ≤ p) (p1 : p ≤ 8) (g : Nat) (o n : Int) (w0 w : World) (h : w.cell? ⟨g, 0, none⟩ = some (.int .i64 o) ∧ w.cell? ⟨g, 1, none⟩ = some (.int .i64 n) ∧ Below w0.heap.size w0 w) :
    Calls Tryz.prog 48 #[.int .i64 p] w fun e w' => e = .returned (.string ⟨#[digitB p]⟩) ∧ w'.cell? ⟨g, 0, none⟩ = some (.int .i64 o) ∧ w'.cell? ⟨g, 1, none⟩ = some (.int .i64 n) ∧ Below w0.heap.size w0 w' :=
  (num_c p p0 p1 w).mono fun e w' hh => ⟨hh.1, hh.2 ▸ h⟩

theorem dig_k (p : Int) (p0 : 1 ≤ p) (p1 : p ≤ 8) (g : Nat) (o n : Int) (w0 w : World) (h : w.cell? ⟨g, 0, none⟩ = some (.int .i64 o) ∧ w.cell? ⟨g, 1, none⟩ = some (.int .i64 n) ∧ Below w0.heap.size w0 w) :
    Calls Tryz.prog 27 #[.int .i64 p] w fun e w' => e = .returned (.string ⟨#[digitB p]⟩) ∧ w'.cell? ⟨g, 0, none⟩ = some (.int .i64 o) ∧ w'.cell? ⟨g, 1, none⟩ = some (.int .i64 n) ∧ Below w0.heap.size w0 w' :=
  (l1Digits_c p p0 p1 w).mono fun e w' hh => ⟨hh.1, keepS h hh.2⟩

set_option maxHeartbeats 400000 in
theorem roleText_c (o n : Int) (h : roleB o n = true) (w : World) :
    Calls Tryz.prog 82 #[.agg #[.int .i64 o, .int .i64 n]] w fun e w' => e = .returned (.string (roleT o n)) ∧ Below w.heap.size w w' := by
  obtain ⟨⟨o1, o8⟩, n1, n5⟩ := roleB_bd h
  clear h
  go_enter Tryz.func82, Tryz.ntmps82
  go_wp2
  go_region_held3 (fun w' => w'.cell? ⟨w.heap.size, 0, none⟩ = some (.int .i64 o) ∧ w'.cell? ⟨w.heap.size, 1, none⟩ = some (.int .i64 n) ∧ Below w.heap.size w w') (first | exact hS | (refine ⟨by go_cell, by go_cell, by go_grown⟩)) (first | (go_at_call 48; refine (num_k _ (by omega) (by omega) w.heap.size o n w _ ?_).mono ?_; (first | assumption | exact ⟨by go_cell, by go_cell, by go_grown⟩); rintro e w1 ⟨rfl, hS⟩))
  go_wp2
  go_ret
  exact ⟨congrArg (fun x => Ending.returned (Value.string x)) (cat3 _ _), hS.2.2⟩

set_option maxHeartbeats 400000 in
theorem l2Text_c (o n : Int) (h : roleB o n = true) (w : World) :
    Calls Tryz.prog 55 #[.agg #[.int .i64 o, .int .i64 n]] w fun e w' => e = .returned (.string (roleT o n)) ∧ Below w.heap.size w w' := by
  obtain ⟨⟨o1, o8⟩, n1, n5⟩ := roleB_bd h
  clear h
  go_enter Tryz.func55, Tryz.ntmps55
  go_wp2
  go_region_held3 (fun w' => w'.cell? ⟨w.heap.size, 0, none⟩ = some (.int .i64 o) ∧ w'.cell? ⟨w.heap.size, 1, none⟩ = some (.int .i64 n) ∧ Below w.heap.size w w') (first | exact hS | (refine ⟨by go_cell, by go_cell, by go_grown⟩)) (first | (go_at_call 27; refine (dig_k _ (by omega) (by omega) w.heap.size o n w _ ?_).mono ?_; (first | assumption | exact ⟨by go_cell, by go_cell, by go_grown⟩); rintro e w1 ⟨rfl, hS⟩))
  go_wp2
  go_ret
  exact ⟨congrArg (fun x => Ending.returned (Value.string x)) (cat3 _ _), hS.2.2⟩

end Go.Proofs.YtaeigimgobilaaaGreatDoor

namespace Go.Proofs.YtaeigimgobilaaaGreatDoor
open Go.RowKit
set_option linter.unusedVariables false
set_option linter.unusedSimpArgs false

/-- Between the two texts of a part. -/
def sepT (k : Int) : ByteArray := if k = 3 then ⟨#[32, 42, 32]⟩ else ⟨#[32, 43, 32]⟩
def wrapT (s L R : ByteArray) : ByteArray := (⟨#[40]⟩ : ByteArray) ++ L ++ s ++ R ++ ⟨#[41]⟩
def noTx : ByteArray := ⟨#[]⟩
def textOne (ts : List ByteArray) (p : PartI) : ByteArray := if p.k = 1 then roleT p.ro p.rn else wrapT (sepT p.k) (ts[p.l.toNat]?.getD noTx) (ts[p.r.toNat]?.getD noTx)
def textsTo (zs : List PartI) : Nat → List ByteArray
  | 0 => []
  | k + 1 => match zs[k]? with
    | none => textsTo zs k
    | some p => textsTo zs k ++ [textOne (textsTo zs k) p]
theorem textsTo_next {zs : List PartI} {k : Nat} {p : PartI} (h : zs[k]? = some p) : textsTo zs (k + 1) = textsTo zs k ++ [textOne (textsTo zs k) p] := by
  simp [textsTo, h]
theorem textsTo_len (zs : List PartI) : ∀ k, k ≤ zs.length → (textsTo zs k).length = k
  | 0, _ => rfl
  | k + 1, h => by
    rw [textsTo_next (List.getElem?_eq_getElem (show k < zs.length by omega))]
    simp [textsTo_len zs k (by omega)]
theorem textsTo_at {zs : List PartI} {k : Nat} {p : PartI} (h : zs[k]? = some p) : (textsTo zs (k + 1))[k]? = some (textOne (textsTo zs k) p) := by
  have hk : k < zs.length := by
    by_cases q : k < zs.length
    · exact q
    · rw [List.getElem?_eq_none (by omega)] at h; cases h
  have hl := textsTo_len zs k (by omega)
  rw [textsTo_next h, List.getElem?_append_right (by omega), hl, Nat.sub_self]
  rfl
theorem textsTo_keep (zs : List PartI) (j : Nat) : ∀ m, j < m → m ≤ zs.length → (textsTo zs m)[j]? = (textsTo zs (j + 1))[j]?
  | 0, h, _ => by omega
  | m + 1, h, hm => by
    by_cases e : j = m
    · subst e; rfl
    · have hl := textsTo_len zs m (by omega)
      rw [textsTo_next (List.getElem?_eq_getElem (show m < zs.length by omega)), List.getElem?_append_left (by omega)]
      exact textsTo_keep zs j m (by omega) (by omega)

/-- The text of a part by its place. -/
def textAt (zs : List PartI) (j : Nat) : ByteArray := (textsTo zs (j + 1))[j]?.getD noTx
theorem textAt_ahead {zs : List PartI} {j m : Nat} (h : j < m) (hm : m ≤ zs.length) : (textsTo zs m)[j]? = some (textAt zs j) := by
  unfold textAt
  rw [textsTo_keep zs j m h hm]
  have hl := textsTo_len zs (j + 1) (by omega)
  rw [List.getElem?_eq_getElem (by omega)]
  rfl
theorem textAt_is {zs : List PartI} {k : Nat} {p : PartI} (h : zs[k]? = some p) : textAt zs k = textOne (textsTo zs k) p := by
  unfold textAt
  rw [textsTo_at h]; rfl

theorem size_cat (a b : ByteArray) : (a ++ b).size = a.size + b.size := by simp
theorem wrapT_size (s L R : ByteArray) : (wrapT s L R).size = L.size + s.size + R.size + 2 := by
  unfold wrapT
  rw [size_cat, size_cat, size_cat, size_cat, show (ByteArray.mk #[40]).size = 1 from rfl, show (ByteArray.mk #[41]).size = 1 from rfl]
  omega
theorem sepT_size (k : Int) : (sepT k).size = 3 := by
  unfold sepT
  split <;> rfl

theorem text_small (zs : List PartI) : ∀ k t, t ∈ textsTo zs k → t.size + 5 ≤ 8 * 2 ^ k
  | 0, t, h => by cases h
  | k + 1, t, h => by
    have hp : 2 ^ (k + 1) = 2 * 2 ^ k := by rw [Nat.pow_succ]; omega
    have h1 : 1 ≤ 2 ^ k := Nat.one_le_two_pow
    cases e : zs[k]? with
    | none =>
      simp only [textsTo, e] at h
      have := text_small zs k t h
      omega
    | some p =>
      rw [textsTo_next e] at h
      rcases List.mem_append.1 h with h | h
      · have := text_small zs k t h
        omega
      · simp at h
        subst h
        have g : ∀ i : Nat, ((textsTo zs k)[i]?.getD noTx).size + 5 ≤ 8 * 2 ^ k := by
          intro i
          cases e2 : (textsTo zs k)[i]? with
          | none => show (0 : Nat) + 5 ≤ _; omega
          | some u => exact text_small zs k u (List.mem_of_getElem? e2)
        unfold textOne
        split
        · show (3 : Nat) + 5 ≤ _; omega
        · rw [wrapT_size, sepT_size]
          have := g p.l.toNat
          have := g p.r.toNat
          omega

theorem text_2043 {zs : List PartI} {k : Nat} (hk : k ≤ 8) {t : ByteArray} (h : t ∈ textsTo zs k) : t.size ≤ 2043 := by
  have h1 := text_small zs k t h
  have h2 : 2 ^ k ≤ 2 ^ 8 := Nat.pow_le_pow_right (by omega) hk
  omega
theorem textAt_small {zs : List PartI} {j : Nat} (hj : j < 8) : (textAt zs j).size ≤ 2043 := by
  unfold textAt
  cases e : (textsTo zs (j + 1))[j]? with
  | none => show (0 : Nat) ≤ _; omega
  | some u => exact text_2043 (by omega) (List.mem_of_getElem? e)

set_option maxHeartbeats 1000000 in
theorem partText_any (ro rn : Int) (l r b n cap : Nat) (L R : ByteArray) (w : World) (hl : w.cell? ⟨b, l, none⟩ = some (.string L)) (hr : w.cell? ⟨b, r, none⟩ = some (.string R)) (hln : l < n) (hrn : r < n) (hn : n ≤ 8) (hL : L.size ≤ 2043) (hR : R.size ≤ 2043) :
    Calls Tryz.prog 85 #[.agg #[.int .i64 2, .int .i64 ro, .int .i64 rn, .int .i64 (l : Int), .int .i64 (r : Int)], .slice (some ⟨b, 0, none⟩) n cap] w fun e w' => e = .returned (.string (wrapT ⟨#[32, 43, 32]⟩ L R)) ∧ Below w.heap.size w w' := by
  have hb : b < w.heap.size := World.block_lt_of_cell? w ⟨b, l, none⟩ hl
  have h1 : (l : Int) < (n : Int) := by omega
  have h2 : (r : Int) < (n : Int) := by omega
  have h3 : (n : Int) ≤ 8 := by omega
  go_enter Tryz.func85, Tryz.ntmps85
  go_wp2_with fail
  go_quiet (fail)
  go_wp2
  go_ret
  exact ⟨rfl, bdN ((Below.refl _ _).alloc (Nat.le_refl _) _) _⟩

set_option maxHeartbeats 1000000 in
theorem partText_apart (ro rn : Int) (l r b n cap : Nat) (L R : ByteArray) (w : World) (hl : w.cell? ⟨b, l, none⟩ = some (.string L)) (hr : w.cell? ⟨b, r, none⟩ = some (.string R)) (hln : l < n) (hrn : r < n) (hn : n ≤ 8) (hL : L.size ≤ 2043) (hR : R.size ≤ 2043) :
    Calls Tryz.prog 85 #[.agg #[.int .i64 3, .int .i64 ro, .int .i64 rn, .int .i64 (l : Int), .int .i64 (r : Int)], .slice (some ⟨b, 0, none⟩) n cap] w fun e w' => e = .returned (.string (wrapT ⟨#[32, 42, 32]⟩ L R)) ∧ Below w.heap.size w w' := by
  have hb : b < w.heap.size := World.block_lt_of_cell? w ⟨b, l, none⟩ hl
  have h1 : (l : Int) < (n : Int) := by omega
  have h2 : (r : Int) < (n : Int) := by omega
  have h3 : (n : Int) ≤ 8 := by omega
  go_enter Tryz.func85, Tryz.ntmps85
  go_wp2_with fail
  go_quiet (fail)
  go_wp2
  go_ret
  exact ⟨rfl, bdN ((Below.refl _ _).alloc (Nat.le_refl _) _) _⟩

set_option maxHeartbeats 1000000 in
theorem partText_role (ro rn l r : Int) (v : Value) (w : World) (h : roleB ro rn = true) :
    Calls Tryz.prog 85 #[.agg #[.int .i64 1, .int .i64 ro, .int .i64 rn, .int .i64 l, .int .i64 r], v] w fun e w' => e = .returned (.string (roleT ro rn)) ∧ Below w.heap.size w w' := by
  go_enter Tryz.func85, Tryz.ntmps85
  go_wp2_with fail
  refine (roleText_c ro rn h _).mono ?_
  rintro e w1 ⟨rfl, hb1⟩
  go_wp2
  go_ret
  exact ⟨rfl, below_new hb1⟩

/-- The texts ahead, in memory. -/
def TxIn (w : World) (a : Option Addr) (ts : List ByteArray) : Prop := ∀ i t, ts[i]? = some t → ∃ b, a = some ⟨b, 0, none⟩ ∧ w.cell? ⟨b, i, none⟩ = some (.string t)

theorem partText_c (zs : List PartI) (k : Nat) (x : PartI) (a : Option Addr) (cap : Nat) (w : World) (hz : zs[k]? = some x) (hk : k < 8) (hx : ptOne k x = 0) (ht : TxIn w a (textsTo zs k)) :
    Calls Tryz.prog 85 #[.agg #[.int .i64 x.k, .int .i64 x.ro, .int .i64 x.rn, .int .i64 x.l, .int .i64 x.r], .slice a k cap] w fun e w' => e = .returned (.string (textOne (textsTo zs k) x)) ∧ Below w.heap.size w w' := by
  have hkl : k < zs.length := by
    by_cases q : k < zs.length
    · exact q
    · rw [List.getElem?_eq_none (by omega)] at hz; cases hz
  obtain ⟨kk, ro, rn, l, r⟩ := x
  simp only at hx ⊢
  unfold ptOne at hx
  simp only at hx
  split at hx
  · cases hx
  · rename_i hkk
    split at hx
    · rename_i e1
      subst e1
      have hb : roleB ro rn = true := by
        cases q : roleB ro rn
        · rw [if_pos q] at hx; cases hx
        · rfl
      exact partText_role ro rn l r _ w hb
    · rename_i e1
      split at hx
      · cases hx
      · split at hx
        · cases hx
        · split at hx
          · cases hx
          · rename_i q1 q2
            obtain ⟨l', rfl⟩ := Int.eq_ofNat_of_zero_le (show 0 ≤ l by omega)
            obtain ⟨r', rfl⟩ := Int.eq_ofNat_of_zero_le (show 0 ≤ r by omega)
            have hl := textAt_ahead (zs := zs) (show l' < k by omega) (by omega)
            have hr := textAt_ahead (zs := zs) (show r' < k by omega) (by omega)
            obtain ⟨b, rfl, c1⟩ := ht _ _ hl
            obtain ⟨b', eb, c2⟩ := ht _ _ hr
            cases eb
            have hs1 := text_2043 (zs := zs) (by omega) (List.mem_of_getElem? hl)
            have hs2 := text_2043 (zs := zs) (by omega) (List.mem_of_getElem? hr)
            have ho : textOne (textsTo zs k) ⟨kk, ro, rn, (l' : Int), (r' : Int)⟩ = wrapT (sepT kk) (textAt zs l') (textAt zs r') := by
              unfold textOne
              simp only
              rw [if_neg e1, Int.toNat_natCast, Int.toNat_natCast, hl, hr]; rfl
            rw [ho]
            have hk2 : kk = 2 ∨ kk = 3 := by omega
            rcases hk2 with rfl | rfl
            · exact partText_any ro rn l' r' b k cap _ _ w c1 c2 (by omega) (by omega) (by omega) hs1 hs2
            · exact partText_apart ro rn l' r' b k cap _ _ w c1 c2 (by omega) (by omega) (by omega) hs1 hs2

end Go.Proofs.YtaeigimgobilaaaGreatDoor

namespace Go.Proofs.YtaeigimgobilaaaGreatDoor
open Go.RowKit
set_option linter.unusedVariables false
set_option linter.unusedSimpArgs false

theorem Tryz.infoX9 : (Tryz.prog.info? 9).map (fun i => (i.zero, i.size, i.bytes)) = some (some (.string ⟨#[]⟩), 1, 16) := by kernel_rfl

def GivesT (f : Nat) (a : Option Addr) (n cap : Nat) (c : Int) (t : ByteArray) (w : World) : Prop := Calls Tryz.prog f #[.slice a n cap] w fun e w' => e = .returned (.agg #[.int .i64 c, .string t]) ∧ Below w.heap.size w w'

def OwnT (w : World) (B : Nat) (v : Value) (ts : List ByteArray) : Prop := w.ownsRow B 9 1 v ts.length (ts.map Value.string)

theorem OwnT.below {w w' : World} {B : Nat} {v : Value} {ts : List ByteArray} (h : OwnT w B v ts) (hb : Below w.heap.size w w') : OwnT w' B v ts :=
  World.ownsRow.kept (row := none) h ⟨hb.os, hb.tape, hb.output, hb.size, fun k hk _ => hb.block k hk⟩ (by rcases h.2 with ⟨e, _⟩ | ⟨g, cap, cur, e, _⟩; exact .inl (by rw [e]; rfl); exact .inr (by rw [e]; simp [Value.ownBlock]))

theorem OwnT.shape {w : World} {B : Nat} {v : Value} {ts : List ByteArray} (h : OwnT w B v ts) : ∃ a cap, v = .slice a ts.length cap ∧ TxIn w a ts := by
  rcases id h.2 with ⟨e, _⟩ | ⟨g, cap, cur, e, _⟩
  · have hl : ts.length = 0 := by
      obtain ⟨a, cap, e2⟩ := owns_slice h
      rw [e] at e2
      cases ts with
      | nil => rfl
      | cons x xs => simp at e2
    obtain rfl : ts = [] := List.length_eq_zero_iff.1 hl
    exact ⟨none, 0, e, fun i t q => by simp at q⟩
  · refine ⟨_, cap, e, fun i t q => ⟨g, rfl, ?_⟩⟩
    have hi : i < ts.length := by
      by_cases q2 : i < ts.length
      · exact q2
      · rw [List.getElem?_eq_none (by omega)] at q; cases q
    unfold OwnT at h
    rw [e] at h
    rw [h.cellAt i (by omega), List.getElem?_map, q]
    rfl

set_option maxRecDepth 100000 in
set_option maxHeartbeats 2000000 in
theorem implPT_bad (a : Option Addr) (n cap : Nat) (zs : List PartI) (c : Int) (w : World) (hm : n ≤ maxLen) (h : PartsIn w a n zs) (hc : ptCode zs = c) (h0 : c ≠ 0) :
    GivesT 50 a n cap c noTx w := by
  have HM : Hid (∀ w2 : World, Below w.heap.size w w2 → Calls Tryz.prog 63 #[.slice a n cap] w2 fun e w' => e = .returned (.int .i64 c) ∧ Below w2.heap.size w2 w') := fun w2 q => by rw [← hc]; exact implPartsFault_c a n cap zs w2 hm (h.below q)
  have hcb : (c != 0) = true := by simpa using h0
  clear h hc h0
  unfold GivesT
  go_enter Tryz.func50, Tryz.ntmps50
  go_wp2_with fail
  refine (HM.out _ ((Below.refl _ _).alloc (Nat.le_refl _) _)).mono ?_
  rintro e w1 ⟨rfl, hb1⟩
  have d0 : w1.cell? ⟨w.heap.size, 0, none⟩ = some (.int .i64 0) := (hb1.cell (p := ⟨w.heap.size, 0, none⟩) (by simp)).trans (by simp)
  have d1 : w1.cell? ⟨w.heap.size, 1, none⟩ = some (.string ⟨#[]⟩) := (hb1.cell (p := ⟨w.heap.size, 1, none⟩) (by simp)).trans (by simp)
  have g0 : w1.frozen? ⟨w.heap.size, 0, none⟩ = false := (hb1.frozen (p := ⟨w.heap.size, 0, none⟩) (by simp)).trans (by simp [go_sem])
  have g1 : w1.frozen? ⟨w.heap.size, 1, none⟩ = false := (hb1.frozen (p := ⟨w.heap.size, 1, none⟩) (by simp)).trans (by simp [go_sem])
  have hw : w.heap.size < w1.heap.size := by have := hb1.size; simp at this; omega
  have hbx : Below w.heap.size w w1 := below_new hb1
  clear hb1
  go_wp2
  refine bodyPost_ret (v := .agg #[.int .i64 c, .string ⟨#[]⟩]) (by simp [results, Tryz.results50, go_sem, d0, d1, hw]) rfl ⟨rfl, ?_⟩
  exact (hbx.setCell (Nat.le_refl _) _).setCell (Nat.le_refl _) _

set_option maxRecDepth 100000 in
set_option maxHeartbeats 4000000 in
theorem implPT_ok (a : Option Addr) (n cap : Nat) (zs : List PartI) (T : ByteArray) (w : World) (h : PartsIn w a n zs) (hc : ptCode zs = 0) (hT : textAt zs (n - 1) = T) (c : Int) (t0 : ByteArray) (HCT : Hid ((200 < T.size → c = 2 ∧ t0 = noTx) ∧ (¬ 200 < T.size → c = 0 ∧ t0 = T))) :
    GivesT 50 a n cap c t0 w := by
  obtain ⟨hz1, hz8, hall⟩ := pt_all hc
  rw [h.1] at hz1 hz8
  have HM : Hid (∀ w2 : World, Below w.heap.size w w2 → Calls Tryz.prog 63 #[.slice a n cap] w2 fun e w' => e = .returned (.int .i64 0) ∧ Below w2.heap.size w2 w') := fun w2 q => by rw [← hc]; exact implPartsFault_c a n cap zs w2 (by unfold maxLen; omega) (h.below q)
  have HA : Hid (∀ k x, zs[k]? = some x → ptOne k x = 0) := hall
  have HP : Hid (PartsIn w a n zs) := h
  have hTs : T.size ≤ 2043 := by rw [← hT]; exact textAt_small (by omega)
  have HTT : Hid (textAt zs (n - 1) = T) := hT
  obtain ⟨i0, hi, hz0, hz1', hz2⟩ := info_parts Tryz.infoX9
  have hn8 : (n : Int) ≤ 8 := by omega
  clear h hc hT hall
  unfold GivesT
  go_enter Tryz.func50, Tryz.ntmps50
  go_wp2_with fail
  refine (HM.out _ ((Below.refl _ _).alloc (Nat.le_refl _) _)).mono ?_
  rintro e W ⟨rfl, hb1⟩
  have d0 : W.cell? ⟨w.heap.size, 0, none⟩ = some (.int .i64 0) := (hb1.cell (p := ⟨w.heap.size, 0, none⟩) (by simp)).trans (by simp)
  have d1 : W.cell? ⟨w.heap.size, 1, none⟩ = some (.string ⟨#[]⟩) := (hb1.cell (p := ⟨w.heap.size, 1, none⟩) (by simp)).trans (by simp)
  have g0 : W.frozen? ⟨w.heap.size, 0, none⟩ = false := (hb1.frozen (p := ⟨w.heap.size, 0, none⟩) (by simp)).trans (by simp [go_sem])
  have g1 : W.frozen? ⟨w.heap.size, 1, none⟩ = false := (hb1.frozen (p := ⟨w.heap.size, 1, none⟩) (by simp)).trans (by simp [go_sem])
  have hwW : w.heap.size < W.heap.size := by have := hb1.size; simp at this; omega
  have hbx : Below w.heap.size w W := below_new hb1
  have HBW : Hid (((W.cell? ⟨w.heap.size, 0, none⟩ = some (.int .i64 0) ∧ W.cell? ⟨w.heap.size, 1, none⟩ = some (.string ⟨#[]⟩)) ∧ W.frozen? ⟨w.heap.size, 0, none⟩ = false ∧ W.frozen? ⟨w.heap.size, 1, none⟩ = false) ∧ Below w.heap.size w W) := ⟨⟨⟨d0, d1⟩, g0, g1⟩, hbx⟩
  clear hb1 d0 d1 g0 g1 hbx
  go_wp2_with fail
  go_loopw [4, 16] (fun v i wr => ∃ k : Nat, k ≤ n ∧ i = .int .i64 (k : Int) ∧ Hid (OwnT wr W.heap.size v (textsTo zs k) ∧ Below W.heap.size W wr)) (fun _ i _ => n - (intOf i).toNat)
  case atStart => exact ⟨0, by omega, rfl, World.ownsRow_nil _ _ _ _, Below.refl _ _⟩
  case round =>
    obtain ⟨k, hk, rfl, HK⟩ := hrel
    have hkl : (textsTo zs k).length = k := textsTo_len zs k (by rw [HP.out.1]; exact hk)
    by_cases hlt : k < n
    · have hlt' : (k : Int) < (n : Int) := by omega
      obtain ⟨b, off, x, rfl, hs, hx⟩ := HP.out.at hlt
      have hnx : Below w.heap.size w wr := HBW.out.2.trans (HK.out.2.mono HBW.out.2.size)
      obtain ⟨q0, q1, q2, q3, q4⟩ := hx.below hnx
      have HS : Hid (zs[k]? = some x) := hs
      have HO : Hid (ptOne k x = 0) := HA.out k x hs
      have HNX : Hid (textsTo zs (k + 1) = textsTo zs k ++ [textOne (textsTo zs k) x]) := textsTo_next hs
      obtain ⟨va, vc, hve, htx⟩ := HK.out.1.shape
      rw [hkl] at hve
      subst hve
      have HTX : Hid (TxIn wr va (textsTo zs k)) := htx
      clear htx hs hx hnx
      go_wp2_with fail
      refine (partText_c zs k x va vc _ HS.out (by omega) HO.out (fun i t e => ?_)).mono ?_
      · obtain ⟨b', e1, e2⟩ := HTX.out i t e
        exact ⟨b', e1, ((Below.refl _ _).alloc (Nat.le_refl _) _ : Below wr.heap.size wr (wr.alloc _)).cell (p := ⟨b', i, none⟩) (World.block_lt_of_cell? wr ⟨b', i, none⟩ e2) |>.trans e2⟩
      rintro e V ⟨rfl, hb2⟩
      obtain ⟨t, ht⟩ : ∃ t, textOne (textsTo zs k) x = t := ⟨_, rfl⟩
      rw [ht]
      have HNX' : Hid (textsTo zs (k + 1) = textsTo zs k ++ [t]) := by rw [← ht]; exact HNX.out
      have HV : Hid (OwnT V W.heap.size (.slice va k vc) (textsTo zs k) ∧ Below W.heap.size W V) := ⟨HK.out.1.below (below_new hb2), HK.out.2.trans ((below_new hb2).mono HK.out.2.size)⟩
      clear hb2 HTX HK q0 q1 q2 q3 q4 ht HNX
      go_wp2_with (first
        | (at_builtin; refine wpList_append_own _ rfl _ _ 90 rfl W.heap.size 9 i0 (.string ⟨#[]⟩) 1 16 Tryz.underlying90 hi hz0 hz1' hz2 rfl (by decide) _ _ _ rfl (HV.out.1.alloc _) ⟨V.heap.size, 0, none⟩ 1 1 [.string t] rfl rfl ?c1 ?c2 ?c3 ?c4 ?c5 ?_)
        | fail)
      case c1 =>
        intro j u hj
        match j, hj with
        | 0, hj => simp at hj; subst hj; simp [Addr.add]
      case c2 => intro u hu; simp at hu; subst hu; rfl
      case c3 => rw [hkl]; unfold maxLen; omega
      case c4 => rw [hkl]; omega
      case c5 => have := HV.out.2.size; simp; omega
      intro v' w9 hown' hgrow hnil
      have HN : Hid (OwnT w9 W.heap.size v' (textsTo zs (k + 1)) ∧ Below W.heap.size W w9) := by
        rw [HNX'.out]
        refine ⟨by unfold OwnT; simpa [hkl] using hown', (HV.out.2.alloc HV.out.2.size _).grown hgrow (by have := HV.out.2.size; simp; omega) (fun j hj => (HV.out.1.lt j hj).1)⟩
      clear hnil hown' hgrow
      go_wp2_with fail
      exact ⟨⟨k + 1, by omega, by go_num, HN⟩, by simp [intOf]; omega⟩
    · have hke : k = n := by omega
      subst hke
      obtain ⟨⟨⟨e0, e1⟩, f0, f1⟩, hbW⟩ := HBW.out
      have hbr := HK.out.2
      have d0 := (hbr.cell (p := ⟨w.heap.size, 0, none⟩) hwW).trans e0
      have d1 := (hbr.cell (p := ⟨w.heap.size, 1, none⟩) hwW).trans e1
      have g0 := (hbr.frozen (p := ⟨w.heap.size, 0, none⟩) hwW).trans f0
      have g1 := (hbr.frozen (p := ⟨w.heap.size, 1, none⟩) hwW).trans f1
      have hw : w.heap.size < wr.heap.size := Nat.lt_of_lt_of_le hwW hbr.size
      have HB : Hid (Below w.heap.size w wr) := hbW.trans (hbr.mono hbW.size)
      obtain ⟨va, vc, hve, htx⟩ := HK.out.1.shape
      rw [hkl] at hve
      subst hve
      obtain ⟨vb, rfl, cl⟩ := htx (k - 1) _ (textAt_ahead (show k - 1 < k by omega) (by rw [HP.out.1]; exact Nat.le_refl _))
      rw [HTT.out] at cl
      have hkm : ((k : Int) - 1) = ((k - 1 : Nat) : Int) := by omega
      have hk1 : (((k - 1 : Nat) : Nat) : Int) < (k : Int) := by omega
      obtain ⟨k1, hk1e⟩ : ∃ k1, k1 = k - 1 := ⟨_, rfl⟩
      rw [← hk1e] at cl hkm hk1
      clear hbr hbW e0 e1 f0 f1 htx hk1e
      by_cases hbig : 200 < T.size
      · have hbig' : (200 : Int) < (T.size : Int) := by omega
        have E : Hid (c = 2 ∧ t0 = noTx) := HCT.out.1 hbig
        clear hbig
        go_wp2_with fail
        refine bodyPost_ret (v := .agg #[.int .i64 2, .string ⟨#[]⟩]) (by simp [results, Tryz.results50, go_sem, d0, d1, hw]) rfl ⟨by rw [E.out.1, E.out.2]; rfl, ?_⟩
        exact (HB.out.setCell (Nat.le_refl _) _).setCell (Nat.le_refl _) _
      · have hbig' : ¬ ((200 : Int) < (T.size : Int)) := by omega
        have E : Hid (c = 0 ∧ t0 = T) := HCT.out.2 hbig
        clear hbig
        go_wp2_with fail
        refine bodyPost_ret (v := .agg #[.int .i64 0, .string T]) (by simp [results, Tryz.results50, go_sem, d0, d1, hw]) rfl ⟨by rw [E.out.1, E.out.2], ?_⟩
        exact (HB.out.setCell (Nat.le_refl _) _).setCell (Nat.le_refl _) _

end Go.Proofs.YtaeigimgobilaaaGreatDoor
