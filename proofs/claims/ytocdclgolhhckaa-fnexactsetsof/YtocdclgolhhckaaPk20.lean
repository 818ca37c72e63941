/-
  CONTRACTS: impl.grantMapOf: a map out of grants.
  Conditions: each contract bears its own.
  PLAIN WORDS on the fault of grants. No Go text is walked here.
  Conditions: each fact bears its own.
  CONTRACT: spec.l3Fault.
  Conditions: each contract bears its own.
-/
import Derived.Test.YtocdclgolhhckaaPk15
import Derived.Test.YtocdclgolhhckaaPk06
import Derived.Test.YtocdclgolhhckaaPk08
import Derived.Test.YtocdclgolhhckaaPk04
import Derived.Test.YtocdclgolhhckaaPk03
import Derived.WalkSmall
import Derived.BigQuiet
import Derived.Deep.QuietTactic
namespace Go.Proofs.Ytocdclgolhhckaa
open Go.RowKit
set_option linter.unusedVariables false
set_option linter.unusedSimpArgs false

theorem ofG_snoc (x : GrI) : ∀ (ys : List GrI), (∀ y ∈ ys, y.1 ≠ x.1) → ∀ r, ofG (ys ++ [x]) r = if r = x.1 then x.2 else ofG ys r
  | [], _, r => by
    show (if x.1 = r then x.2 else 0) = _
    by_cases e : r = x.1
    · rw [if_pos e, if_pos e.symm]
    · rw [if_neg e, if_neg (fun q => e q.symm)]; rfl
  | y :: ys, h, r => by
    show (if y.1 = r then y.2 else ofG (ys ++ [x]) r) = if r = x.1 then x.2 else if y.1 = r then y.2 else ofG ys r
    rw [ofG_snoc x ys (fun z hz => h z (by simp [hz])) r]
    by_cases e : y.1 = r
    · rw [if_pos e, if_pos e, if_neg (fun q => h y (by simp) (e.trans q))]
    · rw [if_neg e, if_neg e]

theorem ofG_take {gs : List GrI} (h : SG gs) {k : Nat} {x : GrI} (hx : gs[k]? = some x) : ofG (gs.take (k + 1)) = giveF (ofG (gs.take k)) x.1 x.2 := by
  have hk : k < gs.length := by
    by_cases q : k < gs.length
    · exact q
    · rw [List.getElem?_eq_none (by omega)] at hx; cases hx
  have e : gs[k] = x := by rw [List.getElem?_eq_getElem hk] at hx; exact Option.some.inj hx
  have hne : ∀ y ∈ gs.take k, y.1 ≠ x.1 := by
    intro y hy q
    obtain ⟨j, hj, ej⟩ := List.mem_iff_getElem.1 hy
    have hjk : j < k := by simp at hj; omega
    rw [List.getElem_take] at ej
    have := (List.pairwise_iff_getElem.1 h.up) j k (by omega) hk hjk
    rw [ej, e, q, ltR_irrefl] at this
    cases this
  have hs : setB x.2 := by
    have := h.st x (List.mem_of_getElem? hx)
    exact ⟨by omega, this.2⟩
  funext r
  rw [List.take_succ_eq_append_getElem hk, e, ofG_snoc x _ hne r]
  unfold giveF
  by_cases er : r = x.1
  · rw [if_pos er, if_pos er, ofG_none hne, zero_or hs]
  · rw [if_neg er, if_neg er]

set_option maxRecDepth 100000 in
set_option maxHeartbeats 2000000 in
theorem grantMapOf_c (a : Option Addr) (n cap : Nat) (gs : List GrI) (w : World) (hg : GrIn w a n gs) (hs : SG gs) :
    Calls Try.prog 69 #[.slice a n cap] w fun e w' => ∃ b, e = .returned (.map (some b)) ∧ GM w' b (ofG gs) ∧ w.heap.size ≤ b ∧ Below w.heap.size w w' := by
  have hn40 : n ≤ 40 := by rw [← hg.1]; exact sg_len hs
  have hn' : (n : Int) ≤ 40 := by omega
  have HG : Hid (GrIn w a n gs) := hg
  have HS : Hid (SG gs) := hs
  have HN : Hid (gs.length = n) := hg.1
  have h1 : Below w.heap.size w (w.alloc (.map #[] 0)) := (Below.refl _ _).alloc (Nat.le_refl _) _
  have hG1 := gm_made w
  have hs1 : w.heap.size < (w.alloc (.map #[] 0)).heap.size := by rw [World.size_alloc]; omega
  have hmk : (Instr.makeMap 88 none).run Try.prog w = .ok (.map (some w.heap.size)) (w.alloc (.map #[] 0)) := run_makeMap _ w
  generalize hw1 : w.alloc (.map #[] 0) = w1 at *
  have HG1 : Hid (GM w1 w.heap.size zeroF) := hG1
  clear hg hs hG1 hw1
  go_enter Try.func69, Try.ntmps69
  go_wp2
  go_loopw [9] (fun i wr => ∃ k : Nat, k ≤ n ∧ i = .int .i64 (k : Int) ∧ GM wr w.heap.size (ofG (gs.take k)) ∧ Below w.heap.size w wr ∧ w.heap.size < wr.heap.size) (fun i _ => n - (intOf i).toNat)
  case atStart => exact ⟨0, Nat.zero_le _, rfl, HG1.out, h1, hs1⟩
  case round =>
    obtain ⟨k, hk, rfl, hG, hnx, hsz⟩ := hrel
    have HGk : Hid (GM wr w.heap.size (ofG (gs.take k))) := hG
    clear hG
    by_cases hltk : k < n
    · obtain ⟨g, off, x, rfl, hx, hxc, _⟩ := HG.out.at hltk
      have hxr : roleB x.1.1 x.1.2 = true := HS.out.ro x (List.mem_of_getElem? hx)
      have hxs : 1 ≤ x.2 ∧ x.2 ≤ 255 := HS.out.st x (List.mem_of_getElem? hx)
      have HE : Hid (ofG (gs.take (k + 1)) = giveF (ofG (gs.take k)) x.1 x.2) := ofG_take HS.out hx
      obtain ⟨c0, c1, c2⟩ := hxc.below hnx (World.block_lt_of_cell? w _ hxc.1)
      clear hx hxc
      have hlt' : (k : Int) < (n : Int) := by omega
      have hwrap : IntKind.u8.wrap x.2 = x.2 := by
        rw [IntKind.wrap_u8]; omega
      have HV : Hid (∀ W : World, Below wr.heap.size wr W → Calls Try.prog 100 #[.map (some w.heap.size), .agg #[.int .i64 x.1.1, .int .i64 x.1.2], .int .u8 x.2] W fun e w' => (∃ t, e = .returned (.bool t)) ∧ GM w' w.heap.size (giveF (ofG (gs.take k)) x.1 x.2) ∧ W.grownBy w' (some w.heap.size)) := fun W hW =>
        (give_c w.heap.size (ofG (gs.take k)) x.1 x.2 W (HGk.out.below hsz hW) hxr ⟨by omega, hxs.2⟩).mono (fun e w' q => ⟨⟨_, q.1⟩, q.2.1, q.2.2⟩)
      have hA : Below wr.heap.size wr (wr.alloc (.cells #[.int .i64 x.1.1, .int .i64 x.1.2, .int .i64 x.2] 95)) := (Below.refl _ _).alloc (Nat.le_refl _) _
      go_wp2_with (first | (go_at_call 100; refine (HV.out _ hA).mono ?_; rintro e w4 ⟨⟨t, rfl⟩, hG4, hg4⟩))
      have hb : Below w.heap.size w (wr.alloc (.cells #[.int .i64 x.1.1, .int .i64 x.1.2, .int .i64 x.2] 95)) := hnx.trans (hA.mono (by omega))
      exact ⟨⟨k + 1, by omega, by go_num, by rw [HE.out]; exact hG4, Below.turn hb hb.size (Nat.le_refl _) hg4, by have := hg4.size; simp only [World.size_alloc] at this; omega⟩, by simp [intOf]; omega⟩
    · have hkn : k = n := by omega
      subst hkn
      go_wp2
      go_ret
      refine ⟨w.heap.size, rfl, ?_, Nat.le_refl _, hnx⟩
      have := HGk.out
      rwa [List.take_of_length_le (by rw [HN.out]; exact Nat.le_refl _)] at this

end Go.Proofs.Ytocdclgolhhckaa

namespace Go.Proofs.Ytocdclgolhhckaa
open Go.RowKit

def setIn (s : Int) : Bool := decide (0 ≤ s) && decide (s ≤ 255)

/-- The grant ahead stands ahead. -/
def prevB (gs : List GrI) (k : Nat) (x : GrI) : Bool := match k with
  | 0 => true
  | j + 1 => match gs[j]? with | some y => ltR y.1 x.1 | none => true

def gfOne (gs : List GrI) (k : Nat) (x : GrI) : Int := if roleB x.1.1 x.1.2 = false then 3 else if setIn x.2 = false then 3 else if x.2 = 0 then 1 else if prevB gs k x = false then 1 else 0

def gfTo (gs : List GrI) : Nat → Int
  | 0 => 0
  | k + 1 => if gfTo gs k ≠ 0 then gfTo gs k else match gs[k]? with
    | none => 0
    | some x => gfOne gs k x

def gfCode (gs : List GrI) : Int := if 40 < gs.length then 2 else gfTo gs gs.length

theorem gfTo_stay (gs : List GrI) (k m : Nat) (c : Int) (hc : c ≠ 0) (h : gfTo gs k = c) (hm : k ≤ m) : gfTo gs m = c := by
  induction m with
  | zero => obtain rfl : k = 0 := by omega
            exact h
  | succ m ih =>
    by_cases e : k = m + 1
    · subst e; exact h
    · have := ih (by omega)
      simp only [gfTo, this]
      rw [if_pos hc]

theorem gfTo_next {gs : List GrI} {k : Nat} {x : GrI} (hk : gs[k]? = some x) (h0 : gfTo gs k = 0) : gfTo gs (k + 1) = gfOne gs k x := by
  simp [gfTo, h0, hk]

theorem gfOne_zero {gs : List GrI} {k : Nat} {x : GrI} : gfOne gs k x = 0 ↔ roleB x.1.1 x.1.2 = true ∧ (1 ≤ x.2 ∧ x.2 ≤ 255) ∧ prevB gs k x = true := by
  unfold gfOne setIn
  cases h1 : roleB x.1.1 x.1.2 <;> cases h2 : prevB gs k x <;> simp
  · intro h3
    split at h3 <;> cases h3
  · constructor
    · intro h
      split at h
      · cases h
      · rename_i q
        split at h
        · cases h
        · simp at q; omega
    · intro h
      rw [if_neg (by simp; omega), if_neg (by omega)]

theorem gf_take {gs : List GrI} : ∀ k, k ≤ gs.length → gfTo gs k = 0 → SG (gs.take k)
  | 0, _, _ => by simpa using sg_nil
  | k + 1, hk, h => by
    have h0 : gfTo gs k = 0 := by
      by_cases q : gfTo gs k = 0
      · exact q
      · exact absurd (gfTo_stay gs k (k + 1) _ q rfl (by omega)) (by rw [h]; exact fun e => q e.symm)
    have hx : gs[k]? = some gs[k] := List.getElem?_eq_getElem (by omega)
    rw [gfTo_next hx h0] at h
    obtain ⟨h1, h2, h3⟩ := gfOne_zero.1 h
    have i := gf_take k (by omega) h0
    rw [List.take_succ_eq_append_getElem (by omega)]
    refine ⟨List.pairwise_append.2 ⟨i.up, by simp, fun a ha b hb => ?_⟩, fun x hx => ?_, fun x hx => ?_⟩
    · simp at hb
      rw [hb]
      obtain ⟨j, hj⟩ := List.mem_iff_getElem?.1 ha
      have hjk : j < k := by
        by_cases q : j < k
        · exact q
        · rw [List.getElem?_eq_none (by simp; omega)] at hj; cases hj
      match k, hk, hx, h3, i, ha, hj, hjk with
      | m + 1, hk, hx, h3, i, ha, hj, hjk =>
        have hy : gs[m]? = some gs[m] := List.getElem?_eq_getElem (by omega)
        simp only [prevB, hy] at h3
        by_cases e : j = m
        · subst e
          rw [List.getElem?_take, if_pos (by omega), hy] at hj
          rw [← Option.some.inj hj]
          exact h3
        · have hp := List.pairwise_iff_getElem.1 i.up j m (by simp; omega) (by simp; omega) (by omega)
          rw [List.getElem_take, List.getElem_take] at hp
          rw [List.getElem?_take, if_pos (by omega), List.getElem?_eq_getElem (by omega)] at hj
          rw [← Option.some.inj hj]
          exact ltR_trans hp h3
    · rcases List.mem_append.1 hx with q | q
      · exact i.ro x q
      · simp at q; rw [q]; exact h1
    · rcases List.mem_append.1 hx with q | q
      · exact i.st x q
      · simp at q; rw [q]; exact h2

theorem gf_sg {gs : List GrI} (h : gfCode gs = 0) : SG gs := by
  unfold gfCode at h
  split at h
  · cases h
  · have := gf_take gs.length (Nat.le_refl _) h
    rwa [List.take_length] at this

theorem sg_gf {gs : List GrI} (h : SG gs) : gfCode gs = 0 := by
  have hl := sg_len h
  unfold gfCode
  rw [if_neg (by omega)]
  have key : ∀ k, k ≤ gs.length → gfTo gs k = 0 := by
    intro k
    induction k with
    | zero => intro _; rfl
    | succ k ih =>
      intro hk
      have hx : gs[k]? = some gs[k] := List.getElem?_eq_getElem (by omega)
      rw [gfTo_next hx (ih (by omega))]
      refine gfOne_zero.2 ⟨h.ro _ (List.getElem_mem _), h.st _ (List.getElem_mem _), ?_⟩
      match k, hk, hx with
      | 0, _, _ => rfl
      | j + 1, hk, _ =>
        simp only [prevB, List.getElem?_eq_getElem (show j < gs.length by omega)]
        exact List.pairwise_iff_getElem.1 h.up j (j + 1) (by omega) (by omega) (by omega)
  exact key _ (Nat.le_refl _)

theorem prevB_of {gs : List GrI} {j : Nat} {y : GrI} (h : gs[j]? = some y) (x : GrI) : prevB gs (j + 1) x = ltR y.1 x.1 := by simp [prevB, h]

end Go.Proofs.Ytocdclgolhhckaa

namespace Go.Proofs.Ytocdclgolhhckaa
open Go.RowKit
set_option linter.unusedVariables false
set_option linter.unusedSimpArgs false

set_option maxHeartbeats 400000 in
theorem l1Set_c (s : Int) (w : World) : Calls Try.prog 89 #[.int .i64 s] w fun e w' => e = .returned (.bool (setIn s)) ∧ w = w' := by
  unfold setIn
  cases h0 : decide (0 ≤ s)
  · go_enter Try.func89, Try.ntmps89
    go_wp2
    go_ret
    exact ⟨by simp, rfl⟩
  · have h0' := of_decide_eq_true h0
    cases h1 : decide (s ≤ 255)
    all_goals
      go_enter Try.func89, Try.ntmps89
      go_wp2
      go_ret
      exact ⟨by simp, rfl⟩

set_option maxRecDepth 100000 in
set_option maxHeartbeats 2000000 in
theorem l3Fault_few (a : Option Addr) (n cap : Nat) (gs : List GrI) (c : Int) (w : World) (h40 : n ≤ 40) (h : GrIn w a n gs) (hc : gfTo gs n = c) :
    Calls Try.prog 65 #[.slice a n cap] w fun e w' => e = .returned (.int .i64 c) ∧ Below w.heap.size w w' := by
  have H : Hid (GrIn w a n gs) := h
  have HC : Hid (gfTo gs n = c) := hc
  clear h hc
  have h' : ¬ ((40 : Int) < (n : Int)) := by omega
  have hn' : (n : Int) ≤ 40 := by omega
  go_enter Try.func65, Try.ntmps65
  go_wp2
  go_loopw [3] (fun i wr => ∃ k : Nat, k ≤ n ∧ i = .int .i64 (k : Int) ∧ gfTo gs k = 0 ∧ Below w.heap.size w wr) (fun i _ => n - (intOf i).toNat)
  case atStart => exact ⟨0, Nat.zero_le _, rfl, rfl, Below.refl _ _⟩
  case round =>
    obtain ⟨k, hk, rfl, hp, hnx⟩ := hrel
    have HP : Hid (gfTo gs k = 0) := hp
    clear hp
    by_cases hlt : k < n
    · obtain ⟨b, off, x, rfl, hs, hx, hbl⟩ := H.out.at hlt
      have HN : Hid (gfTo gs (k + 1) = gfOne gs k x) := gfTo_next hs HP.out
      have HX : Hid (gs[k]? = some x) := hs
      clear hs
      have g := hx.below hnx hbl
      obtain ⟨g0, g1, g2⟩ := g
      have hbw : b < wr.heap.size := Nat.lt_of_lt_of_le hbl hnx.size
      have hlt' : (k : Int) < (n : Int) := by omega
      obtain ⟨t, ht⟩ : ∃ t, roleB x.1.1 x.1.2 = t := ⟨_, rfl⟩
      cases t
      · have E : Hid (c = 3) := HC.out.symm.trans (gfTo_stay gs (k + 1) n 3 (by decide) (by rw [HN.out]; simp [gfOne, ht]) (by omega))
        go_wp2_with (first | (go_at_call 54; refine (l2Role_c _ _ _).mono ?_; rintro e w1 ⟨rfl, hb1⟩; rw [ht]) | go_in)
        go_ret
        exact ⟨by rw [E.out]; rfl, hnx.trans (hb1.mono hnx.size)⟩
      · obtain ⟨u, hu⟩ : ∃ u, setIn x.2 = u := ⟨_, rfl⟩
        cases u
        · have E : Hid (c = 3) := HC.out.symm.trans (gfTo_stay gs (k + 1) n 3 (by decide) (by rw [HN.out]; simp [gfOne, ht, hu]) (by omega))
          go_wp2_with (first | (go_at_call 54; refine (l2Role_c _ _ _).mono ?_; rintro e w1 ⟨rfl, hb1⟩; rw [ht]; have g3 := (hb1.cell (p := ⟨b, off + k * 3 + 2, none⟩) hbw).trans g2) | (go_at_call 89; refine (l1Set_c _ _).mono ?_; rintro e w2 ⟨rfl, rfl⟩; rw [hu]) | go_in)
          go_ret
          exact ⟨by rw [E.out]; rfl, hnx.trans (hb1.mono hnx.size)⟩
        · by_cases hz : x.2 = 0
          · have E : Hid (c = 1) := HC.out.symm.trans (gfTo_stay gs (k + 1) n 1 (by decide) (by rw [HN.out]; unfold gfOne; rw [if_neg (by simp [ht]), if_neg (by simp [hu]), if_pos hz]) (by omega))
            have bz : (x.2 == 0) = true := by simp [hz]
            clear hz
            go_wp2_with (first | (go_at_call 54; refine (l2Role_c _ _ _).mono ?_; rintro e w1 ⟨rfl, hb1⟩; rw [ht]; have g3 := (hb1.cell (p := ⟨b, off + k * 3 + 2, none⟩) hbw).trans g2; have f0 := (hb1.cell (p := ⟨b, off + k * 3, none⟩) hbw).trans g0; have f1 := (hb1.cell (p := ⟨b, off + k * 3 + 1, none⟩) hbw).trans g1) | (go_at_call 89; refine (l1Set_c _ _).mono ?_; rintro e w2 ⟨rfl, rfl⟩; rw [hu]) | go_in)
            go_ret
            exact ⟨by rw [E.out]; rfl, hnx.trans (hb1.mono hnx.size)⟩
          · have bz : (x.2 == 0) = false := by simp [hz]
            match k, hk, hlt, HP, HN, HX, g0, g1, g2, hlt' with
            | 0, hk, hlt, HP, HN, HX, g0, g1, g2, hlt' =>
              have HE : Hid (gfTo gs 1 = 0) := HN.out.trans (gfOne_zero.2 ⟨ht, by simp [setIn] at hu; omega, rfl⟩)
              clear hz
              simp only [Nat.zero_mul, Nat.add_zero] at g0 g1 g2
              go_wp2_with (first | (go_at_call 54; refine (l2Role_c _ _ _).mono ?_; rintro e w1 ⟨rfl, hb1⟩; rw [ht]; have g3 := (hb1.cell (p := ⟨b, off + 2, none⟩) hbw).trans g2; have f0 := (hb1.cell (p := ⟨b, off, none⟩) hbw).trans g0; have f1 := (hb1.cell (p := ⟨b, off + 1, none⟩) hbw).trans g1) | (go_at_call 89; refine (l1Set_c _ _).mono ?_; rintro e w2 ⟨rfl, rfl⟩; rw [hu]) | go_in)
              exact ⟨⟨0 + 1, by omega, by go_num, HE.out, hnx.trans (hb1.mono hnx.size)⟩, by simp [intOf]; omega⟩
            | j + 1, hk, hlt, HP, HN, HX, g0, g1, g2, hlt' =>
              obtain ⟨b', off', y, e', hy, hyx, _⟩ := H.out.at (k := j) (by omega)
              cases e'
              obtain ⟨q0, q1, _⟩ := hyx.below hnx hbl
              have HV : Hid (gfOne gs (j + 1) x = if ltR y.1 x.1 = false then 1 else 0) := by show gfOne gs (j + 1) x = _; simp [gfOne, ht, hu, hz, prevB_of hy]
              clear hyx hz hy
              by_cases d1 : x.1.1 < y.1.1
              · have E : Hid (c = 1) := HC.out.symm.trans (gfTo_stay gs (j + 1 + 1) n 1 (by decide) (by rw [HN.out, HV.out, if_pos (by simp [ltR]; omega)]) (by omega))
                go_wp2_with (first | (go_at_call 54; refine (l2Role_c _ _ _).mono ?_; rintro e w1 ⟨rfl, hb1⟩; rw [ht]; have g3 := (hb1.cell (p := ⟨b, off + (j + 1) * 3 + 2, none⟩) hbw).trans g2; have f0 := (hb1.cell (p := ⟨b, off + (j + 1) * 3, none⟩) hbw).trans g0; have f1 := (hb1.cell (p := ⟨b, off + (j + 1) * 3 + 1, none⟩) hbw).trans g1; have hbv : b < w1.heap.size := Nat.lt_of_lt_of_le hbw hb1.size; have y0 := (hb1.cell (p := ⟨b, off + j * 3, none⟩) hbw).trans q0; have y1 := (hb1.cell (p := ⟨b, off + j * 3 + 1, none⟩) hbw).trans q1) | (go_at_call 89; refine (l1Set_c _ _).mono ?_; rintro e w2 ⟨rfl, rfl⟩; rw [hu]) | go_in)
                go_ret
                exact ⟨by rw [E.out]; rfl, ((hnx.trans (hb1.mono hnx.size)).alloc (by have := hnx.size; have := hb1.size; omega) _).alloc (by have := hnx.size; have := hb1.size; simp; omega) _⟩
              · by_cases d2 : y.1.1 = x.1.1
                · have b2 : (y.1.1 == x.1.1) = true := by simp [d2]
                  by_cases d3 : x.1.2 ≤ y.1.2
                  · have E : Hid (c = 1) := HC.out.symm.trans (gfTo_stay gs (j + 1 + 1) n 1 (by decide) (by rw [HN.out, HV.out, if_pos (by simp [ltR]; omega)]) (by omega))
                    clear d2
                    go_wp2_with (first | (go_at_call 54; refine (l2Role_c _ _ _).mono ?_; rintro e w1 ⟨rfl, hb1⟩; rw [ht]; have g3 := (hb1.cell (p := ⟨b, off + (j + 1) * 3 + 2, none⟩) hbw).trans g2; have f0 := (hb1.cell (p := ⟨b, off + (j + 1) * 3, none⟩) hbw).trans g0; have f1 := (hb1.cell (p := ⟨b, off + (j + 1) * 3 + 1, none⟩) hbw).trans g1; have hbv : b < w1.heap.size := Nat.lt_of_lt_of_le hbw hb1.size; have y0 := (hb1.cell (p := ⟨b, off + j * 3, none⟩) hbw).trans q0; have y1 := (hb1.cell (p := ⟨b, off + j * 3 + 1, none⟩) hbw).trans q1) | (go_at_call 89; refine (l1Set_c _ _).mono ?_; rintro e w2 ⟨rfl, rfl⟩; rw [hu]) | go_in)
                    go_ret
                    exact ⟨by rw [E.out]; rfl, ((hnx.trans (hb1.mono hnx.size)).alloc (by have := hnx.size; have := hb1.size; omega) _).alloc (by have := hnx.size; have := hb1.size; simp; omega) _⟩
                  · have HE : Hid (gfTo gs (j + 1 + 1) = 0) := by show gfTo gs (j + 1 + 1) = 0; rw [HN.out, HV.out, if_neg (by simp [ltR]; omega)]
                    clear d2
                    go_wp2_with (first | (go_at_call 54; refine (l2Role_c _ _ _).mono ?_; rintro e w1 ⟨rfl, hb1⟩; rw [ht]; have g3 := (hb1.cell (p := ⟨b, off + (j + 1) * 3 + 2, none⟩) hbw).trans g2; have f0 := (hb1.cell (p := ⟨b, off + (j + 1) * 3, none⟩) hbw).trans g0; have f1 := (hb1.cell (p := ⟨b, off + (j + 1) * 3 + 1, none⟩) hbw).trans g1; have hbv : b < w1.heap.size := Nat.lt_of_lt_of_le hbw hb1.size; have y0 := (hb1.cell (p := ⟨b, off + j * 3, none⟩) hbw).trans q0; have y1 := (hb1.cell (p := ⟨b, off + j * 3 + 1, none⟩) hbw).trans q1) | (go_at_call 89; refine (l1Set_c _ _).mono ?_; rintro e w2 ⟨rfl, rfl⟩; rw [hu]) | go_in)
                    exact ⟨⟨j + 1 + 1, by omega, by go_num, HE.out, ((hnx.trans (hb1.mono hnx.size)).alloc (by have := hnx.size; have := hb1.size; omega) _).alloc (by have := hnx.size; have := hb1.size; simp; omega) _⟩, by simp [intOf]; omega⟩
                · have b2 : (y.1.1 == x.1.1) = false := by simp [d2]
                  have HE : Hid (gfTo gs (j + 1 + 1) = 0) := by show gfTo gs (j + 1 + 1) = 0; rw [HN.out, HV.out, if_neg (by simp [ltR]; omega)]
                  clear d2
                  go_wp2_with (first | (go_at_call 54; refine (l2Role_c _ _ _).mono ?_; rintro e w1 ⟨rfl, hb1⟩; rw [ht]; have g3 := (hb1.cell (p := ⟨b, off + (j + 1) * 3 + 2, none⟩) hbw).trans g2; have f0 := (hb1.cell (p := ⟨b, off + (j + 1) * 3, none⟩) hbw).trans g0; have f1 := (hb1.cell (p := ⟨b, off + (j + 1) * 3 + 1, none⟩) hbw).trans g1; have hbv : b < w1.heap.size := Nat.lt_of_lt_of_le hbw hb1.size; have y0 := (hb1.cell (p := ⟨b, off + j * 3, none⟩) hbw).trans q0; have y1 := (hb1.cell (p := ⟨b, off + j * 3 + 1, none⟩) hbw).trans q1) | (go_at_call 89; refine (l1Set_c _ _).mono ?_; rintro e w2 ⟨rfl, rfl⟩; rw [hu]) | go_in)
                  exact ⟨⟨j + 1 + 1, by omega, by go_num, HE.out, ((hnx.trans (hb1.mono hnx.size)).alloc (by have := hnx.size; have := hb1.size; omega) _).alloc (by have := hnx.size; have := hb1.size; simp; omega) _⟩, by simp [intOf]; omega⟩
    · have hkn : k = n := by omega
      subst hkn
      have E : Hid (c = 0) := HC.out.symm.trans HP.out
      go_wp2
      go_ret
      exact ⟨by rw [E.out]; rfl, hnx⟩

set_option maxHeartbeats 400000 in
theorem l3Fault_many (a : Option Addr) (n cap : Nat) (w : World) (h40 : 40 < n) :
    Calls Try.prog 65 #[.slice a n cap] w fun e w' => e = .returned (.int .i64 2) ∧ Below w.heap.size w w' := by
  have h' : (40 : Int) < (n : Int) := by omega
  go_enter Try.func65, Try.ntmps65
  go_wp2
  go_ret
  exact ⟨rfl, Below.refl _ _⟩

theorem l3Fault_c (a : Option Addr) (n cap : Nat) (gs : List GrI) (w : World) (h : GrIn w a n gs) :
    Calls Try.prog 65 #[.slice a n cap] w fun e w' => e = .returned (.int .i64 (gfCode gs)) ∧ Below w.heap.size w w' := by
  have hz := h.1
  by_cases h40 : 40 < n
  · have e : gfCode gs = 2 := by simp [gfCode, hz, h40]
    rw [e]
    exact l3Fault_many a n cap w h40
  · have e : gfCode gs = gfTo gs n := by simp [gfCode, hz, h40]
    rw [e]
    exact l3Fault_few a n cap gs _ w (by omega) h rfl

end Go.Proofs.Ytocdclgolhhckaa
