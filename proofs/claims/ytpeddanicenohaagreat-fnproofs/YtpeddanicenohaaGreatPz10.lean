/-
  PLAIN WORDS for FnProofs: who is found in grants. No Go text is walked here.
  Conditions: each fact bears its own.
  CONTRACTS: impl.grantMapOf: a map out of grants.
  Conditions: each contract bears its own.
  CONTRACTS: StepGrants of both programs.
  Conditions: each contract bears its own.
  FACTS for laws whose result is a list of numbers: its box, its row, what a law keeps.
  Conditions: each fact bears its own.
-/
import Derived.Test.YtpeddanicenohaaGreatPz09
import Derived.Test.YtpeddanicenohaaGreatPz03
import Derived.Test.YtpeddanicenohaaGreatGs0
import Derived.Test.YtpeddanicenohaaGreatPz06
import Derived.Test.YtpeddanicenohaaGreatGr5
import Derived.Test.YtpeddanicenohaaGreatPz08
import Derived.Test.YtpeddanicenohaaGreatBx0
import Derived.Test.YtpeddanicenohaaGreatRol1
namespace Go.Proofs.YtpeddanicenohaaGreat
open Go.RowKit
set_option linter.unusedVariables false
set_option linter.unusedSimpArgs false

/-- Is one found among grants? -/
def foundB (gs : List GrI) (r : RoI) (p : Int) : Bool := gs.any (fun x => decide (x.1 = r) && inB x.2 p)

theorem found_take {gs : List GrI} {k : Nat} {x : GrI} (r : RoI) (p : Int) (h : gs[k]? = some x) : foundB (gs.take (k + 1)) r p = (foundB (gs.take k) r p || (decide (x.1 = r) && inB x.2 p)) := by
  unfold foundB
  rw [List.take_add_one, h, Option.toList_some, List.any_append]
  simp

theorem grants_none {gs : List GrI} (hs : SG gs) {r : RoI} {p : Int} (h : hasI (ofG gs r) p = false) : ∀ x ∈ gs, x.1 = r → inB x.2 p = false := fun x hx e => by
  have := ofG_mem hs hx
  rw [e] at this
  unfold inB
  rw [← this, h, Bool.and_false]

theorem grants_some {gs : List GrI} (hs : SG gs) {r : RoI} {p : Int} (hp : 1 ≤ p ∧ p ≤ 8) (h : hasI (ofG gs r) p = true) : foundB gs r p = true := by
  have hne : ofG gs r ≠ 0 := fun e => by rw [e, hasI_zero] at h; cases h
  have hm := ofG_some hne
  unfold foundB
  rw [List.any_eq_true]
  refine ⟨_, hm, ?_⟩
  have hpb : prinB p = true := by simp [prinB]; omega
  simp [inB, hpb, h]

end Go.Proofs.YtpeddanicenohaaGreat

namespace Go.Proofs.YtpeddanicenohaaGreat
open Go.RowKit
set_option linter.unusedVariables false
set_option linter.unusedSimpArgs false

theorem ofG_snoc (x : GrI) : ∀ (ys : List GrI), (∀ y ∈ ys, y.1 ≠ x.1) → ∀ r, ofG (ys ++ [x]) r = if r = x.1 then x.2 else ofG ys r
  | [], _, r => by
    show (if x.1 = r then x.2 else 0) = _
    by_cases e : r = x.1
    · rw [if_pos e, if_pos e.symm]
    · rw [if_neg e, if_neg (fun q => e q.symm)]; rfl
  | y :: ys, h, r => by
    show (if y.1 = r then y.2 else ofG (ys ++ [x]) r) = if r = x.1 then x.2 else if y.1 = r then y.2 else ofG ys r
    rw [ofG_snoc x ys (fun z hz => h z (by simp [hz])) r]
    by_cases e : y.1 = r
    · rw [if_pos e, if_pos e, if_neg (fun q => h y (by simp) (e.trans q))]
    · rw [if_neg e, if_neg e]

theorem ofG_take {gs : List GrI} (h : SG gs) {k : Nat} {x : GrI} (hx : gs[k]? = some x) : ofG (gs.take (k + 1)) = giveF (ofG (gs.take k)) x.1 x.2 := by
  have hk : k < gs.length := by
    by_cases q : k < gs.length
    · exact q
    · rw [List.getElem?_eq_none (by omega)] at hx; cases hx
  have e : gs[k] = x := by rw [List.getElem?_eq_getElem hk] at hx; exact Option.some.inj hx
  have hne : ∀ y ∈ gs.take k, y.1 ≠ x.1 := by
    intro y hy q
    obtain ⟨j, hj, ej⟩ := List.mem_iff_getElem.1 hy
    have hjk : j < k := by simp at hj; omega
    rw [List.getElem_take] at ej
    have := (List.pairwise_iff_getElem.1 h.up) j k (by omega) hk hjk
    rw [ej, e, q, ltR_irrefl] at this
    cases this
  have hs : setB x.2 := by
    have := h.st x (List.mem_of_getElem? hx)
    exact ⟨by omega, this.2⟩
  funext r
  rw [List.take_succ_eq_append_getElem hk, e, ofG_snoc x _ hne r]
  unfold giveF
  by_cases er : r = x.1
  · rw [if_pos er, if_pos er, ofG_none hne, zero_or hs]
  · rw [if_neg er, if_neg er]

set_option maxRecDepth 100000 in
set_option maxHeartbeats 2000000 in
theorem grantMapOf_c (a : Option Addr) (n cap : Nat) (gs : List GrI) (w : World) (hg : GrIn w a n gs) (hs : SG gs) :
    Calls Tryz.prog 26 #[.slice a n cap] w fun e w' => ∃ b, e = .returned (.map (some b)) ∧ GM w' b (ofG gs) ∧ w.heap.size ≤ b ∧ Below w.heap.size w w' := by
  have hn40 : n ≤ 40 := by rw [← hg.1]; exact sg_len hs
  have hn' : (n : Int) ≤ 40 := by omega
  have HG : Hid (GrIn w a n gs) := hg
  have HS : Hid (SG gs) := hs
  have HN : Hid (gs.length = n) := hg.1
  have h1 : Below w.heap.size w (w.alloc (.map #[] 0)) := (Below.refl _ _).alloc (Nat.le_refl _) _
  have hG1 := gm_made w
  have hs1 : w.heap.size < (w.alloc (.map #[] 0)).heap.size := by rw [World.size_alloc]; omega
  have hmk : (Instr.makeMap 58 none).run Tryz.prog w = .ok (.map (some w.heap.size)) (w.alloc (.map #[] 0)) := run_makeMap _ w
  generalize hw1 : w.alloc (.map #[] 0) = w1 at *
  have HG1 : Hid (GM w1 w.heap.size zeroF) := hG1
  clear hg hs hG1 hw1
  go_enter Tryz.func26, Tryz.ntmps26
  go_wp2
  go_loopw [9] (fun i wr => ∃ k : Nat, k ≤ n ∧ i = .int .i64 (k : Int) ∧ GM wr w.heap.size (ofG (gs.take k)) ∧ Below w.heap.size w wr ∧ w.heap.size < wr.heap.size) (fun i _ => n - (intOf i).toNat)
  case atStart => exact ⟨0, Nat.zero_le _, rfl, HG1.out, h1, hs1⟩
  case round =>
    obtain ⟨k, hk, rfl, hG, hnx, hsz⟩ := hrel
    have HGk : Hid (GM wr w.heap.size (ofG (gs.take k))) := hG
    clear hG
    by_cases hltk : k < n
    · obtain ⟨g, off, x, rfl, hx, hxc, _⟩ := HG.out.at hltk
      have hxr : roleB x.1.1 x.1.2 = true := HS.out.ro x (List.mem_of_getElem? hx)
      have hxs : 1 ≤ x.2 ∧ x.2 ≤ 255 := HS.out.st x (List.mem_of_getElem? hx)
      have HE : Hid (ofG (gs.take (k + 1)) = giveF (ofG (gs.take k)) x.1 x.2) := ofG_take HS.out hx
      obtain ⟨c0, c1, c2⟩ := hxc.below hnx (World.block_lt_of_cell? w _ hxc.1)
      clear hx hxc
      have hlt' : (k : Int) < (n : Int) := by omega
      have hwrap : IntKind.u8.wrap x.2 = x.2 := by
        rw [IntKind.wrap_u8]; omega
      have HV : Hid (∀ W : World, Below wr.heap.size wr W → Calls Tryz.prog 50 #[.map (some w.heap.size), .agg #[.int .i64 x.1.1, .int .i64 x.1.2], .int .u8 x.2] W fun e w' => (∃ t, e = .returned (.bool t)) ∧ GM w' w.heap.size (giveF (ofG (gs.take k)) x.1 x.2) ∧ W.grownBy w' (some w.heap.size)) := fun W hW =>
        (give_c w.heap.size (ofG (gs.take k)) x.1 x.2 W (HGk.out.below hsz hW) hxr ⟨by omega, hxs.2⟩).mono (fun e w' q => ⟨⟨_, q.1⟩, q.2.1, q.2.2⟩)
      have hA : Below wr.heap.size wr (wr.alloc (.cells #[.int .i64 x.1.1, .int .i64 x.1.2, .int .i64 x.2] 38)) := (Below.refl _ _).alloc (Nat.le_refl _) _
      go_wp2_with (first | (go_at_call 50; refine (HV.out _ hA).mono ?_; rintro e w4 ⟨⟨t, rfl⟩, hG4, hg4⟩))
      have hb : Below w.heap.size w (wr.alloc (.cells #[.int .i64 x.1.1, .int .i64 x.1.2, .int .i64 x.2] 38)) := hnx.trans (hA.mono (by omega))
      exact ⟨⟨k + 1, by omega, by go_num, by rw [HE.out]; exact hG4, Below.turn hb hb.size (Nat.le_refl _) hg4, by have := hg4.size; simp only [World.size_alloc] at this; omega⟩, by simp [intOf]; omega⟩
    · have hkn : k = n := by omega
      subst hkn
      go_wp2
      go_ret
      refine ⟨w.heap.size, rfl, ?_, Nat.le_refl _, hnx⟩
      have := HGk.out
      rwa [List.take_of_length_le (by rw [HN.out]; exact Nat.le_refl _)] at this

end Go.Proofs.YtpeddanicenohaaGreat

namespace Go.Proofs.YtpeddanicenohaaGreat
open Go.RowKit
set_option linter.unusedVariables false
set_option linter.unusedSimpArgs false

def GivesS (f : Nat) (a : Option Addr) (n cap : Nat) (b : Option Addr) (m cap2 : Nat) (c : Int) (ys : List GrI) (w : World) : Prop := Calls Tryz.prog f #[.slice a n cap, .slice b m cap2] w fun e w' => ∃ (a' : Option Addr) (cap' : Nat), e = .returned (.agg #[.int .i64 c, .slice a' ys.length cap']) ∧ Own3 w' w.heap.size (.slice a' ys.length cap') ys ∧ Below w.heap.size w w'

set_option maxHeartbeats 1000000 in
theorem implStep_bad (a : Option Addr) (n cap : Nat) (zs : List RuleI) (b : Option Addr) (m cap2 : Nat) (gs : List GrI) (w : World) (h : RulesIn w a n zs) (hg : GrIn w b m gs) (hn : n ≤ 1048576) (hcap : n ≤ cap) (hcm : cap ≤ maxLen) (c : Int) (hc : orC (polCode zs) (gfCode gs) = c) (h0 : c ≠ 0) : GivesS 10 a n cap b m cap2 c [] w := by
  obtain ⟨W, hW⟩ : ∃ W, W = w.alloc (.cells #[.int .i64 0, .slice none 0 0] 41) := ⟨_, rfl⟩
  have hs : W.heap.size = w.heap.size + 1 := by rw [hW]; simp
  have B0 : Below w.heap.size w W := by rw [hW]; exact (Below.refl _ _).alloc (Nat.le_refl _) _
  have c0 : W.cell? ⟨w.heap.size, 0, none⟩ = some (.int .i64 0) := by rw [hW]; simp
  have c1 : W.cell? ⟨w.heap.size, 1, none⟩ = some (.slice none 0 0) := by rw [hW]; simp
  have f0 : ∀ j, W.frozen? ⟨w.heap.size, j, none⟩ = false := fun j => by rw [hW]; simp [go_sem]
  have H : Hid (RulesIn W a n zs) := h.below B0
  have G : Hid (GrIn W b m gs) := hg.below B0
  have hcn : (c != 0) = true := by simpa using h0
  have HC : Hid (orC (polCode zs) (gfCode gs) = c) := hc
  clear h hg hc
  unfold GivesS
  go_enter Tryz.func10, Tryz.ntmps10
  go_wp2_with fail
  rw [← hW]
  clear hW
  refine (implPolicyFault_c a n cap zs _ hn hcap hcm H.out).mono ?_
  rintro e w1 ⟨rfl, hb1⟩
  have G1 : Hid (GrIn w1 b m gs) := G.out.below hb1
  generalize polCode zs = p at HC ⊢
  go_wp2_with fail
  refine (implGrantFault_c b m cap2 gs _ G1.out).mono ?_
  rintro e w2 ⟨rfl, hb2'⟩
  have hb2 : Below W.heap.size W w2 := hb1.trans (hb2'.mono hb1.size)
  generalize gfCode gs = q at HC ⊢
  go_wp2_with fail
  refine (or64_c _ p q _ (by simp) (by simp)).mono ?_
  rintro e w3 ⟨rfl, hw3⟩
  have hb3 : Below W.heap.size W w3 := by rw [← hw3]; exact hb2.alloc hb2.size _
  clear hw3
  rw [HC.out]
  have hlw : w.heap.size < W.heap.size := by omega
  have d0 : w3.cell? ⟨w.heap.size, 0, none⟩ = some (.int .i64 0) := (hb3.cell (p := ⟨w.heap.size, 0, none⟩) hlw).trans c0
  have d1 : w3.cell? ⟨w.heap.size, 1, none⟩ = some (.slice none 0 0) := (hb3.cell (p := ⟨w.heap.size, 1, none⟩) hlw).trans c1
  have g0 : w3.frozen? ⟨w.heap.size, 0, none⟩ = false := (hb3.frozen (p := ⟨w.heap.size, 0, none⟩) hlw).trans (f0 0)
  have g1 : w3.frozen? ⟨w.heap.size, 1, none⟩ = false := (hb3.frozen (p := ⟨w.heap.size, 1, none⟩) hlw).trans (f0 1)
  have hw : w.heap.size < w3.heap.size := Nat.lt_of_lt_of_le hlw hb3.size
  have hBx : Below w.heap.size w w3 := B0.trans (hb3.mono (by omega))
  clear hb1 hb2 hb2' hb3
  go_wp2
  refine bodyPost_ret (v := .agg #[.int .i64 c, .slice none 0 0]) (by simp [results, Tryz.results10, go_sem, d0, d1, hw]) rfl ⟨none, 0, rfl, World.ownsRow_nil _ _ _ _, ?_⟩
  exact hBx |>.setCell (Nat.le_refl _) _ |>.setCell (Nat.le_refl _) _

set_option maxHeartbeats 1000000 in
theorem implStep_ok (a : Option Addr) (n cap : Nat) (zs : List RuleI) (b : Option Addr) (m cap2 : Nat) (gs : List GrI) (w : World) (h : RulesIn w a n zs) (hg : GrIn w b m gs) (hcap : n ≤ cap) (hcm : cap ≤ maxLen) (hp : polCode zs = 0) (hc : gfCode gs = 0) : GivesS 10 a n cap b m cap2 0 (stepG zs gs) w := by
  have hn16 : n ≤ 16 := pol_n16 h.1 hp
  have hn : n ≤ 1048576 := by omega
  have HSg : Hid (SG gs) := gf_sg hc
  have HP : Hid (∀ z ∈ zs, ruleCode z = 0) := pol_codes hp
  have HK : Hid (∀ z ∈ zs, okR z) := fun z hz => ((pol_ok hp).2 z hz).1
  obtain ⟨W, hW⟩ : ∃ W, W = w.alloc (.cells #[.int .i64 0, .slice none 0 0] 41) := ⟨_, rfl⟩
  have hs : W.heap.size = w.heap.size + 1 := by rw [hW]; simp
  have B0 : Below w.heap.size w W := by rw [hW]; exact (Below.refl _ _).alloc (Nat.le_refl _) _
  have c0 : W.cell? ⟨w.heap.size, 0, none⟩ = some (.int .i64 0) := by rw [hW]; simp
  have c1 : W.cell? ⟨w.heap.size, 1, none⟩ = some (.slice none 0 0) := by rw [hW]; simp
  have f0 : ∀ j, W.frozen? ⟨w.heap.size, j, none⟩ = false := fun j => by rw [hW]; simp [go_sem]
  have H : Hid (RulesIn W a n zs) := h.below B0
  have G : Hid (GrIn W b m gs) := hg.below B0
  have HC : Hid (orC (polCode zs) (gfCode gs) = 0) := by show orC (polCode zs) (gfCode gs) = 0; rw [hp, hc]; rfl
  clear h hg hc hp
  unfold GivesS
  go_enter Tryz.func10, Tryz.ntmps10
  go_wp2_with fail
  rw [← hW]
  clear hW
  refine (implPolicyFault_c a n cap zs _ hn hcap hcm H.out).mono ?_
  rintro e w1 ⟨rfl, hb1⟩
  have G1 : Hid (GrIn w1 b m gs) := G.out.below hb1
  generalize polCode zs = p at HC ⊢
  go_wp2_with fail
  refine (implGrantFault_c b m cap2 gs _ G1.out).mono ?_
  rintro e w2 ⟨rfl, hb2'⟩
  have hb2 : Below W.heap.size W w2 := hb1.trans (hb2'.mono hb1.size)
  generalize gfCode gs = q at HC ⊢
  go_wp2_with fail
  refine (or64_c _ p q _ (by simp) (by simp)).mono ?_
  rintro e w3 ⟨rfl, hw3⟩
  have hb3 : Below W.heap.size W w3 := by rw [← hw3]; exact hb2.alloc hb2.size _
  clear hw3
  rw [HC.out]
  have hz3 := hb3.size
  have G3 : Hid (GrIn w3 b m gs) := G.out.below hb3
  go_wp2_with fail
  refine (grantMapOf_c b m cap2 gs _ G3.out HSg.out).mono ?_
  rintro e w4 ⟨k4, rfl, hG4, hk4, hb4'⟩
  have hb4 : Below W.heap.size W w4 := hb3.trans (hb4'.mono hz3)
  have hz4 := hb4.size
  have H4 : Hid (RulesIn w4 a n zs) := H.out.below hb4
  have HG4 : Hid (GM w4 k4 (ofG gs)) := hG4
  clear hG4
  go_wp2_with fail
  refine (step_c k4 (ofG gs) a n cap zs _ HG4.out H4.out (by omega) HP.out).mono ?_
  rintro e w5 ⟨k5, rfl, hG5, hk5, hb5'⟩
  have hb5 : Below W.heap.size W w5 := hb4.trans (hb5'.mono hz4)
  have hz5 := hb5.size
  have HG5 : Hid (GM w5 k5 (stepF zs (ofG gs))) := hG5
  clear hG5
  go_wp2_with fail
  refine (list_c k5 _ w5 HG5.out).mono ?_
  rintro e w6 ⟨v, ys, rfl, hsg, hof, hown, hb6'⟩
  have hb6 : Below W.heap.size W w6 := hb5.trans (hb6'.mono hz5)
  obtain rfl : ys = stepG zs gs := sg_ext hsg (sg_step HK.out HSg.out) (fun r => by rw [hof, ofG_step HK.out HSg.out])
  obtain ⟨a', cap', rfl⟩ := hown.slice
  have hlw : w.heap.size < W.heap.size := by omega
  have d0 : w6.cell? ⟨w.heap.size, 0, none⟩ = some (.int .i64 0) := (hb6.cell (p := ⟨w.heap.size, 0, none⟩) hlw).trans c0
  have d1 : w6.cell? ⟨w.heap.size, 1, none⟩ = some (.slice none 0 0) := (hb6.cell (p := ⟨w.heap.size, 1, none⟩) hlw).trans c1
  have g0 : w6.frozen? ⟨w.heap.size, 0, none⟩ = false := (hb6.frozen (p := ⟨w.heap.size, 0, none⟩) hlw).trans (f0 0)
  have g1 : w6.frozen? ⟨w.heap.size, 1, none⟩ = false := (hb6.frozen (p := ⟨w.heap.size, 1, none⟩) hlw).trans (f0 1)
  have hw : w.heap.size < w6.heap.size := Nat.lt_of_lt_of_le hlw hb6.size
  have hBx : Below w.heap.size w w6 := B0.trans (hb6.mono (by omega))
  have HO : Hid (Own3 w6 w5.heap.size (.slice a' (stepG zs gs).length cap') (stepG zs gs)) := hown
  clear hb1 hb2 hb2' hb3 hb4 hb4' hb5 hb5' hb6 hb6' hown hof hsg
  go_wp2
  refine bodyPost_ret (v := .agg #[.int .i64 0, .slice a' (stepG zs gs).length cap']) (by simp [results, Tryz.results10, go_sem, d0, d1, hw]) rfl ⟨a', cap', rfl, ?_, ?_⟩
  · exact HO.out.box (by omega)
  · exact hBx |>.setCell (Nat.le_refl _) _ |>.setCell (Nat.le_refl _) _

end Go.Proofs.YtpeddanicenohaaGreat

namespace Go.Proofs.YtpeddanicenohaaGreat
open Go.RowKit
set_option linter.unusedVariables false
set_option linter.unusedSimpArgs false

theorem at_cast {w : World} {g g' : Nat} {zs : List RuleI} (h : RulesAt w g 0 zs) (e : g = g') : RulesAt w g' 0 zs := e ▸ h

/-- An empty box of a number and a list. -/
def BoxI (w : World) (B : Nat) : Prop := w.cell? ⟨B, 0, none⟩ = some (.int .i64 0) ∧ w.cell? ⟨B, 1, none⟩ = some (.slice none 0 0) ∧ w.frozen? ⟨B, 0, none⟩ = false ∧ w.frozen? ⟨B, 1, none⟩ = false
theorem BoxI.lt {w : World} {B : Nat} (h : BoxI w B) : B < w.heap.size := World.block_lt_of_cell? w ⟨B, 0, none⟩ h.1
theorem BoxI.new (X : World) : BoxI (X.alloc (.cells #[.int .i64 0, .slice none 0 0] 31)) X.heap.size := ⟨by simp, by simp, by simp [go_sem], by simp [go_sem]⟩
theorem BoxI.newD (X : World) : BoxI (X.drew.alloc (.cells #[.int .i64 0, .slice none 0 0] 31)) X.heap.size := BoxI.new X.drew
theorem BoxI.below {w w' : World} {B : Nat} (h : BoxI w B) (hb : Below w.heap.size w w') : BoxI w' B := by
  have hl : B < w.heap.size := h.lt
  exact ⟨(hb.cell (p := ⟨B, 0, none⟩) hl).trans h.1, (hb.cell (p := ⟨B, 1, none⟩) hl).trans h.2.1, (hb.frozen (p := ⟨B, 0, none⟩) hl).trans h.2.2.1, (hb.frozen (p := ⟨B, 1, none⟩) hl).trans h.2.2.2⟩
theorem BoxI.put {w : World} {B : Nat} (h : BoxI w B) (c : Int) (v : Value) : Box2 ((w.setCell ⟨B, 0, none⟩ (.int .i64 c)).setCell ⟨B, 1, none⟩ v) B (.int .i64 c) v := by
  obtain ⟨h0, h1, _, _⟩ := h
  exact ⟨by simp [go_sem, h0], by simp [go_sem, h1]⟩

/-- A row that a box's two stores leave. -/
def RowB (w : World) (B : Nat) (a : Option Addr) (ls : List Int) : Prop := ∀ x y, RowIn ((w.setCell ⟨B, 0, none⟩ x).setCell ⟨B, 1, none⟩ y) a ls.length ls
theorem row_box {w : World} {Bs B : Nat} {a : Option Addr} {cap : Nat} {ls : List Int} (h : w.ownsRow Bs 2 1 (.slice a ls.length cap) ls.length (ls.map (Value.int .i64))) (hB : B < Bs) : RowB w B a ls := fun x y =>
  row_of_owns (owns_box1 h hB)

/-- What a drawn statement 'x := F(..)' leaves: a box with the result, its row; what lay is as it was. -/
def Res1 (c : Int) (ls : List Int) (W : World) (s : Value) (wx : World) : Prop := ∃ (B : Nat) (a1 : Option Addr) (cap1 : Nat), s = .pointer (some ⟨B, 0, none⟩) ∧ Box2 wx B (.int .i64 c) (.slice a1 ls.length cap1) ∧ RowIn wx a1 ls.length ls ∧ Below W.heap.size W wx

theorem RowIn.kept0 {w w' : World} {a : Option Addr} {n N : Nat} {zs : List Int} {row : Option Nat} (h : RowIn w a n zs) (hg : w.grownBy w' row) (hrow : ∀ q, row = some q → N ≤ q) (hN : ∀ g off, a = some ⟨g, off, none⟩ → n = 0 ∨ g < N) : RowIn w' a n zs := by
  refine ⟨h.1, fun k hk => ?_⟩
  obtain ⟨g, off, e, hc⟩ := h.2 k hk
  refine ⟨g, off, e, hg.cell hc (fun q => ?_)⟩
  have := hrow g q.symm
  have := hN g off e
  omega

theorem row_lt {w : World} {a : Option Addr} {n : Nat} {zs : List Int} (h : RowIn w a n zs) : ∀ g off, a = some ⟨g, off, none⟩ → n = 0 ∨ g < w.heap.size := by
  intro g off e
  by_cases h0 : n = 0
  · exact .inl h0
  · obtain ⟨g', off', e', hc⟩ := h.2 0 (by omega)
    rw [e] at e'
    cases e'
    exact .inr (World.block_lt_of_cell? w _ hc)

theorem owns_kept1 {W W' : World} {B q : Nat} {a : Option Addr} {n cap : Nat} {xs : List Value} (h : W.ownsRow B 2 1 (.slice a n cap) n xs) (hg : W.grownBy W' (some q)) (hq : q < B) : W'.ownsRow B 2 1 (.slice a n cap) n xs := by
  refine h.kept hg ?_
  rcases h.2 with ⟨e, _⟩ | ⟨g, cap', cur, e, hB, _⟩
  · exact .inl (by rw [e]; rfl)
  · simp at e
    obtain ⟨rfl, _⟩ := e
    exact .inr (by simp [Value.ownBlock]; omega)

/-- What the law keeps: its rules, and the first result in its box. -/
structure SP (w : World) (a0 : Option Addr) (len : Nat) (zs : List RuleI) (r : RoI) (R B1 : Nat) (c : Int) (a1 : Option Addr) (cap1 : Nat) (ls : List Int) (W : World) : Prop where
  bl : Below w.heap.size w W
  ru : RulesIn W a0 len zs
  ro : Box2 W R (.int .i64 r.1) (.int .i64 r.2)
  bx : Box2 W B1 (.int .i64 c) (.slice a1 ls.length cap1)
  vw : RowIn W a1 ls.length ls

theorem SP.below {w : World} {a0 : Option Addr} {len : Nat} {zs : List RuleI} {r : RoI} {R B1 : Nat} {c : Int} {a1 : Option Addr} {cap1 : Nat} {ls : List Int} {W W' : World} (h : SP w a0 len zs r R B1 c a1 cap1 ls W) (hb : Below W.heap.size W W') : SP w a0 len zs r R B1 c a1 cap1 ls W' :=
  ⟨h.bl.trans (hb.mono h.bl.size), h.ru.below hb, h.ro.below hb, h.bx.below hb, h.vw.below hb⟩

theorem SP.grown {w : World} {a0 : Option Addr} {len : Nat} {zs : List RuleI} {r : RoI} {R B1 : Nat} {c : Int} {a1 : Option Addr} {cap1 : Nat} {ls : List Int} {W W' : World} {row : Option Nat} (N : Nat) (h : SP w a0 len zs r R B1 c a1 cap1 ls W) (hg : W.grownBy W' row)
    (hlr : ∀ b off, a0 = some ⟨b, off, none⟩ → len = 0 ∨ b < w.heap.size) (hrow : ∀ q, row = some q → N ≤ q) (hN : w.heap.size ≤ N) (hR : R < N) (hB : B1 < N) (hV : ∀ g off, a1 = some ⟨g, off, none⟩ → ls.length = 0 ∨ g < N) : SP w a0 len zs r R B1 c a1 cap1 ls W' :=
  ⟨h.bl.grown hg h.bl.size (fun q e => by have := hrow q e; omega), rulesIn_kept h.ru hg hlr (fun q e => by have := hrow q e; omega), h.ro.grown hg (fun e => by have := hrow _ e.symm; omega),
    h.bx.grown hg (fun e => by have := hrow _ e.symm; omega), h.vw.kept0 hg hrow hV⟩

end Go.Proofs.YtpeddanicenohaaGreat
