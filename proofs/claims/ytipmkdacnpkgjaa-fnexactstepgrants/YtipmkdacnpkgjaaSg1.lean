/-
  CONTRACTS: StepGrants of both programs.
  Conditions: each contract bears its own.
-/
import Derived.Test.YtipmkdacnpkgjaaSg0
import Derived.Test.YtipmkdacnpkgjaaMo0
import Derived.Test.YtipmkdacnpkgjaaGf1
import Derived.Test.YtipmkdacnpkgjaaGf2
import Derived.Test.YtipmkdacnpkgjaaGr5
namespace Go.Proofs.Ytipmkdacnpkgjaa
open Go.RowKit
set_option linter.unusedVariables false
set_option linter.unusedSimpArgs false

def GivesS (f : Nat) (a : Option Addr) (n cap : Nat) (b : Option Addr) (m cap2 : Nat) (c : Int) (ys : List GrI) (w : World) : Prop := Calls Try.prog f #[.slice a n cap, .slice b m cap2] w fun e w' => ∃ (a' : Option Addr) (cap' : Nat), e = .returned (.agg #[.int .i64 c, .slice a' ys.length cap']) ∧ Own3 w' w.heap.size (.slice a' ys.length cap') ys ∧ Below w.heap.size w w'

set_option maxHeartbeats 1000000 in
theorem specStep_pol (a : Option Addr) (n cap : Nat) (zs : List RuleI) (b : Option Addr) (m cap2 : Nat) (gs : List GrI) (w : World) (h : RulesIn w a n zs) (hg : GrIn w b m gs) (hn : n ≤ 1048576) (c : Int) (hc : polCode zs = c) (h0 : c ≠ 0) : GivesS 15 a n cap b m cap2 c [] w := by
  obtain ⟨W, hW⟩ : ∃ W, W = w.alloc (.cells #[.int .i64 0, .slice none 0 0] 29) := ⟨_, rfl⟩
  have hs : W.heap.size = w.heap.size + 1 := by rw [hW]; simp
  have B0 : Below w.heap.size w W := by rw [hW]; exact (Below.refl _ _).alloc (Nat.le_refl _) _
  have c0 : W.cell? ⟨w.heap.size, 0, none⟩ = some (.int .i64 0) := by rw [hW]; simp
  have c1 : W.cell? ⟨w.heap.size, 1, none⟩ = some (.slice none 0 0) := by rw [hW]; simp
  have f0 : ∀ j, W.frozen? ⟨w.heap.size, j, none⟩ = false := fun j => by rw [hW]; simp [go_sem]
  have H : Hid (RulesIn W a n zs) := h.below B0
  have G : Hid (GrIn W b m gs) := hg.below B0
  have hcn : (c != 0) = true := by simpa using h0
  have HC : Hid (polCode zs = c) := hc
  clear h hg hc
  unfold GivesS
  go_enter Try.func15, Try.ntmps15
  go_wp2_with fail
  rw [← hW]
  clear hW
  refine (l2Fault_c a n cap zs _ hn H.out).mono ?_
  rintro e w1 ⟨rfl, hb1⟩
  rw [HC.out]
  have hlw : w.heap.size < W.heap.size := by omega
  have d0 : w1.cell? ⟨w.heap.size, 0, none⟩ = some (.int .i64 0) := (hb1.cell (p := ⟨w.heap.size, 0, none⟩) hlw).trans c0
  have d1 : w1.cell? ⟨w.heap.size, 1, none⟩ = some (.slice none 0 0) := (hb1.cell (p := ⟨w.heap.size, 1, none⟩) hlw).trans c1
  have g0 : w1.frozen? ⟨w.heap.size, 0, none⟩ = false := (hb1.frozen (p := ⟨w.heap.size, 0, none⟩) hlw).trans (f0 0)
  have g1 : w1.frozen? ⟨w.heap.size, 1, none⟩ = false := (hb1.frozen (p := ⟨w.heap.size, 1, none⟩) hlw).trans (f0 1)
  have hw : w.heap.size < w1.heap.size := Nat.lt_of_lt_of_le hlw hb1.size
  have hBx : Below w.heap.size w w1 := B0.trans (hb1.mono (by omega))
  clear hb1
  go_wp2
  refine bodyPost_ret (v := .agg #[.int .i64 c, .slice none 0 0]) (by simp [results, Try.results15, go_sem, d0, d1, hw]) rfl ⟨none, 0, rfl, World.ownsRow_nil _ _ _ _, ?_⟩
  exact hBx |>.setCell (Nat.le_refl _) _ |>.setCell (Nat.le_refl _) _

set_option maxHeartbeats 1000000 in
theorem specStep_gr (a : Option Addr) (n cap : Nat) (zs : List RuleI) (b : Option Addr) (m cap2 : Nat) (gs : List GrI) (w : World) (h : RulesIn w a n zs) (hg : GrIn w b m gs) (hn : n ≤ 1048576) (hm : m ≤ 1048576) (c : Int) (hp : polCode zs = 0) (hc : gfCode gs = c) (h0 : c ≠ 0) : GivesS 15 a n cap b m cap2 c [] w := by
  obtain ⟨W, hW⟩ : ∃ W, W = w.alloc (.cells #[.int .i64 0, .slice none 0 0] 29) := ⟨_, rfl⟩
  have hs : W.heap.size = w.heap.size + 1 := by rw [hW]; simp
  have B0 : Below w.heap.size w W := by rw [hW]; exact (Below.refl _ _).alloc (Nat.le_refl _) _
  have c0 : W.cell? ⟨w.heap.size, 0, none⟩ = some (.int .i64 0) := by rw [hW]; simp
  have c1 : W.cell? ⟨w.heap.size, 1, none⟩ = some (.slice none 0 0) := by rw [hW]; simp
  have f0 : ∀ j, W.frozen? ⟨w.heap.size, j, none⟩ = false := fun j => by rw [hW]; simp [go_sem]
  have H : Hid (RulesIn W a n zs) := h.below B0
  have G : Hid (GrIn W b m gs) := hg.below B0
  have hcn : (c != 0) = true := by simpa using h0
  have HC : Hid (gfCode gs = c) := hc
  have HP : Hid (polCode zs = 0) := hp
  clear h hg hc hp
  unfold GivesS
  go_enter Try.func15, Try.ntmps15
  go_wp2_with fail
  rw [← hW]
  clear hW
  refine (l2Fault_c a n cap zs _ hn H.out).mono ?_
  rintro e w1 ⟨rfl, hb1⟩
  rw [HP.out]
  have G1 : Hid (GrIn w1 b m gs) := G.out.below hb1
  go_wp2_with fail
  refine (l3Fault_c b m cap2 gs _ G1.out).mono ?_
  rintro e w2 ⟨rfl, hb2'⟩
  rw [HC.out]
  have hb2 : Below W.heap.size W w2 := hb1.trans (hb2'.mono hb1.size)
  have hlw : w.heap.size < W.heap.size := by omega
  have d0 : w2.cell? ⟨w.heap.size, 0, none⟩ = some (.int .i64 0) := (hb2.cell (p := ⟨w.heap.size, 0, none⟩) hlw).trans c0
  have d1 : w2.cell? ⟨w.heap.size, 1, none⟩ = some (.slice none 0 0) := (hb2.cell (p := ⟨w.heap.size, 1, none⟩) hlw).trans c1
  have g0 : w2.frozen? ⟨w.heap.size, 0, none⟩ = false := (hb2.frozen (p := ⟨w.heap.size, 0, none⟩) hlw).trans (f0 0)
  have g1 : w2.frozen? ⟨w.heap.size, 1, none⟩ = false := (hb2.frozen (p := ⟨w.heap.size, 1, none⟩) hlw).trans (f0 1)
  have hw : w.heap.size < w2.heap.size := Nat.lt_of_lt_of_le hlw hb2.size
  have hBx : Below w.heap.size w w2 := B0.trans (hb2.mono (by omega))
  clear hb1 hb2 hb2'
  go_wp2
  refine bodyPost_ret (v := .agg #[.int .i64 c, .slice none 0 0]) (by simp [results, Try.results15, go_sem, d0, d1, hw]) rfl ⟨none, 0, rfl, World.ownsRow_nil _ _ _ _, ?_⟩
  exact hBx |>.setCell (Nat.le_refl _) _ |>.setCell (Nat.le_refl _) _

set_option maxHeartbeats 1000000 in
theorem specStep_ok (g : Nat) (a : Option Addr) (n cap : Nat) (zs : List RuleI) (b : Option Addr) (m cap2 : Nat) (gs : List GrI) (w : World) (h : RulesIn w a n zs) (hg : GrIn w b m gs) (hb : b = some ⟨g, 0, none⟩) (hp : polCode zs = 0) (hc : gfCode gs = 0) : GivesS 15 a n cap b m cap2 0 (stepG zs gs) w := by
  have hn : n ≤ 16 := pol_n16 h.1 hp
  have hsg : SG gs := gf_sg hc
  obtain ⟨W, hW⟩ : ∃ W, W = w.alloc (.cells #[.int .i64 0, .slice none 0 0] 29) := ⟨_, rfl⟩
  have hs : W.heap.size = w.heap.size + 1 := by rw [hW]; simp
  have B0 : Below w.heap.size w W := by rw [hW]; exact (Below.refl _ _).alloc (Nat.le_refl _) _
  have c0 : W.cell? ⟨w.heap.size, 0, none⟩ = some (.int .i64 0) := by rw [hW]; simp
  have c1 : W.cell? ⟨w.heap.size, 1, none⟩ = some (.slice none 0 0) := by rw [hW]; simp
  have f0 : ∀ j, W.frozen? ⟨w.heap.size, j, none⟩ = false := fun j => by rw [hW]; simp [go_sem]
  have H : Hid (RulesIn W a n zs) := h.below B0
  have G : Hid (GrIn W b m gs) := hg.below B0
  have HC : Hid (gfCode gs = 0) := hc
  have HP : Hid (polCode zs = 0) := hp
  have HSg : Hid (SG gs) := hsg
  have hm : m ≤ 1048576 := by have := sg_len hsg; have := hg.1; omega
  subst hb
  clear h hg hc hp hsg
  unfold GivesS
  go_enter Try.func15, Try.ntmps15
  go_wp2_with fail
  rw [← hW]
  clear hW
  refine (l2Fault_c a n cap zs _ (by omega) H.out).mono ?_
  rintro e w1 ⟨rfl, hb1⟩
  rw [HP.out]
  have G1 : Hid (GrIn w1 (some ⟨g, 0, none⟩) m gs) := G.out.below hb1
  go_wp2_with fail
  refine (l3Fault_c _ m cap2 gs _ G1.out).mono ?_
  rintro e w2 ⟨rfl, hb2'⟩
  rw [HC.out]
  have hb2 : Below W.heap.size W w2 := hb1.trans (hb2'.mono hb1.size)
  have G2 : Hid (GrIn w2 (some ⟨g, 0, none⟩) m gs) := G.out.below hb2
  have H2 : Hid (RulesIn w2 a n zs) := H.out.below hb2
  go_wp2_with fail
  refine (l3Step_c g 0 m cap2 gs a n cap zs _ G2.out HSg.out H2.out (by omega) (pol_ok HP.out).2).mono ?_
  rintro e w3 ⟨g', l', cap', rfl, hl', hown, hb3'⟩
  have hz2 := hb2.size
  have hb3 : Below W.heap.size W w3 := hb2.trans (hb3'.mono hz2)
  have hlw : w.heap.size < W.heap.size := by omega
  have d0 : w3.cell? ⟨w.heap.size, 0, none⟩ = some (.int .i64 0) := (hb3.cell (p := ⟨w.heap.size, 0, none⟩) hlw).trans c0
  have d1 : w3.cell? ⟨w.heap.size, 1, none⟩ = some (.slice none 0 0) := (hb3.cell (p := ⟨w.heap.size, 1, none⟩) hlw).trans c1
  have g0 : w3.frozen? ⟨w.heap.size, 0, none⟩ = false := (hb3.frozen (p := ⟨w.heap.size, 0, none⟩) hlw).trans (f0 0)
  have g1 : w3.frozen? ⟨w.heap.size, 1, none⟩ = false := (hb3.frozen (p := ⟨w.heap.size, 1, none⟩) hlw).trans (f0 1)
  have hw : w.heap.size < w3.heap.size := Nat.lt_of_lt_of_le hlw hb3.size
  have hBx : Below w.heap.size w w3 := B0.trans (hb3.mono (by omega))
  have HO : Hid (l' = (stepG zs gs).length ∧ Own3 w3 w2.heap.size (.slice (some ⟨g', 0, none⟩) l' cap') (stepG zs gs)) := ⟨hl'.symm, hown⟩
  clear hb1 hb2 hb2' hb3 hb3' hown hl'
  go_wp2
  obtain ⟨h1, h3⟩ := HO.out
  subst h1
  refine bodyPost_ret (v := .agg #[.int .i64 0, .slice (some ⟨g', 0, none⟩) (stepG zs gs).length cap']) (by simp [results, Try.results15, go_sem, d0, d1, hw]) rfl ⟨some ⟨g', 0, none⟩, cap', rfl, ?_, ?_⟩
  · exact h3.box (by omega)
  · exact hBx |>.setCell (Nat.le_refl _) _ |>.setCell (Nat.le_refl _) _

set_option maxHeartbeats 1000000 in
theorem implStep_bad (a : Option Addr) (n cap : Nat) (zs : List RuleI) (b : Option Addr) (m cap2 : Nat) (gs : List GrI) (w : World) (h : RulesIn w a n zs) (hg : GrIn w b m gs) (hn : n ≤ 1048576) (hcap : n ≤ cap) (hcm : cap ≤ maxLen) (c : Int) (hc : orC (polCode zs) (gfCode gs) = c) (h0 : c ≠ 0) : GivesS 13 a n cap b m cap2 c [] w := by
  obtain ⟨W, hW⟩ : ∃ W, W = w.alloc (.cells #[.int .i64 0, .slice none 0 0] 29) := ⟨_, rfl⟩
  have hs : W.heap.size = w.heap.size + 1 := by rw [hW]; simp
  have B0 : Below w.heap.size w W := by rw [hW]; exact (Below.refl _ _).alloc (Nat.le_refl _) _
  have c0 : W.cell? ⟨w.heap.size, 0, none⟩ = some (.int .i64 0) := by rw [hW]; simp
  have c1 : W.cell? ⟨w.heap.size, 1, none⟩ = some (.slice none 0 0) := by rw [hW]; simp
  have f0 : ∀ j, W.frozen? ⟨w.heap.size, j, none⟩ = false := fun j => by rw [hW]; simp [go_sem]
  have H : Hid (RulesIn W a n zs) := h.below B0
  have G : Hid (GrIn W b m gs) := hg.below B0
  have hcn : (c != 0) = true := by simpa using h0
  have HC : Hid (orC (polCode zs) (gfCode gs) = c) := hc
  clear h hg hc
  unfold GivesS
  go_enter Try.func13, Try.ntmps13
  go_wp2_with fail
  rw [← hW]
  clear hW
  refine (implPolicyFault_c a n cap zs _ hn hcap hcm H.out).mono ?_
  rintro e w1 ⟨rfl, hb1⟩
  have G1 : Hid (GrIn w1 b m gs) := G.out.below hb1
  generalize polCode zs = p at HC ⊢
  go_wp2_with fail
  refine (implGrantFault_c b m cap2 gs _ G1.out).mono ?_
  rintro e w2 ⟨rfl, hb2'⟩
  have hb2 : Below W.heap.size W w2 := hb1.trans (hb2'.mono hb1.size)
  generalize gfCode gs = q at HC ⊢
  go_wp2_with fail
  refine (or64_c _ p q _ (by simp) (by simp)).mono ?_
  rintro e w3 ⟨rfl, hw3⟩
  have hb3 : Below W.heap.size W w3 := by rw [← hw3]; exact hb2.alloc hb2.size _
  clear hw3
  rw [HC.out]
  have hlw : w.heap.size < W.heap.size := by omega
  have d0 : w3.cell? ⟨w.heap.size, 0, none⟩ = some (.int .i64 0) := (hb3.cell (p := ⟨w.heap.size, 0, none⟩) hlw).trans c0
  have d1 : w3.cell? ⟨w.heap.size, 1, none⟩ = some (.slice none 0 0) := (hb3.cell (p := ⟨w.heap.size, 1, none⟩) hlw).trans c1
  have g0 : w3.frozen? ⟨w.heap.size, 0, none⟩ = false := (hb3.frozen (p := ⟨w.heap.size, 0, none⟩) hlw).trans (f0 0)
  have g1 : w3.frozen? ⟨w.heap.size, 1, none⟩ = false := (hb3.frozen (p := ⟨w.heap.size, 1, none⟩) hlw).trans (f0 1)
  have hw : w.heap.size < w3.heap.size := Nat.lt_of_lt_of_le hlw hb3.size
  have hBx : Below w.heap.size w w3 := B0.trans (hb3.mono (by omega))
  clear hb1 hb2 hb2' hb3
  go_wp2
  refine bodyPost_ret (v := .agg #[.int .i64 c, .slice none 0 0]) (by simp [results, Try.results13, go_sem, d0, d1, hw]) rfl ⟨none, 0, rfl, World.ownsRow_nil _ _ _ _, ?_⟩
  exact hBx |>.setCell (Nat.le_refl _) _ |>.setCell (Nat.le_refl _) _

set_option maxHeartbeats 1000000 in
theorem implStep_ok (a : Option Addr) (n cap : Nat) (zs : List RuleI) (b : Option Addr) (m cap2 : Nat) (gs : List GrI) (w : World) (h : RulesIn w a n zs) (hg : GrIn w b m gs) (hcap : n ≤ cap) (hcm : cap ≤ maxLen) (hp : polCode zs = 0) (hc : gfCode gs = 0) : GivesS 13 a n cap b m cap2 0 (stepG zs gs) w := by
  have hn16 : n ≤ 16 := pol_n16 h.1 hp
  have hn : n ≤ 1048576 := by omega
  have HSg : Hid (SG gs) := gf_sg hc
  have HP : Hid (∀ z ∈ zs, ruleCode z = 0) := pol_codes hp
  have HK : Hid (∀ z ∈ zs, okR z) := fun z hz => ((pol_ok hp).2 z hz).1
  obtain ⟨W, hW⟩ : ∃ W, W = w.alloc (.cells #[.int .i64 0, .slice none 0 0] 29) := ⟨_, rfl⟩
  have hs : W.heap.size = w.heap.size + 1 := by rw [hW]; simp
  have B0 : Below w.heap.size w W := by rw [hW]; exact (Below.refl _ _).alloc (Nat.le_refl _) _
  have c0 : W.cell? ⟨w.heap.size, 0, none⟩ = some (.int .i64 0) := by rw [hW]; simp
  have c1 : W.cell? ⟨w.heap.size, 1, none⟩ = some (.slice none 0 0) := by rw [hW]; simp
  have f0 : ∀ j, W.frozen? ⟨w.heap.size, j, none⟩ = false := fun j => by rw [hW]; simp [go_sem]
  have H : Hid (RulesIn W a n zs) := h.below B0
  have G : Hid (GrIn W b m gs) := hg.below B0
  have HC : Hid (orC (polCode zs) (gfCode gs) = 0) := by show orC (polCode zs) (gfCode gs) = 0; rw [hp, hc]; rfl
  clear h hg hc hp
  unfold GivesS
  go_enter Try.func13, Try.ntmps13
  go_wp2_with fail
  rw [← hW]
  clear hW
  refine (implPolicyFault_c a n cap zs _ hn hcap hcm H.out).mono ?_
  rintro e w1 ⟨rfl, hb1⟩
  have G1 : Hid (GrIn w1 b m gs) := G.out.below hb1
  generalize polCode zs = p at HC ⊢
  go_wp2_with fail
  refine (implGrantFault_c b m cap2 gs _ G1.out).mono ?_
  rintro e w2 ⟨rfl, hb2'⟩
  have hb2 : Below W.heap.size W w2 := hb1.trans (hb2'.mono hb1.size)
  generalize gfCode gs = q at HC ⊢
  go_wp2_with fail
  refine (or64_c _ p q _ (by simp) (by simp)).mono ?_
  rintro e w3 ⟨rfl, hw3⟩
  have hb3 : Below W.heap.size W w3 := by rw [← hw3]; exact hb2.alloc hb2.size _
  clear hw3
  rw [HC.out]
  have hz3 := hb3.size
  have G3 : Hid (GrIn w3 b m gs) := G.out.below hb3
  go_wp2_with fail
  refine (grantMapOf_c b m cap2 gs _ G3.out HSg.out).mono ?_
  rintro e w4 ⟨k4, rfl, hG4, hk4, hb4'⟩
  have hb4 : Below W.heap.size W w4 := hb3.trans (hb4'.mono hz3)
  have hz4 := hb4.size
  have H4 : Hid (RulesIn w4 a n zs) := H.out.below hb4
  have HG4 : Hid (GM w4 k4 (ofG gs)) := hG4
  clear hG4
  go_wp2_with fail
  refine (step_c k4 (ofG gs) a n cap zs _ HG4.out H4.out (by omega) HP.out).mono ?_
  rintro e w5 ⟨k5, rfl, hG5, hk5, hb5'⟩
  have hb5 : Below W.heap.size W w5 := hb4.trans (hb5'.mono hz4)
  have hz5 := hb5.size
  have HG5 : Hid (GM w5 k5 (stepF zs (ofG gs))) := hG5
  clear hG5
  go_wp2_with fail
  refine (list_c k5 _ w5 HG5.out).mono ?_
  rintro e w6 ⟨v, ys, rfl, hsg, hof, hown, hb6'⟩
  have hb6 : Below W.heap.size W w6 := hb5.trans (hb6'.mono hz5)
  obtain rfl : ys = stepG zs gs := sg_ext hsg (sg_step HK.out HSg.out) (fun r => by rw [hof, ofG_step HK.out HSg.out])
  obtain ⟨a', cap', rfl⟩ := hown.slice
  have hlw : w.heap.size < W.heap.size := by omega
  have d0 : w6.cell? ⟨w.heap.size, 0, none⟩ = some (.int .i64 0) := (hb6.cell (p := ⟨w.heap.size, 0, none⟩) hlw).trans c0
  have d1 : w6.cell? ⟨w.heap.size, 1, none⟩ = some (.slice none 0 0) := (hb6.cell (p := ⟨w.heap.size, 1, none⟩) hlw).trans c1
  have g0 : w6.frozen? ⟨w.heap.size, 0, none⟩ = false := (hb6.frozen (p := ⟨w.heap.size, 0, none⟩) hlw).trans (f0 0)
  have g1 : w6.frozen? ⟨w.heap.size, 1, none⟩ = false := (hb6.frozen (p := ⟨w.heap.size, 1, none⟩) hlw).trans (f0 1)
  have hw : w.heap.size < w6.heap.size := Nat.lt_of_lt_of_le hlw hb6.size
  have hBx : Below w.heap.size w w6 := B0.trans (hb6.mono (by omega))
  have HO : Hid (Own3 w6 w5.heap.size (.slice a' (stepG zs gs).length cap') (stepG zs gs)) := hown
  clear hb1 hb2 hb2' hb3 hb4 hb4' hb5 hb5' hb6 hb6' hown hof hsg
  go_wp2
  refine bodyPost_ret (v := .agg #[.int .i64 0, .slice a' (stepG zs gs).length cap']) (by simp [results, Try.results13, go_sem, d0, d1, hw]) rfl ⟨a', cap', rfl, ?_, ?_⟩
  · exact HO.out.box (by omega)
  · exact hBx |>.setCell (Nat.le_refl _) _ |>.setCell (Nat.le_refl _) _

end Go.Proofs.Ytipmkdacnpkgjaa
