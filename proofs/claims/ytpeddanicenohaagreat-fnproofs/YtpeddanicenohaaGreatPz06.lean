/-
  CONTRACTS: MembersOf of both programs.
  Conditions: each contract bears its own.
  CONTRACTS: spec.ProofOf.
  Conditions: each contract bears its own.
  CONTRACTS: impl.proofOf, out of what maps.Equal answers.
  Conditions: each contract bears its own.
  CONTRACT: maps.Equal over two maps of grants.
  Conditions: each contract bears its own.
-/
import Derived.Test.YtpeddanicenohaaGreatPz05
import Derived.Test.YtpeddanicenohaaGreatRole1
import Derived.Test.YtpeddanicenohaaGreatPf0
import Derived.Test.YtpeddanicenohaaGreatBx0
import Derived.Test.YtpeddanicenohaaGreatGr5
import Derived.Test.YtpeddanicenohaaGreatPz03
import Derived.Lib.SlMapEqual
import Derived.WalkKit
import Derived.Maps.RangeWalk
import Derived.Laws.IdiomRangeMap
namespace Go.Proofs.YtpeddanicenohaaGreat
open Go.RowKit
set_option linter.unusedVariables false
set_option linter.unusedSimpArgs false

theorem or64_c (g : Nat) (c d : Int) (w : World) (h0 : w.cell? ⟨g, 0, none⟩ = some (.int .i64 c)) (h1 : w.cell? ⟨g, 1, none⟩ = some (.int .i64 d)) :
    Calls Tryz.prog 12 #[.slice (some ⟨g, 0, none⟩) 2 2] w fun e w' => e = .returned (.int .i64 (orC c d)) ∧ w = w' := by
  go_enter Tryz.func12, Tryz.ntmps12
  go_wp2
  go_loop [8] (fun i => ∃ k : Nat, k ≤ 2 ∧ i = .int .i64 (k : Int) ∧ (1 ≤ k → c = 0) ∧ (2 ≤ k → d = 0)) (fun i => 2 - (intOf i).toNat)
  case atStart => exact ⟨0, by omega, rfl, fun h => by omega, fun h => by omega⟩
  case round =>
    obtain ⟨k, hk, rfl, hc, hd⟩ := hrel
    have hk' : k = 0 ∨ k = 1 ∨ k = 2 := by omega
    rcases hk' with rfl | rfl | rfl
    · clear hc hd
      by_cases e : c = 0
      · have b : (c != 0) = false := by simp [e]
        have HE : Hid (c = 0) := e
        clear e
        go_wp2
        exact ⟨⟨1, by omega, by go_num, fun _ => HE.out, fun h => by omega⟩, by simp [intOf]⟩
      · have b : (c != 0) = true := by simp [e]
        go_wp2
        go_ret
        exact ⟨by simp [orC, e], rfl⟩
    · have HC : Hid (c = 0) := hc (by omega)
      clear hc hd
      by_cases e : d = 0
      · have b : (d != 0) = false := by simp [e]
        have HE : Hid (d = 0) := e
        clear e
        go_wp2
        exact ⟨⟨2, by omega, by go_num, fun _ => HC.out, fun _ => HE.out⟩, by simp [intOf]⟩
      · have b : (d != 0) = true := by simp [e]
        go_wp2
        go_ret
        exact ⟨by simp [orC, HC.out], rfl⟩
    · have HC : Hid (c = 0) := hc (by omega)
      have HD : Hid (d = 0) := hd (by omega)
      clear hc hd
      go_wp2
      go_ret
      exact ⟨by simp [orC, HC.out, HD.out], rfl⟩

theorem kp_new {W w : World} (h : (∀ b o, b < W.heap.size → w.cell? ⟨b, o, none⟩ = W.cell? ⟨b, o, none⟩) ∧ Below W.heap.size W w) (o : Obj) : (∀ b i, b < W.heap.size → (w.alloc o).cell? ⟨b, i, none⟩ = W.cell? ⟨b, i, none⟩) ∧ Below W.heap.size W (w.alloc o) :=
  kp_step h ((Below.refl _ _).alloc (Nat.le_refl _) _)

theorem allRo_ss : SS allRo := by
  unfold SS
  decide

theorem fn_list {f : RoI → Int} (h : FN f) : ∃ gs, SG gs ∧ ofG gs = f := by
  refine ⟨_, sg_keys h (rs := allRo.filter (fun r => decide (f r ≠ 0))) ?_ (fun r => ?_)⟩
  · exact List.Pairwise.sublist List.filter_sublist allRo_ss
  · rw [List.mem_filter]
    exact ⟨fun q => of_decide_eq_true q.2, fun q => ⟨mem_allRo (h.ro r q), decide_eq_true q⟩⟩

theorem gm_list {w : World} {b : Nat} {f : RoI → Int} (h : GM w b f) : ∃ gs, SG gs ∧ ofG gs = f := fn_list h.fn

/-- The fault of the arguments: the policy's, then the role's. -/
def memCode (zs : List RuleI) (r : RoI) : Int := orC (polCode zs) (roleCode r.1 r.2)

def GivesI (f : Nat) (a : Option Addr) (n cap : Nat) (r : RoI) (c v : Int) (w : World) : Prop := Calls Tryz.prog f #[.slice a n cap, .agg #[.int .i64 r.1, .int .i64 r.2]] w fun e w' => e = .returned (.agg #[.int .i64 c, .int .i64 v]) ∧ Below w.heap.size w w'

set_option maxRecDepth 100000 in
set_option maxHeartbeats 1000000 in
theorem implMembersOf_bad (a : Option Addr) (n cap : Nat) (zs : List RuleI) (r : RoI) (c : Int) (w : World) (hn : n ≤ 1048576) (hcap : n ≤ cap) (hcm : cap ≤ maxLen) (h : RulesIn w a n zs) (hc : memCode zs r = c) (h0 : c ≠ 0) : GivesI 23 a n cap r c 0 w := by
  obtain ⟨W, hW⟩ : ∃ W, W = (w.alloc (.cells #[.int .i64 r.1, .int .i64 r.2] 26)).alloc (.cells #[.int .i64 0, .int .i64 0] 51) := ⟨_, rfl⟩
  have hs : W.heap.size = w.heap.size + 2 := by rw [hW]; simp
  have B0 : Below w.heap.size w W := by rw [hW]; exact ((Below.refl _ _).alloc (Nat.le_refl _) _).alloc (by simp) _
  have r0 : W.cell? ⟨w.heap.size, 0, none⟩ = some (.int .i64 r.1) := by rw [hW]; simp
  have r1 : W.cell? ⟨w.heap.size, 1, none⟩ = some (.int .i64 r.2) := by rw [hW]; simp
  have c0 : W.cell? ⟨w.heap.size + 1, 0, none⟩ = some (.int .i64 0) := by rw [hW]; simp
  have c1 : W.cell? ⟨w.heap.size + 1, 1, none⟩ = some (.int .i64 0) := by rw [hW]; simp
  have f0 : ∀ j, W.frozen? ⟨w.heap.size + 1, j, none⟩ = false := fun j => by rw [hW]; simp [go_sem]
  have HP : Hid (∀ w2 : World, (∀ b o, b < W.heap.size → w2.cell? ⟨b, o, none⟩ = W.cell? ⟨b, o, none⟩) ∧ Below W.heap.size W w2 → Calls Tryz.prog 13 #[.slice a n cap] w2 fun e w' => e = .returned (.int .i64 (polCode zs)) ∧ Below w2.heap.size w2 w') := fun w2 q => implPolicyFault_c a n cap zs w2 hn hcap hcm (h.below (B0.trans (q.2.mono (by omega))))
  have HC : Hid (orC (polCode zs) (roleCode r.1 r.2) = c) := hc
  clear h hc
  have hcn : (c != 0) = true := by simpa using h0
  generalize polCode zs = p at HP HC
  generalize hq : roleCode r.1 r.2 = q at HC
  unfold GivesI
  go_enter Tryz.func23, Tryz.ntmps23
  go_wp2
  rw [← hW]
  clear hW
  go_region_held3 (fun w' => (∀ b o, b < W.heap.size → w'.cell? ⟨b, o, none⟩ = W.cell? ⟨b, o, none⟩) ∧ Below W.heap.size W w') (first | exact hS | exact kp_drew _ | exact kp_new (by assumption) _)
    (first | (go_at_call 13; refine (HP.out _ (by assumption)).mono ?_; rintro e w' ⟨rfl, hb2⟩; have hS := kp_step (by assumption) hb2) | (go_at_call 14; refine (implRoleFault_c _ _ _).mono ?_; rintro e w' ⟨rfl, hb2⟩; rw [hq]; have hS := kp_step (by assumption) hb2) | (go_at_call 12; refine (or64_c _ p q _ ?_ ?_).mono ?_; (· simp [go_sem]); (· simp [go_sem]); rintro e w' ⟨rfl, rfl⟩))
  all_goals
    have hS3 := kp_new hS (.cells #[.int .i64 p, .int .i64 q] 2)
    rw [HC.out]
    generalize w'.alloc (.cells #[.int .i64 p, .int .i64 q] 2) = w3 at hS3 ⊢
    have hz3 := hS3.2.size
    have hw : w.heap.size + 1 < w3.heap.size := by omega
    have d0 := (hS3.1 (w.heap.size + 1) 0 (by omega)).trans c0
    have d1 := (hS3.1 (w.heap.size + 1) 1 (by omega)).trans c1
    have g0 : w3.frozen? ⟨w.heap.size + 1, 0, none⟩ = false := (hS3.2.frozen (p := ⟨w.heap.size + 1, 0, none⟩) (by show w.heap.size + 1 < W.heap.size; omega)).trans (f0 0)
    have g1 : w3.frozen? ⟨w.heap.size + 1, 1, none⟩ = false := (hS3.2.frozen (p := ⟨w.heap.size + 1, 1, none⟩) (by show w.heap.size + 1 < W.heap.size; omega)).trans (f0 1)
    have hBx : Below w.heap.size w w3 := B0.trans (hS3.2.mono (by omega))
    go_wp2
    refine bodyPost_ret (v := .agg #[.int .i64 c, .int .i64 0]) (by simp [results, Tryz.results23, go_sem, d0, d1, hw]) rfl ⟨rfl, ?_⟩
    exact hBx |>.setCell (by simp) _ |>.setCell (by simp) _

set_option maxRecDepth 100000 in
set_option maxHeartbeats 1000000 in
theorem implMembersOf_ok (a : Option Addr) (n cap : Nat) (zs : List RuleI) (gs : List GrI) (r : RoI) (w : World) (hcap : n ≤ cap) (hcm : cap ≤ maxLen) (h : RulesIn w a n zs) (hc : polCode zs = 0) (hr : roleB r.1 r.2 = true) (hg : AllG zs gs) : GivesI 23 a n cap r 0 (ofG gs r) w := by
  have hn : n ≤ 16 := pol_n16 h.1 hc
  obtain ⟨W, hW⟩ : ∃ W, W = (w.alloc (.cells #[.int .i64 r.1, .int .i64 r.2] 26)).alloc (.cells #[.int .i64 0, .int .i64 0] 51) := ⟨_, rfl⟩
  have hs : W.heap.size = w.heap.size + 2 := by rw [hW]; simp
  have B0 : Below w.heap.size w W := by rw [hW]; exact ((Below.refl _ _).alloc (Nat.le_refl _) _).alloc (by simp) _
  have r0 : W.cell? ⟨w.heap.size, 0, none⟩ = some (.int .i64 r.1) := by rw [hW]; simp
  have r1 : W.cell? ⟨w.heap.size, 1, none⟩ = some (.int .i64 r.2) := by rw [hW]; simp
  have c0 : W.cell? ⟨w.heap.size + 1, 0, none⟩ = some (.int .i64 0) := by rw [hW]; simp
  have c1 : W.cell? ⟨w.heap.size + 1, 1, none⟩ = some (.int .i64 0) := by rw [hW]; simp
  have f0 : ∀ j, W.frozen? ⟨w.heap.size + 1, j, none⟩ = false := fun j => by rw [hW]; simp [go_sem]
  have HP : Hid (∀ w2 : World, (∀ b o, b < W.heap.size → w2.cell? ⟨b, o, none⟩ = W.cell? ⟨b, o, none⟩) ∧ Below W.heap.size W w2 → Calls Tryz.prog 13 #[.slice a n cap] w2 fun e w' => e = .returned (.int .i64 0) ∧ Below w2.heap.size w2 w') := fun w2 q => by have := implPolicyFault_c a n cap zs w2 (by omega) hcap hcm (h.below (B0.trans (q.2.mono (by omega)))); rwa [hc] at this
  have HT : Hid (∀ w2 : World, Below W.heap.size W w2 → Calls Tryz.prog 48 #[.slice a n cap] w2.drew fun e w' => ∃ b, e = .returned (.map (some b)) ∧ (Instr.lookup 58 (.map (some b)) (.agg #[.int .i64 r.1, .int .i64 r.2]) false).run Tryz.prog w' = .ok (.int .u8 (ofG gs r)) w' ∧ Below W.heap.size W w') := fun w2 q => by
    refine (settle_c a n cap zs w2.drew (h.below (B0.trans (q.drew.mono (by omega)))) hn hc).mono ?_
    rintro e w' ⟨b, f, rfl, hG, hWk, hb, hb2⟩
    have e : ofG gs = f := by
      obtain ⟨gs', h1, h2⟩ := gm_list hG
      have := allG_unique (work_end (fun z hz => ((pol_ok hc).2 z hz).1) hWk h1 h2) hg
      rw [← this]; exact h2
    subst e
    exact ⟨b, rfl, gm_look hG (roW_of hr), q.drew.trans (hb2.mono (by have := q.size; exact this))⟩
  have hwrap : IntKind.i64.wrap (ofG gs r) = ofG gs r := by
    have := (ofG_set hg.sg r).1
    have := (ofG_set hg.sg r).2
    rw [IntKind.wrap_i64]; omega
  have hq : roleCode r.1 r.2 = 0 := by simp [roleCode, hr]
  clear h hc
  generalize ofG gs r = v at HT hwrap ⊢
  unfold GivesI
  go_enter Tryz.func23, Tryz.ntmps23
  go_wp2
  rw [← hW]
  clear hW
  go_region_held3 (fun w' => (∀ b o, b < W.heap.size → w'.cell? ⟨b, o, none⟩ = W.cell? ⟨b, o, none⟩) ∧ Below W.heap.size W w') (first | exact hS | exact kp_drew _ | exact kp_new (by assumption) _)
    (first | (go_at_call 13; refine (HP.out _ (by assumption)).mono ?_; rintro e w' ⟨rfl, hb2⟩; have hS := kp_step (by assumption) hb2) | (go_at_call 14; refine (implRoleFault_c _ _ _).mono ?_; rintro e w' ⟨rfl, hb2⟩; rw [hq]; have hS := kp_step (by assumption) hb2) | (go_at_call 12; refine (or64_c _ 0 0 _ ?_ ?_).mono ?_; (· simp [go_sem]); (· simp [go_sem]); rintro e w' ⟨rfl, rfl⟩))
  all_goals
    have hS3 := kp_new hS (.cells #[.int .i64 0, .int .i64 0] 2)
    rw [show orC 0 0 = 0 from rfl]
    generalize w'.alloc (.cells #[.int .i64 0, .int .i64 0] 2) = w3 at hS3 ⊢
    have hz3 := hS3.2.size
    have q0 := (hS3.1 w.heap.size 0 (by omega)).trans r0
    have q1 := (hS3.1 w.heap.size 1 (by omega)).trans r1
    go_wp2
    go_region_with (first | (go_at_call 48; refine (HT.out _ hS3.2).mono ?_; rintro e w4 ⟨b, rfl, hlk, hb4⟩; have q2 := (hb4.cell (p := ⟨w.heap.size, 0, none⟩) (by show w.heap.size < W.heap.size; omega)).trans r0; have q3 := (hb4.cell (p := ⟨w.heap.size, 1, none⟩) (by show w.heap.size < W.heap.size; omega)).trans r1; have d0 := (hb4.cell (p := ⟨w.heap.size + 1, 0, none⟩) (by show w.heap.size + 1 < W.heap.size; omega)).trans c0; have d1 := (hb4.cell (p := ⟨w.heap.size + 1, 1, none⟩) (by show w.heap.size + 1 < W.heap.size; omega)).trans c1; have g0 := (hb4.frozen (p := ⟨w.heap.size + 1, 0, none⟩) (by show w.heap.size + 1 < W.heap.size; omega)).trans (f0 0); have g1 := (hb4.frozen (p := ⟨w.heap.size + 1, 1, none⟩) (by show w.heap.size + 1 < W.heap.size; omega)).trans (f0 1); have hz4 := hb4.size))
  all_goals
    have hw : w.heap.size + 1 < w4.heap.size := by omega
    have hBx : Below w.heap.size w w4 := B0.trans (hb4.mono (by omega))
    go_wp2
    refine bodyPost_ret (v := .agg #[.int .i64 0, .int .i64 v]) (by simp [results, Tryz.results23, go_sem, d0, d1, hw]) rfl ⟨rfl, ?_⟩
    exact hBx |>.setCell (by simp) _ |>.setCell (by simp) _

set_option maxHeartbeats 1000000 in
theorem specMembersOf_pol (a : Option Addr) (n cap : Nat) (zs : List RuleI) (r : RoI) (c : Int) (w : World) (hn : n ≤ 1048576) (h : RulesIn w a n zs) (hc : polCode zs = c) (h0 : c ≠ 0) : GivesI 18 a n cap r c 0 w := by
  obtain ⟨W, hW⟩ : ∃ W, W = (w.alloc (.cells #[.int .i64 r.1, .int .i64 r.2] 26)).alloc (.cells #[.int .i64 0, .int .i64 0] 51) := ⟨_, rfl⟩
  have hs : W.heap.size = w.heap.size + 2 := by rw [hW]; simp
  have B0 : Below w.heap.size w W := by rw [hW]; exact ((Below.refl _ _).alloc (Nat.le_refl _) _).alloc (by simp) _
  have r0 : W.cell? ⟨w.heap.size, 0, none⟩ = some (.int .i64 r.1) := by rw [hW]; simp
  have r1 : W.cell? ⟨w.heap.size, 1, none⟩ = some (.int .i64 r.2) := by rw [hW]; simp
  have c0 : W.cell? ⟨w.heap.size + 1, 0, none⟩ = some (.int .i64 0) := by rw [hW]; simp
  have c1 : W.cell? ⟨w.heap.size + 1, 1, none⟩ = some (.int .i64 0) := by rw [hW]; simp
  have f0 : ∀ j, W.frozen? ⟨w.heap.size + 1, j, none⟩ = false := fun j => by rw [hW]; simp [go_sem]
  have hcn : (c != 0) = true := by simpa using h0
  have H : Hid (RulesIn W a n zs) := h.below B0
  have HC : Hid (polCode zs = c) := hc
  clear h hc
  unfold GivesI
  go_enter Tryz.func18, Tryz.ntmps18
  go_wp2_with fail
  rw [← hW]
  clear hW
  refine (l2Fault_c a n cap zs _ hn H.out).mono ?_
  rintro e w1 ⟨rfl, hb1⟩
  rw [HC.out]
  have d0 : w1.cell? ⟨w.heap.size + 1, 0, none⟩ = some (.int .i64 0) := (hb1.cell (p := ⟨w.heap.size + 1, 0, none⟩) (by show w.heap.size + 1 < W.heap.size; omega)).trans c0
  have d1 : w1.cell? ⟨w.heap.size + 1, 1, none⟩ = some (.int .i64 0) := (hb1.cell (p := ⟨w.heap.size + 1, 1, none⟩) (by show w.heap.size + 1 < W.heap.size; omega)).trans c1
  have g0 : w1.frozen? ⟨w.heap.size + 1, 0, none⟩ = false := (hb1.frozen (p := ⟨w.heap.size + 1, 0, none⟩) (by show w.heap.size + 1 < W.heap.size; omega)).trans (f0 0)
  have g1 : w1.frozen? ⟨w.heap.size + 1, 1, none⟩ = false := (hb1.frozen (p := ⟨w.heap.size + 1, 1, none⟩) (by show w.heap.size + 1 < W.heap.size; omega)).trans (f0 1)
  have hw : w.heap.size + 1 < w1.heap.size := by have := hb1.size; omega
  have hBx : Below w.heap.size w w1 := B0.trans (hb1.mono (by omega))
  clear hb1
  go_wp2
  refine bodyPost_ret (v := .agg #[.int .i64 c, .int .i64 0]) (by simp [results, Tryz.results18, go_sem, d0, d1, hw]) rfl ⟨rfl, ?_⟩
  exact hBx |>.setCell (by simp) _ |>.setCell (by simp) _

set_option maxHeartbeats 1000000 in
theorem specMembersOf_role (a : Option Addr) (n cap : Nat) (zs : List RuleI) (r : RoI) (w : World) (hn : n ≤ 1048576) (h : RulesIn w a n zs) (hc : polCode zs = 0) (hr : roleB r.1 r.2 = false) : GivesI 18 a n cap r 3 0 w := by
  obtain ⟨W, hW⟩ : ∃ W, W = (w.alloc (.cells #[.int .i64 r.1, .int .i64 r.2] 26)).alloc (.cells #[.int .i64 0, .int .i64 0] 51) := ⟨_, rfl⟩
  have hs : W.heap.size = w.heap.size + 2 := by rw [hW]; simp
  have B0 : Below w.heap.size w W := by rw [hW]; exact ((Below.refl _ _).alloc (Nat.le_refl _) _).alloc (by simp) _
  have r0 : W.cell? ⟨w.heap.size, 0, none⟩ = some (.int .i64 r.1) := by rw [hW]; simp
  have r1 : W.cell? ⟨w.heap.size, 1, none⟩ = some (.int .i64 r.2) := by rw [hW]; simp
  have c0 : W.cell? ⟨w.heap.size + 1, 0, none⟩ = some (.int .i64 0) := by rw [hW]; simp
  have c1 : W.cell? ⟨w.heap.size + 1, 1, none⟩ = some (.int .i64 0) := by rw [hW]; simp
  have f0 : ∀ j, W.frozen? ⟨w.heap.size + 1, j, none⟩ = false := fun j => by rw [hW]; simp [go_sem]
  have H : Hid (RulesIn W a n zs) := h.below B0
  have HC : Hid (polCode zs = 0) := hc
  obtain ⟨t, ht⟩ : ∃ t, roleB r.1 r.2 = t := ⟨_, rfl⟩
  have HT : Hid (t = false) := ht.symm.trans hr
  clear h hc hr
  unfold GivesI
  go_enter Tryz.func18, Tryz.ntmps18
  go_wp2_with fail
  rw [← hW]
  clear hW
  refine (l2Fault_c a n cap zs _ hn H.out).mono ?_
  rintro e w1 ⟨rfl, hb1⟩
  rw [HC.out]
  have hz1 := hb1.size
  have q0 : w1.cell? ⟨w.heap.size, 0, none⟩ = some (.int .i64 r.1) := (hb1.cell (p := ⟨w.heap.size, 0, none⟩) (by show w.heap.size < W.heap.size; omega)).trans r0
  have q1 : w1.cell? ⟨w.heap.size, 1, none⟩ = some (.int .i64 r.2) := (hb1.cell (p := ⟨w.heap.size, 1, none⟩) (by show w.heap.size < W.heap.size; omega)).trans r1
  go_wp2_with fail
  refine (l2Role_c r.1 r.2 _).mono ?_
  rintro e w2 ⟨rfl, hb2'⟩
  rw [ht]
  obtain rfl : t = false := HT.out
  have hb2 : Below W.heap.size W w2 := hb1.trans (hb2'.mono hz1)
  have d0 : w2.cell? ⟨w.heap.size + 1, 0, none⟩ = some (.int .i64 0) := (hb2.cell (p := ⟨w.heap.size + 1, 0, none⟩) (by show w.heap.size + 1 < W.heap.size; omega)).trans c0
  have d1 : w2.cell? ⟨w.heap.size + 1, 1, none⟩ = some (.int .i64 0) := (hb2.cell (p := ⟨w.heap.size + 1, 1, none⟩) (by show w.heap.size + 1 < W.heap.size; omega)).trans c1
  have g0 : w2.frozen? ⟨w.heap.size + 1, 0, none⟩ = false := (hb2.frozen (p := ⟨w.heap.size + 1, 0, none⟩) (by show w.heap.size + 1 < W.heap.size; omega)).trans (f0 0)
  have g1 : w2.frozen? ⟨w.heap.size + 1, 1, none⟩ = false := (hb2.frozen (p := ⟨w.heap.size + 1, 1, none⟩) (by show w.heap.size + 1 < W.heap.size; omega)).trans (f0 1)
  have hw : w.heap.size + 1 < w2.heap.size := by have := hb2.size; omega
  have hBx : Below w.heap.size w w2 := B0.trans (hb2.mono (by omega))
  clear hb1 hb2 hb2' ht
  go_wp2
  refine bodyPost_ret (v := .agg #[.int .i64 3, .int .i64 0]) (by simp [results, Tryz.results18, go_sem, d0, d1, hw]) rfl ⟨rfl, ?_⟩
  exact hBx |>.setCell (by simp) _ |>.setCell (by simp) _

set_option maxRecDepth 100000 in
set_option maxHeartbeats 1000000 in
theorem specMembersOf_ok (a : Option Addr) (n cap : Nat) (zs : List RuleI) (gs : List GrI) (r : RoI) (w : World) (h : RulesIn w a n zs) (hc : polCode zs = 0) (hr : roleB r.1 r.2 = true) (hg : AllG zs gs) : GivesI 18 a n cap r 0 (ofG gs r) w := by
  have hn : n ≤ 16 := pol_n16 h.1 hc
  obtain ⟨W, hW⟩ : ∃ W, W = (w.alloc (.cells #[.int .i64 r.1, .int .i64 r.2] 26)).alloc (.cells #[.int .i64 0, .int .i64 0] 51) := ⟨_, rfl⟩
  have hs : W.heap.size = w.heap.size + 2 := by rw [hW]; simp
  have B0 : Below w.heap.size w W := by rw [hW]; exact ((Below.refl _ _).alloc (Nat.le_refl _) _).alloc (by simp) _
  have r0 : W.cell? ⟨w.heap.size, 0, none⟩ = some (.int .i64 r.1) := by rw [hW]; simp
  have r1 : W.cell? ⟨w.heap.size, 1, none⟩ = some (.int .i64 r.2) := by rw [hW]; simp
  have c0 : W.cell? ⟨w.heap.size + 1, 0, none⟩ = some (.int .i64 0) := by rw [hW]; simp
  have c1 : W.cell? ⟨w.heap.size + 1, 1, none⟩ = some (.int .i64 0) := by rw [hW]; simp
  have f0 : ∀ j, W.frozen? ⟨w.heap.size + 1, j, none⟩ = false := fun j => by rw [hW]; simp [go_sem]
  have H : Hid (RulesIn W a n zs) := h.below B0
  have HC : Hid (polCode zs = 0) := hc
  have HA : Hid (∀ w2 : World, Below W.heap.size W w2 → Calls Tryz.prog 43 #[.slice a n cap] w2.drew fun e w' => ∃ g l cap, e = .returned (.slice (some ⟨g, 0, none⟩) l cap) ∧ GrIn w' (some ⟨g, 0, none⟩) l gs ∧ l ≤ 1048576 ∧ Below W.heap.size W w') := fun w2 q => by
    refine (l3All_c a n cap zs w2.drew (h.below (B0.trans (q.drew.mono (by omega)))) (by omega) (pol_ok hc).2).mono ?_
    rintro e w' ⟨g, l, cap', gs', rfl, h1, h2, h3, h4, hb⟩
    obtain rfl := allG_unique h2 hg
    exact ⟨g, l, cap', rfl, h4.read h1, by have := sg_len hg.sg; omega, q.drew.trans (hb.mono q.size)⟩
  obtain ⟨t, ht⟩ : ∃ t, roleB r.1 r.2 = t := ⟨_, rfl⟩
  have HT : Hid (t = true) := ht.symm.trans hr
  have HF : Hid (∀ (g l cap : Nat) (w2 : World), GrIn w2 (some ⟨g, 0, none⟩) l gs → l ≤ 1048576 → Calls Tryz.prog 42 #[.slice (some ⟨g, 0, none⟩) l cap, .agg #[.int .i64 r.1, .int .i64 r.2]] w2 fun e w' => e = .returned (.int .i64 (ofG gs r)) ∧ Below w2.heap.size w2 w') := fun g l cap w2 q1 q2 => l3Of_c _ _ _ _ _ _ q1 q2
  generalize ofG gs r = v at HF ⊢
  clear h hc hr
  unfold GivesI
  go_enter Tryz.func18, Tryz.ntmps18
  go_wp2_with fail
  rw [← hW]
  clear hW
  refine (l2Fault_c a n cap zs _ (by omega) H.out).mono ?_
  rintro e w1 ⟨rfl, hb1⟩
  rw [HC.out]
  have hz1 := hb1.size
  have q0 : w1.cell? ⟨w.heap.size, 0, none⟩ = some (.int .i64 r.1) := (hb1.cell (p := ⟨w.heap.size, 0, none⟩) (by show w.heap.size < W.heap.size; omega)).trans r0
  have q1 : w1.cell? ⟨w.heap.size, 1, none⟩ = some (.int .i64 r.2) := (hb1.cell (p := ⟨w.heap.size, 1, none⟩) (by show w.heap.size < W.heap.size; omega)).trans r1
  go_wp2_with fail
  refine (l2Role_c r.1 r.2 _).mono ?_
  rintro e w2 ⟨rfl, hb2'⟩
  rw [ht]
  obtain rfl : t = true := HT.out
  have hb2 : Below W.heap.size W w2 := hb1.trans (hb2'.mono hz1)
  have q0 : w2.cell? ⟨w.heap.size, 0, none⟩ = some (.int .i64 r.1) := (hb2.cell (p := ⟨w.heap.size, 0, none⟩) (by show w.heap.size < W.heap.size; omega)).trans r0
  have q1 : w2.cell? ⟨w.heap.size, 1, none⟩ = some (.int .i64 r.2) := (hb2.cell (p := ⟨w.heap.size, 1, none⟩) (by show w.heap.size < W.heap.size; omega)).trans r1
  clear ht
  go_wp2
  go_region_with (first | (go_at_call 43; refine (HA.out _ hb2).mono ?_; rintro e w4 ⟨g, l, cap', rfl, hgr, hl4, hb4⟩; have q2 := (hb4.cell (p := ⟨w.heap.size, 0, none⟩) (by show w.heap.size < W.heap.size; omega)).trans r0; have q3 := (hb4.cell (p := ⟨w.heap.size, 1, none⟩) (by show w.heap.size < W.heap.size; omega)).trans r1; have hz4 := hb4.size) | (go_at_call 42; refine (HF.out _ _ _ _ hgr hl4).mono ?_; rintro e w5 ⟨rfl, hb5'⟩; have hb5 : Below W.heap.size W w5 := hb4.trans (hb5'.mono hz4); have d0 := (hb5.cell (p := ⟨w.heap.size + 1, 0, none⟩) (by show w.heap.size + 1 < W.heap.size; omega)).trans c0; have d1 := (hb5.cell (p := ⟨w.heap.size + 1, 1, none⟩) (by show w.heap.size + 1 < W.heap.size; omega)).trans c1; have g0 := (hb5.frozen (p := ⟨w.heap.size + 1, 0, none⟩) (by show w.heap.size + 1 < W.heap.size; omega)).trans (f0 0); have g1 := (hb5.frozen (p := ⟨w.heap.size + 1, 1, none⟩) (by show w.heap.size + 1 < W.heap.size; omega)).trans (f0 1); have hz5 := hb5.size))
  all_goals
    have hw : w.heap.size + 1 < w5.heap.size := by omega
    have hBx : Below w.heap.size w w5 := B0.trans (hb5.mono (by omega))
    go_wp2
    refine bodyPost_ret (v := .agg #[.int .i64 0, .int .i64 v]) (by simp [results, Tryz.results18, go_sem, d0, d1, hw]) rfl ⟨rfl, ?_⟩
    exact hBx |>.setCell (by simp) _ |>.setCell (by simp) _

end Go.Proofs.YtpeddanicenohaaGreat

namespace Go.Proofs.YtpeddanicenohaaGreat
open Go.RowKit
set_option linter.unusedVariables false
set_option linter.unusedSimpArgs false

theorem hitAt_neg (f : RoI → Int) (r : RoI) (p : Int) : ∀ (zs : List RuleI) (i : Int), 0 ≤ i → (hitAt f r p zs i < 0 ↔ noneHit zs f r p)
  | [], i, _ => by
    constructor
    · intro _ z h; simp at h
    · intro _; show (-1 : Int) < 0; decide
  | z :: zs, i, h => by
    have ih := hitAt_neg f r p zs (i + 1) (by omega)
    show (if hitB f r p z = true then i else hitAt f r p zs (i + 1)) < 0 ↔ _
    cases e : hitB f r p z
    · rw [if_neg (by simp), ih]
      constructor
      · intro q y hy
        rcases List.mem_cons.1 hy with rfl | hy
        · exact e
        · exact q y hy
      · intro q y hy
        exact q y (by simp [hy])
    · rw [if_pos rfl]
      constructor
      · intro q; omega
      · intro q; have := q z (by simp); rw [e] at this; cases this

theorem it_const {zs : List RuleI} {M : Nat} (h : stepG zs (itG zs M) = itG zs M) : ∀ j, itG zs (M + j) = itG zs M
  | 0 => rfl
  | j + 1 => by
    show stepG zs (itG zs (M + j)) = _
    rw [it_const h j, h]

/-- The first step at which a grant follows, and it is among few. -/
theorem first_few {zs : List RuleI} (hz : ∀ z ∈ zs, okR z) {r : RoI} {p : Int} (h : Has zs r p) : ∃ n, n ≤ 10200 ∧ ¬ noneHit zs (ofG (itG zs n)) r p ∧ ∀ k, k < n → noneHit zs (ofG (itG zs k)) r p := by
  obtain ⟨n, h1, h2⟩ := first_of hz h
  refine ⟨n, ?_, h1, h2⟩
  obtain ⟨M, hM, hs⟩ := it_ends hz
  by_cases q : n ≤ M
  · omega
  · have e : itG zs n = itG zs M := by
      have := it_const hs (n - M)
      rwa [show M + (n - M) = n by omega] at this
    rw [e] at h1
    exact absurd (h2 M (by omega)) h1

def GivesP (f : Nat) (a : Option Addr) (n cap : Nat) (r : RoI) (p : Int) (c : Int) (ls : List Int) (w : World) : Prop := Calls Tryz.prog f #[.slice a n cap, .agg #[.int .i64 r.1, .int .i64 r.2], .int .i64 p] w fun e w' => ∃ (a' : Option Addr) (cap' : Nat), e = .returned (.agg #[.int .i64 c, .slice a' ls.length cap']) ∧ w'.ownsRow w.heap.size 2 1 (.slice a' ls.length cap') ls.length (ls.map (Value.int .i64)) ∧ Below w.heap.size w w'

set_option maxRecDepth 100000 in
set_option maxHeartbeats 2000000 in
theorem specProof_bad (a : Option Addr) (n cap : Nat) (r : RoI) (p c v d : Int) (w : World) (hd : (c ≠ 0 ∧ d = c) ∨ (c = 0 ∧ prinB p = false ∧ d = 3) ∨ (c = 0 ∧ prinB p = true ∧ setB v ∧ hasI v p = false ∧ d = 4))
    (H : Hid (∀ w', Below w.heap.size w w' → GivesI 18 a n cap r c v w')) : GivesP 7 a n cap r p d [] w := by
  obtain ⟨W, hW⟩ : ∃ W, W = (w.alloc (.cells #[.int .i64 r.1, .int .i64 r.2] 26)).alloc (.cells #[.int .i64 0, .slice none 0 0] 31) := ⟨_, rfl⟩
  have hs : W.heap.size = w.heap.size + 2 := by rw [hW]; simp
  have B0 : Below w.heap.size w W := by rw [hW]; exact ((Below.refl _ _).alloc (Nat.le_refl _) _).alloc (by simp) _
  have r0 : W.cell? ⟨w.heap.size, 0, none⟩ = some (.int .i64 r.1) := by rw [hW]; simp
  have r1 : W.cell? ⟨w.heap.size, 1, none⟩ = some (.int .i64 r.2) := by rw [hW]; simp
  have c0 : W.cell? ⟨w.heap.size + 1, 0, none⟩ = some (.int .i64 0) := by rw [hW]; simp
  have c1 : W.cell? ⟨w.heap.size + 1, 1, none⟩ = some (.slice none 0 0) := by rw [hW]; simp
  have f0 : ∀ j, W.frozen? ⟨w.heap.size + 1, j, none⟩ = false := fun j => by rw [hW]; simp [go_sem]
  have HB0 : Hid (Below w.heap.size w W) := B0
  have hlw : w.heap.size + 1 < W.heap.size := by omega
  rcases hd with ⟨h0, rfl⟩ | ⟨rfl, hp, rfl⟩ | ⟨rfl, hp, hv, hh, rfl⟩
  · have hcn : (d != 0) = true := by simpa using h0
    unfold GivesP
    go_enter Tryz.func7, Tryz.ntmps7
    go_wp2_with fail
    rw [← hW]
    clear hW hs
    refine (H.out _ HB0.out).mono ?_
    rintro e w1 ⟨rfl, hb1⟩
    have d0 := (hb1.cell (p := ⟨w.heap.size + 1, 0, none⟩) hlw).trans c0
    have d1 := (hb1.cell (p := ⟨w.heap.size + 1, 1, none⟩) hlw).trans c1
    have g0 := (hb1.frozen (p := ⟨w.heap.size + 1, 0, none⟩) hlw).trans (f0 0)
    have g1 := (hb1.frozen (p := ⟨w.heap.size + 1, 1, none⟩) hlw).trans (f0 1)
    have hw : w.heap.size + 1 < w1.heap.size := Nat.lt_of_lt_of_le hlw hb1.size
    have hBx : Below w.heap.size w w1 := HB0.out.trans (hb1.mono HB0.out.size)
    go_wp2
    refine bodyPost_ret (v := .agg #[.int .i64 d, .slice none 0 0]) (by simp [results, Tryz.results7, go_sem, d0, d1, hw]) rfl ⟨none, 0, rfl, World.ownsRow_nil _ _ _ _, ?_⟩
    refine Below.alloc (Below.setCell (Below.setCell hBx ?_ _) ?_ _) ?_ _
    · show w.heap.size ≤ w.heap.size + 1; omega
    · show w.heap.size ≤ w.heap.size + 1; omega
    · simp only [World.size_setCell]; exact hBx.size
  · unfold GivesP
    go_enter Tryz.func7, Tryz.ntmps7
    go_wp2_with fail
    rw [← hW]
    clear hW hs
    refine (H.out _ HB0.out).mono ?_
    rintro e w1 ⟨rfl, hb1⟩
    have d0 := (hb1.cell (p := ⟨w.heap.size + 1, 0, none⟩) hlw).trans c0
    have d1 := (hb1.cell (p := ⟨w.heap.size + 1, 1, none⟩) hlw).trans c1
    have g0 := (hb1.frozen (p := ⟨w.heap.size + 1, 0, none⟩) hlw).trans (f0 0)
    have g1 := (hb1.frozen (p := ⟨w.heap.size + 1, 1, none⟩) hlw).trans (f0 1)
    have hw : w.heap.size + 1 < w1.heap.size := Nat.lt_of_lt_of_le hlw hb1.size
    have hBx : Below w.heap.size w w1 := HB0.out.trans (hb1.mono HB0.out.size)
    go_wp2_with (first | (go_at_call 19; refine (l1Principal_c p _).mono ?_; rintro e w' ⟨rfl, rfl⟩; rw [hp]) | fail)
    refine bodyPost_ret (v := .agg #[.int .i64 3, .slice none 0 0]) (by simp [results, Tryz.results7, go_sem, d0, d1, hw]) rfl ⟨none, 0, rfl, World.ownsRow_nil _ _ _ _, ?_⟩
    refine Below.alloc (Below.setCell (Below.setCell hBx ?_ _) ?_ _) ?_ _
    · show w.heap.size ≤ w.heap.size + 1; omega
    · show w.heap.size ≤ w.heap.size + 1; omega
    · simp only [World.size_setCell]; exact hBx.size
  · have hp' : 1 ≤ p ∧ p ≤ 8 := by simpa [prinB] using hp
    unfold GivesP
    go_enter Tryz.func7, Tryz.ntmps7
    go_wp2_with fail
    rw [← hW]
    clear hW hs
    refine (H.out _ HB0.out).mono ?_
    rintro e w1 ⟨rfl, hb1⟩
    have d0 := (hb1.cell (p := ⟨w.heap.size + 1, 0, none⟩) hlw).trans c0
    have d1 := (hb1.cell (p := ⟨w.heap.size + 1, 1, none⟩) hlw).trans c1
    have g0 := (hb1.frozen (p := ⟨w.heap.size + 1, 0, none⟩) hlw).trans (f0 0)
    have g1 := (hb1.frozen (p := ⟨w.heap.size + 1, 1, none⟩) hlw).trans (f0 1)
    have hw : w.heap.size + 1 < w1.heap.size := Nat.lt_of_lt_of_le hlw hb1.size
    have hBx : Below w.heap.size w w1 := HB0.out.trans (hb1.mono HB0.out.size)
    go_wp2_with (first | (go_at_call 19; refine (l1Principal_c p _).mono ?_; rintro e w' ⟨rfl, rfl⟩; rw [hp]) | (go_at_call 20; refine (l1Has_c v p hv.1 hv.2 hp'.1 hp'.2 _).mono ?_; rintro e w' ⟨rfl, rfl⟩; rw [hh]) | fail)
    refine bodyPost_ret (v := .agg #[.int .i64 4, .slice none 0 0]) (by simp [results, Tryz.results7, go_sem, d0, d1, hw]) rfl ⟨none, 0, rfl, World.ownsRow_nil _ _ _ _, ?_⟩
    refine Below.alloc (Below.setCell (Below.setCell hBx ?_ _) ?_ _) ?_ _
    · show w.heap.size ≤ w.heap.size + 1; omega
    · show w.heap.size ≤ w.heap.size + 1; omega
    · simp only [World.size_setCell]; exact hBx.size

end Go.Proofs.YtpeddanicenohaaGreat

namespace Go.Proofs.YtpeddanicenohaaGreat
open Go.RowKit
set_option linter.unusedVariables false
set_option linter.unusedSimpArgs false
attribute [local go_sem ↓] ro_eql

/-- maps.Equal over two maps by roles. -/
def EqMaps : Prop := ∀ (b1 b2 : Nat) (f1 f2 : RoI → Int) (w : World), GM w b1 f1 → GM w b2 f2 → ∀ t : Bool, (t = true ↔ f1 = f2) → Calls Tryz.prog 39 #[.map (some b1), .map (some b2)] w fun e w' => e = .returned (.bool t) ∧ Below w.heap.size w w'

theorem hit_here {zs : List RuleI} {f : RoI → Int} {r : RoI} {p : Int} : ∀ (k : Nat) (z : RuleI), zs[k]? = some z → (∀ j y, j < k → zs[j]? = some y → hitB f r p y = false) → hitB f r p z = true → ∀ i : Int, hitAt f r p zs i = i + k := by
  induction zs with
  | nil => intro k z h; simp at h
  | cons y ys ih =>
    intro k z h hb ht i
    show (if hitB f r p y = true then i else hitAt f r p ys (i + 1)) = _
    cases k with
    | zero =>
      simp at h
      subst h
      rw [if_pos ht]; simp
    | succ k =>
      rw [if_neg (by rw [hb 0 y (by omega) (by simp)]; simp), ih k z (by simpa using h) (fun j x hj hx => hb (j + 1) x (by omega) (by simpa using hx)) ht]
      simp; omega

theorem none_all {zs : List RuleI} {f : RoI → Int} {r : RoI} {p : Int} {n : Nat} (hn : zs.length = n) (h : ∀ j y, j < n → zs[j]? = some y → hitB f r p y = false) : noneHit zs f r p := by
  intro z hz
  obtain ⟨j, hj⟩ := List.mem_iff_getElem?.1 hz
  have : j < n := by
    by_cases q : j < zs.length
    · omega
    · rw [List.getElem?_eq_none (by omega)] at hj; cases hj
  exact h j z this hj

set_option maxRecDepth 100000 in
set_option maxHeartbeats 4000000 in
theorem proofOf_c (HQ : Hid EqMaps) (a : Option Addr) (n cap : Nat) (zs : List RuleI) (r : RoI) (p d : Int) (ls : List Int) (w : World) (h : RulesIn w a n zs) (hn : n ≤ 16) (hz : ∀ z ∈ zs, ruleCode z = 0) (hp0 : 1 ≤ p) (hp1 : p ≤ 8)
    (HA : Hid (∀ k : Nat, (∀ j, j < k → noneHit zs (ofG (itG zs j)) r p) → (∀ x : Int, ¬ noneHit zs (ofG (itG zs k)) r p → hitAt (ofG (itG zs k)) r p zs 0 = x → d = 0 ∧ ls = [(k : Int) + 1, x]) ∧ (noneHit zs (ofG (itG zs k)) r p → stepG zs (itG zs k) = itG zs k → d = 4 ∧ ls = []))) :
    Calls Tryz.prog 16 #[.slice a n cap, .agg #[.int .i64 r.1, .int .i64 r.2], .int .u8 (bitI p)] w fun e w' => ∃ (a' : Option Addr) (cap' : Nat), e = .returned (.agg #[.int .i64 d, .slice a' ls.length cap']) ∧ w'.ownsRow w.heap.size 2 1 (.slice a' ls.length cap') ls.length (ls.map (Value.int .i64)) ∧ Below w.heap.size w w' := by
  obtain ⟨W, hW⟩ : ∃ W, W = ((w.alloc (.cells #[.int .i64 r.1, .int .i64 r.2] 26)).alloc (.cells #[.int .i64 0, .slice none 0 0] 31)).alloc (.map #[] 0) := ⟨_, rfl⟩
  have hs : W.heap.size = w.heap.size + 3 := by rw [hW]; simp
  have B0 : Below w.heap.size w W := by rw [hW]; exact (((Below.refl _ _).alloc (Nat.le_refl _) _).alloc (by simp) _).alloc (by simp; omega) _
  have hG0 : GM W (w.heap.size + 2) zeroF := by
    have := gm_made ((w.alloc (.cells #[.int .i64 r.1, .int .i64 r.2] 26)).alloc (.cells #[.int .i64 0, .slice none 0 0] 31))
    simp only [World.size_alloc] at this
    rw [hW]
    exact this
  have hmk : (Instr.makeMap 58 none).run Tryz.prog ((w.alloc (.cells #[.int .i64 r.1, .int .i64 r.2] 26)).alloc (.cells #[.int .i64 0, .slice none 0 0] 31)) = .ok (.map (some (w.heap.size + 2))) W := by
    rw [hW]
    have := run_makeMap (P := Tryz.prog) 58 ((w.alloc (.cells #[.int .i64 r.1, .int .i64 r.2] 26)).alloc (.cells #[.int .i64 0, .slice none 0 0] 31))
    simp only [World.size_alloc] at this
    exact this
  have hBm : Below ((w.alloc (.cells #[.int .i64 r.1, .int .i64 r.2] 26)).alloc (.cells #[.int .i64 0, .slice none 0 0] 31)).heap.size ((w.alloc (.cells #[.int .i64 r.1, .int .i64 r.2] 26)).alloc (.cells #[.int .i64 0, .slice none 0 0] 31)) W := by rw [hW]; exact (Below.refl _ _).alloc (Nat.le_refl _) _
  have r0 : W.cell? ⟨w.heap.size, 0, none⟩ = some (.int .i64 r.1) := (hBm.cell (p := ⟨w.heap.size, 0, none⟩) (by simp; omega)).trans (by simp)
  have r1 : W.cell? ⟨w.heap.size, 1, none⟩ = some (.int .i64 r.2) := (hBm.cell (p := ⟨w.heap.size, 1, none⟩) (by simp; omega)).trans (by simp)
  have c0 : W.cell? ⟨w.heap.size + 1, 0, none⟩ = some (.int .i64 0) := (hBm.cell (p := ⟨w.heap.size + 1, 0, none⟩) (by simp)).trans (by simp)
  have c1 : W.cell? ⟨w.heap.size + 1, 1, none⟩ = some (.slice none 0 0) := (hBm.cell (p := ⟨w.heap.size + 1, 1, none⟩) (by simp)).trans (by simp)
  have f0 : ∀ j, W.frozen? ⟨w.heap.size + 1, j, none⟩ = false := fun j => (hBm.frozen (p := ⟨w.heap.size + 1, j, none⟩) (by simp)).trans (by simp [go_sem])
  clear hBm
  have hlw : w.heap.size + 1 < W.heap.size := by omega
  have hlw0 : w.heap.size < W.heap.size := by omega
  have HB0 : Hid (Below w.heap.size w W) := B0
  have HR : Hid (RulesIn W a n zs) := h.below B0
  have HN : Hid (zs.length = n) := h.1
  have HZ : Hid (∀ z ∈ zs, ruleCode z = 0) := hz
  have HK : Hid (∀ z ∈ zs, okR z) := fun z q => (okR_of (hz z q)).1
  have HG0 : Hid (GM W (w.heap.size + 2) zeroF) := hG0
  have hn' : (n : Int) ≤ 16 := by omega
  clear h hz hG0
  go_enter Tryz.func16, Tryz.ntmps16
  go_wp2
  rw [← hW]
  clear hW hmk hs
  go_loopw [7, 8] (fun mp s wr => ∃ k b : Nat, mp = .map (some b) ∧ s = .int .i64 ((k : Int) + 1) ∧ GM wr b (ofG (itG zs k)) ∧ (∀ j, j < k → noneHit zs (ofG (itG zs j)) r p) ∧ (∀ j, j < k → stepG zs (itG zs j) ≠ itG zs j) ∧ Below W.heap.size W wr) (fun _ s _ => 10202 - (intOf s).toNat)
  case atStart => exact ⟨0, w.heap.size + 2, rfl, rfl, HG0.out, fun j hj => by omega, fun j hj => by omega, Below.refl _ _⟩
  case round =>
    obtain ⟨k, b, rfl, rfl, hG, hno, hst, hnx⟩ := hrel
    have hkb : k ≤ 10200 := it_bd HK.out hst
    have hkb' : (k : Int) ≤ 10200 := by omega
    have HG : Hid (GM wr b (ofG (itG zs k))) := hG
    have HNo : Hid (∀ j, j < k → noneHit zs (ofG (itG zs j)) r p) := hno
    have HSt : Hid (∀ j, j < k → stepG zs (itG zs j) ≠ itG zs j) := hst
    clear hG hno hst
    obtain ⟨V, rfl⟩ : ∃ V, V = wr := ⟨_, rfl⟩
    go_wp2
    go_loopw [17] (fun i wi => ∃ j : Nat, j ≤ n ∧ i = .int .i64 (j : Int) ∧ (∀ j' y, j' < j → zs[j']? = some y → hitB (ofG (itG zs k)) r p y = false) ∧ Below V.heap.size V wi) (fun i _ => n - (intOf i).toNat)
    case atStart => exact ⟨0, Nat.zero_le _, rfl, fun j' y hj => by omega, Below.refl _ _⟩
    case round =>
      obtain ⟨j, hj, rfl, hbef, hni⟩ := hrel
      have HBf : Hid (∀ j' y, j' < j → zs[j']? = some y → hitB (ofG (itG zs k)) r p y = false) := hbef
      have hWi : Below W.heap.size W wr := hnx.trans (hni.mono hnx.size)
      clear hbef
      by_cases hlt : j < n
      · obtain ⟨g, off, z, e, hzk, hra⟩ := (HR.out.below hWi).at hlt
        subst e
        have hzc : ruleCode z = 0 := HZ.out z (List.mem_of_getElem? hzk)
        have hby : setB (byF (ofG (itG zs k)) z) := byF_set (ofG_set (sg_it HK.out k)) (HK.out z (List.mem_of_getElem? hzk))
        have HT : Hid (∀ X : World, Below wr.heap.size wr X → Calls Tryz.prog 38 #[.map (some b), .agg #[.int .i64 z.k, .int .i64 z.ho, .int .i64 z.hn, .int .i64 z.w, .int .i64 z.oo, .int .i64 z.on, .int .i64 z.to, .int .i64 z.tn]] X fun e w' => e = .returned (.int .u8 (byF (ofG (itG zs k)) z)) ∧ Below X.heap.size X w') := fun X hX => told_c b _ z X ((HG.out.below HG.out.lt hni).below (by have := HG.out.lt; have := hni.size; omega) hX) hzc
        have HH := hitB_eq (ofG (itG zs k)) r p z
        have e2 : (bits .and .u8 (byF (ofG (itG zs k)) z) (bitI p) != 0) = hasI (byF (ofG (itG zs k)) z) p := and_u8 _ p hby.1 hby.2 hp0 hp1
        generalize byF (ofG (itG zs k)) z = bz at HT HH e2
        have HZk : Hid (zs[j]? = some z) := hzk
        have HNX : Hid (hitB (ofG (itG zs k)) r p z = false → ∀ j' y, j' < j + 1 → zs[j']? = some y → hitB (ofG (itG zs k)) r p y = false) := fun q j' y hj' hy => by
          by_cases ej : j' = j
          · subst ej; rw [HZk.out] at hy; cases hy; exact q
          · exact HBf.out j' y (by omega) hy
        obtain ⟨h0, h1, h2, h3, h4, h5, h6, h7⟩ := hra
        have hlt' : (j : Int) < (n : Int) := by omega
        have heq : ∀ w, (binOp .eql 26 (.agg #[.int .i64 z.ho, .int .i64 z.hn]) (.agg #[.int .i64 r.1, .int .i64 r.2])).run Tryz.prog w = .ok (.bool (eqRo (z.ho, z.hn) r)) w := fun w => ro_eql (z.ho, z.hn) r w
        have hA : Below wr.heap.size wr (wr.alloc (.cells #[.int .i64 z.k, .int .i64 z.ho, .int .i64 z.hn, .int .i64 z.w, .int .i64 z.oo, .int .i64 z.on, .int .i64 z.to, .int .i64 z.tn] 35)) := (Below.refl _ _).alloc (Nat.le_refl _) _
        have q0 := (hWi.cell (p := ⟨w.heap.size, 0, none⟩) hlw0).trans r0
        have q1 := (hWi.cell (p := ⟨w.heap.size, 1, none⟩) hlw0).trans r1
        have hlz : w.heap.size < wr.heap.size := Nat.lt_of_lt_of_le hlw0 hWi.size
        have hVs := hni.size
        clear hzk hzc hby
        cases he : eqRo (z.ho, z.hn) r
        · rw [he] at heq
          have HN1 := HNX.out (by rw [HH, he]; rfl)
          have HN2 : Hid _ := HN1
          clear HN1 HH e2
          go_wp2_with fail
          exact ⟨⟨j + 1, by omega, by go_num, HN2.out, hni.trans (hA.mono hVs)⟩, by simp [intOf]; omega⟩
        · rw [he] at heq
          obtain ⟨t, ht⟩ : ∃ t, hasI bz p = t := ⟨_, rfl⟩
          rw [ht] at e2
          rw [he, ht, Bool.true_and] at HH
          clear ht
          cases t
          · have HN2 : Hid _ := HNX.out HH
            clear HH
            go_wp2_with (first | (go_at_call 38; refine (HT.out _ hA).mono ?_; rintro e w3 ⟨rfl, hb3⟩) | fail)
            exact ⟨⟨j + 1, by omega, by go_num, HN2.out, (hni.trans (hA.mono hVs)).trans (hb3.mono (by simp; omega))⟩, by simp [intOf]; omega⟩
          · have HD : Hid (d = 0 ∧ ls = [(k : Int) + 1, (j : Int)]) := by
              refine (HA.out k HNo.out).1 (j : Int) (fun q => ?_) ?_
              · have := q z (List.mem_of_getElem? HZk.out); rw [HH] at this; cases this
              · have := hit_here j z HZk.out HBf.out HH 0
                rw [this]; simp
            clear HH
            go_upto_region 8 with (first | (go_at_call 38; refine (HT.out _ hA).mono ?_; rintro e w3 ⟨rfl, hb3⟩) | fail)
            have hAW := hWi.trans (hA.mono hWi.size)
            have hb4 : Below W.heap.size W w3 := hAW.trans (hb3.mono hAW.size)
            have d0 := (hb4.cell (p := ⟨w.heap.size + 1, 0, none⟩) hlw).trans c0
            have d1 := (hb4.cell (p := ⟨w.heap.size + 1, 1, none⟩) hlw).trans c1
            have g0 := (hb4.frozen (p := ⟨w.heap.size + 1, 0, none⟩) hlw).trans (f0 0)
            have g1 := (hb4.frozen (p := ⟨w.heap.size + 1, 1, none⟩) hlw).trans (f0 1)
            have hw : w.heap.size + 1 < w3.heap.size := Nat.lt_of_lt_of_le hlw hb4.size
            have hBx : Below w.heap.size w w3 := HB0.out.trans (hb4.mono HB0.out.size)
            clear hb3 hAW hA h0 h1 h2 h3 h4 h5 h6 h7 heq e2 q0 q1
            go_wp2
            refine bodyPost_ret (v := .agg #[.int .i64 0, .slice (some ⟨w3.heap.size, 0, none⟩) 2 2]) (by simp [results, Tryz.results16, go_sem, d0, d1, hw]) rfl ⟨some ⟨w3.heap.size, 0, none⟩, 2, by rw [HD.out.1, HD.out.2]; rfl, ?_, ?_⟩
            · have h0 := World.ownsRow_lit (base := w.heap.size) (e := 2) (size := 1) ((w3.setCell ⟨w.heap.size + 1, 0, none⟩ (.int .i64 0)).setCell ⟨w.heap.size + 1, 1, none⟩ (.slice (some ⟨w3.heap.size, 0, none⟩) 2 2)) #[.int .i64 ((k : Int) + 1), .int .i64 (j : Int)] 2 (by simp only [World.size_setCell]; omega) (by unfold maxLen; omega) rfl
              simp only [World.size_setCell] at h0
              rw [HD.out.2]
              exact h0
            · refine Below.alloc (Below.setCell (Below.setCell hBx ?_ _) ?_ _) ?_ _
              · show w.heap.size ≤ w.heap.size + 1; omega
              · show w.heap.size ≤ w.heap.size + 1; omega
              · simp only [World.size_setCell]; exact hBx.size
      · have hjn : j = n := by omega
        subst hjn
        have HNone : Hid (noneHit zs (ofG (itG zs k)) r p) := none_all HN.out HBf.out
        have hGi : GM wr b (ofG (itG zs k)) := HG.out.below HG.out.lt hni
        have HGi : Hid (GM wr b (ofG (itG zs k))) := hGi
        have hbl := hGi.lt
        have HRi : Hid (RulesIn wr a j zs) := HR.out.below hWi
        clear hGi
        go_wp2_with fail
        refine (step_c b _ a j cap zs _ HGi.out HRi.out (by omega) HZ.out).mono ?_
        rintro e w2 ⟨b2, rfl, hG2, hb2g, hb2⟩
        have HE : Hid (stepF zs (ofG (itG zs k)) = ofG (itG zs (k + 1))) := (ofG_step HK.out (sg_it HK.out k)).symm
        have HG2 : Hid (GM w2 b2 (ofG (itG zs (k + 1)))) := by rw [← HE.out]; exact hG2
        have HGo : Hid (GM w2 b (ofG (itG zs k))) := HGi.out.below hbl hb2
        have hW2 : Below W.heap.size W w2 := hWi.trans (hb2.mono hWi.size)
        clear hG2
        go_wp2_with fail
        by_cases hfix : stepG zs (itG zs k) = itG zs k
        · have HD : Hid (d = 4 ∧ ls = []) := (HA.out k HNo.out).2 HNone.out hfix
          refine (HQ.out b2 b _ _ _ HG2.out HGo.out true ⟨fun _ => by show ofG (stepG zs (itG zs k)) = _; rw [hfix], fun _ => rfl⟩).mono ?_
          rintro e w3 ⟨rfl, hb3⟩
          have hb4 : Below W.heap.size W w3 := hW2.trans (hb3.mono hW2.size)
          have d0 := (hb4.cell (p := ⟨w.heap.size + 1, 0, none⟩) hlw).trans c0
          have d1 := (hb4.cell (p := ⟨w.heap.size + 1, 1, none⟩) hlw).trans c1
          have g0 := (hb4.frozen (p := ⟨w.heap.size + 1, 0, none⟩) hlw).trans (f0 0)
          have g1 := (hb4.frozen (p := ⟨w.heap.size + 1, 1, none⟩) hlw).trans (f0 1)
          have hw : w.heap.size + 1 < w3.heap.size := Nat.lt_of_lt_of_le hlw hb4.size
          have hBx : Below w.heap.size w w3 := HB0.out.trans (hb4.mono HB0.out.size)
          clear hb3 hfix
          go_wp2
          refine bodyPost_ret (v := .agg #[.int .i64 4, .slice none 0 0]) (by simp [results, Tryz.results16, go_sem, d0, d1, hw]) rfl ⟨none, 0, by rw [HD.out.1, HD.out.2]; rfl, by rw [HD.out.2]; exact World.ownsRow_nil _ _ _ _, ?_⟩
          refine Below.setCell (Below.setCell hBx ?_ _) ?_ _
          · show w.heap.size ≤ w.heap.size + 1; omega
          · show w.heap.size ≤ w.heap.size + 1; omega
        · refine (HQ.out b2 b _ _ _ HG2.out HGo.out false ⟨fun q => absurd q (by decide), fun q => absurd (sg_ext (sg_step HK.out (sg_it HK.out k)) (sg_it HK.out k) (fun r => congrFun q r)) hfix⟩).mono ?_
          rintro e w3 ⟨rfl, hb3⟩
          have HFx : Hid (stepG zs (itG zs k) ≠ itG zs k) := hfix
          have HG3 : Hid (GM w3 b2 (ofG (itG zs (k + 1)))) := HG2.out.below HG2.out.lt hb3
          have hb4 : Below W.heap.size W w3 := hW2.trans (hb3.mono hW2.size)
          have hk2 : k + 1 ≤ 10200 := it_bd HK.out (fun i hi => by
            by_cases ei : i = k
            · subst ei; exact hfix
            · exact HSt.out i (by omega))
          clear hb3 hfix
          go_wp2
          refine ⟨⟨k + 1, b2, rfl, by go_num, HG3.out, fun i hi => ?_, fun i hi => ?_, hb4⟩, by simp [intOf]; omega⟩
          · by_cases ei : i = k
            · subst ei; exact HNone.out
            · exact HNo.out i (by omega)
          · by_cases ei : i = k
            · subst ei; exact HFx.out
            · exact HSt.out i (by omega)

end Go.Proofs.YtpeddanicenohaaGreat

namespace Go.Proofs.YtpeddanicenohaaGreat
open Go.RowKit Go.Maps
set_option linter.unusedVariables false
set_option linter.unusedSimpArgs false

/-- The entries of a map of grants: one for each role that somebody has. -/
theorem own_es {w : World} {b n : Nat} {D : DataW Unit} {f : RoI → Int} (hf : FN f) (ho : w.ownsMap Tryz.prog 26 elU b n D) (hv : View D f) : ∃ es : List (Lit × DataW Unit), D = .map es ∧ es.Pairwise (fun p q => p.1 ≠ q.1) ∧ (∀ p ∈ es, WideAt.IsKeyLit p.1) ∧ (∀ p ∈ es, ∃ r, f r ≠ 0 ∧ p = (keyL r, .lit (.int .u8 (f r)))) ∧ (∀ r, f r ≠ 0 → (keyL r, (.lit (.int .u8 (f r)) : DataW Unit)) ∈ es) := by
  obtain ⟨es', hD', hne, hks⟩ := ho.entries mp_keyed
  obtain ⟨es, clock, hb, F, hs, hD⟩ := ho
  have hkeys : ∀ p ∈ es', ∃ r, roW r ∧ p.1 = keyL r := by
    intro p hp
    have hp' : p ∈ es.toList.map (WideElems.rg Tryz.prog 26 elU) := by
      rw [hD] at hD'
      have := (DataW.map.inj hD').symm
      rw [this] at hp
      exact mem_sorted.1 hp
    obtain ⟨v, hvv⟩ := fit_keys F p hp'
    obtain ⟨r, hr, _, e⟩ := key_inv hvv
    exact ⟨r, hr, e⟩
  clear hb F hs hD
  have hval : ∀ p ∈ es', ∀ r, roW r → p.1 = keyL r → p.2 = .lit (.int .u8 (f r)) := by
    intro p hp r hr e
    have h1 := WideAt.atKey_mem (.lit (.int .u8 0)) (hks p hp) hne (show (p.1, p.2) ∈ es' from hp)
    have h2 := hv.at' r hr
    rw [hD', ← e] at h2
    rw [← h1]
    exact h2
  refine ⟨es', hD', hne, hks, fun p hp => ?_, fun r hr => ?_⟩
  · obtain ⟨r, hr, e⟩ := hkeys p hp
    refine ⟨r, ?_, Prod.ext e (hval p hp r hr e)⟩
    have h1 := hv.has r hr
    rw [hD', has_eq] at h1
    have : (es'.any fun p => p.1.sameKey (keyL r)) = true := List.any_eq_true.2 ⟨p, hp, by rw [e]; exact WideAt.sameKey_self (keyL_key r)⟩
    rw [this] at h1
    exact of_decide_eq_true h1.symm
  · have hw := roW_of (hf.ro r hr)
    have h1 := hv.has r hw
    rw [hD', has_eq, show decide (f r ≠ 0) = true from decide_eq_true hr] at h1
    obtain ⟨p, hp, hsk⟩ := List.any_eq_true.1 h1
    have e : p.1 = keyL r := WideAt.sameKey_eq hsk
    have := hval p hp r hw e
    rw [← e, ← this]
    exact hp

def eqd8 : DataW Unit → DataW Unit → Bool
  | .lit (.int .u8 a), .lit (.int .u8 b) => decide (a = b)
  | _, _ => false

theorem equal_iff {w w' : World} {b1 b2 n1 n2 : Nat} {D1 D2 : DataW Unit} {f1 f2 : RoI → Int} (hf1 : FN f1) (hf2 : FN f2) (h1 : w.ownsMap Tryz.prog 26 elU b1 n1 D1) (h2 : w'.ownsMap Tryz.prog 26 elU b2 n2 D2) (hv1 : View D1 f1) (hv2 : View D2 f2) : Lib.equalFuncD eqd8 D1 D2 = true ↔ f1 = f2 := by
  obtain ⟨es1, rfl, hap1, hk1, hm1, hc1⟩ := own_es hf1 h1 hv1
  obtain ⟨es2, rfl, hap2, hk2, hm2, hc2⟩ := own_es hf2 h2 hv2
  have hn1 : (es1.map Prod.fst).Nodup := List.pairwise_map.2 hap1
  have hn2 : (es2.map Prod.fst).Nodup := List.pairwise_map.2 hap2
  have good : ∀ r, f1 r ≠ 0 → (Lib.goodD eqd8 (.map es2) (keyL r, .lit (.int .u8 (f1 r))) = true ↔ f2 r = f1 r) := by
    intro r hr
    have hw := roW_of (hf1.ro r hr)
    unfold Lib.goodD
    rw [hv2.has r hw]
    by_cases e : f2 r = 0
    · rw [show decide (f2 r ≠ 0) = false by simp [e]]
      simp
      intro q; rw [q] at e; exact hr e
    · rw [show decide (f2 r ≠ 0) = true from decide_eq_true e]
      rw [atKey_indep (z := .nil) (z' := .lit (.int .u8 0)) (by rw [hv2.has r hw]; exact decide_eq_true e), hv2.at' r hw]
      simp [eqd8, eq_comm]
  unfold Lib.equalFuncD
  rw [Bool.and_eq_true, decide_eq_true_iff, size_eq, size_eq, List.all_eq_true]
  constructor
  · rintro ⟨hs, hall⟩
    have h12 : ∀ r, f1 r ≠ 0 → f2 r = f1 r := fun r hr => (good r hr).1 (hall _ (hc1 r hr))
    funext r
    by_cases h : f1 r = 0
    · by_cases e : f2 r = 0
      · rw [h, e]
      · exfalso
        have hnd : (keyL r :: es1.map Prod.fst).Nodup := by
          refine List.nodup_cons.2 ⟨fun q => ?_, hn1⟩
          obtain ⟨p, hp, ep⟩ := List.mem_map.1 q
          obtain ⟨r', hr', rfl⟩ := hm1 p hp
          have := keyL_inj (roW_of (hf1.ro r' hr')) (roW_of (hf2.ro r e)) ep
          rw [this] at hr'
          exact hr' h
        have := @nodup_len Lit (fun _ _ => Classical.propDecidable _) (keyL r :: es1.map Prod.fst) (es2.map Prod.fst) hnd (fun x hx => by
          rcases List.mem_cons.1 hx with rfl | hx
          · exact List.mem_map.2 ⟨_, hc2 r e, rfl⟩
          · obtain ⟨p, hp, rfl⟩ := List.mem_map.1 hx
            obtain ⟨r', hr', rfl⟩ := hm1 p hp
            exact List.mem_map.2 ⟨_, hc2 r' (by rw [h12 r' hr']; exact hr'), rfl⟩)
        simp at this
        omega
    · exact (h12 r h).symm
  · rintro rfl
    refine ⟨Nat.le_antisymm ?_ ?_, fun p hp => ?_⟩
    · have := @nodup_len Lit (fun _ _ => Classical.propDecidable _) (es1.map Prod.fst) (es2.map Prod.fst) hn1 (fun x hx => by
        obtain ⟨p, hp, rfl⟩ := List.mem_map.1 hx
        obtain ⟨r', hr', rfl⟩ := hm1 p hp
        exact List.mem_map.2 ⟨_, hc2 r' hr', rfl⟩)
      simpa using this
    · have := @nodup_len Lit (fun _ _ => Classical.propDecidable _) (es2.map Prod.fst) (es1.map Prod.fst) hn2 (fun x hx => by
        obtain ⟨p, hp, rfl⟩ := List.mem_map.1 hx
        obtain ⟨r', hr', rfl⟩ := hm2 p hp
        exact List.mem_map.2 ⟨_, hc1 r' hr', rfl⟩)
      simpa using this
    · obtain ⟨r, hr, rfl⟩ := hm1 p hp
      exact (good r hr).2 rfl

set_option maxHeartbeats 4000000 in
set_option maxRecDepth 100000 in
theorem eqMaps_c : EqMaps := by
  intro b1 b2 f1 f2 w h1 h2 t ht
  obtain ⟨hf1, D1, n1, ho1, hv1⟩ := h1
  obtain ⟨hf2, D2, n2, ho2, hv2⟩ := h2
  have hres : Lib.equalFuncD eqd8 D1 D2 = t := by
    rw [Bool.eq_iff_iff, ht]; exact equal_iff hf1 hf2 ho1 ho2 hv1 hv2
  have l1 := fun ty => ho1.len (t := 58) mp_map ty
  have l2 := fun ty => ho2.len (t := 58) mp_map ty
  obtain ⟨es1, rfl, hap, hkeys⟩ := ho1.entries mp_keyed
  have hb2 := ho2.lt
  have RES : Hid (Lib.equalFuncD eqd8 (.map es1) D2 = t) := hres
  have HAP : Hid (es1.Pairwise (fun p q => p.1 ≠ q.1) ∧ ∀ p ∈ es1, WideAt.IsKeyLit p.1) := ⟨hap, hkeys⟩
  have HV2 : Hid (View D2 f2) := hv2
  clear hres ht hv1 hv2 hf1 hf2 hap hkeys
  by_cases hsz : Maps.size (.map es1 : DataW Unit) = Maps.size D2
  · go_enter Tryz.func39, Tryz.ntmps39
    go_wp2_with (first
      | (at_range; refine wpList_range_own _ rfl _ 58 rfl 26 48 mp_keyed mp_map elU b1 n1 _ rfl ho1 ?_; intro w0 hrg0 hg0 hs0)
      | go_in)
    go_frame
    go_loopw [16] (fun _ wr => ∃ (left : Lit → Bool) (cnt : Nat), wr.ranges Tryz.prog 26 elU b1 w.heap.size n1 (.map es1) left cnt ∧ wr.ownsMap Tryz.prog 26 elU b2 n2 D2 ∧ w.grownBy wr none ∧ Hid (GoodAt eqd8 es1 D2 left))
      (fun _ wr => wr.rangeLeft b1 w.heap.size)
    case atStart => exact ⟨_, _, hrg0, ho2.kept hg0 (by simp), hg0, good_start HAP.out.2 D2⟩
    case round =>
      obtain ⟨left, cnt, hrg, h2r, hgw, G⟩ := hrel
      go_wp2_with (first
        | (at_next; refine wpList_next_ranges _ rfl _ rfl 26 mp_keyed elU roV (Value.int .u8) (fun key kl hk => by obtain ⟨r, _, hr, _⟩ := key_inv hk; exact ⟨r, hr⟩) (fun v y hv => by obtain ⟨c, rfl, _⟩ := plainElem_int_inv mp_set hv; exact ⟨c, rfl⟩) b1 w.heap.size n1 _ _ _ rfl hrg ?_ ?_)
        | go_in)
      · intro _ hl0
        go_wp2
        go_ret
        exact ⟨by rw [← RES.out, all_good G.out hl0 hsz]; rfl, (Below.refl _ _).grown hgw (Nat.le_refl _) (fun k e => by cases e)⟩
      · intro o nm c kl yd yp w1 cnt1 hkey hlx hv hat hrg1 hlt hg1 hs1 hen
        obtain ⟨r, hr, ex, rfl⟩ := key_inv hkey
        obtain rfl : (o, nm) = r := by simp at ex; exact Prod.ext ex.1 ex.2
        obtain ⟨c', ec, ez, hwc⟩ := plainElem_int_inv mp_set hv
        cases ec
        obtain ⟨rfl, rfl⟩ : yd = .lit (.int .u8 c) ∧ yp = [] := by cases ez; exact ⟨rfl, rfl⟩
        simp only [roV] at hen
        have hgw1 : w.grownBy w1 none := hgw.andThen hg1 (fun j hj => by cases hj; exact Or.inl (Nat.le_refl _))
        have h2w1 := h2r.kept hg1 (fun e => by have := Option.some.inj e; omega)
        have hgw2 : w.grownBy (w1.alloc (.cells #[.int .i64 o, .int .i64 nm] 26)) none := hgw1.andThen (World.grownBy_alloc _ _ none) (fun j hj => by cases hj)
        have h2w2 : (w1.alloc (.cells #[.int .i64 o, .int .i64 nm] 26)).ownsMap Tryz.prog 26 elU b2 n2 D2 := h2w1.kept (World.grownBy_alloc _ _ none) (by simp)
        have hrg2 := hrg1.alloc (.cells #[.int .i64 o, .int .i64 nm] 26)
        have HAT : Hid (∀ zd, (DataW.map es1).atKey (keyL (o, nm)) zd = .lit (.int .u8 c)) := hat
        have HM : Hid (wr.rangeLeft b1 w.heap.size = cnt ∧ cnt1 < cnt) := ⟨hrg.left_eq, hlt⟩
        have HR2 : Hid ((w1.alloc (.cells #[.int .i64 o, .int .i64 nm] 26)).ranges Tryz.prog 26 elU b1 w.heap.size n1 (.map es1) (fun z => left z && !z.sameKey (keyL (o, nm))) cnt1) := hrg2
        have HG2 : Hid (w.grownBy (w1.alloc (.cells #[.int .i64 o, .int .i64 nm] 26)) none) := hgw2
        clear hat hv ez hwc hg1 hgw hgw1 hgw2 hrg hrg1 hrg2 h2r h2w1 hs1 hlx
        cases hh : Maps.has D2 (keyL (o, nm))
        · have hbad : Lib.goodD eqd8 D2 (keyL (o, nm), .lit (.int .u8 c)) = false := by unfold Lib.goodD; rw [hh]; rfl
          go_wp2_with (first
            | (at_lookup; refine wpList_lookup_own_ok_int _ rfl _ _ 58 rfl 26 48 .u8 mp_keyed mp_map mp_set (mp_zero _) b2 n2 D2 rfl h2w2 _ (keyL (o, nm)) rfl (key_of hr) ?_; intro c2 hc2 hwc2; rw [hh]; go_frame)
            | go_in)
          go_ret
          exact ⟨by rw [← RES.out, bad_false HAP.out.1 HAP.out.2 HAT.out hbad]; rfl, (Below.refl _ _).grown HG2.out (Nat.le_refl _) (fun k e => by cases e)⟩
        · obtain ⟨d, hd⟩ : ∃ d, f2 (o, nm) = d := ⟨_, rfl⟩
          have HD2 : Hid (D2.atKey (keyL (o, nm)) (.lit (.int .u8 0)) = .lit (.int .u8 d)) := by rw [← hd]; exact HV2.out.at' _ hr
          have HGD : Hid (Lib.goodD eqd8 D2 (keyL (o, nm), .lit (.int .u8 c)) = decide (c = d)) := by
            unfold Lib.goodD; rw [hh, atKey_indep hh .nil (.lit (.int .u8 0)), HD2.out]; rfl
          clear hd
          by_cases he : c = d
          · have hb : (c != d) = false := by simp [he]
            have HGO : Hid (Lib.goodD eqd8 D2 (keyL (o, nm), .lit (.int .u8 c)) = true) := by rw [HGD.out]; exact decide_eq_true he
            clear he
            go_wp2_with (first
              | (at_lookup; refine wpList_lookup_own_ok_int _ rfl _ _ 58 rfl 26 48 .u8 mp_keyed mp_map mp_set (mp_zero _) b2 n2 D2 rfl h2w2 _ (keyL (o, nm)) rfl (key_of hr) ?_; intro c2 hc2 hwc2; obtain rfl : d = c2 := (by have := HD2.out.symm.trans hc2; cases this; rfl); clear hc2; rw [hh]; go_frame)
              | go_in)
            refine ⟨⟨_, cnt1, HR2.out, h2w2, HG2.out, good_step HAP.out.1 HAP.out.2 HAT.out G.out HGO.out⟩, ?_⟩
            rw [HR2.out.left_eq, HM.out.1]; exact HM.out.2
          · have hb : (c != d) = true := by simp [he]
            have HBD : Hid (Lib.goodD eqd8 D2 (keyL (o, nm), .lit (.int .u8 c)) = false) := by rw [HGD.out]; exact decide_eq_false he
            clear he
            go_wp2_with (first
              | (at_lookup; refine wpList_lookup_own_ok_int _ rfl _ _ 58 rfl 26 48 .u8 mp_keyed mp_map mp_set (mp_zero _) b2 n2 D2 rfl h2w2 _ (keyL (o, nm)) rfl (key_of hr) ?_; intro c2 hc2 hwc2; obtain rfl : d = c2 := (by have := HD2.out.symm.trans hc2; cases this; rfl); clear hc2; rw [hh]; go_frame)
              | go_in)
            go_ret
            exact ⟨by rw [← RES.out, bad_false HAP.out.1 HAP.out.2 HAT.out HBD.out]; rfl, (Below.refl _ _).grown HG2.out (Nat.le_refl _) (fun k e => by cases e)⟩
  · have hne : ¬ ((Maps.size (.map es1 : DataW Unit) : Int) = (Maps.size D2 : Int)) := fun e => hsz (by exact_mod_cast e)
    go_enter Tryz.func39, Tryz.ntmps39
    go_wp2
    go_ret
    exact ⟨by rw [← RES.out, sizes_false hsz]; rfl, Below.refl _ _⟩

end Go.Proofs.YtpeddanicenohaaGreat
