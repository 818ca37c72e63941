/-
  CONTRACTS: MembersOf of both programs.
  Conditions: each contract bears its own.
-/
import Derived.Test.YtnmidppiakdanaaGo0
import Derived.Test.YtnmidppiakdanaaRol5
import Derived.Test.YtnmidppiakdanaaRole1
namespace Go.Proofs.Ytnmidppiakdanaa
open Go.RowKit
set_option linter.unusedVariables false
set_option linter.unusedSimpArgs false

theorem or64_c (g : Nat) (c d : Int) (w : World) (h0 : w.cell? ⟨g, 0, none⟩ = some (.int .i64 c)) (h1 : w.cell? ⟨g, 1, none⟩ = some (.int .i64 d)) :
    Calls Try.prog 61 #[.slice (some ⟨g, 0, none⟩) 2 2] w fun e w' => e = .returned (.int .i64 (orC c d)) ∧ w = w' := by
  go_enter Try.func61, Try.ntmps61
  go_wp2
  go_loop [8] (fun i => ∃ k : Nat, k ≤ 2 ∧ i = .int .i64 (k : Int) ∧ (1 ≤ k → c = 0) ∧ (2 ≤ k → d = 0)) (fun i => 2 - (intOf i).toNat)
  case atStart => exact ⟨0, by omega, rfl, fun h => by omega, fun h => by omega⟩
  case round =>
    obtain ⟨k, hk, rfl, hc, hd⟩ := hrel
    have hk' : k = 0 ∨ k = 1 ∨ k = 2 := by omega
    rcases hk' with rfl | rfl | rfl
    · clear hc hd
      by_cases e : c = 0
      · have b : (c != 0) = false := by simp [e]
        have HE : Hid (c = 0) := e
        clear e
        go_wp2
        exact ⟨⟨1, by omega, by go_num, fun _ => HE.out, fun h => by omega⟩, by simp [intOf]⟩
      · have b : (c != 0) = true := by simp [e]
        go_wp2
        go_ret
        exact ⟨by simp [orC, e], rfl⟩
    · have HC : Hid (c = 0) := hc (by omega)
      clear hc hd
      by_cases e : d = 0
      · have b : (d != 0) = false := by simp [e]
        have HE : Hid (d = 0) := e
        clear e
        go_wp2
        exact ⟨⟨2, by omega, by go_num, fun _ => HC.out, fun _ => HE.out⟩, by simp [intOf]⟩
      · have b : (d != 0) = true := by simp [e]
        go_wp2
        go_ret
        exact ⟨by simp [orC, HC.out], rfl⟩
    · have HC : Hid (c = 0) := hc (by omega)
      have HD : Hid (d = 0) := hd (by omega)
      clear hc hd
      go_wp2
      go_ret
      exact ⟨by simp [orC, HC.out, HD.out], rfl⟩

theorem kp_new {W w : World} (h : (∀ b o, b < W.heap.size → w.cell? ⟨b, o, none⟩ = W.cell? ⟨b, o, none⟩) ∧ Below W.heap.size W w) (o : Obj) : (∀ b i, b < W.heap.size → (w.alloc o).cell? ⟨b, i, none⟩ = W.cell? ⟨b, i, none⟩) ∧ Below W.heap.size W (w.alloc o) :=
  kp_step h ((Below.refl _ _).alloc (Nat.le_refl _) _)

theorem allRo_ss : SS allRo := by
  unfold SS
  decide

theorem fn_list {f : RoI → Int} (h : FN f) : ∃ gs, SG gs ∧ ofG gs = f := by
  refine ⟨_, sg_keys h (rs := allRo.filter (fun r => decide (f r ≠ 0))) ?_ (fun r => ?_)⟩
  · exact List.Pairwise.sublist List.filter_sublist allRo_ss
  · rw [List.mem_filter]
    exact ⟨fun q => of_decide_eq_true q.2, fun q => ⟨mem_allRo (h.ro r q), decide_eq_true q⟩⟩

theorem gm_list {w : World} {b : Nat} {f : RoI → Int} (h : GM w b f) : ∃ gs, SG gs ∧ ofG gs = f := fn_list h.fn

/-- The fault of the arguments: the policy's, then the role's. -/
def memCode (zs : List RuleI) (r : RoI) : Int := orC (polCode zs) (roleCode r.1 r.2)

def GivesI (f : Nat) (a : Option Addr) (n cap : Nat) (r : RoI) (c v : Int) (w : World) : Prop := Calls Try.prog f #[.slice a n cap, .agg #[.int .i64 r.1, .int .i64 r.2]] w fun e w' => e = .returned (.agg #[.int .i64 c, .int .i64 v]) ∧ Below w.heap.size w w'

set_option maxRecDepth 100000 in
set_option maxHeartbeats 1000000 in
theorem implMembersOf_bad (a : Option Addr) (n cap : Nat) (zs : List RuleI) (r : RoI) (c : Int) (w : World) (hn : n ≤ 1048576) (hcap : n ≤ cap) (hcm : cap ≤ maxLen) (h : RulesIn w a n zs) (hc : memCode zs r = c) (h0 : c ≠ 0) : GivesI 20 a n cap r c 0 w := by
  obtain ⟨W, hW⟩ : ∃ W, W = (w.alloc (.cells #[.int .i64 r.1, .int .i64 r.2] 35)).alloc (.cells #[.int .i64 0, .int .i64 0] 39) := ⟨_, rfl⟩
  have hs : W.heap.size = w.heap.size + 2 := by rw [hW]; simp
  have B0 : Below w.heap.size w W := by rw [hW]; exact ((Below.refl _ _).alloc (Nat.le_refl _) _).alloc (by simp) _
  have r0 : W.cell? ⟨w.heap.size, 0, none⟩ = some (.int .i64 r.1) := by rw [hW]; simp
  have r1 : W.cell? ⟨w.heap.size, 1, none⟩ = some (.int .i64 r.2) := by rw [hW]; simp
  have c0 : W.cell? ⟨w.heap.size + 1, 0, none⟩ = some (.int .i64 0) := by rw [hW]; simp
  have c1 : W.cell? ⟨w.heap.size + 1, 1, none⟩ = some (.int .i64 0) := by rw [hW]; simp
  have f0 : ∀ j, W.frozen? ⟨w.heap.size + 1, j, none⟩ = false := fun j => by rw [hW]; simp [go_sem]
  have HP : Hid (∀ w2 : World, (∀ b o, b < W.heap.size → w2.cell? ⟨b, o, none⟩ = W.cell? ⟨b, o, none⟩) ∧ Below W.heap.size W w2 → Calls Try.prog 24 #[.slice a n cap] w2 fun e w' => e = .returned (.int .i64 (polCode zs)) ∧ Below w2.heap.size w2 w') := fun w2 q => implPolicyFault_c a n cap zs w2 hn hcap hcm (h.below (B0.trans (q.2.mono (by omega))))
  have HC : Hid (orC (polCode zs) (roleCode r.1 r.2) = c) := hc
  clear h hc
  have hcn : (c != 0) = true := by simpa using h0
  generalize polCode zs = p at HP HC
  generalize hq : roleCode r.1 r.2 = q at HC
  unfold GivesI
  go_enter Try.func20, Try.ntmps20
  go_wp2
  rw [← hW]
  clear hW
  go_region_held3 (fun w' => (∀ b o, b < W.heap.size → w'.cell? ⟨b, o, none⟩ = W.cell? ⟨b, o, none⟩) ∧ Below W.heap.size W w') (first | exact hS | exact kp_drew _ | exact kp_new (by assumption) _)
    (first | (go_at_call 24; refine (HP.out _ (by assumption)).mono ?_; rintro e w' ⟨rfl, hb2⟩; have hS := kp_step (by assumption) hb2) | (go_at_call 68; refine (implRoleFault_c _ _ _).mono ?_; rintro e w' ⟨rfl, hb2⟩; rw [hq]; have hS := kp_step (by assumption) hb2) | (go_at_call 61; refine (or64_c _ p q _ ?_ ?_).mono ?_; (· simp [go_sem]); (· simp [go_sem]); rintro e w' ⟨rfl, rfl⟩))
  all_goals
    have hS3 := kp_new hS (.cells #[.int .i64 p, .int .i64 q] 2)
    rw [HC.out]
    generalize w'.alloc (.cells #[.int .i64 p, .int .i64 q] 2) = w3 at hS3 ⊢
    have hz3 := hS3.2.size
    have hw : w.heap.size + 1 < w3.heap.size := by omega
    have d0 := (hS3.1 (w.heap.size + 1) 0 (by omega)).trans c0
    have d1 := (hS3.1 (w.heap.size + 1) 1 (by omega)).trans c1
    have g0 : w3.frozen? ⟨w.heap.size + 1, 0, none⟩ = false := (hS3.2.frozen (p := ⟨w.heap.size + 1, 0, none⟩) (by show w.heap.size + 1 < W.heap.size; omega)).trans (f0 0)
    have g1 : w3.frozen? ⟨w.heap.size + 1, 1, none⟩ = false := (hS3.2.frozen (p := ⟨w.heap.size + 1, 1, none⟩) (by show w.heap.size + 1 < W.heap.size; omega)).trans (f0 1)
    have hBx : Below w.heap.size w w3 := B0.trans (hS3.2.mono (by omega))
    go_wp2
    refine bodyPost_ret (v := .agg #[.int .i64 c, .int .i64 0]) (by simp [results, Try.results20, go_sem, d0, d1, hw]) rfl ⟨rfl, ?_⟩
    exact hBx |>.setCell (by simp) _ |>.setCell (by simp) _

set_option maxRecDepth 100000 in
set_option maxHeartbeats 1000000 in
theorem implMembersOf_ok (a : Option Addr) (n cap : Nat) (zs : List RuleI) (gs : List GrI) (r : RoI) (w : World) (hcap : n ≤ cap) (hcm : cap ≤ maxLen) (h : RulesIn w a n zs) (hc : polCode zs = 0) (hr : roleB r.1 r.2 = true) (hg : AllG zs gs) : GivesI 20 a n cap r 0 (ofG gs r) w := by
  have hn : n ≤ 16 := pol_n16 h.1 hc
  obtain ⟨W, hW⟩ : ∃ W, W = (w.alloc (.cells #[.int .i64 r.1, .int .i64 r.2] 35)).alloc (.cells #[.int .i64 0, .int .i64 0] 39) := ⟨_, rfl⟩
  have hs : W.heap.size = w.heap.size + 2 := by rw [hW]; simp
  have B0 : Below w.heap.size w W := by rw [hW]; exact ((Below.refl _ _).alloc (Nat.le_refl _) _).alloc (by simp) _
  have r0 : W.cell? ⟨w.heap.size, 0, none⟩ = some (.int .i64 r.1) := by rw [hW]; simp
  have r1 : W.cell? ⟨w.heap.size, 1, none⟩ = some (.int .i64 r.2) := by rw [hW]; simp
  have c0 : W.cell? ⟨w.heap.size + 1, 0, none⟩ = some (.int .i64 0) := by rw [hW]; simp
  have c1 : W.cell? ⟨w.heap.size + 1, 1, none⟩ = some (.int .i64 0) := by rw [hW]; simp
  have f0 : ∀ j, W.frozen? ⟨w.heap.size + 1, j, none⟩ = false := fun j => by rw [hW]; simp [go_sem]
  have HP : Hid (∀ w2 : World, (∀ b o, b < W.heap.size → w2.cell? ⟨b, o, none⟩ = W.cell? ⟨b, o, none⟩) ∧ Below W.heap.size W w2 → Calls Try.prog 24 #[.slice a n cap] w2 fun e w' => e = .returned (.int .i64 0) ∧ Below w2.heap.size w2 w') := fun w2 q => by have := implPolicyFault_c a n cap zs w2 (by omega) hcap hcm (h.below (B0.trans (q.2.mono (by omega)))); rwa [hc] at this
  have HT : Hid (∀ w2 : World, Below W.heap.size W w2 → Calls Try.prog 59 #[.slice a n cap] w2.drew fun e w' => ∃ b, e = .returned (.map (some b)) ∧ (Instr.lookup 92 (.map (some b)) (.agg #[.int .i64 r.1, .int .i64 r.2]) false).run Try.prog w' = .ok (.int .u8 (ofG gs r)) w' ∧ Below W.heap.size W w') := fun w2 q => by
    refine (settle_c a n cap zs w2.drew (h.below (B0.trans (q.drew.mono (by omega)))) hn hc).mono ?_
    rintro e w' ⟨b, f, rfl, hG, hWk, hb, hb2⟩
    have e : ofG gs = f := by
      obtain ⟨gs', h1, h2⟩ := gm_list hG
      have := allG_unique (work_end (fun z hz => ((pol_ok hc).2 z hz).1) hWk h1 h2) hg
      rw [← this]; exact h2
    subst e
    exact ⟨b, rfl, gm_look hG (roW_of hr), q.drew.trans (hb2.mono (by have := q.size; exact this))⟩
  have hwrap : IntKind.i64.wrap (ofG gs r) = ofG gs r := by
    have := (ofG_set hg.sg r).1
    have := (ofG_set hg.sg r).2
    rw [IntKind.wrap_i64]; omega
  have hq : roleCode r.1 r.2 = 0 := by simp [roleCode, hr]
  clear h hc
  generalize ofG gs r = v at HT hwrap ⊢
  unfold GivesI
  go_enter Try.func20, Try.ntmps20
  go_wp2
  rw [← hW]
  clear hW
  go_region_held3 (fun w' => (∀ b o, b < W.heap.size → w'.cell? ⟨b, o, none⟩ = W.cell? ⟨b, o, none⟩) ∧ Below W.heap.size W w') (first | exact hS | exact kp_drew _ | exact kp_new (by assumption) _)
    (first | (go_at_call 24; refine (HP.out _ (by assumption)).mono ?_; rintro e w' ⟨rfl, hb2⟩; have hS := kp_step (by assumption) hb2) | (go_at_call 68; refine (implRoleFault_c _ _ _).mono ?_; rintro e w' ⟨rfl, hb2⟩; rw [hq]; have hS := kp_step (by assumption) hb2) | (go_at_call 61; refine (or64_c _ 0 0 _ ?_ ?_).mono ?_; (· simp [go_sem]); (· simp [go_sem]); rintro e w' ⟨rfl, rfl⟩))
  all_goals
    have hS3 := kp_new hS (.cells #[.int .i64 0, .int .i64 0] 2)
    rw [show orC 0 0 = 0 from rfl]
    generalize w'.alloc (.cells #[.int .i64 0, .int .i64 0] 2) = w3 at hS3 ⊢
    have hz3 := hS3.2.size
    have q0 := (hS3.1 w.heap.size 0 (by omega)).trans r0
    have q1 := (hS3.1 w.heap.size 1 (by omega)).trans r1
    go_wp2
    go_region_with (first | (go_at_call 59; refine (HT.out _ hS3.2).mono ?_; rintro e w4 ⟨b, rfl, hlk, hb4⟩; have q2 := (hb4.cell (p := ⟨w.heap.size, 0, none⟩) (by show w.heap.size < W.heap.size; omega)).trans r0; have q3 := (hb4.cell (p := ⟨w.heap.size, 1, none⟩) (by show w.heap.size < W.heap.size; omega)).trans r1; have d0 := (hb4.cell (p := ⟨w.heap.size + 1, 0, none⟩) (by show w.heap.size + 1 < W.heap.size; omega)).trans c0; have d1 := (hb4.cell (p := ⟨w.heap.size + 1, 1, none⟩) (by show w.heap.size + 1 < W.heap.size; omega)).trans c1; have g0 := (hb4.frozen (p := ⟨w.heap.size + 1, 0, none⟩) (by show w.heap.size + 1 < W.heap.size; omega)).trans (f0 0); have g1 := (hb4.frozen (p := ⟨w.heap.size + 1, 1, none⟩) (by show w.heap.size + 1 < W.heap.size; omega)).trans (f0 1); have hz4 := hb4.size))
  all_goals
    have hw : w.heap.size + 1 < w4.heap.size := by omega
    have hBx : Below w.heap.size w w4 := B0.trans (hb4.mono (by omega))
    go_wp2
    refine bodyPost_ret (v := .agg #[.int .i64 0, .int .i64 v]) (by simp [results, Try.results20, go_sem, d0, d1, hw]) rfl ⟨rfl, ?_⟩
    exact hBx |>.setCell (by simp) _ |>.setCell (by simp) _

set_option maxHeartbeats 1000000 in
theorem specMembersOf_pol (a : Option Addr) (n cap : Nat) (zs : List RuleI) (r : RoI) (c : Int) (w : World) (hn : n ≤ 1048576) (h : RulesIn w a n zs) (hc : polCode zs = c) (h0 : c ≠ 0) : GivesI 86 a n cap r c 0 w := by
  obtain ⟨W, hW⟩ : ∃ W, W = (w.alloc (.cells #[.int .i64 r.1, .int .i64 r.2] 35)).alloc (.cells #[.int .i64 0, .int .i64 0] 39) := ⟨_, rfl⟩
  have hs : W.heap.size = w.heap.size + 2 := by rw [hW]; simp
  have B0 : Below w.heap.size w W := by rw [hW]; exact ((Below.refl _ _).alloc (Nat.le_refl _) _).alloc (by simp) _
  have r0 : W.cell? ⟨w.heap.size, 0, none⟩ = some (.int .i64 r.1) := by rw [hW]; simp
  have r1 : W.cell? ⟨w.heap.size, 1, none⟩ = some (.int .i64 r.2) := by rw [hW]; simp
  have c0 : W.cell? ⟨w.heap.size + 1, 0, none⟩ = some (.int .i64 0) := by rw [hW]; simp
  have c1 : W.cell? ⟨w.heap.size + 1, 1, none⟩ = some (.int .i64 0) := by rw [hW]; simp
  have f0 : ∀ j, W.frozen? ⟨w.heap.size + 1, j, none⟩ = false := fun j => by rw [hW]; simp [go_sem]
  have hcn : (c != 0) = true := by simpa using h0
  have H : Hid (RulesIn W a n zs) := h.below B0
  have HC : Hid (polCode zs = c) := hc
  clear h hc
  unfold GivesI
  go_enter Try.func86, Try.ntmps86
  go_wp2_with fail
  rw [← hW]
  clear hW
  refine (l2Fault_c a n cap zs _ hn H.out).mono ?_
  rintro e w1 ⟨rfl, hb1⟩
  rw [HC.out]
  have d0 : w1.cell? ⟨w.heap.size + 1, 0, none⟩ = some (.int .i64 0) := (hb1.cell (p := ⟨w.heap.size + 1, 0, none⟩) (by show w.heap.size + 1 < W.heap.size; omega)).trans c0
  have d1 : w1.cell? ⟨w.heap.size + 1, 1, none⟩ = some (.int .i64 0) := (hb1.cell (p := ⟨w.heap.size + 1, 1, none⟩) (by show w.heap.size + 1 < W.heap.size; omega)).trans c1
  have g0 : w1.frozen? ⟨w.heap.size + 1, 0, none⟩ = false := (hb1.frozen (p := ⟨w.heap.size + 1, 0, none⟩) (by show w.heap.size + 1 < W.heap.size; omega)).trans (f0 0)
  have g1 : w1.frozen? ⟨w.heap.size + 1, 1, none⟩ = false := (hb1.frozen (p := ⟨w.heap.size + 1, 1, none⟩) (by show w.heap.size + 1 < W.heap.size; omega)).trans (f0 1)
  have hw : w.heap.size + 1 < w1.heap.size := by have := hb1.size; omega
  have hBx : Below w.heap.size w w1 := B0.trans (hb1.mono (by omega))
  clear hb1
  go_wp2
  refine bodyPost_ret (v := .agg #[.int .i64 c, .int .i64 0]) (by simp [results, Try.results86, go_sem, d0, d1, hw]) rfl ⟨rfl, ?_⟩
  exact hBx |>.setCell (by simp) _ |>.setCell (by simp) _

set_option maxHeartbeats 1000000 in
theorem specMembersOf_role (a : Option Addr) (n cap : Nat) (zs : List RuleI) (r : RoI) (w : World) (hn : n ≤ 1048576) (h : RulesIn w a n zs) (hc : polCode zs = 0) (hr : roleB r.1 r.2 = false) : GivesI 86 a n cap r 3 0 w := by
  obtain ⟨W, hW⟩ : ∃ W, W = (w.alloc (.cells #[.int .i64 r.1, .int .i64 r.2] 35)).alloc (.cells #[.int .i64 0, .int .i64 0] 39) := ⟨_, rfl⟩
  have hs : W.heap.size = w.heap.size + 2 := by rw [hW]; simp
  have B0 : Below w.heap.size w W := by rw [hW]; exact ((Below.refl _ _).alloc (Nat.le_refl _) _).alloc (by simp) _
  have r0 : W.cell? ⟨w.heap.size, 0, none⟩ = some (.int .i64 r.1) := by rw [hW]; simp
  have r1 : W.cell? ⟨w.heap.size, 1, none⟩ = some (.int .i64 r.2) := by rw [hW]; simp
  have c0 : W.cell? ⟨w.heap.size + 1, 0, none⟩ = some (.int .i64 0) := by rw [hW]; simp
  have c1 : W.cell? ⟨w.heap.size + 1, 1, none⟩ = some (.int .i64 0) := by rw [hW]; simp
  have f0 : ∀ j, W.frozen? ⟨w.heap.size + 1, j, none⟩ = false := fun j => by rw [hW]; simp [go_sem]
  have H : Hid (RulesIn W a n zs) := h.below B0
  have HC : Hid (polCode zs = 0) := hc
  obtain ⟨t, ht⟩ : ∃ t, roleB r.1 r.2 = t := ⟨_, rfl⟩
  have HT : Hid (t = false) := ht.symm.trans hr
  clear h hc hr
  unfold GivesI
  go_enter Try.func86, Try.ntmps86
  go_wp2_with fail
  rw [← hW]
  clear hW
  refine (l2Fault_c a n cap zs _ hn H.out).mono ?_
  rintro e w1 ⟨rfl, hb1⟩
  rw [HC.out]
  have hz1 := hb1.size
  have q0 : w1.cell? ⟨w.heap.size, 0, none⟩ = some (.int .i64 r.1) := (hb1.cell (p := ⟨w.heap.size, 0, none⟩) (by show w.heap.size < W.heap.size; omega)).trans r0
  have q1 : w1.cell? ⟨w.heap.size, 1, none⟩ = some (.int .i64 r.2) := (hb1.cell (p := ⟨w.heap.size, 1, none⟩) (by show w.heap.size < W.heap.size; omega)).trans r1
  go_wp2_with fail
  refine (l2Role_c r.1 r.2 _).mono ?_
  rintro e w2 ⟨rfl, hb2'⟩
  rw [ht]
  obtain rfl : t = false := HT.out
  have hb2 : Below W.heap.size W w2 := hb1.trans (hb2'.mono hz1)
  have d0 : w2.cell? ⟨w.heap.size + 1, 0, none⟩ = some (.int .i64 0) := (hb2.cell (p := ⟨w.heap.size + 1, 0, none⟩) (by show w.heap.size + 1 < W.heap.size; omega)).trans c0
  have d1 : w2.cell? ⟨w.heap.size + 1, 1, none⟩ = some (.int .i64 0) := (hb2.cell (p := ⟨w.heap.size + 1, 1, none⟩) (by show w.heap.size + 1 < W.heap.size; omega)).trans c1
  have g0 : w2.frozen? ⟨w.heap.size + 1, 0, none⟩ = false := (hb2.frozen (p := ⟨w.heap.size + 1, 0, none⟩) (by show w.heap.size + 1 < W.heap.size; omega)).trans (f0 0)
  have g1 : w2.frozen? ⟨w.heap.size + 1, 1, none⟩ = false := (hb2.frozen (p := ⟨w.heap.size + 1, 1, none⟩) (by show w.heap.size + 1 < W.heap.size; omega)).trans (f0 1)
  have hw : w.heap.size + 1 < w2.heap.size := by have := hb2.size; omega
  have hBx : Below w.heap.size w w2 := B0.trans (hb2.mono (by omega))
  clear hb1 hb2 hb2' ht
  go_wp2
  refine bodyPost_ret (v := .agg #[.int .i64 3, .int .i64 0]) (by simp [results, Try.results86, go_sem, d0, d1, hw]) rfl ⟨rfl, ?_⟩
  exact hBx |>.setCell (by simp) _ |>.setCell (by simp) _

set_option maxRecDepth 100000 in
set_option maxHeartbeats 1000000 in
theorem specMembersOf_ok (a : Option Addr) (n cap : Nat) (zs : List RuleI) (gs : List GrI) (r : RoI) (w : World) (h : RulesIn w a n zs) (hc : polCode zs = 0) (hr : roleB r.1 r.2 = true) (hg : AllG zs gs) : GivesI 86 a n cap r 0 (ofG gs r) w := by
  have hn : n ≤ 16 := pol_n16 h.1 hc
  obtain ⟨W, hW⟩ : ∃ W, W = (w.alloc (.cells #[.int .i64 r.1, .int .i64 r.2] 35)).alloc (.cells #[.int .i64 0, .int .i64 0] 39) := ⟨_, rfl⟩
  have hs : W.heap.size = w.heap.size + 2 := by rw [hW]; simp
  have B0 : Below w.heap.size w W := by rw [hW]; exact ((Below.refl _ _).alloc (Nat.le_refl _) _).alloc (by simp) _
  have r0 : W.cell? ⟨w.heap.size, 0, none⟩ = some (.int .i64 r.1) := by rw [hW]; simp
  have r1 : W.cell? ⟨w.heap.size, 1, none⟩ = some (.int .i64 r.2) := by rw [hW]; simp
  have c0 : W.cell? ⟨w.heap.size + 1, 0, none⟩ = some (.int .i64 0) := by rw [hW]; simp
  have c1 : W.cell? ⟨w.heap.size + 1, 1, none⟩ = some (.int .i64 0) := by rw [hW]; simp
  have f0 : ∀ j, W.frozen? ⟨w.heap.size + 1, j, none⟩ = false := fun j => by rw [hW]; simp [go_sem]
  have H : Hid (RulesIn W a n zs) := h.below B0
  have HC : Hid (polCode zs = 0) := hc
  have HA : Hid (∀ w2 : World, Below W.heap.size W w2 → Calls Try.prog 65 #[.slice a n cap] w2.drew fun e w' => ∃ g l cap, e = .returned (.slice (some ⟨g, 0, none⟩) l cap) ∧ GrIn w' (some ⟨g, 0, none⟩) l gs ∧ l ≤ 1048576 ∧ Below W.heap.size W w') := fun w2 q => by
    refine (l3All_c a n cap zs w2.drew (h.below (B0.trans (q.drew.mono (by omega)))) (by omega) (pol_ok hc).2).mono ?_
    rintro e w' ⟨g, l, cap', gs', rfl, h1, h2, h3, h4, hb⟩
    obtain rfl := allG_unique h2 hg
    exact ⟨g, l, cap', rfl, h4.read h1, by have := sg_len hg.sg; omega, q.drew.trans (hb.mono q.size)⟩
  obtain ⟨t, ht⟩ : ∃ t, roleB r.1 r.2 = t := ⟨_, rfl⟩
  have HT : Hid (t = true) := ht.symm.trans hr
  have HF : Hid (∀ (g l cap : Nat) (w2 : World), GrIn w2 (some ⟨g, 0, none⟩) l gs → l ≤ 1048576 → Calls Try.prog 73 #[.slice (some ⟨g, 0, none⟩) l cap, .agg #[.int .i64 r.1, .int .i64 r.2]] w2 fun e w' => e = .returned (.int .i64 (ofG gs r)) ∧ Below w2.heap.size w2 w') := fun g l cap w2 q1 q2 => l3Of_c _ _ _ _ _ _ q1 q2
  generalize ofG gs r = v at HF ⊢
  clear h hc hr
  unfold GivesI
  go_enter Try.func86, Try.ntmps86
  go_wp2_with fail
  rw [← hW]
  clear hW
  refine (l2Fault_c a n cap zs _ (by omega) H.out).mono ?_
  rintro e w1 ⟨rfl, hb1⟩
  rw [HC.out]
  have hz1 := hb1.size
  have q0 : w1.cell? ⟨w.heap.size, 0, none⟩ = some (.int .i64 r.1) := (hb1.cell (p := ⟨w.heap.size, 0, none⟩) (by show w.heap.size < W.heap.size; omega)).trans r0
  have q1 : w1.cell? ⟨w.heap.size, 1, none⟩ = some (.int .i64 r.2) := (hb1.cell (p := ⟨w.heap.size, 1, none⟩) (by show w.heap.size < W.heap.size; omega)).trans r1
  go_wp2_with fail
  refine (l2Role_c r.1 r.2 _).mono ?_
  rintro e w2 ⟨rfl, hb2'⟩
  rw [ht]
  obtain rfl : t = true := HT.out
  have hb2 : Below W.heap.size W w2 := hb1.trans (hb2'.mono hz1)
  have q0 : w2.cell? ⟨w.heap.size, 0, none⟩ = some (.int .i64 r.1) := (hb2.cell (p := ⟨w.heap.size, 0, none⟩) (by show w.heap.size < W.heap.size; omega)).trans r0
  have q1 : w2.cell? ⟨w.heap.size, 1, none⟩ = some (.int .i64 r.2) := (hb2.cell (p := ⟨w.heap.size, 1, none⟩) (by show w.heap.size < W.heap.size; omega)).trans r1
  clear ht
  go_wp2
  go_region_with (first | (go_at_call 65; refine (HA.out _ hb2).mono ?_; rintro e w4 ⟨g, l, cap', rfl, hgr, hl4, hb4⟩; have q2 := (hb4.cell (p := ⟨w.heap.size, 0, none⟩) (by show w.heap.size < W.heap.size; omega)).trans r0; have q3 := (hb4.cell (p := ⟨w.heap.size, 1, none⟩) (by show w.heap.size < W.heap.size; omega)).trans r1; have hz4 := hb4.size) | (go_at_call 73; refine (HF.out _ _ _ _ hgr hl4).mono ?_; rintro e w5 ⟨rfl, hb5'⟩; have hb5 : Below W.heap.size W w5 := hb4.trans (hb5'.mono hz4); have d0 := (hb5.cell (p := ⟨w.heap.size + 1, 0, none⟩) (by show w.heap.size + 1 < W.heap.size; omega)).trans c0; have d1 := (hb5.cell (p := ⟨w.heap.size + 1, 1, none⟩) (by show w.heap.size + 1 < W.heap.size; omega)).trans c1; have g0 := (hb5.frozen (p := ⟨w.heap.size + 1, 0, none⟩) (by show w.heap.size + 1 < W.heap.size; omega)).trans (f0 0); have g1 := (hb5.frozen (p := ⟨w.heap.size + 1, 1, none⟩) (by show w.heap.size + 1 < W.heap.size; omega)).trans (f0 1); have hz5 := hb5.size))
  all_goals
    have hw : w.heap.size + 1 < w5.heap.size := by omega
    have hBx : Below w.heap.size w w5 := B0.trans (hb5.mono (by omega))
    go_wp2
    refine bodyPost_ret (v := .agg #[.int .i64 0, .int .i64 v]) (by simp [results, Try.results86, go_sem, d0, d1, hw]) rfl ⟨rfl, ?_⟩
    exact hBx |>.setCell (by simp) _ |>.setCell (by simp) _

end Go.Proofs.Ytnmidppiakdanaa
