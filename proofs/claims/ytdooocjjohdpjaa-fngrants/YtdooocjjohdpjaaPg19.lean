/-
  CONTRACTS: what both programs' MembersOf answers; results of one number compared.
  Conditions: each contract bears its own.
  THE LAW laws.FnGrants.
  Conditions: each contract bears its own.
-/
import Derived.Test.YtdooocjjohdpjaaPg17
import Derived.Test.YtdooocjjohdpjaaPg18
import Derived.Test.YtdooocjjohdpjaaPg09
import Derived.Deep.CutBlock
namespace Go.Proofs.Ytdooocjjohdpjaa
open Go.RowKit
set_option linter.unusedVariables false
set_option linter.unusedSimpArgs false

set_option maxHeartbeats 400000 in
theorem eqIR_c (c v : Int) (w : World) : Calls Try.prog 44 #[.agg #[.int .i64 c, .int .i64 v], .agg #[.int .i64 c, .int .i64 v]] w fun e w' => e = .returned (.bool true) ∧ Below w.heap.size w w' := by
  go_enter Try.func44, Try.ntmps44
  go_wp2
  go_ret
  exact ⟨rfl, by go_grown⟩

end Go.Proofs.Ytdooocjjohdpjaa

namespace Go.Proofs.Ytdooocjjohdpjaa
open Go.RowKit
set_option linter.unusedVariables false
set_option linter.unusedSimpArgs false
attribute [local go_sem ↓] ro_eql

theorem fldG0 (x : Int) (a : Option Addr) (n c : Nat) (w : World) : (Instr.field 29 (.agg #[.int .i64 x, .slice a n c]) 0).run Try.prog w = .ok (.int .i64 x) w := by kernel_rfl
theorem fldG1 (x : Int) (a : Option Addr) (n c : Nat) (w : World) : (Instr.field 29 (.agg #[.int .i64 x, .slice a n c]) 1).run Try.prog w = .ok (.slice a n c) w := by kernel_rfl

attribute [local go_sem ↓] fldG0 fldG1

/-- What stands of the two that were drawn. -/
structure FG (w : World) (g n : Nat) (zs : List RuleI) (g' n' : Nat) (gs : List GrI) (W : World) : Prop where
  bl : Below w.heap.size w W
  ru : RulesIn W (some ⟨g, 0, none⟩) n zs
  gr : GrIn W (some ⟨g', 0, none⟩) n' gs

theorem FG.below {w : World} {g n : Nat} {zs : List RuleI} {g' n' : Nat} {gs : List GrI} {W W' : World} (h : FG w g n zs g' n' gs W) (hb : Below W.heap.size W W') : FG w g n zs g' n' gs W' :=
  ⟨h.bl.trans (hb.mono h.bl.size), h.ru.below hb, h.gr.below hb⟩

/-- A result of grants in its box. -/
structure GB (W : World) (B : Nat) (c : Int) (a : Option Addr) (cap : Nat) (ys : List GrI) : Prop where
  bx : Box2 W B (.int .i64 c) (.slice a ys.length cap)
  vw : GrV W a ys

theorem GB.below {W W' : World} {B : Nat} {c : Int} {a : Option Addr} {cap : Nat} {ys : List GrI} (h : GB W B c a cap ys) (hb : Below W.heap.size W W') : GB W' B c a cap ys := ⟨h.bx.below hb, h.vw.below hb⟩

theorem GB.new {w : World} {c : Int} {a : Option Addr} {cap : Nat} {ys : List GrI} {B : Nat} (h : Own3 w B (.slice a ys.length cap) ys) (t : TypeId) : GB (w.alloc (.cells #[.int .i64 c, .slice a ys.length cap] t)) w.heap.size c a cap ys :=
  ⟨Box2.new _ _ _ _, h.view.below ((Below.refl _ _).alloc (Nat.le_refl _) _)⟩

abbrev KS (W W' : World) : Prop := (∀ b o, b < W.heap.size → W'.cell? ⟨b, o, none⟩ = W.cell? ⟨b, o, none⟩) ∧ Below W.heap.size W W'

/-- Codes and grants of both programs, where one of the two has a fault. -/
theorem bad_both (zs : List RuleI) (gs : List GrI) (g n c g' n' c' : Nat) (hn : n ≤ 17) (hc : n ≤ c) (hm : c ≤ maxLen) (hn' : n' ≤ 41) (hno : ¬ (polCode zs = 0 ∧ gfCode gs = 0)) :
    ∃ (c1 c2 : Int) (ys : List GrI), (c1 ≠ 0 ∨ c2 ≠ 0) ∧ (∀ w : World, RulesIn w (some ⟨g, 0, none⟩) n zs → GivesG 13 (some ⟨g, 0, none⟩) n c c1 ys w) ∧ (∀ w : World, RulesIn w (some ⟨g, 0, none⟩) n zs → GivesG 15 (some ⟨g, 0, none⟩) n c c1 ys w) ∧
      (∀ w : World, RulesIn w (some ⟨g, 0, none⟩) n zs → GrIn w (some ⟨g', 0, none⟩) n' gs → GivesS 14 (some ⟨g, 0, none⟩) n c (some ⟨g', 0, none⟩) n' c' c2 [] w) ∧ (∀ w : World, RulesIn w (some ⟨g, 0, none⟩) n zs → GrIn w (some ⟨g', 0, none⟩) n' gs → GivesS 16 (some ⟨g, 0, none⟩) n c (some ⟨g', 0, none⟩) n' c' c2 [] w) := by
  by_cases hp : polCode zs = 0
  · have hg : gfCode gs ≠ 0 := fun q => hno ⟨hp, q⟩
    obtain ⟨G, hG⟩ := all_some zs hp
    refine ⟨0, gfCode gs, G, .inr hg, fun w h => implGrantsOf_ok _ _ _ _ _ _ hc hm h hp hG, fun w h => specGrantsOf_ok _ _ _ _ _ _ h hp hG, fun w h k => implStep_bad _ _ _ _ _ _ _ _ _ h k (by omega) hc hm _ (by rw [hp]; rfl) hg, fun w h k => specStep_gr _ _ _ _ _ _ _ _ _ h k (by omega) (by omega) _ hp rfl hg⟩
  · exact ⟨polCode zs, polCode zs, [], .inl hp, fun w h => implGrantsOf_bad _ _ _ _ _ _ (by omega) hc hm h rfl hp, fun w h => specGrantsOf_bad _ _ _ _ _ _ (by omega) h rfl hp, fun w h k => implStep_bad _ _ _ _ _ _ _ _ _ h k (by omega) hc hm _ (by rw [orC, if_neg hp]) hp, fun w h k => specStep_pol _ _ _ _ _ _ _ _ _ h k (by omega) _ rfl hp⟩

theorem ofG_till {gs : List GrI} (h : SG gs) {k : Nat} {x : GrI} (hx : gs[k]? = some x) (r : RoI) : ofG (gs.take (k + 1)) r = if x.1 = r then x.2 else ofG (gs.take k) r := by
  have hk : k < gs.length := by
    by_cases q : k < gs.length
    · exact q
    · rw [List.getElem?_eq_none (by omega)] at hx; cases hx
  have sub : ∀ m, SG (gs.take m) := fun m => ⟨List.Pairwise.sublist (List.take_sublist m gs) h.up, fun y hy => h.ro y (List.mem_of_mem_take hy), fun y hy => h.st y (List.mem_of_mem_take hy)⟩
  have ek : gs[k] = x := by rw [List.getElem?_eq_getElem hk] at hx; exact Option.some.inj hx
  have hm : x ∈ gs.take (k + 1) := by rw [List.take_succ_eq_append_getElem hk, ek]; simp
  by_cases e : x.1 = r
  · rw [if_pos e, ← e]
    exact ofG_mem (sub (k + 1)) hm
  · rw [if_neg e]
    by_cases z : ofG (gs.take k) r = 0
    · rw [z]
      by_cases z2 : ofG (gs.take (k + 1)) r = 0
      · exact z2
      · have := ofG_some z2
        rw [List.take_succ_eq_append_getElem hk, ek] at this
        rcases List.mem_append.1 this with q | q
        · have := ofG_mem (sub k) q
          rw [z] at this
          rw [List.take_succ_eq_append_getElem hk, ek] at z2 ⊢
          exact absurd this.symm z2
        · simp at q
          exact absurd (by rw [← q]) e
    · have q := ofG_some z
      have : (r, ofG (gs.take k) r) ∈ gs.take (k + 1) := by rw [List.take_succ_eq_append_getElem hk]; exact List.mem_append.2 (.inl q)
      exact ofG_mem (sub (k + 1)) this

set_option maxRecDepth 100000 in
set_option maxHeartbeats 4000000 in
theorem grants_inner (a : Option Addr) (len cap : Nat) (bs : List Int) (w : World) (hl : len ≤ 1048576) (hc : CodeIn w a len bs) :
    Calls Try.prog 3 #[.slice a len cap] w fun e w' => e = .returned (.bool true) ∧ Below w.heap.size w w' := by
  have hl' : (len : Int) ≤ 1048576 := by omega
  have HCO : Hid (CodeIn w a len bs) := hc
  clear hc
  go_enter Try.func3, Try.ntmps3
  go_wp2_with (first | (go_at_call 11; go_in) | fail)
  refine (drawStep_c a len cap bs _ HCO.out hl).mono ?_
  rintro e w1 ⟨g, n, c, g', n', c', zs, gs, rfl, ⟨hn, hnc, hcm⟩, hn', hru, hgr, hg0, hg1, hb1⟩
  have F1 : Hid (FG w g n zs g' n' gs w1) := ⟨hb1, hru, hgr⟩
  clear HCO hru hgr hb1
  by_cases hok : polCode zs = 0 ∧ gfCode gs = 0
  · obtain ⟨hp, hg⟩ := hok
    obtain ⟨G, hG⟩ := all_some zs hp
    have hzs : ∀ z ∈ zs, okR z := fun z hz => ((pol_ok hp).2 z hz).1
    have hsg := gf_sg hg
    have HSG : Hid (SG gs) := hsg
    have HGG : Hid (SG G) := hG.sg
    obtain ⟨Z, hZ⟩ : ∃ Z, stepG zs gs = Z := ⟨_, rfl⟩
    have hZs : SG Z := by rw [← hZ]; exact sg_step hzs hsg
    have HLG : Hid (G.length ≤ 40 ∧ Z.length ≤ 40) := ⟨sg_len hG.sg, sg_len hZs⟩
    have HI1 : Hid (∀ w : World, RulesIn w (some ⟨g, 0, none⟩) n zs → GivesG 13 (some ⟨g, 0, none⟩) n c 0 G w) := fun w h => implGrantsOf_ok _ _ _ _ _ _ hnc hcm h hp hG
    have HS1 : Hid (∀ w : World, RulesIn w (some ⟨g, 0, none⟩) n zs → GivesG 15 (some ⟨g, 0, none⟩) n c 0 G w) := fun w h => specGrantsOf_ok _ _ _ _ _ _ h hp hG
    have HI2 : Hid (∀ w : World, RulesIn w (some ⟨g, 0, none⟩) n zs → GrIn w (some ⟨g', 0, none⟩) n' gs → GivesS 14 (some ⟨g, 0, none⟩) n c (some ⟨g', 0, none⟩) n' c' 0 Z w) := fun w h k => by rw [← hZ]; exact implStep_ok _ _ _ _ _ _ _ _ _ h k hnc hcm hp hg
    have HI3 : Hid (∀ (w : World) (b : Option Addr) (cap : Nat), RulesIn w (some ⟨g, 0, none⟩) n zs → GrIn w b G.length G → GivesS 14 (some ⟨g, 0, none⟩) n c b G.length cap 0 G w) := fun w b cap h k => by
      have := implStep_ok (some ⟨g, 0, none⟩) n c zs b G.length cap G w h k hnc hcm hp (sg_gf hG.sg)
      rwa [allG_still hzs hG] at this
    have HMB : Hid (∀ (w : World) (r : RoI) (s : Int), RulesIn w (some ⟨g, 0, none⟩) n zs → (r, s) ∈ G → GivesI 19 (some ⟨g, 0, none⟩) n c r 0 s w) := fun w r s h k => by
      have := implMembersOf_ok (some ⟨g, 0, none⟩) n c zs G r w hnc hcm h hp (hG.sg.ro _ k) hG
      rwa [ofG_mem hG.sg k] at this
    have HGZ : Hid (gfCode G = 0 ∧ gfCode Z = 0) := ⟨sg_gf hG.sg, sg_gf hZs⟩
    have HAND : Hid (decide (Z = gs) = true → ∀ x ∈ G, bits .and .i64 (ofG gs x.1) x.2 = x.2) := fun q x hx => by
      have q2 : stepG zs gs = gs := by rw [hZ]; exact of_decide_eq_true q
      have := closed_and hzs hsg q2 hG x.1
      rwa [ofG_mem hG.sg hx] at this
    clear hp hg hzs hsg hZ hZs hG
    go_wp2_with fail
    refine (HI1.out _ F1.out.ru).mono ?_
    rintro e w2 ⟨a1, cap1, rfl, hown2, hb2⟩
    have A2 : Below w2.heap.size w2 (w2.alloc (.cells #[.int .i64 0, .slice a1 G.length cap1] 29)) := (Below.refl _ _).alloc (Nat.le_refl _) _
    have F2 : Hid (FG w g n zs g' n' gs (w2.alloc (.cells #[.int .i64 0, .slice a1 G.length cap1] 29))) := (F1.out.below hb2).below A2
    have X2 : Hid (GB (w2.alloc (.cells #[.int .i64 0, .slice a1 G.length cap1] 29)) w2.heap.size 0 a1 cap1 G) := GB.new hown2 _
    clear hown2 hb2 A2 F1
    go_upto_region 5 with fail
    generalize w2.alloc (.cells #[.int .i64 0, .slice a1 G.length cap1] 29) = w3 at F2 X2 ⊢
    go_wp2_with fail
    refine (HI2.out _ F2.out.ru F2.out.gr).mono ?_
    rintro e w4 ⟨a2, cap2, rfl, hown4, hb4⟩
    have A4 : Below w4.heap.size w4 (w4.alloc (.cells #[.int .i64 0, .slice a2 Z.length cap2] 29)) := (Below.refl _ _).alloc (Nat.le_refl _) _
    have F4 : Hid (FG w g n zs g' n' gs (w4.alloc (.cells #[.int .i64 0, .slice a2 Z.length cap2] 29))) := (F2.out.below hb4).below A4
    have X4 : Hid (GB (w4.alloc (.cells #[.int .i64 0, .slice a2 Z.length cap2] 29)) w2.heap.size 0 a1 cap1 G) := (X2.out.below hb4).below A4
    have Y4 : Hid (GB (w4.alloc (.cells #[.int .i64 0, .slice a2 Z.length cap2] 29)) w4.heap.size 0 a2 cap2 Z) := GB.new hown4 _
    clear hown4 hb4 A4 F2 X2
    go_upto_region 6 with fail
    generalize w4.alloc (.cells #[.int .i64 0, .slice a2 Z.length cap2] 29) = w5 at F4 X4 Y4 ⊢
    obtain ⟨x0, x1⟩ := X4.out.bx
    obtain ⟨y0, y1⟩ := Y4.out.bx
    go_wp2_with fail
    refine (HI3.out _ a1 cap1 F4.out.ru (X4.out.vw.grIn rfl)).mono ?_
    rintro e w6 ⟨a3, cap3, rfl, hown6, hb6⟩
    have A6 : Below w6.heap.size w6 (w6.alloc (.cells #[.int .i64 0, .slice a3 G.length cap3] 29)) := (Below.refl _ _).alloc (Nat.le_refl _) _
    have F6 : Hid (FG w g n zs g' n' gs (w6.alloc (.cells #[.int .i64 0, .slice a3 G.length cap3] 29))) := (F4.out.below hb6).below A6
    have X6 : Hid (GB (w6.alloc (.cells #[.int .i64 0, .slice a3 G.length cap3] 29)) w2.heap.size 0 a1 cap1 G) := (X4.out.below hb6).below A6
    have Y6 : Hid (GB (w6.alloc (.cells #[.int .i64 0, .slice a3 G.length cap3] 29)) w4.heap.size 0 a2 cap2 Z) := (Y4.out.below hb6).below A6
    have Z6 : Hid (GB (w6.alloc (.cells #[.int .i64 0, .slice a3 G.length cap3] 29)) w6.heap.size 0 a3 cap3 G) := GB.new hown6 _
    clear hown6 hb6 A6 F4 X4 Y4 x0 x1 y0 y1
    go_upto_region 9 with fail
    generalize w6.alloc (.cells #[.int .i64 0, .slice a3 G.length cap3] 29) = w7 at F6 X6 Y6 Z6 ⊢
    have x1 := X6.out.bx.2
    have y1 := Y6.out.bx.2
    have z1 := Z6.out.bx.2
    have hlx := X6.out.bx.lt
    have hly := Y6.out.bx.lt
    have hlz := Z6.out.bx.lt
    have HLW : Hid (∀ w' : World, KS w7 w' → Calls Try.prog 17 #[.slice a3 G.length cap3, .slice a1 G.length cap1] w' fun e w'' => e = .returned (.bool true) ∧ Below w'.heap.size w' w'') := fun w' q => by
      have := lwGrants_c a3 a1 G.length G.length cap3 cap1 G G w' ((Z6.out.vw.below q.2).grIn rfl) ((X6.out.vw.below q.2).grIn rfl) (by have := HLG.out.1; omega) (by have := HLG.out.1; omega)
      simpa using this
    have HGF : Hid (∀ (w' : World) (a : Option Addr) (m cap : Nat), (a = a1 ∧ m = G.length) ∨ (a = a2 ∧ m = Z.length) → KS w7 w' → Calls Try.prog 18 #[.slice a m cap] w' fun e w'' => e = .returned (.int .i64 0) ∧ Below w'.heap.size w' w'') := fun w' a m cap q1 q => by
      rcases q1 with ⟨rfl, rfl⟩ | ⟨rfl, rfl⟩
      · have := implGrantFault_c a G.length cap G w' ((X6.out.vw.below q.2).grIn rfl)
        rwa [HGZ.out.1] at this
      · have := implGrantFault_c a Z.length cap Z w' ((Y6.out.vw.below q.2).grIn rfl)
        rwa [HGZ.out.2] at this
    have HR1 : Hid (∀ w' : World, KS w7 w' → GivesG 15 (some ⟨g, 0, none⟩) n c 0 G w') := fun w' q => HS1.out _ (F6.out.ru.below q.2)
    go_cut [80] from 53 to 80 (fun s80 wx => s80 = .bool false ∧ KS w7 wx)
    case first =>
      go_region_with (first | (go_at_call 17; refine (HLW.out _ (by first | exact hS | exact kp_drew _)).mono ?_; rintro e wA ⟨rfl, hbA⟩; have hS : KS w7 wA := kp_step (by first | exact hS | exact kp_drew _) hbA; have xA := (hS.1 _ 1 hlx).trans x1; have yA := (hS.1 _ 1 hly).trans y1) | (go_at_call 18; refine (HGF.out _ _ _ _ (by first | exact .inl ⟨rfl, rfl⟩ | exact .inr ⟨rfl, rfl⟩) (by first | exact hS | exact kp_drew _)).mono ?_; rintro e wB ⟨rfl, hbB⟩; have hS : KS w7 wB := kp_step (by first | exact hS | exact kp_drew _) hbB; have xB := (hS.1 _ 1 hlx).trans x1; have yB := (hS.1 _ 1 hly).trans y1) | (go_at_call 15; refine (HR1.out _ (by first | exact hS | exact kp_drew _)).mono ?_; rintro e wC ⟨_, _, rfl, _, hbC⟩; have hS : KS w7 wC := kp_step (by first | exact hS | exact kp_drew _) hbC; have xC := (hS.1 _ 1 hlx).trans x1; have yC := (hS.1 _ 1 hly).trans y1))
      all_goals
        go_wp2_with fail
        go_meet
        exact ⟨rfl, hS⟩
    case rest =>
      obtain ⟨rfl, hS⟩ := hcut
      have F8 : Hid (FG w g n zs g' n' gs wc) := F6.out.below hS.2
      have X8 : Hid (GB wc w2.heap.size 0 a1 cap1 G) := X6.out.below hS.2
      have Y8 : Hid (GB wc w4.heap.size 0 a2 cap2 Z) := Y6.out.below hS.2
      have Z8 : Hid (GB wc w6.heap.size 0 a3 cap3 G) := Z6.out.below hS.2
      clear hS x1 y1 z1 hlx hly hlz F6 X6 Y6 Z6 HLW HGF HR1 HI1 HI2 HI3 HS1 HGZ
      obtain ⟨y0, y1⟩ := Y8.out.bx
      obtain ⟨t, ht⟩ : ∃ t, decide (Z = gs) = t := ⟨_, rfl⟩
      have HT : Hid (decide (Z = gs) = t) := ht
      clear ht
      go_wp2_with fail
      refine (lwGrants_c a2 (some ⟨g', 0, none⟩) Z.length n' cap2 c' Z gs _ (Y8.out.vw.grIn rfl) F8.out.gr (by have := HLG.out.2; omega) (by omega)).mono ?_
      rintro e w9 ⟨rfl, hb9⟩
      rw [HT.out]
      have F9 : Hid (FG w g n zs g' n' gs w9) := F8.out.below hb9
      have X9 : Hid (GB w9 w2.heap.size 0 a1 cap1 G) := X8.out.below hb9
      have Z9 : Hid (GB w9 w6.heap.size 0 a3 cap3 G) := Z8.out.below hb9
      clear hb9 F8 X8 Y8 Z8 y0 y1
      have hGl : (G.length : Int) ≤ 40 := by have := HLG.out.1; omega
      have hn2 : (n' : Int) ≤ 41 := by omega
      go_wp2
      go_loopw [9] (fun i wr => ∃ k : Nat, k ≤ G.length ∧ i = .int .i64 (k : Int) ∧ FG w g n zs g' n' gs wr ∧ GB wr w2.heap.size 0 a1 cap1 G ∧ GB wr w6.heap.size 0 a3 cap3 G) (fun i _ => G.length - (intOf i).toNat)
      case atStart => exact ⟨0, Nat.zero_le _, rfl, F9.out, X9.out, Z9.out⟩
      case round =>
        obtain ⟨k, hk, rfl, hf, hx, hz⟩ := hrel
        have FK : Hid (FG w g n zs g' n' gs wr) := hf
        have XK : Hid (GB wr w2.heap.size 0 a1 cap1 G) := hx
        have ZK : Hid (GB wr w6.heap.size 0 a3 cap3 G) := hz
        clear hf hx hz
        obtain ⟨x0, x1⟩ := XK.out.bx
        by_cases hlt : k < G.length
        · have hxk : G[k]? = some G[k] := List.getElem?_eq_getElem hlt
          generalize G[k] = x at hxk
          have HXM : Hid (x ∈ G) := List.mem_of_getElem? hxk
          obtain ⟨b, hb, g0, g1, g2⟩ := XK.out.vw k x hxk
          have hlt' : (k : Int) < (G.length : Int) := by omega
          subst hb
          clear hxk
          go_upto_region 16 with fail
          obtain ⟨wx, hwx⟩ : ∃ wx, wx = wr.alloc (.cells #[.int .i64 x.1.1, .int .i64 x.1.2, .int .i64 x.2] 37) := ⟨_, rfl⟩
          rw [← hwx]
          have hbx : Below wr.heap.size wr wx := by rw [hwx]; exact (Below.refl _ _).alloc (Nat.le_refl _) _
          have hsx : wr.heap.size < wx.heap.size := by rw [hwx]; simp
          have q0 : wx.cell? ⟨wr.heap.size, 0, none⟩ = some (.int .i64 x.1.1) := by rw [hwx]; simp
          have q1 : wx.cell? ⟨wr.heap.size, 1, none⟩ = some (.int .i64 x.1.2) := by rw [hwx]; simp
          have q2 : wx.cell? ⟨wr.heap.size, 2, none⟩ = some (.int .i64 x.2) := by rw [hwx]; simp
          have FX : Hid (FG w g n zs g' n' gs wx) := FK.out.below hbx
          have XX : Hid (GB wx w2.heap.size 0 (some ⟨b, 0, none⟩) cap1 G) := XK.out.below hbx
          have ZX : Hid (GB wx w6.heap.size 0 a3 cap3 G) := ZK.out.below hbx
          clear hwx hbx FK XK ZK x0 x1 g0 g1 g2
          go_wp2_with fail
          refine (HMB.out _ x.1 x.2 FX.out.ru HXM.out).mono ?_
          rintro e w10 ⟨rfl, hb10⟩
          have A10 : Below w10.heap.size w10 (w10.alloc (.cells #[.int .i64 0, .int .i64 x.2] 39)) := (Below.refl _ _).alloc (Nat.le_refl _) _
          have hb11 : Below wx.heap.size wx (w10.alloc (.cells #[.int .i64 0, .int .i64 x.2] 39)) := hb10.trans (A10.mono hb10.size)
          have FM : Hid (FG w g n zs g' n' gs (w10.alloc (.cells #[.int .i64 0, .int .i64 x.2] 39))) := FX.out.below hb11
          have XM : Hid (GB (w10.alloc (.cells #[.int .i64 0, .int .i64 x.2] 39)) w2.heap.size 0 (some ⟨b, 0, none⟩) cap1 G) := XX.out.below hb11
          have ZM : Hid (GB (w10.alloc (.cells #[.int .i64 0, .int .i64 x.2] 39)) w6.heap.size 0 a3 cap3 G) := ZX.out.below hb11
          have r0 : (w10.alloc (.cells #[.int .i64 0, .int .i64 x.2] 39)).cell? ⟨wr.heap.size, 0, none⟩ = some (.int .i64 x.1.1) := (hb11.cell (p := ⟨wr.heap.size, 0, none⟩) hsx).trans q0
          have r1 : (w10.alloc (.cells #[.int .i64 0, .int .i64 x.2] 39)).cell? ⟨wr.heap.size, 1, none⟩ = some (.int .i64 x.1.2) := (hb11.cell (p := ⟨wr.heap.size, 1, none⟩) hsx).trans q1
          have r2 : (w10.alloc (.cells #[.int .i64 0, .int .i64 x.2] 39)).cell? ⟨wr.heap.size, 2, none⟩ = some (.int .i64 x.2) := (hb11.cell (p := ⟨wr.heap.size, 2, none⟩) hsx).trans q2
          have m1 : (w10.alloc (.cells #[.int .i64 0, .int .i64 x.2] 39)).cell? ⟨w10.heap.size, 1, none⟩ = some (.int .i64 x.2) := by simp
          clear hb10 A10 hb11 FX XX ZX q0 q1 q2
          go_upto_region 17 with fail
          generalize w10.alloc (.cells #[.int .i64 0, .int .i64 x.2] 39) = w11 at FM XM ZM r0 r1 r2 m1 ⊢
          go_wp2
          go_loopw [12, 13] (fun v i wq => ∃ j : Nat, j ≤ n' ∧ i = .int .i64 (j : Int) ∧ v = .int .i64 (ofG (gs.take j) x.1) ∧ ∃ q, wq = w11.drewN q) (fun _ i _ => n' - (intOf i).toNat)
          case atStart => exact ⟨0, Nat.zero_le _, rfl, rfl, 0, rfl⟩
          case round =>
            obtain ⟨j, hj, rfl, rfl, q, rfl⟩ := hrel
            by_cases hlj : j < n'
            · obtain ⟨b2, o2, y, e2, hy, ⟨h0, h1, h2⟩, hbl⟩ := FM.out.gr.at hlj
              cases e2
              have HNX : Hid (ofG (gs.take (j + 1)) x.1 = if y.1 = x.1 then y.2 else ofG (gs.take j) x.1) := ofG_till HSG.out hy x.1
              have hlj' : (j : Int) < (n' : Int) := by omega
              simp only [Nat.zero_add] at h0 h1 h2
              clear hy
              cases he : eqRo y.1 x.1
              · have HN2 : Hid (ofG (gs.take (j + 1)) x.1 = ofG (gs.take j) x.1) := by
                  show ofG (gs.take (j + 1)) x.1 = _
                  rw [HNX.out, if_neg (fun q => by rw [(eqRo_iff _ _).2 q] at he; cases he)]
                go_wp2
                go_quiet (fail)
                go_wp2
                exact ⟨⟨j + 1, by omega, by go_num, by rw [HN2.out], _, rfl⟩, by simp [intOf]; omega⟩
              · have HN2 : Hid (ofG (gs.take (j + 1)) x.1 = y.2) := by
                  show ofG (gs.take (j + 1)) x.1 = _
                  rw [HNX.out, if_pos ((eqRo_iff _ _).1 he)]
                go_wp2
                go_quiet (fail)
                go_wp2
                exact ⟨⟨j + 1, by omega, by go_num, by rw [HN2.out], _, rfl⟩, by simp [intOf]; omega⟩
            · have hjn : j = n' := by omega
              subst hjn
              have HOF : Hid (ofG (gs.take j) x.1 = ofG gs x.1) := by show ofG (gs.take j) x.1 = _; rw [List.take_of_length_le (by rw [FM.out.gr.1]; exact Nat.le_refl _)]
              rw [HOF.out]
              obtain ⟨v, hv⟩ : ∃ v, ofG gs x.1 = v := ⟨_, rfl⟩
              rw [hv]
              have BD : Below w11.heap.size w11 (w11.drewN q) := below_drewN (Below.refl _ _) _
              have FE : Hid (FG w g n zs g' j gs (w11.drewN q)) := FM.out.below BD
              have XE : Hid (GB (w11.drewN q) w2.heap.size 0 (some ⟨b, 0, none⟩) cap1 G) := XM.out.below BD
              have ZE : Hid (GB (w11.drewN q) w6.heap.size 0 a3 cap3 G) := ZM.out.below BD
              clear BD
              cases t
              · clear hv
                go_wp2
                exact ⟨⟨k + 1, by omega, by go_num, FE.out, XE.out, ZE.out⟩, by simp [intOf]; omega⟩
              · have hand : bits .and .i64 v x.2 = x.2 := by rw [← hv]; exact HAND.out HT.out x HXM.out
                clear hv
                go_wp2
                exact ⟨⟨k + 1, by omega, by go_num, FE.out, XE.out, ZE.out⟩, by simp [intOf]; omega⟩
        · have hkn : k = G.length := by omega
          subst hkn
          obtain ⟨z0, z1⟩ := ZK.out.bx
          have HB : Hid (Below w.heap.size w wr) := FK.out.bl
          go_wp2
          go_ret
          exact ⟨rfl, HB.out⟩
  · obtain ⟨c1, c2, ys, hne, hi1, hs1, hi2, hs2⟩ := bad_both zs gs g n c g' n' c' hn hnc hcm hn' hok
    have HI1 : Hid (∀ w : World, RulesIn w (some ⟨g, 0, none⟩) n zs → GivesG 13 (some ⟨g, 0, none⟩) n c c1 ys w) := hi1
    have HI2 : Hid (∀ w : World, RulesIn w (some ⟨g, 0, none⟩) n zs → GrIn w (some ⟨g', 0, none⟩) n' gs → GivesS 14 (some ⟨g, 0, none⟩) n c (some ⟨g', 0, none⟩) n' c' c2 [] w) := hi2
    have HS1 : Hid (∀ w : World, RulesIn w (some ⟨g, 0, none⟩) n zs → GivesG 15 (some ⟨g, 0, none⟩) n c c1 ys w) := hs1
    have HS2 : Hid (∀ w : World, RulesIn w (some ⟨g, 0, none⟩) n zs → GrIn w (some ⟨g', 0, none⟩) n' gs → GivesS 16 (some ⟨g, 0, none⟩) n c (some ⟨g', 0, none⟩) n' c' c2 [] w) := hs2
    clear hi1 hi2 hs1 hs2 hok
    go_wp2_with fail
    refine (HI1.out _ F1.out.ru).mono ?_
    rintro e w2 ⟨a1, cap1, rfl, hown2, hb2⟩
    have A2 : Below w2.heap.size w2 (w2.alloc (.cells #[.int .i64 c1, .slice a1 ys.length cap1] 29)) := (Below.refl _ _).alloc (Nat.le_refl _) _
    have F2 : Hid (FG w g n zs g' n' gs (w2.alloc (.cells #[.int .i64 c1, .slice a1 ys.length cap1] 29))) := (F1.out.below hb2).below A2
    have X2 : Hid (GB (w2.alloc (.cells #[.int .i64 c1, .slice a1 ys.length cap1] 29)) w2.heap.size c1 a1 cap1 ys) := GB.new hown2 _
    clear hown2 hb2 A2 F1
    go_upto_region 5 with fail
    generalize w2.alloc (.cells #[.int .i64 c1, .slice a1 ys.length cap1] 29) = w3 at F2 X2 ⊢
    go_wp2_with fail
    refine (HI2.out _ F2.out.ru F2.out.gr).mono ?_
    rintro e w4 ⟨a2, cap2, rfl, hown4, hb4⟩
    have A4 : Below w4.heap.size w4 (w4.alloc (.cells #[.int .i64 c2, .slice a2 0 cap2] 29)) := (Below.refl _ _).alloc (Nat.le_refl _) _
    have F4 : Hid (FG w g n zs g' n' gs (w4.alloc (.cells #[.int .i64 c2, .slice a2 0 cap2] 29))) := (F2.out.below hb4).below A4
    have X4 : Hid (GB (w4.alloc (.cells #[.int .i64 c2, .slice a2 0 cap2] 29)) w2.heap.size c1 a1 cap1 ys) := (X2.out.below hb4).below A4
    have Y4 : Hid (GB (w4.alloc (.cells #[.int .i64 c2, .slice a2 0 cap2] 29)) w4.heap.size c2 a2 cap2 []) := GB.new hown4 _
    clear hown4 hb4 A4 F2 X2
    go_upto_region 6 with fail
    generalize w4.alloc (.cells #[.int .i64 c2, .slice a2 0 cap2] 29) = w5 at F4 X4 Y4 ⊢
    obtain ⟨x0, x1⟩ := X4.out.bx
    obtain ⟨y0, y1⟩ := Y4.out.bx
    have hlx := X4.out.bx.lt
    have hly := Y4.out.bx.lt
    have HR1 : Hid (∀ w' : World, KS w5 w' → GivesG 15 (some ⟨g, 0, none⟩) n c c1 ys w') := fun w' q => HS1.out _ (F4.out.ru.below q.2)
    have HR2 : Hid (∀ w' : World, KS w5 w' → GivesS 16 (some ⟨g, 0, none⟩) n c (some ⟨g', 0, none⟩) n' c' c2 [] w') := fun w' q => HS2.out _ (F4.out.ru.below q.2) (F4.out.gr.below q.2)
    have HBL : Hid (Below w.heap.size w w5) := F4.out.bl
    clear HI1 HI2 HS1 HS2 F4 X4 Y4
    by_cases q1 : c1 = 0
    · have q2 : c2 ≠ 0 := by
        rcases hne with h | h
        · exact absurd q1 h
        · exact h
      have b1 : (c1 != 0) = false := by simp [q1]
      have b2 : (c2 != 0) = true := by simp [q2]
      clear q1 q2 hne
      go_upto_region 7 with fail
      go_region_with (first | (go_at_call 15; refine (HR1.out _ (by first | exact hS | exact kp_drew _)).mono ?_; rintro e wA ⟨_, _, rfl, _, hbA⟩; have hS : KS w5 wA := kp_step (by first | exact hS | exact kp_drew _) hbA; have xA := (hS.1 _ 0 hlx).trans x0; have yA := (hS.1 _ 0 hly).trans y0) | (go_at_call 16; refine (HR2.out _ (by first | exact hS | exact kp_drew _)).mono ?_; rintro e wB ⟨_, _, rfl, _, hbB⟩; have hS : KS w5 wB := kp_step (by first | exact hS | exact kp_drew _) hbB; have xB := (hS.1 _ 0 hlx).trans x0; have yB := (hS.1 _ 0 hly).trans y0))
      all_goals go_wp2
      all_goals go_ret
      all_goals exact ⟨rfl, HBL.out.trans (hS.2.mono HBL.out.size)⟩
    · have b1 : (c1 != 0) = true := by simp [q1]
      clear q1 hne
      go_upto_region 7 with fail
      go_region_with (first | (go_at_call 15; refine (HR1.out _ (by first | exact hS | exact kp_drew _)).mono ?_; rintro e wA ⟨_, _, rfl, _, hbA⟩; have hS : KS w5 wA := kp_step (by first | exact hS | exact kp_drew _) hbA; have xA := (hS.1 _ 0 hlx).trans x0; have yA := (hS.1 _ 0 hly).trans y0) | (go_at_call 16; refine (HR2.out _ (by first | exact hS | exact kp_drew _)).mono ?_; rintro e wB ⟨_, _, rfl, _, hbB⟩; have hS : KS w5 wB := kp_step (by first | exact hS | exact kp_drew _) hbB; have xB := (hS.1 _ 0 hlx).trans x0; have yB := (hS.1 _ 0 hly).trans y0))
      all_goals go_wp2
      all_goals go_ret
      all_goals exact ⟨rfl, HBL.out.trans (hS.2.mono HBL.out.size)⟩

end Go.Proofs.Ytdooocjjohdpjaa
