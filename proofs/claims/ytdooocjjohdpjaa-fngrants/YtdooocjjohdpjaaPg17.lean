/-
  CONTRACTS: GrantsOf of both programs, at every slice of rules.
  Conditions: each contract bears its own.
  CONTRACTS: impl.grantMapOf: a map out of grants.
  Conditions: each contract bears its own.
  CONTRACTS: MembersOf of both programs.
  Conditions: each contract bears its own.
  PLAIN WORDS on the fault of grants. No Go text is walked here.
  Conditions: each fact bears its own.
-/
import Derived.Test.YtdooocjjohdpjaaPg10
import Derived.Test.YtdooocjjohdpjaaPg09
import Derived.Test.YtdooocjjohdpjaaPg15
import Derived.Test.YtdooocjjohdpjaaPg16
import Derived.Test.YtdooocjjohdpjaaPg12
import Derived.Test.YtdooocjjohdpjaaPg13
import Derived.Test.YtdooocjjohdpjaaPg08
import Derived.Test.YtdooocjjohdpjaaPg01
namespace Go.Proofs.Ytdooocjjohdpjaa
open Go.RowKit
set_option linter.unusedVariables false
set_option linter.unusedSimpArgs false

def GivesG (f : Nat) (a : Option Addr) (n cap : Nat) (c : Int) (ys : List GrI) (w : World) : Prop := Calls Try.prog f #[.slice a n cap] w fun e w' => ∃ (a' : Option Addr) (cap' : Nat), e = .returned (.agg #[.int .i64 c, .slice a' ys.length cap']) ∧ Own3 w' w.heap.size (.slice a' ys.length cap') ys ∧ Below w.heap.size w w'

theorem all_some (zs : List RuleI) (hc : polCode zs = 0) : ∃ gs, AllG zs gs := by
  have hz : ∀ z ∈ zs, okR z := fun z h => ((pol_ok hc).2 z h).1
  obtain ⟨n, _, h⟩ := it_ends hz
  exact ⟨_, allG_it hz h⟩

set_option maxHeartbeats 1000000 in
theorem specGrantsOf_bad (a : Option Addr) (n cap : Nat) (zs : List RuleI) (c : Int) (w : World) (hn : n ≤ 1048576) (h : RulesIn w a n zs) (hc : polCode zs = c) (h0 : c ≠ 0) : GivesG 15 a n cap c [] w := by
  have H : Hid (RulesIn (w.alloc (.cells #[.int .i64 0, .slice none 0 0] 29)) a n zs) := h.below ((Below.refl _ _).alloc (Nat.le_refl _) _)
  have HC : Hid (polCode zs = c) := hc
  clear h hc
  have hcn : (c != 0) = true := by simpa using h0
  unfold GivesG
  go_enter Try.func15, Try.ntmps15
  go_wp2_with fail
  refine (l2Fault_c a n cap zs _ hn H.out).mono ?_
  rintro e w1 ⟨rfl, hb1⟩
  rw [HC.out]
  have hBx : Below w.heap.size w w1 := below_new hb1
  have hw : w.heap.size < w1.heap.size := by have := hb1.size; simp only [World.size_alloc] at this; omega
  have c0 : w1.cell? ⟨w.heap.size, 0, none⟩ = some (.int .i64 0) := (hb1.cell (p := ⟨w.heap.size, 0, none⟩) (by simp)).trans (by simp)
  have c1 : w1.cell? ⟨w.heap.size, 1, none⟩ = some (.slice none 0 0) := (hb1.cell (p := ⟨w.heap.size, 1, none⟩) (by simp)).trans (by simp)
  have f0 : w1.frozen? ⟨w.heap.size, 0, none⟩ = false := (hb1.frozen (p := ⟨w.heap.size, 0, none⟩) (by simp)).trans (by simp [go_sem])
  have f1 : w1.frozen? ⟨w.heap.size, 1, none⟩ = false := (hb1.frozen (p := ⟨w.heap.size, 1, none⟩) (by simp)).trans (by simp [go_sem])
  clear hb1
  go_wp2
  refine bodyPost_ret (v := .agg #[.int .i64 c, .slice none 0 0]) (by simp [results, Try.results15, go_sem, c0, c1, hw]) rfl ⟨none, 0, rfl, World.ownsRow_nil _ _ _ _, ?_⟩
  exact hBx |>.setCell (Nat.le_refl _) _ |>.setCell (Nat.le_refl _) _

theorem pol_n16 {zs : List RuleI} {n : Nat} (h : zs.length = n) (hc : polCode zs = 0) : n ≤ 16 := by
  unfold polCode at hc
  split at hc
  · simp at hc
  · omega

theorem Own3.box {w : World} {B b0 : Nat} {v x y : Value} {gs : List GrI} (h : Own3 w B v gs) (hB : b0 < B) : Own3 ((w.setCell ⟨b0, 0, none⟩ x).setCell ⟨b0, 1, none⟩ y) b0 v gs := by
  have h6 : Own3 w (b0 + 1) v gs := owns_lower3 h (by omega)
  have h7 := ownsRow_setCell_below (ownsRow_setCell_below h6 (a := ⟨b0, 0, none⟩) (by simp) x) (a := ⟨b0, 1, none⟩) (by simp) y
  exact owns_lower3 h7 (by omega)

set_option maxHeartbeats 1000000 in
theorem specGrantsOf_ok (a : Option Addr) (n cap : Nat) (zs : List RuleI) (gs : List GrI) (w : World) (h : RulesIn w a n zs) (hc : polCode zs = 0) (hg : AllG zs gs) : GivesG 15 a n cap 0 gs w := by
  have hn : n ≤ 16 := pol_n16 h.1 hc
  have H : Hid (RulesIn (w.alloc (.cells #[.int .i64 0, .slice none 0 0] 29)) a n zs) := h.below ((Below.refl _ _).alloc (Nat.le_refl _) _)
  have HC : Hid (polCode zs = 0) := hc
  clear h hc
  unfold GivesG
  go_enter Try.func15, Try.ntmps15
  go_wp2_with fail
  refine (l2Fault_c a n cap zs _ (by omega) H.out).mono ?_
  rintro e w1 ⟨rfl, hb1⟩
  rw [HC.out]
  have HX : Hid (RulesIn w1 a n zs) := H.out.below hb1
  have B1 : Hid (Below (w.alloc (.cells #[.int .i64 0, .slice none 0 0] 29)).heap.size (w.alloc (.cells #[.int .i64 0, .slice none 0 0] 29)) w1) := hb1
  clear hb1
  go_wp2_with fail
  refine (l3All_c a n cap zs w1 HX.out (by omega) (pol_ok HC.out).2).mono ?_
  rintro e w2 ⟨g, m, cap', ys, rfl, h1, h2, h3, h4, hb2⟩
  have hz1 := B1.out.size
  have hz2 := hb2.size
  simp only [World.size_alloc] at hz1
  have B2 : Below (w.alloc (.cells #[.int .i64 0, .slice none 0 0] 29)).heap.size (w.alloc (.cells #[.int .i64 0, .slice none 0 0] 29)) w2 := B1.out.trans (hb2.mono (by simp; omega))
  have hBx : Below w.heap.size w w2 := below_new B2
  have hw : w.heap.size < w2.heap.size := by omega
  have c0 : w2.cell? ⟨w.heap.size, 0, none⟩ = some (.int .i64 0) := (B2.cell (p := ⟨w.heap.size, 0, none⟩) (by simp)).trans (by simp)
  have c1 : w2.cell? ⟨w.heap.size, 1, none⟩ = some (.slice none 0 0) := (B2.cell (p := ⟨w.heap.size, 1, none⟩) (by simp)).trans (by simp)
  have f0 : w2.frozen? ⟨w.heap.size, 0, none⟩ = false := (B2.frozen (p := ⟨w.heap.size, 0, none⟩) (by simp)).trans (by simp [go_sem])
  have f1 : w2.frozen? ⟨w.heap.size, 1, none⟩ = false := (B2.frozen (p := ⟨w.heap.size, 1, none⟩) (by simp)).trans (by simp [go_sem])
  obtain rfl := allG_unique h2 hg
  have HF : Hid (m = ys.length ∧ Own3 w2 w1.heap.size (.slice (some ⟨g, 0, none⟩) m cap') ys) := ⟨h1.symm, h4⟩
  clear B2 hb2 h1 h2 h3 h4 B1
  go_wp2
  obtain ⟨h1, h3⟩ := HF.out
  subst h1
  refine bodyPost_ret (v := .agg #[.int .i64 0, .slice (some ⟨g, 0, none⟩) ys.length cap']) (by simp [results, Try.results15, go_sem, c0, c1, hw]) rfl ⟨some ⟨g, 0, none⟩, cap', rfl, ?_, ?_⟩
  · exact h3.box (by omega)
  · exact hBx |>.setCell (Nat.le_refl _) _ |>.setCell (Nat.le_refl _) _

set_option maxHeartbeats 1000000 in
theorem implGrantsOf_bad (a : Option Addr) (n cap : Nat) (zs : List RuleI) (c : Int) (w : World) (hn : n ≤ 1048576) (hcap : n ≤ cap) (hcm : cap ≤ maxLen) (h : RulesIn w a n zs) (hc : polCode zs = c) (h0 : c ≠ 0) : GivesG 13 a n cap c [] w := by
  have H : Hid (RulesIn (w.alloc (.cells #[.int .i64 0, .slice none 0 0] 29)) a n zs) := h.below ((Below.refl _ _).alloc (Nat.le_refl _) _)
  have HC : Hid (polCode zs = c) := hc
  clear h hc
  have hcn : (c != 0) = true := by simpa using h0
  unfold GivesG
  go_enter Try.func13, Try.ntmps13
  go_wp2_with fail
  refine (implPolicyFault_c a n cap zs _ hn hcap hcm H.out).mono ?_
  rintro e w1 ⟨rfl, hb1⟩
  rw [HC.out]
  have hBx : Below w.heap.size w w1 := below_new hb1
  have hw : w.heap.size < w1.heap.size := by have := hb1.size; simp only [World.size_alloc] at this; omega
  have c0 : w1.cell? ⟨w.heap.size, 0, none⟩ = some (.int .i64 0) := (hb1.cell (p := ⟨w.heap.size, 0, none⟩) (by simp)).trans (by simp)
  have c1 : w1.cell? ⟨w.heap.size, 1, none⟩ = some (.slice none 0 0) := (hb1.cell (p := ⟨w.heap.size, 1, none⟩) (by simp)).trans (by simp)
  have f0 : w1.frozen? ⟨w.heap.size, 0, none⟩ = false := (hb1.frozen (p := ⟨w.heap.size, 0, none⟩) (by simp)).trans (by simp [go_sem])
  have f1 : w1.frozen? ⟨w.heap.size, 1, none⟩ = false := (hb1.frozen (p := ⟨w.heap.size, 1, none⟩) (by simp)).trans (by simp [go_sem])
  clear hb1
  go_wp2
  refine bodyPost_ret (v := .agg #[.int .i64 c, .slice none 0 0]) (by simp [results, Try.results13, go_sem, c0, c1, hw]) rfl ⟨none, 0, rfl, World.ownsRow_nil _ _ _ _, ?_⟩
  exact hBx |>.setCell (Nat.le_refl _) _ |>.setCell (Nat.le_refl _) _

set_option maxHeartbeats 1000000 in
theorem implGrantsOf_ok (a : Option Addr) (n cap : Nat) (zs : List RuleI) (gs : List GrI) (w : World) (hcap : n ≤ cap) (hcm : cap ≤ maxLen) (h : RulesIn w a n zs) (hc : polCode zs = 0) (hg : AllG zs gs) : GivesG 13 a n cap 0 gs w := by
  have hn : n ≤ 16 := pol_n16 h.1 hc
  have H : Hid (RulesIn (w.alloc (.cells #[.int .i64 0, .slice none 0 0] 29)) a n zs) := h.below ((Below.refl _ _).alloc (Nat.le_refl _) _)
  have HC : Hid (polCode zs = 0) := hc
  clear h hc
  unfold GivesG
  go_enter Try.func13, Try.ntmps13
  go_wp2_with fail
  refine (implPolicyFault_c a n cap zs _ (by omega) hcap hcm H.out).mono ?_
  rintro e w1 ⟨rfl, hb1⟩
  rw [HC.out]
  have HX : Hid (RulesIn w1 a n zs) := H.out.below hb1
  have B1 : Hid (Below (w.alloc (.cells #[.int .i64 0, .slice none 0 0] 29)).heap.size (w.alloc (.cells #[.int .i64 0, .slice none 0 0] 29)) w1) := hb1
  clear hb1
  go_wp2_with fail
  refine (settle_c a n cap zs w1 HX.out hn HC.out).mono ?_
  rintro e w2 ⟨b, f, rfl, hG, hW, hb, hb2⟩
  have HW : Hid (Work zs f []) := hW
  clear hW
  go_wp2_with fail
  refine (list_c b f w2 hG).mono ?_
  rintro e w3 ⟨v, ys, rfl, hsg, hof, hown, hb3⟩
  obtain rfl := allG_unique (work_end (fun z hz => ((pol_ok HC.out).2 z hz).1) HW.out hsg hof) hg
  obtain ⟨a', cap', rfl⟩ := hown.slice
  have hz1 := B1.out.size
  have hz2 := hb2.size
  have hz3 := hb3.size
  simp only [World.size_alloc] at hz1
  have B2 : Below (w.alloc (.cells #[.int .i64 0, .slice none 0 0] 29)).heap.size (w.alloc (.cells #[.int .i64 0, .slice none 0 0] 29)) w3 := (B1.out.trans (hb2.mono (by simp; omega))).trans (hb3.mono (by simp; omega))
  have hBx : Below w.heap.size w w3 := below_new B2
  have hw : w.heap.size < w3.heap.size := by omega
  have c0 : w3.cell? ⟨w.heap.size, 0, none⟩ = some (.int .i64 0) := (B2.cell (p := ⟨w.heap.size, 0, none⟩) (by simp)).trans (by simp)
  have c1 : w3.cell? ⟨w.heap.size, 1, none⟩ = some (.slice none 0 0) := (B2.cell (p := ⟨w.heap.size, 1, none⟩) (by simp)).trans (by simp)
  have f0 : w3.frozen? ⟨w.heap.size, 0, none⟩ = false := (B2.frozen (p := ⟨w.heap.size, 0, none⟩) (by simp)).trans (by simp [go_sem])
  have f1 : w3.frozen? ⟨w.heap.size, 1, none⟩ = false := (B2.frozen (p := ⟨w.heap.size, 1, none⟩) (by simp)).trans (by simp [go_sem])
  have HF : Hid (Own3 w3 w2.heap.size (.slice a' ys.length cap') ys) := hown
  clear B2 hb2 hb3 hown B1 hG
  go_wp2
  refine bodyPost_ret (v := .agg #[.int .i64 0, .slice a' ys.length cap']) (by simp [results, Try.results13, go_sem, c0, c1, hw]) rfl ⟨a', cap', rfl, ?_, ?_⟩
  · exact HF.out.box (by omega)
  · exact hBx |>.setCell (Nat.le_refl _) _ |>.setCell (Nat.le_refl _) _

end Go.Proofs.Ytdooocjjohdpjaa

namespace Go.Proofs.Ytdooocjjohdpjaa
open Go.RowKit
set_option linter.unusedVariables false
set_option linter.unusedSimpArgs false

theorem ofG_snoc (x : GrI) : ∀ (ys : List GrI), (∀ y ∈ ys, y.1 ≠ x.1) → ∀ r, ofG (ys ++ [x]) r = if r = x.1 then x.2 else ofG ys r
  | [], _, r => by
    show (if x.1 = r then x.2 else 0) = _
    by_cases e : r = x.1
    · rw [if_pos e, if_pos e.symm]
    · rw [if_neg e, if_neg (fun q => e q.symm)]; rfl
  | y :: ys, h, r => by
    show (if y.1 = r then y.2 else ofG (ys ++ [x]) r) = if r = x.1 then x.2 else if y.1 = r then y.2 else ofG ys r
    rw [ofG_snoc x ys (fun z hz => h z (by simp [hz])) r]
    by_cases e : y.1 = r
    · rw [if_pos e, if_pos e, if_neg (fun q => h y (by simp) (e.trans q))]
    · rw [if_neg e, if_neg e]

theorem ofG_take {gs : List GrI} (h : SG gs) {k : Nat} {x : GrI} (hx : gs[k]? = some x) : ofG (gs.take (k + 1)) = giveF (ofG (gs.take k)) x.1 x.2 := by
  have hk : k < gs.length := by
    by_cases q : k < gs.length
    · exact q
    · rw [List.getElem?_eq_none (by omega)] at hx; cases hx
  have e : gs[k] = x := by rw [List.getElem?_eq_getElem hk] at hx; exact Option.some.inj hx
  have hne : ∀ y ∈ gs.take k, y.1 ≠ x.1 := by
    intro y hy q
    obtain ⟨j, hj, ej⟩ := List.mem_iff_getElem.1 hy
    have hjk : j < k := by simp at hj; omega
    rw [List.getElem_take] at ej
    have := (List.pairwise_iff_getElem.1 h.up) j k (by omega) hk hjk
    rw [ej, e, q, ltR_irrefl] at this
    cases this
  have hs : setB x.2 := by
    have := h.st x (List.mem_of_getElem? hx)
    exact ⟨by omega, this.2⟩
  funext r
  rw [List.take_succ_eq_append_getElem hk, e, ofG_snoc x _ hne r]
  unfold giveF
  by_cases er : r = x.1
  · rw [if_pos er, if_pos er, ofG_none hne, zero_or hs]
  · rw [if_neg er, if_neg er]

set_option maxRecDepth 100000 in
set_option maxHeartbeats 2000000 in
theorem grantMapOf_c (a : Option Addr) (n cap : Nat) (gs : List GrI) (w : World) (hg : GrIn w a n gs) (hs : SG gs) :
    Calls Try.prog 57 #[.slice a n cap] w fun e w' => ∃ b, e = .returned (.map (some b)) ∧ GM w' b (ofG gs) ∧ w.heap.size ≤ b ∧ Below w.heap.size w w' := by
  have hn40 : n ≤ 40 := by rw [← hg.1]; exact sg_len hs
  have hn' : (n : Int) ≤ 40 := by omega
  have HG : Hid (GrIn w a n gs) := hg
  have HS : Hid (SG gs) := hs
  have HN : Hid (gs.length = n) := hg.1
  have h1 : Below w.heap.size w (w.alloc (.map #[] 0)) := (Below.refl _ _).alloc (Nat.le_refl _) _
  have hG1 := gm_made w
  have hs1 : w.heap.size < (w.alloc (.map #[] 0)).heap.size := by rw [World.size_alloc]; omega
  have hmk : (Instr.makeMap 87 none).run Try.prog w = .ok (.map (some w.heap.size)) (w.alloc (.map #[] 0)) := run_makeMap _ w
  generalize hw1 : w.alloc (.map #[] 0) = w1 at *
  have HG1 : Hid (GM w1 w.heap.size zeroF) := hG1
  clear hg hs hG1 hw1
  go_enter Try.func57, Try.ntmps57
  go_wp2
  go_loopw [9] (fun i wr => ∃ k : Nat, k ≤ n ∧ i = .int .i64 (k : Int) ∧ GM wr w.heap.size (ofG (gs.take k)) ∧ Below w.heap.size w wr ∧ w.heap.size < wr.heap.size) (fun i _ => n - (intOf i).toNat)
  case atStart => exact ⟨0, Nat.zero_le _, rfl, HG1.out, h1, hs1⟩
  case round =>
    obtain ⟨k, hk, rfl, hG, hnx, hsz⟩ := hrel
    have HGk : Hid (GM wr w.heap.size (ofG (gs.take k))) := hG
    clear hG
    by_cases hltk : k < n
    · obtain ⟨g, off, x, rfl, hx, hxc, _⟩ := HG.out.at hltk
      have hxr : roleB x.1.1 x.1.2 = true := HS.out.ro x (List.mem_of_getElem? hx)
      have hxs : 1 ≤ x.2 ∧ x.2 ≤ 255 := HS.out.st x (List.mem_of_getElem? hx)
      have HE : Hid (ofG (gs.take (k + 1)) = giveF (ofG (gs.take k)) x.1 x.2) := ofG_take HS.out hx
      obtain ⟨c0, c1, c2⟩ := hxc.below hnx (World.block_lt_of_cell? w _ hxc.1)
      clear hx hxc
      have hlt' : (k : Int) < (n : Int) := by omega
      have hwrap : IntKind.u8.wrap x.2 = x.2 := by
        rw [IntKind.wrap_u8]; omega
      have HV : Hid (∀ W : World, Below wr.heap.size wr W → Calls Try.prog 106 #[.map (some w.heap.size), .agg #[.int .i64 x.1.1, .int .i64 x.1.2], .int .u8 x.2] W fun e w' => (∃ t, e = .returned (.bool t)) ∧ GM w' w.heap.size (giveF (ofG (gs.take k)) x.1 x.2) ∧ W.grownBy w' (some w.heap.size)) := fun W hW =>
        (give_c w.heap.size (ofG (gs.take k)) x.1 x.2 W (HGk.out.below hsz hW) hxr ⟨by omega, hxs.2⟩).mono (fun e w' q => ⟨⟨_, q.1⟩, q.2.1, q.2.2⟩)
      have hA : Below wr.heap.size wr (wr.alloc (.cells #[.int .i64 x.1.1, .int .i64 x.1.2, .int .i64 x.2] 37)) := (Below.refl _ _).alloc (Nat.le_refl _) _
      go_wp2_with (first | (go_at_call 106; refine (HV.out _ hA).mono ?_; rintro e w4 ⟨⟨t, rfl⟩, hG4, hg4⟩))
      have hb : Below w.heap.size w (wr.alloc (.cells #[.int .i64 x.1.1, .int .i64 x.1.2, .int .i64 x.2] 37)) := hnx.trans (hA.mono (by omega))
      exact ⟨⟨k + 1, by omega, by go_num, by rw [HE.out]; exact hG4, Below.turn hb hb.size (Nat.le_refl _) hg4, by have := hg4.size; simp only [World.size_alloc] at this; omega⟩, by simp [intOf]; omega⟩
    · have hkn : k = n := by omega
      subst hkn
      go_wp2
      go_ret
      refine ⟨w.heap.size, rfl, ?_, Nat.le_refl _, hnx⟩
      have := HGk.out
      rwa [List.take_of_length_le (by rw [HN.out]; exact Nat.le_refl _)] at this

end Go.Proofs.Ytdooocjjohdpjaa

namespace Go.Proofs.Ytdooocjjohdpjaa
open Go.RowKit
set_option linter.unusedVariables false
set_option linter.unusedSimpArgs false

theorem or64_c (g : Nat) (c d : Int) (w : World) (h0 : w.cell? ⟨g, 0, none⟩ = some (.int .i64 c)) (h1 : w.cell? ⟨g, 1, none⟩ = some (.int .i64 d)) :
    Calls Try.prog 56 #[.slice (some ⟨g, 0, none⟩) 2 2] w fun e w' => e = .returned (.int .i64 (orC c d)) ∧ w = w' := by
  go_enter Try.func56, Try.ntmps56
  go_wp2
  go_loop [8] (fun i => ∃ k : Nat, k ≤ 2 ∧ i = .int .i64 (k : Int) ∧ (1 ≤ k → c = 0) ∧ (2 ≤ k → d = 0)) (fun i => 2 - (intOf i).toNat)
  case atStart => exact ⟨0, by omega, rfl, fun h => by omega, fun h => by omega⟩
  case round =>
    obtain ⟨k, hk, rfl, hc, hd⟩ := hrel
    have hk' : k = 0 ∨ k = 1 ∨ k = 2 := by omega
    rcases hk' with rfl | rfl | rfl
    · clear hc hd
      by_cases e : c = 0
      · have b : (c != 0) = false := by simp [e]
        have HE : Hid (c = 0) := e
        clear e
        go_wp2
        exact ⟨⟨1, by omega, by go_num, fun _ => HE.out, fun h => by omega⟩, by simp [intOf]⟩
      · have b : (c != 0) = true := by simp [e]
        go_wp2
        go_ret
        exact ⟨by simp [orC, e], rfl⟩
    · have HC : Hid (c = 0) := hc (by omega)
      clear hc hd
      by_cases e : d = 0
      · have b : (d != 0) = false := by simp [e]
        have HE : Hid (d = 0) := e
        clear e
        go_wp2
        exact ⟨⟨2, by omega, by go_num, fun _ => HC.out, fun _ => HE.out⟩, by simp [intOf]⟩
      · have b : (d != 0) = true := by simp [e]
        go_wp2
        go_ret
        exact ⟨by simp [orC, HC.out], rfl⟩
    · have HC : Hid (c = 0) := hc (by omega)
      have HD : Hid (d = 0) := hd (by omega)
      clear hc hd
      go_wp2
      go_ret
      exact ⟨by simp [orC, HC.out, HD.out], rfl⟩

theorem kp_new {W w : World} (h : (∀ b o, b < W.heap.size → w.cell? ⟨b, o, none⟩ = W.cell? ⟨b, o, none⟩) ∧ Below W.heap.size W w) (o : Obj) : (∀ b i, b < W.heap.size → (w.alloc o).cell? ⟨b, i, none⟩ = W.cell? ⟨b, i, none⟩) ∧ Below W.heap.size W (w.alloc o) :=
  kp_step h ((Below.refl _ _).alloc (Nat.le_refl _) _)

theorem allRo_ss : SS allRo := by
  unfold SS
  decide

theorem fn_list {f : RoI → Int} (h : FN f) : ∃ gs, SG gs ∧ ofG gs = f := by
  refine ⟨_, sg_keys h (rs := allRo.filter (fun r => decide (f r ≠ 0))) ?_ (fun r => ?_)⟩
  · exact List.Pairwise.sublist List.filter_sublist allRo_ss
  · rw [List.mem_filter]
    exact ⟨fun q => of_decide_eq_true q.2, fun q => ⟨mem_allRo (h.ro r q), decide_eq_true q⟩⟩

theorem gm_list {w : World} {b : Nat} {f : RoI → Int} (h : GM w b f) : ∃ gs, SG gs ∧ ofG gs = f := fn_list h.fn

/-- The fault of the arguments: the policy's, then the role's. -/
def memCode (zs : List RuleI) (r : RoI) : Int := orC (polCode zs) (roleCode r.1 r.2)

def GivesI (f : Nat) (a : Option Addr) (n cap : Nat) (r : RoI) (c v : Int) (w : World) : Prop := Calls Try.prog f #[.slice a n cap, .agg #[.int .i64 r.1, .int .i64 r.2]] w fun e w' => e = .returned (.agg #[.int .i64 c, .int .i64 v]) ∧ Below w.heap.size w w'

set_option maxRecDepth 100000 in
set_option maxHeartbeats 1000000 in
theorem implMembersOf_bad (a : Option Addr) (n cap : Nat) (zs : List RuleI) (r : RoI) (c : Int) (w : World) (hn : n ≤ 1048576) (hcap : n ≤ cap) (hcm : cap ≤ maxLen) (h : RulesIn w a n zs) (hc : memCode zs r = c) (h0 : c ≠ 0) : GivesI 19 a n cap r c 0 w := by
  obtain ⟨W, hW⟩ : ∃ W, W = (w.alloc (.cells #[.int .i64 r.1, .int .i64 r.2] 35)).alloc (.cells #[.int .i64 0, .int .i64 0] 39) := ⟨_, rfl⟩
  have hs : W.heap.size = w.heap.size + 2 := by rw [hW]; simp
  have B0 : Below w.heap.size w W := by rw [hW]; exact ((Below.refl _ _).alloc (Nat.le_refl _) _).alloc (by simp) _
  have r0 : W.cell? ⟨w.heap.size, 0, none⟩ = some (.int .i64 r.1) := by rw [hW]; simp
  have r1 : W.cell? ⟨w.heap.size, 1, none⟩ = some (.int .i64 r.2) := by rw [hW]; simp
  have c0 : W.cell? ⟨w.heap.size + 1, 0, none⟩ = some (.int .i64 0) := by rw [hW]; simp
  have c1 : W.cell? ⟨w.heap.size + 1, 1, none⟩ = some (.int .i64 0) := by rw [hW]; simp
  have f0 : ∀ j, W.frozen? ⟨w.heap.size + 1, j, none⟩ = false := fun j => by rw [hW]; simp [go_sem]
  have HP : Hid (∀ w2 : World, (∀ b o, b < W.heap.size → w2.cell? ⟨b, o, none⟩ = W.cell? ⟨b, o, none⟩) ∧ Below W.heap.size W w2 → Calls Try.prog 23 #[.slice a n cap] w2 fun e w' => e = .returned (.int .i64 (polCode zs)) ∧ Below w2.heap.size w2 w') := fun w2 q => implPolicyFault_c a n cap zs w2 hn hcap hcm (h.below (B0.trans (q.2.mono (by omega))))
  have HC : Hid (orC (polCode zs) (roleCode r.1 r.2) = c) := hc
  clear h hc
  have hcn : (c != 0) = true := by simpa using h0
  generalize polCode zs = p at HP HC
  generalize hq : roleCode r.1 r.2 = q at HC
  unfold GivesI
  go_enter Try.func19, Try.ntmps19
  go_wp2
  rw [← hW]
  clear hW
  go_region_held3 (fun w' => (∀ b o, b < W.heap.size → w'.cell? ⟨b, o, none⟩ = W.cell? ⟨b, o, none⟩) ∧ Below W.heap.size W w') (first | exact hS | exact kp_drew _ | exact kp_new (by assumption) _)
    (first | (go_at_call 23; refine (HP.out _ (by assumption)).mono ?_; rintro e w' ⟨rfl, hb2⟩; have hS := kp_step (by assumption) hb2) | (go_at_call 63; refine (implRoleFault_c _ _ _).mono ?_; rintro e w' ⟨rfl, hb2⟩; rw [hq]; have hS := kp_step (by assumption) hb2) | (go_at_call 56; refine (or64_c _ p q _ ?_ ?_).mono ?_; (· simp [go_sem]); (· simp [go_sem]); rintro e w' ⟨rfl, rfl⟩))
  all_goals
    have hS3 := kp_new hS (.cells #[.int .i64 p, .int .i64 q] 2)
    rw [HC.out]
    generalize w'.alloc (.cells #[.int .i64 p, .int .i64 q] 2) = w3 at hS3 ⊢
    have hz3 := hS3.2.size
    have hw : w.heap.size + 1 < w3.heap.size := by omega
    have d0 := (hS3.1 (w.heap.size + 1) 0 (by omega)).trans c0
    have d1 := (hS3.1 (w.heap.size + 1) 1 (by omega)).trans c1
    have g0 : w3.frozen? ⟨w.heap.size + 1, 0, none⟩ = false := (hS3.2.frozen (p := ⟨w.heap.size + 1, 0, none⟩) (by show w.heap.size + 1 < W.heap.size; omega)).trans (f0 0)
    have g1 : w3.frozen? ⟨w.heap.size + 1, 1, none⟩ = false := (hS3.2.frozen (p := ⟨w.heap.size + 1, 1, none⟩) (by show w.heap.size + 1 < W.heap.size; omega)).trans (f0 1)
    have hBx : Below w.heap.size w w3 := B0.trans (hS3.2.mono (by omega))
    go_wp2
    refine bodyPost_ret (v := .agg #[.int .i64 c, .int .i64 0]) (by simp [results, Try.results19, go_sem, d0, d1, hw]) rfl ⟨rfl, ?_⟩
    exact hBx |>.setCell (by simp) _ |>.setCell (by simp) _

set_option maxRecDepth 100000 in
set_option maxHeartbeats 1000000 in
theorem implMembersOf_ok (a : Option Addr) (n cap : Nat) (zs : List RuleI) (gs : List GrI) (r : RoI) (w : World) (hcap : n ≤ cap) (hcm : cap ≤ maxLen) (h : RulesIn w a n zs) (hc : polCode zs = 0) (hr : roleB r.1 r.2 = true) (hg : AllG zs gs) : GivesI 19 a n cap r 0 (ofG gs r) w := by
  have hn : n ≤ 16 := pol_n16 h.1 hc
  obtain ⟨W, hW⟩ : ∃ W, W = (w.alloc (.cells #[.int .i64 r.1, .int .i64 r.2] 35)).alloc (.cells #[.int .i64 0, .int .i64 0] 39) := ⟨_, rfl⟩
  have hs : W.heap.size = w.heap.size + 2 := by rw [hW]; simp
  have B0 : Below w.heap.size w W := by rw [hW]; exact ((Below.refl _ _).alloc (Nat.le_refl _) _).alloc (by simp) _
  have r0 : W.cell? ⟨w.heap.size, 0, none⟩ = some (.int .i64 r.1) := by rw [hW]; simp
  have r1 : W.cell? ⟨w.heap.size, 1, none⟩ = some (.int .i64 r.2) := by rw [hW]; simp
  have c0 : W.cell? ⟨w.heap.size + 1, 0, none⟩ = some (.int .i64 0) := by rw [hW]; simp
  have c1 : W.cell? ⟨w.heap.size + 1, 1, none⟩ = some (.int .i64 0) := by rw [hW]; simp
  have f0 : ∀ j, W.frozen? ⟨w.heap.size + 1, j, none⟩ = false := fun j => by rw [hW]; simp [go_sem]
  have HP : Hid (∀ w2 : World, (∀ b o, b < W.heap.size → w2.cell? ⟨b, o, none⟩ = W.cell? ⟨b, o, none⟩) ∧ Below W.heap.size W w2 → Calls Try.prog 23 #[.slice a n cap] w2 fun e w' => e = .returned (.int .i64 0) ∧ Below w2.heap.size w2 w') := fun w2 q => by have := implPolicyFault_c a n cap zs w2 (by omega) hcap hcm (h.below (B0.trans (q.2.mono (by omega)))); rwa [hc] at this
  have HT : Hid (∀ w2 : World, Below W.heap.size W w2 → Calls Try.prog 54 #[.slice a n cap] w2.drew fun e w' => ∃ b, e = .returned (.map (some b)) ∧ (Instr.lookup 87 (.map (some b)) (.agg #[.int .i64 r.1, .int .i64 r.2]) false).run Try.prog w' = .ok (.int .u8 (ofG gs r)) w' ∧ Below W.heap.size W w') := fun w2 q => by
    refine (settle_c a n cap zs w2.drew (h.below (B0.trans (q.drew.mono (by omega)))) hn hc).mono ?_
    rintro e w' ⟨b, f, rfl, hG, hWk, hb, hb2⟩
    have e : ofG gs = f := by
      obtain ⟨gs', h1, h2⟩ := gm_list hG
      have := allG_unique (work_end (fun z hz => ((pol_ok hc).2 z hz).1) hWk h1 h2) hg
      rw [← this]; exact h2
    subst e
    exact ⟨b, rfl, gm_look hG (roW_of hr), q.drew.trans (hb2.mono (by have := q.size; exact this))⟩
  have hwrap : IntKind.i64.wrap (ofG gs r) = ofG gs r := by
    have := (ofG_set hg.sg r).1
    have := (ofG_set hg.sg r).2
    rw [IntKind.wrap_i64]; omega
  have hq : roleCode r.1 r.2 = 0 := by simp [roleCode, hr]
  clear h hc
  generalize ofG gs r = v at HT hwrap ⊢
  unfold GivesI
  go_enter Try.func19, Try.ntmps19
  go_wp2
  rw [← hW]
  clear hW
  go_region_held3 (fun w' => (∀ b o, b < W.heap.size → w'.cell? ⟨b, o, none⟩ = W.cell? ⟨b, o, none⟩) ∧ Below W.heap.size W w') (first | exact hS | exact kp_drew _ | exact kp_new (by assumption) _)
    (first | (go_at_call 23; refine (HP.out _ (by assumption)).mono ?_; rintro e w' ⟨rfl, hb2⟩; have hS := kp_step (by assumption) hb2) | (go_at_call 63; refine (implRoleFault_c _ _ _).mono ?_; rintro e w' ⟨rfl, hb2⟩; rw [hq]; have hS := kp_step (by assumption) hb2) | (go_at_call 56; refine (or64_c _ 0 0 _ ?_ ?_).mono ?_; (· simp [go_sem]); (· simp [go_sem]); rintro e w' ⟨rfl, rfl⟩))
  all_goals
    have hS3 := kp_new hS (.cells #[.int .i64 0, .int .i64 0] 2)
    rw [show orC 0 0 = 0 from rfl]
    generalize w'.alloc (.cells #[.int .i64 0, .int .i64 0] 2) = w3 at hS3 ⊢
    have hz3 := hS3.2.size
    have q0 := (hS3.1 w.heap.size 0 (by omega)).trans r0
    have q1 := (hS3.1 w.heap.size 1 (by omega)).trans r1
    go_wp2
    go_region_with (first | (go_at_call 54; refine (HT.out _ hS3.2).mono ?_; rintro e w4 ⟨b, rfl, hlk, hb4⟩; have q2 := (hb4.cell (p := ⟨w.heap.size, 0, none⟩) (by show w.heap.size < W.heap.size; omega)).trans r0; have q3 := (hb4.cell (p := ⟨w.heap.size, 1, none⟩) (by show w.heap.size < W.heap.size; omega)).trans r1; have d0 := (hb4.cell (p := ⟨w.heap.size + 1, 0, none⟩) (by show w.heap.size + 1 < W.heap.size; omega)).trans c0; have d1 := (hb4.cell (p := ⟨w.heap.size + 1, 1, none⟩) (by show w.heap.size + 1 < W.heap.size; omega)).trans c1; have g0 := (hb4.frozen (p := ⟨w.heap.size + 1, 0, none⟩) (by show w.heap.size + 1 < W.heap.size; omega)).trans (f0 0); have g1 := (hb4.frozen (p := ⟨w.heap.size + 1, 1, none⟩) (by show w.heap.size + 1 < W.heap.size; omega)).trans (f0 1); have hz4 := hb4.size))
  all_goals
    have hw : w.heap.size + 1 < w4.heap.size := by omega
    have hBx : Below w.heap.size w w4 := B0.trans (hb4.mono (by omega))
    go_wp2
    refine bodyPost_ret (v := .agg #[.int .i64 0, .int .i64 v]) (by simp [results, Try.results19, go_sem, d0, d1, hw]) rfl ⟨rfl, ?_⟩
    exact hBx |>.setCell (by simp) _ |>.setCell (by simp) _

end Go.Proofs.Ytdooocjjohdpjaa

namespace Go.Proofs.Ytdooocjjohdpjaa
open Go.RowKit

def setIn (s : Int) : Bool := decide (0 ≤ s) && decide (s ≤ 255)

/-- The grant ahead stands ahead. -/
def prevB (gs : List GrI) (k : Nat) (x : GrI) : Bool := match k with
  | 0 => true
  | j + 1 => match gs[j]? with | some y => ltR y.1 x.1 | none => true

def gfOne (gs : List GrI) (k : Nat) (x : GrI) : Int := if roleB x.1.1 x.1.2 = false then 3 else if setIn x.2 = false then 3 else if x.2 = 0 then 1 else if prevB gs k x = false then 1 else 0

def gfTo (gs : List GrI) : Nat → Int
  | 0 => 0
  | k + 1 => if gfTo gs k ≠ 0 then gfTo gs k else match gs[k]? with
    | none => 0
    | some x => gfOne gs k x

def gfCode (gs : List GrI) : Int := if 40 < gs.length then 2 else gfTo gs gs.length

theorem gfTo_stay (gs : List GrI) (k m : Nat) (c : Int) (hc : c ≠ 0) (h : gfTo gs k = c) (hm : k ≤ m) : gfTo gs m = c := by
  induction m with
  | zero => obtain rfl : k = 0 := by omega
            exact h
  | succ m ih =>
    by_cases e : k = m + 1
    · subst e; exact h
    · have := ih (by omega)
      simp only [gfTo, this]
      rw [if_pos hc]

theorem gfTo_next {gs : List GrI} {k : Nat} {x : GrI} (hk : gs[k]? = some x) (h0 : gfTo gs k = 0) : gfTo gs (k + 1) = gfOne gs k x := by
  simp [gfTo, h0, hk]

theorem gfOne_zero {gs : List GrI} {k : Nat} {x : GrI} : gfOne gs k x = 0 ↔ roleB x.1.1 x.1.2 = true ∧ (1 ≤ x.2 ∧ x.2 ≤ 255) ∧ prevB gs k x = true := by
  unfold gfOne setIn
  cases h1 : roleB x.1.1 x.1.2 <;> cases h2 : prevB gs k x <;> simp
  · intro h3
    split at h3 <;> cases h3
  · constructor
    · intro h
      split at h
      · cases h
      · rename_i q
        split at h
        · cases h
        · simp at q; omega
    · intro h
      rw [if_neg (by simp; omega), if_neg (by omega)]

theorem gf_take {gs : List GrI} : ∀ k, k ≤ gs.length → gfTo gs k = 0 → SG (gs.take k)
  | 0, _, _ => by simpa using sg_nil
  | k + 1, hk, h => by
    have h0 : gfTo gs k = 0 := by
      by_cases q : gfTo gs k = 0
      · exact q
      · exact absurd (gfTo_stay gs k (k + 1) _ q rfl (by omega)) (by rw [h]; exact fun e => q e.symm)
    have hx : gs[k]? = some gs[k] := List.getElem?_eq_getElem (by omega)
    rw [gfTo_next hx h0] at h
    obtain ⟨h1, h2, h3⟩ := gfOne_zero.1 h
    have i := gf_take k (by omega) h0
    rw [List.take_succ_eq_append_getElem (by omega)]
    refine ⟨List.pairwise_append.2 ⟨i.up, by simp, fun a ha b hb => ?_⟩, fun x hx => ?_, fun x hx => ?_⟩
    · simp at hb
      rw [hb]
      obtain ⟨j, hj⟩ := List.mem_iff_getElem?.1 ha
      have hjk : j < k := by
        by_cases q : j < k
        · exact q
        · rw [List.getElem?_eq_none (by simp; omega)] at hj; cases hj
      match k, hk, hx, h3, i, ha, hj, hjk with
      | m + 1, hk, hx, h3, i, ha, hj, hjk =>
        have hy : gs[m]? = some gs[m] := List.getElem?_eq_getElem (by omega)
        simp only [prevB, hy] at h3
        by_cases e : j = m
        · subst e
          rw [List.getElem?_take, if_pos (by omega), hy] at hj
          rw [← Option.some.inj hj]
          exact h3
        · have hp := List.pairwise_iff_getElem.1 i.up j m (by simp; omega) (by simp; omega) (by omega)
          rw [List.getElem_take, List.getElem_take] at hp
          rw [List.getElem?_take, if_pos (by omega), List.getElem?_eq_getElem (by omega)] at hj
          rw [← Option.some.inj hj]
          exact ltR_trans hp h3
    · rcases List.mem_append.1 hx with q | q
      · exact i.ro x q
      · simp at q; rw [q]; exact h1
    · rcases List.mem_append.1 hx with q | q
      · exact i.st x q
      · simp at q; rw [q]; exact h2

theorem gf_sg {gs : List GrI} (h : gfCode gs = 0) : SG gs := by
  unfold gfCode at h
  split at h
  · cases h
  · have := gf_take gs.length (Nat.le_refl _) h
    rwa [List.take_length] at this

theorem sg_gf {gs : List GrI} (h : SG gs) : gfCode gs = 0 := by
  have hl := sg_len h
  unfold gfCode
  rw [if_neg (by omega)]
  have key : ∀ k, k ≤ gs.length → gfTo gs k = 0 := by
    intro k
    induction k with
    | zero => intro _; rfl
    | succ k ih =>
      intro hk
      have hx : gs[k]? = some gs[k] := List.getElem?_eq_getElem (by omega)
      rw [gfTo_next hx (ih (by omega))]
      refine gfOne_zero.2 ⟨h.ro _ (List.getElem_mem _), h.st _ (List.getElem_mem _), ?_⟩
      match k, hk, hx with
      | 0, _, _ => rfl
      | j + 1, hk, _ =>
        simp only [prevB, List.getElem?_eq_getElem (show j < gs.length by omega)]
        exact List.pairwise_iff_getElem.1 h.up j (j + 1) (by omega) (by omega) (by omega)
  exact key _ (Nat.le_refl _)

theorem prevB_of {gs : List GrI} {j : Nat} {y : GrI} (h : gs[j]? = some y) (x : GrI) : prevB gs (j + 1) x = ltR y.1 x.1 := by simp [prevB, h]

end Go.Proofs.Ytdooocjjohdpjaa
