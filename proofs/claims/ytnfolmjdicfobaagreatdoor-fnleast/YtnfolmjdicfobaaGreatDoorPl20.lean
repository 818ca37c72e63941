/-
  CONTRACTS: slices.AppendSeq, slices.Collect, slices.SortedFunc over the keys of the map of grants: the roles that somebody has, rising.
  Conditions: each contract bears its own.
  CONTRACTS: slices.SortedFunc over the keys of the map of grants; (impl.grantMap).list: the grants, rising.
  Conditions: each contract bears its own.
  CONTRACTS: GrantsOf of both programs, at every slice of rules.
  Conditions: each contract bears its own.
  CONTRACTS: MembersOf of both programs.
  Conditions: each contract bears its own.
-/
import Derived.Test.YtnfolmjdicfobaaGreatDoorPl19
import Derived.Deep.AppendLies
import Derived.Test.YtnfolmjdicfobaaGreatDoorPl07
import Derived.Shelf.SlSortCmp.NoneTotal
import Derived.Deep.RegionLaw
import Derived.Test.YtnfolmjdicfobaaGreatDoorPl14
import Derived.Test.YtnfolmjdicfobaaGreatDoorPl15
import Derived.Test.YtnfolmjdicfobaaGreatDoorPl18
import Derived.Test.YtnfolmjdicfobaaGreatDoorPl17
import Derived.Test.YtnfolmjdicfobaaGreatDoorPl01
namespace Go.Proofs.YtnfolmjdicfobaaGreatDoor
open Go.RowKit Go.Shelf Go.Maps
attribute [local go_sem] Oper.semAt_some
attribute [local go_sem] wide_fn
attribute [local simp] wide_fn
set_option linter.unusedVariables false
set_option linter.unusedSimpArgs false

theorem flat2_snoc (a : List RoI) (x : RoI) : flat2 (a ++ [x]) = flat2 a ++ [.int .i64 x.1, .int .i64 x.2] := by rw [flat2_append]; rfl

/-- A block of cells is kept while others are turned that hold no cells. -/
theorem block_own (B : Nat) (cs : Array Value) (t : TypeId) : Own (fun (_ : Unit) W => W.heap[B]? = some (.cells cs t (0, 0))) := fun s X Y row hs hg hrow => by
  refine (hg.block B (Array.getElem?_eq_some_iff.1 hs).1 (fun e => ?_)).trans hs
  obtain ⟨o, ho, hc⟩ := hrow B e.symm
  rw [hs] at ho
  cases ho
  cases hc

end Go.Proofs.YtnfolmjdicfobaaGreatDoor

namespace Go.Proofs.YtnfolmjdicfobaaGreatDoor
open Go.RowKit Go.Maps Go.Proofs
set_option linter.unusedVariables false
set_option linter.unusedSimpArgs false

theorem ss_of_sorted {xs ys : List RoI} (hl : ys.length = xs.length) (hm : ∀ x, x ∈ ys ↔ x ∈ xs) (hs : ys.Pairwise (fun a b => ltR b a = false)) (hn : xs.Nodup) : SS ys := by
  refine List.pairwise_iff_getElem.2 (fun i j hi hj hij => ?_)
  cases e : ltR ys[i] ys[j]
  · have h2 := List.pairwise_iff_getElem.1 hs i j hi hj hij
    have eq : ys[i] = ys[j] := Classical.byContradiction fun q => by
      have := ltR_total e q
      rw [h2] at this; cases this
    have := nodup_len xs (ys.eraseIdx j) hn (fun x hx => by
      obtain ⟨k, hk, ek⟩ := List.mem_iff_getElem.1 ((hm x).2 hx)
      refine List.mem_eraseIdx_iff_getElem.2 ?_
      by_cases q : k = j
      · subst q
        exact ⟨i, hi, by omega, by rw [eq, ek]⟩
      · exact ⟨k, hk, q, ek⟩)
    rw [List.length_eraseIdx] at this
    split at this <;> omega
  · rfl

theorem owns_at2 {w : World} {B : Nat} {v : Value} {ys : List RoI} (h : Owns2 w B v ys) : ∃ a cap, v = .slice a ys.length cap ∧ ∀ k r, ys[k]? = some r → ∃ g, a = some ⟨g, 0, none⟩ ∧ B ≤ g ∧ w.cell? ⟨g, k * 2, none⟩ = some (.int .i64 r.1) ∧ w.cell? ⟨g, k * 2 + 1, none⟩ = some (.int .i64 r.2) := by
  rcases h.2 with ⟨rfl, h0⟩ | ⟨g, cap, cur, rfl, hg, _⟩
  · have hy : ys = [] := List.eq_nil_of_length_eq_zero h0
    subst hy
    exact ⟨none, 0, rfl, fun k r e => by simp at e⟩
  · refine ⟨_, cap, rfl, fun k r e => ⟨g, rfl, hg, ?_, ?_⟩⟩
    · have hk : k < ys.length := by
        by_cases q : k < ys.length
        · exact q
        · rw [List.getElem?_eq_none (by omega)] at e; cases e
      exact (World.ownsRow.cellAt h (k * 2) (by omega)).trans (flat2_fst ys k r e)
    · have hk : k < ys.length := by
        by_cases q : k < ys.length
        · exact q
        · rw [List.getElem?_eq_none (by omega)] at e; cases e
      exact (World.ownsRow.cellAt h (k * 2 + 1) (by omega)).trans (flat2_snd ys k r e)

theorem flat3_snoc (a : List GrI) (x : GrI) : flat3 (a ++ [x]) = flat3 a ++ [.int .i64 x.1.1, .int .i64 x.1.2, .int .i64 x.2] := by rw [flat3_append]; rfl

theorem owns_lower3 {w : World} {B B' : Nat} {v : Value} {gs : List GrI} (h : Own3 w B v gs) (hB : B' ≤ B) : Own3 w B' v gs := by
  refine ⟨h.1, ?_⟩
  rcases h.2 with q | ⟨g, cap, cur, e, hg, rest⟩
  · exact .inl q
  · exact .inr ⟨g, cap, cur, e, Nat.le_trans hB hg, rest⟩

end Go.Proofs.YtnfolmjdicfobaaGreatDoor

namespace Go.Proofs.YtnfolmjdicfobaaGreatDoor
open Go.RowKit
set_option linter.unusedVariables false
set_option linter.unusedSimpArgs false

def GivesG (f : Nat) (a : Option Addr) (n cap : Nat) (c : Int) (ys : List GrI) (w : World) : Prop := Calls Tryz.prog f #[.slice a n cap] w fun e w' => ∃ (a' : Option Addr) (cap' : Nat), e = .returned (.agg #[.int .i64 c, .slice a' ys.length cap']) ∧ Own3 w' w.heap.size (.slice a' ys.length cap') ys ∧ Below w.heap.size w w'

theorem all_some (zs : List RuleI) (hc : polCode zs = 0) : ∃ gs, AllG zs gs := by
  have hz : ∀ z ∈ zs, okR z := fun z h => ((pol_ok hc).2 z h).1
  obtain ⟨n, _, h⟩ := it_ends hz
  exact ⟨_, allG_it hz h⟩

theorem pol_n16 {zs : List RuleI} {n : Nat} (h : zs.length = n) (hc : polCode zs = 0) : n ≤ 16 := by
  unfold polCode at hc
  split at hc
  · simp at hc
  · omega

theorem Own3.box {w : World} {B b0 : Nat} {v x y : Value} {gs : List GrI} (h : Own3 w B v gs) (hB : b0 < B) : Own3 ((w.setCell ⟨b0, 0, none⟩ x).setCell ⟨b0, 1, none⟩ y) b0 v gs := by
  have h6 : Own3 w (b0 + 1) v gs := owns_lower3 h (by omega)
  have h7 := ownsRow_setCell_below (ownsRow_setCell_below h6 (a := ⟨b0, 0, none⟩) (by simp) x) (a := ⟨b0, 1, none⟩) (by simp) y
  exact owns_lower3 h7 (by omega)

end Go.Proofs.YtnfolmjdicfobaaGreatDoor

namespace Go.Proofs.YtnfolmjdicfobaaGreatDoor
open Go.RowKit
set_option linter.unusedVariables false
set_option linter.unusedSimpArgs false

theorem or64_c (g : Nat) (c d : Int) (w : World) (h0 : w.cell? ⟨g, 0, none⟩ = some (.int .i64 c)) (h1 : w.cell? ⟨g, 1, none⟩ = some (.int .i64 d)) :
    Calls Tryz.prog 85 #[.slice (some ⟨g, 0, none⟩) 2 2] w fun e w' => e = .returned (.int .i64 (orC c d)) ∧ w = w' := by
  go_enter Tryz.func85, Tryz.ntmps85
  go_wp2
  go_loop [8] (fun i => ∃ k : Nat, k ≤ 2 ∧ i = .int .i64 (k : Int) ∧ (1 ≤ k → c = 0) ∧ (2 ≤ k → d = 0)) (fun i => 2 - (intOf i).toNat)
  case atStart => exact ⟨0, by omega, rfl, fun h => by omega, fun h => by omega⟩
  case round =>
    obtain ⟨k, hk, rfl, hc, hd⟩ := hrel
    have hk' : k = 0 ∨ k = 1 ∨ k = 2 := by omega
    rcases hk' with rfl | rfl | rfl
    · clear hc hd
      by_cases e : c = 0
      · have b : (c != 0) = false := by simp [e]
        have HE : Hid (c = 0) := e
        clear e
        go_wp2
        exact ⟨⟨1, by omega, by go_num, fun _ => HE.out, fun h => by omega⟩, by simp [intOf]⟩
      · have b : (c != 0) = true := by simp [e]
        go_wp2
        go_ret
        exact ⟨by simp [orC, e], rfl⟩
    · have HC : Hid (c = 0) := hc (by omega)
      clear hc hd
      by_cases e : d = 0
      · have b : (d != 0) = false := by simp [e]
        have HE : Hid (d = 0) := e
        clear e
        go_wp2
        exact ⟨⟨2, by omega, by go_num, fun _ => HC.out, fun _ => HE.out⟩, by simp [intOf]⟩
      · have b : (d != 0) = true := by simp [e]
        go_wp2
        go_ret
        exact ⟨by simp [orC, HC.out], rfl⟩
    · have HC : Hid (c = 0) := hc (by omega)
      have HD : Hid (d = 0) := hd (by omega)
      clear hc hd
      go_wp2
      go_ret
      exact ⟨by simp [orC, HC.out, HD.out], rfl⟩

theorem kp_new {W w : World} (h : (∀ b o, b < W.heap.size → w.cell? ⟨b, o, none⟩ = W.cell? ⟨b, o, none⟩) ∧ Below W.heap.size W w) (o : Obj) : (∀ b i, b < W.heap.size → (w.alloc o).cell? ⟨b, i, none⟩ = W.cell? ⟨b, i, none⟩) ∧ Below W.heap.size W (w.alloc o) :=
  kp_step h ((Below.refl _ _).alloc (Nat.le_refl _) _)

theorem allRo_ss : SS allRo := by
  unfold SS
  decide

theorem fn_list {f : RoI → Int} (h : FN f) : ∃ gs, SG gs ∧ ofG gs = f := by
  refine ⟨_, sg_keys h (rs := allRo.filter (fun r => decide (f r ≠ 0))) ?_ (fun r => ?_)⟩
  · exact List.Pairwise.sublist List.filter_sublist allRo_ss
  · rw [List.mem_filter]
    exact ⟨fun q => of_decide_eq_true q.2, fun q => ⟨mem_allRo (h.ro r q), decide_eq_true q⟩⟩

theorem gm_list {w : World} {b : Nat} {f : RoI → Int} (h : GM w b f) : ∃ gs, SG gs ∧ ofG gs = f := fn_list h.fn

/-- The fault of the arguments: the policy's, then the role's. -/
def memCode (zs : List RuleI) (r : RoI) : Int := orC (polCode zs) (roleCode r.1 r.2)

def GivesI (f : Nat) (a : Option Addr) (n cap : Nat) (r : RoI) (c v : Int) (w : World) : Prop := Calls Tryz.prog f #[.slice a n cap, .agg #[.int .i64 r.1, .int .i64 r.2]] w fun e w' => e = .returned (.agg #[.int .i64 c, .int .i64 v]) ∧ Below w.heap.size w w'

end Go.Proofs.YtnfolmjdicfobaaGreatDoor
