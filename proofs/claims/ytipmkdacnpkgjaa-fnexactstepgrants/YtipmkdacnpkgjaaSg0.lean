/-
  CONTRACTS: impl.grantMapOf: a map out of grants.
  Conditions: each contract bears its own.
-/
import Derived.Test.YtipmkdacnpkgjaaMp8
import Derived.Test.YtipmkdacnpkgjaaGs0
namespace Go.Proofs.Ytipmkdacnpkgjaa
open Go.RowKit
set_option linter.unusedVariables false
set_option linter.unusedSimpArgs false

theorem ofG_snoc (x : GrI) : ∀ (ys : List GrI), (∀ y ∈ ys, y.1 ≠ x.1) → ∀ r, ofG (ys ++ [x]) r = if r = x.1 then x.2 else ofG ys r
  | [], _, r => by
    show (if x.1 = r then x.2 else 0) = _
    by_cases e : r = x.1
    · rw [if_pos e, if_pos e.symm]
    · rw [if_neg e, if_neg (fun q => e q.symm)]; rfl
  | y :: ys, h, r => by
    show (if y.1 = r then y.2 else ofG (ys ++ [x]) r) = if r = x.1 then x.2 else if y.1 = r then y.2 else ofG ys r
    rw [ofG_snoc x ys (fun z hz => h z (by simp [hz])) r]
    by_cases e : y.1 = r
    · rw [if_pos e, if_pos e, if_neg (fun q => h y (by simp) (e.trans q))]
    · rw [if_neg e, if_neg e]

theorem ofG_take {gs : List GrI} (h : SG gs) {k : Nat} {x : GrI} (hx : gs[k]? = some x) : ofG (gs.take (k + 1)) = giveF (ofG (gs.take k)) x.1 x.2 := by
  have hk : k < gs.length := by
    by_cases q : k < gs.length
    · exact q
    · rw [List.getElem?_eq_none (by omega)] at hx; cases hx
  have e : gs[k] = x := by rw [List.getElem?_eq_getElem hk] at hx; exact Option.some.inj hx
  have hne : ∀ y ∈ gs.take k, y.1 ≠ x.1 := by
    intro y hy q
    obtain ⟨j, hj, ej⟩ := List.mem_iff_getElem.1 hy
    have hjk : j < k := by simp at hj; omega
    rw [List.getElem_take] at ej
    have := (List.pairwise_iff_getElem.1 h.up) j k (by omega) hk hjk
    rw [ej, e, q, ltR_irrefl] at this
    cases this
  have hs : setB x.2 := by
    have := h.st x (List.mem_of_getElem? hx)
    exact ⟨by omega, this.2⟩
  funext r
  rw [List.take_succ_eq_append_getElem hk, e, ofG_snoc x _ hne r]
  unfold giveF
  by_cases er : r = x.1
  · rw [if_pos er, if_pos er, ofG_none hne, zero_or hs]
  · rw [if_neg er, if_neg er]

set_option maxRecDepth 100000 in
set_option maxHeartbeats 2000000 in
theorem grantMapOf_c (a : Option Addr) (n cap : Nat) (gs : List GrI) (w : World) (hg : GrIn w a n gs) (hs : SG gs) :
    Calls Try.prog 48 #[.slice a n cap] w fun e w' => ∃ b, e = .returned (.map (some b)) ∧ GM w' b (ofG gs) ∧ w.heap.size ≤ b ∧ Below w.heap.size w w' := by
  have hn40 : n ≤ 40 := by rw [← hg.1]; exact sg_len hs
  have hn' : (n : Int) ≤ 40 := by omega
  have HG : Hid (GrIn w a n gs) := hg
  have HS : Hid (SG gs) := hs
  have HN : Hid (gs.length = n) := hg.1
  have h1 : Below w.heap.size w (w.alloc (.map #[] 0)) := (Below.refl _ _).alloc (Nat.le_refl _) _
  have hG1 := gm_made w
  have hs1 : w.heap.size < (w.alloc (.map #[] 0)).heap.size := by rw [World.size_alloc]; omega
  have hmk : (Instr.makeMap 73 none).run Try.prog w = .ok (.map (some w.heap.size)) (w.alloc (.map #[] 0)) := run_makeMap _ w
  generalize hw1 : w.alloc (.map #[] 0) = w1 at *
  have HG1 : Hid (GM w1 w.heap.size zeroF) := hG1
  clear hg hs hG1 hw1
  go_enter Try.func48, Try.ntmps48
  go_wp2
  go_loopw [9] (fun i wr => ∃ k : Nat, k ≤ n ∧ i = .int .i64 (k : Int) ∧ GM wr w.heap.size (ofG (gs.take k)) ∧ Below w.heap.size w wr ∧ w.heap.size < wr.heap.size) (fun i _ => n - (intOf i).toNat)
  case atStart => exact ⟨0, Nat.zero_le _, rfl, HG1.out, h1, hs1⟩
  case round =>
    obtain ⟨k, hk, rfl, hG, hnx, hsz⟩ := hrel
    have HGk : Hid (GM wr w.heap.size (ofG (gs.take k))) := hG
    clear hG
    by_cases hltk : k < n
    · obtain ⟨g, off, x, rfl, hx, hxc, _⟩ := HG.out.at hltk
      have hxr : roleB x.1.1 x.1.2 = true := HS.out.ro x (List.mem_of_getElem? hx)
      have hxs : 1 ≤ x.2 ∧ x.2 ≤ 255 := HS.out.st x (List.mem_of_getElem? hx)
      have HE : Hid (ofG (gs.take (k + 1)) = giveF (ofG (gs.take k)) x.1 x.2) := ofG_take HS.out hx
      obtain ⟨c0, c1, c2⟩ := hxc.below hnx (World.block_lt_of_cell? w _ hxc.1)
      clear hx hxc
      have hlt' : (k : Int) < (n : Int) := by omega
      have hwrap : IntKind.u8.wrap x.2 = x.2 := by
        rw [IntKind.wrap_u8]; omega
      have HV : Hid (∀ W : World, Below wr.heap.size wr W → Calls Try.prog 85 #[.map (some w.heap.size), .agg #[.int .i64 x.1.1, .int .i64 x.1.2], .int .u8 x.2] W fun e w' => (∃ t, e = .returned (.bool t)) ∧ GM w' w.heap.size (giveF (ofG (gs.take k)) x.1 x.2) ∧ W.grownBy w' (some w.heap.size)) := fun W hW =>
        (give_c w.heap.size (ofG (gs.take k)) x.1 x.2 W (HGk.out.below hsz hW) hxr ⟨by omega, hxs.2⟩).mono (fun e w' q => ⟨⟨_, q.1⟩, q.2.1, q.2.2⟩)
      have hA : Below wr.heap.size wr (wr.alloc (.cells #[.int .i64 x.1.1, .int .i64 x.1.2, .int .i64 x.2] 37)) := (Below.refl _ _).alloc (Nat.le_refl _) _
      go_wp2_with (first | (go_at_call 85; refine (HV.out _ hA).mono ?_; rintro e w4 ⟨⟨t, rfl⟩, hG4, hg4⟩))
      have hb : Below w.heap.size w (wr.alloc (.cells #[.int .i64 x.1.1, .int .i64 x.1.2, .int .i64 x.2] 37)) := hnx.trans (hA.mono (by omega))
      exact ⟨⟨k + 1, by omega, by go_num, by rw [HE.out]; exact hG4, Below.turn hb hb.size (Nat.le_refl _) hg4, by have := hg4.size; simp only [World.size_alloc] at this; omega⟩, by simp [intOf]; omega⟩
    · have hkn : k = n := by omega
      subst hkn
      go_wp2
      go_ret
      refine ⟨w.heap.size, rfl, ?_, Nat.le_refl _, hnx⟩
      have := HGk.out
      rwa [List.take_of_length_le (by rw [HN.out]; exact Nat.le_refl _)] at this

end Go.Proofs.Ytipmkdacnpkgjaa
