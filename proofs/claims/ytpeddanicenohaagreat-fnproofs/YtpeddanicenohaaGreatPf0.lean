/-
  CONTRACTS: spec.l3Rule: the first rule that gives a role to a principal.
  Conditions: each contract bears its own.
-/
import Derived.Test.YtpeddanicenohaaGreatGr3
import Derived.Test.YtpeddanicenohaaGreatGr8
import Derived.Test.YtpeddanicenohaaGreatGs0
import Derived.BigQuiet
namespace Go.Proofs.YtpeddanicenohaaGreat
open Go.RowKit
set_option linter.unusedVariables false
set_option linter.unusedSimpArgs false
attribute [local go_sem ↓] ro_eql

/-- The first rule of a list that gives the role, from a place on; -1: none. -/
def hitAt (f : RoI → Int) (r : RoI) (p : Int) : List RuleI → Int → Int
  | [], _ => -1
  | z :: zs, i => if hitB f r p z = true then i else hitAt f r p zs (i + 1)

theorem hitAt_drop {zs : List RuleI} {k : Nat} {z : RuleI} (h : zs[k]? = some z) (f : RoI → Int) (r : RoI) (p i : Int) : hitAt f r p (zs.drop k) i = if hitB f r p z = true then i else hitAt f r p (zs.drop (k + 1)) (i + 1) := by
  have hk : k < zs.length := by
    by_cases q : k < zs.length
    · exact q
    · rw [List.getElem?_eq_none (by omega)] at h; cases h
  have e : zs[k] = z := by rw [List.getElem?_eq_getElem hk] at h; exact Option.some.inj h
  rw [List.drop_eq_getElem_cons hk, e]
  rfl

theorem hitB_eq (f : RoI → Int) (r : RoI) (p : Int) (z : RuleI) : hitB f r p z = (eqRo (z.ho, z.hn) r && hasI (byF f z) p) := by
  unfold hitB
  congr 1
  rw [Bool.eq_iff_iff, eqRo_iff, decide_eq_true_iff]

set_option maxRecDepth 100000 in
set_option maxHeartbeats 2000000 in
theorem l3Rule_c (a : Option Addr) (n d : Nat) (zs : List RuleI) (b : Option Addr) (m c : Nat) (gs : List GrI) (r : RoI) (p : Int) (w : World) (hr : RulesIn w a n zs) (hn : n ≤ 1000) (hg : GrIn w b m gs) (hs : SG gs) (p0 : 1 ≤ p) (p1 : p ≤ 8) (hz : ∀ z ∈ zs, okR z ∧ 1 ≤ z.k ∧ z.k ≤ 4) :
    Calls Tryz.prog 21 #[.slice a n d, .slice b m c, .agg #[.int .i64 r.1, .int .i64 r.2], .int .i64 p] w fun e w' => e = .returned (.int .i64 (hitAt (ofG gs) r p zs 0)) ∧ Below w.heap.size w w' := by
  have B0 : Below w.heap.size w (w.alloc (.cells #[.int .i64 r.1, .int .i64 r.2] 26)) := (Below.refl _ _).alloc (Nat.le_refl _) _
  have R0 : Hid ((w.alloc (.cells #[.int .i64 r.1, .int .i64 r.2] 26)).cell? ⟨w.heap.size, 0, none⟩ = some (.int .i64 r.1) ∧ (w.alloc (.cells #[.int .i64 r.1, .int .i64 r.2] 26)).cell? ⟨w.heap.size, 1, none⟩ = some (.int .i64 r.2)) := ⟨by simp, by simp⟩
  have hs0 : w.heap.size < (w.alloc (.cells #[.int .i64 r.1, .int .i64 r.2] 26)).heap.size := by simp
  have HR : Hid (RulesIn w a n zs) := hr
  have HZ : Hid (∀ z ∈ zs, okR z ∧ 1 ≤ z.k ∧ z.k ≤ 4) := hz
  have HG : Hid (GrIn w b m gs) := hg
  have HS : Hid (SG gs) := hs
  have hm : m ≤ 1048576 := by have := sg_len hs; have := hg.1; omega
  have hn' : (n : Int) ≤ 1000 := by omega
  clear hr hz hg hs
  go_enter Tryz.func21, Tryz.ntmps21
  go_wp2
  go_loopw [9] (fun i wr => ∃ k : Nat, k ≤ n ∧ i = .int .i64 (k : Int) ∧ hitAt (ofG gs) r p zs 0 = hitAt (ofG gs) r p (zs.drop k) (k : Int) ∧ Below w.heap.size w wr ∧ (wr.cell? ⟨w.heap.size, 0, none⟩ = some (.int .i64 r.1) ∧ wr.cell? ⟨w.heap.size, 1, none⟩ = some (.int .i64 r.2)) ∧ w.heap.size < wr.heap.size) (fun i _ => n - (intOf i).toNat)
  case atStart => exact ⟨0, Nat.zero_le _, rfl, rfl, B0, R0.out, hs0⟩
  case round =>
    obtain ⟨k, hk, rfl, hof, hnx, ⟨r0, r1⟩, hsz⟩ := hrel
    have HF : Hid (hitAt (ofG gs) r p zs 0 = hitAt (ofG gs) r p (zs.drop k) (k : Int)) := hof
    clear hof
    by_cases hlt : k < n
    · obtain ⟨g, off, z, e, hzk, hra⟩ := (HR.out.below hnx).at hlt
      subst e
      have hzm : z ∈ zs := List.mem_of_getElem? hzk
      have HE := hitAt_drop hzk (ofG gs) r p (k : Int)
      rw [hitB_eq] at HE
      have hby : setB (byF (ofG gs) z) := byF_set (ofG_set HS.out) (HZ.out z hzm).1
      have HBY : Hid (∀ W : World, ((∀ b o, b < wr.heap.size → W.cell? ⟨b, o, none⟩ = wr.cell? ⟨b, o, none⟩) ∧ Below wr.heap.size wr W) → Calls Tryz.prog 46 #[.slice b m c, .pointer (some ⟨g, off + k * 8, none⟩)] W fun e w' => e = .returned (.int .i64 (byF (ofG gs) z)) ∧ Below W.heap.size W w') := fun W hW =>
        l3By_c _ _ _ gs g (off + k * 8) z W ((HG.out.below hnx).below hW.2) hm (hra.below hW.2) (ofG_set HS.out) (HZ.out z hzm).1 (HZ.out z hzm).2
      have HHS : Hid (∀ W : World, Calls Tryz.prog 20 #[.int .i64 (byF (ofG gs) z), .int .i64 p] W fun e w' => e = .returned (.bool (hasI (byF (ofG gs) z) p)) ∧ W = w') := fun W => l1Has_c _ p hby.1 hby.2 p0 p1 W
      generalize byF (ofG gs) z = bz at *
      obtain ⟨h0, h1, h2, _⟩ := hra
      have hgg : g < wr.heap.size := World.block_lt_of_cell? wr ⟨g, off + k * 8, none⟩ h0
      have hk0 : (0 : Int) ≤ (k : Int) := by omega
      have hlt' : (k : Int) < (n : Int) := by omega
      clear hzk hzm hby
      have heq : ∀ w, (binOp .eql 26 (.agg #[.int .i64 z.ho, .int .i64 z.hn]) (.agg #[.int .i64 r.1, .int .i64 r.2])).run Tryz.prog w = .ok (.bool (eqRo (z.ho, z.hn) r)) w := fun w => ro_eql (z.ho, z.hn) r w
      cases he : eqRo (z.ho, z.hn) r
      · rw [he] at heq
        have HN : Hid (hitAt (ofG gs) r p zs 0 = hitAt (ofG gs) r p (zs.drop (k + 1)) ((k + 1 : Nat) : Int)) := by
          show hitAt (ofG gs) r p zs 0 = _
          rw [HF.out, HE, he, Bool.false_and, if_neg (by simp)]
          rfl
        clear HE
        go_wp2
        go_quiet (fail)
        go_wp2
        exact ⟨⟨k + 1, by omega, by go_num, HN.out, bdN hnx _, ⟨r0, r1⟩, hsz⟩, by simp [intOf]; omega⟩
      · rw [he] at heq
        obtain ⟨t, ht⟩ : ∃ t, hasI bz p = t := ⟨_, rfl⟩
        rw [he, ht, Bool.true_and] at HE
        rw [ht] at HHS
        clear ht
        cases t
        · have HN : Hid (hitAt (ofG gs) r p zs 0 = hitAt (ofG gs) r p (zs.drop (k + 1)) ((k + 1 : Nat) : Int)) := by
            show hitAt (ofG gs) r p zs 0 = _
            rw [HF.out, HE, if_neg (by simp)]
            rfl
          clear HE
          go_wp2
          go_region_held3 (fun w' => (∀ b o, b < wr.heap.size → w'.cell? ⟨b, o, none⟩ = wr.cell? ⟨b, o, none⟩) ∧ Below wr.heap.size wr w') (first | exact hS | exact kp_drew _)
            (first | (go_at_call 46; refine (HBY.out _ (by assumption)).mono ?_; rintro e w' ⟨rfl, hb2⟩; have hS := kp_step (by assumption) hb2) | (go_at_call 20; refine (HHS.out _).mono ?_; rintro e w'' ⟨rfl, rfl⟩))
          all_goals go_wp2
          all_goals exact ⟨⟨k + 1, by omega, by go_num, HN.out, hnx.trans (hS.2.mono hnx.size), ⟨(hS.1 _ _ hsz).trans r0, (hS.1 _ _ hsz).trans r1⟩, Nat.lt_of_lt_of_le hsz hS.2.size⟩, by simp [intOf]; omega⟩
        · have HN : Hid (hitAt (ofG gs) r p zs 0 = (k : Int)) := by
            show hitAt (ofG gs) r p zs 0 = _
            rw [HF.out, HE, if_pos rfl]
          clear HE
          go_wp2
          go_region_held3 (fun w' => (∀ b o, b < wr.heap.size → w'.cell? ⟨b, o, none⟩ = wr.cell? ⟨b, o, none⟩) ∧ Below wr.heap.size wr w') (first | exact hS | exact kp_drew _)
            (first | (go_at_call 46; refine (HBY.out _ (by assumption)).mono ?_; rintro e w' ⟨rfl, hb2⟩; have hS := kp_step (by assumption) hb2) | (go_at_call 20; refine (HHS.out _).mono ?_; rintro e w'' ⟨rfl, rfl⟩))
          all_goals go_wp2
          all_goals go_ret
          all_goals exact ⟨by rw [HN.out]; rfl, hnx.trans (hS.2.mono hnx.size)⟩
    · have hkn : k = n := by omega
      subst hkn
      have E : hitAt (ofG gs) r p zs 0 = -1 := by rw [HF.out, List.drop_eq_nil_of_le (by rw [HR.out.1]; exact Nat.le_refl _)]; rfl
      go_wp2
      go_ret
      exact ⟨by rw [E]; rfl, hnx⟩

end Go.Proofs.YtpeddanicenohaaGreat
