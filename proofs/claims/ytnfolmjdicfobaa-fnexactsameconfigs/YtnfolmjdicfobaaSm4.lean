/-
  CONTRACTS: spec.l6Same, spec.SameConfigs.
  Conditions: each contract bears its own.
-/
import Derived.Test.YtnfolmjdicfobaaSm2
import Derived.Test.YtnfolmjdicfobaaSm3
namespace Go.Proofs.Ytnfolmjdicfobaa
open Go.RowKit
set_option linter.unusedVariables false
set_option linter.unusedSimpArgs false

theorem l6Same_c (g h : Nat) (c d : ConfI) (w : World) (hc : ConfLe 1048576 c) (hd : ConfLe 1048576 d) (hg : ConfAt w g c) (hh : ConfAt w h d) (hi : ConfIn w c) (hi' : ConfIn w d) :
    Calls Try.prog 38 #[.pointer (some ⟨g, 0, none⟩), .pointer (some ⟨h, 0, none⟩)] w fun e w' => e = .returned (.bool (smB c d)) ∧ Below w.heap.size w w' := by
  have l1 := hi.rules.1
  have l2 := hi'.rules.1
  have l3 := hi.forms.1
  have l4 := hi'.forms.1
  have l5 := hi.classes.1
  have l6 := hi'.classes.1
  have a1 := hc.rules
  have a2 := hd.rules
  have a3 := hc.forms
  have a4 := hd.forms
  have a5 := hc.classes
  have a6 := hd.classes
  by_cases e1 : c.e = d.e
  · have b1 : (c.e != d.e) = false := by simp [e1]
    by_cases e2 : c.f = d.f
    · have b2 : (c.f != d.f) = false := by simp [e2]
      by_cases e3 : c.rn = d.rn
      · have b3 : ((c.rn : Int) != (d.rn : Int)) = false := by simp [e3]
        by_cases e4 : c.fn = d.fn
        · have b4 : ((c.fn : Int) != (d.fn : Int)) = false := by simp [e4]
          by_cases e5 : c.cn = d.cn
          · obtain ⟨d0, d1, da, dn, dc, dz, ea, en, ec, ds, ga, gn, gc, gs⟩ := d
            simp only at e1 e2 e3 e4 e5
            subst e1 e2 e3 e4 e5
            refine l6Same_all g h c.e c.f c.rn c.fn c.cn c.ra da c.fa ea c.ca ga c.rc dc c.fc ec c.cc gc c.zs dz c.fs ds c.cs gs w hg hh hi hi' a1 a3 a5 hc.parts hd.parts _ ?_
            unfold smB
            simp
          · have b5 : ((c.cn : Int) != (d.cn : Int)) = true := by simp; omega
            have HV : smB c d = false := by unfold smB; rw [decide_eq_false (p := c.cs = d.cs) (fun e => e5 (by rw [← l5, ← l6, e])), Bool.and_false, Bool.and_false, Bool.and_false, Bool.and_false]
            rw [HV]
            exact l6Same_no4 g h c d w hg hh a1 a2 a3 a4 a5 a6 b1 b2 b3 b4 b5
        · have b4 : ((c.fn : Int) != (d.fn : Int)) = true := by simp; omega
          have HV : smB c d = false := by unfold smB; rw [decide_eq_false (p := partsL c.fs = partsL d.fs) (fun e => e4 (by rw [← l3, ← l4, ← partsL_len c.fs, ← partsL_len d.fs, e])), Bool.false_and, Bool.and_false, Bool.and_false, Bool.and_false]
          rw [HV]
          exact l6Same_no3 g h c d w hg hh a1 a2 a3 a4 a5 a6 b1 b2 b3 b4
      · have b3 : ((c.rn : Int) != (d.rn : Int)) = true := by simp; omega
        have HV : smB c d = false := by unfold smB; rw [decide_eq_false (p := c.zs = d.zs) (fun e => e3 (by rw [← l1, ← l2, e])), Bool.false_and, Bool.and_false, Bool.and_false]
        rw [HV]
        exact l6Same_no2 g h c d w hg hh a1 a2 a3 a4 a5 a6 b1 b2 b3
    · have b2 : (c.f != d.f) = true := by simp [e2]
      have HV : smB c d = false := by unfold smB; rw [decide_eq_false e2, Bool.false_and, Bool.and_false]
      rw [HV]
      exact l6Same_no1 g h c d w hg hh a1 a2 a3 a4 a5 a6 b1 b2
  · have b1 : (c.e != d.e) = true := by simp [e1]
    have HV : smB c d = false := by unfold smB; rw [decide_eq_false e1, Bool.false_and]
    rw [HV]
    exact l6Same_no0 g h c d w hg hh a1 a2 a3 a4 a5 a6 b1

set_option maxRecDepth 20000 in
set_option maxHeartbeats 1000000 in
theorem specSame_c (c d : ConfI) (w : World) (hc : ConfLe 1048576 c) (hd : ConfLe 1048576 d) (h : ConfIn w c) (h' : ConfIn w d) : GivesS 20 c d (smB c d) w := by
  obtain ⟨W, hW⟩ : ∃ W, W = (w.alloc (.cells #[.int .i64 c.e, .int .i64 c.f, .slice c.ra c.rn c.rc, .slice c.fa c.fn c.fc, .slice c.ca c.cn c.cc] 32)).alloc (.cells #[.int .i64 d.e, .int .i64 d.f, .slice d.ra d.rn d.rc, .slice d.fa d.fn d.fc, .slice d.ca d.cn d.cc] 32) := ⟨_, rfl⟩
  have B0 : Below w.heap.size w W := by rw [hW]; exact ((Below.refl _ _).alloc (Nat.le_refl _) _).alloc (by simp) _
  have KA : ConfAt W w.heap.size c ∧ ConfAt W (w.heap.size + 1) d := by
    rw [hW]
    refine ⟨(ConfAt.new w c _).below ((Below.refl _ _).alloc (Nat.le_refl _) _), ?_⟩
    have := ConfAt.new (w.alloc (.cells #[.int .i64 c.e, .int .i64 c.f, .slice c.ra c.rn c.rc, .slice c.fa c.fn c.fc, .slice c.ca c.cn c.cc] 32)) d 32
    have hz : (w.alloc (.cells #[.int .i64 c.e, .int .i64 c.f, .slice c.ra c.rn c.rc, .slice c.fa c.fn c.fc, .slice c.ca c.cn c.cc] 32)).heap.size = w.heap.size + 1 := by simp
    rw [hz] at this
    exact this
  have HE : Hid (Calls Try.prog 38 #[.pointer (some ⟨w.heap.size, 0, none⟩), .pointer (some ⟨w.heap.size + 1, 0, none⟩)] W fun e w' => e = .returned (.bool (smB c d)) ∧ Below W.heap.size W w') := l6Same_c w.heap.size (w.heap.size + 1) c d W hc hd KA.1 KA.2 (h.below B0) (h'.below B0)
  generalize smB c d = t at HE ⊢
  clear h h' hc hd KA
  unfold GivesS
  go_enter Try.func20, Try.ntmps20
  go_wp2_with fail
  rw [← hW]
  clear hW
  refine HE.out.mono ?_
  rintro e w1 ⟨rfl, hb1⟩
  have B1 : Below w.heap.size w w1 := B0.trans (hb1.mono B0.size)
  clear B0 hb1
  go_wp2
  go_ret
  exact ⟨rfl, B1⟩

end Go.Proofs.Ytnfolmjdicfobaa
