/-
  CONTRACTS: spec.ProofOf where the role is had.
  Conditions: each contract bears its own.
  CONTRACTS: what both programs' MembersOf answers; results of one number compared.
  Conditions: each contract bears its own.
  CONTRACTS: impl.ProofOf; what both programs' ProofOf answers.
  Conditions: each contract bears its own.
  CONTRACTS: SetsOf of both programs.
  Conditions: each contract bears its own.
-/
import Derived.Test.YtnfolmjdicfobaaGreatDoorPl22
import Derived.Test.YtnfolmjdicfobaaGreatDoorPl20
import Derived.Test.YtnfolmjdicfobaaGreatDoorPl23
import Derived.Test.YtnfolmjdicfobaaGreatDoorPl24
namespace Go.Proofs.YtnfolmjdicfobaaGreatDoor
open Go.RowKit
set_option linter.unusedVariables false
set_option linter.unusedSimpArgs false

end Go.Proofs.YtnfolmjdicfobaaGreatDoor

namespace Go.Proofs.YtnfolmjdicfobaaGreatDoor
open Go.RowKit
set_option linter.unusedVariables false
set_option linter.unusedSimpArgs false

end Go.Proofs.YtnfolmjdicfobaaGreatDoor

namespace Go.Proofs.YtnfolmjdicfobaaGreatDoor
open Go.RowKit
set_option linter.unusedVariables false
set_option linter.unusedSimpArgs false

theorem owns_lower1 {w : World} {B B' : Nat} {v : Value} {n : Nat} {xs : List Value} (h : w.ownsRow B 2 1 v n xs) (hb : B' ≤ B) : w.ownsRow B' 2 1 v n xs := by
  refine ⟨h.1, ?_⟩
  rcases h.2 with h' | ⟨g, cap, cur, e, hg, rest⟩
  · exact .inl h'
  · exact .inr ⟨g, cap, cur, e, Nat.le_trans hb hg, rest⟩

theorem owns_box1 {w : World} {B b0 : Nat} {v x y : Value} {n : Nat} {xs : List Value} (h : w.ownsRow B 2 1 v n xs) (hB : b0 < B) : ((w.setCell ⟨b0, 0, none⟩ x).setCell ⟨b0, 1, none⟩ y).ownsRow b0 2 1 v n xs := by
  have h6 := owns_lower1 h (show b0 + 1 ≤ B by omega)
  have h7 := ownsRow_setCell_below (ownsRow_setCell_below h6 (a := ⟨b0, 0, none⟩) (by simp) x) (a := ⟨b0, 1, none⟩) (by simp) y
  exact owns_lower1 h7 (by omega)

end Go.Proofs.YtnfolmjdicfobaaGreatDoor

namespace Go.Proofs.YtnfolmjdicfobaaGreatDoor
open Go.RowKit
set_option linter.unusedVariables false
set_option linter.unusedSimpArgs false

def GivesN (f : Nat) (a : Option Addr) (n cap : Nat) (a' : Option Addr) (m cap' : Nat) (c : Int) (ls : List Int) (w : World) : Prop := Calls Tryz.prog f #[.slice a n cap, .slice a' m cap'] w fun e w' => ∃ (a1 : Option Addr) (cap1 : Nat), e = .returned (.agg #[.int .i64 c, .slice a1 ls.length cap1]) ∧ w'.ownsRow w.heap.size 2 1 (.slice a1 ls.length cap1) ls.length (ls.map (Value.int .i64)) ∧ Below w.heap.size w w'

theorem sets_hit {T : TS} {k : Nat} (h : T k = true) : setsTo T (k + 1) = setsTo T k ++ [(k : Int)] := by rw [setsTo_next, if_pos h]
theorem sets_miss {T : TS} {k : Nat} (h : T k = false) : setsTo T (k + 1) = setsTo T k := by rw [setsTo_next, if_neg (by simp [h])]

set_option maxRecDepth 100000 in
set_option maxHeartbeats 2000000 in
theorem specSets_bad (a : Option Addr) (n cap : Nat) (zs : List RuleI) (a' : Option Addr) (m cap' : Nat) (ps : List PartI) (c : Int) (w : World) (hn : n ≤ 1048576) (hm : m ≤ 1048576) (h : RulesIn w a n zs) (h' : PartsIn w a' m ps) (hc : manyCode zs ps = c) (h0 : c ≠ 0) :
    GivesN 34 a n cap a' m cap' c [] w := by
  have HM : Hid (∀ w2 : World, Below w.heap.size w w2 → Calls Tryz.prog 73 #[.slice a n cap, .slice a' m cap'] w2 fun e w' => e = .returned (.int .i64 c) ∧ Below w2.heap.size w2 w') := fun w2 q => by rw [← hc]; exact specAsked_c a n cap zs a' m cap' ps w2 hn hm (h.below q) (h'.below q)
  have hcb : (c != 0) = true := by simpa using h0
  clear h h' hc h0
  unfold GivesN
  go_enter Tryz.func34, Tryz.ntmps34
  go_wp2_with fail
  refine (HM.out _ ((Below.refl _ _).alloc (Nat.le_refl _) _)).mono ?_
  rintro e w1 ⟨rfl, hb1⟩
  have d0 : w1.cell? ⟨w.heap.size, 0, none⟩ = some (.int .i64 0) := (hb1.cell (p := ⟨w.heap.size, 0, none⟩) (by simp)).trans (by simp)
  have d1 : w1.cell? ⟨w.heap.size, 1, none⟩ = some (.slice none 0 0) := (hb1.cell (p := ⟨w.heap.size, 1, none⟩) (by simp)).trans (by simp)
  have g0 : w1.frozen? ⟨w.heap.size, 0, none⟩ = false := (hb1.frozen (p := ⟨w.heap.size, 0, none⟩) (by simp)).trans (by simp [go_sem])
  have g1 : w1.frozen? ⟨w.heap.size, 1, none⟩ = false := (hb1.frozen (p := ⟨w.heap.size, 1, none⟩) (by simp)).trans (by simp [go_sem])
  have hw : w.heap.size < w1.heap.size := by have := hb1.size; simp at this; omega
  have hbx : Below w.heap.size w w1 := below_new hb1
  clear hb1
  go_wp2
  refine bodyPost_ret (v := .agg #[.int .i64 c, .slice none 0 0]) (by simp [results, Tryz.results34, go_sem, d0, d1, hw]) rfl ⟨none, 0, rfl, World.ownsRow_nil _ _ _ _, ?_⟩
  exact (hbx.setCell (Nat.le_refl _) _).setCell (Nat.le_refl _) _

/-- The list that grows in a box, and the rest as it was. -/
structure OB (W : World) (O : Nat) (ls : List Int) (v : Value) (wr : World) : Prop where
  c0 : wr.cell? ⟨O, 0, none⟩ = some (.int .i64 0)
  c1 : wr.cell? ⟨O, 1, none⟩ = some v
  f0 : wr.frozen? ⟨O, 0, none⟩ = false
  f1 : wr.frozen? ⟨O, 1, none⟩ = false
  ow : wr.ownsRow W.heap.size 2 1 v ls.length (ls.map (Value.int .i64))
  gr : W.grownBy wr (some O)

set_option maxRecDepth 100000 in
set_option maxHeartbeats 4000000 in
theorem specSets_ok (a : Option Addr) (n cap : Nat) (zs : List RuleI) (a' : Option Addr) (m cap' : Nat) (ps : List PartI) (gs : List GrI) (w : World) (hn : n ≤ 1048576) (hm : m ≤ 1048576) (h : RulesIn w a n zs) (h' : PartsIn w a' m ps) (hc : manyCode zs ps = 0) (hg : AllG zs gs) :
    GivesN 34 a n cap a' m cap' 0 (setsL (tellsL (ofG gs) ps)) w := by
  have HM : Hid (∀ w2 : World, Below w.heap.size w w2 → Calls Tryz.prog 73 #[.slice a n cap, .slice a' m cap'] w2 fun e w' => e = .returned (.int .i64 0) ∧ Below w2.heap.size w2 w') := fun w2 q => by rw [← hc]; exact specAsked_c a n cap zs a' m cap' ps w2 hn hm (h.below q) (h'.below q)
  obtain ⟨T, hT⟩ : ∃ T, T = tellsL (ofG gs) ps := ⟨_, rfl⟩
  have HT : Hid (∀ w2 : World, Below w.heap.size w w2 → Calls Tryz.prog 74 #[.slice a n cap, .slice a' m cap'] w2 fun e w' => ∃ g, e = .returned (.slice (some ⟨g, 0, none⟩) 256 256) ∧ RowF w' g T ∧ Below w2.heap.size w2 w') := fun w2 q => by rw [hT]; exact l4Sets_c a n cap zs a' m cap' ps gs w2 (h.below q) (many_zero hc).1 hg (h'.below q) (many_zero hc).2
  rw [← hT]
  obtain ⟨ls, hls⟩ : ∃ ls, ls = setsL T := ⟨_, rfl⟩
  rw [← hls]
  have HL : Hid (setsTo T 256 = ls) := hls.symm
  obtain ⟨i0, hi, hz0, hz1, hz2⟩ := info_parts Tryz.info2
  clear h h' hc hg hT hls
  unfold GivesN
  go_enter Tryz.func34, Tryz.ntmps34
  go_wp2_with fail
  refine (HM.out _ ((Below.refl _ _).alloc (Nat.le_refl _) _)).mono ?_
  rintro e w1 ⟨rfl, hb1⟩
  have hw1 : w.heap.size < w1.heap.size := by have := hb1.size; simp at this; omega
  have hbx : Below w.heap.size w w1 := below_new hb1
  have HR1 : Hid ((w1.cell? ⟨w.heap.size, 0, none⟩ = some (.int .i64 0) ∧ w1.cell? ⟨w.heap.size, 1, none⟩ = some (.slice none 0 0)) ∧ w1.frozen? ⟨w.heap.size, 0, none⟩ = false ∧ w1.frozen? ⟨w.heap.size, 1, none⟩ = false) :=
    ⟨⟨(hb1.cell (p := ⟨w.heap.size, 0, none⟩) (by simp)).trans (by simp), (hb1.cell (p := ⟨w.heap.size, 1, none⟩) (by simp)).trans (by simp)⟩, (hb1.frozen (p := ⟨w.heap.size, 0, none⟩) (by simp)).trans (by simp [go_sem]), (hb1.frozen (p := ⟨w.heap.size, 1, none⟩) (by simp)).trans (by simp [go_sem])⟩
  clear hb1
  have hbo : Below w.heap.size w (w1.alloc (.cells #[.int .i64 0, .slice none 0 0] 65)) := hbx.alloc hbx.size _
  go_wp2_with fail
  refine (HT.out _ hbo).mono ?_
  rintro e W ⟨g, rfl, hrow, hb2⟩
  obtain ⟨O, hO⟩ : ∃ O, O = w1.heap.size := ⟨_, rfl⟩
  have A2 : Below w1.heap.size w1 (w1.alloc (.cells #[.int .i64 0, .slice none 0 0] 65)) := (Below.refl _ _).alloc (Nat.le_refl _) _
  have hb12 : Below w1.heap.size w1 W := A2.trans (hb2.mono (by simp))
  have hOW : O < W.heap.size := by have := hb2.size; simp at this; omega
  have hwO : w.heap.size < O := by omega
  have HRW : Hid (((W.cell? ⟨w.heap.size, 0, none⟩ = some (.int .i64 0) ∧ W.cell? ⟨w.heap.size, 1, none⟩ = some (.slice none 0 0)) ∧ W.frozen? ⟨w.heap.size, 0, none⟩ = false ∧ W.frozen? ⟨w.heap.size, 1, none⟩ = false) ∧ Below w.heap.size w W) :=
    ⟨⟨⟨(hb12.cell (p := ⟨w.heap.size, 0, none⟩) hw1).trans HR1.out.1.1, (hb12.cell (p := ⟨w.heap.size, 1, none⟩) hw1).trans HR1.out.1.2⟩, (hb12.frozen (p := ⟨w.heap.size, 0, none⟩) hw1).trans HR1.out.2.1, (hb12.frozen (p := ⟨w.heap.size, 1, none⟩) hw1).trans HR1.out.2.2⟩, hbx.trans (hb12.mono hbx.size)⟩
  have HOB : Hid (OB W O [] (.slice none 0 0) W) := by
    rw [hO]
    exact ⟨(hb2.cell (p := ⟨w1.heap.size, 0, none⟩) (by simp)).trans (by simp), (hb2.cell (p := ⟨w1.heap.size, 1, none⟩) (by simp)).trans (by simp), (hb2.frozen (p := ⟨w1.heap.size, 0, none⟩) (by simp)).trans (by simp [go_sem]), (hb2.frozen (p := ⟨w1.heap.size, 1, none⟩) (by simp)).trans (by simp [go_sem]), World.ownsRow_nil _ _ _ _, World.grownBy.refl _ _⟩
  have HRF : Hid (RowF W g T) := hrow
  have hgO : g ≠ O := by
    intro e
    have h1 := hrow 0 (by omega)
    have h2 := HOB.out.c0
    rw [e, h2] at h1
    cases h1
  rw [← hO]
  clear hrow hb2 A2 hb12 hbo hbx HR1 hw1 hO
  go_wp2_with fail
  go_loopw [8] (fun i wr => ∃ (k : Nat) (v : Value), k ≤ 256 ∧ i = .int .i64 (k : Int) ∧ Hid (OB W O (setsTo T k) v wr)) (fun i _ => 256 - (intOf i).toNat)
  case atStart => exact ⟨0, _, by omega, rfl, HOB⟩
  case round =>
    obtain ⟨k, v, hk, rfl, HK⟩ := hrel
    have hkl := setsTo_len T k
    by_cases hlt : k < 256
    · have hlt' : (k : Int) < 256 := by omega
      have cx : wr.cell? ⟨g, k, none⟩ = some (.bool (T k)) := (HRF.out.kept HK.out.gr (by simp [hgO])) k hlt
      obtain ⟨t, ht⟩ : ∃ t, T k = t := ⟨_, rfl⟩
      have HTk : Hid (T k = t) := ht
      rw [ht] at cx
      clear ht
      cases t
      · have HN : Hid (OB W O (setsTo T (k + 1)) v wr) := by rw [sets_miss HTk.out]; exact HK.out
        go_wp2_with fail
        exact ⟨⟨k + 1, v, by omega, by go_num, HN⟩, by simp [intOf]; omega⟩
      · have y1 := HK.out.c1
        go_wp2_with (first
          | (at_builtin; refine wpList_append_own _ rfl _ _ 26 rfl W.heap.size 2 i0 (.int .i64 0) 1 8 Tryz.underlying26 hi hz0 hz1 hz2 rfl (by decide) _ _ _ rfl (HK.out.ow.alloc _) ⟨wr.heap.size, 0, none⟩ 1 1 [.int .i64 (k : Int)] rfl rfl ?c1 ?c2 ?c3 ?c4 ?c5 ?_)
          | fail)
        case c1 =>
          intro j u hj
          match j, hj with
          | 0, hj => simp at hj; subst hj; simp [Addr.add]
        case c2 => intro u hu; simp at hu; subst hu; rfl
        case c3 => unfold maxLen; omega
        case c4 => omega
        case c5 => have := HK.out.gr.size; simp; omega
        intro v' w9 hown' hgrow hnil
        have A1 : Below wr.heap.size wr (wr.alloc (.cells #[.int .i64 (k : Int)] 2)) := (Below.refl _ _).alloc (Nat.le_refl _) _
        have hOr : O < wr.heap.size := Nat.lt_of_lt_of_le hOW HK.out.gr.size
        have hne : some O ≠ v.ownBlock := fun e => by have := (HK.out.ow.lt O e.symm).1; omega
        have z0 : w9.cell? ⟨O, 0, none⟩ = some (.int .i64 0) := hgrow.cell ((A1.cell (p := ⟨O, 0, none⟩) hOr).trans HK.out.c0) hne
        have z1 : w9.cell? ⟨O, 1, none⟩ = some v := hgrow.cell ((A1.cell (p := ⟨O, 1, none⟩) hOr).trans HK.out.c1) hne
        have hblk : w9.heap[O]? = wr.heap[O]? := (hgrow.block O (by simp; omega) hne).trans (A1.block O hOr)
        have y0f : w9.frozen? ⟨O, 0, none⟩ = false := by have := HK.out.f0; unfold World.frozen? at this ⊢; simp only at this ⊢; rw [hblk]; exact this
        have y1f : w9.frozen? ⟨O, 1, none⟩ = false := by have := HK.out.f1; unfold World.frozen? at this ⊢; simp only at this ⊢; rw [hblk]; exact this
        have HN : Hid (OB W O (setsTo T (k + 1)) v' (w9.setCell ⟨O, 1, none⟩ v')) := by
          rw [sets_hit HTk.out]
          have g9 : W.grownBy w9 (some O) := by
            refine ⟨hgrow.os.trans HK.out.gr.os, hgrow.tape.trans HK.out.gr.tape, hgrow.output.trans HK.out.gr.output, Nat.le_trans HK.out.gr.size (Nat.le_trans (by simp) hgrow.size), fun q hq hqO => ?_⟩
            have hq2 : q < wr.heap.size := Nat.lt_of_lt_of_le hq HK.out.gr.size
            refine ((hgrow.block q (by simp; omega) (fun e => ?_)).trans (A1.block q hq2)).trans (HK.out.gr.block q hq hqO)
            have := (HK.out.ow.lt q e.symm).1
            omega
          refine ⟨?_, ?_, by rw [World.frozen?_setCell]; exact y0f, by rw [World.frozen?_setCell]; exact y1f, ?_, ?_⟩
          · simp [go_sem, z0]
          · simp [go_sem, z1]
          · exact ownsRow_setCell_below (a := ⟨O, 1, none⟩) (by simpa using hown') hOW v'
          · exact ⟨g9.os, g9.tape, g9.output, by rw [World.size_setCell]; exact g9.size, fun q hq hqO => (Below.heap_setCell _ _ _ _ (by intro e; exact hqO (by rw [e]))).trans (g9.block q hq hqO)⟩
        obtain ⟨va', vc', hv'⟩ := owns_slice hown'
        clear hnil hown' hgrow A1 hne hblk
        subst hv'
        go_wp2_with fail
        exact ⟨⟨k + 1, _, by omega, by go_num, HN⟩, by simp [intOf]; omega⟩
    · have hke : k = 256 := by omega
      subst hke
      obtain ⟨⟨⟨e0, e1⟩, f0, f1⟩, hbW⟩ := HRW.out
      have hgr := HK.out.gr
      have hwW : w.heap.size < W.heap.size := by omega
      have hne : some w.heap.size ≠ some O := by simp; omega
      have d0 : wr.cell? ⟨w.heap.size, 0, none⟩ = some (.int .i64 0) := hgr.cell e0 hne
      have d1 : wr.cell? ⟨w.heap.size, 1, none⟩ = some (.slice none 0 0) := hgr.cell e1 hne
      have hblk := hgr.block w.heap.size hwW hne
      have g0 : wr.frozen? ⟨w.heap.size, 0, none⟩ = false := by unfold World.frozen? at f0 ⊢; simp only at f0 ⊢; rw [hblk]; exact f0
      have g1 : wr.frozen? ⟨w.heap.size, 1, none⟩ = false := by unfold World.frozen? at f1 ⊢; simp only at f1 ⊢; rw [hblk]; exact f1
      have hw : w.heap.size < wr.heap.size := Nat.lt_of_lt_of_le hwW hgr.size
      have HB : Hid (Below w.heap.size w wr) := hbW.grown hgr hbW.size (fun q e => by cases e; omega)
      obtain ⟨va, vc, hve⟩ := owns_slice HK.out.ow
      rw [HL.out] at hve
      have HO : Hid (wr.ownsRow W.heap.size 2 1 (.slice va ls.length vc) ls.length (ls.map (Value.int .i64))) := by have := HK.out.ow; rw [HL.out, hve] at this; exact this
      have y0 := HK.out.c0
      have y1 := HK.out.c1
      subst hve
      clear HK hgr e0 e1 f0 f1 hbW HRW hkl hblk hne
      go_wp2
      refine bodyPost_ret (v := .agg #[.int .i64 0, .slice va ls.length vc]) (by simp [results, Tryz.results34, go_sem, d0, d1, hw]) rfl ⟨va, vc, rfl, owns_box1 HO.out hwW, ?_⟩
      exact (HB.out.setCell (Nat.le_refl _) _).setCell (Nat.le_refl _) _

end Go.Proofs.YtnfolmjdicfobaaGreatDoor
