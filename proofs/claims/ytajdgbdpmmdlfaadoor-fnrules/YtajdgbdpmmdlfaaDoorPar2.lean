/-
  CONTRACT of spec.l2Parse, out of what it is told of its words.
  Conditions: each contract bears its own.
-/
import Derived.Test.YtajdgbdpmmdlfaaDoorPar0
import Derived.Test.YtajdgbdpmmdlfaaDoorPol0
import Derived.Deep.DeepCutAuto
import Derived.Deep.CutBlock
namespace Go.Proofs.YtajdgbdpmmdlfaaDoor
open Go.RowKit
set_option linter.unusedVariables false
set_option linter.unusedSimpArgs false

/-- What the walk is told of a cut. -/
def Cuts (t : ByteArray) (c : Int) (n : Nat) (xs : List (Nat × ByteArray)) : Prop := ∀ w : World, Calls Tryd.prog 76 #[.string t, .int .u8 c] w fun e w' =>
  ∃ g cap, e = .returned (.slice (some ⟨g, 0, none⟩) n cap) ∧ w.heap.size ≤ g ∧ g < w'.heap.size ∧ (∀ j x, (j, x) ∈ xs → w'.cell? ⟨g, j, none⟩ = some (.string x)) ∧ Below w.heap.size w w'
def Reads (x : ByteArray) (o n : Int) : Prop := ∀ w : World, Calls Tryd.prog 77 #[.string x] w fun e w' => e = .returned (.agg #[.int .i64 o, .int .i64 n]) ∧ Below w.heap.size w w'
def Digs (x : ByteArray) (d : Int) : Prop := ∀ w : World, Calls Tryd.prog 78 #[.string x] w fun e w' => e = .returned (.int .i64 d) ∧ w = w'

/-- The four kinds, by the number of words and of pieces. -/
def Kinds (n m : Nat) (a1 a2 : Int) (x2 : ByteArray) (ls lp : List (Nat × ByteArray)) (x : RuleI) : Prop :=
  (n = 5 ∧ ∃ x4 o1 o2 p1 p2, (4, x4) ∈ ls ∧ Reads x2 o1 o2 ∧ Reads x4 p1 p2 ∧ x = ⟨4, a1, a2, 0, o1, o2, p1, p2⟩) ∨
  (n ≠ 5 ∧ m = 1 ∧ ∃ d, Digs x2 d ∧ x = ⟨1, a1, a2, d, 0, 0, 0, 0⟩) ∨
  (n ≠ 5 ∧ m = 3 ∧ ∃ y0 y1 y2, (0, y0) ∈ lp ∧ (1, y1) ∈ lp ∧ (2, y2) ∈ lp ∧ y0.size ≤ 1048576 ∧ y1.size ≤ 1048576 ∧ y2.size ≤ 1048576 ∧ x = ⟨3, a1, a2, 0, digI y0, digI y1, 0, digI y2⟩) ∨
  (n ≠ 5 ∧ m ≠ 1 ∧ m ≠ 3 ∧ ∃ o1 o2, Reads x2 o1 o2 ∧ x = ⟨2, a1, a2, 0, o1, o2, 0, 0⟩)

theorem BlkAt.rule {w : World} {q : Nat} {x : RuleI} (h : BlkAt w q x.k x.ho x.hn x.w x.oo x.on x.to x.tn) : RuleAt w q 0 x := by
  obtain ⟨h0, h1, h2, h3, h4, h5, h6, h7, _⟩ := h
  exact ⟨h0, h1, h2, h3, h4, h5, h6, h7⟩

/-- What stands while a rule is put together: its block, the result's block, the words and the pieces. -/
structure PS (w wx : World) (q g gp : Nat) (ls lp : List (Nat × ByteArray)) (x : RuleI) : Prop where
  blk : BlkAt wx q x.k x.ho x.hn x.w x.oo x.on x.to x.tn
  res : ResAt wx w.heap.size
  ws : ∀ j y, (j, y) ∈ ls → wx.cell? ⟨g, j, none⟩ = some (.string y)
  ps : ∀ j y, (j, y) ∈ lp → wx.cell? ⟨gp, j, none⟩ = some (.string y)
  bel : Below w.heap.size w wx
  hq : q < wx.heap.size
  hg : g < wx.heap.size
  hp : gp < wx.heap.size
  ne : g ≠ q ∧ gp ≠ q ∧ w.heap.size < q

theorem PS.below {w wx wy : World} {q g gp : Nat} {ls lp : List (Nat × ByteArray)} {x : RuleI} (h : PS w wx q g gp ls lp x) (hb : Below wx.heap.size wx wy) : PS w wy q g gp ls lp x := by
  have hz := hb.size
  have h1 := h.hq
  have h2 := h.hg
  have h3 := h.hp
  exact ⟨h.blk.below hb, h.res.below hb, fun j y e => (hb.cell (p := ⟨g, j, none⟩) h.hg).trans (h.ws j y e), fun j y e => (hb.cell (p := ⟨gp, j, none⟩) h.hp).trans (h.ps j y e), h.bel.trans (hb.mono h.bel.size), by omega, by omega, by omega, h.ne⟩

theorem PS.drew {w wx : World} {q g gp : Nat} {ls lp : List (Nat × ByteArray)} {x : RuleI} (h : PS w wx q g gp ls lp x) : PS w wx.drew q g gp ls lp x := h.below ⟨rfl, rfl, rfl, Nat.le_refl _, fun _ _ => rfl⟩

theorem PS.set {w wx : World} {q g gp : Nat} {ls lp : List (Nat × ByteArray)} {x x' : RuleI} (h : PS w wx q g gp ls lp x) (j : Nat) (v : Int) (hb : BlkAt wx q x.k x.ho x.hn x.w x.oo x.on x.to x.tn → BlkAt (wx.setCell ⟨q, j, none⟩ (.int .i64 v)) q x'.k x'.ho x'.hn x'.w x'.oo x'.on x'.to x'.tn) : PS w (wx.setCell ⟨q, j, none⟩ (.int .i64 v)) q g gp ls lp x' := by
  obtain ⟨n1, n2, n3⟩ := h.ne
  have key : ∀ (b o : Nat), b ≠ q → (wx.setCell ⟨q, j, none⟩ (.int .i64 v)).cell? ⟨b, o, none⟩ = wx.cell? ⟨b, o, none⟩ := fun b o hne => World.cell?_setCell_other wx ⟨q, j, none⟩ ⟨b, o, none⟩ (.int .i64 v) (fun e => hne (congrArg Addr.block e).symm)
  refine ⟨hb h.blk, ?_, fun i y e => (key _ _ n1).trans (h.ws i y e), fun i y e => (key _ _ n2).trans (h.ps i y e), h.bel.setCell (by show w.heap.size ≤ q; omega) _, by simp; exact h.hq, by simp; exact h.hg, by simp; exact h.hp, h.ne⟩
  have n4 : w.heap.size ≠ q := by omega
  obtain ⟨r0, r1, r2, r3, r4, r5, r6, r7, e0, e1, e2, e3, e4, e5, e6, e7⟩ := h.res
  refine ⟨(key _ _ n4).trans r0, (key _ _ n4).trans r1, (key _ _ n4).trans r2, (key _ _ n4).trans r3, (key _ _ n4).trans r4, (key _ _ n4).trans r5, (key _ _ n4).trans r6, (key _ _ n4).trans r7, ?_, ?_, ?_, ?_, ?_, ?_, ?_, ?_⟩ <;> simp only [World.frozen?_setCell] <;> assumption

theorem PS.set0 {w wx : World} {q g gp : Nat} {ls lp : List (Nat × ByteArray)} {x : RuleI} (h : PS w wx q g gp ls lp x) (v : Int) : PS w (wx.setCell ⟨q, 0, none⟩ (.int .i64 v)) q g gp ls lp ⟨v, x.ho, x.hn, x.w, x.oo, x.on, x.to, x.tn⟩ := by
  refine h.set 0 v ?_
  rintro ⟨q0, q1, q2, q3, q4, q5, q6, q7, f0, f1, f2, f3, f4, f5, f6, f7⟩
  exact ⟨by go_cell, by go_cell, by go_cell, by go_cell, by go_cell, by go_cell, by go_cell, by go_cell, by simp [go_sem, f0], by simp [go_sem, f1], by simp [go_sem, f2], by simp [go_sem, f3], by simp [go_sem, f4], by simp [go_sem, f5], by simp [go_sem, f6], by simp [go_sem, f7]⟩

theorem PS.set1 {w wx : World} {q g gp : Nat} {ls lp : List (Nat × ByteArray)} {x : RuleI} (h : PS w wx q g gp ls lp x) (v : Int) : PS w (wx.setCell ⟨q, 1, none⟩ (.int .i64 v)) q g gp ls lp ⟨x.k, v, x.hn, x.w, x.oo, x.on, x.to, x.tn⟩ := by
  refine h.set 1 v ?_
  rintro ⟨q0, q1, q2, q3, q4, q5, q6, q7, f0, f1, f2, f3, f4, f5, f6, f7⟩
  exact ⟨by go_cell, by go_cell, by go_cell, by go_cell, by go_cell, by go_cell, by go_cell, by go_cell, by simp [go_sem, f0], by simp [go_sem, f1], by simp [go_sem, f2], by simp [go_sem, f3], by simp [go_sem, f4], by simp [go_sem, f5], by simp [go_sem, f6], by simp [go_sem, f7]⟩

theorem PS.set2 {w wx : World} {q g gp : Nat} {ls lp : List (Nat × ByteArray)} {x : RuleI} (h : PS w wx q g gp ls lp x) (v : Int) : PS w (wx.setCell ⟨q, 2, none⟩ (.int .i64 v)) q g gp ls lp ⟨x.k, x.ho, v, x.w, x.oo, x.on, x.to, x.tn⟩ := by
  refine h.set 2 v ?_
  rintro ⟨q0, q1, q2, q3, q4, q5, q6, q7, f0, f1, f2, f3, f4, f5, f6, f7⟩
  exact ⟨by go_cell, by go_cell, by go_cell, by go_cell, by go_cell, by go_cell, by go_cell, by go_cell, by simp [go_sem, f0], by simp [go_sem, f1], by simp [go_sem, f2], by simp [go_sem, f3], by simp [go_sem, f4], by simp [go_sem, f5], by simp [go_sem, f6], by simp [go_sem, f7]⟩

theorem PS.set3 {w wx : World} {q g gp : Nat} {ls lp : List (Nat × ByteArray)} {x : RuleI} (h : PS w wx q g gp ls lp x) (v : Int) : PS w (wx.setCell ⟨q, 3, none⟩ (.int .i64 v)) q g gp ls lp ⟨x.k, x.ho, x.hn, v, x.oo, x.on, x.to, x.tn⟩ := by
  refine h.set 3 v ?_
  rintro ⟨q0, q1, q2, q3, q4, q5, q6, q7, f0, f1, f2, f3, f4, f5, f6, f7⟩
  exact ⟨by go_cell, by go_cell, by go_cell, by go_cell, by go_cell, by go_cell, by go_cell, by go_cell, by simp [go_sem, f0], by simp [go_sem, f1], by simp [go_sem, f2], by simp [go_sem, f3], by simp [go_sem, f4], by simp [go_sem, f5], by simp [go_sem, f6], by simp [go_sem, f7]⟩

theorem PS.set4 {w wx : World} {q g gp : Nat} {ls lp : List (Nat × ByteArray)} {x : RuleI} (h : PS w wx q g gp ls lp x) (v : Int) : PS w (wx.setCell ⟨q, 4, none⟩ (.int .i64 v)) q g gp ls lp ⟨x.k, x.ho, x.hn, x.w, v, x.on, x.to, x.tn⟩ := by
  refine h.set 4 v ?_
  rintro ⟨q0, q1, q2, q3, q4, q5, q6, q7, f0, f1, f2, f3, f4, f5, f6, f7⟩
  exact ⟨by go_cell, by go_cell, by go_cell, by go_cell, by go_cell, by go_cell, by go_cell, by go_cell, by simp [go_sem, f0], by simp [go_sem, f1], by simp [go_sem, f2], by simp [go_sem, f3], by simp [go_sem, f4], by simp [go_sem, f5], by simp [go_sem, f6], by simp [go_sem, f7]⟩

theorem PS.set5 {w wx : World} {q g gp : Nat} {ls lp : List (Nat × ByteArray)} {x : RuleI} (h : PS w wx q g gp ls lp x) (v : Int) : PS w (wx.setCell ⟨q, 5, none⟩ (.int .i64 v)) q g gp ls lp ⟨x.k, x.ho, x.hn, x.w, x.oo, v, x.to, x.tn⟩ := by
  refine h.set 5 v ?_
  rintro ⟨q0, q1, q2, q3, q4, q5, q6, q7, f0, f1, f2, f3, f4, f5, f6, f7⟩
  exact ⟨by go_cell, by go_cell, by go_cell, by go_cell, by go_cell, by go_cell, by go_cell, by go_cell, by simp [go_sem, f0], by simp [go_sem, f1], by simp [go_sem, f2], by simp [go_sem, f3], by simp [go_sem, f4], by simp [go_sem, f5], by simp [go_sem, f6], by simp [go_sem, f7]⟩

theorem PS.set6 {w wx : World} {q g gp : Nat} {ls lp : List (Nat × ByteArray)} {x : RuleI} (h : PS w wx q g gp ls lp x) (v : Int) : PS w (wx.setCell ⟨q, 6, none⟩ (.int .i64 v)) q g gp ls lp ⟨x.k, x.ho, x.hn, x.w, x.oo, x.on, v, x.tn⟩ := by
  refine h.set 6 v ?_
  rintro ⟨q0, q1, q2, q3, q4, q5, q6, q7, f0, f1, f2, f3, f4, f5, f6, f7⟩
  exact ⟨by go_cell, by go_cell, by go_cell, by go_cell, by go_cell, by go_cell, by go_cell, by go_cell, by simp [go_sem, f0], by simp [go_sem, f1], by simp [go_sem, f2], by simp [go_sem, f3], by simp [go_sem, f4], by simp [go_sem, f5], by simp [go_sem, f6], by simp [go_sem, f7]⟩

theorem PS.set7 {w wx : World} {q g gp : Nat} {ls lp : List (Nat × ByteArray)} {x : RuleI} (h : PS w wx q g gp ls lp x) (v : Int) : PS w (wx.setCell ⟨q, 7, none⟩ (.int .i64 v)) q g gp ls lp ⟨x.k, x.ho, x.hn, x.w, x.oo, x.on, x.to, v⟩ := by
  refine h.set 7 v ?_
  rintro ⟨q0, q1, q2, q3, q4, q5, q6, q7, f0, f1, f2, f3, f4, f5, f6, f7⟩
  exact ⟨by go_cell, by go_cell, by go_cell, by go_cell, by go_cell, by go_cell, by go_cell, by go_cell, by simp [go_sem, f0], by simp [go_sem, f1], by simp [go_sem, f2], by simp [go_sem, f3], by simp [go_sem, f4], by simp [go_sem, f5], by simp [go_sem, f6], by simp [go_sem, f7]⟩

set_option maxRecDepth 20000 in
set_option maxHeartbeats 4000000 in
theorem par_main (t x0 x2 L : ByteArray) (n m : Nat) (a1 a2 c : Int) (x : RuleI) (bb : Bool) (ls lp : List (Nat × ByteArray)) (w : World) (hn3 : 3 ≤ n) (hn : n ≤ 1048577) (hm : m ≤ 1048577)
    (HC : Hid (Cuts t 32 n ls)) (M0 : Hid ((0, x0) ∈ ls)) (M2 : Hid ((2, x2) ∈ ls)) (HP : Hid (Cuts x2 46 m lp)) (HR0 : Hid (Reads x0 a1 a2)) (HK : Hid (Kinds n m a1 a2 x2 ls lp x))
    (HU : Hid (∀ (g : Nat) (w : World), RuleAt w g 0 x → Calls Tryd.prog 62 #[.pointer (some ⟨g, 0, none⟩)] w fun e w' => e = .returned (.int .i64 c) ∧ Below w.heap.size w w'))
    (HL : Hid (c = 0 → ∀ (g : Nat) (w : World), RuleAt w g 0 x → Calls Tryd.prog 54 #[.pointer (some ⟨g, 0, none⟩)] w fun e w' => e = .returned (.string L) ∧ Below w.heap.size w w'))
    (HB : Hid (bb = (c == 0 && L.toList == t.toList))) :
    Calls Tryd.prog 60 #[.string t] w fun e w' => e = .returned (.tuple #[.agg #[.int .i64 x.k, .int .i64 x.ho, .int .i64 x.hn, .int .i64 x.w, .int .i64 x.oo, .int .i64 x.on, .int .i64 x.to, .int .i64 x.tn], .bool bb]) ∧ Below w.heap.size w w' := by
  have n3 : ¬ ((n : Int) < 3) := by omega
  have n0 : (0 : Int) < (n : Int) := by omega
  have n2 : (2 : Int) < (n : Int) := by omega
  go_enter Tryd.func60, Tryd.ntmps60
  go_wp2_with fail
  refine (HC.out _).mono ?_
  rintro e w1 ⟨g, cap, rfl, hg0, hg1, hcs, hb1⟩
  have RR : Hid (ResAt w1 w.heap.size) := (ResAt.new w _).below hb1
  have g0 : w1.cell? ⟨g, 0, none⟩ = some (.string x0) := hcs 0 x0 M0.out
  have G1 : Hid (∀ j y, (j, y) ∈ ls → w1.cell? ⟨g, j, none⟩ = some (.string y)) := hcs
  clear hcs
  simp only [World.size_alloc] at hg0
  go_wp2_with fail
  refine (HR0.out _).mono ?_
  rintro e w2 ⟨rfl, hb2⟩
  clear g0
  have G2 : Hid (∀ j y, (j, y) ∈ ls → w2.cell? ⟨g, j, none⟩ = some (.string y)) := fun j y h => (hb2.cell (p := ⟨g, j, none⟩) hg1).trans (G1.out j y h)
  have g2 : w2.cell? ⟨g, 2, none⟩ = some (.string x2) := G2.out 2 x2 M2.out
  have hz2 := hb2.size
  have hg2 : g < w2.heap.size := by omega
  go_wp2_with fail
  refine (HP.out _).mono ?_
  rintro e w3 ⟨gp, capp, rfl, hp0, hp1, hps, hb3⟩
  have hz3 := hb3.size
  simp only [World.size_alloc] at hp0 hz3
  have Q3 : Hid (BlkAt w3 w2.heap.size 0 a1 a2 0 0 0 0 0) := (BlkAt.new w2 0 a1 a2 0 0 0 0 0 _).below hb3
  have G3 : Hid (∀ j y, (j, y) ∈ ls → w3.cell? ⟨g, j, none⟩ = some (.string y)) := fun j y h => (hb3.cell (p := ⟨g, j, none⟩) (by simp; omega)).trans (by rw [World.cell?_alloc_past _ _ _ (by show g < w2.heap.size; omega)]; exact G2.out j y h)
  have P3 : Hid (∀ j y, (j, y) ∈ lp → w3.cell? ⟨gp, j, none⟩ = some (.string y)) := hps
  have R3 : Hid (ResAt w3 w.heap.size) := ((RR.out.below hb2).below ((Below.refl _ _).alloc (Nat.le_refl _) _)).below hb3
  clear RR G1 G2 g2 hps
  have hz1 := hb1.size
  simp only [World.size_alloc] at hz1
  have B3 : Hid (Below w.heap.size w w3) := (((below_new hb1).trans (hb2.mono (by omega))).alloc (by omega) _).trans (hb3.mono (by simp; omega))
  have S3 : Hid (PS w w3 w2.heap.size g gp ls lp ⟨0, a1, a2, 0, 0, 0, 0, 0⟩) := ⟨Q3.out, R3.out, G3.out, P3.out, B3.out, by omega, by omega, by omega, by omega, by omega, by omega⟩
  obtain ⟨q, hq⟩ : ∃ q, q = w2.heap.size := ⟨_, rfl⟩
  rw [← hq] at S3 ⊢
  clear hb1 hb2 hb3 Q3 R3 G3 P3 B3 HC HP HR0 hq
  go_upto_block 0 with fail
  go_cut [28] (fun s28 wx => PS w wx q g gp ls lp x)
  case rest =>
    have S6 : Hid (PS w wc q g gp ls lp x) := hcut
    clear hcut HK S3
    obtain ⟨q0, q1, q2, q3, q4, q5, q6, q7, f0, f1, f2, f3, f4, f5, f6, f7⟩ := S6.out.blk
    obtain ⟨r0, r1, r2, r3, r4, r5, r6, r7, e0, e1, e2, e3, e4, e5, e6, e7⟩ := S6.out.res
    have hqlt := S6.out.hq
    have hne := S6.out.ne.2.2
    have hqw' : w.heap.size ≠ q := by omega
    have hwl : w.heap.size < wc.heap.size := by omega
    by_cases hc0 : c = 0
    · subst hc0
      obtain ⟨b2, hb2⟩ : ∃ b2, (L.toList == t.toList) = b2 := ⟨_, rfl⟩
      have HB2 : Hid (bb = b2) := by rw [HB.out, hb2]; rfl
      have hU := HU.out q wc.drew (S6.out.blk.rule)
      have HL2 : Hid (∀ (g : Nat) (w : World), RuleAt w g 0 x → Calls Tryd.prog 54 #[.pointer (some ⟨g, 0, none⟩)] w fun e w' => e = .returned (.string L) ∧ Below w.heap.size w w') := HL.out rfl
      clear HB HU HL
      go_wp2_with fail
      refine wp_region_any (by kernel_rfl) ?_
      change wpAny _ _ _ _ _ _ _ (World.drew _)
      refine wpAny_ready (rs := [0, 1]) (by decide +kernel) (by simp) (AllReady.cons rfl (fun K hK => ?_) (AllReady.cons rfl (fun K hK => ?_) AllReady.nil))
      · go_simp
        refine hK _ _ ?_
        clear hK K
        clear r0 r1 r2 r3 r4 r5 r6 r7 e0 e1 e2 e3 e4 e5 e6 e7 q0 q1 q2 q3 q4 q5 q6 q7 f0 f1 f2 f3 f4 f5 f6 f7
        refine wpAny_ready (rs := [1]) (by decide +kernel) (by simp) (AllReady.cons rfl (fun K hK => ?_) AllReady.nil)
        go_simp
        refine hU.mono ?_
        rintro e w7 ⟨rfl, hb7⟩
        have T7 : Hid (PS w w7 q g gp ls lp x) := S6.out.drew.below hb7
        obtain ⟨r0, r1, r2, r3, r4, r5, r6, r7, e0, e1, e2, e3, e4, e5, e6, e7⟩ := T7.out.res
        obtain ⟨q0, q1, q2, q3, q4, q5, q6, q7, f0, f1, f2, f3, f4, f5, f6, f7⟩ := T7.out.blk
        have hw7 : w.heap.size < w7.heap.size := by have := T7.out.hq; omega
        clear hb7
        simp only
        refine hK _ _ ?_
        clear hK K
        refine wpAny_take (i := 2) (v := .bool true) rfl (by decide +kernel) (by decide +kernel) (by decide +kernel) (fun _ _ _ h => h) (Or.inl ⟨by rfl, fun w => by go_simp⟩) ?_
        simp only [Act.put, List.setIfInBounds_toArray, List.set_cons_zero, List.set_cons_succ]
        refine wpAny_take (i := 3) (v := .bool true) rfl (by decide +kernel) (by decide +kernel) (by decide +kernel) (fun _ _ _ h => h) (Or.inl ⟨by rfl, fun w => by go_simp⟩) ?_
        simp only [Act.put, List.setIfInBounds_toArray, List.set_cons_zero, List.set_cons_succ]
        refine wpAny_take (i := 5) (v := .string t) rfl (by decide +kernel) (by decide +kernel) (by decide +kernel) (fun _ _ _ h => h) (Or.inl ⟨by rfl, fun w => by go_simp⟩) ?_
        simp only [Act.put, List.setIfInBounds_toArray, List.set_cons_zero, List.set_cons_succ]
        refine wpAny_ready (rs := [4]) (by decide +kernel) (by simp) (AllReady.cons rfl (fun K hK => ?_) AllReady.nil)
        go_simp
        refine (HL2.out q w7 T7.out.blk.rule).mono ?_
        rintro e w8 ⟨rfl, hb8⟩
        clear r0 r1 r2 r3 r4 r5 r6 r7 e0 e1 e2 e3 e4 e5 e6 e7 q0 q1 q2 q3 q4 q5 q6 q7 f0 f1 f2 f3 f4 f5 f6 f7
        have T8 : Hid (PS w w8 q g gp ls lp x) := T7.out.below hb8
        obtain ⟨r0, r1, r2, r3, r4, r5, r6, r7, e0, e1, e2, e3, e4, e5, e6, e7⟩ := T8.out.res
        obtain ⟨q0, q1, q2, q3, q4, q5, q6, q7, f0, f1, f2, f3, f4, f5, f6, f7⟩ := T8.out.blk
        have hw8 : w.heap.size < w8.heap.size := by have := T8.out.hq; omega
        clear hb8
        simp only
        refine hK _ _ ?_
        clear hK K
        refine wpAny_take (i := 6) (v := .bool b2) rfl (by decide +kernel) (by decide +kernel) (by decide +kernel) (fun _ _ _ h => h) (Or.inl ⟨by rfl, fun w => by go_simp⟩) ?_
        simp only [Act.put, List.setIfInBounds_toArray, List.set_cons_zero, List.set_cons_succ]
        refine wpAny_take (i := 7) (v := .bool b2) rfl (by decide +kernel) (by decide +kernel) (by decide +kernel) (fun _ _ _ h => h) (Or.inl ⟨by rfl, fun w => by go_simp⟩) ?_
        simp only [Act.put, List.setIfInBounds_toArray, List.set_cons_zero, List.set_cons_succ]
        refine wpAny_ready (rs := [8]) (by decide +kernel) (by simp) (AllReady.cons rfl (fun K hK => ?_) AllReady.nil)
        go_simp
        refine hK _ _ ?_
        clear hK K
        refine wpAny_ready (rs := [9]) (by decide +kernel) (by simp) (AllReady.cons rfl (fun K hK => ?_) AllReady.nil)
        go_simp
        refine hK _ _ ?_
        clear hK K
        refine wpAny_done (by decide +kernel) ?_ _
        go_wp2
        refine bodyPost_ret (v := .tuple #[.agg #[.int .i64 x.k, .int .i64 x.ho, .int .i64 x.hn, .int .i64 x.w, .int .i64 x.oo, .int .i64 x.on, .int .i64 x.to, .int .i64 x.tn], .bool b2]) (by simp [results, Tryd.results60, go_sem, r0, r1, r2, r3, r4, r5, r6, r7, hw8]) rfl ⟨by rw [HB2.out], ?_⟩
        exact T8.out.bel |>.setCell (Nat.le_refl _) _ |>.setCell (Nat.le_refl _) _ |>.setCell (Nat.le_refl _) _ |>.setCell (Nat.le_refl _) _ |>.setCell (Nat.le_refl _) _ |>.setCell (Nat.le_refl _) _ |>.setCell (Nat.le_refl _) _ |>.setCell (Nat.le_refl _) _
      · go_simp
        clear r0 r1 r2 r3 r4 r5 r6 r7 e0 e1 e2 e3 e4 e5 e6 e7 q0 q1 q2 q3 q4 q5 q6 q7 f0 f1 f2 f3 f4 f5 f6 f7
        refine hU.mono ?_
        rintro e w7 ⟨rfl, hb7⟩
        have T7 : Hid (PS w w7 q g gp ls lp x) := S6.out.drew.below hb7
        obtain ⟨r0, r1, r2, r3, r4, r5, r6, r7, e0, e1, e2, e3, e4, e5, e6, e7⟩ := T7.out.res
        obtain ⟨q0, q1, q2, q3, q4, q5, q6, q7, f0, f1, f2, f3, f4, f5, f6, f7⟩ := T7.out.blk
        have hw7 : w.heap.size < w7.heap.size := by have := T7.out.hq; omega
        clear hb7
        simp only
        refine hK _ _ ?_
        clear hK K
        refine wpAny_take (i := 2) (v := .bool true) rfl (by decide +kernel) (by decide +kernel) (by decide +kernel) (fun _ _ _ h => h) (Or.inl ⟨by rfl, fun w => by go_simp⟩) ?_
        simp only [Act.put, List.setIfInBounds_toArray, List.set_cons_zero, List.set_cons_succ]
        refine wpAny_take (i := 3) (v := .bool true) rfl (by decide +kernel) (by decide +kernel) (by decide +kernel) (fun _ _ _ h => h) (Or.inl ⟨by rfl, fun w => by go_simp⟩) ?_
        simp only [Act.put, List.setIfInBounds_toArray, List.set_cons_zero, List.set_cons_succ]
        refine wpAny_take (i := 5) (v := .string t) rfl (by decide +kernel) (by decide +kernel) (by decide +kernel) (fun _ _ _ h => h) (Or.inl ⟨by rfl, fun w => by go_simp⟩) ?_
        simp only [Act.put, List.setIfInBounds_toArray, List.set_cons_zero, List.set_cons_succ]
        refine wpAny_ready (rs := [0, 4]) (by decide +kernel) (by simp) (AllReady.cons rfl (fun K hK => ?_) (AllReady.cons rfl (fun K hK => ?_) AllReady.nil))
        · go_simp
          refine hK _ _ ?_
          clear hK K
          refine wpAny_ready (rs := [4]) (by decide +kernel) (by simp) (AllReady.cons rfl (fun K hK => ?_) AllReady.nil)
          go_simp
          refine (HL2.out q w7 T7.out.blk.rule).mono ?_
          rintro e w8 ⟨rfl, hb8⟩
          clear r0 r1 r2 r3 r4 r5 r6 r7 e0 e1 e2 e3 e4 e5 e6 e7 q0 q1 q2 q3 q4 q5 q6 q7 f0 f1 f2 f3 f4 f5 f6 f7
          have T8 : Hid (PS w w8 q g gp ls lp x) := T7.out.below hb8
          obtain ⟨r0, r1, r2, r3, r4, r5, r6, r7, e0, e1, e2, e3, e4, e5, e6, e7⟩ := T8.out.res
          obtain ⟨q0, q1, q2, q3, q4, q5, q6, q7, f0, f1, f2, f3, f4, f5, f6, f7⟩ := T8.out.blk
          have hw8 : w.heap.size < w8.heap.size := by have := T8.out.hq; omega
          clear hb8
          simp only
          refine hK _ _ ?_
          clear hK K
          refine wpAny_take (i := 6) (v := .bool b2) rfl (by decide +kernel) (by decide +kernel) (by decide +kernel) (fun _ _ _ h => h) (Or.inl ⟨by rfl, fun w => by go_simp⟩) ?_
          simp only [Act.put, List.setIfInBounds_toArray, List.set_cons_zero, List.set_cons_succ]
          refine wpAny_take (i := 7) (v := .bool b2) rfl (by decide +kernel) (by decide +kernel) (by decide +kernel) (fun _ _ _ h => h) (Or.inl ⟨by rfl, fun w => by go_simp⟩) ?_
          simp only [Act.put, List.setIfInBounds_toArray, List.set_cons_zero, List.set_cons_succ]
          refine wpAny_ready (rs := [8]) (by decide +kernel) (by simp) (AllReady.cons rfl (fun K hK => ?_) AllReady.nil)
          go_simp
          refine hK _ _ ?_
          clear hK K
          refine wpAny_ready (rs := [9]) (by decide +kernel) (by simp) (AllReady.cons rfl (fun K hK => ?_) AllReady.nil)
          go_simp
          refine hK _ _ ?_
          clear hK K
          refine wpAny_done (by decide +kernel) ?_ _
          go_wp2
          refine bodyPost_ret (v := .tuple #[.agg #[.int .i64 x.k, .int .i64 x.ho, .int .i64 x.hn, .int .i64 x.w, .int .i64 x.oo, .int .i64 x.on, .int .i64 x.to, .int .i64 x.tn], .bool b2]) (by simp [results, Tryd.results60, go_sem, r0, r1, r2, r3, r4, r5, r6, r7, hw8]) rfl ⟨by rw [HB2.out], ?_⟩
          exact T8.out.bel |>.setCell (Nat.le_refl _) _ |>.setCell (Nat.le_refl _) _ |>.setCell (Nat.le_refl _) _ |>.setCell (Nat.le_refl _) _ |>.setCell (Nat.le_refl _) _ |>.setCell (Nat.le_refl _) _ |>.setCell (Nat.le_refl _) _ |>.setCell (Nat.le_refl _) _
        · go_simp
          refine (HL2.out q w7 T7.out.blk.rule).mono ?_
          rintro e w8 ⟨rfl, hb8⟩
          clear r0 r1 r2 r3 r4 r5 r6 r7 e0 e1 e2 e3 e4 e5 e6 e7 q0 q1 q2 q3 q4 q5 q6 q7 f0 f1 f2 f3 f4 f5 f6 f7
          have T8 : Hid (PS w w8 q g gp ls lp x) := T7.out.below hb8
          obtain ⟨r0, r1, r2, r3, r4, r5, r6, r7, e0, e1, e2, e3, e4, e5, e6, e7⟩ := T8.out.res
          obtain ⟨q0, q1, q2, q3, q4, q5, q6, q7, f0, f1, f2, f3, f4, f5, f6, f7⟩ := T8.out.blk
          have hw8 : w.heap.size < w8.heap.size := by have := T8.out.hq; omega
          clear hb8
          simp only
          refine hK _ _ ?_
          clear hK K
          refine wpAny_take (i := 6) (v := .bool b2) rfl (by decide +kernel) (by decide +kernel) (by decide +kernel) (fun _ _ _ h => h) (Or.inl ⟨by rfl, fun w => by go_simp⟩) ?_
          simp only [Act.put, List.setIfInBounds_toArray, List.set_cons_zero, List.set_cons_succ]
          refine wpAny_take (i := 7) (v := .bool b2) rfl (by decide +kernel) (by decide +kernel) (by decide +kernel) (fun _ _ _ h => h) (Or.inl ⟨by rfl, fun w => by go_simp⟩) ?_
          simp only [Act.put, List.setIfInBounds_toArray, List.set_cons_zero, List.set_cons_succ]
          refine wpAny_ready (rs := [0]) (by decide +kernel) (by simp) (AllReady.cons rfl (fun K hK => ?_) AllReady.nil)
          go_simp
          refine hK _ _ ?_
          clear hK K
          refine wpAny_ready (rs := [8]) (by decide +kernel) (by simp) (AllReady.cons rfl (fun K hK => ?_) AllReady.nil)
          go_simp
          refine hK _ _ ?_
          clear hK K
          refine wpAny_ready (rs := [9]) (by decide +kernel) (by simp) (AllReady.cons rfl (fun K hK => ?_) AllReady.nil)
          go_simp
          refine hK _ _ ?_
          clear hK K
          refine wpAny_done (by decide +kernel) ?_ _
          go_wp2
          refine bodyPost_ret (v := .tuple #[.agg #[.int .i64 x.k, .int .i64 x.ho, .int .i64 x.hn, .int .i64 x.w, .int .i64 x.oo, .int .i64 x.on, .int .i64 x.to, .int .i64 x.tn], .bool b2]) (by simp [results, Tryd.results60, go_sem, r0, r1, r2, r3, r4, r5, r6, r7, hw8]) rfl ⟨by rw [HB2.out], ?_⟩
          exact T8.out.bel |>.setCell (Nat.le_refl _) _ |>.setCell (Nat.le_refl _) _ |>.setCell (Nat.le_refl _) _ |>.setCell (Nat.le_refl _) _ |>.setCell (Nat.le_refl _) _ |>.setCell (Nat.le_refl _) _ |>.setCell (Nat.le_refl _) _ |>.setCell (Nat.le_refl _) _
    · have hcb : (c == 0) = false := by simpa using hc0
      have HB2 : Hid (bb = false) := by rw [HB.out, hcb]; rfl
      have hU := HU.out q wc.drew (S6.out.blk.rule)
      clear HB HU HL
      go_wp2_with fail
      refine wp_region_any (by kernel_rfl) ?_
      change wpAny _ _ _ _ _ _ _ (World.drew _)
      refine wpAny_ready (rs := [0, 1]) (by decide +kernel) (by simp) (AllReady.cons rfl (fun K hK => ?_) (AllReady.cons rfl (fun K hK => ?_) AllReady.nil))
      · go_simp
        refine hK _ _ ?_
        clear hK K
        clear r0 r1 r2 r3 r4 r5 r6 r7 e0 e1 e2 e3 e4 e5 e6 e7 q0 q1 q2 q3 q4 q5 q6 q7 f0 f1 f2 f3 f4 f5 f6 f7
        refine wpAny_ready (rs := [1]) (by decide +kernel) (by simp) (AllReady.cons rfl (fun K hK => ?_) AllReady.nil)
        go_simp
        refine hU.mono ?_
        rintro e w7 ⟨rfl, hb7⟩
        obtain ⟨r0, r1, r2, r3, r4, r5, r6, r7, e0, e1, e2, e3, e4, e5, e6, e7⟩ := (S6.out.drew.below hb7).res
        obtain ⟨q0, q1, q2, q3, q4, q5, q6, q7, f0, f1, f2, f3, f4, f5, f6, f7⟩ := (S6.out.drew.below hb7).blk
        have hw7 : w.heap.size < w7.heap.size := by have := (S6.out.drew.below hb7).hq; omega
        have B7 : Hid (Below w.heap.size w w7) := (S6.out.drew.below hb7).bel
        clear hb7
        simp only
        refine hK _ _ ?_
        clear hK K
        refine wpAny_take (i := 2) (v := .bool false) rfl (by decide +kernel) (by decide +kernel) (by decide +kernel) (fun _ _ _ h => h) (Or.inl ⟨by rfl, fun w => by go_simp⟩) ?_
        simp only [Act.put, List.setIfInBounds_toArray, List.set_cons_zero, List.set_cons_succ]
        refine wpAny_take (i := 3) (v := .bool false) rfl (by decide +kernel) (by decide +kernel) (by decide +kernel) (fun _ _ _ h => h) (Or.inl ⟨by rfl, fun w => by go_simp⟩) ?_
        simp only [Act.put, List.setIfInBounds_toArray, List.set_cons_zero, List.set_cons_succ]
        refine wpAny_take (i := 5) (v := undef) rfl (by decide +kernel) (by decide +kernel) (by decide +kernel) (fun _ _ _ h => h) (Or.inr ⟨by rfl, rfl⟩) ?_
        simp only [Act.put, List.setIfInBounds_toArray, List.set_cons_zero, List.set_cons_succ]
        refine wpAny_take (i := 4) (v := undef) rfl (by decide +kernel) (by decide +kernel) (by decide +kernel) (fun _ _ _ h => h) (Or.inr ⟨by rfl, rfl⟩) ?_
        simp only [Act.put, List.setIfInBounds_toArray, List.set_cons_zero, List.set_cons_succ]
        refine wpAny_take (i := 6) (v := undef) rfl (by decide +kernel) (by decide +kernel) (by decide +kernel) (fun _ _ _ h => h) (Or.inr ⟨by rfl, rfl⟩) ?_
        simp only [Act.put, List.setIfInBounds_toArray, List.set_cons_zero, List.set_cons_succ]
        refine wpAny_take (i := 7) (v := .bool false) rfl (by decide +kernel) (by decide +kernel) (by decide +kernel) (fun _ _ _ h => h) (Or.inl ⟨by rfl, fun w => by go_simp⟩) ?_
        simp only [Act.put, List.setIfInBounds_toArray, List.set_cons_zero, List.set_cons_succ]
        refine wpAny_ready (rs := [8]) (by decide +kernel) (by simp) (AllReady.cons rfl (fun K hK => ?_) AllReady.nil)
        go_simp
        refine hK _ _ ?_
        clear hK K
        refine wpAny_ready (rs := [9]) (by decide +kernel) (by simp) (AllReady.cons rfl (fun K hK => ?_) AllReady.nil)
        go_simp
        refine hK _ _ ?_
        clear hK K
        refine wpAny_done (by decide +kernel) ?_ _
        go_wp2
        refine bodyPost_ret (v := .tuple #[.agg #[.int .i64 x.k, .int .i64 x.ho, .int .i64 x.hn, .int .i64 x.w, .int .i64 x.oo, .int .i64 x.on, .int .i64 x.to, .int .i64 x.tn], .bool false]) (by simp [results, Tryd.results60, go_sem, r0, r1, r2, r3, r4, r5, r6, r7, hw7]) rfl ⟨by rw [HB2.out], ?_⟩
        exact B7.out |>.setCell (Nat.le_refl _) _ |>.setCell (Nat.le_refl _) _ |>.setCell (Nat.le_refl _) _ |>.setCell (Nat.le_refl _) _ |>.setCell (Nat.le_refl _) _ |>.setCell (Nat.le_refl _) _ |>.setCell (Nat.le_refl _) _ |>.setCell (Nat.le_refl _) _
      · go_simp
        clear r0 r1 r2 r3 r4 r5 r6 r7 e0 e1 e2 e3 e4 e5 e6 e7 q0 q1 q2 q3 q4 q5 q6 q7 f0 f1 f2 f3 f4 f5 f6 f7
        refine hU.mono ?_
        rintro e w7 ⟨rfl, hb7⟩
        obtain ⟨r0, r1, r2, r3, r4, r5, r6, r7, e0, e1, e2, e3, e4, e5, e6, e7⟩ := (S6.out.drew.below hb7).res
        obtain ⟨q0, q1, q2, q3, q4, q5, q6, q7, f0, f1, f2, f3, f4, f5, f6, f7⟩ := (S6.out.drew.below hb7).blk
        have hw7 : w.heap.size < w7.heap.size := by have := (S6.out.drew.below hb7).hq; omega
        have B7 : Hid (Below w.heap.size w w7) := (S6.out.drew.below hb7).bel
        clear hb7
        simp only
        refine hK _ _ ?_
        clear hK K
        refine wpAny_take (i := 2) (v := .bool false) rfl (by decide +kernel) (by decide +kernel) (by decide +kernel) (fun _ _ _ h => h) (Or.inl ⟨by rfl, fun w => by go_simp⟩) ?_
        simp only [Act.put, List.setIfInBounds_toArray, List.set_cons_zero, List.set_cons_succ]
        refine wpAny_take (i := 3) (v := .bool false) rfl (by decide +kernel) (by decide +kernel) (by decide +kernel) (fun _ _ _ h => h) (Or.inl ⟨by rfl, fun w => by go_simp⟩) ?_
        simp only [Act.put, List.setIfInBounds_toArray, List.set_cons_zero, List.set_cons_succ]
        refine wpAny_take (i := 5) (v := undef) rfl (by decide +kernel) (by decide +kernel) (by decide +kernel) (fun _ _ _ h => h) (Or.inr ⟨by rfl, rfl⟩) ?_
        simp only [Act.put, List.setIfInBounds_toArray, List.set_cons_zero, List.set_cons_succ]
        refine wpAny_take (i := 4) (v := undef) rfl (by decide +kernel) (by decide +kernel) (by decide +kernel) (fun _ _ _ h => h) (Or.inr ⟨by rfl, rfl⟩) ?_
        simp only [Act.put, List.setIfInBounds_toArray, List.set_cons_zero, List.set_cons_succ]
        refine wpAny_take (i := 6) (v := undef) rfl (by decide +kernel) (by decide +kernel) (by decide +kernel) (fun _ _ _ h => h) (Or.inr ⟨by rfl, rfl⟩) ?_
        simp only [Act.put, List.setIfInBounds_toArray, List.set_cons_zero, List.set_cons_succ]
        refine wpAny_take (i := 7) (v := .bool false) rfl (by decide +kernel) (by decide +kernel) (by decide +kernel) (fun _ _ _ h => h) (Or.inl ⟨by rfl, fun w => by go_simp⟩) ?_
        simp only [Act.put, List.setIfInBounds_toArray, List.set_cons_zero, List.set_cons_succ]
        refine wpAny_ready (rs := [0]) (by decide +kernel) (by simp) (AllReady.cons rfl (fun K hK => ?_) AllReady.nil)
        go_simp
        refine hK _ _ ?_
        clear hK K
        refine wpAny_ready (rs := [8]) (by decide +kernel) (by simp) (AllReady.cons rfl (fun K hK => ?_) AllReady.nil)
        go_simp
        refine hK _ _ ?_
        clear hK K
        refine wpAny_ready (rs := [9]) (by decide +kernel) (by simp) (AllReady.cons rfl (fun K hK => ?_) AllReady.nil)
        go_simp
        refine hK _ _ ?_
        clear hK K
        refine wpAny_done (by decide +kernel) ?_ _
        go_wp2
        refine bodyPost_ret (v := .tuple #[.agg #[.int .i64 x.k, .int .i64 x.ho, .int .i64 x.hn, .int .i64 x.w, .int .i64 x.oo, .int .i64 x.on, .int .i64 x.to, .int .i64 x.tn], .bool false]) (by simp [results, Tryd.results60, go_sem, r0, r1, r2, r3, r4, r5, r6, r7, hw7]) rfl ⟨by rw [HB2.out], ?_⟩
        exact B7.out |>.setCell (Nat.le_refl _) _ |>.setCell (Nat.le_refl _) _ |>.setCell (Nat.le_refl _) _ |>.setCell (Nat.le_refl _) _ |>.setCell (Nat.le_refl _) _ |>.setCell (Nat.le_refl _) _ |>.setCell (Nat.le_refl _) _ |>.setCell (Nat.le_refl _) _
  case first =>
    rcases HK.out with ⟨e5, x4, o1, o2, p1, p2, m4, hr2, hr4, hx⟩ | ⟨e5, em, d, hd, hx⟩ | ⟨e5, em, y0, y1, y2, m0, m1, m2, hd0, hd1, hd2, hx⟩ | ⟨e5, em1, em3, o1, o2, hr2, hx⟩
    · have n5 : ((n : Int) == 5) = true := by simp; omega
      have n4 : (4 : Int) < (n : Int) := by omega
      have HR2 : Hid (Reads x2 o1 o2) := hr2
      have HR4 : Hid (Reads x4 p1 p2) := hr4
      have HX : Hid (x = ⟨4, a1, a2, 0, o1, o2, p1, p2⟩) := hx
      have M4 : Hid ((4, x4) ∈ ls) := m4
      clear e5 hr2 hr4 hx m4 HK HU HL HB
      obtain ⟨q0, q1, q2, q3, q4, q5, q6, q7, f0, f1, f2, f3, f4, f5, f6, f7⟩ := S3.out.blk
      have hqlt := S3.out.hq
      have hne := S3.out.ne.1
      have g2 := S3.out.ws 2 x2 M2.out
      go_wp2_with fail
      refine (HR2.out _).mono ?_
      rintro e w4 ⟨rfl, hb4⟩
      have S4 : Hid (PS w w4 q g gp ls lp ⟨4, a1, a2, 0, 0, 0, 0, 0⟩) := (S3.out.set0 4).below hb4
      clear q0 q1 q2 q3 q4 q5 q6 q7 f0 f1 f2 f3 f4 f5 f6 f7 g2 hb4 S3 hqlt
      obtain ⟨q0, q1, q2, q3, q4, q5, q6, q7, f0, f1, f2, f3, f4, f5, f6, f7⟩ := S4.out.blk
      have hqlt := S4.out.hq
      have g4 := S4.out.ws 4 x4 M4.out
      go_wp2_with fail
      refine (HR4.out _).mono ?_
      rintro e w5 ⟨rfl, hb5⟩
      have S5 : Hid (PS w w5 q g gp ls lp ⟨4, a1, a2, 0, o1, o2, 0, 0⟩) := ((S4.out.set4 o1).set5 o2).below hb5
      clear q0 q1 q2 q3 q4 q5 q6 q7 f0 f1 f2 f3 f4 f5 f6 f7 g4 hb5 S4 hqlt
      obtain ⟨q0, q1, q2, q3, q4, q5, q6, q7, f0, f1, f2, f3, f4, f5, f6, f7⟩ := S5.out.blk
      have hqlt := S5.out.hq
      go_wp2_with fail
      go_meet
      case rel => rw [HX.out]; exact (S5.out.set6 p1).set7 p2
    · have n5 : ((n : Int) == 5) = false := by simp; omega
      have m1 : ((m : Int) == 1) = true := by simp; omega
      have HD : Hid (Digs x2 d) := hd
      have HX : Hid (x = ⟨1, a1, a2, d, 0, 0, 0, 0⟩) := hx
      clear e5 em hd hx HK HU HL HB
      obtain ⟨q0, q1, q2, q3, q4, q5, q6, q7, f0, f1, f2, f3, f4, f5, f6, f7⟩ := S3.out.blk
      have hqlt := S3.out.hq
      have hne := S3.out.ne.1
      have g2 := S3.out.ws 2 x2 M2.out
      go_wp2_with fail
      refine (HD.out _).mono ?_
      rintro e w4 ⟨rfl, rfl⟩
      go_wp2_with fail
      go_meet
      case rel => rw [HX.out]; exact (S3.out.set0 1).set3 d
    · have n5 : ((n : Int) == 5) = false := by simp; omega
      have m1' : ((m : Int) == 1) = false := by simp; omega
      have m3' : ((m : Int) == 3) = true := by simp; omega
      have l0 : (0 : Int) < (m : Int) := by omega
      have l1 : (1 : Int) < (m : Int) := by omega
      have l2 : (2 : Int) < (m : Int) := by omega
      have l0' : 0 < m := by omega
      have l1' : 1 < m := by omega
      have l2' : 2 < m := by omega
      have N0 : Hid ((0, y0) ∈ lp) := m0
      have N1 : Hid ((1, y1) ∈ lp) := m1
      have N2 : Hid ((2, y2) ∈ lp) := m2
      have HX : Hid (x = ⟨3, a1, a2, 0, digI y0, digI y1, 0, digI y2⟩) := hx
      clear e5 em m0 m1 m2 hx HK HU HL HB
      have S4 : Hid (PS w (w3.setCell ⟨q, 0, none⟩ (.int .i64 3)) q g gp ls lp ⟨3, a1, a2, 0, 0, 0, 0, 0⟩) := S3.out.set0 3
      obtain ⟨q0, q1, q2, q3, q4, q5, q6, q7, f0, f1, f2, f3, f4, f5, f6, f7⟩ := S3.out.blk
      have hqlt := S3.out.hq
      have hne := S3.out.ne.2.1
      have p0 := S4.out.ps 0 y0 N0.out
      have p1 := S4.out.ps 1 y1 N1.out
      go_wp2_with fail
      go_region_held3 (fun w' => w'.cell? ⟨gp, 0, none⟩ = some (.string y0) ∧ w'.cell? ⟨gp, 1, none⟩ = some (.string y1)) (first | exact ⟨p0, p1⟩ | assumption | exact ⟨((S4.out.set4 _).set5 _).ps 0 y0 N0.out, ((S4.out.set4 _).set5 _).ps 1 y1 N1.out⟩)
        (first | (go_at_call 78; refine (l2Digit_c _ _ (by assumption)).mono ?_; rintro e w' ⟨rfl, rfl⟩))
      have S5 : Hid (PS w ((((w3.setCell ⟨q, 0, none⟩ (.int .i64 3)).setCell ⟨q, 4, none⟩ (.int .i64 (digI y0))).setCell ⟨q, 5, none⟩ (.int .i64 (digI y1))).drew) q g gp ls lp ⟨3, a1, a2, 0, digI y0, digI y1, 0, 0⟩) := ((S4.out.set4 (digI y0)).set5 (digI y1)).drew
      generalize (((w3.setCell ⟨q, 0, none⟩ (.int .i64 3)).setCell ⟨q, 4, none⟩ (.int .i64 (digI y0))).setCell ⟨q, 5, none⟩ (.int .i64 (digI y1))).drew = w6 at S5 ⊢
      clear q0 q1 q2 q3 q4 q5 q6 q7 f0 f1 f2 f3 f4 f5 f6 f7 p0 p1 hqlt S3 S4
      obtain ⟨q0, q1, q2, q3, q4, q5, q6, q7, f0, f1, f2, f3, f4, f5, f6, f7⟩ := S5.out.blk
      have hqlt := S5.out.hq
      have p2 := S5.out.ps 2 y2 N2.out
      go_wp2_with fail
      refine (l2Digit_c _ _ hd2).mono ?_
      rintro e w4 ⟨rfl, rfl⟩
      go_wp2_with fail
      go_meet
      case rel => rw [HX.out]; exact (S5.out.set6 0).set7 (digI y2)
    · have n5 : ((n : Int) == 5) = false := by simp; omega
      have m1 : ((m : Int) == 1) = false := by simp; omega
      have m3 : ((m : Int) == 3) = false := by simp; omega
      have HR2 : Hid (Reads x2 o1 o2) := hr2
      have HX : Hid (x = ⟨2, a1, a2, 0, o1, o2, 0, 0⟩) := hx
      clear e5 em1 em3 hr2 hx HK HU HL HB
      obtain ⟨q0, q1, q2, q3, q4, q5, q6, q7, f0, f1, f2, f3, f4, f5, f6, f7⟩ := S3.out.blk
      have hqlt := S3.out.hq
      have hne := S3.out.ne.1
      have g2 := S3.out.ws 2 x2 M2.out
      go_wp2_with fail
      refine (HR2.out _).mono ?_
      rintro e w4 ⟨rfl, hb4⟩
      have S4 : Hid (PS w w4 q g gp ls lp ⟨2, a1, a2, 0, 0, 0, 0, 0⟩) := (S3.out.set0 2).below hb4
      clear q0 q1 q2 q3 q4 q5 q6 q7 f0 f1 f2 f3 f4 f5 f6 f7 g2 hb4 S3 hqlt
      obtain ⟨q0, q1, q2, q3, q4, q5, q6, q7, f0, f1, f2, f3, f4, f5, f6, f7⟩ := S4.out.blk
      have hqlt := S4.out.hq
      go_wp2_with fail
      go_meet
      case rel => rw [HX.out]; exact (S4.out.set4 o1).set5 o2

end Go.Proofs.YtajdgbdpmmdlfaaDoor
