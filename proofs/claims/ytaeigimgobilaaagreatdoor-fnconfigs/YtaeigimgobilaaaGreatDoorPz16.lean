/-
  CONTRACTS: spec.l4Bent again, with what is told of where the parts lie and of how much was drawn.
  Conditions: each contract bears its own.
  PLAIN WORDS for the draw of a bent configuration: the state behind the first draw (KZ), and where all its ways meet (KY).
  Conditions: each theorem bears its own.
  CONTRACTS: spec.l6Bent: a bent configuration is drawn.
  Conditions: each contract bears its own.
  CONTRACTS: spec.ProofOf where the role is had.
  Conditions: each contract bears its own.
  CONTRACTS: what both programs' MembersOf answers; results of one number compared.
  Conditions: each contract bears its own.
  CONTRACTS: impl.ProofOf; what both programs' ProofOf answers.
  Conditions: each contract bears its own.
  CONTRACTS: SetsOf of both programs.
  Conditions: each contract bears its own.
-/
import Derived.Test.YtaeigimgobilaaaGreatDoorPz15
import Derived.Test.YtaeigimgobilaaaGreatDoorPz08
import Derived.Test.YtaeigimgobilaaaGreatDoorPz06

namespace Go.Proofs.YtaeigimgobilaaaGreatDoor
open Go.RowKit
set_option linter.unusedVariables false
set_option linter.unusedSimpArgs false

def BentQ (w : World) (B : Nat) (a : Option Addr) (len cap k0 : Nat) (ys : List Int) (e : Ending) (w' : World) : Prop := ∃ (b : Option Addr) (n c kk : Nat) (ps : List PartI), e = .returned (.slice b n c) ∧ (n ≤ 9 ∧ n ≤ c ∧ c ≤ maxLen) ∧ PartsIn w' b n ps ∧ DS w w' B a len cap kk ys ∧ (∀ b' off, b = some ⟨b', off, none⟩ → w.heap.size ≤ b') ∧ kk ≤ k0 + 60

theorem LM.bentQ {w w' : World} {B : Nat} {a : Option Addr} {len cap kk k0 : Nat} {ys : List Int} {g n c : Nat} {ps : List PartI} (h : LM w w' B a len cap kk ys g n c ps) (hn : n ≤ 9) (hk : kk ≤ k0 + 60) : BentQ w B a len cap k0 ys (.returned (.slice (some ⟨g, 0, none⟩) n c)) w' :=
  ⟨some ⟨g, 0, none⟩, n, c, kk, ps, rfl, ⟨hn, ownP_cap h.ln h.ow⟩, h.ow.read h.ln, h.ds, fun b' off e => by cases e; exact h.gw, hk⟩

set_option maxRecDepth 100000 in
set_option maxHeartbeats 4000000 in
theorem bentFormQ_c (w : World) (B : Nat) (a : Option Addr) (len cap k0 : Nat) (ys : List Int) (a' : Option Addr) (m d : Nat) (zs : List RuleI) (h : SrcAt w B a len cap k0 ys) (hl : len ≤ 1048576) (hk0 : k0 ≤ 700) (hm : m ≤ 1000) (hr : RulesIn w a' m zs) (hne : ∀ b off, a' = some ⟨b, off, none⟩ → m = 0 ∨ b ≠ B) :
    Calls Tryz.prog 38 #[.pointer (some ⟨B, 0, none⟩), .slice a' m d] w fun e w' => BentQ w B a len cap k0 ys e w' := by
  have hB := h.lt
  have HCode : Hid (∀ b off, a = some ⟨b, off, none⟩ → len = 0 ∨ b < w.heap.size) := h.code_lt
  have HR : Hid (RulesIn w a' m zs) := hr
  have HNE : Hid (∀ b off, a' = some ⟨b, off, none⟩ → m = 0 ∨ b ≠ B) := hne
  have HS : Hid (SrcAt w B a len cap k0 ys) := h
  obtain ⟨i0, hi, hz0, hz1, hz2⟩ := info_parts Tryz.info104
  have hun : Tryz.prog.underlying 40 = some (.slice 104) := by kernel_rfl
  clear h hr hne
  go_enter Tryz.func38, Tryz.ntmps38
  go_wp2_with fail
  refine (form_c w B a len cap k0 ys a' m d zs HS.out hl hk0 hm HR.out HNE.out).mono ?_
  rintro e w1 ⟨g, n, c, kk, ps, rfl, hn, hkk, hL⟩
  have HL1 : Hid (LM w w1 B a len cap kk ys g n c ps) := hL
  clear hL HS HR HNE
  go_wp2_with fail
  refine (next_c _ B a len cap kk ys 12 HL1.out.ds.src hl (by omega) (by omega) (by omega)).mono ?_
  rintro e w2 ⟨v, v0, v1, rfl, hS2, hG2⟩
  have HL2 : Hid (LM w w2 B a len cap (kk + 1) ys g n c ps) := HL1.out.draw hB hS2 hG2
  have hz2' : w.heap.size ≤ w2.heap.size := HL2.out.size
  clear hS2 hG2 HL1
  by_cases e0 : v = 0
  · subst e0
    go_wp2_with fail
    refine (pick_lm w _ B a len cap _ ys g n c ps HL2.out hB hl (by omega) 4 [0, 1, 2, 4] rfl (by omega) (by omega) _).mono ?_
    rintro e w3 ⟨p1, rfl, hL3⟩
    have HL3 : Hid (LM w w3 B a len cap (kk + 1 + 1) ys g n c ps) := hL3
    clear hL3 HL2
    go_wp2_with fail
    refine (pick_lm w _ B a len cap _ ys g n c ps HL3.out hB hl (by omega) 3 [0, 1, 9] rfl (by omega) (by omega) _).mono ?_
    rintro e w4 ⟨p2, rfl, hL4⟩
    have HL4 : Hid (LM w w4 B a len cap (kk + 1 + 1 + 1) ys g n c ps) := hL4
    clear hL4 HL3
    go_wp2_with fail
    refine (pick_lm w _ B a len cap _ ys g n c ps HL4.out hB hl (by omega) 2 [0, 1] rfl (by omega) (by omega) _).mono ?_
    rintro e w5 ⟨p3, rfl, hL5⟩
    have HL5 : Hid (LM w w5 B a len cap (kk + 1 + 1 + 1 + 1) ys g n c ps) := hL5
    clear hL5 HL4
    go_wp2_with fail
    refine (pick_lm w _ B a len cap _ ys g n c ps HL5.out hB hl (by omega) 3 [0, 9, -1] rfl (by omega) (by omega) _).mono ?_
    rintro e w6 ⟨p4, rfl, hL6⟩
    have HL6 : Hid (LM w w6 B a len cap (kk + 1 + 1 + 1 + 1 + 1) ys g n c ps) := hL6
    clear hL6 HL5
    go_wp2_with (first
      | (at_builtin; refine wpList_append_own _ rfl _ _ 40 rfl w.heap.size 104 i0 (.agg #[.int .i64 0, .int .i64 0, .int .i64 0, .int .i64 0, .int .i64 0]) 5 40 hun hi hz0 hz1 hz2 rfl (by decide) _ n (flatP ps) rfl (?c0) ⟨w6.heap.size, 0, none⟩ 1 1 (rowP (⟨p1, p2, p3, p4, 0⟩ : PartI)) rfl rfl (cell_newP w6 (⟨p1, p2, p3, p4, 0⟩ : PartI) _) (flatP_cells [(⟨p1, p2, p3, p4, 0⟩ : PartI)]) ?c3 ?c4 ?c5 ?_)
      | fail)
    case c0 => have h0 : w6.ownsRow w.heap.size 104 5 (.slice (some ⟨g, 0, none⟩) n c) n (flatP ps) := by have := HL6.out.ow; unfold OwnP at this; rw [HL6.out.ln] at this; exact this
               exact h0.alloc _
    case c3 => unfold maxLen; omega
    case c4 => omega
    case c5 => have := HL6.out.size; simp; omega
    intro v' w9 hown' hgrow hnil
    have HN : Hid (∃ g' c', v' = .slice (some ⟨g', 0, none⟩) (n + 1) c' ∧ LM w w9 B a len cap (kk + 1 + 1 + 1 + 1 + 1) ys g' (n + 1) c' (ps ++ [(⟨p1, p2, p3, p4, 0⟩ : PartI)])) := LM.next HL6.out HCode.out hB hown' hgrow hnil
    clear hown' hgrow hnil
    obtain ⟨g', c', rfl, hl9⟩ := HN.out
    have HL9 : Hid (LM w w9 B a len cap (kk + 1 + 1 + 1 + 1 + 1) ys g' (n + 1) c' (ps ++ [(⟨p1, p2, p3, p4, 0⟩ : PartI)])) := hl9
    clear hl9 HN
    clear HL6
    go_wp2_with fail
    go_ret
    exact HL9.out.bentQ (by omega) (by omega)
  · have b0 : (v == 0) = false := by simpa using e0
    by_cases e1 : v = 1
    · subst e1
      obtain ⟨wm, hmk, hownm, hgrm⟩ := run_make_full (P := Tryz.prog) (w := w2) w.heap.size 40 104 i0 (.agg #[.int .i64 0, .int .i64 0, .int .i64 0, .int .i64 0, .int .i64 0]) 5 hun hi hz0 hz1 .i64 .i64 9 (by rw [hz2]; omega) (by unfold maxLen; omega) hz2'
      have HN : Hid (LM w wm B a len cap (kk + 1) ys w2.heap.size 9 9 (List.replicate 9 zeroPart)) := by
        rw [made9] at hownm
        exact ⟨hownm, rfl, ⟨HL2.out.ds.src.kept hgrm (by simp) (fun _ _ _ => .inr (by simp)), grown_trans HL2.out.ds.gr (grown_none hgrm _)⟩, hz2', (hownm.lt w2.heap.size (by simp [Value.ownBlock])).2⟩
      have hmk' : (Instr.makeSlice 40 (.int .i64 9) (.int .i64 9)).run Tryz.prog w2 = .ok (.slice (some ⟨w2.heap.size, 0, none⟩) 9 9) wm := hmk
      clear hownm hgrm HL2 e0 hmk
      go_wp2_with fail
      go_ret
      exact HN.out.bentQ (by omega) (by omega)
    · have b1 : (v == 1) = false := by simpa using e1
      by_cases e2 : v = 2
      · subst e2
        clear b0 b1 e0 e1
        go_wp2_with fail
        go_ret
        exact ⟨none, 0, 0, kk + 1, [], rfl, ⟨by omega, by omega, Nat.zero_le _⟩, ⟨rfl, fun h => by omega⟩, HL2.out.ds, (fun b' off e => by cases e), by omega⟩
      · have b2 : (v == 2) = false := by simpa using e2
        clear e0 e1 e2
        go_wp2_with fail
        go_ret
        exact HL2.out.bentQ (by omega) (by omega)

end Go.Proofs.YtaeigimgobilaaaGreatDoor

namespace Go.Proofs.YtaeigimgobilaaaGreatDoor
open Go.RowKit
set_option linter.unusedVariables false
set_option linter.unusedSimpArgs false

/-- A configuration that was drawn, in a box of its own; the result's box is as it was made. -/
structure KZ (w : World) (R Q B : Nat) (a : Option Addr) (len cap kk : Nat) (ys : List Int) (c : ConfI) (A : Nat → Prop) (g : Nat) (wr : World) : Prop where
  ds : DS w wr B a len cap kk ys
  rb : wr.heap[R]? = some (.cells #[.int .i64 0, .int .i64 0, .slice none 0 0, .slice none 0 0, .slice none 0 0] 28 (0, 0))
  qb : wr.heap[Q]? = some (.cells #[.int .i64 c.e, .int .i64 c.f, .slice c.ra c.rn c.rc, .slice c.fa c.fn c.fc, .slice c.ca c.cn c.cc] 28 (0, 0))
  fa : c.fa = some ⟨g, 0, none⟩
  fo : wr.ownsRow (R + 1) 42 1 (.slice c.fa c.fn c.fc) c.fn (c.fs.map fval)
  re : HoldS A (fun X => RulesIn X c.ra c.rn c.zs ∧ IntIn X c.ca c.cn c.cs ∧ ∀ (k : Nat) (x : FormI), c.fs[k]? = some x → PartsIn X x.a x.n x.ps) wr
  av : ∀ b, A b → R < b ∧ b ≠ Q ∧ b ≠ g
  ne : w.heap.size ≤ R ∧ R < Q ∧ g ≠ Q
  ra : ∀ b off, c.ra = some ⟨b, off, none⟩ → R < b
  rc : c.rn ≤ c.rc ∧ c.rc ≤ maxLen
  le : c.rn ≤ 17 ∧ c.fn ≤ 5 ∧ c.cn ≤ 5 ∧ FormsLe 9 c.fs

theorem KZ.draw {w : World} {R Q B : Nat} {a : Option Addr} {len cap kk k' : Nat} {ys : List Int} {c : ConfI} {A : Nat → Prop} {g : Nat} {wr wr' : World} (h : KZ w R Q B a len cap kk ys c A g wr) (hB : B < w.heap.size) (hs : SrcAt wr' B a len cap k' ys) (hg : wr.grownBy wr' (some B)) : KZ w R Q B a len cap k' ys c A g wr' := by
  have hn := h.ne
  refine ⟨h.ds.draw hs hg, (hg.block R (Array.getElem?_eq_some_iff.1 h.rb).1 (fun q => by cases q; omega)).trans h.rb, (hg.block Q (Array.getElem?_eq_some_iff.1 h.qb).1 (fun q => by cases q; omega)).trans h.qb, h.fa, World.ownsRow.kept (row := some B) h.fo hg (.inr ?_), h.re.grown hg (fun b e q => by have := (h.av b e).1; cases q; omega), h.av, h.ne, h.ra, h.rc, h.le⟩
  intro e
  have := (h.fo.lt B e).1
  omega

/-- Behind the first draw. -/
theorem KD.box {w w2 w3 : World} {R B : Nat} {a : Option Addr} {len cap k2 kk : Nat} {ys : List Int} {c : ConfI} {A : Nat → Prop} {g : Nat} (h : KD w2 B a len cap kk ys c A g w3) (hd : DS w w2 B a len cap k2 ys) (rb : w2.heap[R]? = some (.cells #[.int .i64 0, .int .i64 0, .slice none 0 0, .slice none 0 0, .slice none 0 0] 28 (0, 0))) (hR : w.heap.size ≤ R) (hB : B < w.heap.size) :
    KZ w R w3.heap.size B a len cap kk ys c A g (w3.alloc (.cells #[.int .i64 c.e, .int .i64 c.f, .slice c.ra c.rn c.rc, .slice c.fa c.fn c.fc, .slice c.ca c.cn c.cc] 28)) := by
  have hRl : R < w2.heap.size := (Array.getElem?_eq_some_iff.1 rb).1
  have h23 := h.ds.gr.size
  have hal := grown_alloc w3 (.cells #[.int .i64 c.e, .int .i64 c.f, .slice c.ra c.rn c.rc, .slice c.fa c.fn c.fc, .slice c.ca c.cn c.cc] 28)
  have hfo : w3.ownsRow w2.heap.size 42 1 (.slice c.fa c.fn c.fc) c.fn (c.fs.map fval) := h.fo
  have hgl : w2.heap.size ≤ g ∧ g < w3.heap.size := hfo.lt g (by rw [h.fa]; rfl)
  have hfo2 : w3.ownsRow (R + 1) 42 1 (.slice c.fa c.fn c.fc) c.fn (c.fs.map fval) := by
    refine ⟨hfo.1, ?_⟩
    rcases hfo.2 with q | ⟨g', c', cur, q1, q2, q3⟩
    · exact .inl q
    · exact .inr ⟨g', c', cur, q1, by omega, q3⟩
  refine ⟨DS.alloc ⟨h.ds.src, grown_trans hd.gr h.ds.gr⟩ _, ?_, heap_alloc_new _ _, h.fa, hfo2.alloc _, h.re.grown hal (fun b e q => by cases q), fun b e => ⟨by have := (h.av b e).1; omega, by have := h.re.lt b e; omega, (h.av b e).2⟩, ⟨hR, by omega, by omega⟩, fun b off e => by have := h.ra b off e; omega, h.rc, h.le⟩
  exact (hal.block R (by omega) (fun q => by cases q)).trans ((h.ds.gr.block R hRl (fun q => by cases q; omega)).trans rb)

/-- Where all ways meet: some configuration in its box, and what it holds hangs on new blocks alone. -/
structure KY (w : World) (R Q B : Nat) (a : Option Addr) (len cap kk : Nat) (ys : List Int) (c : ConfI) (A : Nat → Prop) (wr : World) : Prop where
  ds : DS w wr B a len cap kk ys
  rb : wr.heap[R]? = some (.cells #[.int .i64 0, .int .i64 0, .slice none 0 0, .slice none 0 0, .slice none 0 0] 28 (0, 0))
  qb : wr.heap[Q]? = some (.cells #[.int .i64 c.e, .int .i64 c.f, .slice c.ra c.rn c.rc, .slice c.fa c.fn c.fc, .slice c.ca c.cn c.cc] 28 (0, 0))
  ci : HoldS A (fun X => ConfIn X c) wr
  av : ∀ b, A b → R < b ∧ b ≠ Q
  ne : w.heap.size ≤ R ∧ R < Q
  rc : c.rn ≤ c.rc ∧ c.rc ≤ maxLen
  le : c.rn ≤ 17 ∧ c.fn ≤ 5 ∧ c.cn ≤ 5 ∧ FormsLe 9 c.fs

/-- A row of forms of one's own, read. -/
theorem holdS_forms {B g n cap : Nat} {fs : List FormI} {A : Nat → Prop} {W : World} (ho : W.ownsRow B 42 1 (.slice (some ⟨g, 0, none⟩) n cap) n (fs.map fval)) (h : HoldS A (fun X => ∀ (k : Nat) (x : FormI), fs[k]? = some x → PartsIn X x.a x.n x.ps) W) : HoldS (fun b => A b ∨ b = g) (fun X => FormsIn X (some ⟨g, 0, none⟩) n fs) W := by
  have hl : fs.length = n := by have := ho.1; simpa using this
  have hg := ho.lt g rfl
  have hc : ∀ (k : Nat) (x : FormI), fs[k]? = some x → W.cell? ⟨g, k, none⟩ = some (.slice x.a x.n x.cap) := fun k x hx => by
    have := ho.cells (g := g) rfl k (fval x) (by rw [List.getElem?_map, hx]; rfl)
    have e : (⟨g, 0, none⟩ : Addr).add k = ⟨g, k, none⟩ := by
      unfold Addr.add
      split
      · next h0 => subst h0; rfl
      · simp
    rw [e] at this
    exact this
  have key : ∀ X : World, (∀ b, (A b ∨ b = g) → X.heap[b]? = W.heap[b]?) → FormsIn X (some ⟨g, 0, none⟩) n fs := fun X hX =>
    ⟨hl, fun _ => ⟨g, 0, rfl, fun k x hx => ⟨by rw [Nat.zero_add]; exact (World.cell?_of_block (w := W) (w' := X) (a := ⟨g, k, none⟩) (hX g (.inr rfl))).trans (hc k x hx), h.kp X (fun b hb => hX b (.inl hb)) k x hx⟩⟩⟩
  exact ⟨key W fun _ _ => rfl, fun b hb => hb.elim (h.lt b) (fun e => e ▸ hg.2), key⟩

theorem KZ.meet {w : World} {R Q B : Nat} {a : Option Addr} {len cap kk : Nat} {ys : List Int} {c : ConfI} {A : Nat → Prop} {g : Nat} {wr : World} (h : KZ w R Q B a len cap kk ys c A g wr) : KY w R Q B a len cap kk ys c (fun b => A b ∨ A b ∨ b = g) wr := by
  have hfo := h.fo
  rw [h.fa] at hfo
  have hf := holdS_forms hfo (h.re.imp fun X hX => hX.2.2)
  have hgR := (hfo.lt g rfl).1
  refine ⟨h.ds, h.rb, h.qb, (h.re.and hf).imp fun X hX => ⟨hX.1.1, by rw [h.fa]; exact hX.2, hX.1.2.1⟩, ?_, ⟨h.ne.1, h.ne.2.1⟩, h.rc, h.le⟩
  rintro b (e | e | rfl)
  · exact ⟨(h.av b e).1, (h.av b e).2.1⟩
  · exact ⟨(h.av b e).1, (h.av b e).2.1⟩
  · exact ⟨by omega, h.ne.2.2⟩

end Go.Proofs.YtaeigimgobilaaaGreatDoor

namespace Go.Proofs.YtaeigimgobilaaaGreatDoor
open Go.RowKit
set_option linter.unusedVariables false
set_option linter.unusedSimpArgs false

/-- A configuration that was drawn: what it holds hangs on new blocks alone. -/
structure KE (w : World) (B : Nat) (a : Option Addr) (len cap kk : Nat) (ys : List Int) (c : ConfI) (A : Nat → Prop) (wr : World) : Prop where
  ds : DS w wr B a len cap kk ys
  ci : HoldS A (fun X => ConfIn X c) wr
  av : ∀ b, A b → w.heap.size ≤ b
  rc : c.rn ≤ c.rc ∧ c.rc ≤ maxLen
  le : c.rn ≤ 17 ∧ c.fn ≤ 5 ∧ c.cn ≤ 5 ∧ FormsLe 9 c.fs

/-- What the draw hands out. -/
def BentK (w : World) (B : Nat) (a : Option Addr) (len cap k0 : Nat) (ys : List Int) (d : Ending) (w' : World) : Prop := ∃ (c : ConfI) (A : Nat → Prop) (kk : Nat), d = .returned (.agg #[.int .i64 c.e, .int .i64 c.f, .slice c.ra c.rn c.rc, .slice c.fa c.fn c.fc, .slice c.ca c.cn c.cc]) ∧ kk ≤ k0 + 300 ∧ KE w B a len cap kk ys c A w'

theorem ds_drew {w wr : World} {B : Nat} {a : Option Addr} {len cap kk : Nat} {ys : List Int} (h : DS w.drew wr B a len cap kk ys) : DS w wr B a len cap kk ys := ⟨h.src, h.gr.os, h.gr.tape, h.gr.output, h.gr.size, h.gr.block⟩

theorem KY.fin {w : World} {R Q B : Nat} {a : Option Addr} {len cap kk : Nat} {ys : List Int} {c : ConfI} {A : Nat → Prop} {wr W5 : World} (h : KY w R Q B a len cap kk ys c A wr) (hB : B < w.heap.size) (ha : ∀ b off, a = some ⟨b, off, none⟩ → len = 0 ∨ b < w.heap.size) (hg : wr.grownBy W5 (some R)) : KE w B a len cap kk ys c A W5 := by
  have hn := h.ne
  exact ⟨h.ds.row hg (fun q e => by cases e; omega) hB ha, h.ci.grown hg (fun b e q => by have := (h.av b e).1; cases q; omega), fun b e => by have := (h.av b e).1; omega, h.rc, h.le⟩

theorem KY.put {w : World} {R Q B : Nat} {a : Option Addr} {len cap kk : Nat} {ys : List Int} {c c' : ConfI} {A A' : Nat → Prop} {wr : World} (h : KY w R Q B a len cap kk ys c A wr) (hB : B < w.heap.size) (ha : ∀ b off, a = some ⟨b, off, none⟩ → len = 0 ∨ b < w.heap.size) (j : Nat) (v : Value)
    (hc : (#[.int .i64 c.e, .int .i64 c.f, .slice c.ra c.rn c.rc, .slice c.fa c.fn c.fc, .slice c.ca c.cn c.cc] : Array Value).setIfInBounds j v = #[.int .i64 c'.e, .int .i64 c'.f, .slice c'.ra c'.rn c'.rc, .slice c'.fa c'.fn c'.fc, .slice c'.ca c'.cn c'.cc])
    (ci : HoldS A' (fun X => ConfIn X c') wr) (av : ∀ b, A' b → R < b ∧ b ≠ Q) (rc : c'.rn ≤ c'.rc ∧ c'.rc ≤ maxLen) (le : c'.rn ≤ 17 ∧ c'.fn ≤ 5 ∧ c'.cn ≤ 5 ∧ FormsLe 9 c'.fs) : KY w R Q B a len cap kk ys c' A' (wr.setCell ⟨Q, j, none⟩ v) := by
  have hn := h.ne
  have hg := grown_set wr Q j v
  refine ⟨h.ds.set (by omega) hB ha j v, (hg.block R (Array.getElem?_eq_some_iff.1 h.rb).1 (fun q => by cases q; omega)).trans h.rb, ?_, ci.grown hg (fun b e q => by cases q; exact (av _ e).2 rfl), av, h.ne, rc, le⟩
  have := heap_setCell_same wr Q j _ _ v h.qb
  rw [hc] at this
  exact this

/-- A new row elsewhere. -/
theorem KY.grow {w : World} {R Q B : Nat} {a : Option Addr} {len cap kk : Nat} {ys : List Int} {c : ConfI} {A : Nat → Prop} {wr wr' : World} (h : KY w R Q B a len cap kk ys c A wr) (hB : B < w.heap.size) (ha : ∀ b off, a = some ⟨b, off, none⟩ → len = 0 ∨ b < w.heap.size) (hg : wr.grownBy wr' none) : KY w R Q B a len cap kk ys c A wr' :=
  ⟨h.ds.row hg (fun q e => by cases e) hB ha, (hg.block R (Array.getElem?_eq_some_iff.1 h.rb).1 (fun q => by cases q)).trans h.rb, (hg.block Q (Array.getElem?_eq_some_iff.1 h.qb).1 (fun q => by cases q)).trans h.qb, h.ci.grown hg (fun b e q => by cases q), h.av, h.ne, h.rc, h.le⟩

theorem owns_head {W : World} {L g n cap : Nat} {T : TypeId} {x : Value} {xs : List Value} (h : W.ownsRow L T 1 (.slice (some ⟨g, 0, none⟩) n cap) n (x :: xs)) (v : Value) : (W.setCell ⟨g, 0, none⟩ v).ownsRow L T 1 (.slice (some ⟨g, 0, none⟩) n cap) n (v :: xs) := by
  refine ⟨by simpa using h.1, ?_⟩
  rcases h.2 with ⟨e, _⟩ | ⟨g', cap', cur, e, hb, hg, hn, hm, hs, ht⟩
  · cases e
  · cases e
    refine .inr ⟨g, cap, cur.setIfInBounds 0 v, rfl, hb, heap_setCell_same W g 0 _ _ v hg, hn, hm, by simpa using hs, ?_⟩
    have hl := h.1
    cases hcl : cur.toList with
    | nil => rw [hcl] at ht; simp at ht
    | cons y ys =>
      rw [hcl] at ht
      cases hn1 : n * 1 with
      | zero => rw [hn1] at ht; simp at ht
      | succ m =>
        rw [hn1] at ht
        simp only [List.take_succ_cons, List.cons.injEq] at ht
        rw [Array.toList_setIfInBounds, hcl]
        simp [ht.2]

/-- The first form is another one. -/
theorem KZ.form {w : World} {R Q B : Nat} {a : Option Addr} {len cap kk : Nat} {ys : List Int} {e f : Int} {ra : Option Addr} {rn rc : Nat} {zs : List RuleI} {fn fc : Nat} {f0 : FormI} {fs : List FormI} {ca : Option Addr} {cn cc : Nat} {cs : List Int} {A : Nat → Prop} {g : Nat} {wr : World} {b : Option Addr} {n cp : Nat} {ps : List PartI}
    (h : KZ w R Q B a len cap kk ys ⟨e, f, ra, rn, rc, zs, some ⟨g, 0, none⟩, fn, fc, f0 :: fs, ca, cn, cc, cs⟩ A g wr) (hB : B < w.heap.size) (ha : ∀ b off, a = some ⟨b, off, none⟩ → len = 0 ∨ b < w.heap.size) (hn : n ≤ 9) (hp : PartsIn wr b n ps) (hb : ∀ b' off, b = some ⟨b', off, none⟩ → Q < b' ∧ g < b') :
    KY w R Q B a len cap kk ys ⟨e, f, ra, rn, rc, zs, some ⟨g, 0, none⟩, fn, fc, ⟨b, n, cp, ps⟩ :: fs, ca, cn, cc, cs⟩ (fun q => (A q ∨ (0 < n ∧ ∃ off, b = some ⟨q, off, none⟩)) ∨ (A q ∨ (0 < n ∧ ∃ off, b = some ⟨q, off, none⟩)) ∨ q = g) (wr.setCell ⟨g, 0, none⟩ (.slice b n cp)) := by
  have hne := h.ne
  have hg := grown_set wr g 0 (.slice b n cp)
  have hgR := (h.fo.lt g rfl).1
  have hP : HoldS (fun q => 0 < n ∧ ∃ off, b = some ⟨q, off, none⟩) (fun X => PartsIn X b n ps) wr := ⟨hp, fun q ⟨h0, off, eb⟩ => by
      obtain ⟨b', off', e', hr⟩ := hp.2 h0
      rw [eb] at e'
      cases e'
      obtain ⟨x, hx⟩ : ∃ x, ps[0]? = some x := ⟨_, List.getElem?_eq_getElem (by rw [hp.1]; exact h0)⟩
      obtain ⟨c0, _⟩ := hr 0 x hx
      exact World.block_lt_of_cell? _ _ c0, fun X hX => parts_keep hp (fun b' off e' h0 => hX b' ⟨h0, off, e'⟩)⟩
  have hne2 : ∀ q, (A q ∨ (0 < n ∧ ∃ off, b = some ⟨q, off, none⟩)) → R < q ∧ q ≠ Q ∧ q ≠ g := fun q hq => by
    rcases hq with hq | ⟨_, off, hq⟩
    · exact h.av q hq
    · have := hb q off hq
      omega
  have hI := (h.re.and hP).grown hg (fun q hq e => by cases e; exact (hne2 _ hq).2.2 rfl)
  have hF := holdS_forms (fs := ⟨b, n, cp, ps⟩ :: fs) (n := fn) (cap := fc) (B := R + 1) (by
    have := h.fo
    simp only [List.map_cons] at this ⊢
    exact owns_head this (.slice b n cp)) (hI.imp fun X hX => fun k x hx => by
      cases k with
      | zero => simp at hx; subst hx; exact hX.2
      | succ k => simp at hx; exact hX.1.2.2 (k + 1) x (by simpa using hx))
  refine ⟨h.ds.set (by omega) hB ha 0 _, (hg.block R (Array.getElem?_eq_some_iff.1 h.rb).1 (fun q => by cases q; omega)).trans h.rb, (hg.block Q (Array.getElem?_eq_some_iff.1 h.qb).1 (fun q => by cases q; exact hne.2.2 rfl)).trans h.qb, (hI.and hF).imp fun X hX => ⟨hX.1.1.1, hX.2, hX.1.1.2.1⟩, ?_, ⟨hne.1, hne.2.1⟩, h.rc, ⟨h.le.1, h.le.2.1, h.le.2.2.1, fun k x hx => ?_⟩⟩
  · rintro q (hq | hq | rfl)
    · exact ⟨(hne2 q hq).1, (hne2 q hq).2.1⟩
    · exact ⟨(hne2 q hq).1, (hne2 q hq).2.1⟩
    · exact ⟨by omega, hne.2.2⟩
  · cases k with
    | zero => simp at hx; subst hx; exact hn
    | succ k => simp at hx; exact h.le.2.2.2 (k + 1) x (by simpa using hx)

theorem five_none {k : Nat} {x : FormI} (h : (List.replicate 5 (⟨none, 0, 0, []⟩ : FormI))[k]? = some x) : x = ⟨none, 0, 0, []⟩ := by
  rw [List.getElem?_replicate] at h
  split at h
  · exact (Option.some.inj h).symm
  · cases h

theorem five_parts (X : World) : ∀ (k : Nat) (x : FormI), (List.replicate 5 (⟨none, 0, 0, []⟩ : FormI))[k]? = some x → PartsIn X x.a x.n x.ps := fun k x h => by
  rw [five_none h]
  exact ⟨rfl, fun h => absurd h (Nat.lt_irrefl 0)⟩

theorem holdS_five (W : World) : HoldS (fun _ => False) (fun X => ∀ (k : Nat) (x : FormI), (List.replicate 5 (⟨none, 0, 0, []⟩ : FormI))[k]? = some x → PartsIn X x.a x.n x.ps) W :=
  ⟨five_parts W, fun b e => e.elim, fun X _ => five_parts X⟩

theorem five_le : FormsLe 9 (List.replicate 5 (⟨none, 0, 0, []⟩ : FormI)) := fun k x h => by
  rw [five_none h]
  exact Nat.zero_le _

theorem made5F : (madeCells (Value.cells (.agg #[.slice none 0 0])) (5 * 1)).toList = (List.replicate 5 (⟨none, 0, 0, []⟩ : FormI)).map fval := by kernel_rfl

set_option maxRecDepth 100000 in
set_option maxHeartbeats 8000000 in
theorem bent6_c (w : World) (B : Nat) (a : Option Addr) (len cap k0 : Nat) (ys : List Int) (h : SrcAt w B a len cap k0 ys) (hl : len ≤ 1048576) (hk0 : k0 ≤ 250) :
    Calls Tryz.prog 17 #[.pointer (some ⟨B, 0, none⟩)] w fun d w' => BentK w B a len cap k0 ys d w' := by
  have hB := h.lt
  have HCode : Hid (∀ b off, a = some ⟨b, off, none⟩ → len = 0 ∨ b < w.heap.size) := h.code_lt
  obtain ⟨W0, hW0⟩ : ∃ W0, W0 = w.alloc (.cells #[.int .i64 0, .int .i64 0, .slice none 0 0, .slice none 0 0, .slice none 0 0] 28) := ⟨_, rfl⟩
  have D0 : Hid (DS w W0 B a len cap k0 ys) := by rw [hW0]; exact (DS.start h).alloc _
  have R0 : Hid (W0.heap[w.heap.size]? = some (.cells #[.int .i64 0, .int .i64 0, .slice none 0 0, .slice none 0 0, .slice none 0 0] 28 (0, 0))) := by rw [hW0]; exact heap_alloc_new _ _
  obtain ⟨i0, hi, hz0, hz1, hz2⟩ := info_parts Tryz.infoFm
  have hfun : Tryz.prog.underlying 25 = some (.slice 42) := by kernel_rfl
  clear h
  go_enter Tryz.func17, Tryz.ntmps17
  go_upto_region 1 with fail
  rw [← hW0]
  clear hW0
  go_wp2_with fail
  refine (next_c _ B a len cap k0 ys 2 D0.out.src hl (by omega) (by omega) (by omega)).mono ?_
  rintro d w1 ⟨p1, p10, p12, rfl, hS1, hG1⟩
  have D1 := hidQ (D0.out.draw hS1 hG1)
  have R1 := hidQ ((hG1.block w.heap.size (Array.getElem?_eq_some_iff.1 R0.out).1 (fun q => by cases q; omega)).trans R0.out)
  clear hS1 hG1 D0 R0
  go_wp2_with fail
  refine (next_c _ B a len cap (k0 + 1) ys 2 D1.out.src hl (by omega) (by omega) (by omega)).mono ?_
  rintro d w2 ⟨p2, p20, p22, rfl, hS2, hG2⟩
  have D2 := hidQ (D1.out.draw hS2 hG2)
  have R2 := hidQ ((hG2.block w.heap.size (Array.getElem?_eq_some_iff.1 R1.out).1 (fun q => by cases q; omega)).trans R1.out)
  clear hS2 hG2 D1 R1
  go_wp2_with fail
  refine (draw6_c _ B a len cap (k0 + 1 + 1) ys _ _ D2.out.src hl (by omega)).mono ?_
  rintro d w3 ⟨⟨e, f, ra, rn, rc, zs, fa, fn, fc, fs, ca, cn, cc, cs⟩, A, g, kk, rfl, hfn, hkk, hD⟩
  obtain rfl : fa = some ⟨g, 0, none⟩ := hD.fa
  have KZ0 := hidQ (hD.box D2.out R2.out (Nat.le_refl _) hB)
  clear hD D2 R2 p10 p12 p20 p22
  go_upto_region 2 with fail
  try simp only at KZ0
  generalize w3.alloc (.cells #[.int .i64 e, .int .i64 f, .slice ra rn rc, .slice (some ⟨g, 0, none⟩) fn fc, .slice ca cn cc] 28) = w4 at KZ0 ⊢
  generalize w3.heap.size = Q at KZ0 ⊢
  generalize w.heap.size = R at KZ0 ⊢
  go_wp2_with fail
  refine (next_c _ B a len cap kk ys 14 KZ0.out.ds.src hl (by omega) (by omega) (by omega)).mono ?_
  rintro d w5 ⟨v, v0, v14, rfl, hS5, hG5⟩
  have KZ1 := hidQ (KZ0.out.draw hB hS5 hG5)
  clear hS5 hG5 KZ0
  have hQ5 := (Array.getElem?_eq_some_iff.1 KZ1.out.qb).1
  have hR5 := (Array.getElem?_eq_some_iff.1 KZ1.out.rb).1
  by_cases e0 : v = 0
  · subst e0
    go_wp2_with fail
    refine (pickK w5 _ B a len cap (kk + 1) ys KZ1.out.ds.src hl (by omega) [0, 9, 10] (by simp) (by simp) w5.heap.size (by have := KZ1.out.ds.src.lt; omega) ((Below.refl _ _).alloc (Nat.le_refl _) _) (boxV_new w5 _ _).out).mono ?_
    rintro d w6 ⟨x, rfl, hS6, hG6⟩
    have KZ2 := hidQ (KZ1.out.draw hB hS6 hG6)
    have qB := box_of_heap KZ2.out.qb
    have u0 := qB.1 0 _ rfl
    have u1 := qB.2 0
    have u2 := (Array.getElem?_eq_some_iff.1 KZ2.out.qb).1
    have HY := hidQ (KZ2.out.meet.put (c' := ⟨x, f, ra, rn, rc, zs, (some ⟨g, 0, none⟩), fn, fc, fs, ca, cn, cc, cs⟩) hB HCode.out 0 (.int .i64 x) rfl (KZ2.out.meet.ci.imp fun X hX => ⟨hX.rules, hX.forms, hX.classes⟩) KZ2.out.meet.av KZ2.out.meet.rc KZ2.out.meet.le)
    clear hS6 hG6 KZ1 KZ2 qB
    go_upto_region 15 with fail
    clear u0 u1 u2
    have qB := box_of_heap HY.out.qb
    have rB := box_of_heap HY.out.rb
    have q0 := qB.1 0 _ rfl
    have q1 := qB.1 1 _ rfl
    have q2 := qB.1 2 _ rfl
    have q3 := qB.1 3 _ rfl
    have q4 := qB.1 4 _ rfl
    have r0 := rB.1 0 _ rfl
    have r1 := rB.1 1 _ rfl
    have r2 := rB.1 2 _ rfl
    have r3 := rB.1 3 _ rfl
    have r4 := rB.1 4 _ rfl
    have m0 := rB.2 0
    have m1 := rB.2 1
    have m2 := rB.2 2
    have m3 := rB.2 3
    have m4 := rB.2 4
    have hRl := (Array.getElem?_eq_some_iff.1 HY.out.rb).1
    have hQl := (Array.getElem?_eq_some_iff.1 HY.out.qb).1
    have hRQ := HY.out.ne.2
    clear qB rB
    go_wp2_with fail
    refine bodyPost_ret (v := .agg #[.int .i64 x, .int .i64 f, .slice ra rn rc, .slice (some ⟨g, 0, none⟩) fn fc, .slice ca cn cc]) (by simp [results, Tryz.results17, go_sem, r0, r1, r2, r3, r4, hRl]) rfl ?_
    exact ⟨⟨x, f, ra, rn, rc, zs, (some ⟨g, 0, none⟩), fn, fc, fs, ca, cn, cc, cs⟩, _, _, rfl, by omega, HY.out.fin hB HCode.out (grown5 _ _ _ _ _ _ _)⟩
  · have b0 : (v == 0) = false := by simpa using e0
    by_cases e1 : v = 1
    · subst e1
      clear e0
      go_wp2_with fail
      refine (pickK w5 _ B a len cap (kk + 1) ys KZ1.out.ds.src hl (by omega) [0, 3] (by simp) (by simp) w5.heap.size (by have := KZ1.out.ds.src.lt; omega) ((Below.refl _ _).alloc (Nat.le_refl _) _) (boxV_new w5 _ _).out).mono ?_
      rintro d w6 ⟨x, rfl, hS6, hG6⟩
      have KZ2 := hidQ (KZ1.out.draw hB hS6 hG6)
      have qB := box_of_heap KZ2.out.qb
      have u0 := qB.1 1 _ rfl
      have u1 := qB.2 1
      have u2 := (Array.getElem?_eq_some_iff.1 KZ2.out.qb).1
      have HY := hidQ (KZ2.out.meet.put (c' := ⟨e, x, ra, rn, rc, zs, (some ⟨g, 0, none⟩), fn, fc, fs, ca, cn, cc, cs⟩) hB HCode.out 1 (.int .i64 x) rfl (KZ2.out.meet.ci.imp fun X hX => ⟨hX.rules, hX.forms, hX.classes⟩) KZ2.out.meet.av KZ2.out.meet.rc KZ2.out.meet.le)
      clear hS6 hG6 KZ1 KZ2 qB
      go_upto_region 15 with fail
      clear u0 u1 u2
      have qB := box_of_heap HY.out.qb
      have rB := box_of_heap HY.out.rb
      have q0 := qB.1 0 _ rfl
      have q1 := qB.1 1 _ rfl
      have q2 := qB.1 2 _ rfl
      have q3 := qB.1 3 _ rfl
      have q4 := qB.1 4 _ rfl
      have r0 := rB.1 0 _ rfl
      have r1 := rB.1 1 _ rfl
      have r2 := rB.1 2 _ rfl
      have r3 := rB.1 3 _ rfl
      have r4 := rB.1 4 _ rfl
      have m0 := rB.2 0
      have m1 := rB.2 1
      have m2 := rB.2 2
      have m3 := rB.2 3
      have m4 := rB.2 4
      have hRl := (Array.getElem?_eq_some_iff.1 HY.out.rb).1
      have hQl := (Array.getElem?_eq_some_iff.1 HY.out.qb).1
      have hRQ := HY.out.ne.2
      clear qB rB
      go_wp2_with fail
      refine bodyPost_ret (v := .agg #[.int .i64 e, .int .i64 x, .slice ra rn rc, .slice (some ⟨g, 0, none⟩) fn fc, .slice ca cn cc]) (by simp [results, Tryz.results17, go_sem, r0, r1, r2, r3, r4, hRl]) rfl ?_
      exact ⟨⟨e, x, ra, rn, rc, zs, (some ⟨g, 0, none⟩), fn, fc, fs, ca, cn, cc, cs⟩, _, _, rfl, by omega, HY.out.fin hB HCode.out (grown5 _ _ _ _ _ _ _)⟩
    · have b1 : (v == 1) = false := by simpa using e1
      by_cases e2 : v = 2
      · subst e2
        clear e0 e1
        go_wp2_with fail
        refine (bentP_c _ B a len cap (kk + 1) ys KZ1.out.ds.src hl (by omega)).mono ?_
        rintro d w6 ⟨g2, n2, c2, kk6, zs2, rfl, hn2, hkk6, hLP⟩
        have KZ2 := hidQ (KZ1.out.draw hB hLP.ds.src hLP.ds.gr)
        have qB := box_of_heap KZ2.out.qb
        have u0 := qB.1 2 _ rfl
        have u1 := qB.2 2
        have u2 := (Array.getElem?_eq_some_iff.1 KZ2.out.qb).1
        have HR := holdS_rules (hLP.ow.read hLP.ln) hLP.gl
        have hrc := own8_cap hLP.ln hLP.ow
        have hgw := hLP.gw
        have HY := hidQ (KZ2.out.meet.put (c' := ⟨e, f, (some ⟨g2, 0, none⟩), n2, c2, zs2, (some ⟨g, 0, none⟩), fn, fc, fs, ca, cn, cc, cs⟩) hB HCode.out 2 (.slice (some ⟨g2, 0, none⟩) n2 c2) rfl ((HR.and KZ2.out.meet.ci).imp fun X hX => ⟨hX.1, hX.2.forms, hX.2.classes⟩) (fun b e => by rcases e with e | e; exact ⟨by have := KZ2.out.ne; omega, by omega⟩; exact KZ2.out.meet.av b e) hrc ⟨hn2, KZ2.out.le.2⟩)
        clear hLP HR hrc KZ1 KZ2 qB
        go_upto_region 15 with fail
        clear u0 u1 u2
        have qB := box_of_heap HY.out.qb
        have rB := box_of_heap HY.out.rb
        have q0 := qB.1 0 _ rfl
        have q1 := qB.1 1 _ rfl
        have q2 := qB.1 2 _ rfl
        have q3 := qB.1 3 _ rfl
        have q4 := qB.1 4 _ rfl
        have r0 := rB.1 0 _ rfl
        have r1 := rB.1 1 _ rfl
        have r2 := rB.1 2 _ rfl
        have r3 := rB.1 3 _ rfl
        have r4 := rB.1 4 _ rfl
        have m0 := rB.2 0
        have m1 := rB.2 1
        have m2 := rB.2 2
        have m3 := rB.2 3
        have m4 := rB.2 4
        have hRl := (Array.getElem?_eq_some_iff.1 HY.out.rb).1
        have hQl := (Array.getElem?_eq_some_iff.1 HY.out.qb).1
        have hRQ := HY.out.ne.2
        clear qB rB
        go_wp2_with fail
        refine bodyPost_ret (v := .agg #[.int .i64 e, .int .i64 f, .slice (some ⟨g2, 0, none⟩) n2 c2, .slice (some ⟨g, 0, none⟩) fn fc, .slice ca cn cc]) (by simp [results, Tryz.results17, go_sem, r0, r1, r2, r3, r4, hRl]) rfl ?_
        exact ⟨⟨e, f, (some ⟨g2, 0, none⟩), n2, c2, zs2, (some ⟨g, 0, none⟩), fn, fc, fs, ca, cn, cc, cs⟩, _, _, rfl, by omega, HY.out.fin hB HCode.out (grown5 _ _ _ _ _ _ _)⟩
      · have b2 : (v == 2) = false := by simpa using e2
        by_cases e3 : v = 3
        · subst e3
          clear e0 e1 e2
          obtain ⟨f0, fs, rfl⟩ : ∃ x l, fs = x :: l := by
            cases fs with
            | nil => have := KZ1.out.fo.1; simp at this; omega
            | cons x l => exact ⟨x, l, rfl⟩
          have qB := box_of_heap KZ1.out.qb
          have dd0 := qB.1 2 _ rfl
          have dd1 := qB.1 3 _ rfl
          have ddl := hQ5
          have hrn := KZ1.out.le.1
          simp only at hrn
          have hfn' : (0 : Int) < (fn : Int) := by omega
          have hfn0 : 0 < fn := by omega
          have hgQ := KZ1.out.fo.lt g rfl
          clear qB
          go_upto_region 10 with fail
          refine wp_region_held_drew (S := fun W' => W'.cell? ⟨Q, 2, none⟩ = some (.slice ra rn rc) ∧ W'.cell? ⟨Q, 3, none⟩ = some (.slice (some ⟨g, 0, none⟩) fn fc)) (by kernel_rfl) (⟨dd0, dd1⟩) (fun hHeld => ?_)
          refine wpAnyH_take (i := 0) (v := ?_) rfl (by kernel_rfl) (by kernel_rfl) (by kernel_rfl) (fun _ _ _ h => h) (Or.inl ⟨by kernel_rfl, ?_⟩) (by assumption) ?_
          rotate_left 1
          · intro w hSw; (try dsimp only at hSw); go_simp; try (with_reducible rfl)
          try simp only [Act.put, List.getElem_toArray, List.getElem_cons_succ, List.getElem_cons_zero, List.setIfInBounds_toArray, List.set_cons_zero, List.set_cons_succ]
          refine wpAnyH_take (i := 1) (v := ?_) rfl (by kernel_rfl) (by kernel_rfl) (by kernel_rfl) (fun _ _ _ h => h) (Or.inl ⟨by kernel_rfl, ?_⟩) (by assumption) ?_
          rotate_left 1
          · intro w hSw; (try dsimp only at hSw); go_simp; try (with_reducible rfl)
          try simp only [Act.put, List.getElem_toArray, List.getElem_cons_succ, List.getElem_cons_zero, List.setIfInBounds_toArray, List.set_cons_zero, List.set_cons_succ]
          refine wpAnyH_take (i := 2) (v := ?_) rfl (by kernel_rfl) (by kernel_rfl) (by kernel_rfl) (fun _ _ _ h => h) (Or.inl ⟨by kernel_rfl, ?_⟩) (by assumption) ?_
          rotate_left 1
          · intro w hSw; (try dsimp only at hSw); go_simp; try (with_reducible rfl)
          try simp only [Act.put, List.getElem_toArray, List.getElem_cons_succ, List.getElem_cons_zero, List.setIfInBounds_toArray, List.set_cons_zero, List.set_cons_succ]
          refine wpAnyH_take (i := 3) (v := ?_) rfl (by kernel_rfl) (by kernel_rfl) (by kernel_rfl) (fun _ _ _ h => h) (Or.inl ⟨by kernel_rfl, ?_⟩) (by assumption) ?_
          rotate_left 1
          · intro w hSw; (try dsimp only at hSw); go_simp; try (with_reducible rfl)
          try simp only [Act.put, List.getElem_toArray, List.getElem_cons_succ, List.getElem_cons_zero, List.setIfInBounds_toArray, List.set_cons_zero, List.set_cons_succ]
          refine wpAnyH_take (i := 4) (v := ?_) rfl (by kernel_rfl) (by kernel_rfl) (by kernel_rfl) (fun _ _ _ h => h) (Or.inl ⟨by kernel_rfl, ?_⟩) (by assumption) ?_
          rotate_left 1
          · intro w hSw; (try dsimp only at hSw); go_simp; try (with_reducible rfl)
          try simp only [Act.put, List.getElem_toArray, List.getElem_cons_succ, List.getElem_cons_zero, List.setIfInBounds_toArray, List.set_cons_zero, List.set_cons_succ]
          refine wpAnyH_ready (rs := [5]) (by kernel_rfl) (by simp) ?_
          refine AllReadyH.cons rfl (fun K hK => ?_) AllReadyH.nil
          go_simp
          refine (bentFormQ_c _ B a len cap (kk + 1) ys ra rn rc zs (KZ1.out.ds.src.below (Below.refl _ _).drew) hl (by omega) (by omega) (KZ1.out.re.now.1.below (Below.refl _ _).drew) (fun b off e => .inr (by have := KZ1.out.ra b off e; have := KZ1.out.ne; omega))).mono ?_
          rintro d w6 ⟨b, n, cp, kk6, ps, rfl, hn, hPI, hD6, hbw, hkk6⟩
          have DD := hidQ (ds_drew hD6)
          have KZ2 := hidQ (KZ1.out.draw hB DD.out.src DD.out.gr)
          have HPI := hidQ hPI
          have HBW : Hid (∀ b' off, b = some ⟨b', off, none⟩ → w5.heap.size ≤ b') := hbw
          have qc : w6.cell? ⟨g, 0, none⟩ = some (fval f0) := by have := KZ2.out.fo.cellAt 0 (by show 0 < fn * 1; omega); simpa using this
          have qf := KZ2.out.fo.frozenAt 0
          have ql := (KZ2.out.fo.lt g rfl).2
          have qB := box_of_heap KZ2.out.qb
          have s2 := qB.1 2 _ rfl
          have s3 := qB.1 3 _ rfl
          have HGQ := hidQ KZ2.out.ne.2.2
          clear hD6 hPI hbw qB
          have hS : w6.cell? ⟨Q, 2, none⟩ = some (.slice ra rn rc) ∧ w6.cell? ⟨Q, 3, none⟩ = some (.slice (some ⟨g, 0, none⟩) fn fc) := ⟨s2, s3⟩
          refine hK.out _ _ hS (fun hHeld => ?_)
          clear hK K
          try simp only [Act.put, List.getElem_toArray, List.getElem_cons_succ, List.getElem_cons_zero, List.setIfInBounds_toArray, List.set_cons_zero, List.set_cons_succ]
          refine wpAnyH_take (i := 6) (v := ?_) rfl (by kernel_rfl) (by kernel_rfl) (by kernel_rfl) (fun _ _ _ h => h) (Or.inl ⟨by kernel_rfl, ?_⟩) (by assumption) ?_
          rotate_left 1
          · intro w hSw; (try dsimp only at hSw); go_simp; try (with_reducible rfl)
          try simp only [Act.put, List.getElem_toArray, List.getElem_cons_succ, List.getElem_cons_zero, List.setIfInBounds_toArray, List.set_cons_zero, List.set_cons_succ]
          refine wpAnyH_take (i := 7) (v := ?_) rfl (by kernel_rfl) (by kernel_rfl) (by kernel_rfl) (fun _ _ _ h => h) (Or.inl ⟨by kernel_rfl, ?_⟩) (by assumption) ?_
          rotate_left 1
          · intro w hSw; (try dsimp only at hSw); go_simp; try (with_reducible rfl)
          try simp only [Act.put, List.getElem_toArray, List.getElem_cons_succ, List.getElem_cons_zero, List.setIfInBounds_toArray, List.set_cons_zero, List.set_cons_succ]
          refine wpAnyH_ready (rs := [8]) (by kernel_rfl) (by simp) ?_
          refine AllReadyH.cons rfl (fun K hK => ?_) AllReadyH.nil
          go_simp
          have hS : (w6.setCell ⟨g, 0, none⟩ (.slice b n cp)).cell? ⟨Q, 2, none⟩ = some (.slice ra rn rc) ∧ (w6.setCell ⟨g, 0, none⟩ (.slice b n cp)).cell? ⟨Q, 3, none⟩ = some (.slice (some ⟨g, 0, none⟩) fn fc) := ⟨(grown_set w6 g 0 _).cell s2 (fun q => by cases q; exact HGQ.out rfl), (grown_set w6 g 0 _).cell s3 (fun q => by cases q; exact HGQ.out rfl)⟩
          refine hK.out _ _ hS (fun hHeld => ?_)
          clear hK K
          try simp only [Act.put, List.getElem_toArray, List.getElem_cons_succ, List.getElem_cons_zero, List.setIfInBounds_toArray, List.set_cons_zero, List.set_cons_succ]
          refine wpAnyH_done (by kernel_rfl) ?_ _
          have HY := hidQ (KZ2.out.form (cp := cp) hB HCode.out hn.1 HPI.out (fun b' off e => by have := HBW.out b' off e; omega))
          clear hHeld qc qf ql s2 s3 HGQ KZ1 KZ2 HPI HBW DD dd0 dd1 ddl
          go_upto_region 15 with fail
          have qB := box_of_heap HY.out.qb
          have rB := box_of_heap HY.out.rb
          have q0 := qB.1 0 _ rfl
          have q1 := qB.1 1 _ rfl
          have q2 := qB.1 2 _ rfl
          have q3 := qB.1 3 _ rfl
          have q4 := qB.1 4 _ rfl
          have r0 := rB.1 0 _ rfl
          have r1 := rB.1 1 _ rfl
          have r2 := rB.1 2 _ rfl
          have r3 := rB.1 3 _ rfl
          have r4 := rB.1 4 _ rfl
          have m0 := rB.2 0
          have m1 := rB.2 1
          have m2 := rB.2 2
          have m3 := rB.2 3
          have m4 := rB.2 4
          have hRl := (Array.getElem?_eq_some_iff.1 HY.out.rb).1
          have hQl := (Array.getElem?_eq_some_iff.1 HY.out.qb).1
          have hRQ := HY.out.ne.2
          clear qB rB
          go_wp2_with fail
          refine bodyPost_ret (v := .agg #[.int .i64 e, .int .i64 f, .slice ra rn rc, .slice (some ⟨g, 0, none⟩) fn fc, .slice ca cn cc]) (by simp [results, Tryz.results17, go_sem, r0, r1, r2, r3, r4, hRl]) rfl ?_
          exact ⟨⟨e, f, ra, rn, rc, zs, (some ⟨g, 0, none⟩), fn, fc, (⟨b, n, cp, ps⟩ :: fs), ca, cn, cc, cs⟩, _, _, rfl, by omega, HY.out.fin hB HCode.out (grown5 _ _ _ _ _ _ _)⟩
        · have b3 : (v == 3) = false := by simpa using e3
          by_cases e4 : v = 4
          · subst e4
            clear e0 e1 e2 e3
            go_wp2_with fail
            refine (drawClasses_c _ B a len cap (kk + 1) ys KZ1.out.ds.src hl (by omega)).mono ?_
            rintro d w6 ⟨g2, n2, c2, kk6, zs2, rfl, hn2, hkk6, hLI⟩
            have KZ2 := hidQ (KZ1.out.draw hB hLI.ds.src hLI.ds.gr)
            have qB := box_of_heap KZ2.out.qb
            have u0 := qB.1 4 _ rfl
            have u1 := qB.2 4
            have u2 := (Array.getElem?_eq_some_iff.1 KZ2.out.qb).1
            have HI := holdS_ints (owns_ints (by have := hLI.ow.1; simpa using this) hLI.ow) hLI.gl
            have hgw := hLI.gw
            have HY := hidQ (KZ2.out.meet.put (c' := ⟨e, f, ra, rn, rc, zs, (some ⟨g, 0, none⟩), fn, fc, fs, (some ⟨g2, 0, none⟩), n2, c2, zs2⟩) hB HCode.out 4 (.slice (some ⟨g2, 0, none⟩) n2 c2) rfl ((HI.and KZ2.out.meet.ci).imp fun X hX => ⟨hX.2.rules, hX.2.forms, hX.1⟩) (fun b e => by rcases e with e | e; exact ⟨by have := KZ2.out.ne; omega, by omega⟩; exact KZ2.out.meet.av b e) KZ2.out.rc ⟨KZ2.out.le.1, KZ2.out.le.2.1, hn2, KZ2.out.le.2.2.2⟩)
            clear hLI HI KZ1 KZ2 qB
            go_upto_region 15 with fail
            clear u0 u1 u2
            have qB := box_of_heap HY.out.qb
            have rB := box_of_heap HY.out.rb
            have q0 := qB.1 0 _ rfl
            have q1 := qB.1 1 _ rfl
            have q2 := qB.1 2 _ rfl
            have q3 := qB.1 3 _ rfl
            have q4 := qB.1 4 _ rfl
            have r0 := rB.1 0 _ rfl
            have r1 := rB.1 1 _ rfl
            have r2 := rB.1 2 _ rfl
            have r3 := rB.1 3 _ rfl
            have r4 := rB.1 4 _ rfl
            have m0 := rB.2 0
            have m1 := rB.2 1
            have m2 := rB.2 2
            have m3 := rB.2 3
            have m4 := rB.2 4
            have hRl := (Array.getElem?_eq_some_iff.1 HY.out.rb).1
            have hQl := (Array.getElem?_eq_some_iff.1 HY.out.qb).1
            have hRQ := HY.out.ne.2
            clear qB rB
            go_wp2_with fail
            refine bodyPost_ret (v := .agg #[.int .i64 e, .int .i64 f, .slice ra rn rc, .slice (some ⟨g, 0, none⟩) fn fc, .slice (some ⟨g2, 0, none⟩) n2 c2]) (by simp [results, Tryz.results17, go_sem, r0, r1, r2, r3, r4, hRl]) rfl ?_
            exact ⟨⟨e, f, ra, rn, rc, zs, (some ⟨g, 0, none⟩), fn, fc, fs, (some ⟨g2, 0, none⟩), n2, c2, zs2⟩, _, _, rfl, by omega, HY.out.fin hB HCode.out (grown5 _ _ _ _ _ _ _)⟩
          · have b4 : (v == 4) = false := by simpa using e4
            by_cases e5 : v = 5
            · subst e5
              clear e0 e1 e2 e3 e4
              obtain ⟨wm, hmk, hownm, hgrm⟩ := run_make_full (P := Tryz.prog) (w := w5) w5.heap.size 25 42 i0 (.agg #[.slice none 0 0]) 1 hfun hi hz0 hz1 .i64 .i64 5 (by rw [hz2]; omega) (by unfold maxLen; omega) (Nat.le_refl _)
              have hmk' : (Instr.makeSlice 25 (.int .i64 5) (.int .i64 5)).run Tryz.prog w5 = .ok (.slice (some ⟨w5.heap.size, 0, none⟩) 5 5) wm := hmk
              have KM := hidQ (KZ1.out.meet.grow hB HCode.out hgrm)
              have qB := box_of_heap KM.out.qb
              have u0 := qB.1 3 _ rfl
              have u1 := qB.2 3
              have u2 := (Array.getElem?_eq_some_iff.1 KM.out.qb).1
              rw [made5F] at hownm
              have HFm := holdS_forms (A := fun _ => False) hownm (holdS_five wm)
              have HY := hidQ (KM.out.put (c' := ⟨e, f, ra, rn, rc, zs, (some ⟨w5.heap.size, 0, none⟩), 5, 5, (List.replicate 5 ⟨none, 0, 0, []⟩), ca, cn, cc, cs⟩) hB HCode.out 3 (.slice (some ⟨w5.heap.size, 0, none⟩) 5 5) rfl ((HFm.and KM.out.ci).imp fun X hX => ⟨hX.2.rules, hX.1, hX.2.classes⟩) (fun b e => by rcases e with (e | e) | e; exact e.elim; exact ⟨by have := KM.out.ne; omega, by omega⟩; exact KM.out.av b e) KZ1.out.rc ⟨KZ1.out.le.1, by simp, KZ1.out.le.2.2.1, five_le⟩)
              clear hmk hownm hgrm HFm KM KZ1 qB
              go_upto_region 15 with fail
              clear u0 u1 u2 hmk'
              have qB := box_of_heap HY.out.qb
              have rB := box_of_heap HY.out.rb
              have q0 := qB.1 0 _ rfl
              have q1 := qB.1 1 _ rfl
              have q2 := qB.1 2 _ rfl
              have q3 := qB.1 3 _ rfl
              have q4 := qB.1 4 _ rfl
              have r0 := rB.1 0 _ rfl
              have r1 := rB.1 1 _ rfl
              have r2 := rB.1 2 _ rfl
              have r3 := rB.1 3 _ rfl
              have r4 := rB.1 4 _ rfl
              have m0 := rB.2 0
              have m1 := rB.2 1
              have m2 := rB.2 2
              have m3 := rB.2 3
              have m4 := rB.2 4
              have hRl := (Array.getElem?_eq_some_iff.1 HY.out.rb).1
              have hQl := (Array.getElem?_eq_some_iff.1 HY.out.qb).1
              have hRQ := HY.out.ne.2
              clear qB rB
              go_wp2_with fail
              refine bodyPost_ret (v := .agg #[.int .i64 e, .int .i64 f, .slice ra rn rc, .slice (some ⟨w5.heap.size, 0, none⟩) 5 5, .slice ca cn cc]) (by simp [results, Tryz.results17, go_sem, r0, r1, r2, r3, r4, hRl]) rfl ?_
              exact ⟨⟨e, f, ra, rn, rc, zs, (some ⟨w5.heap.size, 0, none⟩), 5, 5, (List.replicate 5 ⟨none, 0, 0, []⟩), ca, cn, cc, cs⟩, _, _, rfl, by omega, HY.out.fin hB HCode.out (grown5 _ _ _ _ _ _ _)⟩
            · have b5 : (v == 5) = false := by simpa using e5
              clear e0 e1 e2 e3 e4 e5
              have HY := hidQ KZ1.out.meet
              clear KZ1
              go_upto_region 15 with fail
              have qB := box_of_heap HY.out.qb
              have rB := box_of_heap HY.out.rb
              have q0 := qB.1 0 _ rfl
              have q1 := qB.1 1 _ rfl
              have q2 := qB.1 2 _ rfl
              have q3 := qB.1 3 _ rfl
              have q4 := qB.1 4 _ rfl
              have r0 := rB.1 0 _ rfl
              have r1 := rB.1 1 _ rfl
              have r2 := rB.1 2 _ rfl
              have r3 := rB.1 3 _ rfl
              have r4 := rB.1 4 _ rfl
              have m0 := rB.2 0
              have m1 := rB.2 1
              have m2 := rB.2 2
              have m3 := rB.2 3
              have m4 := rB.2 4
              have hRl := (Array.getElem?_eq_some_iff.1 HY.out.rb).1
              have hQl := (Array.getElem?_eq_some_iff.1 HY.out.qb).1
              have hRQ := HY.out.ne.2
              clear qB rB
              go_wp2_with fail
              refine bodyPost_ret (v := .agg #[.int .i64 e, .int .i64 f, .slice ra rn rc, .slice (some ⟨g, 0, none⟩) fn fc, .slice ca cn cc]) (by simp [results, Tryz.results17, go_sem, r0, r1, r2, r3, r4, hRl]) rfl ?_
              exact ⟨⟨e, f, ra, rn, rc, zs, (some ⟨g, 0, none⟩), fn, fc, fs, ca, cn, cc, cs⟩, _, _, rfl, by omega, HY.out.fin hB HCode.out (grown5 _ _ _ _ _ _ _)⟩

end Go.Proofs.YtaeigimgobilaaaGreatDoor

namespace Go.Proofs.YtaeigimgobilaaaGreatDoor
open Go.RowKit
set_option linter.unusedVariables false
set_option linter.unusedSimpArgs false

end Go.Proofs.YtaeigimgobilaaaGreatDoor

namespace Go.Proofs.YtaeigimgobilaaaGreatDoor
open Go.RowKit
set_option linter.unusedVariables false
set_option linter.unusedSimpArgs false

end Go.Proofs.YtaeigimgobilaaaGreatDoor

namespace Go.Proofs.YtaeigimgobilaaaGreatDoor
open Go.RowKit
set_option linter.unusedVariables false
set_option linter.unusedSimpArgs false

theorem owns_lower1 {w : World} {B B' : Nat} {v : Value} {n : Nat} {xs : List Value} (h : w.ownsRow B 2 1 v n xs) (hb : B' ≤ B) : w.ownsRow B' 2 1 v n xs := by
  refine ⟨h.1, ?_⟩
  rcases h.2 with h' | ⟨g, cap, cur, e, hg, rest⟩
  · exact .inl h'
  · exact .inr ⟨g, cap, cur, e, Nat.le_trans hb hg, rest⟩

theorem owns_box1 {w : World} {B b0 : Nat} {v x y : Value} {n : Nat} {xs : List Value} (h : w.ownsRow B 2 1 v n xs) (hB : b0 < B) : ((w.setCell ⟨b0, 0, none⟩ x).setCell ⟨b0, 1, none⟩ y).ownsRow b0 2 1 v n xs := by
  have h6 := owns_lower1 h (show b0 + 1 ≤ B by omega)
  have h7 := ownsRow_setCell_below (ownsRow_setCell_below h6 (a := ⟨b0, 0, none⟩) (by simp) x) (a := ⟨b0, 1, none⟩) (by simp) y
  exact owns_lower1 h7 (by omega)

end Go.Proofs.YtaeigimgobilaaaGreatDoor

namespace Go.Proofs.YtaeigimgobilaaaGreatDoor
open Go.RowKit
set_option linter.unusedVariables false
set_option linter.unusedSimpArgs false

def GivesN (f : Nat) (a : Option Addr) (n cap : Nat) (a' : Option Addr) (m cap' : Nat) (c : Int) (ls : List Int) (w : World) : Prop := Calls Tryz.prog f #[.slice a n cap, .slice a' m cap'] w fun e w' => ∃ (a1 : Option Addr) (cap1 : Nat), e = .returned (.agg #[.int .i64 c, .slice a1 ls.length cap1]) ∧ w'.ownsRow w.heap.size 2 1 (.slice a1 ls.length cap1) ls.length (ls.map (Value.int .i64)) ∧ Below w.heap.size w w'

theorem sets_hit {T : TS} {k : Nat} (h : T k = true) : setsTo T (k + 1) = setsTo T k ++ [(k : Int)] := by rw [setsTo_next, if_pos h]
theorem sets_miss {T : TS} {k : Nat} (h : T k = false) : setsTo T (k + 1) = setsTo T k := by rw [setsTo_next, if_neg (by simp [h])]

set_option maxRecDepth 100000 in
set_option maxHeartbeats 2000000 in
theorem specSets_bad (a : Option Addr) (n cap : Nat) (zs : List RuleI) (a' : Option Addr) (m cap' : Nat) (ps : List PartI) (c : Int) (w : World) (hn : n ≤ 1048576) (hm : m ≤ 1048576) (h : RulesIn w a n zs) (h' : PartsIn w a' m ps) (hc : manyCode zs ps = c) (h0 : c ≠ 0) :
    GivesN 21 a n cap a' m cap' c [] w := by
  have HM : Hid (∀ w2 : World, Below w.heap.size w w2 → Calls Tryz.prog 45 #[.slice a n cap, .slice a' m cap'] w2 fun e w' => e = .returned (.int .i64 c) ∧ Below w2.heap.size w2 w') := fun w2 q => by rw [← hc]; exact specAsked_c a n cap zs a' m cap' ps w2 hn hm (h.below q) (h'.below q)
  have hcb : (c != 0) = true := by simpa using h0
  clear h h' hc h0
  unfold GivesN
  go_enter Tryz.func21, Tryz.ntmps21
  go_wp2_with fail
  refine (HM.out _ ((Below.refl _ _).alloc (Nat.le_refl _) _)).mono ?_
  rintro e w1 ⟨rfl, hb1⟩
  have d0 : w1.cell? ⟨w.heap.size, 0, none⟩ = some (.int .i64 0) := (hb1.cell (p := ⟨w.heap.size, 0, none⟩) (by simp)).trans (by simp)
  have d1 : w1.cell? ⟨w.heap.size, 1, none⟩ = some (.slice none 0 0) := (hb1.cell (p := ⟨w.heap.size, 1, none⟩) (by simp)).trans (by simp)
  have g0 : w1.frozen? ⟨w.heap.size, 0, none⟩ = false := (hb1.frozen (p := ⟨w.heap.size, 0, none⟩) (by simp)).trans (by simp [go_sem])
  have g1 : w1.frozen? ⟨w.heap.size, 1, none⟩ = false := (hb1.frozen (p := ⟨w.heap.size, 1, none⟩) (by simp)).trans (by simp [go_sem])
  have hw : w.heap.size < w1.heap.size := by have := hb1.size; simp at this; omega
  have hbx : Below w.heap.size w w1 := below_new hb1
  clear hb1
  go_wp2
  refine bodyPost_ret (v := .agg #[.int .i64 c, .slice none 0 0]) (by simp [results, Tryz.results21, go_sem, d0, d1, hw]) rfl ⟨none, 0, rfl, World.ownsRow_nil _ _ _ _, ?_⟩
  exact (hbx.setCell (Nat.le_refl _) _).setCell (Nat.le_refl _) _

/-- The list that grows in a box, and the rest as it was. -/
structure OB (W : World) (O : Nat) (ls : List Int) (v : Value) (wr : World) : Prop where
  c0 : wr.cell? ⟨O, 0, none⟩ = some (.int .i64 0)
  c1 : wr.cell? ⟨O, 1, none⟩ = some v
  f0 : wr.frozen? ⟨O, 0, none⟩ = false
  f1 : wr.frozen? ⟨O, 1, none⟩ = false
  ow : wr.ownsRow W.heap.size 2 1 v ls.length (ls.map (Value.int .i64))
  gr : W.grownBy wr (some O)

set_option maxRecDepth 100000 in
set_option maxHeartbeats 4000000 in
theorem specSets_ok (a : Option Addr) (n cap : Nat) (zs : List RuleI) (a' : Option Addr) (m cap' : Nat) (ps : List PartI) (gs : List GrI) (w : World) (hn : n ≤ 1048576) (hm : m ≤ 1048576) (h : RulesIn w a n zs) (h' : PartsIn w a' m ps) (hc : manyCode zs ps = 0) (hg : AllG zs gs) :
    GivesN 21 a n cap a' m cap' 0 (setsL (tellsL (ofG gs) ps)) w := by
  have HM : Hid (∀ w2 : World, Below w.heap.size w w2 → Calls Tryz.prog 45 #[.slice a n cap, .slice a' m cap'] w2 fun e w' => e = .returned (.int .i64 0) ∧ Below w2.heap.size w2 w') := fun w2 q => by rw [← hc]; exact specAsked_c a n cap zs a' m cap' ps w2 hn hm (h.below q) (h'.below q)
  obtain ⟨T, hT⟩ : ∃ T, T = tellsL (ofG gs) ps := ⟨_, rfl⟩
  have HT : Hid (∀ w2 : World, Below w.heap.size w w2 → Calls Tryz.prog 46 #[.slice a n cap, .slice a' m cap'] w2 fun e w' => ∃ g, e = .returned (.slice (some ⟨g, 0, none⟩) 256 256) ∧ RowF w' g T ∧ Below w2.heap.size w2 w') := fun w2 q => by rw [hT]; exact l4Sets_c a n cap zs a' m cap' ps gs w2 (h.below q) (many_zero hc).1 hg (h'.below q) (many_zero hc).2
  rw [← hT]
  obtain ⟨ls, hls⟩ : ∃ ls, ls = setsL T := ⟨_, rfl⟩
  rw [← hls]
  have HL : Hid (setsTo T 256 = ls) := hls.symm
  obtain ⟨i0, hi, hz0, hz1, hz2⟩ := info_parts Tryz.info2
  clear h h' hc hg hT hls
  unfold GivesN
  go_enter Tryz.func21, Tryz.ntmps21
  go_wp2_with fail
  refine (HM.out _ ((Below.refl _ _).alloc (Nat.le_refl _) _)).mono ?_
  rintro e w1 ⟨rfl, hb1⟩
  have hw1 : w.heap.size < w1.heap.size := by have := hb1.size; simp at this; omega
  have hbx : Below w.heap.size w w1 := below_new hb1
  have HR1 : Hid ((w1.cell? ⟨w.heap.size, 0, none⟩ = some (.int .i64 0) ∧ w1.cell? ⟨w.heap.size, 1, none⟩ = some (.slice none 0 0)) ∧ w1.frozen? ⟨w.heap.size, 0, none⟩ = false ∧ w1.frozen? ⟨w.heap.size, 1, none⟩ = false) :=
    ⟨⟨(hb1.cell (p := ⟨w.heap.size, 0, none⟩) (by simp)).trans (by simp), (hb1.cell (p := ⟨w.heap.size, 1, none⟩) (by simp)).trans (by simp)⟩, (hb1.frozen (p := ⟨w.heap.size, 0, none⟩) (by simp)).trans (by simp [go_sem]), (hb1.frozen (p := ⟨w.heap.size, 1, none⟩) (by simp)).trans (by simp [go_sem])⟩
  clear hb1
  have hbo : Below w.heap.size w (w1.alloc (.cells #[.int .i64 0, .slice none 0 0] 52)) := hbx.alloc hbx.size _
  go_wp2_with fail
  refine (HT.out _ hbo).mono ?_
  rintro e W ⟨g, rfl, hrow, hb2⟩
  obtain ⟨O, hO⟩ : ∃ O, O = w1.heap.size := ⟨_, rfl⟩
  have A2 : Below w1.heap.size w1 (w1.alloc (.cells #[.int .i64 0, .slice none 0 0] 52)) := (Below.refl _ _).alloc (Nat.le_refl _) _
  have hb12 : Below w1.heap.size w1 W := A2.trans (hb2.mono (by simp))
  have hOW : O < W.heap.size := by have := hb2.size; simp at this; omega
  have hwO : w.heap.size < O := by omega
  have HRW : Hid (((W.cell? ⟨w.heap.size, 0, none⟩ = some (.int .i64 0) ∧ W.cell? ⟨w.heap.size, 1, none⟩ = some (.slice none 0 0)) ∧ W.frozen? ⟨w.heap.size, 0, none⟩ = false ∧ W.frozen? ⟨w.heap.size, 1, none⟩ = false) ∧ Below w.heap.size w W) :=
    ⟨⟨⟨(hb12.cell (p := ⟨w.heap.size, 0, none⟩) hw1).trans HR1.out.1.1, (hb12.cell (p := ⟨w.heap.size, 1, none⟩) hw1).trans HR1.out.1.2⟩, (hb12.frozen (p := ⟨w.heap.size, 0, none⟩) hw1).trans HR1.out.2.1, (hb12.frozen (p := ⟨w.heap.size, 1, none⟩) hw1).trans HR1.out.2.2⟩, hbx.trans (hb12.mono hbx.size)⟩
  have HOB : Hid (OB W O [] (.slice none 0 0) W) := by
    rw [hO]
    exact ⟨(hb2.cell (p := ⟨w1.heap.size, 0, none⟩) (by simp)).trans (by simp), (hb2.cell (p := ⟨w1.heap.size, 1, none⟩) (by simp)).trans (by simp), (hb2.frozen (p := ⟨w1.heap.size, 0, none⟩) (by simp)).trans (by simp [go_sem]), (hb2.frozen (p := ⟨w1.heap.size, 1, none⟩) (by simp)).trans (by simp [go_sem]), World.ownsRow_nil _ _ _ _, World.grownBy.refl _ _⟩
  have HRF : Hid (RowF W g T) := hrow
  have hgO : g ≠ O := by
    intro e
    have h1 := hrow 0 (by omega)
    have h2 := HOB.out.c0
    rw [e, h2] at h1
    cases h1
  rw [← hO]
  clear hrow hb2 A2 hb12 hbo hbx HR1 hw1 hO
  go_wp2_with fail
  go_loopw [8] (fun i wr => ∃ (k : Nat) (v : Value), k ≤ 256 ∧ i = .int .i64 (k : Int) ∧ Hid (OB W O (setsTo T k) v wr)) (fun i _ => 256 - (intOf i).toNat)
  case atStart => exact ⟨0, _, by omega, rfl, HOB⟩
  case round =>
    obtain ⟨k, v, hk, rfl, HK⟩ := hrel
    have hkl := setsTo_len T k
    by_cases hlt : k < 256
    · have hlt' : (k : Int) < 256 := by omega
      have cx : wr.cell? ⟨g, k, none⟩ = some (.bool (T k)) := (HRF.out.kept HK.out.gr (by simp [hgO])) k hlt
      obtain ⟨t, ht⟩ : ∃ t, T k = t := ⟨_, rfl⟩
      have HTk : Hid (T k = t) := ht
      rw [ht] at cx
      clear ht
      cases t
      · have HN : Hid (OB W O (setsTo T (k + 1)) v wr) := by rw [sets_miss HTk.out]; exact HK.out
        go_wp2_with fail
        exact ⟨⟨k + 1, v, by omega, by go_num, HN⟩, by simp [intOf]; omega⟩
      · have y1 := HK.out.c1
        go_wp2_with (first
          | (at_builtin; refine wpList_append_own _ rfl _ _ 26 rfl W.heap.size 2 i0 (.int .i64 0) 1 8 Tryz.underlying26 hi hz0 hz1 hz2 rfl (by decide) _ _ _ rfl (HK.out.ow.alloc _) ⟨wr.heap.size, 0, none⟩ 1 1 [.int .i64 (k : Int)] rfl rfl ?c1 ?c2 ?c3 ?c4 ?c5 ?_)
          | fail)
        case c1 =>
          intro j u hj
          match j, hj with
          | 0, hj => simp at hj; subst hj; simp [Addr.add]
        case c2 => intro u hu; simp at hu; subst hu; rfl
        case c3 => unfold maxLen; omega
        case c4 => omega
        case c5 => have := HK.out.gr.size; simp; omega
        intro v' w9 hown' hgrow hnil
        have A1 : Below wr.heap.size wr (wr.alloc (.cells #[.int .i64 (k : Int)] 2)) := (Below.refl _ _).alloc (Nat.le_refl _) _
        have hOr : O < wr.heap.size := Nat.lt_of_lt_of_le hOW HK.out.gr.size
        have hne : some O ≠ v.ownBlock := fun e => by have := (HK.out.ow.lt O e.symm).1; omega
        have z0 : w9.cell? ⟨O, 0, none⟩ = some (.int .i64 0) := hgrow.cell ((A1.cell (p := ⟨O, 0, none⟩) hOr).trans HK.out.c0) hne
        have z1 : w9.cell? ⟨O, 1, none⟩ = some v := hgrow.cell ((A1.cell (p := ⟨O, 1, none⟩) hOr).trans HK.out.c1) hne
        have hblk : w9.heap[O]? = wr.heap[O]? := (hgrow.block O (by simp; omega) hne).trans (A1.block O hOr)
        have y0f : w9.frozen? ⟨O, 0, none⟩ = false := by have := HK.out.f0; unfold World.frozen? at this ⊢; simp only at this ⊢; rw [hblk]; exact this
        have y1f : w9.frozen? ⟨O, 1, none⟩ = false := by have := HK.out.f1; unfold World.frozen? at this ⊢; simp only at this ⊢; rw [hblk]; exact this
        have HN : Hid (OB W O (setsTo T (k + 1)) v' (w9.setCell ⟨O, 1, none⟩ v')) := by
          rw [sets_hit HTk.out]
          have g9 : W.grownBy w9 (some O) := by
            refine ⟨hgrow.os.trans HK.out.gr.os, hgrow.tape.trans HK.out.gr.tape, hgrow.output.trans HK.out.gr.output, Nat.le_trans HK.out.gr.size (Nat.le_trans (by simp) hgrow.size), fun q hq hqO => ?_⟩
            have hq2 : q < wr.heap.size := Nat.lt_of_lt_of_le hq HK.out.gr.size
            refine ((hgrow.block q (by simp; omega) (fun e => ?_)).trans (A1.block q hq2)).trans (HK.out.gr.block q hq hqO)
            have := (HK.out.ow.lt q e.symm).1
            omega
          refine ⟨?_, ?_, by rw [World.frozen?_setCell]; exact y0f, by rw [World.frozen?_setCell]; exact y1f, ?_, ?_⟩
          · simp [go_sem, z0]
          · simp [go_sem, z1]
          · exact ownsRow_setCell_below (a := ⟨O, 1, none⟩) (by simpa using hown') hOW v'
          · exact ⟨g9.os, g9.tape, g9.output, by rw [World.size_setCell]; exact g9.size, fun q hq hqO => (Below.heap_setCell _ _ _ _ (by intro e; exact hqO (by rw [e]))).trans (g9.block q hq hqO)⟩
        obtain ⟨va', vc', hv'⟩ := owns_slice hown'
        clear hnil hown' hgrow A1 hne hblk
        subst hv'
        go_wp2_with fail
        exact ⟨⟨k + 1, _, by omega, by go_num, HN⟩, by simp [intOf]; omega⟩
    · have hke : k = 256 := by omega
      subst hke
      obtain ⟨⟨⟨e0, e1⟩, f0, f1⟩, hbW⟩ := HRW.out
      have hgr := HK.out.gr
      have hwW : w.heap.size < W.heap.size := by omega
      have hne : some w.heap.size ≠ some O := by simp; omega
      have d0 : wr.cell? ⟨w.heap.size, 0, none⟩ = some (.int .i64 0) := hgr.cell e0 hne
      have d1 : wr.cell? ⟨w.heap.size, 1, none⟩ = some (.slice none 0 0) := hgr.cell e1 hne
      have hblk := hgr.block w.heap.size hwW hne
      have g0 : wr.frozen? ⟨w.heap.size, 0, none⟩ = false := by unfold World.frozen? at f0 ⊢; simp only at f0 ⊢; rw [hblk]; exact f0
      have g1 : wr.frozen? ⟨w.heap.size, 1, none⟩ = false := by unfold World.frozen? at f1 ⊢; simp only at f1 ⊢; rw [hblk]; exact f1
      have hw : w.heap.size < wr.heap.size := Nat.lt_of_lt_of_le hwW hgr.size
      have HB : Hid (Below w.heap.size w wr) := hbW.grown hgr hbW.size (fun q e => by cases e; omega)
      obtain ⟨va, vc, hve⟩ := owns_slice HK.out.ow
      rw [HL.out] at hve
      have HO : Hid (wr.ownsRow W.heap.size 2 1 (.slice va ls.length vc) ls.length (ls.map (Value.int .i64))) := by have := HK.out.ow; rw [HL.out, hve] at this; exact this
      have y0 := HK.out.c0
      have y1 := HK.out.c1
      subst hve
      clear HK hgr e0 e1 f0 f1 hbW HRW hkl hblk hne
      go_wp2
      refine bodyPost_ret (v := .agg #[.int .i64 0, .slice va ls.length vc]) (by simp [results, Tryz.results21, go_sem, d0, d1, hw]) rfl ⟨va, vc, rfl, owns_box1 HO.out hwW, ?_⟩
      exact (HB.out.setCell (Nat.le_refl _) _).setCell (Nat.le_refl _) _

end Go.Proofs.YtaeigimgobilaaaGreatDoor
