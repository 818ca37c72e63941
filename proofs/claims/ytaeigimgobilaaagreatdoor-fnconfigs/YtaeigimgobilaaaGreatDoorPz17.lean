/-
  CONTRACTS: spec.DrawAllowsIn: a configuration, a form's number and a set are drawn.
  Conditions: each contract bears its own.
-/
import Derived.Test.YtaeigimgobilaaaGreatDoorPz16
import Derived.Test.YtaeigimgobilaaaGreatDoorPz04
import Derived.Test.YtaeigimgobilaaaGreatDoorPz05

namespace Go.Proofs.YtaeigimgobilaaaGreatDoor
open Go.RowKit
set_option linter.unusedVariables false
set_option linter.unusedSimpArgs false

theorem kpA4 {W w' : World} (hb : Below W.heap.size W w') : (∀ b o, b < W.heap.size → w'.cell? ⟨b, o, none⟩ = W.cell? ⟨b, o, none⟩) ∧ Below W.heap.size W w' := ⟨fun b o h => hb.cell (p := ⟨b, o, none⟩) h, hb⟩

theorem wrapA {z : Int} (h0 : 0 ≤ z) (h1 : z ≤ 1000000) : IntKind.i64.wrap z = z := by
  rw [IntKind.wrap_i64]
  omega

theorem gr_drew {w wr : World} {row : Option Nat} (h : w.drew.grownBy wr row) : w.grownBy wr row := ⟨h.os, h.tape, h.output, h.size, h.block⟩

theorem set2c {W : World} {q : Nat} {x0 x1 : Value} {t : TypeId} (h : W.heap[q]? = some (.cells #[x0, x1] t (0, 0))) (y0 y1 : Value) : ((W.setCell ⟨q, 0, none⟩ y0).setCell ⟨q, 1, none⟩ y1).heap[q]? = some (.cells #[y0, y1] t (0, 0)) := by
  have h1 := heap_setCell_same W q 0 _ _ y0 h
  exact heap_setCell_same _ q 1 _ _ y1 h1

theorem blk_cellA {W : World} {q : Nat} {C : Array Value} {t : TypeId} {fr : Nat × Nat} (h : W.heap[q]? = some (.cells C t fr)) (j : Nat) : W.cell? ⟨q, j, none⟩ = C[j]? := by
  unfold World.cell?
  simp only
  rw [h]
  simp

theorem blk_frozenA {W : World} {q : Nat} {C : Array Value} {t : TypeId} (h : W.heap[q]? = some (.cells C t (0, 0))) (j : Nat) : W.frozen? ⟨q, j, none⟩ = false := by
  unfold World.frozen?
  simp only
  rw [h]
  simp

/-- The numbers of a row of one's own, read cell by cell. -/
def RowAt (W : World) (a : Option Addr) (ls : List Int) : Prop := ∀ j x, ls[j]? = some x → ∃ b, a = some ⟨b, 0, none⟩ ∧ W.cell? ⟨b, j, none⟩ = some (.int .i64 x)

theorem owns_intsA {W : World} {L : Nat} {a : Option Addr} {cap : Nat} {ls : List Int} (h : W.ownsRow L 2 1 (.slice a ls.length cap) ls.length (ls.map (Value.int .i64))) : RowAt W a ls := fun j x hx => by
  have hj := (List.getElem?_eq_some_iff.1 hx).1
  rcases h.2 with ⟨e, e0⟩ | ⟨g, c, cur, e, _⟩
  · omega
  · simp at e
    obtain ⟨rfl, rfl⟩ := e
    refine ⟨g, rfl, ?_⟩
    rw [h.cellAt j (by omega), List.getElem?_map, hx]
    rfl

theorem owns_lowA {W V w : World} {a : Option Addr} {cap : Nat} {ls : List Int} (h : W.ownsRow w.heap.size 2 1 (.slice a ls.length cap) ls.length (ls.map (Value.int .i64))) (hV : V.heap.size ≤ w.heap.size) : ∀ b, a = some ⟨b, 0, none⟩ → 0 < ls.length → w.heap.size ≤ b := fun b e h0 => by
  rcases h.2 with ⟨e1, e0⟩ | ⟨g, c, cur, e1, hb, _⟩
  · omega
  · simp at e1
    obtain ⟨rfl, rfl⟩ := e1
    cases e
    exact hb

theorem RowAt.below {W W' : World} {a : Option Addr} {ls : List Int} (h : RowAt W a ls) (hb : Below W.heap.size W W') : RowAt W' a ls := fun j x hx => by
  obtain ⟨b, e, hc⟩ := h j x hx
  exact ⟨b, e, (hb.cell (p := ⟨b, j, none⟩) (World.block_lt_of_cell? W ⟨b, j, none⟩ hc)).trans hc⟩

theorem RowAt.set {W : World} {a : Option Addr} {ls : List Int} (h : RowAt W a ls) {q o : Nat} {v : Value} (hq : ∀ b, a = some ⟨b, 0, none⟩ → 0 < ls.length → b ≠ q) : RowAt (W.setCell ⟨q, o, none⟩ v) a ls := fun j x hx => by
  obtain ⟨b, e, hc⟩ := h j x hx
  have hj := (List.getElem?_eq_some_iff.1 hx).1
  refine ⟨b, e, ?_⟩
  rw [World.cell?_setCell_other (h := fun q' => hq b e (by omega) (by have := congrArg Addr.block q'; simpa using this.symm))]
  exact hc

theorem RowAt.lt {W : World} {a : Option Addr} {ls : List Int} (h : RowAt W a ls) {b : Nat} (e : a = some ⟨b, 0, none⟩) (h0 : 0 < ls.length) : b < W.heap.size := by
  obtain ⟨b', e', hc⟩ := h 0 ls[0] (List.getElem?_eq_getElem h0)
  rw [e] at e'
  cases e'
  exact World.block_lt_of_cell? W _ hc

theorem row_at {W : World} {bl : Nat} {ls : List Int} (h : RowAt W (some ⟨bl, 0, none⟩) ls) {j : Nat} {x : Int} (hx : ls[j]? = some x) : W.cell? ⟨bl, j, none⟩ = some (.int .i64 x) := by
  obtain ⟨b, e, hc⟩ := h j x hx
  cases e
  exact hc

theorem setsAny (a : Option Addr) (n cap : Nat) (zs : List RuleI) (a' : Option Addr) (m cap' : Nat) (ps : List PartI) (hn : n ≤ 1048576) (hm : m ≤ 1048576) :
    ∃ (c : Int) (ls : List Int), ls.length ≤ 256 ∧ ∀ w : World, RulesIn w a n zs → PartsIn w a' m ps → GivesN 21 a n cap a' m cap' c ls w := by
  by_cases hc : manyCode zs ps = 0
  · obtain ⟨gs, hg⟩ := all_some zs (many_zero hc).1
    exact ⟨0, setsL (tellsL (ofG gs) ps), by have := setsTo_len (tellsL (ofG gs) ps) 256; unfold setsL; omega, fun w h h' => specSets_ok _ _ _ _ _ _ _ _ gs _ hn hm h h' hc hg⟩
  · exact ⟨manyCode zs ps, [], by simp, fun w h h' => specSets_bad _ _ _ _ _ _ _ _ _ _ hn hm h h' rfl hc⟩

theorem pickM (w W' : World) (B : Nat) (a : Option Addr) (len cap at' : Nat) (ys : List Int) (h : SrcAt w B a len cap at' ys) (hl : len ≤ 1048576) (hat : at' ≤ 1000) (xs : List Int) (hn : 1 ≤ xs.length) (hn2 : xs.length ≤ 100) (g : Nat) (hgB : g ≠ B) (hb : Below w.heap.size w W') (hc : BoxV g (xs.map (Value.int .i64)) W') :
    Calls Tryz.prog 18 #[.pointer (some ⟨B, 0, none⟩), .slice (some ⟨g, 0, none⟩) xs.length xs.length] W' fun e w' => ∃ v : Int, v ∈ xs ∧ e = .returned (.int .i64 v) ∧ SrcAt w' B a len cap (at' + 1) ys ∧ w.grownBy w' (some B) := by
  refine (pick_c _ B a len cap at' ys (h.below hb) hl hat g xs.length xs.length xs rfl hn hn2 hgB (fun j hj => ?_)).mono ?_
  · exact hc j (.int .i64 (xs[j]?.getD 0)) (by simp [List.getElem?_eq_getElem hj])
  · rintro e w' ⟨j, hj, rfl, hS, hG⟩
    refine ⟨_, ?_, rfl, hS, grown_trans (grown_none (grown_belowK hb) _) hG⟩
    rw [List.getElem?_eq_getElem hj]
    exact List.getElem_mem hj

/-- What stands while the three are drawn: the source, the result's box, the configuration in a box of its own. -/
structure KA (W : World) (R Q B : Nat) (a : Option Addr) (len cap kk : Nat) (ys : List Int) (c : ConfI) (A : Nat → Prop) (wr : World) : Prop where
  ds : DS W wr B a len cap kk ys
  ci : HoldS A (fun X => ConfIn X c) wr
  av : ∀ b, A b → W.heap.size ≤ b
  qb : wr.heap[Q]? = some (.cells #[.int .i64 c.e, .int .i64 c.f, .slice c.ra c.rn c.rc, .slice c.fa c.fn c.fc, .slice c.ca c.cn c.cc] 28 (0, 0))
  rb : wr.heap[R]? = some (.cells #[.int .i64 0, .int .i64 0, .slice none 0 0, .slice none 0 0, .slice none 0 0] 28 (0, 0))
  ne : R < W.heap.size ∧ R ≠ B ∧ W.heap.size ≤ Q
  rc : c.rn ≤ c.rc ∧ c.rc ≤ maxLen
  le : c.rn ≤ 17 ∧ c.fn ≤ 5 ∧ c.cn ≤ 5 ∧ FormsLe 9 c.fs

theorem KA.draw {W : World} {R Q B : Nat} {a : Option Addr} {len cap kk k' : Nat} {ys : List Int} {c : ConfI} {A : Nat → Prop} {wr wr' : World} (h : KA W R Q B a len cap kk ys c A wr) (hB : B < W.heap.size) (hs : SrcAt wr' B a len cap k' ys) (hg : wr.grownBy wr' (some B)) : KA W R Q B a len cap k' ys c A wr' := by
  have hn := h.ne
  exact ⟨h.ds.draw hs hg, h.ci.grown hg (fun b e q => by have := h.av b e; cases q; omega), h.av, (hg.block Q (Array.getElem?_eq_some_iff.1 h.qb).1 (fun q => by cases q; omega)).trans h.qb, (hg.block R (Array.getElem?_eq_some_iff.1 h.rb).1 (fun q => by cases q; omega)).trans h.rb, h.ne, h.rc, h.le⟩

theorem KA.below {W : World} {R Q B : Nat} {a : Option Addr} {len cap kk : Nat} {ys : List Int} {c : ConfI} {A : Nat → Prop} {wr wr' : World} (h : KA W R Q B a len cap kk ys c A wr) (hB : B < W.heap.size) (ha : ∀ b off, a = some ⟨b, off, none⟩ → len = 0 ∨ b < W.heap.size) (hb : Below wr.heap.size wr wr') : KA W R Q B a len cap kk ys c A wr' := by
  have hg := grown_belowK hb
  exact ⟨h.ds.row hg (fun q e => by cases e) hB ha, h.ci.grown hg (fun b e q => by cases q), h.av, (hg.block Q (Array.getElem?_eq_some_iff.1 h.qb).1 (fun q => by cases q)).trans h.qb, (hg.block R (Array.getElem?_eq_some_iff.1 h.rb).1 (fun q => by cases q)).trans h.rb, h.ne, h.rc, h.le⟩

theorem KA.fin {W : World} {R Q B : Nat} {a : Option Addr} {len cap kk : Nat} {ys : List Int} {c : ConfI} {A : Nat → Prop} {wr W5 : World} (h : KA W R Q B a len cap kk ys c A wr) (hg : wr.grownBy W5 (some R)) : ConfIn W5 c ∧ ∃ wr, W.grownBy wr (some B) ∧ wr.grownBy W5 (some R) :=
  ⟨(h.ci.grown hg (fun b e q => by have := h.av b e; have := h.ne.1; cases q; omega)).now, wr, h.ds.gr, hg⟩

/-- What the draw hands out. -/
def DrawnAl (w : World) (d : Ending) (w' : World) : Prop := ∃ (c : ConfI) (fm s : Int), d = .returned (.tuple #[.agg #[.int .i64 c.e, .int .i64 c.f, .slice c.ra c.rn c.rc, .slice c.fa c.fn c.fc, .slice c.ca c.cn c.cc], .int .i64 fm, .int .i64 s]) ∧ 1 ≤ fm ∧ fm ≤ 5 ∧ (c.rn ≤ c.rc ∧ c.rc ≤ maxLen) ∧ (c.rn ≤ 17 ∧ c.fn ≤ 5 ∧ c.cn ≤ 5 ∧ FormsLe 9 c.fs) ∧ ConfIn w' c ∧ Below w.heap.size w w'

set_option maxRecDepth 100000 in
set_option maxHeartbeats 8000000 in
theorem drawAllows_c (w : World) (a : Option Addr) (len cap : Nat) (ys : List Int) (h : CodeIn w a len ys) (hl : len ≤ 1048576) :
    Calls Tryz.prog 5 #[.slice a len cap] w fun d w' => DrawnAl w d w' := by
  obtain ⟨W0, hW0⟩ : ∃ W0, W0 = w.alloc (.cells #[.int .i64 0, .int .i64 0, .slice none 0 0, .slice none 0 0, .slice none 0 0] 28) := ⟨_, rfl⟩
  have hb0 : Below w.heap.size w W0 := by rw [hW0]; exact (Below.refl _ _).alloc (Nat.le_refl _) _
  have hs0 : W0.heap.size = w.heap.size + 1 := by rw [hW0]; simp
  have hr0 : W0.heap[w.heap.size]? = some (.cells #[.int .i64 0, .int .i64 0, .slice none 0 0, .slice none 0 0, .slice none 0 0] 28 (0, 0)) := by rw [hW0]; exact heap_alloc_new _ _
  have hS := src_new W0 a len cap ys (h.kept (row := none) (grown_belowK hb0) (fun _ _ _ => .inr (by simp)))
  obtain ⟨W, hW⟩ : ∃ W, W = W0.alloc (.cells #[.slice a len cap, .int .i64 0] 79) := ⟨_, rfl⟩
  rw [← hW] at hS
  have HS : Hid (SrcAt W W0.heap.size a len cap 0 ys) := hS
  have HB0 : Hid (Below w.heap.size w W) := by show Below _ _ _; rw [hW]; exact hb0.alloc hb0.size _
  have HR0 : Hid (W.heap[w.heap.size]? = some (.cells #[.int .i64 0, .int .i64 0, .slice none 0 0, .slice none 0 0, .slice none 0 0] 28 (0, 0))) := by show _ = _; rw [hW]; exact (Below.heap_alloc W0 _ _ (by omega)).trans hr0
  have hsW : W.heap.size = w.heap.size + 2 := by rw [hW]; simp [hs0]
  obtain ⟨B, hBe⟩ : ∃ B, B = W0.heap.size := ⟨_, rfl⟩
  rw [← hBe] at HS
  obtain ⟨R, hRe⟩ : ∃ R, R = w.heap.size := ⟨_, rfl⟩
  rw [← hRe] at HR0
  have hB : B < W.heap.size := by omega
  have hRW : R < W.heap.size := by omega
  have hRB : R ≠ B := by omega
  have HB1 : Hid (∀ W5 : World, (∃ wr, W.grownBy wr (some B) ∧ wr.grownBy W5 (some R)) → Below w.heap.size w W5) := fun W5 ⟨wr, g1, g2⟩ => (HB0.out.grown g1 HB0.out.size (fun k e => by cases e; omega)).grown g2 (by have := HB0.out.size; have := g1.size; omega) (fun k e => by cases e; omega)
  have HCode : Hid (∀ b off, a = some ⟨b, off, none⟩ → len = 0 ∨ b < W.heap.size) := HS.out.code_lt
  clear h hS hb0 hr0 hs0 hsW
  go_enter Tryz.func5, Tryz.ntmps5
  go_upto_region 1 with fail
  rw [← hW0, ← hRe]
  clear hW0
  go_wp2_with fail
  refine (source_c a len cap W0).mono ?_
  rintro d w1 ⟨rfl, rfl⟩
  rw [← hBe, ← hW]
  clear hW hBe hRe
  go_wp2_with fail
  refine (bent6_c W B a len cap 0 ys HS.out hl (by omega)).mono ?_
  rintro d w3 ⟨⟨e, f, ra, rn, rc, zs, fa, fn, fc, fs, ca, cn, cc, cs⟩, A, kk, rfl, hkk, hE⟩
  have KA0 : Hid (KA W R w3.heap.size B a len cap kk ys ⟨e, f, ra, rn, rc, zs, fa, fn, fc, fs, ca, cn, cc, cs⟩ A (w3.alloc (.cells #[.int .i64 e, .int .i64 f, .slice ra rn rc, .slice fa fn fc, .slice ca cn cc] 28))) := by
    have hal := grown_alloc w3 (.cells #[.int .i64 e, .int .i64 f, .slice ra rn rc, .slice fa fn fc, .slice ca cn cc] 28)
    have hr3 := (hE.ds.gr.block R hRW (fun q => by cases q; exact hRB rfl)).trans HR0.out
    exact ⟨hE.ds.alloc _, hE.ci.grown hal (fun b e q => by cases q), hE.av, heap_alloc_new _ _, (hal.block R (Array.getElem?_eq_some_iff.1 hr3).1 (fun q => by cases q)).trans hr3, ⟨hRW, hRB, hE.ds.gr.size⟩, hE.rc, hE.le⟩
  have hlen := hE.ci.now.forms.1
  have hfn5 := hE.le.2.1
  clear hE HS HR0
  simp only at hlen hfn5
  go_upto_region 3 with fail
  generalize w3.alloc (.cells #[.int .i64 e, .int .i64 f, .slice ra rn rc, .slice fa fn fc, .slice ca cn cc] 28) = w4 at KA0 ⊢
  generalize w3.heap.size = Q at KA0 ⊢
  go_wp2_with fail
  refine (pickM w4 _ B a len cap kk ys KA0.out.ds.src hl (by omega) [1, 2, 3, 5] (by simp) (by simp) w4.heap.size (by have := KA0.out.ds.src.lt; omega) ((Below.refl _ _).alloc (Nat.le_refl _) _) (boxV_new w4 _ _).out).mono ?_
  rintro d w5 ⟨fm, hfm0, rfl, hS5, hG5⟩
  have hfm : 1 ≤ fm ∧ fm ≤ 5 := by simp at hfm0; omega
  have KA1 := hidQ (KA0.out.draw hB hS5 hG5)
  clear hS5 hG5 KA0 hfm0
  obtain ⟨fk, hfk⟩ : ∃ k, cfCode e f zs (partsL fs) cs = k := ⟨_, rfl⟩
  have HF := l6Fault_c Q ⟨e, f, ra, rn, rc, zs, fa, fn, fc, fs, ca, cn, cc, cs⟩ w5 ⟨by have := KA1.out.le.1; simp only at this ⊢; omega, by have := KA1.out.le.2.1; simp only at this ⊢; omega, fun k x hx => by have := KA1.out.le.2.2.2 k x hx; omega, by have := KA1.out.le.2.2.1; simp only at this ⊢; omega⟩ (by have qB := box_of_heap KA1.out.qb; exact ⟨qB.1 0 _ rfl, qB.1 1 _ rfl, qB.1 2 _ rfl, qB.1 3 _ rfl, qB.1 4 _ rfl⟩) KA1.out.ci.now
  simp only [hfk] at HF
  have HF := hidQ HF
  clear hfk
  go_wp2_with fail
  refine HF.out.mono ?_
  rintro d w6 ⟨rfl, hb6⟩
  have KA2 := hidQ (KA1.out.below hB HCode.out hb6)
  clear hb6 KA1 HF
  have qB := box_of_heap KA2.out.qb
  have q3 := qB.1 3 _ rfl
  have hQl := (Array.getElem?_eq_some_iff.1 KA2.out.qb).1
  clear qB
  by_cases hf0 : fk = 0
  · have fb : (fk == 0) = true := by simp [hf0]
    by_cases hff : fm ≤ (fn : Int)
    · have ffb : decide (fm ≤ (fn : Int)) = true := by simp [hff]
      go_wp2_with fail
      refine (chance_c _ B a len cap (kk + 1) ys 3 KA2.out.ds.src hl (by omega) (by omega) (by omega)).mono ?_
      rintro d w7 ⟨t, rfl, hS7, hG7⟩
      have KA3 := hidQ (KA2.out.draw hB hS7 hG7)
      clear hS7 hG7 KA2 q3 hQl
      cases t
      · obtain ⟨V, hVe⟩ : ∃ V, V = w7 := ⟨_, rfl⟩
        obtain ⟨j, hj⟩ : ∃ j : Nat, fm - 1 = (j : Int) := Int.eq_ofNat_of_zero_le (by omega)
        have hjn : j < fn := by omega
        have hjn' : (j : Int) < (fn : Int) := by omega
        have hj0 : (0 : Int) ≤ (j : Int) := by omega
        have hwj : IntKind.i64.wrap (j : Int) = (j : Int) := wrapA (by omega) (by omega)
        have hjt : ((j : Int)).toNat = j := Int.toNat_natCast j
        rw [← hVe] at KA3 ⊢
        have KV : Hid (W.heap.size ≤ V.heap.size) := KA3.out.ds.gr.size
        clear hVe hlen
        obtain ⟨bf, of, x, hfa, hx, hxa, hxp⟩ := KA3.out.ci.now.forms.at hjn
        simp only at hfa hx
        subst hfa
        have hbfl : bf < V.heap.size := World.block_lt_of_cell? V ⟨bf, of + j, none⟩ hxa
        have hx9 := KA3.out.le.2.2.2 j x hx
        obtain ⟨sc, ls, hls, hgv⟩ := setsAny ra rn rc zs x.a x.n x.cap x.ps (by have := KA3.out.le.1; simp only at this; omega) (by omega)
        have HSET : Hid (∀ W', Below V.heap.size V W' → GivesN 21 ra rn rc x.a x.n x.cap sc ls W') := fun W' q => hgv W' (KA3.out.ci.now.rules.below q) (hxp.below q)
        clear hgv hxp
        have qB := box_of_heap KA3.out.qb
        have q2 := qB.1 2 _ rfl
        have q3 := qB.1 3 _ rfl
        have hQl := (Array.getElem?_eq_some_iff.1 KA3.out.qb).1
        clear qB
        go_upto_region 5 with fail
        go_cut [8] from 30 to 39 (fun s wx => ∃ D, s = .pointer (some ⟨D, 0, none⟩) ∧ Below V.heap.size V wx ∧ V.heap.size ≤ D ∧ ∃ a1 cap1, wx.heap[D]? = some (.cells #[.int .i64 sc, .slice a1 ls.length cap1] 52 (0, 0)) ∧ RowAt wx a1 ls ∧ ∀ b, a1 = some ⟨b, 0, none⟩ → 0 < ls.length → V.heap.size ≤ b ∧ b ≠ D)
        case first =>
          refine wp_region_held_drew (S := fun w' => (∀ b o, b < V.heap.size → w'.cell? ⟨b, o, none⟩ = V.cell? ⟨b, o, none⟩) ∧ Below V.heap.size V w') (by kernel_rfl) (kp_drew _) (fun hHeld => ?_)
          refine wpAnyH_take (i := 0) (v := ?_) rfl (by kernel_rfl) (by kernel_rfl) (by kernel_rfl) (fun _ _ _ h => h) (Or.inl ⟨by kernel_rfl, ?_⟩) (by assumption) ?_
          rotate_left 1
          · intro w hSw; (try dsimp only at hSw); go_simp; try (with_reducible rfl)
          try simp only [Act.put, List.getElem_toArray, List.getElem_cons_succ, List.getElem_cons_zero, List.setIfInBounds_toArray, List.set_cons_zero, List.set_cons_succ]
          refine wpAnyH_take (i := 1) (v := ?_) rfl (by kernel_rfl) (by kernel_rfl) (by kernel_rfl) (fun _ _ _ h => h) (Or.inl ⟨by kernel_rfl, ?_⟩) (by assumption) ?_
          rotate_left 1
          · intro w hSw; (try dsimp only at hSw); go_simp; try (with_reducible rfl)
          try simp only [Act.put, List.getElem_toArray, List.getElem_cons_succ, List.getElem_cons_zero, List.setIfInBounds_toArray, List.set_cons_zero, List.set_cons_succ]
          refine wpAnyH_take (i := 2) (v := ?_) rfl (by kernel_rfl) (by kernel_rfl) (by kernel_rfl) (fun _ _ _ h => h) (Or.inl ⟨by kernel_rfl, ?_⟩) (by assumption) ?_
          rotate_left 1
          · intro w hSw; (try dsimp only at hSw); go_simp; try (with_reducible rfl)
          try simp only [Act.put, List.getElem_toArray, List.getElem_cons_succ, List.getElem_cons_zero, List.setIfInBounds_toArray, List.set_cons_zero, List.set_cons_succ]
          refine wpAnyH_take (i := 3) (v := ?_) rfl (by kernel_rfl) (by kernel_rfl) (by kernel_rfl) (fun _ _ _ h => h) (Or.inl ⟨by kernel_rfl, ?_⟩) (by assumption) ?_
          rotate_left 1
          · intro w hSw; (try dsimp only at hSw); go_simp; try (with_reducible rfl)
          try simp only [Act.put, List.getElem_toArray, List.getElem_cons_succ, List.getElem_cons_zero, List.setIfInBounds_toArray, List.set_cons_zero, List.set_cons_succ]
          refine wpAnyH_take (i := 4) (v := ?_) rfl (by kernel_rfl) (by kernel_rfl) (by kernel_rfl) (fun _ _ _ h => h) (Or.inl ⟨by kernel_rfl, ?_⟩) (by assumption) ?_
          rotate_left 1
          · intro w hSw; (try dsimp only at hSw); go_simp; try (with_reducible rfl)
          try simp only [Act.put, List.getElem_toArray, List.getElem_cons_succ, List.getElem_cons_zero, List.setIfInBounds_toArray, List.set_cons_zero, List.set_cons_succ]
          refine wpAnyH_take (i := 5) (v := ?_) rfl (by kernel_rfl) (by kernel_rfl) (by kernel_rfl) (fun _ _ _ h => h) (Or.inl ⟨by kernel_rfl, ?_⟩) (by assumption) ?_
          rotate_left 1
          · intro w hSw; (try dsimp only at hSw); go_simp; try (with_reducible rfl)
          try simp only [Act.put, List.getElem_toArray, List.getElem_cons_succ, List.getElem_cons_zero, List.setIfInBounds_toArray, List.set_cons_zero, List.set_cons_succ]
          refine wpAnyH_take (i := 6) (v := ?_) rfl (by kernel_rfl) (by kernel_rfl) (by kernel_rfl) (fun _ _ _ h => h) (Or.inl ⟨by kernel_rfl, ?_⟩) (by assumption) ?_
          rotate_left 1
          · intro w hSw; (try dsimp only at hSw); go_simp; try (with_reducible rfl)
          try simp only [Act.put, List.getElem_toArray, List.getElem_cons_succ, List.getElem_cons_zero, List.setIfInBounds_toArray, List.set_cons_zero, List.set_cons_succ]
          refine wpAnyH_take (i := 7) (v := ?_) rfl (by kernel_rfl) (by kernel_rfl) (by kernel_rfl) (fun _ _ _ h => h) (Or.inl ⟨by kernel_rfl, ?_⟩) (by assumption) ?_
          rotate_left 1
          · intro w hSw; (try dsimp only at hSw); go_simp; try (with_reducible rfl)
          try simp only [Act.put, List.getElem_toArray, List.getElem_cons_succ, List.getElem_cons_zero, List.setIfInBounds_toArray, List.set_cons_zero, List.set_cons_succ]
          refine wpAnyH_take (i := 8) (v := ?_) rfl (by kernel_rfl) (by kernel_rfl) (by kernel_rfl) (fun _ _ _ h => h) (Or.inl ⟨by kernel_rfl, ?_⟩) (by assumption) ?_
          rotate_left 1
          · intro w hSw; (try dsimp only at hSw); go_simp; try (with_reducible rfl)
          try simp only [Act.put, List.getElem_toArray, List.getElem_cons_succ, List.getElem_cons_zero, List.setIfInBounds_toArray, List.set_cons_zero, List.set_cons_succ]
          refine wpAnyH_ready (rs := [9, 10]) (by kernel_rfl) (by simp) ?_
          refine AllReadyH.cons rfl (fun K hK => ?_) (AllReadyH.cons rfl (fun K hK => ?_) AllReadyH.nil)
          · go_simp
            refine (HSET.out _ (by first | exact hHeld.2 | exact (Below.refl _ _).drew)).mono ?_
            rintro d wA ⟨a1, cap1, rfl, hoA, hbA⟩
            have hA := kp_step (by assumption) hbA
            have hIA := hidQ (owns_intsA hoA)
            have hIL := hidQ (owns_lowA hoA (V := V) (by first | exact hHeld.2.size | exact Nat.le_refl _ | (simp; done) | (simp; omega)))
            have hS := hA
            refine hK.out _ _ hS (fun hHeld => ?_)
            clear hK K
            try simp only [Act.put, List.getElem_toArray, List.getElem_cons_succ, List.getElem_cons_zero, List.setIfInBounds_toArray, List.set_cons_zero, List.set_cons_succ]
            refine wpAnyH_ready (rs := [10]) (by kernel_rfl) (by simp) ?_
            refine AllReadyH.cons rfl (fun K hK => ?_) AllReadyH.nil
            go_simp
            have hS := kpA4 (hA.2.alloc hA.2.size (.cells #[.int .i64 0, .slice none 0 0] 52))
            refine hK.out _ _ hS (fun hHeld => ?_)
            clear hK K
            try simp only [Act.put, List.getElem_toArray, List.getElem_cons_succ, List.getElem_cons_zero, List.setIfInBounds_toArray, List.set_cons_zero, List.set_cons_succ]
            refine wpAnyH_ready (rs := [11]) (by kernel_rfl) (by simp) ?_
            refine AllReadyH.cons rfl (fun K hK => ?_) AllReadyH.nil
            go_simp
            have hS := kpA4 (hA.2.alloc hA.2.size (.cells #[.int .i64 sc, .slice a1 ls.length cap1] 52))
            refine hK.out _ _ hS (fun hHeld => ?_)
            clear hK K
            try simp only [Act.put, List.getElem_toArray, List.getElem_cons_succ, List.getElem_cons_zero, List.setIfInBounds_toArray, List.set_cons_zero, List.set_cons_succ]
            refine wpAnyH_done (by kernel_rfl) ?_ _
            go_wp2_with fail
            go_meet
            case rel => exact ⟨_, rfl, hA.2.alloc hA.2.size _, hA.2.size, a1, cap1, heap_alloc_new wA _, hIA.out.below ((Below.refl _ _).alloc (Nat.le_refl _) _), fun b e h0 => by have := hIL.out b e h0; have := hIA.out.lt e h0; exact ⟨by first | (simp at *; omega) | omega, by omega⟩⟩
          · go_simp
            have hS := kpA4 (((Below.refl V.heap.size V).alloc (Nat.le_refl _) (.cells #[.int .i64 0, .slice none 0 0] 52)).drew)
            refine hK.out _ _ hS (fun hHeld => ?_)
            clear hK K
            try simp only [Act.put, List.getElem_toArray, List.getElem_cons_succ, List.getElem_cons_zero, List.setIfInBounds_toArray, List.set_cons_zero, List.set_cons_succ]
            refine wpAnyH_ready (rs := [9]) (by kernel_rfl) (by simp) ?_
            refine AllReadyH.cons rfl (fun K hK => ?_) AllReadyH.nil
            go_simp
            refine (HSET.out _ (by first | exact hHeld.2 | exact (Below.refl _ _).drew)).mono ?_
            rintro d wA ⟨a1, cap1, rfl, hoA, hbA⟩
            have hA := kp_step (by assumption) hbA
            have hIA := hidQ (owns_intsA hoA)
            have hIL := hidQ (owns_lowA hoA (V := V) (by first | exact hHeld.2.size | exact Nat.le_refl _ | (simp; done) | (simp; omega)))
            have hYh : wA.heap[V.heap.size]? = some (.cells #[.int .i64 0, .slice none 0 0] 52 (0, 0)) := (hbA.block _ (by simp)).trans (by first | exact heap_alloc_new _ _ | exact (heap_alloc_new (V.drew) _))
            have y0 := blk_cellA hYh 0
            have y1 := blk_cellA hYh 1
            have yf0 := blk_frozenA hYh 0
            have yf1 := blk_frozenA hYh 1
            have yl := (Array.getElem?_eq_some_iff.1 hYh).1
            simp only [List.getElem?_toArray, List.getElem?_cons_zero, List.getElem?_cons_succ] at y0 y1
            have hS := hA
            refine hK.out _ _ hS (fun hHeld => ?_)
            clear hK K
            try simp only [Act.put, List.getElem_toArray, List.getElem_cons_succ, List.getElem_cons_zero, List.setIfInBounds_toArray, List.set_cons_zero, List.set_cons_succ]
            refine wpAnyH_ready (rs := [11]) (by kernel_rfl) (by simp) ?_
            refine AllReadyH.cons rfl (fun K hK => ?_) AllReadyH.nil
            go_simp
            have hS := kpA4 (w' := (wA.setCell ⟨V.heap.size, 0, none⟩ (.int .i64 sc)).setCell ⟨V.heap.size, 1, none⟩ (.slice a1 ls.length cap1)) ((hA.2.setCell (Nat.le_refl _) _).setCell (Nat.le_refl _) _)
            refine hK.out _ _ hS (fun hHeld => ?_)
            clear hK K
            try simp only [Act.put, List.getElem_toArray, List.getElem_cons_succ, List.getElem_cons_zero, List.setIfInBounds_toArray, List.set_cons_zero, List.set_cons_succ]
            refine wpAnyH_done (by kernel_rfl) ?_ _
            go_wp2_with fail
            go_meet
            case rel => exact ⟨_, rfl, (hA.2.setCell (Nat.le_refl _) _).setCell (Nat.le_refl _) _, Nat.le_refl _, a1, cap1, set2c hYh _ _, (hIA.out.set (fun b e h0 => by have := hIL.out b e h0; simp at this; omega)).set (fun b e h0 => by have := hIL.out b e h0; simp at this; omega), fun b e h0 => by have := hIL.out b e h0; simp at this; exact ⟨by omega, by omega⟩⟩
        case rest =>
          obtain ⟨D, rfl, hbx, hDV, a1, cap1, hDh, hrow, hnb⟩ := hcut
          have K5 := hidQ (KA3.out.below hB HCode.out hbx)
          clear KA3 q2 q3 hQl
          have dB := box_of_heap hDh
          have dD1 := dB.1 1 _ rfl
          have hDl := (Array.getElem?_eq_some_iff.1 hDh).1
          clear dB
          by_cases hl0 : 0 < ls.length
          · have hl0' : (0 : Int) < (ls.length : Int) := by omega
            obtain ⟨bl, rfl⟩ : ∃ bl, a1 = some ⟨bl, 0, none⟩ := by
              obtain ⟨b, e, _⟩ := hrow 0 ls[0] (List.getElem?_eq_getElem hl0)
              exact ⟨b, e⟩
            have HIC := hidQ hrow
            have HNB : Hid (bl ≠ B ∧ D ≠ B ∧ D ≠ R ∧ bl ≠ R) := by have := hnb bl rfl hl0; have := K5.out.ds.gr.size; have := KV.out; exact ⟨by omega, by omega, by omega, by omega⟩
            clear hrow hnb hDh
            have qB := box_of_heap K5.out.qb
            have q0 := qB.1 0 _ rfl
            have q1 := qB.1 1 _ rfl
            have q2 := qB.1 2 _ rfl
            have q3 := qB.1 3 _ rfl
            have q4 := qB.1 4 _ rfl
            have hQl := (Array.getElem?_eq_some_iff.1 K5.out.qb).1
            clear qB
            go_upto_region 7 with fail
            refine wp_region_held_drew (S := fun W' => (W').cell? ⟨Q, 0, none⟩ = some (.int .i64 e) ∧ (W').cell? ⟨Q, 1, none⟩ = some (.int .i64 f) ∧ (W').cell? ⟨Q, 2, none⟩ = some (.slice ra rn rc) ∧ (W').cell? ⟨Q, 3, none⟩ = some (.slice (some ⟨bf, of, none⟩) fn fc) ∧ (W').cell? ⟨Q, 4, none⟩ = some (.slice ca cn cc) ∧ (W').cell? ⟨D, 1, none⟩ = some (.slice (some ⟨bl, 0, none⟩) ls.length cap1)) (by kernel_rfl) (⟨q0, q1, q2, q3, q4, dD1⟩) (fun hHeld => ?_)
            refine wpAnyH_take (i := 0) (v := ?_) rfl (by kernel_rfl) (by kernel_rfl) (by kernel_rfl) (fun _ _ _ h => h) (Or.inl ⟨by kernel_rfl, ?_⟩) (by assumption) ?_
            rotate_left 1
            · intro w hSw; (try dsimp only at hSw); go_simp; try (with_reducible rfl)
            try simp only [Act.put, List.getElem_toArray, List.getElem_cons_succ, List.getElem_cons_zero, List.setIfInBounds_toArray, List.set_cons_zero, List.set_cons_succ]
            refine wpAnyH_take (i := 1) (v := ?_) rfl (by kernel_rfl) (by kernel_rfl) (by kernel_rfl) (fun _ _ _ h => h) (Or.inl ⟨by kernel_rfl, ?_⟩) (by assumption) ?_
            rotate_left 1
            · intro w hSw; (try dsimp only at hSw); go_simp; try (with_reducible rfl)
            try simp only [Act.put, List.getElem_toArray, List.getElem_cons_succ, List.getElem_cons_zero, List.setIfInBounds_toArray, List.set_cons_zero, List.set_cons_succ]
            refine wpAnyH_take (i := 2) (v := ?_) rfl (by kernel_rfl) (by kernel_rfl) (by kernel_rfl) (fun _ _ _ h => h) (Or.inl ⟨by kernel_rfl, ?_⟩) (by assumption) ?_
            rotate_left 1
            · intro w hSw; (try dsimp only at hSw); go_simp; try (with_reducible rfl)
            try simp only [Act.put, List.getElem_toArray, List.getElem_cons_succ, List.getElem_cons_zero, List.setIfInBounds_toArray, List.set_cons_zero, List.set_cons_succ]
            refine wpAnyH_take (i := 3) (v := ?_) rfl (by kernel_rfl) (by kernel_rfl) (by kernel_rfl) (fun _ _ _ h => h) (Or.inl ⟨by kernel_rfl, ?_⟩) (by assumption) ?_
            rotate_left 1
            · intro w hSw; (try dsimp only at hSw); go_simp; try (with_reducible rfl)
            try simp only [Act.put, List.getElem_toArray, List.getElem_cons_succ, List.getElem_cons_zero, List.setIfInBounds_toArray, List.set_cons_zero, List.set_cons_succ]
            refine wpAnyH_take (i := 4) (v := ?_) rfl (by kernel_rfl) (by kernel_rfl) (by kernel_rfl) (fun _ _ _ h => h) (Or.inl ⟨by kernel_rfl, ?_⟩) (by assumption) ?_
            rotate_left 1
            · intro w hSw; (try dsimp only at hSw); go_simp; try (with_reducible rfl)
            try simp only [Act.put, List.getElem_toArray, List.getElem_cons_succ, List.getElem_cons_zero, List.setIfInBounds_toArray, List.set_cons_zero, List.set_cons_succ]
            refine wpAnyH_take (i := 5) (v := ?_) rfl (by kernel_rfl) (by kernel_rfl) (by kernel_rfl) (fun _ _ _ h => h) (Or.inl ⟨by kernel_rfl, ?_⟩) (by assumption) ?_
            rotate_left 1
            · intro w hSw; (try dsimp only at hSw); go_simp; try (with_reducible rfl)
            try simp only [Act.put, List.getElem_toArray, List.getElem_cons_succ, List.getElem_cons_zero, List.setIfInBounds_toArray, List.set_cons_zero, List.set_cons_succ]
            refine wpAnyH_take (i := 6) (v := ?_) rfl (by kernel_rfl) (by kernel_rfl) (by kernel_rfl) (fun _ _ _ h => h) (Or.inl ⟨by kernel_rfl, ?_⟩) (by assumption) ?_
            rotate_left 1
            · intro w hSw; (try dsimp only at hSw); go_simp; try (with_reducible rfl)
            try simp only [Act.put, List.getElem_toArray, List.getElem_cons_succ, List.getElem_cons_zero, List.setIfInBounds_toArray, List.set_cons_zero, List.set_cons_succ]
            refine wpAnyH_take (i := 7) (v := ?_) rfl (by kernel_rfl) (by kernel_rfl) (by kernel_rfl) (fun _ _ _ h => h) (Or.inl ⟨by kernel_rfl, ?_⟩) (by assumption) ?_
            rotate_left 1
            · intro w hSw; (try dsimp only at hSw); go_simp; try (with_reducible rfl)
            try simp only [Act.put, List.getElem_toArray, List.getElem_cons_succ, List.getElem_cons_zero, List.setIfInBounds_toArray, List.set_cons_zero, List.set_cons_succ]
            refine wpAnyH_ready (rs := [8]) (by kernel_rfl) (by simp) ?_
            refine AllReadyH.cons rfl (fun K hK => ?_) AllReadyH.nil
            go_simp
            refine (next_c _ B a len cap (kk + 1 + 1) ys (ls.length : Int) (K5.out.ds.src.below (Below.refl _ _).drew) hl (by omega) (by omega) (by omega)).mono ?_
            rintro d w8 ⟨v, v0, v1, rfl, hS8, hG8⟩
            have K8 := hidQ (K5.out.draw hB hS8 (gr_drew hG8))
            obtain ⟨j, rfl⟩ := Int.eq_ofNat_of_zero_le v0
            have hjl : j < ls.length := by omega
            have hjl' : (j : Int) < (ls.length : Int) := by omega
            obtain ⟨x, hx⟩ : ∃ x, ls[j]? = some x := ⟨_, List.getElem?_eq_getElem hjl⟩
            have hxc : w8.cell? ⟨bl, j, none⟩ = some (.int .i64 x) := (gr_drew hG8).cell (row_at HIC.out hx) (by intro q; cases q; exact HNB.out.1 rfl)
            have sD := (gr_drew hG8).cell dD1 (by intro q; cases q; exact HNB.out.2.1 rfl)
            have rB := box_of_heap K8.out.rb
            have r0 := rB.1 0 _ rfl
            have r1 := rB.1 1 _ rfl
            have r2 := rB.1 2 _ rfl
            have r3 := rB.1 3 _ rfl
            have r4 := rB.1 4 _ rfl
            have m0 := rB.2 0
            have m1 := rB.2 1
            have m2 := rB.2 2
            have m3 := rB.2 3
            have m4 := rB.2 4
            have hRl := (Array.getElem?_eq_some_iff.1 K8.out.rb).1
            have qB := box_of_heap K8.out.qb
            have s0 := qB.1 0 _ rfl
            have s1 := qB.1 1 _ rfl
            have s2 := qB.1 2 _ rfl
            have s3 := qB.1 3 _ rfl
            have s4 := qB.1 4 _ rfl
            have HQR := hidQ (show Q ≠ R from by have := K8.out.ne; omega)
            clear hS8 hG8 rB qB
            clear hx
            have hbR1 : ¬ (bl = R) := HNB.out.2.2.2
            have hbR2 : ¬ (R = bl) := fun q => HNB.out.2.2.2 q.symm
            have hS : (w8).cell? ⟨Q, 0, none⟩ = some (.int .i64 e) ∧ (w8).cell? ⟨Q, 1, none⟩ = some (.int .i64 f) ∧ (w8).cell? ⟨Q, 2, none⟩ = some (.slice ra rn rc) ∧ (w8).cell? ⟨Q, 3, none⟩ = some (.slice (some ⟨bf, of, none⟩) fn fc) ∧ (w8).cell? ⟨Q, 4, none⟩ = some (.slice ca cn cc) ∧ (w8).cell? ⟨D, 1, none⟩ = some (.slice (some ⟨bl, 0, none⟩) ls.length cap1) := ⟨s0, s1, s2, s3, s4, sD⟩
            refine hK.out _ _ hS (fun hHeld => ?_)
            clear hK K
            try simp only [Act.put, List.getElem_toArray, List.getElem_cons_succ, List.getElem_cons_zero, List.setIfInBounds_toArray, List.set_cons_zero, List.set_cons_succ]
            refine wpAnyH_take (i := 9) (v := ?_) rfl (by kernel_rfl) (by kernel_rfl) (by kernel_rfl) (fun _ _ _ h => h) (Or.inl ⟨by kernel_rfl, ?_⟩) (by assumption) ?_
            rotate_left 1
            · intro w hSw; (try dsimp only at hSw); go_simp; try (with_reducible rfl)
            try simp only [Act.put, List.getElem_toArray, List.getElem_cons_succ, List.getElem_cons_zero, List.setIfInBounds_toArray, List.set_cons_zero, List.set_cons_succ]
            refine wpAnyH_ready (rs := [10, 11]) (by kernel_rfl) (by simp) ?_
            refine AllReadyH.cons rfl (fun K hK => ?_) (AllReadyH.cons rfl (fun K hK => ?_) AllReadyH.nil)
            · go_simp
              refine hK.out _ _ hS (fun hHeld => ?_)
              clear hK K
              try simp only [Act.put, List.getElem_toArray, List.getElem_cons_succ, List.getElem_cons_zero, List.setIfInBounds_toArray, List.set_cons_zero, List.set_cons_succ]
              refine wpAnyH_ready (rs := [11]) (by kernel_rfl) (by simp) ?_
              refine AllReadyH.cons rfl (fun K hK => ?_) AllReadyH.nil
              go_simp
              have hS : ((((((w8.setCell ⟨R, 0, none⟩ (.int .i64 e)).setCell ⟨R, 1, none⟩ (.int .i64 f)).setCell ⟨R, 2, none⟩ (.slice ra rn rc)).setCell ⟨R, 3, none⟩ (.slice (some ⟨bf, of, none⟩) fn fc)).setCell ⟨R, 4, none⟩ (.slice ca cn cc))).cell? ⟨Q, 0, none⟩ = some (.int .i64 e) ∧ ((((((w8.setCell ⟨R, 0, none⟩ (.int .i64 e)).setCell ⟨R, 1, none⟩ (.int .i64 f)).setCell ⟨R, 2, none⟩ (.slice ra rn rc)).setCell ⟨R, 3, none⟩ (.slice (some ⟨bf, of, none⟩) fn fc)).setCell ⟨R, 4, none⟩ (.slice ca cn cc))).cell? ⟨Q, 1, none⟩ = some (.int .i64 f) ∧ ((((((w8.setCell ⟨R, 0, none⟩ (.int .i64 e)).setCell ⟨R, 1, none⟩ (.int .i64 f)).setCell ⟨R, 2, none⟩ (.slice ra rn rc)).setCell ⟨R, 3, none⟩ (.slice (some ⟨bf, of, none⟩) fn fc)).setCell ⟨R, 4, none⟩ (.slice ca cn cc))).cell? ⟨Q, 2, none⟩ = some (.slice ra rn rc) ∧ ((((((w8.setCell ⟨R, 0, none⟩ (.int .i64 e)).setCell ⟨R, 1, none⟩ (.int .i64 f)).setCell ⟨R, 2, none⟩ (.slice ra rn rc)).setCell ⟨R, 3, none⟩ (.slice (some ⟨bf, of, none⟩) fn fc)).setCell ⟨R, 4, none⟩ (.slice ca cn cc))).cell? ⟨Q, 3, none⟩ = some (.slice (some ⟨bf, of, none⟩) fn fc) ∧ ((((((w8.setCell ⟨R, 0, none⟩ (.int .i64 e)).setCell ⟨R, 1, none⟩ (.int .i64 f)).setCell ⟨R, 2, none⟩ (.slice ra rn rc)).setCell ⟨R, 3, none⟩ (.slice (some ⟨bf, of, none⟩) fn fc)).setCell ⟨R, 4, none⟩ (.slice ca cn cc))).cell? ⟨Q, 4, none⟩ = some (.slice ca cn cc) ∧ (((((w8.setCell ⟨R, 0, none⟩ (.int .i64 e)).setCell ⟨R, 1, none⟩ (.int .i64 f)).setCell ⟨R, 2, none⟩ (.slice ra rn rc)).setCell ⟨R, 3, none⟩ (.slice (some ⟨bf, of, none⟩) fn fc)).setCell ⟨R, 4, none⟩ (.slice ca cn cc)).cell? ⟨D, 1, none⟩ = some (.slice (some ⟨bl, 0, none⟩) ls.length cap1) := ⟨(grown5 w8 R _ _ _ _ _).cell s0 (fun q => by cases q; exact HQR.out rfl), (grown5 w8 R _ _ _ _ _).cell s1 (fun q => by cases q; exact HQR.out rfl), (grown5 w8 R _ _ _ _ _).cell s2 (fun q => by cases q; exact HQR.out rfl), (grown5 w8 R _ _ _ _ _).cell s3 (fun q => by cases q; exact HQR.out rfl), (grown5 w8 R _ _ _ _ _).cell s4 (fun q => by cases q; exact HQR.out rfl), (grown5 w8 R _ _ _ _ _).cell sD (fun q => by cases q; exact HNB.out.2.2.1 rfl)⟩
              refine hK.out _ _ hS (fun hHeld => ?_)
              clear hK K
              try simp only [Act.put, List.getElem_toArray, List.getElem_cons_succ, List.getElem_cons_zero, List.setIfInBounds_toArray, List.set_cons_zero, List.set_cons_succ]
              refine wpAnyH_ready (rs := [12]) (by kernel_rfl) (by simp) ?_
              refine AllReadyH.cons rfl (fun K hK => ?_) AllReadyH.nil
              go_simp
              refine hK.out _ _ hS (fun hHeld => ?_)
              clear hK K
              try simp only [Act.put, List.getElem_toArray, List.getElem_cons_succ, List.getElem_cons_zero, List.setIfInBounds_toArray, List.set_cons_zero, List.set_cons_succ]
              refine wpAnyH_ready (rs := [13]) (by kernel_rfl) (by simp) ?_
              refine AllReadyH.cons rfl (fun K hK => ?_) AllReadyH.nil
              go_simp
              refine hK.out _ _ hS (fun hHeld => ?_)
              clear hK K
              try simp only [Act.put, List.getElem_toArray, List.getElem_cons_succ, List.getElem_cons_zero, List.setIfInBounds_toArray, List.set_cons_zero, List.set_cons_succ]
              refine wpAnyH_done (by kernel_rfl) ?_ _
              clear hHeld
              go_wp2_with fail
              refine bodyPost_ret (v := .tuple #[.agg #[.int .i64 e, .int .i64 f, .slice ra rn rc, .slice (some ⟨bf, of, none⟩) fn fc, .slice ca cn cc], .int .i64 fm, .int .i64 x]) (by simp [results, Tryz.results5, go_sem, r0, r1, r2, r3, r4, hRl]) rfl ?_
              exact ⟨⟨e, f, ra, rn, rc, zs, (some ⟨bf, of, none⟩), fn, fc, fs, ca, cn, cc, cs⟩, fm, x, rfl, hfm.1, hfm.2, K8.out.rc, K8.out.le, (K8.out.fin (grown5 _ _ _ _ _ _ _)).1, HB1.out _ ((K8.out.fin (grown5 _ _ _ _ _ _ _)).2)⟩
            · go_simp
              have hS : ((((((w8.setCell ⟨R, 0, none⟩ (.int .i64 e)).setCell ⟨R, 1, none⟩ (.int .i64 f)).setCell ⟨R, 2, none⟩ (.slice ra rn rc)).setCell ⟨R, 3, none⟩ (.slice (some ⟨bf, of, none⟩) fn fc)).setCell ⟨R, 4, none⟩ (.slice ca cn cc))).cell? ⟨Q, 0, none⟩ = some (.int .i64 e) ∧ ((((((w8.setCell ⟨R, 0, none⟩ (.int .i64 e)).setCell ⟨R, 1, none⟩ (.int .i64 f)).setCell ⟨R, 2, none⟩ (.slice ra rn rc)).setCell ⟨R, 3, none⟩ (.slice (some ⟨bf, of, none⟩) fn fc)).setCell ⟨R, 4, none⟩ (.slice ca cn cc))).cell? ⟨Q, 1, none⟩ = some (.int .i64 f) ∧ ((((((w8.setCell ⟨R, 0, none⟩ (.int .i64 e)).setCell ⟨R, 1, none⟩ (.int .i64 f)).setCell ⟨R, 2, none⟩ (.slice ra rn rc)).setCell ⟨R, 3, none⟩ (.slice (some ⟨bf, of, none⟩) fn fc)).setCell ⟨R, 4, none⟩ (.slice ca cn cc))).cell? ⟨Q, 2, none⟩ = some (.slice ra rn rc) ∧ ((((((w8.setCell ⟨R, 0, none⟩ (.int .i64 e)).setCell ⟨R, 1, none⟩ (.int .i64 f)).setCell ⟨R, 2, none⟩ (.slice ra rn rc)).setCell ⟨R, 3, none⟩ (.slice (some ⟨bf, of, none⟩) fn fc)).setCell ⟨R, 4, none⟩ (.slice ca cn cc))).cell? ⟨Q, 3, none⟩ = some (.slice (some ⟨bf, of, none⟩) fn fc) ∧ ((((((w8.setCell ⟨R, 0, none⟩ (.int .i64 e)).setCell ⟨R, 1, none⟩ (.int .i64 f)).setCell ⟨R, 2, none⟩ (.slice ra rn rc)).setCell ⟨R, 3, none⟩ (.slice (some ⟨bf, of, none⟩) fn fc)).setCell ⟨R, 4, none⟩ (.slice ca cn cc))).cell? ⟨Q, 4, none⟩ = some (.slice ca cn cc) ∧ (((((w8.setCell ⟨R, 0, none⟩ (.int .i64 e)).setCell ⟨R, 1, none⟩ (.int .i64 f)).setCell ⟨R, 2, none⟩ (.slice ra rn rc)).setCell ⟨R, 3, none⟩ (.slice (some ⟨bf, of, none⟩) fn fc)).setCell ⟨R, 4, none⟩ (.slice ca cn cc)).cell? ⟨D, 1, none⟩ = some (.slice (some ⟨bl, 0, none⟩) ls.length cap1) := ⟨(grown5 w8 R _ _ _ _ _).cell s0 (fun q => by cases q; exact HQR.out rfl), (grown5 w8 R _ _ _ _ _).cell s1 (fun q => by cases q; exact HQR.out rfl), (grown5 w8 R _ _ _ _ _).cell s2 (fun q => by cases q; exact HQR.out rfl), (grown5 w8 R _ _ _ _ _).cell s3 (fun q => by cases q; exact HQR.out rfl), (grown5 w8 R _ _ _ _ _).cell s4 (fun q => by cases q; exact HQR.out rfl), (grown5 w8 R _ _ _ _ _).cell sD (fun q => by cases q; exact HNB.out.2.2.1 rfl)⟩
              refine hK.out _ _ hS (fun hHeld => ?_)
              clear hK K
              try simp only [Act.put, List.getElem_toArray, List.getElem_cons_succ, List.getElem_cons_zero, List.setIfInBounds_toArray, List.set_cons_zero, List.set_cons_succ]
              refine wpAnyH_ready (rs := [10, 12]) (by kernel_rfl) (by simp) ?_
              refine AllReadyH.cons rfl (fun K hK => ?_) (AllReadyH.cons rfl (fun K hK => ?_) AllReadyH.nil)
              · go_simp
                refine hK.out _ _ hS (fun hHeld => ?_)
                clear hK K
                try simp only [Act.put, List.getElem_toArray, List.getElem_cons_succ, List.getElem_cons_zero, List.setIfInBounds_toArray, List.set_cons_zero, List.set_cons_succ]
                refine wpAnyH_ready (rs := [12]) (by kernel_rfl) (by simp) ?_
                refine AllReadyH.cons rfl (fun K hK => ?_) AllReadyH.nil
                go_simp
                refine hK.out _ _ hS (fun hHeld => ?_)
                clear hK K
                try simp only [Act.put, List.getElem_toArray, List.getElem_cons_succ, List.getElem_cons_zero, List.setIfInBounds_toArray, List.set_cons_zero, List.set_cons_succ]
                refine wpAnyH_ready (rs := [13]) (by kernel_rfl) (by simp) ?_
                refine AllReadyH.cons rfl (fun K hK => ?_) AllReadyH.nil
                go_simp
                refine hK.out _ _ hS (fun hHeld => ?_)
                clear hK K
                try simp only [Act.put, List.getElem_toArray, List.getElem_cons_succ, List.getElem_cons_zero, List.setIfInBounds_toArray, List.set_cons_zero, List.set_cons_succ]
                refine wpAnyH_done (by kernel_rfl) ?_ _
                clear hHeld
                go_wp2_with fail
                refine bodyPost_ret (v := .tuple #[.agg #[.int .i64 e, .int .i64 f, .slice ra rn rc, .slice (some ⟨bf, of, none⟩) fn fc, .slice ca cn cc], .int .i64 fm, .int .i64 x]) (by simp [results, Tryz.results5, go_sem, r0, r1, r2, r3, r4, hRl]) rfl ?_
                exact ⟨⟨e, f, ra, rn, rc, zs, (some ⟨bf, of, none⟩), fn, fc, fs, ca, cn, cc, cs⟩, fm, x, rfl, hfm.1, hfm.2, K8.out.rc, K8.out.le, (K8.out.fin (grown5 _ _ _ _ _ _ _)).1, HB1.out _ ((K8.out.fin (grown5 _ _ _ _ _ _ _)).2)⟩
              · go_simp
                refine hK.out _ _ hS (fun hHeld => ?_)
                clear hK K
                try simp only [Act.put, List.getElem_toArray, List.getElem_cons_succ, List.getElem_cons_zero, List.setIfInBounds_toArray, List.set_cons_zero, List.set_cons_succ]
                refine wpAnyH_ready (rs := [10]) (by kernel_rfl) (by simp) ?_
                refine AllReadyH.cons rfl (fun K hK => ?_) AllReadyH.nil
                go_simp
                refine hK.out _ _ hS (fun hHeld => ?_)
                clear hK K
                try simp only [Act.put, List.getElem_toArray, List.getElem_cons_succ, List.getElem_cons_zero, List.setIfInBounds_toArray, List.set_cons_zero, List.set_cons_succ]
                refine wpAnyH_ready (rs := [13]) (by kernel_rfl) (by simp) ?_
                refine AllReadyH.cons rfl (fun K hK => ?_) AllReadyH.nil
                go_simp
                refine hK.out _ _ hS (fun hHeld => ?_)
                clear hK K
                try simp only [Act.put, List.getElem_toArray, List.getElem_cons_succ, List.getElem_cons_zero, List.setIfInBounds_toArray, List.set_cons_zero, List.set_cons_succ]
                refine wpAnyH_done (by kernel_rfl) ?_ _
                clear hHeld
                go_wp2_with fail
                refine bodyPost_ret (v := .tuple #[.agg #[.int .i64 e, .int .i64 f, .slice ra rn rc, .slice (some ⟨bf, of, none⟩) fn fc, .slice ca cn cc], .int .i64 fm, .int .i64 x]) (by simp [results, Tryz.results5, go_sem, r0, r1, r2, r3, r4, hRl]) rfl ?_
                exact ⟨⟨e, f, ra, rn, rc, zs, (some ⟨bf, of, none⟩), fn, fc, fs, ca, cn, cc, cs⟩, fm, x, rfl, hfm.1, hfm.2, K8.out.rc, K8.out.le, (K8.out.fin (grown5 _ _ _ _ _ _ _)).1, HB1.out _ ((K8.out.fin (grown5 _ _ _ _ _ _ _)).2)⟩
          · have hl0' : ¬ (0 : Int) < (ls.length : Int) := by omega
            clear hrow hnb hDh
            have qB := box_of_heap K5.out.qb
            have q0 := qB.1 0 _ rfl
            have q1 := qB.1 1 _ rfl
            have q2 := qB.1 2 _ rfl
            have q3 := qB.1 3 _ rfl
            have q4 := qB.1 4 _ rfl
            have hQl := (Array.getElem?_eq_some_iff.1 K5.out.qb).1
            clear qB
            go_upto_region 8 with fail
            refine wp_region_held_drew (S := fun W' => (W').cell? ⟨Q, 0, none⟩ = some (.int .i64 e) ∧ (W').cell? ⟨Q, 1, none⟩ = some (.int .i64 f) ∧ (W').cell? ⟨Q, 2, none⟩ = some (.slice ra rn rc) ∧ (W').cell? ⟨Q, 3, none⟩ = some (.slice (some ⟨bf, of, none⟩) fn fc) ∧ (W').cell? ⟨Q, 4, none⟩ = some (.slice ca cn cc)) (by kernel_rfl) (⟨q0, q1, q2, q3, q4⟩) (fun hHeld => ?_)
            refine wpAnyH_take (i := 0) (v := ?_) rfl (by kernel_rfl) (by kernel_rfl) (by kernel_rfl) (fun _ _ _ h => h) (Or.inl ⟨by kernel_rfl, ?_⟩) (by assumption) ?_
            rotate_left 1
            · intro w hSw; (try dsimp only at hSw); go_simp; try (with_reducible rfl)
            try simp only [Act.put, List.getElem_toArray, List.getElem_cons_succ, List.getElem_cons_zero, List.setIfInBounds_toArray, List.set_cons_zero, List.set_cons_succ]
            refine wpAnyH_take (i := 1) (v := ?_) rfl (by kernel_rfl) (by kernel_rfl) (by kernel_rfl) (fun _ _ _ h => h) (Or.inl ⟨by kernel_rfl, ?_⟩) (by assumption) ?_
            rotate_left 1
            · intro w hSw; (try dsimp only at hSw); go_simp; try (with_reducible rfl)
            try simp only [Act.put, List.getElem_toArray, List.getElem_cons_succ, List.getElem_cons_zero, List.setIfInBounds_toArray, List.set_cons_zero, List.set_cons_succ]
            refine wpAnyH_take (i := 2) (v := ?_) rfl (by kernel_rfl) (by kernel_rfl) (by kernel_rfl) (fun _ _ _ h => h) (Or.inl ⟨by kernel_rfl, ?_⟩) (by assumption) ?_
            rotate_left 1
            · intro w hSw; (try dsimp only at hSw); go_simp; try (with_reducible rfl)
            try simp only [Act.put, List.getElem_toArray, List.getElem_cons_succ, List.getElem_cons_zero, List.setIfInBounds_toArray, List.set_cons_zero, List.set_cons_succ]
            refine wpAnyH_ready (rs := [3]) (by kernel_rfl) (by simp) ?_
            refine AllReadyH.cons rfl (fun K hK => ?_) AllReadyH.nil
            go_simp
            refine (bent_c _ B a len cap (kk + 1 + 1) ys (K5.out.ds.src.below (Below.refl _ _).drew) hl (by omega)).mono ?_
            rintro d w8 ⟨x, rfl, hS8, hG8⟩
            have K8 := hidQ (K5.out.draw hB hS8 (gr_drew hG8))
            have rB := box_of_heap K8.out.rb
            have r0 := rB.1 0 _ rfl
            have r1 := rB.1 1 _ rfl
            have r2 := rB.1 2 _ rfl
            have r3 := rB.1 3 _ rfl
            have r4 := rB.1 4 _ rfl
            have m0 := rB.2 0
            have m1 := rB.2 1
            have m2 := rB.2 2
            have m3 := rB.2 3
            have m4 := rB.2 4
            have hRl := (Array.getElem?_eq_some_iff.1 K8.out.rb).1
            have qB := box_of_heap K8.out.qb
            have s0 := qB.1 0 _ rfl
            have s1 := qB.1 1 _ rfl
            have s2 := qB.1 2 _ rfl
            have s3 := qB.1 3 _ rfl
            have s4 := qB.1 4 _ rfl
            have HQR := hidQ (show Q ≠ R from by have := K8.out.ne; omega)
            clear hS8 hG8 rB qB
            have hS : (w8).cell? ⟨Q, 0, none⟩ = some (.int .i64 e) ∧ (w8).cell? ⟨Q, 1, none⟩ = some (.int .i64 f) ∧ (w8).cell? ⟨Q, 2, none⟩ = some (.slice ra rn rc) ∧ (w8).cell? ⟨Q, 3, none⟩ = some (.slice (some ⟨bf, of, none⟩) fn fc) ∧ (w8).cell? ⟨Q, 4, none⟩ = some (.slice ca cn cc) := ⟨s0, s1, s2, s3, s4⟩
            refine hK.out _ _ hS (fun hHeld => ?_)
            clear hK K
            try simp only [Act.put, List.getElem_toArray, List.getElem_cons_succ, List.getElem_cons_zero, List.setIfInBounds_toArray, List.set_cons_zero, List.set_cons_succ]
            refine wpAnyH_ready (rs := [4]) (by kernel_rfl) (by simp) ?_
            refine AllReadyH.cons rfl (fun K hK => ?_) AllReadyH.nil
            go_simp
            have hS : ((((((w8.setCell ⟨R, 0, none⟩ (.int .i64 e)).setCell ⟨R, 1, none⟩ (.int .i64 f)).setCell ⟨R, 2, none⟩ (.slice ra rn rc)).setCell ⟨R, 3, none⟩ (.slice (some ⟨bf, of, none⟩) fn fc)).setCell ⟨R, 4, none⟩ (.slice ca cn cc))).cell? ⟨Q, 0, none⟩ = some (.int .i64 e) ∧ ((((((w8.setCell ⟨R, 0, none⟩ (.int .i64 e)).setCell ⟨R, 1, none⟩ (.int .i64 f)).setCell ⟨R, 2, none⟩ (.slice ra rn rc)).setCell ⟨R, 3, none⟩ (.slice (some ⟨bf, of, none⟩) fn fc)).setCell ⟨R, 4, none⟩ (.slice ca cn cc))).cell? ⟨Q, 1, none⟩ = some (.int .i64 f) ∧ ((((((w8.setCell ⟨R, 0, none⟩ (.int .i64 e)).setCell ⟨R, 1, none⟩ (.int .i64 f)).setCell ⟨R, 2, none⟩ (.slice ra rn rc)).setCell ⟨R, 3, none⟩ (.slice (some ⟨bf, of, none⟩) fn fc)).setCell ⟨R, 4, none⟩ (.slice ca cn cc))).cell? ⟨Q, 2, none⟩ = some (.slice ra rn rc) ∧ ((((((w8.setCell ⟨R, 0, none⟩ (.int .i64 e)).setCell ⟨R, 1, none⟩ (.int .i64 f)).setCell ⟨R, 2, none⟩ (.slice ra rn rc)).setCell ⟨R, 3, none⟩ (.slice (some ⟨bf, of, none⟩) fn fc)).setCell ⟨R, 4, none⟩ (.slice ca cn cc))).cell? ⟨Q, 3, none⟩ = some (.slice (some ⟨bf, of, none⟩) fn fc) ∧ ((((((w8.setCell ⟨R, 0, none⟩ (.int .i64 e)).setCell ⟨R, 1, none⟩ (.int .i64 f)).setCell ⟨R, 2, none⟩ (.slice ra rn rc)).setCell ⟨R, 3, none⟩ (.slice (some ⟨bf, of, none⟩) fn fc)).setCell ⟨R, 4, none⟩ (.slice ca cn cc))).cell? ⟨Q, 4, none⟩ = some (.slice ca cn cc) := ⟨(grown5 w8 R _ _ _ _ _).cell s0 (fun q => by cases q; exact HQR.out rfl), (grown5 w8 R _ _ _ _ _).cell s1 (fun q => by cases q; exact HQR.out rfl), (grown5 w8 R _ _ _ _ _).cell s2 (fun q => by cases q; exact HQR.out rfl), (grown5 w8 R _ _ _ _ _).cell s3 (fun q => by cases q; exact HQR.out rfl), (grown5 w8 R _ _ _ _ _).cell s4 (fun q => by cases q; exact HQR.out rfl)⟩
            refine hK.out _ _ hS (fun hHeld => ?_)
            clear hK K
            try simp only [Act.put, List.getElem_toArray, List.getElem_cons_succ, List.getElem_cons_zero, List.setIfInBounds_toArray, List.set_cons_zero, List.set_cons_succ]
            refine wpAnyH_ready (rs := [5]) (by kernel_rfl) (by simp) ?_
            refine AllReadyH.cons rfl (fun K hK => ?_) AllReadyH.nil
            go_simp
            refine hK.out _ _ hS (fun hHeld => ?_)
            clear hK K
            try simp only [Act.put, List.getElem_toArray, List.getElem_cons_succ, List.getElem_cons_zero, List.setIfInBounds_toArray, List.set_cons_zero, List.set_cons_succ]
            refine wpAnyH_ready (rs := [6]) (by kernel_rfl) (by simp) ?_
            refine AllReadyH.cons rfl (fun K hK => ?_) AllReadyH.nil
            go_simp
            refine hK.out _ _ hS (fun hHeld => ?_)
            clear hK K
            try simp only [Act.put, List.getElem_toArray, List.getElem_cons_succ, List.getElem_cons_zero, List.setIfInBounds_toArray, List.set_cons_zero, List.set_cons_succ]
            refine wpAnyH_done (by kernel_rfl) ?_ _
            clear hHeld
            go_wp2_with fail
            refine bodyPost_ret (v := .tuple #[.agg #[.int .i64 e, .int .i64 f, .slice ra rn rc, .slice (some ⟨bf, of, none⟩) fn fc, .slice ca cn cc], .int .i64 fm, .int .i64 x]) (by simp [results, Tryz.results5, go_sem, r0, r1, r2, r3, r4, hRl]) rfl ?_
            exact ⟨⟨e, f, ra, rn, rc, zs, (some ⟨bf, of, none⟩), fn, fc, fs, ca, cn, cc, cs⟩, fm, x, rfl, hfm.1, hfm.2, K8.out.rc, K8.out.le, (K8.out.fin (grown5 _ _ _ _ _ _ _)).1, HB1.out _ ((K8.out.fin (grown5 _ _ _ _ _ _ _)).2)⟩
      · clear hlen
        have qB := box_of_heap KA3.out.qb
        have q0 := qB.1 0 _ rfl
        have q1 := qB.1 1 _ rfl
        have q2 := qB.1 2 _ rfl
        have q3 := qB.1 3 _ rfl
        have q4 := qB.1 4 _ rfl
        have hQl := (Array.getElem?_eq_some_iff.1 KA3.out.qb).1
        clear qB
        go_upto_region 8 with fail
        refine wp_region_held_drew (S := fun W' => (W').cell? ⟨Q, 0, none⟩ = some (.int .i64 e) ∧ (W').cell? ⟨Q, 1, none⟩ = some (.int .i64 f) ∧ (W').cell? ⟨Q, 2, none⟩ = some (.slice ra rn rc) ∧ (W').cell? ⟨Q, 3, none⟩ = some (.slice fa fn fc) ∧ (W').cell? ⟨Q, 4, none⟩ = some (.slice ca cn cc)) (by kernel_rfl) (⟨q0, q1, q2, q3, q4⟩) (fun hHeld => ?_)
        refine wpAnyH_take (i := 0) (v := ?_) rfl (by kernel_rfl) (by kernel_rfl) (by kernel_rfl) (fun _ _ _ h => h) (Or.inl ⟨by kernel_rfl, ?_⟩) (by assumption) ?_
        rotate_left 1
        · intro w hSw; (try dsimp only at hSw); go_simp; try (with_reducible rfl)
        try simp only [Act.put, List.getElem_toArray, List.getElem_cons_succ, List.getElem_cons_zero, List.setIfInBounds_toArray, List.set_cons_zero, List.set_cons_succ]
        refine wpAnyH_take (i := 1) (v := ?_) rfl (by kernel_rfl) (by kernel_rfl) (by kernel_rfl) (fun _ _ _ h => h) (Or.inl ⟨by kernel_rfl, ?_⟩) (by assumption) ?_
        rotate_left 1
        · intro w hSw; (try dsimp only at hSw); go_simp; try (with_reducible rfl)
        try simp only [Act.put, List.getElem_toArray, List.getElem_cons_succ, List.getElem_cons_zero, List.setIfInBounds_toArray, List.set_cons_zero, List.set_cons_succ]
        refine wpAnyH_take (i := 2) (v := ?_) rfl (by kernel_rfl) (by kernel_rfl) (by kernel_rfl) (fun _ _ _ h => h) (Or.inl ⟨by kernel_rfl, ?_⟩) (by assumption) ?_
        rotate_left 1
        · intro w hSw; (try dsimp only at hSw); go_simp; try (with_reducible rfl)
        try simp only [Act.put, List.getElem_toArray, List.getElem_cons_succ, List.getElem_cons_zero, List.setIfInBounds_toArray, List.set_cons_zero, List.set_cons_succ]
        refine wpAnyH_ready (rs := [3]) (by kernel_rfl) (by simp) ?_
        refine AllReadyH.cons rfl (fun K hK => ?_) AllReadyH.nil
        go_simp
        refine (bent_c _ B a len cap (kk + 1 + 1) ys (KA3.out.ds.src.below (Below.refl _ _).drew) hl (by omega)).mono ?_
        rintro d w8 ⟨x, rfl, hS8, hG8⟩
        have K8 := hidQ (KA3.out.draw hB hS8 (gr_drew hG8))
        have rB := box_of_heap K8.out.rb
        have r0 := rB.1 0 _ rfl
        have r1 := rB.1 1 _ rfl
        have r2 := rB.1 2 _ rfl
        have r3 := rB.1 3 _ rfl
        have r4 := rB.1 4 _ rfl
        have m0 := rB.2 0
        have m1 := rB.2 1
        have m2 := rB.2 2
        have m3 := rB.2 3
        have m4 := rB.2 4
        have hRl := (Array.getElem?_eq_some_iff.1 K8.out.rb).1
        have qB := box_of_heap K8.out.qb
        have s0 := qB.1 0 _ rfl
        have s1 := qB.1 1 _ rfl
        have s2 := qB.1 2 _ rfl
        have s3 := qB.1 3 _ rfl
        have s4 := qB.1 4 _ rfl
        have HQR := hidQ (show Q ≠ R from by have := K8.out.ne; omega)
        clear hS8 hG8 rB qB
        have hS : (w8).cell? ⟨Q, 0, none⟩ = some (.int .i64 e) ∧ (w8).cell? ⟨Q, 1, none⟩ = some (.int .i64 f) ∧ (w8).cell? ⟨Q, 2, none⟩ = some (.slice ra rn rc) ∧ (w8).cell? ⟨Q, 3, none⟩ = some (.slice fa fn fc) ∧ (w8).cell? ⟨Q, 4, none⟩ = some (.slice ca cn cc) := ⟨s0, s1, s2, s3, s4⟩
        refine hK.out _ _ hS (fun hHeld => ?_)
        clear hK K
        try simp only [Act.put, List.getElem_toArray, List.getElem_cons_succ, List.getElem_cons_zero, List.setIfInBounds_toArray, List.set_cons_zero, List.set_cons_succ]
        refine wpAnyH_ready (rs := [4]) (by kernel_rfl) (by simp) ?_
        refine AllReadyH.cons rfl (fun K hK => ?_) AllReadyH.nil
        go_simp
        have hS : ((((((w8.setCell ⟨R, 0, none⟩ (.int .i64 e)).setCell ⟨R, 1, none⟩ (.int .i64 f)).setCell ⟨R, 2, none⟩ (.slice ra rn rc)).setCell ⟨R, 3, none⟩ (.slice fa fn fc)).setCell ⟨R, 4, none⟩ (.slice ca cn cc))).cell? ⟨Q, 0, none⟩ = some (.int .i64 e) ∧ ((((((w8.setCell ⟨R, 0, none⟩ (.int .i64 e)).setCell ⟨R, 1, none⟩ (.int .i64 f)).setCell ⟨R, 2, none⟩ (.slice ra rn rc)).setCell ⟨R, 3, none⟩ (.slice fa fn fc)).setCell ⟨R, 4, none⟩ (.slice ca cn cc))).cell? ⟨Q, 1, none⟩ = some (.int .i64 f) ∧ ((((((w8.setCell ⟨R, 0, none⟩ (.int .i64 e)).setCell ⟨R, 1, none⟩ (.int .i64 f)).setCell ⟨R, 2, none⟩ (.slice ra rn rc)).setCell ⟨R, 3, none⟩ (.slice fa fn fc)).setCell ⟨R, 4, none⟩ (.slice ca cn cc))).cell? ⟨Q, 2, none⟩ = some (.slice ra rn rc) ∧ ((((((w8.setCell ⟨R, 0, none⟩ (.int .i64 e)).setCell ⟨R, 1, none⟩ (.int .i64 f)).setCell ⟨R, 2, none⟩ (.slice ra rn rc)).setCell ⟨R, 3, none⟩ (.slice fa fn fc)).setCell ⟨R, 4, none⟩ (.slice ca cn cc))).cell? ⟨Q, 3, none⟩ = some (.slice fa fn fc) ∧ ((((((w8.setCell ⟨R, 0, none⟩ (.int .i64 e)).setCell ⟨R, 1, none⟩ (.int .i64 f)).setCell ⟨R, 2, none⟩ (.slice ra rn rc)).setCell ⟨R, 3, none⟩ (.slice fa fn fc)).setCell ⟨R, 4, none⟩ (.slice ca cn cc))).cell? ⟨Q, 4, none⟩ = some (.slice ca cn cc) := ⟨(grown5 w8 R _ _ _ _ _).cell s0 (fun q => by cases q; exact HQR.out rfl), (grown5 w8 R _ _ _ _ _).cell s1 (fun q => by cases q; exact HQR.out rfl), (grown5 w8 R _ _ _ _ _).cell s2 (fun q => by cases q; exact HQR.out rfl), (grown5 w8 R _ _ _ _ _).cell s3 (fun q => by cases q; exact HQR.out rfl), (grown5 w8 R _ _ _ _ _).cell s4 (fun q => by cases q; exact HQR.out rfl)⟩
        refine hK.out _ _ hS (fun hHeld => ?_)
        clear hK K
        try simp only [Act.put, List.getElem_toArray, List.getElem_cons_succ, List.getElem_cons_zero, List.setIfInBounds_toArray, List.set_cons_zero, List.set_cons_succ]
        refine wpAnyH_ready (rs := [5]) (by kernel_rfl) (by simp) ?_
        refine AllReadyH.cons rfl (fun K hK => ?_) AllReadyH.nil
        go_simp
        refine hK.out _ _ hS (fun hHeld => ?_)
        clear hK K
        try simp only [Act.put, List.getElem_toArray, List.getElem_cons_succ, List.getElem_cons_zero, List.setIfInBounds_toArray, List.set_cons_zero, List.set_cons_succ]
        refine wpAnyH_ready (rs := [6]) (by kernel_rfl) (by simp) ?_
        refine AllReadyH.cons rfl (fun K hK => ?_) AllReadyH.nil
        go_simp
        refine hK.out _ _ hS (fun hHeld => ?_)
        clear hK K
        try simp only [Act.put, List.getElem_toArray, List.getElem_cons_succ, List.getElem_cons_zero, List.setIfInBounds_toArray, List.set_cons_zero, List.set_cons_succ]
        refine wpAnyH_done (by kernel_rfl) ?_ _
        clear hHeld
        go_wp2_with fail
        refine bodyPost_ret (v := .tuple #[.agg #[.int .i64 e, .int .i64 f, .slice ra rn rc, .slice fa fn fc, .slice ca cn cc], .int .i64 fm, .int .i64 x]) (by simp [results, Tryz.results5, go_sem, r0, r1, r2, r3, r4, hRl]) rfl ?_
        exact ⟨⟨e, f, ra, rn, rc, zs, fa, fn, fc, fs, ca, cn, cc, cs⟩, fm, x, rfl, hfm.1, hfm.2, K8.out.rc, K8.out.le, (K8.out.fin (grown5 _ _ _ _ _ _ _)).1, HB1.out _ ((K8.out.fin (grown5 _ _ _ _ _ _ _)).2)⟩
    · have ffb : decide (fm ≤ (fn : Int)) = false := by simp [hff]
      clear hlen q3 hQl
      have qB := box_of_heap KA2.out.qb
      have q0 := qB.1 0 _ rfl
      have q1 := qB.1 1 _ rfl
      have q2 := qB.1 2 _ rfl
      have q3 := qB.1 3 _ rfl
      have q4 := qB.1 4 _ rfl
      have hQl := (Array.getElem?_eq_some_iff.1 KA2.out.qb).1
      clear qB
      go_upto_region 8 with fail
      refine wp_region_held_drew (S := fun W' => (W').cell? ⟨Q, 0, none⟩ = some (.int .i64 e) ∧ (W').cell? ⟨Q, 1, none⟩ = some (.int .i64 f) ∧ (W').cell? ⟨Q, 2, none⟩ = some (.slice ra rn rc) ∧ (W').cell? ⟨Q, 3, none⟩ = some (.slice fa fn fc) ∧ (W').cell? ⟨Q, 4, none⟩ = some (.slice ca cn cc)) (by kernel_rfl) (⟨q0, q1, q2, q3, q4⟩) (fun hHeld => ?_)
      refine wpAnyH_take (i := 0) (v := ?_) rfl (by kernel_rfl) (by kernel_rfl) (by kernel_rfl) (fun _ _ _ h => h) (Or.inl ⟨by kernel_rfl, ?_⟩) (by assumption) ?_
      rotate_left 1
      · intro w hSw; (try dsimp only at hSw); go_simp; try (with_reducible rfl)
      try simp only [Act.put, List.getElem_toArray, List.getElem_cons_succ, List.getElem_cons_zero, List.setIfInBounds_toArray, List.set_cons_zero, List.set_cons_succ]
      refine wpAnyH_take (i := 1) (v := ?_) rfl (by kernel_rfl) (by kernel_rfl) (by kernel_rfl) (fun _ _ _ h => h) (Or.inl ⟨by kernel_rfl, ?_⟩) (by assumption) ?_
      rotate_left 1
      · intro w hSw; (try dsimp only at hSw); go_simp; try (with_reducible rfl)
      try simp only [Act.put, List.getElem_toArray, List.getElem_cons_succ, List.getElem_cons_zero, List.setIfInBounds_toArray, List.set_cons_zero, List.set_cons_succ]
      refine wpAnyH_take (i := 2) (v := ?_) rfl (by kernel_rfl) (by kernel_rfl) (by kernel_rfl) (fun _ _ _ h => h) (Or.inl ⟨by kernel_rfl, ?_⟩) (by assumption) ?_
      rotate_left 1
      · intro w hSw; (try dsimp only at hSw); go_simp; try (with_reducible rfl)
      try simp only [Act.put, List.getElem_toArray, List.getElem_cons_succ, List.getElem_cons_zero, List.setIfInBounds_toArray, List.set_cons_zero, List.set_cons_succ]
      refine wpAnyH_ready (rs := [3]) (by kernel_rfl) (by simp) ?_
      refine AllReadyH.cons rfl (fun K hK => ?_) AllReadyH.nil
      go_simp
      refine (bent_c _ B a len cap (kk + 1) ys (KA2.out.ds.src.below (Below.refl _ _).drew) hl (by omega)).mono ?_
      rintro d w8 ⟨x, rfl, hS8, hG8⟩
      have K8 := hidQ (KA2.out.draw hB hS8 (gr_drew hG8))
      have rB := box_of_heap K8.out.rb
      have r0 := rB.1 0 _ rfl
      have r1 := rB.1 1 _ rfl
      have r2 := rB.1 2 _ rfl
      have r3 := rB.1 3 _ rfl
      have r4 := rB.1 4 _ rfl
      have m0 := rB.2 0
      have m1 := rB.2 1
      have m2 := rB.2 2
      have m3 := rB.2 3
      have m4 := rB.2 4
      have hRl := (Array.getElem?_eq_some_iff.1 K8.out.rb).1
      have qB := box_of_heap K8.out.qb
      have s0 := qB.1 0 _ rfl
      have s1 := qB.1 1 _ rfl
      have s2 := qB.1 2 _ rfl
      have s3 := qB.1 3 _ rfl
      have s4 := qB.1 4 _ rfl
      have HQR := hidQ (show Q ≠ R from by have := K8.out.ne; omega)
      clear hS8 hG8 rB qB
      have hS : (w8).cell? ⟨Q, 0, none⟩ = some (.int .i64 e) ∧ (w8).cell? ⟨Q, 1, none⟩ = some (.int .i64 f) ∧ (w8).cell? ⟨Q, 2, none⟩ = some (.slice ra rn rc) ∧ (w8).cell? ⟨Q, 3, none⟩ = some (.slice fa fn fc) ∧ (w8).cell? ⟨Q, 4, none⟩ = some (.slice ca cn cc) := ⟨s0, s1, s2, s3, s4⟩
      refine hK.out _ _ hS (fun hHeld => ?_)
      clear hK K
      try simp only [Act.put, List.getElem_toArray, List.getElem_cons_succ, List.getElem_cons_zero, List.setIfInBounds_toArray, List.set_cons_zero, List.set_cons_succ]
      refine wpAnyH_ready (rs := [4]) (by kernel_rfl) (by simp) ?_
      refine AllReadyH.cons rfl (fun K hK => ?_) AllReadyH.nil
      go_simp
      have hS : ((((((w8.setCell ⟨R, 0, none⟩ (.int .i64 e)).setCell ⟨R, 1, none⟩ (.int .i64 f)).setCell ⟨R, 2, none⟩ (.slice ra rn rc)).setCell ⟨R, 3, none⟩ (.slice fa fn fc)).setCell ⟨R, 4, none⟩ (.slice ca cn cc))).cell? ⟨Q, 0, none⟩ = some (.int .i64 e) ∧ ((((((w8.setCell ⟨R, 0, none⟩ (.int .i64 e)).setCell ⟨R, 1, none⟩ (.int .i64 f)).setCell ⟨R, 2, none⟩ (.slice ra rn rc)).setCell ⟨R, 3, none⟩ (.slice fa fn fc)).setCell ⟨R, 4, none⟩ (.slice ca cn cc))).cell? ⟨Q, 1, none⟩ = some (.int .i64 f) ∧ ((((((w8.setCell ⟨R, 0, none⟩ (.int .i64 e)).setCell ⟨R, 1, none⟩ (.int .i64 f)).setCell ⟨R, 2, none⟩ (.slice ra rn rc)).setCell ⟨R, 3, none⟩ (.slice fa fn fc)).setCell ⟨R, 4, none⟩ (.slice ca cn cc))).cell? ⟨Q, 2, none⟩ = some (.slice ra rn rc) ∧ ((((((w8.setCell ⟨R, 0, none⟩ (.int .i64 e)).setCell ⟨R, 1, none⟩ (.int .i64 f)).setCell ⟨R, 2, none⟩ (.slice ra rn rc)).setCell ⟨R, 3, none⟩ (.slice fa fn fc)).setCell ⟨R, 4, none⟩ (.slice ca cn cc))).cell? ⟨Q, 3, none⟩ = some (.slice fa fn fc) ∧ ((((((w8.setCell ⟨R, 0, none⟩ (.int .i64 e)).setCell ⟨R, 1, none⟩ (.int .i64 f)).setCell ⟨R, 2, none⟩ (.slice ra rn rc)).setCell ⟨R, 3, none⟩ (.slice fa fn fc)).setCell ⟨R, 4, none⟩ (.slice ca cn cc))).cell? ⟨Q, 4, none⟩ = some (.slice ca cn cc) := ⟨(grown5 w8 R _ _ _ _ _).cell s0 (fun q => by cases q; exact HQR.out rfl), (grown5 w8 R _ _ _ _ _).cell s1 (fun q => by cases q; exact HQR.out rfl), (grown5 w8 R _ _ _ _ _).cell s2 (fun q => by cases q; exact HQR.out rfl), (grown5 w8 R _ _ _ _ _).cell s3 (fun q => by cases q; exact HQR.out rfl), (grown5 w8 R _ _ _ _ _).cell s4 (fun q => by cases q; exact HQR.out rfl)⟩
      refine hK.out _ _ hS (fun hHeld => ?_)
      clear hK K
      try simp only [Act.put, List.getElem_toArray, List.getElem_cons_succ, List.getElem_cons_zero, List.setIfInBounds_toArray, List.set_cons_zero, List.set_cons_succ]
      refine wpAnyH_ready (rs := [5]) (by kernel_rfl) (by simp) ?_
      refine AllReadyH.cons rfl (fun K hK => ?_) AllReadyH.nil
      go_simp
      refine hK.out _ _ hS (fun hHeld => ?_)
      clear hK K
      try simp only [Act.put, List.getElem_toArray, List.getElem_cons_succ, List.getElem_cons_zero, List.setIfInBounds_toArray, List.set_cons_zero, List.set_cons_succ]
      refine wpAnyH_ready (rs := [6]) (by kernel_rfl) (by simp) ?_
      refine AllReadyH.cons rfl (fun K hK => ?_) AllReadyH.nil
      go_simp
      refine hK.out _ _ hS (fun hHeld => ?_)
      clear hK K
      try simp only [Act.put, List.getElem_toArray, List.getElem_cons_succ, List.getElem_cons_zero, List.setIfInBounds_toArray, List.set_cons_zero, List.set_cons_succ]
      refine wpAnyH_done (by kernel_rfl) ?_ _
      clear hHeld
      go_wp2_with fail
      refine bodyPost_ret (v := .tuple #[.agg #[.int .i64 e, .int .i64 f, .slice ra rn rc, .slice fa fn fc, .slice ca cn cc], .int .i64 fm, .int .i64 x]) (by simp [results, Tryz.results5, go_sem, r0, r1, r2, r3, r4, hRl]) rfl ?_
      exact ⟨⟨e, f, ra, rn, rc, zs, fa, fn, fc, fs, ca, cn, cc, cs⟩, fm, x, rfl, hfm.1, hfm.2, K8.out.rc, K8.out.le, (K8.out.fin (grown5 _ _ _ _ _ _ _)).1, HB1.out _ ((K8.out.fin (grown5 _ _ _ _ _ _ _)).2)⟩
  · have fb : (fk == 0) = false := by simp [hf0]
    clear hlen q3 hQl
    have qB := box_of_heap KA2.out.qb
    have q0 := qB.1 0 _ rfl
    have q1 := qB.1 1 _ rfl
    have q2 := qB.1 2 _ rfl
    have q3 := qB.1 3 _ rfl
    have q4 := qB.1 4 _ rfl
    have hQl := (Array.getElem?_eq_some_iff.1 KA2.out.qb).1
    clear qB
    go_upto_region 8 with fail
    refine wp_region_held_drew (S := fun W' => (W').cell? ⟨Q, 0, none⟩ = some (.int .i64 e) ∧ (W').cell? ⟨Q, 1, none⟩ = some (.int .i64 f) ∧ (W').cell? ⟨Q, 2, none⟩ = some (.slice ra rn rc) ∧ (W').cell? ⟨Q, 3, none⟩ = some (.slice fa fn fc) ∧ (W').cell? ⟨Q, 4, none⟩ = some (.slice ca cn cc)) (by kernel_rfl) (⟨q0, q1, q2, q3, q4⟩) (fun hHeld => ?_)
    refine wpAnyH_take (i := 0) (v := ?_) rfl (by kernel_rfl) (by kernel_rfl) (by kernel_rfl) (fun _ _ _ h => h) (Or.inl ⟨by kernel_rfl, ?_⟩) (by assumption) ?_
    rotate_left 1
    · intro w hSw; (try dsimp only at hSw); go_simp; try (with_reducible rfl)
    try simp only [Act.put, List.getElem_toArray, List.getElem_cons_succ, List.getElem_cons_zero, List.setIfInBounds_toArray, List.set_cons_zero, List.set_cons_succ]
    refine wpAnyH_take (i := 1) (v := ?_) rfl (by kernel_rfl) (by kernel_rfl) (by kernel_rfl) (fun _ _ _ h => h) (Or.inl ⟨by kernel_rfl, ?_⟩) (by assumption) ?_
    rotate_left 1
    · intro w hSw; (try dsimp only at hSw); go_simp; try (with_reducible rfl)
    try simp only [Act.put, List.getElem_toArray, List.getElem_cons_succ, List.getElem_cons_zero, List.setIfInBounds_toArray, List.set_cons_zero, List.set_cons_succ]
    refine wpAnyH_take (i := 2) (v := ?_) rfl (by kernel_rfl) (by kernel_rfl) (by kernel_rfl) (fun _ _ _ h => h) (Or.inl ⟨by kernel_rfl, ?_⟩) (by assumption) ?_
    rotate_left 1
    · intro w hSw; (try dsimp only at hSw); go_simp; try (with_reducible rfl)
    try simp only [Act.put, List.getElem_toArray, List.getElem_cons_succ, List.getElem_cons_zero, List.setIfInBounds_toArray, List.set_cons_zero, List.set_cons_succ]
    refine wpAnyH_ready (rs := [3]) (by kernel_rfl) (by simp) ?_
    refine AllReadyH.cons rfl (fun K hK => ?_) AllReadyH.nil
    go_simp
    refine (bent_c _ B a len cap (kk + 1) ys (KA2.out.ds.src.below (Below.refl _ _).drew) hl (by omega)).mono ?_
    rintro d w8 ⟨x, rfl, hS8, hG8⟩
    have K8 := hidQ (KA2.out.draw hB hS8 (gr_drew hG8))
    have rB := box_of_heap K8.out.rb
    have r0 := rB.1 0 _ rfl
    have r1 := rB.1 1 _ rfl
    have r2 := rB.1 2 _ rfl
    have r3 := rB.1 3 _ rfl
    have r4 := rB.1 4 _ rfl
    have m0 := rB.2 0
    have m1 := rB.2 1
    have m2 := rB.2 2
    have m3 := rB.2 3
    have m4 := rB.2 4
    have hRl := (Array.getElem?_eq_some_iff.1 K8.out.rb).1
    have qB := box_of_heap K8.out.qb
    have s0 := qB.1 0 _ rfl
    have s1 := qB.1 1 _ rfl
    have s2 := qB.1 2 _ rfl
    have s3 := qB.1 3 _ rfl
    have s4 := qB.1 4 _ rfl
    have HQR := hidQ (show Q ≠ R from by have := K8.out.ne; omega)
    clear hS8 hG8 rB qB
    have hS : (w8).cell? ⟨Q, 0, none⟩ = some (.int .i64 e) ∧ (w8).cell? ⟨Q, 1, none⟩ = some (.int .i64 f) ∧ (w8).cell? ⟨Q, 2, none⟩ = some (.slice ra rn rc) ∧ (w8).cell? ⟨Q, 3, none⟩ = some (.slice fa fn fc) ∧ (w8).cell? ⟨Q, 4, none⟩ = some (.slice ca cn cc) := ⟨s0, s1, s2, s3, s4⟩
    refine hK.out _ _ hS (fun hHeld => ?_)
    clear hK K
    try simp only [Act.put, List.getElem_toArray, List.getElem_cons_succ, List.getElem_cons_zero, List.setIfInBounds_toArray, List.set_cons_zero, List.set_cons_succ]
    refine wpAnyH_ready (rs := [4]) (by kernel_rfl) (by simp) ?_
    refine AllReadyH.cons rfl (fun K hK => ?_) AllReadyH.nil
    go_simp
    have hS : ((((((w8.setCell ⟨R, 0, none⟩ (.int .i64 e)).setCell ⟨R, 1, none⟩ (.int .i64 f)).setCell ⟨R, 2, none⟩ (.slice ra rn rc)).setCell ⟨R, 3, none⟩ (.slice fa fn fc)).setCell ⟨R, 4, none⟩ (.slice ca cn cc))).cell? ⟨Q, 0, none⟩ = some (.int .i64 e) ∧ ((((((w8.setCell ⟨R, 0, none⟩ (.int .i64 e)).setCell ⟨R, 1, none⟩ (.int .i64 f)).setCell ⟨R, 2, none⟩ (.slice ra rn rc)).setCell ⟨R, 3, none⟩ (.slice fa fn fc)).setCell ⟨R, 4, none⟩ (.slice ca cn cc))).cell? ⟨Q, 1, none⟩ = some (.int .i64 f) ∧ ((((((w8.setCell ⟨R, 0, none⟩ (.int .i64 e)).setCell ⟨R, 1, none⟩ (.int .i64 f)).setCell ⟨R, 2, none⟩ (.slice ra rn rc)).setCell ⟨R, 3, none⟩ (.slice fa fn fc)).setCell ⟨R, 4, none⟩ (.slice ca cn cc))).cell? ⟨Q, 2, none⟩ = some (.slice ra rn rc) ∧ ((((((w8.setCell ⟨R, 0, none⟩ (.int .i64 e)).setCell ⟨R, 1, none⟩ (.int .i64 f)).setCell ⟨R, 2, none⟩ (.slice ra rn rc)).setCell ⟨R, 3, none⟩ (.slice fa fn fc)).setCell ⟨R, 4, none⟩ (.slice ca cn cc))).cell? ⟨Q, 3, none⟩ = some (.slice fa fn fc) ∧ ((((((w8.setCell ⟨R, 0, none⟩ (.int .i64 e)).setCell ⟨R, 1, none⟩ (.int .i64 f)).setCell ⟨R, 2, none⟩ (.slice ra rn rc)).setCell ⟨R, 3, none⟩ (.slice fa fn fc)).setCell ⟨R, 4, none⟩ (.slice ca cn cc))).cell? ⟨Q, 4, none⟩ = some (.slice ca cn cc) := ⟨(grown5 w8 R _ _ _ _ _).cell s0 (fun q => by cases q; exact HQR.out rfl), (grown5 w8 R _ _ _ _ _).cell s1 (fun q => by cases q; exact HQR.out rfl), (grown5 w8 R _ _ _ _ _).cell s2 (fun q => by cases q; exact HQR.out rfl), (grown5 w8 R _ _ _ _ _).cell s3 (fun q => by cases q; exact HQR.out rfl), (grown5 w8 R _ _ _ _ _).cell s4 (fun q => by cases q; exact HQR.out rfl)⟩
    refine hK.out _ _ hS (fun hHeld => ?_)
    clear hK K
    try simp only [Act.put, List.getElem_toArray, List.getElem_cons_succ, List.getElem_cons_zero, List.setIfInBounds_toArray, List.set_cons_zero, List.set_cons_succ]
    refine wpAnyH_ready (rs := [5]) (by kernel_rfl) (by simp) ?_
    refine AllReadyH.cons rfl (fun K hK => ?_) AllReadyH.nil
    go_simp
    refine hK.out _ _ hS (fun hHeld => ?_)
    clear hK K
    try simp only [Act.put, List.getElem_toArray, List.getElem_cons_succ, List.getElem_cons_zero, List.setIfInBounds_toArray, List.set_cons_zero, List.set_cons_succ]
    refine wpAnyH_ready (rs := [6]) (by kernel_rfl) (by simp) ?_
    refine AllReadyH.cons rfl (fun K hK => ?_) AllReadyH.nil
    go_simp
    refine hK.out _ _ hS (fun hHeld => ?_)
    clear hK K
    try simp only [Act.put, List.getElem_toArray, List.getElem_cons_succ, List.getElem_cons_zero, List.setIfInBounds_toArray, List.set_cons_zero, List.set_cons_succ]
    refine wpAnyH_done (by kernel_rfl) ?_ _
    clear hHeld
    go_wp2_with fail
    refine bodyPost_ret (v := .tuple #[.agg #[.int .i64 e, .int .i64 f, .slice ra rn rc, .slice fa fn fc, .slice ca cn cc], .int .i64 fm, .int .i64 x]) (by simp [results, Tryz.results5, go_sem, r0, r1, r2, r3, r4, hRl]) rfl ?_
    exact ⟨⟨e, f, ra, rn, rc, zs, fa, fn, fc, fs, ca, cn, cc, cs⟩, fm, x, rfl, hfm.1, hfm.2, K8.out.rc, K8.out.le, (K8.out.fin (grown5 _ _ _ _ _ _ _)).1, HB1.out _ ((K8.out.fin (grown5 _ _ _ _ _ _ _)).2)⟩

end Go.Proofs.YtaeigimgobilaaaGreatDoor
