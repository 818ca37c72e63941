/-
  CONTRACT: spec.DrawStepGrants.
  Conditions: each contract bears its own.
  CONTRACT: spec.DrawWidens: two slices of rules.
  Conditions: each contract bears its own.
  CONTRACTS on grants in results: read, marked, held against their marks, compared.
  Conditions: each contract bears its own.
  CONTRACTS: spec.l3Same, and spec.l3All, all that follows from the rules.
  Conditions: each contract bears its own.
-/
import Derived.Test.YtdooocjjohdpjaaPg08
import Derived.Test.YtdooocjjohdpjaaPg05
namespace Go.Proofs.Ytdooocjjohdpjaa
open Go.RowKit
set_option linter.unusedVariables false
set_option linter.unusedSimpArgs false

theorem own8_cap {w : World} {B g n cap : Nat} {zs : List RuleI} (hn : zs.length = n) (h : Own8 w B (.slice (some ⟨g, 0, none⟩) n cap) zs) : n ≤ cap ∧ cap ≤ maxLen := by
  have h0 : w.ownsRow B 100 8 (.slice (some ⟨g, 0, none⟩) n cap) zs.length (flatR zs) := h
  rcases h0.2 with ⟨h', _⟩ | ⟨g', cap', cur, h', hb, hg, hc, hm, _⟩
  · simp at h'
  · simp at h'
    obtain ⟨_, _, rfl⟩ := h'
    exact ⟨by omega, hm⟩

set_option maxRecDepth 100000 in
set_option maxHeartbeats 1000000 in
theorem drawStep_c (a : Option Addr) (len cap : Nat) (ys : List Int) (w : World) (hc : CodeIn w a len ys) (hl : len ≤ 1048576) :
    Calls Try.prog 12 #[.slice a len cap] w fun e w' => ∃ (g n c g' n' c' : Nat) (zs : List RuleI) (gs : List GrI), e = .returned (.tuple #[.slice (some ⟨g, 0, none⟩) n c, .slice (some ⟨g', 0, none⟩) n' c']) ∧ (n ≤ 17 ∧ n ≤ c ∧ c ≤ maxLen) ∧ n' ≤ 41 ∧ RulesIn w' (some ⟨g, 0, none⟩) n zs ∧ GrIn w' (some ⟨g', 0, none⟩) n' gs ∧ w.heap.size ≤ g ∧ w.heap.size ≤ g' ∧ Below w.heap.size w w' := by
  have hcl : ∀ b off, a = some ⟨b, off, none⟩ → len = 0 ∨ b < w.heap.size := by
    intro b off e
    by_cases h0 : len = 0
    · exact .inl h0
    · obtain ⟨b', off', e', h1, _⟩ := hc 0 (by omega)
      rw [e] at e'
      cases e'
      exact .inr (World.block_lt_of_cell? w _ h1)
  obtain ⟨W, hW⟩ : ∃ W, w.alloc (.cells #[.slice a len cap, .int .i64 0] 137) = W := ⟨_, rfl⟩
  have hBW : Below w.heap.size w W := by rw [← hW]; exact (Below.refl _ _).alloc (Nat.le_refl _) _
  have hWs : W.heap.size = w.heap.size + 1 := by rw [← hW]; simp
  have HS0 : Hid (SrcAt W w.heap.size a len cap 0 ys) := ⟨by rw [← hW]; exact heap_alloc_new w _, hc.kept (row := none) ⟨hBW.os, hBW.tape, hBW.output, hBW.size, fun k hk _ => hBW.block k hk⟩ (fun _ _ _ => .inr (by simp)), fun b off e => (hcl b off e).imp id (fun q => by omega)⟩
  have HBW : Hid (Below w.heap.size w W ∧ W.heap.size = w.heap.size + 1) := ⟨hBW, hWs⟩
  clear hc hcl hBW hWs
  go_enter Try.func12, Try.ntmps12
  go_wp2_with fail
  refine (source_c a len cap _).mono ?_
  rintro e w1 ⟨rfl, rfl⟩
  rw [hW]
  clear hW
  go_wp2_with fail
  refine (bent_c W w.heap.size a len cap 0 ys HS0.out hl (by omega)).mono ?_
  rintro e w2 ⟨g, n, c, kk, zs, rfl, hn, hkk, hL⟩
  have HL : Hid (LP W w2 w.heap.size a len cap 0 kk ys g n c zs) := hL
  clear hL HS0
  go_wp2_with fail
  refine (grants_c w2 w.heap.size a len cap kk ys (some ⟨g, 0, none⟩) n c zs HL.out.ds.src hl (by omega) (by omega) (HL.out.ow.read HL.out.ln) (fun b off e => .inr (by cases e; have := HL.out.gw; have := HBW.out.2; omega))).mono ?_
  rintro e w3 ⟨g', n', c', k3, gs, rfl, hn', hk3, hG⟩
  have HG : Hid (LG w2 w3 w.heap.size a len cap k3 ys g' n' c' gs) := hG
  clear hG
  go_wp2_with fail
  refine bodyPost_ret (v := .tuple #[.slice (some ⟨g, 0, none⟩) n c, .slice (some ⟨g', 0, none⟩) n' c']) (by simp [results, Try.results12, go_sem]) rfl ?_
  have hgw := HL.out.gw
  have hgl := HL.out.gl
  have hw2 := HBW.out.2
  have hgg := HG.out.gw
  refine ⟨g, n, c, g', n', c', zs, gs, rfl, ⟨hn, own8_cap HL.out.ln HL.out.ow⟩, hn', rules_gr (HL.out.ow.read HL.out.ln) HG.out.ds.gr (fun b off e => .inr (by cases e; omega)), HG.out.ow.read HG.out.ln, by omega, by omega, ?_⟩
  have h1 := HL.out.ds.gr
  have h2 := HG.out.ds.gr
  exact (HBW.out.1.grown h1 (by omega) (fun q e => by cases e; exact Nat.le_refl _)).grown h2 (by have := h1.size; omega) (fun q e => by cases e; exact Nat.le_refl _)

end Go.Proofs.Ytdooocjjohdpjaa

namespace Go.Proofs.Ytdooocjjohdpjaa
open Go.RowKit
set_option linter.unusedVariables false
set_option linter.unusedSimpArgs false

/-- What is drawn. -/
def DrawnW (w : World) (e : Ending) (w' : World) : Prop := ∃ (g n c : Nat) (b : Addr) (m c' : Nat) (zs ys : List RuleI), e = .returned (.tuple #[.slice (some ⟨g, 0, none⟩) n c, .slice (some b) m c']) ∧ (n ≤ 17 ∧ n ≤ c ∧ c ≤ maxLen) ∧ (m ≤ 18 ∧ m ≤ c' ∧ c' ≤ maxLen) ∧ RulesIn w' (some ⟨g, 0, none⟩) n zs ∧ RulesIn w' (some b) m ys ∧ Below w.heap.size w w'

theorem rules_tail {w : World} {g n : Nat} {zs : List RuleI} (h : RulesIn w (some ⟨g, 0, none⟩) n zs) (hn : 0 < n) : RulesIn w (some ⟨g, 8, none⟩) (n - 1) zs.tail := by
  refine ⟨by rw [List.length_tail, h.1], fun hp => ⟨g, 8, rfl, fun k r hk => ?_⟩⟩
  obtain ⟨b, off, e, hr⟩ := h.2 hn
  cases e
  have hk' : zs[k + 1]? = some r := by rw [List.getElem?_tail] at hk; exact hk
  have := hr (k + 1) r hk'
  rw [show 0 + (k + 1) * 8 = 8 + k * 8 by omega] at this
  exact this

set_option maxRecDepth 100000 in
set_option maxHeartbeats 2000000 in
theorem drawWidens_c (a : Option Addr) (len cap : Nat) (ys : List Int) (w : World) (hc : CodeIn w a len ys) (hl : len ≤ 1048576) :
    Calls Try.prog 20 #[.slice a len cap] w fun e w' => DrawnW w e w' := by
  have hcl : ∀ b off, a = some ⟨b, off, none⟩ → len = 0 ∨ b < w.heap.size := by
    intro b off e
    by_cases h0 : len = 0
    · exact .inl h0
    · obtain ⟨b', off', e', h1, _⟩ := hc 0 (by omega)
      rw [e] at e'
      cases e'
      exact .inr (World.block_lt_of_cell? w _ h1)
  obtain ⟨i0, hi, hz0, hz1, hz2⟩ := info_parts Try.info100
  have hun : Try.prog.underlying 24 = some (.slice 100) := by kernel_rfl
  obtain ⟨W, hW⟩ : ∃ W, w.alloc (.cells #[.slice a len cap, .int .i64 0] 137) = W := ⟨_, rfl⟩
  have hBW : Below w.heap.size w W := by rw [← hW]; exact (Below.refl _ _).alloc (Nat.le_refl _) _
  have hWs : W.heap.size = w.heap.size + 1 := by rw [← hW]; simp
  have HS0 : Hid (SrcAt W w.heap.size a len cap 0 ys) := ⟨by rw [← hW]; exact heap_alloc_new w _, hc.kept (row := none) ⟨hBW.os, hBW.tape, hBW.output, hBW.size, fun k hk _ => hBW.block k hk⟩ (fun _ _ _ => .inr (by simp)), fun b off e => (hcl b off e).imp id (fun q => by omega)⟩
  have HBW : Hid (Below w.heap.size w W ∧ W.heap.size = w.heap.size + 1) := ⟨hBW, hWs⟩
  have hBlt : w.heap.size < W.heap.size := by omega
  clear hc hcl hBW hWs
  go_enter Try.func20, Try.ntmps20
  go_wp2_with fail
  refine (source_c a len cap _).mono ?_
  rintro e w1 ⟨rfl, rfl⟩
  rw [hW]
  clear hW
  go_wp2_with fail
  refine (bent_c W w.heap.size a len cap 0 ys HS0.out hl (by omega)).mono ?_
  rintro e w2 ⟨g, n, c, kk, zs, rfl, hn, hkk, hL⟩
  have HL : Hid (LP W w2 w.heap.size a len cap 0 kk ys g n c zs) := hL
  have hn' : (n : Int) ≤ 17 := by omega
  have hgl := hL.gl
  have hgw := hL.gw
  have HLen : Hid (zs.length = n) := hL.ln
  have HCap : Hid (n ≤ c ∧ c ≤ maxLen) := own8_cap hL.ln hL.ow
  have E0 : Hid ((w2.alloc (.cells #[] 100)).ownsRow w2.heap.size 100 8 (.slice (some ⟨w2.heap.size, 0, none⟩) 0 0) 0 []) := World.ownsRow_lit (base := w2.heap.size) (e := 100) (size := 8) w2 #[] 0 (Nat.le_refl _) (Nat.zero_le _) rfl
  clear hL HS0
  go_wp2_with (first
    | (at_builtin; refine wpList_append_own _ rfl _ _ 24 rfl w2.heap.size 100 i0 (.agg #[.int .i64 0, .int .i64 0, .int .i64 0, .int .i64 0, .int .i64 0, .int .i64 0, .int .i64 0, .int .i64 0]) 8 64 hun hi hz0 hz1 hz2 rfl (by decide) _ 0 [] rfl (?c0) ⟨g, 0, none⟩ n c (flatR zs) rfl (?c1) (?c2) (flatR_cells zs) ?c3 ?c4 ?c5 ?_)
    | fail)
  case c0 => exact E0.out
  case c1 => rw [flatR_len, HLen.out]
  case c2 => intro j u hj; rw [Go.WideShapes.add_plain, Nat.zero_add, World.cell?_alloc_past _ _ _ hgl]; exact HL.out.ow.cells HLen.out j u hj
  case c3 => unfold maxLen; omega
  case c4 => omega
  case c5 => simp
  intro v3 w3 hown3 hgrow3 hnil3
  have hb3 : Below w2.heap.size w2 w3 := ((Below.refl _ _).alloc (Nat.le_refl _) _).grown hgrow3 (by simp) (fun q e => (E0.out.lt q e).1)
  have ho3 : Own8 w3 w2.heap.size v3 zs := by unfold Own8; rw [HLen.out]; first | exact hown3 | (simp only [Nat.zero_add, List.nil_append] at hown3; exact hown3) | simpa using hown3
  obtain ⟨g3, c3, e3⟩ := ho3.shape (by first | exact hnil3 | simpa using hnil3)
  rw [HLen.out] at e3
  subst e3
  have HO3 : Hid (Own8 w3 w2.heap.size (.slice (some ⟨g3, 0, none⟩) n c3) zs) := ho3
  have hg3 : w2.heap.size ≤ g3 ∧ g3 < w3.heap.size := by
    have h0 : w3.ownsRow w2.heap.size 100 8 (.slice (some ⟨g3, 0, none⟩) n c3) zs.length (flatR zs) := ho3
    exact h0.lt g3 (by simp [Value.ownBlock])
  have HL3 : Hid (LP W w3 w.heap.size a len cap 0 kk ys g n c zs) := HL.out.below hb3
  clear hown3 hgrow3 hnil3 hb3 ho3 E0 HL
  go_wp2_with fail
  refine (next_c _ w.heap.size a len cap kk ys 4 HL3.out.ds.src hl (by omega) (by omega) (by omega)).mono ?_
  rintro e w4 ⟨v, v0, v1, rfl, hS4, hG4⟩
  have HL4 : Hid (LP W w4 w.heap.size a len cap 0 (kk + 1) ys g n c zs) := HL3.out.draw hBlt hS4 hG4
  have HO4 : Hid (Own8 w4 w2.heap.size (.slice (some ⟨g3, 0, none⟩) n c3) zs) := HO3.out.grown hG4 (by omega)
  have hz4 : w3.heap.size ≤ w4.heap.size := hG4.size
  clear hS4 hG4 HL3 HO3
  have RA : Hid (RulesIn w4 (some ⟨g, 0, none⟩) n zs) := HL4.out.ow.read HLen.out
  have RB : Hid (RulesIn w4 (some ⟨g3, 0, none⟩) n zs) := HO4.out.read HLen.out
  have CB : Hid (n ≤ c3 ∧ c3 ≤ maxLen) := own8_cap HLen.out HO4.out
  have B4 : Hid (Below w.heap.size w w4) := HBW.out.1.grown HL4.out.ds.gr (by omega) (fun q e => by cases e; exact Nat.le_refl _)
  by_cases e0 : v = 0
  · subst e0
    go_wp2_with fail
    refine (bent_c w4 w.heap.size a len cap (kk + 1) ys HL4.out.ds.src hl (by omega)).mono ?_
    rintro e w5 ⟨g5, n5, c5, k5, zs5, rfl, hn5, hk5, hL5⟩
    have HL5 : Hid (LP w4 w5 w.heap.size a len cap (kk + 1) k5 ys g5 n5 c5 zs5) := hL5
    clear hL5
    go_wp2_with fail
    refine bodyPost_ret (v := .tuple #[.slice (some ⟨g, 0, none⟩) n c, .slice (some ⟨g5, 0, none⟩) n5 c5]) (by simp [results, Try.results20, go_sem]) rfl ?_
    exact ⟨g, n, c, _, n5, c5, zs, zs5, rfl, ⟨hn, HCap.out⟩, ⟨by omega, own8_cap HL5.out.ln HL5.out.ow⟩, rules_gr RA.out HL5.out.ds.gr (fun b off e => .inr (by cases e; omega)), HL5.out.ow.read HL5.out.ln, B4.out.grown HL5.out.ds.gr B4.out.size (fun q e => by cases e; exact Nat.le_refl _)⟩
  · have b0 : (v == 0) = false := by simpa using e0
    by_cases e1 : v = 1
    · subst e1
      clear b0 e0
      by_cases hn0 : 0 < n
      · have hn0' : (0 : Int) < (n : Int) := by omega
        have hn1' : (1 : Int) ≤ (n : Int) := by omega
        have hc3' : (1 : Int) ≤ (c3 : Int) := by have := CB.out.1; omega
        have hnc3' : (n : Int) ≤ (c3 : Int) := by have := CB.out.1; omega
        go_wp2_with fail
        · refine bodyPost_ret (v := .tuple #[.slice (some ⟨g, 0, none⟩) n c, .slice (some ⟨g3, 0, none⟩) (n - 1) 0]) (by simp [results, Try.results20, go_sem]) rfl ?_
          have hc1 := CB.out.1
          exact ⟨g, n, c, _, n - 1, 0, zs, [], rfl, ⟨hn, HCap.out⟩, ⟨by omega, by omega, Nat.zero_le _⟩, RA.out, ⟨by simp; omega, fun h => by omega⟩, B4.out⟩
        · refine bodyPost_ret (v := .tuple #[.slice (some ⟨g, 0, none⟩) n c, .slice (some ⟨g3, 8, none⟩) (n - 1) (c3 - 1)]) (by simp [results, Try.results20, go_sem]) rfl ?_
          have hc1 := CB.out
          exact ⟨g, n, c, _, n - 1, c3 - 1, zs, zs.tail, rfl, ⟨hn, HCap.out⟩, ⟨by omega, by omega, by omega⟩, RA.out, rules_tail RB.out hn0, B4.out⟩
      · have hn0' : ¬ ((0 : Int) < (n : Int)) := by omega
        go_wp2_with fail
        refine bodyPost_ret (v := .tuple #[.slice (some ⟨g, 0, none⟩) n c, .slice (some ⟨g3, 0, none⟩) n c3]) (by simp [results, Try.results20, go_sem]) rfl ?_
        exact ⟨g, n, c, _, n, c3, zs, zs, rfl, ⟨hn, HCap.out⟩, ⟨by omega, CB.out⟩, RA.out, RB.out, B4.out⟩
    · have b1 : (v == 1) = false := by simpa using e1
      by_cases e2 : v = 2
      · subst e2
        clear b0 b1 e0 e1
        go_wp2_with fail
        refine (drawRule_c _ w.heap.size a len cap (kk + 1) ys HL4.out.ds.src hl (by omega)).mono ?_
        rintro e w5 ⟨x, k5, _, hk5, rfl, hS5, hG5⟩
        have HO5 : Hid (Own8 w5 w2.heap.size (.slice (some ⟨g3, 0, none⟩) n c3) zs) := HO4.out.grown hG5 (by omega)
        have RA5 : Hid (RulesIn w5 (some ⟨g, 0, none⟩) n zs) := rules_gr RA.out hG5 (fun b off e => .inr (by cases e; omega))
        have B5 : Hid (Below w.heap.size w w5) := B4.out.grown hG5 B4.out.size (fun q e => by cases e; exact Nat.le_refl _)
        have hz5 : w2.heap.size ≤ w5.heap.size := by have := hG5.size; omega
        clear hS5 hG5
        go_wp2_with (first
          | (at_builtin; refine wpList_append_own _ rfl _ _ 24 rfl w2.heap.size 100 i0 (.agg #[.int .i64 0, .int .i64 0, .int .i64 0, .int .i64 0, .int .i64 0, .int .i64 0, .int .i64 0, .int .i64 0]) 8 64 hun hi hz0 hz1 hz2 rfl (by decide) _ n (flatR zs) rfl (?c0) ⟨w5.heap.size, 0, none⟩ 1 1 (row8 x) rfl rfl (cell_new8 w5 x _) (flatR_cells [x]) ?c3 ?c4 ?c5 ?_)
          | fail)
        case c0 => have h0 : w5.ownsRow w2.heap.size 100 8 (.slice (some ⟨g3, 0, none⟩) n c3) n (flatR zs) := by have := HO5.out; unfold Own8 at this; rw [HLen.out] at this; exact this
                   exact h0.alloc _
        case c3 => unfold maxLen; omega
        case c4 => omega
        case c5 => simp; omega
        intro v' w9 hown' hgrow hnil
        have hl9 : (zs ++ [x]).length = n + 1 := by rw [List.length_append, HLen.out]; rfl
        have how : Own8 w9 w2.heap.size v' (zs ++ [x]) := by unfold Own8; rw [hl9, flatR_append]; exact hown'
        obtain ⟨g9, c9, e9⟩ := how.shape (by first | exact hnil | simpa using hnil)
        rw [hl9] at e9
        subst e9
        have hA : Below w5.heap.size w5 (w5.alloc (.cells #[.int .i64 x.k, .int .i64 x.ho, .int .i64 x.hn, .int .i64 x.w, .int .i64 x.oo, .int .i64 x.on, .int .i64 x.to, .int .i64 x.tn] 100)) := (Below.refl _ _).alloc (Nat.le_refl _) _
        have R1 : Hid (RulesIn w9 (some ⟨g, 0, none⟩) n zs) := rules_gr (RA5.out.below hA) (show World.grownBy _ w9 (some g3) from hgrow) (fun b off e => .inr (by cases e; omega))
        have R2 : Hid (RulesIn w9 (some ⟨g9, 0, none⟩) (n + 1) (zs ++ [x])) := how.read hl9
        have R3 : Hid (Below w.heap.size w w9) := (B5.out.alloc B5.out.size _).grown (show World.grownBy _ w9 (some g3) from hgrow) (by simp; omega) (fun q e => by cases e; omega)
        have R4 : Hid (n + 1 ≤ c9 ∧ c9 ≤ maxLen) := own8_cap hl9 how
        clear hown' hgrow hnil how
        go_wp2_with fail
        refine bodyPost_ret (v := .tuple #[.slice (some ⟨g, 0, none⟩) n c, .slice (some ⟨g9, 0, none⟩) (n + 1) c9]) (by simp [results, Try.results20, go_sem]) rfl ?_
        exact ⟨g, n, c, _, n + 1, c9, zs, zs ++ [x], rfl, ⟨hn, HCap.out⟩, ⟨by omega, R4.out⟩, R1.out, R2.out, R3.out⟩
      · have b2 : (v == 2) = false := by simpa using e2
        clear e0 e1 e2
        go_wp2_with fail
        refine bodyPost_ret (v := .tuple #[.slice (some ⟨g, 0, none⟩) n c, .slice (some ⟨g3, 0, none⟩) n c3]) (by simp [results, Try.results20, go_sem]) rfl ?_
        exact ⟨g, n, c, _, n, c3, zs, zs, rfl, ⟨hn, HCap.out⟩, ⟨by omega, CB.out⟩, RA.out, RB.out, B4.out⟩

end Go.Proofs.Ytdooocjjohdpjaa

namespace Go.Proofs.Ytdooocjjohdpjaa
open Go.RowKit
set_option linter.unusedVariables false
set_option linter.unusedSimpArgs false

/-- A slice of grants, read. -/
def GrV (w : World) (a : Option Addr) (zs : List GrI) : Prop := ∀ k p, zs[k]? = some p → ∃ g, a = some ⟨g, 0, none⟩ ∧ GrAt w g (k * 3) p

theorem GrV.below {w w' : World} {a : Option Addr} {zs : List GrI} (h : GrV w a zs) (hb : Below w.heap.size w w') : GrV w' a zs := fun k p e => by
  obtain ⟨g, ha, h1⟩ := h k p e
  exact ⟨g, ha, h1.below hb (World.block_lt_of_cell? w ⟨g, k * 3, none⟩ h1.1)⟩

theorem GrV.kept {w w' : World} {a : Option Addr} {zs : List GrI} {row : Option Nat} (h : GrV w a zs) (hg : w.grownBy w' row) (hne : ∀ g, a = some ⟨g, 0, none⟩ → some g ≠ row) : GrV w' a zs := fun k p e => by
  obtain ⟨g, ha, h1, h2, h3⟩ := h k p e
  exact ⟨g, ha, hg.cell h1 (hne g ha), hg.cell h2 (hne g ha), hg.cell h3 (hne g ha)⟩

theorem GrV.grIn {w : World} {a : Option Addr} {n : Nat} {zs : List GrI} (hn : zs.length = n) (h : GrV w a zs) : GrIn w a n zs := by
  refine ⟨hn, fun hp => ?_⟩
  obtain ⟨g, ha, _⟩ := h 0 _ (List.getElem?_eq_getElem (by omega))
  refine ⟨g, 0, ha, fun k x e => ?_⟩
  obtain ⟨g', ha', hx⟩ := h k x e
  rw [ha] at ha'
  cases ha'
  rw [Nat.zero_add]
  exact hx

theorem Own3.view {w : World} {B : Nat} {a : Option Addr} {n cap : Nat} {zs : List GrI} (h : Own3 w B (.slice a n cap) zs) : GrV w a zs := by
  intro k p e
  have hk : k < zs.length := by
    by_cases q : k < zs.length
    · exact q
    · rw [List.getElem?_eq_none (by omega)] at e; cases e
  have h0 : w.ownsRow B 37 3 (.slice a n cap) zs.length (flat3 zs) := h
  rcases h0.2 with ⟨h', h''⟩ | ⟨g, cap', cur, h', _⟩
  · omega
  · simp at h'
    obtain ⟨rfl, rfl, rfl⟩ := h'
    obtain ⟨f1, f2, f3⟩ := flat3_at zs k p e
    refine ⟨g, rfl, ?_, ?_, ?_⟩
    · rw [h0.cellAt (k * 3) (by omega)]; exact f1
    · rw [h0.cellAt (k * 3 + 1) (by omega)]; exact f2
    · rw [h0.cellAt (k * 3 + 2) (by omega)]; exact f3

theorem Own3.form {w : World} {B : Nat} {v : Value} {zs : List GrI} (h : Own3 w B v zs) : (v = .slice none 0 0 ∧ zs = []) ∨ ∃ g cap, v = .slice (some ⟨g, 0, none⟩) zs.length cap ∧ B ≤ g ∧ g < w.heap.size ∧ zs.length ≤ cap ∧ cap ≤ maxLen := by
  have h0 : w.ownsRow B 37 3 v zs.length (flat3 zs) := h
  rcases h0.2 with ⟨h', h''⟩ | ⟨g, cap', cur, h', hb, hg, hc, hm, _⟩
  · exact .inl ⟨h', List.length_eq_zero_iff.1 h''⟩
  · exact .inr ⟨g, cap', h', hb, (Array.getElem?_eq_some_iff.1 hg).1, hc, hm⟩

theorem Own3.slice {w : World} {B : Nat} {v : Value} {zs : List GrI} (h : Own3 w B v zs) : ∃ a cap, v = .slice a zs.length cap := by
  rcases h.form with ⟨rfl, rfl⟩ | ⟨g, cap, rfl, _⟩
  · exact ⟨none, 0, rfl⟩
  · exact ⟨_, _, rfl⟩

theorem Own3.alloc {w : World} {B : Nat} {v : Value} {zs : List GrI} (h : Own3 w B v zs) (o : Obj) : Own3 (w.alloc o) B v zs := World.ownsRow.alloc h o

/-- The marks of n grants. -/
def mk3 (n : Nat) : List GrI := (List.range n).map fun j => ((((1 + 3 * j : Nat) : Int), ((2 + 3 * j : Nat) : Int)), ((3 + 3 * j : Nat) : Int))
theorem mk3_len (n : Nat) : (mk3 n).length = n := by simp [mk3]
theorem mk3_at (n j : Nat) (h : j < n) : (mk3 n)[j]? = some ((((1 + 3 * j : Nat) : Int), ((2 + 3 * j : Nat) : Int)), ((3 + 3 * j : Nat) : Int)) := by simp [mk3, h]

theorem flat3_set (a : List GrI) (k : Nat) (p : GrI) : flat3 (a.set k p) = (((flat3 a).set (k * 3) (.int .i64 p.1.1)).set (k * 3 + 1) (.int .i64 p.1.2)).set (k * 3 + 2) (.int .i64 p.2) := by
  induction a generalizing k with
  | nil => simp [flat3]
  | cons q qs ih =>
    cases k with
    | zero => simp [flat3]
    | succ k =>
      rw [show (k + 1) * 3 = k * 3 + 1 + 1 + 1 by omega]
      simp [flat3, ih]

theorem Own3.put {w : World} {B g cap : Nat} {zs : List GrI} {n : Nat} (hn : n = zs.length) (h : Own3 w B (.slice (some ⟨g, 0, none⟩) n cap) zs) (j : Nat) (p : GrI) :
    Own3 (((w.setCell ⟨g, j * 3, none⟩ (.int .i64 p.1.1)).setCell ⟨g, j * 3 + 1, none⟩ (.int .i64 p.1.2)).setCell ⟨g, j * 3 + 2, none⟩ (.int .i64 p.2)) B (.slice (some ⟨g, 0, none⟩) n cap) (zs.set j p) ∧ w.grownBy (((w.setCell ⟨g, j * 3, none⟩ (.int .i64 p.1.1)).setCell ⟨g, j * 3 + 1, none⟩ (.int .i64 p.1.2)).setCell ⟨g, j * 3 + 2, none⟩ (.int .i64 p.2)) (some g) := by
  subst hn
  have h0 : w.ownsRow B 37 3 (.slice (some ⟨g, 0, none⟩) zs.length cap) zs.length (flat3 zs) := h
  have h1 := h0.stored (j * 3) (.int .i64 p.1.1)
  have h2 := h1.1.stored (j * 3 + 1) (.int .i64 p.1.2)
  have h3 := h2.1.stored (j * 3 + 2) (.int .i64 p.2)
  refine ⟨?_, grown_tr (grown_tr h1.2 h2.2) h3.2⟩
  show World.ownsRow _ B 37 3 _ (zs.set j p).length (flat3 (zs.set j p))
  rw [flat3_set, List.length_set]
  exact h3.1

theorem Own3.cell {w : World} {B g cap : Nat} {zs : List GrI} {n : Nat} (hn : n = zs.length) (h : Own3 w B (.slice (some ⟨g, 0, none⟩) n cap) zs) (j : Nat) (hj : j < n * 3) : (∃ v, w.cell? ⟨g, j, none⟩ = some v) ∧ w.frozen? ⟨g, j, none⟩ = false := by
  subst hn
  have h0 : w.ownsRow B 37 3 (.slice (some ⟨g, 0, none⟩) zs.length cap) zs.length (flat3 zs) := h
  exact ⟨⟨_, (h0.cellAt j hj).trans (List.getElem?_eq_getElem (by rw [flat3_len]; exact hj))⟩, h0.frozenAt j⟩

end Go.Proofs.Ytdooocjjohdpjaa

namespace Go.Proofs.Ytdooocjjohdpjaa
open Go.RowKit
set_option linter.unusedVariables false
set_option linter.unusedSimpArgs false

def eqGr (p q : GrI) : Bool := p.1.1 == q.1.1 && p.1.2 == q.1.2 && p.2 == q.2
theorem eqGr_iff (p q : GrI) : eqGr p q = true ↔ p = q := by
  obtain ⟨⟨a, b⟩, c⟩ := p
  obtain ⟨⟨d, e⟩, f⟩ := q
  simp [eqGr, and_assoc]

set_option maxHeartbeats 400000 in
theorem gr_neq (p q : GrI) (w : World) : (binOp .neq 37 (.agg #[.int .i64 p.1.1, .int .i64 p.1.2, .int .i64 p.2]) (.agg #[.int .i64 q.1.1, .int .i64 q.1.2, .int .i64 q.2])).run Try.prog w = .ok (.bool (!eqGr p q)) w := by
  obtain ⟨⟨a0, a1⟩, a2⟩ := p
  obtain ⟨⟨b0, b1⟩, b2⟩ := q
  simp only [eqGr]
  cases e0 : (a0 == b0)
  · simp [go_sem, e0]
  cases e1 : (a1 == b1)
  · simp [go_sem, e0, e1]
  cases e2 : (a2 == b2)
  · simp [go_sem, e0, e1, e2]
  · simp [go_sem, e0, e1, e2]

attribute [local go_sem ↓] gr_neq

theorem bd0 (w : World) (m : Nat) : Below w.heap.size w (w.drewN m) := bdN (Below.refl _ _) _

set_option maxHeartbeats 1000000 in
theorem l3Same_c (a b : Option Addr) (n m c d : Nat) (xs ys : List GrI) (w : World) (hx : GrIn w a n xs) (hy : GrIn w b m ys) (hn : n ≤ 1000) (hm : m ≤ 1000) :
    Calls Try.prog 113 #[.slice a n c, .slice b m d] w fun e w' => e = .returned (.bool (decide (xs = ys))) ∧ Below w.heap.size w w' := by
  have HX : Hid (GrIn w a n xs) := hx
  have HY : Hid (GrIn w b m ys) := hy
  clear hx hy
  have hn' : (n : Int) ≤ 1000 := by omega
  have hm' : (m : Int) ≤ 1000 := by omega
  by_cases hnm : n = m
  · subst hnm
    go_enter Try.func113, Try.ntmps113
    go_wp2
    go_loopw [5] (fun i wr => ∃ k : Nat, k ≤ n ∧ i = .int .i64 (k : Int) ∧ xs.take k = ys.take k ∧ ∃ q, wr = w.drewN q) (fun i _ => n - (intOf i).toNat)
    case atStart => exact ⟨0, Nat.zero_le _, rfl, by simp, 0, rfl⟩
    case round =>
      obtain ⟨k, hk, rfl, htk, q, rfl⟩ := hrel
      have HT : Hid (xs.take k = ys.take k) := htk
      clear htk
      by_cases hlt : k < n
      · obtain ⟨b1, o1, x, e1, hx1, ⟨c0, c1, c2⟩, _⟩ := HX.out.at hlt
        obtain ⟨b2, o2, y, e2, hy1, ⟨d0, d1, d2⟩, _⟩ := HY.out.at hlt
        subst e1 e2
        have hkx : k < xs.length := by rw [HX.out.1]; exact hlt
        have hky : k < ys.length := by rw [HY.out.1]; exact hlt
        have ex : xs[k] = x := by rw [List.getElem?_eq_getElem hkx] at hx1; exact Option.some.inj hx1
        have ey : ys[k] = y := by rw [List.getElem?_eq_getElem hky] at hy1; exact Option.some.inj hy1
        have hlt' : (k : Int) < (n : Int) := by omega
        cases he : eqGr x y
        · have HN : Hid (decide (xs = ys) = false) := by
            show decide (xs = ys) = false
            refine decide_eq_false (fun e => ?_)
            subst e
            have : x = y := by rw [← ex, ← ey]
            rw [(eqGr_iff _ _).2 this] at he
            cases he
          clear ex ey hx1 hy1 hkx hky
          go_wp2
          go_quiet (fail)
          go_wp2
          go_ret
          exact ⟨by rw [HN.out]; rfl, bdN (bd0 _ _) _⟩
        · have HN : Hid (xs.take (k + 1) = ys.take (k + 1)) := by
            show xs.take (k + 1) = ys.take (k + 1)
            rw [List.take_succ_eq_append_getElem hkx, List.take_succ_eq_append_getElem hky, HT.out, ex, ey, (eqGr_iff _ _).1 he]
          clear ex ey hx1 hy1 hkx hky
          go_wp2
          go_quiet (fail)
          go_wp2
          exact ⟨⟨k + 1, by omega, by go_num, HN.out, _, rfl⟩, by simp [intOf]; omega⟩
      · have hkn : k = n := by omega
        subst hkn
        have HE : Hid (decide (xs = ys) = true) := by
          show decide (xs = ys) = true
          have h1 := HT.out
          rw [List.take_of_length_le (by rw [HX.out.1]; exact Nat.le_refl _), List.take_of_length_le (by rw [HY.out.1]; exact Nat.le_refl _)] at h1
          exact decide_eq_true h1
        go_wp2
        go_ret
        exact ⟨by rw [HE.out]; rfl, bd0 _ _⟩
  · have HN : Hid (decide (xs = ys) = false) := by
      show decide (xs = ys) = false
      refine decide_eq_false (fun e => hnm ?_)
      rw [← HX.out.1, ← HY.out.1, e]
    have hne : ((n : Int) == (m : Int)) = false := by simp; omega
    have hne2 : ((n : Int) != (m : Int)) = true := by simp; omega
    go_enter Try.func113, Try.ntmps113
    go_wp2
    go_ret
    exact ⟨by rw [HN.out]; rfl, Below.refl _ _⟩

/-- The sum of the sets of a slice of grants. -/
def sumV (w : World) : Value → Int
  | .slice (some a) n _ => ((List.range n).map (fun k => intOf ((w.cell? ⟨a.block, a.off + k * 3 + 2, none⟩).getD undef))).sum
  | _ => 0

theorem sumV_at {w : World} {b off n c : Nat} {gs : List GrI} (h : GrIn w (some ⟨b, off, none⟩) n gs) : sumV w (.slice (some ⟨b, off, none⟩) n c) = sumG gs := by
  suffices key : (List.range n).map (fun k => intOf ((w.cell? ⟨b, off + k * 3 + 2, none⟩).getD undef)) = gs.map Prod.snd by
    show ((List.range n).map (fun k => intOf ((w.cell? ⟨b, off + k * 3 + 2, none⟩).getD undef))).sum = (gs.map Prod.snd).sum
    rw [key]
  apply List.ext_getElem
  · simp [h.1]
  · intro k h1 h2
    have hk : k < n := by simpa using h1
    obtain ⟨b', off', x, e, hx, ⟨_, _, c2⟩, _⟩ := h.at hk
    cases e
    have hkx : k < gs.length := by rw [h.1]; exact hk
    have ex : gs[k] = x := by rw [List.getElem?_eq_getElem hkx] at hx; exact Option.some.inj hx
    simp [c2, ex, intOf]

set_option maxHeartbeats 1000000 in
theorem l3All_c (a : Option Addr) (m d : Nat) (zs : List RuleI) (w : World) (hr : RulesIn w a m zs) (hm : m ≤ 1000) (hz : ∀ z ∈ zs, okR z ∧ 1 ≤ z.k ∧ z.k ≤ 4) :
    Calls Try.prog 60 #[.slice a m d] w fun e w' => ∃ g l cap gs, e = .returned (.slice (some ⟨g, 0, none⟩) l cap) ∧ gs.length = l ∧ AllG zs gs ∧ (∃ n, gs = itG zs n) ∧ Own3 w' w.heap.size (.slice (some ⟨g, 0, none⟩) l cap) gs ∧ Below w.heap.size w w' := by
  have HR : Hid (RulesIn w a m zs) := hr
  have HZ : Hid (∀ z ∈ zs, okR z ∧ 1 ≤ z.k ∧ z.k ≤ 4) := hz
  clear hr hz
  go_enter Try.func60, Try.ntmps60
  go_wp2_with fail
  go_loopw [3] (fun v wr => ∃ k l g cap : Nat, v = .slice (some ⟨g, 0, none⟩) l cap ∧ (itG zs k).length = l ∧ Own3 wr w.heap.size (.slice (some ⟨g, 0, none⟩) l cap) (itG zs k) ∧ Below w.heap.size w wr) (fun v wr => (10200 - sumV wr v).toNat)
  case atStart => exact ⟨0, 0, w.heap.size, 0, rfl, rfl, World.ownsRow_lit w #[] 0 (Nat.le_refl _) (Nat.zero_le _) rfl, (Below.refl _ _).alloc (Nat.le_refl _) _⟩
  case round =>
    obtain ⟨k, l, g, cap, rfl, hl, hown, hnx⟩ := hrel
    have HO : Hid (Own3 wr w.heap.size (.slice (some ⟨g, 0, none⟩) l cap) (itG zs k)) := hown
    have HL : Hid ((itG zs k).length = l) := hl
    have HK : Hid (∀ z ∈ zs, okR z) := fun z h => (HZ.out z h).1
    have HM : Hid (sumV wr (.slice (some ⟨g, 0, none⟩) l cap) = sumG (itG zs k)) := sumV_at (hown.read hl)
    have hl40 : l ≤ 40 := by rw [← hl]; exact sg_len (sg_it HK.out k)
    clear hown hl
    have HST : Hid (Calls Try.prog 62 #[.slice a m d, .slice (some ⟨g, 0, none⟩) l cap] wr fun e w' => ∃ g' l' cap', e = .returned (.slice (some ⟨g', 0, none⟩) l' cap') ∧ (stepG zs (itG zs k)).length = l' ∧ Own3 w' wr.heap.size (.slice (some ⟨g', 0, none⟩) l' cap') (stepG zs (itG zs k)) ∧ Below wr.heap.size wr w') :=
      l3Step_c g 0 l cap (itG zs k) a m d zs wr (HO.out.read HL.out) (sg_it HK.out k) (HR.out.below hnx) hm HZ.out
    go_upto_region 3 with (first | (go_at_call 62; refine HST.out.mono ?_; rintro e w2 ⟨g2, l2, cap2, rfl, hl2, hown2, hb2⟩))
    have HL2 : Hid ((stepG zs (itG zs k)).length = l2) := hl2
    have HO2 : Hid (Own3 w2 wr.heap.size (.slice (some ⟨g2, 0, none⟩) l2 cap2) (stepG zs (itG zs k))) := hown2
    have hl240 : l2 ≤ 40 := by rw [← hl2]; exact sg_len (sg_step HK.out (sg_it HK.out k))
    clear hl2 hown2 HST
    have HSA : Hid (Calls Try.prog 113 #[.slice (some ⟨g2, 0, none⟩) l2 cap2, .slice (some ⟨g, 0, none⟩) l cap] w2 fun e w' => e = .returned (.bool (decide (stepG zs (itG zs k) = itG zs k))) ∧ Below w2.heap.size w2 w') :=
      l3Same_c _ _ _ _ _ _ _ _ w2 (HO2.out.read HL2.out) ((HO.out.read HL.out).below hb2) (by omega) (by omega)
    by_cases hfix : stepG zs (itG zs k) = itG zs k
    · have HF : Hid (stepG zs (itG zs k) = itG zs k) := hfix
      rw [decide_eq_true hfix] at HSA
      clear hfix
      go_wp2_with (first | (go_at_call 113; refine HSA.out.mono ?_; rintro e w3 ⟨rfl, hb3⟩))
      go_ret
      have hb : Below wr.heap.size wr w3 := hb2.trans (hb3.mono hb2.size)
      exact ⟨g, l, cap, itG zs k, rfl, HL.out, allG_it HK.out HF.out, ⟨k, rfl⟩, HO.out.below hb, hnx.trans (hb.mono hnx.size)⟩
    · have HF : Hid (sumG (itG zs k) < sumG (itG zs (k + 1)) ∧ sumG (itG zs (k + 1)) ≤ 10200) := by
        have h1 := sum_step HK.out (sg_it HK.out k)
        have h2 := (sum_le (sg_it HK.out (k + 1))).2
        have h3 : sumG (itG zs k) ≠ sumG (stepG zs (itG zs k)) := fun e => hfix (h1.2 e)
        have h4 := h1.1
        show sumG (itG zs k) < sumG (itG zs (k + 1)) ∧ sumG (itG zs (k + 1)) ≤ 10200
        simp only [itG] at h2 ⊢
        omega
      rw [decide_eq_false hfix] at HSA
      clear hfix
      go_wp2_with (first | (go_at_call 113; refine HSA.out.mono ?_; rintro e w3 ⟨rfl, hb3⟩))
      have ho3 : Own3 w3 w.heap.size (.slice (some ⟨g2, 0, none⟩) l2 cap2) (itG zs (k + 1)) := own3_lower (HO2.out.below hb3) hnx.size
      have hs3 : sumV w3 (.slice (some ⟨g2, 0, none⟩) l2 cap2) = sumG (itG zs (k + 1)) := sumV_at (ho3.read HL2.out)
      have hb : Below wr.heap.size wr w3 := hb2.trans (hb3.mono hb2.size)
      go_roundw
      case rel => exact ⟨k + 1, l2, g2, cap2, rfl, HL2.out, ho3, hnx.trans (hb.mono hnx.size)⟩
      case measure =>
        have h1 := HM.out
        have h2 := HF.out
        show (10200 - sumV w3 (.slice (some ⟨g2, 0, none⟩) l2 cap2)).toNat < (10200 - sumV wr (.slice (some ⟨g, 0, none⟩) l cap)).toNat
        rw [hs3, h1]
        omega

end Go.Proofs.Ytdooocjjohdpjaa
