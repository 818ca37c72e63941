/-
  CONTRACT: spec.l2Bent: some rules, at most 17.
  Conditions: each contract bears its own.
-/
import Derived.Test.YtpeddanicenohaaGreatDp1
namespace Go.Proofs.YtpeddanicenohaaGreat
open Go.RowKit
set_option linter.unusedVariables false
set_option linter.unusedSimpArgs false

def zeroRule : RuleI := ⟨0, 0, 0, 0, 0, 0, 0, 0⟩

theorem made17 : (madeCells (Value.cells (.agg #[.int .i64 0, .int .i64 0, .int .i64 0, .int .i64 0, .int .i64 0, .int .i64 0, .int .i64 0, .int .i64 0])) (17 * 8)).toList = flatR (List.replicate 17 zeroRule) := by kernel_rfl

theorem LP.draw {w wr wr' : World} {B : Nat} {a : Option Addr} {len cap k0 kk k' : Nat} {ys : List Int} {g n c : Nat} {zs : List RuleI} (h : LP w wr B a len cap k0 kk ys g n c zs) (hB : B < w.heap.size) (hs : SrcAt wr' B a len cap k' ys) (hg : wr.grownBy wr' (some B)) : LP w wr' B a len cap k0 k' ys g n c zs :=
  ⟨h.ow.grown hg (by have := h.gw; omega), h.ln, h.ds.draw hs hg, h.gw, Nat.lt_of_lt_of_le h.gl hg.size⟩

set_option maxRecDepth 100000 in
set_option maxHeartbeats 2000000 in
theorem bentP_c (w : World) (B : Nat) (a : Option Addr) (len cap k0 : Nat) (ys : List Int) (h : SrcAt w B a len cap k0 ys) (hl : len ≤ 1048576) (hk0 : k0 ≤ 500) :
    Calls Tryz.prog 30 #[.pointer (some ⟨B, 0, none⟩)] w fun e w' => ∃ (g n c kk : Nat) (zs : List RuleI), e = .returned (.slice (some ⟨g, 0, none⟩) n c) ∧ n ≤ 17 ∧ kk ≤ k0 + 89 ∧ LP w w' B a len cap k0 kk ys g n c zs := by
  have hB := h.lt
  have HCode : Hid (∀ b off, a = some ⟨b, off, none⟩ → len = 0 ∨ b < w.heap.size) := h.code_lt
  have HS : Hid (SrcAt w B a len cap k0 ys) := h
  obtain ⟨i0, hi, hz0, hz1, hz2⟩ := info_parts Tryz.info35
  have hun : Tryz.prog.underlying 24 = some (.slice 35) := by kernel_rfl
  clear h
  go_enter Tryz.func30, Tryz.ntmps30
  go_wp2_with fail
  refine (policy_c w B a len cap k0 ys HS.out hl hk0).mono ?_
  rintro e w1 ⟨g, n, c, kk, zs, rfl, hn, hkk, hL⟩
  have HL : Hid (LP w w1 B a len cap k0 kk ys g n c zs) := hL
  clear hL HS
  go_wp2_with fail
  refine (next_c _ B a len cap kk ys 14 HL.out.ds.src hl (by omega) (by omega) (by omega)).mono ?_
  rintro e w2 ⟨v, v0, v1, rfl, hS2, hG2⟩
  have HL2 : Hid (LP w w2 B a len cap k0 (kk + 1) ys g n c zs) := HL.out.draw hB hS2 hG2
  have hn' : (n : Int) ≤ 11 := by omega
  have hz2' : w.heap.size ≤ w2.heap.size := Nat.le_of_lt (Nat.lt_of_le_of_lt HL2.out.gw HL2.out.gl)
  clear hS2 hG2 HL
  by_cases e0 : v = 0
  · subst e0
    go_wp2_with fail
    refine (bentRule_c _ B a len cap (kk + 1) ys HL2.out.ds.src hl (by omega)).mono ?_
    rintro e w3 ⟨x, k3, hk3, rfl, hS3, hG3⟩
    have HLC : Hid (LP w w3 B a len cap k0 k3 ys g n c zs) := HL2.out.draw hB hS3 hG3
    have hzc : w.heap.size ≤ w3.heap.size := Nat.le_of_lt (Nat.lt_of_le_of_lt HLC.out.gw HLC.out.gl)
    clear hS3 hG3 HL2
    go_wp2_with (first
      | (at_builtin; refine wpList_append_own _ rfl _ _ 24 rfl w.heap.size 35 i0 (.agg #[.int .i64 0, .int .i64 0, .int .i64 0, .int .i64 0, .int .i64 0, .int .i64 0, .int .i64 0, .int .i64 0]) 8 64 hun hi hz0 hz1 hz2 rfl (by decide) _ n (flatR zs) rfl (?c0) ⟨w3.heap.size, 0, none⟩ 1 1 (row8 x) rfl rfl (cell_new8 w3 x _) (flatR_cells [x]) ?c3 ?c4 ?c5 ?_)
      | fail)
    case c0 => have h0 : w3.ownsRow w.heap.size 35 8 (.slice (some ⟨g, 0, none⟩) n c) n (flatR zs) := by have := HLC.out.ow; unfold Own8 at this; rw [HLC.out.ln] at this; exact this
               exact h0.alloc _
    case c3 => unfold maxLen; omega
    case c4 => omega
    case c5 => simp; omega
    intro v' w9 hown' hgrow hnil
    have HN : Hid (∃ g' c', v' = .slice (some ⟨g', 0, none⟩) (n + 1) c' ∧ LP w w9 B a len cap k0 k3 ys g' (n + 1) c' (zs ++ [x])) := LP.next HLC.out HCode.out hB hown' hgrow hnil
    clear hown' hgrow hnil HLC
    obtain ⟨g', c', rfl, hl9⟩ := HN.out
    have HL9 : Hid (LP w w9 B a len cap k0 k3 ys g' (n + 1) c' (zs ++ [x])) := hl9
    clear hl9 HN
    go_wp2_with fail
    go_ret
    exact ⟨g', n + 1, c', k3, zs ++ [x], rfl, by omega, by omega, HL9.out⟩
  · have b0 : (v == 0) = false := by simpa using e0
    by_cases e1 : v = 1
    · subst e1
      obtain ⟨wm, hmk, hownm, hgrm⟩ := run_make_full (P := Tryz.prog) (w := w2) w.heap.size 24 35 i0 (.agg #[.int .i64 0, .int .i64 0, .int .i64 0, .int .i64 0, .int .i64 0, .int .i64 0, .int .i64 0, .int .i64 0]) 8 hun hi hz0 hz1 .i64 .i64 17 (by rw [hz2]; omega) (by unfold maxLen; omega) hz2'
      have HN : Hid (LP w wm B a len cap k0 (kk + 1) ys w2.heap.size 17 17 (List.replicate 17 zeroRule)) := by
        rw [made17] at hownm
        exact ⟨hownm, rfl, ⟨HL2.out.ds.src.kept hgrm (by simp) (fun _ _ _ => .inr (by simp)), grown_trans HL2.out.ds.gr (grown_none hgrm _)⟩, hz2', (hownm.lt w2.heap.size (by simp [Value.ownBlock])).2⟩
      have hmk' : (Instr.makeSlice 24 (.int .i64 17) (.int .i64 17)).run Tryz.prog w2 = .ok (.slice (some ⟨w2.heap.size, 0, none⟩) 17 17) wm := hmk
      clear hownm hgrm HL2 e0 hmk
      go_wp2_with fail
      go_ret
      exact ⟨_, 17, 17, kk + 1, _, rfl, by omega, by omega, HN.out⟩
    · have b1 : (v == 1) = false := by simpa using e1
      by_cases e2 : v = 2
      · subst e2
        clear b0 b1 e0 e1
        by_cases hn0 : 0 < n
        · have hn0' : (0 : Int) < (n : Int) := by omega
          obtain ⟨b, off, x, hbo, hx, hr⟩ := (HL2.out.ow.read HL2.out.ln).at hn0
          cases hbo
          obtain ⟨y0, y1, y2, y3, y4, y5, y6, y7⟩ := hr
          simp only [Nat.zero_mul, Nat.add_zero, Nat.zero_add] at y0 y1 y2 y3 y4 y5 y6 y7
          clear hx
          go_wp2_with (first
            | (at_builtin; refine wpList_append_own _ rfl _ _ 24 rfl w.heap.size 35 i0 (.agg #[.int .i64 0, .int .i64 0, .int .i64 0, .int .i64 0, .int .i64 0, .int .i64 0, .int .i64 0, .int .i64 0]) 8 64 hun hi hz0 hz1 hz2 rfl (by decide) _ n (flatR zs) rfl (?c0) ⟨w2.heap.size, 0, none⟩ 1 1 (row8 x) rfl rfl (cell_new8 w2 x _) (flatR_cells [x]) ?c3 ?c4 ?c5 ?_)
            | fail)
          case c0 => have h0 : w2.ownsRow w.heap.size 35 8 (.slice (some ⟨g, 0, none⟩) n c) n (flatR zs) := by have := HL2.out.ow; unfold Own8 at this; rw [HL2.out.ln] at this; exact this
                     exact h0.alloc _
          case c3 => unfold maxLen; omega
          case c4 => omega
          case c5 => simp; omega
          intro v' w9 hown' hgrow hnil
          have HN : Hid (∃ g' c', v' = .slice (some ⟨g', 0, none⟩) (n + 1) c' ∧ LP w w9 B a len cap k0 (kk + 1) ys g' (n + 1) c' (zs ++ [x])) := LP.next HL2.out HCode.out hB hown' hgrow hnil
          clear hown' hgrow hnil y0 y1 y2 y3 y4 y5 y6 y7
          obtain ⟨g', c', rfl, hl9⟩ := HN.out
          have HL9 : Hid (LP w w9 B a len cap k0 (kk + 1) ys g' (n + 1) c' (zs ++ [x])) := hl9
          clear hl9 HN
          go_wp2_with fail
          go_ret
          exact ⟨g', n + 1, c', kk + 1, zs ++ [x], rfl, by omega, by omega, HL9.out⟩
        · have hn0' : ¬ ((0 : Int) < (n : Int)) := by omega
          go_wp2_with fail
          go_ret
          exact ⟨g, n, c, kk + 1, zs, rfl, by omega, by omega, HL2.out⟩
      · have b2 : (v == 2) = false := by simpa using e2
        clear e0 e1 e2
        go_wp2_with fail
        go_ret
        exact ⟨g, n, c, kk + 1, zs, rfl, by omega, by omega, HL2.out⟩

end Go.Proofs.YtpeddanicenohaaGreat
