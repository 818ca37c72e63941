/-
  CONTRACTS: spec.DrawIsPrefix: two rows of numbers are drawn.
  Conditions: each contract bears its own.
-/
import Derived.Test.YteknjkifgnfjgaaIp0
import Derived.Test.YteknjkifgnfjgaaDc0
import Derived.Test.YteknjkifgnfjgaaOi0
import Derived.Deep.DeepCutAuto
import Derived.Deep.CutBlock
namespace Go.Proofs.Yteknjkifgnfjgaa
open Go.RowKit
set_option linter.unusedVariables false
set_option linter.unusedSimpArgs false

/-- Two rows of numbers: the first one is read alone, the second one is written. -/
structure PT (w wr : World) (B : Nat) (a : Option Addr) (len cap kk : Nat) (ys : List Int) (L g n c : Nat) (zs : List Int) (h m d : Nat) (us : List Int) : Prop where
  ds : DS w wr B a len cap kk ys
  ia : IntIn wr (some ⟨g, 0, none⟩) n zs
  ga : w.heap.size ≤ g ∧ g < L
  ow : wr.ownsRow L 2 1 (.slice (some ⟨h, 0, none⟩) m d) m (us.map (Value.int .i64))
  le : n ≤ c ∧ c ≤ maxLen

theorem PT.hl {w wr : World} {B : Nat} {a : Option Addr} {len cap kk : Nat} {ys : List Int} {L g n c : Nat} {zs : List Int} {h m d : Nat} {us : List Int} (p : PT w wr B a len cap kk ys L g n c zs h m d us) : L ≤ h ∧ h < wr.heap.size := p.ow.lt h rfl

theorem ints_kept {w w' : World} {row : Option Nat} {g n : Nat} {zs : List Int} (h : IntIn w (some ⟨g, 0, none⟩) n zs) (hg : w.grownBy w' row) (hne : row ≠ some g) : IntIn w' (some ⟨g, 0, none⟩) n zs := by
  refine ⟨h.1, fun hp => ?_⟩
  obtain ⟨b, off, e, hc⟩ := h.2 hp
  refine ⟨b, off, e, fun k x hx => ?_⟩
  cases e
  exact hg.cell (hc k x hx) (fun q => hne q.symm)

theorem PT.draw {k' : Nat} {w wr wr' : World} {B : Nat} {a : Option Addr} {len cap kk : Nat} {ys : List Int} {L g n c : Nat} {zs : List Int} {h m d : Nat} {us : List Int} (p : PT w wr B a len cap kk ys L g n c zs h m d us) (hB : B < w.heap.size) (hs : SrcAt wr' B a len cap k' ys) (hg : wr.grownBy wr' (some B)) : PT w wr' B a len cap k' ys L g n c zs h m d us := by
  have h1 := p.ga
  have h2 := p.hl
  exact ⟨p.ds.draw hs hg, ints_kept p.ia hg (fun q => by cases q; omega), p.ga, World.ownsRow.kept (row := some B) p.ow hg (.inr (by simp [Value.ownBlock]; omega)), p.le⟩

theorem PT.alloc {w wr : World} {B : Nat} {a : Option Addr} {len cap kk : Nat} {ys : List Int} {L g n c : Nat} {zs : List Int} {h m d : Nat} {us : List Int} (p : PT w wr B a len cap kk ys L g n c zs h m d us) (o : Obj) : PT w (wr.alloc o) B a len cap kk ys L g n c zs h m d us :=
  ⟨p.ds.alloc o, ints_kept p.ia (grown_alloc wr o) (fun q => by cases q), p.ga, p.ow.alloc o, p.le⟩

/-- The second row is another one now. -/
theorem PT.push {w wr wr' : World} {B : Nat} {a : Option Addr} {len cap kk : Nat} {ys : List Int} {L g n c : Nat} {zs : List Int} {h m d : Nat} {us vs : List Int} {v' : Value} {m' : Nat} (p : PT w wr B a len cap kk ys L g n c zs h m d us) (hB : B < w.heap.size) (ha : ∀ b off, a = some ⟨b, off, none⟩ → len = 0 ∨ b < w.heap.size) (ho : wr'.ownsRow L 2 1 v' m' (vs.map (Value.int .i64))) (hg : wr.grownBy wr' (some h)) (hn : v' ≠ .slice none 0 0) :
    ∃ h' d', v' = .slice (some ⟨h', 0, none⟩) m' d' ∧ PT w wr' B a len cap kk ys L g n c zs h' m' d' vs := by
  have h1 := p.ga
  have h2 := p.hl
  rcases ho.2 with ⟨e, _⟩ | ⟨g', c', cur, rfl, _⟩
  · exact absurd e hn
  · exact ⟨g', c', rfl, p.ds.row hg (fun q e => by cases e; omega) hB ha, ints_kept p.ia hg (fun q => by cases q; omega), p.ga, ho, p.le⟩

theorem own8_capI {w : World} {B g n cap : Nat} {xs : List Value} (h : w.ownsRow B 2 1 (.slice (some ⟨g, 0, none⟩) n cap) n xs) : n ≤ cap ∧ cap ≤ maxLen := by
  rcases h.2 with ⟨h', _⟩ | ⟨g', cap', cur, h', hb, hg, hc, hm, _⟩
  · simp at h'
  · simp at h'
    obtain ⟨_, rfl⟩ := h'
    exact ⟨by omega, hm⟩

theorem ints_news {w : World} {g n : Nat} {zs : List Int} (h : IntIn w (some ⟨g, 0, none⟩) n zs) : ∀ j u, (zs.map (Value.int .i64))[j]? = some u → w.cell? ((⟨g, 0, none⟩ : Addr).add j) = some u := by
  intro j u hu
  rw [List.getElem?_map] at hu
  cases hx : zs[j]? with
  | none => rw [hx] at hu; cases hu
  | some x =>
    rw [hx] at hu
    cases hu
    have hj : j < n := by rw [← h.1]; exact (List.getElem?_eq_some_iff.1 hx).1
    obtain ⟨b, off, e, hc⟩ := h.2 (by omega)
    cases e
    rw [Go.WideShapes.add_plain]
    exact hc j x hx

theorem ints_head {w : World} {g n : Nat} {x : Int} {zs : List Int} (h : IntIn w (some ⟨g, 0, none⟩) n (x :: zs)) {v : Value} (hc : w.cell? ⟨g, 0, none⟩ = some v) (y : Int) : IntIn (w.setCell ⟨g, 0, none⟩ (.int .i64 y)) (some ⟨g, 0, none⟩) n (y :: zs) := by
  refine ⟨by have := h.1; simpa using this, fun hp => ⟨g, 0, rfl, fun k u hu => ?_⟩⟩
  obtain ⟨b, off, e, hcc⟩ := h.2 hp
  cases e
  cases k with
  | zero => simp at hu; subst hu; simp [go_sem, hc]
  | succ k =>
    rw [World.cell?_setCell_other (h := fun e => by have := congrArg Addr.off e; simp at this)]
    exact hcc (k + 1) u (by simpa using hu)

/-- What the draw hands out. -/
def DrawnPf (w : World) (e : Ending) (w' : World) : Prop := ∃ (aa ab : Option Addr) (n c m d : Nat) (zs us : List Int), e = .returned (.tuple #[.slice aa n c, .slice ab m d]) ∧ (n ≤ 5 ∧ n ≤ c ∧ c ≤ maxLen) ∧ (m ≤ 6 ∧ m ≤ d ∧ d ≤ maxLen) ∧ IntIn w' aa n zs ∧ IntIn w' ab m us ∧ Below w.heap.size w w'

theorem ints_tail {w : World} {g m : Nat} {us : List Int} (h : IntIn w (some ⟨g, 0, none⟩) (m + 1) us) : IntIn w (some ⟨g, 1, none⟩) m (us.drop 1) := by
  refine ⟨by rw [List.length_drop, h.1]; rfl, fun hp => ⟨g, 1, rfl, fun k x hx => ?_⟩⟩
  obtain ⟨b, off, e, hc⟩ := h.2 (by omega)
  cases e
  rw [List.getElem?_drop] at hx
  have := hc (1 + k) x hx
  rw [Nat.zero_add] at this
  exact this

theorem DS.below {w wr : World} {B : Nat} {a : Option Addr} {len cap kk : Nat} {ys : List Int} {w0 : World} (h : DS w wr B a len cap kk ys) (hw : w = w0.alloc (.cells #[.slice a len cap, .int .i64 0] 67)) (hB : B = w0.heap.size) : Below w0.heap.size w0 wr := by
  subst hw
  subst hB
  exact ((Below.refl _ _).alloc (Nat.le_refl _) _).grown h.gr (by simp) (fun k e => by simp at e; omega)

set_option maxRecDepth 20000 in
set_option maxHeartbeats 4000000 in
theorem drawPrefix_c (w : World) (a : Option Addr) (len cap : Nat) (ys : List Int) (h : CodeIn w a len ys) (hl : len ≤ 1048576) :
    Calls Try.prog 16 #[.slice a len cap] w fun e w' => DrawnPf w e w' := by
  have hS := src_new w a len cap ys h
  obtain ⟨W, hW⟩ : ∃ W, W = w.alloc (.cells #[.slice a len cap, .int .i64 0] 67) := ⟨_, rfl⟩
  rw [← hW] at hS
  have HS : Hid (SrcAt W w.heap.size a len cap 0 ys) := hS
  have HW : Hid (W = w.alloc (.cells #[.slice a len cap, .int .i64 0] 67)) := hW
  have hB0 : w.heap.size < W.heap.size := hS.lt
  obtain ⟨B, hBe⟩ : ∃ B, B = w.heap.size := ⟨_, rfl⟩
  have HBE : Hid (B = w.heap.size) := hBe
  rw [← hBe] at HS hB0
  have hB := hB0
  have HCode : Hid (∀ b off, a = some ⟨b, off, none⟩ → len = 0 ∨ b < W.heap.size) := HS.out.code_lt
  have D0 : Hid (DS W (W.alloc (.cells #[] 2)) B a len cap 0 ys) := (DS.start HS.out).alloc _
  have O0 : Hid ((W.alloc (.cells #[] 2)).ownsRow W.heap.size 2 1 (.slice (some ⟨W.heap.size, 0, none⟩) 0 0) 0 []) := World.ownsRow_lit (base := W.heap.size) (e := 2) (size := 1) W #[] 0 (Nat.le_refl _) (Nat.zero_le _) rfl
  obtain ⟨i0, hi, hz0, hz1, hz2⟩ := info_parts Try.infoI
  have hun : Try.prog.underlying 22 = some (.slice 2) := by kernel_rfl
  clear h hS hB0
  go_enter Try.func16, Try.ntmps16
  go_wp2_with fail
  refine (source_c a len cap w).mono ?_
  rintro e w1 ⟨rfl, rfl⟩
  rw [← hBe, ← hW]
  clear hW hBe
  go_wp2_with fail
  refine (next_c _ B a len cap 0 ys 5 D0.out.src hl (by omega) (by omega) (by omega)).mono ?_
  rintro e w1 ⟨v1, x0, x1, rfl, hS1, hG1⟩
  have hz1' : W.heap.size < w1.heap.size := by have := hG1.size; simp at this; omega
  have L1 : Hid (LI W w1 B a len cap 1 ys W.heap.size 0 0 []) := ⟨World.ownsRow.kept (row := some B) O0.out hG1 (.inr (by simp [Value.ownBlock]; omega)), D0.out.draw hS1 hG1, Nat.le_refl _, hz1'⟩
  obtain ⟨r1, rfl⟩ := Int.eq_ofNat_of_zero_le x0
  clear hS1 hG1 D0 O0
  go_wp2_with fail
  go_loopw [5, 6] (fun v i wr => ∃ (g n c kk r : Nat) (zs : List Int), v = .slice (some ⟨g, 0, none⟩) n c ∧ i = .int .i64 (r : Int) ∧ n + r ≤ 4 ∧ kk + r ≤ 5 ∧ Hid (LI W wr B a len cap kk ys g n c zs)) (fun _ i _ => (intOf i).toNat)
  case atStart => exact ⟨_, 0, 0, 1, r1, [], rfl, rfl, by omega, by omega, L1.out⟩
  case round =>
    obtain ⟨g, n, c, kk, r, zs, rfl, rfl, hnr, hkr, HL⟩ := hrel
    by_cases hr : 0 < r
    · have hr' : (0 : Int) < (r : Int) := by omega
      go_wp2_with fail
      refine (next_c _ B a len cap kk ys 3 HL.out.ds.src hl (by omega) (by omega) (by omega)).mono ?_
      rintro e w2 ⟨x, v0, v1, rfl, hS2, hG2⟩
      have HL2 : Hid (LI W w2 B a len cap (kk + 1) ys g n c zs) := HL.out.draw hB hS2 hG2
      clear hS2 hG2 HL
      go_wp2_with (first
        | (at_builtin; refine wpList_append_own _ rfl _ _ 22 rfl W.heap.size 2 i0 (.int .i64 0) 1 8 hun hi hz0 hz1 hz2 rfl (by decide) _ n (zs.map (Value.int .i64)) rfl (HL2.out.ow.alloc _) ⟨w2.heap.size, 0, none⟩ 1 1 [.int .i64 x] rfl rfl (cell_one w2 x _) (by simp [Value.oneCell']) (by unfold maxLen; omega) (by omega) (by have := HL2.out.size; simp; omega) ?_)
        | fail)
      intro v' w9 hown' hgrow hnil
      have HN : Hid (∃ g' c', v' = .slice (some ⟨g', 0, none⟩) (n + 1) c' ∧ LI W w9 B a len cap (kk + 1) ys g' (n + 1) c' (zs ++ [x])) := LI.next (HL2.out.alloc _) HCode.out hB hown' hgrow
      clear hown' hgrow hnil
      obtain ⟨g', c', rfl, hl9⟩ := HN.out
      have HL9 : Hid (LI W w9 B a len cap (kk + 1) ys g' (n + 1) c' (zs ++ [x])) := hl9
      clear hl9 HN HL2
      go_wp2
      exact ⟨⟨g', n + 1, c', _, r - 1, _, rfl, by simp; omega, by omega, by omega, HL9⟩, by simp [intOf]; omega⟩
    · have hr0 : r = 0 := by omega
      subst hr0
      have hzl : zs.length = n := by have := HL.out.ow.1; simpa using this
      have HZL : Hid (zs.length = n) := hzl
      have hcap := own8_capI HL.out.ow
      have HIA : Hid (IntIn wr (some ⟨g, 0, none⟩) n zs) := owns_ints hzl HL.out.ow
      have hgl := HL.out.gl
      have hgw := HL.out.gw
      have HD : Hid (DS W wr B a len cap kk ys) := HL.out.ds
      have hWr : W.heap.size ≤ wr.heap.size := HL.out.size
      clear hzl HL
      go_wp2_with (first
        | (at_builtin; refine wpList_append_own _ rfl _ _ 22 rfl wr.heap.size 2 i0 (.int .i64 0) 1 8 hun hi hz0 hz1 hz2 rfl (by decide) _ 0 [] rfl (World.ownsRow_lit (base := wr.heap.size) (e := 2) (size := 1) wr #[] 0 (Nat.le_refl _) (Nat.zero_le _) rfl) ⟨g, 0, none⟩ n c (zs.map (Value.int .i64)) rfl (by rw [List.length_map, HZL.out, Nat.mul_one]) (ints_news (IntIn.below HIA.out ((Below.refl _ _).alloc (Nat.le_refl _) _))) (by simp [Value.oneCell']) (by unfold maxLen; omega) (by omega) (by simp) ?_)
        | fail)
      intro v' w9 hown' hgrow hnil
      have HP0 : Hid (∃ h' d', v' = .slice (some ⟨h', 0, none⟩) n d' ∧ PT W w9 B a len cap kk ys wr.heap.size g n c zs h' n d' zs) := by
        have P0 : PT W (wr.alloc (.cells #[] 2)) B a len cap kk ys wr.heap.size g n c zs wr.heap.size 0 0 [] := ⟨HD.out.alloc _, ints_kept HIA.out (grown_alloc _ _) (fun q => by cases q), ⟨hgw, hgl⟩, World.ownsRow_lit (base := wr.heap.size) (e := 2) (size := 1) wr #[] 0 (Nat.le_refl _) (Nat.zero_le _) rfl, hcap⟩
        exact P0.push hB HCode.out hown' hgrow hnil
      clear hown' hgrow hnil HIA HD
      obtain ⟨h1, d1, rfl, hp1⟩ := HP0.out
      have HP1 : Hid (PT W w9 B a len cap kk ys wr.heap.size g n c zs h1 n d1 zs) := hp1
      clear hp1 HP0
      go_wp2_with fail
      refine (next_c _ B a len cap kk ys 4 HP1.out.ds.src hl (by omega) (by omega) (by omega)).mono ?_
      rintro e w10 ⟨v, v0, v1, rfl, hS2, hG2⟩
      have HP2 : Hid (PT W w10 B a len cap (kk + 1) ys wr.heap.size g n c zs h1 n d1 zs) := HP1.out.draw hB hS2 hG2
      have hws : wr.heap.size ≤ w10.heap.size := by have := HP2.out.hl; omega
      have hc2 := own8_capI HP2.out.ow
      clear hS2 hG2 HP1
      by_cases e0 : v = 0
      · subst e0
        go_wp2_with (first
          | (at_builtin; refine wpList_append_own _ rfl _ _ 22 rfl wr.heap.size 2 i0 (.int .i64 0) 1 8 hun hi hz0 hz1 hz2 rfl (by decide) _ n (zs.map (Value.int .i64)) rfl (HP2.out.ow.alloc _) ⟨w10.heap.size, 0, none⟩ 1 1 [.int .i64 1] rfl rfl (cell_one w10 1 _) (by simp [Value.oneCell']) (by unfold maxLen; omega) (by omega) (by simp; omega) ?_)
          | fail)
        intro v' w11 hown' hgrow hnil
        have hown2 : w11.ownsRow wr.heap.size 2 1 v' (n + 1) ((zs ++ [1]).map (Value.int .i64)) := by rw [List.map_append]; exact hown'
        have HP3 : Hid (∃ h' d', v' = .slice (some ⟨h', 0, none⟩) (n + 1) d' ∧ PT W w11 B a len cap (kk + 1) ys wr.heap.size g n c zs h' (n + 1) d' (zs ++ [1])) := (HP2.out.alloc _).push hB HCode.out hown2 hgrow hnil
        clear hown' hown2 hgrow hnil HP2
        obtain ⟨h2, d2, rfl, hp3⟩ := HP3.out
        have HP4 : Hid (PT W w11 B a len cap (kk + 1) ys wr.heap.size g n c zs h2 (n + 1) d2 (zs ++ [1])) := hp3
        have hc3 := own8_capI HP4.out.ow
        clear hp3 HP3
        go_wp2
        refine bodyPost_ret (v := .tuple #[.slice (some ⟨g, 0, none⟩) n c, .slice (some ⟨h2, 0, none⟩) (n + 1) d2]) (by simp [results, Try.results16, go_sem]) rfl ⟨_, _, n, c, (n + 1), d2, zs, (zs ++ [1]), rfl, ⟨by omega, hcap⟩, ⟨by omega, hc3⟩, HP4.out.ia, owns_ints (by simp [HZL.out]) HP4.out.ow, HP4.out.ds.below HW.out HBE.out⟩
      · have b0 : (v == 0) = false := by simpa using e0
        by_cases e1 : v = 1
        · subst e1
          clear e0 b0
          have HI2 : Hid (IntIn w10 (some ⟨h1, 0, none⟩) n zs) := owns_ints HZL.out HP2.out.ow
          by_cases hn0 : 0 < n
          · have hn0' : (0 : Int) < (n : Int) := by omega
            have h1n : (1 : Int) ≤ (n : Int) := by omega
            have hnd : (n : Int) ≤ (d1 : Int) := by omega
            obtain ⟨m, rfl⟩ : ∃ m, n = m + 1 := ⟨n - 1, by omega⟩
            by_cases hd1 : d1 = 1
            · subst hd1
              obtain rfl : m = 0 := by omega
              go_wp2
              refine bodyPost_ret (v := .tuple #[.slice (some ⟨g, 0, none⟩) (0 + 1) c, .slice (some ⟨h1, 0, none⟩) 0 0]) (by simp [results, Try.results16, go_sem]) rfl ⟨_, _, 0 + 1, c, 0, 0, zs, [], rfl, ⟨by omega, hcap⟩, ⟨by omega, by omega, Nat.zero_le _⟩, HP2.out.ia, ⟨rfl, fun h => by omega⟩, HP2.out.ds.below HW.out HBE.out⟩
            · have HI3 : Hid (IntIn w10 (some ⟨h1, 1, none⟩) m (zs.drop 1)) := ints_tail HI2.out
              go_wp2
              refine bodyPost_ret (v := .tuple #[.slice (some ⟨g, 0, none⟩) (m + 1) c, .slice (some ⟨h1, 1, none⟩) m (d1 - 1)]) (by simp [results, Try.results16, go_sem]) rfl ⟨_, _, m + 1, c, m, d1 - 1, zs, zs.drop 1, rfl, ⟨by omega, hcap⟩, ⟨by omega, by omega, by omega⟩, HP2.out.ia, HI3.out, HP2.out.ds.below HW.out HBE.out⟩
          · have hn0' : ¬ (0 : Int) < (n : Int) := by omega
            go_wp2
            refine bodyPost_ret (v := .tuple #[.slice (some ⟨g, 0, none⟩) n c, .slice (some ⟨h1, 0, none⟩) n d1]) (by simp [results, Try.results16, go_sem]) rfl ⟨_, _, n, c, n, d1, zs, zs, rfl, ⟨by omega, hcap⟩, ⟨by omega, hc2⟩, HP2.out.ia, HI2.out, HP2.out.ds.below HW.out HBE.out⟩
        · have b1 : (v == 1) = false := by simpa using e1
          by_cases e2 : v = 2
          · subst e2
            clear e0 b0 e1 b1
            have HI2 : Hid (IntIn w10 (some ⟨h1, 0, none⟩) n zs) := owns_ints HZL.out HP2.out.ow
            by_cases hn0 : 0 < n
            · have hn0' : (0 : Int) < (n : Int) := by omega
              obtain ⟨x, zt, rfl⟩ : ∃ x l, zs = x :: l := by
                cases zs with
                | nil => have := HZL.out; simp at this; omega
                | cons x l => exact ⟨x, l, rfl⟩
              have hcx : w10.cell? ⟨h1, 0, none⟩ = some (.int .i64 x) := by have := HP2.out.ow.cellAt 0 (by omega); simpa using this
              have hfz : w10.frozen? ⟨h1, 0, none⟩ = false := HP2.out.ow.frozenAt 0
              have hlt := HP2.out.hl
              have hga := HP2.out.ga
              obtain ⟨y, hy⟩ : ∃ y, wrap64 (x + 1) = y := ⟨_, rfl⟩
              have HI4 : Hid (IntIn (w10.setCell ⟨h1, 0, none⟩ (.int .i64 y)) (some ⟨h1, 0, none⟩) n (y :: zt)) := ints_head HI2.out hcx y
              have HI5 : Hid (IntIn (w10.setCell ⟨h1, 0, none⟩ (.int .i64 y)) (some ⟨g, 0, none⟩) n (x :: zt)) := ints_kept HP2.out.ia (grown_set _ _ _ _) (fun e => by cases e; omega)
              have HD5 : Hid (DS W (w10.setCell ⟨h1, 0, none⟩ (.int .i64 y)) B a len cap (kk + 1) ys) := HP2.out.ds.set (by omega) hB HCode.out 0 _
              clear hlt hga
              go_wp2
              rw [hy]
              refine bodyPost_ret (v := .tuple #[.slice (some ⟨g, 0, none⟩) n c, .slice (some ⟨h1, 0, none⟩) n d1]) (by simp [results, Try.results16, go_sem]) rfl ⟨_, _, n, c, n, d1, x :: zt, y :: zt, rfl, ⟨by omega, hcap⟩, ⟨by omega, hc2⟩, HI5.out, HI4.out, HD5.out.below HW.out HBE.out⟩
            · have hn0' : ¬ (0 : Int) < (n : Int) := by omega
              go_wp2
              refine bodyPost_ret (v := .tuple #[.slice (some ⟨g, 0, none⟩) n c, .slice (some ⟨h1, 0, none⟩) n d1]) (by simp [results, Try.results16, go_sem]) rfl ⟨_, _, n, c, n, d1, zs, zs, rfl, ⟨by omega, hcap⟩, ⟨by omega, hc2⟩, HP2.out.ia, HI2.out, HP2.out.ds.below HW.out HBE.out⟩
          · have b2 : (v == 2) = false := by simpa using e2
            have HI2 : Hid (IntIn w10 (some ⟨h1, 0, none⟩) n zs) := owns_ints HZL.out HP2.out.ow
            clear e0 e1 e2
            go_wp2
            refine bodyPost_ret (v := .tuple #[.slice (some ⟨g, 0, none⟩) n c, .slice (some ⟨h1, 0, none⟩) n d1]) (by simp [results, Try.results16, go_sem]) rfl ⟨_, _, n, c, n, d1, zs, zs, rfl, ⟨by omega, hcap⟩, ⟨by omega, hc2⟩, HP2.out.ia, HI2.out, HP2.out.ds.below HW.out HBE.out⟩

end Go.Proofs.Yteknjkifgnfjgaa
