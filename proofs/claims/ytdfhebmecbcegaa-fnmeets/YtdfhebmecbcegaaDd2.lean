/-
  CONTRACTS: spec.l9With, spec.DrawCombine: shares, a number and a statement, drawn.
  Conditions: each contract bears its own.
-/
import Derived.Test.YtdfhebmecbcegaaDd1
import Derived.Laws.MakeOwn
namespace Go.Proofs.Ytdfhebmecbcegaa
open Go.RowKit
set_option linter.unusedVariables false
set_option linter.unusedSimpArgs false

/-- What l9With gives. -/
def GivesW9 (fn : Nat) (a : Option Addr) (len cap : Nat) (w : World) : Prop := Calls Try.prog fn #[.slice a len cap] w fun e w' => ∃ (va : Option Addr) (vc : Nat) (zs : List ShI) (f : Int) (x : StI), e = .returned (.tuple #[.slice va zs.length vc, .int .i64 f, .agg #[.int .i64 x.k, .int .i64 x.e, .int .i64 x.f, .int .i64 x.s, .int .i64 x.n]]) ∧ zs.length ≤ 121 ∧ 0 ≤ f ∧ f ≤ 3 ∧ (∀ z ∈ zs, 0 ≤ z.r ∧ z.r ≤ 8) ∧ OwnSh w' w.heap.size (.slice va zs.length vc) zs ∧ Below w.heap.size w w'

theorem zeroSh : ∀ n : Nat, flatSh (List.replicate n ⟨0, 0, 0, 0, 0, 0⟩) = List.replicate (n * 6) (.int .i64 0)
  | 0 => rfl
  | n + 1 => by
    rw [List.replicate_succ, show (n + 1) * 6 = n * 6 + 6 from by omega]
    have h : flatSh ((⟨0, 0, 0, 0, 0, 0⟩ : ShI) :: List.replicate n ⟨0, 0, 0, 0, 0, 0⟩) = [.int .i64 0, .int .i64 0, .int .i64 0, .int .i64 0, .int .i64 0, .int .i64 0] ++ flatSh (List.replicate n ⟨0, 0, 0, 0, 0, 0⟩) := rfl
    rw [h, zeroSh n]
    have e : ([.int .i64 0, .int .i64 0, .int .i64 0, .int .i64 0, .int .i64 0, .int .i64 0] : List Value) = List.replicate 6 (.int .i64 0) := rfl
    rw [e, List.replicate_append_replicate, Nat.add_comm]

/-- A share's statement, read. -/
theorem ShV.st {w : World} {va : Option Addr} {zs : List ShI} (h : ShV w va zs) {k : Nat} (hk : k < zs.length) : ∃ (g : Nat) (z : ShI), va = some ⟨g, 0, none⟩ ∧ StAt w g (k * 6 + 1) ⟨z.k, z.e, z.f, z.s, z.n⟩ := by
  obtain ⟨g, e, hs⟩ := h k _ (List.getElem?_eq_getElem hk)
  exact ⟨g, _, e, hs.2.1, hs.2.2.1, hs.2.2.2.1, hs.2.2.2.2.1, hs.2.2.2.2.2⟩

theorem owns_drew9 {w : World} {base : Nat} {e : TypeId} {size : Nat} {v : Value} {n : Nat} {xs : List Value} (h : w.ownsRow base e size v n xs) : w.drew.ownsRow base e size v n xs := owns_kept h (fun _ _ => rfl)

theorem LS.from {W w2 w3 : World} {B : Nat} {a : Option Addr} {len cap k kk : Nat} {ys : List Int} {v : Value} {zs : List ShI} (d : DS W w2 B a len cap k ys) (h : LS w2 w3 B a len cap kk ys v zs) (hB : B < W.heap.size) (hc : ∀ b off, a = some ⟨b, off, none⟩ → len = 0 ∨ b < W.heap.size) : LS W w3 B a len cap kk ys v zs :=
  ⟨ownSh_lower h.ow d.gr.size, d.draw h.ds.src h.ds.gr, h.ok, hB, hc⟩

theorem LD.made {w wr wm : World} {B : Nat} {a : Option Addr} {len cap kk : Nat} {ys : List Int} {v : Value} {zs : List ShI} {q : Nat} {x : StI} (h : LD w wr B a len cap kk ys v zs q x) {g n : Nat} (ho : wm.ownsRow w.heap.size 45 6 (.slice (some ⟨g, 0, none⟩) n n) n (madeCells (Value.agg #[.int .i64 0, .int .i64 0, .int .i64 0, .int .i64 0, .int .i64 0, .int .i64 0]).cells (n * 6)).toList) (hg : wr.grownBy wm none) : LD w wm B a len cap kk ys (.slice (some ⟨g, 0, none⟩) (List.replicate n (⟨0, 0, 0, 0, 0, 0⟩ : ShI)).length n) (List.replicate n ⟨0, 0, 0, 0, 0, 0⟩) q x := by
  refine ⟨⟨?_, h.ls.ds.row hg (fun q e => by cases e) h.ls.hB h.ls.code, fun z hz => by rw [(List.mem_replicate.1 hz).2]; decide, h.ls.hB, h.ls.code⟩, (hg.block q (Array.getElem?_eq_some_iff.1 h.bx).1 (by simp)).trans h.bx, h.gq⟩
  unfold OwnSh
  rw [List.length_replicate, zeroSh]
  have e : (madeCells (Value.agg #[.int .i64 0, .int .i64 0, .int .i64 0, .int .i64 0, .int .i64 0, .int .i64 0]).cells (n * 6)).toList = List.replicate (n * 6) (.int .i64 0) := by
    rw [List.eq_replicate_iff]
    refine ⟨by simp [size_madeCells], fun b hb => ?_⟩
    simp only [madeCells, Array.toList_map, List.mem_map] at hb
    obtain ⟨i, _, rfl⟩ := hb
    show (#[.int .i64 0, .int .i64 0, .int .i64 0, .int .i64 0, .int .i64 0, .int .i64 0] : Array Value)[i % 6]! = _
    have : i % 6 = 0 ∨ i % 6 = 1 ∨ i % 6 = 2 ∨ i % 6 = 3 ∨ i % 6 = 4 ∨ i % 6 = 5 := by omega
    rcases this with e | e | e | e | e | e <;> rw [e] <;> rfl
  rw [← e]
  exact ho

set_option maxRecDepth 20000 in
set_option maxHeartbeats 1000000 in
theorem with9_c (a : Option Addr) (len cap : Nat) (ys : List Int) (w : World) (h : CodeIn w a len ys) (hl : len ≤ 1048576) : GivesW9 43 a len cap w := by
  unfold GivesW9
  have RC : Hid (BoxW w.heap.size [.int .i64 0, .int .i64 0, .int .i64 0, .int .i64 0, .int .i64 0] ((w.alloc (.cells #[.int .i64 0, .int .i64 0, .int .i64 0, .int .i64 0, .int .i64 0] 26)).alloc (.cells #[.slice a len cap, .int .i64 0] 117))) := BoxW.below (boxW_new w _ _) (by simp) ((Below.refl _ _).alloc (Nat.le_refl _) _)
  have HS0 : Hid (SrcAt ((w.alloc (.cells #[.int .i64 0, .int .i64 0, .int .i64 0, .int .i64 0, .int .i64 0] 26)).alloc (.cells #[.slice a len cap, .int .i64 0] 117)) (w.heap.size + 1) a len cap 0 ys) := by
    have := src_new (w.alloc (.cells #[.int .i64 0, .int .i64 0, .int .i64 0, .int .i64 0, .int .i64 0] 26)) a len cap ys (h.kept (row := none) (grown_alloc w _) (fun _ _ _ => .inr (by simp)))
    have e : (w.alloc (.cells #[.int .i64 0, .int .i64 0, .int .i64 0, .int .i64 0, .int .i64 0] 26)).heap.size = w.heap.size + 1 := by simp
    rw [e] at this
    exact this
  have HB1 : Hid (Below w.heap.size w ((w.alloc (.cells #[.int .i64 0, .int .i64 0, .int .i64 0, .int .i64 0, .int .i64 0] 26)).alloc (.cells #[.slice a len cap, .int .i64 0] 117))) := ((Below.refl _ _).alloc (Nat.le_refl _) _).alloc (by simp) _
  have hsz : ((w.alloc (.cells #[.int .i64 0, .int .i64 0, .int .i64 0, .int .i64 0, .int .i64 0] 26)).alloc (.cells #[.slice a len cap, .int .i64 0] 117)).heap.size = w.heap.size + 2 := by simp
  obtain ⟨i0, hi, hz0, hz1, hz2⟩ := info_parts Try.info45
  have hun := Try.under24
  clear h
  go_enter Try.func43, Try.ntmps43
  go_wp2_with fail
  refine (source_c a len cap _).mono ?_
  rintro e w1 ⟨rfl, rfl⟩
  have hz : (w.alloc (.cells #[.int .i64 0, .int .i64 0, .int .i64 0, .int .i64 0, .int .i64 0] 26)).heap.size = w.heap.size + 1 := by simp
  rw [hz]
  generalize (w.alloc (.cells #[.int .i64 0, .int .i64 0, .int .i64 0, .int .i64 0, .int .i64 0] 26)).alloc (.cells #[.slice a len cap, .int .i64 0] 117) = W at RC HS0 HB1 hsz ⊢
  have HZ : Hid (W.heap.size = w.heap.size + 2) := hsz
  have HBE : Hid (w.heap.size + 1 = w.heap.size + 1) := rfl
  obtain ⟨B, hBe⟩ : ∃ B, B = w.heap.size + 1 := ⟨_, rfl⟩
  rw [← hBe] at HS0 ⊢
  have HBe : Hid (B = w.heap.size + 1) := hBe
  clear hz hsz HBE hBe
  go_wp2_with fail
  refine (next_c _ B a len cap 0 ys 2 HS0.out hl (by omega) (by omega) (by omega)).mono ?_
  rintro e w2 ⟨fv, fv0, fv1, rfl, hS, hG⟩
  have D2 := hid ((DS.start HS0.out).draw hS hG)
  clear hS hG
  go_wp2_with fail
  refine (draw9_c _ B a len cap 1 ys (1 + fv) D2.out.src hl (by omega) (by omega) (by omega)).mono ?_
  rintro e w3 ⟨v, zs, kk, rfl, hzl, hkk, hL⟩
  have L3 : Hid (LS W w3 B a len cap kk ys v zs) := LS.from D2.out hL HS0.out.lt HS0.out.code_lt
  clear hL D2
  obtain ⟨va, vc, rfl⟩ := L3.out.ow.slice
  go_wp2_with fail
  have HD := bent7_c _ B a len cap kk ys L3.out.ds.src hl (by omega)
  unfold GivesST at HD
  refine HD.mono ?_
  clear HD
  rintro e w4 ⟨x, k4, hk4, rfl, hS, hG⟩
  have L5 : Hid (LD W (w4.alloc (.cells #[.int .i64 x.k, .int .i64 x.e, .int .i64 x.f, .int .i64 x.s, .int .i64 x.n] 26)) B a len cap k4 ys (.slice va zs.length vc) zs w4.heap.size x) :=
    ⟨(L3.out.draw hS hG).below ((Below.refl _ _).alloc (Nat.le_refl _) _), heap_alloc_new w4 _, (L3.out.draw hS hG).ds.gr.size⟩
  clear hS hG L3
  by_cases hb0 : (0 : Int) < (zs.length : Int)
  · go_wp2_with fail
    generalize w4.alloc (.cells #[.int .i64 x.k, .int .i64 x.e, .int .i64 x.f, .int .i64 x.s, .int .i64 x.n] 26) = w5 at L5 ⊢
    generalize w4.heap.size = q at L5 ⊢
    refine (chance9_c _ B a len cap k4 ys 4 L5.out.ls.ds.src hl (by omega) (by omega) (by omega)).mono ?_
    rintro e w6 ⟨t, rfl, hS, hG⟩
    have L6 := hid (L5.out.draw hS hG)
    clear hS hG L5
    cases t
    · go_wp2_with fail
      refine (next_c _ B a len cap (k4 + 1) ys (zs.length : Int) L6.out.ls.ds.src hl (by omega) (by omega) (by omega)).mono ?_
      rintro e w6b ⟨i, i0', i1', rfl, hS, hG⟩
      have L6b := hid (L6.out.draw hS hG)
      clear hS hG L6
      obtain ⟨j, rfl⟩ := Int.eq_ofNat_of_zero_le i0'
      have hj : j < zs.length := by omega
      obtain ⟨g, z, rfl, d0, d1, d2, d3, d4⟩ := ShV.st L6b.out.ls.ow.view hj
      have L6c := hid (L6b.out.store ⟨z.k, z.e, z.f, z.s, z.n⟩)
      obtain ⟨⟨c0, c1, c2, c3, c4⟩, hfr, hq8⟩ := L6b.out.cells
      have f0 := hfr 0
      have f1 := hfr 1
      have f2 := hfr 2
      have f3 := hfr 3
      have f4 := hfr 4
      have hgl := World.block_lt_of_cell? _ _ d0
      clear L6b hfr
      go_wp2_with fail
      generalize ((((w6b.setCell ⟨q, 0, none⟩ (.int .i64 z.k)).setCell ⟨q, 1, none⟩ (.int .i64 z.e)).setCell ⟨q, 2, none⟩ (.int .i64 z.f)).setCell ⟨q, 3, none⟩ (.int .i64 z.s)).setCell ⟨q, 4, none⟩ (.int .i64 z.n) = w6d at L6c ⊢
      clear c0 c1 c2 c3 c4 f0 f1 f2 f3 f4 hq8 d0 d1 d2 d3 d4 hgl
      obtain ⟨x9, hx9⟩ : ∃ y : StI, y = ⟨z.k, z.e, z.f, z.s, z.n⟩ := ⟨_, rfl⟩
      rw [← hx9] at L6c
      clear hx9
      obtain ⟨va, hva⟩ : ∃ y : Option Addr, y = some ⟨g, 0, none⟩ := ⟨_, rfl⟩
      rw [← hva] at L6c ⊢
      clear hva
      refine (next_c _ B a len cap (k4 + 1 + 1) ys 16 L6c.out.ls.ds.src hl (by omega) (by omega) (by omega)).mono ?_
      rintro e w7 ⟨s, s0, s1, rfl, hS, hG⟩
      have HS7 := hid (L6c.out.draw hS hG)
      clear hS hG L6c
      by_cases e0 : s = 0
      · subst e0
        go_wp2_with fail
        refine (pick_any _ B a len cap (k4 + 1 + 1 + 1) ys HS7.out.ls.ds.src hl (by omega) [0, 1, 8] (by simp) (by simp)).mono ?_
        rintro e w8 ⟨p, hp, rfl, hS, hG⟩
        have HS8 := hid (HS7.out.draw hS hG)
        have hp0 : 0 ≤ p ∧ p ≤ 8 := by simp at hp; omega
        clear hS hG HS7 hp
        go_wp2_with fail
        have HD := bent7_c _ B a len cap (k4 + 1 + 1 + 1 + 1) ys HS8.out.ls.ds.src hl (by omega)
        unfold GivesST at HD
        refine HD.mono ?_
        clear HD
        rintro e w9 ⟨y, k9, hk9, rfl, hS, hG⟩
        have HS9 := hid (HS8.out.draw hS hG)
        clear hS hG HS8
        go_wp2_with (first
          | (at_builtin; refine wpList_append_own _ rfl _ _ 24 rfl W.heap.size 45 i0 (.agg #[.int .i64 0, .int .i64 0, .int .i64 0, .int .i64 0, .int .i64 0, .int .i64 0]) 6 48 hun hi hz0 hz1 hz2 rfl (by decide) _ zs.length (flatSh zs) rfl (HS9.out.ls.ow.alloc _) ⟨w9.heap.size, 0, none⟩ 1 1 [.int .i64 p, .int .i64 y.k, .int .i64 y.e, .int .i64 y.f, .int .i64 y.s, .int .i64 y.n] rfl rfl (cell_six w9 _) (by simp [Value.oneCell']) (by unfold maxLen; omega) (by omega) (by have := HS9.out.ls.ds.gr.size; simp; omega) ?_)
          | fail)
        intro v' w11 hown' hgrow hnil
        have HN := hid ((HS9.out.below ((Below.refl _ _).alloc (Nat.le_refl _) _)).push ⟨p, y.k, y.e, y.f, y.s, y.n⟩ hp0 (ownSh_push hown') hgrow)
        clear hown' hgrow hnil HS9
        obtain ⟨va', vc', rfl⟩ := HN.out.ls.ow.slice
        go_wp2_with fail
        obtain ⟨⟨c0, c1, c2, c3, c4⟩, -, hq8⟩ := HN.out.cells
        have HR := hid (HN.out.ls.ds.gr.block w.heap.size (by have := HZ.out; omega) (by have := HBe.out; simp; omega))
        have r0 := (World.cell?_of_block (a := ⟨w.heap.size, 0, none⟩) HR.out).trans (RC.out.1 0 _ rfl)
        have m0 := (World.frozen?_of_block (a := ⟨w.heap.size, 0, none⟩) HR.out).trans (RC.out.2 0)
        have r1 := (World.cell?_of_block (a := ⟨w.heap.size, 1, none⟩) HR.out).trans (RC.out.1 1 _ rfl)
        have m1 := (World.frozen?_of_block (a := ⟨w.heap.size, 1, none⟩) HR.out).trans (RC.out.2 1)
        have r2 := (World.cell?_of_block (a := ⟨w.heap.size, 2, none⟩) HR.out).trans (RC.out.1 2 _ rfl)
        have m2 := (World.frozen?_of_block (a := ⟨w.heap.size, 2, none⟩) HR.out).trans (RC.out.2 2)
        have r3 := (World.cell?_of_block (a := ⟨w.heap.size, 3, none⟩) HR.out).trans (RC.out.1 3 _ rfl)
        have m3 := (World.frozen?_of_block (a := ⟨w.heap.size, 3, none⟩) HR.out).trans (RC.out.2 3)
        have r4 := (World.cell?_of_block (a := ⟨w.heap.size, 4, none⟩) HR.out).trans (RC.out.1 4 _ rfl)
        have m4 := (World.frozen?_of_block (a := ⟨w.heap.size, 4, none⟩) HR.out).trans (RC.out.2 4)
        have hlt := Nat.lt_of_lt_of_le (show w.heap.size < W.heap.size by have := HZ.out; omega) HN.out.ls.ds.gr.size
        have hqw : w.heap.size ≠ q := by have := HN.out.gq; have := HZ.out; omega
        have hqw' := Ne.symm hqw
        go_region
        go_wp2
        refine bodyPost_ret (v := .tuple #[.slice va' (zs ++ [(⟨p, y.k, y.e, y.f, y.s, y.n⟩ : ShI)]).length vc', .int .i64 (1 + fv), .agg #[.int .i64 x9.k, .int .i64 x9.e, .int .i64 x9.f, .int .i64 x9.s, .int .i64 x9.n]]) (by simp [results, Try.results43, go_sem, r0, r1, r2, r3, r4, hlt]) rfl ⟨va', vc', zs ++ [(⟨p, y.k, y.e, y.f, y.s, y.n⟩ : ShI)], (1 + fv), x9, rfl, ?_, by omega, by omega, HN.out.ls.ok, ?_, ?_⟩
        · first | omega | (simp; done) | (simp; omega)
        · have h0 : World.ownsRow _ _ _ _ _ _ _ := HN.out.ls.ow
          have hWl : w.heap.size < W.heap.size := by have := HZ.out; omega
          have h1 := owns_drew9 (ownsE_set (ownsE_set (ownsE_set (ownsE_set (ownsE_set h0 (a := ⟨w.heap.size, 0, none⟩) hWl (.int .i64 x9.k)) (a := ⟨w.heap.size, 1, none⟩) hWl (.int .i64 x9.e)) (a := ⟨w.heap.size, 2, none⟩) hWl (.int .i64 x9.f)) (a := ⟨w.heap.size, 3, none⟩) hWl (.int .i64 x9.s)) (a := ⟨w.heap.size, 4, none⟩) hWl (.int .i64 x9.n))
          exact ownSh_lower h1 (Nat.le_of_lt hWl)
        · have hb := HB1.out.grown HN.out.ls.ds.gr (by have := HZ.out; omega) (fun k e => by have := HBe.out; simp at e; omega)
          exact (((((hb.setCell (p := ⟨w.heap.size, 0, none⟩) (Nat.le_refl _) _).setCell (p := ⟨w.heap.size, 1, none⟩) (Nat.le_refl _) _).setCell (p := ⟨w.heap.size, 2, none⟩) (Nat.le_refl _) _).setCell (p := ⟨w.heap.size, 3, none⟩) (Nat.le_refl _) _).setCell (p := ⟨w.heap.size, 4, none⟩) (Nat.le_refl _) _).drew
      by_cases e1 : s = 1
      · subst e1
        obtain ⟨wm, hmk, hownm, hgrm⟩ := run_make_full (P := Try.prog) (w := w7) W.heap.size 24 45 i0 (.agg #[.int .i64 0, .int .i64 0, .int .i64 0, .int .i64 0, .int .i64 0, .int .i64 0]) 6 hun hi hz0 hz1 .i64 .i64 121 (by rw [hz2]; omega) (by unfold maxLen; omega) HS7.out.ls.ds.gr.size
        have hmk' : (Instr.makeSlice 24 (.int .i64 121) (.int .i64 121)).run Try.prog w7 = .ok (.slice (some ⟨w7.heap.size, 0, none⟩) 121 121) wm := hmk
        have HN := hid (HS7.out.made hownm hgrm)
        clear hownm hgrm hmk HS7
        go_wp2_with fail
        obtain ⟨⟨c0, c1, c2, c3, c4⟩, -, hq8⟩ := HN.out.cells
        have HR := hid (HN.out.ls.ds.gr.block w.heap.size (by have := HZ.out; omega) (by have := HBe.out; simp; omega))
        have r0 := (World.cell?_of_block (a := ⟨w.heap.size, 0, none⟩) HR.out).trans (RC.out.1 0 _ rfl)
        have m0 := (World.frozen?_of_block (a := ⟨w.heap.size, 0, none⟩) HR.out).trans (RC.out.2 0)
        have r1 := (World.cell?_of_block (a := ⟨w.heap.size, 1, none⟩) HR.out).trans (RC.out.1 1 _ rfl)
        have m1 := (World.frozen?_of_block (a := ⟨w.heap.size, 1, none⟩) HR.out).trans (RC.out.2 1)
        have r2 := (World.cell?_of_block (a := ⟨w.heap.size, 2, none⟩) HR.out).trans (RC.out.1 2 _ rfl)
        have m2 := (World.frozen?_of_block (a := ⟨w.heap.size, 2, none⟩) HR.out).trans (RC.out.2 2)
        have r3 := (World.cell?_of_block (a := ⟨w.heap.size, 3, none⟩) HR.out).trans (RC.out.1 3 _ rfl)
        have m3 := (World.frozen?_of_block (a := ⟨w.heap.size, 3, none⟩) HR.out).trans (RC.out.2 3)
        have r4 := (World.cell?_of_block (a := ⟨w.heap.size, 4, none⟩) HR.out).trans (RC.out.1 4 _ rfl)
        have m4 := (World.frozen?_of_block (a := ⟨w.heap.size, 4, none⟩) HR.out).trans (RC.out.2 4)
        have hlt := Nat.lt_of_lt_of_le (show w.heap.size < W.heap.size by have := HZ.out; omega) HN.out.ls.ds.gr.size
        have hqw : w.heap.size ≠ q := by have := HN.out.gq; have := HZ.out; omega
        have hqw' := Ne.symm hqw
        go_region
        go_wp2
        refine bodyPost_ret (v := .tuple #[.slice (some (⟨w7.heap.size, 0, none⟩ : Addr)) (List.replicate 121 (⟨0, 0, 0, 0, 0, 0⟩ : ShI)).length 121, .int .i64 (1 + fv), .agg #[.int .i64 x9.k, .int .i64 x9.e, .int .i64 x9.f, .int .i64 x9.s, .int .i64 x9.n]]) (by simp [results, Try.results43, go_sem, r0, r1, r2, r3, r4, hlt]) rfl ⟨(some (⟨w7.heap.size, 0, none⟩ : Addr)), 121, List.replicate 121 (⟨0, 0, 0, 0, 0, 0⟩ : ShI), (1 + fv), x9, rfl, ?_, by omega, by omega, HN.out.ls.ok, ?_, ?_⟩
        · first | omega | (simp; done) | (simp; omega)
        · have h0 : World.ownsRow _ _ _ _ _ _ _ := HN.out.ls.ow
          have hWl : w.heap.size < W.heap.size := by have := HZ.out; omega
          have h1 := owns_drew9 (ownsE_set (ownsE_set (ownsE_set (ownsE_set (ownsE_set h0 (a := ⟨w.heap.size, 0, none⟩) hWl (.int .i64 x9.k)) (a := ⟨w.heap.size, 1, none⟩) hWl (.int .i64 x9.e)) (a := ⟨w.heap.size, 2, none⟩) hWl (.int .i64 x9.f)) (a := ⟨w.heap.size, 3, none⟩) hWl (.int .i64 x9.s)) (a := ⟨w.heap.size, 4, none⟩) hWl (.int .i64 x9.n))
          exact ownSh_lower h1 (Nat.le_of_lt hWl)
        · have hb := HB1.out.grown HN.out.ls.ds.gr (by have := HZ.out; omega) (fun k e => by have := HBe.out; simp at e; omega)
          exact (((((hb.setCell (p := ⟨w.heap.size, 0, none⟩) (Nat.le_refl _) _).setCell (p := ⟨w.heap.size, 1, none⟩) (Nat.le_refl _) _).setCell (p := ⟨w.heap.size, 2, none⟩) (Nat.le_refl _) _).setCell (p := ⟨w.heap.size, 3, none⟩) (Nat.le_refl _) _).setCell (p := ⟨w.heap.size, 4, none⟩) (Nat.le_refl _) _).drew
      by_cases e2 : s = 2
      · subst e2
        go_wp2_with fail
        refine (pick_any _ B a len cap (k4 + 1 + 1 + 1) ys HS7.out.ls.ds.src hl (by omega) [0, 3] (by simp) (by simp)).mono ?_
        rintro e w8 ⟨p, hp, rfl, hS, hG⟩
        have HS8 := hid (HS7.out.draw hS hG)
        have hp0 : 0 ≤ p ∧ p ≤ 3 := by simp at hp; omega
        clear hS hG HS7 hp
        go_wp2_with fail
        obtain ⟨⟨c0, c1, c2, c3, c4⟩, -, hq8⟩ := HS8.out.cells
        have HR := hid (HS8.out.ls.ds.gr.block w.heap.size (by have := HZ.out; omega) (by have := HBe.out; simp; omega))
        have r0 := (World.cell?_of_block (a := ⟨w.heap.size, 0, none⟩) HR.out).trans (RC.out.1 0 _ rfl)
        have m0 := (World.frozen?_of_block (a := ⟨w.heap.size, 0, none⟩) HR.out).trans (RC.out.2 0)
        have r1 := (World.cell?_of_block (a := ⟨w.heap.size, 1, none⟩) HR.out).trans (RC.out.1 1 _ rfl)
        have m1 := (World.frozen?_of_block (a := ⟨w.heap.size, 1, none⟩) HR.out).trans (RC.out.2 1)
        have r2 := (World.cell?_of_block (a := ⟨w.heap.size, 2, none⟩) HR.out).trans (RC.out.1 2 _ rfl)
        have m2 := (World.frozen?_of_block (a := ⟨w.heap.size, 2, none⟩) HR.out).trans (RC.out.2 2)
        have r3 := (World.cell?_of_block (a := ⟨w.heap.size, 3, none⟩) HR.out).trans (RC.out.1 3 _ rfl)
        have m3 := (World.frozen?_of_block (a := ⟨w.heap.size, 3, none⟩) HR.out).trans (RC.out.2 3)
        have r4 := (World.cell?_of_block (a := ⟨w.heap.size, 4, none⟩) HR.out).trans (RC.out.1 4 _ rfl)
        have m4 := (World.frozen?_of_block (a := ⟨w.heap.size, 4, none⟩) HR.out).trans (RC.out.2 4)
        have hlt := Nat.lt_of_lt_of_le (show w.heap.size < W.heap.size by have := HZ.out; omega) HS8.out.ls.ds.gr.size
        have hqw : w.heap.size ≠ q := by have := HS8.out.gq; have := HZ.out; omega
        have hqw' := Ne.symm hqw
        go_region
        go_wp2
        refine bodyPost_ret (v := .tuple #[.slice va (zs).length vc, .int .i64 p, .agg #[.int .i64 x9.k, .int .i64 x9.e, .int .i64 x9.f, .int .i64 x9.s, .int .i64 x9.n]]) (by simp [results, Try.results43, go_sem, r0, r1, r2, r3, r4, hlt]) rfl ⟨va, vc, zs, p, x9, rfl, ?_, by omega, by omega, HS8.out.ls.ok, ?_, ?_⟩
        · first | omega | (simp; done) | (simp; omega)
        · have h0 : World.ownsRow _ _ _ _ _ _ _ := HS8.out.ls.ow
          have hWl : w.heap.size < W.heap.size := by have := HZ.out; omega
          have h1 := owns_drew9 (ownsE_set (ownsE_set (ownsE_set (ownsE_set (ownsE_set h0 (a := ⟨w.heap.size, 0, none⟩) hWl (.int .i64 x9.k)) (a := ⟨w.heap.size, 1, none⟩) hWl (.int .i64 x9.e)) (a := ⟨w.heap.size, 2, none⟩) hWl (.int .i64 x9.f)) (a := ⟨w.heap.size, 3, none⟩) hWl (.int .i64 x9.s)) (a := ⟨w.heap.size, 4, none⟩) hWl (.int .i64 x9.n))
          exact ownSh_lower h1 (Nat.le_of_lt hWl)
        · have hb := HB1.out.grown HS8.out.ls.ds.gr (by have := HZ.out; omega) (fun k e => by have := HBe.out; simp at e; omega)
          exact (((((hb.setCell (p := ⟨w.heap.size, 0, none⟩) (Nat.le_refl _) _).setCell (p := ⟨w.heap.size, 1, none⟩) (Nat.le_refl _) _).setCell (p := ⟨w.heap.size, 2, none⟩) (Nat.le_refl _) _).setCell (p := ⟨w.heap.size, 3, none⟩) (Nat.le_refl _) _).setCell (p := ⟨w.heap.size, 4, none⟩) (Nat.le_refl _) _).drew
      go_wp2_with fail
      obtain ⟨⟨c0, c1, c2, c3, c4⟩, -, hq8⟩ := HS7.out.cells
      have HR := hid (HS7.out.ls.ds.gr.block w.heap.size (by have := HZ.out; omega) (by have := HBe.out; simp; omega))
      have r0 := (World.cell?_of_block (a := ⟨w.heap.size, 0, none⟩) HR.out).trans (RC.out.1 0 _ rfl)
      have m0 := (World.frozen?_of_block (a := ⟨w.heap.size, 0, none⟩) HR.out).trans (RC.out.2 0)
      have r1 := (World.cell?_of_block (a := ⟨w.heap.size, 1, none⟩) HR.out).trans (RC.out.1 1 _ rfl)
      have m1 := (World.frozen?_of_block (a := ⟨w.heap.size, 1, none⟩) HR.out).trans (RC.out.2 1)
      have r2 := (World.cell?_of_block (a := ⟨w.heap.size, 2, none⟩) HR.out).trans (RC.out.1 2 _ rfl)
      have m2 := (World.frozen?_of_block (a := ⟨w.heap.size, 2, none⟩) HR.out).trans (RC.out.2 2)
      have r3 := (World.cell?_of_block (a := ⟨w.heap.size, 3, none⟩) HR.out).trans (RC.out.1 3 _ rfl)
      have m3 := (World.frozen?_of_block (a := ⟨w.heap.size, 3, none⟩) HR.out).trans (RC.out.2 3)
      have r4 := (World.cell?_of_block (a := ⟨w.heap.size, 4, none⟩) HR.out).trans (RC.out.1 4 _ rfl)
      have m4 := (World.frozen?_of_block (a := ⟨w.heap.size, 4, none⟩) HR.out).trans (RC.out.2 4)
      have hlt := Nat.lt_of_lt_of_le (show w.heap.size < W.heap.size by have := HZ.out; omega) HS7.out.ls.ds.gr.size
      have hqw : w.heap.size ≠ q := by have := HS7.out.gq; have := HZ.out; omega
      have hqw' := Ne.symm hqw
      go_region
      go_wp2
      refine bodyPost_ret (v := .tuple #[.slice va (zs).length vc, .int .i64 (1 + fv), .agg #[.int .i64 x9.k, .int .i64 x9.e, .int .i64 x9.f, .int .i64 x9.s, .int .i64 x9.n]]) (by simp [results, Try.results43, go_sem, r0, r1, r2, r3, r4, hlt]) rfl ⟨va, vc, zs, (1 + fv), x9, rfl, ?_, by omega, by omega, HS7.out.ls.ok, ?_, ?_⟩
      · first | omega | (simp; done) | (simp; omega)
      · have h0 : World.ownsRow _ _ _ _ _ _ _ := HS7.out.ls.ow
        have hWl : w.heap.size < W.heap.size := by have := HZ.out; omega
        have h1 := owns_drew9 (ownsE_set (ownsE_set (ownsE_set (ownsE_set (ownsE_set h0 (a := ⟨w.heap.size, 0, none⟩) hWl (.int .i64 x9.k)) (a := ⟨w.heap.size, 1, none⟩) hWl (.int .i64 x9.e)) (a := ⟨w.heap.size, 2, none⟩) hWl (.int .i64 x9.f)) (a := ⟨w.heap.size, 3, none⟩) hWl (.int .i64 x9.s)) (a := ⟨w.heap.size, 4, none⟩) hWl (.int .i64 x9.n))
        exact ownSh_lower h1 (Nat.le_of_lt hWl)
      · have hb := HB1.out.grown HS7.out.ls.ds.gr (by have := HZ.out; omega) (fun k e => by have := HBe.out; simp at e; omega)
        exact (((((hb.setCell (p := ⟨w.heap.size, 0, none⟩) (Nat.le_refl _) _).setCell (p := ⟨w.heap.size, 1, none⟩) (Nat.le_refl _) _).setCell (p := ⟨w.heap.size, 2, none⟩) (Nat.le_refl _) _).setCell (p := ⟨w.heap.size, 3, none⟩) (Nat.le_refl _) _).setCell (p := ⟨w.heap.size, 4, none⟩) (Nat.le_refl _) _).drew
    · go_wp2_with fail
      refine (next_c _ B a len cap (k4 + 1) ys 16 L6.out.ls.ds.src hl (by omega) (by omega) (by omega)).mono ?_
      rintro e w7 ⟨s, s0, s1, rfl, hS, hG⟩
      have HS7 := hid (L6.out.draw hS hG)
      clear hS hG L6
      by_cases e0 : s = 0
      · subst e0
        go_wp2_with fail
        refine (pick_any _ B a len cap (k4 + 1 + 1) ys HS7.out.ls.ds.src hl (by omega) [0, 1, 8] (by simp) (by simp)).mono ?_
        rintro e w8 ⟨p, hp, rfl, hS, hG⟩
        have HS8 := hid (HS7.out.draw hS hG)
        have hp0 : 0 ≤ p ∧ p ≤ 8 := by simp at hp; omega
        clear hS hG HS7 hp
        go_wp2_with fail
        have HD := bent7_c _ B a len cap (k4 + 1 + 1 + 1) ys HS8.out.ls.ds.src hl (by omega)
        unfold GivesST at HD
        refine HD.mono ?_
        clear HD
        rintro e w9 ⟨y, k9, hk9, rfl, hS, hG⟩
        have HS9 := hid (HS8.out.draw hS hG)
        clear hS hG HS8
        go_wp2_with (first
          | (at_builtin; refine wpList_append_own _ rfl _ _ 24 rfl W.heap.size 45 i0 (.agg #[.int .i64 0, .int .i64 0, .int .i64 0, .int .i64 0, .int .i64 0, .int .i64 0]) 6 48 hun hi hz0 hz1 hz2 rfl (by decide) _ zs.length (flatSh zs) rfl (HS9.out.ls.ow.alloc _) ⟨w9.heap.size, 0, none⟩ 1 1 [.int .i64 p, .int .i64 y.k, .int .i64 y.e, .int .i64 y.f, .int .i64 y.s, .int .i64 y.n] rfl rfl (cell_six w9 _) (by simp [Value.oneCell']) (by unfold maxLen; omega) (by omega) (by have := HS9.out.ls.ds.gr.size; simp; omega) ?_)
          | fail)
        intro v' w11 hown' hgrow hnil
        have HN := hid ((HS9.out.below ((Below.refl _ _).alloc (Nat.le_refl _) _)).push ⟨p, y.k, y.e, y.f, y.s, y.n⟩ hp0 (ownSh_push hown') hgrow)
        clear hown' hgrow hnil HS9
        obtain ⟨va', vc', rfl⟩ := HN.out.ls.ow.slice
        go_wp2_with fail
        obtain ⟨⟨c0, c1, c2, c3, c4⟩, -, hq8⟩ := HN.out.cells
        have HR := hid (HN.out.ls.ds.gr.block w.heap.size (by have := HZ.out; omega) (by have := HBe.out; simp; omega))
        have r0 := (World.cell?_of_block (a := ⟨w.heap.size, 0, none⟩) HR.out).trans (RC.out.1 0 _ rfl)
        have m0 := (World.frozen?_of_block (a := ⟨w.heap.size, 0, none⟩) HR.out).trans (RC.out.2 0)
        have r1 := (World.cell?_of_block (a := ⟨w.heap.size, 1, none⟩) HR.out).trans (RC.out.1 1 _ rfl)
        have m1 := (World.frozen?_of_block (a := ⟨w.heap.size, 1, none⟩) HR.out).trans (RC.out.2 1)
        have r2 := (World.cell?_of_block (a := ⟨w.heap.size, 2, none⟩) HR.out).trans (RC.out.1 2 _ rfl)
        have m2 := (World.frozen?_of_block (a := ⟨w.heap.size, 2, none⟩) HR.out).trans (RC.out.2 2)
        have r3 := (World.cell?_of_block (a := ⟨w.heap.size, 3, none⟩) HR.out).trans (RC.out.1 3 _ rfl)
        have m3 := (World.frozen?_of_block (a := ⟨w.heap.size, 3, none⟩) HR.out).trans (RC.out.2 3)
        have r4 := (World.cell?_of_block (a := ⟨w.heap.size, 4, none⟩) HR.out).trans (RC.out.1 4 _ rfl)
        have m4 := (World.frozen?_of_block (a := ⟨w.heap.size, 4, none⟩) HR.out).trans (RC.out.2 4)
        have hlt := Nat.lt_of_lt_of_le (show w.heap.size < W.heap.size by have := HZ.out; omega) HN.out.ls.ds.gr.size
        have hqw : w.heap.size ≠ q := by have := HN.out.gq; have := HZ.out; omega
        have hqw' := Ne.symm hqw
        go_region
        go_wp2
        refine bodyPost_ret (v := .tuple #[.slice va' (zs ++ [(⟨p, y.k, y.e, y.f, y.s, y.n⟩ : ShI)]).length vc', .int .i64 (1 + fv), .agg #[.int .i64 x.k, .int .i64 x.e, .int .i64 x.f, .int .i64 x.s, .int .i64 x.n]]) (by simp [results, Try.results43, go_sem, r0, r1, r2, r3, r4, hlt]) rfl ⟨va', vc', zs ++ [(⟨p, y.k, y.e, y.f, y.s, y.n⟩ : ShI)], (1 + fv), x, rfl, ?_, by omega, by omega, HN.out.ls.ok, ?_, ?_⟩
        · first | omega | (simp; done) | (simp; omega)
        · have h0 : World.ownsRow _ _ _ _ _ _ _ := HN.out.ls.ow
          have hWl : w.heap.size < W.heap.size := by have := HZ.out; omega
          have h1 := owns_drew9 (ownsE_set (ownsE_set (ownsE_set (ownsE_set (ownsE_set h0 (a := ⟨w.heap.size, 0, none⟩) hWl (.int .i64 x.k)) (a := ⟨w.heap.size, 1, none⟩) hWl (.int .i64 x.e)) (a := ⟨w.heap.size, 2, none⟩) hWl (.int .i64 x.f)) (a := ⟨w.heap.size, 3, none⟩) hWl (.int .i64 x.s)) (a := ⟨w.heap.size, 4, none⟩) hWl (.int .i64 x.n))
          exact ownSh_lower h1 (Nat.le_of_lt hWl)
        · have hb := HB1.out.grown HN.out.ls.ds.gr (by have := HZ.out; omega) (fun k e => by have := HBe.out; simp at e; omega)
          exact (((((hb.setCell (p := ⟨w.heap.size, 0, none⟩) (Nat.le_refl _) _).setCell (p := ⟨w.heap.size, 1, none⟩) (Nat.le_refl _) _).setCell (p := ⟨w.heap.size, 2, none⟩) (Nat.le_refl _) _).setCell (p := ⟨w.heap.size, 3, none⟩) (Nat.le_refl _) _).setCell (p := ⟨w.heap.size, 4, none⟩) (Nat.le_refl _) _).drew
      by_cases e1 : s = 1
      · subst e1
        obtain ⟨wm, hmk, hownm, hgrm⟩ := run_make_full (P := Try.prog) (w := w7) W.heap.size 24 45 i0 (.agg #[.int .i64 0, .int .i64 0, .int .i64 0, .int .i64 0, .int .i64 0, .int .i64 0]) 6 hun hi hz0 hz1 .i64 .i64 121 (by rw [hz2]; omega) (by unfold maxLen; omega) HS7.out.ls.ds.gr.size
        have hmk' : (Instr.makeSlice 24 (.int .i64 121) (.int .i64 121)).run Try.prog w7 = .ok (.slice (some ⟨w7.heap.size, 0, none⟩) 121 121) wm := hmk
        have HN := hid (HS7.out.made hownm hgrm)
        clear hownm hgrm hmk HS7
        go_wp2_with fail
        obtain ⟨⟨c0, c1, c2, c3, c4⟩, -, hq8⟩ := HN.out.cells
        have HR := hid (HN.out.ls.ds.gr.block w.heap.size (by have := HZ.out; omega) (by have := HBe.out; simp; omega))
        have r0 := (World.cell?_of_block (a := ⟨w.heap.size, 0, none⟩) HR.out).trans (RC.out.1 0 _ rfl)
        have m0 := (World.frozen?_of_block (a := ⟨w.heap.size, 0, none⟩) HR.out).trans (RC.out.2 0)
        have r1 := (World.cell?_of_block (a := ⟨w.heap.size, 1, none⟩) HR.out).trans (RC.out.1 1 _ rfl)
        have m1 := (World.frozen?_of_block (a := ⟨w.heap.size, 1, none⟩) HR.out).trans (RC.out.2 1)
        have r2 := (World.cell?_of_block (a := ⟨w.heap.size, 2, none⟩) HR.out).trans (RC.out.1 2 _ rfl)
        have m2 := (World.frozen?_of_block (a := ⟨w.heap.size, 2, none⟩) HR.out).trans (RC.out.2 2)
        have r3 := (World.cell?_of_block (a := ⟨w.heap.size, 3, none⟩) HR.out).trans (RC.out.1 3 _ rfl)
        have m3 := (World.frozen?_of_block (a := ⟨w.heap.size, 3, none⟩) HR.out).trans (RC.out.2 3)
        have r4 := (World.cell?_of_block (a := ⟨w.heap.size, 4, none⟩) HR.out).trans (RC.out.1 4 _ rfl)
        have m4 := (World.frozen?_of_block (a := ⟨w.heap.size, 4, none⟩) HR.out).trans (RC.out.2 4)
        have hlt := Nat.lt_of_lt_of_le (show w.heap.size < W.heap.size by have := HZ.out; omega) HN.out.ls.ds.gr.size
        have hqw : w.heap.size ≠ q := by have := HN.out.gq; have := HZ.out; omega
        have hqw' := Ne.symm hqw
        go_region
        go_wp2
        refine bodyPost_ret (v := .tuple #[.slice (some (⟨w7.heap.size, 0, none⟩ : Addr)) (List.replicate 121 (⟨0, 0, 0, 0, 0, 0⟩ : ShI)).length 121, .int .i64 (1 + fv), .agg #[.int .i64 x.k, .int .i64 x.e, .int .i64 x.f, .int .i64 x.s, .int .i64 x.n]]) (by simp [results, Try.results43, go_sem, r0, r1, r2, r3, r4, hlt]) rfl ⟨(some (⟨w7.heap.size, 0, none⟩ : Addr)), 121, List.replicate 121 (⟨0, 0, 0, 0, 0, 0⟩ : ShI), (1 + fv), x, rfl, ?_, by omega, by omega, HN.out.ls.ok, ?_, ?_⟩
        · first | omega | (simp; done) | (simp; omega)
        · have h0 : World.ownsRow _ _ _ _ _ _ _ := HN.out.ls.ow
          have hWl : w.heap.size < W.heap.size := by have := HZ.out; omega
          have h1 := owns_drew9 (ownsE_set (ownsE_set (ownsE_set (ownsE_set (ownsE_set h0 (a := ⟨w.heap.size, 0, none⟩) hWl (.int .i64 x.k)) (a := ⟨w.heap.size, 1, none⟩) hWl (.int .i64 x.e)) (a := ⟨w.heap.size, 2, none⟩) hWl (.int .i64 x.f)) (a := ⟨w.heap.size, 3, none⟩) hWl (.int .i64 x.s)) (a := ⟨w.heap.size, 4, none⟩) hWl (.int .i64 x.n))
          exact ownSh_lower h1 (Nat.le_of_lt hWl)
        · have hb := HB1.out.grown HN.out.ls.ds.gr (by have := HZ.out; omega) (fun k e => by have := HBe.out; simp at e; omega)
          exact (((((hb.setCell (p := ⟨w.heap.size, 0, none⟩) (Nat.le_refl _) _).setCell (p := ⟨w.heap.size, 1, none⟩) (Nat.le_refl _) _).setCell (p := ⟨w.heap.size, 2, none⟩) (Nat.le_refl _) _).setCell (p := ⟨w.heap.size, 3, none⟩) (Nat.le_refl _) _).setCell (p := ⟨w.heap.size, 4, none⟩) (Nat.le_refl _) _).drew
      by_cases e2 : s = 2
      · subst e2
        go_wp2_with fail
        refine (pick_any _ B a len cap (k4 + 1 + 1) ys HS7.out.ls.ds.src hl (by omega) [0, 3] (by simp) (by simp)).mono ?_
        rintro e w8 ⟨p, hp, rfl, hS, hG⟩
        have HS8 := hid (HS7.out.draw hS hG)
        have hp0 : 0 ≤ p ∧ p ≤ 3 := by simp at hp; omega
        clear hS hG HS7 hp
        go_wp2_with fail
        obtain ⟨⟨c0, c1, c2, c3, c4⟩, -, hq8⟩ := HS8.out.cells
        have HR := hid (HS8.out.ls.ds.gr.block w.heap.size (by have := HZ.out; omega) (by have := HBe.out; simp; omega))
        have r0 := (World.cell?_of_block (a := ⟨w.heap.size, 0, none⟩) HR.out).trans (RC.out.1 0 _ rfl)
        have m0 := (World.frozen?_of_block (a := ⟨w.heap.size, 0, none⟩) HR.out).trans (RC.out.2 0)
        have r1 := (World.cell?_of_block (a := ⟨w.heap.size, 1, none⟩) HR.out).trans (RC.out.1 1 _ rfl)
        have m1 := (World.frozen?_of_block (a := ⟨w.heap.size, 1, none⟩) HR.out).trans (RC.out.2 1)
        have r2 := (World.cell?_of_block (a := ⟨w.heap.size, 2, none⟩) HR.out).trans (RC.out.1 2 _ rfl)
        have m2 := (World.frozen?_of_block (a := ⟨w.heap.size, 2, none⟩) HR.out).trans (RC.out.2 2)
        have r3 := (World.cell?_of_block (a := ⟨w.heap.size, 3, none⟩) HR.out).trans (RC.out.1 3 _ rfl)
        have m3 := (World.frozen?_of_block (a := ⟨w.heap.size, 3, none⟩) HR.out).trans (RC.out.2 3)
        have r4 := (World.cell?_of_block (a := ⟨w.heap.size, 4, none⟩) HR.out).trans (RC.out.1 4 _ rfl)
        have m4 := (World.frozen?_of_block (a := ⟨w.heap.size, 4, none⟩) HR.out).trans (RC.out.2 4)
        have hlt := Nat.lt_of_lt_of_le (show w.heap.size < W.heap.size by have := HZ.out; omega) HS8.out.ls.ds.gr.size
        have hqw : w.heap.size ≠ q := by have := HS8.out.gq; have := HZ.out; omega
        have hqw' := Ne.symm hqw
        go_region
        go_wp2
        refine bodyPost_ret (v := .tuple #[.slice va (zs).length vc, .int .i64 p, .agg #[.int .i64 x.k, .int .i64 x.e, .int .i64 x.f, .int .i64 x.s, .int .i64 x.n]]) (by simp [results, Try.results43, go_sem, r0, r1, r2, r3, r4, hlt]) rfl ⟨va, vc, zs, p, x, rfl, ?_, by omega, by omega, HS8.out.ls.ok, ?_, ?_⟩
        · first | omega | (simp; done) | (simp; omega)
        · have h0 : World.ownsRow _ _ _ _ _ _ _ := HS8.out.ls.ow
          have hWl : w.heap.size < W.heap.size := by have := HZ.out; omega
          have h1 := owns_drew9 (ownsE_set (ownsE_set (ownsE_set (ownsE_set (ownsE_set h0 (a := ⟨w.heap.size, 0, none⟩) hWl (.int .i64 x.k)) (a := ⟨w.heap.size, 1, none⟩) hWl (.int .i64 x.e)) (a := ⟨w.heap.size, 2, none⟩) hWl (.int .i64 x.f)) (a := ⟨w.heap.size, 3, none⟩) hWl (.int .i64 x.s)) (a := ⟨w.heap.size, 4, none⟩) hWl (.int .i64 x.n))
          exact ownSh_lower h1 (Nat.le_of_lt hWl)
        · have hb := HB1.out.grown HS8.out.ls.ds.gr (by have := HZ.out; omega) (fun k e => by have := HBe.out; simp at e; omega)
          exact (((((hb.setCell (p := ⟨w.heap.size, 0, none⟩) (Nat.le_refl _) _).setCell (p := ⟨w.heap.size, 1, none⟩) (Nat.le_refl _) _).setCell (p := ⟨w.heap.size, 2, none⟩) (Nat.le_refl _) _).setCell (p := ⟨w.heap.size, 3, none⟩) (Nat.le_refl _) _).setCell (p := ⟨w.heap.size, 4, none⟩) (Nat.le_refl _) _).drew
      go_wp2_with fail
      obtain ⟨⟨c0, c1, c2, c3, c4⟩, -, hq8⟩ := HS7.out.cells
      have HR := hid (HS7.out.ls.ds.gr.block w.heap.size (by have := HZ.out; omega) (by have := HBe.out; simp; omega))
      have r0 := (World.cell?_of_block (a := ⟨w.heap.size, 0, none⟩) HR.out).trans (RC.out.1 0 _ rfl)
      have m0 := (World.frozen?_of_block (a := ⟨w.heap.size, 0, none⟩) HR.out).trans (RC.out.2 0)
      have r1 := (World.cell?_of_block (a := ⟨w.heap.size, 1, none⟩) HR.out).trans (RC.out.1 1 _ rfl)
      have m1 := (World.frozen?_of_block (a := ⟨w.heap.size, 1, none⟩) HR.out).trans (RC.out.2 1)
      have r2 := (World.cell?_of_block (a := ⟨w.heap.size, 2, none⟩) HR.out).trans (RC.out.1 2 _ rfl)
      have m2 := (World.frozen?_of_block (a := ⟨w.heap.size, 2, none⟩) HR.out).trans (RC.out.2 2)
      have r3 := (World.cell?_of_block (a := ⟨w.heap.size, 3, none⟩) HR.out).trans (RC.out.1 3 _ rfl)
      have m3 := (World.frozen?_of_block (a := ⟨w.heap.size, 3, none⟩) HR.out).trans (RC.out.2 3)
      have r4 := (World.cell?_of_block (a := ⟨w.heap.size, 4, none⟩) HR.out).trans (RC.out.1 4 _ rfl)
      have m4 := (World.frozen?_of_block (a := ⟨w.heap.size, 4, none⟩) HR.out).trans (RC.out.2 4)
      have hlt := Nat.lt_of_lt_of_le (show w.heap.size < W.heap.size by have := HZ.out; omega) HS7.out.ls.ds.gr.size
      have hqw : w.heap.size ≠ q := by have := HS7.out.gq; have := HZ.out; omega
      have hqw' := Ne.symm hqw
      go_region
      go_wp2
      refine bodyPost_ret (v := .tuple #[.slice va (zs).length vc, .int .i64 (1 + fv), .agg #[.int .i64 x.k, .int .i64 x.e, .int .i64 x.f, .int .i64 x.s, .int .i64 x.n]]) (by simp [results, Try.results43, go_sem, r0, r1, r2, r3, r4, hlt]) rfl ⟨va, vc, zs, (1 + fv), x, rfl, ?_, by omega, by omega, HS7.out.ls.ok, ?_, ?_⟩
      · first | omega | (simp; done) | (simp; omega)
      · have h0 : World.ownsRow _ _ _ _ _ _ _ := HS7.out.ls.ow
        have hWl : w.heap.size < W.heap.size := by have := HZ.out; omega
        have h1 := owns_drew9 (ownsE_set (ownsE_set (ownsE_set (ownsE_set (ownsE_set h0 (a := ⟨w.heap.size, 0, none⟩) hWl (.int .i64 x.k)) (a := ⟨w.heap.size, 1, none⟩) hWl (.int .i64 x.e)) (a := ⟨w.heap.size, 2, none⟩) hWl (.int .i64 x.f)) (a := ⟨w.heap.size, 3, none⟩) hWl (.int .i64 x.s)) (a := ⟨w.heap.size, 4, none⟩) hWl (.int .i64 x.n))
        exact ownSh_lower h1 (Nat.le_of_lt hWl)
      · have hb := HB1.out.grown HS7.out.ls.ds.gr (by have := HZ.out; omega) (fun k e => by have := HBe.out; simp at e; omega)
        exact (((((hb.setCell (p := ⟨w.heap.size, 0, none⟩) (Nat.le_refl _) _).setCell (p := ⟨w.heap.size, 1, none⟩) (Nat.le_refl _) _).setCell (p := ⟨w.heap.size, 2, none⟩) (Nat.le_refl _) _).setCell (p := ⟨w.heap.size, 3, none⟩) (Nat.le_refl _) _).setCell (p := ⟨w.heap.size, 4, none⟩) (Nat.le_refl _) _).drew
  · go_wp2_with fail
    generalize w4.alloc (.cells #[.int .i64 x.k, .int .i64 x.e, .int .i64 x.f, .int .i64 x.s, .int .i64 x.n] 26) = w5 at L5 ⊢
    generalize w4.heap.size = q at L5 ⊢
    refine (next_c _ B a len cap (k4) ys 16 L5.out.ls.ds.src hl (by omega) (by omega) (by omega)).mono ?_
    rintro e w7 ⟨s, s0, s1, rfl, hS, hG⟩
    have HS7 := hid (L5.out.draw hS hG)
    clear hS hG L5
    by_cases e0 : s = 0
    · subst e0
      go_wp2_with fail
      refine (pick_any _ B a len cap (k4 + 1) ys HS7.out.ls.ds.src hl (by omega) [0, 1, 8] (by simp) (by simp)).mono ?_
      rintro e w8 ⟨p, hp, rfl, hS, hG⟩
      have HS8 := hid (HS7.out.draw hS hG)
      have hp0 : 0 ≤ p ∧ p ≤ 8 := by simp at hp; omega
      clear hS hG HS7 hp
      go_wp2_with fail
      have HD := bent7_c _ B a len cap (k4 + 1 + 1) ys HS8.out.ls.ds.src hl (by omega)
      unfold GivesST at HD
      refine HD.mono ?_
      clear HD
      rintro e w9 ⟨y, k9, hk9, rfl, hS, hG⟩
      have HS9 := hid (HS8.out.draw hS hG)
      clear hS hG HS8
      go_wp2_with (first
        | (at_builtin; refine wpList_append_own _ rfl _ _ 24 rfl W.heap.size 45 i0 (.agg #[.int .i64 0, .int .i64 0, .int .i64 0, .int .i64 0, .int .i64 0, .int .i64 0]) 6 48 hun hi hz0 hz1 hz2 rfl (by decide) _ zs.length (flatSh zs) rfl (HS9.out.ls.ow.alloc _) ⟨w9.heap.size, 0, none⟩ 1 1 [.int .i64 p, .int .i64 y.k, .int .i64 y.e, .int .i64 y.f, .int .i64 y.s, .int .i64 y.n] rfl rfl (cell_six w9 _) (by simp [Value.oneCell']) (by unfold maxLen; omega) (by omega) (by have := HS9.out.ls.ds.gr.size; simp; omega) ?_)
        | fail)
      intro v' w11 hown' hgrow hnil
      have HN := hid ((HS9.out.below ((Below.refl _ _).alloc (Nat.le_refl _) _)).push ⟨p, y.k, y.e, y.f, y.s, y.n⟩ hp0 (ownSh_push hown') hgrow)
      clear hown' hgrow hnil HS9
      obtain ⟨va', vc', rfl⟩ := HN.out.ls.ow.slice
      go_wp2_with fail
      obtain ⟨⟨c0, c1, c2, c3, c4⟩, -, hq8⟩ := HN.out.cells
      have HR := hid (HN.out.ls.ds.gr.block w.heap.size (by have := HZ.out; omega) (by have := HBe.out; simp; omega))
      have r0 := (World.cell?_of_block (a := ⟨w.heap.size, 0, none⟩) HR.out).trans (RC.out.1 0 _ rfl)
      have m0 := (World.frozen?_of_block (a := ⟨w.heap.size, 0, none⟩) HR.out).trans (RC.out.2 0)
      have r1 := (World.cell?_of_block (a := ⟨w.heap.size, 1, none⟩) HR.out).trans (RC.out.1 1 _ rfl)
      have m1 := (World.frozen?_of_block (a := ⟨w.heap.size, 1, none⟩) HR.out).trans (RC.out.2 1)
      have r2 := (World.cell?_of_block (a := ⟨w.heap.size, 2, none⟩) HR.out).trans (RC.out.1 2 _ rfl)
      have m2 := (World.frozen?_of_block (a := ⟨w.heap.size, 2, none⟩) HR.out).trans (RC.out.2 2)
      have r3 := (World.cell?_of_block (a := ⟨w.heap.size, 3, none⟩) HR.out).trans (RC.out.1 3 _ rfl)
      have m3 := (World.frozen?_of_block (a := ⟨w.heap.size, 3, none⟩) HR.out).trans (RC.out.2 3)
      have r4 := (World.cell?_of_block (a := ⟨w.heap.size, 4, none⟩) HR.out).trans (RC.out.1 4 _ rfl)
      have m4 := (World.frozen?_of_block (a := ⟨w.heap.size, 4, none⟩) HR.out).trans (RC.out.2 4)
      have hlt := Nat.lt_of_lt_of_le (show w.heap.size < W.heap.size by have := HZ.out; omega) HN.out.ls.ds.gr.size
      have hqw : w.heap.size ≠ q := by have := HN.out.gq; have := HZ.out; omega
      have hqw' := Ne.symm hqw
      go_region
      go_wp2
      refine bodyPost_ret (v := .tuple #[.slice va' (zs ++ [(⟨p, y.k, y.e, y.f, y.s, y.n⟩ : ShI)]).length vc', .int .i64 (1 + fv), .agg #[.int .i64 x.k, .int .i64 x.e, .int .i64 x.f, .int .i64 x.s, .int .i64 x.n]]) (by simp [results, Try.results43, go_sem, r0, r1, r2, r3, r4, hlt]) rfl ⟨va', vc', zs ++ [(⟨p, y.k, y.e, y.f, y.s, y.n⟩ : ShI)], (1 + fv), x, rfl, ?_, by omega, by omega, HN.out.ls.ok, ?_, ?_⟩
      · first | omega | (simp; done) | (simp; omega)
      · have h0 : World.ownsRow _ _ _ _ _ _ _ := HN.out.ls.ow
        have hWl : w.heap.size < W.heap.size := by have := HZ.out; omega
        have h1 := owns_drew9 (ownsE_set (ownsE_set (ownsE_set (ownsE_set (ownsE_set h0 (a := ⟨w.heap.size, 0, none⟩) hWl (.int .i64 x.k)) (a := ⟨w.heap.size, 1, none⟩) hWl (.int .i64 x.e)) (a := ⟨w.heap.size, 2, none⟩) hWl (.int .i64 x.f)) (a := ⟨w.heap.size, 3, none⟩) hWl (.int .i64 x.s)) (a := ⟨w.heap.size, 4, none⟩) hWl (.int .i64 x.n))
        exact ownSh_lower h1 (Nat.le_of_lt hWl)
      · have hb := HB1.out.grown HN.out.ls.ds.gr (by have := HZ.out; omega) (fun k e => by have := HBe.out; simp at e; omega)
        exact (((((hb.setCell (p := ⟨w.heap.size, 0, none⟩) (Nat.le_refl _) _).setCell (p := ⟨w.heap.size, 1, none⟩) (Nat.le_refl _) _).setCell (p := ⟨w.heap.size, 2, none⟩) (Nat.le_refl _) _).setCell (p := ⟨w.heap.size, 3, none⟩) (Nat.le_refl _) _).setCell (p := ⟨w.heap.size, 4, none⟩) (Nat.le_refl _) _).drew
    by_cases e1 : s = 1
    · subst e1
      obtain ⟨wm, hmk, hownm, hgrm⟩ := run_make_full (P := Try.prog) (w := w7) W.heap.size 24 45 i0 (.agg #[.int .i64 0, .int .i64 0, .int .i64 0, .int .i64 0, .int .i64 0, .int .i64 0]) 6 hun hi hz0 hz1 .i64 .i64 121 (by rw [hz2]; omega) (by unfold maxLen; omega) HS7.out.ls.ds.gr.size
      have hmk' : (Instr.makeSlice 24 (.int .i64 121) (.int .i64 121)).run Try.prog w7 = .ok (.slice (some ⟨w7.heap.size, 0, none⟩) 121 121) wm := hmk
      have HN := hid (HS7.out.made hownm hgrm)
      clear hownm hgrm hmk HS7
      go_wp2_with fail
      obtain ⟨⟨c0, c1, c2, c3, c4⟩, -, hq8⟩ := HN.out.cells
      have HR := hid (HN.out.ls.ds.gr.block w.heap.size (by have := HZ.out; omega) (by have := HBe.out; simp; omega))
      have r0 := (World.cell?_of_block (a := ⟨w.heap.size, 0, none⟩) HR.out).trans (RC.out.1 0 _ rfl)
      have m0 := (World.frozen?_of_block (a := ⟨w.heap.size, 0, none⟩) HR.out).trans (RC.out.2 0)
      have r1 := (World.cell?_of_block (a := ⟨w.heap.size, 1, none⟩) HR.out).trans (RC.out.1 1 _ rfl)
      have m1 := (World.frozen?_of_block (a := ⟨w.heap.size, 1, none⟩) HR.out).trans (RC.out.2 1)
      have r2 := (World.cell?_of_block (a := ⟨w.heap.size, 2, none⟩) HR.out).trans (RC.out.1 2 _ rfl)
      have m2 := (World.frozen?_of_block (a := ⟨w.heap.size, 2, none⟩) HR.out).trans (RC.out.2 2)
      have r3 := (World.cell?_of_block (a := ⟨w.heap.size, 3, none⟩) HR.out).trans (RC.out.1 3 _ rfl)
      have m3 := (World.frozen?_of_block (a := ⟨w.heap.size, 3, none⟩) HR.out).trans (RC.out.2 3)
      have r4 := (World.cell?_of_block (a := ⟨w.heap.size, 4, none⟩) HR.out).trans (RC.out.1 4 _ rfl)
      have m4 := (World.frozen?_of_block (a := ⟨w.heap.size, 4, none⟩) HR.out).trans (RC.out.2 4)
      have hlt := Nat.lt_of_lt_of_le (show w.heap.size < W.heap.size by have := HZ.out; omega) HN.out.ls.ds.gr.size
      have hqw : w.heap.size ≠ q := by have := HN.out.gq; have := HZ.out; omega
      have hqw' := Ne.symm hqw
      go_region
      go_wp2
      refine bodyPost_ret (v := .tuple #[.slice (some (⟨w7.heap.size, 0, none⟩ : Addr)) (List.replicate 121 (⟨0, 0, 0, 0, 0, 0⟩ : ShI)).length 121, .int .i64 (1 + fv), .agg #[.int .i64 x.k, .int .i64 x.e, .int .i64 x.f, .int .i64 x.s, .int .i64 x.n]]) (by simp [results, Try.results43, go_sem, r0, r1, r2, r3, r4, hlt]) rfl ⟨(some (⟨w7.heap.size, 0, none⟩ : Addr)), 121, List.replicate 121 (⟨0, 0, 0, 0, 0, 0⟩ : ShI), (1 + fv), x, rfl, ?_, by omega, by omega, HN.out.ls.ok, ?_, ?_⟩
      · first | omega | (simp; done) | (simp; omega)
      · have h0 : World.ownsRow _ _ _ _ _ _ _ := HN.out.ls.ow
        have hWl : w.heap.size < W.heap.size := by have := HZ.out; omega
        have h1 := owns_drew9 (ownsE_set (ownsE_set (ownsE_set (ownsE_set (ownsE_set h0 (a := ⟨w.heap.size, 0, none⟩) hWl (.int .i64 x.k)) (a := ⟨w.heap.size, 1, none⟩) hWl (.int .i64 x.e)) (a := ⟨w.heap.size, 2, none⟩) hWl (.int .i64 x.f)) (a := ⟨w.heap.size, 3, none⟩) hWl (.int .i64 x.s)) (a := ⟨w.heap.size, 4, none⟩) hWl (.int .i64 x.n))
        exact ownSh_lower h1 (Nat.le_of_lt hWl)
      · have hb := HB1.out.grown HN.out.ls.ds.gr (by have := HZ.out; omega) (fun k e => by have := HBe.out; simp at e; omega)
        exact (((((hb.setCell (p := ⟨w.heap.size, 0, none⟩) (Nat.le_refl _) _).setCell (p := ⟨w.heap.size, 1, none⟩) (Nat.le_refl _) _).setCell (p := ⟨w.heap.size, 2, none⟩) (Nat.le_refl _) _).setCell (p := ⟨w.heap.size, 3, none⟩) (Nat.le_refl _) _).setCell (p := ⟨w.heap.size, 4, none⟩) (Nat.le_refl _) _).drew
    by_cases e2 : s = 2
    · subst e2
      go_wp2_with fail
      refine (pick_any _ B a len cap (k4 + 1) ys HS7.out.ls.ds.src hl (by omega) [0, 3] (by simp) (by simp)).mono ?_
      rintro e w8 ⟨p, hp, rfl, hS, hG⟩
      have HS8 := hid (HS7.out.draw hS hG)
      have hp0 : 0 ≤ p ∧ p ≤ 3 := by simp at hp; omega
      clear hS hG HS7 hp
      go_wp2_with fail
      obtain ⟨⟨c0, c1, c2, c3, c4⟩, -, hq8⟩ := HS8.out.cells
      have HR := hid (HS8.out.ls.ds.gr.block w.heap.size (by have := HZ.out; omega) (by have := HBe.out; simp; omega))
      have r0 := (World.cell?_of_block (a := ⟨w.heap.size, 0, none⟩) HR.out).trans (RC.out.1 0 _ rfl)
      have m0 := (World.frozen?_of_block (a := ⟨w.heap.size, 0, none⟩) HR.out).trans (RC.out.2 0)
      have r1 := (World.cell?_of_block (a := ⟨w.heap.size, 1, none⟩) HR.out).trans (RC.out.1 1 _ rfl)
      have m1 := (World.frozen?_of_block (a := ⟨w.heap.size, 1, none⟩) HR.out).trans (RC.out.2 1)
      have r2 := (World.cell?_of_block (a := ⟨w.heap.size, 2, none⟩) HR.out).trans (RC.out.1 2 _ rfl)
      have m2 := (World.frozen?_of_block (a := ⟨w.heap.size, 2, none⟩) HR.out).trans (RC.out.2 2)
      have r3 := (World.cell?_of_block (a := ⟨w.heap.size, 3, none⟩) HR.out).trans (RC.out.1 3 _ rfl)
      have m3 := (World.frozen?_of_block (a := ⟨w.heap.size, 3, none⟩) HR.out).trans (RC.out.2 3)
      have r4 := (World.cell?_of_block (a := ⟨w.heap.size, 4, none⟩) HR.out).trans (RC.out.1 4 _ rfl)
      have m4 := (World.frozen?_of_block (a := ⟨w.heap.size, 4, none⟩) HR.out).trans (RC.out.2 4)
      have hlt := Nat.lt_of_lt_of_le (show w.heap.size < W.heap.size by have := HZ.out; omega) HS8.out.ls.ds.gr.size
      have hqw : w.heap.size ≠ q := by have := HS8.out.gq; have := HZ.out; omega
      have hqw' := Ne.symm hqw
      go_region
      go_wp2
      refine bodyPost_ret (v := .tuple #[.slice va (zs).length vc, .int .i64 p, .agg #[.int .i64 x.k, .int .i64 x.e, .int .i64 x.f, .int .i64 x.s, .int .i64 x.n]]) (by simp [results, Try.results43, go_sem, r0, r1, r2, r3, r4, hlt]) rfl ⟨va, vc, zs, p, x, rfl, ?_, by omega, by omega, HS8.out.ls.ok, ?_, ?_⟩
      · first | omega | (simp; done) | (simp; omega)
      · have h0 : World.ownsRow _ _ _ _ _ _ _ := HS8.out.ls.ow
        have hWl : w.heap.size < W.heap.size := by have := HZ.out; omega
        have h1 := owns_drew9 (ownsE_set (ownsE_set (ownsE_set (ownsE_set (ownsE_set h0 (a := ⟨w.heap.size, 0, none⟩) hWl (.int .i64 x.k)) (a := ⟨w.heap.size, 1, none⟩) hWl (.int .i64 x.e)) (a := ⟨w.heap.size, 2, none⟩) hWl (.int .i64 x.f)) (a := ⟨w.heap.size, 3, none⟩) hWl (.int .i64 x.s)) (a := ⟨w.heap.size, 4, none⟩) hWl (.int .i64 x.n))
        exact ownSh_lower h1 (Nat.le_of_lt hWl)
      · have hb := HB1.out.grown HS8.out.ls.ds.gr (by have := HZ.out; omega) (fun k e => by have := HBe.out; simp at e; omega)
        exact (((((hb.setCell (p := ⟨w.heap.size, 0, none⟩) (Nat.le_refl _) _).setCell (p := ⟨w.heap.size, 1, none⟩) (Nat.le_refl _) _).setCell (p := ⟨w.heap.size, 2, none⟩) (Nat.le_refl _) _).setCell (p := ⟨w.heap.size, 3, none⟩) (Nat.le_refl _) _).setCell (p := ⟨w.heap.size, 4, none⟩) (Nat.le_refl _) _).drew
    go_wp2_with fail
    obtain ⟨⟨c0, c1, c2, c3, c4⟩, -, hq8⟩ := HS7.out.cells
    have HR := hid (HS7.out.ls.ds.gr.block w.heap.size (by have := HZ.out; omega) (by have := HBe.out; simp; omega))
    have r0 := (World.cell?_of_block (a := ⟨w.heap.size, 0, none⟩) HR.out).trans (RC.out.1 0 _ rfl)
    have m0 := (World.frozen?_of_block (a := ⟨w.heap.size, 0, none⟩) HR.out).trans (RC.out.2 0)
    have r1 := (World.cell?_of_block (a := ⟨w.heap.size, 1, none⟩) HR.out).trans (RC.out.1 1 _ rfl)
    have m1 := (World.frozen?_of_block (a := ⟨w.heap.size, 1, none⟩) HR.out).trans (RC.out.2 1)
    have r2 := (World.cell?_of_block (a := ⟨w.heap.size, 2, none⟩) HR.out).trans (RC.out.1 2 _ rfl)
    have m2 := (World.frozen?_of_block (a := ⟨w.heap.size, 2, none⟩) HR.out).trans (RC.out.2 2)
    have r3 := (World.cell?_of_block (a := ⟨w.heap.size, 3, none⟩) HR.out).trans (RC.out.1 3 _ rfl)
    have m3 := (World.frozen?_of_block (a := ⟨w.heap.size, 3, none⟩) HR.out).trans (RC.out.2 3)
    have r4 := (World.cell?_of_block (a := ⟨w.heap.size, 4, none⟩) HR.out).trans (RC.out.1 4 _ rfl)
    have m4 := (World.frozen?_of_block (a := ⟨w.heap.size, 4, none⟩) HR.out).trans (RC.out.2 4)
    have hlt := Nat.lt_of_lt_of_le (show w.heap.size < W.heap.size by have := HZ.out; omega) HS7.out.ls.ds.gr.size
    have hqw : w.heap.size ≠ q := by have := HS7.out.gq; have := HZ.out; omega
    have hqw' := Ne.symm hqw
    go_region
    go_wp2
    refine bodyPost_ret (v := .tuple #[.slice va (zs).length vc, .int .i64 (1 + fv), .agg #[.int .i64 x.k, .int .i64 x.e, .int .i64 x.f, .int .i64 x.s, .int .i64 x.n]]) (by simp [results, Try.results43, go_sem, r0, r1, r2, r3, r4, hlt]) rfl ⟨va, vc, zs, (1 + fv), x, rfl, ?_, by omega, by omega, HS7.out.ls.ok, ?_, ?_⟩
    · first | omega | (simp; done) | (simp; omega)
    · have h0 : World.ownsRow _ _ _ _ _ _ _ := HS7.out.ls.ow
      have hWl : w.heap.size < W.heap.size := by have := HZ.out; omega
      have h1 := owns_drew9 (ownsE_set (ownsE_set (ownsE_set (ownsE_set (ownsE_set h0 (a := ⟨w.heap.size, 0, none⟩) hWl (.int .i64 x.k)) (a := ⟨w.heap.size, 1, none⟩) hWl (.int .i64 x.e)) (a := ⟨w.heap.size, 2, none⟩) hWl (.int .i64 x.f)) (a := ⟨w.heap.size, 3, none⟩) hWl (.int .i64 x.s)) (a := ⟨w.heap.size, 4, none⟩) hWl (.int .i64 x.n))
      exact ownSh_lower h1 (Nat.le_of_lt hWl)
    · have hb := HB1.out.grown HS7.out.ls.ds.gr (by have := HZ.out; omega) (fun k e => by have := HBe.out; simp at e; omega)
      exact (((((hb.setCell (p := ⟨w.heap.size, 0, none⟩) (Nat.le_refl _) _).setCell (p := ⟨w.heap.size, 1, none⟩) (Nat.le_refl _) _).setCell (p := ⟨w.heap.size, 2, none⟩) (Nat.le_refl _) _).setCell (p := ⟨w.heap.size, 3, none⟩) (Nat.le_refl _) _).setCell (p := ⟨w.heap.size, 4, none⟩) (Nat.le_refl _) _).drew

set_option maxRecDepth 20000 in
set_option maxHeartbeats 1000000 in
theorem drawCombine_c (a : Option Addr) (len cap : Nat) (ys : List Int) (w : World) (h : CodeIn w a len ys) (hl : len ≤ 1048576) : GivesW9 13 a len cap w := by
  have HK : Hid (GivesW9 43 a len cap (w.alloc (.cells #[.int .i64 0, .int .i64 0, .int .i64 0, .int .i64 0, .int .i64 0] 26))) := with9_c a len cap ys _ (h.kept (row := none) (grown_alloc w _) (fun _ _ _ => .inr (by simp))) hl
  have RC : Hid (BoxW w.heap.size [.int .i64 0, .int .i64 0, .int .i64 0, .int .i64 0, .int .i64 0] (w.alloc (.cells #[.int .i64 0, .int .i64 0, .int .i64 0, .int .i64 0, .int .i64 0] 26))) := boxW_new w _ _
  have HB1 : Hid (Below w.heap.size w (w.alloc (.cells #[.int .i64 0, .int .i64 0, .int .i64 0, .int .i64 0, .int .i64 0] 26))) := (Below.refl _ _).alloc (Nat.le_refl _) _
  have hsz : w.heap.size < (w.alloc (.cells #[.int .i64 0, .int .i64 0, .int .i64 0, .int .i64 0, .int .i64 0] 26)).heap.size := by simp
  clear h
  unfold GivesW9 at HK ⊢
  go_enter Try.func13, Try.ntmps13
  go_wp2_with fail
  generalize w.alloc (.cells #[.int .i64 0, .int .i64 0, .int .i64 0, .int .i64 0, .int .i64 0] 26) = W at HK RC HB1 hsz ⊢
  refine HK.out.mono ?_
  rintro e w1 ⟨va, vc, zs, f, x, rfl, hzl, f0, f3, hok, how, hb⟩
  have HO := hid how
  have HB2 := hid hb
  have HR := hid (RC.out.below hsz hb)
  have r0 := HR.out.1 0 _ rfl
  have m0 := HR.out.2 0
  have r1 := HR.out.1 1 _ rfl
  have m1 := HR.out.2 1
  have r2 := HR.out.1 2 _ rfl
  have m2 := HR.out.2 2
  have r3 := HR.out.1 3 _ rfl
  have m3 := HR.out.2 3
  have r4 := HR.out.1 4 _ rfl
  have m4 := HR.out.2 4
  have hlt := Nat.lt_of_lt_of_le hsz hb.size
  clear how hb HK
  go_wp2
  refine bodyPost_ret (v := .tuple #[.slice va zs.length vc, .int .i64 f, .agg #[.int .i64 x.k, .int .i64 x.e, .int .i64 x.f, .int .i64 x.s, .int .i64 x.n]]) (by simp [results, Try.results13, go_sem, r0, r1, r2, r3, r4, hlt]) rfl ⟨va, vc, zs, f, x, rfl, hzl, f0, f3, hok, ?_, ?_⟩
  · have h0 : World.ownsRow _ _ _ _ _ _ _ := HO.out
    have h1 := ownsE_set (ownsE_set (ownsE_set (ownsE_set (ownsE_set h0 (a := ⟨w.heap.size, 0, none⟩) hsz (.int .i64 x.k)) (a := ⟨w.heap.size, 1, none⟩) hsz (.int .i64 x.e)) (a := ⟨w.heap.size, 2, none⟩) hsz (.int .i64 x.f)) (a := ⟨w.heap.size, 3, none⟩) hsz (.int .i64 x.s)) (a := ⟨w.heap.size, 4, none⟩) hsz (.int .i64 x.n)
    exact ownSh_lower h1 (Nat.le_of_lt hsz)
  · have hb := HB1.out.trans (HB2.out.mono (Nat.le_of_lt hsz))
    exact ((((hb.setCell (p := ⟨w.heap.size, 0, none⟩) (Nat.le_refl _) _).setCell (p := ⟨w.heap.size, 1, none⟩) (Nat.le_refl _) _).setCell (p := ⟨w.heap.size, 2, none⟩) (Nat.le_refl _) _).setCell (p := ⟨w.heap.size, 3, none⟩) (Nat.le_refl _) _).setCell (p := ⟨w.heap.size, 4, none⟩) (Nat.le_refl _) _

end Go.Proofs.Ytdfhebmecbcegaa
