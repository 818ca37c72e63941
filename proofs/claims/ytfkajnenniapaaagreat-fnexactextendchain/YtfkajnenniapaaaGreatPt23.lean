/- Contracts. -/
import Derived.Test.YtfkajnenniapaaaGreatPt17
import Derived.Test.YtfkajnenniapaaaGreatPt18
import Derived.Test.YtfkajnenniapaaaGreatPt22
import Derived.Deep.CutBlock
namespace Go.Proofs.YtfkajnenniapaaaGreat
set_option maxRecDepth 100000
set_option maxHeartbeats 8000000
open Go.RowKit
set_option linter.unusedVariables false
set_option linter.unusedSimpArgs false

def akCode (cs : List ConfI) (zs : List ShI) : Int := if cfsCode cs = 0 then shCode (cs[0]?.getD default).f zs else cfsCode cs
theorem hidX {p : Prop} (h : p) : Hid p := h
theorem l12Asked_c (a : Option Addr) (n cap : Nat) (cs : List ConfI) (b : Option Addr) (m cap' : Nat) (zs : List ShI) (w : World) (hn : n ≤ 1048576) (hle : ConfsLe 1048576 cs) (h : ConfsIn w a n cs) (hm : m ≤ 1048576) (hcap : m ≤ cap') (hcm : cap' ≤ maxLen) (h' : ShIn w b m zs) :
  Calls Tryz.prog 34 #[.slice a n cap, .slice b m cap'] w fun e w' => e = .returned (.int .i64 (akCode cs zs)) ∧ Below w.heap.size w w' := by
 obtain ⟨k, hk⟩ : ∃ k, cfsCode cs = k := ⟨_, rfl⟩
 have HC := l8Configs_c a n cap cs w hn hle h
 rw [hk] at HC
 have HC := hidX HC
 obtain ⟨v, hv⟩ : ∃ v, akCode cs zs = v := ⟨_, rfl⟩
 have HV : Hid (akCode cs zs = v) := hv
 have HK : Hid (cfsCode cs = k) := hk
 have H : Hid (ConfsIn w a n cs) := h
 have H' : Hid (ShIn w b m zs) := h'
 rw [hv]
 clear h h' hv hk
 by_cases k0 : k = 0
 ·subst k0
  obtain ⟨h1, h2, h3⟩ := cfs_ok HK.out
  have hn0 : 0 < n := by rw [← H.out.len]; omega
  obtain ⟨b0, off0, c0, rfl, hc0, hat0, _⟩ := H.out.at hn0
  have HV2 : Hid (v = shCode c0.f zs) := by show v = _; rw [← HV.out]; unfold akCode; rw [if_pos HK.out, hc0]; rfl
  have HAT : Hid (ConfAtO w b0 off0 c0) := by have := hat0; rw [Nat.zero_mul, Nat.add_zero] at this; exact this
  have hn0' : (0 : Int) < (n : Int) := by omega
  clear h1 h2 h3 hc0 hat0
  go_enter Tryz.func34, Tryz.ntmps34
  go_wp2_with fail
  refine HC.out.mono ?_
  rintro e w1 ⟨rfl, hb1⟩
  have HB1 : Hid (Below w.heap.size w w1) := hb1
  obtain ⟨y0, y1, _⟩ := HAT.out.below hb1
  have hl0 := zL w1 _ y1
  have HF := l9Fault_c b m cap' zs c0.f w1 hm hcap hcm (ShIn.below H'.out hb1)
  rw [← HV2.out] at HF
  have HF := hidX HF
  clear hb1 y0
  go_wp2_with fail
  refine HF.out.mono ?_
  rintro e w2 ⟨rfl, hb2⟩
  go_wp2_with fail
  go_ret
  exact ⟨rfl, HB1.out.trans (hb2.mono HB1.out.size)⟩
 ·have kb : (k != 0) = true := by simp [k0]
  have HV2 : Hid (v = k) := by show v = k; rw [← HV.out, ← HK.out]; unfold akCode; rw [if_neg (by rw [HK.out]; exact k0)]
  rw [HV2.out]
  go_enter Tryz.func34, Tryz.ntmps34
  go_wp2_with fail
  refine HC.out.mono ?_
  rintro e w1 ⟨rfl, hb1⟩
  go_wp2_with fail
  go_ret
  exact ⟨rfl, hb1⟩
structure PathAt (w : World) (Pb L : Nat) (l : List Nat) (g c : Nat) : Prop where
 bx : w.heap[Pb]? = some (.cells #[.slice (some ⟨g, 0, none⟩) l.length c] 86 (0, 0))
 ow : w.ownsRow L 2 1 (.slice (some ⟨g, 0, none⟩) l.length c) l.length (l.map (fun p : Nat => Value.int .i64 (p : Int)))
theorem PathAt.below {w w' : World} {Pb L : Nat} {l : List Nat} {g c : Nat} (h : PathAt w Pb L l g c) (hb : Below w.heap.size w w') : PathAt w' Pb L l g c :=
 ⟨(hb.block Pb (Array.getElem?_eq_some_iff.1 h.bx).1).trans h.bx, World.ownsRow.kept (row := none) h.ow ⟨hb.os, hb.tape, hb.output, hb.size, fun k hk _ => hb.block k hk⟩ (.inr (by simp [Value.ownBlock]))⟩
theorem pathLast_c (Pb L g c : Nat) (l : List Nat) (w : World) (hl : 0 < l.length) (hl2 : l.length ≤ 1000) (h : PathAt w Pb L l g c) :
  Calls Tryz.prog 74 #[.pointer (some ⟨Pb, 0, none⟩)] w fun e w' => e = .returned (.int .i64 (lastP l : Int)) ∧ Below w.heap.size w w' := by
 obtain ⟨n, hn⟩ : ∃ n, l.length = n + 1 := ⟨l.length - 1, by omega⟩
 have hx : l[n]? = some (lastP l) := by
  unfold lastP
  rw [hn, show n + 1 - 1 = n by omega, List.getElem?_eq_getElem (by omega)]
  rfl
 have hc1 : w.cell? ⟨g, n, none⟩ = some (.int .i64 (lastP l : Int)) := by
  rw [h.ow.cellAt n (by omega), List.getElem?_map, hx]
  rfl
 have hc0 : w.cell? ⟨Pb, 0, none⟩ = some (.slice (some ⟨g, 0, none⟩) (n + 1) c) := by
  have := h.bx
  rw [hn] at this
  unfold World.cell?
  simp only
  rw [this]
  simp
 have hgl := zL w _ hc1
 have hpl := zL w _ hc0
 obtain ⟨x, hxe⟩ : ∃ x : Int, (lastP l : Int) = x := ⟨_, rfl⟩
 rw [hxe] at hc1 ⊢
 have hn' : (n : Int) ≤ 1000 := by omega
 have hn0 : (0 : Int) ≤ (n : Int) := by omega
 have hw1 : IntKind.i64.wrap (n : Int) = (n : Int) := by rw [IntKind.wrap_i64]; omega
 have hnt : ((n : Int)).toNat = n := Int.toNat_natCast n
 clear h hx hxe hn hl hl2
 go_enter Tryz.func74, Tryz.ntmps74
 go_wp2
 go_quiet (fail)
 go_wp2
 go_ret
 exact ⟨rfl, below_drewN (Below.refl _ _) _⟩
theorem pathFrom_c (w : World) : Calls Tryz.prog 39 #[.int .i64 0] w fun e w' => ∃ g, e = .returned (.agg #[.slice (some ⟨g, 0, none⟩) 1 1]) ∧ w'.ownsRow (w.heap.size + 1) 2 1 (.slice (some ⟨g, 0, none⟩) 1 1) 1 [.int .i64 0] ∧ Below w.heap.size w w' := by
 obtain ⟨V, hV⟩ : ∃ V, V = w.alloc (.cells #[.slice none 0 0] 86) := ⟨_, rfl⟩
 have b0 : Below w.heap.size w V := by rw [hV]; exact zN
 have hs : V.heap.size = w.heap.size + 1 := by rw [hV]; simp
 have r0 : V.cell? ⟨w.heap.size, 0, none⟩ = some (.slice none 0 0) := by rw [hV]; simp
 have f0 : V.frozen? ⟨w.heap.size, 0, none⟩ = false := by rw [hV]; simp
 have O0 : Hid ((V.alloc (.cells #[.int .i64 0] 2)).ownsRow (w.heap.size + 1) 2 1 (.slice (some ⟨V.heap.size, 0, none⟩) 1 1) 1 [.int .i64 0]) := World.ownsRow_lit (base := w.heap.size + 1) (e := 2) (size := 1) V #[.int .i64 0] 1 (by omega) (by unfold maxLen; omega) rfl
 have HB : Hid (Below w.heap.size w V) := b0
 have hl : w.heap.size < V.heap.size := by omega
 have HS : Hid (V.heap.size = w.heap.size + 1) := hs
 clear b0 hs
 go_enter Tryz.func39, Tryz.ntmps39
 go_upto_region 1 with fail
 rw [← hV]
 clear hV
 go_wp2_with fail
 refine bodyPost_ret (v := .agg #[.slice (some ⟨V.heap.size, 0, none⟩) 1 1]) (by simp [results, Tryz.results39, go_sem, r0, hl]) rfl ?_
 have hO := World.ownsRow_lit (base := w.heap.size + 1) (e := 2) (size := 1) (V.setCell ⟨w.heap.size, 0, none⟩ (.slice (some ⟨V.heap.size, 0, none⟩) 1 1)) #[.int .i64 0] 1 (by have := HS.out; simp; omega) (by unfold maxLen; omega) rfl
 have hBl : Below w.heap.size w (V.setCell ⟨w.heap.size, 0, none⟩ (.slice (some ⟨V.heap.size, 0, none⟩) 1 1)) := HB.out.setCell (Nat.le_refl _) _
 exact ⟨V.heap.size, rfl, by simpa using hO, hBl.alloc hBl.size _⟩
/- pathAdd_c is not written yet. -/

end Go.Proofs.YtfkajnenniapaaaGreat
