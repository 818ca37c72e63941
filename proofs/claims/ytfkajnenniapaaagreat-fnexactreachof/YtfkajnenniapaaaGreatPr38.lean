/- Contracts. -/
import Derived.Test.YtfkajnenniapaaaGreatPr37
namespace Go.Proofs.YtfkajnenniapaaaGreat
set_option maxRecDepth 100000
set_option maxHeartbeats 8000000
open Go.RowKit
set_option linter.unusedVariables false
set_option linter.unusedSimpArgs false

theorem path_set {w : World} {g : Nat} {x : Value} {t : TypeId} (h : w.heap[g]? = some (.cells #[x] t (0, 0))) (v : Value) : (w.setCell ⟨g, 0, none⟩ v).heap[g]? = some (.cells #[v] t (0, 0)) := by
 obtain ⟨hlt, hk⟩ := Array.getElem?_eq_some_iff.1 h
 show (w.heap.modify g _)[g]? = _
 rw [Array.getElem?_eq_getElem (by rw [Array.size_modify]; exact hlt), Array.getElem_modify_self, hk]
 simp
theorem path_ne {w : World} {g b : Nat} {c c' : Array Value} {t t' : TypeId} {q q' : Nat × Nat} (h : w.heap[g]? = some (.cells c t q)) (h' : w.heap[b]? = some (.cells c' t' q')) (ht : t ≠ t') : g ≠ b := by
 rintro rfl
 have := Option.some.inj (h.symm.trans h')
 injection this with _ e _
 exact ht e
theorem owns_at {w : World} {B n : Nat} {v : Value} {xs : List Value} (h : w.ownsRow B 2 1 v n xs) (hn : 0 < n) : ∃ g c, v = .slice (some ⟨g, 0, none⟩) n c ∧ ∃ cur q, w.heap[g]? = some (.cells cur 2 q) := by
 have hl := h.1
 rcases h.2 with ⟨_, h2⟩ | ⟨g, cp, cur, h1, _, hb, _⟩
 ·rw [h2] at hl; simp at hl; omega
 ·exact ⟨g, cp, h1, cur, _, hb⟩
theorem pathAdd_c (Pb L g c i : Nat) (l : List Nat) (w : World) (hl0 : 0 < l.length) (hl : l.length ≤ 1000) (hL : L ≤ Pb) (h : PathAt w Pb L l g c) :
  Calls Tryz.prog 75 #[.pointer (some ⟨Pb, 0, none⟩), .int .i64 (i : Int)] w fun e w' => e = .returned (.tuple #[]) ∧ (∃ g' c', PathAt w' Pb L (l ++ [i]) g' c') ∧ Below L w w' := by
 obtain ⟨i0, hi, hz0, hz1, hz2⟩ := info_parts Tryz.infoI2
 have HN : Hid (g ≠ Pb) := by
  obtain ⟨g1, c1, e1, cur, q, hcur⟩ := owns_at h.ow hl0
  cases e1
  exact path_ne hcur h.bx (by decide)
 obtain ⟨n, hn⟩ : ∃ n, l.length = n := ⟨_, rfl⟩
 obtain ⟨xs, hxs⟩ : ∃ xs, l.map (fun p : Nat => Value.int .i64 (p : Int)) = xs := ⟨_, rfl⟩
 have HXS : Hid (l.map (fun p : Nat => Value.int .i64 (p : Int)) = xs ∧ l.length = n) := ⟨hxs, hn⟩
 have HO : Hid (w.ownsRow L 2 1 (.slice (some ⟨g, 0, none⟩) n c) n xs) := by
  have := h.ow
  rw [hn, hxs] at this
  exact this
 have HB : Hid (w.heap[Pb]? = some (.cells #[.slice (some ⟨g, 0, none⟩) n c] 86 (0, 0))) := by
  have := h.bx
  rw [hn] at this
  exact this
 have hc0 : w.cell? ⟨Pb, 0, none⟩ = some (.slice (some ⟨g, 0, none⟩) n c) := by
  unfold World.cell?
  simp only
  rw [HB.out]
  simp
 have hpl : Pb < w.heap.size := zL w _ hc0
 have hn' : n ≤ 1000 := by omega
 have hLw : L ≤ w.heap.size := by omega
 clear h hxs hn hl hl0
 go_enter Tryz.func75, Tryz.ntmps75
 go_wp2_with (first
  | (at_builtin; refine wpList_append_own _ rfl _ _ 26 rfl L 2 i0 (.int .i64 0) 1 8 Tryz.underlying26 hi hz0 hz1 hz2 rfl (by decide) _ _ _ rfl (HO.out.alloc _) ⟨w.heap.size, 0, none⟩ 1 1 [.int .i64 (i : Int)] rfl rfl ?c1 ?c2 ?c3 ?c4 ?c5 ?_)
  | fail)
 case c1 =>
  intro j u hj
  match j, hj with
  | 0, hj => simp at hj; subst hj; simp [Addr.add]
 case c2 => intro u hu; simp at hu; subst hu; rfl
 case c3 => unfold maxLen; omega
 case c4 => omega
 case c5 => simp; omega
 intro v' w9 hown' hgrow hnil
 have HB9 : Hid (w9.heap[Pb]? = some (.cells #[.slice (some ⟨g, 0, none⟩) n c] 86 (0, 0))) := by
  have h1 := hgrow.block Pb (by simp; omega) (fun e => HN.out (by simp [Value.ownBlock] at e; exact e.symm))
  refine h1.trans ?_
  show (w.heap.push _)[Pb]? = _
  rw [Array.getElem?_push_lt hpl, ← Array.getElem?_eq_getElem hpl]
  exact HB.out
 have hc9 : w9.cell? ⟨Pb, 0, none⟩ = some (.slice (some ⟨g, 0, none⟩) n c) := by
  unfold World.cell?
  simp only
  rw [HB9.out]
  simp
 have hf9 : w9.frozen? ⟨Pb, 0, none⟩ = false := by
  unfold World.frozen?
  simp only
  rw [HB9.out]
  simp
 have hpl9 := zL w9 _ hc9
 obtain ⟨g', c', rfl, cur, q, hcur⟩ := owns_at hown' (by omega)
 have HN9 : Hid (g' ≠ Pb) := path_ne hcur HB9.out (by decide)
 have HB2 : Hid (Below L w w9) := ((Below.refl L w).alloc hLw _).grown hgrow (by simp; omega) (fun j hj => (HO.out.lt j hj).1)
 have HO9 : Hid (w9.ownsRow L 2 1 (.slice (some ⟨g', 0, none⟩) (n + 1) c') (n + 1) (xs ++ [.int .i64 (i : Int)])) := hown'
 clear hown' hgrow hnil hcur
 go_wp2_with fail
 first | go_end0 | go_returns
 refine ⟨rfl, ⟨g', c', ⟨?_, ?_⟩⟩, HB2.out.setCell hL _⟩
 ·rw [List.length_append, HXS.out.2]
  exact path_set HB9.out _
 ·rw [List.length_append, List.map_append, HXS.out.2, HXS.out.1]
  exact owns_kept HO9.out (fun b e => Below.heap_setCell _ _ _ _ (by simp [Value.ownBlock] at e; subst e; exact HN9.out))
theorem reachLead_c (a : Option Addr) (n cap : Nat) (cs : List ConfI) (b : Option Addr) (m cap' : Nat) (zs : List ShI) (f : Int) (p Gb : Nat) (d : ConfI) (w : World) (hn : n ≤ 1048576) (h : ConfsIn w a n cs) (hm : m ≤ 1048576) (hcap : m ≤ cap') (hcm : cap' ≤ maxLen) (h' : ShIn w b m zs) (hp : p < n) (he : 0 ≤ eAt cs p ∧ eAt cs p ≤ 100) (hG : BoxV Gb [.slice a n cap, .slice b m cap', .int .i64 f] w) :
  Calls Tryz.prog 41 #[.int .i64 (p : Int), .agg #[.int .i64 d.e, .int .i64 d.f, .slice d.ra d.rn d.rc, .slice d.fa d.fn d.fc, .slice d.ca d.cn d.cc], .pointer (some ⟨Gb, 0, none⟩)] w fun e w' => e = .returned (.tuple #[.int .i64 (byT (nx cs (sgP f zs) (eAt cs p) n)), .int .i64 (byC (nx cs (sgP f zs) (eAt cs p) n))]) ∧ Below w.heap.size w w' := by
 obtain ⟨V, hV⟩ : ∃ V, V = w.alloc (.cells #[.int .i64 d.e, .int .i64 d.f, .slice d.ra d.rn d.rc, .slice d.fa d.fn d.fc, .slice d.ca d.cn d.cc] 73) := ⟨_, rfl⟩
 have BV : Below w.heap.size w V := by rw [hV]; exact zN
 have hGl : Gb < w.heap.size := zL w ⟨Gb, 0, none⟩ (hG 0 _ rfl)
 have GV := ((BoxV.hold hG hGl).below BV).out
 have g0 := GV 0 _ rfl
 have g1 := GV 1 _ rfl
 have g2 := GV 2 _ rfl
 have hGl' : Gb < V.heap.size := by have := BV.size; omega
 have HBS := byShares_c a n cap cs b m cap' zs f p V hn (h.below BV) hm hcap hcm (ShIn.below h' BV) hp he
 obtain ⟨tv, htv⟩ : ∃ t, byT (nx cs (sgP f zs) (eAt cs p) n) = t := ⟨_, rfl⟩
 obtain ⟨co, hco⟩ : ∃ t, byC (nx cs (sgP f zs) (eAt cs p) n) = t := ⟨_, rfl⟩
 rw [htv, hco] at HBS ⊢
 have HBS := hidX HBS
 have HBV := hidX BV
 clear h h' hG GV BV htv hco
 go_enter Tryz.func41, Tryz.ntmps41
 go_upto_region 1 with fail
 rw [← hV]
 clear hV
 go_wp2_with fail
 refine HBS.out.mono ?_
 rintro e w1 ⟨rfl, hb1⟩
 go_wp2_with fail
 refine bodyPost_ret (v := .tuple #[.int .i64 tv, .int .i64 co]) (by simp [results, Tryz.results41, go_sem]) rfl ?_
 exact ⟨rfl, HBV.out.trans (hb1.mono HBV.out.size)⟩
theorem lastP_of {l : List Nat} {k p : Nat} (hl : l.length = k + 1) (h : l[k]? = some p) : lastP l = p := by
 unfold lastP
 rw [hl, show k + 1 - 1 = k by omega, h]
 rfl
theorem reachFill_c (Pb : Nat) (a : Option Addr) (cap : Nat) (cs : List ConfI) (b : Option Addr) (m cap' : Nat) (zs : List ShI) (f : Int) (Gb N sc : Nat) (s : Option Addr) (es : List ConfI) (g0 c0 : Nat) (w0 w : World) (hN : N ≤ 1000) (h : ConfsIn w0 a (N + 1) cs) (hm : m ≤ 1048576) (hcap : m ≤ cap') (hcm : cap' ≤ maxLen) (h' : ShIn w0 b m zs) (he : ∀ p, p < N + 1 → 0 ≤ eAt cs p ∧ eAt cs p ≤ 100) (hG : BoxV Gb [.slice a (N + 1) cap, .slice b m cap', .int .i64 f] w0) (hs : ConfsIn w0 s N es) (hL : w0.heap.size ≤ Pb) (hp : PathAt w Pb w0.heap.size [0] g0 c0) (hb : Below w0.heap.size w0 w) :
  Calls Tryz.prog 40 #[.pointer (some ⟨Pb, 0, none⟩), .slice s N sc, .func (.func 41) #[] #[.pointer (some ⟨Gb, 0, none⟩)]] w fun e w' => (∃ (q : Int), e = .returned (.int .i64 q)) ∧ (∃ g c, PathAt w' Pb w0.heap.size (way cs (sgP f zs) N) g c) ∧ Below w0.heap.size w0 w' := by
 have HLN : Hid (cs.length = N + 1) := h.len
 have HC := hidX h
 have HS := hidX h'
 have HE := hidX he
 have HG := hidX hG
 have HT := hidX hs
 have HP := hidX hp
 have HB := hidX hb
 have hN' : (N : Int) ≤ 1000 := by omega
 clear h h' he hG hs hp hb
 go_enter Tryz.func40, Tryz.ntmps40
 go_wp2_with fail
 go_loopw [13] (fun i wr => ∃ k : Nat, k ≤ N ∧ i = .int .i64 (k : Int) ∧ (∀ j, j < k → ¬ stuck cs (sgP f zs) j) ∧ (∃ g c, PathAt wr Pb w0.heap.size (way cs (sgP f zs) k) g c) ∧ Below w0.heap.size w0 wr) (fun i _ => N - (intOf i).toNat)
 case atStart => exact ⟨0, Nat.zero_le _, rfl, fun j hj => by omega, ⟨g0, c0, HP.out⟩, HB.out⟩
 case round =>
  obtain ⟨k, hk, rfl, hns, ⟨g, c, hpa⟩, hbr⟩ := hrel
  have HNS := hidX hns
  have HPA := hidX hpa
  have HBR := hidX hbr
  clear hns hpa hbr
  by_cases hlt : k < N
  ·have hlt' : (k : Int) < (N : Int) := by omega
   obtain ⟨sb, so, d, rfl, hd, hat, _⟩ := HT.out.at hlt
   obtain ⟨y0, y1, y2, y3, y4⟩ := hat.below HBR.out
   have hyl := zL wr _ y0
   obtain ⟨V, hV⟩ : ∃ V, V = wr.alloc (.cells #[.int .i64 d.e, .int .i64 d.f, .slice d.ra d.rn d.rc, .slice d.fa d.fn d.fc, .slice d.ca d.cn d.cc] 73) := ⟨_, rfl⟩
   have BV : Below wr.heap.size wr V := by rw [hV]; exact zN
   have XB : BoxV wr.heap.size [.int .i64 d.e, .int .i64 d.f, .slice d.ra d.rn d.rc, .slice d.fa d.fn d.fc, .slice d.ca d.cn d.cc] V := by rw [hV]; exact (boxV_new wr _ _).out
   have hXl : wr.heap.size < V.heap.size := by rw [hV]; simp
   have HXB := hidX XB
   have HBV : Hid (Below w0.heap.size w0 V) := HBR.out.trans (BV.mono HBR.out.size)
   have HPV : Hid (PathAt V Pb w0.heap.size (way cs (sgP f zs) k) g c) := HPA.out.below BV
   obtain ⟨wl, _, wp⟩ := way_go (P := sgP f zs) (cs := cs) (by rw [HLN.out]; omega) k HNS.out
   obtain ⟨p, hpk, hpn, _⟩ := wp k (Nat.le_refl _)
   have hlast := lastP_of wl hpk
   rw [HLN.out] at hpn
   have HLA : Hid (∀ W, Below V.heap.size V W → Calls Tryz.prog 74 #[.pointer (some ⟨Pb, 0, none⟩)] W fun e w' => e = .returned (.int .i64 (p : Int)) ∧ Below W.heap.size W w') := fun W hW => by
    have := pathLast_c Pb w0.heap.size g c (way cs (sgP f zs) k) W (by omega) (by omega) (HPV.out.below hW)
    rw [hlast] at this
    exact this
   obtain ⟨o, ho⟩ : ∃ o, nx cs (sgP f zs) (eAt cs p) (N + 1) = o := ⟨_, rfl⟩
   have HO : Hid (nx cs (sgP f zs) (eAt cs (lastP (way cs (sgP f zs) k))) cs.length = o) := by show _ = _; rw [hlast, HLN.out]; exact ho
   have HLE : Hid (∀ W, Below V.heap.size V W → Calls Tryz.prog 41 #[.int .i64 (p : Int), .agg #[.int .i64 d.e, .int .i64 d.f, .slice d.ra d.rn d.rc, .slice d.fa d.fn d.fc, .slice d.ca d.cn d.cc], .pointer (some ⟨Gb, 0, none⟩)] W fun e w' => e = .returned (.tuple #[.int .i64 (byT o), .int .i64 (byC o)]) ∧ Below W.heap.size W w') := fun W hW => by
    have hW2 : Below w0.heap.size w0 W := HBV.out.trans (hW.mono HBV.out.size)
    have hGl : Gb < w0.heap.size := zL w0 ⟨Gb, 0, none⟩ (HG.out 0 _ rfl)
    have := reachLead_c a (N + 1) cap cs b m cap' zs f p Gb d W (by omega) (HC.out.below hW2) hm hcap hcm (ShIn.below HS.out hW2) hpn (HE.out p hpn) ((BoxV.hold HG.out hGl).below hW2).out
    rw [ho] at this
    exact this
   have HWL : Hid ((way cs (sgP f zs) k).length = k + 1) := wl
   clear hd hat wl wp hpk hlast ho BV XB
   go_upto_region 4 with fail
   rw [← hV]
   clear hV y0 y1 y2 y3 y4 hyl
   generalize wr.heap.size = Sb at HXB hXl ⊢
   have x0 := HXB.out 0 _ rfl
   have x1 := HXB.out 1 _ rfl
   have x2 := HXB.out 2 _ rfl
   have x3 := HXB.out 3 _ rfl
   have x4 := HXB.out 4 _ rfl
   cases o with
   | none =>
    have HLE : Hid (∀ W, Below V.heap.size V W → Calls Tryz.prog 41 #[.int .i64 (p : Int), .agg #[.int .i64 d.e, .int .i64 d.f, .slice d.ra d.rn d.rc, .slice d.fa d.fn d.fc, .slice d.ca d.cn d.cc], .pointer (some ⟨Gb, 0, none⟩)] W fun e w' => e = .returned (.tuple #[.int .i64 0, .int .i64 4]) ∧ Below W.heap.size W w') := HLE
    have HST : Hid (way cs (sgP f zs) N = way cs (sgP f zs) k) := way_stay HO.out N (by omega)
    go_wp2_with fail
    go_region_held3 (fun w' => (∀ b o, b < V.heap.size → w'.cell? ⟨b, o, none⟩ = V.cell? ⟨b, o, none⟩) ∧ Below V.heap.size V w') (first | exact hS | exact kp_drew _)
     (first
      | (go_at_call 74; refine (HLA.out _ (by first | exact hHeld.2 | exact hS.2 | exact (Below.refl _ _).drew)).mono ?_; rintro e w' ⟨rfl, hbz⟩; have hS := kp_step (by assumption) hbz)
      | (go_at_call 41; refine (HLE.out _ (by first | exact hHeld.2 | exact hS.2 | exact (Below.refl _ _).drew)).mono ?_; rintro e w' ⟨rfl, hbz⟩; have hS := kp_step (by assumption) hbz))
    go_wp2_with fail
    go_ret
    refine ⟨⟨_, rfl⟩, ⟨g, c, ?_⟩, HBV.out.trans (hS.2.mono HBV.out.size)⟩
    rw [HST.out]
    exact HPV.out.below hS.2
   | some i =>
    have HLE : Hid (∀ W, Below V.heap.size V W → Calls Tryz.prog 41 #[.int .i64 (p : Int), .agg #[.int .i64 d.e, .int .i64 d.f, .slice d.ra d.rn d.rc, .slice d.fa d.fn d.fc, .slice d.ca d.cn d.cc], .pointer (some ⟨Gb, 0, none⟩)] W fun e w' => e = .returned (.tuple #[.int .i64 (i : Int), .int .i64 0]) ∧ Below W.heap.size W w') := HLE
    go_wp2_with fail
    go_region_held3 (fun w' => (∀ b o, b < V.heap.size → w'.cell? ⟨b, o, none⟩ = V.cell? ⟨b, o, none⟩) ∧ Below V.heap.size V w') (first | exact hS | exact kp_drew _)
     (first
      | (go_at_call 74; refine (HLA.out _ (by first | exact hHeld.2 | exact hS.2 | exact (Below.refl _ _).drew)).mono ?_; rintro e w' ⟨rfl, hbz⟩; have hS := kp_step (by assumption) hbz)
      | (go_at_call 41; refine (HLE.out _ (by first | exact hHeld.2 | exact hS.2 | exact (Below.refl _ _).drew)).mono ?_; rintro e w' ⟨rfl, hbz⟩; have hS := kp_step (by assumption) hbz))
    have HP3 := hidX (HPV.out.below hS.2)
    have HB3 := hidX (HBV.out.trans (hS.2.mono HBV.out.size))
    have HAD := hidX (pathAdd_c Pb w0.heap.size g c i (way cs (sgP f zs) k) _ (by rw [HWL.out]; omega) (by rw [HWL.out]; omega) hL HP3.out)
    go_wp2_with fail
    refine HAD.out.mono ?_
    rintro e w5 ⟨rfl, ⟨g', c', hp5⟩, hb5⟩
    have HP5 := hidX hp5
    have HB5 := hidX (HB3.out.trans hb5)
    clear hp5 hb5
    go_wp2_with fail
    exact ⟨⟨k + 1, by omega, by go_num, fun j hj => by
     by_cases hjk : j = k
     ·rw [hjk]; intro hst; unfold stuck at hst; rw [HO.out] at hst; cases hst
     ·exact HNS.out j (by omega), ⟨g', c', by rw [way_step HO.out]; exact HP5.out⟩, HB5.out⟩, by simp [intOf]; omega⟩
  ·have hkN : k = N := by omega
   subst hkN
   go_wp2_with fail
   go_ret
   exact ⟨⟨_, rfl⟩, ⟨g, c, HPA.out⟩, HBR.out⟩

end Go.Proofs.YtfkajnenniapaaaGreat
