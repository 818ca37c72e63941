/- Contracts. -/
import Derived.Test.YtfkajnenniapaaaGreatPt43
import Derived.Test.YtfkajnenniapaaaGreatPt44
import Derived.Test.YtfkajnenniapaaaGreatPt45
import Derived.Test.YtfkajnenniapaaaGreatPt46
namespace Go.Proofs.YtfkajnenniapaaaGreat
set_option maxRecDepth 100000
set_option maxHeartbeats 8000000
open Go.RowKit
set_option linter.unusedVariables false
set_option linter.unusedSimpArgs false

theorem CpR1.kept {lo hi n : Nat} {cs ds : List CrI} {X X' : World} (h : CpR1 lo hi n cs ds X) (hk : ∀ b, lo ≤ b → b < hi → X'.heap[b]? = X.heap[b]?) : CpR1 lo hi n cs ds X' := by
 have h0 := hk lo (Nat.le_refl _) h.lh.1
 have hc : ∀ o, X'.cell? ⟨lo, o, none⟩ = X.cell? ⟨lo, o, none⟩ := fun o => World.cell?_of_block (a := ⟨lo, o, none⟩) h0
 refine ⟨h.ln, h.lc, h.zl, fun j d e => ?_, fun j c d e1 e2 => ?_, fun j => (World.frozen?_of_block (a := ⟨lo, j, none⟩) h0).trans (h.fr j), h.lh.1, ?_⟩
 ·obtain ⟨⟨a0, a1, a2, a3, a4⟩, a5⟩ := h.ca j d e
  exact ⟨⟨(hc _).trans a0, (hc _).trans a1, (hc _).trans a2, (hc _).trans a3, (hc _).trans a4⟩, (hc _).trans a5⟩
 ·obtain ⟨g, q, h1, h2, h3⟩ := h.nw j c d e1 e2
  exact ⟨g, q, h1, h2, (IntCp.hold h3 (by have := h.lh.2; omega)).kept X X' h3 (fun b b1 b2 => hk b (by omega) (by omega))⟩
 ·have hl := h.lh
  have h1 := hk (hi - 1) (by omega) (by omega)
  rw [Array.getElem?_eq_getElem (show hi - 1 < X.heap.size by omega)] at h1
  have := (Array.getElem?_eq_some_iff.1 h1).1
  omega
theorem CrsTo.cpH {w0 w wA : World} {a : Option Addr} {n : Nat} {cs ds : List CrI} (h : CrsTo w0 w n cs ds n) (hi : CrsIn wA a n cs) (hl : ∀ (k : Nat) c, cs[k]? = some c → c.gn ≤ 1048576) : Hold w0.heap.size w.heap.size (CpR w0.heap.size w.heap.size n cs) w :=
 ⟨(h.cpR hi hl).out, Nat.le_refl _, fun X X' hX hk => by
  obtain ⟨es, h1⟩ := hX
  exact ⟨es, h1.kept hk⟩⟩
theorem SameCs.nf {cs ds : List ConfI} (h : SameCs cs ds) (e n : Int) : nfC ds e n = nfC cs e n := by
 have := h.eAt n.toNat
 unfold Go.Proofs.YtfkajnenniapaaaGreat.eAt at this
 unfold nfC
 rw [h.ln, this]
theorem SameCs.st {cs ds : List ConfI} (h : SameCs cs ds) (zs : List ShI) (f : Int) (p : Nat) (x : StI) (ys : List Int) : stC ds zs f p x ys = stC cs zs f p x ys := by
 unfold stC
 rw [h.eAt, h.nf]
theorem SameCs.ch {cs ds : List ConfI} (h : SameCs cs ds) (zs : List ShI) (f : Int) (ch : List (StI × List Int)) : ∀ k, chS ds zs f ch k = chS cs zs f ch k
 | 0 => rfl
 | k + 1 => by
  rw [chS, chS, h.ch zs f ch k]
  split
  ·split
   ·rfl
   ·rw [h.st]
  ·rfl
theorem SameCs.vc {cs ds : List ConfI} (h : SameCs cs ds) (zs : List ShI) (ch : List (StI × List Int)) : vcCode ds zs ch = vcCode cs zs ch := by
 unfold vcCode fOf
 rw [h.ak, h.f0, h.ch]
theorem CpR1.chL {lo hi n : Nat} {cs ds : List CrI} {X : World} (h : CpR1 lo hi n cs ds X) : chL ds = chL cs := by
 unfold Go.Proofs.YtfkajnenniapaaaGreat.chL
 apply List.ext_getElem?
 intro i
 rw [List.getElem?_map, List.getElem?_map]
 cases e : ds[i]? with
 | none =>
  have : ds.length ≤ i := by simpa using e
  have e2 : cs[i]? = none := List.getElem?_eq_none (by rw [h.lc, ← h.ln]; exact this)
  rw [e2]
 | some d =>
  obtain ⟨c, g, hc, rfl, _⟩ := h.get e
  rw [hc]
  rfl
theorem CpR1.le {lo hi n : Nat} {cs ds : List CrI} {X : World} (h : CpR1 lo hi n cs ds X) : ∀ (k : Nat) c, ds[k]? = some c → c.gn ≤ 1048576 ∧ c.gn ≤ c.gc ∧ c.gc ≤ maxLen := fun k d e => by
 obtain ⟨c, g, hc, rfl, _⟩ := h.get e
 have := (h.zl k c hc).2
 exact ⟨this, Nat.le_refl _, by show c.gn ≤ maxLen; unfold maxLen; omega⟩

def exP (cs : List ConfI) (zs : List ShI) (ch : List (StI × List Int)) : Nat := lastP (chS cs zs (fOf cs) ch ch.length).2
def exPre (cs : List ConfI) (zs : List ShI) (ch : List (StI × List Int)) (nx : Int) : Int := if vcCode cs zs ch = 0 then (if 8 ≤ ch.length then 2 else nfC cs (eAt cs (exP cs zs ch)) nx) else vcCode cs zs ch
def exSt (cs : List ConfI) (zs : List ShI) (ch : List (StI × List Int)) (nx : Int) : StI := ⟨3, eAt cs (exP cs zs ch), 0, 0, nx⟩
def exCode (cs : List ConfI) (zs : List ShI) (ch : List (StI × List Int)) (nx : Int) : Int := if exPre cs zs ch nx = 0 then cbCode (fOf cs) zs (exSt cs zs ch nx) else exPre cs zs ch nx
def exX (cs : List ConfI) (zs : List ShI) (ch : List (StI × List Int)) (nx : Int) : StI := if exPre cs zs ch nx = 0 then cbX (fOf cs) zs (exSt cs zs ch nx) else ⟨0, 0, 0, 0, 0⟩
def exL (cs : List ConfI) (zs : List ShI) (ch : List (StI × List Int)) (nx : Int) : List Int := if exPre cs zs ch nx = 0 then cbL (fOf cs) zs (exSt cs zs ch nx) else []
theorem ex_bad {cs : List ConfI} {zs : List ShI} {ch : List (StI × List Int)} {nx q : Int} (h : exPre cs zs ch nx = q) (hq : q ≠ 0) : exCode cs zs ch nx = q ∧ exX cs zs ch nx = ⟨0, 0, 0, 0, 0⟩ ∧ exL cs zs ch nx = [] := by
 unfold exCode exX exL
 rw [if_neg (by rw [h]; exact hq), if_neg (by rw [h]; exact hq), if_neg (by rw [h]; exact hq)]
 exact ⟨h, rfl, rfl⟩
theorem ex_ok {cs : List ConfI} {zs : List ShI} {ch : List (StI × List Int)} {nx : Int} (h : exPre cs zs ch nx = 0) : exCode cs zs ch nx = cbCode (fOf cs) zs (exSt cs zs ch nx) ∧ exX cs zs ch nx = cbX (fOf cs) zs (exSt cs zs ch nx) ∧ exL cs zs ch nx = cbL (fOf cs) zs (exSt cs zs ch nx) := by
 unfold exCode exX exL
 rw [if_pos h, if_pos h, if_pos h]
 exact ⟨rfl, rfl, rfl⟩
theorem vc_ok {cs : List ConfI} {zs : List ShI} {ch : List (StI × List Int)} (h : vcCode cs zs ch = 0) : akCode cs zs = 0 ∧ ch.length ≤ 8 ∧ (chS cs zs (fOf cs) ch ch.length).1 = 0 ∧ vcL cs zs ch = (chS cs zs (fOf cs) ch ch.length).2.map (fun p : Nat => (p : Int)) := by
 have h0 := h
 unfold vcCode at h
 by_cases h1 : akCode cs zs = 0
 ·rw [if_pos h1] at h
  by_cases h2 : 8 < ch.length
  ·rw [if_pos h2] at h; omega
  ·rw [if_neg h2] at h
   refine ⟨h1, by omega, h, ?_⟩
   unfold vcL
   rw [if_pos h0]
 ·rw [if_neg h1] at h; exact absurd h h1
def GivesER (fn : Nat) (a : Option Addr) (n cap : Nat) (b : Option Addr) (m cap' : Nat) (s : Option Addr) (N sc : Nat) (nx c : Int) (cx : StI) (ys : List Int) (w : World) : Prop := Calls Tryz.prog fn #[.slice a n cap, .slice b m cap', .slice s N sc, .int .i64 nx] w fun e w' => ∃ (ra : Option Addr) (rc : Nat), e = .returned (.agg #[.int .i64 c, .int .i64 cx.k, .int .i64 cx.e, .int .i64 cx.f, .int .i64 cx.s, .int .i64 cx.n, .slice ra ys.length rc]) ∧ w'.ownsRow w.heap.size 2 1 (.slice ra ys.length rc) ys.length (ys.map (Value.int .i64)) ∧ Below w.heap.size w w'
theorem implExtend_c (a : Option Addr) (n cap : Nat) (cs : List ConfI) (b : Option Addr) (m cap' : Nat) (zs : List ShI) (s : Option Addr) (N sc : Nat) (cr : List CrI) (nx : Int) (w : World) (hn : n ≤ 1048576) (hle : ConfsLe 1048576 cs) (h : ConfsIn w a n cs) (hm : m ≤ 1048576) (hcap : m ≤ cap') (hcm : cap' ≤ maxLen) (h' : ShIn w b m zs) (hN : N ≤ 1048576) (hs : CrsIn w s N cr) (hl : ∀ (k : Nat) c, cr[k]? = some c → c.gn ≤ 1048576 ∧ c.gn ≤ c.gc ∧ c.gc ≤ maxLen) : GivesER 29 a n cap b m cap' s N sc nx (exCode cs zs (chL cr) nx) (exX cs zs (chL cr) nx) (exL cs zs (chL cr) nx) w := by
 unfold GivesER
 obtain ⟨V, hV⟩ : ∃ V, V = w.alloc (.cells #[.int .i64 0, .int .i64 0, .int .i64 0, .int .i64 0, .int .i64 0, .int .i64 0, .slice none 0 0] 58) := ⟨_, rfl⟩
 have BV : Below w.heap.size w V := by rw [hV]; exact zN
 have RB : Hid (BoxW w.heap.size [.int .i64 0, .int .i64 0, .int .i64 0, .int .i64 0, .int .i64 0, .int .i64 0, .slice none 0 0] V) := by rw [hV]; exact boxW_new w _ _
 have hVl : w.heap.size < V.heap.size := by rw [hV]; simp
 have HBV := hidX BV
 have HVC := implVerifyChain_c a n cap cs b m cap' zs s N sc cr V hn hle (h.below BV) hm hcap hcm (ShIn.below h' BV) hN (hs.below BV) hl
 unfold GivesVR at HVC
 have HCL : Hid ((chL cr).length = N) := by show _ = _; rw [chL_len]; exact hs.len
 obtain ⟨v, hv⟩ : ∃ v, vcCode cs zs (chL cr) = v := ⟨_, rfl⟩
 obtain ⟨ys, hys⟩ : ∃ ys, vcL cs zs (chL cr) = ys := ⟨_, rfl⟩
 obtain ⟨c, hc⟩ : ∃ c, exCode cs zs (chL cr) nx = c := ⟨_, rfl⟩
 obtain ⟨cx, hx⟩ : ∃ c, exX cs zs (chL cr) nx = c := ⟨_, rfl⟩
 obtain ⟨es, he⟩ : ∃ c, exL cs zs (chL cr) nx = c := ⟨_, rfl⟩
 obtain ⟨ln, hln⟩ : ∃ l, ys.length = l := ⟨_, rfl⟩
 have HLN2 : Hid (ys.length = ln) := hln
 rw [hv, hys, hln] at HVC
 rw [hc, hx, he]
 have HVC := hidX HVC
 have hN' : (N : Int) ≤ 1048576 := by omega
 have HBAD : Hid (∀ q, exPre cs zs (chL cr) nx = q → q ≠ 0 → c = q ∧ cx = ⟨0, 0, 0, 0, 0⟩ ∧ es = []) := fun q h1 h2 => by
  obtain ⟨e1, e2, e3⟩ := ex_bad h1 h2
  exact ⟨hc.symm.trans e1, hx.symm.trans e2, he.symm.trans e3⟩
 have HPRE : Hid (exPre cs zs (chL cr) nx = if v = 0 then (if 8 ≤ N then 2 else nfC cs (eAt cs (exP cs zs (chL cr))) nx) else v) := by show _ = _; unfold exPre; rw [hv, HCL.out]
 have HOK : Hid (exPre cs zs (chL cr) nx = 0 → c = cbCode (fOf cs) zs (exSt cs zs (chL cr) nx) ∧ cx = cbX (fOf cs) zs (exSt cs zs (chL cr) nx) ∧ es = cbL (fOf cs) zs (exSt cs zs (chL cr) nx)) := fun h1 => by
  obtain ⟨e1, e2, e3⟩ := ex_ok h1
  exact ⟨hc.symm.trans e1, hx.symm.trans e2, he.symm.trans e3⟩
 clear hc hx he hln
 by_cases v0 : v = 0
 ·subst v0
  obtain ⟨hk, hN8, hch, hvl⟩ := vc_ok hv
  obtain ⟨hk1, hk2⟩ := ak_ok hk
  obtain ⟨hn1, hn8, hcf⟩ := cfs_ok hk1
  rw [h.len] at hn1 hn8
  rw [HCL.out] at hN8 hch hvl
  by_cases h8 : 8 ≤ N
  ·have h8b : decide ((N : Int) ≥ 8) = true := by simp; omega
   have HEX : Hid (c = 2 ∧ cx = ⟨0, 0, 0, 0, 0⟩ ∧ es = []) := HBAD.out 2 (by rw [HPRE.out]; simp [h8]) (by omega)
   clear h h' hs hl hv hys hk hk1 hk2 hcf hch hvl BV h8
   go_enter Tryz.func29, Tryz.ntmps29
   go_upto_region 1 with fail
   rw [← hV]
   clear hV
   go_wp2_with fail
   refine HVC.out.mono ?_
   rintro e w1 ⟨ra, rc, rfl, how, hb1⟩
   have HOW : Hid (w1.ownsRow V.heap.size 2 1 (.slice ra ln rc) ln (ys.map (Value.int .i64))) := how
   obtain ⟨X, hX⟩ : ∃ X, X = w1.alloc (.cells #[.int .i64 0, .slice ra ln rc] 44) := ⟨_, rfl⟩
   have BX : Below w1.heap.size w1 X := by rw [hX]; exact zN
   have HXB : Hid (BoxV w1.heap.size [.int .i64 0, .slice ra ln rc] X) := by rw [hX]; exact (boxV_new w1 _ _).out
   have hXl : w1.heap.size < X.heap.size := by rw [hX]; simp
   have HBX : Hid (Below V.heap.size V X) := hb1.trans (BX.mono hb1.size)
   have HOX : Hid (X.ownsRow V.heap.size 2 1 (.slice ra ln rc) ln (ys.map (Value.int .i64))) := owns_kept HOW.out (fun q e => BX.block q (HOW.out.lt q e).2)
   clear how hb1 BX
   go_upto_region 2 with fail
   rw [← hX]
   clear hX
   generalize w1.heap.size = Cb at HXB hXl ⊢
   have x0 := HXB.out 0 _ rfl
   have x1 := HXB.out 1 _ rfl
   have X2 := BoxW.below RB.out hVl HBX.out
   have r0 := X2.1 0 _ rfl
   have r1 := X2.1 1 _ rfl
   have r2 := X2.1 2 _ rfl
   have r3 := X2.1 3 _ rfl
   have r4 := X2.1 4 _ rfl
   have r5 := X2.1 5 _ rfl
   have r6 := X2.1 6 _ rfl
   have f0 := X2.2 0
   have f1 := X2.2 1
   have f2 := X2.2 2
   have f3 := X2.2 3
   have f4 := X2.2 4
   have f5 := X2.2 5
   have f6 := X2.2 6
   have hw2 : w.heap.size < X.heap.size := by have := HBX.out.size; omega
   clear X2
   go_wp2_with fail
   refine bodyPost_ret (v := .agg #[.int .i64 2, .int .i64 0, .int .i64 0, .int .i64 0, .int .i64 0, .int .i64 0, .slice none 0 0]) (by simp [results, Tryz.results29, go_sem, r0, r1, r2, r3, r4, r5, r6, hw2]) rfl ⟨none, 0, by rw [HEX.out.1, HEX.out.2.1, HEX.out.2.2]; rfl, by rw [HEX.out.2.2]; exact World.ownsRow_nil _ _ _ _, ?_⟩
   exact below7 (HBV.out.trans (HBX.out.mono HBV.out.size)) _ (Nat.le_refl _) _ _ _ _ _ _ _
  ·have h8b : decide ((N : Int) ≥ 8) = false := by simp; omega
   obtain ⟨f, hf⟩ : ∃ f, fOf cs = f := ⟨_, rfl⟩
   rw [hf] at hch hvl
   obtain ⟨wl, p, hpk, hpn, hlast⟩ := chS_len (cs := cs) (zs := zs) (f := f) (ch := chL cr) (by rw [h.len]; exact hn1) N (by rw [HCL.out]; exact Nat.le_refl _) hch
   rw [h.len] at hpn
   have hexp : exP cs zs (chL cr) = p := by unfold exP; rw [hf, HCL.out]; exact hlast
   obtain ⟨e, hee⟩ : ∃ e, eAt cs p = e := ⟨_, rfl⟩
   obtain ⟨he1, he9⟩ : 1 ≤ e ∧ e ≤ 9 := by rw [← hee]; exact e_of hk1 (by rw [h.len]; exact hpn)
   have HST : Hid (exSt cs zs (chL cr) nx = ⟨3, e, 0, 0, nx⟩) := by show _ = _; unfold exSt; rw [hexp, hee]
   obtain ⟨q, hq⟩ : ∃ q, nfC cs e nx = q := ⟨_, rfl⟩
   have HPQ : Hid (exPre cs zs (chL cr) nx = q) := by show _ = _; rw [HPRE.out, if_pos rfl, if_neg h8, hexp, hee, hq]
   have hlnN : ln = N + 1 := by rw [← HLN2.out, ← hys, hvl, List.length_map, wl]
   have hyp : ys[N]? = some (p : Int) := by rw [← hys, hvl, List.getElem?_map, hpk]; rfl
   obtain ⟨b0, off0, cp, rfl, hcpe, hcpa, -⟩ := h.at hpn
   have hcpe2 : cp.e = e := by rw [← hee]; unfold eAt; rw [hcpe]; rfl
   have hcpf : cp.f = f := by rw [← hf]; exact (hcf p cp hcpe).2
   have HLN : Hid (cs.length = n) := h.len
   have HC : Hid (ConfsIn V (some ⟨b0, off0, none⟩) n cs) := h.below BV
   have HS : Hid (ShIn V b m zs) := ShIn.below h' BV
   have HPA : Hid (ConfAtO V b0 (off0 + p * 5) cp) := hcpa.below BV
   have HYP : Hid (ys[N]? = some (p : Int)) := hyp
   have hpn' : (p : Int) < (n : Int) := by omega
   have HNQ : Hid (nfC cs e nx = q) := hq
   have HF : Hid (fOf cs = f) := hf
   subst hlnN
   clear hv hys hk hk2 hch hvl h8 wl hpk hlast hexp hee hq hyp hs hl hf
   clear h h' hk1 hcf BV hcpa
   go_enter Tryz.func29, Tryz.ntmps29
   go_upto_region 1 with fail
   rw [← hV]
   clear hV
   go_wp2_with fail
   refine HVC.out.mono ?_
   rintro e w1 ⟨ra, rc, rfl, how, hb1⟩
   have HOW : Hid (w1.ownsRow V.heap.size 2 1 (.slice ra (N + 1) rc) (N + 1) (ys.map (Value.int .i64))) := how
   obtain ⟨X, hX⟩ : ∃ X, X = w1.alloc (.cells #[.int .i64 0, .slice ra (N + 1) rc] 44) := ⟨_, rfl⟩
   have BX : Below w1.heap.size w1 X := by rw [hX]; exact zN
   have HXB : Hid (BoxV w1.heap.size [.int .i64 0, .slice ra (N + 1) rc] X) := by rw [hX]; exact (boxV_new w1 _ _).out
   have hXl : w1.heap.size < X.heap.size := by rw [hX]; simp
   have HBX : Hid (Below V.heap.size V X) := hb1.trans (BX.mono hb1.size)
   have HOX : Hid (X.ownsRow V.heap.size 2 1 (.slice ra (N + 1) rc) (N + 1) (ys.map (Value.int .i64))) := owns_kept HOW.out (fun q e => BX.block q (HOW.out.lt q e).2)
   clear how hb1 BX
   go_upto_region 2 with fail
   rw [← hX]
   clear hX
   generalize w1.heap.size = Cb at HXB hXl ⊢
   have x0 := HXB.out 0 _ rfl
   have x1 := HXB.out 1 _ rfl
   obtain ⟨g, rgc, e2⟩ := owns_sl HOX.out (by omega)
   cases e2
   have hcp : X.cell? ⟨g, N, none⟩ = some (.int .i64 (p : Int)) := by
    rw [HOX.out.cellAt N (by omega), List.getElem?_map, HYP.out]
    rfl
   have hgl := zL X _ hcp
   obtain ⟨y0, y1, y2, y3, y4⟩ := HPA.out.below HBX.out
   have hyl := zL X _ y0
   have hNN : (N : Int) < (N : Int) + 1 := by omega
   obtain ⟨U, hU⟩ : ∃ U, U = X.alloc (.cells #[.int .i64 e, .int .i64 f, .slice cp.ra cp.rn cp.rc, .slice cp.fa cp.fn cp.fc, .slice cp.ca cp.cn cp.cc] 73) := ⟨_, rfl⟩
   have BU : Below X.heap.size X U := by rw [hU]; exact zN
   have HUB : Hid (BoxV X.heap.size [.int .i64 e, .int .i64 f, .slice cp.ra cp.rn cp.rc, .slice cp.fa cp.fn cp.fc, .slice cp.ca cp.cn cp.cc] U) := by rw [hU]; exact (boxV_new X _ _).out
   have hUl : X.heap.size < U.heap.size := by rw [hU]; simp
   have HBU : Hid (Below V.heap.size V U) := HBX.out.trans (BU.mono HBX.out.size)
   clear BU
   go_upto_region 7 with fail
   rw [← hU]
   clear hU x0 x1 hcp hgl y0 y1 y2 y3 y4 hyl
   generalize X.heap.size = Ub at HUB hUl ⊢
   have u0 := HUB.out 0 _ rfl
   have u1 := HUB.out 1 _ rfl
   have HNF : Hid (Calls Tryz.prog 58 #[.slice (some ⟨b0, off0, none⟩) n cap, .int .i64 e, .int .i64 nx] U fun d w' => d = .returned (.int .i64 q) ∧ Below U.heap.size U w') := by
    rw [← HNQ.out]
    exact nextFault_c (some ⟨b0, off0, none⟩) n cap cs e nx U hn ⟨by omega, by omega⟩ (HC.out.below HBU.out)
   go_wp2_with fail
   refine HNF.out.mono ?_
   rintro d w3 ⟨rfl, hb3⟩
   have HB3 : Hid (Below V.heap.size V w3) := HBU.out.trans (hb3.mono HBU.out.size)
   by_cases q0 : q = 0
   ·subst q0
    have U3 := ((BoxV.hold HUB.out hUl).below hb3).out
    have t0 := U3 0 _ rfl
    have t1 := U3 1 _ rfl
    have hU3 : Ub < w3.heap.size := by have := hb3.size; omega
    have HOK2 := hidX (HOK.out HPQ.out)
    have HCM := implCombine_c b m cap' zs f ⟨3, e, 0, 0, nx⟩ w3 hm hcap hcm (ShIn.below HS.out HB3.out)
    unfold GivesCB at HCM
    rw [HF.out, HST.out] at HOK2
    rw [← HOK2.out.1, ← HOK2.out.2.1, ← HOK2.out.2.2] at HCM
    have HCM := hidX HCM
    clear U3 hb3
    go_wp2_with fail
    refine HCM.out.mono ?_
    rintro d w4 ⟨ra4, rc4, rfl, how4, hb4⟩
    have HB4 : Hid (Below V.heap.size V w4) := HB3.out.trans (hb4.mono HB3.out.size)
    have HO4 := hidX how4
    have X2 := BoxW.below RB.out hVl HB4.out
    have r0 := X2.1 0 _ rfl
    have r1 := X2.1 1 _ rfl
    have r2 := X2.1 2 _ rfl
    have r3 := X2.1 3 _ rfl
    have r4 := X2.1 4 _ rfl
    have r5 := X2.1 5 _ rfl
    have r6 := X2.1 6 _ rfl
    have f0 := X2.2 0
    have f1 := X2.2 1
    have f2 := X2.2 2
    have f3 := X2.2 3
    have f4 := X2.2 4
    have f5 := X2.2 5
    have f6 := X2.2 6
    have hw2 : w.heap.size < w4.heap.size := by have := HB4.out.size; omega
    have hz3 := HB3.out.size
    obtain ⟨l4, hl4⟩ : ∃ l, es.length = l := ⟨_, rfl⟩
    rw [hl4]
    have HO5 : Hid (w4.ownsRow w3.heap.size 2 1 (.slice ra4 l4 rc4) l4 (es.map (Value.int .i64))) := by rw [← hl4]; exact HO4.out
    have HL4 : Hid (es.length = l4) := hl4
    clear X2 how4 hb4 t0 t1 HO4 hl4
    go_wp2_with fail
    refine bodyPost_ret (v := .agg #[.int .i64 c, .int .i64 cx.k, .int .i64 cx.e, .int .i64 cx.f, .int .i64 cx.s, .int .i64 cx.n, .slice ra4 l4 rc4]) (by simp [results, Tryz.results29, go_sem, r0, r1, r2, r3, r4, r5, r6, hw2]) rfl ⟨ra4, rc4, by rw [HL4.out], ?_, ?_⟩
    ·rw [HL4.out]
     exact low_owns (own7 HO5.out _ (by omega) _ _ _ _ _ _ _) (by omega)
    ·exact below7 (HBV.out.trans (HB4.out.mono HBV.out.size)) _ (Nat.le_refl _) _ _ _ _ _ _ _
   ·have qb : (q != 0) = true := by simp [q0]
    have HEX : Hid (c = q ∧ cx = ⟨0, 0, 0, 0, 0⟩ ∧ es = []) := HBAD.out q HPQ.out q0
    clear q0 hb3 u0 u1
    have X2 := BoxW.below RB.out hVl HB3.out
    have r0 := X2.1 0 _ rfl
    have r1 := X2.1 1 _ rfl
    have r2 := X2.1 2 _ rfl
    have r3 := X2.1 3 _ rfl
    have r4 := X2.1 4 _ rfl
    have r5 := X2.1 5 _ rfl
    have r6 := X2.1 6 _ rfl
    have f0 := X2.2 0
    have f1 := X2.2 1
    have f2 := X2.2 2
    have f3 := X2.2 3
    have f4 := X2.2 4
    have f5 := X2.2 5
    have f6 := X2.2 6
    have hw2 : w.heap.size < w3.heap.size := by have := HB3.out.size; omega
    clear X2
    go_wp2_with fail
    refine bodyPost_ret (v := .agg #[.int .i64 q, .int .i64 0, .int .i64 0, .int .i64 0, .int .i64 0, .int .i64 0, .slice none 0 0]) (by simp [results, Tryz.results29, go_sem, r0, r1, r2, r3, r4, r5, r6, hw2]) rfl ⟨none, 0, by rw [HEX.out.1, HEX.out.2.1, HEX.out.2.2]; rfl, by rw [HEX.out.2.2]; exact World.ownsRow_nil _ _ _ _, ?_⟩
    exact below7 (HBV.out.trans (HB3.out.mono HBV.out.size)) _ (Nat.le_refl _) _ _ _ _ _ _ _
 ·have vb : (v != 0) = true := by simp [v0]
  have HEX : Hid (c = v ∧ cx = ⟨0, 0, 0, 0, 0⟩ ∧ es = []) := HBAD.out v (by rw [HPRE.out, if_neg v0]) v0
  clear h h' hs hl hv hys v0 BV
  go_enter Tryz.func29, Tryz.ntmps29
  go_upto_region 1 with fail
  rw [← hV]
  clear hV
  go_wp2_with fail
  refine HVC.out.mono ?_
  rintro e w1 ⟨ra, rc, rfl, how, hb1⟩
  have HOW : Hid (w1.ownsRow V.heap.size 2 1 (.slice ra ln rc) ln (ys.map (Value.int .i64))) := how
  obtain ⟨X, hX⟩ : ∃ X, X = w1.alloc (.cells #[.int .i64 v, .slice ra ln rc] 44) := ⟨_, rfl⟩
  have BX : Below w1.heap.size w1 X := by rw [hX]; exact zN
  have HXB : Hid (BoxV w1.heap.size [.int .i64 v, .slice ra ln rc] X) := by rw [hX]; exact (boxV_new w1 _ _).out
  have hXl : w1.heap.size < X.heap.size := by rw [hX]; simp
  have HBX : Hid (Below V.heap.size V X) := hb1.trans (BX.mono hb1.size)
  have HOX : Hid (X.ownsRow V.heap.size 2 1 (.slice ra ln rc) ln (ys.map (Value.int .i64))) := owns_kept HOW.out (fun q e => BX.block q (HOW.out.lt q e).2)
  clear how hb1 BX
  go_upto_region 2 with fail
  rw [← hX]
  clear hX
  generalize w1.heap.size = Cb at HXB hXl ⊢
  have x0 := HXB.out 0 _ rfl
  have x1 := HXB.out 1 _ rfl
  have X2 := BoxW.below RB.out hVl HBX.out
  have r0 := X2.1 0 _ rfl
  have r1 := X2.1 1 _ rfl
  have r2 := X2.1 2 _ rfl
  have r3 := X2.1 3 _ rfl
  have r4 := X2.1 4 _ rfl
  have r5 := X2.1 5 _ rfl
  have r6 := X2.1 6 _ rfl
  have f0 := X2.2 0
  have f1 := X2.2 1
  have f2 := X2.2 2
  have f3 := X2.2 3
  have f4 := X2.2 4
  have f5 := X2.2 5
  have f6 := X2.2 6
  have hw2 : w.heap.size < X.heap.size := by have := HBX.out.size; omega
  clear X2
  go_wp2_with fail
  refine bodyPost_ret (v := .agg #[.int .i64 v, .int .i64 0, .int .i64 0, .int .i64 0, .int .i64 0, .int .i64 0, .slice none 0 0]) (by simp [results, Tryz.results29, go_sem, r0, r1, r2, r3, r4, r5, r6, hw2]) rfl ⟨none, 0, by rw [HEX.out.1, HEX.out.2.1, HEX.out.2.2]; rfl, by rw [HEX.out.2.2]; exact World.ownsRow_nil _ _ _ _, ?_⟩
  exact below7 (HBV.out.trans (HBX.out.mono HBV.out.size)) _ (Nat.le_refl _) _ _ _ _ _ _ _

end Go.Proofs.YtfkajnenniapaaaGreat
