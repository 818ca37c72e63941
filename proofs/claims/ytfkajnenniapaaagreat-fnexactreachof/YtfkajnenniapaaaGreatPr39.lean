/- Contracts. -/
import Derived.Test.YtfkajnenniapaaaGreatPr37
import Derived.Deep.RegionLaw
namespace Go.Proofs.YtfkajnenniapaaaGreat
set_option maxRecDepth 100000
set_option maxHeartbeats 8000000
open Go.RowKit
set_option linter.unusedVariables false
set_option linter.unusedSimpArgs false

def fOf (cs : List ConfI) : Int := (cs[0]?.getD default).f
def wyI (cs : List ConfI) (zs : List ShI) (k : Nat) : List Int := (way cs (sgP (fOf cs) zs) k).map (fun p : Nat => (p : Int))
def rcL (cs : List ConfI) (zs : List ShI) : List Int := if akCode cs zs = 0 then wyI cs zs (cs.length - 1) else []
theorem ak_ok {cs : List ConfI} {zs : List ShI} (h : akCode cs zs = 0) : cfsCode cs = 0 ∧ shCode (fOf cs) zs = 0 := by
 unfold akCode at h
 by_cases q : cfsCode cs = 0
 ·rw [if_pos q] at h; exact ⟨q, h⟩
 ·rw [if_neg q] at h; exact absurd h q
theorem e_of {cs : List ConfI} (h : cfsCode cs = 0) {p : Nat} (hp : p < cs.length) : 1 ≤ eAt cs p ∧ eAt cs p ≤ 9 := by
 obtain ⟨_, _, h3⟩ := cfs_ok h
 have hx := List.getElem?_eq_getElem (l := cs) (i := p) hp
 have hc := (h3 p _ hx).1
 unfold codeC at hc
 have := (inR_iff _ _ _).1 (cf_zero hc).1
 unfold eAt
 rw [hx]
 exact this
theorem next_zero {e : Int} {i : Nat} (he : 1 ≤ e ∧ e ≤ 9) (hi : i ≤ 7) : stCode (nextSt e i) = 0 := by
 have h1 : inR e 1 9 = true := (inR_iff _ _ _).2 he
 have h2 : inR (i : Int) 0 7 = true := (inR_iff _ _ _).2 ⟨by omega, by omega⟩
 have h3 : inR (3 : Int) 1 4 = true := (inR_iff _ _ _).2 ⟨by omega, by omega⟩
 unfold stCode ownB rngB nextSt sameSt ownI formK
 simp [h1, h2, h3]
theorem sg_eq {f e : Int} {zs : List ShI} {i : Nat} (hs : shCode f zs = 0) (he : 1 ≤ e ∧ e ≤ 9) (hi : i ≤ 7) : sgP f zs e i = decide (2 * f + 1 ≤ ((sgL zs (nextSt e i)).length : Int)) := by
 unfold sgP isB cbCode
 rw [if_pos hs, if_pos (next_zero he hi)]
 by_cases q : ((sgL zs (nextSt e i)).length : Int) < 2 * f + 1
 ·rw [if_pos q, decide_eq_false (by omega)]; rfl
 ·rw [if_neg q, decide_eq_true (by omega)]; rfl
def slN : Value → Nat
 | .slice _ l _ => l
 | _ => 0
theorem lastW_of {l : List Nat} {k p : Nat} (hl : l.length = k + 1) (h : l[k]? = some p) : lastP l = p := by
 unfold lastP
 rw [hl, show k + 1 - 1 = k by omega, h]
 rfl
theorem owns_sl {w : World} {B n : Nat} {v : Value} {xs : List Value} (h : w.ownsRow B 2 1 v n xs) (hn : 0 < n) : ∃ g c, v = .slice (some ⟨g, 0, none⟩) n c := by
 have hl := h.1
 rcases h.2 with ⟨_, h2⟩ | ⟨g, cp, cur, h1, _⟩
 ·rw [h2] at hl; simp at hl; omega
 ·exact ⟨g, cp, h1⟩
def LowR (cs : List ConfI) (P : Int → Nat → Bool) (e : Int) (n j : Nat) (x : Int) : Prop :=
 (x = -1 ∧ ∀ i, j ≤ i → i < n → sB cs P e i = false) ∨ ∃ i : Nat, x = (i : Int) ∧ j ≤ i ∧ i < n ∧ sB cs P e i = true ∧ ∀ i', j ≤ i' → i' < i → sB cs P e i' = false
theorem LowR.hit {cs : List ConfI} {P : Int → Nat → Bool} {e : Int} {n j : Nat} (hj : j < n) (hs : sB cs P e j = true) : LowR cs P e n j (j : Int) := .inr ⟨j, rfl, Nat.le_refl _, hj, hs, fun i' h1 h2 => by omega⟩
theorem LowR.miss {cs : List ConfI} {P : Int → Nat → Bool} {e : Int} {n j : Nat} {x : Int} (h : LowR cs P e n (j + 1) x) (hs : sB cs P e j = false) : LowR cs P e n j x := by
 rcases h with ⟨hx, h1⟩ | ⟨i, hx, h1, h2, h3, h4⟩
 ·exact .inl ⟨hx, fun i a b => by
   by_cases q : i = j
   ·rw [q]; exact hs
   ·exact h1 i (by omega) b⟩
 ·exact .inr ⟨i, hx, by omega, h2, h3, fun i' a b => by
   by_cases q : i' = j
   ·rw [q]; exact hs
   ·exact h4 i' (by omega) b⟩
theorem l12Reach_c (a : Option Addr) (n cap : Nat) (cs : List ConfI) (b : Option Addr) (m cap' : Nat) (zs : List ShI) (w : World) (hk : akCode cs zs = 0) (h : ConfsIn w a n cs) (hm : m ≤ 1048576) (h' : ShIn w b m zs) :
  Calls Tryz.prog 35 #[.slice a n cap, .slice b m cap'] w fun d w' => (∃ (g c : Nat), d = .returned (.slice (some ⟨g, 0, none⟩) (wyI cs zs (n - 1)).length c) ∧ OwnI w' w.heap.size (.slice (some ⟨g, 0, none⟩) (wyI cs zs (n - 1)).length c) (wyI cs zs (n - 1))) ∧ Below w.heap.size w w' := by
 obtain ⟨i0, hi, hz0, hz1, hz2⟩ := info_parts Tryz.infoI2
 have HLN : Hid (cs.length = n) := h.len
 obtain ⟨hk1, hk2⟩ := ak_ok hk
 obtain ⟨hn1, hn8, -⟩ := cfs_ok hk1
 rw [h.len] at hn1 hn8
 obtain ⟨hf0, hm120, -⟩ := sh_ok hk2
 obtain ⟨hf1, hf2⟩ := (inR_iff _ _ _).1 hf0
 rw [h'.1] at hm120
 have HEO : Hid (∀ p, p < n → 1 ≤ eAt cs p ∧ eAt cs p ≤ 9) := fun p hp => e_of hk1 (by rw [h.len]; exact hp)
 obtain ⟨b0, off0, cc0, ea, hcc0, hc0a, -⟩ := h.at (k := 0) (by omega)
 rw [Nat.zero_mul, Nat.add_zero] at hc0a
 subst ea
 obtain ⟨f, hfe⟩ : ∃ f, fOf cs = f := ⟨_, rfl⟩
 have HF : Hid (fOf cs = f) := hfe
 rw [hfe] at hk2 hf1 hf2
 have hcf : cc0.f = f := by rw [← hfe]; unfold fOf; rw [hcc0]; rfl
 have HSH : Hid (shCode f zs = 0) := hk2
 have HC := hidX h
 have HS := hidX h'
 have HWY : Hid (∀ k, wyI cs zs k = (way cs (sgP f zs) k).map (fun p : Nat => (p : Int))) := fun k => by unfold wyI; rw [HF.out]
 have HCF : Hid (cs[0]? = some cc0 ∧ cc0.f = f) := ⟨hcc0, hcf⟩
 have hn' : (n : Int) ≤ 8 := by omega
 have hn0 : (1 : Int) ≤ (n : Int) := by omega
 have hn00 : (0 : Int) < (n : Int) := by omega
 have hnp : 0 < n := hn1
 obtain ⟨V, hV⟩ : ∃ V, V = w.alloc (.cells #[.int .i64 0] 2) := ⟨_, rfl⟩
 have O0 : Hid (V.ownsRow w.heap.size 2 1 (.slice (some ⟨w.heap.size, 0, none⟩) 1 1) 1 [.int .i64 0]) := by rw [hV]; exact World.ownsRow_lit (base := w.heap.size) (e := 2) (size := 1) w #[.int .i64 0] 1 (Nat.le_refl _) (by unfold maxLen; omega) rfl
 have B0 : Hid (Below w.heap.size w V) := by rw [hV]; exact zN
 clear h h' hk hk1 hk2 hf0 hfe hcc0 hcf
 go_enter Tryz.func35, Tryz.ntmps35
 go_upto_region 2 with fail
 rw [← hV]
 clear hV
 go_loopw [5] (fun v wr => ∃ k : Nat, k ≤ n - 1 ∧ (∀ j, j < k → ¬ stuck cs (sgP f zs) j) ∧ OwnI wr w.heap.size v (wyI cs zs k) ∧ Below w.heap.size w wr) (fun v _ => n - slN v)
 case atStart => exact ⟨0, Nat.zero_le _, fun j hj => by omega, by rw [HWY.out]; exact O0.out, B0.out⟩
 case round =>
  obtain ⟨k, hk, hns, how, hbr⟩ := hrel
  have HNS := hidX hns
  have HBR := hidX hbr
  obtain ⟨wl, -, wp⟩ := way_go (P := sgP f zs) (cs := cs) (by rw [HLN.out]; omega) k HNS.out
  obtain ⟨p, hpk, hpn, -⟩ := wp k (Nat.le_refl _)
  have hlast := lastW_of wl hpk
  rw [HLN.out] at hpn
  have hwl : (wyI cs zs k).length = k + 1 := by rw [HWY.out, List.length_map, wl]
  have how2 : wr.ownsRow w.heap.size 2 1 u5 (k + 1) ((wyI cs zs k).map (Value.int .i64)) := by rw [← hwl]; exact how
  obtain ⟨g, c, rfl⟩ := owns_sl how2 (by omega)
  have HOW := hidX how2
  have HWL : Hid ((wyI cs zs k).length = k + 1) := hwl
  have hcp : wr.cell? ⟨g, k, none⟩ = some (.int .i64 (p : Int)) := by
   rw [how2.cellAt k (by omega), List.getElem?_map, HWY.out, List.getElem?_map, hpk]
   rfl
  have hgl := zL wr _ hcp
  obtain ⟨e, hee⟩ : ∃ e, eAt cs p = e := ⟨_, rfl⟩
  obtain ⟨he1, he9⟩ := HEO.out p hpn
  rw [hee] at he1 he9
  have HO : Hid (∀ o, nx cs (sgP f zs) e n = o → nx cs (sgP f zs) (eAt cs (lastP (way cs (sgP f zs) k))) cs.length = o) := fun o ho => by rw [hlast, HLN.out, hee]; exact ho
  obtain ⟨_, _, cp, ecp, hcpe, hcpa, -⟩ := HC.out.at hpn
  cases ecp
  have hcpe2 : cp.e = e := by rw [← hee]; unfold eAt; rw [hcpe]; rfl
  obtain ⟨y0, -⟩ := hcpa.below HBR.out
  rw [hcpe2] at y0
  have hyl := zL wr _ y0
  have hw1 : IntKind.i64.wrap (k : Int) = (k : Int) := by rw [IntKind.wrap_i64]; omega
  have hpn' : (p : Int) < (n : Int) := by omega
  have hk' : (k : Int) ≤ 8 := by omega
  have hwn : IntKind.i64.wrap ((n : Int) - 1) = (n : Int) - 1 := by rw [IntKind.wrap_i64]; omega
  clear hns hbr how how2 wl wp hpk hlast hee hcpe hcpa hcpe2
  go_wp2
  clear hcp hgl y0 hyl
  obtain ⟨W1, rfl⟩ : ∃ W, W = wr := ⟨_, rfl⟩
  go_loopw [7, 8] (fun x i wq => ∃ (j : Nat) (z y : Int), j ≤ n ∧ i = .int .i64 y ∧ y = (j : Int) - 1 ∧ x = .int .i64 z ∧ Hid (LowR cs (sgP f zs) e n j z) ∧ Below W1.heap.size W1 wq) (fun _ i _ => (intOf i + 1).toNat)
  case atStart => exact ⟨n, -1, (n : Int) - 1, Nat.le_refl _, rfl, rfl, rfl, .inl ⟨rfl, fun i h1 h2 => by omega⟩, Below.refl _ _⟩
  case round =>
   obtain ⟨j, z, y, hj, rfl, hy, rfl, HL, hbq⟩ := hrel
   have HBQ : Hid (Below w.heap.size w _) := HBR.out.trans (hbq.mono HBR.out.size)
   by_cases hj0 : 0 < j
   ·obtain ⟨i, rfl⟩ : ∃ i, j = i + 1 := ⟨j - 1, by omega⟩
    have hyi : y = (i : Int) := by omega
    clear hy
    subst hyi
    have hin : i < n := by omega
    have hin' : (i : Int) < (n : Int) := by omega
    have hi0 : (0 : Int) ≤ (i : Int) := by omega
    obtain ⟨_, _, ci, eci, hci, hcia, -⟩ := HC.out.at hin
    cases eci
    have hcie : eAt cs i = ci.e := by unfold eAt; rw [hci]; rfl
    obtain ⟨U, hU⟩ : ∃ U, U = wr := ⟨_, rfl⟩
    rw [← hU] at hbq HBQ ⊢
    clear hU
    obtain ⟨V2, hV2⟩ : ∃ V2, V2 = U.alloc (.cells #[.int .i64 3, .int .i64 e, .int .i64 0, .int .i64 0, .int .i64 (i : Int)] 54) := ⟨_, rfl⟩
    have B2 : Below U.heap.size U V2 := by rw [hV2]; exact zN
    have HX2 : Hid (BoxV U.heap.size [.int .i64 3, .int .i64 e, .int .i64 0, .int .i64 0, .int .i64 (i : Int)] V2) := by rw [hV2]; exact (boxV_new U _ _).out
    have hX2l : U.heap.size < V2.heap.size := by rw [hV2]; simp
    have HB2 : Hid (Below w.heap.size w V2) := HBQ.out.trans (B2.mono HBQ.out.size)
    have HBW : Hid (Below W1.heap.size W1 V2) := hbq.trans (B2.mono hbq.size)
    obtain ⟨y0, -⟩ := hcia.below HB2.out
    have hyl := zL V2 _ y0
    clear B2 hbq HBQ
    go_upto_region 8 with fail
    rw [← hV2]
    clear hV2
    generalize U.heap.size = Sb at HX2 hX2l ⊢
    by_cases q0 : ci.e = e + 1
    ·have hwe : IntKind.i64.wrap (e + 1) = e + 1 := by rw [IntKind.wrap_i64]; omega
     rw [q0] at y0
     have HEI : Hid (eAt cs i = e + 1) := hcie.trans q0
     obtain ⟨_, z1, -⟩ := (hc0a.below HB2.out)
     rw [HCF.out.2] at z1
     have s0 := HX2.out 0 _ rfl
     have s1 := HX2.out 1 _ rfl
     have s2 := HX2.out 2 _ rfl
     have s3 := HX2.out 3 _ rfl
     have s4 := HX2.out 4 _ rfl
     obtain ⟨t, ht⟩ : ∃ t, sgP f zs e i = t := ⟨_, rfl⟩
     have HSB : Hid (sB cs (sgP f zs) e i = t) := by
      show _ = t
      unfold sB
      rw [decide_eq_true HEI.out, Bool.true_and]
      exact ht
     have he8 : e ≤ 8 := by have := (HEO.out i hin).2; rw [HEI.out] at this; omega
     have HLS : Hid (∀ W, (∀ b o, b < V2.heap.size → W.cell? ⟨b, o, none⟩ = V2.cell? ⟨b, o, none⟩) ∧ Below V2.heap.size V2 W → Calls Tryz.prog 67 #[.slice b m cap', .int .i64 f, .agg #[.int .i64 3, .int .i64 e, .int .i64 0, .int .i64 0, .int .i64 (i : Int)]] W fun d w' => d = .returned (.bool t) ∧ Below W.heap.size W w') := fun W hW => by
      have := l9Signed_c b m cap' zs f (nextSt e i) W hm120 hf1 hf2 (ShIn.below HS.out (HB2.out.trans (hW.2.mono HB2.out.size)))
      rw [← sg_eq HSH.out ⟨he1, he9⟩ (by omega), ht] at this
      exact this
     clear ht q0 hci hcia hcie
     go_wp2_with fail
     refine wp_region_held_drew (S := fun w' => (∀ b o, b < V2.heap.size → w'.cell? ⟨b, o, none⟩ = V2.cell? ⟨b, o, none⟩) ∧ Below V2.heap.size V2 w') (by kernel_rfl) (kp_drew _) (fun hHeld => ?_)
     refine Zk.go [0, 1, 2, 3, 4, 5, 6, 7, 8, 9, 10, 11, 12, 13, 14] ?_
     iterate 15
      refine Zk.st (v := ?_) rfl ?_ ?_
      rotate_left 1
      ·intro w hSw; (try dsimp only at hSw); go_simp; try (with_reducible rfl)
      try simp only [Act.put, zA, zB, zC, zD, zE, zF]
     refine Zk.fin ?_
     refine Zk.rd (i := 15) rfl (fun K hK => ?_)
     go_simp
     refine (HLS.out _ (by assumption)).mono ?_
     rintro d w' ⟨rfl, hbz⟩
     have hS := kp_step (by assumption) hbz
     refine hK.out _ _ hS (fun hHeld => ?_)
     clear hK K
     try simp only [Act.put, zA, zB, zC, zD, zE, zF]
     refine Zk.go [16] ?_
     refine Zk.st (v := ?_) rfl ?_ ?_
     rotate_left 1
     ·intro w hSw; (try dsimp only at hSw); go_simp; try (with_reducible rfl)
     try simp only [Act.put, zA, zB, zC, zD, zE, zF]
     refine Zk.fin ?_
     refine wpAnyH_done (by kernel_rfl) ?_ _
     have HBE := hidX (HBW.out.trans (hS.2.mono HBW.out.size))
     cases t
     ·go_wp2_with fail
      exact ⟨⟨i, z, (i : Int) - 1, by omega, by go_num, rfl, rfl, HL.out.miss HSB.out, HBE.out⟩, by simp [intOf] <;> omega⟩
     ·go_wp2_with fail
      exact ⟨⟨i, (i : Int), (i : Int) - 1, by omega, by go_num, rfl, rfl, LowR.hit hin HSB.out, HBE.out⟩, by simp [intOf] <;> omega⟩
    ·have heb : (ci.e == e + 1) = false := by simpa using q0
     have HSB : Hid (sB cs (sgP f zs) e i = false) := by
      show _ = false
      unfold sB
      rw [decide_eq_false (by rw [hcie]; exact q0), Bool.false_and]
     clear q0 hci hcia hcie
     go_wp2_with fail
     go_quiet (fail)
     go_wp2_with fail
     exact ⟨⟨i, z, (i : Int) - 1, by omega, by go_num, rfl, rfl, HL.out.miss HSB.out, below_drewN HBW.out _⟩, by simp [intOf] <;> omega⟩
   ·have hj0' : j = 0 := by omega
    subst hj0'
    have hy' : y = -1 := by omega
    clear hy
    subst hy'
    have hge : decide ((-1 : Int) ≥ 0) = false := by decide
    have HLW := HL
    rcases HL.out with ⟨rfl, hno⟩ | ⟨i, rfl, _, hin, hs, hno⟩
    ·have hst : stuck cs (sgP f zs) k := HO.out _ (nx_not (fun i hi => hno i (Nat.zero_le _) hi))
     have HWN : Hid (wyI cs zs (n - 1) = wyI cs zs k) := by show _ = _; rw [HWY.out, HWY.out, way_stay hst _ hk]
     have HO2 : Hid (wr.ownsRow w.heap.size 2 1 (.slice (some ⟨g, 0, none⟩) (k + 1) c) (k + 1) ((wyI cs zs k).map (Value.int .i64))) := owns_kept HOW.out (fun b e => hbq.block b (HOW.out.lt b e).2)
     clear hno hst hbq
     go_wp2
     go_ret
     refine ⟨⟨g, c, by rw [HWN.out, HWL.out]; rfl, ?_⟩, HBQ.out⟩
     show World.ownsRow _ _ _ _ _ _ _
     rw [HWN.out, HWL.out]
     exact HO2.out
    ·have hno2 : nx cs (sgP f zs) e n = some i := nx_of hin hs (fun i' hi' => hno i' (Nat.zero_le _) hi')
     have hst := HO.out _ hno2
     have HNS2 : Hid (∀ j, j < k + 1 → ¬ stuck cs (sgP f zs) j) := fun j hj => by
      by_cases q : j = k
      ·rw [q]; intro hx; unfold stuck at hx; rw [hst] at hx; cases hx
      ·exact HNS.out j (by omega)
     have hk1 : k + 1 ≤ n - 1 := by
      by_cases q : k + 1 ≤ n - 1
      ·exact q
      ·exfalso
       have hkn : n - 1 = k := by omega
       have hend := way_end (cs := cs) (P := sgP f zs) (by rw [HLN.out]; omega)
       rw [HLN.out, hkn] at hend
       exact HNS2.out k (by omega) hend
     have HWN : Hid (wyI cs zs (k + 1) = wyI cs zs k ++ [(i : Int)]) := by show _ = _; rw [HWY.out, HWY.out, way_step hst]; simp
     obtain ⟨U, hU⟩ : ∃ U, U = wr := ⟨_, rfl⟩
     rw [← hU] at hbq HBQ ⊢
     clear hU
     have HO2 : Hid (U.ownsRow w.heap.size 2 1 (.slice (some ⟨g, 0, none⟩) (k + 1) c) (k + 1) ((wyI cs zs k).map (Value.int .i64))) := owns_kept HOW.out (fun b e => hbq.block b (HOW.out.lt b e).2)
     have hi0 : decide ((i : Int) < 0) = false := by simp
     have hUs := HBQ.out.size
     clear hno hno2 hst hbq hs
     go_wp2_with (first
      | (at_builtin; refine wpList_append_own _ rfl _ _ 26 rfl w.heap.size 2 i0 (.int .i64 0) 1 8 Tryz.underlying26 hi hz0 hz1 hz2 rfl (by decide) _ _ _ rfl (HO2.out.alloc _) ⟨U.heap.size, 0, none⟩ 1 1 [.int .i64 (i : Int)] rfl rfl ?c1 ?c2 ?c3 ?c4 ?c5 ?_)
      | fail)
     case c1 =>
      intro j u hj
      match j, hj with
      | 0, hj => simp at hj; subst hj; simp [Addr.add]
     case c2 => intro u hu; simp at hu; subst hu; rfl
     case c3 => unfold maxLen; omega
     case c4 => omega
     case c5 => simp; omega
     intro v' w9 hown' hgrow hnil
     have HN2 : Hid (OwnI w9 w.heap.size v' (wyI cs zs (k + 1)) ∧ Below w.heap.size w w9) := by
      refine ⟨?_, (HBQ.out.alloc HBQ.out.size _).grown hgrow (by simp; omega) (fun j hj => (HO2.out.lt j hj).1)⟩
      show w9.ownsRow _ _ _ _ _ _
      rw [HWN.out, List.length_append, HWL.out, List.map_append]
      exact hown'
     obtain ⟨g', c', rfl⟩ := owns_sl hown' (by omega)
     clear hnil hown' hgrow
     go_wp2_with fail
     exact ⟨⟨k + 1, hk1, HNS2.out, HN2.out.1, HN2.out.2⟩, by simp [slN]; omega⟩

end Go.Proofs.YtfkajnenniapaaaGreat
