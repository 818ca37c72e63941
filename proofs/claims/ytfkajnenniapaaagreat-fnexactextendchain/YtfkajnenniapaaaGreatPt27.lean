/- Contracts. -/
import Derived.Test.YtfkajnenniapaaaGreatPt26
import Derived.Deep.DeepCutAuto
import Derived.Deep.CutBlock
import Derived.ArgAppend
namespace Go.Proofs.YtfkajnenniapaaaGreat
set_option maxRecDepth 100000
set_option maxHeartbeats 8000000
open Go.RowKit
set_option linter.unusedVariables false
set_option linter.unusedSimpArgs false

section
open Go.RowKit Go.Maps
attribute [local go_sem] fldN0 fldN1
def orS (c d : Int) : Int := if c = 0 then d else c
theorem or264_c (g : Nat) (c d : Int) (w : World) (h0 : w.cell? ⟨g, 0, none⟩ = some (.int .i64 c)) (h1 : w.cell? ⟨g, 1, none⟩ = some (.int .i64 d)) :
  Calls Tryz.prog 100 #[.slice (some ⟨g, 0, none⟩) 2 2] w fun e w' => e = .returned (.int .i64 (orS c d)) ∧ w = w' := by
 go_enter Tryz.func100, Tryz.ntmps100
 go_wp2
 go_loop [8] (fun i => ∃ k : Nat, k ≤ 2 ∧ i = .int .i64 (k : Int) ∧ (1 ≤ k → c = 0) ∧ (2 ≤ k → d = 0)) (fun i => 2 - (intOf i).toNat)
 case atStart => exact ⟨0, by omega, rfl, fun h => by omega, fun h => by omega⟩
 case round =>
  obtain ⟨k, hk, rfl, hc, hd⟩ := hrel
  have hk' : k = 0 ∨ k = 1 ∨ k = 2 := by omega
  rcases hk' with rfl | rfl | rfl
  ·clear hc hd
   by_cases e : c = 0
   ·have b : (c != 0) = false := by simp [e]
    have HE : Hid (c = 0) := e
    clear e
    go_wp2
    exact ⟨⟨1, by omega, by go_num, fun _ => HE.out, fun h => by omega⟩, by simp [intOf]⟩
   ·have b : (c != 0) = true := by simp [e]
    go_wp2
    go_ret
    exact ⟨by simp [orS, e], rfl⟩
  ·have HC : Hid (c = 0) := hc (by omega)
   clear hc hd
   by_cases e : d = 0
   ·have b : (d != 0) = false := by simp [e]
    have HE : Hid (d = 0) := e
    clear e
    go_wp2
    exact ⟨⟨2, by omega, by go_num, fun _ => HC.out, fun _ => HE.out⟩, by simp [intOf]⟩
   ·have b : (d != 0) = true := by simp [e]
    go_wp2
    go_ret
    exact ⟨by simp [orS, HC.out], rfl⟩
  ·have HC : Hid (c = 0) := hc (by omega)
   have HD : Hid (d = 0) := hd (by omega)
   clear hc hd
   go_wp2
   go_ret
   exact ⟨by simp [orS, HC.out, HD.out], rfl⟩
def GivesVC (fn : Nat) (a : Option Addr) (n cap : Nat) (f : Int) (x : StI) (ga : Option Addr) (gn gc : Nat) (c : Int) (w : World) : Prop := Calls Tryz.prog fn #[.slice a n cap, .int .i64 f, .agg #[.int .i64 x.k, .int .i64 x.e, .int .i64 x.f, .int .i64 x.s, .int .i64 x.n, .slice ga gn gc]] w fun e w' => e = .returned (.int .i64 c) ∧ Below w.heap.size w w'
theorem crAt_new (w : World) (x : StI) (ga : Option Addr) (gn gc : Nat) (ys : List Int) (t : TypeId) (h : IntIn w ga gn ys) : CrAt (w.alloc (.cells #[.int .i64 x.k, .int .i64 x.e, .int .i64 x.f, .int .i64 x.s, .int .i64 x.n, .slice ga gn gc] t)) w.heap.size x ga gn gc ys := by
 refine ⟨⟨?_, ?_, ?_, ?_, ?_⟩, ?_, h.below (zN)⟩ <;> simp
theorem implVerifyCert_c (a : Option Addr) (n cap : Nat) (zs : List ShI) (f : Int) (x : StI) (ga : Option Addr) (gn gc : Nat) (ys : List Int) (w : World) (hn : n ≤ 1048576) (hcap : n ≤ cap) (hcm : cap ≤ maxLen) (hgn : gn ≤ 1048576) (h : ShIn w a n zs) (hg : IntIn w ga gn ys) : GivesVC 82 a n cap f x ga gn gc (vfCode f zs x ys) w := by
 unfold GivesVC
 obtain ⟨V, hV⟩ : ∃ V, V = w.alloc (.cells #[.int .i64 x.k, .int .i64 x.e, .int .i64 x.f, .int .i64 x.s, .int .i64 x.n, .slice ga gn gc] 56) := ⟨_, rfl⟩
 have BV : Below w.heap.size w V := by rw [hV]; exact zN
 have HC : Hid (CrAt V w.heap.size x ga gn gc ys) := by rw [hV]; exact crAt_new w x ga gn gc ys _ hg
 have HS : Hid (ShIn V a n zs) := h.below BV
 have hVl : w.heap.size < V.heap.size := HC.out.lt
 obtain ⟨s, hs⟩ : ∃ s, shCode f zs = s := ⟨_, rfl⟩
 obtain ⟨t, ht⟩ : ∃ t, stCode x = t := ⟨_, rfl⟩
 have HF : Hid (∀ w : World, KC V w → Calls Tryz.prog 73 #[.slice a n cap, .int .i64 f] w fun e w' => e = .returned (.int .i64 s) ∧ Below w.heap.size w w') := fun w hw => by have := implSharesFault_c a n cap zs f w hn hcap hcm (HS.out.below hw.2); rw [hs] at this; exact this
 have HT : Hid (∀ w : World, Calls Tryz.prog 96 #[.agg #[.int .i64 x.k, .int .i64 x.e, .int .i64 x.f, .int .i64 x.s, .int .i64 x.n]] w fun e w' => e = .returned (.int .i64 t) ∧ Below w.heap.size w w') := by rw [← ht]; exact implStatementFault_c x
 obtain ⟨c, hc⟩ : ∃ c, c = vfCode f zs x ys := ⟨_, rfl⟩
 rw [← hc]
 have HV : Hid (c = if s = 0 then vfL f zs x ys else s) := by show c = _; rw [hc, vf_eq, hs]
 have HL : Hid (vfL f zs x ys = if t = 0 then (if sfCode f ys = 0 then (if sgdAll zs x ys = true then 0 else 7) else sfCode f ys) else t) := by show _ = _; unfold vfL; rw [ht]
 have HOK : Hid (s = 0 → inR f 1 2 = true ∧ zs.length ≤ 120 ∧ ∀ x ∈ zs, inR x.r 1 (3 * f + 1) = true ∧ stCode x.st = 0) := fun q => sh_ok (hs.trans q)
 have HZ : Hid (zs.length = n ∧ ys.length = gn) := ⟨h.1, hg.1⟩
 obtain ⟨u, hu⟩ : ∃ u, orS s t = u := ⟨_, rfl⟩
 have HU : Hid (orS s t = u) := hu
 obtain ⟨z0, z1, z2, z3, z4⟩ := HC.out.st
 have z5 := HC.out.sl
 simp only [Nat.zero_add] at z0 z1 z2 z3 z4
 clear h hg hs ht hc hu
 go_enter Tryz.func82, Tryz.ntmps82
 go_upto_region 1 with fail
 rw [← hV]
 clear hV
 go_region_held3 (fun w' => KC V w') (first | exact hS | exact kp_drew _ | exact kpE_new (by assumption) _ | assumption)
  (first | (go_at_call 73; refine (HF.out _ (by assumption)).mono ?_; rintro e w' ⟨rfl, hb2⟩; have hS := kp_step (by assumption) hb2) | (go_at_call 96; refine (HT.out _).mono ?_; rintro e w' ⟨rfl, hb2⟩; have hS := kp_step (by assumption) hb2) | (go_at_call 100; refine (or264_c _ s t _ ?_ ?_).mono ?_; (· simp [go_sem]); (· simp [go_sem]); rintro e w' ⟨rfl, rfl⟩; rw [HU.out]))
 have hS3 := kpE_new hS (.cells #[.int .i64 s, .int .i64 t] 2)
 generalize w'.alloc (.cells #[.int .i64 s, .int .i64 t] 2) = w3 at hS3 ⊢
 have B3 : Below w.heap.size w w3 := BV.trans (hS3.2.mono BV.size)
 have C3 : Hid (CrAt w3 w.heap.size x ga gn gc ys) := HC.out.below hS3.2
 have S3 : Hid (ShIn w3 a n zs) := HS.out.below hS3.2
 clear hS hS3 z0 z1 z2 z3 z4 z5
 by_cases u0 : u = 0
 ·have ub : (u != 0) = false := by simp [u0]
  have hst : s = 0 ∧ t = 0 := by
   have := HU.out
   unfold orS at this
   by_cases q : s = 0
   ·rw [if_pos q] at this; exact ⟨q, by omega⟩
   ·rw [if_neg q] at this; exact absurd (this.trans u0) q
  have hok := HOK.out hst.1
  obtain ⟨v, hv⟩ : ∃ v, sfCode f ys = v := ⟨_, rfl⟩
  have HV2 : Hid (c = if v = 0 then (if sgdAll zs x ys = true then 0 else 7) else v) := by show c = _; rw [HV.out, if_pos hst.1, HL.out, if_pos hst.2, hv]
  have HSF : Hid (∀ w : World, IntIn w ga gn ys → Calls Tryz.prog 101 #[.slice ga gn gc, .int .i64 f] w fun e w' => e = .returned (.int .i64 v) ∧ Below w.heap.size w w') := fun w hw => by rw [← hv]; exact signersFault_c ga gn gc ys f w hgn hok.1 hw
  have HWF : Hid (v = 0 → n ≤ 1000 ∧ gn ≤ 1000 ∧ (∀ z ∈ zs, i64W z.r) ∧ ∀ y ∈ ys, i64W y) := fun q => by
   have hfr := (inR_iff _ _ _).1 hok.1
   rw [← hv] at q
   unfold sfCode at q
   by_cases r1 : riseB ys = true
   ·rw [if_pos r1] at q
    by_cases r2 : rngAll f ys = true
    ·have hrg : ∀ y ∈ ys, 1 ≤ y ∧ y ≤ 3 * f + 1 := fun y hy => by
      unfold rngAll at r2
      exact (inR_iff _ _ _).1 (List.all_eq_true.1 r2 y hy)
     refine ⟨by have := HZ.out.1; omega, ?_, fun z hz => ?_, fun y hy => ?_⟩
     ·unfold riseB at r1
      have hup : Up ys := of_decide_eq_true r1
      have := nodup_lenI ys ((List.range 100).map (fun k : Nat => (k : Int))) (up_nodup hup) (fun y hy => by
       have := hrg y hy
       exact List.mem_map.2 ⟨y.toNat, List.mem_range.2 (by omega), by omega⟩)
      have hz2 := HZ.out.2
      simp at this
      omega
     ·have := (inR_iff _ _ _).1 (hok.2.2 z hz).1
      exact i64W_of (by omega) (by omega)
     ·have := hrg y hy
      exact i64W_of (by omega) (by omega)
    ·rw [if_neg r2] at q; omega
   ·rw [if_neg r1] at q; omega
  clear hst hok hv u0 HV HL HOK
  have z5 := C3.out.sl
  go_wp2_with fail
  refine (HSF.out _ C3.out.row).mono ?_
  rintro e w4 ⟨rfl, hb4⟩
  have B4 := B3.trans (hb4.mono B3.size)
  have C4 : Hid (CrAt w4 w.heap.size x ga gn gc ys) := C3.out.below hb4
  have S4 : Hid (ShIn w4 a n zs) := S3.out.below hb4
  clear z5 hb4
  by_cases v0 : v = 0
  ·have vb : (v != 0) = false := by simp [v0]
   obtain ⟨k1, k2, k3, k4⟩ := HWF.out v0
   have HH : Hid (∀ w : World, ShIn w a n zs → IntIn w ga gn ys → Calls Tryz.prog 102 #[.slice a n cap, .agg #[.int .i64 x.k, .int .i64 x.e, .int .i64 x.f, .int .i64 x.s, .int .i64 x.n, .slice ga gn gc]] w fun e w' => e = .returned (.bool (sgdAll zs x ys)) ∧ Below w.heap.size w w') := fun w h1 h2 => haveShares_c a n cap zs x ga gn gc ys w k1 k2 h1 h2 k3 k4
   obtain ⟨g, hg⟩ : ∃ g, sgdAll zs x ys = g := ⟨_, rfl⟩
   have HV3 : Hid (c = if g = true then 0 else 7) := by show c = _; rw [HV2.out, if_pos v0, hg]
   rw [hg] at HH
   clear k1 k2 k3 k4 v0 hg HV2
   obtain ⟨z0, z1, z2, z3, z4⟩ := C4.out.st
   have z5 := C4.out.sl
   simp only [Nat.zero_add] at z0 z1 z2 z3 z4
   go_wp2_with fail
   refine (HH.out _ S4.out C4.out.row).mono ?_
   rintro e w5 ⟨rfl, hb5⟩
   have B5 := B4.trans (hb5.mono B4.size)
   clear z0 z1 z2 z3 z4 z5 hb5
   cases g
   ·have H7 : Hid (c = 7) := by show c = 7; rw [HV3.out]; rfl
    go_wp2
    go_ret
    exact ⟨by rw [H7.out]; rfl, B5⟩
   ·have H7 : Hid (c = 0) := by show c = 0; rw [HV3.out]; rfl
    go_wp2
    go_ret
    exact ⟨by rw [H7.out]; rfl, B5⟩
  ·have vb : (v != 0) = true := by simp [v0]
   have HE : Hid (c = v) := by show c = v; rw [HV2.out, if_neg v0]
   clear v0
   go_wp2
   go_ret
   exact ⟨by rw [HE.out]; rfl, B4⟩
 ·have ub : (u != 0) = true := by simp [u0]
  have HE : Hid (c = u) := by
   show c = u
   rw [HV.out, HL.out, ← HU.out]
   have h2 := HU.out
   unfold orS at h2 ⊢
   by_cases q : s = 0
   ·rw [if_pos q] at h2 ⊢
    rw [if_pos q, if_neg (by rw [h2]; exact u0)]
   ·rw [if_neg q, if_neg q]
  clear u0
  go_wp2
  go_ret
  exact ⟨by rw [HE.out]; rfl, B3⟩
end

section
open Go.RowKit Go.Maps
theorem newsI_take {w w' : World} {Bd g j : Nat} {ys : List Int} (h : ∀ q y, ys[q]? = some y → w.cell? ⟨g, q, none⟩ = some (.int .i64 y)) (hg : g < Bd) (hb : Below Bd w w') : ∀ q u, ((ys.take j).map (Value.int .i64))[q]? = some u → w'.cell? ((⟨g, 0, none⟩ : Addr).add q) = some u := by
 intro q u hq
 rw [List.getElem?_map] at hq
 obtain ⟨y, hy, rfl⟩ := Option.map_eq_some_iff.1 hq
 rw [List.getElem?_take] at hy
 split at hy
 ·rw [Go.WideShapes.add_plain, Nat.zero_add, hb.cell (p := ⟨g, q, none⟩) hg]; exact h q y hy
 ·cases hy
theorem newsI_drop {w w' : World} {Bd g j : Nat} {ys : List Int} (h : ∀ q y, ys[q]? = some y → w.cell? ⟨g, q, none⟩ = some (.int .i64 y)) (hg : g < Bd) (hb : Below Bd w w') : ∀ q u, ((ys.drop j).map (Value.int .i64))[q]? = some u → w'.cell? ((⟨g, j, none⟩ : Addr).add q) = some u := by
 intro q u hq
 rw [List.getElem?_map] at hq
 obtain ⟨y, hy, rfl⟩ := Option.map_eq_some_iff.1 hq
 rw [List.getElem?_drop] at hy
 rw [Go.WideShapes.add_plain, hb.cell (p := ⟨g, j + q, none⟩) hg]; exact h (j + q) y hy
theorem ownsI_shape {w : World} {b : Nat} {v : Value} {n : Nat} {xs : List Value} (h : w.ownsRow b 2 1 v n xs) (hv : v ≠ .slice none 0 0) : ∃ g cap, v = .slice (some ⟨g, 0, none⟩) n cap := by
 rcases h.2 with ⟨h', _⟩ | ⟨g, cap, cur, h', _⟩
 ·exact absurd h' hv
 ·exact ⟨g, cap, h'⟩
theorem ownI_cells {w : World} {B g m cap : Nat} {ys : List Int} (h : OwnI w B (.slice (some ⟨g, 0, none⟩) m cap) ys) (hm : ys.length = m) : ∀ q y, ys[q]? = some y → w.cell? ⟨g, q, none⟩ = some (.int .i64 y) := fun q y e => by
 subst hm
 have hq : q < ys.length := by
  by_cases c : q < ys.length
  ·exact c
  ·rw [List.getElem?_eq_none (by omega)] at e; cases e
 have h0 : w.ownsRow B 2 1 (.slice (some ⟨g, 0, none⟩) ys.length cap) ys.length (ys.map (Value.int .i64)) := h
 have := h0.cellAt q (show q < ys.length * 1 by omega)
 rw [this, List.getElem?_map, e]; rfl
theorem ownI_parts {w : World} {B g m cap : Nat} {ys : List Int} (h : OwnI w B (.slice (some ⟨g, 0, none⟩) m cap) ys) : B ≤ g ∧ g < w.heap.size ∧ ys.length = m ∧ m ≤ cap ∧ cap ≤ maxLen := by
 have h0 : w.ownsRow B 2 1 (.slice (some ⟨g, 0, none⟩) m cap) ys.length (ys.map (Value.int .i64)) := h
 have hl := h0.lt g rfl
 rcases h0.2 with ⟨h1, _⟩ | ⟨g', cap', cur, h1, _, _, h3, h4, _⟩
 ·simp at h1
 ·simp at h1; exact ⟨hl.1, hl.2, by omega, by omega, by omega⟩
theorem ownI_below {w w' : World} {B : Nat} {v : Value} {ys : List Int} (h : OwnI w B v ys) (hb : Below w.heap.size w w') : OwnI w' B v ys := ((owns_hold0 h).below hb).out
theorem kpQ {B : Nat} {w w' : World} (hb : Below B w w') : (∀ b o, b < B → w'.cell? ⟨b, o, none⟩ = w.cell? ⟨b, o, none⟩) ∧ Below B w w' :=
 ⟨fun b o h => hb.cell (p := ⟨b, o, none⟩) h, hb⟩
theorem step_appendI {P : Program} {w : World} {ops : Array Oper} {o : Oper} {a : Act} {K : Act → World → Prop} {Q : Exit → Act → World → Prop} {E : Prop} (hgd : o.guard = none) (s x : Operand) (t : TypeId)
  (ho : o.op = .call { callee := .builtin .append, args := #[s, x], argTypes := #[t, t] })
  (base : Nat) (e : TypeId) (i : TypeInfo) (z : Value) (size bytes : Nat) (ht : P.underlying t = some (.slice e)) (hi : P.info? e = some i) (hz : i.zero = some z)
  (hsize : i.size = size) (hby : i.bytes = bytes) (hzs : z.cells.size = size) (hsz : 0 < size)
  (v : Value) (n : Nat) (xs : List Value) (hs : a.eval s = v) (hown : w.ownsRow base e size v n xs)
  (ad : Addr) (m c : Nat) (news : List Value) (hx : a.eval x = .slice (some ad) m c) (hl : news.length = m * size) (hnews : ∀ j u, news[j]? = some u → w.cell? (ad.add j) = some u) (h1 : ∀ u ∈ news, u.oneCell' = true)
  (h63 : n + m ≤ maxLen) (hbytes : (n + m) * bytes ≤ 140737488355328) (hbase : base ≤ w.heap.size)
  (h : ∀ v' w', w'.ownsRow base e size v' (n + m) (xs ++ news) → w.grownBy w' v.ownBlock → (v' = .slice none 0 0 ↔ v = .slice none 0 0 ∧ m = 0) → K (a.put o.dst v') w') :
  if Region.wanted o (yielded ops a.tmps) = true then Oper.wp P o a w K Q else E := by
 have hw : Region.wanted o (yielded ops a.tmps) = true := by simp [Region.wanted, hgd]
 rw [if_pos hw]
 exact wp_append_own w s x t ho base e i z size bytes ht hi hz hsize hby hzs hsz v n xs hs hown ad m c news hx hl hnews h1 h63 hbytes hbase h
theorem l9Signers_c (a : Option Addr) (n cap : Nat) (zs : List ShI) (x : StI) (w : World) (hn : n ≤ 1000) (h : ShIn w a n zs) :
  Calls Tryz.prog 84 #[.slice a n cap, .agg #[.int .i64 x.k, .int .i64 x.e, .int .i64 x.f, .int .i64 x.s, .int .i64 x.n]] w fun e w' => ∃ (g c : Nat), e = .returned (.slice (some ⟨g, 0, none⟩) (sgL zs x).length c) ∧ OwnI w' w.heap.size (.slice (some ⟨g, 0, none⟩) (sgL zs x).length c) (sgL zs x) ∧ Below w.heap.size w w' := by
 have HZ : Hid (zs.length = n) := h.1
 have hn' : (n : Int) ≤ 1000 := by omega
 obtain ⟨i0, hi, hz0, hz1, hz2⟩ := info_parts Tryz.infoI2
 obtain ⟨V, hV⟩ : ∃ V, V = w.alloc (.cells #[.int .i64 x.k, .int .i64 x.e, .int .i64 x.f, .int .i64 x.s, .int .i64 x.n] 54) := ⟨_, rfl⟩
 have BV : Below w.heap.size w V := by rw [hV]; exact zN
 have HX : Hid (StAt V w.heap.size 0 x) := by rw [hV]; exact StAt.new w x _
 have hwV : w.heap.size < V.heap.size := by rw [hV]; simp
 have HBV : Hid (Below w.heap.size w V) := BV
 have HS : Hid (ShIn V a n zs) := h.below BV
 obtain ⟨W, hW⟩ : ∃ W, W = V.alloc (.cells #[] 2) := ⟨_, rfl⟩
 have OW : Hid (OwnI W V.heap.size (.slice (some ⟨V.heap.size, 0, none⟩) 0 0) []) := by rw [hW]; exact World.ownsRow_lit (base := V.heap.size) (e := 2) (size := 1) V #[] 0 (Nat.le_refl _) (Nat.zero_le _) rfl
 have BW : Hid (Below V.heap.size V W) := by rw [hW]; exact zN
 have HE : Hid (W = (w.alloc (.cells #[.int .i64 x.k, .int .i64 x.e, .int .i64 x.f, .int .i64 x.s, .int .i64 x.n] 54)).alloc (.cells #[] 2) ∧ V.heap.size = w.heap.size + 1) := ⟨by rw [hW, hV], by rw [hV]; simp⟩
 clear h BV hV hW
 go_enter Tryz.func84, Tryz.ntmps84
 go_wp2
 rw [← HE.out.1, ← HE.out.2]
 go_loopw [5, 6] (fun v i wr => ∃ (k g c : Nat), k ≤ n ∧ i = .int .i64 (k : Int) ∧ v = .slice (some ⟨g, 0, none⟩) (sgTo zs x k).length c ∧ OwnI wr V.heap.size (.slice (some ⟨g, 0, none⟩) (sgTo zs x k).length c) (sgTo zs x k) ∧ Below V.heap.size V wr) (fun _ i _ => n - (intOf i).toNat)
 case atStart => exact ⟨0, V.heap.size, 0, Nat.zero_le _, rfl, rfl, OW.out, BW.out⟩
 case round =>
  obtain ⟨k, g, cap1, hk, rfl, rfl, hown, hvx⟩ := hrel
  obtain ⟨ys, hys⟩ : ∃ ys, sgTo zs x k = ys := ⟨_, rfl⟩
  have HYS : Hid (sgTo zs x k = ys) := hys
  rw [hys] at hown ⊢
  obtain ⟨m, hm⟩ : ∃ m, ys.length = m := ⟨_, rfl⟩
  have HM : Hid (ys.length = m) := hm
  rw [hm] at hown ⊢
  have hmk : m ≤ 1000 := by have := sgTo_len zs x k; rw [hys, hm] at this; omega
  have hmk' : (m : Int) ≤ 1000 := by omega
  obtain ⟨p1, p2, p3, p4, p5⟩ := ownI_parts hown
  have HCP : Hid (m ≤ cap1 ∧ cap1 ≤ maxLen) := ⟨p4, p5⟩
  by_cases hlt : k < n
  ·obtain ⟨b, off, z, rfl, hz, hza, hbl⟩ := HS.out.at hlt
   have hlt' : (k : Int) < (n : Int) := by omega
   have hk0 : (0 : Int) ≤ (k : Int) := by omega
   obtain ⟨U, hU⟩ : ∃ U, U = wr := ⟨_, rfl⟩
   rw [← hU] at hown hvx p2 ⊢
   clear hU
   have HO : Hid (OwnI U V.heap.size (.slice (some ⟨g, 0, none⟩) m cap1) ys) := hown
   have HR : Hid (∀ q y, ys[q]? = some y → U.cell? ⟨g, q, none⟩ = some (.int .i64 y)) := ownI_cells hown hm
   have hgU : g < U.heap.size := p2
   have BVU : Hid (Below V.heap.size V U) := hvx
   have BU : Hid (Below V.heap.size V U) := hvx
   have hblU : b < U.heap.size := Nat.lt_of_lt_of_le hbl hvx.size
   have HZA : Hid (ShAt V b (off + k * 6) z) := hza
   obtain ⟨d0, d1, d2, d3, d4, d5⟩ := hza.below hvx hbl
   obtain ⟨x0, x1, x2, x3, x4⟩ := HX.out.below hvx hwV
   simp only [Nat.zero_add] at x0 x1 x2 x3 x4
   have hwU : w.heap.size < U.heap.size := Nat.lt_of_lt_of_le hwV hvx.size
   cases hsame : sameSt z.st x
   ·have hse : ∀ w : World, (binOp .neq 54 (.agg #[.int .i64 z.k, .int .i64 z.e, .int .i64 z.f, .int .i64 z.s, .int .i64 z.n]) (.agg #[.int .i64 x.k, .int .i64 x.e, .int .i64 x.f, .int .i64 x.s, .int .i64 x.n])).run Tryz.prog w = .ok (.bool true) w := fun w => by have := st_neq z.st x w; rw [hsame] at this; exact this
    have HN : Hid (sgTo zs x (k + 1) = ys) := by show _ = _; rw [sgTo_miss hz hsame]; exact HYS.out
    clear hz hza hown hys hm hsame p1 p2 p3 p4 p5
    go_wp2
    go_quiet (fail)
    have HEND : Hid (∀ q, OwnI (U.drewN q) V.heap.size (.slice (some ⟨g, 0, none⟩) m cap1) ys ∧ Below V.heap.size V (U.drewN q)) := fun q => ⟨ownI_below HO.out (below_drewN (Below.refl _ _) _), below_drewN BVU.out _⟩
    go_wp2
    exact ⟨⟨k + 1, g, cap1, by omega, by go_num, by rw [HN.out, HM.out], by rw [HN.out, HM.out]; exact (HEND.out _).1, (HEND.out _).2⟩, by simp [intOf]; omega⟩
   ·have hse : ∀ w : World, (binOp .neq 54 (.agg #[.int .i64 z.k, .int .i64 z.e, .int .i64 z.f, .int .i64 z.s, .int .i64 z.n]) (.agg #[.int .i64 x.k, .int .i64 x.e, .int .i64 x.f, .int .i64 x.s, .int .i64 x.n])).run Tryz.prog w = .ok (.bool false) w := fun w => by have := st_neq z.st x w; rw [hsame] at this; exact this
    have HN : Hid (sgTo zs x (k + 1) = insR z.r ys) := by show _ = _; rw [sgTo_hit hz hsame, HYS.out]
    clear hz hza hown hys hm hsame p1 p2 p3 p4 p5
    obtain ⟨K, hK⟩ : ∃ K, atI z.r ys = K := ⟨_, rfl⟩
    have HK : Hid (K ≤ ys.length ∧ (∀ j y, j < K → ys[j]? = some y → y < z.r) ∧ ∀ y, ys[K]? = some y → ¬ y < z.r) := ⟨hK ▸ atI_le _ _, hK ▸ atI_lt _ _, hK ▸ atI_stop _ _⟩
    by_cases hf : ys[K]? = some z.r
    ·have HAT : Hid (ys[K]? = some z.r) := hf
     have HNX : Hid (sgTo zs x (k + 1) = ys) := by show _ = _; rw [HN.out]; exact insR_there _ _ (by rw [hK]; exact hf)
     have hKm : K < m := by
      have hq : K < ys.length := by
       by_cases q : K < ys.length
       ·exact q
       ·rw [List.getElem?_eq_none (by omega)] at hf; cases hf
      have := HM.out; omega
     clear hf hK
     go_wp2
     go_quiet (fail)
     go_wp2
     go_loopw [7] (fun i wr => ∃ j : Nat, j ≤ K ∧ i = .int .i64 (j : Int) ∧ Below U.heap.size U wr) (fun i _ => K - (intOf i).toNat)
     case atStart => exact ⟨0, Nat.zero_le _, rfl, below_drewN (Below.refl _ _) _⟩
     case round =>
      obtain ⟨j, hj, rfl, hjx⟩ := hrel
      obtain ⟨d0, d1, d2, d3, d4, d5⟩ := (HZA.out.below BU.out hbl).below hjx hblU
      by_cases hjK : j < K
      ·obtain ⟨y, hy⟩ : ∃ y, ys[j]? = some y := ⟨_, List.getElem?_eq_getElem (by have := HK.out.1; omega)⟩
       have hyr : y < z.r := HK.out.2.1 j y hjK hy
       have e0 := (hjx.cell (p := ⟨g, j, none⟩) hgU).trans (HR.out j y hy)
       have hjm : (j : Int) < (m : Int) := by have := HK.out.1; have := HM.out; omega
       have hj0 : (0 : Int) ≤ (j : Int) := by omega
       have b1 : decide ((j : Int) < (m : Int)) = true := by simp; omega
       have b2 : decide (y < z.r) = true := by simp [hyr]
       clear hy
       go_wp2
       go_quiet (fail)
       go_wp2
       exact ⟨⟨j + 1, by omega, by go_num, below_drewN hjx _⟩, by simp [intOf]; omega⟩
      ·have hjj : j = K := by omega
       subst hjj
       have hj0 : (0 : Int) ≤ (j : Int) := by omega
       have hjm : (j : Int) < (m : Int) := by omega
       have b1 : decide ((j : Int) < (m : Int)) = true := by simp; omega
       have b2 : decide (z.r < z.r) = false := by simp
       have b3 : (z.r == z.r) = true := by simp
       have e0 := (hjx.cell (p := ⟨g, j, none⟩) hgU).trans (HR.out j z.r HAT.out)
       go_wp2
       go_quiet (fail)
       go_wp2
       go_quiet (fail)
       have HEND : Hid (∀ q, OwnI (wr.drewN q) V.heap.size (.slice (some ⟨g, 0, none⟩) m cap1) ys ∧ Below V.heap.size V (wr.drewN q)) := fun q => ⟨ownI_below HO.out (below_drewN hjx _), BVU.out.trans ((below_drewN hjx _).mono BVU.out.size)⟩
       go_wp2
       exact ⟨⟨k + 1, g, cap1, by omega, by go_num, by rw [HNX.out, HM.out], by rw [HNX.out, HM.out]; exact (HEND.out _).1, (HEND.out _).2⟩, by simp [intOf]; omega⟩
    ·have HNX : Hid (sgTo zs x (k + 1) = ys.take K ++ [z.r] ++ ys.drop K) := by
      show _ = _
      rw [HN.out]
      have := insR_new z.r ys (by rw [hK]; exact hf)
      rw [hK] at this
      exact this
     by_cases hKm : K = m
     ·have hKm1 : m ≤ K := by omega
      have hKm2 : K ≤ m := by omega
      clear hf hK hKm
      go_wp2
      go_quiet (fail)
      go_wp2
      go_loopw [7] (fun i wr => ∃ j : Nat, j ≤ K ∧ i = .int .i64 (j : Int) ∧ Below U.heap.size U wr) (fun i _ => K - (intOf i).toNat)
      case atStart => exact ⟨0, Nat.zero_le _, rfl, below_drewN (Below.refl _ _) _⟩
      case round =>
       obtain ⟨j, hj, rfl, hjx⟩ := hrel
       obtain ⟨d0, d1, d2, d3, d4, d5⟩ := (HZA.out.below BU.out hbl).below hjx hblU
       by_cases hjK : j < K
       ·obtain ⟨y, hy⟩ : ∃ y, ys[j]? = some y := ⟨_, List.getElem?_eq_getElem (by have := HK.out.1; omega)⟩
        have hyr : y < z.r := HK.out.2.1 j y hjK hy
        have e0 := (hjx.cell (p := ⟨g, j, none⟩) hgU).trans (HR.out j y hy)
        have hjm : (j : Int) < (m : Int) := by have := HK.out.1; have := HM.out; omega
        have hj0 : (0 : Int) ≤ (j : Int) := by omega
        have b1 : decide ((j : Int) < (m : Int)) = true := by simp; omega
        have b2 : decide (y < z.r) = true := by simp [hyr]
        clear hy
        go_wp2
        go_quiet (fail)
        go_wp2
        exact ⟨⟨j + 1, by omega, by go_num, below_drewN hjx _⟩, by simp [intOf]; omega⟩
       ·have hjj : j = K := by omega
        subst hjj
        have hjm : j = m := by omega
        subst hjm
        have b1 : decide ((j : Int) < (j : Int)) = false := by simp
        go_wp2
        go_quiet (fail)
        obtain ⟨nq1, rfl⟩ : ∃ q, q = nq := ⟨_, rfl⟩
        go_wp2
        go_quiet (fail)
        have hbj := hjx
        obtain ⟨w5, hw5⟩ : ∃ w5, w5 = (wr.drewN nq1).drewN nq := ⟨_, rfl⟩
        rw [← hw5]
        have BV5 : Hid (Below V.heap.size V w5) := by rw [hw5]; exact BVU.out.trans ((below_drewN (below_drewN hjx _) _).mono BVU.out.size)
        have BU5 : Below U.heap.size U w5 := by rw [hw5]; exact below_drewN (below_drewN hjx _) _
        obtain ⟨c0, _, _, _, _, _⟩ := (HZA.out.below BU.out hbl).below BU5 hblU
        have HR5 : Hid (∀ q y, ys[q]? = some y → w5.cell? ⟨g, q, none⟩ = some (.int .i64 y)) := fun q y e => (BU5.cell (p := ⟨g, q, none⟩) hgU).trans (HR.out q y e)
        have hg5 : g < w5.heap.size := Nat.lt_of_lt_of_le hgU BU5.size
        have hb5 : b < w5.heap.size := Nat.lt_of_lt_of_le hblU BU5.size
        clear hw5 hbj d0 d1 d2 d3 d4 d5
        have H5 : Hid ((w5.alloc (.cells #[] 2)).ownsRow w5.heap.size 2 1 (.slice (some ⟨w5.heap.size, 0, none⟩) 0 0) 0 []) := World.ownsRow_lit (base := w5.heap.size) (e := 2) (size := 1) w5 #[] 0 (Nat.le_refl _) (Nat.zero_le _) rfl
        have hkc : (j : Int) ≤ (cap1 : Int) := by have := HCP.out; omega
        have hkm : (j : Int) ≤ (j : Int) := by omega
        have hj0' : (0 : Int) ≤ (j : Int) := by omega
        go_wp2_with (first
         | (at_builtin; refine wpList_append_own _ rfl _ _ 26 rfl w5.heap.size 2 i0 (.int .i64 0) 1 8 Tryz.underlying26 hi hz0 hz1 hz2 rfl (by decide) (.slice (some ⟨w5.heap.size, 0, none⟩) 0 0) 0 [] rfl H5.out ⟨g, 0, none⟩ j cap1 ((ys.take j).map (Value.int .i64)) rfl (by rw [List.length_map, List.length_take, HM.out]; omega) (newsI_take HR5.out hg5 (zN)) (fun u hu => by obtain ⟨q, _, rfl⟩ := List.mem_map.1 hu; rfl) (by unfold maxLen; omega) (by omega) (by simp) ?_))
        intro v6 w6 hown6 hgrow6 hnil6
        obtain ⟨g6, cap6, hv6⟩ := ownsI_shape hown6 hnil6
        (try simp only [Nat.zero_add] at hv6)
        subst hv6
        have H6 : Hid (w6.ownsRow w5.heap.size 2 1 (.slice (some ⟨g6, 0, none⟩) j cap6) j ((ys.take j).map (Value.int .i64))) := by
         show w6.ownsRow w5.heap.size 2 1 _ j _
         rw [List.map_take]
         have h0 := hown6
         (try simp only [Nat.zero_add, List.nil_append, List.map_take] at h0)
         exact h0
        have BW6 : Hid (Below w5.heap.size w5 w6) := ((Below.refl w5.heap.size w5).alloc (Nat.le_refl _) _).grown hgrow6 (by simp) (fun q e => by simp [Value.ownBlock] at e; omega)
        have hz6 : w5.heap.size + 1 ≤ w6.heap.size := by have := hgrow6.size; simp at this; omega
        have s0 : w6.cell? ⟨b, off + k * 6, none⟩ = some (.int .i64 z.r) := (BW6.out.cell (p := ⟨b, off + k * 6, none⟩) hb5).trans c0
        clear hown6 hgrow6 hnil6 H5 c0
        go_wp2_with fail
        refine wp_region_held_drew (S := fun w' => (∀ b o, b < w5.heap.size → w'.cell? ⟨b, o, none⟩ = w6.cell? ⟨b, o, none⟩) ∧ Below w5.heap.size w6 w') (by kernel_rfl) (kpQ ⟨rfl, rfl, rfl, Nat.le_refl _, fun _ _ => rfl⟩) (fun hHeld => ?_)
        refine Zk.go [0, 1, 2, 3, 4, 5, 8, 9, 10] ?_
        iterate 9
         refine Zk.st (v := ?_) rfl ?_ ?_
         rotate_left 1
         ·intro w hSw; (try dsimp only at hSw); go_simp; try (with_reducible rfl)
         try simp only [Act.put, zA, zB, zC, zD, zE, zF]
        refine Zk.fin ?_
        refine Zk.rd (i := 6) rfl (fun K hK => ?_)
        go_simp
        have hS := kpQ (hHeld.2.alloc (by show w5.heap.size ≤ w6.heap.size; omega) (.cells #[.int .i64 z.r] 2))
        refine hK.out _ _ hS (fun hHeld => ?_)
        clear hK K
        try simp only [Act.put, zA, zB, zC, zD, zE, zF]
        refine wpAnyH_ready (rs := [7]) (by kernel_rfl) (by simp) ?_
        refine AllReadyH.cons rfl (fun K hK => ?_) AllReadyH.nil
        refine step_appendI rfl (.tmp 62) (.tmp 68) 26 rfl w5.heap.size 2 i0 (.int .i64 0) 1 8 Tryz.underlying26 hi hz0 hz1 hz2 rfl (by decide) (.slice (some ⟨g6, 0, none⟩) j cap6) j ((ys.take j).map (Value.int .i64)) (by rfl) (H6.out.alloc _) ⟨w6.heap.size, 0, none⟩ 1 1 [.int .i64 z.r] (by rfl) (by rfl) (fun q u hq => by match q, hq with | 0, hq => simp at hq; subst hq; simp [Addr.add]) (fun u hu => by simp at hu; subst hu; rfl) (by unfold maxLen; omega) (by omega) (by show w5.heap.size ≤ (w6.alloc _).heap.size; simp; omega) ?_
        intro v7 w7 hown7 hgrow7 hnil7
        have hS := kpQ (hHeld.2.grown hgrow7 (by show w5.heap.size ≤ (w6.alloc _).heap.size; simp; omega) (fun q e => by have := (H6.out.lt q e).1; omega))
        have H7 : Hid (w7.ownsRow w5.heap.size 2 1 v7 (j + 1) ((ys.take j).map (Value.int .i64) ++ [.int .i64 z.r])) := hown7
        have N7 : Hid (v7 ≠ .slice none 0 0) := fun e => by have := (hnil7.1 e).1; simp at this
        clear hown7 hnil7 hgrow7
        refine hK.out _ _ hS (fun hHeld => ?_)
        clear hK K
        try simp only [Act.put, zA, zB, zC, zD, zE, zF]
        refine wpAnyH_ready (rs := [11]) (by kernel_rfl) (by simp) ?_
        refine AllReadyH.cons rfl (fun K hK => ?_) AllReadyH.nil
        have hsl : (if cap1 = j then (some ⟨g, 0, none⟩ : Option Addr) else some ⟨g, j, none⟩) = some (if cap1 = j then ⟨g, 0, none⟩ else ⟨g, j, none⟩) := by split <;> rfl
        have hnw : ∀ q u, ((ys.drop j).map (Value.int .i64))[q]? = some u → w7.cell? ((if cap1 = j then (⟨g, 0, none⟩ : Addr) else ⟨g, j, none⟩).add q) = some u := by
         by_cases hck : cap1 = j
         ·intro q u hq; rw [List.drop_of_length_le (by rw [HM.out]; have := HCP.out.1; omega)] at hq; simp at hq
         ·rw [if_neg hck]; exact newsI_drop HR5.out hg5 (BW6.out.trans (hHeld.2.mono (by omega)))
        refine step_appendI rfl (.tmp 69) (.tmp 72) 26 rfl w5.heap.size 2 i0 (.int .i64 0) 1 8 Tryz.underlying26 hi hz0 hz1 hz2 rfl (by decide) v7 (j + 1) ((ys.take j).map (Value.int .i64) ++ [.int .i64 z.r]) (by rfl) H7.out _ 0 (cap1 - j) ((ys.drop j).map (Value.int .i64)) (by rw [← hsl]; rfl) (by rw [List.length_map, List.length_drop, HM.out]; omega) hnw (fun u hu => by obtain ⟨q, _, rfl⟩ := List.mem_map.1 hu; rfl) (by unfold maxLen; omega) (by omega) (by have h1 := hHeld.2.size; omega) ?_
        intro v8 w8 hown8 hgrow8 hnil8
        have hS := kpQ (hHeld.2.grown hgrow8 (by have h1 := hHeld.2.size; omega) (fun q e => by have := (H7.out.lt q e).1; omega))
        have H8 : Hid (w8.ownsRow w5.heap.size 2 1 v8 (j + 1 + 0) ((ys.take j).map (Value.int .i64) ++ [.int .i64 z.r] ++ (ys.drop j).map (Value.int .i64))) := hown8
        have N8 : Hid (v8 ≠ .slice none 0 0) := fun e => N7.out (hnil8.1 e).1
        clear hown8 hnil8 hgrow8
        refine hK.out _ _ hS (fun hHeld => ?_)
        clear hK K
        try simp only [Act.put, zA, zB, zC, zD, zE, zF]
        refine Zk.rd (i := 12) rfl (fun K hK => ?_)
        go_simp
        refine hK.out _ _ (by assumption) (fun hHeld => ?_)
        clear hK K
        try simp only [Act.put, zA, zB, zC, zD, zE, zF]
        refine wpAnyH_done (by kernel_rfl) ?_ _
        obtain ⟨g8, cap8, hv8⟩ := ownsI_shape H8.out N8.out
        subst hv8
        have BF : Hid (Below V.heap.size V w8) := (BV5.out.trans (BW6.out.mono BV5.out.size)).trans (hHeld.2.mono (by have := BV5.out.size; omega))
        have E3 : Hid (j + 1 + 0 = (sgTo zs x (k + 1)).length) := by show j + 1 + 0 = _; rw [HNX.out]; have := HM.out; simp; omega
        have HF : Hid (OwnI w8 V.heap.size (.slice (some ⟨g8, 0, none⟩) (j + 1 + 0) cap8) (sgTo zs x (k + 1))) := by
         have h8 := H8.out
         refine owns_lowI (B := w5.heap.size) ?_ (BV5.out.size)
         show World.ownsRow _ w5.heap.size 2 1 _ (sgTo zs x (k + 1)).length ((sgTo zs x (k + 1)).map (Value.int .i64))
         rw [← E3.out, HNX.out, List.map_append, List.map_append]
         exact h8
        clear hsl hnw H8 N8 H7 N7 hHeld
        go_wp2_with fail
        exact ⟨⟨k + 1, g8, cap8, by omega, by go_num, by rw [← E3.out], by rw [← E3.out]; exact HF.out, BF.out⟩, by simp [intOf]; omega⟩
     ·have hKl : K < m := by have := HK.out.1; have := HM.out; omega
      have HAT : Hid (∃ y, ys[K]? = some y ∧ ¬ y < z.r ∧ y ≠ z.r) := by
       obtain ⟨y, hy⟩ : ∃ y, ys[K]? = some y := ⟨_, List.getElem?_eq_getElem (by have := HM.out; omega)⟩
       exact ⟨y, hy, HK.out.2.2 y hy, fun e => hf (by rw [← e]; exact hy)⟩
      clear hf hK hKm
      go_wp2
      go_quiet (fail)
      go_wp2
      go_loopw [7] (fun i wr => ∃ j : Nat, j ≤ K ∧ i = .int .i64 (j : Int) ∧ Below U.heap.size U wr) (fun i _ => K - (intOf i).toNat)
      case atStart => exact ⟨0, Nat.zero_le _, rfl, below_drewN (Below.refl _ _) _⟩
      case round =>
       obtain ⟨j, hj, rfl, hjx⟩ := hrel
       obtain ⟨d0, d1, d2, d3, d4, d5⟩ := (HZA.out.below BU.out hbl).below hjx hblU
       by_cases hjK : j < K
       ·obtain ⟨y, hy⟩ : ∃ y, ys[j]? = some y := ⟨_, List.getElem?_eq_getElem (by have := HK.out.1; omega)⟩
        have hyr : y < z.r := HK.out.2.1 j y hjK hy
        have e0 := (hjx.cell (p := ⟨g, j, none⟩) hgU).trans (HR.out j y hy)
        have hjm : (j : Int) < (m : Int) := by have := HK.out.1; have := HM.out; omega
        have hj0 : (0 : Int) ≤ (j : Int) := by omega
        have b1 : decide ((j : Int) < (m : Int)) = true := by simp; omega
        have b2 : decide (y < z.r) = true := by simp [hyr]
        clear hy
        go_wp2
        go_quiet (fail)
        go_wp2
        exact ⟨⟨j + 1, by omega, by go_num, below_drewN hjx _⟩, by simp [intOf]; omega⟩
       ·have hjj : j = K := by omega
        subst hjj
        have hj0 : (0 : Int) ≤ (j : Int) := by omega
        have hjm : (j : Int) < (m : Int) := by omega
        have b1 : decide ((j : Int) < (m : Int)) = true := by simp; omega
        obtain ⟨y, hy, hyr, hyn⟩ := HAT.out
        have b2 : decide (y < z.r) = false := by simp; omega
        have b3 : (y == z.r) = false := by simpa using hyn
        have e0 := (hjx.cell (p := ⟨g, j, none⟩) hgU).trans (HR.out j y hy)
        clear hy hyr hyn
        go_wp2
        go_quiet (fail)
        obtain ⟨nq1, rfl⟩ : ∃ q, q = nq := ⟨_, rfl⟩
        go_wp2
        go_quiet (fail)
        have hbj := hjx
        obtain ⟨w5, hw5⟩ : ∃ w5, w5 = (wr.drewN nq1).drewN nq := ⟨_, rfl⟩
        rw [← hw5]
        have BV5 : Hid (Below V.heap.size V w5) := by rw [hw5]; exact BVU.out.trans ((below_drewN (below_drewN hjx _) _).mono BVU.out.size)
        have BU5 : Below U.heap.size U w5 := by rw [hw5]; exact below_drewN (below_drewN hjx _) _
        obtain ⟨c0, _, _, _, _, _⟩ := (HZA.out.below BU.out hbl).below BU5 hblU
        have HR5 : Hid (∀ q y, ys[q]? = some y → w5.cell? ⟨g, q, none⟩ = some (.int .i64 y)) := fun q y e => (BU5.cell (p := ⟨g, q, none⟩) hgU).trans (HR.out q y e)
        have hg5 : g < w5.heap.size := Nat.lt_of_lt_of_le hgU BU5.size
        have hb5 : b < w5.heap.size := Nat.lt_of_lt_of_le hblU BU5.size
        clear hw5 hbj d0 d1 d2 d3 d4 d5
        have H5 : Hid ((w5.alloc (.cells #[] 2)).ownsRow w5.heap.size 2 1 (.slice (some ⟨w5.heap.size, 0, none⟩) 0 0) 0 []) := World.ownsRow_lit (base := w5.heap.size) (e := 2) (size := 1) w5 #[] 0 (Nat.le_refl _) (Nat.zero_le _) rfl
        have hkc : (j : Int) ≤ (cap1 : Int) := by have := HCP.out; omega
        have hkm : (j : Int) ≤ (m : Int) := by omega
        have hj0' : (0 : Int) ≤ (j : Int) := by omega
        go_wp2_with (first
         | (at_builtin; refine wpList_append_own _ rfl _ _ 26 rfl w5.heap.size 2 i0 (.int .i64 0) 1 8 Tryz.underlying26 hi hz0 hz1 hz2 rfl (by decide) (.slice (some ⟨w5.heap.size, 0, none⟩) 0 0) 0 [] rfl H5.out ⟨g, 0, none⟩ j cap1 ((ys.take j).map (Value.int .i64)) rfl (by rw [List.length_map, List.length_take, HM.out]; omega) (newsI_take HR5.out hg5 (zN)) (fun u hu => by obtain ⟨q, _, rfl⟩ := List.mem_map.1 hu; rfl) (by unfold maxLen; omega) (by omega) (by simp) ?_))
        intro v6 w6 hown6 hgrow6 hnil6
        obtain ⟨g6, cap6, hv6⟩ := ownsI_shape hown6 hnil6
        (try simp only [Nat.zero_add] at hv6)
        subst hv6
        have H6 : Hid (w6.ownsRow w5.heap.size 2 1 (.slice (some ⟨g6, 0, none⟩) j cap6) j ((ys.take j).map (Value.int .i64))) := by
         show w6.ownsRow w5.heap.size 2 1 _ j _
         rw [List.map_take]
         have h0 := hown6
         (try simp only [Nat.zero_add, List.nil_append, List.map_take] at h0)
         exact h0
        have BW6 : Hid (Below w5.heap.size w5 w6) := ((Below.refl w5.heap.size w5).alloc (Nat.le_refl _) _).grown hgrow6 (by simp) (fun q e => by simp [Value.ownBlock] at e; omega)
        have hz6 : w5.heap.size + 1 ≤ w6.heap.size := by have := hgrow6.size; simp at this; omega
        have s0 : w6.cell? ⟨b, off + k * 6, none⟩ = some (.int .i64 z.r) := (BW6.out.cell (p := ⟨b, off + k * 6, none⟩) hb5).trans c0
        clear hown6 hgrow6 hnil6 H5 c0
        go_wp2_with fail
        refine wp_region_held_drew (S := fun w' => (∀ b o, b < w5.heap.size → w'.cell? ⟨b, o, none⟩ = w6.cell? ⟨b, o, none⟩) ∧ Below w5.heap.size w6 w') (by kernel_rfl) (kpQ ⟨rfl, rfl, rfl, Nat.le_refl _, fun _ _ => rfl⟩) (fun hHeld => ?_)
        refine Zk.go [0, 1, 2, 3, 4, 5, 8, 9, 10] ?_
        iterate 9
         refine Zk.st (v := ?_) rfl ?_ ?_
         rotate_left 1
         ·intro w hSw; (try dsimp only at hSw); go_simp; try (with_reducible rfl)
         try simp only [Act.put, zA, zB, zC, zD, zE, zF]
        refine Zk.fin ?_
        refine Zk.rd (i := 6) rfl (fun K hK => ?_)
        go_simp
        have hS := kpQ (hHeld.2.alloc (by show w5.heap.size ≤ w6.heap.size; omega) (.cells #[.int .i64 z.r] 2))
        refine hK.out _ _ hS (fun hHeld => ?_)
        clear hK K
        try simp only [Act.put, zA, zB, zC, zD, zE, zF]
        refine wpAnyH_ready (rs := [7]) (by kernel_rfl) (by simp) ?_
        refine AllReadyH.cons rfl (fun K hK => ?_) AllReadyH.nil
        refine step_appendI rfl (.tmp 62) (.tmp 68) 26 rfl w5.heap.size 2 i0 (.int .i64 0) 1 8 Tryz.underlying26 hi hz0 hz1 hz2 rfl (by decide) (.slice (some ⟨g6, 0, none⟩) j cap6) j ((ys.take j).map (Value.int .i64)) (by rfl) (H6.out.alloc _) ⟨w6.heap.size, 0, none⟩ 1 1 [.int .i64 z.r] (by rfl) (by rfl) (fun q u hq => by match q, hq with | 0, hq => simp at hq; subst hq; simp [Addr.add]) (fun u hu => by simp at hu; subst hu; rfl) (by unfold maxLen; omega) (by omega) (by show w5.heap.size ≤ (w6.alloc _).heap.size; simp; omega) ?_
        intro v7 w7 hown7 hgrow7 hnil7
        have hS := kpQ (hHeld.2.grown hgrow7 (by show w5.heap.size ≤ (w6.alloc _).heap.size; simp; omega) (fun q e => by have := (H6.out.lt q e).1; omega))
        have H7 : Hid (w7.ownsRow w5.heap.size 2 1 v7 (j + 1) ((ys.take j).map (Value.int .i64) ++ [.int .i64 z.r])) := hown7
        have N7 : Hid (v7 ≠ .slice none 0 0) := fun e => by have := (hnil7.1 e).1; simp at this
        clear hown7 hnil7 hgrow7
        refine hK.out _ _ hS (fun hHeld => ?_)
        clear hK K
        try simp only [Act.put, zA, zB, zC, zD, zE, zF]
        refine wpAnyH_ready (rs := [11]) (by kernel_rfl) (by simp) ?_
        refine AllReadyH.cons rfl (fun K hK => ?_) AllReadyH.nil
        have hsl : (if cap1 = j then (some ⟨g, 0, none⟩ : Option Addr) else some ⟨g, j, none⟩) = some (if cap1 = j then ⟨g, 0, none⟩ else ⟨g, j, none⟩) := by split <;> rfl
        have hnw : ∀ q u, ((ys.drop j).map (Value.int .i64))[q]? = some u → w7.cell? ((if cap1 = j then (⟨g, 0, none⟩ : Addr) else ⟨g, j, none⟩).add q) = some u := by
         by_cases hck : cap1 = j
         ·intro q u hq; rw [List.drop_of_length_le (by rw [HM.out]; have := HCP.out.1; omega)] at hq; simp at hq
         ·rw [if_neg hck]; exact newsI_drop HR5.out hg5 (BW6.out.trans (hHeld.2.mono (by omega)))
        refine step_appendI rfl (.tmp 69) (.tmp 72) 26 rfl w5.heap.size 2 i0 (.int .i64 0) 1 8 Tryz.underlying26 hi hz0 hz1 hz2 rfl (by decide) v7 (j + 1) ((ys.take j).map (Value.int .i64) ++ [.int .i64 z.r]) (by rfl) H7.out _ (m - j) (cap1 - j) ((ys.drop j).map (Value.int .i64)) (by rw [← hsl]; rfl) (by rw [List.length_map, List.length_drop, HM.out]; omega) hnw (fun u hu => by obtain ⟨q, _, rfl⟩ := List.mem_map.1 hu; rfl) (by unfold maxLen; omega) (by omega) (by have h1 := hHeld.2.size; omega) ?_
        intro v8 w8 hown8 hgrow8 hnil8
        have hS := kpQ (hHeld.2.grown hgrow8 (by have h1 := hHeld.2.size; omega) (fun q e => by have := (H7.out.lt q e).1; omega))
        have H8 : Hid (w8.ownsRow w5.heap.size 2 1 v8 (j + 1 + (m - j)) ((ys.take j).map (Value.int .i64) ++ [.int .i64 z.r] ++ (ys.drop j).map (Value.int .i64))) := hown8
        have N8 : Hid (v8 ≠ .slice none 0 0) := fun e => N7.out (hnil8.1 e).1
        clear hown8 hnil8 hgrow8
        refine hK.out _ _ hS (fun hHeld => ?_)
        clear hK K
        try simp only [Act.put, zA, zB, zC, zD, zE, zF]
        refine Zk.rd (i := 12) rfl (fun K hK => ?_)
        go_simp
        refine hK.out _ _ (by assumption) (fun hHeld => ?_)
        clear hK K
        try simp only [Act.put, zA, zB, zC, zD, zE, zF]
        refine wpAnyH_done (by kernel_rfl) ?_ _
        obtain ⟨g8, cap8, hv8⟩ := ownsI_shape H8.out N8.out
        subst hv8
        have BF : Hid (Below V.heap.size V w8) := (BV5.out.trans (BW6.out.mono BV5.out.size)).trans (hHeld.2.mono (by have := BV5.out.size; omega))
        have E3 : Hid (j + 1 + (m - j) = (sgTo zs x (k + 1)).length) := by show j + 1 + (m - j) = _; rw [HNX.out]; have := HM.out; simp; omega
        have HF : Hid (OwnI w8 V.heap.size (.slice (some ⟨g8, 0, none⟩) (j + 1 + (m - j)) cap8) (sgTo zs x (k + 1))) := by
         have h8 := H8.out
         refine owns_lowI (B := w5.heap.size) ?_ (BV5.out.size)
         show World.ownsRow _ w5.heap.size 2 1 _ (sgTo zs x (k + 1)).length ((sgTo zs x (k + 1)).map (Value.int .i64))
         rw [← E3.out, HNX.out, List.map_append, List.map_append]
         exact h8
        clear hsl hnw H8 N8 H7 N7 hHeld
        go_wp2_with fail
        exact ⟨⟨k + 1, g8, cap8, by omega, by go_num, by rw [← E3.out], by rw [← E3.out]; exact HF.out, BF.out⟩, by simp [intOf]; omega⟩
  ·have hkn : k = n := by omega
   have hlt' : ¬ ((k : Int) < (n : Int)) := by omega
   have HF : Hid ((sgL zs x).length = m ∧ sgL zs x = ys) := by
    have e : sgL zs x = ys := by unfold sgL; rw [HZ.out, ← hkn]; exact HYS.out
    exact ⟨by rw [e]; exact hm, e⟩
   have HO : Hid (OwnI wr w.heap.size (.slice (some ⟨g, 0, none⟩) m cap1) ys) := owns_lowI hown (by omega)
   clear hown hys hm p1 p2 p3 p4 p5 hkn
   go_wp2
   go_ret
   exact ⟨g, cap1, by rw [HF.out.1]; rfl, by rw [HF.out.1, HF.out.2]; exact HO.out, HBV.out.trans (hvx.mono HBV.out.size)⟩
end

section
open Go.RowKit Go.Maps
def GivesSO (fn : Nat) (a : Option Addr) (n cap : Nat) (x : StI) (c : Int) (ys : List Int) (w : World) : Prop := Calls Tryz.prog fn #[.slice a n cap, .agg #[.int .i64 x.k, .int .i64 x.e, .int .i64 x.f, .int .i64 x.s, .int .i64 x.n]] w fun e w' => ∃ (ra : Option Addr) (rc : Nat), e = .returned (.agg #[.int .i64 c, .slice ra ys.length rc]) ∧ w'.ownsRow w.heap.size 2 1 (.slice ra ys.length rc) ys.length (ys.map (Value.int .i64)) ∧ Below w.heap.size w w'
theorem two_boxes (w : World) (x : StI) (T R : TypeId) : ∃ V, V = (w.alloc (.cells #[.int .i64 x.k, .int .i64 x.e, .int .i64 x.f, .int .i64 x.s, .int .i64 x.n] T)).alloc (.cells #[.int .i64 0, .slice none 0 0] R) ∧ Below w.heap.size w V ∧ V.heap.size = w.heap.size + 1 + 1 ∧ StAt V w.heap.size 0 x ∧ BoxW (w.heap.size + 1) [.int .i64 0, .slice none 0 0] V := by
 refine ⟨_, rfl, (zN).alloc (by simp) _, by simp, ?_, ?_⟩
 ·exact (StAt.new w x T).below (zN) (by simp)
 ·have q := boxW_new (w.alloc (.cells #[.int .i64 x.k, .int .i64 x.e, .int .i64 x.f, .int .i64 x.s, .int .i64 x.n] T)) #[.int .i64 0, .slice none 0 0] R
  simp only [World.size_alloc] at q
  exact q
theorem sg_wf {zs : List ShI} (h : ∀ z ∈ zs, i64W z.r) (x : StI) : ∀ i ∈ sgL zs x, i64W i := fun i hi => h _ ((mem_sgL zs x i).1 hi)
theorem keys_sg {zs : List ShI} {x : StI} {ys : List Int} (hr : ∀ z ∈ zs, i64W z.r) (hu : Up ys) (hk : KeysS (fun i => decide (i ∈ sgL zs x)) ys) : ys = sgL zs x := by
 refine up_unique hu (sgL_up zs x) (fun i => ⟨fun hi => ?_, fun hi => ?_⟩)
 ·have := (hk.2.2 i (hk.2.1 i hi)).1 hi
  exact of_decide_eq_true this
 ·exact (hk.2.2 i (sg_wf hr x i hi)).2 (decide_eq_true hi)
theorem implSigners_c (a : Option Addr) (n cap : Nat) (zs : List ShI) (x : StI) (w : World) (hn : n ≤ 1048576) (hr : ∀ z ∈ zs, i64W z.r) (h : ShIn w a n zs) : GivesSO 85 a n cap x (sgCode zs x) (sgRes zs x) w := by
 unfold GivesSO
 obtain ⟨V, hV, BV, hVs, hst, hbx⟩ := two_boxes w x 54 28
 have HZ : Hid (zs.length = n) := h.1
 have hn' : (n : Int) ≤ 1048576 := by omega
 obtain ⟨c, hc⟩ : ∃ c, sgCode zs x = c := ⟨_, rfl⟩
 obtain ⟨ys, hys⟩ : ∃ ys, sgRes zs x = ys := ⟨_, rfl⟩
 rw [hc, hys]
 have HC : Hid (c = if 120 < n then 2 else stCode x) := by show c = _; rw [← hc]; unfold sgCode; rw [HZ.out]
 have HY : Hid (ys = if c = 0 then sgL zs x else []) := by show ys = _; rw [← hys, ← hc]; rfl
 have HS : Hid (ShIn V a n zs) := h.below BV
 have HB : Hid (BoxW (w.heap.size + 1) [.int .i64 0, .slice none 0 0] V) := hbx
 have HX : Hid (StAt V w.heap.size 0 x) := hst
 have HSZ : Hid (V.heap.size = w.heap.size + 1 + 1) := hVs
 have HW : Hid (∀ z ∈ zs, i64W z.r) := hr
 clear h hc hys hVs hr
 by_cases hl : 120 < n
 ·have HC2 : Hid (c = 2 ∧ ys = []) := by
   have e : c = 2 := by rw [HC.out, if_pos hl]
   exact ⟨e, by rw [HY.out, if_neg (by omega)]⟩
  have hl' : (120 : Int) < (n : Int) := by omega
  rw [HC2.out.1, HC2.out.2]
  clear hV BV hst hbx HS HB HSZ HC HY
  go_enter Tryz.func85, Tryz.ntmps85
  go_wp2
  go_returns
  exact ⟨none, 0, rfl, World.ownsRow_nil _ _ _ _, by go_grown⟩
 ·have hl' : ¬ ((120 : Int) < (n : Int)) := by omega
  have HC2 : Hid (c = stCode x) := by show c = _; rw [HC.out, if_neg hl]
  have HF : Hid (Calls Tryz.prog 96 #[.agg #[.int .i64 x.k, .int .i64 x.e, .int .i64 x.f, .int .i64 x.s, .int .i64 x.n]] V fun e w' => e = .returned (.int .i64 c) ∧ Below V.heap.size V w') := by rw [HC2.out]; exact implStatementFault_c x V
  have hVl : w.heap.size + 1 < V.heap.size := by have := HSZ.out; omega
  have hVw : w.heap.size < V.heap.size := by omega
  obtain ⟨x0, x1, x2, x3, x4⟩ := hst
  simp only [Nat.zero_add] at x0 x1 x2 x3 x4
  by_cases c0 : c = 0
  ·have cb : (c != 0) = false := by simp [c0]
   have HY2 : Hid (ys = sgL zs x ∧ c = 0) := ⟨by rw [HY.out, if_pos c0], c0⟩
   clear c0 HY HC HC2 hbx
   go_enter Tryz.func85, Tryz.ntmps85
   go_wp2_with fail
   rw [← hV]
   clear hV
   refine HF.out.mono ?_
   rintro e w1 ⟨rfl, hb1⟩
   have BW1 : Hid (Below V.heap.size V w1) := hb1
   have hz1 := hb1.size
   have hmk : (Instr.makeMap 167 none).run Tryz.prog w1 = .ok (.map (some w1.heap.size)) (w1.alloc (.map #[] 0)) := run_makeMap _ w1
   obtain ⟨M, hM⟩ : ∃ M, M = w1.alloc (.map #[] 0) := ⟨_, rfl⟩
   have BM : Hid (Below w1.heap.size w1 M) := by rw [hM]; exact zN
   have SM0 : Hid (SM M w1.heap.size 0 (fun _ => false)) := by rw [hM]; exact sm_made w1
   rw [← hM] at hmk
   clear hM x0 x1 x2 x3 x4 hb1
   go_wp2_with fail
   go_loopw [22] (fun i wr => ∃ k : Nat, k ≤ n ∧ i = .int .i64 (k : Int) ∧ SM wr w1.heap.size k (fun i => decide (i ∈ sgTo zs x k)) ∧ Below w1.heap.size w1 wr) (fun i _ => n - (intOf i).toNat)
   case atStart => exact ⟨0, Nat.zero_le _, rfl, SM0.out.cong (fun i => by simp [sgTo]), BM.out⟩
   case round =>
    obtain ⟨k, hk, rfl, hsm, hwx⟩ := hrel
    have hvx : Below V.heap.size V wr := BW1.out.trans (hwx.mono hz1)
    by_cases hlt : k < n
    ·obtain ⟨b, off, z, rfl, hz, hza, hbl⟩ := HS.out.at hlt
     have hltk : (k : Int) < (n : Int) := by omega
     obtain ⟨d0, d1, d2, d3, d4, d5⟩ := hza.below hvx hbl
     obtain ⟨Y, hY⟩ : ∃ Y, Y = wr.alloc (.cells #[.int .i64 z.r, .int .i64 z.k, .int .i64 z.e, .int .i64 z.f, .int .i64 z.s, .int .i64 z.n] 76) := ⟨_, rfl⟩
     have hsl := hsm.lt
     have SY : SM Y w1.heap.size k (fun i => decide (i ∈ sgTo zs x k)) := by rw [hY]; exact hsm.below hsl (zN)
     have BY : Below w1.heap.size w1 Y := by rw [hY]; exact hwx.alloc hwx.size _
     obtain ⟨y0, y1, y2, y3, y4⟩ := HX.out.below hvx hVw
     simp only [Nat.zero_add] at y0 y1 y2 y3 y4
     have hwl : w.heap.size < wr.heap.size := Nat.lt_of_lt_of_le hVw hvx.size
     cases hsame : sameSt z.st x
     ·have HN : Hid (SM Y w1.heap.size (k + 1) (fun i => decide (i ∈ sgTo zs x (k + 1)))) := (SY.le (by omega)).cong (fun i => by rw [sgTo_miss hz hsame])
      have hse : ∀ w : World, (binOp .eql 54 (.agg #[.int .i64 z.k, .int .i64 z.e, .int .i64 z.f, .int .i64 z.s, .int .i64 z.n]) (.agg #[.int .i64 x.k, .int .i64 x.e, .int .i64 x.f, .int .i64 x.s, .int .i64 x.n])).run Tryz.prog w = .ok (.bool false) w := fun w => by have := st_eql z.st x w; rw [hsame] at this; exact this
      clear hz hza hsame SY hsm
      go_wp2
      rw [← hY]
      exact ⟨⟨k + 1, by omega, by go_num, HN.out, BY⟩, by simp [intOf]; omega⟩
     ·have HP : Hid (Calls Tryz.prog 105 #[.map (some w1.heap.size), .int .i64 z.r] Y fun e w' => e = .returned (.tuple #[]) ∧ SM w' w1.heap.size (k + 1) (fun i => decide (i ∈ sgTo zs x (k + 1))) ∧ Y.grownBy w' (some w1.heap.size)) :=
       (snPut_c w1.heap.size k _ z.r Y SY (by omega) (HW.out z (List.mem_of_getElem? hz))).mono fun e w' hh => ⟨hh.1, hh.2.1.cong (fun i => by
        unfold putP
        rw [sgTo_hit hz hsame, Bool.eq_iff_iff]
        simp only [Bool.or_eq_true, decide_eq_true_eq, mem_insR]), hh.2.2⟩
      have hse : ∀ w : World, (binOp .eql 54 (.agg #[.int .i64 z.k, .int .i64 z.e, .int .i64 z.f, .int .i64 z.s, .int .i64 z.n]) (.agg #[.int .i64 x.k, .int .i64 x.e, .int .i64 x.f, .int .i64 x.s, .int .i64 x.n])).run Tryz.prog w = .ok (.bool true) w := fun w => by have := st_eql z.st x w; rw [hsame] at this; exact this
      clear hz hza hsame SY hsm
      go_wp2_with fail
      rw [← hY]
      refine HP.out.mono ?_
      rintro e w2 ⟨rfl, hsm2, hg2⟩
      have B2 : Below w1.heap.size w1 w2 := BY.grown hg2 BY.size (fun q e => by cases e; exact Nat.le_refl _)
      clear hg2 hY HP
      go_wp2
      exact ⟨⟨k + 1, by omega, by go_num, hsm2, B2⟩, by simp [intOf]; omega⟩
    ·have hkn : k = n := by omega
     subst hkn
     have hltk : ¬ ((k : Int) < (k : Int)) := by omega
     have SME : Hid (SM wr w1.heap.size k (fun i => decide (i ∈ sgL zs x))) := hsm.cong (fun i => by unfold sgL; rw [HZ.out])
     have HL : Hid (Calls Tryz.prog 106 #[.map (some w1.heap.size), .func (.func 107) #[] #[]] wr fun e W' => ∃ v us, e = .returned v ∧ us = ys ∧ OwnI W' wr.heap.size v us ∧ Below wr.heap.size wr W') :=
      (slist_c w1.heap.size k _ wr (by omega) SME.out (fun us hk => by
       have h1 := nodup_lenI us (sgL zs x) hk.1 (fun i hi => of_decide_eq_true ((hk.2.2 i (hk.2.1 i hi)).1 hi))
       have := sgL_len zs x
       have := HZ.out
       omega)).mono fun e W' hh => by
        obtain ⟨v, us, e1, hu, hk, ho, hb⟩ := hh
        exact ⟨v, us, e1, by rw [keys_sg HW.out hu hk, HY2.out.1], ho, hb⟩
     have BWR : Hid (Below w.heap.size w wr) := BV.trans (hvx.mono BV.size)
     have XR : Hid (BoxW (w.heap.size + 1) [.int .i64 0, .slice none 0 0] wr) := HB.out.below (by omega) hvx
     have hwr : w.heap.size + 1 < wr.heap.size := Nat.lt_of_lt_of_le hVl hvx.size
     clear hsm
     go_wp2_with fail
     refine HL.out.mono ?_
     rintro e w2 ⟨v, us, rfl, rfl, ho, hb2⟩
     have BW2 : Below w.heap.size w w2 := BWR.out.trans (hb2.mono BWR.out.size)
     have X2 := XR.out.below (by omega) hb2
     have d0 := X2.1 0 _ rfl
     have d1 := X2.1 1 _ rfl
     have e0 := X2.2 0
     have e1 := X2.2 1
     have hw2 : w.heap.size + 1 < w2.heap.size := Nat.lt_of_lt_of_le hwr hb2.size
     obtain ⟨ra, rc, hv⟩ : ∃ ra rc, v = .slice ra us.length rc := by
      have ho0 : w2.ownsRow wr.heap.size 2 1 v us.length (us.map (Value.int .i64)) := ho
      rcases ho0.2 with ⟨h1, h2⟩ | ⟨g, cp, cur, h1, _⟩
      ·exact ⟨none, 0, by rw [h1, h2]⟩
      ·exact ⟨_, _, h1⟩
     subst hv
     obtain ⟨m, hm⟩ : ∃ m, us.length = m := ⟨_, rfl⟩
     have HO : Hid (OwnI w2 wr.heap.size (.slice ra m rc) us ∧ us.length = m) := ⟨by rw [← hm]; exact ho, hm⟩
     rw [hm]
     have HC0 : Hid (c = 0) := HY2.out.2
     have HSZ2 : Hid (w.heap.size + 1 < wr.heap.size) := hwr
     clear ho hm X2 hb2 HL HF HS HB HY2
     go_wp2
     refine bodyPost_ret (v := .agg #[.int .i64 0, .slice ra m rc]) (by simp [results, Tryz.results85, go_sem, d0, d1, hw2]) rfl ⟨ra, rc, by rw [HC0.out, HO.out.2], ?_, ?_⟩
     ·rw [HO.out.2]
      have h0 : w2.ownsRow wr.heap.size 2 1 (.slice ra m rc) us.length (us.map (Value.int .i64)) := HO.out.1
      rw [HO.out.2] at h0
      have h1 := ownsE_set (ownsE_set h0 (a := ⟨w.heap.size + 1, 0, none⟩) HSZ2.out (.int .i64 0)) (a := ⟨w.heap.size + 1, 1, none⟩) HSZ2.out (.slice ra m rc)
      rcases h1 with ⟨k1, k2⟩
      refine ⟨k1, ?_⟩
      rcases k2 with k2 | ⟨g', cap', cur, e, hg, rest⟩
      ·exact .inl k2
      ·exact .inr ⟨g', cap', cur, e, by have := HSZ2.out; omega, rest⟩
     ·exact (BW2.setCell (by show w.heap.size ≤ w.heap.size + 1; omega) _).setCell (by show w.heap.size ≤ w.heap.size + 1; omega) _
  ·have cb : (c != 0) = true := by simp [c0]
   have HY2 : Hid (ys = []) := by show ys = []; rw [HY.out, if_neg c0]
   rw [HY2.out]
   clear c0 HY HC HC2 hbx
   go_enter Tryz.func85, Tryz.ntmps85
   go_wp2_with fail
   rw [← hV]
   clear hV
   refine HF.out.mono ?_
   rintro e w1 ⟨rfl, hb1⟩
   have X1 := HB.out.below (by omega) hb1
   have b0 := X1.1 0 _ rfl
   have b1 := X1.1 1 _ rfl
   have f0 := X1.2 0
   have f1 := X1.2 1
   have BW1 : Below w.heap.size w w1 := BV.trans (hb1.mono BV.size)
   have hVl1 : w.heap.size + 1 < w1.heap.size := Nat.lt_of_lt_of_le hVl hb1.size
   clear X1 hb1 x0 x1 x2 x3 x4
   go_wp2
   refine bodyPost_ret (v := .agg #[.int .i64 c, .slice none 0 0]) (by simp [results, Tryz.results85, go_sem, b0, b1, hVl1]) rfl ⟨none, 0, rfl, World.ownsRow_nil _ _ _ _, ?_⟩
   exact (BW1.setCell (by show w.heap.size ≤ w.heap.size + 1; omega) _).setCell (by show w.heap.size ≤ w.heap.size + 1; omega) _
end

section
open Go.RowKit Go.Maps
attribute [local go_sem] fldN0 fldN1
def cbX (f : Int) (zs : List ShI) (x : StI) : StI := if cbCode f zs x = 0 then x else ⟨0, 0, 0, 0, 0⟩
def cbL (f : Int) (zs : List ShI) (x : StI) : List Int := if cbCode f zs x = 0 then (sgL zs x).take (2 * f + 1).toNat else []
def GivesCB (fn : Nat) (a : Option Addr) (n cap : Nat) (f : Int) (x : StI) (c : Int) (cx : StI) (ys : List Int) (w : World) : Prop := Calls Tryz.prog fn #[.slice a n cap, .int .i64 f, .agg #[.int .i64 x.k, .int .i64 x.e, .int .i64 x.f, .int .i64 x.s, .int .i64 x.n]] w fun e w' => ∃ (ra : Option Addr) (rc : Nat), e = .returned (.agg #[.int .i64 c, .int .i64 cx.k, .int .i64 cx.e, .int .i64 cx.f, .int .i64 cx.s, .int .i64 cx.n, .slice ra ys.length rc]) ∧ w'.ownsRow w.heap.size 2 1 (.slice ra ys.length rc) ys.length (ys.map (Value.int .i64)) ∧ Below w.heap.size w w'
theorem two_boxes7 (w : World) (x : StI) (T R : TypeId) : ∃ V, V = (w.alloc (.cells #[.int .i64 x.k, .int .i64 x.e, .int .i64 x.f, .int .i64 x.s, .int .i64 x.n] T)).alloc (.cells #[.int .i64 0, .int .i64 0, .int .i64 0, .int .i64 0, .int .i64 0, .int .i64 0, .slice none 0 0] R) ∧ Below w.heap.size w V ∧ V.heap.size = w.heap.size + 1 + 1 ∧ StAt V w.heap.size 0 x ∧ BoxW (w.heap.size + 1) [.int .i64 0, .int .i64 0, .int .i64 0, .int .i64 0, .int .i64 0, .int .i64 0, .slice none 0 0] V := by
 refine ⟨_, rfl, (zN).alloc (by simp) _, by simp, ?_, ?_⟩
 ·exact (StAt.new w x T).below (zN) (by simp)
 ·have q := boxW_new (w.alloc (.cells #[.int .i64 x.k, .int .i64 x.e, .int .i64 x.f, .int .i64 x.s, .int .i64 x.n] T)) #[.int .i64 0, .int .i64 0, .int .i64 0, .int .i64 0, .int .i64 0, .int .i64 0, .slice none 0 0] R
  simp only [World.size_alloc] at q
  exact q
theorem owns_takeI {w : World} {B : Nat} {g m q k : Nat} {ys : List Int} (h : OwnI w B (.slice (some ⟨g, 0, none⟩) m q) ys) (hk : k ≤ m) : w.ownsRow B 2 1 (.slice (some ⟨g, 0, none⟩) k q) k ((ys.take k).map (Value.int .i64)) := by
 have hp := ownI_parts h
 have h0 : w.ownsRow B 2 1 (.slice (some ⟨g, 0, none⟩) m q) ys.length (ys.map (Value.int .i64)) := h
 refine ⟨by simp; omega, ?_⟩
 rcases h0.2 with ⟨h1, _⟩ | ⟨g', cap', cur, h1, hg, hb, h3, h4, h5, h6⟩
 ·simp at h1
 ·simp at h1
  obtain ⟨rfl, _, rfl⟩ := h1
  refine .inr ⟨g, q, cur, rfl, hg, hb, by omega, h4, h5, ?_⟩
  rw [List.map_take, ← h6, List.take_take]
  congr 1
  omega
theorem owns_drew {w : World} {B : Nat} {t : TypeId} {sz : Nat} {v : Value} {n : Nat} {xs : List Value} (h : w.ownsRow B t sz v n xs) : w.drew.ownsRow B t sz v n xs := owns_kept h (fun _ _ => rfl)
theorem own7 {w : World} {base : Nat} {e : TypeId} {size : Nat} {v : Value} {n : Nat} {xs : List Value} (h : w.ownsRow base e size v n xs) (b : Nat) (hb : b < base) (v0 v1 v2 v3 v4 v5 v6 : Value) : (((((((w.setCell ⟨b, 0, none⟩ v0).setCell ⟨b, 1, none⟩ v1).setCell ⟨b, 2, none⟩ v2).setCell ⟨b, 3, none⟩ v3).setCell ⟨b, 4, none⟩ v4).setCell ⟨b, 5, none⟩ v5).setCell ⟨b, 6, none⟩ v6).ownsRow base e size v n xs := (ownsE_set (ownsE_set (ownsE_set (ownsE_set (ownsE_set (ownsE_set (ownsE_set h (a := ⟨b, 0, none⟩) hb v0) (a := ⟨b, 1, none⟩) hb v1) (a := ⟨b, 2, none⟩) hb v2) (a := ⟨b, 3, none⟩) hb v3) (a := ⟨b, 4, none⟩) hb v4) (a := ⟨b, 5, none⟩) hb v5) (a := ⟨b, 6, none⟩) hb v6)
theorem below7 {B : Nat} {w0 w : World} (h : Below B w0 w) (b : Nat) (hb : B ≤ b) (v0 v1 v2 v3 v4 v5 v6 : Value) : Below B w0 (((((((w.setCell ⟨b, 0, none⟩ v0).setCell ⟨b, 1, none⟩ v1).setCell ⟨b, 2, none⟩ v2).setCell ⟨b, 3, none⟩ v3).setCell ⟨b, 4, none⟩ v4).setCell ⟨b, 5, none⟩ v5).setCell ⟨b, 6, none⟩ v6) := (((((((h.setCell hb v0).setCell hb v1).setCell hb v2).setCell hb v3).setCell hb v4).setCell hb v5).setCell hb v6)
theorem low_owns {w : World} {B B' : Nat} {t : TypeId} {sz : Nat} {v : Value} {n : Nat} {xs : List Value} (h : w.ownsRow B t sz v n xs) (hB : B' ≤ B) : w.ownsRow B' t sz v n xs := by
 refine ⟨h.1, ?_⟩
 rcases h.2 with q | ⟨g, cap, cur, e, hg, rest⟩
 ·exact .inl q
 ·exact .inr ⟨g, cap, cur, e, Nat.le_trans hB hg, rest⟩
theorem specCombine_c (a : Option Addr) (n cap : Nat) (zs : List ShI) (f : Int) (x : StI) (w : World) (hn : n ≤ 1048576) (hcap : n ≤ cap) (hcm : cap ≤ maxLen) (h : ShIn w a n zs) : GivesCB 57 a n cap f x (cbCode f zs x) (cbX f zs x) (cbL f zs x) w := by
 unfold GivesCB
 obtain ⟨V, hV, BV, hVs, hst, hbx⟩ := two_boxes7 w x 54 58
 have HZ : Hid (zs.length = n) := h.1
 have hn' : (n : Int) ≤ 1048576 := by omega
 obtain ⟨c, hc⟩ : ∃ c, cbCode f zs x = c := ⟨_, rfl⟩
 obtain ⟨cx, hcx⟩ : ∃ cx, cbX f zs x = cx := ⟨_, rfl⟩
 obtain ⟨ys, hys⟩ : ∃ ys, cbL f zs x = ys := ⟨_, rfl⟩
 rw [hc, hcx, hys]
 obtain ⟨s, hs⟩ : ∃ s, shCode f zs = s := ⟨_, rfl⟩
 obtain ⟨t, ht⟩ : ∃ t, stCode x = t := ⟨_, rfl⟩
 have HC : Hid (c = if s = 0 then (if t = 0 then (if ((sgL zs x).length : Int) < 2 * f + 1 then 7 else 0) else t) else s) := by show c = _; rw [← hc, ← hs, ← ht]; rfl
 have HX : Hid (cx = if c = 0 then x else ⟨0, 0, 0, 0, 0⟩) := by show cx = _; rw [← hcx, ← hc]; rfl
 have HY : Hid (ys = if c = 0 then (sgL zs x).take (2 * f + 1).toNat else []) := by show ys = _; rw [← hys, ← hc]; rfl
 have HBAD : Hid (c ≠ 0 → cx = ⟨0, 0, 0, 0, 0⟩ ∧ ys = []) := fun q => ⟨by rw [HX.out, if_neg q], by rw [HY.out, if_neg q]⟩
 have HS : Hid (ShIn V a n zs) := h.below BV
 have HB : Hid (BoxW (w.heap.size + 1) [.int .i64 0, .int .i64 0, .int .i64 0, .int .i64 0, .int .i64 0, .int .i64 0, .slice none 0 0] V) := hbx
 have HXA : Hid (StAt V w.heap.size 0 x) := hst
 have HSZ : Hid (V.heap.size = w.heap.size + 1 + 1) := hVs
 have hVl0 : w.heap.size + 1 < V.heap.size := by omega
 have HF : Hid (Calls Tryz.prog 66 #[.slice a n cap, .int .i64 f] V fun e w' => e = .returned (.int .i64 s) ∧ Below V.heap.size V w') := by have := l9Fault_c a n cap zs f V hn hcap hcm HS.out; rw [hs] at this; exact this
 by_cases s0 : s = 0
 ·have sb : (s != 0) = false := by simp [s0]
  have hok := sh_ok (hs.trans s0)
  obtain ⟨hf1, hf2⟩ := (inR_iff _ _ _).1 hok.1
  have hn2 : n ≤ 120 := by have := HZ.out; omega
  clear hc hcx hys hs hok h hst hbx hVs
  have HT : Hid (∀ w2, Below V.heap.size V w2 → Calls Tryz.prog 83 #[.pointer (some ⟨w.heap.size, 0, none⟩)] w2 fun e w' => e = .returned (.int .i64 t) ∧ w2 = w') := fun w2 hb => by rw [← ht]; exact l7Fault_c _ _ x w2 (HXA.out.below hb (by have := HSZ.out; omega))
  by_cases t0 : t = 0
  ·have tb : (t != 0) = false := by simp [t0]
   obtain ⟨m, hm⟩ : ∃ m, (sgL zs x).length = m := ⟨_, rfl⟩
   have HC2 : Hid (c = if (m : Int) < 2 * f + 1 then 7 else 0) := by show c = _; rw [HC.out, if_pos s0, if_pos t0, hm]
   have HL : Hid (∀ w2, Below V.heap.size V w2 → Calls Tryz.prog 84 #[.slice a n cap, .agg #[.int .i64 x.k, .int .i64 x.e, .int .i64 x.f, .int .i64 x.s, .int .i64 x.n]] w2 fun e w' => ∃ (g q : Nat), e = .returned (.slice (some ⟨g, 0, none⟩) m q) ∧ OwnI w' w2.heap.size (.slice (some ⟨g, 0, none⟩) m q) (sgL zs x) ∧ Below w2.heap.size w2 w') := fun w2 hb => by rw [← hm]; exact l9Signers_c a n cap zs x w2 (by omega) (HS.out.below hb)
   have hml : m ≤ 120 := by have := sgL_len zs x; have := HZ.out; omega
   have hml' : (m : Int) ≤ 120 := by omega
   clear s0 t0 ht HC hm
   go_enter Tryz.func57, Tryz.ntmps57
   go_wp2_with fail
   rw [← hV]
   clear hV
   refine HF.out.mono ?_
   rintro e w1 ⟨rfl, hb1⟩
   go_wp2_with fail
   refine (HT.out _ hb1).mono ?_
   rintro e w1' ⟨rfl, rfl⟩
   obtain ⟨x0, x1, x2, x3, x4⟩ := HXA.out.below hb1 (by have := HSZ.out; omega)
   simp only [Nat.zero_add] at x0 x1 x2 x3 x4
   go_wp2_with fail
   refine (HL.out _ hb1).mono ?_
   rintro e w2 ⟨g, q, rfl, ho, hb2⟩
   have hz1 := hb1.size
   have hz2 := hb2.size
   have HO : Hid (OwnI w2 V.heap.size (.slice (some ⟨g, 0, none⟩) m q) (sgL zs x)) := owns_lowI ho hz1
   have hq := ownI_parts ho
   have hb12 : Below V.heap.size V w2 := hb1.trans (hb2.mono hz1)
   clear x0 x1 x2 x3 x4 ho hb1 hb2
   have XB := HB.out.below (by have := HSZ.out; omega) hb12
   have b0 := XB.1 0 _ rfl
   have b1 := XB.1 1 _ rfl
   have b2 := XB.1 2 _ rfl
   have b3 := XB.1 3 _ rfl
   have b4 := XB.1 4 _ rfl
   have b5 := XB.1 5 _ rfl
   have b6 := XB.1 6 _ rfl
   have f0 := XB.2 0
   have f1 := XB.2 1
   have f2 := XB.2 2
   have f3 := XB.2 3
   have f4 := XB.2 4
   have f5 := XB.2 5
   have f6 := XB.2 6
   have BWX : Below w.heap.size w w2 := BV.trans (hb12.mono BV.size)
   have hVl : w.heap.size + 1 < w2.heap.size := by omega
   clear XB
   by_cases hlt : (m : Int) < 2 * f + 1
   ·have HR : Hid (cx = ⟨0, 0, 0, 0, 0⟩ ∧ ys = []) := HBAD.out (by rw [HC2.out, if_pos hlt]; omega)
    have H7 : Hid (c = 7) := by show c = 7; rw [HC2.out, if_pos hlt]
    go_wp2
    refine bodyPost_ret (v := .agg #[.int .i64 7, .int .i64 0, .int .i64 0, .int .i64 0, .int .i64 0, .int .i64 0, .slice none 0 0]) (by simp [results, Tryz.results57, go_sem, b0, b1, b2, b3, b4, b5, b6, hVl]) rfl ⟨none, 0, by rw [H7.out, HR.out.1, HR.out.2]; rfl, by rw [HR.out.2]; exact World.ownsRow_nil _ _ _ _, ?_⟩
    have hw1 : w.heap.size ≤ w.heap.size + 1 := by omega
    exact (((((((BWX.setCell hw1 _).setCell hw1 _).setCell hw1 _).setCell hw1 _).setCell hw1 _).setCell hw1 _).setCell hw1 _)
   ·have H0 : Hid (c = 0) := by show c = 0; rw [HC2.out, if_neg hlt]
    obtain ⟨d, hd⟩ : ∃ d : Nat, (d : Int) = 2 * f + 1 := ⟨(2 * f + 1).toNat, by omega⟩
    have HD : Hid ((2 * f + 1).toNat = d) := by show _ = _; omega
    have hdm : d ≤ m := by omega
    have HR : Hid (c = 0 ∧ cx = x ∧ ys = (sgL zs x).take d ∧ ys.length = d) := by
     have e1 : ys = (sgL zs x).take d := by rw [HY.out, if_pos H0.out, show (2 * f + 1).toNat = d by omega]
     exact ⟨H0.out, by rw [HX.out, if_pos H0.out], e1, by rw [e1, List.length_take]; have := (ownI_parts HO.out).2.2.1; omega⟩
    obtain ⟨x0, x1, x2, x3, x4⟩ := HXA.out.below hb12 (by have := HSZ.out; omega)
    simp only [Nat.zero_add] at x0 x1 x2 x3 x4
    have BW2 := BWX
    have hw2 := hVl
    have hdq : (d : Int) ≤ (q : Int) := by omega
    have hd0 : (0 : Int) ≤ (d : Int) := by omega
    have hwx : w.heap.size < w2.heap.size := by omega
    have hdl : ¬ ((m : Int) < (d : Int)) := by omega
    have hmul : IntKind.i64.wrap (2 * f) = 2 * f := by rw [IntKind.wrap_i64]; omega
    have hadd : IntKind.i64.wrap (2 * f + 1) = (d : Int) := by rw [IntKind.wrap_i64]; omega
    have HBS : Hid (w.heap.size + 1 < V.heap.size) := by have := HSZ.out; show _ < _; omega
    have HFO : Hid (w2.ownsRow V.heap.size 2 1 (.slice (some ⟨g, 0, none⟩) d q) d (((sgL zs x).take d).map (Value.int .i64))) := owns_takeI HO.out hdm
    have HFB : Hid (Below w.heap.size w w2) := BW2
    have HLE : Hid (w.heap.size ≤ V.heap.size ∧ w.heap.size ≤ w.heap.size + 1) := ⟨by have := HSZ.out; omega, by omega⟩
    go_wp2
    go_region
    all_goals go_wp2_with fail
    all_goals
     refine bodyPost_ret (v := .agg #[.int .i64 0, .int .i64 x.k, .int .i64 x.e, .int .i64 x.f, .int .i64 x.s, .int .i64 x.n, .slice (some ⟨g, 0, none⟩) d q]) (by simp [results, Tryz.results57, go_sem, b0, b1, b2, b3, b4, b5, b6, hw2, HD.out]) rfl ⟨some ⟨g, 0, none⟩, q, ?_, ?_, ?_⟩
     ·rw [HR.out.1, HR.out.2.1, HR.out.2.2.2]
     ·rw [HR.out.2.2.2, HR.out.2.2.1]
      exact owns_drew (low_owns (own7 HFO.out _ HBS.out _ _ _ _ _ _ _) HLE.out.1)
     ·exact (below7 HFB.out _ HLE.out.2 _ _ _ _ _ _ _).drew
  ·have tb : (t != 0) = true := by simp [t0]
   have HE : Hid (c = t) := by show c = t; rw [HC.out, if_pos s0, if_neg t0]
   have HR : Hid (cx = ⟨0, 0, 0, 0, 0⟩ ∧ ys = []) := HBAD.out (by rw [HE.out]; exact t0)
   clear s0 t0 ht HC
   go_enter Tryz.func57, Tryz.ntmps57
   go_wp2_with fail
   rw [← hV]
   clear hV
   refine HF.out.mono ?_
   rintro e w1 ⟨rfl, hb1⟩
   go_wp2_with fail
   refine (HT.out _ hb1).mono ?_
   rintro e w1' ⟨rfl, rfl⟩
   have XB := HB.out.below (by have := HSZ.out; omega) hb1
   have b0 := XB.1 0 _ rfl
   have b1 := XB.1 1 _ rfl
   have b2 := XB.1 2 _ rfl
   have b3 := XB.1 3 _ rfl
   have b4 := XB.1 4 _ rfl
   have b5 := XB.1 5 _ rfl
   have b6 := XB.1 6 _ rfl
   have f0 := XB.2 0
   have f1 := XB.2 1
   have f2 := XB.2 2
   have f3 := XB.2 3
   have f4 := XB.2 4
   have f5 := XB.2 5
   have f6 := XB.2 6
   have BWX : Below w.heap.size w w1 := BV.trans (hb1.mono BV.size)
   have hVl : w.heap.size + 1 < w1.heap.size := by have := hb1.size; omega
   clear XB hb1
   go_wp2
   refine bodyPost_ret (v := .agg #[.int .i64 t, .int .i64 0, .int .i64 0, .int .i64 0, .int .i64 0, .int .i64 0, .slice none 0 0]) (by simp [results, Tryz.results57, go_sem, b0, b1, b2, b3, b4, b5, b6, hVl]) rfl ⟨none, 0, by rw [HE.out, HR.out.1, HR.out.2]; rfl, by rw [HR.out.2]; exact World.ownsRow_nil _ _ _ _, ?_⟩
   have hw1 : w.heap.size ≤ w.heap.size + 1 := by omega
   exact (((((((BWX.setCell hw1 _).setCell hw1 _).setCell hw1 _).setCell hw1 _).setCell hw1 _).setCell hw1 _).setCell hw1 _)
 ·have sb : (s != 0) = true := by simp [s0]
  have HE : Hid (c = s) := by show c = s; rw [HC.out, if_neg s0]
  have HR : Hid (cx = ⟨0, 0, 0, 0, 0⟩ ∧ ys = []) := HBAD.out (by rw [HE.out]; exact s0)
  clear s0 hs ht HC hc hcx hys h hst hbx hVs
  go_enter Tryz.func57, Tryz.ntmps57
  go_wp2_with fail
  rw [← hV]
  clear hV
  refine HF.out.mono ?_
  rintro e w1 ⟨rfl, hb1⟩
  have XB := HB.out.below (by have := HSZ.out; omega) hb1
  have b0 := XB.1 0 _ rfl
  have b1 := XB.1 1 _ rfl
  have b2 := XB.1 2 _ rfl
  have b3 := XB.1 3 _ rfl
  have b4 := XB.1 4 _ rfl
  have b5 := XB.1 5 _ rfl
  have b6 := XB.1 6 _ rfl
  have f0 := XB.2 0
  have f1 := XB.2 1
  have f2 := XB.2 2
  have f3 := XB.2 3
  have f4 := XB.2 4
  have f5 := XB.2 5
  have f6 := XB.2 6
  have BWX : Below w.heap.size w w1 := BV.trans (hb1.mono BV.size)
  have hVl : w.heap.size + 1 < w1.heap.size := by have := hb1.size; omega
  clear XB hb1
  go_wp2
  refine bodyPost_ret (v := .agg #[.int .i64 s, .int .i64 0, .int .i64 0, .int .i64 0, .int .i64 0, .int .i64 0, .slice none 0 0]) (by simp [results, Tryz.results57, go_sem, b0, b1, b2, b3, b4, b5, b6, hVl]) rfl ⟨none, 0, by rw [HE.out, HR.out.1, HR.out.2]; rfl, by rw [HR.out.2]; exact World.ownsRow_nil _ _ _ _, ?_⟩
  have hw1 : w.heap.size ≤ w.heap.size + 1 := by omega
  exact (((((((BWX.setCell hw1 _).setCell hw1 _).setCell hw1 _).setCell hw1 _).setCell hw1 _).setCell hw1 _).setCell hw1 _)
end

end Go.Proofs.YtfkajnenniapaaaGreat
