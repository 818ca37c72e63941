/-
  CONTRACTS: chapter 10: ToldOf of both programs.
  Conditions: each contract bears its own.
-/
import Derived.Test.YtoegmljckbokkaaCu2
namespace Go.Proofs.Ytoegmljckbokkaa
open Go.RowKit
set_option linter.unusedVariables false
set_option linter.unusedSimpArgs false
attribute [local go_sem] fldN0 fldN1

def tdCode (c : CaP) (id : Int) : Int := if caCode c = 0 then (if inR id 1 (3 * c.f + 1) = true then 0 else 3) else caCode c
def tdVal (c : CaP) (id : Int) : Int := if tdCode c id = 0 then (c.ns[(id - 1).toNat]?.getD default).t else 0

/-- The variables of a function that answers an IntResult out of a broadcast. -/
structure TZ (w : World) (c : CastI) (W : World) : Prop where
  bl : Below w.heap.size w W
  bx : BoxV w.heap.size [.int .i64 c.f, .int .i64 c.s, .slice c.ba c.bn c.bc, .slice c.na c.nn c.nc, .slice c.ma c.mn c.mc] W
  rs : BoxW (w.heap.size + 1) [.int .i64 0, .int .i64 0] W
  lt : w.heap.size + 1 < W.heap.size
  ci : CastIn W c

theorem TZ.below {w : World} {c : CastI} {W W' : World} (h : TZ w c W) (hb : Below W.heap.size W W') : TZ w c W' :=
  ⟨h.bl.trans (hb.mono h.bl.size), ((BoxV.hold h.bx (by have := h.lt; omega)).below hb).out, h.rs.below h.lt hb, Nat.lt_of_lt_of_le h.lt hb.size, h.ci.below hb⟩

theorem TZ.new {w : World} {c : CastI} (h : CastIn w c) : TZ w c ((w.alloc (.cells #[.int .i64 c.f, .int .i64 c.s, .slice c.ba c.bn c.bc, .slice c.na c.nn c.nc, .slice c.ma c.mn c.mc] 28)).alloc (.cells #[.int .i64 0, .int .i64 0] 37)) := by
  have A0 : Below w.heap.size w ((w.alloc (.cells #[.int .i64 c.f, .int .i64 c.s, .slice c.ba c.bn c.bc, .slice c.na c.nn c.nc, .slice c.ma c.mn c.mc] 28)).alloc (.cells #[.int .i64 0, .int .i64 0] 37)) := ((Below.refl _ _).alloc (Nat.le_refl _) _).alloc (by simp) _
  refine ⟨A0, ((boxV_new w #[.int .i64 c.f, .int .i64 c.s, .slice c.ba c.bn c.bc, .slice c.na c.nn c.nc, .slice c.ma c.mn c.mc] 28).alloc _).out, ?_, by simp, h.below A0⟩
  have q := boxW_new (w.alloc (.cells #[.int .i64 c.f, .int .i64 c.s, .slice c.ba c.bn c.bc, .slice c.na c.nn c.nc, .slice c.ma c.mn c.mc] 28)) #[.int .i64 0, .int .i64 0] 37
  simp only [World.size_alloc] at q
  exact q

/-- Where a broadcast has no fault a member's node is there. -/
theorem node_of {c : CastI} {w : World} {id : Int} (h : CastIn w c) (hk : caCode c.p = 0) (hi : inR id 1 (3 * c.f + 1) = true) : ∃ (k : Nat) (b off : Nat) (x : NodeI), (k : Int) + 1 = id ∧ k < c.nn ∧ c.na = some ⟨b, off, none⟩ ∧ NdAt w b (off + k * 4) x ∧ tdVal c.p id = x.t ∧ 1 ≤ c.f ∧ c.f ≤ 2 := by
  obtain ⟨h1, h2⟩ := (inR_iff _ _ _).1 hi
  have hd : hdCode c.f c.s c.bs (ndsP c.ns).length c.ms.length = 0 := by
    by_cases q : hdCode c.f c.s c.bs (ndsP c.ns).length c.ms.length = 0
    · exact q
    · unfold caCode CastI.p at hk
      simp only at hk
      rw [if_neg q] at hk
      exact absurd hk q
  obtain ⟨hf, _, _, _, _, _, hn⟩ := hd_ok hd
  have hl : (ndsP c.ns).length = c.nn := by rw [← h.nodes.1]; simp [ndsP]
  rw [hl] at hn
  have hkn : (id - 1).toNat < c.nn := by omega
  obtain ⟨b, off, x, e1, e2, e3⟩ := h.nodes.at hkn
  refine ⟨(id - 1).toNat, b, off, x, by omega, hkn, e1, e3, ?_, hf.1, hf.2⟩
  have hc : tdCode c.p id = 0 := by unfold tdCode; rw [if_pos hk]; show (if inR id 1 (3 * c.f + 1) = true then 0 else 3) = 0; rw [if_pos hi]
  unfold tdVal
  rw [if_pos hc]
  show ((ndsP c.ns)[(id - 1).toNat]?.getD default).t = x.t
  unfold ndsP
  rw [List.getElem?_map, e2]
  rfl

set_option maxRecDepth 20000 in
set_option maxHeartbeats 2000000 in
theorem implTold_c (c : CastI) (id : Int) (w : World) (h : CastIn w c) (hle : CastLe 1048576 c) (hcap : CastCap c) :
    Calls Try.prog 20 #[.agg #[.int .i64 c.f, .int .i64 c.s, .slice c.ba c.bn c.bc, .slice c.na c.nn c.nc, .slice c.ma c.mn c.mc], .int .i64 id] w fun e w' => e = .returned (.agg #[.int .i64 (tdCode c.p id), .int .i64 (tdVal c.p id)]) ∧ Below w.heap.size w w' := by
  obtain ⟨V, hV⟩ : ∃ V, V = (w.alloc (.cells #[.int .i64 c.f, .int .i64 c.s, .slice c.ba c.bn c.bc, .slice c.na c.nn c.nc, .slice c.ma c.mn c.mc] 28)).alloc (.cells #[.int .i64 0, .int .i64 0] 37) := ⟨_, rfl⟩
  have Z0 : Hid (TZ w c V) := by rw [hV]; exact TZ.new h
  obtain ⟨d, hd⟩ : ∃ d, caCode c.p = d := ⟨_, rfl⟩
  have HD : Hid (caCode c.p = d) := hd
  have HCF : Hid (Calls Try.prog 18 #[.agg #[.int .i64 c.f, .int .i64 c.s, .slice c.ba c.bn c.bc, .slice c.na c.nn c.nc, .slice c.ma c.mn c.mc]] V fun e w' => e = .returned (.int .i64 d) ∧ Below V.heap.size V w') := by rw [← hd]; exact implCastFault_c c V Z0.out.ci hle hcap
  have hnn : c.nn ≤ 1048576 := hle.nodes
  obtain ⟨K, hK⟩ : ∃ K, tdCode c.p id = K := ⟨_, rfl⟩
  obtain ⟨U, hU⟩ : ∃ U, tdVal c.p id = U := ⟨_, rfl⟩
  have HK : Hid (tdCode c.p id = K ∧ tdVal c.p id = U) := ⟨hK, hU⟩
  rw [hK, hU]
  clear h hle hcap hd hK hU
  go_enter Try.func20, Try.ntmps20
  go_upto_region 1 with fail
  rw [← hV]
  clear hV
  have v0 := Z0.out.bx 0 _ rfl
  have v1 := Z0.out.bx 1 _ rfl
  have v2 := Z0.out.bx 2 _ rfl
  have v3 := Z0.out.bx 3 _ rfl
  have v4 := Z0.out.bx 4 _ rfl
  have hvl : w.heap.size < V.heap.size := by have := Z0.out.lt; omega
  go_wp2_with fail
  refine HCF.out.mono ?_
  rintro e w1 ⟨rfl, hb1⟩
  have Z1 := hidP (Z0.out.below hb1)
  clear hb1 Z0 HCF v0 v1 v2 v3 v4 hvl
  by_cases hd0 : d = 0
  · subst hd0
    have v0 := Z1.out.bx 0 _ rfl
    have hvl : w.heap.size < w1.heap.size := by have := Z1.out.lt; omega
    have hf : inR c.f 1 2 = true := by
      have q : hdCode c.f c.s c.bs (ndsP c.ns).length c.ms.length = 0 := by
        by_cases q : hdCode c.f c.s c.bs (ndsP c.ns).length c.ms.length = 0
        · exact q
        · have hk := HD.out
          unfold caCode CastI.p at hk
          simp only at hk
          rw [if_neg q] at hk
          exact absurd hk q
      exact (inR_iff _ _ _).2 (hd_ok q).1
    have HRF : Hid (∀ w : World, Calls Try.prog 58 #[.int .i64 c.f] w fun e w' => e = .returned (.agg #[.int .i64 0, .int .i64 (3 * c.f + 1)]) ∧ Below w.heap.size w w') := fun w => by
      have q := implReplicasOf_c c.f w
      unfold GivesNF nfCode nfVal at q
      rw [hf] at q
      exact q
    clear hf
    go_wp2_with fail
    refine (HRF.out _).mono ?_
    rintro e w2 ⟨rfl, hb2⟩
    have Z2 := hidP (Z1.out.below hb2)
    clear hb2 Z1 v0 hvl HRF
    obtain ⟨t, ht⟩ : ∃ t, inR id 1 (3 * c.f + 1) = t := ⟨_, rfl⟩
    have HT : Hid (inR id 1 (3 * c.f + 1) = t) := ht
    have HM : Hid (∀ w : World, Calls Try.prog 57 #[.int .i64 id, .agg #[.int .i64 0, .int .i64 (3 * c.f + 1)]] w fun e w' => e = .returned (.bool t) ∧ Below w.heap.size w w') := fun w => by rw [← ht]; exact isMember_c id c.f w
    clear ht
    go_wp2_with fail
    refine (HM.out _).mono ?_
    rintro e w3 ⟨rfl, hb3⟩
    have Z3 := hidP (Z2.out.below hb3)
    clear hb3 Z2 HM
    have r0 := Z3.out.rs.1 0 _ rfl
    have r1 := Z3.out.rs.1 1 _ rfl
    have f0 := Z3.out.rs.2 0
    have f1 := Z3.out.rs.2 1
    have hrl := Z3.out.lt
    cases t
    · have HE : Hid (K = 3 ∧ U = 0) := by
        have e : tdCode c.p id = 3 := by unfold tdCode; rw [if_pos HD.out]; show (if inR id 1 (3 * c.f + 1) = true then 0 else 3) = 3; rw [HT.out]; rfl
        refine ⟨by rw [← HK.out.1, e], ?_⟩
        rw [← HK.out.2]
        unfold tdVal
        rw [e]; rfl
      clear HK
      go_wp2_with fail
      refine bodyPost_ret (v := .agg #[.int .i64 3, .int .i64 0]) (by simp [results, Try.results20, go_sem, r0, r1, hrl]) rfl ?_
      rw [HE.out.1, HE.out.2]
      exact ⟨rfl, (Z3.out.bl.setCell (by show w.heap.size ≤ w.heap.size + 1; omega) _).setCell (by show w.heap.size ≤ w.heap.size + 1; omega) _⟩
    · obtain ⟨k, b, off, x, hki, hkn, hna, hat, htv, _, _⟩ := node_of Z3.out.ci HD.out HT.out
      have HE : Hid (K = 0 ∧ U = x.t) := by
        have e : tdCode c.p id = 0 := by unfold tdCode; rw [if_pos HD.out]; show (if inR id 1 (3 * c.f + 1) = true then 0 else 3) = 0; rw [HT.out]; rfl
        exact ⟨by rw [← HK.out.1, e], by rw [← HK.out.2, htv]⟩
      have HND : Hid (Calls Try.prog 59 #[.pointer (some ⟨w.heap.size, 0, none⟩), .int .i64 id] w3 fun e w' => e = .returned (.pointer (some ⟨b, off + k * 4, none⟩)) ∧ w3 = w') := by
        have q := Z3.out.bx
        rw [hna] at q
        rw [← hki]
        exact castNode_c w.heap.size b off k c.f c.s _ _ c.nn c.nc w3 hkn hnn q
      have x2 := hat.1.2.2.1
      have hbl : b < w3.heap.size := hat.lt
      clear HK htv hat hki hna
      go_wp2_with fail
      refine HND.out.mono ?_
      rintro e w4 ⟨rfl, rfl⟩
      go_wp2_with fail
      refine bodyPost_ret (v := .agg #[.int .i64 0, .int .i64 x.t]) (by simp [results, Try.results20, go_sem, r0, r1, hrl]) rfl ?_
      rw [HE.out.1, HE.out.2]
      exact ⟨rfl, (Z3.out.bl.setCell (by show w.heap.size ≤ w.heap.size + 1; omega) _).setCell (by show w.heap.size ≤ w.heap.size + 1; omega) _⟩
  · have hdb : (d != 0) = true := by simp [hd0]
    have HE : Hid (K = d ∧ U = 0) := by
      have e : tdCode c.p id = d := by unfold tdCode; rw [HD.out, if_neg hd0]
      refine ⟨by rw [← HK.out.1, e], ?_⟩
      rw [← HK.out.2]
      unfold tdVal
      rw [e, if_neg hd0]
    have r0 := Z1.out.rs.1 0 _ rfl
    have r1 := Z1.out.rs.1 1 _ rfl
    have f0 := Z1.out.rs.2 0
    have f1 := Z1.out.rs.2 1
    have hrl := Z1.out.lt
    clear HK hd0
    go_wp2_with fail
    refine bodyPost_ret (v := .agg #[.int .i64 d, .int .i64 0]) (by simp [results, Try.results20, go_sem, r0, r1, hrl]) rfl ?_
    rw [HE.out.1, HE.out.2]
    exact ⟨rfl, (Z1.out.bl.setCell (by show w.heap.size ≤ w.heap.size + 1; omega) _).setCell (by show w.heap.size ≤ w.heap.size + 1; omega) _⟩

set_option maxRecDepth 20000 in
set_option maxHeartbeats 2000000 in
theorem specTold_c (c : CastI) (id : Int) (w : World) (h : CastIn w c) (hle : CastLe 1048576 c) (hcap : CastCap c) :
    Calls Try.prog 43 #[.agg #[.int .i64 c.f, .int .i64 c.s, .slice c.ba c.bn c.bc, .slice c.na c.nn c.nc, .slice c.ma c.mn c.mc], .int .i64 id] w fun e w' => e = .returned (.agg #[.int .i64 (tdCode c.p id), .int .i64 (tdVal c.p id)]) ∧ Below w.heap.size w w' := by
  obtain ⟨V, hV⟩ : ∃ V, V = (w.alloc (.cells #[.int .i64 c.f, .int .i64 c.s, .slice c.ba c.bn c.bc, .slice c.na c.nn c.nc, .slice c.ma c.mn c.mc] 28)).alloc (.cells #[.int .i64 0, .int .i64 0] 37) := ⟨_, rfl⟩
  have Z0 : Hid (TZ w c V) := by rw [hV]; exact TZ.new h
  obtain ⟨d, hd⟩ : ∃ d, caCode c.p = d := ⟨_, rfl⟩
  have HD : Hid (caCode c.p = d) := hd
  have HCF : Hid (Calls Try.prog 53 #[.pointer (some ⟨w.heap.size, 0, none⟩)] V fun e w' => e = .returned (.int .i64 d) ∧ Below V.heap.size V w') := by rw [← hd]; exact l10Fault_c _ c V Z0.out.bx Z0.out.ci hle hcap
  have hnn : c.nn ≤ 1048576 := hle.nodes
  obtain ⟨K, hK⟩ : ∃ K, tdCode c.p id = K := ⟨_, rfl⟩
  obtain ⟨U, hU⟩ : ∃ U, tdVal c.p id = U := ⟨_, rfl⟩
  have HK : Hid (tdCode c.p id = K ∧ tdVal c.p id = U) := ⟨hK, hU⟩
  rw [hK, hU]
  clear h hle hcap hd hK hU
  go_enter Try.func43, Try.ntmps43
  go_upto_region 1 with fail
  rw [← hV]
  clear hV
  have v0 := Z0.out.bx 0 _ rfl
  have v1 := Z0.out.bx 1 _ rfl
  have v2 := Z0.out.bx 2 _ rfl
  have v3 := Z0.out.bx 3 _ rfl
  have v4 := Z0.out.bx 4 _ rfl
  have hvl : w.heap.size < V.heap.size := by have := Z0.out.lt; omega
  go_wp2_with fail
  refine HCF.out.mono ?_
  rintro e w1 ⟨rfl, hb1⟩
  have Z1 := hidP (Z0.out.below hb1)
  clear hb1 Z0 HCF v0 v1 v2 v3 v4 hvl
  by_cases hd0 : d = 0
  · subst hd0
    have v0 := Z1.out.bx 0 _ rfl
    have hvl : w.heap.size < w1.heap.size := by have := Z1.out.lt; omega
    have hf : inR c.f 1 2 = true := by
      have q : hdCode c.f c.s c.bs (ndsP c.ns).length c.ms.length = 0 := by
        by_cases q : hdCode c.f c.s c.bs (ndsP c.ns).length c.ms.length = 0
        · exact q
        · have hk := HD.out
          unfold caCode CastI.p at hk
          simp only at hk
          rw [if_neg q] at hk
          exact absurd hk q
      exact (inR_iff _ _ _).2 (hd_ok q).1
    obtain ⟨hf1, hf2⟩ := (inR_iff _ _ _).1 hf
    obtain ⟨t, ht⟩ : ∃ t, inR id 1 (3 * c.f + 1) = t := ⟨_, rfl⟩
    have HT : Hid (inR id 1 (3 * c.f + 1) = t) := ht
    have HM : Hid (∀ w : World, Calls Try.prog 73 #[.int .i64 c.f, .int .i64 id] w fun e w' => e = .returned (.bool t) ∧ w = w') := fun w => by rw [← ht]; exact l10Member_c c.f id w hf1 hf2
    clear ht
    go_wp2_with fail
    refine (HM.out _).mono ?_
    rintro e w3 ⟨rfl, rfl⟩
    have Z3 := Z1
    clear HM v0 hvl Z1 hf
    have r0 := Z3.out.rs.1 0 _ rfl
    have r1 := Z3.out.rs.1 1 _ rfl
    have f0 := Z3.out.rs.2 0
    have f1 := Z3.out.rs.2 1
    have hrl := Z3.out.lt
    cases t
    · have HE : Hid (K = 3 ∧ U = 0) := by
        have e : tdCode c.p id = 3 := by unfold tdCode; rw [if_pos HD.out]; show (if inR id 1 (3 * c.f + 1) = true then 0 else 3) = 3; rw [HT.out]; rfl
        refine ⟨by rw [← HK.out.1, e], ?_⟩
        rw [← HK.out.2]
        unfold tdVal
        rw [e]; rfl
      clear HK
      go_wp2_with fail
      refine bodyPost_ret (v := .agg #[.int .i64 3, .int .i64 0]) (by simp [results, Try.results43, go_sem, r0, r1, hrl]) rfl ?_
      rw [HE.out.1, HE.out.2]
      exact ⟨rfl, (Z3.out.bl.setCell (by show w.heap.size ≤ w.heap.size + 1; omega) _).setCell (by show w.heap.size ≤ w.heap.size + 1; omega) _⟩
    · obtain ⟨k, b, off, x, hki, hkn, hna, hat, htv, _, _⟩ := node_of Z3.out.ci HD.out HT.out
      have HE : Hid (K = 0 ∧ U = x.t) := by
        have e : tdCode c.p id = 0 := by unfold tdCode; rw [if_pos HD.out]; show (if inR id 1 (3 * c.f + 1) = true then 0 else 3) = 0; rw [HT.out]; rfl
        exact ⟨by rw [← HK.out.1, e], by rw [← HK.out.2, htv]⟩
      have v3 := Z3.out.bx 3 _ rfl
      rw [hna] at v3
      have hwr : IntKind.i64.wrap (id - 1) = (k : Int) := by rw [IntKind.wrap_i64]; omega
      have hk0 : (0 : Int) ≤ (k : Int) := by omega
      have hki2 : (k : Int) < (c.nn : Int) := by omega
      have hvl : w.heap.size < w1.heap.size := by omega
      have x2 := hat.1.2.2.1
      have hbl : b < w1.heap.size := hat.lt
      clear HK htv hat hna
      go_wp2_with fail
      refine bodyPost_ret (v := .agg #[.int .i64 0, .int .i64 x.t]) (by simp [results, Try.results43, go_sem, r0, r1, hrl]) rfl ?_
      rw [HE.out.1, HE.out.2]
      exact ⟨rfl, (Z3.out.bl.setCell (by show w.heap.size ≤ w.heap.size + 1; omega) _).setCell (by show w.heap.size ≤ w.heap.size + 1; omega) _⟩
  · have hdb : (d != 0) = true := by simp [hd0]
    have HE : Hid (K = d ∧ U = 0) := by
      have e : tdCode c.p id = d := by unfold tdCode; rw [HD.out, if_neg hd0]
      refine ⟨by rw [← HK.out.1, e], ?_⟩
      rw [← HK.out.2]
      unfold tdVal
      rw [e, if_neg hd0]
    have r0 := Z1.out.rs.1 0 _ rfl
    have r1 := Z1.out.rs.1 1 _ rfl
    have f0 := Z1.out.rs.2 0
    have f1 := Z1.out.rs.2 1
    have hrl := Z1.out.lt
    clear HK hd0
    go_wp2_with fail
    refine bodyPost_ret (v := .agg #[.int .i64 d, .int .i64 0]) (by simp [results, Try.results43, go_sem, r0, r1, hrl]) rfl ?_
    rw [HE.out.1, HE.out.2]
    exact ⟨rfl, (Z1.out.bl.setCell (by show w.heap.size ≤ w.heap.size + 1; omega) _).setCell (by show w.heap.size ≤ w.heap.size + 1; omega) _⟩

end Go.Proofs.Ytoegmljckbokkaa
