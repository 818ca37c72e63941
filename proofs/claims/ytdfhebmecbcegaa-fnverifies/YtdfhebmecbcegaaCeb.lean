/-
  CONTRACTS: CommonOf of both programs.
  Conditions: each contract bears its own.
-/
import Derived.Test.YtdfhebmecbcegaaCe9
import Derived.Deep.RegionLaw
namespace Go.Proofs.Ytdfhebmecbcegaa
open Go.RowKit
set_option linter.unusedVariables false
set_option linter.unusedSimpArgs false

theorem mem_takeI {us : List Int} {y : Int} {k : Nat} : y ∈ us.take k ↔ ∃ j, j < k ∧ us[j]? = some y := by
  rw [List.mem_take_iff_getElem]
  constructor
  · rintro ⟨j, hj, e⟩
    exact ⟨j, by omega, by rw [List.getElem?_eq_getElem (by omega), e]⟩
  · rintro ⟨j, hj, e⟩
    have hl : j < us.length := by
      by_cases q : j < us.length
      · exact q
      · rw [List.getElem?_eq_none (by omega)] at e; cases e
    rw [List.getElem?_eq_getElem hl] at e
    exact ⟨j, by omega, Option.some.inj e⟩

theorem no_nextI {us : List Int} {y p : Int} {k : Nat} (h : ¬ y ∈ us.take k) (hp : us[k]? = some p) (hne : ¬ p = y) : ¬ y ∈ us.take (k + 1) := by
  rw [mem_takeI] at h ⊢
  rintro ⟨j, hj, e⟩
  by_cases q : j = k
  · subst q
    rw [hp] at e
    exact hne (Option.some.inj e)
  · exact h ⟨j, by omega, e⟩

set_option maxRecDepth 20000 in
set_option maxHeartbeats 1000000 in
theorem l9Among_c (a : Option Addr) (n cap : Nat) (us : List Int) (y : Int) (w : World) (hn : n ≤ 1048576) (h : IntIn w a n us) :
    Calls Try.prog 62 #[.slice a n cap, .int .i64 y] w fun e w' => e = .returned (.bool (decide (y ∈ us))) ∧ w = w' := by
  have H : Hid (IntIn w a n us) := h
  have HZ : Hid (us.length = n) := h.1
  have hn' : (n : Int) ≤ 1048576 := by omega
  clear h
  go_enter Try.func62, Try.ntmps62
  go_wp2
  go_loop [5] (fun i => ∃ k : Nat, k ≤ n ∧ i = .int .i64 (k : Int) ∧ ¬ y ∈ us.take k) (fun i => n - (intOf i).toNat)
  case atStart => exact ⟨0, Nat.zero_le _, rfl, by simp⟩
  case round =>
    obtain ⟨k, hk, rfl, hm⟩ := hrel
    have HM : Hid (¬ y ∈ us.take k) := hm
    clear hm
    by_cases hlt : k < n
    · obtain ⟨b, off, p, rfl, hp, hpa, hbl⟩ := H.out.at hlt
      have hlt' : (k : Int) < (n : Int) := by omega
      by_cases e : p = y
      · have eb : (p == y) = true := by simp [e]
        have HI : Hid (decide (y ∈ us) = true) := by show _ = _; simp; rw [← e]; exact List.mem_of_getElem? hp
        clear hp e
        go_wp2
        go_ret
        exact ⟨by rw [HI.out]; rfl, rfl⟩
      · have eb : (p == y) = false := by simp [e]
        have HN : Hid (¬ y ∈ us.take (k + 1)) := no_nextI HM.out hp e
        clear hp e
        go_wp2
        exact ⟨⟨k + 1, by omega, by go_num, HN.out⟩, by simp [intOf]; omega⟩
    · have hkn : k = n := by omega
      subst hkn
      have HN : Hid (decide (y ∈ us) = false) := by
        have := HM.out
        rw [List.take_of_length_le (by rw [HZ.out]; exact Nat.le_refl _)] at this
        show _ = _
        simp [this]
      go_wp2
      go_ret
      exact ⟨by rw [HN.out]; rfl, rfl⟩

set_option maxRecDepth 20000 in
set_option maxHeartbeats 1000000 in
theorem slIndexI_c (a : Option Addr) (n cap : Nat) (us : List Int) (y : Int) (w : World) (hn : n ≤ 1048576) (h : IntIn w a n us) :
    Calls Try.prog 92 #[.slice a n cap, .int .i64 y] w fun e w' => (∃ i : Int, e = .returned (.int .i64 i) ∧ decide (0 ≤ i) = decide (y ∈ us)) ∧ w = w' := by
  have H : Hid (IntIn w a n us) := h
  have HZ : Hid (us.length = n) := h.1
  have hn' : (n : Int) ≤ 1048576 := by omega
  clear h
  go_enter Try.func92, Try.ntmps92
  go_wp2
  go_loop [8] (fun i => ∃ k : Nat, k ≤ n ∧ i = .int .i64 (k : Int) ∧ ¬ y ∈ us.take k) (fun i => n - (intOf i).toNat)
  case atStart => exact ⟨0, Nat.zero_le _, rfl, by simp⟩
  case round =>
    obtain ⟨k, hk, rfl, hm⟩ := hrel
    have HM : Hid (¬ y ∈ us.take k) := hm
    clear hm
    by_cases hlt : k < n
    · obtain ⟨b, off, p, rfl, hp, hpa, hbl⟩ := H.out.at hlt
      have hlt' : (k : Int) < (n : Int) := by omega
      by_cases e : p = y
      · have eb : (y == p) = true := by simp [e]
        have HI : Hid (decide (y ∈ us) = true) := by show _ = _; simp; rw [← e]; exact List.mem_of_getElem? hp
        clear hp e
        go_wp2
        go_ret
        exact ⟨⟨(k : Int), rfl, by have h9 := of_decide_eq_true HI.out; simp [h9]⟩, rfl⟩
      · have eb : (y == p) = false := by simp; exact fun q => e q.symm
        have HN : Hid (¬ y ∈ us.take (k + 1)) := no_nextI HM.out hp e
        clear hp e
        go_wp2
        exact ⟨⟨k + 1, by omega, by go_num, HN.out⟩, by simp [intOf]; omega⟩
    · have hkn : k = n := by omega
      subst hkn
      have HN : Hid (decide (y ∈ us) = false) := by
        have := HM.out
        rw [List.take_of_length_le (by rw [HZ.out]; exact Nat.le_refl _)] at this
        show _ = _
        simp [this]
      go_wp2
      go_ret
      exact ⟨⟨-1, rfl, by have h9 := of_decide_eq_false HN.out; simp [h9]⟩, rfl⟩

set_option maxRecDepth 20000 in
set_option maxHeartbeats 400000 in
theorem slContainsI_c (a : Option Addr) (n cap : Nat) (us : List Int) (y : Int) (w : World) (hn : n ≤ 1048576) (h : IntIn w a n us) :
    Calls Try.prog 61 #[.slice a n cap, .int .i64 y] w fun e w' => e = .returned (.bool (decide (y ∈ us))) ∧ w = w' := by
  go_enter Try.func61, Try.ntmps61
  go_wp2_with fail
  refine (slIndexI_c a n cap us y _ hn h).mono ?_
  rintro e w1 ⟨⟨i, rfl, hi⟩, rfl⟩
  have HI : Hid (decide (0 ≤ i) = decide (y ∈ us)) := hi
  clear hi
  go_wp2
  go_ret
  exact ⟨by rw [← HI.out]; rfl, rfl⟩

def GivesCO (fn : Nat) (x : StI) (ga : Option Addr) (gn gc : Nat) (y : StI) (ha : Option Addr) (hn hc : Nat) (c : Int) (ys : List Int) (w : World) : Prop := Calls Try.prog fn #[.agg #[.int .i64 x.k, .int .i64 x.e, .int .i64 x.f, .int .i64 x.s, .int .i64 x.n, .slice ga gn gc], .agg #[.int .i64 y.k, .int .i64 y.e, .int .i64 y.f, .int .i64 y.s, .int .i64 y.n, .slice ha hn hc]] w fun e w' => ∃ (ra : Option Addr) (rc : Nat), e = .returned (.agg #[.int .i64 c, .slice ra ys.length rc]) ∧ w'.ownsRow w.heap.size 2 1 (.slice ra ys.length rc) ys.length (ys.map (Value.int .i64)) ∧ Below w.heap.size w w'

/-- Two certificates' boxes and the answer's. -/
theorem three_boxes (w : World) (cs ds es : Array Value) (T R : TypeId) : ∃ V, V = ((w.alloc (.cells cs T)).alloc (.cells ds T)).alloc (.cells es R) ∧ Below w.heap.size w V ∧ w.heap.size + 1 + 1 + 1 ≤ V.heap.size ∧ V.heap.size ≤ w.heap.size + 1 + 1 + 1 ∧ BoxV w.heap.size cs.toList V ∧ BoxV (w.heap.size + 1) ds.toList V ∧ BoxW (w.heap.size + 1 + 1) es.toList V := by
  refine ⟨_, rfl, (((Below.refl _ _).alloc (Nat.le_refl _) _).alloc (by simp) _).alloc (by simp; omega) _, by simp, by simp, ?_, ?_, ?_⟩
  · exact (((boxV_new w cs T).alloc _).alloc _).out
  · have q := ((boxV_new (w.alloc (.cells cs T)) ds T).alloc (.cells es R)).out
    simp only [World.size_alloc] at q
    exact q
  · have q := boxW_new ((w.alloc (.cells cs T)).alloc (.cells ds T)) es R
    simp only [World.size_alloc] at q
    exact q

theorem cmTo_hit {us vs : List Int} {k : Nat} {y : Int} (hy : us[k]? = some y) (h : decide (y ∈ vs) = true) : cmTo us vs (k + 1) = cmTo us vs k ++ [y] := by
  have hl : k < us.length := by
    by_cases q : k < us.length
    · exact q
    · rw [List.getElem?_eq_none (by omega)] at hy; cases hy
  have e : us[k] = y := by rw [List.getElem?_eq_getElem hl] at hy; exact Option.some.inj hy
  unfold cmTo
  rw [List.take_succ_eq_append_getElem hl, List.filter_append, e]
  simp only [List.filter_cons, h, if_true, List.filter_nil]

theorem cmTo_miss {us vs : List Int} {k : Nat} {y : Int} (hy : us[k]? = some y) (h : decide (y ∈ vs) = false) : cmTo us vs (k + 1) = cmTo us vs k := by
  have hl : k < us.length := by
    by_cases q : k < us.length
    · exact q
    · rw [List.getElem?_eq_none (by omega)] at hy; cases hy
  have e : us[k] = y := by rw [List.getElem?_eq_getElem hl] at hy; exact Option.some.inj hy
  unfold cmTo
  rw [List.take_succ_eq_append_getElem hl, List.filter_append, e]
  simp only [List.filter_cons, h, List.filter_nil, List.append_nil]
  simp

theorem cmTo_len (us vs : List Int) (k : Nat) : (cmTo us vs k).length ≤ k := by
  unfold cmTo
  have := List.length_filter_le (fun i => decide (i ∈ vs)) (us.take k)
  rw [List.length_take] at this
  omega

set_option maxRecDepth 20000 in
set_option maxHeartbeats 4000000 in
theorem implCommon_c (x : StI) (ga : Option Addr) (gn gc : Nat) (us : List Int) (y : StI) (ha : Option Addr) (hn hc : Nat) (vs : List Int) (w : World) (hg : gn ≤ 1048576) (hh : hn ≤ 1048576) (h1 : IntIn w ga gn us) (h2 : IntIn w ha hn vs) : GivesCO 25 x ga gn gc y ha hn hc (cmCode gn hn) (cmRes us vs) w := by
  unfold GivesCO
  obtain ⟨V, hV, BV, hV1, hV2, xb, yb, rb⟩ := three_boxes w #[.int .i64 x.k, .int .i64 x.e, .int .i64 x.f, .int .i64 x.s, .int .i64 x.n, .slice ga gn gc] #[.int .i64 y.k, .int .i64 y.e, .int .i64 y.f, .int .i64 y.s, .int .i64 y.n, .slice ha hn hc] #[.int .i64 0, .slice none 0 0] 31 37
  obtain ⟨i0, hi, hz0, hz1, hz2⟩ := info_parts Try.infoI2
  have HZ : Hid (us.length = gn ∧ vs.length = hn) := ⟨h1.1, h2.1⟩
  have I1 : Hid (IntIn V ga gn us) := h1.below BV
  have I2 : Hid (IntIn V ha hn vs) := h2.below BV
  have YB : Hid (BoxV (w.heap.size + 1) [.int .i64 y.k, .int .i64 y.e, .int .i64 y.f, .int .i64 y.s, .int .i64 y.n, .slice ha hn hc] V) := yb
  have RB : Hid (BoxW (w.heap.size + 1 + 1) [.int .i64 0, .slice none 0 0] V) := rb
  have hg' : (gn : Int) ≤ 1048576 := by omega
  have hh' : (hn : Int) ≤ 1048576 := by omega
  obtain ⟨c, hcc⟩ : ∃ c, cmCode gn hn = c := ⟨_, rfl⟩
  obtain ⟨ys, hys⟩ : ∃ ys, cmRes us vs = ys := ⟨_, rfl⟩
  rw [hcc, hys]
  have HC : Hid (c = if 20 < gn ∨ 20 < hn then 2 else 0) := by show c = _; rw [← hcc]; rfl
  have HY : Hid (ys = if c = 0 then us.filter (fun i => decide (i ∈ vs)) else []) := by show ys = _; rw [← hys, ← hcc]; unfold cmRes; rw [HZ.out.1, HZ.out.2]
  have x5 := xb 5 _ rfl
  have y5 := yb 5 _ rfl
  have r0 := rb.1 0 _ rfl
  have r1 := rb.1 1 _ rfl
  have f0 := rb.2 0
  have f1 := rb.2 1
  have hVl : w.heap.size + 1 + 1 < V.heap.size := by omega
  clear h1 h2 xb yb rb hcc hys
  by_cases hbad : 20 < gn ∨ 20 < hn
  · have HE : Hid (c = 2 ∧ ys = []) := by
      have e : c = 2 := by rw [HC.out, if_pos hbad]
      exact ⟨e, by rw [HY.out, if_neg (by omega)]⟩
    by_cases q1 : 20 < gn
    · have q1' : (20 : Int) < (gn : Int) := by omega
      clear hbad
      go_enter Try.func25, Try.ntmps25
      go_upto_region 1 with fail
      rw [← hV]
      clear hV
      go_wp2
      refine bodyPost_ret (v := .agg #[.int .i64 2, .slice none 0 0]) (by simp [results, Try.results25, go_sem, r0, r1, hVl]) rfl ⟨none, 0, by rw [HE.out.1, HE.out.2]; rfl, by rw [HE.out.2]; exact World.ownsRow_nil _ _ _ _, ?_⟩
      exact (BV.setCell (by show w.heap.size ≤ w.heap.size + 1 + 1; omega) _).setCell (by show w.heap.size ≤ w.heap.size + 1 + 1; omega) _
    · have q1' : ¬ ((20 : Int) < (gn : Int)) := by omega
      have q2' : (20 : Int) < (hn : Int) := by omega
      clear hbad
      go_enter Try.func25, Try.ntmps25
      go_upto_region 1 with fail
      rw [← hV]
      clear hV
      go_wp2
      refine bodyPost_ret (v := .agg #[.int .i64 2, .slice none 0 0]) (by simp [results, Try.results25, go_sem, r0, r1, hVl]) rfl ⟨none, 0, by rw [HE.out.1, HE.out.2]; rfl, by rw [HE.out.2]; exact World.ownsRow_nil _ _ _ _, ?_⟩
      exact (BV.setCell (by show w.heap.size ≤ w.heap.size + 1 + 1; omega) _).setCell (by show w.heap.size ≤ w.heap.size + 1 + 1; omega) _
  · have q1' : ¬ ((20 : Int) < (gn : Int)) := by omega
    have q2' : ¬ ((20 : Int) < (hn : Int)) := by omega
    have HE : Hid (c = 0 ∧ ys = cmTo us vs gn) := by
      have e : c = 0 := by rw [HC.out, if_neg hbad]
      exact ⟨e, by rw [HY.out, if_pos e]; unfold cmTo; rw [List.take_of_length_le (by have := HZ.out.1; omega)]⟩
    have hg20 : gn ≤ 20 := by omega
    clear hbad
    go_enter Try.func25, Try.ntmps25
    go_upto_region 1 with fail
    rw [← hV]
    clear hV
    go_wp2
    clear x5 y5 r0 r1 f0 f1
    go_loopw [5, 22] (fun v i wr => ∃ k : Nat, k ≤ gn ∧ i = .int .i64 (k : Int) ∧ OwnI wr V.heap.size v (cmTo us vs k) ∧ Below V.heap.size V wr) (fun _ i _ => gn - (intOf i).toNat)
    case atStart => exact ⟨0, Nat.zero_le _, rfl, World.ownsRow_nil _ _ _ _, Below.refl _ _⟩
    case round =>
      obtain ⟨k, hk, rfl, hown, hvx⟩ := hrel
      have HO : Hid (OwnI wr V.heap.size u5 (cmTo us vs k)) := hown
      by_cases hlt : k < gn
      · obtain ⟨b, off, p, rfl, hp, hpa, hbl⟩ := I1.out.at hlt
        have hlt' : (k : Int) < (gn : Int) := by omega
        have c0 := (hvx.cell (p := ⟨b, off + k, none⟩) hbl).trans hpa
        have y5 := (hvx.cell (p := ⟨w.heap.size + 1, 5, none⟩) (by show w.heap.size + 1 < _; omega)).trans (YB.out 5 _ rfl)
        obtain ⟨t, ht⟩ : ∃ t, decide (p ∈ vs) = t := ⟨_, rfl⟩
        have HT : Hid (decide (p ∈ vs) = t) := ht
        have HP : Hid (us[k]? = some p) := hp
        have hkl := cmTo_len us vs k
        clear hp hpa ht hown
        cases t
        · have HN : Hid (cmTo us vs (k + 1) = cmTo us vs k) := cmTo_miss HP.out HT.out
          go_wp2_with fail
          refine (slContainsI_c ha hn hc vs p _ hh (I2.out.below hvx)).mono ?_
          rintro e w1 ⟨rfl, rfl⟩
          rw [HT.out]
          go_wp2
          exact ⟨⟨k + 1, by omega, by go_num, by rw [HN.out]; exact HO.out, hvx⟩, by simp [intOf]; omega⟩
        · have HN : Hid (cmTo us vs (k + 1) = cmTo us vs k ++ [p]) := cmTo_hit HP.out HT.out
          obtain ⟨m, hm⟩ : ∃ m, (cmTo us vs k).length = m := ⟨_, rfl⟩
          have HM : Hid ((cmTo us vs k).length = m) := hm
          have hm20 : m ≤ 20 := by omega
          have HO2 : Hid (wr.ownsRow V.heap.size 2 1 u5 m ((cmTo us vs k).map (Value.int .i64))) := by rw [← hm]; exact HO.out
          have hzr := hvx.size
          clear hm hkl
          go_wp2_with fail
          refine (slContainsI_c ha hn hc vs p _ hh (I2.out.below hvx)).mono ?_
          rintro e w1 ⟨rfl, rfl⟩
          rw [HT.out]
          go_wp2_with (first
            | (at_builtin; refine wpList_append_own _ rfl _ _ 29 rfl V.heap.size 2 i0 (.int .i64 0) 1 8 Try.underlying29 hi hz0 hz1 hz2 rfl (by decide) _ _ _ rfl (HO2.out.alloc _) ⟨wr.heap.size, 0, none⟩ 1 1 [.int .i64 p] rfl rfl ?c1 ?c2 ?c3 ?c4 ?c5 ?_)
            | fail)
          case c1 =>
            intro j u hj
            match j, hj with
            | 0, hj => simp at hj; subst hj; simp [Addr.add]
          case c2 => intro u hu; simp at hu; subst hu; rfl
          case c3 => unfold maxLen; omega
          case c4 => omega
          case c5 => simp; omega
          intro v' w9 hown' hgrow hnil
          have HN2 : Hid (OwnI w9 V.heap.size v' (cmTo us vs (k + 1)) ∧ Below V.heap.size V w9) := by
            refine ⟨?_, (hvx.alloc hvx.size _).grown hgrow (by simp; omega) (fun j hj => (HO2.out.lt j hj).1)⟩
            show w9.ownsRow _ _ _ _ _ _
            rw [HN.out, List.length_append, HM.out, List.map_append]
            exact hown'
          clear hnil hown' hgrow
          go_wp2_with fail
          exact ⟨⟨k + 1, by omega, by go_num, HN2.out.1, HN2.out.2⟩, by simp [intOf]; omega⟩
      · have hkn : k = gn := by omega
        subst hkn
        have hlt' : ¬ ((k : Int) < (k : Int)) := by omega
        have X2 := RB.out.below (by omega) hvx
        have d0 := X2.1 0 _ rfl
        have d1 := X2.1 1 _ rfl
        have e0 := X2.2 0
        have e1 := X2.2 1
        have hw2 : w.heap.size + 1 + 1 < wr.heap.size := Nat.lt_of_lt_of_le hVl hvx.size
        obtain ⟨ra, rc, hv⟩ : ∃ ra rc, u5 = .slice ra (cmTo us vs k).length rc := by
          have ho0 : wr.ownsRow V.heap.size 2 1 u5 (cmTo us vs k).length ((cmTo us vs k).map (Value.int .i64)) := hown
          rcases ho0.2 with ⟨h1, h2⟩ | ⟨g, cp, cur, h1, _⟩
          · exact ⟨none, 0, by rw [h1, h2]⟩
          · exact ⟨_, _, h1⟩
        subst hv
        obtain ⟨m, hm⟩ : ∃ m, (cmTo us vs k).length = m := ⟨_, rfl⟩
        have HO3 : Hid (wr.ownsRow V.heap.size 2 1 (.slice ra m rc) m (ys.map (Value.int .i64)) ∧ ys.length = m) := ⟨by rw [← hm, HE.out.2]; exact HO.out, by rw [HE.out.2, hm]⟩
        rw [hm]
        have BW : Hid (Below w.heap.size w wr) := BV.trans (hvx.mono BV.size)
        have HLT : Hid (w.heap.size + 1 + 1 < V.heap.size) := hVl
        clear hown hm X2 HO
        go_wp2
        refine bodyPost_ret (v := .agg #[.int .i64 0, .slice ra m rc]) (by simp [results, Try.results25, go_sem, d0, d1, hw2]) rfl ⟨ra, rc, by rw [HE.out.1, HO3.out.2], ?_, ?_⟩
        · rw [HO3.out.2]
          exact low_owns (ownsE_set (ownsE_set HO3.out.1 (a := ⟨w.heap.size + 1 + 1, 0, none⟩) HLT.out _) (a := ⟨w.heap.size + 1 + 1, 1, none⟩) HLT.out _) (by have := HLT.out; omega)
        · exact (BW.out.setCell (by show w.heap.size ≤ w.heap.size + 1 + 1; omega) _).setCell (by show w.heap.size ≤ w.heap.size + 1 + 1; omega) _

end Go.Proofs.Ytdfhebmecbcegaa
