/-
  CONTRACTS: what VerifyCert of the program asks of signers: rise, signersFault, haveShares.
  Conditions: each contract bears its own.
-/
import Derived.Test.YthogdfnaojijhaaCe3
import Derived.Test.YthogdfnaojijhaaRi0
import Derived.Test.YthogdfnaojijhaaSn2
namespace Go.Proofs.Ythogdfnaojijhaa
open Go.RowKit Go.Maps
set_option linter.unusedVariables false
set_option linter.unusedSimpArgs false
attribute [local go_sem] fldN0 fldN1
attribute [local go_sem ↓] st_eql

set_option maxRecDepth 20000 in
set_option maxHeartbeats 1000000 in
theorem signersFault_c (a : Option Addr) (n cap : Nat) (ys : List Int) (f : Int) (w : World) (hn : n ≤ 1048576) (hf : inR f 1 2 = true) (h : IntIn w a n ys) :
    Calls Try.prog 68 #[.slice a n cap, .int .i64 f] w fun e w' => e = .returned (.int .i64 (sfCode f ys)) ∧ Below w.heap.size w w' := by
  have H : Hid (IntIn w a n ys) := h
  have HZ : Hid (ys.length = n) := h.1
  have hn' : (n : Int) ≤ 1048576 := by omega
  obtain ⟨hf1, hf2⟩ := (inR_iff f 1 2).1 hf
  have e1 : nfCode f = 0 := by unfold nfCode; rw [if_pos hf]
  have e2 : nfVal 2 f = 2 * f + 1 := by unfold nfVal; rw [if_pos hf]
  have e3 : nfVal 3 f = 3 * f + 1 := by unfold nfVal; rw [if_pos hf]
  have HNF : Hid (∀ w : World, GivesNF 59 f (nfCode f) (nfVal 2 f) w) := implNeedOf_c f
  have HRF : Hid (∀ w : World, GivesNF 60 f (nfCode f) (nfVal 3 f) w) := implReplicasOf_c f
  rw [e1, e2] at HNF
  rw [e1, e3] at HRF
  unfold GivesNF at HNF HRF
  clear e1 e2 e3 hf
  cases hr : riseB ys
  · have HC : Hid (sfCode f ys = 1) := by show sfCode f ys = 1; unfold sfCode; rw [if_neg (by rw [hr]; simp)]
    have HRB : Hid (riseB ys = false) := hr
    clear hr
    rw [HC.out]
    go_enter Try.func68, Try.ntmps68
    go_wp2_with fail
    refine (rise_c a n cap ys _ hn H.out).mono ?_
    rintro e w1 ⟨rfl, hb1⟩
    rw [HRB.out]
    go_wp2
    go_ret
    exact ⟨rfl, hb1⟩
  · have HRB : Hid (riseB ys = true) := hr
    obtain ⟨c, hc⟩ : ∃ c, c = sfCode f ys := ⟨_, rfl⟩
    have HC : Hid (c = if rngAll f ys = true then (if (n : Int) < 2 * f + 1 then 7 else 0) else 3) := by show c = _; rw [hc]; unfold sfCode; rw [if_pos hr, HZ.out]
    rw [← hc]
    clear hc
    clear hr
    obtain ⟨v, hv⟩ : ∃ v, v = 3 * f + 1 := ⟨_, rfl⟩
    rw [← hv] at HRF
    have HV : Hid (v = 3 * f + 1) := hv
    clear hv
    go_enter Try.func68, Try.ntmps68
    go_wp2_with fail
    refine (rise_c a n cap ys _ hn H.out).mono ?_
    rintro e w1 ⟨rfl, hb1⟩
    rw [HRB.out]
    go_wp2_with fail
    refine (HRF.out _).mono ?_
    rintro e w2 ⟨rfl, hb2⟩
    have hb12 : Below w.heap.size w w2 := hb1.trans (hb2.mono hb1.size)
    obtain ⟨V, hV⟩ : ∃ V, V = w2.alloc (.cells #[.int .i64 0, .int .i64 v] 96) := ⟨_, rfl⟩
    have BV : Hid (Below w.heap.size w V) := by rw [hV]; exact hb12.alloc hb12.size _
    have XV : Hid (Box2 V w2.heap.size (.int .i64 0) (.int .i64 v)) := by rw [hV]; exact Box2.new _ _ _ _
    go_wp2_with fail
    rw [← hV]
    clear hV hb1 hb2 hb12
    go_loopw [15] (fun i wr => ∃ k : Nat, k ≤ n ∧ i = .int .i64 (k : Int) ∧ (∀ j y, j < k → ys[j]? = some y → inR y 1 v = true) ∧ Below V.heap.size V wr) (fun i _ => n - (intOf i).toNat)
    case atStart => exact ⟨0, Nat.zero_le _, rfl, fun j y h => by omega, Below.refl _ _⟩
    case round =>
      obtain ⟨k, hk, rfl, hz, hvx⟩ := hrel
      have hnx : Below w.heap.size w wr := BV.out.trans (hvx.mono BV.out.size)
      have HK0 : Hid (∀ j y, j < k → ys[j]? = some y → inR y 1 v = true) := hz
      clear hz
      by_cases hlt : k < n
      · obtain ⟨b, off, x, rfl, hx, hxa, hbl⟩ := H.out.at hlt
        have hlt' : (k : Int) < (n : Int) := by omega
        have x0 := (hnx.cell (p := ⟨b, off + k, none⟩) hbl).trans hxa
        obtain ⟨y0, y1⟩ := XV.out.below hvx
        have hYl : w2.heap.size < wr.heap.size := (XV.out.below hvx).lt
        obtain ⟨t, ht⟩ : ∃ t, inR x 1 v = t := ⟨_, rfl⟩
        have HX : Hid (ys[k]? = some x ∧ inR x 1 v = t) := ⟨hx, ht⟩
        have HID : Hid (∀ w : World, Calls Try.prog 61 #[.int .i64 x, .agg #[.int .i64 0, .int .i64 v]] w fun e w' => e = .returned (.bool t) ∧ Below w.heap.size w w') := fun w => by
          have := isReplicaId_c x 0 v w
          rw [ht] at this
          simpa using this
        clear hx hxa ht
        go_wp2_with fail
        refine (HID.out _).mono ?_
        rintro e w3 ⟨rfl, hb3⟩
        have B3 := hnx.trans (hb3.mono hnx.size)
        have V3 := hvx.trans (hb3.mono hvx.size)
        cases t
        · have HE : Hid (rngAll f ys = false) := by
            show rngAll f ys = false
            cases q : rngAll f ys
            · rfl
            · unfold rngAll at q
              have := List.all_eq_true.1 q x (List.mem_of_getElem? HX.out.1)
              rw [← HV.out, HX.out.2] at this
              cases this
          have HE3 : Hid (c = 3) := by show c = 3; rw [HC.out, HE.out]; rfl
          go_wp2
          go_ret
          exact ⟨by rw [HE3.out]; rfl, B3⟩
        · have HN : Hid (∀ j y, j < k + 1 → ys[j]? = some y → inR y 1 v = true) := fun j y h1 e1 => by
            by_cases q : j = k
            · subst q
              rw [HX.out.1] at e1
              cases e1
              exact HX.out.2
            · exact HK0.out j y (by omega) e1
          go_wp2
          exact ⟨⟨k + 1, by omega, by go_num, HN.out, V3⟩, by simp [intOf]; omega⟩
      · have hkn : k = n := by omega
        have hlt' : ¬ ((k : Int) < (n : Int)) := by omega
        have HE : Hid (rngAll f ys = true) := by
          show rngAll f ys = true
          unfold rngAll
          refine List.all_eq_true.2 (fun y hy => ?_)
          obtain ⟨j, hj, e⟩ := List.mem_iff_getElem.1 hy
          rw [← HV.out]
          exact HK0.out j y (by have := HZ.out; omega) (by rw [List.getElem?_eq_getElem hj, e])
        have HF : c = if (n : Int) < 2 * f + 1 then 7 else 0 := by rw [HC.out, HE.out, if_pos rfl]
        obtain ⟨m, hm⟩ : ∃ m, m = 2 * f + 1 := ⟨_, rfl⟩
        rw [← hm] at HNF HF
        clear hkn HE HC hm
        by_cases hq : (n : Int) < m
        · have H7 : Hid (c = 7) := by show c = 7; rw [HF, if_pos hq]
          clear HF
          go_wp2_with fail
          refine (HNF.out _).mono ?_
          rintro e w3 ⟨rfl, hb3⟩
          go_wp2
          go_ret
          exact ⟨by rw [H7.out]; rfl, hnx.trans (hb3.mono hnx.size)⟩
        · have H7 : Hid (c = 0) := by show c = 0; rw [HF, if_neg hq]
          clear HF
          go_wp2_with fail
          refine (HNF.out _).mono ?_
          rintro e w3 ⟨rfl, hb3⟩
          go_wp2
          go_ret
          exact ⟨by rw [H7.out]; rfl, hnx.trans (hb3.mono hnx.size)⟩

def haveP (zs : List ShI) (x : StI) (ys : List Int) (k : Nat) : Int → Bool := fun i => decide (i ∈ ys) && !decide (shOf i x ∈ zs.take k)

theorem SM.cong {w : World} {b N : Nat} {p q : Int → Bool} (h : SM w b N p) (e : ∀ i, p i = q i) : SM w b N q := by
  have : p = q := funext e
  rw [← this]; exact h

theorem SM.le {w : World} {b N M : Nat} {p : Int → Bool} (h : SM w b N p) (hN : N ≤ M) : SM w b M p := by
  obtain ⟨D, n, h1, h2⟩ := h
  exact ⟨D, n, by omega, h2⟩

theorem have_end {zs : List ShI} {x : StI} {ys : List Int} {n m : Nat} (hz : zs.length = n) (hy : ∀ y ∈ ys, i64W y) (h : m = 0 ↔ ∀ i, i64W i → haveP zs x ys n i = false) : ((m : Int) == 0) = sgdAll zs x ys := by
  have ht : zs.take n = zs := List.take_of_length_le (by omega)
  rw [Bool.eq_iff_iff]
  unfold sgdAll
  rw [List.all_eq_true]
  simp only [beq_iff_eq]
  constructor
  · intro h0 y hyy
    have := h.1 (by omega) y (hy y hyy)
    unfold haveP at this
    rw [ht] at this
    simp [hyy] at this
    exact hasSh_iff.2 this
  · intro hall
    have : m = 0 := h.2 (fun i hi => by
      unfold haveP
      rw [ht]
      by_cases q : i ∈ ys
      · have := hasSh_iff.1 (hall i q)
        simp [this]
      · simp [q])
    omega

theorem haveP_next {zs : List ShI} {x : StI} {ys : List Int} {k : Nat} {z : ShI} (hz : zs[k]? = some z) (h : sameSt z.st x = true) (i : Int) : delP (haveP zs x ys k) z.r i = haveP zs x ys (k + 1) i := by
  have hst : z.st = x := by unfold sameSt at h; exact of_decide_eq_true h
  have hm : shOf i x ∈ zs.take (k + 1) ↔ (shOf i x ∈ zs.take k ∨ i = z.r) := by
    rw [mem_takeH, mem_takeH]
    constructor
    · rintro ⟨j, hj, e⟩
      by_cases q : j = k
      · subst q
        rw [hz] at e
        exact .inr (sh_eq.1 (Option.some.inj e)).2.symm
      · exact .inl ⟨j, by omega, e⟩
    · rintro (⟨j, hj, e⟩ | e)
      · exact ⟨j, by omega, e⟩
      · exact ⟨k, by omega, by rw [hz, sh_eq.2 ⟨hst, e.symm⟩]⟩
  unfold delP haveP
  rw [Bool.eq_iff_iff]
  simp only [Bool.and_eq_true, Bool.not_eq_true', decide_eq_false_iff_not, decide_eq_true_eq, hm]
  constructor
  · rintro ⟨h1, h2, h3⟩; exact ⟨h2, fun q => by rcases q with q | q; exact h3 q; exact h1 q⟩
  · rintro ⟨h2, h3⟩; exact ⟨fun q => h3 (.inr q), h2, fun q => h3 (.inl q)⟩

theorem haveP_stay {zs : List ShI} {x : StI} {ys : List Int} {k : Nat} {z : ShI} (hz : zs[k]? = some z) (h : sameSt z.st x = false) (i : Int) : haveP zs x ys k i = haveP zs x ys (k + 1) i := by
  have hst : ¬ z.st = x := by unfold sameSt at h; exact of_decide_eq_false h
  have hm : shOf i x ∈ zs.take (k + 1) ↔ shOf i x ∈ zs.take k := by
    rw [mem_takeH, mem_takeH]
    constructor
    · rintro ⟨j, hj, e⟩
      by_cases q : j = k
      · subst q
        rw [hz] at e
        exact absurd (sh_eq.1 (Option.some.inj e)).1 hst
      · exact ⟨j, by omega, e⟩
    · rintro ⟨j, hj, e⟩
      exact ⟨j, by omega, e⟩
  unfold haveP
  simp only [hm]

set_option maxRecDepth 20000 in
set_option maxHeartbeats 2000000 in
theorem haveShares_c (a : Option Addr) (n cap : Nat) (zs : List ShI) (x : StI) (ga : Option Addr) (gn gc : Nat) (ys : List Int) (w : World) (hn : n ≤ 1000) (hgn : gn ≤ 1000) (h : ShIn w a n zs) (hg : IntIn w ga gn ys) (hr : ∀ z ∈ zs, i64W z.r) (hy : ∀ y ∈ ys, i64W y) :
    Calls Try.prog 69 #[.slice a n cap, .agg #[.int .i64 x.k, .int .i64 x.e, .int .i64 x.f, .int .i64 x.s, .int .i64 x.n, .slice ga gn gc]] w fun e w' => e = .returned (.bool (sgdAll zs x ys)) ∧ Below w.heap.size w w' := by
  have hn' : (n : Int) ≤ 1000 := by omega
  have hgn' : (gn : Int) ≤ 1000 := by omega
  obtain ⟨V, hV⟩ : ∃ V, V = w.alloc (.cells #[.int .i64 x.k, .int .i64 x.e, .int .i64 x.f, .int .i64 x.s, .int .i64 x.n, .slice ga gn gc] 53) := ⟨_, rfl⟩
  have BV : Below w.heap.size w V := by rw [hV]; exact (Below.refl _ _).alloc (Nat.le_refl _) _
  have hwV : w.heap.size < V.heap.size := by rw [hV]; simp
  have q0 : V.cell? ⟨w.heap.size, 0, none⟩ = some (.int .i64 x.k) := by rw [hV]; simp
  have q1 : V.cell? ⟨w.heap.size, 1, none⟩ = some (.int .i64 x.e) := by rw [hV]; simp
  have q2 : V.cell? ⟨w.heap.size, 2, none⟩ = some (.int .i64 x.f) := by rw [hV]; simp
  have q3 : V.cell? ⟨w.heap.size, 3, none⟩ = some (.int .i64 x.s) := by rw [hV]; simp
  have q4 : V.cell? ⟨w.heap.size, 4, none⟩ = some (.int .i64 x.n) := by rw [hV]; simp
  have q5 : V.cell? ⟨w.heap.size, 5, none⟩ = some (.slice ga gn gc) := by rw [hV]; simp
  have HQ : Hid (StAt V w.heap.size 0 x) := ⟨q0, by simpa using q1, by simpa using q2, by simpa using q3, by simpa using q4⟩
  have hmk : (Instr.makeMap 116 none).run Try.prog V = .ok (.map (some V.heap.size)) (V.alloc (.map #[] 0)) := run_makeMap _ V
  have HBV : Hid (Below w.heap.size w V) := BV
  obtain ⟨M, hM⟩ : ∃ M, M = V.alloc (.map #[] 0) := ⟨_, rfl⟩
  have BM : Hid (Below V.heap.size V M) := by rw [hM]; exact (Below.refl _ _).alloc (Nat.le_refl _) _
  have SM0 : Hid (SM M V.heap.size 0 (fun _ => false)) := by rw [hM]; exact sm_made V
  have p5 : M.cell? ⟨w.heap.size, 5, none⟩ = some (.slice ga gn gc) := (BM.out.cell (p := ⟨w.heap.size, 5, none⟩) hwV).trans q5
  have HS : Hid (ShIn V a n zs) := h.below BV
  have HG : Hid (IntIn V ga gn ys) := hg.below BV
  have HZ : Hid (zs.length = n ∧ ys.length = gn) := ⟨h.1, hg.1⟩
  have HW : Hid ((∀ z ∈ zs, i64W z.r) ∧ ∀ y ∈ ys, i64W y) := ⟨hr, hy⟩
  have hVM : V.heap.size < M.heap.size := SM0.out.lt
  rw [← hM] at hmk
  clear h hg hr hy BV q0 q1 q2 q3 q4
  go_enter Try.func69, Try.ntmps69
  go_upto_region 1 with fail
  rw [← hV]
  clear hV hM
  go_wp2_with fail
  go_loopw [14] (fun i wr => ∃ k : Nat, k ≤ gn ∧ i = .int .i64 (k : Int) ∧ SM wr V.heap.size k (fun i => decide (i ∈ ys.take k)) ∧ Below V.heap.size V wr) (fun i _ => gn - (intOf i).toNat)
  case atStart => exact ⟨0, Nat.zero_le _, rfl, SM0.out.cong (fun i => by simp), BM.out⟩
  case round =>
    obtain ⟨k, hk, rfl, hsm, hvx⟩ := hrel
    by_cases hlt : k < gn
    · obtain ⟨b, off, y, rfl, hyk, hya, hbl⟩ := HG.out.at hlt
      have hlt' : (k : Int) < (gn : Int) := by omega
      have x0 := (hvx.cell (p := ⟨b, off + k, none⟩) hbl).trans hya
      have HP : Hid (∀ w : World, SM w V.heap.size k (fun i => decide (i ∈ ys.take k)) → Calls Try.prog 81 #[.map (some V.heap.size), .int .i64 y] w fun e w' => e = .returned (.tuple #[]) ∧ SM w' V.heap.size (k + 1) (fun i => decide (i ∈ ys.take (k + 1))) ∧ w.grownBy w' (some V.heap.size)) := fun w hw =>
        (snPut_c V.heap.size k _ y w hw (by omega) (HW.out.2 y (List.mem_of_getElem? hyk))).mono fun e w' hh => ⟨hh.1, hh.2.1.cong (fun i => by
          have hkl : k < ys.length := by rw [HZ.out.2]; exact hlt
          have ey : ys[k] = y := by rw [List.getElem?_eq_getElem hkl] at hyk; exact Option.some.inj hyk
          unfold putP
          rw [List.take_succ_eq_append_getElem hkl, ey, Bool.eq_iff_iff]
          simp only [Bool.or_eq_true, decide_eq_true_eq, List.mem_append, List.mem_singleton]
          exact or_comm), hh.2.2⟩
      clear hyk hya
      go_wp2_with fail
      refine (HP.out _ hsm).mono ?_
      rintro e w1 ⟨rfl, hsm1, hg1⟩
      have B1 := hvx.grown hg1 hvx.size (fun q e => by cases e; exact Nat.le_refl _)
      clear hsm hg1
      go_wp2
      exact ⟨⟨k + 1, by omega, by go_num, hsm1, B1⟩, by simp [intOf]; omega⟩
    · have hkn : k = gn := by omega
      subst hkn
      have SM1 : Hid (SM wr V.heap.size k (haveP zs x ys 0)) := hsm.cong (fun i => by unfold haveP; rw [List.take_of_length_le (by rw [HZ.out.2]; exact Nat.le_refl _)]; simp)
      obtain ⟨U, hU⟩ : ∃ U, U = wr := ⟨_, rfl⟩
      rw [← hU] at SM1 hvx ⊢
      clear hsm hU
      go_wp2
      go_loopw [24] (fun i wr => ∃ j : Nat, j ≤ n ∧ i = .int .i64 (j : Int) ∧ SM wr V.heap.size k (haveP zs x ys j) ∧ Below V.heap.size V wr) (fun i _ => n - (intOf i).toNat)
      case atStart => exact ⟨0, Nat.zero_le _, rfl, SM1.out, hvx⟩
      case round =>
        obtain ⟨j, hj, rfl, hsm, hwx⟩ := hrel
        by_cases hlt : j < n
        · obtain ⟨b, off, z, rfl, hz, hza, hbl⟩ := HS.out.at hlt
          have hlt' : (j : Int) < (n : Int) := by omega
          obtain ⟨x0, x1, x2, x3, x4, x5⟩ := hza.below hwx hbl
          obtain ⟨Y, hY⟩ : ∃ Y, Y = wr.alloc (.cells #[.int .i64 z.r, .int .i64 z.k, .int .i64 z.e, .int .i64 z.f, .int .i64 z.s, .int .i64 z.n] 71) := ⟨_, rfl⟩
          have hsl := hsm.lt
          have SY : SM Y V.heap.size k (haveP zs x ys j) := by rw [hY]; exact hsm.below hsl ((Below.refl _ _).alloc (Nat.le_refl _) _)
          have BY : Below V.heap.size V Y := by rw [hY]; exact hwx.alloc hwx.size _
          obtain ⟨y0, y1, y2, y3, y4⟩ := HQ.out.below hwx hwV
          simp only [Nat.zero_add] at y0 y1 y2 y3 y4
          have hwl : w.heap.size < wr.heap.size := Nat.lt_of_lt_of_le hwV hwx.size
          cases hsame : sameSt z.st x
          · have HN : Hid (SM Y V.heap.size k (haveP zs x ys (j + 1))) := SY.cong (fun i => haveP_stay hz hsame i)
            have HSA : Hid (sameSt z.st x = false) := hsame
            have hse : ∀ w : World, (binOp .eql 36 (.agg #[.int .i64 z.k, .int .i64 z.e, .int .i64 z.f, .int .i64 z.s, .int .i64 z.n]) (.agg #[.int .i64 x.k, .int .i64 x.e, .int .i64 x.f, .int .i64 x.s, .int .i64 x.n])).run Try.prog w = .ok (.bool false) w := fun w => by have := st_eql z.st x w; rw [hsame] at this; exact this
            clear hz hza hsame SY hsm
            go_wp2
            rw [← hY]
            exact ⟨⟨j + 1, by omega, by go_num, HN.out, BY⟩, by simp [intOf]; omega⟩
          · obtain ⟨w2, hdel, hs2, hg2⟩ := sm_del SY (HW.out.1 z (List.mem_of_getElem? hz)) 0
            have HN : Hid (SM w2 V.heap.size k (haveP zs x ys (j + 1))) := hs2.cong (fun i => haveP_next hz hsame i)
            have B2 : Below V.heap.size V w2 := BY.grown hg2 BY.size (fun q e => by cases e; exact Nat.le_refl _)
            have hse : ∀ w : World, (binOp .eql 36 (.agg #[.int .i64 z.k, .int .i64 z.e, .int .i64 z.f, .int .i64 z.s, .int .i64 z.n]) (.agg #[.int .i64 x.k, .int .i64 x.e, .int .i64 x.f, .int .i64 x.s, .int .i64 x.n])).run Try.prog w = .ok (.bool true) w := fun w => by have := st_eql z.st x w; rw [hsame] at this; exact this
            rw [hY] at hdel
            clear hz hza hsame SY hsm hs2 hg2
            go_wp2
            exact ⟨⟨j + 1, by omega, by go_num, HN.out, B2⟩, by simp [intOf]; omega⟩
        · have hkn : j = n := by omega
          subst hkn
          obtain ⟨m, hlen, hm1, hm2⟩ := sm_len hsm 3
          have HE : Hid (((m : Int) == 0) = sgdAll zs x ys) := have_end HZ.out.1 HW.out.2 hm2
          clear hm2 hsm
          go_wp2
          go_ret
          exact ⟨by rw [← HE.out]; rfl, HBV.out.trans (hwx.mono HBV.out.size)⟩

end Go.Proofs.Ythogdfnaojijhaa
