/-
  CONTRACTS: laws.lwHas; and plain words on certificates that were combined.
  Conditions: each contract bears its own.
  THE LAW laws.FnVerifies, from the code of bytes on.
  Conditions: each contract bears its own.
  PLAIN WORDS on two certificates: what they share. No Go text is walked here.
  Conditions: each fact bears its own.
-/
import Derived.Test.YtdfhebmecbcegaaDd2
import Derived.Test.YtdfhebmecbcegaaPm01
import Derived.Test.YtdfhebmecbcegaaDd4
namespace Go.Proofs.Ytdfhebmecbcegaa
open Go.RowKit
set_option linter.unusedVariables false
set_option linter.unusedSimpArgs false

set_option maxRecDepth 20000 in
set_option maxHeartbeats 1000000 in
theorem lwHas9_c (a : Option Addr) (n cap : Nat) (us : List Int) (y : Int) (w : World) (hn : n ≤ 1048576) (h : IntIn w a n us) :
    Calls Try.prog 19 #[.slice a n cap, .int .i64 y] w fun e w' => e = .returned (.bool (decide (y ∈ us))) ∧ w = w' := by
  have H : Hid (IntIn w a n us) := h
  have HZ : Hid (us.length = n) := h.1
  have hn' : (n : Int) ≤ 1048576 := by omega
  clear h
  go_enter Try.func19, Try.ntmps19
  go_wp2
  go_loop [5] (fun i => ∃ k : Nat, k ≤ n ∧ i = .int .i64 (k : Int) ∧ ¬ y ∈ us.take k) (fun i => n - (intOf i).toNat)
  case atStart => exact ⟨0, Nat.zero_le _, rfl, by simp⟩
  case round =>
    obtain ⟨k, hk, rfl, hm⟩ := hrel
    have HM : Hid (¬ y ∈ us.take k) := hm
    clear hm
    by_cases hlt : k < n
    · obtain ⟨b, off, p, rfl, hp, hpa, hbl⟩ := H.out.at hlt
      have hlt' : (k : Int) < (n : Int) := by omega
      by_cases e : p = y
      · have eb : (p == y) = true := by simp [e]
        have HI : Hid (decide (y ∈ us) = true) := by show _ = _; simp; rw [← e]; exact List.mem_of_getElem? hp
        clear hp e
        go_wp2
        go_ret
        exact ⟨by rw [HI.out]; rfl, rfl⟩
      · have eb : (p == y) = false := by simp [e]
        have HN : Hid (¬ y ∈ us.take (k + 1)) := no_nextI HM.out hp e
        clear hp e
        go_wp2
        exact ⟨⟨k + 1, by omega, by go_num, HN.out⟩, by simp [intOf]; omega⟩
    · have hkn : k = n := by omega
      subst hkn
      have HN : Hid (decide (y ∈ us) = false) := by
        have := HM.out
        rw [List.take_of_length_le (by rw [HZ.out]; exact Nat.le_refl _)] at this
        show _ = _
        simp [this]
      go_wp2
      go_ret
      exact ⟨by rw [HN.out]; rfl, rfl⟩

theorem ownSh_caps {w : World} {B : Nat} {va : Option Addr} {vc : Nat} {zs : List ShI} (h : OwnSh w B (.slice va zs.length vc) zs) : zs.length ≤ vc ∧ vc ≤ maxLen := by
  have h0 : w.ownsRow B 45 6 (.slice va zs.length vc) zs.length (flatSh zs) := h
  rcases h0.2 with ⟨e, hn⟩ | ⟨g, cap, cur, e, hg, hb, h1, h2, rest⟩
  · simp at e
    rw [e.2.2, e.2.1]
    exact ⟨Nat.le_refl _, Nat.zero_le _⟩
  · simp at e
    rw [e.2]
    exact ⟨h1, h2⟩

/-- What Combine's answer without a code tells. -/
theorem cb_zero {f : Int} {zs : List ShI} {x : StI} (h : cbCode f zs x = 0) : shCode f zs = 0 ∧ stCode x = 0 ∧ 2 * f + 1 ≤ ((sgL zs x).length : Int) := by
  unfold cbCode at h
  split at h
  · split at h
    · split at h
      · cases h
      · exact ⟨by assumption, by assumption, by omega⟩
    · contradiction
  · contradiction

theorem up_take {ys : List Int} (h : Up ys) (k : Nat) : Up (ys.take k) := List.Pairwise.sublist (List.take_sublist k ys) h
theorem up_drop {ys : List Int} (h : Up ys) (k : Nat) : Up (ys.drop k) := List.Pairwise.sublist (List.drop_sublist k ys) h

/-- Signers of the statement alone: the code hangs on how many they are. -/
theorem vf_of {f : Int} {zs : List ShI} {x : StI} {ys : List Int} (h1 : shCode f zs = 0) (h2 : stCode x = 0) (hu : Up ys) (hm : ∀ y ∈ ys, y ∈ sgL zs x) : vfCode f zs x ys = if (ys.length : Int) < 2 * f + 1 then 7 else 0 := by
  have hr : riseB ys = true := by unfold riseB; exact decide_eq_true hu
  have hg : rngAll f ys = true := by
    unfold rngAll
    rw [List.all_eq_true]
    intro y hy
    have := (sh_ok h1).2.2 _ ((mem_sgL zs x y).1 (hm y hy))
    exact this.1
  have hs : sgdAll zs x ys = true := by
    unfold sgdAll
    rw [List.all_eq_true]
    intro y hy
    exact hasSh_iff.2 ((mem_sgL zs x y).1 (hm y hy))
  unfold vfCode
  rw [if_pos h1, if_pos h2]
  unfold sfCode
  rw [if_pos hr, if_pos hg]
  by_cases q : (ys.length : Int) < 2 * f + 1
  · rw [if_pos q, if_neg (by decide)]
  · rw [if_neg q, if_pos rfl, if_pos hs]

theorem cb_facts {f : Int} {zs : List ShI} {x : StI} (h : cbCode f zs x = 0) : 1 ≤ f ∧ f ≤ 2 ∧ zs.length ≤ 120 ∧ cbX f zs x = x ∧ (cbL f zs x).length = (2 * f + 1).toNat ∧ sgCode zs x = 0 ∧ sgRes zs x = sgL zs x ∧ vfCode f zs x (cbL f zs x) = 0 ∧ vfCode f zs x ((cbL f zs x).drop 1) = 7 ∧ (∀ y ∈ cbL f zs x, y ∈ sgL zs x) ∧ (cbL f zs x).length ≤ (sgL zs x).length := by
  obtain ⟨h1, h2, h3⟩ := cb_zero h
  obtain ⟨hf, hn, _⟩ := sh_ok h1
  have hf' : 1 ≤ f ∧ f ≤ 2 := by simpa [inR] using hf
  have hL : cbL f zs x = (sgL zs x).take (2 * f + 1).toNat := by unfold cbL; rw [if_pos h]
  have hX : cbX f zs x = x := by unfold cbX; rw [if_pos h]
  have hl : (cbL f zs x).length = (2 * f + 1).toNat := by rw [hL, List.length_take]; omega
  have hc : sgCode zs x = 0 := by unfold sgCode; rw [if_neg (by omega), h2]
  have hR : sgRes zs x = sgL zs x := by unfold sgRes; rw [if_pos hc]
  have hm : ∀ y ∈ cbL f zs x, y ∈ sgL zs x := fun y hy => by rw [hL] at hy; exact List.mem_of_mem_take hy
  have hu : Up (cbL f zs x) := by rw [hL]; exact up_take (sgL_up zs x) _
  refine ⟨hf'.1, hf'.2, hn, hX, hl, hc, hR, ?_, ?_, hm, by omega⟩
  · rw [vf_of h1 h2 hu hm, if_neg (by omega)]
  · rw [vf_of h1 h2 (up_drop hu 1) (fun y hy => hm y (List.mem_of_mem_drop hy)), if_pos (by rw [List.length_drop]; omega)]

end Go.Proofs.Ytdfhebmecbcegaa

namespace Go.Proofs.Ytdfhebmecbcegaa
open Go.RowKit
set_option linter.unusedVariables false
set_option linter.unusedSimpArgs false

theorem up_len : ∀ (ts us : List Int), Up us → Up ts → (∀ y ∈ us, y ∈ ts) → us.length ≤ ts.length
  | ts, [], _, _, _ => Nat.zero_le _
  | [], u :: us, _, _, h => by have := h u (List.mem_cons_self ..); simp at this
  | t :: ts, u :: us, hu, ht, h => by
    have hu' := List.pairwise_cons.1 hu
    have ht' := List.pairwise_cons.1 ht
    by_cases e : u = t
    · subst e
      have := up_len ts us hu'.2 ht'.2 (fun y hy => by
        rcases List.mem_cons.1 (h y (List.mem_cons_of_mem _ hy)) with q | q
        · have := hu'.1 y hy; omega
        · exact q)
      simp; omega
    · have hut : u ∈ ts := by
        rcases List.mem_cons.1 (h u (List.mem_cons_self ..)) with q | q
        · exact absurd q e
        · exact q
      have hlt := ht'.1 u hut
      have := up_len ts (u :: us) hu ht'.2 (fun y hy => by
        rcases List.mem_cons.1 (h y hy) with q | q
        · rcases List.mem_cons.1 hy with r | r
          · omega
          · have := hu'.1 y r; omega
        · exact q)
      simp at this ⊢; omega

/-- What VerifyCert's answer without a code tells. -/
theorem vf_zero {f : Int} {zs : List ShI} {x : StI} {us : List Int} (h : vfCode f zs x us = 0) : 1 ≤ f ∧ f ≤ 2 ∧ 2 * f + 1 ≤ (us.length : Int) ∧ (∀ y ∈ us, shOf y x ∈ zs) ∧ isB f zs x = true := by
  have h1 : shCode f zs = 0 := by
    unfold vfCode at h
    by_cases q : shCode f zs = 0
    · exact q
    · rw [if_neg q] at h; exact h
  have h2 : stCode x = 0 := by
    unfold vfCode at h
    rw [if_pos h1] at h
    by_cases q : stCode x = 0
    · exact q
    · rw [if_neg q] at h; exact h
  have h3 : sfCode f us = 0 := by
    unfold vfCode at h
    rw [if_pos h1, if_pos h2] at h
    by_cases q : sfCode f us = 0
    · exact q
    · rw [if_neg q] at h; exact h
  have h4 : sgdAll zs x us = true := by
    unfold vfCode at h
    rw [if_pos h1, if_pos h2, if_pos h3] at h
    by_cases q : sgdAll zs x us = true
    · exact q
    · rw [if_neg q] at h; cases h
  have h5 : riseB us = true := by
    unfold sfCode at h3
    by_cases q : riseB us = true
    · exact q
    · rw [if_neg q] at h3; cases h3
  have h6 : ¬ (us.length : Int) < 2 * f + 1 := by
    unfold sfCode at h3
    rw [if_pos h5] at h3
    intro q
    by_cases r : rngAll f us = true
    · rw [if_pos r, if_pos q] at h3; cases h3
    · rw [if_neg r] at h3; cases h3
  have hf : 1 ≤ f ∧ f ≤ 2 := by simpa [inR] using (sh_ok h1).1
  have hm : ∀ y ∈ us, shOf y x ∈ zs := fun y hy => by
    unfold sgdAll at h4
    exact hasSh_iff.1 (List.all_eq_true.1 h4 y hy)
  have hu : Up us := by unfold riseB at h5; exact of_decide_eq_true h5
  have hl := up_len (sgL zs x) us hu (sgL_up zs x) (fun y hy => (mem_sgL zs x y).2 (hm y hy))
  refine ⟨hf.1, hf.2, by omega, hm, ?_⟩
  have hc : cbCode f zs x = 0 := by
    unfold cbCode
    rw [if_pos h1, if_pos h2, if_neg (by omega)]
  unfold isB
  rw [hc]
  rfl

theorem take_stay {zs : List ShI} {p : ShI} {m : Nat} (h : true = decide (p ∈ zs.take m)) : true = decide (p ∈ zs.take (m + 1)) := by
  have h1 : p ∈ zs.take m := of_decide_eq_true h.symm
  obtain ⟨j, hj, hjs⟩ := mem_takeH.1 h1
  exact (decide_eq_true (mem_takeH.2 ⟨j, by omega, hjs⟩)).symm

theorem take_last {zs : List ShI} {p z : ShI} {m : Nat} (h : false = decide (p ∈ zs.take m)) (hz : zs[m]? = some z) : p ∈ zs.take (m + 1) ↔ z = p := by
  have h1 : ¬ p ∈ zs.take m := of_decide_eq_false h.symm
  rw [mem_takeH]
  constructor
  · rintro ⟨j, hj, hjs⟩
    by_cases e : j = m
    · subst e
      rw [hz] at hjs
      exact Option.some.inj hjs
    · exact absurd (mem_takeH.2 ⟨j, by omega, hjs⟩) h1
  · intro e
    exact ⟨m, by omega, by rw [hz, e]⟩

theorem take_miss {zs : List ShI} {x : StI} {y : Int} {z : ShI} {m : Nat} (h : false = decide (shOf y x ∈ zs.take m)) (hz : zs[m]? = some z) (hr : ¬ z.r = y) : false = decide (shOf y x ∈ zs.take (m + 1)) := by
  refine (decide_eq_false (fun q => ?_)).symm
  exact hr (sh_eq.1 ((take_last h hz).1 q)).2

theorem take_hit {zs : List ShI} {x st : StI} {y : Int} {z : ShI} {m : Nat} (h : false = decide (shOf y x ∈ zs.take m)) (hz : zs[m]? = some z) (hs : st = z.st) (hr : z.r = y) : sameSt st x = decide (shOf y x ∈ zs.take (m + 1)) := by
  subst hs
  by_cases q : z.st = x
  · rw [decide_eq_true ((take_last h hz).2 (sh_eq.2 ⟨q, hr⟩))]
    simp [sameSt, q]
  · rw [decide_eq_false (fun e => q (sh_eq.1 ((take_last h hz).1 e)).1)]
    simp [sameSt, q]

/-- Shares and a certificate that were drawn. -/
structure FV (w : World) (va : Option Addr) (zs : List ShI) (C : Nat) (x : StI) (ga : Option Addr) (gn gc : Nat) (us : List Int) (W : World) : Prop where
  bl : Below w.heap.size w W
  sh : ShIn W va zs.length zs
  bx : BoxV C [.int .i64 x.k, .int .i64 x.e, .int .i64 x.f, .int .i64 x.s, .int .i64 x.n, .slice ga gn gc] W
  lt : C < W.heap.size
  ia : IntIn W ga gn us

theorem FV.below {w : World} {va : Option Addr} {zs : List ShI} {C : Nat} {x : StI} {ga : Option Addr} {gn gc : Nat} {us : List Int} {W W' : World} (h : FV w va zs C x ga gn gc us W) (hb : Below W.heap.size W W') : FV w va zs C x ga gn gc us W' :=
  ⟨h.bl.trans (hb.mono h.bl.size), h.sh.below hb, ((BoxV.hold h.bx h.lt).below hb).out, Nat.lt_of_lt_of_le h.lt hb.size, h.ia.below hb⟩

attribute [local go_sem ↓] st_eql

set_option maxRecDepth 100000 in
set_option maxHeartbeats 1000000 in
theorem verifies_inner (a : Option Addr) (len cap : Nat) (bs : List Int) (w : World) (hl : len ≤ 1048576) (hc : CodeIn w a len bs) (hnil : a = none → len = 0 ∧ cap = 0) :
    Calls Try.prog 4 #[.slice a len cap] w fun e w' => e = .returned (.bool true) ∧ Below w.heap.size w w' := by
  have hl' : (len : Int) ≤ 1048576 := by omega
  have HD : Hid (GivesV9 20 a len cap w) := drawVerify_c a len cap bs w hc hl hnil
  unfold GivesV9 at HD
  clear hc hnil
  go_enter Try.func4, Try.ntmps4
  go_wp2_with (first | (go_at_call 12; go_in) | fail)
  refine HD.out.mono ?_
  clear HD
  rintro e w1 ⟨va, vc, zs, f, x, ga, gn, gc, us, rfl, hzl, f0, f3, hok, how, hgn, hI, hb1⟩
  have hcaps := ownSh_caps how
  have F1 : Hid (FV w va zs w1.heap.size x ga gn gc us (w1.alloc (.cells #[.int .i64 x.k, .int .i64 x.e, .int .i64 x.f, .int .i64 x.s, .int .i64 x.n, .slice ga gn gc] 31))) :=
    ⟨hb1.alloc hb1.size _, ((ShV.isIn rfl how.view).below ((Below.refl _ _).alloc (Nat.le_refl _) _)), (boxV_new w1 _ _).out, by simp, hI.below ((Below.refl _ _).alloc (Nat.le_refl _) _)⟩
  clear hok how hb1 hI
  obtain ⟨v, hv⟩ : ∃ v, vfCode f zs x us = v := ⟨_, rfl⟩
  obtain ⟨s, hs⟩ : ∃ s, shCode f zs = s := ⟨_, rfl⟩
  have HVI : Hid (∀ W, FV w va zs w1.heap.size x ga gn gc us W → GivesVC 18 va zs.length vc f x ga gn gc v W) := fun W h => by
    rw [← hv]; exact implVerifyCert_c va zs.length vc zs f x ga gn gc us W (by omega) hcaps.1 hcaps.2 (by omega) h.sh h.ia
  have HVS : Hid (∀ W, FV w va zs w1.heap.size x ga gn gc us W → GivesVC 21 va zs.length vc f x ga gn gc v W) := fun W h => by
    rw [← hv]; exact specVerifyCert_c va zs.length vc zs f x ga gn gc us W (by omega) hcaps.1 hcaps.2 (by omega) h.sh h.ia
  have HSI : Hid (∀ W, FV w va zs w1.heap.size x ga gn gc us W → GivesSF 22 va zs.length vc f s W) := fun W h => by
    rw [← hs]; exact implSharesFault_c va zs.length vc zs f W (by omega) hcaps.1 hcaps.2 h.sh
  have HSS : Hid (∀ W, FV w va zs w1.heap.size x ga gn gc us W → GivesSF 23 va zs.length vc f s W) := fun W h => by
    rw [← hs]; exact specSharesFault_c va zs.length vc zs f W (by omega) hcaps.1 hcaps.2 h.sh
  have HIS : Hid (∀ W, FV w va zs w1.heap.size x ga gn gc us W → GivesIS 16 va zs.length vc f x (isB f zs x) W) := fun W h => implSigned_c va zs.length vc zs f x W (by omega) hcaps.1 hcaps.2 h.sh
  have HFA : Hid (v = 0 → 1 ≤ f ∧ f ≤ 2 ∧ 2 * f + 1 ≤ (us.length : Int) ∧ (∀ y ∈ us, shOf y x ∈ zs) ∧ isB f zs x = true) := fun e => vf_zero (hv.trans e)
  clear hv hs
  unfold GivesVC at HVI HVS
  unfold GivesSF at HSI HSS
  unfold GivesIS at HIS
  have c0 := F1.out.bx 0 _ rfl
  have c1 := F1.out.bx 1 _ rfl
  have c2 := F1.out.bx 2 _ rfl
  have c3 := F1.out.bx 3 _ rfl
  have c4 := F1.out.bx 4 _ rfl
  have c5 := F1.out.bx 5 _ rfl
  clear c0 c1 c2 c3 c4 c5
  go_wp2_with fail
  generalize hW1 : w1.alloc (.cells #[.int .i64 x.k, .int .i64 x.e, .int .i64 x.f, .int .i64 x.s, .int .i64 x.n, .slice ga gn gc] 31) = W1 at F1 ⊢
  clear hW1
  generalize w1.heap.size = C at F1 HVI HVS HSI HSS HIS ⊢
  refine (HVI.out _ F1.out).mono ?_
  rintro e w2 ⟨rfl, hb2⟩
  have F2 := hid (F1.out.below hb2)
  clear F1 hb2 HVI
  have c0 := F2.out.bx 0 _ rfl
  have c1 := F2.out.bx 1 _ rfl
  have c2 := F2.out.bx 2 _ rfl
  have c3 := F2.out.bx 3 _ rfl
  have c4 := F2.out.bx 4 _ rfl
  have c5 := F2.out.bx 5 _ rfl
  have hCl := F2.out.lt
  go_wp2_with fail
  refine (HVS.out _ F2.out).mono ?_
  rintro e w3 ⟨rfl, hb3⟩
  have F3 := hid (F2.out.below hb3)
  clear F2 hb3 HVS c0 c1 c2 c3 c4 c5 hCl
  by_cases hv0 : v = 0
  · subst hv0
    obtain ⟨hf1, hf2, hlen, hmem, his⟩ := HFA.out rfl
    rw [his] at HIS
    have HME : Hid (∀ y ∈ us, shOf y x ∈ zs) := hmem
    have hm1 : IntKind.i64.wrap (2 * f) = 2 * f := wrap9 (by omega) (by omega)
    have hm2 : IntKind.i64.wrap (2 * f + 1) = 2 * f + 1 := wrap9 (by omega) (by omega)
    have hul := F3.out.ia.1
    have hlen' : 2 * f + 1 ≤ (gn : Int) := by omega
    have hzi : (zs.length : Int) ≤ 121 := by omega
    have hgi : (gn : Int) ≤ 1001 := by omega
    clear hmem hlen hul HFA HSI HSS his
    go_wp2_with fail
    go_loopw [7] (fun i wr => ∃ k : Nat, i = .int .i64 (k : Int) ∧ k ≤ gn ∧ Hid (FV w va zs C x ga gn gc us wr)) (fun i _ => 2000 - (intOf i).toNat)
    case atStart => exact ⟨0, rfl, Nat.zero_le _, F3⟩
    case round =>
      clear F3
      obtain ⟨k, rfl, hk, F8⟩ := hrel
      have c0 := F8.out.bx 0 _ rfl
      have c1 := F8.out.bx 1 _ rfl
      have c2 := F8.out.bx 2 _ rfl
      have c3 := F8.out.bx 3 _ rfl
      have c4 := F8.out.bx 4 _ rfl
      have c5 := F8.out.bx 5 _ rfl
      have hCl := F8.out.lt
      by_cases hlt : k < gn
      · have hlt' : (k : Int) < (gn : Int) := by omega
        obtain ⟨yb, yo, y, rfl, hy, -, -⟩ := F8.out.ia.at hlt
        have HYM : Hid (shOf y x ∈ zs) := HME.out y (List.mem_of_getElem? hy)
        have HY : Hid (us[k]? = some y) := hy
        clear hy
        go_wp2_with fail
        clear c0 c1 c2 c3 c4 c5 hCl
        go_loopw [8, 9] (fun t j wr => ∃ (m : Nat) (tb : Bool), t = .bool tb ∧ j = .int .i64 (m : Int) ∧ m ≤ zs.length ∧ Hid (tb = decide (shOf y x ∈ zs.take m)) ∧ Hid (FV w va zs C x (some ⟨yb, yo, none⟩) gn gc us wr)) (fun _ j _ => 2000 - (intOf j).toNat)
        case atStart => exact ⟨0, false, rfl, rfl, Nat.zero_le _, by show false = _; simp, F8⟩
        case round =>
          clear F8
          obtain ⟨m, tb, rfl, rfl, hm, HT, F9⟩ := hrel
          have c0 := F9.out.bx 0 _ rfl
          have c1 := F9.out.bx 1 _ rfl
          have c2 := F9.out.bx 2 _ rfl
          have c3 := F9.out.bx 3 _ rfl
          have c4 := F9.out.bx 4 _ rfl
          have c5 := F9.out.bx 5 _ rfl
          have hCl := F9.out.lt
          have hyc : wr.cell? ⟨yb, yo + k, none⟩ = some (.int .i64 y) := by
            obtain ⟨b', o', e', hh⟩ := F9.out.ia.2 (by omega)
            cases e'
            exact hh k y HY.out
          have hyl := World.block_lt_of_cell? _ _ hyc
          by_cases hml : m < zs.length
          · have hml' : (m : Int) < (zs.length : Int) := by omega
            obtain ⟨zb, zo, z, hva, hz, ⟨d0, d1, d2, d3, d4, d5⟩, hzl⟩ := F9.out.sh.at hml
            subst hva
            have HZ : Hid (zs[m]? = some z) := hz
            obtain ⟨st, hst⟩ : ∃ st : StI, st = z.st := ⟨_, rfl⟩
            have HST : Hid (st = z.st) := hst
            have e1 : wr.cell? ⟨zb, zo + m * 6 + 1, none⟩ = some (.int .i64 st.k) := by rw [hst]; exact d1
            have e2 : wr.cell? ⟨zb, zo + m * 6 + 2, none⟩ = some (.int .i64 st.e) := by rw [hst]; exact d2
            have e3 : wr.cell? ⟨zb, zo + m * 6 + 3, none⟩ = some (.int .i64 st.f) := by rw [hst]; exact d3
            have e4 : wr.cell? ⟨zb, zo + m * 6 + 4, none⟩ = some (.int .i64 st.s) := by rw [hst]; exact d4
            have e5 : wr.cell? ⟨zb, zo + m * 6 + 5, none⟩ = some (.int .i64 st.n) := by rw [hst]; exact d5
            clear hz hst d1 d2 d3 d4 d5
            cases tb
            · by_cases er : z.r = y
              · have eb : (z.r == y) = true := by simp [er]
                have HN : Hid (sameSt st x = decide (shOf y x ∈ zs.take (m + 1))) := take_hit HT.out HZ.out HST.out er
                clear er
                go_wp2
                go_quiet (fail)
                go_wp2
                exact ⟨⟨m + 1, _, rfl, by go_num, by omega, HN, hid (F9.out.below (below_drewN (Below.refl _ _) _))⟩, by simp [intOf]; omega⟩
              · have eb : (z.r == y) = false := by simp [er]
                have HN : Hid (false = decide (shOf y x ∈ zs.take (m + 1))) := take_miss HT.out HZ.out er
                clear er
                go_wp2
                go_quiet (fail)
                go_wp2
                exact ⟨⟨m + 1, false, rfl, by go_num, by omega, HN, hid (F9.out.below (below_drewN (Below.refl _ _) _))⟩, by simp [intOf]; omega⟩
            · have HN : Hid (true = decide (shOf y x ∈ zs.take (m + 1))) := take_stay HT.out
              go_wp2
              go_quiet (fail)
              go_wp2
              exact ⟨⟨m + 1, true, rfl, by go_num, by omega, HN, hid (F9.out.below (below_drewN (Below.refl _ _) _))⟩, by simp [intOf]; omega⟩
          · have hmn : m = zs.length := by omega
            have htt : tb = true := by rw [HT.out, hmn, List.take_length]; exact decide_eq_true HYM.out
            subst htt
            clear HT hmn
            go_wp2
            exact ⟨⟨k + 1, by go_num, by omega, F9⟩, by simp [intOf]; omega⟩
      · have hkn : k = gn := by omega
        go_wp2_with fail
        refine (HIS.out _ F8.out).mono ?_
        rintro e w9 ⟨rfl, hb9⟩
        have F9 := hid (F8.out.below hb9)
        go_wp2
        go_ret
        exact ⟨by simp, F9.out.bl⟩
  · have vb : (v != 0) = true := by simp [hv0]
    have vv : (v != v) = false := by simp
    go_wp2_with fail
    refine (HSI.out _ F3.out).mono ?_
    rintro e w4 ⟨rfl, hb4⟩
    have F4 := hid (F3.out.below hb4)
    clear F3 hb4
    go_wp2_with fail
    refine (HSS.out _ F4.out).mono ?_
    rintro e w5 ⟨rfl, hb5⟩
    have F5 := hid (F4.out.below hb5)
    clear F4 hb5
    go_wp2
    go_ret
    exact ⟨by simp, F5.out.bl⟩

end Go.Proofs.Ytdfhebmecbcegaa

namespace Go.Proofs.Ytdfhebmecbcegaa
open Go.RowKit
set_option linter.unusedVariables false
set_option linter.unusedSimpArgs false

theorem filter_split (p : Int → Bool) : ∀ l : List Int, (l.filter p).length + (l.filter (fun i => !p i)).length = l.length
  | [] => rfl
  | a :: l => by
    have := filter_split p l
    by_cases h : p a = true
    · simp [List.filter_cons, h]; omega
    · simp [List.filter_cons, h]; omega

theorem up_filter {l : List Int} (h : Up l) (p : Int → Bool) : Up (l.filter p) := List.Pairwise.sublist List.filter_sublist h

/-- The numbers from one to N. -/
def upTo : Nat → List Int
  | 0 => []
  | n + 1 => upTo n ++ [((n : Int) + 1)]

theorem mem_upTo (i : Int) : ∀ n : Nat, i ∈ upTo n ↔ 1 ≤ i ∧ i ≤ n
  | 0 => by simp [upTo]; omega
  | n + 1 => by
    have := mem_upTo i n
    simp only [upTo, List.mem_append, List.mem_singleton, this]
    omega

theorem upTo_len : ∀ n : Nat, (upTo n).length = n
  | 0 => rfl
  | n + 1 => by simp [upTo, upTo_len n]

theorem upTo_up : ∀ n : Nat, Up (upTo n)
  | 0 => List.Pairwise.nil
  | n + 1 => by
    show Up (upTo n ++ [((n : Int) + 1)])
    refine List.pairwise_append.2 ⟨upTo_up n, List.pairwise_singleton _ _, fun a ha b hb => ?_⟩
    have h1 := (mem_upTo a n).1 ha
    have h2 := List.mem_singleton.1 hb
    omega

/-- Two rising lists within 1 to N share at least what they have beyond N. -/
theorem share {cs bs : List Int} {N : Nat} (ha : Up cs) (hb : Up bs) (h1 : ∀ i ∈ cs, 1 ≤ i ∧ i ≤ N) (h2 : ∀ i ∈ bs, 1 ≤ i ∧ i ≤ N) : cs.length + bs.length ≤ N + (cs.filter (fun i => decide (i ∈ bs))).length := by
  have e1 := filter_split (fun i => decide (i ∈ bs)) cs
  have e2 := filter_split (fun i => decide (i ∈ bs)) (upTo N)
  have l1 := up_len ((upTo N).filter (fun i => !decide (i ∈ bs))) (cs.filter (fun i => !decide (i ∈ bs))) (up_filter ha _) (up_filter (upTo_up N) _) (fun y hy => by
    rw [List.mem_filter] at hy ⊢
    exact ⟨(mem_upTo y N).2 (h1 y hy.1), hy.2⟩)
  have l2 := up_len ((upTo N).filter (fun i => decide (i ∈ bs))) bs hb (up_filter (upTo_up N) _) (fun y hy => by
    rw [List.mem_filter]
    exact ⟨(mem_upTo y N).2 (h2 y hy), decide_eq_true hy⟩)
  rw [upTo_len] at e2
  omega

/-- The parts of VerifyCert's answer without a code. -/
theorem vf_parts {f : Int} {zs : List ShI} {x : StI} {us : List Int} (h : vfCode f zs x us = 0) : shCode f zs = 0 ∧ stCode x = 0 ∧ Up us ∧ (∀ i ∈ us, 1 ≤ i ∧ i ≤ 3 * f + 1) := by
  obtain ⟨_, _, _, hm, _⟩ := vf_zero h
  have h1 : shCode f zs = 0 := by
    unfold vfCode at h
    by_cases q : shCode f zs = 0
    · exact q
    · rw [if_neg q] at h; exact h
  have h2 : stCode x = 0 := by
    unfold vfCode at h
    rw [if_pos h1] at h
    by_cases q : stCode x = 0
    · exact q
    · rw [if_neg q] at h; exact h
  have h3 : sfCode f us = 0 := by
    unfold vfCode at h
    rw [if_pos h1, if_pos h2] at h
    by_cases q : sfCode f us = 0
    · exact q
    · rw [if_neg q] at h; exact h
  have h5 : riseB us = true := by
    unfold sfCode at h3
    by_cases q : riseB us = true
    · exact q
    · rw [if_neg q] at h3; cases h3
  refine ⟨h1, h2, by unfold riseB at h5; exact of_decide_eq_true h5, fun i hi => ?_⟩
  have := ((sh_ok h1).2.2 _ (hm i hi)).1
  simpa [inR, shOf] using this

theorem meets_facts {f : Int} {zs : List ShI} {x : StI} {us ts : List Int} (h : vfCode f zs x us = 0) (ht : vfCode f zs x ts = 0) :
    2 * f + 1 ≤ (ts.length : Int) ∧ 1 ≤ f ∧ f ≤ 2 ∧ us.length ≤ 7 ∧ ts.length ≤ 7 ∧ vfCode f zs x (ts.drop (ts.length - (2 * f + 1).toNat)) = 0 ∧ cmCode us.length (ts.drop (ts.length - (2 * f + 1).toNat)).length = 0 ∧ f < ((cmRes us (ts.drop (ts.length - (2 * f + 1).toNat))).length : Int) := by
  obtain ⟨hf1, hf2, hl, hm, _⟩ := vf_zero h
  obtain ⟨_, _, hlt, hmt, _⟩ := vf_zero ht
  obtain ⟨h1, h2, hu, hr⟩ := vf_parts h
  obtain ⟨_, _, hut, hrt⟩ := vf_parts ht
  have hN : ((3 * f + 1).toNat : Int) = 3 * f + 1 := by omega
  have b1 : us.length ≤ (3 * f + 1).toNat := by
    have := up_len (upTo (3 * f + 1).toNat) us hu (upTo_up _) (fun y hy => (mem_upTo y _).2 (by have := hr y hy; omega))
    rwa [upTo_len] at this
  have b2 : ts.length ≤ (3 * f + 1).toNat := by
    have := up_len (upTo (3 * f + 1).toNat) ts hut (upTo_up _) (fun y hy => (mem_upTo y _).2 (by have := hrt y hy; omega))
    rwa [upTo_len] at this
  have hd : (ts.drop (ts.length - (2 * f + 1).toNat)).length = (2 * f + 1).toNat := by rw [List.length_drop]; omega
  have hc : cmCode us.length (ts.drop (ts.length - (2 * f + 1).toNat)).length = 0 := by
    unfold cmCode
    rw [if_neg (by omega)]
  have hs := share hu (up_drop hut (ts.length - (2 * f + 1).toNat)) (N := (3 * f + 1).toNat) (fun i hi => by have := hr i hi; omega) (fun i hi => by have := hrt i (List.mem_of_mem_drop hi); omega)
  refine ⟨hlt, hf1, hf2, by omega, by omega, ?_, hc, ?_⟩
  · rw [vf_of h1 h2 (up_drop hut _) (fun y hy => (mem_sgL zs x y).2 (hmt y (List.mem_of_mem_drop hy))), if_neg (by omega)]
  · unfold cmRes
    rw [if_pos hc]
    omega

end Go.Proofs.Ytdfhebmecbcegaa
