/-
  CONTRACTS: chapter 10, the program: members, values, messages' and nodes' bounds, headFault.
  Conditions: each contract bears its own.
-/
import Derived.Test.YtbebhiglnfmjcaaCq0
import Derived.Deep.CutBlock
namespace Go.Proofs.Ytbebhiglnfmjcaa
open Go.RowKit
set_option linter.unusedVariables false
set_option linter.unusedSimpArgs false
attribute [local go_sem] fldN0 fldN1

set_option maxHeartbeats 400000 in
theorem isCastValue_c (v : Int) (w : World) : Calls Try.prog 65 #[.int .i64 v] w fun e w' => e = .returned (.bool (inR v 1 3)) ∧ w = w' := by
  unfold inR
  cases h0 : decide (1 ≤ v)
  · go_enter Try.func65, Try.ntmps65
    go_wp2
    go_ret
    exact ⟨by simp, rfl⟩
  · cases h1 : decide (v ≤ 3)
    all_goals
      go_enter Try.func65, Try.ntmps65
      go_wp2
      go_ret
      exact ⟨by simp, rfl⟩

theorem isMember_c (i f : Int) (w : World) : Calls Try.prog 52 #[.int .i64 i, .agg #[.int .i64 0, .int .i64 (3 * f + 1)]] w fun e w' => e = .returned (.bool (inR i 1 (3 * f + 1))) ∧ Below w.heap.size w w' := by
  have := isReplicaId_c i 0 (3 * f + 1) w
  simpa using this

set_option maxRecDepth 20000 in
set_option maxHeartbeats 1000000 in
theorem msgInB_c (m : MsI) (f : Int) (w : World) : Calls Try.prog 73 #[.agg #[.int .i64 m.f, .int .i64 m.t, .int .i64 m.k, .int .i64 m.v], .agg #[.int .i64 0, .int .i64 (3 * f + 1)]] w fun e w' => e = .returned (.bool (msB f m)) ∧ Below w.heap.size w w' := by
  obtain ⟨n, hn⟩ : ∃ n, 3 * f + 1 = n := ⟨_, rfl⟩
  obtain ⟨t1, h1⟩ : ∃ t, inR m.f 1 n = t := ⟨_, rfl⟩
  obtain ⟨t2, h2⟩ : ∃ t, inR m.t 1 n = t := ⟨_, rfl⟩
  obtain ⟨t3, h3⟩ : ∃ t, inR m.k 1 3 = t := ⟨_, rfl⟩
  obtain ⟨t4, h4⟩ : ∃ t, inR m.v 1 3 = t := ⟨_, rfl⟩
  have HB : msB f m = (t1 && (t2 && (t3 && t4))) := by unfold msB; rw [hn, h1, h2, h3, h4]
  have H1 : Hid (∀ w : World, Calls Try.prog 52 #[.int .i64 m.f, .agg #[.int .i64 0, .int .i64 n]] w fun e w' => e = .returned (.bool t1) ∧ Below w.heap.size w w') := fun w => by rw [← hn, ← h1, ← hn]; exact isMember_c m.f f w
  have H2 : Hid (∀ w : World, Calls Try.prog 52 #[.int .i64 m.t, .agg #[.int .i64 0, .int .i64 n]] w fun e w' => e = .returned (.bool t2) ∧ Below w.heap.size w w') := fun w => by rw [← hn, ← h2, ← hn]; exact isMember_c m.t f w
  have H4 : Hid (∀ w : World, Calls Try.prog 65 #[.int .i64 m.v] w fun e w' => e = .returned (.bool t4) ∧ w = w') := fun w => by rw [← h4]; exact isCastValue_c m.v w
  have H3 : Hid (inR m.k 1 3 = t3) := h3
  rw [HB, hn]
  obtain ⟨b, hb⟩ : ∃ b, (t1 && (t2 && (t3 && t4))) = b := ⟨_, rfl⟩
  have HBB : Hid ((t1 && (t2 && (t3 && t4))) = b) := hb
  rw [hb]
  clear h1 h2 h3 h4 HB hn hb
  obtain ⟨V, hV⟩ : ∃ V, V = (w.alloc (.cells #[.int .i64 m.f, .int .i64 m.t, .int .i64 m.k, .int .i64 m.v] 51)).alloc (.cells #[.int .i64 0, .int .i64 n] 37) := ⟨_, rfl⟩
  have BV : Hid (Below w.heap.size w V) := by show Below _ _ _; rw [hV]; exact ((Below.refl _ _).alloc (Nat.le_refl _) _).alloc (by simp) _
  have XV : Hid (Hold w.heap.size (w.heap.size + 1) (BoxV w.heap.size [.int .i64 m.f, .int .i64 m.t, .int .i64 m.k, .int .i64 m.v]) V ∧ Hold (w.heap.size + 1) (w.heap.size + 2) (BoxV (w.heap.size + 1) [.int .i64 0, .int .i64 n]) V) := by
    rw [hV]
    refine ⟨(boxV_new w #[.int .i64 m.f, .int .i64 m.t, .int .i64 m.k, .int .i64 m.v] 51).alloc _, ?_⟩
    have q := boxV_new (w.alloc (.cells #[.int .i64 m.f, .int .i64 m.t, .int .i64 m.k, .int .i64 m.v] 51)) #[.int .i64 0, .int .i64 n] 37
    simp only [World.size_alloc] at q
    exact q
  have m0 := XV.out.1.out 0 _ rfl
  have m1 := XV.out.1.out 1 _ rfl
  have m2 := XV.out.1.out 2 _ rfl
  have m3 := XV.out.1.out 3 _ rfl
  have v0 := XV.out.2.out 0 _ rfl
  have v1 := XV.out.2.out 1 _ rfl
  have hVl : w.heap.size + 1 < V.heap.size := by have := XV.out.2.le; omega
  have hVm : w.heap.size < V.heap.size := by omega
  go_enter Try.func73, Try.ntmps73
  go_upto_region 1 with fail
  rw [← hV]
  clear hV
  go_wp2_with fail
  refine (H1.out _).mono ?_
  rintro e w1 ⟨rfl, hb1⟩
  have B1 := hidP (BV.out.trans (hb1.mono BV.out.size))
  have X1 := hidP (And.intro (XV.out.1.below hb1) (XV.out.2.below hb1))
  clear m0 m1 m2 m3 v0 v1 hVl hVm hb1 BV XV H1
  cases t1
  · have Hb : b = false := by rw [← HBB.out]; simp
    clear HBB
    go_wp2
    go_ret
    exact ⟨by first | (rw [Hb]; rfl) | rfl, B1.out⟩
  have m0 := X1.out.1.out 0 _ rfl
  have m1 := X1.out.1.out 1 _ rfl
  have m2 := X1.out.1.out 2 _ rfl
  have m3 := X1.out.1.out 3 _ rfl
  have v0 := X1.out.2.out 0 _ rfl
  have v1 := X1.out.2.out 1 _ rfl
  have hVl : w.heap.size + 1 < w1.heap.size := by have := X1.out.2.le; omega
  have hVm : w.heap.size < w1.heap.size := by omega
  go_wp2_with fail
  refine (H2.out _).mono ?_
  rintro e w2 ⟨rfl, hb2⟩
  have B2 := hidP (B1.out.trans (hb2.mono B1.out.size))
  have X2 := hidP (And.intro (X1.out.1.below hb2) (X1.out.2.below hb2))
  clear m0 m1 m2 m3 v0 v1 hVl hVm hb2 B1 X1 H2
  cases t2
  · have Hb : b = false := by rw [← HBB.out]; simp
    clear HBB
    go_wp2
    go_ret
    exact ⟨by first | (rw [Hb]; rfl) | rfl, B2.out⟩
  have m2 := X2.out.1.out 2 _ rfl
  have m3 := X2.out.1.out 3 _ rfl
  have hVm : w.heap.size < w2.heap.size := by have := X2.out.2.le; omega
  by_cases q3 : 1 ≤ m.k
  · by_cases q4 : m.k ≤ 3
    · have Hb : Hid (b = t4) := by
        show b = t4
        have : t3 = true := by rw [← H3.out]; exact (inR_iff _ _ _).2 ⟨q3, q4⟩
        rw [← HBB.out, this]; simp
      clear HBB H3
      go_wp2_with fail
      refine (H4.out _).mono ?_
      rintro e w3 ⟨rfl, rfl⟩
      go_wp2
      go_ret
      exact ⟨by rw [Hb.out]; cases t4 <;> rfl, B2.out⟩
    · have Hb : b = false := by
        have : t3 = false := by rw [← H3.out]; cases q : inR m.k 1 3; rfl; exact absurd ((inR_iff _ _ _).1 q).2 q4
        rw [← HBB.out, this]; simp
      clear HBB H3
      go_wp2
      go_ret
      exact ⟨by first | (rw [Hb]; rfl) | rfl, B2.out⟩
  · have Hb : b = false := by
      have : t3 = false := by rw [← H3.out]; cases q : inR m.k 1 3; rfl; exact absurd ((inR_iff _ _ _).1 q).1 q3
      rw [← HBB.out, this]; simp
    clear HBB H3
    go_wp2
    go_ret
    exact ⟨by first | (rw [Hb]; rfl) | rfl, B2.out⟩

theorem arr3_0 (a b c : Int) (w : World) : (Instr.index 133 (.agg #[.int .i64 a, .int .i64 b, .int .i64 c]) (.int .i64 0)).run Try.prog w = .ok (.int .i64 a) w := by kernel_rfl
theorem arr3_1 (a b c : Int) (w : World) : (Instr.index 133 (.agg #[.int .i64 a, .int .i64 b, .int .i64 c]) (.int .i64 1)).run Try.prog w = .ok (.int .i64 b) w := by kernel_rfl
theorem arr3_2 (a b c : Int) (w : World) : (Instr.index 133 (.agg #[.int .i64 a, .int .i64 b, .int .i64 c]) (.int .i64 2)).run Try.prog w = .ok (.int .i64 c) w := by kernel_rfl

attribute [local go_sem ↓] arr3_0 arr3_1 arr3_2

theorem inR03 (v : Int) : inR v 0 3 = (decide (v = 0) || inR v 1 3) := by
  unfold inR
  by_cases h : v = 0
  · subst h; rfl
  · rw [decide_eq_false h]
    by_cases h1 : 1 ≤ v
    · rw [decide_eq_true h1, decide_eq_true (by omega : (0 : Int) ≤ v)]; rfl
    · rw [decide_eq_false h1, decide_eq_false (by omega : ¬ (0 : Int) ≤ v)]; rfl

set_option maxRecDepth 20000 in
set_option maxHeartbeats 1000000 in
theorem nodeInB_c (g o : Nat) (x : NodeI) (w : World) (h : NdAt w g o x) : Calls Try.prog 93 #[.pointer (some ⟨g, o, none⟩)] w fun e w' => e = .returned (.bool (ndB x.p)) ∧ Below w.heap.size w w' := by
  obtain ⟨⟨c0, c1, c2, c3⟩, _⟩ := h
  have hgl : g < w.heap.size := World.block_lt_of_cell? w ⟨g, o, none⟩ c0
  obtain ⟨b, hb⟩ : ∃ b, ndB x.p = b := ⟨_, rfl⟩
  have HB : Hid (ndB x.p = b) := hb
  rw [hb]
  clear hb
  go_enter Try.func93, Try.ntmps93
  go_wp2
  go_quiet (fail)
  go_wp2_with fail
  obtain ⟨nq1, rfl⟩ : ∃ q, q = nq := ⟨_, rfl⟩
  go_loopw [18] (fun i wr => ∃ k : Nat, k ≤ 3 ∧ i = .int .i64 (k : Int) ∧ Hid ((0 < k → inR x.e 0 3 = true) ∧ (1 < k → inR x.r 0 3 = true) ∧ (2 < k → inR x.t 0 3 = true)) ∧ Below w.heap.size w wr) (fun i _ => 3 - (intOf i).toNat)
  case atStart => exact ⟨0, by omega, rfl, ⟨fun q => by omega, fun q => by omega, fun q => by omega⟩, below_drewN (Below.refl _ _) _⟩
  case round =>
    obtain ⟨k, hk, rfl, HK, hnx⟩ := hrel
    by_cases hlt : k < 3
    · have hk3 : k = 0 ∨ k = 1 ∨ k = 2 := by omega
      clear hlt hk
      rcases hk3 with rfl | rfl | rfl
      · by_cases hz : x.e = 0
        · have hne : (x.e != 0) = false := by simp [hz]
          have HN : Hid ((0 < 0 + 1 → inR x.e 0 3 = true) ∧ (1 < 0 + 1 → inR x.r 0 3 = true) ∧ (2 < 0 + 1 → inR x.t 0 3 = true)) := by
            have hf : inR x.e 0 3 = true := by rw [inR03, decide_eq_true hz]; rfl
            obtain ⟨h1, h2, h3⟩ := HK.out
            exact ⟨fun _ => hf, fun q => absurd q (by omega), fun q => absurd q (by omega)⟩
          clear hz
          go_wp2
          exact ⟨⟨1, by omega, by go_num, HN, hnx⟩, by simp [intOf]⟩
        · have hne : (x.e != 0) = true := by simp [hz]
          cases ht : inR x.e 1 3
          · have Hb : b = false := by
              have hf : inR x.e 0 3 = false := by rw [inR03, decide_eq_false hz, ht]; rfl
              rw [← HB.out]
              unfold ndB NodeI.p
              simp [hf]
            have HT : Hid (∀ w : World, Calls Try.prog 65 #[.int .i64 x.e] w fun e w' => e = .returned (.bool false) ∧ w = w') := fun w => by rw [← ht]; exact isCastValue_c x.e w
            clear ht hz HB
            go_wp2_with fail
            refine (HT.out _).mono ?_
            rintro e w1 ⟨rfl, rfl⟩
            go_wp2
            go_ret
            exact ⟨by first | (rw [Hb]; rfl) | rfl, hnx⟩
          · have HN : Hid ((0 < 0 + 1 → inR x.e 0 3 = true) ∧ (1 < 0 + 1 → inR x.r 0 3 = true) ∧ (2 < 0 + 1 → inR x.t 0 3 = true)) := by
              have hf : inR x.e 0 3 = true := by rw [inR03, ht]; simp
              obtain ⟨h1, h2, h3⟩ := HK.out
              exact ⟨fun _ => hf, fun q => absurd q (by omega), fun q => absurd q (by omega)⟩
            have HT : Hid (∀ w : World, Calls Try.prog 65 #[.int .i64 x.e] w fun e w' => e = .returned (.bool true) ∧ w = w') := fun w => by rw [← ht]; exact isCastValue_c x.e w
            clear ht hz
            go_wp2_with fail
            refine (HT.out _).mono ?_
            rintro e w1 ⟨rfl, rfl⟩
            go_wp2
            exact ⟨⟨1, by omega, by go_num, HN, hnx⟩, by simp [intOf]⟩
      · by_cases hz : x.r = 0
        · have hne : (x.r != 0) = false := by simp [hz]
          have HN : Hid ((0 < 1 + 1 → inR x.e 0 3 = true) ∧ (1 < 1 + 1 → inR x.r 0 3 = true) ∧ (2 < 1 + 1 → inR x.t 0 3 = true)) := by
            have hf : inR x.r 0 3 = true := by rw [inR03, decide_eq_true hz]; rfl
            obtain ⟨h1, h2, h3⟩ := HK.out
            exact ⟨fun _ => h1 (by omega), fun q => hf, fun q => absurd q (by omega)⟩
          clear hz
          go_wp2
          exact ⟨⟨2, by omega, by go_num, HN, hnx⟩, by simp [intOf]⟩
        · have hne : (x.r != 0) = true := by simp [hz]
          cases ht : inR x.r 1 3
          · have Hb : b = false := by
              have hf : inR x.r 0 3 = false := by rw [inR03, decide_eq_false hz, ht]; rfl
              rw [← HB.out]
              unfold ndB NodeI.p
              simp [hf]
            have HT : Hid (∀ w : World, Calls Try.prog 65 #[.int .i64 x.r] w fun e w' => e = .returned (.bool false) ∧ w = w') := fun w => by rw [← ht]; exact isCastValue_c x.r w
            clear ht hz HB
            go_wp2_with fail
            refine (HT.out _).mono ?_
            rintro e w1 ⟨rfl, rfl⟩
            go_wp2
            go_ret
            exact ⟨by first | (rw [Hb]; rfl) | rfl, hnx⟩
          · have HN : Hid ((0 < 1 + 1 → inR x.e 0 3 = true) ∧ (1 < 1 + 1 → inR x.r 0 3 = true) ∧ (2 < 1 + 1 → inR x.t 0 3 = true)) := by
              have hf : inR x.r 0 3 = true := by rw [inR03, ht]; simp
              obtain ⟨h1, h2, h3⟩ := HK.out
              exact ⟨fun _ => h1 (by omega), fun q => hf, fun q => absurd q (by omega)⟩
            have HT : Hid (∀ w : World, Calls Try.prog 65 #[.int .i64 x.r] w fun e w' => e = .returned (.bool true) ∧ w = w') := fun w => by rw [← ht]; exact isCastValue_c x.r w
            clear ht hz
            go_wp2_with fail
            refine (HT.out _).mono ?_
            rintro e w1 ⟨rfl, rfl⟩
            go_wp2
            exact ⟨⟨2, by omega, by go_num, HN, hnx⟩, by simp [intOf]⟩
      · by_cases hz : x.t = 0
        · have hne : (x.t != 0) = false := by simp [hz]
          have HN : Hid ((0 < 2 + 1 → inR x.e 0 3 = true) ∧ (1 < 2 + 1 → inR x.r 0 3 = true) ∧ (2 < 2 + 1 → inR x.t 0 3 = true)) := by
            have hf : inR x.t 0 3 = true := by rw [inR03, decide_eq_true hz]; rfl
            obtain ⟨h1, h2, h3⟩ := HK.out
            exact ⟨fun _ => h1 (by omega), fun q => h2 (by omega), fun q => hf⟩
          clear hz
          go_wp2
          exact ⟨⟨3, by omega, by go_num, HN, hnx⟩, by simp [intOf]⟩
        · have hne : (x.t != 0) = true := by simp [hz]
          cases ht : inR x.t 1 3
          · have Hb : b = false := by
              have hf : inR x.t 0 3 = false := by rw [inR03, decide_eq_false hz, ht]; rfl
              rw [← HB.out]
              unfold ndB NodeI.p
              simp [hf]
            have HT : Hid (∀ w : World, Calls Try.prog 65 #[.int .i64 x.t] w fun e w' => e = .returned (.bool false) ∧ w = w') := fun w => by rw [← ht]; exact isCastValue_c x.t w
            clear ht hz HB
            go_wp2_with fail
            refine (HT.out _).mono ?_
            rintro e w1 ⟨rfl, rfl⟩
            go_wp2
            go_ret
            exact ⟨by first | (rw [Hb]; rfl) | rfl, hnx⟩
          · have HN : Hid ((0 < 2 + 1 → inR x.e 0 3 = true) ∧ (1 < 2 + 1 → inR x.r 0 3 = true) ∧ (2 < 2 + 1 → inR x.t 0 3 = true)) := by
              have hf : inR x.t 0 3 = true := by rw [inR03, ht]; simp
              obtain ⟨h1, h2, h3⟩ := HK.out
              exact ⟨fun _ => h1 (by omega), fun q => h2 (by omega), fun q => hf⟩
            have HT : Hid (∀ w : World, Calls Try.prog 65 #[.int .i64 x.t] w fun e w' => e = .returned (.bool true) ∧ w = w') := fun w => by rw [← ht]; exact isCastValue_c x.t w
            clear ht hz
            go_wp2_with fail
            refine (HT.out _).mono ?_
            rintro e w1 ⟨rfl, rfl⟩
            go_wp2
            exact ⟨⟨3, by omega, by go_num, HN, hnx⟩, by simp [intOf]⟩
    · have hk3 : k = 3 := by omega
      subst hk3
      have Hb : b = true := by
        obtain ⟨h1, h2, h3⟩ := HK.out
        rw [← HB.out]
        unfold ndB NodeI.p
        simp only [h1 (by omega), h2 (by omega), h3 (by omega)]
        rfl
      clear hlt hk HB HK
      go_wp2
      go_ret
      exact ⟨by first | (rw [Hb]; rfl) | rfl, hnx⟩

/-! numbers found -/

set_option maxRecDepth 20000 in
set_option maxHeartbeats 1000000 in
theorem slIndexI_c (a : Option Addr) (n cap : Nat) (us : List Int) (y : Int) (w : World) (hn : n ≤ 1048576) (h : IntIn w a n us) :
    Calls Try.prog 108 #[.slice a n cap, .int .i64 y] w fun e w' => (∃ i : Int, e = .returned (.int .i64 i) ∧ ((0 ≤ i ∧ y ∈ us) ∨ (i = -1 ∧ ¬ y ∈ us))) ∧ w = w' := by
  have H : Hid (IntIn w a n us) := h
  have HZ : Hid (us.length = n) := h.1
  have hn' : (n : Int) ≤ 1048576 := by omega
  clear h
  go_enter Try.func108, Try.ntmps108
  go_wp2
  go_loop [8] (fun i => ∃ k : Nat, k ≤ n ∧ i = .int .i64 (k : Int) ∧ ¬ y ∈ us.take k) (fun i => n - (intOf i).toNat)
  case atStart => exact ⟨0, Nat.zero_le _, rfl, by simp⟩
  case round =>
    obtain ⟨k, hk, rfl, hm⟩ := hrel
    have HM : Hid (¬ y ∈ us.take k) := hm
    clear hm
    by_cases hlt : k < n
    · obtain ⟨b, off, p, rfl, hp, hpa, hbl⟩ := H.out.at hlt
      have hlt' : (k : Int) < (n : Int) := by omega
      by_cases e : p = y
      · have eb : (y == p) = true := by simp [e]
        have HI : Hid (y ∈ us) := by rw [← e]; exact List.mem_of_getElem? hp
        clear hp e
        go_wp2
        go_ret
        exact ⟨⟨_, rfl, .inl ⟨by omega, HI.out⟩⟩, rfl⟩
      · have eb : (y == p) = false := by simp [Ne.symm e]
        have HN : Hid (¬ y ∈ us.take (k + 1)) := no_nextI HM.out hp e
        clear hp e
        go_wp2
        exact ⟨⟨k + 1, by omega, by go_num, HN.out⟩, by simp [intOf]; omega⟩
    · have hkn : k = n := by omega
      subst hkn
      have HN : Hid (¬ y ∈ us) := by
        have := HM.out
        rw [List.take_of_length_le (by rw [HZ.out]; exact Nat.le_refl _)] at this
        exact this
      go_wp2
      go_ret
      exact ⟨⟨_, rfl, .inr ⟨rfl, HN.out⟩⟩, rfl⟩

set_option maxHeartbeats 400000 in
theorem slContainsI_c (a : Option Addr) (n cap : Nat) (us : List Int) (y : Int) (w : World) (hn : n ≤ 1048576) (h : IntIn w a n us) :
    Calls Try.prog 88 #[.slice a n cap, .int .i64 y] w fun e w' => e = .returned (.bool (decide (y ∈ us))) ∧ w = w' := by
  have HC : Hid (Calls Try.prog 108 #[.slice a n cap, .int .i64 y] w fun e w' => (∃ i : Int, e = .returned (.int .i64 i) ∧ ((0 ≤ i ∧ y ∈ us) ∨ (i = -1 ∧ ¬ y ∈ us))) ∧ w = w') := slIndexI_c a n cap us y w hn h
  clear h
  go_enter Try.func88, Try.ntmps88
  go_wp2_with fail
  refine HC.out.mono ?_
  rintro e w1 ⟨⟨i, rfl, hi⟩, rfl⟩
  have HX : Hid (decide (0 ≤ i) = decide (y ∈ us)) := by
    show _ = _
    rcases hi with ⟨h1, h2⟩ | ⟨rfl, h2⟩
    · simp [h1, h2]
    · simp [h2]
  clear hi
  go_wp2
  go_ret
  exact ⟨by rw [HX.out]; rfl, rfl⟩

set_option maxRecDepth 20000 in
set_option maxHeartbeats 400000 in
theorem noMember_c (bm : Nat) (i f : Int) (w : World) (h : BoxV bm [.int .i64 0, .int .i64 (3 * f + 1)] w) : Calls Try.prog 89 #[.int .i64 i, .pointer (some ⟨bm, 0, none⟩)] w fun e w' => e = .returned (.bool (!inR i 1 (3 * f + 1))) ∧ Below w.heap.size w w' := by
  have h0 := h 0 _ rfl
  have h1 := h 1 _ rfl
  have hbl : bm < w.heap.size := World.block_lt_of_cell? w ⟨bm, 0, none⟩ h0
  have HM : Hid (∀ w : World, Calls Try.prog 52 #[.int .i64 i, .agg #[.int .i64 0, .int .i64 (3 * f + 1)]] w fun e w' => e = .returned (.bool (inR i 1 (3 * f + 1))) ∧ Below w.heap.size w w') := fun w => isMember_c i f w
  obtain ⟨n, hn⟩ : ∃ n, 3 * f + 1 = n := ⟨_, rfl⟩
  rw [hn] at h1 HM ⊢
  obtain ⟨t, ht⟩ : ∃ t, inR i 1 n = t := ⟨_, rfl⟩
  rw [ht] at HM ⊢
  clear hn ht h
  go_enter Try.func89, Try.ntmps89
  go_wp2_with fail
  refine (HM.out _).mono ?_
  rintro e w1 ⟨rfl, hb1⟩
  go_wp2
  go_ret
  exact ⟨rfl, hb1⟩

set_option maxRecDepth 20000 in
set_option maxHeartbeats 1000000 in
theorem noIndex_c (bm : Nat) (a : Option Addr) (n cap : Nat) (us : List Int) (f : Int) (w : World) (hn : n ≤ 1048576) (h : IntIn w a n us) (hm : BoxV bm [.int .i64 0, .int .i64 (3 * f + 1)] w) :
    Calls Try.prog 109 #[.slice a n cap, .func (.func 89) #[] #[.pointer (some ⟨bm, 0, none⟩)]] w fun e w' => (∃ i : Int, e = .returned (.int .i64 i) ∧ decide (0 ≤ i) = !rngAll f us) ∧ Below w.heap.size w w' := by
  have HZ : Hid (us.length = n) := h.1
  have H : Hid (IntIn w a n us) := h
  have hbl : bm < w.heap.size := World.block_lt_of_cell? w ⟨bm, 0, none⟩ (hm 0 _ rfl)
  have HC : Hid (∀ (x : Int) (w2 : World), Below w.heap.size w w2 → Calls Try.prog 89 #[.int .i64 x, .pointer (some ⟨bm, 0, none⟩)] w2 fun d w' => d = .returned (.bool (!inR x 1 (3 * f + 1))) ∧ Below w2.heap.size w2 w') := fun x w2 hb => noMember_c bm x f w2 ((BoxV.hold hm hbl).below hb).out
  clear h hm hbl
  have hn' : (n : Int) ≤ 1048576 := by omega
  go_enter Try.func109, Try.ntmps109
  go_wp2_with fail
  go_loopw [8] (fun i wr => ∃ j : Nat, j ≤ n ∧ i = .int .i64 (j : Int) ∧ Hid (∀ k x, k < j → us[k]? = some x → inR x 1 (3 * f + 1) = true) ∧ Below w.heap.size w wr) (fun i _ => n - (intOf i).toNat)
  case atStart => exact ⟨0, Nat.zero_le _, rfl, fun k x h => by omega, Below.refl _ _⟩
  case round =>
    obtain ⟨j, hj, rfl, HP, hnx⟩ := hrel
    by_cases hlt : j < n
    · obtain ⟨g, off, x, rfl, hs, hxa, hgl⟩ := H.out.at hlt
      have HS : Hid (us[j]? = some x) := hs
      have x0 := (hnx.cell (p := ⟨g, off + j, none⟩) hgl).trans hxa
      have hbw : g < wr.heap.size := Nat.lt_of_lt_of_le hgl hnx.size
      have hlt' : (j : Int) < (n : Int) := by omega
      clear hs hxa
      cases q : inR x 1 (3 * f + 1)
      · have HI : Hid (decide ((0 : Int) ≤ (j : Int)) = !rngAll f us) := by
          show _ = _
          have : rngAll f us = false := by
            cases z : rngAll f us
            · rfl
            · unfold rngAll at z
              have := List.all_eq_true.1 z x (List.mem_of_getElem? HS.out)
              rw [q] at this
              cases this
          rw [this]; simp
        have HQ : Hid (∀ w2 : World, Below w.heap.size w w2 → Calls Try.prog 89 #[.int .i64 x, .pointer (some ⟨bm, 0, none⟩)] w2 fun d w' => d = .returned (.bool true) ∧ Below w2.heap.size w2 w') := fun w2 hb => by have := HC.out x w2 hb; rw [q] at this; exact this
        clear q
        go_wp2_with fail
        refine (HQ.out _ hnx).mono ?_
        rintro d w1 ⟨rfl, hb1⟩
        go_wp2
        go_ret
        exact ⟨⟨_, rfl, HI.out⟩, hnx.trans (hb1.mono hnx.size)⟩
      · have HN : Hid (∀ k x, k < j + 1 → us[k]? = some x → inR x 1 (3 * f + 1) = true) := fun k y hk hy => by
          by_cases e : k = j
          · subst e; rw [HS.out] at hy; cases hy; exact q
          · exact HP.out k y (by omega) hy
        have HQ : Hid (∀ w2 : World, Below w.heap.size w w2 → Calls Try.prog 89 #[.int .i64 x, .pointer (some ⟨bm, 0, none⟩)] w2 fun d w' => d = .returned (.bool false) ∧ Below w2.heap.size w2 w') := fun w2 hb => by have := HC.out x w2 hb; rw [q] at this; exact this
        clear q
        go_wp2_with fail
        refine (HQ.out _ hnx).mono ?_
        rintro d w1 ⟨rfl, hb1⟩
        go_wp2
        exact ⟨⟨j + 1, by omega, by go_num, HN, hnx.trans (hb1.mono hnx.size)⟩, by simp [intOf]; omega⟩
    · have hkn : j = n := by omega
      subst hkn
      have HI : Hid (decide ((0 : Int) ≤ -1) = !rngAll f us) := by
        show _ = _
        have : rngAll f us = true := by
          unfold rngAll
          refine List.all_eq_true.2 (fun y hy => ?_)
          obtain ⟨k, hk, e⟩ := List.mem_iff_getElem.1 hy
          exact HP.out k y (by have := HZ.out; omega) (by rw [List.getElem?_eq_getElem hk, e])
        rw [this]; simp
      go_wp2
      go_ret
      exact ⟨⟨_, rfl, HI.out⟩, hnx⟩

set_option maxRecDepth 20000 in
set_option maxHeartbeats 400000 in
theorem noMembers_c (bm : Nat) (a : Option Addr) (n cap : Nat) (us : List Int) (f : Int) (w : World) (hn : n ≤ 1048576) (h : IntIn w a n us) (hm : BoxV bm [.int .i64 0, .int .i64 (3 * f + 1)] w) :
    Calls Try.prog 90 #[.slice a n cap, .func (.func 89) #[] #[.pointer (some ⟨bm, 0, none⟩)]] w fun e w' => e = .returned (.bool (!rngAll f us)) ∧ Below w.heap.size w w' := by
  have HC : Hid (Calls Try.prog 109 #[.slice a n cap, .func (.func 89) #[] #[.pointer (some ⟨bm, 0, none⟩)]] w fun e w' => (∃ i : Int, e = .returned (.int .i64 i) ∧ decide (0 ≤ i) = !rngAll f us) ∧ Below w.heap.size w w') := noIndex_c bm a n cap us f w hn h hm
  clear h hm
  go_enter Try.func90, Try.ntmps90
  go_wp2_with fail
  refine HC.out.mono ?_
  rintro e w1 ⟨⟨i, rfl, hi⟩, hb1⟩
  have HX : Hid (decide (0 ≤ i) = !rngAll f us) := hi
  clear hi
  go_wp2
  go_ret
  exact ⟨by rw [← HX.out]; rfl, hb1⟩

end Go.Proofs.Ytbebhiglnfmjcaa
