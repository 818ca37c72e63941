/-
  CONTRACTS: chapter 10: isBad of the program, AgreeRight of both programs.
  Conditions: each contract bears its own.
-/
import Derived.Test.YtbebhiglnfmjcaaCu2
namespace Go.Proofs.Ytbebhiglnfmjcaa
open Go.RowKit
set_option linter.unusedVariables false
set_option linter.unusedSimpArgs false

/-- The value that the first k who are not bad told (0: none yet); none: two of them differ. -/
def agTo (bs : List Int) (ns : List NdP) : Nat → Option Int
  | 0 => some 0
  | k + 1 => match agTo bs ns k with
    | none => none
    | some t => match ns[k]? with
      | none => some t
      | some x => if x.t = 0 ∨ ((k : Int) + 1) ∈ bs then some t else if t ≠ 0 ∧ x.t ≠ t then none else some x.t

def agB (c : CaP) : Bool := if caCode c = 0 then (agTo c.bs c.ns c.ns.length).isSome else false

theorem ag_stuck {bs : List Int} {ns : List NdP} {k m : Nat} (h : agTo bs ns k = none) (hm : k ≤ m) : agTo bs ns m = none := by
  induction m with
  | zero => obtain rfl : k = 0 := by omega
            exact h
  | succ m ih =>
    by_cases e : k = m + 1
    · subst e; exact h
    · simp [agTo, ih (by omega)]

theorem ag_skip {bs : List Int} {ns : List NdP} {k : Nat} {t : Int} {x : NdP} (h : agTo bs ns k = some t) (hx : ns[k]? = some x) (q : x.t = 0 ∨ ((k : Int) + 1) ∈ bs) : agTo bs ns (k + 1) = some t := by
  simp [agTo, h, hx, if_pos q]

theorem ag_bad {bs : List Int} {ns : List NdP} {k : Nat} {t : Int} {x : NdP} (h : agTo bs ns k = some t) (hx : ns[k]? = some x) (q : ¬ (x.t = 0 ∨ ((k : Int) + 1) ∈ bs)) (q2 : t ≠ 0 ∧ x.t ≠ t) : agTo bs ns (k + 1) = none := by
  simp only [agTo, h, hx]
  rw [if_neg q, if_pos q2]

theorem ag_take {bs : List Int} {ns : List NdP} {k : Nat} {t : Int} {x : NdP} (h : agTo bs ns k = some t) (hx : ns[k]? = some x) (q : ¬ (x.t = 0 ∨ ((k : Int) + 1) ∈ bs)) (q2 : ¬ (t ≠ 0 ∧ x.t ≠ t)) : agTo bs ns (k + 1) = some x.t := by
  simp only [agTo, h, hx]
  rw [if_neg q, if_neg q2]

theorem nds_p {ns : List NodeI} {k : Nat} {x : NodeI} (h : ns[k]? = some x) : (ndsP ns)[k]? = some x.p := by
  unfold ndsP
  rw [List.getElem?_map, h]
  rfl

set_option maxHeartbeats 400000 in
theorem isBad_c (g : Nat) (c : CastI) (i : Int) (w : World) (hb : BoxV g [.int .i64 c.f, .int .i64 c.s, .slice c.ba c.bn c.bc, .slice c.na c.nn c.nc, .slice c.ma c.mn c.mc] w) (h : IntIn w c.ba c.bn c.bs) (hn : c.bn ≤ 1048576) :
    Calls Try.prog 44 #[.pointer (some ⟨g, 0, none⟩), .int .i64 i] w fun e w' => e = .returned (.bool (decide (i ∈ c.bs))) ∧ w = w' := by
  have v2 := hb 2 _ rfl
  have hgl : g < w.heap.size := World.block_lt_of_cell? w ⟨g, 2, none⟩ v2
  have HC : Hid (Calls Try.prog 88 #[.slice c.ba c.bn c.bc, .int .i64 i] w fun e w' => e = .returned (.bool (decide (i ∈ c.bs))) ∧ w = w') := slContainsI_c c.ba c.bn c.bc c.bs i w hn h
  clear hb h
  go_enter Try.func44, Try.ntmps44
  go_wp2_with fail
  refine HC.out.mono ?_
  rintro e w1 ⟨rfl, rfl⟩
  go_wp2
  go_ret
  exact ⟨rfl, rfl⟩

set_option maxRecDepth 20000 in
set_option maxHeartbeats 2000000 in
theorem implAgree_c (c : CastI) (w : World) (h : CastIn w c) (hle : CastLe 1048576 c) (hcap : CastCap c) :
    Calls Try.prog 15 #[.agg #[.int .i64 c.f, .int .i64 c.s, .slice c.ba c.bn c.bc, .slice c.na c.nn c.nc, .slice c.ma c.mn c.mc]] w fun e w' => e = .returned (.bool (agB c.p)) ∧ Below w.heap.size w w' := by
  obtain ⟨V, hV⟩ : ∃ V, V = w.alloc (.cells #[.int .i64 c.f, .int .i64 c.s, .slice c.ba c.bn c.bc, .slice c.na c.nn c.nc, .slice c.ma c.mn c.mc] 28) := ⟨_, rfl⟩
  have BV : Hid (Below w.heap.size w V) := by rw [hV]; exact (Below.refl _ _).alloc (Nat.le_refl _) _
  have XV : Hid (Hold w.heap.size (w.heap.size + 1) (BoxV w.heap.size [.int .i64 c.f, .int .i64 c.s, .slice c.ba c.bn c.bc, .slice c.na c.nn c.nc, .slice c.ma c.mn c.mc]) V) := by rw [hV]; exact boxV_new w #[.int .i64 c.f, .int .i64 c.s, .slice c.ba c.bn c.bc, .slice c.na c.nn c.nc, .slice c.ma c.mn c.mc] 28
  have HI := hidP h
  have HN : Hid ((ndsP c.ns).length = c.nn) := by show _ = _; rw [← h.nodes.1]; simp [ndsP]
  have hni : (c.nn : Int) ≤ 1048576 := by have := hle.nodes; omega
  obtain ⟨d, hd⟩ : ∃ d, caCode c.p = d := ⟨_, rfl⟩
  have HCF : Hid (Calls Try.prog 16 #[.agg #[.int .i64 c.f, .int .i64 c.s, .slice c.ba c.bn c.bc, .slice c.na c.nn c.nc, .slice c.ma c.mn c.mc]] V fun e w' => e = .returned (.int .i64 d) ∧ Below V.heap.size V w') := by rw [← hd]; exact implCastFault_c c V (h.below BV.out) hle hcap
  have HIB : Hid (∀ (i : Int) (W : World), Below V.heap.size V W → Calls Try.prog 44 #[.pointer (some ⟨w.heap.size, 0, none⟩), .int .i64 i] W fun e w' => e = .returned (.bool (decide (i ∈ c.bs))) ∧ W = w') := fun i W hW => isBad_c _ c i W (XV.out.below hW).out (HI.out.below (BV.out.trans (hW.mono BV.out.size))).bad hle.bad
  obtain ⟨K, hK⟩ : ∃ K, agB c.p = K := ⟨_, rfl⟩
  have HK : Hid ((if d = 0 then (agTo c.bs (ndsP c.ns) c.nn).isSome else false) = K) := by
    show _ = K
    rw [← hK, ← HN.out]
    unfold agB
    rw [hd]
    rfl
  rw [hK]
  clear hK h hle hcap hd
  go_enter Try.func15, Try.ntmps15
  go_upto_region 1 with fail
  rw [← hV]
  clear hV
  generalize w.heap.size = g at XV HIB ⊢
  have v0 := XV.out.out 0 _ rfl
  have v1 := XV.out.out 1 _ rfl
  have v2 := XV.out.out 2 _ rfl
  have v3 := XV.out.out 3 _ rfl
  have v4 := XV.out.out 4 _ rfl
  have hvl : g < V.heap.size := XV.out.le
  go_wp2_with fail
  refine HCF.out.mono ?_
  rintro e w1 ⟨rfl, hb1⟩
  have B1 := hidP hb1
  clear hb1 HCF v0 v1 v2 v3 v4 hvl
  by_cases q1 : d = 0
  · subst q1
    have HK2 : Hid ((agTo c.bs (ndsP c.ns) c.nn).isSome = K) := HK.out
    have v3 := (XV.out.below B1.out).out 3 _ rfl
    have hgl : g < w1.heap.size := (XV.out.below B1.out).le
    clear HK
    go_wp2_with fail
    clear v3 hgl
    go_loopw [3, 12] (fun s i wr => ∃ (k : Nat) (t : Int), k ≤ c.nn ∧ i = .int .i64 (k : Int) ∧ s = .int .i64 t ∧ Hid (agTo c.bs (ndsP c.ns) k = some t) ∧ Below V.heap.size V wr) (fun _ i _ => c.nn - (intOf i).toNat)
    case atStart => exact ⟨0, 0, Nat.zero_le _, rfl, rfl, rfl, B1.out⟩
    case round =>
      obtain ⟨k, t, hk, rfl, rfl, HT, hnx⟩ := hrel
      by_cases hlt : k < c.nn
      · have hlt' : (k : Int) < (c.nn : Int) := by omega
        obtain ⟨b, off, x, ea, hx, hat⟩ := (HI.out.below (BV.out.trans (hnx.mono BV.out.size))).nodes.at hlt
        rw [ea]
        have HX : Hid ((ndsP c.ns)[k]? = some x.p) := nds_p hx
        obtain ⟨⟨x0, x1, x2, x3⟩, _⟩ := hat
        have hbl : b < wr.heap.size := World.block_lt_of_cell? wr ⟨b, off + k * 4, none⟩ x0
        have hwk : IntKind.i64.wrap ((k : Int) + 1) = (k : Int) + 1 := by rw [IntKind.wrap_i64]; omega
        obtain ⟨Y, hY⟩ : ∃ Y, Y = wr.alloc (.cells #[.int .i64 x.e, .int .i64 x.r, .int .i64 x.t, .slice x.a x.n x.cap] 45) := ⟨_, rfl⟩
        have AY : Below wr.heap.size wr Y := by rw [hY]; exact (Below.refl _ _).alloc (Nat.le_refl _) _
        have BY := hidP (hnx.trans (AY.mono hnx.size))
        have XY : Hid (Hold wr.heap.size (wr.heap.size + 1) (BoxV wr.heap.size [.int .i64 x.e, .int .i64 x.r, .int .i64 x.t, .slice x.a x.n x.cap]) Y) := by rw [hY]; exact boxV_new wr #[.int .i64 x.e, .int .i64 x.r, .int .i64 x.t, .slice x.a x.n x.cap] 45
        clear AY hx
        go_upto_region 7 with fail
        rw [← hY]
        clear hY x0 x1 x2 x3 hbl
        generalize wr.heap.size = by' at XY ⊢
        have m2 := XY.out.out 2 _ rfl
        have hyl : by' < Y.heap.size := XY.out.le
        by_cases ht0 : x.t = 0
        · have q0 : (x.t == 0) = true := by simp [ht0]
          have HN2 : Hid (agTo c.bs (ndsP c.ns) (k + 1) = some t) := ag_skip HT.out HX.out (.inl ht0)
          clear ht0 HX
          go_wp2_with fail
          exact ⟨⟨k + 1, t, by omega, by go_num, rfl, HN2, BY.out⟩, by simp [intOf]; omega⟩
        · have q0 : (x.t == 0) = false := by simp [ht0]
          obtain ⟨u, hu⟩ : ∃ u, decide (((k : Int) + 1) ∈ c.bs) = u := ⟨_, rfl⟩
          have HU : Hid (decide (((k : Int) + 1) ∈ c.bs) = u ∧ x.t ≠ 0) := ⟨hu, ht0⟩
          have HQ : Hid (Calls Try.prog 44 #[.pointer (some ⟨g, 0, none⟩), .int .i64 ((k : Int) + 1)] Y fun e w' => e = .returned (.bool u) ∧ Y = w') := by rw [← hu]; exact HIB.out _ Y BY.out
          clear hu ht0
          go_wp2_with fail
          refine HQ.out.mono ?_
          rintro e w3 ⟨rfl, rfl⟩
          clear HQ
          cases u
          · have hns : ¬ (x.p.t = 0 ∨ ((k : Int) + 1) ∈ c.bs) := fun q => q.elim HU.out.2 (of_decide_eq_false HU.out.1)
            by_cases t0 : t = 0
            · have t0' : (t != 0) = false := by simp [t0]
              have HN2 : Hid (agTo c.bs (ndsP c.ns) (k + 1) = some x.t) := ag_take HT.out HX.out hns (fun q => q.1 t0)
              clear t0 HX hns HT
              go_wp2_with fail
              exact ⟨⟨k + 1, x.t, by omega, by go_num, rfl, HN2, BY.out⟩, by simp [intOf]; omega⟩
            · have t0' : (t != 0) = true := by simp [t0]
              by_cases te : x.t = t
              · have te' : (x.t != t) = false := by simp [te]
                have HN2 : Hid (agTo c.bs (ndsP c.ns) (k + 1) = some x.t) := ag_take HT.out HX.out hns (fun q => q.2 te)
                clear t0 HX hns HT te
                go_wp2_with fail
                exact ⟨⟨k + 1, x.t, by omega, by go_num, rfl, HN2, BY.out⟩, by simp [intOf]; omega⟩
              · have te' : (x.t != t) = true := by simp [te]
                have HE : Hid (K = false) := by
                  show K = false
                  rw [← HK2.out, ag_stuck (ag_bad HT.out HX.out hns ⟨t0, te⟩) hlt]; rfl
                clear t0 HX hns HT te HK2
                go_wp2_with fail
                go_ret
                exact ⟨by rw [HE.out]; rfl, BV.out.trans (BY.out.mono BV.out.size)⟩
          · have HN2 : Hid (agTo c.bs (ndsP c.ns) (k + 1) = some t) := ag_skip HT.out HX.out (.inr (of_decide_eq_true HU.out.1))
            clear HX
            go_wp2_with fail
            exact ⟨⟨k + 1, t, by omega, by go_num, rfl, HN2, BY.out⟩, by simp [intOf]; omega⟩
      · have hkn : k = c.nn := by omega
        have hlt' : ¬ ((k : Int) < (c.nn : Int)) := by omega
        have HE : Hid (K = true) := by
          show K = true
          rw [← HK2.out, ← hkn, HT.out]; rfl
        clear hkn HK2 HT
        go_wp2_with fail
        go_ret
        exact ⟨by rw [HE.out]; rfl, BV.out.trans (hnx.mono BV.out.size)⟩
  · have hdb : (d != 0) = true := by simp [q1]
    have HE : Hid (K = false) := by
      show K = false
      rw [← HK.out, if_neg q1]
    clear HK q1
    go_wp2_with fail
    go_ret
    exact ⟨by rw [HE.out]; rfl, BV.out.trans (B1.out.mono BV.out.size)⟩

set_option maxRecDepth 20000 in
set_option maxHeartbeats 2000000 in
theorem specAgree_c (c : CastI) (w : World) (h : CastIn w c) (hle : CastLe 1048576 c) (hcap : CastCap c) :
    Calls Try.prog 40 #[.agg #[.int .i64 c.f, .int .i64 c.s, .slice c.ba c.bn c.bc, .slice c.na c.nn c.nc, .slice c.ma c.mn c.mc]] w fun e w' => e = .returned (.bool (agB c.p)) ∧ Below w.heap.size w w' := by
  obtain ⟨V, hV⟩ : ∃ V, V = w.alloc (.cells #[.int .i64 c.f, .int .i64 c.s, .slice c.ba c.bn c.bc, .slice c.na c.nn c.nc, .slice c.ma c.mn c.mc] 28) := ⟨_, rfl⟩
  have BV : Hid (Below w.heap.size w V) := by rw [hV]; exact (Below.refl _ _).alloc (Nat.le_refl _) _
  have XV : Hid (Hold w.heap.size (w.heap.size + 1) (BoxV w.heap.size [.int .i64 c.f, .int .i64 c.s, .slice c.ba c.bn c.bc, .slice c.na c.nn c.nc, .slice c.ma c.mn c.mc]) V) := by rw [hV]; exact boxV_new w #[.int .i64 c.f, .int .i64 c.s, .slice c.ba c.bn c.bc, .slice c.na c.nn c.nc, .slice c.ma c.mn c.mc] 28
  have HI := hidP h
  have HN : Hid ((ndsP c.ns).length = c.nn) := by show _ = _; rw [← h.nodes.1]; simp [ndsP]
  have hni : (c.nn : Int) ≤ 1048576 := by have := hle.nodes; omega
  obtain ⟨d, hd⟩ : ∃ d, caCode c.p = d := ⟨_, rfl⟩
  have HCF : Hid (Calls Try.prog 48 #[.pointer (some ⟨w.heap.size, 0, none⟩)] V fun e w' => e = .returned (.int .i64 d) ∧ Below V.heap.size V w') := by rw [← hd]; exact l10Fault_c _ c V XV.out.out (h.below BV.out) hle hcap
  have HIB : Hid (∀ (i : Int) (W : World), Below V.heap.size V W → Calls Try.prog 71 #[.slice c.ba c.bn c.bc, .int .i64 i] W fun e w' => e = .returned (.bool (decide (i ∈ c.bs))) ∧ W = w') := fun i W hW => l9Among_c c.ba c.bn c.bc c.bs i W hle.bad (HI.out.below (BV.out.trans (hW.mono BV.out.size))).bad
  obtain ⟨K, hK⟩ : ∃ K, agB c.p = K := ⟨_, rfl⟩
  have HK : Hid ((if d = 0 then (agTo c.bs (ndsP c.ns) c.nn).isSome else false) = K) := by
    show _ = K
    rw [← hK, ← HN.out]
    unfold agB
    rw [hd]
    rfl
  rw [hK]
  clear hK h hle hcap hd
  go_enter Try.func40, Try.ntmps40
  go_upto_region 1 with fail
  rw [← hV]
  clear hV
  generalize w.heap.size = g at XV HCF ⊢
  go_wp2_with fail
  refine HCF.out.mono ?_
  rintro e w1 ⟨rfl, hb1⟩
  have B1 := hidP hb1
  clear hb1 HCF
  by_cases q1 : d = 0
  · subst q1
    have HK2 : Hid ((agTo c.bs (ndsP c.ns) c.nn).isSome = K) := HK.out
    clear HK
    go_wp2_with fail
    go_loopw [3, 4] (fun s i wr => ∃ (k : Nat) (t : Int), k ≤ c.nn ∧ i = .int .i64 (k : Int) ∧ s = .int .i64 t ∧ Hid (agTo c.bs (ndsP c.ns) k = some t) ∧ Below V.heap.size V wr) (fun _ i _ => c.nn - (intOf i).toNat)
    case atStart => exact ⟨0, 0, Nat.zero_le _, rfl, rfl, rfl, B1.out⟩
    case round =>
      obtain ⟨k, t, hk, rfl, rfl, HT, hnx⟩ := hrel
      have v2 := (XV.out.below hnx).out 2 _ rfl
      have v3 := (XV.out.below hnx).out 3 _ rfl
      have hgl : g < wr.heap.size := (XV.out.below hnx).le
      by_cases hlt : k < c.nn
      · have hlt' : (k : Int) < (c.nn : Int) := by omega
        obtain ⟨b, off, x, ea, hx, hat⟩ := (HI.out.below (BV.out.trans (hnx.mono BV.out.size))).nodes.at hlt
        rw [ea] at v3
        have HX : Hid ((ndsP c.ns)[k]? = some x.p) := nds_p hx
        have x2 := hat.1.2.2.1
        have hbl : b < wr.heap.size := hat.lt
        have hwk : IntKind.i64.wrap ((k : Int) + 1) = (k : Int) + 1 := by rw [IntKind.wrap_i64]; omega
        obtain ⟨u, hu⟩ : ∃ u, decide (((k : Int) + 1) ∈ c.bs) = u := ⟨_, rfl⟩
        have HU : Hid (decide (((k : Int) + 1) ∈ c.bs) = u) := hu
        have HQ : Hid (Calls Try.prog 71 #[.slice c.ba c.bn c.bc, .int .i64 ((k : Int) + 1)] wr fun e w' => e = .returned (.bool u) ∧ wr = w') := by rw [← hu]; exact HIB.out _ wr hnx
        clear hu hx hat ea
        go_wp2_with fail
        refine HQ.out.mono ?_
        rintro e w3 ⟨rfl, rfl⟩
        clear HQ
        cases u
        · have hnb := of_decide_eq_false HU.out
          by_cases ht0 : x.t = 0
          · have q0 : (x.t == 0) = true := by simp [ht0]
            have HN2 : Hid (agTo c.bs (ndsP c.ns) (k + 1) = some t) := ag_skip HT.out HX.out (.inl ht0)
            clear ht0 HX hnb
            go_wp2_with fail
            exact ⟨⟨k + 1, t, by omega, by go_num, rfl, HN2, hnx⟩, by simp [intOf]; omega⟩
          · have q0 : (x.t == 0) = false := by simp [ht0]
            have hns : ¬ (x.p.t = 0 ∨ ((k : Int) + 1) ∈ c.bs) := fun q => q.elim ht0 hnb
            clear ht0 hnb
            by_cases t0 : t = 0
            · have t0' : (t != 0) = false := by simp [t0]
              have HN2 : Hid (agTo c.bs (ndsP c.ns) (k + 1) = some x.t) := ag_take HT.out HX.out hns (fun q => q.1 t0)
              clear t0 HX hns HT
              go_wp2_with fail
              exact ⟨⟨k + 1, x.t, by omega, by go_num, rfl, HN2, hnx⟩, by simp [intOf]; omega⟩
            · have t0' : (t != 0) = true := by simp [t0]
              by_cases te : x.t = t
              · have te' : (t != x.t) = false := by simp [te]
                have HN2 : Hid (agTo c.bs (ndsP c.ns) (k + 1) = some x.t) := ag_take HT.out HX.out hns (fun q => q.2 te)
                clear t0 HX hns HT te
                go_wp2_with fail
                exact ⟨⟨k + 1, x.t, by omega, by go_num, rfl, HN2, hnx⟩, by simp [intOf]; omega⟩
              · have te' : (t != x.t) = true := by simp; exact fun q => te q.symm
                have HE : Hid (K = false) := by
                  show K = false
                  rw [← HK2.out, ag_stuck (ag_bad HT.out HX.out hns ⟨t0, te⟩) hlt]; rfl
                clear t0 HX hns HT te HK2
                go_wp2_with fail
                go_ret
                exact ⟨by rw [HE.out]; rfl, BV.out.trans (hnx.mono BV.out.size)⟩
        · have HN2 : Hid (agTo c.bs (ndsP c.ns) (k + 1) = some t) := ag_skip HT.out HX.out (.inr (of_decide_eq_true HU.out))
          clear HX
          go_wp2_with fail
          exact ⟨⟨k + 1, t, by omega, by go_num, rfl, HN2, hnx⟩, by simp [intOf]; omega⟩
      · have hkn : k = c.nn := by omega
        have hlt' : ¬ ((k : Int) < (c.nn : Int)) := by omega
        have HE : Hid (K = true) := by
          show K = true
          rw [← HK2.out, ← hkn, HT.out]; rfl
        clear hkn HK2 HT
        go_wp2_with fail
        go_ret
        exact ⟨by rw [HE.out]; rfl, BV.out.trans (hnx.mono BV.out.size)⟩
  · have hdb : (d != 0) = true := by simp [q1]
    have HE : Hid (K = false) := by
      show K = false
      rw [← HK.out, if_neg q1]
    clear HK q1
    go_wp2_with fail
    go_ret
    exact ⟨by rw [HE.out]; rfl, BV.out.trans (B1.out.mono BV.out.size)⟩

end Go.Proofs.Ytbebhiglnfmjcaa
