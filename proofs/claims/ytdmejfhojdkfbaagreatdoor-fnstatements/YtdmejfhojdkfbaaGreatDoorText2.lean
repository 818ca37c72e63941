/-
  CONTRACT of the text of a set in impl (impl.bitSet's method text), for sets of 0 to 255.
  Conditions: each contract bears its own.
-/
import Derived.Test.YtdmejfhojdkfbaaGreatDoorIter1
import Derived.Test.YtdmejfhojdkfbaaGreatDoorText1
import Derived.Test.YtdmejfhojdkfbaaGreatDoorNum1
namespace Go.Proofs.YtdmejfhojdkfbaaGreatDoor
open Go.RowKit Go.Shelf
attribute [local go_sem] Oper.semAt_some
attribute [local go_sem] wide_fn
set_option linter.unusedVariables false

theorem Tryz.info9 : (Tryz.prog.info? 9).map (fun i => (i.zero, i.size, i.bytes)) = some (some (.string ⟨#[]⟩), 1, 16) := by kernel_rfl

/-- An append to a row of the call's own, as one operation inside a fence. -/
theorem stepIn_append_own {F : Fence} {n : Nat} {P : Program} {w : World} {ops : Array Oper} {o : Oper} {a : Act} {K : Act → World → Prop} {Q : Exit → Act → World → Prop} {E : Prop}
    (hg : o.guard = none) (s x : Operand) (t : TypeId) (hop : o.op = Op.call { callee := Callee.builtin Builtin.append, args := #[s, x], argTypes := #[t, t] })
    (base : Nat) (e : TypeId) (i : TypeInfo) (z : Value) (size bytes : Nat) (h1 : P.underlying t = some (.slice e)) (h2 : P.info? e = some i) (h3 : i.zero = some z) (h4 : i.size = size) (h5 : i.bytes = bytes) (h6 : z.cells.size = size) (h7 : 0 < size)
    (v : Value) (k : Nat) (xs : List Value) (hs : a.eval s = v) (hown : w.ownsRow base e size v k xs) (ad : Addr) (m c : Nat) (news : List Value) (hx : a.eval x = .slice (some ad) m c) (hn : news.length = m * size)
    (hc : ∀ j u, news[j]? = some u → w.cell? (ad.add j) = some u) (h1c : ∀ u ∈ news, u.oneCell' = true) (b1 : k + m ≤ maxLen) (b2 : (k + m) * bytes ≤ 140737488355328) (b3 : base ≤ w.heap.size)
    (hK : ∀ v' w', w'.ownsRow base e size v' (k + m) (xs ++ news) → w.grownBy w' v.ownBlock → K (a.put o.dst v') w') :
    if Region.wanted o (yielded ops a.tmps) = true then Oper.wpIn F n P o a w K Q else E := by
  have hw : Region.wanted o (yielded ops a.tmps) = true := by simp [Region.wanted, hg]
  rw [if_pos hw]
  obtain ⟨v', w', hrun, r1, r2, r3⟩ := run_append_own (P := P) w base t o.type e i z size bytes h1 h2 h3 h4 h5 h6 h7 v k xs hown ad m c news hn hc h1c b1 b2 b3
  unfold Oper.wpIn
  refine ⟨?_, ?_⟩
  · simp [Oper.about, hop, resolve, Target.leads, Sem.run_pure]
  · rw [Oper.semAt_plain F _ _ (by rw [hop]; intro c hc'; cases hc')]
    simp [execOp, hop, resolve, invoke, builtin, hs, hx, hrun, Result.andThen]
    exact hK v' w' r1 r2

/-- The words of principals. -/
def wordV (p : P8) : Value := .string ⟨#[digitB p.1]⟩

/-- Words of one digit with commas between. -/
def joinI (zs : List Int) : List UInt8 := Lib.join (zs.map (fun p => [digitB p])) [44]

theorem join_dec : ∀ n : Fin 256, joinI (listTo (n.val : Int) 8) = bodyTo (listTo (n.val : Int) 8) (listTo (n.val : Int) 8).length ∧ (joinI (listTo (n.val : Int) 8)).length ≤ 16 := by
  decide +kernel

theorem join_eq (s : Int) (s0 : 0 ≤ s) (s1 : s ≤ 255) : joinI (listTo s 8) = bodyTo (listTo s 8) (listTo s 8).length ∧ (joinI (listTo s 8)).length ≤ 16 := by
  obtain ⟨n, rfl⟩ := Int.eq_ofNat_of_zero_le s0
  exact join_dec ⟨n, by omega⟩

theorem join_text (s : Int) (s0 : 0 ≤ s) (s1 : s ≤ 255) : (⟨#[123]⟩ : ByteArray) ++ ⟨(joinI (listTo s 8)).toArray⟩ ++ ⟨#[125]⟩ = textI s := by
  rw [(join_eq s s0 s1).1]
  rw [show (⟨#[123]⟩ : ByteArray) = ⟨[123].toArray⟩ from rfl, show (⟨#[125]⟩ : ByteArray) = ⟨[125].toArray⟩ from rfl, ByteArray.mk_append_mk, ByteArray.mk_append_mk]
  simp [textI]

set_option maxHeartbeats 400000 in
theorem join_c (a : Option Addr) (cap b : Nat) (s : Int) (s0 : 0 ≤ s) (s1 : s ≤ 255) (ys : List P8) (hys : ys.map (·.1) = listTo s 8) (W : World) (hrow : W.ownsRow b 9 1 (.slice a ys.length cap) ys.length (ys.map wordV)) :
    Calls Tryz.prog 30 #[.slice a ys.length cap, .string ⟨#[44]⟩] W fun e w' => e = .returned (.string ⟨(joinI (listTo s 8)).toArray⟩) ∧ Below W.heap.size W w' := by
  have hj := (join_eq s s0 s1).2
  have hl8 := listTo_le s 8
  have hlen : ys.length = (listTo s 8).length := by rw [← hys]; simp
  have hmap : ys.map (fun p : P8 => [digitB p.1]) = (listTo s 8).map (fun p => [digitB p]) := by rw [← hys]; simp
  cases ys with
  | nil =>
    have e0 : listTo s 8 = [] := by rw [← hys]; rfl
    refine (Tryz.strings_Join_none a cap ⟨#[44]⟩ W).mono fun e w' h => ⟨?_, h.2 ▸ Below.refl _ _⟩
    rw [h.1, e0]
    rfl
  | cons y r =>
    obtain ⟨g, rfl, hcap⟩ : ∃ g, a = some ⟨g, 0, none⟩ ∧ (y :: r).length ≤ cap := by
      rcases hrow.2 with ⟨h', h0⟩ | ⟨g, cp, cur, h', _, _, hle, _⟩
      · simp at h0
      · simp only [Value.slice.injEq] at h'
        exact ⟨g, h'.1, by rw [h'.2.2]; exact hle⟩
    obtain ⟨ys, hyr⟩ : ∃ ys, ys = y :: r := ⟨_, rfl⟩
    rw [← hyr] at hrow hlen hmap hcap ⊢
    have hcells : ∀ (j : Nat) (x : ByteArray), (ys.map (fun p : P8 => (⟨#[digitB p.1]⟩ : ByteArray)))[j]? = some x → W.cell? ⟨g, 0 + j, none⟩ = some (.string x) := by
      intro j x hx
      have hj' : j < ys.length := by
        have := (List.getElem?_eq_some_iff.1 hx).1
        simpa using this
      rw [Nat.zero_add, hrow.cellAt j (by omega)]
      simp [List.getElem?_eq_getElem hj'] at hx ⊢
      rw [← hx]
      rfl
    have hjoin : Lib.join ((ys.map (fun p : P8 => (⟨#[digitB p.1]⟩ : ByteArray))).map (·.data.toList)) (⟨#[44]⟩ : ByteArray).data.toList = joinI (listTo s 8) := by
      rw [List.map_map]
      exact congrArg (fun l => Lib.join l [44]) hmap
    have h := Tryz.strings_Join g 0 cap (ys.map (fun p : P8 => (⟨#[digitB p.1]⟩ : ByteArray))) ⟨#[44]⟩ W hcells (hrow.lt g rfl).2 (by simp; omega) (by simpa using hcap) (by rw [hjoin]; omega)
    rw [List.length_map, hjoin] at h
    exact h

set_option maxRecDepth 100000 in
set_option maxHeartbeats 2000000 in
theorem text_w (n : Nat) (hn : 3 ≤ n) (s : Int) (s0 : 0 ≤ s) (s1 : s ≤ 255) (w : World) :
    CallsIn Fence.wide n Tryz.prog 29 #[.int .u8 s] w fun e W' => e = .returned (.string (textI s)) ∧ Below w.heap.size w W' := by
  have h1 : 1 ≤ n := by omega
  obtain ⟨i0, hi, hz0, hz1, hz2⟩ := info_parts Tryz.info9
  refine callsIn_of_wp_marks Tryz.func29 rfl trivial ?_ rfl
  simp only [Tryz.ntmps29, List.size_toArray, List.length_cons, List.length_nil, Nat.reduceAdd, Nat.reduceSub, Array.replicate_succ, Array.replicate_zero, List.push_toArray, List.append_toArray, List.nil_append, List.cons_append]
  gi_wp2_with (gi_at_call 53; refine (prin_in _ _ _).mono ?_; rintro e w' ⟨rfl, rfl⟩)
  have bL := Boxed.new w 54 (.slice none 0 0)
  have bS := Boxed.new (w.alloc (.cells #[.slice none 0 0] 54)) 56 (.int .u8 s)
  rw [World.size_alloc] at bS
  have bL' := bL.alloc (.cells #[.int .u8 s] 56)
  obtain ⟨W0, hW0⟩ : ∃ W0, (w.alloc (.cells #[.slice none 0 0] 54)).alloc (.cells #[.int .u8 s] 56) = W0 := ⟨_, rfl⟩
  have hsz : W0.heap.size = w.heap.size + 2 := by rw [← hW0]; simp
  have hB0 : Below w.heap.size w W0 := by rw [← hW0]; exact ((Below.refl _ w).alloc (Nat.le_refl _) _).alloc (by simp) _
  rw [hW0] at bS bL' ⊢
  have HB0 : Hid (Below w.heap.size w W0) := hB0
  clear bL hW0 hB0
  refine wpIn_rangeFunc_ownG rfl h1 (gf := 74) (lb := #[.pointer (some ⟨w.heap.size + 1, 0, none⟩)]) rfl trivial (enters_of Tryz.func74 (by kernel_rfl) rfl)
    (prin_stops8 (n - 1) (by omega) (w.heap.size + 1) s s0 s1 W0 (by omega) bS.cell) (Kp := KeepBox (w.heap.size + 1)) (fun h k => Eq.trans k h) (fun W l o o' hl h _ _ => World.putObj_heap_other (by omega)) (Below.refl _ _) (fun _ => rfl)
    (fun pre W => ((∃ v, Boxed W w.heap.size 54 v ∧ W.ownsRow w.heap.size 9 1 v pre.length (pre.map wordV) ∧ True) ∧ Boxed W (w.heap.size + 1) 56 (.int .u8 s)) ∧ Below w.heap.size W0 W)
    (fun _ _ _ => False)
    (OwnFrom.and (OwnFrom.and (Own.from (holdsRow_own w.heap.size w.heap.size 54 9 1 (fun pre : List P8 => pre.length) (fun pre => pre.map wordV) (fun _ _ => True)) _) (Own.from (boxed_own _ _ (fun _ => .int .u8 s)) _)) (ownFrom_below (by omega) (by omega)))
    (fun _ _ _ _ _ hs _ _ => hs)
    ⟨⟨⟨_, bL', World.ownsRow_nil _ _ _ _, trivial⟩, bS⟩, Below.refl _ _⟩
    (fun x => { tmps := #[.int .u8 s, undef, .string ⟨#[]⟩, .pointer (some ⟨w.heap.size, 0, none⟩), .int .i64 x.1, .int .u8 s, .func (.func 74) #[] #[.pointer (some ⟨w.heap.size + 1, 0, none⟩)], .int .i64 x.1, undef, undef, undef, undef, undef, undef, undef, undef, undef], defers := [] }) ?assign ?body ?done ?stop
  case assign =>
    intro l x W K hK
    gi_wp2
    exact hK
  case body =>
    rintro l pre x W ⟨⟨⟨v, hv, hrow, _⟩, hS⟩, hB⟩ hlt
    have hc := hv.cell
    have hl8 := listTo_le s 8
    have hvl := hv.lt
    have hmx : Tryz.prog.follows .mixedOrders = true := by kernel_rfl
    gi_wp2
    refine wpIn_region_any hmx ?_
    change wpAnyIn _ _ _ _ _ _ _ _ _ (World.drew _)
    refine wpAnyIn_ready (rs := [0, 1]) (by decide +kernel) (by simp) (AllReadyIn.cons rfl (fun K hK => ?_) (AllReadyIn.cons rfl (fun K hK => ?_) AllReadyIn.nil))
    · -- the load first
      go_simp
      refine hK _ _ ?_
      clear hK K
      refine wpAnyIn_ready (rs := [1]) (by decide +kernel) (by simp) (AllReadyIn.cons rfl (fun K hK => ?_) AllReadyIn.nil)
      go_simp
      refine hK _ _ ?_
      clear hK K
      refine wpAnyIn_ready (rs := [2]) (by decide +kernel) (by simp) (AllReadyIn.cons rfl (fun K hK => ?_) AllReadyIn.nil)
      go_simp
      refine ⟨fun h => (by cases h), ?_⟩
      refine (CallsIn.inRound l (callsIn_wide.2 (num_c x.1 x.2.1 x.2.2 _))).mono ?_
      rintro e w' ⟨rfl, rfl⟩
      refine hK _ _ ?_
      clear hK K
      refine wpAnyIn_ready (rs := [3]) (by decide +kernel) (by simp) (AllReadyIn.cons rfl (fun K hK => ?_) AllReadyIn.nil)
      go_simp
      refine hK _ _ ?_
      clear hK K
      refine wpAnyIn_ready (rs := [4]) (by decide +kernel) (by simp) (AllReadyIn.cons rfl (fun K hK => ?_) AllReadyIn.nil)
      refine stepIn_append_own rfl (.tmp 8) (.tmp 11) 54 rfl w.heap.size 9 i0 (.string ⟨#[]⟩) 1 16 Tryz.underlying54 hi hz0 hz1 hz2 rfl (by decide) v pre.length (pre.map wordV) rfl ((hrow.alloc _).drew) ⟨W.heap.size, 0, none⟩ 1 1 [.string ⟨#[digitB x.1]⟩] rfl rfl (by exact cell_one_new _ _ _) (by simp [Value.oneCell']) (by unfold maxLen; omega) (by omega) (by have := hB.size; simp; omega) ?_
      intro v' w1 hown' hgrow
      obtain ⟨g', cap', rfl⟩ := ownsRow_succ hown'
      obtain ⟨hv1, hv2, hr2, hk2, hb2⟩ := hv.appended (by decide) hrow (by have := hB.size; omega) (Nat.le_refl _) hown' ⟨hgrow.os, hgrow.tape, hgrow.output, hgrow.size, hgrow.block⟩
      have hc1 := hv1.cell
      have hf1 := hv1.frozen
      have hS1 := ((hS.alloc _).kept (row := v.ownBlock) ⟨hgrow.os, hgrow.tape, hgrow.output, hgrow.size, hgrow.block⟩ (hS.not_row (by decide) hrow)).other (B' := w.heap.size) (by omega) (.slice (some ⟨g', 0, none⟩) (pre.length + 1) cap')
      refine hK _ _ ?_
      clear hK K
      refine wpAnyIn_ready (rs := [5]) (by decide +kernel) (by simp) (AllReadyIn.cons rfl (fun K hK => ?_) AllReadyIn.nil)
      go_simp
      refine hK _ _ ?_
      clear hK K
      refine wpAnyIn_done (by decide +kernel) ?_ _
      gi_wp2
      exact ⟨hk2.from _, hS1.trans hS.symm, ⟨⟨_, hv2, by simpa [wordV] using hr2, trivial⟩, hS1⟩, hB.trans hb2⟩
    · go_simp
      refine hK _ _ ?_
      clear hK K
      refine wpAnyIn_ready (rs := [0, 2]) (by decide +kernel) (by simp) (AllReadyIn.cons rfl (fun K hK => ?_) (AllReadyIn.cons rfl (fun K hK => ?_) AllReadyIn.nil))
      · go_simp
        refine hK _ _ ?_
        clear hK K
        refine wpAnyIn_ready (rs := [2]) (by decide +kernel) (by simp) (AllReadyIn.cons rfl (fun K hK => ?_) AllReadyIn.nil)
        go_simp
        refine ⟨fun h => (by cases h), ?_⟩
        refine (CallsIn.inRound l (callsIn_wide.2 (num_c x.1 x.2.1 x.2.2 _))).mono ?_
        rintro e w' ⟨rfl, rfl⟩
        refine hK _ _ ?_
        clear hK K
        refine wpAnyIn_ready (rs := [3]) (by decide +kernel) (by simp) (AllReadyIn.cons rfl (fun K hK => ?_) AllReadyIn.nil)
        go_simp
        refine hK _ _ ?_
        clear hK K
        refine wpAnyIn_ready (rs := [4]) (by decide +kernel) (by simp) (AllReadyIn.cons rfl (fun K hK => ?_) AllReadyIn.nil)
        refine stepIn_append_own rfl (.tmp 8) (.tmp 11) 54 rfl w.heap.size 9 i0 (.string ⟨#[]⟩) 1 16 Tryz.underlying54 hi hz0 hz1 hz2 rfl (by decide) v pre.length (pre.map wordV) rfl ((hrow.alloc _).drew) ⟨W.heap.size, 0, none⟩ 1 1 [.string ⟨#[digitB x.1]⟩] rfl rfl (by exact cell_one_new _ _ _) (by simp [Value.oneCell']) (by unfold maxLen; omega) (by omega) (by have := hB.size; simp; omega) ?_
        intro v' w1 hown' hgrow
        obtain ⟨g', cap', rfl⟩ := ownsRow_succ hown'
        obtain ⟨hv1, hv2, hr2, hk2, hb2⟩ := hv.appended (by decide) hrow (by have := hB.size; omega) (Nat.le_refl _) hown' ⟨hgrow.os, hgrow.tape, hgrow.output, hgrow.size, hgrow.block⟩
        have hc1 := hv1.cell
        have hf1 := hv1.frozen
        have hS1 := ((hS.alloc _).kept (row := v.ownBlock) ⟨hgrow.os, hgrow.tape, hgrow.output, hgrow.size, hgrow.block⟩ (hS.not_row (by decide) hrow)).other (B' := w.heap.size) (by omega) (.slice (some ⟨g', 0, none⟩) (pre.length + 1) cap')
        refine hK _ _ ?_
        clear hK K
        refine wpAnyIn_ready (rs := [5]) (by decide +kernel) (by simp) (AllReadyIn.cons rfl (fun K hK => ?_) AllReadyIn.nil)
        go_simp
        refine hK _ _ ?_
        clear hK K
        refine wpAnyIn_done (by decide +kernel) ?_ _
        gi_wp2
        exact ⟨hk2.from _, hS1.trans hS.symm, ⟨⟨_, hv2, by simpa [wordV] using hr2, trivial⟩, hS1⟩, hB.trans hb2⟩
      · go_simp
        refine ⟨fun h => (by cases h), ?_⟩
        refine (CallsIn.inRound l (callsIn_wide.2 (num_c x.1 x.2.1 x.2.2 _))).mono ?_
        rintro e w' ⟨rfl, rfl⟩
        refine hK _ _ ?_
        clear hK K
        refine wpAnyIn_ready (rs := [0, 3]) (by decide +kernel) (by simp) (AllReadyIn.cons rfl (fun K hK => ?_) (AllReadyIn.cons rfl (fun K hK => ?_) AllReadyIn.nil))
        · go_simp
          refine hK _ _ ?_
          clear hK K
          refine wpAnyIn_ready (rs := [3]) (by decide +kernel) (by simp) (AllReadyIn.cons rfl (fun K hK => ?_) AllReadyIn.nil)
          go_simp
          refine hK _ _ ?_
          clear hK K
          refine wpAnyIn_ready (rs := [4]) (by decide +kernel) (by simp) (AllReadyIn.cons rfl (fun K hK => ?_) AllReadyIn.nil)
          refine stepIn_append_own rfl (.tmp 8) (.tmp 11) 54 rfl w.heap.size 9 i0 (.string ⟨#[]⟩) 1 16 Tryz.underlying54 hi hz0 hz1 hz2 rfl (by decide) v pre.length (pre.map wordV) rfl ((hrow.alloc _).drew) ⟨W.heap.size, 0, none⟩ 1 1 [.string ⟨#[digitB x.1]⟩] rfl rfl (by exact cell_one_new _ _ _) (by simp [Value.oneCell']) (by unfold maxLen; omega) (by omega) (by have := hB.size; simp; omega) ?_
          intro v' w1 hown' hgrow
          obtain ⟨g', cap', rfl⟩ := ownsRow_succ hown'
          obtain ⟨hv1, hv2, hr2, hk2, hb2⟩ := hv.appended (by decide) hrow (by have := hB.size; omega) (Nat.le_refl _) hown' ⟨hgrow.os, hgrow.tape, hgrow.output, hgrow.size, hgrow.block⟩
          have hc1 := hv1.cell
          have hf1 := hv1.frozen
          have hS1 := ((hS.alloc _).kept (row := v.ownBlock) ⟨hgrow.os, hgrow.tape, hgrow.output, hgrow.size, hgrow.block⟩ (hS.not_row (by decide) hrow)).other (B' := w.heap.size) (by omega) (.slice (some ⟨g', 0, none⟩) (pre.length + 1) cap')
          refine hK _ _ ?_
          clear hK K
          refine wpAnyIn_ready (rs := [5]) (by decide +kernel) (by simp) (AllReadyIn.cons rfl (fun K hK => ?_) AllReadyIn.nil)
          go_simp
          refine hK _ _ ?_
          clear hK K
          refine wpAnyIn_done (by decide +kernel) ?_ _
          gi_wp2
          exact ⟨hk2.from _, hS1.trans hS.symm, ⟨⟨_, hv2, by simpa [wordV] using hr2, trivial⟩, hS1⟩, hB.trans hb2⟩
        · go_simp
          refine hK _ _ ?_
          clear hK K
          refine wpAnyIn_ready (rs := [0]) (by decide +kernel) (by simp) (AllReadyIn.cons rfl (fun K hK => ?_) AllReadyIn.nil)
          go_simp
          refine hK _ _ ?_
          clear hK K
          refine wpAnyIn_ready (rs := [4]) (by decide +kernel) (by simp) (AllReadyIn.cons rfl (fun K hK => ?_) AllReadyIn.nil)
          refine stepIn_append_own rfl (.tmp 8) (.tmp 11) 54 rfl w.heap.size 9 i0 (.string ⟨#[]⟩) 1 16 Tryz.underlying54 hi hz0 hz1 hz2 rfl (by decide) v pre.length (pre.map wordV) rfl ((hrow.alloc _).drew) ⟨W.heap.size, 0, none⟩ 1 1 [.string ⟨#[digitB x.1]⟩] rfl rfl (by exact cell_one_new _ _ _) (by simp [Value.oneCell']) (by unfold maxLen; omega) (by omega) (by have := hB.size; simp; omega) ?_
          intro v' w1 hown' hgrow
          obtain ⟨g', cap', rfl⟩ := ownsRow_succ hown'
          obtain ⟨hv1, hv2, hr2, hk2, hb2⟩ := hv.appended (by decide) hrow (by have := hB.size; omega) (Nat.le_refl _) hown' ⟨hgrow.os, hgrow.tape, hgrow.output, hgrow.size, hgrow.block⟩
          have hc1 := hv1.cell
          have hf1 := hv1.frozen
          have hS1 := ((hS.alloc _).kept (row := v.ownBlock) ⟨hgrow.os, hgrow.tape, hgrow.output, hgrow.size, hgrow.block⟩ (hS.not_row (by decide) hrow)).other (B' := w.heap.size) (by omega) (.slice (some ⟨g', 0, none⟩) (pre.length + 1) cap')
          refine hK _ _ ?_
          clear hK K
          refine wpAnyIn_ready (rs := [5]) (by decide +kernel) (by simp) (AllReadyIn.cons rfl (fun K hK => ?_) AllReadyIn.nil)
          go_simp
          refine hK _ _ ?_
          clear hK K
          refine wpAnyIn_done (by decide +kernel) ?_ _
          gi_wp2
          exact ⟨hk2.from _, hS1.trans hS.symm, ⟨⟨_, hv2, by simpa [wordV] using hr2, trivial⟩, hS1⟩, hB.trans hb2⟩
  case done =>
    rintro D ys W hD hys ⟨⟨⟨v, hv, hrow, _⟩, _⟩, hB⟩ hK
    obtain ⟨a, cap, rfl⟩ : ∃ a cap, v = .slice a ys.length cap := by
      rcases hrow.2 with ⟨h', h0⟩ | ⟨g, cap, cur, h', _⟩
      · exact ⟨none, 0, by rw [h0]; exact h'⟩
      · exact ⟨_, cap, h'⟩
    have hc := hv.cell
    have hj := (join_eq s s0 s1).2
    have hDW : D < W.heap.size := (Array.getElem?_eq_some_iff.1 hK).1
    obtain ⟨T, hT⟩ : ∃ T : ByteArray, T = ⟨(joinI (listTo s 8)).toArray⟩ := ⟨_, rfl⟩
    have hTs : T.size ≤ 100 := by rw [hT]; simp [ByteArray.size]; omega
    have HC := join_c a cap w.heap.size s s0 s1 ys hys W hrow
    rw [← hT] at HC
    have HT : Hid (T = ⟨(joinI (listTo s 8)).toArray⟩) := hT
    clear hT
    gi_wp2_with (gi_at_call 30; refine (callsIn_wide.2 HC).mono ?_; rintro e w1 ⟨rfl, hb1⟩)
    have hK1 : w1.heap[D]? = some (.deferred (some [])) := (hb1.block D hDW).trans hK
    have hz1 := hB.size
    refine ⟨by simp, .inl ⟨_, _, rfl, run_takeDeferred hK1, ?_⟩⟩
    refine ⟨_, results_tmp rfl _ _ _, ?_, ?_⟩
    · exact congrArg (fun x => Ending.returned (Value.string x)) (by rw [HT.out]; exact join_text s s0 s1)
    · exact ((HB0.out.trans hB).trans (hb1.mono (by omega))).trans (belowK_b (w := w) (Nat.le_refl _) w1 D _ _ (by omega) hK1 rfl rfl)
  case stop =>
    rintro D c pre W _ _ h _
    exact h.elim

theorem text_c (s : Int) (s0 : 0 ≤ s) (s1 : s ≤ 255) (w : World) :
    Calls Tryz.prog 29 #[.int .u8 s] w fun e W' => e = .returned (.string (textI s)) ∧ Below w.heap.size w W' :=
  callsIn_wide.1 (text_w 3 (Nat.le_refl _) s s0 s1 w)

end Go.Proofs.YtdmejfhojdkfbaaGreatDoor
