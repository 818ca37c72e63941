/-
  CONTRACTS: chapter 11, the program: what a page says.
  Conditions: each contract bears its own (the variable errUnreadable holds an error).
-/
import Derived.Test.YtnlmoapopdchkaaDoorCk0
namespace Go.Proofs.YtnlmoapopdchkaaDoor
open Go.RowKit Go.Shelf
attribute [local go_sem] Oper.semAt_some
attribute [local go_sem] wideC_fn
attribute [local simp] wideC_fn
set_option linter.unusedVariables false
set_option linter.unusedSimpArgs false

/-- An append to a row of the call's own, as one operation inside a fence. -/
theorem stepIn_appendC {F : Fence} {n : Nat} {P : Program} {w : World} {ops : Array Oper} {o : Oper} {a : Act} {K : Act → World → Prop} {Q : Exit → Act → World → Prop} {E : Prop}
    (hg : o.guard = none) (s x : Operand) (t : TypeId) (hop : o.op = Op.call { callee := Callee.builtin Builtin.append, args := #[s, x], argTypes := #[t, t] })
    (base : Nat) (e : TypeId) (i : TypeInfo) (z : Value) (size bytes : Nat) (h1 : P.underlying t = some (.slice e)) (h2 : P.info? e = some i) (h3 : i.zero = some z) (h4 : i.size = size) (h5 : i.bytes = bytes) (h6 : z.cells.size = size) (h7 : 0 < size)
    (v : Value) (k : Nat) (xs : List Value) (hs : a.eval s = v) (hown : w.ownsRow base e size v k xs) (ad : Addr) (m c : Nat) (news : List Value) (hx : a.eval x = .slice (some ad) m c) (hn : news.length = m * size)
    (hc : ∀ j u, news[j]? = some u → w.cell? (ad.add j) = some u) (h1c : ∀ u ∈ news, u.oneCell' = true) (b1 : k + m ≤ maxLen) (b2 : (k + m) * bytes ≤ 140737488355328) (b3 : base ≤ w.heap.size)
    (hK : ∀ v' w', w'.ownsRow base e size v' (k + m) (xs ++ news) → w.grownBy w' v.ownBlock → K (a.put o.dst v') w') :
    if Region.wanted o (yielded ops a.tmps) = true then Oper.wpIn F n P o a w K Q else E := by
  have hw : Region.wanted o (yielded ops a.tmps) = true := by simp [Region.wanted, hg]
  rw [if_pos hw]
  obtain ⟨v', w', hrun, r1, r2, r3⟩ := run_append_own (P := P) w base t o.type e i z size bytes h1 h2 h3 h4 h5 h6 h7 v k xs hown ad m c news hn hc h1c b1 b2 b3
  unfold Oper.wpIn
  refine ⟨?_, ?_⟩
  · simp [Oper.about, hop, resolve, Target.leads, Sem.run_pure]
  · rw [Oper.semAt_plain F _ _ (by rw [hop]; intro c hc'; cases hc')]
    simp [execOp, hop, resolve, invoke, builtin, hs, hx, hrun, Result.andThen]
    exact hK v' w' r1 r2

theorem Tryd.fldT51 (c a0 a1 a2 a3 a4 : Int) (w : World) : (Instr.field 51 (.agg #[.int .i64 c, .int .i64 a0, .int .i64 a1, .int .i64 a2, .int .i64 a3, .int .i64 a4]) 1).run Tryd.prog w = .ok (.agg #[.int .i64 a0, .int .i64 a1, .int .i64 a2, .int .i64 a3, .int .i64 a4]) w := by kernel_rfl

attribute [local go_sem] Tryd.fldT51

set_option maxRecDepth 100000 in
set_option maxHeartbeats 4000000 in
theorem said_w (n : Nat) (hn : 3 ≤ n) (g N : Nat) (zs : List Int) (w : World) (h : PgAt w g zs) (he : EndAt zs N) (hE : ErrAt 0 w) :
    CallsIn Fence.wide n Tryd.prog 19 #[.pointer (some ⟨g, 0, none⟩)] w fun e W' => ∃ a cap, e = .returned (.slice a N cap) ∧ W'.ownsRow w.heap.size 47 5 (.slice a N cap) N (flatSt ((List.range N).map (fun k => unpS (pieceZ zs k)))) ∧ Below w.heap.size w W' := by
  have h1 : 1 ≤ n := by omega
  have hN : N ≤ 40 := he.1
  have HP := hidQ h
  have HEr := hidQ hE
  obtain ⟨M, hM⟩ : ∃ M, N * 6 = M := ⟨_, rfl⟩
  have hM2 : M ≤ 240 := by omega
  have HEN : Hid (∀ W : World, Below w.heap.size w W → Calls Tryd.prog 23 #[.pointer (some ⟨g, 0, none⟩)] W fun e w' => e = .returned (.int .i64 (M : Int)) ∧ W = w') := fun W hW => by
    have q := pageEnd_c g N zs W (h.below hW) he
    rw [hM] at q
    exact q
  have hsl := pgSlice_upto g M hM2
  have HM := hidQ hM
  have hgl : g < w.heap.size := h.lt
  have hmx : Tryd.prog.follows .mixedOrders = true := by kernel_rfl
  obtain ⟨i0, hi, hz0, hz1, hz2⟩ := info_parts Tryd.info47
  clear h he hE hM
  refine callsIn_of_wp_marks Tryd.func19 rfl trivial ?_ rfl
  simp only [Tryd.ntmps19, List.size_toArray, List.length_cons, List.length_nil, Nat.reduceAdd, Nat.reduceSub, Array.replicate_succ, Array.replicate_zero, List.push_toArray, List.append_toArray, List.nil_append, List.cons_append]
  gi_wp2_with (fail)
  refine Code.wpIn_mono (Q := fun e a' w' => e = .normal ∧ a' = { tmps := #[.pointer (some ⟨g, 0, none⟩), undef, .slice none 0 0, .pointer (some ⟨w.heap.size, 0, none⟩), undef, .pointer (some ⟨g, 0, none⟩), .pointer (some ⟨g, 0, none⟩), .pointer (some ⟨g, 0, none⟩), .int .i64 (M : Int), .slice (some ⟨g, 0, none⟩) M 240, .func (.func 34) #[] #[.pointer (some ⟨w.heap.size + 1, 0, none⟩), .pointer (some ⟨w.heap.size + 1 + 1, 0, none⟩)], undef, undef, undef, undef, undef, undef, undef, undef], defers := [] } ∧ w' = (((w.alloc (.cells #[.slice none 0 0] 23)).alloc (.cells #[.slice (some ⟨g, 0, none⟩) M 240] 22)).alloc (.cells #[.int .i64 6] 3)).drew) ?_ ?_
  rotate_left 1
  · refine wpIn_region_any hmx ?_
    change wpAnyIn _ _ _ _ _ _ _ _ _ (World.drew _)
    refine wpAnyIn_ready (rs := [0, 2]) (by decide +kernel) (by simp) (AllReadyIn.cons rfl (fun K hK => ?_) (AllReadyIn.cons rfl (fun K hK => ?_) AllReadyIn.nil))
    · go_simp
      refine hK _ _ ?_
      clear hK K
      refine wpAnyIn_ready (rs := [1, 2]) (by decide +kernel) (by simp) (AllReadyIn.cons rfl (fun K hK => ?_) (AllReadyIn.cons rfl (fun K hK => ?_) AllReadyIn.nil))
      · go_simp
        refine hK _ _ ?_
        clear hK K
        refine wpAnyIn_ready (rs := [2]) (by decide +kernel) (by simp) (AllReadyIn.cons rfl (fun K hK => ?_) AllReadyIn.nil)
        go_simp
        refine hK _ _ ?_
        clear hK K
        refine wpAnyIn_ready (rs := [3]) (by decide +kernel) (by simp) (AllReadyIn.cons rfl (fun K hK => ?_) AllReadyIn.nil)
        go_simp
        refine (callsIn_wide.2 (HEN.out _ ((Below.refl _ _).alloc (Nat.le_refl _) _).drew)).mono ?_
        rintro e w' ⟨rfl, rfl⟩
        refine hK _ _ ?_
        clear hK K
        refine wpAnyIn_ready (rs := [4]) (by decide +kernel) (by simp) (AllReadyIn.cons rfl (fun K hK => ?_) AllReadyIn.nil)
        go_simp
        refine hK _ _ ?_
        clear hK K
        refine wpAnyIn_ready (rs := [5]) (by decide +kernel) (by simp) (AllReadyIn.cons rfl (fun K hK => ?_) AllReadyIn.nil)
        go_simp
        refine (chunk_in _ _ _ _ _).mono ?_
        rintro e w' ⟨rfl, rfl⟩
        refine hK _ _ ?_
        clear hK K
        refine wpAnyIn_done (by decide +kernel) ?_ _
        refine ⟨rfl, ?_, by first | rfl | simp⟩
        simp
      · go_simp
        refine hK _ _ ?_
        clear hK K
        refine wpAnyIn_ready (rs := [1, 3]) (by decide +kernel) (by simp) (AllReadyIn.cons rfl (fun K hK => ?_) (AllReadyIn.cons rfl (fun K hK => ?_) AllReadyIn.nil))
        · go_simp
          refine hK _ _ ?_
          clear hK K
          refine wpAnyIn_ready (rs := [3]) (by decide +kernel) (by simp) (AllReadyIn.cons rfl (fun K hK => ?_) AllReadyIn.nil)
          go_simp
          refine (callsIn_wide.2 (HEN.out _ ((Below.refl _ _).alloc (Nat.le_refl _) _).drew)).mono ?_
          rintro e w' ⟨rfl, rfl⟩
          refine hK _ _ ?_
          clear hK K
          refine wpAnyIn_ready (rs := [4]) (by decide +kernel) (by simp) (AllReadyIn.cons rfl (fun K hK => ?_) AllReadyIn.nil)
          go_simp
          refine hK _ _ ?_
          clear hK K
          refine wpAnyIn_ready (rs := [5]) (by decide +kernel) (by simp) (AllReadyIn.cons rfl (fun K hK => ?_) AllReadyIn.nil)
          go_simp
          refine (chunk_in _ _ _ _ _).mono ?_
          rintro e w' ⟨rfl, rfl⟩
          refine hK _ _ ?_
          clear hK K
          refine wpAnyIn_done (by decide +kernel) ?_ _
          refine ⟨rfl, ?_, by first | rfl | simp⟩
          simp
        · go_simp
          refine (callsIn_wide.2 (HEN.out _ ((Below.refl _ _).alloc (Nat.le_refl _) _).drew)).mono ?_
          rintro e w' ⟨rfl, rfl⟩
          refine hK _ _ ?_
          clear hK K
          refine wpAnyIn_ready (rs := [1]) (by decide +kernel) (by simp) (AllReadyIn.cons rfl (fun K hK => ?_) AllReadyIn.nil)
          go_simp
          refine hK _ _ ?_
          clear hK K
          refine wpAnyIn_ready (rs := [4]) (by decide +kernel) (by simp) (AllReadyIn.cons rfl (fun K hK => ?_) AllReadyIn.nil)
          go_simp
          refine hK _ _ ?_
          clear hK K
          refine wpAnyIn_ready (rs := [5]) (by decide +kernel) (by simp) (AllReadyIn.cons rfl (fun K hK => ?_) AllReadyIn.nil)
          go_simp
          refine (chunk_in _ _ _ _ _).mono ?_
          rintro e w' ⟨rfl, rfl⟩
          refine hK _ _ ?_
          clear hK K
          refine wpAnyIn_done (by decide +kernel) ?_ _
          refine ⟨rfl, ?_, by first | rfl | simp⟩
          simp
    · go_simp
      refine hK _ _ ?_
      clear hK K
      refine wpAnyIn_ready (rs := [0, 3]) (by decide +kernel) (by simp) (AllReadyIn.cons rfl (fun K hK => ?_) (AllReadyIn.cons rfl (fun K hK => ?_) AllReadyIn.nil))
      · go_simp
        refine hK _ _ ?_
        clear hK K
        refine wpAnyIn_ready (rs := [1, 3]) (by decide +kernel) (by simp) (AllReadyIn.cons rfl (fun K hK => ?_) (AllReadyIn.cons rfl (fun K hK => ?_) AllReadyIn.nil))
        · go_simp
          refine hK _ _ ?_
          clear hK K
          refine wpAnyIn_ready (rs := [3]) (by decide +kernel) (by simp) (AllReadyIn.cons rfl (fun K hK => ?_) AllReadyIn.nil)
          go_simp
          refine (callsIn_wide.2 (HEN.out _ ((Below.refl _ _).alloc (Nat.le_refl _) _).drew)).mono ?_
          rintro e w' ⟨rfl, rfl⟩
          refine hK _ _ ?_
          clear hK K
          refine wpAnyIn_ready (rs := [4]) (by decide +kernel) (by simp) (AllReadyIn.cons rfl (fun K hK => ?_) AllReadyIn.nil)
          go_simp
          refine hK _ _ ?_
          clear hK K
          refine wpAnyIn_ready (rs := [5]) (by decide +kernel) (by simp) (AllReadyIn.cons rfl (fun K hK => ?_) AllReadyIn.nil)
          go_simp
          refine (chunk_in _ _ _ _ _).mono ?_
          rintro e w' ⟨rfl, rfl⟩
          refine hK _ _ ?_
          clear hK K
          refine wpAnyIn_done (by decide +kernel) ?_ _
          refine ⟨rfl, ?_, by first | rfl | simp⟩
          simp
        · go_simp
          refine (callsIn_wide.2 (HEN.out _ ((Below.refl _ _).alloc (Nat.le_refl _) _).drew)).mono ?_
          rintro e w' ⟨rfl, rfl⟩
          refine hK _ _ ?_
          clear hK K
          refine wpAnyIn_ready (rs := [1]) (by decide +kernel) (by simp) (AllReadyIn.cons rfl (fun K hK => ?_) AllReadyIn.nil)
          go_simp
          refine hK _ _ ?_
          clear hK K
          refine wpAnyIn_ready (rs := [4]) (by decide +kernel) (by simp) (AllReadyIn.cons rfl (fun K hK => ?_) AllReadyIn.nil)
          go_simp
          refine hK _ _ ?_
          clear hK K
          refine wpAnyIn_ready (rs := [5]) (by decide +kernel) (by simp) (AllReadyIn.cons rfl (fun K hK => ?_) AllReadyIn.nil)
          go_simp
          refine (chunk_in _ _ _ _ _).mono ?_
          rintro e w' ⟨rfl, rfl⟩
          refine hK _ _ ?_
          clear hK K
          refine wpAnyIn_done (by decide +kernel) ?_ _
          refine ⟨rfl, ?_, by first | rfl | simp⟩
          simp
      · go_simp
        refine (callsIn_wide.2 (HEN.out _ ((Below.refl _ _).alloc (Nat.le_refl _) _).drew)).mono ?_
        rintro e w' ⟨rfl, rfl⟩
        refine hK _ _ ?_
        clear hK K
        refine wpAnyIn_ready (rs := [0]) (by decide +kernel) (by simp) (AllReadyIn.cons rfl (fun K hK => ?_) AllReadyIn.nil)
        go_simp
        refine hK _ _ ?_
        clear hK K
        refine wpAnyIn_ready (rs := [1]) (by decide +kernel) (by simp) (AllReadyIn.cons rfl (fun K hK => ?_) AllReadyIn.nil)
        go_simp
        refine hK _ _ ?_
        clear hK K
        refine wpAnyIn_ready (rs := [4]) (by decide +kernel) (by simp) (AllReadyIn.cons rfl (fun K hK => ?_) AllReadyIn.nil)
        go_simp
        refine hK _ _ ?_
        clear hK K
        refine wpAnyIn_ready (rs := [5]) (by decide +kernel) (by simp) (AllReadyIn.cons rfl (fun K hK => ?_) AllReadyIn.nil)
        go_simp
        refine (chunk_in _ _ _ _ _).mono ?_
        rintro e w' ⟨rfl, rfl⟩
        refine hK _ _ ?_
        clear hK K
        refine wpAnyIn_done (by decide +kernel) ?_ _
        refine ⟨rfl, ?_, by first | rfl | simp⟩
        simp
  rintro e a' w' ⟨rfl, rfl, rfl⟩
  clear HEN hsl
  have bL : Boxed (((w.alloc (.cells #[.slice none 0 0] 23)).alloc (.cells #[.slice (some ⟨g, 0, none⟩) M 240] 22)).alloc (.cells #[.int .i64 6] 3)).drew w.heap.size 23 (.slice none 0 0) := ((Boxed.new w 23 (.slice none 0 0)).alloc _).alloc _
  have bS : Boxed (((w.alloc (.cells #[.slice none 0 0] 23)).alloc (.cells #[.slice (some ⟨g, 0, none⟩) M 240] 22)).alloc (.cells #[.int .i64 6] 3)).drew (w.heap.size + 1) 22 (.slice (some ⟨g, 0, none⟩) M 240) := by
    have q := (Boxed.new (w.alloc (.cells #[.slice none 0 0] 23)) 22 (.slice (some ⟨g, 0, none⟩) M 240)).alloc (.cells #[.int .i64 6] 3)
    rw [World.size_alloc] at q
    exact q
  have bN : Boxed (((w.alloc (.cells #[.slice none 0 0] 23)).alloc (.cells #[.slice (some ⟨g, 0, none⟩) M 240] 22)).alloc (.cells #[.int .i64 6] 3)).drew (w.heap.size + 1 + 1) 3 (.int .i64 6) := by
    have q := Boxed.new ((w.alloc (.cells #[.slice none 0 0] 23)).alloc (.cells #[.slice (some ⟨g, 0, none⟩) M 240] 22)) 3 (.int .i64 6)
    rw [World.size_alloc, World.size_alloc] at q
    exact q
  obtain ⟨W0, hW0⟩ : ∃ W0, (((w.alloc (.cells #[.slice none 0 0] 23)).alloc (.cells #[.slice (some ⟨g, 0, none⟩) M 240] 22)).alloc (.cells #[.int .i64 6] 3)).drew = W0 := ⟨_, rfl⟩
  have hsz : W0.heap.size = w.heap.size + 3 := by rw [← hW0]; simp
  have hB0 : Below w.heap.size w W0 := by rw [← hW0]; exact ((((Below.refl _ w).alloc (Nat.le_refl _) _).alloc (by simp) _).alloc (by simp; omega) _).drew
  rw [hW0] at bL bS bN ⊢
  have HB0 := hidQ hB0
  have HZ : Hid (w.heap.size ≤ W0.heap.size) := by show _ ≤ _; omega
  clear hW0 hB0
  have HUW : Hid (∀ (x : P40) (W : World), Below w.heap.size W0 W → ∀ W1, Below W.heap.size W W1 → Calls Tryd.prog 25 #[.slice (some ⟨g, x.1 * 6, none⟩) 6 6] W1 fun e w' => e = .returned (.agg #[.int .i64 (unpC (pieceZ zs x.1)), .int .i64 (unpS (pieceZ zs x.1)).k, .int .i64 (unpS (pieceZ zs x.1)).e, .int .i64 (unpS (pieceZ zs x.1)).f, .int .i64 (unpS (pieceZ zs x.1)).s, .int .i64 (unpS (pieceZ zs x.1)).n]) ∧ Below W1.heap.size W1 w') := fun x W hW W1 hW1 => by
    have hb : Below w.heap.size w W1 := (HB0.out.trans hW).trans (hW1.mono (Nat.le_trans HZ.out hW.size))
    exact implUnpack_c (some ⟨g, x.1 * 6, none⟩) 6 6 (pieceZ zs x.1) W1 ((HP.out.below hb).piece x.2) (HEr.out.below hb)
  gi_wp2_with (fail)
  refine wpIn_rangeFunc_ownG rfl h1 (gf := 34) (lb := #[.pointer (some ⟨w.heap.size + 1, 0, none⟩), .pointer (some ⟨w.heap.size + 1 + 1, 0, none⟩)]) rfl trivial (enters_of Tryd.func34 (by kernel_rfl) rfl)
    (chunk_stops (n - 1) (by omega) (w.heap.size + 1) (w.heap.size + 1 + 1) g N hN W0 (by omega) (by omega) (by rw [HM.out]; exact bS.cell) bN.cell) (Kp := KB2 (w.heap.size + 1) (w.heap.size + 1 + 1)) (fun h k => ⟨k.1.trans h.1, k.2.trans h.2⟩) (fun W l o o' hl h _ _ => ⟨World.putObj_heap_other (by omega), World.putObj_heap_other (by omega)⟩) (Below.refl _ _) (fun _ => rfl)
    (fun pre W => ((∃ v, Boxed W w.heap.size 23 v ∧ W.ownsRow w.heap.size 47 5 v pre.length (flatSt (pre.map (fun x => unpS (pieceZ zs x.1)))) ∧ True) ∧ Boxed W (w.heap.size + 1) 22 (.slice (some ⟨g, 0, none⟩) M 240) ∧ Boxed W (w.heap.size + 1 + 1) 3 (.int .i64 6)) ∧ Below w.heap.size W0 W)
    (fun _ _ _ => False)
    (OwnFrom.and (OwnFrom.and (Own.from (holdsRow_own w.heap.size w.heap.size 23 47 5 (fun pre : List P40 => pre.length) (fun pre => flatSt (pre.map (fun x => unpS (pieceZ zs x.1)))) (fun _ _ => True)) _) (OwnFrom.and (Own.from (boxed_own _ _ (fun _ => .slice (some ⟨g, 0, none⟩) M 240)) _) (Own.from (boxed_own _ _ (fun _ => .int .i64 6)) _))) (ownFrom_below (by omega) (by omega)))
    (fun _ _ _ _ _ hs _ _ => hs)
    ⟨⟨⟨_, bL, World.ownsRow_nil _ _ _ _, trivial⟩, bS, bN⟩, Below.refl _ _⟩
    (fun x => { tmps := #[.pointer (some ⟨g, 0, none⟩), undef, .slice none 0 0, .pointer (some ⟨w.heap.size, 0, none⟩), .slice (some ⟨g, x.1 * 6, none⟩) 6 6, .pointer (some ⟨g, 0, none⟩), .pointer (some ⟨g, 0, none⟩), .pointer (some ⟨g, 0, none⟩), .int .i64 (M : Int), .slice (some ⟨g, 0, none⟩) M 240, .func (.func 34) #[] #[.pointer (some ⟨w.heap.size + 1, 0, none⟩), .pointer (some ⟨w.heap.size + 1 + 1, 0, none⟩)], .slice (some ⟨g, x.1 * 6, none⟩) 6 6, undef, undef, undef, undef, undef, undef, undef], defers := [] }) ?assign ?body ?done ?stop
  case assign =>
    intro l x W K hK
    gi_wp2
    exact hK
  case body =>
    rintro l pre x W ⟨⟨⟨v, hv, hrow, _⟩, hS, hNb⟩, hB⟩ hlt
    have hc := hv.cell
    have hvl := hv.lt
    have HU := hidQ (HUW.out x W hB)
    obtain ⟨y, hy⟩ : ∃ y, unpS (pieceZ zs x.1) = y := ⟨_, rfl⟩
    rw [hy] at HU
    have HFL : Hid (∀ (X : World) (u : Value), X.ownsRow w.heap.size 47 5 u (pre.length + 1) (flatSt (pre.map (fun x => unpS (pieceZ zs x.1))) ++ [.int .i64 y.k, .int .i64 y.e, .int .i64 y.f, .int .i64 y.s, .int .i64 y.n]) → X.ownsRow w.heap.size 47 5 u (pre ++ [x]).length (flatSt ((pre ++ [x]).map (fun x => unpS (pieceZ zs x.1))))) := fun X u q => by
      rw [List.length_append, List.map_append, flatSt_append, List.map_cons, List.map_nil, hy]
      exact q
    clear HUW hy
    gi_wp2_with (fail)
    refine wpIn_region_any hmx ?_
    change wpAnyIn _ _ _ _ _ _ _ _ _ (World.drew _)
    refine wpAnyIn_ready (rs := [0, 1]) (by decide +kernel) (by simp) (AllReadyIn.cons rfl (fun K hK => ?_) (AllReadyIn.cons rfl (fun K hK => ?_) AllReadyIn.nil))
    · go_simp
      refine hK _ _ ?_
      clear hK K
      refine wpAnyIn_ready (rs := [1]) (by decide +kernel) (by simp) (AllReadyIn.cons rfl (fun K hK => ?_) AllReadyIn.nil)
      go_simp
      refine hK _ _ ?_
      clear hK K
      refine wpAnyIn_ready (rs := [2]) (by decide +kernel) (by simp) (AllReadyIn.cons rfl (fun K hK => ?_) AllReadyIn.nil)
      go_simp
      refine ⟨fun h => (by cases h), ?_⟩
      refine (CallsIn.inRound l (callsIn_wide.2 (HU.out _ (Below.refl _ _).drew))).mono ?_
      rintro e wU ⟨rfl, hbU⟩
      have hvU : Boxed wU w.heap.size 23 v := (hbU.block _ hv.lt).trans hv
      have hcU := hvU.cell
      have hlU := hvU.lt
      have hrowU := ((owns_hold0 hrow).drew.below hbU).out
      have hSU : Boxed wU (w.heap.size + 1) 22 (.slice (some ⟨g, 0, none⟩) M 240) := (hbU.block _ hS.lt).trans hS
      have hNU : Boxed wU (w.heap.size + 1 + 1) 3 (.int .i64 6) := (hbU.block _ hNb.lt).trans hNb
      have hKU : KeepsOthers W wU := ⟨hbU.size, fun k o hk _ => (hbU.block k (Array.getElem?_eq_some_iff.1 hk).1).trans hk⟩
      have hBU : Below w.heap.size W0 wU := hB.trans (((Below.refl _ _).drew).trans (hbU.mono (Nat.le_trans HZ.out hB.size)))
      refine hK _ _ ?_
      clear hK K
      refine wpAnyIn_ready (rs := [3]) (by decide +kernel) (by simp) (AllReadyIn.cons rfl (fun K hK => ?_) AllReadyIn.nil)
      go_simp
      refine hK _ _ ?_
      clear hK K
      refine wpAnyIn_ready (rs := [4]) (by decide +kernel) (by simp) (AllReadyIn.cons rfl (fun K hK => ?_) AllReadyIn.nil)
      go_simp
      refine hK _ _ ?_
      clear hK K
      refine wpAnyIn_ready (rs := [5]) (by decide +kernel) (by simp) (AllReadyIn.cons rfl (fun K hK => ?_) AllReadyIn.nil)
      refine stepIn_appendC rfl (.tmp 12) (.tmp 16) 23 rfl w.heap.size 47 i0 (.agg #[.int .i64 0, .int .i64 0, .int .i64 0, .int .i64 0, .int .i64 0]) 5 40 Tryd.underlying23 hi hz0 hz1 hz2 rfl (by decide) v pre.length (flatSt (pre.map (fun x => unpS (pieceZ zs x.1)))) rfl (hrowU.alloc _) ⟨wU.heap.size, 0, none⟩ 1 1 [.int .i64 y.k, .int .i64 y.e, .int .i64 y.f, .int .i64 y.s, .int .i64 y.n] rfl rfl (by exact cell_fiveP wU y _) (by simp [Value.oneCell']) (by unfold maxLen; omega) (by omega) (by have := hBU.size; simp; omega) ?_
      intro v' w1 hown' hgrow
      obtain ⟨g', cap', rfl⟩ := ownsRow_succ hown'
      obtain ⟨hv1, hv2, hr2, hk2, hb2⟩ := hvU.appended (by decide) hrowU (by have := hBU.size; omega) (Nat.le_refl _) hown' ⟨hgrow.os, hgrow.tape, hgrow.output, hgrow.size, hgrow.block⟩
      have hc1 := hv1.cell
      have hf1 := hv1.frozen
      have hS1 := ((hSU.alloc _).kept (row := v.ownBlock) ⟨hgrow.os, hgrow.tape, hgrow.output, hgrow.size, hgrow.block⟩ (hSU.not_row (by decide) hrowU)).other (B' := w.heap.size) (by omega) (.slice (some ⟨g', 0, none⟩) (pre.length + 1) cap')
      have hN1 := ((hNU.alloc _).kept (row := v.ownBlock) ⟨hgrow.os, hgrow.tape, hgrow.output, hgrow.size, hgrow.block⟩ (hNU.not_row (by decide) hrowU)).other (B' := w.heap.size) (by omega) (.slice (some ⟨g', 0, none⟩) (pre.length + 1) cap')
      refine hK _ _ ?_
      clear hK K
      refine wpAnyIn_ready (rs := [6]) (by decide +kernel) (by simp) (AllReadyIn.cons rfl (fun K hK => ?_) AllReadyIn.nil)
      go_simp
      refine hK _ _ ?_
      clear hK K
      refine wpAnyIn_done (by decide +kernel) ?_ _
      gi_wp2
      exact ⟨(hKU.trans hk2).from _, ⟨hS1.trans hS.symm, hN1.trans hNb.symm⟩, ⟨⟨_, hv2, (HFL.out _ _ hr2), trivial⟩, hS1, hN1⟩, hBU.trans hb2⟩
    · go_simp
      refine hK _ _ ?_
      clear hK K
      refine wpAnyIn_ready (rs := [0, 2]) (by decide +kernel) (by simp) (AllReadyIn.cons rfl (fun K hK => ?_) (AllReadyIn.cons rfl (fun K hK => ?_) AllReadyIn.nil))
      · go_simp
        refine hK _ _ ?_
        clear hK K
        refine wpAnyIn_ready (rs := [2]) (by decide +kernel) (by simp) (AllReadyIn.cons rfl (fun K hK => ?_) AllReadyIn.nil)
        go_simp
        refine ⟨fun h => (by cases h), ?_⟩
        refine (CallsIn.inRound l (callsIn_wide.2 (HU.out _ (Below.refl _ _).drew))).mono ?_
        rintro e wU ⟨rfl, hbU⟩
        have hvU : Boxed wU w.heap.size 23 v := (hbU.block _ hv.lt).trans hv
        have hcU := hvU.cell
        have hlU := hvU.lt
        have hrowU := ((owns_hold0 hrow).drew.below hbU).out
        have hSU : Boxed wU (w.heap.size + 1) 22 (.slice (some ⟨g, 0, none⟩) M 240) := (hbU.block _ hS.lt).trans hS
        have hNU : Boxed wU (w.heap.size + 1 + 1) 3 (.int .i64 6) := (hbU.block _ hNb.lt).trans hNb
        have hKU : KeepsOthers W wU := ⟨hbU.size, fun k o hk _ => (hbU.block k (Array.getElem?_eq_some_iff.1 hk).1).trans hk⟩
        have hBU : Below w.heap.size W0 wU := hB.trans (((Below.refl _ _).drew).trans (hbU.mono (Nat.le_trans HZ.out hB.size)))
        refine hK _ _ ?_
        clear hK K
        refine wpAnyIn_ready (rs := [3]) (by decide +kernel) (by simp) (AllReadyIn.cons rfl (fun K hK => ?_) AllReadyIn.nil)
        go_simp
        refine hK _ _ ?_
        clear hK K
        refine wpAnyIn_ready (rs := [4]) (by decide +kernel) (by simp) (AllReadyIn.cons rfl (fun K hK => ?_) AllReadyIn.nil)
        go_simp
        refine hK _ _ ?_
        clear hK K
        refine wpAnyIn_ready (rs := [5]) (by decide +kernel) (by simp) (AllReadyIn.cons rfl (fun K hK => ?_) AllReadyIn.nil)
        refine stepIn_appendC rfl (.tmp 12) (.tmp 16) 23 rfl w.heap.size 47 i0 (.agg #[.int .i64 0, .int .i64 0, .int .i64 0, .int .i64 0, .int .i64 0]) 5 40 Tryd.underlying23 hi hz0 hz1 hz2 rfl (by decide) v pre.length (flatSt (pre.map (fun x => unpS (pieceZ zs x.1)))) rfl (hrowU.alloc _) ⟨wU.heap.size, 0, none⟩ 1 1 [.int .i64 y.k, .int .i64 y.e, .int .i64 y.f, .int .i64 y.s, .int .i64 y.n] rfl rfl (by exact cell_fiveP wU y _) (by simp [Value.oneCell']) (by unfold maxLen; omega) (by omega) (by have := hBU.size; simp; omega) ?_
        intro v' w1 hown' hgrow
        obtain ⟨g', cap', rfl⟩ := ownsRow_succ hown'
        obtain ⟨hv1, hv2, hr2, hk2, hb2⟩ := hvU.appended (by decide) hrowU (by have := hBU.size; omega) (Nat.le_refl _) hown' ⟨hgrow.os, hgrow.tape, hgrow.output, hgrow.size, hgrow.block⟩
        have hc1 := hv1.cell
        have hf1 := hv1.frozen
        have hS1 := ((hSU.alloc _).kept (row := v.ownBlock) ⟨hgrow.os, hgrow.tape, hgrow.output, hgrow.size, hgrow.block⟩ (hSU.not_row (by decide) hrowU)).other (B' := w.heap.size) (by omega) (.slice (some ⟨g', 0, none⟩) (pre.length + 1) cap')
        have hN1 := ((hNU.alloc _).kept (row := v.ownBlock) ⟨hgrow.os, hgrow.tape, hgrow.output, hgrow.size, hgrow.block⟩ (hNU.not_row (by decide) hrowU)).other (B' := w.heap.size) (by omega) (.slice (some ⟨g', 0, none⟩) (pre.length + 1) cap')
        refine hK _ _ ?_
        clear hK K
        refine wpAnyIn_ready (rs := [6]) (by decide +kernel) (by simp) (AllReadyIn.cons rfl (fun K hK => ?_) AllReadyIn.nil)
        go_simp
        refine hK _ _ ?_
        clear hK K
        refine wpAnyIn_done (by decide +kernel) ?_ _
        gi_wp2
        exact ⟨(hKU.trans hk2).from _, ⟨hS1.trans hS.symm, hN1.trans hNb.symm⟩, ⟨⟨_, hv2, (HFL.out _ _ hr2), trivial⟩, hS1, hN1⟩, hBU.trans hb2⟩
      · go_simp
        refine ⟨fun h => (by cases h), ?_⟩
        refine (CallsIn.inRound l (callsIn_wide.2 (HU.out _ (Below.refl _ _).drew))).mono ?_
        rintro e wU ⟨rfl, hbU⟩
        have hvU : Boxed wU w.heap.size 23 v := (hbU.block _ hv.lt).trans hv
        have hcU := hvU.cell
        have hlU := hvU.lt
        have hrowU := ((owns_hold0 hrow).drew.below hbU).out
        have hSU : Boxed wU (w.heap.size + 1) 22 (.slice (some ⟨g, 0, none⟩) M 240) := (hbU.block _ hS.lt).trans hS
        have hNU : Boxed wU (w.heap.size + 1 + 1) 3 (.int .i64 6) := (hbU.block _ hNb.lt).trans hNb
        have hKU : KeepsOthers W wU := ⟨hbU.size, fun k o hk _ => (hbU.block k (Array.getElem?_eq_some_iff.1 hk).1).trans hk⟩
        have hBU : Below w.heap.size W0 wU := hB.trans (((Below.refl _ _).drew).trans (hbU.mono (Nat.le_trans HZ.out hB.size)))
        refine hK _ _ ?_
        clear hK K
        refine wpAnyIn_ready (rs := [0, 3]) (by decide +kernel) (by simp) (AllReadyIn.cons rfl (fun K hK => ?_) (AllReadyIn.cons rfl (fun K hK => ?_) AllReadyIn.nil))
        · go_simp
          refine hK _ _ ?_
          clear hK K
          refine wpAnyIn_ready (rs := [3]) (by decide +kernel) (by simp) (AllReadyIn.cons rfl (fun K hK => ?_) AllReadyIn.nil)
          go_simp
          refine hK _ _ ?_
          clear hK K
          refine wpAnyIn_ready (rs := [4]) (by decide +kernel) (by simp) (AllReadyIn.cons rfl (fun K hK => ?_) AllReadyIn.nil)
          go_simp
          refine hK _ _ ?_
          clear hK K
          refine wpAnyIn_ready (rs := [5]) (by decide +kernel) (by simp) (AllReadyIn.cons rfl (fun K hK => ?_) AllReadyIn.nil)
          refine stepIn_appendC rfl (.tmp 12) (.tmp 16) 23 rfl w.heap.size 47 i0 (.agg #[.int .i64 0, .int .i64 0, .int .i64 0, .int .i64 0, .int .i64 0]) 5 40 Tryd.underlying23 hi hz0 hz1 hz2 rfl (by decide) v pre.length (flatSt (pre.map (fun x => unpS (pieceZ zs x.1)))) rfl (hrowU.alloc _) ⟨wU.heap.size, 0, none⟩ 1 1 [.int .i64 y.k, .int .i64 y.e, .int .i64 y.f, .int .i64 y.s, .int .i64 y.n] rfl rfl (by exact cell_fiveP wU y _) (by simp [Value.oneCell']) (by unfold maxLen; omega) (by omega) (by have := hBU.size; simp; omega) ?_
          intro v' w1 hown' hgrow
          obtain ⟨g', cap', rfl⟩ := ownsRow_succ hown'
          obtain ⟨hv1, hv2, hr2, hk2, hb2⟩ := hvU.appended (by decide) hrowU (by have := hBU.size; omega) (Nat.le_refl _) hown' ⟨hgrow.os, hgrow.tape, hgrow.output, hgrow.size, hgrow.block⟩
          have hc1 := hv1.cell
          have hf1 := hv1.frozen
          have hS1 := ((hSU.alloc _).kept (row := v.ownBlock) ⟨hgrow.os, hgrow.tape, hgrow.output, hgrow.size, hgrow.block⟩ (hSU.not_row (by decide) hrowU)).other (B' := w.heap.size) (by omega) (.slice (some ⟨g', 0, none⟩) (pre.length + 1) cap')
          have hN1 := ((hNU.alloc _).kept (row := v.ownBlock) ⟨hgrow.os, hgrow.tape, hgrow.output, hgrow.size, hgrow.block⟩ (hNU.not_row (by decide) hrowU)).other (B' := w.heap.size) (by omega) (.slice (some ⟨g', 0, none⟩) (pre.length + 1) cap')
          refine hK _ _ ?_
          clear hK K
          refine wpAnyIn_ready (rs := [6]) (by decide +kernel) (by simp) (AllReadyIn.cons rfl (fun K hK => ?_) AllReadyIn.nil)
          go_simp
          refine hK _ _ ?_
          clear hK K
          refine wpAnyIn_done (by decide +kernel) ?_ _
          gi_wp2
          exact ⟨(hKU.trans hk2).from _, ⟨hS1.trans hS.symm, hN1.trans hNb.symm⟩, ⟨⟨_, hv2, (HFL.out _ _ hr2), trivial⟩, hS1, hN1⟩, hBU.trans hb2⟩
        · go_simp
          refine hK _ _ ?_
          clear hK K
          refine wpAnyIn_ready (rs := [0, 4]) (by decide +kernel) (by simp) (AllReadyIn.cons rfl (fun K hK => ?_) (AllReadyIn.cons rfl (fun K hK => ?_) AllReadyIn.nil))
          · go_simp
            refine hK _ _ ?_
            clear hK K
            refine wpAnyIn_ready (rs := [4]) (by decide +kernel) (by simp) (AllReadyIn.cons rfl (fun K hK => ?_) AllReadyIn.nil)
            go_simp
            refine hK _ _ ?_
            clear hK K
            refine wpAnyIn_ready (rs := [5]) (by decide +kernel) (by simp) (AllReadyIn.cons rfl (fun K hK => ?_) AllReadyIn.nil)
            refine stepIn_appendC rfl (.tmp 12) (.tmp 16) 23 rfl w.heap.size 47 i0 (.agg #[.int .i64 0, .int .i64 0, .int .i64 0, .int .i64 0, .int .i64 0]) 5 40 Tryd.underlying23 hi hz0 hz1 hz2 rfl (by decide) v pre.length (flatSt (pre.map (fun x => unpS (pieceZ zs x.1)))) rfl (hrowU.alloc _) ⟨wU.heap.size, 0, none⟩ 1 1 [.int .i64 y.k, .int .i64 y.e, .int .i64 y.f, .int .i64 y.s, .int .i64 y.n] rfl rfl (by exact cell_fiveP wU y _) (by simp [Value.oneCell']) (by unfold maxLen; omega) (by omega) (by have := hBU.size; simp; omega) ?_
            intro v' w1 hown' hgrow
            obtain ⟨g', cap', rfl⟩ := ownsRow_succ hown'
            obtain ⟨hv1, hv2, hr2, hk2, hb2⟩ := hvU.appended (by decide) hrowU (by have := hBU.size; omega) (Nat.le_refl _) hown' ⟨hgrow.os, hgrow.tape, hgrow.output, hgrow.size, hgrow.block⟩
            have hc1 := hv1.cell
            have hf1 := hv1.frozen
            have hS1 := ((hSU.alloc _).kept (row := v.ownBlock) ⟨hgrow.os, hgrow.tape, hgrow.output, hgrow.size, hgrow.block⟩ (hSU.not_row (by decide) hrowU)).other (B' := w.heap.size) (by omega) (.slice (some ⟨g', 0, none⟩) (pre.length + 1) cap')
            have hN1 := ((hNU.alloc _).kept (row := v.ownBlock) ⟨hgrow.os, hgrow.tape, hgrow.output, hgrow.size, hgrow.block⟩ (hNU.not_row (by decide) hrowU)).other (B' := w.heap.size) (by omega) (.slice (some ⟨g', 0, none⟩) (pre.length + 1) cap')
            refine hK _ _ ?_
            clear hK K
            refine wpAnyIn_ready (rs := [6]) (by decide +kernel) (by simp) (AllReadyIn.cons rfl (fun K hK => ?_) AllReadyIn.nil)
            go_simp
            refine hK _ _ ?_
            clear hK K
            refine wpAnyIn_done (by decide +kernel) ?_ _
            gi_wp2
            exact ⟨(hKU.trans hk2).from _, ⟨hS1.trans hS.symm, hN1.trans hNb.symm⟩, ⟨⟨_, hv2, (HFL.out _ _ hr2), trivial⟩, hS1, hN1⟩, hBU.trans hb2⟩
          · go_simp
            refine hK _ _ ?_
            clear hK K
            refine wpAnyIn_ready (rs := [0]) (by decide +kernel) (by simp) (AllReadyIn.cons rfl (fun K hK => ?_) AllReadyIn.nil)
            go_simp
            refine hK _ _ ?_
            clear hK K
            refine wpAnyIn_ready (rs := [5]) (by decide +kernel) (by simp) (AllReadyIn.cons rfl (fun K hK => ?_) AllReadyIn.nil)
            refine stepIn_appendC rfl (.tmp 12) (.tmp 16) 23 rfl w.heap.size 47 i0 (.agg #[.int .i64 0, .int .i64 0, .int .i64 0, .int .i64 0, .int .i64 0]) 5 40 Tryd.underlying23 hi hz0 hz1 hz2 rfl (by decide) v pre.length (flatSt (pre.map (fun x => unpS (pieceZ zs x.1)))) rfl (hrowU.alloc _) ⟨wU.heap.size, 0, none⟩ 1 1 [.int .i64 y.k, .int .i64 y.e, .int .i64 y.f, .int .i64 y.s, .int .i64 y.n] rfl rfl (by exact cell_fiveP wU y _) (by simp [Value.oneCell']) (by unfold maxLen; omega) (by omega) (by have := hBU.size; simp; omega) ?_
            intro v' w1 hown' hgrow
            obtain ⟨g', cap', rfl⟩ := ownsRow_succ hown'
            obtain ⟨hv1, hv2, hr2, hk2, hb2⟩ := hvU.appended (by decide) hrowU (by have := hBU.size; omega) (Nat.le_refl _) hown' ⟨hgrow.os, hgrow.tape, hgrow.output, hgrow.size, hgrow.block⟩
            have hc1 := hv1.cell
            have hf1 := hv1.frozen
            have hS1 := ((hSU.alloc _).kept (row := v.ownBlock) ⟨hgrow.os, hgrow.tape, hgrow.output, hgrow.size, hgrow.block⟩ (hSU.not_row (by decide) hrowU)).other (B' := w.heap.size) (by omega) (.slice (some ⟨g', 0, none⟩) (pre.length + 1) cap')
            have hN1 := ((hNU.alloc _).kept (row := v.ownBlock) ⟨hgrow.os, hgrow.tape, hgrow.output, hgrow.size, hgrow.block⟩ (hNU.not_row (by decide) hrowU)).other (B' := w.heap.size) (by omega) (.slice (some ⟨g', 0, none⟩) (pre.length + 1) cap')
            refine hK _ _ ?_
            clear hK K
            refine wpAnyIn_ready (rs := [6]) (by decide +kernel) (by simp) (AllReadyIn.cons rfl (fun K hK => ?_) AllReadyIn.nil)
            go_simp
            refine hK _ _ ?_
            clear hK K
            refine wpAnyIn_done (by decide +kernel) ?_ _
            gi_wp2
            exact ⟨(hKU.trans hk2).from _, ⟨hS1.trans hS.symm, hN1.trans hNb.symm⟩, ⟨⟨_, hv2, (HFL.out _ _ hr2), trivial⟩, hS1, hN1⟩, hBU.trans hb2⟩
  case done =>
    rintro D ys W hD hys ⟨⟨⟨v, hv, hrow, _⟩, _⟩, hB⟩ hK
    have hyl : ys.length = N := by
      have q := congrArg List.length hys
      rw [List.length_map, List.length_range] at q
      exact q
    have hmap : ys.map (fun x : P40 => unpS (pieceZ zs x.1)) = (List.range N).map (fun k => unpS (pieceZ zs k)) := by
      rw [← hys, List.map_map]
      rfl
    rw [hyl, hmap] at hrow
    obtain ⟨a, cap, rfl⟩ := owns_isSlice hrow
    have hc := hv.cell
    have HRW := hidQ hrow
    have hlw := hv.lt
    clear hmap hyl
    gi_wp2
    refine ⟨by simp, .inl ⟨_, _, rfl, run_takeDeferred hK, ?_⟩⟩
    refine ⟨_, results_tmp rfl _ _ _, a, cap, rfl, ownsRow_putObj HRW.out _ hK rfl, ?_⟩
    exact (HB0.out.trans hB).trans (belowK_b (w := w) (Nat.le_refl _) W D _ _ (by omega) hK rfl rfl)
  case stop =>
    rintro D c pre W _ _ h _
    exact h.elim

theorem said_c (g N : Nat) (zs : List Int) (w : World) (h : PgAt w g zs) (he : EndAt zs N) (hE : ErrAt 0 w) :
    Calls Tryd.prog 19 #[.pointer (some ⟨g, 0, none⟩)] w fun e W' => ∃ a cap, e = .returned (.slice a N cap) ∧ W'.ownsRow w.heap.size 47 5 (.slice a N cap) N (flatSt ((List.range N).map (fun k => unpS (pieceZ zs k)))) ∧ Below w.heap.size w W' :=
  callsIn_wide.1 (said_w 3 (Nat.le_refl _) g N zs w h he hE)

end Go.Proofs.YtnlmoapopdchkaaDoor
