/-
  CONTRACTS: chapter 11: the words of a page; PackLog of both programs.
  Conditions: each contract bears its own.
-/
import Derived.Test.YtnlmoapopdchkaaPg0
import Derived.Deep.CutBlock
namespace Go.Proofs.Ytnlmoapopdchkaa
open Go.RowKit
set_option linter.unusedVariables false
set_option linter.unusedSimpArgs false

theorem Try.infoP2 : (Try.prog.info? 2).map (fun i => (i.zero, i.size, i.bytes)) = some (some (.int .i64 0), 1, 8) := by kernel_rfl

theorem step_appendP {P : Program} {w : World} {ops : Array Oper} {o : Oper} {a : Act} {K : Act → World → Prop} {Q : Exit → Act → World → Prop} {E : Prop} (hgd : o.guard = none) (s x : Operand) (t : TypeId)
    (ho : o.op = .call { callee := .builtin .append, args := #[s, x], argTypes := #[t, t] })
    (base : Nat) (e : TypeId) (i : TypeInfo) (z : Value) (size bytes : Nat) (ht : P.underlying t = some (.slice e)) (hi : P.info? e = some i) (hz : i.zero = some z)
    (hsize : i.size = size) (hby : i.bytes = bytes) (hzs : z.cells.size = size) (hsz : 0 < size)
    (v : Value) (n : Nat) (xs : List Value) (hs : a.eval s = v) (hown : w.ownsRow base e size v n xs)
    (ad : Addr) (m c : Nat) (news : List Value) (hx : a.eval x = .slice (some ad) m c) (hl : news.length = m * size) (hnews : ∀ j u, news[j]? = some u → w.cell? (ad.add j) = some u) (h1 : ∀ u ∈ news, u.oneCell' = true)
    (h63 : n + m ≤ maxLen) (hbytes : (n + m) * bytes ≤ 140737488355328) (hbase : base ≤ w.heap.size)
    (h : ∀ v' w', w'.ownsRow base e size v' (n + m) (xs ++ news) → w.grownBy w' v.ownBlock → (v' = .slice none 0 0 ↔ v = .slice none 0 0 ∧ m = 0) → K (a.put o.dst v') w') :
    if Region.wanted o (yielded ops a.tmps) = true then Oper.wp P o a w K Q else E := by
  have hw : Region.wanted o (yielded ops a.tmps) = true := by simp [Region.wanted, hgd]
  rw [if_pos hw]
  exact wp_append_own w s x t ho base e i z size bytes ht hi hz hsize hby hzs hsz v n xs hs hown ad m c news hx hl hnews h1 h63 hbytes hbase h

theorem owns_isSlice {w : World} {B : Nat} {e : TypeId} {size : Nat} {v : Value} {n : Nat} {xs : List Value} (h : w.ownsRow B e size v n xs) : ∃ a c, v = .slice a n c := by
  rcases h.2 with ⟨h', h0⟩ | ⟨g, cap, cur, h', _⟩
  · exact ⟨none, 0, by rw [h', h0]⟩
  · exact ⟨_, _, h'⟩

set_option maxRecDepth 20000 in
set_option maxHeartbeats 2000000 in
theorem pageWords_c (g N : Nat) (zs : List Int) (w : World) (h : PgAt w g zs) (he : EndAt zs N) :
    Calls Try.prog 18 #[.pointer (some ⟨g, 0, none⟩)] w fun e w' => ∃ a cap, e = .returned (.slice a (N * 6) cap) ∧ w'.ownsRow w.heap.size 2 1 (.slice a (N * 6) cap) (N * 6) (vI (zs.take (N * 6))) ∧ Below w.heap.size w w' := by
  have hN : N ≤ 40 := he.1
  have HEN0 : ∀ W : World, Below w.heap.size w W → Calls Try.prog 27 #[.pointer (some ⟨g, 0, none⟩)] W fun e w' => e = .returned (.int .i64 ((N * 6 : Nat) : Int)) ∧ W = w' := fun W hW => pageEnd_c g N zs W (h.below hW) he
  obtain ⟨m, hm⟩ : ∃ m, N * 6 = m := ⟨_, rfl⟩
  rw [hm] at HEN0 ⊢
  have HEN := hidQ HEN0
  have hm2 : m ≤ 240 := by omega
  have HL : Hid ((vI (zs.take m)).length = m) := by show _ = _; rw [vI_len, List.length_take]; have := h.ln; omega
  have HNW : Hid (∀ W : World, Below w.heap.size w W → ∀ j u, (vI (zs.take m))[j]? = some u → W.cell? ((⟨g, 0, none⟩ : Addr).add j) = some u) := fun W hW j u e => by
    obtain ⟨x, e1, rfl⟩ := vI_of e
    rw [Go.WideShapes.add_plain, Nat.zero_add]
    refine (h.below hW).cell ?_
    rw [List.getElem?_take] at e1
    split at e1
    · exact e1
    · cases e1
  obtain ⟨i0, hi, hz0, hz1, hz2⟩ := info_parts Try.infoP2
  have hsl := pgSlice_upto g m hm2
  clear h he hm HEN0 hN
  go_enter Try.func18, Try.ntmps18
  go_upto_region 1 with fail
  refine wp_region_held_drew (S := fun w' => Below w.heap.size w w') (by kernel_rfl) ((Below.refl _ _).drew) (fun hHeld => ?_)
  refine wpAnyH_take (i := 0) (v := ?_) rfl (by kernel_rfl) (by kernel_rfl) (by kernel_rfl) (fun _ _ _ h => h) (Or.inl ⟨by kernel_rfl, ?_⟩) (by assumption) ?_
  rotate_left 1
  · intro w hSw; (try dsimp only at hSw); go_simp; try (with_reducible rfl)
  try simp only [Act.put, List.getElem_toArray, List.getElem_cons_succ, List.getElem_cons_zero, List.setIfInBounds_toArray, List.set_cons_zero, List.set_cons_succ]
  refine wpAnyH_take (i := 1) (v := ?_) rfl (by kernel_rfl) (by kernel_rfl) (by kernel_rfl) (fun _ _ _ h => h) (Or.inl ⟨by kernel_rfl, ?_⟩) (by assumption) ?_
  rotate_left 1
  · intro w hSw; (try dsimp only at hSw); go_simp; try (with_reducible rfl)
  try simp only [Act.put, List.getElem_toArray, List.getElem_cons_succ, List.getElem_cons_zero, List.setIfInBounds_toArray, List.set_cons_zero, List.set_cons_succ]
  refine wpAnyH_take (i := 2) (v := ?_) rfl (by kernel_rfl) (by kernel_rfl) (by kernel_rfl) (fun _ _ _ h => h) (Or.inl ⟨by kernel_rfl, ?_⟩) (by assumption) ?_
  rotate_left 1
  · intro w hSw; (try dsimp only at hSw); go_simp; try (with_reducible rfl)
  try simp only [Act.put, List.getElem_toArray, List.getElem_cons_succ, List.getElem_cons_zero, List.setIfInBounds_toArray, List.set_cons_zero, List.set_cons_succ]
  refine wpAnyH_ready (rs := [3]) (by kernel_rfl) (by simp) ?_
  refine AllReadyH.cons rfl (fun K hK => ?_) AllReadyH.nil
  go_simp
  refine (HEN.out _ (by assumption)).mono ?_
  rintro d wA ⟨rfl, rfl⟩
  have hS := hHeld
  refine hK.out _ _ hS (fun hHeld => ?_)
  clear hK K
  try simp only [Act.put, List.getElem_toArray, List.getElem_cons_succ, List.getElem_cons_zero, List.setIfInBounds_toArray, List.set_cons_zero, List.set_cons_succ]
  refine wpAnyH_take (i := 4) (v := ?_) rfl (by kernel_rfl) (by kernel_rfl) (by kernel_rfl) (fun _ _ _ h => h) (Or.inl ⟨by kernel_rfl, ?_⟩) (by assumption) ?_
  rotate_left 1
  · intro w hSw; (try dsimp only at hSw); go_simp; try (with_reducible rfl)
  try simp only [Act.put, List.getElem_toArray, List.getElem_cons_succ, List.getElem_cons_zero, List.setIfInBounds_toArray, List.set_cons_zero, List.set_cons_succ]
  refine wpAnyH_ready (rs := [5]) (by kernel_rfl) (by simp) ?_
  refine AllReadyH.cons rfl (fun K hK => ?_) AllReadyH.nil
  refine step_appendP rfl (.const (.slice none 0 0)) (.tmp 7) 24 rfl w.heap.size 2 i0 (.int .i64 0) 1 8 Try.underlying24 hi hz0 hz1 hz2 rfl (by decide) (.slice none 0 0) 0 [] (by rfl) (World.ownsRow_nil _ _ _ _) ⟨g, 0, none⟩ m 240 (vI (zs.take m)) (by rfl) (by rw [HL.out]; omega) (HNW.out _ hHeld) (vI_one _) (by unfold maxLen; omega) (by omega) hHeld.size ?_
  intro v5 w5 hown5 hgrow5 hnil5
  have hS : Below w.heap.size w w5 := hHeld.grown hgrow5 hHeld.size (fun q e => by cases e)
  have H5 : Hid (w5.ownsRow w.heap.size 2 1 v5 m (vI (zs.take m))) := by have q := hown5; rw [Nat.zero_add, List.nil_append] at q; exact q
  clear hown5 hnil5 hgrow5
  refine hK.out _ _ hS (fun hHeld => ?_)
  clear hK K
  try simp only [Act.put, List.getElem_toArray, List.getElem_cons_succ, List.getElem_cons_zero, List.setIfInBounds_toArray, List.set_cons_zero, List.set_cons_succ]
  refine wpAnyH_ready (rs := [6]) (by kernel_rfl) (by simp) ?_
  refine AllReadyH.cons rfl (fun K hK => ?_) AllReadyH.nil
  go_simp
  refine hK.out _ _ (by assumption) (fun hHeld => ?_)
  clear hK K
  try simp only [Act.put, List.getElem_toArray, List.getElem_cons_succ, List.getElem_cons_zero, List.setIfInBounds_toArray, List.set_cons_zero, List.set_cons_succ]
  refine wpAnyH_done (by kernel_rfl) ?_ _
  have B5 := hidQ hHeld
  obtain ⟨a5, c5, hv5⟩ : ∃ a c, v5 = .slice a m c := owns_isSlice H5.out
  subst hv5
  clear hHeld hsl
  go_wp2_with fail
  go_ret
  exact ⟨a5, c5, rfl, H5.out, B5.out⟩

/-- The words of the first statements. -/
def packTo (xs : List StI) (k : Nat) : List Int := (xs.take k).flatMap packL

theorem packL_len (x : StI) : (packL x).length = 6 := rfl

theorem packTo_next {xs : List StI} {k : Nat} {x : StI} (h : xs[k]? = some x) : packTo xs (k + 1) = packTo xs k ++ packL x := by
  unfold packTo
  rw [List.take_add_one, h]
  simp

theorem packTo_len {xs : List StI} {k : Nat} (h : k ≤ xs.length) : (packTo xs k).length = k * 6 := by
  induction k with
  | zero => rfl
  | succ k ih =>
    obtain ⟨x, hx⟩ : ∃ x, xs[k]? = some x := ⟨_, List.getElem?_eq_getElem (by omega)⟩
    rw [packTo_next hx, List.length_append, ih (by omega), packL_len]
    omega

/-- The first code of the first statements. -/
def fcTo (xs : List StI) : Nat → Int
  | 0 => 0
  | k + 1 => if fcTo xs k = 0 then (match xs[k]? with | none => 0 | some x => stCode x) else fcTo xs k

def plCode (xs : List StI) : Int := if 40 < xs.length then 2 else fcTo xs xs.length
def plL (xs : List StI) : List Int := if plCode xs = 0 then packTo xs xs.length else []

theorem fc_next {xs : List StI} {k : Nat} {x : StI} (h : fcTo xs k = 0) (hx : xs[k]? = some x) : fcTo xs (k + 1) = stCode x := by
  simp [fcTo, h, hx]

theorem fc_stay {xs : List StI} {k m : Nat} (h : fcTo xs k ≠ 0) (hm : k ≤ m) : fcTo xs m = fcTo xs k := by
  induction m with
  | zero => obtain rfl : k = 0 := by omega
            rfl
  | succ m ih =>
    by_cases e : k = m + 1
    · subst e; rfl
    · have q := ih (by omega)
      simp only [fcTo]
      rw [q, if_neg h]

theorem boxW_keep {b : Nat} {vs : List Value} {W W' : World} (h : BoxW b vs W) (hk : W'.heap[b]? = W.heap[b]?) : BoxW b vs W' :=
  ⟨fun j v e => (World.cell?_of_block (w := W) (w' := W') (a := ⟨b, j, none⟩) hk).trans (h.1 j v e), fun j => (World.frozen?_of_block (w := W) (w' := W') (a := ⟨b, j, none⟩) hk).trans (h.2 j)⟩

/-- What stands in the loop of the model's PackLog. -/
structure PLS (w : World) (xs : List StI) (k : Nat) (v : Value) (wr : World) : Prop where
  rs : BoxW w.heap.size [.int .i64 0, .slice none 0 0] wr
  ot : BoxW (w.heap.size + 1) [.int .i64 0, v] wr
  ow : wr.ownsRow (w.heap.size + 2) 2 1 v (k * 6) (vI (packTo xs k))
  bl : Below w.heap.size w wr
  le : w.heap.size + 2 ≤ wr.heap.size

theorem PLS.step {w : World} {xs : List StI} {k : Nat} {v : Value} {wr : World} (h : PLS w xs k v wr) {x : StI} (hx : xs[k]? = some x) {w6 : World} {v6 : Value} (hb : Below (w.heap.size + 2) wr w6) (how : w6.ownsRow (w.heap.size + 2) 2 1 v6 (k * 6 + 6) (vI (packTo xs k) ++ vI (packL x))) : PLS w xs (k + 1) v6 (w6.setCell ⟨w.heap.size + 1, 1, none⟩ v6) := by
  refine ⟨(boxW_keep h.rs (hb.block _ (by omega))).other (by show w.heap.size + 1 ≠ w.heap.size; omega) _, ?_, ?_, ?_, ?_⟩
  · have q := (boxW_keep h.ot (hb.block _ (by omega))).put 1 (by simp) v6
    exact q
  · rw [packTo_next hx, show (k + 1) * 6 = k * 6 + 6 by omega]
    refine ownsE_set ?_ (by show w.heap.size + 1 < w.heap.size + 2; omega) _
    have e : vI (packTo xs k ++ packL x) = vI (packTo xs k) ++ vI (packL x) := by simp [vI]
    rw [e]
    exact how
  · exact (h.bl.trans (hb.mono (by omega))).setCell (by show w.heap.size ≤ w.heap.size + 1; omega) _
  · simp only [World.size_setCell]
    exact Nat.le_trans h.le hb.size

/-- What a call of PackLog gives. -/
def GivesPl (f : Nat) (a : Option Addr) (n cap : Nat) (c : Int) (ys : List Int) (w : World) : Prop := Calls Try.prog f #[.slice a n cap] w fun e w' => ∃ a cap, e = .returned (.agg #[.int .i64 c, .slice a ys.length cap]) ∧ w'.ownsRow w.heap.size 2 1 (.slice a ys.length cap) ys.length (ys.map (Value.int .i64)) ∧ Below w.heap.size w w'

set_option maxRecDepth 20000 in
set_option maxHeartbeats 2000000 in
theorem specPackLog_c (a : Option Addr) (n cap : Nat) (xs : List StI) (w : World) (hn : n ≤ 1048576) (h : StIn w a n xs) : GivesPl 5 a n cap (plCode xs) (plL xs) w := by
  have HX := hidQ h
  have hxl : xs.length = n := h.1
  have HXL := hidQ hxl
  have hni : (n : Int) ≤ 1048576 := by omega
  obtain ⟨K, hK⟩ : ∃ K, plCode xs = K := ⟨_, rfl⟩
  obtain ⟨Y, hY⟩ : ∃ Y, plL xs = Y := ⟨_, rfl⟩
  have HK : Hid (plCode xs = K ∧ plL xs = Y) := ⟨hK, hY⟩
  unfold GivesPl
  rw [hK, hY]
  clear h hK hY
  by_cases h40 : 40 < n
  · have h40' : (40 : Int) < (n : Int) := by omega
    have HE : Hid (K = 2 ∧ Y = []) := by
      have e : plCode xs = 2 := by unfold plCode; rw [if_pos (by rw [HXL.out]; exact h40)]
      refine ⟨by rw [← HK.out.1, e], ?_⟩
      rw [← HK.out.2]
      unfold plL
      rw [e]; rfl
    clear HK hxl
    go_enter Try.func5, Try.ntmps5
    go_wp2_with fail
    refine bodyPost_ret (v := .agg #[.int .i64 2, .slice none 0 0]) (by simp [results, Try.results5, go_sem]) rfl ?_
    rw [HE.out.1, HE.out.2]
    exact ⟨none, 0, rfl, World.ownsRow_nil _ _ _ _, by go_grown⟩
  have h40' : ¬ ((40 : Int) < (n : Int)) := by omega
  obtain ⟨i0, hi, hz0, hz1, hz2⟩ := info_parts Try.infoP2
  obtain ⟨V, hV⟩ : ∃ V, V = (w.alloc (.cells #[.int .i64 0, .slice none 0 0] 26)).alloc (.cells #[.int .i64 0, .slice none 0 0] 26) := ⟨_, rfl⟩
  have P0 : Hid (PLS w xs 0 (.slice none 0 0) V) := by
    have A0 : Below w.heap.size w V := by rw [hV]; exact ((Below.refl _ _).alloc (Nat.le_refl _) _).alloc (by simp) _
    refine ⟨?_, ?_, World.ownsRow_nil _ _ _ _, A0, by rw [hV]; simp⟩
    · rw [hV]
      exact BoxW.below (boxW_new w _ _) (by simp) ((Below.refl _ _).alloc (Nat.le_refl _) _)
    · rw [hV]
      have q := boxW_new (w.alloc (.cells #[.int .i64 0, .slice none 0 0] 26)) #[.int .i64 0, .slice none 0 0] 26
      simp only [World.size_alloc] at q
      exact q
  clear hxl
  go_enter Try.func5, Try.ntmps5
  go_upto_region 4 with fail
  rw [← hV]
  clear hV
  go_wp2_with fail
  go_loopw [4] (fun i wr => ∃ (k : Nat) (v : Value), k ≤ n ∧ i = .int .i64 (k : Int) ∧ Hid (fcTo xs k = 0) ∧ Hid (PLS w xs k v wr)) (fun i _ => n - (intOf i).toNat)
  case atStart => exact ⟨0, _, Nat.zero_le _, rfl, rfl, P0⟩
  case round =>
    clear P0
    obtain ⟨k, v, hk, rfl, HC, HP⟩ := hrel
    have c20 := HP.out.rs.1 0 _ rfl
    have c21 := HP.out.rs.1 1 _ rfl
    have f20 := HP.out.rs.2 0
    have f21 := HP.out.rs.2 1
    have c30 := HP.out.ot.1 0 _ rfl
    have c31 := HP.out.ot.1 1 _ rfl
    have f31 := HP.out.ot.2 1
    have h31 : w.heap.size + 1 < wr.heap.size := HP.out.le
    have h21 : w.heap.size < wr.heap.size := by omega
    by_cases hlt : k < n
    · have hlt' : (k : Int) < (n : Int) := by omega
      have hk0 : (0 : Int) ≤ (k : Int) := by omega
      obtain ⟨b, off, x, ea, hx, hat, hbl⟩ := (HX.out.below HP.out.bl).at hlt
      subst ea
      have HXK := hidQ hx
      have HXA := hidQ hat
      obtain ⟨d, hd⟩ : ∃ d, stCode x = d := ⟨_, rfl⟩
      have HD := hidQ hd
      have HF : Hid (Calls Try.prog 13 #[.pointer (some ⟨b, off + k * 5, none⟩)] wr fun e w' => e = .returned (.int .i64 d) ∧ wr = w') := by rw [← hd]; exact l7Fault_c b (off + k * 5) x wr hat
      clear hx hat hd
      go_wp2_with fail
      refine HF.out.mono ?_
      rintro e w1 ⟨rfl, rfl⟩
      clear HF
      by_cases hd0 : d = 0
      · subst hd0
        have HX0 : Hid (stCode x = 0) := HD.out
        have HC6 : Hid (fcTo xs (k + 1) = 0) := by show _ = _; rw [fc_next HC.out HXK.out]; exact HD.out
        clear c20 c21 f20 f21 c30 h21
        go_upto_region 10 with fail
        refine wp_region_held_drew (S := fun _ => True) (by kernel_rfl) (True.intro) (fun hHeld => ?_)
        refine wpAnyH_take (i := 0) (v := ?_) rfl (by kernel_rfl) (by kernel_rfl) (by kernel_rfl) (fun _ _ _ h => h) (Or.inl ⟨by kernel_rfl, ?_⟩) (by assumption) ?_
        rotate_left 1
        · intro w hSw; (try dsimp only at hSw); go_simp; try (with_reducible rfl)
        try simp only [Act.put, List.getElem_toArray, List.getElem_cons_succ, List.getElem_cons_zero, List.setIfInBounds_toArray, List.set_cons_zero, List.set_cons_succ]
        refine wpAnyH_take (i := 2) (v := ?_) rfl (by kernel_rfl) (by kernel_rfl) (by kernel_rfl) (fun _ _ _ h => h) (Or.inl ⟨by kernel_rfl, ?_⟩) (by assumption) ?_
        rotate_left 1
        · intro w hSw; (try dsimp only at hSw); go_simp; try (with_reducible rfl)
        try simp only [Act.put, List.getElem_toArray, List.getElem_cons_succ, List.getElem_cons_zero, List.setIfInBounds_toArray, List.set_cons_zero, List.set_cons_succ]
        refine wpAnyH_take (i := 3) (v := ?_) rfl (by kernel_rfl) (by kernel_rfl) (by kernel_rfl) (fun _ _ _ h => h) (Or.inl ⟨by kernel_rfl, ?_⟩) (by assumption) ?_
        rotate_left 1
        · intro w hSw; (try dsimp only at hSw); go_simp; try (with_reducible rfl)
        try simp only [Act.put, List.getElem_toArray, List.getElem_cons_succ, List.getElem_cons_zero, List.setIfInBounds_toArray, List.set_cons_zero, List.set_cons_succ]
        refine wpAnyH_take (i := 4) (v := ?_) rfl (by kernel_rfl) (by kernel_rfl) (by kernel_rfl) (fun _ _ _ h => h) (Or.inl ⟨by kernel_rfl, ?_⟩) (by assumption) ?_
        rotate_left 1
        · intro w hSw; (try dsimp only at hSw); go_simp; try (with_reducible rfl)
        try simp only [Act.put, List.getElem_toArray, List.getElem_cons_succ, List.getElem_cons_zero, List.setIfInBounds_toArray, List.set_cons_zero, List.set_cons_succ]
        refine wpAnyH_ready (rs := [1, 5]) (by kernel_rfl) (by simp) ?_
        refine AllReadyH.cons rfl (fun K hK => ?_) (AllReadyH.cons rfl (fun K hK => ?_) AllReadyH.nil)
        · go_simp
          have hS : True := True.intro
          refine hK.out _ _ hS (fun hHeld => ?_)
          clear hK K
          try simp only [Act.put, List.getElem_toArray, List.getElem_cons_succ, List.getElem_cons_zero, List.setIfInBounds_toArray, List.set_cons_zero, List.set_cons_succ]
          refine wpAnyH_ready (rs := [5]) (by kernel_rfl) (by simp) ?_
          refine AllReadyH.cons rfl (fun K hK => ?_) AllReadyH.nil
          go_simp
          refine (l7Pack_c b (off + k * 5) x _ (HXA.out.below (Below.refl _ _).drew hbl) HX0.out).mono ?_
          rintro d wA ⟨rfl, howA, hbA⟩
          have hS : True := True.intro
          have PA := hidQ howA
          have OA : Hid (wA.ownsRow (w.heap.size + 2) 2 1 v (k * 6) (vI (packTo xs k))) := ((owns_hold0 HP.out.ow).drew.below hbA).out
          have BA : Hid (Below (w.heap.size + 2) wr wA) := ((Below.refl _ _).drew).trans (hbA.mono HP.out.le)
          have cA : wA.cell? ⟨w.heap.size + 1, 1, none⟩ = some v := (BA.out.cell (p := ⟨w.heap.size + 1, 1, none⟩) (by show w.heap.size + 1 < w.heap.size + 2; omega)).trans c31
          have fA : wA.frozen? ⟨w.heap.size + 1, 1, none⟩ = false := (BA.out.frozen (p := ⟨w.heap.size + 1, 1, none⟩) (by show w.heap.size + 1 < w.heap.size + 2; omega)).trans f31
          have lA : w.heap.size + 1 < wA.heap.size := Nat.lt_of_lt_of_le h31 BA.out.size
          clear howA hbA
          refine hK.out _ _ hS (fun hHeld => ?_)
          clear hK K
          try simp only [Act.put, List.getElem_toArray, List.getElem_cons_succ, List.getElem_cons_zero, List.setIfInBounds_toArray, List.set_cons_zero, List.set_cons_succ]
          refine wpAnyH_ready (rs := [6]) (by kernel_rfl) (by simp) ?_
          refine AllReadyH.cons rfl (fun K hK => ?_) AllReadyH.nil
          refine step_appendP rfl (.tmp 26) (.tmp 30) 24 rfl (w.heap.size + 2) 2 i0 (.int .i64 0) 1 8 Try.underlying24 hi hz0 hz1 hz2 rfl (by decide) v (k * 6) (vI (packTo xs k)) (by rfl) OA.out _ 6 6 (vI (packL x)) (by rfl) (by rfl) (PA.out.cells rfl) (vI_one _) (by unfold maxLen; omega) (by omega) (Nat.le_trans HP.out.le BA.out.size) ?_
          intro v6 w6 hown6 hgrow6 hnil6
          obtain ⟨a6, cc6, hv6⟩ := owns_isSlice hown6
          subst hv6
          have hS : True := True.intro
          have H6 := hidQ hown6
          have B6 : Hid (Below (w.heap.size + 2) wr w6) := BA.out.grown hgrow6 (Nat.le_trans HP.out.le BA.out.size) (fun q e => (OA.out.lt q e).1)
          have c6 : w6.cell? ⟨w.heap.size + 1, 1, none⟩ = some v := (B6.out.cell (p := ⟨w.heap.size + 1, 1, none⟩) (by show w.heap.size + 1 < w.heap.size + 2; omega)).trans c31
          have f6 : w6.frozen? ⟨w.heap.size + 1, 1, none⟩ = false := (B6.out.frozen (p := ⟨w.heap.size + 1, 1, none⟩) (by show w.heap.size + 1 < w.heap.size + 2; omega)).trans f31
          have l6 : w.heap.size + 1 < w6.heap.size := Nat.lt_of_lt_of_le h31 B6.out.size
          clear hown6 hgrow6 hnil6
          refine hK.out _ _ hS (fun hHeld => ?_)
          clear hK K
          try simp only [Act.put, List.getElem_toArray, List.getElem_cons_succ, List.getElem_cons_zero, List.setIfInBounds_toArray, List.set_cons_zero, List.set_cons_succ]
          refine wpAnyH_take (i := 7) (v := ?_) rfl (by kernel_rfl) (by kernel_rfl) (by kernel_rfl) (fun _ _ _ h => h) (Or.inl ⟨by kernel_rfl, ?_⟩) (by assumption) ?_
          rotate_left 1
          · intro w hSw; (try dsimp only at hSw); go_simp; try (with_reducible rfl)
          try simp only [Act.put, List.getElem_toArray, List.getElem_cons_succ, List.getElem_cons_zero, List.setIfInBounds_toArray, List.set_cons_zero, List.set_cons_succ]
          refine wpAnyH_ready (rs := [8]) (by kernel_rfl) (by simp) ?_
          refine AllReadyH.cons rfl (fun K hK => ?_) AllReadyH.nil
          go_simp
          have hS : True := True.intro
          refine hK.out _ _ hS (fun hHeld => ?_)
          clear hK K
          try simp only [Act.put, List.getElem_toArray, List.getElem_cons_succ, List.getElem_cons_zero, List.setIfInBounds_toArray, List.set_cons_zero, List.set_cons_succ]
          refine wpAnyH_done (by kernel_rfl) ?_ _
          have HN := hidQ (HP.out.step HXK.out B6.out H6.out)
          clear hHeld c31 f31 h31 cA fA lA c6 f6 l6
          go_wp2_with fail
          exact ⟨⟨k + 1, _, by omega, by go_num, HC6, HN⟩, by simp [intOf]; omega⟩
        · go_simp
          refine (l7Pack_c b (off + k * 5) x _ (HXA.out.below (Below.refl _ _).drew hbl) HX0.out).mono ?_
          rintro d wA ⟨rfl, howA, hbA⟩
          have hS : True := True.intro
          have PA := hidQ howA
          have OA : Hid (wA.ownsRow (w.heap.size + 2) 2 1 v (k * 6) (vI (packTo xs k))) := ((owns_hold0 HP.out.ow).drew.below hbA).out
          have BA : Hid (Below (w.heap.size + 2) wr wA) := ((Below.refl _ _).drew).trans (hbA.mono HP.out.le)
          have cA : wA.cell? ⟨w.heap.size + 1, 1, none⟩ = some v := (BA.out.cell (p := ⟨w.heap.size + 1, 1, none⟩) (by show w.heap.size + 1 < w.heap.size + 2; omega)).trans c31
          have fA : wA.frozen? ⟨w.heap.size + 1, 1, none⟩ = false := (BA.out.frozen (p := ⟨w.heap.size + 1, 1, none⟩) (by show w.heap.size + 1 < w.heap.size + 2; omega)).trans f31
          have lA : w.heap.size + 1 < wA.heap.size := Nat.lt_of_lt_of_le h31 BA.out.size
          clear howA hbA
          refine hK.out _ _ hS (fun hHeld => ?_)
          clear hK K
          try simp only [Act.put, List.getElem_toArray, List.getElem_cons_succ, List.getElem_cons_zero, List.setIfInBounds_toArray, List.set_cons_zero, List.set_cons_succ]
          refine wpAnyH_ready (rs := [1]) (by kernel_rfl) (by simp) ?_
          refine AllReadyH.cons rfl (fun K hK => ?_) AllReadyH.nil
          go_simp
          have hS : True := True.intro
          refine hK.out _ _ hS (fun hHeld => ?_)
          clear hK K
          try simp only [Act.put, List.getElem_toArray, List.getElem_cons_succ, List.getElem_cons_zero, List.setIfInBounds_toArray, List.set_cons_zero, List.set_cons_succ]
          refine wpAnyH_ready (rs := [6]) (by kernel_rfl) (by simp) ?_
          refine AllReadyH.cons rfl (fun K hK => ?_) AllReadyH.nil
          refine step_appendP rfl (.tmp 26) (.tmp 30) 24 rfl (w.heap.size + 2) 2 i0 (.int .i64 0) 1 8 Try.underlying24 hi hz0 hz1 hz2 rfl (by decide) v (k * 6) (vI (packTo xs k)) (by rfl) OA.out _ 6 6 (vI (packL x)) (by rfl) (by rfl) (PA.out.cells rfl) (vI_one _) (by unfold maxLen; omega) (by omega) (Nat.le_trans HP.out.le BA.out.size) ?_
          intro v6 w6 hown6 hgrow6 hnil6
          obtain ⟨a6, cc6, hv6⟩ := owns_isSlice hown6
          subst hv6
          have hS : True := True.intro
          have H6 := hidQ hown6
          have B6 : Hid (Below (w.heap.size + 2) wr w6) := BA.out.grown hgrow6 (Nat.le_trans HP.out.le BA.out.size) (fun q e => (OA.out.lt q e).1)
          have c6 : w6.cell? ⟨w.heap.size + 1, 1, none⟩ = some v := (B6.out.cell (p := ⟨w.heap.size + 1, 1, none⟩) (by show w.heap.size + 1 < w.heap.size + 2; omega)).trans c31
          have f6 : w6.frozen? ⟨w.heap.size + 1, 1, none⟩ = false := (B6.out.frozen (p := ⟨w.heap.size + 1, 1, none⟩) (by show w.heap.size + 1 < w.heap.size + 2; omega)).trans f31
          have l6 : w.heap.size + 1 < w6.heap.size := Nat.lt_of_lt_of_le h31 B6.out.size
          clear hown6 hgrow6 hnil6
          refine hK.out _ _ hS (fun hHeld => ?_)
          clear hK K
          try simp only [Act.put, List.getElem_toArray, List.getElem_cons_succ, List.getElem_cons_zero, List.setIfInBounds_toArray, List.set_cons_zero, List.set_cons_succ]
          refine wpAnyH_take (i := 7) (v := ?_) rfl (by kernel_rfl) (by kernel_rfl) (by kernel_rfl) (fun _ _ _ h => h) (Or.inl ⟨by kernel_rfl, ?_⟩) (by assumption) ?_
          rotate_left 1
          · intro w hSw; (try dsimp only at hSw); go_simp; try (with_reducible rfl)
          try simp only [Act.put, List.getElem_toArray, List.getElem_cons_succ, List.getElem_cons_zero, List.setIfInBounds_toArray, List.set_cons_zero, List.set_cons_succ]
          refine wpAnyH_ready (rs := [8]) (by kernel_rfl) (by simp) ?_
          refine AllReadyH.cons rfl (fun K hK => ?_) AllReadyH.nil
          go_simp
          have hS : True := True.intro
          refine hK.out _ _ hS (fun hHeld => ?_)
          clear hK K
          try simp only [Act.put, List.getElem_toArray, List.getElem_cons_succ, List.getElem_cons_zero, List.setIfInBounds_toArray, List.set_cons_zero, List.set_cons_succ]
          refine wpAnyH_done (by kernel_rfl) ?_ _
          have HN := hidQ (HP.out.step HXK.out B6.out H6.out)
          clear hHeld c31 f31 h31 cA fA lA c6 f6 l6
          go_wp2_with fail
          exact ⟨⟨k + 1, _, by omega, by go_num, HC6, HN⟩, by simp [intOf]; omega⟩
      · have hdb : (d != 0) = true := by simp [hd0]
        have HE : Hid (K = d ∧ Y = []) := by
          have e1 : fcTo xs (k + 1) = d := by rw [fc_next HC.out HXK.out]; exact HD.out
          have e : plCode xs = d := by
            unfold plCode
            rw [if_neg (by rw [HXL.out]; exact h40), HXL.out, fc_stay (k := k + 1) (by rw [e1]; exact hd0) hlt, e1]
          refine ⟨by rw [← HK.out.1, e], ?_⟩
          rw [← HK.out.2]
          unfold plL
          rw [if_neg (by rw [e]; exact hd0)]
        clear HK hd0
        go_wp2_with fail
        refine bodyPost_ret (v := .agg #[.int .i64 d, .slice none 0 0]) (by simp [results, Try.results5, go_sem, c20, c21, h21]) rfl ?_
        rw [HE.out.1, HE.out.2]
        exact ⟨none, 0, rfl, World.ownsRow_nil _ _ _ _, (HP.out.bl.setCell (Nat.le_refl _) _).setCell (Nat.le_refl _) _⟩
    · have hkn : k = n := by omega
      have hlt' : ¬ ((k : Int) < (n : Int)) := by omega
      obtain ⟨ra, rc, hv⟩ : ∃ a c, v = .slice a (k * 6) c := owns_isSlice HP.out.ow
      have HE : Hid (K = 0 ∧ Y = packTo xs k) := by
        have e : plCode xs = 0 := by
          unfold plCode
          rw [if_neg (by rw [HXL.out]; exact h40), HXL.out, ← hkn]
          exact HC.out
        refine ⟨by rw [← HK.out.1, e], ?_⟩
        rw [← HK.out.2]
        unfold plL
        rw [if_pos e, HXL.out, hkn]
      have HLN : Hid ((packTo xs k).length = k * 6) := packTo_len (by rw [HXL.out]; exact hk)
      subst hv
      clear HK hkn
      go_wp2_with fail
      refine bodyPost_ret (v := .agg #[.int .i64 0, .slice ra (k * 6) rc]) (by simp [results, Try.results5, go_sem, c20, c21, h21]) rfl ?_
      rw [HE.out.1, HE.out.2, HLN.out]
      refine ⟨ra, rc, rfl, ?_, (HP.out.bl.setCell (Nat.le_refl _) _).setCell (Nat.le_refl _) _⟩
      refine owns_low (ownsE_set (ownsE_set HP.out.ow (by show w.heap.size < w.heap.size + 2; omega) _) (by show w.heap.size < w.heap.size + 2; omega) _) (by omega)

end Go.Proofs.Ytnlmoapopdchkaa
