/-
  CONTRACTS: slices.Insert and slices.Clone over locks.
  Conditions: each contract bears its own.
-/
import Derived.Test.YtabbjcngilocnaaDoorTk4
namespace Go.Proofs.YtabbjcngilocnaaDoor
open Go.RowKit Go.Shelf Go.Lib
set_option linter.unusedVariables false
set_option linter.unusedSimpArgs false

/-- What an insert gives: a row of one's own. -/
def InsR (B : Nat) (row : Option Nat) (L : List LkI) (w : World) (e : Ending) (w' : World) : Prop := ∃ g' cap' : Nat, e = .returned (.slice (some ⟨g', 0, none⟩) L.length cap') ∧ OwnLk w' B (.slice (some ⟨g', 0, none⟩) L.length cap') L ∧ w.grownBy w' row

set_option maxRecDepth 100000 in
set_option maxHeartbeats 4000000 in
theorem insert_end (B : Nat) (a : Option Addr) (n cap vb : Nat) (all : List LkI) (x : LkI) (w : World) (hl : n = all.length) (hn : n ≤ 1000) (hB : B ≤ w.heap.size) (h : OwnLk w B (.slice a n cap) all) (hx : LkAt w vb 0 x) :
    Calls Tryd.prog 46 #[.slice a n cap, .int .i64 (n : Int), .slice (some ⟨vb, 0, none⟩) 1 1] w (InsR B (Value.slice a n cap).ownBlock (all ++ [x]) w) := by
  obtain ⟨i0, hi0, hz0, hz1, hz2⟩ := info_parts Tryd.info36
  have HO : Hid (w.ownsRow B 36 4 (.slice a n cap) n (flatLk all)) := by have h' := h; unfold OwnLk at h'; rw [← hl] at h'; exact h'
  have HL : Hid (n = all.length) := hl
  have hcn : n ≤ cap := by
    rcases h.form with ⟨e, e2⟩ | ⟨g, c2, e, _, _, k, _⟩
    · cases e; exact Nat.zero_le _
    · cases e; rw [hl]; exact k
  have hnone : a = none → cap = 0 ∧ n = 0 := fun e => by
    rcases h.form with ⟨e, e2⟩ | ⟨g, c2, e', _, _, k, _⟩
    · cases e; exact ⟨rfl, rfl⟩
    · cases e'; cases e
  have hc63 : cap ≤ 9223372036854775807 := by
    rcases h.2 with ⟨e, e2⟩ | ⟨g, c2, cur, e, _, _, _, k, _⟩
    · cases e; omega
    · cases e; unfold maxLen at k; omega
  have hn' : (n : Int) ≤ 1000 := by omega
  have mixed : Tryd.prog.follows Departure.mixedOrders = true := by kernel_rfl
  clear h hl
  cases a with
  | none =>
    obtain ⟨e1, e2⟩ := hnone rfl
    subst e1 e2
    go_enter Tryd.func46, Tryd.ntmps46
    go_wp2_with (at_builtin; refine wpList_append_own _ rfl _ _ 24 rfl B 36 i0 (.agg #[.int .i64 0, .int .i64 0, .int .i64 0, .int .i64 0]) 4 32 Tryd.underlying24 hi0 hz0 hz1 hz2 rfl (by decide) _ 0 (flatLk all) rfl HO.out ⟨vb, 0, none⟩ 1 1 (vLk x) rfl rfl (fun j u hj => by rw [Go.WideShapes.add_plain, Nat.zero_add]; exact vLk_at hx j u hj) (vLk_one x) (by unfold maxLen; omega) (by omega) hB ?_)
    intro v' w' hO hG hV
    have hO' : OwnLk w' B v' (all ++ [x]) := ownLk_push (by rw [← HL.out]; exact hO)
    obtain ⟨g', cap', e'⟩ := hO'.shape hV
    subst e'
    go_wp2
    go_ret
    exact ⟨g', cap', rfl, hO', hG⟩
  | some ad =>
    by_cases hcz : cap = n
    · subst hcz
      go_enter Tryd.func46, Tryd.ntmps46
      go_wp2_with (at_builtin; refine wpList_append_own _ rfl _ _ 24 rfl B 36 i0 (.agg #[.int .i64 0, .int .i64 0, .int .i64 0, .int .i64 0]) 4 32 Tryd.underlying24 hi0 hz0 hz1 hz2 rfl (by decide) _ cap (flatLk all) rfl HO.out ⟨vb, 0, none⟩ 1 1 (vLk x) rfl rfl (fun j u hj => by rw [Go.WideShapes.add_plain, Nat.zero_add]; exact vLk_at hx j u hj) (vLk_one x) (by unfold maxLen; omega) (by omega) hB ?_)
      intro v' w' hO hG hV
      have hO' : OwnLk w' B v' (all ++ [x]) := ownLk_push (by rw [← HL.out]; exact hO)
      obtain ⟨g', cap', e'⟩ := hO'.shape hV
      subst e'
      go_wp2
      go_ret
      exact ⟨g', cap', rfl, hO', hG⟩
    · go_enter Tryd.func46, Tryd.ntmps46
      go_wp2_with (at_builtin; refine wpList_append_own _ rfl _ _ 24 rfl B 36 i0 (.agg #[.int .i64 0, .int .i64 0, .int .i64 0, .int .i64 0]) 4 32 Tryd.underlying24 hi0 hz0 hz1 hz2 rfl (by decide) _ n (flatLk all) rfl HO.out ⟨vb, 0, none⟩ 1 1 (vLk x) rfl rfl (fun j u hj => by rw [Go.WideShapes.add_plain, Nat.zero_add]; exact vLk_at hx j u hj) (vLk_one x) (by unfold maxLen; omega) (by omega) hB ?_)
      intro v' w' hO hG hV
      have hO' : OwnLk w' B v' (all ++ [x]) := ownLk_push (by rw [← HL.out]; exact hO)
      obtain ⟨g', cap', e'⟩ := hO'.shape hV
      subst e'
      go_wp2
      go_ret
      exact ⟨g', cap', rfl, hO', hG⟩

theorem own_more {w : World} {B g n cap : Nat} {xs : List Value} (h : w.ownsRow B 36 4 (.slice (some ⟨g, 0, none⟩) n cap) n xs) (hc : n + 1 ≤ cap) : ∃ ys, ys.length = 4 ∧ w.ownsRow B 36 4 (.slice (some ⟨g, 0, none⟩) (n + 1) cap) (n + 1) (xs ++ ys) ∧ (∀ j, j < (n + 1) * 4 → (w.cell? ⟨g, j, none⟩).isSome = true) ∧ w.shape? g = some (36, cap * 4) := by
  rcases h.2 with ⟨e0, _⟩ | ⟨g', cap', cur, e0, hb, hg, hn, hm, hs, ht⟩
  · cases e0
  · injection e0 with e1 _ e3
    injection e1 with e1
    injection e1 with e1
    subst e1; subst e3
    refine ⟨(cur.toList.drop (n * 4)).take 4, ?_, ⟨?_, .inr ⟨g, cap, cur, rfl, hb, hg, hc, hm, hs, ?_⟩⟩, ?_, ?_⟩
    · rw [List.length_take, List.length_drop, Array.length_toList, hs]; omega
    · rw [List.length_append, h.1, List.length_take, List.length_drop, Array.length_toList, hs]; omega
    · rw [← ht, Nat.add_mul, Nat.one_mul, List.take_add]
    · intro j hj
      simp [World.cell?, hg]
      omega
    · simp [World.shape?, hg, hs]

theorem own_cs {w : World} {B g n cap : Nat} {xs : List Value} (h : w.ownsRow B 36 4 (.slice (some ⟨g, 0, none⟩) n cap) n xs) : ∀ j v, xs[j]? = some v → w.cell? ⟨g, j, none⟩ = some v := fun j v hj => by
  have hk : j < xs.length := by
    by_cases q : j < xs.length
    · exact q
    · rw [List.getElem?_eq_none (by omega)] at hj; cases hj
  rw [h.cellAt j (by have := h.1; omega)]
  exact hj

/-- A lock is put into a row of one's own. -/
theorem insertLk_c (B : Nat) (a : Option Addr) (n cap i vb : Nat) (all : List LkI) (x : LkI) (w : World) (hl : n = all.length) (hi : i ≤ n) (hn : n ≤ 1000) (hB : B ≤ w.heap.size) (h : OwnLk w B (.slice a n cap) all) (hx : LkAt w vb 0 x)
    (tA : TypeId) (hsa : w.shape? vb = some (tA, 4)) (hf : ∀ j, w.frozen? ⟨vb, j, none⟩ = false) (hne : a ≠ some ⟨vb, 0, none⟩) :
    Calls Tryd.prog 46 #[.slice a n cap, .int .i64 (i : Int), .slice (some ⟨vb, 0, none⟩) 1 1] w (InsR B (Value.slice a n cap).ownBlock (all.take i ++ x :: all.drop i) w) := by
  by_cases hin : i = n
  · subst hin
    have e1 : all.take i ++ x :: all.drop i = all ++ [x] := by rw [List.take_of_length_le (by omega), List.drop_of_length_le (by omega)]
    rw [e1]
    exact insert_end B a i cap vb all x w hl hn hB h hx
  · have hlt : i < n := by omega
    have hO : w.ownsRow B 36 4 (.slice a n cap) n (flatLk all) := by have h' := h; unfold OwnLk at h'; rw [← hl] at h'; exact h'
    obtain ⟨g, c2, e, hBg, hgw, hcc, _⟩ : ∃ g c2, Value.slice a n cap = .slice (some ⟨g, 0, none⟩) n c2 ∧ B ≤ g ∧ g < w.heap.size ∧ n ≤ c2 ∧ c2 ≤ maxLen := by
      rcases hO.2 with ⟨e, e2⟩ | ⟨g, c2, cur, e, k1, k2, k3, k4, _⟩
      · omega
      · exact ⟨g, c2, e, k1, (Array.getElem?_eq_some_iff.1 k2).1, k3, k4⟩
    cases e
    have hvg : vb ≠ g := fun e => hne (by rw [e])
    have hlen : (all.take i ++ x :: all.drop i).length = n + 1 := by simp [hl]; omega
    have hcut := flatLk_cut all i (by omega)
    by_cases hr : n + 1 ≤ cap
    · obtain ⟨ys, hy, hO2, hsp, hsh⟩ := own_more hO hr
      refine (insert_shift g n cap i vb (flatLk all) (vLk x) w hlt hn hr (by unfold maxLen at *; omega) hvg (by rw [flatLk_len, hl]) rfl (own_cs hO) hsp (fun j _ => hO.frozenAt j) (vLk_at hx) (flatLk_one _) (vLk_one x) tA 36 4 (cap * 4) hsa hsh (by omega) (hf 0) (hf 4)).mono ?_
      rintro e w' ⟨rfl, rfl⟩
      have k1 := ownLk_cells ((flatLk all).drop (i * 4)) w.drew B g (n + 1) cap (flatLk all ++ ys) ((i + 1) * 4) hO2.drew
      have k2 := ownLk_cells (vLk x) _ B g (n + 1) cap _ (i * 4) k1.1
      have k3 := k2.1
      rw [hcut.2, lay_shift all i x (by omega) ys hy] at k3
      refine ⟨g, cap, by rw [hlen], ?_, ?_⟩
      · unfold OwnLk
        rw [hlen, hcut.2]
        exact k3
      · exact grown_tr (a := w) (b := w.drew) ⟨rfl, rfl, rfl, Nat.le_refl _, fun _ _ _ => rfl⟩ (grown_tr k1.2 k2.2)
    · refine (insert_grow g n cap i vb (flatLk all) (vLk x) w hlt hn hcc (by omega) (by rw [flatLk_len, hl]) rfl (own_cs hO) (vLk_at hx) (flatLk_one _) (vLk_one x)).mono ?_
      rintro e w' ⟨rfl, rfl⟩
      obtain ⟨G, hG⟩ : ∃ G, G = grownCap w (n + 1) cap 36 := ⟨_, rfl⟩
      have hGn : n + 1 ≤ G := by rw [hG]; exact grownCap_ge w _ _ _
      have hGm : G ≤ maxLen := by rw [hG]; exact grownCap_le_maxLen w (n + 1) cap 36 (by unfold maxLen; omega)
      rw [← hG]
      obtain ⟨zs, hzs⟩ : ∃ zs, zs = Builtin.zeroCells (Value.agg #[.int .i64 0, .int .i64 0, .int .i64 0, .int .i64 0]).cells (n + 1 - i) := ⟨_, rfl⟩
      obtain ⟨us, hus⟩ : ∃ us, us = Builtin.zeroCells (Value.agg #[.int .i64 0, .int .i64 0, .int .i64 0, .int .i64 0]).cells (G - (n + 1)) := ⟨_, rfl⟩
      have hzl : zs.size = (n + 1 - i) * 4 := by rw [hzs]; simp [Builtin.zeroCells, Value.cells]
      have hul : us.size = (G - (n + 1)) * 4 := by rw [hus]; simp [Builtin.zeroCells, Value.cells]
      rw [← hzs, ← hus, hcut.1, hcut.2]
      have htl : (flatLk (all.take i)).length = i * 4 := (flatLk_split all i (by omega)).2.1
      have hO2 : (w.alloc (.cells ((flatLk (all.take i)).toArray ++ zs ++ us) 36)).ownsRow B 36 4 (.slice (some ⟨w.heap.size, 0, none⟩) (n + 1) G) (n + 1) (flatLk (all.take i) ++ zs.toList) := by
        refine ⟨by rw [List.length_append, htl, Array.length_toList, hzl]; omega, .inr ⟨w.heap.size, G, (flatLk (all.take i)).toArray ++ zs ++ us, rfl, hB, heap_alloc_new w _, hGn, hGm, ?_, ?_⟩⟩
        · rw [Array.size_append, Array.size_append, hzl, hul, List.size_toArray, htl]; omega
        · rw [Array.toList_append, Array.toList_append, List.take_append_of_le_length (by rw [List.length_append, Array.length_toList, Array.length_toList, hzl, List.size_toArray, htl]; omega), List.take_of_length_le (by rw [List.length_append, Array.length_toList, Array.length_toList, hzl, List.size_toArray, htl]; omega)]
      have k0 := World.grownBy_alloc w (.cells ((flatLk (all.take i)).toArray ++ zs ++ us) 36) (some g)
      obtain ⟨Z, hZ⟩ : ∃ Z, Z = w.alloc (.cells ((flatLk (all.take i)).toArray ++ zs ++ us) 36) := ⟨_, rfl⟩
      rw [← hZ] at hO2 k0 ⊢
      have k1 := ownLk_cells (vLk x) Z.drew B w.heap.size (n + 1) G _ (i * 4) hO2.drew
      obtain ⟨Z1, hZ1⟩ : ∃ Z1, Z1 = Z.drew.setCells w.heap.size (i * 4) (vLk x) := ⟨_, rfl⟩
      rw [← hZ1] at k1 ⊢
      have k2 := ownLk_cells (flatLk (all.drop i)) Z1.drew B w.heap.size (n + 1) G _ ((i + 1) * 4) k1.1.drew
      obtain ⟨Z2, hZ2⟩ : ∃ Z2, Z2 = Z1.drew.setCells w.heap.size ((i + 1) * 4) (flatLk (all.drop i)) := ⟨_, rfl⟩
      rw [← hZ2] at k2 ⊢
      have k3 := k2.1
      rw [lay_grow all i x (by omega) zs.toList (by rw [Array.length_toList, hzl, hl])] at k3
      refine ⟨w.heap.size, G, by rw [hlen], ?_, ?_⟩
      · unfold OwnLk
        rw [hlen]
        exact k3
      · refine ⟨k2.2.os.trans (k1.2.os.trans k0.os), k2.2.tape.trans (k1.2.tape.trans k0.tape), k2.2.output.trans (k1.2.output.trans k0.output), ?_, fun k hk hne => ?_⟩
        · exact Nat.le_trans k0.size (Nat.le_trans k1.2.size k2.2.size)
        · have hkw : some k ≠ some w.heap.size := fun e => by injection e; omega
          have q0 := k0.block k hk hne
          have q1 := k1.2.block k (Nat.lt_of_lt_of_le hk k0.size) hkw
          have q2 := k2.2.block k (Nat.lt_of_lt_of_le hk (Nat.le_trans k0.size k1.2.size)) hkw
          exact q2.trans (q1.trans q0)

/-- slices.Clone. -/
def ClnR (L : List LkI) (w : World) (e : Ending) (w' : World) : Prop := ∃ (a' : Option Addr) (cap' : Nat), e = .returned (.slice a' L.length cap') ∧ OwnLk w' w.heap.size (.slice a' L.length cap') L ∧ Below w.heap.size w w'

set_option maxRecDepth 100000 in
set_option maxHeartbeats 4000000 in
theorem cloneLk_c (b0 o0 n cap : Nat) (gs : List LkI) (w : World) (hn : n ≤ 1000) (h : LkIn w (some ⟨b0, o0, none⟩) n gs) :
    Calls Tryd.prog 45 #[.slice (some ⟨b0, o0, none⟩) n cap] w (ClnR gs w) := by
  obtain ⟨i0, hi0, hz0, hz1, hz2⟩ := info_parts Tryd.info36
  have HN : Hid (∀ j u, (flatLk gs)[j]? = some u → w.cell? ((⟨b0, o0, none⟩ : Addr).add j) = some u) := newsLk_in h
  have hcell : Hid (∀ j u, (flatLk gs)[j]? = some u → (w.alloc (.cells #[] 36)).cell? ((⟨b0, o0, none⟩ : Addr).add j) = some u) := fun j u hj => by
    have h1 := HN.out j u hj
    have h2 := World.block_lt_of_cell? w _ h1
    exact ((Below.refl w.heap.size w).alloc (Nat.le_refl _) (.cells #[] 36)).cell h2 |>.trans h1
  have HL : Hid (gs.length = n) := h.1
  have q24 : ∀ (w : World) (a : Option Addr) (n c n' c' : Nat), (binOp .eql 24 (.slice a n c) (.slice none n' c')).run Tryd.prog w = .ok (.bool a.isNone) w := fun w a n c n' c' => Lib.run_eql_slice_nil w _ _ a n c n' c' Tryd.underlying24
  clear h
  go_enter Tryd.func45, Tryd.ntmps45
  go_wp2_with (at_builtin; refine wpList_append_own _ rfl _ _ 24 rfl w.heap.size 36 i0 (.agg #[.int .i64 0, .int .i64 0, .int .i64 0, .int .i64 0]) 4 32 Tryd.underlying24 hi0 hz0 hz1 hz2 rfl (by decide) _ 0 [] rfl (World.ownsRow_made w #[] 0 (Nat.le_refl _) (Nat.zero_le _) (by simp)) ⟨b0, o0, none⟩ n cap (flatLk gs) rfl (by rw [flatLk_len, HL.out]) hcell.out (flatLk_one _) (by unfold maxLen; omega) (by omega) (by simp) ?_)
  intro v' w' hO hG hV
  have hO' : OwnLk w' w.heap.size v' gs := by
    unfold OwnLk
    rw [HL.out]
    simpa using hO
  obtain ⟨a', cap', e'⟩ := hO'.slice
  subst e'
  go_wp2
  go_ret
  refine ⟨a', cap', rfl, hO', ?_⟩
  exact ownLk_grown (es := []) (World.ownsRow_made w #[] 0 (Nat.le_refl _) (Nat.zero_le _) (by simp)) ((Below.refl _ _).alloc (Nat.le_refl _) _) hG (by simp)

end Go.Proofs.YtabbjcngilocnaaDoor
