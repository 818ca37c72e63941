/-
  CONTRACT: spec.l5Put: a lock put into its place.
  Conditions: the locks lie in a row of their own and rise.
-/
import Derived.Test.YtabbjcngilocnaaDoorTk0
import Derived.Test.YtabbjcngilocnaaDoorLk2
import Derived.Deep.RegionHeld3
import Derived.Deep.QuietTactic
import Derived.Deep.DeepCutAuto
import Derived.Deep.CutBlock
import Derived.ArgAppend
namespace Go.Proofs.YtabbjcngilocnaaDoor
open Go.RowKit
set_option linter.unusedVariables false
set_option linter.unusedSimpArgs false

theorem flatLk_take (a : List LkI) : ∀ k, flatLk (a.take k) = (flatLk a).take (k * 4) := by
  induction a with
  | nil => intro k; simp [flatLk]
  | cons p ps ih =>
    intro k
    cases k with
    | zero => simp [flatLk]
    | succ k =>
      rw [show (k + 1) * 4 = k * 4 + 1 + 1 + 1 + 1 by omega]
      simp [flatLk, ih]

theorem flatLk_drop (a : List LkI) : ∀ k, flatLk (a.drop k) = (flatLk a).drop (k * 4) := by
  induction a with
  | nil => intro k; simp [flatLk]
  | cons p ps ih =>
    intro k
    cases k with
    | zero => simp
    | succ k =>
      rw [show (k + 1) * 4 = k * 4 + 1 + 1 + 1 + 1 by omega]
      simp [flatLk, ih]

theorem newsLk_take {w w' : World} {B Bd g n cap k : Nat} {gs : List LkI} (hz : n = gs.length) (h : OwnLk w B (.slice (some ⟨g, 0, none⟩) n cap) gs) (hg : g < Bd) (hb : Below Bd w w') (hk : k ≤ n) : ∀ j u, (flatLk (gs.take k))[j]? = some u → w'.cell? ((⟨g, 0, none⟩ : Addr).add j) = some u := by
  intro j u hj
  subst hz
  have h0 : w.ownsRow B 36 4 (.slice (some ⟨g, 0, none⟩) gs.length cap) gs.length (flatLk gs) := h
  have hjl : j < k * 4 := by
    by_cases q : j < k * 4
    · exact q
    · rw [List.getElem?_eq_none (by rw [flatLk_len, List.length_take]; omega)] at hj; cases hj
  rw [Go.WideShapes.add_plain, Nat.zero_add, hb.cell (p := ⟨g, j, none⟩) hg, h0.cellAt j (by omega)]
  rw [flatLk_take, List.getElem?_take, if_pos hjl] at hj
  exact hj

theorem newsLk_drop {w w' : World} {B Bd g n cap k : Nat} {gs : List LkI} (hz : n = gs.length) (h : OwnLk w B (.slice (some ⟨g, 0, none⟩) n cap) gs) (hg : g < Bd) (hb : Below Bd w w') (hk : k ≤ n) : ∀ j u, (flatLk (gs.drop k))[j]? = some u → w'.cell? ((⟨g, k * 4, none⟩ : Addr).add j) = some u := by
  intro j u hj
  subst hz
  have h0 : w.ownsRow B 36 4 (.slice (some ⟨g, 0, none⟩) gs.length cap) gs.length (flatLk gs) := h
  have hjl : j < (gs.length - k) * 4 := by
    by_cases q : j < (gs.length - k) * 4
    · exact q
    · rw [List.getElem?_eq_none (by rw [flatLk_len, List.length_drop]; omega)] at hj; cases hj
  rw [Go.WideShapes.add_plain, hb.cell (p := ⟨g, k * 4 + j, none⟩) hg, h0.cellAt (k * 4 + j) (by omega)]
  rw [flatLk_drop, List.getElem?_drop] at hj
  exact hj

theorem ownsLk_shape {w : World} {b : Nat} {v : Value} {n : Nat} {xs : List Value} (h : w.ownsRow b 36 4 v n xs) (hv : v ≠ .slice none 0 0) : ∃ g cap, v = .slice (some ⟨g, 0, none⟩) n cap := by
  rcases h.2 with ⟨h', _⟩ | ⟨g, cap, cur, h', _⟩
  · exact absurd h' hv
  · exact ⟨g, cap, h'⟩

theorem kpL {B : Nat} {w w' : World} (hb : Below B w w') : (∀ b o, b < B → w'.cell? ⟨b, o, none⟩ = w.cell? ⟨b, o, none⟩) ∧ Below B w w' :=
  ⟨fun b o h => hb.cell (p := ⟨b, o, none⟩) h, hb⟩

theorem step_append_own4 {P : Program} {w : World} {ops : Array Oper} {o : Oper} {a : Act} {K : Act → World → Prop} {Q : Exit → Act → World → Prop} {E : Prop} (hgd : o.guard = none) (s x : Operand) (t : TypeId)
    (ho : o.op = .call { callee := .builtin .append, args := #[s, x], argTypes := #[t, t] })
    (base : Nat) (e : TypeId) (i : TypeInfo) (z : Value) (size bytes : Nat) (ht : P.underlying t = some (.slice e)) (hi : P.info? e = some i) (hz : i.zero = some z)
    (hsize : i.size = size) (hby : i.bytes = bytes) (hzs : z.cells.size = size) (hsz : 0 < size)
    (v : Value) (n : Nat) (xs : List Value) (hs : a.eval s = v) (hown : w.ownsRow base e size v n xs)
    (ad : Addr) (m c : Nat) (news : List Value) (hx : a.eval x = .slice (some ad) m c) (hl : news.length = m * size) (hnews : ∀ j u, news[j]? = some u → w.cell? (ad.add j) = some u) (h1 : ∀ u ∈ news, u.oneCell' = true)
    (h63 : n + m ≤ maxLen) (hbytes : (n + m) * bytes ≤ 140737488355328) (hbase : base ≤ w.heap.size)
    (h : ∀ v' w', w'.ownsRow base e size v' (n + m) (xs ++ news) → w.grownBy w' v.ownBlock → (v' = .slice none 0 0 ↔ v = .slice none 0 0 ∧ m = 0) → K (a.put o.dst v') w') :
    if Region.wanted o (yielded ops a.tmps) = true then Oper.wp P o a w K Q else E := by
  have hw : Region.wanted o (yielded ops a.tmps) = true := by simp [Region.wanted, hgd]
  rw [if_pos hw]
  exact wp_append_own w s x t ho base e i z size bytes ht hi hz hsize hby hzs hsz v n xs hs hown ad m c news hx hl hnews h1 h63 hbytes hbase h

set_option maxRecDepth 20000 in
set_option maxHeartbeats 4000000 in
theorem l5Put_c (B g n cap : Nat) (gs : List LkI) (x : LkI) (w : World) (hz : n = gs.length) (hn : n ≤ 1000) (h : OwnLk w B (.slice (some ⟨g, 0, none⟩) n cap) gs) (hs : SL gs) (hB : B ≤ w.heap.size) :
    Calls Tryd.prog 56 #[.slice (some ⟨g, 0, none⟩) n cap, .agg #[.int .i64 x.e, .int .i64 x.c, .int .i64 x.p, .int .i64 x.f]] w fun e w' => ∃ (g' cap' : Nat), e = .returned (.slice (some ⟨g', 0, none⟩) (n + 1) cap') ∧ OwnLk w' w.heap.size (.slice (some ⟨g', 0, none⟩) (n + 1) cap') (putL gs x) ∧ Below w.heap.size w w' := by
  have HO : Hid (OwnLk w B (.slice (some ⟨g, 0, none⟩) n cap) gs) := h
  have HZ : Hid (n = gs.length) := hz
  have HS : Hid (SL gs) := hs
  have hgl : g < w.heap.size := by
    rcases h.form with ⟨h1, _⟩ | ⟨g', cap', h1, _, h3, _⟩
    · simp at h1
    · simp at h1; omega
  have hcap : n ≤ cap ∧ cap ≤ maxLen := by
    rcases h.form with ⟨h1, _⟩ | ⟨g', cap', h1, _, h3, h4, h5⟩
    · simp at h1
    · simp at h1; omega
  have HIN : Hid (LkIn w (some ⟨g, 0, none⟩) n gs) := (h.view).isIn hz.symm
  clear h hz hs
  obtain ⟨i0, hi, hz0, hz1, hz2⟩ := info_parts Tryd.info36
  have hn' : (n : Int) ≤ 1000 := by omega
  have hcn : (n : Int) ≤ (cap : Int) := by omega
  obtain ⟨W, hW⟩ : ∃ W, W = w.alloc (.cells #[.int .i64 x.e, .int .i64 x.c, .int .i64 x.p, .int .i64 x.f] 36) := ⟨_, rfl⟩
  have HW : Hid (W = w.alloc (.cells #[.int .i64 x.e, .int .i64 x.c, .int .i64 x.p, .int .i64 x.f] 36)) := hW
  have hzW : W.heap.size = w.heap.size + 1 := by rw [hW]; simp
  have B0 : Hid (Below w.heap.size w W) := by rw [hW]; exact (Below.refl _ _).alloc (Nat.le_refl _) _
  have R0 : Hid (LkAt W w.heap.size 0 x) := by rw [hW]; simp [Hid, LkAt]
  clear hW
  go_enter Tryd.func56, Tryd.ntmps56
  go_upto_block 0 with fail
  go_cut [5] (fun s5 wx => ∃ (k : Nat) (w5 : World), w5 = wx ∧ k ≤ n ∧ s5 = .int .i64 (k : Int) ∧ CutAt gs x k ∧ Below W.heap.size W w5)
  case first =>
    go_wp2_with fail
    rw [← HW.out]
    go_loopw [5] (fun i wr => ∃ k : Nat, k ≤ n ∧ i = .int .i64 (k : Int) ∧ (∀ j y, j < k → gs[j]? = some y → ltL y x = true) ∧ Below W.heap.size W wr) (fun i _ => n - (intOf i).toNat)
    case atStart => exact ⟨0, Nat.zero_le _, rfl, fun j y hj => by omega, Below.refl _ _⟩
    case round =>
      obtain ⟨k, hk, rfl, hlo, hbr⟩ := hrel
      have HL : Hid (∀ j y, j < k → gs[j]? = some y → ltL y x = true) := hlo
      have HBR : Hid (Below W.heap.size W wr) := hbr
      have hzr := hbr.size
      clear hlo
      by_cases hlt : k < n
      · have hlt' : decide ((k : Int) < (n : Int)) = true := by simp; omega
        have hltk : (k : Int) < (n : Int) := by omega
        obtain ⟨b1, o1, y, e1, hy, hr, hb1⟩ := HIN.out.at hlt
        obtain ⟨c0, c1, c2, c3⟩ := (hr.below B0.out hb1).below hbr (by omega)
        cases e1
        obtain ⟨r0, r1, r2, r3⟩ := R0.out.below hbr (by omega)
        simp only [Nat.zero_add] at r0 r1 r2 r3 c0 c1 c2 c3
        have HY : Hid (gs[k]? = some y) := hy
        clear hy hbr hr
        obtain ⟨t, ht⟩ : ∃ t, ltL y x = t := ⟨_, rfl⟩
        have HA : Hid (∀ w : World, Calls Tryd.prog 52 #[.agg #[.int .i64 y.e, .int .i64 y.c, .int .i64 y.p, .int .i64 y.f], .agg #[.int .i64 x.e, .int .i64 x.c, .int .i64 x.p, .int .i64 x.f]] w fun e w' => e = .returned (.bool t) ∧ Below w.heap.size w w') := fun w => by rw [← ht]; exact l5Ahead_c y x w
        have HT : Hid (ltL y x = t) := ht
        clear ht
        have hwr : w.heap.size < wr.heap.size := by omega
        have hgr : g < wr.heap.size := by omega
        go_wp2_with fail
        go_region_held3 (fun w' => (∀ b o, b < wr.heap.size → w'.cell? ⟨b, o, none⟩ = wr.cell? ⟨b, o, none⟩) ∧ Below wr.heap.size wr w') (first | exact hS | exact kp_drew _)
          (first | (go_at_call 52; refine (HA.out _).mono ?_; rintro e w' ⟨rfl, hb9⟩; have hS := kp_step (by assumption) hb9))
        cases t
        · go_wp2_with fail
          go_meet
          case rel => exact ⟨k, _, rfl, hk, rfl, ⟨by rw [← HZ.out]; exact hk, HL.out, cut_hi HS.out HY.out HT.out⟩, HBR.out.trans (hS.2.mono hzr)⟩
        · go_wp2
          exact ⟨⟨k + 1, by omega, by go_num, cut_lo HS.out HY.out HT.out, HBR.out.trans (hS.2.mono hzr)⟩, by simp [intOf]; omega⟩
      · have hkn : k = n := by omega
        subst hkn
        have hlt' : decide ((k : Int) < (k : Int)) = false := by simp
        go_wp2_with fail
        go_quiet (fail)
        go_wp2_with fail
        go_meet
        case rel => exact ⟨k, _, rfl, Nat.le_refl _, rfl, ⟨by rw [← HZ.out]; exact Nat.le_refl _, HL.out, fun j y hj hy => by rw [List.getElem?_eq_none (by rw [← HZ.out]; exact hj)] at hy; cases hy⟩, below_drewN HBR.out _⟩
  case rest =>
    obtain ⟨k, w5, rfl, hk, rfl, hcutk, hb5⟩ := hcut
    have HCUT : Hid (CutAt gs x k) := hcutk
    have BW : Hid (Below w.heap.size w w5) := B0.out.trans (hb5.mono (by omega))
    obtain ⟨r0, r1, r2, r3⟩ := R0.out.below hb5 (by omega)
    simp only [Nat.zero_add] at r0 r1 r2 r3
    have hz5 := hb5.size
    clear hcutk hb5
    have hw5 : w.heap.size < w5.heap.size := by omega
    have H5 : Hid ((w5.alloc (.cells #[] 36)).ownsRow w5.heap.size 36 4 (.slice (some ⟨w5.heap.size, 0, none⟩) 0 0) 0 []) := World.ownsRow_lit (base := w5.heap.size) (e := 36) (size := 4) w5 #[] 0 (Nat.le_refl _) (Nat.zero_le _) rfl
    have hkc : (k : Int) ≤ (cap : Int) := by omega
    have hkn : (k : Int) ≤ (n : Int) := by omega
    have hk0 : (0 : Int) ≤ (k : Int) := by omega
    go_wp2_with (first
      | (at_builtin; refine wpList_append_own _ rfl _ _ 24 rfl w5.heap.size 36 i0 (.agg #[.int .i64 0, .int .i64 0, .int .i64 0, .int .i64 0]) 4 32 Tryd.underlying24 hi hz0 hz1 hz2 rfl (by decide) (.slice (some ⟨w5.heap.size, 0, none⟩) 0 0) 0 [] rfl H5.out ⟨g, 0, none⟩ k cap (flatLk (gs.take k)) rfl (by rw [flatLk_len, List.length_take, ← HZ.out]; omega) (newsLk_take HZ.out HO.out hgl (BW.out.alloc (by omega) _) hk) (flatLk_one _) (by unfold maxLen; omega) (by omega) (by simp) ?_))
    intro v6 w6 hown6 hgrow6 hnil6
    obtain ⟨g6, cap6, hv6⟩ := ownsLk_shape hown6 hnil6
    subst hv6
    have H6 : Hid (w6.ownsRow w5.heap.size 36 4 (.slice (some ⟨g6, 0, none⟩) k cap6) k (flatLk (gs.take k))) := by
      have h0 := hown6
      try simp only [Nat.zero_add, List.nil_append] at h0
      exact h0
    have BW6 : Hid (Below w.heap.size w w6) := (BW.out.alloc (by omega) _).grown hgrow6 (by simp; omega) (fun q e => by simp [Value.ownBlock] at e; omega)
    have hz6 : w5.heap.size + 1 ≤ w6.heap.size := by have := hgrow6.size; simp at this; omega
    have s0 : w6.cell? ⟨w.heap.size, 0, none⟩ = some (.int .i64 x.e) := hgrow6.cell ((World.cell?_alloc_past _ _ _ (by show w.heap.size < w5.heap.size; omega)).trans r0) (by simp [Value.ownBlock]; omega)
    have s1 : w6.cell? ⟨w.heap.size, 1, none⟩ = some (.int .i64 x.c) := hgrow6.cell ((World.cell?_alloc_past _ _ _ (by show w.heap.size < w5.heap.size; omega)).trans r1) (by simp [Value.ownBlock]; omega)
    have s2 : w6.cell? ⟨w.heap.size, 2, none⟩ = some (.int .i64 x.p) := hgrow6.cell ((World.cell?_alloc_past _ _ _ (by show w.heap.size < w5.heap.size; omega)).trans r2) (by simp [Value.ownBlock]; omega)
    have s3 : w6.cell? ⟨w.heap.size, 3, none⟩ = some (.int .i64 x.f) := hgrow6.cell ((World.cell?_alloc_past _ _ _ (by show w.heap.size < w5.heap.size; omega)).trans r3) (by simp [Value.ownBlock]; omega)
    clear hown6 hgrow6 hnil6 H5 r0 r1 r2 r3
    go_wp2_with fail
    refine wp_region_held_drew (S := (fun w' => (∀ b o, b < w5.heap.size → w'.cell? ⟨b, o, none⟩ = w6.cell? ⟨b, o, none⟩) ∧ Below w5.heap.size w6 w')) (by kernel_rfl) (kpL ⟨rfl, rfl, rfl, Nat.le_refl _, fun _ _ => rfl⟩) (fun hHeld => ?_)
    refine wpAnyH_take (i := 0) (v := ?_) rfl (by kernel_rfl) (by kernel_rfl) (by kernel_rfl) (fun _ _ _ h => h) (Or.inl ⟨by kernel_rfl, ?_⟩) (by assumption) ?_
    rotate_left 1
    · intro w hSw; (try dsimp only at hSw); go_simp; try (with_reducible rfl)
    try simp only [Act.put, List.getElem_toArray, List.getElem_cons_succ, List.getElem_cons_zero, List.setIfInBounds_toArray, List.set_cons_zero, List.set_cons_succ]
    refine wpAnyH_take (i := 1) (v := ?_) rfl (by kernel_rfl) (by kernel_rfl) (by kernel_rfl) (fun _ _ _ h => h) (Or.inl ⟨by kernel_rfl, ?_⟩) (by assumption) ?_
    rotate_left 1
    · intro w hSw; (try dsimp only at hSw); go_simp; try (with_reducible rfl)
    try simp only [Act.put, List.getElem_toArray, List.getElem_cons_succ, List.getElem_cons_zero, List.setIfInBounds_toArray, List.set_cons_zero, List.set_cons_succ]
    refine wpAnyH_take (i := 4) (v := ?_) rfl (by kernel_rfl) (by kernel_rfl) (by kernel_rfl) (fun _ _ _ h => h) (Or.inl ⟨by kernel_rfl, ?_⟩) (by assumption) ?_
    rotate_left 1
    · intro w hSw; (try dsimp only at hSw); go_simp; try (with_reducible rfl)
    try simp only [Act.put, List.getElem_toArray, List.getElem_cons_succ, List.getElem_cons_zero, List.setIfInBounds_toArray, List.set_cons_zero, List.set_cons_succ]
    refine wpAnyH_take (i := 5) (v := ?_) rfl (by kernel_rfl) (by kernel_rfl) (by kernel_rfl) (fun _ _ _ h => h) (Or.inl ⟨by kernel_rfl, ?_⟩) (by assumption) ?_
    rotate_left 1
    · intro w hSw; (try dsimp only at hSw); go_simp; try (with_reducible rfl)
    try simp only [Act.put, List.getElem_toArray, List.getElem_cons_succ, List.getElem_cons_zero, List.setIfInBounds_toArray, List.set_cons_zero, List.set_cons_succ]
    refine wpAnyH_take (i := 6) (v := ?_) rfl (by kernel_rfl) (by kernel_rfl) (by kernel_rfl) (fun _ _ _ h => h) (Or.inl ⟨by kernel_rfl, ?_⟩) (by assumption) ?_
    rotate_left 1
    · intro w hSw; (try dsimp only at hSw); go_simp; try (with_reducible rfl)
    try simp only [Act.put, List.getElem_toArray, List.getElem_cons_succ, List.getElem_cons_zero, List.setIfInBounds_toArray, List.set_cons_zero, List.set_cons_succ]
    refine wpAnyH_ready (rs := [2]) (by kernel_rfl) (by simp) ?_
    refine AllReadyH.cons rfl (fun K hK => ?_) AllReadyH.nil
    go_simp
    have hS := kpL (hHeld.2.alloc (by show w5.heap.size ≤ w6.heap.size; omega) (.cells #[.int .i64 x.e, .int .i64 x.c, .int .i64 x.p, .int .i64 x.f] 36))
    refine hK.out _ _ hS (fun hHeld => ?_)
    clear hK K
    try simp only [Act.put, List.getElem_toArray, List.getElem_cons_succ, List.getElem_cons_zero, List.setIfInBounds_toArray, List.set_cons_zero, List.set_cons_succ]
    refine wpAnyH_ready (rs := [3]) (by kernel_rfl) (by simp) ?_
    refine AllReadyH.cons rfl (fun K hK => ?_) AllReadyH.nil
    refine step_append_own4 rfl (.tmp 26) (.tmp 28) 24 rfl w5.heap.size 36 i0 (.agg #[.int .i64 0, .int .i64 0, .int .i64 0, .int .i64 0]) 4 32 Tryd.underlying24 hi hz0 hz1 hz2 rfl (by decide) (.slice (some ⟨g6, 0, none⟩) k cap6) k (flatLk (gs.take k)) (by rfl) (H6.out.alloc _) ⟨w6.heap.size, 0, none⟩ 1 1 [.int .i64 x.e, .int .i64 x.c, .int .i64 x.p, .int .i64 x.f] (by rfl) (by rfl) (fun j u hj => by match j, hj with | 0, hj => simp at hj; subst hj; simp [Addr.add] | 1, hj => simp at hj; subst hj; simp [Addr.add] | 2, hj => simp at hj; subst hj; simp [Addr.add] | 3, hj => simp at hj; subst hj; simp [Addr.add]) (fun u hu => by simp at hu; rcases hu with rfl | rfl | rfl | rfl <;> rfl) (by unfold maxLen; omega) (by omega) (by show w5.heap.size ≤ (w6.alloc _).heap.size; simp; omega) ?_
    intro v7 w7 hown7 hgrow7 hnil7
    have hS := kpL (hHeld.2.grown hgrow7 (by show w5.heap.size ≤ (w6.alloc _).heap.size; simp; omega) (fun q e => by have := (H6.out.lt q e).1; omega))
    have H7 : Hid (w7.ownsRow w5.heap.size 36 4 v7 (k + 1) (flatLk (gs.take k) ++ [.int .i64 x.e, .int .i64 x.c, .int .i64 x.p, .int .i64 x.f])) := hown7
    have N7 : Hid (v7 ≠ .slice none 0 0) := fun e => by have := (hnil7.1 e).1; simp at this
    clear hown7 hnil7 hgrow7
    refine hK.out _ _ hS (fun hHeld => ?_)
    clear hK K
    try simp only [Act.put, List.getElem_toArray, List.getElem_cons_succ, List.getElem_cons_zero, List.setIfInBounds_toArray, List.set_cons_zero, List.set_cons_succ]
    refine wpAnyH_ready (rs := [7]) (by kernel_rfl) (by simp) ?_
    refine AllReadyH.cons rfl (fun K hK => ?_) AllReadyH.nil
    have hsl : (if cap = k then (some ⟨g, 0, none⟩ : Option Addr) else some ⟨g, k * 4, none⟩) = some (if cap = k then ⟨g, 0, none⟩ else ⟨g, k * 4, none⟩) := by split <;> rfl
    have hnw : ∀ j u, (flatLk (gs.drop k))[j]? = some u → w7.cell? ((if cap = k then (⟨g, 0, none⟩ : Addr) else ⟨g, k * 4, none⟩).add j) = some u := by
      by_cases hck : cap = k
      · intro j u hj; rw [List.drop_of_length_le (by rw [← HZ.out]; omega)] at hj; simp [flatLk] at hj
      · rw [if_neg hck]; exact newsLk_drop HZ.out HO.out hgl (BW6.out.trans (hHeld.2.mono (by omega))) hk
    refine step_append_own4 rfl (.tmp 29) (.tmp 32) 24 rfl w5.heap.size 36 i0 (.agg #[.int .i64 0, .int .i64 0, .int .i64 0, .int .i64 0]) 4 32 Tryd.underlying24 hi hz0 hz1 hz2 rfl (by decide) v7 (k + 1) (flatLk (gs.take k) ++ [.int .i64 x.e, .int .i64 x.c, .int .i64 x.p, .int .i64 x.f]) (by rfl) H7.out _ (n - k) (cap - k) (flatLk (gs.drop k)) (by rw [← hsl]; rfl) (by rw [flatLk_len, List.length_drop, HZ.out]) hnw (flatLk_one _) (by unfold maxLen; omega) (by omega) (by have h1 := hHeld.2.size; omega) ?_
    intro v8 w8 hown8 hgrow8 hnil8
    have hS := kpL (hHeld.2.grown hgrow8 (by have h1 := hHeld.2.size; omega) (fun q e => by have := (H7.out.lt q e).1; omega))
    have H8 : Hid (w8.ownsRow w5.heap.size 36 4 v8 (k + 1 + (n - k)) (flatLk (gs.take k) ++ [.int .i64 x.e, .int .i64 x.c, .int .i64 x.p, .int .i64 x.f] ++ flatLk (gs.drop k))) := hown8
    have N8 : Hid (v8 ≠ .slice none 0 0) := fun e => N7.out (hnil8.1 e).1
    clear hown8 hnil8 hgrow8
    refine hK.out _ _ hS (fun hHeld => ?_)
    clear hK K
    try simp only [Act.put, List.getElem_toArray, List.getElem_cons_succ, List.getElem_cons_zero, List.setIfInBounds_toArray, List.set_cons_zero, List.set_cons_succ]
    refine wpAnyH_ready (rs := [8]) (by kernel_rfl) (by simp) ?_
    refine AllReadyH.cons rfl (fun K hK => ?_) AllReadyH.nil
    go_simp
    refine hK.out _ _ (by assumption) (fun hHeld => ?_)
    clear hK K
    try simp only [Act.put, List.getElem_toArray, List.getElem_cons_succ, List.getElem_cons_zero, List.setIfInBounds_toArray, List.set_cons_zero, List.set_cons_succ]
    refine wpAnyH_done (by kernel_rfl) ?_ _
    obtain ⟨g8, cap8, hv8⟩ := ownsLk_shape H8.out N8.out
    subst hv8
    have BF : Hid (Below w.heap.size w w8) := BW6.out.trans (hHeld.2.mono (by omega))
    have E3 : Hid (k + 1 + (n - k) = n + 1) := by show k + 1 + (n - k) = n + 1; omega
    have HF : Hid (OwnLk w8 w.heap.size (.slice (some ⟨g8, 0, none⟩) (n + 1) cap8) (putL gs x)) := by
      have h8 := H8.out
      rw [E3.out] at h8
      have e1 : flatLk (putL gs x) = flatLk (gs.take k) ++ [.int .i64 x.e, .int .i64 x.c, .int .i64 x.p, .int .i64 x.f] ++ flatLk (gs.drop k) := by unfold putL; rw [cutN_of HCUT.out, flatLk_append]; simp [flatLk]
      refine ownLk_lower (B := w5.heap.size) ?_ (by omega)
      show World.ownsRow _ w5.heap.size 36 4 _ (putL gs x).length (flatLk (putL gs x))
      rw [e1, putL_len, ← HZ.out]
      exact h8
    clear hsl hnw H8 N8 H7 N7 hHeld
    go_wp2_with fail
    all_goals
      go_ret
      exact ⟨g8, cap8, by show Ending.returned (Value.slice (some ⟨g8, 0, none⟩) (k + 1 + (n - k)) cap8) = _; rw [E3.out], HF.out, BF.out⟩

end Go.Proofs.YtabbjcngilocnaaDoor
