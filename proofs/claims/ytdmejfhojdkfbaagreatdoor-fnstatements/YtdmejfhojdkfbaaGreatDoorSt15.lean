/-
  CONTRACT: StatementText of the program.
  Conditions: each contract bears its own.
-/
import Derived.Test.YtdmejfhojdkfbaaGreatDoorSt14
import Derived.ArgAppend
import Derived.Deep.CutBlock
namespace Go.Proofs.YtdmejfhojdkfbaaGreatDoor
open Go.RowKit Go.Shelf
set_option linter.unusedVariables false
set_option linter.unusedSimpArgs false

theorem Tryz.infoStr : (Tryz.prog.info? 9).map (fun i => (i.zero, i.size, i.bytes)) = some (some (.string ⟨#[]⟩), 1, 16) := by kernel_rfl

theorem step_append_own3 {P : Program} {w : World} {ops : Array Oper} {o : Oper} {a : Act} {K : Act → World → Prop} {Q : Exit → Act → World → Prop} {E : Prop} (hgd : o.guard = none) (s x : Operand) (t : TypeId)
    (ho : o.op = .call { callee := .builtin .append, args := #[s, x], argTypes := #[t, t] })
    (base : Nat) (e : TypeId) (i : TypeInfo) (z : Value) (size bytes : Nat) (ht : P.underlying t = some (.slice e)) (hi : P.info? e = some i) (hz : i.zero = some z)
    (hsize : i.size = size) (hby : i.bytes = bytes) (hzs : z.cells.size = size) (hsz : 0 < size)
    (v : Value) (n : Nat) (xs : List Value) (hs : a.eval s = v) (hown : w.ownsRow base e size v n xs)
    (ad : Addr) (m c : Nat) (news : List Value) (hx : a.eval x = .slice (some ad) m c) (hl : news.length = m * size) (hnews : ∀ j u, news[j]? = some u → w.cell? (ad.add j) = some u) (h1 : ∀ u ∈ news, u.oneCell' = true)
    (h63 : n + m ≤ maxLen) (hbytes : (n + m) * bytes ≤ 140737488355328) (hbase : base ≤ w.heap.size)
    (h : ∀ v' w', w'.ownsRow base e size v' (n + m) (xs ++ news) → w.grownBy w' v.ownBlock → (v' = .slice none 0 0 ↔ v = .slice none 0 0 ∧ m = 0) → K (a.put o.dst v') w') :
    if Region.wanted o (yielded ops a.tmps) = true then Oper.wp P o a w K Q else E := by
  have hw : Region.wanted o (yielded ops a.tmps) = true := by simp [Region.wanted, hgd]
  rw [if_pos hw]
  exact wp_append_own w s x t ho base e i z size bytes ht hi hz hsize hby hzs hsz v n xs hs hown ad m c news hx hl hnews h1 h63 hbytes hbase h

/-- Joining words. -/
theorem joinW_c (v : Value) (B : Nat) (ls : List ByteArray) (n : Nat) (W : World) (hn : ls.length = n) (h0 : 0 < n) (hs : (Lib.join (ls.map (·.data.toList)) [32]).length ≤ 100000) (hl : n ≤ 1000) (hrow : W.ownsRow B 9 1 v n (ls.map Value.string)) :
    Calls Tryz.prog 30 #[v, .string ⟨#[32]⟩] W fun e w' => e = .returned (.string ⟨(Lib.join (ls.map (·.data.toList)) [32]).toArray⟩) ∧ Below W.heap.size W w' := by
  rcases id hrow.2 with ⟨_, h1⟩ | ⟨g, cp, cur, h', _, _, hle, _⟩
  · omega
  · subst h'
    subst hn
    have hcells : ∀ (j : Nat) (x : ByteArray), ls[j]? = some x → W.cell? ⟨g, 0 + j, none⟩ = some (.string x) := by
      intro j x hx
      have hj' : j < ls.length := (List.getElem?_eq_some_iff.1 hx).1
      rw [Nat.zero_add, hrow.cellAt j (by omega), List.getElem?_map, hx]
      rfl
    exact Tryz.strings_Join g 0 cp ls ⟨#[32]⟩ W hcells (hrow.lt g rfl).2 (by omega) hle (by show (Lib.join (ls.map (·.data.toList)) [32]).length ≤ _; omega)

/-- What stands while the words are gathered: the statement's box and the answer's. -/
structure PX (w U : World) (x : StI) : Prop where
  bel : Below w.heap.size w U
  st : StAt U w.heap.size 0 x
  d0 : U.cell? ⟨w.heap.size + 1, 0, none⟩ = some (.int .i64 0)
  d1 : U.cell? ⟨w.heap.size + 1, 1, none⟩ = some (.string ⟨#[]⟩)
  g0 : U.frozen? ⟨w.heap.size + 1, 0, none⟩ = false
  g1 : U.frozen? ⟨w.heap.size + 1, 1, none⟩ = false
  lt : w.heap.size + 1 < U.heap.size

theorem PX.below {w U U' : World} {x : StI} (h : PX w U x) (hb : Below U.heap.size U U') : PX w U' x :=
  ⟨h.bel.trans (hb.mono h.bel.size), h.st.below hb (by have := h.lt; omega), (hb.cell (p := ⟨w.heap.size + 1, 0, none⟩) h.lt).trans h.d0, (hb.cell (p := ⟨w.heap.size + 1, 1, none⟩) h.lt).trans h.d1, (hb.frozen (p := ⟨w.heap.size + 1, 0, none⟩) h.lt).trans h.g0, (hb.frozen (p := ⟨w.heap.size + 1, 1, none⟩) h.lt).trans h.g1, by have := h.lt; have := hb.size; omega⟩

theorem frozen_grownX {w w' : World} {row : Option Nat} {b j : Nat} (hg : w.grownBy w' row) (hb : b < w.heap.size) (hne : some b ≠ row) (h : w.frozen? ⟨b, j, none⟩ = false) : w'.frozen? ⟨b, j, none⟩ = false := by
  unfold World.frozen? at h ⊢
  simp only at h ⊢
  rw [hg.block b hb hne]
  exact h

theorem PX.grown {w U U' : World} {x : StI} {row : Option Nat} (h : PX w U x) (hg : U.grownBy U' row) (hr : ∀ q, row = some q → w.heap.size + 1 < q) : PX w U' x := by
  have n0 : some w.heap.size ≠ row := fun e => by have := hr _ e.symm; omega
  have n1 : some (w.heap.size + 1) ≠ row := fun e => by have := hr _ e.symm; omega
  have hl := h.lt
  exact ⟨h.bel.grown hg h.bel.size (fun q e => by have := hr q e; omega), ⟨hg.cell h.st.1 n0, hg.cell h.st.2.1 n0, hg.cell h.st.2.2.1 n0, hg.cell h.st.2.2.2.1 n0, hg.cell h.st.2.2.2.2 n0⟩, hg.cell h.d0 n1, hg.cell h.d1 n1, frozen_grownX hg hl n1 h.g0, frozen_grownX hg hl n1 h.g1, Nat.lt_of_lt_of_le hl hg.size⟩

theorem PX.cells {w U : World} {x : StI} (h : PX w U x) : U.cell? ⟨w.heap.size, 0, none⟩ = some (.int .i64 x.k) ∧ U.cell? ⟨w.heap.size, 1, none⟩ = some (.int .i64 x.e) ∧ U.cell? ⟨w.heap.size, 2, none⟩ = some (.int .i64 x.f) ∧ U.cell? ⟨w.heap.size, 3, none⟩ = some (.int .i64 x.s) ∧ U.cell? ⟨w.heap.size, 4, none⟩ = some (.int .i64 x.n) := by
  obtain ⟨x0, x1, x2, x3, x4⟩ := h.st
  simp only [Nat.zero_add] at x0 x1 x2 x3 x4
  exact ⟨x0, x1, x2, x3, x4⟩

theorem PX.new (w : World) (x : StI) (t t2 : TypeId) : PX w ((w.alloc (.cells #[.int .i64 x.k, .int .i64 x.e, .int .i64 x.f, .int .i64 x.s, .int .i64 x.n] t)).alloc (.cells #[.int .i64 0, .string ⟨#[]⟩] t2)) x :=
  ⟨((Below.refl _ _).alloc (Nat.le_refl _) _).alloc (by simp) _, (StAt.new w x t).below ((Below.refl _ _).alloc (Nat.le_refl _) _) (by simp), by go_cell, by go_cell, by simp [go_sem], by simp [go_sem], by simp⟩

set_option maxRecDepth 20000 in
set_option maxHeartbeats 2000000 in
theorem implSText_bad (x : StI) (c : Int) (w : World) (hc : stCode x = c) (h0 : c ≠ 0) : GivesX 7 x c ⟨#[]⟩ w := by
  have HF : Hid (∀ w : World, Calls Tryz.prog 16 #[.agg #[.int .i64 x.k, .int .i64 x.e, .int .i64 x.f, .int .i64 x.s, .int .i64 x.n]] w fun e w' => e = .returned (.int .i64 c) ∧ Below w.heap.size w w') := by rw [← hc]; exact implStatementFault_c x
  have hcb : (c != 0) = true := by simpa using h0
  clear hc h0
  unfold GivesX
  go_enter Tryz.func7, Tryz.ntmps7
  go_wp2_with fail
  refine (HF.out _).mono ?_
  rintro e w1 ⟨rfl, hb1⟩
  have P1 := (PX.new w x _ _).below hb1
  obtain ⟨bel, _, d0, d1, g0, g1, lt⟩ := P1
  clear hb1
  go_wp2
  refine bodyPost_ret (v := .agg #[.int .i64 c, .string ⟨#[]⟩]) (by simp [results, Tryz.results7, go_sem, d0, d1]) rfl ⟨rfl, ?_⟩
  exact (bel.setCell (by simp) _).setCell (by simp) _

theorem stT_size {x : StI} (hc : stCode x = 0) : (Lib.join ((stW x).map (·.data.toList)) [32]).length ≤ 100 := by
  obtain ⟨_, _, _, ⟨s0, s1⟩, _⟩ := st_bounds hc
  have h1 := (textI_size x.s s0 s1).2
  have h2 : (swT x.k).data.toList.length ≤ 6 := by
    unfold swT
    split
    · decide
    split
    · decide
    split
    · decide
    split
    · decide
    · decide
  have h3 : (textI x.s).data.toList.length ≤ 18 := by rw [Array.length_toList]; exact h1
  cases hf : formK x.k
  · have := congrArg (fun b : ByteArray => b.data.toList.length) (stT_next hf)
    simp only [stText, List.length_append, List.length_cons, List.length_nil] at this
    omega
  · have := congrArg (fun b : ByteArray => b.data.toList.length) (stT_form hf)
    simp only [stText, List.length_append, List.length_cons] at this
    omega

set_option maxRecDepth 20000 in
set_option maxHeartbeats 4000000 in
theorem implSText_ok (x : StI) (w : World) (hc : stCode x = 0) : GivesX 7 x 0 (stText x) w := by
  have HF : Hid (∀ w : World, Calls Tryz.prog 16 #[.agg #[.int .i64 x.k, .int .i64 x.e, .int .i64 x.f, .int .i64 x.s, .int .i64 x.n]] w fun e w' => e = .returned (.int .i64 0) ∧ Below w.heap.size w w') := by rw [← hc]; exact implStatementFault_c x
  obtain ⟨⟨k0, k1⟩, ⟨e0, e1⟩, ⟨f0, f1⟩, ⟨s0, s1⟩, n0, n1⟩ := st_bounds hc
  have HSZ : Hid ((Lib.join ((stW x).map (·.data.toList)) [32]).length ≤ 100) := stT_size hc
  obtain ⟨T, hT⟩ : ∃ T, stText x = T := ⟨_, rfl⟩
  obtain ⟨T1, hT1⟩ : ∃ T, swT x.k = T := ⟨_, rfl⟩
  obtain ⟨T2, hT2⟩ : ∃ T, dgT x.e = T := ⟨_, rfl⟩
  have HT : Hid (stText x = T) := hT
  have HT1 : Hid (swT x.k = T1) := hT1
  have HT2 : Hid (dgT x.e = T2) := hT2
  obtain ⟨i0, hi, hz0, hz1, hz2⟩ := info_parts Tryz.infoStr
  have hcv : (convert 2 56 (.int .i64 x.s)).run Tryz.prog = (convert 2 56 (.int .i64 x.s)).run Tryz.prog := rfl
  obtain ⟨t, hk⟩ : ∃ t, formK x.k = t := ⟨_, rfl⟩
  have HK : Hid (formK x.k = t) := hk
  rw [hT]
  clear hT hT1 hT2 hc hk hcv
  unfold GivesX
  go_enter Tryz.func7, Tryz.ntmps7
  go_wp2_with fail
  refine (HF.out _).mono ?_
  rintro e w1 ⟨rfl, hb1⟩
  have P1 : Hid (PX w w1 x) := (PX.new w x _ _).below hb1
  have hlt := P1.out.lt
  clear hb1
  obtain ⟨x0, x1, x2, x3, x4⟩ := P1.out.cells
  go_wp2_with fail
  refine wp_region_held_drew (S := fun w' => w'.cell? ⟨w.heap.size, 0, none⟩ = some (.int .i64 x.k) ∧ w'.cell? ⟨w.heap.size, 1, none⟩ = some (.int .i64 x.e) ∧ w'.cell? ⟨w.heap.size, 2, none⟩ = some (.int .i64 x.f) ∧ w'.cell? ⟨w.heap.size, 3, none⟩ = some (.int .i64 x.s) ∧ w'.cell? ⟨w.heap.size, 4, none⟩ = some (.int .i64 x.n)) (by kernel_rfl) (⟨x0, x1, x2, x3, x4⟩) (fun hHeld => ?_)
  refine wpAnyH_take (i := 0) (v := ?_) rfl (by kernel_rfl) (by kernel_rfl) (by kernel_rfl) (fun _ _ _ h => h) (Or.inl ⟨by kernel_rfl, ?_⟩) (by assumption) ?_
  rotate_left 1
  · intro w hSw; (try dsimp only at hSw); go_simp; try (with_reducible rfl)
  try simp only [Act.put, List.getElem_toArray, List.getElem_cons_succ, List.getElem_cons_zero, List.setIfInBounds_toArray, List.set_cons_zero, List.set_cons_succ]
  refine wpAnyH_take (i := 1) (v := ?_) rfl (by kernel_rfl) (by kernel_rfl) (by kernel_rfl) (fun _ _ _ h => h) (Or.inl ⟨by kernel_rfl, ?_⟩) (by assumption) ?_
  rotate_left 1
  · intro w hSw; (try dsimp only at hSw); go_simp; try (with_reducible rfl)
  try simp only [Act.put, List.getElem_toArray, List.getElem_cons_succ, List.getElem_cons_zero, List.setIfInBounds_toArray, List.set_cons_zero, List.set_cons_succ]
  refine wpAnyH_take (i := 3) (v := ?_) rfl (by kernel_rfl) (by kernel_rfl) (by kernel_rfl) (fun _ _ _ h => h) (Or.inl ⟨by kernel_rfl, ?_⟩) (by assumption) ?_
  rotate_left 1
  · intro w hSw; (try dsimp only at hSw); go_simp; try (with_reducible rfl)
  try simp only [Act.put, List.getElem_toArray, List.getElem_cons_succ, List.getElem_cons_zero, List.setIfInBounds_toArray, List.set_cons_zero, List.set_cons_succ]
  refine wpAnyH_take (i := 4) (v := ?_) rfl (by kernel_rfl) (by kernel_rfl) (by kernel_rfl) (fun _ _ _ h => h) (Or.inl ⟨by kernel_rfl, ?_⟩) (by assumption) ?_
  rotate_left 1
  · intro w hSw; (try dsimp only at hSw); go_simp; try (with_reducible rfl)
  try simp only [Act.put, List.getElem_toArray, List.getElem_cons_succ, List.getElem_cons_zero, List.setIfInBounds_toArray, List.set_cons_zero, List.set_cons_succ]
  refine wpAnyH_ready (rs := [2]) (by kernel_rfl) (by simp) ?_
  refine AllReadyH.cons rfl (fun K hK => ?_) AllReadyH.nil
  go_simp
  refine (sayWord_c _ _).mono ?_
  rintro e w' ⟨rfl, rfl⟩
  rw [HT1.out]
  have hS := hHeld
  refine hK.out _ _ hS (fun hHeld => ?_)
  clear hK K
  try simp only [Act.put, List.getElem_toArray, List.getElem_cons_succ, List.getElem_cons_zero, List.setIfInBounds_toArray, List.set_cons_zero, List.set_cons_succ]
  refine wpAnyH_ready (rs := [5]) (by kernel_rfl) (by simp) ?_
  refine AllReadyH.cons rfl (fun K hK => ?_) AllReadyH.nil
  go_simp
  refine (numS_c _ (by omega) (by omega) _).mono ?_
  rintro e w' ⟨rfl, rfl⟩
  rw [HT2.out]
  have hS := hHeld
  refine hK.out _ _ hS (fun hHeld => ?_)
  clear hK K
  try simp only [Act.put, List.getElem_toArray, List.getElem_cons_succ, List.getElem_cons_zero, List.setIfInBounds_toArray, List.set_cons_zero, List.set_cons_succ]
  refine wpAnyH_ready (rs := [6]) (by kernel_rfl) (by simp) ?_
  refine AllReadyH.cons rfl (fun K hK => ?_) AllReadyH.nil
  go_simp
  have hS : (fun w' => w'.cell? ⟨w.heap.size, 0, none⟩ = some (.int .i64 x.k) ∧ w'.cell? ⟨w.heap.size, 1, none⟩ = some (.int .i64 x.e) ∧ w'.cell? ⟨w.heap.size, 2, none⟩ = some (.int .i64 x.f) ∧ w'.cell? ⟨w.heap.size, 3, none⟩ = some (.int .i64 x.s) ∧ w'.cell? ⟨w.heap.size, 4, none⟩ = some (.int .i64 x.n)) (w1.drew.alloc (.cells #[.string T1, .string T2] 9)) := ⟨(World.cell?_alloc_lt _ _ ⟨w.heap.size, 0, none⟩ (by simp; omega)).trans x0, (World.cell?_alloc_lt _ _ ⟨w.heap.size, 1, none⟩ (by simp; omega)).trans x1, (World.cell?_alloc_lt _ _ ⟨w.heap.size, 2, none⟩ (by simp; omega)).trans x2, (World.cell?_alloc_lt _ _ ⟨w.heap.size, 3, none⟩ (by simp; omega)).trans x3, (World.cell?_alloc_lt _ _ ⟨w.heap.size, 4, none⟩ (by simp; omega)).trans x4⟩
  refine hK.out _ _ hS (fun hHeld => ?_)
  clear hK K
  try simp only [Act.put, List.getElem_toArray, List.getElem_cons_succ, List.getElem_cons_zero, List.setIfInBounds_toArray, List.set_cons_zero, List.set_cons_succ]
  refine wpAnyH_ready (rs := [7]) (by kernel_rfl) (by simp) ?_
  refine AllReadyH.cons rfl (fun K hK => ?_) AllReadyH.nil
  go_simp
  refine hK.out _ _ (by assumption) (fun hHeld => ?_)
  clear hK K
  try simp only [Act.put, List.getElem_toArray, List.getElem_cons_succ, List.getElem_cons_zero, List.setIfInBounds_toArray, List.set_cons_zero, List.set_cons_succ]
  refine wpAnyH_done (by kernel_rfl) ?_ _
  have P4 : Hid (PX w ((w1.alloc (.cells #[.string T1, .string T2] 9)).drew) x) := P1.out.below ((Below.refl _ _).alloc (Nat.le_refl _) _).drew
  have OU : Hid (((w1.alloc (.cells #[.string T1, .string T2] 9)).drew).ownsRow w1.heap.size 9 1 (.slice (some ⟨w1.heap.size, 0, none⟩) 2 2) 2 [.string T1, .string T2]) := World.ownsRow_lit (base := w1.heap.size) (e := 9) (size := 1) w1 #[.string T1, .string T2] 2 (Nat.le_refl _) (by unfold maxLen; omega) rfl
  have hzU : w1.heap.size < ((w1.alloc (.cells #[.string T1, .string T2] 9)).drew).heap.size := by simp
  go_upto_region 5 with fail
  clear hHeld x0 x1 x2 x3 x4 P1
  generalize ((w1.alloc (.cells #[.string T1, .string T2] 9)).drew) = U at P4 OU hzU ⊢
  obtain ⟨x0, x1, x2, x3, x4⟩ := P4.out.cells
  go_wp2_with fail
  refine (saysForm_c _ _).mono ?_
  rintro e w' ⟨rfl, rfl⟩
  rw [HK.out]
  cases t
  · obtain ⟨T3, hT3⟩ : ∃ T, dgT x.n = T := ⟨_, rfl⟩
    have HT3 : Hid (dgT x.n = T3) := hT3
    have HTW : Hid (stW x = [T1, T2, T3]) := by show stW x = _; unfold stW; rw [HK.out, HT1.out, HT2.out, hT3]; rfl
    clear hT3
    go_wp2_with fail
    refine (numS_c _ (by omega) (by omega) _).mono ?_
    rintro e w' ⟨rfl, rfl⟩
    rw [HT3.out]
    clear x0 x1 x2 x3 x4
    go_wp2_with (first
      | (at_builtin; refine wpList_append_own _ rfl _ _ 54 rfl w1.heap.size 9 i0 (.string ⟨#[]⟩) 1 16 Tryz.underlying54 hi hz0 hz1 hz2 rfl (by decide) _ _ _ rfl (OU.out.alloc _) ⟨U.heap.size, 0, none⟩ 1 1 [.string T3] rfl rfl ?c1 ?c2 ?c3 ?c4 ?c5 ?_)
      | fail)
    case c1 =>
      intro j u hj
      match j, hj with
      | 0, hj => simp at hj; subst hj; simp [Addr.add]
    case c2 => intro u hu; simp at hu; subst hu; rfl
    case c3 => unfold maxLen; omega
    case c4 => omega
    case c5 => simp; omega
    intro v' w9 hown' hgrow _
    have O9 : Hid (w9.ownsRow w1.heap.size 9 1 v' 3 ([T1, T2, T3].map Value.string)) := hown'
    have P9 : Hid (PX w w9 x) := (P4.out.below ((Below.refl _ _).alloc (Nat.le_refl _) _)).grown hgrow (fun q e => by have := (OU.out.lt q e).1; omega)
    clear hown' hgrow P4 OU
    go_wp2_with fail
    refine (joinW_c v' w1.heap.size [T1, T2, T3] 3 w9 rfl (by omega) (by rw [← HTW.out]; have := HSZ.out; omega) (by omega) O9.out).mono ?_
    rintro e w10 ⟨rfl, hb10⟩
    rw [← HTW.out, show (⟨(Lib.join ((stW x).map (·.data.toList)) [32]).toArray⟩ : ByteArray) = stText x from rfl, HT.out]
    obtain ⟨bel, _, d0, d1, g0, g1, lt⟩ := P9.out.below hb10
    clear hb10 P9 O9
    go_wp2_with fail
    refine bodyPost_ret (v := .agg #[.int .i64 0, .string T]) (by simp [results, Tryz.results7, go_sem, d0, d1]) rfl ⟨rfl, ?_⟩
    exact (bel.setCell (by simp) _).setCell (by simp) _
  · obtain ⟨T3, hT3⟩ : ∃ T, dgT x.f = T := ⟨_, rfl⟩
    obtain ⟨T4, hT4⟩ : ∃ T, textI x.s = T := ⟨_, rfl⟩
    have HT3 : Hid (dgT x.f = T3) := hT3
    have HT4 : Hid (∀ w : World, Calls Tryz.prog 29 #[.int .u8 x.s] w fun e w' => e = .returned (.string T4) ∧ Below w.heap.size w w') := fun w => by rw [← hT4]; exact text_c x.s s0 s1 w
    have HTW : Hid (stW x = [T1, T2, T3, T4]) := by show stW x = _; unfold stW; rw [HK.out, HT1.out, HT2.out, hT3, hT4]; rfl
    have HWR : Hid (IntKind.u8.wrap x.s = x.s) := by show IntKind.u8.wrap x.s = x.s; rw [IntKind.wrap_u8]; omega
    clear hT3 hT4
    go_wp2_with fail
    refine wp_region_held_drew (S := fun w' => w'.cell? ⟨w.heap.size, 0, none⟩ = some (.int .i64 x.k) ∧ w'.cell? ⟨w.heap.size, 1, none⟩ = some (.int .i64 x.e) ∧ w'.cell? ⟨w.heap.size, 2, none⟩ = some (.int .i64 x.f) ∧ w'.cell? ⟨w.heap.size, 3, none⟩ = some (.int .i64 x.s) ∧ w'.cell? ⟨w.heap.size, 4, none⟩ = some (.int .i64 x.n)) (by kernel_rfl) (P4.out.cells) (fun hHeld => ?_)
    refine wpAnyH_take (i := 0) (v := ?_) rfl (by kernel_rfl) (by kernel_rfl) (by kernel_rfl) (fun _ _ _ h => h) (Or.inl ⟨by kernel_rfl, ?_⟩) (by assumption) ?_
    rotate_left 1
    · intro w hSw; (try dsimp only at hSw); go_simp; try (with_reducible rfl)
    try simp only [Act.put, List.getElem_toArray, List.getElem_cons_succ, List.getElem_cons_zero, List.setIfInBounds_toArray, List.set_cons_zero, List.set_cons_succ]
    refine wpAnyH_take (i := 1) (v := ?_) rfl (by kernel_rfl) (by kernel_rfl) (by kernel_rfl) (fun _ _ _ h => h) (Or.inl ⟨by kernel_rfl, ?_⟩) (by assumption) ?_
    rotate_left 1
    · intro w hSw; (try dsimp only at hSw); go_simp; try (with_reducible rfl)
    try simp only [Act.put, List.getElem_toArray, List.getElem_cons_succ, List.getElem_cons_zero, List.setIfInBounds_toArray, List.set_cons_zero, List.set_cons_succ]
    refine wpAnyH_take (i := 2) (v := ?_) rfl (by kernel_rfl) (by kernel_rfl) (by kernel_rfl) (fun _ _ _ h => h) (Or.inl ⟨by kernel_rfl, ?_⟩) (by assumption) ?_
    rotate_left 1
    · intro w hSw; (try dsimp only at hSw); go_simp; try (with_reducible rfl)
    try simp only [Act.put, List.getElem_toArray, List.getElem_cons_succ, List.getElem_cons_zero, List.setIfInBounds_toArray, List.set_cons_zero, List.set_cons_succ]
    refine wpAnyH_take (i := 4) (v := ?_) rfl (by kernel_rfl) (by kernel_rfl) (by kernel_rfl) (fun _ _ _ h => h) (Or.inl ⟨by kernel_rfl, ?_⟩) (by assumption) ?_
    rotate_left 1
    · intro w hSw; (try dsimp only at hSw); go_simp; try (with_reducible rfl)
    try simp only [Act.put, List.getElem_toArray, List.getElem_cons_succ, List.getElem_cons_zero, List.setIfInBounds_toArray, List.set_cons_zero, List.set_cons_succ]
    refine wpAnyH_take (i := 5) (v := ?_) rfl (by kernel_rfl) (by kernel_rfl) (by kernel_rfl) (fun _ _ _ h => h) (Or.inl ⟨by kernel_rfl, ?_⟩) (by assumption) ?_
    rotate_left 1
    · intro w hSw; (try dsimp only at hSw); go_simp; try (with_reducible rfl)
    try simp only [Act.put, List.getElem_toArray, List.getElem_cons_succ, List.getElem_cons_zero, List.setIfInBounds_toArray, List.set_cons_zero, List.set_cons_succ]
    refine wpAnyH_take (i := 6) (v := ?_) rfl (by kernel_rfl) (by kernel_rfl) (by kernel_rfl) (fun _ _ _ h => h) (Or.inl ⟨by kernel_rfl, ?_⟩) (by assumption) ?_
    rotate_left 1
    · intro w hSw; (try dsimp only at hSw); go_simp; try (with_reducible rfl)
    try simp only [Act.put, List.getElem_toArray, List.getElem_cons_succ, List.getElem_cons_zero, List.setIfInBounds_toArray, List.set_cons_zero, List.set_cons_succ]
    refine wpAnyH_ready (rs := [3]) (by kernel_rfl) (by simp) ?_
    refine AllReadyH.cons rfl (fun K hK => ?_) AllReadyH.nil
    go_simp
    refine (numS_c _ (by omega) (by omega) _).mono ?_
    rintro e w' ⟨rfl, rfl⟩
    rw [HT3.out]
    have hS := hHeld
    refine hK.out _ _ hS (fun hHeld => ?_)
    clear hK K
    try simp only [Act.put, List.getElem_toArray, List.getElem_cons_succ, List.getElem_cons_zero, List.setIfInBounds_toArray, List.set_cons_zero, List.set_cons_succ]
    refine wpAnyH_ready (rs := [7]) (by kernel_rfl) (by simp) ?_
    refine AllReadyH.cons rfl (fun K hK => ?_) AllReadyH.nil
    go_simp
    rw [HWR.out]
    refine (HT4.out _).mono ?_
    rintro e u5 ⟨rfl, hb5'⟩
    have hb5 : Below U.heap.size U u5 := ((Below.refl _ _).drew).trans hb5'
    have O5 : Hid (u5.ownsRow w1.heap.size 9 1 (.slice (some ⟨w1.heap.size, 0, none⟩) 2 2) 2 [.string T1, .string T2]) := World.ownsRow.kept (row := none) OU.out ⟨hb5.os, hb5.tape, hb5.output, hb5.size, fun k hk _ => hb5.block k hk⟩ (by simp [Value.ownBlock])
    have P5 : Hid (PX w u5 x) := P4.out.below hb5
    have hz5 := hb5.size
    have hS : (fun w' => w'.cell? ⟨w.heap.size, 0, none⟩ = some (.int .i64 x.k) ∧ w'.cell? ⟨w.heap.size, 1, none⟩ = some (.int .i64 x.e) ∧ w'.cell? ⟨w.heap.size, 2, none⟩ = some (.int .i64 x.f) ∧ w'.cell? ⟨w.heap.size, 3, none⟩ = some (.int .i64 x.s) ∧ w'.cell? ⟨w.heap.size, 4, none⟩ = some (.int .i64 x.n)) u5 := P5.out.cells
    clear hb5 hb5'
    refine hK.out _ _ hS (fun hHeld => ?_)
    clear hK K
    try simp only [Act.put, List.getElem_toArray, List.getElem_cons_succ, List.getElem_cons_zero, List.setIfInBounds_toArray, List.set_cons_zero, List.set_cons_succ]
    refine wpAnyH_ready (rs := [8]) (by kernel_rfl) (by simp) ?_
    refine AllReadyH.cons rfl (fun K hK => ?_) AllReadyH.nil
    go_simp
    have hS : (fun w' => w'.cell? ⟨w.heap.size, 0, none⟩ = some (.int .i64 x.k) ∧ w'.cell? ⟨w.heap.size, 1, none⟩ = some (.int .i64 x.e) ∧ w'.cell? ⟨w.heap.size, 2, none⟩ = some (.int .i64 x.f) ∧ w'.cell? ⟨w.heap.size, 3, none⟩ = some (.int .i64 x.s) ∧ w'.cell? ⟨w.heap.size, 4, none⟩ = some (.int .i64 x.n)) (u5.alloc (.cells #[.string T3, .string T4] 9)) := (P5.out.below ((Below.refl _ _).alloc (Nat.le_refl _) _)).cells
    refine hK.out _ _ hS (fun hHeld => ?_)
    clear hK K
    try simp only [Act.put, List.getElem_toArray, List.getElem_cons_succ, List.getElem_cons_zero, List.setIfInBounds_toArray, List.set_cons_zero, List.set_cons_succ]
    refine wpAnyH_ready (rs := [9]) (by kernel_rfl) (by simp) ?_
    refine AllReadyH.cons rfl (fun K hK => ?_) AllReadyH.nil
    refine step_append_own3 rfl (.tmp 21) (.tmp 29) 54 rfl w1.heap.size 9 i0 (.string ⟨#[]⟩) 1 16 Tryz.underlying54 hi hz0 hz1 hz2 rfl (by decide) (.slice (some ⟨w1.heap.size, 0, none⟩) 2 2) 2 [.string T1, .string T2] rfl (O5.out.alloc _) ⟨u5.heap.size, 0, none⟩ 2 2 [.string T3, .string T4] rfl rfl ?c1 ?c2 (by unfold maxLen; omega) (by omega) (by simp; omega) ?_
    case c1 =>
      intro j u hj
      match j, hj with
      | 0, hj => simp at hj; subst hj; simp [Addr.add]
      | 1, hj => simp at hj; subst hj; simp [Addr.add]
    case c2 =>
      intro u hu
      simp at hu
      rcases hu with rfl | rfl <;> rfl
    intro v' w9 hown' hgrow _
    have O9 : Hid (w9.ownsRow w1.heap.size 9 1 v' 4 [.string T1, .string T2, .string T3, .string T4]) := hown'
    have P9 : Hid (PX w w9 x) := (P5.out.below ((Below.refl _ _).alloc (Nat.le_refl _) _)).grown hgrow (fun q e => by have := (O5.out.lt q e).1; omega)
    have hS : (fun w' => w'.cell? ⟨w.heap.size, 0, none⟩ = some (.int .i64 x.k) ∧ w'.cell? ⟨w.heap.size, 1, none⟩ = some (.int .i64 x.e) ∧ w'.cell? ⟨w.heap.size, 2, none⟩ = some (.int .i64 x.f) ∧ w'.cell? ⟨w.heap.size, 3, none⟩ = some (.int .i64 x.s) ∧ w'.cell? ⟨w.heap.size, 4, none⟩ = some (.int .i64 x.n)) w9 := P9.out.cells
    clear hown' hgrow
    refine hK.out _ _ hS (fun hHeld => ?_)
    clear hK K
    try simp only [Act.put, List.getElem_toArray, List.getElem_cons_succ, List.getElem_cons_zero, List.setIfInBounds_toArray, List.set_cons_zero, List.set_cons_succ]
    refine wpAnyH_ready (rs := [10]) (by kernel_rfl) (by simp) ?_
    refine AllReadyH.cons rfl (fun K hK => ?_) AllReadyH.nil
    go_simp
    refine hK.out _ _ (by assumption) (fun hHeld => ?_)
    clear hK K
    try simp only [Act.put, List.getElem_toArray, List.getElem_cons_succ, List.getElem_cons_zero, List.setIfInBounds_toArray, List.set_cons_zero, List.set_cons_succ]
    refine wpAnyH_done (by kernel_rfl) ?_ _
    clear P4 OU P5 O5 hHeld
    go_wp2_with fail
    refine (joinW_c v' w1.heap.size [T1, T2, T3, T4] 4 w9 rfl (by omega) (by rw [← HTW.out]; have := HSZ.out; omega) (by omega) O9.out).mono ?_
    rintro e w10 ⟨rfl, hb10⟩
    rw [← HTW.out, show (⟨(Lib.join ((stW x).map (·.data.toList)) [32]).toArray⟩ : ByteArray) = stText x from rfl, HT.out]
    obtain ⟨bel, _, d0, d1, g0, g1, lt⟩ := P9.out.below hb10
    clear hb10 P9 O9
    go_wp2_with fail
    refine bodyPost_ret (v := .agg #[.int .i64 0, .string T]) (by simp [results, Tryz.results7, go_sem, d0, d1]) rfl ⟨rfl, ?_⟩
    exact (bel.setCell (by simp) _).setCell (by simp) _

end Go.Proofs.YtdmejfhojdkfbaaGreatDoor
