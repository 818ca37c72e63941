/-
  CONTRACTS: spec.DrawVerifyCert: shares, a number and a certificate, drawn.
  Conditions: each contract bears its own.
-/
import Derived.Test.YtdfhebmecbcegaaDd3
import Derived.Laws.AppendOwnNone
namespace Go.Proofs.Ytdfhebmecbcegaa
open Go.RowKit
set_option linter.unusedVariables false
set_option linter.unusedSimpArgs false

theorem Try.infoU8 : (Try.prog.info? 5).map (fun i => (i.zero, i.size, i.bytes)) = some (some (.int .u8 0), 1, 1) := by kernel_rfl

/-- The bytes of a code. -/
def bytesV (ys : List Int) (len : Nat) : List Value := (List.range len).map (fun k => Value.int .u8 (ys[k]?.getD 0))

theorem step_none {P : Program} {w : World} {ops : Array Oper} {o : Oper} {a : Act} {K : Act → World → Prop} {Q : Exit → Act → World → Prop} {E : Prop} (hgd : o.guard = none) (s x : Operand) (t : TypeId)
    (ho : o.op = .call { callee := .builtin .append, args := #[s, x], argTypes := #[t, t] })
    (base : Nat) (e : TypeId) (i : TypeInfo) (size : Nat) (ht : P.underlying t = some (.slice e)) (hi : P.info? e = some i)
    (v : Value) (n : Nat) (xs : List Value) (hs : a.eval s = v) (hown : w.ownsRow base e size v n xs) (hx : a.eval x = .slice none 0 0)
    (h : K (a.put o.dst v) w) : if Region.wanted o (yielded ops a.tmps) = true then Oper.wp P o a w K Q else E := by
  have hw : Region.wanted o (yielded ops a.tmps) = true := by simp [Region.wanted, hgd]
  rw [if_pos hw]
  have hrun := run_append_owned_none (P := P) (w := w) base t o.type e i size ht hi v n xs hown
  unfold Oper.wp
  simp [execOp, ho, resolve, invoke, builtin, hs, hx, hrun, Result.andThen]
  exact h

/-- Bytes put behind one byte. -/
theorem step_bytes {P : Program} {w : World} {ops : Array Oper} {o : Oper} {ac : Act} {K : Act → World → Prop} {Q : Exit → Act → World → Prop} {E : Prop} (hgd : o.guard = none) (s x : Operand) (t : TypeId)
    (ho : o.op = .call { callee := .builtin .append, args := #[s, x], argTypes := #[t, t] })
    (base : Nat) (e : TypeId) (i : TypeInfo) (ht : P.underlying t = some (.slice e)) (hi : P.info? e = some i) (hz : i.zero = some (.int .u8 0)) (hsize : i.size = 1) (hby : i.bytes = 1)
    (g : Nat) (b0 : Value) (hs : ac.eval s = .slice (some ⟨g, 0, none⟩) 1 1) (hown : w.ownsRow base e 1 (.slice (some ⟨g, 0, none⟩) 1 1) 1 [b0])
    (a : Option Addr) (len cap : Nat) (ys : List Int) (hx : ac.eval x = .slice a len cap) (hc : CodeIn w a len ys) (hn : a = none → len = 0 ∧ cap = 0) (hl : len ≤ 1048576) (hbase : base ≤ w.heap.size)
    (h : ∀ g' c' w', w'.ownsRow base e 1 (.slice (some ⟨g', 0, none⟩) (1 + len) c') (1 + len) ([b0] ++ bytesV ys len) → w.grownBy w' (some g) → K (ac.put o.dst (.slice (some ⟨g', 0, none⟩) (1 + len) c')) w') :
    if Region.wanted o (yielded ops ac.tmps) = true then Oper.wp P o ac w K Q else E := by
  cases a with
  | none =>
    obtain ⟨rfl, rfl⟩ := hn rfl
    exact step_none hgd s x t ho base e i 1 ht hi _ 1 [b0] hs hown hx (h g 1 w (by simpa [bytesV] using hown) ⟨rfl, rfl, rfl, Nat.le_refl _, fun _ _ _ => rfl⟩)
  | some ad =>
    refine step_appendI hgd s x t ho base e i (.int .u8 0) 1 1 ht hi hz hsize hby rfl (by decide) _ 1 [b0] hs hown ad len cap (bytesV ys len) hx (by simp [bytesV]) ?_ ?_ (by unfold maxLen; omega) (by omega) hbase ?_
    · intro j u hj
      have hjl : j < len := by
        have := (List.getElem?_eq_some_iff.1 hj).1
        simpa [bytesV] using this
      obtain ⟨b, off, e1, hcc, _⟩ := hc j hjl
      simp [bytesV, hjl] at hj
      subst hj
      cases e1
      match j with
      | 0 => simpa [Addr.add] using hcc
      | j + 1 => simpa [Addr.add] using hcc
    · intro u hu
      simp [bytesV] at hu
      obtain ⟨k, _, rfl⟩ := hu
      rfl
    · intro v' w' ho' hg' hnil
      rcases ho'.2 with ⟨e1, e2⟩ | ⟨g', c', cur, e1, rest⟩
      · omega
      · subst e1
        exact h g' c' w' ho' hg'

theorem code_of {w : World} {base : Nat} {e : TypeId} {g c len : Nat} {ys : List Int} {b0 : Int} (h0 : 0 ≤ b0) (h1 : b0 ≤ 255) (hy : ∀ k, k < len → 0 ≤ ys[k]?.getD 0 ∧ ys[k]?.getD 0 ≤ 255) (ho : w.ownsRow base e 1 (.slice (some ⟨g, 0, none⟩) (1 + len) c) (1 + len) ([.int .u8 b0] ++ bytesV ys len)) : CodeIn w (some ⟨g, 0, none⟩) (1 + len) (b0 :: (List.range len).map (fun k => ys[k]?.getD 0)) := by
  intro k hk
  have hcell := ho.cellAt k (by omega)
  refine ⟨g, 0, rfl, ?_, ?_⟩
  · rw [Nat.zero_add, hcell]
    cases k with
    | zero => rfl
    | succ m =>
      have hm : m < len := by omega
      simp [bytesV, hm]
  · cases k with
    | zero => exact ⟨h0, h1⟩
    | succ m =>
      have hm : m < len := by omega
      have := hy m hm
      simpa [hm] using this

theorem heap6 (wr : World) {R b : Nat} (h : b ≠ R) (v0 v1 v2 v3 v4 v5 : Value) : ((((((wr.setCell ⟨R, 0, none⟩ v0).setCell ⟨R, 1, none⟩ v1).setCell ⟨R, 2, none⟩ v2).setCell ⟨R, 3, none⟩ v3).setCell ⟨R, 4, none⟩ v4).setCell ⟨R, 5, none⟩ v5).heap[b]? = wr.heap[b]? := by
  rw [Below.heap_setCell _ _ _ _ h, Below.heap_setCell _ _ _ _ h, Below.heap_setCell _ _ _ _ h, Below.heap_setCell _ _ _ _ h, Below.heap_setCell _ _ _ _ h, Below.heap_setCell _ _ _ _ h]

theorem cell6 (wr : World) {R b : Nat} (h : b ≠ R) (o : Nat) (v0 v1 v2 v3 v4 v5 : Value) : ((((((wr.setCell ⟨R, 0, none⟩ v0).setCell ⟨R, 1, none⟩ v1).setCell ⟨R, 2, none⟩ v2).setCell ⟨R, 3, none⟩ v3).setCell ⟨R, 4, none⟩ v4).setCell ⟨R, 5, none⟩ v5).cell? ⟨b, o, none⟩ = wr.cell? ⟨b, o, none⟩ :=
  World.cell?_of_block (a := ⟨b, o, none⟩) (heap6 wr h v0 v1 v2 v3 v4 v5)

theorem ints6 {wr : World} {R : Nat} {ga : Option Addr} {gn : Nat} {us : List Int} (h : IntIn wr ga gn us) (hb : ∀ b off, ga = some ⟨b, off, none⟩ → R < b) (v0 v1 v2 v3 v4 v5 : Value) : IntIn ((((((wr.setCell ⟨R, 0, none⟩ v0).setCell ⟨R, 1, none⟩ v1).setCell ⟨R, 2, none⟩ v2).setCell ⟨R, 3, none⟩ v3).setCell ⟨R, 4, none⟩ v4).setCell ⟨R, 5, none⟩ v5) ga gn us := by
  refine ⟨h.1, fun hn => ?_⟩
  obtain ⟨b, off, e, hc⟩ := h.2 hn
  have hbR := hb b off e
  exact ⟨b, off, e, fun k x hx => (cell6 wr (by omega) _ v0 v1 v2 v3 v4 v5).trans (hc k x hx)⟩

/-- What DrawVerifyCert gives. -/
def GivesV9 (fn : Nat) (a : Option Addr) (len cap : Nat) (w : World) : Prop := Calls Try.prog fn #[.slice a len cap] w fun e w' => ∃ (va : Option Addr) (vc : Nat) (zs : List ShI) (f : Int) (x : StI) (ga : Option Addr) (gn gc : Nat) (us : List Int), e = .returned (.tuple #[.slice va zs.length vc, .int .i64 f, .agg #[.int .i64 x.k, .int .i64 x.e, .int .i64 x.f, .int .i64 x.s, .int .i64 x.n, .slice ga gn gc]]) ∧ zs.length ≤ 121 ∧ 0 ≤ f ∧ f ≤ 3 ∧ (∀ z ∈ zs, 0 ≤ z.r ∧ z.r ≤ 8) ∧ OwnSh w' w.heap.size (.slice va zs.length vc) zs ∧ gn ≤ 1001 ∧ IntIn w' ga gn us ∧ Below w.heap.size w w'

set_option maxRecDepth 20000 in
set_option maxHeartbeats 1000000 in
theorem drawVerify_c (a : Option Addr) (len cap : Nat) (ys : List Int) (w : World) (h : CodeIn w a len ys) (hl : len ≤ 1048576) (hnil : a = none → len = 0 ∧ cap = 0) : GivesV9 20 a len cap w := by
  have HYB : Hid (∀ k, k < len → 0 ≤ ys[k]?.getD 0 ∧ ys[k]?.getD 0 ≤ 255) := fun k hk => by obtain ⟨_, _, _, _, h2⟩ := h k hk; exact h2
  have HK : Hid (GivesW9 43 a len cap (w.alloc (.cells #[.int .i64 0, .int .i64 0, .int .i64 0, .int .i64 0, .int .i64 0, .slice none 0 0] 31))) := with9_c a len cap ys _ (h.kept (row := none) (grown_alloc w _) (fun _ _ _ => .inr (by simp))) hl
  have CO0 : Hid (CodeIn (w.alloc (.cells #[.int .i64 0, .int .i64 0, .int .i64 0, .int .i64 0, .int .i64 0, .slice none 0 0] 31)) a len ys) := h.kept (row := none) (grown_alloc w _) (fun _ _ _ => .inr (by simp))
  have RC : Hid (BoxW w.heap.size [.int .i64 0, .int .i64 0, .int .i64 0, .int .i64 0, .int .i64 0, .slice none 0 0] (w.alloc (.cells #[.int .i64 0, .int .i64 0, .int .i64 0, .int .i64 0, .int .i64 0, .slice none 0 0] 31))) := boxW_new w _ _
  have HB1 : Hid (Below w.heap.size w (w.alloc (.cells #[.int .i64 0, .int .i64 0, .int .i64 0, .int .i64 0, .int .i64 0, .slice none 0 0] 31))) := (Below.refl _ _).alloc (Nat.le_refl _) _
  have hsz : (w.alloc (.cells #[.int .i64 0, .int .i64 0, .int .i64 0, .int .i64 0, .int .i64 0, .slice none 0 0] 31)).heap.size = w.heap.size + 1 := by simp
  obtain ⟨i0, hi, hz0, hz1, hz2⟩ := info_parts Try.infoU8
  have hun : Try.prog.underlying 22 = some (.slice 5) := by kernel_rfl
  clear h
  unfold GivesW9 at HK
  unfold GivesV9
  go_enter Try.func20, Try.ntmps20
  go_wp2_with fail
  generalize w.alloc (.cells #[.int .i64 0, .int .i64 0, .int .i64 0, .int .i64 0, .int .i64 0, .slice none 0 0] 31) = W0 at HK CO0 RC HB1 hsz ⊢
  refine HK.out.mono ?_
  rintro e w1 ⟨va, vc, zs, f, x, rfl, hzl, f0, f3, hok, how, hb⟩
  have HOK := hid hok
  have hb01 : Below W0.heap.size W0 (w1.alloc (.cells #[.int .i64 x.k, .int .i64 x.e, .int .i64 x.f, .int .i64 x.s, .int .i64 x.n] 26)) := hb.alloc hb.size _
  obtain ⟨W1, hW1⟩ : ∃ W1, W1 = w1.alloc (.cells #[.int .i64 x.k, .int .i64 x.e, .int .i64 x.f, .int .i64 x.s, .int .i64 x.n] 26) := ⟨_, rfl⟩
  rw [← hW1] at hb01
  have SH : Hid (OwnSh W1 W0.heap.size (.slice va zs.length vc) zs) := by rw [hW1]; exact how.alloc _
  have XB : Hid (BoxV w1.heap.size [.int .i64 x.k, .int .i64 x.e, .int .i64 x.f, .int .i64 x.s, .int .i64 x.n] W1) := by rw [hW1]; exact (boxV_new w1 _ _).out
  have hql : w1.heap.size < W1.heap.size := by rw [hW1]; simp
  have BL1 : Hid (Below w.heap.size w W1) := HB1.out.trans (hb01.mono (by omega))
  have RB : Hid (BoxW w.heap.size [.int .i64 0, .int .i64 0, .int .i64 0, .int .i64 0, .int .i64 0, .slice none 0 0] W1) := RC.out.below (by omega) hb01
  have hRl : w.heap.size < W1.heap.size := Nat.lt_of_lt_of_le (by omega) hb01.size
  have hqR : w1.heap.size ≠ w.heap.size := by have := hb.size; omega
  have CO1 : CodeIn W1 a len ys := CO0.out.kept (row := none) (grown_below hb01) (fun _ _ _ => .inr (by simp))
  have HB5 : Hid (Below W1.heap.size W1 ((W1.alloc (.cells #[.int .u8 5] 5)).drew)) := ((Below.refl _ _).alloc (Nat.le_refl _) _).drew
  have CO5 : Hid (CodeIn ((W1.alloc (.cells #[.int .u8 5] 5)).drew) a len ys) := CO1.kept (row := none) (grown_below HB5.out) (fun _ _ _ => .inr (by simp))
  have HO5 : Hid (World.ownsRow ((W1.alloc (.cells #[.int .u8 5] 5)).drew) W1.heap.size 5 1 (.slice (some ⟨W1.heap.size, 0, none⟩) 1 1) 1 [.int .u8 5]) := owns_drew9 (World.ownsRow_lit (base := W1.heap.size) (e := 5) (size := 1) W1 #[.int .u8 5] 1 (Nat.le_refl _) (by decide) rfl)
  clear hok how hb hb01 HK CO0 RC HB1 CO1
  go_upto_region 2 with fail
  rw [← hW1]
  clear hW1
  generalize hRe : w.heap.size = R at RB hRl hqR hsz ⊢
  have HRe : Hid (w.heap.size = R) := hRe
  rw [hsz] at SH
  clear hRe hsz
  generalize w1.heap.size = q at XB hql hqR ⊢
  have x0 := XB.out 0 _ rfl
  have x1 := XB.out 1 _ rfl
  have x2 := XB.out 2 _ rfl
  have x3 := XB.out 3 _ rfl
  have x4 := XB.out 4 _ rfl
  refine wp_region_held_drew (S := fun w' => ∀ b o, b < W1.heap.size → b ≠ R → w'.cell? ⟨b, o, none⟩ = W1.cell? ⟨b, o, none⟩) (by kernel_rfl) (fun b o _ _ => rfl) (fun hHeld => ?_)
  refine wpAnyH_take (i := 0) (v := ?_) rfl (by kernel_rfl) (by kernel_rfl) (by kernel_rfl) (fun _ _ _ h => h) (Or.inl ⟨by kernel_rfl, ?_⟩) (by assumption) ?_
  rotate_left 1
  · intro w hSw; (try dsimp only at hSw); go_simp; try (with_reducible rfl)
  try simp only [Act.put, List.getElem_toArray, List.getElem_cons_succ, List.getElem_cons_zero, List.setIfInBounds_toArray, List.set_cons_zero, List.set_cons_succ]
  refine wpAnyH_take (i := 1) (v := ?_) rfl (by kernel_rfl) (by kernel_rfl) (by kernel_rfl) (fun _ _ _ h => h) (Or.inl ⟨by kernel_rfl, ?_⟩) (by assumption) ?_
  rotate_left 1
  · intro w hSw; (try dsimp only at hSw); go_simp; try (with_reducible rfl)
  try simp only [Act.put, List.getElem_toArray, List.getElem_cons_succ, List.getElem_cons_zero, List.setIfInBounds_toArray, List.set_cons_zero, List.set_cons_succ]
  refine wpAnyH_take (i := 3) (v := ?_) rfl (by kernel_rfl) (by kernel_rfl) (by kernel_rfl) (fun _ _ _ h => h) (Or.inl ⟨by kernel_rfl, ?_⟩) (by assumption) ?_
  rotate_left 1
  · intro w hSw; (try dsimp only at hSw); go_simp; try (with_reducible rfl)
  try simp only [Act.put, List.getElem_toArray, List.getElem_cons_succ, List.getElem_cons_zero, List.setIfInBounds_toArray, List.set_cons_zero, List.set_cons_succ]
  refine wpAnyH_take (i := 6) (v := ?_) rfl (by kernel_rfl) (by kernel_rfl) (by kernel_rfl) (fun _ _ _ h => h) (Or.inl ⟨by kernel_rfl, ?_⟩) (by assumption) ?_
  rotate_left 1
  · intro w hSw; (try dsimp only at hSw); go_simp; try (with_reducible rfl)
  try simp only [Act.put, List.getElem_toArray, List.getElem_cons_succ, List.getElem_cons_zero, List.setIfInBounds_toArray, List.set_cons_zero, List.set_cons_succ]
  refine wpAnyH_take (i := 7) (v := ?_) rfl (by kernel_rfl) (by kernel_rfl) (by kernel_rfl) (fun _ _ _ h => h) (Or.inl ⟨by kernel_rfl, ?_⟩) (by assumption) ?_
  rotate_left 1
  · intro w hSw; (try dsimp only at hSw); go_simp; try (with_reducible rfl)
  try simp only [Act.put, List.getElem_toArray, List.getElem_cons_succ, List.getElem_cons_zero, List.setIfInBounds_toArray, List.set_cons_zero, List.set_cons_succ]
  refine wpAnyH_ready (rs := [2]) (by kernel_rfl) (by simp) ?_
  refine AllReadyH.cons rfl (fun K hK => ?_) AllReadyH.nil
  go_simp
  have hS : ∀ b o, b < W1.heap.size → b ≠ R → ((W1.alloc (.cells #[.int .u8 5] 5)).drew).cell? ⟨b, o, none⟩ = W1.cell? ⟨b, o, none⟩ := fun b o h1 _ => HB5.out.cell (p := ⟨b, o, none⟩) h1
  refine hK.out _ _ hS (fun hHeld => ?_)
  clear hK K
  try simp only [Act.put, List.getElem_toArray, List.getElem_cons_succ, List.getElem_cons_zero, List.setIfInBounds_toArray, List.set_cons_zero, List.set_cons_succ]
  refine wpAnyH_ready (rs := [4]) (by kernel_rfl) (by simp) ?_
  refine AllReadyH.cons rfl (fun K hK => ?_) AllReadyH.nil
  refine step_bytes rfl (.tmp 16) (.tmp 17) 22 rfl W1.heap.size 5 i0 hun hi hz0 hz1 hz2 W1.heap.size (.int .u8 5) (by rfl) HO5.out a len cap ys (by rfl) CO5.out hnil hl (by simp [go_sem]) ?_
  intro g5 c5 w5 ho5 hg5
  have hb5 : Below W1.heap.size W1 w5 := HB5.out.grown hg5 HB5.out.size (fun k e => by cases e; exact Nat.le_refl _)
  have CO6 := hid (code_of (by decide) (by decide) HYB.out ho5)
  have hS : ∀ b o, b < W1.heap.size → b ≠ R → w5.cell? ⟨b, o, none⟩ = W1.cell? ⟨b, o, none⟩ := fun b o h1 _ => hb5.cell (p := ⟨b, o, none⟩) h1
  clear ho5 hg5
  refine hK.out _ _ hS (fun hHeld => ?_)
  clear hK K
  try simp only [Act.put, List.getElem_toArray, List.getElem_cons_succ, List.getElem_cons_zero, List.setIfInBounds_toArray, List.set_cons_zero, List.set_cons_succ]
  refine wpAnyH_ready (rs := [5]) (by kernel_rfl) (by simp) ?_
  refine AllReadyH.cons rfl (fun K hK => ?_) AllReadyH.nil
  go_simp
  refine (source_c (some ⟨g5, 0, none⟩) (1 + len) c5 w5).mono ?_
  rintro d w6 ⟨rfl, rfl⟩
  have HS6 := hid (src_new w5 _ (1 + len) c5 _ CO6.out)
  have hb6 := hb5.alloc hb5.size (.cells #[.slice (some ⟨g5, 0, none⟩) (1 + len) c5, .int .i64 0] 117)
  have hS : ∀ b o, b < W1.heap.size → b ≠ R → (w5.alloc (.cells #[.slice (some ⟨g5, 0, none⟩) (1 + len) c5, .int .i64 0] 117)).cell? ⟨b, o, none⟩ = W1.cell? ⟨b, o, none⟩ := fun b o h1 _ => hb6.cell (p := ⟨b, o, none⟩) h1
  refine hK.out _ _ hS (fun hHeld => ?_)
  clear hK K
  try simp only [Act.put, List.getElem_toArray, List.getElem_cons_succ, List.getElem_cons_zero, List.setIfInBounds_toArray, List.set_cons_zero, List.set_cons_succ]
  refine wpAnyH_ready (rs := [8]) (by kernel_rfl) (by simp) ?_
  refine AllReadyH.cons rfl (fun K hK => ?_) AllReadyH.nil
  go_simp
  have HC9 := cert9_c _ w5.heap.size _ (1 + len) c5 0 _ va vc zs x HS6.out (by omega) (by omega) (by omega) (ShV.isIn rfl (OwnSh.view (SH.out.below hb6)))
  unfold GivesC9 at HC9
  refine HC9.mono ?_
  clear HC9
  rintro d w7 ⟨ga, gn, gc, us, rfl, hgn, hI7, hG7, hga⟩
  have hb7 : Below W1.heap.size W1 w7 := hb6.grown hG7 hb6.size (fun k e => by cases e; exact hb5.size)
  have HI7 := hid hI7
  have HGA : Hid (∀ b off, ga = some ⟨b, off, none⟩ → R < b) := fun b off e => by have h1 := hga b off e; have h2 := hb6.size; omega
  have HR7 := hid (RB.out.below hRl hb7)
  have SH7 := hid (SH.out.below hb7)
  have HB7 := hid hb7
  have hRl7 := Nat.lt_of_lt_of_le hRl hb7.size
  have n0 := HR7.out.1 0 _ rfl
  have n1 := HR7.out.1 1 _ rfl
  have n2 := HR7.out.1 2 _ rfl
  have n3 := HR7.out.1 3 _ rfl
  have n4 := HR7.out.1 4 _ rfl
  have n5 := HR7.out.1 5 _ rfl
  have m0 := HR7.out.2 0
  have m1 := HR7.out.2 1
  have m2 := HR7.out.2 2
  have m3 := HR7.out.2 3
  have m4 := HR7.out.2 4
  have m5 := HR7.out.2 5
  have hS : ∀ b o, b < W1.heap.size → b ≠ R → w7.cell? ⟨b, o, none⟩ = W1.cell? ⟨b, o, none⟩ := fun b o h1 _ => hb7.cell (p := ⟨b, o, none⟩) h1
  clear hI7 hG7 hga hb7 hb6 HS6
  refine hK.out _ _ hS (fun hHeld => ?_)
  clear hK K
  try simp only [Act.put, List.getElem_toArray, List.getElem_cons_succ, List.getElem_cons_zero, List.setIfInBounds_toArray, List.set_cons_zero, List.set_cons_succ]
  refine wpAnyH_ready (rs := [9]) (by kernel_rfl) (by simp) ?_
  refine AllReadyH.cons rfl (fun K hK => ?_) AllReadyH.nil
  go_simp
  refine hK.out _ _ (by assumption) (fun hHeld => ?_)
  clear hK K
  try simp only [Act.put, List.getElem_toArray, List.getElem_cons_succ, List.getElem_cons_zero, List.setIfInBounds_toArray, List.set_cons_zero, List.set_cons_succ]
  refine wpAnyH_ready (rs := [10]) (by kernel_rfl) (by simp) ?_
  refine AllReadyH.cons rfl (fun K hK => ?_) AllReadyH.nil
  go_simp
  refine hK.out _ _ (by assumption) (fun hHeld => ?_)
  clear hK K
  try simp only [Act.put, List.getElem_toArray, List.getElem_cons_succ, List.getElem_cons_zero, List.setIfInBounds_toArray, List.set_cons_zero, List.set_cons_succ]
  refine wpAnyH_ready (rs := [11]) (by kernel_rfl) (by simp) ?_
  refine AllReadyH.cons rfl (fun K hK => ?_) AllReadyH.nil
  go_simp
  have hS : ∀ b o, b < W1.heap.size → b ≠ R → _ = W1.cell? ⟨b, o, none⟩ := fun b o h1 h2 => (cell6 w7 h2 o (.int .i64 x.k) (.int .i64 x.e) (.int .i64 x.f) (.int .i64 x.s) (.int .i64 x.n) (.slice ga gn gc)).trans (hHeld b o h1 h2)
  refine hK.out _ _ hS (fun hHeld => ?_)
  clear hK K
  try simp only [Act.put, List.getElem_toArray, List.getElem_cons_succ, List.getElem_cons_zero, List.setIfInBounds_toArray, List.set_cons_zero, List.set_cons_succ]
  refine wpAnyH_done (by kernel_rfl) ?_ _
  go_wp2_with fail
  refine bodyPost_ret (v := .tuple #[.slice va zs.length vc, .int .i64 f, .agg #[.int .i64 x.k, .int .i64 x.e, .int .i64 x.f, .int .i64 x.s, .int .i64 x.n, .slice ga gn gc]]) (by simp [results, Try.results20, go_sem, n0, n1, n2, n3, n4, n5, hRl7]) rfl ⟨va, vc, zs, f, x, ga, gn, gc, us, rfl, hzl, f0, f3, HOK.out, ?_, hgn, ints6 HI7.out HGA.out (.int .i64 x.k) (.int .i64 x.e) (.int .i64 x.f) (.int .i64 x.s) (.int .i64 x.n) (.slice ga gn gc), ?_⟩
  · have h0 : World.ownsRow _ _ _ _ _ _ _ := SH7.out
    exact ownSh_lower (own6 h0 R (Nat.lt_succ_self R) (.int .i64 x.k) (.int .i64 x.e) (.int .i64 x.f) (.int .i64 x.s) (.int .i64 x.n) (.slice ga gn gc)) (by have := HRe.out; omega)
  · exact below6 (BL1.out.trans (HB7.out.mono (by have := BL1.out.size; omega))) R (by have := HRe.out; omega) (.int .i64 x.k) (.int .i64 x.e) (.int .i64 x.f) (.int .i64 x.s) (.int .i64 x.n) (.slice ga gn gc)

end Go.Proofs.Ytdfhebmecbcegaa
