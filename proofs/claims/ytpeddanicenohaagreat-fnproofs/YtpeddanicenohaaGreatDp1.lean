/-
  CONTRACT: spec.l2Policy: some rules, few of them.
  Conditions: each contract bears its own.
-/
import Derived.Test.YtpeddanicenohaaGreatDp0
import Derived.Test.YtpeddanicenohaaGreatDraw5
import Derived.Test.YtpeddanicenohaaGreatPol4
import Derived.Test.YtpeddanicenohaaGreatRol2
namespace Go.Proofs.YtpeddanicenohaaGreat
open Go.RowKit
set_option linter.unusedVariables false
set_option linter.unusedSimpArgs false

theorem new_kept {X X' : World} {x : RuleI} {b : Nat} (h : ∀ j u, (row8 x)[j]? = some u → X.cell? ((⟨b, 0, none⟩ : Addr).add j) = some u) (hb : Below X.heap.size X X') : ∀ j u, (row8 x)[j]? = some u → X'.cell? ((⟨b, 0, none⟩ : Addr).add j) = some u := fun j u hj =>
  (hb.cell (World.block_lt_of_cell? X _ (h j u hj))).trans (h j u hj)

theorem new_grown {X X' : World} {x : RuleI} {b : Nat} {row : Option Nat} (h : ∀ j u, (row8 x)[j]? = some u → X.cell? ((⟨b, 0, none⟩ : Addr).add j) = some u) (hg : X.grownBy X' row) (hne : some b ≠ row) : ∀ j u, (row8 x)[j]? = some u → X'.cell? ((⟨b, 0, none⟩ : Addr).add j) = some u := fun j u hj => by
  have h0 := h j u hj
  rw [Go.WideShapes.add_plain] at h0 ⊢
  exact hg.cell h0 hne

/-- What stands at a round of l2Policy. -/
structure LP (w wr : World) (B : Nat) (a : Option Addr) (len cap k0 kk : Nat) (ys : List Int) (g n c : Nat) (zs : List RuleI) : Prop where
  ow : Own8 wr w.heap.size (.slice (some ⟨g, 0, none⟩) n c) zs
  ln : zs.length = n
  ds : DS w wr B a len cap kk ys
  gw : w.heap.size ≤ g
  gl : g < wr.heap.size

theorem LP.below {w wr wr' : World} {B : Nat} {a : Option Addr} {len cap k0 kk : Nat} {ys : List Int} {g n c : Nat} {zs : List RuleI} (h : LP w wr B a len cap k0 kk ys g n c zs) (hb : Below wr.heap.size wr wr') : LP w wr' B a len cap k0 kk ys g n c zs :=
  ⟨h.ow.below hb, h.ln, ⟨h.ds.src.below hb, grown_trans h.ds.gr (grown_none ⟨hb.os, hb.tape, hb.output, hb.size, fun k hk _ => hb.block k hk⟩ _)⟩, h.gw, Nat.lt_of_lt_of_le h.gl hb.size⟩

/-- One more rule behind an append. -/
theorem LP.next {w wr w' : World} {B : Nat} {a : Option Addr} {len cap k0 kk : Nat} {ys : List Int} {g n c : Nat} {zs : List RuleI} {x : RuleI} {o : Obj} {v' : Value} (h : LP w wr B a len cap k0 kk ys g n c zs) (hcode : ∀ b off, a = some ⟨b, off, none⟩ → len = 0 ∨ b < w.heap.size) (hB : B < w.heap.size)
    (hown : w'.ownsRow w.heap.size 35 8 v' (n + 1) (flatR zs ++ row8 x)) (hg : (wr.alloc o).grownBy w' (Value.ownBlock (.slice (some ⟨g, 0, none⟩) n c))) (hn : v' ≠ .slice none 0 0) :
    ∃ g' c', v' = .slice (some ⟨g', 0, none⟩) (n + 1) c' ∧ LP w w' B a len cap k0 kk ys g' (n + 1) c' (zs ++ [x]) := by
  have hl : (zs ++ [x]).length = n + 1 := by rw [List.length_append, h.ln]; rfl
  have how : Own8 w' w.heap.size v' (zs ++ [x]) := by unfold Own8; rw [hl, flatR_append]; exact hown
  obtain ⟨g', c', e⟩ := how.shape hn
  rw [hl] at e
  subst e
  have hlt := hown.lt g' (by simp [Value.ownBlock])
  have hg' : (wr.alloc o).grownBy w' (some g) := hg
  have ds1 := h.ds.alloc o
  refine ⟨g', c', rfl, how, hl, ⟨ds1.src.kept hg' (by have := h.gw; simp; omega) (fun b off e => (hcode b off e).imp id (fun q => by have := h.gw; simp; omega)), ⟨hg'.os.trans ds1.gr.os, hg'.tape.trans ds1.gr.tape, hg'.output.trans ds1.gr.output, Nat.le_trans ds1.gr.size hg'.size, fun i hi hne => ?_⟩⟩, hlt.1, hlt.2⟩
  rw [hg'.block i (Nat.lt_of_lt_of_le hi ds1.gr.size) (by have := h.gw; simp; omega)]
  exact ds1.gr.block i hi hne

set_option maxRecDepth 100000 in
set_option maxHeartbeats 2000000 in
theorem policy_c (w : World) (B : Nat) (a : Option Addr) (len cap k0 : Nat) (ys : List Int) (h : SrcAt w B a len cap k0 ys) (hl : len ≤ 1048576) (hk0 : k0 ≤ 500) :
    Calls Tryz.prog 54 #[.pointer (some ⟨B, 0, none⟩)] w fun e w' => ∃ (g n c kk : Nat) (zs : List RuleI), e = .returned (.slice (some ⟨g, 0, none⟩) n c) ∧ n ≤ 11 ∧ kk ≤ k0 + 78 ∧ LP w w' B a len cap k0 kk ys g n c zs := by
  have hB := h.lt
  have HCode : Hid (∀ b off, a = some ⟨b, off, none⟩ → len = 0 ∨ b < w.heap.size) := h.code_lt
  have D0 : Hid (DS w (w.alloc (.cells #[] 35)) B a len cap k0 ys) := (DS.start h).alloc _
  have O0 : Hid (Own8 (w.alloc (.cells #[] 35)) w.heap.size (.slice (some ⟨w.heap.size, 0, none⟩) 0 0) []) := World.ownsRow_lit (base := w.heap.size) (e := 35) (size := 8) w #[] 0 (Nat.le_refl _) (Nat.zero_le _) rfl
  obtain ⟨i0, hi, hz0, hz1, hz2⟩ := info_parts Tryz.info35
  have hun : Tryz.prog.underlying 24 = some (.slice 35) := by kernel_rfl
  clear h
  go_enter Tryz.func54, Tryz.ntmps54
  go_wp2_with fail
  refine (next_c _ B a len cap k0 ys 12 D0.out.src hl (by omega) (by omega) (by omega)).mono ?_
  rintro e w1 ⟨v1, x0, x1, rfl, hS1, hG1⟩
  have D1 : Hid (DS w w1 B a len cap (k0 + 1) ys) := D0.out.draw hS1 hG1
  have hz1' : w.heap.size < w1.heap.size := by have := hG1.size; simp at this; omega
  have O1 : Hid (Own8 w1 w.heap.size (.slice (some ⟨w.heap.size, 0, none⟩) 0 0) []) := O0.out.grown hG1 (by omega)
  obtain ⟨r1, rfl⟩ := Int.eq_ofNat_of_zero_le x0
  clear hS1 hG1 D0 O0
  go_wp2_with fail
  go_loopw [3, 4] (fun v i wr => ∃ (g n c kk r : Nat) (zs : List RuleI), v = .slice (some ⟨g, 0, none⟩) n c ∧ i = .int .i64 (r : Int) ∧ n + r ≤ 11 ∧ kk + 7 * r ≤ k0 + 78 ∧ Hid (LP w wr B a len cap k0 kk ys g n c zs)) (fun _ i _ => (intOf i).toNat)
  case atStart => exact ⟨_, 0, 0, k0 + 1, r1, [], rfl, rfl, by omega, by omega, O1.out, rfl, D1.out, Nat.le_refl _, hz1'⟩
  case round =>
    obtain ⟨g, n, c, kk, r, zs, rfl, rfl, hnr, hkr, HL⟩ := hrel
    by_cases hr : 0 < r
    · have hr' : (0 : Int) < (r : Int) := by omega
      go_wp2_with fail
      refine (drawRule_c _ B a len cap kk ys HL.out.ds.src hl (by omega)).mono ?_
      rintro e w2 ⟨x, k2, _, hk2, rfl, hS2, hG2⟩
      have HL2 : Hid (LP w w2 B a len cap k0 k2 ys g n c zs) := ⟨HL.out.ow.grown hG2 (by have := HL.out.gw; omega), HL.out.ln, HL.out.ds.draw hS2 hG2, HL.out.gw, Nat.lt_of_lt_of_le HL.out.gl hG2.size⟩
      clear hS2 hG2 HL
      obtain ⟨V, hV⟩ : ∃ V, V = w2.alloc (.cells #[.int .i64 x.k, .int .i64 x.ho, .int .i64 x.hn, .int .i64 x.w, .int .i64 x.oo, .int .i64 x.on, .int .i64 x.to, .int .i64 x.tn] 35) := ⟨_, rfl⟩
      have hBV : Below w2.heap.size w2 V := by rw [hV]; exact (Below.refl _ _).alloc (Nat.le_refl _) _
      have HX : Hid (BlkAt V w2.heap.size x.k x.ho x.hn x.w x.oo x.on x.to x.tn) := by rw [hV]; exact BlkAt.new w2 _ _ _ _ _ _ _ _ _
      have HLV : Hid (LP w V B a len cap k0 k2 ys g n c zs) := ⟨HL2.out.ow.below hBV, HL2.out.ln, ⟨HL2.out.ds.src.below hBV, grown_trans HL2.out.ds.gr (grown_none ⟨hBV.os, hBV.tape, hBV.output, hBV.size, fun k hk _ => hBV.block k hk⟩ _)⟩, HL2.out.gw, Nat.lt_of_lt_of_le HL2.out.gl hBV.size⟩
      obtain ⟨q, hq⟩ : ∃ q, q = w2.heap.size := ⟨_, rfl⟩
      rw [← hq] at HX
      go_upto_region 6 with fail
      rw [← hV, ← hq]
      clear hV hq hBV HL2
      obtain ⟨Z, hZ⟩ : ∃ Z, V.heap.size = Z := ⟨_, rfl⟩
      have HZ : Hid (V.heap.size = Z) := hZ
      clear hZ
      go_cut [22] from 15 to 22 (fun s22 wx => ∃ t, s22 = .bool t ∧ Below Z V wx)
      case first =>
        obtain ⟨y0, y1, y2, y3, y4, y5, y6, y7, _⟩ := HX.out
        have hqV : q < Z := by rw [← HZ.out]; exact World.block_lt_of_cell? V ⟨q, 0, none⟩ y0
        refine wp_region_held_drew (S := (fun w' => (∀ b o, b < Z → w'.cell? ⟨b, o, none⟩ = V.cell? ⟨b, o, none⟩) ∧ Below Z V w')) (by kernel_rfl) (kpB ⟨rfl, rfl, rfl, Nat.le_refl _, fun _ _ => rfl⟩) (fun hHeld => ?_)
        (try dsimp only at hHeld)
        refine wpAnyH_take (i := 1) (v := ?_) rfl (by kernel_rfl) (by kernel_rfl) (by kernel_rfl) (fun _ _ _ h => h) (Or.inl ⟨by kernel_rfl, ?_⟩) (by assumption) ?_
        rotate_left 1
        · intro w hSw; (try dsimp only at hSw); go_simp; try (with_reducible rfl)
        try simp only [Act.put, List.getElem_toArray, List.getElem_cons_succ, List.getElem_cons_zero, List.setIfInBounds_toArray, List.set_cons_zero, List.set_cons_succ]
        refine wpAnyH_take (i := 3) (v := ?_) rfl (by kernel_rfl) (by kernel_rfl) (by kernel_rfl) (fun _ _ _ h => h) (Or.inl ⟨by kernel_rfl, ?_⟩) (by assumption) ?_
        rotate_left 1
        · intro w hSw; (try dsimp only at hSw); go_simp; try (with_reducible rfl)
        try simp only [Act.put, List.getElem_toArray, List.getElem_cons_succ, List.getElem_cons_zero, List.setIfInBounds_toArray, List.set_cons_zero, List.set_cons_succ]
        refine wpAnyH_ready (rs := [0, 4]) (by kernel_rfl) (by simp) ?_
        refine AllReadyH.cons rfl (fun K hK => ?_) (AllReadyH.cons rfl (fun K hK => ?_) AllReadyH.nil)
        · skip
          have hsz : Z ≤ V.heap.size := by have h1 : V.heap.size ≤ V.heap.size := hHeld.2.size; have := HZ.out; omega
          go_simp
          have hS := kpB (hHeld.2.alloc hsz (.cells #[] 35))
          have E0 : Hid ((V.alloc (.cells #[] 35)).ownsRow Z 35 8 (.slice (some ⟨V.heap.size, 0, none⟩) 0 0) 0 []) := World.ownsRow_lit (base := Z) (e := 35) (size := 8) V #[] 0 hsz (Nat.zero_le _) rfl
          refine hK.out _ _ hS (fun hHeld => ?_)
          clear hK K hS hsz
          try simp only [Act.put, List.getElem_toArray, List.getElem_cons_succ, List.getElem_cons_zero, List.setIfInBounds_toArray, List.set_cons_zero, List.set_cons_succ]
          obtain ⟨b0, hb0⟩ : ∃ b0, b0 = V.heap.size := ⟨_, rfl⟩
          rw [← hb0] at E0 ⊢
          have k0' : Z ≤ b0 := (E0.out.lt b0 (by simp [Value.ownBlock])).1
          generalize V.alloc (.cells #[] 35) = X1 at hHeld E0 ⊢
          clear hb0
          refine wpAnyH_ready (rs := [2, 4]) (by kernel_rfl) (by simp) ?_
          refine AllReadyH.cons rfl (fun K hK => ?_) (AllReadyH.cons rfl (fun K hK => ?_) AllReadyH.nil)
          · skip
            have hsz : Z ≤ X1.heap.size := by have h1 : V.heap.size ≤ X1.heap.size := hHeld.2.size; have := HZ.out; omega
            refine step_append_own2 rfl (.tmp 15) (.tmp 16) 24 rfl Z 35 i0 (.agg #[.int .i64 0, .int .i64 0, .int .i64 0, .int .i64 0, .int .i64 0, .int .i64 0, .int .i64 0, .int .i64 0]) 8 64 hun hi hz0 hz1 hz2 rfl (by decide) (.slice (some ⟨b0, 0, none⟩) 0 0) 0 [] (by rfl) E0.out ⟨g, 0, none⟩ n c (flatR zs) (by rfl) (by rw [flatR_len, HLV.out.ln]) (fun j u hj => ?nw) (flatR_cells _) (by unfold maxLen; omega) (by omega) hsz ?_
            case nw => rw [Go.WideShapes.add_plain, Nat.zero_add, hHeld.1 g j (by have := HLV.out.gl; have := HZ.out; omega)]; exact HLV.out.ow.cells HLV.out.ln j u hj
            intro v2 X2 hown hgrow hnil
            have hS := kpB (hHeld.2.grown hgrow hsz (fun q e => (E0.out.lt q e).1))
            have H2 : Hid (X2.ownsRow Z 35 8 v2 n (flatR zs)) := by have h0 := hown; simp only [Nat.zero_add, List.nil_append] at h0; exact h0
            have M2 : Hid (v2 ≠ .slice none 0 0) := fun e => by have := (hnil.1 e).1; simp at this
            refine hK.out _ _ hS (fun hHeld => ?_)
            clear hK K hS hsz hown hgrow hnil E0
            try simp only [Act.put, List.getElem_toArray, List.getElem_cons_succ, List.getElem_cons_zero, List.setIfInBounds_toArray, List.set_cons_zero, List.set_cons_succ]
            refine wpAnyH_ready (rs := [4]) (by kernel_rfl) (by simp) ?_
            refine AllReadyH.cons rfl (fun K hK => ?_) AllReadyH.nil
            have hsz : Z ≤ X2.heap.size := by have h1 : V.heap.size ≤ X2.heap.size := hHeld.2.size; have := HZ.out; omega
            go_simp
            have hS := kpB (hHeld.2.alloc hsz (.cells #[.int .i64 x.k, .int .i64 x.ho, .int .i64 x.hn, .int .i64 x.w, .int .i64 x.oo, .int .i64 x.on, .int .i64 x.to, .int .i64 x.tn] 35))
            have N4 : Hid (∀ j u, (row8 x)[j]? = some u → (X2.alloc (.cells #[.int .i64 x.k, .int .i64 x.ho, .int .i64 x.hn, .int .i64 x.w, .int .i64 x.oo, .int .i64 x.on, .int .i64 x.to, .int .i64 x.tn] 35)).cell? ((⟨X2.heap.size, 0, none⟩ : Addr).add j) = some u) := cell_new8 X2 x 35
            have l4 : X2.heap.size < (X2.alloc (.cells #[.int .i64 x.k, .int .i64 x.ho, .int .i64 x.hn, .int .i64 x.w, .int .i64 x.oo, .int .i64 x.on, .int .i64 x.to, .int .i64 x.tn] 35)).heap.size := by simp
            have H2' := H2.out.alloc (.cells #[.int .i64 x.k, .int .i64 x.ho, .int .i64 x.hn, .int .i64 x.w, .int .i64 x.oo, .int .i64 x.on, .int .i64 x.to, .int .i64 x.tn] 35)
            clear H2
            have H2 : Hid ((X2.alloc (.cells #[.int .i64 x.k, .int .i64 x.ho, .int .i64 x.hn, .int .i64 x.w, .int .i64 x.oo, .int .i64 x.on, .int .i64 x.to, .int .i64 x.tn] 35)).ownsRow Z 35 8 v2 n (flatR zs)) := H2'
            clear H2'
            refine hK.out _ _ hS (fun hHeld => ?_)
            clear hK K hS hsz
            try simp only [Act.put, List.getElem_toArray, List.getElem_cons_succ, List.getElem_cons_zero, List.setIfInBounds_toArray, List.set_cons_zero, List.set_cons_succ]
            obtain ⟨b4, hb4⟩ : ∃ b4, b4 = X2.heap.size := ⟨_, rfl⟩
            rw [← hb4] at N4 l4  ⊢
            generalize X2.alloc (.cells #[.int .i64 x.k, .int .i64 x.ho, .int .i64 x.hn, .int .i64 x.w, .int .i64 x.oo, .int .i64 x.on, .int .i64 x.to, .int .i64 x.tn] 35) = X3 at hHeld N4 l4 H2 ⊢
            clear hb4
            refine wpAnyH_ready (rs := [5]) (by kernel_rfl) (by simp) ?_
            refine AllReadyH.cons rfl (fun K hK => ?_) AllReadyH.nil
            have hsz : Z ≤ X3.heap.size := by have h1 : V.heap.size ≤ X3.heap.size := hHeld.2.size; have := HZ.out; omega
            refine step_append_own2 rfl (.tmp 17) (.tmp 19) 24 rfl Z 35 i0 (.agg #[.int .i64 0, .int .i64 0, .int .i64 0, .int .i64 0, .int .i64 0, .int .i64 0, .int .i64 0, .int .i64 0]) 8 64 hun hi hz0 hz1 hz2 rfl (by decide) v2 n (flatR zs) (by rfl) H2.out ⟨b4, 0, none⟩ 1 1 (row8 x) (by rfl) (by rfl) N4.out (flatR_cells [x]) (by unfold maxLen; omega) (by omega) hsz ?_
            intro v5 X4 hown hgrow hnil
            have hS := kpB (hHeld.2.grown hgrow hsz (fun q e => (H2.out.lt q e).1))
            have H5 : Hid (Own8 X4 Z v5 (zs ++ [x])) := by have h0 := hown; show World.ownsRow _ _ _ _ _ _ _; rw [List.length_append, HLV.out.ln, flatR_append]; exact h0
            have M5 : v5 ≠ .slice none 0 0 := fun e => M2.out (hnil.1 e).1
            obtain ⟨g5, c5, hv5⟩ := H5.out.shape M5
            obtain ⟨m5, hm5⟩ : ∃ m, (zs ++ [x]).length = m := ⟨_, rfl⟩
            rw [hm5] at hv5
            subst hv5
            have R5 : Hid (RulesIn X4 (some ⟨g5, 0, none⟩) m5 (zs ++ [x])) := H5.out.read hm5
            have HF : Hid (∀ w2 : World, RulesIn w2 (some ⟨g5, 0, none⟩) m5 (zs ++ [x]) → Calls Tryz.prog 40 #[.slice (some ⟨g5, 0, none⟩) m5 c5] w2 fun e w' => e = .returned (.int .i64 (polCode (zs ++ [x]))) ∧ Below w2.heap.size w2 w') := fun w2 q => l2Fault_c _ m5 c5 (zs ++ [x]) w2 (by have := HLV.out.ln; simp at hm5; omega) q
            clear hm5
            refine hK.out _ _ hS (fun hHeld => ?_)
            clear hK K hS hsz hown hgrow hnil H2 M2 M5 H5
            try simp only [Act.put, List.getElem_toArray, List.getElem_cons_succ, List.getElem_cons_zero, List.setIfInBounds_toArray, List.set_cons_zero, List.set_cons_succ]
            refine wpAnyH_ready (rs := [6]) (by kernel_rfl) (by simp) ?_
            refine AllReadyH.cons rfl (fun K hK => ?_) AllReadyH.nil
            have hsz : Z ≤ X4.heap.size := by have h1 : V.heap.size ≤ X4.heap.size := hHeld.2.size; have := HZ.out; omega
            go_simp
            refine (HF.out _ ?rd).mono ?_
            case rd => exact R5.out
            rintro e X5 ⟨rfl, hb6⟩
            have hS := kpB (hHeld.2.trans (hb6.mono hsz))
            refine hK.out _ _ hS (fun hHeld => ?_)
            clear hK K hS hsz hb6
            try simp only [Act.put, List.getElem_toArray, List.getElem_cons_succ, List.getElem_cons_zero, List.setIfInBounds_toArray, List.set_cons_zero, List.set_cons_succ]
            refine wpAnyH_take (i := 7) (v := ?_) rfl (by kernel_rfl) (by kernel_rfl) (by kernel_rfl) (fun _ _ _ h => h) (Or.inl ⟨by kernel_rfl, ?_⟩) (by assumption) ?_
            rotate_left 1
            · intro w hSw; (try dsimp only at hSw); go_simp; try (with_reducible rfl)
            try simp only [Act.put, List.getElem_toArray, List.getElem_cons_succ, List.getElem_cons_zero, List.setIfInBounds_toArray, List.set_cons_zero, List.set_cons_succ]
            refine wpAnyH_done (by kernel_rfl) ?_ _
            go_wp2_with fail
            go_meet
            case rel => exact ⟨_, rfl, hHeld.2⟩
          · skip
            have hsz : Z ≤ X1.heap.size := by have h1 : V.heap.size ≤ X1.heap.size := hHeld.2.size; have := HZ.out; omega
            go_simp
            have hS := kpB (hHeld.2.alloc hsz (.cells #[.int .i64 x.k, .int .i64 x.ho, .int .i64 x.hn, .int .i64 x.w, .int .i64 x.oo, .int .i64 x.on, .int .i64 x.to, .int .i64 x.tn] 35))
            have N4 : Hid (∀ j u, (row8 x)[j]? = some u → (X1.alloc (.cells #[.int .i64 x.k, .int .i64 x.ho, .int .i64 x.hn, .int .i64 x.w, .int .i64 x.oo, .int .i64 x.on, .int .i64 x.to, .int .i64 x.tn] 35)).cell? ((⟨X1.heap.size, 0, none⟩ : Addr).add j) = some u) := cell_new8 X1 x 35
            have l4 : X1.heap.size < (X1.alloc (.cells #[.int .i64 x.k, .int .i64 x.ho, .int .i64 x.hn, .int .i64 x.w, .int .i64 x.oo, .int .i64 x.on, .int .i64 x.to, .int .i64 x.tn] 35)).heap.size := by simp
            have n4 : X1.heap.size ≠ b0 := by have := (E0.out.lt b0 (by simp [Value.ownBlock])).2; omega
            have E0' := E0.out.alloc (.cells #[.int .i64 x.k, .int .i64 x.ho, .int .i64 x.hn, .int .i64 x.w, .int .i64 x.oo, .int .i64 x.on, .int .i64 x.to, .int .i64 x.tn] 35)
            clear E0
            have E0 : Hid ((X1.alloc (.cells #[.int .i64 x.k, .int .i64 x.ho, .int .i64 x.hn, .int .i64 x.w, .int .i64 x.oo, .int .i64 x.on, .int .i64 x.to, .int .i64 x.tn] 35)).ownsRow Z 35 8 (.slice (some ⟨b0, 0, none⟩) 0 0) 0 []) := E0'
            clear E0'
            refine hK.out _ _ hS (fun hHeld => ?_)
            clear hK K hS hsz
            try simp only [Act.put, List.getElem_toArray, List.getElem_cons_succ, List.getElem_cons_zero, List.setIfInBounds_toArray, List.set_cons_zero, List.set_cons_succ]
            obtain ⟨b4, hb4⟩ : ∃ b4, b4 = X1.heap.size := ⟨_, rfl⟩
            rw [← hb4] at N4 l4 n4 ⊢
            generalize X1.alloc (.cells #[.int .i64 x.k, .int .i64 x.ho, .int .i64 x.hn, .int .i64 x.w, .int .i64 x.oo, .int .i64 x.on, .int .i64 x.to, .int .i64 x.tn] 35) = X6 at hHeld N4 l4 E0 ⊢
            clear hb4
            refine wpAnyH_ready (rs := [2]) (by kernel_rfl) (by simp) ?_
            refine AllReadyH.cons rfl (fun K hK => ?_) AllReadyH.nil
            have hsz : Z ≤ X6.heap.size := by have h1 : V.heap.size ≤ X6.heap.size := hHeld.2.size; have := HZ.out; omega
            refine step_append_own2 rfl (.tmp 15) (.tmp 16) 24 rfl Z 35 i0 (.agg #[.int .i64 0, .int .i64 0, .int .i64 0, .int .i64 0, .int .i64 0, .int .i64 0, .int .i64 0, .int .i64 0]) 8 64 hun hi hz0 hz1 hz2 rfl (by decide) (.slice (some ⟨b0, 0, none⟩) 0 0) 0 [] (by rfl) E0.out ⟨g, 0, none⟩ n c (flatR zs) (by rfl) (by rw [flatR_len, HLV.out.ln]) (fun j u hj => ?nw) (flatR_cells _) (by unfold maxLen; omega) (by omega) hsz ?_
            case nw => rw [Go.WideShapes.add_plain, Nat.zero_add, hHeld.1 g j (by have := HLV.out.gl; have := HZ.out; omega)]; exact HLV.out.ow.cells HLV.out.ln j u hj
            intro v2 X7 hown hgrow hnil
            have hS := kpB (hHeld.2.grown hgrow hsz (fun q e => (E0.out.lt q e).1))
            have H2 : Hid (X7.ownsRow Z 35 8 v2 n (flatR zs)) := by have h0 := hown; simp only [Nat.zero_add, List.nil_append] at h0; exact h0
            have M2 : Hid (v2 ≠ .slice none 0 0) := fun e => by have := (hnil.1 e).1; simp at this
            have hg0 : X6.grownBy X7 (some b0) := ⟨hgrow.os, hgrow.tape, hgrow.output, hgrow.size, hgrow.block⟩
            have N4' := new_grown N4.out hg0 (by simp; exact n4)
            have l4' := Nat.lt_of_lt_of_le l4 hgrow.size
            clear N4 l4
            have N4 : Hid (∀ j u, (row8 x)[j]? = some u → X7.cell? ((⟨b4, 0, none⟩ : Addr).add j) = some u) := N4'
            have l4 := l4'
            clear N4' l4' hg0
            refine hK.out _ _ hS (fun hHeld => ?_)
            clear hK K hS hsz hown hgrow hnil E0
            try simp only [Act.put, List.getElem_toArray, List.getElem_cons_succ, List.getElem_cons_zero, List.setIfInBounds_toArray, List.set_cons_zero, List.set_cons_succ]
            refine wpAnyH_ready (rs := [5]) (by kernel_rfl) (by simp) ?_
            refine AllReadyH.cons rfl (fun K hK => ?_) AllReadyH.nil
            have hsz : Z ≤ X7.heap.size := by have h1 : V.heap.size ≤ X7.heap.size := hHeld.2.size; have := HZ.out; omega
            refine step_append_own2 rfl (.tmp 17) (.tmp 19) 24 rfl Z 35 i0 (.agg #[.int .i64 0, .int .i64 0, .int .i64 0, .int .i64 0, .int .i64 0, .int .i64 0, .int .i64 0, .int .i64 0]) 8 64 hun hi hz0 hz1 hz2 rfl (by decide) v2 n (flatR zs) (by rfl) H2.out ⟨b4, 0, none⟩ 1 1 (row8 x) (by rfl) (by rfl) N4.out (flatR_cells [x]) (by unfold maxLen; omega) (by omega) hsz ?_
            intro v5 X8 hown hgrow hnil
            have hS := kpB (hHeld.2.grown hgrow hsz (fun q e => (H2.out.lt q e).1))
            have H5 : Hid (Own8 X8 Z v5 (zs ++ [x])) := by have h0 := hown; show World.ownsRow _ _ _ _ _ _ _; rw [List.length_append, HLV.out.ln, flatR_append]; exact h0
            have M5 : v5 ≠ .slice none 0 0 := fun e => M2.out (hnil.1 e).1
            obtain ⟨g5, c5, hv5⟩ := H5.out.shape M5
            obtain ⟨m5, hm5⟩ : ∃ m, (zs ++ [x]).length = m := ⟨_, rfl⟩
            rw [hm5] at hv5
            subst hv5
            have R5 : Hid (RulesIn X8 (some ⟨g5, 0, none⟩) m5 (zs ++ [x])) := H5.out.read hm5
            have HF : Hid (∀ w2 : World, RulesIn w2 (some ⟨g5, 0, none⟩) m5 (zs ++ [x]) → Calls Tryz.prog 40 #[.slice (some ⟨g5, 0, none⟩) m5 c5] w2 fun e w' => e = .returned (.int .i64 (polCode (zs ++ [x]))) ∧ Below w2.heap.size w2 w') := fun w2 q => l2Fault_c _ m5 c5 (zs ++ [x]) w2 (by have := HLV.out.ln; simp at hm5; omega) q
            clear hm5
            refine hK.out _ _ hS (fun hHeld => ?_)
            clear hK K hS hsz hown hgrow hnil H2 M2 M5 H5
            try simp only [Act.put, List.getElem_toArray, List.getElem_cons_succ, List.getElem_cons_zero, List.setIfInBounds_toArray, List.set_cons_zero, List.set_cons_succ]
            refine wpAnyH_ready (rs := [6]) (by kernel_rfl) (by simp) ?_
            refine AllReadyH.cons rfl (fun K hK => ?_) AllReadyH.nil
            have hsz : Z ≤ X8.heap.size := by have h1 : V.heap.size ≤ X8.heap.size := hHeld.2.size; have := HZ.out; omega
            go_simp
            refine (HF.out _ ?rd).mono ?_
            case rd => exact R5.out
            rintro e X9 ⟨rfl, hb6⟩
            have hS := kpB (hHeld.2.trans (hb6.mono hsz))
            refine hK.out _ _ hS (fun hHeld => ?_)
            clear hK K hS hsz hb6
            try simp only [Act.put, List.getElem_toArray, List.getElem_cons_succ, List.getElem_cons_zero, List.setIfInBounds_toArray, List.set_cons_zero, List.set_cons_succ]
            refine wpAnyH_take (i := 7) (v := ?_) rfl (by kernel_rfl) (by kernel_rfl) (by kernel_rfl) (fun _ _ _ h => h) (Or.inl ⟨by kernel_rfl, ?_⟩) (by assumption) ?_
            rotate_left 1
            · intro w hSw; (try dsimp only at hSw); go_simp; try (with_reducible rfl)
            try simp only [Act.put, List.getElem_toArray, List.getElem_cons_succ, List.getElem_cons_zero, List.setIfInBounds_toArray, List.set_cons_zero, List.set_cons_succ]
            refine wpAnyH_done (by kernel_rfl) ?_ _
            go_wp2_with fail
            go_meet
            case rel => exact ⟨_, rfl, hHeld.2⟩
        · skip
          have hsz : Z ≤ V.heap.size := by have h1 : V.heap.size ≤ V.heap.size := hHeld.2.size; have := HZ.out; omega
          go_simp
          have hS := kpB (hHeld.2.alloc hsz (.cells #[.int .i64 x.k, .int .i64 x.ho, .int .i64 x.hn, .int .i64 x.w, .int .i64 x.oo, .int .i64 x.on, .int .i64 x.to, .int .i64 x.tn] 35))
          have N4 : Hid (∀ j u, (row8 x)[j]? = some u → (V.alloc (.cells #[.int .i64 x.k, .int .i64 x.ho, .int .i64 x.hn, .int .i64 x.w, .int .i64 x.oo, .int .i64 x.on, .int .i64 x.to, .int .i64 x.tn] 35)).cell? ((⟨V.heap.size, 0, none⟩ : Addr).add j) = some u) := cell_new8 V x 35
          have l4 : V.heap.size < (V.alloc (.cells #[.int .i64 x.k, .int .i64 x.ho, .int .i64 x.hn, .int .i64 x.w, .int .i64 x.oo, .int .i64 x.on, .int .i64 x.to, .int .i64 x.tn] 35)).heap.size := by simp
          refine hK.out _ _ hS (fun hHeld => ?_)
          clear hK K hS hsz
          try simp only [Act.put, List.getElem_toArray, List.getElem_cons_succ, List.getElem_cons_zero, List.setIfInBounds_toArray, List.set_cons_zero, List.set_cons_succ]
          obtain ⟨b4, hb4⟩ : ∃ b4, b4 = V.heap.size := ⟨_, rfl⟩
          rw [← hb4] at N4 l4  ⊢
          generalize V.alloc (.cells #[.int .i64 x.k, .int .i64 x.ho, .int .i64 x.hn, .int .i64 x.w, .int .i64 x.oo, .int .i64 x.on, .int .i64 x.to, .int .i64 x.tn] 35) = X10 at hHeld N4 l4  ⊢
          clear hb4
          refine wpAnyH_ready (rs := [0]) (by kernel_rfl) (by simp) ?_
          refine AllReadyH.cons rfl (fun K hK => ?_) AllReadyH.nil
          have hsz : Z ≤ X10.heap.size := by have h1 : V.heap.size ≤ X10.heap.size := hHeld.2.size; have := HZ.out; omega
          go_simp
          have hS := kpB (hHeld.2.alloc hsz (.cells #[] 35))
          have E0 : Hid ((X10.alloc (.cells #[] 35)).ownsRow Z 35 8 (.slice (some ⟨X10.heap.size, 0, none⟩) 0 0) 0 []) := World.ownsRow_lit (base := Z) (e := 35) (size := 8) X10 #[] 0 hsz (Nat.zero_le _) rfl
          have N4' : Hid (∀ j u, (row8 x)[j]? = some u → (X10.alloc (.cells #[] 35)).cell? ((⟨b4, 0, none⟩ : Addr).add j) = some u) := fun j u hj => new_kept N4.out (Below.alloc (Below.refl _ _) (Nat.le_refl _) _) j u hj
          clear N4
          have N4 : Hid (∀ j u, (row8 x)[j]? = some u → (X10.alloc (.cells #[] 35)).cell? ((⟨b4, 0, none⟩ : Addr).add j) = some u) := N4'.out
          clear N4'
          have g4 : b4 < (X10.alloc (.cells #[] 35)).heap.size ∧ b4 ≠ X10.heap.size := ⟨by simp; omega, by omega⟩
          clear l4
          have l4 := g4.1
          have n4 := g4.2
          clear g4
          refine hK.out _ _ hS (fun hHeld => ?_)
          clear hK K hS hsz
          try simp only [Act.put, List.getElem_toArray, List.getElem_cons_succ, List.getElem_cons_zero, List.setIfInBounds_toArray, List.set_cons_zero, List.set_cons_succ]
          obtain ⟨b0, hb0⟩ : ∃ b0, b0 = X10.heap.size := ⟨_, rfl⟩
          rw [← hb0] at E0 ⊢
          rw [← hb0] at n4
          have k0' : Z ≤ b0 := (E0.out.lt b0 (by simp [Value.ownBlock])).1
          generalize X10.alloc (.cells #[] 35) = X11 at hHeld E0 N4 l4 ⊢
          clear hb0
          refine wpAnyH_ready (rs := [2]) (by kernel_rfl) (by simp) ?_
          refine AllReadyH.cons rfl (fun K hK => ?_) AllReadyH.nil
          have hsz : Z ≤ X11.heap.size := by have h1 : V.heap.size ≤ X11.heap.size := hHeld.2.size; have := HZ.out; omega
          refine step_append_own2 rfl (.tmp 15) (.tmp 16) 24 rfl Z 35 i0 (.agg #[.int .i64 0, .int .i64 0, .int .i64 0, .int .i64 0, .int .i64 0, .int .i64 0, .int .i64 0, .int .i64 0]) 8 64 hun hi hz0 hz1 hz2 rfl (by decide) (.slice (some ⟨b0, 0, none⟩) 0 0) 0 [] (by rfl) E0.out ⟨g, 0, none⟩ n c (flatR zs) (by rfl) (by rw [flatR_len, HLV.out.ln]) (fun j u hj => ?nw) (flatR_cells _) (by unfold maxLen; omega) (by omega) hsz ?_
          case nw => rw [Go.WideShapes.add_plain, Nat.zero_add, hHeld.1 g j (by have := HLV.out.gl; have := HZ.out; omega)]; exact HLV.out.ow.cells HLV.out.ln j u hj
          intro v2 X12 hown hgrow hnil
          have hS := kpB (hHeld.2.grown hgrow hsz (fun q e => (E0.out.lt q e).1))
          have H2 : Hid (X12.ownsRow Z 35 8 v2 n (flatR zs)) := by have h0 := hown; simp only [Nat.zero_add, List.nil_append] at h0; exact h0
          have M2 : Hid (v2 ≠ .slice none 0 0) := fun e => by have := (hnil.1 e).1; simp at this
          have hg0 : X11.grownBy X12 (some b0) := ⟨hgrow.os, hgrow.tape, hgrow.output, hgrow.size, hgrow.block⟩
          have N4' := new_grown N4.out hg0 (by simp; exact n4)
          have l4' := Nat.lt_of_lt_of_le l4 hgrow.size
          clear N4 l4
          have N4 : Hid (∀ j u, (row8 x)[j]? = some u → X12.cell? ((⟨b4, 0, none⟩ : Addr).add j) = some u) := N4'
          have l4 := l4'
          clear N4' l4' hg0
          refine hK.out _ _ hS (fun hHeld => ?_)
          clear hK K hS hsz hown hgrow hnil E0
          try simp only [Act.put, List.getElem_toArray, List.getElem_cons_succ, List.getElem_cons_zero, List.setIfInBounds_toArray, List.set_cons_zero, List.set_cons_succ]
          refine wpAnyH_ready (rs := [5]) (by kernel_rfl) (by simp) ?_
          refine AllReadyH.cons rfl (fun K hK => ?_) AllReadyH.nil
          have hsz : Z ≤ X12.heap.size := by have h1 : V.heap.size ≤ X12.heap.size := hHeld.2.size; have := HZ.out; omega
          refine step_append_own2 rfl (.tmp 17) (.tmp 19) 24 rfl Z 35 i0 (.agg #[.int .i64 0, .int .i64 0, .int .i64 0, .int .i64 0, .int .i64 0, .int .i64 0, .int .i64 0, .int .i64 0]) 8 64 hun hi hz0 hz1 hz2 rfl (by decide) v2 n (flatR zs) (by rfl) H2.out ⟨b4, 0, none⟩ 1 1 (row8 x) (by rfl) (by rfl) N4.out (flatR_cells [x]) (by unfold maxLen; omega) (by omega) hsz ?_
          intro v5 X13 hown hgrow hnil
          have hS := kpB (hHeld.2.grown hgrow hsz (fun q e => (H2.out.lt q e).1))
          have H5 : Hid (Own8 X13 Z v5 (zs ++ [x])) := by have h0 := hown; show World.ownsRow _ _ _ _ _ _ _; rw [List.length_append, HLV.out.ln, flatR_append]; exact h0
          have M5 : v5 ≠ .slice none 0 0 := fun e => M2.out (hnil.1 e).1
          obtain ⟨g5, c5, hv5⟩ := H5.out.shape M5
          obtain ⟨m5, hm5⟩ : ∃ m, (zs ++ [x]).length = m := ⟨_, rfl⟩
          rw [hm5] at hv5
          subst hv5
          have R5 : Hid (RulesIn X13 (some ⟨g5, 0, none⟩) m5 (zs ++ [x])) := H5.out.read hm5
          have HF : Hid (∀ w2 : World, RulesIn w2 (some ⟨g5, 0, none⟩) m5 (zs ++ [x]) → Calls Tryz.prog 40 #[.slice (some ⟨g5, 0, none⟩) m5 c5] w2 fun e w' => e = .returned (.int .i64 (polCode (zs ++ [x]))) ∧ Below w2.heap.size w2 w') := fun w2 q => l2Fault_c _ m5 c5 (zs ++ [x]) w2 (by have := HLV.out.ln; simp at hm5; omega) q
          clear hm5
          refine hK.out _ _ hS (fun hHeld => ?_)
          clear hK K hS hsz hown hgrow hnil H2 M2 M5 H5
          try simp only [Act.put, List.getElem_toArray, List.getElem_cons_succ, List.getElem_cons_zero, List.setIfInBounds_toArray, List.set_cons_zero, List.set_cons_succ]
          refine wpAnyH_ready (rs := [6]) (by kernel_rfl) (by simp) ?_
          refine AllReadyH.cons rfl (fun K hK => ?_) AllReadyH.nil
          have hsz : Z ≤ X13.heap.size := by have h1 : V.heap.size ≤ X13.heap.size := hHeld.2.size; have := HZ.out; omega
          go_simp
          refine (HF.out _ ?rd).mono ?_
          case rd => exact R5.out
          rintro e X14 ⟨rfl, hb6⟩
          have hS := kpB (hHeld.2.trans (hb6.mono hsz))
          refine hK.out _ _ hS (fun hHeld => ?_)
          clear hK K hS hsz hb6
          try simp only [Act.put, List.getElem_toArray, List.getElem_cons_succ, List.getElem_cons_zero, List.setIfInBounds_toArray, List.set_cons_zero, List.set_cons_succ]
          refine wpAnyH_take (i := 7) (v := ?_) rfl (by kernel_rfl) (by kernel_rfl) (by kernel_rfl) (fun _ _ _ h => h) (Or.inl ⟨by kernel_rfl, ?_⟩) (by assumption) ?_
          rotate_left 1
          · intro w hSw; (try dsimp only at hSw); go_simp; try (with_reducible rfl)
          try simp only [Act.put, List.getElem_toArray, List.getElem_cons_succ, List.getElem_cons_zero, List.setIfInBounds_toArray, List.set_cons_zero, List.set_cons_succ]
          refine wpAnyH_done (by kernel_rfl) ?_ _
          go_wp2_with fail
          go_meet
          case rel => exact ⟨_, rfl, hHeld.2⟩
      case rest =>
        obtain ⟨t, rfl, hbc⟩ := hcut
        rw [← HZ.out] at hbc
        have HLC : Hid (LP w wc B a len cap k0 k2 ys g n c zs) := HLV.out.below hbc
        have HXC : Hid (BlkAt wc q x.k x.ho x.hn x.w x.oo x.on x.to x.tn) := HX.out.below hbc
        clear HX HLV HZ hbc
        cases t
        · go_wp2_with fail
          exact ⟨⟨g, n, c, k2, r - 1, zs, rfl, by go_num, by omega, by omega, HLC⟩, by simp [intOf]; omega⟩
        · obtain ⟨y0, y1, y2, y3, y4, y5, y6, y7, _⟩ := HXC.out
          have hzc : w.heap.size ≤ wc.heap.size := Nat.le_of_lt (Nat.lt_of_le_of_lt HLC.out.gw HLC.out.gl)
          go_wp2_with (first
            | (at_builtin; refine wpList_append_own _ rfl _ _ 24 rfl w.heap.size 35 i0 (.agg #[.int .i64 0, .int .i64 0, .int .i64 0, .int .i64 0, .int .i64 0, .int .i64 0, .int .i64 0, .int .i64 0]) 8 64 hun hi hz0 hz1 hz2 rfl (by decide) _ n (flatR zs) rfl (?c0) ⟨wc.heap.size, 0, none⟩ 1 1 (row8 x) rfl rfl (cell_new8 wc x _) (flatR_cells [x]) ?c3 ?c4 ?c5 ?_)
            | fail)
          case c0 => have h0 : wc.ownsRow w.heap.size 35 8 (.slice (some ⟨g, 0, none⟩) n c) n (flatR zs) := by have := HLC.out.ow; unfold Own8 at this; rw [HLC.out.ln] at this; exact this
                     exact h0.alloc _
          case c3 => unfold maxLen; omega
          case c4 => omega
          case c5 => simp; omega
          intro v' w9 hown' hgrow hnil
          have hnn : v' ≠ .slice none 0 0 := hnil
          have HN : Hid (∃ g' c', v' = .slice (some ⟨g', 0, none⟩) (n + 1) c' ∧ LP w w9 B a len cap k0 k2 ys g' (n + 1) c' (zs ++ [x])) := LP.next HLC.out HCode.out hB hown' hgrow hnn
          clear hown' hgrow hnil hnn y0 y1 y2 y3 y4 y5 y6 y7 HLC HXC
          obtain ⟨g', c', rfl, hl9⟩ := HN.out
          have HL9 : Hid (LP w w9 B a len cap k0 k2 ys g' (n + 1) c' (zs ++ [x])) := hl9
          clear hl9 HN
          go_wp2_with fail
          exact ⟨⟨g', n + 1, c', k2, r - 1, zs ++ [x], rfl, by go_num, by omega, by omega, HL9⟩, by simp [intOf]; omega⟩
    · have hr0 : r = 0 := by omega
      subst hr0
      go_wp2_with fail
      go_ret
      exact ⟨g, n, c, kk, zs, rfl, by omega, by omega, HL.out⟩

end Go.Proofs.YtpeddanicenohaaGreat
