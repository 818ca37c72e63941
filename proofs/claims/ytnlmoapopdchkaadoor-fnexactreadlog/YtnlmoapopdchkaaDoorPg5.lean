/-
  CONTRACTS: chapter 11, the program: piece, pageOf.
  Conditions: each contract bears its own (the variable errUnreadable holds an error).
-/
import Derived.Test.YtnlmoapopdchkaaDoorPg4
import Derived.Deep.CutBlock
namespace Go.Proofs.YtnlmoapopdchkaaDoor
open Go.RowKit
set_option linter.unusedVariables false
set_option linter.unusedSimpArgs false

theorem pgSlice_mid (g k : Nat) (hk : k < 40) (W : World) : (Instr.sliceAt 39 (.pointer (some ⟨g, 0, none⟩)) (some (.int .i64 ((k : Int) * 6))) (some (.int .i64 ((k : Int) * 6 + 6))) none).run Tryd.prog W = .ok (.slice (some ⟨g, k * 6, none⟩) 6 (240 - k * 6)) W := by
  have h1 : ((k : Int) * 6).toNat = k * 6 := by omega
  have h2 : ((k : Int) * 6 + 6).toNat = k * 6 + 6 := by omega
  rw [run_sliceAt_array_lh W _ _ Tryd.arr39 .i64 .i64 _ _ (by omega) (by omega) (by rw [Tryd.arrl39]; omega), Tryd.arrs39]
  simp only [Result.andThen_ok, slicedAt, Tryd.arrl39, h1, h2]
  rw [if_neg (by omega), Go.WideShapes.add_plain]
  simp

theorem pgSlice_all (g : Nat) (W : World) : (Instr.sliceAt 39 (.pointer (some ⟨g, 0, none⟩)) none none none).run Tryd.prog W = .ok (.slice (some ⟨g, 0, none⟩) 240 240) W := by
  rw [run_sliceAt_array_all W _ _ Tryd.arr39, Tryd.arrs39]
  simp only [Result.andThen_ok, slicedAt, Tryd.arrl39]
  rw [if_neg (by omega), Go.WideShapes.add_plain]

theorem pgSlice_end (g : Nat) (W : World) : (Instr.sliceAt 39 (.pointer (some ⟨g, 0, none⟩)) (some (.int .i64 240)) none none).run Tryd.prog W = .ok (.slice (some ⟨g, 0, none⟩) 0 0) W := by
  rw [run_sliceAt_array_l W _ _ Tryd.arr39 .i64 _ (by omega) (by rw [Tryd.arrl39]; omega), Tryd.arrs39]
  simp only [Result.andThen_ok, slicedAt, Tryd.arrl39]
  simp

set_option maxHeartbeats 400000 in
theorem piece_c (g k : Nat) (hk : k < 40) (w : World) : Calls Tryd.prog 26 #[.pointer (some ⟨g, 0, none⟩), .int .i64 ((k : Int) * 6)] w fun e w' => e = .returned (.slice (some ⟨g, k * 6, none⟩) 6 (240 - k * 6)) ∧ w = w' := by
  have hsl := pgSlice_mid g k hk
  have hwr : IntKind.i64.wrap ((k : Int) * 6 + 6) = (k : Int) * 6 + 6 := by rw [IntKind.wrap_i64]; omega
  go_enter Tryd.func26, Tryd.ntmps26
  go_wp2
  go_ret
  exact ⟨rfl, rfl⟩

theorem PgAt.piece {w : World} {g : Nat} {zs : List Int} (h : PgAt w g zs) {k : Nat} (hk : k < 40) : IntIn w (some ⟨g, k * 6, none⟩) 6 (pieceZ zs k) := by
  refine ⟨piece_len (by have := h.ln; omega), fun _ => ⟨g, k * 6, rfl, fun j x e => ?_⟩⟩
  have hj : j < 6 := by
    by_cases q : j < 6
    · exact q
    · rw [List.getElem?_eq_none (by rw [piece_len (by have := h.ln; omega)]; omega)] at e; cases e
  rw [piece_at hj] at e
  exact h.cell e

/-- What stands in pageOf: its result's page, the page that it works on. -/
structure PO4 (w : World) (P : List Int) (wr : World) : Prop where
  rs : PgAt wr w.heap.size zeroPg
  pg : PgAt wr (w.heap.size + 1) P
  bl : Below w.heap.size w wr

theorem PO4.below {w : World} {P : List Int} {wr W : World} (h : PO4 w P wr) (hb : Below wr.heap.size wr W) : PO4 w P W := ⟨h.rs.below hb, h.pg.below hb, h.bl.trans (hb.mono h.bl.size)⟩

theorem PO4.new (w : World) : PO4 w zeroPg ((w.alloc (.cells (vI zeroPg).toArray 39)).alloc (.cells (vI zeroPg).toArray 39)) := by
  refine ⟨(pg_new w zeroPg rfl).below ((Below.refl _ _).alloc (Nat.le_refl _) _), ?_, ((Below.refl _ _).alloc (Nat.le_refl _) _).alloc (by simp) _⟩
  have q := pg_new (w.alloc (.cells (vI zeroPg).toArray 39)) zeroPg rfl
  rw [World.size_alloc] at q
  exact q

set_option maxRecDepth 20000 in
set_option maxHeartbeats 2000000 in
theorem pageOf_many (a : Option Addr) (n cap : Nat) (w : World) (hn : n ≤ 1048576) (h240 : 240 < n) :
    Calls Tryd.prog 18 #[.slice a n cap] w fun e w' => e = .returned (.tuple #[.agg (vI zeroPg).toArray, .int .i64 2]) ∧ Below w.heap.size w w' := by
  have h240' : (240 : Int) < (n : Int) := by omega
  have hni : (n : Int) ≤ 1048576 := by omega
  obtain ⟨V, hV⟩ : ∃ V, V = (w.alloc (.cells (vI zeroPg).toArray 39)).alloc (.cells (vI zeroPg).toArray 39) := ⟨_, rfl⟩
  have P0 : Hid (PO4 w zeroPg V) := by rw [hV]; exact PO4.new w
  have hz := pg_zero
  have hst := pgStoreCells P0.out.rs (ys := zeroPg) rfl
  have hl2 := pgLoadVar (P0.out.rs.over (ys := zeroPg) rfl)
  have HB := hidQ (below_setRow P0.out.bl (Nat.le_refl _) (vI zeroPg).toArray)
  have hcs := vI_asize (zs := zeroPg) rfl
  clear P0
  generalize (vI zeroPg).toArray = cT at hst hl2 hz hcs HB hV ⊢
  go_enter Tryd.func18, Tryd.ntmps18
  go_upto_region 2 with fail
  rw [← hV]
  clear hV
  go_wp2_with fail
  refine bodyPost_ret (v := .tuple #[.agg cT, .int .i64 2]) ?_ rfl ⟨rfl, HB.out⟩
  simp [results, Tryd.results18, asAddr, Result.andThen, hl2]

/-- The copy of words onto a page. -/
theorem pg_copy (a : Option Addr) (n cap g : Nat) (zs : List Int) (V : World) (h : IntIn V a n zs) (hn : n ≤ 240) (hP : PgAt V g zeroPg) : ∃ W1, (∀ ty, (Builtin.copy_ #[22, 22] ty #[.slice (some ⟨g, 0, none⟩) 240 240, .slice a n cap]).run Tryd.prog V = .ok (goInt n) W1) ∧ PgAt W1 g (pgOn zs n) ∧ Below g V W1 := by
  have hl : zs.length = n := h.1
  by_cases h0 : n = 0
  · subst h0
    refine ⟨V, fun ty => run_copy_none (P := Tryd.prog) V 22 22 ty 2 _ _ 240 240 0 cap Tryd.underlying22 Tryd.size2 (by rfl), ?_, Below.refl _ _⟩
    have e : pgOn zs 0 = zeroPg := by unfold pgOn zeroPg; simp
    rw [e]
    exact hP
  · obtain ⟨b, off, rfl, hc⟩ := h.2 (by omega)
    refine ⟨V.setRow g ((vI zeroPg).toArray.toList.take 0 ++ vI zs ++ (vI zeroPg).toArray.toList.drop (0 + (vI zs).length)).toArray, fun ty => ?_, ?_, below_setRow (Below.refl _ _) (Nat.le_refl _) _⟩
    · have q := run_copy_row (P := Tryd.prog) V 22 22 ty 2 g 0 240 240 ⟨b, off, none⟩ n cap (vI zeroPg).toArray 39 (vI zs) Tryd.underlying22 Tryd.size2 hP.bk (by rw [vI_len, hl]; show n = min n 240; omega) (fun j v e => by
        obtain ⟨x, e1, rfl⟩ := vI_of e
        rw [Go.WideShapes.add_plain]
        exact hc j x e1) (by rw [vI_len, hl, vI_asize hP.ln]; omega) (vI_one zs)
      rw [q, vI_len, hl]
    · have q := hP.put (o := 0) (ys := zs) (by omega)
      have e : putZ zeroPg 0 zs = pgOn zs n := by
        unfold putZ pgOn zeroPg
        rw [List.take_zero, List.nil_append, List.drop_replicate, hl, Nat.zero_add, List.take_of_length_le (by omega)]
      rw [e] at q
      exact q

theorem pg_clear (g N n : Nat) (zs : List Int) (wc : World) (hP : PgAt wc g (pgOn zs n)) (hl : zs.length = n) (hn : n ≤ 240) (hN : N * 6 ≤ n) : ∃ a c W2, (∀ W : World, (Instr.sliceAt 39 (.pointer (some ⟨g, 0, none⟩)) (some (.int .i64 ((N : Int) * 6))) none none).run Tryd.prog W = .ok (.slice a c c) W) ∧ (∀ ty, (Builtin.clear_ #[22] ty #[.slice a c c]).run Tryd.prog wc = .ok (.tuple #[]) W2) ∧ PgAt W2 g (pgOn zs (N * 6)) ∧ Below g wc W2 := by
  by_cases h40 : N < 40
  · refine ⟨_, _, _, pgSlice_from g N h40, fun ty => run_clearP wc g (N * 6) (240 - N * 6) (240 - N * 6) _ (by omega) hP (by omega) ty, ?_, below_setRow (Below.refl _ _) (Nat.le_refl _) _⟩
    have q := hP.put (o := N * 6) (ys := List.replicate (240 - N * 6) 0) (by rw [List.length_replicate]; omega)
    rw [pgOn_clear (by omega) hn hN] at q
    exact q
  · have e : (N : Int) * 6 = 240 := by omega
    rw [e]
    refine ⟨_, _, _, pgSlice_end g, fun ty => run_clear0 wc _ 0 ty, ?_, Below.refl _ _⟩
    rw [show N * 6 = n by omega]
    exact hP

theorem Tryd.fldS51 (c a0 a1 a2 a3 a4 : Int) (w : World) : (Instr.field 51 (.agg #[.int .i64 c, .int .i64 a0, .int .i64 a1, .int .i64 a2, .int .i64 a3, .int .i64 a4]) 0).run Tryd.prog w = .ok (.int .i64 c) w := by kernel_rfl

attribute [local go_sem] Tryd.fldS51

set_option maxRecDepth 20000 in
set_option maxHeartbeats 4000000 in
theorem pageOf_ok (a : Option Addr) (n cap : Nat) (zs : List Int) (w : World) (h : IntIn w a n zs) (hn : n ≤ 240) (hE : ErrAt 0 w) :
    Calls Tryd.prog 18 #[.slice a n cap] w fun e w' => e = .returned (.tuple #[.agg (vI (pgOf zs)).toArray, .int .i64 0]) ∧ Below w.heap.size w w' := by
  have hni : ¬ ((240 : Int) < (n : Int)) := by omega
  have hnl : (n : Int) ≤ 240 := by omega
  have HL : Hid (zs.length = n) := h.1
  have HE := hidQ hE
  obtain ⟨V, hV⟩ : ∃ V, V = (w.alloc (.cells (vI zeroPg).toArray 39)).alloc (.cells (vI zeroPg).toArray 39) := ⟨_, rfl⟩
  have P0 : Hid (PO4 w zeroPg V) := by rw [hV]; exact PO4.new w
  obtain ⟨W1, hcp, hP1, hB1⟩ := pg_copy a n cap (w.heap.size + 1) zs V (h.below P0.out.bl) hn P0.out.pg
  have P1 : Hid (PO4 w (pgOn zs n) W1) := ⟨P0.out.rs.keep (hB1.block _ (by omega)), hP1, P0.out.bl.trans (hB1.mono (by omega))⟩
  obtain ⟨N, hN⟩ : ∃ N, (rdL zs).length = N := ⟨_, rfl⟩
  have HN := hidQ hN
  have hNn : N * 6 ≤ n := by have := rd_end (zs := zs); rw [hN, HL.out] at this; exact this
  have hz := pg_zero
  have hsa := pgSlice_all (w.heap.size + 1)
  clear h hE hP1 hB1 hN P0
  go_enter Tryd.func18, Tryd.ntmps18
  go_upto_region 2 with fail
  rw [← hV]
  clear hV hz
  go_upto_region 4 with fail
  go_upto_region 5 with (at_builtin; refine wpList_copy_runI _ rfl _ _ 22 22 rfl _ _ rfl rfl (hcp _) ?_)
  clear hcp hsa
  go_upto_block 0 with fail
  go_cut [6] from 14 to 26 (fun s wx => s = .int .i64 ((N : Int) * 6) ∧ Hid (PO4 w (pgOn zs n) wx))
  case first =>
    go_wp2_with fail
    go_loopw [6] (fun i wr => ∃ k : Nat, k ≤ N ∧ i = .int .i64 ((k : Int) * 6) ∧ Hid (PO4 w (pgOn zs n) wr)) (fun i _ => 240 - (intOf i).toNat)
    case atStart => exact ⟨0, Nat.zero_le _, rfl, P1⟩
    case round =>
      clear P1
      obtain ⟨k, hk, rfl, HP⟩ := hrel
      have hw6 : IntKind.i64.wrap ((k : Int) * 6 + 6) = (k : Int) * 6 + 6 := by rw [IntKind.wrap_i64]; omega
      by_cases hfit : (k : Int) * 6 + 6 ≤ (n : Int)
      · have hk40 : k < 40 := by omega
        have HPC := hidQ (piece_c (w.heap.size + 1) k hk40 wr)
        obtain ⟨d, hd⟩ : ∃ d, unpC (pieceZ zs k) = d := ⟨_, rfl⟩
        have HD := hidQ hd
        have HU : Hid (∃ x : StI, GivesU 25 (some ⟨w.heap.size + 1, k * 6, none⟩) 6 (240 - k * 6) d x wr) := by
          have q := implUnpack_c (some ⟨w.heap.size + 1, k * 6, none⟩) 6 (240 - k * 6) (pieceZ (pgOn zs n) k) wr (HP.out.pg.piece hk40) (HE.out.below HP.out.bl)
          rw [pgOn_piece (by rw [HL.out]; exact Nat.le_refl _) (by omega)] at q
          rw [← hd]
          exact ⟨_, q⟩
        obtain ⟨x, hU⟩ := HU.out
        unfold GivesU at hU
        have HU2 := hidQ hU
        clear hd hU HU
        go_wp2_with fail
        refine HPC.out.mono ?_
        rintro e w1 ⟨rfl, rfl⟩
        go_wp2_with fail
        refine HU2.out.mono ?_
        rintro e w2 ⟨rfl, hb2⟩
        have P2 := hidQ (HP.out.below hb2)
        clear hb2 HU2 HPC
        by_cases hkN : k < N
        · have hd0 : d = 0 := by
            have e := rd_some (List.getElem?_eq_getElem (by rw [HN.out]; exact hkN) : (rdL zs)[k]? = some _)
            rw [← HD.out]
            unfold unpC
            rw [e]; rfl
          subst hd0
          go_wp2_with fail
          exact ⟨⟨k + 1, hkN, by congr 1; push_cast; omega, P2⟩, by simp [intOf]; omega⟩
        · have hkN' : k = N := by omega
          have hd5 : d = 5 := by
            have e := rd_none zs
            rw [HN.out, ← hkN'] at e
            rw [← HD.out]
            unfold unpC
            rw [e]; rfl
          subst hd5
          subst hkN'
          go_wp2_with fail
          go_meet
          exact ⟨rfl, P2⟩
      · have hkN' : k = N := by
          by_cases q : k < N
          · have := rd_long (zs := zs) (k := k) (by rw [HN.out]; exact q)
            rw [HL.out] at this
            omega
          · omega
        subst hkN'
        go_wp2_with fail
        go_meet
        exact ⟨rfl, HP⟩
  case rest =>
    clear P1
    obtain ⟨rfl, HP⟩ := hcut
    obtain ⟨sa, sc, W2, hsl, hcl, hP2, hB2⟩ := pg_clear (w.heap.size + 1) N n zs wc HP.out.pg HL.out hn hNn
    have PF : Hid (PO4 w (pgOn zs (N * 6)) W2) := ⟨HP.out.rs.keep (hB2.block _ (by omega)), hP2, HP.out.bl.trans (hB2.mono (by omega))⟩
    have hld := pgLoadAt PF.out.pg
    have hst := pgStoreCells PF.out.rs (ys := pgOn zs (N * 6)) PF.out.pg.ln
    have hl2 := pgLoadVar (PF.out.rs.over PF.out.pg.ln)
    have HB := hidQ (below_setRow PF.out.bl (Nat.le_refl _) (vI (pgOn zs (N * 6))).toArray)
    have hcs := vI_asize PF.out.pg.ln
    obtain ⟨cT, hcT⟩ : ∃ c, (vI (pgOn zs (N * 6))).toArray = c := ⟨_, rfl⟩
    have HEQ : Hid ((vI (pgOf zs)).toArray = cT) := by show _ = _; unfold pgOf; rw [HN.out]; exact hcT
    rw [hcT] at hld hst hl2 HB hcs
    clear hcT hP2 hB2 PF HP HE
    go_wp2_with fail
    unfold Oper.wp
    simp [execOp, Act.eval, hld, Result.andThen]
    rw [Oper.upon_value]
    go_wp2_with fail
    refine bodyPost_ret (v := .tuple #[.agg cT, .int .i64 0]) ?_ rfl ⟨by rw [HEQ.out], HB.out⟩
    simp [results, Tryd.results18, asAddr, Result.andThen, hl2]

end Go.Proofs.YtnlmoapopdchkaaDoor
