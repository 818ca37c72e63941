/-
  CONTRACTS: spec.ConfigText.
  Conditions: each contract bears its own.
  CONTRACTS: slices.Equal over rules, parts and classes.
  Conditions: each contract bears its own.
-/
import Derived.Test.YtaeigimgobilaaaGreatDoorPz12
import Derived.Deep.RegionHeld3
import Derived.Deep.CutBlock
import Derived.Test.YtaeigimgobilaaaGreatDoorPol1
import Derived.Test.YtaeigimgobilaaaGreatDoorPz04
import Derived.Test.YtaeigimgobilaaaGreatDoorPz01

namespace Go.Proofs.YtaeigimgobilaaaGreatDoor
open Go.RowKit Go.Shelf
set_option linter.unusedVariables false
set_option linter.unusedSimpArgs false
attribute [-go_sem] run_string_add_if

set_option maxRecDepth 100000 in
set_option maxHeartbeats 2000000 in
theorem specConfigText_bad (c : ConfI) (w : World) (hle : ConfLe 1048576 c) (h : ConfIn w c) (v : Int) (hv : cfCode c.e c.f c.zs (partsL c.fs) c.cs = v) (v0 : v ≠ 0) :
    GivesCt 9 c v noTx w := by
  obtain ⟨W, hW⟩ : ∃ W, W = (w.alloc (.cells #[.int .i64 c.e, .int .i64 c.f, .slice c.ra c.rn c.rc, .slice c.fa c.fn c.fc, .slice c.ca c.cn c.cc] 28)).alloc (.cells #[.int .i64 0, .string ⟨#[]⟩] 33) := ⟨_, rfl⟩
  have hs : W.heap.size = w.heap.size + 2 := by rw [hW]; simp
  have B0 : Below w.heap.size w W := by rw [hW]; exact ((Below.refl _ _).alloc (Nat.le_refl _) _).alloc (by simp) _
  have K0 : Hid (ConfAt W w.heap.size c) := by rw [hW]; exact (ConfAt.new w c _).below ((Below.refl _ _).alloc (Nat.le_refl _) _)
  have y0 : W.cell? ⟨w.heap.size + 1, 0, none⟩ = some (.int .i64 0) := by rw [hW]; go_cell
  have y1 : W.cell? ⟨w.heap.size + 1, 1, none⟩ = some (.string ⟨#[]⟩) := by rw [hW]; go_cell
  have z0 : W.frozen? ⟨w.heap.size + 1, 0, none⟩ = false := by rw [hW]; simp [go_sem]
  have z1 : W.frozen? ⟨w.heap.size + 1, 1, none⟩ = false := by rw [hW]; simp [go_sem]
  have HY : Hid (W.cell? ⟨w.heap.size + 1, 0, none⟩ = some (.int .i64 0) ∧ W.cell? ⟨w.heap.size + 1, 1, none⟩ = some (.string ⟨#[]⟩) ∧ W.frozen? ⟨w.heap.size + 1, 0, none⟩ = false ∧ W.frozen? ⟨w.heap.size + 1, 1, none⟩ = false) := ⟨y0, y1, z0, z1⟩
  have HSW : Hid (W.heap.size = w.heap.size + 2) := hs
  have HF : Hid (Calls Tryz.prog 19 #[.pointer (some ⟨w.heap.size, 0, none⟩)] W fun e w' => e = .returned (.int .i64 v) ∧ Below W.heap.size W w') := by rw [← hv]; exact l6Fault_c w.heap.size c W hle K0.out (h.below B0)
  have vb : (v != 0) = true := by simp [v0]
  clear y0 y1 z0 z1 h hle hv v0 hs
  unfold GivesCt
  go_enter Tryz.func9, Tryz.ntmps9
  go_wp2_with fail
  rw [← hW]
  clear hW
  refine HF.out.mono ?_
  rintro e w1 ⟨rfl, hWr⟩
  have y0' := (hWr.cell (p := ⟨w.heap.size + 1, 0, none⟩) (by show w.heap.size + 1 < W.heap.size; have := HSW.out; omega)).trans HY.out.1
  have y1' := (hWr.cell (p := ⟨w.heap.size + 1, 1, none⟩) (by show w.heap.size + 1 < W.heap.size; have := HSW.out; omega)).trans HY.out.2.1
  have z0' := (hWr.frozen (p := ⟨w.heap.size + 1, 0, none⟩) (by show w.heap.size + 1 < W.heap.size; have := HSW.out; omega)).trans HY.out.2.2.1
  have z1' := (hWr.frozen (p := ⟨w.heap.size + 1, 1, none⟩) (by show w.heap.size + 1 < W.heap.size; have := HSW.out; omega)).trans HY.out.2.2.2
  have hw1 : w.heap.size + 1 < w1.heap.size := by have := HSW.out; have := hWr.size; omega
  have HBF : Hid (Below w.heap.size w w1) := B0.trans (hWr.mono (by have := HSW.out; omega))
  clear hWr B0
  go_wp2
  refine bodyPost_ret (v := .agg #[.int .i64 v, .string ⟨#[]⟩]) (by simp [results, Tryz.results9, go_sem, y0', y1', hw1]) rfl ⟨rfl, ?_⟩
  exact (HBF.out.setCell (by show w.heap.size ≤ w.heap.size + 1; omega) _).setCell (by show w.heap.size ≤ w.heap.size + 1; omega) _

set_option maxRecDepth 100000 in
set_option maxHeartbeats 8000000 in
theorem specConfigText_ok (c : ConfI) (w : World) (hle : ConfLe 1048576 c) (h : ConfIn w c) (hok : cfCode c.e c.f c.zs (partsL c.fs) c.cs = 0) (k : Int) (t0 : ByteArray) (hk : ctCode c.e c.f c.zs (partsL c.fs) c.cs = k) (ht : ctText c.e c.f c.zs (partsL c.fs) c.cs = t0) :
    GivesCt 9 c k t0 w := by
  obtain ⟨he, hf, hp, hfm, hcl⟩ := cf_zero hok
  obtain ⟨e0, e1⟩ := (inR_iff _ _ _).1 he
  obtain ⟨f0, f1⟩ := (inR_iff _ _ _).1 hf
  have hrn : c.rn ≤ 16 := polC_n16 h.rules.1 hp
  have hfn : c.fn ≤ 4 := by have := (fm_zero hfm).1; rw [partsL_len, h.forms.1] at this; exact this
  have hcn : c.cn ≤ 4 := by have := (cl_ok hcl).1; rw [h.classes.1] at this; exact this
  have HRC : Hid (∀ z ∈ c.zs, ruleCode z = 0) := polC_codes hp
  have HPT : Hid (∀ (k : Nat) (x : List PartI), (partsL c.fs)[k]? = some x → ptCode x = 0) := (fm_zero hfm).2
  have HCK : Hid (∀ x ∈ c.cs, inR x 0 15 = true) := (cl_ok hcl).2
  have HSM : Hid (∀ l ∈ lines3 c.e c.f c.zs (partsL c.fs) c.cs, l.size ≤ 250) := lines_small ⟨by omega, by omega⟩ ⟨by omega, by omega⟩ (cl_ok hcl).2
  have HK : Hid (ctCode c.e c.f c.zs (partsL c.fs) c.cs = k ∧ ctText c.e c.f c.zs (partsL c.fs) c.cs = t0) := ⟨hk, ht⟩
  have H : Hid (ConfIn w c) := h
  obtain ⟨W, hW⟩ : ∃ W, W = (w.alloc (.cells #[.int .i64 c.e, .int .i64 c.f, .slice c.ra c.rn c.rc, .slice c.fa c.fn c.fc, .slice c.ca c.cn c.cc] 28)).alloc (.cells #[.int .i64 0, .string ⟨#[]⟩] 33) := ⟨_, rfl⟩
  have hs : W.heap.size = w.heap.size + 2 := by rw [hW]; simp
  have B0 : Below w.heap.size w W := by rw [hW]; exact ((Below.refl _ _).alloc (Nat.le_refl _) _).alloc (by simp) _
  have K0 : Hid (ConfAt W w.heap.size c) := by rw [hW]; exact (ConfAt.new w c _).below ((Below.refl _ _).alloc (Nat.le_refl _) _)
  have y0 : W.cell? ⟨w.heap.size + 1, 0, none⟩ = some (.int .i64 0) := by rw [hW]; go_cell
  have y1 : W.cell? ⟨w.heap.size + 1, 1, none⟩ = some (.string ⟨#[]⟩) := by rw [hW]; go_cell
  have z0 : W.frozen? ⟨w.heap.size + 1, 0, none⟩ = false := by rw [hW]; simp [go_sem]
  have z1 : W.frozen? ⟨w.heap.size + 1, 1, none⟩ = false := by rw [hW]; simp [go_sem]
  have HY : Hid (W.cell? ⟨w.heap.size + 1, 0, none⟩ = some (.int .i64 0) ∧ W.cell? ⟨w.heap.size + 1, 1, none⟩ = some (.string ⟨#[]⟩) ∧ W.frozen? ⟨w.heap.size + 1, 0, none⟩ = false ∧ W.frozen? ⟨w.heap.size + 1, 1, none⟩ = false) := ⟨y0, y1, z0, z1⟩
  have HSW : Hid (W.heap.size = w.heap.size + 2) := hs
  have HF : Hid (Calls Tryz.prog 19 #[.pointer (some ⟨w.heap.size, 0, none⟩)] W fun e w' => e = .returned (.int .i64 0) ∧ Below W.heap.size W w') := by rw [← hok]; exact l6Fault_c w.heap.size c W hle K0.out (h.below B0)
  have HD : Hid (∀ x : Int, (x = c.e ∨ x = c.f) → ∀ w', Calls Tryz.prog 27 #[.int .i64 x] w' fun e w'' => e = .returned (.string (decT x)) ∧ Below w'.heap.size w' w'') := fun x q w' => l1D_c x (by omega) (by omega) w'
  have hD1 := decT_size c.e (by omega) (by omega)
  have hD2 := decT_size c.f (by omega) (by omega)
  obtain ⟨T, hT⟩ : ∃ T, accT [headT c.e c.f] = T := ⟨_, rfl⟩
  obtain ⟨A1, hA1⟩ : ∃ A1, (⟨#[101, 112, 111, 99, 104, 32]⟩ : ByteArray) ++ decT c.e = A1 := ⟨_, rfl⟩
  obtain ⟨A2, hA2⟩ : ∃ A2, A1 ++ (⟨#[32]⟩ : ByteArray) = A2 := ⟨_, rfl⟩
  obtain ⟨A3, hA3⟩ : ∃ A3, A2 ++ decT c.f = A3 := ⟨_, rfl⟩
  have hA4 : A3 ++ (⟨#[10]⟩ : ByteArray) = T := by
    rw [← hT, ← hA3, ← hA2, ← hA1]
    show _ = headT c.e c.f ++ nlT ++ noTx
    rw [append_noTx]
    rfl
  have s1 : A1.size ≤ 8 := by rw [← hA1, size_cat]; show 6 + _ ≤ 8; omega
  have s2 : A2.size ≤ 9 := by rw [← hA2, size_cat]; show _ + 1 ≤ 9; omega
  have s3 : A3.size ≤ 11 := by rw [← hA3, size_cat]; omega
  have q1 : ∀ w', (Op.stringOp .add ⟨#[101, 112, 111, 99, 104, 32]⟩ (decT c.e)).run Tryz.prog w' = .ok (.string A1) w' := fun w' => by rw [← hA1]; exact run_string_add_sum w' _ _ (by rw [show (ByteArray.mk #[101, 112, 111, 99, 104, 32]).size = 6 from rfl]; omega)
  have q2 : ∀ w', (Op.stringOp .add A1 ⟨#[32]⟩).run Tryz.prog w' = .ok (.string A2) w' := fun w' => by rw [← hA2]; exact run_string_add_sum w' _ _ (by rw [show (ByteArray.mk #[32]).size = 1 from rfl]; omega)
  have q3 : ∀ w', (Op.stringOp .add A2 (decT c.f)).run Tryz.prog w' = .ok (.string A3) w' := fun w' => by rw [← hA3]; exact run_string_add_sum w' _ _ (by omega)
  have q4 : ∀ w', (Op.stringOp .add A3 ⟨#[10]⟩).run Tryz.prog w' = .ok (.string T) w' := fun w' => by rw [← hA4]; exact run_string_add_sum w' _ _ (by rw [show (ByteArray.mk #[10]).size = 1 from rfl]; omega)
  have HT0 : Hid (accT (headT c.e c.f :: (c.zs.take 0).map ruleLn) = T) := hT
  have HLE3 : Hid (∀ (p q : List ByteArray), p ++ q = lines3 c.e c.f c.zs (partsL c.fs) c.cs → (accT p).size ≤ 7000) := fun p q e => by
    have h1 := acc_size p (fun l hl => HSM.out l (by rw [← e]; exact List.mem_append_left _ hl))
    have h2 : (p ++ q).length = (lines3 c.e c.f c.zs (partsL c.fs) c.cs).length := by rw [e]
    have h3 : (lines3 c.e c.f c.zs (partsL c.fs) c.cs).length = 1 + c.rn + c.fn + c.cn := by
      unfold lines3 lines2 lines1
      have a1 := H.out.rules.1
      have a2 := H.out.forms.1
      have a3 := H.out.classes.1
      have a4 := partsL_len c.fs
      simp
      omega
    rw [List.length_append] at h2
    omega
  clear hok he hf hp hfm hcl hk ht h hle y0 y1 z0 z1 hT hA1 hA2 hA3 hA4 hD1 hD2 hs
  unfold GivesCt
  go_enter Tryz.func9, Tryz.ntmps9
  go_wp2_with fail
  rw [← hW]
  clear hW
  refine HF.out.mono ?_
  rintro e w1 ⟨rfl, hb1⟩
  go_upto_region 4 with fail
  obtain ⟨k0, k1, k2, k3, k4⟩ := K0.out.below hb1
  have hg := (K0.out.below hb1).lt
  go_region_held3 (fun w' => KX w1 w') (first | exact hS | exact kp_drew _)
    (first | (go_at_call 27; refine (HD.out _ (by first | exact .inl rfl | exact .inr rfl) _).mono ?_; rintro e w' ⟨rfl, hb2⟩; have hS := kp_step (by assumption) hb2))
  have B1 : Hid (Below W.heap.size W w') := hb1.trans (hS.2.mono hb1.size)
  obtain ⟨V0, hV0⟩ : ∃ V0, V0 = w' := ⟨_, rfl⟩
  rw [← hV0] at B1 ⊢
  clear hV0 hS hb1 k0 k1 k2 k3 k4 hg q1 q2 q3 q4 s1 s2 s3 HD HF
  have hrn' : (c.rn : Int) ≤ 16 := by omega
  have hfn' : (c.fn : Int) ≤ 4 := by omega
  have hcn' : (c.cn : Int) ≤ 4 := by omega
  go_wp2_with fail
  go_loopw [4, 5] (fun s i wr => ∃ j : Nat, j ≤ c.rn ∧ i = .int .i64 (j : Int) ∧ Hid (s = .string (accT (headT c.e c.f :: (c.zs.take j).map ruleLn)) ∧ Below W.heap.size W wr)) (fun _ i _ => c.rn - (intOf i).toNat)
  case atStart => exact ⟨0, by omega, rfl, by rw [HT0.out], B1.out⟩
  case round =>
    obtain ⟨j, hj, rfl, TK⟩ := hrel
    obtain ⟨hse, hWr⟩ := TK.out
    subst hse
    clear B1 TK
    obtain ⟨k0, k1, k2, k3, k4⟩ := K0.out.below hWr
    have hg := (K0.out.below hWr).lt
    by_cases hlt : j < c.rn
    · have hlt' : (j : Int) < (c.rn : Int) := by omega
      obtain ⟨b, off, r, hra, hs', hr⟩ := H.out.rules.at hlt
      have hbW := B0.trans (hWr.mono (by have := HSW.out; omega))
      have HRA : Hid (RuleAt wr b (off + j * 8) r) := hr.below hbW
      have hbl : b < wr.heap.size := World.block_lt_of_cell? wr ⟨b, _, none⟩ HRA.out.1
      have hrc : ruleCode r = 0 := HRC.out r (List.mem_of_getElem? hs')
      obtain ⟨A, hA⟩ : ∃ A, accT (headT c.e c.f :: (c.zs.take j).map ruleLn) = A := ⟨_, rfl⟩
      obtain ⟨D, hD⟩ : ∃ D, lineT r = D := ⟨_, rfl⟩
      have hAs : A.size ≤ 7000 := by
        rw [← hA]
        refine HLE3.out _ ((c.zs.drop j).map ruleLn ++ (partsL c.fs).map fmLn ++ c.cs.map classLn) ?_
        unfold lines3 lines2 lines1
        rw [List.cons_append, ← List.append_assoc, ← List.append_assoc, ← List.map_append, List.take_append_drop]
        rfl
      have hDs : D.size ≤ 16 := by rw [← hD]; exact line_size r
      obtain ⟨B1, hB1⟩ : ∃ B1, A ++ (⟨#[114, 117, 108, 101, 32]⟩ : ByteArray) = B1 := ⟨_, rfl⟩
      obtain ⟨B2, hB2⟩ : ∃ B2, B1 ++ D = B2 := ⟨_, rfl⟩
      obtain ⟨B3, hB3⟩ : ∃ B3, B2 ++ (⟨#[10]⟩ : ByteArray) = B3 := ⟨_, rfl⟩
      have s1 : B1.size ≤ 7010 := by rw [← hB1, size_cat]; show _ + 5 ≤ _; omega
      have s2 : B2.size ≤ 7300 := by rw [← hB2, size_cat]; omega
      have q1 : ∀ w', (Op.stringOp .add A ⟨#[114, 117, 108, 101, 32]⟩).run Tryz.prog w' = .ok (.string B1) w' := fun w' => by rw [← hB1]; exact run_string_add_sum w' _ _ (by rw [show (ByteArray.mk #[114, 117, 108, 101, 32]).size = 5 from rfl]; omega)
      have q2 : ∀ w', (Op.stringOp .add B1 D).run Tryz.prog w' = .ok (.string B2) w' := fun w' => by rw [← hB2]; exact run_string_add_sum w' _ _ (by omega)
      have q3 : ∀ w', (Op.stringOp .add B2 ⟨#[10]⟩).run Tryz.prog w' = .ok (.string B3) w' := fun w' => by rw [← hB3]; exact run_string_add_sum w' _ _ (by rw [show (ByteArray.mk #[10]).size = 1 from rfl]; omega)
      have HNX : Hid (accT (headT c.e c.f :: (c.zs.take (j + 1)).map ruleLn) = B3) := by
        show accT (headT c.e c.f :: (c.zs.take (j + 1)).map ruleLn) = B3
        rw [List.take_add_one, hs', Option.toList_some, List.map_append, ← List.cons_append]
        show accT ((headT c.e c.f :: (c.zs.take j).map ruleLn) ++ [ruleLn r]) = B3
        rw [accT_snoc, hA, ← hB3, ← hB2, ← hB1, ← hD]
        unfold ruleLn nlT
        simp only [ByteArray.append_assoc]
      have HLN : Hid (∀ w', Below wr.heap.size wr w' → Calls Tryz.prog 28 #[.pointer (some ⟨b, off + j * 8, none⟩)] w' fun e w'' => e = .returned (.string D) ∧ Below w'.heap.size w' w'') := fun w' q => by rw [← hD]; exact l2Line_c b (off + j * 8) r w' (HRA.out.below q) hrc
      rw [hA]
      rw [hra] at k2
      clear hs' hr hra hbW hrc hA hD hB1 hB2 hB3 k0 k1 k3 k4 HRA
      go_wp2_with fail
      refine (HLN.out _ (Below.refl _ _)).mono ?_
      rintro e V ⟨rfl, hb2⟩
      have hWV := hWr.trans (hb2.mono hWr.size)
      clear hb2 hWr k2
      go_wp2
      exact ⟨⟨j + 1, by omega, by go_num, by rw [HNX.out], hWV⟩, by simp [intOf]; omega⟩
    · rw [List.take_of_length_le (by rw [H.out.rules.1]; omega)]
      have hlt' : ¬ ((j : Int) < (c.rn : Int)) := by omega
      have HA0 : Hid (accT (headT c.e c.f :: c.zs.map ruleLn) = accT (lines1 c.e c.f c.zs ++ ((partsL c.fs).take 0).map fmLn)) := by show _ = accT (lines1 c.e c.f c.zs ++ ((partsL c.fs).take 0).map fmLn); simp [lines1]
      rw [HA0.out]
      have HW0 : Hid (Below W.heap.size W wr) := hWr
      obtain ⟨Z, hZ⟩ : ∃ Z, accT (lines1 c.e c.f c.zs ++ ((partsL c.fs).take 0).map fmLn) = Z := ⟨_, rfl⟩
      have HZ : Hid (accT (lines1 c.e c.f c.zs ++ ((partsL c.fs).take 0).map fmLn) = Z) := hZ
      rw [hZ]
      clear hZ k0 k1 k3 k4 HRC
      go_wp2_with fail
      clear k2 hg hWr
      go_loopw [4, 6] (fun s i wr => ∃ m : Nat, m ≤ c.fn ∧ i = .int .i64 (m : Int) ∧ Hid ((∀ (q : Nat) (ps : List PartI), q < m → (partsL c.fs)[q]? = some ps → ftC ps = 0) ∧ s = .string (accT (lines1 c.e c.f c.zs ++ ((partsL c.fs).take m).map fmLn)) ∧ Below W.heap.size W wr)) (fun _ i _ => c.fn - (intOf i).toNat)
      case atStart => exact ⟨0, by omega, rfl, fun q ps hq => by omega, by rw [HZ.out], HW0.out⟩
      case round =>
        obtain ⟨m, hm, rfl, TM⟩ := hrel
        obtain ⟨hgd, hse, hWr⟩ := TM.out
        subst hse
        have HGD : Hid (∀ (q : Nat) (ps : List PartI), q < m → (partsL c.fs)[q]? = some ps → ftC ps = 0) := hgd
        clear HW0 TM hgd HZ
        obtain ⟨k0, k1, k2, k3, k4⟩ := K0.out.below hWr
        have hg := (K0.out.below hWr).lt
        by_cases hlm : m < c.fn
        · have hlm' : (m : Int) < (c.fn : Int) := by omega
          obtain ⟨b, off, x, hfa, hs', hr⟩ := H.out.forms.at hlm
          have hbW := B0.trans (hWr.mono (by have := HSW.out; omega))
          have hr' := hr.below hbW
          have hbl : b < wr.heap.size := hr'.lt
          have c0 := hr'.1
          have hpc : ptCode x.ps = 0 := HPT.out m _ (partsL_at hs')
          have HPI : Hid (PartsIn wr x.a x.n x.ps) := hr'.2
          have HXS : Hid ((partsL c.fs)[m]? = some x.ps) := partsL_at hs'
          obtain ⟨kc, hkc⟩ : ∃ kc, ftC x.ps = kc := ⟨_, rfl⟩
          obtain ⟨tt, htt⟩ : ∃ tt, ftT x.ps = tt := ⟨_, rfl⟩
          have HPT1 : Hid (Calls Tryz.prog 29 #[.slice x.a x.n x.cap] wr fun e w'' => e = .returned (.agg #[.int .i64 kc, .string tt]) ∧ Below wr.heap.size wr w'') := by rw [← hkc, ← htt]; exact specFt_c x.a x.n x.cap x.ps wr HPI.out hpc
          rw [hfa] at k3
          by_cases kc0 : kc = 0
          · have kb : (kc != 0) = false := by simp [kc0]
            obtain ⟨A, hA⟩ : ∃ A, accT (lines1 c.e c.f c.zs ++ ((partsL c.fs).take m).map fmLn) = A := ⟨_, rfl⟩
            have hAs : A.size ≤ 7000 := by
              rw [← hA]
              refine HLE3.out _ (((partsL c.fs).drop m).map fmLn ++ c.cs.map classLn) ?_
              unfold lines3 lines2
              rw [← List.append_assoc, List.append_assoc (lines1 c.e c.f c.zs), ← List.map_append, List.take_append_drop]
            have htts : tt.size ≤ 200 := by rw [← htt]; exact ftT_size _
            obtain ⟨B1, hB1⟩ : ∃ B1, A ++ (⟨#[102, 111, 114, 109, 32]⟩ : ByteArray) = B1 := ⟨_, rfl⟩
            obtain ⟨B2, hB2⟩ : ∃ B2, B1 ++ tt = B2 := ⟨_, rfl⟩
            obtain ⟨B3, hB3⟩ : ∃ B3, B2 ++ (⟨#[10]⟩ : ByteArray) = B3 := ⟨_, rfl⟩
            have s1 : B1.size ≤ 7010 := by rw [← hB1, size_cat]; show _ + 5 ≤ _; omega
            have s2 : B2.size ≤ 7300 := by rw [← hB2, size_cat]; omega
            have q1 : ∀ w', (Op.stringOp .add A ⟨#[102, 111, 114, 109, 32]⟩).run Tryz.prog w' = .ok (.string B1) w' := fun w' => by rw [← hB1]; exact run_string_add_sum w' _ _ (by rw [show (ByteArray.mk #[102, 111, 114, 109, 32]).size = 5 from rfl]; omega)
            have q2 : ∀ w', (Op.stringOp .add B1 tt).run Tryz.prog w' = .ok (.string B2) w' := fun w' => by rw [← hB2]; exact run_string_add_sum w' _ _ (by omega)
            have q3 : ∀ w', (Op.stringOp .add B2 ⟨#[10]⟩).run Tryz.prog w' = .ok (.string B3) w' := fun w' => by rw [← hB3]; exact run_string_add_sum w' _ _ (by rw [show (ByteArray.mk #[10]).size = 1 from rfl]; omega)
            have HNX : Hid (accT (lines1 c.e c.f c.zs ++ ((partsL c.fs).take (m + 1)).map fmLn) = B3) := by
              show accT (lines1 c.e c.f c.zs ++ ((partsL c.fs).take (m + 1)).map fmLn) = B3
              rw [List.take_add_one, HXS.out, Option.toList_some, List.map_append, ← List.append_assoc]
              show accT ((lines1 c.e c.f c.zs ++ ((partsL c.fs).take m).map fmLn) ++ [fmLn x.ps]) = B3
              rw [accT_snoc, hA, ← hB3, ← hB2, ← hB1, ← htt]
              unfold fmLn formLn nlT
              simp only [ByteArray.append_assoc]
            have HGD2 : Hid (∀ (q : Nat) (ps : List PartI), q < m + 1 → (partsL c.fs)[q]? = some ps → ftC ps = 0) := fun q ps hq hps => by
              by_cases e : q = m
              · subst e
                rw [HXS.out] at hps
                cases hps
                rw [hkc]; exact kc0
              · exact HGD.out q ps (by omega) hps
            rw [hA]
            clear hs' hr hr' hfa hbW hpc hA htt hkc kc0 hB1 hB2 hB3 k0 k1 k2 k4 HGD
            go_wp2_with fail
            refine HPT1.out.mono ?_
            rintro e V ⟨rfl, hb2⟩
            have hWV := hWr.trans (hb2.mono hWr.size)
            have hWU : Below W.heap.size W (V.alloc (.cells #[.int .i64 kc, .string tt] 33)) := hWV.alloc hWV.size _
            clear hb2 hWr k3 hWV c0 HPT1 HPI
            go_wp2
            exact ⟨⟨m + 1, by omega, by go_num, HGD2.out, by rw [HNX.out], hWU⟩, by simp [intOf]; omega⟩
          · have kb : (kc != 0) = true := by simp [kc0]
            have HBD : Hid (k = 2 ∧ t0 = noTx ∧ kc = 2 ∧ tt = noTx) := by
              obtain ⟨g1, g2, g3, g4⟩ := ct_bad (e := c.e) (f := c.f) (zs := c.zs) (cs := c.cs) HXS.out (by rw [hkc]; exact kc0)
              rw [HK.out.1] at g1
              rw [HK.out.2] at g2
              rw [hkc] at g3
              rw [htt] at g4
              exact ⟨g1, g2, g3, g4⟩
            generalize accT (lines1 c.e c.f c.zs ++ ((partsL c.fs).take m).map fmLn) = A
            clear hs' hr hr' hfa hbW hpc htt hkc kc0 k0 k1 k2 k4 HGD
            go_wp2_with fail
            refine HPT1.out.mono ?_
            rintro e V ⟨rfl, hb2⟩
            have hWr := hWr.trans (hb2.mono hWr.size)
            have y0' := (hWr.cell (p := ⟨w.heap.size + 1, 0, none⟩) (by show w.heap.size + 1 < W.heap.size; have := HSW.out; omega)).trans HY.out.1
            have y1' := (hWr.cell (p := ⟨w.heap.size + 1, 1, none⟩) (by show w.heap.size + 1 < W.heap.size; have := HSW.out; omega)).trans HY.out.2.1
            have z0' := (hWr.frozen (p := ⟨w.heap.size + 1, 0, none⟩) (by show w.heap.size + 1 < W.heap.size; have := HSW.out; omega)).trans HY.out.2.2.1
            have z1' := (hWr.frozen (p := ⟨w.heap.size + 1, 1, none⟩) (by show w.heap.size + 1 < W.heap.size; have := HSW.out; omega)).trans HY.out.2.2.2
            have hw1 : w.heap.size + 1 < V.heap.size := by have := HSW.out; have := hWr.size; omega
            have HBF : Hid (Below w.heap.size w V) := B0.trans (hWr.mono (by have := HSW.out; omega))
            clear hb2 k3 c0 HPT1 HPI
            go_wp2
            refine bodyPost_ret (v := .agg #[.int .i64 kc, .string tt]) (by simp [results, Tryz.results9, go_sem, y0', y1', hw1]) rfl ⟨?_, ?_⟩
            · obtain ⟨g1, g2, g3, g4⟩ := HBD.out
              rw [g1, g2, g3, g4]
            · first
                | exact ((HBF.out.setCell (by show w.heap.size ≤ w.heap.size + 1; omega) _).setCell (by show w.heap.size ≤ w.heap.size + 1; omega) _).alloc (by simp only [World.size_setCell]; exact HBF.out.size) _
                | exact ((HBF.out.alloc HBF.out.size _).setCell (by show w.heap.size ≤ w.heap.size + 1; omega) _).setCell (by show w.heap.size ≤ w.heap.size + 1; omega) _
        · have hpl := partsL_len c.fs
          have hfl := H.out.forms.1
          have HGA : Hid (∀ (q : Nat) (ps : List PartI), (partsL c.fs)[q]? = some ps → ftC ps = 0) := fun q ps hq => HGD.out q ps (by
            by_cases e : q < m
            · exact e
            · rw [List.getElem?_eq_none (by omega)] at hq; cases hq) hq
          have HXT : Hid ((1500 < (accT (lines3 c.e c.f c.zs (partsL c.fs) c.cs)).size → k = 2 ∧ t0 = noTx) ∧ (¬ 1500 < (accT (lines3 c.e c.f c.zs (partsL c.fs) c.cs)).size → k = 0 ∧ t0 = accT (lines3 c.e c.f c.zs (partsL c.fs) c.cs))) := by
            have := ct_ok (e := c.e) (f := c.f) (zs := c.zs) (cs := c.cs) HGA.out
            rw [HK.out.1, HK.out.2] at this
            exact this
          have hlm' : ¬ ((m : Int) < (c.fn : Int)) := by omega
          have HA0 : Hid (accT (lines1 c.e c.f c.zs ++ ((partsL c.fs).take m).map fmLn) = accT (lines2 c.e c.f c.zs (partsL c.fs) ++ (c.cs.take 0).map classLn)) := by
            show _ = accT (lines2 c.e c.f c.zs (partsL c.fs) ++ (c.cs.take 0).map classLn)
            rw [List.take_of_length_le (by omega)]
            simp [lines2]
          rw [HA0.out]
          have HW0 : Hid (Below W.heap.size W wr) := hWr
          obtain ⟨Z, hZ⟩ : ∃ Z, accT (lines2 c.e c.f c.zs (partsL c.fs) ++ (c.cs.take 0).map classLn) = Z := ⟨_, rfl⟩
          have HZ : Hid (accT (lines2 c.e c.f c.zs (partsL c.fs) ++ (c.cs.take 0).map classLn) = Z) := hZ
          rw [hZ]
          clear hZ k0 k1 k2 k4 HPT HGD hpl hfl
          go_wp2_with fail
          clear k3 hg hWr
          go_loopw [4, 8] (fun s i wr => ∃ n : Nat, n ≤ c.cn ∧ i = .int .i64 (n : Int) ∧ Hid (s = .string (accT (lines2 c.e c.f c.zs (partsL c.fs) ++ (c.cs.take n).map classLn)) ∧ Below W.heap.size W wr)) (fun _ i _ => c.cn - (intOf i).toNat)
          case atStart => exact ⟨0, by omega, rfl, by rw [HZ.out], HW0.out⟩
          case round =>
            obtain ⟨n, hn, rfl, TN⟩ := hrel
            obtain ⟨hse, hWr⟩ := TN.out
            subst hse
            clear HW0 TN HZ
            obtain ⟨k0, k1, k2, k3, k4⟩ := K0.out.below hWr
            have hg := (K0.out.below hWr).lt
            by_cases hln : n < c.cn
            · have hln' : (n : Int) < (c.cn : Int) := by omega
              obtain ⟨b, off, x, hca, hs', hx, hbl0⟩ := H.out.classes.at hln
              have hbW := B0.trans (hWr.mono (by have := HSW.out; omega))
              have c0 := (hbW.cell (p := ⟨b, off + n, none⟩) hbl0).trans hx
              have hbl : b < wr.heap.size := by have := hbW.size; omega
              obtain ⟨x0, x1⟩ := (inR_iff _ _ _).1 (HCK.out x (List.mem_of_getElem? hs'))
              obtain ⟨A, hA⟩ : ∃ A, accT (lines2 c.e c.f c.zs (partsL c.fs) ++ (c.cs.take n).map classLn) = A := ⟨_, rfl⟩
              have hAs : A.size ≤ 7000 := by
                rw [← hA]
                refine HLE3.out _ ((c.cs.drop n).map classLn) ?_
                unfold lines3
                rw [List.append_assoc, ← List.map_append, List.take_append_drop]
              obtain ⟨D, hD⟩ : ∃ D, decT x = D := ⟨_, rfl⟩
              have hDs : D.size ≤ 2 := by rw [← hD]; exact decT_size x x0 x1
              obtain ⟨B1, hB1⟩ : ∃ B1, A ++ (⟨#[99, 108, 97, 115, 115, 32]⟩ : ByteArray) = B1 := ⟨_, rfl⟩
              obtain ⟨B2, hB2⟩ : ∃ B2, B1 ++ D = B2 := ⟨_, rfl⟩
              obtain ⟨B3, hB3⟩ : ∃ B3, B2 ++ (⟨#[10]⟩ : ByteArray) = B3 := ⟨_, rfl⟩
              have s1 : B1.size ≤ 7010 := by rw [← hB1, size_cat]; show _ + 6 ≤ _; omega
              have s2 : B2.size ≤ 7300 := by rw [← hB2, size_cat]; omega
              have q1 : ∀ w', (Op.stringOp .add A ⟨#[99, 108, 97, 115, 115, 32]⟩).run Tryz.prog w' = .ok (.string B1) w' := fun w' => by rw [← hB1]; exact run_string_add_sum w' _ _ (by rw [show (ByteArray.mk #[99, 108, 97, 115, 115, 32]).size = 6 from rfl]; omega)
              have q2 : ∀ w', (Op.stringOp .add B1 D).run Tryz.prog w' = .ok (.string B2) w' := fun w' => by rw [← hB2]; exact run_string_add_sum w' _ _ (by omega)
              have q3 : ∀ w', (Op.stringOp .add B2 ⟨#[10]⟩).run Tryz.prog w' = .ok (.string B3) w' := fun w' => by rw [← hB3]; exact run_string_add_sum w' _ _ (by rw [show (ByteArray.mk #[10]).size = 1 from rfl]; omega)
              have HNX : Hid (accT (lines2 c.e c.f c.zs (partsL c.fs) ++ (c.cs.take (n + 1)).map classLn) = B3) := by
                show accT (lines2 c.e c.f c.zs (partsL c.fs) ++ (c.cs.take (n + 1)).map classLn) = B3
                rw [List.take_add_one, hs', Option.toList_some, List.map_append, ← List.append_assoc]
                show accT ((lines2 c.e c.f c.zs (partsL c.fs) ++ (c.cs.take n).map classLn) ++ [classLn x]) = B3
                rw [accT_snoc, hA, ← hB3, ← hB2, ← hB1, ← hD]
                unfold classLn nlT
                simp only [ByteArray.append_assoc]
              have HDG : Hid (∀ w', Calls Tryz.prog 27 #[.int .i64 x] w' fun e w'' => e = .returned (.string D) ∧ Below w'.heap.size w' w'') := fun w' => by rw [← hD]; exact l1D_c x x0 x1 w'
              rw [hA]
              rw [hca] at k4
              clear hs' hca hbW hA hD hB1 hB2 hB3 k0 k1 k2 k3 hx
              go_wp2_with fail
              refine (HDG.out _).mono ?_
              rintro e V ⟨rfl, hb2⟩
              have hWV := hWr.trans (hb2.mono hWr.size)
              clear hb2 hWr k4 c0
              go_wp2
              exact ⟨⟨n + 1, by omega, by go_num, by rw [HNX.out], hWV⟩, by simp [intOf]; omega⟩
            · have HA1 : Hid (accT (lines2 c.e c.f c.zs (partsL c.fs) ++ (c.cs.take n).map classLn) = accT (lines3 c.e c.f c.zs (partsL c.fs) c.cs)) := by
                show _ = accT (lines3 c.e c.f c.zs (partsL c.fs) c.cs)
                rw [List.take_of_length_le (by rw [H.out.classes.1]; omega)]
                rfl
              rw [HA1.out]
              have hRs := HLE3.out (lines3 c.e c.f c.zs (partsL c.fs) c.cs) [] (List.append_nil _)
              generalize accT (lines3 c.e c.f c.zs (partsL c.fs) c.cs) = R at HXT hRs ⊢
              have hln' : ¬ ((n : Int) < (c.cn : Int)) := by omega
              have y0' := (hWr.cell (p := ⟨w.heap.size + 1, 0, none⟩) (by show w.heap.size + 1 < W.heap.size; have := HSW.out; omega)).trans HY.out.1
              have y1' := (hWr.cell (p := ⟨w.heap.size + 1, 1, none⟩) (by show w.heap.size + 1 < W.heap.size; have := HSW.out; omega)).trans HY.out.2.1
              have z0' := (hWr.frozen (p := ⟨w.heap.size + 1, 0, none⟩) (by show w.heap.size + 1 < W.heap.size; have := HSW.out; omega)).trans HY.out.2.2.1
              have z1' := (hWr.frozen (p := ⟨w.heap.size + 1, 1, none⟩) (by show w.heap.size + 1 < W.heap.size; have := HSW.out; omega)).trans HY.out.2.2.2
              have hw1 : w.heap.size + 1 < wr.heap.size := by have := HSW.out; have := hWr.size; omega
              have HBF : Hid (Below w.heap.size w wr) := B0.trans (hWr.mono (by have := HSW.out; omega))
              clear hWr k0 k1 k2 k3 HA1
              by_cases hbig : 1500 < R.size
              · have hbig' : (1500 : Int) < (R.size : Int) := by omega
                have HE : Hid (k = 2 ∧ t0 = noTx) := HXT.out.1 hbig
                clear hbig
                go_wp2
                refine bodyPost_ret (v := .agg #[.int .i64 2, .string ⟨#[]⟩]) (by simp [results, Tryz.results9, go_sem, y0', y1', hw1]) rfl ⟨?_, ?_⟩
                · rw [HE.out.1, HE.out.2]; rfl
                · exact (HBF.out.setCell (by show w.heap.size ≤ w.heap.size + 1; omega) _).setCell (by show w.heap.size ≤ w.heap.size + 1; omega) _
              · have hbig' : (R.size : Int) ≤ 1500 := by omega
                have HE : Hid (k = 0 ∧ t0 = R) := HXT.out.2 hbig
                clear hbig
                go_wp2
                refine bodyPost_ret (v := .agg #[.int .i64 0, .string R]) (by simp [results, Tryz.results9, go_sem, y0', y1', hw1]) rfl ⟨?_, ?_⟩
                · rw [HE.out.1, HE.out.2]
                · exact (HBF.out.setCell (by show w.heap.size ≤ w.heap.size + 1; omega) _).setCell (by show w.heap.size ≤ w.heap.size + 1; omega) _

theorem specConfigText_c (c : ConfI) (w : World) (hle : ConfLe 1048576 c) (h : ConfIn w c) :
    GivesCt 9 c (cxCode c.e c.f c.zs (partsL c.fs) c.cs) (cxText c.e c.f c.zs (partsL c.fs) c.cs) w := by
  unfold cxCode cxText
  by_cases v0 : cfCode c.e c.f c.zs (partsL c.fs) c.cs = 0
  · rw [if_pos v0, if_pos v0]
    exact specConfigText_ok c w hle h v0 _ _ rfl rfl
  · rw [if_neg v0, if_neg v0]
    exact specConfigText_bad c w hle h _ rfl v0

end Go.Proofs.YtaeigimgobilaaaGreatDoor

namespace Go.Proofs.YtaeigimgobilaaaGreatDoor
open Go.RowKit
set_option linter.unusedVariables false
set_option linter.unusedSimpArgs false

theorem sameRule_iff (a0 a1 a2 a3 a4 a5 a6 a7 b0 b1 b2 b3 b4 b5 b6 b7 : Int) : decide ((⟨a0, a1, a2, a3, a4, a5, a6, a7⟩ : RuleI) = ⟨b0, b1, b2, b3, b4, b5, b6, b7⟩) = (a0 == b0 && a1 == b1 && a2 == b2 && a3 == b3 && a4 == b4 && a5 == b5 && a6 == b6 && a7 == b7) := by
  rw [Bool.eq_iff_iff]
  simp only [decide_eq_true_eq, RuleI.mk.injEq, Bool.and_eq_true, beq_iff_eq, and_assoc]

set_option maxHeartbeats 1000000 in
theorem Rule_neq (r s : RuleI) (w : World) : (binOp .neq 68 (.agg #[.int .i64 r.k, .int .i64 r.ho, .int .i64 r.hn, .int .i64 r.w, .int .i64 r.oo, .int .i64 r.on, .int .i64 r.to, .int .i64 r.tn]) (.agg #[.int .i64 s.k, .int .i64 s.ho, .int .i64 s.hn, .int .i64 s.w, .int .i64 s.oo, .int .i64 s.on, .int .i64 s.to, .int .i64 s.tn])).run Tryz.prog w = .ok (.bool (!decide (r = s))) w := by
  obtain ⟨a0, a1, a2, a3, a4, a5, a6, a7⟩ := r
  obtain ⟨b0, b1, b2, b3, b4, b5, b6, b7⟩ := s
  simp only
  rw [sameRule_iff]
  cases e0 : (a0 == b0)
  · simp [go_sem, e0]
  cases e1 : (a1 == b1)
  · simp [go_sem, e0, e1]
  cases e2 : (a2 == b2)
  · simp [go_sem, e0, e1, e2]
  cases e3 : (a3 == b3)
  · simp [go_sem, e0, e1, e2, e3]
  cases e4 : (a4 == b4)
  · simp [go_sem, e0, e1, e2, e3, e4]
  cases e5 : (a5 == b5)
  · simp [go_sem, e0, e1, e2, e3, e4, e5]
  cases e6 : (a6 == b6)
  · simp [go_sem, e0, e1, e2, e3, e4, e5, e6]
  cases e7 : (a7 == b7)
  · simp [go_sem, e0, e1, e2, e3, e4, e5, e6, e7]
  · simp [go_sem, e0, e1, e2, e3, e4, e5, e6, e7]

theorem samePart_iff (a0 a1 a2 a3 a4 b0 b1 b2 b3 b4 : Int) : decide ((⟨a0, a1, a2, a3, a4⟩ : PartI) = ⟨b0, b1, b2, b3, b4⟩) = (a0 == b0 && a1 == b1 && a2 == b2 && a3 == b3 && a4 == b4) := by
  rw [Bool.eq_iff_iff]
  simp only [decide_eq_true_eq, PartI.mk.injEq, Bool.and_eq_true, beq_iff_eq, and_assoc]

set_option maxHeartbeats 1000000 in
theorem Part_neq (r s : PartI) (w : World) : (binOp .neq 104 (.agg #[.int .i64 r.k, .int .i64 r.ro, .int .i64 r.rn, .int .i64 r.l, .int .i64 r.r]) (.agg #[.int .i64 s.k, .int .i64 s.ro, .int .i64 s.rn, .int .i64 s.l, .int .i64 s.r])).run Tryz.prog w = .ok (.bool (!decide (r = s))) w := by
  obtain ⟨a0, a1, a2, a3, a4⟩ := r
  obtain ⟨b0, b1, b2, b3, b4⟩ := s
  simp only
  rw [samePart_iff]
  cases e0 : (a0 == b0)
  · simp [go_sem, e0]
  cases e1 : (a1 == b1)
  · simp [go_sem, e0, e1]
  cases e2 : (a2 == b2)
  · simp [go_sem, e0, e1, e2]
  cases e3 : (a3 == b3)
  · simp [go_sem, e0, e1, e2, e3]
  cases e4 : (a4 == b4)
  · simp [go_sem, e0, e1, e2, e3, e4]
  · simp [go_sem, e0, e1, e2, e3, e4]

attribute [local go_sem ↓] Rule_neq Part_neq

set_option maxHeartbeats 1000000 in
theorem slEqRules_c (a b : Option Addr) (n m ca cb : Nat) (xs ys : List RuleI) (w : World) (hn : n ≤ 1048576) (hm : m ≤ 1048576) (h : RulesIn w a n xs) (h' : RulesIn w b m ys) :
    Calls Tryz.prog 67 #[.slice a n ca, .slice b m cb] w fun e w' => e = .returned (.bool (decide (xs = ys))) ∧ Below w.heap.size w w' := by
  have H : Hid (RulesIn w a n xs) := h
  have H' : Hid (RulesIn w b m ys) := h'
  have HX : Hid (xs.length = n) := h.1
  have HY : Hid (ys.length = m) := h'.1
  clear h h'
  have hn' : (n : Int) ≤ 1048576 := by omega
  have hm' : (m : Int) ≤ 1048576 := by omega
  by_cases hnm : n = m
  · subst hnm
    obtain ⟨t, ht⟩ : ∃ t, decide (xs = ys) = t := ⟨_, rfl⟩
    have HT : Hid (decide (xs = ys) = t) := ht
    rw [ht]
    clear ht
    go_enter Tryz.func67, Tryz.ntmps67
    go_wp2
    go_loopw [13] (fun i wr => ∃ k : Nat, k ≤ n ∧ i = .int .i64 (k : Int) ∧ xs.take k = ys.take k ∧ ∃ q, wr = w.drewN q) (fun i _ => n - (intOf i).toNat)
    case atStart => exact ⟨0, Nat.zero_le _, rfl, by simp, 0, rfl⟩
    case round =>
      obtain ⟨k, hk, rfl, htk, q, rfl⟩ := hrel
      have HTK : Hid (xs.take k = ys.take k) := htk
      clear htk
      by_cases hlt : k < n
      · obtain ⟨b1, o1, s, e1, hs, hr⟩ := H.out.at hlt
        obtain ⟨b2, o2, s2, e2, hs2, hr2⟩ := H'.out.at hlt
        subst e1 e2
        have HS : Hid (xs[k]? = some s) := hs
        have HS2 : Hid (ys[k]? = some s2) := hs2
        have hb1 : b1 < w.heap.size := World.block_lt_of_cell? w ⟨b1, _, none⟩ hr.1
        have hb2 : b2 < w.heap.size := World.block_lt_of_cell? w ⟨b2, _, none⟩ hr2.1
        clear hs hs2
        obtain ⟨h0, h1, h2, h3, h4, h5, h6, h7⟩ := hr
        obtain ⟨g0, g1, g2, g3, g4, g5, g6, g7⟩ := hr2
        have hlt' : (k : Int) < (n : Int) := by omega
        by_cases hsame : s = s2
        · have HN : Hid (xs.take (k + 1) = ys.take (k + 1)) := by
            show xs.take (k + 1) = ys.take (k + 1)
            rw [List.take_add_one, List.take_add_one, HTK.out, HS.out, HS2.out, hsame]
          have hd : decide (s = s2) = true := decide_eq_true hsame
          skip
          clear hsame
          go_wp2
          go_quiet (fail)
          go_wp2
          exact ⟨⟨k + 1, by omega, by go_num, HN.out, _, rfl⟩, by simp [intOf]; omega⟩
        · have HE : Hid (t = false) := by
            show t = false
            rw [← HT.out]
            refine decide_eq_false (fun e => hsame ?_)
            have h1 := HS.out
            rw [e, HS2.out] at h1
            exact (Option.some.inj h1).symm
          have hd : decide (s = s2) = false := decide_eq_false hsame
          skip
          clear hsame
          go_wp2
          go_quiet (fail)
          go_wp2
          go_ret
          exact ⟨by rw [HE.out]; rfl, bdN (bdN (Below.refl _ _) _) _⟩
      · have hkn : k = n := by omega
        subst hkn
        have HE : Hid (t = true) := by
          show t = true
          rw [← HT.out]
          refine decide_eq_true ?_
          have := HTK.out
          rw [List.take_of_length_le (by rw [HX.out]; exact Nat.le_refl _), List.take_of_length_le (by rw [HY.out]; exact Nat.le_refl _)] at this
          exact this
        go_wp2
        go_ret
        exact ⟨by rw [HE.out]; rfl, bdN (Below.refl _ _) _⟩
  · have HE : Hid (decide (xs = ys) = false) := decide_eq_false (fun e => hnm (by rw [← HX.out, ← HY.out, e]))
    rw [HE.out]
    have hnb : ((n : Int) != (m : Int)) = true := by simp; omega
    have hnm' : ¬ ((n : Int) = (m : Int)) := by omega
    go_enter Tryz.func67, Tryz.ntmps67
    go_wp2
    go_ret
    exact ⟨rfl, Below.refl _ _⟩

set_option maxHeartbeats 1000000 in
theorem slEqParts_c (a b : Option Addr) (n m ca cb : Nat) (xs ys : List PartI) (w : World) (hn : n ≤ 1048576) (hm : m ≤ 1048576) (h : PartsIn w a n xs) (h' : PartsIn w b m ys) :
    Calls Tryz.prog 98 #[.slice a n ca, .slice b m cb] w fun e w' => e = .returned (.bool (decide (xs = ys))) ∧ Below w.heap.size w w' := by
  have H : Hid (PartsIn w a n xs) := h
  have H' : Hid (PartsIn w b m ys) := h'
  have HX : Hid (xs.length = n) := h.1
  have HY : Hid (ys.length = m) := h'.1
  clear h h'
  have hn' : (n : Int) ≤ 1048576 := by omega
  have hm' : (m : Int) ≤ 1048576 := by omega
  by_cases hnm : n = m
  · subst hnm
    obtain ⟨t, ht⟩ : ∃ t, decide (xs = ys) = t := ⟨_, rfl⟩
    have HT : Hid (decide (xs = ys) = t) := ht
    rw [ht]
    clear ht
    go_enter Tryz.func98, Tryz.ntmps98
    go_wp2
    go_loopw [13] (fun i wr => ∃ k : Nat, k ≤ n ∧ i = .int .i64 (k : Int) ∧ xs.take k = ys.take k ∧ ∃ q, wr = w.drewN q) (fun i _ => n - (intOf i).toNat)
    case atStart => exact ⟨0, Nat.zero_le _, rfl, by simp, 0, rfl⟩
    case round =>
      obtain ⟨k, hk, rfl, htk, q, rfl⟩ := hrel
      have HTK : Hid (xs.take k = ys.take k) := htk
      clear htk
      by_cases hlt : k < n
      · obtain ⟨b1, o1, s, e1, hs, hr⟩ := H.out.at hlt
        obtain ⟨b2, o2, s2, e2, hs2, hr2⟩ := H'.out.at hlt
        subst e1 e2
        have HS : Hid (xs[k]? = some s) := hs
        have HS2 : Hid (ys[k]? = some s2) := hs2
        have hb1 : b1 < w.heap.size := World.block_lt_of_cell? w ⟨b1, _, none⟩ hr.1
        have hb2 : b2 < w.heap.size := World.block_lt_of_cell? w ⟨b2, _, none⟩ hr2.1
        clear hs hs2
        obtain ⟨h0, h1, h2, h3, h4⟩ := hr
        obtain ⟨g0, g1, g2, g3, g4⟩ := hr2
        have hlt' : (k : Int) < (n : Int) := by omega
        by_cases hsame : s = s2
        · have HN : Hid (xs.take (k + 1) = ys.take (k + 1)) := by
            show xs.take (k + 1) = ys.take (k + 1)
            rw [List.take_add_one, List.take_add_one, HTK.out, HS.out, HS2.out, hsame]
          have hd : decide (s = s2) = true := decide_eq_true hsame
          skip
          clear hsame
          go_wp2
          go_quiet (fail)
          go_wp2
          exact ⟨⟨k + 1, by omega, by go_num, HN.out, _, rfl⟩, by simp [intOf]; omega⟩
        · have HE : Hid (t = false) := by
            show t = false
            rw [← HT.out]
            refine decide_eq_false (fun e => hsame ?_)
            have h1 := HS.out
            rw [e, HS2.out] at h1
            exact (Option.some.inj h1).symm
          have hd : decide (s = s2) = false := decide_eq_false hsame
          skip
          clear hsame
          go_wp2
          go_quiet (fail)
          go_wp2
          go_ret
          exact ⟨by rw [HE.out]; rfl, bdN (bdN (Below.refl _ _) _) _⟩
      · have hkn : k = n := by omega
        subst hkn
        have HE : Hid (t = true) := by
          show t = true
          rw [← HT.out]
          refine decide_eq_true ?_
          have := HTK.out
          rw [List.take_of_length_le (by rw [HX.out]; exact Nat.le_refl _), List.take_of_length_le (by rw [HY.out]; exact Nat.le_refl _)] at this
          exact this
        go_wp2
        go_ret
        exact ⟨by rw [HE.out]; rfl, bdN (Below.refl _ _) _⟩
  · have HE : Hid (decide (xs = ys) = false) := decide_eq_false (fun e => hnm (by rw [← HX.out, ← HY.out, e]))
    rw [HE.out]
    have hnb : ((n : Int) != (m : Int)) = true := by simp; omega
    have hnm' : ¬ ((n : Int) = (m : Int)) := by omega
    go_enter Tryz.func98, Tryz.ntmps98
    go_wp2
    go_ret
    exact ⟨rfl, Below.refl _ _⟩

set_option maxHeartbeats 1000000 in
theorem slEqInts_c (a b : Option Addr) (n m ca cb : Nat) (xs ys : List Int) (w : World) (hn : n ≤ 1048576) (hm : m ≤ 1048576) (h : IntIn w a n xs) (h' : IntIn w b m ys) :
    Calls Tryz.prog 99 #[.slice a n ca, .slice b m cb] w fun e w' => e = .returned (.bool (decide (xs = ys))) ∧ Below w.heap.size w w' := by
  have H : Hid (IntIn w a n xs) := h
  have H' : Hid (IntIn w b m ys) := h'
  have HX : Hid (xs.length = n) := h.1
  have HY : Hid (ys.length = m) := h'.1
  clear h h'
  have hn' : (n : Int) ≤ 1048576 := by omega
  have hm' : (m : Int) ≤ 1048576 := by omega
  by_cases hnm : n = m
  · subst hnm
    obtain ⟨t, ht⟩ : ∃ t, decide (xs = ys) = t := ⟨_, rfl⟩
    have HT : Hid (decide (xs = ys) = t) := ht
    rw [ht]
    clear ht
    go_enter Tryz.func99, Tryz.ntmps99
    go_wp2
    go_loopw [13] (fun i wr => ∃ k : Nat, k ≤ n ∧ i = .int .i64 (k : Int) ∧ xs.take k = ys.take k ∧ ∃ q, wr = w.drewN q) (fun i _ => n - (intOf i).toNat)
    case atStart => exact ⟨0, Nat.zero_le _, rfl, by simp, 0, rfl⟩
    case round =>
      obtain ⟨k, hk, rfl, htk, q, rfl⟩ := hrel
      have HTK : Hid (xs.take k = ys.take k) := htk
      clear htk
      by_cases hlt : k < n
      · obtain ⟨b1, o1, s, e1, hs, h0, hb1⟩ := H.out.at hlt
        obtain ⟨b2, o2, s2, e2, hs2, g0, hb2⟩ := H'.out.at hlt
        subst e1 e2
        have HS : Hid (xs[k]? = some s) := hs
        have HS2 : Hid (ys[k]? = some s2) := hs2
        clear hs hs2
        have hlt' : (k : Int) < (n : Int) := by omega
        by_cases hsame : s = s2
        · have HN : Hid (xs.take (k + 1) = ys.take (k + 1)) := by
            show xs.take (k + 1) = ys.take (k + 1)
            rw [List.take_add_one, List.take_add_one, HTK.out, HS.out, HS2.out, hsame]
          have hd : decide (s = s2) = true := decide_eq_true hsame
          have hdb : (s != s2) = !decide (s = s2) := by cases q : decide (s = s2) <;> simp_all
          clear hsame
          go_wp2
          go_quiet (fail)
          go_wp2
          exact ⟨⟨k + 1, by omega, by go_num, HN.out, _, rfl⟩, by simp [intOf]; omega⟩
        · have HE : Hid (t = false) := by
            show t = false
            rw [← HT.out]
            refine decide_eq_false (fun e => hsame ?_)
            have h1 := HS.out
            rw [e, HS2.out] at h1
            exact (Option.some.inj h1).symm
          have hd : decide (s = s2) = false := decide_eq_false hsame
          have hdb : (s != s2) = !decide (s = s2) := by cases q : decide (s = s2) <;> simp_all
          clear hsame
          go_wp2
          go_quiet (fail)
          go_wp2
          go_ret
          exact ⟨by rw [HE.out]; rfl, bdN (bdN (Below.refl _ _) _) _⟩
      · have hkn : k = n := by omega
        subst hkn
        have HE : Hid (t = true) := by
          show t = true
          rw [← HT.out]
          refine decide_eq_true ?_
          have := HTK.out
          rw [List.take_of_length_le (by rw [HX.out]; exact Nat.le_refl _), List.take_of_length_le (by rw [HY.out]; exact Nat.le_refl _)] at this
          exact this
        go_wp2
        go_ret
        exact ⟨by rw [HE.out]; rfl, bdN (Below.refl _ _) _⟩
  · have HE : Hid (decide (xs = ys) = false) := decide_eq_false (fun e => hnm (by rw [← HX.out, ← HY.out, e]))
    rw [HE.out]
    have hnb : ((n : Int) != (m : Int)) = true := by simp; omega
    have hnm' : ¬ ((n : Int) = (m : Int)) := by omega
    go_enter Tryz.func99, Tryz.ntmps99
    go_wp2
    go_ret
    exact ⟨rfl, Below.refl _ _⟩

end Go.Proofs.YtaeigimgobilaaaGreatDoor
