/-
  CONTRACTS: spec.l6Fault at a configuration that lies in a row.
  Conditions: each contract bears its own.
-/
import Derived.Test.YteknjkifgnfjgaaCf2
namespace Go.Proofs.Yteknjkifgnfjgaa
open Go.RowKit
set_option linter.unusedVariables false
set_option linter.unusedSimpArgs false

/-- A configuration's five cells, from an offset on. -/
def ConfAtO (w : World) (g o : Nat) (c : ConfI) : Prop := w.cell? ⟨g, o, none⟩ = some (.int .i64 c.e) ∧ w.cell? ⟨g, o + 1, none⟩ = some (.int .i64 c.f) ∧ w.cell? ⟨g, o + 2, none⟩ = some (.slice c.ra c.rn c.rc) ∧ w.cell? ⟨g, o + 3, none⟩ = some (.slice c.fa c.fn c.fc) ∧ w.cell? ⟨g, o + 4, none⟩ = some (.slice c.ca c.cn c.cc)

theorem ConfAtO.lt {w : World} {g o : Nat} {c : ConfI} (h : ConfAtO w g o c) : g < w.heap.size := World.block_lt_of_cell? w ⟨g, o, none⟩ h.1

theorem ConfAtO.below {w w' : World} {g o : Nat} {c : ConfI} (h : ConfAtO w g o c) (hb : Below w.heap.size w w') : ConfAtO w' g o c := by
  obtain ⟨h0, h1, h2, h3, h4⟩ := h
  have hl := World.block_lt_of_cell? w ⟨g, o, none⟩ h0
  exact ⟨(hb.cell (p := ⟨g, o, none⟩) hl).trans h0, (hb.cell (p := ⟨g, o + 1, none⟩) hl).trans h1, (hb.cell (p := ⟨g, o + 2, none⟩) hl).trans h2, (hb.cell (p := ⟨g, o + 3, none⟩) hl).trans h3, (hb.cell (p := ⟨g, o + 4, none⟩) hl).trans h4⟩

set_option maxRecDepth 20000 in
set_option maxHeartbeats 2000000 in
theorem l6Fault_o (g o : Nat) (c : ConfI) (w : World) (hle : ConfLe 1048576 c) (hk : ConfAtO w g o c) (h : ConfIn w c) :
    Calls Try.prog 30 #[.pointer (some ⟨g, o, none⟩)] w fun e w' => e = .returned (.int .i64 (cfCode c.e c.f c.zs (partsL c.fs) c.cs)) ∧ Below w.heap.size w w' := by
  obtain ⟨t1, h1⟩ : ∃ t, inR c.e 1 9 = t := ⟨_, rfl⟩
  obtain ⟨t2, h2⟩ : ∃ t, inR c.f 1 2 = t := ⟨_, rfl⟩
  have H1 : Hid (inR c.e 1 9 = t1) := h1
  have H2 : Hid (inR c.f 1 2 = t2) := h2
  have hg : g < w.heap.size := hk.lt
  have HK : Hid (ConfAtO w g o c) := hk
  obtain ⟨k0, k1, k2, k3, k4⟩ := hk
  cases t1
  · have HV : Hid (cfCode c.e c.f c.zs (partsL c.fs) c.cs = 3) := by show cfCode _ _ _ _ _ = 3; unfold cfCode; rw [if_pos h1]
    clear h1 h2 h
    go_enter Try.func30, Try.ntmps30
    go_wp2_with (first | (go_at_call 38; refine (sEpoch_c _ _).mono ?_; rintro e w' ⟨rfl, rfl⟩; rw [H1.out]))
    go_ret
    exact ⟨by rw [HV.out]; rfl, by go_grown⟩
  · cases t2
    · have HV : Hid (cfCode c.e c.f c.zs (partsL c.fs) c.cs = 3) := by show cfCode _ _ _ _ _ = 3; unfold cfCode; rw [if_neg (by simp [h1]), if_pos h2]
      clear h1 h2 h
      go_enter Try.func30, Try.ntmps30
      go_wp2_with (first | (go_at_call 38; refine (sEpoch_c _ _).mono ?_; rintro e w' ⟨rfl, rfl⟩; rw [H1.out]) | (go_at_call 39; refine (l6F_c _ _).mono ?_; rintro e w' ⟨rfl, rfl⟩; rw [H2.out]))
      go_ret
      exact ⟨by rw [HV.out]; rfl, by go_grown⟩
    · have HV : Hid (cfCode c.e c.f c.zs (partsL c.fs) c.cs = orJ (polCode c.zs) (orJ (fmCode (partsL c.fs)) (clCode c.cs))) := by show cfCode _ _ _ _ _ = _; unfold cfCode; rw [if_neg (by simp [h1]), if_neg (by simp [h2])]
      rw [HV.out]
      have HLE : Hid (ConfLe 1048576 c) := hle
      have H : Hid (ConfIn w c) := h
      clear h1 h2 h hle
      obtain ⟨p, hp⟩ : ∃ p, polCode c.zs = p := ⟨_, rfl⟩
      obtain ⟨r, hr⟩ : ∃ r, clCode c.cs = r := ⟨_, rfl⟩
      have HP : Hid (Calls Try.prog 40 #[.slice c.ra c.rn c.rc] w fun e w' => e = .returned (.int .i64 p) ∧ Below w.heap.size w w') := by rw [← hp]; exact l2Fault_c c.ra c.rn c.rc c.zs w HLE.out.rules H.out.rules
      have HR : Hid (∀ w2 : World, Below w.heap.size w w2 → Calls Try.prog 42 #[.slice c.ca c.cn c.cc] w2 fun e w' => e = .returned (.int .i64 r) ∧ w2 = w') := fun w2 q => by rw [← hr]; exact l5Classes_c c.ca c.cn c.cc c.cs w2 (H.out.classes.below q)
      rw [hp, hr]
      clear hp hr
      have HZ : Hid ((partsL c.fs).length = c.fn) := by show (partsL c.fs).length = c.fn; rw [partsL_len]; exact H.out.forms.1
      have hfn : (c.fn : Int) ≤ 1048576 := by have := HLE.out.forms; omega
      go_enter Try.func30, Try.ntmps30
      go_wp2_with (first | (go_at_call 38; refine (sEpoch_c _ _).mono ?_; rintro e w' ⟨rfl, rfl⟩; rw [H1.out]) | (go_at_call 39; refine (l6F_c _ _).mono ?_; rintro e w' ⟨rfl, rfl⟩; rw [H2.out]) | fail)
      refine HP.out.mono ?_
      rintro e w1 ⟨rfl, hb1⟩
      obtain ⟨d0, d1, d2, d3, d4⟩ := HK.out.below hb1
      have hg1 : g < w1.heap.size := by have := hb1.size; omega
      clear k0 k1 k2 k3 k4 d0 d1 d2
      by_cases p0 : p = 0
      · have pb : (p != 0) = false := by simp [p0]
        have HPO : Hid (∀ x, orJ p x = x) := fun x => by simp [orJ, p0]
        clear p0
        by_cases h4 : 4 < c.fn
        · have HC : Hid (fmCode (partsL c.fs) = 2) := by show fmCode (partsL c.fs) = 2; unfold fmCode; rw [if_pos (by rw [HZ.out]; exact h4)]
          have h4' : (4 : Int) < (c.fn : Int) := by omega
          go_wp2
          go_ret
          exact ⟨by rw [HPO.out, HC.out]; rfl, hb1⟩
        · have HC : Hid (fmCode (partsL c.fs) = fmTo (partsL c.fs) c.fn) := by show fmCode (partsL c.fs) = fmTo (partsL c.fs) c.fn; unfold fmCode; rw [if_neg (by rw [HZ.out]; exact h4), HZ.out]
          have h4' : (c.fn : Int) ≤ 4 := by omega
          go_wp2
          go_loopw [4] (fun i wr => ∃ k : Nat, k ≤ c.fn ∧ i = .int .i64 (k : Int) ∧ fmTo (partsL c.fs) k = 0 ∧ Below w.heap.size w wr) (fun i _ => c.fn - (intOf i).toNat)
          case atStart => exact ⟨0, Nat.zero_le _, rfl, rfl, hb1⟩
          case round =>
            obtain ⟨k, hk, rfl, hz, hnx⟩ := hrel
            have HK0 : Hid (fmTo (partsL c.fs) k = 0) := hz
            obtain ⟨m0, m1, m2, m3, m4⟩ := HK.out.below hnx
            have hgr : g < wr.heap.size := by have := hnx.size; omega
            clear hz d3 d4 m0 m1 m2
            by_cases hlt : k < c.fn
            · obtain ⟨b, off, x, hfa, hs, hr⟩ := H.out.forms.at hlt
              have HS : Hid ((partsL c.fs)[k]? = some x.ps) := partsL_at hs
              have hx : x.n ≤ 1048576 := HLE.out.parts k x hs
              have hb : b < w.heap.size := hr.lt
              have hc := (hr.below hnx).1
              have HPI : Hid (PartsIn wr x.a x.n x.ps) := (hr.below hnx).2
              rw [hfa] at m3
              have hbr : b < wr.heap.size := by have := hnx.size; omega
              clear hs hr hfa
              have hlt' : (k : Int) < (c.fn : Int) := by omega
              obtain ⟨q, hq⟩ : ∃ q, ptCode x.ps = q := ⟨_, rfl⟩
              go_wp2_with fail
              refine (l4Fault_c x.a x.n x.cap x.ps _ (by unfold maxLen; omega) HPI.out).mono ?_
              rintro e w2 ⟨rfl, hb2⟩
              rw [hq]
              have hb02 : Below w.heap.size w w2 := hnx.trans (hb2.mono hnx.size)
              have HQ : Hid (fmTo (partsL c.fs) (k + 1) = q) := by show fmTo (partsL c.fs) (k + 1) = q; rw [fmTo_next HS.out HK0.out]; exact hq
              clear hc hq hb2 m3 m4
              by_cases q0 : q = 0
              · have qb : (q != 0) = false := by simp [q0]
                have HQ0 : Hid (q = 0) := q0
                clear q0
                go_wp2
                exact ⟨⟨k + 1, by omega, by go_num, by rw [HQ.out]; exact HQ0.out, hb02⟩, by simp [intOf]; omega⟩
              · have qb : (q != 0) = true := by simp [q0]
                have HE : Hid (orJ (fmCode (partsL c.fs)) r = q) := by
                  show orJ _ _ = _
                  rw [HC.out, fmTo_stay _ _ c.fn _ q0 HQ.out (by omega)]
                  simp [orJ, q0]
                go_wp2
                go_ret
                exact ⟨by rw [HPO.out, HE.out]; rfl, hb02⟩
            · have hkn : k = c.fn := by omega
              have HE : Hid (orJ (fmCode (partsL c.fs)) r = r) := by
                show orJ _ _ = _
                rw [HC.out, ← hkn, HK0.out]
                simp [orJ]
              have hlt' : ¬ ((k : Int) < (c.fn : Int)) := by omega
              clear hkn
              go_wp2_with fail
              refine (HR.out _ hnx).mono ?_
              rintro e w2 ⟨rfl, rfl⟩
              go_wp2
              go_ret
              exact ⟨by rw [HPO.out, HE.out]; rfl, hnx⟩
      · have pb : (p != 0) = true := by simp [p0]
        have HPO : Hid (∀ x, orJ p x = p) := fun x => by simp [orJ, p0]
        clear p0
        go_wp2
        go_ret
        exact ⟨by rw [HPO.out]; rfl, hb1⟩

end Go.Proofs.Yteknjkifgnfjgaa
