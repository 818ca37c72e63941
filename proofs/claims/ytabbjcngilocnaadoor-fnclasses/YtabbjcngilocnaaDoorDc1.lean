/-
  CONTRACTS: spec.l5Right: locks drawn from a source.
  Conditions: each contract bears its own.
-/
import Derived.Test.YtabbjcngilocnaaDoorDc0
import Derived.Test.YtabbjcngilocnaaDoorTn0
import Derived.Test.YtabbjcngilocnaaDoorTp0
namespace Go.Proofs.YtabbjcngilocnaaDoor
open Go.RowKit
set_option linter.unusedVariables false
set_option linter.unusedSimpArgs false

/-- l5Take at a row of one's own, nil or not. -/
theorem l5Take_own (B : Nat) (a : Option Addr) (cap : Nat) (b : Option Addr) (m cap2 : Nat) (gs ys : List LkI) (w : World) (ho : OwnLk w B (.slice a gs.length cap) gs) (hn : gs.length ≤ 200) (hm : m ≤ 100) (hy : LkIn w b m ys) (hs : SL gs) (hok : ∀ x ∈ gs, okL x = true) (hys : SL ys) (hyo : ∀ x ∈ ys, okL x = true) :
    GivesL 26 #[.slice a gs.length cap, .slice b m cap2] (tkCode gs ys) (tkL gs ys) w := by
  rcases ho.form with ⟨e, e2⟩ | ⟨g, c2, e, _, hg, _⟩
  · subst e2
    cases e
    exact l5Take_nil b m cap2 ys w hm hy hys hyo
  · cases e
    exact l5Take_c g 0 gs.length cap b m cap2 gs ys w hn hm (ho.view.isIn rfl) hg hy hs hok hys hyo

/-- Locks being drawn. -/
structure LR (w wr : World) (B : Nat) (a : Option Addr) (len cap kk : Nat) (ys : List Int) (a' : Option Addr) (cp : Nat) (L : List LkI) : Prop where
  ow : OwnLk wr w.heap.size (.slice a' L.length cp) L
  ds : DS w wr B a len cap kk ys
  sl : SL L
  ok : ∀ x ∈ L, okL x = true
  ln : L.length ≤ 200

theorem LR.draw {w wr wr' : World} {B : Nat} {a : Option Addr} {len cap kk k' : Nat} {ys : List Int} {a' : Option Addr} {cp : Nat} {L : List LkI} (h : LR w wr B a len cap kk ys a' cp L) (hB : B < w.heap.size) (hs : SrcAt wr' B a len cap k' ys) (hg : wr.grownBy wr' (some B)) : LR w wr' B a len cap k' ys a' cp L :=
  ⟨ownLk_kept h.ow hg hB, h.ds.draw hs hg, h.sl, h.ok, h.ln⟩

theorem DS.below {w wx wy : World} {B : Nat} {a : Option Addr} {len cap k : Nat} {ys : List Int} (h : DS w wx B a len cap k ys) (hb : Below wx.heap.size wx wy) : DS w wy B a len cap k ys := by
  have hg : wx.grownBy wy none := ⟨hb.os, hb.tape, hb.output, hb.size, fun i hi _ => hb.block i hi⟩
  exact ⟨h.src.below hb, grown_trans h.gr (grown_none hg _)⟩

theorem LR.below {w wr wr' : World} {B : Nat} {a : Option Addr} {len cap kk : Nat} {ys : List Int} {a' : Option Addr} {cp : Nat} {L : List LkI} (h : LR w wr B a len cap kk ys a' cp L) (hb : Below wr.heap.size wr wr') : LR w wr' B a len cap kk ys a' cp L :=
  ⟨h.ow.below hb, h.ds.below hb, h.sl, h.ok, h.ln⟩

theorem two_ok (e f s : Int) (he : 1 ≤ e ∧ e ≤ 9) (hf : 1 ≤ f ∧ f ≤ 4) (hs : 0 ≤ s ∧ s ≤ 255) : needCode [3, 6] e f s = 0 := by
  have h1 : clCode [3, 6] = 0 := by decide
  have h2 : inR e 1 9 = true := (inR_iff _ _ _).2 he
  have h3 : inR f 1 4 = true := (inR_iff _ _ _).2 hf
  have h4 : inR s 0 255 = true := (inR_iff _ _ _).2 hs
  simp [needCode, h1, h2, h3, h4]

set_option maxRecDepth 20000 in
set_option maxHeartbeats 4000000 in
theorem right_c (w : World) (B : Nat) (a : Option Addr) (len cap k0 : Nat) (ys : List Int) (h : SrcAt w B a len cap k0 ys) (hl : len ≤ 1048576) (hk0 : k0 ≤ 700) :
    Calls Tryd.prog 42 #[.pointer (some ⟨B, 0, none⟩)] w fun e w' => ∃ (a' : Option Addr) (cp kk : Nat) (L : List LkI), e = .returned (.slice a' L.length cp) ∧ kk ≤ k0 + 30 ∧ LR w w' B a len cap kk ys a' cp L := by
  have hB := h.lt
  have D0 : Hid (DS w (w.alloc (.cells #[] 36)) B a len cap k0 ys) := (DS.start h).alloc _
  have O0 : Hid ((w.alloc (.cells #[] 36)).ownsRow w.heap.size 36 4 (.slice (some ⟨w.heap.size, 0, none⟩) 0 0) 0 []) := World.ownsRow_lit (base := w.heap.size) (e := 36) (size := 4) w #[] 0 (Nat.le_refl _) (Nat.zero_le _) rfl
  clear h
  go_enter Tryd.func42, Tryd.ntmps42
  go_wp2_with fail
  refine (next_c _ B a len cap k0 ys 6 D0.out.src hl (by omega) (by omega) (by omega)).mono ?_
  rintro e w1 ⟨v1, x0, x1, rfl, hS1, hG1⟩
  have L1 : Hid (LR w w1 B a len cap (k0 + 1) ys (some ⟨w.heap.size, 0, none⟩) 0 []) := ⟨World.ownsRow.kept (row := some B) O0.out hG1 (.inr (by simp [Value.ownBlock]; omega)), D0.out.draw hS1 hG1, List.Pairwise.nil, by simp, by simp⟩
  obtain ⟨r1, rfl⟩ := Int.eq_ofNat_of_zero_le x0
  clear hS1 hG1 D0 O0
  go_wp2_with fail
  go_loopw [3, 4] (fun v i wr => ∃ (a' : Option Addr) (cp kk r : Nat) (L : List LkI), v = .slice a' L.length cp ∧ i = .int .i64 (r : Int) ∧ r ≤ 5 ∧ kk + 4 * r ≤ k0 + 21 ∧ Hid (LR w wr B a len cap kk ys a' cp L)) (fun _ i _ => (intOf i).toNat)
  case atStart => exact ⟨_, 0, k0 + 1, r1, [], rfl, rfl, by omega, by omega, L1.out⟩
  case round =>
    obtain ⟨a', cp, kk, r, L, rfl, rfl, hr5, hkr, HL⟩ := hrel
    by_cases hr : 0 < r
    · have hr' : (0 : Int) < (r : Int) := by omega
      have A2 : Below wr.heap.size wr (wr.alloc (.cells #[.int .i64 3, .int .i64 6] 2)) := (Below.refl _ _).alloc (Nat.le_refl _) _
      have HL2 : Hid (LR w (wr.alloc (.cells #[.int .i64 3, .int .i64 6] 2)) B a len cap kk ys a' cp L) := HL.out.below A2
      have I2 : Hid (IntsAt (wr.alloc (.cells #[.int .i64 3, .int .i64 6] 2)) wr.heap.size [3, 6]) := fun k x hx => by
        match k with
        | 0 => simp at hx; subst hx; simp
        | 1 => simp at hx; subst hx; simp
        | k + 2 => simp at hx
      have hwr : Hid (w.heap.size ≤ wr.heap.size) := HL.out.ds.gr.size
      clear A2 HL
      go_wp2_with fail
      generalize wr.alloc (.cells #[.int .i64 3, .int .i64 6] 2) = w2 at HL2 I2 ⊢
      refine (next_c _ B a len cap kk ys 2 HL2.out.ds.src hl (by omega) (by omega) (by omega)).mono ?_
      rintro e w3 ⟨v, v0, v1, rfl, hS3, hG3⟩
      have HL3 : Hid (LR w w3 B a len cap (kk + 1) ys a' cp L) := HL2.out.draw hB hS3 hG3
      have I3 : Hid (IntsAt w3 wr.heap.size [3, 6]) := fun k x hx => hG3.cell (I2.out k x hx) (by have := hwr.out; simp; omega)
      have hw3 : IntKind.i64.wrap (1 + v) = 1 + v := by rw [IntKind.wrap_i64]; omega
      clear hS3 hG3 HL2 I2
      go_wp2_with fail
      refine (next_c _ B a len cap (kk + 1) ys 3 HL3.out.ds.src hl (by omega) (by omega) (by omega)).mono ?_
      rintro e w4 ⟨u, u0, u1, rfl, hS4, hG4⟩
      have HL4 : Hid (LR w w4 B a len cap (kk + 1 + 1) ys a' cp L) := HL3.out.draw hB hS4 hG4
      have I4 : Hid (IntsAt w4 wr.heap.size [3, 6]) := fun k x hx => hG4.cell (I3.out k x hx) (by have := hwr.out; simp; omega)
      have hw4 : IntKind.i64.wrap (1 + u) = 1 + u := by rw [IntKind.wrap_i64]; omega
      clear hS4 hG4 HL3 I3
      go_wp2_with fail
      refine (draw_c _ B a len cap (kk + 1 + 1) ys HL4.out.ds.src hl (by omega)).mono ?_
      rintro e w5 ⟨s, s0, s1, rfl, hS5, hG5⟩
      have HL5 : Hid (LR w w5 B a len cap (kk + 1 + 1 + 2) ys a' cp L) := HL4.out.draw hB hS5 hG5
      have I5 : Hid (IntsAt w5 wr.heap.size [3, 6]) := fun k x hx => hG5.cell (I4.out k x hx) (by have := hwr.out; simp; omega)
      clear hS5 hG5 HL4 I4
      have hN := need_okL (two_ok (1 + v) (1 + u) s ⟨by omega, by omega⟩ ⟨by omega, by omega⟩ ⟨s0, s1⟩)
      have HN : Hid (SL (needTo [3, 6] (1 + v) (1 + u) s 2) ∧ (∀ x ∈ needTo [3, 6] (1 + v) (1 + u) s 2, okL x = true) ∧ (needTo [3, 6] (1 + v) (1 + u) s 2).length ≤ 100) := ⟨hN.1, hN.2, by have := needTo_len [3, 6] (1 + v) (1 + u) s 2; omega⟩
      clear hN
      go_wp2_with fail
      refine (l5Needs_c _ 2 2 [3, 6] (1 + v) (1 + u) s _ (IntIn.of rfl I5.out) (by decide) (by omega) (by omega) (by omega) s0 s1).mono ?_
      rintro e w6 ⟨g6, c6, rfl, hown6, hb6⟩
      generalize needTo [3, 6] (1 + v) (1 + u) s 2 = nd at HN hown6 ⊢
      have HL6 : Hid (LR w w6 B a len cap (kk + 1 + 1 + 2) ys a' cp L) := HL5.out.below hb6
      have N6 : Hid (LkIn w6 (some ⟨g6, 0, none⟩) nd.length nd) := hown6.view.isIn rfl
      clear hown6 hb6 HL5 I5 v0 v1 u0 u1 hw3 hw4
      go_wp2_with fail
      refine (l5Take_own w.heap.size a' cp _ nd.length c6 L nd _ HL6.out.ow HL6.out.ln HN.out.2.2 N6.out HL6.out.sl HL6.out.ok HN.out.1 HN.out.2.1).mono ?_
      rintro e w7 ⟨a7, cap7, rfl, hown7, hb7⟩
      have hkp := tk_keeps HL6.out.sl HL6.out.ok HN.out.1 HN.out.2.1
      generalize hcode : tkCode L nd = ct at hown7 ⊢
      generalize tkL L nd = L7 at hkp hown7 ⊢
      have A8 : Below w7.heap.size w7 (w7.alloc (.cells #[.int .i64 ct, .slice a7 L7.length cap7] 29)) := (Below.refl _ _).alloc (Nat.le_refl _) _
      have hb8 := hb7.trans (A8.mono hb7.size)
      have HL8 : Hid (LR w (w7.alloc (.cells #[.int .i64 ct, .slice a7 L7.length cap7] 29)) B a len cap (kk + 1 + 1 + 2) ys a' cp L) := HL6.out.below hb8
      have HM8 : Hid (LR w (w7.alloc (.cells #[.int .i64 ct, .slice a7 L7.length cap7] 29)) B a len cap (kk + 1 + 1 + 2) ys a7 cap7 L7) := ⟨ownLk_lower (hown7.below A8) HL6.out.ds.gr.size, HL8.out.ds, hkp.1, hkp.2.1, hkp.2.2⟩
      have X8 : Hid (Box2 (w7.alloc (.cells #[.int .i64 ct, .slice a7 L7.length cap7] 29)) w7.heap.size (.int .i64 ct) (.slice a7 L7.length cap7)) := Box2.new _ _ _ _
      clear hown7 hb7 A8 hb8 hkp HL6 N6 HN hcode
      go_upto_region 6 with fail
      generalize w7.alloc (.cells #[.int .i64 ct, .slice a7 L7.length cap7] 29) = w8 at HL8 HM8 X8 ⊢
      obtain ⟨y0, y1⟩ := X8.out
      by_cases e0 : ct = 0
      · subst e0
        go_wp2
        exact ⟨⟨a7, cap7, _, r - 1, L7, rfl, by simp; omega, by omega, by omega, HM8⟩, by simp [intOf]; omega⟩
      · have eb : (ct == 0) = false := by simpa using e0
        go_wp2
        exact ⟨⟨a', cp, _, r - 1, L, rfl, by simp; omega, by omega, by omega, HL8⟩, by simp [intOf]; omega⟩
    · have hr0 : r = 0 := by omega
      subst hr0
      go_wp2
      go_ret
      exact ⟨a', cp, kk, L, rfl, by omega, HL.out⟩

end Go.Proofs.YtabbjcngilocnaaDoor
