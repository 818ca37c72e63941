/- Contracts. -/
import Derived.Test.YtlpgapdlepbgbaaGreatDoorPq15
import Derived.Test.YtlpgapdlepbgbaaGreatDoorPq25
namespace Go.Proofs.YtlpgapdlepbgbaaGreatDoor
set_option maxRecDepth 100000
set_option maxHeartbeats 8000000
open Go.RowKit
set_option linter.unusedVariables false
set_option linter.unusedSimpArgs false

abbrev KR (W W' : World) : Prop := (∀ b o, b < W.heap.size → W'.cell? ⟨b, o, none⟩ = W.cell? ⟨b, o, none⟩) ∧ Below W.heap.size W W'
theorem known_is {E : qH3} {cs : List qA4} {c0 : qA4} (hE : E.es = cs.map (·.e)) (h0 : cs[0]? = some c0) (said : List StI) (e : Int) : qB4 E said e = if e = c0.e then 0 else nextOf (kindAt said 4 (e - 1)) := by
 unfold qB4
 rw [hE]
 have : (cs.map (·.e)).headD 0 = c0.e := by
  cases cs with
  | nil => cases h0
  | cons x r => simp at h0; subst h0; rfl
 rw [this]
theorem l8Of_c (E : qH3) (b : Nat) (r : qG5) (a : Option Addr) (m cap : Nat) (cs : List qA4) (e : Int) (w : World) (hE : E.es = cs.map (·.e)) (hx : qF8 w b r) (h : StIn w r.sa r.sn r.ss) (hn : r.sn ≤ 1048576) (hc : qA6 w a m cs) (hm : 0 < m) (hm8 : m ≤ 8) (he : 1 ≤ e ∧ e ≤ 9) :
  Calls Tryz.prog 73 #[.pointer (some ⟨b, 0, none⟩), .slice a m cap, .int .i64 e] w fun d w' => d = .returned (.int .i64 (qB4 E r.ss e)) ∧ Below w.heap.size w w' := by
 obtain ⟨g0, off0, c0, rfl, hc0, hat0, _⟩ := hc.at hm
 rw [known_is hE hc0]
 have hg0 := hat0.lt
 obtain ⟨v0, _⟩ := hat0
 simp only [Nat.zero_mul, Nat.add_zero] at v0
 clear hc hE hc0
 obtain ⟨i, u, sa, n, sc, said, la, ln, lc, ls⟩ := r
 simp only at hx h hn ⊢
 have HZ : Hid (said.length = n) := h.1
 have H : Hid (StIn w sa n said) := h
 have hbl := hx.lt
 obtain ⟨_, _, x2, _⟩ := hx
 have X2 : Hid (w.cell? ⟨b, 2, none⟩ = some (.slice sa n sc)) := x2
 clear h x2
 have hn' : (n : Int) ≤ 1048576 := by omega
 have hm' : (0 : Int) < (m : Int) := by omega
 by_cases q0 : e = c0.e
 ·have b0 : (e == c0.e) = true := by simp [q0]
  rw [if_pos q0]
  clear q0
  go_enter Tryz.func73, Tryz.ntmps73
  go_wp2
  go_ret
  exact ⟨rfl, Below.refl _ _⟩
 ·have b0 : (e == c0.e) = false := by simp [q0]
  rw [if_neg q0]
  clear q0
  obtain ⟨t, ht⟩ : ∃ t, kindAt said 4 (e - 1) = t := ⟨_, rfl⟩
  have HT : Hid (kindAt said 4 (e - 1) = t) := ht
  rw [ht]
  clear ht
  obtain ⟨v, hv⟩ : ∃ v : Int, nextOf t = v := ⟨_, rfl⟩
  have HV : Hid (nextOf t = v) := hv
  rw [hv]
  clear hv
  obtain ⟨he1, he9⟩ := he
  go_enter Tryz.func73, Tryz.ntmps73
  go_wp2
  clear v0 b0
  go_loopw [7] (fun i wr => ∃ j : Nat, j ≤ n ∧ i = .int .i64 (j : Int) ∧ kindAt (said.drop j) 4 (e - 1) = t ∧ Below w.heap.size w wr) (fun i _ => n - (intOf i).toNat)
  case atStart => exact ⟨0, Nat.zero_le _, rfl, HT.out, Below.refl _ _⟩
  case round =>
   obtain ⟨j, hj, rfl, hp, hnx⟩ := hrel
   have x2 := (hnx.cell (p := ⟨b, 2, none⟩) hbl).trans X2.out
   have hbw2 : b < wr.heap.size := Nat.lt_of_lt_of_le hbl hnx.size
   by_cases hlt : j < n
   ·obtain ⟨g, off, x, rfl, hs, hxa, hgl⟩ := H.out.at hlt
    rw [kindAt_drop hs] at hp
    obtain ⟨y0, y1, y2, y3, y4⟩ := hxa.below hnx hgl
    have hbw : g < wr.heap.size := Nat.lt_of_lt_of_le hgl hnx.size
    have hlt' : (j : Int) < (n : Int) := by omega
    clear hs hxa
    by_cases q1 : x.k = 4
    ·have b1 : (x.k == 4) = true := by simp [q1]
     by_cases q2 : x.e = e - 1
     ·have b2 : (x.e == e - 1) = true := by simp [q2]
      rw [if_pos ⟨q1, q2⟩] at hp
      have HP : Hid (x.n = v) := by have := HV.out; rw [← hp] at this; exact this
      clear hp q1 q2
      go_wp2
      go_ret
      exact ⟨by rw [← HP.out]; rfl, hnx⟩
     ·have b2 : (x.e == e - 1) = false := by simp [q2]
      rw [if_neg (fun q => q2 q.2)] at hp
      have HP : Hid (kindAt (said.drop (j + 1)) 4 (e - 1) = t) := hp
      clear hp q1 q2
      go_wp2
      exact ⟨⟨j + 1, by omega, by go_num, HP.out, hnx⟩, by simp [intOf]; omega⟩
    ·have b1 : (x.k == 4) = false := by simp [q1]
     rw [if_neg (fun q => q1 q.1)] at hp
     have HP : Hid (kindAt (said.drop (j + 1)) 4 (e - 1) = t) := hp
     clear hp q1
     go_wp2
     exact ⟨⟨j + 1, by omega, by go_num, HP.out, hnx⟩, by simp [intOf]; omega⟩
   ·have hkn : j = n := by omega
    subst hkn
    rw [List.drop_of_length_le (by rw [HZ.out]; exact Nat.le_refl _)] at hp
    have HP : Hid ((-1 : Int) = v) := by have := HV.out; rw [← hp] at this; exact this
    clear hp
    go_wp2
    go_ret
    exact ⟨by rw [← HP.out]; rfl, hnx⟩
theorem es_at {E : qH3} {cs : List qA4} (hE : E.es = cs.map (·.e)) {k : Nat} {c : qA4} (hc : cs[k]? = some c) : E.es[k]?.getD 0 = c.e := by
 rw [hE, List.getElem?_map, hc]; rfl
theorem l8Next_c (E : qH3) (b : Nat) (r : qG5) (a : Option Addr) (m cap : Nat) (cs : List qA4) (bx : Nat) (x : StI) (w : World) (hE : E.es = cs.map (·.e)) (hr : qF8 w b r) (h : StIn w r.sa r.sn r.ss) (hn : r.sn ≤ 1048576) (hc : qA6 w a m cs) (hm8 : m ≤ 8) (hx : StAt w bx 0 x) (he : 1 ≤ x.e ∧ x.e ≤ 9) (hxn : 0 ≤ x.n ∧ x.n ≤ 7) :
  Calls Tryz.prog 75 #[.pointer (some ⟨b, 0, none⟩), .slice a m cap, .pointer (some ⟨bx, 0, none⟩)] w fun d w' => d = .returned (.int .i64 (qC7 E r.ss x)) ∧ Below w.heap.size w w' := by
 have HK : Hid (∀ w2, KR w w2 → Calls Tryz.prog 101 #[.pointer (some ⟨b, 0, none⟩), .int .i64 x.k, .int .i64 x.e] w2 fun d w' => d = .returned (.bool (kindB r.ss x.k x.e)) ∧ Below w2.heap.size w2 w') := fun w2 q => l8Kind_c b r x.k x.e w2 (hr.below q.2) (h.below q.2) hn
 have hbx : bx < w.heap.size := zL w ⟨bx, 0, none⟩ (by simpa using hx.1)
 have HC : Hid (qA6 w a m cs) := hc
 have HL : Hid (E.es.length = m) := by show E.es.length = m; rw [hE, List.length_map]; exact hc.len
 have HE : Hid (E.es = cs.map (·.e)) := hE
 have HX : Hid (StAt w bx 0 x) := hx
 obtain ⟨x0, x1, x2, x3, x4⟩ := hx
 simp only [Nat.zero_add] at x0 x1 x2 x3 x4
 clear hr h hc hE x2 x3
 have hm' : (m : Int) ≤ 8 := by omega
 obtain ⟨he1, he9⟩ := he
 obtain ⟨hn0, hn7⟩ := hxn
 cases hk : kindB r.ss x.k x.e
 ·rw [hk] at HK
  by_cases hl : (m : Int) ≤ x.n
  ·have HV : Hid (qC7 E r.ss x = 3) := by show qC7 E r.ss x = 3; unfold qC7; rw [if_neg (by rw [hk]; simp), if_pos (by rw [HL.out]; exact hl)]
   rw [HV.out]
   clear hk
   go_enter Tryz.func75, Tryz.ntmps75
   go_upto_region 1 with fail
   go_region_held3 (fun w' => KR w w') (first | exact hS | exact qB3 _)
    (first | (go_at_call 101; refine (HK.out _ (by assumption)).mono ?_; rintro d w' ⟨rfl, hb2⟩; have hS := qA5 (by assumption) hb2))
   go_wp2
   go_ret
   exact ⟨rfl, hS.2⟩
  ·obtain ⟨k, hk'⟩ : ∃ k : Nat, x.n = (k : Int) := Int.eq_ofNat_of_zero_le hn0
   have hkm : k < m := by omega
   obtain ⟨g, off, c, rfl, hck, hat, _⟩ := HC.out.at hkm
   have hes := es_at HE.out hck
   have hgl := hat.lt
   have HAT : Hid (ConfAtO w g (off + k * 5) c) := hat
   by_cases hce : c.e = x.e + 1
   ·have HV : Hid (qC7 E r.ss x = 0) := by show qC7 E r.ss x = 0; unfold qC7; rw [if_neg (by rw [hk]; simp), if_neg (by rw [HL.out]; exact hl), hk', Int.toNat_natCast, hes, if_neg (by rw [hce]; simp)]
    have hceb : (c.e != x.e + 1) = false := by simp [hce]
    rw [HV.out]
    rw [hk'] at x4 hl
    have HX4 : Hid (x.n = (k : Int)) := hk'
    clear hk hce hck hat hes hk' hn0 hn7
    have hl' : ¬ ((m : Int) ≤ (k : Int)) := hl
    have hlt' : (k : Int) < (m : Int) := by omega
    go_enter Tryz.func75, Tryz.ntmps75
    go_upto_region 1 with fail
    go_region_held3 (fun w' => KR w w') (first | exact hS | exact qB3 _)
     (first | (go_at_call 101; refine (HK.out _ (by assumption)).mono ?_; rintro d w' ⟨rfl, hb2⟩; have hS := qA5 (by assumption) hb2))
    obtain ⟨y0, y1, _⟩ := HAT.out
    go_wp2
    go_quiet (fail)
    go_wp2
    go_ret
    exact ⟨rfl, below_drewN hS.2 _⟩
   ·have HV : Hid (qC7 E r.ss x = 10) := by show qC7 E r.ss x = 10; unfold qC7; rw [if_neg (by rw [hk]; simp), if_neg (by rw [HL.out]; exact hl), hk', Int.toNat_natCast, hes, if_pos hce]
    have hceb : (c.e != x.e + 1) = true := by simp [hce]
    rw [HV.out]
    rw [hk'] at x4 hl
    have HX4 : Hid (x.n = (k : Int)) := hk'
    clear hk hce hck hat hes hk' hn0 hn7
    have hl' : ¬ ((m : Int) ≤ (k : Int)) := hl
    have hlt' : (k : Int) < (m : Int) := by omega
    go_enter Tryz.func75, Tryz.ntmps75
    go_upto_region 1 with fail
    go_region_held3 (fun w' => KR w w') (first | exact hS | exact qB3 _)
     (first | (go_at_call 101; refine (HK.out _ (by assumption)).mono ?_; rintro d w' ⟨rfl, hb2⟩; have hS := qA5 (by assumption) hb2))
    obtain ⟨y0, y1, _⟩ := HAT.out
    go_wp2
    go_quiet (fail)
    go_wp2
    go_ret
    exact ⟨rfl, below_drewN hS.2 _⟩
 ·rw [hk] at HK
  have HV : Hid (qC7 E r.ss x = 6) := by show qC7 E r.ss x = 6; unfold qC7; rw [if_pos hk]
  rw [HV.out]
  clear hk
  go_enter Tryz.func75, Tryz.ntmps75
  go_upto_region 1 with fail
  go_region_held3 (fun w' => KR w w') (first | exact hS | exact qB3 _)
   (first | (go_at_call 101; refine (HK.out _ (by assumption)).mono ?_; rintro d w' ⟨rfl, hb2⟩; have hS := qA5 (by assumption) hb2))
  go_wp2
  go_ret
  exact ⟨rfl, hS.2⟩

end Go.Proofs.YtlpgapdlepbgbaaGreatDoor
