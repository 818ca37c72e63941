/-
  PLAIN WORDS on the texts of a form's parts, and CONTRACT of impl.partText.
  Conditions: each fact bears its own.
  CONTRACT: impl.PartText; laws.eqTextResult of two that are alike.
  Conditions: each contract bears its own.
  CONTRACTS: spec.l4Text at each kind of part.
  Conditions: each contract bears its own.
  CONTRACT: spec.PartText, out of one of spec.l4Text.
  Conditions: each contract bears its own.
-/
import Derived.Test.YtnfolmjdicfobaaGreatDoorPc02
import Derived.Test.YtnfolmjdicfobaaGreatDoorPc05
namespace Go.Proofs.YtnfolmjdicfobaaGreatDoor
open Go.RowKit
set_option linter.unusedVariables false
set_option linter.unusedSimpArgs false

/-- Between the two texts of a part. -/
def sepT (k : Int) : ByteArray := if k = 3 then ⟨#[32, 42, 32]⟩ else ⟨#[32, 43, 32]⟩
def wrapT (s L R : ByteArray) : ByteArray := (⟨#[40]⟩ : ByteArray) ++ L ++ s ++ R ++ ⟨#[41]⟩
def noTx : ByteArray := ⟨#[]⟩
def textOne (ts : List ByteArray) (p : PartI) : ByteArray := if p.k = 1 then roleT p.ro p.rn else wrapT (sepT p.k) (ts[p.l.toNat]?.getD noTx) (ts[p.r.toNat]?.getD noTx)
def textsTo (zs : List PartI) : Nat → List ByteArray
  | 0 => []
  | k + 1 => match zs[k]? with
    | none => textsTo zs k
    | some p => textsTo zs k ++ [textOne (textsTo zs k) p]
theorem textsTo_next {zs : List PartI} {k : Nat} {p : PartI} (h : zs[k]? = some p) : textsTo zs (k + 1) = textsTo zs k ++ [textOne (textsTo zs k) p] := by
  simp [textsTo, h]
theorem textsTo_len (zs : List PartI) : ∀ k, k ≤ zs.length → (textsTo zs k).length = k
  | 0, _ => rfl
  | k + 1, h => by
    rw [textsTo_next (List.getElem?_eq_getElem (show k < zs.length by omega))]
    simp [textsTo_len zs k (by omega)]
theorem textsTo_at {zs : List PartI} {k : Nat} {p : PartI} (h : zs[k]? = some p) : (textsTo zs (k + 1))[k]? = some (textOne (textsTo zs k) p) := by
  have hk : k < zs.length := by
    by_cases q : k < zs.length
    · exact q
    · rw [List.getElem?_eq_none (by omega)] at h; cases h
  have hl := textsTo_len zs k (by omega)
  rw [textsTo_next h, List.getElem?_append_right (by omega), hl, Nat.sub_self]
  rfl
theorem textsTo_keep (zs : List PartI) (j : Nat) : ∀ m, j < m → m ≤ zs.length → (textsTo zs m)[j]? = (textsTo zs (j + 1))[j]?
  | 0, h, _ => by omega
  | m + 1, h, hm => by
    by_cases e : j = m
    · subst e; rfl
    · have hl := textsTo_len zs m (by omega)
      rw [textsTo_next (List.getElem?_eq_getElem (show m < zs.length by omega)), List.getElem?_append_left (by omega)]
      exact textsTo_keep zs j m (by omega) (by omega)

/-- The text of a part by its place. -/
def textAt (zs : List PartI) (j : Nat) : ByteArray := (textsTo zs (j + 1))[j]?.getD noTx
theorem textAt_ahead {zs : List PartI} {j m : Nat} (h : j < m) (hm : m ≤ zs.length) : (textsTo zs m)[j]? = some (textAt zs j) := by
  unfold textAt
  rw [textsTo_keep zs j m h hm]
  have hl := textsTo_len zs (j + 1) (by omega)
  rw [List.getElem?_eq_getElem (by omega)]
  rfl
theorem textAt_is {zs : List PartI} {k : Nat} {p : PartI} (h : zs[k]? = some p) : textAt zs k = textOne (textsTo zs k) p := by
  unfold textAt
  rw [textsTo_at h]; rfl

theorem size_cat (a b : ByteArray) : (a ++ b).size = a.size + b.size := by simp
theorem wrapT_size (s L R : ByteArray) : (wrapT s L R).size = L.size + s.size + R.size + 2 := by
  unfold wrapT
  rw [size_cat, size_cat, size_cat, size_cat, show (ByteArray.mk #[40]).size = 1 from rfl, show (ByteArray.mk #[41]).size = 1 from rfl]
  omega
theorem sepT_size (k : Int) : (sepT k).size = 3 := by
  unfold sepT
  split <;> rfl

theorem text_small (zs : List PartI) : ∀ k t, t ∈ textsTo zs k → t.size + 5 ≤ 8 * 2 ^ k
  | 0, t, h => by cases h
  | k + 1, t, h => by
    have hp : 2 ^ (k + 1) = 2 * 2 ^ k := by rw [Nat.pow_succ]; omega
    have h1 : 1 ≤ 2 ^ k := Nat.one_le_two_pow
    cases e : zs[k]? with
    | none =>
      simp only [textsTo, e] at h
      have := text_small zs k t h
      omega
    | some p =>
      rw [textsTo_next e] at h
      rcases List.mem_append.1 h with h | h
      · have := text_small zs k t h
        omega
      · simp at h
        subst h
        have g : ∀ i : Nat, ((textsTo zs k)[i]?.getD noTx).size + 5 ≤ 8 * 2 ^ k := by
          intro i
          cases e2 : (textsTo zs k)[i]? with
          | none => show (0 : Nat) + 5 ≤ _; omega
          | some u => exact text_small zs k u (List.mem_of_getElem? e2)
        unfold textOne
        split
        · show (3 : Nat) + 5 ≤ _; omega
        · rw [wrapT_size, sepT_size]
          have := g p.l.toNat
          have := g p.r.toNat
          omega

theorem text_2043 {zs : List PartI} {k : Nat} (hk : k ≤ 8) {t : ByteArray} (h : t ∈ textsTo zs k) : t.size ≤ 2043 := by
  have h1 := text_small zs k t h
  have h2 : 2 ^ k ≤ 2 ^ 8 := Nat.pow_le_pow_right (by omega) hk
  omega
theorem textAt_small {zs : List PartI} {j : Nat} (hj : j < 8) : (textAt zs j).size ≤ 2043 := by
  unfold textAt
  cases e : (textsTo zs (j + 1))[j]? with
  | none => show (0 : Nat) ≤ _; omega
  | some u => exact text_2043 (by omega) (List.mem_of_getElem? e)

set_option maxHeartbeats 1000000 in
theorem partText_any (ro rn : Int) (l r b n cap : Nat) (L R : ByteArray) (w : World) (hl : w.cell? ⟨b, l, none⟩ = some (.string L)) (hr : w.cell? ⟨b, r, none⟩ = some (.string R)) (hln : l < n) (hrn : r < n) (hn : n ≤ 8) (hL : L.size ≤ 2043) (hR : R.size ≤ 2043) :
    Calls Tryz.prog 61 #[.agg #[.int .i64 2, .int .i64 ro, .int .i64 rn, .int .i64 (l : Int), .int .i64 (r : Int)], .slice (some ⟨b, 0, none⟩) n cap] w fun e w' => e = .returned (.string (wrapT ⟨#[32, 43, 32]⟩ L R)) ∧ Below w.heap.size w w' := by
  have hb : b < w.heap.size := World.block_lt_of_cell? w ⟨b, l, none⟩ hl
  have h1 : (l : Int) < (n : Int) := by omega
  have h2 : (r : Int) < (n : Int) := by omega
  have h3 : (n : Int) ≤ 8 := by omega
  go_enter Tryz.func61, Tryz.ntmps61
  go_wp2_with fail
  go_quiet (fail)
  go_wp2
  go_ret
  exact ⟨rfl, bdN ((Below.refl _ _).alloc (Nat.le_refl _) _) _⟩

set_option maxHeartbeats 1000000 in
theorem partText_apart (ro rn : Int) (l r b n cap : Nat) (L R : ByteArray) (w : World) (hl : w.cell? ⟨b, l, none⟩ = some (.string L)) (hr : w.cell? ⟨b, r, none⟩ = some (.string R)) (hln : l < n) (hrn : r < n) (hn : n ≤ 8) (hL : L.size ≤ 2043) (hR : R.size ≤ 2043) :
    Calls Tryz.prog 61 #[.agg #[.int .i64 3, .int .i64 ro, .int .i64 rn, .int .i64 (l : Int), .int .i64 (r : Int)], .slice (some ⟨b, 0, none⟩) n cap] w fun e w' => e = .returned (.string (wrapT ⟨#[32, 42, 32]⟩ L R)) ∧ Below w.heap.size w w' := by
  have hb : b < w.heap.size := World.block_lt_of_cell? w ⟨b, l, none⟩ hl
  have h1 : (l : Int) < (n : Int) := by omega
  have h2 : (r : Int) < (n : Int) := by omega
  have h3 : (n : Int) ≤ 8 := by omega
  go_enter Tryz.func61, Tryz.ntmps61
  go_wp2_with fail
  go_quiet (fail)
  go_wp2
  go_ret
  exact ⟨rfl, bdN ((Below.refl _ _).alloc (Nat.le_refl _) _) _⟩

set_option maxHeartbeats 1000000 in
theorem partText_role (ro rn l r : Int) (v : Value) (w : World) (h : roleB ro rn = true) :
    Calls Tryz.prog 61 #[.agg #[.int .i64 1, .int .i64 ro, .int .i64 rn, .int .i64 l, .int .i64 r], v] w fun e w' => e = .returned (.string (roleT ro rn)) ∧ Below w.heap.size w w' := by
  go_enter Tryz.func61, Tryz.ntmps61
  go_wp2_with fail
  refine (roleText_c ro rn h _).mono ?_
  rintro e w1 ⟨rfl, hb1⟩
  go_wp2
  go_ret
  exact ⟨rfl, below_new hb1⟩

/-- The texts ahead, in memory. -/
def TxIn (w : World) (a : Option Addr) (ts : List ByteArray) : Prop := ∀ i t, ts[i]? = some t → ∃ b, a = some ⟨b, 0, none⟩ ∧ w.cell? ⟨b, i, none⟩ = some (.string t)

theorem partText_c (zs : List PartI) (k : Nat) (x : PartI) (a : Option Addr) (cap : Nat) (w : World) (hz : zs[k]? = some x) (hk : k < 8) (hx : ptOne k x = 0) (ht : TxIn w a (textsTo zs k)) :
    Calls Tryz.prog 61 #[.agg #[.int .i64 x.k, .int .i64 x.ro, .int .i64 x.rn, .int .i64 x.l, .int .i64 x.r], .slice a k cap] w fun e w' => e = .returned (.string (textOne (textsTo zs k) x)) ∧ Below w.heap.size w w' := by
  have hkl : k < zs.length := by
    by_cases q : k < zs.length
    · exact q
    · rw [List.getElem?_eq_none (by omega)] at hz; cases hz
  obtain ⟨kk, ro, rn, l, r⟩ := x
  simp only at hx ⊢
  unfold ptOne at hx
  simp only at hx
  split at hx
  · cases hx
  · rename_i hkk
    split at hx
    · rename_i e1
      subst e1
      have hb : roleB ro rn = true := by
        cases q : roleB ro rn
        · rw [if_pos q] at hx; cases hx
        · rfl
      exact partText_role ro rn l r _ w hb
    · rename_i e1
      split at hx
      · cases hx
      · split at hx
        · cases hx
        · split at hx
          · cases hx
          · rename_i q1 q2
            obtain ⟨l', rfl⟩ := Int.eq_ofNat_of_zero_le (show 0 ≤ l by omega)
            obtain ⟨r', rfl⟩ := Int.eq_ofNat_of_zero_le (show 0 ≤ r by omega)
            have hl := textAt_ahead (zs := zs) (show l' < k by omega) (by omega)
            have hr := textAt_ahead (zs := zs) (show r' < k by omega) (by omega)
            obtain ⟨b, rfl, c1⟩ := ht _ _ hl
            obtain ⟨b', eb, c2⟩ := ht _ _ hr
            cases eb
            have hs1 := text_2043 (zs := zs) (by omega) (List.mem_of_getElem? hl)
            have hs2 := text_2043 (zs := zs) (by omega) (List.mem_of_getElem? hr)
            have ho : textOne (textsTo zs k) ⟨kk, ro, rn, (l' : Int), (r' : Int)⟩ = wrapT (sepT kk) (textAt zs l') (textAt zs r') := by
              unfold textOne
              simp only
              rw [if_neg e1, Int.toNat_natCast, Int.toNat_natCast, hl, hr]; rfl
            rw [ho]
            have hk2 : kk = 2 ∨ kk = 3 := by omega
            rcases hk2 with rfl | rfl
            · exact partText_any ro rn l' r' b k cap _ _ w c1 c2 (by omega) (by omega) (by omega) hs1 hs2
            · exact partText_apart ro rn l' r' b k cap _ _ w c1 c2 (by omega) (by omega) (by omega) hs1 hs2

end Go.Proofs.YtnfolmjdicfobaaGreatDoor

namespace Go.Proofs.YtnfolmjdicfobaaGreatDoor
open Go.RowKit
set_option linter.unusedVariables false
set_option linter.unusedSimpArgs false

theorem Tryz.info9 : (Tryz.prog.info? 9).map (fun i => (i.zero, i.size, i.bytes)) = some (some (.string ⟨#[]⟩), 1, 16) := by kernel_rfl

def GivesT (f : Nat) (a : Option Addr) (n cap : Nat) (c : Int) (t : ByteArray) (w : World) : Prop := Calls Tryz.prog f #[.slice a n cap] w fun e w' => e = .returned (.agg #[.int .i64 c, .string t]) ∧ Below w.heap.size w w'

def OwnT (w : World) (B : Nat) (v : Value) (ts : List ByteArray) : Prop := w.ownsRow B 9 1 v ts.length (ts.map Value.string)

theorem OwnT.below {w w' : World} {B : Nat} {v : Value} {ts : List ByteArray} (h : OwnT w B v ts) (hb : Below w.heap.size w w') : OwnT w' B v ts :=
  World.ownsRow.kept (row := none) h ⟨hb.os, hb.tape, hb.output, hb.size, fun k hk _ => hb.block k hk⟩ (by rcases h.2 with ⟨e, _⟩ | ⟨g, cap, cur, e, _⟩; exact .inl (by rw [e]; rfl); exact .inr (by rw [e]; simp [Value.ownBlock]))

theorem OwnT.shape {w : World} {B : Nat} {v : Value} {ts : List ByteArray} (h : OwnT w B v ts) : ∃ a cap, v = .slice a ts.length cap ∧ TxIn w a ts := by
  rcases id h.2 with ⟨e, _⟩ | ⟨g, cap, cur, e, _⟩
  · have hl : ts.length = 0 := by
      obtain ⟨a, cap, e2⟩ := owns_slice h
      rw [e] at e2
      cases ts with
      | nil => rfl
      | cons x xs => simp at e2
    obtain rfl : ts = [] := List.length_eq_zero_iff.1 hl
    exact ⟨none, 0, e, fun i t q => by simp at q⟩
  · refine ⟨_, cap, e, fun i t q => ⟨g, rfl, ?_⟩⟩
    have hi : i < ts.length := by
      by_cases q2 : i < ts.length
      · exact q2
      · rw [List.getElem?_eq_none (by omega)] at q; cases q
    unfold OwnT at h
    rw [e] at h
    rw [h.cellAt i (by omega), List.getElem?_map, q]
    rfl

set_option maxHeartbeats 400000 in
theorem eqText_same (a : Int) (b : ByteArray) (w : World) :
    Calls Tryz.prog 20 #[.agg #[.int .i64 a, .string b], .agg #[.int .i64 a, .string b]] w fun e w' => e = .returned (.bool true) ∧ Below w.heap.size w w' := by
  go_enter Tryz.func20, Tryz.ntmps20
  go_wp2
  go_ret
  exact ⟨rfl, ((Below.refl _ _).alloc (Nat.le_refl _) _).alloc (by simp) _⟩

set_option maxRecDepth 100000 in
set_option maxHeartbeats 2000000 in
theorem implPT_bad (a : Option Addr) (n cap : Nat) (zs : List PartI) (c : Int) (w : World) (hm : n ≤ maxLen) (h : PartsIn w a n zs) (hc : ptCode zs = c) (h0 : c ≠ 0) :
    GivesT 26 a n cap c noTx w := by
  have HM : Hid (∀ w2 : World, Below w.heap.size w w2 → Calls Tryz.prog 27 #[.slice a n cap] w2 fun e w' => e = .returned (.int .i64 c) ∧ Below w2.heap.size w2 w') := fun w2 q => by rw [← hc]; exact implPartsFault_c a n cap zs w2 hm (h.below q)
  have hcb : (c != 0) = true := by simpa using h0
  clear h hc h0
  unfold GivesT
  go_enter Tryz.func26, Tryz.ntmps26
  go_wp2_with fail
  refine (HM.out _ ((Below.refl _ _).alloc (Nat.le_refl _) _)).mono ?_
  rintro e w1 ⟨rfl, hb1⟩
  have d0 : w1.cell? ⟨w.heap.size, 0, none⟩ = some (.int .i64 0) := (hb1.cell (p := ⟨w.heap.size, 0, none⟩) (by simp)).trans (by simp)
  have d1 : w1.cell? ⟨w.heap.size, 1, none⟩ = some (.string ⟨#[]⟩) := (hb1.cell (p := ⟨w.heap.size, 1, none⟩) (by simp)).trans (by simp)
  have g0 : w1.frozen? ⟨w.heap.size, 0, none⟩ = false := (hb1.frozen (p := ⟨w.heap.size, 0, none⟩) (by simp)).trans (by simp [go_sem])
  have g1 : w1.frozen? ⟨w.heap.size, 1, none⟩ = false := (hb1.frozen (p := ⟨w.heap.size, 1, none⟩) (by simp)).trans (by simp [go_sem])
  have hw : w.heap.size < w1.heap.size := by have := hb1.size; simp at this; omega
  have hbx : Below w.heap.size w w1 := below_new hb1
  clear hb1
  go_wp2
  refine bodyPost_ret (v := .agg #[.int .i64 c, .string ⟨#[]⟩]) (by simp [results, Tryz.results26, go_sem, d0, d1, hw]) rfl ⟨rfl, ?_⟩
  exact (hbx.setCell (Nat.le_refl _) _).setCell (Nat.le_refl _) _

set_option maxRecDepth 100000 in
set_option maxHeartbeats 4000000 in
theorem implPT_ok (a : Option Addr) (n cap : Nat) (zs : List PartI) (T : ByteArray) (w : World) (h : PartsIn w a n zs) (hc : ptCode zs = 0) (hT : textAt zs (n - 1) = T) (c : Int) (t0 : ByteArray) (HCT : Hid ((200 < T.size → c = 2 ∧ t0 = noTx) ∧ (¬ 200 < T.size → c = 0 ∧ t0 = T))) :
    GivesT 26 a n cap c t0 w := by
  obtain ⟨hz1, hz8, hall⟩ := pt_all hc
  rw [h.1] at hz1 hz8
  have HM : Hid (∀ w2 : World, Below w.heap.size w w2 → Calls Tryz.prog 27 #[.slice a n cap] w2 fun e w' => e = .returned (.int .i64 0) ∧ Below w2.heap.size w2 w') := fun w2 q => by rw [← hc]; exact implPartsFault_c a n cap zs w2 (by unfold maxLen; omega) (h.below q)
  have HA : Hid (∀ k x, zs[k]? = some x → ptOne k x = 0) := hall
  have HP : Hid (PartsIn w a n zs) := h
  have hTs : T.size ≤ 2043 := by rw [← hT]; exact textAt_small (by omega)
  have HTT : Hid (textAt zs (n - 1) = T) := hT
  obtain ⟨i0, hi, hz0, hz1', hz2⟩ := info_parts Tryz.info9
  have hn8 : (n : Int) ≤ 8 := by omega
  clear h hc hT hall
  unfold GivesT
  go_enter Tryz.func26, Tryz.ntmps26
  go_wp2_with fail
  refine (HM.out _ ((Below.refl _ _).alloc (Nat.le_refl _) _)).mono ?_
  rintro e W ⟨rfl, hb1⟩
  have d0 : W.cell? ⟨w.heap.size, 0, none⟩ = some (.int .i64 0) := (hb1.cell (p := ⟨w.heap.size, 0, none⟩) (by simp)).trans (by simp)
  have d1 : W.cell? ⟨w.heap.size, 1, none⟩ = some (.string ⟨#[]⟩) := (hb1.cell (p := ⟨w.heap.size, 1, none⟩) (by simp)).trans (by simp)
  have g0 : W.frozen? ⟨w.heap.size, 0, none⟩ = false := (hb1.frozen (p := ⟨w.heap.size, 0, none⟩) (by simp)).trans (by simp [go_sem])
  have g1 : W.frozen? ⟨w.heap.size, 1, none⟩ = false := (hb1.frozen (p := ⟨w.heap.size, 1, none⟩) (by simp)).trans (by simp [go_sem])
  have hwW : w.heap.size < W.heap.size := by have := hb1.size; simp at this; omega
  have hbx : Below w.heap.size w W := below_new hb1
  have HBW : Hid (((W.cell? ⟨w.heap.size, 0, none⟩ = some (.int .i64 0) ∧ W.cell? ⟨w.heap.size, 1, none⟩ = some (.string ⟨#[]⟩)) ∧ W.frozen? ⟨w.heap.size, 0, none⟩ = false ∧ W.frozen? ⟨w.heap.size, 1, none⟩ = false) ∧ Below w.heap.size w W) := ⟨⟨⟨d0, d1⟩, g0, g1⟩, hbx⟩
  clear hb1 d0 d1 g0 g1 hbx
  go_wp2_with fail
  go_loopw [4, 16] (fun v i wr => ∃ k : Nat, k ≤ n ∧ i = .int .i64 (k : Int) ∧ Hid (OwnT wr W.heap.size v (textsTo zs k) ∧ Below W.heap.size W wr)) (fun _ i _ => n - (intOf i).toNat)
  case atStart => exact ⟨0, by omega, rfl, World.ownsRow_nil _ _ _ _, Below.refl _ _⟩
  case round =>
    obtain ⟨k, hk, rfl, HK⟩ := hrel
    have hkl : (textsTo zs k).length = k := textsTo_len zs k (by rw [HP.out.1]; exact hk)
    by_cases hlt : k < n
    · have hlt' : (k : Int) < (n : Int) := by omega
      obtain ⟨b, off, x, rfl, hs, hx⟩ := HP.out.at hlt
      have hnx : Below w.heap.size w wr := HBW.out.2.trans (HK.out.2.mono HBW.out.2.size)
      obtain ⟨q0, q1, q2, q3, q4⟩ := hx.below hnx
      have HS : Hid (zs[k]? = some x) := hs
      have HO : Hid (ptOne k x = 0) := HA.out k x hs
      have HNX : Hid (textsTo zs (k + 1) = textsTo zs k ++ [textOne (textsTo zs k) x]) := textsTo_next hs
      obtain ⟨va, vc, hve, htx⟩ := HK.out.1.shape
      rw [hkl] at hve
      subst hve
      have HTX : Hid (TxIn wr va (textsTo zs k)) := htx
      clear htx hs hx hnx
      go_wp2_with fail
      refine (partText_c zs k x va vc _ HS.out (by omega) HO.out (fun i t e => ?_)).mono ?_
      · obtain ⟨b', e1, e2⟩ := HTX.out i t e
        exact ⟨b', e1, ((Below.refl _ _).alloc (Nat.le_refl _) _ : Below wr.heap.size wr (wr.alloc _)).cell (p := ⟨b', i, none⟩) (World.block_lt_of_cell? wr ⟨b', i, none⟩ e2) |>.trans e2⟩
      rintro e V ⟨rfl, hb2⟩
      obtain ⟨t, ht⟩ : ∃ t, textOne (textsTo zs k) x = t := ⟨_, rfl⟩
      rw [ht]
      have HNX' : Hid (textsTo zs (k + 1) = textsTo zs k ++ [t]) := by rw [← ht]; exact HNX.out
      have HV : Hid (OwnT V W.heap.size (.slice va k vc) (textsTo zs k) ∧ Below W.heap.size W V) := ⟨HK.out.1.below (below_new hb2), HK.out.2.trans ((below_new hb2).mono HK.out.2.size)⟩
      clear hb2 HTX HK q0 q1 q2 q3 q4 ht HNX
      go_wp2_with (first
        | (at_builtin; refine wpList_append_own _ rfl _ _ 103 rfl W.heap.size 9 i0 (.string ⟨#[]⟩) 1 16 Tryz.underlying103 hi hz0 hz1' hz2 rfl (by decide) _ _ _ rfl (HV.out.1.alloc _) ⟨V.heap.size, 0, none⟩ 1 1 [.string t] rfl rfl ?c1 ?c2 ?c3 ?c4 ?c5 ?_)
        | fail)
      case c1 =>
        intro j u hj
        match j, hj with
        | 0, hj => simp at hj; subst hj; simp [Addr.add]
      case c2 => intro u hu; simp at hu; subst hu; rfl
      case c3 => rw [hkl]; unfold maxLen; omega
      case c4 => rw [hkl]; omega
      case c5 => have := HV.out.2.size; simp; omega
      intro v' w9 hown' hgrow hnil
      have HN : Hid (OwnT w9 W.heap.size v' (textsTo zs (k + 1)) ∧ Below W.heap.size W w9) := by
        rw [HNX'.out]
        refine ⟨by unfold OwnT; simpa [hkl] using hown', (HV.out.2.alloc HV.out.2.size _).grown hgrow (by have := HV.out.2.size; simp; omega) (fun j hj => (HV.out.1.lt j hj).1)⟩
      clear hnil hown' hgrow
      go_wp2_with fail
      exact ⟨⟨k + 1, by omega, by go_num, HN⟩, by simp [intOf]; omega⟩
    · have hke : k = n := by omega
      subst hke
      obtain ⟨⟨⟨e0, e1⟩, f0, f1⟩, hbW⟩ := HBW.out
      have hbr := HK.out.2
      have d0 := (hbr.cell (p := ⟨w.heap.size, 0, none⟩) hwW).trans e0
      have d1 := (hbr.cell (p := ⟨w.heap.size, 1, none⟩) hwW).trans e1
      have g0 := (hbr.frozen (p := ⟨w.heap.size, 0, none⟩) hwW).trans f0
      have g1 := (hbr.frozen (p := ⟨w.heap.size, 1, none⟩) hwW).trans f1
      have hw : w.heap.size < wr.heap.size := Nat.lt_of_lt_of_le hwW hbr.size
      have HB : Hid (Below w.heap.size w wr) := hbW.trans (hbr.mono hbW.size)
      obtain ⟨va, vc, hve, htx⟩ := HK.out.1.shape
      rw [hkl] at hve
      subst hve
      obtain ⟨vb, rfl, cl⟩ := htx (k - 1) _ (textAt_ahead (show k - 1 < k by omega) (by rw [HP.out.1]; exact Nat.le_refl _))
      rw [HTT.out] at cl
      have hkm : ((k : Int) - 1) = ((k - 1 : Nat) : Int) := by omega
      have hk1 : (((k - 1 : Nat) : Nat) : Int) < (k : Int) := by omega
      obtain ⟨k1, hk1e⟩ : ∃ k1, k1 = k - 1 := ⟨_, rfl⟩
      rw [← hk1e] at cl hkm hk1
      clear hbr hbW e0 e1 f0 f1 htx hk1e
      by_cases hbig : 200 < T.size
      · have hbig' : (200 : Int) < (T.size : Int) := by omega
        have E : Hid (c = 2 ∧ t0 = noTx) := HCT.out.1 hbig
        clear hbig
        go_wp2_with fail
        refine bodyPost_ret (v := .agg #[.int .i64 2, .string ⟨#[]⟩]) (by simp [results, Tryz.results26, go_sem, d0, d1, hw]) rfl ⟨by rw [E.out.1, E.out.2]; rfl, ?_⟩
        exact (HB.out.setCell (Nat.le_refl _) _).setCell (Nat.le_refl _) _
      · have hbig' : ¬ ((200 : Int) < (T.size : Int)) := by omega
        have E : Hid (c = 0 ∧ t0 = T) := HCT.out.2 hbig
        clear hbig
        go_wp2_with fail
        refine bodyPost_ret (v := .agg #[.int .i64 0, .string T]) (by simp [results, Tryz.results26, go_sem, d0, d1, hw]) rfl ⟨by rw [E.out.1, E.out.2], ?_⟩
        exact (HB.out.setCell (Nat.le_refl _) _).setCell (Nat.le_refl _) _

end Go.Proofs.YtnfolmjdicfobaaGreatDoor

namespace Go.Proofs.YtnfolmjdicfobaaGreatDoor
open Go.RowKit
set_option linter.unusedVariables false
set_option linter.unusedSimpArgs false

attribute [-go_sem] run_string_add_if

/-- The two numbers of a part in a block of the call's own, and nothing below has turned. -/
theorem keepT {g : Nat} {l r : Int} {w0 w w' : World} (h : w.cell? ⟨g, 3, none⟩ = some (.int .i64 l) ∧ w.cell? ⟨g, 4, none⟩ = some (.int .i64 r) ∧ Below w0.heap.size w0 w) (hb : Below w.heap.size w w') :
    w'.cell? ⟨g, 3, none⟩ = some (.int .i64 l) ∧ w'.cell? ⟨g, 4, none⟩ = some (.int .i64 r) ∧ Below w0.heap.size w0 w' := by
  have key : ∀ (o : Nat) (v : Value), w.cell? ⟨g, o, none⟩ = some v → w'.cell? ⟨g, o, none⟩ = some v := fun o v e => (hb.cell (p := ⟨g, o, none⟩) (World.block_lt_of_cell? w ⟨g, o, none⟩ e)).trans e
  exact ⟨key _ _ h.1, key _ _ h.2.1, h.2.2.trans (hb.mono h.2.2.size)⟩

set_option maxRecDepth 100000 in
set_option maxHeartbeats 2000000 in
theorem l4Text_role (b off n cap p : Nat) (ro rn l r : Int) (w : World) (hp : p < n) (hn : n ≤ 8) (hx : PartAt w b (off + p * 5) ⟨1, ro, rn, l, r⟩) (h : roleB ro rn = true) :
    Calls Tryz.prog 64 #[.slice (some ⟨b, off, none⟩) n cap, .int .i64 (p : Int)] w fun e w' => e = .returned (.string (roleT ro rn)) ∧ Below w.heap.size w w' := by
  obtain ⟨q0, q1, q2, q3, q4⟩ := hx
  simp only at q0 q1 q2 q3 q4
  have h1 : (p : Int) < (n : Int) := by omega
  have h2 : (n : Int) ≤ 8 := by omega
  go_enter Tryz.func64, Tryz.ntmps64
  go_wp2_with fail
  refine (l2Text_c ro rn h _).mono ?_
  rintro e w1 ⟨rfl, hb1⟩
  go_wp2
  go_ret
  exact ⟨rfl, below_new hb1⟩

set_option maxRecDepth 100000 in
set_option maxHeartbeats 4000000 in
theorem l4Text_two (b off n cap p : Nat) (ro rn l r : Int) (tx : Int → ByteArray) (w : World) (hp : p < n) (hn : n ≤ 8) (hx : PartAt w b (off + p * 5) ⟨2, ro, rn, l, r⟩) (hL : (tx l).size ≤ 2043) (hR : (tx r).size ≤ 2043)
    (H : Hid (∀ (q : Int) (w2 : World), (q = l ∨ q = r) → Below w.heap.size w w2 → Calls Tryz.prog 64 #[.slice (some ⟨b, off, none⟩) n cap, .int .i64 q] w2 fun e w' => e = .returned (.string (tx q)) ∧ Below w2.heap.size w2 w')) :
    Calls Tryz.prog 64 #[.slice (some ⟨b, off, none⟩) n cap, .int .i64 (p : Int)] w fun e w' => e = .returned (.string (wrapT ⟨#[32, 43, 32]⟩ (tx l) (tx r))) ∧ Below w.heap.size w w' := by
  obtain ⟨q0, q1, q2, q3, q4⟩ := hx
  simp only at q0 q1 q2 q3 q4
  have h1 : (p : Int) < (n : Int) := by omega
  have h2 : (n : Int) ≤ 8 := by omega
  have K : Hid (∀ (q : Int) (w2 : World), (q = l ∨ q = r) → (w2.cell? ⟨w.heap.size, 3, none⟩ = some (.int .i64 l) ∧ w2.cell? ⟨w.heap.size, 4, none⟩ = some (.int .i64 r) ∧ Below w.heap.size w w2) → Calls Tryz.prog 64 #[.slice (some ⟨b, off, none⟩) n cap, .int .i64 q] w2 fun e w' => e = .returned (.string (tx q)) ∧ w'.cell? ⟨w.heap.size, 3, none⟩ = some (.int .i64 l) ∧ w'.cell? ⟨w.heap.size, 4, none⟩ = some (.int .i64 r) ∧ Below w.heap.size w w') := fun q w2 hq hs =>
    (H.out q w2 hq hs.2.2).mono fun e w' hh => ⟨hh.1, keepT hs hh.2⟩
  obtain ⟨A1, eA1⟩ : ∃ A, (⟨#[40]⟩ : ByteArray) ++ tx l = A := ⟨_, rfl⟩
  obtain ⟨A2, eA2⟩ : ∃ A, A1 ++ (⟨#[32, 43, 32]⟩ : ByteArray) = A := ⟨_, rfl⟩
  obtain ⟨A3, eA3⟩ : ∃ A, A2 ++ tx r = A := ⟨_, rfl⟩
  obtain ⟨A4, eA4⟩ : ∃ A, A3 ++ (⟨#[41]⟩ : ByteArray) = A := ⟨_, rfl⟩
  have z1 : A1.size = 1 + (tx l).size := by rw [← eA1, size_cat]; rfl
  have z2 : A2.size = A1.size + 3 := by rw [← eA2, size_cat]; rfl
  have z3 : A3.size = A2.size + (tx r).size := by rw [← eA3, size_cat]
  have f1 : ∀ w, (Op.stringOp .add ⟨#[40]⟩ (tx l)).run Tryz.prog w = .ok (.string A1) w := fun w => by rw [← eA1]; exact run_string_add_sum w _ _ (by rw [show (ByteArray.mk #[40]).size = 1 from rfl]; omega)
  have f2 : ∀ w, (Op.stringOp .add A1 ⟨#[32, 43, 32]⟩).run Tryz.prog w = .ok (.string A2) w := fun w => by rw [← eA2]; exact run_string_add_sum w _ _ (by rw [show (ByteArray.mk #[32, 43, 32]).size = 3 from rfl]; omega)
  have f3 : ∀ w, (Op.stringOp .add A2 (tx r)).run Tryz.prog w = .ok (.string A3) w := fun w => by rw [← eA3]; exact run_string_add_sum w _ _ (by omega)
  have f4 : ∀ w, (Op.stringOp .add A3 ⟨#[41]⟩).run Tryz.prog w = .ok (.string A4) w := fun w => by rw [← eA4]; exact run_string_add_sum w _ _ (by rw [show (ByteArray.mk #[41]).size = 1 from rfl]; omega)
  have HW : Hid (wrapT ⟨#[32, 43, 32]⟩ (tx l) (tx r) = A4) := by show wrapT _ (tx l) (tx r) = A4; unfold wrapT; rw [eA1, eA2, eA3, eA4]
  rw [HW.out]
  clear hL hR H
  clear eA1 eA2 eA3 eA4 z1 z2 z3
  go_enter Tryz.func64, Tryz.ntmps64
  go_wp2_with fail
  clear q0 q1 q2 q3 q4
  go_region_held3 (fun w' => w'.cell? ⟨w.heap.size, 3, none⟩ = some (.int .i64 l) ∧ w'.cell? ⟨w.heap.size, 4, none⟩ = some (.int .i64 r) ∧ Below w.heap.size w w') (first | exact hS | (refine ⟨by go_cell, by go_cell, by go_grown⟩)) (first | (go_at_call 64; refine (K.out _ _ (by first | exact .inl rfl | exact .inr rfl) ?_).mono ?_; (first | assumption | exact ⟨by go_cell, by go_cell, by go_grown⟩); rintro e w1 ⟨rfl, hS⟩))
  go_wp2
  go_ret
  exact ⟨rfl, hS.2.2⟩

set_option maxRecDepth 100000 in
set_option maxHeartbeats 4000000 in
theorem l4Text_three (b off n cap p : Nat) (ro rn l r : Int) (tx : Int → ByteArray) (w : World) (hp : p < n) (hn : n ≤ 8) (hx : PartAt w b (off + p * 5) ⟨3, ro, rn, l, r⟩) (hL : (tx l).size ≤ 2043) (hR : (tx r).size ≤ 2043)
    (H : Hid (∀ (q : Int) (w2 : World), (q = l ∨ q = r) → Below w.heap.size w w2 → Calls Tryz.prog 64 #[.slice (some ⟨b, off, none⟩) n cap, .int .i64 q] w2 fun e w' => e = .returned (.string (tx q)) ∧ Below w2.heap.size w2 w')) :
    Calls Tryz.prog 64 #[.slice (some ⟨b, off, none⟩) n cap, .int .i64 (p : Int)] w fun e w' => e = .returned (.string (wrapT ⟨#[32, 42, 32]⟩ (tx l) (tx r))) ∧ Below w.heap.size w w' := by
  obtain ⟨q0, q1, q2, q3, q4⟩ := hx
  simp only at q0 q1 q2 q3 q4
  have h1 : (p : Int) < (n : Int) := by omega
  have h2 : (n : Int) ≤ 8 := by omega
  have K : Hid (∀ (q : Int) (w2 : World), (q = l ∨ q = r) → (w2.cell? ⟨w.heap.size, 3, none⟩ = some (.int .i64 l) ∧ w2.cell? ⟨w.heap.size, 4, none⟩ = some (.int .i64 r) ∧ Below w.heap.size w w2) → Calls Tryz.prog 64 #[.slice (some ⟨b, off, none⟩) n cap, .int .i64 q] w2 fun e w' => e = .returned (.string (tx q)) ∧ w'.cell? ⟨w.heap.size, 3, none⟩ = some (.int .i64 l) ∧ w'.cell? ⟨w.heap.size, 4, none⟩ = some (.int .i64 r) ∧ Below w.heap.size w w') := fun q w2 hq hs =>
    (H.out q w2 hq hs.2.2).mono fun e w' hh => ⟨hh.1, keepT hs hh.2⟩
  obtain ⟨A1, eA1⟩ : ∃ A, (⟨#[40]⟩ : ByteArray) ++ tx l = A := ⟨_, rfl⟩
  obtain ⟨A2, eA2⟩ : ∃ A, A1 ++ (⟨#[32, 42, 32]⟩ : ByteArray) = A := ⟨_, rfl⟩
  obtain ⟨A3, eA3⟩ : ∃ A, A2 ++ tx r = A := ⟨_, rfl⟩
  obtain ⟨A4, eA4⟩ : ∃ A, A3 ++ (⟨#[41]⟩ : ByteArray) = A := ⟨_, rfl⟩
  have z1 : A1.size = 1 + (tx l).size := by rw [← eA1, size_cat]; rfl
  have z2 : A2.size = A1.size + 3 := by rw [← eA2, size_cat]; rfl
  have z3 : A3.size = A2.size + (tx r).size := by rw [← eA3, size_cat]
  have f1 : ∀ w, (Op.stringOp .add ⟨#[40]⟩ (tx l)).run Tryz.prog w = .ok (.string A1) w := fun w => by rw [← eA1]; exact run_string_add_sum w _ _ (by rw [show (ByteArray.mk #[40]).size = 1 from rfl]; omega)
  have f2 : ∀ w, (Op.stringOp .add A1 ⟨#[32, 42, 32]⟩).run Tryz.prog w = .ok (.string A2) w := fun w => by rw [← eA2]; exact run_string_add_sum w _ _ (by rw [show (ByteArray.mk #[32, 42, 32]).size = 3 from rfl]; omega)
  have f3 : ∀ w, (Op.stringOp .add A2 (tx r)).run Tryz.prog w = .ok (.string A3) w := fun w => by rw [← eA3]; exact run_string_add_sum w _ _ (by omega)
  have f4 : ∀ w, (Op.stringOp .add A3 ⟨#[41]⟩).run Tryz.prog w = .ok (.string A4) w := fun w => by rw [← eA4]; exact run_string_add_sum w _ _ (by rw [show (ByteArray.mk #[41]).size = 1 from rfl]; omega)
  have HW : Hid (wrapT ⟨#[32, 42, 32]⟩ (tx l) (tx r) = A4) := by show wrapT _ (tx l) (tx r) = A4; unfold wrapT; rw [eA1, eA2, eA3, eA4]
  rw [HW.out]
  clear hL hR H
  clear eA1 eA2 eA3 eA4 z1 z2 z3
  go_enter Tryz.func64, Tryz.ntmps64
  go_wp2_with fail
  clear q0 q1 q2 q3 q4
  go_region_held3 (fun w' => w'.cell? ⟨w.heap.size, 3, none⟩ = some (.int .i64 l) ∧ w'.cell? ⟨w.heap.size, 4, none⟩ = some (.int .i64 r) ∧ Below w.heap.size w w') (first | exact hS | (refine ⟨by go_cell, by go_cell, by go_grown⟩)) (first | (go_at_call 64; refine (K.out _ _ (by first | exact .inl rfl | exact .inr rfl) ?_).mono ?_; (first | assumption | exact ⟨by go_cell, by go_cell, by go_grown⟩); rintro e w1 ⟨rfl, hS⟩))
  go_wp2
  go_ret
  exact ⟨rfl, hS.2.2⟩

end Go.Proofs.YtnfolmjdicfobaaGreatDoor

namespace Go.Proofs.YtnfolmjdicfobaaGreatDoor
open Go.RowKit
set_option linter.unusedVariables false
set_option linter.unusedSimpArgs false

set_option maxRecDepth 100000 in
set_option maxHeartbeats 2000000 in
theorem specPT_bad (a : Option Addr) (n cap : Nat) (zs : List PartI) (c : Int) (w : World) (hm : n ≤ maxLen) (h : PartsIn w a n zs) (hc : ptCode zs = c) (h0 : c ≠ 0) :
    GivesT 28 a n cap c noTx w := by
  have HM : Hid (∀ w2 : World, Below w.heap.size w w2 → Calls Tryz.prog 63 #[.slice a n cap] w2 fun e w' => e = .returned (.int .i64 c) ∧ Below w2.heap.size w2 w') := fun w2 q => by rw [← hc]; exact l4Fault_c a n cap zs w2 hm (h.below q)
  have hcb : (c != 0) = true := by simpa using h0
  clear h hc h0
  unfold GivesT
  go_enter Tryz.func28, Tryz.ntmps28
  go_wp2_with fail
  refine (HM.out _ ((Below.refl _ _).alloc (Nat.le_refl _) _)).mono ?_
  rintro e w1 ⟨rfl, hb1⟩
  have d0 : w1.cell? ⟨w.heap.size, 0, none⟩ = some (.int .i64 0) := (hb1.cell (p := ⟨w.heap.size, 0, none⟩) (by simp)).trans (by simp)
  have d1 : w1.cell? ⟨w.heap.size, 1, none⟩ = some (.string ⟨#[]⟩) := (hb1.cell (p := ⟨w.heap.size, 1, none⟩) (by simp)).trans (by simp)
  have g0 : w1.frozen? ⟨w.heap.size, 0, none⟩ = false := (hb1.frozen (p := ⟨w.heap.size, 0, none⟩) (by simp)).trans (by simp [go_sem])
  have g1 : w1.frozen? ⟨w.heap.size, 1, none⟩ = false := (hb1.frozen (p := ⟨w.heap.size, 1, none⟩) (by simp)).trans (by simp [go_sem])
  have hw : w.heap.size < w1.heap.size := by have := hb1.size; simp at this; omega
  have hbx : Below w.heap.size w w1 := below_new hb1
  clear hb1
  go_wp2
  refine bodyPost_ret (v := .agg #[.int .i64 c, .string ⟨#[]⟩]) (by simp [results, Tryz.results28, go_sem, d0, d1, hw]) rfl ⟨rfl, ?_⟩
  exact (hbx.setCell (Nat.le_refl _) _).setCell (Nat.le_refl _) _

set_option maxRecDepth 100000 in
set_option maxHeartbeats 4000000 in
theorem specPT_ok (a : Option Addr) (n cap : Nat) (zs : List PartI) (T : ByteArray) (w : World) (h : PartsIn w a n zs) (hc : ptCode zs = 0) (hT : textAt zs (n - 1) = T)
    (hTX : ∀ w2 : World, PartsIn w2 a n zs → Calls Tryz.prog 64 #[.slice a n cap, .int .i64 ((n : Int) - 1)] w2 fun e w' => e = .returned (.string T) ∧ Below w2.heap.size w2 w') (c : Int) (t0 : ByteArray) (HCT : Hid ((200 < T.size → c = 2 ∧ t0 = noTx) ∧ (¬ 200 < T.size → c = 0 ∧ t0 = T))) :
    GivesT 28 a n cap c t0 w := by
  obtain ⟨hz1, hz8, hall⟩ := pt_all hc
  rw [h.1] at hz1 hz8
  have HM : Hid (∀ w2 : World, Below w.heap.size w w2 → Calls Tryz.prog 63 #[.slice a n cap] w2 fun e w' => e = .returned (.int .i64 0) ∧ Below w2.heap.size w2 w') := fun w2 q => by rw [← hc]; exact l4Fault_c a n cap zs w2 (by unfold maxLen; omega) (h.below q)
  have HTX : Hid (∀ w2 : World, Below w.heap.size w w2 → Calls Tryz.prog 64 #[.slice a n cap, .int .i64 ((n : Int) - 1)] w2 fun e w' => e = .returned (.string T) ∧ Below w2.heap.size w2 w') := fun w2 q => hTX w2 (h.below q)
  have hTs : T.size ≤ 2043 := by rw [← hT]; exact textAt_small (by omega)
  have hn8 : (n : Int) ≤ 8 := by omega
  have hn1 : (1 : Int) ≤ (n : Int) := by omega
  clear h hc hT hall hTX
  unfold GivesT
  go_enter Tryz.func28, Tryz.ntmps28
  go_wp2_with fail
  refine (HM.out _ ((Below.refl _ _).alloc (Nat.le_refl _) _)).mono ?_
  rintro e w1 ⟨rfl, hb1⟩
  have hbx : Below w.heap.size w w1 := below_new hb1
  have hw1 : w.heap.size < w1.heap.size := by have := hb1.size; simp at this; omega
  go_wp2_with fail
  refine (HTX.out _ hbx).mono ?_
  rintro e w2 ⟨rfl, hb2⟩
  have d0 : w2.cell? ⟨w.heap.size, 0, none⟩ = some (.int .i64 0) := (hb2.cell (p := ⟨w.heap.size, 0, none⟩) hw1).trans ((hb1.cell (p := ⟨w.heap.size, 0, none⟩) (by simp)).trans (by simp))
  have d1 : w2.cell? ⟨w.heap.size, 1, none⟩ = some (.string ⟨#[]⟩) := (hb2.cell (p := ⟨w.heap.size, 1, none⟩) hw1).trans ((hb1.cell (p := ⟨w.heap.size, 1, none⟩) (by simp)).trans (by simp))
  have g0 : w2.frozen? ⟨w.heap.size, 0, none⟩ = false := (hb2.frozen (p := ⟨w.heap.size, 0, none⟩) hw1).trans ((hb1.frozen (p := ⟨w.heap.size, 0, none⟩) (by simp)).trans (by simp [go_sem]))
  have g1 : w2.frozen? ⟨w.heap.size, 1, none⟩ = false := (hb2.frozen (p := ⟨w.heap.size, 1, none⟩) hw1).trans ((hb1.frozen (p := ⟨w.heap.size, 1, none⟩) (by simp)).trans (by simp [go_sem]))
  have hw : w.heap.size < w2.heap.size := Nat.lt_of_lt_of_le hw1 hb2.size
  have HB : Hid (Below w.heap.size w w2) := hbx.trans (hb2.mono hbx.size)
  clear hb1 hb2 hbx hw1
  by_cases hbig : 200 < T.size
  · have hbig' : (200 : Int) < (T.size : Int) := by omega
    have E : Hid (c = 2 ∧ t0 = noTx) := HCT.out.1 hbig
    clear hbig
    go_wp2_with fail
    refine bodyPost_ret (v := .agg #[.int .i64 2, .string ⟨#[]⟩]) (by simp [results, Tryz.results28, go_sem, d0, d1, hw]) rfl ⟨by rw [E.out.1, E.out.2]; rfl, ?_⟩
    exact (HB.out.setCell (Nat.le_refl _) _).setCell (Nat.le_refl _) _
  · have hbig' : ¬ ((200 : Int) < (T.size : Int)) := by omega
    have E : Hid (c = 0 ∧ t0 = T) := HCT.out.2 hbig
    clear hbig
    go_wp2_with fail
    refine bodyPost_ret (v := .agg #[.int .i64 0, .string T]) (by simp [results, Tryz.results28, go_sem, d0, d1, hw]) rfl ⟨by rw [E.out.1, E.out.2], ?_⟩
    exact (HB.out.setCell (Nat.le_refl _) _).setCell (Nat.le_refl _) _

end Go.Proofs.YtnfolmjdicfobaaGreatDoor
