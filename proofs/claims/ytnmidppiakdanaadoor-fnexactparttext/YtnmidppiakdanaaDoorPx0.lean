/-
  PLAIN WORDS on the texts of a form's parts, and CONTRACT of impl.partText.
  Conditions: each fact bears its own.
-/
import Derived.Test.YtnmidppiakdanaaDoorText3
import Derived.Test.YtnmidppiakdanaaDoorPt2
namespace Go.Proofs.YtnmidppiakdanaaDoor
open Go.RowKit
set_option linter.unusedVariables false
set_option linter.unusedSimpArgs false

/-- Between the two texts of a part. -/
def sepT (k : Int) : ByteArray := if k = 3 then ⟨#[32, 42, 32]⟩ else ⟨#[32, 43, 32]⟩
def wrapT (s L R : ByteArray) : ByteArray := (⟨#[40]⟩ : ByteArray) ++ L ++ s ++ R ++ ⟨#[41]⟩
def noTx : ByteArray := ⟨#[]⟩
def textOne (ts : List ByteArray) (p : PartI) : ByteArray := if p.k = 1 then roleT p.ro p.rn else wrapT (sepT p.k) (ts[p.l.toNat]?.getD noTx) (ts[p.r.toNat]?.getD noTx)
def textsTo (zs : List PartI) : Nat → List ByteArray
  | 0 => []
  | k + 1 => match zs[k]? with
    | none => textsTo zs k
    | some p => textsTo zs k ++ [textOne (textsTo zs k) p]
theorem textsTo_next {zs : List PartI} {k : Nat} {p : PartI} (h : zs[k]? = some p) : textsTo zs (k + 1) = textsTo zs k ++ [textOne (textsTo zs k) p] := by
  simp [textsTo, h]
theorem textsTo_len (zs : List PartI) : ∀ k, k ≤ zs.length → (textsTo zs k).length = k
  | 0, _ => rfl
  | k + 1, h => by
    rw [textsTo_next (List.getElem?_eq_getElem (show k < zs.length by omega))]
    simp [textsTo_len zs k (by omega)]
theorem textsTo_at {zs : List PartI} {k : Nat} {p : PartI} (h : zs[k]? = some p) : (textsTo zs (k + 1))[k]? = some (textOne (textsTo zs k) p) := by
  have hk : k < zs.length := by
    by_cases q : k < zs.length
    · exact q
    · rw [List.getElem?_eq_none (by omega)] at h; cases h
  have hl := textsTo_len zs k (by omega)
  rw [textsTo_next h, List.getElem?_append_right (by omega), hl, Nat.sub_self]
  rfl
theorem textsTo_keep (zs : List PartI) (j : Nat) : ∀ m, j < m → m ≤ zs.length → (textsTo zs m)[j]? = (textsTo zs (j + 1))[j]?
  | 0, h, _ => by omega
  | m + 1, h, hm => by
    by_cases e : j = m
    · subst e; rfl
    · have hl := textsTo_len zs m (by omega)
      rw [textsTo_next (List.getElem?_eq_getElem (show m < zs.length by omega)), List.getElem?_append_left (by omega)]
      exact textsTo_keep zs j m (by omega) (by omega)

/-- The text of a part by its place. -/
def textAt (zs : List PartI) (j : Nat) : ByteArray := (textsTo zs (j + 1))[j]?.getD noTx
theorem textAt_ahead {zs : List PartI} {j m : Nat} (h : j < m) (hm : m ≤ zs.length) : (textsTo zs m)[j]? = some (textAt zs j) := by
  unfold textAt
  rw [textsTo_keep zs j m h hm]
  have hl := textsTo_len zs (j + 1) (by omega)
  rw [List.getElem?_eq_getElem (by omega)]
  rfl
theorem textAt_is {zs : List PartI} {k : Nat} {p : PartI} (h : zs[k]? = some p) : textAt zs k = textOne (textsTo zs k) p := by
  unfold textAt
  rw [textsTo_at h]; rfl

theorem size_cat (a b : ByteArray) : (a ++ b).size = a.size + b.size := by simp
theorem wrapT_size (s L R : ByteArray) : (wrapT s L R).size = L.size + s.size + R.size + 2 := by
  unfold wrapT
  rw [size_cat, size_cat, size_cat, size_cat, show (ByteArray.mk #[40]).size = 1 from rfl, show (ByteArray.mk #[41]).size = 1 from rfl]
  omega
theorem sepT_size (k : Int) : (sepT k).size = 3 := by
  unfold sepT
  split <;> rfl

theorem text_small (zs : List PartI) : ∀ k t, t ∈ textsTo zs k → t.size + 5 ≤ 8 * 2 ^ k
  | 0, t, h => by cases h
  | k + 1, t, h => by
    have hp : 2 ^ (k + 1) = 2 * 2 ^ k := by rw [Nat.pow_succ]; omega
    have h1 : 1 ≤ 2 ^ k := Nat.one_le_two_pow
    cases e : zs[k]? with
    | none =>
      simp only [textsTo, e] at h
      have := text_small zs k t h
      omega
    | some p =>
      rw [textsTo_next e] at h
      rcases List.mem_append.1 h with h | h
      · have := text_small zs k t h
        omega
      · simp at h
        subst h
        have g : ∀ i : Nat, ((textsTo zs k)[i]?.getD noTx).size + 5 ≤ 8 * 2 ^ k := by
          intro i
          cases e2 : (textsTo zs k)[i]? with
          | none => show (0 : Nat) + 5 ≤ _; omega
          | some u => exact text_small zs k u (List.mem_of_getElem? e2)
        unfold textOne
        split
        · show (3 : Nat) + 5 ≤ _; omega
        · rw [wrapT_size, sepT_size]
          have := g p.l.toNat
          have := g p.r.toNat
          omega

theorem text_2043 {zs : List PartI} {k : Nat} (hk : k ≤ 8) {t : ByteArray} (h : t ∈ textsTo zs k) : t.size ≤ 2043 := by
  have h1 := text_small zs k t h
  have h2 : 2 ^ k ≤ 2 ^ 8 := Nat.pow_le_pow_right (by omega) hk
  omega
theorem textAt_small {zs : List PartI} {j : Nat} (hj : j < 8) : (textAt zs j).size ≤ 2043 := by
  unfold textAt
  cases e : (textsTo zs (j + 1))[j]? with
  | none => show (0 : Nat) ≤ _; omega
  | some u => exact text_2043 (by omega) (List.mem_of_getElem? e)

set_option maxHeartbeats 1000000 in
theorem partText_any (ro rn : Int) (l r b n cap : Nat) (L R : ByteArray) (w : World) (hl : w.cell? ⟨b, l, none⟩ = some (.string L)) (hr : w.cell? ⟨b, r, none⟩ = some (.string R)) (hln : l < n) (hrn : r < n) (hn : n ≤ 8) (hL : L.size ≤ 2043) (hR : R.size ≤ 2043) :
    Calls Tryd.prog 14 #[.agg #[.int .i64 2, .int .i64 ro, .int .i64 rn, .int .i64 (l : Int), .int .i64 (r : Int)], .slice (some ⟨b, 0, none⟩) n cap] w fun e w' => e = .returned (.string (wrapT ⟨#[32, 43, 32]⟩ L R)) ∧ Below w.heap.size w w' := by
  have hb : b < w.heap.size := World.block_lt_of_cell? w ⟨b, l, none⟩ hl
  have h1 : (l : Int) < (n : Int) := by omega
  have h2 : (r : Int) < (n : Int) := by omega
  have h3 : (n : Int) ≤ 8 := by omega
  go_enter Tryd.func14, Tryd.ntmps14
  go_wp2_with fail
  go_quiet (fail)
  go_wp2
  go_ret
  exact ⟨rfl, bdN ((Below.refl _ _).alloc (Nat.le_refl _) _) _⟩

set_option maxHeartbeats 1000000 in
theorem partText_apart (ro rn : Int) (l r b n cap : Nat) (L R : ByteArray) (w : World) (hl : w.cell? ⟨b, l, none⟩ = some (.string L)) (hr : w.cell? ⟨b, r, none⟩ = some (.string R)) (hln : l < n) (hrn : r < n) (hn : n ≤ 8) (hL : L.size ≤ 2043) (hR : R.size ≤ 2043) :
    Calls Tryd.prog 14 #[.agg #[.int .i64 3, .int .i64 ro, .int .i64 rn, .int .i64 (l : Int), .int .i64 (r : Int)], .slice (some ⟨b, 0, none⟩) n cap] w fun e w' => e = .returned (.string (wrapT ⟨#[32, 42, 32]⟩ L R)) ∧ Below w.heap.size w w' := by
  have hb : b < w.heap.size := World.block_lt_of_cell? w ⟨b, l, none⟩ hl
  have h1 : (l : Int) < (n : Int) := by omega
  have h2 : (r : Int) < (n : Int) := by omega
  have h3 : (n : Int) ≤ 8 := by omega
  go_enter Tryd.func14, Tryd.ntmps14
  go_wp2_with fail
  go_quiet (fail)
  go_wp2
  go_ret
  exact ⟨rfl, bdN ((Below.refl _ _).alloc (Nat.le_refl _) _) _⟩

set_option maxHeartbeats 1000000 in
theorem partText_role (ro rn l r : Int) (v : Value) (w : World) (h : roleB ro rn = true) :
    Calls Tryd.prog 14 #[.agg #[.int .i64 1, .int .i64 ro, .int .i64 rn, .int .i64 l, .int .i64 r], v] w fun e w' => e = .returned (.string (roleT ro rn)) ∧ Below w.heap.size w w' := by
  go_enter Tryd.func14, Tryd.ntmps14
  go_wp2_with fail
  refine (roleText_c ro rn h _).mono ?_
  rintro e w1 ⟨rfl, hb1⟩
  go_wp2
  go_ret
  exact ⟨rfl, below_new hb1⟩

/-- The texts ahead, in memory. -/
def TxIn (w : World) (a : Option Addr) (ts : List ByteArray) : Prop := ∀ i t, ts[i]? = some t → ∃ b, a = some ⟨b, 0, none⟩ ∧ w.cell? ⟨b, i, none⟩ = some (.string t)

theorem partText_c (zs : List PartI) (k : Nat) (x : PartI) (a : Option Addr) (cap : Nat) (w : World) (hz : zs[k]? = some x) (hk : k < 8) (hx : ptOne k x = 0) (ht : TxIn w a (textsTo zs k)) :
    Calls Tryd.prog 14 #[.agg #[.int .i64 x.k, .int .i64 x.ro, .int .i64 x.rn, .int .i64 x.l, .int .i64 x.r], .slice a k cap] w fun e w' => e = .returned (.string (textOne (textsTo zs k) x)) ∧ Below w.heap.size w w' := by
  have hkl : k < zs.length := by
    by_cases q : k < zs.length
    · exact q
    · rw [List.getElem?_eq_none (by omega)] at hz; cases hz
  obtain ⟨kk, ro, rn, l, r⟩ := x
  simp only at hx ⊢
  unfold ptOne at hx
  simp only at hx
  split at hx
  · cases hx
  · rename_i hkk
    split at hx
    · rename_i e1
      subst e1
      have hb : roleB ro rn = true := by
        cases q : roleB ro rn
        · rw [if_pos q] at hx; cases hx
        · rfl
      exact partText_role ro rn l r _ w hb
    · rename_i e1
      split at hx
      · cases hx
      · split at hx
        · cases hx
        · split at hx
          · cases hx
          · rename_i q1 q2
            obtain ⟨l', rfl⟩ := Int.eq_ofNat_of_zero_le (show 0 ≤ l by omega)
            obtain ⟨r', rfl⟩ := Int.eq_ofNat_of_zero_le (show 0 ≤ r by omega)
            have hl := textAt_ahead (zs := zs) (show l' < k by omega) (by omega)
            have hr := textAt_ahead (zs := zs) (show r' < k by omega) (by omega)
            obtain ⟨b, rfl, c1⟩ := ht _ _ hl
            obtain ⟨b', eb, c2⟩ := ht _ _ hr
            cases eb
            have hs1 := text_2043 (zs := zs) (by omega) (List.mem_of_getElem? hl)
            have hs2 := text_2043 (zs := zs) (by omega) (List.mem_of_getElem? hr)
            have ho : textOne (textsTo zs k) ⟨kk, ro, rn, (l' : Int), (r' : Int)⟩ = wrapT (sepT kk) (textAt zs l') (textAt zs r') := by
              unfold textOne
              simp only
              rw [if_neg e1, Int.toNat_natCast, Int.toNat_natCast, hl, hr]; rfl
            rw [ho]
            have hk2 : kk = 2 ∨ kk = 3 := by omega
            rcases hk2 with rfl | rfl
            · exact partText_any ro rn l' r' b k cap _ _ w c1 c2 (by omega) (by omega) (by omega) hs1 hs2
            · exact partText_apart ro rn l' r' b k cap _ _ w c1 c2 (by omega) (by omega) (by omega) hs1 hs2

end Go.Proofs.YtnmidppiakdanaaDoor
