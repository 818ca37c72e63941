/-
  PLAIN WORDS on grants: sets of principals joined and met, rising lists of grants, a set given to a role, one step of the rules. No Go text is walked here.
  Conditions: each fact bears its own.
-/
import Derived.Test.YtaeigimgobilaaaGreatDoorRol0
import Derived.Test.YtaeigimgobilaaaGreatDoorPlain2
namespace Go.Proofs.YtaeigimgobilaaaGreatDoor
open Go.RowKit

/-! sets -/

theorem or_nat (a b : Nat) (ha : a < 256) (hb : b < 256) : bits .or .i64 (a : Int) (b : Int) = ((a ||| b : Nat) : Int) := by
  have hx : a ||| b < 2 ^ 8 := Nat.or_lt_two_pow (by omega) (by omega)
  have ea : (BitVec.ofInt 64 (a : Int)).toNat = a := by rw [BitVec.ofInt_natCast, BitVec.toNat_ofNat]; exact Nat.mod_eq_of_lt (by omega)
  have eb : (BitVec.ofInt 64 (b : Int)).toNat = b := by rw [BitVec.ofInt_natCast, BitVec.toNat_ofNat]; exact Nat.mod_eq_of_lt (by omega)
  show IntKind.i64.wrap ((BitVec.ofInt 64 (a : Int) ||| BitVec.ofInt 64 (b : Int)).toNat : Int) = _
  rw [BitVec.toNat_or, ea, eb, IntKind.wrap_i64]
  omega

theorem and_nat (a b : Nat) (ha : a < 256) (hb : b < 256) : bits .and .i64 (a : Int) (b : Int) = ((a &&& b : Nat) : Int) := by
  have hx : a &&& b < 2 ^ 8 := Nat.and_lt_two_pow _ (by omega)
  have ea : (BitVec.ofInt 64 (a : Int)).toNat = a := by rw [BitVec.ofInt_natCast, BitVec.toNat_ofNat]; exact Nat.mod_eq_of_lt (by omega)
  have eb : (BitVec.ofInt 64 (b : Int)).toNat = b := by rw [BitVec.ofInt_natCast, BitVec.toNat_ofNat]; exact Nat.mod_eq_of_lt (by omega)
  show IntKind.i64.wrap ((BitVec.ofInt 64 (a : Int) &&& BitVec.ofInt 64 (b : Int)).toNat : Int) = _
  rw [BitVec.toNat_and, ea, eb, IntKind.wrap_i64]
  omega

/-- A set: 0 to 255. -/
def setB (s : Int) : Prop := 0 ≤ s ∧ s ≤ 255
abbrev orI (a b : Int) : Int := bits .or .i64 a b
abbrev andI (a b : Int) : Int := bits .and .i64 a b

theorem or_set {a b : Int} (ha : setB a) (hb : setB b) : setB (orI a b) := by
  obtain ⟨A, rfl⟩ := Int.eq_ofNat_of_zero_le ha.1
  obtain ⟨B, rfl⟩ := Int.eq_ofNat_of_zero_le hb.1
  have h1 := ha.2
  have h2 := hb.2
  have hx : A ||| B < 2 ^ 8 := Nat.or_lt_two_pow (by omega) (by omega)
  rw [orI, or_nat A B (by omega) (by omega)]
  exact ⟨by omega, by omega⟩

theorem and_set {a b : Int} (ha : setB a) (hb : setB b) : setB (andI a b) := by
  obtain ⟨A, rfl⟩ := Int.eq_ofNat_of_zero_le ha.1
  obtain ⟨B, rfl⟩ := Int.eq_ofNat_of_zero_le hb.1
  have h1 := ha.2
  have h2 := hb.2
  have hx : A &&& B < 2 ^ 8 := Nat.and_lt_two_pow _ (by omega)
  rw [andI, and_nat A B (by omega) (by omega)]
  exact ⟨by omega, by omega⟩

theorem hasI_or {a b : Int} (ha : setB a) (hb : setB b) (p : Int) : hasI (orI a b) p = (hasI a p || hasI b p) := by
  obtain ⟨A, rfl⟩ := Int.eq_ofNat_of_zero_le ha.1
  obtain ⟨B, rfl⟩ := Int.eq_ofNat_of_zero_le hb.1
  have h1 := ha.2
  have h2 := hb.2
  rw [orI, or_nat A B (by omega) (by omega)]
  simp [hasI]

theorem hasI_and {a b : Int} (ha : setB a) (hb : setB b) (p : Int) : hasI (andI a b) p = (hasI a p && hasI b p) := by
  obtain ⟨A, rfl⟩ := Int.eq_ofNat_of_zero_le ha.1
  obtain ⟨B, rfl⟩ := Int.eq_ofNat_of_zero_le hb.1
  have h1 := ha.2
  have h2 := hb.2
  rw [andI, and_nat A B (by omega) (by omega)]
  simp [hasI]

theorem hasI_zero (p : Int) : hasI 0 p = false := by simp [hasI]

theorem set_ext {a b : Int} (ha : setB a) (hb : setB b) (h : ∀ p, 1 ≤ p → p ≤ 8 → hasI a p = hasI b p) : a = b := by
  obtain ⟨A, rfl⟩ := Int.eq_ofNat_of_zero_le ha.1
  obtain ⟨B, rfl⟩ := Int.eq_ofNat_of_zero_le hb.1
  have h1 := ha.2
  have h2 := hb.2
  have e : A = B := by
    apply Nat.eq_of_testBit_eq
    intro i
    by_cases q : i < 8
    · have := h ((i : Int) + 1) (by omega) (by omega)
      simpa [hasI] using this
    · have hi : 256 ≤ 2 ^ i := by
        have : 2 ^ 8 ≤ 2 ^ i := Nat.pow_le_pow_right (by omega) (by omega)
        omega
      rw [Nat.testBit_lt_two_pow (by omega), Nat.testBit_lt_two_pow (by omega)]
  rw [e]

theorem hasI_high {a : Int} (ha : setB a) {p : Int} (h : hasI a p = true) : p ≤ 8 := by
  by_cases q : p ≤ 8
  · exact q
  · obtain ⟨A, rfl⟩ := Int.eq_ofNat_of_zero_le ha.1
    have h1 := ha.2
    have hi : 256 ≤ 2 ^ (p - 1).toNat := by
      have : 2 ^ 8 ≤ 2 ^ (p - 1).toNat := Nat.pow_le_pow_right (by omega) (by omega)
      omega
    rw [hasI, Nat.testBit_lt_two_pow (by rw [Int.toNat_natCast]; omega)] at h
    cases h

theorem or_le {a b : Int} (ha : setB a) (hb : setB b) : a ≤ orI a b := by
  obtain ⟨A, rfl⟩ := Int.eq_ofNat_of_zero_le ha.1
  obtain ⟨B, rfl⟩ := Int.eq_ofNat_of_zero_le hb.1
  have h1 := ha.2
  have h2 := hb.2
  rw [orI, or_nat A B (by omega) (by omega)]
  have : A ≤ A ||| B := Nat.left_le_or
  omega

theorem or_pos {a b : Int} (ha : setB a) (hb : setB b) (h : 1 ≤ b) : 1 ≤ orI a b := by
  obtain ⟨A, rfl⟩ := Int.eq_ofNat_of_zero_le ha.1
  obtain ⟨B, rfl⟩ := Int.eq_ofNat_of_zero_le hb.1
  have h1 := ha.2
  have h2 := hb.2
  rw [orI, or_nat A B (by omega) (by omega)]
  have : B ≤ A ||| B := Nat.right_le_or
  omega

theorem bit_set {p : Int} (h0 : 1 ≤ p) (h1 : p ≤ 8) : setB (bitI p) := by
  have hi : 2 ^ (p - 1).toNat ≤ 2 ^ 7 := Nat.pow_le_pow_right (by omega) (by omega)
  unfold bitI setB
  generalize 2 ^ (p - 1).toNat = n at *
  omega

theorem hasI_bit {p q : Int} (h0 : 1 ≤ p) (k0 : 1 ≤ q) : hasI (bitI p) q = decide (q = p) := by
  unfold bitI hasI
  rw [Int.toNat_natCast, Nat.testBit_two_pow]
  by_cases e : q = p
  · subst e; simp
  · rw [decide_eq_false e, decide_eq_false]
    omega

/-! grants -/

abbrev GrI := RoI × Int

/-- The set of a role. -/
def ofG : List GrI → RoI → Int
  | [], _ => 0
  | x :: xs, r => if x.1 = r then x.2 else ofG xs r

/-- A set given to a role, in a rising list. -/
def insG : List GrI → RoI → Int → List GrI
  | [], r, s => [(r, s)]
  | x :: xs, r, s => if x.1 = r then (r, orI x.2 s) :: xs else if ltR r x.1 = true then (r, s) :: x :: xs else x :: insG xs r s

/-- Grants without a fault. -/
structure SG (gs : List GrI) : Prop where
  up : gs.Pairwise (fun a b => ltR a.1 b.1 = true)
  ro : ∀ x ∈ gs, roleB x.1.1 x.1.2 = true
  st : ∀ x ∈ gs, 1 ≤ x.2 ∧ x.2 ≤ 255

theorem sg_nil : SG [] := ⟨List.Pairwise.nil, fun _ h => by simp at h, fun _ h => by simp at h⟩

theorem SG.tail {x : GrI} {xs : List GrI} (h : SG (x :: xs)) : SG xs := ⟨(List.pairwise_cons.1 h.up).2, fun y hy => h.ro y (by simp [hy]), fun y hy => h.st y (by simp [hy])⟩

theorem ofG_set {gs : List GrI} (h : SG gs) (r : RoI) : setB (ofG gs r) := by
  induction gs with
  | nil => exact ⟨by simp [ofG], by simp [ofG]⟩
  | cons x xs ih =>
    unfold ofG
    split
    · have := h.st x (by simp)
      exact ⟨by omega, by omega⟩
    · exact ih h.tail

theorem ofG_none {gs : List GrI} {r : RoI} (h : ∀ x ∈ gs, x.1 ≠ r) : ofG gs r = 0 := by
  induction gs with
  | nil => rfl
  | cons x xs ih =>
    unfold ofG
    rw [if_neg (h x (by simp))]
    exact ih (fun y hy => h y (by simp [hy]))

theorem ofG_mem {gs : List GrI} (h : SG gs) {x : GrI} (hx : x ∈ gs) : ofG gs x.1 = x.2 := by
  induction gs with
  | nil => cases hx
  | cons y ys ih =>
    unfold ofG
    rcases List.mem_cons.1 hx with rfl | hx'
    · simp
    · have := (List.pairwise_cons.1 h.up).1 x hx'
      rw [if_neg (fun e => by rw [e, ltR_irrefl] at this; cases this)]
      exact ih h.tail hx'

theorem ofG_some {gs : List GrI} {r : RoI} (h : ofG gs r ≠ 0) : (r, ofG gs r) ∈ gs := by
  induction gs with
  | nil => exact absurd rfl h
  | cons y ys ih =>
    unfold ofG at h ⊢
    split
    · rename_i e
      rw [← e]
      simp
    · rename_i e
      rw [if_neg e] at h
      exact List.mem_cons_of_mem _ (ih h)

theorem sg_ext {a b : List GrI} (ha : SG a) (hb : SG b) (h : ∀ r, ofG a r = ofG b r) : a = b := by
  have key : ∀ {c : List GrI}, SG c → ∀ r, r ∈ c.map Prod.fst ↔ ofG c r ≠ 0 := by
    intro c hc r
    constructor
    · intro hr
      obtain ⟨x, hx, rfl⟩ := List.mem_map.1 hr
      rw [ofG_mem hc hx]
      have := hc.st x hx
      omega
    · intro hr
      exact List.mem_map.2 ⟨_, ofG_some hr, rfl⟩
  have e : a.map Prod.fst = b.map Prod.fst := by
    refine ss_unique _ _ (List.pairwise_map.2 ha.up) (List.pairwise_map.2 hb.up) (fun r => ?_)
    rw [key ha r, key hb r, h r]
  have back : ∀ {c : List GrI}, SG c → c = (c.map Prod.fst).map (fun r => (r, ofG c r)) := by
    intro c hc
    rw [List.map_map]
    conv => lhs; rw [← List.map_id c]
    refine List.map_congr_left (fun x hx => ?_)
    simp [ofG_mem hc hx]
  rw [back ha, back hb, e]
  exact List.map_congr_left (fun r _ => by rw [h r])

theorem insG_lo {gs : List GrI} {r : RoI} {s : Int} {q : RoI} (hq : ltR q r = true) (h : ∀ x ∈ gs, ltR q x.1 = true) : ∀ x ∈ insG gs r s, ltR q x.1 = true := by
  induction gs with
  | nil =>
    intro x hx
    simp [insG] at hx
    rw [hx]; exact hq
  | cons y ys ih =>
    intro x hx
    unfold insG at hx
    split at hx
    · rcases List.mem_cons.1 hx with rfl | hx'
      · exact hq
      · exact h x (by simp [hx'])
    · split at hx
      · rcases List.mem_cons.1 hx with rfl | hx'
        · exact hq
        · exact h x hx'
      · rcases List.mem_cons.1 hx with rfl | hx'
        · exact h x (by simp)
        · exact ih (fun z hz => h z (by simp [hz])) x hx'

theorem sg_ins {gs : List GrI} (h : SG gs) {r : RoI} {s : Int} (hr : roleB r.1 r.2 = true) (hs : 1 ≤ s ∧ s ≤ 255) : SG (insG gs r s) := by
  induction gs with
  | nil => exact ⟨by simp [insG], fun x hx => by simp [insG] at hx; rw [hx]; exact hr, fun x hx => by simp [insG] at hx; rw [hx]; exact hs⟩
  | cons y ys ih =>
    have hp := List.pairwise_cons.1 h.up
    have hy := h.st y (by simp)
    unfold insG
    split
    · rename_i e
      refine ⟨List.pairwise_cons.2 ⟨fun x hx => by rw [← e]; exact hp.1 x hx, hp.2⟩, fun x hx => ?_, fun x hx => ?_⟩
      · rcases List.mem_cons.1 hx with rfl | hx'
        · exact hr
        · exact h.ro x (by simp [hx'])
      · rcases List.mem_cons.1 hx with rfl | hx'
        · exact ⟨or_pos ⟨by omega, by omega⟩ ⟨by omega, by omega⟩ hs.1, (or_set (a := y.2) (b := s) ⟨by omega, by omega⟩ ⟨by omega, by omega⟩).2⟩
        · exact h.st x (by simp [hx'])
    · split
      · rename_i e q
        refine ⟨List.pairwise_cons.2 ⟨fun x hx => ?_, h.up⟩, fun x hx => ?_, fun x hx => ?_⟩
        · rcases List.mem_cons.1 hx with rfl | hx'
          · exact q
          · exact ltR_trans q (hp.1 x hx')
        · rcases List.mem_cons.1 hx with rfl | hx'
          · exact hr
          · exact h.ro x hx'
        · rcases List.mem_cons.1 hx with rfl | hx'
          · exact hs
          · exact h.st x hx'
      · rename_i e q
        have i := ih h.tail
        have q2 : ltR y.1 r = true := ltR_total (by simpa using q) (fun e2 => e e2.symm)
        refine ⟨List.pairwise_cons.2 ⟨insG_lo q2 hp.1, i.up⟩, fun x hx => ?_, fun x hx => ?_⟩
        · rcases List.mem_cons.1 hx with rfl | hx'
          · exact h.ro x (by simp)
          · exact i.ro x hx'
        · rcases List.mem_cons.1 hx with rfl | hx'
          · exact h.st x (by simp)
          · exact i.st x hx'

theorem zero_or {s : Int} (hs : setB s) : orI 0 s = s := by
  obtain ⟨B, rfl⟩ := Int.eq_ofNat_of_zero_le hs.1
  have h2 := hs.2
  have := or_nat 0 B (by omega) (by omega)
  simpa using this

theorem ofG_ins {gs : List GrI} (h : SG gs) {r : RoI} {s : Int} (hs : 1 ≤ s ∧ s ≤ 255) (r' : RoI) : ofG (insG gs r s) r' = if r' = r then orI (ofG gs r) s else ofG gs r' := by
  induction gs with
  | nil =>
    simp only [insG, ofG]
    by_cases e : r' = r
    · subst e; simp [zero_or ⟨by omega, hs.2⟩]
    · rw [if_neg (fun e2 => e e2.symm), if_neg e]
  | cons y ys ih =>
    have hp := List.pairwise_cons.1 h.up
    unfold insG
    by_cases e : y.1 = r
    · rw [if_pos e]
      unfold ofG
      by_cases e2 : r' = r
      · subst e2; simp [e]
      · rw [if_neg (fun q => e2 q.symm), if_neg e2, if_neg (fun q => e2 (by rw [← q, e]))]
    · rw [if_neg e]
      by_cases q : ltR r y.1 = true
      · rw [if_pos q]
        by_cases e2 : r' = r
        · subst e2
          have n : ofG (y :: ys) r' = 0 := by
            refine ofG_none (fun x hx e3 => ?_)
            have : ltR r' x.1 = true := by
              rcases List.mem_cons.1 hx with rfl | hx'
              · exact q
              · exact ltR_trans q (hp.1 x hx')
            rw [e3, ltR_irrefl] at this
            cases this
          rw [n, if_pos rfl, zero_or ⟨by omega, hs.2⟩]
          simp [ofG]
        · rw [if_neg e2]
          show ofG ((r, s) :: y :: ys) r' = _
          rw [ofG, if_neg (fun q => e2 q.symm)]
      · rw [if_neg q, ofG, ih h.tail]
        by_cases e2 : r' = r
        · subst e2
          simp [e, ofG]
        · simp [e2, ofG]

/-! how many there may be -/

theorem rising_len : ∀ (l : List Int) (a b : Int), l.Pairwise (· < ·) → (∀ x ∈ l, a ≤ x ∧ x < b) → (l.length : Int) ≤ max 0 (b - a)
  | [], a, b, _, _ => by simp; omega
  | x :: xs, a, b, h, k => by
    have hp := List.pairwise_cons.1 h
    have hx := k x (by simp)
    have := rising_len xs (x + 1) b hp.2 (fun y hy => ⟨by have := hp.1 y hy; omega, (k y (by simp [hy])).2⟩)
    simp only [List.length_cons]
    omega

theorem sg_len {gs : List GrI} (h : SG gs) : gs.length ≤ 40 := by
  have hb : ∀ x ∈ gs, 1 ≤ x.1.1 ∧ x.1.1 ≤ 8 ∧ 1 ≤ x.1.2 ∧ x.1.2 ≤ 5 := by
    intro x hx
    have := h.ro x hx
    simp [roleB, prinB, nameB] at this
    omega
  have := rising_len (gs.map (fun x => x.1.1 * 5 + x.1.2)) 6 46 (List.pairwise_map.2 (h.up.imp_of_mem (fun {a b} ha hb' q => ?_))) (fun y hy => ?_)
  · simp at this; omega
  · have h1 := hb a ha
    have h2 := hb b hb'
    simp [ltR] at q
    omega
  · obtain ⟨x, hx, rfl⟩ := List.mem_map.1 hy
    have := hb x hx
    omega

/-! the sum of the sets: it rises -/

def sumG (gs : List GrI) : Int := (gs.map Prod.snd).sum

theorem sum_ins {gs : List GrI} (h : SG gs) {r : RoI} {s : Int} (hs : 1 ≤ s ∧ s ≤ 255) : sumG gs ≤ sumG (insG gs r s) ∧ (sumG gs = sumG (insG gs r s) → insG gs r s = gs) := by
  induction gs with
  | nil => simp [sumG, insG]; omega
  | cons y ys ih =>
    have hy := h.st y (by simp)
    have i := ih h.tail
    unfold insG
    by_cases e : y.1 = r
    · rw [if_pos e]
      have := or_le (a := y.2) (b := s) ⟨by omega, by omega⟩ ⟨by omega, by omega⟩
      simp only [sumG, List.map_cons, List.sum_cons]
      refine ⟨by omega, fun q => ?_⟩
      have : orI y.2 s = y.2 := by omega
      rw [this, ← e]
    · rw [if_neg e]
      by_cases q : ltR r y.1 = true
      · rw [if_pos q]
        simp only [sumG, List.map_cons, List.sum_cons]
        exact ⟨by omega, fun q => by omega⟩
      · rw [if_neg q]
        simp only [sumG, List.map_cons, List.sum_cons] at i ⊢
        refine ⟨by omega, fun q => ?_⟩
        rw [i.2 (by omega)]

theorem sum_bd {gs : List GrI} (h : ∀ x ∈ gs, 1 ≤ x.2 ∧ x.2 ≤ 255) : 0 ≤ sumG gs ∧ sumG gs ≤ 255 * gs.length := by
  induction gs with
  | nil => simp [sumG]
  | cons y ys ih =>
    have hy := h y (by simp)
    have i := ih (fun x hx => h x (by simp [hx]))
    simp only [sumG, List.map_cons, List.sum_cons, List.length_cons] at i ⊢
    omega

theorem sum_le {gs : List GrI} (h : SG gs) : 0 ≤ sumG gs ∧ sumG gs ≤ 10200 := by
  have := sum_bd h.st
  have := sg_len h
  omega

/-! the loop that gives a set to a role -/

def addStep (r : RoI) (s : Int) (o : List GrI × Bool) (x : GrI) : List GrI × Bool :=
  if x.1 = r then (o.1 ++ [(x.1, orI x.2 s)], true)
  else if o.2 = false ∧ ltR r x.1 = true then (o.1 ++ [(r, s), x], true)
  else (o.1 ++ [x], o.2)

def addTo (gs : List GrI) (r : RoI) (s : Int) (k : Nat) : List GrI × Bool := (gs.take k).foldl (addStep r s) ([], false)

theorem addTo_zero (gs : List GrI) (r : RoI) (s : Int) : addTo gs r s 0 = ([], false) := by simp [addTo]

theorem addTo_succ {gs : List GrI} {k : Nat} {x : GrI} (h : gs[k]? = some x) (r : RoI) (s : Int) : addTo gs r s (k + 1) = addStep r s (addTo gs r s k) x := by
  have hk : k < gs.length := by
    by_cases q : k < gs.length
    · exact q
    · rw [List.getElem?_eq_none (by omega)] at h; cases h
  have e : gs[k] = x := by rw [List.getElem?_eq_getElem hk] at h; exact Option.some.inj h
  rw [addTo, List.take_succ_eq_append_getElem hk, List.foldl_append, e]
  rfl

def addEnd (r : RoI) (s : Int) (o : List GrI × Bool) : List GrI := if o.2 = true then o.1 else o.1 ++ [(r, s)]

theorem add_done (r : RoI) (s : Int) : ∀ (gs o : List GrI), (∀ x ∈ gs, x.1 ≠ r) → gs.foldl (addStep r s) (o, true) = (o ++ gs, true)
  | [], o, _ => by simp
  | x :: xs, o, h => by
    rw [List.foldl_cons]
    have : addStep r s (o, true) x = (o ++ [x], true) := by simp [addStep, h x (by simp)]
    rw [this, add_done r s xs _ (fun y hy => h y (by simp [hy]))]
    simp

theorem add_fold (r : RoI) (s : Int) : ∀ (gs o : List GrI), SG gs → addEnd r s (gs.foldl (addStep r s) (o, false)) = o ++ insG gs r s
  | [], o, _ => by simp [addEnd, insG]
  | x :: xs, o, h => by
    have hp := List.pairwise_cons.1 h.up
    rw [List.foldl_cons]
    by_cases e : x.1 = r
    · have : addStep r s (o, false) x = (o ++ [(r, orI x.2 s)], true) := by simp [addStep, e]
      rw [this, add_done r s xs _ (fun y hy q => by have := hp.1 y hy; rw [q, e, ltR_irrefl] at this; cases this)]
      simp [addEnd, insG, e]
    · by_cases q : ltR r x.1 = true
      · have : addStep r s (o, false) x = (o ++ [(r, s), x], true) := by simp [addStep, e, q]
        rw [this, add_done r s xs _ (fun y hy q2 => by have := ltR_trans q (hp.1 y hy); rw [q2, ltR_irrefl] at this; cases this)]
        simp [addEnd, insG, e, q]
      · have : addStep r s (o, false) x = (o ++ [x], false) := by simp [addStep, e, q]
        rw [this, add_fold r s xs _ h.tail]
        simp [insG, e, q]

theorem addTo_all {gs : List GrI} (h : SG gs) (r : RoI) (s : Int) : addEnd r s (addTo gs r s gs.length) = insG gs r s := by
  rw [addTo, List.take_length, add_fold r s gs [] h]
  simp

end Go.Proofs.YtaeigimgobilaaaGreatDoor
