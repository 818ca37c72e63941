/-
  PLAIN WORDS on taking locks: a lock put into its place, and what comes of all that a form needs. No Go text is walked here.
  Conditions: each fact bears its own.
-/
import Derived.Test.YtabbjcngilocnaaDoorFo1
import Derived.Test.YtabbjcngilocnaaDoorNd0
namespace Go.Proofs.YtabbjcngilocnaaDoor
open Go.RowKit
set_option linter.unusedVariables false
set_option linter.unusedSimpArgs false

/-- Where a lock would stand. -/
def cutN (gs : List LkI) (x : LkI) : Nat := (gs.takeWhile (fun y => ltL y x)).length

theorem takeWhile_cut {gs : List LkI} {x : LkI} : ∀ {i : Nat}, CutAt gs x i → (gs.takeWhile (fun y => ltL y x)).length = i := by
  induction gs with
  | nil => intro i h; have := h.1; simp at this; simp [this]
  | cons y ys ih =>
    intro i h
    cases i with
    | zero =>
      have := h.2.2 0 y (Nat.le_refl _) rfl
      simp [List.takeWhile_cons, this]
    | succ i =>
      have h0 := h.2.1 0 y (by omega) rfl
      have h1 : CutAt ys x i := ⟨by have := h.1; simp at this; omega, fun k z hk hz => h.2.1 (k + 1) z (by omega) (by simpa using hz), fun k z hk hz => h.2.2 (k + 1) z (by omega) (by simpa using hz)⟩
      simp [List.takeWhile_cons, h0, ih h1]

theorem cutN_of {gs : List LkI} {x : LkI} {i : Nat} (h : CutAt gs x i) : cutN gs x = i := takeWhile_cut h

theorem cut_of_sl {gs : List LkI} (hs : SL gs) (x : LkI) : CutAt gs x (cutN gs x) := by
  unfold cutN
  induction gs with
  | nil => exact ⟨by simp, fun k y hk hy => by simp at hy, fun k y hk hy => by simp at hy⟩
  | cons y ys ih =>
    have hp := List.pairwise_cons.1 hs
    have h1 := ih hp.2
    cases q : ltL y x
    · simp only [List.takeWhile_cons, q]
      refine ⟨by simp, fun k z hk hz => by simp at hk, fun k z hk hz => ?_⟩
      cases k with
      | zero => simp at hz; rw [← hz]; exact q
      | succ k =>
        have hm : z ∈ ys := List.mem_of_getElem? (by simpa using hz)
        cases q2 : ltL z x
        · rfl
        · rw [ltL_trans (hp.1 z hm) q2] at q; cases q
    · simp only [List.takeWhile_cons, q, if_true, List.length_cons]
      refine ⟨by have := h1.1; simp; omega, fun k z hk hz => ?_, fun k z hk hz => ?_⟩
      · cases k with
        | zero => simp at hz; rw [← hz]; exact q
        | succ k => exact h1.2.1 k z (by omega) (by simpa using hz)
      · cases k with
        | zero => omega
        | succ k => exact h1.2.2 k z (by omega) (by simpa using hz)

/-- A lock put into its place. -/
def putL (gs : List LkI) (x : LkI) : List LkI := gs.take (cutN gs x) ++ x :: gs.drop (cutN gs x)

theorem putL_len (gs : List LkI) (x : LkI) : (putL gs x).length = gs.length + 1 := by
  unfold putL
  simp only [List.length_append, List.length_cons, List.length_take, List.length_drop]
  have : cutN gs x ≤ gs.length := by unfold cutN; exact (List.takeWhile_prefix _).length_le
  omega

theorem mem_putL {gs : List LkI} {x y : LkI} : y ∈ putL gs x ↔ y = x ∨ y ∈ gs := by
  unfold putL
  rw [List.mem_append, List.mem_cons]
  have h : y ∈ gs ↔ y ∈ gs.take (cutN gs x) ∨ y ∈ gs.drop (cutN gs x) := by
    rw [← List.mem_append, List.take_append_drop]
  rw [h]
  constructor
  · rintro (h | h | h)
    · exact .inr (.inl h)
    · exact .inl h
    · exact .inr (.inr h)
  · rintro (h | h | h)
    · exact .inr (.inl h)
    · exact .inl h
    · exact .inr (.inr h)

/-- Two locks want one place. -/
def keyB (x y : LkI) : Prop := x.e = y.e ∧ x.c = y.c ∧ x.p = y.p

theorem ltL_total {x y : LkI} (h : ltL x y = false) (hk : ¬ keyB x y) : ltL y x = true := by
  unfold keyB at hk
  simp only [ltL, decide_eq_true_eq, decide_eq_false_iff_not] at *
  omega

theorem form_none_iff {gs : List LkI} (ho : ∀ x ∈ gs, okL x = true) {t : LkI} : formL gs t.e t.c t.p = 0 ↔ ∀ x ∈ gs, ¬ keyB x t := by
  induction gs with
  | nil => simp [formL]
  | cons y ys ih =>
    have h1 := ih (fun x hx => ho x (by simp [hx]))
    unfold formL
    by_cases q : y.e = t.e ∧ y.c = t.c ∧ y.p = t.p
    · rw [if_pos q]
      have hy := ho y (by simp)
      simp [okL, inR] at hy
      constructor
      · intro h; omega
      · intro h; exact absurd q (h y (by simp))
    · rw [if_neg q, h1]
      constructor
      · intro h x hx
        rcases List.mem_cons.1 hx with rfl | hx
        · exact q
        · exact h x hx
      · intro h x hx; exact h x (by simp [hx])

theorem putL_SL {gs : List LkI} (hs : SL gs) (ho : ∀ x ∈ gs, okL x = true) {t : LkI} (h : formL gs t.e t.c t.p = 0) : SL (putL gs t) := by
  have hn := (form_none_iff ho).1 h
  have hc := cut_of_sl hs t
  unfold SL putL
  have hlen : cutN gs t ≤ gs.length := hc.1
  have hT : ∀ a ∈ gs.take (cutN gs t), ltL a t = true := by
    intro a ha
    obtain ⟨k, hk⟩ := List.mem_iff_getElem?.1 ha
    rw [List.getElem?_take] at hk
    split at hk
    · exact hc.2.1 k a (by assumption) hk
    · cases hk
  have hD : ∀ a ∈ gs.drop (cutN gs t), ltL t a = true := by
    intro a ha
    obtain ⟨k, hk⟩ := List.mem_iff_getElem?.1 ha
    rw [List.getElem?_drop] at hk
    exact ltL_total (hc.2.2 _ a (by omega) hk) (hn a (List.mem_of_getElem? hk))
  have hp : (gs.take (cutN gs t) ++ gs.drop (cutN gs t)).Pairwise (fun a b => ltL a b = true) := by rw [List.take_append_drop]; exact hs
  obtain ⟨p1, p2, p3⟩ := List.pairwise_append.1 hp
  refine List.pairwise_append.2 ⟨p1, List.pairwise_cons.2 ⟨hD, p2⟩, fun a ha b hb => ?_⟩
  rcases List.mem_cons.1 hb with rfl | hb
  · exact hT a ha
  · exact p3 a ha b hb

theorem formL_cons (y : LkI) (ys : List LkI) (e c p : Int) : formL (y :: ys) e c p = if y.e = e ∧ y.c = c ∧ y.p = p then y.f else formL ys e c p := rfl

theorem formL_app (a b : List LkI) (e c p : Int) : formL (a ++ b) e c p = if (∃ x ∈ a, x.e = e ∧ x.c = c ∧ x.p = p) then formL a e c p else formL b e c p := by
  induction a with
  | nil => simp
  | cons y ys ih =>
    rw [List.cons_append, formL_cons, formL_cons]
    by_cases q : y.e = e ∧ y.c = c ∧ y.p = p
    · rw [if_pos q, if_pos ⟨y, by simp, q⟩, if_pos q]
    · rw [if_neg q, ih]
      by_cases r : ∃ x ∈ ys, x.e = e ∧ x.c = c ∧ x.p = p
      · rw [if_pos r, if_pos (by obtain ⟨x, hx, h⟩ := r; exact ⟨x, by simp [hx], h⟩), if_neg q]
      · rw [if_neg r, if_neg (by
          rintro ⟨x, hx, h⟩
          rcases List.mem_cons.1 hx with hx | hx
          · subst hx; exact q h
          · exact r ⟨x, hx, h⟩)]

theorem formL_put {gs : List LkI} {x t : LkI} (h : ¬ keyB x t) : formL (putL gs x) t.e t.c t.p = formL gs t.e t.c t.p := by
  unfold keyB at h
  unfold putL
  rw [formL_app]
  have e1 : formL (x :: gs.drop (cutN gs x)) t.e t.c t.p = formL (gs.drop (cutN gs x)) t.e t.c t.p := by
    rw [formL_cons, if_neg h]
  rw [e1, ← formL_app, List.take_append_drop]

/-- One lock taken: none where another form has its place. -/
def takeOne (locks all : List LkI) (x : LkI) : Option (List LkI) := if formL locks x.e x.c x.p = 0 then some (putL all x) else if formL locks x.e x.c x.p = x.f then some all else none

/-- The first k needs taken. -/
def takeTo (locks needs : List LkI) : Nat → Option (List LkI)
  | 0 => some locks
  | k + 1 => match takeTo locks needs k with
    | none => none
    | some all => match needs[k]? with
      | none => some all
      | some x => takeOne locks all x

theorem takeTo_next {locks needs all : List LkI} {k : Nat} {x : LkI} (h : takeTo locks needs k = some all) (hx : needs[k]? = some x) : takeTo locks needs (k + 1) = takeOne locks all x := by
  simp [takeTo, h, hx]

theorem takeTo_stuck {locks needs : List LkI} {k m : Nat} (h : takeTo locks needs k = none) (hm : k ≤ m) : takeTo locks needs m = none := by
  induction m with
  | zero => obtain rfl : k = 0 := by omega
            exact h
  | succ m ih =>
    by_cases e : k = m + 1
    · subst e; exact h
    · simp [takeTo, ih (by omega)]

theorem takeOne_cases (locks all : List LkI) (x : LkI) : (formL locks x.e x.c x.p = 0 ∧ takeOne locks all x = some (putL all x)) ∨ (formL locks x.e x.c x.p ≠ 0 ∧ formL locks x.e x.c x.p = x.f ∧ takeOne locks all x = some all) ∨ (formL locks x.e x.c x.p ≠ 0 ∧ formL locks x.e x.c x.p ≠ x.f ∧ takeOne locks all x = none) := by
  unfold takeOne
  by_cases h0 : formL locks x.e x.c x.p = 0
  · exact .inl ⟨h0, by rw [if_pos h0]⟩
  · by_cases h1 : formL locks x.e x.c x.p = x.f
    · exact .inr (.inl ⟨h0, h1, by rw [if_neg h0, if_pos h1]⟩)
    · exact .inr (.inr ⟨h0, h1, by rw [if_neg h0, if_neg h1]⟩)

/-- What stands while locks are taken. -/
structure TkS (locks needs : List LkI) (k : Nat) (all : List LkI) : Prop where
  tk : takeTo locks needs k = some all
  sl : SL all
  ok : ∀ x ∈ all, okL x = true
  len : all.length ≤ locks.length + k
  low : locks.length ≤ all.length
  same : ∀ j x, k ≤ j → needs[j]? = some x → formL all x.e x.c x.p = formL locks x.e x.c x.p
  old : ∀ x ∈ locks, x ∈ all

theorem TkS.zero {locks : List LkI} (needs : List LkI) (hs : SL locks) (ho : ∀ x ∈ locks, okL x = true) : TkS locks needs 0 locks :=
  ⟨rfl, hs, ho, by omega, by omega, fun _ _ _ _ => rfl, fun _ h => h⟩

theorem TkS.stay {locks needs all : List LkI} {k : Nat} {x : LkI} (h : TkS locks needs k all) (hx : needs[k]? = some x) (h0 : formL locks x.e x.c x.p ≠ 0) (h1 : formL locks x.e x.c x.p = x.f) : TkS locks needs (k + 1) all :=
  ⟨by rw [takeTo_next h.tk hx, takeOne, if_neg h0, if_pos h1], h.sl, h.ok, by have := h.len; omega, h.low, fun j y hj hy => h.same j y (by omega) hy, h.old⟩

theorem TkS.put {locks needs all : List LkI} {k : Nat} {x : LkI} (h : TkS locks needs k all) (hn : SL needs) (hx : needs[k]? = some x) (hok : okL x = true) (h0 : formL locks x.e x.c x.p = 0) : TkS locks needs (k + 1) (putL all x) := by
  have hf : formL all x.e x.c x.p = 0 := (h.same k x (Nat.le_refl _) hx).trans h0
  refine ⟨by rw [takeTo_next h.tk hx, takeOne, if_pos h0], putL_SL h.sl h.ok hf, fun y hy => ?_, by rw [putL_len]; have := h.len; omega, by rw [putL_len]; have := h.low; omega, fun j y hj hy => ?_, fun y hy => mem_putL.2 (.inr (h.old y hy))⟩
  · rcases mem_putL.1 hy with rfl | hy
    · exact hok
    · exact h.ok y hy
  · have hkl : k < needs.length := by
      by_cases q : k < needs.length
      · exact q
      · rw [List.getElem?_eq_none (by omega)] at hx; cases hx
    have hjl : j < needs.length := by
      by_cases q : j < needs.length
      · exact q
      · rw [List.getElem?_eq_none (by omega)] at hy; cases hy
    have hlt := List.pairwise_iff_getElem.1 hn k j hkl hjl (by omega)
    rw [List.getElem?_eq_getElem hkl] at hx
    rw [List.getElem?_eq_getElem hjl] at hy
    rw [Option.some.inj hx, Option.some.inj hy] at hlt
    rw [formL_put (by unfold keyB; simp only [ltL, decide_eq_true_eq] at hlt; omega)]
    exact h.same j y (by omega) (by rw [List.getElem?_eq_getElem hjl]; exact hy)

theorem listTo_up (s : Int) : ∀ k, (listTo s k).Pairwise (fun a b => a < b) ∧ ∀ x ∈ listTo s k, 1 ≤ x ∧ x ≤ (k : Int)
  | 0 => by simp [listTo]
  | k + 1 => by
    obtain ⟨h1, h2⟩ := listTo_up s k
    unfold listTo
    split
    · refine ⟨List.pairwise_append.2 ⟨h1, by simp, fun a ha b hb => ?_⟩, fun x hx => ?_⟩
      · simp at hb
        have := h2 a ha
        omega
      · rcases List.mem_append.1 hx with q | q
        · have := h2 x q; omega
        · simp at q; omega
    · exact ⟨h1, fun x hx => by have := h2 x hx; omega⟩

theorem needAt_SL (e f : Int) (k : Nat) {ps : List Int} (h : ps.Pairwise (fun a b => a < b)) : SL (needAt e f k ps) := by
  unfold SL needAt
  rw [List.pairwise_map]
  exact h.imp (fun {a b} q => by simp [ltL, q])

theorem mem_needOne {zs : List Int} {e f s : Int} {k : Nat} {x : LkI} (h : x ∈ needOne zs e f s k) : x.e = e ∧ x.c = (k : Int) ∧ (1 ≤ x.p ∧ x.p ≤ 8) ∧ x.f = f := by
  unfold needOne at h
  split at h
  · simp only [needAt, List.mem_map] at h
    obtain ⟨p, hp, rfl⟩ := h
    exact ⟨rfl, rfl, (listTo_up s 8).2 p hp, rfl⟩
  · cases h

theorem needTo_up (zs : List Int) (e f s : Int) : ∀ k, SL (needTo zs e f s k) ∧ ∀ x ∈ needTo zs e f s k, x.e = e ∧ (0 ≤ x.c ∧ x.c < (k : Int)) ∧ (1 ≤ x.p ∧ x.p ≤ 8) ∧ x.f = f
  | 0 => by simp [needTo, SL]
  | k + 1 => by
    obtain ⟨h1, h2⟩ := needTo_up zs e f s k
    unfold needTo
    refine ⟨List.pairwise_append.2 ⟨h1, ?_, fun a ha b hb => ?_⟩, fun x hx => ?_⟩
    · unfold needOne
      split
      · exact needAt_SL e f k (listTo_up s 8).1
      · exact List.Pairwise.nil
    · have ga := h2 a ha
      have gb := mem_needOne hb
      simp only [ltL, decide_eq_true_eq]
      omega
    · rcases List.mem_append.1 hx with q | q
      · have := h2 x q; omega
      · have := mem_needOne q; omega

theorem need_okL {zs : List Int} {e f s : Int} (h : needCode zs e f s = 0) : SL (needTo zs e f s zs.length) ∧ ∀ x ∈ needTo zs e f s zs.length, okL x = true := by
  obtain ⟨h0, h1, h2, h3⟩ := need_ok h
  obtain ⟨u1, u2⟩ := needTo_up zs e f s zs.length
  refine ⟨u1, fun x hx => ?_⟩
  have hl := (cl_ok h0).1
  obtain ⟨q1, q2, q3, q4⟩ := u2 x hx
  rw [inR_iff] at h1 h2
  simp only [okL, Bool.and_eq_true, inR_iff]
  omega

/-- The code and the locks of taking. -/
def tkCode (locks needs : List LkI) : Int := match takeTo locks needs needs.length with
  | none => 6
  | some all => if 200 < all.length then 2 else 0

def tkL (locks needs : List LkI) : List LkI := match takeTo locks needs needs.length with
  | none => []
  | some all => if 200 < all.length then [] else all

theorem tk_taken {locks needs : List LkI} {k : Nat} (h : takeTo locks needs k = none) (hk : k ≤ needs.length) : tkCode locks needs = 6 ∧ tkL locks needs = [] := by
  have := takeTo_stuck h hk
  simp [tkCode, tkL, this]

theorem tk_many {locks needs all : List LkI} (h : takeTo locks needs needs.length = some all) (hm : 200 < all.length) : tkCode locks needs = 2 ∧ tkL locks needs = [] := by
  simp [tkCode, tkL, h, hm]

theorem tk_fine {locks needs all : List LkI} (h : takeTo locks needs needs.length = some all) (hm : ¬ 200 < all.length) : tkCode locks needs = 0 ∧ tkL locks needs = all := by
  simp [tkCode, tkL, h, hm]

theorem found_formS {gs : List LkI} (hs : SL gs) (ho : ∀ x ∈ gs, okL x = true) {t : LkI} {i : Nat} {b : Bool} (h : CutAt gs t i) (hb : b = true ↔ ∃ x, gs[i]? = some x ∧ cfL x t = 0) : (b = false ∧ formL gs t.e t.c t.p = 0) ∨ (b = true ∧ ∃ x, gs[i]? = some x ∧ formL gs t.e t.c t.p = x.f ∧ x.f ≠ 0) := by
  have hf := parts_form hs h
  cases b
  · refine .inl ⟨rfl, ?_⟩
    rw [hf]
    cases hi : gs[i]? with
    | none => rfl
    | some x =>
      show (if cfL x t = 0 then x.f else 0) = 0
      rw [if_neg]
      intro q
      have := hb.2 ⟨x, hi, q⟩
      cases this
  · obtain ⟨x, hx, q⟩ := hb.1 rfl
    refine .inr ⟨rfl, x, hx, ?_, ?_⟩
    · rw [hf, hx]
      show (if cfL x t = 0 then x.f else 0) = x.f
      rw [if_pos q]
    · have := ho x (List.mem_of_getElem? hx)
      simp [okL, inR] at this
      omega

end Go.Proofs.YtabbjcngilocnaaDoor
