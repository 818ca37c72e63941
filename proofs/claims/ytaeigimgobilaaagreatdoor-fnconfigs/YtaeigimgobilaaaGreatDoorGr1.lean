/-
  PLAIN WORDS on what follows from rules: whom a rule gives its head, one step, the steps from none on, and what has all that follows and nothing else. No Go text is walked here.
  Conditions: each fact bears its own.
-/
import Derived.Test.YtaeigimgobilaaaGreatDoorGr0
namespace Go.Proofs.YtaeigimgobilaaaGreatDoor
open Go.RowKit

/-- The sets of roles of one name, joined, over owners. -/
def linkTo (f : RoI → Int) (n : Int) (ys : List Int) (k : Nat) : Int := (ys.take k).foldl (fun o y => orI o (f (y, n))) 0

theorem linkTo_zero (f : RoI → Int) (n : Int) (ys : List Int) : linkTo f n ys 0 = 0 := by simp [linkTo]

theorem linkTo_succ {ys : List Int} {k : Nat} {y : Int} (h : ys[k]? = some y) (f : RoI → Int) (n : Int) : linkTo f n ys (k + 1) = orI (linkTo f n ys k) (f (y, n)) := by
  have hk : k < ys.length := by
    by_cases q : k < ys.length
    · exact q
    · rw [List.getElem?_eq_none (by omega)] at h; cases h
  have e : ys[k] = y := by rw [List.getElem?_eq_getElem hk] at h; exact Option.some.inj h
  rw [linkTo, List.take_succ_eq_append_getElem hk, List.foldl_append, e]
  rfl

theorem link_fold {f : RoI → Int} (hf : ∀ r, setB (f r)) (n : Int) : ∀ (ys : List Int) (o : Int), setB o → setB (ys.foldl (fun o y => orI o (f (y, n))) o) ∧ ∀ p, hasI (ys.foldl (fun o y => orI o (f (y, n))) o) p = (hasI o p || ys.any (fun y => hasI (f (y, n)) p))
  | [], o, ho => ⟨ho, fun p => by simp⟩
  | y :: ys, o, ho => by
    have := link_fold hf n ys (orI o (f (y, n))) (or_set ho (hf _))
    refine ⟨this.1, fun p => ?_⟩
    rw [List.foldl_cons, this.2 p, hasI_or ho (hf _), List.any_cons, Bool.or_assoc]

theorem linkTo_set {f : RoI → Int} (hf : ∀ r, setB (f r)) (n : Int) (ys : List Int) (k : Nat) : setB (linkTo f n ys k) := (link_fold hf n (ys.take k) 0 ⟨by omega, by omega⟩).1

theorem mem_listTo {s x : Int} : ∀ {k : Nat}, x ∈ listTo s k ↔ 1 ≤ x ∧ x ≤ (k : Int) ∧ hasI s x = true
  | 0 => by simp [listTo]; omega
  | k + 1 => by
    unfold listTo
    split
    · rename_i h
      rw [List.mem_append, List.mem_singleton, mem_listTo (k := k)]
      constructor
      · rintro (q | rfl)
        · exact ⟨q.1, by omega, q.2.2⟩
        · exact ⟨by omega, by omega, h⟩
      · rintro ⟨q1, q2, q3⟩
        by_cases e : x = (k : Int) + 1
        · exact .inr e
        · exact .inl ⟨q1, by omega, q3⟩
    · rename_i h
      rw [mem_listTo (k := k)]
      constructor
      · rintro ⟨q1, q2, q3⟩
        exact ⟨q1, by omega, q3⟩
      · rintro ⟨q1, q2, q3⟩
        by_cases e : x = (k : Int) + 1
        · subst e; exact absurd q3 h
        · exact ⟨q1, by omega, q3⟩

theorem listTo_len (s : Int) : ∀ k, (listTo s k).length ≤ k
  | 0 => by simp [listTo]
  | k + 1 => by
    have := listTo_len s k
    unfold listTo
    split
    · simp; omega
    · omega

/-- Whom a rule gives its head, by the sets of roles. -/
def byF (f : RoI → Int) (r : RuleI) : Int :=
  if r.k = 1 then bitI r.w
  else if r.k = 2 then f (r.oo, r.on)
  else if r.k = 4 then andI (f (r.oo, r.on)) (f (r.to, r.tn))
  else linkTo f r.tn (listTo (f (r.oo, r.on)) 8) (listTo (f (r.oo, r.on)) 8).length

/-- A rule gives its head to p, where m says who has which role. -/
def GivesTo (m : RoI → Int → Prop) (r : RuleI) (p : Int) : Prop :=
  if r.k = 1 then p = r.w
  else if r.k = 2 then m (r.oo, r.on) p
  else if r.k = 4 then m (r.oo, r.on) p ∧ m (r.to, r.tn) p
  else ∃ q, 1 ≤ q ∧ q ≤ 8 ∧ m (r.oo, r.on) q ∧ m (q, r.tn) p

/-- What the plain theory needs of a rule. -/
def okR (r : RuleI) : Prop := roleB r.ho r.hn = true ∧ (r.k = 1 → 1 ≤ r.w ∧ r.w ≤ 8)

theorem byF_set {f : RoI → Int} (hf : ∀ r, setB (f r)) {r : RuleI} (hr : okR r) : setB (byF f r) := by
  unfold byF
  split
  · rename_i e
    exact bit_set (hr.2 e).1 (hr.2 e).2
  · split
    · exact hf _
    · split
      · exact and_set (hf _) (hf _)
      · exact linkTo_set hf _ _ _

theorem byF_has {f : RoI → Int} (hf : ∀ r, setB (f r)) {r : RuleI} (hr : okR r) {p : Int} (hp : 1 ≤ p) : hasI (byF f r) p = true ↔ GivesTo (fun r p => hasI (f r) p = true) r p := by
  unfold byF GivesTo
  split
  · rename_i e
    rw [hasI_bit (hr.2 e).1 hp]
    simp
  · split
    · exact Iff.rfl
    · split
      · rw [hasI_and (hf _) (hf _)]
        simp
      · rw [linkTo, List.take_length, (link_fold hf r.tn _ 0 ⟨by omega, by omega⟩).2 p, hasI_zero, Bool.false_or, List.any_eq_true]
        constructor
        · rintro ⟨q, hq, h⟩
          have := mem_listTo.1 hq
          exact ⟨q, this.1, this.2.1, this.2.2, h⟩
        · rintro ⟨q, h1, h2, h3, h4⟩
          exact ⟨q, mem_listTo.2 ⟨h1, h2, h3⟩, h4⟩

theorem gives_mono {m m' : RoI → Int → Prop} (h : ∀ r p, 1 ≤ p → m r p → m' r p) {r : RuleI} {p : Int} (hp : 1 ≤ p) (g : GivesTo m r p) : GivesTo m' r p := by
  unfold GivesTo at g ⊢
  split
  · rename_i e; rw [if_pos e] at g; exact g
  · rename_i e
    rw [if_neg e] at g
    split
    · rename_i e; rw [if_pos e] at g; exact h _ _ hp g
    · rename_i e
      rw [if_neg e] at g
      split
      · rename_i e; rw [if_pos e] at g; exact ⟨h _ _ hp g.1, h _ _ hp g.2⟩
      · rename_i e
        rw [if_neg e] at g
        obtain ⟨q, h1, h2, h3, h4⟩ := g
        exact ⟨q, h1, h2, h _ _ h1 h3, h _ _ hp h4⟩

/-- A set given to a role, where there is one. -/
def addG (gs : List GrI) (r : RoI) (s : Int) : List GrI := if s = 0 then gs else insG gs r s

theorem sg_add {gs : List GrI} (h : SG gs) {r : RoI} {s : Int} (hr : roleB r.1 r.2 = true) (hs : setB s) : SG (addG gs r s) := by
  unfold addG
  split
  · exact h
  · have := hs.1
    exact sg_ins h hr ⟨by omega, hs.2⟩

theorem has_add {gs : List GrI} (h : SG gs) {r : RoI} {s : Int} (hs : setB s) (r' : RoI) (p : Int) : hasI (ofG (addG gs r s) r') p = true ↔ hasI (ofG gs r') p = true ∨ (r = r' ∧ hasI s p = true) := by
  unfold addG
  split
  · rename_i e
    subst e
    simp [hasI_zero]
  · have := hs.1
    rw [ofG_ins h ⟨by omega, hs.2⟩]
    split
    · rename_i e
      subst e
      rw [hasI_or (ofG_set h _) hs]
      simp
    · rename_i e
      constructor
      · exact fun q => .inl q
      · rintro (q | q)
        · exact q
        · exact absurd q.1.symm e

theorem sum_add {gs : List GrI} (h : SG gs) {r : RoI} {s : Int} (hs : setB s) : sumG gs ≤ sumG (addG gs r s) ∧ (sumG gs = sumG (addG gs r s) → addG gs r s = gs) := by
  unfold addG
  split
  · exact ⟨by omega, fun _ => rfl⟩
  · have := hs.1
    exact sum_ins h ⟨by omega, hs.2⟩

/-- One step over the first k rules: out of gs. -/
def stepTo (zs : List RuleI) (gs : List GrI) (k : Nat) : List GrI := (zs.take k).foldl (fun o z => addG o (z.ho, z.hn) (byF (ofG gs) z)) gs

def stepG (zs : List RuleI) (gs : List GrI) : List GrI := stepTo zs gs zs.length

theorem stepTo_zero (zs : List RuleI) (gs : List GrI) : stepTo zs gs 0 = gs := by simp [stepTo]

theorem stepTo_succ {zs : List RuleI} {k : Nat} {z : RuleI} (h : zs[k]? = some z) (gs : List GrI) : stepTo zs gs (k + 1) = addG (stepTo zs gs k) (z.ho, z.hn) (byF (ofG gs) z) := by
  have hk : k < zs.length := by
    by_cases q : k < zs.length
    · exact q
    · rw [List.getElem?_eq_none (by omega)] at h; cases h
  have e : zs[k] = z := by rw [List.getElem?_eq_getElem hk] at h; exact Option.some.inj h
  rw [stepTo, List.take_succ_eq_append_getElem hk, List.foldl_append, e]
  rfl

theorem step_fold {gs : List GrI} (hg : SG gs) : ∀ (zs : List RuleI) (o : List GrI), (∀ z ∈ zs, okR z) → SG o →
    SG (zs.foldl (fun o z => addG o (z.ho, z.hn) (byF (ofG gs) z)) o) ∧
    (∀ r p, hasI (ofG (zs.foldl (fun o z => addG o (z.ho, z.hn) (byF (ofG gs) z)) o) r) p = true ↔ hasI (ofG o r) p = true ∨ ∃ z ∈ zs, (z.ho, z.hn) = r ∧ hasI (byF (ofG gs) z) p = true) ∧
    sumG o ≤ sumG (zs.foldl (fun o z => addG o (z.ho, z.hn) (byF (ofG gs) z)) o) ∧
    (sumG o = sumG (zs.foldl (fun o z => addG o (z.ho, z.hn) (byF (ofG gs) z)) o) → zs.foldl (fun o z => addG o (z.ho, z.hn) (byF (ofG gs) z)) o = o)
  | [], o, _, ho => ⟨ho, fun r p => by simp, by simp, by simp⟩
  | z :: zs, o, hz, ho => by
    have hs := byF_set (ofG_set hg) (hz z (by simp))
    have h1 := sg_add ho (r := (z.ho, z.hn)) (hz z (by simp)).1 hs
    have h2 := sum_add ho (r := (z.ho, z.hn)) hs
    obtain ⟨i1, i2, i3, i4⟩ := step_fold hg zs _ (fun y hy => hz y (by simp [hy])) h1
    rw [List.foldl_cons]
    refine ⟨i1, fun r p => ?_, by omega, fun q => ?_⟩
    · rw [i2 r p, has_add ho hs]
      constructor
      · rintro ((q | q) | ⟨y, hy, q⟩)
        · exact .inl q
        · exact .inr ⟨z, by simp, q⟩
        · exact .inr ⟨y, by simp [hy], q⟩
      · rintro (q | ⟨y, hy, q⟩)
        · exact .inl (.inl q)
        · rcases List.mem_cons.1 hy with rfl | hy'
          · exact .inl (.inr q)
          · exact .inr ⟨y, hy', q⟩
    · have q1 : sumG o = sumG (addG o (z.ho, z.hn) (byF (ofG gs) z)) := by omega
      have e := h2.2 q1
      rw [i4 (by omega), e]

theorem sg_step {zs : List RuleI} {gs : List GrI} (hz : ∀ z ∈ zs, okR z) (hg : SG gs) : SG (stepG zs gs) := by
  unfold stepG stepTo
  rw [List.take_length]
  exact (step_fold hg zs gs hz hg).1

theorem sg_stepTo {zs : List RuleI} {gs : List GrI} (hz : ∀ z ∈ zs, okR z) (hg : SG gs) (k : Nat) : SG (stepTo zs gs k) :=
  (step_fold hg (zs.take k) gs (fun z h => hz z (List.mem_of_mem_take h)) hg).1

theorem has_step {zs : List RuleI} {gs : List GrI} (hz : ∀ z ∈ zs, okR z) (hg : SG gs) (r : RoI) (p : Int) : hasI (ofG (stepG zs gs) r) p = true ↔ hasI (ofG gs r) p = true ∨ ∃ z ∈ zs, (z.ho, z.hn) = r ∧ hasI (byF (ofG gs) z) p = true := by
  unfold stepG stepTo
  rw [List.take_length]
  exact (step_fold hg zs gs hz hg).2.1 r p

theorem sum_step {zs : List RuleI} {gs : List GrI} (hz : ∀ z ∈ zs, okR z) (hg : SG gs) : sumG gs ≤ sumG (stepG zs gs) ∧ (sumG gs = sumG (stepG zs gs) → stepG zs gs = gs) := by
  unfold stepG stepTo
  rw [List.take_length]
  exact (step_fold hg zs gs hz hg).2.2

/-- The steps from none on. -/
def itG (zs : List RuleI) : Nat → List GrI
  | 0 => []
  | n + 1 => stepG zs (itG zs n)

theorem sg_it {zs : List RuleI} (hz : ∀ z ∈ zs, okR z) : ∀ n, SG (itG zs n)
  | 0 => sg_nil
  | n + 1 => sg_step hz (sg_it hz n)

/-- p has the role r behind n steps. -/
def InN (zs : List RuleI) (n : Nat) (r : RoI) (p : Int) : Prop := hasI (ofG (itG zs n) r) p = true

theorem inN_succ {zs : List RuleI} (hz : ∀ z ∈ zs, okR z) (n : Nat) (r : RoI) {p : Int} (hp : 1 ≤ p) : InN zs (n + 1) r p ↔ InN zs n r p ∨ ∃ z ∈ zs, (z.ho, z.hn) = r ∧ GivesTo (InN zs n) z p := by
  unfold InN
  rw [itG, has_step hz (sg_it hz n)]
  refine or_congr_right (exists_congr (fun z => and_congr_right (fun h => and_congr_right (fun _ => ?_))))
  exact byF_has (ofG_set (sg_it hz n)) (hz z h) hp

theorem inN_mono {zs : List RuleI} (hz : ∀ z ∈ zs, okR z) {n k : Nat} (h : n ≤ k) {r : RoI} {p : Int} (hp : 1 ≤ p) (g : InN zs n r p) : InN zs k r p := by
  induction h with
  | refl => exact g
  | step _ ih => exact (inN_succ hz _ r hp).2 (.inl ih)

/-- Who has which role: some step gives it. -/
def Has (zs : List RuleI) (r : RoI) (p : Int) : Prop := ∃ n, InN zs n r p

/-- What has all that the rules give, has all that follows. -/
theorem has_least {zs : List RuleI} (hz : ∀ z ∈ zs, okR z) {m : RoI → Int → Prop} (h : ∀ z ∈ zs, ∀ p, 1 ≤ p → GivesTo m z p → m (z.ho, z.hn) p) {r : RoI} {p : Int} (hp : 1 ≤ p) (g : Has zs r p) : m r p := by
  obtain ⟨n, g⟩ := g
  induction n generalizing r p with
  | zero => simp [InN, itG, ofG, hasI_zero] at g
  | succ n ih =>
    rcases (inN_succ hz n r hp).1 g with q | ⟨z, h1, h2, h3⟩
    · exact ih hp q
    · rw [← h2]
      exact h z h1 p hp (gives_mono (fun r p hp q => ih hp q) hp h3)

theorem gives_has {zs : List RuleI} (hz : ∀ z ∈ zs, okR z) {z : RuleI} (h : z ∈ zs) {p : Int} (hp : 1 ≤ p) (g : GivesTo (Has zs) z p) : Has zs (z.ho, z.hn) p := by
  have key : ∃ n, GivesTo (InN zs n) z p := by
    unfold GivesTo at g ⊢
    by_cases e1 : z.k = 1
    · simp only [if_pos e1] at g ⊢; exact ⟨0, g⟩
    · simp only [if_neg e1] at g ⊢
      by_cases e2 : z.k = 2
      · simp only [if_pos e2] at g ⊢; exact g
      · simp only [if_neg e2] at g ⊢
        by_cases e4 : z.k = 4
        · simp only [if_pos e4] at g ⊢
          obtain ⟨⟨a, ha⟩, b, hb⟩ := g
          exact ⟨a + b, inN_mono hz (by omega) hp ha, inN_mono hz (by omega) hp hb⟩
        · simp only [if_neg e4] at g ⊢
          obtain ⟨q, h1, h2, ⟨a, ha⟩, b, hb⟩ := g
          exact ⟨a + b, q, h1, h2, inN_mono hz (by omega) h1 ha, inN_mono hz (by omega) hp hb⟩
  obtain ⟨n, g⟩ := key
  exact ⟨n + 1, (inN_succ hz n _ hp).2 (.inr ⟨z, h, rfl, g⟩)⟩

/-- The grants: all that follows, and nothing else. -/
structure AllG (zs : List RuleI) (gs : List GrI) : Prop where
  sg : SG gs
  al : ∀ r p, 1 ≤ p → p ≤ 8 → (hasI (ofG gs r) p = true ↔ Has zs r p)

theorem allG_unique {zs : List RuleI} {a b : List GrI} (ha : AllG zs a) (hb : AllG zs b) : a = b := by
  refine sg_ext ha.sg hb.sg (fun r => set_ext (ofG_set ha.sg r) (ofG_set hb.sg r) (fun p h0 h1 => ?_))
  rw [Bool.eq_iff_iff, ha.al r p h0 h1, hb.al r p h0 h1]

/-- Grants out of which each has what follows, and that a step does not turn. -/
theorem allG_of {zs : List RuleI} (hz : ∀ z ∈ zs, okR z) {gs : List GrI} (hg : SG gs) (hs : ∀ r p, 1 ≤ p → hasI (ofG gs r) p = true → Has zs r p) (hc : ∀ z ∈ zs, ∀ p, 1 ≤ p → hasI (byF (ofG gs) z) p = true → hasI (ofG gs (z.ho, z.hn)) p = true) : AllG zs gs := by
  refine ⟨hg, fun r p h0 _ => ⟨hs r p h0, fun g => ?_⟩⟩
  refine has_least (m := fun r p => hasI (ofG gs r) p = true) hz (fun z h p hp q => ?_) h0 g
  exact hc z h p hp ((byF_has (ofG_set hg) (hz z h) hp).2 q)

theorem allG_it {zs : List RuleI} (hz : ∀ z ∈ zs, okR z) {n : Nat} (h : stepG zs (itG zs n) = itG zs n) : AllG zs (itG zs n) := by
  refine allG_of hz (sg_it hz n) (fun r p _ q => ⟨n, q⟩) (fun z hzz p _ q => ?_)
  have := (has_step hz (sg_it hz n) (z.ho, z.hn) p).2 (.inr ⟨z, hzz, rfl, q⟩)
  rw [h] at this
  exact this

/-- While the steps turn something, the sum rises. -/
theorem it_sum {zs : List RuleI} (hz : ∀ z ∈ zs, okR z) : ∀ (n : Nat), (∀ k, k < n → stepG zs (itG zs k) ≠ itG zs k) → (n : Int) ≤ sumG (itG zs n)
  | 0, _ => by simp [itG, sumG]
  | n + 1, h => by
    have i := it_sum hz n (fun k hk => h k (by omega))
    have s := sum_step hz (sg_it hz n)
    have : sumG (itG zs n) ≠ sumG (itG zs (n + 1)) := fun e => h n (by omega) (s.2 e)
    have := s.1
    simp only [itG] at *
    omega

theorem it_bd {zs : List RuleI} (hz : ∀ z ∈ zs, okR z) {n : Nat} (h : ∀ k, k < n → stepG zs (itG zs k) ≠ itG zs k) : n ≤ 10200 := by
  have := it_sum hz n h
  have := (sum_le (sg_it hz n)).2
  omega

theorem it_ends {zs : List RuleI} (hz : ∀ z ∈ zs, okR z) : ∃ n, n ≤ 10200 ∧ stepG zs (itG zs n) = itG zs n := by
  refine Classical.byContradiction (fun hno => ?_)
  have := it_bd (zs := zs) hz (n := 10201) (fun k hk e => hno ⟨k, by omega, e⟩)
  omega

end Go.Proofs.YtaeigimgobilaaaGreatDoor
