/-
  PLAIN WORDS on what follows from rules: whom a rule gives its head, one step, the steps from none on, and what has all that follows and nothing else. No Go text is walked here.
  Conditions: each fact bears its own.
  CONTRACTS: spec.l3Of, the set of a role.
  Conditions: each contract bears its own.
  CONTRACTS: PartsFault of both programs.
  Conditions: each contract bears its own.
  CONTRACT: spec.PartsFault.
  Conditions: each contract bears its own.
-/
import Derived.Test.YtnfolmjdicfobaaGreatDoorPc04
import Derived.Test.YtnfolmjdicfobaaGreatDoorPc03
import Derived.Test.YtnfolmjdicfobaaGreatDoorPc01
import Derived.WalkSmall
import Derived.BigQuiet
import Derived.Deep.QuietTactic
import Derived.Test.YtnfolmjdicfobaaGreatDoorPc02
namespace Go.Proofs.YtnfolmjdicfobaaGreatDoor
open Go.RowKit

/-- The sets of roles of one name, joined, over owners. -/
def linkTo (f : RoI → Int) (n : Int) (ys : List Int) (k : Nat) : Int := (ys.take k).foldl (fun o y => orI o (f (y, n))) 0

theorem linkTo_zero (f : RoI → Int) (n : Int) (ys : List Int) : linkTo f n ys 0 = 0 := by simp [linkTo]

theorem linkTo_succ {ys : List Int} {k : Nat} {y : Int} (h : ys[k]? = some y) (f : RoI → Int) (n : Int) : linkTo f n ys (k + 1) = orI (linkTo f n ys k) (f (y, n)) := by
  have hk : k < ys.length := by
    by_cases q : k < ys.length
    · exact q
    · rw [List.getElem?_eq_none (by omega)] at h; cases h
  have e : ys[k] = y := by rw [List.getElem?_eq_getElem hk] at h; exact Option.some.inj h
  rw [linkTo, List.take_succ_eq_append_getElem hk, List.foldl_append, e]
  rfl

theorem link_fold {f : RoI → Int} (hf : ∀ r, setB (f r)) (n : Int) : ∀ (ys : List Int) (o : Int), setB o → setB (ys.foldl (fun o y => orI o (f (y, n))) o) ∧ ∀ p, hasI (ys.foldl (fun o y => orI o (f (y, n))) o) p = (hasI o p || ys.any (fun y => hasI (f (y, n)) p))
  | [], o, ho => ⟨ho, fun p => by simp⟩
  | y :: ys, o, ho => by
    have := link_fold hf n ys (orI o (f (y, n))) (or_set ho (hf _))
    refine ⟨this.1, fun p => ?_⟩
    rw [List.foldl_cons, this.2 p, hasI_or ho (hf _), List.any_cons, Bool.or_assoc]

theorem linkTo_set {f : RoI → Int} (hf : ∀ r, setB (f r)) (n : Int) (ys : List Int) (k : Nat) : setB (linkTo f n ys k) := (link_fold hf n (ys.take k) 0 ⟨by omega, by omega⟩).1

theorem mem_listTo {s x : Int} : ∀ {k : Nat}, x ∈ listTo s k ↔ 1 ≤ x ∧ x ≤ (k : Int) ∧ hasI s x = true
  | 0 => by simp [listTo]; omega
  | k + 1 => by
    unfold listTo
    split
    · rename_i h
      rw [List.mem_append, List.mem_singleton, mem_listTo (k := k)]
      constructor
      · rintro (q | rfl)
        · exact ⟨q.1, by omega, q.2.2⟩
        · exact ⟨by omega, by omega, h⟩
      · rintro ⟨q1, q2, q3⟩
        by_cases e : x = (k : Int) + 1
        · exact .inr e
        · exact .inl ⟨q1, by omega, q3⟩
    · rename_i h
      rw [mem_listTo (k := k)]
      constructor
      · rintro ⟨q1, q2, q3⟩
        exact ⟨q1, by omega, q3⟩
      · rintro ⟨q1, q2, q3⟩
        by_cases e : x = (k : Int) + 1
        · subst e; exact absurd q3 h
        · exact ⟨q1, by omega, q3⟩

theorem listTo_len (s : Int) : ∀ k, (listTo s k).length ≤ k
  | 0 => by simp [listTo]
  | k + 1 => by
    have := listTo_len s k
    unfold listTo
    split
    · simp; omega
    · omega

/-- Whom a rule gives its head, by the sets of roles. -/
def byF (f : RoI → Int) (r : RuleI) : Int :=
  if r.k = 1 then bitI r.w
  else if r.k = 2 then f (r.oo, r.on)
  else if r.k = 4 then andI (f (r.oo, r.on)) (f (r.to, r.tn))
  else linkTo f r.tn (listTo (f (r.oo, r.on)) 8) (listTo (f (r.oo, r.on)) 8).length

/-- A rule gives its head to p, where m says who has which role. -/
def GivesTo (m : RoI → Int → Prop) (r : RuleI) (p : Int) : Prop :=
  if r.k = 1 then p = r.w
  else if r.k = 2 then m (r.oo, r.on) p
  else if r.k = 4 then m (r.oo, r.on) p ∧ m (r.to, r.tn) p
  else ∃ q, 1 ≤ q ∧ q ≤ 8 ∧ m (r.oo, r.on) q ∧ m (q, r.tn) p

/-- What the plain theory needs of a rule. -/
def okR (r : RuleI) : Prop := roleB r.ho r.hn = true ∧ (r.k = 1 → 1 ≤ r.w ∧ r.w ≤ 8)

theorem byF_set {f : RoI → Int} (hf : ∀ r, setB (f r)) {r : RuleI} (hr : okR r) : setB (byF f r) := by
  unfold byF
  split
  · rename_i e
    exact bit_set (hr.2 e).1 (hr.2 e).2
  · split
    · exact hf _
    · split
      · exact and_set (hf _) (hf _)
      · exact linkTo_set hf _ _ _

theorem byF_has {f : RoI → Int} (hf : ∀ r, setB (f r)) {r : RuleI} (hr : okR r) {p : Int} (hp : 1 ≤ p) : hasI (byF f r) p = true ↔ GivesTo (fun r p => hasI (f r) p = true) r p := by
  unfold byF GivesTo
  split
  · rename_i e
    rw [hasI_bit (hr.2 e).1 hp]
    simp
  · split
    · exact Iff.rfl
    · split
      · rw [hasI_and (hf _) (hf _)]
        simp
      · rw [linkTo, List.take_length, (link_fold hf r.tn _ 0 ⟨by omega, by omega⟩).2 p, hasI_zero, Bool.false_or, List.any_eq_true]
        constructor
        · rintro ⟨q, hq, h⟩
          have := mem_listTo.1 hq
          exact ⟨q, this.1, this.2.1, this.2.2, h⟩
        · rintro ⟨q, h1, h2, h3, h4⟩
          exact ⟨q, mem_listTo.2 ⟨h1, h2, h3⟩, h4⟩

theorem gives_mono {m m' : RoI → Int → Prop} (h : ∀ r p, 1 ≤ p → m r p → m' r p) {r : RuleI} {p : Int} (hp : 1 ≤ p) (g : GivesTo m r p) : GivesTo m' r p := by
  unfold GivesTo at g ⊢
  split
  · rename_i e; rw [if_pos e] at g; exact g
  · rename_i e
    rw [if_neg e] at g
    split
    · rename_i e; rw [if_pos e] at g; exact h _ _ hp g
    · rename_i e
      rw [if_neg e] at g
      split
      · rename_i e; rw [if_pos e] at g; exact ⟨h _ _ hp g.1, h _ _ hp g.2⟩
      · rename_i e
        rw [if_neg e] at g
        obtain ⟨q, h1, h2, h3, h4⟩ := g
        exact ⟨q, h1, h2, h _ _ h1 h3, h _ _ hp h4⟩

/-- A set given to a role, where there is one. -/
def addG (gs : List GrI) (r : RoI) (s : Int) : List GrI := if s = 0 then gs else insG gs r s

theorem sg_add {gs : List GrI} (h : SG gs) {r : RoI} {s : Int} (hr : roleB r.1 r.2 = true) (hs : setB s) : SG (addG gs r s) := by
  unfold addG
  split
  · exact h
  · have := hs.1
    exact sg_ins h hr ⟨by omega, hs.2⟩

theorem has_add {gs : List GrI} (h : SG gs) {r : RoI} {s : Int} (hs : setB s) (r' : RoI) (p : Int) : hasI (ofG (addG gs r s) r') p = true ↔ hasI (ofG gs r') p = true ∨ (r = r' ∧ hasI s p = true) := by
  unfold addG
  split
  · rename_i e
    subst e
    simp [hasI_zero]
  · have := hs.1
    rw [ofG_ins h ⟨by omega, hs.2⟩]
    split
    · rename_i e
      subst e
      rw [hasI_or (ofG_set h _) hs]
      simp
    · rename_i e
      constructor
      · exact fun q => .inl q
      · rintro (q | q)
        · exact q
        · exact absurd q.1.symm e

theorem sum_add {gs : List GrI} (h : SG gs) {r : RoI} {s : Int} (hs : setB s) : sumG gs ≤ sumG (addG gs r s) ∧ (sumG gs = sumG (addG gs r s) → addG gs r s = gs) := by
  unfold addG
  split
  · exact ⟨by omega, fun _ => rfl⟩
  · have := hs.1
    exact sum_ins h ⟨by omega, hs.2⟩

/-- One step over the first k rules: out of gs. -/
def stepTo (zs : List RuleI) (gs : List GrI) (k : Nat) : List GrI := (zs.take k).foldl (fun o z => addG o (z.ho, z.hn) (byF (ofG gs) z)) gs

def stepG (zs : List RuleI) (gs : List GrI) : List GrI := stepTo zs gs zs.length

theorem stepTo_zero (zs : List RuleI) (gs : List GrI) : stepTo zs gs 0 = gs := by simp [stepTo]

theorem stepTo_succ {zs : List RuleI} {k : Nat} {z : RuleI} (h : zs[k]? = some z) (gs : List GrI) : stepTo zs gs (k + 1) = addG (stepTo zs gs k) (z.ho, z.hn) (byF (ofG gs) z) := by
  have hk : k < zs.length := by
    by_cases q : k < zs.length
    · exact q
    · rw [List.getElem?_eq_none (by omega)] at h; cases h
  have e : zs[k] = z := by rw [List.getElem?_eq_getElem hk] at h; exact Option.some.inj h
  rw [stepTo, List.take_succ_eq_append_getElem hk, List.foldl_append, e]
  rfl

theorem step_fold {gs : List GrI} (hg : SG gs) : ∀ (zs : List RuleI) (o : List GrI), (∀ z ∈ zs, okR z) → SG o →
    SG (zs.foldl (fun o z => addG o (z.ho, z.hn) (byF (ofG gs) z)) o) ∧
    (∀ r p, hasI (ofG (zs.foldl (fun o z => addG o (z.ho, z.hn) (byF (ofG gs) z)) o) r) p = true ↔ hasI (ofG o r) p = true ∨ ∃ z ∈ zs, (z.ho, z.hn) = r ∧ hasI (byF (ofG gs) z) p = true) ∧
    sumG o ≤ sumG (zs.foldl (fun o z => addG o (z.ho, z.hn) (byF (ofG gs) z)) o) ∧
    (sumG o = sumG (zs.foldl (fun o z => addG o (z.ho, z.hn) (byF (ofG gs) z)) o) → zs.foldl (fun o z => addG o (z.ho, z.hn) (byF (ofG gs) z)) o = o)
  | [], o, _, ho => ⟨ho, fun r p => by simp, by simp, by simp⟩
  | z :: zs, o, hz, ho => by
    have hs := byF_set (ofG_set hg) (hz z (by simp))
    have h1 := sg_add ho (r := (z.ho, z.hn)) (hz z (by simp)).1 hs
    have h2 := sum_add ho (r := (z.ho, z.hn)) hs
    obtain ⟨i1, i2, i3, i4⟩ := step_fold hg zs _ (fun y hy => hz y (by simp [hy])) h1
    rw [List.foldl_cons]
    refine ⟨i1, fun r p => ?_, by omega, fun q => ?_⟩
    · rw [i2 r p, has_add ho hs]
      constructor
      · rintro ((q | q) | ⟨y, hy, q⟩)
        · exact .inl q
        · exact .inr ⟨z, by simp, q⟩
        · exact .inr ⟨y, by simp [hy], q⟩
      · rintro (q | ⟨y, hy, q⟩)
        · exact .inl (.inl q)
        · rcases List.mem_cons.1 hy with rfl | hy'
          · exact .inl (.inr q)
          · exact .inr ⟨y, hy', q⟩
    · have q1 : sumG o = sumG (addG o (z.ho, z.hn) (byF (ofG gs) z)) := by omega
      have e := h2.2 q1
      rw [i4 (by omega), e]

theorem sg_step {zs : List RuleI} {gs : List GrI} (hz : ∀ z ∈ zs, okR z) (hg : SG gs) : SG (stepG zs gs) := by
  unfold stepG stepTo
  rw [List.take_length]
  exact (step_fold hg zs gs hz hg).1

theorem sg_stepTo {zs : List RuleI} {gs : List GrI} (hz : ∀ z ∈ zs, okR z) (hg : SG gs) (k : Nat) : SG (stepTo zs gs k) :=
  (step_fold hg (zs.take k) gs (fun z h => hz z (List.mem_of_mem_take h)) hg).1

theorem has_step {zs : List RuleI} {gs : List GrI} (hz : ∀ z ∈ zs, okR z) (hg : SG gs) (r : RoI) (p : Int) : hasI (ofG (stepG zs gs) r) p = true ↔ hasI (ofG gs r) p = true ∨ ∃ z ∈ zs, (z.ho, z.hn) = r ∧ hasI (byF (ofG gs) z) p = true := by
  unfold stepG stepTo
  rw [List.take_length]
  exact (step_fold hg zs gs hz hg).2.1 r p

theorem sum_step {zs : List RuleI} {gs : List GrI} (hz : ∀ z ∈ zs, okR z) (hg : SG gs) : sumG gs ≤ sumG (stepG zs gs) ∧ (sumG gs = sumG (stepG zs gs) → stepG zs gs = gs) := by
  unfold stepG stepTo
  rw [List.take_length]
  exact (step_fold hg zs gs hz hg).2.2

/-- The steps from none on. -/
def itG (zs : List RuleI) : Nat → List GrI
  | 0 => []
  | n + 1 => stepG zs (itG zs n)

theorem sg_it {zs : List RuleI} (hz : ∀ z ∈ zs, okR z) : ∀ n, SG (itG zs n)
  | 0 => sg_nil
  | n + 1 => sg_step hz (sg_it hz n)

/-- p has the role r behind n steps. -/
def InN (zs : List RuleI) (n : Nat) (r : RoI) (p : Int) : Prop := hasI (ofG (itG zs n) r) p = true

theorem inN_succ {zs : List RuleI} (hz : ∀ z ∈ zs, okR z) (n : Nat) (r : RoI) {p : Int} (hp : 1 ≤ p) : InN zs (n + 1) r p ↔ InN zs n r p ∨ ∃ z ∈ zs, (z.ho, z.hn) = r ∧ GivesTo (InN zs n) z p := by
  unfold InN
  rw [itG, has_step hz (sg_it hz n)]
  refine or_congr_right (exists_congr (fun z => and_congr_right (fun h => and_congr_right (fun _ => ?_))))
  exact byF_has (ofG_set (sg_it hz n)) (hz z h) hp

theorem inN_mono {zs : List RuleI} (hz : ∀ z ∈ zs, okR z) {n k : Nat} (h : n ≤ k) {r : RoI} {p : Int} (hp : 1 ≤ p) (g : InN zs n r p) : InN zs k r p := by
  induction h with
  | refl => exact g
  | step _ ih => exact (inN_succ hz _ r hp).2 (.inl ih)

/-- Who has which role: some step gives it. -/
def Has (zs : List RuleI) (r : RoI) (p : Int) : Prop := ∃ n, InN zs n r p

/-- What has all that the rules give, has all that follows. -/
theorem has_least {zs : List RuleI} (hz : ∀ z ∈ zs, okR z) {m : RoI → Int → Prop} (h : ∀ z ∈ zs, ∀ p, 1 ≤ p → GivesTo m z p → m (z.ho, z.hn) p) {r : RoI} {p : Int} (hp : 1 ≤ p) (g : Has zs r p) : m r p := by
  obtain ⟨n, g⟩ := g
  induction n generalizing r p with
  | zero => simp [InN, itG, ofG, hasI_zero] at g
  | succ n ih =>
    rcases (inN_succ hz n r hp).1 g with q | ⟨z, h1, h2, h3⟩
    · exact ih hp q
    · rw [← h2]
      exact h z h1 p hp (gives_mono (fun r p hp q => ih hp q) hp h3)

theorem gives_has {zs : List RuleI} (hz : ∀ z ∈ zs, okR z) {z : RuleI} (h : z ∈ zs) {p : Int} (hp : 1 ≤ p) (g : GivesTo (Has zs) z p) : Has zs (z.ho, z.hn) p := by
  have key : ∃ n, GivesTo (InN zs n) z p := by
    unfold GivesTo at g ⊢
    by_cases e1 : z.k = 1
    · simp only [if_pos e1] at g ⊢; exact ⟨0, g⟩
    · simp only [if_neg e1] at g ⊢
      by_cases e2 : z.k = 2
      · simp only [if_pos e2] at g ⊢; exact g
      · simp only [if_neg e2] at g ⊢
        by_cases e4 : z.k = 4
        · simp only [if_pos e4] at g ⊢
          obtain ⟨⟨a, ha⟩, b, hb⟩ := g
          exact ⟨a + b, inN_mono hz (by omega) hp ha, inN_mono hz (by omega) hp hb⟩
        · simp only [if_neg e4] at g ⊢
          obtain ⟨q, h1, h2, ⟨a, ha⟩, b, hb⟩ := g
          exact ⟨a + b, q, h1, h2, inN_mono hz (by omega) h1 ha, inN_mono hz (by omega) hp hb⟩
  obtain ⟨n, g⟩ := key
  exact ⟨n + 1, (inN_succ hz n _ hp).2 (.inr ⟨z, h, rfl, g⟩)⟩

/-- The grants: all that follows, and nothing else. -/
structure AllG (zs : List RuleI) (gs : List GrI) : Prop where
  sg : SG gs
  al : ∀ r p, 1 ≤ p → p ≤ 8 → (hasI (ofG gs r) p = true ↔ Has zs r p)

theorem allG_unique {zs : List RuleI} {a b : List GrI} (ha : AllG zs a) (hb : AllG zs b) : a = b := by
  refine sg_ext ha.sg hb.sg (fun r => set_ext (ofG_set ha.sg r) (ofG_set hb.sg r) (fun p h0 h1 => ?_))
  rw [Bool.eq_iff_iff, ha.al r p h0 h1, hb.al r p h0 h1]

/-- Grants out of which each has what follows, and that a step does not turn. -/
theorem allG_of {zs : List RuleI} (hz : ∀ z ∈ zs, okR z) {gs : List GrI} (hg : SG gs) (hs : ∀ r p, 1 ≤ p → hasI (ofG gs r) p = true → Has zs r p) (hc : ∀ z ∈ zs, ∀ p, 1 ≤ p → hasI (byF (ofG gs) z) p = true → hasI (ofG gs (z.ho, z.hn)) p = true) : AllG zs gs := by
  refine ⟨hg, fun r p h0 _ => ⟨hs r p h0, fun g => ?_⟩⟩
  refine has_least (m := fun r p => hasI (ofG gs r) p = true) hz (fun z h p hp q => ?_) h0 g
  exact hc z h p hp ((byF_has (ofG_set hg) (hz z h) hp).2 q)

theorem allG_it {zs : List RuleI} (hz : ∀ z ∈ zs, okR z) {n : Nat} (h : stepG zs (itG zs n) = itG zs n) : AllG zs (itG zs n) := by
  refine allG_of hz (sg_it hz n) (fun r p _ q => ⟨n, q⟩) (fun z hzz p _ q => ?_)
  have := (has_step hz (sg_it hz n) (z.ho, z.hn) p).2 (.inr ⟨z, hzz, rfl, q⟩)
  rw [h] at this
  exact this

/-- While the steps turn something, the sum rises. -/
theorem it_sum {zs : List RuleI} (hz : ∀ z ∈ zs, okR z) : ∀ (n : Nat), (∀ k, k < n → stepG zs (itG zs k) ≠ itG zs k) → (n : Int) ≤ sumG (itG zs n)
  | 0, _ => by simp [itG, sumG]
  | n + 1, h => by
    have i := it_sum hz n (fun k hk => h k (by omega))
    have s := sum_step hz (sg_it hz n)
    have : sumG (itG zs n) ≠ sumG (itG zs (n + 1)) := fun e => h n (by omega) (s.2 e)
    have := s.1
    simp only [itG] at *
    omega

theorem it_bd {zs : List RuleI} (hz : ∀ z ∈ zs, okR z) {n : Nat} (h : ∀ k, k < n → stepG zs (itG zs k) ≠ itG zs k) : n ≤ 10200 := by
  have := it_sum hz n h
  have := (sum_le (sg_it hz n)).2
  omega

theorem it_ends {zs : List RuleI} (hz : ∀ z ∈ zs, okR z) : ∃ n, n ≤ 10200 ∧ stepG zs (itG zs n) = itG zs n := by
  refine Classical.byContradiction (fun hno => ?_)
  have := it_bd (zs := zs) hz (n := 10201) (fun k hk e => hno ⟨k, by omega, e⟩)
  omega

end Go.Proofs.YtnfolmjdicfobaaGreatDoor

namespace Go.Proofs.YtnfolmjdicfobaaGreatDoor
open Go.RowKit
set_option linter.unusedVariables false
set_option linter.unusedSimpArgs false

/-- A grant in memory. -/
def GrAt (w : World) (b o : Nat) (x : GrI) : Prop := w.cell? ⟨b, o, none⟩ = some (.int .i64 x.1.1) ∧ w.cell? ⟨b, o + 1, none⟩ = some (.int .i64 x.1.2) ∧ w.cell? ⟨b, o + 2, none⟩ = some (.int .i64 x.2)

theorem GrAt.below {w w' : World} {B b o : Nat} {x : GrI} (h : GrAt w b o x) (hb : Below B w w') (hB : b < B) : GrAt w' b o x :=
  ⟨(hb.cell (p := ⟨b, o, none⟩) hB).trans h.1, (hb.cell (p := ⟨b, o + 1, none⟩) hB).trans h.2.1, (hb.cell (p := ⟨b, o + 2, none⟩) hB).trans h.2.2⟩

/-- Grants in memory. -/
def GrIn (w : World) (a : Option Addr) (n : Nat) (gs : List GrI) : Prop := gs.length = n ∧ (0 < n → ∃ b off, a = some ⟨b, off, none⟩ ∧ ∀ k x, gs[k]? = some x → GrAt w b (off + k * 3) x)

theorem GrIn.below {w w' : World} {a : Option Addr} {n : Nat} {gs : List GrI} (h : GrIn w a n gs) (hb : Below w.heap.size w w') : GrIn w' a n gs := by
  refine ⟨h.1, fun hn => ?_⟩
  obtain ⟨b, off, e, k⟩ := h.2 hn
  exact ⟨b, off, e, fun j x hx => (k j x hx).below hb (World.block_lt_of_cell? w ⟨b, off + j * 3, none⟩ (k j x hx).1)⟩

theorem GrIn.at {w : World} {a : Option Addr} {n : Nat} {gs : List GrI} (h : GrIn w a n gs) {k : Nat} (hk : k < n) : ∃ b off x, a = some ⟨b, off, none⟩ ∧ gs[k]? = some x ∧ GrAt w b (off + k * 3) x ∧ b < w.heap.size := by
  obtain ⟨b, off, e, q⟩ := h.2 (by omega)
  have hx := List.getElem?_eq_getElem (l := gs) (i := k) (by rw [h.1]; exact hk)
  exact ⟨b, off, _, e, hx, q k _ hx, World.block_lt_of_cell? w ⟨b, off + k * 3, none⟩ (q k _ hx).1⟩

theorem ofG_drop {gs : List GrI} {k : Nat} {x : GrI} (h : gs[k]? = some x) (r : RoI) : ofG (gs.drop k) r = if x.1 = r then x.2 else ofG (gs.drop (k + 1)) r := by
  have hk : k < gs.length := by
    by_cases q : k < gs.length
    · exact q
    · rw [List.getElem?_eq_none (by omega)] at h; cases h
  have e : gs[k] = x := by rw [List.getElem?_eq_getElem hk] at h; exact Option.some.inj h
  rw [List.drop_eq_getElem_cons hk, e]
  rfl

def eqRo (p q : RoI) : Bool := p.1 == q.1 && p.2 == q.2
theorem eqRo_iff (p q : RoI) : eqRo p q = true ↔ p = q := by
  obtain ⟨a, b⟩ := p
  obtain ⟨c, d⟩ := q
  simp [eqRo]

set_option maxHeartbeats 400000 in
theorem ro_eql (p q : RoI) (w : World) : (binOp .eql 79 (.agg #[.int .i64 p.1, .int .i64 p.2]) (.agg #[.int .i64 q.1, .int .i64 q.2])).run Tryz.prog w = .ok (.bool (eqRo p q)) w := by
  obtain ⟨a0, a1⟩ := p
  obtain ⟨b0, b1⟩ := q
  simp only [eqRo]
  cases e0 : (a0 == b0)
  · simp [go_sem, e0]
  cases e1 : (a1 == b1)
  · simp [go_sem, e0, e1]
  · simp [go_sem, e0, e1]

attribute [local go_sem ↓] ro_eql

set_option maxHeartbeats 1000000 in
theorem l3Of_c (a : Option Addr) (n c : Nat) (gs : List GrI) (r : RoI) (w : World) (hg : GrIn w a n gs) (hn : n ≤ 1048576) :
    Calls Tryz.prog 113 #[.slice a n c, .agg #[.int .i64 r.1, .int .i64 r.2]] w fun e w' => e = .returned (.int .i64 (ofG gs r)) ∧ Below w.heap.size w w' := by
  have W0 : Hid (GrIn (w.alloc (.cells #[.int .i64 r.1, .int .i64 r.2] 79)) a n gs) := hg.below ((Below.refl _ _).alloc (Nat.le_refl _) _)
  have R0 : Hid ((w.alloc (.cells #[.int .i64 r.1, .int .i64 r.2] 79)).cell? ⟨w.heap.size, 0, none⟩ = some (.int .i64 r.1) ∧ (w.alloc (.cells #[.int .i64 r.1, .int .i64 r.2] 79)).cell? ⟨w.heap.size, 1, none⟩ = some (.int .i64 r.2)) := ⟨by simp, by simp⟩
  clear hg
  have hn' : (n : Int) ≤ 1048576 := by omega
  go_enter Tryz.func113, Tryz.ntmps113
  go_wp2
  go_loopw [5] (fun i wr => ∃ k : Nat, k ≤ n ∧ i = .int .i64 (k : Int) ∧ ofG gs r = ofG (gs.drop k) r ∧ ∃ m, wr = (w.alloc (.cells #[.int .i64 r.1, .int .i64 r.2] 79)).drewN m) (fun i _ => n - (intOf i).toNat)
  case atStart => exact ⟨0, Nat.zero_le _, rfl, rfl, 0, rfl⟩
  case round =>
    obtain ⟨k, hk, rfl, hof, m, rfl⟩ := hrel
    have HF : Hid (ofG gs r = ofG (gs.drop k) r) := hof
    clear hof
    by_cases hlt : k < n
    · obtain ⟨b, off, x, e, hx, ⟨c0, c1, c2⟩, hbl⟩ := W0.out.at hlt
      obtain ⟨r0, r1⟩ := R0.out
      subst e
      have HX : Hid (gs[k]? = some x) := hx
      clear hx
      have hlt' : (k : Int) < (n : Int) := by omega
      cases he : eqRo x.1 r
      · have HE : Hid (ofG gs r = ofG (gs.drop (k + 1)) r) := by
          show ofG gs r = _
          rw [HF.out, ofG_drop HX.out, if_neg (fun q => by rw [(eqRo_iff _ _).2 q] at he; cases he)]
        go_wp2
        go_quiet (fail)
        go_wp2
        exact ⟨⟨k + 1, by omega, by go_num, HE.out, _, rfl⟩, by simp [intOf]; omega⟩
      · have HE : Hid (ofG gs r = x.2) := by
          show ofG gs r = _
          rw [HF.out, ofG_drop HX.out, if_pos ((eqRo_iff _ _).1 he)]
        go_wp2
        go_quiet (fail)
        go_wp2
        go_ret
        exact ⟨by rw [HE.out]; rfl, bdN ((Below.refl _ _).alloc (Nat.le_refl _) _) _⟩
    · have hkn : k = n := by omega
      subst hkn
      go_wp2
      go_ret
      have : ofG gs r = 0 := by rw [HF.out, List.drop_eq_nil_of_le (by rw [W0.out.1]; exact Nat.le_refl _)]; rfl
      exact ⟨by rw [this]; rfl, bdN ((Below.refl _ _).alloc (Nat.le_refl _) _) _⟩

end Go.Proofs.YtnfolmjdicfobaaGreatDoor

namespace Go.Proofs.YtnfolmjdicfobaaGreatDoor
open Go.RowKit
set_option linter.unusedVariables false
set_option linter.unusedSimpArgs false
attribute [local go_sem ↓] ro_eql

theorem ro_neq (p q : RoI) (w : World) : (binOp .neq 79 (.agg #[.int .i64 p.1, .int .i64 p.2]) (.agg #[.int .i64 q.1, .int .i64 q.2])).run Tryz.prog w = .ok (.bool (!eqRo p q)) w := by
  obtain ⟨a0, a1⟩ := p
  obtain ⟨b0, b1⟩ := q
  simp only [eqRo]
  cases e0 : (a0 == b0)
  · simp [go_sem, e0]
  cases e1 : (a1 == b1)
  · simp [go_sem, e0, e1]
  · simp [go_sem, e0, e1]

set_option maxHeartbeats 400000 in
theorem l1In_c (v lo hi : Int) (w : World) : Calls Tryz.prog 80 #[.int .i64 v, .int .i64 lo, .int .i64 hi] w fun e w' => e = .returned (.bool (decide (lo ≤ v) && decide (v ≤ hi))) ∧ w = w' := by
  cases h0 : decide (lo ≤ v)
  · go_enter Tryz.func80, Tryz.ntmps80
    go_wp2
    go_ret
    exact ⟨by simp, rfl⟩
  · cases h1 : decide (v ≤ hi)
    all_goals
      go_enter Tryz.func80, Tryz.ntmps80
      go_wp2
      go_ret
      exact ⟨by simp, rfl⟩

set_option maxHeartbeats 400000 in
theorem isAhead_c (v : Int) (k : Nat) (hk : k ≤ 1000) (w : World) : Calls Tryz.prog 106 #[.int .i64 v, .int .i64 (k : Int)] w fun e w' => e = .returned (.bool (decide (0 ≤ v) && decide (v < (k : Int)))) ∧ w = w' := by
  have hk' : (k : Int) ≤ 1000 := by omega
  cases h0 : decide (0 ≤ v)
  · go_enter Tryz.func106, Tryz.ntmps106
    go_wp2
    go_ret
    exact ⟨by simp, rfl⟩
  · cases h1 : decide (v < (k : Int))
    all_goals
      go_enter Tryz.func106, Tryz.ntmps106
      go_wp2
      go_ret
      exact ⟨by simp, rfl⟩

set_option maxRecDepth 100000 in
set_option maxHeartbeats 2000000 in
theorem partFault_1 (x : PartI) (k : Nat) (w : World) (hk : k ≤ 1000) (e1 : x.k = 1) :
    Calls Tryz.prog 62 #[.agg #[.int .i64 x.k, .int .i64 x.ro, .int .i64 x.rn, .int .i64 x.l, .int .i64 x.r], .int .i64 (k : Int)] w fun e w' => e = .returned (.int .i64 (ptOne k x)) ∧ Below w.heap.size w w' := by
  have hk' : (k : Int) ≤ 1000 := by omega
  have b1 : (x.k == 1) = true := by simp [e1]
  obtain ⟨t, ht⟩ : ∃ t, roleB x.ro x.rn = t := ⟨_, rfl⟩
  cases t
  · have hp : ptOne k x = 3 := by simp [ptOne, e1, ht]
    have hc : roleCode x.ro x.rn = 3 := by simp [roleCode, ht]
    rw [hp]
    clear e1 ht hp
    go_enter Tryz.func62, Tryz.ntmps62
    go_wp2_with (first | (go_at_call 105; refine (implRoleFault_c _ _ _).mono ?_; rintro e w1 ⟨rfl, hb1⟩; rw [hc]) | fail)
    go_ret
    exact ⟨rfl, below_new hb1⟩
  · have hc : roleCode x.ro x.rn = 0 := by simp [roleCode, ht]
    obtain ⟨u, hu⟩ : ∃ u, (x.l != 0) = u := ⟨_, rfl⟩
    obtain ⟨v, hv⟩ : ∃ v, (x.r != 0) = v := ⟨_, rfl⟩
    have hp : ptOne k x = if (u || v) = true then 1 else 0 := by
      rw [← hu, ← hv]
      simp only [ptOne, e1, ht]
      by_cases q1 : x.l = 0 <;> by_cases q2 : x.r = 0 <;> simp [q1, q2]
    rw [hp]
    clear e1 ht hp
    cases u <;> cases v
    all_goals
      go_enter Tryz.func62, Tryz.ntmps62
      go_wp2_with (first | (go_at_call 105; refine (implRoleFault_c _ _ _).mono ?_; rintro e w1 ⟨rfl, hb1⟩; rw [hc]; have q3 : w1.cell? ⟨w.heap.size, 3, none⟩ = some (.int .i64 x.l) := (hb1.cell (p := ⟨w.heap.size, 3, none⟩) (by simp)).trans (by simp); have q4 : w1.cell? ⟨w.heap.size, 4, none⟩ = some (.int .i64 x.r) := (hb1.cell (p := ⟨w.heap.size, 4, none⟩) (by simp)).trans (by simp)) | fail)
      go_ret
      exact ⟨rfl, below_new hb1⟩

set_option maxRecDepth 100000 in
set_option maxHeartbeats 2000000 in
theorem partFault_bad (x : PartI) (k : Nat) (w : World) (e1 : ¬ (1 ≤ x.k ∧ x.k ≤ 3)) :
    Calls Tryz.prog 62 #[.agg #[.int .i64 x.k, .int .i64 x.ro, .int .i64 x.rn, .int .i64 x.l, .int .i64 x.r], .int .i64 (k : Int)] w fun e w' => e = .returned (.int .i64 (ptOne k x)) ∧ Below w.heap.size w w' := by
  have b1 : (x.k == 1) = false := by simp; omega
  have b2 : (x.k == 2) = false := by simp; omega
  have b3 : (x.k == 3) = false := by simp; omega
  have hp : ptOne k x = 1 := by simp only [ptOne, if_pos e1]
  rw [hp]
  clear e1 hp
  go_enter Tryz.func62, Tryz.ntmps62
  go_wp2_with fail
  go_ret
  exact ⟨rfl, by go_grown⟩

set_option maxRecDepth 100000 in
set_option maxHeartbeats 4000000 in
theorem partFault_2 (x : PartI) (k : Nat) (w : World) (hk : k ≤ 1000) (e1 : x.k = 2 ∨ x.k = 3) :
    Calls Tryz.prog 62 #[.agg #[.int .i64 x.k, .int .i64 x.ro, .int .i64 x.rn, .int .i64 x.l, .int .i64 x.r], .int .i64 (k : Int)] w fun e w' => e = .returned (.int .i64 (ptOne k x)) ∧ Below w.heap.size w w' := by
  have hk' : (k : Int) ≤ 1000 := by omega
  have b1 : (x.k == 1) = false := by simp; omega
  obtain ⟨u, hu⟩ : ∃ u, (decide (0 ≤ x.l) && decide (x.l < (k : Int))) = u := ⟨_, rfl⟩
  obtain ⟨v, hv⟩ : ∃ v, (decide (0 ≤ x.r) && decide (x.r < (k : Int))) = v := ⟨_, rfl⟩
  obtain ⟨t, ht⟩ : ∃ t, eqRo (x.ro, x.rn) (0, 0) = t := ⟨_, rfl⟩
  have hp : ptOne k x = if t = false then 1 else if u = false then 3 else if v = false then 3 else 0 := by
    have ek : ¬ x.k = 1 := by omega
    unfold ptOne
    rw [if_neg (by omega), if_neg ek]
    have h1 : t = true ↔ (x.ro = 0 ∧ x.rn = 0) := by rw [← ht, eqRo_iff]; simp
    have h2 : u = true ↔ (0 ≤ x.l ∧ x.l < (k : Int)) := by rw [← hu]; simp
    have h3 : v = true ↔ (0 ≤ x.r ∧ x.r < (k : Int)) := by rw [← hv]; simp
    simp only [← h1, ← h2, ← h3]
    cases t <;> cases u <;> cases v <;> simp
  rw [hp]
  have hn : ∀ w, (binOp .neq 79 (.agg #[.int .i64 x.ro, .int .i64 x.rn]) (.agg #[.int .i64 0, .int .i64 0])).run Tryz.prog w = .ok (.bool (!t)) w := fun w => by rw [← ht]; exact ro_neq (x.ro, x.rn) (0, 0) w
  have HU : Hid ((decide (0 ≤ x.l) && decide (x.l < (k : Int))) = u) := hu
  have HV : Hid ((decide (0 ≤ x.r) && decide (x.r < (k : Int))) = v) := hv
  clear hp ht hu hv
  rcases e1 with e1 | e1
  · have b2 : (x.k == 2) = true := by simp; omega
    clear e1
    cases t
    · go_enter Tryz.func62, Tryz.ntmps62
      go_wp2_with fail
      go_ret
      exact ⟨rfl, by go_grown⟩
    · cases u <;> cases v
      all_goals
        go_enter Tryz.func62, Tryz.ntmps62
        go_wp2_with (first | (go_at_call 106; refine (isAhead_c _ _ hk _).mono ?_; rintro e w1 ⟨rfl, rfl⟩; first | rw [HU.out] | rw [HV.out]) | fail)
        go_ret
        exact ⟨rfl, by go_grown⟩
  · have b2 : (x.k == 2) = false := by simp; omega
    have b3 : (x.k == 3) = true := by simp; omega
    clear e1
    cases t
    · go_enter Tryz.func62, Tryz.ntmps62
      go_wp2_with fail
      go_ret
      exact ⟨rfl, by go_grown⟩
    · cases u <;> cases v
      all_goals
        go_enter Tryz.func62, Tryz.ntmps62
        go_wp2_with (first | (go_at_call 106; refine (isAhead_c _ _ hk _).mono ?_; rintro e w1 ⟨rfl, rfl⟩; first | rw [HU.out] | rw [HV.out]) | fail)
        go_ret
        exact ⟨rfl, by go_grown⟩

theorem partFault_c (x : PartI) (k : Nat) (w : World) (hk : k ≤ 1000) :
    Calls Tryz.prog 62 #[.agg #[.int .i64 x.k, .int .i64 x.ro, .int .i64 x.rn, .int .i64 x.l, .int .i64 x.r], .int .i64 (k : Int)] w fun e w' => e = .returned (.int .i64 (ptOne k x)) ∧ Below w.heap.size w w' := by
  by_cases h : 1 ≤ x.k ∧ x.k ≤ 3
  · by_cases h1 : x.k = 1
    · exact partFault_1 x k w hk h1
    · exact partFault_2 x k w hk (by omega)
  · exact partFault_bad x k w h

set_option maxRecDepth 100000 in
set_option maxHeartbeats 2000000 in
theorem implParts_few (a : Option Addr) (n cap : Nat) (zs : List PartI) (c : Int) (w : World) (h1 : 1 ≤ n) (h8 : n ≤ 8) (h : PartsIn w a n zs) (hc : ptTo zs n = c) :
    Calls Tryz.prog 27 #[.slice a n cap] w fun e w' => e = .returned (.int .i64 c) ∧ Below w.heap.size w w' := by
  have H : Hid (PartsIn w a n zs) := h
  have HC : Hid (ptTo zs n = c) := hc
  clear h hc
  have hn1 : ¬ ((n : Int) < 1) := by omega
  have hn8 : ¬ ((8 : Int) < (n : Int)) := by omega
  have hn' : (n : Int) ≤ 8 := by omega
  go_enter Tryz.func27, Tryz.ntmps27
  go_wp2
  go_loopw [16] (fun i wr => ∃ k : Nat, k ≤ n ∧ i = .int .i64 (k : Int) ∧ ptTo zs k = 0 ∧ Below w.heap.size w wr) (fun i _ => n - (intOf i).toNat)
  case atStart => exact ⟨0, Nat.zero_le _, rfl, rfl, Below.refl _ _⟩
  case round =>
    obtain ⟨k, hk, rfl, hp, hnx⟩ := hrel
    have HP : Hid (ptTo zs k = 0) := hp
    clear hp
    by_cases hlt : k < n
    · obtain ⟨b, off, x, rfl, hs, hx⟩ := H.out.at hlt
      have HN : Hid (ptTo zs (k + 1) = ptOne k x) := ptTo_next hs HP.out
      clear hs
      obtain ⟨g0, g1, g2, g3, g4⟩ := hx.below hnx
      clear hx
      have hlt' : (k : Int) < (n : Int) := by omega
      go_wp2_with fail
      refine (partFault_c x k _ (by omega)).mono ?_
      rintro e w1 ⟨rfl, hb1⟩
      have hnx1 : Below w.heap.size w w1 := hnx.trans ((below_new hb1).mono hnx.size)
      clear hb1 g0 g1 g2 g3 g4
      by_cases hz : ptOne k x = 0
      · have HE : Hid (ptTo zs (k + 1) = 0) := HN.out.trans hz
        rw [hz]
        clear hz
        go_wp2
        exact ⟨⟨k + 1, by omega, by go_num, HE.out, hnx1⟩, by simp [intOf]; omega⟩
      · have E : Hid (c = ptOne k x) := HC.out.symm.trans (ptTo_stay zs (k + 1) n _ hz HN.out (by omega))
        have hzb : (ptOne k x != 0) = true := by simpa using hz
        clear hz
        go_wp2
        go_ret
        exact ⟨by rw [E.out]; rfl, hnx1⟩
    · have hkn : k = n := by omega
      subst hkn
      go_wp2
      go_ret
      exact ⟨by rw [← HC.out, HP.out]; rfl, hnx⟩

set_option maxRecDepth 100000 in
theorem implPartsFault_c (a : Option Addr) (n cap : Nat) (zs : List PartI) (w : World) (hm : n ≤ maxLen) (h : PartsIn w a n zs) :
    Calls Tryz.prog 27 #[.slice a n cap] w fun e w' => e = .returned (.int .i64 (ptCode zs)) ∧ Below w.heap.size w w' := by
  have hl := h.1
  unfold maxLen at hm
  have hm' : (n : Int) ≤ 9223372036854775807 := by omega
  unfold ptCode
  rw [hl]
  by_cases h1 : n < 1
  · have h1' : (n : Int) < 1 := by omega
    rw [if_pos h1]
    clear h hl h1
    go_enter Tryz.func27, Tryz.ntmps27
    go_wp2
    go_ret
    exact ⟨rfl, Below.refl _ _⟩
  · rw [if_neg h1]
    by_cases h8 : 8 < n
    · have h1' : ¬ ((n : Int) < 1) := by omega
      have h8' : (8 : Int) < (n : Int) := by omega
      rw [if_pos h8]
      clear h hl h1 h8
      go_enter Tryz.func27, Tryz.ntmps27
      go_wp2
      go_ret
      exact ⟨rfl, Below.refl _ _⟩
    · rw [if_neg h8]
      exact implParts_few a n cap zs _ w (by omega) (by omega) h rfl

end Go.Proofs.YtnfolmjdicfobaaGreatDoor

namespace Go.Proofs.YtnfolmjdicfobaaGreatDoor
open Go.RowKit
set_option linter.unusedVariables false
set_option linter.unusedSimpArgs false

set_option maxRecDepth 100000 in
set_option maxHeartbeats 4000000 in
theorem l4Fault_few (a : Option Addr) (n cap : Nat) (zs : List PartI) (c : Int) (w : World) (h1 : 1 ≤ n) (h8 : n ≤ 8) (h : PartsIn w a n zs) (hc : ptTo zs n = c) :
    Calls Tryz.prog 63 #[.slice a n cap] w fun e w' => e = .returned (.int .i64 c) ∧ Below w.heap.size w w' := by
  have H : Hid (PartsIn w a n zs) := h
  have HC : Hid (ptTo zs n = c) := hc
  clear h hc
  have hn1 : ¬ ((n : Int) < 1) := by omega
  have hn8 : ¬ ((8 : Int) < (n : Int)) := by omega
  have hn' : (n : Int) ≤ 8 := by omega
  go_enter Tryz.func63, Tryz.ntmps63
  go_wp2
  go_loopw [3] (fun i wr => ∃ k : Nat, k ≤ n ∧ i = .int .i64 (k : Int) ∧ ptTo zs k = 0 ∧ Below w.heap.size w wr) (fun i _ => n - (intOf i).toNat)
  case atStart => exact ⟨0, Nat.zero_le _, rfl, rfl, Below.refl _ _⟩
  case round =>
    obtain ⟨k, hk, rfl, hp, hnx⟩ := hrel
    have HP : Hid (ptTo zs k = 0) := hp
    clear hp
    by_cases hlt : k < n
    · obtain ⟨b, off, x, rfl, hs, hx⟩ := H.out.at hlt
      have HN : Hid (ptTo zs (k + 1) = ptOne k x) := ptTo_next hs HP.out
      have HST : Hid (∀ d : Int, ptOne k x = d → d ≠ 0 → c = d) := fun d e q => HC.out.symm.trans (ptTo_stay zs (k + 1) n d q (HN.out.trans e) (by omega))
      clear hs
      obtain ⟨g0, g1, g2, g3, g4⟩ := hx.below hnx
      clear hx
      have hlt' : (k : Int) < (n : Int) := by omega
      have hk8 : (k : Int) ≤ 8 := by omega
      have A5 : Below w.heap.size w (wr.alloc (.cells #[.int .i64 x.k, .int .i64 x.ro, .int .i64 x.rn, .int .i64 x.l, .int .i64 x.r] 105)) := hnx.alloc hnx.size _
      obtain ⟨t0, ht0⟩ : ∃ t0, (decide (1 ≤ x.k) && decide (x.k ≤ 3)) = t0 := ⟨_, rfl⟩
      have HK : Hid ((decide (1 ≤ x.k) && decide (x.k ≤ 3)) = t0) := ht0
      cases t0
      · have E : Hid (c = 1) := HST.out 1 (by unfold ptOne; rw [if_pos (by simp at ht0; omega)]) (by decide)
        clear ht0
        go_wp2_with (first | (go_at_call 80; refine (l1In_c _ _ _ _).mono ?_; rintro e w1 ⟨rfl, rfl⟩; rw [HK.out]) | fail)
        go_ret
        exact ⟨by rw [E.out]; rfl, A5⟩
      · simp at ht0
        by_cases ek : x.k = 1
        · have b1 : (x.k == 1) = true := by simp [ek]
          obtain ⟨t, ht⟩ : ∃ t, roleB x.ro x.rn = t := ⟨_, rfl⟩
          have HT : Hid (roleB x.ro x.rn = t) := ht
          cases t
          · have E : Hid (c = 3) := HST.out 3 (by simp [ptOne, ek, ht]) (by decide)
            clear ht0 ek ht
            go_wp2_with (first | (go_at_call 80; refine (l1In_c _ _ _ _).mono ?_; rintro e w1 ⟨rfl, rfl⟩; rw [HK.out]) | (go_at_call 107; refine (l2Role_c _ _ _).mono ?_; rintro e w2 ⟨rfl, hb2⟩; rw [HT.out]) | fail)
            go_ret
            exact ⟨by rw [E.out]; rfl, hnx.trans ((below_new hb2).mono hnx.size)⟩
          · obtain ⟨u, hu⟩ : ∃ u, (x.l != 0) = u := ⟨_, rfl⟩
            obtain ⟨v, hv⟩ : ∃ v, (x.r != 0) = v := ⟨_, rfl⟩
            have hp : ptOne k x = if (u || v) = true then 1 else 0 := by
              rw [← hu, ← hv]
              simp only [ptOne, ek, ht]
              by_cases q1 : x.l = 0 <;> by_cases q2 : x.r = 0 <;> simp [q1, q2]
            have HPP : Hid (ptOne k x = if (u || v) = true then 1 else 0) := hp
            clear ht0 ek ht hp
            cases u <;> cases v
            · have HE : Hid (ptTo zs (k + 1) = 0) := HN.out.trans HPP.out
              go_wp2_with (first | (go_at_call 80; refine (l1In_c _ _ _ _).mono ?_; rintro e w1 ⟨rfl, rfl⟩; rw [HK.out]) | (go_at_call 107; refine (l2Role_c _ _ _).mono ?_; rintro e w2 ⟨rfl, hb2⟩; rw [HT.out]; have q3 : w2.cell? ⟨wr.heap.size, 3, none⟩ = some (.int .i64 x.l) := (hb2.cell (p := ⟨wr.heap.size, 3, none⟩) (by simp)).trans (by simp); have q4 : w2.cell? ⟨wr.heap.size, 4, none⟩ = some (.int .i64 x.r) := (hb2.cell (p := ⟨wr.heap.size, 4, none⟩) (by simp)).trans (by simp)) | fail)
              exact ⟨⟨k + 1, by omega, by go_num, HE.out, hnx.trans ((below_new hb2).mono hnx.size)⟩, by simp [intOf]; omega⟩
            all_goals
              have E : Hid (c = 1) := HST.out 1 HPP.out (by decide)
              go_wp2_with (first | (go_at_call 80; refine (l1In_c _ _ _ _).mono ?_; rintro e w1 ⟨rfl, rfl⟩; rw [HK.out]) | (go_at_call 107; refine (l2Role_c _ _ _).mono ?_; rintro e w2 ⟨rfl, hb2⟩; rw [HT.out]; have q3 : w2.cell? ⟨wr.heap.size, 3, none⟩ = some (.int .i64 x.l) := (hb2.cell (p := ⟨wr.heap.size, 3, none⟩) (by simp)).trans (by simp); have q4 : w2.cell? ⟨wr.heap.size, 4, none⟩ = some (.int .i64 x.r) := (hb2.cell (p := ⟨wr.heap.size, 4, none⟩) (by simp)).trans (by simp)) | fail)
              go_ret
              exact ⟨by rw [E.out]; rfl, hnx.trans ((below_new hb2).mono hnx.size)⟩
        · have b1 : (x.k == 1) = false := by simp [ek]
          obtain ⟨u, hu⟩ : ∃ u, (decide (0 ≤ x.l) && decide (x.l ≤ (k : Int) - 1)) = u := ⟨_, rfl⟩
          obtain ⟨v, hv⟩ : ∃ v, (decide (0 ≤ x.r) && decide (x.r ≤ (k : Int) - 1)) = v := ⟨_, rfl⟩
          obtain ⟨t, ht⟩ : ∃ t, eqRo (x.ro, x.rn) (0, 0) = t := ⟨_, rfl⟩
          have hp : ptOne k x = if t = false then 1 else if u = false then 3 else if v = false then 3 else 0 := by
            unfold ptOne
            rw [if_neg (by omega), if_neg ek]
            have h1 : t = true ↔ (x.ro = 0 ∧ x.rn = 0) := by rw [← ht, eqRo_iff]; simp
            have h2 : u = true ↔ (0 ≤ x.l ∧ x.l < (k : Int)) := by rw [← hu]; simp; omega
            have h3 : v = true ↔ (0 ≤ x.r ∧ x.r < (k : Int)) := by rw [← hv]; simp; omega
            simp only [← h1, ← h2, ← h3]
            cases t <;> cases u <;> cases v <;> simp
          have hn : ∀ w, (binOp .neq 79 (.agg #[.int .i64 x.ro, .int .i64 x.rn]) (.agg #[.int .i64 0, .int .i64 0])).run Tryz.prog w = .ok (.bool (!t)) w := fun w => by rw [← ht]; exact ro_neq (x.ro, x.rn) (0, 0) w
          have HPP : Hid (ptOne k x = if t = false then 1 else if u = false then 3 else if v = false then 3 else 0) := hp
          have HU : Hid ((decide (0 ≤ x.l) && decide (x.l ≤ (k : Int) - 1)) = u) := hu
          have HV : Hid ((decide (0 ≤ x.r) && decide (x.r ≤ (k : Int) - 1)) = v) := hv
          have A7 : Below w.heap.size w ((wr.alloc (.cells #[.int .i64 x.k, .int .i64 x.ro, .int .i64 x.rn, .int .i64 x.l, .int .i64 x.r] 105)).alloc (.cells #[.int .i64 0, .int .i64 0] 79)) := A5.alloc A5.size _
          clear ht0 ek ht hu hv hp
          cases t
          · have E : Hid (c = 1) := HST.out 1 HPP.out (by decide)
            go_wp2_with (first | (go_at_call 80; refine (l1In_c _ _ _ _).mono ?_; rintro e w1 ⟨rfl, rfl⟩; rw [HK.out]) | fail)
            go_ret
            exact ⟨by rw [E.out]; rfl, A7⟩
          · cases u
            · have E : Hid (c = 3) := HST.out 3 HPP.out (by decide)
              go_wp2_with (first | (go_at_call 80; refine (l1In_c _ _ _ _).mono ?_; rintro e w1 ⟨rfl, rfl⟩; first | rw [HK.out] | rw [HU.out] | rw [HV.out]) | fail)
              go_ret
              exact ⟨by rw [E.out]; rfl, A7⟩
            · cases v
              · have E : Hid (c = 3) := HST.out 3 HPP.out (by decide)
                go_wp2_with (first | (go_at_call 80; refine (l1In_c _ _ _ _).mono ?_; rintro e w1 ⟨rfl, rfl⟩; first | rw [HK.out] | rw [HU.out] | rw [HV.out]) | fail)
                go_ret
                exact ⟨by rw [E.out]; rfl, A7⟩
              · have HE : Hid (ptTo zs (k + 1) = 0) := HN.out.trans HPP.out
                go_wp2_with (first | (go_at_call 80; refine (l1In_c _ _ _ _).mono ?_; rintro e w1 ⟨rfl, rfl⟩; first | rw [HK.out] | rw [HU.out] | rw [HV.out]) | fail)
                exact ⟨⟨k + 1, by omega, by go_num, HE.out, A7⟩, by simp [intOf]; omega⟩
    · have hkn : k = n := by omega
      subst hkn
      go_wp2
      go_ret
      exact ⟨by rw [← HC.out, HP.out]; rfl, hnx⟩

set_option maxRecDepth 100000 in
theorem l4Fault_c (a : Option Addr) (n cap : Nat) (zs : List PartI) (w : World) (hm : n ≤ maxLen) (h : PartsIn w a n zs) :
    Calls Tryz.prog 63 #[.slice a n cap] w fun e w' => e = .returned (.int .i64 (ptCode zs)) ∧ Below w.heap.size w w' := by
  have hl := h.1
  unfold maxLen at hm
  have hm' : (n : Int) ≤ 9223372036854775807 := by omega
  unfold ptCode
  rw [hl]
  by_cases h1 : n < 1
  · have h1' : (n : Int) < 1 := by omega
    rw [if_pos h1]
    clear h hl h1
    go_enter Tryz.func63, Tryz.ntmps63
    go_wp2
    go_ret
    exact ⟨rfl, Below.refl _ _⟩
  · rw [if_neg h1]
    by_cases h8 : 8 < n
    · have h1' : ¬ ((n : Int) < 1) := by omega
      have h8' : (8 : Int) < (n : Int) := by omega
      rw [if_pos h8]
      clear h hl h1 h8
      go_enter Tryz.func63, Tryz.ntmps63
      go_wp2
      go_ret
      exact ⟨rfl, Below.refl _ _⟩
    · rw [if_neg h8]
      exact l4Fault_few a n cap zs _ w (by omega) (by omega) h rfl

end Go.Proofs.YtnfolmjdicfobaaGreatDoor
