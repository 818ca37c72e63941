/-
  PLAIN WORDS: the rules of a policy without a fault are such as the steps need. No Go text is walked here.
  Conditions: each fact bears its own.
  PLAIN WORDS on who has which role as a function of roles: a set given to a role, one step, the worklist of rules, the first step at which a rule gives. No Go text is walked here.
  Conditions: each fact bears its own.
  THE MAP OF GRANTS: what a block that holds it reads as, its look-ups, what is written at a key, in the words of the maps' library. No Go text is walked here.
  Conditions: each fact bears its own.
-/
import Derived.Test.YtocdclgolhhckaaPk03
import Derived.Test.YtocdclgolhhckaaPk04
import Derived.Maps.Own
import Derived.Maps.OwnSet
import Derived.Maps.Ext
import Derived.Maps.RangeWalk
import Derived.DeepKeys4
import Derived.WideKeyEntry
namespace Go.Proofs.Ytocdclgolhhckaa
open Go.RowKit

theorem okR_of {r : RuleI} (h : ruleCode r = 0) : okR r ∧ 1 ≤ r.k ∧ r.k ≤ 4 := by
  unfold ruleCode at h
  by_cases hk : 1 ≤ r.k ∧ r.k ≤ 4
  · rw [if_neg (fun q => q hk)] at h
    cases hr : roleB r.ho r.hn
    · simp [hr] at h
    · refine ⟨⟨hr, fun e => ?_⟩, hk⟩
      rw [if_neg (by rw [hr]; simp)] at h
      cases hb : bareB r
      · simp [hb] at h
      · cases hh : hasB r
        · simp [hb, hh] at h
        · unfold hasB at hh
          rw [if_pos e] at hh
          simpa [prinB] using hh
  · rw [if_pos hk] at h; cases h

theorem polTo_all {zs : List RuleI} : ∀ k, polTo zs k = 0 → ∀ j z, j < k → zs[j]? = some z → ruleCode z = 0
  | 0, _, j, _, hj, _ => by omega
  | k + 1, h, j, z, hj, hz => by
    have h0 : polTo zs k = 0 := by
      by_cases q : polTo zs k = 0
      · exact q
      · exact absurd (polTo_stay zs k (k + 1) _ q rfl (by omega)) (by rw [h]; exact fun e => q e.symm)
    by_cases e : j = k
    · subst e
      by_cases q : ruleCode z = 0
      · exact q
      · rw [polTo_bad zs j z hz h0 q] at h; exact h
    · exact polTo_all k h0 j z (by omega) hz

theorem pol_ok {zs : List RuleI} (h : polCode zs = 0) : zs.length ≤ 16 ∧ ∀ z ∈ zs, okR z ∧ 1 ≤ z.k ∧ z.k ≤ 4 := by
  unfold polCode at h
  split at h
  · cases h
  · refine ⟨by omega, fun z hz => ?_⟩
    obtain ⟨j, hj⟩ := List.mem_iff_getElem?.1 hz
    have hl : j < zs.length := by
      by_cases q : j < zs.length
      · exact q
      · rw [List.getElem?_eq_none (by omega)] at hj; cases hj
    exact okR_of (polTo_all _ h j z hl hj)

end Go.Proofs.Ytocdclgolhhckaa

namespace Go.Proofs.Ytocdclgolhhckaa
open Go.RowKit

/-! lists -/

theorem nodup_len {α : Type} [DecidableEq α] : ∀ (l L : List α), l.Nodup → (∀ x ∈ l, x ∈ L) → l.length ≤ L.length
  | [], _, _, _ => by simp
  | x :: xs, L, h, hs => by
    have h' := List.nodup_cons.1 h
    have hx : x ∈ L := hs x (by simp)
    have := nodup_len xs (L.erase x) h'.2 (fun y hy => (List.mem_erase_of_ne (fun e => h'.1 (by rw [← e]; exact hy))).2 (hs y (by simp [hy])))
    rw [List.length_erase_of_mem hx] at this
    have : 0 < L.length := List.length_pos_of_mem hx
    simp only [List.length_cons]
    omega

theorem sum_mono {α : Type} (f g : α → Int) : ∀ (l : List α), (∀ x ∈ l, f x ≤ g x) → (l.map f).sum ≤ (l.map g).sum
  | [], _ => by simp
  | x :: xs, h => by
    have := sum_mono f g xs (fun y hy => h y (by simp [hy]))
    have := h x (by simp)
    simp only [List.map_cons, List.sum_cons]
    omega

theorem sum_strict {α : Type} (f g : α → Int) (a : α) : ∀ (l : List α), (∀ x ∈ l, f x ≤ g x) → a ∈ l → f a < g a → (l.map f).sum < (l.map g).sum
  | [], _, h, _ => by cases h
  | x :: xs, h, ha, hlt => by
    have hx := h x (by simp)
    have hm := sum_mono f g xs (fun y hy => h y (by simp [hy]))
    simp only [List.map_cons, List.sum_cons]
    rcases List.mem_cons.1 ha with rfl | ha'
    · omega
    · have := sum_strict f g a xs (fun y hy => h y (by simp [hy])) ha' hlt
      omega

/-! the roles -/

def allRo : List RoI := (List.range 8).flatMap (fun (i : Nat) => (List.range 5).map (fun (j : Nat) => ((((i : Int) + 1), ((j : Int) + 1)) : RoI)))

theorem allRo_len : allRo.length = 40 := by decide

theorem mem_allRo {r : RoI} (h : roleB r.1 r.2 = true) : r ∈ allRo := by
  obtain ⟨a, b⟩ := r
  simp [roleB, prinB, nameB] at h
  unfold allRo
  rw [List.mem_flatMap]
  obtain ⟨⟨h1, h2⟩, h3, h4⟩ := h
  obtain ⟨i, rfl⟩ : ∃ i : Nat, a = (i : Int) + 1 := ⟨(a - 1).toNat, by omega⟩
  obtain ⟨j, rfl⟩ : ∃ j : Nat, b = (j : Int) + 1 := ⟨(b - 1).toNat, by omega⟩
  have hi : i < 8 := by omega
  have hj : j < 5 := by omega
  exact ⟨i, List.mem_range.2 hi, List.mem_map.2 ⟨j, List.mem_range.2 hj, rfl⟩⟩

/-! who has which role, as a function -/

structure FN (f : RoI → Int) : Prop where
  st : ∀ r, setB (f r)
  ro : ∀ r, f r ≠ 0 → roleB r.1 r.2 = true

def zeroF : RoI → Int := fun _ => 0
def giveF (f : RoI → Int) (r : RoI) (s : Int) : RoI → Int := fun r' => if r' = r then orI (f r) s else f r'

theorem fn_zero : FN zeroF := ⟨fun _ => ⟨Int.le_refl _, show (0 : Int) ≤ 255 by decide⟩, fun _ h => absurd rfl h⟩

theorem fn_give {f : RoI → Int} (h : FN f) {r : RoI} (hr : roleB r.1 r.2 = true) {s : Int} (hs : setB s) : FN (giveF f r s) := by
  refine ⟨fun r' => ?_, fun r' hn => ?_⟩
  · unfold giveF
    split
    · exact or_set (h.st _) hs
    · exact h.st _
  · unfold giveF at hn
    split at hn
    · rename_i e; rw [e]; exact hr
    · exact h.ro _ hn

theorem fn_of_sg {gs : List GrI} (h : SG gs) : FN (ofG gs) := by
  refine ⟨ofG_set h, fun r hr => ?_⟩
  exact h.ro _ (ofG_some hr)

theorem or_zero {s : Int} (hs : setB s) : orI s 0 = s := by
  obtain ⟨B, rfl⟩ := Int.eq_ofNat_of_zero_le hs.1
  have h2 := hs.2
  have := or_nat B 0 (by omega) (by omega)
  simpa using this

theorem or_same {a b : Int} (ha : setB a) (hb : setB b) : orI a b = a ↔ ∀ p, 1 ≤ p → hasI b p = true → hasI a p = true := by
  constructor
  · intro e p _ q
    have := hasI_or ha hb p
    rw [e, q, Bool.or_true] at this
    exact this
  · intro h
    refine set_ext (or_set ha hb) ha (fun p h0 _ => ?_)
    rw [hasI_or ha hb]
    cases q : hasI b p
    · simp
    · rw [h p h0 q]; rfl

theorem hasI_give {f : RoI → Int} (h : FN f) (r : RoI) {s : Int} (hs : setB s) (r' : RoI) (p : Int) : hasI (giveF f r s r') p = true ↔ hasI (f r') p = true ∨ (r' = r ∧ hasI s p = true) := by
  unfold giveF
  split
  · rename_i e
    subst e
    rw [hasI_or (h.st _) hs]
    simp
  · rename_i e
    simp [e]

theorem give_same {f : RoI → Int} {r : RoI} {s : Int} (e : orI (f r) s = f r) : giveF f r s = f := by
  funext r'
  unfold giveF
  split
  · rename_i q; subst q; exact e
  · rfl

theorem ofG_add {gs : List GrI} (h : SG gs) {r : RoI} {s : Int} (hs : setB s) : ofG (addG gs r s) = giveF (ofG gs) r s := by
  unfold addG
  split
  · rename_i e
    subst e
    exact (give_same (or_zero (ofG_set h r))).symm
  · have := hs.1
    funext r'
    rw [ofG_ins h ⟨by omega, hs.2⟩]
    rfl

/-- One step over the first k rules. -/
def stepFTo (zs : List RuleI) (f : RoI → Int) (k : Nat) : RoI → Int := (zs.take k).foldl (fun o z => giveF o (z.ho, z.hn) (byF f z)) f

theorem stepFTo_succ {zs : List RuleI} {k : Nat} {z : RuleI} (h : zs[k]? = some z) (f : RoI → Int) : stepFTo zs f (k + 1) = giveF (stepFTo zs f k) (z.ho, z.hn) (byF f z) := by
  have hk : k < zs.length := by
    by_cases q : k < zs.length
    · exact q
    · rw [List.getElem?_eq_none (by omega)] at h; cases h
  have e : zs[k] = z := by rw [List.getElem?_eq_getElem hk] at h; exact Option.some.inj h
  rw [stepFTo, List.take_succ_eq_append_getElem hk, List.foldl_append, e]
  rfl

theorem fn_stepTo {zs : List RuleI} {f : RoI → Int} (hz : ∀ z ∈ zs, okR z) (hf : FN f) : ∀ k, FN (stepFTo zs f k)
  | 0 => by simpa [stepFTo] using hf
  | k + 1 => by
    by_cases q : k < zs.length
    · have e : zs[k]? = some zs[k] := List.getElem?_eq_getElem q
      rw [stepFTo_succ e]
      exact fn_give (fn_stepTo hz hf k) (hz _ (List.getElem_mem q)).1 (byF_set hf.st (hz _ (List.getElem_mem q)))
    · have : stepFTo zs f (k + 1) = stepFTo zs f k := by
        unfold stepFTo
        rw [List.take_of_length_le (by omega), List.take_of_length_le (by omega)]
      rw [this]
      exact fn_stepTo hz hf k

theorem ofG_stepTo {zs : List RuleI} {gs : List GrI} (hz : ∀ z ∈ zs, okR z) (hg : SG gs) : ∀ k, ofG (stepTo zs gs k) = stepFTo zs (ofG gs) k
  | 0 => by simp [stepTo, stepFTo]
  | k + 1 => by
    by_cases q : k < zs.length
    · have e : zs[k]? = some zs[k] := List.getElem?_eq_getElem q
      rw [stepFTo_succ e, stepTo_succ e, ofG_add (sg_stepTo hz hg k) (byF_set (ofG_set hg) (hz _ (List.getElem_mem q))), ofG_stepTo hz hg k]
    · have e1 : stepFTo zs (ofG gs) (k + 1) = stepFTo zs (ofG gs) k := by
        unfold stepFTo
        rw [List.take_of_length_le (by omega), List.take_of_length_le (by omega)]
      have e2 : stepTo zs gs (k + 1) = stepTo zs gs k := by
        unfold stepTo
        rw [List.take_of_length_le (by omega), List.take_of_length_le (by omega)]
      rw [e1, e2]
      exact ofG_stepTo hz hg k

def stepF (zs : List RuleI) (f : RoI → Int) : RoI → Int := stepFTo zs f zs.length

theorem ofG_step {zs : List RuleI} {gs : List GrI} (hz : ∀ z ∈ zs, okR z) (hg : SG gs) : ofG (stepG zs gs) = stepF zs (ofG gs) := ofG_stepTo hz hg _

/-- The grants of a function: its roles, rising. -/
theorem sg_keys {f : RoI → Int} (hf : FN f) {rs : List RoI} (hs : SS rs) (hm : ∀ r, r ∈ rs ↔ f r ≠ 0) : SG (rs.map (fun r => (r, f r))) ∧ ofG (rs.map (fun r => (r, f r))) = f := by
  have h1 : SG (rs.map (fun r => (r, f r))) := by
    refine ⟨List.pairwise_map.2 hs, fun x hx => ?_, fun x hx => ?_⟩
    · obtain ⟨r, hr, rfl⟩ := List.mem_map.1 hx
      exact hf.ro r ((hm r).1 hr)
    · obtain ⟨r, hr, rfl⟩ := List.mem_map.1 hx
      have := (hm r).1 hr
      have := hf.st r
      unfold setB at this
      show 1 ≤ f r ∧ f r ≤ 255
      omega
  refine ⟨h1, funext fun r => ?_⟩
  by_cases q : f r = 0
  · rw [q]
    refine ofG_none (fun x hx e => ?_)
    obtain ⟨r', hr, rfl⟩ := List.mem_map.1 hx
    exact (hm r').1 hr (by rw [show r' = r from e]; exact q)
  · exact ofG_mem h1 (x := (r, f r)) (List.mem_map.2 ⟨r, (hm r).2 q, rfl⟩)

/-! the sum over all roles -/

def sumF (f : RoI → Int) : Int := (allRo.map f).sum

theorem sumF_bd {f : RoI → Int} (h : FN f) : 0 ≤ sumF f ∧ sumF f ≤ 10200 := by
  have e1 : ∀ (l : List RoI), 0 ≤ (l.map f).sum ∧ (l.map f).sum ≤ 255 * l.length := by
    intro l
    induction l with
    | nil => simp
    | cons x xs ih =>
      have := h.st x
      unfold setB at this
      simp only [List.map_cons, List.sum_cons, List.length_cons]
      omega
  have := e1 allRo
  rw [allRo_len] at this
  unfold sumF
  omega

theorem sumF_give {f : RoI → Int} (h : FN f) {r : RoI} (hr : roleB r.1 r.2 = true) {s : Int} (hs : setB s) (hn : orI (f r) s ≠ f r) : sumF f < sumF (giveF f r s) := by
  refine sum_strict f _ r allRo (fun x _ => ?_) (mem_allRo hr) ?_
  · unfold giveF
    split
    · rename_i e; subst e; exact or_le (h.st _) hs
    · exact Int.le_refl _
  · have := or_le (h.st r) hs
    unfold giveF
    rw [if_pos rfl]
    omega

/-! the worklist -/

/-- What a rule gives may turn with who has the role h. -/
def leansB (z : RuleI) (h : RoI) : Bool := decide (z.k = 3 ∧ z.tn = h.2) || decide (h ∈ bodyR z)

theorem linkTo_congr {f g : RoI → Int} {n : Int} (h : ∀ y, f (y, n) = g (y, n)) (ys : List Int) (k : Nat) : linkTo f n ys k = linkTo g n ys k := by
  have : (fun (o : Int) (y : Int) => orI o (f (y, n))) = fun o y => orI o (g (y, n)) := by
    funext o y
    rw [h y]
  unfold linkTo
  rw [this]

theorem by_still {f : RoI → Int} {z : RuleI} {h : RoI} {s : Int} (hk : 1 ≤ z.k ∧ z.k ≤ 4) (hl : leansB z h = false) : byF (giveF f h s) z = byF f z := by
  unfold leansB at hl
  rw [Bool.or_eq_false_iff] at hl
  obtain ⟨h1, h2⟩ := hl
  have h1 := of_decide_eq_false h1
  have h2 := of_decide_eq_false h2
  unfold bodyR at h2
  have off : ∀ r, r ≠ h → giveF f h s r = f r := fun r e => if_neg e
  unfold byF
  by_cases e1 : z.k = 1
  · simp only [if_pos e1]
  · simp only [if_neg e1] at h2 ⊢
    by_cases e2 : z.k = 2
    · simp only [if_pos e2]
      rw [if_neg (by omega)] at h2
      exact off _ (fun e => h2 (by rw [e]; simp))
    · simp only [if_neg e2]
      by_cases e4 : z.k = 4
      · simp only [if_pos e4] at h2 ⊢
        rw [off _ (fun e => h2 (by rw [e]; simp)), off _ (fun e => h2 (by rw [e]; simp))]
      · simp only [if_neg e4] at h2 ⊢
        have e3 : z.k = 3 := by omega
        rw [off (z.oo, z.on) (fun e => h2 (by rw [e]; simp))]
        exact linkTo_congr (fun y => off _ (fun e => h1 ⟨e3, by rw [← e]⟩)) _ _

/-- The worklist behind the first k rules are asked. -/
def wakeTo (zs : List RuleI) (h : RoI) (ws : List RuleI) (k : Nat) : List RuleI := (zs.take k).foldl (fun o z => if leansB z h = true ∧ z ∉ o then o ++ [z] else o) ws

theorem wakeTo_succ {zs : List RuleI} {k : Nat} {z : RuleI} (e : zs[k]? = some z) (h : RoI) (ws : List RuleI) : wakeTo zs h ws (k + 1) = if leansB z h = true ∧ z ∉ wakeTo zs h ws k then wakeTo zs h ws k ++ [z] else wakeTo zs h ws k := by
  have hk : k < zs.length := by
    by_cases q : k < zs.length
    · exact q
    · rw [List.getElem?_eq_none (by omega)] at e; cases e
  have e : zs[k] = z := by rw [List.getElem?_eq_getElem hk] at e; exact Option.some.inj e
  rw [wakeTo, List.take_succ_eq_append_getElem hk, List.foldl_append, e]
  rfl

theorem wake_fold (h : RoI) (all : List RuleI) : ∀ (zs ws : List RuleI), (∀ z ∈ zs, z ∈ all) → (∀ z ∈ ws, z ∈ all) → ws.Nodup →
    let o := zs.foldl (fun o z => if leansB z h = true ∧ z ∉ o then o ++ [z] else o) ws
    o.Nodup ∧ (∀ z ∈ o, z ∈ all) ∧ (∀ z ∈ ws, z ∈ o) ∧ (∀ z ∈ zs, leansB z h = true → z ∈ o)
  | [], ws, _, hs, hn => ⟨hn, hs, fun _ q => q, fun _ q => by cases q⟩
  | x :: xs, ws, hz, hs, hn => by
    have hx : x ∈ all := hz x (by simp)
    by_cases q : leansB x h = true ∧ x ∉ ws
    · have hn' : (ws ++ [x]).Nodup := List.nodup_append.2 ⟨hn, by simp, fun a ha b hb e => q.2 (by simp at hb; rw [← hb, ← e]; exact ha)⟩
      have hs' : ∀ z ∈ ws ++ [x], z ∈ all := fun z hzz => by
        rcases List.mem_append.1 hzz with q | q
        · exact hs z q
        · simp at q; rw [q]; exact hx
      obtain ⟨i1, i2, i3, i4⟩ := wake_fold h all xs (ws ++ [x]) (fun z hzz => hz z (by simp [hzz])) hs' hn'
      rw [List.foldl_cons, if_pos q]
      refine ⟨i1, i2, fun z hzz => i3 z (by simp [hzz]), fun z hzz hl => ?_⟩
      rcases List.mem_cons.1 hzz with rfl | hzz'
      · exact i3 z (by simp)
      · exact i4 z hzz' hl
    · obtain ⟨i1, i2, i3, i4⟩ := wake_fold h all xs ws (fun z hzz => hz z (by simp [hzz])) hs hn
      rw [List.foldl_cons, if_neg q]
      refine ⟨i1, i2, i3, fun z hzz hl => ?_⟩
      rcases List.mem_cons.1 hzz with rfl | hzz'
      · exact i3 z (Classical.byContradiction fun e => q ⟨hl, e⟩)
      · exact i4 z hzz' hl

structure Work (zs : List RuleI) (f : RoI → Int) (ws : List RuleI) : Prop where
  fn : FN f
  has : ∀ r p, 1 ≤ p → hasI (f r) p = true → Has zs r p
  sub : ∀ z ∈ ws, z ∈ zs
  nd : ws.Nodup
  done : ∀ z ∈ zs, z ∉ ws → ∀ p, 1 ≤ p → hasI (byF f z) p = true → hasI (f (z.ho, z.hn)) p = true

theorem Work.len {zs : List RuleI} {f : RoI → Int} {ws : List RuleI} (h : Work zs f ws) : ws.length ≤ zs.length := nodup_len _ _ h.nd h.sub

theorem work_start {zs : List RuleI} (hn : zs.Nodup) : Work zs zeroF zs :=
  ⟨fn_zero, fun r p _ q => by simp [zeroF, hasI_zero] at q, fun _ q => q, hn, fun z h1 h2 => absurd h1 h2⟩

theorem work_stay {zs : List RuleI} {f : RoI → Int} {z : RuleI} {ws : List RuleI} (h : Work zs f (z :: ws)) (hok : okR z) (e : orI (f (z.ho, z.hn)) (byF f z) = f (z.ho, z.hn)) : Work zs f ws := by
  refine ⟨h.fn, h.has, fun x hx => h.sub x (by simp [hx]), (List.nodup_cons.1 h.nd).2, fun x h1 h2 p hp q => ?_⟩
  by_cases ex : x = z
  · subst ex
    exact (or_same (h.fn.st _) (byF_set h.fn.st hok)).1 e p hp q
  · exact h.done x h1 (fun m => by rcases List.mem_cons.1 m with m | m; exact ex m; exact h2 m) p hp q

theorem work_grow {zs : List RuleI} (hz : ∀ z ∈ zs, okR z ∧ 1 ≤ z.k ∧ z.k ≤ 4) {f : RoI → Int} {z : RuleI} {ws : List RuleI} (h : Work zs f (z :: ws)) :
    Work zs (giveF f (z.ho, z.hn) (byF f z)) (wakeTo zs (z.ho, z.hn) ws zs.length) := by
  have hok : ∀ z ∈ zs, okR z := fun z q => (hz z q).1
  have hzz : z ∈ zs := h.sub z (by simp)
  have hs := byF_set h.fn.st (hok z hzz)
  have hf := fn_give h.fn (r := (z.ho, z.hn)) (hok z hzz).1 hs
  have hnd := List.nodup_cons.1 h.nd
  have w := wake_fold (z.ho, z.hn) zs zs ws (fun _ q => q) (fun x hx => h.sub x (by simp [hx])) hnd.2
  have ew : wakeTo zs (z.ho, z.hn) ws zs.length = zs.foldl (fun o x => if leansB x (z.ho, z.hn) = true ∧ x ∉ o then o ++ [x] else o) ws := by
    unfold wakeTo
    rw [List.take_length]
  rw [ew]
  obtain ⟨w1, w2, w3, w4⟩ := w
  refine ⟨hf, fun r p hp q => ?_, w2, w1, fun x hx hx2 p hp q => ?_⟩
  · rcases (hasI_give h.fn _ hs r p).1 q with q | ⟨e, q⟩
    · exact h.has r p hp q
    · rw [e]
      exact gives_has hok hzz hp (gives_mono (fun r p hp q => h.has r p hp q) hp ((byF_has h.fn.st (hok z hzz) hp).1 q))
  · have hl : leansB x (z.ho, z.hn) = false := by
      cases e : leansB x (z.ho, z.hn)
      · rfl
      · exact absurd (w4 x hx e) hx2
    rw [by_still (hz x hx).2 hl] at q
    by_cases ex : x = z
    · subst ex
      exact (hasI_give h.fn _ hs _ p).2 (.inr ⟨rfl, q⟩)
    · refine (hasI_give h.fn _ hs _ p).2 (.inl (h.done x hx (fun m => ?_) p hp q))
      rcases List.mem_cons.1 m with m | m
      · exact ex m
      · exact hx2 (w3 x m)

theorem work_end {zs : List RuleI} (hz : ∀ z ∈ zs, okR z) {f : RoI → Int} (h : Work zs f []) {gs : List GrI} (hg : SG gs) (e : ofG gs = f) : AllG zs gs := by
  subst e
  exact allG_of hz hg h.has (fun z hzz p hp q => h.done z hzz (by simp) p hp q)

/-! the first step at which a rule gives -/

/-- A rule of head r that gives it to p. -/
def hitB (f : RoI → Int) (r : RoI) (p : Int) (z : RuleI) : Bool := decide ((z.ho, z.hn) = r) && hasI (byF f z) p

def noneHit (zs : List RuleI) (f : RoI → Int) (r : RoI) (p : Int) : Prop := ∀ z ∈ zs, hitB f r p z = false

theorem inN_hit {zs : List RuleI} (hz : ∀ z ∈ zs, okR z) (n : Nat) (r : RoI) (p : Int) : InN zs (n + 1) r p ↔ InN zs n r p ∨ ¬ noneHit zs (ofG (itG zs n)) r p := by
  unfold InN
  rw [itG, has_step hz (sg_it hz n)]
  refine or_congr_right ?_
  constructor
  · rintro ⟨z, h1, h2, h3⟩ q
    have := q z h1
    simp [hitB, h2, h3] at this
  · intro q
    refine Classical.byContradiction fun hno => q (fun z h1 => ?_)
    cases e : hitB (ofG (itG zs n)) r p z
    · rfl
    · unfold hitB at e
      rw [Bool.and_eq_true] at e
      exact absurd ⟨z, h1, of_decide_eq_true e.1, e.2⟩ hno

theorem inN_none {zs : List RuleI} (hz : ∀ z ∈ zs, okR z) (r : RoI) (p : Int) : ∀ n, (∀ k, k < n → noneHit zs (ofG (itG zs k)) r p) → ¬ InN zs n r p
  | 0, _ => by simp [InN, itG, ofG, hasI_zero]
  | n + 1, h => by
    rw [inN_hit hz]
    rintro (q | q)
    · exact inN_none hz r p n (fun k hk => h k (by omega)) q
    · exact q (h n (by omega))

/-- Who has the role not: no rule ever gives it. -/
theorem none_of_not {zs : List RuleI} (hz : ∀ z ∈ zs, okR z) {r : RoI} {p : Int} (h : ¬ Has zs r p) (n : Nat) : noneHit zs (ofG (itG zs n)) r p :=
  Classical.byContradiction fun q => h ⟨n + 1, (inN_hit hz n r p).2 (.inr q)⟩

/-- Who has the role: some step gives it, and the first does. -/
theorem first_of {zs : List RuleI} (hz : ∀ z ∈ zs, okR z) {r : RoI} {p : Int} (h : Has zs r p) : ∃ n, ¬ noneHit zs (ofG (itG zs n)) r p ∧ ∀ k, k < n → noneHit zs (ofG (itG zs k)) r p := by
  have ex : ∃ n, ¬ noneHit zs (ofG (itG zs n)) r p := by
    refine Classical.byContradiction fun hno => ?_
    obtain ⟨n, g⟩ := h
    exact inN_none hz r p n (fun k _ => Classical.byContradiction fun q => hno ⟨k, q⟩) g
  obtain ⟨n, g⟩ := ex
  induction n using Nat.strongRecOn with
  | _ n ih =>
    by_cases q : ∃ k, k < n ∧ ¬ noneHit zs (ofG (itG zs k)) r p
    · obtain ⟨k, hk, hq⟩ := q
      exact ih k hk hq
    · exact ⟨n, g, fun k hk => Classical.byContradiction fun q' => q ⟨k, hk, q'⟩⟩

/-- Steps that no longer turn anything, and no rule has given it: it is not there. -/
theorem not_of_still {zs : List RuleI} (hz : ∀ z ∈ zs, okR z) {r : RoI} {p : Int} (h0 : 1 ≤ p) (h1 : p ≤ 8) {n : Nat} (hn : ∀ k, k ≤ n → noneHit zs (ofG (itG zs k)) r p) (hs : stepG zs (itG zs n) = itG zs n) : ¬ Has zs r p := by
  intro g
  have := ((allG_it hz hs).al r p h0 h1).2 g
  exact inN_none hz r p n (fun k hk => hn k (by omega)) this

end Go.Proofs.Ytocdclgolhhckaa

namespace Go.Proofs.Ytocdclgolhhckaa
open Go.RowKit Go.Maps
open Go.ChangeMaps (setBlock heap_setBlock_same heap_setBlock_other)
set_option linter.unusedSimpArgs false
set_option maxRecDepth 4000

theorem mp_map : Try.prog.underlying 88 = some (.map 31 86) := by kernel_rfl
theorem mp_set : Try.prog.underlying 86 = some (.int .u8) := by kernel_rfl
theorem mp_laid : laidOutB Try.prog = true := by kernel_rfl
theorem mp_row : (31 : TypeId) < Try.prog.types.size := of_decide_eq_true (by kernel_rfl)
theorem mp_kt : Try.prog.keyTypeAt 2 31 = true := by kernel_rfl
theorem mp_lim : 2 + 1 ≤ 10000 := by omega
theorem mp_law : WideMaps.KeyLaw Try.prog 31 := by
  refine deep_law_laid (m := 2) mp_laid mp_lim mp_row mp_kt ?_
  rw [Try.underlying31]
theorem mp_keyed : Keyed Try.prog 31 := Keyed.of_law mp_law
theorem mp_zero (w : World) : (zeroValue 86).run Try.prog w = .ok (.int .u8 0) w := by kernel_rfl
theorem mp_cells : Try.prog.cellsOf 31 = 2 := by kernel_rfl
theorem mp_cell1 : Try.prog.cellsOf 2 = 1 := by kernel_rfl
theorem mp_keyT : Try.prog.keyType 31 = true := by kernel_rfl
theorem mp_types : ∃ d, Try.prog.types.size + 1 = d + 2 := by
  have h : 31 < Try.prog.types.size := mp_row
  generalize Try.prog.types.size = n at h ⊢
  exact ⟨n - 1, by omega⟩

abbrev roV (r : RoI) : Value := .agg #[.int .i64 r.1, .int .i64 r.2]
def roW (r : RoI) : Prop := (Lit.int .i64 r.1).wf = true ∧ (Lit.int .i64 r.2).wf = true
def keyL (r : RoI) : Lit := .string (keyBytes [.int .i64 r.1, .int .i64 r.2])

theorem roW_of {r : RoI} (h : roleB r.1 r.2 = true) : roW r := by
  simp [roleB, prinB, nameB] at h
  constructor
  · simp [Lit.wf, IntKind.min, IntKind.max, IntKind.signed, IntKind.bits]; omega
  · simp [Lit.wf, IntKind.min, IntKind.max, IntKind.signed, IntKind.bits]; omega

theorem key_lit1 (d : Nat) (v : Value) : Try.prog.keyLits (d + 1) 2 [v] = match v with | .int q n => if q = .i64 ∧ (Lit.int .i64 n).wf = true then some [.int .i64 n] else none | _ => none := by
  cases v <;> simp [Program.keyLits, Try.underlying2]

theorem key_lits (d : Nat) (a b : Value) : Try.prog.keyLits (d + 2) 31 [a, b] = (Try.prog.keyLits (d + 1) 2 [a]).bind fun x => (Try.prog.keyLits (d + 1) 2 [b]).map fun y => x ++ y := by
  generalize hx : Try.prog.keyLits (d + 1) 2 [a] = x
  generalize hy : Try.prog.keyLits (d + 1) 2 [b] = y
  conv => lhs; unfold Program.keyLits
  simp only [Try.underlying31]
  simp [mp_cells, mp_cell1, List.mapM_cons, hx, hy]
  cases x <;> simp
  cases y <;> simp

theorem key_of {r : RoI} (h : roW r) : keyOf Try.prog 31 (roV r) = some (keyL r) := by
  obtain ⟨d, hd⟩ := mp_types
  unfold keyOf
  simp only [Try.underlying31]
  simp [mp_keyT, Value.formed, Try.underlying31, mp_cells, Value.cells, hd, key_lits, key_lit1, h.1, h.2, keyL]

theorem key_inv {v : Value} {kl : Lit} (h : keyOf Try.prog 31 v = some kl) : ∃ r, roW r ∧ v = roV r ∧ kl = keyL r := by
  obtain ⟨d, hd⟩ := mp_types
  unfold keyOf at h
  simp only [Try.underlying31] at h
  split at h
  · rename_i hc
    rw [Bool.and_eq_true] at hc
    have hf := hc.2
    cases v <;> simp [Value.formed, Try.underlying31, mp_cells] at hf
    rename_i xs
    obtain ⟨a, b, rfl⟩ : ∃ a b, xs = #[a, b] := by
      rcases xs with ⟨l⟩
      match l, hf with
      | [a, b], _ => exact ⟨a, b, rfl⟩
    rw [hd, show (Value.cells (.agg #[a, b])).toList = [a, b] from rfl, key_lits, key_lit1, key_lit1] at h
    obtain ⟨ls, h1, rfl⟩ := Option.map_eq_some_iff.1 h
    obtain ⟨l1, hx, h2⟩ := Option.bind_eq_some_iff.1 h1
    obtain ⟨l2, hy, rfl⟩ := Option.map_eq_some_iff.1 h2
    cases a <;> simp at hx
    cases b <;> simp at hy
    obtain ⟨⟨rfl, wx⟩, rfl⟩ := hx
    obtain ⟨⟨rfl, wy⟩, rfl⟩ := hy
    exact ⟨(_, _), ⟨wx, wy⟩, rfl, rfl⟩
  · cases h

theorem keyL_inj {a b : RoI} (ha : roW a) (hb : roW b) (h : keyL a = keyL b) : a = b := by
  have := mp_keyed.inj (key_of ha) (h ▸ key_of hb)
  simp at this
  exact Prod.ext this.1 this.2

theorem keyL_key (r : RoI) : WideAt.IsKeyLit (keyL r) := trivial

/-- What a map reads as tells who has which role. -/
structure View (D : DataW Unit) (f : RoI → Int) : Prop where
  at' : ∀ r, roW r → D.atKey (keyL r) (.lit (.int .u8 0)) = .lit (.int .u8 (f r))
  has : ∀ r, roW r → Maps.has D (keyL r) = decide (f r ≠ 0)

noncomputable abbrev elU : Value → Option (DataW Unit × List MemPlace) := plainElem Try.prog 86

theorem elU_int {s : Int} (h : setB s) : elU (.int .u8 s) = some (.lit (.int .u8 s), []) := by
  refine plainElem_int mp_set ?_
  have := h.1
  have := h.2
  simp [Lit.wf, IntKind.min, IntKind.max, IntKind.signed, IntKind.bits]
  omega

/-- Block b holds who has which role. -/
def GM (w : World) (b : Nat) (f : RoI → Int) : Prop := FN f ∧ ∃ D n, w.ownsMap Try.prog 31 elU b n D ∧ View D f

theorem GM.fn {w : World} {b : Nat} {f : RoI → Int} (h : GM w b f) : FN f := h.1

theorem GM.lt {w : World} {b : Nat} {f : RoI → Int} (h : GM w b f) : b < w.heap.size := by
  obtain ⟨_, D, n, ho, _⟩ := h
  exact ho.lt

theorem gm_heap {w w' : World} {b b' : Nat} {f : RoI → Int} (h : GM w b f) (e : w'.heap[b']? = w.heap[b]?) : GM w' b' f := by
  obtain ⟨h1, D, n, ⟨es, clock, hb, F, hs, hD⟩, hv⟩ := h
  exact ⟨h1, D, n, ⟨es, clock, e.trans hb, F, hs, hD⟩, hv⟩

theorem GM.below {w w' : World} {b k : Nat} {f : RoI → Int} (h : GM w b f) (hk : b < k) (hb : Below k w w') : GM w' b f := gm_heap h (hb.block b hk)

/-- How many entries there may be. -/
theorem own_size {w : World} {b n : Nat} {D : DataW Unit} {f : RoI → Int} (hf : FN f) (ho : w.ownsMap Try.prog 31 elU b n D) (hv : View D f) : w.ownsMap Try.prog 31 elU b 40 D ∧ Maps.size D ≤ 40 := by
  obtain ⟨es', hD', hne, _⟩ := ho.entries mp_keyed
  obtain ⟨es, clock, hb, F, hs, hD⟩ := ho
  have hlen : Maps.size D = es.size := by
    rw [hD]
    show ((es.toList.map _).foldr DataW.insert []).length = _
    rw [length_sorted]
    simp
  have hkeys : ∀ p ∈ es', ∃ r, roleB r.1 r.2 = true ∧ p.1 = keyL r := by
    intro p hp
    have hp' : p ∈ es.toList.map (WideElems.rg Try.prog 31 elU) := by
      rw [hD] at hD'
      have := (DataW.map.inj hD').symm
      rw [this] at hp
      exact mem_sorted.1 hp
    obtain ⟨v, hvv⟩ := fit_keys F p hp'
    obtain ⟨r, hr, _, e⟩ := key_inv hvv
    refine ⟨r, ?_, e⟩
    refine hf.ro r ?_
    have h1 := hv.has r hr
    rw [hD', has_eq] at h1
    have : (es'.any fun p => p.1.sameKey (keyL r)) = true := List.any_eq_true.2 ⟨p, hp, by rw [e]; exact WideAt.sameKey_self (keyL_key r)⟩
    rw [this] at h1
    exact of_decide_eq_true h1.symm
  have h40 : es'.length ≤ 40 := by
    have hnd : (es'.map Prod.fst).Nodup := List.pairwise_map.2 hne
    have := @nodup_len Lit (fun _ _ => Classical.propDecidable _) (es'.map Prod.fst) (allRo.map keyL) hnd (fun x hx => by
      obtain ⟨p, hp, rfl⟩ := List.mem_map.1 hx
      obtain ⟨r, hr, e⟩ := hkeys p hp
      rw [e]
      exact List.mem_map.2 ⟨r, mem_allRo hr, rfl⟩)
    simpa [allRo_len] using this
  have hsz : Maps.size D ≤ 40 := by rw [hD', size_eq]; exact h40
  exact ⟨⟨es, clock, hb, F, by omega, hD⟩, hsz⟩

theorem gm_made (w : World) : GM (w.alloc (.map #[] 0)) w.heap.size zeroF := by
  refine ⟨fn_zero, .map [], 0, World.ownsMap_made w _ _ _, ⟨fun r _ => ?_, fun r _ => ?_⟩⟩
  · rfl
  · rfl

theorem gm_look {w : World} {b : Nat} {f : RoI → Int} (h : GM w b f) {r : RoI} (hr : roW r) : (Instr.lookup 88 (.map (some b)) (roV r) false).run Try.prog w = .ok (.int .u8 (f r)) w := by
  obtain ⟨_, D, n, ho, hv⟩ := h
  obtain ⟨c, h1, h2, _⟩ := ho.lookup_int mp_keyed mp_map mp_set (mp_zero w) (key_of hr)
  rw [hv.at' r hr] at h2
  cases h2
  exact h1

/-- The set at a role is turned. -/
def setF (f : RoI → Int) (r : RoI) (s : Int) : RoI → Int := fun r' => if r' = r then s else f r'

theorem view_put {D : DataW Unit} {f : RoI → Int} (hm : IsMap D) (h : View D f) {r : RoI} (hr : roW r) {s : Int} (hs : s ≠ 0) : View (D.put (keyL r) (.lit (.int .u8 s))) (setF f r s) := by
  refine ⟨fun r' hr' => ?_, fun r' hr' => ?_⟩
  · by_cases e : r' = r
    · subst e
      rw [atKey_put_same hm (keyL_key _), setF, if_pos rfl]
    · rw [atKey_put_other (fun q => e (keyL_inj hr' hr q)), h.at' r' hr', setF, if_neg e]
  · by_cases e : r' = r
    · subst e
      rw [has_put_same hm (keyL_key _), setF, if_pos rfl]
      simp [hs]
    · rw [has_put_other (fun q => e (keyL_inj hr' hr q)), h.has r' hr', setF, if_neg e]

/-- 'm[r] = ..' of the value that was there: what is asked, then what is written. -/
theorem gm_entry {w : World} {b : Nat} {f : RoI → Int} (h : GM w b f) {r : RoI} (hr : roleB r.1 r.2 = true) :
    ∃ (st : Nat) (w1 : World), (Instr.mapEntry 88 (.map (some b)) (roV r)).run Try.prog w = .ok (.tuple #[.int .u8 (f r), goInt st]) w1 ∧ w.grownBy w1 (some b) ∧ w1.heap.size = w.heap.size ∧
      ∀ (w2 : World) (s : Int), w2.heap[b]? = w1.heap[b]? → setB s → s ≠ 0 → ∃ w3, (Instr.entryStore 88 (.map (some b)) (goInt st) (.int .u8 s)).run Try.prog w2 = .ok () w3 ∧ w2.grownBy w3 (some b) ∧ w3.heap.size = w2.heap.size ∧ GM w3 b (setF f r s) := by
  have hrw := roW_of hr
  have hlook := gm_look h hrw
  obtain ⟨hfn, D, n, ho, hv⟩ := h
  have ho40 := (own_size hfn ho hv).1
  have hm := (ho40.entries mp_keyed)
  have hup := fun (s : Int) (hs : setB s) => ho40.update mp_keyed mp_map (by unfold maxLen; omega) (key_of hrw) (elU_int hs)
  obtain ⟨es, clock, hb, F, hsz, hD⟩ := ho40
  obtain ⟨v0, st, es1, clock1, h1, h2, h3⟩ := WideElems.entry_then_store mp_law mp_map mp_zero hb F (key_of hrw)
  have ev : v0 = .int .u8 (f r) := by
    rcases Maps.fit_look false mp_keyed mp_map (mp_zero w) hb F (key_of hrw) with ⟨hrun, hno, _⟩ | ⟨e0, y, he0, hk0, hrun, _⟩
    · rw [hlook] at hrun
      have hrun := (Result.ok.inj hrun).1
      rcases h2 with ⟨e0, hm0, hk0, _⟩ | ⟨_, e⟩
      · exact absurd hk0 (hno e0 hm0)
      · rw [e]; exact hrun.symm
    · rw [hlook] at hrun
      have hrun := (Result.ok.inj hrun).1
      rcases h2 with ⟨e1, hm1, hk1, e⟩ | ⟨hno, _⟩
      · rw [e]
        have hn : es.toList.Pairwise (fun x y => x.key ≠ y.key) := ((MapKept.stamped_iff es clock).1 F.stamped).2.2
        rw [entry_eq_of_key hn hm1 he0 (hk1.trans hk0.symm)]; exact hrun.symm
      · exact absurd hk0 (hno e0 he0)
  subst ev
  refine ⟨st, _, h1, ⟨rfl, rfl, rfl, by simp [setBlock], fun i _ hi => heap_setBlock_other hb _ (fun e => hi (by rw [e]))⟩, by simp [setBlock], fun w2 s hw2 hs hs0 => ?_⟩
  rw [heap_setBlock_same hb] at hw2
  obtain ⟨es', clock', h4, h5⟩ := h3 w2 (.int .u8 s) hw2
  obtain ⟨w', h6, h7, _⟩ := hup s hs
  rw [h5] at h6
  cases h6
  refine ⟨_, h4, ⟨rfl, rfl, rfl, by simp [setBlock], fun i _ hi => heap_setBlock_other hw2 _ (fun e => hi (by rw [e]))⟩, by simp [setBlock], ?_⟩
  refine gm_heap (w := setBlock w b (.map es' clock')) (b := b) ?_ (by rw [heap_setBlock_same hw2, heap_setBlock_same hb])
  refine ⟨⟨fun r' => ?_, fun r' hn => ?_⟩, _, _, h7, view_put ?_ hv hrw hs0⟩
  · unfold setF
    split
    · exact hs
    · exact hfn.st _
  · unfold setF at hn
    split at hn
    · rename_i e; rw [e]; exact hr
    · exact hfn.ro _ hn
  · obtain ⟨es0, e, _⟩ := hm
    exact ⟨es0, e⟩

end Go.Proofs.Ytocdclgolhhckaa
