/-
  PLAIN WORDS on who has which role as a function of roles: a set given to a role, one step, the worklist of rules, the first step at which a rule gives. No Go text is walked here.
  Conditions: each fact bears its own.
  THE MAP OF GRANTS: what a block that holds it reads as, its look-ups, what is written at a key, in the words of the maps' library. No Go text is walked here.
  Conditions: each fact bears its own.
  THE MAP OF GRANTS, CELL BY CELL: what is asked of it and what is written, in whatever world has that block. No Go text is walked here.
  Conditions: each fact bears its own.
  CONTRACT: (impl.grantMap).give: a set given to a role in the map.
  Conditions: each contract bears its own.
-/
import Derived.Test.YtdooocjjohdpjaaPg08
import Derived.Test.YtdooocjjohdpjaaPg02
import Derived.Maps.Own
import Derived.Maps.OwnSet
import Derived.Maps.Ext
import Derived.Maps.RangeWalk
import Derived.DeepKeys4
import Derived.WideKeyEntry
import Derived.WalkSmall
import Derived.BigRegion
import Derived.BigQuiet
import Derived.Deep.QuietTactic
namespace Go.Proofs.Ytdooocjjohdpjaa
open Go.RowKit

/-! lists -/

theorem nodup_len {α : Type} [DecidableEq α] : ∀ (l L : List α), l.Nodup → (∀ x ∈ l, x ∈ L) → l.length ≤ L.length
  | [], _, _, _ => by simp
  | x :: xs, L, h, hs => by
    have h' := List.nodup_cons.1 h
    have hx : x ∈ L := hs x (by simp)
    have := nodup_len xs (L.erase x) h'.2 (fun y hy => (List.mem_erase_of_ne (fun e => h'.1 (by rw [← e]; exact hy))).2 (hs y (by simp [hy])))
    rw [List.length_erase_of_mem hx] at this
    have : 0 < L.length := List.length_pos_of_mem hx
    simp only [List.length_cons]
    omega

theorem sum_mono {α : Type} (f g : α → Int) : ∀ (l : List α), (∀ x ∈ l, f x ≤ g x) → (l.map f).sum ≤ (l.map g).sum
  | [], _ => by simp
  | x :: xs, h => by
    have := sum_mono f g xs (fun y hy => h y (by simp [hy]))
    have := h x (by simp)
    simp only [List.map_cons, List.sum_cons]
    omega

theorem sum_strict {α : Type} (f g : α → Int) (a : α) : ∀ (l : List α), (∀ x ∈ l, f x ≤ g x) → a ∈ l → f a < g a → (l.map f).sum < (l.map g).sum
  | [], _, h, _ => by cases h
  | x :: xs, h, ha, hlt => by
    have hx := h x (by simp)
    have hm := sum_mono f g xs (fun y hy => h y (by simp [hy]))
    simp only [List.map_cons, List.sum_cons]
    rcases List.mem_cons.1 ha with rfl | ha'
    · omega
    · have := sum_strict f g a xs (fun y hy => h y (by simp [hy])) ha' hlt
      omega

/-! the roles -/

def allRo : List RoI := (List.range 8).flatMap (fun (i : Nat) => (List.range 5).map (fun (j : Nat) => ((((i : Int) + 1), ((j : Int) + 1)) : RoI)))

theorem allRo_len : allRo.length = 40 := by decide

theorem mem_allRo {r : RoI} (h : roleB r.1 r.2 = true) : r ∈ allRo := by
  obtain ⟨a, b⟩ := r
  simp [roleB, prinB, nameB] at h
  unfold allRo
  rw [List.mem_flatMap]
  obtain ⟨⟨h1, h2⟩, h3, h4⟩ := h
  obtain ⟨i, rfl⟩ : ∃ i : Nat, a = (i : Int) + 1 := ⟨(a - 1).toNat, by omega⟩
  obtain ⟨j, rfl⟩ : ∃ j : Nat, b = (j : Int) + 1 := ⟨(b - 1).toNat, by omega⟩
  have hi : i < 8 := by omega
  have hj : j < 5 := by omega
  exact ⟨i, List.mem_range.2 hi, List.mem_map.2 ⟨j, List.mem_range.2 hj, rfl⟩⟩

/-! who has which role, as a function -/

structure FN (f : RoI → Int) : Prop where
  st : ∀ r, setB (f r)
  ro : ∀ r, f r ≠ 0 → roleB r.1 r.2 = true

def zeroF : RoI → Int := fun _ => 0
def giveF (f : RoI → Int) (r : RoI) (s : Int) : RoI → Int := fun r' => if r' = r then orI (f r) s else f r'

theorem fn_zero : FN zeroF := ⟨fun _ => ⟨Int.le_refl _, show (0 : Int) ≤ 255 by decide⟩, fun _ h => absurd rfl h⟩

theorem fn_give {f : RoI → Int} (h : FN f) {r : RoI} (hr : roleB r.1 r.2 = true) {s : Int} (hs : setB s) : FN (giveF f r s) := by
  refine ⟨fun r' => ?_, fun r' hn => ?_⟩
  · unfold giveF
    split
    · exact or_set (h.st _) hs
    · exact h.st _
  · unfold giveF at hn
    split at hn
    · rename_i e; rw [e]; exact hr
    · exact h.ro _ hn

theorem fn_of_sg {gs : List GrI} (h : SG gs) : FN (ofG gs) := by
  refine ⟨ofG_set h, fun r hr => ?_⟩
  exact h.ro _ (ofG_some hr)

theorem or_zero {s : Int} (hs : setB s) : orI s 0 = s := by
  obtain ⟨B, rfl⟩ := Int.eq_ofNat_of_zero_le hs.1
  have h2 := hs.2
  have := or_nat B 0 (by omega) (by omega)
  simpa using this

theorem or_same {a b : Int} (ha : setB a) (hb : setB b) : orI a b = a ↔ ∀ p, 1 ≤ p → hasI b p = true → hasI a p = true := by
  constructor
  · intro e p _ q
    have := hasI_or ha hb p
    rw [e, q, Bool.or_true] at this
    exact this
  · intro h
    refine set_ext (or_set ha hb) ha (fun p h0 _ => ?_)
    rw [hasI_or ha hb]
    cases q : hasI b p
    · simp
    · rw [h p h0 q]; rfl

theorem hasI_give {f : RoI → Int} (h : FN f) (r : RoI) {s : Int} (hs : setB s) (r' : RoI) (p : Int) : hasI (giveF f r s r') p = true ↔ hasI (f r') p = true ∨ (r' = r ∧ hasI s p = true) := by
  unfold giveF
  split
  · rename_i e
    subst e
    rw [hasI_or (h.st _) hs]
    simp
  · rename_i e
    simp [e]

theorem give_same {f : RoI → Int} {r : RoI} {s : Int} (e : orI (f r) s = f r) : giveF f r s = f := by
  funext r'
  unfold giveF
  split
  · rename_i q; subst q; exact e
  · rfl

theorem ofG_add {gs : List GrI} (h : SG gs) {r : RoI} {s : Int} (hs : setB s) : ofG (addG gs r s) = giveF (ofG gs) r s := by
  unfold addG
  split
  · rename_i e
    subst e
    exact (give_same (or_zero (ofG_set h r))).symm
  · have := hs.1
    funext r'
    rw [ofG_ins h ⟨by omega, hs.2⟩]
    rfl

/-- One step over the first k rules. -/
def stepFTo (zs : List RuleI) (f : RoI → Int) (k : Nat) : RoI → Int := (zs.take k).foldl (fun o z => giveF o (z.ho, z.hn) (byF f z)) f

theorem stepFTo_succ {zs : List RuleI} {k : Nat} {z : RuleI} (h : zs[k]? = some z) (f : RoI → Int) : stepFTo zs f (k + 1) = giveF (stepFTo zs f k) (z.ho, z.hn) (byF f z) := by
  have hk : k < zs.length := by
    by_cases q : k < zs.length
    · exact q
    · rw [List.getElem?_eq_none (by omega)] at h; cases h
  have e : zs[k] = z := by rw [List.getElem?_eq_getElem hk] at h; exact Option.some.inj h
  rw [stepFTo, List.take_succ_eq_append_getElem hk, List.foldl_append, e]
  rfl

theorem fn_stepTo {zs : List RuleI} {f : RoI → Int} (hz : ∀ z ∈ zs, okR z) (hf : FN f) : ∀ k, FN (stepFTo zs f k)
  | 0 => by simpa [stepFTo] using hf
  | k + 1 => by
    by_cases q : k < zs.length
    · have e : zs[k]? = some zs[k] := List.getElem?_eq_getElem q
      rw [stepFTo_succ e]
      exact fn_give (fn_stepTo hz hf k) (hz _ (List.getElem_mem q)).1 (byF_set hf.st (hz _ (List.getElem_mem q)))
    · have : stepFTo zs f (k + 1) = stepFTo zs f k := by
        unfold stepFTo
        rw [List.take_of_length_le (by omega), List.take_of_length_le (by omega)]
      rw [this]
      exact fn_stepTo hz hf k

theorem ofG_stepTo {zs : List RuleI} {gs : List GrI} (hz : ∀ z ∈ zs, okR z) (hg : SG gs) : ∀ k, ofG (stepTo zs gs k) = stepFTo zs (ofG gs) k
  | 0 => by simp [stepTo, stepFTo]
  | k + 1 => by
    by_cases q : k < zs.length
    · have e : zs[k]? = some zs[k] := List.getElem?_eq_getElem q
      rw [stepFTo_succ e, stepTo_succ e, ofG_add (sg_stepTo hz hg k) (byF_set (ofG_set hg) (hz _ (List.getElem_mem q))), ofG_stepTo hz hg k]
    · have e1 : stepFTo zs (ofG gs) (k + 1) = stepFTo zs (ofG gs) k := by
        unfold stepFTo
        rw [List.take_of_length_le (by omega), List.take_of_length_le (by omega)]
      have e2 : stepTo zs gs (k + 1) = stepTo zs gs k := by
        unfold stepTo
        rw [List.take_of_length_le (by omega), List.take_of_length_le (by omega)]
      rw [e1, e2]
      exact ofG_stepTo hz hg k

def stepF (zs : List RuleI) (f : RoI → Int) : RoI → Int := stepFTo zs f zs.length

theorem ofG_step {zs : List RuleI} {gs : List GrI} (hz : ∀ z ∈ zs, okR z) (hg : SG gs) : ofG (stepG zs gs) = stepF zs (ofG gs) := ofG_stepTo hz hg _

/-- The grants of a function: its roles, rising. -/
theorem sg_keys {f : RoI → Int} (hf : FN f) {rs : List RoI} (hs : SS rs) (hm : ∀ r, r ∈ rs ↔ f r ≠ 0) : SG (rs.map (fun r => (r, f r))) ∧ ofG (rs.map (fun r => (r, f r))) = f := by
  have h1 : SG (rs.map (fun r => (r, f r))) := by
    refine ⟨List.pairwise_map.2 hs, fun x hx => ?_, fun x hx => ?_⟩
    · obtain ⟨r, hr, rfl⟩ := List.mem_map.1 hx
      exact hf.ro r ((hm r).1 hr)
    · obtain ⟨r, hr, rfl⟩ := List.mem_map.1 hx
      have := (hm r).1 hr
      have := hf.st r
      unfold setB at this
      show 1 ≤ f r ∧ f r ≤ 255
      omega
  refine ⟨h1, funext fun r => ?_⟩
  by_cases q : f r = 0
  · rw [q]
    refine ofG_none (fun x hx e => ?_)
    obtain ⟨r', hr, rfl⟩ := List.mem_map.1 hx
    exact (hm r').1 hr (by rw [show r' = r from e]; exact q)
  · exact ofG_mem h1 (x := (r, f r)) (List.mem_map.2 ⟨r, (hm r).2 q, rfl⟩)

/-! the sum over all roles -/

def sumF (f : RoI → Int) : Int := (allRo.map f).sum

theorem sumF_bd {f : RoI → Int} (h : FN f) : 0 ≤ sumF f ∧ sumF f ≤ 10200 := by
  have e1 : ∀ (l : List RoI), 0 ≤ (l.map f).sum ∧ (l.map f).sum ≤ 255 * l.length := by
    intro l
    induction l with
    | nil => simp
    | cons x xs ih =>
      have := h.st x
      unfold setB at this
      simp only [List.map_cons, List.sum_cons, List.length_cons]
      omega
  have := e1 allRo
  rw [allRo_len] at this
  unfold sumF
  omega

theorem sumF_give {f : RoI → Int} (h : FN f) {r : RoI} (hr : roleB r.1 r.2 = true) {s : Int} (hs : setB s) (hn : orI (f r) s ≠ f r) : sumF f < sumF (giveF f r s) := by
  refine sum_strict f _ r allRo (fun x _ => ?_) (mem_allRo hr) ?_
  · unfold giveF
    split
    · rename_i e; subst e; exact or_le (h.st _) hs
    · exact Int.le_refl _
  · have := or_le (h.st r) hs
    unfold giveF
    rw [if_pos rfl]
    omega

/-! the worklist -/

/-- What a rule gives may turn with who has the role h. -/
def leansB (z : RuleI) (h : RoI) : Bool := decide (z.k = 3 ∧ z.tn = h.2) || decide (h ∈ bodyR z)

theorem linkTo_congr {f g : RoI → Int} {n : Int} (h : ∀ y, f (y, n) = g (y, n)) (ys : List Int) (k : Nat) : linkTo f n ys k = linkTo g n ys k := by
  have : (fun (o : Int) (y : Int) => orI o (f (y, n))) = fun o y => orI o (g (y, n)) := by
    funext o y
    rw [h y]
  unfold linkTo
  rw [this]

theorem by_still {f : RoI → Int} {z : RuleI} {h : RoI} {s : Int} (hk : 1 ≤ z.k ∧ z.k ≤ 4) (hl : leansB z h = false) : byF (giveF f h s) z = byF f z := by
  unfold leansB at hl
  rw [Bool.or_eq_false_iff] at hl
  obtain ⟨h1, h2⟩ := hl
  have h1 := of_decide_eq_false h1
  have h2 := of_decide_eq_false h2
  unfold bodyR at h2
  have off : ∀ r, r ≠ h → giveF f h s r = f r := fun r e => if_neg e
  unfold byF
  by_cases e1 : z.k = 1
  · simp only [if_pos e1]
  · simp only [if_neg e1] at h2 ⊢
    by_cases e2 : z.k = 2
    · simp only [if_pos e2]
      rw [if_neg (by omega)] at h2
      exact off _ (fun e => h2 (by rw [e]; simp))
    · simp only [if_neg e2]
      by_cases e4 : z.k = 4
      · simp only [if_pos e4] at h2 ⊢
        rw [off _ (fun e => h2 (by rw [e]; simp)), off _ (fun e => h2 (by rw [e]; simp))]
      · simp only [if_neg e4] at h2 ⊢
        have e3 : z.k = 3 := by omega
        rw [off (z.oo, z.on) (fun e => h2 (by rw [e]; simp))]
        exact linkTo_congr (fun y => off _ (fun e => h1 ⟨e3, by rw [← e]⟩)) _ _

/-- The worklist behind the first k rules are asked. -/
def wakeTo (zs : List RuleI) (h : RoI) (ws : List RuleI) (k : Nat) : List RuleI := (zs.take k).foldl (fun o z => if leansB z h = true ∧ z ∉ o then o ++ [z] else o) ws

theorem wakeTo_succ {zs : List RuleI} {k : Nat} {z : RuleI} (e : zs[k]? = some z) (h : RoI) (ws : List RuleI) : wakeTo zs h ws (k + 1) = if leansB z h = true ∧ z ∉ wakeTo zs h ws k then wakeTo zs h ws k ++ [z] else wakeTo zs h ws k := by
  have hk : k < zs.length := by
    by_cases q : k < zs.length
    · exact q
    · rw [List.getElem?_eq_none (by omega)] at e; cases e
  have e : zs[k] = z := by rw [List.getElem?_eq_getElem hk] at e; exact Option.some.inj e
  rw [wakeTo, List.take_succ_eq_append_getElem hk, List.foldl_append, e]
  rfl

theorem wake_fold (h : RoI) (all : List RuleI) : ∀ (zs ws : List RuleI), (∀ z ∈ zs, z ∈ all) → (∀ z ∈ ws, z ∈ all) → ws.Nodup →
    let o := zs.foldl (fun o z => if leansB z h = true ∧ z ∉ o then o ++ [z] else o) ws
    o.Nodup ∧ (∀ z ∈ o, z ∈ all) ∧ (∀ z ∈ ws, z ∈ o) ∧ (∀ z ∈ zs, leansB z h = true → z ∈ o)
  | [], ws, _, hs, hn => ⟨hn, hs, fun _ q => q, fun _ q => by cases q⟩
  | x :: xs, ws, hz, hs, hn => by
    have hx : x ∈ all := hz x (by simp)
    by_cases q : leansB x h = true ∧ x ∉ ws
    · have hn' : (ws ++ [x]).Nodup := List.nodup_append.2 ⟨hn, by simp, fun a ha b hb e => q.2 (by simp at hb; rw [← hb, ← e]; exact ha)⟩
      have hs' : ∀ z ∈ ws ++ [x], z ∈ all := fun z hzz => by
        rcases List.mem_append.1 hzz with q | q
        · exact hs z q
        · simp at q; rw [q]; exact hx
      obtain ⟨i1, i2, i3, i4⟩ := wake_fold h all xs (ws ++ [x]) (fun z hzz => hz z (by simp [hzz])) hs' hn'
      rw [List.foldl_cons, if_pos q]
      refine ⟨i1, i2, fun z hzz => i3 z (by simp [hzz]), fun z hzz hl => ?_⟩
      rcases List.mem_cons.1 hzz with rfl | hzz'
      · exact i3 z (by simp)
      · exact i4 z hzz' hl
    · obtain ⟨i1, i2, i3, i4⟩ := wake_fold h all xs ws (fun z hzz => hz z (by simp [hzz])) hs hn
      rw [List.foldl_cons, if_neg q]
      refine ⟨i1, i2, i3, fun z hzz hl => ?_⟩
      rcases List.mem_cons.1 hzz with rfl | hzz'
      · exact i3 z (Classical.byContradiction fun e => q ⟨hl, e⟩)
      · exact i4 z hzz' hl

structure Work (zs : List RuleI) (f : RoI → Int) (ws : List RuleI) : Prop where
  fn : FN f
  has : ∀ r p, 1 ≤ p → hasI (f r) p = true → Has zs r p
  sub : ∀ z ∈ ws, z ∈ zs
  nd : ws.Nodup
  done : ∀ z ∈ zs, z ∉ ws → ∀ p, 1 ≤ p → hasI (byF f z) p = true → hasI (f (z.ho, z.hn)) p = true

theorem Work.len {zs : List RuleI} {f : RoI → Int} {ws : List RuleI} (h : Work zs f ws) : ws.length ≤ zs.length := nodup_len _ _ h.nd h.sub

theorem work_start {zs : List RuleI} (hn : zs.Nodup) : Work zs zeroF zs :=
  ⟨fn_zero, fun r p _ q => by simp [zeroF, hasI_zero] at q, fun _ q => q, hn, fun z h1 h2 => absurd h1 h2⟩

theorem work_stay {zs : List RuleI} {f : RoI → Int} {z : RuleI} {ws : List RuleI} (h : Work zs f (z :: ws)) (hok : okR z) (e : orI (f (z.ho, z.hn)) (byF f z) = f (z.ho, z.hn)) : Work zs f ws := by
  refine ⟨h.fn, h.has, fun x hx => h.sub x (by simp [hx]), (List.nodup_cons.1 h.nd).2, fun x h1 h2 p hp q => ?_⟩
  by_cases ex : x = z
  · subst ex
    exact (or_same (h.fn.st _) (byF_set h.fn.st hok)).1 e p hp q
  · exact h.done x h1 (fun m => by rcases List.mem_cons.1 m with m | m; exact ex m; exact h2 m) p hp q

theorem work_grow {zs : List RuleI} (hz : ∀ z ∈ zs, okR z ∧ 1 ≤ z.k ∧ z.k ≤ 4) {f : RoI → Int} {z : RuleI} {ws : List RuleI} (h : Work zs f (z :: ws)) :
    Work zs (giveF f (z.ho, z.hn) (byF f z)) (wakeTo zs (z.ho, z.hn) ws zs.length) := by
  have hok : ∀ z ∈ zs, okR z := fun z q => (hz z q).1
  have hzz : z ∈ zs := h.sub z (by simp)
  have hs := byF_set h.fn.st (hok z hzz)
  have hf := fn_give h.fn (r := (z.ho, z.hn)) (hok z hzz).1 hs
  have hnd := List.nodup_cons.1 h.nd
  have w := wake_fold (z.ho, z.hn) zs zs ws (fun _ q => q) (fun x hx => h.sub x (by simp [hx])) hnd.2
  have ew : wakeTo zs (z.ho, z.hn) ws zs.length = zs.foldl (fun o x => if leansB x (z.ho, z.hn) = true ∧ x ∉ o then o ++ [x] else o) ws := by
    unfold wakeTo
    rw [List.take_length]
  rw [ew]
  obtain ⟨w1, w2, w3, w4⟩ := w
  refine ⟨hf, fun r p hp q => ?_, w2, w1, fun x hx hx2 p hp q => ?_⟩
  · rcases (hasI_give h.fn _ hs r p).1 q with q | ⟨e, q⟩
    · exact h.has r p hp q
    · rw [e]
      exact gives_has hok hzz hp (gives_mono (fun r p hp q => h.has r p hp q) hp ((byF_has h.fn.st (hok z hzz) hp).1 q))
  · have hl : leansB x (z.ho, z.hn) = false := by
      cases e : leansB x (z.ho, z.hn)
      · rfl
      · exact absurd (w4 x hx e) hx2
    rw [by_still (hz x hx).2 hl] at q
    by_cases ex : x = z
    · subst ex
      exact (hasI_give h.fn _ hs _ p).2 (.inr ⟨rfl, q⟩)
    · refine (hasI_give h.fn _ hs _ p).2 (.inl (h.done x hx (fun m => ?_) p hp q))
      rcases List.mem_cons.1 m with m | m
      · exact ex m
      · exact hx2 (w3 x m)

theorem work_end {zs : List RuleI} (hz : ∀ z ∈ zs, okR z) {f : RoI → Int} (h : Work zs f []) {gs : List GrI} (hg : SG gs) (e : ofG gs = f) : AllG zs gs := by
  subst e
  exact allG_of hz hg h.has (fun z hzz p hp q => h.done z hzz (by simp) p hp q)

/-! the first step at which a rule gives -/

/-- A rule of head r that gives it to p. -/
def hitB (f : RoI → Int) (r : RoI) (p : Int) (z : RuleI) : Bool := decide ((z.ho, z.hn) = r) && hasI (byF f z) p

def noneHit (zs : List RuleI) (f : RoI → Int) (r : RoI) (p : Int) : Prop := ∀ z ∈ zs, hitB f r p z = false

theorem inN_hit {zs : List RuleI} (hz : ∀ z ∈ zs, okR z) (n : Nat) (r : RoI) (p : Int) : InN zs (n + 1) r p ↔ InN zs n r p ∨ ¬ noneHit zs (ofG (itG zs n)) r p := by
  unfold InN
  rw [itG, has_step hz (sg_it hz n)]
  refine or_congr_right ?_
  constructor
  · rintro ⟨z, h1, h2, h3⟩ q
    have := q z h1
    simp [hitB, h2, h3] at this
  · intro q
    refine Classical.byContradiction fun hno => q (fun z h1 => ?_)
    cases e : hitB (ofG (itG zs n)) r p z
    · rfl
    · unfold hitB at e
      rw [Bool.and_eq_true] at e
      exact absurd ⟨z, h1, of_decide_eq_true e.1, e.2⟩ hno

theorem inN_none {zs : List RuleI} (hz : ∀ z ∈ zs, okR z) (r : RoI) (p : Int) : ∀ n, (∀ k, k < n → noneHit zs (ofG (itG zs k)) r p) → ¬ InN zs n r p
  | 0, _ => by simp [InN, itG, ofG, hasI_zero]
  | n + 1, h => by
    rw [inN_hit hz]
    rintro (q | q)
    · exact inN_none hz r p n (fun k hk => h k (by omega)) q
    · exact q (h n (by omega))

/-- Who has the role not: no rule ever gives it. -/
theorem none_of_not {zs : List RuleI} (hz : ∀ z ∈ zs, okR z) {r : RoI} {p : Int} (h : ¬ Has zs r p) (n : Nat) : noneHit zs (ofG (itG zs n)) r p :=
  Classical.byContradiction fun q => h ⟨n + 1, (inN_hit hz n r p).2 (.inr q)⟩

/-- Who has the role: some step gives it, and the first does. -/
theorem first_of {zs : List RuleI} (hz : ∀ z ∈ zs, okR z) {r : RoI} {p : Int} (h : Has zs r p) : ∃ n, ¬ noneHit zs (ofG (itG zs n)) r p ∧ ∀ k, k < n → noneHit zs (ofG (itG zs k)) r p := by
  have ex : ∃ n, ¬ noneHit zs (ofG (itG zs n)) r p := by
    refine Classical.byContradiction fun hno => ?_
    obtain ⟨n, g⟩ := h
    exact inN_none hz r p n (fun k _ => Classical.byContradiction fun q => hno ⟨k, q⟩) g
  obtain ⟨n, g⟩ := ex
  induction n using Nat.strongRecOn with
  | _ n ih =>
    by_cases q : ∃ k, k < n ∧ ¬ noneHit zs (ofG (itG zs k)) r p
    · obtain ⟨k, hk, hq⟩ := q
      exact ih k hk hq
    · exact ⟨n, g, fun k hk => Classical.byContradiction fun q' => q ⟨k, hk, q'⟩⟩

/-- Steps that no longer turn anything, and no rule has given it: it is not there. -/
theorem not_of_still {zs : List RuleI} (hz : ∀ z ∈ zs, okR z) {r : RoI} {p : Int} (h0 : 1 ≤ p) (h1 : p ≤ 8) {n : Nat} (hn : ∀ k, k ≤ n → noneHit zs (ofG (itG zs k)) r p) (hs : stepG zs (itG zs n) = itG zs n) : ¬ Has zs r p := by
  intro g
  have := ((allG_it hz hs).al r p h0 h1).2 g
  exact inN_none hz r p n (fun k hk => hn k (by omega)) this

end Go.Proofs.Ytdooocjjohdpjaa

namespace Go.Proofs.Ytdooocjjohdpjaa
open Go.RowKit Go.Maps
open Go.ChangeMaps (setBlock heap_setBlock_same heap_setBlock_other)
set_option linter.unusedSimpArgs false
set_option maxRecDepth 4000

theorem mp_map : Try.prog.underlying 87 = some (.map 35 97) := by kernel_rfl
theorem mp_set : Try.prog.underlying 97 = some (.int .u8) := by kernel_rfl
theorem mp_laid : laidOutB Try.prog = true := by kernel_rfl
theorem mp_row : (35 : TypeId) < Try.prog.types.size := of_decide_eq_true (by kernel_rfl)
theorem mp_kt : Try.prog.keyTypeAt 2 35 = true := by kernel_rfl
theorem mp_lim : 2 + 1 ≤ 10000 := by omega
theorem mp_law : WideMaps.KeyLaw Try.prog 35 := by
  refine deep_law_laid (m := 2) mp_laid mp_lim mp_row mp_kt ?_
  rw [Try.underlying35]
theorem mp_keyed : Keyed Try.prog 35 := Keyed.of_law mp_law
theorem mp_zero (w : World) : (zeroValue 97).run Try.prog w = .ok (.int .u8 0) w := by kernel_rfl
theorem mp_cells : Try.prog.cellsOf 35 = 2 := by kernel_rfl
theorem mp_cell1 : Try.prog.cellsOf 2 = 1 := by kernel_rfl
theorem mp_keyT : Try.prog.keyType 35 = true := by kernel_rfl
theorem mp_types : ∃ d, Try.prog.types.size + 1 = d + 2 := by
  have h : 35 < Try.prog.types.size := mp_row
  generalize Try.prog.types.size = n at h ⊢
  exact ⟨n - 1, by omega⟩

abbrev roV (r : RoI) : Value := .agg #[.int .i64 r.1, .int .i64 r.2]
def roW (r : RoI) : Prop := (Lit.int .i64 r.1).wf = true ∧ (Lit.int .i64 r.2).wf = true
def keyL (r : RoI) : Lit := .string (keyBytes [.int .i64 r.1, .int .i64 r.2])

theorem roW_of {r : RoI} (h : roleB r.1 r.2 = true) : roW r := by
  simp [roleB, prinB, nameB] at h
  constructor
  · simp [Lit.wf, IntKind.min, IntKind.max, IntKind.signed, IntKind.bits]; omega
  · simp [Lit.wf, IntKind.min, IntKind.max, IntKind.signed, IntKind.bits]; omega

theorem key_lit1 (d : Nat) (v : Value) : Try.prog.keyLits (d + 1) 2 [v] = match v with | .int q n => if q = .i64 ∧ (Lit.int .i64 n).wf = true then some [.int .i64 n] else none | _ => none := by
  cases v <;> simp [Program.keyLits, Try.underlying2]

theorem key_lits (d : Nat) (a b : Value) : Try.prog.keyLits (d + 2) 35 [a, b] = (Try.prog.keyLits (d + 1) 2 [a]).bind fun x => (Try.prog.keyLits (d + 1) 2 [b]).map fun y => x ++ y := by
  generalize hx : Try.prog.keyLits (d + 1) 2 [a] = x
  generalize hy : Try.prog.keyLits (d + 1) 2 [b] = y
  conv => lhs; unfold Program.keyLits
  simp only [Try.underlying35]
  simp [mp_cells, mp_cell1, List.mapM_cons, hx, hy]
  cases x <;> simp
  cases y <;> simp

theorem key_of {r : RoI} (h : roW r) : keyOf Try.prog 35 (roV r) = some (keyL r) := by
  obtain ⟨d, hd⟩ := mp_types
  unfold keyOf
  simp only [Try.underlying35]
  simp [mp_keyT, Value.formed, Try.underlying35, mp_cells, Value.cells, hd, key_lits, key_lit1, h.1, h.2, keyL]

theorem key_inv {v : Value} {kl : Lit} (h : keyOf Try.prog 35 v = some kl) : ∃ r, roW r ∧ v = roV r ∧ kl = keyL r := by
  obtain ⟨d, hd⟩ := mp_types
  unfold keyOf at h
  simp only [Try.underlying35] at h
  split at h
  · rename_i hc
    rw [Bool.and_eq_true] at hc
    have hf := hc.2
    cases v <;> simp [Value.formed, Try.underlying35, mp_cells] at hf
    rename_i xs
    obtain ⟨a, b, rfl⟩ : ∃ a b, xs = #[a, b] := by
      rcases xs with ⟨l⟩
      match l, hf with
      | [a, b], _ => exact ⟨a, b, rfl⟩
    rw [hd, show (Value.cells (.agg #[a, b])).toList = [a, b] from rfl, key_lits, key_lit1, key_lit1] at h
    obtain ⟨ls, h1, rfl⟩ := Option.map_eq_some_iff.1 h
    obtain ⟨l1, hx, h2⟩ := Option.bind_eq_some_iff.1 h1
    obtain ⟨l2, hy, rfl⟩ := Option.map_eq_some_iff.1 h2
    cases a <;> simp at hx
    cases b <;> simp at hy
    obtain ⟨⟨rfl, wx⟩, rfl⟩ := hx
    obtain ⟨⟨rfl, wy⟩, rfl⟩ := hy
    exact ⟨(_, _), ⟨wx, wy⟩, rfl, rfl⟩
  · cases h

theorem keyL_inj {a b : RoI} (ha : roW a) (hb : roW b) (h : keyL a = keyL b) : a = b := by
  have := mp_keyed.inj (key_of ha) (h ▸ key_of hb)
  simp at this
  exact Prod.ext this.1 this.2

theorem keyL_key (r : RoI) : WideAt.IsKeyLit (keyL r) := trivial

/-- What a map reads as tells who has which role. -/
structure View (D : DataW Unit) (f : RoI → Int) : Prop where
  at' : ∀ r, roW r → D.atKey (keyL r) (.lit (.int .u8 0)) = .lit (.int .u8 (f r))
  has : ∀ r, roW r → Maps.has D (keyL r) = decide (f r ≠ 0)

noncomputable abbrev elU : Value → Option (DataW Unit × List MemPlace) := plainElem Try.prog 97

theorem elU_int {s : Int} (h : setB s) : elU (.int .u8 s) = some (.lit (.int .u8 s), []) := by
  refine plainElem_int mp_set ?_
  have := h.1
  have := h.2
  simp [Lit.wf, IntKind.min, IntKind.max, IntKind.signed, IntKind.bits]
  omega

/-- Block b holds who has which role. -/
def GM (w : World) (b : Nat) (f : RoI → Int) : Prop := FN f ∧ ∃ D n, w.ownsMap Try.prog 35 elU b n D ∧ View D f

theorem GM.fn {w : World} {b : Nat} {f : RoI → Int} (h : GM w b f) : FN f := h.1

theorem GM.lt {w : World} {b : Nat} {f : RoI → Int} (h : GM w b f) : b < w.heap.size := by
  obtain ⟨_, D, n, ho, _⟩ := h
  exact ho.lt

theorem gm_heap {w w' : World} {b b' : Nat} {f : RoI → Int} (h : GM w b f) (e : w'.heap[b']? = w.heap[b]?) : GM w' b' f := by
  obtain ⟨h1, D, n, ⟨es, clock, hb, F, hs, hD⟩, hv⟩ := h
  exact ⟨h1, D, n, ⟨es, clock, e.trans hb, F, hs, hD⟩, hv⟩

theorem GM.below {w w' : World} {b k : Nat} {f : RoI → Int} (h : GM w b f) (hk : b < k) (hb : Below k w w') : GM w' b f := gm_heap h (hb.block b hk)

/-- How many entries there may be. -/
theorem own_size {w : World} {b n : Nat} {D : DataW Unit} {f : RoI → Int} (hf : FN f) (ho : w.ownsMap Try.prog 35 elU b n D) (hv : View D f) : w.ownsMap Try.prog 35 elU b 40 D ∧ Maps.size D ≤ 40 := by
  obtain ⟨es', hD', hne, _⟩ := ho.entries mp_keyed
  obtain ⟨es, clock, hb, F, hs, hD⟩ := ho
  have hlen : Maps.size D = es.size := by
    rw [hD]
    show ((es.toList.map _).foldr DataW.insert []).length = _
    rw [length_sorted]
    simp
  have hkeys : ∀ p ∈ es', ∃ r, roleB r.1 r.2 = true ∧ p.1 = keyL r := by
    intro p hp
    have hp' : p ∈ es.toList.map (WideElems.rg Try.prog 35 elU) := by
      rw [hD] at hD'
      have := (DataW.map.inj hD').symm
      rw [this] at hp
      exact mem_sorted.1 hp
    obtain ⟨v, hvv⟩ := fit_keys F p hp'
    obtain ⟨r, hr, _, e⟩ := key_inv hvv
    refine ⟨r, ?_, e⟩
    refine hf.ro r ?_
    have h1 := hv.has r hr
    rw [hD', has_eq] at h1
    have : (es'.any fun p => p.1.sameKey (keyL r)) = true := List.any_eq_true.2 ⟨p, hp, by rw [e]; exact WideAt.sameKey_self (keyL_key r)⟩
    rw [this] at h1
    exact of_decide_eq_true h1.symm
  have h40 : es'.length ≤ 40 := by
    have hnd : (es'.map Prod.fst).Nodup := List.pairwise_map.2 hne
    have := @nodup_len Lit (fun _ _ => Classical.propDecidable _) (es'.map Prod.fst) (allRo.map keyL) hnd (fun x hx => by
      obtain ⟨p, hp, rfl⟩ := List.mem_map.1 hx
      obtain ⟨r, hr, e⟩ := hkeys p hp
      rw [e]
      exact List.mem_map.2 ⟨r, mem_allRo hr, rfl⟩)
    simpa [allRo_len] using this
  have hsz : Maps.size D ≤ 40 := by rw [hD', size_eq]; exact h40
  exact ⟨⟨es, clock, hb, F, by omega, hD⟩, hsz⟩

theorem gm_made (w : World) : GM (w.alloc (.map #[] 0)) w.heap.size zeroF := by
  refine ⟨fn_zero, .map [], 0, World.ownsMap_made w _ _ _, ⟨fun r _ => ?_, fun r _ => ?_⟩⟩
  · rfl
  · rfl

theorem gm_look {w : World} {b : Nat} {f : RoI → Int} (h : GM w b f) {r : RoI} (hr : roW r) : (Instr.lookup 87 (.map (some b)) (roV r) false).run Try.prog w = .ok (.int .u8 (f r)) w := by
  obtain ⟨_, D, n, ho, hv⟩ := h
  obtain ⟨c, h1, h2, _⟩ := ho.lookup_int mp_keyed mp_map mp_set (mp_zero w) (key_of hr)
  rw [hv.at' r hr] at h2
  cases h2
  exact h1

/-- The set at a role is turned. -/
def setF (f : RoI → Int) (r : RoI) (s : Int) : RoI → Int := fun r' => if r' = r then s else f r'

theorem view_put {D : DataW Unit} {f : RoI → Int} (hm : IsMap D) (h : View D f) {r : RoI} (hr : roW r) {s : Int} (hs : s ≠ 0) : View (D.put (keyL r) (.lit (.int .u8 s))) (setF f r s) := by
  refine ⟨fun r' hr' => ?_, fun r' hr' => ?_⟩
  · by_cases e : r' = r
    · subst e
      rw [atKey_put_same hm (keyL_key _), setF, if_pos rfl]
    · rw [atKey_put_other (fun q => e (keyL_inj hr' hr q)), h.at' r' hr', setF, if_neg e]
  · by_cases e : r' = r
    · subst e
      rw [has_put_same hm (keyL_key _), setF, if_pos rfl]
      simp [hs]
    · rw [has_put_other (fun q => e (keyL_inj hr' hr q)), h.has r' hr', setF, if_neg e]

/-- 'm[r] = ..' of the value that was there: what is asked, then what is written. -/
theorem gm_entry {w : World} {b : Nat} {f : RoI → Int} (h : GM w b f) {r : RoI} (hr : roleB r.1 r.2 = true) :
    ∃ (st : Nat) (w1 : World), (Instr.mapEntry 87 (.map (some b)) (roV r)).run Try.prog w = .ok (.tuple #[.int .u8 (f r), goInt st]) w1 ∧ w.grownBy w1 (some b) ∧ w1.heap.size = w.heap.size ∧
      ∀ (w2 : World) (s : Int), w2.heap[b]? = w1.heap[b]? → setB s → s ≠ 0 → ∃ w3, (Instr.entryStore 87 (.map (some b)) (goInt st) (.int .u8 s)).run Try.prog w2 = .ok () w3 ∧ w2.grownBy w3 (some b) ∧ w3.heap.size = w2.heap.size ∧ GM w3 b (setF f r s) := by
  have hrw := roW_of hr
  have hlook := gm_look h hrw
  obtain ⟨hfn, D, n, ho, hv⟩ := h
  have ho40 := (own_size hfn ho hv).1
  have hm := (ho40.entries mp_keyed)
  have hup := fun (s : Int) (hs : setB s) => ho40.update mp_keyed mp_map (by unfold maxLen; omega) (key_of hrw) (elU_int hs)
  obtain ⟨es, clock, hb, F, hsz, hD⟩ := ho40
  obtain ⟨v0, st, es1, clock1, h1, h2, h3⟩ := WideElems.entry_then_store mp_law mp_map mp_zero hb F (key_of hrw)
  have ev : v0 = .int .u8 (f r) := by
    rcases Maps.fit_look false mp_keyed mp_map (mp_zero w) hb F (key_of hrw) with ⟨hrun, hno, _⟩ | ⟨e0, y, he0, hk0, hrun, _⟩
    · rw [hlook] at hrun
      have hrun := (Result.ok.inj hrun).1
      rcases h2 with ⟨e0, hm0, hk0, _⟩ | ⟨_, e⟩
      · exact absurd hk0 (hno e0 hm0)
      · rw [e]; exact hrun.symm
    · rw [hlook] at hrun
      have hrun := (Result.ok.inj hrun).1
      rcases h2 with ⟨e1, hm1, hk1, e⟩ | ⟨hno, _⟩
      · rw [e]
        have hn : es.toList.Pairwise (fun x y => x.key ≠ y.key) := ((MapKept.stamped_iff es clock).1 F.stamped).2.2
        rw [entry_eq_of_key hn hm1 he0 (hk1.trans hk0.symm)]; exact hrun.symm
      · exact absurd hk0 (hno e0 he0)
  subst ev
  refine ⟨st, _, h1, ⟨rfl, rfl, rfl, by simp [setBlock], fun i _ hi => heap_setBlock_other hb _ (fun e => hi (by rw [e]))⟩, by simp [setBlock], fun w2 s hw2 hs hs0 => ?_⟩
  rw [heap_setBlock_same hb] at hw2
  obtain ⟨es', clock', h4, h5⟩ := h3 w2 (.int .u8 s) hw2
  obtain ⟨w', h6, h7, _⟩ := hup s hs
  rw [h5] at h6
  cases h6
  refine ⟨_, h4, ⟨rfl, rfl, rfl, by simp [setBlock], fun i _ hi => heap_setBlock_other hw2 _ (fun e => hi (by rw [e]))⟩, by simp [setBlock], ?_⟩
  refine gm_heap (w := setBlock w b (.map es' clock')) (b := b) ?_ (by rw [heap_setBlock_same hw2, heap_setBlock_same hb])
  refine ⟨⟨fun r' => ?_, fun r' hn => ?_⟩, _, _, h7, view_put ?_ hv hrw hs0⟩
  · unfold setF
    split
    · exact hs
    · exact hfn.st _
  · unfold setF at hn
    split at hn
    · rename_i e; rw [e]; exact hr
    · exact hfn.ro _ hn
  · obtain ⟨es0, e, _⟩ := hm
    exact ⟨es0, e⟩

end Go.Proofs.Ytdooocjjohdpjaa

namespace Go.Proofs.Ytdooocjjohdpjaa
open Go.RowKit Go.Maps
open Go.ChangeMaps (setBlock heap_setBlock_same heap_setBlock_other)
set_option linter.unusedSimpArgs false
set_option maxRecDepth 4000

theorem look_at {w : World} {b : Nat} {es : Array MapEntry} {clock : Nat} (hb : w.heap[b]? = some (.map es clock)) (hk : ∀ e ∈ es.toList, ∃ l, keyOf Try.prog 35 e.key = some l) {r : RoI} (hr : roW r) {v : Value}
    (hv : ∀ e ∈ es.toList, e.key = roV r → e.val = v) (hex : ∃ e ∈ es.toList, e.key = roV r) : (Instr.lookup 87 (.map (some b)) (roV r) false).run Try.prog w = .ok v w := by
  rcases mp_law.find w (key_of hr) es.toList hk with ⟨_, h2⟩ | ⟨j, e0, h1, h2, h3⟩
  · obtain ⟨e, he, hke⟩ := hex
    exact absurd hke (h2 e he)
  · have := hv e0 (List.mem_of_getElem? h2) h3
    simp [Instr.lookup, run_underlying mp_map, MapKept.run_getObj_map hb, mp_law.check w _ (key_of hr), h1, Result.andThen, this]

/-- What 'm[r] |= ..' does, block by block. -/
structure EntryIs (b : Nat) (f : RoI → Int) (r : RoI) (es es1 : Array MapEntry) (clock clock1 st : Nat) : Prop where
  look0 : ∀ W : World, W.heap[b]? = some (.map es clock) → (Instr.lookup 87 (.map (some b)) (roV r) false).run Try.prog W = .ok (.int .u8 (f r)) W
  ask : ∀ W : World, W.heap[b]? = some (.map es clock) → (Instr.mapEntry 87 (.map (some b)) (roV r)).run Try.prog W = .ok (.tuple #[.int .u8 (f r), goInt st]) (setBlock W b (.map es1 clock1))
  look1 : ∀ W : World, W.heap[b]? = some (.map es1 clock1) → (Instr.lookup 87 (.map (some b)) (roV r) false).run Try.prog W = .ok (.int .u8 (f r)) W
  write : ∀ (W : World) (s : Int), W.heap[b]? = some (.map es1 clock1) → setB s → s ≠ 0 → ∃ es2 clock2, (Instr.entryStore 87 (.map (some b)) (goInt st) (.int .u8 s)).run Try.prog W = .ok () (setBlock W b (.map es2 clock2)) ∧ GM (setBlock W b (.map es2 clock2)) b (setF f r s)

theorem fit_of {w : World} {b : Nat} {f : RoI → Int} (h : GM w b f) : ∃ es clock, w.heap[b]? = some (.map es clock) ∧ ∀ W : World, W.heap[b]? = some (.map es clock) → GM W b f := by
  obtain ⟨h1, D, n, ⟨es, clock, hb, F, hs, hD⟩, hv⟩ := h
  exact ⟨es, clock, hb, fun W hW => ⟨h1, D, n, ⟨es, clock, hW, F, hs, hD⟩, hv⟩⟩

theorem entry_is {w : World} {b : Nat} {f : RoI → Int} (h : GM w b f) {r : RoI} (hr : roleB r.1 r.2 = true) : ∃ es es1 clock clock1 st, w.heap[b]? = some (.map es clock) ∧ EntryIs b f r es es1 clock clock1 st := by
  have hrw := roW_of hr
  obtain ⟨es, clock, hb, hGM⟩ := fit_of h
  obtain ⟨hfn, D, n, ho, hv⟩ := h
  have ho40 := (own_size hfn ho hv).1
  obtain ⟨es', clock', hb', F, hsz, hD⟩ := ho40
  rw [hb] at hb'
  cases hb'
  have hl0 : ∀ W : World, W.heap[b]? = some (.map es clock) → (Instr.lookup 87 (.map (some b)) (roV r) false).run Try.prog W = .ok (.int .u8 (f r)) W := fun W hW => gm_look (hGM W hW) hrw
  have hkeys : ∀ e ∈ es.toList, ∃ l, keyOf Try.prog 35 e.key = some l := F.keys
  obtain ⟨s1, s2, s3⟩ := (MapKept.stamped_iff es clock).1 F.stamped
  -- what is written, out of the law of the two steps
  have wr : ∀ (es1 : Array MapEntry) (clock1 st : Nat), (∀ (w2 : World) (val : Value), w2.heap[b]? = some (.map es1 clock1) → ∃ es' clock', (Instr.entryStore 87 (.map (some b)) (goInt st) val).run Try.prog w2 = .ok () (setBlock w2 b (.map es' clock')) ∧
        (Instr.mapUpdate 87 (.map (some b)) (roV r) val).run Try.prog w = .ok () (setBlock w b (.map es' clock'))) →
      ∀ (W : World) (s : Int), W.heap[b]? = some (.map es1 clock1) → setB s → s ≠ 0 → ∃ es2 clock2, (Instr.entryStore 87 (.map (some b)) (goInt st) (.int .u8 s)).run Try.prog W = .ok () (setBlock W b (.map es2 clock2)) ∧ GM (setBlock W b (.map es2 clock2)) b (setF f r s) := by
    intro es1 clock1 st h3 W s hW hs hs0
    obtain ⟨es2, clock2, h4, h5⟩ := h3 W (.int .u8 s) hW
    have ho40 : w.ownsMap Try.prog 35 elU b 40 D := ⟨es, clock, hb, F, hsz, hD⟩
    obtain ⟨w', h6, h7, _⟩ := ho40.update mp_keyed mp_map (by unfold maxLen; omega) (key_of hrw) (elU_int hs)
    rw [h5] at h6
    cases h6
    refine ⟨es2, clock2, h4, ?_⟩
    refine gm_heap (w := setBlock w b (.map es2 clock2)) (b := b) ?_ (by rw [heap_setBlock_same hW, heap_setBlock_same hb])
    refine ⟨⟨fun r' => ?_, fun r' hn => ?_⟩, _, _, h7, view_put ?_ hv hrw hs0⟩
    · unfold setF
      split
      · exact hs
      · exact hfn.st _
    · unfold setF at hn
      split at hn
      · rename_i e; rw [e]; exact hr
      · exact hfn.ro _ hn
    · exact ⟨_, hD⟩
  obtain ⟨v0, st, es1, clock1, h1, h2, h3⟩ := WideElems.entry_then_store mp_law mp_map mp_zero hb F (key_of hrw)
  have h3' := wr es1 clock1 st h3
  clear h3 wr
  rcases mp_law.find w (key_of hrw) es.toList hkeys with ⟨g1, g2⟩ | ⟨j, e0, g1, g2, g3⟩
  · -- the key is not there
    have ez : f r = 0 := by
      have := hl0 w hb
      simp [Instr.lookup, run_underlying mp_map, MapKept.run_getObj_map hb, mp_law.check w _ (key_of hrw), g1, mp_zero, Result.andThen] at this
      exact this.symm
    have run : ∀ W : World, W.heap[b]? = some (.map es clock) → (Instr.mapEntry 87 (.map (some b)) (roV r)).run Try.prog W = .ok (.tuple #[.int .u8 0, goInt clock]) (setBlock W b (.map (es.push ⟨roV r, .int .u8 0, clock⟩) (clock + 1))) := by
      intro W hW
      rcases mp_law.find W (key_of hrw) es.toList hkeys with ⟨q1, q2⟩ | ⟨j, e0, q1, q2, q3⟩
      · simp [Instr.mapEntry, run_underlying mp_map, MapKept.run_getObj_map hW, mp_law.check W false (key_of hrw), q1, mp_zero, MapKept.run_setObj_map _ hW, Result.andThen, setBlock]
      · exact absurd q3 (g2 e0 (List.mem_of_getElem? q2))
    have e1 := run w hb
    rw [h1] at e1
    have e2 := (Result.ok.inj e1).2
    have e3 := (Result.ok.inj e1).1
    have e4 : es1 = es.push ⟨roV r, .int .u8 0, clock⟩ ∧ clock1 = clock + 1 := by
      have : (setBlock w b (.map es1 clock1)).heap[b]? = (setBlock w b (.map (es.push ⟨roV r, .int .u8 0, clock⟩) (clock + 1))).heap[b]? := by rw [e2]
      rw [heap_setBlock_same hb, heap_setBlock_same hb] at this
      exact ⟨(Obj.map.inj (Option.some.inj this)).1, (Obj.map.inj (Option.some.inj this)).2⟩
    obtain ⟨rfl, rfl⟩ := e4
    have e5 : st = clock := by
      simp [goInt] at e3
      omega
    rw [e5] at h3'
    refine ⟨es, _, clock, _, _, hb, ⟨hl0, fun W hW => by rw [run W hW, ez], fun W hW => ?_, h3'⟩⟩
    refine look_at hW (fun e he => ?_) hrw (fun e he hke => ?_) ⟨⟨roV r, .int .u8 0, clock⟩, by simp, rfl⟩
    · simp at he
      rcases he with he | rfl
      · exact hkeys e (by simpa using he)
      · exact ⟨_, key_of hrw⟩
    · simp at he
      rcases he with he | rfl
      · exact absurd hke (g2 e (by simpa using he))
      · rw [ez]
  · -- the key is there
    have hj : es[j]? = some e0 := by simpa using g2
    have hm0 : e0 ∈ es.toList := List.mem_of_getElem? g2
    have hval : e0.val = .int .u8 (f r) := by
      have := hl0 w hb
      simp [Instr.lookup, run_underlying mp_map, MapKept.run_getObj_map hb, mp_law.check w _ (key_of hrw), g1, Result.andThen] at this
      exact this
    have hsame : es.modify j (fun e => { e with key := roV r }) = es := by
      apply Array.ext'
      rw [Array.toList_modify, ChangeMaps.modify_eq_set _ _ _ _ g2]
      have : ({ e0 with key := roV r } : MapEntry) = e0 := by rw [← g3]
      rw [this]
      exact WideElems.set_self _ _ _ g2
    have run : ∀ W : World, W.heap[b]? = some (.map es clock) → (Instr.mapEntry 87 (.map (some b)) (roV r)).run Try.prog W = .ok (.tuple #[.int .u8 (f r), goInt e0.born]) (setBlock W b (.map es clock)) := by
      intro W hW
      rcases mp_law.find W (key_of hrw) es.toList hkeys with ⟨q1, q2⟩ | ⟨j', e0', q1, q2, q3⟩
      · exact absurd g3 (q2 e0 hm0)
      · have hj' : es[j']? = some e0' := by simpa using q2
        have ee : e0' = e0 := entry_eq_of_key s3 (List.mem_of_getElem? q2) hm0 (q3.trans g3.symm)
        subst ee
        have hsame' : es.modify j' (fun e => { e with key := roV r }) = es := by
          apply Array.ext'
          rw [Array.toList_modify, ChangeMaps.modify_eq_set _ _ _ _ q2]
          have : ({ e0' with key := roV r } : MapEntry) = e0' := by rw [← g3]
          rw [this]
          exact WideElems.set_self _ _ _ q2
        simp [Instr.mapEntry, run_underlying mp_map, MapKept.run_getObj_map hW, mp_law.check W false (key_of hrw), q1, hj', q3, mp_law.stays W (key_of hrw), hsame', MapKept.run_setObj_map _ hW, Result.andThen, setBlock, hval]
    have e1 := run w hb
    rw [h1] at e1
    have e2 := (Result.ok.inj e1).2
    have e3 := (Result.ok.inj e1).1
    have e4 : es1 = es ∧ clock1 = clock := by
      have : (setBlock w b (.map es1 clock1)).heap[b]? = (setBlock w b (.map es clock)).heap[b]? := by rw [e2]
      rw [heap_setBlock_same hb, heap_setBlock_same hb] at this
      exact ⟨(Obj.map.inj (Option.some.inj this)).1, (Obj.map.inj (Option.some.inj this)).2⟩
    obtain ⟨rfl, rfl⟩ := e4
    have e5 : st = e0.born := by
      simp [goInt] at e3
      omega
    rw [e5] at h3'
    exact ⟨_, _, _, _, _, hb, ⟨hl0, run, hl0, h3'⟩⟩

/-! sets of eight bits -/

theorem u8_or (a b : Int) (ha : setB a) (hb : setB b) : bits .or .u8 a b = orI a b := by
  obtain ⟨A, rfl⟩ := Int.eq_ofNat_of_zero_le ha.1
  obtain ⟨B, rfl⟩ := Int.eq_ofNat_of_zero_le hb.1
  have h1 := ha.2
  have h2 := hb.2
  have hx : A ||| B < 2 ^ 8 := Nat.or_lt_two_pow (by omega) (by omega)
  rw [orI, or_nat A B (by omega) (by omega)]
  have ea : (BitVec.ofInt 8 (A : Int)).toNat = A := by rw [BitVec.ofInt_natCast, BitVec.toNat_ofNat]; exact Nat.mod_eq_of_lt (by omega)
  have eb : (BitVec.ofInt 8 (B : Int)).toNat = B := by rw [BitVec.ofInt_natCast, BitVec.toNat_ofNat]; exact Nat.mod_eq_of_lt (by omega)
  show IntKind.u8.wrap ((BitVec.ofInt 8 (A : Int) ||| BitVec.ofInt 8 (B : Int)).toNat : Int) = _
  rw [BitVec.toNat_or, ea, eb, IntKind.wrap_u8]
  omega

theorem u8_and (a b : Int) (ha : setB a) (hb : setB b) : bits .and .u8 a b = andI a b := by
  obtain ⟨A, rfl⟩ := Int.eq_ofNat_of_zero_le ha.1
  obtain ⟨B, rfl⟩ := Int.eq_ofNat_of_zero_le hb.1
  have h1 := ha.2
  have h2 := hb.2
  have hx : A &&& B < 2 ^ 8 := Nat.and_lt_two_pow _ (by omega)
  rw [andI, and_nat A B (by omega) (by omega)]
  have ea : (BitVec.ofInt 8 (A : Int)).toNat = A := by rw [BitVec.ofInt_natCast, BitVec.toNat_ofNat]; exact Nat.mod_eq_of_lt (by omega)
  have eb : (BitVec.ofInt 8 (B : Int)).toNat = B := by rw [BitVec.ofInt_natCast, BitVec.toNat_ofNat]; exact Nat.mod_eq_of_lt (by omega)
  show IntKind.u8.wrap ((BitVec.ofInt 8 (A : Int) &&& BitVec.ofInt 8 (B : Int)).toNat : Int) = _
  rw [BitVec.toNat_and, ea, eb, IntKind.wrap_u8]
  omega

/-- What of s is not in c. -/
theorem u8_not (s c : Int) (hs : setB s) (hc : setB c) : 0 ≤ bits .andNot .u8 s c ∧ bits .andNot .u8 s c ≤ 255 ∧ (bits .andNot .u8 s c = 0 ↔ orI c s = c) := by
  obtain ⟨S, rfl⟩ := Int.eq_ofNat_of_zero_le hs.1
  obtain ⟨C, rfl⟩ := Int.eq_ofNat_of_zero_le hc.1
  have h1 := hs.2
  have h2 := hc.2
  have ea : (BitVec.ofInt 8 (S : Int)).toNat = S := by rw [BitVec.ofInt_natCast, BitVec.toNat_ofNat]; exact Nat.mod_eq_of_lt (by omega)
  have eb : (BitVec.ofInt 8 (C : Int)).toNat = C := by rw [BitVec.ofInt_natCast, BitVec.toNat_ofNat]; exact Nat.mod_eq_of_lt (by omega)
  have e : bits .andNot .u8 (S : Int) (C : Int) = IntKind.u8.wrap ((BitVec.ofInt 8 (S : Int) &&& ~~~ (BitVec.ofInt 8 (C : Int))).toNat : Int) := rfl
  have hlt := (BitVec.ofInt 8 (S : Int) &&& ~~~ (BitVec.ofInt 8 (C : Int))).isLt
  have e2 : bits .andNot .u8 (S : Int) (C : Int) = ((BitVec.ofInt 8 (S : Int) &&& ~~~ (BitVec.ofInt 8 (C : Int))).toNat : Int) := by
    rw [e, IntKind.wrap_u8]
    omega
  refine ⟨by rw [e2]; omega, by rw [e2]; omega, ?_⟩
  rw [e2, orI, or_nat C S (by omega) (by omega)]
  have key : (BitVec.ofInt 8 (S : Int) &&& ~~~ (BitVec.ofInt 8 (C : Int))).toNat = 0 ↔ C ||| S = C := by
    constructor
    · intro h
      apply Nat.eq_of_testBit_eq
      intro i
      rw [Nat.testBit_or]
      by_cases q : i < 8
      · have hb : (BitVec.ofInt 8 (S : Int) &&& ~~~ (BitVec.ofInt 8 (C : Int))).toNat.testBit i = false := by rw [h]; simp
        rw [BitVec.testBit_toNat, BitVec.getLsbD_and, BitVec.getLsbD_not, ← BitVec.testBit_toNat, ← BitVec.testBit_toNat, ea, eb] at hb
        simp [q] at hb
        cases c1 : S.testBit i
        · simp
        · simp [hb c1]
      · have hi : 256 ≤ 2 ^ i := by
          have : 2 ^ 8 ≤ 2 ^ i := Nat.pow_le_pow_right (by omega) (by omega)
          omega
        rw [Nat.testBit_lt_two_pow (show S < 2 ^ i by omega)]
        simp
    · intro h
      apply Nat.eq_of_testBit_eq
      intro i
      rw [BitVec.testBit_toNat, BitVec.getLsbD_and, BitVec.getLsbD_not, ← BitVec.testBit_toNat, ← BitVec.testBit_toNat, ea, eb]
      have hb : (C ||| S).testBit i = C.testBit i := by rw [h]
      rw [Nat.testBit_or] at hb
      cases c1 : S.testBit i
      · simp
      · rw [c1] at hb
        simp at hb
        simp [hb]
  constructor
  · intro h
    rw [key.1 (by omega)]
  · intro h
    have := key.2 (by omega)
    omega

end Go.Proofs.Ytdooocjjohdpjaa

namespace Go.Proofs.Ytdooocjjohdpjaa
open Go.RowKit Go.Maps
open Go.ChangeMaps (setBlock heap_setBlock_same heap_setBlock_other)
set_option linter.unusedVariables false
set_option linter.unusedSimpArgs false

theorem heap_alloc_old (w : World) (o : Obj) {i : Nat} (h : i < w.heap.size) : (w.alloc o).heap[i]? = w.heap[i]? := (MapKept.heap_alloc w o).2 i h

theorem grown_mp {w : World} {b : Nat} {es es' : Array MapEntry} {c c' : Nat} (hb : w.heap[b]? = some (.map es c)) : w.grownBy (setBlock w b (.map es' c')) (some b) :=
  ⟨rfl, rfl, rfl, by simp [setBlock], fun i _ hi => heap_setBlock_other hb _ (fun e => hi (by rw [e]))⟩

theorem grown_dr (w : World) : w.grownBy w.drew none := ⟨rfl, rfl, rfl, Nat.le_refl _, fun _ _ _ => rfl⟩

theorem grown_two {a b c : World} {j : Nat} (h : a.grownBy b (some j)) (k : b.grownBy c (some j)) : a.grownBy c (some j) := h.andThen k (fun _ e => .inr e)

set_option maxRecDepth 100000 in
set_option maxHeartbeats 1000000 in
theorem give_c (b : Nat) (f : RoI → Int) (r : RoI) (s : Int) (w : World) (h : GM w b f) (hr : roleB r.1 r.2 = true) (hs : setB s) :
    Calls Try.prog 106 #[.map (some b), .agg #[.int .i64 r.1, .int .i64 r.2], .int .u8 s] w fun e w' => e = .returned (.bool (!decide (orI (f r) s = f r))) ∧ GM w' b (giveF f r s) ∧ w.grownBy w' (some b) := by
  obtain ⟨es, es1, clock, clock1, st, hb, E⟩ := entry_is h hr
  have hlt := h.lt
  have hfn := h.fn
  have hn := u8_not s (f r) hs (hfn.st r)
  have hba : (w.alloc (.cells #[.int .i64 r.1, .int .i64 r.2] 35)).heap[b]? = some (.map es clock) := (heap_alloc_old w _ hlt).trans hb
  have hl0 := E.look0 _ hba
  by_cases hsame : orI (f r) s = f r
  · have hz := hn.2.2.2 hsame
    go_enter Try.func106, Try.ntmps106
    go_wp2
    go_ret
    rw [decide_eq_true hsame, give_same hsame]
    exact ⟨rfl, gm_heap h (heap_alloc_old w _ hlt), (World.grownBy_alloc w _ none).but _⟩
  · obtain ⟨g, hg⟩ : ∃ g, bits .andNot .u8 s (f r) = g := ⟨_, rfl⟩
    have hg0 : g ≠ 0 := fun e => hsame (hn.2.2.1 (hg.trans e))
    clear hn
    go_enter Try.func106, Try.ntmps106
    go_wp2
    have c0 : (w.alloc (.cells #[.int .i64 r.1, .int .i64 r.2] 35)).cell? ⟨w.heap.size, 0, none⟩ = some (.int .i64 r.1) := by unfold World.cell?; rw [(MapKept.heap_alloc w _).1]; rfl
    have c1 : (w.alloc (.cells #[.int .i64 r.1, .int .i64 r.2] 35)).cell? ⟨w.heap.size, 1, none⟩ = some (.int .i64 r.2) := by unfold World.cell?; rw [(MapKept.heap_alloc w _).1]; rfl
    have hgr : w.grownBy (w.alloc (.cells #[.int .i64 r.1, .int .i64 r.2] 35)) none := World.grownBy_alloc w _ none
    generalize w.alloc (.cells #[.int .i64 r.1, .int .i64 r.2] 35) = w1 at *
    have hso : setB (orI (f r) s) := or_set (hfn.st r) hs
    have hor : bits .or .u8 (f r) s = orI (f r) s := u8_or _ _ (hfn.st r) hs
    have hs0 : orI (f r) s ≠ 0 := fun e => hsame (by have := or_le (hfn.st r) hs; have := (hfn.st r).1; omega)
    have a1 := E.ask w1.drew hba
    have l0 := E.look0 w1.drew hba
    have hb2 : (setBlock w1.drew b (.map es1 clock1)).heap[b]? = some (.map es1 clock1) := heap_setBlock_same (w := w1.drew) hba _
    have l1 := E.look1 _ hb2
    obtain ⟨es2, clock2, w2, hgm⟩ := E.write _ _ hb2 hso hs0
    have k3 : w1.drew.grownBy (setBlock w1.drew b (.map es1 clock1)) (some b) := grown_mp (w := w1.drew) hba
    generalize setBlock w1.drew b (.map es1 clock1) = w3 at *
    have k4 : w3.grownBy (setBlock w3 b (.map es2 clock2)) (some b) := grown_mp hb2
    generalize setBlock w3 b (.map es2 clock2) = w4 at *
    have k5 : w.grownBy w4 (some b) := grown_two (grown_two (grown_two (hgr.but _) ((grown_dr w1).but _)) k3) k4
    clear hgr k3 k4
    have w2' : (Instr.entryStore 87 (.map (some b)) (.int .i64 (st : Int)) (.int .u8 (orI (f r) s))).run Try.prog w3 = .ok () w4 := w2
    clear E w2
    go_region
    go_wp2
    go_ret
    rw [decide_eq_false hsame]
    exact ⟨rfl, hgm, k5⟩

end Go.Proofs.Ytdooocjjohdpjaa
