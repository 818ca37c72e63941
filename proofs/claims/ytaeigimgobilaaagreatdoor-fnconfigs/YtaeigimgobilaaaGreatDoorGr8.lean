/-
  PLAIN WORDS on who has which role as a function of roles: a set given to a role, one step, the worklist of rules, the first step at which a rule gives. No Go text is walked here.
  Conditions: each fact bears its own.
-/
import Derived.Test.YtaeigimgobilaaaGreatDoorGr7
namespace Go.Proofs.YtaeigimgobilaaaGreatDoor
open Go.RowKit

/-! lists -/

theorem nodup_len {α : Type} [DecidableEq α] : ∀ (l L : List α), l.Nodup → (∀ x ∈ l, x ∈ L) → l.length ≤ L.length
  | [], _, _, _ => by simp
  | x :: xs, L, h, hs => by
    have h' := List.nodup_cons.1 h
    have hx : x ∈ L := hs x (by simp)
    have := nodup_len xs (L.erase x) h'.2 (fun y hy => (List.mem_erase_of_ne (fun e => h'.1 (by rw [← e]; exact hy))).2 (hs y (by simp [hy])))
    rw [List.length_erase_of_mem hx] at this
    have : 0 < L.length := List.length_pos_of_mem hx
    simp only [List.length_cons]
    omega

theorem sum_mono {α : Type} (f g : α → Int) : ∀ (l : List α), (∀ x ∈ l, f x ≤ g x) → (l.map f).sum ≤ (l.map g).sum
  | [], _ => by simp
  | x :: xs, h => by
    have := sum_mono f g xs (fun y hy => h y (by simp [hy]))
    have := h x (by simp)
    simp only [List.map_cons, List.sum_cons]
    omega

theorem sum_strict {α : Type} (f g : α → Int) (a : α) : ∀ (l : List α), (∀ x ∈ l, f x ≤ g x) → a ∈ l → f a < g a → (l.map f).sum < (l.map g).sum
  | [], _, h, _ => by cases h
  | x :: xs, h, ha, hlt => by
    have hx := h x (by simp)
    have hm := sum_mono f g xs (fun y hy => h y (by simp [hy]))
    simp only [List.map_cons, List.sum_cons]
    rcases List.mem_cons.1 ha with rfl | ha'
    · omega
    · have := sum_strict f g a xs (fun y hy => h y (by simp [hy])) ha' hlt
      omega

/-! the roles -/

def allRo : List RoI := (List.range 8).flatMap (fun (i : Nat) => (List.range 5).map (fun (j : Nat) => ((((i : Int) + 1), ((j : Int) + 1)) : RoI)))

theorem allRo_len : allRo.length = 40 := by decide

theorem mem_allRo {r : RoI} (h : roleB r.1 r.2 = true) : r ∈ allRo := by
  obtain ⟨a, b⟩ := r
  simp [roleB, prinB, nameB] at h
  unfold allRo
  rw [List.mem_flatMap]
  obtain ⟨⟨h1, h2⟩, h3, h4⟩ := h
  obtain ⟨i, rfl⟩ : ∃ i : Nat, a = (i : Int) + 1 := ⟨(a - 1).toNat, by omega⟩
  obtain ⟨j, rfl⟩ : ∃ j : Nat, b = (j : Int) + 1 := ⟨(b - 1).toNat, by omega⟩
  have hi : i < 8 := by omega
  have hj : j < 5 := by omega
  exact ⟨i, List.mem_range.2 hi, List.mem_map.2 ⟨j, List.mem_range.2 hj, rfl⟩⟩

/-! who has which role, as a function -/

structure FN (f : RoI → Int) : Prop where
  st : ∀ r, setB (f r)
  ro : ∀ r, f r ≠ 0 → roleB r.1 r.2 = true

def zeroF : RoI → Int := fun _ => 0
def giveF (f : RoI → Int) (r : RoI) (s : Int) : RoI → Int := fun r' => if r' = r then orI (f r) s else f r'

theorem fn_zero : FN zeroF := ⟨fun _ => ⟨Int.le_refl _, show (0 : Int) ≤ 255 by decide⟩, fun _ h => absurd rfl h⟩

theorem fn_give {f : RoI → Int} (h : FN f) {r : RoI} (hr : roleB r.1 r.2 = true) {s : Int} (hs : setB s) : FN (giveF f r s) := by
  refine ⟨fun r' => ?_, fun r' hn => ?_⟩
  · unfold giveF
    split
    · exact or_set (h.st _) hs
    · exact h.st _
  · unfold giveF at hn
    split at hn
    · rename_i e; rw [e]; exact hr
    · exact h.ro _ hn

theorem fn_of_sg {gs : List GrI} (h : SG gs) : FN (ofG gs) := by
  refine ⟨ofG_set h, fun r hr => ?_⟩
  exact h.ro _ (ofG_some hr)

theorem or_zero {s : Int} (hs : setB s) : orI s 0 = s := by
  obtain ⟨B, rfl⟩ := Int.eq_ofNat_of_zero_le hs.1
  have h2 := hs.2
  have := or_nat B 0 (by omega) (by omega)
  simpa using this

theorem or_same {a b : Int} (ha : setB a) (hb : setB b) : orI a b = a ↔ ∀ p, 1 ≤ p → hasI b p = true → hasI a p = true := by
  constructor
  · intro e p _ q
    have := hasI_or ha hb p
    rw [e, q, Bool.or_true] at this
    exact this
  · intro h
    refine set_ext (or_set ha hb) ha (fun p h0 _ => ?_)
    rw [hasI_or ha hb]
    cases q : hasI b p
    · simp
    · rw [h p h0 q]; rfl

theorem hasI_give {f : RoI → Int} (h : FN f) (r : RoI) {s : Int} (hs : setB s) (r' : RoI) (p : Int) : hasI (giveF f r s r') p = true ↔ hasI (f r') p = true ∨ (r' = r ∧ hasI s p = true) := by
  unfold giveF
  split
  · rename_i e
    subst e
    rw [hasI_or (h.st _) hs]
    simp
  · rename_i e
    simp [e]

theorem give_same {f : RoI → Int} {r : RoI} {s : Int} (e : orI (f r) s = f r) : giveF f r s = f := by
  funext r'
  unfold giveF
  split
  · rename_i q; subst q; exact e
  · rfl

theorem ofG_add {gs : List GrI} (h : SG gs) {r : RoI} {s : Int} (hs : setB s) : ofG (addG gs r s) = giveF (ofG gs) r s := by
  unfold addG
  split
  · rename_i e
    subst e
    exact (give_same (or_zero (ofG_set h r))).symm
  · have := hs.1
    funext r'
    rw [ofG_ins h ⟨by omega, hs.2⟩]
    rfl

/-- One step over the first k rules. -/
def stepFTo (zs : List RuleI) (f : RoI → Int) (k : Nat) : RoI → Int := (zs.take k).foldl (fun o z => giveF o (z.ho, z.hn) (byF f z)) f

theorem stepFTo_succ {zs : List RuleI} {k : Nat} {z : RuleI} (h : zs[k]? = some z) (f : RoI → Int) : stepFTo zs f (k + 1) = giveF (stepFTo zs f k) (z.ho, z.hn) (byF f z) := by
  have hk : k < zs.length := by
    by_cases q : k < zs.length
    · exact q
    · rw [List.getElem?_eq_none (by omega)] at h; cases h
  have e : zs[k] = z := by rw [List.getElem?_eq_getElem hk] at h; exact Option.some.inj h
  rw [stepFTo, List.take_succ_eq_append_getElem hk, List.foldl_append, e]
  rfl

theorem fn_stepTo {zs : List RuleI} {f : RoI → Int} (hz : ∀ z ∈ zs, okR z) (hf : FN f) : ∀ k, FN (stepFTo zs f k)
  | 0 => by simpa [stepFTo] using hf
  | k + 1 => by
    by_cases q : k < zs.length
    · have e : zs[k]? = some zs[k] := List.getElem?_eq_getElem q
      rw [stepFTo_succ e]
      exact fn_give (fn_stepTo hz hf k) (hz _ (List.getElem_mem q)).1 (byF_set hf.st (hz _ (List.getElem_mem q)))
    · have : stepFTo zs f (k + 1) = stepFTo zs f k := by
        unfold stepFTo
        rw [List.take_of_length_le (by omega), List.take_of_length_le (by omega)]
      rw [this]
      exact fn_stepTo hz hf k

theorem ofG_stepTo {zs : List RuleI} {gs : List GrI} (hz : ∀ z ∈ zs, okR z) (hg : SG gs) : ∀ k, ofG (stepTo zs gs k) = stepFTo zs (ofG gs) k
  | 0 => by simp [stepTo, stepFTo]
  | k + 1 => by
    by_cases q : k < zs.length
    · have e : zs[k]? = some zs[k] := List.getElem?_eq_getElem q
      rw [stepFTo_succ e, stepTo_succ e, ofG_add (sg_stepTo hz hg k) (byF_set (ofG_set hg) (hz _ (List.getElem_mem q))), ofG_stepTo hz hg k]
    · have e1 : stepFTo zs (ofG gs) (k + 1) = stepFTo zs (ofG gs) k := by
        unfold stepFTo
        rw [List.take_of_length_le (by omega), List.take_of_length_le (by omega)]
      have e2 : stepTo zs gs (k + 1) = stepTo zs gs k := by
        unfold stepTo
        rw [List.take_of_length_le (by omega), List.take_of_length_le (by omega)]
      rw [e1, e2]
      exact ofG_stepTo hz hg k

def stepF (zs : List RuleI) (f : RoI → Int) : RoI → Int := stepFTo zs f zs.length

theorem ofG_step {zs : List RuleI} {gs : List GrI} (hz : ∀ z ∈ zs, okR z) (hg : SG gs) : ofG (stepG zs gs) = stepF zs (ofG gs) := ofG_stepTo hz hg _

/-- The grants of a function: its roles, rising. -/
theorem sg_keys {f : RoI → Int} (hf : FN f) {rs : List RoI} (hs : SS rs) (hm : ∀ r, r ∈ rs ↔ f r ≠ 0) : SG (rs.map (fun r => (r, f r))) ∧ ofG (rs.map (fun r => (r, f r))) = f := by
  have h1 : SG (rs.map (fun r => (r, f r))) := by
    refine ⟨List.pairwise_map.2 hs, fun x hx => ?_, fun x hx => ?_⟩
    · obtain ⟨r, hr, rfl⟩ := List.mem_map.1 hx
      exact hf.ro r ((hm r).1 hr)
    · obtain ⟨r, hr, rfl⟩ := List.mem_map.1 hx
      have := (hm r).1 hr
      have := hf.st r
      unfold setB at this
      show 1 ≤ f r ∧ f r ≤ 255
      omega
  refine ⟨h1, funext fun r => ?_⟩
  by_cases q : f r = 0
  · rw [q]
    refine ofG_none (fun x hx e => ?_)
    obtain ⟨r', hr, rfl⟩ := List.mem_map.1 hx
    exact (hm r').1 hr (by rw [show r' = r from e]; exact q)
  · exact ofG_mem h1 (x := (r, f r)) (List.mem_map.2 ⟨r, (hm r).2 q, rfl⟩)

/-! the sum over all roles -/

def sumF (f : RoI → Int) : Int := (allRo.map f).sum

theorem sumF_bd {f : RoI → Int} (h : FN f) : 0 ≤ sumF f ∧ sumF f ≤ 10200 := by
  have e1 : ∀ (l : List RoI), 0 ≤ (l.map f).sum ∧ (l.map f).sum ≤ 255 * l.length := by
    intro l
    induction l with
    | nil => simp
    | cons x xs ih =>
      have := h.st x
      unfold setB at this
      simp only [List.map_cons, List.sum_cons, List.length_cons]
      omega
  have := e1 allRo
  rw [allRo_len] at this
  unfold sumF
  omega

theorem sumF_give {f : RoI → Int} (h : FN f) {r : RoI} (hr : roleB r.1 r.2 = true) {s : Int} (hs : setB s) (hn : orI (f r) s ≠ f r) : sumF f < sumF (giveF f r s) := by
  refine sum_strict f _ r allRo (fun x _ => ?_) (mem_allRo hr) ?_
  · unfold giveF
    split
    · rename_i e; subst e; exact or_le (h.st _) hs
    · exact Int.le_refl _
  · have := or_le (h.st r) hs
    unfold giveF
    rw [if_pos rfl]
    omega

/-! the worklist -/

/-- What a rule gives may turn with who has the role h. -/
def leansB (z : RuleI) (h : RoI) : Bool := decide (z.k = 3 ∧ z.tn = h.2) || decide (h ∈ bodyR z)

theorem linkTo_congr {f g : RoI → Int} {n : Int} (h : ∀ y, f (y, n) = g (y, n)) (ys : List Int) (k : Nat) : linkTo f n ys k = linkTo g n ys k := by
  have : (fun (o : Int) (y : Int) => orI o (f (y, n))) = fun o y => orI o (g (y, n)) := by
    funext o y
    rw [h y]
  unfold linkTo
  rw [this]

theorem by_still {f : RoI → Int} {z : RuleI} {h : RoI} {s : Int} (hk : 1 ≤ z.k ∧ z.k ≤ 4) (hl : leansB z h = false) : byF (giveF f h s) z = byF f z := by
  unfold leansB at hl
  rw [Bool.or_eq_false_iff] at hl
  obtain ⟨h1, h2⟩ := hl
  have h1 := of_decide_eq_false h1
  have h2 := of_decide_eq_false h2
  unfold bodyR at h2
  have off : ∀ r, r ≠ h → giveF f h s r = f r := fun r e => if_neg e
  unfold byF
  by_cases e1 : z.k = 1
  · simp only [if_pos e1]
  · simp only [if_neg e1] at h2 ⊢
    by_cases e2 : z.k = 2
    · simp only [if_pos e2]
      rw [if_neg (by omega)] at h2
      exact off _ (fun e => h2 (by rw [e]; simp))
    · simp only [if_neg e2]
      by_cases e4 : z.k = 4
      · simp only [if_pos e4] at h2 ⊢
        rw [off _ (fun e => h2 (by rw [e]; simp)), off _ (fun e => h2 (by rw [e]; simp))]
      · simp only [if_neg e4] at h2 ⊢
        have e3 : z.k = 3 := by omega
        rw [off (z.oo, z.on) (fun e => h2 (by rw [e]; simp))]
        exact linkTo_congr (fun y => off _ (fun e => h1 ⟨e3, by rw [← e]⟩)) _ _

/-- The worklist behind the first k rules are asked. -/
def wakeTo (zs : List RuleI) (h : RoI) (ws : List RuleI) (k : Nat) : List RuleI := (zs.take k).foldl (fun o z => if leansB z h = true ∧ z ∉ o then o ++ [z] else o) ws

theorem wakeTo_succ {zs : List RuleI} {k : Nat} {z : RuleI} (e : zs[k]? = some z) (h : RoI) (ws : List RuleI) : wakeTo zs h ws (k + 1) = if leansB z h = true ∧ z ∉ wakeTo zs h ws k then wakeTo zs h ws k ++ [z] else wakeTo zs h ws k := by
  have hk : k < zs.length := by
    by_cases q : k < zs.length
    · exact q
    · rw [List.getElem?_eq_none (by omega)] at e; cases e
  have e : zs[k] = z := by rw [List.getElem?_eq_getElem hk] at e; exact Option.some.inj e
  rw [wakeTo, List.take_succ_eq_append_getElem hk, List.foldl_append, e]
  rfl

theorem wake_fold (h : RoI) (all : List RuleI) : ∀ (zs ws : List RuleI), (∀ z ∈ zs, z ∈ all) → (∀ z ∈ ws, z ∈ all) → ws.Nodup →
    let o := zs.foldl (fun o z => if leansB z h = true ∧ z ∉ o then o ++ [z] else o) ws
    o.Nodup ∧ (∀ z ∈ o, z ∈ all) ∧ (∀ z ∈ ws, z ∈ o) ∧ (∀ z ∈ zs, leansB z h = true → z ∈ o)
  | [], ws, _, hs, hn => ⟨hn, hs, fun _ q => q, fun _ q => by cases q⟩
  | x :: xs, ws, hz, hs, hn => by
    have hx : x ∈ all := hz x (by simp)
    by_cases q : leansB x h = true ∧ x ∉ ws
    · have hn' : (ws ++ [x]).Nodup := List.nodup_append.2 ⟨hn, by simp, fun a ha b hb e => q.2 (by simp at hb; rw [← hb, ← e]; exact ha)⟩
      have hs' : ∀ z ∈ ws ++ [x], z ∈ all := fun z hzz => by
        rcases List.mem_append.1 hzz with q | q
        · exact hs z q
        · simp at q; rw [q]; exact hx
      obtain ⟨i1, i2, i3, i4⟩ := wake_fold h all xs (ws ++ [x]) (fun z hzz => hz z (by simp [hzz])) hs' hn'
      rw [List.foldl_cons, if_pos q]
      refine ⟨i1, i2, fun z hzz => i3 z (by simp [hzz]), fun z hzz hl => ?_⟩
      rcases List.mem_cons.1 hzz with rfl | hzz'
      · exact i3 z (by simp)
      · exact i4 z hzz' hl
    · obtain ⟨i1, i2, i3, i4⟩ := wake_fold h all xs ws (fun z hzz => hz z (by simp [hzz])) hs hn
      rw [List.foldl_cons, if_neg q]
      refine ⟨i1, i2, i3, fun z hzz hl => ?_⟩
      rcases List.mem_cons.1 hzz with rfl | hzz'
      · exact i3 z (Classical.byContradiction fun e => q ⟨hl, e⟩)
      · exact i4 z hzz' hl

structure Work (zs : List RuleI) (f : RoI → Int) (ws : List RuleI) : Prop where
  fn : FN f
  has : ∀ r p, 1 ≤ p → hasI (f r) p = true → Has zs r p
  sub : ∀ z ∈ ws, z ∈ zs
  nd : ws.Nodup
  done : ∀ z ∈ zs, z ∉ ws → ∀ p, 1 ≤ p → hasI (byF f z) p = true → hasI (f (z.ho, z.hn)) p = true

theorem Work.len {zs : List RuleI} {f : RoI → Int} {ws : List RuleI} (h : Work zs f ws) : ws.length ≤ zs.length := nodup_len _ _ h.nd h.sub

theorem work_start {zs : List RuleI} (hn : zs.Nodup) : Work zs zeroF zs :=
  ⟨fn_zero, fun r p _ q => by simp [zeroF, hasI_zero] at q, fun _ q => q, hn, fun z h1 h2 => absurd h1 h2⟩

theorem work_stay {zs : List RuleI} {f : RoI → Int} {z : RuleI} {ws : List RuleI} (h : Work zs f (z :: ws)) (hok : okR z) (e : orI (f (z.ho, z.hn)) (byF f z) = f (z.ho, z.hn)) : Work zs f ws := by
  refine ⟨h.fn, h.has, fun x hx => h.sub x (by simp [hx]), (List.nodup_cons.1 h.nd).2, fun x h1 h2 p hp q => ?_⟩
  by_cases ex : x = z
  · subst ex
    exact (or_same (h.fn.st _) (byF_set h.fn.st hok)).1 e p hp q
  · exact h.done x h1 (fun m => by rcases List.mem_cons.1 m with m | m; exact ex m; exact h2 m) p hp q

theorem work_grow {zs : List RuleI} (hz : ∀ z ∈ zs, okR z ∧ 1 ≤ z.k ∧ z.k ≤ 4) {f : RoI → Int} {z : RuleI} {ws : List RuleI} (h : Work zs f (z :: ws)) :
    Work zs (giveF f (z.ho, z.hn) (byF f z)) (wakeTo zs (z.ho, z.hn) ws zs.length) := by
  have hok : ∀ z ∈ zs, okR z := fun z q => (hz z q).1
  have hzz : z ∈ zs := h.sub z (by simp)
  have hs := byF_set h.fn.st (hok z hzz)
  have hf := fn_give h.fn (r := (z.ho, z.hn)) (hok z hzz).1 hs
  have hnd := List.nodup_cons.1 h.nd
  have w := wake_fold (z.ho, z.hn) zs zs ws (fun _ q => q) (fun x hx => h.sub x (by simp [hx])) hnd.2
  have ew : wakeTo zs (z.ho, z.hn) ws zs.length = zs.foldl (fun o x => if leansB x (z.ho, z.hn) = true ∧ x ∉ o then o ++ [x] else o) ws := by
    unfold wakeTo
    rw [List.take_length]
  rw [ew]
  obtain ⟨w1, w2, w3, w4⟩ := w
  refine ⟨hf, fun r p hp q => ?_, w2, w1, fun x hx hx2 p hp q => ?_⟩
  · rcases (hasI_give h.fn _ hs r p).1 q with q | ⟨e, q⟩
    · exact h.has r p hp q
    · rw [e]
      exact gives_has hok hzz hp (gives_mono (fun r p hp q => h.has r p hp q) hp ((byF_has h.fn.st (hok z hzz) hp).1 q))
  · have hl : leansB x (z.ho, z.hn) = false := by
      cases e : leansB x (z.ho, z.hn)
      · rfl
      · exact absurd (w4 x hx e) hx2
    rw [by_still (hz x hx).2 hl] at q
    by_cases ex : x = z
    · subst ex
      exact (hasI_give h.fn _ hs _ p).2 (.inr ⟨rfl, q⟩)
    · refine (hasI_give h.fn _ hs _ p).2 (.inl (h.done x hx (fun m => ?_) p hp q))
      rcases List.mem_cons.1 m with m | m
      · exact ex m
      · exact hx2 (w3 x m)

theorem work_end {zs : List RuleI} (hz : ∀ z ∈ zs, okR z) {f : RoI → Int} (h : Work zs f []) {gs : List GrI} (hg : SG gs) (e : ofG gs = f) : AllG zs gs := by
  subst e
  exact allG_of hz hg h.has (fun z hzz p hp q => h.done z hzz (by simp) p hp q)

/-! the first step at which a rule gives -/

/-- A rule of head r that gives it to p. -/
def hitB (f : RoI → Int) (r : RoI) (p : Int) (z : RuleI) : Bool := decide ((z.ho, z.hn) = r) && hasI (byF f z) p

def noneHit (zs : List RuleI) (f : RoI → Int) (r : RoI) (p : Int) : Prop := ∀ z ∈ zs, hitB f r p z = false

theorem inN_hit {zs : List RuleI} (hz : ∀ z ∈ zs, okR z) (n : Nat) (r : RoI) (p : Int) : InN zs (n + 1) r p ↔ InN zs n r p ∨ ¬ noneHit zs (ofG (itG zs n)) r p := by
  unfold InN
  rw [itG, has_step hz (sg_it hz n)]
  refine or_congr_right ?_
  constructor
  · rintro ⟨z, h1, h2, h3⟩ q
    have := q z h1
    simp [hitB, h2, h3] at this
  · intro q
    refine Classical.byContradiction fun hno => q (fun z h1 => ?_)
    cases e : hitB (ofG (itG zs n)) r p z
    · rfl
    · unfold hitB at e
      rw [Bool.and_eq_true] at e
      exact absurd ⟨z, h1, of_decide_eq_true e.1, e.2⟩ hno

theorem inN_none {zs : List RuleI} (hz : ∀ z ∈ zs, okR z) (r : RoI) (p : Int) : ∀ n, (∀ k, k < n → noneHit zs (ofG (itG zs k)) r p) → ¬ InN zs n r p
  | 0, _ => by simp [InN, itG, ofG, hasI_zero]
  | n + 1, h => by
    rw [inN_hit hz]
    rintro (q | q)
    · exact inN_none hz r p n (fun k hk => h k (by omega)) q
    · exact q (h n (by omega))

/-- Who has the role not: no rule ever gives it. -/
theorem none_of_not {zs : List RuleI} (hz : ∀ z ∈ zs, okR z) {r : RoI} {p : Int} (h : ¬ Has zs r p) (n : Nat) : noneHit zs (ofG (itG zs n)) r p :=
  Classical.byContradiction fun q => h ⟨n + 1, (inN_hit hz n r p).2 (.inr q)⟩

/-- Who has the role: some step gives it, and the first does. -/
theorem first_of {zs : List RuleI} (hz : ∀ z ∈ zs, okR z) {r : RoI} {p : Int} (h : Has zs r p) : ∃ n, ¬ noneHit zs (ofG (itG zs n)) r p ∧ ∀ k, k < n → noneHit zs (ofG (itG zs k)) r p := by
  have ex : ∃ n, ¬ noneHit zs (ofG (itG zs n)) r p := by
    refine Classical.byContradiction fun hno => ?_
    obtain ⟨n, g⟩ := h
    exact inN_none hz r p n (fun k _ => Classical.byContradiction fun q => hno ⟨k, q⟩) g
  obtain ⟨n, g⟩ := ex
  induction n using Nat.strongRecOn with
  | _ n ih =>
    by_cases q : ∃ k, k < n ∧ ¬ noneHit zs (ofG (itG zs k)) r p
    · obtain ⟨k, hk, hq⟩ := q
      exact ih k hk hq
    · exact ⟨n, g, fun k hk => Classical.byContradiction fun q' => q ⟨k, hk, q'⟩⟩

/-- Steps that no longer turn anything, and no rule has given it: it is not there. -/
theorem not_of_still {zs : List RuleI} (hz : ∀ z ∈ zs, okR z) {r : RoI} {p : Int} (h0 : 1 ≤ p) (h1 : p ≤ 8) {n : Nat} (hn : ∀ k, k ≤ n → noneHit zs (ofG (itG zs k)) r p) (hs : stepG zs (itG zs n) = itG zs n) : ¬ Has zs r p := by
  intro g
  have := ((allG_it hz hs).al r p h0 h1).2 g
  exact inN_none hz r p n (fun k hk => hn k (by omega)) this

end Go.Proofs.YtaeigimgobilaaaGreatDoor
