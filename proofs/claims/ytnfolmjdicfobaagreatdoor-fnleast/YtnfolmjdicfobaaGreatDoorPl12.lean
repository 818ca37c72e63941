/-
  CONTRACTS: spec.l4Bent, spec.l4With, spec.DrawSetsOf: some rules and some parts.
  Conditions: each contract bears its own.
  PLAIN WORDS on who has which role as a function of roles: a set given to a role, one step, the worklist of rules, the first step at which a rule gives. No Go text is walked here.
  Conditions: each fact bears its own.
  PLAIN WORDS on which sets the parts of a form tell, and on the least of them. No Go text is walked here.
  Conditions: each fact bears its own.
  PLAIN WORDS for FnLeast: the empty set is told by no form, and what is least. No Go text is walked here.
  Conditions: each fact bears its own.
-/
import Derived.Test.YtnfolmjdicfobaaGreatDoorPl11
import Derived.Test.YtnfolmjdicfobaaGreatDoorPl08
import Derived.Test.YtnfolmjdicfobaaGreatDoorPl09
namespace Go.Proofs.YtnfolmjdicfobaaGreatDoor
open Go.RowKit
set_option linter.unusedVariables false
set_option linter.unusedSimpArgs false

def zeroPart : PartI := ⟨0, 0, 0, 0, 0⟩

theorem made9 : (madeCells (Value.cells (.agg #[.int .i64 0, .int .i64 0, .int .i64 0, .int .i64 0, .int .i64 0])) (9 * 5)).toList = flatP (List.replicate 9 zeroPart) := by kernel_rfl

theorem pick_lm (w wx : World) (B : Nat) (a : Option Addr) (len cap kk : Nat) (ys : List Int) (g n c : Nat) (ps : List PartI) (h : LM w wx B a len cap kk ys g n c ps) (hB : B < w.heap.size) (hl : len ≤ 1048576) (hk : kk ≤ 900) (m : Nat) (xs : List Int) (hxs : xs.length = m) (hm : 1 ≤ m) (hm2 : m ≤ 100) (t : TypeId) :
    Calls Tryz.prog 31 #[.pointer (some ⟨B, 0, none⟩), .slice (some ⟨wx.heap.size, 0, none⟩) m m] (wx.alloc (.cells (xs.map (Value.int .i64)).toArray t)) fun e w' => ∃ v : Int, e = .returned (.int .i64 v) ∧ LM w w' B a len cap (kk + 1) ys g n c ps := by
  have hA := h.below ((Below.refl _ _).alloc (Nat.le_refl _) (.cells (xs.map (Value.int .i64)).toArray t))
  have hBl := h.ds.src.lt
  refine (pick_c _ B a len cap kk ys hA.ds.src hl (by omega) wx.heap.size m m xs hxs hm hm2 (by omega) (fun j hj => ?_)).mono ?_
  · have hb := heap_alloc_new wx (.cells (xs.map (Value.int .i64)).toArray t)
    rw [cell_of_row _ _ j _ t (0, 0) hb]
    simp [List.getElem?_eq_getElem (show j < xs.length by omega)]
  · rintro e w' ⟨j, hj, rfl, hS, hG⟩
    exact ⟨_, rfl, hA.draw hB hS hG⟩

/-- Parts that were drawn. -/
def BentP (w : World) (B : Nat) (a : Option Addr) (len cap k0 : Nat) (ys : List Int) (e : Ending) (w' : World) : Prop := ∃ (b : Option Addr) (n c kk : Nat) (ps : List PartI), e = .returned (.slice b n c) ∧ (n ≤ 9 ∧ n ≤ c ∧ c ≤ maxLen) ∧ PartsIn w' b n ps ∧ DS w w' B a len cap kk ys

theorem LM.bent {w w' : World} {B : Nat} {a : Option Addr} {len cap kk k0 : Nat} {ys : List Int} {g n c : Nat} {ps : List PartI} (h : LM w w' B a len cap kk ys g n c ps) (hn : n ≤ 9) : BentP w B a len cap k0 ys (.returned (.slice (some ⟨g, 0, none⟩) n c)) w' :=
  ⟨some ⟨g, 0, none⟩, n, c, kk, ps, rfl, ⟨hn, ownP_cap h.ln h.ow⟩, h.ow.read h.ln, h.ds⟩

set_option maxRecDepth 100000 in
set_option maxHeartbeats 4000000 in
theorem bentForm_c (w : World) (B : Nat) (a : Option Addr) (len cap k0 : Nat) (ys : List Int) (a' : Option Addr) (m d : Nat) (zs : List RuleI) (h : SrcAt w B a len cap k0 ys) (hl : len ≤ 1048576) (hk0 : k0 ≤ 700) (hm : m ≤ 1000) (hr : RulesIn w a' m zs) (hne : ∀ b off, a' = some ⟨b, off, none⟩ → m = 0 ∨ b ≠ B) :
    Calls Tryz.prog 67 #[.pointer (some ⟨B, 0, none⟩), .slice a' m d] w fun e w' => BentP w B a len cap k0 ys e w' := by
  have hB := h.lt
  have HCode : Hid (∀ b off, a = some ⟨b, off, none⟩ → len = 0 ∨ b < w.heap.size) := h.code_lt
  have HR : Hid (RulesIn w a' m zs) := hr
  have HNE : Hid (∀ b off, a' = some ⟨b, off, none⟩ → m = 0 ∨ b ≠ B) := hne
  have HS : Hid (SrcAt w B a len cap k0 ys) := h
  obtain ⟨i0, hi, hz0, hz1, hz2⟩ := info_parts Tryz.info105
  have hun : Tryz.prog.underlying 40 = some (.slice 105) := by kernel_rfl
  clear h hr hne
  go_enter Tryz.func67, Tryz.ntmps67
  go_wp2_with fail
  refine (form_c w B a len cap k0 ys a' m d zs HS.out hl hk0 hm HR.out HNE.out).mono ?_
  rintro e w1 ⟨g, n, c, kk, ps, rfl, hn, hkk, hL⟩
  have HL1 : Hid (LM w w1 B a len cap kk ys g n c ps) := hL
  clear hL HS HR HNE
  go_wp2_with fail
  refine (next_c _ B a len cap kk ys 12 HL1.out.ds.src hl (by omega) (by omega) (by omega)).mono ?_
  rintro e w2 ⟨v, v0, v1, rfl, hS2, hG2⟩
  have HL2 : Hid (LM w w2 B a len cap (kk + 1) ys g n c ps) := HL1.out.draw hB hS2 hG2
  have hz2' : w.heap.size ≤ w2.heap.size := HL2.out.size
  clear hS2 hG2 HL1
  by_cases e0 : v = 0
  · subst e0
    go_wp2_with fail
    refine (pick_lm w _ B a len cap _ ys g n c ps HL2.out hB hl (by omega) 4 [0, 1, 2, 4] rfl (by omega) (by omega) _).mono ?_
    rintro e w3 ⟨p1, rfl, hL3⟩
    have HL3 : Hid (LM w w3 B a len cap (kk + 1 + 1) ys g n c ps) := hL3
    clear hL3 HL2
    go_wp2_with fail
    refine (pick_lm w _ B a len cap _ ys g n c ps HL3.out hB hl (by omega) 3 [0, 1, 9] rfl (by omega) (by omega) _).mono ?_
    rintro e w4 ⟨p2, rfl, hL4⟩
    have HL4 : Hid (LM w w4 B a len cap (kk + 1 + 1 + 1) ys g n c ps) := hL4
    clear hL4 HL3
    go_wp2_with fail
    refine (pick_lm w _ B a len cap _ ys g n c ps HL4.out hB hl (by omega) 2 [0, 1] rfl (by omega) (by omega) _).mono ?_
    rintro e w5 ⟨p3, rfl, hL5⟩
    have HL5 : Hid (LM w w5 B a len cap (kk + 1 + 1 + 1 + 1) ys g n c ps) := hL5
    clear hL5 HL4
    go_wp2_with fail
    refine (pick_lm w _ B a len cap _ ys g n c ps HL5.out hB hl (by omega) 3 [0, 9, -1] rfl (by omega) (by omega) _).mono ?_
    rintro e w6 ⟨p4, rfl, hL6⟩
    have HL6 : Hid (LM w w6 B a len cap (kk + 1 + 1 + 1 + 1 + 1) ys g n c ps) := hL6
    clear hL6 HL5
    go_wp2_with (first
      | (at_builtin; refine wpList_append_own _ rfl _ _ 40 rfl w.heap.size 105 i0 (.agg #[.int .i64 0, .int .i64 0, .int .i64 0, .int .i64 0, .int .i64 0]) 5 40 hun hi hz0 hz1 hz2 rfl (by decide) _ n (flatP ps) rfl (?c0) ⟨w6.heap.size, 0, none⟩ 1 1 (rowP (⟨p1, p2, p3, p4, 0⟩ : PartI)) rfl rfl (cell_newP w6 (⟨p1, p2, p3, p4, 0⟩ : PartI) _) (flatP_cells [(⟨p1, p2, p3, p4, 0⟩ : PartI)]) ?c3 ?c4 ?c5 ?_)
      | fail)
    case c0 => have h0 : w6.ownsRow w.heap.size 105 5 (.slice (some ⟨g, 0, none⟩) n c) n (flatP ps) := by have := HL6.out.ow; unfold OwnP at this; rw [HL6.out.ln] at this; exact this
               exact h0.alloc _
    case c3 => unfold maxLen; omega
    case c4 => omega
    case c5 => have := HL6.out.size; simp; omega
    intro v' w9 hown' hgrow hnil
    have HN : Hid (∃ g' c', v' = .slice (some ⟨g', 0, none⟩) (n + 1) c' ∧ LM w w9 B a len cap (kk + 1 + 1 + 1 + 1 + 1) ys g' (n + 1) c' (ps ++ [(⟨p1, p2, p3, p4, 0⟩ : PartI)])) := LM.next HL6.out HCode.out hB hown' hgrow hnil
    clear hown' hgrow hnil
    obtain ⟨g', c', rfl, hl9⟩ := HN.out
    have HL9 : Hid (LM w w9 B a len cap (kk + 1 + 1 + 1 + 1 + 1) ys g' (n + 1) c' (ps ++ [(⟨p1, p2, p3, p4, 0⟩ : PartI)])) := hl9
    clear hl9 HN
    clear HL6
    go_wp2_with fail
    go_ret
    exact HL9.out.bent (by omega)
  · have b0 : (v == 0) = false := by simpa using e0
    by_cases e1 : v = 1
    · subst e1
      obtain ⟨wm, hmk, hownm, hgrm⟩ := run_make_full (P := Tryz.prog) (w := w2) w.heap.size 40 105 i0 (.agg #[.int .i64 0, .int .i64 0, .int .i64 0, .int .i64 0, .int .i64 0]) 5 hun hi hz0 hz1 .i64 .i64 9 (by rw [hz2]; omega) (by unfold maxLen; omega) hz2'
      have HN : Hid (LM w wm B a len cap (kk + 1) ys w2.heap.size 9 9 (List.replicate 9 zeroPart)) := by
        rw [made9] at hownm
        exact ⟨hownm, rfl, ⟨HL2.out.ds.src.kept hgrm (by simp) (fun _ _ _ => .inr (by simp)), grown_trans HL2.out.ds.gr (grown_none hgrm _)⟩, hz2', (hownm.lt w2.heap.size (by simp [Value.ownBlock])).2⟩
      have hmk' : (Instr.makeSlice 40 (.int .i64 9) (.int .i64 9)).run Tryz.prog w2 = .ok (.slice (some ⟨w2.heap.size, 0, none⟩) 9 9) wm := hmk
      clear hownm hgrm HL2 e0 hmk
      go_wp2_with fail
      go_ret
      exact HN.out.bent (by omega)
    · have b1 : (v == 1) = false := by simpa using e1
      by_cases e2 : v = 2
      · subst e2
        clear b0 b1 e0 e1
        go_wp2_with fail
        go_ret
        exact ⟨none, 0, 0, kk + 1, [], rfl, ⟨by omega, by omega, Nat.zero_le _⟩, ⟨rfl, fun h => by omega⟩, HL2.out.ds⟩
      · have b2 : (v == 2) = false := by simpa using e2
        clear e0 e1 e2
        go_wp2_with fail
        go_ret
        exact HL2.out.bent (by omega)

/-- Rules and parts that were drawn. -/
def DrawnP (w : World) (e : Ending) (w' : World) : Prop := ∃ (g n c : Nat) (b : Option Addr) (m c' : Nat) (zs : List RuleI) (ps : List PartI), e = .returned (.tuple #[.slice (some ⟨g, 0, none⟩) n c, .slice b m c']) ∧ (n ≤ 17 ∧ n ≤ c ∧ c ≤ maxLen) ∧ (m ≤ 9 ∧ m ≤ c' ∧ c' ≤ maxLen) ∧ RulesIn w' (some ⟨g, 0, none⟩) n zs ∧ PartsIn w' b m ps ∧ Below w.heap.size w w'

set_option maxRecDepth 100000 in
set_option maxHeartbeats 2000000 in
theorem with_c (a : Option Addr) (len cap : Nat) (ys : List Int) (w : World) (hc : CodeIn w a len ys) (hl : len ≤ 1048576) :
    Calls Tryz.prog 57 #[.slice a len cap] w fun e w' => DrawnP w e w' := by
  have hcl : ∀ b off, a = some ⟨b, off, none⟩ → len = 0 ∨ b < w.heap.size := by
    intro b off e
    by_cases h0 : len = 0
    · exact .inl h0
    · obtain ⟨b', off', e', h1, _⟩ := hc 0 (by omega)
      rw [e] at e'
      cases e'
      exact .inr (World.block_lt_of_cell? w _ h1)
  obtain ⟨W, hW⟩ : ∃ W, w.alloc (.cells #[.slice a len cap, .int .i64 0] 110) = W := ⟨_, rfl⟩
  have hBW : Below w.heap.size w W := by rw [← hW]; exact (Below.refl _ _).alloc (Nat.le_refl _) _
  have hWs : W.heap.size = w.heap.size + 1 := by rw [← hW]; simp
  have HS0 : Hid (SrcAt W w.heap.size a len cap 0 ys) := ⟨by rw [← hW]; exact heap_alloc_new w _, hc.kept (row := none) ⟨hBW.os, hBW.tape, hBW.output, hBW.size, fun k hk _ => hBW.block k hk⟩ (fun _ _ _ => .inr (by simp)), fun b off e => (hcl b off e).imp id (fun q => by omega)⟩
  have HBW : Hid (Below w.heap.size w W ∧ W.heap.size = w.heap.size + 1) := ⟨hBW, hWs⟩
  clear hc hcl hBW hWs
  go_enter Tryz.func57, Tryz.ntmps57
  go_wp2_with fail
  refine (source_c a len cap _).mono ?_
  rintro e w1 ⟨rfl, rfl⟩
  rw [hW]
  clear hW
  go_wp2_with fail
  refine (bentP_c W w.heap.size a len cap 0 ys HS0.out hl (by omega)).mono ?_
  rintro e w2 ⟨g, n, c, kk, zs, rfl, hn, hkk, hL⟩
  have HL : Hid (LP W w2 w.heap.size a len cap 0 kk ys g n c zs) := hL
  clear hL HS0
  have hgw := HL.out.gw
  have hw2 := HBW.out.2
  go_wp2_with fail
  refine (bentForm_c w2 w.heap.size a len cap kk ys (some ⟨g, 0, none⟩) n c zs HL.out.ds.src hl (by omega) (by omega) (HL.out.ow.read HL.out.ln) (fun b off e => .inr (by cases e; omega))).mono ?_
  rintro e w3 ⟨b, m, c', k3, ps, rfl, hm, hps, hds⟩
  have HG : Hid (PartsIn w3 b m ps ∧ DS w2 w3 w.heap.size a len cap k3 ys) := ⟨hps, hds⟩
  clear hps hds
  go_wp2_with fail
  refine bodyPost_ret (v := .tuple #[.slice (some ⟨g, 0, none⟩) n c, .slice b m c']) (by simp [results, Tryz.results57, go_sem]) rfl ?_
  refine ⟨g, n, c, b, m, c', zs, ps, rfl, ⟨hn, own8_cap HL.out.ln HL.out.ow⟩, hm, rules_gr (HL.out.ow.read HL.out.ln) HG.out.2.gr (fun b off e => .inr (by cases e; omega)), HG.out.1, ?_⟩
  have h1 := HL.out.ds.gr
  have h2 := HG.out.2.gr
  exact (HBW.out.1.grown h1 (by omega) (fun q e => by cases e; exact Nat.le_refl _)).grown h2 (by have := h1.size; omega) (fun q e => by cases e; exact Nat.le_refl _)

end Go.Proofs.YtnfolmjdicfobaaGreatDoor

namespace Go.Proofs.YtnfolmjdicfobaaGreatDoor
open Go.RowKit

/-! lists -/

theorem nodup_len {α : Type} [DecidableEq α] : ∀ (l L : List α), l.Nodup → (∀ x ∈ l, x ∈ L) → l.length ≤ L.length
  | [], _, _, _ => by simp
  | x :: xs, L, h, hs => by
    have h' := List.nodup_cons.1 h
    have hx : x ∈ L := hs x (by simp)
    have := nodup_len xs (L.erase x) h'.2 (fun y hy => (List.mem_erase_of_ne (fun e => h'.1 (by rw [← e]; exact hy))).2 (hs y (by simp [hy])))
    rw [List.length_erase_of_mem hx] at this
    have : 0 < L.length := List.length_pos_of_mem hx
    simp only [List.length_cons]
    omega

theorem sum_mono {α : Type} (f g : α → Int) : ∀ (l : List α), (∀ x ∈ l, f x ≤ g x) → (l.map f).sum ≤ (l.map g).sum
  | [], _ => by simp
  | x :: xs, h => by
    have := sum_mono f g xs (fun y hy => h y (by simp [hy]))
    have := h x (by simp)
    simp only [List.map_cons, List.sum_cons]
    omega

theorem sum_strict {α : Type} (f g : α → Int) (a : α) : ∀ (l : List α), (∀ x ∈ l, f x ≤ g x) → a ∈ l → f a < g a → (l.map f).sum < (l.map g).sum
  | [], _, h, _ => by cases h
  | x :: xs, h, ha, hlt => by
    have hx := h x (by simp)
    have hm := sum_mono f g xs (fun y hy => h y (by simp [hy]))
    simp only [List.map_cons, List.sum_cons]
    rcases List.mem_cons.1 ha with rfl | ha'
    · omega
    · have := sum_strict f g a xs (fun y hy => h y (by simp [hy])) ha' hlt
      omega

/-! the roles -/

def allRo : List RoI := (List.range 8).flatMap (fun (i : Nat) => (List.range 5).map (fun (j : Nat) => ((((i : Int) + 1), ((j : Int) + 1)) : RoI)))

theorem allRo_len : allRo.length = 40 := by decide

theorem mem_allRo {r : RoI} (h : roleB r.1 r.2 = true) : r ∈ allRo := by
  obtain ⟨a, b⟩ := r
  simp [roleB, prinB, nameB] at h
  unfold allRo
  rw [List.mem_flatMap]
  obtain ⟨⟨h1, h2⟩, h3, h4⟩ := h
  obtain ⟨i, rfl⟩ : ∃ i : Nat, a = (i : Int) + 1 := ⟨(a - 1).toNat, by omega⟩
  obtain ⟨j, rfl⟩ : ∃ j : Nat, b = (j : Int) + 1 := ⟨(b - 1).toNat, by omega⟩
  have hi : i < 8 := by omega
  have hj : j < 5 := by omega
  exact ⟨i, List.mem_range.2 hi, List.mem_map.2 ⟨j, List.mem_range.2 hj, rfl⟩⟩

/-! who has which role, as a function -/

structure FN (f : RoI → Int) : Prop where
  st : ∀ r, setB (f r)
  ro : ∀ r, f r ≠ 0 → roleB r.1 r.2 = true

def zeroF : RoI → Int := fun _ => 0
def giveF (f : RoI → Int) (r : RoI) (s : Int) : RoI → Int := fun r' => if r' = r then orI (f r) s else f r'

theorem fn_zero : FN zeroF := ⟨fun _ => ⟨Int.le_refl _, show (0 : Int) ≤ 255 by decide⟩, fun _ h => absurd rfl h⟩

theorem fn_give {f : RoI → Int} (h : FN f) {r : RoI} (hr : roleB r.1 r.2 = true) {s : Int} (hs : setB s) : FN (giveF f r s) := by
  refine ⟨fun r' => ?_, fun r' hn => ?_⟩
  · unfold giveF
    split
    · exact or_set (h.st _) hs
    · exact h.st _
  · unfold giveF at hn
    split at hn
    · rename_i e; rw [e]; exact hr
    · exact h.ro _ hn

theorem fn_of_sg {gs : List GrI} (h : SG gs) : FN (ofG gs) := by
  refine ⟨ofG_set h, fun r hr => ?_⟩
  exact h.ro _ (ofG_some hr)

theorem or_zero {s : Int} (hs : setB s) : orI s 0 = s := by
  obtain ⟨B, rfl⟩ := Int.eq_ofNat_of_zero_le hs.1
  have h2 := hs.2
  have := or_nat B 0 (by omega) (by omega)
  simpa using this

theorem or_same {a b : Int} (ha : setB a) (hb : setB b) : orI a b = a ↔ ∀ p, 1 ≤ p → hasI b p = true → hasI a p = true := by
  constructor
  · intro e p _ q
    have := hasI_or ha hb p
    rw [e, q, Bool.or_true] at this
    exact this
  · intro h
    refine set_ext (or_set ha hb) ha (fun p h0 _ => ?_)
    rw [hasI_or ha hb]
    cases q : hasI b p
    · simp
    · rw [h p h0 q]; rfl

theorem hasI_give {f : RoI → Int} (h : FN f) (r : RoI) {s : Int} (hs : setB s) (r' : RoI) (p : Int) : hasI (giveF f r s r') p = true ↔ hasI (f r') p = true ∨ (r' = r ∧ hasI s p = true) := by
  unfold giveF
  split
  · rename_i e
    subst e
    rw [hasI_or (h.st _) hs]
    simp
  · rename_i e
    simp [e]

theorem give_same {f : RoI → Int} {r : RoI} {s : Int} (e : orI (f r) s = f r) : giveF f r s = f := by
  funext r'
  unfold giveF
  split
  · rename_i q; subst q; exact e
  · rfl

theorem ofG_add {gs : List GrI} (h : SG gs) {r : RoI} {s : Int} (hs : setB s) : ofG (addG gs r s) = giveF (ofG gs) r s := by
  unfold addG
  split
  · rename_i e
    subst e
    exact (give_same (or_zero (ofG_set h r))).symm
  · have := hs.1
    funext r'
    rw [ofG_ins h ⟨by omega, hs.2⟩]
    rfl

/-- One step over the first k rules. -/
def stepFTo (zs : List RuleI) (f : RoI → Int) (k : Nat) : RoI → Int := (zs.take k).foldl (fun o z => giveF o (z.ho, z.hn) (byF f z)) f

theorem stepFTo_succ {zs : List RuleI} {k : Nat} {z : RuleI} (h : zs[k]? = some z) (f : RoI → Int) : stepFTo zs f (k + 1) = giveF (stepFTo zs f k) (z.ho, z.hn) (byF f z) := by
  have hk : k < zs.length := by
    by_cases q : k < zs.length
    · exact q
    · rw [List.getElem?_eq_none (by omega)] at h; cases h
  have e : zs[k] = z := by rw [List.getElem?_eq_getElem hk] at h; exact Option.some.inj h
  rw [stepFTo, List.take_succ_eq_append_getElem hk, List.foldl_append, e]
  rfl

theorem fn_stepTo {zs : List RuleI} {f : RoI → Int} (hz : ∀ z ∈ zs, okR z) (hf : FN f) : ∀ k, FN (stepFTo zs f k)
  | 0 => by simpa [stepFTo] using hf
  | k + 1 => by
    by_cases q : k < zs.length
    · have e : zs[k]? = some zs[k] := List.getElem?_eq_getElem q
      rw [stepFTo_succ e]
      exact fn_give (fn_stepTo hz hf k) (hz _ (List.getElem_mem q)).1 (byF_set hf.st (hz _ (List.getElem_mem q)))
    · have : stepFTo zs f (k + 1) = stepFTo zs f k := by
        unfold stepFTo
        rw [List.take_of_length_le (by omega), List.take_of_length_le (by omega)]
      rw [this]
      exact fn_stepTo hz hf k

theorem ofG_stepTo {zs : List RuleI} {gs : List GrI} (hz : ∀ z ∈ zs, okR z) (hg : SG gs) : ∀ k, ofG (stepTo zs gs k) = stepFTo zs (ofG gs) k
  | 0 => by simp [stepTo, stepFTo]
  | k + 1 => by
    by_cases q : k < zs.length
    · have e : zs[k]? = some zs[k] := List.getElem?_eq_getElem q
      rw [stepFTo_succ e, stepTo_succ e, ofG_add (sg_stepTo hz hg k) (byF_set (ofG_set hg) (hz _ (List.getElem_mem q))), ofG_stepTo hz hg k]
    · have e1 : stepFTo zs (ofG gs) (k + 1) = stepFTo zs (ofG gs) k := by
        unfold stepFTo
        rw [List.take_of_length_le (by omega), List.take_of_length_le (by omega)]
      have e2 : stepTo zs gs (k + 1) = stepTo zs gs k := by
        unfold stepTo
        rw [List.take_of_length_le (by omega), List.take_of_length_le (by omega)]
      rw [e1, e2]
      exact ofG_stepTo hz hg k

def stepF (zs : List RuleI) (f : RoI → Int) : RoI → Int := stepFTo zs f zs.length

theorem ofG_step {zs : List RuleI} {gs : List GrI} (hz : ∀ z ∈ zs, okR z) (hg : SG gs) : ofG (stepG zs gs) = stepF zs (ofG gs) := ofG_stepTo hz hg _

/-- The grants of a function: its roles, rising. -/
theorem sg_keys {f : RoI → Int} (hf : FN f) {rs : List RoI} (hs : SS rs) (hm : ∀ r, r ∈ rs ↔ f r ≠ 0) : SG (rs.map (fun r => (r, f r))) ∧ ofG (rs.map (fun r => (r, f r))) = f := by
  have h1 : SG (rs.map (fun r => (r, f r))) := by
    refine ⟨List.pairwise_map.2 hs, fun x hx => ?_, fun x hx => ?_⟩
    · obtain ⟨r, hr, rfl⟩ := List.mem_map.1 hx
      exact hf.ro r ((hm r).1 hr)
    · obtain ⟨r, hr, rfl⟩ := List.mem_map.1 hx
      have := (hm r).1 hr
      have := hf.st r
      unfold setB at this
      show 1 ≤ f r ∧ f r ≤ 255
      omega
  refine ⟨h1, funext fun r => ?_⟩
  by_cases q : f r = 0
  · rw [q]
    refine ofG_none (fun x hx e => ?_)
    obtain ⟨r', hr, rfl⟩ := List.mem_map.1 hx
    exact (hm r').1 hr (by rw [show r' = r from e]; exact q)
  · exact ofG_mem h1 (x := (r, f r)) (List.mem_map.2 ⟨r, (hm r).2 q, rfl⟩)

/-! the sum over all roles -/

def sumF (f : RoI → Int) : Int := (allRo.map f).sum

theorem sumF_bd {f : RoI → Int} (h : FN f) : 0 ≤ sumF f ∧ sumF f ≤ 10200 := by
  have e1 : ∀ (l : List RoI), 0 ≤ (l.map f).sum ∧ (l.map f).sum ≤ 255 * l.length := by
    intro l
    induction l with
    | nil => simp
    | cons x xs ih =>
      have := h.st x
      unfold setB at this
      simp only [List.map_cons, List.sum_cons, List.length_cons]
      omega
  have := e1 allRo
  rw [allRo_len] at this
  unfold sumF
  omega

theorem sumF_give {f : RoI → Int} (h : FN f) {r : RoI} (hr : roleB r.1 r.2 = true) {s : Int} (hs : setB s) (hn : orI (f r) s ≠ f r) : sumF f < sumF (giveF f r s) := by
  refine sum_strict f _ r allRo (fun x _ => ?_) (mem_allRo hr) ?_
  · unfold giveF
    split
    · rename_i e; subst e; exact or_le (h.st _) hs
    · exact Int.le_refl _
  · have := or_le (h.st r) hs
    unfold giveF
    rw [if_pos rfl]
    omega

/-! the worklist -/

/-- What a rule gives may turn with who has the role h. -/
def leansB (z : RuleI) (h : RoI) : Bool := decide (z.k = 3 ∧ z.tn = h.2) || decide (h ∈ bodyR z)

theorem linkTo_congr {f g : RoI → Int} {n : Int} (h : ∀ y, f (y, n) = g (y, n)) (ys : List Int) (k : Nat) : linkTo f n ys k = linkTo g n ys k := by
  have : (fun (o : Int) (y : Int) => orI o (f (y, n))) = fun o y => orI o (g (y, n)) := by
    funext o y
    rw [h y]
  unfold linkTo
  rw [this]

theorem by_still {f : RoI → Int} {z : RuleI} {h : RoI} {s : Int} (hk : 1 ≤ z.k ∧ z.k ≤ 4) (hl : leansB z h = false) : byF (giveF f h s) z = byF f z := by
  unfold leansB at hl
  rw [Bool.or_eq_false_iff] at hl
  obtain ⟨h1, h2⟩ := hl
  have h1 := of_decide_eq_false h1
  have h2 := of_decide_eq_false h2
  unfold bodyR at h2
  have off : ∀ r, r ≠ h → giveF f h s r = f r := fun r e => if_neg e
  unfold byF
  by_cases e1 : z.k = 1
  · simp only [if_pos e1]
  · simp only [if_neg e1] at h2 ⊢
    by_cases e2 : z.k = 2
    · simp only [if_pos e2]
      rw [if_neg (by omega)] at h2
      exact off _ (fun e => h2 (by rw [e]; simp))
    · simp only [if_neg e2]
      by_cases e4 : z.k = 4
      · simp only [if_pos e4] at h2 ⊢
        rw [off _ (fun e => h2 (by rw [e]; simp)), off _ (fun e => h2 (by rw [e]; simp))]
      · simp only [if_neg e4] at h2 ⊢
        have e3 : z.k = 3 := by omega
        rw [off (z.oo, z.on) (fun e => h2 (by rw [e]; simp))]
        exact linkTo_congr (fun y => off _ (fun e => h1 ⟨e3, by rw [← e]⟩)) _ _

/-- The worklist behind the first k rules are asked. -/
def wakeTo (zs : List RuleI) (h : RoI) (ws : List RuleI) (k : Nat) : List RuleI := (zs.take k).foldl (fun o z => if leansB z h = true ∧ z ∉ o then o ++ [z] else o) ws

theorem wakeTo_succ {zs : List RuleI} {k : Nat} {z : RuleI} (e : zs[k]? = some z) (h : RoI) (ws : List RuleI) : wakeTo zs h ws (k + 1) = if leansB z h = true ∧ z ∉ wakeTo zs h ws k then wakeTo zs h ws k ++ [z] else wakeTo zs h ws k := by
  have hk : k < zs.length := by
    by_cases q : k < zs.length
    · exact q
    · rw [List.getElem?_eq_none (by omega)] at e; cases e
  have e : zs[k] = z := by rw [List.getElem?_eq_getElem hk] at e; exact Option.some.inj e
  rw [wakeTo, List.take_succ_eq_append_getElem hk, List.foldl_append, e]
  rfl

theorem wake_fold (h : RoI) (all : List RuleI) : ∀ (zs ws : List RuleI), (∀ z ∈ zs, z ∈ all) → (∀ z ∈ ws, z ∈ all) → ws.Nodup →
    let o := zs.foldl (fun o z => if leansB z h = true ∧ z ∉ o then o ++ [z] else o) ws
    o.Nodup ∧ (∀ z ∈ o, z ∈ all) ∧ (∀ z ∈ ws, z ∈ o) ∧ (∀ z ∈ zs, leansB z h = true → z ∈ o)
  | [], ws, _, hs, hn => ⟨hn, hs, fun _ q => q, fun _ q => by cases q⟩
  | x :: xs, ws, hz, hs, hn => by
    have hx : x ∈ all := hz x (by simp)
    by_cases q : leansB x h = true ∧ x ∉ ws
    · have hn' : (ws ++ [x]).Nodup := List.nodup_append.2 ⟨hn, by simp, fun a ha b hb e => q.2 (by simp at hb; rw [← hb, ← e]; exact ha)⟩
      have hs' : ∀ z ∈ ws ++ [x], z ∈ all := fun z hzz => by
        rcases List.mem_append.1 hzz with q | q
        · exact hs z q
        · simp at q; rw [q]; exact hx
      obtain ⟨i1, i2, i3, i4⟩ := wake_fold h all xs (ws ++ [x]) (fun z hzz => hz z (by simp [hzz])) hs' hn'
      rw [List.foldl_cons, if_pos q]
      refine ⟨i1, i2, fun z hzz => i3 z (by simp [hzz]), fun z hzz hl => ?_⟩
      rcases List.mem_cons.1 hzz with rfl | hzz'
      · exact i3 z (by simp)
      · exact i4 z hzz' hl
    · obtain ⟨i1, i2, i3, i4⟩ := wake_fold h all xs ws (fun z hzz => hz z (by simp [hzz])) hs hn
      rw [List.foldl_cons, if_neg q]
      refine ⟨i1, i2, i3, fun z hzz hl => ?_⟩
      rcases List.mem_cons.1 hzz with rfl | hzz'
      · exact i3 z (Classical.byContradiction fun e => q ⟨hl, e⟩)
      · exact i4 z hzz' hl

structure Work (zs : List RuleI) (f : RoI → Int) (ws : List RuleI) : Prop where
  fn : FN f
  has : ∀ r p, 1 ≤ p → hasI (f r) p = true → Has zs r p
  sub : ∀ z ∈ ws, z ∈ zs
  nd : ws.Nodup
  done : ∀ z ∈ zs, z ∉ ws → ∀ p, 1 ≤ p → hasI (byF f z) p = true → hasI (f (z.ho, z.hn)) p = true

theorem Work.len {zs : List RuleI} {f : RoI → Int} {ws : List RuleI} (h : Work zs f ws) : ws.length ≤ zs.length := nodup_len _ _ h.nd h.sub

theorem work_start {zs : List RuleI} (hn : zs.Nodup) : Work zs zeroF zs :=
  ⟨fn_zero, fun r p _ q => by simp [zeroF, hasI_zero] at q, fun _ q => q, hn, fun z h1 h2 => absurd h1 h2⟩

theorem work_stay {zs : List RuleI} {f : RoI → Int} {z : RuleI} {ws : List RuleI} (h : Work zs f (z :: ws)) (hok : okR z) (e : orI (f (z.ho, z.hn)) (byF f z) = f (z.ho, z.hn)) : Work zs f ws := by
  refine ⟨h.fn, h.has, fun x hx => h.sub x (by simp [hx]), (List.nodup_cons.1 h.nd).2, fun x h1 h2 p hp q => ?_⟩
  by_cases ex : x = z
  · subst ex
    exact (or_same (h.fn.st _) (byF_set h.fn.st hok)).1 e p hp q
  · exact h.done x h1 (fun m => by rcases List.mem_cons.1 m with m | m; exact ex m; exact h2 m) p hp q

theorem work_grow {zs : List RuleI} (hz : ∀ z ∈ zs, okR z ∧ 1 ≤ z.k ∧ z.k ≤ 4) {f : RoI → Int} {z : RuleI} {ws : List RuleI} (h : Work zs f (z :: ws)) :
    Work zs (giveF f (z.ho, z.hn) (byF f z)) (wakeTo zs (z.ho, z.hn) ws zs.length) := by
  have hok : ∀ z ∈ zs, okR z := fun z q => (hz z q).1
  have hzz : z ∈ zs := h.sub z (by simp)
  have hs := byF_set h.fn.st (hok z hzz)
  have hf := fn_give h.fn (r := (z.ho, z.hn)) (hok z hzz).1 hs
  have hnd := List.nodup_cons.1 h.nd
  have w := wake_fold (z.ho, z.hn) zs zs ws (fun _ q => q) (fun x hx => h.sub x (by simp [hx])) hnd.2
  have ew : wakeTo zs (z.ho, z.hn) ws zs.length = zs.foldl (fun o x => if leansB x (z.ho, z.hn) = true ∧ x ∉ o then o ++ [x] else o) ws := by
    unfold wakeTo
    rw [List.take_length]
  rw [ew]
  obtain ⟨w1, w2, w3, w4⟩ := w
  refine ⟨hf, fun r p hp q => ?_, w2, w1, fun x hx hx2 p hp q => ?_⟩
  · rcases (hasI_give h.fn _ hs r p).1 q with q | ⟨e, q⟩
    · exact h.has r p hp q
    · rw [e]
      exact gives_has hok hzz hp (gives_mono (fun r p hp q => h.has r p hp q) hp ((byF_has h.fn.st (hok z hzz) hp).1 q))
  · have hl : leansB x (z.ho, z.hn) = false := by
      cases e : leansB x (z.ho, z.hn)
      · rfl
      · exact absurd (w4 x hx e) hx2
    rw [by_still (hz x hx).2 hl] at q
    by_cases ex : x = z
    · subst ex
      exact (hasI_give h.fn _ hs _ p).2 (.inr ⟨rfl, q⟩)
    · refine (hasI_give h.fn _ hs _ p).2 (.inl (h.done x hx (fun m => ?_) p hp q))
      rcases List.mem_cons.1 m with m | m
      · exact ex m
      · exact hx2 (w3 x m)

theorem work_end {zs : List RuleI} (hz : ∀ z ∈ zs, okR z) {f : RoI → Int} (h : Work zs f []) {gs : List GrI} (hg : SG gs) (e : ofG gs = f) : AllG zs gs := by
  subst e
  exact allG_of hz hg h.has (fun z hzz p hp q => h.done z hzz (by simp) p hp q)

/-! the first step at which a rule gives -/

/-- A rule of head r that gives it to p. -/
def hitB (f : RoI → Int) (r : RoI) (p : Int) (z : RuleI) : Bool := decide ((z.ho, z.hn) = r) && hasI (byF f z) p

def noneHit (zs : List RuleI) (f : RoI → Int) (r : RoI) (p : Int) : Prop := ∀ z ∈ zs, hitB f r p z = false

theorem inN_hit {zs : List RuleI} (hz : ∀ z ∈ zs, okR z) (n : Nat) (r : RoI) (p : Int) : InN zs (n + 1) r p ↔ InN zs n r p ∨ ¬ noneHit zs (ofG (itG zs n)) r p := by
  unfold InN
  rw [itG, has_step hz (sg_it hz n)]
  refine or_congr_right ?_
  constructor
  · rintro ⟨z, h1, h2, h3⟩ q
    have := q z h1
    simp [hitB, h2, h3] at this
  · intro q
    refine Classical.byContradiction fun hno => q (fun z h1 => ?_)
    cases e : hitB (ofG (itG zs n)) r p z
    · rfl
    · unfold hitB at e
      rw [Bool.and_eq_true] at e
      exact absurd ⟨z, h1, of_decide_eq_true e.1, e.2⟩ hno

theorem inN_none {zs : List RuleI} (hz : ∀ z ∈ zs, okR z) (r : RoI) (p : Int) : ∀ n, (∀ k, k < n → noneHit zs (ofG (itG zs k)) r p) → ¬ InN zs n r p
  | 0, _ => by simp [InN, itG, ofG, hasI_zero]
  | n + 1, h => by
    rw [inN_hit hz]
    rintro (q | q)
    · exact inN_none hz r p n (fun k hk => h k (by omega)) q
    · exact q (h n (by omega))

/-- Who has the role not: no rule ever gives it. -/
theorem none_of_not {zs : List RuleI} (hz : ∀ z ∈ zs, okR z) {r : RoI} {p : Int} (h : ¬ Has zs r p) (n : Nat) : noneHit zs (ofG (itG zs n)) r p :=
  Classical.byContradiction fun q => h ⟨n + 1, (inN_hit hz n r p).2 (.inr q)⟩

/-- Who has the role: some step gives it, and the first does. -/
theorem first_of {zs : List RuleI} (hz : ∀ z ∈ zs, okR z) {r : RoI} {p : Int} (h : Has zs r p) : ∃ n, ¬ noneHit zs (ofG (itG zs n)) r p ∧ ∀ k, k < n → noneHit zs (ofG (itG zs k)) r p := by
  have ex : ∃ n, ¬ noneHit zs (ofG (itG zs n)) r p := by
    refine Classical.byContradiction fun hno => ?_
    obtain ⟨n, g⟩ := h
    exact inN_none hz r p n (fun k _ => Classical.byContradiction fun q => hno ⟨k, q⟩) g
  obtain ⟨n, g⟩ := ex
  induction n using Nat.strongRecOn with
  | _ n ih =>
    by_cases q : ∃ k, k < n ∧ ¬ noneHit zs (ofG (itG zs k)) r p
    · obtain ⟨k, hk, hq⟩ := q
      exact ih k hk hq
    · exact ⟨n, g, fun k hk => Classical.byContradiction fun q' => q ⟨k, hk, q'⟩⟩

/-- Steps that no longer turn anything, and no rule has given it: it is not there. -/
theorem not_of_still {zs : List RuleI} (hz : ∀ z ∈ zs, okR z) {r : RoI} {p : Int} (h0 : 1 ≤ p) (h1 : p ≤ 8) {n : Nat} (hn : ∀ k, k ≤ n → noneHit zs (ofG (itG zs k)) r p) (hs : stepG zs (itG zs n) = itG zs n) : ¬ Has zs r p := by
  intro g
  have := ((allG_it hz hs).al r p h0 h1).2 g
  exact inN_none hz r p n (fun k hk => hn k (by omega)) this

end Go.Proofs.YtnfolmjdicfobaaGreatDoor

namespace Go.Proofs.YtnfolmjdicfobaaGreatDoor
open Go.RowKit
set_option linter.unusedVariables false
set_option linter.unusedSimpArgs false

/-- Which of the 256 sets are told. -/
abbrev TS := Nat → Bool
def noT : TS := fun _ => false
def putT (T : TS) (x : Nat) : TS := fun y => if y = x then true else T y
def oneT (s : Int) : TS := fun x => (List.range 8).any fun p => (x == 2 ^ p) && hasI s ((p : Int) + 1)
def okAB (ap : Bool) (a b : Nat) : Bool := !(ap && (a &&& b != 0))
def bothT (ap : Bool) (L R : TS) : TS := fun x => (List.range 256).any fun a => L a && (List.range 256).any fun b => R b && okAB ap a b && (a ||| b == x)

theorem bothT_iff {ap : Bool} {L R : TS} {x : Nat} : bothT ap L R x = true ↔ ∃ a b, a < 256 ∧ b < 256 ∧ L a = true ∧ R b = true ∧ okAB ap a b = true ∧ a ||| b = x := by
  unfold bothT
  rw [List.any_eq_true]
  constructor
  · rintro ⟨a, ha, h⟩
    rw [Bool.and_eq_true, List.any_eq_true] at h
    obtain ⟨hL, b, hb, h⟩ := h
    rw [Bool.and_eq_true, Bool.and_eq_true] at h
    exact ⟨a, b, List.mem_range.1 ha, List.mem_range.1 hb, hL, h.1.1, h.1.2, by simpa using h.2⟩
  · rintro ⟨a, b, ha, hb, hL, hR, ho, rfl⟩
    refine ⟨a, List.mem_range.2 ha, ?_⟩
    rw [Bool.and_eq_true, List.any_eq_true]
    exact ⟨hL, b, List.mem_range.2 hb, by simp [hR, ho]⟩

/-- What two loops have put so far. -/
def Both (ap : Bool) (L R : TS) (i j : Nat) (T : TS) : Prop := ∀ x, x < 256 → (T x = true ↔ ∃ a b, (a < i ∨ a = i ∧ b < j) ∧ a < 256 ∧ b < 256 ∧ L a = true ∧ R b = true ∧ okAB ap a b = true ∧ a ||| b = x)

theorem both_start (ap : Bool) (L R : TS) : Both ap L R 0 0 noT := by
  intro x hx
  constructor
  · intro h; cases h
  · rintro ⟨a, b, h, _⟩; omega

theorem both_skip {ap : Bool} {L R : TS} {i j : Nat} {T : TS} (h : Both ap L R i j T) (hl : L i = false) : Both ap L R (i + 1) 0 T := by
  intro x hx
  rw [h x hx]
  constructor
  · rintro ⟨a, b, h0, h1⟩
    exact ⟨a, b, by omega, h1⟩
  · rintro ⟨a, b, h0, h1, h2, h3, h4⟩
    have : a ≠ i := fun e => by rw [e, hl] at h3; cases h3
    exact ⟨a, b, by omega, h1, h2, h3, h4⟩

theorem both_next {ap : Bool} {L R : TS} {i : Nat} {T : TS} (h : Both ap L R i 256 T) : Both ap L R (i + 1) 0 T := by
  intro x hx
  rw [h x hx]
  constructor
  · rintro ⟨a, b, h0, h1⟩
    exact ⟨a, b, by omega, h1⟩
  · rintro ⟨a, b, h0, h1, h2, h3⟩
    exact ⟨a, b, by omega, h1, h2, h3⟩

theorem both_no {ap : Bool} {L R : TS} {i j : Nat} {T : TS} (h : Both ap L R i j T) (hn : (R j && okAB ap i j) = false) : Both ap L R i (j + 1) T := by
  intro x hx
  rw [h x hx]
  constructor
  · rintro ⟨a, b, h0, h1⟩
    exact ⟨a, b, by omega, h1⟩
  · rintro ⟨a, b, h0, h1, h2, h3, h4, h5, h6⟩
    have : ¬ (a = i ∧ b = j) := by
      rintro ⟨rfl, rfl⟩
      rw [h4, h5] at hn; cases hn
    exact ⟨a, b, by omega, h1, h2, h3, h4, h5, h6⟩

theorem both_put {ap : Bool} {L R : TS} {i j : Nat} {T : TS} (h : Both ap L R i j T) (hi : i < 256) (hj : j < 256) (hL : L i = true) (hn : (R j && okAB ap i j) = true) : Both ap L R i (j + 1) (putT T (i ||| j)) := by
  rw [Bool.and_eq_true] at hn
  intro x hx
  unfold putT
  by_cases e : x = i ||| j
  · rw [if_pos e]
    exact ⟨fun _ => ⟨i, j, by omega, hi, hj, hL, hn.1, hn.2, e.symm⟩, fun _ => rfl⟩
  · rw [if_neg e, h x hx]
    constructor
    · rintro ⟨a, b, h0, h1⟩
      exact ⟨a, b, by omega, h1⟩
    · rintro ⟨a, b, h0, h1, h2, h3, h4, h5, h6⟩
      have : ¬ (a = i ∧ b = j) := by
        rintro ⟨rfl, rfl⟩
        exact e h6.symm
      exact ⟨a, b, by omega, h1, h2, h3, h4, h5, h6⟩

theorem both_end {ap : Bool} {L R : TS} {j : Nat} {T : TS} (h : Both ap L R 256 j T) : ∀ x, x < 256 → T x = bothT ap L R x := by
  intro x hx
  rw [Bool.eq_iff_iff, h x hx, bothT_iff]
  constructor
  · rintro ⟨a, b, h0, h1⟩
    exact ⟨a, b, h1⟩
  · rintro ⟨a, b, h1, h2, h3⟩
    exact ⟨a, b, .inl h1, h1, h2, h3⟩

/-- The first principals of a set, each alone. -/
def oneTo (s : Int) (k : Nat) : TS := fun x => (List.range k).any fun p => (x == 2 ^ p) && hasI s ((p : Int) + 1)
theorem oneTo_next (s : Int) (k : Nat) : oneTo s (k + 1) = if hasI s ((k : Int) + 1) = true then putT (oneTo s k) (2 ^ k) else oneTo s k := by
  funext x
  have e0 : oneTo s (k + 1) x = (oneTo s k x || ((x == 2 ^ k) && hasI s ((k : Int) + 1))) := by
    unfold oneTo
    rw [List.range_succ, List.any_append]
    simp only [List.any_cons, List.any_nil, Bool.or_false]
  rw [e0]
  cases h : hasI s ((k : Int) + 1)
  · rw [Bool.and_false, Bool.or_false, if_neg (by simp)]
  · rw [Bool.and_true, if_pos rfl]
    unfold putT
    by_cases e : x = 2 ^ k
    · rw [if_pos e, e]; simp
    · rw [if_neg e, show (x == 2 ^ k) = false by simpa using e, Bool.or_false]

/-- The 256 cells. -/
def arrT (T : TS) : Array Value := ((List.range 256).map fun i => Value.bool (T i)).toArray

theorem arrT_size (T : TS) : (arrT T).size = 256 := by simp [arrT]
theorem arrT_at (T : TS) {i : Nat} (h : i < 256) : (arrT T)[i]? = some (.bool (T i)) := by simp [arrT, h]
theorem arrT_ext {T U : TS} (h : ∀ x, x < 256 → T x = U x) : arrT T = arrT U := by
  unfold arrT
  congr 1
  apply List.map_congr_left
  intro x hx
  rw [h x (List.mem_range.1 hx)]
theorem arrT_put (T : TS) {i : Nat} (h : i < 256) : (arrT T).setIfInBounds i (.bool true) = arrT (putT T i) := by
  apply Array.ext_getElem?
  intro j
  rw [Array.getElem?_setIfInBounds]
  by_cases hj : j < 256
  · by_cases e : i = j
    · subst e
      rw [if_pos rfl, if_pos (by rw [arrT_size]; exact h), arrT_at _ h]; simp [putT]
    · rw [if_neg e, arrT_at _ hj, arrT_at _ hj]; simp [putT, show ¬ j = i from fun q => e q.symm]
  · rw [if_neg (by omega), Array.getElem?_eq_none (by rw [arrT_size]; omega), Array.getElem?_eq_none (by rw [arrT_size]; omega)]
theorem arrT_cells (T : TS) : (arrT T).all (·.oneCell') = true := by
  rw [Array.all_eq_true']
  intro v hv
  simp [arrT] at hv
  obtain ⟨i, _, rfl⟩ := hv
  rfl

/-- What a part tells, out of what the parts ahead tell. -/
def tellOne (f : RoI → Int) (ts : List TS) (p : PartI) : TS := if p.k = 1 then oneT (f (p.ro, p.rn)) else bothT (decide (p.k = 3)) (ts[p.l.toNat]?.getD noT) (ts[p.r.toNat]?.getD noT)
def tellsTo (f : RoI → Int) (zs : List PartI) : Nat → List TS
  | 0 => []
  | k + 1 => match zs[k]? with
    | none => tellsTo f zs k
    | some p => tellsTo f zs k ++ [tellOne f (tellsTo f zs k) p]
theorem tellsTo_next {zs : List PartI} {k : Nat} {p : PartI} (h : zs[k]? = some p) (f : RoI → Int) : tellsTo f zs (k + 1) = tellsTo f zs k ++ [tellOne f (tellsTo f zs k) p] := by
  simp [tellsTo, h]
theorem tellsTo_len (f : RoI → Int) (zs : List PartI) : ∀ k, k ≤ zs.length → (tellsTo f zs k).length = k
  | 0, _ => rfl
  | k + 1, h => by
    rw [tellsTo_next (List.getElem?_eq_getElem (show k < zs.length by omega))]
    simp [tellsTo_len f zs k (by omega)]
/-- What the last part tells. -/
def tellsL (f : RoI → Int) (zs : List PartI) : TS := (tellsTo f zs zs.length)[zs.length - 1]?.getD noT

/-- The sets that are told, rising. -/
def setsTo (T : TS) (k : Nat) : List Int := ((List.range k).filter T).map (fun n : Nat => (n : Int))
def setsL (T : TS) : List Int := setsTo T 256
theorem setsTo_next (T : TS) (k : Nat) : setsTo T (k + 1) = if T k = true then setsTo T k ++ [(k : Int)] else setsTo T k := by
  unfold setsTo
  rw [List.range_succ, List.filter_append, List.map_append]
  cases h : T k <;> simp [h]
theorem setsTo_len (T : TS) (k : Nat) : (setsTo T k).length ≤ k := by
  unfold setsTo
  rw [List.length_map]
  have := List.length_filter_le T (List.range k)
  simpa using this

/-- How many a set has. -/
def pcN (x : Nat) : Nat := (listTo (x : Int) 8).length
theorem pc_le : ∀ n : Fin 256, pcN n.val ≤ 8 := by decide +kernel
def IsLeast (T : TS) (x : Nat) : Prop := x < 256 ∧ T x = true ∧ ∀ y, y < 256 → T y = true → pcN x < pcN y ∨ (pcN x = pcN y ∧ x ≤ y)
theorem least_unique {T : TS} {x y : Nat} (h : IsLeast T x) (g : IsLeast T y) : x = y := by
  have h1 := h.2.2 y g.1 g.2.1
  have h2 := g.2.2 x h.1 h.2.1
  omega

end Go.Proofs.YtnfolmjdicfobaaGreatDoor

namespace Go.Proofs.YtnfolmjdicfobaaGreatDoor
open Go.RowKit
set_option linter.unusedVariables false
set_option linter.unusedSimpArgs false

theorem one_zero (s : Int) : oneT s 0 = false := by
  unfold oneT
  rw [List.any_eq_false]
  intro p hp
  have : (0 == 2 ^ p) = false := by
    have h : 0 < 2 ^ p := Nat.two_pow_pos p
    simp only [beq_eq_false_iff_ne, ne_eq]
    omega
  simp [this]

theorem both_zero {ap : Bool} {L R : TS} (h : L 0 = false) : bothT ap L R 0 = false := by
  cases q : bothT ap L R 0
  · rfl
  · obtain ⟨a, b, _, _, hL, _, _, hab⟩ := bothT_iff.1 q
    have : a = 0 := (Nat.or_eq_zero_iff.1 hab).1
    rw [this, h] at hL
    cases hL

theorem getD_zero {ts : List TS} (h : ∀ T ∈ ts, T 0 = false) (i : Nat) : (ts[i]?.getD noT) 0 = false := by
  cases q : ts[i]? with
  | none => rfl
  | some T => exact h T (List.mem_of_getElem? q)

theorem tells_zero (f : RoI → Int) (zs : List PartI) : ∀ k, ∀ T ∈ tellsTo f zs k, T 0 = false
  | 0, T, h => by simp [tellsTo] at h
  | k + 1, T, h => by
    have ih := tells_zero f zs k
    unfold tellsTo at h
    split at h
    · exact ih T h
    · rcases List.mem_append.1 h with h | h
      · exact ih T h
      · rw [List.mem_singleton.1 h]
        unfold tellOne
        split
        · exact one_zero _
        · exact both_zero (getD_zero ih _)

theorem tellsL_zero (f : RoI → Int) (zs : List PartI) : tellsL f zs 0 = false := getD_zero (tells_zero f zs _) _

theorem pc_pos : ∀ n : Fin 256, n.val ≠ 0 → 0 < pcN n.val := by decide +kernel

/-- What the law asks of a least set. -/
theorem least_law {f : RoI → Int} {zs : List PartI} {x : Nat} (h : IsLeast (tellsL f zs) x) : 0 < pcN x ∧ ∀ i, i < 256 → pcN i < pcN x → tellsL f zs i = false := by
  obtain ⟨hx, hT, hl⟩ := h
  refine ⟨pc_pos ⟨x, hx⟩ (fun e => ?_), fun i hi hlt => ?_⟩
  · simp only at e
    rw [e, tellsL_zero] at hT
    cases hT
  · cases q : tellsL f zs i
    · rfl
    · have := hl i hi q
      omega

end Go.Proofs.YtnfolmjdicfobaaGreatDoor
