/-
  CONTRACTS: impl's classLines.
  Conditions: each contract bears its own.
  CONTRACT: the text of a configuration without a fault, by the code (epochConfig.text).
  Conditions: each contract bears its own.
  CONTRACT: the text of a configuration without a fault, by the code (epochConfig.text); impl.ConfigText.
  Conditions: each contract bears its own.
  CONTRACTS: impl.ConfigText.
  Conditions: each contract bears its own.
-/
import Derived.Test.YtaeigimgobilaaaGreatDoorPz11
import Derived.Laws.AppendOwnNone
import Derived.Test.YtaeigimgobilaaaGreatDoorGr7
import Derived.Deep.RegionHeld3
import Derived.Deep.CutBlock

namespace Go.Proofs.YtaeigimgobilaaaGreatDoor
open Go.RowKit Go.Shelf
set_option linter.unusedVariables false
set_option linter.unusedSimpArgs false
attribute [-go_sem] run_string_add_if

theorem Tryz.infoS9 : (Tryz.prog.info? 9).map (fun i => (i.zero, i.size, i.bytes)) = some (some (.string ⟨#[]⟩), 1, 16) := by kernel_rfl

theorem classLn_size (x : Int) (h0 : 0 ≤ x) (h1 : x ≤ 15) : (classLn x).size ≤ 8 := by
  have := decT_size x h0 h1
  unfold classLn
  rw [size_cat]
  show 6 + _ ≤ 8
  omega

set_option maxRecDepth 20000 in
set_option maxHeartbeats 2000000 in
theorem classLines_c (a : Option Addr) (n cap : Nat) (zs : List Int) (w : World) (hn : n ≤ 4) (h : IntIn w a n zs) (hok : ∀ x ∈ zs, inR x 0 15 = true) :
    Calls Tryz.prog 51 #[.slice a n cap] w fun e w' => ∃ v, e = .returned v ∧ OwnT w' w.heap.size v (zs.map classLn) ∧ (n = 0 → v = .slice none 0 0) ∧ Below w.heap.size w w' := by
  have H : Hid (IntIn w a n zs) := h
  have HZ : Hid (zs.length = n) := h.1
  have HOK : Hid (∀ x ∈ zs, inR x 0 15 = true) := hok
  obtain ⟨i0, hi, hz0, hz1', hz2⟩ := info_parts Tryz.infoS9
  have hn4 : (n : Int) ≤ 4 := by omega
  clear h hok
  go_enter Tryz.func51, Tryz.ntmps51
  go_wp2_with fail
  go_loopw [3, 8] (fun v i wr => ∃ k : Nat, k ≤ n ∧ i = .int .i64 (k : Int) ∧ Hid (OwnT wr w.heap.size v ((zs.take k).map classLn) ∧ (k = 0 → v = .slice none 0 0) ∧ Below w.heap.size w wr)) (fun _ i _ => n - (intOf i).toNat)
  case atStart => exact ⟨0, by omega, rfl, World.ownsRow_nil _ _ _ _, fun _ => rfl, Below.refl _ _⟩
  case round =>
    obtain ⟨k, hk, rfl, HK⟩ := hrel
    by_cases hlt : k < n
    · have hlt' : (k : Int) < (n : Int) := by omega
      obtain ⟨b, off, x, rfl, hs, hx, hbl⟩ := H.out.at hlt
      obtain ⟨x0, x1⟩ := (inR_iff _ _ _).1 (HOK.out x (List.mem_of_getElem? hs))
      have hx' := (HK.out.2.2.cell (p := ⟨b, off + k, none⟩) hbl).trans hx
      have hbl' : b < wr.heap.size := by have := HK.out.2.2.size; omega
      obtain ⟨t, ht⟩ : ∃ t, classLn x = t := ⟨_, rfl⟩
      have HNX : Hid ((zs.take (k + 1)).map classLn = (zs.take k).map classLn ++ [t]) := by
        show (zs.take (k + 1)).map classLn = (zs.take k).map classLn ++ [t]
        rw [List.take_add_one, hs, ← ht]
        simp
      have hsum : ∀ w', (Op.stringOp .add ⟨#[99, 108, 97, 115, 115, 32]⟩ (decT x)).run Tryz.prog w' = .ok (.string t) w' := fun w' => by rw [← ht]; exact run_string_add_sum w' _ _ (by rw [show (ByteArray.mk #[99, 108, 97, 115, 115, 32]).size = 6 from rfl]; have := decT_size x x0 x1; omega)
      have HN : Hid (∀ w', Calls Tryz.prog 48 #[.int .i64 x] w' fun e w'' => e = .returned (.string (decT x)) ∧ w' = w'') := numD_c x x0 x1
      obtain ⟨ts, hts⟩ : ∃ ts, (zs.take k).map classLn = ts := ⟨_, rfl⟩
      have hkl : ts.length = k := by have := HZ.out; rw [← hts]; simp; omega
      have HV : Hid (OwnT wr w.heap.size _ ts ∧ Below w.heap.size w wr) := ⟨by rw [← hts]; exact HK.out.1, HK.out.2.2⟩
      rw [hts] at HNX
      clear hs hx ht HK hts
      generalize decT x = D at hsum HN
      go_wp2_with (first
        | (go_at_call 48; refine (HN.out _).mono ?_; rintro e w' ⟨rfl, rfl⟩)
        | (at_builtin; refine wpList_append_own _ rfl _ _ 90 rfl w.heap.size 9 i0 (.string ⟨#[]⟩) 1 16 Tryz.underlying90 hi hz0 hz1' hz2 rfl (by decide) _ _ _ rfl (HV.out.1.alloc _) ⟨wr.heap.size, 0, none⟩ 1 1 [.string t] rfl rfl ?c1 ?c2 ?c3 ?c4 ?c5 ?_)
        | fail)
      case c1 =>
        intro j u hj
        match j, hj with
        | 0, hj => simp at hj; subst hj; simp [Addr.add]
      case c2 => intro u hu; simp at hu; subst hu; rfl
      case c3 => rw [hkl]; unfold maxLen; omega
      case c4 => rw [hkl]; omega
      case c5 => have := HV.out.2.size; simp; omega
      intro v' w9 hown' hgrow hnil
      have HR : Hid (OwnT w9 w.heap.size v' ((zs.take (k + 1)).map classLn) ∧ (k + 1 = 0 → v' = .slice none 0 0) ∧ Below w.heap.size w w9) := by
        rw [HNX.out]
        refine ⟨by unfold OwnT; simpa [hkl] using hown', fun q => by omega, (HV.out.2.alloc HV.out.2.size _).grown hgrow (by have := HV.out.2.size; simp; omega) (fun j hj => (HV.out.1.lt j hj).1)⟩
      clear hnil hown' hgrow
      go_wp2_with fail
      exact ⟨⟨k + 1, by omega, by go_num, HR⟩, by simp [intOf]; omega⟩
    · have hke : k = n := by omega
      subst hke
      rw [List.take_of_length_le (by rw [HZ.out]; exact Nat.le_refl _)] at HK
      go_wp2_with fail
      go_ret
      exact ⟨_, rfl, HK.out.1, HK.out.2.1, HK.out.2.2⟩

end Go.Proofs.YtaeigimgobilaaaGreatDoor

namespace Go.Proofs.YtaeigimgobilaaaGreatDoor
open Go.RowKit Go.Shelf
set_option linter.unusedVariables false
set_option linter.unusedSimpArgs false
attribute [-go_sem] run_string_add_if

theorem fldT1C (x : Int) (y : ByteArray) (w : World) : (Instr.field 33 (.agg #[.int .i64 x, .string y]) 1).run Tryz.prog w = .ok (.string y) w := by kernel_rfl

attribute [local go_sem ↓] fldT1C

theorem polC_n16 {zs : List RuleI} {n : Nat} (h : zs.length = n) (hc : polCode zs = 0) : n ≤ 16 := by
  have := (pol_ok hc).1
  omega

theorem polC_codes {zs : List RuleI} (h : polCode zs = 0) : ∀ z ∈ zs, ruleCode z = 0 := by
  unfold polCode at h
  split at h
  · cases h
  · intro z hz
    obtain ⟨j, hj⟩ := List.mem_iff_getElem?.1 hz
    have hl : j < zs.length := by
      by_cases q : j < zs.length
      · exact q
      · rw [List.getElem?_eq_none (by omega)] at hj; cases hj
    exact polTo_all _ h j z hl hj

/-- The code and the text of a form's parts. -/
def ftC (ps : List PartI) : Int := if 200 < (textAt ps (ps.length - 1)).size then 2 else 0
def ftT (ps : List PartI) : ByteArray := if 200 < (textAt ps (ps.length - 1)).size then noTx else textAt ps (ps.length - 1)

theorem ftT_size (ps : List PartI) : (ftT ps).size ≤ 200 := by
  unfold ftT
  split
  · exact (Nat.zero_le _ : (0 : Nat) ≤ 200)
  · omega

theorem implFt_c (a : Option Addr) (n cap : Nat) (ps : List PartI) (w : World) (h : PartsIn w a n ps) (hc : ptCode ps = 0) : GivesT 50 a n cap (ftC ps) (ftT ps) w := by
  have hl := h.1
  refine implPT_ok a n cap ps _ w h hc rfl (ftC ps) (ftT ps) ⟨fun q => ?_, fun q => ?_⟩
  · rw [← hl] at q
    exact ⟨by unfold ftC; rw [if_pos q], by unfold ftT; rw [if_pos q]⟩
  · rw [← hl] at q ⊢
    exact ⟨by unfold ftC; rw [if_neg q], by unfold ftT; rw [if_neg q]⟩

theorem specFt_c (a : Option Addr) (n cap : Nat) (ps : List PartI) (w : World) (h : PartsIn w a n ps) (hc : ptCode ps = 0) : GivesT 29 a n cap (ftC ps) (ftT ps) w := by
  have hl := h.1
  refine specPT_ok a n cap ps _ w h hc rfl (last_text a n cap ps w h hc) (ftC ps) (ftT ps) ⟨fun q => ?_, fun q => ?_⟩
  · rw [← hl] at q
    exact ⟨by unfold ftC; rw [if_pos q], by unfold ftT; rw [if_pos q]⟩
  · rw [← hl] at q ⊢
    exact ⟨by unfold ftC; rw [if_neg q], by unfold ftT; rw [if_neg q]⟩

def fmLn (ps : List PartI) : ByteArray := formLn (ftT ps)

/-- The lines ahead of the classes. -/
def lines1 (e f : Int) (zs : List RuleI) : List ByteArray := headT e f :: zs.map ruleLn
def lines2 (e f : Int) (zs : List RuleI) (pss : List (List PartI)) : List ByteArray := lines1 e f zs ++ pss.map fmLn
def lines3 (e f : Int) (zs : List RuleI) (pss : List (List PartI)) (cs : List Int) : List ByteArray := lines2 e f zs pss ++ cs.map classLn

/-- What ConfigText tells where there is no fault. -/
def ctCode (e f : Int) (zs : List RuleI) (pss : List (List PartI)) (cs : List Int) : Int := if pss.all (fun ps => decide (ftC ps = 0)) = false then 2 else if 1500 < (accT (lines3 e f zs pss cs)).size then 2 else 0
def ctText (e f : Int) (zs : List RuleI) (pss : List (List PartI)) (cs : List Int) : ByteArray := if ctCode e f zs pss cs = 0 then accT (lines3 e f zs pss cs) else noTx

theorem ct_bad {e f : Int} {zs : List RuleI} {pss : List (List PartI)} {cs : List Int} {k : Nat} {ps : List PartI} (h : pss[k]? = some ps) (hb : ftC ps ≠ 0) : ctCode e f zs pss cs = 2 ∧ ctText e f zs pss cs = noTx ∧ ftC ps = 2 ∧ ftT ps = noTx := by
  have e1 : pss.all (fun ps => decide (ftC ps = 0)) = false := by
    rw [List.all_eq_false]
    exact ⟨ps, List.mem_of_getElem? h, by simpa using hb⟩
  have e2 : ctCode e f zs pss cs = 2 := by unfold ctCode; rw [if_pos e1]
  refine ⟨e2, by unfold ctText; rw [if_neg (by rw [e2]; decide)], ?_⟩
  unfold ftC at hb ⊢
  unfold ftT
  split at hb
  · rename_i q
    rw [if_pos q, if_pos q]
    exact ⟨rfl, rfl⟩
  · exact absurd rfl hb

theorem ct_ok {e f : Int} {zs : List RuleI} {pss : List (List PartI)} {cs : List Int} (h : ∀ (k : Nat) (ps : List PartI), pss[k]? = some ps → ftC ps = 0) :
    (1500 < (accT (lines3 e f zs pss cs)).size → ctCode e f zs pss cs = 2 ∧ ctText e f zs pss cs = noTx) ∧ (¬ 1500 < (accT (lines3 e f zs pss cs)).size → ctCode e f zs pss cs = 0 ∧ ctText e f zs pss cs = accT (lines3 e f zs pss cs)) := by
  have e1 : pss.all (fun ps => decide (ftC ps = 0)) = true := by
    rw [List.all_eq_true]
    intro ps hp
    obtain ⟨k, hk⟩ := List.mem_iff_getElem?.1 hp
    exact decide_eq_true (h k ps hk)
  refine ⟨fun q => ?_, fun q => ?_⟩
  · have e2 : ctCode e f zs pss cs = 2 := by unfold ctCode; rw [if_neg (by rw [e1]; decide), if_pos q]
    exact ⟨e2, by unfold ctText; rw [if_neg (by rw [e2]; decide)]⟩
  · have e2 : ctCode e f zs pss cs = 0 := by unfold ctCode; rw [if_neg (by rw [e1]; decide), if_neg q]
    exact ⟨e2, by unfold ctText; rw [if_pos e2]⟩

theorem headT_size (e f : Int) (e0 : 0 ≤ e) (e1 : e ≤ 15) (f0 : 0 ≤ f) (f1 : f ≤ 15) : (headT e f).size ≤ 11 := by
  have h1 := decT_size e e0 e1
  have h2 := decT_size f f0 f1
  unfold headT
  rw [size_cat, size_cat, size_cat]
  show 6 + _ + 1 + _ ≤ 11
  omega

theorem lines_small {e f : Int} {zs : List RuleI} {pss : List (List PartI)} {cs : List Int} (he : 0 ≤ e ∧ e ≤ 15) (hf : 0 ≤ f ∧ f ≤ 15) (hc : ∀ x ∈ cs, inR x 0 15 = true) : ∀ l ∈ lines3 e f zs pss cs, l.size ≤ 250 := by
  intro l hl
  unfold lines3 lines2 lines1 at hl
  rcases List.mem_append.1 hl with hl | hl
  · rcases List.mem_append.1 hl with hl | hl
    · rcases List.mem_cons.1 hl with rfl | hl
      · have := headT_size e f he.1 he.2 hf.1 hf.2; omega
      · obtain ⟨r, _, rfl⟩ := List.mem_map.1 hl
        have := line_size r
        unfold ruleLn
        rw [size_cat]
        show 5 + _ ≤ 250
        omega
    · obtain ⟨p, _, rfl⟩ := List.mem_map.1 hl
      have := ftT_size p
      unfold fmLn formLn
      rw [size_cat]
      show 5 + _ ≤ 250
      omega
  · obtain ⟨x, hx, rfl⟩ := List.mem_map.1 hl
    obtain ⟨x0, x1⟩ := (inR_iff _ _ _).1 (hc x hx)
    have := classLn_size x x0 x1
    omega

theorem OwnT.next {w w9 : World} {B : Nat} {v v' : Value} {ts : List ByteArray} {t : ByteArray} {n : Nat} (hl : ts.length = n) (h : w9.ownsRow B 9 1 v' (n + 1) (ts.map Value.string ++ [.string t])) : OwnT w9 B v' (ts ++ [t]) := by
  unfold OwnT
  rw [List.length_append, hl, List.map_append]
  exact h

end Go.Proofs.YtaeigimgobilaaaGreatDoor

namespace Go.Proofs.YtaeigimgobilaaaGreatDoor
open Go.RowKit Go.Shelf
set_option linter.unusedVariables false
set_option linter.unusedSimpArgs false
attribute [-go_sem] run_string_add_if
attribute [local go_sem ↓] fldT1C

abbrev KX (W W' : World) : Prop := (∀ b o, b < W.heap.size → W'.cell? ⟨b, o, none⟩ = W.cell? ⟨b, o, none⟩) ∧ Below W.heap.size W W'

/-- Lines in memory, behind a world whose boxes stand. -/
structure TX (W : World) (v : Value) (ts : List ByteArray) (wr : World) : Prop where
  ow : OwnT wr W.heap.size v ts
  bl : Below W.heap.size W wr

theorem TX.below {W : World} {v : Value} {ts : List ByteArray} {wr wr' : World} (h : TX W v ts wr) (hb : Below wr.heap.size wr wr') : TX W v ts wr' := ⟨h.ow.below hb, h.bl.trans (hb.mono h.bl.size)⟩

theorem TX.next {W : World} {v v' : Value} {ts : List ByteArray} {t : ByteArray} {n : Nat} {wr w9 : World} {o : Obj} (H : TX W v ts wr) (hl : ts.length = n) (h : w9.ownsRow W.heap.size 9 1 v' (n + 1) (ts.map Value.string ++ [.string t])) (hg : (wr.alloc o).grownBy w9 v.ownBlock) : TX W v' (ts ++ [t]) w9 :=
  ⟨OwnT.next (w := wr) (v := v) hl h, (H.bl.alloc H.bl.size _).grown hg (by have := H.bl.size; simp; omega) (fun j hj => (H.ow.lt j hj).1)⟩

/-- Joining lines. -/
theorem joinL_c (a : Option Addr) (cap B : Nat) (ls : List ByteArray) (W : World) (h0 : ls ≠ []) (hs : (accT ls).size ≤ 100000) (hl : ls.length ≤ 1000) (hrow : OwnT W B (.slice a ls.length cap) ls) :
    Calls Tryz.prog 52 #[.slice a ls.length cap, .string ⟨#[10]⟩] W fun e w' => e = .returned (.string ⟨(Lib.join (ls.map (·.data.toList)) [10]).toArray⟩) ∧ Below W.heap.size W w' := by
  have hj := join_size ls h0
  obtain ⟨g, rfl, hcap⟩ : ∃ g, a = some ⟨g, 0, none⟩ ∧ ls.length ≤ cap := by
    rcases hrow.2 with ⟨h', h1⟩ | ⟨g, cp, cur, h', _, _, hle, _⟩
    · have : ls.length = 0 := by simpa using h1
      exact absurd (List.length_eq_zero_iff.1 this) h0
    · simp only [Value.slice.injEq] at h'
      exact ⟨g, h'.1, by rw [h'.2.2]; exact hle⟩
  have hcells : ∀ (j : Nat) (x : ByteArray), ls[j]? = some x → W.cell? ⟨g, 0 + j, none⟩ = some (.string x) := by
    intro j x hx
    have hj' : j < ls.length := (List.getElem?_eq_some_iff.1 hx).1
    rw [Nat.zero_add, hrow.cellAt j (by omega), List.getElem?_map, hx]
    rfl
  exact Tryz.strings_Join g 0 cap ls ⟨#[10]⟩ W hcells (hrow.lt g rfl).2 (by omega) hcap (by show (Lib.join (ls.map (·.data.toList)) [10]).length ≤ _; omega)

set_option maxRecDepth 100000 in
set_option maxHeartbeats 8000000 in
theorem epochText_c (c : ConfI) (w : World) (hok : cfCode c.e c.f c.zs (partsL c.fs) c.cs = 0) (h : ConfIn w c) (k : Int) (t0 : ByteArray) (hk : ctCode c.e c.f c.zs (partsL c.fs) c.cs = k) (ht : ctText c.e c.f c.zs (partsL c.fs) c.cs = t0) :
    Calls Tryz.prog 25 #[.agg #[.slice c.ca c.cn c.cc, .int .i64 c.e, .int .i64 c.f, .slice c.ra c.rn c.rc, .slice c.fa c.fn c.fc]] w fun e w' => e = .returned (.agg #[.int .i64 k, .string t0]) ∧ Below w.heap.size w w' := by
  obtain ⟨he, hf, hp, hfm, hcl⟩ := cf_zero hok
  obtain ⟨e0, e1⟩ := (inR_iff _ _ _).1 he
  obtain ⟨f0, f1⟩ := (inR_iff _ _ _).1 hf
  have hrn : c.rn ≤ 16 := polC_n16 h.rules.1 hp
  have hfn : c.fn ≤ 4 := by have := (fm_zero hfm).1; rw [partsL_len, h.forms.1] at this; exact this
  have hcn : c.cn ≤ 4 := by have := (cl_ok hcl).1; rw [h.classes.1] at this; exact this
  have HRC : Hid (∀ z ∈ c.zs, ruleCode z = 0) := polC_codes hp
  have HPT : Hid (∀ (k : Nat) (x : List PartI), (partsL c.fs)[k]? = some x → ptCode x = 0) := (fm_zero hfm).2
  have HCK : Hid (∀ x ∈ c.cs, inR x 0 15 = true) := (cl_ok hcl).2
  have HSM : Hid (∀ l ∈ lines3 c.e c.f c.zs (partsL c.fs) c.cs, l.size ≤ 250) := lines_small ⟨by omega, by omega⟩ ⟨by omega, by omega⟩ (cl_ok hcl).2
  have HK : Hid (ctCode c.e c.f c.zs (partsL c.fs) c.cs = k ∧ ctText c.e c.f c.zs (partsL c.fs) c.cs = t0) := ⟨hk, ht⟩
  have H : Hid (ConfIn w c) := h
  obtain ⟨i0, hi, hz0, hz1', hz2⟩ := info_parts Tryz.infoS9
  clear h hok he hf hp hfm hcl hk ht
  obtain ⟨W, hW⟩ : ∃ W, W = (w.alloc (.cells #[.slice c.ca c.cn c.cc, .int .i64 c.e, .int .i64 c.f, .slice c.ra c.rn c.rc, .slice c.fa c.fn c.fc] 58)).alloc (.cells #[.int .i64 0, .string ⟨#[]⟩] 33) := ⟨_, rfl⟩
  have hs : W.heap.size = w.heap.size + 2 := by rw [hW]; simp
  have B0 : Below w.heap.size w W := by rw [hW]; exact ((Below.refl _ _).alloc (Nat.le_refl _) _).alloc (by simp) _
  have x0 : W.cell? ⟨w.heap.size, 0, none⟩ = some (.slice c.ca c.cn c.cc) := by rw [hW]; go_cell
  have x1 : W.cell? ⟨w.heap.size, 1, none⟩ = some (.int .i64 c.e) := by rw [hW]; go_cell
  have x2 : W.cell? ⟨w.heap.size, 2, none⟩ = some (.int .i64 c.f) := by rw [hW]; go_cell
  have x3 : W.cell? ⟨w.heap.size, 3, none⟩ = some (.slice c.ra c.rn c.rc) := by rw [hW]; go_cell
  have x4 : W.cell? ⟨w.heap.size, 4, none⟩ = some (.slice c.fa c.fn c.fc) := by rw [hW]; go_cell
  have y0 : W.cell? ⟨w.heap.size + 1, 0, none⟩ = some (.int .i64 0) := by rw [hW]; go_cell
  have y1 : W.cell? ⟨w.heap.size + 1, 1, none⟩ = some (.string ⟨#[]⟩) := by rw [hW]; go_cell
  have z0 : W.frozen? ⟨w.heap.size + 1, 0, none⟩ = false := by rw [hW]; simp [go_sem]
  have z1 : W.frozen? ⟨w.heap.size + 1, 1, none⟩ = false := by rw [hW]; simp [go_sem]
  have HX : Hid ((W.cell? ⟨w.heap.size, 0, none⟩ = some (.slice c.ca c.cn c.cc) ∧ W.cell? ⟨w.heap.size, 3, none⟩ = some (.slice c.ra c.rn c.rc) ∧ W.cell? ⟨w.heap.size, 4, none⟩ = some (.slice c.fa c.fn c.fc)) ∧ (W.cell? ⟨w.heap.size + 1, 0, none⟩ = some (.int .i64 0) ∧ W.cell? ⟨w.heap.size + 1, 1, none⟩ = some (.string ⟨#[]⟩) ∧ W.frozen? ⟨w.heap.size + 1, 0, none⟩ = false ∧ W.frozen? ⟨w.heap.size + 1, 1, none⟩ = false)) := ⟨⟨x0, x3, x4⟩, y0, y1, z0, z1⟩
  have HSW : Hid (W.heap.size = w.heap.size + 2) := hs
  have hD1 := decT_size c.e (by omega) (by omega)
  have hD2 := decT_size c.f (by omega) (by omega)
  have HN : Hid (∀ x : Int, (x = c.e ∨ x = c.f) → ∀ w', Calls Tryz.prog 48 #[.int .i64 x] w' fun e w'' => e = .returned (.string (decT x)) ∧ w' = w'') := fun x q w' => numD_c x (by omega) (by omega) w'
  obtain ⟨T, hT⟩ : ∃ T, headT c.e c.f = T := ⟨_, rfl⟩
  obtain ⟨A1, hA1⟩ : ∃ A1, (⟨#[101, 112, 111, 99, 104, 32]⟩ : ByteArray) ++ decT c.e = A1 := ⟨_, rfl⟩
  obtain ⟨A2, hA2⟩ : ∃ A2, A1 ++ ⟨#[32]⟩ = A2 := ⟨_, rfl⟩
  have hA3 : A2 ++ decT c.f = T := by rw [← hT, ← hA2, ← hA1]; rfl
  have s1 : A1.size ≤ 8 := by rw [← hA1, size_cat]; show 6 + _ ≤ 8; omega
  have s2 : A2.size ≤ 9 := by rw [← hA2, size_cat]; show _ + 1 ≤ 9; omega
  have q1 : ∀ w', (Op.stringOp .add ⟨#[101, 112, 111, 99, 104, 32]⟩ (decT c.e)).run Tryz.prog w' = .ok (.string A1) w' := fun w' => by rw [← hA1]; exact run_string_add_sum w' _ _ (by rw [show (ByteArray.mk #[101, 112, 111, 99, 104, 32]).size = 6 from rfl]; omega)
  have q2 : ∀ w', (Op.stringOp .add A1 ⟨#[32]⟩).run Tryz.prog w' = .ok (.string A2) w' := fun w' => by rw [← hA2]; exact run_string_add_sum w' _ _ (by rw [show (ByteArray.mk #[32]).size = 1 from rfl]; omega)
  have q3 : ∀ w', (Op.stringOp .add A2 (decT c.f)).run Tryz.prog w' = .ok (.string T) w' := fun w' => by rw [← hA3]; exact run_string_add_sum w' _ _ (by omega)
  have HH : Hid (headT c.e c.f = T) := hT
  clear hT hA1 hA2 hA3 hD1 hD2
  go_enter Tryz.func25, Tryz.ntmps25
  go_wp2
  rw [← hW]
  clear hW x0 x3 x4 y0 y1 z0 z1
  go_region_held3 (fun w' => KX W w') (first | exact hS | exact kp_drew _ | exact kpC_new (by assumption) _)
    (first | (go_at_call 48; refine (HN.out _ (by first | exact .inl rfl | exact .inr rfl) _).mono ?_; rintro e w' ⟨rfl, rfl⟩))
  have T0 : Hid (TX W (.slice (some ⟨w.heap.size + 2, 0, none⟩) 1 1) (headT c.e c.f :: (c.zs.take 0).map ruleLn) (W.alloc (.cells #[.string T] 9)).drew) := by
    rw [HH.out]
    have h1 : TX W (.slice (some ⟨W.heap.size, 0, none⟩) 1 1) [T] (W.alloc (.cells #[.string T] 9)) := ⟨World.ownsRow_lit (base := W.heap.size) (e := 9) (size := 1) W #[.string T] 1 (Nat.le_refl _) (by unfold maxLen; omega) rfl, (Below.refl _ _).alloc (Nat.le_refl _) _⟩
    rw [HSW.out] at h1
    exact h1.below (Below.refl _ _).drew
  have x3' := (T0.out.bl.cell (p := ⟨w.heap.size, 3, none⟩) (by show w.heap.size < W.heap.size; have := HSW.out; omega)).trans HX.out.1.2.1
  obtain ⟨V0, hV0⟩ : ∃ V0, V0 = (W.alloc (.cells #[.string T] 9)).drew := ⟨_, rfl⟩
  rw [← hV0] at T0 x3' ⊢
  have hlV : w.heap.size < V0.heap.size := by have := HSW.out; have := T0.out.bl.size; omega
  obtain ⟨vv, hvv⟩ : ∃ vv, Value.slice (some ⟨w.heap.size + 2, 0, none⟩) 1 1 = vv := ⟨_, rfl⟩
  rw [hvv] at T0 ⊢
  clear hV0 hvv x1 x2 q1 q2 q3 HN s1 s2 hs
  have hrn' : (c.rn : Int) ≤ 16 := by omega
  go_wp2_with fail
  go_loopw [3, 23] (fun v i wr => ∃ k : Nat, k ≤ c.rn ∧ i = .int .i64 (k : Int) ∧ Hid (TX W v (headT c.e c.f :: (c.zs.take k).map ruleLn) wr)) (fun _ i _ => c.rn - (intOf i).toNat)
  case atStart => exact ⟨0, by omega, rfl, T0⟩
  case round =>
    obtain ⟨j, hj, rfl, TK⟩ := hrel
    clear T0 x3' hlV
    by_cases hlt : j < c.rn
    · have hlt' : (j : Int) < (c.rn : Int) := by omega
      obtain ⟨b, off, r, hra, hs', hr⟩ := H.out.rules.at hlt
      have hbW := B0.trans (TK.out.bl.mono (by have := HSW.out; omega))
      have hr' := hr.below hbW
      have hbl : b < wr.heap.size := World.block_lt_of_cell? wr ⟨b, _, none⟩ hr'.1
      have hrc : ruleCode r = 0 := HRC.out r (List.mem_of_getElem? hs')
      obtain ⟨t, ht⟩ : ∃ t, ruleLn r = t := ⟨_, rfl⟩
      obtain ⟨ts, hts⟩ : ∃ ts, headT c.e c.f :: (c.zs.take j).map ruleLn = ts := ⟨_, rfl⟩
      have hkl : ts.length = j + 1 := by have := H.out.rules.1; rw [← hts]; simp; omega
      have HNX : Hid (headT c.e c.f :: (c.zs.take (j + 1)).map ruleLn = ts ++ [t]) := by
        show headT c.e c.f :: (c.zs.take (j + 1)).map ruleLn = ts ++ [t]
        rw [List.take_add_one, hs', ← ht, ← hts]
        simp
      obtain ⟨D, hD⟩ : ∃ D, lineT r = D := ⟨_, rfl⟩
      have hDs : D.size ≤ 16 := by rw [← hD]; exact line_size r
      have hsum : ∀ w', (Op.stringOp .add ⟨#[114, 117, 108, 101, 32]⟩ D).run Tryz.prog w' = .ok (.string t) w' := fun w' => by rw [← ht, ← hD]; exact run_string_add_sum w' _ _ (by rw [show (ByteArray.mk #[114, 117, 108, 101, 32]).size = 5 from rfl, hD]; omega)
      have HRT : Hid (∀ w', Calls Tryz.prog 49 #[.agg #[.int .i64 r.k, .int .i64 r.ho, .int .i64 r.hn, .int .i64 r.w, .int .i64 r.oo, .int .i64 r.on, .int .i64 r.to, .int .i64 r.tn]] w' fun e w'' => e = .returned (.agg #[.int .i64 0, .string D]) ∧ Below w'.heap.size w' w'') := fun w' => by rw [← hD]; exact implRuleText_in r hrc w'
      rw [hts] at TK
      obtain ⟨c0, c1, c2, c3, c4, c5, c6, c7⟩ := hr'
      have HRA : Hid (c.ra = some ⟨b, off, none⟩) := hra
      rw [HRA.out]
      clear hs' hr hts ht hD hra hbW hrc
      have A1 : Below wr.heap.size wr (wr.alloc (.cells #[.int .i64 r.k, .int .i64 r.ho, .int .i64 r.hn, .int .i64 r.w, .int .i64 r.oo, .int .i64 r.on, .int .i64 r.to, .int .i64 r.tn] 68)) := (Below.refl _ _).alloc (Nat.le_refl _) _
      go_wp2_with fail
      refine (HRT.out _).mono ?_
      rintro e V ⟨rfl, hb2⟩
      have TV : Hid (TX W _ ts V) := (TK.out.below A1).below hb2
      clear A1 hb2 TK c0 c1 c2 c3 c4 c5 c6 c7
      go_wp2_with (first
        | (at_builtin; refine wpList_append_own _ rfl _ _ 90 rfl W.heap.size 9 i0 (.string ⟨#[]⟩) 1 16 Tryz.underlying90 hi hz0 hz1' hz2 rfl (by decide) _ _ _ rfl (TV.out.ow.alloc _) ⟨V.heap.size, 0, none⟩ 1 1 [.string t] rfl rfl ?c1 ?c2 ?c3 ?c4 ?c5 ?_)
        | fail)
      case c1 =>
        intro i u hj
        match i, hj with
        | 0, hj => simp at hj; subst hj; simp [Addr.add]
      case c2 => intro u hu; simp at hu; subst hu; rfl
      case c3 => rw [hkl]; unfold maxLen; omega
      case c4 => rw [hkl]; omega
      case c5 => have := TV.out.bl.size; simp; omega
      intro v' w9 hown' hgrow hnil
      have HR : Hid (TX W v' (headT c.e c.f :: (c.zs.take (j + 1)).map ruleLn) w9) := by
        rw [HNX.out]
        exact TV.out.next hkl (by simpa [hkl] using hown') hgrow
      clear hnil hown' hgrow
      go_wp2_with fail
      exact ⟨⟨j + 1, by omega, by go_num, HR⟩, by simp [intOf]; omega⟩
    · rw [List.take_of_length_le (by rw [H.out.rules.1]; omega)] at TK
      have TL : Hid (TX W _ (lines1 c.e c.f c.zs) wr) := TK
      have hlt' : ¬ ((j : Int) < (c.rn : Int)) := by omega
      have x4' := (TL.out.bl.cell (p := ⟨w.heap.size, 4, none⟩) (by show w.heap.size < W.heap.size; have := HSW.out; omega)).trans HX.out.1.2.2
      have hlr : w.heap.size < wr.heap.size := by have := HSW.out; have := TL.out.bl.size; omega
      have hl1 : Hid ((lines1 c.e c.f c.zs).length = c.rn + 1) := by show (lines1 c.e c.f c.zs).length = c.rn + 1; unfold lines1; have := H.out.rules.1; simp [this]
      clear TK HRC
      have hfn' : (c.fn : Int) ≤ 4 := by omega
      go_wp2_with fail
      go_loopw [3, 38] (fun v i wr => ∃ k : Nat, k ≤ c.fn ∧ i = .int .i64 (k : Int) ∧ Hid ((∀ (q : Nat) (ps : List PartI), q < k → (partsL c.fs)[q]? = some ps → ftC ps = 0) ∧ TX W v (lines1 c.e c.f c.zs ++ ((partsL c.fs).take k).map fmLn) wr)) (fun _ i _ => c.fn - (intOf i).toNat)
      case atStart => exact ⟨0, by omega, rfl, fun q ps hq => by omega, by simpa using TL.out⟩
      case round =>
        obtain ⟨m, hm, rfl, TM⟩ := hrel
        clear TL x4' hlr
        by_cases hlm : m < c.fn
        · have hlm' : (m : Int) < (c.fn : Int) := by omega
          obtain ⟨b, off, x, hfa, hs', hr⟩ := H.out.forms.at hlm
          have hbW := B0.trans (TM.out.2.bl.mono (by have := HSW.out; omega))
          have hr' := hr.below hbW
          have hbl : b < wr.heap.size := hr'.lt
          have c0 := hr'.1
          have hpc : ptCode x.ps = 0 := HPT.out m _ (partsL_at hs')
          have HPI : Hid (PartsIn wr x.a x.n x.ps) := hr'.2
          obtain ⟨kc, hkc⟩ : ∃ kc, ftC x.ps = kc := ⟨_, rfl⟩
          obtain ⟨tt, htt⟩ : ∃ tt, ftT x.ps = tt := ⟨_, rfl⟩
          have HPT1 : Hid (∀ w', Below wr.heap.size wr w' → Calls Tryz.prog 50 #[.slice x.a x.n x.cap] w' fun e w'' => e = .returned (.agg #[.int .i64 kc, .string tt]) ∧ Below w'.heap.size w' w'') := fun w' q => by rw [← hkc, ← htt]; exact implFt_c x.a x.n x.cap x.ps w' (HPI.out.below q) hpc
          have HFA : Hid (c.fa = some ⟨b, off, none⟩) := hfa
          have HXS : Hid ((partsL c.fs)[m]? = some x.ps) := partsL_at hs'
          rw [HFA.out]
          clear hs' hr hr' hfa hbW hpc
          have A1 : Below wr.heap.size wr (wr.alloc (.cells #[.slice x.a x.n x.cap] 42)) := (Below.refl _ _).alloc (Nat.le_refl _) _
          by_cases k0 : kc = 0
          · have kb : (kc != 0) = false := by simp [k0]
            have htts : tt.size ≤ 200 := by rw [← htt]; exact ftT_size _
            obtain ⟨t, ht⟩ : ∃ t, (⟨#[102, 111, 114, 109, 32]⟩ : ByteArray) ++ tt = t := ⟨_, rfl⟩
            have hsum : ∀ w', (Op.stringOp .add ⟨#[102, 111, 114, 109, 32]⟩ tt).run Tryz.prog w' = .ok (.string t) w' := fun w' => by rw [← ht]; exact run_string_add_sum w' _ _ (by rw [show (ByteArray.mk #[102, 111, 114, 109, 32]).size = 5 from rfl]; omega)
            obtain ⟨ts, hts⟩ : ∃ ts, lines1 c.e c.f c.zs ++ ((partsL c.fs).take m).map fmLn = ts := ⟨_, rfl⟩
            have hkl : ts.length = c.rn + 1 + m := by rw [← hts, List.length_append, hl1.out]; have := H.out.forms.1; have h2 := partsL_len c.fs; simp; omega
            have HNX : Hid (lines1 c.e c.f c.zs ++ ((partsL c.fs).take (m + 1)).map fmLn = ts ++ [t]) := by
              show lines1 c.e c.f c.zs ++ ((partsL c.fs).take (m + 1)).map fmLn = ts ++ [t]
              rw [List.take_add_one, HXS.out, ← ht, ← hts, ← htt]
              simp [fmLn, formLn]
            have HGD : Hid (∀ (q : Nat) (ps : List PartI), q < m + 1 → (partsL c.fs)[q]? = some ps → ftC ps = 0) := fun q ps hq hps => by
              by_cases e : q = m
              · subst e
                rw [HXS.out] at hps
                cases hps
                rw [hkc]; exact k0
              · exact TM.out.1 q ps (by omega) hps
            have TMa := TM.out.2
            rw [hts] at TMa
            have TM2 : Hid (TX W _ ts wr) := TMa
            clear TM TMa hts ht htt hkc k0
            go_wp2_with fail
            refine (HPT1.out _ A1).mono ?_
            rintro e V ⟨rfl, hb2⟩
            have TV : Hid (TX W _ ts V) := (TM2.out.below A1).below hb2
            clear A1 hb2 TM2 c0 HPI HPT1
            have hVs := TV.out.bl.size
            obtain ⟨U, hU⟩ : ∃ U, U = V.alloc (.cells #[.int .i64 kc, .string tt] 33) := ⟨_, rfl⟩
            have aU : Below V.heap.size V U := by rw [hU]; exact (Below.refl _ _).alloc (Nat.le_refl _) _
            have TU : Hid (TX W _ ts U) := TV.out.below aU
            have u0 : U.cell? ⟨V.heap.size, 0, none⟩ = some (.int .i64 kc) := by rw [hU]; simp
            have u1 : U.cell? ⟨V.heap.size, 1, none⟩ = some (.string tt) := by rw [hU]; simp
            have hVU : V.heap.size < U.heap.size := World.block_lt_of_cell? U ⟨V.heap.size, 0, none⟩ u0
            go_upto_region 11 with fail
            rw [← hU]
            clear hU TV aU
            go_wp2_with (first
              | (at_builtin; refine wpList_append_own _ rfl _ _ 90 rfl W.heap.size 9 i0 (.string ⟨#[]⟩) 1 16 Tryz.underlying90 hi hz0 hz1' hz2 rfl (by decide) _ _ _ rfl (TU.out.ow.alloc _) ⟨U.heap.size, 0, none⟩ 1 1 [.string t] rfl rfl ?c1 ?c2 ?c3 ?c4 ?c5 ?_)
              | fail)
            case c1 =>
              intro i u hj
              match i, hj with
              | 0, hj => simp at hj; subst hj; simp [Addr.add]
            case c2 => intro u hu; simp at hu; subst hu; rfl
            case c3 => rw [hkl]; unfold maxLen; omega
            case c4 => rw [hkl]; omega
            case c5 => have := TU.out.bl.size; simp; omega
            intro v' w9 hown' hgrow hnil
            have HR : Hid ((∀ (q : Nat) (ps : List PartI), q < m + 1 → (partsL c.fs)[q]? = some ps → ftC ps = 0) ∧ TX W v' (lines1 c.e c.f c.zs ++ ((partsL c.fs).take (m + 1)).map fmLn) w9) := by
              refine ⟨HGD.out, ?_⟩
              rw [HNX.out]
              exact TU.out.next hkl (by simpa [hkl] using hown') hgrow
            clear hnil hown' hgrow
            go_wp2_with fail
            exact ⟨⟨m + 1, by omega, by go_num, HR⟩, by simp [intOf]; omega⟩
          · have kb : (kc != 0) = true := by simp [k0]
            have HBD : Hid (k = 2 ∧ t0 = noTx ∧ kc = 2 ∧ tt = noTx) := by
              obtain ⟨g1, g2, g3, g4⟩ := ct_bad (e := c.e) (f := c.f) (zs := c.zs) (cs := c.cs) HXS.out (by rw [hkc]; exact k0)
              rw [HK.out.1] at g1
              rw [HK.out.2] at g2
              rw [hkc] at g3
              rw [htt] at g4
              exact ⟨g1, g2, g3, g4⟩
            have TM2 := TM.out.2.bl
            clear TM htt hkc k0
            go_wp2_with fail
            refine (HPT1.out _ A1).mono ?_
            rintro e V ⟨rfl, hb2⟩
            have hbV : Below W.heap.size W V := (TM2.trans (A1.mono TM2.size)).trans (hb2.mono (by have := TM2.size; have := A1.size; omega))
            have y0' := (hbV.cell (p := ⟨w.heap.size + 1, 0, none⟩) (by show w.heap.size + 1 < W.heap.size; have := HSW.out; omega)).trans HX.out.2.1
            have y1' := (hbV.cell (p := ⟨w.heap.size + 1, 1, none⟩) (by show w.heap.size + 1 < W.heap.size; have := HSW.out; omega)).trans HX.out.2.2.1
            have z0' := (hbV.frozen (p := ⟨w.heap.size + 1, 0, none⟩) (by show w.heap.size + 1 < W.heap.size; have := HSW.out; omega)).trans HX.out.2.2.2.1
            have z1' := (hbV.frozen (p := ⟨w.heap.size + 1, 1, none⟩) (by show w.heap.size + 1 < W.heap.size; have := HSW.out; omega)).trans HX.out.2.2.2.2
            have hw1 : w.heap.size + 1 < V.heap.size := by have := HSW.out; have := hbV.size; omega
            have HBF : Hid (Below w.heap.size w V) := B0.trans (hbV.mono (by have := HSW.out; omega))
            clear A1 hb2 TM2 c0 HPI HPT1 hbV
            go_wp2
            refine bodyPost_ret (v := .agg #[.int .i64 kc, .string tt]) (by simp [results, Tryz.results25, go_sem, y0', y1', hw1]) rfl ⟨?_, ?_⟩
            · obtain ⟨g1, g2, g3, g4⟩ := HBD.out
              rw [g1, g2, g3, g4]
            · first
                | exact ((HBF.out.setCell (by show w.heap.size ≤ w.heap.size + 1; omega) _).setCell (by show w.heap.size ≤ w.heap.size + 1; omega) _).alloc (by simp only [World.size_setCell]; exact HBF.out.size) _
                | exact ((HBF.out.alloc HBF.out.size _).setCell (by show w.heap.size ≤ w.heap.size + 1; omega) _).setCell (by show w.heap.size ≤ w.heap.size + 1; omega) _
        · have hpl := partsL_len c.fs
          have hfl := H.out.forms.1
          have HGD : Hid (∀ (q : Nat) (ps : List PartI), (partsL c.fs)[q]? = some ps → ftC ps = 0) := fun q ps hq => TM.out.1 q ps (by
            by_cases e : q < m
            · exact e
            · rw [List.getElem?_eq_none (by omega)] at hq; cases hq) hq
          have TMa := TM.out.2
          rw [List.take_of_length_le (by omega)] at TMa
          have TL : Hid (TX W _ (lines2 c.e c.f c.zs (partsL c.fs)) wr) := TMa
          have HLL : Hid ((lines2 c.e c.f c.zs (partsL c.fs)).length = c.rn + 1 + c.fn) := by
            show (lines2 c.e c.f c.zs (partsL c.fs)).length = c.rn + 1 + c.fn
            unfold lines2
            rw [List.length_append, hl1.out, List.length_map]
            omega
          have hlm' : ¬ ((m : Int) < (c.fn : Int)) := by omega
          have HXT : Hid ((1500 < (accT (lines3 c.e c.f c.zs (partsL c.fs) c.cs)).size → k = 2 ∧ t0 = noTx) ∧ (¬ 1500 < (accT (lines3 c.e c.f c.zs (partsL c.fs) c.cs)).size → k = 0 ∧ t0 = accT (lines3 c.e c.f c.zs (partsL c.fs) c.cs))) := by
            have := ct_ok (e := c.e) (f := c.f) (zs := c.zs) (cs := c.cs) HGD.out
            rw [HK.out.1, HK.out.2] at this
            exact this
          have x0' := (TL.out.bl.cell (p := ⟨w.heap.size, 0, none⟩) (by show w.heap.size < W.heap.size; have := HSW.out; omega)).trans HX.out.1.1
          have hlr : w.heap.size < wr.heap.size := by have := HSW.out; have := TL.out.bl.size; omega
          have hbr : Below w.heap.size w wr := B0.trans (TL.out.bl.mono (by have := HSW.out; omega))
          clear TM TMa HGD hpl hfl
          go_wp2_with fail
          refine (classLines_c c.ca c.cn c.cc c.cs _ hcn (H.out.classes.below hbr) HCK.out).mono ?_
          rintro e V ⟨v1, rfl, hown1, hnil1, hb1⟩
          have TV : Hid (TX W _ (lines2 c.e c.f c.zs (partsL c.fs)) V) := TL.out.below hb1
          have HO1 : Hid (OwnT V wr.heap.size v1 (c.cs.map classLn) ∧ (c.cn = 0 → v1 = .slice none 0 0)) := ⟨hown1, hnil1⟩
          have HCL : Hid ((c.cs.map classLn).length = c.cn) := by show (c.cs.map classLn).length = c.cn; rw [List.length_map]; exact H.out.classes.1
          clear TL x0' hb1 hown1 hnil1 hbr
          obtain ⟨ls, hls⟩ : ∃ ls, lines2 c.e c.f c.zs (partsL c.fs) = ls := ⟨_, rfl⟩
          obtain ⟨ns, hns⟩ : ∃ ns, c.cs.map classLn = ns := ⟨_, rfl⟩
          have HL3 : Hid (lines3 c.e c.f c.zs (partsL c.fs) c.cs = ls ++ ns) := by show lines3 _ _ _ _ _ = _; rw [← hls, ← hns]; rfl
          rw [hls] at TV HLL
          rw [hns] at HO1 HCL
          rw [HL3.out] at HXT HSM
          have hkl : ls.length = c.rn + 1 + c.fn := HLL.out
          clear hls hns
          by_cases hn0 : c.cn = 0
          · obtain rfl := HO1.out.2 hn0
            have hns0 : ns = [] := List.length_eq_zero_iff.1 (HCL.out.trans hn0)
            have TVa := TV.out
            rw [← List.append_nil ls, ← hns0] at TVa
            have TUx : Hid (TX W _ (ls ++ ns) V) := TVa
            clear TVa hns0
            go_wp2_with (first
              | (at_builtin; refine wpList_append_own_none rfl _ _ 90 rfl W.heap.size 9 i0 1 Tryz.underlying90 hi _ _ _ rfl TV.out.ow rfl ?_)
              | fail)
            obtain ⟨L, hL⟩ : ∃ L, ls ++ ns = L := ⟨_, rfl⟩
            have TUa := TUx.out
            rw [hL] at TUa HXT HSM
            have HLen : Hid (L.length ≤ 25 ∧ L ≠ []) := by
              have h1 := HCL.out
              have h2 : L.length = ls.length + ns.length := by rw [← hL, List.length_append]
              refine ⟨by omega, fun e => ?_⟩
              rw [e] at h2
              simp at h2
              omega
            have HSZ : Hid ((accT L).size ≤ 251 * L.length) := acc_size L HSM.out
            obtain ⟨va, vc, hve, htx⟩ := TUa.ow.shape
            subst hve
            have HTU : Hid (TX W (.slice va L.length vc) L V) := TUa
            clear TUa htx hL TUx
            go_wp2_with fail
            refine (joinL_c va vc W.heap.size L _ HLen.out.2 (by have := HSZ.out; have := HLen.out.1; omega) (by have := HLen.out.1; omega) HTU.out.ow).mono ?_
            rintro e V2 ⟨rfl, hb2⟩
            have TW := (HTU.out.below hb2).bl
            obtain ⟨R, hR⟩ : ∃ R, accT L = R := ⟨_, rfl⟩
            have hRs : R.size ≤ 6275 := by rw [← hR]; have := HSZ.out; have := HLen.out.1; omega
            have hja := join_acc L HLen.out.2
            have hjs := join_size L HLen.out.2
            rw [hR] at hja hjs HXT
            obtain ⟨J, hJ⟩ : ∃ J : ByteArray, (⟨(Lib.join (L.map (·.data.toList)) [10]).toArray⟩ : ByteArray) = J := ⟨_, rfl⟩
            rw [hJ] at hja ⊢
            have hJs : J.size ≤ 6275 := by rw [← hJ]; show (Lib.join (L.map (·.data.toList)) [10]).toArray.size ≤ _; simp only [List.size_toArray]; omega
            have hsum : ∀ w', (Op.stringOp .add J ⟨#[10]⟩).run Tryz.prog w' = .ok (.string R) w' := fun w' => by rw [← hja]; exact run_string_add_sum w' _ _ (by rw [show (ByteArray.mk #[10]).size = 1 from rfl]; omega)
            have y0' := (TW.cell (p := ⟨w.heap.size + 1, 0, none⟩) (by show w.heap.size + 1 < W.heap.size; have := HSW.out; omega)).trans HX.out.2.1
            have y1' := (TW.cell (p := ⟨w.heap.size + 1, 1, none⟩) (by show w.heap.size + 1 < W.heap.size; have := HSW.out; omega)).trans HX.out.2.2.1
            have z0' := (TW.frozen (p := ⟨w.heap.size + 1, 0, none⟩) (by show w.heap.size + 1 < W.heap.size; have := HSW.out; omega)).trans HX.out.2.2.2.1
            have z1' := (TW.frozen (p := ⟨w.heap.size + 1, 1, none⟩) (by show w.heap.size + 1 < W.heap.size; have := HSW.out; omega)).trans HX.out.2.2.2.2
            have hw1 : w.heap.size + 1 < V2.heap.size := by have := HSW.out; have := TW.size; omega
            have HBF : Hid (Below w.heap.size w V2) := B0.trans (TW.mono (by have := HSW.out; omega))
            clear hb2 TW HTU hR hja hjs hJ HSZ HLen
            by_cases hbig : 1500 < R.size
            · have hbig' : (1500 : Int) < (R.size : Int) := by omega
              have HE := HXT.out.1 hbig
              clear hbig
              go_wp2
              refine bodyPost_ret (v := .agg #[.int .i64 2, .string ⟨#[]⟩]) (by simp [results, Tryz.results25, go_sem, y0', y1', hw1]) rfl ⟨?_, ?_⟩
              · rw [HE.1, HE.2]; rfl
              · exact (HBF.out.setCell (by show w.heap.size ≤ w.heap.size + 1; omega) _).setCell (by show w.heap.size ≤ w.heap.size + 1; omega) _
            · have hbig' : (R.size : Int) ≤ 1500 := by omega
              have HE := HXT.out.2 hbig
              clear hbig
              go_wp2
              refine bodyPost_ret (v := .agg #[.int .i64 0, .string R]) (by simp [results, Tryz.results25, go_sem, y0', y1', hw1]) rfl ⟨?_, ?_⟩
              · rw [HE.1, HE.2]
              · exact (HBF.out.setCell (by show w.heap.size ≤ w.heap.size + 1; omega) _).setCell (by show w.heap.size ≤ w.heap.size + 1; omega) _
          · obtain ⟨a1, cap1, hv1, htx1⟩ := HO1.out.1.shape
            subst hv1
            obtain ⟨n0, hn0x⟩ : ∃ n0, ns[0]? = some n0 := ⟨_, List.getElem?_eq_getElem (by have := HCL.out; omega)⟩
            obtain ⟨g1, ha1, _⟩ := htx1 0 n0 hn0x
            subst ha1
            have HTX : Hid (∀ (i : Nat) (t : ByteArray), ns[i]? = some t → V.cell? ⟨g1, i, none⟩ = some (.string t)) := fun i t e => by
              obtain ⟨b', e1, e2⟩ := htx1 i t e
              cases e1
              exact e2
            have hnl := HCL.out
            rw [hnl]
            clear htx1 hn0x
            go_wp2_with (first
              | (at_builtin; refine wpList_append_own _ rfl _ _ 90 rfl W.heap.size 9 i0 (.string ⟨#[]⟩) 1 16 Tryz.underlying90 hi hz0 hz1' hz2 rfl (by decide) _ _ _ rfl TV.out.ow ⟨g1, 0, none⟩ c.cn cap1 (ns.map Value.string) rfl ?c0 ?c1 ?c2 ?c3 ?c4 ?c5 ?_)
              | fail)
            case c0 => rw [List.length_map, hnl, Nat.mul_one]
            case c1 =>
              intro i u hj
              rw [List.getElem?_map] at hj
              cases q : ns[i]? with
              | none => rw [q] at hj; cases hj
              | some s =>
                rw [q] at hj
                cases hj
                have e : ((⟨g1, 0, none⟩ : Addr).add i) = ⟨g1, 0 + i, none⟩ := Go.WideShapes.add_plain ..
                rw [e, Nat.zero_add]
                exact HTX.out i s q
            case c2 =>
              intro u hu
              obtain ⟨s, _, rfl⟩ := List.mem_map.1 hu
              rfl
            case c3 => rw [hkl]; unfold maxLen; omega
            case c4 => rw [hkl]; omega
            case c5 => exact TV.out.bl.size
            intro v' w9 hown' hgrow hnil
            have TUx : Hid (TX W v' (ls ++ ns) w9) := by
              refine ⟨?_, TV.out.bl.grown hgrow TV.out.bl.size (fun j hj => (TV.out.ow.lt j hj).1)⟩
              unfold OwnT
              rw [List.length_append, List.map_append, hnl, hkl]
              exact hown'
            clear hnil hown' hgrow TV
            obtain ⟨L, hL⟩ : ∃ L, ls ++ ns = L := ⟨_, rfl⟩
            have TUa := TUx.out
            rw [hL] at TUa HXT HSM
            have HLen : Hid (L.length ≤ 25 ∧ L ≠ []) := by
              have h1 := HCL.out
              have h2 : L.length = ls.length + ns.length := by rw [← hL, List.length_append]
              refine ⟨by omega, fun e => ?_⟩
              rw [e] at h2
              simp at h2
              omega
            have HSZ : Hid ((accT L).size ≤ 251 * L.length) := acc_size L HSM.out
            obtain ⟨va, vc, hve, htx⟩ := TUa.ow.shape
            subst hve
            have HTU : Hid (TX W (.slice va L.length vc) L w9) := TUa
            clear TUa htx hL TUx
            go_wp2_with fail
            refine (joinL_c va vc W.heap.size L _ HLen.out.2 (by have := HSZ.out; have := HLen.out.1; omega) (by have := HLen.out.1; omega) HTU.out.ow).mono ?_
            rintro e V2 ⟨rfl, hb2⟩
            have TW := (HTU.out.below hb2).bl
            obtain ⟨R, hR⟩ : ∃ R, accT L = R := ⟨_, rfl⟩
            have hRs : R.size ≤ 6275 := by rw [← hR]; have := HSZ.out; have := HLen.out.1; omega
            have hja := join_acc L HLen.out.2
            have hjs := join_size L HLen.out.2
            rw [hR] at hja hjs HXT
            obtain ⟨J, hJ⟩ : ∃ J : ByteArray, (⟨(Lib.join (L.map (·.data.toList)) [10]).toArray⟩ : ByteArray) = J := ⟨_, rfl⟩
            rw [hJ] at hja ⊢
            have hJs : J.size ≤ 6275 := by rw [← hJ]; show (Lib.join (L.map (·.data.toList)) [10]).toArray.size ≤ _; simp only [List.size_toArray]; omega
            have hsum : ∀ w', (Op.stringOp .add J ⟨#[10]⟩).run Tryz.prog w' = .ok (.string R) w' := fun w' => by rw [← hja]; exact run_string_add_sum w' _ _ (by rw [show (ByteArray.mk #[10]).size = 1 from rfl]; omega)
            have y0' := (TW.cell (p := ⟨w.heap.size + 1, 0, none⟩) (by show w.heap.size + 1 < W.heap.size; have := HSW.out; omega)).trans HX.out.2.1
            have y1' := (TW.cell (p := ⟨w.heap.size + 1, 1, none⟩) (by show w.heap.size + 1 < W.heap.size; have := HSW.out; omega)).trans HX.out.2.2.1
            have z0' := (TW.frozen (p := ⟨w.heap.size + 1, 0, none⟩) (by show w.heap.size + 1 < W.heap.size; have := HSW.out; omega)).trans HX.out.2.2.2.1
            have z1' := (TW.frozen (p := ⟨w.heap.size + 1, 1, none⟩) (by show w.heap.size + 1 < W.heap.size; have := HSW.out; omega)).trans HX.out.2.2.2.2
            have hw1 : w.heap.size + 1 < V2.heap.size := by have := HSW.out; have := TW.size; omega
            have HBF : Hid (Below w.heap.size w V2) := B0.trans (TW.mono (by have := HSW.out; omega))
            clear hb2 TW HTU hR hja hjs hJ HSZ HLen
            by_cases hbig : 1500 < R.size
            · have hbig' : (1500 : Int) < (R.size : Int) := by omega
              have HE := HXT.out.1 hbig
              clear hbig
              go_wp2
              refine bodyPost_ret (v := .agg #[.int .i64 2, .string ⟨#[]⟩]) (by simp [results, Tryz.results25, go_sem, y0', y1', hw1]) rfl ⟨?_, ?_⟩
              · rw [HE.1, HE.2]; rfl
              · exact (HBF.out.setCell (by show w.heap.size ≤ w.heap.size + 1; omega) _).setCell (by show w.heap.size ≤ w.heap.size + 1; omega) _
            · have hbig' : (R.size : Int) ≤ 1500 := by omega
              have HE := HXT.out.2 hbig
              clear hbig
              go_wp2
              refine bodyPost_ret (v := .agg #[.int .i64 0, .string R]) (by simp [results, Tryz.results25, go_sem, y0', y1', hw1]) rfl ⟨?_, ?_⟩
              · rw [HE.1, HE.2]
              · exact (HBF.out.setCell (by show w.heap.size ≤ w.heap.size + 1; omega) _).setCell (by show w.heap.size ≤ w.heap.size + 1; omega) _

end Go.Proofs.YtaeigimgobilaaaGreatDoor

namespace Go.Proofs.YtaeigimgobilaaaGreatDoor
open Go.RowKit Go.Shelf
set_option linter.unusedVariables false
set_option linter.unusedSimpArgs false

/-- What ConfigText tells. -/
def cxCode (e f : Int) (zs : List RuleI) (pss : List (List PartI)) (cs : List Int) : Int := if cfCode e f zs pss cs = 0 then ctCode e f zs pss cs else cfCode e f zs pss cs
def cxText (e f : Int) (zs : List RuleI) (pss : List (List PartI)) (cs : List Int) : ByteArray := if cfCode e f zs pss cs = 0 then ctText e f zs pss cs else noTx

def GivesCt (fn : Nat) (c : ConfI) (k : Int) (t : ByteArray) (w : World) : Prop := Calls Tryz.prog fn #[.agg #[.int .i64 c.e, .int .i64 c.f, .slice c.ra c.rn c.rc, .slice c.fa c.fn c.fc, .slice c.ca c.cn c.cc]] w fun e w' => e = .returned (.agg #[.int .i64 k, .string t]) ∧ Below w.heap.size w w'

set_option maxRecDepth 20000 in
set_option maxHeartbeats 2000000 in
theorem implConfigText_c (c : ConfI) (w : World) (hle : ConfLe 1048576 c) (hrc : c.rn ≤ c.rc) (hrm : c.rc ≤ maxLen) (h : ConfIn w c) :
    GivesCt 7 c (cxCode c.e c.f c.zs (partsL c.fs) c.cs) (cxText c.e c.f c.zs (partsL c.fs) c.cs) w := by
  obtain ⟨W, hW⟩ : ∃ W, W = (w.alloc (.cells #[.int .i64 c.e, .int .i64 c.f, .slice c.ra c.rn c.rc, .slice c.fa c.fn c.fc, .slice c.ca c.cn c.cc] 28)).alloc (.cells #[.int .i64 0, .string ⟨#[]⟩] 33) := ⟨_, rfl⟩
  have hs : W.heap.size = w.heap.size + 2 := by rw [hW]; simp
  have B0 : Below w.heap.size w W := by rw [hW]; exact ((Below.refl _ _).alloc (Nat.le_refl _) _).alloc (by simp) _
  have K0 : Hid (ConfAt W w.heap.size c) := by rw [hW]; exact (ConfAt.new w c _).below ((Below.refl _ _).alloc (Nat.le_refl _) _)
  have y0 : W.cell? ⟨w.heap.size + 1, 0, none⟩ = some (.int .i64 0) := by rw [hW]; go_cell
  have y1 : W.cell? ⟨w.heap.size + 1, 1, none⟩ = some (.string ⟨#[]⟩) := by rw [hW]; go_cell
  have z0 : W.frozen? ⟨w.heap.size + 1, 0, none⟩ = false := by rw [hW]; simp [go_sem]
  have z1 : W.frozen? ⟨w.heap.size + 1, 1, none⟩ = false := by rw [hW]; simp [go_sem]
  have HY : Hid (W.cell? ⟨w.heap.size + 1, 0, none⟩ = some (.int .i64 0) ∧ W.cell? ⟨w.heap.size + 1, 1, none⟩ = some (.string ⟨#[]⟩) ∧ W.frozen? ⟨w.heap.size + 1, 0, none⟩ = false ∧ W.frozen? ⟨w.heap.size + 1, 1, none⟩ = false) := ⟨y0, y1, z0, z1⟩
  obtain ⟨v, hv⟩ : ∃ v, cfCode c.e c.f c.zs (partsL c.fs) c.cs = v := ⟨_, rfl⟩
  have HF : Hid (Calls Tryz.prog 10 #[.agg #[.int .i64 c.e, .int .i64 c.f, .slice c.ra c.rn c.rc, .slice c.fa c.fn c.fc, .slice c.ca c.cn c.cc]] W fun e w' => e = .returned (.int .i64 v) ∧ Below W.heap.size W w') := by rw [← hv]; exact implConfigFault_c c W hle hrc hrm (h.below B0)
  clear y0 y1 z0 z1
  unfold GivesCt
  by_cases v0 : v = 0
  · have vb : (v != 0) = false := by simp [v0]
    obtain ⟨k, hk⟩ : ∃ k, cxCode c.e c.f c.zs (partsL c.fs) c.cs = k := ⟨_, rfl⟩
    obtain ⟨t, ht⟩ : ∃ t, cxText c.e c.f c.zs (partsL c.fs) c.cs = t := ⟨_, rfl⟩
    rw [hk, ht]
    have hk2 : ctCode c.e c.f c.zs (partsL c.fs) c.cs = k := by rw [← hk]; unfold cxCode; rw [if_pos (hv.trans v0)]
    have ht2 : ctText c.e c.f c.zs (partsL c.fs) c.cs = t := by rw [← ht]; unfold cxText; rw [if_pos (hv.trans v0)]
    have HT : Hid (∀ w2, Below w.heap.size w w2 → Calls Tryz.prog 25 #[.agg #[.slice c.ca c.cn c.cc, .int .i64 c.e, .int .i64 c.f, .slice c.ra c.rn c.rc, .slice c.fa c.fn c.fc]] w2 fun e w' => e = .returned (.agg #[.int .i64 k, .string t]) ∧ Below w2.heap.size w2 w') := fun w2 q => epochText_c c w2 (hv.trans v0) (h.below q) k t hk2 ht2
    clear h hle hv v0 hk ht hk2 ht2
    go_enter Tryz.func7, Tryz.ntmps7
    go_wp2_with fail
    rw [← hW]
    clear hW
    refine HF.out.mono ?_
    rintro e w1 ⟨rfl, hb1⟩
    obtain ⟨k0, k1, k2, k3, k4⟩ := K0.out.below hb1
    have hg := (K0.out.below hb1).lt
    have B1 : Below w.heap.size w w1 := B0.trans (hb1.mono (by omega))
    go_wp2_with fail
    refine (epochOf_c c _).mono ?_
    rintro e w2 ⟨rfl, hb2⟩
    have B2 : Below w.heap.size w w2 := B1.trans (hb2.mono B1.size)
    have hbW2 : Below W.heap.size W w2 := hb1.trans (hb2.mono hb1.size)
    clear k0 k1 k2 k3 k4 hg
    go_wp2_with fail
    refine (HT.out _ B2).mono ?_
    rintro e w3 ⟨rfl, hb3⟩
    have B3 : Below w.heap.size w w3 := B2.trans (hb3.mono B2.size)
    have hbW : Below W.heap.size W w3 := hbW2.trans (hb3.mono hbW2.size)
    have y0' := (hbW.cell (p := ⟨w.heap.size + 1, 0, none⟩) (by show w.heap.size + 1 < W.heap.size; omega)).trans HY.out.1
    have y1' := (hbW.cell (p := ⟨w.heap.size + 1, 1, none⟩) (by show w.heap.size + 1 < W.heap.size; omega)).trans HY.out.2.1
    have z0' := (hbW.frozen (p := ⟨w.heap.size + 1, 0, none⟩) (by show w.heap.size + 1 < W.heap.size; omega)).trans HY.out.2.2.1
    have z1' := (hbW.frozen (p := ⟨w.heap.size + 1, 1, none⟩) (by show w.heap.size + 1 < W.heap.size; omega)).trans HY.out.2.2.2
    have hw1 : w.heap.size + 1 < w3.heap.size := by have := hbW.size; omega
    clear hb1 hb2 hb3 hbW hbW2 B1 B2 B0 hs
    go_wp2
    refine bodyPost_ret (v := .agg #[.int .i64 k, .string t]) (by simp [results, Tryz.results7, go_sem, y0', y1', hw1]) rfl ⟨rfl, ?_⟩
    exact (B3.setCell (by show w.heap.size ≤ w.heap.size + 1; omega) _).setCell (by show w.heap.size ≤ w.heap.size + 1; omega) _
  · have vb : (v != 0) = true := by simp [v0]
    have hk : cxCode c.e c.f c.zs (partsL c.fs) c.cs = v := by unfold cxCode; rw [if_neg (by rw [hv]; exact v0)]; exact hv
    have ht : cxText c.e c.f c.zs (partsL c.fs) c.cs = ⟨#[]⟩ := by unfold cxText; rw [if_neg (by rw [hv]; exact v0)]; rfl
    rw [hk, ht]
    clear h hle hv v0 hk ht
    go_enter Tryz.func7, Tryz.ntmps7
    go_wp2_with fail
    rw [← hW]
    clear hW
    refine HF.out.mono ?_
    rintro e w1 ⟨rfl, hb1⟩
    have B1 : Below w.heap.size w w1 := B0.trans (hb1.mono (by omega))
    have y0' := (hb1.cell (p := ⟨w.heap.size + 1, 0, none⟩) (by show w.heap.size + 1 < W.heap.size; omega)).trans HY.out.1
    have y1' := (hb1.cell (p := ⟨w.heap.size + 1, 1, none⟩) (by show w.heap.size + 1 < W.heap.size; omega)).trans HY.out.2.1
    have z0' := (hb1.frozen (p := ⟨w.heap.size + 1, 0, none⟩) (by show w.heap.size + 1 < W.heap.size; omega)).trans HY.out.2.2.1
    have z1' := (hb1.frozen (p := ⟨w.heap.size + 1, 1, none⟩) (by show w.heap.size + 1 < W.heap.size; omega)).trans HY.out.2.2.2
    have hw1 : w.heap.size + 1 < w1.heap.size := by have := hb1.size; omega
    clear hb1 B0 hs
    go_wp2
    refine bodyPost_ret (v := .agg #[.int .i64 v, .string ⟨#[]⟩]) (by simp [results, Tryz.results7, go_sem, y0', y1', hw1]) rfl ⟨rfl, ?_⟩
    exact (B1.setCell (by show w.heap.size ≤ w.heap.size + 1; omega) _).setCell (by show w.heap.size ≤ w.heap.size + 1; omega) _

end Go.Proofs.YtaeigimgobilaaaGreatDoor
