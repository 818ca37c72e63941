/-
  WHAT AN ARGUMENT LOOKS LIKE: a slice of grants, out of its reading.
  Conditions: each fact bears its own.
  CONTRACTS: InSet of a set and any principal, HasRole of both programs.
  Conditions: each contract bears its own.
  CONTRACTS: spec.l3Rule: the first rule that gives a role to a principal.
  Conditions: each contract bears its own.
-/
import Derived.Test.YtocdclgolhhckaaPk19
import Derived.Test.YtocdclgolhhckaaPk04
import Derived.Test.YtocdclgolhhckaaPk21
import Derived.Test.YtocdclgolhhckaaPk20
import Derived.Test.YtocdclgolhhckaaPk05
import Derived.Test.YtocdclgolhhckaaPk08
import Derived.Test.YtocdclgolhhckaaPk06
import Derived.BigQuiet
namespace Go.Proofs.Ytocdclgolhhckaa
open Go.RowKit Go.ChangeShapes Go.WideShapes

/-- A slice of grants that came in. -/
def GrArg (w : World) (a : Option Addr) (len : Nat) (zs : List GrI) : Prop := GrIn w a len zs ∧ len ≤ maxLen

theorem Try.cells98 : Try.prog.cellsOf 98 = 3 := by kernel_rfl

theorem list3 {α : Type} {l : List α} (h : l.length = 3) : ∃ a b c, l = [a, b, c] := by
  match l, h with
  | [a, b, c], _ => exact ⟨a, b, c, rfl⟩

theorem grant_list {H : Type} {enc : TypeId × Value → H} {w : World} {base : Nat} {spare : Nat → Bool} {held : Bool} {fuel : Nat} {cs : List Value} {x : DataW H × List MemPlace} (h : DataW.trod enc Try.prog w base spare held fuel 98 cs = some x) :
    ∃ r : GrI, cs = [.int .i64 r.1.1, .int .i64 r.1.2, .int .i64 r.2] := by
  obtain ⟨y0, y1, n, _, hl, h0, h1⟩ := trod_struct2 Try.underlying98 h
  rw [Try.cells98] at hl
  obtain ⟨c0, c1, c2, rfl⟩ := list3 hl
  simp [Try.cells2, Try.cells24] at h0 h1
  obtain ⟨o, n, e0⟩ := role_list h0
  obtain ⟨b, e1, _, _⟩ := DataW.trod_int Try.underlying2 h1
  simp at e0 e1
  obtain ⟨rfl, rfl⟩ := e0
  subst e1
  exact ⟨((o, n), b), rfl⟩

theorem cells3 {w : World} {base : Nat} {a : Addr} {r : GrI} (h : w.cells? base a 3 = some [.int .i64 r.1.1, .int .i64 r.1.2, .int .i64 r.2]) : a.spot = none ∧ GrAt w a.block a.off r := by
  have e : List.range 3 = [0, 1, 2] := rfl
  unfold World.cells? at h
  split at h
  · rw [e] at h
    simp only [List.mapM_cons, List.mapM_nil, Option.bind_eq_bind, Option.bind_eq_some_iff, Option.pure_def, Option.some.injEq, List.cons.injEq] at h
    obtain ⟨x0, h0, y0, ⟨x1, h1, y1, ⟨x2, h2, y2, rfl, e2⟩, e1⟩, e0, ee⟩ := h
    subst e0
    rw [← e1] at ee
    simp only [List.cons.injEq] at ee
    obtain ⟨rfl, ee⟩ := ee
    rw [← e2] at ee
    simp only [List.cons.injEq] at ee
    obtain ⟨rfl, _⟩ := ee
    obtain ⟨b, off, spot⟩ := a
    have hspot : spot = none := by simpa [Addr.add] using World.cell?_spot h0
    subst hspot
    simp only [Addr.add] at h0 h1 h2
    exact ⟨rfl, by simpa using h0, by simpa using h1, by simpa using h2⟩
  · cases h

theorem grants_shape {H : Type} {enc : TypeId × Value → H} {w : World} {base : Nat} {spare : Nat → Bool} {held : Bool} {fuel : Nat} {a0 : Option Addr} {len cap : Nat} {x : DataW H × List MemPlace} (h : DataW.trod enc Try.prog w base spare held fuel 44 [.slice a0 len cap] = some x) :
    ∃ zs : List GrI, GrArg w a0 len zs := by
  rcases Go.Deep.open_slice Try.underlying44 h with ⟨hcs, _⟩ | ⟨a, l, c, m, n, D, Pl, hcs, hb, hl, hm, hmm, _, hel⟩
  · simp at hcs
    obtain ⟨rfl, rfl, rfl⟩ := hcs
    exact ⟨[], ⟨rfl, fun h => by omega⟩, Nat.zero_le _⟩
  · simp at hcs
    obtain ⟨rfl, rfl, rfl⟩ := hcs
    have hle : len ≤ m := by rw [hmm]; split <;> omega
    rw [Try.cells98] at hel
    have hk : ∀ i, i < len → ∃ r : GrI, w.cells? base (a.add (i * 3)) 3 = some [.int .i64 r.1.1, .int .i64 r.1.2, .int .i64 r.2] := fun i hi => by
      obtain ⟨cs', hc, ht⟩ := hel i (by omega)
      obtain ⟨r, rfl⟩ := grant_list ht
      exact ⟨r, hc⟩
    obtain ⟨f, hf⟩ := Go.Deep.choose_lt hk
    refine ⟨(List.range len).map f, ⟨by simp, fun hp => ?_⟩, Nat.le_trans hl hm⟩
    obtain ⟨hsp, _⟩ := cells3 (hf 0 hp)
    obtain ⟨b, off, spot⟩ := a
    simp [Addr.add] at hsp
    subst hsp
    refine ⟨b, off, rfl, fun k r e => ?_⟩
    have hkl : k < len := by
      by_cases q : k < len
      · exact q
      · rw [List.getElem?_eq_none (by simp; omega)] at e; cases e
    rw [List.getElem?_map, List.getElem?_range hkl] at e
    simp at e
    subst e
    obtain ⟨_, hr⟩ := cells3 (hf k hkl)
    have : ((⟨b, off, none⟩ : Addr).add (k * 3)) = ⟨b, off + k * 3, none⟩ := Go.WideShapes.add_plain ..
    rw [this] at hr
    exact hr

end Go.Proofs.Ytocdclgolhhckaa

namespace Go.Proofs.Ytocdclgolhhckaa
open Go.RowKit
set_option linter.unusedVariables false
set_option linter.unusedSimpArgs false

def inB (s p : Int) : Bool := prinB p && hasI s p

theorem set_in {s : Int} (h : setB s) : setIn s = true := by
  unfold setIn
  simp [h.1, h.2]

set_option maxHeartbeats 400000 in
theorem specIn_c (s p : Int) (h : setB s) (w : World) :
    Calls Try.prog 72 #[.int .i64 s, .int .i64 p] w fun e w' => e = .returned (.bool (inB s p)) ∧ w = w' := by
  have hS := set_in h
  unfold inB
  cases hp : prinB p
  · go_enter Try.func72, Try.ntmps72
    go_wp2_with (first | (go_at_call 89; refine (l1Set_c s _).mono ?_; rintro e w' ⟨rfl, rfl⟩; rw [hS]) | (go_at_call 74; refine (l1Principal_c p _).mono ?_; rintro e w' ⟨rfl, rfl⟩; rw [hp]) | fail)
    go_ret
    exact ⟨rfl, rfl⟩
  · have hp' : 1 ≤ p ∧ p ≤ 8 := by simpa [prinB] using hp
    go_enter Try.func72, Try.ntmps72
    go_wp2_with (first | (go_at_call 89; refine (l1Set_c s _).mono ?_; rintro e w' ⟨rfl, rfl⟩; rw [hS]) | (go_at_call 74; refine (l1Principal_c p _).mono ?_; rintro e w' ⟨rfl, rfl⟩; rw [hp]) | (go_at_call 75; refine (l1Has_c s p h.1 h.2 hp'.1 hp'.2 _).mono ?_; rintro e w' ⟨rfl, rfl⟩) | fail)
    go_ret
    exact ⟨rfl, rfl⟩

set_option maxHeartbeats 400000 in
theorem implIn_c (s p : Int) (h : setB s) (w : World) :
    Calls Try.prog 73 #[.int .i64 s, .int .i64 p] w fun e w' => e = .returned (.bool (inB s p)) ∧ w = w' := by
  have HF : Hid (∀ w : World, Calls Try.prog 90 #[.int .i64 s] w fun e w' => e = .returned (.int .i64 0) ∧ w = w') := fun w => by
    have := setFault_c s w
    rwa [if_pos (set_in h)] at this
  unfold inB
  cases hp : prinB p
  · go_enter Try.func73, Try.ntmps73
    go_wp2_with (first | (go_at_call 90; refine (HF.out _).mono ?_; rintro e w' ⟨rfl, rfl⟩) | (go_at_call 77; refine (isPrin_c p _).mono ?_; rintro e w' ⟨rfl, rfl⟩; rw [hp]) | go_in)
    go_ret
    exact ⟨rfl, rfl⟩
  · have hp' : 1 ≤ p ∧ p ≤ 8 := by simpa [prinB] using hp
    have h1 := h.1
    have h2 := h.2
    have h3 : s < (256 : Int) := by omega
    have e2 : (bits .and .u8 s (bitI p) != 0) = hasI s p := and_u8 s p h.1 h.2 hp'.1 hp'.2
    go_enter Try.func73, Try.ntmps73
    go_wp2_with (first | (go_at_call 90; refine (HF.out _).mono ?_; rintro e w' ⟨rfl, rfl⟩) | (go_at_call 77; refine (isPrin_c p _).mono ?_; rintro e w' ⟨rfl, rfl⟩; rw [hp]) | (go_at_call 79; refine (bitOf_c p hp'.1 hp'.2 _).mono ?_; rintro e w' ⟨rfl, rfl⟩) | go_in)
    go_ret
    exact ⟨rfl, rfl⟩

def GivesB (f : Nat) (a : Option Addr) (n cap : Nat) (r : RoI) (p : Int) (b : Bool) (w : World) : Prop := Calls Try.prog f #[.slice a n cap, .agg #[.int .i64 r.1, .int .i64 r.2], .int .i64 p] w fun e w' => e = .returned (.bool b) ∧ Below w.heap.size w w'

set_option maxHeartbeats 1000000 in
theorem specHasRole_c (a : Option Addr) (n cap : Nat) (r : RoI) (p c v : Int) (w : World) (hv : c = 0 → setB v)
    (H : Hid (∀ w', Below w.heap.size w w' → GivesI 13 a n cap r c v w')) : GivesB 31 a n cap r p (c == 0 && inB v p) w := by
  have B0 : Below w.heap.size w (w.alloc (.cells #[.int .i64 r.1, .int .i64 r.2] 31)) := (Below.refl _ _).alloc (Nat.le_refl _) _
  have HV : Hid (c = 0 → setB v) := hv
  clear hv
  by_cases h0 : c = 0
  · obtain ⟨d, hd⟩ : ∃ d, inB v p = d := ⟨_, rfl⟩
    have HI : Hid (∀ w : World, Calls Try.prog 72 #[.int .i64 v, .int .i64 p] w fun e w' => e = .returned (.bool d) ∧ w = w') := fun w => by rw [← hd]; exact specIn_c v p (HV.out h0) w
    subst h0
    rw [hd, show ((0 : Int) == 0 && d) = d by simp]
    clear hd HV
    unfold GivesB
    go_enter Try.func31, Try.ntmps31
    go_wp2_with fail
    refine (H.out _ B0).mono ?_
    rintro e w1 ⟨rfl, hb1⟩
    have hb : Below w.heap.size w w1 := B0.trans (hb1.mono B0.size)
    go_wp2_with (first | (go_at_call 72; refine (HI.out _).mono ?_; rintro e w' ⟨rfl, rfl⟩) | fail)
    go_ret
    exact ⟨rfl, hb.alloc hb.size _⟩
  · have e : (c == 0) = false := by simpa using h0
    rw [e, Bool.false_and]
    clear HV
    unfold GivesB
    go_enter Try.func31, Try.ntmps31
    go_wp2_with fail
    refine (H.out _ B0).mono ?_
    rintro e w1 ⟨rfl, hb1⟩
    have hb : Below w.heap.size w w1 := B0.trans (hb1.mono B0.size)
    go_wp2_with fail
    go_ret
    exact ⟨rfl, hb.alloc hb.size _⟩

set_option maxHeartbeats 1000000 in
theorem implHasRole_c (a : Option Addr) (n cap : Nat) (r : RoI) (p c v : Int) (w : World) (hv : c = 0 → setB v)
    (H : Hid (∀ w', Below w.heap.size w w' → GivesI 16 a n cap r c v w')) : GivesB 32 a n cap r p (c == 0 && inB v p) w := by
  have B0 : Below w.heap.size w (w.alloc (.cells #[.int .i64 r.1, .int .i64 r.2] 31)) := (Below.refl _ _).alloc (Nat.le_refl _) _
  have HV : Hid (c = 0 → setB v) := hv
  clear hv
  by_cases h0 : c = 0
  · obtain ⟨d, hd⟩ : ∃ d, inB v p = d := ⟨_, rfl⟩
    have HI : Hid (∀ w : World, Calls Try.prog 73 #[.int .i64 v, .int .i64 p] w fun e w' => e = .returned (.bool d) ∧ w = w') := fun w => by rw [← hd]; exact implIn_c v p (HV.out h0) w
    subst h0
    rw [hd, show ((0 : Int) == 0 && d) = d by simp]
    clear hd HV
    unfold GivesB
    go_enter Try.func32, Try.ntmps32
    go_wp2_with fail
    refine (H.out _ B0).mono ?_
    rintro e w1 ⟨rfl, hb1⟩
    have hb : Below w.heap.size w w1 := B0.trans (hb1.mono B0.size)
    go_wp2_with (first | (go_at_call 73; refine (HI.out _).mono ?_; rintro e w' ⟨rfl, rfl⟩) | fail)
    go_ret
    exact ⟨rfl, hb.alloc hb.size _⟩
  · have e : (c == 0) = false := by simpa using h0
    rw [e, Bool.false_and]
    clear HV
    unfold GivesB
    go_enter Try.func32, Try.ntmps32
    go_wp2_with fail
    refine (H.out _ B0).mono ?_
    rintro e w1 ⟨rfl, hb1⟩
    have hb : Below w.heap.size w w1 := B0.trans (hb1.mono B0.size)
    go_wp2_with fail
    go_ret
    exact ⟨rfl, hb.alloc hb.size _⟩

theorem hasRole_both (zs : List RuleI) (r : RoI) (p : Int) (n : Nat) (hn : n ≤ 1048576) (hz : zs.length = n) : ∃ b : Bool,
    (∀ (g : Nat) (w : World), RulesAt w g 0 zs → GivesB 31 (some ⟨g, 0, none⟩) n n r p b w) ∧
    (∀ (g : Nat) (w : World), RulesAt w g 0 zs → GivesB 32 (some ⟨g, 0, none⟩) n n r p b w) := by
  obtain ⟨c, v, hv, h1, h2⟩ := members_both zs r n hn hz
  exact ⟨_, fun g w h => specHasRole_c _ _ _ _ _ _ _ _ hv (fun w' hb => h1 g w' (h.below hb)), fun g w h => implHasRole_c _ _ _ _ _ _ _ _ hv (fun w' hb => h2 g w' (h.below hb))⟩

end Go.Proofs.Ytocdclgolhhckaa

namespace Go.Proofs.Ytocdclgolhhckaa
open Go.RowKit
set_option linter.unusedVariables false
set_option linter.unusedSimpArgs false
attribute [local go_sem ↓] ro_eql

/-- The first rule of a list that gives the role, from a place on; -1: none. -/
def hitAt (f : RoI → Int) (r : RoI) (p : Int) : List RuleI → Int → Int
  | [], _ => -1
  | z :: zs, i => if hitB f r p z = true then i else hitAt f r p zs (i + 1)

theorem hitAt_drop {zs : List RuleI} {k : Nat} {z : RuleI} (h : zs[k]? = some z) (f : RoI → Int) (r : RoI) (p i : Int) : hitAt f r p (zs.drop k) i = if hitB f r p z = true then i else hitAt f r p (zs.drop (k + 1)) (i + 1) := by
  have hk : k < zs.length := by
    by_cases q : k < zs.length
    · exact q
    · rw [List.getElem?_eq_none (by omega)] at h; cases h
  have e : zs[k] = z := by rw [List.getElem?_eq_getElem hk] at h; exact Option.some.inj h
  rw [List.drop_eq_getElem_cons hk, e]
  rfl

theorem hitB_eq (f : RoI → Int) (r : RoI) (p : Int) (z : RuleI) : hitB f r p z = (eqRo (z.ho, z.hn) r && hasI (byF f z) p) := by
  unfold hitB
  congr 1
  rw [Bool.eq_iff_iff, eqRo_iff, decide_eq_true_iff]

set_option maxRecDepth 100000 in
set_option maxHeartbeats 2000000 in
theorem l3Rule_c (a : Option Addr) (n d : Nat) (zs : List RuleI) (b : Option Addr) (m c : Nat) (gs : List GrI) (r : RoI) (p : Int) (w : World) (hr : RulesIn w a n zs) (hn : n ≤ 1000) (hg : GrIn w b m gs) (hs : SG gs) (p0 : 1 ≤ p) (p1 : p ≤ 8) (hz : ∀ z ∈ zs, okR z ∧ 1 ≤ z.k ∧ z.k ≤ 4) :
    Calls Try.prog 76 #[.slice a n d, .slice b m c, .agg #[.int .i64 r.1, .int .i64 r.2], .int .i64 p] w fun e w' => e = .returned (.int .i64 (hitAt (ofG gs) r p zs 0)) ∧ Below w.heap.size w w' := by
  have B0 : Below w.heap.size w (w.alloc (.cells #[.int .i64 r.1, .int .i64 r.2] 31)) := (Below.refl _ _).alloc (Nat.le_refl _) _
  have R0 : Hid ((w.alloc (.cells #[.int .i64 r.1, .int .i64 r.2] 31)).cell? ⟨w.heap.size, 0, none⟩ = some (.int .i64 r.1) ∧ (w.alloc (.cells #[.int .i64 r.1, .int .i64 r.2] 31)).cell? ⟨w.heap.size, 1, none⟩ = some (.int .i64 r.2)) := ⟨by simp, by simp⟩
  have hs0 : w.heap.size < (w.alloc (.cells #[.int .i64 r.1, .int .i64 r.2] 31)).heap.size := by simp
  have HR : Hid (RulesIn w a n zs) := hr
  have HZ : Hid (∀ z ∈ zs, okR z ∧ 1 ≤ z.k ∧ z.k ≤ 4) := hz
  have HG : Hid (GrIn w b m gs) := hg
  have HS : Hid (SG gs) := hs
  have hm : m ≤ 1048576 := by have := sg_len hs; have := hg.1; omega
  have hn' : (n : Int) ≤ 1000 := by omega
  clear hr hz hg hs
  go_enter Try.func76, Try.ntmps76
  go_wp2
  go_loopw [9] (fun i wr => ∃ k : Nat, k ≤ n ∧ i = .int .i64 (k : Int) ∧ hitAt (ofG gs) r p zs 0 = hitAt (ofG gs) r p (zs.drop k) (k : Int) ∧ Below w.heap.size w wr ∧ (wr.cell? ⟨w.heap.size, 0, none⟩ = some (.int .i64 r.1) ∧ wr.cell? ⟨w.heap.size, 1, none⟩ = some (.int .i64 r.2)) ∧ w.heap.size < wr.heap.size) (fun i _ => n - (intOf i).toNat)
  case atStart => exact ⟨0, Nat.zero_le _, rfl, rfl, B0, R0.out, hs0⟩
  case round =>
    obtain ⟨k, hk, rfl, hof, hnx, ⟨r0, r1⟩, hsz⟩ := hrel
    have HF : Hid (hitAt (ofG gs) r p zs 0 = hitAt (ofG gs) r p (zs.drop k) (k : Int)) := hof
    clear hof
    by_cases hlt : k < n
    · obtain ⟨g, off, z, e, hzk, hra⟩ := (HR.out.below hnx).at hlt
      subst e
      have hzm : z ∈ zs := List.mem_of_getElem? hzk
      have HE := hitAt_drop hzk (ofG gs) r p (k : Int)
      rw [hitB_eq] at HE
      have hby : setB (byF (ofG gs) z) := byF_set (ofG_set HS.out) (HZ.out z hzm).1
      have HBY : Hid (∀ W : World, ((∀ b o, b < wr.heap.size → W.cell? ⟨b, o, none⟩ = wr.cell? ⟨b, o, none⟩) ∧ Below wr.heap.size wr W) → Calls Try.prog 108 #[.slice b m c, .pointer (some ⟨g, off + k * 8, none⟩)] W fun e w' => e = .returned (.int .i64 (byF (ofG gs) z)) ∧ Below W.heap.size W w') := fun W hW =>
        l3By_c _ _ _ gs g (off + k * 8) z W ((HG.out.below hnx).below hW.2) hm (hra.below hW.2) (ofG_set HS.out) (HZ.out z hzm).1 (HZ.out z hzm).2
      have HHS : Hid (∀ W : World, Calls Try.prog 75 #[.int .i64 (byF (ofG gs) z), .int .i64 p] W fun e w' => e = .returned (.bool (hasI (byF (ofG gs) z) p)) ∧ W = w') := fun W => l1Has_c _ p hby.1 hby.2 p0 p1 W
      generalize byF (ofG gs) z = bz at *
      obtain ⟨h0, h1, h2, _⟩ := hra
      have hgg : g < wr.heap.size := World.block_lt_of_cell? wr ⟨g, off + k * 8, none⟩ h0
      have hk0 : (0 : Int) ≤ (k : Int) := by omega
      have hlt' : (k : Int) < (n : Int) := by omega
      clear hzk hzm hby
      have heq : ∀ w, (binOp .eql 31 (.agg #[.int .i64 z.ho, .int .i64 z.hn]) (.agg #[.int .i64 r.1, .int .i64 r.2])).run Try.prog w = .ok (.bool (eqRo (z.ho, z.hn) r)) w := fun w => ro_eql (z.ho, z.hn) r w
      cases he : eqRo (z.ho, z.hn) r
      · rw [he] at heq
        have HN : Hid (hitAt (ofG gs) r p zs 0 = hitAt (ofG gs) r p (zs.drop (k + 1)) ((k + 1 : Nat) : Int)) := by
          show hitAt (ofG gs) r p zs 0 = _
          rw [HF.out, HE, he, Bool.false_and, if_neg (by simp)]
          rfl
        clear HE
        go_wp2
        go_quiet (fail)
        go_wp2
        exact ⟨⟨k + 1, by omega, by go_num, HN.out, bdN hnx _, ⟨r0, r1⟩, hsz⟩, by simp [intOf]; omega⟩
      · rw [he] at heq
        obtain ⟨t, ht⟩ : ∃ t, hasI bz p = t := ⟨_, rfl⟩
        rw [he, ht, Bool.true_and] at HE
        rw [ht] at HHS
        clear ht
        cases t
        · have HN : Hid (hitAt (ofG gs) r p zs 0 = hitAt (ofG gs) r p (zs.drop (k + 1)) ((k + 1 : Nat) : Int)) := by
            show hitAt (ofG gs) r p zs 0 = _
            rw [HF.out, HE, if_neg (by simp)]
            rfl
          clear HE
          go_wp2
          go_region_held3 (fun w' => (∀ b o, b < wr.heap.size → w'.cell? ⟨b, o, none⟩ = wr.cell? ⟨b, o, none⟩) ∧ Below wr.heap.size wr w') (first | exact hS | exact kp_drew _)
            (first | (go_at_call 108; refine (HBY.out _ (by assumption)).mono ?_; rintro e w' ⟨rfl, hb2⟩; have hS := kp_step (by assumption) hb2) | (go_at_call 75; refine (HHS.out _).mono ?_; rintro e w'' ⟨rfl, rfl⟩))
          all_goals go_wp2
          all_goals exact ⟨⟨k + 1, by omega, by go_num, HN.out, hnx.trans (hS.2.mono hnx.size), ⟨(hS.1 _ _ hsz).trans r0, (hS.1 _ _ hsz).trans r1⟩, Nat.lt_of_lt_of_le hsz hS.2.size⟩, by simp [intOf]; omega⟩
        · have HN : Hid (hitAt (ofG gs) r p zs 0 = (k : Int)) := by
            show hitAt (ofG gs) r p zs 0 = _
            rw [HF.out, HE, if_pos rfl]
          clear HE
          go_wp2
          go_region_held3 (fun w' => (∀ b o, b < wr.heap.size → w'.cell? ⟨b, o, none⟩ = wr.cell? ⟨b, o, none⟩) ∧ Below wr.heap.size wr w') (first | exact hS | exact kp_drew _)
            (first | (go_at_call 108; refine (HBY.out _ (by assumption)).mono ?_; rintro e w' ⟨rfl, hb2⟩; have hS := kp_step (by assumption) hb2) | (go_at_call 75; refine (HHS.out _).mono ?_; rintro e w'' ⟨rfl, rfl⟩))
          all_goals go_wp2
          all_goals go_ret
          all_goals exact ⟨by rw [HN.out]; rfl, hnx.trans (hS.2.mono hnx.size)⟩
    · have hkn : k = n := by omega
      subst hkn
      have E : hitAt (ofG gs) r p zs 0 = -1 := by rw [HF.out, List.drop_eq_nil_of_le (by rw [HR.out.1]; exact Nat.le_refl _)]; rfl
      go_wp2
      go_ret
      exact ⟨by rw [E]; rfl, hnx⟩

end Go.Proofs.Ytocdclgolhhckaa
