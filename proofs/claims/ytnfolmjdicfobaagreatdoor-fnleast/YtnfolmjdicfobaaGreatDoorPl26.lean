/-
  CONTRACT: math/bits.OnesCount of small numbers.
  Conditions: each contract bears its own.
  CONTRACTS: LeastOf of both programs.
  Conditions: each contract bears its own.
  CONTRACTS of spec.l1Digits (one digit) and spec.l1Text, for sets of 0 to 255.
  Conditions: each contract bears its own.
  THE LIBRARY's OWN CONTRACTS of strings.Join and strconv.FormatInt (small numbers), laid at this program by the kit's tools (lay-shelf, lay-plain).
  Conditions: each theorem bears its own.
-/
import Derived.Test.YtnfolmjdicfobaaGreatDoorPl12
import Derived.Test.YtnfolmjdicfobaaGreatDoorPl02
import Derived.Test.YtnfolmjdicfobaaGreatDoorPl25
import Derived.WalkLawsBesides
import Derived.WalkSpells
import Derived.Laws.IdiomStrings
import Derived.Shelf.Strings.Builder1
import Derived.Shelf.Strings.Builder2
import Derived.Shelf.Strings.OnBuilder
import Derived.Shelf.Small.Bits
import Derived.Shelf.Strconv.Itoa0
import Derived.Shelf.Strconv.Itoa1
import Derived.Shelf.LaysM
import Derived.Shelf.Strconv.Itoa2
import Derived.Shelf.Strconv.Itoa3
import Derived.Shelf.Strconv.Itoa4
import Derived.Test.YtnfolmjdicfobaaGreatDoorProg
namespace Go.Proofs.YtnfolmjdicfobaaGreatDoor
open Go.RowKit
set_option linter.unusedVariables false
set_option linter.unusedSimpArgs false

def q1 (x : Int) : Int := IntKind.u64.wrap (bits .and .u64 (x / 2) 6148914691236517205 + bits .and .u64 x 6148914691236517205)
def q2 (x : Int) : Int := IntKind.u64.wrap (bits .and .u64 (x / 4) 3689348814741910323 + bits .and .u64 x 3689348814741910323)
def q3 (x : Int) : Int := bits .and .u64 (IntKind.u64.wrap (x / 16 + x)) 1085102592571150095
def q4 (x : Int) : Int := IntKind.u64.wrap (x + x / 256)
def q5 (x : Int) : Int := IntKind.u64.wrap (x + x / 65536)
def q6 (x : Int) : Int := IntKind.u64.wrap (x + x / 4294967296)
theorem ones64_eq : ∀ n : Fin 256, bits .and .i64 (wrap64 (q6 (q5 (q4 (q3 (q2 (q1 (n.val : Int)))))))) 127 = (pcN n.val : Int) := by decide +kernel

set_option maxRecDepth 100000 in
set_option maxHeartbeats 1000000 in
theorem ones64_c (x : Nat) (hx : x < 256) (w : World) :
    Calls Tryz.prog 102 #[.int .u64 (x : Int)] w fun e w' => e = .returned (.int .i64 (pcN x : Int)) ∧ w = w' := by
  go_enter Tryz.func102, Tryz.ntmps102
  go_wp2
  go_ret
  refine ⟨congrArg (fun z => Ending.returned (Value.int .i64 z)) (?_ : _ = (pcN x : Int)), rfl⟩
  have h := ones64_eq ⟨x, hx⟩
  simp only [q1, q2, q3, q4, q5, q6] at h
  exact h

set_option maxRecDepth 100000 in
set_option maxHeartbeats 1000000 in
theorem ones_small (x : Nat) (hx : x < 256) (w : World) :
    Calls Tryz.prog 58 #[.int .u64 (x : Int)] w fun e w' => e = .returned (.int .i64 (pcN x : Int)) ∧ w = w' := by
  go_enter Tryz.func58, Tryz.ntmps58
  go_wp2_with (first | (go_at_call 102; refine (ones64_c x hx _).mono ?_; rintro e w1 ⟨rfl, rfl⟩) | fail)
  go_ret
  exact ⟨rfl, rfl⟩

end Go.Proofs.YtnfolmjdicfobaaGreatDoor

namespace Go.Proofs.YtnfolmjdicfobaaGreatDoor
open Go.RowKit
set_option linter.unusedVariables false
set_option linter.unusedSimpArgs false

def GivesL (f : Nat) (a : Option Addr) (n cap : Nat) (a' : Option Addr) (m cap' : Nat) (c v : Int) (w : World) : Prop := Calls Tryz.prog f #[.slice a n cap, .slice a' m cap'] w fun e w' => e = .returned (.agg #[.int .i64 c, .int .i64 v]) ∧ Below w.heap.size w w'

theorem least_less {T : TS} {x : Nat} (h : ¬ IsLeast T x) (hx : x < 256) (hT : T x = true) : ∃ y, y < 256 ∧ T y = true ∧ (pcN y < pcN x ∨ (pcN y = pcN x ∧ y < x)) := by
  apply Classical.byContradiction
  intro q
  refine h ⟨hx, hT, fun y hy hTy => ?_⟩
  apply Classical.byContradiction
  intro r
  exact q ⟨y, hy, hTy, by omega⟩

def rk (x : Nat) : Nat := pcN x * 256 + x
theorem rk_lt {x y : Nat} (hy : y < 256) (h : pcN y < pcN x ∨ (pcN y = pcN x ∧ y < x)) : rk y < rk x := by
  unfold rk
  generalize pcN x = p at h
  generalize pcN y = r at h
  omega

theorem least_some {T : TS} (N : Nat) : ∀ x : Nat, x < 256 → T x = true → rk x ≤ N → ∃ y, IsLeast T y := by
  induction N with
  | zero =>
    intro x hx hT hN
    by_cases h : IsLeast T x
    · exact ⟨x, h⟩
    · obtain ⟨y, hy, _, hl⟩ := least_less h hx hT
      have := rk_lt hy hl
      omega
  | succ N ih =>
    intro x hx hT hN
    by_cases h : IsLeast T x
    · exact ⟨x, h⟩
    · obtain ⟨y, hy, hTy, hl⟩ := least_less h hx hT
      have := rk_lt hy hl
      exact ih y hy hTy (by omega)

/-- What LeastOf tells of told sets. -/
def LeastIs (T : TS) (c v : Int) : Prop := (c = 0 ∧ ∃ x : Nat, v = (x : Int) ∧ IsLeast T x) ∨ (c = 4 ∧ v = 0 ∧ ∀ x, x < 256 → T x = false)

theorem least_is (T : TS) : ∃ c v, LeastIs T c v := by
  by_cases h : ∃ x, x < 256 ∧ T x = true
  · obtain ⟨x, hx, hT⟩ := h
    obtain ⟨y, hy⟩ := least_some _ x hx hT (Nat.le_refl _)
    exact ⟨0, y, .inl ⟨rfl, y, rfl, hy⟩⟩
  · refine ⟨4, 0, .inr ⟨rfl, rfl, fun x hx => ?_⟩⟩
    cases q : T x
    · rfl
    · exact absurd ⟨x, hx, q⟩ h

theorem least_none {T : TS} {c v : Int} (h : LeastIs T c v) (hn : ∀ x, x < 256 → T x = false) : c = 4 ∧ v = 0 := by
  rcases h with ⟨_, x, _, hx⟩ | ⟨h1, h2, _⟩
  · have := hx.2.1
    rw [hn x hx.1] at this; cases this
  · exact ⟨h1, h2⟩

theorem least_at {T : TS} {c v : Int} (h : LeastIs T c v) {x : Nat} (hx : IsLeast T x) : c = 0 ∧ v = (x : Int) := by
  rcases h with ⟨h1, y, h2, hy⟩ | ⟨_, _, hn⟩
  · exact ⟨h1, by rw [h2, least_unique hy hx]⟩
  · have := hx.2.1
    rw [hn x hx.1] at this; cases this

set_option maxRecDepth 100000 in
set_option maxHeartbeats 2000000 in
theorem implLeast_bad (a : Option Addr) (n cap : Nat) (zs : List RuleI) (a' : Option Addr) (m cap' : Nat) (ps : List PartI) (c : Int) (w : World) (hn : n ≤ 1048576) (hm : m ≤ 1048576) (hcap : n ≤ cap) (hcm : cap ≤ maxLen) (h : RulesIn w a n zs) (h' : PartsIn w a' m ps) (hc : manyCode zs ps = c) (h0 : c ≠ 0) :
    GivesL 23 a n cap a' m cap' c 0 w := by
  have HM : Hid (∀ w2 : World, Below w.heap.size w w2 → Calls Tryz.prog 44 #[.slice a n cap, .slice a' m cap'] w2 fun e w' => e = .returned (.int .i64 c) ∧ Below w2.heap.size w2 w') := fun w2 q => by rw [← hc]; exact implMany_c a n cap zs a' m cap' ps w2 hn hm hcap hcm (h.below q) (h'.below q)
  have hcb : (c != 0) = true := by simpa using h0
  clear h h' hc h0
  unfold GivesL
  go_enter Tryz.func23, Tryz.ntmps23
  go_wp2_with fail
  go_step3
  go_wp2_with fail
  refine (HM.out _ ((Below.refl _ _).alloc (Nat.le_refl _) _)).mono ?_
  rintro e w1 ⟨rfl, hb1⟩
  have d0 : w1.cell? ⟨w.heap.size, 0, none⟩ = some (.int .i64 0) := (hb1.cell (p := ⟨w.heap.size, 0, none⟩) (by simp)).trans (by simp)
  have d1 : w1.cell? ⟨w.heap.size, 1, none⟩ = some (.int .i64 0) := (hb1.cell (p := ⟨w.heap.size, 1, none⟩) (by simp)).trans (by simp)
  have g0 : w1.frozen? ⟨w.heap.size, 0, none⟩ = false := (hb1.frozen (p := ⟨w.heap.size, 0, none⟩) (by simp)).trans (by simp [go_sem])
  have g1 : w1.frozen? ⟨w.heap.size, 1, none⟩ = false := (hb1.frozen (p := ⟨w.heap.size, 1, none⟩) (by simp)).trans (by simp [go_sem])
  have hw : w.heap.size < w1.heap.size := by have := hb1.size; simp at this; omega
  have hbx : Below w.heap.size w w1 := below_new hb1
  clear hb1
  go_wp2
  rw [Exit.noGoto_ret]
  refine bodyPost_ret (v := .agg #[.int .i64 c, .int .i64 0]) (by simp [results, Tryz.results23, go_sem, d0, d1, hw]) rfl ⟨rfl, ?_⟩
  exact (hbx.setCell (Nat.le_refl _) _).setCell (Nat.le_refl _) _

set_option maxRecDepth 100000 in
set_option maxHeartbeats 4000000 in
theorem implLeast_ok (a : Option Addr) (n cap : Nat) (zs : List RuleI) (a' : Option Addr) (m cap' : Nat) (ps : List PartI) (gs : List GrI) (c v : Int) (w : World) (hn : n ≤ 1048576) (hm : m ≤ 1048576) (hcap : n ≤ cap) (hcm : cap ≤ maxLen) (h : RulesIn w a n zs) (h' : PartsIn w a' m ps) (hc : manyCode zs ps = 0) (hg : AllG zs gs) (hl : LeastIs (tellsL (ofG gs) ps) c v) :
    GivesL 23 a n cap a' m cap' c v w := by
  have HM : Hid (∀ w2 : World, Below w.heap.size w w2 → Calls Tryz.prog 44 #[.slice a n cap, .slice a' m cap'] w2 fun e w' => e = .returned (.int .i64 0) ∧ Below w2.heap.size w2 w') := fun w2 q => by rw [← hc]; exact implMany_c a n cap zs a' m cap' ps w2 hn hm hcap hcm (h.below q) (h'.below q)
  obtain ⟨T, hT⟩ : ∃ T, T = tellsL (ofG gs) ps := ⟨_, rfl⟩
  rw [← hT] at hl
  have HL : Hid (LeastIs T c v) := hl
  obtain ⟨cT, hcT⟩ : ∃ cT, cT = arrT T := ⟨_, rfl⟩
  have HT : Hid (∀ w2 : World, Below w.heap.size w w2 → Calls Tryz.prog 46 #[.slice a n cap, .slice a' m cap'] w2 fun e w' => e = .returned (.agg cT) ∧ Below w2.heap.size w2 w') := fun w2 q => by rw [hcT, hT]; exact toldBy_c a n cap zs a' m cap' ps gs w2 (h.below q) (many_zero hc).1 hg (h'.below q) (many_zero hc).2
  have HSt : Hid (∀ X : World, (storeCells ⟨X.heap.size, 0, none⟩ cT.toList).run Tryz.prog (X.alloc (.cells (arrT noT) 87)) = .ok () (X.alloc (.cells cT 87))) := fun X => by
    rw [hcT]
    have := storeCells_row (X.alloc (.cells (arrT noT) 87)) X.heap.size noT T (heap_alloc_last _ _)
    rw [World.setRow_alloc_new] at this
    exact this
  have HC : Hid (∀ (X Y : World) (x : Nat), Below (X.alloc (.cells cT 87)).heap.size (X.alloc (.cells cT 87)) Y → x < 256 → Y.cell? ⟨X.heap.size, x, none⟩ = some (.bool (T x))) := fun X Y x hb hx => by
    refine (hb.cell (p := ⟨X.heap.size, x, none⟩) (by simp)).trans ?_
    rw [cell_new, hcT]; exact arrT_at T hx
  have hcs : cT.size = 256 := by rw [hcT]; exact arrT_size T
  have hz := ts_zero
  clear h h' hc hg hT hcT hl
  unfold GivesL
  go_enter Tryz.func23, Tryz.ntmps23
  go_wp2_with fail
  go_step3
  go_wp2_with fail
  refine (HM.out _ ((Below.refl _ _).alloc (Nat.le_refl _) _)).mono ?_
  rintro e w1 ⟨rfl, hb1⟩
  have hw : w.heap.size < w1.heap.size := by have := hb1.size; simp at this; omega
  have hbx : Below w.heap.size w w1 := below_new hb1
  have HBX : Hid ((w1.cell? ⟨w.heap.size, 0, none⟩ = some (.int .i64 0) ∧ w1.cell? ⟨w.heap.size, 1, none⟩ = some (.int .i64 0)) ∧ w1.frozen? ⟨w.heap.size, 0, none⟩ = false ∧ w1.frozen? ⟨w.heap.size, 1, none⟩ = false) :=
    ⟨⟨(hb1.cell (p := ⟨w.heap.size, 0, none⟩) (by simp)).trans (by simp), (hb1.cell (p := ⟨w.heap.size, 1, none⟩) (by simp)).trans (by simp)⟩, (hb1.frozen (p := ⟨w.heap.size, 0, none⟩) (by simp)).trans (by simp [go_sem]), (hb1.frozen (p := ⟨w.heap.size, 1, none⟩) (by simp)).trans (by simp [go_sem])⟩
  clear hb1
  go_wp2_with fail
  refine (HT.out _ hbx).mono ?_
  rintro e X ⟨rfl, hb2⟩
  have hwX : w.heap.size < X.heap.size := Nat.lt_of_lt_of_le hw hb2.size
  have hst := HSt.out X
  obtain ⟨Y, hY⟩ : ∃ Y, Y = (X.alloc (.cells cT 87)).alloc (.cells #[.int .i64 4, .int .i64 0] 37) := ⟨_, rfl⟩
  have AY : Below (X.alloc (.cells cT 87)).heap.size (X.alloc (.cells cT 87)) Y := by rw [hY]; exact (Below.refl _ _).alloc (Nat.le_refl _) _
  have hXY : Below X.heap.size X Y := by rw [hY]; exact ((Below.refl _ _).alloc (Nat.le_refl _) _).alloc (by simp) _
  have HBY : Hid (((Y.cell? ⟨w.heap.size, 0, none⟩ = some (.int .i64 0) ∧ Y.cell? ⟨w.heap.size, 1, none⟩ = some (.int .i64 0)) ∧ Y.frozen? ⟨w.heap.size, 0, none⟩ = false ∧ Y.frozen? ⟨w.heap.size, 1, none⟩ = false) ∧ Below w.heap.size w Y) := by
    have hb3 : Below w1.heap.size w1 Y := hb2.trans (hXY.mono hb2.size)
    exact ⟨⟨⟨(hb3.cell (p := ⟨w.heap.size, 0, none⟩) hw).trans HBX.out.1.1, (hb3.cell (p := ⟨w.heap.size, 1, none⟩) hw).trans HBX.out.1.2⟩, (hb3.frozen (p := ⟨w.heap.size, 0, none⟩) hw).trans HBX.out.2.1, (hb3.frozen (p := ⟨w.heap.size, 1, none⟩) hw).trans HBX.out.2.2⟩, hbx.trans (hb3.mono hbx.size)⟩
  have HCY : Hid (∀ x, x < 256 → Y.cell? ⟨X.heap.size, x, none⟩ = some (.bool (T x))) := fun x hx => HC.out X Y x AY hx
  have l0 : Y.cell? ⟨X.heap.size + 1, 0, none⟩ = some (.int .i64 4) := by rw [hY]; simp
  have l1 : Y.cell? ⟨X.heap.size + 1, 1, none⟩ = some (.int .i64 0) := by rw [hY]; simp
  have k0 : Y.frozen? ⟨X.heap.size + 1, 0, none⟩ = false := by rw [hY]; simp [go_sem]
  have k1 : Y.frozen? ⟨X.heap.size + 1, 1, none⟩ = false := by rw [hY]; simp [go_sem]
  have hYs : Y.heap.size = X.heap.size + 2 := by rw [hY]; simp
  have HLY : Hid ((Y.cell? ⟨X.heap.size + 1, 0, none⟩ = some (.int .i64 4) ∧ Y.cell? ⟨X.heap.size + 1, 1, none⟩ = some (.int .i64 0)) ∧ Y.frozen? ⟨X.heap.size + 1, 0, none⟩ = false ∧ Y.frozen? ⟨X.heap.size + 1, 1, none⟩ = false) := ⟨⟨l0, l1⟩, k0, k1⟩
  clear hb2 HBX hbx hw AY hXY HC HSt l0 l1 k0 k1
  go_wp2_with fail
  go_step3
  go_wp2_with fail
  rw [← hY]
  clear hY hst hz
  obtain ⟨⟨⟨d0, d1⟩, g0, g1⟩, hbY⟩ := HBY.out
  obtain ⟨⟨l0, l1⟩, k0, k1⟩ := HLY.out
  have hwY : w.heap.size < Y.heap.size := by omega
  have hlY : X.heap.size + 1 < Y.heap.size := by omega
  have hne : ¬ w.heap.size = X.heap.size + 1 := by omega
  have hne2 : ¬ X.heap.size + 1 = w.heap.size := by omega
  have HBB : Hid (Below w.heap.size w Y) := hbY
  clear hbY HBY HLY
  go_loopw [21] (fun i wr => ∃ s : Nat, s ≤ 9 ∧ i = .int .i64 (s : Int) ∧ wr = Y ∧ Hid (∀ y, y < 256 → T y = true → s ≤ pcN y)) (fun i _ => 9 - (intOf i).toNat)
  case atStart => exact ⟨0, by omega, rfl, rfl, fun y _ _ => Nat.zero_le _⟩
  case round =>
    obtain ⟨s, hs9, rfl, rfl, HS⟩ := hrel
    by_cases hlt : s < 9
    · have hlt' : (s : Int) < 9 := by omega
      go_wp2_with fail
      go_loopw [24] (fun i wj => ∃ j : Nat, j ≤ 256 ∧ i = .int .i64 (j : Int) ∧ wj = wr ∧ Hid (∀ y, y < 256 → T y = true → s < pcN y ∨ (s = pcN y ∧ j ≤ y))) (fun i _ => 256 - (intOf i).toNat)
      case atStart => exact ⟨0, by omega, rfl, rfl, fun y hy hT => by have := HS.out y hy hT; omega⟩
      case round =>
        obtain ⟨j, hj, rfl, rfl, HJ⟩ := hrel
        by_cases hjl : j < 256
        · have hjl' : (j : Int) < 256 := by omega
          have cj := HCY.out j hjl
          obtain ⟨t, ht⟩ : ∃ t, T j = t := ⟨_, rfl⟩
          have HTj : Hid (T j = t) := ht
          rw [ht] at cj
          clear ht
          cases t
          · have HN : Hid (∀ y, y < 256 → T y = true → s < pcN y ∨ (s = pcN y ∧ j + 1 ≤ y)) := fun y hy hT => by
              rcases HJ.out y hy hT with q | ⟨q1, q2⟩
              · exact .inl q
              · refine .inr ⟨q1, ?_⟩
                by_cases e : y = j
                · rw [e, HTj.out] at hT; cases hT
                · omega
            go_wp2_with fail
            exact ⟨⟨j + 1, by omega, by go_num, by trivial, HN⟩, by simp [intOf]; omega⟩
          · obtain ⟨p, hp⟩ : ∃ p, p = pcN j := ⟨_, rfl⟩
            have HPj : Hid (p = pcN j) := hp
            have HOn : Hid (∀ X' : World, Calls Tryz.prog 58 #[.int .u64 (j : Int)] X' fun e w' => e = .returned (.int .i64 (p : Int)) ∧ X' = w') := fun X' => by rw [hp]; exact ones_small j hjl X'
            have hwr : IntKind.u64.wrap (j : Int) = (j : Int) := by rw [IntKind.wrap_u64]; omega
            clear hp
            by_cases hps : p = s
            · have hb : ((p : Int) == (s : Int)) = true := by simp [hps]
              have HCV : Hid (c = 0 ∧ v = (j : Int)) := least_at HL.out ⟨hjl, HTj.out, fun y hy hT => by have := HJ.out y hy hT; have := HPj.out; omega⟩
              clear hps
              go_wp2_with (first | (go_at_call 58; refine (HOn.out _).mono ?_; rintro e wb ⟨rfl, rfl⟩) | fail)
              (first | rw [Exit.noGoto_ret] | skip)
              refine bodyPost_ret (v := .agg #[.int .i64 0, .int .i64 (j : Int)]) (by simp [results, Tryz.results23, go_sem, d0, d1, hwY]) rfl ⟨by rw [HCV.out.1, HCV.out.2], ?_⟩
              exact (((HBB.out.setCell (by show w.heap.size ≤ X.heap.size + 1; omega) _).setCell (by show w.heap.size ≤ X.heap.size + 1; omega) _).setCell (Nat.le_refl _) _).setCell (Nat.le_refl _) _
            · have hb : ((p : Int) == (s : Int)) = false := by simp; omega
              have HN : Hid (∀ y, y < 256 → T y = true → s < pcN y ∨ (s = pcN y ∧ j + 1 ≤ y)) := fun y hy hT => by
                rcases HJ.out y hy hT with q | ⟨q1, q2⟩
                · exact .inl q
                · refine .inr ⟨q1, ?_⟩
                  by_cases e : y = j
                  · have := HPj.out
                    rw [e] at q1
                    omega
                  · omega
              clear hps
              go_wp2_with (first | (go_at_call 58; refine (HOn.out _).mono ?_; rintro e wb ⟨rfl, rfl⟩) | fail)
              exact ⟨⟨j + 1, by omega, by go_num, by trivial, HN⟩, by simp [intOf]; omega⟩
        · have hje : j = 256 := by omega
          subst hje
          have HN : Hid (∀ y, y < 256 → T y = true → s + 1 ≤ pcN y) := fun y hy hT => by have := HJ.out y hy hT; omega
          go_wp2_with fail
          exact ⟨⟨s + 1, by omega, by go_num, by trivial, HN⟩, by simp [intOf]; omega⟩
    · have hse : s = 9 := by omega
      subst hse
      have HCV : Hid (c = 4 ∧ v = 0) := least_none HL.out (fun x hx => by
        cases q : T x
        · rfl
        · have h1 := HS.out x hx q
          have h2 := pc_le ⟨x, hx⟩
          simp only at h2
          omega)
      go_wp2_with fail
      (first | rw [Exit.noGoto_ret] | skip)
      refine bodyPost_ret (v := .agg #[.int .i64 4, .int .i64 0]) (by simp [results, Tryz.results23, go_sem, d0, d1, hwY]) rfl ⟨by rw [HCV.out.1, HCV.out.2], ?_⟩
      exact (HBB.out.setCell (Nat.le_refl _) _).setCell (Nat.le_refl _) _

theorem mem_sets {T : TS} {z : Int} : z ∈ setsL T ↔ ∃ x : Nat, x < 256 ∧ T x = true ∧ z = (x : Int) := by
  unfold setsL setsTo
  rw [List.mem_map]
  constructor
  · rintro ⟨x, hx, rfl⟩
    rw [List.mem_filter, List.mem_range] at hx
    exact ⟨x, hx.1, hx.2, rfl⟩
  · rintro ⟨x, h1, h2, rfl⟩
    exact ⟨x, List.mem_filter.2 ⟨List.mem_range.2 h1, h2⟩, rfl⟩

theorem sets_up (T : TS) : (setsL T).Pairwise (· < ·) := by
  unfold setsL setsTo
  rw [List.pairwise_map]
  exact ((List.pairwise_lt_range (n := 256)).filter T).imp (fun {a b} h => by omega)

theorem sets_lt {T : TS} {i j : Nat} {x y : Int} (hij : i < j) (hx : (setsL T)[i]? = some x) (hy : (setsL T)[j]? = some y) : x < y := by
  obtain ⟨hi, rfl⟩ := List.getElem?_eq_some_iff.1 hx
  obtain ⟨hj, rfl⟩ := List.getElem?_eq_some_iff.1 hy
  exact List.pairwise_iff_getElem.1 (sets_up T) i j hi hj hij

theorem sets_nth {T : TS} {ls : List Int} (h : ls = setsL T) {k : Nat} (hk : k < ls.length) : ∃ y : Nat, ls[k]? = some (y : Int) ∧ y < 256 := by
  subst h
  have hm := List.getElem_mem (l := setsL T) hk
  obtain ⟨x, h1, h2, h3⟩ := mem_sets.1 hm
  exact ⟨x, by rw [List.getElem?_eq_getElem hk, h3], h1⟩

set_option maxRecDepth 100000 in
set_option maxHeartbeats 2000000 in
theorem specLeast_bad (a : Option Addr) (n cap : Nat) (a' : Option Addr) (m cap' : Nat) (c : Int) (w : World) (h0 : c ≠ 0) (HM : Hid (∀ w2 : World, Below w.heap.size w w2 → GivesN 34 a n cap a' m cap' c [] w2)) :
    GivesL 24 a n cap a' m cap' c 0 w := by
  have hcb : (c != 0) = true := by simpa using h0
  clear h0
  unfold GivesL
  go_enter Tryz.func24, Tryz.ntmps24
  go_wp2_with fail
  refine (HM.out _ ((Below.refl _ _).alloc (Nat.le_refl _) _)).mono ?_
  rintro e w1 ⟨a1, cap1, rfl, _, hb1⟩
  have d0 : w1.cell? ⟨w.heap.size, 0, none⟩ = some (.int .i64 0) := (hb1.cell (p := ⟨w.heap.size, 0, none⟩) (by simp)).trans (by simp)
  have d1 : w1.cell? ⟨w.heap.size, 1, none⟩ = some (.int .i64 0) := (hb1.cell (p := ⟨w.heap.size, 1, none⟩) (by simp)).trans (by simp)
  have g0 : w1.frozen? ⟨w.heap.size, 0, none⟩ = false := (hb1.frozen (p := ⟨w.heap.size, 0, none⟩) (by simp)).trans (by simp [go_sem])
  have g1 : w1.frozen? ⟨w.heap.size, 1, none⟩ = false := (hb1.frozen (p := ⟨w.heap.size, 1, none⟩) (by simp)).trans (by simp [go_sem])
  have hw : w.heap.size < w1.heap.size := by have := hb1.size; simp at this; omega
  have hbx : Below w.heap.size w w1 := below_new hb1
  clear hb1
  go_wp2
  refine bodyPost_ret (v := .agg #[.int .i64 c, .int .i64 0]) (by simp [results, Tryz.results24, go_sem, d0, d1, hw]) rfl ⟨rfl, ?_⟩
  first
    | exact ((hbx.setCell (Nat.le_refl _) _).setCell (Nat.le_refl _) _).alloc (by simp only [World.size_setCell]; exact hbx.size) _
    | exact ((hbx.alloc hbx.size _).setCell (Nat.le_refl _) _).setCell (Nat.le_refl _) _

set_option maxRecDepth 100000 in
set_option maxHeartbeats 4000000 in
theorem specLeast_ok (a : Option Addr) (n cap : Nat) (a' : Option Addr) (m cap' : Nat) (T : TS) (c v : Int) (w : World) (hl : LeastIs T c v) (HM : Hid (∀ w2 : World, Below w.heap.size w w2 → GivesN 34 a n cap a' m cap' 0 (setsL T) w2)) :
    GivesL 24 a n cap a' m cap' c v w := by
  have HL : Hid (LeastIs T c v) := hl
  obtain ⟨ls, hls⟩ : ∃ ls, ls = setsL T := ⟨_, rfl⟩
  rw [← hls] at HM
  have HLs : Hid (ls = setsL T) := hls
  have hlen : ls.length ≤ 256 := by rw [hls]; exact setsTo_len T 256
  clear hl hls
  unfold GivesL
  go_enter Tryz.func24, Tryz.ntmps24
  go_wp2_with fail
  refine (HM.out _ ((Below.refl _ _).alloc (Nat.le_refl _) _)).mono ?_
  rintro e w1 ⟨a1, cap1, rfl, hown, hb1⟩
  have hw : w.heap.size < w1.heap.size := by have := hb1.size; simp at this; omega
  have hbx : Below w.heap.size w w1 := below_new hb1
  obtain ⟨W, hW⟩ : ∃ W, W = w1.alloc (.cells #[.int .i64 0, .slice a1 ls.length cap1] 65) := ⟨_, rfl⟩
  have AW : Below w1.heap.size w1 W := by rw [hW]; exact (Below.refl _ _).alloc (Nat.le_refl _) _
  have HRW : Hid (RowIn W a1 ls.length ls) := (row_of_owns hown).below AW
  have hWs : W.heap.size = w1.heap.size + 1 := by rw [hW]; simp
  have HBW : Hid (((W.cell? ⟨w.heap.size, 0, none⟩ = some (.int .i64 0) ∧ W.cell? ⟨w.heap.size, 1, none⟩ = some (.int .i64 0)) ∧ W.frozen? ⟨w.heap.size, 0, none⟩ = false ∧ W.frozen? ⟨w.heap.size, 1, none⟩ = false) ∧ Below w.heap.size w W) := by
    refine ⟨⟨⟨?_, ?_⟩, ?_, ?_⟩, hbx.trans (AW.mono hbx.size)⟩
    · exact (AW.cell (p := ⟨w.heap.size, 0, none⟩) hw).trans ((hb1.cell (p := ⟨w.heap.size, 0, none⟩) (by simp)).trans (by simp))
    · exact (AW.cell (p := ⟨w.heap.size, 1, none⟩) hw).trans ((hb1.cell (p := ⟨w.heap.size, 1, none⟩) (by simp)).trans (by simp))
    · exact (AW.frozen (p := ⟨w.heap.size, 0, none⟩) hw).trans ((hb1.frozen (p := ⟨w.heap.size, 0, none⟩) (by simp)).trans (by simp [go_sem]))
    · exact (AW.frozen (p := ⟨w.heap.size, 1, none⟩) hw).trans ((hb1.frozen (p := ⟨w.heap.size, 1, none⟩) (by simp)).trans (by simp [go_sem]))
  have r0 : W.cell? ⟨w1.heap.size, 0, none⟩ = some (.int .i64 0) := by rw [hW]; simp
  have r1 : W.cell? ⟨w1.heap.size, 1, none⟩ = some (.slice a1 ls.length cap1) := by rw [hW]; simp
  have hlen' : (ls.length : Int) ≤ 256 := by omega
  clear hown hb1 hbx AW
  go_upto_region 2 with fail
  rw [← hW]
  clear hW
  obtain ⟨⟨⟨d0, d1⟩, g0, g1⟩, hbW⟩ := HBW.out
  have hwW : w.heap.size < W.heap.size := by omega
  have hrW : w1.heap.size < W.heap.size := by omega
  obtain ⟨q, hq⟩ : ∃ q, q = w1.heap.size := ⟨_, rfl⟩
  rw [← hq] at r0 r1 hrW ⊢
  clear hq hWs hw
  by_cases h0 : ls.length = 0
  · have h0b : ((ls.length : Int) == 0) = true := by simp [h0]
    have HCV : Hid (c = 4 ∧ v = 0) := least_none HL.out (fun x hx => by
      cases qq : T x
      · rfl
      · have : ((x : Nat) : Int) ∈ setsL T := mem_sets.2 ⟨x, hx, qq, rfl⟩
        rw [← HLs.out, List.length_eq_zero_iff.1 h0] at this
        simp at this)
    have HBB : Hid (Below w.heap.size w W) := hbW
    clear h0
    go_wp2_with fail
    refine bodyPost_ret (v := .agg #[.int .i64 4, .int .i64 0]) (by simp [results, Tryz.results24, go_sem, d0, d1, hwW]) rfl ⟨by rw [HCV.out.1, HCV.out.2], ?_⟩
    exact (HBB.out.setCell (Nat.le_refl _) _).setCell (Nat.le_refl _) _
  · have h0b : ((ls.length : Int) == 0) = false := by simp [h0]
    have hpos : 0 < ls.length := by omega
    have hpos' : (0 : Int) < (ls.length : Int) := by omega
    obtain ⟨ab, ao, rfl, hc0⟩ := HRW.out.2 0 hpos
    obtain ⟨b0, hb0⟩ : ∃ b0 : Nat, ls[0]? = some (b0 : Int) ∧ b0 < 256 := sets_nth HLs.out hpos
    rw [hb0.1] at hc0
    simp only [Nat.add_zero, Option.getD_some] at hc0
    have HB0 : Hid (ls[0]? = some (b0 : Int) ∧ b0 < 256) := hb0
    have HBB : Hid (Below w.heap.size w W) := hbW
    clear h0 hb0 hbW
    go_wp2_with fail
    go_loopw [6, 7] (fun bv i wr => ∃ (k b p : Nat), 1 ≤ k ∧ k ≤ ls.length ∧ i = .int .i64 (k : Int) ∧ bv = .int .i64 (b : Int) ∧ Hid (b < 256 ∧ p < k ∧ ls[p]? = some (b : Int) ∧ ∀ (j y : Nat), j < k → ls[j]? = some (y : Int) → pcN b < pcN y ∨ (pcN b = pcN y ∧ b ≤ y)) ∧ Below W.heap.size W wr) (fun _ i _ => ls.length - (intOf i).toNat)
    case atStart => exact ⟨1, b0, 0, by omega, by omega, rfl, rfl, ⟨HB0.out.2, by omega, HB0.out.1, fun j y hj hy => (by
      obtain rfl : j = 0 := by omega
      rw [HB0.out.1] at hy
      have h3 := Option.some.inj hy
      obtain rfl : b0 = y := by omega
      exact .inr ⟨rfl, Nat.le_refl _⟩)⟩, Below.refl _ _⟩
    case round =>
      obtain ⟨k, b, p, hk1, hk, rfl, rfl, HK, hnx⟩ := hrel
      have s1 := (hnx.cell (p := ⟨q, 1, none⟩) hrW).trans r1
      have hqr : q < wr.heap.size := Nat.lt_of_lt_of_le hrW hnx.size
      have hb256 := HK.out.1
      by_cases hlt : k < ls.length
      · have hlt' : (k : Int) < (ls.length : Int) := by omega
        obtain ⟨ab', ao', e', hck⟩ := (HRW.out.below hnx).2 k hlt
        cases e'
        obtain ⟨y, hy⟩ : ∃ y : Nat, ls[k]? = some (y : Int) ∧ y < 256 := sets_nth HLs.out hlt
        rw [hy.1] at hck
        simp only [Option.getD_some] at hck
        have hab : ab < wr.heap.size := World.block_lt_of_cell? wr _ hck
        have HY : Hid (ls[k]? = some (y : Int)) := hy.1
        have hy256 := hy.2
        clear hy
        obtain ⟨py, hpy⟩ : ∃ py, py = pcN y := ⟨_, rfl⟩
        obtain ⟨pb, hpb⟩ : ∃ pb, pb = pcN b := ⟨_, rfl⟩
        have HPP : Hid (py = pcN y ∧ pb = pcN b) := ⟨hpy, hpb⟩
        have HL1 : Hid (∀ X' : World, Calls Tryz.prog 59 #[.int .i64 (y : Int)] X' fun e w' => ∃ g cap, e = .returned (.slice (some ⟨g, 0, none⟩) py cap) ∧ Below X'.heap.size X' w') := fun X' => (l1List_c (y : Int) (by omega) (by omega) X').mono (fun e w' ⟨g, cp, h1, h2, h3⟩ => ⟨g, cp, by rw [hpy]; exact h1, h3⟩)
        have HL2 : Hid (∀ X' : World, Calls Tryz.prog 59 #[.int .i64 (b : Int)] X' fun e w' => ∃ g cap, e = .returned (.slice (some ⟨g, 0, none⟩) pb cap) ∧ Below X'.heap.size X' w') := fun X' => (l1List_c (b : Int) (by omega) (by omega) X').mono (fun e w' ⟨g, cp, h1, h2, h3⟩ => ⟨g, cp, by rw [hpb]; exact h1, h3⟩)
        clear hpy hpb
        go_wp2_with fail
        refine (HL1.out _).mono ?_
        rintro e w3 ⟨g3, c3, rfl, hb3⟩
        go_wp2_with fail
        refine (HL2.out _).mono ?_
        rintro e w4 ⟨g4, c4, rfl, hb4'⟩
        have hb4 : Below wr.heap.size wr w4 := hb3.trans (hb4'.mono hb3.size)
        have hnx4 : Below W.heap.size W w4 := hnx.trans (hb4.mono hnx.size)
        have z1 := (hb4.cell (p := ⟨q, 1, none⟩) hqr).trans s1
        have z2 := (hb4.cell (p := ⟨ab, ao + k, none⟩) hab).trans hck
        clear hb3 hb4' hb4 s1 hck
        by_cases hpl : py < pb
        · have hpl' : (py : Int) < (pb : Int) := by omega
          have HN : Hid (y < 256 ∧ k < k + 1 ∧ ls[k]? = some (y : Int) ∧ ∀ (j z : Nat), j < k + 1 → ls[j]? = some (z : Int) → pcN y < pcN z ∨ (pcN y = pcN z ∧ y ≤ z)) := ⟨hy256, by omega, HY.out, fun j z hj hz => by
            have h1 := HPP.out.1
            have h2 := HPP.out.2
            by_cases ej : j = k
            · subst ej
              rw [HY.out] at hz
              have h3 := Option.some.inj hz
              obtain rfl : y = z := by omega
              exact .inr ⟨rfl, Nat.le_refl _⟩
            · have := HK.out.2.2.2 j z (by omega) hz
              omega⟩
          clear hpl
          go_wp2_with fail
          exact ⟨⟨k + 1, y, k, by omega, by omega, by go_num, rfl, HN, hnx4⟩, by simp [intOf]; omega⟩
        · have hpl' : ¬ ((py : Int) < (pb : Int)) := by omega
          have HN : Hid (b < 256 ∧ p < k + 1 ∧ ls[p]? = some (b : Int) ∧ ∀ (j z : Nat), j < k + 1 → ls[j]? = some (z : Int) → pcN b < pcN z ∨ (pcN b = pcN z ∧ b ≤ z)) := ⟨HK.out.1, by have := HK.out.2.1; omega, HK.out.2.2.1, fun j z hj hz => by
            have h1 := HPP.out.1
            have h2 := HPP.out.2
            by_cases ej : j = k
            · subst ej
              have hz2 := hz
              rw [HY.out] at hz
              have e3 := Option.some.inj hz
              have hlt2 : (b : Int) < (y : Int) := sets_lt (T := T) HK.out.2.1 (by rw [← HLs.out]; exact HK.out.2.2.1) (by rw [← HLs.out]; exact HY.out)
              have : z = y := by omega
              subst this
              omega
            · exact HK.out.2.2.2 j z (by omega) hz⟩
          clear hpl
          go_wp2_with fail
          exact ⟨⟨k + 1, b, p, by omega, by omega, by go_num, rfl, HN, hnx4⟩, by simp [intOf]; omega⟩
      · have hke : k = ls.length := by omega
        have HCV : Hid (c = 0 ∧ v = (b : Int)) := by
          refine least_at HL.out ⟨HK.out.1, ?_, fun y hy hT => ?_⟩
          · have hm := List.mem_of_getElem? HK.out.2.2.1
            rw [HLs.out] at hm
            obtain ⟨x, h1, h2, h3⟩ := mem_sets.1 hm
            obtain rfl : b = x := by omega
            exact h2
          · have hm : ((y : Nat) : Int) ∈ ls := by rw [HLs.out]; exact mem_sets.2 ⟨y, hy, hT, rfl⟩
            obtain ⟨j, hj⟩ := List.mem_iff_getElem?.1 hm
            have hjl : j < ls.length := (List.getElem?_eq_some_iff.1 hj).1
            exact HK.out.2.2.2 j y (by omega) hj
        have hlt' : ¬ ((k : Int) < (ls.length : Int)) := by omega
        have y0 := (hnx.cell (p := ⟨w.heap.size, 0, none⟩) hwW).trans d0
        have y1 := (hnx.cell (p := ⟨w.heap.size, 1, none⟩) hwW).trans d1
        have x0 := (hnx.frozen (p := ⟨w.heap.size, 0, none⟩) hwW).trans g0
        have x1 := (hnx.frozen (p := ⟨w.heap.size, 1, none⟩) hwW).trans g1
        have hwr : w.heap.size < wr.heap.size := Nat.lt_of_lt_of_le hwW hnx.size
        have HBr : Hid (Below w.heap.size w wr) := HBB.out.trans (hnx.mono HBB.out.size)
        clear hke hlt
        go_wp2_with fail
        refine bodyPost_ret (v := .agg #[.int .i64 0, .int .i64 (b : Int)]) (by simp [results, Tryz.results24, go_sem, y0, y1, hwr]) rfl ⟨by rw [HCV.out.1, HCV.out.2], ?_⟩
        exact (HBr.out.setCell (Nat.le_refl _) _).setCell (Nat.le_refl _) _

end Go.Proofs.YtnfolmjdicfobaaGreatDoor

namespace Go.Proofs.YtnfolmjdicfobaaGreatDoor
open Go.RowKit
set_option linter.unusedVariables false

/-- The digit of a principal. -/
def digitB (p : Int) : UInt8 := UInt8.ofNat (48 + p.toNat)

/-- The first k of a list, as digits with commas between. -/
def bodyTo (zs : List Int) : Nat → List UInt8
  | 0 => []
  | k + 1 => bodyTo zs k ++ (if 0 < k then [44] else []) ++ [digitB (zs[k]?.getD 0)]

/-- A set's text. -/
def textI (s : Int) : ByteArray := ⟨(123 :: (bodyTo (listTo s 8) (listTo s 8).length ++ [125])).toArray⟩

theorem bodyTo_len (zs : List Int) (k : Nat) : (bodyTo zs k).length ≤ 2 * k := by
  induction k with
  | zero => simp [bodyTo]
  | succ k ih =>
    simp only [bodyTo, List.length_append, List.length_cons, List.length_nil]
    split <;> simp <;> omega

theorem textI_size (s : Int) (s0 : 0 ≤ s) (s1 : s ≤ 255) : 2 ≤ (textI s).size ∧ (textI s).size ≤ 18 := by
  have h1 := bodyTo_len (listTo s 8) (listTo s 8).length
  have h2 := listTo_le s 8
  simp [textI, ByteArray.size]
  omega

theorem listTo_mem (s : Int) (m : Nat) : ∀ k, k < (listTo s m).length → 1 ≤ (listTo s m)[k]?.getD 0 ∧ (listTo s m)[k]?.getD 0 ≤ m := by
  induction m with
  | zero => intro k hk; simp [listTo] at hk
  | succ m ih =>
    intro k hk
    simp only [listTo] at hk ⊢
    split at hk <;> rename_i hh
    · rw [if_pos hh]
      by_cases e : k < (listTo s m).length
      · rw [List.getElem?_append_left e]
        have := ih k e
        omega
      · have e2 : k = (listTo s m).length := by simp at hk; omega
        subst e2
        simp
        omega
    · rw [if_neg hh]
      have := ih k hk
      omega

theorem text_first {T : ByteArray} {zs : List Int} {y : Int} (hT : T = ⟨(123 :: bodyTo zs 0).toArray⟩) (hy : y = zs[0]?.getD 0) : T ++ ⟨#[digitB y]⟩ = ⟨(123 :: bodyTo zs 1).toArray⟩ := by
  subst hT hy
  rw [ByteArray.mk_append_mk]
  simp [bodyTo]

theorem text_next {T : ByteArray} {zs : List Int} {y : Int} {k : Nat} (hk : 0 < k) (hT : T = ⟨(123 :: bodyTo zs k).toArray⟩) (hy : y = zs[k]?.getD 0) : T ++ ⟨#[44]⟩ ++ ⟨#[digitB y]⟩ = ⟨(123 :: bodyTo zs (k + 1)).toArray⟩ := by
  subst hT hy
  rw [ByteArray.mk_append_mk, ByteArray.mk_append_mk]
  simp [bodyTo, hk]

theorem text_last {T : ByteArray} {s : Int} (hT : T = ⟨(123 :: bodyTo (listTo s 8) (listTo s 8).length).toArray⟩) : T ++ ⟨#[125]⟩ = textI s := by
  subst hT
  rw [ByteArray.mk_append_mk]
  simp [textI]

theorem conv1 (w : World) (x : Int) (b : UInt8) (hx : (b.toNat : Int) = x) :
    (convert 22 9 (.slice (some ⟨w.heap.size, 0, none⟩) 1 1)).run Tryz.prog (w.alloc (.cells #[.int .u8 x] 5)) = .ok (.string ⟨#[b]⟩) (w.alloc (.cells #[.int .u8 x] 5)) := by
  have h := run_convert_bytes_back (P := Tryz.prog) (w.alloc (.cells #[.int .u8 x] 5)) 22 9 5 ⟨w.heap.size, 0, none⟩ 1 [b] Tryz.underlying22 Tryz.underlying5 Tryz.underlying9
    (fun j hj => by
      match j, hj with
      | 0, _ => simp [Addr.add, hx])
  simpa using h

set_option maxHeartbeats 400000 in
theorem l1Digits_c (p : Int) (p0 : 1 ≤ p) (p1 : p ≤ 8) (w : World) :
    Calls Tryz.prog 40 #[.int .i64 p] w fun e w' => e = .returned (.string ⟨#[digitB p]⟩) ∧ Below w.heap.size w w' := by
  have hp : p = 1 ∨ p = 2 ∨ p = 3 ∨ p = 4 ∨ p = 5 ∨ p = 6 ∨ p = 7 ∨ p = 8 := by omega
  rcases hp with rfl | rfl | rfl | rfl | rfl | rfl | rfl | rfl
  · have hcv := conv1 w 49 49 rfl
    go_enter Tryz.func40, Tryz.ntmps40
    go_wp2
    go_ret
    exact ⟨rfl, (Below.refl _ _).alloc (Nat.le_refl _) _⟩
  · have hcv := conv1 w 50 50 rfl
    go_enter Tryz.func40, Tryz.ntmps40
    go_wp2
    go_ret
    exact ⟨rfl, (Below.refl _ _).alloc (Nat.le_refl _) _⟩
  · have hcv := conv1 w 51 51 rfl
    go_enter Tryz.func40, Tryz.ntmps40
    go_wp2
    go_ret
    exact ⟨rfl, (Below.refl _ _).alloc (Nat.le_refl _) _⟩
  · have hcv := conv1 w 52 52 rfl
    go_enter Tryz.func40, Tryz.ntmps40
    go_wp2
    go_ret
    exact ⟨rfl, (Below.refl _ _).alloc (Nat.le_refl _) _⟩
  · have hcv := conv1 w 53 53 rfl
    go_enter Tryz.func40, Tryz.ntmps40
    go_wp2
    go_ret
    exact ⟨rfl, (Below.refl _ _).alloc (Nat.le_refl _) _⟩
  · have hcv := conv1 w 54 54 rfl
    go_enter Tryz.func40, Tryz.ntmps40
    go_wp2
    go_ret
    exact ⟨rfl, (Below.refl _ _).alloc (Nat.le_refl _) _⟩
  · have hcv := conv1 w 55 55 rfl
    go_enter Tryz.func40, Tryz.ntmps40
    go_wp2
    go_ret
    exact ⟨rfl, (Below.refl _ _).alloc (Nat.le_refl _) _⟩
  · have hcv := conv1 w 56 56 rfl
    go_enter Tryz.func40, Tryz.ntmps40
    go_wp2
    go_ret
    exact ⟨rfl, (Below.refl _ _).alloc (Nat.le_refl _) _⟩

end Go.Proofs.YtnfolmjdicfobaaGreatDoor

namespace Go.Proofs
open Go.Shelf
def Tryz.lays156_ren : Go.Shelf.Ren := ⟨fun | 156 => 79 | 165 => 119 | 166 => 120 | 169 => 121 | 240 => 149 | 241 => 150 | 276 => 164 | 277 => 165 | n => n, fun | 31 => 103 | 9 => 9 | 3 => 3 | 4 => 4 | 0 => 0 | 20 => 20 | 72 => 170 | 76 => 174 | 70 => 168 | 37 => 22 | 75 => 173 | 127 => 207 | 164 => 226 | 5 => 5 | 80 => 152 | n => n, fun | n => n⟩
theorem Tryz.lays156 : Go.Proofs.Lays.n156 Tryz.prog Tryz.lays156_ren := {
  mixed := by kernel_rfl
  f156 := Tryz.func79.trans (congrArg some (by kernel_rfl))
  f165 := Tryz.func119.trans (congrArg some (by kernel_rfl))
  f166 := Tryz.func120.trans (congrArg some (by kernel_rfl))
  f169 := Tryz.func121.trans (congrArg some (by kernel_rfl))
  f240 := Tryz.func149.trans (congrArg some (by kernel_rfl))
  f241 := Tryz.func150.trans (congrArg some (by kernel_rfl))
  f276 := Tryz.func164.trans (congrArg some (by kernel_rfl))
  f277 := Tryz.func165.trans (congrArg some (by kernel_rfl))
  t0 := Tryz.underlying0
  a0 := Tryz.isAgg0
  z0 := Tryz.sizeOf0
  v0 := Tryz.zeroValue0
  t3 := Tryz.underlying3
  a3 := Tryz.isAgg3
  z3 := Tryz.sizeOf3
  v3 := Tryz.zeroValue3
  t4 := Tryz.underlying4
  a4 := Tryz.isAgg4
  z4 := Tryz.sizeOf4
  v4 := Tryz.zeroValue4
  t9 := Tryz.underlying9
  a9 := Tryz.isAgg9
  z9 := Tryz.sizeOf9
  v9 := Tryz.zeroValue9
  t20 := Tryz.underlying20
  a20 := Tryz.isAgg20
  z20 := Tryz.sizeOf20
  v20 := Tryz.zeroValue20
  t31 := Tryz.underlying103
  a31 := Tryz.isAgg103
  z31 := Tryz.sizeOf103
  v31 := Tryz.zeroValue103
  t37 := Tryz.underlying22
  a37 := Tryz.isAgg22
  z37 := Tryz.sizeOf22
  v37 := Tryz.zeroValue22
  t70 := Tryz.underlying168
  a70 := Tryz.isAgg168
  z70 := Tryz.sizeOf168
  v70 := Tryz.zeroValue168
  t72 := Tryz.underlying170
  a72 := Tryz.isAgg170
  z72 := Tryz.sizeOf170
  v72 := Tryz.zeroValue170
  t75 := Tryz.underlying173
  a75 := Tryz.isAgg173
  z75 := Tryz.sizeOf173
  v75 := Tryz.zeroValue173
  t76 := Tryz.underlying174
  a76 := Tryz.isAgg174
  z76 := Tryz.sizeOf174
  v76 := Tryz.zeroValue174
  t127 := Tryz.underlying207
  a127 := Tryz.isAgg207
  z127 := Tryz.sizeOf207
  v127 := Tryz.zeroValue207
  t164 := Tryz.underlying226
  a164 := Tryz.isAgg226
  z164 := Tryz.sizeOf226
  v164 := Tryz.zeroValue226 }
theorem Tryz.Builder_Extra_156 : Builder.Extra Tryz.prog Tryz.lays156_ren := {
  sizeBuilder := by kernel_rfl
  liesBuilder := by kernel_rfl
  t5 := Tryz.underlying5
  a5 := Tryz.isAgg5
  z5 := Tryz.sizeOf5
  v5 := Tryz.zeroValue5
  infoByte := by kernel_rfl
  cellsByte := by kernel_rfl
  sizeByte := by kernel_rfl
  neB5 := by decide }
open Go.RowKit in
theorem Tryz.strings_Join_none (a : Option Addr) (c : Nat) (sep : ByteArray) (w : World) :
    Calls Tryz.prog 79 #[.slice a 0 c, .string sep] w fun e w' => e = .returned (.string ⟨#[]⟩) ∧ w' = w := Any.strings_Join_none Tryz.lays156 Tryz.Builder_Extra_156 a c sep w
open Go.RowKit in
theorem Tryz.strings_Join (bk o c : Nat) (xs : List ByteArray) (sep : ByteArray) (w : World) (hcells : ∀ (j : Nat) x, xs[j]? = some x → w.cell? ⟨bk, o + j, none⟩ = some (.string x)) (hbk : bk < w.heap.size) (hN : xs.length ≤ 140737488355328) (hcap : xs.length ≤ c) (hlen : (Lib.join (xs.map (·.data.toList)) sep.data.toList).length ≤ 140737488355328) :
    Calls Tryz.prog 79 #[.slice (some ⟨bk, o, none⟩) xs.length c, .string sep] w fun e w' => e = .returned (.string ⟨(Lib.join (xs.map (·.data.toList)) sep.data.toList).toArray⟩) ∧ Below w.heap.size w w' := Any.strings_Join Tryz.lays156 Tryz.Builder_Extra_156 bk o c xs sep w hcells hbk hN hcap hlen
def Tryz.lays173_ren : Go.Shelf.Ren := ⟨fun | 173 => 115 | 246 => 146 | 283 => 159 | 284 => 160 | 285 => 161 | 286 => 162 | 129 => 168 | 317 => 167 | 318 => 169 | 319 => 170 | 320 => 171 | 337 => 172 | 338 => 173 | n => n, fun | 2 => 2 | 3 => 3 | 9 => 9 | 4 => 4 | 171 => 221 | 0 => 0 | 53 => 150 | 37 => 22 | 5 => 5 | 173 => 223 | 212 => 232 | 51 => 148 | 20 => 20 | 213 => 233 | 46 => 100 | 232 => 235 | 233 => 236 | n => n, fun | 17 => 0 | 18 => 2 | 19 => 3 | n => n⟩
theorem Tryz.lays173 : Go.Proofs.Lays.n173 Tryz.prog Tryz.lays173_ren := {
  mixed := by kernel_rfl
  f129 := Tryz.func168.trans (congrArg some (by kernel_rfl))
  f173 := Tryz.func115.trans (congrArg some (by kernel_rfl))
  f246 := Tryz.func146.trans (congrArg some (by kernel_rfl))
  f283 := Tryz.func159.trans (congrArg some (by kernel_rfl))
  f284 := Tryz.func160.trans (congrArg some (by kernel_rfl))
  f285 := Tryz.func161.trans (congrArg some (by kernel_rfl))
  f286 := Tryz.func162.trans (congrArg some (by kernel_rfl))
  f317 := Tryz.func167.trans (congrArg some (by kernel_rfl))
  f318 := Tryz.func169.trans (congrArg some (by kernel_rfl))
  f319 := Tryz.func170.trans (congrArg some (by kernel_rfl))
  f320 := Tryz.func171.trans (congrArg some (by kernel_rfl))
  f337 := Tryz.func172.trans (congrArg some (by kernel_rfl))
  f338 := Tryz.func173.trans (congrArg some (by kernel_rfl))
  t0 := Tryz.underlying0
  a0 := Tryz.isAgg0
  z0 := Tryz.sizeOf0
  v0 := Tryz.zeroValue0
  t2 := Tryz.underlying2
  a2 := Tryz.isAgg2
  z2 := Tryz.sizeOf2
  v2 := Tryz.zeroValue2
  t3 := Tryz.underlying3
  a3 := Tryz.isAgg3
  z3 := Tryz.sizeOf3
  v3 := Tryz.zeroValue3
  t4 := Tryz.underlying4
  a4 := Tryz.isAgg4
  z4 := Tryz.sizeOf4
  v4 := Tryz.zeroValue4
  t5 := Tryz.underlying5
  a5 := Tryz.isAgg5
  z5 := Tryz.sizeOf5
  v5 := Tryz.zeroValue5
  t9 := Tryz.underlying9
  a9 := Tryz.isAgg9
  z9 := Tryz.sizeOf9
  v9 := Tryz.zeroValue9
  t20 := Tryz.underlying20
  a20 := Tryz.isAgg20
  z20 := Tryz.sizeOf20
  v20 := Tryz.zeroValue20
  t37 := Tryz.underlying22
  a37 := Tryz.isAgg22
  z37 := Tryz.sizeOf22
  v37 := Tryz.zeroValue22
  t46 := Tryz.underlying100
  a46 := Tryz.isAgg100
  z46 := Tryz.sizeOf100
  v46 := Tryz.zeroValue100
  t51 := Tryz.underlying148
  a51 := Tryz.isAgg148
  z51 := Tryz.sizeOf148
  v51 := Tryz.zeroValue148
  t53 := Tryz.underlying150
  a53 := Tryz.isAgg150
  z53 := Tryz.sizeOf150
  v53 := Tryz.zeroValue150
  t171 := Tryz.underlying221
  a171 := Tryz.isAgg221
  z171 := Tryz.sizeOf221
  v171 := Tryz.zeroValue221
  t173 := Tryz.underlying223
  a173 := Tryz.isAgg223
  z173 := Tryz.sizeOf223
  v173 := Tryz.zeroValue223
  t212 := Tryz.underlying232
  a212 := Tryz.isAgg232
  z212 := Tryz.sizeOf232
  v212 := Tryz.zeroValue232
  t213 := Tryz.underlying233
  a213 := Tryz.isAgg233
  z213 := Tryz.sizeOf233
  t232 := Tryz.underlying235
  a232 := Tryz.isAgg235
  z232 := Tryz.sizeOf235
  v232 := Tryz.zeroValue235
  t233 := Tryz.underlying236
  a233 := Tryz.isAgg236
  z233 := Tryz.sizeOf236
  v233 := Tryz.zeroValue236
  g17 := by kernel_rfl
  g18 := by kernel_rfl
  g19 := by kernel_rfl }
open Go.RowKit Go.Sort Go.Lib in
theorem Tryz.strconv_FormatInt_10_small (i : Nat) (hi : i < 100) (w : World) :
    Calls Tryz.prog 115 #[.int .i64 i, .int .i64 10] w fun e w' => e = .returned (.string ⟨(Lib.decDigits i).toArray⟩) ∧ w' = w := Any.strconv_FormatInt_10_small Tryz.lays173 i hi w
end Go.Proofs
