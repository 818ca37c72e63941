/-
  WHAT AN ARGUMENT LOOKS LIKE: a slice of parts, out of its reading.
  Conditions: each fact bears its own.
  CONTRACT: math/bits.OnesCount of small numbers.
  Conditions: each contract bears its own.
  CONTRACTS: LeastOf of both programs.
  Conditions: each contract bears its own.
-/
import Derived.Test.YtocdclgolhhckaaPk19
import Derived.Test.YtocdclgolhhckaaPk26
import Derived.Test.YtocdclgolhhckaaPk04
import Derived.Test.YtocdclgolhhckaaPk29
namespace Go.Proofs.Ytocdclgolhhckaa
open Go.RowKit Go.ChangeShapes Go.WideShapes

theorem Try.cells115 : Try.prog.cellsOf 115 = 5 := by kernel_rfl

theorem list4 {α : Type} {l : List α} (h : l.length = 4) : ∃ a b c d, l = [a, b, c, d] := by
  match l, h with
  | [a, b, c, d], _ => exact ⟨a, b, c, d, rfl⟩

theorem part_list {H : Type} {enc : TypeId × Value → H} {w : World} {base : Nat} {spare : Nat → Bool} {held : Bool} {fuel : Nat} {cs : List Value} {x : DataW H × List MemPlace} (h : DataW.trod enc Try.prog w base spare held fuel 115 cs = some x) :
    ∃ r : PartI, cs = [.int .i64 r.k, .int .i64 r.ro, .int .i64 r.rn, .int .i64 r.l, .int .i64 r.r] := by
  obtain ⟨xs, n, _, _, hl, hlen, hf⟩ := DataW.trod_struct Try.underlying115 h
  rw [Try.cells115] at hl
  obtain ⟨c0, c1, c2, c3, c4, rfl⟩ := list5 hl
  obtain ⟨y0, y1, y2, y3, rfl⟩ := list4 hlen
  have g0 := hf 0 _ rfl
  have g1 := hf 1 _ rfl
  have g2 := hf 2 _ rfl
  have g3 := hf 3 _ rfl
  simp [Try.cells2, Try.cells24] at g0 g1 g2 g3
  obtain ⟨k, e0, _, _⟩ := DataW.trod_int Try.underlying2 g0
  obtain ⟨lf, e3, _, _⟩ := DataW.trod_int Try.underlying2 g2
  obtain ⟨rt, e4, _, _⟩ := DataW.trod_int Try.underlying2 g3
  obtain ⟨ho, hn, e1⟩ := role_list g1
  simp at e0 e1 e3 e4
  obtain ⟨rfl, rfl⟩ := e1
  subst e0 e3 e4
  exact ⟨⟨k, ho, hn, lf, rt⟩, rfl⟩

theorem cells5 {w : World} {base : Nat} {a : Addr} {r : PartI} (h : w.cells? base a 5 = some [.int .i64 r.k, .int .i64 r.ro, .int .i64 r.rn, .int .i64 r.l, .int .i64 r.r]) : a.spot = none ∧ PartAt w a.block a.off r := by
  have e : List.range 5 = [0, 1, 2, 3, 4] := rfl
  unfold World.cells? at h
  split at h
  · rw [e] at h
    simp only [List.mapM_cons, List.mapM_nil, Option.bind_eq_bind, Option.bind_eq_some_iff, Option.pure_def, Option.some.injEq, List.cons.injEq] at h
    obtain ⟨x0, h0, y0, ⟨x1, h1, y1, ⟨x2, h2, y2, ⟨x3, h3, y3, ⟨x4, h4, y4, rfl, e4⟩, e3⟩, e2⟩, e1⟩, e0, ee⟩ := h
    subst e0
    rw [← e1] at ee
    simp only [List.cons.injEq] at ee
    obtain ⟨rfl, ee⟩ := ee
    rw [← e2] at ee
    simp only [List.cons.injEq] at ee
    obtain ⟨rfl, ee⟩ := ee
    rw [← e3] at ee
    simp only [List.cons.injEq] at ee
    obtain ⟨rfl, ee⟩ := ee
    rw [← e4] at ee
    simp only [List.cons.injEq] at ee
    obtain ⟨rfl, _⟩ := ee
    obtain ⟨b, off, spot⟩ := a
    have hspot : spot = none := by simpa [Addr.add] using World.cell?_spot h0
    subst hspot
    simp only [Addr.add] at h0 h1 h2 h3 h4
    exact ⟨rfl, by simpa using h0, by simpa using h1, by simpa using h2, by simpa using h3, by simpa using h4⟩
  · cases h

theorem parts_shape {H : Type} {enc : TypeId × Value → H} {w : World} {base : Nat} {spare : Nat → Bool} {held : Bool} {fuel : Nat} {a0 : Option Addr} {len cap : Nat} {x : DataW H × List MemPlace} (h : DataW.trod enc Try.prog w base spare held fuel 59 [.slice a0 len cap] = some x) :
    ∃ zs : List PartI, PartsArg w a0 len zs := by
  rcases Go.Deep.open_slice Try.underlying59 h with ⟨hcs, _⟩ | ⟨a, l, c, m, n, D, Pl, hcs, hb, hl, hm, hmm, _, hel⟩
  · simp at hcs
    obtain ⟨rfl, rfl, rfl⟩ := hcs
    exact ⟨[], ⟨rfl, fun h => by omega⟩, Nat.zero_le _⟩
  · simp at hcs
    obtain ⟨rfl, rfl, rfl⟩ := hcs
    have hle : len ≤ m := by rw [hmm]; split <;> omega
    rw [Try.cells115] at hel
    have hk : ∀ i, i < len → ∃ r : PartI, w.cells? base (a.add (i * 5)) 5 = some [.int .i64 r.k, .int .i64 r.ro, .int .i64 r.rn, .int .i64 r.l, .int .i64 r.r] := fun i hi => by
      obtain ⟨cs', hc, ht⟩ := hel i (by omega)
      obtain ⟨r, rfl⟩ := part_list ht
      exact ⟨r, hc⟩
    obtain ⟨f, hf⟩ := Go.Deep.choose_lt hk
    refine ⟨(List.range len).map f, ⟨by simp, fun hp => ?_⟩, Nat.le_trans hl hm⟩
    obtain ⟨hsp, _⟩ := cells5 (hf 0 hp)
    obtain ⟨b, off, spot⟩ := a
    simp [Addr.add] at hsp
    subst hsp
    refine ⟨b, off, rfl, fun k r e => ?_⟩
    have hkl : k < len := by
      by_cases q : k < len
      · exact q
      · rw [List.getElem?_eq_none (by simp; omega)] at e; cases e
    rw [List.getElem?_map, List.getElem?_range hkl] at e
    simp at e
    subst e
    obtain ⟨_, hr⟩ := cells5 (hf k hkl)
    have : ((⟨b, off, none⟩ : Addr).add (k * 5)) = ⟨b, off + k * 5, none⟩ := Go.WideShapes.add_plain ..
    rw [this] at hr
    exact hr

end Go.Proofs.Ytocdclgolhhckaa

namespace Go.Proofs.Ytocdclgolhhckaa
open Go.RowKit
set_option linter.unusedVariables false
set_option linter.unusedSimpArgs false

def q1 (x : Int) : Int := IntKind.u64.wrap (bits .and .u64 (x / 2) 6148914691236517205 + bits .and .u64 x 6148914691236517205)
def q2 (x : Int) : Int := IntKind.u64.wrap (bits .and .u64 (x / 4) 3689348814741910323 + bits .and .u64 x 3689348814741910323)
def q3 (x : Int) : Int := bits .and .u64 (IntKind.u64.wrap (x / 16 + x)) 1085102592571150095
def q4 (x : Int) : Int := IntKind.u64.wrap (x + x / 256)
def q5 (x : Int) : Int := IntKind.u64.wrap (x + x / 65536)
def q6 (x : Int) : Int := IntKind.u64.wrap (x + x / 4294967296)
theorem ones64_eq : ∀ n : Fin 256, bits .and .i64 (wrap64 (q6 (q5 (q4 (q3 (q2 (q1 (n.val : Int)))))))) 127 = (pcN n.val : Int) := by decide +kernel

set_option maxRecDepth 100000 in
set_option maxHeartbeats 1000000 in
theorem ones64_c (x : Nat) (hx : x < 256) (w : World) :
    Calls Try.prog 118 #[.int .u64 (x : Int)] w fun e w' => e = .returned (.int .i64 (pcN x : Int)) ∧ w = w' := by
  go_enter Try.func118, Try.ntmps118
  go_wp2
  go_ret
  refine ⟨congrArg (fun z => Ending.returned (Value.int .i64 z)) (?_ : _ = (pcN x : Int)), rfl⟩
  have h := ones64_eq ⟨x, hx⟩
  simp only [q1, q2, q3, q4, q5, q6] at h
  exact h

set_option maxRecDepth 100000 in
set_option maxHeartbeats 1000000 in
theorem ones_small (x : Nat) (hx : x < 256) (w : World) :
    Calls Try.prog 92 #[.int .u64 (x : Int)] w fun e w' => e = .returned (.int .i64 (pcN x : Int)) ∧ w = w' := by
  go_enter Try.func92, Try.ntmps92
  go_wp2_with (first | (go_at_call 118; refine (ones64_c x hx _).mono ?_; rintro e w1 ⟨rfl, rfl⟩) | fail)
  go_ret
  exact ⟨rfl, rfl⟩

end Go.Proofs.Ytocdclgolhhckaa

namespace Go.Proofs.Ytocdclgolhhckaa
open Go.RowKit
set_option linter.unusedVariables false
set_option linter.unusedSimpArgs false

def GivesL (f : Nat) (a : Option Addr) (n cap : Nat) (a' : Option Addr) (m cap' : Nat) (c v : Int) (w : World) : Prop := Calls Try.prog f #[.slice a n cap, .slice a' m cap'] w fun e w' => e = .returned (.agg #[.int .i64 c, .int .i64 v]) ∧ Below w.heap.size w w'

theorem least_less {T : TS} {x : Nat} (h : ¬ IsLeast T x) (hx : x < 256) (hT : T x = true) : ∃ y, y < 256 ∧ T y = true ∧ (pcN y < pcN x ∨ (pcN y = pcN x ∧ y < x)) := by
  apply Classical.byContradiction
  intro q
  refine h ⟨hx, hT, fun y hy hTy => ?_⟩
  apply Classical.byContradiction
  intro r
  exact q ⟨y, hy, hTy, by omega⟩

def rk (x : Nat) : Nat := pcN x * 256 + x
theorem rk_lt {x y : Nat} (hy : y < 256) (h : pcN y < pcN x ∨ (pcN y = pcN x ∧ y < x)) : rk y < rk x := by
  unfold rk
  generalize pcN x = p at h
  generalize pcN y = r at h
  omega

theorem least_some {T : TS} (N : Nat) : ∀ x : Nat, x < 256 → T x = true → rk x ≤ N → ∃ y, IsLeast T y := by
  induction N with
  | zero =>
    intro x hx hT hN
    by_cases h : IsLeast T x
    · exact ⟨x, h⟩
    · obtain ⟨y, hy, _, hl⟩ := least_less h hx hT
      have := rk_lt hy hl
      omega
  | succ N ih =>
    intro x hx hT hN
    by_cases h : IsLeast T x
    · exact ⟨x, h⟩
    · obtain ⟨y, hy, hTy, hl⟩ := least_less h hx hT
      have := rk_lt hy hl
      exact ih y hy hTy (by omega)

/-- What LeastOf tells of told sets. -/
def LeastIs (T : TS) (c v : Int) : Prop := (c = 0 ∧ ∃ x : Nat, v = (x : Int) ∧ IsLeast T x) ∨ (c = 4 ∧ v = 0 ∧ ∀ x, x < 256 → T x = false)

theorem least_is (T : TS) : ∃ c v, LeastIs T c v := by
  by_cases h : ∃ x, x < 256 ∧ T x = true
  · obtain ⟨x, hx, hT⟩ := h
    obtain ⟨y, hy⟩ := least_some _ x hx hT (Nat.le_refl _)
    exact ⟨0, y, .inl ⟨rfl, y, rfl, hy⟩⟩
  · refine ⟨4, 0, .inr ⟨rfl, rfl, fun x hx => ?_⟩⟩
    cases q : T x
    · rfl
    · exact absurd ⟨x, hx, q⟩ h

theorem least_none {T : TS} {c v : Int} (h : LeastIs T c v) (hn : ∀ x, x < 256 → T x = false) : c = 4 ∧ v = 0 := by
  rcases h with ⟨_, x, _, hx⟩ | ⟨h1, h2, _⟩
  · have := hx.2.1
    rw [hn x hx.1] at this; cases this
  · exact ⟨h1, h2⟩

theorem least_at {T : TS} {c v : Int} (h : LeastIs T c v) {x : Nat} (hx : IsLeast T x) : c = 0 ∧ v = (x : Int) := by
  rcases h with ⟨h1, y, h2, hy⟩ | ⟨_, _, hn⟩
  · exact ⟨h1, by rw [h2, least_unique hy hx]⟩
  · have := hx.2.1
    rw [hn x hx.1] at this; cases this

set_option maxRecDepth 100000 in
set_option maxHeartbeats 2000000 in
theorem implLeast_bad (a : Option Addr) (n cap : Nat) (zs : List RuleI) (a' : Option Addr) (m cap' : Nat) (ps : List PartI) (c : Int) (w : World) (hn : n ≤ 1048576) (hm : m ≤ 1048576) (hcap : n ≤ cap) (hcm : cap ≤ maxLen) (h : RulesIn w a n zs) (h' : PartsIn w a' m ps) (hc : manyCode zs ps = c) (h0 : c ≠ 0) :
    GivesL 50 a n cap a' m cap' c 0 w := by
  have HM : Hid (∀ w2 : World, Below w.heap.size w w2 → Calls Try.prog 86 #[.slice a n cap, .slice a' m cap'] w2 fun e w' => e = .returned (.int .i64 c) ∧ Below w2.heap.size w2 w') := fun w2 q => by rw [← hc]; exact implMany_c a n cap zs a' m cap' ps w2 hn hm hcap hcm (h.below q) (h'.below q)
  have hcb : (c != 0) = true := by simpa using h0
  clear h h' hc h0
  unfold GivesL
  go_enter Try.func50, Try.ntmps50
  go_wp2_with fail
  go_step3
  go_wp2_with fail
  refine (HM.out _ ((Below.refl _ _).alloc (Nat.le_refl _) _)).mono ?_
  rintro e w1 ⟨rfl, hb1⟩
  have d0 : w1.cell? ⟨w.heap.size, 0, none⟩ = some (.int .i64 0) := (hb1.cell (p := ⟨w.heap.size, 0, none⟩) (by simp)).trans (by simp)
  have d1 : w1.cell? ⟨w.heap.size, 1, none⟩ = some (.int .i64 0) := (hb1.cell (p := ⟨w.heap.size, 1, none⟩) (by simp)).trans (by simp)
  have g0 : w1.frozen? ⟨w.heap.size, 0, none⟩ = false := (hb1.frozen (p := ⟨w.heap.size, 0, none⟩) (by simp)).trans (by simp [go_sem])
  have g1 : w1.frozen? ⟨w.heap.size, 1, none⟩ = false := (hb1.frozen (p := ⟨w.heap.size, 1, none⟩) (by simp)).trans (by simp [go_sem])
  have hw : w.heap.size < w1.heap.size := by have := hb1.size; simp at this; omega
  have hbx : Below w.heap.size w w1 := below_new hb1
  clear hb1
  go_wp2
  rw [Exit.noGoto_ret]
  refine bodyPost_ret (v := .agg #[.int .i64 c, .int .i64 0]) (by simp [results, Try.results50, go_sem, d0, d1, hw]) rfl ⟨rfl, ?_⟩
  exact (hbx.setCell (Nat.le_refl _) _).setCell (Nat.le_refl _) _

set_option maxRecDepth 100000 in
set_option maxHeartbeats 4000000 in
theorem implLeast_ok (a : Option Addr) (n cap : Nat) (zs : List RuleI) (a' : Option Addr) (m cap' : Nat) (ps : List PartI) (gs : List GrI) (c v : Int) (w : World) (hn : n ≤ 1048576) (hm : m ≤ 1048576) (hcap : n ≤ cap) (hcm : cap ≤ maxLen) (h : RulesIn w a n zs) (h' : PartsIn w a' m ps) (hc : manyCode zs ps = 0) (hg : AllG zs gs) (hl : LeastIs (tellsL (ofG gs) ps) c v) :
    GivesL 50 a n cap a' m cap' c v w := by
  have HM : Hid (∀ w2 : World, Below w.heap.size w w2 → Calls Try.prog 86 #[.slice a n cap, .slice a' m cap'] w2 fun e w' => e = .returned (.int .i64 0) ∧ Below w2.heap.size w2 w') := fun w2 q => by rw [← hc]; exact implMany_c a n cap zs a' m cap' ps w2 hn hm hcap hcm (h.below q) (h'.below q)
  obtain ⟨T, hT⟩ : ∃ T, T = tellsL (ofG gs) ps := ⟨_, rfl⟩
  rw [← hT] at hl
  have HL : Hid (LeastIs T c v) := hl
  obtain ⟨cT, hcT⟩ : ∃ cT, cT = arrT T := ⟨_, rfl⟩
  have HT : Hid (∀ w2 : World, Below w.heap.size w w2 → Calls Try.prog 87 #[.slice a n cap, .slice a' m cap'] w2 fun e w' => e = .returned (.agg cT) ∧ Below w2.heap.size w2 w') := fun w2 q => by rw [hcT, hT]; exact toldBy_c a n cap zs a' m cap' ps gs w2 (h.below q) (many_zero hc).1 hg (h'.below q) (many_zero hc).2
  have HSt : Hid (∀ X : World, (storeCells ⟨X.heap.size, 0, none⟩ cT.toList).run Try.prog (X.alloc (.cells (arrT noT) 117)) = .ok () (X.alloc (.cells cT 117))) := fun X => by
    rw [hcT]
    have := storeCells_row (X.alloc (.cells (arrT noT) 117)) X.heap.size noT T (heap_alloc_last _ _)
    rw [World.setRow_alloc_new] at this
    exact this
  have HC : Hid (∀ (X Y : World) (x : Nat), Below (X.alloc (.cells cT 117)).heap.size (X.alloc (.cells cT 117)) Y → x < 256 → Y.cell? ⟨X.heap.size, x, none⟩ = some (.bool (T x))) := fun X Y x hb hx => by
    refine (hb.cell (p := ⟨X.heap.size, x, none⟩) (by simp)).trans ?_
    rw [cell_new, hcT]; exact arrT_at T hx
  have hcs : cT.size = 256 := by rw [hcT]; exact arrT_size T
  have hz := ts_zero
  clear h h' hc hg hT hcT hl
  unfold GivesL
  go_enter Try.func50, Try.ntmps50
  go_wp2_with fail
  go_step3
  go_wp2_with fail
  refine (HM.out _ ((Below.refl _ _).alloc (Nat.le_refl _) _)).mono ?_
  rintro e w1 ⟨rfl, hb1⟩
  have hw : w.heap.size < w1.heap.size := by have := hb1.size; simp at this; omega
  have hbx : Below w.heap.size w w1 := below_new hb1
  have HBX : Hid ((w1.cell? ⟨w.heap.size, 0, none⟩ = some (.int .i64 0) ∧ w1.cell? ⟨w.heap.size, 1, none⟩ = some (.int .i64 0)) ∧ w1.frozen? ⟨w.heap.size, 0, none⟩ = false ∧ w1.frozen? ⟨w.heap.size, 1, none⟩ = false) :=
    ⟨⟨(hb1.cell (p := ⟨w.heap.size, 0, none⟩) (by simp)).trans (by simp), (hb1.cell (p := ⟨w.heap.size, 1, none⟩) (by simp)).trans (by simp)⟩, (hb1.frozen (p := ⟨w.heap.size, 0, none⟩) (by simp)).trans (by simp [go_sem]), (hb1.frozen (p := ⟨w.heap.size, 1, none⟩) (by simp)).trans (by simp [go_sem])⟩
  clear hb1
  go_wp2_with fail
  refine (HT.out _ hbx).mono ?_
  rintro e X ⟨rfl, hb2⟩
  have hwX : w.heap.size < X.heap.size := Nat.lt_of_lt_of_le hw hb2.size
  have hst := HSt.out X
  obtain ⟨Y, hY⟩ : ∃ Y, Y = (X.alloc (.cells cT 117)).alloc (.cells #[.int .i64 4, .int .i64 0] 27) := ⟨_, rfl⟩
  have AY : Below (X.alloc (.cells cT 117)).heap.size (X.alloc (.cells cT 117)) Y := by rw [hY]; exact (Below.refl _ _).alloc (Nat.le_refl _) _
  have hXY : Below X.heap.size X Y := by rw [hY]; exact ((Below.refl _ _).alloc (Nat.le_refl _) _).alloc (by simp) _
  have HBY : Hid (((Y.cell? ⟨w.heap.size, 0, none⟩ = some (.int .i64 0) ∧ Y.cell? ⟨w.heap.size, 1, none⟩ = some (.int .i64 0)) ∧ Y.frozen? ⟨w.heap.size, 0, none⟩ = false ∧ Y.frozen? ⟨w.heap.size, 1, none⟩ = false) ∧ Below w.heap.size w Y) := by
    have hb3 : Below w1.heap.size w1 Y := hb2.trans (hXY.mono hb2.size)
    exact ⟨⟨⟨(hb3.cell (p := ⟨w.heap.size, 0, none⟩) hw).trans HBX.out.1.1, (hb3.cell (p := ⟨w.heap.size, 1, none⟩) hw).trans HBX.out.1.2⟩, (hb3.frozen (p := ⟨w.heap.size, 0, none⟩) hw).trans HBX.out.2.1, (hb3.frozen (p := ⟨w.heap.size, 1, none⟩) hw).trans HBX.out.2.2⟩, hbx.trans (hb3.mono hbx.size)⟩
  have HCY : Hid (∀ x, x < 256 → Y.cell? ⟨X.heap.size, x, none⟩ = some (.bool (T x))) := fun x hx => HC.out X Y x AY hx
  have l0 : Y.cell? ⟨X.heap.size + 1, 0, none⟩ = some (.int .i64 4) := by rw [hY]; simp
  have l1 : Y.cell? ⟨X.heap.size + 1, 1, none⟩ = some (.int .i64 0) := by rw [hY]; simp
  have k0 : Y.frozen? ⟨X.heap.size + 1, 0, none⟩ = false := by rw [hY]; simp [go_sem]
  have k1 : Y.frozen? ⟨X.heap.size + 1, 1, none⟩ = false := by rw [hY]; simp [go_sem]
  have hYs : Y.heap.size = X.heap.size + 2 := by rw [hY]; simp
  have HLY : Hid ((Y.cell? ⟨X.heap.size + 1, 0, none⟩ = some (.int .i64 4) ∧ Y.cell? ⟨X.heap.size + 1, 1, none⟩ = some (.int .i64 0)) ∧ Y.frozen? ⟨X.heap.size + 1, 0, none⟩ = false ∧ Y.frozen? ⟨X.heap.size + 1, 1, none⟩ = false) := ⟨⟨l0, l1⟩, k0, k1⟩
  clear hb2 HBX hbx hw AY hXY HC HSt l0 l1 k0 k1
  go_wp2_with fail
  go_step3
  go_wp2_with fail
  rw [← hY]
  clear hY hst hz
  obtain ⟨⟨⟨d0, d1⟩, g0, g1⟩, hbY⟩ := HBY.out
  obtain ⟨⟨l0, l1⟩, k0, k1⟩ := HLY.out
  have hwY : w.heap.size < Y.heap.size := by omega
  have hlY : X.heap.size + 1 < Y.heap.size := by omega
  have hne : ¬ w.heap.size = X.heap.size + 1 := by omega
  have hne2 : ¬ X.heap.size + 1 = w.heap.size := by omega
  have HBB : Hid (Below w.heap.size w Y) := hbY
  clear hbY HBY HLY
  go_loopw [21] (fun i wr => ∃ s : Nat, s ≤ 9 ∧ i = .int .i64 (s : Int) ∧ wr = Y ∧ Hid (∀ y, y < 256 → T y = true → s ≤ pcN y)) (fun i _ => 9 - (intOf i).toNat)
  case atStart => exact ⟨0, by omega, rfl, rfl, fun y _ _ => Nat.zero_le _⟩
  case round =>
    obtain ⟨s, hs9, rfl, rfl, HS⟩ := hrel
    by_cases hlt : s < 9
    · have hlt' : (s : Int) < 9 := by omega
      go_wp2_with fail
      go_loopw [24] (fun i wj => ∃ j : Nat, j ≤ 256 ∧ i = .int .i64 (j : Int) ∧ wj = wr ∧ Hid (∀ y, y < 256 → T y = true → s < pcN y ∨ (s = pcN y ∧ j ≤ y))) (fun i _ => 256 - (intOf i).toNat)
      case atStart => exact ⟨0, by omega, rfl, rfl, fun y hy hT => by have := HS.out y hy hT; omega⟩
      case round =>
        obtain ⟨j, hj, rfl, rfl, HJ⟩ := hrel
        by_cases hjl : j < 256
        · have hjl' : (j : Int) < 256 := by omega
          have cj := HCY.out j hjl
          obtain ⟨t, ht⟩ : ∃ t, T j = t := ⟨_, rfl⟩
          have HTj : Hid (T j = t) := ht
          rw [ht] at cj
          clear ht
          cases t
          · have HN : Hid (∀ y, y < 256 → T y = true → s < pcN y ∨ (s = pcN y ∧ j + 1 ≤ y)) := fun y hy hT => by
              rcases HJ.out y hy hT with q | ⟨q1, q2⟩
              · exact .inl q
              · refine .inr ⟨q1, ?_⟩
                by_cases e : y = j
                · rw [e, HTj.out] at hT; cases hT
                · omega
            go_wp2_with fail
            exact ⟨⟨j + 1, by omega, by go_num, by trivial, HN⟩, by simp [intOf]; omega⟩
          · obtain ⟨p, hp⟩ : ∃ p, p = pcN j := ⟨_, rfl⟩
            have HPj : Hid (p = pcN j) := hp
            have HOn : Hid (∀ X' : World, Calls Try.prog 92 #[.int .u64 (j : Int)] X' fun e w' => e = .returned (.int .i64 (p : Int)) ∧ X' = w') := fun X' => by rw [hp]; exact ones_small j hjl X'
            have hwr : IntKind.u64.wrap (j : Int) = (j : Int) := by rw [IntKind.wrap_u64]; omega
            clear hp
            by_cases hps : p = s
            · have hb : ((p : Int) == (s : Int)) = true := by simp [hps]
              have HCV : Hid (c = 0 ∧ v = (j : Int)) := least_at HL.out ⟨hjl, HTj.out, fun y hy hT => by have := HJ.out y hy hT; have := HPj.out; omega⟩
              clear hps
              go_wp2_with (first | (go_at_call 92; refine (HOn.out _).mono ?_; rintro e wb ⟨rfl, rfl⟩) | fail)
              (first | rw [Exit.noGoto_ret] | skip)
              refine bodyPost_ret (v := .agg #[.int .i64 0, .int .i64 (j : Int)]) (by simp [results, Try.results50, go_sem, d0, d1, hwY]) rfl ⟨by rw [HCV.out.1, HCV.out.2], ?_⟩
              exact (((HBB.out.setCell (by show w.heap.size ≤ X.heap.size + 1; omega) _).setCell (by show w.heap.size ≤ X.heap.size + 1; omega) _).setCell (Nat.le_refl _) _).setCell (Nat.le_refl _) _
            · have hb : ((p : Int) == (s : Int)) = false := by simp; omega
              have HN : Hid (∀ y, y < 256 → T y = true → s < pcN y ∨ (s = pcN y ∧ j + 1 ≤ y)) := fun y hy hT => by
                rcases HJ.out y hy hT with q | ⟨q1, q2⟩
                · exact .inl q
                · refine .inr ⟨q1, ?_⟩
                  by_cases e : y = j
                  · have := HPj.out
                    rw [e] at q1
                    omega
                  · omega
              clear hps
              go_wp2_with (first | (go_at_call 92; refine (HOn.out _).mono ?_; rintro e wb ⟨rfl, rfl⟩) | fail)
              exact ⟨⟨j + 1, by omega, by go_num, by trivial, HN⟩, by simp [intOf]; omega⟩
        · have hje : j = 256 := by omega
          subst hje
          have HN : Hid (∀ y, y < 256 → T y = true → s + 1 ≤ pcN y) := fun y hy hT => by have := HJ.out y hy hT; omega
          go_wp2_with fail
          exact ⟨⟨s + 1, by omega, by go_num, by trivial, HN⟩, by simp [intOf]; omega⟩
    · have hse : s = 9 := by omega
      subst hse
      have HCV : Hid (c = 4 ∧ v = 0) := least_none HL.out (fun x hx => by
        cases q : T x
        · rfl
        · have h1 := HS.out x hx q
          have h2 := pc_le ⟨x, hx⟩
          simp only at h2
          omega)
      go_wp2_with fail
      (first | rw [Exit.noGoto_ret] | skip)
      refine bodyPost_ret (v := .agg #[.int .i64 4, .int .i64 0]) (by simp [results, Try.results50, go_sem, d0, d1, hwY]) rfl ⟨by rw [HCV.out.1, HCV.out.2], ?_⟩
      exact (HBB.out.setCell (Nat.le_refl _) _).setCell (Nat.le_refl _) _

theorem mem_sets {T : TS} {z : Int} : z ∈ setsL T ↔ ∃ x : Nat, x < 256 ∧ T x = true ∧ z = (x : Int) := by
  unfold setsL setsTo
  rw [List.mem_map]
  constructor
  · rintro ⟨x, hx, rfl⟩
    rw [List.mem_filter, List.mem_range] at hx
    exact ⟨x, hx.1, hx.2, rfl⟩
  · rintro ⟨x, h1, h2, rfl⟩
    exact ⟨x, List.mem_filter.2 ⟨List.mem_range.2 h1, h2⟩, rfl⟩

theorem sets_up (T : TS) : (setsL T).Pairwise (· < ·) := by
  unfold setsL setsTo
  rw [List.pairwise_map]
  exact ((List.pairwise_lt_range (n := 256)).filter T).imp (fun {a b} h => by omega)

theorem sets_lt {T : TS} {i j : Nat} {x y : Int} (hij : i < j) (hx : (setsL T)[i]? = some x) (hy : (setsL T)[j]? = some y) : x < y := by
  obtain ⟨hi, rfl⟩ := List.getElem?_eq_some_iff.1 hx
  obtain ⟨hj, rfl⟩ := List.getElem?_eq_some_iff.1 hy
  exact List.pairwise_iff_getElem.1 (sets_up T) i j hi hj hij

theorem sets_nth {T : TS} {ls : List Int} (h : ls = setsL T) {k : Nat} (hk : k < ls.length) : ∃ y : Nat, ls[k]? = some (y : Int) ∧ y < 256 := by
  subst h
  have hm := List.getElem_mem (l := setsL T) hk
  obtain ⟨x, h1, h2, h3⟩ := mem_sets.1 hm
  exact ⟨x, by rw [List.getElem?_eq_getElem hk, h3], h1⟩

set_option maxRecDepth 100000 in
set_option maxHeartbeats 2000000 in
theorem specLeast_bad (a : Option Addr) (n cap : Nat) (a' : Option Addr) (m cap' : Nat) (c : Int) (w : World) (h0 : c ≠ 0) (HM : Hid (∀ w2 : World, Below w.heap.size w w2 → GivesN 39 a n cap a' m cap' c [] w2)) :
    GivesL 49 a n cap a' m cap' c 0 w := by
  have hcb : (c != 0) = true := by simpa using h0
  clear h0
  unfold GivesL
  go_enter Try.func49, Try.ntmps49
  go_wp2_with fail
  refine (HM.out _ ((Below.refl _ _).alloc (Nat.le_refl _) _)).mono ?_
  rintro e w1 ⟨a1, cap1, rfl, _, hb1⟩
  have d0 : w1.cell? ⟨w.heap.size, 0, none⟩ = some (.int .i64 0) := (hb1.cell (p := ⟨w.heap.size, 0, none⟩) (by simp)).trans (by simp)
  have d1 : w1.cell? ⟨w.heap.size, 1, none⟩ = some (.int .i64 0) := (hb1.cell (p := ⟨w.heap.size, 1, none⟩) (by simp)).trans (by simp)
  have g0 : w1.frozen? ⟨w.heap.size, 0, none⟩ = false := (hb1.frozen (p := ⟨w.heap.size, 0, none⟩) (by simp)).trans (by simp [go_sem])
  have g1 : w1.frozen? ⟨w.heap.size, 1, none⟩ = false := (hb1.frozen (p := ⟨w.heap.size, 1, none⟩) (by simp)).trans (by simp [go_sem])
  have hw : w.heap.size < w1.heap.size := by have := hb1.size; simp at this; omega
  have hbx : Below w.heap.size w w1 := below_new hb1
  clear hb1
  go_wp2
  refine bodyPost_ret (v := .agg #[.int .i64 c, .int .i64 0]) (by simp [results, Try.results49, go_sem, d0, d1, hw]) rfl ⟨rfl, ?_⟩
  first
    | exact ((hbx.setCell (Nat.le_refl _) _).setCell (Nat.le_refl _) _).alloc (by simp only [World.size_setCell]; exact hbx.size) _
    | exact ((hbx.alloc hbx.size _).setCell (Nat.le_refl _) _).setCell (Nat.le_refl _) _

set_option maxRecDepth 100000 in
set_option maxHeartbeats 4000000 in
theorem specLeast_ok (a : Option Addr) (n cap : Nat) (a' : Option Addr) (m cap' : Nat) (T : TS) (c v : Int) (w : World) (hl : LeastIs T c v) (HM : Hid (∀ w2 : World, Below w.heap.size w w2 → GivesN 39 a n cap a' m cap' 0 (setsL T) w2)) :
    GivesL 49 a n cap a' m cap' c v w := by
  have HL : Hid (LeastIs T c v) := hl
  obtain ⟨ls, hls⟩ : ∃ ls, ls = setsL T := ⟨_, rfl⟩
  rw [← hls] at HM
  have HLs : Hid (ls = setsL T) := hls
  have hlen : ls.length ≤ 256 := by rw [hls]; exact setsTo_len T 256
  clear hl hls
  unfold GivesL
  go_enter Try.func49, Try.ntmps49
  go_wp2_with fail
  refine (HM.out _ ((Below.refl _ _).alloc (Nat.le_refl _) _)).mono ?_
  rintro e w1 ⟨a1, cap1, rfl, hown, hb1⟩
  have hw : w.heap.size < w1.heap.size := by have := hb1.size; simp at this; omega
  have hbx : Below w.heap.size w w1 := below_new hb1
  obtain ⟨W, hW⟩ : ∃ W, W = w1.alloc (.cells #[.int .i64 0, .slice a1 ls.length cap1] 62) := ⟨_, rfl⟩
  have AW : Below w1.heap.size w1 W := by rw [hW]; exact (Below.refl _ _).alloc (Nat.le_refl _) _
  have HRW : Hid (RowIn W a1 ls.length ls) := (row_of_owns hown).below AW
  have hWs : W.heap.size = w1.heap.size + 1 := by rw [hW]; simp
  have HBW : Hid (((W.cell? ⟨w.heap.size, 0, none⟩ = some (.int .i64 0) ∧ W.cell? ⟨w.heap.size, 1, none⟩ = some (.int .i64 0)) ∧ W.frozen? ⟨w.heap.size, 0, none⟩ = false ∧ W.frozen? ⟨w.heap.size, 1, none⟩ = false) ∧ Below w.heap.size w W) := by
    refine ⟨⟨⟨?_, ?_⟩, ?_, ?_⟩, hbx.trans (AW.mono hbx.size)⟩
    · exact (AW.cell (p := ⟨w.heap.size, 0, none⟩) hw).trans ((hb1.cell (p := ⟨w.heap.size, 0, none⟩) (by simp)).trans (by simp))
    · exact (AW.cell (p := ⟨w.heap.size, 1, none⟩) hw).trans ((hb1.cell (p := ⟨w.heap.size, 1, none⟩) (by simp)).trans (by simp))
    · exact (AW.frozen (p := ⟨w.heap.size, 0, none⟩) hw).trans ((hb1.frozen (p := ⟨w.heap.size, 0, none⟩) (by simp)).trans (by simp [go_sem]))
    · exact (AW.frozen (p := ⟨w.heap.size, 1, none⟩) hw).trans ((hb1.frozen (p := ⟨w.heap.size, 1, none⟩) (by simp)).trans (by simp [go_sem]))
  have r0 : W.cell? ⟨w1.heap.size, 0, none⟩ = some (.int .i64 0) := by rw [hW]; simp
  have r1 : W.cell? ⟨w1.heap.size, 1, none⟩ = some (.slice a1 ls.length cap1) := by rw [hW]; simp
  have hlen' : (ls.length : Int) ≤ 256 := by omega
  clear hown hb1 hbx AW
  go_upto_region 2 with fail
  rw [← hW]
  clear hW
  obtain ⟨⟨⟨d0, d1⟩, g0, g1⟩, hbW⟩ := HBW.out
  have hwW : w.heap.size < W.heap.size := by omega
  have hrW : w1.heap.size < W.heap.size := by omega
  obtain ⟨q, hq⟩ : ∃ q, q = w1.heap.size := ⟨_, rfl⟩
  rw [← hq] at r0 r1 hrW ⊢
  clear hq hWs hw
  by_cases h0 : ls.length = 0
  · have h0b : ((ls.length : Int) == 0) = true := by simp [h0]
    have HCV : Hid (c = 4 ∧ v = 0) := least_none HL.out (fun x hx => by
      cases qq : T x
      · rfl
      · have : ((x : Nat) : Int) ∈ setsL T := mem_sets.2 ⟨x, hx, qq, rfl⟩
        rw [← HLs.out, List.length_eq_zero_iff.1 h0] at this
        simp at this)
    have HBB : Hid (Below w.heap.size w W) := hbW
    clear h0
    go_wp2_with fail
    refine bodyPost_ret (v := .agg #[.int .i64 4, .int .i64 0]) (by simp [results, Try.results49, go_sem, d0, d1, hwW]) rfl ⟨by rw [HCV.out.1, HCV.out.2], ?_⟩
    exact (HBB.out.setCell (Nat.le_refl _) _).setCell (Nat.le_refl _) _
  · have h0b : ((ls.length : Int) == 0) = false := by simp [h0]
    have hpos : 0 < ls.length := by omega
    have hpos' : (0 : Int) < (ls.length : Int) := by omega
    obtain ⟨ab, ao, rfl, hc0⟩ := HRW.out.2 0 hpos
    obtain ⟨b0, hb0⟩ : ∃ b0 : Nat, ls[0]? = some (b0 : Int) ∧ b0 < 256 := sets_nth HLs.out hpos
    rw [hb0.1] at hc0
    simp only [Nat.add_zero, Option.getD_some] at hc0
    have HB0 : Hid (ls[0]? = some (b0 : Int) ∧ b0 < 256) := hb0
    have HBB : Hid (Below w.heap.size w W) := hbW
    clear h0 hb0 hbW
    go_wp2_with fail
    go_loopw [6, 7] (fun bv i wr => ∃ (k b p : Nat), 1 ≤ k ∧ k ≤ ls.length ∧ i = .int .i64 (k : Int) ∧ bv = .int .i64 (b : Int) ∧ Hid (b < 256 ∧ p < k ∧ ls[p]? = some (b : Int) ∧ ∀ (j y : Nat), j < k → ls[j]? = some (y : Int) → pcN b < pcN y ∨ (pcN b = pcN y ∧ b ≤ y)) ∧ Below W.heap.size W wr) (fun _ i _ => ls.length - (intOf i).toNat)
    case atStart => exact ⟨1, b0, 0, by omega, by omega, rfl, rfl, ⟨HB0.out.2, by omega, HB0.out.1, fun j y hj hy => (by
      obtain rfl : j = 0 := by omega
      rw [HB0.out.1] at hy
      have h3 := Option.some.inj hy
      obtain rfl : b0 = y := by omega
      exact .inr ⟨rfl, Nat.le_refl _⟩)⟩, Below.refl _ _⟩
    case round =>
      obtain ⟨k, b, p, hk1, hk, rfl, rfl, HK, hnx⟩ := hrel
      have s1 := (hnx.cell (p := ⟨q, 1, none⟩) hrW).trans r1
      have hqr : q < wr.heap.size := Nat.lt_of_lt_of_le hrW hnx.size
      have hb256 := HK.out.1
      by_cases hlt : k < ls.length
      · have hlt' : (k : Int) < (ls.length : Int) := by omega
        obtain ⟨ab', ao', e', hck⟩ := (HRW.out.below hnx).2 k hlt
        cases e'
        obtain ⟨y, hy⟩ : ∃ y : Nat, ls[k]? = some (y : Int) ∧ y < 256 := sets_nth HLs.out hlt
        rw [hy.1] at hck
        simp only [Option.getD_some] at hck
        have hab : ab < wr.heap.size := World.block_lt_of_cell? wr _ hck
        have HY : Hid (ls[k]? = some (y : Int)) := hy.1
        have hy256 := hy.2
        clear hy
        obtain ⟨py, hpy⟩ : ∃ py, py = pcN y := ⟨_, rfl⟩
        obtain ⟨pb, hpb⟩ : ∃ pb, pb = pcN b := ⟨_, rfl⟩
        have HPP : Hid (py = pcN y ∧ pb = pcN b) := ⟨hpy, hpb⟩
        have HL1 : Hid (∀ X' : World, Calls Try.prog 91 #[.int .i64 (y : Int)] X' fun e w' => ∃ g cap, e = .returned (.slice (some ⟨g, 0, none⟩) py cap) ∧ Below X'.heap.size X' w') := fun X' => (l1List_c (y : Int) (by omega) (by omega) X').mono (fun e w' ⟨g, cp, h1, h2, h3⟩ => ⟨g, cp, by rw [hpy]; exact h1, h3⟩)
        have HL2 : Hid (∀ X' : World, Calls Try.prog 91 #[.int .i64 (b : Int)] X' fun e w' => ∃ g cap, e = .returned (.slice (some ⟨g, 0, none⟩) pb cap) ∧ Below X'.heap.size X' w') := fun X' => (l1List_c (b : Int) (by omega) (by omega) X').mono (fun e w' ⟨g, cp, h1, h2, h3⟩ => ⟨g, cp, by rw [hpb]; exact h1, h3⟩)
        clear hpy hpb
        go_wp2_with fail
        refine (HL1.out _).mono ?_
        rintro e w3 ⟨g3, c3, rfl, hb3⟩
        go_wp2_with fail
        refine (HL2.out _).mono ?_
        rintro e w4 ⟨g4, c4, rfl, hb4'⟩
        have hb4 : Below wr.heap.size wr w4 := hb3.trans (hb4'.mono hb3.size)
        have hnx4 : Below W.heap.size W w4 := hnx.trans (hb4.mono hnx.size)
        have z1 := (hb4.cell (p := ⟨q, 1, none⟩) hqr).trans s1
        have z2 := (hb4.cell (p := ⟨ab, ao + k, none⟩) hab).trans hck
        clear hb3 hb4' hb4 s1 hck
        by_cases hpl : py < pb
        · have hpl' : (py : Int) < (pb : Int) := by omega
          have HN : Hid (y < 256 ∧ k < k + 1 ∧ ls[k]? = some (y : Int) ∧ ∀ (j z : Nat), j < k + 1 → ls[j]? = some (z : Int) → pcN y < pcN z ∨ (pcN y = pcN z ∧ y ≤ z)) := ⟨hy256, by omega, HY.out, fun j z hj hz => by
            have h1 := HPP.out.1
            have h2 := HPP.out.2
            by_cases ej : j = k
            · subst ej
              rw [HY.out] at hz
              have h3 := Option.some.inj hz
              obtain rfl : y = z := by omega
              exact .inr ⟨rfl, Nat.le_refl _⟩
            · have := HK.out.2.2.2 j z (by omega) hz
              omega⟩
          clear hpl
          go_wp2_with fail
          exact ⟨⟨k + 1, y, k, by omega, by omega, by go_num, rfl, HN, hnx4⟩, by simp [intOf]; omega⟩
        · have hpl' : ¬ ((py : Int) < (pb : Int)) := by omega
          have HN : Hid (b < 256 ∧ p < k + 1 ∧ ls[p]? = some (b : Int) ∧ ∀ (j z : Nat), j < k + 1 → ls[j]? = some (z : Int) → pcN b < pcN z ∨ (pcN b = pcN z ∧ b ≤ z)) := ⟨HK.out.1, by have := HK.out.2.1; omega, HK.out.2.2.1, fun j z hj hz => by
            have h1 := HPP.out.1
            have h2 := HPP.out.2
            by_cases ej : j = k
            · subst ej
              have hz2 := hz
              rw [HY.out] at hz
              have e3 := Option.some.inj hz
              have hlt2 : (b : Int) < (y : Int) := sets_lt (T := T) HK.out.2.1 (by rw [← HLs.out]; exact HK.out.2.2.1) (by rw [← HLs.out]; exact HY.out)
              have : z = y := by omega
              subst this
              omega
            · exact HK.out.2.2.2 j z (by omega) hz⟩
          clear hpl
          go_wp2_with fail
          exact ⟨⟨k + 1, b, p, by omega, by omega, by go_num, rfl, HN, hnx4⟩, by simp [intOf]; omega⟩
      · have hke : k = ls.length := by omega
        have HCV : Hid (c = 0 ∧ v = (b : Int)) := by
          refine least_at HL.out ⟨HK.out.1, ?_, fun y hy hT => ?_⟩
          · have hm := List.mem_of_getElem? HK.out.2.2.1
            rw [HLs.out] at hm
            obtain ⟨x, h1, h2, h3⟩ := mem_sets.1 hm
            obtain rfl : b = x := by omega
            exact h2
          · have hm : ((y : Nat) : Int) ∈ ls := by rw [HLs.out]; exact mem_sets.2 ⟨y, hy, hT, rfl⟩
            obtain ⟨j, hj⟩ := List.mem_iff_getElem?.1 hm
            have hjl : j < ls.length := (List.getElem?_eq_some_iff.1 hj).1
            exact HK.out.2.2.2 j y (by omega) hj
        have hlt' : ¬ ((k : Int) < (ls.length : Int)) := by omega
        have y0 := (hnx.cell (p := ⟨w.heap.size, 0, none⟩) hwW).trans d0
        have y1 := (hnx.cell (p := ⟨w.heap.size, 1, none⟩) hwW).trans d1
        have x0 := (hnx.frozen (p := ⟨w.heap.size, 0, none⟩) hwW).trans g0
        have x1 := (hnx.frozen (p := ⟨w.heap.size, 1, none⟩) hwW).trans g1
        have hwr : w.heap.size < wr.heap.size := Nat.lt_of_lt_of_le hwW hnx.size
        have HBr : Hid (Below w.heap.size w wr) := HBB.out.trans (hnx.mono HBB.out.size)
        clear hke hlt
        go_wp2_with fail
        refine bodyPost_ret (v := .agg #[.int .i64 0, .int .i64 (b : Int)]) (by simp [results, Try.results49, go_sem, y0, y1, hwr]) rfl ⟨by rw [HCV.out.1, HCV.out.2], ?_⟩
        exact (HBr.out.setCell (Nat.le_refl _) _).setCell (Nat.le_refl _) _

end Go.Proofs.Ytocdclgolhhckaa
