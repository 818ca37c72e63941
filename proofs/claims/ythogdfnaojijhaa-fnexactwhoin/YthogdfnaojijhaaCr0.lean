/-
  CERTIFICATES AS ARGUMENTS AND ANSWERS: their shape, size, copies, comparison, marks; shares likewise.
  Conditions: each fact bears its own.
-/
import Derived.Test.YthogdfnaojijhaaCe6
import Derived.Test.YthogdfnaojijhaaStM
namespace Go.Proofs.Ythogdfnaojijhaa
open Go.RowKit Go.ChangeShapes Go.WideShapes
set_option linter.unusedVariables false
set_option linter.unusedSimpArgs false

/-- A certificate, as an argument. -/
structure CrI where
  k : Int
  e : Int
  f : Int
  s : Int
  n : Int
  ga : Option Addr
  gn : Nat
  gc : Nat
  zs : List Int
deriving Inhabited

abbrev CrI.st (c : CrI) : StI := ⟨c.k, c.e, c.f, c.s, c.n⟩

theorem Try.cells45 : Try.prog.cellsOf 45 = 6 := by kernel_rfl
theorem Try.cellsR43 : Try.prog.cellsOf 43 = 1 := by kernel_rfl

theorem cell1R {w : World} {base : Nat} {a : Addr} {v : Value} (h : w.cells? base a 1 = some [v]) : a.spot = none ∧ w.cell? ⟨a.block, a.off, none⟩ = some v := by
  have e : List.range 1 = [0] := rfl
  unfold World.cells? at h
  split at h
  · rw [e] at h
    simp only [List.mapM_cons, List.mapM_nil, Option.bind_eq_bind, Option.bind_eq_some_iff, Option.pure_def, Option.some.injEq, List.cons.injEq] at h
    obtain ⟨x0, h0, y0, rfl, rfl, _⟩ := h
    obtain ⟨b, off, spot⟩ := a
    have hspot : spot = none := by simpa [Addr.add] using World.cell?_spot h0
    subst hspot
    simp only [Addr.add] at h0
    exact ⟨rfl, by simpa using h0⟩
  · cases h

theorem intsR_val {H : Type} {enc : TypeId × Value → H} {w : World} {base : Nat} {spare : Nat → Bool} {held : Bool} {fuel : Nat} {cs : List Value} {x : DataW H × List MemPlace} (h : DataW.trod enc Try.prog w base spare held fuel 43 cs = some x) :
    ∃ a n c, cs = [.slice a n c] := by
  rcases Go.Deep.open_slice Try.underlying43 h with ⟨hcs, _⟩ | ⟨a, l, c, m, n, D, Pl, hcs, _⟩
  · exact ⟨_, _, _, hcs⟩
  · exact ⟨_, _, _, hcs⟩

theorem intsR_shape {H : Type} {enc : TypeId × Value → H} {w : World} {base : Nat} {spare : Nat → Bool} {held : Bool} {fuel : Nat} {a0 : Option Addr} {len cap : Nat} {x : DataW H × List MemPlace} (h : DataW.trod enc Try.prog w base spare held fuel 43 [.slice a0 len cap] = some x) :
    ∃ zs : List Int, IntIn w a0 len zs ∧ len ≤ maxLen := by
  rcases Go.Deep.open_slice Try.underlying43 h with ⟨hcs, _⟩ | ⟨a, l, c, m, n, D, Pl, hcs, hb, hl, hm, hmm, _, hel⟩
  · simp at hcs
    obtain ⟨rfl, rfl, rfl⟩ := hcs
    exact ⟨[], ⟨rfl, fun h => by omega⟩, Nat.zero_le _⟩
  · simp at hcs
    obtain ⟨rfl, rfl, rfl⟩ := hcs
    have hle : len ≤ m := by rw [hmm]; split <;> omega
    rw [cells64Sh] at hel
    have hk : ∀ i, i < len → ∃ r : Int, w.cells? base (a.add (i * 1)) 1 = some [.int .i64 r] := fun i hi => by
      obtain ⟨cs', hc, ht⟩ := hel i (by omega)
      obtain ⟨k, e0, _, _⟩ := DataW.trod_int Try.underlying2 ht
      exact ⟨k, by rw [hc, e0]⟩
    obtain ⟨f, hf⟩ := Go.Deep.choose_lt hk
    refine ⟨(List.range len).map f, ⟨by simp, fun hp => ?_⟩, Nat.le_trans hl hm⟩
    obtain ⟨hsp, _⟩ := cell1R (hf 0 hp)
    obtain ⟨b, off, spot⟩ := a
    simp [Addr.add] at hsp
    subst hsp
    refine ⟨b, off, rfl, fun k r e => ?_⟩
    have hkl : k < len := by
      by_cases q : k < len
      · exact q
      · rw [List.getElem?_eq_none (by simp; omega)] at e; cases e
    rw [List.getElem?_map, List.getElem?_range hkl] at e
    simp at e
    subst e
    obtain ⟨_, hr⟩ := cell1R (hf k hkl)
    have : ((⟨b, off, none⟩ : Addr).add (k * 1)) = ⟨b, off + k * 1, none⟩ := Go.WideShapes.add_plain ..
    rw [this, Nat.mul_one] at hr
    exact hr

theorem cert_list {H : Type} {enc : TypeId × Value → H} {w : World} {base : Nat} {spare : Nat → Bool} {held : Bool} {fuel : Nat} {cs : List Value} {x : DataW H × List MemPlace} (h : DataW.trod enc Try.prog w base spare held fuel 45 cs = some x) :
    ∃ r : CrI, cs = [.int .i64 r.k, .int .i64 r.e, .int .i64 r.f, .int .i64 r.s, .int .i64 r.n, .slice r.ga r.gn r.gc] ∧ IntIn w r.ga r.gn r.zs ∧ r.gn ≤ maxLen := by
  obtain ⟨xs, n, _, _, hl, hlen, hf⟩ := DataW.trod_struct Try.underlying45 h
  rw [Try.cells45] at hl
  obtain ⟨c0, c1, c2, c3, c4, c5, rfl⟩ := listSh hl
  obtain ⟨y0, y1, rfl⟩ := list2Sh hlen
  have g0 := hf 0 _ rfl
  have g1 := hf 1 _ rfl
  simp [Try.cellsR43, Try.cells29] at g0 g1
  obtain ⟨b1, e1⟩ := statement_list g0
  obtain ⟨sa, sn, sc, q2⟩ := intsR_val g1
  simp at e1 q2
  obtain ⟨rfl, rfl, rfl, rfl, rfl⟩ := e1
  subst q2
  obtain ⟨zs, hz⟩ := intsR_shape g1
  exact ⟨⟨b1.k, b1.e, b1.f, b1.s, b1.n, sa, sn, sc, zs⟩, rfl, hz.1, hz.2⟩

theorem cert_shape {H : Type} {enc : TypeId × Value → H} {w : World} {base : Nat} {spare : Nat → Bool} {held : Bool} {fuel : Nat} (cs : Array Value) {x : DataW H × List MemPlace} (h : DataW.trod enc Try.prog w base spare held fuel 45 cs.toList = some x) :
    ∃ r : CrI, cs = #[.int .i64 r.k, .int .i64 r.e, .int .i64 r.f, .int .i64 r.s, .int .i64 r.n, .slice r.ga r.gn r.gc] ∧ IntIn w r.ga r.gn r.zs ∧ r.gn ≤ maxLen := by
  obtain ⟨r, e, h1, h2⟩ := cert_list h
  exact ⟨r, by cases cs; simp_all, h1, h2⟩

/-! shares -/

def ShCp (g n : Nat) (zs : List ShI) (X : World) : Prop := ShsAt X g zs ∧ ShRoom X g n

theorem ShCp.hold {g n : Nat} {zs : List ShI} {W : World} (h : ShCp g n zs W) (hg : g < W.heap.size) : Hold g (g + 1) (ShCp g n zs) W :=
  ⟨h, hg, fun X X' hX hk => by
    have hb := hk g (Nat.le_refl _) (by omega)
    have hc : ∀ o, X'.cell? ⟨g, o, none⟩ = X.cell? ⟨g, o, none⟩ := fun o => World.cell?_of_block (a := ⟨g, o, none⟩) hb
    refine ⟨fun k x e => ?_, fun j hj => ?_, fun j => (World.frozen?_of_block (a := ⟨g, j, none⟩) hb).trans (hX.2.2 j)⟩
    · obtain ⟨h0, h1, h2, h3, h4, h5⟩ := hX.1 k x e
      exact ⟨(hc _).trans h0, (hc _).trans h1, (hc _).trans h2, (hc _).trans h3, (hc _).trans h4, (hc _).trans h5⟩
    · obtain ⟨v, e⟩ := hX.2.1 j hj
      exact ⟨v, (hc _).trans e⟩⟩

theorem ShCp.cast {g g' n : Nat} {zs : List ShI} {W : World} (h : Hold g (g + 1) (ShCp g n zs) W) (e : g = g') : Hold g' (g' + 1) (ShCp g' n zs) W := e ▸ h

set_option maxHeartbeats 400000 in
theorem szShares_c (a : Option Addr) (n cap : Nat) (left : Int) (w : World) (hm : n ≤ maxLen) (h0 : 0 ≤ left) (h1 : left ≤ 1048576) :
    Calls Try.prog 9 #[.slice a n cap, .int .i64 left] w fun e w' => (∃ v : Int, e = .returned (.int .i64 v) ∧ v ≤ left ∧ (0 ≤ v → n ≤ 1048576)) ∧ Below w.heap.size w w' := by
  unfold maxLen at hm
  have hm' : (n : Int) ≤ 9223372036854775807 := by omega
  by_cases hl : left - (n : Int) < 0
  · go_enter Try.func9, Try.ntmps9
    go_wp2
    go_ret
    exact ⟨⟨-1, rfl, by omega, fun h => by omega⟩, Below.refl _ _⟩
  · have hl' : ¬ (left - (n : Int) < 0) := hl
    go_enter Try.func9, Try.ntmps9
    go_wp2
    go_ret
    exact ⟨⟨left - n, rfl, by omega, fun h => by omega⟩, Below.refl _ _⟩

set_option maxHeartbeats 400000 in
theorem szIntsR_c (a : Option Addr) (n cap : Nat) (left : Int) (w : World) (hm : n ≤ maxLen) (h0 : 0 ≤ left) (h1 : left ≤ 1048576) :
    Calls Try.prog 52 #[.slice a n cap, .int .i64 left] w fun e w' => (∃ v : Int, e = .returned (.int .i64 v) ∧ v ≤ left ∧ -1 ≤ v ∧ (0 ≤ v → n ≤ 1048576)) ∧ w = w' := by
  unfold maxLen at hm
  have hm' : (n : Int) ≤ 9223372036854775807 := by omega
  by_cases hl : left - (n : Int) < 0
  · go_enter Try.func52, Try.ntmps52
    go_wp2
    go_ret
    exact ⟨⟨-1, rfl, by omega, by omega, fun h => by omega⟩, rfl⟩
  · have hl' : ¬ (left - (n : Int) < 0) := hl
    go_enter Try.func52, Try.ntmps52
    go_wp2
    go_ret
    exact ⟨⟨left - n, rfl, by omega, by omega, fun h => by omega⟩, rfl⟩

set_option maxHeartbeats 1000000 in
theorem szCert_c (c : CrI) (left : Int) (w : World) (hm : c.gn ≤ maxLen) (h0 : 0 ≤ left) (h1 : left ≤ 1048576) :
    Calls Try.prog 28 #[.agg #[.int .i64 c.k, .int .i64 c.e, .int .i64 c.f, .int .i64 c.s, .int .i64 c.n, .slice c.ga c.gn c.gc], .int .i64 left] w fun e w' => (∃ v : Int, e = .returned (.int .i64 v) ∧ v ≤ left ∧ (0 ≤ v → c.gn ≤ 1048576)) ∧ Below w.heap.size w w' := by
  have BV : Below w.heap.size w (w.alloc (.cells #[.int .i64 c.k, .int .i64 c.e, .int .i64 c.f, .int .i64 c.s, .int .i64 c.n, .slice c.ga c.gn c.gc] 45)) := (Below.refl _ _).alloc (Nat.le_refl _) _
  go_enter Try.func28, Try.ntmps28
  go_wp2_with fail
  refine (szIntsR_c c.ga c.gn c.gc left _ hm h0 h1).mono ?_
  rintro e w1 ⟨⟨v, rfl, hv1, hv2, hv3⟩, rfl⟩
  have HV3 : Hid (0 ≤ v → c.gn ≤ 1048576) := hv3
  clear hv3
  by_cases hneg : v < 0
  · go_wp2
    go_ret
    exact ⟨⟨-1, rfl, by omega, fun h => by omega⟩, BV⟩
  · go_wp2
    go_ret
    exact ⟨⟨v, rfl, hv1, HV3.out⟩, BV⟩

set_option maxRecDepth 20000 in
set_option maxHeartbeats 2000000 in
theorem toCert_c (c : CrI) (w : World) (hn : c.gn ≤ 1048576) (h : IntIn w c.ga c.gn c.zs) :
    Calls Try.prog 33 #[.agg #[.int .i64 c.k, .int .i64 c.e, .int .i64 c.f, .int .i64 c.s, .int .i64 c.n, .slice c.ga c.gn c.gc]] w fun e w' => ∃ g : Nat, e = .returned (.agg #[.int .i64 c.k, .int .i64 c.e, .int .i64 c.f, .int .i64 c.s, .int .i64 c.n, .slice (some ⟨g, 0, none⟩) c.gn c.gn]) ∧ w.heap.size ≤ g ∧ g < w'.heap.size ∧ IntCp g c.gn c.zs w' ∧ Below w.heap.size w w' := by
  have H : Hid (IntIn w c.ga c.gn c.zs) := h
  clear h
  obtain ⟨V0, hV0⟩ : ∃ V, V = w.alloc (.cells #[.int .i64 c.k, .int .i64 c.e, .int .i64 c.f, .int .i64 c.s, .int .i64 c.n, .slice c.ga c.gn c.gc] 45) := ⟨_, rfl⟩
  obtain ⟨V1, hV1⟩ : ∃ V, V = V0.alloc (.cells #[.int .i64 0, .int .i64 0, .int .i64 0, .int .i64 0, .int .i64 0, .slice none 0 0] 53) := ⟨_, rfl⟩
  obtain ⟨V, hV⟩ : ∃ V, V = V1.alloc (.cells #[.int .i64 0, .int .i64 0, .int .i64 0, .int .i64 0, .int .i64 0, .slice none 0 0] 53) := ⟨_, rfl⟩
  have z0 : V0.heap.size = w.heap.size + 1 := by rw [hV0]; simp
  have z1 : V1.heap.size = w.heap.size + 1 + 1 := by rw [hV1]; simp [z0]
  have z2 : V.heap.size = w.heap.size + 1 + 1 + 1 := by rw [hV]; simp [z1]
  have b0 : Below w.heap.size w V0 := by rw [hV0]; exact (Below.refl _ _).alloc (Nat.le_refl _) _
  have b1 : Below V0.heap.size V0 V1 := by rw [hV1]; exact (Below.refl _ _).alloc (Nat.le_refl _) _
  have b2 : Below V1.heap.size V1 V := by rw [hV]; exact (Below.refl _ _).alloc (Nat.le_refl _) _
  have X0 : BoxW w.heap.size [.int .i64 c.k, .int .i64 c.e, .int .i64 c.f, .int .i64 c.s, .int .i64 c.n, .slice c.ga c.gn c.gc] V := by
    have q : BoxW w.heap.size [.int .i64 c.k, .int .i64 c.e, .int .i64 c.f, .int .i64 c.s, .int .i64 c.n, .slice c.ga c.gn c.gc] V0 := by rw [hV0]; exact boxW_new _ _ _
    exact (q.below (by omega) b1).below (by omega) b2
  have Y0 : BoxW (w.heap.size + 1) [.int .i64 0, .int .i64 0, .int .i64 0, .int .i64 0, .int .i64 0, .slice none 0 0] V := by
    have q : BoxW V0.heap.size [.int .i64 0, .int .i64 0, .int .i64 0, .int .i64 0, .int .i64 0, .slice none 0 0] V1 := by rw [hV1]; exact boxW_new _ _ _
    rw [z0] at q
    exact q.below (by omega) b2
  have O0 : BoxW (w.heap.size + 1 + 1) [.int .i64 0, .int .i64 0, .int .i64 0, .int .i64 0, .int .i64 0, .slice none 0 0] V := by
    have q : BoxW V1.heap.size [.int .i64 0, .int .i64 0, .int .i64 0, .int .i64 0, .int .i64 0, .slice none 0 0] V := by rw [hV]; exact boxW_new _ _ _
    rw [z1] at q
    exact q
  have B0 : Hid (Below w.heap.size w V) := (b0.trans (b1.mono b0.size)).trans (b2.mono (by omega))
  have HV : Hid (V = ((w.alloc (.cells #[.int .i64 c.k, .int .i64 c.e, .int .i64 c.f, .int .i64 c.s, .int .i64 c.n, .slice c.ga c.gn c.gc] 45)).alloc (.cells #[.int .i64 0, .int .i64 0, .int .i64 0, .int .i64 0, .int .i64 0, .slice none 0 0] 53)).alloc (.cells #[.int .i64 0, .int .i64 0, .int .i64 0, .int .i64 0, .int .i64 0, .slice none 0 0] 53)) := by rw [hV, hV1, hV0]; exact rfl
  have Z2 : Hid (V.heap.size = w.heap.size + 1 + 1 + 1) := z2
  have XX : Hid (BoxW w.heap.size [.int .i64 c.k, .int .i64 c.e, .int .i64 c.f, .int .i64 c.s, .int .i64 c.n, .slice c.ga c.gn c.gc] V ∧ BoxW (w.heap.size + 1) [.int .i64 0, .int .i64 0, .int .i64 0, .int .i64 0, .int .i64 0, .slice none 0 0] V ∧ BoxW (w.heap.size + 1 + 1) [.int .i64 0, .int .i64 0, .int .i64 0, .int .i64 0, .int .i64 0, .slice none 0 0] V) := ⟨X0, Y0, O0⟩
  clear hV hV1 hV0 z0 z1 z2 b0 b1 b2 X0 Y0 O0 V0 V1
  go_enter Try.func33, Try.ntmps33
  go_wp2_with fail
  rw [← HV.out]
  clear HV
  refine (toStatement_c c.st V).mono ?_
  rintro e w1 ⟨rfl, hb1⟩
  have hz1 : w.heap.size + 1 + 1 + 1 ≤ w1.heap.size := by have := Z2.out; have := hb1.size; omega
  obtain ⟨X1, Y1, O1⟩ := XX.out
  have X1 := X1.below (by have := Z2.out; omega) hb1
  have Y1 := Y1.below (by have := Z2.out; omega) hb1
  have O1 := O1.below (by have := Z2.out; omega) hb1
  have B1 : Below w.heap.size w w1 := B0.out.trans (hb1.mono B0.out.size)
  obtain ⟨U, hU⟩ : ∃ U, U = ((((w1.setCell ⟨w.heap.size + 1 + 1, 0, none⟩ (.int .i64 c.k)).setCell ⟨w.heap.size + 1 + 1, 1, none⟩ (.int .i64 c.e)).setCell ⟨w.heap.size + 1 + 1, 2, none⟩ (.int .i64 c.f)).setCell ⟨w.heap.size + 1 + 1, 3, none⟩ (.int .i64 c.s)).setCell ⟨w.heap.size + 1 + 1, 4, none⟩ (.int .i64 c.n) := ⟨_, rfl⟩
  have hw2 : w.heap.size ≤ w.heap.size + 1 + 1 := by omega
  have BU : Hid (Below w.heap.size w U) := by rw [hU]; exact ((((B1.setCell hw2 _).setCell hw2 _).setCell hw2 _).setCell hw2 _).setCell hw2 _
  have ZU : Hid (U.heap.size = w1.heap.size) := by show _ = _; rw [hU]; simp
  have XU : Hid (BoxW w.heap.size [.int .i64 c.k, .int .i64 c.e, .int .i64 c.f, .int .i64 c.s, .int .i64 c.n, .slice c.ga c.gn c.gc] U ∧ BoxW (w.heap.size + 1) [.int .i64 0, .int .i64 0, .int .i64 0, .int .i64 0, .int .i64 0, .slice none 0 0] U ∧ BoxW (w.heap.size + 1 + 1) [.int .i64 c.k, .int .i64 c.e, .int .i64 c.f, .int .i64 c.s, .int .i64 c.n, .slice none 0 0] U) := by
    rw [hU]
    refine ⟨((((X1.other (p := ⟨w.heap.size + 1 + 1, 0, none⟩) (by simp only; omega) _).other (p := ⟨w.heap.size + 1 + 1, 1, none⟩) (by simp only; omega) _).other (p := ⟨w.heap.size + 1 + 1, 2, none⟩) (by simp only; omega) _).other (p := ⟨w.heap.size + 1 + 1, 3, none⟩) (by simp only; omega) _).other (p := ⟨w.heap.size + 1 + 1, 4, none⟩) (by simp only; omega) _, ((((Y1.other (p := ⟨w.heap.size + 1 + 1, 0, none⟩) (by simp only; omega) _).other (p := ⟨w.heap.size + 1 + 1, 1, none⟩) (by simp only; omega) _).other (p := ⟨w.heap.size + 1 + 1, 2, none⟩) (by simp only; omega) _).other (p := ⟨w.heap.size + 1 + 1, 3, none⟩) (by simp only; omega) _).other (p := ⟨w.heap.size + 1 + 1, 4, none⟩) (by simp only; omega) _, ?_⟩
    exact ((((O1.put 0 (by simp) _).put 1 (by simp) _).put 2 (by simp) _).put 3 (by simp) _).put 4 (by simp) _
  have o0 := O1.1 0 _ rfl
  have o1 := O1.1 1 _ rfl
  have o2 := O1.1 2 _ rfl
  have o3 := O1.1 3 _ rfl
  have o4 := O1.1 4 _ rfl
  have f0 := O1.2 0
  have f1 := O1.2 1
  have f2 := O1.2 2
  have f3 := O1.2 3
  have f4 := O1.2 4
  have x5 := X1.1 5 _ rfl
  have hlo : w.heap.size + 1 + 1 < w1.heap.size := by omega
  have hlx : w.heap.size < w1.heap.size := by omega
  clear hb1 X1 Y1 O1 B1 XX
  go_wp2_with fail
  rw [← hU]
  clear hU o0 o1 o2 o3 o4 f0 f1 f2 f3 f4 x5 hlo hlx
  refine (toInts_room c.ga c.gn c.gc c.zs U hn (H.out.below BU.out)).mono ?_
  rintro e w2 ⟨rfl, hat2, hlt2, hb2, hroom2⟩
  have hzU : w.heap.size + 1 + 1 + 1 ≤ U.heap.size := by have := ZU.out; omega
  have hs2 := hb2.size
  obtain ⟨X2, Y2, O2⟩ := XU.out
  have Y2 := Y2.below (by omega) hb2
  have O2 := O2.below (by omega) hb2
  have B2 : Below w.heap.size w w2 := BU.out.trans (hb2.mono BU.out.size)
  obtain ⟨g, hg⟩ : ∃ g, g = U.heap.size := ⟨_, rfl⟩
  rw [← hg] at hat2 hroom2 hlt2 ⊢
  have hgw : w.heap.size + 1 + 1 < g := by omega
  clear hg
  obtain ⟨T, hT⟩ : ∃ T, T = w2.setCell ⟨w.heap.size + 1 + 1, 5, none⟩ (.slice (some ⟨g, 0, none⟩) c.gn c.gn) := ⟨_, rfl⟩
  have YT : BoxW (w.heap.size + 1) [.int .i64 0, .int .i64 0, .int .i64 0, .int .i64 0, .int .i64 0, .slice none 0 0] T := by rw [hT]; exact Y2.other (p := ⟨w.heap.size + 1 + 1, 5, none⟩) (by simp only; omega) _
  have OT : BoxW (w.heap.size + 1 + 1) [.int .i64 c.k, .int .i64 c.e, .int .i64 c.f, .int .i64 c.s, .int .i64 c.n, .slice (some ⟨g, 0, none⟩) c.gn c.gn] T := by rw [hT]; exact O2.put 5 (by simp) _
  have BT : Below w.heap.size w T := by rw [hT]; exact B2.setCell hw2 _
  have sT : w2.heap.size ≤ T.heap.size := by rw [hT]; simp
  have CT : IntCp g c.gn c.zs T := by
    rw [hT]
    have hk : ∀ j, (⟨w.heap.size + 1 + 1, 5, none⟩ : Addr) ≠ ⟨g, j, none⟩ := fun j e => by have := congrArg Addr.block e; simp at this; omega
    refine ⟨fun k x e => ?_, fun j hj => ?_, fun j => by rw [World.frozen?_setCell]; exact hroom2.2 j⟩
    · rw [World.cell?_setCell_other (h := hk k)]; exact hat2 k x e
    · obtain ⟨v, e⟩ := hroom2.1 j hj
      exact ⟨v, by rw [World.cell?_setCell_other (h := hk j)]; exact e⟩
  have HCT : Hid (IntCp g c.gn c.zs T ∧ Below w.heap.size w T) := ⟨CT, BT⟩
  have o5 := O2.1 5 _ rfl
  have f5 := O2.2 5
  have t0 := OT.1 0 _ rfl
  have t1 := OT.1 1 _ rfl
  have t2 := OT.1 2 _ rfl
  have t3 := OT.1 3 _ rfl
  have t4 := OT.1 4 _ rfl
  have t5 := OT.1 5 _ rfl
  have y0 := YT.1 0 _ rfl
  have y1 := YT.1 1 _ rfl
  have y2 := YT.1 2 _ rfl
  have y3 := YT.1 3 _ rfl
  have y4 := YT.1 4 _ rfl
  have y5 := YT.1 5 _ rfl
  have g0 := YT.2 0
  have g1 := YT.2 1
  have g2 := YT.2 2
  have g3 := YT.2 3
  have g4 := YT.2 4
  have g5 := YT.2 5
  have hl1 : w.heap.size + 1 < T.heap.size := by omega
  have hl2 : w.heap.size + 1 + 1 < T.heap.size := by omega
  have hl3 : w.heap.size + 1 + 1 < w2.heap.size := by omega
  have hgT : g < T.heap.size := by omega
  clear hat2 hroom2 hb2 X2 Y2 O2 B2 OT YT BT CT XU
  go_upto_region 4 with fail
  rw [← hT]
  clear hT o5 f5
  go_wp2
  refine bodyPost_ret (v := .agg #[.int .i64 c.k, .int .i64 c.e, .int .i64 c.f, .int .i64 c.s, .int .i64 c.n, .slice (some ⟨g, 0, none⟩) c.gn c.gn]) (by simp [results, Try.results33, go_sem, y0, y1, y2, y3, y4, y5, hl1]) rfl ⟨g, rfl, by omega, by simp; omega, ?_, ?_⟩
  · have hk : ∀ i j, (⟨w.heap.size + 1, i, none⟩ : Addr) ≠ ⟨g, j, none⟩ := fun i j e => by have := congrArg Addr.block e; simp at this; omega
    obtain ⟨⟨h1, h2, h3⟩, _⟩ := HCT.out
    refine ⟨fun k x e => ?_, fun j hj => ?_, fun j => by simp only [World.frozen?_setCell]; exact h3 j⟩
    · rw [World.cell?_setCell_other (h := hk 5 k), World.cell?_setCell_other (h := hk 4 k), World.cell?_setCell_other (h := hk 3 k), World.cell?_setCell_other (h := hk 2 k), World.cell?_setCell_other (h := hk 1 k), World.cell?_setCell_other (h := hk 0 k)]; exact h1 k x e
    · obtain ⟨v, e⟩ := h2 j hj
      exact ⟨v, by rw [World.cell?_setCell_other (h := hk 5 j), World.cell?_setCell_other (h := hk 4 j), World.cell?_setCell_other (h := hk 3 j), World.cell?_setCell_other (h := hk 2 j), World.cell?_setCell_other (h := hk 1 j), World.cell?_setCell_other (h := hk 0 j)]; exact e⟩
  · have hw1 : w.heap.size ≤ w.heap.size + 1 := by omega
    exact (((((HCT.out.2.setCell hw1 _).setCell hw1 _).setCell hw1 _).setCell hw1 _).setCell hw1 _).setCell hw1 _

set_option maxHeartbeats 1000000 in
theorem eqCert_same (c : CrI) (g1 g2 : Nat) (w : World) (hn : c.gn ≤ 1048576) (hz : c.zs.length = c.gn) (h1 : IntsAt w g1 c.zs) (h2 : IntsAt w g2 c.zs) :
    Calls Try.prog 41 #[.agg #[.int .i64 c.k, .int .i64 c.e, .int .i64 c.f, .int .i64 c.s, .int .i64 c.n, .slice (some ⟨g1, 0, none⟩) c.gn c.gn], .agg #[.int .i64 c.k, .int .i64 c.e, .int .i64 c.f, .int .i64 c.s, .int .i64 c.n, .slice (some ⟨g2, 0, none⟩) c.gn c.gn]] w fun e w' => e = .returned (.bool true) ∧ Below w.heap.size w w' := by
  obtain ⟨V, hV⟩ : ∃ V, V = (w.alloc (.cells #[.int .i64 c.k, .int .i64 c.e, .int .i64 c.f, .int .i64 c.s, .int .i64 c.n, .slice (some ⟨g1, 0, none⟩) c.gn c.gn] 53)).alloc (.cells #[.int .i64 c.k, .int .i64 c.e, .int .i64 c.f, .int .i64 c.s, .int .i64 c.n, .slice (some ⟨g2, 0, none⟩) c.gn c.gn] 53) := ⟨_, rfl⟩
  have BV : Below w.heap.size w V := by rw [hV]; exact ((Below.refl _ _).alloc (Nat.le_refl _) _).alloc (by simp) _
  have XV : Hid (BoxW w.heap.size [.int .i64 c.k, .int .i64 c.e, .int .i64 c.f, .int .i64 c.s, .int .i64 c.n, .slice (some ⟨g1, 0, none⟩) c.gn c.gn] V) := by rw [hV]; exact (boxW_new w _ _).below (by simp) ((Below.refl _ _).alloc (Nat.le_refl _) _)
  have YV : Hid (BoxW (w.heap.size + 1) [.int .i64 c.k, .int .i64 c.e, .int .i64 c.f, .int .i64 c.s, .int .i64 c.n, .slice (some ⟨g2, 0, none⟩) c.gn c.gn] V) := by
    rw [hV]
    have q := boxW_new (w.alloc (.cells #[.int .i64 c.k, .int .i64 c.e, .int .i64 c.f, .int .i64 c.s, .int .i64 c.n, .slice (some ⟨g1, 0, none⟩) c.gn c.gn] 53)) #[.int .i64 c.k, .int .i64 c.e, .int .i64 c.f, .int .i64 c.s, .int .i64 c.n, .slice (some ⟨g2, 0, none⟩) c.gn c.gn] 53
    simp only [World.size_alloc] at q
    exact q
  have hVs : w.heap.size + 1 + 1 ≤ V.heap.size := by rw [hV]; simp
  have I1 : Hid (IntIn V (some ⟨g1, 0, none⟩) c.gn c.zs) := (IntIn.of hz h1).below BV
  have I2 : Hid (IntIn V (some ⟨g2, 0, none⟩) c.gn c.zs) := (IntIn.of hz h2).below BV
  clear h1 h2
  go_enter Try.func41, Try.ntmps41
  go_wp2_with fail
  rw [← hV]
  clear hV
  refine (eqStatement_same c.st _).mono ?_
  rintro e w1 ⟨rfl, hb1⟩
  have X1 := XV.out.below (by omega) hb1
  have Y1 := YV.out.below (by omega) hb1
  have x5 := X1.1 5 _ rfl
  have y5 := Y1.1 5 _ rfl
  have hs1 := hb1.size
  have J1 : Hid (IntIn w1 (some ⟨g1, 0, none⟩) c.gn c.zs) := I1.out.below hb1
  have J2 : Hid (IntIn w1 (some ⟨g2, 0, none⟩) c.gn c.zs) := I2.out.below hb1
  clear X1 Y1
  go_wp2_with fail
  refine (eqIntsS_same _ _ c.gn _ _ c.zs _ hn J1.out J2.out).mono ?_
  rintro e w2 ⟨rfl, hb2⟩
  go_wp2
  go_ret
  exact ⟨rfl, (BV.trans (hb1.mono BV.size)).trans (hb2.mono (by have := BV.size; omega))⟩

set_option maxHeartbeats 1000000 in
theorem markCert_c (c : CrI) (g : Nat) (k0 : Int) (w : World) (hn : c.gn ≤ 1048576) (h0 : 0 ≤ k0) (h1 : k0 ≤ 100000000) (h : IntCp g c.gn c.zs w) (hg : g < w.heap.size) :
    Calls Try.prog 49 #[.agg #[.int .i64 c.k, .int .i64 c.e, .int .i64 c.f, .int .i64 c.s, .int .i64 c.n, .slice (some ⟨g, 0, none⟩) c.gn c.gn], .int .i64 k0] w fun e w' => e = .returned (.int .i64 (k0 + (c.gn : Int))) ∧ w.grownBy w' (some g) := by
  obtain ⟨V, hV⟩ : ∃ V, V = w.alloc (.cells #[.int .i64 c.k, .int .i64 c.e, .int .i64 c.f, .int .i64 c.s, .int .i64 c.n, .slice (some ⟨g, 0, none⟩) c.gn c.gn] 53) := ⟨_, rfl⟩
  have gV : w.grownBy V none := by rw [hV]; exact World.grownBy_alloc w _ none
  have RV : Hid (IntRoom V g c.gn) := by
    have := ((IntCp.hold h hg).below (show Below w.heap.size w V by rw [hV]; exact (Below.refl _ _).alloc (Nat.le_refl _) _)).out
    exact ⟨this.2.1, this.2.2⟩
  clear h
  go_enter Try.func49, Try.ntmps49
  go_wp2_with fail
  rw [← hV]
  clear hV
  refine (markIntRow_c g c.gn c.gn k0 _ hn h0 h1 RV.out).mono ?_
  rintro e w1 ⟨rfl, hg1⟩
  have G1 : w.grownBy w1 (some g) := ⟨hg1.os.trans gV.os, hg1.tape.trans gV.tape, hg1.output.trans gV.output, Nat.le_trans gV.size hg1.size, fun q hq hne => (hg1.block q (Nat.lt_of_lt_of_le hq gV.size) hne).trans (gV.block q hq (by simp))⟩
  clear hg1 gV
  go_wp2
  go_ret
  exact ⟨rfl, G1⟩

end Go.Proofs.Ythogdfnaojijhaa
