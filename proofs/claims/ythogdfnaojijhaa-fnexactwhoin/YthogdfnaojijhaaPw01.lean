/-
  CONTRACTS: slices of certificates: marked, as arguments; answers of chapter 12's kind compared, marked, held.
  Conditions: each contract bears its own.
  CONTRACT: spec.l9Verify of a certificate at a place of a row.
  Conditions: the contract bears its own.
  A COPY OF CERTIFICATES, as a law keeps it.
  Conditions: each fact bears its own.
  WALLETS AS ARGUMENTS: their shape, size, copies, comparison, marks.
  Conditions: each fact bears its own.
-/
import Derived.Test.YthogdfnaojijhaaCw0
import Derived.Test.YthogdfnaojijhaaList2
import Derived.Test.YthogdfnaojijhaaCr0
import Derived.Deep.CutBlock
namespace Go.Proofs.Ythogdfnaojijhaa
open Go.RowKit Go.ChangeShapes Go.WideShapes
set_option linter.unusedVariables false
set_option linter.unusedSimpArgs false

theorem cellsCr {w : World} {base : Nat} {a : Addr} {r : CrI} (h : w.cells? base a 6 = some [.int .i64 r.k, .int .i64 r.e, .int .i64 r.f, .int .i64 r.s, .int .i64 r.n, .slice r.ga r.gn r.gc]) : a.spot = none ∧ CrAtO w a.block a.off r := by
  have e : List.range 6 = [0, 1, 2, 3, 4, 5] := rfl
  unfold World.cells? at h
  split at h
  · rw [e] at h
    simp only [List.mapM_cons, List.mapM_nil, Option.bind_eq_bind, Option.bind_eq_some_iff, Option.pure_def, Option.some.injEq, List.cons.injEq] at h
    obtain ⟨x0, h0, y0, ⟨x1, h1, y1, ⟨x2, h2, y2, ⟨x3, h3, y3, ⟨x4, h4, y4, ⟨x5, h5, y5, rfl, e5⟩, e4⟩, e3⟩, e2⟩, e1⟩, e0, ee⟩ := h
    subst e0
    rw [← e1] at ee
    simp only [List.cons.injEq] at ee
    obtain ⟨rfl, ee⟩ := ee
    rw [← e2] at ee
    simp only [List.cons.injEq] at ee
    obtain ⟨rfl, ee⟩ := ee
    rw [← e3] at ee
    simp only [List.cons.injEq] at ee
    obtain ⟨rfl, ee⟩ := ee
    rw [← e4] at ee
    simp only [List.cons.injEq] at ee
    obtain ⟨rfl, ee⟩ := ee
    rw [← e5] at ee
    simp only [List.cons.injEq] at ee
    obtain ⟨rfl, _⟩ := ee
    obtain ⟨b, off, spot⟩ := a
    have hspot : spot = none := by simpa [Addr.add] using World.cell?_spot h0
    subst hspot
    simp only [Addr.add] at h0 h1 h2 h3 h4 h5
    exact ⟨rfl, ⟨by simpa using h0, by simpa using h1, by simpa using h2, by simpa using h3, by simpa using h4⟩, by simpa using h5⟩
  · cases h

/-- Certificates that were handed in. -/
def CrsArg (w : World) (a : Option Addr) (n : Nat) (cs : List CrI) : Prop := CrsIn w a n cs ∧ n ≤ maxLen ∧ ∀ (k : Nat) c, cs[k]? = some c → c.gn ≤ maxLen

theorem certs_shape {H : Type} {enc : TypeId × Value → H} {w : World} {base : Nat} {spare : Nat → Bool} {held : Bool} {fuel : Nat} {a0 : Option Addr} {len cap : Nat} {x : DataW H × List MemPlace} (h : DataW.trod enc Try.prog w base spare held fuel 30 [.slice a0 len cap] = some x) :
    ∃ cs : List CrI, CrsArg w a0 len cs := by
  rcases Go.Deep.open_slice Try.underlying30 h with ⟨hcs, _⟩ | ⟨a, l, c, m, n, D, Pl, hcs, hb, hl, hm, hmm, _, hel⟩
  · simp at hcs
    obtain ⟨rfl, rfl, rfl⟩ := hcs
    exact ⟨[], ⟨rfl, fun h => by omega, fun k c e => by simp at e⟩, Nat.zero_le _, fun k c e => by simp at e⟩
  · simp at hcs
    obtain ⟨rfl, rfl, rfl⟩ := hcs
    have hle : len ≤ m := by rw [hmm]; split <;> omega
    rw [Try.cells45] at hel
    have hk : ∀ i, i < len → ∃ r : CrI, w.cells? base (a.add (i * 6)) 6 = some [.int .i64 r.k, .int .i64 r.e, .int .i64 r.f, .int .i64 r.s, .int .i64 r.n, .slice r.ga r.gn r.gc] ∧ IntIn w r.ga r.gn r.zs ∧ r.gn ≤ maxLen := fun i hi => by
      obtain ⟨cs', hc, ht⟩ := hel i (by omega)
      obtain ⟨r, rfl, hr⟩ := cert_list ht
      exact ⟨r, hc, hr⟩
    obtain ⟨f, hf⟩ := Go.Deep.choose_lt hk
    have key : ∀ (k : Nat) (r : CrI), ((List.range len).map f)[k]? = some r → k < len ∧ r = f k := fun k r e => by
      have hkl : k < len := by
        by_cases q : k < len
        · exact q
        · rw [List.getElem?_eq_none (by simp; omega)] at e; cases e
      rw [List.getElem?_map, List.getElem?_range hkl] at e
      simp at e
      exact ⟨hkl, e.symm⟩
    refine ⟨(List.range len).map f, ⟨by simp, fun hp => ?_, fun k r e => ?_⟩, Nat.le_trans hl hm, fun k r e => ?_⟩
    · obtain ⟨hsp, _⟩ := cellsCr (hf 0 hp).1
      obtain ⟨b, off, spot⟩ := a
      simp [Addr.add] at hsp
      subst hsp
      refine ⟨b, off, rfl, fun k r e => ?_⟩
      obtain ⟨hkl, rfl⟩ := key k r e
      obtain ⟨_, hr⟩ := cellsCr (hf k hkl).1
      have : ((⟨b, off, none⟩ : Addr).add (k * 6)) = ⟨b, off + k * 6, none⟩ := Go.WideShapes.add_plain ..
      rw [this] at hr
      exact hr
    · obtain ⟨hkl, rfl⟩ := key k r e
      exact (hf k hkl).2.1
    · obtain ⟨hkl, rfl⟩ := key k r e
      exact (hf k hkl).2.2

/-- A table of certificates, where marks may be written. -/
structure CrTab (lo hi : Nat) (w : World) (T n : Nat) (ds : List CrI) : Prop where
  ln : ds.length = n
  at6 : ∀ (j : Nat) (d : CrI), ds[j]? = some d → (∃ x, w.cell? ⟨T, j * 6, none⟩ = some (.int .i64 x)) ∧ (∃ x, w.cell? ⟨T, j * 6 + 1, none⟩ = some (.int .i64 x)) ∧ (∃ x, w.cell? ⟨T, j * 6 + 2, none⟩ = some (.int .i64 x)) ∧ (∃ x, w.cell? ⟨T, j * 6 + 3, none⟩ = some (.int .i64 x)) ∧ (∃ x, w.cell? ⟨T, j * 6 + 4, none⟩ = some (.int .i64 x)) ∧ w.cell? ⟨T, j * 6 + 5, none⟩ = some (.slice d.ga d.gn d.gc) ∧ d.gn ≤ 1048576 ∧ ∃ g, d.ga = some ⟨g, 0, none⟩ ∧ lo ≤ g ∧ g < hi ∧ IntRow w g d.gn
  fr : ∀ o, w.frozen? ⟨T, o, none⟩ = false
  lo : lo ≤ T ∧ T < hi

theorem CrTab.mrk {lo hi : Nat} {w w' : World} {T n : Nat} {ds : List CrI} (h : CrTab lo hi w T n ds) (k : Mrk w w') : CrTab lo hi w' T n ds :=
  ⟨h.ln, fun j d e => by
    obtain ⟨⟨x0, h0⟩, ⟨x1, h1⟩, ⟨x2, h2⟩, ⟨x3, h3⟩, ⟨x4, h4⟩, h5, h6, g, h7, h8, h9, h10⟩ := h.at6 j d e
    exact ⟨k.it _ x0 h0, k.it _ x1 h1, k.it _ x2 h2, k.it _ x3 h3, k.it _ x4 h4, k.sl _ _ _ _ h5, h6, g, h7, h8, h9, h10.mrk k⟩, fun o => (k.fr _).trans (h.fr o), h.lo⟩

theorem CpR1.tab {lo hi n : Nat} {cs ds : List CrI} {X : World} (h : CpR1 lo hi n cs ds X) : CrTab lo hi X lo n ds := by
  refine ⟨h.ln, fun j d e => ?_, h.fr, Nat.le_refl _, h.lh.1⟩
  obtain ⟨c, g, hc, rfl, h1, h2, h3⟩ := h.get e
  obtain ⟨⟨a0, a1, a2, a3, a4⟩, a5⟩ := h.ca j _ e
  obtain ⟨hz, hg⟩ := h.zl j c hc
  refine ⟨⟨_, a0⟩, ⟨_, a1⟩, ⟨_, a2⟩, ⟨_, a3⟩, ⟨_, a4⟩, a5, hg, g, rfl, h1, h2, fun q hq => ?_, h3.2.2⟩
  exact ⟨_, h3.1 q _ (List.getElem?_eq_getElem (show q < c.zs.length by rw [hz]; exact hq))⟩

/-- Five numbers over five numbers of the table. -/
theorem mark5 {lo hi : Nat} {w0 w : World} {T n j : Nat} {ds : List CrI} {d : CrI} (h : CrTab lo hi w T n ds) (hd : ds[j]? = some d) (x0 x1 x2 x3 x4 : Int) : Mrk w (((((w.setCell ⟨T, j * 6, none⟩ (.int .i64 x0)).setCell ⟨T, j * 6 + 1, none⟩ (.int .i64 x1)).setCell ⟨T, j * 6 + 2, none⟩ (.int .i64 x2)).setCell ⟨T, j * 6 + 3, none⟩ (.int .i64 x3)).setCell ⟨T, j * 6 + 4, none⟩ (.int .i64 x4)) ∧ Chg lo hi w (((((w.setCell ⟨T, j * 6, none⟩ (.int .i64 x0)).setCell ⟨T, j * 6 + 1, none⟩ (.int .i64 x1)).setCell ⟨T, j * 6 + 2, none⟩ (.int .i64 x2)).setCell ⟨T, j * 6 + 3, none⟩ (.int .i64 x3)).setCell ⟨T, j * 6 + 4, none⟩ (.int .i64 x4)) := by
  obtain ⟨⟨y0, h0⟩, ⟨y1, h1⟩, ⟨y2, h2⟩, ⟨y3, h3⟩, ⟨y4, h4⟩, _⟩ := h.at6 j d hd
  have m0 := Mrk.set h0 x0
  obtain ⟨z1, e1⟩ := m0.it _ _ h1
  have m1 := m0.trans (Mrk.set e1 x1)
  obtain ⟨z2, e2⟩ := m1.it _ _ h2
  have m2 := m1.trans (Mrk.set e2 x2)
  obtain ⟨z3, e3⟩ := m2.it _ _ h3
  have m3 := m2.trans (Mrk.set e3 x3)
  obtain ⟨z4, e4⟩ := m3.it _ _ h4
  have c : ∀ (W : World) (o : Nat) (v : Value), Chg lo hi W (W.setCell ⟨T, o, none⟩ v) := fun W o v => Chg.grown (grown_set W T o v) (fun q e => by cases e; exact h.lo)
  exact ⟨m3.trans (Mrk.set e4 x4), ((((c _ _ _).trans (c _ _ _)).trans (c _ _ _)).trans (c _ _ _)).trans (c _ _ _)⟩

set_option maxRecDepth 20000 in
set_option maxHeartbeats 2000000 in
theorem markCertsK_c (lo hi T n cap : Nat) (k0 : Int) (ds : List CrI) (w : World) (hn : n ≤ 1048576) (h0 : 0 ≤ k0) (h1 : k0 ≤ 8000000000000000000) (h : CrTab lo hi w T n ds) :
    Calls Try.prog 48 #[.slice (some ⟨T, 0, none⟩) n cap, .int .i64 k0] w fun e w' => (∃ k : Int, e = .returned (.int .i64 k) ∧ k0 ≤ k ∧ k ≤ k0 + 1048581 * (n : Int)) ∧ Mrk w w' ∧ Chg lo hi w w' := by
  have HO : Hid (CrTab lo hi w T n ds) := h
  clear h
  have hn' : (n : Int) ≤ 1048576 := by omega
  go_enter Try.func48, Try.ntmps48
  go_wp2
  go_loopw [1, 5] (fun q i wr => ∃ (j : Nat) (k : Int), j ≤ n ∧ i = .int .i64 (j : Int) ∧ q = .int .i64 k ∧ (k0 ≤ k ∧ k ≤ k0 + 1048581 * (j : Int)) ∧ Mrk w wr ∧ Chg lo hi w wr)
    (fun _ i _ => n - (intOf i).toNat)
  case atStart => exact ⟨0, k0, Nat.zero_le _, rfl, rfl, ⟨by omega, by omega⟩, Mrk.refl _, Chg.refl _⟩
  case round =>
    obtain ⟨j, k, hj, rfl, rfl, ⟨hk0, hk1⟩, hmk, hch⟩ := hrel
    have HM : Hid (Mrk w wr ∧ Chg lo hi w wr) := ⟨hmk, hch⟩
    have HT : Hid (CrTab lo hi wr T n ds) := HO.out.mrk hmk
    clear hmk hch
    by_cases hlt : j < n
    · have hlt' : (j : Int) < (n : Int) := by omega
      obtain ⟨d, hd⟩ : ∃ d, ds[j]? = some d := ⟨_, List.getElem?_eq_getElem (by rw [HT.out.ln]; exact hlt)⟩
      obtain ⟨⟨x0, c0⟩, ⟨x1, c1⟩, ⟨x2, c2⟩, ⟨x3, c3⟩, ⟨x4, c4⟩, c5, hgn, gc, hga, _⟩ := HT.out.at6 j d hd
      have f0 := HT.out.fr (j * 6)
      have f1 := HT.out.fr (j * 6 + 1)
      have f2 := HT.out.fr (j * 6 + 2)
      have f3 := HT.out.fr (j * 6 + 3)
      have f4 := HT.out.fr (j * 6 + 4)
      have hTl := World.block_lt_of_cell? wr ⟨T, j * 6, none⟩ c0
      rw [hga] at c5
      have q0 : IntKind.i64.wrap (k + 1) = k + 1 := by rw [IntKind.wrap_i64]; omega
      have q1 : IntKind.i64.wrap (k + 1 + 1) = k + 1 + 1 := by rw [IntKind.wrap_i64]; omega
      have q2 : IntKind.i64.wrap (k + 1 + 1 + 1) = k + 1 + 1 + 1 := by rw [IntKind.wrap_i64]; omega
      have q3 : IntKind.i64.wrap (k + 1 + 1 + 1 + 1) = k + 1 + 1 + 1 + 1 := by rw [IntKind.wrap_i64]; omega
      have q4 : IntKind.i64.wrap (k + 1 + 1 + 1 + 1 + 1) = k + 1 + 1 + 1 + 1 + 1 := by rw [IntKind.wrap_i64]; omega
      obtain ⟨W2, hW2⟩ : ∃ W2, W2 = ((((wr.setCell ⟨T, j * 6, none⟩ (.int .i64 k)).setCell ⟨T, j * 6 + 1, none⟩ (.int .i64 (k + 1))).setCell ⟨T, j * 6 + 2, none⟩ (.int .i64 (k + 1 + 1))).setCell ⟨T, j * 6 + 3, none⟩ (.int .i64 (k + 1 + 1 + 1))).setCell ⟨T, j * 6 + 4, none⟩ (.int .i64 (k + 1 + 1 + 1 + 1)) := ⟨_, rfl⟩
      have M5 := mark5 (w0 := wr) HT.out hd k (k + 1) (k + 1 + 1) (k + 1 + 1 + 1) (k + 1 + 1 + 1 + 1)
      rw [← hW2] at M5
      have HM2 : Hid (Mrk w W2 ∧ Chg lo hi w W2) := ⟨HM.out.1.trans M5.1, HM.out.2.trans M5.2⟩
      have HD : Hid (ds[j]? = some d) := hd
      clear M5 hd HM
      go_upto_region 14 with fail
      rw [← hW2]
      clear hW2 c0 c1 c2 c3 c4 c5 f0 f1 f2 f3 f4 hTl
      obtain ⟨_, _, _, _, _, q5, _, gc', hga', hlo', hhi', hrow⟩ := (HO.out.mrk HM2.out.1).at6 j d HD.out
      rw [hga] at hga' q5
      cases hga'
      have HC : Hid (IntRow W2 gc d.gn) := hrow
      have hTl := World.block_lt_of_cell? W2 ⟨T, j * 6 + 5, none⟩ q5
      have hgn' : (d.gn : Int) ≤ 1048576 := by omega
      clear hrow
      go_wp2_with fail
      refine (markIntsK_c lo hi gc d.gn d.gc _ W2 hgn (by omega) (by omega) ⟨hlo', hhi'⟩ HC.out).mono ?_
      rintro e w5 ⟨rfl, m5, h5⟩
      have HM5 : Hid (Mrk w w5 ∧ Chg lo hi w w5) := ⟨HM2.out.1.trans m5, HM2.out.2.trans h5⟩
      clear m5 h5 HM2 q5 hTl HC
      go_wp2_with fail
      exact ⟨⟨j + 1, _, by omega, by go_num, rfl, ⟨by omega, by simp; omega⟩, HM5.out.1, HM5.out.2⟩, by simp [intOf]; omega⟩
    · have hjn : j = n := by omega
      subst hjn
      go_wp2_with fail
      go_ret
      exact ⟨⟨k, rfl, hk0, hk1⟩, HM.out.1, HM.out.2⟩

theorem markCpR_c {lo hi n : Nat} {cs : List CrI} (ca : Nat) (k0 : Int) {W : World} (hn : n ≤ 1048576) (h0 : 0 ≤ k0) (h1 : k0 ≤ 8000000000000000000) (h : CpR lo hi n cs W) :
    Calls Try.prog 48 #[.slice (some ⟨lo, 0, none⟩) n ca, .int .i64 k0] W fun e w' => ∃ k : Int, e = .returned (.int .i64 k) ∧ (k0 ≤ k ∧ k ≤ k0 + 1048581 * (n : Int)) ∧ Chg lo hi W w' := by
  obtain ⟨ds, h4⟩ := h
  refine (markCertsK_c lo hi lo n ca k0 ds W hn h0 h1 h4.tab).mono ?_
  rintro e w' ⟨⟨k, rfl, k1, k2⟩, _, hc⟩
  exact ⟨k, rfl, ⟨k1, k2⟩, hc⟩

end Go.Proofs.Ythogdfnaojijhaa

namespace Go.Proofs.Ythogdfnaojijhaa
open Go.RowKit
set_option linter.unusedVariables false
set_option linter.unusedSimpArgs false

/-- A certificate in memory, at a place of a row. -/
structure CrO (w : World) (b o : Nat) (x : StI) (ga : Option Addr) (gn gc : Nat) (ys : List Int) : Prop where
  st : StAt w b o x
  sl : w.cell? ⟨b, o + 5, none⟩ = some (.slice ga gn gc)
  row : IntIn w ga gn ys

theorem CrO.lt {w : World} {b o : Nat} {x : StI} {ga : Option Addr} {gn gc : Nat} {ys : List Int} (h : CrO w b o x ga gn gc ys) : b < w.heap.size := World.block_lt_of_cell? w ⟨b, o + 5, none⟩ h.sl

theorem CrO.below {w w' : World} {b o : Nat} {x : StI} {ga : Option Addr} {gn gc : Nat} {ys : List Int} (h : CrO w b o x ga gn gc ys) (hb : Below w.heap.size w w') : CrO w' b o x ga gn gc ys :=
  ⟨h.st.below hb h.lt, (hb.cell (p := ⟨b, o + 5, none⟩) h.lt).trans h.sl, h.row.below hb⟩

set_option maxRecDepth 20000 in
set_option maxHeartbeats 4000000 in
theorem l9VerifyO_c (a : Option Addr) (n cap : Nat) (zs : List ShI) (f : Int) (cb o : Nat) (x : StI) (ga : Option Addr) (gn gc : Nat) (ys : List Int) (w : World) (hn : n ≤ 1048576) (hgn : gn ≤ 1048576) (hf : inR f 1 2 = true) (h : ShIn w a n zs) (hc : CrO w cb o x ga gn gc ys) :
    Calls Try.prog 57 #[.slice a n cap, .int .i64 f, .pointer (some ⟨cb, o, none⟩)] w fun e w' => e = .returned (.int .i64 (vfL f zs x ys)) ∧ Below w.heap.size w w' := by
  have H : Hid (ShIn w a n zs) := h
  have HC : Hid (CrO w cb o x ga gn gc ys) := hc
  have HZ : Hid (ys.length = gn) := hc.row.1
  have hn' : (n : Int) ≤ 1048576 := by omega
  have hgn' : (gn : Int) ≤ 1048576 := by omega
  obtain ⟨hf1, hf2⟩ := (inR_iff f 1 2).1 hf
  obtain ⟨c, hcc⟩ : ∃ c, c = vfL f zs x ys := ⟨_, rfl⟩
  rw [← hcc]
  have HV : Hid (c = vfL f zs x ys) := hcc
  obtain ⟨s, hs⟩ : ∃ s, stCode x = s := ⟨_, rfl⟩
  have HSC : Hid (stCode x = s) := hs
  have hcl := hc.lt
  clear h hc hf hcc
  by_cases s0 : s = 0
  · have sb : (s != 0) = false := by simp [s0]
    have HV2 : Hid (c = if sfCode f ys = 0 then (if sgdAll zs x ys = true then 0 else 7) else sfCode f ys) := by show c = _; rw [HV.out]; unfold vfL; rw [hs, if_pos s0]
    clear hs s0 HV
    have hST := HC.out.st
    go_enter Try.func57, Try.ntmps57
    go_wp2_with (first | (go_at_call 30; refine (l7Fault_c _ _ x _ hST).mono ?_; rintro e w' ⟨rfl, rfl⟩; rw [HSC.out]))
    clear hST
    go_loopw [8] (fun i wr => ∃ m : Nat, 1 ≤ m ∧ (m ≤ gn ∨ m = 1) ∧ i = .int .i64 (m : Int) ∧ (∀ j x y, 1 ≤ j → j < m → ys[j - 1]? = some x → ys[j]? = some y → x < y) ∧ Below w.heap.size w wr) (fun i _ => gn + 1 - (intOf i).toNat)
    case atStart => exact ⟨1, Nat.le_refl _, .inr rfl, rfl, fun j x y h1 h2 => by omega, Below.refl _ _⟩
    case round =>
      obtain ⟨m, hm1, hmn, rfl, hr, hnx⟩ := hrel
      have HR : Hid (∀ j x y, 1 ≤ j → j < m → ys[j - 1]? = some x → ys[j]? = some y → x < y) := hr
      clear hr
      have c5 := (HC.out.below hnx).sl
      by_cases hlt : m < gn
      · obtain ⟨k, hk⟩ : ∃ k, k + 1 = m := ⟨m - 1, by omega⟩
        obtain ⟨b, off, p, rfl, hp, hpa, hbl⟩ := HC.out.row.at (show k < gn by omega)
        obtain ⟨b', off', y, e', hy, hya, _⟩ := HC.out.row.at hlt
        cases e'
        have c0 := (hnx.cell (p := ⟨b, off + k, none⟩) hbl).trans hpa
        have c1 := (hnx.cell (p := ⟨b, off + m, none⟩) hbl).trans hya
        have hbw : b < wr.heap.size := Nat.lt_of_lt_of_le hbl hnx.size
        have hcw : cb < wr.heap.size := Nat.lt_of_lt_of_le hcl hnx.size
        have hlt' : (m : Int) < (gn : Int) := by omega
        have hm0 : (0 : Int) ≤ (m : Int) := by omega
        have hk0 : (0 : Int) ≤ (k : Int) := by omega
        have hkn : (k : Int) < (gn : Int) := by omega
        have hwr : IntKind.i64.wrap ((m : Int) - 1) = (k : Int) := by rw [IntKind.wrap_i64]; omega
        have HX : Hid (ys[m - 1]? = some p ∧ ys[m]? = some y) := ⟨by rw [show m - 1 = k by omega]; exact hp, hy⟩
        clear hp hy hpa hya hk hmn
        by_cases hxy : p < y
        · have HN : Hid (∀ j x y, 1 ≤ j → j < m + 1 → ys[j - 1]? = some x → ys[j]? = some y → x < y) := fun j x' y' h1 h2 e1 e2 => by
            by_cases q : j = m
            · subst q
              rw [HX.out.1] at e1
              rw [HX.out.2] at e2
              cases e1; cases e2; exact hxy
            · exact HR.out j x' y' h1 (by omega) e1 e2
          have hle : ¬ (y ≤ p) := by omega
          go_wp2
          go_quiet (fail)
          go_wp2
          exact ⟨⟨m + 1, by omega, .inl (by omega), by go_num, HN.out, below_drewN hnx _⟩, by simp [intOf]; omega⟩
        · have H1 : Hid (c = 1) := by
            have : riseB ys = false := by unfold riseB; exact decide_eq_false (rise_not (k := m) HX.out.1 HX.out.2 (by omega) hxy)
            show c = 1
            rw [HV2.out]
            have e : sfCode f ys = 1 := by unfold sfCode; rw [if_neg (by rw [this]; simp)]
            rw [e]; rfl
          have hle : y ≤ p := by omega
          clear hxy
          go_wp2
          go_quiet (fail)
          go_wp2
          go_ret
          exact ⟨by rw [H1.out]; rfl, below_drewN hnx _⟩
      · have hlt' : ¬ ((m : Int) < (gn : Int)) := by omega
        have HRB : Hid (riseB ys = true) := by
          show riseB ys = true
          unfold riseB
          exact decide_eq_true (rise_next HZ.out (fun j x y h1 h2 e1 e2 => HR.out j x y h1 (by omega) e1 e2))
        have HV3 : Hid (c = if rngAll f ys = true then (if (gn : Int) < 2 * f + 1 then 7 else (if sgdAll zs x ys = true then 0 else 7)) else 3) := by
          show c = _
          rw [HV2.out]
          unfold sfCode
          rw [if_pos HRB.out, HZ.out]
          cases rngAll f ys
          · simp
          · by_cases q : (gn : Int) < 2 * f + 1
            · simp [q]
            · simp [q]
        clear HV2 HRB HR hm1 hmn
        obtain ⟨U, hU⟩ : ∃ U, U = wr := ⟨_, rfl⟩
        rw [← hU] at hnx c5 ⊢
        clear hU
        go_wp2
        clear c5
        go_loopw [9] (fun i wr => ∃ k : Nat, k ≤ gn ∧ i = .int .i64 (k : Int) ∧ (∀ j y, j < k → ys[j]? = some y → inR y 1 (3 * f + 1) = true) ∧ Below w.heap.size w wr) (fun i _ => gn - (intOf i).toNat)
        case atStart => exact ⟨0, Nat.zero_le _, rfl, fun j y h => by omega, hnx⟩
        case round =>
          obtain ⟨k, hk, rfl, hz, hnx2⟩ := hrel
          have HK0 : Hid (∀ j y, j < k → ys[j]? = some y → inR y 1 (3 * f + 1) = true) := hz
          clear hz
          have c5 := (HC.out.below hnx2).sl
          by_cases hlt : k < gn
          · obtain ⟨b, off, p, rfl, hp, hpa, hbl⟩ := HC.out.row.at hlt
            have hltk : (k : Int) < (gn : Int) := by omega
            have c0 := (hnx2.cell (p := ⟨b, off + k, none⟩) hbl).trans hpa
            obtain ⟨t, ht⟩ : ∃ t, inR p 1 (3 * f + 1) = t := ⟨_, rfl⟩
            have HX : Hid (ys[k]? = some p ∧ inR p 1 (3 * f + 1) = t) := ⟨hp, ht⟩
            clear hp hpa ht
            cases t
            · have HE : Hid (c = 3) := by
                show c = 3
                have : rngAll f ys = false := by
                  cases q : rngAll f ys
                  · rfl
                  · unfold rngAll at q
                    have := List.all_eq_true.1 q p (List.mem_of_getElem? HX.out.1)
                    rw [HX.out.2] at this
                    cases this
                rw [HV3.out, this]; rfl
              go_wp2_with (first | (go_at_call 27; refine (cin_c _ _ _ _).mono ?_; rintro e w' ⟨rfl, rfl⟩; rw [HX.out.2]))
              go_ret
              exact ⟨by rw [HE.out]; rfl, hnx2⟩
            · have HN : Hid (∀ j y, j < k + 1 → ys[j]? = some y → inR y 1 (3 * f + 1) = true) := fun j y h1 e1 => by
                by_cases q : j = k
                · subst q
                  rw [HX.out.1] at e1
                  cases e1
                  exact HX.out.2
                · exact HK0.out j y (by omega) e1
              go_wp2_with (first | (go_at_call 27; refine (cin_c _ _ _ _).mono ?_; rintro e w' ⟨rfl, rfl⟩; rw [HX.out.2]))
              exact ⟨⟨k + 1, by omega, by go_num, HN.out, hnx2⟩, by simp [intOf]; omega⟩
          · have hltk : ¬ ((k : Int) < (gn : Int)) := by omega
            have HV4 : c = if (gn : Int) < 2 * f + 1 then 7 else (if sgdAll zs x ys = true then 0 else 7) := by
              have : rngAll f ys = true := by
                unfold rngAll
                refine List.all_eq_true.2 (fun y hy => ?_)
                obtain ⟨j, hj, e⟩ := List.mem_iff_getElem.1 hy
                exact HK0.out j y (by have := HZ.out; omega) (by rw [List.getElem?_eq_getElem hj, e])
              rw [HV3.out, this, if_pos rfl]
            clear HV3 HK0 hk
            by_cases hq : (gn : Int) < 2 * f + 1
            · have H7 : Hid (c = 7) := by show c = 7; rw [HV4, if_pos hq]
              clear HV4
              go_wp2
              go_ret
              exact ⟨by rw [H7.out]; rfl, hnx2⟩
            · have HV5 : Hid (c = if sgdAll zs x ys = true then 0 else 7) := by show c = _; rw [HV4, if_neg hq]
              clear HV4
              obtain ⟨U2, hU⟩ : ∃ U, U = wr := ⟨_, rfl⟩
              rw [← hU] at hnx2 c5 ⊢
              clear hU
              go_wp2
              clear c5
              go_loopw [10] (fun i wr => ∃ k : Nat, k ≤ gn ∧ i = .int .i64 (k : Int) ∧ (∀ j y, j < k → ys[j]? = some y → hasSh zs (shOf y x) = true) ∧ Below w.heap.size w wr) (fun i _ => gn - (intOf i).toNat)
              case atStart => exact ⟨0, Nat.zero_le _, rfl, fun j y h => by omega, hnx2⟩
              case round =>
                obtain ⟨i, hi, rfl, hz, hnx3⟩ := hrel
                have HI0 : Hid (∀ j y, j < i → ys[j]? = some y → hasSh zs (shOf y x) = true) := hz
                clear hz
                have hK := HC.out.below hnx3
                have c5 := hK.sl
                by_cases hlt : i < gn
                · obtain ⟨b, off, p, rfl, hp, hpa, hbl⟩ := HC.out.row.at hlt
                  have hlti : (i : Int) < (gn : Int) := by omega
                  have hi0 : (0 : Int) ≤ (i : Int) := by omega
                  have c0 := (hnx3.cell (p := ⟨b, off + i, none⟩) hbl).trans hpa
                  obtain ⟨z0, z1, z2, z3, z4⟩ := hK.st
                  try simp only [Nat.zero_add] at z0 z1 z2 z3 z4
                  have hbw : b < wr.heap.size := Nat.lt_of_lt_of_le hbl hnx3.size
                  have hcw : cb < wr.heap.size := Nat.lt_of_lt_of_le hcl hnx3.size
                  obtain ⟨t, ht⟩ : ∃ t, hasSh zs (shOf p x) = t := ⟨_, rfl⟩
                  have HX : Hid (ys[i]? = some p ∧ hasSh zs (shOf p x) = t) := ⟨hp, ht⟩
                  have HQ : Hid (∀ w2 : World, KC wr w2 → Calls Try.prog 54 #[.slice a n cap, .agg #[.int .i64 p, .int .i64 x.k, .int .i64 x.e, .int .i64 x.f, .int .i64 x.s, .int .i64 x.n]] w2 fun e w' => e = .returned (.bool t) ∧ Below w2.heap.size w2 w') := fun w2 hb => by
                    have := l9Has_c a n cap zs (shOf p x) w2 hn ((H.out.below hnx3).below hb.2)
                    rw [ht] at this
                    exact this
                  clear hp hpa ht hK
                  go_wp2
                  go_region_held3 (fun w' => KC wr w') (first | exact hS | exact kp_drew _)
                    (first | (go_at_call 54; refine (HQ.out _ (by assumption)).mono ?_; rintro e w' ⟨rfl, hb1⟩; have hS := kp_step (by assumption) hb1))
                  have B1 := hnx3.trans (hS.2.mono hnx3.size)
                  cases t
                  · have H7 : Hid (c = 7) := by
                      show c = 7
                      have : sgdAll zs x ys = false := by
                        cases q : sgdAll zs x ys
                        · rfl
                        · unfold sgdAll at q
                          have := List.all_eq_true.1 q p (List.mem_of_getElem? HX.out.1)
                          rw [HX.out.2] at this
                          cases this
                      rw [HV5.out, this]; rfl
                    go_wp2
                    go_ret
                    exact ⟨by rw [H7.out]; rfl, B1⟩
                  · have HN : Hid (∀ j y, j < i + 1 → ys[j]? = some y → hasSh zs (shOf y x) = true) := fun j y h1 e1 => by
                      by_cases q : j = i
                      · subst q
                        rw [HX.out.1] at e1
                        cases e1
                        exact HX.out.2
                      · exact HI0.out j y (by omega) e1
                    go_wp2
                    exact ⟨⟨i + 1, by omega, by go_num, HN.out, B1⟩, by simp [intOf]; omega⟩
                · have hlti : ¬ ((i : Int) < (gn : Int)) := by omega
                  have H0 : Hid (c = 0) := by
                    show c = 0
                    have : sgdAll zs x ys = true := by
                      unfold sgdAll
                      refine List.all_eq_true.2 (fun y hy => ?_)
                      obtain ⟨j, hj, e⟩ := List.mem_iff_getElem.1 hy
                      exact HI0.out j y (by have := HZ.out; omega) (by rw [List.getElem?_eq_getElem hj, e])
                    rw [HV5.out, this]; rfl
                  go_wp2
                  go_ret
                  exact ⟨by rw [H0.out]; rfl, hnx3⟩
  · have sb : (s != 0) = true := by simp [s0]
    have HE : Hid (c = s) := by show c = s; rw [HV.out]; unfold vfL; rw [hs, if_neg s0]
    clear hs s0 HV
    have hST := HC.out.st
    go_enter Try.func57, Try.ntmps57
    go_wp2_with (first | (go_at_call 30; refine (l7Fault_c _ _ x _ hST).mono ?_; rintro e w' ⟨rfl, rfl⟩; rw [HSC.out]))
    go_ret
    exact ⟨by rw [HE.out]; rfl, Below.refl _ _⟩


/-- What fill asks of a chain's certificates. -/
def chL (cr : List CrI) : List (StI × List Int) := cr.map (fun c => (c.st, c.zs))

theorem chL_len (cr : List CrI) : (chL cr).length = cr.length := by unfold chL; rw [List.length_map]

end Go.Proofs.Ythogdfnaojijhaa

namespace Go.Proofs.Ythogdfnaojijhaa
open Go.RowKit
set_option linter.unusedVariables false
set_option linter.unusedSimpArgs false

theorem CpR1.kept {lo hi n : Nat} {cs ds : List CrI} {X X' : World} (h : CpR1 lo hi n cs ds X) (hk : ∀ b, lo ≤ b → b < hi → X'.heap[b]? = X.heap[b]?) : CpR1 lo hi n cs ds X' := by
  have h0 := hk lo (Nat.le_refl _) h.lh.1
  have hc : ∀ o, X'.cell? ⟨lo, o, none⟩ = X.cell? ⟨lo, o, none⟩ := fun o => World.cell?_of_block (a := ⟨lo, o, none⟩) h0
  refine ⟨h.ln, h.lc, h.zl, fun j d e => ?_, fun j c d e1 e2 => ?_, fun j => (World.frozen?_of_block (a := ⟨lo, j, none⟩) h0).trans (h.fr j), h.lh.1, ?_⟩
  · obtain ⟨⟨a0, a1, a2, a3, a4⟩, a5⟩ := h.ca j d e
    exact ⟨⟨(hc _).trans a0, (hc _).trans a1, (hc _).trans a2, (hc _).trans a3, (hc _).trans a4⟩, (hc _).trans a5⟩
  · obtain ⟨g, q, h1, h2, h3⟩ := h.nw j c d e1 e2
    exact ⟨g, q, h1, h2, (IntCp.hold h3 (by have := h.lh.2; omega)).kept X X' h3 (fun b b1 b2 => hk b (by omega) (by omega))⟩
  · have hl := h.lh
    have h1 := hk (hi - 1) (by omega) (by omega)
    rw [Array.getElem?_eq_getElem (show hi - 1 < X.heap.size by omega)] at h1
    have := (Array.getElem?_eq_some_iff.1 h1).1
    omega

theorem CrsTo.cpH {w0 w wA : World} {a : Option Addr} {n : Nat} {cs ds : List CrI} (h : CrsTo w0 w n cs ds n) (hi : CrsIn wA a n cs) (hl : ∀ (k : Nat) c, cs[k]? = some c → c.gn ≤ 1048576) : Hold w0.heap.size w.heap.size (CpR w0.heap.size w.heap.size n cs) w :=
  ⟨(h.cpR hi hl).out, Nat.le_refl _, fun X X' hX hk => by
    obtain ⟨es, h1⟩ := hX
    exact ⟨es, h1.kept hk⟩⟩

/-- A copy's chain is the chain. -/
theorem CpR1.chL {lo hi n : Nat} {cs ds : List CrI} {X : World} (h : CpR1 lo hi n cs ds X) : chL ds = chL cs := by
  unfold Go.Proofs.Ythogdfnaojijhaa.chL
  apply List.ext_getElem?
  intro i
  rw [List.getElem?_map, List.getElem?_map]
  cases e : ds[i]? with
  | none =>
    have : ds.length ≤ i := by simpa using e
    have e2 : cs[i]? = none := List.getElem?_eq_none (by rw [h.lc, ← h.ln]; exact this)
    rw [e2]
  | some d =>
    obtain ⟨c, g, hc, rfl, _⟩ := h.get e
    rw [hc]
    rfl

theorem CpR1.le {lo hi n : Nat} {cs ds : List CrI} {X : World} (h : CpR1 lo hi n cs ds X) : ∀ (k : Nat) c, ds[k]? = some c → c.gn ≤ 1048576 ∧ c.gn ≤ c.gc ∧ c.gc ≤ maxLen := fun k d e => by
  obtain ⟨c, g, hc, rfl, _⟩ := h.get e
  have := (h.zl k c hc).2
  exact ⟨this, Nat.le_refl _, by show c.gn ≤ maxLen; unfold maxLen; omega⟩

end Go.Proofs.Ythogdfnaojijhaa

namespace Go.Proofs.Ythogdfnaojijhaa
open Go.RowKit Go.ChangeShapes Go.WideShapes
set_option linter.unusedVariables false
set_option linter.unusedSimpArgs false

/-- A wallet, as an argument: its chain, what was issued, what revokes. -/
structure WlI where
  ca : Option Addr
  cn : Nat
  cc : Nat
  cz : List CrI
  k : Int
  e : Int
  f : Int
  s : Int
  n : Int
  ga : Option Addr
  gn : Nat
  gc : Nat
  zs : List Int
  ra : Option Addr
  rn : Nat
  rc : Nat
  rz : List CrI

abbrev WlI.c (x : WlI) : CrI := ⟨x.k, x.e, x.f, x.s, x.n, x.ga, x.gn, x.gc, x.zs⟩

abbrev WlI.st (x : WlI) : StI := ⟨x.k, x.e, x.f, x.s, x.n⟩

/-- The places of a copy: its chain's row, the signers' row, the row of what revokes; the first block, and the one behind the last. -/
structure WlP where
  l : Nat
  g : Nat
  r : Nat
  m : Nat
  h : Nat

structure WlIn (w : World) (x : WlI) : Prop where
  ch : CrsIn w x.ca x.cn x.cz
  is : IntIn w x.ga x.gn x.zs
  rv : CrsIn w x.ra x.rn x.rz

theorem WlIn.below {w w' : World} {x : WlI} (h : WlIn w x) (hb : Below w.heap.size w w') : WlIn w' x := ⟨h.ch.below hb, h.is.below hb, h.rv.below hb⟩

structure WlLe (m : Nat) (x : WlI) : Prop where
  cn : x.cn ≤ m
  cl : ∀ (k : Nat) c, x.cz[k]? = some c → c.gn ≤ m
  gn : x.gn ≤ m
  rn : x.rn ≤ m
  rl : ∀ (k : Nat) c, x.rz[k]? = some c → c.gn ≤ m

theorem CpR.hold {lo hi n : Nat} {cs : List CrI} {W : World} (h : CpR lo hi n cs W) : Hold lo hi (CpR lo hi n cs) W :=
  ⟨h, by obtain ⟨ds, h1⟩ := h; exact h1.lh.2, fun X X' hX hk => by
    obtain ⟨es, h1⟩ := hX
    exact ⟨es, h1.kept hk⟩⟩

/-- A copy of a wallet, at its places. -/
structure CpW (p : WlP) (x : WlI) (X : World) : Prop where
  ch : CpR p.l p.m x.cn x.cz X
  is : IntCp p.g x.gn x.zs X
  rv : CpR p.r p.h x.rn x.rz X
  ml : p.l < p.m
  mg : p.m ≤ p.g
  gr : p.g < p.r
  rh : p.r < p.h
  hx : p.h ≤ X.heap.size

theorem CpW.hold {p : WlP} {x : WlI} {W : World} (h : CpW p x W) : Hold p.l p.h (CpW p x) W :=
  ⟨h, h.hx, fun X X' hX hk => by
    have a1 := (CpR.hold hX.ch).kept X X' hX.ch (fun b b1 b2 => hk b b1 (by have := hX.mg; have := hX.gr; have := hX.rh; omega))
    have a2 := (IntCp.hold hX.is (by have := hX.gr; have := hX.rh; have := hX.hx; omega)).kept X X' hX.is (fun b b1 b2 => hk b (by have := hX.ml; have := hX.mg; omega) (by have := hX.gr; have := hX.rh; omega))
    have a3 := (CpR.hold hX.rv).kept X X' hX.rv (fun b b1 b2 => hk b (by have := hX.ml; have := hX.mg; have := hX.gr; omega) b2)
    refine ⟨a1, a2, a3, hX.ml, hX.mg, hX.gr, hX.rh, ?_⟩
    obtain ⟨ds, h1⟩ := a3
    exact h1.lh.2⟩

theorem chg_set (W : World) (b j : Nat) (v : Value) : Chg b (b + 1) W (W.setCell ⟨b, j, none⟩ v) := Chg.grown (grown_set W b j v) (fun q e => by cases e; omega)

set_option maxRecDepth 20000 in
set_option maxHeartbeats 1000000 in
theorem szWallet_c (x : WlI) (left : Int) (w : World) (hm : WlLe maxLen x) (h0 : 0 ≤ left) (h1 : left ≤ 1048576) (h : WlIn w x) :
    Calls Try.prog 18 #[.agg #[.slice x.ca x.cn x.cc, .int .i64 x.k, .int .i64 x.e, .int .i64 x.f, .int .i64 x.s, .int .i64 x.n, .slice x.ga x.gn x.gc, .slice x.ra x.rn x.rc], .int .i64 left] w fun e w' => (∃ v : Int, e = .returned (.int .i64 v) ∧ v ≤ left ∧ (0 ≤ v → WlLe 1048576 x)) ∧ Below w.heap.size w w' := by
  obtain ⟨V, hV⟩ : ∃ V, V = w.alloc (.cells #[.slice x.ca x.cn x.cc, .int .i64 x.k, .int .i64 x.e, .int .i64 x.f, .int .i64 x.s, .int .i64 x.n, .slice x.ga x.gn x.gc, .slice x.ra x.rn x.rc] 47) := ⟨_, rfl⟩
  have HX : Hid (Hold w.heap.size (w.heap.size + 1) (BoxV w.heap.size [.slice x.ca x.cn x.cc, .int .i64 x.k, .int .i64 x.e, .int .i64 x.f, .int .i64 x.s, .int .i64 x.n, .slice x.ga x.gn x.gc, .slice x.ra x.rn x.rc]) V) := by show Hold _ _ _ _; rw [hV]; exact boxV_new w _ _
  have BV : Hid (Below w.heap.size w V) := by show Below _ _ _; rw [hV]; exact (Below.refl _ _).alloc (Nat.le_refl _) _
  have HI := hidW (h.below BV.out)
  have HM := hidW hm
  clear h hm
  go_enter Try.func18, Try.ntmps18
  go_wp2_with fail
  rw [← hV]
  clear hV
  refine (szCerts_c x.ca x.cn x.cc x.cz left V HM.out.cn HM.out.cl h0 h1 HI.out.ch).mono ?_
  rintro e w1 ⟨⟨v1, rfl, hv1, hw1⟩, hb1⟩
  have HW1 := hidW hw1
  have B1 := hidW (BV.out.trans (hb1.mono BV.out.size))
  have X1 := hidW (HX.out.below hb1)
  have I1 := hidW (HI.out.below hb1)
  clear hw1 hb1
  by_cases n1 : v1 < 0
  · go_wp2
    go_ret
    exact ⟨⟨-1, rfl, by omega, fun q => by omega⟩, B1.out⟩
  have c1 := X1.out.out 1 _ rfl
  have c2 := X1.out.out 2 _ rfl
  have c3 := X1.out.out 3 _ rfl
  have c4 := X1.out.out 4 _ rfl
  have c5 := X1.out.out 5 _ rfl
  have c6 := X1.out.out 6 _ rfl
  have hl1 : w.heap.size < w1.heap.size := by have := X1.out.le; omega
  go_wp2_with fail
  refine (szCert_c x.c v1 w1 HM.out.gn (by omega) (by omega)).mono ?_
  rintro e w2 ⟨⟨v2, rfl, hv2, hw2⟩, hb2⟩
  have HW2 := hidW hw2
  have B2 := hidW (B1.out.trans (hb2.mono B1.out.size))
  have X2 := hidW (X1.out.below hb2)
  have I2 := hidW (I1.out.below hb2)
  clear hw2 hb2 c1 c2 c3 c4 c5 c6
  by_cases n2 : v2 < 0
  · go_wp2
    go_ret
    exact ⟨⟨-1, rfl, by omega, fun q => by omega⟩, B2.out⟩
  have c7 := X2.out.out 7 _ rfl
  have hl2 : w.heap.size < w2.heap.size := by have := X2.out.le; omega
  go_wp2_with fail
  refine (szCerts_c x.ra x.rn x.rc x.rz v2 w2 HM.out.rn HM.out.rl (by omega) (by omega) I2.out.rv).mono ?_
  rintro e w3 ⟨⟨v3, rfl, hv3, hw3⟩, hb3⟩
  have HW3 := hidW hw3
  have B3 := hidW (B2.out.trans (hb3.mono B2.out.size))
  clear hw3 hb3 c7
  by_cases n3 : v3 < 0
  · go_wp2
    go_ret
    exact ⟨⟨-1, rfl, by omega, fun q => by omega⟩, B3.out⟩
  go_wp2
  go_ret
  refine ⟨⟨v3, rfl, by omega, fun q => ⟨?_, (HW1.out (by omega)).2, HW2.out (by omega), ?_, (HW3.out q).2⟩⟩, B3.out⟩
  · have := (HW1.out (by omega)).1; omega
  · have := (HW3.out q).1; omega

end Go.Proofs.Ythogdfnaojijhaa
