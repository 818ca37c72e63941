/-
  CONTRACTS: slices of certificates: marked, as arguments; answers of chapter 12's kind compared, marked, held.
  Conditions: each contract bears its own.
-/
import Derived.Test.YthogdfnaojijhaaCw0
import Derived.Test.YthogdfnaojijhaaList2
namespace Go.Proofs.Ythogdfnaojijhaa
open Go.RowKit Go.ChangeShapes Go.WideShapes
set_option linter.unusedVariables false
set_option linter.unusedSimpArgs false

theorem cellsCr {w : World} {base : Nat} {a : Addr} {r : CrI} (h : w.cells? base a 6 = some [.int .i64 r.k, .int .i64 r.e, .int .i64 r.f, .int .i64 r.s, .int .i64 r.n, .slice r.ga r.gn r.gc]) : a.spot = none ∧ CrAtO w a.block a.off r := by
  have e : List.range 6 = [0, 1, 2, 3, 4, 5] := rfl
  unfold World.cells? at h
  split at h
  · rw [e] at h
    simp only [List.mapM_cons, List.mapM_nil, Option.bind_eq_bind, Option.bind_eq_some_iff, Option.pure_def, Option.some.injEq, List.cons.injEq] at h
    obtain ⟨x0, h0, y0, ⟨x1, h1, y1, ⟨x2, h2, y2, ⟨x3, h3, y3, ⟨x4, h4, y4, ⟨x5, h5, y5, rfl, e5⟩, e4⟩, e3⟩, e2⟩, e1⟩, e0, ee⟩ := h
    subst e0
    rw [← e1] at ee
    simp only [List.cons.injEq] at ee
    obtain ⟨rfl, ee⟩ := ee
    rw [← e2] at ee
    simp only [List.cons.injEq] at ee
    obtain ⟨rfl, ee⟩ := ee
    rw [← e3] at ee
    simp only [List.cons.injEq] at ee
    obtain ⟨rfl, ee⟩ := ee
    rw [← e4] at ee
    simp only [List.cons.injEq] at ee
    obtain ⟨rfl, ee⟩ := ee
    rw [← e5] at ee
    simp only [List.cons.injEq] at ee
    obtain ⟨rfl, _⟩ := ee
    obtain ⟨b, off, spot⟩ := a
    have hspot : spot = none := by simpa [Addr.add] using World.cell?_spot h0
    subst hspot
    simp only [Addr.add] at h0 h1 h2 h3 h4 h5
    exact ⟨rfl, ⟨by simpa using h0, by simpa using h1, by simpa using h2, by simpa using h3, by simpa using h4⟩, by simpa using h5⟩
  · cases h

/-- Certificates that were handed in. -/
def CrsArg (w : World) (a : Option Addr) (n : Nat) (cs : List CrI) : Prop := CrsIn w a n cs ∧ n ≤ maxLen ∧ ∀ (k : Nat) c, cs[k]? = some c → c.gn ≤ maxLen

theorem certs_shape {H : Type} {enc : TypeId × Value → H} {w : World} {base : Nat} {spare : Nat → Bool} {held : Bool} {fuel : Nat} {a0 : Option Addr} {len cap : Nat} {x : DataW H × List MemPlace} (h : DataW.trod enc Try.prog w base spare held fuel 30 [.slice a0 len cap] = some x) :
    ∃ cs : List CrI, CrsArg w a0 len cs := by
  rcases Go.Deep.open_slice Try.underlying30 h with ⟨hcs, _⟩ | ⟨a, l, c, m, n, D, Pl, hcs, hb, hl, hm, hmm, _, hel⟩
  · simp at hcs
    obtain ⟨rfl, rfl, rfl⟩ := hcs
    exact ⟨[], ⟨rfl, fun h => by omega, fun k c e => by simp at e⟩, Nat.zero_le _, fun k c e => by simp at e⟩
  · simp at hcs
    obtain ⟨rfl, rfl, rfl⟩ := hcs
    have hle : len ≤ m := by rw [hmm]; split <;> omega
    rw [Try.cells45] at hel
    have hk : ∀ i, i < len → ∃ r : CrI, w.cells? base (a.add (i * 6)) 6 = some [.int .i64 r.k, .int .i64 r.e, .int .i64 r.f, .int .i64 r.s, .int .i64 r.n, .slice r.ga r.gn r.gc] ∧ IntIn w r.ga r.gn r.zs ∧ r.gn ≤ maxLen := fun i hi => by
      obtain ⟨cs', hc, ht⟩ := hel i (by omega)
      obtain ⟨r, rfl, hr⟩ := cert_list ht
      exact ⟨r, hc, hr⟩
    obtain ⟨f, hf⟩ := Go.Deep.choose_lt hk
    have key : ∀ (k : Nat) (r : CrI), ((List.range len).map f)[k]? = some r → k < len ∧ r = f k := fun k r e => by
      have hkl : k < len := by
        by_cases q : k < len
        · exact q
        · rw [List.getElem?_eq_none (by simp; omega)] at e; cases e
      rw [List.getElem?_map, List.getElem?_range hkl] at e
      simp at e
      exact ⟨hkl, e.symm⟩
    refine ⟨(List.range len).map f, ⟨by simp, fun hp => ?_, fun k r e => ?_⟩, Nat.le_trans hl hm, fun k r e => ?_⟩
    · obtain ⟨hsp, _⟩ := cellsCr (hf 0 hp).1
      obtain ⟨b, off, spot⟩ := a
      simp [Addr.add] at hsp
      subst hsp
      refine ⟨b, off, rfl, fun k r e => ?_⟩
      obtain ⟨hkl, rfl⟩ := key k r e
      obtain ⟨_, hr⟩ := cellsCr (hf k hkl).1
      have : ((⟨b, off, none⟩ : Addr).add (k * 6)) = ⟨b, off + k * 6, none⟩ := Go.WideShapes.add_plain ..
      rw [this] at hr
      exact hr
    · obtain ⟨hkl, rfl⟩ := key k r e
      exact (hf k hkl).2.1
    · obtain ⟨hkl, rfl⟩ := key k r e
      exact (hf k hkl).2.2

/-- A table of certificates, where marks may be written. -/
structure CrTab (lo hi : Nat) (w : World) (T n : Nat) (ds : List CrI) : Prop where
  ln : ds.length = n
  at6 : ∀ (j : Nat) (d : CrI), ds[j]? = some d → (∃ x, w.cell? ⟨T, j * 6, none⟩ = some (.int .i64 x)) ∧ (∃ x, w.cell? ⟨T, j * 6 + 1, none⟩ = some (.int .i64 x)) ∧ (∃ x, w.cell? ⟨T, j * 6 + 2, none⟩ = some (.int .i64 x)) ∧ (∃ x, w.cell? ⟨T, j * 6 + 3, none⟩ = some (.int .i64 x)) ∧ (∃ x, w.cell? ⟨T, j * 6 + 4, none⟩ = some (.int .i64 x)) ∧ w.cell? ⟨T, j * 6 + 5, none⟩ = some (.slice d.ga d.gn d.gc) ∧ d.gn ≤ 1048576 ∧ ∃ g, d.ga = some ⟨g, 0, none⟩ ∧ lo ≤ g ∧ g < hi ∧ IntRow w g d.gn
  fr : ∀ o, w.frozen? ⟨T, o, none⟩ = false
  lo : lo ≤ T ∧ T < hi

theorem CrTab.mrk {lo hi : Nat} {w w' : World} {T n : Nat} {ds : List CrI} (h : CrTab lo hi w T n ds) (k : Mrk w w') : CrTab lo hi w' T n ds :=
  ⟨h.ln, fun j d e => by
    obtain ⟨⟨x0, h0⟩, ⟨x1, h1⟩, ⟨x2, h2⟩, ⟨x3, h3⟩, ⟨x4, h4⟩, h5, h6, g, h7, h8, h9, h10⟩ := h.at6 j d e
    exact ⟨k.it _ x0 h0, k.it _ x1 h1, k.it _ x2 h2, k.it _ x3 h3, k.it _ x4 h4, k.sl _ _ _ _ h5, h6, g, h7, h8, h9, h10.mrk k⟩, fun o => (k.fr _).trans (h.fr o), h.lo⟩

theorem CpR1.tab {lo hi n : Nat} {cs ds : List CrI} {X : World} (h : CpR1 lo hi n cs ds X) : CrTab lo hi X lo n ds := by
  refine ⟨h.ln, fun j d e => ?_, h.fr, Nat.le_refl _, h.lh.1⟩
  obtain ⟨c, g, hc, rfl, h1, h2, h3⟩ := h.get e
  obtain ⟨⟨a0, a1, a2, a3, a4⟩, a5⟩ := h.ca j _ e
  obtain ⟨hz, hg⟩ := h.zl j c hc
  refine ⟨⟨_, a0⟩, ⟨_, a1⟩, ⟨_, a2⟩, ⟨_, a3⟩, ⟨_, a4⟩, a5, hg, g, rfl, h1, h2, fun q hq => ?_, h3.2.2⟩
  exact ⟨_, h3.1 q _ (List.getElem?_eq_getElem (show q < c.zs.length by rw [hz]; exact hq))⟩

/-- Five numbers over five numbers of the table. -/
theorem mark5 {lo hi : Nat} {w0 w : World} {T n j : Nat} {ds : List CrI} {d : CrI} (h : CrTab lo hi w T n ds) (hd : ds[j]? = some d) (x0 x1 x2 x3 x4 : Int) : Mrk w (((((w.setCell ⟨T, j * 6, none⟩ (.int .i64 x0)).setCell ⟨T, j * 6 + 1, none⟩ (.int .i64 x1)).setCell ⟨T, j * 6 + 2, none⟩ (.int .i64 x2)).setCell ⟨T, j * 6 + 3, none⟩ (.int .i64 x3)).setCell ⟨T, j * 6 + 4, none⟩ (.int .i64 x4)) ∧ Chg lo hi w (((((w.setCell ⟨T, j * 6, none⟩ (.int .i64 x0)).setCell ⟨T, j * 6 + 1, none⟩ (.int .i64 x1)).setCell ⟨T, j * 6 + 2, none⟩ (.int .i64 x2)).setCell ⟨T, j * 6 + 3, none⟩ (.int .i64 x3)).setCell ⟨T, j * 6 + 4, none⟩ (.int .i64 x4)) := by
  obtain ⟨⟨y0, h0⟩, ⟨y1, h1⟩, ⟨y2, h2⟩, ⟨y3, h3⟩, ⟨y4, h4⟩, _⟩ := h.at6 j d hd
  have m0 := Mrk.set h0 x0
  obtain ⟨z1, e1⟩ := m0.it _ _ h1
  have m1 := m0.trans (Mrk.set e1 x1)
  obtain ⟨z2, e2⟩ := m1.it _ _ h2
  have m2 := m1.trans (Mrk.set e2 x2)
  obtain ⟨z3, e3⟩ := m2.it _ _ h3
  have m3 := m2.trans (Mrk.set e3 x3)
  obtain ⟨z4, e4⟩ := m3.it _ _ h4
  have c : ∀ (W : World) (o : Nat) (v : Value), Chg lo hi W (W.setCell ⟨T, o, none⟩ v) := fun W o v => Chg.grown (grown_set W T o v) (fun q e => by cases e; exact h.lo)
  exact ⟨m3.trans (Mrk.set e4 x4), ((((c _ _ _).trans (c _ _ _)).trans (c _ _ _)).trans (c _ _ _)).trans (c _ _ _)⟩

set_option maxRecDepth 20000 in
set_option maxHeartbeats 2000000 in
theorem markCertsK_c (lo hi T n cap : Nat) (k0 : Int) (ds : List CrI) (w : World) (hn : n ≤ 1048576) (h0 : 0 ≤ k0) (h1 : k0 ≤ 8000000000000000000) (h : CrTab lo hi w T n ds) :
    Calls Try.prog 48 #[.slice (some ⟨T, 0, none⟩) n cap, .int .i64 k0] w fun e w' => (∃ k : Int, e = .returned (.int .i64 k) ∧ k0 ≤ k ∧ k ≤ k0 + 1048581 * (n : Int)) ∧ Mrk w w' ∧ Chg lo hi w w' := by
  have HO : Hid (CrTab lo hi w T n ds) := h
  clear h
  have hn' : (n : Int) ≤ 1048576 := by omega
  go_enter Try.func48, Try.ntmps48
  go_wp2
  go_loopw [1, 5] (fun q i wr => ∃ (j : Nat) (k : Int), j ≤ n ∧ i = .int .i64 (j : Int) ∧ q = .int .i64 k ∧ (k0 ≤ k ∧ k ≤ k0 + 1048581 * (j : Int)) ∧ Mrk w wr ∧ Chg lo hi w wr)
    (fun _ i _ => n - (intOf i).toNat)
  case atStart => exact ⟨0, k0, Nat.zero_le _, rfl, rfl, ⟨by omega, by omega⟩, Mrk.refl _, Chg.refl _⟩
  case round =>
    obtain ⟨j, k, hj, rfl, rfl, ⟨hk0, hk1⟩, hmk, hch⟩ := hrel
    have HM : Hid (Mrk w wr ∧ Chg lo hi w wr) := ⟨hmk, hch⟩
    have HT : Hid (CrTab lo hi wr T n ds) := HO.out.mrk hmk
    clear hmk hch
    by_cases hlt : j < n
    · have hlt' : (j : Int) < (n : Int) := by omega
      obtain ⟨d, hd⟩ : ∃ d, ds[j]? = some d := ⟨_, List.getElem?_eq_getElem (by rw [HT.out.ln]; exact hlt)⟩
      obtain ⟨⟨x0, c0⟩, ⟨x1, c1⟩, ⟨x2, c2⟩, ⟨x3, c3⟩, ⟨x4, c4⟩, c5, hgn, gc, hga, _⟩ := HT.out.at6 j d hd
      have f0 := HT.out.fr (j * 6)
      have f1 := HT.out.fr (j * 6 + 1)
      have f2 := HT.out.fr (j * 6 + 2)
      have f3 := HT.out.fr (j * 6 + 3)
      have f4 := HT.out.fr (j * 6 + 4)
      have hTl := World.block_lt_of_cell? wr ⟨T, j * 6, none⟩ c0
      rw [hga] at c5
      have q0 : IntKind.i64.wrap (k + 1) = k + 1 := by rw [IntKind.wrap_i64]; omega
      have q1 : IntKind.i64.wrap (k + 1 + 1) = k + 1 + 1 := by rw [IntKind.wrap_i64]; omega
      have q2 : IntKind.i64.wrap (k + 1 + 1 + 1) = k + 1 + 1 + 1 := by rw [IntKind.wrap_i64]; omega
      have q3 : IntKind.i64.wrap (k + 1 + 1 + 1 + 1) = k + 1 + 1 + 1 + 1 := by rw [IntKind.wrap_i64]; omega
      have q4 : IntKind.i64.wrap (k + 1 + 1 + 1 + 1 + 1) = k + 1 + 1 + 1 + 1 + 1 := by rw [IntKind.wrap_i64]; omega
      obtain ⟨W2, hW2⟩ : ∃ W2, W2 = ((((wr.setCell ⟨T, j * 6, none⟩ (.int .i64 k)).setCell ⟨T, j * 6 + 1, none⟩ (.int .i64 (k + 1))).setCell ⟨T, j * 6 + 2, none⟩ (.int .i64 (k + 1 + 1))).setCell ⟨T, j * 6 + 3, none⟩ (.int .i64 (k + 1 + 1 + 1))).setCell ⟨T, j * 6 + 4, none⟩ (.int .i64 (k + 1 + 1 + 1 + 1)) := ⟨_, rfl⟩
      have M5 := mark5 (w0 := wr) HT.out hd k (k + 1) (k + 1 + 1) (k + 1 + 1 + 1) (k + 1 + 1 + 1 + 1)
      rw [← hW2] at M5
      have HM2 : Hid (Mrk w W2 ∧ Chg lo hi w W2) := ⟨HM.out.1.trans M5.1, HM.out.2.trans M5.2⟩
      have HD : Hid (ds[j]? = some d) := hd
      clear M5 hd HM
      go_upto_region 14 with fail
      rw [← hW2]
      clear hW2 c0 c1 c2 c3 c4 c5 f0 f1 f2 f3 f4 hTl
      obtain ⟨_, _, _, _, _, q5, _, gc', hga', hlo', hhi', hrow⟩ := (HO.out.mrk HM2.out.1).at6 j d HD.out
      rw [hga] at hga' q5
      cases hga'
      have HC : Hid (IntRow W2 gc d.gn) := hrow
      have hTl := World.block_lt_of_cell? W2 ⟨T, j * 6 + 5, none⟩ q5
      have hgn' : (d.gn : Int) ≤ 1048576 := by omega
      clear hrow
      go_wp2_with fail
      refine (markIntsK_c lo hi gc d.gn d.gc _ W2 hgn (by omega) (by omega) ⟨hlo', hhi'⟩ HC.out).mono ?_
      rintro e w5 ⟨rfl, m5, h5⟩
      have HM5 : Hid (Mrk w w5 ∧ Chg lo hi w w5) := ⟨HM2.out.1.trans m5, HM2.out.2.trans h5⟩
      clear m5 h5 HM2 q5 hTl HC
      go_wp2_with fail
      exact ⟨⟨j + 1, _, by omega, by go_num, rfl, ⟨by omega, by simp; omega⟩, HM5.out.1, HM5.out.2⟩, by simp [intOf]; omega⟩
    · have hjn : j = n := by omega
      subst hjn
      go_wp2_with fail
      go_ret
      exact ⟨⟨k, rfl, hk0, hk1⟩, HM.out.1, HM.out.2⟩

theorem markCpR_c {lo hi n : Nat} {cs : List CrI} (ca : Nat) (k0 : Int) {W : World} (hn : n ≤ 1048576) (h0 : 0 ≤ k0) (h1 : k0 ≤ 8000000000000000000) (h : CpR lo hi n cs W) :
    Calls Try.prog 48 #[.slice (some ⟨lo, 0, none⟩) n ca, .int .i64 k0] W fun e w' => ∃ k : Int, e = .returned (.int .i64 k) ∧ (k0 ≤ k ∧ k ≤ k0 + 1048581 * (n : Int)) ∧ Chg lo hi W w' := by
  obtain ⟨ds, h4⟩ := h
  refine (markCertsK_c lo hi lo n ca k0 ds W hn h0 h1 h4.tab).mono ?_
  rintro e w' ⟨⟨k, rfl, k1, k2⟩, _, hc⟩
  exact ⟨k, rfl, ⟨k1, k2⟩, hc⟩

end Go.Proofs.Ythogdfnaojijhaa
