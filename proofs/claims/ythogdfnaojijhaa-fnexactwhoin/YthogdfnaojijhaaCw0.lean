/-
  CONTRACTS: slices of certificates: read, measured, copied, compared, marked by the exact laws.
  Conditions: each contract bears its own.
-/
import Derived.Test.YthogdfnaojijhaaCr0
import Derived.Test.YthogdfnaojijhaaMkz
namespace Go.Proofs.Ythogdfnaojijhaa
open Go.RowKit Go.ChangeShapes Go.WideShapes
set_option linter.unusedVariables false
set_option linter.unusedSimpArgs false

theorem Try.infoCr : (Try.prog.info? 53).map (fun i => (i.zero, i.size, i.bytes)) = some (some (.agg #[.int .i64 0, .int .i64 0, .int .i64 0, .int .i64 0, .int .i64 0, .slice none 0 0]), 6, 64) := by kernel_rfl

/-- A certificate at a place of a row. -/
structure CrAtO (w : World) (b o : Nat) (c : CrI) : Prop where
  st : StAt w b o c.st
  sl : w.cell? ⟨b, o + 5, none⟩ = some (.slice c.ga c.gn c.gc)

theorem CrAtO.lt {w : World} {b o : Nat} {c : CrI} (h : CrAtO w b o c) : b < w.heap.size := World.block_lt_of_cell? w ⟨b, o + 5, none⟩ h.sl

theorem CrAtO.below {w w' : World} {b o : Nat} {c : CrI} (h : CrAtO w b o c) (hb : Below w.heap.size w w') : CrAtO w' b o c :=
  ⟨h.st.below hb h.lt, (hb.cell (p := ⟨b, o + 5, none⟩) h.lt).trans h.sl⟩

/-- Several in memory. -/
structure CrsIn (w : World) (a : Option Addr) (n : Nat) (cs : List CrI) : Prop where
  len : cs.length = n
  row : 0 < n → ∃ b off, a = some ⟨b, off, none⟩ ∧ ∀ k c, cs[k]? = some c → CrAtO w b (off + k * 6) c
  each : ∀ (k : Nat) c, cs[k]? = some c → IntIn w c.ga c.gn c.zs

theorem CrsIn.below {w w' : World} {a : Option Addr} {n : Nat} {cs : List CrI} (h : CrsIn w a n cs) (hb : Below w.heap.size w w') : CrsIn w' a n cs :=
  ⟨h.len, fun hp => by
    obtain ⟨b, off, e, hr⟩ := h.row hp
    exact ⟨b, off, e, fun k c q => (hr k c q).below hb⟩, fun k c q => (h.each k c q).below hb⟩

theorem CrsIn.at {w : World} {a : Option Addr} {n : Nat} {cs : List CrI} (h : CrsIn w a n cs) {k : Nat} (hk : k < n) : ∃ b off c, a = some ⟨b, off, none⟩ ∧ cs[k]? = some c ∧ CrAtO w b (off + k * 6) c ∧ IntIn w c.ga c.gn c.zs := by
  obtain ⟨b, off, e, hr⟩ := h.row (by omega)
  have hx := List.getElem?_eq_getElem (l := cs) (i := k) (by rw [h.len]; exact hk)
  exact ⟨b, off, _, e, hx, hr k _ hx, h.each k _ hx⟩

theorem hidW {p : Prop} (h : p) : Hid p := h

set_option maxRecDepth 20000 in
set_option maxHeartbeats 1000000 in
theorem szCerts_c (a : Option Addr) (n cap : Nat) (fs : List CrI) (l : Int) (w : World) (hn : n ≤ maxLen) (hle : ∀ (k : Nat) c, fs[k]? = some c → c.gn ≤ maxLen) (h0 : 0 ≤ l) (h1 : l ≤ 1048576) (h : CrsIn w a n fs) :
    Calls Try.prog 10 #[.slice a n cap, .int .i64 l] w fun e w' => (∃ r : Int, e = .returned (.int .i64 r) ∧ r ≤ l ∧ (0 ≤ r → (n : Int) ≤ l ∧ (∀ (k : Nat) c, fs[k]? = some c → c.gn ≤ 1048576))) ∧ Below w.heap.size w w' := by
  have H : Hid (CrsIn w a n fs) := h
  have HZ : Hid (fs.length = n) := h.len
  have HLE : Hid (∀ (k : Nat) c, fs[k]? = some c → c.gn ≤ maxLen) := hle
  have hn' : (n : Int) ≤ 9223372036854775807 := by unfold maxLen at hn; omega
  clear h hle hn
  by_cases hlt : (n : Int) ≤ l
  · go_enter Try.func10, Try.ntmps10
    go_wp2
    go_loopw [1, 5] (fun q i wr => ∃ (k : Nat) (r : Int), k ≤ n ∧ i = .int .i64 (k : Int) ∧ q = .int .i64 r ∧ 0 ≤ r ∧ r ≤ l ∧ (∀ j x, j < k → fs[j]? = some x → x.gn ≤ 1048576) ∧ Below w.heap.size w wr)
      (fun _ i _ => n - (intOf i).toNat)
    case atStart => exact ⟨0, _, Nat.zero_le _, rfl, rfl, by omega, by omega, fun j x hj => by omega, Below.refl _ _⟩
    case round =>
      obtain ⟨k, r, hk, rfl, rfl, hr0, hr1, hok, hnx⟩ := hrel
      have HOK : Hid (∀ j x, j < k → fs[j]? = some x → x.gn ≤ 1048576) := hok
      clear hok
      by_cases hkn : k < n
      · obtain ⟨b, off, x, rfl, hs, hr, hci⟩ := H.out.at hkn
        have HS : Hid (fs[k]? = some x) := hs
        have hx : x.gn ≤ maxLen := HLE.out k x hs
        have hb : b < w.heap.size := hr.lt
        obtain ⟨⟨c0, c1, c2, c3, c4⟩, c5⟩ := hr.below hnx
        clear hs hr hci
        have hkn' : (k : Int) < (n : Int) := by omega
        go_wp2_with fail
        refine (szCert_c x r _ hx hr0 (by omega)).mono ?_
        rintro e w1 ⟨⟨r', rfl, hr'1, hr'2⟩, hb1⟩
        have hb01 : Below w.heap.size w w1 := hnx.trans (hb1.mono hnx.size)
        by_cases hneg : r' < 0
        · clear c0 c1 c2 c3 c4 c5
          go_wp2
          go_ret
          exact ⟨⟨_, rfl, by omega, fun q => by omega⟩, hb01⟩
        · have HN : Hid (∀ j y, j < k + 1 → fs[j]? = some y → y.gn ≤ 1048576) := fun j y hj hy => by
            by_cases e : j = k
            · subst e
              rw [HS.out] at hy
              cases hy
              exact hr'2 (by omega)
            · exact HOK.out j y (by omega) hy
          have hge : 0 ≤ r' := by omega
          clear c0 c1 c2 c3 c4 c5 hr'2
          go_wp2
          exact ⟨⟨k + 1, r', by omega, by go_num, rfl, hge, by omega, HN.out, hb01⟩, by simp [intOf]; omega⟩
      · have hkn' : k = n := by omega
        subst hkn'
        have HQ : Hid (∀ (k : Nat) c, fs[k]? = some c → c.gn ≤ 1048576) := fun j x hj => by
          have : j < k := by
            by_cases q : j < k
            · exact q
            · rw [List.getElem?_eq_none (by rw [HZ.out]; omega)] at hj; cases hj
          exact HOK.out j x this hj
        go_wp2
        go_ret
        exact ⟨⟨r, rfl, hr1, fun _ => ⟨hlt, HQ.out⟩⟩, hnx⟩
  · have hlt' : l < (n : Int) := by omega
    go_enter Try.func10, Try.ntmps10
    go_wp2
    go_ret
    exact ⟨⟨_, rfl, by omega, fun q => by omega⟩, by go_grown⟩

/-- A copy of a certificate, its signers in block g. -/
def cpOf (c : CrI) (g : Nat) : CrI := ⟨c.k, c.e, c.f, c.s, c.n, some ⟨g, 0, none⟩, c.gn, c.gn, c.zs⟩

/-- A certificate stored in a row. -/
abbrev RPut (w : World) (B o : Nat) (d : CrI) : World := (((((w.setCell ⟨B, o, none⟩ (.int .i64 d.k)).setCell ⟨B, o + 1, none⟩ (.int .i64 d.e)).setCell ⟨B, o + 2, none⟩ (.int .i64 d.f)).setCell ⟨B, o + 3, none⟩ (.int .i64 d.s)).setCell ⟨B, o + 4, none⟩ (.int .i64 d.n)).setCell ⟨B, o + 5, none⟩ (.slice d.ga d.gn d.gc)

theorem RPut_other (w : World) (B o : Nat) (d : CrI) (q : Addr) (h : ∀ j, j < 6 → q ≠ ⟨B, o + j, none⟩) : (RPut w B o d).cell? q = w.cell? q := by
  have h0 : q ≠ ⟨B, o, none⟩ := h 0 (by omega)
  unfold RPut
  rw [World.cell?_setCell_other (h := fun e => h 5 (by omega) e.symm), World.cell?_setCell_other (h := fun e => h 4 (by omega) e.symm), World.cell?_setCell_other (h := fun e => h 3 (by omega) e.symm), World.cell?_setCell_other (h := fun e => h 2 (by omega) e.symm), World.cell?_setCell_other (h := fun e => h 1 (by omega) e.symm), World.cell?_setCell_other (h := fun e => h0 e.symm)]

theorem RPut_at (w : World) (B o : Nat) (d : CrI) (h : ∀ j, j < 6 → ∃ v, w.cell? ⟨B, o + j, none⟩ = some v) : CrAtO (RPut w B o d) B o d := by
  obtain ⟨v0, h0⟩ := h 0 (by omega)
  obtain ⟨v1, h1⟩ := h 1 (by omega)
  obtain ⟨v2, h2⟩ := h 2 (by omega)
  obtain ⟨v3, h3⟩ := h 3 (by omega)
  obtain ⟨v4, h4⟩ := h 4 (by omega)
  obtain ⟨v5, h5⟩ := h 5 (by omega)
  rw [Nat.add_zero] at h0
  refine ⟨⟨?_, ?_, ?_, ?_, ?_⟩, ?_⟩ <;> simp [RPut, go_sem, h0, h1, h2, h3, h4, h5]

/-- A copy so far. -/
structure CrsTo (w0 w : World) (n : Nat) (cs ds : List CrI) (k : Nat) : Prop where
  ln : ds.length = k
  ca : ∀ (j : Nat) d, ds[j]? = some d → CrAtO w w0.heap.size (j * 6) d
  nw : ∀ (j : Nat) c d, cs[j]? = some c → ds[j]? = some d → ∃ g, d = cpOf c g ∧ w0.heap.size + 1 ≤ g ∧ g < w.heap.size ∧ IntCp g c.gn c.zs w
  rm : (∀ j, j < n * 6 → ∃ v, w.cell? ⟨w0.heap.size, j, none⟩ = some v) ∧ ∀ j, w.frozen? ⟨w0.heap.size, j, none⟩ = false
  lt : w0.heap.size < w.heap.size
  bl : Below w0.heap.size w0 w

theorem IntCp.below {g n : Nat} {zs : List Int} {w w' : World} (h : IntCp g n zs w) (hg : g < w.heap.size) (hb : Below w.heap.size w w') : IntCp g n zs w' := ((IntCp.hold h hg).below hb).out

theorem CrsTo.below {w0 w w' : World} {n : Nat} {cs ds : List CrI} {k : Nat} (h : CrsTo w0 w n cs ds k) (hb : Below w.heap.size w w') : CrsTo w0 w' n cs ds k :=
  ⟨h.ln, fun j d e => (h.ca j d e).below hb, fun j c d e1 e2 => by
    obtain ⟨g, q, h1, h2, h3⟩ := h.nw j c d e1 e2
    exact ⟨g, q, h1, Nat.lt_of_lt_of_le h2 hb.size, h3.below h2 hb⟩, ⟨fun j hj => by obtain ⟨v, e⟩ := h.rm.1 j hj; exact ⟨v, (hb.cell (p := ⟨w0.heap.size, j, none⟩) h.lt).trans e⟩, fun j => (hb.frozen (p := ⟨w0.heap.size, j, none⟩) h.lt).trans (h.rm.2 j)⟩, Nat.lt_of_lt_of_le h.lt hb.size, h.bl.trans (hb.mono h.bl.size)⟩

theorem IntCp.set {g n B o : Nat} {zs : List Int} {w : World} (h : IntCp g n zs w) (hg : g ≠ B) (v : Value) : IntCp g n zs (w.setCell ⟨B, o, none⟩ v) := by
  have k : ∀ j, (⟨B, o, none⟩ : Addr) ≠ ⟨g, j, none⟩ := fun j e => hg (by have := congrArg Addr.block e; simpa using this.symm)
  exact ⟨fun i x e => by rw [World.cell?_setCell_other (h := k i)]; exact h.1 i x e, fun j hj => by
    obtain ⟨u, e⟩ := h.2.1 j hj
    exact ⟨u, by rw [World.cell?_setCell_other (h := k j)]; exact e⟩, fun j => by rw [World.frozen?_setCell]; exact h.2.2 j⟩

theorem CrsTo.put {w0 w : World} {n : Nat} {cs ds : List CrI} {k : Nat} (h : CrsTo w0 w n cs ds k) (hk : k < n) {c d : CrI} (hc : cs[k]? = some c) (hd : ∃ g, d = cpOf c g ∧ w0.heap.size + 1 ≤ g ∧ g < w.heap.size ∧ IntCp g c.gn c.zs w) : CrsTo w0 (RPut w w0.heap.size (k * 6) d) n cs (ds ++ [d]) (k + 1) := by
  have hl := h.ln
  have at1 : ∀ (j : Nat) x, (ds ++ [d])[j]? = some x → (j < k ∧ ds[j]? = some x) ∨ (j = k ∧ x = d) := fun j x e => by
    by_cases hj : j < k
    · rw [List.getElem?_append_left (by omega)] at e
      exact .inl ⟨hj, e⟩
    · have hjk : j = k := by
        have := (List.getElem?_eq_some_iff.1 e).1
        simp at this
        omega
      subst hjk
      rw [← hl, List.getElem?_append_right (Nat.le_refl _), Nat.sub_self] at e
      simp at e
      exact .inr ⟨rfl, e.symm⟩
  have keepN : ∀ (g m : Nat) (zs : List Int), w0.heap.size + 1 ≤ g → IntCp g m zs w → IntCp g m zs (RPut w w0.heap.size (k * 6) d) := fun g m zs hg hx => by
    have hne : g ≠ w0.heap.size := by omega
    exact (((((hx.set hne _).set hne _).set hne _).set hne _).set hne _).set hne _
  refine ⟨by simp [hl], fun j x e => ?_, fun j c' x e1 e2 => ?_, ⟨fun j hj => ?_, fun j => ?_⟩, by simpa using h.lt, (((((h.bl.setCell (Nat.le_refl _) _).setCell (Nat.le_refl _) _).setCell (Nat.le_refl _) _).setCell (Nat.le_refl _) _).setCell (Nat.le_refl _) _).setCell (Nat.le_refl _) _⟩
  · rcases at1 j x e with ⟨hj, q⟩ | ⟨rfl, rfl⟩
    · obtain ⟨⟨a0, a1, a2, a3, a4⟩, a5⟩ := h.ca j x q
      have o : ∀ i, i < 6 → (RPut w w0.heap.size (k * 6) d).cell? ⟨w0.heap.size, j * 6 + i, none⟩ = w.cell? ⟨w0.heap.size, j * 6 + i, none⟩ := fun i hi => RPut_other w _ _ d _ (fun i' hi' e => by have := congrArg Addr.off e; simp at this; omega)
      exact ⟨⟨(o 0 (by omega)).trans a0, (o 1 (by omega)).trans a1, (o 2 (by omega)).trans a2, (o 3 (by omega)).trans a3, (o 4 (by omega)).trans a4⟩, (o 5 (by omega)).trans a5⟩
    · exact RPut_at w _ _ x (fun i hi => h.rm.1 _ (by omega))
  · rcases at1 j x e2 with ⟨_, q⟩ | ⟨rfl, rfl⟩
    · obtain ⟨g, p, h1, h2, h3⟩ := h.nw j c' x e1 q
      exact ⟨g, p, h1, by simpa using h2, keepN g _ _ h1 h3⟩
    · rw [hc] at e1
      cases e1
      obtain ⟨g, p, h1, h2, h3⟩ := hd
      exact ⟨g, p, h1, by simpa using h2, keepN g _ _ h1 h3⟩
  · obtain ⟨v, e⟩ := h.rm.1 j hj
    have s1 : ∀ (W : World) (p : Addr) (u : Value) (q : Addr), (∃ v, W.cell? q = some v) → ∃ v, (W.setCell p u).cell? q = some v := fun W p u q ⟨v, e⟩ => by
      by_cases hp : q = p
      · subst hp
        exact ⟨u, by simp [go_sem, e]⟩
      · exact ⟨v, by rw [World.cell?_setCell_other (h := fun e => hp e.symm)]; exact e⟩
    exact s1 _ _ _ _ (s1 _ _ _ _ (s1 _ _ _ _ (s1 _ _ _ _ (s1 _ _ _ _ (s1 _ _ _ _ ⟨v, e⟩)))))
  · unfold RPut
    simp only [World.frozen?_setCell]
    exact h.rm.2 j

set_option maxRecDepth 20000 in
set_option maxHeartbeats 1000000 in
theorem toCerts_c (a : Option Addr) (n cap : Nat) (cs : List CrI) (w : World) (hn : n ≤ 1048576) (hle : ∀ (k : Nat) c, cs[k]? = some c → c.gn ≤ 1048576) (h : CrsIn w a n cs) :
    Calls Try.prog 14 #[.slice a n cap] w fun e w' => e = .returned (.slice (some ⟨w.heap.size, 0, none⟩) n n) ∧ ∃ ds, CrsTo w w' n cs ds n := by
  obtain ⟨i0, hi, hz0, hz1, hz2⟩ := info_parts Try.infoCr
  obtain ⟨wm, hmk, hownm, hgrm⟩ := run_make_full (P := Try.prog) (w := w) w.heap.size 38 53 i0 (.agg #[.int .i64 0, .int .i64 0, .int .i64 0, .int .i64 0, .int .i64 0, .slice none 0 0]) 6 Try.underlying38 hi hz0 hz1 .i64 .i64 n (by rw [hz2]; omega) (by unfold maxLen; omega) (Nat.le_refl _)
  have H : Hid (CrsIn w a n cs) := h
  have HLE : Hid (∀ (k : Nat) c, cs[k]? = some c → c.gn ≤ 1048576) := hle
  clear h hle
  have HM : Hid (CrsTo w wm n cs [] 0) := by
    refine ⟨rfl, fun j d e => by simp at e, fun j c d _ e => by simp at e, ⟨fun j hj => ?_, fun j => hownm.frozenAt j⟩, (hownm.lt _ rfl).2, (Below.refl _ _).grown hgrm (Nat.le_refl _) (fun k e => by cases e)⟩
    have hl := hownm.1
    exact ⟨_, (hownm.cellAt j (by omega)).trans (List.getElem?_eq_getElem (by omega))⟩
  clear hownm hgrm
  have hn' : (n : Int) ≤ 1048576 := by omega
  go_enter Try.func14, Try.ntmps14
  go_wp2
  go_loopw [4] (fun i wr => ∃ (k : Nat) (ds : List CrI), k ≤ n ∧ i = .int .i64 (k : Int) ∧ Hid (CrsTo w wr n cs ds k)) (fun i _ => n - (intOf i).toNat)
  case atStart => exact ⟨0, [], Nat.zero_le _, rfl, HM⟩
  case round =>
    obtain ⟨k, ds, hk, rfl, HK⟩ := hrel
    by_cases hlt : k < n
    · have hlt' : (k : Int) < (n : Int) := by omega
      obtain ⟨b, off, c, rfl, hs, hr, hci⟩ := H.out.at hlt
      have HS : Hid (cs[k]? = some c) := hs
      have hb : b < wr.heap.size := Nat.lt_of_lt_of_le hr.lt HK.out.bl.size
      have HCI : Hid (IntIn wr c.ga c.gn c.zs) := hci.below HK.out.bl
      obtain ⟨⟨c0, c1, c2, c3, c4⟩, c5⟩ := hr.below HK.out.bl
      have hx := HLE.out k c hs
      clear hs hr hci
      go_wp2_with fail
      refine (toCert_c c _ hx HCI.out).mono ?_
      rintro e w1 ⟨g, rfl, hg1, hg2, hcp, hb1⟩
      have K1 := HK.out.below hb1
      have K2 : Hid (CrsTo w (RPut w1 w.heap.size (k * 6) (cpOf c g)) n cs (ds ++ [cpOf c g]) (k + 1)) := K1.put hlt HS.out ⟨g, rfl, by have := HK.out.lt; omega, hg2, hcp⟩
      have hl1 := K1.lt
      obtain ⟨u0, e0⟩ := K1.rm.1 (k * 6) (by omega)
      obtain ⟨u1, e1⟩ := K1.rm.1 (k * 6 + 1) (by omega)
      obtain ⟨u2, e2⟩ := K1.rm.1 (k * 6 + 2) (by omega)
      obtain ⟨u3, e3⟩ := K1.rm.1 (k * 6 + 3) (by omega)
      obtain ⟨u4, e4⟩ := K1.rm.1 (k * 6 + 4) (by omega)
      obtain ⟨u5, e5⟩ := K1.rm.1 (k * 6 + 5) (by omega)
      have f0 := K1.rm.2 (k * 6)
      have f1 := K1.rm.2 (k * 6 + 1)
      have f2 := K1.rm.2 (k * 6 + 2)
      have f3 := K1.rm.2 (k * 6 + 3)
      have f4 := K1.rm.2 (k * 6 + 4)
      have f5 := K1.rm.2 (k * 6 + 5)
      clear K1 hg1 hg2 hcp hb1 c0 c1 c2 c3 c4 c5 HK
      go_wp2_with fail
      exact ⟨⟨k + 1, ds ++ [cpOf c g], by omega, by go_num, K2⟩, by simp [intOf]; omega⟩
    · have hkn : k = n := by omega
      subst hkn
      go_wp2_with fail
      go_ret
      exact ⟨rfl, ds, HK.out⟩

/-- A copy of certificates in blocks lo to hi, as a law keeps it. -/
structure CpR1 (lo hi n : Nat) (cs ds : List CrI) (X : World) : Prop where
  ln : ds.length = n
  lc : cs.length = n
  zl : ∀ (k : Nat) c, cs[k]? = some c → c.zs.length = c.gn ∧ c.gn ≤ 1048576
  ca : ∀ (j : Nat) d, ds[j]? = some d → CrAtO X lo (j * 6) d
  nw : ∀ (j : Nat) c d, cs[j]? = some c → ds[j]? = some d → ∃ g, d = cpOf c g ∧ lo ≤ g ∧ g < hi ∧ IntCp g c.gn c.zs X
  fr : ∀ j, X.frozen? ⟨lo, j, none⟩ = false
  lh : lo < hi ∧ hi ≤ X.heap.size

def CpR (lo hi n : Nat) (cs : List CrI) (X : World) : Prop := ∃ ds, CpR1 lo hi n cs ds X

theorem CpR1.below {lo hi n : Nat} {cs ds : List CrI} {X X' : World} (h : CpR1 lo hi n cs ds X) (hb : Below X.heap.size X X') : CpR1 lo hi n cs ds X' :=
  ⟨h.ln, h.lc, h.zl, fun j d e => (h.ca j d e).below hb, fun j c d e1 e2 => by
    obtain ⟨g, q, h1, h2, h3⟩ := h.nw j c d e1 e2
    exact ⟨g, q, h1, h2, h3.below (by have := h.lh.2; omega) hb⟩, fun j => (hb.frozen (p := ⟨lo, j, none⟩) (show lo < X.heap.size by have := h.lh; omega)).trans (h.fr j), h.lh.1, Nat.le_trans h.lh.2 hb.size⟩

theorem CrsTo.cpR {w0 w wA : World} {a : Option Addr} {n : Nat} {cs ds : List CrI} (h : CrsTo w0 w n cs ds n) (hi : CrsIn wA a n cs) (hl : ∀ (k : Nat) c, cs[k]? = some c → c.gn ≤ 1048576) : HoldB (CpR w0.heap.size w.heap.size n cs) w :=
  ⟨⟨ds, h.ln, hi.len, fun k c e => ⟨(hi.each k c e).1, hl k c e⟩, h.ca, fun j c d e1 e2 => by
    obtain ⟨g, q, h1, h2, h3⟩ := h.nw j c d e1 e2
    exact ⟨g, q, by omega, h2, h3⟩, h.rm.2, h.lt, Nat.le_refl _⟩, fun X X' hX hb => by
    obtain ⟨es, h1⟩ := hX
    exact ⟨es, h1.below hb⟩⟩

theorem CpR1.get {lo hi n : Nat} {cs ds : List CrI} {X : World} (h : CpR1 lo hi n cs ds X) {j : Nat} {d : CrI} (e : ds[j]? = some d) : ∃ c g, cs[j]? = some c ∧ d = cpOf c g ∧ lo ≤ g ∧ g < hi ∧ IntCp g c.gn c.zs X := by
  have hj : j < cs.length := by have := (List.getElem?_eq_some_iff.1 e).1; rw [h.lc, ← h.ln]; exact this
  obtain ⟨g, q⟩ := h.nw j _ d (List.getElem?_eq_getElem hj) e
  exact ⟨_, g, List.getElem?_eq_getElem hj, q⟩

theorem CpR1.isIn {lo hi n : Nat} {cs ds : List CrI} {X : World} (h : CpR1 lo hi n cs ds X) : CrsIn X (some ⟨lo, 0, none⟩) n ds :=
  ⟨h.ln, fun _ => ⟨lo, 0, rfl, fun k c e => by rw [Nat.zero_add]; exact h.ca k c e⟩, fun k d e => by
    obtain ⟨c, g, e1, rfl, _, _, h3⟩ := h.get e
    exact IntIn.of (h.zl k c e1).1 h3.1⟩

set_option maxRecDepth 20000 in
set_option maxHeartbeats 1000000 in
theorem eqCpR_c {lo hi lo' hi' n : Nat} {cs : List CrI} (ca cb : Nat) {W : World} (hn : n ≤ 1048576) (h : CpR lo hi n cs W) (h' : CpR lo' hi' n cs W) :
    Calls Try.prog 17 #[.slice (some ⟨lo, 0, none⟩) n ca, .slice (some ⟨lo', 0, none⟩) n cb] W fun e w' => e = .returned (.bool true) ∧ Below W.heap.size W w' := by
  obtain ⟨ds, h1⟩ := h
  obtain ⟨es, h2⟩ := h'
  have HA := hidW h1
  have HB := hidW h2
  have hl1 : lo < W.heap.size := by have := h1.lh; omega
  have hl2 : lo' < W.heap.size := by have := h2.lh; omega
  clear h1 h2
  have hn' : (n : Int) ≤ 1048576 := by omega
  go_enter Try.func17, Try.ntmps17
  go_wp2
  go_loopw [5] (fun i wr => ∃ k : Nat, k ≤ n ∧ i = .int .i64 (k : Int) ∧ Below W.heap.size W wr) (fun i _ => n - (intOf i).toNat)
  case atStart => exact ⟨0, Nat.zero_le _, rfl, Below.refl _ _⟩
  case round =>
    obtain ⟨k, hk, rfl, hnx⟩ := hrel
    by_cases hlt : k < n
    · obtain ⟨d, hd⟩ : ∃ d, ds[k]? = some d := ⟨_, List.getElem?_eq_getElem (by rw [HA.out.ln]; exact hlt)⟩
      obtain ⟨e2, he⟩ : ∃ d, es[k]? = some d := ⟨_, List.getElem?_eq_getElem (by rw [HB.out.ln]; exact hlt)⟩
      obtain ⟨c, g, hc, rfl, _, hg2, hcp⟩ := HA.out.get hd
      obtain ⟨c', g', hc', rfl, _, hg2', hcp'⟩ := HB.out.get he
      rw [hc] at hc'
      cases hc'
      obtain ⟨⟨p0, p1, p2, p3, p4⟩, p5⟩ := (HA.out.ca k _ hd).below hnx
      obtain ⟨⟨q0, q1, q2, q3, q4⟩, q5⟩ := (HB.out.ca k _ he).below hnx
      have hz := HA.out.zl k c hc
      have hb1 : lo < wr.heap.size := by have := hnx.size; omega
      have hb2 : lo' < wr.heap.size := by have := hnx.size; omega
      have hgW : g < W.heap.size := by have := HA.out.lh.2; omega
      have hgW' : g' < W.heap.size := by have := HB.out.lh.2; omega
      have HEQ : Hid (∀ V, Below wr.heap.size wr V → Calls Try.prog 41 #[.agg #[.int .i64 c.k, .int .i64 c.e, .int .i64 c.f, .int .i64 c.s, .int .i64 c.n, .slice (some ⟨g, 0, none⟩) c.gn c.gn], .agg #[.int .i64 c.k, .int .i64 c.e, .int .i64 c.f, .int .i64 c.s, .int .i64 c.n, .slice (some ⟨g', 0, none⟩) c.gn c.gn]] V fun e w' => e = .returned (.bool true) ∧ Below V.heap.size V w') := fun V hV => by
        have hWV : Below W.heap.size W V := hnx.trans (hV.mono hnx.size)
        exact eqCert_same c g g' V hz.2 hz.1 (hcp.below hgW hWV).1 (hcp'.below hgW' hWV).1
      have hlt' : (k : Int) < (n : Int) := by omega
      simp only [cpOf] at p0 p1 p2 p3 p4 p5 q0 q1 q2 q3 q4 q5
      clear hd he hc hcp hcp' hz hg2 hg2'
      go_wp2
      go_region_held3 (fun w' => (∀ b o, b < wr.heap.size → w'.cell? ⟨b, o, none⟩ = wr.cell? ⟨b, o, none⟩) ∧ Below wr.heap.size wr w') (first | exact hS | exact kp_drew _)
        (first | (go_at_call 41; refine (HEQ.out _ (by first | exact hHeld.2 | exact (Below.refl _ _).drew)).mono ?_; rintro e w' ⟨rfl, hbz⟩; have hS := kp_step (by assumption) hbz))
      go_wp2
      exact ⟨⟨k + 1, by omega, by go_num, hnx.trans (hS.2.mono hnx.size)⟩, by simp [intOf]; omega⟩
    · have hkn : k = n := by omega
      subst hkn
      go_wp2
      go_ret
      exact ⟨rfl, hnx⟩

end Go.Proofs.Ythogdfnaojijhaa
