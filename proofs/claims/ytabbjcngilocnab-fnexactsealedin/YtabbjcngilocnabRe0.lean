/-
  CONTRACTS: replicas in memory: measured, copied (laws.toReplica), compared (two that are alike).
  Conditions: each contract bears its own.
-/
import Derived.Test.YtabbjcngilocnabStM
import Derived.Test.YtabbjcngilocnabLkM
import Derived.Deep.CutBlock
namespace Go.Proofs.Ytabbjcngilocnab
open Go.RowKit
set_option linter.unusedVariables false
set_option linter.unusedSimpArgs false

/-- A replica: its numbers, where its lists lie and what they are. -/
structure RepI where
  i : Int
  u : Int
  sa : Option Addr
  sn : Nat
  sc : Nat
  ss : List StI
  la : Option Addr
  ln : Nat
  lc : Nat
  ls : List LkI
deriving Inhabited

structure RepIn (w : World) (r : RepI) : Prop where
  said : StIn w r.sa r.sn r.ss
  locks : LkIn w r.la r.ln r.ls

theorem RepIn.below {w w' : World} {r : RepI} (h : RepIn w r) (hb : Below w.heap.size w w') : RepIn w' r := ⟨h.said.below hb, h.locks.below hb⟩

/-- Its lists are at most so long. -/
structure RepLe (m : Nat) (r : RepI) : Prop where
  said : r.sn ≤ m
  locks : r.ln ≤ m

/-- A copy: its lists are new, and may be written. -/
structure RepNew (w : World) (L : Nat) (r y : RepI) : Prop where
  i : y.i = r.i
  u : y.u = r.u
  sn : y.sn = r.sn
  ln : y.ln = r.ln
  sc : y.sc = r.sn
  lc : y.lc = r.ln
  ss : y.ss = r.ss
  ls : y.ls = r.ls
  sa : y.sa = some ⟨L, 0, none⟩
  la : ∃ g, y.la = some ⟨g, 0, none⟩ ∧ L < g ∧ g < w.heap.size ∧ LksAt w g r.ls ∧ LkRoom w g r.ln
  sl : StsAt w L r.ss ∧ StRoom w L r.sn
  slt : L < w.heap.size

theorem RepNew.below {w w' : World} {L : Nat} {r y : RepI} (h : RepNew w L r y) (hb : Below w.heap.size w w') : RepNew w' L r y := by
  obtain ⟨g, e, h1, h2, h3, h4⟩ := h.la
  exact ⟨h.i, h.u, h.sn, h.ln, h.sc, h.lc, h.ss, h.ls, h.sa, ⟨g, e, h1, by have := hb.size; omega, h3.below hb, h4.below h2 hb⟩, ⟨h.sl.1.below hb, h.sl.2.below h.slt hb⟩, by have := hb.size; have := h.slt; omega⟩

theorem RepNew.isIn {w : World} {L : Nat} {r y : RepI} (h : RepNew w L r y) (h1 : r.ss.length = r.sn) (h2 : r.ls.length = r.ln) : RepIn w y := by
  obtain ⟨g, e, _, _, h3, _⟩ := h.la
  refine ⟨?_, ?_⟩
  · rw [h.sa, h.sn, h.ss]; exact StIn.of h1 h.sl.1
  · rw [e, h.ln, h.ls]; exact LkIn.of h2 h3

/-- Four cells of a block that may be written. -/
structure RBox (w : World) (b : Nat) (u0 u1 u2 u3 : Value) : Prop where
  c0 : w.cell? ⟨b, 0, none⟩ = some u0
  c1 : w.cell? ⟨b, 1, none⟩ = some u1
  c2 : w.cell? ⟨b, 2, none⟩ = some u2
  c3 : w.cell? ⟨b, 3, none⟩ = some u3
  fz : ∀ j, w.frozen? ⟨b, j, none⟩ = false

theorem RBox.lt {w : World} {b : Nat} {u0 u1 u2 u3 : Value} (h : RBox w b u0 u1 u2 u3) : b < w.heap.size := World.block_lt_of_cell? w ⟨b, 0, none⟩ h.c0

theorem RBox.below {w w' : World} {b : Nat} {u0 u1 u2 u3 : Value} (h : RBox w b u0 u1 u2 u3) (hb : Below w.heap.size w w') : RBox w' b u0 u1 u2 u3 :=
  ⟨(hb.cell (p := ⟨b, 0, none⟩) h.lt).trans h.c0, (hb.cell (p := ⟨b, 1, none⟩) h.lt).trans h.c1, (hb.cell (p := ⟨b, 2, none⟩) h.lt).trans h.c2, (hb.cell (p := ⟨b, 3, none⟩) h.lt).trans h.c3, fun j => (hb.frozen (p := ⟨b, j, none⟩) h.lt).trans (h.fz j)⟩

theorem RBox.new (w : World) (u0 u1 u2 u3 : Value) (t : TypeId) : RBox (w.alloc (.cells #[u0, u1, u2, u3] t)) w.heap.size u0 u1 u2 u3 := ⟨by simp, by simp, by simp, by simp, fun j => by simp [go_sem]⟩

theorem RBox.put2 {w : World} {b : Nat} {u0 u1 u2 u3 : Value} (h : RBox w b u0 u1 u2 u3) (v : Value) : RBox (w.setCell ⟨b, 2, none⟩ v) b u0 u1 v u3 := by
  obtain ⟨h0, h1, h2, h3, hf⟩ := h
  refine ⟨?_, ?_, ?_, ?_, fun j => by simp [hf]⟩ <;> simp [go_sem, h0, h1, h2, h3]

theorem RBox.put3 {w : World} {b : Nat} {u0 u1 u2 u3 : Value} (h : RBox w b u0 u1 u2 u3) (v : Value) : RBox (w.setCell ⟨b, 3, none⟩ v) b u0 u1 u2 v := by
  obtain ⟨h0, h1, h2, h3, hf⟩ := h
  refine ⟨?_, ?_, ?_, ?_, fun j => by simp [hf]⟩ <;> simp [go_sem, h0, h1, h2, h3]

theorem grown_cell (w : World) (q o : Nat) (v : Value) : w.grownBy (w.setCell ⟨q, o, none⟩ v) (some q) := by
  refine ⟨rfl, rfl, rfl, by simp, fun i hi hne => ?_⟩
  have hq : i ≠ q := fun e => hne (by rw [e])
  rw [Below.heap_setCell _ _ _ _ hq]

theorem grownR_trans {w w1 w2 : World} {row : Option Nat} (h : w.grownBy w1 row) (h' : w1.grownBy w2 row) : w.grownBy w2 row :=
  ⟨h'.os.trans h.os, h'.tape.trans h.tape, h'.output.trans h.output, Nat.le_trans h.size h'.size, fun i hi hne => by rw [h'.block i (Nat.lt_of_lt_of_le hi h.size) hne]; exact h.block i hi hne⟩

theorem RBox.grown {w w' : World} {b : Nat} {u0 u1 u2 u3 : Value} {row : Option Nat} (h : RBox w b u0 u1 u2 u3) (hg : w.grownBy w' row) (hne : some b ≠ row) : RBox w' b u0 u1 u2 u3 :=
  ⟨hg.cell h.c0 hne, hg.cell h.c1 hne, hg.cell h.c2 hne, hg.cell h.c3 hne, fun j => by
    have := h.fz j
    unfold World.frozen? at this ⊢
    rw [hg.block b h.lt hne]
    exact this⟩

theorem StsAt.grown {w w' : World} {g : Nat} {gs : List StI} {row : Option Nat} (h : StsAt w g gs) (hg : w.grownBy w' row) (hne : some g ≠ row) : StsAt w' g gs := fun k x e => by
  obtain ⟨h0, h1, h2, h3, h4⟩ := h k x e
  exact ⟨hg.cell h0 hne, hg.cell h1 hne, hg.cell h2 hne, hg.cell h3 hne, hg.cell h4 hne⟩

theorem LksAt.grown {w w' : World} {g : Nat} {gs : List LkI} {row : Option Nat} (h : LksAt w g gs) (hg : w.grownBy w' row) (hne : some g ≠ row) : LksAt w' g gs := fun k x e => by
  obtain ⟨h0, h1, h2, h3⟩ := h k x e
  exact ⟨hg.cell h0 hne, hg.cell h1 hne, hg.cell h2 hne, hg.cell h3 hne⟩

set_option maxRecDepth 20000 in
set_option maxHeartbeats 1000000 in
theorem toReplica_c (r : RepI) (w : World) (hle : RepLe 1048576 r) (h : RepIn w r) :
    Calls Try.prog 6 #[.agg #[.int .i64 r.i, .int .i64 r.u, .slice r.sa r.sn r.sc, .slice r.la r.ln r.lc]] w fun e w' => ∃ (y : RepI) (L : Nat), e = .returned (.agg #[.int .i64 y.i, .int .i64 y.u, .slice y.sa y.sn y.sc, .slice y.la y.ln y.lc]) ∧ w.heap.size ≤ L ∧ RepNew w' L r y ∧ Below w.heap.size w w' := by
  have H : Hid (RepIn w r) := h
  have HLE : Hid (RepLe 1048576 r) := hle
  clear h hle
  obtain ⟨V0, hV0⟩ : ∃ V, V = w.alloc (.cells #[.int .i64 r.i, .int .i64 r.u, .slice r.sa r.sn r.sc, .slice r.la r.ln r.lc] 25) := ⟨_, rfl⟩
  obtain ⟨V1, hV1⟩ : ∃ V, V = V0.alloc (.cells #[.int .i64 0, .int .i64 0, .slice none 0 0, .slice none 0 0] 31) := ⟨_, rfl⟩
  obtain ⟨V, hV⟩ : ∃ V, V = V1.alloc (.cells #[.int .i64 r.i, .int .i64 r.u, .slice none 0 0, .slice none 0 0] 31) := ⟨_, rfl⟩
  have z0 : V0.heap.size = w.heap.size + 1 := by rw [hV0]; simp
  have z1 : V1.heap.size = w.heap.size + 1 + 1 := by rw [hV1]; simp [z0]
  have z2 : V.heap.size = w.heap.size + 1 + 1 + 1 := by rw [hV]; simp [z1]
  have b0 : Below w.heap.size w V0 := by rw [hV0]; exact (Below.refl _ _).alloc (Nat.le_refl _) _
  have b1 : Below V0.heap.size V0 V1 := by rw [hV1]; exact (Below.refl _ _).alloc (Nat.le_refl _) _
  have b2 : Below V1.heap.size V1 V := by rw [hV]; exact (Below.refl _ _).alloc (Nat.le_refl _) _
  have X0 : RBox V w.heap.size (.int .i64 r.i) (.int .i64 r.u) (.slice r.sa r.sn r.sc) (.slice r.la r.ln r.lc) := by
    have q : RBox V0 w.heap.size (.int .i64 r.i) (.int .i64 r.u) (.slice r.sa r.sn r.sc) (.slice r.la r.ln r.lc) := by rw [hV0]; exact RBox.new _ _ _ _ _ _
    exact (q.below b1).below b2
  have Y0 : RBox V (w.heap.size + 1) (.int .i64 0) (.int .i64 0) (.slice none 0 0) (.slice none 0 0) := by
    have q : RBox V1 V0.heap.size (.int .i64 0) (.int .i64 0) (.slice none 0 0) (.slice none 0 0) := by rw [hV1]; exact RBox.new _ _ _ _ _ _
    rw [z0] at q
    exact q.below b2
  have O0 : RBox V (w.heap.size + 1 + 1) (.int .i64 r.i) (.int .i64 r.u) (.slice none 0 0) (.slice none 0 0) := by
    have q : RBox V V1.heap.size (.int .i64 r.i) (.int .i64 r.u) (.slice none 0 0) (.slice none 0 0) := by rw [hV]; exact RBox.new _ _ _ _ _ _
    rw [z1] at q
    exact q
  have B0 : Hid (Below w.heap.size w V) := (b0.trans (b1.mono b0.size)).trans (b2.mono (by omega))
  have HV : Hid (V = ((w.alloc (.cells #[.int .i64 r.i, .int .i64 r.u, .slice r.sa r.sn r.sc, .slice r.la r.ln r.lc] 25)).alloc (.cells #[.int .i64 0, .int .i64 0, .slice none 0 0, .slice none 0 0] 31)).alloc (.cells #[.int .i64 r.i, .int .i64 r.u, .slice none 0 0, .slice none 0 0] 31)) := by rw [hV, hV1, hV0]; exact rfl
  have Z2 : Hid (V.heap.size = w.heap.size + 1 + 1 + 1) := z2
  have XX : Hid (RBox V w.heap.size (.int .i64 r.i) (.int .i64 r.u) (.slice r.sa r.sn r.sc) (.slice r.la r.ln r.lc) ∧ RBox V (w.heap.size + 1) (.int .i64 0) (.int .i64 0) (.slice none 0 0) (.slice none 0 0) ∧ RBox V (w.heap.size + 1 + 1) (.int .i64 r.i) (.int .i64 r.u) (.slice none 0 0) (.slice none 0 0)) := ⟨X0, Y0, O0⟩
  clear hV hV1 hV0 z0 z1 z2 b0 b1 b2 X0 Y0 O0 V0 V1
  go_enter Try.func6, Try.ntmps6
  go_wp2_with fail
  rw [← HV.out]
  clear HV
  refine (toStatements_room r.sa r.sn r.sc r.ss V HLE.out.said (H.out.said.below B0.out)).mono ?_
  rintro e w1 ⟨rfl, hat1, hlt1, hb1, hroom1⟩
  obtain ⟨X1, Y1, O1⟩ := XX.out
  have X1 := X1.below hb1
  have Y1 := Y1.below hb1
  have O1 := O1.below hb1
  have B1 : Below w.heap.size w w1 := B0.out.trans (hb1.mono B0.out.size)
  have hz1 : w.heap.size + 1 + 1 + 1 ≤ w1.heap.size := by have := Z2.out; have := hb1.size; omega
  obtain ⟨U, hU⟩ : ∃ U, U = w1.setCell ⟨w.heap.size + 1 + 1, 2, none⟩ (.slice (some ⟨V.heap.size, 0, none⟩) r.sn r.sn) := ⟨_, rfl⟩
  have gU : w1.grownBy U (some (w.heap.size + 1 + 1)) := by rw [hU]; exact grown_cell _ _ _ _
  have BU : Hid (Below w.heap.size w U) := by rw [hU]; exact B1.setCell (by show w.heap.size ≤ w.heap.size + 1 + 1; omega) _
  have XU : Hid (RBox U w.heap.size (.int .i64 r.i) (.int .i64 r.u) (.slice r.sa r.sn r.sc) (.slice r.la r.ln r.lc) ∧ RBox U (w.heap.size + 1) (.int .i64 0) (.int .i64 0) (.slice none 0 0) (.slice none 0 0) ∧ RBox U (w.heap.size + 1 + 1) (.int .i64 r.i) (.int .i64 r.u) (.slice (some ⟨V.heap.size, 0, none⟩) r.sn r.sn) (.slice none 0 0)) := by
    refine ⟨X1.grown gU (fun e => by injection e; omega), Y1.grown gU (fun e => by injection e; omega), ?_⟩
    rw [hU]; exact O1.put2 _
  have SU : Hid (StsAt U V.heap.size r.ss ∧ StRoom U V.heap.size r.sn ∧ V.heap.size < U.heap.size) := by
    have hne : some V.heap.size ≠ some (w.heap.size + 1 + 1) := fun e => by injection e; have := Z2.out; omega
    exact ⟨hat1.grown gU hne, hroom1.grown hlt1 gU hne, by have := gU.size; omega⟩
  obtain ⟨x0, x1, x2, x3, _⟩ := X1
  obtain ⟨o0, o1, o2, o3, of⟩ := O1
  have of2 := of 2
  have hlo : w.heap.size + 1 + 1 < w1.heap.size := by omega
  have hlx : w.heap.size < w1.heap.size := by omega
  clear hat1 hroom1 hb1 Y1 B1 gU XX of
  go_wp2_with fail
  rw [← hU]
  clear hU x0 x1 x2 x3 o0 o1 o2 o3 of2 hlo hlx
  refine (toLocks_room r.la r.ln r.lc r.ls U HLE.out.locks (H.out.locks.below BU.out)).mono ?_
  rintro e w2 ⟨rfl, hat2, hlt2, hb2, hroom2⟩
  obtain ⟨X2, Y2, O2⟩ := XU.out
  have X2 := X2.below hb2
  have Y2 := Y2.below hb2
  have O2 := O2.below hb2
  have B2 : Below w.heap.size w w2 := BU.out.trans (hb2.mono BU.out.size)
  have hz2 : w.heap.size + 1 + 1 + 1 ≤ w2.heap.size := by have := SU.out.2.2; have := Z2.out; have := hb2.size; omega
  obtain ⟨T, hT⟩ : ∃ T, T = w2.setCell ⟨w.heap.size + 1 + 1, 3, none⟩ (.slice (some ⟨U.heap.size, 0, none⟩) r.ln r.ln) := ⟨_, rfl⟩
  have gT : w2.grownBy T (some (w.heap.size + 1 + 1)) := by rw [hT]; exact grown_cell _ _ _ _
  have BT : Below w.heap.size w T := by rw [hT]; exact B2.setCell (by show w.heap.size ≤ w.heap.size + 1 + 1; omega) _
  have YT := Y2.grown gT (fun e => by injection e; omega)
  have OT : RBox T (w.heap.size + 1 + 1) (.int .i64 r.i) (.int .i64 r.u) (.slice (some ⟨V.heap.size, 0, none⟩) r.sn r.sn) (.slice (some ⟨U.heap.size, 0, none⟩) r.ln r.ln) := by rw [hT]; exact O2.put3 _
  have ST : Hid (StsAt T V.heap.size r.ss ∧ StRoom T V.heap.size r.sn ∧ V.heap.size < T.heap.size ∧ LksAt T U.heap.size r.ls ∧ LkRoom T U.heap.size r.ln ∧ U.heap.size < T.heap.size ∧ V.heap.size < U.heap.size ∧ w.heap.size + 1 + 1 < V.heap.size) := by
    have hz := Z2.out
    have hs := SU.out
    have hne : some V.heap.size ≠ some (w.heap.size + 1 + 1) := fun e => by injection e; omega
    have hne2 : some U.heap.size ≠ some (w.heap.size + 1 + 1) := fun e => by injection e; omega
    have hsz := gT.size
    have hbz := hb2.size
    exact ⟨(hs.1.below hb2).grown gT hne, (hs.2.1.below hs.2.2 hb2).grown (by omega) gT hne, by omega, hat2.grown gT hne2, hroom2.grown hlt2 gT hne2, by omega, hs.2.2, by omega⟩
  obtain ⟨x0, x1, x2, x3, _⟩ := X2
  obtain ⟨o0, o1, o2, o3, of⟩ := O2
  have of3 := of 3
  have hlo : w.heap.size + 1 + 1 < w2.heap.size := by omega
  have hlx : w.heap.size < w2.heap.size := by omega
  obtain ⟨p0, p1, p2, p3, _⟩ := OT
  obtain ⟨y0, y1, y2, y3, yf⟩ := YT
  have f0 := yf 0
  have f1 := yf 1
  have f2 := yf 2
  have f3 := yf 3
  have BT' : Hid (Below w.heap.size w T) := BT
  clear hat2 hroom2 hb2 Y2 B2 gT XU of BT yf SU BU
  go_upto_region 6 with fail
  rw [← hT]
  clear hT x0 x1 x2 x3 o0 o1 o2 o3 of3
  have g4 : Hid (T.grownBy ((((T.setCell ⟨w.heap.size + 1, 0, none⟩ (.int .i64 r.i)).setCell ⟨w.heap.size + 1, 1, none⟩ (.int .i64 r.u)).setCell ⟨w.heap.size + 1, 2, none⟩ (.slice (some ⟨V.heap.size, 0, none⟩) r.sn r.sn)).setCell ⟨w.heap.size + 1, 3, none⟩ (.slice (some ⟨U.heap.size, 0, none⟩) r.ln r.ln)) (some (w.heap.size + 1))) := grownR_trans (grownR_trans (grownR_trans (grown_cell _ _ _ _) (grown_cell _ _ _ _)) (grown_cell _ _ _ _)) (grown_cell _ _ _ _)
  have b4 : Hid (Below w.heap.size w ((((T.setCell ⟨w.heap.size + 1, 0, none⟩ (.int .i64 r.i)).setCell ⟨w.heap.size + 1, 1, none⟩ (.int .i64 r.u)).setCell ⟨w.heap.size + 1, 2, none⟩ (.slice (some ⟨V.heap.size, 0, none⟩) r.sn r.sn)).setCell ⟨w.heap.size + 1, 3, none⟩ (.slice (some ⟨U.heap.size, 0, none⟩) r.ln r.ln))) := (((BT'.out.setCell (by show w.heap.size ≤ w.heap.size + 1; omega) _).setCell (by show w.heap.size ≤ w.heap.size + 1; omega) _).setCell (by show w.heap.size ≤ w.heap.size + 1; omega) _).setCell (by show w.heap.size ≤ w.heap.size + 1; omega) _
  go_wp2
  refine bodyPost_ret (v := .agg #[.int .i64 r.i, .int .i64 r.u, .slice (some ⟨V.heap.size, 0, none⟩) r.sn r.sn, .slice (some ⟨U.heap.size, 0, none⟩) r.ln r.ln]) (by simp [results, Try.results6, go_sem, y0, y1, y2, y3]) rfl ?_
  refine ⟨⟨r.i, r.u, some ⟨V.heap.size, 0, none⟩, r.sn, r.sn, r.ss, some ⟨U.heap.size, 0, none⟩, r.ln, r.ln, r.ls⟩, V.heap.size, rfl, by have := ST.out; omega, ?_, b4.out⟩
  obtain ⟨s1, s2, s3, s4, s5, s6, s7, s8⟩ := ST.out
  have hne : some V.heap.size ≠ some (w.heap.size + 1) := fun e => by injection e; omega
  have hne2 : some U.heap.size ≠ some (w.heap.size + 1) := fun e => by injection e; omega
  have hsz := g4.out.size
  exact ⟨rfl, rfl, rfl, rfl, rfl, rfl, rfl, rfl, rfl, ⟨U.heap.size, rfl, s7, by omega, s4.grown g4.out hne2, s5.grown s6 g4.out hne2⟩, ⟨s1.grown g4.out hne, s2.grown s3 g4.out hne⟩, by omega⟩

end Go.Proofs.Ytabbjcngilocnab
