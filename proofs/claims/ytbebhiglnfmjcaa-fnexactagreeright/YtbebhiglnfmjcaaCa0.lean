/-
  CONTRACTS: broadcasts in memory: measured, copied (laws.toCast), compared (two that are alike).
  Conditions: each contract bears its own.
-/
import Derived.Test.YtbebhiglnfmjcaaNn0
namespace Go.Proofs.Ytbebhiglnfmjcaa
open Go.RowKit
set_option linter.unusedVariables false
set_option linter.unusedSimpArgs false

/-- A broadcast, wherever its lists lie. -/
structure CaP where
  f : Int
  s : Int
  bs : List Int
  ns : List NdP
  ms : List MsI
deriving DecidableEq, Inhabited

/-- A broadcast: its numbers, where its lists lie and what they are. -/
structure CastI where
  f : Int
  s : Int
  ba : Option Addr
  bn : Nat
  bc : Nat
  bs : List Int
  na : Option Addr
  nn : Nat
  nc : Nat
  ns : List NodeI
  ma : Option Addr
  mn : Nat
  mc : Nat
  ms : List MsI
deriving Inhabited

def CastI.p (c : CastI) : CaP := ⟨c.f, c.s, c.bs, ndsP c.ns, c.ms⟩

structure CastIn (w : World) (c : CastI) : Prop where
  bad : IntIn w c.ba c.bn c.bs
  nodes : NdsIn w c.na c.nn c.ns
  msgs : MsIn w c.ma c.mn c.ms

theorem CastIn.below {w w' : World} {c : CastI} (h : CastIn w c) (hb : Below w.heap.size w w') : CastIn w' c := ⟨h.bad.below hb, h.nodes.below hb, h.msgs.below hb⟩

/-- Its lists are at most so long. -/
structure CastLe (m : Nat) (c : CastI) : Prop where
  bad : c.bn ≤ m
  nodes : c.nn ≤ m
  heard : NdsLe m c.ns
  msgs : c.mn ≤ m

theorem ndsP_len {ns ys : List NodeI} (h : ndsP ys = ndsP ns) : ys.length = ns.length := by
  have := congrArg List.length h
  simpa [ndsP] using this

theorem NdsIn.heard {w : World} {a : Option Addr} {n : Nat} {ns : List NodeI} (h : NdsIn w a n ns) {k : Nat} {x : NodeI} (e : ns[k]? = some x) : x.hs.length = x.n := by
  have hk : k < n := by
    by_cases q : k < n
    · exact q
    · rw [List.getElem?_eq_none (by rw [h.1]; omega)] at e; cases e
  obtain ⟨b, off, y, _, e', hat⟩ := h.at hk
  rw [e] at e'
  cases e'
  exact hat.2.1

theorem same_le {w w' : World} {c d : CastI} {m : Nat} (h : d.p = c.p) (hc : CastIn w c) (hd : CastIn w' d) (hle : CastLe m c) : CastLe m d := by
  simp only [CastI.p, CaP.mk.injEq] at h
  obtain ⟨_, _, h1, h2, h3⟩ := h
  have l1 := hc.bad.1
  have l2 := hd.bad.1
  rw [h1] at l2
  have l3 := hc.nodes.1
  have l4 := hd.nodes.1
  have l5 := ndsP_len h2
  have l6 := hc.msgs.1
  have l7 := hd.msgs.1
  rw [h3] at l7
  have e1 := hle.bad
  have e2 := hle.nodes
  have e3 := hle.msgs
  refine ⟨by omega, by omega, fun k y e => ?_, by omega⟩
  have hk : k < c.ns.length := by
    by_cases q : k < c.ns.length
    · exact q
    · rw [List.getElem?_eq_none (by omega)] at e; cases e
  have hx := List.getElem?_eq_getElem hk
  have hp := nds_at h2 hx e
  have a1 := hd.nodes.heard e
  have a2 := hc.nodes.heard hx
  have a3 := hle.heard k _ hx
  simp only [NodeI.p, NdP.mk.injEq] at hp
  rw [hp.2.2.2] at a1
  omega

/-- A broadcast whose lists are new, in blocks lo to hi, and may be written. -/
structure CastCp (lo hi : Nat) (y : CastI) (X : World) : Prop where
  lens : y.bs.length = y.bn ∧ y.ns.length = y.nn ∧ y.ms.length = y.mn
  caps : y.bc = y.bn ∧ y.nc = y.nn ∧ y.mc = y.mn
  rows : ∃ gb gn gm, y.ba = some ⟨gb, 0, none⟩ ∧ y.na = some ⟨gn, 0, none⟩ ∧ y.ma = some ⟨gm, 0, none⟩ ∧ lo ≤ gb ∧ gb < gn ∧ gn < gm ∧ gm < hi ∧ IntsAt X gb y.bs ∧ IntRoom X gb y.bn ∧ NdsAt X gn 0 y.ns ∧ NdsNew X (gn + 1) hi y.ns ∧ IntRoom X gn (y.nn * 4) ∧ MssAt X gm y.ms ∧ MsRoom X gm y.mn

theorem IntsAt.keep {w w' : World} {g : Nat} {zs : List Int} (h : IntsAt w g zs) (hk : w'.heap[g]? = w.heap[g]?) : IntsAt w' g zs := fun k x e => (World.cell?_of_block (a := ⟨g, k, none⟩) hk).trans (h k x e)

theorem IntRoom.keep {w w' : World} {g n : Nat} (h : IntRoom w g n) (hk : w'.heap[g]? = w.heap[g]?) : IntRoom w' g n :=
  ⟨fun j hj => by obtain ⟨v, e⟩ := h.1 j hj; exact ⟨v, (World.cell?_of_block (a := ⟨g, j, none⟩) hk).trans e⟩, fun j => (World.frozen?_of_block (a := ⟨g, j, none⟩) hk).trans (h.2 j)⟩

theorem MssAt.keep {w w' : World} {g : Nat} {zs : List MsI} (h : MssAt w g zs) (hk : w'.heap[g]? = w.heap[g]?) : MssAt w' g zs := fun k x e => by
  have key : ∀ (q : Nat) (u : Value), w.cell? ⟨g, q, none⟩ = some u → w'.cell? ⟨g, q, none⟩ = some u := fun q u hu => (World.cell?_of_block (a := ⟨g, q, none⟩) hk).trans hu
  obtain ⟨h0, h1, h2, h3⟩ := h k x e
  exact ⟨key _ _ h0, key _ _ h1, key _ _ h2, key _ _ h3⟩

theorem CastCp.keep {lo hi : Nat} {y : CastI} {X X' : World} (h : CastCp lo hi y X) (hk : ∀ b, lo ≤ b → b < hi → X'.heap[b]? = X.heap[b]?) : CastCp lo hi y X' := by
  obtain ⟨hl, hc, gb, gn, gm, e1, e2, e3, h1, h2, h3, h4, p1, p2, p3, p4, p5, p6, p7⟩ := h
  refine ⟨hl, hc, gb, gn, gm, e1, e2, e3, h1, h2, h3, h4, p1.keep (hk gb (by omega) (by omega)), p2.keep (hk gb (by omega) (by omega)), fun k x e => ?_, fun k x e => (p4 k x e).keep (fun b q1 q2 => hk b (by omega) q2), p5.keep (hk gn (by omega) (by omega)), p6.keep (hk gm (by omega) (by omega)), p7.keep (hk gm (by omega) (by omega))⟩
  refine (p3 k x e).keep (hk gn (by omega) (by omega)) (fun b o ea => ?_)
  obtain ⟨_, g, eg, q1, q2, _⟩ := p4 k x e
  rw [eg] at ea
  cases ea
  exact hk _ (by omega) q2

theorem CastCp.hold {lo hi : Nat} {y : CastI} {W : World} (h : CastCp lo hi y W) (hg : hi ≤ W.heap.size) : Hold lo hi (CastCp lo hi y) W :=
  ⟨h, hg, fun X X' hX hk => hX.keep hk⟩

theorem CastCp.isIn {lo hi : Nat} {y : CastI} {W : World} (h : CastCp lo hi y W) : CastIn W y := by
  obtain ⟨hl, hc, gb, gn, gm, e1, e2, e3, h1, h2, h3, h4, p1, p2, p3, p4, p5, p6, p7⟩ := h
  refine ⟨?_, ?_, ?_⟩
  · rw [e1]; exact IntIn.of hl.1 p1
  · rw [e2]; exact NdsIn.of hl.2.1 p3
  · rw [e3]; exact MsIn.of hl.2.2 p6

theorem chg_set (W : World) (q o : Nat) (v : Value) : Chg q (q + 1) W (W.setCell ⟨q, o, none⟩ v) :=
  ⟨fun B h1 h2 => (Below.refl _ _).setCell h1 _, by simp, fun b h1 h2 => Below.heap_setCell _ _ _ _ (by show b ≠ q; omega)⟩

set_option maxRecDepth 20000 in
set_option maxHeartbeats 1000000 in
theorem szCast_c (c : CastI) (l : Int) (w : World) (hle : CastLe maxLen c) (h0 : 0 ≤ l) (h1 : l ≤ 1048576) (h : CastIn w c) :
    Calls Try.prog 34 #[.agg #[.int .i64 c.f, .int .i64 c.s, .slice c.ba c.bn c.bc, .slice c.na c.nn c.nc, .slice c.ma c.mn c.mc], .int .i64 l] w fun e w' => (∃ r : Int, e = .returned (.int .i64 r) ∧ r ≤ l ∧ (0 ≤ r → CastLe l.toNat c)) ∧ Below w.heap.size w w' := by
  have hr1 := hle.bad
  have hc1 := hle.msgs
  unfold maxLen at hr1 hc1
  have hr' : (c.bn : Int) ≤ 9223372036854775807 := by omega
  have hc' : (c.mn : Int) ≤ 9223372036854775807 := by omega
  have HLE : Hid (CastLe maxLen c) := hle
  have H : Hid (CastIn w c) := h
  clear h hle hr1 hc1
  obtain ⟨W, hW⟩ : ∃ W, W = w.alloc (.cells #[.int .i64 c.f, .int .i64 c.s, .slice c.ba c.bn c.bc, .slice c.na c.nn c.nc, .slice c.ma c.mn c.mc] 61) := ⟨_, rfl⟩
  have hs : W.heap.size = w.heap.size + 1 := by rw [hW]; simp
  have B0 : Below w.heap.size w W := by rw [hW]; exact (Below.refl _ _).alloc (Nat.le_refl _) _
  have c4 : W.cell? ⟨w.heap.size, 4, none⟩ = some (.slice c.ma c.mn c.mc) := by rw [hW]; simp
  by_cases q1 : (c.bn : Int) ≤ l
  · go_enter Try.func34, Try.ntmps34
    go_wp2_with (first | (go_at_call 76; go_in) | fail)
    rw [← hW]
    clear hW
    refine (szNodes_c c.na c.nn c.nc c.ns _ W HLE.out.nodes HLE.out.heard (by omega) (by omega) (H.out.nodes.below B0)).mono ?_
    rintro e w1 ⟨⟨r, rfl, hr1, hr2⟩, hb1⟩
    have HR : Hid (0 ≤ r → (c.nn : Int) ≤ l - c.bn ∧ NdsLe (l - c.bn).toNat c.ns) := hr2
    have hb : Below w.heap.size w w1 := B0.trans (hb1.mono (by omega))
    have d4 := (hb1.cell (p := ⟨w.heap.size, 4, none⟩) (by show w.heap.size < W.heap.size; omega)).trans c4
    have hw : w.heap.size < w1.heap.size := by have := hb1.size; omega
    clear hr2 hb1 c4 B0 hs
    by_cases q2 : r < 0
    · go_wp2
      go_ret
      exact ⟨⟨_, rfl, by omega, fun q => by omega⟩, hb⟩
    · have q2' : 0 ≤ r := by omega
      by_cases q3 : (c.mn : Int) ≤ r
      · go_wp2
        go_ret
        refine ⟨⟨_, rfl, by omega, fun _ => ?_⟩, hb⟩
        obtain ⟨h3, h4⟩ := HR.out q2'
        exact ⟨by omega, by omega, fun k x e => by have := h4 k x e; omega, by omega⟩
      · have q3' : r < (c.mn : Int) := by omega
        go_wp2
        go_ret
        exact ⟨⟨_, rfl, by omega, fun q => by omega⟩, hb⟩
  · have q1' : l < (c.bn : Int) := by omega
    go_enter Try.func34, Try.ntmps34
    go_wp2
    go_ret
    exact ⟨⟨_, rfl, by omega, fun q => by omega⟩, by go_grown⟩

/-- What toCast has before it: its argument, the answer's box, the variable's box. -/
structure TC (w : World) (c : CastI) (us : List Value) (V : World) : Prop where
  bl : Below w.heap.size w V
  lt : w.heap.size + 2 < V.heap.size
  ar : BoxV w.heap.size [.int .i64 c.f, .int .i64 c.s, .slice c.ba c.bn c.bc, .slice c.na c.nn c.nc, .slice c.ma c.mn c.mc] V
  re : BoxW (w.heap.size + 1) [.int .i64 0, .int .i64 0, .slice none 0 0, .slice none 0 0, .slice none 0 0] V
  ou : BoxW (w.heap.size + 2) us V

theorem TC.below {w : World} {c : CastI} {us : List Value} {V V' : World} (h : TC w c us V) (hb : Below V.heap.size V V') : TC w c us V' :=
  ⟨h.bl.trans (hb.mono h.bl.size), Nat.lt_of_lt_of_le h.lt hb.size, ((BoxV.hold h.ar (by have := h.lt; omega)).below hb).out, h.re.below (by have := h.lt; omega) hb, h.ou.below h.lt hb⟩

theorem TC.put {w : World} {c : CastI} {us : List Value} {V : World} (h : TC w c us V) (j : Nat) (hj : j < us.length) (v : Value) : TC w c (us.set j v) (V.setCell ⟨w.heap.size + 2, j, none⟩ v) := by
  refine ⟨h.bl.setCell (by show w.heap.size ≤ w.heap.size + 2; omega) _, by simp; exact h.lt, fun i u e => ?_, h.re.other (by show w.heap.size + 2 ≠ w.heap.size + 1; omega) _, h.ou.put j hj v⟩
  rw [World.cell?_setCell_other (h := fun e => by have := congrArg Addr.block e; simp at this)]
  exact h.ar i u e

set_option maxRecDepth 20000 in
set_option maxHeartbeats 1000000 in
theorem toCast_c (c : CastI) (w : World) (hle : CastLe 1048576 c) (h : CastIn w c) :
    Calls Try.prog 36 #[.agg #[.int .i64 c.f, .int .i64 c.s, .slice c.ba c.bn c.bc, .slice c.na c.nn c.nc, .slice c.ma c.mn c.mc]] w fun e w' => ∃ y : CastI, e = .returned (.agg #[.int .i64 y.f, .int .i64 y.s, .slice y.ba y.bn y.bc, .slice y.na y.nn y.nc, .slice y.ma y.mn y.mc]) ∧ y.p = c.p ∧ CastCp w.heap.size w'.heap.size y w' ∧ Below w.heap.size w w' := by
  have HLE : Hid (CastLe 1048576 c) := hle
  have H : Hid (CastIn w c) := h
  clear h hle
  obtain ⟨V, hV⟩ : ∃ V, V = ((w.alloc (.cells #[.int .i64 c.f, .int .i64 c.s, .slice c.ba c.bn c.bc, .slice c.na c.nn c.nc, .slice c.ma c.mn c.mc] 61)).alloc (.cells #[.int .i64 0, .int .i64 0, .slice none 0 0, .slice none 0 0, .slice none 0 0] 28)).alloc (.cells #[.int .i64 c.f, .int .i64 c.s, .slice none 0 0, .slice none 0 0, .slice none 0 0] 28) := ⟨_, rfl⟩
  have X0 : Hid (TC w c [.int .i64 c.f, .int .i64 c.s, .slice none 0 0, .slice none 0 0, .slice none 0 0] V) := by
    rw [hV]
    refine ⟨(((Below.refl _ _).alloc (Nat.le_refl _) _).alloc (by simp) _).alloc (by simp; omega) _, by simp, ?_, ?_, ?_⟩
    · exact (((boxV_new w #[.int .i64 c.f, .int .i64 c.s, .slice c.ba c.bn c.bc, .slice c.na c.nn c.nc, .slice c.ma c.mn c.mc] 61).alloc _).alloc _).out
    · have q := boxW_new (w.alloc (.cells #[.int .i64 c.f, .int .i64 c.s, .slice c.ba c.bn c.bc, .slice c.na c.nn c.nc, .slice c.ma c.mn c.mc] 61)) #[.int .i64 0, .int .i64 0, .slice none 0 0, .slice none 0 0, .slice none 0 0] 28
      simp only [World.size_alloc] at q
      exact q.below (by simp) ((Below.refl _ _).alloc (Nat.le_refl _) _)
    · have q := boxW_new ((w.alloc (.cells #[.int .i64 c.f, .int .i64 c.s, .slice c.ba c.bn c.bc, .slice c.na c.nn c.nc, .slice c.ma c.mn c.mc] 61)).alloc (.cells #[.int .i64 0, .int .i64 0, .slice none 0 0, .slice none 0 0, .slice none 0 0] 28)) #[.int .i64 c.f, .int .i64 c.s, .slice none 0 0, .slice none 0 0, .slice none 0 0] 28
      simp only [World.size_alloc] at q
      exact q
  go_enter Try.func36, Try.ntmps36
  go_wp2_with fail
  rw [← hV]
  clear hV
  refine (toInts_room c.ba c.bn c.bc c.bs V HLE.out.bad (H.out.bad.below X0.out.bl)).mono ?_
  rintro e w1 ⟨rfl, hat1, hlt1, hb1, hroom1⟩
  have x1 := X0.out.below hb1
  have hz1 := hb1.size
  have hV0 := X0.out.lt
  have A1 : Hid (Hold V.heap.size (V.heap.size + 1) (fun X => IntsAt X V.heap.size c.bs ∧ IntRoom X V.heap.size c.bn) w1) := ⟨⟨hat1, hroom1⟩, hlt1, fun X X' hX hk => ⟨hX.1.keep (hk _ (Nat.le_refl _) (by omega)), hX.2.keep (hk _ (Nat.le_refl _) (by omega))⟩⟩
  have a0 := x1.ar 0 _ rfl
  have a1 := x1.ar 1 _ rfl
  have a2 := x1.ar 2 _ rfl
  have a3 := x1.ar 3 _ rfl
  have a4 := x1.ar 4 _ rfl
  have o2 := x1.ou.1 2 _ rfl
  have of2 := x1.ou.2 2
  have X1 := hidP (x1.put 2 (by simp) (.slice (some ⟨V.heap.size, 0, none⟩) c.bn c.bn))
  have hw1 := x1.lt
  have hw0 : w.heap.size < w1.heap.size := by omega
  clear hat1 hroom1 hb1 x1 X0
  go_wp2_with fail
  obtain ⟨V1, hV1⟩ : ∃ V1, V1 = w1.setCell ⟨w.heap.size + 2, 2, none⟩ (.slice (some ⟨V.heap.size, 0, none⟩) c.bn c.bn) := ⟨_, rfl⟩
  have A1' := hidP (A1.out.chg (chg_set w1 (w.heap.size + 2) 2 (.slice (some ⟨V.heap.size, 0, none⟩) c.bn c.bn)) (by omega))
  have HS1 : Hid (V1.heap.size = w1.heap.size) := by rw [hV1]; exact World.size_setCell ..
  rw [← hV1] at X1 A1' ⊢
  clear hV1 A1 a0 a1 a2 a3 a4 o2 of2
  refine (toNodes_c c.na c.nn c.nc c.ns V1 HLE.out.nodes HLE.out.heard (H.out.nodes.below X1.out.bl)).mono ?_
  rintro e w2 ⟨rfl, ys, hF⟩
  have hb2 := hF.bl
  have x2 := X1.out.below hb2
  have hz2 := hb2.size
  have A2 := hidP (A1'.out.below hb2)
  have N2 : Hid (Hold V1.heap.size w2.heap.size (fun X => NdsAt X V1.heap.size 0 ys ∧ NdsNew X (V1.heap.size + 1) w2.heap.size ys ∧ IntRoom X V1.heap.size (c.nn * 4)) w2) := by
    have hlt := hF.lt
    refine ⟨⟨hF.at', hF.nw, hF.rm⟩, Nat.le_refl _, fun X X' hX hk => ⟨fun k x e => ?_, fun k x e => (hX.2.1 k x e).keep (fun b q1 q2 => hk b (by omega) q2), hX.2.2.keep (hk _ (Nat.le_refl _) hlt)⟩⟩
    refine (hX.1 k x e).keep (hk _ (Nat.le_refl _) hlt) (fun b o ea => ?_)
    obtain ⟨_, g, eg, q1, q2, _⟩ := hX.2.1 k x e
    rw [eg] at ea
    cases ea
    exact hk _ (by omega) q2
  have HY : Hid (ys.length = c.nn ∧ ndsP ys = ndsP c.ns ∧ V1.heap.size < w2.heap.size) := ⟨hF.ln, hF.ps, hF.lt⟩
  have a0 := x2.ar 0 _ rfl
  have a1 := x2.ar 1 _ rfl
  have a2 := x2.ar 2 _ rfl
  have a3 := x2.ar 3 _ rfl
  have a4 := x2.ar 4 _ rfl
  have o3 := x2.ou.1 3 _ rfl
  have of3 := x2.ou.2 3
  have X2 := hidP (x2.put 3 (by simp) (.slice (some ⟨V1.heap.size, 0, none⟩) c.nn c.nn))
  have hw2 := x2.lt
  have hw02 : w.heap.size < w2.heap.size := by omega
  clear hF hb2 x2 X1 A1'
  go_wp2_with fail
  obtain ⟨V2, hV2⟩ : ∃ V2, V2 = w2.setCell ⟨w.heap.size + 2, 3, none⟩ (.slice (some ⟨V1.heap.size, 0, none⟩) c.nn c.nn) := ⟨_, rfl⟩
  have hS1 := HS1.out
  have A2' := hidP (A2.out.chg (chg_set w2 (w.heap.size + 2) 3 (.slice (some ⟨V1.heap.size, 0, none⟩) c.nn c.nn)) (by omega))
  have N2' := hidP (N2.out.chg (chg_set w2 (w.heap.size + 2) 3 (.slice (some ⟨V1.heap.size, 0, none⟩) c.nn c.nn)) (by omega))
  have HS2 : Hid (V2.heap.size = w2.heap.size) := by rw [hV2]; exact World.size_setCell ..
  rw [← hV2] at X2 A2' N2' ⊢
  clear hV2 A2 N2 a0 a1 a2 a3 a4 o3 of3 hS1
  refine (toMsgs_room c.ma c.mn c.mc c.ms V2 HLE.out.msgs (H.out.msgs.below X2.out.bl)).mono ?_
  rintro e w3 ⟨rfl, hat3, hlt3, hb3, hroom3⟩
  have x3 := X2.out.below hb3
  have hz3 := hb3.size
  have A3 := hidP (A2'.out.below hb3)
  have N3 := hidP (N2'.out.below hb3)
  have M3 : Hid (Hold V2.heap.size (V2.heap.size + 1) (fun X => MssAt X V2.heap.size c.ms ∧ MsRoom X V2.heap.size c.mn) w3) := ⟨⟨hat3, hroom3⟩, hlt3, fun X X' hX hk => ⟨hX.1.keep (hk _ (Nat.le_refl _) (by omega)), hX.2.keep (hk _ (Nat.le_refl _) (by omega))⟩⟩
  have a0 := x3.ar 0 _ rfl
  have a1 := x3.ar 1 _ rfl
  have a2 := x3.ar 2 _ rfl
  have a3 := x3.ar 3 _ rfl
  have a4 := x3.ar 4 _ rfl
  have o0 := x3.ou.1 0 _ rfl
  have o1 := x3.ou.1 1 _ rfl
  have o2 := x3.ou.1 2 _ rfl
  have o3 := x3.ou.1 3 _ rfl
  have o4 := x3.ou.1 4 _ rfl
  have of4 := x3.ou.2 4
  have r0 := x3.re.1 0 _ rfl
  have r1 := x3.re.1 1 _ rfl
  have r2 := x3.re.1 2 _ rfl
  have r3 := x3.re.1 3 _ rfl
  have r4 := x3.re.1 4 _ rfl
  have f0 := x3.re.2 0
  have f1 := x3.re.2 1
  have f2 := x3.re.2 2
  have f3 := x3.re.2 3
  have f4 := x3.re.2 4
  have hw3 := x3.lt
  have hw03 : w.heap.size < w3.heap.size := by omega
  have HB := hidP x3.bl
  clear hat3 hroom3 hb3 x3 X2 A2' N2'
  go_wp2
  obtain ⟨Z, hZ⟩ : ∃ Z, Z = (((((w3.setCell ⟨w.heap.size + 2, 4, none⟩ (.slice (some ⟨V2.heap.size, 0, none⟩) c.mn c.mn)).setCell ⟨w.heap.size + 1, 0, none⟩ (.int .i64 c.f)).setCell ⟨w.heap.size + 1, 1, none⟩ (.int .i64 c.s)).setCell ⟨w.heap.size + 1, 2, none⟩ (.slice (some ⟨V.heap.size, 0, none⟩) c.bn c.bn)).setCell ⟨w.heap.size + 1, 3, none⟩ (.slice (some ⟨V1.heap.size, 0, none⟩) c.nn c.nn)).setCell ⟨w.heap.size + 1, 4, none⟩ (.slice (some ⟨V2.heap.size, 0, none⟩) c.mn c.mn) := ⟨_, rfl⟩
  have KZ : ∀ b, b ≠ w.heap.size + 1 → b ≠ w.heap.size + 2 → Z.heap[b]? = w3.heap[b]? := fun b h1 h2 => by
    rw [hZ]
    rw [Below.heap_setCell _ _ _ _ h1, Below.heap_setCell _ _ _ _ h1, Below.heap_setCell _ _ _ _ h1, Below.heap_setCell _ _ _ _ h1, Below.heap_setCell _ _ _ _ h1, Below.heap_setCell _ _ _ _ h2]
  have BZ : Below w.heap.size w Z := by
    rw [hZ]
    exact (((((HB.out.setCell (by show w.heap.size ≤ w.heap.size + 2; omega) _).setCell (by show w.heap.size ≤ w.heap.size + 1; omega) _).setCell (by show w.heap.size ≤ w.heap.size + 1; omega) _).setCell (by show w.heap.size ≤ w.heap.size + 1; omega) _).setCell (by show w.heap.size ≤ w.heap.size + 1; omega) _).setCell (by show w.heap.size ≤ w.heap.size + 1; omega) _
  have SZ : Z.heap.size = w3.heap.size := by rw [hZ]; simp
  have hs1 := HS1.out
  have hs2 := HS2.out
  obtain ⟨y1, y2, y3⟩ := HY.out
  refine bodyPost_ret (v := .agg #[.int .i64 c.f, .int .i64 c.s, .slice (some ⟨V.heap.size, 0, none⟩) c.bn c.bn, .slice (some ⟨V1.heap.size, 0, none⟩) c.nn c.nn, .slice (some ⟨V2.heap.size, 0, none⟩) c.mn c.mn]) (by simp [results, Try.results36, go_sem, r0, r1, r2, r3, r4, hw3]) rfl ?_
  rw [← hZ]
  have q1 := A3.out.kept _ Z A3.out.out (fun b h1 h2 => KZ b (by omega) (by omega))
  have q2 := N3.out.kept _ Z N3.out.out (fun b h1 h2 => KZ b (by omega) (by omega))
  have q3 := M3.out.kept _ Z M3.out.out (fun b h1 h2 => KZ b (by omega) (by omega))
  refine ⟨⟨c.f, c.s, some ⟨V.heap.size, 0, none⟩, c.bn, c.bn, c.bs, some ⟨V1.heap.size, 0, none⟩, c.nn, c.nn, ys, some ⟨V2.heap.size, 0, none⟩, c.mn, c.mn, c.ms⟩, rfl, ?_, ⟨⟨H.out.bad.1, y1, H.out.msgs.1⟩, ⟨rfl, rfl, rfl⟩, V.heap.size, V1.heap.size, V2.heap.size, rfl, rfl, rfl, by omega, by omega, by omega, by omega, q1.1, q1.2, q2.1, fun k x e => (q2.2.1 k x e).wide (Nat.le_refl _) (by omega), q2.2.2, q3.1, q3.2⟩, BZ⟩
  simp only [CastI.p, y2]

set_option maxRecDepth 20000 in
set_option maxHeartbeats 1000000 in
theorem eqCast_same (c d : CastI) (w : World) (hle : CastLe 1048576 c) (hsm : d.p = c.p) (h : CastIn w c) (h' : CastIn w d) :
    Calls Try.prog 38 #[.agg #[.int .i64 c.f, .int .i64 c.s, .slice c.ba c.bn c.bc, .slice c.na c.nn c.nc, .slice c.ma c.mn c.mc], .agg #[.int .i64 d.f, .int .i64 d.s, .slice d.ba d.bn d.bc, .slice d.na d.nn d.nc, .slice d.ma d.mn d.mc]] w fun e w' => e = .returned (.bool true) ∧ Below w.heap.size w w' := by
  obtain ⟨d0, d1, da, dn, dc, dz, ea, en, ec, ds, ga, gn, gc, gs⟩ := d
  simp only [CastI.p, CaP.mk.injEq] at hsm
  obtain ⟨rfl, rfl, rfl, e4, rfl⟩ := hsm
  have l1 : dn = c.bn := h'.bad.1.symm.trans h.bad.1
  have l2 : en = c.nn := by
    have q1 := h'.nodes.1
    have q2 := h.nodes.1
    have q3 := ndsP_len e4
    simp only at q1
    omega
  have l3 : gn = c.mn := h'.msgs.1.symm.trans h.msgs.1
  subst l1 l2 l3
  have HP : Hid (ndsP ds = ndsP c.ns) := e4
  have HLE : Hid (CastLe 1048576 c) := hle
  have H : Hid (CastIn w c) := h
  have H' : Hid (IntIn w da c.bn c.bs ∧ NdsIn w ea c.nn ds ∧ MsIn w ga c.mn c.ms) := ⟨h'.bad, h'.nodes, h'.msgs⟩
  clear h h' hle e4
  obtain ⟨W, hW⟩ : ∃ W, W = (w.alloc (.cells #[.int .i64 c.f, .int .i64 c.s, .slice c.ba c.bn c.bc, .slice c.na c.nn c.nc, .slice c.ma c.mn c.mc] 28)).alloc (.cells #[.int .i64 c.f, .int .i64 c.s, .slice da c.bn dc, .slice ea c.nn ec, .slice ga c.mn gc] 28) := ⟨_, rfl⟩
  have hs : W.heap.size = w.heap.size + 2 := by rw [hW]; simp
  have B0 : Below w.heap.size w W := by rw [hW]; exact ((Below.refl _ _).alloc (Nat.le_refl _) _).alloc (by simp) _
  have XA : Hid (BoxV w.heap.size [.int .i64 c.f, .int .i64 c.s, .slice c.ba c.bn c.bc, .slice c.na c.nn c.nc, .slice c.ma c.mn c.mc] W ∧ BoxV (w.heap.size + 1) [.int .i64 c.f, .int .i64 c.s, .slice da c.bn dc, .slice ea c.nn ec, .slice ga c.mn gc] W) := by
    rw [hW]
    refine ⟨((boxV_new w #[.int .i64 c.f, .int .i64 c.s, .slice c.ba c.bn c.bc, .slice c.na c.nn c.nc, .slice c.ma c.mn c.mc] 28).alloc _).out, ?_⟩
    have q := (boxV_new (w.alloc (.cells #[.int .i64 c.f, .int .i64 c.s, .slice c.ba c.bn c.bc, .slice c.na c.nn c.nc, .slice c.ma c.mn c.mc] 28)) #[.int .i64 c.f, .int .i64 c.s, .slice da c.bn dc, .slice ea c.nn ec, .slice ga c.mn gc] 28).out
    simp only [World.size_alloc] at q
    exact q
  have KX : ∀ w2 : World, Below W.heap.size W w2 → BoxV w.heap.size [.int .i64 c.f, .int .i64 c.s, .slice c.ba c.bn c.bc, .slice c.na c.nn c.nc, .slice c.ma c.mn c.mc] w2 ∧ BoxV (w.heap.size + 1) [.int .i64 c.f, .int .i64 c.s, .slice da c.bn dc, .slice ea c.nn ec, .slice ga c.mn gc] w2 := fun w2 hb => ⟨((BoxV.hold XA.out.1 (by omega)).below hb).out, ((BoxV.hold XA.out.2 (by omega)).below hb).out⟩
  have HK : Hid (∀ w2 : World, Below W.heap.size W w2 → BoxV w.heap.size [.int .i64 c.f, .int .i64 c.s, .slice c.ba c.bn c.bc, .slice c.na c.nn c.nc, .slice c.ma c.mn c.mc] w2 ∧ BoxV (w.heap.size + 1) [.int .i64 c.f, .int .i64 c.s, .slice da c.bn dc, .slice ea c.nn ec, .slice ga c.mn gc] w2) := KX
  clear KX XA
  go_enter Try.func38, Try.ntmps38
  go_wp2_with fail
  rw [← hW]
  clear hW
  refine (eqIntsS_same c.ba da c.bn c.bc dc c.bs W HLE.out.bad (H.out.bad.below B0) (H'.out.1.below B0)).mono ?_
  rintro e w1 ⟨rfl, hb1⟩
  have hz1 := hb1.size
  obtain ⟨p1, p2⟩ := HK.out w1 hb1
  have p3 := p1 3 _ rfl
  have r3 := p2 3 _ rfl
  have B1 : Hid (Below w.heap.size w w1) := B0.trans (hb1.mono (by omega))
  have BW1 := hidP hb1
  have hw1 : w.heap.size + 1 < w1.heap.size := by omega
  have hw0 : w.heap.size < w1.heap.size := by omega
  clear hb1 B0 p1 p2 hs hz1
  go_wp2_with fail
  refine (eqNodes_same c.na ea c.nn c.nc ec c.ns ds w1 HLE.out.nodes HLE.out.heard HP.out (H.out.nodes.below B1.out) (H'.out.2.1.below B1.out)).mono ?_
  rintro e w2 ⟨rfl, hb2⟩
  have hz2 := hb2.size
  obtain ⟨p1, p2⟩ := HK.out w2 (BW1.out.trans (hb2.mono BW1.out.size))
  have q4 := p1 4 _ rfl
  have s4 := p2 4 _ rfl
  have B2 : Hid (Below w.heap.size w w2) := B1.out.trans (hb2.mono B1.out.size)
  have hw2 : w.heap.size + 1 < w2.heap.size := by omega
  have hw02 : w.heap.size < w2.heap.size := by omega
  clear hb2 p1 p2 p3 r3 hz2
  go_wp2_with fail
  refine (eqMsgs_same c.ma ga c.mn c.mc gc c.ms w2 HLE.out.msgs (H.out.msgs.below B2.out) (H'.out.2.2.below B2.out)).mono ?_
  rintro e w3 ⟨rfl, hb3⟩
  have B3 : Below w.heap.size w w3 := B2.out.trans (hb3.mono B2.out.size)
  clear hb3 q4 s4
  go_wp2
  go_ret
  exact ⟨rfl, B3⟩

end Go.Proofs.Ytbebhiglnfmjcaa
