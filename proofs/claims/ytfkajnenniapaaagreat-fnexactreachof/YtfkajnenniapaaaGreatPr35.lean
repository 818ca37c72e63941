/- Contracts. -/
import Derived.Test.YtfkajnenniapaaaGreatPr27
import Derived.Test.YtfkajnenniapaaaGreatPr31
import Derived.Test.YtfkajnenniapaaaGreatPr32
import Derived.Test.YtfkajnenniapaaaGreatPr33
import Derived.Test.YtfkajnenniapaaaGreatPr34
import Derived.Deep.DeepCutAuto
import Derived.Deep.CutBlock
import Derived.ArgAppend
namespace Go.Proofs.YtfkajnenniapaaaGreat
set_option maxRecDepth 100000
set_option maxHeartbeats 8000000
open Go.RowKit
set_option linter.unusedVariables false
set_option linter.unusedSimpArgs false

section
open Go.RowKit Go.Maps
attribute [local go_sem] fldN0 fldN1
attribute [local go_sem ↓] st_eql
theorem SM.cong {w : World} {b N : Nat} {p q : Int → Bool} (h : SM w b N p) (e : ∀ i, p i = q i) : SM w b N q := by
 have : p = q := funext e
 rw [← this]; exact h
theorem SM.le {w : World} {b N M : Nat} {p : Int → Bool} (h : SM w b N p) (hN : N ≤ M) : SM w b M p := by
 obtain ⟨D, n, h1, h2⟩ := h
 exact ⟨D, n, by omega, h2⟩
end

section
open Go.RowKit Go.Maps
theorem newsI_take {w w' : World} {Bd g j : Nat} {ys : List Int} (h : ∀ q y, ys[q]? = some y → w.cell? ⟨g, q, none⟩ = some (.int .i64 y)) (hg : g < Bd) (hb : Below Bd w w') : ∀ q u, ((ys.take j).map (Value.int .i64))[q]? = some u → w'.cell? ((⟨g, 0, none⟩ : Addr).add q) = some u := by
 intro q u hq
 rw [List.getElem?_map] at hq
 obtain ⟨y, hy, rfl⟩ := Option.map_eq_some_iff.1 hq
 rw [List.getElem?_take] at hy
 split at hy
 ·rw [Go.WideShapes.add_plain, Nat.zero_add, hb.cell (p := ⟨g, q, none⟩) hg]; exact h q y hy
 ·cases hy
theorem newsI_drop {w w' : World} {Bd g j : Nat} {ys : List Int} (h : ∀ q y, ys[q]? = some y → w.cell? ⟨g, q, none⟩ = some (.int .i64 y)) (hg : g < Bd) (hb : Below Bd w w') : ∀ q u, ((ys.drop j).map (Value.int .i64))[q]? = some u → w'.cell? ((⟨g, j, none⟩ : Addr).add q) = some u := by
 intro q u hq
 rw [List.getElem?_map] at hq
 obtain ⟨y, hy, rfl⟩ := Option.map_eq_some_iff.1 hq
 rw [List.getElem?_drop] at hy
 rw [Go.WideShapes.add_plain, hb.cell (p := ⟨g, j + q, none⟩) hg]; exact h (j + q) y hy
theorem ownsI_shape {w : World} {b : Nat} {v : Value} {n : Nat} {xs : List Value} (h : w.ownsRow b 2 1 v n xs) (hv : v ≠ .slice none 0 0) : ∃ g cap, v = .slice (some ⟨g, 0, none⟩) n cap := by
 rcases h.2 with ⟨h', _⟩ | ⟨g, cap, cur, h', _⟩
 ·exact absurd h' hv
 ·exact ⟨g, cap, h'⟩
theorem ownI_cells {w : World} {B g m cap : Nat} {ys : List Int} (h : OwnI w B (.slice (some ⟨g, 0, none⟩) m cap) ys) (hm : ys.length = m) : ∀ q y, ys[q]? = some y → w.cell? ⟨g, q, none⟩ = some (.int .i64 y) := fun q y e => by
 subst hm
 have hq : q < ys.length := by
  by_cases c : q < ys.length
  ·exact c
  ·rw [List.getElem?_eq_none (by omega)] at e; cases e
 have h0 : w.ownsRow B 2 1 (.slice (some ⟨g, 0, none⟩) ys.length cap) ys.length (ys.map (Value.int .i64)) := h
 have := h0.cellAt q (show q < ys.length * 1 by omega)
 rw [this, List.getElem?_map, e]; rfl
theorem ownI_parts {w : World} {B g m cap : Nat} {ys : List Int} (h : OwnI w B (.slice (some ⟨g, 0, none⟩) m cap) ys) : B ≤ g ∧ g < w.heap.size ∧ ys.length = m ∧ m ≤ cap ∧ cap ≤ maxLen := by
 have h0 : w.ownsRow B 2 1 (.slice (some ⟨g, 0, none⟩) m cap) ys.length (ys.map (Value.int .i64)) := h
 have hl := h0.lt g rfl
 rcases h0.2 with ⟨h1, _⟩ | ⟨g', cap', cur, h1, _, _, h3, h4, _⟩
 ·simp at h1
 ·simp at h1; exact ⟨hl.1, hl.2, by omega, by omega, by omega⟩
theorem ownI_below {w w' : World} {B : Nat} {v : Value} {ys : List Int} (h : OwnI w B v ys) (hb : Below w.heap.size w w') : OwnI w' B v ys := ((owns_hold0 h).below hb).out
theorem kpQ {B : Nat} {w w' : World} (hb : Below B w w') : (∀ b o, b < B → w'.cell? ⟨b, o, none⟩ = w.cell? ⟨b, o, none⟩) ∧ Below B w w' :=
 ⟨fun b o h => hb.cell (p := ⟨b, o, none⟩) h, hb⟩
theorem step_appendI {P : Program} {w : World} {ops : Array Oper} {o : Oper} {a : Act} {K : Act → World → Prop} {Q : Exit → Act → World → Prop} {E : Prop} (hgd : o.guard = none) (s x : Operand) (t : TypeId)
  (ho : o.op = .call { callee := .builtin .append, args := #[s, x], argTypes := #[t, t] })
  (base : Nat) (e : TypeId) (i : TypeInfo) (z : Value) (size bytes : Nat) (ht : P.underlying t = some (.slice e)) (hi : P.info? e = some i) (hz : i.zero = some z)
  (hsize : i.size = size) (hby : i.bytes = bytes) (hzs : z.cells.size = size) (hsz : 0 < size)
  (v : Value) (n : Nat) (xs : List Value) (hs : a.eval s = v) (hown : w.ownsRow base e size v n xs)
  (ad : Addr) (m c : Nat) (news : List Value) (hx : a.eval x = .slice (some ad) m c) (hl : news.length = m * size) (hnews : ∀ j u, news[j]? = some u → w.cell? (ad.add j) = some u) (h1 : ∀ u ∈ news, u.oneCell' = true)
  (h63 : n + m ≤ maxLen) (hbytes : (n + m) * bytes ≤ 140737488355328) (hbase : base ≤ w.heap.size)
  (h : ∀ v' w', w'.ownsRow base e size v' (n + m) (xs ++ news) → w.grownBy w' v.ownBlock → (v' = .slice none 0 0 ↔ v = .slice none 0 0 ∧ m = 0) → K (a.put o.dst v') w') :
  if Region.wanted o (yielded ops a.tmps) = true then Oper.wp P o a w K Q else E := by
 have hw : Region.wanted o (yielded ops a.tmps) = true := by simp [Region.wanted, hgd]
 rw [if_pos hw]
 exact wp_append_own w s x t ho base e i z size bytes ht hi hz hsize hby hzs hsz v n xs hs hown ad m c news hx hl hnews h1 h63 hbytes hbase h
theorem l9Signers_c (a : Option Addr) (n cap : Nat) (zs : List ShI) (x : StI) (w : World) (hn : n ≤ 1000) (h : ShIn w a n zs) :
  Calls Tryz.prog 84 #[.slice a n cap, .agg #[.int .i64 x.k, .int .i64 x.e, .int .i64 x.f, .int .i64 x.s, .int .i64 x.n]] w fun e w' => ∃ (g c : Nat), e = .returned (.slice (some ⟨g, 0, none⟩) (sgL zs x).length c) ∧ OwnI w' w.heap.size (.slice (some ⟨g, 0, none⟩) (sgL zs x).length c) (sgL zs x) ∧ Below w.heap.size w w' := by
 have HZ : Hid (zs.length = n) := h.1
 have hn' : (n : Int) ≤ 1000 := by omega
 obtain ⟨i0, hi, hz0, hz1, hz2⟩ := info_parts Tryz.infoI2
 obtain ⟨V, hV⟩ : ∃ V, V = w.alloc (.cells #[.int .i64 x.k, .int .i64 x.e, .int .i64 x.f, .int .i64 x.s, .int .i64 x.n] 54) := ⟨_, rfl⟩
 have BV : Below w.heap.size w V := by rw [hV]; exact zN
 have HX : Hid (StAt V w.heap.size 0 x) := by rw [hV]; exact StAt.new w x _
 have hwV : w.heap.size < V.heap.size := by rw [hV]; simp
 have HBV : Hid (Below w.heap.size w V) := BV
 have HS : Hid (ShIn V a n zs) := h.below BV
 obtain ⟨W, hW⟩ : ∃ W, W = V.alloc (.cells #[] 2) := ⟨_, rfl⟩
 have OW : Hid (OwnI W V.heap.size (.slice (some ⟨V.heap.size, 0, none⟩) 0 0) []) := by rw [hW]; exact World.ownsRow_lit (base := V.heap.size) (e := 2) (size := 1) V #[] 0 (Nat.le_refl _) (Nat.zero_le _) rfl
 have BW : Hid (Below V.heap.size V W) := by rw [hW]; exact zN
 have HE : Hid (W = (w.alloc (.cells #[.int .i64 x.k, .int .i64 x.e, .int .i64 x.f, .int .i64 x.s, .int .i64 x.n] 54)).alloc (.cells #[] 2) ∧ V.heap.size = w.heap.size + 1) := ⟨by rw [hW, hV], by rw [hV]; simp⟩
 clear h BV hV hW
 go_enter Tryz.func84, Tryz.ntmps84
 go_wp2
 rw [← HE.out.1, ← HE.out.2]
 go_loopw [5, 6] (fun v i wr => ∃ (k g c : Nat), k ≤ n ∧ i = .int .i64 (k : Int) ∧ v = .slice (some ⟨g, 0, none⟩) (sgTo zs x k).length c ∧ OwnI wr V.heap.size (.slice (some ⟨g, 0, none⟩) (sgTo zs x k).length c) (sgTo zs x k) ∧ Below V.heap.size V wr) (fun _ i _ => n - (intOf i).toNat)
 case atStart => exact ⟨0, V.heap.size, 0, Nat.zero_le _, rfl, rfl, OW.out, BW.out⟩
 case round =>
  obtain ⟨k, g, cap1, hk, rfl, rfl, hown, hvx⟩ := hrel
  obtain ⟨ys, hys⟩ : ∃ ys, sgTo zs x k = ys := ⟨_, rfl⟩
  have HYS : Hid (sgTo zs x k = ys) := hys
  rw [hys] at hown ⊢
  obtain ⟨m, hm⟩ : ∃ m, ys.length = m := ⟨_, rfl⟩
  have HM : Hid (ys.length = m) := hm
  rw [hm] at hown ⊢
  have hmk : m ≤ 1000 := by have := sgTo_len zs x k; rw [hys, hm] at this; omega
  have hmk' : (m : Int) ≤ 1000 := by omega
  obtain ⟨p1, p2, p3, p4, p5⟩ := ownI_parts hown
  have HCP : Hid (m ≤ cap1 ∧ cap1 ≤ maxLen) := ⟨p4, p5⟩
  by_cases hlt : k < n
  ·obtain ⟨b, off, z, rfl, hz, hza, hbl⟩ := HS.out.at hlt
   have hlt' : (k : Int) < (n : Int) := by omega
   have hk0 : (0 : Int) ≤ (k : Int) := by omega
   obtain ⟨U, hU⟩ : ∃ U, U = wr := ⟨_, rfl⟩
   rw [← hU] at hown hvx p2 ⊢
   clear hU
   have HO : Hid (OwnI U V.heap.size (.slice (some ⟨g, 0, none⟩) m cap1) ys) := hown
   have HR : Hid (∀ q y, ys[q]? = some y → U.cell? ⟨g, q, none⟩ = some (.int .i64 y)) := ownI_cells hown hm
   have hgU : g < U.heap.size := p2
   have BVU : Hid (Below V.heap.size V U) := hvx
   have BU : Hid (Below V.heap.size V U) := hvx
   have hblU : b < U.heap.size := Nat.lt_of_lt_of_le hbl hvx.size
   have HZA : Hid (ShAt V b (off + k * 6) z) := hza
   obtain ⟨d0, d1, d2, d3, d4, d5⟩ := hza.below hvx hbl
   obtain ⟨x0, x1, x2, x3, x4⟩ := HX.out.below hvx hwV
   simp only [Nat.zero_add] at x0 x1 x2 x3 x4
   have hwU : w.heap.size < U.heap.size := Nat.lt_of_lt_of_le hwV hvx.size
   cases hsame : sameSt z.st x
   ·have hse : ∀ w : World, (binOp .neq 54 (.agg #[.int .i64 z.k, .int .i64 z.e, .int .i64 z.f, .int .i64 z.s, .int .i64 z.n]) (.agg #[.int .i64 x.k, .int .i64 x.e, .int .i64 x.f, .int .i64 x.s, .int .i64 x.n])).run Tryz.prog w = .ok (.bool true) w := fun w => by have := st_neq z.st x w; rw [hsame] at this; exact this
    have HN : Hid (sgTo zs x (k + 1) = ys) := by show _ = _; rw [sgTo_miss hz hsame]; exact HYS.out
    clear hz hza hown hys hm hsame p1 p2 p3 p4 p5
    go_wp2
    go_quiet (fail)
    have HEND : Hid (∀ q, OwnI (U.drewN q) V.heap.size (.slice (some ⟨g, 0, none⟩) m cap1) ys ∧ Below V.heap.size V (U.drewN q)) := fun q => ⟨ownI_below HO.out (below_drewN (Below.refl _ _) _), below_drewN BVU.out _⟩
    go_wp2
    exact ⟨⟨k + 1, g, cap1, by omega, by go_num, by rw [HN.out, HM.out], by rw [HN.out, HM.out]; exact (HEND.out _).1, (HEND.out _).2⟩, by simp [intOf]; omega⟩
   ·have hse : ∀ w : World, (binOp .neq 54 (.agg #[.int .i64 z.k, .int .i64 z.e, .int .i64 z.f, .int .i64 z.s, .int .i64 z.n]) (.agg #[.int .i64 x.k, .int .i64 x.e, .int .i64 x.f, .int .i64 x.s, .int .i64 x.n])).run Tryz.prog w = .ok (.bool false) w := fun w => by have := st_neq z.st x w; rw [hsame] at this; exact this
    have HN : Hid (sgTo zs x (k + 1) = insR z.r ys) := by show _ = _; rw [sgTo_hit hz hsame, HYS.out]
    clear hz hza hown hys hm hsame p1 p2 p3 p4 p5
    obtain ⟨K, hK⟩ : ∃ K, atI z.r ys = K := ⟨_, rfl⟩
    have HK : Hid (K ≤ ys.length ∧ (∀ j y, j < K → ys[j]? = some y → y < z.r) ∧ ∀ y, ys[K]? = some y → ¬ y < z.r) := ⟨hK ▸ atI_le _ _, hK ▸ atI_lt _ _, hK ▸ atI_stop _ _⟩
    by_cases hf : ys[K]? = some z.r
    ·have HAT : Hid (ys[K]? = some z.r) := hf
     have HNX : Hid (sgTo zs x (k + 1) = ys) := by show _ = _; rw [HN.out]; exact insR_there _ _ (by rw [hK]; exact hf)
     have hKm : K < m := by
      have hq : K < ys.length := by
       by_cases q : K < ys.length
       ·exact q
       ·rw [List.getElem?_eq_none (by omega)] at hf; cases hf
      have := HM.out; omega
     clear hf hK
     go_wp2
     go_quiet (fail)
     go_wp2
     go_loopw [7] (fun i wr => ∃ j : Nat, j ≤ K ∧ i = .int .i64 (j : Int) ∧ Below U.heap.size U wr) (fun i _ => K - (intOf i).toNat)
     case atStart => exact ⟨0, Nat.zero_le _, rfl, below_drewN (Below.refl _ _) _⟩
     case round =>
      obtain ⟨j, hj, rfl, hjx⟩ := hrel
      obtain ⟨d0, d1, d2, d3, d4, d5⟩ := (HZA.out.below BU.out hbl).below hjx hblU
      by_cases hjK : j < K
      ·obtain ⟨y, hy⟩ : ∃ y, ys[j]? = some y := ⟨_, List.getElem?_eq_getElem (by have := HK.out.1; omega)⟩
       have hyr : y < z.r := HK.out.2.1 j y hjK hy
       have e0 := (hjx.cell (p := ⟨g, j, none⟩) hgU).trans (HR.out j y hy)
       have hjm : (j : Int) < (m : Int) := by have := HK.out.1; have := HM.out; omega
       have hj0 : (0 : Int) ≤ (j : Int) := by omega
       have b1 : decide ((j : Int) < (m : Int)) = true := by simp; omega
       have b2 : decide (y < z.r) = true := by simp [hyr]
       clear hy
       go_wp2
       go_quiet (fail)
       go_wp2
       exact ⟨⟨j + 1, by omega, by go_num, below_drewN hjx _⟩, by simp [intOf]; omega⟩
      ·have hjj : j = K := by omega
       subst hjj
       have hj0 : (0 : Int) ≤ (j : Int) := by omega
       have hjm : (j : Int) < (m : Int) := by omega
       have b1 : decide ((j : Int) < (m : Int)) = true := by simp; omega
       have b2 : decide (z.r < z.r) = false := by simp
       have b3 : (z.r == z.r) = true := by simp
       have e0 := (hjx.cell (p := ⟨g, j, none⟩) hgU).trans (HR.out j z.r HAT.out)
       go_wp2
       go_quiet (fail)
       go_wp2
       go_quiet (fail)
       have HEND : Hid (∀ q, OwnI (wr.drewN q) V.heap.size (.slice (some ⟨g, 0, none⟩) m cap1) ys ∧ Below V.heap.size V (wr.drewN q)) := fun q => ⟨ownI_below HO.out (below_drewN hjx _), BVU.out.trans ((below_drewN hjx _).mono BVU.out.size)⟩
       go_wp2
       exact ⟨⟨k + 1, g, cap1, by omega, by go_num, by rw [HNX.out, HM.out], by rw [HNX.out, HM.out]; exact (HEND.out _).1, (HEND.out _).2⟩, by simp [intOf]; omega⟩
    ·have HNX : Hid (sgTo zs x (k + 1) = ys.take K ++ [z.r] ++ ys.drop K) := by
      show _ = _
      rw [HN.out]
      have := insR_new z.r ys (by rw [hK]; exact hf)
      rw [hK] at this
      exact this
     by_cases hKm : K = m
     ·have hKm1 : m ≤ K := by omega
      have hKm2 : K ≤ m := by omega
      clear hf hK hKm
      go_wp2
      go_quiet (fail)
      go_wp2
      go_loopw [7] (fun i wr => ∃ j : Nat, j ≤ K ∧ i = .int .i64 (j : Int) ∧ Below U.heap.size U wr) (fun i _ => K - (intOf i).toNat)
      case atStart => exact ⟨0, Nat.zero_le _, rfl, below_drewN (Below.refl _ _) _⟩
      case round =>
       obtain ⟨j, hj, rfl, hjx⟩ := hrel
       obtain ⟨d0, d1, d2, d3, d4, d5⟩ := (HZA.out.below BU.out hbl).below hjx hblU
       by_cases hjK : j < K
       ·obtain ⟨y, hy⟩ : ∃ y, ys[j]? = some y := ⟨_, List.getElem?_eq_getElem (by have := HK.out.1; omega)⟩
        have hyr : y < z.r := HK.out.2.1 j y hjK hy
        have e0 := (hjx.cell (p := ⟨g, j, none⟩) hgU).trans (HR.out j y hy)
        have hjm : (j : Int) < (m : Int) := by have := HK.out.1; have := HM.out; omega
        have hj0 : (0 : Int) ≤ (j : Int) := by omega
        have b1 : decide ((j : Int) < (m : Int)) = true := by simp; omega
        have b2 : decide (y < z.r) = true := by simp [hyr]
        clear hy
        go_wp2
        go_quiet (fail)
        go_wp2
        exact ⟨⟨j + 1, by omega, by go_num, below_drewN hjx _⟩, by simp [intOf]; omega⟩
       ·have hjj : j = K := by omega
        subst hjj
        have hjm : j = m := by omega
        subst hjm
        have b1 : decide ((j : Int) < (j : Int)) = false := by simp
        go_wp2
        go_quiet (fail)
        obtain ⟨nq1, rfl⟩ : ∃ q, q = nq := ⟨_, rfl⟩
        go_wp2
        go_quiet (fail)
        have hbj := hjx
        obtain ⟨w5, hw5⟩ : ∃ w5, w5 = (wr.drewN nq1).drewN nq := ⟨_, rfl⟩
        rw [← hw5]
        have BV5 : Hid (Below V.heap.size V w5) := by rw [hw5]; exact BVU.out.trans ((below_drewN (below_drewN hjx _) _).mono BVU.out.size)
        have BU5 : Below U.heap.size U w5 := by rw [hw5]; exact below_drewN (below_drewN hjx _) _
        obtain ⟨c0, _, _, _, _, _⟩ := (HZA.out.below BU.out hbl).below BU5 hblU
        have HR5 : Hid (∀ q y, ys[q]? = some y → w5.cell? ⟨g, q, none⟩ = some (.int .i64 y)) := fun q y e => (BU5.cell (p := ⟨g, q, none⟩) hgU).trans (HR.out q y e)
        have hg5 : g < w5.heap.size := Nat.lt_of_lt_of_le hgU BU5.size
        have hb5 : b < w5.heap.size := Nat.lt_of_lt_of_le hblU BU5.size
        clear hw5 hbj d0 d1 d2 d3 d4 d5
        have H5 : Hid ((w5.alloc (.cells #[] 2)).ownsRow w5.heap.size 2 1 (.slice (some ⟨w5.heap.size, 0, none⟩) 0 0) 0 []) := World.ownsRow_lit (base := w5.heap.size) (e := 2) (size := 1) w5 #[] 0 (Nat.le_refl _) (Nat.zero_le _) rfl
        have hkc : (j : Int) ≤ (cap1 : Int) := by have := HCP.out; omega
        have hkm : (j : Int) ≤ (j : Int) := by omega
        have hj0' : (0 : Int) ≤ (j : Int) := by omega
        go_wp2_with (first
         | (at_builtin; refine wpList_append_own _ rfl _ _ 26 rfl w5.heap.size 2 i0 (.int .i64 0) 1 8 Tryz.underlying26 hi hz0 hz1 hz2 rfl (by decide) (.slice (some ⟨w5.heap.size, 0, none⟩) 0 0) 0 [] rfl H5.out ⟨g, 0, none⟩ j cap1 ((ys.take j).map (Value.int .i64)) rfl (by rw [List.length_map, List.length_take, HM.out]; omega) (newsI_take HR5.out hg5 (zN)) (fun u hu => by obtain ⟨q, _, rfl⟩ := List.mem_map.1 hu; rfl) (by unfold maxLen; omega) (by omega) (by simp) ?_))
        intro v6 w6 hown6 hgrow6 hnil6
        obtain ⟨g6, cap6, hv6⟩ := ownsI_shape hown6 hnil6
        (try simp only [Nat.zero_add] at hv6)
        subst hv6
        have H6 : Hid (w6.ownsRow w5.heap.size 2 1 (.slice (some ⟨g6, 0, none⟩) j cap6) j ((ys.take j).map (Value.int .i64))) := by
         show w6.ownsRow w5.heap.size 2 1 _ j _
         rw [List.map_take]
         have h0 := hown6
         (try simp only [Nat.zero_add, List.nil_append, List.map_take] at h0)
         exact h0
        have BW6 : Hid (Below w5.heap.size w5 w6) := ((Below.refl w5.heap.size w5).alloc (Nat.le_refl _) _).grown hgrow6 (by simp) (fun q e => by simp [Value.ownBlock] at e; omega)
        have hz6 : w5.heap.size + 1 ≤ w6.heap.size := by have := hgrow6.size; simp at this; omega
        have s0 : w6.cell? ⟨b, off + k * 6, none⟩ = some (.int .i64 z.r) := (BW6.out.cell (p := ⟨b, off + k * 6, none⟩) hb5).trans c0
        clear hown6 hgrow6 hnil6 H5 c0
        go_wp2_with fail
        refine wp_region_held_drew (S := fun w' => (∀ b o, b < w5.heap.size → w'.cell? ⟨b, o, none⟩ = w6.cell? ⟨b, o, none⟩) ∧ Below w5.heap.size w6 w') (by kernel_rfl) (kpQ ⟨rfl, rfl, rfl, Nat.le_refl _, fun _ _ => rfl⟩) (fun hHeld => ?_)
        refine Zk.go [0, 1, 2, 3, 4, 5, 8, 9, 10] ?_
        iterate 9
         refine Zk.st (v := ?_) rfl ?_ ?_
         rotate_left 1
         ·intro w hSw; (try dsimp only at hSw); go_simp; try (with_reducible rfl)
         try simp only [Act.put, zA, zB, zC, zD, zE, zF]
        refine Zk.fin ?_
        refine Zk.rd (i := 6) rfl (fun K hK => ?_)
        go_simp
        have hS := kpQ (hHeld.2.alloc (by show w5.heap.size ≤ w6.heap.size; omega) (.cells #[.int .i64 z.r] 2))
        refine hK.out _ _ hS (fun hHeld => ?_)
        clear hK K
        try simp only [Act.put, zA, zB, zC, zD, zE, zF]
        refine wpAnyH_ready (rs := [7]) (by kernel_rfl) (by simp) ?_
        refine AllReadyH.cons rfl (fun K hK => ?_) AllReadyH.nil
        refine step_appendI rfl (.tmp 62) (.tmp 68) 26 rfl w5.heap.size 2 i0 (.int .i64 0) 1 8 Tryz.underlying26 hi hz0 hz1 hz2 rfl (by decide) (.slice (some ⟨g6, 0, none⟩) j cap6) j ((ys.take j).map (Value.int .i64)) (by rfl) (H6.out.alloc _) ⟨w6.heap.size, 0, none⟩ 1 1 [.int .i64 z.r] (by rfl) (by rfl) (fun q u hq => by match q, hq with | 0, hq => simp at hq; subst hq; simp [Addr.add]) (fun u hu => by simp at hu; subst hu; rfl) (by unfold maxLen; omega) (by omega) (by show w5.heap.size ≤ (w6.alloc _).heap.size; simp; omega) ?_
        intro v7 w7 hown7 hgrow7 hnil7
        have hS := kpQ (hHeld.2.grown hgrow7 (by show w5.heap.size ≤ (w6.alloc _).heap.size; simp; omega) (fun q e => by have := (H6.out.lt q e).1; omega))
        have H7 : Hid (w7.ownsRow w5.heap.size 2 1 v7 (j + 1) ((ys.take j).map (Value.int .i64) ++ [.int .i64 z.r])) := hown7
        have N7 : Hid (v7 ≠ .slice none 0 0) := fun e => by have := (hnil7.1 e).1; simp at this
        clear hown7 hnil7 hgrow7
        refine hK.out _ _ hS (fun hHeld => ?_)
        clear hK K
        try simp only [Act.put, zA, zB, zC, zD, zE, zF]
        refine wpAnyH_ready (rs := [11]) (by kernel_rfl) (by simp) ?_
        refine AllReadyH.cons rfl (fun K hK => ?_) AllReadyH.nil
        have hsl : (if cap1 = j then (some ⟨g, 0, none⟩ : Option Addr) else some ⟨g, j, none⟩) = some (if cap1 = j then ⟨g, 0, none⟩ else ⟨g, j, none⟩) := by split <;> rfl
        have hnw : ∀ q u, ((ys.drop j).map (Value.int .i64))[q]? = some u → w7.cell? ((if cap1 = j then (⟨g, 0, none⟩ : Addr) else ⟨g, j, none⟩).add q) = some u := by
         by_cases hck : cap1 = j
         ·intro q u hq; rw [List.drop_of_length_le (by rw [HM.out]; have := HCP.out.1; omega)] at hq; simp at hq
         ·rw [if_neg hck]; exact newsI_drop HR5.out hg5 (BW6.out.trans (hHeld.2.mono (by omega)))
        refine step_appendI rfl (.tmp 69) (.tmp 72) 26 rfl w5.heap.size 2 i0 (.int .i64 0) 1 8 Tryz.underlying26 hi hz0 hz1 hz2 rfl (by decide) v7 (j + 1) ((ys.take j).map (Value.int .i64) ++ [.int .i64 z.r]) (by rfl) H7.out _ 0 (cap1 - j) ((ys.drop j).map (Value.int .i64)) (by rw [← hsl]; rfl) (by rw [List.length_map, List.length_drop, HM.out]; omega) hnw (fun u hu => by obtain ⟨q, _, rfl⟩ := List.mem_map.1 hu; rfl) (by unfold maxLen; omega) (by omega) (by have h1 := hHeld.2.size; omega) ?_
        intro v8 w8 hown8 hgrow8 hnil8
        have hS := kpQ (hHeld.2.grown hgrow8 (by have h1 := hHeld.2.size; omega) (fun q e => by have := (H7.out.lt q e).1; omega))
        have H8 : Hid (w8.ownsRow w5.heap.size 2 1 v8 (j + 1 + 0) ((ys.take j).map (Value.int .i64) ++ [.int .i64 z.r] ++ (ys.drop j).map (Value.int .i64))) := hown8
        have N8 : Hid (v8 ≠ .slice none 0 0) := fun e => N7.out (hnil8.1 e).1
        clear hown8 hnil8 hgrow8
        refine hK.out _ _ hS (fun hHeld => ?_)
        clear hK K
        try simp only [Act.put, zA, zB, zC, zD, zE, zF]
        refine Zk.rd (i := 12) rfl (fun K hK => ?_)
        go_simp
        refine hK.out _ _ (by assumption) (fun hHeld => ?_)
        clear hK K
        try simp only [Act.put, zA, zB, zC, zD, zE, zF]
        refine wpAnyH_done (by kernel_rfl) ?_ _
        obtain ⟨g8, cap8, hv8⟩ := ownsI_shape H8.out N8.out
        subst hv8
        have BF : Hid (Below V.heap.size V w8) := (BV5.out.trans (BW6.out.mono BV5.out.size)).trans (hHeld.2.mono (by have := BV5.out.size; omega))
        have E3 : Hid (j + 1 + 0 = (sgTo zs x (k + 1)).length) := by show j + 1 + 0 = _; rw [HNX.out]; have := HM.out; simp; omega
        have HF : Hid (OwnI w8 V.heap.size (.slice (some ⟨g8, 0, none⟩) (j + 1 + 0) cap8) (sgTo zs x (k + 1))) := by
         have h8 := H8.out
         refine owns_lowI (B := w5.heap.size) ?_ (BV5.out.size)
         show World.ownsRow _ w5.heap.size 2 1 _ (sgTo zs x (k + 1)).length ((sgTo zs x (k + 1)).map (Value.int .i64))
         rw [← E3.out, HNX.out, List.map_append, List.map_append]
         exact h8
        clear hsl hnw H8 N8 H7 N7 hHeld
        go_wp2_with fail
        exact ⟨⟨k + 1, g8, cap8, by omega, by go_num, by rw [← E3.out], by rw [← E3.out]; exact HF.out, BF.out⟩, by simp [intOf]; omega⟩
     ·have hKl : K < m := by have := HK.out.1; have := HM.out; omega
      have HAT : Hid (∃ y, ys[K]? = some y ∧ ¬ y < z.r ∧ y ≠ z.r) := by
       obtain ⟨y, hy⟩ : ∃ y, ys[K]? = some y := ⟨_, List.getElem?_eq_getElem (by have := HM.out; omega)⟩
       exact ⟨y, hy, HK.out.2.2 y hy, fun e => hf (by rw [← e]; exact hy)⟩
      clear hf hK hKm
      go_wp2
      go_quiet (fail)
      go_wp2
      go_loopw [7] (fun i wr => ∃ j : Nat, j ≤ K ∧ i = .int .i64 (j : Int) ∧ Below U.heap.size U wr) (fun i _ => K - (intOf i).toNat)
      case atStart => exact ⟨0, Nat.zero_le _, rfl, below_drewN (Below.refl _ _) _⟩
      case round =>
       obtain ⟨j, hj, rfl, hjx⟩ := hrel
       obtain ⟨d0, d1, d2, d3, d4, d5⟩ := (HZA.out.below BU.out hbl).below hjx hblU
       by_cases hjK : j < K
       ·obtain ⟨y, hy⟩ : ∃ y, ys[j]? = some y := ⟨_, List.getElem?_eq_getElem (by have := HK.out.1; omega)⟩
        have hyr : y < z.r := HK.out.2.1 j y hjK hy
        have e0 := (hjx.cell (p := ⟨g, j, none⟩) hgU).trans (HR.out j y hy)
        have hjm : (j : Int) < (m : Int) := by have := HK.out.1; have := HM.out; omega
        have hj0 : (0 : Int) ≤ (j : Int) := by omega
        have b1 : decide ((j : Int) < (m : Int)) = true := by simp; omega
        have b2 : decide (y < z.r) = true := by simp [hyr]
        clear hy
        go_wp2
        go_quiet (fail)
        go_wp2
        exact ⟨⟨j + 1, by omega, by go_num, below_drewN hjx _⟩, by simp [intOf]; omega⟩
       ·have hjj : j = K := by omega
        subst hjj
        have hj0 : (0 : Int) ≤ (j : Int) := by omega
        have hjm : (j : Int) < (m : Int) := by omega
        have b1 : decide ((j : Int) < (m : Int)) = true := by simp; omega
        obtain ⟨y, hy, hyr, hyn⟩ := HAT.out
        have b2 : decide (y < z.r) = false := by simp; omega
        have b3 : (y == z.r) = false := by simpa using hyn
        have e0 := (hjx.cell (p := ⟨g, j, none⟩) hgU).trans (HR.out j y hy)
        clear hy hyr hyn
        go_wp2
        go_quiet (fail)
        obtain ⟨nq1, rfl⟩ : ∃ q, q = nq := ⟨_, rfl⟩
        go_wp2
        go_quiet (fail)
        have hbj := hjx
        obtain ⟨w5, hw5⟩ : ∃ w5, w5 = (wr.drewN nq1).drewN nq := ⟨_, rfl⟩
        rw [← hw5]
        have BV5 : Hid (Below V.heap.size V w5) := by rw [hw5]; exact BVU.out.trans ((below_drewN (below_drewN hjx _) _).mono BVU.out.size)
        have BU5 : Below U.heap.size U w5 := by rw [hw5]; exact below_drewN (below_drewN hjx _) _
        obtain ⟨c0, _, _, _, _, _⟩ := (HZA.out.below BU.out hbl).below BU5 hblU
        have HR5 : Hid (∀ q y, ys[q]? = some y → w5.cell? ⟨g, q, none⟩ = some (.int .i64 y)) := fun q y e => (BU5.cell (p := ⟨g, q, none⟩) hgU).trans (HR.out q y e)
        have hg5 : g < w5.heap.size := Nat.lt_of_lt_of_le hgU BU5.size
        have hb5 : b < w5.heap.size := Nat.lt_of_lt_of_le hblU BU5.size
        clear hw5 hbj d0 d1 d2 d3 d4 d5
        have H5 : Hid ((w5.alloc (.cells #[] 2)).ownsRow w5.heap.size 2 1 (.slice (some ⟨w5.heap.size, 0, none⟩) 0 0) 0 []) := World.ownsRow_lit (base := w5.heap.size) (e := 2) (size := 1) w5 #[] 0 (Nat.le_refl _) (Nat.zero_le _) rfl
        have hkc : (j : Int) ≤ (cap1 : Int) := by have := HCP.out; omega
        have hkm : (j : Int) ≤ (m : Int) := by omega
        have hj0' : (0 : Int) ≤ (j : Int) := by omega
        go_wp2_with (first
         | (at_builtin; refine wpList_append_own _ rfl _ _ 26 rfl w5.heap.size 2 i0 (.int .i64 0) 1 8 Tryz.underlying26 hi hz0 hz1 hz2 rfl (by decide) (.slice (some ⟨w5.heap.size, 0, none⟩) 0 0) 0 [] rfl H5.out ⟨g, 0, none⟩ j cap1 ((ys.take j).map (Value.int .i64)) rfl (by rw [List.length_map, List.length_take, HM.out]; omega) (newsI_take HR5.out hg5 (zN)) (fun u hu => by obtain ⟨q, _, rfl⟩ := List.mem_map.1 hu; rfl) (by unfold maxLen; omega) (by omega) (by simp) ?_))
        intro v6 w6 hown6 hgrow6 hnil6
        obtain ⟨g6, cap6, hv6⟩ := ownsI_shape hown6 hnil6
        (try simp only [Nat.zero_add] at hv6)
        subst hv6
        have H6 : Hid (w6.ownsRow w5.heap.size 2 1 (.slice (some ⟨g6, 0, none⟩) j cap6) j ((ys.take j).map (Value.int .i64))) := by
         show w6.ownsRow w5.heap.size 2 1 _ j _
         rw [List.map_take]
         have h0 := hown6
         (try simp only [Nat.zero_add, List.nil_append, List.map_take] at h0)
         exact h0
        have BW6 : Hid (Below w5.heap.size w5 w6) := ((Below.refl w5.heap.size w5).alloc (Nat.le_refl _) _).grown hgrow6 (by simp) (fun q e => by simp [Value.ownBlock] at e; omega)
        have hz6 : w5.heap.size + 1 ≤ w6.heap.size := by have := hgrow6.size; simp at this; omega
        have s0 : w6.cell? ⟨b, off + k * 6, none⟩ = some (.int .i64 z.r) := (BW6.out.cell (p := ⟨b, off + k * 6, none⟩) hb5).trans c0
        clear hown6 hgrow6 hnil6 H5 c0
        go_wp2_with fail
        refine wp_region_held_drew (S := fun w' => (∀ b o, b < w5.heap.size → w'.cell? ⟨b, o, none⟩ = w6.cell? ⟨b, o, none⟩) ∧ Below w5.heap.size w6 w') (by kernel_rfl) (kpQ ⟨rfl, rfl, rfl, Nat.le_refl _, fun _ _ => rfl⟩) (fun hHeld => ?_)
        refine Zk.go [0, 1, 2, 3, 4, 5, 8, 9, 10] ?_
        iterate 9
         refine Zk.st (v := ?_) rfl ?_ ?_
         rotate_left 1
         ·intro w hSw; (try dsimp only at hSw); go_simp; try (with_reducible rfl)
         try simp only [Act.put, zA, zB, zC, zD, zE, zF]
        refine Zk.fin ?_
        refine Zk.rd (i := 6) rfl (fun K hK => ?_)
        go_simp
        have hS := kpQ (hHeld.2.alloc (by show w5.heap.size ≤ w6.heap.size; omega) (.cells #[.int .i64 z.r] 2))
        refine hK.out _ _ hS (fun hHeld => ?_)
        clear hK K
        try simp only [Act.put, zA, zB, zC, zD, zE, zF]
        refine wpAnyH_ready (rs := [7]) (by kernel_rfl) (by simp) ?_
        refine AllReadyH.cons rfl (fun K hK => ?_) AllReadyH.nil
        refine step_appendI rfl (.tmp 62) (.tmp 68) 26 rfl w5.heap.size 2 i0 (.int .i64 0) 1 8 Tryz.underlying26 hi hz0 hz1 hz2 rfl (by decide) (.slice (some ⟨g6, 0, none⟩) j cap6) j ((ys.take j).map (Value.int .i64)) (by rfl) (H6.out.alloc _) ⟨w6.heap.size, 0, none⟩ 1 1 [.int .i64 z.r] (by rfl) (by rfl) (fun q u hq => by match q, hq with | 0, hq => simp at hq; subst hq; simp [Addr.add]) (fun u hu => by simp at hu; subst hu; rfl) (by unfold maxLen; omega) (by omega) (by show w5.heap.size ≤ (w6.alloc _).heap.size; simp; omega) ?_
        intro v7 w7 hown7 hgrow7 hnil7
        have hS := kpQ (hHeld.2.grown hgrow7 (by show w5.heap.size ≤ (w6.alloc _).heap.size; simp; omega) (fun q e => by have := (H6.out.lt q e).1; omega))
        have H7 : Hid (w7.ownsRow w5.heap.size 2 1 v7 (j + 1) ((ys.take j).map (Value.int .i64) ++ [.int .i64 z.r])) := hown7
        have N7 : Hid (v7 ≠ .slice none 0 0) := fun e => by have := (hnil7.1 e).1; simp at this
        clear hown7 hnil7 hgrow7
        refine hK.out _ _ hS (fun hHeld => ?_)
        clear hK K
        try simp only [Act.put, zA, zB, zC, zD, zE, zF]
        refine wpAnyH_ready (rs := [11]) (by kernel_rfl) (by simp) ?_
        refine AllReadyH.cons rfl (fun K hK => ?_) AllReadyH.nil
        have hsl : (if cap1 = j then (some ⟨g, 0, none⟩ : Option Addr) else some ⟨g, j, none⟩) = some (if cap1 = j then ⟨g, 0, none⟩ else ⟨g, j, none⟩) := by split <;> rfl
        have hnw : ∀ q u, ((ys.drop j).map (Value.int .i64))[q]? = some u → w7.cell? ((if cap1 = j then (⟨g, 0, none⟩ : Addr) else ⟨g, j, none⟩).add q) = some u := by
         by_cases hck : cap1 = j
         ·intro q u hq; rw [List.drop_of_length_le (by rw [HM.out]; have := HCP.out.1; omega)] at hq; simp at hq
         ·rw [if_neg hck]; exact newsI_drop HR5.out hg5 (BW6.out.trans (hHeld.2.mono (by omega)))
        refine step_appendI rfl (.tmp 69) (.tmp 72) 26 rfl w5.heap.size 2 i0 (.int .i64 0) 1 8 Tryz.underlying26 hi hz0 hz1 hz2 rfl (by decide) v7 (j + 1) ((ys.take j).map (Value.int .i64) ++ [.int .i64 z.r]) (by rfl) H7.out _ (m - j) (cap1 - j) ((ys.drop j).map (Value.int .i64)) (by rw [← hsl]; rfl) (by rw [List.length_map, List.length_drop, HM.out]; omega) hnw (fun u hu => by obtain ⟨q, _, rfl⟩ := List.mem_map.1 hu; rfl) (by unfold maxLen; omega) (by omega) (by have h1 := hHeld.2.size; omega) ?_
        intro v8 w8 hown8 hgrow8 hnil8
        have hS := kpQ (hHeld.2.grown hgrow8 (by have h1 := hHeld.2.size; omega) (fun q e => by have := (H7.out.lt q e).1; omega))
        have H8 : Hid (w8.ownsRow w5.heap.size 2 1 v8 (j + 1 + (m - j)) ((ys.take j).map (Value.int .i64) ++ [.int .i64 z.r] ++ (ys.drop j).map (Value.int .i64))) := hown8
        have N8 : Hid (v8 ≠ .slice none 0 0) := fun e => N7.out (hnil8.1 e).1
        clear hown8 hnil8 hgrow8
        refine hK.out _ _ hS (fun hHeld => ?_)
        clear hK K
        try simp only [Act.put, zA, zB, zC, zD, zE, zF]
        refine Zk.rd (i := 12) rfl (fun K hK => ?_)
        go_simp
        refine hK.out _ _ (by assumption) (fun hHeld => ?_)
        clear hK K
        try simp only [Act.put, zA, zB, zC, zD, zE, zF]
        refine wpAnyH_done (by kernel_rfl) ?_ _
        obtain ⟨g8, cap8, hv8⟩ := ownsI_shape H8.out N8.out
        subst hv8
        have BF : Hid (Below V.heap.size V w8) := (BV5.out.trans (BW6.out.mono BV5.out.size)).trans (hHeld.2.mono (by have := BV5.out.size; omega))
        have E3 : Hid (j + 1 + (m - j) = (sgTo zs x (k + 1)).length) := by show j + 1 + (m - j) = _; rw [HNX.out]; have := HM.out; simp; omega
        have HF : Hid (OwnI w8 V.heap.size (.slice (some ⟨g8, 0, none⟩) (j + 1 + (m - j)) cap8) (sgTo zs x (k + 1))) := by
         have h8 := H8.out
         refine owns_lowI (B := w5.heap.size) ?_ (BV5.out.size)
         show World.ownsRow _ w5.heap.size 2 1 _ (sgTo zs x (k + 1)).length ((sgTo zs x (k + 1)).map (Value.int .i64))
         rw [← E3.out, HNX.out, List.map_append, List.map_append]
         exact h8
        clear hsl hnw H8 N8 H7 N7 hHeld
        go_wp2_with fail
        exact ⟨⟨k + 1, g8, cap8, by omega, by go_num, by rw [← E3.out], by rw [← E3.out]; exact HF.out, BF.out⟩, by simp [intOf]; omega⟩
  ·have hkn : k = n := by omega
   have hlt' : ¬ ((k : Int) < (n : Int)) := by omega
   have HF : Hid ((sgL zs x).length = m ∧ sgL zs x = ys) := by
    have e : sgL zs x = ys := by unfold sgL; rw [HZ.out, ← hkn]; exact HYS.out
    exact ⟨by rw [e]; exact hm, e⟩
   have HO : Hid (OwnI wr w.heap.size (.slice (some ⟨g, 0, none⟩) m cap1) ys) := owns_lowI hown (by omega)
   clear hown hys hm p1 p2 p3 p4 p5 hkn
   go_wp2
   go_ret
   exact ⟨g, cap1, by rw [HF.out.1]; rfl, by rw [HF.out.1, HF.out.2]; exact HO.out, HBV.out.trans (hvx.mono HBV.out.size)⟩
end

section
open Go.RowKit Go.Maps
def GivesSO (fn : Nat) (a : Option Addr) (n cap : Nat) (x : StI) (c : Int) (ys : List Int) (w : World) : Prop := Calls Tryz.prog fn #[.slice a n cap, .agg #[.int .i64 x.k, .int .i64 x.e, .int .i64 x.f, .int .i64 x.s, .int .i64 x.n]] w fun e w' => ∃ (ra : Option Addr) (rc : Nat), e = .returned (.agg #[.int .i64 c, .slice ra ys.length rc]) ∧ w'.ownsRow w.heap.size 2 1 (.slice ra ys.length rc) ys.length (ys.map (Value.int .i64)) ∧ Below w.heap.size w w'
theorem two_boxes (w : World) (x : StI) (T R : TypeId) : ∃ V, V = (w.alloc (.cells #[.int .i64 x.k, .int .i64 x.e, .int .i64 x.f, .int .i64 x.s, .int .i64 x.n] T)).alloc (.cells #[.int .i64 0, .slice none 0 0] R) ∧ Below w.heap.size w V ∧ V.heap.size = w.heap.size + 1 + 1 ∧ StAt V w.heap.size 0 x ∧ BoxW (w.heap.size + 1) [.int .i64 0, .slice none 0 0] V := by
 refine ⟨_, rfl, (zN).alloc (by simp) _, by simp, ?_, ?_⟩
 ·exact (StAt.new w x T).below (zN) (by simp)
 ·have q := boxW_new (w.alloc (.cells #[.int .i64 x.k, .int .i64 x.e, .int .i64 x.f, .int .i64 x.s, .int .i64 x.n] T)) #[.int .i64 0, .slice none 0 0] R
  simp only [World.size_alloc] at q
  exact q
theorem sg_wf {zs : List ShI} (h : ∀ z ∈ zs, i64W z.r) (x : StI) : ∀ i ∈ sgL zs x, i64W i := fun i hi => h _ ((mem_sgL zs x i).1 hi)
theorem keys_sg {zs : List ShI} {x : StI} {ys : List Int} (hr : ∀ z ∈ zs, i64W z.r) (hu : Up ys) (hk : KeysS (fun i => decide (i ∈ sgL zs x)) ys) : ys = sgL zs x := by
 refine up_unique hu (sgL_up zs x) (fun i => ⟨fun hi => ?_, fun hi => ?_⟩)
 ·have := (hk.2.2 i (hk.2.1 i hi)).1 hi
  exact of_decide_eq_true this
 ·exact (hk.2.2 i (sg_wf hr x i hi)).2 (decide_eq_true hi)
theorem implSigners_c (a : Option Addr) (n cap : Nat) (zs : List ShI) (x : StI) (w : World) (hn : n ≤ 1048576) (hr : ∀ z ∈ zs, i64W z.r) (h : ShIn w a n zs) : GivesSO 85 a n cap x (sgCode zs x) (sgRes zs x) w := by
 unfold GivesSO
 obtain ⟨V, hV, BV, hVs, hst, hbx⟩ := two_boxes w x 54 28
 have HZ : Hid (zs.length = n) := h.1
 have hn' : (n : Int) ≤ 1048576 := by omega
 obtain ⟨c, hc⟩ : ∃ c, sgCode zs x = c := ⟨_, rfl⟩
 obtain ⟨ys, hys⟩ : ∃ ys, sgRes zs x = ys := ⟨_, rfl⟩
 rw [hc, hys]
 have HC : Hid (c = if 120 < n then 2 else stCode x) := by show c = _; rw [← hc]; unfold sgCode; rw [HZ.out]
 have HY : Hid (ys = if c = 0 then sgL zs x else []) := by show ys = _; rw [← hys, ← hc]; rfl
 have HS : Hid (ShIn V a n zs) := h.below BV
 have HB : Hid (BoxW (w.heap.size + 1) [.int .i64 0, .slice none 0 0] V) := hbx
 have HX : Hid (StAt V w.heap.size 0 x) := hst
 have HSZ : Hid (V.heap.size = w.heap.size + 1 + 1) := hVs
 have HW : Hid (∀ z ∈ zs, i64W z.r) := hr
 clear h hc hys hVs hr
 by_cases hl : 120 < n
 ·have HC2 : Hid (c = 2 ∧ ys = []) := by
   have e : c = 2 := by rw [HC.out, if_pos hl]
   exact ⟨e, by rw [HY.out, if_neg (by omega)]⟩
  have hl' : (120 : Int) < (n : Int) := by omega
  rw [HC2.out.1, HC2.out.2]
  clear hV BV hst hbx HS HB HSZ HC HY
  go_enter Tryz.func85, Tryz.ntmps85
  go_wp2
  go_returns
  exact ⟨none, 0, rfl, World.ownsRow_nil _ _ _ _, by go_grown⟩
 ·have hl' : ¬ ((120 : Int) < (n : Int)) := by omega
  have HC2 : Hid (c = stCode x) := by show c = _; rw [HC.out, if_neg hl]
  have HF : Hid (Calls Tryz.prog 96 #[.agg #[.int .i64 x.k, .int .i64 x.e, .int .i64 x.f, .int .i64 x.s, .int .i64 x.n]] V fun e w' => e = .returned (.int .i64 c) ∧ Below V.heap.size V w') := by rw [HC2.out]; exact implStatementFault_c x V
  have hVl : w.heap.size + 1 < V.heap.size := by have := HSZ.out; omega
  have hVw : w.heap.size < V.heap.size := by omega
  obtain ⟨x0, x1, x2, x3, x4⟩ := hst
  simp only [Nat.zero_add] at x0 x1 x2 x3 x4
  by_cases c0 : c = 0
  ·have cb : (c != 0) = false := by simp [c0]
   have HY2 : Hid (ys = sgL zs x ∧ c = 0) := ⟨by rw [HY.out, if_pos c0], c0⟩
   clear c0 HY HC HC2 hbx
   go_enter Tryz.func85, Tryz.ntmps85
   go_wp2_with fail
   rw [← hV]
   clear hV
   refine HF.out.mono ?_
   rintro e w1 ⟨rfl, hb1⟩
   have BW1 : Hid (Below V.heap.size V w1) := hb1
   have hz1 := hb1.size
   have hmk : (Instr.makeMap 167 none).run Tryz.prog w1 = .ok (.map (some w1.heap.size)) (w1.alloc (.map #[] 0)) := run_makeMap _ w1
   obtain ⟨M, hM⟩ : ∃ M, M = w1.alloc (.map #[] 0) := ⟨_, rfl⟩
   have BM : Hid (Below w1.heap.size w1 M) := by rw [hM]; exact zN
   have SM0 : Hid (SM M w1.heap.size 0 (fun _ => false)) := by rw [hM]; exact sm_made w1
   rw [← hM] at hmk
   clear hM x0 x1 x2 x3 x4 hb1
   go_wp2_with fail
   go_loopw [22] (fun i wr => ∃ k : Nat, k ≤ n ∧ i = .int .i64 (k : Int) ∧ SM wr w1.heap.size k (fun i => decide (i ∈ sgTo zs x k)) ∧ Below w1.heap.size w1 wr) (fun i _ => n - (intOf i).toNat)
   case atStart => exact ⟨0, Nat.zero_le _, rfl, SM0.out.cong (fun i => by simp [sgTo]), BM.out⟩
   case round =>
    obtain ⟨k, hk, rfl, hsm, hwx⟩ := hrel
    have hvx : Below V.heap.size V wr := BW1.out.trans (hwx.mono hz1)
    by_cases hlt : k < n
    ·obtain ⟨b, off, z, rfl, hz, hza, hbl⟩ := HS.out.at hlt
     have hltk : (k : Int) < (n : Int) := by omega
     obtain ⟨d0, d1, d2, d3, d4, d5⟩ := hza.below hvx hbl
     obtain ⟨Y, hY⟩ : ∃ Y, Y = wr.alloc (.cells #[.int .i64 z.r, .int .i64 z.k, .int .i64 z.e, .int .i64 z.f, .int .i64 z.s, .int .i64 z.n] 76) := ⟨_, rfl⟩
     have hsl := hsm.lt
     have SY : SM Y w1.heap.size k (fun i => decide (i ∈ sgTo zs x k)) := by rw [hY]; exact hsm.below hsl (zN)
     have BY : Below w1.heap.size w1 Y := by rw [hY]; exact hwx.alloc hwx.size _
     obtain ⟨y0, y1, y2, y3, y4⟩ := HX.out.below hvx hVw
     simp only [Nat.zero_add] at y0 y1 y2 y3 y4
     have hwl : w.heap.size < wr.heap.size := Nat.lt_of_lt_of_le hVw hvx.size
     cases hsame : sameSt z.st x
     ·have HN : Hid (SM Y w1.heap.size (k + 1) (fun i => decide (i ∈ sgTo zs x (k + 1)))) := (SY.le (by omega)).cong (fun i => by rw [sgTo_miss hz hsame])
      have hse : ∀ w : World, (binOp .eql 54 (.agg #[.int .i64 z.k, .int .i64 z.e, .int .i64 z.f, .int .i64 z.s, .int .i64 z.n]) (.agg #[.int .i64 x.k, .int .i64 x.e, .int .i64 x.f, .int .i64 x.s, .int .i64 x.n])).run Tryz.prog w = .ok (.bool false) w := fun w => by have := st_eql z.st x w; rw [hsame] at this; exact this
      clear hz hza hsame SY hsm
      go_wp2
      rw [← hY]
      exact ⟨⟨k + 1, by omega, by go_num, HN.out, BY⟩, by simp [intOf]; omega⟩
     ·have HP : Hid (Calls Tryz.prog 105 #[.map (some w1.heap.size), .int .i64 z.r] Y fun e w' => e = .returned (.tuple #[]) ∧ SM w' w1.heap.size (k + 1) (fun i => decide (i ∈ sgTo zs x (k + 1))) ∧ Y.grownBy w' (some w1.heap.size)) :=
       (snPut_c w1.heap.size k _ z.r Y SY (by omega) (HW.out z (List.mem_of_getElem? hz))).mono fun e w' hh => ⟨hh.1, hh.2.1.cong (fun i => by
        unfold putP
        rw [sgTo_hit hz hsame, Bool.eq_iff_iff]
        simp only [Bool.or_eq_true, decide_eq_true_eq, mem_insR]), hh.2.2⟩
      have hse : ∀ w : World, (binOp .eql 54 (.agg #[.int .i64 z.k, .int .i64 z.e, .int .i64 z.f, .int .i64 z.s, .int .i64 z.n]) (.agg #[.int .i64 x.k, .int .i64 x.e, .int .i64 x.f, .int .i64 x.s, .int .i64 x.n])).run Tryz.prog w = .ok (.bool true) w := fun w => by have := st_eql z.st x w; rw [hsame] at this; exact this
      clear hz hza hsame SY hsm
      go_wp2_with fail
      rw [← hY]
      refine HP.out.mono ?_
      rintro e w2 ⟨rfl, hsm2, hg2⟩
      have B2 : Below w1.heap.size w1 w2 := BY.grown hg2 BY.size (fun q e => by cases e; exact Nat.le_refl _)
      clear hg2 hY HP
      go_wp2
      exact ⟨⟨k + 1, by omega, by go_num, hsm2, B2⟩, by simp [intOf]; omega⟩
    ·have hkn : k = n := by omega
     subst hkn
     have hltk : ¬ ((k : Int) < (k : Int)) := by omega
     have SME : Hid (SM wr w1.heap.size k (fun i => decide (i ∈ sgL zs x))) := hsm.cong (fun i => by unfold sgL; rw [HZ.out])
     have HL : Hid (Calls Tryz.prog 106 #[.map (some w1.heap.size), .func (.func 107) #[] #[]] wr fun e W' => ∃ v us, e = .returned v ∧ us = ys ∧ OwnI W' wr.heap.size v us ∧ Below wr.heap.size wr W') :=
      (slist_c w1.heap.size k _ wr (by omega) SME.out (fun us hk => by
       have h1 := nodup_lenI us (sgL zs x) hk.1 (fun i hi => of_decide_eq_true ((hk.2.2 i (hk.2.1 i hi)).1 hi))
       have := sgL_len zs x
       have := HZ.out
       omega)).mono fun e W' hh => by
        obtain ⟨v, us, e1, hu, hk, ho, hb⟩ := hh
        exact ⟨v, us, e1, by rw [keys_sg HW.out hu hk, HY2.out.1], ho, hb⟩
     have BWR : Hid (Below w.heap.size w wr) := BV.trans (hvx.mono BV.size)
     have XR : Hid (BoxW (w.heap.size + 1) [.int .i64 0, .slice none 0 0] wr) := HB.out.below (by omega) hvx
     have hwr : w.heap.size + 1 < wr.heap.size := Nat.lt_of_lt_of_le hVl hvx.size
     clear hsm
     go_wp2_with fail
     refine HL.out.mono ?_
     rintro e w2 ⟨v, us, rfl, rfl, ho, hb2⟩
     have BW2 : Below w.heap.size w w2 := BWR.out.trans (hb2.mono BWR.out.size)
     have X2 := XR.out.below (by omega) hb2
     have d0 := X2.1 0 _ rfl
     have d1 := X2.1 1 _ rfl
     have e0 := X2.2 0
     have e1 := X2.2 1
     have hw2 : w.heap.size + 1 < w2.heap.size := Nat.lt_of_lt_of_le hwr hb2.size
     obtain ⟨ra, rc, hv⟩ : ∃ ra rc, v = .slice ra us.length rc := by
      have ho0 : w2.ownsRow wr.heap.size 2 1 v us.length (us.map (Value.int .i64)) := ho
      rcases ho0.2 with ⟨h1, h2⟩ | ⟨g, cp, cur, h1, _⟩
      ·exact ⟨none, 0, by rw [h1, h2]⟩
      ·exact ⟨_, _, h1⟩
     subst hv
     obtain ⟨m, hm⟩ : ∃ m, us.length = m := ⟨_, rfl⟩
     have HO : Hid (OwnI w2 wr.heap.size (.slice ra m rc) us ∧ us.length = m) := ⟨by rw [← hm]; exact ho, hm⟩
     rw [hm]
     have HC0 : Hid (c = 0) := HY2.out.2
     have HSZ2 : Hid (w.heap.size + 1 < wr.heap.size) := hwr
     clear ho hm X2 hb2 HL HF HS HB HY2
     go_wp2
     refine bodyPost_ret (v := .agg #[.int .i64 0, .slice ra m rc]) (by simp [results, Tryz.results85, go_sem, d0, d1, hw2]) rfl ⟨ra, rc, by rw [HC0.out, HO.out.2], ?_, ?_⟩
     ·rw [HO.out.2]
      have h0 : w2.ownsRow wr.heap.size 2 1 (.slice ra m rc) us.length (us.map (Value.int .i64)) := HO.out.1
      rw [HO.out.2] at h0
      have h1 := ownsE_set (ownsE_set h0 (a := ⟨w.heap.size + 1, 0, none⟩) HSZ2.out (.int .i64 0)) (a := ⟨w.heap.size + 1, 1, none⟩) HSZ2.out (.slice ra m rc)
      rcases h1 with ⟨k1, k2⟩
      refine ⟨k1, ?_⟩
      rcases k2 with k2 | ⟨g', cap', cur, e, hg, rest⟩
      ·exact .inl k2
      ·exact .inr ⟨g', cap', cur, e, by have := HSZ2.out; omega, rest⟩
     ·exact (BW2.setCell (by show w.heap.size ≤ w.heap.size + 1; omega) _).setCell (by show w.heap.size ≤ w.heap.size + 1; omega) _
  ·have cb : (c != 0) = true := by simp [c0]
   have HY2 : Hid (ys = []) := by show ys = []; rw [HY.out, if_neg c0]
   rw [HY2.out]
   clear c0 HY HC HC2 hbx
   go_enter Tryz.func85, Tryz.ntmps85
   go_wp2_with fail
   rw [← hV]
   clear hV
   refine HF.out.mono ?_
   rintro e w1 ⟨rfl, hb1⟩
   have X1 := HB.out.below (by omega) hb1
   have b0 := X1.1 0 _ rfl
   have b1 := X1.1 1 _ rfl
   have f0 := X1.2 0
   have f1 := X1.2 1
   have BW1 : Below w.heap.size w w1 := BV.trans (hb1.mono BV.size)
   have hVl1 : w.heap.size + 1 < w1.heap.size := Nat.lt_of_lt_of_le hVl hb1.size
   clear X1 hb1 x0 x1 x2 x3 x4
   go_wp2
   refine bodyPost_ret (v := .agg #[.int .i64 c, .slice none 0 0]) (by simp [results, Tryz.results85, go_sem, b0, b1, hVl1]) rfl ⟨none, 0, rfl, World.ownsRow_nil _ _ _ _, ?_⟩
   exact (BW1.setCell (by show w.heap.size ≤ w.heap.size + 1; omega) _).setCell (by show w.heap.size ≤ w.heap.size + 1; omega) _
end

end Go.Proofs.YtfkajnenniapaaaGreat
