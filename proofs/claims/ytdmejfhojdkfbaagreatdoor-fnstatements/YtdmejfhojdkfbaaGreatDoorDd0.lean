/-
  CONTRACTS of the draws of statements: spec.l1Max, spec.l7Draw, spec.l7Bent.
  Conditions: each contract bears its own.
-/
import Derived.Test.YtdmejfhojdkfbaaGreatDoorDraw3
import Derived.Test.YtdmejfhojdkfbaaGreatDoorEx0
import Derived.Test.YtdmejfhojdkfbaaGreatDoorSt0
namespace Go.Proofs.YtdmejfhojdkfbaaGreatDoor
open Go.RowKit
set_option linter.unusedVariables false
set_option linter.unusedSimpArgs false

theorem hid {p : Prop} (h : p) : Hid p := h

theorem l1Max_c (x y : Int) (w : World) : Calls Tryz.prog 42 #[.int .i64 x, .int .i64 y] w fun e w' => e = .returned (.int .i64 (max x y)) ∧ w' = w := by
  by_cases h : y < x
  · have hm : max x y = x := by omega
    rw [hm]
    go_enter Tryz.func42, Tryz.ntmps42
    go_wp2
    go_ret
    exact ⟨rfl, rfl⟩
  · have hm : max x y = y := by omega
    rw [hm]
    go_enter Tryz.func42, Tryz.ntmps42
    go_wp2
    go_ret
    exact ⟨rfl, rfl⟩

/-- A source gone on since w, and a box beside it. -/
structure DB (w wx : World) (B : Nat) (a : Option Addr) (len cap k : Nat) (ys : List Int) (R : Nat) (vs : List Value) : Prop where
  ds : DS w wx B a len cap k ys
  box : BoxW R vs wx
  lt : R < wx.heap.size
  ge : w.heap.size ≤ R
  hB : B < w.heap.size
  code : ∀ b off, a = some ⟨b, off, none⟩ → len = 0 ∨ b < w.heap.size

theorem BoxW.grown {b B : Nat} {vs : List Value} {W W' : World} (h : BoxW b vs W) (hb : b < W.heap.size) (hg : W.grownBy W' (some B)) (hne : b ≠ B) : BoxW b vs W' :=
  ((h.hold hb).chg (Chg.grown (lo := B) (hi := B + 1) hg (fun q e => by cases e; omega)) (by omega)).out

theorem DB.draw {w wx wy : World} {B : Nat} {a : Option Addr} {len cap k k' : Nat} {ys : List Int} {R : Nat} {vs : List Value} (h : DB w wx B a len cap k ys R vs) (hs : SrcAt wy B a len cap k' ys) (hg : wx.grownBy wy (some B)) : DB w wy B a len cap k' ys R vs :=
  ⟨h.ds.draw hs hg, h.box.grown h.lt hg (by have := h.ge; have := h.hB; omega), Nat.lt_of_lt_of_le h.lt hg.size, h.ge, h.hB, h.code⟩

theorem DB.alloc {w wx : World} {B : Nat} {a : Option Addr} {len cap k : Nat} {ys : List Int} {R : Nat} {vs : List Value} (h : DB w wx B a len cap k ys R vs) (o : Obj) : DB w (wx.alloc o) B a len cap k ys R vs :=
  ⟨h.ds.alloc o, h.box.below h.lt ((Below.refl _ _).alloc (Nat.le_refl _) _), by have := h.lt; simp; omega, h.ge, h.hB, h.code⟩

theorem DB.put {w wx : World} {B : Nat} {a : Option Addr} {len cap k : Nat} {ys : List Int} {R : Nat} {vs : List Value} (h : DB w wx B a len cap k ys R vs) (j : Nat) (hj : j < vs.length) (v : Value) : DB w (wx.setCell ⟨R, j, none⟩ v) B a len cap k ys R (vs.set j v) :=
  ⟨h.ds.set h.ge h.hB h.code j v, h.box.put j hj v, by simp; exact h.lt, h.ge, h.hB, h.code⟩

theorem DB.other {w wx : World} {B : Nat} {a : Option Addr} {len cap k : Nat} {ys : List Int} {R : Nat} {vs : List Value} (h : DB w wx B a len cap k ys R vs) {q : Nat} (hq : w.heap.size ≤ q) (hne : q ≠ R) (j : Nat) (v : Value) : DB w (wx.setCell ⟨q, j, none⟩ v) B a len cap k ys R vs :=
  ⟨h.ds.set hq h.hB h.code j v, h.box.other (p := ⟨q, j, none⟩) hne v, by simp; exact h.lt, h.ge, h.hB, h.code⟩

theorem DB.start {w : World} {B : Nat} {a : Option Addr} {len cap k : Nat} {ys : List Int} (h : SrcAt w B a len cap k ys) (cs : Array Value) (t : TypeId) : DB w (w.alloc (.cells cs t)) B a len cap k ys w.heap.size cs.toList :=
  ⟨(DS.start h).alloc _, boxW_new w cs t, by simp, Nat.le_refl _, h.lt, h.code_lt⟩

theorem DB.cell {w wx : World} {B : Nat} {a : Option Addr} {len cap k : Nat} {ys : List Int} {R : Nat} {vs : List Value} (h : DB w wx B a len cap k ys R vs) (j : Nat) (v : Value) (e : vs[j]? = some v) : wx.cell? ⟨R, j, none⟩ = some v := h.box.1 j v e
theorem DB.fr {w wx : World} {B : Nat} {a : Option Addr} {len cap k : Nat} {ys : List Int} {R : Nat} {vs : List Value} (h : DB w wx B a len cap k ys R vs) (j : Nat) : wx.frozen? ⟨R, j, none⟩ = false := h.box.2 j

/-- What a draw of a statement gives. -/
def GivesST (fn : Nat) (w : World) (B : Nat) (a : Option Addr) (len cap k d : Nat) (ys : List Int) : Prop := Calls Tryz.prog fn #[.pointer (some ⟨B, 0, none⟩)] w fun e w' => ∃ (x : StI) (kk : Nat), kk ≤ k + d ∧ e = .returned (.agg #[.int .i64 x.k, .int .i64 x.e, .int .i64 x.f, .int .i64 x.s, .int .i64 x.n]) ∧ SrcAt w' B a len cap kk ys ∧ w.grownBy w' (some B)

theorem DB.five {w wx : World} {B : Nat} {a : Option Addr} {len cap k : Nat} {ys : List Int} {R : Nat} {x0 x1 x2 x3 x4 : Value} (h : DB w wx B a len cap k ys R [x0, x1, x2, x3, x4]) (y0 y1 y2 y3 y4 : Value) : DB w (((((wx.setCell ⟨R, 0, none⟩ y0).setCell ⟨R, 1, none⟩ y1).setCell ⟨R, 2, none⟩ y2).setCell ⟨R, 3, none⟩ y3).setCell ⟨R, 4, none⟩ y4) B a len cap k ys R [y0, y1, y2, y3, y4] :=
  ((((h.put 0 (by simp) y0).put 1 (by simp) y1).put 2 (by simp) y2).put 3 (by simp) y3).put 4 (by simp) y4

set_option maxRecDepth 20000 in
set_option maxHeartbeats 4000000 in
theorem draw7_c (w : World) (B : Nat) (a : Option Addr) (len cap k : Nat) (ys : List Int) (h : SrcAt w B a len cap k ys) (hl : len ≤ 1048576) (hk : k ≤ 800) :
    GivesST 19 w B a len cap k 5 ys := by
  unfold GivesST
  have D0 : Hid (DB w (w.alloc (.cells #[.int .i64 0, .int .i64 0, .int .i64 0, .int .i64 0, .int .i64 0] 26)) B a len cap k ys w.heap.size _) := DB.start h _ _
  clear h
  go_enter Tryz.func19, Tryz.ntmps19
  go_wp2_with fail
  refine (next_c _ B a len cap (k) ys 7 D0.out.ds.src hl (by omega) (by omega) (by omega)).mono ?_
  rintro e w1 ⟨t, t0, t1, rfl, hS, hG⟩
  have D1 := hid (D0.out.draw hS hG)
  clear hS hG D0
  by_cases e0 : t = 0
  · subst e0
    go_wp2_with fail
    refine (next_c _ B a len cap (k + 1) ys 2 D1.out.ds.src hl (by omega) (by omega) (by omega)).mono ?_
    rintro e w2 ⟨u, u0, u1, rfl, hS, hG⟩
    have D2 := hid (D1.out.draw hS hG)
    clear hS hG D1
    go_wp2_with fail
    refine (next_c _ B a len cap (k + 1 + 1) ys 3 D2.out.ds.src hl (by omega) (by omega) (by omega)).mono ?_
    rintro e w3 ⟨v, v0, v1, rfl, hS, hG⟩
    have D3 := hid (D2.out.draw hS hG)
    clear hS hG D2
    have c0 := D3.out.cell 0 _ rfl
    have c1 := D3.out.cell 1 _ rfl
    have c2 := D3.out.cell 2 _ rfl
    have c3 := D3.out.cell 3 _ rfl
    have c4 := D3.out.cell 4 _ rfl
    have f0 := D3.out.fr 0
    have f1 := D3.out.fr 1
    have f2 := D3.out.fr 2
    have f3 := D3.out.fr 3
    have f4 := D3.out.fr 4
    have hlt := D3.out.lt
    go_wp2
    refine bodyPost_ret (v := .agg #[.int .i64 (3), .int .i64 (1 + u), .int .i64 (0), .int .i64 (0), .int .i64 (v)]) (by simp [results, Tryz.results19, go_sem, c0, c1, c2, c3, c4, hlt]) rfl ⟨⟨3, 1 + u, 0, 0, v⟩, k + 1 + 1 + 1, by omega, rfl, ?_⟩
    have D9 := D3.out.five (.int .i64 (3)) (.int .i64 (1 + u)) (.int .i64 (0)) (.int .i64 (0)) (.int .i64 (v))
    exact ⟨D9.ds.src, D9.ds.gr⟩
  by_cases e2 : t = 2
  · subst e2
    go_wp2_with fail
    refine (next_c _ B a len cap (k + 1) ys 3 D1.out.ds.src hl (by omega) (by omega) (by omega)).mono ?_
    rintro e w2 ⟨u, u0, u1, rfl, hS, hG⟩
    have D2 := hid (D1.out.draw hS hG)
    clear hS hG D1
    have c0 := D2.out.cell 0 _ rfl
    have c1 := D2.out.cell 1 _ rfl
    have c2 := D2.out.cell 2 _ rfl
    have c3 := D2.out.cell 3 _ rfl
    have c4 := D2.out.cell 4 _ rfl
    have f0 := D2.out.fr 0
    have f1 := D2.out.fr 1
    have f2 := D2.out.fr 2
    have f3 := D2.out.fr 3
    have f4 := D2.out.fr 4
    have hlt := D2.out.lt
    go_wp2
    refine bodyPost_ret (v := .agg #[.int .i64 (4), .int .i64 (1), .int .i64 (0), .int .i64 (0), .int .i64 (u)]) (by simp [results, Tryz.results19, go_sem, c0, c1, c2, c3, c4, hlt]) rfl ⟨⟨4, 1, 0, 0, u⟩, k + 1 + 1, by omega, rfl, ?_⟩
    have D9 := D2.out.five (.int .i64 (4)) (.int .i64 (1)) (.int .i64 (0)) (.int .i64 (0)) (.int .i64 (u))
    exact ⟨D9.ds.src, D9.ds.gr⟩
  by_cases e1 : t = 1
  · subst e1
    go_wp2_with fail
    refine (next_c _ B a len cap (k + 1) ys 2 D1.out.ds.src hl (by omega) (by omega) (by omega)).mono ?_
    rintro e w2 ⟨u, u0, u1, rfl, hS, hG⟩
    have D2 := hid (D1.out.draw hS hG)
    clear hS hG D1
    go_wp2_with fail
    refine (next_c _ B a len cap (k + 1 + 1) ys 3 D2.out.ds.src hl (by omega) (by omega) (by omega)).mono ?_
    rintro e w3 ⟨v, v0, v1, rfl, hS, hG⟩
    have D3 := hid (D2.out.draw hS hG)
    clear hS hG D2
    go_wp2_with fail
    refine (draw_c _ B a len cap (k + 1 + 1 + 1) ys D3.out.ds.src hl (by omega)).mono ?_
    rintro e w4 ⟨d, d0, d1, rfl, hS, hG⟩
    have D4 := hid (D3.out.draw hS hG)
    clear hS hG D3
    go_wp2_with fail
    refine (l1Max_c 1 _ _).mono ?_
    rintro e w5 ⟨rfl, rfl⟩
    obtain ⟨m, hm⟩ : ∃ m : Int, max 1 (bits .and .i64 d 7) = m := ⟨_, rfl⟩
    rw [hm]
    clear hm
    have c0 := D4.out.cell 0 _ rfl
    have c1 := D4.out.cell 1 _ rfl
    have c2 := D4.out.cell 2 _ rfl
    have c3 := D4.out.cell 3 _ rfl
    have c4 := D4.out.cell 4 _ rfl
    have f0 := D4.out.fr 0
    have f1 := D4.out.fr 1
    have f2 := D4.out.fr 2
    have f3 := D4.out.fr 3
    have f4 := D4.out.fr 4
    have hlt := D4.out.lt
    go_wp2
    refine bodyPost_ret (v := .agg #[.int .i64 (2), .int .i64 (1 + u), .int .i64 (1 + v), .int .i64 (m), .int .i64 (0)]) (by simp [results, Tryz.results19, go_sem, c0, c1, c2, c3, c4, hlt]) rfl ⟨⟨2, 1 + u, 1 + v, m, 0⟩, k + 1 + 1 + 1 + 2, by omega, rfl, ?_⟩
    have D9 := D4.out.five (.int .i64 (2)) (.int .i64 (1 + u)) (.int .i64 (1 + v)) (.int .i64 (m)) (.int .i64 (0))
    exact ⟨D9.ds.src, D9.ds.gr⟩
  go_wp2_with fail
  refine (next_c _ B a len cap (k + 1) ys 2 D1.out.ds.src hl (by omega) (by omega) (by omega)).mono ?_
  rintro e w2 ⟨u, u0, u1, rfl, hS, hG⟩
  have D2 := hid (D1.out.draw hS hG)
  clear hS hG D1
  go_wp2_with fail
  refine (next_c _ B a len cap (k + 1 + 1) ys 3 D2.out.ds.src hl (by omega) (by omega) (by omega)).mono ?_
  rintro e w3 ⟨v, v0, v1, rfl, hS, hG⟩
  have D3 := hid (D2.out.draw hS hG)
  clear hS hG D2
  go_wp2_with fail
  refine (draw_c _ B a len cap (k + 1 + 1 + 1) ys D3.out.ds.src hl (by omega)).mono ?_
  rintro e w4 ⟨d, d0, d1, rfl, hS, hG⟩
  have D4 := hid (D3.out.draw hS hG)
  clear hS hG D3
  go_wp2_with fail
  refine (l1Max_c 1 _ _).mono ?_
  rintro e w5 ⟨rfl, rfl⟩
  obtain ⟨m, hm⟩ : ∃ m : Int, max 1 (bits .and .i64 d 15) = m := ⟨_, rfl⟩
  rw [hm]
  clear hm
  have c0 := D4.out.cell 0 _ rfl
  have c1 := D4.out.cell 1 _ rfl
  have c2 := D4.out.cell 2 _ rfl
  have c3 := D4.out.cell 3 _ rfl
  have c4 := D4.out.cell 4 _ rfl
  have f0 := D4.out.fr 0
  have f1 := D4.out.fr 1
  have f2 := D4.out.fr 2
  have f3 := D4.out.fr 3
  have f4 := D4.out.fr 4
  have hlt := D4.out.lt
  go_wp2
  refine bodyPost_ret (v := .agg #[.int .i64 (1), .int .i64 (1 + u), .int .i64 (1 + v), .int .i64 (m), .int .i64 (0)]) (by simp [results, Tryz.results19, go_sem, c0, c1, c2, c3, c4, hlt]) rfl ⟨⟨1, 1 + u, 1 + v, m, 0⟩, k + 1 + 1 + 1 + 2, by omega, rfl, ?_⟩
  have D9 := D4.out.five (.int .i64 (1)) (.int .i64 (1 + u)) (.int .i64 (1 + v)) (.int .i64 (m)) (.int .i64 (0))
  exact ⟨D9.ds.src, D9.ds.gr⟩

/-- The same, with two boxes. -/
structure DP (w wx : World) (B : Nat) (a : Option Addr) (len cap k : Nat) (ys : List Int) (R Q : Nat) (vs us : List Value) : Prop where
  res : DB w wx B a len cap k ys R vs
  own : DB w wx B a len cap k ys Q us
  ne : R ≠ Q

theorem DP.draw {w wx wy : World} {B : Nat} {a : Option Addr} {len cap k k' : Nat} {ys : List Int} {R Q : Nat} {vs us : List Value} (h : DP w wx B a len cap k ys R Q vs us) (hs : SrcAt wy B a len cap k' ys) (hg : wx.grownBy wy (some B)) : DP w wy B a len cap k' ys R Q vs us :=
  ⟨h.res.draw hs hg, h.own.draw hs hg, h.ne⟩

theorem DP.put {w wx : World} {B : Nat} {a : Option Addr} {len cap k : Nat} {ys : List Int} {R Q : Nat} {vs us : List Value} (h : DP w wx B a len cap k ys R Q vs us) (j : Nat) (hj : j < us.length) (v : Value) : DP w (wx.setCell ⟨Q, j, none⟩ v) B a len cap k ys R Q vs (us.set j v) :=
  ⟨h.res.other h.own.ge (Ne.symm h.ne) j v, h.own.put j hj v, h.ne⟩

theorem DP.five {w wx : World} {B : Nat} {a : Option Addr} {len cap k : Nat} {ys : List Int} {R Q : Nat} {vs : List Value} {x0 x1 x2 x3 x4 : Value} (h : DP w wx B a len cap k ys R Q vs [x0, x1, x2, x3, x4]) (y0 y1 y2 y3 y4 : Value) : DP w (((((wx.setCell ⟨Q, 0, none⟩ y0).setCell ⟨Q, 1, none⟩ y1).setCell ⟨Q, 2, none⟩ y2).setCell ⟨Q, 3, none⟩ y3).setCell ⟨Q, 4, none⟩ y4) B a len cap k ys R Q vs [y0, y1, y2, y3, y4] :=
  ((((h.put 0 (by simp) y0).put 1 (by simp) y1).put 2 (by simp) y2).put 3 (by simp) y3).put 4 (by simp) y4

theorem DP.start {w wx : World} {B : Nat} {a : Option Addr} {len cap k : Nat} {ys : List Int} {R : Nat} {vs : List Value} (h : DB w wx B a len cap k ys R vs) (cs : Array Value) (t : TypeId) : DP w (wx.alloc (.cells cs t)) B a len cap k ys R wx.heap.size vs cs.toList :=
  ⟨h.alloc _, ⟨h.ds.alloc _, boxW_new wx cs t, by simp, Nat.le_trans h.ge (Nat.le_of_lt h.lt), h.hB, h.code⟩, by have := h.lt; omega⟩

theorem pick_any (w : World) (B : Nat) (a : Option Addr) (len cap at' : Nat) (ys : List Int) (h : SrcAt w B a len cap at' ys) (hl : len ≤ 1048576) (hat : at' ≤ 1000) (xs : List Int) (hn : 1 ≤ xs.length) (hn2 : xs.length ≤ 100) :
    Calls Tryz.prog 22 #[.pointer (some ⟨B, 0, none⟩), .slice (some ⟨w.heap.size, 0, none⟩) xs.length xs.length] (w.alloc (.cells (xs.map (Value.int .i64)).toArray 2)) fun e w' => ∃ v : Int, v ∈ xs ∧ e = .returned (.int .i64 v) ∧ SrcAt w' B a len cap (at' + 1) ys ∧ w.grownBy w' (some B) := by
  have hlt := h.lt
  refine (pick_c _ B a len cap at' ys (h.below ((Below.refl _ _).alloc (Nat.le_refl _) _)) hl hat w.heap.size xs.length xs.length xs rfl hn hn2 (by omega) (fun j hj => ?_)).mono ?_
  · have := (boxV_new w (xs.map (Value.int .i64)).toArray 2).out j (.int .i64 (xs[j]?.getD 0)) (by simp [List.getElem?_eq_getElem hj])
    exact this
  · rintro e w' ⟨j, hj, rfl, hS, hG⟩
    refine ⟨_, ?_, rfl, hS, grown_trans (grown_none (grown_alloc _ _) _) hG⟩
    rw [List.getElem?_eq_getElem hj]
    exact List.getElem_mem hj

set_option maxRecDepth 20000 in
set_option maxHeartbeats 4000000 in
theorem bent7_c (w : World) (B : Nat) (a : Option Addr) (len cap k : Nat) (ys : List Int) (h : SrcAt w B a len cap k ys) (hl : len ≤ 1048576) (hk : k ≤ 700) :
    GivesST 36 w B a len cap k 7 ys := by
  unfold GivesST
  have D0 : Hid (DB w (w.alloc (.cells #[.int .i64 0, .int .i64 0, .int .i64 0, .int .i64 0, .int .i64 0] 26)) B a len cap k ys w.heap.size _) := DB.start h _ _
  clear h
  go_enter Tryz.func36, Tryz.ntmps36
  go_wp2_with fail
  have HD := draw7_c _ B a len cap k ys D0.out.ds.src hl (by omega)
  unfold GivesST at HD
  refine HD.mono ?_
  clear HD
  rintro e w1 ⟨x, kk, hkk, rfl, hS, hG⟩
  have D1 := hid (D0.out.draw hS hG)
  clear hS hG D0
  have P1 := hid (DP.start D1.out #[.int .i64 x.k, .int .i64 x.e, .int .i64 x.f, .int .i64 x.s, .int .i64 x.n] 26)
  clear D1
  go_wp2_with fail
  generalize World.alloc _ (.cells #[.int .i64 x.k, .int .i64 x.e, .int .i64 x.f, .int .i64 x.s, .int .i64 x.n] 26) = w2 at P1 ⊢
  generalize w1.heap.size = R at P1 ⊢
  refine (next_c _ B a len cap kk ys 12 P1.out.own.ds.src hl (by omega) (by omega) (by omega)).mono ?_
  rintro e w3 ⟨t, t0, t1, rfl, hS, hG⟩
  have P2 := hid (P1.out.draw hS hG)
  clear hS hG P1
  by_cases e0 : t = 0
  · subst e0
    go_wp2_with fail
    refine (pick_any _ B a len cap (kk + 1) ys P2.out.own.ds.src hl (by omega) [0, 5, 1, 3] (by simp) (by simp)).mono ?_
    rintro e w4 ⟨v, hv, rfl, hS, hG⟩
    have P3 := hid (P2.out.draw hS hG)
    clear hS hG hv P2
    have P4 := hid (P3.out.put 0 (by simp) (.int .i64 v))
    have ff := P3.out.own.fr 0
    have c0 := P3.out.own.cell 0 _ rfl
    have g0 := P3.out.res.cell 0 _ rfl
    have f0 := P3.out.res.fr 0
    have c1 := P3.out.own.cell 1 _ rfl
    have g1 := P3.out.res.cell 1 _ rfl
    have f1 := P3.out.res.fr 1
    have c2 := P3.out.own.cell 2 _ rfl
    have g2 := P3.out.res.cell 2 _ rfl
    have f2 := P3.out.res.fr 2
    have c3 := P3.out.own.cell 3 _ rfl
    have g3 := P3.out.res.cell 3 _ rfl
    have f3 := P3.out.res.fr 3
    have c4 := P3.out.own.cell 4 _ rfl
    have g4 := P3.out.res.cell 4 _ rfl
    have f4 := P3.out.res.fr 4
    have hlt := P3.out.res.lt
    have hlt2 := P3.out.own.lt
    have hne := P3.out.ne
    go_wp2
    refine bodyPost_ret (v := .agg #[.int .i64 (v), .int .i64 (x.e), .int .i64 (x.f), .int .i64 (x.s), .int .i64 (x.n)]) (by simp [results, Tryz.results36, go_sem, g0, g1, g2, g3, g4, hlt, hne, Ne.symm hne]) rfl ⟨⟨v, x.e, x.f, x.s, x.n⟩, kk + 1 + 1, by omega, rfl, ?_⟩
    have D9 := P4.out.res.five (.int .i64 (v)) (.int .i64 (x.e)) (.int .i64 (x.f)) (.int .i64 (x.s)) (.int .i64 (x.n))
    exact ⟨D9.ds.src, D9.ds.gr⟩
  by_cases e1 : t = 1
  · subst e1
    go_wp2_with fail
    refine (pick_any _ B a len cap (kk + 1) ys P2.out.own.ds.src hl (by omega) [0, 9, 10] (by simp) (by simp)).mono ?_
    rintro e w4 ⟨v, hv, rfl, hS, hG⟩
    have P3 := hid (P2.out.draw hS hG)
    clear hS hG hv P2
    have P4 := hid (P3.out.put 1 (by simp) (.int .i64 v))
    have ff := P3.out.own.fr 1
    have c0 := P3.out.own.cell 0 _ rfl
    have g0 := P3.out.res.cell 0 _ rfl
    have f0 := P3.out.res.fr 0
    have c1 := P3.out.own.cell 1 _ rfl
    have g1 := P3.out.res.cell 1 _ rfl
    have f1 := P3.out.res.fr 1
    have c2 := P3.out.own.cell 2 _ rfl
    have g2 := P3.out.res.cell 2 _ rfl
    have f2 := P3.out.res.fr 2
    have c3 := P3.out.own.cell 3 _ rfl
    have g3 := P3.out.res.cell 3 _ rfl
    have f3 := P3.out.res.fr 3
    have c4 := P3.out.own.cell 4 _ rfl
    have g4 := P3.out.res.cell 4 _ rfl
    have f4 := P3.out.res.fr 4
    have hlt := P3.out.res.lt
    have hlt2 := P3.out.own.lt
    have hne := P3.out.ne
    go_wp2
    refine bodyPost_ret (v := .agg #[.int .i64 (x.k), .int .i64 (v), .int .i64 (x.f), .int .i64 (x.s), .int .i64 (x.n)]) (by simp [results, Tryz.results36, go_sem, g0, g1, g2, g3, g4, hlt, hne, Ne.symm hne]) rfl ⟨⟨x.k, v, x.f, x.s, x.n⟩, kk + 1 + 1, by omega, rfl, ?_⟩
    have D9 := P4.out.res.five (.int .i64 (x.k)) (.int .i64 (v)) (.int .i64 (x.f)) (.int .i64 (x.s)) (.int .i64 (x.n))
    exact ⟨D9.ds.src, D9.ds.gr⟩
  by_cases e2 : t = 2
  · subst e2
    go_wp2_with fail
    refine (pick_any _ B a len cap (kk + 1) ys P2.out.own.ds.src hl (by omega) [0, 4, 5] (by simp) (by simp)).mono ?_
    rintro e w4 ⟨v, hv, rfl, hS, hG⟩
    have P3 := hid (P2.out.draw hS hG)
    clear hS hG hv P2
    have P4 := hid (P3.out.put 2 (by simp) (.int .i64 v))
    have ff := P3.out.own.fr 2
    have c0 := P3.out.own.cell 0 _ rfl
    have g0 := P3.out.res.cell 0 _ rfl
    have f0 := P3.out.res.fr 0
    have c1 := P3.out.own.cell 1 _ rfl
    have g1 := P3.out.res.cell 1 _ rfl
    have f1 := P3.out.res.fr 1
    have c2 := P3.out.own.cell 2 _ rfl
    have g2 := P3.out.res.cell 2 _ rfl
    have f2 := P3.out.res.fr 2
    have c3 := P3.out.own.cell 3 _ rfl
    have g3 := P3.out.res.cell 3 _ rfl
    have f3 := P3.out.res.fr 3
    have c4 := P3.out.own.cell 4 _ rfl
    have g4 := P3.out.res.cell 4 _ rfl
    have f4 := P3.out.res.fr 4
    have hlt := P3.out.res.lt
    have hlt2 := P3.out.own.lt
    have hne := P3.out.ne
    go_wp2
    refine bodyPost_ret (v := .agg #[.int .i64 (x.k), .int .i64 (x.e), .int .i64 (v), .int .i64 (x.s), .int .i64 (x.n)]) (by simp [results, Tryz.results36, go_sem, g0, g1, g2, g3, g4, hlt, hne, Ne.symm hne]) rfl ⟨⟨x.k, x.e, v, x.s, x.n⟩, kk + 1 + 1, by omega, rfl, ?_⟩
    have D9 := P4.out.res.five (.int .i64 (x.k)) (.int .i64 (x.e)) (.int .i64 (v)) (.int .i64 (x.s)) (.int .i64 (x.n))
    exact ⟨D9.ds.src, D9.ds.gr⟩
  by_cases e3 : t = 3
  · subst e3
    go_wp2_with fail
    refine (pick_any _ B a len cap (kk + 1) ys P2.out.own.ds.src hl (by omega) [0, 255, 256] (by simp) (by simp)).mono ?_
    rintro e w4 ⟨v, hv, rfl, hS, hG⟩
    have P3 := hid (P2.out.draw hS hG)
    clear hS hG hv P2
    have P4 := hid (P3.out.put 3 (by simp) (.int .i64 v))
    have ff := P3.out.own.fr 3
    have c0 := P3.out.own.cell 0 _ rfl
    have g0 := P3.out.res.cell 0 _ rfl
    have f0 := P3.out.res.fr 0
    have c1 := P3.out.own.cell 1 _ rfl
    have g1 := P3.out.res.cell 1 _ rfl
    have f1 := P3.out.res.fr 1
    have c2 := P3.out.own.cell 2 _ rfl
    have g2 := P3.out.res.cell 2 _ rfl
    have f2 := P3.out.res.fr 2
    have c3 := P3.out.own.cell 3 _ rfl
    have g3 := P3.out.res.cell 3 _ rfl
    have f3 := P3.out.res.fr 3
    have c4 := P3.out.own.cell 4 _ rfl
    have g4 := P3.out.res.cell 4 _ rfl
    have f4 := P3.out.res.fr 4
    have hlt := P3.out.res.lt
    have hlt2 := P3.out.own.lt
    have hne := P3.out.ne
    go_wp2
    refine bodyPost_ret (v := .agg #[.int .i64 (x.k), .int .i64 (x.e), .int .i64 (x.f), .int .i64 (v), .int .i64 (x.n)]) (by simp [results, Tryz.results36, go_sem, g0, g1, g2, g3, g4, hlt, hne, Ne.symm hne]) rfl ⟨⟨x.k, x.e, x.f, v, x.n⟩, kk + 1 + 1, by omega, rfl, ?_⟩
    have D9 := P4.out.res.five (.int .i64 (x.k)) (.int .i64 (x.e)) (.int .i64 (x.f)) (.int .i64 (v)) (.int .i64 (x.n))
    exact ⟨D9.ds.src, D9.ds.gr⟩
  by_cases e4 : t = 4
  · subst e4
    go_wp2_with fail
    refine (pick_any _ B a len cap (kk + 1) ys P2.out.own.ds.src hl (by omega) [-1, 7, 8] (by simp) (by simp)).mono ?_
    rintro e w4 ⟨v, hv, rfl, hS, hG⟩
    have P3 := hid (P2.out.draw hS hG)
    clear hS hG hv P2
    have P4 := hid (P3.out.put 4 (by simp) (.int .i64 v))
    have ff := P3.out.own.fr 4
    have c0 := P3.out.own.cell 0 _ rfl
    have g0 := P3.out.res.cell 0 _ rfl
    have f0 := P3.out.res.fr 0
    have c1 := P3.out.own.cell 1 _ rfl
    have g1 := P3.out.res.cell 1 _ rfl
    have f1 := P3.out.res.fr 1
    have c2 := P3.out.own.cell 2 _ rfl
    have g2 := P3.out.res.cell 2 _ rfl
    have f2 := P3.out.res.fr 2
    have c3 := P3.out.own.cell 3 _ rfl
    have g3 := P3.out.res.cell 3 _ rfl
    have f3 := P3.out.res.fr 3
    have c4 := P3.out.own.cell 4 _ rfl
    have g4 := P3.out.res.cell 4 _ rfl
    have f4 := P3.out.res.fr 4
    have hlt := P3.out.res.lt
    have hlt2 := P3.out.own.lt
    have hne := P3.out.ne
    go_wp2
    refine bodyPost_ret (v := .agg #[.int .i64 (x.k), .int .i64 (x.e), .int .i64 (x.f), .int .i64 (x.s), .int .i64 (v)]) (by simp [results, Tryz.results36, go_sem, g0, g1, g2, g3, g4, hlt, hne, Ne.symm hne]) rfl ⟨⟨x.k, x.e, x.f, x.s, v⟩, kk + 1 + 1, by omega, rfl, ?_⟩
    have D9 := P4.out.res.five (.int .i64 (x.k)) (.int .i64 (x.e)) (.int .i64 (x.f)) (.int .i64 (x.s)) (.int .i64 (v))
    exact ⟨D9.ds.src, D9.ds.gr⟩
  have c0 := P2.out.own.cell 0 _ rfl
  have g0 := P2.out.res.cell 0 _ rfl
  have f0 := P2.out.res.fr 0
  have c1 := P2.out.own.cell 1 _ rfl
  have g1 := P2.out.res.cell 1 _ rfl
  have f1 := P2.out.res.fr 1
  have c2 := P2.out.own.cell 2 _ rfl
  have g2 := P2.out.res.cell 2 _ rfl
  have f2 := P2.out.res.fr 2
  have c3 := P2.out.own.cell 3 _ rfl
  have g3 := P2.out.res.cell 3 _ rfl
  have f3 := P2.out.res.fr 3
  have c4 := P2.out.own.cell 4 _ rfl
  have g4 := P2.out.res.cell 4 _ rfl
  have f4 := P2.out.res.fr 4
  have hlt := P2.out.res.lt
  have hlt2 := P2.out.own.lt
  have hne := P2.out.ne
  go_wp2
  refine bodyPost_ret (v := .agg #[.int .i64 (x.k), .int .i64 (x.e), .int .i64 (x.f), .int .i64 (x.s), .int .i64 (x.n)]) (by simp [results, Tryz.results36, go_sem, g0, g1, g2, g3, g4, hlt, hne, Ne.symm hne]) rfl ⟨⟨x.k, x.e, x.f, x.s, x.n⟩, kk + 1, by omega, rfl, ?_⟩
  have D9 := P2.out.res.five (.int .i64 (x.k)) (.int .i64 (x.e)) (.int .i64 (x.f)) (.int .i64 (x.s)) (.int .i64 (x.n))
  exact ⟨D9.ds.src, D9.ds.gr⟩

end Go.Proofs.YtdmejfhojdkfbaaGreatDoor
