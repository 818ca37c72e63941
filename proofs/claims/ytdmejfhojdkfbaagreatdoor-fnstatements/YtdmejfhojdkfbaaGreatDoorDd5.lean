/-
  CONTRACTS of the draws of chapter 7: l7Draw tells a statement without a fault; DrawParseStatement some short text, DrawUnpackStatement some words, DrawPackStatement some statement.
  Conditions: the code can be read, and has at most 1<<20 bytes.
-/
import Derived.Test.YtdmejfhojdkfbaaGreatDoorDd0
import Derived.Test.YtdmejfhojdkfbaaGreatDoorDraw2
import Derived.Test.YtdmejfhojdkfbaaGreatDoorSt4
import Derived.Test.YtdmejfhojdkfbaaGreatDoorPs0
import Derived.Test.YtdmejfhojdkfbaaGreatDoorSt15
namespace Go.Proofs.YtdmejfhojdkfbaaGreatDoor
open Go.RowKit
set_option linter.unusedVariables false
set_option linter.unusedSimpArgs false

theorem ok_next {u v : Int} (u0 : 0 ≤ u) (u1 : u < 2) (v0 : 0 ≤ v) (v1 : v < 3) : stCode ⟨3, 1 + u, 0, 0, v⟩ = 0 := by
  have h1 : inR (1 + u) 1 9 = true := by simp [inR]; omega
  have h2 : inR v 0 7 = true := by simp [inR]; omega
  simp [stCode, ownB, ownI, sameSt, formK, rngB, h1, h2]
  simp [inR]

theorem ok_take {v : Int} (v0 : 0 ≤ v) (v1 : v < 3) : stCode ⟨4, 1, 0, 0, v⟩ = 0 := by
  have h2 : inR v 0 7 = true := by simp [inR]; omega
  have h1 : inR 1 1 9 = true := by simp [inR]
  simp [stCode, ownB, ownI, sameSt, formK, rngB, h1, h2]
  simp [inR]

theorem ok_rev {u v m : Int} (u0 : 0 ≤ u) (u1 : u < 2) (v0 : 0 ≤ v) (v1 : v < 3) (m0 : 1 ≤ m) (m1 : m ≤ 255) : stCode ⟨2, 1 + u, 1 + v, m, 0⟩ = 0 := by
  have h1 : inR (1 + u) 1 9 = true := by simp [inR]; omega
  have h2 : inR (1 + v) 1 4 = true := by simp [inR]; omega
  have h3 : inR m 1 255 = true := by simp [inR]; omega
  simp [stCode, ownB, ownI, sameSt, formK, rngB, h1, h2, h3]
  simp [inR]

theorem ok_iss {u v m : Int} (u0 : 0 ≤ u) (u1 : u < 2) (v0 : 0 ≤ v) (v1 : v < 3) (m0 : 1 ≤ m) (m1 : m ≤ 255) : stCode ⟨1, 1 + u, 1 + v, m, 0⟩ = 0 := by
  have h1 : inR (1 + u) 1 9 = true := by simp [inR]; omega
  have h2 : inR (1 + v) 1 4 = true := by simp [inR]; omega
  have h3 : inR m 1 255 = true := by simp [inR]; omega
  simp [stCode, ownB, ownI, sameSt, formK, rngB, h1, h2, h3]
  simp [inR]

theorem max_and {d m : Int} (d0 : 0 ≤ d) (d1 : d ≤ 255) (y : Nat) (hy : y = 7 ∨ y = 15 ∨ y = 255) (hm : max 1 (bits .and .i64 d (y : Int)) = m) : 1 ≤ m ∧ m ≤ 255 := by
  have q := and_small ⟨d.toNat, by omega⟩ ⟨y, by omega⟩ hy
  have e : ((d.toNat : Nat) : Int) = d := Int.toNat_of_nonneg d0
  simp only [e] at q
  omega

theorem fourD (x y z u : Int) (k : Nat) (hk : k < 4) : [x, y, z, u][k]?.getD 0 = x ∨ [x, y, z, u][k]?.getD 0 = y ∨ [x, y, z, u][k]?.getD 0 = z ∨ [x, y, z, u][k]?.getD 0 = u := by
  match k, hk with
  | 0, _ => exact .inl rfl
  | 1, _ => exact .inr (.inl rfl)
  | 2, _ => exact .inr (.inr (.inl rfl))
  | 3, _ => exact .inr (.inr (.inr rfl))

theorem stT_both {x : StI} (h : stCode x = 0) : 4 ≤ (stText x).size ∧ (stText x).size ≤ 100 := by
  refine ⟨stT_min h, ?_⟩
  have := stT_size h
  simpa [stText, ByteArray.size] using this

/-- Words in a row of one's own. -/
def WdsAt (w : World) (g : Nat) (zs : List Int) : Prop := BoxW g (zs.map (Value.int .i64)) w

theorem WdsAt.grown {w w' : World} {g B : Nat} {zs : List Int} (h : WdsAt w g zs) (hl : g < w.heap.size) (hG : w.grownBy w' (some B)) (hne : g ≠ B) : WdsAt w' g zs := BoxW.grown h hl hG hne

theorem WdsAt.put {w : World} {g : Nat} {zs : List Int} (h : WdsAt w g zs) (k : Nat) (hk : k < zs.length) (m : Int) : WdsAt (w.setCell ⟨g, k, none⟩ (.int .i64 m)) g (zs.set k m) := by
  have q := BoxW.put h k (by simpa using hk) (.int .i64 m)
  rw [← List.map_set] at q
  exact q

theorem WdsAt.has {w : World} {g : Nat} {zs : List Int} (h : WdsAt w g zs) (k : Nat) (hk : k < zs.length) : ∃ v, w.cell? ⟨g, k, none⟩ = some v :=
  ⟨_, h.1 k _ (by rw [List.getElem?_map, List.getElem?_eq_getElem hk]; rfl)⟩

theorem WdsAt.ints {w : World} {g n : Nat} {zs : List Int} (hn : zs.length = n) (h : WdsAt w g zs) : IntIn w (some ⟨g, 0, none⟩) n zs :=
  ⟨hn, fun _ => ⟨g, 0, rfl, fun k x e => by rw [Nat.zero_add]; exact h.1 k _ (by rw [List.getElem?_map, e]; rfl)⟩⟩

theorem WdsAt.take {w : World} {g : Nat} {zs : List Int} (h : WdsAt w g zs) (k : Nat) : WdsAt w g (zs.take k) :=
  ⟨fun j v e => h.1 j v (by
    rw [List.getElem?_map] at e ⊢
    rw [List.getElem?_take] at e
    by_cases q : j < k
    · rwa [if_pos q] at e
    · rw [if_neg q] at e; cases e), h.2⟩

theorem wds_of {w : World} {B g : Nat} {zs : List Int} (hl : zs.length = 6) (h : w.ownsRow B 2 1 (.slice (some ⟨g, 0, none⟩) 6 6) 6 (zs.map (Value.int .i64))) : Hid (WdsAt w g zs) ∧ g < w.heap.size := by
  have hb : WdsAt w g zs := by
    refine ⟨fun j v e => ?_, fun j => h.frozenAt j⟩
    by_cases q : j < 6
    · exact (h.cellAt j (by omega)).trans e
    · rw [List.getElem?_eq_none (by simp; omega)] at e
      cases e
  obtain ⟨v, hv⟩ := hb.has 0 (by omega)
  exact ⟨hb, World.block_lt_of_cell? _ _ hv⟩

/-- What a draw of a statement without a fault gives. -/
def GivesSS (fn : Nat) (w : World) (B : Nat) (a : Option Addr) (len cap k d : Nat) (ys : List Int) : Prop := Calls Tryz.prog fn #[.pointer (some ⟨B, 0, none⟩)] w fun e w' => ∃ (x : StI) (kk : Nat), kk ≤ k + d ∧ stCode x = 0 ∧ e = .returned (.agg #[.int .i64 x.k, .int .i64 x.e, .int .i64 x.f, .int .i64 x.s, .int .i64 x.n]) ∧ SrcAt w' B a len cap kk ys ∧ w.grownBy w' (some B)

set_option maxRecDepth 20000 in
set_option maxHeartbeats 4000000 in
theorem draw7s_c (w : World) (B : Nat) (a : Option Addr) (len cap k : Nat) (ys : List Int) (h : SrcAt w B a len cap k ys) (hl : len ≤ 1048576) (hk : k ≤ 800) :
    GivesSS 19 w B a len cap k 5 ys := by
  unfold GivesSS
  have D0 : Hid (DB w (w.alloc (.cells #[.int .i64 0, .int .i64 0, .int .i64 0, .int .i64 0, .int .i64 0] 26)) B a len cap k ys w.heap.size _) := DB.start h _ _
  clear h
  go_enter Tryz.func19, Tryz.ntmps19
  go_wp2_with fail
  refine (next_c _ B a len cap (k) ys 7 D0.out.ds.src hl (by omega) (by omega) (by omega)).mono ?_
  rintro e w1 ⟨t, t0, t1, rfl, hS, hG⟩
  have D1 := hid (D0.out.draw hS hG)
  clear hS hG D0
  by_cases e0 : t = 0
  · subst e0
    go_wp2_with fail
    refine (next_c _ B a len cap (k + 1) ys 2 D1.out.ds.src hl (by omega) (by omega) (by omega)).mono ?_
    rintro e w2 ⟨u, u0, u1, rfl, hS, hG⟩
    have D2 := hid (D1.out.draw hS hG)
    clear hS hG D1
    go_wp2_with fail
    refine (next_c _ B a len cap (k + 1 + 1) ys 3 D2.out.ds.src hl (by omega) (by omega) (by omega)).mono ?_
    rintro e w3 ⟨v, v0, v1, rfl, hS, hG⟩
    have D3 := hid (D2.out.draw hS hG)
    clear hS hG D2
    have c0 := D3.out.cell 0 _ rfl
    have c1 := D3.out.cell 1 _ rfl
    have c2 := D3.out.cell 2 _ rfl
    have c3 := D3.out.cell 3 _ rfl
    have c4 := D3.out.cell 4 _ rfl
    have f0 := D3.out.fr 0
    have f1 := D3.out.fr 1
    have f2 := D3.out.fr 2
    have f3 := D3.out.fr 3
    have f4 := D3.out.fr 4
    have hlt := D3.out.lt
    go_wp2
    refine bodyPost_ret (v := .agg #[.int .i64 (3), .int .i64 (1 + u), .int .i64 (0), .int .i64 (0), .int .i64 (v)]) (by simp [results, Tryz.results19, go_sem, c0, c1, c2, c3, c4, hlt]) rfl ⟨⟨3, 1 + u, 0, 0, v⟩, k + 1 + 1 + 1, by omega, ok_next u0 u1 v0 v1, rfl, ?_⟩
    have D9 := D3.out.five (.int .i64 (3)) (.int .i64 (1 + u)) (.int .i64 (0)) (.int .i64 (0)) (.int .i64 (v))
    exact ⟨D9.ds.src, D9.ds.gr⟩
  by_cases e2 : t = 2
  · subst e2
    go_wp2_with fail
    refine (next_c _ B a len cap (k + 1) ys 3 D1.out.ds.src hl (by omega) (by omega) (by omega)).mono ?_
    rintro e w2 ⟨u, u0, u1, rfl, hS, hG⟩
    have D2 := hid (D1.out.draw hS hG)
    clear hS hG D1
    have c0 := D2.out.cell 0 _ rfl
    have c1 := D2.out.cell 1 _ rfl
    have c2 := D2.out.cell 2 _ rfl
    have c3 := D2.out.cell 3 _ rfl
    have c4 := D2.out.cell 4 _ rfl
    have f0 := D2.out.fr 0
    have f1 := D2.out.fr 1
    have f2 := D2.out.fr 2
    have f3 := D2.out.fr 3
    have f4 := D2.out.fr 4
    have hlt := D2.out.lt
    go_wp2
    refine bodyPost_ret (v := .agg #[.int .i64 (4), .int .i64 (1), .int .i64 (0), .int .i64 (0), .int .i64 (u)]) (by simp [results, Tryz.results19, go_sem, c0, c1, c2, c3, c4, hlt]) rfl ⟨⟨4, 1, 0, 0, u⟩, k + 1 + 1, by omega, ok_take u0 u1, rfl, ?_⟩
    have D9 := D2.out.five (.int .i64 (4)) (.int .i64 (1)) (.int .i64 (0)) (.int .i64 (0)) (.int .i64 (u))
    exact ⟨D9.ds.src, D9.ds.gr⟩
  by_cases e1 : t = 1
  · subst e1
    go_wp2_with fail
    refine (next_c _ B a len cap (k + 1) ys 2 D1.out.ds.src hl (by omega) (by omega) (by omega)).mono ?_
    rintro e w2 ⟨u, u0, u1, rfl, hS, hG⟩
    have D2 := hid (D1.out.draw hS hG)
    clear hS hG D1
    go_wp2_with fail
    refine (next_c _ B a len cap (k + 1 + 1) ys 3 D2.out.ds.src hl (by omega) (by omega) (by omega)).mono ?_
    rintro e w3 ⟨v, v0, v1, rfl, hS, hG⟩
    have D3 := hid (D2.out.draw hS hG)
    clear hS hG D2
    go_wp2_with fail
    refine (draw_c _ B a len cap (k + 1 + 1 + 1) ys D3.out.ds.src hl (by omega)).mono ?_
    rintro e w4 ⟨d, d0, d1, rfl, hS, hG⟩
    have D4 := hid (D3.out.draw hS hG)
    clear hS hG D3
    go_wp2_with fail
    refine (l1Max_c 1 _ _).mono ?_
    rintro e w5 ⟨rfl, rfl⟩
    obtain ⟨m, hm⟩ : ∃ m : Int, max 1 (bits .and .i64 d 7) = m := ⟨_, rfl⟩
    have hmb := max_and d0 d1 7 (by omega) hm
    rw [hm]
    clear hm
    have c0 := D4.out.cell 0 _ rfl
    have c1 := D4.out.cell 1 _ rfl
    have c2 := D4.out.cell 2 _ rfl
    have c3 := D4.out.cell 3 _ rfl
    have c4 := D4.out.cell 4 _ rfl
    have f0 := D4.out.fr 0
    have f1 := D4.out.fr 1
    have f2 := D4.out.fr 2
    have f3 := D4.out.fr 3
    have f4 := D4.out.fr 4
    have hlt := D4.out.lt
    go_wp2
    refine bodyPost_ret (v := .agg #[.int .i64 (2), .int .i64 (1 + u), .int .i64 (1 + v), .int .i64 (m), .int .i64 (0)]) (by simp [results, Tryz.results19, go_sem, c0, c1, c2, c3, c4, hlt]) rfl ⟨⟨2, 1 + u, 1 + v, m, 0⟩, k + 1 + 1 + 1 + 2, by omega, ok_rev u0 u1 v0 v1 hmb.1 hmb.2, rfl, ?_⟩
    have D9 := D4.out.five (.int .i64 (2)) (.int .i64 (1 + u)) (.int .i64 (1 + v)) (.int .i64 (m)) (.int .i64 (0))
    exact ⟨D9.ds.src, D9.ds.gr⟩
  go_wp2_with fail
  refine (next_c _ B a len cap (k + 1) ys 2 D1.out.ds.src hl (by omega) (by omega) (by omega)).mono ?_
  rintro e w2 ⟨u, u0, u1, rfl, hS, hG⟩
  have D2 := hid (D1.out.draw hS hG)
  clear hS hG D1
  go_wp2_with fail
  refine (next_c _ B a len cap (k + 1 + 1) ys 3 D2.out.ds.src hl (by omega) (by omega) (by omega)).mono ?_
  rintro e w3 ⟨v, v0, v1, rfl, hS, hG⟩
  have D3 := hid (D2.out.draw hS hG)
  clear hS hG D2
  go_wp2_with fail
  refine (draw_c _ B a len cap (k + 1 + 1 + 1) ys D3.out.ds.src hl (by omega)).mono ?_
  rintro e w4 ⟨d, d0, d1, rfl, hS, hG⟩
  have D4 := hid (D3.out.draw hS hG)
  clear hS hG D3
  go_wp2_with fail
  refine (l1Max_c 1 _ _).mono ?_
  rintro e w5 ⟨rfl, rfl⟩
  obtain ⟨m, hm⟩ : ∃ m : Int, max 1 (bits .and .i64 d 15) = m := ⟨_, rfl⟩
  have hmb := max_and d0 d1 15 (by omega) hm
  rw [hm]
  clear hm
  have c0 := D4.out.cell 0 _ rfl
  have c1 := D4.out.cell 1 _ rfl
  have c2 := D4.out.cell 2 _ rfl
  have c3 := D4.out.cell 3 _ rfl
  have c4 := D4.out.cell 4 _ rfl
  have f0 := D4.out.fr 0
  have f1 := D4.out.fr 1
  have f2 := D4.out.fr 2
  have f3 := D4.out.fr 3
  have f4 := D4.out.fr 4
  have hlt := D4.out.lt
  go_wp2
  refine bodyPost_ret (v := .agg #[.int .i64 (1), .int .i64 (1 + u), .int .i64 (1 + v), .int .i64 (m), .int .i64 (0)]) (by simp [results, Tryz.results19, go_sem, c0, c1, c2, c3, c4, hlt]) rfl ⟨⟨1, 1 + u, 1 + v, m, 0⟩, k + 1 + 1 + 1 + 2, by omega, ok_iss u0 u1 v0 v1 hmb.1 hmb.2, rfl, ?_⟩
  have D9 := D4.out.five (.int .i64 (1)) (.int .i64 (1 + u)) (.int .i64 (1 + v)) (.int .i64 (m)) (.int .i64 (0))
  exact ⟨D9.ds.src, D9.ds.gr⟩

set_option maxHeartbeats 1000000 in
theorem drawParseS_c (w : World) (a : Option Addr) (len cap : Nat) (ys : List Int) (h : CodeIn w a len ys) (hl : len ≤ 1048576) :
    Calls Tryz.prog 5 #[.slice a len cap] w fun e w' => ∃ t : ByteArray, t.size ≤ 1048576 ∧ e = .returned (.string t) ∧ Below w.heap.size w w' := by
  have HS : Hid (SrcAt (w.alloc (.cells #[.slice a len cap, .int .i64 0] 69)) w.heap.size a len cap 0 ys) := src_new w a len cap ys h
  clear h
  go_enter Tryz.func5, Tryz.ntmps5
  go_wp2_with fail
  refine (source_c a len cap w).mono ?_
  rintro e w1 ⟨rfl, rfl⟩
  go_wp2_with fail
  have HD := draw7s_c _ w.heap.size a len cap 0 ys HS.out hl (by omega)
  unfold GivesSS at HD
  refine HD.mono ?_
  clear HD
  rintro e w2 ⟨r, k2, hk2, hr, rfl, hS2, hG2⟩
  have B2 : Hid (Below w.heap.size w w2) := ((Below.refl _ _).alloc (Nat.le_refl _) _).grown hG2 (by simp) (fun k e => by simp at e; omega)
  have H2 : Hid (SrcAt w2 w.heap.size a len cap k2 ys) := hS2
  have HR : Hid (stCode r = 0) := hr
  clear HS hS2 hG2 hr
  go_wp2_with fail
  refine (l7Text_c _ _ r _ (StAt.new w2 r _) HR.out).mono ?_
  rintro e w3 ⟨rfl, hb3'⟩
  have hb3 : Below w2.heap.size w2 w3 := below_new hb3'
  have H3 : Hid (SrcAt w3 w.heap.size a len cap k2 ys) := H2.out.below hb3
  have B3 : Hid (Below w.heap.size w w3) := B2.out.trans (hb3.mono B2.out.size)
  have hsz := stT_both HR.out
  obtain ⟨T, hT⟩ : ∃ T : ByteArray, T = stText r := ⟨_, rfl⟩
  rw [← hT] at hsz ⊢
  clear hT H2 B2 hb3 hb3'
  obtain ⟨capB, wB, C, hconv, hblk, hCs, hC, hbB, hcapB⟩ := conv_block w3 T
  have HB : Hid (wB.heap[w3.heap.size]? = some (.cells C 5 (C.size, C.size + 1)) ∧ T.size ≤ C.size ∧ (∀ j, j < T.size → C[j]? = some (.int .u8 ((T.data.toList[j]?.getD 0).toNat : Int))) ∧ Below w3.heap.size w3 wB) := ⟨hblk, hCs, hC, hbB⟩
  have H4 : Hid (SrcAt wB w.heap.size a len cap k2 ys) := H3.out.below hbB
  have H3l := H3.out.lt
  clear hblk hCs hC hbB H3
  go_wp2_with fail
  refine (next_c wB w.heap.size a len cap k2 ys 5 H4.out hl (by omega) (by omega) (by omega)).mono ?_
  rintro e w5 ⟨x, x0, x1, rfl, hS5, hG5⟩
  have hne : w3.heap.size ≠ w.heap.size := by have := H4.out.lt; have := H3l; omega
  have H5 : Hid (SrcAt w5 w.heap.size a len cap (k2 + 1) ys) := hS5
  have HB5 : Hid (w5.heap[w3.heap.size]? = some (.cells C 5 (C.size, C.size + 1))) := (hG5.block _ (Array.getElem?_eq_some_iff.1 HB.out.1).1 (by simpa using hne)).trans HB.out.1
  have B5 : Hid (Below w.heap.size w w5) := (B3.out.trans (HB.out.2.2.2.mono B3.out.size)).grown hG5 (by have := B3.out.size; have := HB.out.2.2.2.size; omega) (fun k e => by simp at e; omega)
  clear hS5 hG5 H4 hconv
  have hx : x = 0 ∨ x = 1 ∨ (1 < x) := by omega
  rcases hx with rfl | rfl | hx
  · go_wp2_with fail
    refine (next_c w5 w.heap.size a len cap (k2 + 1) ys (T.size : Int) H5.out hl (by omega) (by omega) (by omega)).mono ?_
    rintro e w6 ⟨k', k0, k1, rfl, hS6, hG6⟩
    obtain ⟨k, rfl⟩ := Int.eq_ofNat_of_zero_le k0
    have hkT : k < T.size := by omega
    have hkT' : (k : Int) < (T.size : Int) := by omega
    have H6 : Hid (SrcAt (w6.alloc (.cells #[.int .i64 49, .int .i64 48, .int .i64 57, .int .i64 32] 2)) w.heap.size a len cap (k2 + 2) ys) := hS6.below ((Below.refl _ _).alloc (Nat.le_refl _) _)
    have HB6 : Hid (w6.heap[w3.heap.size]? = some (.cells C 5 (C.size, C.size + 1))) := (hG6.block _ (Array.getElem?_eq_some_iff.1 HB5.out).1 (by simpa using hne)).trans HB5.out
    have B6 : Hid (Below w.heap.size w w6) := B5.out.grown hG6 (by have := B5.out.size; omega) (fun k e => by simp at e; omega)
    have hz6 := hS6.lt
    have hz3 := (Array.getElem?_eq_some_iff.1 HB6.out).1
    clear hS6 hG6 H5
    go_wp2_with fail
    refine (pick_c _ w.heap.size a len cap (k2 + 2) ys H6.out hl (by omega) w6.heap.size 4 4 [49, 48, 57, 32] rfl (by omega) (by omega) (by omega) (fun k hk => by
      match k, hk with
      | 0, _ => simp
      | 1, _ => simp
      | 2, _ => simp
      | 3, _ => simp)).mono ?_
    rintro e w7 ⟨q, hq, rfl, hS7, hG7⟩
    obtain ⟨m, hm⟩ : ∃ m : Int, m = ([49, 48, 57, 32] : List Int)[q]?.getD 0 := ⟨_, rfl⟩
    rw [← hm]
    have hmb : 0 ≤ m ∧ m ≤ 255 := by rcases fourD 49 48 57 32 q hq with e | e | e | e <;> rw [hm, e] <;> omega
    obtain ⟨m0, m1⟩ := hmb
    have HB7 : Hid (w7.heap[w3.heap.size]? = some (.cells C 5 (C.size, C.size + 1))) := (hG7.block _ (by simp; omega) (by simpa using hne)).trans ((Below.heap_alloc _ _ _ hz3).trans HB6.out)
    have B7 : Hid (Below w.heap.size w w7) := (B6.out.alloc (by omega) _).grown hG7 (by simp; omega) (fun k e => by simp at e; omega)
    clear hm hS7 hG7 H6
    have hkC : k < C.size := Nat.lt_of_lt_of_le hkT HB.out.2.1
    have hck : w7.cell? ⟨w3.heap.size, k, none⟩ = some (C[k]'hkC) := by simp [World.cell?, HB7.out, hkC]
    obtain ⟨v9, hv9⟩ : ∃ v9, w7.cell? ⟨w3.heap.size, k, none⟩ = some v9 := ⟨_, hck⟩
    have hfk : w7.frozen? ⟨w3.heap.size, k, none⟩ = false := by simp [World.frozen?, HB7.out]; omega
    have hblk2 : (w7.setCell ⟨w3.heap.size, k, none⟩ (.int .u8 m)).heap[w3.heap.size]? = some (.cells (C.setIfInBounds k (.int .u8 m)) 5 (C.size, C.size + 1)) := set_block HB7.out
    have hcv := conv_back (m := T.size) (f := fun j => if j = k then m else ((T.data.toList[j]?.getD 0).toNat : Int)) hblk2 (by simpa using HB.out.2.1) (fun j hj => by
      rw [Array.getElem?_setIfInBounds]
      by_cases e : k = j
      · subst e; simp [hkC]
      · rw [if_neg e, HB.out.2.2.1 j hj, if_neg (by omega)]) T.size capB (Nat.le_refl _)
    obtain ⟨R, hR, hcv⟩ := hcv
    clear hck hblk2
    go_wp2
    go_ret
    exact ⟨R, by omega, rfl, B7.out.setCell (p := ⟨w3.heap.size, k, none⟩) (by simp; omega) _⟩
  · go_wp2_with fail
    refine (next_c w5 w.heap.size a len cap (k2 + 1) ys (T.size : Int) H5.out hl (by omega) (by omega) (by omega)).mono ?_
    rintro e w6 ⟨k', k0, k1, rfl, hS6, hG6⟩
    obtain ⟨k, rfl⟩ := Int.eq_ofNat_of_zero_le k0
    have hkT : k < T.size := by omega
    have hkT' : (k : Int) ≤ (capB : Int) := by omega
    have HB6 : Hid (w6.heap[w3.heap.size]? = some (.cells C 5 (C.size, C.size + 1))) := (hG6.block _ (Array.getElem?_eq_some_iff.1 HB5.out).1 (by simpa using hne)).trans HB5.out
    have B6 : Hid (Below w.heap.size w w6) := B5.out.grown hG6 (by have := B5.out.size; omega) (fun k e => by simp at e; omega)
    have hcv := conv_back HB6.out HB.out.2.1 HB.out.2.2.1 k capB (by omega)
    obtain ⟨R, hR, hcv⟩ := hcv
    clear hS6 hG6 H5
    go_wp2
    go_ret
    exact ⟨R, by omega, rfl, B6.out⟩
  · have e0 : (x == 0) = false := by simp; omega
    have e1 : (x == 1) = false := by simp; omega
    have hcv := conv_back (w := w5) HB5.out HB.out.2.1 HB.out.2.2.1 T.size capB (Nat.le_refl _)
    obtain ⟨R, hR, hcv⟩ := hcv
    go_wp2
    go_ret
    exact ⟨R, by omega, rfl, B5.out⟩

set_option maxRecDepth 20000 in
set_option maxHeartbeats 1000000 in
theorem drawUnpackS_c (w : World) (a : Option Addr) (len cap : Nat) (ys : List Int) (h : CodeIn w a len ys) (hl : len ≤ 1048576) :
    Calls Tryz.prog 9 #[.slice a len cap] w fun e w' => ∃ (g n c : Nat) (zs : List Int), n ≤ 6 ∧ e = .returned (.slice (some ⟨g, 0, none⟩) n c) ∧ IntIn w' (some ⟨g, 0, none⟩) n zs ∧ Below w.heap.size w w' := by
  have HS : Hid (SrcAt (w.alloc (.cells #[.slice a len cap, .int .i64 0] 69)) w.heap.size a len cap 0 ys) := src_new w a len cap ys h
  clear h
  go_enter Tryz.func9, Tryz.ntmps9
  go_wp2_with fail
  refine (source_c a len cap w).mono ?_
  rintro e w1 ⟨rfl, rfl⟩
  go_wp2_with fail
  have HD := draw7s_c _ w.heap.size a len cap 0 ys HS.out hl (by omega)
  unfold GivesSS at HD
  refine HD.mono ?_
  clear HD
  rintro e w2 ⟨r, k2, hk2, hr, rfl, hS2, hG2⟩
  have B2 : Hid (Below w.heap.size w w2) := ((Below.refl _ _).alloc (Nat.le_refl _) _).grown hG2 (by simp) (fun k e => by simp at e; omega)
  have H2 : Hid (SrcAt w2 w.heap.size a len cap k2 ys) := hS2
  have HR : Hid (stCode r = 0) := hr
  clear HS hS2 hG2 hr
  go_wp2_with fail
  refine (l7Pack_c _ _ r _ (StAt.new w2 r _) HR.out).mono ?_
  rintro e w3 ⟨rfl, how, hb3'⟩
  have hb3 : Below w2.heap.size w2 w3 := below_new hb3'
  have H3 : Hid (SrcAt w3 w.heap.size a len cap k2 ys) := H2.out.below hb3
  have B3 : Hid (Below w.heap.size w w3) := B2.out.trans (hb3.mono B2.out.size)
  obtain ⟨G, hG⟩ : ∃ G, (w2.alloc (.cells #[.int .i64 r.k, .int .i64 r.e, .int .i64 r.f, .int .i64 r.s, .int .i64 r.n] 26)).heap.size = G := ⟨_, rfl⟩
  have hG0 : w.heap.size < G := by rw [← hG]; have := H2.out.lt; simp; omega
  obtain ⟨zs, hzs⟩ : ∃ zs, packL r = zs := ⟨_, rfl⟩
  have hzl : zs.length = 6 := by rw [← hzs]; rfl
  rw [hG, hzs] at how
  obtain ⟨W3, hGl⟩ : Hid (WdsAt w3 G zs) ∧ G < w3.heap.size := wds_of hzl how
  rw [hG]
  clear hG how hb3 hb3' H2 B2 hzs HR
  go_wp2_with fail
  refine (next_c w3 w.heap.size a len cap k2 ys 5 H3.out hl (by omega) (by omega) (by omega)).mono ?_
  rintro e w5 ⟨x, x0, x1, rfl, hS5, hG5⟩
  have hne : G ≠ w.heap.size := by omega
  have H5 : Hid (SrcAt w5 w.heap.size a len cap (k2 + 1) ys) := hS5
  have W5 : Hid (WdsAt w5 G zs) := W3.out.grown hGl hG5 hne
  have hG5l : G < w5.heap.size := Nat.lt_of_lt_of_le hGl hG5.size
  have B5 : Hid (Below w.heap.size w w5) := B3.out.grown hG5 (by have := B3.out.size; omega) (fun k e => by simp at e; omega)
  clear hS5 hG5 H3 B3 W3 hGl
  have hx : x = 0 ∨ x = 1 ∨ (1 < x) := by omega
  rcases hx with rfl | rfl | hx
  · go_wp2_with fail
    refine (next_c w5 w.heap.size a len cap (k2 + 1) ys 6 H5.out hl (by omega) (by omega) (by omega)).mono ?_
    rintro e w6 ⟨k', k0, k1, rfl, hS6, hG6⟩
    obtain ⟨k, rfl⟩ := Int.eq_ofNat_of_zero_le k0
    have hk6 : k < 6 := by omega
    have W6 : Hid (WdsAt w6 G zs) := W5.out.grown hG5l hG6 hne
    have hG6l : G < w6.heap.size := Nat.lt_of_lt_of_le hG5l hG6.size
    have B6 : Hid (Below w.heap.size w w6) := B5.out.grown hG6 (by have := B5.out.size; omega) (fun k e => by simp at e; omega)
    have H6 : Hid (SrcAt w6 w.heap.size a len cap (k2 + 1 + 1) ys) := hS6
    have hz6 := hS6.lt
    clear hS6 hG6 H5 W5 B5
    go_wp2_with fail
    refine (pick_any _ w.heap.size a len cap (k2 + 1 + 1) ys H6.out hl (by omega) [0, 1, 2, 300] (by simp) (by simp)).mono ?_
    rintro e w7 ⟨m, hm, rfl, hS7, hG7⟩
    have W7 : Hid (WdsAt w7 G zs) := W6.out.grown hG6l hG7 hne
    have B7 : Hid (Below w.heap.size w w7) := B6.out.grown hG7 (by have := B6.out.size; omega) (fun k e => by simp at e; omega)
    have hG7l : G < w7.heap.size := Nat.lt_of_lt_of_le hG6l hG7.size
    clear hm hS7 hG7 H6
    obtain ⟨v9, hv9⟩ := W7.out.has k (by omega)
    have hfk := W7.out.2 k
    have W8 := hid (W7.out.put k (by omega) m)
    clear W7 W6 B6
    go_wp2_with fail
    go_ret
    exact ⟨G, 6, 6, _, by omega, rfl, WdsAt.ints (by simp [hzl]) W8.out, B7.out.setCell (p := ⟨G, k, none⟩) (by simp; omega) _⟩
  · go_wp2_with fail
    refine (next_c w5 w.heap.size a len cap (k2 + 1) ys 6 H5.out hl (by omega) (by omega) (by omega)).mono ?_
    rintro e w6 ⟨k', k0, k1, rfl, hS6, hG6⟩
    obtain ⟨k, rfl⟩ := Int.eq_ofNat_of_zero_le k0
    have hk6 : k < 6 := by omega
    have W6 : Hid (WdsAt w6 G zs) := W5.out.grown hG5l hG6 hne
    have B6 : Hid (Below w.heap.size w w6) := B5.out.grown hG6 (by have := B5.out.size; omega) (fun k e => by simp at e; omega)
    clear hS6 hG6 H5
    go_wp2
    go_ret
    exact ⟨G, k, 6, zs.take k, by omega, rfl, WdsAt.ints (by simp [hzl]; omega) (W6.out.take k), B6.out⟩
  · have e0 : (x == 0) = false := by simp; omega
    have e1 : (x == 1) = false := by simp; omega
    go_wp2
    go_ret
    exact ⟨G, 6, 6, zs, by omega, rfl, WdsAt.ints hzl W5.out, B5.out⟩

set_option maxRecDepth 20000 in
set_option maxHeartbeats 1000000 in
theorem drawPackS_c (w : World) (a : Option Addr) (len cap : Nat) (ys : List Int) (h : CodeIn w a len ys) (hl : len ≤ 1048576) :
    Calls Tryz.prog 14 #[.slice a len cap] w fun e w' => ∃ x : StI, e = .returned (.agg #[.int .i64 x.k, .int .i64 x.e, .int .i64 x.f, .int .i64 x.s, .int .i64 x.n]) ∧ Below w.heap.size w w' := by
  obtain ⟨V, hV⟩ : ∃ V, V = w.alloc (.cells #[.int .i64 0, .int .i64 0, .int .i64 0, .int .i64 0, .int .i64 0] 26) := ⟨_, rfl⟩
  have BV : Below w.heap.size w V := by rw [hV]; exact (Below.refl _ _).alloc (Nat.le_refl _) _
  have XV : BoxW w.heap.size [.int .i64 0, .int .i64 0, .int .i64 0, .int .i64 0, .int .i64 0] V := by rw [hV]; exact boxW_new w _ _
  have hVl : w.heap.size < V.heap.size := by rw [hV]; simp
  have hc : CodeIn V a len ys := h.kept (row := none) ⟨BV.os, BV.tape, BV.output, BV.size, fun k hk _ => BV.block k hk⟩ (fun _ _ _ => .inr (by simp))
  have HS : Hid (SrcAt (V.alloc (.cells #[.slice a len cap, .int .i64 0] 69)) V.heap.size a len cap 0 ys) := src_new V a len cap ys hc
  have HX : Hid (BoxW w.heap.size [.int .i64 0, .int .i64 0, .int .i64 0, .int .i64 0, .int .i64 0] (V.alloc (.cells #[.slice a len cap, .int .i64 0] 69))) := BoxW.below XV hVl ((Below.refl _ _).alloc (Nat.le_refl _) _)
  have HB : Hid (Below w.heap.size w (V.alloc (.cells #[.slice a len cap, .int .i64 0] 69))) := BV.alloc BV.size _
  clear h hc XV BV
  go_enter Tryz.func14, Tryz.ntmps14
  go_wp2_with fail
  rw [← hV]
  clear hV
  refine (source_c a len cap V).mono ?_
  rintro e w1 ⟨rfl, rfl⟩
  go_wp2_with fail
  have HD := bent7_c _ V.heap.size a len cap 0 ys HS.out hl (by omega)
  unfold GivesST at HD
  refine HD.mono ?_
  clear HD
  rintro e w2 ⟨r, k2, hk2, rfl, hS2, hG2⟩
  have X2 := BoxW.grown HX.out (by simp; omega) hG2 (by omega)
  have B2 : Hid (Below w.heap.size w w2) := HB.out.grown hG2 (by simp; omega) (fun k e => by simp at e; omega)
  have hlt : w.heap.size < w2.heap.size := by have := hG2.size; simp at this; omega
  have c0 := X2.1 0 _ rfl
  have c1 := X2.1 1 _ rfl
  have c2 := X2.1 2 _ rfl
  have c3 := X2.1 3 _ rfl
  have c4 := X2.1 4 _ rfl
  have f0 := X2.2 0
  have f1 := X2.2 1
  have f2 := X2.2 2
  have f3 := X2.2 3
  have f4 := X2.2 4
  clear HS HX HB hS2 hG2 X2
  go_wp2
  refine bodyPost_ret (v := .agg #[.int .i64 r.k, .int .i64 r.e, .int .i64 r.f, .int .i64 r.s, .int .i64 r.n]) (by simp [results, Tryz.results14, go_sem, c0, c1, c2, c3, c4, hlt]) rfl ⟨r, rfl, ?_⟩
  exact ((((B2.out.setCell (Nat.le_refl _) _).setCell (Nat.le_refl _) _).setCell (Nat.le_refl _) _).setCell (Nat.le_refl _) _).setCell (Nat.le_refl _) _

end Go.Proofs.YtdmejfhojdkfbaaGreatDoor
