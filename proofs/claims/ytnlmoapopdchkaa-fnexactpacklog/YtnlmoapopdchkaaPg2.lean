/-
  CONTRACTS: chapter 11, the program: PackLog.
  Conditions: each contract bears its own.
-/
import Derived.Test.YtnlmoapopdchkaaPg1
import Derived.Deep.WholeRow
namespace Go.Proofs.Ytnlmoapopdchkaa
open Go.RowKit
set_option linter.unusedVariables false
set_option linter.unusedSimpArgs false

/-- A page with the words of the first statements. -/
def pgTo (xs : List StI) (k : Nat) : List Int := packTo xs k ++ List.replicate (240 - k * 6) 0

theorem pgTo_len {xs : List StI} {k : Nat} (h : k ≤ xs.length) (hk : k ≤ 40) : (pgTo xs k).length = 240 := by
  unfold pgTo
  rw [List.length_append, packTo_len h, List.length_replicate]
  omega

theorem pgTo_next {xs : List StI} {k : Nat} {x : StI} (h : xs[k]? = some x) (hk : k < 40) : putZ (pgTo xs k) (k * 6) (packL x) = pgTo xs (k + 1) := by
  have hl : (packTo xs k).length = k * 6 := packTo_len (by have := (List.getElem?_eq_some_iff.1 h).1; omega)
  unfold putZ pgTo
  rw [packTo_next h, packL_len, List.take_left' hl, List.drop_append, List.drop_of_length_le (by omega), List.nil_append, List.drop_replicate, hl]
  congr 2
  omega

theorem pgTo_take {xs : List StI} {k : Nat} (h : k ≤ xs.length) : (pgTo xs k).take (k * 6) = packTo xs k := by
  unfold pgTo
  exact List.take_left' (packTo_len h)

theorem packTo_at {xs : List StI} {k j : Nat} {y : StI} (hk : k ≤ xs.length) (hj : j < k) (hy : xs[j]? = some y) : (packTo xs k)[j * 6]? = some y.k := by
  induction k with
  | zero => omega
  | succ k ih =>
    obtain ⟨x, hx⟩ : ∃ x, xs[k]? = some x := ⟨_, List.getElem?_eq_getElem (by omega)⟩
    have hl : (packTo xs k).length = k * 6 := packTo_len (by omega)
    rw [packTo_next hx]
    by_cases e : j = k
    · subst e
      rw [hx] at hy
      cases hy
      rw [List.getElem?_append_right (by omega), hl, Nat.sub_self]
      rfl
    · rw [List.getElem?_append_left (by omega)]
      exact ih (by omega) (by omega)

theorem fc_all {xs : List StI} {k j : Nat} {y : StI} (h : fcTo xs k = 0) (hj : j < k) (hy : xs[j]? = some y) : stCode y = 0 := by
  induction k with
  | zero => omega
  | succ k ih =>
    by_cases q : fcTo xs k = 0
    · by_cases e : j = k
      · subst e
        rw [fc_next q hy] at h
        exact h
      · exact ih q (by omega)
    · simp only [fcTo] at h
      rw [if_neg q] at h
      exact absurd h q

theorem pg_end {xs : List StI} {k : Nat} (hk : k ≤ xs.length) (h40 : k ≤ 40) (h : fcTo xs k = 0) : EndAt (pgTo xs k) k := by
  have hl : (packTo xs k).length = k * 6 := packTo_len hk
  refine ⟨h40, fun j x hj hx => ?_, fun q => ?_⟩
  · obtain ⟨y, hy⟩ : ∃ y, xs[j]? = some y := ⟨_, List.getElem?_eq_getElem (by omega)⟩
    unfold pgTo at hx
    rw [List.getElem?_append_left (by omega), packTo_at hk hj hy] at hx
    cases hx
    have := (st_bounds (fc_all h hj hy)).1
    omega
  · unfold pgTo
    rw [List.getElem?_append_right (by omega), hl, Nat.sub_self, List.getElem?_replicate, if_pos (by omega)]

theorem owns_some {w : World} {B : Nat} {e : TypeId} {size : Nat} {a : Option Addr} {n cap : Nat} {xs : List Value} (h : w.ownsRow B e size (.slice a n cap) n xs) (hn : 0 < n) : ∃ g, a = some ⟨g, 0, none⟩ := by
  rcases h.2 with ⟨h', h0⟩ | ⟨g, cap', cur, h', _⟩
  · omega
  · simp at h'
    exact ⟨g, h'.1⟩

def zeroPg : List Int := List.replicate 240 0

theorem Try.infoZ43 : (Try.prog.info? 43).map (fun i => (i.zero, i.size)) = some (some (.agg (vI zeroPg).toArray), 240) := by kernel_rfl
theorem pg_zero (w : World) : (zeroValue 43).run Try.prog w = .ok (.agg (vI zeroPg).toArray) w := (zero_of_info Try.infoZ43).1 w

theorem pg_new (w : World) (zs : List Int) (h : zs.length = 240) : PgAt (w.alloc (.cells (vI zs).toArray 43)) w.heap.size zs := by
  refine ⟨?_, h⟩
  show (w.heap.push _)[w.heap.size]? = _
  simp

/-- What stands in the loop of the program's PackLog. -/
structure IPL (w : World) (xs : List StI) (k : Nat) (wr : World) : Prop where
  rs : BoxW w.heap.size [.int .i64 0, .slice none 0 0] wr
  pg : PgAt wr (w.heap.size + 1) (pgTo xs k)
  bl : Below w.heap.size w wr

theorem IPL.below {w : World} {xs : List StI} {k : Nat} {wr W : World} (h : IPL w xs k wr) (hb : Below wr.heap.size wr W) : IPL w xs k W :=
  ⟨h.rs.below (by have := h.pg.lt; omega) hb, h.pg.below hb, h.bl.trans (hb.mono h.bl.size)⟩

set_option maxRecDepth 20000 in
set_option maxHeartbeats 2000000 in
theorem implPackLog_c (a : Option Addr) (n cap : Nat) (xs : List StI) (w : World) (hn : n ≤ 1048576) (h : StIn w a n xs) : GivesPl 7 a n cap (plCode xs) (plL xs) w := by
  have HX := hidQ h
  have hxl : xs.length = n := h.1
  have HXL := hidQ hxl
  have hni : (n : Int) ≤ 1048576 := by omega
  obtain ⟨K, hK⟩ : ∃ K, plCode xs = K := ⟨_, rfl⟩
  obtain ⟨Y, hY⟩ : ∃ Y, plL xs = Y := ⟨_, rfl⟩
  have HK : Hid (plCode xs = K ∧ plL xs = Y) := ⟨hK, hY⟩
  unfold GivesPl
  rw [hK, hY]
  clear h hK hY
  by_cases h40 : 40 < n
  · have h40' : (40 : Int) < (n : Int) := by omega
    have HE : Hid (K = 2 ∧ Y = []) := by
      have e : plCode xs = 2 := by unfold plCode; rw [if_pos (by rw [HXL.out]; exact h40)]
      refine ⟨by rw [← HK.out.1, e], ?_⟩
      rw [← HK.out.2]
      unfold plL
      rw [e]; rfl
    clear HK hxl
    go_enter Try.func7, Try.ntmps7
    go_wp2_with fail
    refine bodyPost_ret (v := .agg #[.int .i64 2, .slice none 0 0]) (by simp [results, Try.results7, go_sem]) rfl ?_
    rw [HE.out.1, HE.out.2]
    exact ⟨none, 0, rfl, World.ownsRow_nil _ _ _ _, by go_grown⟩
  have h40' : ¬ ((40 : Int) < (n : Int)) := by omega
  obtain ⟨V, hV⟩ : ∃ V, V = (w.alloc (.cells #[.int .i64 0, .slice none 0 0] 26)).alloc (.cells (vI zeroPg).toArray 43) := ⟨_, rfl⟩
  have P0 : Hid (IPL w xs 0 V) := by
    have A0 : Below w.heap.size w V := by rw [hV]; exact ((Below.refl _ _).alloc (Nat.le_refl _) _).alloc (by simp) _
    refine ⟨?_, ?_, A0⟩
    · rw [hV]
      exact BoxW.below (boxW_new w _ _) (by simp) ((Below.refl _ _).alloc (Nat.le_refl _) _)
    · rw [hV]
      have q := pg_new (w.alloc (.cells #[.int .i64 0, .slice none 0 0] 26)) zeroPg rfl
      rw [World.size_alloc] at q
      exact q
  have hz := pg_zero
  clear hxl
  go_enter Try.func7, Try.ntmps7
  go_upto_region 4 with fail
  rw [← hV]
  clear hV hz
  go_wp2_with fail
  go_loopw [13] (fun i wr => ∃ k : Nat, k ≤ n ∧ i = .int .i64 (k : Int) ∧ Hid (fcTo xs k = 0) ∧ Hid (IPL w xs k wr)) (fun i _ => n - (intOf i).toNat)
  case atStart => exact ⟨0, Nat.zero_le _, rfl, rfl, P0⟩
  case round =>
    clear P0
    obtain ⟨k, hk, rfl, HC, HP⟩ := hrel
    by_cases hlt : k < n
    · have hlt' : (k : Int) < (n : Int) := by omega
      have hk0 : (0 : Int) ≤ (k : Int) := by omega
      obtain ⟨b, off, x, ea, hx, hat, hbl⟩ := (HX.out.below HP.out.bl).at hlt
      subst ea
      have HXK := hidQ hx
      obtain ⟨x0, x1, x2, x3, x4⟩ := hat
      obtain ⟨d, hd⟩ : ∃ d, stCode x = d := ⟨_, rfl⟩
      have HD := hidQ hd
      obtain ⟨Z, hZ⟩ : ∃ Z, Z = wr.alloc (.cells #[.int .i64 x.k, .int .i64 x.e, .int .i64 x.f, .int .i64 x.s, .int .i64 x.n] 38) := ⟨_, rfl⟩
      have AZ : Below wr.heap.size wr Z := by rw [hZ]; exact (Below.refl _ _).alloc (Nat.le_refl _) _
      have PZ := hidQ (HP.out.below AZ)
      have XZ : Hid (Hold wr.heap.size (wr.heap.size + 1) (BoxV wr.heap.size [.int .i64 x.k, .int .i64 x.e, .int .i64 x.f, .int .i64 x.s, .int .i64 x.n]) Z) := by rw [hZ]; exact boxV_new wr #[.int .i64 x.k, .int .i64 x.e, .int .i64 x.f, .int .i64 x.s, .int .i64 x.n] 38
      clear hx hd AZ
      go_upto_region 7 with fail
      rw [← hZ]
      clear hZ x0 x1 x2 x3 x4
      generalize wr.heap.size = bx at XZ ⊢
      have y0 := XZ.out.out 0 _ rfl
      have y1 := XZ.out.out 1 _ rfl
      have y2 := XZ.out.out 2 _ rfl
      have y3 := XZ.out.out 3 _ rfl
      have y4 := XZ.out.out 4 _ rfl
      have hyl : bx < Z.heap.size := XZ.out.le
      by_cases hd0 : d = 0
      · subst hd0
        have HF := hidQ (implPack_ok x Z HD.out)
        unfold GivesPk at HF
        have HC6 : Hid (fcTo xs (k + 1) = 0) := by show _ = _; rw [fc_next HC.out HXK.out]; exact HD.out
        go_wp2_with fail
        refine HF.out.mono ?_
        rintro e w1 ⟨ya, yc, rfl, how, hb1⟩
        rw [show (packL x).length = 6 from rfl] at how ⊢
        obtain ⟨yb, rfl⟩ := owns_some how (by omega)
        have P1 := hidQ (PZ.out.below hb1)
        have O1 := hidQ how
        clear how hb1 HF y0 y1 y2 y3 y4 hyl
        obtain ⟨U, hU⟩ : ∃ U, U = w1.alloc (.cells #[.int .i64 0, .slice (some ⟨yb, 0, none⟩) 6 yc] 26) := ⟨_, rfl⟩
        have AU : Below w1.heap.size w1 U := by rw [hU]; exact (Below.refl _ _).alloc (Nat.le_refl _) _
        have PU := hidQ (P1.out.below AU)
        have OU : Hid (IntIn U (some ⟨yb, 0, none⟩) 6 (packL x)) := (owns_ints rfl O1.out).below AU
        have XU : Hid (Hold w1.heap.size (w1.heap.size + 1) (BoxV w1.heap.size [.int .i64 0, .slice (some ⟨yb, 0, none⟩) 6 yc]) U) := by rw [hU]; exact boxV_new w1 #[.int .i64 0, .slice (some ⟨yb, 0, none⟩) 6 yc] 26
        clear AU
        go_upto_region 8 with fail
        rw [← hU]
        clear hU
        generalize w1.heap.size = bu at XU ⊢
        have u0 := XU.out.out 0 _ rfl
        have u1 := XU.out.out 1 _ rfl
        have hul : bu < U.heap.size := XU.out.le
        have HPT : Hid (Calls Try.prog 17 #[.pointer (some ⟨w.heap.size + 1, 0, none⟩), .int .i64 (k : Int), .slice (some ⟨yb, 0, none⟩) 6 yc] U fun e w' => e = .returned (.tuple #[]) ∧ PgAt w' (w.heap.size + 1) (putZ (pgTo xs k) (k * 6) (packL x)) ∧ Below (w.heap.size + 1) U w') := pagePut_c (w.heap.size + 1) k yb 0 yc _ _ U PU.out.pg (by omega) OU.out
        go_wp2_with fail
        refine HPT.out.mono ?_
        rintro e w2 ⟨rfl, hp2, hb2⟩
        have HN : Hid (IPL w xs (k + 1) w2) := ⟨boxW_keep PU.out.rs (hb2.block _ (by omega)), by rw [← pgTo_next HXK.out (by omega)]; exact hp2, PU.out.bl.trans (hb2.mono (by omega))⟩
        clear hp2 hb2 HPT u0 u1 hul
        go_wp2_with fail
        exact ⟨⟨k + 1, by omega, by go_num, HC6, HN⟩, by simp [intOf]; omega⟩
      · have HF := hidQ (implPack_bad x d Z HD.out hd0)
        unfold GivesPk at HF
        have hdb : (d != 0) = true := by simp [hd0]
        have HE : Hid (K = d ∧ Y = []) := by
          have e1 : fcTo xs (k + 1) = d := by rw [fc_next HC.out HXK.out]; exact HD.out
          have e : plCode xs = d := by
            unfold plCode
            rw [if_neg (by rw [HXL.out]; exact h40), HXL.out, fc_stay (k := k + 1) (by rw [e1]; exact hd0) hlt, e1]
          refine ⟨by rw [← HK.out.1, e], ?_⟩
          rw [← HK.out.2]
          unfold plL
          rw [if_neg (by rw [e]; exact hd0)]
        clear HK hd0
        go_wp2_with fail
        refine HF.out.mono ?_
        rintro e w1 ⟨ya, yc, rfl, how, hb1⟩
        have P1 := hidQ (PZ.out.below hb1)
        clear how hb1 HF y0 y1 y2 y3 y4 hyl
        have c20 := P1.out.rs.1 0 _ rfl
        have c21 := P1.out.rs.1 1 _ rfl
        have f20 := P1.out.rs.2 0
        have f21 := P1.out.rs.2 1
        have h21 : w.heap.size < w1.heap.size := by have := P1.out.pg.lt; omega
        go_wp2_with fail
        refine bodyPost_ret (v := .agg #[.int .i64 d, .slice none 0 0]) (by simp [results, Try.results7, go_sem, c20, c21, h21]) rfl ?_
        rw [HE.out.1, HE.out.2]
        refine ⟨none, 0, rfl, World.ownsRow_nil _ _ _ _, ?_⟩
        have q := P1.out.bl
        have hq := P1.out.bl.size
        first
          | exact ((q.alloc hq _).setCell (Nat.le_refl _) _).setCell (Nat.le_refl _) _
          | exact ((q.setCell (Nat.le_refl _) _).setCell (Nat.le_refl _) _).alloc (by simp; omega) _
    · have hkn : k = n := by omega
      have hlt' : ¬ ((k : Int) < (n : Int)) := by omega
      have HE : Hid (K = 0 ∧ Y = packTo xs k) := by
        have e : plCode xs = 0 := by
          unfold plCode
          rw [if_neg (by rw [HXL.out]; exact h40), HXL.out, ← hkn]
          exact HC.out
        refine ⟨by rw [← HK.out.1, e], ?_⟩
        rw [← HK.out.2]
        unfold plL
        rw [if_pos e, HXL.out, hkn]
      have HLN : Hid ((packTo xs k).length = k * 6) := packTo_len (by rw [HXL.out]; exact hk)
      have HTK : Hid ((pgTo xs k).take (k * 6) = packTo xs k) := pgTo_take (by rw [HXL.out]; exact hk)
      have HWD := hidQ (pageWords_c (w.heap.size + 1) k (pgTo xs k) wr HP.out.pg (pg_end (by rw [HXL.out]; exact hk) (by omega) HC.out))
      clear HK hkn
      go_wp2_with fail
      refine HWD.out.mono ?_
      rintro e w1 ⟨ra, rc, rfl, how, hb1⟩
      rw [HTK.out] at how
      have O1 := hidQ how
      have P1 := hidQ (HP.out.below hb1)
      clear how hb1 HWD
      have c20 := P1.out.rs.1 0 _ rfl
      have c21 := P1.out.rs.1 1 _ rfl
      have f20 := P1.out.rs.2 0
      have f21 := P1.out.rs.2 1
      have h21 : w.heap.size < w1.heap.size := by have := P1.out.pg.lt; omega
      have h2w : w.heap.size < wr.heap.size := by have := HP.out.pg.lt; omega
      go_wp2_with fail
      refine bodyPost_ret (v := .agg #[.int .i64 0, .slice ra (k * 6) rc]) (by simp [results, Try.results7, go_sem, c20, c21, h21]) rfl ?_
      rw [HE.out.1, HE.out.2, HLN.out]
      refine ⟨ra, rc, rfl, ?_, (P1.out.bl.setCell (Nat.le_refl _) _).setCell (Nat.le_refl _) _⟩
      exact owns_low (ownsE_set (ownsE_set O1.out h2w _) h2w _) (by omega)

end Go.Proofs.Ytnlmoapopdchkaa
