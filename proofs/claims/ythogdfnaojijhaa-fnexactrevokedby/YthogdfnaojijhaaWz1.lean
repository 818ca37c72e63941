/-
  CONTRACTS: chapter 14: RevokedBy of both programs.
  Conditions: each contract bears its own.
-/
import Derived.Test.YthogdfnaojijhaaWz0
import Derived.Test.YthogdfnaojijhaaVo0
import Derived.Test.YthogdfnaojijhaaCw0
namespace Go.Proofs.Ythogdfnaojijhaa
open Go.RowKit
set_option linter.unusedVariables false
set_option linter.unusedSimpArgs false

/-- Is one of certificates right, and against x? -/
def bkB (f : Int) (zs : List ShI) (x : StI) (ch : List (StI × List Int)) : Bool := ch.any (fun q => sameSt q.1 (backI x) && decide (vfL f zs q.1 q.2 = 0))

def rvB (f : Int) (zs : List ShI) (x : StI) (ch : List (StI × List Int)) : Bool := decide (shCode f zs = 0) && (decide (stCode x = 0) && (decide (ch.length ≤ 10) && bkB f zs x ch))

theorem bk_drop {f : Int} {zs : List ShI} {x : StI} {cr : List CrI} {j : Nat} {c : CrI} (h : cr[j]? = some c) : bkB f zs x (chL (cr.drop j)) = ((sameSt c.st (backI x) && decide (vfL f zs c.st c.zs = 0)) || bkB f zs x (chL (cr.drop (j + 1)))) := by
  have hj : j < cr.length := by
    by_cases q : j < cr.length
    · exact q
    · rw [List.getElem?_eq_none (by omega)] at h; cases h
  rw [List.drop_eq_getElem_cons hj]
  have : cr[j] = c := by rw [List.getElem?_eq_getElem hj] at h; exact Option.some.inj h
  rw [this]
  rfl

theorem bk_end {f : Int} {zs : List ShI} {x : StI} {cr : List CrI} {j : Nat} (h : cr.length ≤ j) : bkB f zs x (chL (cr.drop j)) = false := by
  rw [List.drop_eq_nil_of_le h]
  rfl

theorem chk_eql (c : CrI) (x : StI) (b : Bool) (h : sameSt c.st (backI x) = b) (w : World) : (binOp .eql 36 (.agg #[.int .i64 c.k, .int .i64 c.e, .int .i64 c.f, .int .i64 c.s, .int .i64 c.n]) (.agg #[.int .i64 2, .int .i64 x.e, .int .i64 x.f, .int .i64 x.s, .int .i64 0])).run Try.prog w = .ok (.bool b) w := by
  have := st_eql c.st (backI x) w
  rw [h] at this
  exact this

set_option maxRecDepth 20000 in
set_option maxHeartbeats 2000000 in
theorem revoked1_c (bx bs bf : Nat) (a : Option Addr) (n cap : Nat) (zs : List ShI) (f : Int) (x : StI) (c : CrI) (w : World) (hn : n ≤ 1048576) (hcap : n ≤ cap) (hcm : cap ≤ maxLen) (hgn : c.gn ≤ 1048576) (hok : shCode f zs = 0) (h : ShIn w a n zs) (hg : IntIn w c.ga c.gn c.zs) (hx : StAt w bx 0 x) (hs : w.cell? ⟨bs, 0, none⟩ = some (.slice a n cap)) (hf : w.cell? ⟨bf, 0, none⟩ = some (.int .i64 f)) :
    Calls Try.prog 37 #[.agg #[.int .i64 c.k, .int .i64 c.e, .int .i64 c.f, .int .i64 c.s, .int .i64 c.n, .slice c.ga c.gn c.gc], .pointer (some ⟨bx, 0, none⟩), .pointer (some ⟨bs, 0, none⟩), .pointer (some ⟨bf, 0, none⟩)] w fun d w' => d = .returned (.bool (sameSt c.st (backI x) && decide (vfL f zs c.st c.zs = 0))) ∧ Below w.heap.size w w' := by
  obtain ⟨V, hV⟩ : ∃ V, V = w.alloc (.cells #[.int .i64 c.k, .int .i64 c.e, .int .i64 c.f, .int .i64 c.s, .int .i64 c.n, .slice c.ga c.gn c.gc] 53) := ⟨_, rfl⟩
  have BV : Below w.heap.size w V := by rw [hV]; exact (Below.refl _ _).alloc (Nat.le_refl _) _
  have HCA : CrAt V w.heap.size c.st c.ga c.gn c.gc c.zs := by rw [hV]; exact crAt_new w c.st c.ga c.gn c.gc c.zs _ hg
  have hVl : w.heap.size < V.heap.size := HCA.lt
  have hxl0 : bx < w.heap.size := World.block_lt_of_cell? w ⟨bx, 0, none⟩ hx.1
  have hxl : bx < V.heap.size := Nat.lt_of_lt_of_le hxl0 BV.size
  obtain ⟨x0, x1, x2, x3, x4⟩ := hx.below BV hxl0
  have s0 := (BV.cell (p := ⟨bs, 0, none⟩) (World.block_lt_of_cell? w _ hs)).trans hs
  have f0 := (BV.cell (p := ⟨bf, 0, none⟩) (World.block_lt_of_cell? w _ hf)).trans hf
  have hsl := World.block_lt_of_cell? V _ s0
  have hfl := World.block_lt_of_cell? V _ f0
  have HSH : Hid (ShIn V a n zs) := h.below BV
  have HIN : Hid (IntIn V c.ga c.gn c.zs) := HCA.row
  obtain ⟨v, hv⟩ : ∃ v, vfL f zs c.st c.zs = v := ⟨_, rfl⟩
  have HVC : Hid (∀ W : World, KW V W → Calls Try.prog 39 #[.slice a n cap, .int .i64 f, .agg #[.int .i64 c.k, .int .i64 c.e, .int .i64 c.f, .int .i64 c.s, .int .i64 c.n, .slice c.ga c.gn c.gc]] W fun e w' => e = .returned (.int .i64 v) ∧ Below W.heap.size W w') := fun W hW => by
    have := implVerifyCert_c a n cap zs f c.st c.ga c.gn c.gc c.zs W hn hcap hcm hgn (HSH.out.below hW.2) (HIN.out.below hW.2)
    rw [vf_eq, if_pos hok, hv] at this
    exact this
  rw [hv]
  obtain ⟨⟨z0, z1, z2, z3, z4⟩, z5, -⟩ := HCA
  simp only [Nat.zero_add] at z0 z1 z2 z3 z4 x0 x1 x2 x3 x4
  clear h hg hx hs hf hv hok
  cases q : sameSt c.st (backI x)
  · have hse := chk_eql c x false q
    have HR : Hid (∀ W : World, Calls Try.prog 38 #[.agg #[.int .i64 x.k, .int .i64 x.e, .int .i64 x.f, .int .i64 x.s, .int .i64 x.n]] W fun e w' => e = .returned (.agg #[.int .i64 2, .int .i64 x.e, .int .i64 x.f, .int .i64 x.s, .int .i64 0]) ∧ Below W.heap.size W w') := fun W => revokeOf_c x W
    clear q
    go_enter Try.func37, Try.ntmps37
    go_upto_region 1 with fail
    rw [← hV]
    clear hV
-- hand revoked1
    refine wp_region_held_drew (S := fun w' => KW V w') (by kernel_rfl) (kp_drew _) (fun hHeld => ?_)
    refine wpAnyH_take (i := 0) (v := ?_) rfl (by kernel_rfl) (by kernel_rfl) (by kernel_rfl) (fun _ _ _ h => h) (Or.inl ⟨by kernel_rfl, ?_⟩) (by assumption) ?_
    rotate_left 1
    · intro w hSw; (try dsimp only at hSw); go_simp; try (with_reducible rfl)
    try simp only [Act.put, List.getElem_toArray, List.getElem_cons_succ, List.getElem_cons_zero, List.setIfInBounds_toArray, List.set_cons_zero, List.set_cons_succ]
    refine wpAnyH_take (i := 1) (v := ?_) rfl (by kernel_rfl) (by kernel_rfl) (by kernel_rfl) (fun _ _ _ h => h) (Or.inl ⟨by kernel_rfl, ?_⟩) (by assumption) ?_
    rotate_left 1
    · intro w hSw; (try dsimp only at hSw); go_simp; try (with_reducible rfl)
    try simp only [Act.put, List.getElem_toArray, List.getElem_cons_succ, List.getElem_cons_zero, List.setIfInBounds_toArray, List.set_cons_zero, List.set_cons_succ]
    refine wpAnyH_take (i := 2) (v := ?_) rfl (by kernel_rfl) (by kernel_rfl) (by kernel_rfl) (fun _ _ _ h => h) (Or.inl ⟨by kernel_rfl, ?_⟩) (by assumption) ?_
    rotate_left 1
    · intro w hSw; (try dsimp only at hSw); go_simp; try (with_reducible rfl)
    try simp only [Act.put, List.getElem_toArray, List.getElem_cons_succ, List.getElem_cons_zero, List.setIfInBounds_toArray, List.set_cons_zero, List.set_cons_succ]
    refine wpAnyH_ready (rs := [3]) (by kernel_rfl) (by simp) ?_
    refine AllReadyH.cons rfl (fun K hK => ?_) AllReadyH.nil
    go_simp
    refine (HR.out _).mono ?_
    rintro e w' ⟨rfl, hb2⟩
    have hS := kp_step (by assumption) hb2
    refine hK.out _ _ hS (fun hHeld => ?_)
    clear hK K
    try simp only [Act.put, List.getElem_toArray, List.getElem_cons_succ, List.getElem_cons_zero, List.setIfInBounds_toArray, List.set_cons_zero, List.set_cons_succ]
    refine wpAnyH_take (i := 4) (v := ?_) rfl (by kernel_rfl) (by kernel_rfl) (by kernel_rfl) (fun _ _ _ h => h) (Or.inl ⟨by kernel_rfl, ?_⟩) (by assumption) ?_
    rotate_left 1
    · intro w hSw; (try dsimp only at hSw); go_simp; try (with_reducible rfl)
    try simp only [Act.put, List.getElem_toArray, List.getElem_cons_succ, List.getElem_cons_zero, List.setIfInBounds_toArray, List.set_cons_zero, List.set_cons_succ]
    refine wpAnyH_take (i := 5) (v := ?_) rfl (by kernel_rfl) (by kernel_rfl) (by kernel_rfl) (fun _ _ _ h => h) (Or.inl ⟨by kernel_rfl, ?_⟩) (by assumption) ?_
    rotate_left 1
    · intro w hSw; (try dsimp only at hSw); go_simp; try (with_reducible rfl)
    try simp only [Act.put, List.getElem_toArray, List.getElem_cons_succ, List.getElem_cons_zero, List.setIfInBounds_toArray, List.set_cons_zero, List.set_cons_succ]
    refine wpAnyH_take (i := 6) (v := undef) rfl (by kernel_rfl) (by kernel_rfl) (by kernel_rfl) (fun _ _ _ h => h) (Or.inr ⟨by kernel_rfl, rfl⟩) (by assumption) ?_
    try simp only [Act.put, List.getElem_toArray, List.getElem_cons_succ, List.getElem_cons_zero, List.setIfInBounds_toArray, List.set_cons_zero, List.set_cons_succ]
    refine wpAnyH_take (i := 7) (v := undef) rfl (by kernel_rfl) (by kernel_rfl) (by kernel_rfl) (fun _ _ _ h => h) (Or.inr ⟨by kernel_rfl, rfl⟩) (by assumption) ?_
    try simp only [Act.put, List.getElem_toArray, List.getElem_cons_succ, List.getElem_cons_zero, List.setIfInBounds_toArray, List.set_cons_zero, List.set_cons_succ]
    refine wpAnyH_take (i := 8) (v := undef) rfl (by kernel_rfl) (by kernel_rfl) (by kernel_rfl) (fun _ _ _ h => h) (Or.inr ⟨by kernel_rfl, rfl⟩) (by assumption) ?_
    try simp only [Act.put, List.getElem_toArray, List.getElem_cons_succ, List.getElem_cons_zero, List.setIfInBounds_toArray, List.set_cons_zero, List.set_cons_succ]
    refine wpAnyH_take (i := 9) (v := undef) rfl (by kernel_rfl) (by kernel_rfl) (by kernel_rfl) (fun _ _ _ h => h) (Or.inr ⟨by kernel_rfl, rfl⟩) (by assumption) ?_
    try simp only [Act.put, List.getElem_toArray, List.getElem_cons_succ, List.getElem_cons_zero, List.setIfInBounds_toArray, List.set_cons_zero, List.set_cons_succ]
    refine wpAnyH_take (i := 10) (v := undef) rfl (by kernel_rfl) (by kernel_rfl) (by kernel_rfl) (fun _ _ _ h => h) (Or.inr ⟨by kernel_rfl, rfl⟩) (by assumption) ?_
    try simp only [Act.put, List.getElem_toArray, List.getElem_cons_succ, List.getElem_cons_zero, List.setIfInBounds_toArray, List.set_cons_zero, List.set_cons_succ]
    refine wpAnyH_take (i := 11) (v := ?_) rfl (by kernel_rfl) (by kernel_rfl) (by kernel_rfl) (fun _ _ _ h => h) (Or.inl ⟨by kernel_rfl, ?_⟩) (by assumption) ?_
    rotate_left 1
    · intro w hSw; (try dsimp only at hSw); go_simp; try (with_reducible rfl)
    try simp only [Act.put, List.getElem_toArray, List.getElem_cons_succ, List.getElem_cons_zero, List.setIfInBounds_toArray, List.set_cons_zero, List.set_cons_succ]
    refine wpAnyH_ready (rs := [12]) (by kernel_rfl) (by simp) ?_
    refine AllReadyH.cons rfl (fun K hK => ?_) AllReadyH.nil
    go_simp
    refine hK.out _ _ (by assumption) (fun hHeld => ?_)
    clear hK K
    try simp only [Act.put, List.getElem_toArray, List.getElem_cons_succ, List.getElem_cons_zero, List.setIfInBounds_toArray, List.set_cons_zero, List.set_cons_succ]
    refine wpAnyH_done (by kernel_rfl) ?_ _
-- end hand revoked1
    go_wp2
    go_ret
    exact ⟨rfl, BV.trans (hS.2.mono BV.size)⟩
  · have hse := chk_eql c x true q
    have HR : Hid (∀ W : World, Calls Try.prog 38 #[.agg #[.int .i64 x.k, .int .i64 x.e, .int .i64 x.f, .int .i64 x.s, .int .i64 x.n]] W fun e w' => e = .returned (.agg #[.int .i64 2, .int .i64 x.e, .int .i64 x.f, .int .i64 x.s, .int .i64 0]) ∧ Below W.heap.size W w') := fun W => revokeOf_c x W
    obtain ⟨b, hb⟩ : ∃ b, (v == 0) = b := ⟨_, rfl⟩
    have HB : Hid (decide (v = 0) = b) := by show _ = _; rw [← hb]; by_cases q : v = 0 <;> simp [q]
    clear q
    go_enter Try.func37, Try.ntmps37
    go_upto_region 1 with fail
    rw [← hV]
    clear hV
    go_region_held3 (fun w' => KW V w') (first | exact hS | exact kp_drew _)
      (first | (go_at_call 38; refine (HR.out _).mono ?_; rintro e w' ⟨rfl, hb2⟩; have hS := kp_step (by assumption) hb2) | (go_at_call 39; refine (HVC.out _ (by assumption)).mono ?_; rintro e w' ⟨rfl, hb2⟩; have hS := kp_step (by assumption) hb2))
    go_wp2
    go_ret
    exact ⟨by rw [HB.out]; rfl, BV.trans (hS.2.mono BV.size)⟩

set_option maxRecDepth 20000 in
set_option maxHeartbeats 2000000 in
theorem revIndex_c (bx bs bf : Nat) (a : Option Addr) (n cap : Nat) (zs : List ShI) (f : Int) (x : StI) (s : Option Addr) (N sc : Nat) (cr : List CrI) (w : World) (hn : n ≤ 1048576) (hcap : n ≤ cap) (hcm : cap ≤ maxLen) (hok : shCode f zs = 0) (h : ShIn w a n zs) (hN : N ≤ 1048576) (hcr : CrsIn w s N cr) (hl : ∀ (k : Nat) c, cr[k]? = some c → c.gn ≤ 1048576) (hx : StAt w bx 0 x) (hs : w.cell? ⟨bs, 0, none⟩ = some (.slice a n cap)) (hf : w.cell? ⟨bf, 0, none⟩ = some (.int .i64 f)) :
    Calls Try.prog 66 #[.slice s N sc, .func (.func 37) #[] #[.pointer (some ⟨bx, 0, none⟩), .pointer (some ⟨bs, 0, none⟩), .pointer (some ⟨bf, 0, none⟩)]] w fun d w' => (∃ i : Int, d = .returned (.int .i64 i) ∧ decide (0 ≤ i) = bkB f zs x (chL cr)) ∧ Below w.heap.size w w' := by
  have HZ : Hid (cr.length = N) := hcr.len
  have H : Hid (CrsIn w s N cr) := hcr
  have HL := hidW hl
  have hxl : bx < w.heap.size := World.block_lt_of_cell? w ⟨bx, 0, none⟩ hx.1
  have hsl := World.block_lt_of_cell? w _ hs
  have hfl := World.block_lt_of_cell? w _ hf
  have HC : Hid (∀ (c : CrI) (w2 : World), Below w.heap.size w w2 → c.gn ≤ 1048576 → IntIn w c.ga c.gn c.zs → Calls Try.prog 37 #[.agg #[.int .i64 c.k, .int .i64 c.e, .int .i64 c.f, .int .i64 c.s, .int .i64 c.n, .slice c.ga c.gn c.gc], .pointer (some ⟨bx, 0, none⟩), .pointer (some ⟨bs, 0, none⟩), .pointer (some ⟨bf, 0, none⟩)] w2 fun d w' => d = .returned (.bool (sameSt c.st (backI x) && decide (vfL f zs c.st c.zs = 0))) ∧ Below w2.heap.size w2 w') := fun c w2 hb hc hi => revoked1_c bx bs bf a n cap zs f x c w2 hn hcap hcm hc hok (h.below hb) (hi.below hb) (hx.below hb hxl) ((hb.cell (p := ⟨bs, 0, none⟩) hsl).trans hs) ((hb.cell (p := ⟨bf, 0, none⟩) hfl).trans hf)
  clear h hcr hl hx hs hf hxl hsl hfl hok
  have hN' : (N : Int) ≤ 1048576 := by omega
  go_enter Try.func66, Try.ntmps66
  go_wp2_with fail
  go_loopw [8] (fun i wr => ∃ j : Nat, j ≤ N ∧ i = .int .i64 (j : Int) ∧ Hid (bkB f zs x (chL cr) = bkB f zs x (chL (cr.drop j))) ∧ Below w.heap.size w wr) (fun i _ => N - (intOf i).toNat)
  case atStart => exact ⟨0, Nat.zero_le _, rfl, rfl, Below.refl _ _⟩
  case round =>
    obtain ⟨j, hj, rfl, HP, hnx⟩ := hrel
    by_cases hlt : j < N
    · obtain ⟨g, off, c, rfl, hc, hat, hdi⟩ := H.out.at hlt
      have HBK : Hid (bkB f zs x (chL cr) = ((sameSt c.st (backI x) && decide (vfL f zs c.st c.zs = 0)) || bkB f zs x (chL (cr.drop (j + 1))))) := HP.out.trans (bk_drop hc)
      obtain ⟨b, hb⟩ : ∃ b, (sameSt c.st (backI x) && decide (vfL f zs c.st c.zs = 0)) = b := ⟨_, rfl⟩
      have HQ : Hid (Calls Try.prog 37 #[.agg #[.int .i64 c.k, .int .i64 c.e, .int .i64 c.f, .int .i64 c.s, .int .i64 c.n, .slice c.ga c.gn c.gc], .pointer (some ⟨bx, 0, none⟩), .pointer (some ⟨bs, 0, none⟩), .pointer (some ⟨bf, 0, none⟩)] wr fun d w' => d = .returned (.bool b) ∧ Below wr.heap.size wr w') := by have := HC.out c wr hnx (HL.out j c hc) hdi; rw [hb] at this; exact this
      rw [hb] at HBK
      have hgw : g < wr.heap.size := Nat.lt_of_lt_of_le hat.lt hnx.size
      obtain ⟨⟨c0, c1, c2, c3, c4⟩, c5⟩ := hat.below hnx
      have hlt' : (j : Int) < (N : Int) := by omega
      have hj0 : (0 : Int) ≤ (j : Int) := by omega
      clear hc hat hdi hb
      cases b
      · rw [Bool.false_or] at HBK
        go_wp2_with fail
        refine HQ.out.mono ?_
        rintro d w1 ⟨rfl, hb1⟩
        clear c0 c1 c2 c3 c4 c5
        go_wp2
        exact ⟨⟨j + 1, by omega, by go_num, HBK, hnx.trans (hb1.mono hnx.size)⟩, by simp [intOf]; omega⟩
      · rw [Bool.true_or] at HBK
        have HI : Hid (decide ((0 : Int) ≤ (j : Int)) = bkB f zs x (chL cr)) := by show _ = _; rw [HBK.out]; simp
        go_wp2_with fail
        refine HQ.out.mono ?_
        rintro d w1 ⟨rfl, hb1⟩
        clear c0 c1 c2 c3 c4 c5
        go_wp2
        go_ret
        exact ⟨⟨_, rfl, HI.out⟩, hnx.trans (hb1.mono hnx.size)⟩
    · have hkn : j = N := by omega
      subst hkn
      have HI : Hid (decide ((0 : Int) ≤ -1) = bkB f zs x (chL cr)) := by show _ = _; rw [HP.out, bk_end (by rw [HZ.out]; exact Nat.le_refl _)]; rfl
      go_wp2
      go_ret
      exact ⟨⟨_, rfl, HI.out⟩, hnx⟩

set_option maxRecDepth 20000 in
set_option maxHeartbeats 400000 in
theorem revAny_c (bx bs bf : Nat) (a : Option Addr) (n cap : Nat) (zs : List ShI) (f : Int) (x : StI) (s : Option Addr) (N sc : Nat) (cr : List CrI) (w : World) (hn : n ≤ 1048576) (hcap : n ≤ cap) (hcm : cap ≤ maxLen) (hok : shCode f zs = 0) (h : ShIn w a n zs) (hN : N ≤ 1048576) (hcr : CrsIn w s N cr) (hl : ∀ (k : Nat) c, cr[k]? = some c → c.gn ≤ 1048576) (hx : StAt w bx 0 x) (hs : w.cell? ⟨bs, 0, none⟩ = some (.slice a n cap)) (hf : w.cell? ⟨bf, 0, none⟩ = some (.int .i64 f)) :
    Calls Try.prog 36 #[.slice s N sc, .func (.func 37) #[] #[.pointer (some ⟨bx, 0, none⟩), .pointer (some ⟨bs, 0, none⟩), .pointer (some ⟨bf, 0, none⟩)]] w fun d w' => d = .returned (.bool (bkB f zs x (chL cr))) ∧ Below w.heap.size w w' := by
  have HC := hidW (revIndex_c bx bs bf a n cap zs f x s N sc cr w hn hcap hcm hok h hN hcr hl hx hs hf)
  clear h hcr hl hx hs hf hok
  go_enter Try.func36, Try.ntmps36
  go_wp2_with fail
  refine HC.out.mono ?_
  rintro e w1 ⟨⟨i, rfl, hi⟩, hb1⟩
  have HX : Hid (decide (0 ≤ i) = bkB f zs x (chL cr)) := hi
  clear hi
  go_wp2
  go_ret
  exact ⟨by rw [← HX.out]; rfl, hb1⟩

abbrev GivesRV (fn : Nat) (a : Option Addr) (n cap : Nat) (f : Int) (x : StI) (s : Option Addr) (N sc : Nat) (b : Bool) (w : World) : Prop := Calls Try.prog fn #[.slice a n cap, .int .i64 f, .agg #[.int .i64 x.k, .int .i64 x.e, .int .i64 x.f, .int .i64 x.s, .int .i64 x.n], .slice s N sc] w fun e w' => e = .returned (.bool b) ∧ Below w.heap.size w w'

set_option maxRecDepth 20000 in
set_option maxHeartbeats 1000000 in
theorem implRevoked_c (a : Option Addr) (n cap : Nat) (zs : List ShI) (f : Int) (x : StI) (s : Option Addr) (N sc : Nat) (cr : List CrI) (w : World) (hn : n ≤ 1048576) (hcap : n ≤ cap) (hcm : cap ≤ maxLen) (h : ShIn w a n zs) (hN : N ≤ 1048576) (hcr : CrsIn w s N cr) (hl : ∀ (k : Nat) c, cr[k]? = some c → c.gn ≤ 1048576) : GivesRV 15 a n cap f x s N sc (rvB f zs x (chL cr)) w := by
  obtain ⟨V, hV⟩ : ∃ V, V = ((w.alloc (.cells #[.slice a n cap] 34)).alloc (.cells #[.int .i64 f] 2)).alloc (.cells #[.int .i64 x.k, .int .i64 x.e, .int .i64 x.f, .int .i64 x.s, .int .i64 x.n] 36) := ⟨_, rfl⟩
  have BV : Below w.heap.size w V := by rw [hV]; exact (((Below.refl _ _).alloc (Nat.le_refl _) _).alloc (by simp) _).alloc (by simp; omega) _
  have s0 : V.cell? ⟨w.heap.size, 0, none⟩ = some (.slice a n cap) := by rw [hV]; simp [go_sem]
  have f0 : V.cell? ⟨w.heap.size + 1, 0, none⟩ = some (.int .i64 f) := by rw [hV]; simp [go_sem]
  have HX : StAt V (w.heap.size + 1 + 1) 0 x := by rw [hV]; have q := StAt.new ((w.alloc (.cells #[.slice a n cap] 34)).alloc (.cells #[.int .i64 f] 2)) x 36; simp only [World.size_alloc] at q; exact q
  have hVl : w.heap.size + 1 + 1 < V.heap.size := by rw [hV]; simp
  obtain ⟨c, hc⟩ : ∃ c, shCode f zs = c := ⟨_, rfl⟩
  obtain ⟨d, hd⟩ : ∃ d, stCode x = d := ⟨_, rfl⟩
  have HSF : Hid (Calls Try.prog 34 #[.slice a n cap, .int .i64 f] V fun e w' => e = .returned (.int .i64 c) ∧ Below V.heap.size V w') := by have := implSharesFault_c a n cap zs f V hn hcap hcm (h.below BV); rw [hc] at this; exact this
  have HST : Hid (∀ W : World, Calls Try.prog 35 #[.agg #[.int .i64 x.k, .int .i64 x.e, .int .i64 x.f, .int .i64 x.s, .int .i64 x.n]] W fun e w' => e = .returned (.int .i64 d) ∧ Below W.heap.size W w') := by rw [← hd]; exact implStatementFault_c x
  have HLN : Hid ((chL cr).length = N) := by show _ = _; rw [chL_len]; exact hcr.len
  have HXX := hidW HX
  obtain ⟨x0, x1, x2, x3, x4⟩ := HX
  simp only [Nat.zero_add] at x0 x1 x2 x3 x4
  have hmf : ∀ (fn : Fn) (first cap : Array Value) (w : World), (Instr.makeFunc fn first cap).run Try.prog w = .ok (.func fn first cap) w := fun _ _ _ _ => rfl
  have HS0 := hidW s0
  have HF0 := hidW f0
  have hl1 : w.heap.size < V.heap.size := by omega
  have hl2 : w.heap.size + 1 < V.heap.size := by omega
  by_cases c0 : c = 0
  · have cb : (c != 0) = false := by simp [c0]
    by_cases d0 : d = 0
    · have db : (d != 0) = false := by simp [d0]
      by_cases hm : 10 < N
      · have HV : Hid (rvB f zs x (chL cr) = false) := by show _ = _; unfold rvB; rw [HLN.out, decide_eq_false (p := N ≤ 10) (by omega)]; simp
        have hmb : decide ((N : Int) > 10) = true := by simp; omega
        rw [HV.out]
        clear h hcr hl hc hd c0 d0 HXX HS0 HF0 HLN
        go_enter Try.func15, Try.ntmps15
        go_upto_region 1 with fail
        rw [← hV]
        clear hV
        go_wp2_with fail
        refine HSF.out.mono ?_
        rintro e w1 ⟨rfl, hb1⟩
        have y0 := (hb1.cell (p := ⟨w.heap.size + 1 + 1, 0, none⟩) hVl).trans x0
        have y1 := (hb1.cell (p := ⟨w.heap.size + 1 + 1, 1, none⟩) hVl).trans x1
        have y2 := (hb1.cell (p := ⟨w.heap.size + 1 + 1, 2, none⟩) hVl).trans x2
        have y3 := (hb1.cell (p := ⟨w.heap.size + 1 + 1, 3, none⟩) hVl).trans x3
        have y4 := (hb1.cell (p := ⟨w.heap.size + 1 + 1, 4, none⟩) hVl).trans x4
        have hl3 : w.heap.size + 1 + 1 < w1.heap.size := Nat.lt_of_lt_of_le hVl hb1.size
        have HB1 := hidW (BV.trans (hb1.mono BV.size))
        clear hb1
        go_wp2_with fail
        refine (HST.out _).mono ?_
        rintro e w2 ⟨rfl, hb2⟩
        go_wp2
        go_ret
        exact ⟨rfl, HB1.out.trans (hb2.mono HB1.out.size)⟩
      · have HV : Hid (rvB f zs x (chL cr) = bkB f zs x (chL cr)) := by show _ = _; unfold rvB; rw [HLN.out, hc, hd, decide_eq_true c0, decide_eq_true d0, decide_eq_true (p := N ≤ 10) (by omega)]; simp
        have hmb : decide ((N : Int) > 10) = false := by simp; omega
        rw [HV.out]
        have HAN : Hid (∀ W : World, Below V.heap.size V W → Calls Try.prog 36 #[.slice s N sc, .func (.func 37) #[] #[.pointer (some ⟨w.heap.size + 1 + 1, 0, none⟩), .pointer (some ⟨w.heap.size, 0, none⟩), .pointer (some ⟨w.heap.size + 1, 0, none⟩)]] W fun d w' => d = .returned (.bool (bkB f zs x (chL cr))) ∧ Below W.heap.size W w') := fun W hb =>
          revAny_c _ _ _ a n cap zs f x s N sc cr W hn hcap hcm (hc.trans c0) ((h.below BV).below hb) hN ((hcr.below BV).below hb) hl (HXX.out.below hb hVl) ((hb.cell (p := ⟨w.heap.size, 0, none⟩) hl1).trans HS0.out) ((hb.cell (p := ⟨w.heap.size + 1, 0, none⟩) hl2).trans HF0.out)
        clear h hcr hl hc hd c0 d0 HXX HS0 HF0 HLN
        go_enter Try.func15, Try.ntmps15
        go_upto_region 1 with fail
        rw [← hV]
        clear hV
        go_wp2_with fail
        refine HSF.out.mono ?_
        rintro e w1 ⟨rfl, hb1⟩
        have y0 := (hb1.cell (p := ⟨w.heap.size + 1 + 1, 0, none⟩) hVl).trans x0
        have y1 := (hb1.cell (p := ⟨w.heap.size + 1 + 1, 1, none⟩) hVl).trans x1
        have y2 := (hb1.cell (p := ⟨w.heap.size + 1 + 1, 2, none⟩) hVl).trans x2
        have y3 := (hb1.cell (p := ⟨w.heap.size + 1 + 1, 3, none⟩) hVl).trans x3
        have y4 := (hb1.cell (p := ⟨w.heap.size + 1 + 1, 4, none⟩) hVl).trans x4
        have hl3 : w.heap.size + 1 + 1 < w1.heap.size := Nat.lt_of_lt_of_le hVl hb1.size
        have HB1 := hidW hb1
        clear hb1
        go_wp2_with fail
        refine (HST.out _).mono ?_
        rintro e w2 ⟨rfl, hb2⟩
        have HB2 := hidW (HB1.out.trans (hb2.mono HB1.out.size))
        clear hb2 y0 y1 y2 y3 y4
        go_wp2_with fail
        refine (HAN.out _ HB2.out).mono ?_
        rintro e w3 ⟨rfl, hb3⟩
        go_wp2
        go_ret
        exact ⟨rfl, (BV.trans (HB2.out.mono BV.size)).trans (hb3.mono (Nat.le_trans BV.size HB2.out.size))⟩
    · have db : (d != 0) = true := by simp [d0]
      have HV : Hid (rvB f zs x (chL cr) = false) := by show _ = _; unfold rvB; rw [hd, decide_eq_false d0]; simp
      rw [HV.out]
      clear h hcr hl hc hd c0 d0 HXX HS0 HF0 HLN
      go_enter Try.func15, Try.ntmps15
      go_upto_region 1 with fail
      rw [← hV]
      clear hV
      go_wp2_with fail
      refine HSF.out.mono ?_
      rintro e w1 ⟨rfl, hb1⟩
      have y0 := (hb1.cell (p := ⟨w.heap.size + 1 + 1, 0, none⟩) hVl).trans x0
      have y1 := (hb1.cell (p := ⟨w.heap.size + 1 + 1, 1, none⟩) hVl).trans x1
      have y2 := (hb1.cell (p := ⟨w.heap.size + 1 + 1, 2, none⟩) hVl).trans x2
      have y3 := (hb1.cell (p := ⟨w.heap.size + 1 + 1, 3, none⟩) hVl).trans x3
      have y4 := (hb1.cell (p := ⟨w.heap.size + 1 + 1, 4, none⟩) hVl).trans x4
      have hl3 : w.heap.size + 1 + 1 < w1.heap.size := Nat.lt_of_lt_of_le hVl hb1.size
      have HB1 := hidW (BV.trans (hb1.mono BV.size))
      clear hb1
      go_wp2_with fail
      refine (HST.out _).mono ?_
      rintro e w2 ⟨rfl, hb2⟩
      go_wp2
      go_ret
      exact ⟨rfl, HB1.out.trans (hb2.mono HB1.out.size)⟩
  · have cb : (c != 0) = true := by simp [c0]
    have HV : Hid (rvB f zs x (chL cr) = false) := by show _ = _; unfold rvB; rw [hc, decide_eq_false c0]; simp
    rw [HV.out]
    clear h hcr hl hc hd c0 HXX HS0 HF0 HLN
    go_enter Try.func15, Try.ntmps15
    go_upto_region 1 with fail
    rw [← hV]
    clear hV
    go_wp2_with fail
    refine HSF.out.mono ?_
    rintro e w1 ⟨rfl, hb1⟩
    go_wp2
    go_ret
    exact ⟨rfl, BV.trans (hb1.mono BV.size)⟩

set_option maxRecDepth 20000 in
set_option maxHeartbeats 2000000 in
theorem l14Back_c (a : Option Addr) (n cap : Nat) (zs : List ShI) (f : Int) (bx : Nat) (x : StI) (s : Option Addr) (N sc : Nat) (cr : List CrI) (w : World) (hn : n ≤ 1048576) (hf : inR f 1 2 = true) (h : ShIn w a n zs) (hx : StAt w bx 0 x) (hN : N ≤ 1048576) (hcr : CrsIn w s N cr) (hl : ∀ (k : Nat) c, cr[k]? = some c → c.gn ≤ 1048576) :
    Calls Try.prog 31 #[.slice a n cap, .int .i64 f, .pointer (some ⟨bx, 0, none⟩), .slice s N sc] w fun e w' => e = .returned (.bool (bkB f zs x (chL cr))) ∧ Below w.heap.size w w' := by
  have HZ : Hid (cr.length = N) := hcr.len
  have H : Hid (CrsIn w s N cr) := hcr
  have HL := hidW hl
  have HSH := hidW h
  have hxl : bx < w.heap.size := World.block_lt_of_cell? w ⟨bx, 0, none⟩ hx.1
  obtain ⟨x0, x1, x2, x3, x4⟩ := hx
  simp only [Nat.zero_add] at x0 x1 x2 x3 x4
  have HLV : Hid (∀ (cb o : Nat) (c : CrI) (W : World), Below w.heap.size w W → c.gn ≤ 1048576 → CrO W cb o c.st c.ga c.gn c.gc c.zs → Calls Try.prog 57 #[.slice a n cap, .int .i64 f, .pointer (some ⟨cb, o, none⟩)] W fun e w' => e = .returned (.int .i64 (vfL f zs c.st c.zs)) ∧ Below W.heap.size W w') := fun cb o c W hb hc ho => l9VerifyO_c a n cap zs f cb o c.st c.ga c.gn c.gc c.zs W hn hc hf (HSH.out.below hb) ho
  clear h hcr hl
  have hN' : (N : Int) ≤ 1048576 := by omega
  obtain ⟨V, hV⟩ : ∃ V, V = (w.alloc (.cells #[.int .i64 2, .int .i64 x.e, .int .i64 x.f, .int .i64 x.s, .int .i64 0] 36)).drew := ⟨_, rfl⟩
  have HBV : Hid (Below w.heap.size w V) := by show Below _ _ _; rw [hV]; exact ((Below.refl _ _).alloc (Nat.le_refl _) _).drew
  have b0 : V.cell? ⟨w.heap.size, 0, none⟩ = some (.int .i64 2) := by rw [hV]; simp [go_sem]
  have b1 : V.cell? ⟨w.heap.size, 1, none⟩ = some (.int .i64 x.e) := by rw [hV]; simp [go_sem]
  have b2 : V.cell? ⟨w.heap.size, 2, none⟩ = some (.int .i64 x.f) := by rw [hV]; simp [go_sem]
  have b3 : V.cell? ⟨w.heap.size, 3, none⟩ = some (.int .i64 x.s) := by rw [hV]; simp [go_sem]
  have b4 : V.cell? ⟨w.heap.size, 4, none⟩ = some (.int .i64 0) := by rw [hV]; simp [go_sem]
  have hVl : w.heap.size < V.heap.size := by rw [hV]; simp [World.drew]
  have HBX : Hid (BoxV w.heap.size [.int .i64 2, .int .i64 x.e, .int .i64 x.f, .int .i64 x.s, .int .i64 0] V) := fun j v e => by
    match j, e with
    | 0, e => simp at e; subst e; exact b0
    | 1, e => simp at e; subst e; exact b1
    | 2, e => simp at e; subst e; exact b2
    | 3, e => simp at e; subst e; exact b3
    | 4, e => simp at e; subst e; exact b4
  clear b0 b1 b2 b3 b4
  go_enter Try.func31, Try.ntmps31
  go_upto_region 1 with fail
  go_region
  rw [← hV]
  clear hV
  clear x0 x1 x2 x3 x4
  go_wp2_with fail
  go_loopw [10] (fun i wr => ∃ j : Nat, j ≤ N ∧ i = .int .i64 (j : Int) ∧ Hid (bkB f zs x (chL cr) = bkB f zs x (chL (cr.drop j))) ∧ Below V.heap.size V wr) (fun i _ => N - (intOf i).toNat)
  case atStart => exact ⟨0, Nat.zero_le _, rfl, rfl, Below.refl _ _⟩
  case round =>
    obtain ⟨j, hj, rfl, HP, hnx⟩ := hrel
    by_cases hlt : j < N
    · have HBR : Hid (Below w.heap.size w wr) := HBV.out.trans (hnx.mono HBV.out.size)
      obtain ⟨g, off, c, rfl, hc, hat, hdi⟩ := H.out.at hlt
      have HBK : Hid (bkB f zs x (chL cr) = ((sameSt c.st (backI x) && decide (vfL f zs c.st c.zs = 0)) || bkB f zs x (chL (cr.drop (j + 1))))) := HP.out.trans (bk_drop hc)
      have hcg := HL.out j c hc
      have hbw : Below w.heap.size w wr := HBR.out
      have hat2 := hat.below hbw
      have hgw : g < wr.heap.size := hat2.lt
      have HCO : Hid (CrO wr g (off + j * 6) c.st c.ga c.gn c.gc c.zs) := ⟨hat2.st, hat2.sl, hdi.below hbw⟩
      have HLW : Hid (∀ W : World, KW wr W → Calls Try.prog 57 #[.slice a n cap, .int .i64 f, .pointer (some ⟨g, off + j * 6, none⟩)] W fun e w' => e = .returned (.int .i64 (vfL f zs c.st c.zs)) ∧ Below W.heap.size W w') := fun W hW => HLV.out g (off + j * 6) c W (hbw.trans (hW.2.mono hbw.size)) hcg (HCO.out.below hW.2)
      have X := (BoxV.hold HBX.out (by omega)).below hnx
      have b0 := X.out 0 _ rfl
      have b1 := X.out 1 _ rfl
      have b2 := X.out 2 _ rfl
      have b3 := X.out 3 _ rfl
      have b4 := X.out 4 _ rfl
      have hBw : w.heap.size < wr.heap.size := Nat.lt_of_lt_of_le hVl hnx.size
      obtain ⟨⟨c0, c1, c2, c3, c4⟩, c5⟩ := hat2
      have hlt' : (j : Int) < (N : Int) := by omega
      have hj0 : (0 : Int) ≤ (j : Int) := by omega
      clear hc hat hdi hbw X
      cases q : sameSt c.st (backI x)
      · have hse := chk_eql c x false q
        rw [q, Bool.false_and, Bool.false_or] at HBK
        clear q
        go_wp2_with fail
        go_quiet (fail)
        go_wp2
        exact ⟨⟨j + 1, by omega, by go_num, HBK, below_drewN hnx _⟩, by simp [intOf]; omega⟩
      · have hse := chk_eql c x true q
        obtain ⟨v, hv⟩ : ∃ v, vfL f zs c.st c.zs = v := ⟨_, rfl⟩
        rw [q, Bool.true_and, hv] at HBK
        rw [hv] at HLW
        clear q hv
        by_cases v0 : v = 0
        · have vb : (v == 0) = true := by simp [v0]
          rw [decide_eq_true v0, Bool.true_or] at HBK
          clear v0
          go_wp2_with fail
          go_region_held3 (fun w' => KW wr w') (first | exact hS | exact kp_drew _)
            (first | (go_at_call 57; refine (HLW.out _ (by assumption)).mono ?_; rintro e w' ⟨rfl, hb2⟩; have hS := kp_step (by assumption) hb2))
          go_wp2
          go_ret
          exact ⟨by rw [HBK.out]; rfl, (HBV.out.trans (hnx.mono HBV.out.size)).trans (hS.2.mono (Nat.le_trans HBV.out.size hnx.size))⟩
        · have vb : (v == 0) = false := by simp [v0]
          rw [decide_eq_false v0, Bool.false_or] at HBK
          clear v0
          go_wp2_with fail
          go_region_held3 (fun w' => KW wr w') (first | exact hS | exact kp_drew _)
            (first | (go_at_call 57; refine (HLW.out _ (by assumption)).mono ?_; rintro e w' ⟨rfl, hb2⟩; have hS := kp_step (by assumption) hb2))
          go_wp2
          exact ⟨⟨j + 1, by omega, by go_num, HBK, hnx.trans (hS.2.mono hnx.size)⟩, by simp [intOf]; omega⟩
    · have hkn : j = N := by omega
      subst hkn
      have HI : Hid (bkB f zs x (chL cr) = false) := HP.out.trans (bk_end (by rw [HZ.out]; exact Nat.le_refl _))
      go_wp2
      go_ret
      exact ⟨by rw [HI.out]; rfl, HBV.out.trans (hnx.mono HBV.out.size)⟩

end Go.Proofs.Ythogdfnaojijhaa
