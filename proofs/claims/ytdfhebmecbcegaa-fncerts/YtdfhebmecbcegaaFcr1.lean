/-
  THE LAW laws.FnCerts, from the code of bytes on.
  Conditions: each contract bears its own.
-/
import Derived.Test.YtdfhebmecbcegaaFcr0
namespace Go.Proofs.Ytdfhebmecbcegaa
open Go.RowKit
set_option linter.unusedVariables false
set_option linter.unusedSimpArgs false

/-- Shares and a statement that were drawn. -/
structure FK (w : World) (va : Option Addr) (zs : List ShI) (q : Nat) (x : StI) (W : World) : Prop where
  bl : Below w.heap.size w W
  sh : ShIn W va zs.length zs
  bx : BoxV q [.int .i64 x.k, .int .i64 x.e, .int .i64 x.f, .int .i64 x.s, .int .i64 x.n] W
  lt : q < W.heap.size

theorem FK.below {w : World} {va : Option Addr} {zs : List ShI} {q : Nat} {x : StI} {W W' : World} (h : FK w va zs q x W) (hb : Below W.heap.size W W') : FK w va zs q x W' :=
  ⟨h.bl.trans (hb.mono h.bl.size), h.sh.below hb, ((BoxV.hold h.bx h.lt).below hb).out, Nat.lt_of_lt_of_le h.lt hb.size⟩

theorem sameSt_refl9 (x : StI) : sameSt x x = true := by simp [sameSt]

theorem ints_tail {W : World} {g : Nat} {ys : List Int} (h : IntIn W (some ⟨g, 0, none⟩) ys.length ys) : IntIn W (some ⟨g, 1, none⟩) (ys.length - 1) (ys.drop 1) := by
  refine ⟨by simp, fun hn => ⟨g, 1, rfl, fun k y hy => ?_⟩⟩
  obtain ⟨b, off, e, hc⟩ := h.2 (by omega)
  simp at e
  obtain ⟨rfl, rfl⟩ := e
  have := hc (1 + k) y (by rw [List.getElem?_drop] at hy; exact hy)
  simpa using this

attribute [local go_sem] fldC0
attribute [local go_sem ↓] st_eql

/-- Numbers of one's own and the box that leads to them. -/
structure RB (R : Nat) (vs : List Value) (ra : Option Addr) (rc : Nat) (ys : List Int) (W : World) : Prop where
  bx : BoxV R vs W
  lt : R < W.heap.size
  ow : OwnI W 0 (.slice ra ys.length rc) ys

theorem RB.below {R : Nat} {vs : List Value} {ra : Option Addr} {rc : Nat} {ys : List Int} {W W' : World} (h : RB R vs ra rc ys W) (hb : Below W.heap.size W W') : RB R vs ra rc ys W' :=
  ⟨((BoxV.hold h.bx h.lt).below hb).out, Nat.lt_of_lt_of_le h.lt hb.size, ownI_below h.ow hb⟩

theorem RB.ints {R : Nat} {vs : List Value} {ra : Option Addr} {rc : Nat} {ys : List Int} {W : World} (h : RB R vs ra rc ys W) : IntIn W ra ys.length ys := by
  refine ⟨rfl, fun hn => ?_⟩
  have h0 : W.ownsRow 0 2 1 (.slice ra ys.length rc) ys.length (ys.map (Value.int .i64)) := h.ow
  rcases h0.2 with ⟨e, hn'⟩ | ⟨g, cap, cur, e, hg, hb, rest⟩
  · omega
  · simp at e
    obtain ⟨rfl, rfl⟩ := e
    refine ⟨g, 0, rfl, fun k y hy => ?_⟩
    have := ownI_cells h.ow rfl k y hy
    rwa [Nat.zero_add]

theorem RB.form {R : Nat} {vs : List Value} {ra : Option Addr} {rc : Nat} {ys : List Int} {W : World} (h : RB R vs ra rc ys W) (hn : 0 < ys.length) : ∃ g, ra = some ⟨g, 0, none⟩ ∧ ys.length ≤ rc := by
  have h0 : W.ownsRow 0 2 1 (.slice ra ys.length rc) ys.length (ys.map (Value.int .i64)) := h.ow
  rcases h0.2 with ⟨e, hn'⟩ | ⟨g, cap, cur, e, hg, hb, h1, rest⟩
  · omega
  · simp at e
    exact ⟨g, e.1, by rw [e.2]; exact h1⟩

set_option maxRecDepth 100000 in
set_option maxHeartbeats 1000000 in
theorem certs_inner (a : Option Addr) (len cap : Nat) (bs : List Int) (w : World) (hl : len ≤ 1048576) (hc : CodeIn w a len bs) :
    Calls Try.prog 3 #[.slice a len cap] w fun e w' => e = .returned (.bool true) ∧ Below w.heap.size w w' := by
  have hl' : (len : Int) ≤ 1048576 := by omega
  have HCO : Hid (CodeIn w a len bs) := hc
  clear hc
  go_enter Try.func3, Try.ntmps3
  go_wp2_with (first | (go_at_call 12; go_in) | fail)
  have HD := drawCombine_c a len cap bs _ HCO.out hl
  unfold GivesW9 at HD
  refine HD.mono ?_
  clear HD HCO
  rintro e w1 ⟨va, vc, zs, f, x, rfl, hzl, f0, f3, hok, how, hb1⟩
  have hcaps := ownSh_caps how
  have HOK : Hid (∀ z ∈ zs, i64W z.r) := fun z hz => by have := hok z hz; exact i64W_of (by omega) (by omega)
  have F1 : Hid (FK w va zs w1.heap.size x (w1.alloc (.cells #[.int .i64 x.k, .int .i64 x.e, .int .i64 x.f, .int .i64 x.s, .int .i64 x.n] 26))) :=
    ⟨hb1.alloc hb1.size _, ((ShV.isIn rfl how.view).below ((Below.refl _ _).alloc (Nat.le_refl _) _)), (boxV_new w1 _ _).out, by simp⟩
  clear hok how hb1
  obtain ⟨c, hcE⟩ : ∃ c, cbCode f zs x = c := ⟨_, rfl⟩
  obtain ⟨cx, hxE⟩ : ∃ cx, cbX f zs x = cx := ⟨_, rfl⟩
  obtain ⟨ys, hyE⟩ : ∃ ys, cbL f zs x = ys := ⟨_, rfl⟩
  have HCI : Hid (∀ W, FK w va zs w1.heap.size x W → GivesCB 14 va zs.length vc f x c cx ys W) := fun W h => by
    rw [← hcE, ← hxE, ← hyE]
    exact implCombine_c va zs.length vc zs f x W (by omega) hcaps.1 hcaps.2 h.sh
  have HCS : Hid (∀ W, FK w va zs w1.heap.size x W → GivesCB 15 va zs.length vc f x c cx ys W) := fun W h => by
    rw [← hcE, ← hxE, ← hyE]
    exact specCombine_c va zs.length vc zs f x W (by omega) hcaps.1 hcaps.2 h.sh
  have HIS : Hid (∀ W, FK w va zs w1.heap.size x W → GivesIS 16 va zs.length vc f x (c == 0) W) := fun W h => by
    rw [← hcE]
    exact implSigned_c va zs.length vc zs f x W (by omega) hcaps.1 hcaps.2 h.sh
  have HVC : Hid (∀ W (ga : Option Addr) (gn gc : Nat) (us : List Int), FK w va zs w1.heap.size x W → gn ≤ 1048576 → IntIn W ga gn us → GivesVC 18 va zs.length vc f x ga gn gc (vfCode f zs x us) W) := fun W ga gn gc us h hg hi =>
    implVerifyCert_c va zs.length vc zs f x ga gn gc us W (by omega) hcaps.1 hcaps.2 hg h.sh hi
  have HSO : Hid (∀ W, FK w va zs w1.heap.size x W → GivesSO 17 va zs.length vc x (sgCode zs x) (sgRes zs x) W) := fun W h => implSigners_c va zs.length vc zs x W (by omega) HOK.out h.sh
  have HFA : Hid (c = 0 → 1 ≤ f ∧ f ≤ 2 ∧ zs.length ≤ 120 ∧ cx = x ∧ ys.length = (2 * f + 1).toNat ∧ sgCode zs x = 0 ∧ sgRes zs x = sgL zs x ∧ vfCode f zs x ys = 0 ∧ vfCode f zs x (ys.drop 1) = 7 ∧ (∀ y ∈ ys, y ∈ sgL zs x) ∧ ys.length ≤ (sgL zs x).length) := fun e => by
    rw [← hcE] at e
    rw [← hxE, ← hyE]
    exact cb_facts e
  clear hcE hxE hyE HOK
  unfold GivesCB at HCI HCS
  unfold GivesIS at HIS
  unfold GivesVC at HVC
  unfold GivesSO at HSO
  go_wp2_with fail
  generalize hW1 : w1.alloc (.cells #[.int .i64 x.k, .int .i64 x.e, .int .i64 x.f, .int .i64 x.s, .int .i64 x.n] 26) = W1 at F1 ⊢
  clear hW1
  generalize w1.heap.size = q at F1 HCI HCS HIS HVC HSO ⊢
  refine (HCI.out _ F1.out).mono ?_
  rintro e w2 ⟨ra, rc, rfl, how2, hb2⟩
  obtain ⟨W, hW⟩ : ∃ W, W = w2.alloc (.cells #[.int .i64 c, .int .i64 cx.k, .int .i64 cx.e, .int .i64 cx.f, .int .i64 cx.s, .int .i64 cx.n, .slice ra ys.length rc] 33) := ⟨_, rfl⟩
  have A2 : Below w2.heap.size w2 W := by rw [hW]; exact (Below.refl _ _).alloc (Nat.le_refl _) _
  have F2 : Hid (FK w va zs q x W) := (F1.out.below hb2).below A2
  have R2 : Hid (RB w2.heap.size [.int .i64 c, .int .i64 cx.k, .int .i64 cx.e, .int .i64 cx.f, .int .i64 cx.s, .int .i64 cx.n, .slice ra ys.length rc] ra rc ys W) := by
    rw [hW]
    exact ⟨(boxV_new w2 _ _).out, by simp, ownI_below (owns_lowI how2 (Nat.zero_le _)) ((Below.refl _ _).alloc (Nat.le_refl _) _)⟩
  clear how2 hb2 A2 F1 HCI
  by_cases hc0 : c = 0
  · subst hc0
    obtain ⟨hf1, hf2, hzn, rfl, hyl, hsc, hsr, hv0, hv7, hmem, hle⟩ := HFA.out rfl
    rw [hsc, hsr] at HSO
    obtain ⟨ts, hts⟩ : ∃ ts, sgL zs cx = ts := ⟨_, rfl⟩
    rw [hts] at HSO hmem hle
    have HME : Hid (∀ y ∈ ys, y ∈ ts) := hmem
    have HV0 : Hid (vfCode f zs cx ys = 0) := hv0
    have HV7 : Hid (vfCode f zs cx (ys.drop 1) = 7) := hv7
    have HYL : Hid (ys.length = (2 * f + 1).toNat) := hyl
    have hyi : (ys.length : Int) = 2 * f + 1 := by omega
    have HYI : Hid ((ys.length : Int) = 2 * f + 1) := hyi
    have hy1 : 3 ≤ ys.length := by omega
    have hy2 : ys.length ≤ 5 := by omega
    have htl : ts.length ≤ 1048576 := by have := sgL_len zs cx; rw [hts] at this; omega
    clear hsc hsr hts hmem hv0 hv7 hyl hyi HFA HCS
    obtain ⟨g, rfl, hrc⟩ := R2.out.form (by omega)
    go_upto_region 7 with fail
    rw [← hW]
    clear hW
    generalize w2.heap.size = R at R2 ⊢
    have x0 := F2.out.bx 0 _ rfl
    have x1 := F2.out.bx 1 _ rfl
    have x2 := F2.out.bx 2 _ rfl
    have x3 := F2.out.bx 3 _ rfl
    have x4 := F2.out.bx 4 _ rfl
    have hql := F2.out.lt
    go_wp2_with fail
    refine (HSO.out _ F2.out).mono ?_
    rintro e w3 ⟨sa, sc, rfl, how3, hb3⟩
    clear x0 x1 x2 x3 x4 hql
    obtain ⟨V, hV⟩ : ∃ V, V = w3.alloc (.cells #[.int .i64 0, .slice sa ts.length sc] 37) := ⟨_, rfl⟩
    have A3 : Below w3.heap.size w3 V := by rw [hV]; exact (Below.refl _ _).alloc (Nat.le_refl _) _
    have F3 : Hid (FK w va zs q cx V) := (F2.out.below hb3).below A3
    have R3 : Hid (RB R [.int .i64 0, .int .i64 cx.k, .int .i64 cx.e, .int .i64 cx.f, .int .i64 cx.s, .int .i64 cx.n, .slice (some ⟨g, 0, none⟩) ys.length rc] (some ⟨g, 0, none⟩) rc ys V) := (R2.out.below hb3).below A3
    have S3 : Hid (RB w3.heap.size [.int .i64 0, .slice sa ts.length sc] sa sc ts V) := by
      rw [hV]
      exact ⟨(boxV_new w3 _ _).out, by simp, ownI_below (owns_lowI how3 (Nat.zero_le _)) ((Below.refl _ _).alloc (Nat.le_refl _) _)⟩
    clear how3 hb3 A3 F2 R2 HSO
    go_upto_region 8 with fail
    rw [← hV]
    clear hV
    generalize w3.heap.size = T at S3 ⊢
    have x0 := F3.out.bx 0 _ rfl
    have x1 := F3.out.bx 1 _ rfl
    have x2 := F3.out.bx 2 _ rfl
    have x3 := F3.out.bx 3 _ rfl
    have x4 := F3.out.bx 4 _ rfl
    have r6 := R3.out.bx 6 _ rfl
    have hql := F3.out.lt
    have hRl := R3.out.lt
    have hrc' : (ys.length : Int) ≤ (rc : Int) := by omega
    have hy1' : (1 : Int) ≤ (ys.length : Int) := by omega
    have hrn : ¬ rc = 1 := by omega
    go_region
    obtain ⟨Z, hZ⟩ : ∃ Z, Z = (V.alloc (.cells #[.int .i64 cx.k, .int .i64 cx.e, .int .i64 cx.f, .int .i64 cx.s, .int .i64 cx.n, .slice (some ⟨g, 1, none⟩) (ys.length - 1) (rc - 1)] 31)).drew := ⟨_, rfl⟩
    have A4 : Below V.heap.size V Z := by rw [hZ]; exact ((Below.refl _ _).alloc (Nat.le_refl _) _).drew
    have F4 : Hid (FK w va zs q cx Z) := F3.out.below A4
    have R4 : Hid (RB R [.int .i64 0, .int .i64 cx.k, .int .i64 cx.e, .int .i64 cx.f, .int .i64 cx.s, .int .i64 cx.n, .slice (some ⟨g, 0, none⟩) ys.length rc] (some ⟨g, 0, none⟩) rc ys Z) := R3.out.below A4
    have S4 : Hid (RB T [.int .i64 0, .slice sa ts.length sc] sa sc ts Z) := S3.out.below A4
    have L4 : Hid (BoxV V.heap.size [.int .i64 cx.k, .int .i64 cx.e, .int .i64 cx.f, .int .i64 cx.s, .int .i64 cx.n, .slice (some ⟨g, 1, none⟩) (ys.length - 1) (rc - 1)] Z ∧ V.heap.size < Z.heap.size) := by
      rw [hZ]
      exact ⟨(boxV_new V _ _).out, by simp⟩
    rw [← hZ]
    clear hZ A4 F3 R3 S3 x0 x1 x2 x3 x4 r6 hql hRl
    generalize V.heap.size = U at L4 ⊢
    have hm1 : IntKind.i64.wrap (2 * f) = 2 * f := wrap9 (by omega) (by omega)
    have hm2 : IntKind.i64.wrap (2 * f + 1) = 2 * f + 1 := wrap9 (by omega) (by omega)
    have hyn : ((ys.length : Int) != 2 * f + 1) = false := by simp [HYI.out]
    have r1 := R4.out.bx 1 _ rfl
    have r2 := R4.out.bx 2 _ rfl
    have r3 := R4.out.bx 3 _ rfl
    have r4 := R4.out.bx 4 _ rfl
    have r5 := R4.out.bx 5 _ rfl
    have r6 := R4.out.bx 6 _ rfl
    have hRl := R4.out.lt
    go_wp2_with fail
    have hv := HVC.out _ _ _ rc ys F4.out (by omega) R4.out.ints
    rw [HV0.out] at hv
    refine hv.mono ?_
    clear hv r1 r2 r3 r4 r5 r6 hRl
    rintro e w5 ⟨rfl, hb5⟩
    have F5 := hid (F4.out.below hb5)
    have R5 := hid (R4.out.below hb5)
    have S5 := hid (S4.out.below hb5)
    have L5 := hid (((BoxV.hold L4.out.1 L4.out.2).below hb5).out)
    have hUl := Nat.lt_of_lt_of_le L4.out.2 hb5.size
    clear F4 R4 S4 L4 hb5
    have l0 := L5.out 0 _ rfl
    have l1 := L5.out 1 _ rfl
    have l2 := L5.out 2 _ rfl
    have l3 := L5.out 3 _ rfl
    have l4 := L5.out 4 _ rfl
    have l5 := L5.out 5 _ rfl
    go_wp2_with fail
    have hv := HVC.out _ _ _ (rc - 1) (ys.drop 1) F5.out (by omega) (ints_tail R5.out.ints)
    rw [HV7.out] at hv
    refine hv.mono ?_
    clear hv l0 l1 l2 l3 l4 l5 hUl L5 HVC
    rintro e w6 ⟨rfl, hb6⟩
    have F6 := hid (F5.out.below hb6)
    have R6 := hid (R5.out.below hb6)
    have S6 := hid (S5.out.below hb6)
    clear F5 R5 S5 hb6
    have x0 := F6.out.bx 0 _ rfl
    have x1 := F6.out.bx 1 _ rfl
    have x2 := F6.out.bx 2 _ rfl
    have x3 := F6.out.bx 3 _ rfl
    have x4 := F6.out.bx 4 _ rfl
    have hql := F6.out.lt
    go_wp2_with fail
    refine (HIS.out _ F6.out).mono ?_
    rintro e w7 ⟨rfl, hb7⟩
    have F7 := hid (F6.out.below hb7)
    have R7 := hid (R6.out.below hb7)
    have S7 := hid (S6.out.below hb7)
    clear F6 R6 S6 hb7 x0 x1 x2 x3 x4 hql HIS
    have h00 : ((0 : Int) == 0) = true := rfl
    rw [h00]
    go_wp2_with fail
    go_loopw [9] (fun i wr => ∃ k : Nat, i = .int .i64 (k : Int) ∧ k ≤ ys.length ∧ Hid (FK w va zs q cx wr) ∧ Hid (RB R [.int .i64 0, .int .i64 cx.k, .int .i64 cx.e, .int .i64 cx.f, .int .i64 cx.s, .int .i64 cx.n, .slice (some ⟨g, 0, none⟩) ys.length rc] (some ⟨g, 0, none⟩) rc ys wr) ∧ Hid (RB T [.int .i64 0, .slice sa ts.length sc] sa sc ts wr)) (fun i _ => 100 - (intOf i).toNat)
    case atStart => exact ⟨0, rfl, Nat.zero_le _, F7, R7, S7⟩
    case round =>
      clear F7 R7 S7
      obtain ⟨k, rfl, hk, F8, R8, S8⟩ := hrel
      have r0 := R8.out.bx 0 _ rfl
      have r1 := R8.out.bx 1 _ rfl
      have r2 := R8.out.bx 2 _ rfl
      have r3 := R8.out.bx 3 _ rfl
      have r4 := R8.out.bx 4 _ rfl
      have r5 := R8.out.bx 5 _ rfl
      have r6 := R8.out.bx 6 _ rfl
      have hRl := R8.out.lt
      have s0 := S8.out.bx 0 _ rfl
      have s1 := S8.out.bx 1 _ rfl
      have hTl := S8.out.lt
      by_cases hlt : k < ys.length
      · have hlt' : (k : Int) < (ys.length : Int) := by omega
        obtain ⟨y, hy⟩ : ∃ y, ys[k]? = some y := ⟨_, List.getElem?_eq_getElem hlt⟩
        have hyc := ownI_cells R8.out.ow rfl k y hy
        have hgl := World.block_lt_of_cell? _ _ hyc
        have HYM : Hid (decide (y ∈ ts) = true) := by show _ = _; exact decide_eq_true (HME.out y (List.mem_of_getElem? hy))
        clear hy
        go_upto_region 14 with fail
        refine wp_region_held_drew (S := fun w' => (∀ b o, b < wr.heap.size → w'.cell? ⟨b, o, none⟩ = wr.cell? ⟨b, o, none⟩) ∧ Below wr.heap.size wr w') (by kernel_rfl) (kp_drew _) (fun hHeld => ?_)
        refine wpAnyH_take (i := 0) (v := ?_) rfl (by kernel_rfl) (by kernel_rfl) (by kernel_rfl) (fun _ _ _ h => h) (Or.inl ⟨by kernel_rfl, ?_⟩) (by assumption) ?_
        rotate_left 1
        · intro w hSw; (try dsimp only at hSw); go_simp; try (with_reducible rfl)
        try simp only [Act.put, List.getElem_toArray, List.getElem_cons_succ, List.getElem_cons_zero, List.setIfInBounds_toArray, List.set_cons_zero, List.set_cons_succ]
        refine wpAnyH_take (i := 1) (v := ?_) rfl (by kernel_rfl) (by kernel_rfl) (by kernel_rfl) (fun _ _ _ h => h) (Or.inl ⟨by kernel_rfl, ?_⟩) (by assumption) ?_
        rotate_left 1
        · intro w hSw; (try dsimp only at hSw); go_simp; try (with_reducible rfl)
        try simp only [Act.put, List.getElem_toArray, List.getElem_cons_succ, List.getElem_cons_zero, List.setIfInBounds_toArray, List.set_cons_zero, List.set_cons_succ]
        refine wpAnyH_take (i := 2) (v := ?_) rfl (by kernel_rfl) (by kernel_rfl) (by kernel_rfl) (fun _ _ _ h => h) (Or.inl ⟨by kernel_rfl, ?_⟩) (by assumption) ?_
        rotate_left 1
        · intro w hSw; (try dsimp only at hSw); go_simp; try (with_reducible rfl)
        try simp only [Act.put, List.getElem_toArray, List.getElem_cons_succ, List.getElem_cons_zero, List.setIfInBounds_toArray, List.set_cons_zero, List.set_cons_succ]
        refine wpAnyH_take (i := 3) (v := ?_) rfl (by kernel_rfl) (by kernel_rfl) (by kernel_rfl) (fun _ _ _ h => h) (Or.inl ⟨by kernel_rfl, ?_⟩) (by assumption) ?_
        rotate_left 1
        · intro w hSw; (try dsimp only at hSw); go_simp; try (with_reducible rfl)
        try simp only [Act.put, List.getElem_toArray, List.getElem_cons_succ, List.getElem_cons_zero, List.setIfInBounds_toArray, List.set_cons_zero, List.set_cons_succ]
        refine wpAnyH_take (i := 4) (v := ?_) rfl (by kernel_rfl) (by kernel_rfl) (by kernel_rfl) (fun _ _ _ h => h) (Or.inl ⟨by kernel_rfl, ?_⟩) (by assumption) ?_
        rotate_left 1
        · intro w hSw; (try dsimp only at hSw); go_simp; try (with_reducible rfl)
        try simp only [Act.put, List.getElem_toArray, List.getElem_cons_succ, List.getElem_cons_zero, List.setIfInBounds_toArray, List.set_cons_zero, List.set_cons_succ]
        refine wpAnyH_take (i := 5) (v := ?_) rfl (by kernel_rfl) (by kernel_rfl) (by kernel_rfl) (fun _ _ _ h => h) (Or.inl ⟨by kernel_rfl, ?_⟩) (by assumption) ?_
        rotate_left 1
        · intro w hSw; (try dsimp only at hSw); go_simp; try (with_reducible rfl)
        try simp only [Act.put, List.getElem_toArray, List.getElem_cons_succ, List.getElem_cons_zero, List.setIfInBounds_toArray, List.set_cons_zero, List.set_cons_succ]
        refine wpAnyH_take (i := 6) (v := ?_) rfl (by kernel_rfl) (by kernel_rfl) (by kernel_rfl) (fun _ _ _ h => h) (Or.inl ⟨by kernel_rfl, ?_⟩) (by assumption) ?_
        rotate_left 1
        · intro w hSw; (try dsimp only at hSw); go_simp; try (with_reducible rfl)
        try simp only [Act.put, List.getElem_toArray, List.getElem_cons_succ, List.getElem_cons_zero, List.setIfInBounds_toArray, List.set_cons_zero, List.set_cons_succ]
        refine wpAnyH_take (i := 7) (v := ?_) rfl (by kernel_rfl) (by kernel_rfl) (by kernel_rfl) (fun _ _ _ h => h) (Or.inl ⟨by kernel_rfl, ?_⟩) (by assumption) ?_
        rotate_left 1
        · intro w hSw; (try dsimp only at hSw); go_simp; try (with_reducible rfl)
        try simp only [Act.put, List.getElem_toArray, List.getElem_cons_succ, List.getElem_cons_zero, List.setIfInBounds_toArray, List.set_cons_zero, List.set_cons_succ]
        refine wpAnyH_ready (rs := [8]) (by kernel_rfl) (by simp) ?_
        refine AllReadyH.cons rfl (fun K hK => ?_) AllReadyH.nil
        go_simp
        refine (lwHas9_c sa ts.length sc ts y _ htl (S8.out.below hHeld.2).ints).mono ?_
        rintro d wA ⟨rfl, rfl⟩
        rw [HYM.out]
        have hS := hHeld
        refine hK.out _ _ hS (fun hHeld => ?_)
        clear hK K
        try simp only [Act.put, List.getElem_toArray, List.getElem_cons_succ, List.getElem_cons_zero, List.setIfInBounds_toArray, List.set_cons_zero, List.set_cons_succ]
        refine wpAnyH_take (i := 9) (v := ?_) rfl (by kernel_rfl) (by kernel_rfl) (by kernel_rfl) (fun _ _ _ h => h) (Or.inl ⟨by kernel_rfl, ?_⟩) (by assumption) ?_
        rotate_left 1
        · intro w hSw; (try dsimp only at hSw); go_simp; try (with_reducible rfl)
        try simp only [Act.put, List.getElem_toArray, List.getElem_cons_succ, List.getElem_cons_zero, List.setIfInBounds_toArray, List.set_cons_zero, List.set_cons_succ]
        refine wpAnyH_done (by kernel_rfl) ?_ _
        go_wp2
        exact ⟨⟨k + 1, by go_num, by omega, hid (F8.out.below hHeld.2), hid (R8.out.below hHeld.2), hid (S8.out.below hHeld.2)⟩, by simp [intOf]; omega⟩
      · have hkn : k = ys.length := by omega
        subst hkn
        have x0 := F8.out.bx 0 _ rfl
        have x1 := F8.out.bx 1 _ rfl
        have x2 := F8.out.bx 2 _ rfl
        have x3 := F8.out.bx 3 _ rfl
        have x4 := F8.out.bx 4 _ rfl
        have hql := F8.out.lt
        have hss : sameSt cx cx = true := sameSt_refl9 cx
        have hle' : (ys.length : Int) ≤ (ts.length : Int) := by omega
        go_wp2
        go_ret
        exact ⟨by simp, F8.out.bl⟩
  · have cb : (c != 0) = true := by simp [hc0]
    have cb2 : (c == 0) = false := by simp [hc0]
    go_upto_region 6 with fail
    rw [← hW]
    clear hW
    generalize w2.heap.size = R at R2 ⊢
    have x0 := F2.out.bx 0 _ rfl
    have x1 := F2.out.bx 1 _ rfl
    have x2 := F2.out.bx 2 _ rfl
    have x3 := F2.out.bx 3 _ rfl
    have x4 := F2.out.bx 4 _ rfl
    have r0 := R2.out.bx 0 _ rfl
    have hql := F2.out.lt
    have hRl := R2.out.lt
    refine wp_region_held_drew (S := fun w' => (∀ b o, b < W.heap.size → w'.cell? ⟨b, o, none⟩ = W.cell? ⟨b, o, none⟩) ∧ Below W.heap.size W w') (by kernel_rfl) (kp_drew _) (fun hHeld => ?_)
    refine wpAnyH_take (i := 0) (v := ?_) rfl (by kernel_rfl) (by kernel_rfl) (by kernel_rfl) (fun _ _ _ h => h) (Or.inl ⟨by kernel_rfl, ?_⟩) (by assumption) ?_
    rotate_left 1
    · intro w hSw; (try dsimp only at hSw); go_simp; try (with_reducible rfl)
    try simp only [Act.put, List.getElem_toArray, List.getElem_cons_succ, List.getElem_cons_zero, List.setIfInBounds_toArray, List.set_cons_zero, List.set_cons_succ]
    refine wpAnyH_take (i := 1) (v := ?_) rfl (by kernel_rfl) (by kernel_rfl) (by kernel_rfl) (fun _ _ _ h => h) (Or.inl ⟨by kernel_rfl, ?_⟩) (by assumption) ?_
    rotate_left 1
    · intro w hSw; (try dsimp only at hSw); go_simp; try (with_reducible rfl)
    try simp only [Act.put, List.getElem_toArray, List.getElem_cons_succ, List.getElem_cons_zero, List.setIfInBounds_toArray, List.set_cons_zero, List.set_cons_succ]
    refine wpAnyH_take (i := 2) (v := ?_) rfl (by kernel_rfl) (by kernel_rfl) (by kernel_rfl) (fun _ _ _ h => h) (Or.inl ⟨by kernel_rfl, ?_⟩) (by assumption) ?_
    rotate_left 1
    · intro w hSw; (try dsimp only at hSw); go_simp; try (with_reducible rfl)
    try simp only [Act.put, List.getElem_toArray, List.getElem_cons_succ, List.getElem_cons_zero, List.setIfInBounds_toArray, List.set_cons_zero, List.set_cons_succ]
    refine wpAnyH_take (i := 5) (v := ?_) rfl (by kernel_rfl) (by kernel_rfl) (by kernel_rfl) (fun _ _ _ h => h) (Or.inl ⟨by kernel_rfl, ?_⟩) (by assumption) ?_
    rotate_left 1
    · intro w hSw; (try dsimp only at hSw); go_simp; try (with_reducible rfl)
    try simp only [Act.put, List.getElem_toArray, List.getElem_cons_succ, List.getElem_cons_zero, List.setIfInBounds_toArray, List.set_cons_zero, List.set_cons_succ]
    refine wpAnyH_take (i := 6) (v := ?_) rfl (by kernel_rfl) (by kernel_rfl) (by kernel_rfl) (fun _ _ _ h => h) (Or.inl ⟨by kernel_rfl, ?_⟩) (by assumption) ?_
    rotate_left 1
    · intro w hSw; (try dsimp only at hSw); go_simp; try (with_reducible rfl)
    try simp only [Act.put, List.getElem_toArray, List.getElem_cons_succ, List.getElem_cons_zero, List.setIfInBounds_toArray, List.set_cons_zero, List.set_cons_succ]
    refine wpAnyH_ready (rs := [3]) (by kernel_rfl) (by simp) ?_
    refine AllReadyH.cons rfl (fun K hK => ?_) AllReadyH.nil
    go_simp
    refine (HCS.out _ (F2.out.below hHeld.2)).mono ?_
    rintro d wA ⟨ra', rc', rfl, hoA, hbA⟩
    have hS := kp_step hHeld hbA
    have hfd := fldC0 c cx.k cx.e cx.f cx.s cx.n (.slice ra' ys.length rc')
    clear hoA
    refine hK.out _ _ hS (fun hHeld => ?_)
    clear hK K
    try simp only [Act.put, List.getElem_toArray, List.getElem_cons_succ, List.getElem_cons_zero, List.setIfInBounds_toArray, List.set_cons_zero, List.set_cons_succ]
    refine wpAnyH_take (i := 4) (v := ?_) rfl (by kernel_rfl) (by kernel_rfl) (by kernel_rfl) (fun _ _ _ h => h) (Or.inl ⟨by kernel_rfl, ?_⟩) (by assumption) ?_
    rotate_left 1
    · intro w hSw; (try dsimp only at hSw); go_simp; try (with_reducible rfl)
    try simp only [Act.put, List.getElem_toArray, List.getElem_cons_succ, List.getElem_cons_zero, List.setIfInBounds_toArray, List.set_cons_zero, List.set_cons_succ]
    refine wpAnyH_take (i := 7) (v := ?_) rfl (by kernel_rfl) (by kernel_rfl) (by kernel_rfl) (fun _ _ _ h => h) (Or.inl ⟨by kernel_rfl, ?_⟩) (by assumption) ?_
    rotate_left 1
    · intro w hSw; (try dsimp only at hSw); go_simp; try (with_reducible rfl)
    try simp only [Act.put, List.getElem_toArray, List.getElem_cons_succ, List.getElem_cons_zero, List.setIfInBounds_toArray, List.set_cons_zero, List.set_cons_succ]
    refine wpAnyH_take (i := 8) (v := ?_) rfl (by kernel_rfl) (by kernel_rfl) (by kernel_rfl) (fun _ _ _ h => h) (Or.inl ⟨by kernel_rfl, ?_⟩) (by assumption) ?_
    rotate_left 1
    · intro w hSw; (try dsimp only at hSw); go_simp; try (with_reducible rfl)
    try simp only [Act.put, List.getElem_toArray, List.getElem_cons_succ, List.getElem_cons_zero, List.setIfInBounds_toArray, List.set_cons_zero, List.set_cons_succ]
    refine wpAnyH_take (i := 9) (v := ?_) rfl (by kernel_rfl) (by kernel_rfl) (by kernel_rfl) (fun _ _ _ h => h) (Or.inl ⟨by kernel_rfl, ?_⟩) (by assumption) ?_
    rotate_left 1
    · intro w hSw; (try dsimp only at hSw); go_simp; try (with_reducible rfl)
    try simp only [Act.put, List.getElem_toArray, List.getElem_cons_succ, List.getElem_cons_zero, List.setIfInBounds_toArray, List.set_cons_zero, List.set_cons_succ]
    refine wpAnyH_take (i := 10) (v := ?_) rfl (by kernel_rfl) (by kernel_rfl) (by kernel_rfl) (fun _ _ _ h => h) (Or.inl ⟨by kernel_rfl, ?_⟩) (by assumption) ?_
    rotate_left 1
    · intro w hSw; (try dsimp only at hSw); go_simp; try (with_reducible rfl)
    try simp only [Act.put, List.getElem_toArray, List.getElem_cons_succ, List.getElem_cons_zero, List.setIfInBounds_toArray, List.set_cons_zero, List.set_cons_succ]
    refine wpAnyH_take (i := 11) (v := ?_) rfl (by kernel_rfl) (by kernel_rfl) (by kernel_rfl) (fun _ _ _ h => h) (Or.inl ⟨by kernel_rfl, ?_⟩) (by assumption) ?_
    rotate_left 1
    · intro w hSw; (try dsimp only at hSw); go_simp; try (with_reducible rfl)
    try simp only [Act.put, List.getElem_toArray, List.getElem_cons_succ, List.getElem_cons_zero, List.setIfInBounds_toArray, List.set_cons_zero, List.set_cons_succ]
    refine wpAnyH_ready (rs := [12]) (by kernel_rfl) (by simp) ?_
    refine AllReadyH.cons rfl (fun K hK => ?_) AllReadyH.nil
    go_simp
    refine (HIS.out _ (F2.out.below hHeld.2)).mono ?_
    rintro d wB ⟨rfl, hbB⟩
    have hS := kp_step hHeld hbB
    refine hK.out _ _ hS (fun hHeld => ?_)
    clear hK K
    try simp only [Act.put, List.getElem_toArray, List.getElem_cons_succ, List.getElem_cons_zero, List.setIfInBounds_toArray, List.set_cons_zero, List.set_cons_succ]
    refine wpAnyH_take (i := 13) (v := ?_) rfl (by kernel_rfl) (by kernel_rfl) (by kernel_rfl) (fun _ _ _ h => h) (Or.inl ⟨by kernel_rfl, ?_⟩) (by assumption) ?_
    rotate_left 1
    · intro w hSw; (try dsimp only at hSw); go_simp; try (with_reducible rfl)
    try simp only [Act.put, List.getElem_toArray, List.getElem_cons_succ, List.getElem_cons_zero, List.setIfInBounds_toArray, List.set_cons_zero, List.set_cons_succ]
    refine wpAnyH_take (i := 14) (v := ?_) rfl (by kernel_rfl) (by kernel_rfl) (by kernel_rfl) (fun _ _ _ h => h) (Or.inl ⟨by kernel_rfl, ?_⟩) (by assumption) ?_
    rotate_left 1
    · intro w hSw; (try dsimp only at hSw); go_simp; try (with_reducible rfl)
    try simp only [Act.put, List.getElem_toArray, List.getElem_cons_succ, List.getElem_cons_zero, List.setIfInBounds_toArray, List.set_cons_zero, List.set_cons_succ]
    refine wpAnyH_ready (rs := [15]) (by kernel_rfl) (by simp) ?_
    refine AllReadyH.cons rfl (fun K hK => ?_) AllReadyH.nil
    go_simp
    refine hK.out _ _ (by assumption) (fun hHeld => ?_)
    clear hK K
    try simp only [Act.put, List.getElem_toArray, List.getElem_cons_succ, List.getElem_cons_zero, List.setIfInBounds_toArray, List.set_cons_zero, List.set_cons_succ]
    refine wpAnyH_done (by kernel_rfl) ?_ _
    go_wp2
    go_ret
    exact ⟨by simp, F2.out.bl.trans (hHeld.2.mono F2.out.bl.size)⟩

end Go.Proofs.Ytdfhebmecbcegaa
