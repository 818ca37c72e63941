/-
  THE LAW laws.FnCerts, from the code of bytes on.
  Conditions: each contract bears its own.
  CONTRACTS: CommonOf of the document's program.
  Conditions: each contract bears its own.
  THE LAW laws.FnMeets, from the code of bytes on.
  Conditions: each contract bears its own.
-/
import Derived.Test.YtdfhebmecbcegaaPm02
import Derived.Test.YtdfhebmecbcegaaPm01
import Derived.Deep.RegionLaw
import Derived.Deep.RegionHeld3
namespace Go.Proofs.Ytdfhebmecbcegaa
open Go.RowKit
set_option linter.unusedVariables false
set_option linter.unusedSimpArgs false

/-- Shares and a statement that were drawn. -/
structure FK (w : World) (va : Option Addr) (zs : List ShI) (q : Nat) (x : StI) (W : World) : Prop where
  bl : Below w.heap.size w W
  sh : ShIn W va zs.length zs
  bx : BoxV q [.int .i64 x.k, .int .i64 x.e, .int .i64 x.f, .int .i64 x.s, .int .i64 x.n] W
  lt : q < W.heap.size

theorem FK.below {w : World} {va : Option Addr} {zs : List ShI} {q : Nat} {x : StI} {W W' : World} (h : FK w va zs q x W) (hb : Below W.heap.size W W') : FK w va zs q x W' :=
  ⟨h.bl.trans (hb.mono h.bl.size), h.sh.below hb, ((BoxV.hold h.bx h.lt).below hb).out, Nat.lt_of_lt_of_le h.lt hb.size⟩

theorem sameSt_refl9 (x : StI) : sameSt x x = true := by simp [sameSt]

theorem ints_tail {W : World} {g : Nat} {ys : List Int} (h : IntIn W (some ⟨g, 0, none⟩) ys.length ys) : IntIn W (some ⟨g, 1, none⟩) (ys.length - 1) (ys.drop 1) := by
  refine ⟨by simp, fun hn => ⟨g, 1, rfl, fun k y hy => ?_⟩⟩
  obtain ⟨b, off, e, hc⟩ := h.2 (by omega)
  simp at e
  obtain ⟨rfl, rfl⟩ := e
  have := hc (1 + k) y (by rw [List.getElem?_drop] at hy; exact hy)
  simpa using this

attribute [local go_sem] fldC0
attribute [local go_sem ↓] st_eql

/-- Numbers of one's own and the box that leads to them. -/
structure RB (R : Nat) (vs : List Value) (ra : Option Addr) (rc : Nat) (ys : List Int) (W : World) : Prop where
  bx : BoxV R vs W
  lt : R < W.heap.size
  ow : OwnI W 0 (.slice ra ys.length rc) ys

theorem RB.below {R : Nat} {vs : List Value} {ra : Option Addr} {rc : Nat} {ys : List Int} {W W' : World} (h : RB R vs ra rc ys W) (hb : Below W.heap.size W W') : RB R vs ra rc ys W' :=
  ⟨((BoxV.hold h.bx h.lt).below hb).out, Nat.lt_of_lt_of_le h.lt hb.size, ownI_below h.ow hb⟩

theorem RB.ints {R : Nat} {vs : List Value} {ra : Option Addr} {rc : Nat} {ys : List Int} {W : World} (h : RB R vs ra rc ys W) : IntIn W ra ys.length ys := by
  refine ⟨rfl, fun hn => ?_⟩
  have h0 : W.ownsRow 0 2 1 (.slice ra ys.length rc) ys.length (ys.map (Value.int .i64)) := h.ow
  rcases h0.2 with ⟨e, hn'⟩ | ⟨g, cap, cur, e, hg, hb, rest⟩
  · omega
  · simp at e
    obtain ⟨rfl, rfl⟩ := e
    refine ⟨g, 0, rfl, fun k y hy => ?_⟩
    have := ownI_cells h.ow rfl k y hy
    rwa [Nat.zero_add]

theorem RB.form {R : Nat} {vs : List Value} {ra : Option Addr} {rc : Nat} {ys : List Int} {W : World} (h : RB R vs ra rc ys W) (hn : 0 < ys.length) : ∃ g, ra = some ⟨g, 0, none⟩ ∧ ys.length ≤ rc := by
  have h0 : W.ownsRow 0 2 1 (.slice ra ys.length rc) ys.length (ys.map (Value.int .i64)) := h.ow
  rcases h0.2 with ⟨e, hn'⟩ | ⟨g, cap, cur, e, hg, hb, h1, rest⟩
  · omega
  · simp at e
    exact ⟨g, e.1, by rw [e.2]; exact h1⟩

set_option maxRecDepth 100000 in
set_option maxHeartbeats 1000000 in
theorem certs_inner (a : Option Addr) (len cap : Nat) (bs : List Int) (w : World) (hl : len ≤ 1048576) (hc : CodeIn w a len bs) :
    Calls Try.prog 3 #[.slice a len cap] w fun e w' => e = .returned (.bool true) ∧ Below w.heap.size w w' := by
  have hl' : (len : Int) ≤ 1048576 := by omega
  have HCO : Hid (CodeIn w a len bs) := hc
  clear hc
  go_enter Try.func3, Try.ntmps3
  go_wp2_with (first | (go_at_call 12; go_in) | fail)
  have HD := drawCombine_c a len cap bs _ HCO.out hl
  unfold GivesW9 at HD
  refine HD.mono ?_
  clear HD HCO
  rintro e w1 ⟨va, vc, zs, f, x, rfl, hzl, f0, f3, hok, how, hb1⟩
  have hcaps := ownSh_caps how
  have HOK : Hid (∀ z ∈ zs, i64W z.r) := fun z hz => by have := hok z hz; exact i64W_of (by omega) (by omega)
  have F1 : Hid (FK w va zs w1.heap.size x (w1.alloc (.cells #[.int .i64 x.k, .int .i64 x.e, .int .i64 x.f, .int .i64 x.s, .int .i64 x.n] 26))) :=
    ⟨hb1.alloc hb1.size _, ((ShV.isIn rfl how.view).below ((Below.refl _ _).alloc (Nat.le_refl _) _)), (boxV_new w1 _ _).out, by simp⟩
  clear hok how hb1
  obtain ⟨c, hcE⟩ : ∃ c, cbCode f zs x = c := ⟨_, rfl⟩
  obtain ⟨cx, hxE⟩ : ∃ cx, cbX f zs x = cx := ⟨_, rfl⟩
  obtain ⟨ys, hyE⟩ : ∃ ys, cbL f zs x = ys := ⟨_, rfl⟩
  have HCI : Hid (∀ W, FK w va zs w1.heap.size x W → GivesCB 14 va zs.length vc f x c cx ys W) := fun W h => by
    rw [← hcE, ← hxE, ← hyE]
    exact implCombine_c va zs.length vc zs f x W (by omega) hcaps.1 hcaps.2 h.sh
  have HCS : Hid (∀ W, FK w va zs w1.heap.size x W → GivesCB 15 va zs.length vc f x c cx ys W) := fun W h => by
    rw [← hcE, ← hxE, ← hyE]
    exact specCombine_c va zs.length vc zs f x W (by omega) hcaps.1 hcaps.2 h.sh
  have HIS : Hid (∀ W, FK w va zs w1.heap.size x W → GivesIS 16 va zs.length vc f x (c == 0) W) := fun W h => by
    rw [← hcE]
    exact implSigned_c va zs.length vc zs f x W (by omega) hcaps.1 hcaps.2 h.sh
  have HVC : Hid (∀ W (ga : Option Addr) (gn gc : Nat) (us : List Int), FK w va zs w1.heap.size x W → gn ≤ 1048576 → IntIn W ga gn us → GivesVC 18 va zs.length vc f x ga gn gc (vfCode f zs x us) W) := fun W ga gn gc us h hg hi =>
    implVerifyCert_c va zs.length vc zs f x ga gn gc us W (by omega) hcaps.1 hcaps.2 hg h.sh hi
  have HSO : Hid (∀ W, FK w va zs w1.heap.size x W → GivesSO 17 va zs.length vc x (sgCode zs x) (sgRes zs x) W) := fun W h => implSigners_c va zs.length vc zs x W (by omega) HOK.out h.sh
  have HFA : Hid (c = 0 → 1 ≤ f ∧ f ≤ 2 ∧ zs.length ≤ 120 ∧ cx = x ∧ ys.length = (2 * f + 1).toNat ∧ sgCode zs x = 0 ∧ sgRes zs x = sgL zs x ∧ vfCode f zs x ys = 0 ∧ vfCode f zs x (ys.drop 1) = 7 ∧ (∀ y ∈ ys, y ∈ sgL zs x) ∧ ys.length ≤ (sgL zs x).length) := fun e => by
    rw [← hcE] at e
    rw [← hxE, ← hyE]
    exact cb_facts e
  clear hcE hxE hyE HOK
  unfold GivesCB at HCI HCS
  unfold GivesIS at HIS
  unfold GivesVC at HVC
  unfold GivesSO at HSO
  go_wp2_with fail
  generalize hW1 : w1.alloc (.cells #[.int .i64 x.k, .int .i64 x.e, .int .i64 x.f, .int .i64 x.s, .int .i64 x.n] 26) = W1 at F1 ⊢
  clear hW1
  generalize w1.heap.size = q at F1 HCI HCS HIS HVC HSO ⊢
  refine (HCI.out _ F1.out).mono ?_
  rintro e w2 ⟨ra, rc, rfl, how2, hb2⟩
  obtain ⟨W, hW⟩ : ∃ W, W = w2.alloc (.cells #[.int .i64 c, .int .i64 cx.k, .int .i64 cx.e, .int .i64 cx.f, .int .i64 cx.s, .int .i64 cx.n, .slice ra ys.length rc] 33) := ⟨_, rfl⟩
  have A2 : Below w2.heap.size w2 W := by rw [hW]; exact (Below.refl _ _).alloc (Nat.le_refl _) _
  have F2 : Hid (FK w va zs q x W) := (F1.out.below hb2).below A2
  have R2 : Hid (RB w2.heap.size [.int .i64 c, .int .i64 cx.k, .int .i64 cx.e, .int .i64 cx.f, .int .i64 cx.s, .int .i64 cx.n, .slice ra ys.length rc] ra rc ys W) := by
    rw [hW]
    exact ⟨(boxV_new w2 _ _).out, by simp, ownI_below (owns_lowI how2 (Nat.zero_le _)) ((Below.refl _ _).alloc (Nat.le_refl _) _)⟩
  clear how2 hb2 A2 F1 HCI
  by_cases hc0 : c = 0
  · subst hc0
    obtain ⟨hf1, hf2, hzn, rfl, hyl, hsc, hsr, hv0, hv7, hmem, hle⟩ := HFA.out rfl
    rw [hsc, hsr] at HSO
    obtain ⟨ts, hts⟩ : ∃ ts, sgL zs cx = ts := ⟨_, rfl⟩
    rw [hts] at HSO hmem hle
    have HME : Hid (∀ y ∈ ys, y ∈ ts) := hmem
    have HV0 : Hid (vfCode f zs cx ys = 0) := hv0
    have HV7 : Hid (vfCode f zs cx (ys.drop 1) = 7) := hv7
    have HYL : Hid (ys.length = (2 * f + 1).toNat) := hyl
    have hyi : (ys.length : Int) = 2 * f + 1 := by omega
    have HYI : Hid ((ys.length : Int) = 2 * f + 1) := hyi
    have hy1 : 3 ≤ ys.length := by omega
    have hy2 : ys.length ≤ 5 := by omega
    have htl : ts.length ≤ 1048576 := by have := sgL_len zs cx; rw [hts] at this; omega
    clear hsc hsr hts hmem hv0 hv7 hyl hyi HFA HCS
    obtain ⟨g, rfl, hrc⟩ := R2.out.form (by omega)
    go_upto_region 7 with fail
    rw [← hW]
    clear hW
    generalize w2.heap.size = R at R2 ⊢
    have x0 := F2.out.bx 0 _ rfl
    have x1 := F2.out.bx 1 _ rfl
    have x2 := F2.out.bx 2 _ rfl
    have x3 := F2.out.bx 3 _ rfl
    have x4 := F2.out.bx 4 _ rfl
    have hql := F2.out.lt
    go_wp2_with fail
    refine (HSO.out _ F2.out).mono ?_
    rintro e w3 ⟨sa, sc, rfl, how3, hb3⟩
    clear x0 x1 x2 x3 x4 hql
    obtain ⟨V, hV⟩ : ∃ V, V = w3.alloc (.cells #[.int .i64 0, .slice sa ts.length sc] 37) := ⟨_, rfl⟩
    have A3 : Below w3.heap.size w3 V := by rw [hV]; exact (Below.refl _ _).alloc (Nat.le_refl _) _
    have F3 : Hid (FK w va zs q cx V) := (F2.out.below hb3).below A3
    have R3 : Hid (RB R [.int .i64 0, .int .i64 cx.k, .int .i64 cx.e, .int .i64 cx.f, .int .i64 cx.s, .int .i64 cx.n, .slice (some ⟨g, 0, none⟩) ys.length rc] (some ⟨g, 0, none⟩) rc ys V) := (R2.out.below hb3).below A3
    have S3 : Hid (RB w3.heap.size [.int .i64 0, .slice sa ts.length sc] sa sc ts V) := by
      rw [hV]
      exact ⟨(boxV_new w3 _ _).out, by simp, ownI_below (owns_lowI how3 (Nat.zero_le _)) ((Below.refl _ _).alloc (Nat.le_refl _) _)⟩
    clear how3 hb3 A3 F2 R2 HSO
    go_upto_region 8 with fail
    rw [← hV]
    clear hV
    generalize w3.heap.size = T at S3 ⊢
    have x0 := F3.out.bx 0 _ rfl
    have x1 := F3.out.bx 1 _ rfl
    have x2 := F3.out.bx 2 _ rfl
    have x3 := F3.out.bx 3 _ rfl
    have x4 := F3.out.bx 4 _ rfl
    have r6 := R3.out.bx 6 _ rfl
    have hql := F3.out.lt
    have hRl := R3.out.lt
    have hrc' : (ys.length : Int) ≤ (rc : Int) := by omega
    have hy1' : (1 : Int) ≤ (ys.length : Int) := by omega
    have hrn : ¬ rc = 1 := by omega
    go_region
    obtain ⟨Z, hZ⟩ : ∃ Z, Z = (V.alloc (.cells #[.int .i64 cx.k, .int .i64 cx.e, .int .i64 cx.f, .int .i64 cx.s, .int .i64 cx.n, .slice (some ⟨g, 1, none⟩) (ys.length - 1) (rc - 1)] 31)).drew := ⟨_, rfl⟩
    have A4 : Below V.heap.size V Z := by rw [hZ]; exact ((Below.refl _ _).alloc (Nat.le_refl _) _).drew
    have F4 : Hid (FK w va zs q cx Z) := F3.out.below A4
    have R4 : Hid (RB R [.int .i64 0, .int .i64 cx.k, .int .i64 cx.e, .int .i64 cx.f, .int .i64 cx.s, .int .i64 cx.n, .slice (some ⟨g, 0, none⟩) ys.length rc] (some ⟨g, 0, none⟩) rc ys Z) := R3.out.below A4
    have S4 : Hid (RB T [.int .i64 0, .slice sa ts.length sc] sa sc ts Z) := S3.out.below A4
    have L4 : Hid (BoxV V.heap.size [.int .i64 cx.k, .int .i64 cx.e, .int .i64 cx.f, .int .i64 cx.s, .int .i64 cx.n, .slice (some ⟨g, 1, none⟩) (ys.length - 1) (rc - 1)] Z ∧ V.heap.size < Z.heap.size) := by
      rw [hZ]
      exact ⟨(boxV_new V _ _).out, by simp⟩
    rw [← hZ]
    clear hZ A4 F3 R3 S3 x0 x1 x2 x3 x4 r6 hql hRl
    generalize V.heap.size = U at L4 ⊢
    have hm1 : IntKind.i64.wrap (2 * f) = 2 * f := wrap9 (by omega) (by omega)
    have hm2 : IntKind.i64.wrap (2 * f + 1) = 2 * f + 1 := wrap9 (by omega) (by omega)
    have hyn : ((ys.length : Int) != 2 * f + 1) = false := by simp [HYI.out]
    have r1 := R4.out.bx 1 _ rfl
    have r2 := R4.out.bx 2 _ rfl
    have r3 := R4.out.bx 3 _ rfl
    have r4 := R4.out.bx 4 _ rfl
    have r5 := R4.out.bx 5 _ rfl
    have r6 := R4.out.bx 6 _ rfl
    have hRl := R4.out.lt
    go_wp2_with fail
    have hv := HVC.out _ _ _ rc ys F4.out (by omega) R4.out.ints
    rw [HV0.out] at hv
    refine hv.mono ?_
    clear hv r1 r2 r3 r4 r5 r6 hRl
    rintro e w5 ⟨rfl, hb5⟩
    have F5 := hid (F4.out.below hb5)
    have R5 := hid (R4.out.below hb5)
    have S5 := hid (S4.out.below hb5)
    have L5 := hid (((BoxV.hold L4.out.1 L4.out.2).below hb5).out)
    have hUl := Nat.lt_of_lt_of_le L4.out.2 hb5.size
    clear F4 R4 S4 L4 hb5
    have l0 := L5.out 0 _ rfl
    have l1 := L5.out 1 _ rfl
    have l2 := L5.out 2 _ rfl
    have l3 := L5.out 3 _ rfl
    have l4 := L5.out 4 _ rfl
    have l5 := L5.out 5 _ rfl
    go_wp2_with fail
    have hv := HVC.out _ _ _ (rc - 1) (ys.drop 1) F5.out (by omega) (ints_tail R5.out.ints)
    rw [HV7.out] at hv
    refine hv.mono ?_
    clear hv l0 l1 l2 l3 l4 l5 hUl L5 HVC
    rintro e w6 ⟨rfl, hb6⟩
    have F6 := hid (F5.out.below hb6)
    have R6 := hid (R5.out.below hb6)
    have S6 := hid (S5.out.below hb6)
    clear F5 R5 S5 hb6
    have x0 := F6.out.bx 0 _ rfl
    have x1 := F6.out.bx 1 _ rfl
    have x2 := F6.out.bx 2 _ rfl
    have x3 := F6.out.bx 3 _ rfl
    have x4 := F6.out.bx 4 _ rfl
    have hql := F6.out.lt
    go_wp2_with fail
    refine (HIS.out _ F6.out).mono ?_
    rintro e w7 ⟨rfl, hb7⟩
    have F7 := hid (F6.out.below hb7)
    have R7 := hid (R6.out.below hb7)
    have S7 := hid (S6.out.below hb7)
    clear F6 R6 S6 hb7 x0 x1 x2 x3 x4 hql HIS
    have h00 : ((0 : Int) == 0) = true := rfl
    rw [h00]
    go_wp2_with fail
    go_loopw [9] (fun i wr => ∃ k : Nat, i = .int .i64 (k : Int) ∧ k ≤ ys.length ∧ Hid (FK w va zs q cx wr) ∧ Hid (RB R [.int .i64 0, .int .i64 cx.k, .int .i64 cx.e, .int .i64 cx.f, .int .i64 cx.s, .int .i64 cx.n, .slice (some ⟨g, 0, none⟩) ys.length rc] (some ⟨g, 0, none⟩) rc ys wr) ∧ Hid (RB T [.int .i64 0, .slice sa ts.length sc] sa sc ts wr)) (fun i _ => 100 - (intOf i).toNat)
    case atStart => exact ⟨0, rfl, Nat.zero_le _, F7, R7, S7⟩
    case round =>
      clear F7 R7 S7
      obtain ⟨k, rfl, hk, F8, R8, S8⟩ := hrel
      have r0 := R8.out.bx 0 _ rfl
      have r1 := R8.out.bx 1 _ rfl
      have r2 := R8.out.bx 2 _ rfl
      have r3 := R8.out.bx 3 _ rfl
      have r4 := R8.out.bx 4 _ rfl
      have r5 := R8.out.bx 5 _ rfl
      have r6 := R8.out.bx 6 _ rfl
      have hRl := R8.out.lt
      have s0 := S8.out.bx 0 _ rfl
      have s1 := S8.out.bx 1 _ rfl
      have hTl := S8.out.lt
      by_cases hlt : k < ys.length
      · have hlt' : (k : Int) < (ys.length : Int) := by omega
        obtain ⟨y, hy⟩ : ∃ y, ys[k]? = some y := ⟨_, List.getElem?_eq_getElem hlt⟩
        have hyc := ownI_cells R8.out.ow rfl k y hy
        have hgl := World.block_lt_of_cell? _ _ hyc
        have HYM : Hid (decide (y ∈ ts) = true) := by show _ = _; exact decide_eq_true (HME.out y (List.mem_of_getElem? hy))
        clear hy
        go_upto_region 14 with fail
        refine wp_region_held_drew (S := fun w' => (∀ b o, b < wr.heap.size → w'.cell? ⟨b, o, none⟩ = wr.cell? ⟨b, o, none⟩) ∧ Below wr.heap.size wr w') (by kernel_rfl) (kp_drew _) (fun hHeld => ?_)
        refine wpAnyH_take (i := 0) (v := ?_) rfl (by kernel_rfl) (by kernel_rfl) (by kernel_rfl) (fun _ _ _ h => h) (Or.inl ⟨by kernel_rfl, ?_⟩) (by assumption) ?_
        rotate_left 1
        · intro w hSw; (try dsimp only at hSw); go_simp; try (with_reducible rfl)
        try simp only [Act.put, List.getElem_toArray, List.getElem_cons_succ, List.getElem_cons_zero, List.setIfInBounds_toArray, List.set_cons_zero, List.set_cons_succ]
        refine wpAnyH_take (i := 1) (v := ?_) rfl (by kernel_rfl) (by kernel_rfl) (by kernel_rfl) (fun _ _ _ h => h) (Or.inl ⟨by kernel_rfl, ?_⟩) (by assumption) ?_
        rotate_left 1
        · intro w hSw; (try dsimp only at hSw); go_simp; try (with_reducible rfl)
        try simp only [Act.put, List.getElem_toArray, List.getElem_cons_succ, List.getElem_cons_zero, List.setIfInBounds_toArray, List.set_cons_zero, List.set_cons_succ]
        refine wpAnyH_take (i := 2) (v := ?_) rfl (by kernel_rfl) (by kernel_rfl) (by kernel_rfl) (fun _ _ _ h => h) (Or.inl ⟨by kernel_rfl, ?_⟩) (by assumption) ?_
        rotate_left 1
        · intro w hSw; (try dsimp only at hSw); go_simp; try (with_reducible rfl)
        try simp only [Act.put, List.getElem_toArray, List.getElem_cons_succ, List.getElem_cons_zero, List.setIfInBounds_toArray, List.set_cons_zero, List.set_cons_succ]
        refine wpAnyH_take (i := 3) (v := ?_) rfl (by kernel_rfl) (by kernel_rfl) (by kernel_rfl) (fun _ _ _ h => h) (Or.inl ⟨by kernel_rfl, ?_⟩) (by assumption) ?_
        rotate_left 1
        · intro w hSw; (try dsimp only at hSw); go_simp; try (with_reducible rfl)
        try simp only [Act.put, List.getElem_toArray, List.getElem_cons_succ, List.getElem_cons_zero, List.setIfInBounds_toArray, List.set_cons_zero, List.set_cons_succ]
        refine wpAnyH_take (i := 4) (v := ?_) rfl (by kernel_rfl) (by kernel_rfl) (by kernel_rfl) (fun _ _ _ h => h) (Or.inl ⟨by kernel_rfl, ?_⟩) (by assumption) ?_
        rotate_left 1
        · intro w hSw; (try dsimp only at hSw); go_simp; try (with_reducible rfl)
        try simp only [Act.put, List.getElem_toArray, List.getElem_cons_succ, List.getElem_cons_zero, List.setIfInBounds_toArray, List.set_cons_zero, List.set_cons_succ]
        refine wpAnyH_take (i := 5) (v := ?_) rfl (by kernel_rfl) (by kernel_rfl) (by kernel_rfl) (fun _ _ _ h => h) (Or.inl ⟨by kernel_rfl, ?_⟩) (by assumption) ?_
        rotate_left 1
        · intro w hSw; (try dsimp only at hSw); go_simp; try (with_reducible rfl)
        try simp only [Act.put, List.getElem_toArray, List.getElem_cons_succ, List.getElem_cons_zero, List.setIfInBounds_toArray, List.set_cons_zero, List.set_cons_succ]
        refine wpAnyH_take (i := 6) (v := ?_) rfl (by kernel_rfl) (by kernel_rfl) (by kernel_rfl) (fun _ _ _ h => h) (Or.inl ⟨by kernel_rfl, ?_⟩) (by assumption) ?_
        rotate_left 1
        · intro w hSw; (try dsimp only at hSw); go_simp; try (with_reducible rfl)
        try simp only [Act.put, List.getElem_toArray, List.getElem_cons_succ, List.getElem_cons_zero, List.setIfInBounds_toArray, List.set_cons_zero, List.set_cons_succ]
        refine wpAnyH_take (i := 7) (v := ?_) rfl (by kernel_rfl) (by kernel_rfl) (by kernel_rfl) (fun _ _ _ h => h) (Or.inl ⟨by kernel_rfl, ?_⟩) (by assumption) ?_
        rotate_left 1
        · intro w hSw; (try dsimp only at hSw); go_simp; try (with_reducible rfl)
        try simp only [Act.put, List.getElem_toArray, List.getElem_cons_succ, List.getElem_cons_zero, List.setIfInBounds_toArray, List.set_cons_zero, List.set_cons_succ]
        refine wpAnyH_ready (rs := [8]) (by kernel_rfl) (by simp) ?_
        refine AllReadyH.cons rfl (fun K hK => ?_) AllReadyH.nil
        go_simp
        refine (lwHas9_c sa ts.length sc ts y _ htl (S8.out.below hHeld.2).ints).mono ?_
        rintro d wA ⟨rfl, rfl⟩
        rw [HYM.out]
        have hS := hHeld
        refine hK.out _ _ hS (fun hHeld => ?_)
        clear hK K
        try simp only [Act.put, List.getElem_toArray, List.getElem_cons_succ, List.getElem_cons_zero, List.setIfInBounds_toArray, List.set_cons_zero, List.set_cons_succ]
        refine wpAnyH_take (i := 9) (v := ?_) rfl (by kernel_rfl) (by kernel_rfl) (by kernel_rfl) (fun _ _ _ h => h) (Or.inl ⟨by kernel_rfl, ?_⟩) (by assumption) ?_
        rotate_left 1
        · intro w hSw; (try dsimp only at hSw); go_simp; try (with_reducible rfl)
        try simp only [Act.put, List.getElem_toArray, List.getElem_cons_succ, List.getElem_cons_zero, List.setIfInBounds_toArray, List.set_cons_zero, List.set_cons_succ]
        refine wpAnyH_done (by kernel_rfl) ?_ _
        go_wp2
        exact ⟨⟨k + 1, by go_num, by omega, hid (F8.out.below hHeld.2), hid (R8.out.below hHeld.2), hid (S8.out.below hHeld.2)⟩, by simp [intOf]; omega⟩
      · have hkn : k = ys.length := by omega
        subst hkn
        have x0 := F8.out.bx 0 _ rfl
        have x1 := F8.out.bx 1 _ rfl
        have x2 := F8.out.bx 2 _ rfl
        have x3 := F8.out.bx 3 _ rfl
        have x4 := F8.out.bx 4 _ rfl
        have hql := F8.out.lt
        have hss : sameSt cx cx = true := sameSt_refl9 cx
        have hle' : (ys.length : Int) ≤ (ts.length : Int) := by omega
        go_wp2
        go_ret
        exact ⟨by simp, F8.out.bl⟩
  · have cb : (c != 0) = true := by simp [hc0]
    have cb2 : (c == 0) = false := by simp [hc0]
    go_upto_region 6 with fail
    rw [← hW]
    clear hW
    generalize w2.heap.size = R at R2 ⊢
    have x0 := F2.out.bx 0 _ rfl
    have x1 := F2.out.bx 1 _ rfl
    have x2 := F2.out.bx 2 _ rfl
    have x3 := F2.out.bx 3 _ rfl
    have x4 := F2.out.bx 4 _ rfl
    have r0 := R2.out.bx 0 _ rfl
    have hql := F2.out.lt
    have hRl := R2.out.lt
    refine wp_region_held_drew (S := fun w' => (∀ b o, b < W.heap.size → w'.cell? ⟨b, o, none⟩ = W.cell? ⟨b, o, none⟩) ∧ Below W.heap.size W w') (by kernel_rfl) (kp_drew _) (fun hHeld => ?_)
    refine wpAnyH_take (i := 0) (v := ?_) rfl (by kernel_rfl) (by kernel_rfl) (by kernel_rfl) (fun _ _ _ h => h) (Or.inl ⟨by kernel_rfl, ?_⟩) (by assumption) ?_
    rotate_left 1
    · intro w hSw; (try dsimp only at hSw); go_simp; try (with_reducible rfl)
    try simp only [Act.put, List.getElem_toArray, List.getElem_cons_succ, List.getElem_cons_zero, List.setIfInBounds_toArray, List.set_cons_zero, List.set_cons_succ]
    refine wpAnyH_take (i := 1) (v := ?_) rfl (by kernel_rfl) (by kernel_rfl) (by kernel_rfl) (fun _ _ _ h => h) (Or.inl ⟨by kernel_rfl, ?_⟩) (by assumption) ?_
    rotate_left 1
    · intro w hSw; (try dsimp only at hSw); go_simp; try (with_reducible rfl)
    try simp only [Act.put, List.getElem_toArray, List.getElem_cons_succ, List.getElem_cons_zero, List.setIfInBounds_toArray, List.set_cons_zero, List.set_cons_succ]
    refine wpAnyH_take (i := 2) (v := ?_) rfl (by kernel_rfl) (by kernel_rfl) (by kernel_rfl) (fun _ _ _ h => h) (Or.inl ⟨by kernel_rfl, ?_⟩) (by assumption) ?_
    rotate_left 1
    · intro w hSw; (try dsimp only at hSw); go_simp; try (with_reducible rfl)
    try simp only [Act.put, List.getElem_toArray, List.getElem_cons_succ, List.getElem_cons_zero, List.setIfInBounds_toArray, List.set_cons_zero, List.set_cons_succ]
    refine wpAnyH_take (i := 5) (v := ?_) rfl (by kernel_rfl) (by kernel_rfl) (by kernel_rfl) (fun _ _ _ h => h) (Or.inl ⟨by kernel_rfl, ?_⟩) (by assumption) ?_
    rotate_left 1
    · intro w hSw; (try dsimp only at hSw); go_simp; try (with_reducible rfl)
    try simp only [Act.put, List.getElem_toArray, List.getElem_cons_succ, List.getElem_cons_zero, List.setIfInBounds_toArray, List.set_cons_zero, List.set_cons_succ]
    refine wpAnyH_take (i := 6) (v := ?_) rfl (by kernel_rfl) (by kernel_rfl) (by kernel_rfl) (fun _ _ _ h => h) (Or.inl ⟨by kernel_rfl, ?_⟩) (by assumption) ?_
    rotate_left 1
    · intro w hSw; (try dsimp only at hSw); go_simp; try (with_reducible rfl)
    try simp only [Act.put, List.getElem_toArray, List.getElem_cons_succ, List.getElem_cons_zero, List.setIfInBounds_toArray, List.set_cons_zero, List.set_cons_succ]
    refine wpAnyH_ready (rs := [3]) (by kernel_rfl) (by simp) ?_
    refine AllReadyH.cons rfl (fun K hK => ?_) AllReadyH.nil
    go_simp
    refine (HCS.out _ (F2.out.below hHeld.2)).mono ?_
    rintro d wA ⟨ra', rc', rfl, hoA, hbA⟩
    have hS := kp_step hHeld hbA
    have hfd := fldC0 c cx.k cx.e cx.f cx.s cx.n (.slice ra' ys.length rc')
    clear hoA
    refine hK.out _ _ hS (fun hHeld => ?_)
    clear hK K
    try simp only [Act.put, List.getElem_toArray, List.getElem_cons_succ, List.getElem_cons_zero, List.setIfInBounds_toArray, List.set_cons_zero, List.set_cons_succ]
    refine wpAnyH_take (i := 4) (v := ?_) rfl (by kernel_rfl) (by kernel_rfl) (by kernel_rfl) (fun _ _ _ h => h) (Or.inl ⟨by kernel_rfl, ?_⟩) (by assumption) ?_
    rotate_left 1
    · intro w hSw; (try dsimp only at hSw); go_simp; try (with_reducible rfl)
    try simp only [Act.put, List.getElem_toArray, List.getElem_cons_succ, List.getElem_cons_zero, List.setIfInBounds_toArray, List.set_cons_zero, List.set_cons_succ]
    refine wpAnyH_take (i := 7) (v := ?_) rfl (by kernel_rfl) (by kernel_rfl) (by kernel_rfl) (fun _ _ _ h => h) (Or.inl ⟨by kernel_rfl, ?_⟩) (by assumption) ?_
    rotate_left 1
    · intro w hSw; (try dsimp only at hSw); go_simp; try (with_reducible rfl)
    try simp only [Act.put, List.getElem_toArray, List.getElem_cons_succ, List.getElem_cons_zero, List.setIfInBounds_toArray, List.set_cons_zero, List.set_cons_succ]
    refine wpAnyH_take (i := 8) (v := ?_) rfl (by kernel_rfl) (by kernel_rfl) (by kernel_rfl) (fun _ _ _ h => h) (Or.inl ⟨by kernel_rfl, ?_⟩) (by assumption) ?_
    rotate_left 1
    · intro w hSw; (try dsimp only at hSw); go_simp; try (with_reducible rfl)
    try simp only [Act.put, List.getElem_toArray, List.getElem_cons_succ, List.getElem_cons_zero, List.setIfInBounds_toArray, List.set_cons_zero, List.set_cons_succ]
    refine wpAnyH_take (i := 9) (v := ?_) rfl (by kernel_rfl) (by kernel_rfl) (by kernel_rfl) (fun _ _ _ h => h) (Or.inl ⟨by kernel_rfl, ?_⟩) (by assumption) ?_
    rotate_left 1
    · intro w hSw; (try dsimp only at hSw); go_simp; try (with_reducible rfl)
    try simp only [Act.put, List.getElem_toArray, List.getElem_cons_succ, List.getElem_cons_zero, List.setIfInBounds_toArray, List.set_cons_zero, List.set_cons_succ]
    refine wpAnyH_take (i := 10) (v := ?_) rfl (by kernel_rfl) (by kernel_rfl) (by kernel_rfl) (fun _ _ _ h => h) (Or.inl ⟨by kernel_rfl, ?_⟩) (by assumption) ?_
    rotate_left 1
    · intro w hSw; (try dsimp only at hSw); go_simp; try (with_reducible rfl)
    try simp only [Act.put, List.getElem_toArray, List.getElem_cons_succ, List.getElem_cons_zero, List.setIfInBounds_toArray, List.set_cons_zero, List.set_cons_succ]
    refine wpAnyH_take (i := 11) (v := ?_) rfl (by kernel_rfl) (by kernel_rfl) (by kernel_rfl) (fun _ _ _ h => h) (Or.inl ⟨by kernel_rfl, ?_⟩) (by assumption) ?_
    rotate_left 1
    · intro w hSw; (try dsimp only at hSw); go_simp; try (with_reducible rfl)
    try simp only [Act.put, List.getElem_toArray, List.getElem_cons_succ, List.getElem_cons_zero, List.setIfInBounds_toArray, List.set_cons_zero, List.set_cons_succ]
    refine wpAnyH_ready (rs := [12]) (by kernel_rfl) (by simp) ?_
    refine AllReadyH.cons rfl (fun K hK => ?_) AllReadyH.nil
    go_simp
    refine (HIS.out _ (F2.out.below hHeld.2)).mono ?_
    rintro d wB ⟨rfl, hbB⟩
    have hS := kp_step hHeld hbB
    refine hK.out _ _ hS (fun hHeld => ?_)
    clear hK K
    try simp only [Act.put, List.getElem_toArray, List.getElem_cons_succ, List.getElem_cons_zero, List.setIfInBounds_toArray, List.set_cons_zero, List.set_cons_succ]
    refine wpAnyH_take (i := 13) (v := ?_) rfl (by kernel_rfl) (by kernel_rfl) (by kernel_rfl) (fun _ _ _ h => h) (Or.inl ⟨by kernel_rfl, ?_⟩) (by assumption) ?_
    rotate_left 1
    · intro w hSw; (try dsimp only at hSw); go_simp; try (with_reducible rfl)
    try simp only [Act.put, List.getElem_toArray, List.getElem_cons_succ, List.getElem_cons_zero, List.setIfInBounds_toArray, List.set_cons_zero, List.set_cons_succ]
    refine wpAnyH_take (i := 14) (v := ?_) rfl (by kernel_rfl) (by kernel_rfl) (by kernel_rfl) (fun _ _ _ h => h) (Or.inl ⟨by kernel_rfl, ?_⟩) (by assumption) ?_
    rotate_left 1
    · intro w hSw; (try dsimp only at hSw); go_simp; try (with_reducible rfl)
    try simp only [Act.put, List.getElem_toArray, List.getElem_cons_succ, List.getElem_cons_zero, List.setIfInBounds_toArray, List.set_cons_zero, List.set_cons_succ]
    refine wpAnyH_ready (rs := [15]) (by kernel_rfl) (by simp) ?_
    refine AllReadyH.cons rfl (fun K hK => ?_) AllReadyH.nil
    go_simp
    refine hK.out _ _ (by assumption) (fun hHeld => ?_)
    clear hK K
    try simp only [Act.put, List.getElem_toArray, List.getElem_cons_succ, List.getElem_cons_zero, List.setIfInBounds_toArray, List.set_cons_zero, List.set_cons_succ]
    refine wpAnyH_done (by kernel_rfl) ?_ _
    go_wp2
    go_ret
    exact ⟨by simp, F2.out.bl.trans (hHeld.2.mono F2.out.bl.size)⟩

end Go.Proofs.Ytdfhebmecbcegaa

namespace Go.Proofs.Ytdfhebmecbcegaa
open Go.RowKit
set_option linter.unusedVariables false
set_option linter.unusedSimpArgs false

set_option maxRecDepth 20000 in
set_option maxHeartbeats 4000000 in
theorem specCommon_c (x : StI) (ga : Option Addr) (gn gc : Nat) (us : List Int) (y : StI) (ha : Option Addr) (hn hc : Nat) (vs : List Int) (w : World) (hg : gn ≤ 1048576) (hh : hn ≤ 1048576) (h1 : IntIn w ga gn us) (h2 : IntIn w ha hn vs) : GivesCO 26 x ga gn gc y ha hn hc (cmCode gn hn) (cmRes us vs) w := by
  unfold GivesCO
  obtain ⟨V, hV, BV, hV1, hV2, xb, yb, rb⟩ := three_boxes w #[.int .i64 x.k, .int .i64 x.e, .int .i64 x.f, .int .i64 x.s, .int .i64 x.n, .slice ga gn gc] #[.int .i64 y.k, .int .i64 y.e, .int .i64 y.f, .int .i64 y.s, .int .i64 y.n, .slice ha hn hc] #[.int .i64 0, .slice none 0 0] 31 37
  obtain ⟨i0, hi, hz0, hz1, hz2⟩ := info_parts Try.infoI2
  have HZ : Hid (us.length = gn ∧ vs.length = hn) := ⟨h1.1, h2.1⟩
  have I1 : Hid (IntIn V ga gn us) := h1.below BV
  have I2 : Hid (IntIn V ha hn vs) := h2.below BV
  have XB0 : Hid (BoxV w.heap.size [.int .i64 x.k, .int .i64 x.e, .int .i64 x.f, .int .i64 x.s, .int .i64 x.n, .slice ga gn gc] V) := xb
  have YB : Hid (BoxV (w.heap.size + 1) [.int .i64 y.k, .int .i64 y.e, .int .i64 y.f, .int .i64 y.s, .int .i64 y.n, .slice ha hn hc] V) := yb
  have RB : Hid (BoxW (w.heap.size + 1 + 1) [.int .i64 0, .slice none 0 0] V) := rb
  have hg' : (gn : Int) ≤ 1048576 := by omega
  have hh' : (hn : Int) ≤ 1048576 := by omega
  obtain ⟨c, hcc⟩ : ∃ c, cmCode gn hn = c := ⟨_, rfl⟩
  obtain ⟨ys, hys⟩ : ∃ ys, cmRes us vs = ys := ⟨_, rfl⟩
  rw [hcc, hys]
  have HC : Hid (c = if 20 < gn ∨ 20 < hn then 2 else 0) := by show c = _; rw [← hcc]; rfl
  have HY : Hid (ys = if c = 0 then us.filter (fun i => decide (i ∈ vs)) else []) := by show ys = _; rw [← hys, ← hcc]; unfold cmRes; rw [HZ.out.1, HZ.out.2]
  have x5 := xb 5 _ rfl
  have y5 := yb 5 _ rfl
  have r0 := rb.1 0 _ rfl
  have r1 := rb.1 1 _ rfl
  have f0 := rb.2 0
  have f1 := rb.2 1
  have hVl : w.heap.size + 1 + 1 < V.heap.size := by omega
  clear h1 h2 xb yb rb hcc hys
  by_cases hbad : 20 < gn ∨ 20 < hn
  · have HE : Hid (c = 2 ∧ ys = []) := by
      have e : c = 2 := by rw [HC.out, if_pos hbad]
      exact ⟨e, by rw [HY.out, if_neg (by omega)]⟩
    by_cases q1 : 20 < gn
    · have q1' : (20 : Int) < (gn : Int) := by omega
      clear hbad
      go_enter Try.func26, Try.ntmps26
      go_upto_region 1 with fail
      rw [← hV]
      clear hV
      go_wp2
      refine bodyPost_ret (v := .agg #[.int .i64 2, .slice none 0 0]) (by simp [results, Try.results26, go_sem, r0, r1, hVl]) rfl ⟨none, 0, by rw [HE.out.1, HE.out.2]; rfl, by rw [HE.out.2]; exact World.ownsRow_nil _ _ _ _, ?_⟩
      exact (BV.setCell (by show w.heap.size ≤ w.heap.size + 1 + 1; omega) _).setCell (by show w.heap.size ≤ w.heap.size + 1 + 1; omega) _
    · have q1' : ¬ ((20 : Int) < (gn : Int)) := by omega
      have q2' : (20 : Int) < (hn : Int) := by omega
      clear hbad
      go_enter Try.func26, Try.ntmps26
      go_upto_region 1 with fail
      rw [← hV]
      clear hV
      go_wp2
      refine bodyPost_ret (v := .agg #[.int .i64 2, .slice none 0 0]) (by simp [results, Try.results26, go_sem, r0, r1, hVl]) rfl ⟨none, 0, by rw [HE.out.1, HE.out.2]; rfl, by rw [HE.out.2]; exact World.ownsRow_nil _ _ _ _, ?_⟩
      exact (BV.setCell (by show w.heap.size ≤ w.heap.size + 1 + 1; omega) _).setCell (by show w.heap.size ≤ w.heap.size + 1 + 1; omega) _
  · have q1' : ¬ ((20 : Int) < (gn : Int)) := by omega
    have q2' : ¬ ((20 : Int) < (hn : Int)) := by omega
    have HE : Hid (c = 0 ∧ ys = cmTo us vs gn) := by
      have e : c = 0 := by rw [HC.out, if_neg hbad]
      exact ⟨e, by rw [HY.out, if_pos e]; unfold cmTo; rw [List.take_of_length_le (by have := HZ.out.1; omega)]⟩
    have hg20 : gn ≤ 20 := by omega
    clear hbad
    obtain ⟨W, hW⟩ : ∃ W, W = V.alloc (.cells #[.int .i64 0, .slice none 0 0] 37) := ⟨_, rfl⟩
    have BW : Hid (Below V.heap.size V W) := by rw [hW]; exact (Below.refl _ _).alloc (Nat.le_refl _) _
    have OB0 : Hid (BoxW V.heap.size [.int .i64 0, .slice none 0 0] W) := by rw [hW]; exact boxW_new V _ _
    have hWs : V.heap.size < W.heap.size := by rw [hW]; simp
    have HXB : Hid (BoxV w.heap.size [.int .i64 x.k, .int .i64 x.e, .int .i64 x.f, .int .i64 x.s, .int .i64 x.n, .slice ga gn gc] V) := XB0.out
    go_enter Try.func26, Try.ntmps26
    go_upto_region 1 with fail
    rw [← hV]
    clear hV
    go_wp2
    rw [← hW]
    clear hW x5 y5 r0 r1 f0 f1
    go_loopw [6] (fun i wr => ∃ (k : Nat) (v : Value), k ≤ gn ∧ i = .int .i64 (k : Int) ∧ OwnI wr W.heap.size v (cmTo us vs k) ∧ BoxW V.heap.size [.int .i64 0, v] wr ∧ Below V.heap.size V wr ∧ W.heap.size ≤ wr.heap.size) (fun i _ => gn - (intOf i).toNat)
    case atStart => exact ⟨0, _, Nat.zero_le _, rfl, World.ownsRow_nil _ _ _ _, OB0.out, BW.out, Nat.le_refl _⟩
    case round =>
      obtain ⟨k, v, hk, rfl, hown, hbox, hvx, hWr⟩ := hrel
      have HO : Hid (OwnI wr W.heap.size v (cmTo us vs k)) := hown
      have HBX : Hid (BoxW V.heap.size [.int .i64 0, v] wr) := hbox
      have x5 := (hvx.cell (p := ⟨w.heap.size, 5, none⟩) (by show w.heap.size < _; omega)).trans (HXB.out 5 _ rfl)
      by_cases hlt : k < gn
      · obtain ⟨b, off, p, rfl, hp, hpa, hbl⟩ := I1.out.at hlt
        have hlt' : (k : Int) < (gn : Int) := by omega
        have hk0 : (0 : Int) ≤ (k : Int) := by omega
        have c0 := (hvx.cell (p := ⟨b, off + k, none⟩) hbl).trans hpa
        have y5 := (hvx.cell (p := ⟨w.heap.size + 1, 5, none⟩) (by show w.heap.size + 1 < _; omega)).trans (YB.out 5 _ rfl)
        have z0 := hbox.1 0 _ rfl
        have z1 := hbox.1 1 _ rfl
        have g0 := hbox.2 0
        have g1 := hbox.2 1
        have hzr := hvx.size
        have hbw : b < wr.heap.size := by omega
        have hww : w.heap.size < wr.heap.size := by omega
        have hww1 : w.heap.size + 1 < wr.heap.size := by omega
        have hVw : V.heap.size < wr.heap.size := by omega
        obtain ⟨t, ht⟩ : ∃ t, decide (p ∈ vs) = t := ⟨_, rfl⟩
        have HT : Hid (decide (p ∈ vs) = t) := ht
        have HP : Hid (us[k]? = some p) := hp
        have hkl := cmTo_len us vs k
        have HQ : Hid (∀ w2 : World, (∀ b o, b < wr.heap.size → w2.cell? ⟨b, o, none⟩ = wr.cell? ⟨b, o, none⟩) ∧ Below wr.heap.size wr w2 → Calls Try.prog 62 #[.slice ha hn hc, .int .i64 p] w2 fun e w' => e = .returned (.bool t) ∧ w2 = w') := fun w2 hb => by
          have := l9Among_c ha hn hc vs p w2 hh ((I2.out.below hvx).below hb.2)
          rw [ht] at this
          exact this
        clear hp hpa ht hown hbox
        cases t
        · have HN : Hid (cmTo us vs (k + 1) = cmTo us vs k) := cmTo_miss HP.out HT.out
          go_wp2_with fail
          go_region_held3 (fun w' => (∀ b o, b < wr.heap.size → w'.cell? ⟨b, o, none⟩ = wr.cell? ⟨b, o, none⟩) ∧ Below wr.heap.size wr w') (first | exact hS | exact kp_drew _ | assumption)
            (first | (go_at_call 62; refine (HQ.out _ (by assumption)).mono ?_; rintro e w' ⟨rfl, rfl⟩))
          have HEND : Hid (OwnI wr.drew W.heap.size v (cmTo us vs k) ∧ BoxW V.heap.size [.int .i64 0, v] wr.drew ∧ Below V.heap.size V wr.drew) := ⟨ownI_below HO.out (Below.refl _ _).drew, HBX.out.below hVw (Below.refl _ _).drew, hvx.drew⟩
          go_wp2
          exact ⟨⟨k + 1, v, by omega, by go_num, by rw [HN.out]; exact HEND.out.1, HEND.out.2.1, HEND.out.2.2, hWr⟩, by simp [intOf]; omega⟩
        · have HN : Hid (cmTo us vs (k + 1) = cmTo us vs k ++ [p]) := cmTo_hit HP.out HT.out
          obtain ⟨m, hm⟩ : ∃ m, (cmTo us vs k).length = m := ⟨_, rfl⟩
          have HM : Hid ((cmTo us vs k).length = m) := hm
          have hm20 : m ≤ 20 := by omega
          have HO2 : Hid (wr.ownsRow W.heap.size 2 1 v m ((cmTo us vs k).map (Value.int .i64))) := by rw [← hm]; exact HO.out
          clear hm hkl
          go_wp2_with fail
          go_region_held3 (fun w' => (∀ b o, b < wr.heap.size → w'.cell? ⟨b, o, none⟩ = wr.cell? ⟨b, o, none⟩) ∧ Below wr.heap.size wr w') (first | exact hS | exact kp_drew _ | assumption)
            (first | (go_at_call 62; refine (HQ.out _ (by assumption)).mono ?_; rintro e w' ⟨rfl, rfl⟩))
          obtain ⟨U, hU⟩ : ∃ U, U = wr.drew := ⟨_, rfl⟩
          have HOU : Hid (U.ownsRow W.heap.size 2 1 v m ((cmTo us vs k).map (Value.int .i64))) := by rw [hU]; exact owns_drew HO2.out
          have HBU : Hid (BoxW V.heap.size [.int .i64 0, v] U) := by rw [hU]; exact HBX.out.below hVw (Below.refl _ _).drew
          have BVU : Hid (Below V.heap.size V U) := by rw [hU]; exact hvx.drew
          have x5 : U.cell? ⟨w.heap.size, 5, none⟩ = some (.slice (some ⟨b, off, none⟩) gn gc) := by rw [hU]; exact x5
          have c0 : U.cell? ⟨b, off + k, none⟩ = some (.int .i64 p) := by rw [hU]; exact c0
          have z1 := HBU.out.1 1 _ rfl
          have hUW : W.heap.size ≤ U.heap.size := by rw [hU]; exact hWr
          have hVU : V.heap.size < U.heap.size := by omega
          have hbU : b < W.heap.size := by omega
          have hbV : b ≠ V.heap.size := by omega
          have hwW : w.heap.size < W.heap.size := by omega
          have hwV : w.heap.size ≠ V.heap.size := by omega
          go_wp2_with fail
          rw [← hU]
          clear hU
          -- by hand 8
          refine wp_region_held_drew (S := fun w' => ∀ b o, b < W.heap.size → b ≠ V.heap.size → w'.cell? ⟨b, o, none⟩ = U.cell? ⟨b, o, none⟩) (by kernel_rfl) (fun b o _ _ => rfl) (fun hHeld => ?_)
          refine wpAnyH_take (i := 0) (v := ?_) rfl (by kernel_rfl) (by kernel_rfl) (by kernel_rfl) (fun _ _ _ h => h) (Or.inl ⟨by kernel_rfl, ?_⟩) (by assumption) ?_
          rotate_left 1
          · intro w hSw; (try dsimp only at hSw); go_simp; try (with_reducible rfl)
          try simp only [Act.put, List.getElem_toArray, List.getElem_cons_succ, List.getElem_cons_zero, List.setIfInBounds_toArray, List.set_cons_zero, List.set_cons_succ]
          refine wpAnyH_take (i := 2) (v := ?_) rfl (by kernel_rfl) (by kernel_rfl) (by kernel_rfl) (fun _ _ _ h => h) (Or.inl ⟨by kernel_rfl, ?_⟩) (by assumption) ?_
          rotate_left 1
          · intro w hSw; (try dsimp only at hSw); go_simp; try (with_reducible rfl)
          try simp only [Act.put, List.getElem_toArray, List.getElem_cons_succ, List.getElem_cons_zero, List.setIfInBounds_toArray, List.set_cons_zero, List.set_cons_succ]
          refine wpAnyH_take (i := 3) (v := ?_) rfl (by kernel_rfl) (by kernel_rfl) (by kernel_rfl) (fun _ _ _ h => h) (Or.inl ⟨by kernel_rfl, ?_⟩) (by assumption) ?_
          rotate_left 1
          · intro w hSw; (try dsimp only at hSw); go_simp; try (with_reducible rfl)
          try simp only [Act.put, List.getElem_toArray, List.getElem_cons_succ, List.getElem_cons_zero, List.setIfInBounds_toArray, List.set_cons_zero, List.set_cons_succ]
          refine wpAnyH_take (i := 4) (v := ?_) rfl (by kernel_rfl) (by kernel_rfl) (by kernel_rfl) (fun _ _ _ h => h) (Or.inl ⟨by kernel_rfl, ?_⟩) (by assumption) ?_
          rotate_left 1
          · intro w hSw; (try dsimp only at hSw); go_simp; try (with_reducible rfl)
          try simp only [Act.put, List.getElem_toArray, List.getElem_cons_succ, List.getElem_cons_zero, List.setIfInBounds_toArray, List.set_cons_zero, List.set_cons_succ]
          refine wpAnyH_take (i := 5) (v := ?_) rfl (by kernel_rfl) (by kernel_rfl) (by kernel_rfl) (fun _ _ _ h => h) (Or.inl ⟨by kernel_rfl, ?_⟩) (by assumption) ?_
          rotate_left 1
          · intro w hSw; (try dsimp only at hSw); go_simp; try (with_reducible rfl)
          try simp only [Act.put, List.getElem_toArray, List.getElem_cons_succ, List.getElem_cons_zero, List.setIfInBounds_toArray, List.set_cons_zero, List.set_cons_succ]
          refine wpAnyH_take (i := 6) (v := ?_) rfl (by kernel_rfl) (by kernel_rfl) (by kernel_rfl) (fun _ _ _ h => h) (Or.inl ⟨by kernel_rfl, ?_⟩) (by assumption) ?_
          rotate_left 1
          · intro w hSw; (try dsimp only at hSw); go_simp; try (with_reducible rfl)
          try simp only [Act.put, List.getElem_toArray, List.getElem_cons_succ, List.getElem_cons_zero, List.setIfInBounds_toArray, List.set_cons_zero, List.set_cons_succ]
          refine wpAnyH_ready (rs := [1, 7]) (by kernel_rfl) (by simp) ?_
          refine AllReadyH.cons rfl (fun K hK => ?_) (AllReadyH.cons rfl (fun K hK => ?_) AllReadyH.nil)
          · go_simp
            have hS := hHeld
            refine hK.out _ _ hS (fun hHeld => ?_)
            clear hK K
            try simp only [Act.put, List.getElem_toArray, List.getElem_cons_succ, List.getElem_cons_zero, List.setIfInBounds_toArray, List.set_cons_zero, List.set_cons_succ]
            refine wpAnyH_ready (rs := [7]) (by kernel_rfl) (by simp) ?_
            refine AllReadyH.cons rfl (fun K hK => ?_) AllReadyH.nil
            go_simp
            have hS : ∀ b o, b < W.heap.size → b ≠ V.heap.size → ((U.alloc (.cells #[.int .i64 p] 2)).drew).cell? ⟨b, o, none⟩ = U.cell? ⟨b, o, none⟩ := fun b o h1 h2 => (((Below.refl U.heap.size U).alloc (Nat.le_refl _) (.cells #[.int .i64 p] 2)).drew).cell (p := ⟨b, o, none⟩) (by show b < U.heap.size; omega)
            refine hK.out _ _ hS (fun hHeld => ?_)
            clear hK K
            try simp only [Act.put, List.getElem_toArray, List.getElem_cons_succ, List.getElem_cons_zero, List.setIfInBounds_toArray, List.set_cons_zero, List.set_cons_succ]
            refine wpAnyH_ready (rs := [8]) (by kernel_rfl) (by simp) ?_
            refine AllReadyH.cons rfl (fun K hK => ?_) AllReadyH.nil
            have HXB2 : Below U.heap.size U (U.alloc (.cells #[.int .i64 p] 2)).drew := ((Below.refl _ _).alloc (Nat.le_refl _) _).drew
            refine step_appendI rfl (.tmp 35) (.tmp 41) 29 rfl W.heap.size 2 i0 (.int .i64 0) 1 8 Try.underlying29 hi hz0 hz1 hz2 rfl (by decide) v m ((cmTo us vs k).map (Value.int .i64)) (by rfl) (HOU.out.alloc _) ⟨U.heap.size, 0, none⟩ 1 1 [.int .i64 p] (by rfl) (by rfl) (fun q u hq => by match q, hq with | 0, hq => simp at hq; subst hq; simp [Addr.add]) (fun u hu => by simp at hu; subst hu; rfl) (by unfold maxLen; omega) (by omega) (by show W.heap.size ≤ (U.alloc _).heap.size; simp; omega) ?_
            intro v7 w7 hown7 hgrow7 hnil7
            have hz7 := hgrow7.size
            have CH : Chg W.heap.size (w7.heap.size + 1) _ w7 := Chg.grown hgrow7 (fun q e => by have h9 := HOU.out.lt q e; refine ⟨h9.1, ?_⟩; have : U.heap.size ≤ w7.heap.size := Nat.le_trans (by simp [go_sem]) hz7; omega)
            have BX7 : Hid (BoxW V.heap.size [.int .i64 0, v] w7) := (((HBU.out.hold hVU).below HXB2).chg CH (by omega)).out
            have BL7 : Hid (Below V.heap.size V w7 ∧ W.heap.size ≤ w7.heap.size) := ⟨(BVU.out.trans (HXB2.mono BVU.out.size)).trans (CH.below V.heap.size (by omega) (by have := BVU.out.size; have := HXB2.size; omega)), by have := HXB2.size; have := CH.size; omega⟩
            have H7 : Hid (w7.ownsRow W.heap.size 2 1 v7 (m + 1) ((cmTo us vs k).map (Value.int .i64) ++ [.int .i64 p])) := hown7
            have N7 : Hid (v7 ≠ .slice none 0 0) := fun e => by have := (hnil7.1 e).2; omega
            obtain ⟨g7, cap7, hv7⟩ := ownsI_shape H7.out N7.out
            subst hv7
            have z1' := BX7.out.1 1 _ rfl
            have g1' := BX7.out.2 1
            have hV7 : V.heap.size < w7.heap.size := by have := BL7.out.2; omega
            have hS : ∀ b o, b < W.heap.size → b ≠ V.heap.size → w7.cell? ⟨b, o, none⟩ = U.cell? ⟨b, o, none⟩ := fun b o h1 h2 => by
              have hbU : b < U.heap.size := by omega
              have h9 := CH.block b (Nat.lt_of_lt_of_le hbU HXB2.size) (.inl h1)
              exact (World.cell?_of_block (a := ⟨b, o, none⟩) h9).trans (HXB2.cell (p := ⟨b, o, none⟩) hbU)
            clear hown7 hnil7 hgrow7 CH hz7
            refine hK.out _ _ hS (fun hHeld => ?_)
            clear hK K
            try simp only [Act.put, List.getElem_toArray, List.getElem_cons_succ, List.getElem_cons_zero, List.setIfInBounds_toArray, List.set_cons_zero, List.set_cons_succ]
            refine wpAnyH_take (i := 9) (v := ?_) rfl (by kernel_rfl) (by kernel_rfl) (by kernel_rfl) (fun _ _ _ h => h) (Or.inl ⟨by kernel_rfl, ?_⟩) (by assumption) ?_
            rotate_left 1
            · intro w hSw; (try dsimp only at hSw); go_simp; try (with_reducible rfl)
            try simp only [Act.put, List.getElem_toArray, List.getElem_cons_succ, List.getElem_cons_zero, List.setIfInBounds_toArray, List.set_cons_zero, List.set_cons_succ]
            refine wpAnyH_ready (rs := [10]) (by kernel_rfl) (by simp) ?_
            refine AllReadyH.cons rfl (fun K hK => ?_) AllReadyH.nil
            go_simp
            have hS : ∀ b o, b < W.heap.size → b ≠ V.heap.size → (w7.setCell ⟨V.heap.size, 1, none⟩ (.slice (some ⟨g7, 0, none⟩) (m + 1) cap7)).cell? ⟨b, o, none⟩ = U.cell? ⟨b, o, none⟩ := fun b o h1 h2 => by
              rw [World.cell?_setCell_other (h := fun e => h2 (by have := congrArg Addr.block e; simp at this; omega))]
              exact hHeld b o h1 h2
            refine hK.out _ _ hS (fun hHeld => ?_)
            clear hK K
            try simp only [Act.put, List.getElem_toArray, List.getElem_cons_succ, List.getElem_cons_zero, List.setIfInBounds_toArray, List.set_cons_zero, List.set_cons_succ]
            refine wpAnyH_done (by kernel_rfl) ?_ _
            have HEND : Hid (OwnI (w7.setCell ⟨V.heap.size, 1, none⟩ (.slice (some ⟨g7, 0, none⟩) (m + 1) cap7)) W.heap.size (.slice (some ⟨g7, 0, none⟩) (m + 1) cap7) (cmTo us vs (k + 1)) ∧ BoxW V.heap.size [.int .i64 0, .slice (some ⟨g7, 0, none⟩) (m + 1) cap7] (w7.setCell ⟨V.heap.size, 1, none⟩ (.slice (some ⟨g7, 0, none⟩) (m + 1) cap7)) ∧ Below V.heap.size V (w7.setCell ⟨V.heap.size, 1, none⟩ (.slice (some ⟨g7, 0, none⟩) (m + 1) cap7))) := by
              refine ⟨?_, BX7.out.put 1 (by simp) _, BL7.out.1.setCell (Nat.le_refl _) _⟩
              have h9 := ownsE_set H7.out (a := ⟨V.heap.size, 1, none⟩) hWs (.slice (some ⟨g7, 0, none⟩) (m + 1) cap7)
              show World.ownsRow _ _ _ _ _ _ _
              rw [HN.out, List.length_append, HM.out, List.map_append]
              exact h9
            have hW7 : W.heap.size ≤ w7.heap.size := BL7.out.2
            clear H7 N7 BX7 BL7
            go_wp2_with fail
            exact ⟨⟨k + 1, _, by omega, by go_num, HEND.out.1, HEND.out.2.1, HEND.out.2.2, by simp; exact hW7⟩, by simp [intOf]; omega⟩
          · go_simp
            have hS : ∀ b o, b < W.heap.size → b ≠ V.heap.size → ((U.alloc (.cells #[.int .i64 p] 2)).drew).cell? ⟨b, o, none⟩ = U.cell? ⟨b, o, none⟩ := fun b o h1 h2 => (((Below.refl U.heap.size U).alloc (Nat.le_refl _) (.cells #[.int .i64 p] 2)).drew).cell (p := ⟨b, o, none⟩) (by show b < U.heap.size; omega)
            refine hK.out _ _ hS (fun hHeld => ?_)
            clear hK K
            try simp only [Act.put, List.getElem_toArray, List.getElem_cons_succ, List.getElem_cons_zero, List.setIfInBounds_toArray, List.set_cons_zero, List.set_cons_succ]
            refine wpAnyH_ready (rs := [1]) (by kernel_rfl) (by simp) ?_
            refine AllReadyH.cons rfl (fun K hK => ?_) AllReadyH.nil
            go_simp
            have hS := hHeld
            refine hK.out _ _ hS (fun hHeld => ?_)
            clear hK K
            try simp only [Act.put, List.getElem_toArray, List.getElem_cons_succ, List.getElem_cons_zero, List.setIfInBounds_toArray, List.set_cons_zero, List.set_cons_succ]
            refine wpAnyH_ready (rs := [8]) (by kernel_rfl) (by simp) ?_
            refine AllReadyH.cons rfl (fun K hK => ?_) AllReadyH.nil
            have HXB2 : Below U.heap.size U (U.alloc (.cells #[.int .i64 p] 2)).drew := ((Below.refl _ _).alloc (Nat.le_refl _) _).drew
            refine step_appendI rfl (.tmp 35) (.tmp 41) 29 rfl W.heap.size 2 i0 (.int .i64 0) 1 8 Try.underlying29 hi hz0 hz1 hz2 rfl (by decide) v m ((cmTo us vs k).map (Value.int .i64)) (by rfl) (HOU.out.alloc _) ⟨U.heap.size, 0, none⟩ 1 1 [.int .i64 p] (by rfl) (by rfl) (fun q u hq => by match q, hq with | 0, hq => simp at hq; subst hq; simp [Addr.add]) (fun u hu => by simp at hu; subst hu; rfl) (by unfold maxLen; omega) (by omega) (by show W.heap.size ≤ (U.alloc _).heap.size; simp; omega) ?_
            intro v7 w7 hown7 hgrow7 hnil7
            have hz7 := hgrow7.size
            have CH : Chg W.heap.size (w7.heap.size + 1) _ w7 := Chg.grown hgrow7 (fun q e => by have h9 := HOU.out.lt q e; refine ⟨h9.1, ?_⟩; have : U.heap.size ≤ w7.heap.size := Nat.le_trans (by simp [go_sem]) hz7; omega)
            have BX7 : Hid (BoxW V.heap.size [.int .i64 0, v] w7) := (((HBU.out.hold hVU).below HXB2).chg CH (by omega)).out
            have BL7 : Hid (Below V.heap.size V w7 ∧ W.heap.size ≤ w7.heap.size) := ⟨(BVU.out.trans (HXB2.mono BVU.out.size)).trans (CH.below V.heap.size (by omega) (by have := BVU.out.size; have := HXB2.size; omega)), by have := HXB2.size; have := CH.size; omega⟩
            have H7 : Hid (w7.ownsRow W.heap.size 2 1 v7 (m + 1) ((cmTo us vs k).map (Value.int .i64) ++ [.int .i64 p])) := hown7
            have N7 : Hid (v7 ≠ .slice none 0 0) := fun e => by have := (hnil7.1 e).2; omega
            obtain ⟨g7, cap7, hv7⟩ := ownsI_shape H7.out N7.out
            subst hv7
            have z1' := BX7.out.1 1 _ rfl
            have g1' := BX7.out.2 1
            have hV7 : V.heap.size < w7.heap.size := by have := BL7.out.2; omega
            have hS : ∀ b o, b < W.heap.size → b ≠ V.heap.size → w7.cell? ⟨b, o, none⟩ = U.cell? ⟨b, o, none⟩ := fun b o h1 h2 => by
              have hbU : b < U.heap.size := by omega
              have h9 := CH.block b (Nat.lt_of_lt_of_le hbU HXB2.size) (.inl h1)
              exact (World.cell?_of_block (a := ⟨b, o, none⟩) h9).trans (HXB2.cell (p := ⟨b, o, none⟩) hbU)
            clear hown7 hnil7 hgrow7 CH hz7
            refine hK.out _ _ hS (fun hHeld => ?_)
            clear hK K
            try simp only [Act.put, List.getElem_toArray, List.getElem_cons_succ, List.getElem_cons_zero, List.setIfInBounds_toArray, List.set_cons_zero, List.set_cons_succ]
            refine wpAnyH_take (i := 9) (v := ?_) rfl (by kernel_rfl) (by kernel_rfl) (by kernel_rfl) (fun _ _ _ h => h) (Or.inl ⟨by kernel_rfl, ?_⟩) (by assumption) ?_
            rotate_left 1
            · intro w hSw; (try dsimp only at hSw); go_simp; try (with_reducible rfl)
            try simp only [Act.put, List.getElem_toArray, List.getElem_cons_succ, List.getElem_cons_zero, List.setIfInBounds_toArray, List.set_cons_zero, List.set_cons_succ]
            refine wpAnyH_ready (rs := [10]) (by kernel_rfl) (by simp) ?_
            refine AllReadyH.cons rfl (fun K hK => ?_) AllReadyH.nil
            go_simp
            have hS : ∀ b o, b < W.heap.size → b ≠ V.heap.size → (w7.setCell ⟨V.heap.size, 1, none⟩ (.slice (some ⟨g7, 0, none⟩) (m + 1) cap7)).cell? ⟨b, o, none⟩ = U.cell? ⟨b, o, none⟩ := fun b o h1 h2 => by
              rw [World.cell?_setCell_other (h := fun e => h2 (by have := congrArg Addr.block e; simp at this; omega))]
              exact hHeld b o h1 h2
            refine hK.out _ _ hS (fun hHeld => ?_)
            clear hK K
            try simp only [Act.put, List.getElem_toArray, List.getElem_cons_succ, List.getElem_cons_zero, List.setIfInBounds_toArray, List.set_cons_zero, List.set_cons_succ]
            refine wpAnyH_done (by kernel_rfl) ?_ _
            have HEND : Hid (OwnI (w7.setCell ⟨V.heap.size, 1, none⟩ (.slice (some ⟨g7, 0, none⟩) (m + 1) cap7)) W.heap.size (.slice (some ⟨g7, 0, none⟩) (m + 1) cap7) (cmTo us vs (k + 1)) ∧ BoxW V.heap.size [.int .i64 0, .slice (some ⟨g7, 0, none⟩) (m + 1) cap7] (w7.setCell ⟨V.heap.size, 1, none⟩ (.slice (some ⟨g7, 0, none⟩) (m + 1) cap7)) ∧ Below V.heap.size V (w7.setCell ⟨V.heap.size, 1, none⟩ (.slice (some ⟨g7, 0, none⟩) (m + 1) cap7))) := by
              refine ⟨?_, BX7.out.put 1 (by simp) _, BL7.out.1.setCell (Nat.le_refl _) _⟩
              have h9 := ownsE_set H7.out (a := ⟨V.heap.size, 1, none⟩) hWs (.slice (some ⟨g7, 0, none⟩) (m + 1) cap7)
              show World.ownsRow _ _ _ _ _ _ _
              rw [HN.out, List.length_append, HM.out, List.map_append]
              exact h9
            have hW7 : W.heap.size ≤ w7.heap.size := BL7.out.2
            clear H7 N7 BX7 BL7
            go_wp2_with fail
            exact ⟨⟨k + 1, _, by omega, by go_num, HEND.out.1, HEND.out.2.1, HEND.out.2.2, by simp; exact hW7⟩, by simp [intOf]; omega⟩
          -- end 8
      · have hkn : k = gn := by omega
        subst hkn
        have hlt' : ¬ ((k : Int) < (k : Int)) := by omega
        have hVw : V.heap.size < wr.heap.size := by omega
        have X2 := RB.out.below (by omega) hvx
        have d0 := X2.1 0 _ rfl
        have d1 := X2.1 1 _ rfl
        have e0 := X2.2 0
        have e1 := X2.2 1
        have z0 := hbox.1 0 _ rfl
        have hw2 : w.heap.size + 1 + 1 < wr.heap.size := Nat.lt_of_lt_of_le hVl hvx.size
        obtain ⟨ra, rc, hv⟩ : ∃ ra rc, v = .slice ra (cmTo us vs k).length rc := by
          have ho0 : wr.ownsRow W.heap.size 2 1 v (cmTo us vs k).length ((cmTo us vs k).map (Value.int .i64)) := hown
          rcases ho0.2 with ⟨h1, h2⟩ | ⟨g, cp, cur, h1, _⟩
          · exact ⟨none, 0, by rw [h1, h2]⟩
          · exact ⟨_, _, h1⟩
        subst hv
        obtain ⟨m, hm⟩ : ∃ m, (cmTo us vs k).length = m := ⟨_, rfl⟩
        have HO3 : Hid (wr.ownsRow W.heap.size 2 1 (.slice ra m rc) m (ys.map (Value.int .i64)) ∧ ys.length = m) := ⟨by rw [← hm, HE.out.2]; exact HO.out, by rw [HE.out.2, hm]⟩
        have z1 : wr.cell? ⟨V.heap.size, 1, none⟩ = some (.slice ra m rc) := by rw [← hm]; exact hbox.1 1 _ rfl
        have BWW : Hid (Below w.heap.size w wr) := BV.trans (hvx.mono BV.size)
        have HLT : Hid (w.heap.size + 1 + 1 < W.heap.size) := by show _ < _; omega
        clear hown hbox hm X2 HO HBX
        go_wp2
        refine bodyPost_ret (v := .agg #[.int .i64 0, .slice ra m rc]) (by simp [results, Try.results26, go_sem, d0, d1, hw2]) rfl ⟨ra, rc, by rw [HE.out.1, HO3.out.2], ?_, ?_⟩
        · rw [HO3.out.2]
          exact low_owns (ownsE_set (ownsE_set HO3.out.1 (a := ⟨w.heap.size + 1 + 1, 0, none⟩) HLT.out _) (a := ⟨w.heap.size + 1 + 1, 1, none⟩) HLT.out _) (by have := HLT.out; omega)
        · exact (BWW.out.setCell (by show w.heap.size ≤ w.heap.size + 1 + 1; omega) _).setCell (by show w.heap.size ≤ w.heap.size + 1 + 1; omega) _

end Go.Proofs.Ytdfhebmecbcegaa

namespace Go.Proofs.Ytdfhebmecbcegaa
open Go.RowKit
set_option linter.unusedVariables false
set_option linter.unusedSimpArgs false

theorem fldI0 (c : Int) (v : Value) (w : World) : (Instr.field 37 (.agg #[.int .i64 c, v]) 0).run Try.prog w = .ok (.int .i64 c) w := by kernel_rfl
theorem fldI1 (c : Int) (a : Option Addr) (n k : Nat) (w : World) : (Instr.field 37 (.agg #[.int .i64 c, .slice a n k]) 1).run Try.prog w = .ok (.slice a n k) w := by kernel_rfl

/-- The numbers from one place on. -/
theorem ints_from {W : World} {g : Nat} {ys : List Int} (h : IntIn W (some ⟨g, 0, none⟩) ys.length ys) (m : Nat) : IntIn W (some ⟨g, m, none⟩) (ys.length - m) (ys.drop m) := by
  refine ⟨by simp, fun hn => ⟨g, m, rfl, fun k y hy => ?_⟩⟩
  obtain ⟨b, off, e, hc⟩ := h.2 (by omega)
  simp at e
  obtain ⟨rfl, rfl⟩ := e
  have := hc (m + k) y (by rw [List.getElem?_drop] at hy; exact hy)
  simpa using this

attribute [local go_sem] fldI0 fldI1

set_option maxRecDepth 100000 in
set_option maxHeartbeats 1000000 in
theorem meets_inner (a : Option Addr) (len cap : Nat) (bs : List Int) (w : World) (hl : len ≤ 1048576) (hc : CodeIn w a len bs) (hnil : a = none → len = 0 ∧ cap = 0) :
    Calls Try.prog 5 #[.slice a len cap] w fun e w' => e = .returned (.bool true) ∧ Below w.heap.size w w' := by
  have hl' : (len : Int) ≤ 1048576 := by omega
  have HD : Hid (GivesV9 20 a len cap w) := drawVerify_c a len cap bs w hc hl hnil
  unfold GivesV9 at HD
  clear hc hnil
  go_enter Try.func5, Try.ntmps5
  go_wp2_with (first | (go_at_call 12; go_in) | fail)
  refine HD.out.mono ?_
  clear HD
  rintro e w1 ⟨va, vc, zs, f, x, ga, gn, gc, us, rfl, hzl, f0, f3, hok, how, hgn, hI, hb1⟩
  have hcaps := ownSh_caps how
  have F1 : Hid (FV w va zs w1.heap.size x ga gn gc us (w1.alloc (.cells #[.int .i64 x.k, .int .i64 x.e, .int .i64 x.f, .int .i64 x.s, .int .i64 x.n, .slice ga gn gc] 31))) :=
    ⟨hb1.alloc hb1.size _, ((ShV.isIn rfl how.view).below ((Below.refl _ _).alloc (Nat.le_refl _) _)), (boxV_new w1 _ _).out, by simp, hI.below ((Below.refl _ _).alloc (Nat.le_refl _) _)⟩
  have HOK : Hid (∀ z ∈ zs, i64W z.r) := fun z hz => by have := hok z hz; exact i64W_of (by omega) (by omega)
  clear hok how hb1 hI
  have HVC : Hid (∀ W (xa : Option Addr) (xn xc : Nat) (vs : List Int), FV w va zs w1.heap.size x ga gn gc us W → xn ≤ 1048576 → IntIn W xa xn vs → GivesVC 18 va zs.length vc f x xa xn xc (vfCode f zs x vs) W) := fun W xa xn xc vs h hx hi =>
    implVerifyCert_c va zs.length vc zs f x xa xn xc vs W (by omega) hcaps.1 hcaps.2 hx h.sh hi
  have HVS : Hid (∀ W, FV w va zs w1.heap.size x ga gn gc us W → GivesVC 21 va zs.length vc f x ga gn gc (vfCode f zs x us) W) := fun W h =>
    specVerifyCert_c va zs.length vc zs f x ga gn gc us W (by omega) hcaps.1 hcaps.2 (by omega) h.sh h.ia
  obtain ⟨sc, hsc⟩ : ∃ sc, sgCode zs x = sc := ⟨_, rfl⟩
  obtain ⟨ts, hts⟩ : ∃ ts, sgRes zs x = ts := ⟨_, rfl⟩
  have HSO : Hid (∀ W, FV w va zs w1.heap.size x ga gn gc us W → GivesSO 17 va zs.length vc x sc ts W) := fun W h => by rw [← hsc, ← hts]; exact implSigners_c va zs.length vc zs x W (by omega) HOK.out h.sh
  have HSS : Hid (∀ W, FV w va zs w1.heap.size x ga gn gc us W → GivesSO 24 va zs.length vc x sc ts W) := fun W h => by rw [← hsc, ← hts]; exact specSigners_c va zs.length vc zs x W (by omega) h.sh
  have htl : ts.length ≤ 121 := by
    rw [← hts]
    unfold sgRes
    split
    · exact Nat.le_trans (sgL_len zs x) hzl
    · simp
  clear hsc hts HOK
  unfold GivesVC at HVC HVS
  unfold GivesSO at HSO HSS
  go_wp2_with fail
  generalize hW1 : w1.alloc (.cells #[.int .i64 x.k, .int .i64 x.e, .int .i64 x.f, .int .i64 x.s, .int .i64 x.n, .slice ga gn gc] 31) = W1 at F1 ⊢
  clear hW1
  generalize w1.heap.size = C at F1 HVC HVS HSO HSS ⊢
  refine (HSO.out _ F1.out).mono ?_
  rintro e w2 ⟨ta, tc, rfl, how2, hb2⟩
  obtain ⟨W, hW⟩ : ∃ W, W = (w2.alloc (.cells #[.int .i64 sc, .slice ta ts.length tc] 37)).alloc (.cells #[.int .i64 x.k, .int .i64 x.e, .int .i64 x.f, .int .i64 x.s, .int .i64 x.n, .slice ta ts.length tc] 31) := ⟨_, rfl⟩
  have A2 : Below w2.heap.size w2 W := by rw [hW]; exact ((Below.refl _ _).alloc (Nat.le_refl _) _).alloc (by simp) _
  have F2 : Hid (FV w va zs C x ga gn gc us W) := (F1.out.below hb2).below A2
  have R2 : Hid (RB w2.heap.size [.int .i64 sc, .slice ta ts.length tc] ta tc ts W) := by
    rw [hW]
    exact RB.below ⟨(boxV_new w2 _ _).out, by simp, ownI_below (owns_lowI how2 (Nat.zero_le _)) ((Below.refl _ _).alloc (Nat.le_refl _) _)⟩ ((Below.refl _ _).alloc (Nat.le_refl _) _)
  have D2 : Hid (BoxV (w2.heap.size + 1) [.int .i64 x.k, .int .i64 x.e, .int .i64 x.f, .int .i64 x.s, .int .i64 x.n, .slice ta ts.length tc] W ∧ w2.heap.size + 1 < W.heap.size) := by
    rw [hW]
    have := (boxV_new (w2.alloc (.cells #[.int .i64 sc, .slice ta ts.length tc] 37)) #[.int .i64 x.k, .int .i64 x.e, .int .i64 x.f, .int .i64 x.s, .int .i64 x.n, .slice ta ts.length tc] 31).out
    have e : (w2.alloc (.cells #[.int .i64 sc, .slice ta ts.length tc] 37)).heap.size = w2.heap.size + 1 := by simp
    rw [e] at this
    exact ⟨this, by simp⟩
  have F1b := hid (F1.out.below hb2)
  clear how2 hb2 A2 F1 HSO
  have c0 := F1b.out.bx 0 _ rfl
  have c1 := F1b.out.bx 1 _ rfl
  have c2 := F1b.out.bx 2 _ rfl
  have c3 := F1b.out.bx 3 _ rfl
  have c4 := F1b.out.bx 4 _ rfl
  have c5 := F1b.out.bx 5 _ rfl
  have hCl := F1b.out.lt
  go_wp2_with fail
  rw [← hW]
  clear hW F1b c0 c1 c2 c3 c4 c5 hCl
  generalize w2.heap.size = T at R2 D2 ⊢
  generalize hD : T + 1 = D at D2 ⊢
  clear hD
  obtain ⟨v, hv⟩ : ∃ v, vfCode f zs x us = v := ⟨_, rfl⟩
  have HV : Hid (vfCode f zs x us = v) := hv
  have HVI : Hid (∀ W, FV w va zs C x ga gn gc us W → Calls Try.prog 18 #[.slice va zs.length vc, .int .i64 f, .agg #[.int .i64 x.k, .int .i64 x.e, .int .i64 x.f, .int .i64 x.s, .int .i64 x.n, .slice ga gn gc]] W fun e w' => e = .returned (.int .i64 v) ∧ Below W.heap.size W w') := fun W h => by rw [← hv]; exact HVC.out W ga gn gc us h (by omega) h.ia
  rw [hv] at HVS
  clear hv
  refine (HVI.out _ F2.out).mono ?_
  rintro e w3 ⟨rfl, hb3⟩
  have F3 := hid (F2.out.below hb3)
  have R3 := hid (R2.out.below hb3)
  have D3 : Hid (BoxV D [.int .i64 x.k, .int .i64 x.e, .int .i64 x.f, .int .i64 x.s, .int .i64 x.n, .slice ta ts.length tc] w3 ∧ D < w3.heap.size) := ⟨((BoxV.hold D2.out.1 D2.out.2).below hb3).out, Nat.lt_of_lt_of_le D2.out.2 hb3.size⟩
  clear F2 R2 D2 hb3
  by_cases hv0 : v = 0
  · subst hv0
    obtain ⟨u, hu⟩ : ∃ u, vfCode f zs x ts = u := ⟨_, rfl⟩
    have HU : Hid (vfCode f zs x ts = u) := hu
    have HVD : Hid (Calls Try.prog 18 #[.slice va zs.length vc, .int .i64 f, .agg #[.int .i64 x.k, .int .i64 x.e, .int .i64 x.f, .int .i64 x.s, .int .i64 x.n, .slice ta ts.length tc]] w3 fun e w' => e = .returned (.int .i64 u) ∧ Below w3.heap.size w3 w') := by rw [← hu]; exact HVC.out w3 ta ts.length tc ts F3.out (by omega) R3.out.ints
    clear hu
    have l0 := D3.out.1 0 _ rfl
    have l1 := D3.out.1 1 _ rfl
    have l2 := D3.out.1 2 _ rfl
    have l3 := D3.out.1 3 _ rfl
    have l4 := D3.out.1 4 _ rfl
    have l5 := D3.out.1 5 _ rfl
    have hDl := D3.out.2
    go_wp2_with fail
    refine HVD.out.mono ?_
    rintro e w4 ⟨rfl, hb4⟩
    have F4 := hid (F3.out.below hb4)
    have R4 := hid (R3.out.below hb4)
    clear F3 R3 D3 HVD hb4 l0 l1 l2 l3 l4 l5 hDl
    by_cases hu0 : u = 0
    · subst hu0
      obtain ⟨hlt, hf1, hf2, hul, htl7, hvl, hcm, hsh⟩ := meets_facts HV.out HU.out
      obtain ⟨m, hm⟩ : ∃ m, ts.length - (2 * f + 1).toNat = m := ⟨_, rfl⟩
      rw [hm] at hvl hcm hsh
      obtain ⟨g, rfl, htc⟩ := R4.out.form (by omega)
      have hmt : m < ts.length := by omega
      have hmi : (ts.length : Int) - 2 * f - 1 = (m : Int) := by omega
      have hm1 : IntKind.i64.wrap (2 * f) = 2 * f := wrap9 (by omega) (by omega)
      have hm2 : IntKind.i64.wrap ((ts.length : Int) - 2 * f) = (ts.length : Int) - 2 * f := wrap9 (by omega) (by omega)
      have hm3 : IntKind.i64.wrap ((ts.length : Int) - 2 * f - 1) = (m : Int) := (wrap9 (by omega) (by omega)).trans hmi
      have hmn : ¬ tc = m := by omega
      have hmt' : (m : Int) ≤ (ts.length : Int) := by omega
      have htc' : (ts.length : Int) ≤ (tc : Int) := by omega
      have hmtc : (m : Int) ≤ (tc : Int) := by omega
      obtain ⟨ms, hms⟩ : ∃ ms, cmRes us (ts.drop m) = ms := ⟨_, rfl⟩
      rw [hms] at hsh
      have HVL := hid hvl
      have HCI : Hid (∀ W, FV w va zs C x ga gn gc us W → IntIn W (some ⟨g, m, none⟩) (ts.length - m) (ts.drop m) → GivesCO 25 x ga gn gc x (some ⟨g, m, none⟩) (ts.length - m) (tc - m) 0 ms W) := fun W h hi => by
        have q := implCommon_c x ga gn gc us x (some ⟨g, m, none⟩) (ts.length - m) (tc - m) (ts.drop m) W (by have := h.ia.1; omega) (by omega) h.ia hi
        have e : cmCode gn (ts.length - m) = 0 := by rw [← h.ia.1, ← List.length_drop]; exact hcm
        rw [e, hms] at q
        exact q
      have HCS : Hid (∀ W, FV w va zs C x ga gn gc us W → IntIn W (some ⟨g, m, none⟩) (ts.length - m) (ts.drop m) → GivesCO 26 x ga gn gc x (some ⟨g, m, none⟩) (ts.length - m) (tc - m) 0 ms W) := fun W h hi => by
        have q := specCommon_c x ga gn gc us x (some ⟨g, m, none⟩) (ts.length - m) (tc - m) (ts.drop m) W (by have := h.ia.1; omega) (by omega) h.ia hi
        have e : cmCode gn (ts.length - m) = 0 := by rw [← h.ia.1, ← List.length_drop]; exact hcm
        rw [e, hms] at q
        exact q
      unfold GivesCO at HCI HCS
      clear hvl hcm hm hmi hms HVS HSS
      go_upto_region 8 with fail
      have c0 := F4.out.bx 0 _ rfl
      have c1 := F4.out.bx 1 _ rfl
      have c2 := F4.out.bx 2 _ rfl
      have c3 := F4.out.bx 3 _ rfl
      have c4 := F4.out.bx 4 _ rfl
      have c5 := F4.out.bx 5 _ rfl
      have hCl := F4.out.lt
      have r1 := R4.out.bx 1 _ rfl
      have hTl := R4.out.lt
      go_region
      obtain ⟨Z, hZ⟩ : ∃ Z, Z = (w4.alloc (.cells #[.int .i64 x.k, .int .i64 x.e, .int .i64 x.f, .int .i64 x.s, .int .i64 x.n, .slice (some ⟨g, m, none⟩) (ts.length - m) (tc - m)] 31)).drew := ⟨_, rfl⟩
      have A5 : Below w4.heap.size w4 Z := by rw [hZ]; exact ((Below.refl _ _).alloc (Nat.le_refl _) _).drew
      have F5 : Hid (FV w va zs C x ga gn gc us Z) := F4.out.below A5
      have I5 : Hid (IntIn Z (some ⟨g, m, none⟩) (ts.length - m) (ts.drop m)) := ints_from (R4.out.below A5).ints m
      have L5 : Hid (BoxV w4.heap.size [.int .i64 x.k, .int .i64 x.e, .int .i64 x.f, .int .i64 x.s, .int .i64 x.n, .slice (some ⟨g, m, none⟩) (ts.length - m) (tc - m)] Z ∧ w4.heap.size < Z.heap.size) := by
        rw [hZ]
        exact ⟨(boxV_new w4 _ _).out, by simp⟩
      rw [← hZ]
      clear hZ A5 F4 R4 c0 c1 c2 c3 c4 c5 r1 hTl hCl hm1 hm2 hm3
      generalize w4.heap.size = U at L5 ⊢
      have c0 := F5.out.bx 0 _ rfl
      have c1 := F5.out.bx 1 _ rfl
      have c2 := F5.out.bx 2 _ rfl
      have c3 := F5.out.bx 3 _ rfl
      have c4 := F5.out.bx 4 _ rfl
      have c5 := F5.out.bx 5 _ rfl
      have hCl := F5.out.lt
      have l0 := L5.out.1 0 _ rfl
      have l1 := L5.out.1 1 _ rfl
      have l2 := L5.out.1 2 _ rfl
      have l3 := L5.out.1 3 _ rfl
      have l4 := L5.out.1 4 _ rfl
      have l5 := L5.out.1 5 _ rfl
      have hUl := L5.out.2
      go_wp2_with fail
      refine (HCI.out _ F5.out I5.out).mono ?_
      rintro e w6 ⟨ra, rc, rfl, how6, hb6⟩
      clear c0 c1 c2 c3 c4 c5 hCl l0 l1 l2 l3 l4 l5 hUl HCI
      obtain ⟨V, hV⟩ : ∃ V, V = w6.alloc (.cells #[.int .i64 0, .slice ra ms.length rc] 37) := ⟨_, rfl⟩
      have A7 : Below w6.heap.size w6 V := by rw [hV]; exact (Below.refl _ _).alloc (Nat.le_refl _) _
      have F7 : Hid (FV w va zs C x ga gn gc us V) := (F5.out.below hb6).below A7
      have I7 : Hid (IntIn V (some ⟨g, m, none⟩) (ts.length - m) (ts.drop m)) := (I5.out.below hb6).below A7
      have L7 : Hid (BoxV U [.int .i64 x.k, .int .i64 x.e, .int .i64 x.f, .int .i64 x.s, .int .i64 x.n, .slice (some ⟨g, m, none⟩) (ts.length - m) (tc - m)] V ∧ U < V.heap.size) := ⟨((BoxV.hold (((BoxV.hold L5.out.1 L5.out.2).below hb6).out) (Nat.lt_of_lt_of_le L5.out.2 hb6.size)).below A7).out, Nat.lt_of_lt_of_le (Nat.lt_of_lt_of_le L5.out.2 hb6.size) A7.size⟩
      have M7 : Hid (BoxV w6.heap.size [.int .i64 0, .slice ra ms.length rc] V ∧ w6.heap.size < V.heap.size) := by
        rw [hV]
        exact ⟨(boxV_new w6 _ _).out, by simp⟩
      clear how6 hb6 A7 F5 I5 L5
      go_upto_region 10 with fail
      rw [← hV]
      clear hV
      generalize w6.heap.size = M at M7 ⊢
      have c0 := F7.out.bx 0 _ rfl
      have c1 := F7.out.bx 1 _ rfl
      have c2 := F7.out.bx 2 _ rfl
      have c3 := F7.out.bx 3 _ rfl
      have c4 := F7.out.bx 4 _ rfl
      have c5 := F7.out.bx 5 _ rfl
      have hCl := F7.out.lt
      have l0 := L7.out.1 0 _ rfl
      have l1 := L7.out.1 1 _ rfl
      have l2 := L7.out.1 2 _ rfl
      have l3 := L7.out.1 3 _ rfl
      have l4 := L7.out.1 4 _ rfl
      have l5 := L7.out.1 5 _ rfl
      have hUl := L7.out.2
      have m0 := M7.out.1 0 _ rfl
      have m1 := M7.out.1 1 _ rfl
      have hMl := M7.out.2
      refine wp_region_held_drew (S := fun w' => (∀ b o, b < V.heap.size → w'.cell? ⟨b, o, none⟩ = V.cell? ⟨b, o, none⟩) ∧ Below V.heap.size V w') (by kernel_rfl) (kp_drew _) (fun hHeld => ?_)
      refine wpAnyH_take (i := 0) (v := ?_) rfl (by kernel_rfl) (by kernel_rfl) (by kernel_rfl) (fun _ _ _ h => h) (Or.inl ⟨by kernel_rfl, ?_⟩) (by assumption) ?_
      rotate_left 1
      · intro w hSw; (try dsimp only at hSw); go_simp; try (with_reducible rfl)
      try simp only [Act.put, List.getElem_toArray, List.getElem_cons_succ, List.getElem_cons_zero, List.setIfInBounds_toArray, List.set_cons_zero, List.set_cons_succ]
      refine wpAnyH_take (i := 1) (v := ?_) rfl (by kernel_rfl) (by kernel_rfl) (by kernel_rfl) (fun _ _ _ h => h) (Or.inl ⟨by kernel_rfl, ?_⟩) (by assumption) ?_
      rotate_left 1
      · intro w hSw; (try dsimp only at hSw); go_simp; try (with_reducible rfl)
      try simp only [Act.put, List.getElem_toArray, List.getElem_cons_succ, List.getElem_cons_zero, List.setIfInBounds_toArray, List.set_cons_zero, List.set_cons_succ]
      refine wpAnyH_take (i := 2) (v := ?_) rfl (by kernel_rfl) (by kernel_rfl) (by kernel_rfl) (fun _ _ _ h => h) (Or.inl ⟨by kernel_rfl, ?_⟩) (by assumption) ?_
      rotate_left 1
      · intro w hSw; (try dsimp only at hSw); go_simp; try (with_reducible rfl)
      try simp only [Act.put, List.getElem_toArray, List.getElem_cons_succ, List.getElem_cons_zero, List.setIfInBounds_toArray, List.set_cons_zero, List.set_cons_succ]
      refine wpAnyH_take (i := 3) (v := ?_) rfl (by kernel_rfl) (by kernel_rfl) (by kernel_rfl) (fun _ _ _ h => h) (Or.inl ⟨by kernel_rfl, ?_⟩) (by assumption) ?_
      rotate_left 1
      · intro w hSw; (try dsimp only at hSw); go_simp; try (with_reducible rfl)
      try simp only [Act.put, List.getElem_toArray, List.getElem_cons_succ, List.getElem_cons_zero, List.setIfInBounds_toArray, List.set_cons_zero, List.set_cons_succ]
      refine wpAnyH_take (i := 4) (v := ?_) rfl (by kernel_rfl) (by kernel_rfl) (by kernel_rfl) (fun _ _ _ h => h) (Or.inl ⟨by kernel_rfl, ?_⟩) (by assumption) ?_
      rotate_left 1
      · intro w hSw; (try dsimp only at hSw); go_simp; try (with_reducible rfl)
      try simp only [Act.put, List.getElem_toArray, List.getElem_cons_succ, List.getElem_cons_zero, List.setIfInBounds_toArray, List.set_cons_zero, List.set_cons_succ]
      refine wpAnyH_take (i := 5) (v := ?_) rfl (by kernel_rfl) (by kernel_rfl) (by kernel_rfl) (fun _ _ _ h => h) (Or.inl ⟨by kernel_rfl, ?_⟩) (by assumption) ?_
      rotate_left 1
      · intro w hSw; (try dsimp only at hSw); go_simp; try (with_reducible rfl)
      try simp only [Act.put, List.getElem_toArray, List.getElem_cons_succ, List.getElem_cons_zero, List.setIfInBounds_toArray, List.set_cons_zero, List.set_cons_succ]
      refine wpAnyH_take (i := 6) (v := ?_) rfl (by kernel_rfl) (by kernel_rfl) (by kernel_rfl) (fun _ _ _ h => h) (Or.inl ⟨by kernel_rfl, ?_⟩) (by assumption) ?_
      rotate_left 1
      · intro w hSw; (try dsimp only at hSw); go_simp; try (with_reducible rfl)
      try simp only [Act.put, List.getElem_toArray, List.getElem_cons_succ, List.getElem_cons_zero, List.setIfInBounds_toArray, List.set_cons_zero, List.set_cons_succ]
      refine wpAnyH_take (i := 7) (v := ?_) rfl (by kernel_rfl) (by kernel_rfl) (by kernel_rfl) (fun _ _ _ h => h) (Or.inl ⟨by kernel_rfl, ?_⟩) (by assumption) ?_
      rotate_left 1
      · intro w hSw; (try dsimp only at hSw); go_simp; try (with_reducible rfl)
      try simp only [Act.put, List.getElem_toArray, List.getElem_cons_succ, List.getElem_cons_zero, List.setIfInBounds_toArray, List.set_cons_zero, List.set_cons_succ]
      refine wpAnyH_take (i := 8) (v := ?_) rfl (by kernel_rfl) (by kernel_rfl) (by kernel_rfl) (fun _ _ _ h => h) (Or.inl ⟨by kernel_rfl, ?_⟩) (by assumption) ?_
      rotate_left 1
      · intro w hSw; (try dsimp only at hSw); go_simp; try (with_reducible rfl)
      try simp only [Act.put, List.getElem_toArray, List.getElem_cons_succ, List.getElem_cons_zero, List.setIfInBounds_toArray, List.set_cons_zero, List.set_cons_succ]
      refine wpAnyH_take (i := 9) (v := ?_) rfl (by kernel_rfl) (by kernel_rfl) (by kernel_rfl) (fun _ _ _ h => h) (Or.inl ⟨by kernel_rfl, ?_⟩) (by assumption) ?_
      rotate_left 1
      · intro w hSw; (try dsimp only at hSw); go_simp; try (with_reducible rfl)
      try simp only [Act.put, List.getElem_toArray, List.getElem_cons_succ, List.getElem_cons_zero, List.setIfInBounds_toArray, List.set_cons_zero, List.set_cons_succ]
      refine wpAnyH_take (i := 10) (v := ?_) rfl (by kernel_rfl) (by kernel_rfl) (by kernel_rfl) (fun _ _ _ h => h) (Or.inl ⟨by kernel_rfl, ?_⟩) (by assumption) ?_
      rotate_left 1
      · intro w hSw; (try dsimp only at hSw); go_simp; try (with_reducible rfl)
      try simp only [Act.put, List.getElem_toArray, List.getElem_cons_succ, List.getElem_cons_zero, List.setIfInBounds_toArray, List.set_cons_zero, List.set_cons_succ]
      refine wpAnyH_take (i := 11) (v := ?_) rfl (by kernel_rfl) (by kernel_rfl) (by kernel_rfl) (fun _ _ _ h => h) (Or.inl ⟨by kernel_rfl, ?_⟩) (by assumption) ?_
      rotate_left 1
      · intro w hSw; (try dsimp only at hSw); go_simp; try (with_reducible rfl)
      try simp only [Act.put, List.getElem_toArray, List.getElem_cons_succ, List.getElem_cons_zero, List.setIfInBounds_toArray, List.set_cons_zero, List.set_cons_succ]
      refine wpAnyH_take (i := 12) (v := ?_) rfl (by kernel_rfl) (by kernel_rfl) (by kernel_rfl) (fun _ _ _ h => h) (Or.inl ⟨by kernel_rfl, ?_⟩) (by assumption) ?_
      rotate_left 1
      · intro w hSw; (try dsimp only at hSw); go_simp; try (with_reducible rfl)
      try simp only [Act.put, List.getElem_toArray, List.getElem_cons_succ, List.getElem_cons_zero, List.setIfInBounds_toArray, List.set_cons_zero, List.set_cons_succ]
      refine wpAnyH_take (i := 13) (v := ?_) rfl (by kernel_rfl) (by kernel_rfl) (by kernel_rfl) (fun _ _ _ h => h) (Or.inl ⟨by kernel_rfl, ?_⟩) (by assumption) ?_
      rotate_left 1
      · intro w hSw; (try dsimp only at hSw); go_simp; try (with_reducible rfl)
      try simp only [Act.put, List.getElem_toArray, List.getElem_cons_succ, List.getElem_cons_zero, List.setIfInBounds_toArray, List.set_cons_zero, List.set_cons_succ]
      refine wpAnyH_ready (rs := [14]) (by kernel_rfl) (by simp) ?_
      refine AllReadyH.cons rfl (fun K hK => ?_) AllReadyH.nil
      go_simp
      have hv := HVC.out _ _ _ (tc - m) (ts.drop m) (F7.out.below hHeld.2) (by omega) (I7.out.below hHeld.2)
      rw [HVL.out] at hv
      refine hv.mono ?_
      clear hv
      rintro d wA ⟨rfl, hbA⟩
      have hS := kp_step hHeld hbA
      refine hK.out _ _ hS (fun hHeld => ?_)
      clear hK K
      try simp only [Act.put, List.getElem_toArray, List.getElem_cons_succ, List.getElem_cons_zero, List.setIfInBounds_toArray, List.set_cons_zero, List.set_cons_succ]
      refine wpAnyH_take (i := 15) (v := ?_) rfl (by kernel_rfl) (by kernel_rfl) (by kernel_rfl) (fun _ _ _ h => h) (Or.inl ⟨by kernel_rfl, ?_⟩) (by assumption) ?_
      rotate_left 1
      · intro w hSw; (try dsimp only at hSw); go_simp; try (with_reducible rfl)
      try simp only [Act.put, List.getElem_toArray, List.getElem_cons_succ, List.getElem_cons_zero, List.setIfInBounds_toArray, List.set_cons_zero, List.set_cons_succ]
      refine wpAnyH_take (i := 16) (v := ?_) rfl (by kernel_rfl) (by kernel_rfl) (by kernel_rfl) (fun _ _ _ h => h) (Or.inl ⟨by kernel_rfl, ?_⟩) (by assumption) ?_
      rotate_left 1
      · intro w hSw; (try dsimp only at hSw); go_simp; try (with_reducible rfl)
      try simp only [Act.put, List.getElem_toArray, List.getElem_cons_succ, List.getElem_cons_zero, List.setIfInBounds_toArray, List.set_cons_zero, List.set_cons_succ]
      refine wpAnyH_take (i := 17) (v := ?_) rfl (by kernel_rfl) (by kernel_rfl) (by kernel_rfl) (fun _ _ _ h => h) (Or.inl ⟨by kernel_rfl, ?_⟩) (by assumption) ?_
      rotate_left 1
      · intro w hSw; (try dsimp only at hSw); go_simp; try (with_reducible rfl)
      try simp only [Act.put, List.getElem_toArray, List.getElem_cons_succ, List.getElem_cons_zero, List.setIfInBounds_toArray, List.set_cons_zero, List.set_cons_succ]
      refine wpAnyH_take (i := 18) (v := ?_) rfl (by kernel_rfl) (by kernel_rfl) (by kernel_rfl) (fun _ _ _ h => h) (Or.inl ⟨by kernel_rfl, ?_⟩) (by assumption) ?_
      rotate_left 1
      · intro w hSw; (try dsimp only at hSw); go_simp; try (with_reducible rfl)
      try simp only [Act.put, List.getElem_toArray, List.getElem_cons_succ, List.getElem_cons_zero, List.setIfInBounds_toArray, List.set_cons_zero, List.set_cons_succ]
      refine wpAnyH_take (i := 19) (v := ?_) rfl (by kernel_rfl) (by kernel_rfl) (by kernel_rfl) (fun _ _ _ h => h) (Or.inl ⟨by kernel_rfl, ?_⟩) (by assumption) ?_
      rotate_left 1
      · intro w hSw; (try dsimp only at hSw); go_simp; try (with_reducible rfl)
      try simp only [Act.put, List.getElem_toArray, List.getElem_cons_succ, List.getElem_cons_zero, List.setIfInBounds_toArray, List.set_cons_zero, List.set_cons_succ]
      refine wpAnyH_take (i := 20) (v := ?_) rfl (by kernel_rfl) (by kernel_rfl) (by kernel_rfl) (fun _ _ _ h => h) (Or.inl ⟨by kernel_rfl, ?_⟩) (by assumption) ?_
      rotate_left 1
      · intro w hSw; (try dsimp only at hSw); go_simp; try (with_reducible rfl)
      try simp only [Act.put, List.getElem_toArray, List.getElem_cons_succ, List.getElem_cons_zero, List.setIfInBounds_toArray, List.set_cons_zero, List.set_cons_succ]
      refine wpAnyH_take (i := 21) (v := ?_) rfl (by kernel_rfl) (by kernel_rfl) (by kernel_rfl) (fun _ _ _ h => h) (Or.inl ⟨by kernel_rfl, ?_⟩) (by assumption) ?_
      rotate_left 1
      · intro w hSw; (try dsimp only at hSw); go_simp; try (with_reducible rfl)
      try simp only [Act.put, List.getElem_toArray, List.getElem_cons_succ, List.getElem_cons_zero, List.setIfInBounds_toArray, List.set_cons_zero, List.set_cons_succ]
      refine wpAnyH_take (i := 22) (v := ?_) rfl (by kernel_rfl) (by kernel_rfl) (by kernel_rfl) (fun _ _ _ h => h) (Or.inl ⟨by kernel_rfl, ?_⟩) (by assumption) ?_
      rotate_left 1
      · intro w hSw; (try dsimp only at hSw); go_simp; try (with_reducible rfl)
      try simp only [Act.put, List.getElem_toArray, List.getElem_cons_succ, List.getElem_cons_zero, List.setIfInBounds_toArray, List.set_cons_zero, List.set_cons_succ]
      refine wpAnyH_ready (rs := [23]) (by kernel_rfl) (by simp) ?_
      refine AllReadyH.cons rfl (fun K hK => ?_) AllReadyH.nil
      go_simp
      refine (HCS.out _ (F7.out.below hHeld.2) (I7.out.below hHeld.2)).mono ?_
      rintro d wB ⟨ra', rc', rfl, hoB, hbB⟩
      have hS := kp_step hHeld hbB
      refine hK.out _ _ hS (fun hHeld => ?_)
      clear hK K
      try simp only [Act.put, List.getElem_toArray, List.getElem_cons_succ, List.getElem_cons_zero, List.setIfInBounds_toArray, List.set_cons_zero, List.set_cons_succ]
      refine wpAnyH_take (i := 24) (v := ?_) rfl (by kernel_rfl) (by kernel_rfl) (by kernel_rfl) (fun _ _ _ h => h) (Or.inl ⟨by kernel_rfl, ?_⟩) (by assumption) ?_
      rotate_left 1
      · intro w hSw; (try dsimp only at hSw); go_simp; try (with_reducible rfl)
      try simp only [Act.put, List.getElem_toArray, List.getElem_cons_succ, List.getElem_cons_zero, List.setIfInBounds_toArray, List.set_cons_zero, List.set_cons_succ]
      refine wpAnyH_take (i := 25) (v := ?_) rfl (by kernel_rfl) (by kernel_rfl) (by kernel_rfl) (fun _ _ _ h => h) (Or.inl ⟨by kernel_rfl, ?_⟩) (by assumption) ?_
      rotate_left 1
      · intro w hSw; (try dsimp only at hSw); go_simp; try (with_reducible rfl)
      try simp only [Act.put, List.getElem_toArray, List.getElem_cons_succ, List.getElem_cons_zero, List.setIfInBounds_toArray, List.set_cons_zero, List.set_cons_succ]
      refine wpAnyH_take (i := 26) (v := ?_) rfl (by kernel_rfl) (by kernel_rfl) (by kernel_rfl) (fun _ _ _ h => h) (Or.inl ⟨by kernel_rfl, ?_⟩) (by assumption) ?_
      rotate_left 1
      · intro w hSw; (try dsimp only at hSw); go_simp; try (with_reducible rfl)
      try simp only [Act.put, List.getElem_toArray, List.getElem_cons_succ, List.getElem_cons_zero, List.setIfInBounds_toArray, List.set_cons_zero, List.set_cons_succ]
      refine wpAnyH_take (i := 27) (v := ?_) rfl (by kernel_rfl) (by kernel_rfl) (by kernel_rfl) (fun _ _ _ h => h) (Or.inl ⟨by kernel_rfl, ?_⟩) (by assumption) ?_
      rotate_left 1
      · intro w hSw; (try dsimp only at hSw); go_simp; try (with_reducible rfl)
      try simp only [Act.put, List.getElem_toArray, List.getElem_cons_succ, List.getElem_cons_zero, List.setIfInBounds_toArray, List.set_cons_zero, List.set_cons_succ]
      refine wpAnyH_ready (rs := [28]) (by kernel_rfl) (by simp) ?_
      refine AllReadyH.cons rfl (fun K hK => ?_) AllReadyH.nil
      go_simp
      refine hK.out _ _ (by assumption) (fun hHeld => ?_)
      clear hK K
      try simp only [Act.put, List.getElem_toArray, List.getElem_cons_succ, List.getElem_cons_zero, List.setIfInBounds_toArray, List.set_cons_zero, List.set_cons_succ]
      refine wpAnyH_done (by kernel_rfl) ?_ _
      go_wp2
      go_ret
      exact ⟨by simp, F7.out.bl.trans (hHeld.2.mono F7.out.bl.size)⟩
    · have ub : (u != 0) = true := by simp [hu0]
      go_upto_region 7 with fail
      have c0 := F4.out.bx 0 _ rfl
      have c1 := F4.out.bx 1 _ rfl
      have c2 := F4.out.bx 2 _ rfl
      have c3 := F4.out.bx 3 _ rfl
      have c4 := F4.out.bx 4 _ rfl
      have c5 := F4.out.bx 5 _ rfl
      have hCl := F4.out.lt
      have r0 := R4.out.bx 0 _ rfl
      have hTl := R4.out.lt
      refine wp_region_held_drew (S := fun w' => (∀ b o, b < w4.heap.size → w'.cell? ⟨b, o, none⟩ = w4.cell? ⟨b, o, none⟩) ∧ Below w4.heap.size w4 w') (by kernel_rfl) (kp_drew _) (fun hHeld => ?_)
      refine wpAnyH_take (i := 0) (v := ?_) rfl (by kernel_rfl) (by kernel_rfl) (by kernel_rfl) (fun _ _ _ h => h) (Or.inl ⟨by kernel_rfl, ?_⟩) (by assumption) ?_
      rotate_left 1
      · intro w hSw; (try dsimp only at hSw); go_simp; try (with_reducible rfl)
      try simp only [Act.put, List.getElem_toArray, List.getElem_cons_succ, List.getElem_cons_zero, List.setIfInBounds_toArray, List.set_cons_zero, List.set_cons_succ]
      refine wpAnyH_take (i := 1) (v := ?_) rfl (by kernel_rfl) (by kernel_rfl) (by kernel_rfl) (fun _ _ _ h => h) (Or.inl ⟨by kernel_rfl, ?_⟩) (by assumption) ?_
      rotate_left 1
      · intro w hSw; (try dsimp only at hSw); go_simp; try (with_reducible rfl)
      try simp only [Act.put, List.getElem_toArray, List.getElem_cons_succ, List.getElem_cons_zero, List.setIfInBounds_toArray, List.set_cons_zero, List.set_cons_succ]
      refine wpAnyH_take (i := 2) (v := ?_) rfl (by kernel_rfl) (by kernel_rfl) (by kernel_rfl) (fun _ _ _ h => h) (Or.inl ⟨by kernel_rfl, ?_⟩) (by assumption) ?_
      rotate_left 1
      · intro w hSw; (try dsimp only at hSw); go_simp; try (with_reducible rfl)
      try simp only [Act.put, List.getElem_toArray, List.getElem_cons_succ, List.getElem_cons_zero, List.setIfInBounds_toArray, List.set_cons_zero, List.set_cons_succ]
      refine wpAnyH_take (i := 4) (v := ?_) rfl (by kernel_rfl) (by kernel_rfl) (by kernel_rfl) (fun _ _ _ h => h) (Or.inl ⟨by kernel_rfl, ?_⟩) (by assumption) ?_
      rotate_left 1
      · intro w hSw; (try dsimp only at hSw); go_simp; try (with_reducible rfl)
      try simp only [Act.put, List.getElem_toArray, List.getElem_cons_succ, List.getElem_cons_zero, List.setIfInBounds_toArray, List.set_cons_zero, List.set_cons_succ]
      refine wpAnyH_take (i := 5) (v := ?_) rfl (by kernel_rfl) (by kernel_rfl) (by kernel_rfl) (fun _ _ _ h => h) (Or.inl ⟨by kernel_rfl, ?_⟩) (by assumption) ?_
      rotate_left 1
      · intro w hSw; (try dsimp only at hSw); go_simp; try (with_reducible rfl)
      try simp only [Act.put, List.getElem_toArray, List.getElem_cons_succ, List.getElem_cons_zero, List.setIfInBounds_toArray, List.set_cons_zero, List.set_cons_succ]
      refine wpAnyH_take (i := 6) (v := ?_) rfl (by kernel_rfl) (by kernel_rfl) (by kernel_rfl) (fun _ _ _ h => h) (Or.inl ⟨by kernel_rfl, ?_⟩) (by assumption) ?_
      rotate_left 1
      · intro w hSw; (try dsimp only at hSw); go_simp; try (with_reducible rfl)
      try simp only [Act.put, List.getElem_toArray, List.getElem_cons_succ, List.getElem_cons_zero, List.setIfInBounds_toArray, List.set_cons_zero, List.set_cons_succ]
      refine wpAnyH_ready (rs := [3]) (by kernel_rfl) (by simp) ?_
      refine AllReadyH.cons rfl (fun K hK => ?_) AllReadyH.nil
      go_simp
      refine (HVI.out _ (F4.out.below hHeld.2)).mono ?_
      rintro d wA ⟨rfl, hbA⟩
      have hS := kp_step hHeld hbA
      refine hK.out _ _ hS (fun hHeld => ?_)
      clear hK K
      try simp only [Act.put, List.getElem_toArray, List.getElem_cons_succ, List.getElem_cons_zero, List.setIfInBounds_toArray, List.set_cons_zero, List.set_cons_succ]
      refine wpAnyH_ready (rs := [7]) (by kernel_rfl) (by simp) ?_
      refine AllReadyH.cons rfl (fun K hK => ?_) AllReadyH.nil
      go_simp
      refine (HVS.out _ (F4.out.below hHeld.2)).mono ?_
      rintro d wB ⟨rfl, hbB⟩
      have hS := kp_step hHeld hbB
      refine hK.out _ _ hS (fun hHeld => ?_)
      clear hK K
      try simp only [Act.put, List.getElem_toArray, List.getElem_cons_succ, List.getElem_cons_zero, List.setIfInBounds_toArray, List.set_cons_zero, List.set_cons_succ]
      refine wpAnyH_take (i := 8) (v := ?_) rfl (by kernel_rfl) (by kernel_rfl) (by kernel_rfl) (fun _ _ _ h => h) (Or.inl ⟨by kernel_rfl, ?_⟩) (by assumption) ?_
      rotate_left 1
      · intro w hSw; (try dsimp only at hSw); go_simp; try (with_reducible rfl)
      try simp only [Act.put, List.getElem_toArray, List.getElem_cons_succ, List.getElem_cons_zero, List.setIfInBounds_toArray, List.set_cons_zero, List.set_cons_succ]
      refine wpAnyH_take (i := 9) (v := ?_) rfl (by kernel_rfl) (by kernel_rfl) (by kernel_rfl) (fun _ _ _ h => h) (Or.inl ⟨by kernel_rfl, ?_⟩) (by assumption) ?_
      rotate_left 1
      · intro w hSw; (try dsimp only at hSw); go_simp; try (with_reducible rfl)
      try simp only [Act.put, List.getElem_toArray, List.getElem_cons_succ, List.getElem_cons_zero, List.setIfInBounds_toArray, List.set_cons_zero, List.set_cons_succ]
      refine wpAnyH_take (i := 10) (v := ?_) rfl (by kernel_rfl) (by kernel_rfl) (by kernel_rfl) (fun _ _ _ h => h) (Or.inl ⟨by kernel_rfl, ?_⟩) (by assumption) ?_
      rotate_left 1
      · intro w hSw; (try dsimp only at hSw); go_simp; try (with_reducible rfl)
      try simp only [Act.put, List.getElem_toArray, List.getElem_cons_succ, List.getElem_cons_zero, List.setIfInBounds_toArray, List.set_cons_zero, List.set_cons_succ]
      refine wpAnyH_take (i := 11) (v := ?_) rfl (by kernel_rfl) (by kernel_rfl) (by kernel_rfl) (fun _ _ _ h => h) (Or.inl ⟨by kernel_rfl, ?_⟩) (by assumption) ?_
      rotate_left 1
      · intro w hSw; (try dsimp only at hSw); go_simp; try (with_reducible rfl)
      try simp only [Act.put, List.getElem_toArray, List.getElem_cons_succ, List.getElem_cons_zero, List.setIfInBounds_toArray, List.set_cons_zero, List.set_cons_succ]
      refine wpAnyH_take (i := 12) (v := ?_) rfl (by kernel_rfl) (by kernel_rfl) (by kernel_rfl) (fun _ _ _ h => h) (Or.inl ⟨by kernel_rfl, ?_⟩) (by assumption) ?_
      rotate_left 1
      · intro w hSw; (try dsimp only at hSw); go_simp; try (with_reducible rfl)
      try simp only [Act.put, List.getElem_toArray, List.getElem_cons_succ, List.getElem_cons_zero, List.setIfInBounds_toArray, List.set_cons_zero, List.set_cons_succ]
      refine wpAnyH_take (i := 13) (v := ?_) rfl (by kernel_rfl) (by kernel_rfl) (by kernel_rfl) (fun _ _ _ h => h) (Or.inl ⟨by kernel_rfl, ?_⟩) (by assumption) ?_
      rotate_left 1
      · intro w hSw; (try dsimp only at hSw); go_simp; try (with_reducible rfl)
      try simp only [Act.put, List.getElem_toArray, List.getElem_cons_succ, List.getElem_cons_zero, List.setIfInBounds_toArray, List.set_cons_zero, List.set_cons_succ]
      refine wpAnyH_take (i := 14) (v := ?_) rfl (by kernel_rfl) (by kernel_rfl) (by kernel_rfl) (fun _ _ _ h => h) (Or.inl ⟨by kernel_rfl, ?_⟩) (by assumption) ?_
      rotate_left 1
      · intro w hSw; (try dsimp only at hSw); go_simp; try (with_reducible rfl)
      try simp only [Act.put, List.getElem_toArray, List.getElem_cons_succ, List.getElem_cons_zero, List.setIfInBounds_toArray, List.set_cons_zero, List.set_cons_succ]
      refine wpAnyH_ready (rs := [15]) (by kernel_rfl) (by simp) ?_
      refine AllReadyH.cons rfl (fun K hK => ?_) AllReadyH.nil
      go_simp
      refine (HSS.out _ (F4.out.below hHeld.2)).mono ?_
      rintro d wC ⟨ra', rc', rfl, hoC, hbC⟩
      have hS := kp_step hHeld hbC
      refine hK.out _ _ hS (fun hHeld => ?_)
      clear hK K
      try simp only [Act.put, List.getElem_toArray, List.getElem_cons_succ, List.getElem_cons_zero, List.setIfInBounds_toArray, List.set_cons_zero, List.set_cons_succ]
      refine wpAnyH_take (i := 16) (v := ?_) rfl (by kernel_rfl) (by kernel_rfl) (by kernel_rfl) (fun _ _ _ h => h) (Or.inl ⟨by kernel_rfl, ?_⟩) (by assumption) ?_
      rotate_left 1
      · intro w hSw; (try dsimp only at hSw); go_simp; try (with_reducible rfl)
      try simp only [Act.put, List.getElem_toArray, List.getElem_cons_succ, List.getElem_cons_zero, List.setIfInBounds_toArray, List.set_cons_zero, List.set_cons_succ]
      refine wpAnyH_take (i := 17) (v := ?_) rfl (by kernel_rfl) (by kernel_rfl) (by kernel_rfl) (fun _ _ _ h => h) (Or.inl ⟨by kernel_rfl, ?_⟩) (by assumption) ?_
      rotate_left 1
      · intro w hSw; (try dsimp only at hSw); go_simp; try (with_reducible rfl)
      try simp only [Act.put, List.getElem_toArray, List.getElem_cons_succ, List.getElem_cons_zero, List.setIfInBounds_toArray, List.set_cons_zero, List.set_cons_succ]
      refine wpAnyH_take (i := 18) (v := ?_) rfl (by kernel_rfl) (by kernel_rfl) (by kernel_rfl) (fun _ _ _ h => h) (Or.inl ⟨by kernel_rfl, ?_⟩) (by assumption) ?_
      rotate_left 1
      · intro w hSw; (try dsimp only at hSw); go_simp; try (with_reducible rfl)
      try simp only [Act.put, List.getElem_toArray, List.getElem_cons_succ, List.getElem_cons_zero, List.setIfInBounds_toArray, List.set_cons_zero, List.set_cons_succ]
      refine wpAnyH_ready (rs := [19]) (by kernel_rfl) (by simp) ?_
      refine AllReadyH.cons rfl (fun K hK => ?_) AllReadyH.nil
      go_simp
      refine hK.out _ _ (by assumption) (fun hHeld => ?_)
      clear hK K
      try simp only [Act.put, List.getElem_toArray, List.getElem_cons_succ, List.getElem_cons_zero, List.setIfInBounds_toArray, List.set_cons_zero, List.set_cons_succ]
      refine wpAnyH_done (by kernel_rfl) ?_ _
      go_wp2
      go_ret
      exact ⟨by simp, F4.out.bl.trans (hHeld.2.mono F4.out.bl.size)⟩
  · have vb : (v != 0) = true := by simp [hv0]
    go_upto_region 7 with fail
    have c0 := F3.out.bx 0 _ rfl
    have c1 := F3.out.bx 1 _ rfl
    have c2 := F3.out.bx 2 _ rfl
    have c3 := F3.out.bx 3 _ rfl
    have c4 := F3.out.bx 4 _ rfl
    have c5 := F3.out.bx 5 _ rfl
    have hCl := F3.out.lt
    have r0 := R3.out.bx 0 _ rfl
    have hTl := R3.out.lt
    refine wp_region_held_drew (S := fun w' => (∀ b o, b < w3.heap.size → w'.cell? ⟨b, o, none⟩ = w3.cell? ⟨b, o, none⟩) ∧ Below w3.heap.size w3 w') (by kernel_rfl) (kp_drew _) (fun hHeld => ?_)
    refine wpAnyH_take (i := 0) (v := ?_) rfl (by kernel_rfl) (by kernel_rfl) (by kernel_rfl) (fun _ _ _ h => h) (Or.inl ⟨by kernel_rfl, ?_⟩) (by assumption) ?_
    rotate_left 1
    · intro w hSw; (try dsimp only at hSw); go_simp; try (with_reducible rfl)
    try simp only [Act.put, List.getElem_toArray, List.getElem_cons_succ, List.getElem_cons_zero, List.setIfInBounds_toArray, List.set_cons_zero, List.set_cons_succ]
    refine wpAnyH_take (i := 1) (v := ?_) rfl (by kernel_rfl) (by kernel_rfl) (by kernel_rfl) (fun _ _ _ h => h) (Or.inl ⟨by kernel_rfl, ?_⟩) (by assumption) ?_
    rotate_left 1
    · intro w hSw; (try dsimp only at hSw); go_simp; try (with_reducible rfl)
    try simp only [Act.put, List.getElem_toArray, List.getElem_cons_succ, List.getElem_cons_zero, List.setIfInBounds_toArray, List.set_cons_zero, List.set_cons_succ]
    refine wpAnyH_take (i := 2) (v := ?_) rfl (by kernel_rfl) (by kernel_rfl) (by kernel_rfl) (fun _ _ _ h => h) (Or.inl ⟨by kernel_rfl, ?_⟩) (by assumption) ?_
    rotate_left 1
    · intro w hSw; (try dsimp only at hSw); go_simp; try (with_reducible rfl)
    try simp only [Act.put, List.getElem_toArray, List.getElem_cons_succ, List.getElem_cons_zero, List.setIfInBounds_toArray, List.set_cons_zero, List.set_cons_succ]
    refine wpAnyH_take (i := 4) (v := ?_) rfl (by kernel_rfl) (by kernel_rfl) (by kernel_rfl) (fun _ _ _ h => h) (Or.inl ⟨by kernel_rfl, ?_⟩) (by assumption) ?_
    rotate_left 1
    · intro w hSw; (try dsimp only at hSw); go_simp; try (with_reducible rfl)
    try simp only [Act.put, List.getElem_toArray, List.getElem_cons_succ, List.getElem_cons_zero, List.setIfInBounds_toArray, List.set_cons_zero, List.set_cons_succ]
    refine wpAnyH_take (i := 5) (v := ?_) rfl (by kernel_rfl) (by kernel_rfl) (by kernel_rfl) (fun _ _ _ h => h) (Or.inl ⟨by kernel_rfl, ?_⟩) (by assumption) ?_
    rotate_left 1
    · intro w hSw; (try dsimp only at hSw); go_simp; try (with_reducible rfl)
    try simp only [Act.put, List.getElem_toArray, List.getElem_cons_succ, List.getElem_cons_zero, List.setIfInBounds_toArray, List.set_cons_zero, List.set_cons_succ]
    refine wpAnyH_take (i := 6) (v := ?_) rfl (by kernel_rfl) (by kernel_rfl) (by kernel_rfl) (fun _ _ _ h => h) (Or.inl ⟨by kernel_rfl, ?_⟩) (by assumption) ?_
    rotate_left 1
    · intro w hSw; (try dsimp only at hSw); go_simp; try (with_reducible rfl)
    try simp only [Act.put, List.getElem_toArray, List.getElem_cons_succ, List.getElem_cons_zero, List.setIfInBounds_toArray, List.set_cons_zero, List.set_cons_succ]
    refine wpAnyH_ready (rs := [3]) (by kernel_rfl) (by simp) ?_
    refine AllReadyH.cons rfl (fun K hK => ?_) AllReadyH.nil
    go_simp
    refine (HVI.out _ (F3.out.below hHeld.2)).mono ?_
    rintro d wA ⟨rfl, hbA⟩
    have hS := kp_step hHeld hbA
    refine hK.out _ _ hS (fun hHeld => ?_)
    clear hK K
    try simp only [Act.put, List.getElem_toArray, List.getElem_cons_succ, List.getElem_cons_zero, List.setIfInBounds_toArray, List.set_cons_zero, List.set_cons_succ]
    refine wpAnyH_ready (rs := [7]) (by kernel_rfl) (by simp) ?_
    refine AllReadyH.cons rfl (fun K hK => ?_) AllReadyH.nil
    go_simp
    refine (HVS.out _ (F3.out.below hHeld.2)).mono ?_
    rintro d wB ⟨rfl, hbB⟩
    have hS := kp_step hHeld hbB
    refine hK.out _ _ hS (fun hHeld => ?_)
    clear hK K
    try simp only [Act.put, List.getElem_toArray, List.getElem_cons_succ, List.getElem_cons_zero, List.setIfInBounds_toArray, List.set_cons_zero, List.set_cons_succ]
    refine wpAnyH_take (i := 8) (v := ?_) rfl (by kernel_rfl) (by kernel_rfl) (by kernel_rfl) (fun _ _ _ h => h) (Or.inl ⟨by kernel_rfl, ?_⟩) (by assumption) ?_
    rotate_left 1
    · intro w hSw; (try dsimp only at hSw); go_simp; try (with_reducible rfl)
    try simp only [Act.put, List.getElem_toArray, List.getElem_cons_succ, List.getElem_cons_zero, List.setIfInBounds_toArray, List.set_cons_zero, List.set_cons_succ]
    refine wpAnyH_take (i := 9) (v := ?_) rfl (by kernel_rfl) (by kernel_rfl) (by kernel_rfl) (fun _ _ _ h => h) (Or.inl ⟨by kernel_rfl, ?_⟩) (by assumption) ?_
    rotate_left 1
    · intro w hSw; (try dsimp only at hSw); go_simp; try (with_reducible rfl)
    try simp only [Act.put, List.getElem_toArray, List.getElem_cons_succ, List.getElem_cons_zero, List.setIfInBounds_toArray, List.set_cons_zero, List.set_cons_succ]
    refine wpAnyH_take (i := 10) (v := ?_) rfl (by kernel_rfl) (by kernel_rfl) (by kernel_rfl) (fun _ _ _ h => h) (Or.inl ⟨by kernel_rfl, ?_⟩) (by assumption) ?_
    rotate_left 1
    · intro w hSw; (try dsimp only at hSw); go_simp; try (with_reducible rfl)
    try simp only [Act.put, List.getElem_toArray, List.getElem_cons_succ, List.getElem_cons_zero, List.setIfInBounds_toArray, List.set_cons_zero, List.set_cons_succ]
    refine wpAnyH_take (i := 11) (v := ?_) rfl (by kernel_rfl) (by kernel_rfl) (by kernel_rfl) (fun _ _ _ h => h) (Or.inl ⟨by kernel_rfl, ?_⟩) (by assumption) ?_
    rotate_left 1
    · intro w hSw; (try dsimp only at hSw); go_simp; try (with_reducible rfl)
    try simp only [Act.put, List.getElem_toArray, List.getElem_cons_succ, List.getElem_cons_zero, List.setIfInBounds_toArray, List.set_cons_zero, List.set_cons_succ]
    refine wpAnyH_take (i := 12) (v := ?_) rfl (by kernel_rfl) (by kernel_rfl) (by kernel_rfl) (fun _ _ _ h => h) (Or.inl ⟨by kernel_rfl, ?_⟩) (by assumption) ?_
    rotate_left 1
    · intro w hSw; (try dsimp only at hSw); go_simp; try (with_reducible rfl)
    try simp only [Act.put, List.getElem_toArray, List.getElem_cons_succ, List.getElem_cons_zero, List.setIfInBounds_toArray, List.set_cons_zero, List.set_cons_succ]
    refine wpAnyH_take (i := 13) (v := ?_) rfl (by kernel_rfl) (by kernel_rfl) (by kernel_rfl) (fun _ _ _ h => h) (Or.inl ⟨by kernel_rfl, ?_⟩) (by assumption) ?_
    rotate_left 1
    · intro w hSw; (try dsimp only at hSw); go_simp; try (with_reducible rfl)
    try simp only [Act.put, List.getElem_toArray, List.getElem_cons_succ, List.getElem_cons_zero, List.setIfInBounds_toArray, List.set_cons_zero, List.set_cons_succ]
    refine wpAnyH_take (i := 14) (v := ?_) rfl (by kernel_rfl) (by kernel_rfl) (by kernel_rfl) (fun _ _ _ h => h) (Or.inl ⟨by kernel_rfl, ?_⟩) (by assumption) ?_
    rotate_left 1
    · intro w hSw; (try dsimp only at hSw); go_simp; try (with_reducible rfl)
    try simp only [Act.put, List.getElem_toArray, List.getElem_cons_succ, List.getElem_cons_zero, List.setIfInBounds_toArray, List.set_cons_zero, List.set_cons_succ]
    refine wpAnyH_ready (rs := [15]) (by kernel_rfl) (by simp) ?_
    refine AllReadyH.cons rfl (fun K hK => ?_) AllReadyH.nil
    go_simp
    refine (HSS.out _ (F3.out.below hHeld.2)).mono ?_
    rintro d wC ⟨ra', rc', rfl, hoC, hbC⟩
    have hS := kp_step hHeld hbC
    refine hK.out _ _ hS (fun hHeld => ?_)
    clear hK K
    try simp only [Act.put, List.getElem_toArray, List.getElem_cons_succ, List.getElem_cons_zero, List.setIfInBounds_toArray, List.set_cons_zero, List.set_cons_succ]
    refine wpAnyH_take (i := 16) (v := ?_) rfl (by kernel_rfl) (by kernel_rfl) (by kernel_rfl) (fun _ _ _ h => h) (Or.inl ⟨by kernel_rfl, ?_⟩) (by assumption) ?_
    rotate_left 1
    · intro w hSw; (try dsimp only at hSw); go_simp; try (with_reducible rfl)
    try simp only [Act.put, List.getElem_toArray, List.getElem_cons_succ, List.getElem_cons_zero, List.setIfInBounds_toArray, List.set_cons_zero, List.set_cons_succ]
    refine wpAnyH_take (i := 17) (v := ?_) rfl (by kernel_rfl) (by kernel_rfl) (by kernel_rfl) (fun _ _ _ h => h) (Or.inl ⟨by kernel_rfl, ?_⟩) (by assumption) ?_
    rotate_left 1
    · intro w hSw; (try dsimp only at hSw); go_simp; try (with_reducible rfl)
    try simp only [Act.put, List.getElem_toArray, List.getElem_cons_succ, List.getElem_cons_zero, List.setIfInBounds_toArray, List.set_cons_zero, List.set_cons_succ]
    refine wpAnyH_take (i := 18) (v := ?_) rfl (by kernel_rfl) (by kernel_rfl) (by kernel_rfl) (fun _ _ _ h => h) (Or.inl ⟨by kernel_rfl, ?_⟩) (by assumption) ?_
    rotate_left 1
    · intro w hSw; (try dsimp only at hSw); go_simp; try (with_reducible rfl)
    try simp only [Act.put, List.getElem_toArray, List.getElem_cons_succ, List.getElem_cons_zero, List.setIfInBounds_toArray, List.set_cons_zero, List.set_cons_succ]
    refine wpAnyH_ready (rs := [19]) (by kernel_rfl) (by simp) ?_
    refine AllReadyH.cons rfl (fun K hK => ?_) AllReadyH.nil
    go_simp
    refine hK.out _ _ (by assumption) (fun hHeld => ?_)
    clear hK K
    try simp only [Act.put, List.getElem_toArray, List.getElem_cons_succ, List.getElem_cons_zero, List.setIfInBounds_toArray, List.set_cons_zero, List.set_cons_succ]
    refine wpAnyH_done (by kernel_rfl) ?_ _
    go_wp2
    go_ret
    exact ⟨by simp, F3.out.bl.trans (hHeld.2.mono F3.out.bl.size)⟩

end Go.Proofs.Ytdfhebmecbcegaa
