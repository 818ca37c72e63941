/-
  THE LAW laws.FnProofs.
  Conditions: each contract bears its own.
-/
import Derived.Test.YtpeddanicenohaaGreatDz0
import Derived.Test.YtpeddanicenohaaGreatPz10
import Derived.Test.YtpeddanicenohaaGreatBx0
import Derived.Deep.CutBlock
import Derived.Deep.RegionHeld3
import Derived.BigQuiet
namespace Go.Proofs.YtpeddanicenohaaGreat
open Go.RowKit
set_option linter.unusedVariables false
set_option linter.unusedSimpArgs false

theorem fldZ0 (x : Int) (a : Option Addr) (n c : Nat) (w : World) : (Instr.field 31 (.agg #[.int .i64 x, .slice a n c]) 0).run Tryz.prog w = .ok (.int .i64 x) w := by kernel_rfl
theorem fldZ1 (x : Int) (a : Option Addr) (n c : Nat) (w : World) : (Instr.field 41 (.agg #[.int .i64 x, .slice a n c]) 1).run Tryz.prog w = .ok (.slice a n c) w := by kernel_rfl

def roSame (x y o nm : Int) : Bool := x == o && y == nm

theorem roSame_t {x : Int × Int} {o nm : Int} (h : x = (o, nm)) : roSame x.1 x.2 o nm = true := by subst h; simp [roSame]
theorem roSame_f {x : Int × Int} {o nm : Int} (h : ¬ x = (o, nm)) : roSame x.1 x.2 o nm = false := by
  cases e : roSame x.1 x.2 o nm with
  | false => rfl
  | true => simp [roSame] at e; exact absurd (Prod.ext e.1 e.2) h

theorem roleEq_c (x y o nm : Int) (w : World) : (binOp .eql 26 (.agg #[.int .i64 x, .int .i64 y]) (.agg #[.int .i64 o, .int .i64 nm])).run Tryz.prog w = .ok (.bool (roSame x y o nm)) w := by
  unfold roSame
  cases e0 : (x == o)
  · simp [go_sem, e0]
  · cases e1 : (y == nm)
    · simp [go_sem, e0, e1]
    · simp [go_sem, e0, e1]

theorem roleNe_c (x y : Int) (w : World) : (binOp .neq 26 (.agg #[.int .i64 x, .int .i64 y]) (.agg #[.int .i64 x, .int .i64 y])).run Tryz.prog w = .ok (.bool false) w := by
  simp [go_sem]

attribute [local go_sem ↓] fldZ0 fldZ1 roleEq_c roleNe_c

theorem inZ_c (s p : Int) (t : Bool) (h : setB s) (ht : inB s p = t) (w : World) : Calls Tryz.prog 9 #[.int .i64 s, .int .i64 p] w fun e w' => e = .returned (.bool t) ∧ w' = w := by
  rw [← ht]
  exact (implIn_c s p h w).mono fun e w' hh => ⟨hh.1, hh.2.symm⟩

abbrev KZ (W W' : World) : Prop := (∀ b o, b < W.heap.size → W'.cell? ⟨b, o, none⟩ = W.cell? ⟨b, o, none⟩) ∧ Below W.heap.size W W'

/-- What stands: the rules, the role's box, the result's box and its two numbers. -/
structure FZ (w : World) (g n : Nat) (zs : List RuleI) (q : Nat) (o nm : Int) (W : World) : Prop where
  bl : Below w.heap.size w W
  ra : RulesIn W (some ⟨g, 0, none⟩) n zs
  rb : Box2 W q (.int .i64 o) (.int .i64 nm)

theorem FZ.below {w : World} {g n : Nat} {zs : List RuleI} {q : Nat} {o nm : Int} {W W' : World} (h : FZ w g n zs q o nm W) (hb : Below W.heap.size W W') : FZ w g n zs q o nm W' :=
  ⟨h.bl.trans (hb.mono h.bl.size), h.ra.below hb, h.rb.below hb⟩

/-- With the proof's two numbers. -/
structure FY (w : World) (g n : Nat) (zs : List RuleI) (q : Nat) (o nm : Int) (B bl off cap : Nat) (N i : Int) (W : World) : Prop where
  fz : FZ w g n zs q o nm W
  rx : Box2 W B (.int .i64 0) (.slice (some ⟨bl, off, none⟩) 2 cap)
  c0 : W.cell? ⟨bl, off, none⟩ = some (.int .i64 N)
  c1 : W.cell? ⟨bl, off + 1, none⟩ = some (.int .i64 i)

theorem FY.below {w : World} {g n : Nat} {zs : List RuleI} {q : Nat} {o nm : Int} {B bl off cap : Nat} {N i : Int} {W W' : World} (h : FY w g n zs q o nm B bl off cap N i W) (hb : Below W.heap.size W W') : FY w g n zs q o nm B bl off cap N i W' :=
  ⟨h.fz.below hb, h.rx.below hb, (hb.cell (p := ⟨bl, off, none⟩) (World.block_lt_of_cell? W ⟨bl, off, none⟩ h.c0)).trans h.c0, (hb.cell (p := ⟨bl, off + 1, none⟩) (World.block_lt_of_cell? W ⟨bl, off, none⟩ h.c0)).trans h.c1⟩

set_option maxRecDepth 100000 in
set_option maxHeartbeats 16000000 in
theorem proofs_inner (a : Option Addr) (len cap : Nat) (bs : List Int) (w : World) (hl : len ≤ 1048576) (hc : CodeIn w a len bs) :
    Calls Tryz.prog 3 #[.slice a len cap] w fun e w' => e = .returned (.bool true) ∧ Below w.heap.size w w' := by
  have hl' : (len : Int) ≤ 1048576 := by omega
  have HCO : Hid (CodeIn w a len bs) := hc
  clear hc
  go_enter Tryz.func3, Tryz.ntmps3
  go_wp2_with (first | (go_at_call 4; go_in) | fail)
  refine (drawProof_c a len cap bs _ HCO.out hl).mono ?_
  rintro e w1 ⟨g, n, c, zs, o, nm, p, rfl, ⟨hn, hnc, hcm, _⟩, hra, hb1⟩
  obtain ⟨d, ls, b, hI, hS, hB, hbad, hok⟩ := proof_law g n c zs (o, nm) p hn hnc hcm hra.1
  obtain ⟨W1, hW1⟩ : ∃ W1, W1 = w1.alloc (.cells #[.int .i64 o, .int .i64 nm] 26) := ⟨_, rfl⟩
  have A1 : Below w1.heap.size w1 W1 := by rw [hW1]; exact (Below.refl _ _).alloc (Nat.le_refl _) _
  have F1 : Hid (FZ w g n zs w1.heap.size o nm W1) := ⟨hb1.trans (A1.mono hb1.size), hra.below A1, by rw [hW1]; exact Box2.new _ _ _ _⟩
  have HI : Hid (∀ w : World, RulesIn w (some ⟨g, 0, none⟩) n zs → Calls Tryz.prog 6 #[.slice (some ⟨g, 0, none⟩) n c, .agg #[.int .i64 o, .int .i64 nm], .int .i64 p] w fun e w' => ∃ (a' : Option Addr) (cap' : Nat), e = .returned (.agg #[.int .i64 d, .slice a' ls.length cap']) ∧ w'.ownsRow w.heap.size 2 1 (.slice a' ls.length cap') ls.length (ls.map (Value.int .i64)) ∧ Below w.heap.size w w') := hI
  have HS : Hid (∀ w : World, RulesIn w (some ⟨g, 0, none⟩) n zs → Calls Tryz.prog 7 #[.slice (some ⟨g, 0, none⟩) n c, .agg #[.int .i64 o, .int .i64 nm], .int .i64 p] w fun e w' => ∃ (a' : Option Addr) (cap' : Nat), e = .returned (.agg #[.int .i64 d, .slice a' ls.length cap']) ∧ w'.ownsRow w.heap.size 2 1 (.slice a' ls.length cap') ls.length (ls.map (Value.int .i64)) ∧ Below w.heap.size w w') := hS
  have HB : Hid (∀ w : World, RulesIn w (some ⟨g, 0, none⟩) n zs → Calls Tryz.prog 8 #[.slice (some ⟨g, 0, none⟩) n c, .agg #[.int .i64 o, .int .i64 nm], .int .i64 p] w fun e w' => e = .returned (.bool b) ∧ Below w.heap.size w w') := hB
  have HBAD : Hid (d ≠ 0 → b = false ∧ ls = []) := hbad
  have HOK : Hid (d = 0 → b = true ∧ polCode zs = 0 ∧ (1 ≤ p ∧ p ≤ 8) ∧ ∃ (N i : Nat) (z : RuleI), ls = [(N : Int) + 1, (i : Int)] ∧ N ≤ 320 ∧ zs[i]? = some z ∧ (z.ho, z.hn) = (o, nm) ∧ (∀ k, k ≤ N → hasI (ofG (itG zs k) (o, nm)) p = false) ∧ hasI (ofG (itG zs (N + 1)) (o, nm)) p = true) := hok
  clear HCO hra hb1 A1 hI hS hB hbad hok
  go_wp2_with fail
  rw [← hW1]
  clear hW1
  refine (HI.out _ F1.out.ra).mono ?_
  rintro e w2 ⟨a2, cap2, rfl, hown2, hb2⟩
  obtain ⟨W, hW⟩ : ∃ W, W = w2.alloc (.cells #[.int .i64 d, .slice a2 ls.length cap2] 31) := ⟨_, rfl⟩
  have A2 : Below w2.heap.size w2 W := by rw [hW]; exact (Below.refl _ _).alloc (Nat.le_refl _) _
  have F2 : Hid (FZ w g n zs w1.heap.size o nm W) := (F1.out.below hb2).below A2
  have X2 : Hid (Box2 W w2.heap.size (.int .i64 d) (.slice a2 ls.length cap2)) := by rw [hW]; exact Box2.new _ _ _ _
  have R2 : Hid (RowIn W a2 ls.length ls) := (row_of_owns hown2).below A2
  clear hown2 hb2 A2 F1 HI
  go_upto_region 5 with fail
  rw [← hW]
  clear hW
  obtain ⟨x0, x1⟩ := X2.out
  obtain ⟨y0, y1⟩ := F2.out.rb
  have hlx := X2.out.lt
  have hly := F2.out.rb.lt
  by_cases hd0 : d = 0
  · obtain ⟨rfl, hpol, hp, N, i, z, hls, hN, hzi, hzr, hnone, hsome⟩ := HOK.out hd0
    subst hd0
    have hll : ls.length = 2 := by rw [hls]; rfl
    rw [hll] at x1 X2 R2 ⊢
    obtain ⟨bl, off, rfl, c0⟩ := R2.out.2 0 (by omega)
    obtain ⟨bl', off', e', c1⟩ := R2.out.2 1 (by omega)
    cases e'
    rw [hls] at c0 c1
    simp only [List.getElem?_cons_zero, List.getElem?_cons_succ, Option.getD_some, Nat.add_zero] at c0 c1
    have hin : i < n := by
      have h1 := F2.out.ra.1
      have h2 : i < zs.length := by
        by_cases q : i < zs.length
        · exact q
        · rw [List.getElem?_eq_none (by omega)] at hzi; cases hzi
      omega
    obtain ⟨bg, og, z', eg, hz', hr⟩ := F2.out.ra.at hin
    cases eg
    rw [hzi] at hz'
    cases hz'
    obtain ⟨rfl, rfl⟩ := Prod.mk.inj hzr
    have hbl := World.block_lt_of_cell? W ⟨bl, off, none⟩ c0
    have hgl : g < W.heap.size := World.block_lt_of_cell? W ⟨g, _, none⟩ hr.1
    obtain ⟨m0, m1, m2, m3, m4, m5, m6, m7⟩ := hr
    simp only [Nat.zero_add] at m1 m2
    have hok1 : ∀ z ∈ zs, okR z := fun z q => ((pol_ok hpol).2 z q).1
    have HSG : Hid (∀ k, SG (itG zs k)) := fun k => sg_it hok1 k
    have HNO : Hid (∀ k, k ≤ N → hasI (ofG (itG zs k) (z.ho, z.hn)) p = false) := hnone
    have HYE : Hid (foundB (itG zs (N + 1)) (z.ho, z.hn) p = true) := grants_some (sg_it hok1 _) hp hsome
    have HPOL : Hid (polCode zs = 0) := hpol
    have hN' : (N : Int) ≤ 320 := by omega
    have hi' : (i : Int) < (n : Int) := by omega
    have hn' : (n : Int) ≤ 17 := by omega
    have b1 : decide ((N : Int) + 1 < 1) = false := decide_eq_false (by omega)
    have b2 : decide ((2000 : Int) < (N : Int) + 1) = false := decide_eq_false (by omega)
    have b3 : decide ((i : Int) < 0) = false := decide_eq_false (by omega)
    have b4 : decide ((n : Int) ≤ (i : Int)) = false := decide_eq_false (by omega)
    have Y0 : Hid (FY w g n zs w1.heap.size z.ho z.hn w2.heap.size bl off cap2 ((N : Int) + 1) (i : Int) W) := ⟨F2.out, X2.out, c0, c1⟩
    clear HOK HBAD HS R2 X2 F2 hls hll hzi hzr hnone hsome hpol m0 m3 m4 m5 m6 m7
    go_upto_region 7 with fail
    go_quiet (fail)
    obtain ⟨V, hV⟩ : ∃ V, V = (W.drewN nq).alloc (.cells #[] 38) := ⟨_, rfl⟩
    have YV : Hid (FY w g n zs w1.heap.size z.ho z.hn w2.heap.size bl off cap2 ((N : Int) + 1) (i : Int) V) := by
      rw [hV]
      exact (Y0.out.below (below_drewN (Below.refl _ _) _)).below ((Below.refl _ _).alloc (Nat.le_refl _) _)
    clear Y0 x0 x1 y0 y1 hlx hly c0 c1 hbl hgl m1 m2 b1 b2 b3 b4
    go_wp2_with fail
    rw [← hV]
    clear hV
    have b5 : decide (n ≤ i) = false := decide_eq_false (by omega)
    try simp only [b5]
    clear b5
    go_loopw [7, 8] (fun v k wr => ∃ j : Nat, j ≤ N + 1 ∧ k = .int .i64 (j : Int) ∧ Hid (∃ (ga : Option Addr) (m cp : Nat), v = .slice ga m cp ∧ m ≤ 40 ∧ GrIn wr ga m (itG zs j) ∧ FY w g n zs w1.heap.size z.ho z.hn w2.heap.size bl off cap2 ((N : Int) + 1) (i : Int) wr)) (fun _ k _ => N + 1 - (intOf k).toNat)
    case atStart => exact ⟨0, by omega, rfl, _, 0, 0, rfl, by omega, ⟨rfl, fun h => by omega⟩, YV.out⟩
    case round =>
      obtain ⟨j, hj, rfl, HJ⟩ := hrel
      obtain ⟨ga, m, cp, hv, hm, hgr, hY⟩ := HJ.out
      subst hv
      have YJ : Hid (FY w g n zs w1.heap.size z.ho z.hn w2.heap.size bl off cap2 ((N : Int) + 1) (i : Int) wr) := hY
      have GJ : Hid (GrIn wr ga m (itG zs j)) := hgr
      clear hgr hY HJ YV
      obtain ⟨x0, x1⟩ := YJ.out.rx
      have c0 := YJ.out.c0
      have hlx := YJ.out.rx.lt
      have hlb := World.block_lt_of_cell? wr ⟨bl, off, none⟩ c0
      obtain ⟨y0, y1⟩ := YJ.out.fz.rb
      have hly := YJ.out.fz.rb.lt
      have hm' : (m : Int) ≤ 40 := by omega
      by_cases hjN : j < N + 1
      · have hjN' : (j : Int) < (N : Int) + 1 := by omega
        go_wp2_with fail
        clear x0 x1 c0 hlx hlb
        go_loopw [9] (fun v wx => ∃ i' : Nat, i' ≤ m ∧ v = .int .i64 (i' : Int) ∧ ∃ q, wx = wr.drewN q) (fun v _ => m - (intOf v).toNat)
        case atStart => exact ⟨0, by omega, rfl, 0, rfl⟩
        case round =>
          obtain ⟨i', hi', rfl, q, rfl⟩ := hrel
          by_cases hlt : i' < m
          · have hlt' : (i' : Int) < (m : Int) := by omega
            obtain ⟨b, of', x, e, hx, hat, hb⟩ := GJ.out.at hlt
            subst e
            obtain ⟨d0, d1, d2⟩ := hat
            have hset : setB x.2 := by have h1 := ofG_mem (HSG.out j) (List.mem_of_getElem? hx); rw [← h1]; exact ofG_set (HSG.out j) _
            by_cases hrr : x.1 = (z.ho, z.hn)
            · have HIN : Hid (∀ w', Calls Tryz.prog 9 #[.int .i64 x.2, .int .i64 p] w' fun e w'' => e = .returned (.bool false) ∧ w'' = w') := inZ_c x.2 p false hset (grants_none (HSG.out j) (HNO.out j (by omega)) x (List.mem_of_getElem? hx) hrr)
              have hdx : roSame x.1.1 x.1.2 z.ho z.hn = true := roSame_t hrr
              clear hx hset hrr
              go_wp2
              go_quiet ((go_at_call 9; exact (HIN.out _).mono fun e w'' hh => ⟨hh.1, _, hh.2⟩))
              go_wp2
              exact ⟨⟨i' + 1, by omega, by go_num, _, rfl⟩, by simp [intOf]; omega⟩
            · have hdx : roSame x.1.1 x.1.2 z.ho z.hn = false := roSame_f hrr
              clear hx hset hrr
              go_wp2
              go_quiet (fail)
              go_wp2
              exact ⟨⟨i' + 1, by omega, by go_num, _, rfl⟩, by simp [intOf]; omega⟩
          · have hlt' : ¬ ((i' : Int) < (m : Int)) := by omega
            have BD : Below wr.heap.size wr (wr.drewN q) := below_drewN (Below.refl _ _) _
            obtain ⟨G, hG⟩ : ∃ G, stepG zs (itG zs j) = G := ⟨_, rfl⟩
            have HST : Hid (Calls Tryz.prog 10 #[.slice (some ⟨g, 0, none⟩) n c, .slice ga m cp] (wr.drewN q) fun e w' => ∃ (a' : Option Addr) (cap' : Nat), e = .returned (.agg #[.int .i64 0, .slice a' G.length cap']) ∧ Own3 w' (wr.drewN q).heap.size (.slice a' G.length cap') G ∧ Below (wr.drewN q).heap.size (wr.drewN q) w') := by
              rw [← hG]
              exact implStep_ok (some ⟨g, 0, none⟩) n c zs ga m cp (itG zs j) (wr.drewN q) (YJ.out.fz.ra.below BD) (GJ.out.below BD) hnc hcm HPOL.out (sg_gf (HSG.out j))
            have HGE : Hid (itG zs (j + 1) = G) := hG
            have HG40 : Hid (G.length ≤ 40) := by rw [← hG]; exact sg_len (HSG.out (j + 1))
            clear hG
            go_wp2_with fail
            refine HST.out.mono ?_
            rintro e w5 ⟨a5, cap5, rfl, hown5, hb5⟩
            have HR : Hid (∃ (ga : Option Addr) (m cp : Nat), Value.slice a5 G.length cap5 = .slice ga m cp ∧ m ≤ 40 ∧ GrIn w5 ga m (itG zs (j + 1)) ∧ FY w g n zs w1.heap.size z.ho z.hn w2.heap.size bl off cap2 ((N : Int) + 1) (i : Int) w5) := by
              refine ⟨a5, G.length, cap5, rfl, HG40.out, ?_, (YJ.out.below BD).below hb5⟩
              rw [HGE.out]
              rcases hown5.form with ⟨e1, e2⟩ | ⟨g5, cp5, e1, _⟩
              · rw [e2]; exact ⟨rfl, fun h => by simp at h⟩
              · simp only [Value.slice.injEq] at e1
                obtain ⟨e1, _, e3⟩ := e1
                subst e1 e3
                exact hown5.read rfl
            clear hown5 hb5 HST BD
            go_wp2
            exact ⟨⟨j + 1, by omega, by go_num, HR⟩, by simp [intOf]; omega⟩
      · have hje : j = N + 1 := by omega
        have hjN' : ¬ ((j : Int) < (N : Int) + 1) := by omega
        have HJE : Hid (itG zs j = itG zs (N + 1)) := by rw [hje]; exact rfl
        rw [HJE.out] at GJ
        clear hje HJE
        go_wp2_with fail
        clear x0 x1 c0 hlx hlb
        go_loopw [10, 11] (fun f v wx => ∃ (i' : Nat) (fb : Bool), i' ≤ m ∧ v = .int .i64 (i' : Int) ∧ f = .bool fb ∧ Hid (foundB ((itG zs (N + 1)).take i') (z.ho, z.hn) p = fb) ∧ ∃ q, wx = wr.drewN q) (fun _ v _ => m - (intOf v).toNat)
        case atStart => exact ⟨0, false, by omega, rfl, rfl, by show foundB _ _ _ = false; simp [foundB], 0, rfl⟩
        case round =>
          obtain ⟨i', fb, hi', rfl, rfl, HFB, q, rfl⟩ := hrel
          by_cases hlt : i' < m
          · have hlt' : (i' : Int) < (m : Int) := by omega
            obtain ⟨b, of', x, e, hx, hat, hb⟩ := GJ.out.at hlt
            subst e
            obtain ⟨d0, d1, d2⟩ := hat
            have hset : setB x.2 := by have h1 := ofG_mem (HSG.out (N + 1)) (List.mem_of_getElem? hx); rw [← h1]; exact ofG_set (HSG.out (N + 1)) _
            have HNX := found_take (z.ho, z.hn) p hx
            rw [HFB.out] at HNX
            cases fb
            · by_cases hrr : x.1 = (z.ho, z.hn)
              · obtain ⟨t, ht⟩ : ∃ t, inB x.2 p = t := ⟨_, rfl⟩
                have HIN : Hid (∀ w', Calls Tryz.prog 9 #[.int .i64 x.2, .int .i64 p] w' fun e w'' => e = .returned (.bool t) ∧ w'' = w') := inZ_c x.2 p t hset ht
                have hdx : roSame x.1.1 x.1.2 z.ho z.hn = true := roSame_t hrr
                have HF2 : Hid (foundB ((itG zs (N + 1)).take (i' + 1)) (z.ho, z.hn) p = t) := by
                  show _ = t
                  rw [HNX, ht, decide_eq_true hrr]; simp
                clear hx hset hrr HNX HFB ht
                go_wp2
                go_quiet ((go_at_call 9; exact (HIN.out _).mono fun e w'' hh => ⟨hh.1, _, hh.2⟩))
                go_wp2
                exact ⟨⟨i' + 1, t, by omega, by go_num, rfl, HF2, _, rfl⟩, by simp [intOf]; omega⟩
              · have hdx : roSame x.1.1 x.1.2 z.ho z.hn = false := roSame_f hrr
                have HF2 : Hid (foundB ((itG zs (N + 1)).take (i' + 1)) (z.ho, z.hn) p = false) := by
                  show _ = false
                  rw [HNX, decide_eq_false hrr]; simp
                clear hx hset hrr HNX HFB
                go_wp2
                go_quiet (fail)
                go_wp2
                exact ⟨⟨i' + 1, false, by omega, by go_num, rfl, HF2, _, rfl⟩, by simp [intOf]; omega⟩
            · have HF2 : Hid (foundB ((itG zs (N + 1)).take (i' + 1)) (z.ho, z.hn) p = true) := by
                show _ = true
                rw [HNX]; simp
              clear hx hset HNX HFB d0 d1 d2
              go_wp2
              go_quiet (fail)
              go_wp2
              exact ⟨⟨i' + 1, true, by omega, by go_num, rfl, HF2, _, rfl⟩, by simp [intOf]; omega⟩
          · have hlt' : ¬ ((i' : Int) < (m : Int)) := by omega
            have hfb : fb = true := by
              have h1 := HFB.out
              rw [List.take_of_length_le (by rw [GJ.out.1]; omega), HYE.out] at h1
              exact h1.symm
            subst hfb
            have BD : Below wr.heap.size wr (wr.drewN q) := below_drewN (Below.refl _ _) _
            have HHB : Hid (Calls Tryz.prog 8 #[.slice (some ⟨g, 0, none⟩) n c, .agg #[.int .i64 z.ho, .int .i64 z.hn], .int .i64 p] (wr.drewN q) fun e w'' => e = .returned (.bool true) ∧ Below (wr.drewN q).heap.size (wr.drewN q) w'') := HB.out (wr.drewN q) (YJ.out.fz.ra.below BD)
            go_wp2_with fail
            refine HHB.out.mono ?_
            rintro e w6 ⟨rfl, hb6⟩
            have B6 : Hid (Below w.heap.size w w6) := ((YJ.out.fz.below BD).below hb6).bl
            clear hb6 BD HHB y0 y1 hly
            go_wp2
            go_ret
            exact ⟨rfl, B6.out⟩
  · have db : (d != 0) = true := by simp [hd0]
    have dd : (d == d) = true := by simp
    obtain ⟨rfl, rfl⟩ := HBAD.out hd0
    have HSP : Hid (∀ w' : World, KZ W w' → Calls Tryz.prog 7 #[.slice (some ⟨g, 0, none⟩) n c, .agg #[.int .i64 o, .int .i64 nm], .int .i64 p] w' fun e w'' => ∃ (a' : Option Addr) (cap' : Nat), e = .returned (.agg #[.int .i64 d, .slice a' 0 cap']) ∧ True ∧ Below w'.heap.size w' w'') := fun w' q => (HS.out w' (F2.out.ra.below q.2)).mono fun e w'' hh => by
      obtain ⟨a', cap', h1, _, h3⟩ := hh
      exact ⟨a', cap', h1, trivial, h3⟩
    have HHB : Hid (∀ w' : World, KZ W w' → Calls Tryz.prog 8 #[.slice (some ⟨g, 0, none⟩) n c, .agg #[.int .i64 o, .int .i64 nm], .int .i64 p] w' fun e w'' => e = .returned (.bool false) ∧ Below w'.heap.size w' w'') := fun w' q => HB.out w' (F2.out.ra.below q.2)
    clear hd0 HOK HBAD HS HB R2
    go_upto_region 6 with fail
    refine wp_region_held_drew (S := fun w' => KZ W w') (by kernel_rfl) (kp_drew _) (fun hHeld => ?_)
    refine wpAnyH_take (i := 0) (v := ?_) rfl (by kernel_rfl) (by kernel_rfl) (by kernel_rfl) (fun _ _ _ h => h) (Or.inl ⟨by kernel_rfl, ?_⟩) (by assumption) ?_
    rotate_left 1
    · intro w hSw; (try dsimp only at hSw); go_simp; try (with_reducible rfl)
    try simp only [Act.put, List.getElem_toArray, List.getElem_cons_succ, List.getElem_cons_zero, List.setIfInBounds_toArray, List.set_cons_zero, List.set_cons_succ]
    refine wpAnyH_take (i := 1) (v := ?_) rfl (by kernel_rfl) (by kernel_rfl) (by kernel_rfl) (fun _ _ _ h => h) (Or.inl ⟨by kernel_rfl, ?_⟩) (by assumption) ?_
    rotate_left 1
    · intro w hSw; (try dsimp only at hSw); go_simp; try (with_reducible rfl)
    try simp only [Act.put, List.getElem_toArray, List.getElem_cons_succ, List.getElem_cons_zero, List.setIfInBounds_toArray, List.set_cons_zero, List.set_cons_succ]
    refine wpAnyH_take (i := 2) (v := ?_) rfl (by kernel_rfl) (by kernel_rfl) (by kernel_rfl) (fun _ _ _ h => h) (Or.inl ⟨by kernel_rfl, ?_⟩) (by assumption) ?_
    rotate_left 1
    · intro w hSw; (try dsimp only at hSw); go_simp; try (with_reducible rfl)
    try simp only [Act.put, List.getElem_toArray, List.getElem_cons_succ, List.getElem_cons_zero, List.setIfInBounds_toArray, List.set_cons_zero, List.set_cons_succ]
    refine wpAnyH_take (i := 5) (v := ?_) rfl (by kernel_rfl) (by kernel_rfl) (by kernel_rfl) (fun _ _ _ h => h) (Or.inl ⟨by kernel_rfl, ?_⟩) (by assumption) ?_
    rotate_left 1
    · intro w hSw; (try dsimp only at hSw); go_simp; try (with_reducible rfl)
    try simp only [Act.put, List.getElem_toArray, List.getElem_cons_succ, List.getElem_cons_zero, List.setIfInBounds_toArray, List.set_cons_zero, List.set_cons_succ]
    refine wpAnyH_take (i := 6) (v := ?_) rfl (by kernel_rfl) (by kernel_rfl) (by kernel_rfl) (fun _ _ _ h => h) (Or.inl ⟨by kernel_rfl, ?_⟩) (by assumption) ?_
    rotate_left 1
    · intro w hSw; (try dsimp only at hSw); go_simp; try (with_reducible rfl)
    try simp only [Act.put, List.getElem_toArray, List.getElem_cons_succ, List.getElem_cons_zero, List.setIfInBounds_toArray, List.set_cons_zero, List.set_cons_succ]
    refine wpAnyH_ready (rs := [3]) (by kernel_rfl) (by simp) ?_
    refine AllReadyH.cons rfl (fun K hK => ?_) AllReadyH.nil
    go_simp
    refine (HSP.out _ hHeld).mono ?_
    rintro e wA ⟨aa, cc, rfl, _, hbA⟩
    have hS := kp_step hHeld hbA
    refine hK.out _ _ hS (fun hHeld => ?_)
    clear hK K
    try simp only [Act.put, List.getElem_toArray, List.getElem_cons_succ, List.getElem_cons_zero, List.setIfInBounds_toArray, List.set_cons_zero, List.set_cons_succ]
    refine wpAnyH_take (i := 4) (v := ?_) rfl (by kernel_rfl) (by kernel_rfl) (by kernel_rfl) (fun _ _ _ h => h) (Or.inl ⟨by kernel_rfl, ?_⟩) (by assumption) ?_
    rotate_left 1
    · intro w hSw; (try dsimp only at hSw); go_simp; try (with_reducible rfl)
    try simp only [Act.put, List.getElem_toArray, List.getElem_cons_succ, List.getElem_cons_zero, List.setIfInBounds_toArray, List.set_cons_zero, List.set_cons_succ]
    refine wpAnyH_take (i := 7) (v := ?_) rfl (by kernel_rfl) (by kernel_rfl) (by kernel_rfl) (fun _ _ _ h => h) (Or.inl ⟨by kernel_rfl, ?_⟩) (by assumption) ?_
    rotate_left 1
    · intro w hSw; (try dsimp only at hSw); go_simp; try (with_reducible rfl)
    try simp only [Act.put, List.getElem_toArray, List.getElem_cons_succ, List.getElem_cons_zero, List.setIfInBounds_toArray, List.set_cons_zero, List.set_cons_succ]
    refine wpAnyH_take (i := 8) (v := ?_) rfl (by kernel_rfl) (by kernel_rfl) (by kernel_rfl) (fun _ _ _ h => h) (Or.inl ⟨by kernel_rfl, ?_⟩) (by assumption) ?_
    rotate_left 1
    · intro w hSw; (try dsimp only at hSw); go_simp; try (with_reducible rfl)
    try simp only [Act.put, List.getElem_toArray, List.getElem_cons_succ, List.getElem_cons_zero, List.setIfInBounds_toArray, List.set_cons_zero, List.set_cons_succ]
    refine wpAnyH_take (i := 9) (v := ?_) rfl (by kernel_rfl) (by kernel_rfl) (by kernel_rfl) (fun _ _ _ h => h) (Or.inl ⟨by kernel_rfl, ?_⟩) (by assumption) ?_
    rotate_left 1
    · intro w hSw; (try dsimp only at hSw); go_simp; try (with_reducible rfl)
    try simp only [Act.put, List.getElem_toArray, List.getElem_cons_succ, List.getElem_cons_zero, List.setIfInBounds_toArray, List.set_cons_zero, List.set_cons_succ]
    refine wpAnyH_take (i := 10) (v := ?_) rfl (by kernel_rfl) (by kernel_rfl) (by kernel_rfl) (fun _ _ _ h => h) (Or.inl ⟨by kernel_rfl, ?_⟩) (by assumption) ?_
    rotate_left 1
    · intro w hSw; (try dsimp only at hSw); go_simp; try (with_reducible rfl)
    try simp only [Act.put, List.getElem_toArray, List.getElem_cons_succ, List.getElem_cons_zero, List.setIfInBounds_toArray, List.set_cons_zero, List.set_cons_succ]
    refine wpAnyH_take (i := 11) (v := ?_) rfl (by kernel_rfl) (by kernel_rfl) (by kernel_rfl) (fun _ _ _ h => h) (Or.inl ⟨by kernel_rfl, ?_⟩) (by assumption) ?_
    rotate_left 1
    · intro w hSw; (try dsimp only at hSw); go_simp; try (with_reducible rfl)
    try simp only [Act.put, List.getElem_toArray, List.getElem_cons_succ, List.getElem_cons_zero, List.setIfInBounds_toArray, List.set_cons_zero, List.set_cons_succ]
    refine wpAnyH_ready (rs := [12]) (by kernel_rfl) (by simp) ?_
    refine AllReadyH.cons rfl (fun K hK => ?_) AllReadyH.nil
    go_simp
    refine (HHB.out _ hHeld).mono ?_
    rintro e wB ⟨rfl, hbB⟩
    have hS := kp_step hHeld hbB
    refine hK.out _ _ hS (fun hHeld => ?_)
    clear hK K
    try simp only [Act.put, List.getElem_toArray, List.getElem_cons_succ, List.getElem_cons_zero, List.setIfInBounds_toArray, List.set_cons_zero, List.set_cons_succ]
    refine wpAnyH_take (i := 13) (v := ?_) rfl (by kernel_rfl) (by kernel_rfl) (by kernel_rfl) (fun _ _ _ h => h) (Or.inl ⟨by kernel_rfl, ?_⟩) (by assumption) ?_
    rotate_left 1
    · intro w hSw; (try dsimp only at hSw); go_simp; try (with_reducible rfl)
    try simp only [Act.put, List.getElem_toArray, List.getElem_cons_succ, List.getElem_cons_zero, List.setIfInBounds_toArray, List.set_cons_zero, List.set_cons_succ]
    refine wpAnyH_take (i := 14) (v := ?_) rfl (by kernel_rfl) (by kernel_rfl) (by kernel_rfl) (fun _ _ _ h => h) (Or.inl ⟨by kernel_rfl, ?_⟩) (by assumption) ?_
    rotate_left 1
    · intro w hSw; (try dsimp only at hSw); go_simp; try (with_reducible rfl)
    try simp only [Act.put, List.getElem_toArray, List.getElem_cons_succ, List.getElem_cons_zero, List.setIfInBounds_toArray, List.set_cons_zero, List.set_cons_succ]
    refine wpAnyH_ready (rs := [15]) (by kernel_rfl) (by simp) ?_
    refine AllReadyH.cons rfl (fun K hK => ?_) AllReadyH.nil
    go_simp
    refine hK.out _ _ (by assumption) (fun hHeld => ?_)
    clear hK K
    try simp only [Act.put, List.getElem_toArray, List.getElem_cons_succ, List.getElem_cons_zero, List.setIfInBounds_toArray, List.set_cons_zero, List.set_cons_succ]
    refine wpAnyH_done (by kernel_rfl) ?_ _
    go_wp2
    go_ret
    exact ⟨rfl, F2.out.bl.trans (hHeld.2.mono F2.out.bl.size)⟩

end Go.Proofs.YtpeddanicenohaaGreat
