/- Contracts. -/
import Derived.Test.YtlpgapdlepbgbaaGreatDoorPq48
import Derived.Test.YtlpgapdlepbgbaaGreatDoorPq50
namespace Go.Proofs.YtlpgapdlepbgbaaGreatDoor
set_option maxRecDepth 100000
set_option maxHeartbeats 8000000
open Go.RowKit
set_option linter.unusedVariables false
set_option linter.unusedSimpArgs false

theorem enCode_same {E : qH3} {cs ds : List qA4} {w : World} {L : Nat} {r y : qG5} (x : StI) (h : SameCs cs ds) (hy : RepNew w L r y) : enCode E ds y x = enCode E cs r x := by
 unfold enCode
 rw [repCode_same h hy, hy.ss, hy.ls]
theorem newNil {w : World} {L : Nat} {r y : qG5} (h : RepNew w L r y) : RepNil y := by
 obtain ⟨g, e, _⟩ := h.la
 exact ⟨fun q => absurd (h.sa.symm.trans q) (by simp), fun q => absurd (e.symm.trans q) (by simp)⟩
theorem newAt {w : World} {L : Nat} {r y : qG5} (h : RepNew w L r y) : ∀ p, y.la = some p → ∃ b0 o0, p = ⟨b0, o0, none⟩ ∧ b0 < w.heap.size := fun p q => by
 obtain ⟨g, e, _, hg, _⟩ := h.la
 rw [e] at q
 cases q
 exact ⟨g, 0, rfl, hg⟩
structure RX (w : World) (r : qG5) (a : Option Addr) (n : Nat) (cs : List qA4) (x : StI) (W : World) : Prop where
 rf : RF w r a n cs W
 sx : BoxV (w.heap.size + 1) [.int .i64 x.k, .int .i64 x.e, .int .i64 x.f, .int .i64 x.s, .int .i64 x.n] W
 lt : w.heap.size + 1 < W.heap.size
theorem RX.below {w : World} {r : qG5} {a : Option Addr} {n : Nat} {cs : List qA4} {x : StI} {W W' : World} (h : RX w r a n cs x W) (hb : Below W.heap.size W W') : RX w r a n cs x W' :=
 ⟨h.rf.below hb, ((BoxV.hold h.sx h.lt).below hb).out, Nat.lt_of_lt_of_le h.lt hb.size⟩
theorem RX.new (w : World) (r : qG5) (a : Option Addr) (n : Nat) (cs : List qA4) (x : StI) (hr : qD5 w r) (hc : qA6 w a n cs) (hE : ErrAt 0 w ∧ qD7 w) : RX w r a n cs x ((w.alloc (.cells #[.int .i64 r.i, .int .i64 r.u, .slice r.sa r.sn r.sc, .slice r.la r.ln r.lc] 25)).alloc (.cells #[.int .i64 x.k, .int .i64 x.e, .int .i64 x.f, .int .i64 x.s, .int .i64 x.n] 41)) := by
 have A0 : Below w.heap.size w ((w.alloc (.cells #[.int .i64 r.i, .int .i64 r.u, .slice r.sa r.sn r.sc, .slice r.la r.ln r.lc] 25)).alloc (.cells #[.int .i64 x.k, .int .i64 x.e, .int .i64 x.f, .int .i64 x.s, .int .i64 x.n] 41)) := (zN).alloc (by simp) _
 refine ⟨⟨A0, by simp only [World.size_alloc]; omega, ?_, hr.below A0, hc.below A0, hE.1.below A0, hE.2.below A0⟩, ?_, by simp⟩
 ·exact ((qE5 w #[.int .i64 r.i, .int .i64 r.u, .slice r.sa r.sn r.sc, .slice r.la r.ln r.lc] 25).alloc _).out
 ·have q := (qE5 (w.alloc (.cells #[.int .i64 r.i, .int .i64 r.u, .slice r.sa r.sn r.sc, .slice r.la r.ln r.lc] 25)) #[.int .i64 x.k, .int .i64 x.e, .int .i64 x.f, .int .i64 x.s, .int .i64 x.n] 41).out
  simp only [World.size_alloc] at q
  exact q
theorem mayEndorse_inner (r : qG5) (a : Option Addr) (n cap : Nat) (cs : List qA4) (x : StI) (w : World) (hr : qD5 w r ∧ RepLe maxLen r) (hc : ConfsArg w a n cs) (hE : ErrAt 0 w ∧ qD7 w) :
  Calls Tryz.prog 7 #[.agg #[.int .i64 r.i, .int .i64 r.u, .slice r.sa r.sn r.sc, .slice r.la r.ln r.lc], .slice a n cap, .agg #[.int .i64 x.k, .int .i64 x.e, .int .i64 x.f, .int .i64 x.s, .int .i64 x.n]] w fun e w' => e = .returned (.bool true) ∧ Below w.heap.size w w' := by
 obtain ⟨V, hV⟩ : ∃ V, V = (w.alloc (.cells #[.int .i64 r.i, .int .i64 r.u, .slice r.sa r.sn r.sc, .slice r.la r.ln r.lc] 25)).alloc (.cells #[.int .i64 x.k, .int .i64 x.e, .int .i64 x.f, .int .i64 x.s, .int .i64 x.n] 41) := ⟨_, rfl⟩
 have F0 : Hid (RX w r a n cs x V) := by rw [hV]; exact RX.new w r a n cs x hr.1 hc.1 hE
 have HRL : Hid (RepLe maxLen r) := hr.2
 have HCL : Hid (n ≤ maxLen ∧ ∀ (k : Nat) c, cs[k]? = some c → qD4 maxLen c) := hc.2
 clear hr hc hE
 go_enter Tryz.func7, Tryz.ntmps7
 go_upto_region 2 with fail
 rw [← hV]
 clear hV
 have v0 := F0.out.rf.bx 0 _ rfl
 have v1 := F0.out.rf.bx 1 _ rfl
 have v2 := F0.out.rf.bx 2 _ rfl
 have v3 := F0.out.rf.bx 3 _ rfl
 have hvl := F0.out.rf.lt
 go_wp2_with fail
 refine (szReplica_c r 1048576 _ HRL.out (by omega) (by omega)).mono ?_
 rintro e w1 ⟨⟨s1, rfl, hs1, hs2⟩, hb1⟩
 have F1 := qC1 (F0.out.below hb1)
 clear hb1 F0 v0 v1 v2 v3 hvl
 by_cases hneg : s1 < 0
 ·go_wp2_with fail
  go_ret
  exact ⟨rfl, F1.out.rf.bl⟩
 ·obtain ⟨hsn, hln⟩ := hs2 (by omega)
  have hge : 0 ≤ s1 := by omega
  go_wp2_with fail
  refine (szConfigs_c a n cap cs s1 _ HCL.out.1 HCL.out.2 hge (by omega) F1.out.rf.ci).mono ?_
  rintro e w2 ⟨⟨s2, rfl, hs3, hs4⟩, hb2⟩
  have F2 := qC1 (F1.out.below hb2)
  clear hb2 F1
  by_cases hneg2 : s2 < 0
  ·go_wp2_with fail
   go_ret
   exact ⟨rfl, F2.out.rf.bl⟩
  ·obtain ⟨hnl, hcl0⟩ := hs4 (by omega)
   have hn : n ≤ 1048576 := by omega
   have hcl : ∀ (k : Nat) c, cs[k]? = some c → qD4 1048576 c := fun k c e => confLe_mono (hcl0 k c e) (by omega)
   have HCC : Hid (∀ (k : Nat) c, cs[k]? = some c → qD4 1048576 c) := hcl
   have hrl : RepLe 1048576 r := ⟨by omega, by omega⟩
   have hlen : cs.length = n := F2.out.rf.ci.len
   have HRL2 : Hid (RepLe 1048576 r) := hrl
   have HLEN : Hid (cs.length = n) := hlen
   clear hs4 hcl0 hcl hrl hlen hs2 HRL HCL
   have hge2 : ¬ s2 < 0 := hneg2
   clear hneg2
   go_upto_region 8 with fail
   have v0 := F2.out.rf.bx 0 _ rfl
   have v1 := F2.out.rf.bx 1 _ rfl
   have v2 := F2.out.rf.bx 2 _ rfl
   have v3 := F2.out.rf.bx 3 _ rfl
   have hvl := F2.out.rf.lt
   have s0 := F2.out.sx 0 _ rfl
   have s1 := F2.out.sx 1 _ rfl
   have s2 := F2.out.sx 2 _ rfl
   have s3 := F2.out.sx 3 _ rfl
   have s4 := F2.out.sx 4 _ rfl
   have hsl := F2.out.lt
   refine wp_region_held_drew (S := fun w' => (∀ b o, b < w2.heap.size → w'.cell? ⟨b, o, none⟩ = w2.cell? ⟨b, o, none⟩) ∧ Below w2.heap.size w2 w') (by kernel_rfl) (qB3 _) (fun hHeld => ?_)
   refine Zk.go [0, 2, 4] ?_
   iterate 3
    refine Zk.st (v := ?_) rfl ?_ ?_
    rotate_left 1
    ·intro w hSw; (try dsimp only at hSw); go_simp; try (with_reducible rfl)
    try simp only [Act.put, zA, zB, zC, zD, zE, zF]
   refine Zk.fin ?_
   refine Zk.rd (i := 1) rfl (fun K hK => ?_)
   go_simp
   refine (toReplica_c r _ HRL2.out (F2.out.below hHeld.2).rf.ri).mono ?_
   rintro d wA ⟨y1, L1, rfl, hL1, hy1, hbA⟩
   have hS := qA5 hHeld hbA
   have Y3 := qC1 hy1
   clear hy1
   refine hK.out _ _ hS (fun hHeld => ?_)
   clear hK K
   try simp only [Act.put, zA, zB, zC, zD, zE, zF]
   refine Zk.rd (i := 3) rfl (fun K hK => ?_)
   go_simp
   refine (toConfigs_c a n cap cs _ hn HCC.out (F2.out.below hHeld.2).rf.ci).mono ?_
   rintro d wB ⟨rfl, ds1, hd1⟩
   have hS := qA5 hHeld hd1.bl
   have Y4 := qC1 (Y3.out.below hd1.bl)
   have D4 := qC1 hd1
   clear hd1 Y3
   refine hK.out _ _ hS (fun hHeld => ?_)
   clear hK K
   try simp only [Act.put, zA, zB, zC, zD, zE, zF]
   refine Zk.rd (i := 5) rfl (fun K hK => ?_)
   go_simp
   refine (toStatement_c x _).mono ?_
   rintro d wC ⟨rfl, hbC⟩
   have hS := qA5 hHeld hbC
   obtain ⟨E, hE1⟩ := env_of (D4.out.le hn F2.out.rf.ci HCC.out)
   have HE1 : Hid (qB6 ds1 = 0 → EnvC E ds1) := hE1
   obtain ⟨k, hk⟩ : ∃ k, enCode E cs r x = k := ⟨_, rfl⟩
   have HK : Hid (enCode E cs r x = k) := hk
   have hsl2 : r.ss.length = r.sn ∧ r.ls.length = r.ln := ⟨F2.out.rf.ri.said.1, F2.out.rf.ri.locks.1⟩
   have HSL : Hid (r.ss.length = r.sn ∧ r.ls.length = r.ln) := hsl2
   have HSP : Hid (Calls Tryz.prog 28 #[.agg #[.int .i64 y1.i, .int .i64 y1.u, .slice y1.sa y1.sn y1.sc, .slice y1.la y1.ln y1.lc], .slice (some ⟨wA.heap.size, 0, none⟩) n n, .agg #[.int .i64 x.k, .int .i64 x.e, .int .i64 x.f, .int .i64 x.s, .int .i64 x.n]] wC fun d w' => d = .returned (.int .i64 k) ∧ Below wC.heap.size wC w') := by
    show Calls _ _ _ _ _
    rw [← hk, ← enCode_same (E := E) x (D4.out.same HLEN.out) Y4.out]
    have YC := Y4.out.below hbC
    exact specMay_c E y1 _ n n ds1 x wC (YC.isIn hsl2.1 hsl2.2) (newNil YC) (newAt YC) ⟨by rw [YC.sn]; exact HRL2.out.said, by rw [YC.ln]; exact HRL2.out.locks⟩ (D4.out.isIn.below hbC) (D4.out.le hn F2.out.rf.ci HCC.out) hn HE1.out
   clear hE1 hk hsl2
   refine hK.out _ _ hS (fun hHeld => ?_)
   clear hK K
   try simp only [Act.put, zA, zB, zC, zD, zE, zF]
   refine Zk.rd (i := 6) rfl (fun K hK => ?_)
   go_simp
   refine HSP.out.mono ?_
   rintro d wS ⟨rfl, hbS⟩
   have hS := qA5 hHeld hbS
   refine hK.out _ _ hS (fun hHeld => ?_)
   clear hK K
   try simp only [Act.put, zA, zB, zC, zD, zE, zF]
   refine Zk.rd (i := 7) rfl (fun K hK => ?_)
   go_simp
   refine hK.out _ _ (by assumption) (fun hHeld => ?_)
   clear hK K
   try simp only [Act.put, zA, zB, zC, zD, zE, zF]
   refine wpAnyH_done (by kernel_rfl) ?_ _
   have F5 := qC1 (F2.out.below hS.2)
   have HD1 : Hid (SameCs cs ds1) := D4.out.same HLEN.out
   clear hHeld hS F2 Y4 D4 HSP v0 v1 v2 v3 hvl s0 s1 s2 s3 s4 hsl
   obtain ⟨w5, rfl⟩ : ∃ w5, w5 = wS := ⟨_, rfl⟩
   have v0 := F5.out.rf.bx 0 _ rfl
   have v1 := F5.out.rf.bx 1 _ rfl
   have v2 := F5.out.rf.bx 2 _ rfl
   have v3 := F5.out.rf.bx 3 _ rfl
   have hvl := F5.out.rf.lt
   go_wp2_with fail
   refine (toReplica_c r _ HRL2.out F5.out.rf.ri).mono ?_
   rintro e w6 ⟨y2, L2, rfl, hL2, hy2, hb6⟩
   obtain ⟨Z, hZ⟩ : ∃ Z, Z = w6.alloc (.cells #[.int .i64 y2.i, .int .i64 y2.u, .slice y2.sa y2.sn y2.sc, .slice y2.la y2.ln y2.lc] 33) := ⟨_, rfl⟩
   have AZ : Below w6.heap.size w6 Z := by rw [hZ]; exact zN
   have F7 := qC1 ((F5.out.below hb6).below AZ)
   have Y7 := qC1 (hy2.below AZ)
   have X7 : Hid (BoxV w6.heap.size [.int .i64 y2.i, .int .i64 y2.u, .slice y2.sa y2.sn y2.sc, .slice y2.la y2.ln y2.lc] Z ∧ w6.heap.size < Z.heap.size) := by rw [hZ]; exact ⟨(qE5 w6 _ _).out, by simp⟩
   clear hb6 hy2 AZ F5 v0 v1 v2 v3 hvl
   go_upto_region 10 with fail
   rw [← hZ]
   clear hZ
   generalize w6.heap.size = q7 at X7 ⊢
   go_wp2_with fail
   refine (toConfigs_c a n cap cs _ hn HCC.out F7.out.rf.ci).mono ?_
   rintro e w8 ⟨rfl, ds2, hd2⟩
   have F8 := qC1 (F7.out.below hd2.bl)
   have Y8 := qC1 (Y7.out.below hd2.bl)
   have X8 : Hid (BoxV q7 [.int .i64 y2.i, .int .i64 y2.u, .slice y2.sa y2.sn y2.sc, .slice y2.la y2.ln y2.lc] w8 ∧ q7 < w8.heap.size) := ⟨((BoxV.hold X7.out.1 X7.out.2).below hd2.bl).out, Nat.lt_of_lt_of_le X7.out.2 hd2.bl.size⟩
   have D8 := qC1 hd2
   have HD2 : Hid (SameCs cs ds2) := hd2.same HLEN.out
   clear hd2 F7 Y7 X7
   have HIP : Hid (∀ W, Below w8.heap.size w8 W → Calls Tryz.prog 29 #[.agg #[.int .i64 y2.i, .int .i64 y2.u, .slice y2.sa y2.sn y2.sc, .slice y2.la y2.ln y2.lc], .slice (some ⟨Z.heap.size, 0, none⟩) n n, .agg #[.int .i64 x.k, .int .i64 x.e, .int .i64 x.f, .int .i64 x.s, .int .i64 x.n]] W fun d w' => d = .returned (.int .i64 k) ∧ Below W.heap.size W w') := fun W hW => by
    show Calls _ _ _ _ _
    rw [← HK.out, ← enCode_same (E := E) x HD2.out Y8.out]
    refine implMay_c E y2 _ n n ds2 x W ((Y8.out.below hW).isIn HSL.out.1 HSL.out.2) ⟨by rw [Y8.out.sn]; exact HRL2.out.said, by rw [Y8.out.ln]; exact HRL2.out.locks⟩ (D8.out.isIn.below hW) (D8.out.le hn F8.out.rf.ci HCC.out) hn (F8.out.rf.er.below hW) (F8.out.rf.hh.below hW) (fun q => ?_)
    exact SameCs.env (cs := ds1) ⟨by rw [HD1.out.ln, HD2.out.ln], sameCs_two HD1.out HD2.out⟩ (HE1.out (by rw [HD1.out.cfs, ← HD2.out.cfs]; exact q)) (D8.out.le hn F8.out.rf.ci HCC.out)
   have q0 := X8.out.1 0 _ rfl
   have q1 := X8.out.1 1 _ rfl
   have q2 := X8.out.1 2 _ rfl
   have q3 := X8.out.1 3 _ rfl
   have hq8 := X8.out.2
   have s0 := F8.out.sx 0 _ rfl
   have s1 := F8.out.sx 1 _ rfl
   have s2 := F8.out.sx 2 _ rfl
   have s3 := F8.out.sx 3 _ rfl
   have s4 := F8.out.sx 4 _ rfl
   have hsl := F8.out.lt
   go_upto_region 11 with fail
   refine wp_region_held_drew (S := fun w' => (∀ b o, b < w8.heap.size → w'.cell? ⟨b, o, none⟩ = w8.cell? ⟨b, o, none⟩) ∧ Below w8.heap.size w8 w') (by kernel_rfl) (qB3 _) (fun hHeld => ?_)
   refine Zk.go [0, 1, 2] ?_
   iterate 3
    refine Zk.st (v := ?_) rfl ?_ ?_
    rotate_left 1
    ·intro w hSw; (try dsimp only at hSw); go_simp; try (with_reducible rfl)
    try simp only [Act.put, zA, zB, zC, zD, zE, zF]
   refine Zk.fin ?_
   refine Zk.rd (i := 3) rfl (fun K hK => ?_)
   go_simp
   refine (toStatement_c x _).mono ?_
   rintro d wP ⟨rfl, hbP⟩
   have hS := qA5 hHeld hbP
   refine hK.out _ _ hS (fun hHeld => ?_)
   clear hK K
   try simp only [Act.put, zA, zB, zC, zD, zE, zF]
   refine Zk.rd (i := 4) rfl (fun K hK => ?_)
   go_simp
   refine (HIP.out _ hHeld.2).mono ?_
   rintro d wQ ⟨rfl, hbQ⟩
   have hS := qA5 hHeld hbQ
   refine hK.out _ _ hS (fun hHeld => ?_)
   clear hK K
   try simp only [Act.put, zA, zB, zC, zD, zE, zF]
   refine Zk.rd (i := 5) rfl (fun K hK => ?_)
   go_simp
   refine hK.out _ _ (by assumption) (fun hHeld => ?_)
   clear hK K
   try simp only [Act.put, zA, zB, zC, zD, zE, zF]
   refine wpAnyH_done (by kernel_rfl) ?_ _
   have F9 := qC1 (F8.out.below hS.2)
   have Y9 := qC1 (Y8.out.below hS.2)
   have X9 : Hid (BoxV q7 [.int .i64 y2.i, .int .i64 y2.u, .slice y2.sa y2.sn y2.sc, .slice y2.la y2.ln y2.lc] wQ ∧ q7 < wQ.heap.size) := ⟨((BoxV.hold X8.out.1 X8.out.2).below hS.2).out, Nat.lt_of_lt_of_le X8.out.2 hS.2.size⟩
   have D9 := qC1 (D8.out.below hS.2)
   clear hHeld hS F8 Y8 X8 D8 q0 q1 q2 q3 hq8 s0 s1 s2 s3 s4 hsl HIP
   obtain ⟨w9, rfl⟩ : ∃ w9, w9 = wQ := ⟨_, rfl⟩
   go_upto_region 14 with fail
   have v0 := F9.out.rf.bx 0 _ rfl
   have v1 := F9.out.rf.bx 1 _ rfl
   have v2 := F9.out.rf.bx 2 _ rfl
   have v3 := F9.out.rf.bx 3 _ rfl
   have hvl := F9.out.rf.lt
   have q0 := X9.out.1 0 _ rfl
   have q1 := X9.out.1 1 _ rfl
   have q2 := X9.out.1 2 _ rfl
   have q3 := X9.out.1 3 _ rfl
   have hq9 := X9.out.2
   refine wp_region_held_drew (S := fun w' => (∀ b o, b < w9.heap.size → w'.cell? ⟨b, o, none⟩ = w9.cell? ⟨b, o, none⟩) ∧ Below w9.heap.size w9 w') (by kernel_rfl) (qB3 _) (fun hHeld => ?_)
   refine Zk.go [0, 1] ?_
   iterate 2
    refine Zk.st (v := ?_) rfl ?_ ?_
    rotate_left 1
    ·intro w hSw; (try dsimp only at hSw); go_simp; try (with_reducible rfl)
    try simp only [Act.put, zA, zB, zC, zD, zE, zF]
   refine Zk.fin ?_
   refine Zk.rd (i := 2) rfl (fun K hK => ?_)
   go_simp
   refine (toReplica_c r _ HRL2.out (F9.out.below hHeld.2).rf.ri).mono ?_
   rintro d wA ⟨y3, L3, rfl, hL3, hy3, hbA⟩
   have hS := qA5 hHeld hbA
   have Y3 := qC1 hy3
   clear hy3
   refine hK.out _ _ hS (fun hHeld => ?_)
   clear hK K
   try simp only [Act.put, zA, zB, zC, zD, zE, zF]
   refine Zk.rd (i := 3) rfl (fun K hK => ?_)
   go_simp
   refine (eqCopies _ (Y9.out.below hHeld.2) Y3.out HSL.out HRL2.out).mono ?_
   rintro d wB ⟨rfl, hbB⟩
   have hS := qA5 hHeld hbB
   refine hK.out _ _ hS (fun hHeld => ?_)
   clear hK K
   try simp only [Act.put, zA, zB, zC, zD, zE, zF]
   refine Zk.go [4] ?_
   refine Zk.st (v := ?_) rfl ?_ ?_
   rotate_left 1
   ·intro w hSw; (try dsimp only at hSw); go_simp; try (with_reducible rfl)
   try simp only [Act.put, zA, zB, zC, zD, zE, zF]
   refine Zk.fin ?_
   refine wpAnyH_done (by kernel_rfl) ?_ _
   have F10 := qC1 (F9.out.below hS.2)
   have D10 := qC1 (D9.out.below hS.2)
   clear hHeld hS v0 v1 v2 v3 hvl q0 q1 q2 q3 hq9 X9 Y9 D9 F9
   go_wp2_with fail
   refine (toConfigs_c a n cap cs _ hn HCC.out F10.out.rf.ci).mono ?_
   rintro e w11 ⟨rfl, ds3, hd3⟩
   have F11 := qC1 (F10.out.below hd3.bl)
   have D11 := qC1 (D10.out.below hd3.bl)
   have D3 := qC1 hd3
   clear hd3 F10 D10
   go_wp2_with fail
   refine (eqConfigs_same _ _ n n n ds2 ds3 _ hn (D11.out.le hn F11.out.rf.ci HCC.out).le (fun j c d e1 e2 => sameCs_two HD2.out (D3.out.same HLEN.out) j c d e1 e2) D11.out.isIn D3.out.isIn).mono ?_
   rintro e w12 ⟨rfl, hb12⟩
   have B12 := qC1 ((F11.out.below hb12).rf.bl)
   clear hb12
   go_wp2_with fail
   go_ret
   exact ⟨rfl, B12.out⟩

end Go.Proofs.YtlpgapdlepbgbaaGreatDoor
