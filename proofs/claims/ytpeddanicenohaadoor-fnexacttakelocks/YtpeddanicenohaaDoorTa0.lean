/-
  CONTRACTS: the law of TakeLocks, out of what both programs answer.
  Conditions: each contract bears its own.
-/
import Derived.Test.YtpeddanicenohaaDoorTk9
import Derived.Test.YtpeddanicenohaaDoorLkM
import Derived.Test.YtpeddanicenohaaDoorBx2
import Derived.LaidHandle
namespace Go.Proofs.YtpeddanicenohaaDoor
open Go.RowKit
set_option linter.unusedVariables false
set_option linter.unusedSimpArgs false

theorem Tryd.gM : Tryd.prog.globalNamed "loop.example/g00338/impl.errManyLocks" = some 0 := by kernel_rfl
theorem Tryd.gMT : (Tryd.prog.globals[0]?).map (·.type) = some 74 := by kernel_rfl
theorem errM_of {text : List UInt8} {r : List (String × DataW Unit)} {W : World} (h : laidMet Tryd.prog (("loop.example/g00338/impl.errManyLocks", .iface "*errors.errorString" (.ptr (.agg [.lit (.string text)]))) :: r) W) : ErrAt 0 W := by
  obtain ⟨a, s, hv, _⟩ := laid_sentinel h Tryd.gM Tryd.gMT Tryd.underlying74 Tryd.rowES Tryd.underlying226 Tryd.underlying228 rfl rfl Tryd.underlying9 Tryd.cellsES Tryd.cellsStr
  exact ⟨a, by simpa using World.var?_cell Tryd.gM hv 0⟩

theorem Tryd.et : Tryd.prog.globalNamed "errors.errorType" = some 1 := by kernel_rfl
theorem Tryd.rt : (Tryd.prog.cutTypes.find? (·.1 == "internal/reflectlite.rtype")).map (·.2) = some 170 := by kernel_rfl
theorem Tryd.oneRow : ((List.range 256).filter fun t => Tryd.prog.rowNamed t [101, 114, 114, 111, 114]) = [74] := by kernel_rfl
theorem Tryd.sizeTs : Tryd.prog.types.size = 256 := by kernel_rfl

theorem handle_of {laid : List (String × DataW Unit)} {W : World} (hm : ("errors.errorType", .iface "internal/reflectlite.rtype" (.agg [.ptr (.lit (.string [101, 114, 114, 111, 114]))])) ∈ laid) (h : handlesMet Tryd.prog laid W) : HandleE W := by
  obtain ⟨name, u, ty, e1, e2, e3, e4, e5⟩ := h _ (by
    first
      | exact hm
      | exact List.mem_filter.2 ⟨hm, rfl⟩)
  have en : name = [101, 114, 114, 111, 114] := (Option.some.inj e1).symm
  subst en
  obtain rfl := Option.some.inj (Tryd.rt.symm.trans e2)
  have hm : ty ∈ (List.range 256).filter fun t => Tryd.prog.rowNamed t [101, 114, 114, 111, 114] := List.mem_filter.2 ⟨List.mem_range.2 (by rw [← Tryd.sizeTs]; exact e3), e4⟩
  rw [Tryd.oneRow] at hm
  obtain rfl := List.mem_singleton.1 hm
  have hh : typeHandle Tryd.prog 74 = .pointer (some ⟨11, 74, none⟩) := by kernel_rfl
  rw [hh] at e5
  unfold HandleE
  simpa using World.var?_cell Tryd.et e5 0

/-- What the document's program answered. -/
structure P1 (w W : World) (bx : Nat) (c : Int) (a1 : Option Addr) (cap1 : Nat) (ys : List LkI) : Prop where
  bel : Below w.heap.size w W
  x : Box2 W bx (.int .i64 c) (.slice a1 ys.length cap1)
  v : LkV W a1 ys
  lo : w.heap.size ≤ bx
  hi : bx < W.heap.size
  al : ∀ g, a1 = some ⟨g, 0, none⟩ → g < bx

theorem P1.below {w W W' : World} {bx : Nat} {c : Int} {a1 : Option Addr} {cap1 : Nat} {ys : List LkI} (h : P1 w W bx c a1 cap1 ys) (hb : Below W.heap.size W W') : P1 w W' bx c a1 cap1 ys :=
  ⟨h.bel.trans (hb.mono h.bel.size), h.x.below hb, h.v.below hb, h.lo, by have := hb.size; have := h.hi; omega, h.al⟩

theorem P1.grown {w W W' : World} {bx : Nat} {c : Int} {a1 : Option Addr} {cap1 : Nat} {ys : List LkI} {row : Option Nat} (h : P1 w W bx c a1 cap1 ys) (hg : W.grownBy W' row) (hr : ∀ q, row = some q → bx < q) : P1 w W' bx c a1 cap1 ys :=
  ⟨h.bel.grown hg (by have := h.lo; have := h.hi; omega) (fun q e => by have := hr q e; have := h.lo; omega), h.x.grown hg (fun e => by have := hr bx e.symm; omega), h.v.kept hg (fun g e q => by have := h.al g e; have := hr g q.symm; omega), h.lo, by have := hg.size; have := h.hi; omega, h.al⟩

/-- The copies of the arguments. -/
structure P2 (W : World) (gl len : Nat) (zs : List LkI) (gi lb : Nat) (vs : List Int) : Prop where
  la : LksAt W gl zs
  lr : LkRoom W gl len
  ia : IntsAt W gi vs
  ir : IntRoom W gi lb
  ll : gl < W.heap.size
  li : gi < W.heap.size

theorem P2.below {W W' : World} {gl len : Nat} {zs : List LkI} {gi lb : Nat} {vs : List Int} (h : P2 W gl len zs gi lb vs) (hb : Below W.heap.size W W') : P2 W' gl len zs gi lb vs :=
  ⟨h.la.below hb, h.lr.below h.ll hb, h.ia.below hb, h.ir.below h.li hb, by have := hb.size; have := h.ll; omega, by have := hb.size; have := h.li; omega⟩

/-- What the code answered. -/
structure P3 (W : World) (B bz hi : Nat) (c : Int) (a2 : Option Addr) (cap2 : Nat) (ys : List LkI) : Prop where
  x : Box2 W bz (.int .i64 c) (.slice a2 ys.length cap2)
  o : OwnLk W B (.slice a2 ys.length cap2) ys
  bl : B ≤ bz
  al : ∀ q, (Value.slice a2 ys.length cap2).ownBlock = some q → q < bz

theorem P3.below {W W' : World} {B bz hi : Nat} {c : Int} {a2 : Option Addr} {cap2 : Nat} {ys : List LkI} (h : P3 W B bz hi c a2 cap2 ys) (hb : Below W.heap.size W W') : P3 W' B bz hi c a2 cap2 ys := ⟨h.x.below hb, h.o.below hb, h.bl, h.al⟩

theorem P3.grown {W W' : World} {B bz hi q : Nat} {c : Int} {a2 : Option Addr} {cap2 : Nat} {ys : List LkI} (h : P3 W B bz hi c a2 cap2 ys) (hg : W.grownBy W' (some q)) (hq : q < B) : P3 W' B bz hi c a2 cap2 ys :=
  ⟨h.x.grown hg (fun e => by injection e; have := h.bl; omega), ownLk_kept h.o hg hq, h.bl, h.al⟩

set_option maxRecDepth 20000 in
set_option maxHeartbeats 4000000 in
theorem take_inner (a0 : Option Addr) (len cap : Nat) (zs : List LkI) (b0 : Option Addr) (lb capb : Nat) (vs : List Int) (ep fo se c : Int) (ys : List LkI) (w : World) (hl : len ≤ 1048576) (hlb : lb ≤ 1048576) (hy : ys.length ≤ 1000) (hr : LkIn w a0 len zs) (hi : IntIn w b0 lb vs) (hE : ErrAt 0 w) (hH : HandleE w)
    (HS : Hid (∀ (g h : Nat) (w : World), LksAt w g zs → g < w.heap.size → IntsAt w h vs → GivesL 11 #[.slice (some ⟨g, 0, none⟩) len len, .slice (some ⟨h, 0, none⟩) lb lb, .int .i64 ep, .int .i64 fo, .int .i64 se] c ys w))
    (HI : Hid (∀ (g h : Nat) (w : World), LksAt w g zs → IntsAt w h vs → ErrAt 0 w → HandleE w → GivesL 10 #[.slice (some ⟨g, 0, none⟩) len len, .slice (some ⟨h, 0, none⟩) lb lb, .int .i64 ep, .int .i64 fo, .int .i64 se] c ys w)) :
    Calls Tryd.prog 4 #[.slice a0 len cap, .slice b0 lb capb, .int .i64 ep, .int .i64 fo, .int .i64 se] w fun e w' => e = .returned (.bool true) ∧ Below w.heap.size w w' := by
  have hl' : (len : Int) ≤ 1048576 := by omega
  have hlb' : (lb : Int) ≤ 1048576 := by omega
  have HR : Hid (∀ W, Below w.heap.size w W → LkIn W a0 len zs) := fun W q => hr.below q
  have HQ : Hid (∀ W, Below w.heap.size w W → IntIn W b0 lb vs) := fun W q => hi.below q
  have HE : Hid (∀ W, Below w.heap.size w W → ErrAt 0 W) := fun W q => hE.below q
  have HH : Hid (∀ W, Below w.heap.size w W → HandleE W) := fun W q => hH.below q
  have HZ : Hid (zs.length = len) := hr.1
  have HZ2 : Hid (vs.length = lb) := hi.1
  clear hr hi hE hH
  go_enter Tryd.func4, Tryd.ntmps4
  go_wp2_with (first | (go_at_call 16; go_in) | fail)
  refine (toLocks_c a0 len cap zs _ hl (HR.out _ (Below.refl _ _))).mono ?_
  rintro e w1 ⟨rfl, hat1, hlt1, hb1⟩
  have HA1 : Hid (LksAt w1 w.heap.size zs) := hat1
  clear hat1
  go_wp2_with fail
  refine (toInts_c b0 lb capb vs _ hlb (HQ.out _ hb1)).mono ?_
  rintro e w2 ⟨rfl, hat2, hlt2, hb2⟩
  have HA2 : Hid (LksAt w2 w.heap.size zs) := HA1.out.below hb2
  have HI2 : Hid (IntsAt w2 w1.heap.size vs) := hat2
  have B2 : Below w.heap.size w w2 := hb1.trans (hb2.mono hb1.size)
  have hz12 : w.heap.size < w2.heap.size := by omega
  clear hat2 HA1 hb1 hb2
  go_wp2_with fail
  refine (HS.out _ _ _ HA2.out hz12 HI2.out).mono ?_
  rintro e w3 ⟨a1, cap1, rfl, hown3, hb3⟩
  have A3 : Below w3.heap.size w3 (w3.alloc (.cells #[.int .i64 c, .slice a1 ys.length cap1] 29)) := (Below.refl _ _).alloc (Nat.le_refl _) _
  have hz3 := hb3.size
  have Q4 : Hid (P1 w (w3.alloc (.cells #[.int .i64 c, .slice a1 ys.length cap1] 29)) w3.heap.size c a1 cap1 ys) := ⟨(B2.trans (hb3.mono (by omega))).alloc (by omega) _, Box2.new _ _ _ _, hown3.view.below A3, by omega, by simp, fun g e => (rowLk_lt hown3 g e).2⟩
  have hz4 : (w3.alloc (.cells #[.int .i64 c, .slice a1 ys.length cap1] 29)).heap.size = w3.heap.size + 1 := by simp
  clear hown3 hb3 A3 HA2 HI2 B2 hz12 hz3
  go_upto_region 8 with fail
  generalize w3.alloc (.cells #[.int .i64 c, .slice a1 ys.length cap1] 29) = w4 at Q4 hz4 ⊢
  have HZ4 : Hid (w4.heap.size = w3.heap.size + 1) := hz4
  clear hz4
  go_wp2_with fail
  refine (toLocks_room a0 len cap zs _ hl (HR.out _ Q4.out.bel)).mono ?_
  rintro e w5 ⟨rfl, hat5, hlt5, hb5, hroom5⟩
  have Q5 : Hid (P1 w w5 w3.heap.size c a1 cap1 ys) := Q4.out.below hb5
  have L5 : Hid (LksAt w5 w4.heap.size zs ∧ LkRoom w5 w4.heap.size len) := ⟨hat5, hroom5⟩
  clear hat5 hroom5 hb5 Q4
  go_wp2_with fail
  refine (toInts_room b0 lb capb vs _ hlb (HQ.out _ Q5.out.bel)).mono ?_
  rintro e w6 ⟨rfl, hat6, hlt6, hb6, hroom6⟩
  have Q6 : Hid (P1 w w6 w3.heap.size c a1 cap1 ys) := Q5.out.below hb6
  have R6 : Hid (P2 w6 w4.heap.size len zs w5.heap.size lb vs) := ⟨L5.out.1.below hb6, L5.out.2.below hlt5 hb6, hat6, hroom6, by have := hb6.size; omega, hlt6⟩
  clear hat6 hroom6 hb6 Q5 L5
  go_wp2_with fail
  refine (HI.out _ _ _ R6.out.la R6.out.ia (HE.out _ Q6.out.bel) (HH.out _ Q6.out.bel)).mono ?_
  rintro e w7 ⟨a2, cap2, rfl, hown7, hb7⟩
  have A8 : Below w7.heap.size w7 (w7.alloc (.cells #[.int .i64 c, .slice a2 ys.length cap2] 29)) := (Below.refl _ _).alloc (Nat.le_refl _) _
  have hb8 : Below w6.heap.size w6 (w7.alloc (.cells #[.int .i64 c, .slice a2 ys.length cap2] 29)) := hb7.trans (A8.mono hb7.size)
  have Q8 : Hid (P1 w (w7.alloc (.cells #[.int .i64 c, .slice a2 ys.length cap2] 29)) w3.heap.size c a1 cap1 ys) := Q6.out.below hb8
  have R8 : Hid (P2 (w7.alloc (.cells #[.int .i64 c, .slice a2 ys.length cap2] 29)) w4.heap.size len zs w5.heap.size lb vs) := R6.out.below hb8
  have S8 : Hid (P3 (w7.alloc (.cells #[.int .i64 c, .slice a2 ys.length cap2] 29)) w6.heap.size w7.heap.size 0 c a2 cap2 ys) := ⟨Box2.new _ _ _ _, hown7.alloc _, hb7.size, fun q e => (ownLk_row hown7 q e).2⟩
  have hs8 : w7.heap.size < (w7.alloc (.cells #[.int .i64 c, .slice a2 ys.length cap2] 29)).heap.size := by simp
  have LB : Hid (w3.heap.size < w4.heap.size ∧ w4.heap.size < w5.heap.size ∧ w5.heap.size < w6.heap.size ∧ w6.heap.size ≤ w7.heap.size) := ⟨by have := HZ4.out; omega, hlt5, hlt6, hb7.size⟩
  clear hown7 hb7 A8 hb8 Q6 R6 hlt5 hlt6
  go_upto_region 11 with fail
  generalize w7.alloc (.cells #[.int .i64 c, .slice a2 ys.length cap2] 29) = w8 at Q8 R8 S8 hs8 ⊢
  obtain ⟨x0, x1⟩ := Q8.out.x
  obtain ⟨y0, y1⟩ := S8.out.x
  go_wp2_with fail
  refine (eqLockR_c c a2 a1 ys.length cap2 cap1 ys _ rfl (by omega) S8.out.o.view Q8.out.v).mono ?_
  rintro e w9 ⟨rfl, hb9⟩
  have Q9 : Hid (P1 w w9 w3.heap.size c a1 cap1 ys) := Q8.out.below hb9
  have R9 : Hid (P2 w9 w4.heap.size len zs w5.heap.size lb vs) := R8.out.below hb9
  have S9 : Hid (P3 w9 w6.heap.size w7.heap.size 0 c a2 cap2 ys) := S8.out.below hb9
  clear hb9 Q8 R8 S8 x0 x1 y0 y1
  go_wp2_with fail
  refine (toLocks_c a0 len cap zs _ hl (HR.out _ Q9.out.bel)).mono ?_
  rintro e w10 ⟨rfl, hat10, hlt10, hb10⟩
  have HB10 : Hid (LksAt w10 w9.heap.size zs) := hat10
  have Q10 : Hid (P1 w w10 w3.heap.size c a1 cap1 ys) := Q9.out.below hb10
  have R10 : Hid (P2 w10 w4.heap.size len zs w5.heap.size lb vs) := R9.out.below hb10
  have S10 : Hid (P3 w10 w6.heap.size w7.heap.size 0 c a2 cap2 ys) := S9.out.below hb10
  clear hat10 hb10 Q9 R9 S9
  go_wp2_with fail
  refine (eqLocks_same _ _ len _ _ zs _ hl (LkIn.of HZ.out R10.out.la) (LkIn.of HZ.out HB10.out)).mono ?_
  rintro e w11 ⟨rfl, hb11⟩
  have Q11 : Hid (P1 w w11 w3.heap.size c a1 cap1 ys) := Q10.out.below hb11
  have R11 : Hid (P2 w11 w4.heap.size len zs w5.heap.size lb vs) := R10.out.below hb11
  have S11 : Hid (P3 w11 w6.heap.size w7.heap.size 0 c a2 cap2 ys) := S10.out.below hb11
  clear hb11 Q10 R10 S10 HB10
  go_wp2_with fail
  refine (toInts_c b0 lb capb vs _ hlb (HQ.out _ Q11.out.bel)).mono ?_
  rintro e w12 ⟨rfl, hat12, hlt12, hb12⟩
  have HB12 : Hid (IntsAt w12 w11.heap.size vs) := hat12
  have Q12 : Hid (P1 w w12 w3.heap.size c a1 cap1 ys) := Q11.out.below hb12
  have R12 : Hid (P2 w12 w4.heap.size len zs w5.heap.size lb vs) := R11.out.below hb12
  have S12 : Hid (P3 w12 w6.heap.size w7.heap.size 0 c a2 cap2 ys) := S11.out.below hb12
  clear hat12 hb12 Q11 R11 S11
  go_wp2_with fail
  refine (eqIntsS_same _ _ lb _ _ vs _ hlb (IntIn.of HZ2.out R12.out.ia) (IntIn.of HZ2.out HB12.out)).mono ?_
  rintro e w13 ⟨rfl, hb13⟩
  have Q13 : Hid (P1 w w13 w3.heap.size c a1 cap1 ys) := Q12.out.below hb13
  have R13 : Hid (P2 w13 w4.heap.size len zs w5.heap.size lb vs) := R12.out.below hb13
  have S13 : Hid (P3 w13 w6.heap.size w7.heap.size 0 c a2 cap2 ys) := S12.out.below hb13
  clear hb13 Q12 R12 S12 HB12
  go_wp2_with fail
  refine (markLocksRoom_c w4.heap.size len len 1 _ hl (by omega) (by omega) R13.out.lr).mono ?_
  rintro e w14 ⟨rfl, hg14⟩
  have Q14 : Hid (P1 w w14 w3.heap.size c a1 cap1 ys) := Q13.out.grown hg14 (fun q e => by cases e; exact LB.out.1)
  have I14 : Hid (IntRoom w14 w5.heap.size lb) := R13.out.ir.grown R13.out.li hg14 (fun e => by injection e; have := LB.out.2.1; omega)
  have S14 : Hid (P3 w14 w6.heap.size w7.heap.size 0 c a2 cap2 ys) := S13.out.grown hg14 (by have := LB.out; omega)
  clear hg14 Q13 R13 S13
  obtain ⟨km, hkm⟩ : ∃ km : Int, (1 : Int) + 4 * (len : Int) = km := ⟨_, rfl⟩
  have hkm0 : Hid (0 ≤ km ∧ km ≤ 100000000) := ⟨by omega, by omega⟩
  rw [hkm]
  clear hkm
  go_wp2_with fail
  refine (markIntRow_c w5.heap.size lb lb km _ hlb hkm0.out.1 hkm0.out.2 I14.out).mono ?_
  rintro e w15 ⟨rfl, hg15⟩
  have Q15 : Hid (P1 w w15 w3.heap.size c a1 cap1 ys) := Q14.out.grown hg15 (fun q e => by cases e; have := LB.out; omega)
  have S15 : Hid (P3 w15 w6.heap.size w7.heap.size 0 c a2 cap2 ys) := S14.out.grown hg15 (by have := LB.out; omega)
  clear hg15 Q14 S14 I14
  have hk0 : decide (km + (lb : Int) < 0) = false := by have := hkm0.out; simp; omega
  obtain ⟨x0, x1⟩ := Q15.out.x
  obtain ⟨y0, y1⟩ := S15.out.x
  go_wp2_with fail
  refine (eqLockR_c c a2 a1 ys.length cap2 cap1 ys _ rfl (by omega) S15.out.o.view Q15.out.v).mono ?_
  rintro e w16 ⟨rfl, hb16⟩
  have Q16 : Hid (P1 w w16 w3.heap.size c a1 cap1 ys) := Q15.out.below hb16
  have S16 : Hid (P3 w16 w6.heap.size w7.heap.size 0 c a2 cap2 ys) := S15.out.below hb16
  clear hb16 Q15 S15 x0 x1 y0 y1 hk0
  obtain ⟨y0, y1⟩ := S16.out.x
  go_wp2_with fail
  refine (markLockR_c c w6.heap.size a2 ys.length cap2 ys _ rfl (by omega) S16.out.o).mono ?_
  rintro e w17 ⟨rfl, hown17, hg17⟩
  have hrow : ∀ q, (Value.slice a2 ys.length cap2).ownBlock = some q → w6.heap.size ≤ q ∧ q < w7.heap.size := fun q e => ⟨(ownLk_row S16.out.o q e).1, S16.out.al q e⟩
  have Q17 : Hid (P1 w w17 w3.heap.size c a1 cap1 ys) := Q16.out.grown hg17 (fun q e => by have := hrow q e; have := LB.out; omega)
  have Y17 : Hid (Box2 w17 w7.heap.size (.int .i64 c) (.slice a2 ys.length cap2)) := S16.out.x.grown hg17 (fun e => by have := hrow _ e.symm; omega)
  have M17 : Hid (LkV w17 a2 (mkLk ys.length)) := by
    have h0 := hown17
    have h1 : OwnLk w17 w6.heap.size (.slice a2 ys.length cap2) (mkLk ys.length) := h0
    exact h1.view
  clear hown17 hg17 hrow Q16 S16 y0 y1
  obtain ⟨y0, y1⟩ := Y17.out
  have hq0 : decide ((1 : Int) + 4 * (ys.length : Int) < 0) = false := by simp; omega
  go_wp2_with fail
  refine (heldLockR_c c a2 ys.length cap2 _ (by omega) M17.out).mono ?_
  rintro e w18 ⟨rfl, hb18⟩
  have Q18 : Hid (P1 w w18 w3.heap.size c a1 cap1 ys) := Q17.out.below hb18
  have Y18 : Hid (Box2 w18 w7.heap.size (.int .i64 c) (.slice a2 ys.length cap2)) := Y17.out.below hb18
  have M18 : Hid (LkV w18 a2 (mkLk ys.length)) := M17.out.below hb18
  clear hb18 Q17 Y17 M17 y0 y1
  go_wp2_with fail
  refine (toLocks_c a0 len cap zs _ hl (HR.out _ Q18.out.bel)).mono ?_
  rintro e w19 ⟨rfl, hat19, hlt19, hb19⟩
  have HB19 : Hid (LksAt w19 w18.heap.size zs) := hat19
  have Q19 : Hid (P1 w w19 w3.heap.size c a1 cap1 ys) := Q18.out.below hb19
  have Y19 : Hid (Box2 w19 w7.heap.size (.int .i64 c) (.slice a2 ys.length cap2)) := Y18.out.below hb19
  have M19 : Hid (LkV w19 a2 (mkLk ys.length)) := M18.out.below hb19
  clear hat19 hb19 Q18 Y18 M18
  go_wp2_with fail
  refine (toInts_c b0 lb capb vs _ hlb (HQ.out _ Q19.out.bel)).mono ?_
  rintro e w20 ⟨rfl, hat20, hlt20, hb20⟩
  have HB20 : Hid (LksAt w20 w18.heap.size zs ∧ IntsAt w20 w19.heap.size vs) := ⟨HB19.out.below hb20, hat20⟩
  have Q20 : Hid (P1 w w20 w3.heap.size c a1 cap1 ys) := Q19.out.below hb20
  have Y20 : Hid (Box2 w20 w7.heap.size (.int .i64 c) (.slice a2 ys.length cap2)) := Y19.out.below hb20
  have M20 : Hid (LkV w20 a2 (mkLk ys.length)) := M19.out.below hb20
  clear hat20 hb20 Q19 Y19 M19 HB19
  go_wp2_with fail
  refine (HI.out _ _ _ HB20.out.1 HB20.out.2 (HE.out _ Q20.out.bel) (HH.out _ Q20.out.bel)).mono ?_
  rintro e w21 ⟨a3, cap3, rfl, hown21, hb21⟩
  have A22 : Below w21.heap.size w21 (w21.alloc (.cells #[.int .i64 c, .slice a3 ys.length cap3] 29)) := (Below.refl _ _).alloc (Nat.le_refl _) _
  have hb22 : Below w20.heap.size w20 (w21.alloc (.cells #[.int .i64 c, .slice a3 ys.length cap3] 29)) := hb21.trans (A22.mono hb21.size)
  have Q22 : Hid (P1 w (w21.alloc (.cells #[.int .i64 c, .slice a3 ys.length cap3] 29)) w3.heap.size c a1 cap1 ys) := Q20.out.below hb22
  have Y22 : Hid (Box2 (w21.alloc (.cells #[.int .i64 c, .slice a3 ys.length cap3] 29)) w7.heap.size (.int .i64 c) (.slice a2 ys.length cap2)) := Y20.out.below hb22
  have M22 : Hid (LkV (w21.alloc (.cells #[.int .i64 c, .slice a3 ys.length cap3] 29)) a2 (mkLk ys.length)) := M20.out.below hb22
  have Z22 : Hid (Box2 (w21.alloc (.cells #[.int .i64 c, .slice a3 ys.length cap3] 29)) w21.heap.size (.int .i64 c) (.slice a3 ys.length cap3)) := Box2.new _ _ _ _
  have U22 : Hid (LkV (w21.alloc (.cells #[.int .i64 c, .slice a3 ys.length cap3] 29)) a3 ys) := hown21.view.below A22
  clear hown21 hb21 A22 hb22 Q20 Y20 M20 HB20
  go_upto_region 31 with fail
  generalize w21.alloc (.cells #[.int .i64 c, .slice a3 ys.length cap3] 29) = w22 at Q22 Y22 M22 Z22 U22 ⊢
  obtain ⟨x0, x1⟩ := Q22.out.x
  obtain ⟨z0, z1⟩ := Z22.out
  go_wp2_with fail
  refine (eqLockR_c c a3 a1 ys.length cap3 cap1 ys _ rfl (by omega) U22.out Q22.out.v).mono ?_
  rintro e w23 ⟨rfl, hb23⟩
  have Q23 : Hid (P1 w w23 w3.heap.size c a1 cap1 ys) := Q22.out.below hb23
  have M23 : Hid (LkV w23 a2 (mkLk ys.length)) := M22.out.below hb23
  obtain ⟨y0, y1⟩ := Y22.out.below hb23
  clear hb23 Q22 Y22 M22 Z22 U22 x0 x1 z0 z1
  go_wp2_with fail
  refine (heldLockR_c c a2 ys.length cap2 _ (by omega) M23.out).mono ?_
  rintro e w24 ⟨rfl, hb24⟩
  have Q24 : Hid (P1 w w24 w3.heap.size c a1 cap1 ys) := Q23.out.below hb24
  clear hb24 Q23 M23 y0 y1
  go_wp2
  go_ret
  exact ⟨rfl, Q24.out.bel⟩

set_option maxRecDepth 20000 in
set_option maxHeartbeats 400000 in
theorem take_longC (a0 : Option Addr) (len cap : Nat) (b0 : Option Addr) (lb capb : Nat) (ep fo se : Int) (w : World) (hl : 1048576 < lb) (hm : lb ≤ maxLen) :
    Calls Tryd.prog 4 #[.slice a0 len cap, .slice b0 lb capb, .int .i64 ep, .int .i64 fo, .int .i64 se] w fun e w' => e = .returned (.bool true) ∧ Below w.heap.size w w' := by
  unfold maxLen at hm
  have hl' : (1048576 : Int) < (lb : Int) := by omega
  have hm' : (lb : Int) ≤ 9223372036854775807 := by omega
  clear hm
  go_enter Tryd.func4, Tryd.ntmps4
  go_wp2
  go_ret
  exact ⟨rfl, Below.refl _ _⟩

set_option maxRecDepth 20000 in
set_option maxHeartbeats 400000 in
theorem take_longL (a0 : Option Addr) (len cap : Nat) (b0 : Option Addr) (lb capb : Nat) (ep fo se : Int) (w : World) (hlb : lb ≤ 1048576) (hl : 1048576 < len) (hm : len ≤ maxLen) :
    Calls Tryd.prog 4 #[.slice a0 len cap, .slice b0 lb capb, .int .i64 ep, .int .i64 fo, .int .i64 se] w fun e w' => e = .returned (.bool true) ∧ Below w.heap.size w w' := by
  unfold maxLen at hm
  have hlb' : (lb : Int) ≤ 1048576 := by omega
  have hl' : (1048576 : Int) < (len : Int) := by omega
  have hm' : (len : Int) ≤ 9223372036854775807 := by omega
  clear hm
  go_enter Tryd.func4, Tryd.ntmps4
  go_wp2_with (first | (go_at_call 16; go_in) | fail)
  go_ret
  exact ⟨rfl, Below.refl _ _⟩

end Go.Proofs.YtpeddanicenohaaDoor
