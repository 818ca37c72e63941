/-
  CONTRACTS: ConfigFault of both programs, and what its parts ask; NeedOf and ReplicasOf.
  Conditions: each contract bears its own.
  PLAIN WORDS: the rules of a policy without a fault are such as the steps need. No Go text is walked here.
  Conditions: each fact bears its own.
  PLAIN WORDS on who has which role as a function of roles: a set given to a role, one step, the worklist of rules, the first step at which a rule gives. No Go text is walked here.
  Conditions: each fact bears its own.
-/
import Derived.Test.YtnfolmjdicfobaaPk05
import Derived.Test.YtnfolmjdicfobaaPk06
import Derived.Test.YtnfolmjdicfobaaPk07
import Derived.Test.YtnfolmjdicfobaaPk09
import Derived.Test.YtnfolmjdicfobaaPk11
import Derived.Deep.RegionHeld3
import Derived.Test.YtnfolmjdicfobaaPk10
namespace Go.Proofs.Ytnfolmjdicfobaa
open Go.RowKit
set_option linter.unusedVariables false
set_option linter.unusedSimpArgs false

/-- The code of the first forms. -/
def fmTo (pss : List (List PartI)) : Nat → Int
  | 0 => 0
  | k + 1 => if fmTo pss k ≠ 0 then fmTo pss k else match pss[k]? with
    | none => 0
    | some x => ptCode x

def fmCode (pss : List (List PartI)) : Int := if 4 < pss.length then 2 else fmTo pss pss.length

theorem fmTo_stay (zs : List (List PartI)) (k m : Nat) (c : Int) (hc : c ≠ 0) (h : fmTo zs k = c) (hm : k ≤ m) : fmTo zs m = c := by
  induction m with
  | zero => obtain rfl : k = 0 := by omega
            exact h
  | succ m ih =>
    by_cases e : k = m + 1
    · subst e; exact h
    · have := ih (by omega)
      simp only [fmTo, this]
      rw [if_pos hc]

theorem fmTo_next {zs : List (List PartI)} {k : Nat} {x : List PartI} (hk : zs[k]? = some x) (h0 : fmTo zs k = 0) : fmTo zs (k + 1) = ptCode x := by
  simp [fmTo, h0, hk]

theorem partsL_at {fs : List FormI} {k : Nat} {x : FormI} (h : fs[k]? = some x) : (partsL fs)[k]? = some x.ps := by
  unfold partsL
  rw [List.getElem?_map, h]
  rfl

theorem partsL_len (fs : List FormI) : (partsL fs).length = fs.length := by unfold partsL; simp

/-- What ConfigFault tells. -/
def cfCode (e f : Int) (zs : List RuleI) (pss : List (List PartI)) (cs : List Int) : Int := if inR e 1 9 = false then 3 else if inR f 1 2 = false then 3 else orJ (polCode zs) (orJ (fmCode pss) (clCode cs))

theorem cf_zero {e f : Int} {zs : List RuleI} {pss : List (List PartI)} {cs : List Int} (h : cfCode e f zs pss cs = 0) : inR e 1 9 = true ∧ inR f 1 2 = true ∧ polCode zs = 0 ∧ fmCode pss = 0 ∧ clCode cs = 0 := by
  unfold cfCode at h
  split at h
  · cases h
  · split at h
    · cases h
    · rename_i q1 q2
      unfold orJ at h
      split at h
      · split at h
        · exact ⟨by simpa using q1, by simpa using q2, by assumption, by assumption, h⟩
        · exact absurd h (by assumption)
      · exact absurd h (by assumption)

theorem fm_zero {pss : List (List PartI)} (h : fmCode pss = 0) : pss.length ≤ 4 ∧ ∀ (k : Nat) (x : List PartI), pss[k]? = some x → ptCode x = 0 := by
  unfold fmCode at h
  split at h
  · cases h
  · refine ⟨by omega, fun k x e => ?_⟩
    have hk : k < pss.length := by
      by_cases q : k < pss.length
      · exact q
      · rw [List.getElem?_eq_none (by omega)] at e; cases e
    have key : ∀ j, j ≤ pss.length → fmTo pss j = 0 := fun j hj => by
      by_cases q : fmTo pss j = 0
      · exact q
      · have := fmTo_stay pss j pss.length _ q rfl hj
        rw [this] at h
        exact absurd h q
    have h1 := key (k + 1) (by omega)
    rw [fmTo_next e (key k (by omega))] at h1
    exact h1

set_option maxHeartbeats 400000 in
theorem or364_c (g : Nat) (c d f : Int) (w : World) (h0 : w.cell? ⟨g, 0, none⟩ = some (.int .i64 c)) (h1 : w.cell? ⟨g, 1, none⟩ = some (.int .i64 d)) (h2 : w.cell? ⟨g, 2, none⟩ = some (.int .i64 f)) :
    Calls Try.prog 49 #[.slice (some ⟨g, 0, none⟩) 3 3] w fun e w' => e = .returned (.int .i64 (orJ c (orJ d f))) ∧ w = w' := by
  go_enter Try.func49, Try.ntmps49
  go_wp2
  go_loop [8] (fun i => ∃ k : Nat, k ≤ 3 ∧ i = .int .i64 (k : Int) ∧ (1 ≤ k → c = 0) ∧ (2 ≤ k → d = 0) ∧ (3 ≤ k → f = 0)) (fun i => 3 - (intOf i).toNat)
  case atStart => exact ⟨0, by omega, rfl, fun h => by omega, fun h => by omega, fun h => by omega⟩
  case round =>
    obtain ⟨k, hk, rfl, hc, hd, hf⟩ := hrel
    have hk' : k = 0 ∨ k = 1 ∨ k = 2 ∨ k = 3 := by omega
    rcases hk' with rfl | rfl | rfl | rfl
    · clear hc hd hf
      by_cases e : c = 0
      · have b : (c != 0) = false := by simp [e]
        have HE : Hid (c = 0) := e
        clear e
        go_wp2
        exact ⟨⟨1, by omega, by go_num, fun _ => HE.out, fun h => by omega, fun h => by omega⟩, by simp [intOf]⟩
      · have b : (c != 0) = true := by simp [e]
        go_wp2
        go_ret
        exact ⟨by simp [orJ, e], rfl⟩
    · have HC : Hid (c = 0) := hc (by omega)
      clear hc hd hf
      by_cases e : d = 0
      · have b : (d != 0) = false := by simp [e]
        have HE : Hid (d = 0) := e
        clear e
        go_wp2
        exact ⟨⟨2, by omega, by go_num, fun _ => HC.out, fun _ => HE.out, fun h => by omega⟩, by simp [intOf]⟩
      · have b : (d != 0) = true := by simp [e]
        go_wp2
        go_ret
        exact ⟨by simp [orJ, HC.out, e], rfl⟩
    · have HC : Hid (c = 0) := hc (by omega)
      have HD : Hid (d = 0) := hd (by omega)
      clear hc hd hf
      by_cases e : f = 0
      · have b : (f != 0) = false := by simp [e]
        have HE : Hid (f = 0) := e
        clear e
        go_wp2
        exact ⟨⟨3, by omega, by go_num, fun _ => HC.out, fun _ => HD.out, fun _ => HE.out⟩, by simp [intOf]⟩
      · have b : (f != 0) = true := by simp [e]
        go_wp2
        go_ret
        exact ⟨by simp [orJ, HC.out, HD.out], rfl⟩
    · have HC : Hid (c = 0) := hc (by omega)
      have HD : Hid (d = 0) := hd (by omega)
      have HF : Hid (f = 0) := hf (by omega)
      clear hc hd hf
      go_wp2
      go_ret
      exact ⟨by simp [orJ, HC.out, HD.out, HF.out], rfl⟩

/-- Three cells of each of two locks stand. -/
def Six (w : World) (b : Nat) (x y : LkI) : Prop := (w.cell? ⟨b, 0, none⟩ = some (.int .i64 x.e) ∧ w.cell? ⟨b, 1, none⟩ = some (.int .i64 x.c) ∧ w.cell? ⟨b, 2, none⟩ = some (.int .i64 x.p)) ∧ (w.cell? ⟨b + 1, 0, none⟩ = some (.int .i64 y.e) ∧ w.cell? ⟨b + 1, 1, none⟩ = some (.int .i64 y.c) ∧ w.cell? ⟨b + 1, 2, none⟩ = some (.int .i64 y.p))

theorem kpC_new {W w : World} (h : (∀ b o, b < W.heap.size → w.cell? ⟨b, o, none⟩ = W.cell? ⟨b, o, none⟩) ∧ Below W.heap.size W w) (o : Obj) : (∀ b i, b < W.heap.size → (w.alloc o).cell? ⟨b, i, none⟩ = W.cell? ⟨b, i, none⟩) ∧ Below W.heap.size W (w.alloc o) :=
  kp_step h ((Below.refl _ _).alloc (Nat.le_refl _) _)

set_option maxHeartbeats 400000 in
theorem iBad_c (v : Int) (w : World) : Calls Try.prog 48 #[.int .i64 v] w fun e w' => e = .returned (.bool (inR v 1 2)) ∧ w = w' := by
  unfold inR
  cases h0 : decide (1 ≤ v)
  · go_enter Try.func48, Try.ntmps48
    go_wp2
    go_ret
    exact ⟨by simp, rfl⟩
  · cases h1 : decide (v ≤ 2)
    all_goals
      go_enter Try.func48, Try.ntmps48
      go_wp2
      go_ret
      exact ⟨by simp, rfl⟩

set_option maxHeartbeats 400000 in
theorem l6F_c (v : Int) (w : World) : Calls Try.prog 34 #[.int .i64 v] w fun e w' => e = .returned (.bool (inR v 1 2)) ∧ w = w' := by
  go_enter Try.func34, Try.ntmps34
  go_wp2_with (go_at_call 55; refine (cin_c _ _ _ _).mono ?_; rintro e w' ⟨rfl, rfl⟩)
  go_ret
  exact ⟨rfl, rfl⟩

set_option maxHeartbeats 1000000 in
theorem formsFault_c (a : Option Addr) (n cap : Nat) (fs : List FormI) (w : World) (hn : n ≤ 1048576) (hle : FormsLe 1048576 fs) (h : FormsIn w a n fs) :
    Calls Try.prog 51 #[.slice a n cap] w fun e w' => e = .returned (.int .i64 (fmCode (partsL fs))) ∧ Below w.heap.size w w' := by
  have H : Hid (FormsIn w a n fs) := h
  have HZ : Hid ((partsL fs).length = n) := by show (partsL fs).length = n; rw [partsL_len]; exact h.1
  have HLE : Hid (FormsLe 1048576 fs) := hle
  clear h hle
  by_cases h4 : 4 < n
  · have HC : Hid (fmCode (partsL fs) = 2) := by show fmCode (partsL fs) = 2; unfold fmCode; rw [if_pos (by rw [HZ.out]; exact h4)]
    have h4' : (4 : Int) < (n : Int) := by omega
    go_enter Try.func51, Try.ntmps51
    go_wp2
    go_ret
    exact ⟨by rw [HC.out]; rfl, Below.refl _ _⟩
  · have HC : Hid (fmCode (partsL fs) = fmTo (partsL fs) n) := by show fmCode (partsL fs) = fmTo (partsL fs) n; unfold fmCode; rw [if_neg (by rw [HZ.out]; exact h4), HZ.out]
    have h4' : (n : Int) ≤ 4 := by omega
    rw [HC.out]
    go_enter Try.func51, Try.ntmps51
    go_wp2
    go_loopw [11] (fun i wr => ∃ k : Nat, k ≤ n ∧ i = .int .i64 (k : Int) ∧ fmTo (partsL fs) k = 0 ∧ Below w.heap.size w wr) (fun i _ => n - (intOf i).toNat)
    case atStart => exact ⟨0, Nat.zero_le _, rfl, rfl, Below.refl _ _⟩
    case round =>
      obtain ⟨k, hk, rfl, hz, hnx⟩ := hrel
      have HK : Hid (fmTo (partsL fs) k = 0) := hz
      clear hz
      by_cases hlt : k < n
      · obtain ⟨b, off, x, rfl, hs, hr⟩ := H.out.at hlt
        have HS : Hid ((partsL fs)[k]? = some x.ps) := partsL_at hs
        have hx : x.n ≤ 1048576 := HLE.out k x hs
        have hb : b < w.heap.size := hr.lt
        have hc := (hr.below hnx).1
        have HP : Hid (PartsIn wr x.a x.n x.ps) := (hr.below hnx).2
        clear hs hr
        have hlt' : (k : Int) < (n : Int) := by omega
        have hA : Below wr.heap.size wr (wr.alloc (.cells #[.slice x.a x.n x.cap] 65)) := (Below.refl _ _).alloc (Nat.le_refl _) _
        obtain ⟨q, hq⟩ : ∃ q, ptCode x.ps = q := ⟨_, rfl⟩
        go_wp2_with fail
        refine (implPartsFault_c x.a x.n x.cap x.ps _ (by unfold maxLen; omega) (HP.out.below hA)).mono ?_
        rintro e w1 ⟨rfl, hb1⟩
        rw [hq]
        have hb01 : Below w.heap.size w w1 := hnx.trans ((hA.trans (hb1.mono hA.size)).mono hnx.size)
        have HQ : Hid (fmTo (partsL fs) (k + 1) = q) := by show fmTo (partsL fs) (k + 1) = q; rw [fmTo_next HS.out HK.out]; exact hq
        clear hc hq hA hb1
        by_cases q0 : q = 0
        · have qb : (q != 0) = false := by simp [q0]
          have HQ0 : Hid (q = 0) := q0
          clear q0
          go_wp2
          exact ⟨⟨k + 1, by omega, by go_num, by rw [HQ.out]; exact HQ0.out, hb01⟩, by simp [intOf]; omega⟩
        · have qb : (q != 0) = true := by simp [q0]
          have HE : Hid (fmTo (partsL fs) n = q) := fmTo_stay _ _ _ _ q0 HQ.out (by omega)
          go_wp2
          go_ret
          exact ⟨by rw [HE.out]; rfl, hb01⟩
      · have hkn : k = n := by omega
        subst hkn
        go_wp2
        go_ret
        exact ⟨by rw [HK.out]; rfl, hnx⟩

set_option maxHeartbeats 400000 in
theorem classFault_c (a : Option Addr) (n cap : Nat) (zs : List Int) (w : World) (h : IntIn w a n zs) :
    Calls Try.prog 52 #[.slice a n cap] w fun e w' => e = .returned (.int .i64 (clCode zs)) ∧ w = w' := by
  have HI : Hid (IntIn w a n zs) := h
  clear h
  go_enter Try.func52, Try.ntmps52
  go_wp2_with (go_at_call 73; refine (implClassesFault_c _ _ _ zs _ HI.out).mono ?_; rintro e w' ⟨rfl, rfl⟩)
  go_ret
  exact ⟨rfl, rfl⟩

set_option maxHeartbeats 400000 in
theorem epochOf_c (c : ConfI) (w : World) : Calls Try.prog 29 #[.agg #[.int .i64 c.e, .int .i64 c.f, .slice c.ra c.rn c.rc, .slice c.fa c.fn c.fc, .slice c.ca c.cn c.cc]] w fun e w' => e = .returned (.agg #[.slice c.ca c.cn c.cc, .int .i64 c.e, .int .i64 c.f, .slice c.ra c.rn c.rc, .slice c.fa c.fn c.fc]) ∧ Below w.heap.size w w' := by
  go_enter Try.func29, Try.ntmps29
  go_wp2
  go_returns
  exact ⟨rfl, by go_grown⟩

set_option maxRecDepth 100000 in
set_option maxHeartbeats 2000000 in
theorem epochFault_c (c : ConfI) (w : World) (hle : ConfLe 1048576 c) (hrc : c.rn ≤ c.rc) (hrm : c.rc ≤ maxLen) (h : ConfIn w c) :
    Calls Try.prog 30 #[.agg #[.slice c.ca c.cn c.cc, .int .i64 c.e, .int .i64 c.f, .slice c.ra c.rn c.rc, .slice c.fa c.fn c.fc]] w fun e w' => e = .returned (.int .i64 (cfCode c.e c.f c.zs (partsL c.fs) c.cs)) ∧ Below w.heap.size w w' := by
  obtain ⟨t1, h1⟩ : ∃ t, inR c.e 1 9 = t := ⟨_, rfl⟩
  obtain ⟨t2, h2⟩ : ∃ t, inR c.f 1 2 = t := ⟨_, rfl⟩
  have H1 : Hid (inR c.e 1 9 = t1) := h1
  have H2 : Hid (inR c.f 1 2 = t2) := h2
  cases t1
  · have HV : Hid (cfCode c.e c.f c.zs (partsL c.fs) c.cs = 3) := by show cfCode _ _ _ _ _ = 3; unfold cfCode; rw [if_pos h1]
    clear h1 h2 h
    go_enter Try.func30, Try.ntmps30
    go_wp2_with (first | (go_at_call 47; refine (iEpoch_c _ _).mono ?_; rintro e w' ⟨rfl, rfl⟩; rw [H1.out]))
    go_ret
    exact ⟨by rw [HV.out]; rfl, by go_grown⟩
  · cases t2
    · have HV : Hid (cfCode c.e c.f c.zs (partsL c.fs) c.cs = 3) := by show cfCode _ _ _ _ _ = 3; unfold cfCode; rw [if_neg (by simp [h1]), if_pos h2]
      clear h1 h2 h
      go_enter Try.func30, Try.ntmps30
      go_wp2_with (first | (go_at_call 47; refine (iEpoch_c _ _).mono ?_; rintro e w' ⟨rfl, rfl⟩; rw [H1.out]) | (go_at_call 48; refine (iBad_c _ _).mono ?_; rintro e w' ⟨rfl, rfl⟩; rw [H2.out]))
      go_ret
      exact ⟨by rw [HV.out]; rfl, by go_grown⟩
    · have HV : Hid (cfCode c.e c.f c.zs (partsL c.fs) c.cs = orJ (polCode c.zs) (orJ (fmCode (partsL c.fs)) (clCode c.cs))) := by show cfCode _ _ _ _ _ = _; unfold cfCode; rw [if_neg (by simp [h1]), if_neg (by simp [h2])]
      rw [HV.out]
      obtain ⟨W, hW⟩ : ∃ W, W = w.alloc (.cells #[.slice c.ca c.cn c.cc, .int .i64 c.e, .int .i64 c.f, .slice c.ra c.rn c.rc, .slice c.fa c.fn c.fc] 54) := ⟨_, rfl⟩
      have hs : W.heap.size = w.heap.size + 1 := by rw [hW]; simp
      have B0 : Below w.heap.size w W := by rw [hW]; exact (Below.refl _ _).alloc (Nat.le_refl _) _
      have c0 : W.cell? ⟨w.heap.size, 0, none⟩ = some (.slice c.ca c.cn c.cc) := by rw [hW]; simp
      have c3 : W.cell? ⟨w.heap.size, 3, none⟩ = some (.slice c.ra c.rn c.rc) := by rw [hW]; simp
      have c4 : W.cell? ⟨w.heap.size, 4, none⟩ = some (.slice c.fa c.fn c.fc) := by rw [hW]; simp
      have HP : Hid (∀ w2 : World, (∀ b o, b < W.heap.size → w2.cell? ⟨b, o, none⟩ = W.cell? ⟨b, o, none⟩) ∧ Below W.heap.size W w2 → Calls Try.prog 50 #[.slice c.ra c.rn c.rc] w2 fun e w' => e = .returned (.int .i64 (polCode c.zs)) ∧ Below w2.heap.size w2 w') := fun w2 q => implPolicyFault_c c.ra c.rn c.rc c.zs w2 hle.rules hrc hrm (h.rules.below (B0.trans (q.2.mono (by omega))))
      have HF : Hid (∀ w2 : World, (∀ b o, b < W.heap.size → w2.cell? ⟨b, o, none⟩ = W.cell? ⟨b, o, none⟩) ∧ Below W.heap.size W w2 → Calls Try.prog 51 #[.slice c.fa c.fn c.fc] w2 fun e w' => e = .returned (.int .i64 (fmCode (partsL c.fs))) ∧ Below w2.heap.size w2 w') := fun w2 q => formsFault_c c.fa c.fn c.fc c.fs w2 hle.forms hle.parts (h.forms.below (B0.trans (q.2.mono (by omega))))
      have HK : Hid (∀ w2 : World, (∀ b o, b < W.heap.size → w2.cell? ⟨b, o, none⟩ = W.cell? ⟨b, o, none⟩) ∧ Below W.heap.size W w2 → Calls Try.prog 52 #[.slice c.ca c.cn c.cc] w2 fun e w' => e = .returned (.int .i64 (clCode c.cs)) ∧ Below w2.heap.size w2 w') := fun w2 q => (classFault_c c.ca c.cn c.cc c.cs w2 (h.classes.below (B0.trans (q.2.mono (by omega))))).mono fun e w' hh => ⟨hh.1, hh.2 ▸ Below.refl _ _⟩
      clear h hle h1 h2
      generalize polCode c.zs = p at HP ⊢
      generalize fmCode (partsL c.fs) = q at HF ⊢
      generalize clCode c.cs = r at HK ⊢
      go_enter Try.func30, Try.ntmps30
      go_wp2_with (first | (go_at_call 47; refine (iEpoch_c _ _).mono ?_; rintro e w' ⟨rfl, rfl⟩; rw [H1.out]) | (go_at_call 48; refine (iBad_c _ _).mono ?_; rintro e w' ⟨rfl, rfl⟩; rw [H2.out]))
      rw [← hW]
      clear hW
      go_region_held3 (fun w' => (∀ b o, b < W.heap.size → w'.cell? ⟨b, o, none⟩ = W.cell? ⟨b, o, none⟩) ∧ Below W.heap.size W w') (first | exact hS | exact kp_drew _ | exact kpC_new (by assumption) _)
        (first | (go_at_call 50; refine (HP.out _ (by assumption)).mono ?_; rintro e w' ⟨rfl, hb2⟩; have hS := kp_step (by assumption) hb2) | (go_at_call 51; refine (HF.out _ (by assumption)).mono ?_; rintro e w' ⟨rfl, hb2⟩; have hS := kp_step (by assumption) hb2) | (go_at_call 52; refine (HK.out _ (by assumption)).mono ?_; rintro e w' ⟨rfl, hb2⟩; have hS := kp_step (by assumption) hb2) | (go_at_call 49; refine (or364_c _ p q r _ ?_ ?_ ?_).mono ?_; (· simp [go_sem]); (· simp [go_sem]); (· simp [go_sem]); rintro e w' ⟨rfl, rfl⟩))
      all_goals
        have hS3 := kpC_new hS (.cells #[.int .i64 p, .int .i64 q, .int .i64 r] 2)
        go_wp2
        go_ret
        exact ⟨rfl, B0.trans (hS3.2.mono (by omega))⟩

set_option maxRecDepth 20000 in
set_option maxHeartbeats 1000000 in
theorem implConfigFault_c (c : ConfI) (w : World) (hle : ConfLe 1048576 c) (hrc : c.rn ≤ c.rc) (hrm : c.rc ≤ maxLen) (h : ConfIn w c) :
    Calls Try.prog 11 #[.agg #[.int .i64 c.e, .int .i64 c.f, .slice c.ra c.rn c.rc, .slice c.fa c.fn c.fc, .slice c.ca c.cn c.cc]] w fun e w' => e = .returned (.int .i64 (cfCode c.e c.f c.zs (partsL c.fs) c.cs)) ∧ Below w.heap.size w w' := by
  have H : Hid (ConfIn w c) := h
  have HLE : Hid (ConfLe 1048576 c) := hle
  clear h hle
  have hA : Below w.heap.size w (w.alloc (.cells #[.int .i64 c.e, .int .i64 c.f, .slice c.ra c.rn c.rc, .slice c.fa c.fn c.fc, .slice c.ca c.cn c.cc] 32)) := (Below.refl _ _).alloc (Nat.le_refl _) _
  obtain ⟨v, hv⟩ : ∃ v, cfCode c.e c.f c.zs (partsL c.fs) c.cs = v := ⟨_, rfl⟩
  rw [hv]
  have HF : Hid (∀ w2 : World, Below w.heap.size w w2 → Calls Try.prog 30 #[.agg #[.slice c.ca c.cn c.cc, .int .i64 c.e, .int .i64 c.f, .slice c.ra c.rn c.rc, .slice c.fa c.fn c.fc]] w2 fun e w' => e = .returned (.int .i64 v) ∧ Below w2.heap.size w2 w') := fun w2 q => by rw [← hv]; exact epochFault_c c w2 HLE.out hrc hrm (H.out.below q)
  clear hv
  go_enter Try.func11, Try.ntmps11
  go_wp2_with fail
  refine (epochOf_c c _).mono ?_
  rintro e w1 ⟨rfl, hb1⟩
  have hB1 : Below w.heap.size w w1 := hA.trans (hb1.mono hA.size)
  clear hA hb1
  go_wp2_with fail
  refine (HF.out _ hB1).mono ?_
  rintro e w2 ⟨rfl, hb2⟩
  have hB2 : Below w.heap.size w w2 := hB1.trans (hb2.mono hB1.size)
  clear hb2 hB1
  go_wp2
  go_ret
  exact ⟨rfl, hB2⟩

set_option maxRecDepth 20000 in
set_option maxHeartbeats 2000000 in
theorem l6Fault_c (g : Nat) (c : ConfI) (w : World) (hle : ConfLe 1048576 c) (hk : ConfAt w g c) (h : ConfIn w c) :
    Calls Try.prog 25 #[.pointer (some ⟨g, 0, none⟩)] w fun e w' => e = .returned (.int .i64 (cfCode c.e c.f c.zs (partsL c.fs) c.cs)) ∧ Below w.heap.size w w' := by
  obtain ⟨t1, h1⟩ : ∃ t, inR c.e 1 9 = t := ⟨_, rfl⟩
  obtain ⟨t2, h2⟩ : ∃ t, inR c.f 1 2 = t := ⟨_, rfl⟩
  have H1 : Hid (inR c.e 1 9 = t1) := h1
  have H2 : Hid (inR c.f 1 2 = t2) := h2
  have hg : g < w.heap.size := hk.lt
  have HK : Hid (ConfAt w g c) := hk
  obtain ⟨k0, k1, k2, k3, k4⟩ := hk
  cases t1
  · have HV : Hid (cfCode c.e c.f c.zs (partsL c.fs) c.cs = 3) := by show cfCode _ _ _ _ _ = 3; unfold cfCode; rw [if_pos h1]
    clear h1 h2 h
    go_enter Try.func25, Try.ntmps25
    go_wp2_with (first | (go_at_call 41; refine (sEpoch_c _ _).mono ?_; rintro e w' ⟨rfl, rfl⟩; rw [H1.out]))
    go_ret
    exact ⟨by rw [HV.out]; rfl, by go_grown⟩
  · cases t2
    · have HV : Hid (cfCode c.e c.f c.zs (partsL c.fs) c.cs = 3) := by show cfCode _ _ _ _ _ = 3; unfold cfCode; rw [if_neg (by simp [h1]), if_pos h2]
      clear h1 h2 h
      go_enter Try.func25, Try.ntmps25
      go_wp2_with (first | (go_at_call 41; refine (sEpoch_c _ _).mono ?_; rintro e w' ⟨rfl, rfl⟩; rw [H1.out]) | (go_at_call 34; refine (l6F_c _ _).mono ?_; rintro e w' ⟨rfl, rfl⟩; rw [H2.out]))
      go_ret
      exact ⟨by rw [HV.out]; rfl, by go_grown⟩
    · have HV : Hid (cfCode c.e c.f c.zs (partsL c.fs) c.cs = orJ (polCode c.zs) (orJ (fmCode (partsL c.fs)) (clCode c.cs))) := by show cfCode _ _ _ _ _ = _; unfold cfCode; rw [if_neg (by simp [h1]), if_neg (by simp [h2])]
      rw [HV.out]
      have HLE : Hid (ConfLe 1048576 c) := hle
      have H : Hid (ConfIn w c) := h
      clear h1 h2 h hle
      obtain ⟨p, hp⟩ : ∃ p, polCode c.zs = p := ⟨_, rfl⟩
      obtain ⟨r, hr⟩ : ∃ r, clCode c.cs = r := ⟨_, rfl⟩
      have HP : Hid (Calls Try.prog 42 #[.slice c.ra c.rn c.rc] w fun e w' => e = .returned (.int .i64 p) ∧ Below w.heap.size w w') := by rw [← hp]; exact l2Fault_c c.ra c.rn c.rc c.zs w HLE.out.rules H.out.rules
      have HR : Hid (∀ w2 : World, Below w.heap.size w w2 → Calls Try.prog 44 #[.slice c.ca c.cn c.cc] w2 fun e w' => e = .returned (.int .i64 r) ∧ w2 = w') := fun w2 q => by rw [← hr]; exact l5Classes_c c.ca c.cn c.cc c.cs w2 (H.out.classes.below q)
      rw [hp, hr]
      clear hp hr
      have HZ : Hid ((partsL c.fs).length = c.fn) := by show (partsL c.fs).length = c.fn; rw [partsL_len]; exact H.out.forms.1
      have hfn : (c.fn : Int) ≤ 1048576 := by have := HLE.out.forms; omega
      go_enter Try.func25, Try.ntmps25
      go_wp2_with (first | (go_at_call 41; refine (sEpoch_c _ _).mono ?_; rintro e w' ⟨rfl, rfl⟩; rw [H1.out]) | (go_at_call 34; refine (l6F_c _ _).mono ?_; rintro e w' ⟨rfl, rfl⟩; rw [H2.out]) | fail)
      refine HP.out.mono ?_
      rintro e w1 ⟨rfl, hb1⟩
      obtain ⟨d0, d1, d2, d3, d4⟩ := HK.out.below hb1
      have hg1 : g < w1.heap.size := by have := hb1.size; omega
      clear k0 k1 k2 k3 k4 d0 d1 d2
      by_cases p0 : p = 0
      · have pb : (p != 0) = false := by simp [p0]
        have HPO : Hid (∀ x, orJ p x = x) := fun x => by simp [orJ, p0]
        clear p0
        by_cases h4 : 4 < c.fn
        · have HC : Hid (fmCode (partsL c.fs) = 2) := by show fmCode (partsL c.fs) = 2; unfold fmCode; rw [if_pos (by rw [HZ.out]; exact h4)]
          have h4' : (4 : Int) < (c.fn : Int) := by omega
          go_wp2
          go_ret
          exact ⟨by rw [HPO.out, HC.out]; rfl, hb1⟩
        · have HC : Hid (fmCode (partsL c.fs) = fmTo (partsL c.fs) c.fn) := by show fmCode (partsL c.fs) = fmTo (partsL c.fs) c.fn; unfold fmCode; rw [if_neg (by rw [HZ.out]; exact h4), HZ.out]
          have h4' : (c.fn : Int) ≤ 4 := by omega
          go_wp2
          go_loopw [4] (fun i wr => ∃ k : Nat, k ≤ c.fn ∧ i = .int .i64 (k : Int) ∧ fmTo (partsL c.fs) k = 0 ∧ Below w.heap.size w wr) (fun i _ => c.fn - (intOf i).toNat)
          case atStart => exact ⟨0, Nat.zero_le _, rfl, rfl, hb1⟩
          case round =>
            obtain ⟨k, hk, rfl, hz, hnx⟩ := hrel
            have HK0 : Hid (fmTo (partsL c.fs) k = 0) := hz
            obtain ⟨m0, m1, m2, m3, m4⟩ := HK.out.below hnx
            have hgr : g < wr.heap.size := by have := hnx.size; omega
            clear hz d3 d4 m0 m1 m2
            by_cases hlt : k < c.fn
            · obtain ⟨b, off, x, hfa, hs, hr⟩ := H.out.forms.at hlt
              have HS : Hid ((partsL c.fs)[k]? = some x.ps) := partsL_at hs
              have hx : x.n ≤ 1048576 := HLE.out.parts k x hs
              have hb : b < w.heap.size := hr.lt
              have hc := (hr.below hnx).1
              have HPI : Hid (PartsIn wr x.a x.n x.ps) := (hr.below hnx).2
              rw [hfa] at m3
              have hbr : b < wr.heap.size := by have := hnx.size; omega
              clear hs hr hfa
              have hlt' : (k : Int) < (c.fn : Int) := by omega
              obtain ⟨q, hq⟩ : ∃ q, ptCode x.ps = q := ⟨_, rfl⟩
              go_wp2_with fail
              refine (l4Fault_c x.a x.n x.cap x.ps _ (by unfold maxLen; omega) HPI.out).mono ?_
              rintro e w2 ⟨rfl, hb2⟩
              rw [hq]
              have hb02 : Below w.heap.size w w2 := hnx.trans (hb2.mono hnx.size)
              have HQ : Hid (fmTo (partsL c.fs) (k + 1) = q) := by show fmTo (partsL c.fs) (k + 1) = q; rw [fmTo_next HS.out HK0.out]; exact hq
              clear hc hq hb2 m3 m4
              by_cases q0 : q = 0
              · have qb : (q != 0) = false := by simp [q0]
                have HQ0 : Hid (q = 0) := q0
                clear q0
                go_wp2
                exact ⟨⟨k + 1, by omega, by go_num, by rw [HQ.out]; exact HQ0.out, hb02⟩, by simp [intOf]; omega⟩
              · have qb : (q != 0) = true := by simp [q0]
                have HE : Hid (orJ (fmCode (partsL c.fs)) r = q) := by
                  show orJ _ _ = _
                  rw [HC.out, fmTo_stay _ _ c.fn _ q0 HQ.out (by omega)]
                  simp [orJ, q0]
                go_wp2
                go_ret
                exact ⟨by rw [HPO.out, HE.out]; rfl, hb02⟩
            · have hkn : k = c.fn := by omega
              have HE : Hid (orJ (fmCode (partsL c.fs)) r = r) := by
                show orJ _ _ = _
                rw [HC.out, ← hkn, HK0.out]
                simp [orJ]
              have hlt' : ¬ ((k : Int) < (c.fn : Int)) := by omega
              clear hkn
              go_wp2_with fail
              refine (HR.out _ hnx).mono ?_
              rintro e w2 ⟨rfl, rfl⟩
              go_wp2
              go_ret
              exact ⟨by rw [HPO.out, HE.out]; rfl, hnx⟩
      · have pb : (p != 0) = true := by simp [p0]
        have HPO : Hid (∀ x, orJ p x = p) := fun x => by simp [orJ, p0]
        clear p0
        go_wp2
        go_ret
        exact ⟨by rw [HPO.out]; rfl, hb1⟩

set_option maxRecDepth 20000 in
set_option maxHeartbeats 1000000 in
theorem specConfigFault_c (c : ConfI) (w : World) (hle : ConfLe 1048576 c) (h : ConfIn w c) :
    Calls Try.prog 9 #[.agg #[.int .i64 c.e, .int .i64 c.f, .slice c.ra c.rn c.rc, .slice c.fa c.fn c.fc, .slice c.ca c.cn c.cc]] w fun e w' => e = .returned (.int .i64 (cfCode c.e c.f c.zs (partsL c.fs) c.cs)) ∧ Below w.heap.size w w' := by
  have hA : Below w.heap.size w (w.alloc (.cells #[.int .i64 c.e, .int .i64 c.f, .slice c.ra c.rn c.rc, .slice c.fa c.fn c.fc, .slice c.ca c.cn c.cc] 32)) := (Below.refl _ _).alloc (Nat.le_refl _) _
  have HC : Hid (Calls Try.prog 25 #[.pointer (some ⟨w.heap.size, 0, none⟩)] (w.alloc (.cells #[.int .i64 c.e, .int .i64 c.f, .slice c.ra c.rn c.rc, .slice c.fa c.fn c.fc, .slice c.ca c.cn c.cc] 32)) fun e w' => e = .returned (.int .i64 (cfCode c.e c.f c.zs (partsL c.fs) c.cs)) ∧ Below (w.alloc (.cells #[.int .i64 c.e, .int .i64 c.f, .slice c.ra c.rn c.rc, .slice c.fa c.fn c.fc, .slice c.ca c.cn c.cc] 32)).heap.size (w.alloc (.cells #[.int .i64 c.e, .int .i64 c.f, .slice c.ra c.rn c.rc, .slice c.fa c.fn c.fc, .slice c.ca c.cn c.cc] 32)) w') := l6Fault_c w.heap.size c _ hle (ConfAt.new w c _) (h.below hA)
  clear h hle
  generalize cfCode c.e c.f c.zs (partsL c.fs) c.cs = v at HC ⊢
  go_enter Try.func9, Try.ntmps9
  go_wp2_with fail
  refine HC.out.mono ?_
  rintro e w1 ⟨rfl, hb1⟩
  have hB1 : Below w.heap.size w w1 := hA.trans (hb1.mono hA.size)
  clear hA hb1
  go_wp2
  go_ret
  exact ⟨rfl, hB1⟩

end Go.Proofs.Ytnfolmjdicfobaa

namespace Go.Proofs.Ytnfolmjdicfobaa
open Go.RowKit

theorem okR_of {r : RuleI} (h : ruleCode r = 0) : okR r ∧ 1 ≤ r.k ∧ r.k ≤ 4 := by
  unfold ruleCode at h
  by_cases hk : 1 ≤ r.k ∧ r.k ≤ 4
  · rw [if_neg (fun q => q hk)] at h
    cases hr : roleB r.ho r.hn
    · simp [hr] at h
    · refine ⟨⟨hr, fun e => ?_⟩, hk⟩
      rw [if_neg (by rw [hr]; simp)] at h
      cases hb : bareB r
      · simp [hb] at h
      · cases hh : hasB r
        · simp [hb, hh] at h
        · unfold hasB at hh
          rw [if_pos e] at hh
          simpa [prinB] using hh
  · rw [if_pos hk] at h; cases h

theorem polTo_all {zs : List RuleI} : ∀ k, polTo zs k = 0 → ∀ j z, j < k → zs[j]? = some z → ruleCode z = 0
  | 0, _, j, _, hj, _ => by omega
  | k + 1, h, j, z, hj, hz => by
    have h0 : polTo zs k = 0 := by
      by_cases q : polTo zs k = 0
      · exact q
      · exact absurd (polTo_stay zs k (k + 1) _ q rfl (by omega)) (by rw [h]; exact fun e => q e.symm)
    by_cases e : j = k
    · subst e
      by_cases q : ruleCode z = 0
      · exact q
      · rw [polTo_bad zs j z hz h0 q] at h; exact h
    · exact polTo_all k h0 j z (by omega) hz

theorem pol_ok {zs : List RuleI} (h : polCode zs = 0) : zs.length ≤ 16 ∧ ∀ z ∈ zs, okR z ∧ 1 ≤ z.k ∧ z.k ≤ 4 := by
  unfold polCode at h
  split at h
  · cases h
  · refine ⟨by omega, fun z hz => ?_⟩
    obtain ⟨j, hj⟩ := List.mem_iff_getElem?.1 hz
    have hl : j < zs.length := by
      by_cases q : j < zs.length
      · exact q
      · rw [List.getElem?_eq_none (by omega)] at hj; cases hj
    exact okR_of (polTo_all _ h j z hl hj)

end Go.Proofs.Ytnfolmjdicfobaa

namespace Go.Proofs.Ytnfolmjdicfobaa
open Go.RowKit

/-! lists -/

theorem nodup_len {α : Type} [DecidableEq α] : ∀ (l L : List α), l.Nodup → (∀ x ∈ l, x ∈ L) → l.length ≤ L.length
  | [], _, _, _ => by simp
  | x :: xs, L, h, hs => by
    have h' := List.nodup_cons.1 h
    have hx : x ∈ L := hs x (by simp)
    have := nodup_len xs (L.erase x) h'.2 (fun y hy => (List.mem_erase_of_ne (fun e => h'.1 (by rw [← e]; exact hy))).2 (hs y (by simp [hy])))
    rw [List.length_erase_of_mem hx] at this
    have : 0 < L.length := List.length_pos_of_mem hx
    simp only [List.length_cons]
    omega

theorem sum_mono {α : Type} (f g : α → Int) : ∀ (l : List α), (∀ x ∈ l, f x ≤ g x) → (l.map f).sum ≤ (l.map g).sum
  | [], _ => by simp
  | x :: xs, h => by
    have := sum_mono f g xs (fun y hy => h y (by simp [hy]))
    have := h x (by simp)
    simp only [List.map_cons, List.sum_cons]
    omega

theorem sum_strict {α : Type} (f g : α → Int) (a : α) : ∀ (l : List α), (∀ x ∈ l, f x ≤ g x) → a ∈ l → f a < g a → (l.map f).sum < (l.map g).sum
  | [], _, h, _ => by cases h
  | x :: xs, h, ha, hlt => by
    have hx := h x (by simp)
    have hm := sum_mono f g xs (fun y hy => h y (by simp [hy]))
    simp only [List.map_cons, List.sum_cons]
    rcases List.mem_cons.1 ha with rfl | ha'
    · omega
    · have := sum_strict f g a xs (fun y hy => h y (by simp [hy])) ha' hlt
      omega

/-! the roles -/

def allRo : List RoI := (List.range 8).flatMap (fun (i : Nat) => (List.range 5).map (fun (j : Nat) => ((((i : Int) + 1), ((j : Int) + 1)) : RoI)))

theorem allRo_len : allRo.length = 40 := by decide

theorem mem_allRo {r : RoI} (h : roleB r.1 r.2 = true) : r ∈ allRo := by
  obtain ⟨a, b⟩ := r
  simp [roleB, prinB, nameB] at h
  unfold allRo
  rw [List.mem_flatMap]
  obtain ⟨⟨h1, h2⟩, h3, h4⟩ := h
  obtain ⟨i, rfl⟩ : ∃ i : Nat, a = (i : Int) + 1 := ⟨(a - 1).toNat, by omega⟩
  obtain ⟨j, rfl⟩ : ∃ j : Nat, b = (j : Int) + 1 := ⟨(b - 1).toNat, by omega⟩
  have hi : i < 8 := by omega
  have hj : j < 5 := by omega
  exact ⟨i, List.mem_range.2 hi, List.mem_map.2 ⟨j, List.mem_range.2 hj, rfl⟩⟩

/-! who has which role, as a function -/

structure FN (f : RoI → Int) : Prop where
  st : ∀ r, setB (f r)
  ro : ∀ r, f r ≠ 0 → roleB r.1 r.2 = true

def zeroF : RoI → Int := fun _ => 0
def giveF (f : RoI → Int) (r : RoI) (s : Int) : RoI → Int := fun r' => if r' = r then orI (f r) s else f r'

theorem fn_zero : FN zeroF := ⟨fun _ => ⟨Int.le_refl _, show (0 : Int) ≤ 255 by decide⟩, fun _ h => absurd rfl h⟩

theorem fn_give {f : RoI → Int} (h : FN f) {r : RoI} (hr : roleB r.1 r.2 = true) {s : Int} (hs : setB s) : FN (giveF f r s) := by
  refine ⟨fun r' => ?_, fun r' hn => ?_⟩
  · unfold giveF
    split
    · exact or_set (h.st _) hs
    · exact h.st _
  · unfold giveF at hn
    split at hn
    · rename_i e; rw [e]; exact hr
    · exact h.ro _ hn

theorem fn_of_sg {gs : List GrI} (h : SG gs) : FN (ofG gs) := by
  refine ⟨ofG_set h, fun r hr => ?_⟩
  exact h.ro _ (ofG_some hr)

theorem or_zero {s : Int} (hs : setB s) : orI s 0 = s := by
  obtain ⟨B, rfl⟩ := Int.eq_ofNat_of_zero_le hs.1
  have h2 := hs.2
  have := or_nat B 0 (by omega) (by omega)
  simpa using this

theorem or_same {a b : Int} (ha : setB a) (hb : setB b) : orI a b = a ↔ ∀ p, 1 ≤ p → hasI b p = true → hasI a p = true := by
  constructor
  · intro e p _ q
    have := hasI_or ha hb p
    rw [e, q, Bool.or_true] at this
    exact this
  · intro h
    refine set_ext (or_set ha hb) ha (fun p h0 _ => ?_)
    rw [hasI_or ha hb]
    cases q : hasI b p
    · simp
    · rw [h p h0 q]; rfl

theorem hasI_give {f : RoI → Int} (h : FN f) (r : RoI) {s : Int} (hs : setB s) (r' : RoI) (p : Int) : hasI (giveF f r s r') p = true ↔ hasI (f r') p = true ∨ (r' = r ∧ hasI s p = true) := by
  unfold giveF
  split
  · rename_i e
    subst e
    rw [hasI_or (h.st _) hs]
    simp
  · rename_i e
    simp [e]

theorem give_same {f : RoI → Int} {r : RoI} {s : Int} (e : orI (f r) s = f r) : giveF f r s = f := by
  funext r'
  unfold giveF
  split
  · rename_i q; subst q; exact e
  · rfl

theorem ofG_add {gs : List GrI} (h : SG gs) {r : RoI} {s : Int} (hs : setB s) : ofG (addG gs r s) = giveF (ofG gs) r s := by
  unfold addG
  split
  · rename_i e
    subst e
    exact (give_same (or_zero (ofG_set h r))).symm
  · have := hs.1
    funext r'
    rw [ofG_ins h ⟨by omega, hs.2⟩]
    rfl

/-- One step over the first k rules. -/
def stepFTo (zs : List RuleI) (f : RoI → Int) (k : Nat) : RoI → Int := (zs.take k).foldl (fun o z => giveF o (z.ho, z.hn) (byF f z)) f

theorem stepFTo_succ {zs : List RuleI} {k : Nat} {z : RuleI} (h : zs[k]? = some z) (f : RoI → Int) : stepFTo zs f (k + 1) = giveF (stepFTo zs f k) (z.ho, z.hn) (byF f z) := by
  have hk : k < zs.length := by
    by_cases q : k < zs.length
    · exact q
    · rw [List.getElem?_eq_none (by omega)] at h; cases h
  have e : zs[k] = z := by rw [List.getElem?_eq_getElem hk] at h; exact Option.some.inj h
  rw [stepFTo, List.take_succ_eq_append_getElem hk, List.foldl_append, e]
  rfl

theorem fn_stepTo {zs : List RuleI} {f : RoI → Int} (hz : ∀ z ∈ zs, okR z) (hf : FN f) : ∀ k, FN (stepFTo zs f k)
  | 0 => by simpa [stepFTo] using hf
  | k + 1 => by
    by_cases q : k < zs.length
    · have e : zs[k]? = some zs[k] := List.getElem?_eq_getElem q
      rw [stepFTo_succ e]
      exact fn_give (fn_stepTo hz hf k) (hz _ (List.getElem_mem q)).1 (byF_set hf.st (hz _ (List.getElem_mem q)))
    · have : stepFTo zs f (k + 1) = stepFTo zs f k := by
        unfold stepFTo
        rw [List.take_of_length_le (by omega), List.take_of_length_le (by omega)]
      rw [this]
      exact fn_stepTo hz hf k

theorem ofG_stepTo {zs : List RuleI} {gs : List GrI} (hz : ∀ z ∈ zs, okR z) (hg : SG gs) : ∀ k, ofG (stepTo zs gs k) = stepFTo zs (ofG gs) k
  | 0 => by simp [stepTo, stepFTo]
  | k + 1 => by
    by_cases q : k < zs.length
    · have e : zs[k]? = some zs[k] := List.getElem?_eq_getElem q
      rw [stepFTo_succ e, stepTo_succ e, ofG_add (sg_stepTo hz hg k) (byF_set (ofG_set hg) (hz _ (List.getElem_mem q))), ofG_stepTo hz hg k]
    · have e1 : stepFTo zs (ofG gs) (k + 1) = stepFTo zs (ofG gs) k := by
        unfold stepFTo
        rw [List.take_of_length_le (by omega), List.take_of_length_le (by omega)]
      have e2 : stepTo zs gs (k + 1) = stepTo zs gs k := by
        unfold stepTo
        rw [List.take_of_length_le (by omega), List.take_of_length_le (by omega)]
      rw [e1, e2]
      exact ofG_stepTo hz hg k

def stepF (zs : List RuleI) (f : RoI → Int) : RoI → Int := stepFTo zs f zs.length

theorem ofG_step {zs : List RuleI} {gs : List GrI} (hz : ∀ z ∈ zs, okR z) (hg : SG gs) : ofG (stepG zs gs) = stepF zs (ofG gs) := ofG_stepTo hz hg _

/-- The grants of a function: its roles, rising. -/
theorem sg_keys {f : RoI → Int} (hf : FN f) {rs : List RoI} (hs : SS rs) (hm : ∀ r, r ∈ rs ↔ f r ≠ 0) : SG (rs.map (fun r => (r, f r))) ∧ ofG (rs.map (fun r => (r, f r))) = f := by
  have h1 : SG (rs.map (fun r => (r, f r))) := by
    refine ⟨List.pairwise_map.2 hs, fun x hx => ?_, fun x hx => ?_⟩
    · obtain ⟨r, hr, rfl⟩ := List.mem_map.1 hx
      exact hf.ro r ((hm r).1 hr)
    · obtain ⟨r, hr, rfl⟩ := List.mem_map.1 hx
      have := (hm r).1 hr
      have := hf.st r
      unfold setB at this
      show 1 ≤ f r ∧ f r ≤ 255
      omega
  refine ⟨h1, funext fun r => ?_⟩
  by_cases q : f r = 0
  · rw [q]
    refine ofG_none (fun x hx e => ?_)
    obtain ⟨r', hr, rfl⟩ := List.mem_map.1 hx
    exact (hm r').1 hr (by rw [show r' = r from e]; exact q)
  · exact ofG_mem h1 (x := (r, f r)) (List.mem_map.2 ⟨r, (hm r).2 q, rfl⟩)

/-! the sum over all roles -/

def sumF (f : RoI → Int) : Int := (allRo.map f).sum

theorem sumF_bd {f : RoI → Int} (h : FN f) : 0 ≤ sumF f ∧ sumF f ≤ 10200 := by
  have e1 : ∀ (l : List RoI), 0 ≤ (l.map f).sum ∧ (l.map f).sum ≤ 255 * l.length := by
    intro l
    induction l with
    | nil => simp
    | cons x xs ih =>
      have := h.st x
      unfold setB at this
      simp only [List.map_cons, List.sum_cons, List.length_cons]
      omega
  have := e1 allRo
  rw [allRo_len] at this
  unfold sumF
  omega

theorem sumF_give {f : RoI → Int} (h : FN f) {r : RoI} (hr : roleB r.1 r.2 = true) {s : Int} (hs : setB s) (hn : orI (f r) s ≠ f r) : sumF f < sumF (giveF f r s) := by
  refine sum_strict f _ r allRo (fun x _ => ?_) (mem_allRo hr) ?_
  · unfold giveF
    split
    · rename_i e; subst e; exact or_le (h.st _) hs
    · exact Int.le_refl _
  · have := or_le (h.st r) hs
    unfold giveF
    rw [if_pos rfl]
    omega

/-! the worklist -/

/-- What a rule gives may turn with who has the role h. -/
def leansB (z : RuleI) (h : RoI) : Bool := decide (z.k = 3 ∧ z.tn = h.2) || decide (h ∈ bodyR z)

theorem linkTo_congr {f g : RoI → Int} {n : Int} (h : ∀ y, f (y, n) = g (y, n)) (ys : List Int) (k : Nat) : linkTo f n ys k = linkTo g n ys k := by
  have : (fun (o : Int) (y : Int) => orI o (f (y, n))) = fun o y => orI o (g (y, n)) := by
    funext o y
    rw [h y]
  unfold linkTo
  rw [this]

theorem by_still {f : RoI → Int} {z : RuleI} {h : RoI} {s : Int} (hk : 1 ≤ z.k ∧ z.k ≤ 4) (hl : leansB z h = false) : byF (giveF f h s) z = byF f z := by
  unfold leansB at hl
  rw [Bool.or_eq_false_iff] at hl
  obtain ⟨h1, h2⟩ := hl
  have h1 := of_decide_eq_false h1
  have h2 := of_decide_eq_false h2
  unfold bodyR at h2
  have off : ∀ r, r ≠ h → giveF f h s r = f r := fun r e => if_neg e
  unfold byF
  by_cases e1 : z.k = 1
  · simp only [if_pos e1]
  · simp only [if_neg e1] at h2 ⊢
    by_cases e2 : z.k = 2
    · simp only [if_pos e2]
      rw [if_neg (by omega)] at h2
      exact off _ (fun e => h2 (by rw [e]; simp))
    · simp only [if_neg e2]
      by_cases e4 : z.k = 4
      · simp only [if_pos e4] at h2 ⊢
        rw [off _ (fun e => h2 (by rw [e]; simp)), off _ (fun e => h2 (by rw [e]; simp))]
      · simp only [if_neg e4] at h2 ⊢
        have e3 : z.k = 3 := by omega
        rw [off (z.oo, z.on) (fun e => h2 (by rw [e]; simp))]
        exact linkTo_congr (fun y => off _ (fun e => h1 ⟨e3, by rw [← e]⟩)) _ _

/-- The worklist behind the first k rules are asked. -/
def wakeTo (zs : List RuleI) (h : RoI) (ws : List RuleI) (k : Nat) : List RuleI := (zs.take k).foldl (fun o z => if leansB z h = true ∧ z ∉ o then o ++ [z] else o) ws

theorem wakeTo_succ {zs : List RuleI} {k : Nat} {z : RuleI} (e : zs[k]? = some z) (h : RoI) (ws : List RuleI) : wakeTo zs h ws (k + 1) = if leansB z h = true ∧ z ∉ wakeTo zs h ws k then wakeTo zs h ws k ++ [z] else wakeTo zs h ws k := by
  have hk : k < zs.length := by
    by_cases q : k < zs.length
    · exact q
    · rw [List.getElem?_eq_none (by omega)] at e; cases e
  have e : zs[k] = z := by rw [List.getElem?_eq_getElem hk] at e; exact Option.some.inj e
  rw [wakeTo, List.take_succ_eq_append_getElem hk, List.foldl_append, e]
  rfl

theorem wake_fold (h : RoI) (all : List RuleI) : ∀ (zs ws : List RuleI), (∀ z ∈ zs, z ∈ all) → (∀ z ∈ ws, z ∈ all) → ws.Nodup →
    let o := zs.foldl (fun o z => if leansB z h = true ∧ z ∉ o then o ++ [z] else o) ws
    o.Nodup ∧ (∀ z ∈ o, z ∈ all) ∧ (∀ z ∈ ws, z ∈ o) ∧ (∀ z ∈ zs, leansB z h = true → z ∈ o)
  | [], ws, _, hs, hn => ⟨hn, hs, fun _ q => q, fun _ q => by cases q⟩
  | x :: xs, ws, hz, hs, hn => by
    have hx : x ∈ all := hz x (by simp)
    by_cases q : leansB x h = true ∧ x ∉ ws
    · have hn' : (ws ++ [x]).Nodup := List.nodup_append.2 ⟨hn, by simp, fun a ha b hb e => q.2 (by simp at hb; rw [← hb, ← e]; exact ha)⟩
      have hs' : ∀ z ∈ ws ++ [x], z ∈ all := fun z hzz => by
        rcases List.mem_append.1 hzz with q | q
        · exact hs z q
        · simp at q; rw [q]; exact hx
      obtain ⟨i1, i2, i3, i4⟩ := wake_fold h all xs (ws ++ [x]) (fun z hzz => hz z (by simp [hzz])) hs' hn'
      rw [List.foldl_cons, if_pos q]
      refine ⟨i1, i2, fun z hzz => i3 z (by simp [hzz]), fun z hzz hl => ?_⟩
      rcases List.mem_cons.1 hzz with rfl | hzz'
      · exact i3 z (by simp)
      · exact i4 z hzz' hl
    · obtain ⟨i1, i2, i3, i4⟩ := wake_fold h all xs ws (fun z hzz => hz z (by simp [hzz])) hs hn
      rw [List.foldl_cons, if_neg q]
      refine ⟨i1, i2, i3, fun z hzz hl => ?_⟩
      rcases List.mem_cons.1 hzz with rfl | hzz'
      · exact i3 z (Classical.byContradiction fun e => q ⟨hl, e⟩)
      · exact i4 z hzz' hl

structure Work (zs : List RuleI) (f : RoI → Int) (ws : List RuleI) : Prop where
  fn : FN f
  has : ∀ r p, 1 ≤ p → hasI (f r) p = true → Has zs r p
  sub : ∀ z ∈ ws, z ∈ zs
  nd : ws.Nodup
  done : ∀ z ∈ zs, z ∉ ws → ∀ p, 1 ≤ p → hasI (byF f z) p = true → hasI (f (z.ho, z.hn)) p = true

theorem Work.len {zs : List RuleI} {f : RoI → Int} {ws : List RuleI} (h : Work zs f ws) : ws.length ≤ zs.length := nodup_len _ _ h.nd h.sub

theorem work_start {zs : List RuleI} (hn : zs.Nodup) : Work zs zeroF zs :=
  ⟨fn_zero, fun r p _ q => by simp [zeroF, hasI_zero] at q, fun _ q => q, hn, fun z h1 h2 => absurd h1 h2⟩

theorem work_stay {zs : List RuleI} {f : RoI → Int} {z : RuleI} {ws : List RuleI} (h : Work zs f (z :: ws)) (hok : okR z) (e : orI (f (z.ho, z.hn)) (byF f z) = f (z.ho, z.hn)) : Work zs f ws := by
  refine ⟨h.fn, h.has, fun x hx => h.sub x (by simp [hx]), (List.nodup_cons.1 h.nd).2, fun x h1 h2 p hp q => ?_⟩
  by_cases ex : x = z
  · subst ex
    exact (or_same (h.fn.st _) (byF_set h.fn.st hok)).1 e p hp q
  · exact h.done x h1 (fun m => by rcases List.mem_cons.1 m with m | m; exact ex m; exact h2 m) p hp q

theorem work_grow {zs : List RuleI} (hz : ∀ z ∈ zs, okR z ∧ 1 ≤ z.k ∧ z.k ≤ 4) {f : RoI → Int} {z : RuleI} {ws : List RuleI} (h : Work zs f (z :: ws)) :
    Work zs (giveF f (z.ho, z.hn) (byF f z)) (wakeTo zs (z.ho, z.hn) ws zs.length) := by
  have hok : ∀ z ∈ zs, okR z := fun z q => (hz z q).1
  have hzz : z ∈ zs := h.sub z (by simp)
  have hs := byF_set h.fn.st (hok z hzz)
  have hf := fn_give h.fn (r := (z.ho, z.hn)) (hok z hzz).1 hs
  have hnd := List.nodup_cons.1 h.nd
  have w := wake_fold (z.ho, z.hn) zs zs ws (fun _ q => q) (fun x hx => h.sub x (by simp [hx])) hnd.2
  have ew : wakeTo zs (z.ho, z.hn) ws zs.length = zs.foldl (fun o x => if leansB x (z.ho, z.hn) = true ∧ x ∉ o then o ++ [x] else o) ws := by
    unfold wakeTo
    rw [List.take_length]
  rw [ew]
  obtain ⟨w1, w2, w3, w4⟩ := w
  refine ⟨hf, fun r p hp q => ?_, w2, w1, fun x hx hx2 p hp q => ?_⟩
  · rcases (hasI_give h.fn _ hs r p).1 q with q | ⟨e, q⟩
    · exact h.has r p hp q
    · rw [e]
      exact gives_has hok hzz hp (gives_mono (fun r p hp q => h.has r p hp q) hp ((byF_has h.fn.st (hok z hzz) hp).1 q))
  · have hl : leansB x (z.ho, z.hn) = false := by
      cases e : leansB x (z.ho, z.hn)
      · rfl
      · exact absurd (w4 x hx e) hx2
    rw [by_still (hz x hx).2 hl] at q
    by_cases ex : x = z
    · subst ex
      exact (hasI_give h.fn _ hs _ p).2 (.inr ⟨rfl, q⟩)
    · refine (hasI_give h.fn _ hs _ p).2 (.inl (h.done x hx (fun m => ?_) p hp q))
      rcases List.mem_cons.1 m with m | m
      · exact ex m
      · exact hx2 (w3 x m)

theorem work_end {zs : List RuleI} (hz : ∀ z ∈ zs, okR z) {f : RoI → Int} (h : Work zs f []) {gs : List GrI} (hg : SG gs) (e : ofG gs = f) : AllG zs gs := by
  subst e
  exact allG_of hz hg h.has (fun z hzz p hp q => h.done z hzz (by simp) p hp q)

/-! the first step at which a rule gives -/

/-- A rule of head r that gives it to p. -/
def hitB (f : RoI → Int) (r : RoI) (p : Int) (z : RuleI) : Bool := decide ((z.ho, z.hn) = r) && hasI (byF f z) p

def noneHit (zs : List RuleI) (f : RoI → Int) (r : RoI) (p : Int) : Prop := ∀ z ∈ zs, hitB f r p z = false

theorem inN_hit {zs : List RuleI} (hz : ∀ z ∈ zs, okR z) (n : Nat) (r : RoI) (p : Int) : InN zs (n + 1) r p ↔ InN zs n r p ∨ ¬ noneHit zs (ofG (itG zs n)) r p := by
  unfold InN
  rw [itG, has_step hz (sg_it hz n)]
  refine or_congr_right ?_
  constructor
  · rintro ⟨z, h1, h2, h3⟩ q
    have := q z h1
    simp [hitB, h2, h3] at this
  · intro q
    refine Classical.byContradiction fun hno => q (fun z h1 => ?_)
    cases e : hitB (ofG (itG zs n)) r p z
    · rfl
    · unfold hitB at e
      rw [Bool.and_eq_true] at e
      exact absurd ⟨z, h1, of_decide_eq_true e.1, e.2⟩ hno

theorem inN_none {zs : List RuleI} (hz : ∀ z ∈ zs, okR z) (r : RoI) (p : Int) : ∀ n, (∀ k, k < n → noneHit zs (ofG (itG zs k)) r p) → ¬ InN zs n r p
  | 0, _ => by simp [InN, itG, ofG, hasI_zero]
  | n + 1, h => by
    rw [inN_hit hz]
    rintro (q | q)
    · exact inN_none hz r p n (fun k hk => h k (by omega)) q
    · exact q (h n (by omega))

/-- Who has the role not: no rule ever gives it. -/
theorem none_of_not {zs : List RuleI} (hz : ∀ z ∈ zs, okR z) {r : RoI} {p : Int} (h : ¬ Has zs r p) (n : Nat) : noneHit zs (ofG (itG zs n)) r p :=
  Classical.byContradiction fun q => h ⟨n + 1, (inN_hit hz n r p).2 (.inr q)⟩

/-- Who has the role: some step gives it, and the first does. -/
theorem first_of {zs : List RuleI} (hz : ∀ z ∈ zs, okR z) {r : RoI} {p : Int} (h : Has zs r p) : ∃ n, ¬ noneHit zs (ofG (itG zs n)) r p ∧ ∀ k, k < n → noneHit zs (ofG (itG zs k)) r p := by
  have ex : ∃ n, ¬ noneHit zs (ofG (itG zs n)) r p := by
    refine Classical.byContradiction fun hno => ?_
    obtain ⟨n, g⟩ := h
    exact inN_none hz r p n (fun k _ => Classical.byContradiction fun q => hno ⟨k, q⟩) g
  obtain ⟨n, g⟩ := ex
  induction n using Nat.strongRecOn with
  | _ n ih =>
    by_cases q : ∃ k, k < n ∧ ¬ noneHit zs (ofG (itG zs k)) r p
    · obtain ⟨k, hk, hq⟩ := q
      exact ih k hk hq
    · exact ⟨n, g, fun k hk => Classical.byContradiction fun q' => q ⟨k, hk, q'⟩⟩

/-- Steps that no longer turn anything, and no rule has given it: it is not there. -/
theorem not_of_still {zs : List RuleI} (hz : ∀ z ∈ zs, okR z) {r : RoI} {p : Int} (h0 : 1 ≤ p) (h1 : p ≤ 8) {n : Nat} (hn : ∀ k, k ≤ n → noneHit zs (ofG (itG zs k)) r p) (hs : stepG zs (itG zs n) = itG zs n) : ¬ Has zs r p := by
  intro g
  have := ((allG_it hz hs).al r p h0 h1).2 g
  exact inN_none hz r p n (fun k hk => hn k (by omega)) this

end Go.Proofs.Ytnfolmjdicfobaa
