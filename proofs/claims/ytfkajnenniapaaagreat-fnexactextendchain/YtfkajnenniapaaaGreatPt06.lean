/- Contracts. -/
import Derived.Test.YtfkajnenniapaaaGreatPt05
namespace Go.Proofs.YtfkajnenniapaaaGreat
set_option maxRecDepth 100000
set_option maxHeartbeats 8000000
open Go.RowKit
set_option linter.unusedVariables false
set_option linter.unusedSimpArgs false

structure ConfI where
 e : Int
 f : Int
 ra : Option Addr
 rn : Nat
 rc : Nat
 zs : List RuleI
 fa : Option Addr
 fn : Nat
 fc : Nat
 fs : List FormI
 ca : Option Addr
 cn : Nat
 cc : Nat
 cs : List Int
deriving Inhabited
structure ConfIn (w : World) (c : ConfI) : Prop where
 rules : RulesIn w c.ra c.rn c.zs
 forms : FormsIn w c.fa c.fn c.fs
 classes : IntIn w c.ca c.cn c.cs
theorem ConfIn.below {w w' : World} {c : ConfI} (h : ConfIn w c) (hb : Below w.heap.size w w') : ConfIn w' c := ⟨h.rules.below hb, h.forms.below hb, h.classes.below hb⟩
structure ConfLe (m : Nat) (c : ConfI) : Prop where
 rules : c.rn ≤ m
 forms : c.fn ≤ m
 parts : FormsLe m c.fs
 classes : c.cn ≤ m
structure ConfSame (c d : ConfI) : Prop where
 e : d.e = c.e
 f : d.f = c.f
 rn : d.rn = c.rn
 zs : d.zs = c.zs
 fn : d.fn = c.fn
 ps : partsL d.fs = partsL c.fs
 cn : d.cn = c.cn
 cs : d.cs = c.cs
theorem FormsNew.le {w : World} {L m n : Nat} {a : Option Addr} {ys fs : List FormI} (hy : FormsIn w a n ys) (hf : ∀ (k : Nat) (x : FormI), fs[k]? = some x → x.ps.length = x.n) (hp : partsL ys = partsL fs) (h : FormsLe m fs) : FormsLe m ys := by
 intro k y e
 have hk : k < n := by
  by_cases q : k < n
  ·exact q
  ·rw [List.getElem?_eq_none (by rw [hy.1]; omega)] at e; cases e
 obtain ⟨b, off, y', _, e', hat⟩ := hy.at hk
 rw [e] at e'
 cases e'
 have h1 : (partsL ys)[k]? = some y.ps := by unfold partsL; rw [List.getElem?_map, e]; rfl
 rw [hp] at h1
 unfold partsL at h1
 rw [List.getElem?_map] at h1
 cases q : fs[k]? with
 | none => rw [q] at h1; cases h1
 | some x =>
  rw [q] at h1
  simp at h1
  have h2 := h k x q
  have h3 := hf k x q
  have h4 := hat.2.1
  rw [← h1] at h4
  omega
theorem szForm_c (x : FormI) (l : Int) (w : World) (hx : x.n ≤ maxLen) (h0 : 0 ≤ l) (h1 : l ≤ 1048576) :
  Calls Tryz.prog 87 #[.agg #[.slice x.a x.n x.cap], .int .i64 l] w fun e w' => (∃ r : Int, e = .returned (.int .i64 r) ∧ r ≤ l ∧ (0 ≤ r → (x.n : Int) ≤ l)) ∧ Below w.heap.size w w' := by
 unfold maxLen at hx
 have hx' : (x.n : Int) ≤ 9223372036854775807 := by omega
 by_cases hlt : (x.n : Int) ≤ l
 ·go_enter Tryz.func87, Tryz.ntmps87
  go_wp2
  go_ret
  exact ⟨⟨_, rfl, by omega, fun _ => hlt⟩, by go_grown⟩
 ·have hlt' : l < (x.n : Int) := by omega
  go_enter Tryz.func87, Tryz.ntmps87
  go_wp2
  go_ret
  exact ⟨⟨_, rfl, by omega, fun q => by omega⟩, by go_grown⟩
theorem szForms_c (a : Option Addr) (n cap : Nat) (fs : List FormI) (l : Int) (w : World) (hn : n ≤ maxLen) (hle : FormsLe maxLen fs) (h0 : 0 ≤ l) (h1 : l ≤ 1048576) (h : FormsIn w a n fs) :
  Calls Tryz.prog 63 #[.slice a n cap, .int .i64 l] w fun e w' => (∃ r : Int, e = .returned (.int .i64 r) ∧ r ≤ l ∧ (0 ≤ r → (n : Int) ≤ l ∧ FormsLe l.toNat fs)) ∧ Below w.heap.size w w' := by
 have H : Hid (FormsIn w a n fs) := h
 have HZ : Hid (fs.length = n) := h.1
 have HLE : Hid (FormsLe maxLen fs) := hle
 have hn' : (n : Int) ≤ 9223372036854775807 := by unfold maxLen at hn; omega
 clear h hle hn
 by_cases hlt : (n : Int) ≤ l
 ·go_enter Tryz.func63, Tryz.ntmps63
  go_wp2
  go_loopw [1, 5] (fun q i wr => ∃ (k : Nat) (r : Int), k ≤ n ∧ i = .int .i64 (k : Int) ∧ q = .int .i64 r ∧ 0 ≤ r ∧ r ≤ l ∧ (∀ j x, j < k → fs[j]? = some x → x.n ≤ l.toNat) ∧ Below w.heap.size w wr)
   (fun _ i _ => n - (intOf i).toNat)
  case atStart => exact ⟨0, _, Nat.zero_le _, rfl, rfl, by omega, by omega, fun j x hj => by omega, Below.refl _ _⟩
  case round =>
   obtain ⟨k, r, hk, rfl, rfl, hr0, hr1, hok, hnx⟩ := hrel
   have HOK : Hid (∀ j x, j < k → fs[j]? = some x → x.n ≤ l.toNat) := hok
   clear hok
   by_cases hkn : k < n
   ·obtain ⟨b, off, x, rfl, hs, hr⟩ := H.out.at hkn
    have HS : Hid (fs[k]? = some x) := hs
    have hx : x.n ≤ maxLen := HLE.out k x hs
    have hb : b < w.heap.size := hr.lt
    have hc := (hr.below hnx).1
    clear hs hr
    have hkn' : (k : Int) < (n : Int) := by omega
    go_wp2_with fail
    refine (szForm_c x r _ hx hr0 (by omega)).mono ?_
    rintro e w1 ⟨⟨r', rfl, hr'1, hr'2⟩, hb1⟩
    have hb01 : Below w.heap.size w w1 := hnx.trans (hb1.mono hnx.size)
    by_cases hneg : r' < 0
    ·clear hc
     go_wp2
     go_ret
     exact ⟨⟨_, rfl, by omega, fun q => by omega⟩, hb01⟩
    ·have HN : Hid (∀ j y, j < k + 1 → fs[j]? = some y → y.n ≤ l.toNat) := fun j y hj hy => by
      by_cases e : j = k
      ·subst e
       rw [HS.out] at hy
       cases hy
       have := hr'2 (by omega)
       omega
      ·exact HOK.out j y (by omega) hy
     have hge : 0 ≤ r' := by omega
     clear hc hr'2
     go_wp2
     exact ⟨⟨k + 1, r', by omega, by go_num, rfl, hge, by omega, HN.out, hb01⟩, by simp [intOf]; omega⟩
   ·have hkn' : k = n := by omega
    subst hkn'
    have HQ : Hid (FormsLe l.toNat fs) := fun j x hj => by
     have : j < k := by
      by_cases q : j < k
      ·exact q
      ·rw [List.getElem?_eq_none (by rw [HZ.out]; omega)] at hj; cases hj
     exact HOK.out j x this hj
    go_wp2
    go_ret
    exact ⟨⟨r, rfl, hr1, fun _ => ⟨hlt, HQ.out⟩⟩, hnx⟩
 ·have hlt' : l < (n : Int) := by omega
  go_enter Tryz.func63, Tryz.ntmps63
  go_wp2
  go_ret
  exact ⟨⟨_, rfl, by omega, fun q => by omega⟩, by go_grown⟩
theorem szConfig_c (c : ConfI) (l : Int) (w : World) (hle : ConfLe maxLen c) (h0 : 0 ≤ l) (h1 : l ≤ 1048576) (h : ConfIn w c) :
  Calls Tryz.prog 33 #[.agg #[.int .i64 c.e, .int .i64 c.f, .slice c.ra c.rn c.rc, .slice c.fa c.fn c.fc, .slice c.ca c.cn c.cc], .int .i64 l] w fun e w' => (∃ r : Int, e = .returned (.int .i64 r) ∧ r ≤ l ∧ (0 ≤ r → ConfLe l.toNat c)) ∧ Below w.heap.size w w' := by
 have hr1 := hle.rules
 have hc1 := hle.classes
 unfold maxLen at hr1 hc1
 have hr' : (c.rn : Int) ≤ 9223372036854775807 := by omega
 have hc' : (c.cn : Int) ≤ 9223372036854775807 := by omega
 have HLE : Hid (ConfLe maxLen c) := hle
 have H : Hid (ConfIn w c) := h
 clear h hle hr1 hc1
 obtain ⟨W, hW⟩ : ∃ W, W = w.alloc (.cells #[.int .i64 c.e, .int .i64 c.f, .slice c.ra c.rn c.rc, .slice c.fa c.fn c.fc, .slice c.ca c.cn c.cc] 67) := ⟨_, rfl⟩
 have hs : W.heap.size = w.heap.size + 1 := by rw [hW]; simp
 have B0 : Below w.heap.size w W := by rw [hW]; exact zN
 have c4 : W.cell? ⟨w.heap.size, 4, none⟩ = some (.slice c.ca c.cn c.cc) := by rw [hW]; simp
 by_cases q1 : (c.rn : Int) ≤ l
 ·go_enter Tryz.func33, Tryz.ntmps33
  go_wp2_with (first | (go_at_call 62; go_in) | fail)
  rw [← hW]
  clear hW
  refine (szForms_c c.fa c.fn c.fc c.fs _ W HLE.out.forms HLE.out.parts (by omega) (by omega) (H.out.forms.below B0)).mono ?_
  rintro e w1 ⟨⟨r, rfl, hr1, hr2⟩, hb1⟩
  have HR : Hid (0 ≤ r → (c.fn : Int) ≤ l - c.rn ∧ FormsLe (l - c.rn).toNat c.fs) := hr2
  have hb : Below w.heap.size w w1 := B0.trans (hb1.mono (by omega))
  have d4 := (hb1.cell (p := ⟨w.heap.size, 4, none⟩) (by show w.heap.size < W.heap.size; omega)).trans c4
  have hw : w.heap.size < w1.heap.size := by have := hb1.size; omega
  clear hr2 hb1 c4 B0 hs
  by_cases q2 : r < 0
  ·go_wp2
   go_ret
   exact ⟨⟨_, rfl, by omega, fun q => by omega⟩, hb⟩
  ·have q2' : 0 ≤ r := by omega
   by_cases q3 : (c.cn : Int) ≤ r
   ·go_wp2
    go_ret
    refine ⟨⟨_, rfl, by omega, fun _ => ?_⟩, hb⟩
    obtain ⟨h3, h4⟩ := HR.out q2'
    exact ⟨by omega, by omega, fun k x e => by have := h4 k x e; omega, by omega⟩
   ·have q3' : r < (c.cn : Int) := by omega
    go_wp2
    go_ret
    exact ⟨⟨_, rfl, by omega, fun q => by omega⟩, hb⟩
 ·have q1' : l < (c.rn : Int) := by omega
  go_enter Tryz.func33, Tryz.ntmps33
  go_wp2
  go_ret
  exact ⟨⟨_, rfl, by omega, fun q => by omega⟩, by go_grown⟩
def ConfAt (w : World) (g : Nat) (c : ConfI) : Prop := w.cell? ⟨g, 0, none⟩ = some (.int .i64 c.e) ∧ w.cell? ⟨g, 1, none⟩ = some (.int .i64 c.f) ∧ w.cell? ⟨g, 2, none⟩ = some (.slice c.ra c.rn c.rc) ∧ w.cell? ⟨g, 3, none⟩ = some (.slice c.fa c.fn c.fc) ∧ w.cell? ⟨g, 4, none⟩ = some (.slice c.ca c.cn c.cc)
theorem ConfAt.lt {w : World} {g : Nat} {c : ConfI} (h : ConfAt w g c) : g < w.heap.size := zL w ⟨g, 0, none⟩ h.1
theorem ConfAt.below {w w' : World} {g : Nat} {c : ConfI} (h : ConfAt w g c) (hb : Below w.heap.size w w') : ConfAt w' g c := by
 have key : ∀ (o : Nat) (v : Value), w.cell? ⟨g, o, none⟩ = some v → w'.cell? ⟨g, o, none⟩ = some v := fun o v e => (hb.cell (p := ⟨g, o, none⟩) h.lt).trans e
 exact ⟨key _ _ h.1, key _ _ h.2.1, key _ _ h.2.2.1, key _ _ h.2.2.2.1, key _ _ h.2.2.2.2⟩
theorem ConfAt.new (w : World) (c : ConfI) (t : TypeId) : ConfAt (w.alloc (.cells #[.int .i64 c.e, .int .i64 c.f, .slice c.ra c.rn c.rc, .slice c.fa c.fn c.fc, .slice c.ca c.cn c.cc] t)) w.heap.size c := ⟨by simp, by simp, by simp, by simp, by simp⟩
structure ConfNew (w : World) (L : Nat) (d : ConfI) : Prop where
 rules : d.rc = d.rn ∧ ∃ g, d.ra = some ⟨g, 0, none⟩ ∧ L ≤ g ∧ g < w.heap.size ∧ RoomAt w g d.rn
 forms : d.fc = d.fn ∧ ∃ g, d.fa = some ⟨g, 0, none⟩ ∧ L ≤ g ∧ g < w.heap.size ∧ IntRoom w g d.fn
 parts : FormsNew w L d.fs
 classes : d.cc = d.cn ∧ ∃ g, d.ca = some ⟨g, 0, none⟩ ∧ L ≤ g ∧ g < w.heap.size ∧ IntRoom w g d.cn
structure Box5 (w : World) (g : Nat) (v0 v1 v2 v3 v4 : Value) : Prop where
 c0 : w.cell? ⟨g, 0, none⟩ = some v0
 c1 : w.cell? ⟨g, 1, none⟩ = some v1
 c2 : w.cell? ⟨g, 2, none⟩ = some v2
 c3 : w.cell? ⟨g, 3, none⟩ = some v3
 c4 : w.cell? ⟨g, 4, none⟩ = some v4
 fz : ∀ j, w.frozen? ⟨g, j, none⟩ = false
theorem Box5.lt {w : World} {g : Nat} {v0 v1 v2 v3 v4 : Value} (h : Box5 w g v0 v1 v2 v3 v4) : g < w.heap.size := zL w ⟨g, 0, none⟩ h.c0
theorem Box5.below {w w' : World} {g : Nat} {v0 v1 v2 v3 v4 : Value} (h : Box5 w g v0 v1 v2 v3 v4) (hb : Below w.heap.size w w') : Box5 w' g v0 v1 v2 v3 v4 := by
 have key : ∀ (o : Nat) (v : Value), w.cell? ⟨g, o, none⟩ = some v → w'.cell? ⟨g, o, none⟩ = some v := fun o v e => (hb.cell (p := ⟨g, o, none⟩) h.lt).trans e
 exact ⟨key _ _ h.c0, key _ _ h.c1, key _ _ h.c2, key _ _ h.c3, key _ _ h.c4, fun j => (hb.frozen (p := ⟨g, j, none⟩) h.lt).trans (h.fz j)⟩
theorem Box5.other {w : World} {g b o : Nat} {v v0 v1 v2 v3 v4 : Value} (h : Box5 w g v0 v1 v2 v3 v4) (hne : b ≠ g) : Box5 (w.setCell ⟨b, o, none⟩ v) g v0 v1 v2 v3 v4 := by
 have key : ∀ (q : Nat) (u : Value), w.cell? ⟨g, q, none⟩ = some u → (w.setCell ⟨b, o, none⟩ v).cell? ⟨g, q, none⟩ = some u := fun q u e => by
  rw [World.cell?_setCell_other (h := fun e2 => hne (by have := congrArg Addr.block e2; simpa using this))]; exact e
 exact ⟨key _ _ h.c0, key _ _ h.c1, key _ _ h.c2, key _ _ h.c3, key _ _ h.c4, fun j => by simp only [World.frozen?_setCell]; exact h.fz j⟩
theorem Box5.new (w : World) (v0 v1 v2 v3 v4 : Value) (t : TypeId) : Box5 (w.alloc (.cells #[v0, v1, v2, v3, v4] t)) w.heap.size v0 v1 v2 v3 v4 := ⟨by simp, by simp, by simp, by simp, by simp, fun j => by simp [go_sem]⟩
theorem Box5.set0 {w : World} {g : Nat} {v v0 v1 v2 v3 v4 : Value} (h : Box5 w g v0 v1 v2 v3 v4) : Box5 (w.setCell ⟨g, 0, none⟩ v) g v v1 v2 v3 v4 := ⟨by simp [go_sem, h.c0], by simp [go_sem, h.c1], by simp [go_sem, h.c2], by simp [go_sem, h.c3], by simp [go_sem, h.c4], fun j => by simp only [World.frozen?_setCell]; exact h.fz j⟩
theorem Box5.set1 {w : World} {g : Nat} {v v0 v1 v2 v3 v4 : Value} (h : Box5 w g v0 v1 v2 v3 v4) : Box5 (w.setCell ⟨g, 1, none⟩ v) g v0 v v2 v3 v4 := ⟨by simp [go_sem, h.c0], by simp [go_sem, h.c1], by simp [go_sem, h.c2], by simp [go_sem, h.c3], by simp [go_sem, h.c4], fun j => by simp only [World.frozen?_setCell]; exact h.fz j⟩
theorem Box5.set2 {w : World} {g : Nat} {v v0 v1 v2 v3 v4 : Value} (h : Box5 w g v0 v1 v2 v3 v4) : Box5 (w.setCell ⟨g, 2, none⟩ v) g v0 v1 v v3 v4 := ⟨by simp [go_sem, h.c0], by simp [go_sem, h.c1], by simp [go_sem, h.c2], by simp [go_sem, h.c3], by simp [go_sem, h.c4], fun j => by simp only [World.frozen?_setCell]; exact h.fz j⟩
theorem Box5.set3 {w : World} {g : Nat} {v v0 v1 v2 v3 v4 : Value} (h : Box5 w g v0 v1 v2 v3 v4) : Box5 (w.setCell ⟨g, 3, none⟩ v) g v0 v1 v2 v v4 := ⟨by simp [go_sem, h.c0], by simp [go_sem, h.c1], by simp [go_sem, h.c2], by simp [go_sem, h.c3], by simp [go_sem, h.c4], fun j => by simp only [World.frozen?_setCell]; exact h.fz j⟩
theorem Box5.set4 {w : World} {g : Nat} {v v0 v1 v2 v3 v4 : Value} (h : Box5 w g v0 v1 v2 v3 v4) : Box5 (w.setCell ⟨g, 4, none⟩ v) g v0 v1 v2 v3 v := ⟨by simp [go_sem, h.c0], by simp [go_sem, h.c1], by simp [go_sem, h.c2], by simp [go_sem, h.c3], by simp [go_sem, h.c4], fun j => by simp only [World.frozen?_setCell]; exact h.fz j⟩
structure CfW (w : World) (c : ConfI) (v0 v1 v2 v3 v4 : Value) (V : World) : Prop where
 bl : Below w.heap.size w V
 ar : ConfAt V w.heap.size c
 re : Box5 V (w.heap.size + 1) (.int .i64 0) (.int .i64 0) (.slice none 0 0) (.slice none 0 0) (.slice none 0 0)
 ou : Box5 V (w.heap.size + 2) v0 v1 v2 v3 v4
theorem CfW.below {w : World} {c : ConfI} {v0 v1 v2 v3 v4 : Value} {V V' : World} (h : CfW w c v0 v1 v2 v3 v4 V) (hb : Below V.heap.size V V') : CfW w c v0 v1 v2 v3 v4 V' :=
 ⟨h.bl.trans (hb.mono h.bl.size), h.ar.below hb, h.re.below hb, h.ou.below hb⟩
theorem ConfAt.other {w : World} {g b o : Nat} {v : Value} {c : ConfI} (h : ConfAt w g c) (hne : b ≠ g) : ConfAt (w.setCell ⟨b, o, none⟩ v) g c := by
 have key : ∀ (q : Nat) (u : Value), w.cell? ⟨g, q, none⟩ = some u → (w.setCell ⟨b, o, none⟩ v).cell? ⟨g, q, none⟩ = some u := fun q u e => by
  rw [World.cell?_setCell_other (h := fun e2 => hne (by have := congrArg Addr.block e2; simpa using this))]; exact e
 exact ⟨key _ _ h.1, key _ _ h.2.1, key _ _ h.2.2.1, key _ _ h.2.2.2.1, key _ _ h.2.2.2.2⟩
theorem CfW.set2 {w : World} {c : ConfI} {v v0 v1 v2 v3 v4 : Value} {V : World} (h : CfW w c v0 v1 v2 v3 v4 V) : CfW w c v0 v1 v v3 v4 (V.setCell ⟨w.heap.size + 2, 2, none⟩ v) := ⟨h.bl.setCell (by simp) _, h.ar.other (by omega), h.re.other (by omega), h.ou.set2⟩
theorem CfW.set3 {w : World} {c : ConfI} {v v0 v1 v2 v3 v4 : Value} {V : World} (h : CfW w c v0 v1 v2 v3 v4 V) : CfW w c v0 v1 v2 v v4 (V.setCell ⟨w.heap.size + 2, 3, none⟩ v) := ⟨h.bl.setCell (by simp) _, h.ar.other (by omega), h.re.other (by omega), h.ou.set3⟩
theorem CfW.set4 {w : World} {c : ConfI} {v v0 v1 v2 v3 v4 : Value} {V : World} (h : CfW w c v0 v1 v2 v3 v4 V) : CfW w c v0 v1 v2 v3 v (V.setCell ⟨w.heap.size + 2, 4, none⟩ v) := ⟨h.bl.setCell (by simp) _, h.ar.other (by omega), h.re.other (by omega), h.ou.set4⟩
theorem RulesIn.set {w : World} {a : Option Addr} {n g o : Nat} {v : Value} {zs : List RuleI} (h : RulesIn w a n zs) (hne : ∀ b off, a = some ⟨b, off, none⟩ → b ≠ g) : RulesIn (w.setCell ⟨g, o, none⟩ v) a n zs := by
 refine ⟨h.1, fun hp => ?_⟩
 obtain ⟨b, off, e, hr⟩ := h.2 hp
 refine ⟨b, off, e, fun k x hx => ?_⟩
 have key : ∀ (q : Nat) (u : Value), w.cell? ⟨b, q, none⟩ = some u → (w.setCell ⟨g, o, none⟩ v).cell? ⟨b, q, none⟩ = some u := fun q u hu => by
  rw [World.cell?_setCell_other (h := fun e2 => hne b off e (by have := congrArg Addr.block e2; simp at this; omega))]; exact hu
 obtain ⟨h0, h1, h2, h3, h4, h5, h6, h7⟩ := hr k x hx
 exact ⟨key _ _ h0, key _ _ h1, key _ _ h2, key _ _ h3, key _ _ h4, key _ _ h5, key _ _ h6, key _ _ h7⟩
theorem IntIn.set {w : World} {a : Option Addr} {n g o : Nat} {v : Value} {zs : List Int} (h : IntIn w a n zs) (hne : ∀ b off, a = some ⟨b, off, none⟩ → b ≠ g) : IntIn (w.setCell ⟨g, o, none⟩ v) a n zs := by
 refine ⟨h.1, fun hp => ?_⟩
 obtain ⟨b, off, e, hr⟩ := h.2 hp
 refine ⟨b, off, e, fun k x hx => ?_⟩
 rw [World.cell?_setCell_other (h := fun e2 => hne b off e (by have := congrArg Addr.block e2; simp at this; omega))]; exact hr k x hx
theorem FormsIn.set {w : World} {a : Option Addr} {n g o : Nat} {v : Value} {fs : List FormI} (h : FormsIn w a n fs) (hne : ∀ b off, a = some ⟨b, off, none⟩ → b ≠ g) (hnp : ∀ (k : Nat) (x : FormI), fs[k]? = some x → ∀ b off, x.a = some ⟨b, off, none⟩ → b ≠ g) : FormsIn (w.setCell ⟨g, o, none⟩ v) a n fs := by
 refine ⟨h.1, fun hp => ?_⟩
 obtain ⟨b, off, e, hr⟩ := h.2 hp
 refine ⟨b, off, e, fun k x hx => ⟨?_, (hr k x hx).2.set (hnp k x hx)⟩⟩
 rw [World.cell?_setCell_other (h := fun e2 => hne b off e (by have := congrArg Addr.block e2; simp at this; omega))]; exact (hr k x hx).1
theorem IntRoom.setAny {w : World} {g n : Nat} (h : IntRoom w g n) (b o : Nat) (v : Value) : IntRoom (w.setCell ⟨b, o, none⟩ v) g n := by
 refine ⟨fun j hj => ?_, fun j => by simp only [World.frozen?_setCell]; exact h.2 j⟩
 obtain ⟨u, e⟩ := h.1 j hj
 by_cases q : (⟨b, o, none⟩ : Addr) = ⟨g, j, none⟩
 ·cases q
  exact ⟨v, by simp [go_sem, e]⟩
 ·exact ⟨u, by rw [World.cell?_setCell_other (h := q)]; exact e⟩
theorem RoomAt.setAny {w : World} {g n : Nat} (h : RoomAt w g n) (b o : Nat) (v : Value) : RoomAt (w.setCell ⟨b, o, none⟩ v) g n := by
 refine ⟨fun j hj => ?_, fun j => by simp only [World.frozen?_setCell]; exact h.2 j⟩
 obtain ⟨u, e⟩ := h.1 j hj
 by_cases q : (⟨b, o, none⟩ : Addr) = ⟨g, j, none⟩
 ·cases q
  exact ⟨v, by simp [go_sem, e]⟩
 ·exact ⟨u, by rw [World.cell?_setCell_other (h := q)]; exact e⟩
theorem roomC_below {w w' : World} {g n : Nat} (h : RoomAt w g n) (hg : g < w.heap.size) (hb : Below w.heap.size w w') : RoomAt w' g n :=
 ⟨fun j hj => by obtain ⟨v, e⟩ := h.1 j hj; exact ⟨v, (hb.cell (p := ⟨g, j, none⟩) hg).trans e⟩, fun j => (hb.frozen (p := ⟨g, j, none⟩) hg).trans (h.2 j)⟩
theorem FormNew.setAny {w : World} {L : Nat} {x : FormI} (h : FormNew w L x) (b o : Nat) (v : Value) : FormNew (w.setCell ⟨b, o, none⟩ v) L x := by
 obtain ⟨h0, g, h1, h2, h3, h4⟩ := h
 exact ⟨h0, g, h1, h2, by simp only [World.size_setCell]; exact h3, h4.setAny _ _ _⟩
theorem ConfNew.setAny {w : World} {L : Nat} {d : ConfI} (h : ConfNew w L d) (b o : Nat) (v : Value) : ConfNew (w.setCell ⟨b, o, none⟩ v) L d := by
 obtain ⟨⟨r0, rg, r1, r2, r3, r4⟩, ⟨f0, fg, f1, f2, f3, f4⟩, hp, ⟨k0, kg, k1, k2, k3, k4⟩⟩ := h
 exact ⟨⟨r0, rg, r1, r2, by simp only [World.size_setCell]; exact r3, r4.setAny _ _ _⟩, ⟨f0, fg, f1, f2, by simp only [World.size_setCell]; exact f3, f4.setAny _ _ _⟩, fun k x e => (hp k x e).setAny _ _ _, ⟨k0, kg, k1, k2, by simp only [World.size_setCell]; exact k3, k4.setAny _ _ _⟩⟩
theorem ConfIn.set {w : World} {L g o : Nat} {v : Value} {d : ConfI} (h : ConfIn w d) (hn : ConfNew w L d) (hg : g < L) : ConfIn (w.setCell ⟨g, o, none⟩ v) d := by
 obtain ⟨⟨r0, rg, r1, r2, r3, r4⟩, ⟨f0, fg, f1, f2, f3, f4⟩, hp, ⟨k0, kg, k1, k2, k3, k4⟩⟩ := hn
 refine ⟨h.rules.set (fun b off e => by rw [r1] at e; cases e; omega), h.forms.set (fun b off e => by rw [f1] at e; cases e; omega) (fun k x hx b off e => ?_), h.classes.set (fun b off e => by rw [k1] at e; cases e; omega)⟩
 obtain ⟨_, q, q1, q2, _⟩ := hp k x hx
 rw [q1] at e
 cases e
 omega
theorem ConfNew.low {w : World} {L M : Nat} {d : ConfI} (h : ConfNew w L d) (hM : M ≤ L) : ConfNew w M d := by
 obtain ⟨⟨r0, rg, r1, r2, r3, r4⟩, ⟨f0, fg, f1, f2, f3, f4⟩, hp, ⟨k0, kg, k1, k2, k3, k4⟩⟩ := h
 refine ⟨⟨r0, rg, r1, by omega, r3, r4⟩, ⟨f0, fg, f1, by omega, f3, f4⟩, fun k x e => ?_, ⟨k0, kg, k1, by omega, k3, k4⟩⟩
 obtain ⟨q0, g, q1, q2, q3⟩ := hp k x e
 exact ⟨q0, g, q1, by omega, q3⟩
theorem ConfNew.below {w w' : World} {L : Nat} {d : ConfI} (h : ConfNew w L d) (hb : Below w.heap.size w w') : ConfNew w' L d := by
 have hz := hb.size
 obtain ⟨⟨r0, rg, r1, r2, r3, r4⟩, ⟨f0, fg, f1, f2, f3, f4⟩, hp, ⟨k0, kg, k1, k2, k3, k4⟩⟩ := h
 exact ⟨⟨r0, rg, r1, r2, by omega, roomC_below r4 r3 hb⟩, ⟨f0, fg, f1, f2, by omega, f4.below f3 hb⟩, fun k x e => (hp k x e).below hb, ⟨k0, kg, k1, k2, by omega, k4.below k3 hb⟩⟩
structure CfN (w : World) (L : Nat) (d : ConfI) : Prop where
 rd : ConfIn w d
 nw : ConfNew w L d
theorem CfN.set {w : World} {L g o : Nat} {v : Value} {d : ConfI} (h : CfN w L d) (hg : g < L) : CfN (w.setCell ⟨g, o, none⟩ v) L d := ⟨h.rd.set h.nw hg, h.nw.setAny _ _ _⟩
theorem toConfig_c (c : ConfI) (w : World) (hle : ConfLe 1048576 c) (h : ConfIn w c) :
  Calls Tryz.prog 36 #[.agg #[.int .i64 c.e, .int .i64 c.f, .slice c.ra c.rn c.rc, .slice c.fa c.fn c.fc, .slice c.ca c.cn c.cc]] w fun e w' => ∃ d : ConfI, e = .returned (.agg #[.int .i64 d.e, .int .i64 d.f, .slice d.ra d.rn d.rc, .slice d.fa d.fn d.fc, .slice d.ca d.cn d.cc]) ∧ ConfSame c d ∧ ConfIn w' d ∧ ConfNew w' w.heap.size d ∧ Below w.heap.size w w' := by
 have HLE : Hid (ConfLe 1048576 c) := hle
 have H : Hid (ConfIn w c) := h
 clear h hle
 obtain ⟨V, hV⟩ : ∃ V, V = ((w.alloc (.cells #[.int .i64 c.e, .int .i64 c.f, .slice c.ra c.rn c.rc, .slice c.fa c.fn c.fc, .slice c.ca c.cn c.cc] 67)).alloc (.cells #[.int .i64 0, .int .i64 0, .slice none 0 0, .slice none 0 0, .slice none 0 0] 73)).alloc (.cells #[.int .i64 c.e, .int .i64 c.f, .slice none 0 0, .slice none 0 0, .slice none 0 0] 73) := ⟨_, rfl⟩
 have X0 : Hid (CfW w c (.int .i64 c.e) (.int .i64 c.f) (.slice none 0 0) (.slice none 0 0) (.slice none 0 0) V ∧ w.heap.size + 2 < V.heap.size) := by
  rw [hV]
  have b1 : Below w.heap.size w (w.alloc (.cells #[.int .i64 c.e, .int .i64 c.f, .slice c.ra c.rn c.rc, .slice c.fa c.fn c.fc, .slice c.ca c.cn c.cc] 67)) := zN
  have b2 := (Below.refl (w.alloc (.cells #[.int .i64 c.e, .int .i64 c.f, .slice c.ra c.rn c.rc, .slice c.fa c.fn c.fc, .slice c.ca c.cn c.cc] 67)).heap.size (w.alloc (.cells #[.int .i64 c.e, .int .i64 c.f, .slice c.ra c.rn c.rc, .slice c.fa c.fn c.fc, .slice c.ca c.cn c.cc] 67))).alloc (Nat.le_refl _) (.cells #[.int .i64 0, .int .i64 0, .slice none 0 0, .slice none 0 0, .slice none 0 0] 73)
  have k1 := (ConfAt.new w c 67).below b2
  have x1 := Box5.new (w.alloc (.cells #[.int .i64 c.e, .int .i64 c.f, .slice c.ra c.rn c.rc, .slice c.fa c.fn c.fc, .slice c.ca c.cn c.cc] 67)) (.int .i64 0) (.int .i64 0) (.slice none 0 0) (.slice none 0 0) (.slice none 0 0) 73
  have x2 := Box5.new ((w.alloc (.cells #[.int .i64 c.e, .int .i64 c.f, .slice c.ra c.rn c.rc, .slice c.fa c.fn c.fc, .slice c.ca c.cn c.cc] 67)).alloc (.cells #[.int .i64 0, .int .i64 0, .slice none 0 0, .slice none 0 0, .slice none 0 0] 73)) (.int .i64 c.e) (.int .i64 c.f) (.slice none 0 0) (.slice none 0 0) (.slice none 0 0) 73
  have b3 := (Below.refl ((w.alloc (.cells #[.int .i64 c.e, .int .i64 c.f, .slice c.ra c.rn c.rc, .slice c.fa c.fn c.fc, .slice c.ca c.cn c.cc] 67)).alloc (.cells #[.int .i64 0, .int .i64 0, .slice none 0 0, .slice none 0 0, .slice none 0 0] 73)).heap.size ((w.alloc (.cells #[.int .i64 c.e, .int .i64 c.f, .slice c.ra c.rn c.rc, .slice c.fa c.fn c.fc, .slice c.ca c.cn c.cc] 67)).alloc (.cells #[.int .i64 0, .int .i64 0, .slice none 0 0, .slice none 0 0, .slice none 0 0] 73))).alloc (Nat.le_refl _) (.cells #[.int .i64 c.e, .int .i64 c.f, .slice none 0 0, .slice none 0 0, .slice none 0 0] 73)
  have k2 := k1.below b3
  have y1 := x1.below b3
  have hz1 : (w.alloc (.cells #[.int .i64 c.e, .int .i64 c.f, .slice c.ra c.rn c.rc, .slice c.fa c.fn c.fc, .slice c.ca c.cn c.cc] 67)).heap.size = w.heap.size + 1 := by simp
  have hz2 : ((w.alloc (.cells #[.int .i64 c.e, .int .i64 c.f, .slice c.ra c.rn c.rc, .slice c.fa c.fn c.fc, .slice c.ca c.cn c.cc] 67)).alloc (.cells #[.int .i64 0, .int .i64 0, .slice none 0 0, .slice none 0 0, .slice none 0 0] 73)).heap.size = w.heap.size + 2 := by simp
  rw [hz1] at y1
  rw [hz2] at x2
  exact ⟨⟨(b1.alloc (by simp) _).alloc (by simp; omega) _, k2, y1, x2⟩, by simp⟩
 go_enter Tryz.func36, Tryz.ntmps36
 go_wp2_with fail
 rw [← hV]
 clear hV
 refine (toRules_room c.ra c.rn c.rc c.zs V HLE.out.rules (H.out.rules.below X0.out.1.bl)).mono ?_
 rintro e w1 ⟨rfl, hat1, hlt1, hb1, hroom1⟩
 have x1 := X0.out.1.below hb1
 have hz1 := hb1.size
 have A1 : Hid (RulesIn w1 (some ⟨V.heap.size, 0, none⟩) c.rn c.zs ∧ RoomAt w1 V.heap.size c.rn) := ⟨RulesIn.of H.out.rules.1 hat1, hroom1⟩
 obtain ⟨k0, k1, k2, k3, k4⟩ := x1.ar
 obtain ⟨o0, o1, o2, o3, o4, of⟩ := x1.ou
 have X1 : Hid (CfW w c (.int .i64 c.e) (.int .i64 c.f) (.slice (some ⟨V.heap.size, 0, none⟩) c.rn c.rn) (.slice none 0 0) (.slice none 0 0) (w1.setCell ⟨w.heap.size + 2, 2, none⟩ (.slice (some ⟨V.heap.size, 0, none⟩) c.rn c.rn))) := x1.set2
 have hw1 : w.heap.size + 2 < w1.heap.size := by have := X0.out.2; omega
 have hwV : Hid (w.heap.size + 2 < V.heap.size) := X0.out.2
 clear hat1 hroom1 hb1 x1 X0
 go_wp2_with fail
 obtain ⟨V1, hV1⟩ : ∃ V1, V1 = w1.setCell ⟨w.heap.size + 2, 2, none⟩ (.slice (some ⟨V.heap.size, 0, none⟩) c.rn c.rn) := ⟨_, rfl⟩
 have A1' : Hid (RulesIn V1 (some ⟨V.heap.size, 0, none⟩) c.rn c.zs ∧ RoomAt V1 V.heap.size c.rn ∧ V.heap.size < V1.heap.size) := by
  rw [hV1]
  exact ⟨A1.out.1.set (fun b off e => by cases e; have := hwV.out; omega), A1.out.2.setAny _ _ _, by simp only [World.size_setCell]; exact hlt1⟩
 have HS1 : Hid (V1.heap.size = w1.heap.size) := by rw [hV1]; exact World.size_setCell ..
 rw [← hV1] at X1 ⊢
 clear hV1 A1 k0 k1 k2 k3 k4 o0 o1 o2 o3 o4 of
 refine (toForms_c c.fa c.fn c.fc c.fs V1 HLE.out.forms HLE.out.parts (H.out.forms.below X1.out.bl)).mono ?_
 rintro e w2 ⟨rfl, ys, hF⟩
 have hb2 := hF.bl
 have x2 := X1.out.below hb2
 have hz2 := hb2.size
 have A2 : Hid (RulesIn w2 (some ⟨V.heap.size, 0, none⟩) c.rn c.zs ∧ RoomAt w2 V.heap.size c.rn ∧ FormsTo V1 w2 c.fn c.fs ys) := ⟨A1'.out.1.below hb2, roomC_below A1'.out.2.1 A1'.out.2.2 hb2, hF⟩
 obtain ⟨k0, k1, k2, k3, k4⟩ := x2.ar
 obtain ⟨o0, o1, o2, o3, o4, of⟩ := x2.ou
 have X2 : Hid (CfW w c (.int .i64 c.e) (.int .i64 c.f) (.slice (some ⟨V.heap.size, 0, none⟩) c.rn c.rn) (.slice (some ⟨V1.heap.size, 0, none⟩) c.fn c.fn) (.slice none 0 0) (w2.setCell ⟨w.heap.size + 2, 3, none⟩ (.slice (some ⟨V1.heap.size, 0, none⟩) c.fn c.fn))) := x2.set3
 have hw2 : w.heap.size + 2 < w2.heap.size := by have := HS1.out; omega
 clear hF hb2 x2 X1
 go_wp2_with fail
 obtain ⟨V2, hV2⟩ : ∃ V2, V2 = w2.setCell ⟨w.heap.size + 2, 3, none⟩ (.slice (some ⟨V1.heap.size, 0, none⟩) c.fn c.fn) := ⟨_, rfl⟩
 have A2' : Hid (RulesIn V2 (some ⟨V.heap.size, 0, none⟩) c.rn c.zs ∧ RoomAt V2 V.heap.size c.rn ∧ FormsIn V2 (some ⟨V1.heap.size, 0, none⟩) c.fn ys ∧ FormsNew V2 (V1.heap.size + 1) ys ∧ IntRoom V2 V1.heap.size c.fn ∧ partsL ys = partsL c.fs ∧ V1.heap.size < V2.heap.size) := by
  rw [hV2]
  obtain ⟨q1, q2, q3⟩ := A2.out
  have hv := hwV.out
  have hs1 := HS1.out
  refine ⟨q1.set (fun b off e => by cases e; omega), q2.setAny _ _ _, (FormsIn.of q3.ln q3.at').set (fun b off e => by cases e; omega) (fun k x hx b off e => ?_), fun k x hx => (q3.nw k x hx).setAny _ _ _, q3.rm.setAny _ _ _, q3.ps, by simp only [World.size_setCell]; exact q3.lt⟩
  obtain ⟨_, q, e1, e2, _⟩ := q3.nw k x hx
  rw [e1] at e
  cases e
  omega
 have HS2 : Hid (V2.heap.size = w2.heap.size) := by rw [hV2]; exact World.size_setCell ..
 rw [← hV2] at X2 ⊢
 clear hV2 A2 A1' k0 k1 k2 k3 k4 o0 o1 o2 o3 o4 of
 refine (toInts_room c.ca c.cn c.cc c.cs V2 HLE.out.classes (H.out.classes.below X2.out.bl)).mono ?_
 rintro e w3 ⟨rfl, hat3, hlt3, hb3, hroom3⟩
 have x3 := X2.out.below hb3
 have hz3 := hb3.size
 obtain ⟨d, hd⟩ : ∃ d : ConfI, d = ⟨c.e, c.f, some ⟨V.heap.size, 0, none⟩, c.rn, c.rn, c.zs, some ⟨V1.heap.size, 0, none⟩, c.fn, c.fn, ys, some ⟨V2.heap.size, 0, none⟩, c.cn, c.cn, c.cs⟩ := ⟨_, rfl⟩
 have HD : Hid (ConfIn w3 d ∧ ConfNew w3 (w.heap.size + 3) d ∧ ConfSame c d) := by
  obtain ⟨q1, q2, q3, q4, q5, q6, q7⟩ := A2'.out
  have hv := hwV.out
  have hs1 := HS1.out
  have hs2 := HS2.out
  rw [hd]
  exact ⟨⟨q1.below hb3, q3.below hb3, IntIn.of H.out.classes.1 hat3⟩, ⟨⟨rfl, _, rfl, by omega, by omega, roomC_below q2 (by omega) hb3⟩, ⟨rfl, _, rfl, by omega, by omega, q5.below q7 hb3⟩, fun k x e => by
   obtain ⟨r0, g, r1, r2, r3⟩ := (q4 k x e).below hb3
   exact ⟨r0, g, r1, by omega, r3⟩, ⟨rfl, _, rfl, by omega, hlt3, hroom3⟩⟩, ⟨rfl, rfl, rfl, rfl, rfl, q6, rfl, rfl⟩⟩
 obtain ⟨k0, k1, k2, k3, k4⟩ := x3.ar
 obtain ⟨o0, o1, o2, o3, o4, of⟩ := x3.ou
 obtain ⟨r0, r1, r2, r3, r4, rf⟩ := x3.re
 have hw3 : w.heap.size + 2 < w3.heap.size := by have := HS1.out; have := HS2.out; omega
 have HB : Hid (Below w.heap.size w w3) := x3.bl
 have HDE : Hid (d = ⟨c.e, c.f, some ⟨V.heap.size, 0, none⟩, c.rn, c.rn, c.zs, some ⟨V1.heap.size, 0, none⟩, c.fn, c.fn, ys, some ⟨V2.heap.size, 0, none⟩, c.cn, c.cn, c.cs⟩) := hd
 clear hd hat3 hroom3 hb3 x3 X2 A2'
 go_wp2
 refine bodyPost_ret (v := .agg #[.int .i64 d.e, .int .i64 d.f, .slice d.ra d.rn d.rc, .slice d.fa d.fn d.fc, .slice d.ca d.cn d.cc]) (by rw [HDE.out]; simp [results, Tryz.results36, go_sem, o0, o1, o2, o3, o4, r0, r1, r2, r3, r4, hw3]) rfl ⟨d, rfl, HD.out.2.2, ?_, ?_, ?_⟩
 ·refine (?_ : CfN _ (w.heap.size + 3) d).rd
  repeat (refine CfN.set ?_ (by omega))
  exact ⟨HD.out.1, HD.out.2.1⟩
 ·refine ((?_ : CfN _ (w.heap.size + 3) d).nw).low (by omega)
  repeat (refine CfN.set ?_ (by omega))
  exact ⟨HD.out.1, HD.out.2.1⟩
 ·repeat (refine Below.setCell ?_ (by simp; try omega) _)
  exact HB.out
theorem eqConfig_same (c d : ConfI) (w : World) (hle : ConfLe 1048576 c) (hsm : ConfSame c d) (h : ConfIn w c) (h' : ConfIn w d) :
  Calls Tryz.prog 44 #[.agg #[.int .i64 c.e, .int .i64 c.f, .slice c.ra c.rn c.rc, .slice c.fa c.fn c.fc, .slice c.ca c.cn c.cc], .agg #[.int .i64 d.e, .int .i64 d.f, .slice d.ra d.rn d.rc, .slice d.fa d.fn d.fc, .slice d.ca d.cn d.cc]] w fun e w' => e = .returned (.bool true) ∧ Below w.heap.size w w' := by
 obtain ⟨d0, d1, da, dn, dc, dz, ea, en, ec, ds, ga, gn, gc, gs⟩ := d
 obtain ⟨e1, e2, e3, e4, e5, e6, e7, e8⟩ := hsm
 simp only at e1 e2 e3 e4 e5 e6 e7 e8
 subst e1 e2 e3 e4 e5 e7 e8
 have HP : Hid (partsL ds = partsL c.fs) := e6
 have HLE : Hid (ConfLe 1048576 c) := hle
 have H : Hid (ConfIn w c) := h
 have H' : Hid (RulesIn w da c.rn c.zs ∧ FormsIn w ea c.fn ds ∧ IntIn w ga c.cn c.cs) := ⟨h'.rules, h'.forms, h'.classes⟩
 clear h h' hle e6
 obtain ⟨W, hW⟩ : ∃ W, W = (w.alloc (.cells #[.int .i64 c.e, .int .i64 c.f, .slice c.ra c.rn c.rc, .slice c.fa c.fn c.fc, .slice c.ca c.cn c.cc] 73)).alloc (.cells #[.int .i64 c.e, .int .i64 c.f, .slice da c.rn dc, .slice ea c.fn ec, .slice ga c.cn gc] 73) := ⟨_, rfl⟩
 have hs : W.heap.size = w.heap.size + 2 := by rw [hW]; simp
 have B0 : Below w.heap.size w W := by rw [hW]; exact (zN).alloc (by simp) _
 have a3 : W.cell? ⟨w.heap.size, 3, none⟩ = some (.slice c.fa c.fn c.fc) := by rw [hW]; go_cell
 have a4 : W.cell? ⟨w.heap.size, 4, none⟩ = some (.slice c.ca c.cn c.cc) := by rw [hW]; go_cell
 have b3 : W.cell? ⟨w.heap.size + 1, 3, none⟩ = some (.slice ea c.fn ec) := by rw [hW]; go_cell
 have b4 : W.cell? ⟨w.heap.size + 1, 4, none⟩ = some (.slice ga c.cn gc) := by rw [hW]; go_cell
 go_enter Tryz.func44, Tryz.ntmps44
 go_wp2_with fail
 rw [← hW]
 clear hW
 refine (eqRules_same c.ra da c.rn c.rc dc c.zs W HLE.out.rules (H.out.rules.below B0) (H'.out.1.below B0)).mono ?_
 rintro e w1 ⟨rfl, hb1⟩
 have hz1 := hb1.size
 obtain ⟨hc, hf⟩ := bcell hb1
 have p3 := (hc w.heap.size 3 (by omega)).trans a3
 have p4 := (hc w.heap.size 4 (by omega)).trans a4
 have r3 := (hc (w.heap.size + 1) 3 (by omega)).trans b3
 have r4 := (hc (w.heap.size + 1) 4 (by omega)).trans b4
 have B1 : Hid (Below w.heap.size w w1) := B0.trans (hb1.mono (by omega))
 have hw1 : w.heap.size + 1 < w1.heap.size := by omega
 clear hc hf hb1 a3 a4 b3 b4 B0 hs
 go_wp2_with fail
 refine (eqForms_same c.fa ea c.fn c.fc ec c.fs ds w1 HLE.out.forms HLE.out.parts HP.out (H.out.forms.below B1.out) (H'.out.2.1.below B1.out)).mono ?_
 rintro e w2 ⟨rfl, hb2⟩
 have hz2 := hb2.size
 obtain ⟨hc, hf⟩ := bcell hb2
 have q4 := (hc w.heap.size 4 (by omega)).trans p4
 have s4 := (hc (w.heap.size + 1) 4 (by omega)).trans r4
 have B2 : Hid (Below w.heap.size w w2) := B1.out.trans (hb2.mono (by omega))
 have hw2 : w.heap.size + 1 < w2.heap.size := by omega
 clear hc hf hb2 p3 p4 r3 r4
 go_wp2_with fail
 refine (eqIntsS_same c.ca ga c.cn c.cc gc c.cs w2 HLE.out.classes (H.out.classes.below B2.out) (H'.out.2.2.below B2.out)).mono ?_
 rintro e w3 ⟨rfl, hb3⟩
 have B3 : Below w.heap.size w w3 := B2.out.trans (hb3.mono B2.out.size)
 clear hb3 q4 s4
 go_wp2
 go_ret
 exact ⟨rfl, B3⟩
theorem ConfSame.le {w w' : World} {c d : ConfI} {m : Nat} (h : ConfSame c d) (hc : ConfIn w c) (hd : ConfIn w' d) (hle : ConfLe m c) : ConfLe m d := by
 refine ⟨by rw [h.rn]; exact hle.rules, by rw [h.fn]; exact hle.forms, FormsNew.le (L := 0) hd.forms (fun k x e => ?_) h.ps hle.parts, by rw [h.cn]; exact hle.classes⟩
 have hk : k < c.fn := by
  by_cases q : k < c.fn
  ·exact q
  ·rw [List.getElem?_eq_none (by rw [hc.forms.1]; omega)] at e; cases e
 obtain ⟨b, off, y, _, e', hat⟩ := hc.forms.at hk
 rw [e] at e'
 cases e'
 exact hat.2.1
theorem ConfSame.trans {c d f : ConfI} (h : ConfSame c d) (g : ConfSame c f) : ConfSame d f :=
 ⟨g.e.trans h.e.symm, g.f.trans h.f.symm, g.rn.trans h.rn.symm, g.zs.trans h.zs.symm, g.fn.trans h.fn.symm, g.ps.trans h.ps.symm, g.cn.trans h.cn.symm, g.cs.trans h.cs.symm⟩
theorem ConfNew.cap {w : World} {L : Nat} {d : ConfI} (h : ConfNew w L d) : d.rn ≤ d.rc := by rw [h.rules.1]; exact Nat.le_refl _

end Go.Proofs.YtfkajnenniapaaaGreat
