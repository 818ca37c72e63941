/-
  PLAIN WORDS on lists that do not fall, and what is kept of one. No Go text is walked here.
  Conditions: each fact bears its own.
  CONTRACT: slices.Compact over roles that do not fall.
  Conditions: each contract bears its own.
  CONTRACT: slices.Compact over roles that do not fall: the library's two loops are walked.
  Conditions: each contract bears its own.
  CONTRACTS: RolesIn of both programs, at every slice of rules.
  Conditions: each contract bears its own.
-/
import Derived.Test.YtdooocjjohdpjaaPg12
import Derived.Test.YtdooocjjohdpjaaPg13
import Derived.Laws.IdiomCopy
import Derived.Test.YtdooocjjohdpjaaPg16
import Derived.Shelf.SlSortCmp.NoneTotal
namespace Go.Proofs.Ytdooocjjohdpjaa
open Go.RowKit

/-- What is kept of the first p: the first one, and each that is not the one ahead. -/
def keepTo (xs : List RoI) : Nat → List RoI
  | 0 => []
  | p + 1 => match xs[p]? with
    | none => keepTo xs p
    | some y => if p ≠ 0 ∧ xs[p - 1]? = some y then keepTo xs p else keepTo xs p ++ [y]

theorem keep_hit {xs : List RoI} {p : Nat} {y : RoI} (h : xs[p]? = some y) (h2 : p = 0 ∨ xs[p - 1]? ≠ some y) : keepTo xs (p + 1) = keepTo xs p ++ [y] := by
  simp only [keepTo, h]
  rw [if_neg]
  rintro ⟨h3, h4⟩
  rcases h2 with h2 | h2
  · exact h3 h2
  · exact h2 h4

theorem keep_miss {xs : List RoI} {p : Nat} {y : RoI} (h : xs[p]? = some y) (h1 : p ≠ 0) (h2 : xs[p - 1]? = some y) : keepTo xs (p + 1) = keepTo xs p := by
  simp only [keepTo, h]
  rw [if_pos ⟨h1, h2⟩]

def Falls (xs : List RoI) : Prop := xs.Pairwise (fun a b => ltR b a = false)

theorem ltR_antisymm {a b : RoI} (h : ltR a b = false) (k : ltR b a = false) : a = b := by
  by_cases e : a = b
  · exact e
  · have := ltR_total h e
    rw [k] at this
    cases this

theorem falls_at {xs : List RoI} (h : Falls xs) {i j : Nat} {x y : RoI} (hij : i < j) (hx : xs[i]? = some x) (hy : xs[j]? = some y) : ltR y x = false := by
  have hj : j < xs.length := by
    by_cases q : j < xs.length
    · exact q
    · rw [List.getElem?_eq_none (by omega)] at hy; cases hy
  have h1 := List.pairwise_iff_getElem.1 h i j (by omega) hj hij
  rw [List.getElem?_eq_getElem (by omega)] at hx
  rw [List.getElem?_eq_getElem hj] at hy
  cases hx
  cases hy
  exact h1

theorem mem_take_at {xs : List RoI} {p : Nat} {x : RoI} : x ∈ xs.take p ↔ ∃ j, j < p ∧ xs[j]? = some x := by
  rw [List.mem_iff_getElem?]
  constructor
  · rintro ⟨j, hj⟩
    rw [List.getElem?_take] at hj
    by_cases h : j < p
    · rw [if_pos h] at hj; exact ⟨j, h, hj⟩
    · rw [if_neg h] at hj; cases hj
  · rintro ⟨j, h, hj⟩
    exact ⟨j, by rw [List.getElem?_take, if_pos h]; exact hj⟩

theorem keep_facts {xs : List RoI} (h : Falls xs) (p : Nat) (hp : p ≤ xs.length) : SS (keepTo xs p) ∧ (∀ x, x ∈ keepTo xs p ↔ x ∈ xs.take p) := by
  induction p with
  | zero => exact ⟨List.Pairwise.nil, fun x => by simp [keepTo]⟩
  | succ p ih =>
    obtain ⟨h1, h2⟩ := ih (by omega)
    have hy : xs[p]? = some xs[p] := List.getElem?_eq_getElem (by omega)
    have ht : xs.take (p + 1) = xs.take p ++ [xs[p]] := List.take_succ_eq_append_getElem (by omega)
    by_cases hq : p = 0 ∨ xs[p - 1]? ≠ some xs[p]
    · rw [keep_hit hy hq]
      refine ⟨List.pairwise_append.2 ⟨h1, List.pairwise_singleton _ _, fun a ha b hb => ?_⟩, fun x => by rw [ht, List.mem_append, List.mem_append, h2 x]⟩
      simp at hb
      subst hb
      obtain ⟨i, hi, hxi⟩ := mem_take_at.1 ((h2 a).1 ha)
      have f1 := falls_at h hi hxi hy
      by_cases e : xs[p] = a
      · exfalso
        subst e
        rcases hq with hq | hq
        · omega
        · by_cases e2 : i = p - 1
          · subst e2; exact hq hxi
          · have hy1 : xs[p - 1]? = some (xs[p - 1]) := List.getElem?_eq_getElem (by omega)
            have f2 := falls_at h (show i < p - 1 by omega) hxi hy1
            have f3 := falls_at h (show p - 1 < p by omega) hy1 hy
            rw [hy1] at hq
            exact hq (by rw [ltR_antisymm f2 f3])
      · exact ltR_total f1 e
    · have hq1 : p ≠ 0 := fun e => hq (.inl e)
      have hq2 : xs[p - 1]? = some xs[p] := by
        by_cases e : xs[p - 1]? = some xs[p]
        · exact e
        · exact absurd (.inr e) hq
      rw [keep_miss hy hq1 hq2]
      refine ⟨h1, fun x => ?_⟩
      rw [h2 x, ht, List.mem_append]
      constructor
      · exact .inl
      · rintro (hx | hx)
        · exact hx
        · simp at hx
          subst hx
          exact mem_take_at.2 ⟨p - 1, by omega, hq2⟩

theorem keep_all {xs : List RoI} {p : Nat} (hp : p ≤ xs.length) (h : ∀ j y, j < p → j ≠ 0 → xs[j]? = some y → xs[j - 1]? ≠ some y) : keepTo xs p = xs.take p := by
  induction p with
  | zero => simp [keepTo]
  | succ p ih =>
    have hy : xs[p]? = some xs[p] := List.getElem?_eq_getElem (by omega)
    have hq : p = 0 ∨ xs[p - 1]? ≠ some xs[p] := by
      by_cases e : p = 0
      · exact .inl e
      · exact .inr (h p _ (by omega) e hy)
    rw [keep_hit hy hq, ih (by omega) (fun j y hj => h j y (by omega)), List.take_succ_eq_append_getElem (by omega)]

theorem keep_len (xs : List RoI) (p : Nat) : (keepTo xs p).length ≤ p := by
  induction p with
  | zero => simp [keepTo]
  | succ p ih =>
    simp only [keepTo]
    split
    · omega
    · split
      · omega
      · simp; omega

end Go.Proofs.Ytdooocjjohdpjaa

namespace Go.Proofs.Ytdooocjjohdpjaa
open Go.RowKit
set_option linter.unusedVariables false
set_option linter.unusedSimpArgs false

theorem role_neql (p q : RoI) (w : World) : (binOp .neq 35 (.agg #[.int .i64 p.1, .int .i64 p.2]) (.agg #[.int .i64 q.1, .int .i64 q.2])).run Try.prog w = .ok (.bool (!sameR p q)) w := by
  obtain ⟨a0, a1⟩ := p
  obtain ⟨b0, b1⟩ := q
  simp only [sameR]
  cases e0 : (a0 == b0)
  · simp [go_sem, e0]
  cases e1 : (a1 == b1)
  · simp [go_sem, e0, e1]
  · simp [go_sem, e0, e1]

attribute [local go_sem ↓] role_eql role_neql

/-- Values set one behind another. -/
def setL (fs : List Value) : Nat → List Value → List Value
  | _, [] => fs
  | o, v :: r => setL (fs.set o v) (o + 1) r

theorem setL_take (vs : List Value) : ∀ (fs : List Value) (o k : Nat), k ≤ o → (setL fs o vs).take k = fs.take k := by
  induction vs with
  | nil => intro fs o k _; rfl
  | cons v r ih =>
    intro fs o k hk
    show (setL (fs.set o v) (o + 1) r).take k = fs.take k
    rw [ih _ _ _ (by omega), List.take_set_of_le hk]

theorem owns_setCells (vs : List Value) : ∀ (w : World) (B g n cap : Nat) (fs : List Value) (o : Nat), w.ownsRow B 35 2 (.slice (some ⟨g, 0, none⟩) n cap) n fs →
    (w.setCells g o vs).ownsRow B 35 2 (.slice (some ⟨g, 0, none⟩) n cap) n (setL fs o vs) ∧ w.grownBy (w.setCells g o vs) (some g) := by
  induction vs with
  | nil => intro w B g n cap fs o h; exact ⟨h, grown_refl _ _⟩
  | cons v r ih =>
    intro w B g n cap fs o h
    have h1 := h.stored o v
    have h2 := ih _ B g n cap _ (o + 1) h1.1
    exact ⟨h2.1, grown_tr h1.2 h2.2⟩

theorem owns_cut {w : World} {B g n cap k : Nat} {fs : List Value} (h : w.ownsRow B 35 2 (.slice (some ⟨g, 0, none⟩) n cap) n fs) (hk : k ≤ n) : w.ownsRow B 35 2 (.slice (some ⟨g, 0, none⟩) k cap) k (fs.take (k * 2)) := by
  rcases h.2 with ⟨e0, _⟩ | ⟨g', cap', cur, e0, hb, hg, hn, hm, hs, ht⟩
  · cases e0
  · injection e0 with e1 _ e3
    injection e1 with e1
    injection e1 with e1
    subst e1; subst e3
    refine ⟨by have := h.1; rw [List.length_take]; omega, .inr ⟨g, cap, cur, rfl, hb, hg, by omega, hm, hs, ?_⟩⟩
    rw [← ht, List.take_take, Nat.min_eq_left (by omega)]

def zc (n : Nat) : List Value := (Builtin.zeroCells (Value.agg #[.int .i64 0, .int .i64 0]).cells n).toList

theorem run_clear2 (w : World) (g o n c : Nat) (hn : 0 < n) (hc : ∀ j, j < n * 2 → (w.cell? ⟨g, o + j, none⟩).isSome = true) (hf : ∀ j, j < n * 2 → w.frozen? ⟨g, o + j, none⟩ = false) (ty : TypeId) :
    (Builtin.clear_ #[45] ty #[.slice (some ⟨g, o, none⟩) n c]).run Try.prog w = .ok (.tuple #[]) (w.setCells g o (zc n)) := by
  have hl : (zc n).length = n * 2 := by simp [zc, Builtin.zeroCells, Value.cells]
  have h1 : ∀ v ∈ zc n, v.oneCell' = true := by
    intro v hv
    simp [zc, Builtin.zeroCells, Value.cells] at hv
    obtain ⟨i, _, rfl⟩ := hv
    rcases Nat.mod_two_eq_zero_or_one i with e | e <;> simp [e, Value.oneCell']
  have hst := run_storeCells_cells (P := Try.prog) g o (zc n) 0 w (by rw [hl]; simpa using hc) (by rw [hl]; simpa using hf) h1
  have hv : ∀ w, (zeroValue 35).run Try.prog w = .ok (.agg #[.int .i64 0, .int .i64 0]) w := fun w => by kernel_rfl
  simp only [Nat.add_zero] at hst
  unfold zc at hst ⊢
  obtain ⟨m, rfl⟩ : ∃ m, n = m + 1 := ⟨n - 1, by omega⟩
  simp [Builtin.clear_, run_underlying Try.underlying45, hv, hst]

end Go.Proofs.Ytdooocjjohdpjaa

namespace Go.Proofs.Ytdooocjjohdpjaa
open Go.RowKit
set_option linter.unusedVariables false
set_option linter.unusedSimpArgs false
attribute [local go_sem ↓] role_eql role_neql

set_option maxRecDepth 20000 in
set_option maxHeartbeats 2000000 in
theorem compact_n (g cap B n : Nat) (xs : List RoI) (w : World) (hnx : n = xs.length) (h : Owns2 w B (.slice (some ⟨g, 0, none⟩) n cap) xs) (hn : n ≤ 1000) (hf : Falls xs) :
    Calls Try.prog 73 #[.slice (some ⟨g, 0, none⟩) n cap] w fun e w' =>
      ∃ m : Nat, e = .returned (.slice (some ⟨g, 0, none⟩) m cap) ∧ m = (keepTo xs n).length ∧ Owns2 w' B (.slice (some ⟨g, 0, none⟩) m cap) (keepTo xs n) ∧ Below B w w' := by
  have HO : Hid (Owns2 w B (.slice (some ⟨g, 0, none⟩) n cap) xs) := h
  have HZ : Hid (n = xs.length) := hnx
  have HFA : Hid (Falls xs) := hf
  obtain ⟨hBg, hgl, hnc⟩ : B ≤ g ∧ g < w.heap.size ∧ n ≤ cap := by
    rcases h.shape with ⟨h1, _⟩ | ⟨g', cap', h1, h2, h3, h4, _⟩
    · simp at h1
    · simp at h1; omega
  have V0 : Hid (RolesV w (some ⟨g, 0, none⟩) xs) := h.read
  clear h hnx hf
  have hn' : (n : Int) ≤ 1000 := by omega
  have hnc' : (n : Int) ≤ (cap : Int) := by omega
  by_cases h2 : n < 2
  · have h2' : (n : Int) < 2 := by omega
    have HK : Hid (keepTo xs n = xs) := by
      show keepTo xs n = xs
      have := keep_all (xs := xs) (p := n) (by rw [← HZ.out]; exact Nat.le_refl _) (fun j y hj hj0 => by omega)
      rw [this, List.take_of_length_le (by rw [← HZ.out]; exact Nat.le_refl _)]
    go_enter Try.func73, Try.ntmps73
    go_wp2
    go_ret
    exact ⟨n, rfl, by rw [HK.out]; exact HZ.out, by rw [HK.out]; exact HO.out, Below.refl _ _⟩
  · have h2' : ¬ ((n : Int) < 2) := by omega
    go_enter Try.func73, Try.ntmps73
    go_wp2
    go_loopw [3] (fun i wr => ∃ k : Nat, k + 1 ≤ n ∧ i = .int .i64 ((k : Int) + 1) ∧ (∀ j y, j < k + 1 → j ≠ 0 → xs[j]? = some y → xs[j - 1]? ≠ some y) ∧ ∃ m, wr = w.drewN m) (fun i _ => n - (intOf i).toNat)
    case atStart => exact ⟨0, by omega, rfl, fun j y hj hj0 => by omega, 0, rfl⟩
    case round =>
      obtain ⟨k, hk, rfl, hall, m, rfl⟩ := hrel
      have HA : Hid (∀ j y, j < k + 1 → j ≠ 0 → xs[j]? = some y → xs[j - 1]? ≠ some y) := hall
      clear hall
      by_cases hlt : k + 1 < n
      · have hlt' : (k : Int) + 1 < (n : Int) := by omega
        obtain ⟨p, hp⟩ : ∃ p, xs[k + 1]? = some p := ⟨_, List.getElem?_eq_getElem (by rw [← HZ.out]; exact hlt)⟩
        obtain ⟨q, hq⟩ : ∃ q, xs[k]? = some q := ⟨_, List.getElem?_eq_getElem (by rw [← HZ.out]; omega)⟩
        obtain ⟨_, e1, c0, c1⟩ := V0.out (k + 1) p hp
        cases e1
        obtain ⟨_, e1, d0, d1⟩ := V0.out k q hq
        cases e1
        have HP : Hid (xs[k + 1]? = some p) := hp
        have HQ : Hid (xs[k]? = some q) := hq
        clear hp hq
        cases hsame : sameR p q
        · have HN : Hid (∀ j y, j < k + 1 + 1 → j ≠ 0 → xs[j]? = some y → xs[j - 1]? ≠ some y) := by
            intro j y hj hj0 hy
            by_cases e : j = k + 1
            · subst e
              rw [HP.out] at hy
              cases hy
              rw [show k + 1 - 1 = k by omega, HQ.out]
              intro e2
              cases e2
              rw [(sameR_iff _ _).2 rfl] at hsame
              cases hsame
            · exact HA.out j y (by omega) hj0 hy
          go_wp2
          go_quiet (fail)
          go_wp2
          refine ⟨⟨k + 1, by omega, by go_num, HN.out, _, rfl⟩, by simp [intOf]; omega⟩
        · have HE : Hid (p = q) := (sameR_iff _ _).1 hsame
          have HK0 : Hid (keepTo xs (k + 1 + 1) = xs.take (k + 1)) := by
            have e1 := keep_miss HP.out (by omega) (by rw [show k + 1 - 1 = k by omega, HQ.out, HE.out])
            rw [e1]
            exact keep_all (by have := HZ.out; omega) HA.out
          have hck : ¬ cap = k + 1 := by omega
          have hlc : (k : Int) + 1 ≤ (cap : Int) := by omega
          have hln : (k : Int) + 1 ≤ (n : Int) := by omega
          go_wp2
          go_quiet (fail)
          go_wp2
          go_loopw [3, 5] (fun s3 s5 wr => ∃ (kk i : Nat) (es : List RoI), s3 = .int .i64 (kk : Int) ∧ s5 = .int .i64 ((i : Int) + 1) ∧ i + 1 ≤ n - (k + 1) ∧ n = es.length ∧ kk ≤ k + 1 + i ∧ es.take kk = keepTo xs (k + 1 + i + 1) ∧ kk = (keepTo xs (k + 1 + i + 1)).length ∧ (∀ j, k + 1 + i ≤ j → es[j]? = xs[j]?) ∧ Owns2 wr B (.slice (some ⟨g, 0, none⟩) n cap) es ∧ w.grownBy wr (some g)) (fun _ s5 _ => n - (intOf s5).toNat)
          case atStart => exact ⟨k + 1, 0, xs, by go_num, rfl, by omega, HZ.out, by omega, HK0.out.symm, by rw [HK0.out, List.length_take, ← HZ.out]; omega, fun j _ => rfl, HO.out, ⟨rfl, rfl, rfl, Nat.le_refl _, fun _ _ _ => rfl⟩⟩
          case round =>
            obtain ⟨kk, i, es, rfl, rfl, hi1, hes, hkk, htk, hkl, hsm, hown, hgr⟩ := hrel
            have HES : Hid (n = es.length) := hes
            have HTK : Hid (es.take kk = keepTo xs (k + 1 + i + 1)) := htk
            have HKL : Hid (kk = (keepTo xs (k + 1 + i + 1)).length) := hkl
            have HSM : Hid (∀ j, k + 1 + i ≤ j → es[j]? = xs[j]?) := hsm
            have HOW : Hid (Owns2 wr B (.slice (some ⟨g, 0, none⟩) n cap) es ∧ w.grownBy wr (some g)) := ⟨hown, hgr⟩
            clear hes htk hkl hsm hown hgr c0 c1 d0 d1
            by_cases hlt2 : i + 1 < n - (k + 1)
            · have hlt2' : (i : Int) + 1 < ((n - (k + 1) : Nat) : Int) := by omega
              obtain ⟨p2, hp2⟩ : ∃ p, xs[k + 1 + (i + 1)]? = some p := ⟨_, List.getElem?_eq_getElem (by rw [← HZ.out]; omega)⟩
              obtain ⟨q2, hq2⟩ : ∃ q, xs[k + 1 + i]? = some q := ⟨_, List.getElem?_eq_getElem (by rw [← HZ.out]; omega)⟩
              obtain ⟨_, e1, c0, c1⟩ := HOW.out.1.read (k + 1 + (i + 1)) p2 (by rw [HSM.out _ (by omega)]; exact hp2)
              cases e1
              obtain ⟨_, e1, d0, d1⟩ := HOW.out.1.read (k + 1 + i) q2 (by rw [HSM.out _ (by omega)]; exact hq2)
              cases e1
              rw [show (k + 1 + (i + 1)) * 2 = (k + 1) * 2 + (i + 1) * 2 by omega] at c0 c1
              rw [show (k + 1 + i) * 2 = (k + 1) * 2 + i * 2 by omega] at d0 d1
              have HP2 : Hid (xs[k + 1 + i + 1]? = some p2) := hp2
              have HQ2 : Hid (xs[k + 1 + i + 1 - 1]? = some q2) := hq2
              clear hp2 hq2
              cases hs2 : sameR p2 q2
              · have HKN : Hid (keepTo xs (k + 1 + i + 1 + 1) = keepTo xs (k + 1 + i + 1) ++ [p2]) := keep_hit HP2.out (.inr (fun e => by rw [HQ2.out] at e; cases e; rw [(sameR_iff _ _).2 rfl] at hs2; cases hs2))
                obtain ⟨⟨v0, z0⟩, f0⟩ := HOW.out.1.cell HES.out (kk * 2) (by omega)
                obtain ⟨⟨v1, z1⟩, f1⟩ := HOW.out.1.cell HES.out (kk * 2 + 1) (by omega)
                have R : Hid (Owns2 ((wr.setCell ⟨g, kk * 2, none⟩ (.int .i64 p2.1)).setCell ⟨g, kk * 2 + 1, none⟩ (.int .i64 p2.2)) B (.slice (some ⟨g, 0, none⟩) n cap) (es.set kk p2) ∧ w.grownBy ((wr.setCell ⟨g, kk * 2, none⟩ (.int .i64 p2.1)).setCell ⟨g, kk * 2 + 1, none⟩ (.int .i64 p2.2)) (some g)) := by
                  have hst := HOW.out.1.put HES.out kk p2
                  exact ⟨hst.1, grown_tr HOW.out.2 hst.2⟩
                have hkn2 : (kk : Int) < (n : Int) := by omega
                go_wp2
                go_quiet (fail)
                go_wp2
                have hkl2 : kk < es.length := by rw [← HES.out]; omega
                refine ⟨⟨kk + 1, i + 1, es.set kk p2, by go_num, by go_num, by omega, by rw [List.length_set]; exact HES.out, by omega, ?_, ?_, fun j hj => ?_, R.out.1, ⟨R.out.2.os, R.out.2.tape, R.out.2.output, R.out.2.size, R.out.2.block⟩⟩, by simp [intOf]; omega⟩
                · rw [show k + 1 + (i + 1) + 1 = k + 1 + i + 1 + 1 by omega, HKN.out, ← HTK.out, List.take_succ_eq_append_getElem (by rw [List.length_set]; exact hkl2), List.take_set_of_le (Nat.le_refl _), List.getElem_set_self]
                · rw [show k + 1 + (i + 1) + 1 = k + 1 + i + 1 + 1 by omega, HKN.out, List.length_append, ← HKL.out]; rfl
                · rw [List.getElem?_set_ne (by omega)]; exact HSM.out j (by omega)
              · have HKN : Hid (keepTo xs (k + 1 + i + 1 + 1) = keepTo xs (k + 1 + i + 1)) := keep_miss HP2.out (by omega) (by rw [HQ2.out, (sameR_iff _ _).1 hs2])
                go_wp2
                go_quiet (fail)
                go_wp2
                refine ⟨⟨kk, i + 1, es, rfl, by go_num, by omega, HES.out, by omega, ?_, ?_, fun j hj => HSM.out j (by omega), ?_, ?_⟩, by simp [intOf]; omega⟩
                · rw [show k + 1 + (i + 1) + 1 = k + 1 + i + 1 + 1 by omega, HKN.out]; exact HTK.out
                · rw [show k + 1 + (i + 1) + 1 = k + 1 + i + 1 + 1 by omega, HKN.out]; exact HKL.out
                · exact HOW.out.1
                · exact ⟨HOW.out.2.os, HOW.out.2.tape, HOW.out.2.output, HOW.out.2.size, HOW.out.2.block⟩
            · have hlt2' : ¬ ((i : Int) + 1 < ((n - (k + 1) : Nat) : Int)) := by omega
              have hkn2 : kk < n := by omega
              have hcl := run_clear2 wr g (kk * 2) (n - kk) (cap - kk) (by omega) (fun j hj => by obtain ⟨⟨v, e⟩, _⟩ := HOW.out.1.cell HES.out (kk * 2 + j) (by omega); rw [e]; rfl) (fun j hj => (HOW.out.1.cell HES.out (kk * 2 + j) (by omega)).2)
              have hck2 : ¬ cap = kk := by omega
              have hkc2 : (kk : Int) ≤ (cap : Int) := by omega
              have hkc3 : (kk : Int) ≤ (n : Int) := by omega
              have RF : Hid (kk = (keepTo xs n).length ∧ Owns2 (wr.setCells g (kk * 2) (zc (n - kk))) B (.slice (some ⟨g, 0, none⟩) kk cap) (keepTo xs n) ∧ Below B w (wr.setCells g (kk * 2) (zc (n - kk)))) := by
                have e1 : k + 1 + i + 1 = n := by omega
                have h1 : wr.ownsRow B 35 2 (.slice (some ⟨g, 0, none⟩) n cap) n (flat2 es) := by
                  have := HOW.out.1
                  unfold Owns2 at this
                  rw [← HES.out] at this
                  exact this
                have h3 := owns_setCells (zc (n - kk)) wr B g n cap (flat2 es) (kk * 2) h1
                have h4 := owns_cut h3.1 (show kk ≤ n by omega)
                have hT := HTK.out
                have hL := HKL.out
                rw [e1] at hT hL
                refine ⟨hL, ?_, (Below.refl B w).grown (grown_tr HOW.out.2 h3.2) (by omega) (fun q e => by cases e; exact hBg)⟩
                show World.ownsRow _ _ _ _ _ _ _
                rw [← hL, ← hT, flat2_take]
                rw [setL_take _ _ _ _ (Nat.le_refl _)] at h4
                exact h4
              go_wp2
              go_ret
              exact ⟨kk, rfl, RF.out⟩
      · have hkn : k + 1 = n := by omega
        have HK : Hid (keepTo xs n = xs) := by
          show keepTo xs n = xs
          have := keep_all (xs := xs) (p := n) (by rw [← HZ.out]; exact Nat.le_refl _) (fun j y hj hj0 => HA.out j y (by omega) hj0)
          rw [this, List.take_of_length_le (by rw [← HZ.out]; exact Nat.le_refl _)]
        have hlt' : ¬ ((k : Int) + 1 < (n : Int)) := by omega
        clear hkn
        go_wp2
        go_ret
        exact ⟨n, rfl, by rw [HK.out]; exact HZ.out, by rw [HK.out]; exact HO.out, bdN (Below.refl _ _) _⟩

theorem compacts_c : Compacts := by
  intro g cap B xs w h hx hs
  refine (compact_n g cap B xs.length xs w rfl h hx hs).mono ?_
  rintro e w' ⟨m, rfl, rfl, ho, hb⟩
  obtain ⟨h1, h2⟩ := keep_facts (show Falls xs from hs) xs.length (Nat.le_refl _)
  exact ⟨keepTo xs xs.length, rfl, h1, fun x => by rw [h2 x, List.take_of_length_le (Nat.le_refl _)], ho, hb⟩

end Go.Proofs.Ytdooocjjohdpjaa

namespace Go.Proofs.Ytdooocjjohdpjaa
open Go.RowKit
set_option linter.unusedVariables false
set_option linter.unusedSimpArgs false

def insR (x : RoI) : List RoI → List RoI
  | [] => [x]
  | y :: ys => if ltR y x = true then y :: insR x ys else if y = x then y :: ys else x :: y :: ys

theorem insR_mem (x z : RoI) (ys : List RoI) : z ∈ insR x ys ↔ z = x ∨ z ∈ ys := by
  induction ys with
  | nil => simp [insR]
  | cons y ys ih =>
    simp only [insR]
    split
    · rw [List.mem_cons, ih, List.mem_cons]
      constructor
      · rintro (h | h | h)
        · exact .inr (.inl h)
        · exact .inl h
        · exact .inr (.inr h)
      · rintro (h | h | h)
        · exact .inr (.inl h)
        · exact .inl h
        · exact .inr (.inr h)
    · split
      · rename_i e
        subst e
        constructor
        · exact .inr
        · rintro (h | h)
          · subst h; simp
          · exact h
      · rw [List.mem_cons]

theorem insR_ss (x : RoI) (ys : List RoI) (h : SS ys) : SS (insR x ys) := by
  induction ys with
  | nil => exact List.pairwise_singleton _ _
  | cons y ys ih =>
    have h' := List.pairwise_cons.1 h
    simp only [insR]
    split
    · rename_i hl
      refine List.pairwise_cons.2 ⟨fun b hb => ?_, ih h'.2⟩
      rcases (insR_mem x b ys).1 hb with rfl | hb'
      · exact hl
      · exact h'.1 b hb'
    · rename_i hl
      split
      · exact h
      · rename_i hne
        have hxy : ltR x y = true := ltR_total (by simpa using hl) hne
        refine List.pairwise_cons.2 ⟨fun b hb => ?_, h⟩
        rcases List.mem_cons.1 hb with rfl | hb'
        · exact hxy
        · exact ltR_trans hxy (h'.1 b hb')

/-- The one strictly rising list with these members. -/
def canon : List RoI → List RoI
  | [] => []
  | x :: xs => insR x (canon xs)

theorem canon_facts (xs : List RoI) : SS (canon xs) ∧ SameM (canon xs) xs := by
  induction xs with
  | nil => exact ⟨List.Pairwise.nil, fun x => Iff.rfl⟩
  | cons x xs ih =>
    refine ⟨insR_ss x _ ih.1, fun z => ?_⟩
    show z ∈ insR x (canon xs) ↔ _
    rw [insR_mem, ih.2 z, List.mem_cons]

theorem canon_of {ys xs : List RoI} (h1 : SS ys) (h2 : SameM ys xs) : ys = canon xs :=
  ss_unique _ _ h1 (canon_facts xs).1 (fun x => (h2 x).trans ((canon_facts xs).2 x).symm)

theorem insR_len (x : RoI) (ys : List RoI) : (insR x ys).length ≤ ys.length + 1 := by
  induction ys with
  | nil => simp [insR]
  | cons y ys ih =>
    simp only [insR]
    split
    · simp; exact ih
    · split <;> simp

theorem canon_len (xs : List RoI) : (canon xs).length ≤ xs.length := by
  induction xs with
  | nil => simp [canon]
  | cons x xs ih =>
    have := insR_len x (canon xs)
    simp only [canon, List.length_cons]
    omega

theorem specRolesIn_g (a : Option Addr) (n cap : Nat) (zs : List RuleI) (w : World) (h : RulesIn w a n zs) (hc : polCode zs = 0) : GivesR 26 a n cap 0 (canon (rawTo zs n)) w := by
  refine (specRolesIn_ok a n cap zs w h hc).mono ?_
  rintro e w' ⟨ys, a', cap', h1, h2, rfl, h3, h4⟩
  obtain rfl := canon_of h1 h2
  exact ⟨a', cap', rfl, h3, h4⟩

set_option maxHeartbeats 1000000 in
theorem implRolesIn_bad (a : Option Addr) (n cap : Nat) (zs : List RuleI) (c : Int) (w : World) (hn : n ≤ 1048576) (hcap : n ≤ cap) (hcm : cap ≤ maxLen) (h : RulesIn w a n zs) (hc : polCode zs = c) (h0 : c ≠ 0) : GivesR 25 a n cap c [] w := by
  have H : Hid (RulesIn (w.alloc (.cells #[.int .i64 0, .slice none 0 0] 47)) a n zs) := h.below ((Below.refl _ _).alloc (Nat.le_refl _) _)
  have HC : Hid (polCode zs = c) := hc
  clear h hc
  have hcn : (c != 0) = true := by simpa using h0
  unfold GivesR
  go_enter Try.func25, Try.ntmps25
  go_wp2_with fail
  refine (implPolicyFault_c a n cap zs _ hn hcap hcm H.out).mono ?_
  rintro e w1 ⟨rfl, hb1⟩
  rw [HC.out]
  have hBx : Below w.heap.size w w1 := below_new hb1
  have hw : w.heap.size < w1.heap.size := by have := hb1.size; simp only [World.size_alloc] at this; omega
  have c0 : w1.cell? ⟨w.heap.size, 0, none⟩ = some (.int .i64 0) := (hb1.cell (p := ⟨w.heap.size, 0, none⟩) (by simp)).trans (by simp)
  have c1 : w1.cell? ⟨w.heap.size, 1, none⟩ = some (.slice none 0 0) := (hb1.cell (p := ⟨w.heap.size, 1, none⟩) (by simp)).trans (by simp)
  have f0 : w1.frozen? ⟨w.heap.size, 0, none⟩ = false := (hb1.frozen (p := ⟨w.heap.size, 0, none⟩) (by simp)).trans (by simp [go_sem])
  have f1 : w1.frozen? ⟨w.heap.size, 1, none⟩ = false := (hb1.frozen (p := ⟨w.heap.size, 1, none⟩) (by simp)).trans (by simp [go_sem])
  clear hb1
  go_wp2
  refine bodyPost_ret (v := .agg #[.int .i64 c, .slice none 0 0]) (by simp [results, Try.results25, go_sem, c0, c1, hw]) rfl ⟨none, 0, rfl, World.ownsRow_nil _ _ _ _, ?_⟩
  exact hBx |>.setCell (Nat.le_refl _) _ |>.setCell (Nat.le_refl _) _

theorem sortNil_c (w : World) (fv : Value) : Calls Try.prog 72 #[.slice none 0 0, fv] w fun e w' => e = .returned (.tuple #[]) ∧ w' = w := by
  have h := AnyF.slices_SortFunc_none Try.sortRole none 0 fv w
  change Calls Try.prog 72 _ _ _ at h
  exact h

set_option maxHeartbeats 400000 in
theorem compactNil_c (w : World) : Calls Try.prog 73 #[.slice none 0 0] w fun e w' => e = .returned (.slice none 0 0) ∧ w' = w := by
  go_enter Try.func73, Try.ntmps73
  go_wp2
  go_ret
  exact ⟨rfl, rfl⟩

set_option maxHeartbeats 1000000 in
theorem implRolesIn_nil (a : Option Addr) (cap : Nat) (w : World) (hcm : cap ≤ maxLen) (h : RulesIn w a 0 []) : GivesR 25 a 0 cap 0 [] w := by
  have H : Hid (RulesIn (w.alloc (.cells #[.int .i64 0, .slice none 0 0] 47)) a 0 []) := h.below ((Below.refl _ _).alloc (Nat.le_refl _) _)
  clear h
  unfold GivesR
  go_enter Try.func25, Try.ntmps25
  go_wp2_with fail
  refine (implPolicyFault_c a 0 cap [] _ (by omega) (Nat.zero_le _) hcm H.out).mono ?_
  rintro e w1 ⟨rfl, hb1⟩
  rw [show polCode [] = 0 from rfl]
  have hBx : Below w.heap.size w w1 := below_new hb1
  have hw : w.heap.size < w1.heap.size := by have := hb1.size; simp only [World.size_alloc] at this; omega
  have c0 : w1.cell? ⟨w.heap.size, 0, none⟩ = some (.int .i64 0) := (hb1.cell (p := ⟨w.heap.size, 0, none⟩) (by simp)).trans (by simp)
  have c1 : w1.cell? ⟨w.heap.size, 1, none⟩ = some (.slice none 0 0) := (hb1.cell (p := ⟨w.heap.size, 1, none⟩) (by simp)).trans (by simp)
  have f0 : w1.frozen? ⟨w.heap.size, 0, none⟩ = false := (hb1.frozen (p := ⟨w.heap.size, 0, none⟩) (by simp)).trans (by simp [go_sem])
  have f1 : w1.frozen? ⟨w.heap.size, 1, none⟩ = false := (hb1.frozen (p := ⟨w.heap.size, 1, none⟩) (by simp)).trans (by simp [go_sem])
  clear hb1
  go_wp2
  go_loop [4, 15] (fun s i => s = .slice none 0 0 ∧ i = .int .i64 0) (fun _ _ => 0)
  case atStart => exact ⟨rfl, rfl⟩
  case round =>
    obtain ⟨rfl, rfl⟩ := hrel
    go_wp2_with fail
    refine (sortNil_c _ _).mono ?_
    rintro e w2 ⟨rfl, rfl⟩
    go_wp2_with fail
    refine (compactNil_c _).mono ?_
    rintro e w3 ⟨rfl, rfl⟩
    go_wp2
    refine bodyPost_ret (v := .agg #[.int .i64 0, .slice none 0 0]) (by simp [results, Try.results25, go_sem, c0, c1, hw]) rfl ⟨none, 0, rfl, World.ownsRow_nil _ _ _ _, ?_⟩
    exact hBx |>.setCell (Nat.le_refl _) _ |>.setCell (Nat.le_refl _) _

theorem implRolesIn_g (a : Option Addr) (n cap : Nat) (zs : List RuleI) (w : World) (hcap : n ≤ cap) (hcm : cap ≤ maxLen) (h : RulesIn w a n zs) (hc : polCode zs = 0) : GivesR 25 a n cap 0 (canon (rawTo zs n)) w := by
  by_cases hp : 0 < n
  · refine (implRoles_ok a n cap zs w hcap hcm h hc hp sorts_c compacts_c).mono ?_
    rintro e w' ⟨ys, a', cap', h1, h2, rfl, h3, h4⟩
    obtain rfl := canon_of h1 h2
    exact ⟨a', cap', rfl, h3, h4⟩
  · have e : n = 0 := by omega
    subst e
    have e2 : zs = [] := List.length_eq_zero_iff.1 h.1
    subst e2
    exact implRolesIn_nil a cap w hcm h

end Go.Proofs.Ytdooocjjohdpjaa
