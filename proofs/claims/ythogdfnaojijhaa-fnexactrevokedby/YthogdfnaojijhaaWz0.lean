/-
  CONTRACTS: chapter 14: reasons told to one function; what goes against a statement.
  Conditions: each contract bears its own.
-/
import Derived.Test.YthogdfnaojijhaaCe3
import Derived.Deep.CutBlock
import Derived.Test.YthogdfnaojijhaaIn0
import Derived.Test.YthogdfnaojijhaaEx0
import Derived.Test.YthogdfnaojijhaaRvk
namespace Go.Proofs.Ythogdfnaojijhaa
open Go.RowKit
set_option linter.unusedVariables false
set_option linter.unusedSimpArgs false

/-- The first reason of several. -/
def frI : List Int → Int
  | [] => 0
  | r :: rs => if r = 0 then frI rs else r

set_option maxHeartbeats 1000000 in
theorem firstReason_c (a : Option Addr) (n cap : Nat) (rs : List Int) (w : World) (hn : n ≤ 1048576) (h : IntIn w a n rs) :
    Calls Try.prog 43 #[.slice a n cap] w fun e w' => e = .returned (.int .i64 (frI rs)) ∧ w = w' := by
  have H : Hid (IntIn w a n rs) := h
  have HZ : Hid (rs.length = n) := h.1
  clear h
  have hn' : (n : Int) ≤ 1048576 := by omega
  go_enter Try.func43, Try.ntmps43
  go_wp2_with fail
  go_loop [7] (fun i => ∃ k : Nat, k ≤ n ∧ i = .int .i64 (k : Int) ∧ frI rs = frI (rs.drop k)) (fun i => n - (intOf i).toNat)
  case atStart => exact ⟨0, Nat.zero_le _, rfl, rfl⟩
  case round =>
    obtain ⟨k, hk, rfl, hf⟩ := hrel
    have HF : Hid (frI rs = frI (rs.drop k)) := hf
    clear hf
    by_cases hlt : k < n
    · obtain ⟨b, off, x, rfl, hs, hxa, hgl⟩ := H.out.at hlt
      have hlt' : (k : Int) < (n : Int) := by omega
      have hk0 : (0 : Int) ≤ (k : Int) := by omega
      have HD : Hid (frI rs = if x = 0 then frI (rs.drop (k + 1)) else x) := by
        show _ = _
        have hkl : k < rs.length := by have := HZ.out; omega
        rw [HF.out, List.drop_eq_getElem_cons hkl]
        have : rs[k] = x := by rw [List.getElem?_eq_getElem hkl] at hs; exact Option.some.inj hs
        rw [this]
        rfl
      clear hs
      by_cases q : x = 0
      · have qb : (x != 0) = false := by simp [q]
        have HN : Hid (frI rs = frI (rs.drop (k + 1))) := by show _ = _; rw [HD.out, if_pos q]
        clear q
        go_wp2
        exact ⟨⟨k + 1, by omega, by go_num, HN.out⟩, by simp [intOf]; omega⟩
      · have qb : (x != 0) = true := by simp [q]
        have HN : Hid (frI rs = x) := by show _ = _; rw [HD.out, if_neg q]
        clear q
        go_wp2
        go_ret
        exact ⟨by rw [HN.out]; rfl, rfl⟩
    · have hkn : k = n := by omega
      subst hkn
      have HN : Hid (frI rs = 0) := by
        show _ = _
        rw [HF.out, List.drop_eq_nil_of_le (by have := HZ.out; omega)]
        rfl
      go_wp2
      go_ret
      exact ⟨by rw [HN.out]; rfl, rfl⟩

theorem intIn2 {w : World} {g : Nat} {c d : Int} (h0 : w.cell? ⟨g, 0, none⟩ = some (.int .i64 c)) (h1 : w.cell? ⟨g, 1, none⟩ = some (.int .i64 d)) : IntIn w (some ⟨g, 0, none⟩) 2 [c, d] := by
  refine ⟨rfl, fun _ => ⟨g, 0, rfl, fun k r e => ?_⟩⟩
  match k, e with
  | 0, e => simp at e; subst e; exact h0
  | 1, e => simp at e; subst e; exact h1

theorem reasons2_c (g : Nat) (c d : Int) (w : World) (h0 : w.cell? ⟨g, 0, none⟩ = some (.int .i64 c)) (h1 : w.cell? ⟨g, 1, none⟩ = some (.int .i64 d)) :
    Calls Try.prog 43 #[.slice (some ⟨g, 0, none⟩) 2 2] w fun e w' => e = .returned (.int .i64 (frI [c, d])) ∧ w = w' :=
  firstReason_c _ 2 2 _ w (by omega) (intIn2 h0 h1)

set_option maxHeartbeats 400000 in
theorem reasonIf_c (b : Bool) (k : Int) (w : World) : Calls Try.prog 44 #[.bool b, .int .i64 k] w fun e w' => e = .returned (.int .i64 (if b = true then k else 0)) ∧ w = w' := by
  cases b
  · go_enter Try.func44, Try.ntmps44
    go_wp2
    go_ret
    exact ⟨rfl, rfl⟩
  · go_enter Try.func44, Try.ntmps44
    go_wp2
    go_ret
    exact ⟨rfl, rfl⟩

/-- What is ahead stays. -/
abbrev KW (W W' : World) : Prop := (∀ b o, b < W.heap.size → W'.cell? ⟨b, o, none⟩ = W.cell? ⟨b, o, none⟩) ∧ Below W.heap.size W W'

/-- The code of a statement of which an issue is asked. -/
def isC (x : StI) : Int := if stCode x = 0 then (if x.k = 1 then 0 else 1) else stCode x

set_option maxRecDepth 20000 in
set_option maxHeartbeats 1000000 in
theorem issueFault_c (x : StI) (w : World) : Calls Try.prog 45 #[.agg #[.int .i64 x.k, .int .i64 x.e, .int .i64 x.f, .int .i64 x.s, .int .i64 x.n]] w fun e w' => e = .returned (.int .i64 (isC x)) ∧ Below w.heap.size w w' := by
  obtain ⟨V, hV⟩ : ∃ V, V = w.alloc (.cells #[.int .i64 x.k, .int .i64 x.e, .int .i64 x.f, .int .i64 x.s, .int .i64 x.n] 36) := ⟨_, rfl⟩
  have BV : Below w.heap.size w V := by rw [hV]; exact (Below.refl _ _).alloc (Nat.le_refl _) _
  have HX : StAt V w.heap.size 0 x := by rw [hV]; exact StAt.new w x _
  have hVl : w.heap.size < V.heap.size := by rw [hV]; simp
  obtain ⟨t, ht⟩ : ∃ t, stCode x = t := ⟨_, rfl⟩
  have HT : Hid (∀ w : World, Calls Try.prog 35 #[.agg #[.int .i64 x.k, .int .i64 x.e, .int .i64 x.f, .int .i64 x.s, .int .i64 x.n]] w fun e w' => e = .returned (.int .i64 t) ∧ Below w.heap.size w w') := by rw [← ht]; exact implStatementFault_c x
  obtain ⟨b, hb⟩ : ∃ b, (x.k != 1) = b := ⟨_, rfl⟩
  obtain ⟨u, hu⟩ : ∃ u, (if b = true then (1 : Int) else 0) = u := ⟨_, rfl⟩
  have HC : Hid (frI [t, u] = isC x) := by
    show _ = _
    unfold isC frI frI frI
    rw [ht, ← hu, ← hb]
    by_cases q : t = 0
    · rw [if_pos q, if_pos q]
      by_cases r : x.k = 1
      · simp [r]
      · simp [r]
    · rw [if_neg q, if_neg q]
  have HR : Hid (∀ w, Calls Try.prog 44 #[.bool b, .int .i64 1] w fun e w' => e = .returned (.int .i64 u) ∧ w = w') := fun w => by rw [← hu]; exact reasonIf_c b 1 w
  obtain ⟨x0, x1, x2, x3, x4⟩ := HX
  simp only [Nat.zero_add] at x0 x1 x2 x3 x4
  clear ht hu
  go_enter Try.func45, Try.ntmps45
  go_upto_region 1 with fail
  rw [← hV]
  clear hV
  go_region_held3 (fun w' => KW V w') (first | exact hS | exact kp_drew _ | exact kpE_new (by assumption) _ | assumption)
    (first | (go_at_call 35; refine (HT.out _).mono ?_; rintro e w' ⟨rfl, hb2⟩; have hS := kp_step (by assumption) hb2) | (go_at_call 44; refine (HR.out _).mono ?_; rintro e w' ⟨rfl, rfl⟩) | (go_at_call 43; refine (reasons2_c _ t u _ ?_ ?_).mono ?_; (· simp [go_sem]); (· simp [go_sem]); rintro e w' ⟨rfl, rfl⟩; rw [HC.out]))
  have hS3 := kpE_new hS (.cells #[.int .i64 t, .int .i64 u] 2)
  go_wp2
  go_ret
  exact ⟨rfl, BV.trans (hS3.2.mono BV.size)⟩

end Go.Proofs.Ythogdfnaojijhaa
