/- Contracts. -/
import Derived.Test.YtfkajnenniapaaaGreatPt35
namespace Go.Proofs.YtfkajnenniapaaaGreat
set_option maxRecDepth 100000
set_option maxHeartbeats 8000000
open Go.RowKit
set_option linter.unusedVariables false
set_option linter.unusedSimpArgs false

structure SameCs (cs ds : List ConfI) : Prop where
 ln : ds.length = cs.length
 sm : ∀ (j : Nat) c d, cs[j]? = some c → ds[j]? = some d → ConfSame c d
theorem code_same {c d : ConfI} (h : ConfSame c d) : codeC d = codeC c := by
 unfold codeC
 rw [h.e, h.f, h.zs, h.ps, h.cs]
theorem SameCs.get {cs ds : List ConfI} (h : SameCs cs ds) {j : Nat} {d : ConfI} (e : ds[j]? = some d) : ∃ c, cs[j]? = some c ∧ ConfSame c d := by
 have hj := (List.getElem?_eq_some_iff.1 e).1
 rw [h.ln] at hj
 exact ⟨_, List.getElem?_eq_getElem hj, h.sm j _ d (List.getElem?_eq_getElem hj) e⟩
theorem SameCs.f0 {cs ds : List ConfI} (h : SameCs cs ds) : (ds[0]?.getD default).f = (cs[0]?.getD default).f := by
 cases e : ds[0]? with
 | none =>
  have : ds.length ≤ 0 := by simpa using e
  have e2 : cs[0]? = none := List.getElem?_eq_none (by rw [← h.ln]; exact this)
  rw [e2]
 | some d =>
  obtain ⟨c, hc, hs⟩ := h.get e
  rw [hc]
  exact hs.f
theorem sameCs_to {cs ds : List ConfI} (h : SameCs cs ds) : ∀ k, cfsTo ds k = cfsTo cs k
 | 0 => rfl
 | k + 1 => by
  have ih := sameCs_to h k
  show (if cfsTo ds k = 0 then (match ds[k]? with
   | none => 0
   | some c => if codeC c = 0 then (if c.f = (ds[0]?.getD default).f then 0 else 1) else codeC c) else cfsTo ds k) = _
  rw [ih]
  by_cases q : cfsTo cs k = 0
  ·rw [if_pos q]
   cases e : ds[k]? with
   | none =>
    have : ds.length ≤ k := by simpa using e
    have e2 : cs[k]? = none := List.getElem?_eq_none (by rw [← h.ln]; exact this)
    rw [cfsTo, if_pos q, e2]
   | some d =>
    obtain ⟨c, hc, hs⟩ := h.get e
    rw [cfsTo_next hc q]
    simp only
    rw [code_same hs, hs.f, h.f0]
  ·rw [if_neg q, cfsTo, if_neg q]
theorem SameCs.cfs {cs ds : List ConfI} (h : SameCs cs ds) : cfsCode ds = cfsCode cs := by
 unfold cfsCode
 rw [h.ln, sameCs_to h]
theorem ConfsTo.same {w0 w : World} {n : Nat} {cs ds : List ConfI} (h : ConfsTo w0 w n cs ds n) (hc : cs.length = n) : SameCs cs ds := ⟨h.ln.trans hc.symm, h.sm⟩
theorem ConfsTo.le {w0 w wA : World} {a : Option Addr} {n : Nat} {cs ds : List ConfI} (h : ConfsTo w0 w n cs ds n) (hn : n ≤ 1048576) (hi : ConfsIn wA a n cs) (hl : ∀ (k : Nat) c, cs[k]? = some c → ConfLe 1048576 c) : ConfsLe 1048576 ds := by
 have hS := h.same hi.len
 refine ⟨fun k d e => ?_, fun k d e => ?_⟩
 ·obtain ⟨c, hc, hs⟩ := hS.get e
  exact hs.le (hi.each k c hc) (h.nw k d e).rd (hl k c hc)
 ·obtain ⟨c, hc, hs⟩ := hS.get e
  have q := (h.nw k d e).nw.rules.1
  have hl2 := (hs.le (hi.each k c hc) (h.nw k d e).rd (hl k c hc)).rules
  refine ⟨(h.nw k d e).nw.cap, ?_⟩
  rw [q]
  unfold maxLen
  omega
theorem sameCs_two {cs ds es : List ConfI} (h : SameCs cs ds) (g : SameCs cs es) : ∀ (j : Nat) c d, ds[j]? = some c → es[j]? = some d → ConfSame c d := fun j c d e1 e2 => by
 obtain ⟨x, hx, hs⟩ := h.get e1
 exact hs.trans (g.sm j x d hx e2)

end Go.Proofs.YtfkajnenniapaaaGreat
