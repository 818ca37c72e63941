/- Contracts. -/
import Derived.Test.YtdppdbihhlipeaaGreatDoorPl07
namespace Go.Proofs.YtdppdbihhlipeaaGreatDoor
set_option maxRecDepth 100000
set_option maxHeartbeats 8000000
open Go.RowKit
set_option linter.unusedVariables false
set_option linter.unusedSimpArgs false

theorem owns_ints {w:World} {B:Nat} {a:Option Addr} {n cap:Nat} {zs:List Int} (hn:zs.length=n) (h:w.ownsRow B 2 1 (.slice a n cap) n (zs.map (Value.int .i64))):qF8 w a n zs:=by
 refine ⟨hn,fun hp=>?_⟩
 rcases h.2 with ⟨_,h0⟩ | ⟨g,cap',cur,e,_⟩
 ·omega
 ·simp at e
  obtain ⟨rfl,rfl⟩:=e
  refine ⟨g,0,rfl,fun k x hx=>?_⟩
  have hk:k < n:=by
   by_cases q:k < n
   ·exact q
   ·rw [List.getElem?_eq_none (by omega)] at hx;cases hx
  rw [Nat.zero_add,h.cellAt k (by omega),List.getElem?_map,hx]
  rfl

end Go.Proofs.YtdppdbihhlipeaaGreatDoor
