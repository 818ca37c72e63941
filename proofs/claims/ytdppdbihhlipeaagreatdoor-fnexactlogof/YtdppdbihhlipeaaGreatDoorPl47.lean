/- Contracts. -/
import Derived.Test.YtdppdbihhlipeaaGreatDoorPl38
import Derived.Test.YtdppdbihhlipeaaGreatDoorPl41
namespace Go.Proofs.YtdppdbihhlipeaaGreatDoor
set_option maxRecDepth 100000
set_option maxHeartbeats 8000000
open Go.RowKit
set_option linter.unusedVariables false
set_option linter.unusedSimpArgs false

theorem qL2.take {w:World} {a:Option Addr} {n m:Nat} {gs:List StI} (h:qL2 w a n gs) (hm:m≤n):qL2 w a m (gs.take m):=by
 refine ⟨by rw [List.length_take,h.1];omega,fun hp=>?_⟩
 obtain ⟨b,off,e,q⟩:=h.2 (by omega)
 refine ⟨b,off,e,fun k x hx=>q k x ?_⟩
 rw [List.getElem?_take] at hx
 split at hx
 ·exact hx
 ·cases hx
theorem QR3 {E:qH4} {cs:List qA1} {r:qG5} (h:qK9 E cs r=0):0≤r.u∧r.u≤(r.sn:Int)∧r.sn≤40:=by
 unfold qK9 at h
 split at h
 ·split at h
  ·rename_i hb
   split at h
   ·omega
   ·unfold qH7 at hb
    simp [inR] at hb
    omega
  ·omega
 ·omega

end Go.Proofs.YtdppdbihhlipeaaGreatDoor
