/- Contracts. -/
import Derived.WalkKit
import Derived.Laws.BitsAllLaws
namespace Go.Proofs.YtdppdbihhlipeaaGreatDoor
set_option maxRecDepth 100000
set_option maxHeartbeats 8000000
open Go.RowKit
set_option linter.unusedVariables false
set_option linter.unusedSimpArgs false

def qI5 (s p:Int):Bool:=s.toNat.testBit (p - 1).toNat
def qB3 (s:Int):Nat->List Int
 | 0=>[]
 | k+1=>if qI5 s ((k:Int)+1) then qB3 s k++[(k:Int)+1] else qB3 s k
theorem qHj:∀ n:Fin 256,∀ k:Fin 8,(bits .and .u8 ((n.val:Nat):Int) ((2 ^ k.val:Nat):Int)=bits .and .i64 ((n.val:Nat):Int) ((2 ^ k.val:Nat):Int))/\(bits .and .i64 ((n.val:Nat):Int) ((2 ^ k.val:Nat):Int) != 0)=n.val.testBit k.val:=by
 decide +kernel
theorem qP6 (s p:Int) (h0:0<=s) (h1:s<=255) (p0:1<=p) (p1:p<=8) :
  (bits .and .i64 s ((2 ^ (p - 1).toNat:Nat):Int) != 0)=qI5 s p:=by
 obtain ⟨n,rfl⟩:=Int.eq_ofNat_of_zero_le h0;have:=(qHj ⟨n,by omega⟩ ⟨(p - 1).toNat,by omega⟩).2;simpa [qI5] using this
theorem qKA (s p:Int) (h0:0<=s) (h1:s<=255) (p0:1<=p) (p1:p<=8) :
  (bits .and .u8 s ((2 ^ (p - 1).toNat:Nat):Int) != 0)=qI5 s p:=by
 obtain ⟨n,rfl⟩:=Int.eq_ofNat_of_zero_le h0;have h:=qHj ⟨n,by omega⟩ ⟨(p - 1).toNat,by omega⟩;have h2:=h.2;rw [<- h.1] at h2;simpa [qI5] using h2

def qFT (p:Int):Int:=((2 ^ (p - 1).toNat:Nat):Int)
