/- Contracts. -/
import Derived.Laws.BitsAllLaws
import Derived.Test.YtlhgjackapdmbaaGreatDoorChecked
import Derived.ProofKit
import Derived.Outline
import Derived.Test.YtlhgjackapdmbaaGreatDoorPe01
namespace Go.Proofs.YtlhgjackapdmbaaGreatDoor
set_option maxRecDepth 100000
set_option maxHeartbeats 8000000
open Go.RowKit
set_option linter.unusedVariables false
set_option linter.unusedSimpArgs false

def qJ0 (s p:Int):Bool:=s.toNat.testBit (p - 1).toNat
def qB2 (s:Int):Nat→List Int
 | 0=>[]
 | k+1=>if qJ0 s ((k:Int)+1) then qB2 s k++[(k:Int)+1] else qB2 s k
theorem and_dec:∀ n:Fin 256,∀ k:Fin 8,(bits .and .u8 ((n.val:Nat):Int) ((2 ^ k.val:Nat):Int)=bits .and .i64 ((n.val:Nat):Int) ((2 ^ k.val:Nat):Int))∧(bits .and .i64 ((n.val:Nat):Int) ((2 ^ k.val:Nat):Int) != 0)=n.val.testBit k.val:=by
 decide +kernel
theorem qQ4 (s p:Int) (h0:0≤s) (h1:s≤255) (p0:1≤p) (p1:p≤8) :
  (bits .and .i64 s ((2 ^ (p - 1).toNat:Nat):Int) != 0)=qJ0 s p:=by
 obtain ⟨n,rfl⟩:=Int.eq_ofNat_of_zero_le h0
 have:=(and_dec ⟨n,by omega⟩ ⟨(p - 1).toNat,by omega⟩).2
 simpa [qJ0] using this
theorem and_u8 (s p:Int) (h0:0≤s) (h1:s≤255) (p0:1≤p) (p1:p≤8) :
  (bits .and .u8 s ((2 ^ (p - 1).toNat:Nat):Int) != 0)=qJ0 s p:=by
 obtain ⟨n,rfl⟩:=Int.eq_ofNat_of_zero_le h0
 have h:=and_dec ⟨n,by omega⟩ ⟨(p - 1).toNat,by omega⟩
 have h2:=h.2
 rw [← h.1] at h2
 simpa [qJ0] using h2

theorem l1Has_c (s p:Int) (h0:0≤s) (h1:s≤255) (p0:1≤p) (p1:p≤8) (w:World) :
  Calls Tryz.prog 156 #[.int .i64 s,.int .i64 p] w fun e w'=>e = .returned (.bool (qJ0 s p))∧w=w':=by
 have hp:p=1∨p=2∨p=3∨p=4∨p=5∨p=6∨p=7∨p=8:=by omega
 rcases hp with rfl | rfl | rfl | rfl | rfl | rfl | rfl | rfl
 ·have e1:=qQ4 s 1 h0 h1 (by omega) (by omega)
  simp at e1
  go_enter Tryz.func156,Tryz.ntmps156
  go_wp2
  go_ret
  exact ⟨rfl,rfl⟩
 ·have e1:=qQ4 s 2 h0 h1 (by omega) (by omega)
  simp at e1
  go_enter Tryz.func156,Tryz.ntmps156
  go_wp2
  go_ret
  exact ⟨rfl,rfl⟩
 ·have e1:=qQ4 s 3 h0 h1 (by omega) (by omega)
  simp at e1
  go_enter Tryz.func156,Tryz.ntmps156
  go_wp2
  go_ret
  exact ⟨rfl,rfl⟩
 ·have e1:=qQ4 s 4 h0 h1 (by omega) (by omega)
  simp at e1
  go_enter Tryz.func156,Tryz.ntmps156
  go_wp2
  go_ret
  exact ⟨rfl,rfl⟩
 ·have e1:=qQ4 s 5 h0 h1 (by omega) (by omega)
  simp at e1
  go_enter Tryz.func156,Tryz.ntmps156
  go_wp2
  go_ret
  exact ⟨rfl,rfl⟩
 ·have e1:=qQ4 s 6 h0 h1 (by omega) (by omega)
  simp at e1
  go_enter Tryz.func156,Tryz.ntmps156
  go_wp2
  go_ret
  exact ⟨rfl,rfl⟩
 ·have e1:=qQ4 s 7 h0 h1 (by omega) (by omega)
  simp at e1
  go_enter Tryz.func156,Tryz.ntmps156
  go_wp2
  go_ret
  exact ⟨rfl,rfl⟩
 ·have e1:=qQ4 s 8 h0 h1 (by omega) (by omega)
  simp at e1
  go_enter Tryz.func156,Tryz.ntmps156
  go_wp2
  go_ret
  exact ⟨rfl,rfl⟩
theorem Tryz.info2:(Tryz.prog.info? 2).map (fun i=>(i.zero,i.size,i.bytes))=some (some (.int .i64 0),1,8):=by kernel_rfl
theorem qY8 (s:Int) (k:Nat):(qB2 s k).length≤k:=by
 induction k with
 | zero=>simp [qB2]
 | succ k ih =>
  simp only [qB2]
  split
  ·simp;omega
  ·omega
theorem qV7 (s:Int) (k:Nat) (h:qJ0 s ((k:Int)+1)=true):qB2 s (k+1)=qB2 s k++[(k:Int)+1]:=by simp [qB2,h]
theorem QM1 (s:Int) (k:Nat) (h:qJ0 s ((k:Int)+1)=false):qB2 s (k+1)=qB2 s k:=by simp [qB2,h]
theorem list_keep {B k:Nat} {s:Int} {w wr w1:World} {u v':Value} {o:Obj} (hB:B≤wr.heap.size) (hh:qJ0 s ((k:Int)+1)=true)
  (hown:wr.ownsRow B 2 1 u (qB2 s k).length ((qB2 s k).map (Value.int .i64))) (hnx:Below B w wr)
  (hown':w1.ownsRow B 2 1 v' ((qB2 s k).length+1) ((qB2 s k).map (Value.int .i64)++[.int .i64 ((k:Int)+1)])) (hgrow:(wr.alloc o).grownBy w1 u.ownBlock) :
  w1.ownsRow B 2 1 v' (qB2 s (k+1)).length ((qB2 s (k+1)).map (Value.int .i64))∧Below B w w1:=by
 refine ⟨by rw [qV7 s k hh];simpa using hown',(hnx.alloc (by omega) o).grown hgrow (by simp;omega) (fun j hj=>by have:=(hown.lt j hj).1;omega)⟩
theorem bcell {W w1:World} (hb:Below W.heap.size W w1):(∀ b o,b < W.heap.size→w1.cell? ⟨b,o,none⟩=W.cell? ⟨b,o,none⟩)∧(∀ b o,b < W.heap.size→w1.frozen? ⟨b,o,none⟩=W.frozen? ⟨b,o,none⟩) :=
 ⟨fun b o h=>hb.cell (p:=⟨b,o,none⟩) h,fun b o h=>hb.frozen (p:=⟨b,o,none⟩) h⟩
theorem owns_shape {w:World} {b:Nat} {t:TypeId} {v:Value} {n:Nat} {xs:List Value} (h:w.ownsRow b t 1 v n xs) (hv:v ≠ .slice none 0 0):∃ g cap,v = .slice (some ⟨g,0,none⟩) n cap:=by
 rcases h.2 with ⟨h',_⟩ | ⟨g,cap,cur,h',_⟩
 ·exact absurd h' hv
 ·exact ⟨g,cap,h'⟩
theorem QU4 (s:Int) (h0:0≤s) (h1:s≤255) (w:World) :
  Calls Tryz.prog 128 #[.int .i64 s] w fun e w'=>∃ g cap,e = .returned (.slice (some ⟨g,0,none⟩) (qB2 s 8).length cap) ∧
   w'.ownsRow w.heap.size 2 1 (.slice (some ⟨g,0,none⟩) (qB2 s 8).length cap) (qB2 s 8).length ((qB2 s 8).map (Value.int .i64))∧Below w.heap.size w w':=by
 obtain ⟨i0,hi,hz0,hz1,hz2⟩:=info_parts Tryz.info2
 go_enter Tryz.func128,Tryz.ntmps128
 go_wp2
 go_loopw [3,4] (fun v p wr=>∃ k:Nat,k≤8∧p = .int .i64 ((k:Int)+1)∧wr.ownsRow w.heap.size 2 1 v (qB2 s k).length ((qB2 s k).map (Value.int .i64))∧Below w.heap.size w wr∧v ≠ .slice none 0 0)
  (fun _ p _=>9 - (intOf p).toNat)
 case atStart=>exact ⟨0,Nat.zero_le _,rfl,World.ownsRow_lit w #[] 0 (Nat.le_refl _) (Nat.zero_le _) rfl,zN,by simp⟩
 case round =>
  obtain ⟨k,hk,rfl,hown,hnx,hnn⟩:=hrel
  have hkl:=qY8 s k
  by_cases hlt:k < 8
  ·have hlt':(k:Int)+1≤8:=by omega
   cases hh:qJ0 s ((k:Int)+1) with
   | true =>
    have HH:Hid (qJ0 s ((k:Int)+1)=true):=hh
    clear hh
    go_wp2_with (first
     | (at_builtin;refine wpList_append_own _ rfl _ _ 61 rfl w.heap.size 2 i0 (.int .i64 0) 1 8 Tryz.underlying61 hi hz0 hz1 hz2 rfl (by decide) _ _ _ rfl (hown.alloc _) ⟨wr.heap.size,0,none⟩ 1 1 [.int .i64 ((k:Int)+1)] rfl rfl ?c1 ?c2 ?c3 ?c4 ?c5 ?_)
     | (go_at_call 156;refine (l1Has_c s _ h0 h1 (by omega) (by omega) _).mono ?_;rintro e w' ⟨rfl,rfl⟩;rw [HH.out]))
    case c1 =>
     intro j u hj
     match j,hj with
     | 0,hj=>simp at hj;subst hj;simp [Addr.add]
    case c2=>intro u hu;simp at hu;subst hu;rfl
    case c3=>unfold maxLen;omega
    case c4=>omega
    case c5=>have:=hnx.size;simp;omega
    ·intro v' w1 hown' hgrow hnil
     have hnn':v' ≠ .slice none 0 0:=hnil
     clear hnil
     have R:=list_keep (by have:=hnx.size;omega) HH.out hown hnx hown' hgrow
     clear hown' hgrow hown
     go_wp2
     go_roundw
     case rel=>exact ⟨k+1,by omega,by go_num,R.1,R.2,hnn'⟩
     case measure=>simp [intOf];omega
   | false =>
    have HH:Hid (qJ0 s ((k:Int)+1)=false):=hh
    clear hh
    go_wp2_with (go_at_call 156;refine (l1Has_c s _ h0 h1 (by omega) (by omega) _).mono ?_;rintro e w' ⟨rfl,rfl⟩;rw [HH.out])
    go_roundw
    case rel=>exact ⟨k+1,by omega,by go_num,by rw [QM1 s k HH.out];exact hown,hnx,hnn⟩
    case measure=>simp [intOf];omega
  ·have hk8:k=8:=by omega
   subst hk8
   obtain ⟨g,cap,hv⟩:=owns_shape hown hnn
   rw [hv] at hown ⊢
   clear hv hnn
   go_wp2
   go_ret
   exact ⟨g,cap,rfl,hown,hnx⟩

def bitI (p:Int):Int:=((2 ^ (p - 1).toNat:Nat):Int)

end Go.Proofs.YtlhgjackapdmbaaGreatDoor
