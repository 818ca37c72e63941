/- Contracts. -/
import Derived.Test.YtlhgjackapdmbaaGreatDoorPw01
namespace Go.Proofs.YtlhgjackapdmbaaGreatDoor
set_option maxRecDepth 100000
set_option maxHeartbeats 8000000
open Go.RowKit
set_option linter.unusedVariables false
set_option linter.unusedSimpArgs false

def qJ7 (zs:List qA0):Nat→Int
 | 0=>0
 | k+1=>if qJ7 zs k≠0 then qJ7 zs k else match zs[k]? with
  | none=>0
  | some r=>if qA5 r≠0 then qA5 r else if r∈zs.take k then 6 else 0
def qC2 (zs:List qA0):Int:=if 16 < zs.length then 2 else qJ7 zs zs.length
theorem qP9 (zs:List qA0) (k m:Nat) (c:Int) (hc:c≠0) (h:qJ7 zs k=c) (hm:k≤m):qJ7 zs m=c:=by
  induction m with
  | zero => obtain rfl:k=0:=by omega
            exact h
  | succ m ih =>
    by_cases e:k=m+1
    · subst e;exact h
    · have:=ih (by omega)
      simp only [qJ7,this]
      rw [if_pos hc]
theorem QB6 (zs:List qA0) (k:Nat) (r:qA0) (hk:zs[k]? = some r) (h0:qJ7 zs k=0) (hr:qA5 r≠0):qJ7 zs (k+1)=qA5 r:=by
 simp [qJ7,h0,hk,hr]
theorem QD4 (zs:List qA0) (k:Nat) (r:qA0) (hk:zs[k]? = some r) (h0:qJ7 zs k=0) (hr:qA5 r=0) (hm:r∈zs.take k):qJ7 zs (k+1)=6:=by
 simp [qJ7,h0,hk,hr,hm]
theorem QO4 (zs:List qA0) (k:Nat) (r:qA0) (hk:zs[k]? = some r) (h0:qJ7 zs k=0) (hr:qA5 r=0) (hm:¬ r∈zs.take k):qJ7 zs (k+1)=0:=by
 simp [qJ7,h0,hk,hr,hm]
theorem qN8 (zs:List qA0) (k:Nat) (r:qA0):r∈zs.take k↔∃ j,j < k∧zs[j]? = some r:=by
 rw [List.mem_iff_getElem?]
 constructor
 ·rintro ⟨j,hj⟩
  rw [List.getElem?_take] at hj
  by_cases h:j < k
  ·rw [if_pos h] at hj;exact ⟨j,h,hj⟩
  ·rw [if_neg h] at hj;cases hj
 ·rintro ⟨j,h,hj⟩
  exact ⟨j,by rw [List.getElem?_take,if_pos h];exact hj⟩
def qJ8 (w:World) (g off:Nat) (zs:List qA0):Prop:=∀ k r,zs[k]? = some r→qC1 w g (off+k * 8) r
theorem qJ8.below {w w':World} {g off:Nat} {zs:List qA0} (h:qJ8 w g off zs) (hb:Below w.heap.size w w'):qJ8 w' g off zs:=fun k r e=>(h k r e).below hb
def qB4 (w:World) (a:Option Addr) (len:Nat) (zs:List qA0):Prop:=zs.length=len∧(0 < len→∃ b off,a=some ⟨b,off,none⟩∧qJ8 w b off zs)
theorem qB4.below {w w':World} {a:Option Addr} {len:Nat} {zs:List qA0} (h:qB4 w a len zs) (hb:Below w.heap.size w w'):qB4 w' a len zs:=by
 refine ⟨h.1,fun hl=>?_⟩
 obtain ⟨b,off,e,hr⟩:=h.2 hl
 exact ⟨b,off,e,hr.below hb⟩
theorem qB4.at {w:World} {a:Option Addr} {len:Nat} {zs:List qA0} (h:qB4 w a len zs) {k:Nat} (hk:k < len) :
  ∃ b off r,a=some ⟨b,off,none⟩∧zs[k]? = some r∧qC1 w b (off+k * 8) r:=by
 obtain ⟨b,off,e,hr⟩:=h.2 (by omega)
 have hl:=h.1
 exact ⟨b,off,zs[k]'(by omega),e,List.getElem?_eq_getElem (by omega),hr k _ (List.getElem?_eq_getElem (by omega))⟩
theorem qB4.here {w:World} {b off len:Nat} {zs:List qA0} (h:qB4 w (some ⟨b,off,none⟩) len zs) {k:Nat} (hk:k < len):∃ r,zs[k]? = some r∧qC1 w b (off+k * 8) r:=by
 obtain ⟨b',off',r,e,h1,h2⟩:=h.at hk
 cases e
 exact ⟨r,h1,h2⟩
theorem qB4.cut {w:World} {a:Option Addr} {len:Nat} {zs:List qA0} (h:qB4 w a len zs) {k:Nat} (hk:k≤len):qB4 w a k (zs.take k):=by
 refine ⟨by have:=h.1;simp;omega,fun hp=>?_⟩
 obtain ⟨b,off,e,hr⟩:=h.2 (by omega)
 refine ⟨b,off,e,fun j r ej=>hr j r ?_⟩
 rw [List.getElem?_take] at ej
 split at ej
 ·exact ej
 ·cases ej
theorem qB4.of {w:World} {g len:Nat} {zs:List qA0} (hl:zs.length=len) (h:qJ8 w g 0 zs):qB4 w (some ⟨g,0,none⟩) len zs :=
 ⟨hl,fun _=>⟨g,0,rfl,h⟩⟩
theorem qB5 (W:World):(∀ b o,b < W.heap.size→W.drew.cell? ⟨b,o,none⟩=W.cell? ⟨b,o,none⟩)∧Below W.heap.size W W.drew :=
 ⟨fun _ _ _=>rfl,⟨rfl,rfl,rfl,Nat.le_refl _,fun _ _=>rfl⟩⟩
theorem qA6 {W w w':World} (h:(∀ b o,b < W.heap.size→w.cell? ⟨b,o,none⟩=W.cell? ⟨b,o,none⟩)∧Below W.heap.size W w) (hb:Below w.heap.size w w'):(∀ b o,b < W.heap.size→w'.cell? ⟨b,o,none⟩=W.cell? ⟨b,o,none⟩)∧Below W.heap.size W w':=by
 have hz:=h.2.size
 exact ⟨fun b o hl=>(hb.cell (p:=⟨b,o,none⟩) (by show b < w.heap.size;omega)).trans (h.1 b o hl),h.2.trans (hb.mono hz)⟩
def RulesArg (w:World) (a:Option Addr) (len:Nat) (zs:List qA0):Prop:=qB4 w a len zs∧len≤maxLen

end Go.Proofs.YtlhgjackapdmbaaGreatDoor
