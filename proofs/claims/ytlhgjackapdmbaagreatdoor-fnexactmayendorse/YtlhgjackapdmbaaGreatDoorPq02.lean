/- Contracts. -/
import Derived.Test.YtlhgjackapdmbaaGreatDoorPq01
namespace Go.Proofs.YtlhgjackapdmbaaGreatDoor
set_option maxRecDepth 100000
set_option maxHeartbeats 8000000
open Go.RowKit
set_option linter.unusedVariables false
set_option linter.unusedSimpArgs false

def qJ9 (zs:List qA0):Nat→Int
 | 0=>0
 | k+1=>if qJ9 zs k≠0 then qJ9 zs k else match zs[k]? with
  | none=>0
  | some r=>if qA7 r≠0 then qA7 r else if r∈zs.take k then 6 else 0
def qC4 (zs:List qA0):Int:=if 16 < zs.length then 2 else qJ9 zs zs.length
theorem qQ2 (zs:List qA0) (k m:Nat) (c:Int) (hc:c≠0) (h:qJ9 zs k=c) (hm:k≤m):qJ9 zs m=c:=by
  induction m with
  | zero => obtain rfl:k=0:=by omega
            exact h
  | succ m ih =>
    by_cases e:k=m+1
    · subst e;exact h
    · have:=ih (by omega)
      simp only [qJ9,this]
      rw [if_pos hc]
theorem QB9 (zs:List qA0) (k:Nat) (r:qA0) (hk:zs[k]? = some r) (h0:qJ9 zs k=0) (hr:qA7 r≠0):qJ9 zs (k+1)=qA7 r:=by
 simp [qJ9,h0,hk,hr]
theorem QD5 (zs:List qA0) (k:Nat) (r:qA0) (hk:zs[k]? = some r) (h0:qJ9 zs k=0) (hr:qA7 r=0) (hm:r∈zs.take k):qJ9 zs (k+1)=6:=by
 simp [qJ9,h0,hk,hr,hm]
theorem QO7 (zs:List qA0) (k:Nat) (r:qA0) (hk:zs[k]? = some r) (h0:qJ9 zs k=0) (hr:qA7 r=0) (hm:¬ r∈zs.take k):qJ9 zs (k+1)=0:=by
 simp [qJ9,h0,hk,hr,hm]
theorem qO1 (zs:List qA0) (k:Nat) (r:qA0):r∈zs.take k↔∃ j,j < k∧zs[j]? = some r:=by
 rw [List.mem_iff_getElem?]
 constructor
 ·rintro ⟨j,hj⟩
  rw [List.getElem?_take] at hj
  by_cases h:j < k
  ·rw [if_pos h] at hj;exact ⟨j,h,hj⟩
  ·rw [if_neg h] at hj;cases hj
 ·rintro ⟨j,h,hj⟩
  exact ⟨j,by rw [List.getElem?_take,if_pos h];exact hj⟩
def qK0 (w:World) (g off:Nat) (zs:List qA0):Prop:=∀ k r,zs[k]? = some r→qC3 w g (off+k * 8) r
theorem qK0.below {w w':World} {g off:Nat} {zs:List qA0} (h:qK0 w g off zs) (hb:Below w.heap.size w w'):qK0 w' g off zs:=fun k r e=>(h k r e).below hb
def qB5 (w:World) (a:Option Addr) (len:Nat) (zs:List qA0):Prop:=zs.length=len∧(0 < len→∃ b off,a=some ⟨b,off,none⟩∧qK0 w b off zs)
theorem qB5.below {w w':World} {a:Option Addr} {len:Nat} {zs:List qA0} (h:qB5 w a len zs) (hb:Below w.heap.size w w'):qB5 w' a len zs:=by
 refine ⟨h.1,fun hl=>?_⟩
 obtain ⟨b,off,e,hr⟩:=h.2 hl
 exact ⟨b,off,e,hr.below hb⟩
theorem qB5.at {w:World} {a:Option Addr} {len:Nat} {zs:List qA0} (h:qB5 w a len zs) {k:Nat} (hk:k < len) :
  ∃ b off r,a=some ⟨b,off,none⟩∧zs[k]? = some r∧qC3 w b (off+k * 8) r:=by
 obtain ⟨b,off,e,hr⟩:=h.2 (by omega)
 have hl:=h.1
 exact ⟨b,off,zs[k]'(by omega),e,List.getElem?_eq_getElem (by omega),hr k _ (List.getElem?_eq_getElem (by omega))⟩
theorem qB5.here {w:World} {b off len:Nat} {zs:List qA0} (h:qB5 w (some ⟨b,off,none⟩) len zs) {k:Nat} (hk:k < len):∃ r,zs[k]? = some r∧qC3 w b (off+k * 8) r:=by
 obtain ⟨b',off',r,e,h1,h2⟩:=h.at hk
 cases e
 exact ⟨r,h1,h2⟩
theorem qB5.cut {w:World} {a:Option Addr} {len:Nat} {zs:List qA0} (h:qB5 w a len zs) {k:Nat} (hk:k≤len):qB5 w a k (zs.take k):=by
 refine ⟨by have:=h.1;simp;omega,fun hp=>?_⟩
 obtain ⟨b,off,e,hr⟩:=h.2 (by omega)
 refine ⟨b,off,e,fun j r ej=>hr j r ?_⟩
 rw [List.getElem?_take] at ej
 split at ej
 ·exact ej
 ·cases ej
theorem qB5.of {w:World} {g len:Nat} {zs:List qA0} (hl:zs.length=len) (h:qK0 w g 0 zs):qB5 w (some ⟨g,0,none⟩) len zs :=
 ⟨hl,fun _=>⟨g,0,rfl,h⟩⟩
theorem qB3 (W:World):(∀ b o,b < W.heap.size→W.drew.cell? ⟨b,o,none⟩=W.cell? ⟨b,o,none⟩)∧Below W.heap.size W W.drew :=
 ⟨fun _ _ _=>rfl,⟨rfl,rfl,rfl,Nat.le_refl _,fun _ _=>rfl⟩⟩
theorem qA4 {W w w':World} (h:(∀ b o,b < W.heap.size→w.cell? ⟨b,o,none⟩=W.cell? ⟨b,o,none⟩)∧Below W.heap.size W w) (hb:Below w.heap.size w w'):(∀ b o,b < W.heap.size→w'.cell? ⟨b,o,none⟩=W.cell? ⟨b,o,none⟩)∧Below W.heap.size W w':=by
 have hz:=h.2.size
 exact ⟨fun b o hl=>(hb.cell (p:=⟨b,o,none⟩) (by show b < w.heap.size;omega)).trans (h.1 b o hl),h.2.trans (hb.mono hz)⟩
def RulesArg (w:World) (a:Option Addr) (len:Nat) (zs:List qA0):Prop:=qB5 w a len zs∧len≤maxLen

end Go.Proofs.YtlhgjackapdmbaaGreatDoor
