/- Contracts. -/
import Derived.Test.YtlhgjackapdmbaaGreatDoorPe01
namespace Go.Proofs.YtlhgjackapdmbaaGreatDoor
set_option maxRecDepth 100000
set_option maxHeartbeats 8000000
open Go.RowKit
set_option linter.unusedVariables false
set_option linter.unusedSimpArgs false

def qL3 (zs:List qA1):Nat→Int
 | 0=>0
 | k+1=>if qL3 zs k≠0 then qL3 zs k else match zs[k]? with
  | none=>0
  | some r=>if qA8 r≠0 then qA8 r else if r∈zs.take k then 6 else 0
def qC7 (zs:List qA1):Int:=if 16 < zs.length then 2 else qL3 zs zs.length
theorem qR6 (zs:List qA1) (k m:Nat) (c:Int) (hc:c≠0) (h:qL3 zs k=c) (hm:k≤m):qL3 zs m=c:=by
  induction m with
  | zero => obtain rfl:k=0:=by omega
            exact h
  | succ m ih =>
    by_cases e:k=m+1
    · subst e;exact h
    · have:=ih (by omega)
      simp only [qL3,this]
      rw [if_pos hc]
theorem QD6 (zs:List qA1) (k:Nat) (r:qA1) (hk:zs[k]? = some r) (h0:qL3 zs k=0) (hr:qA8 r≠0):qL3 zs (k+1)=qA8 r:=by
 simp [qL3,h0,hk,hr]
theorem QF2 (zs:List qA1) (k:Nat) (r:qA1) (hk:zs[k]? = some r) (h0:qL3 zs k=0) (hr:qA8 r=0) (hm:r∈zs.take k):qL3 zs (k+1)=6:=by
 simp [qL3,h0,hk,hr,hm]
theorem QQ9 (zs:List qA1) (k:Nat) (r:qA1) (hk:zs[k]? = some r) (h0:qL3 zs k=0) (hr:qA8 r=0) (hm:¬ r∈zs.take k):qL3 zs (k+1)=0:=by
 simp [qL3,h0,hk,hr,hm]
theorem qP8 (zs:List qA1) (k:Nat) (r:qA1):r∈zs.take k↔∃ j,j < k∧zs[j]? = some r:=by
 rw [List.mem_iff_getElem?]
 constructor
 ·rintro ⟨j,hj⟩
  rw [List.getElem?_take] at hj
  by_cases h:j < k
  ·rw [if_pos h] at hj;exact ⟨j,h,hj⟩
  ·rw [if_neg h] at hj;cases hj
 ·rintro ⟨j,h,hj⟩
  exact ⟨j,by rw [List.getElem?_take,if_pos h];exact hj⟩
def qL5 (w:World) (g off:Nat) (zs:List qA1):Prop:=∀ k r,zs[k]? = some r→qC6 w g (off+k * 8) r
theorem qL5.below {w w':World} {g off:Nat} {zs:List qA1} (h:qL5 w g off zs) (hb:Below w.heap.size w w'):qL5 w' g off zs:=fun k r e=>(h k r e).below hb
def qB6 (w:World) (a:Option Addr) (len:Nat) (zs:List qA1):Prop:=zs.length=len∧(0 < len→∃ b off,a=some ⟨b,off,none⟩∧qL5 w b off zs)
theorem qB6.below {w w':World} {a:Option Addr} {len:Nat} {zs:List qA1} (h:qB6 w a len zs) (hb:Below w.heap.size w w'):qB6 w' a len zs:=by
 refine ⟨h.1,fun hl=>?_⟩
 obtain ⟨b,off,e,hr⟩:=h.2 hl
 exact ⟨b,off,e,hr.below hb⟩
theorem qB6.at {w:World} {a:Option Addr} {len:Nat} {zs:List qA1} (h:qB6 w a len zs) {k:Nat} (hk:k < len) :
  ∃ b off r,a=some ⟨b,off,none⟩∧zs[k]? = some r∧qC6 w b (off+k * 8) r:=by
 obtain ⟨b,off,e,hr⟩:=h.2 (by omega)
 have hl:=h.1
 exact ⟨b,off,zs[k]'(by omega),e,List.getElem?_eq_getElem (by omega),hr k _ (List.getElem?_eq_getElem (by omega))⟩
theorem qB6.here {w:World} {b off len:Nat} {zs:List qA1} (h:qB6 w (some ⟨b,off,none⟩) len zs) {k:Nat} (hk:k < len):∃ r,zs[k]? = some r∧qC6 w b (off+k * 8) r:=by
 obtain ⟨b',off',r,e,h1,h2⟩:=h.at hk
 cases e
 exact ⟨r,h1,h2⟩
theorem qB6.cut {w:World} {a:Option Addr} {len:Nat} {zs:List qA1} (h:qB6 w a len zs) {k:Nat} (hk:k≤len):qB6 w a k (zs.take k):=by
 refine ⟨by have:=h.1;simp;omega,fun hp=>?_⟩
 obtain ⟨b,off,e,hr⟩:=h.2 (by omega)
 refine ⟨b,off,e,fun j r ej=>hr j r ?_⟩
 rw [List.getElem?_take] at ej
 split at ej
 ·exact ej
 ·cases ej
theorem qB6.of {w:World} {g len:Nat} {zs:List qA1} (hl:zs.length=len) (h:qL5 w g 0 zs):qB6 w (some ⟨g,0,none⟩) len zs :=
 ⟨hl,fun _=>⟨g,0,rfl,h⟩⟩
theorem qB4 (W:World):(∀ b o,b < W.heap.size→W.drew.cell? ⟨b,o,none⟩=W.cell? ⟨b,o,none⟩)∧Below W.heap.size W W.drew :=
 ⟨fun _ _ _=>rfl,⟨rfl,rfl,rfl,Nat.le_refl _,fun _ _=>rfl⟩⟩
theorem qA0 {W w w':World} (h:(∀ b o,b < W.heap.size→w.cell? ⟨b,o,none⟩=W.cell? ⟨b,o,none⟩)∧Below W.heap.size W w) (hb:Below w.heap.size w w'):(∀ b o,b < W.heap.size→w'.cell? ⟨b,o,none⟩=W.cell? ⟨b,o,none⟩)∧Below W.heap.size W w':=by
 have hz:=h.2.size
 exact ⟨fun b o hl=>(hb.cell (p:=⟨b,o,none⟩) (by show b < w.heap.size;omega)).trans (h.1 b o hl),h.2.trans (hb.mono hz)⟩
def RulesArg (w:World) (a:Option Addr) (len:Nat) (zs:List qA1):Prop:=qB6 w a len zs∧len≤maxLen

abbrev RoI:=Int × Int
def ltR (a b:RoI):Bool:=decide (a.1 < b.1∨(a.1=b.1∧a.2 < b.2))
theorem qO9 (a:RoI):ltR a a=false:=by simp [ltR]
theorem QD9 {a b c:RoI} (h:ltR a b=true) (k:ltR b c=true):ltR a c=true:=by
 simp [ltR] at *;omega
theorem ltR_total {a b:RoI} (h:ltR a b=false) (hne:a≠b):ltR b a=true:=by
 obtain ⟨a1,a2⟩:=a
 obtain ⟨b1,b2⟩:=b
 have hne':¬ (a1=b1∧a2=b2):=fun e=>hne (by rw [e.1,e.2])
 simp [ltR] at *;omega
def SS (zs:List RoI):Prop:=zs.Pairwise (fun a b=>ltR a b=true)
theorem QX9:∀ (a b:List RoI),SS a→SS b→(∀ x,x∈a↔x∈b)→a=b
 | [],[],_,_,_=>rfl
 | [],y::ys,_,_,h=>absurd ((h y).2 (by simp)) (by simp)
 | x::xs,[],_,_,h=>absurd ((h x).1 (by simp)) (by simp)
 | x::xs,y::ys,ha,hb,h=>by
  have ha':=List.pairwise_cons.1 ha
  have hb':=List.pairwise_cons.1 hb
  have e:x=y:=by
   rcases List.mem_cons.1 ((h x).1 (by simp)) with e | e
   ·exact e
   ·rcases List.mem_cons.1 ((h y).2 (by simp)) with e2 | e2
    ·exact e2.symm
    ·have h1:=hb'.1 x e
     have h2:=ha'.1 y e2
     have:=QD9 h1 h2
     rw [qO9] at this
     cases this
  subst e
  rw [QX9 xs ys ha'.2 hb'.2 (fun z=>?_)]
  constructor
  ·intro hz
   rcases List.mem_cons.1 ((h z).1 (by simp [hz])) with e | e
   ·subst e
    have:=ha'.1 z hz
    rw [qO9] at this
    cases this
   ·exact e
  ·intro hz
   rcases List.mem_cons.1 ((h z).2 (by simp [hz])) with e | e
   ·subst e
    have:=hb'.1 z hz
    rw [qO9] at this
    cases this
   ·exact e
def bodyR (r:qA1):List RoI:=if r.k=1 then [] else if r.k=4 then [(r.oo,r.on),(r.to,r.tn)] else [(r.oo,r.on)]
def rawR (r:qA1):List RoI:=(r.ho,r.hn)::bodyR r
def rawTo (zs:List qA1) (k:Nat):List RoI:=(zs.take k).flatMap rawR
def QC5:List RoI→List Value
 | []=>[]
 | p::ps => .int .i64 p.1 :: .int .i64 p.2::QC5 ps
theorem flat2_fst:∀ (a:List RoI) (k:Nat) (p:RoI),a[k]? = some p→(QC5 a)[k * 2]? = some (.int .i64 p.1)
 | [],_,_,h=>by simp at h
 | q::qs,0,p,h=>by simp at h;subst h;rfl
 | q::qs,k+1,p,h=>by
  have:=flat2_fst qs k p (by simpa using h)
  rw [show (k+1) * 2=k * 2+1+1 by omega]
  simpa [QC5] using this
theorem flat2_snd:∀ (a:List RoI) (k:Nat) (p:RoI),a[k]? = some p→(QC5 a)[k * 2+1]? = some (.int .i64 p.2)
 | [],_,_,h=>by simp at h
 | q::qs,0,p,h=>by simp at h;subst h;rfl
 | q::qs,k+1,p,h=>by
  have:=flat2_snd qs k p (by simpa using h)
  rw [show (k+1) * 2+1=k * 2+1+1+1 by omega]
  simpa [QC5] using this

end Go.Proofs.YtlhgjackapdmbaaGreatDoor
