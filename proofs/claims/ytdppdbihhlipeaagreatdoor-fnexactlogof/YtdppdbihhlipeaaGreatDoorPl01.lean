/- Contracts. -/
import Derived.WalkKit
import Derived.Below
import Derived.Deep.RegionHeld3
import Derived.Test.YtdppdbihhlipeaaGreatDoorProg
namespace Go.Proofs.YtdppdbihhlipeaaGreatDoor
set_option maxRecDepth 100000
set_option maxHeartbeats 8000000
open Go.RowKit
set_option linter.unusedVariables false
set_option linter.unusedSimpArgs false

theorem zA {α:Type _} {xs:List α} {i:Nat} (h:i < xs.toArray.size):xs.toArray[i]=xs[i]'(by simpa using h):=rfl
theorem zB {α:Type _} {a:α} {ys:List α} {i:Nat} (h:i+1 < (a::ys).length):(a::ys)[i+1]'h=ys[i]'(Nat.lt_of_succ_lt_succ h):=rfl
theorem zC {α:Type _} {a:α} {ys:List α} (h:0 < (a::ys).length):(a::ys)[0]'h=a:=rfl
theorem zD {α:Type _} {xs:List α} {i:Nat} {a:α}:xs.toArray.setIfInBounds i a=(xs.set i a).toArray:=List.setIfInBounds_toArray ..
theorem zE {α:Type _} {a b:α} {ys:List α}:(a::ys).set 0 b=b::ys:=rfl
theorem zF {α:Type _} {a b:α} {ys:List α} {i:Nat}:(a::ys).set (i+1) b=a::ys.set i b:=rfl

theorem zN {w:World} {o:Obj}:Below w.heap.size w (w.alloc o):=(Below.refl _ _).alloc (Nat.le_refl _) _
theorem zL (w:World) (a:Addr) {v:Value} (h:w.cell? a=some v):a.block < w.heap.size:=World.block_lt_of_cell? w a h

/-- A goal with the numbers of the operations that are taken next. -/
def Zk (_:List Nat) (p:Prop):Prop:=p

section
variable {P:Program} {ops:Array Oper} {Q:Exit→Act→World→Prop} {md:Region.Mode} {S:World→Prop}

theorem Zk.go {p:Prop} (l:List Nat) (h:Zk l p):p:=h

theorem Zk.fin {p:Prop} (h:p):Zk [] p:=h

theorem Zk.st {i:Nat} {l:List Nat} {oi:Oper} {v:Value} {fuel:Nat} {listed:Array Bool} {a:Act} {w:World} (hi:ops[i]? = some oi)
    (hy:∀ w,S w→(execOp a.eval oi).run P w = .ok (.value v) w)
    (h:Zk l (wpAnyH P md ops Q S fuel (listed.setIfInBounds i true) (a.put oi.dst v) w))
    (hs:Region.noSelect ops=true:=by kernel_rfl) (hf:Region.free md ops listed i=true:=by kernel_rfl) (hr:(Region.ready md ops listed).contains i=true:=by kernel_rfl)
    (hQ:∀ c a w,Q (.panic c) (a.put oi.dst v) w→Q (.panic c) a w:=by first | exact fun _ _ _ h=>h | exact fun _ _ _ h=>nomatch h.1) (hw:Region.wanted oi (yielded ops a.tmps)=true:=by kernel_rfl) (hS:S w:=by assumption):Zk (i::l) (wpAnyH P md ops Q S (fuel+1) listed a w) :=
  wpAnyH_take hi hs hf hr hQ (Or.inl ⟨hw,hy⟩) hS h

theorem Zk.un {i:Nat} {l:List Nat} {oi:Oper} {fuel:Nat} {listed:Array Bool} {a:Act} {w:World} (hi:ops[i]? = some oi)
    (h:Zk l (wpAnyH P md ops Q S fuel (listed.setIfInBounds i true) (a.put oi.dst undef) w))
    (hs:Region.noSelect ops=true:=by kernel_rfl) (hf:Region.free md ops listed i=true:=by kernel_rfl) (hr:(Region.ready md ops listed).contains i=true:=by kernel_rfl)
    (hQ:∀ c a w,Q (.panic c) (a.put oi.dst undef) w→Q (.panic c) a w:=by first | exact fun _ _ _ h=>h | exact fun _ _ _ h=>nomatch h.1) (hw:Region.wanted oi (yielded ops a.tmps)=false:=by kernel_rfl) (hS:S w:=by assumption):Zk (i::l) (wpAnyH P md ops Q S (fuel+1) listed a w) :=
  wpAnyH_take hi hs hf hr hQ (Or.inr ⟨hw,rfl⟩) hS h

theorem Zk.rd {i:Nat} {o:Oper} {fuel:Nat} {listed:Array Bool} {a:Act} {w:World} (ho:ops[i]? = some o)
    (h:∀ K':Act→World→Prop,Shut (∀ a w,S w→(S w→wpAnyH P md ops Q S fuel (listed.setIfInBounds i true) a w)→K' a w)→if Region.wanted o (yielded ops a.tmps)=true then Oper.wp P o a w K' Q else K' (a.put o.dst undef) w)
    (hr:Region.ready md ops listed=[i]:=by kernel_rfl):wpAnyH P md ops Q S (fuel+1) listed a w :=
  wpAnyH_ready hr (by simp) (AllReadyH.cons ho h AllReadyH.nil)

end
structure qA0 where
 k:Int
 ho:Int
 hn:Int
 w:Int
 oo:Int
 on:Int
 to:Int
 tn:Int
deriving DecidableEq
def qU4 (p:Int):Bool:=decide (1≤p∧p≤8)
def qV5 (n:Int):Bool:=decide (1≤n∧n≤5)
def qC9 (o n:Int):Bool:=qU4 o&&qV5 n
def qE6 (o n:Int):Int:=if qC9 o n=true then 0 else 3
def QO4 (r:qA0):Bool :=
 if r.k=1 then r.oo==0&&r.on==0&&r.to==0&&r.tn==0
 else if r.k=2 then r.w==0&&r.to==0&&r.tn==0
 else if r.k=3 then r.w==0&&r.to==0
 else r.w==0
def QF1 (r:qA0):Bool :=
 if r.k=1 then qU4 r.w
 else if r.k=2 then qC9 r.oo r.on
 else if r.k=3 then qC9 r.oo r.on&&qV5 r.tn
 else qC9 r.oo r.on&&qC9 r.to r.tn
def qA6 (r:qA0):Int :=
 if ¬ (1≤r.k∧r.k≤4) then 1 else if qC9 r.ho r.hn=false then 3 else if QO4 r=false then 1 else if QF1 r=false then 3 else 0
def qC2 (w:World) (g off:Nat) (r:qA0):Prop :=
 w.cell? ⟨g,off,none⟩=some (.int .i64 r.k)∧w.cell? ⟨g,off+1,none⟩=some (.int .i64 r.ho)∧w.cell? ⟨g,off+2,none⟩=some (.int .i64 r.hn)∧w.cell? ⟨g,off+3,none⟩=some (.int .i64 r.w) ∧
 w.cell? ⟨g,off+4,none⟩=some (.int .i64 r.oo)∧w.cell? ⟨g,off+5,none⟩=some (.int .i64 r.on)∧w.cell? ⟨g,off+6,none⟩=some (.int .i64 r.to)∧w.cell? ⟨g,off+7,none⟩=some (.int .i64 r.tn)
theorem qC2.below {w w':World} {g off:Nat} {r:qA0} (h:qC2 w g off r) (hb:Below w.heap.size w w'):qC2 w' g off r:=by
 have key:∀ (o:Nat) (v:Value),w.cell? ⟨g,o,none⟩=some v→w'.cell? ⟨g,o,none⟩=some v:=fun o v e=>(hb.cell (p:=⟨g,o,none⟩) (zL w ⟨g,o,none⟩ e)).trans e
 obtain ⟨h0,h1,h2,h3,h4,h5,h6,h7⟩:=h
 exact ⟨key _ _ h0,key _ _ h1,key _ _ h2,key _ _ h3,key _ _ h4,key _ _ h5,key _ _ h6,key _ _ h7⟩
theorem qC2.new (w:World) (r:qA0) (t:TypeId):qC2 (w.alloc (.cells #[.int .i64 r.k,.int .i64 r.ho,.int .i64 r.hn,.int .i64 r.w,.int .i64 r.oo,.int .i64 r.on,.int .i64 r.to,.int .i64 r.tn] t)) w.heap.size 0 r:=by
 simp [qC2]

def qL0 (zs:List qA0):Nat→Int
 | 0=>0
 | k+1=>if qL0 zs k≠0 then qL0 zs k else match zs[k]? with
  | none=>0
  | some r=>if qA6 r≠0 then qA6 r else if r∈zs.take k then 6 else 0
def qC3 (zs:List qA0):Int:=if 16 < zs.length then 2 else qL0 zs zs.length
theorem qR3 (zs:List qA0) (k m:Nat) (c:Int) (hc:c≠0) (h:qL0 zs k=c) (hm:k≤m):qL0 zs m=c:=by
  induction m with
  | zero => obtain rfl:k=0:=by omega
            exact h
  | succ m ih =>
    by_cases e:k=m+1
    · subst e;exact h
    · have:=ih (by omega)
      simp only [qL0,this]
      rw [if_pos hc]
theorem QE1 (zs:List qA0) (k:Nat) (r:qA0) (hk:zs[k]? = some r) (h0:qL0 zs k=0) (hr:qA6 r≠0):qL0 zs (k+1)=qA6 r:=by
 simp [qL0,h0,hk,hr]
theorem QF9 (zs:List qA0) (k:Nat) (r:qA0) (hk:zs[k]? = some r) (h0:qL0 zs k=0) (hr:qA6 r=0) (hm:r∈zs.take k):qL0 zs (k+1)=6:=by
 simp [qL0,h0,hk,hr,hm]
theorem QR7 (zs:List qA0) (k:Nat) (r:qA0) (hk:zs[k]? = some r) (h0:qL0 zs k=0) (hr:qA6 r=0) (hm:¬ r∈zs.take k):qL0 zs (k+1)=0:=by
 simp [qL0,h0,hk,hr,hm]
theorem qP3 (zs:List qA0) (k:Nat) (r:qA0):r∈zs.take k↔∃ j,j < k∧zs[j]? = some r:=by
 rw [List.mem_iff_getElem?]
 constructor
 ·rintro ⟨j,hj⟩
  rw [List.getElem?_take] at hj
  by_cases h:j < k
  ·rw [if_pos h] at hj;exact ⟨j,h,hj⟩
  ·rw [if_neg h] at hj;cases hj
 ·rintro ⟨j,h,hj⟩
  exact ⟨j,by rw [List.getElem?_take,if_pos h];exact hj⟩
def qL1 (w:World) (g off:Nat) (zs:List qA0):Prop:=∀ k r,zs[k]? = some r→qC2 w g (off+k * 8) r
theorem qL1.below {w w':World} {g off:Nat} {zs:List qA0} (h:qL1 w g off zs) (hb:Below w.heap.size w w'):qL1 w' g off zs:=fun k r e=>(h k r e).below hb
def qB5 (w:World) (a:Option Addr) (len:Nat) (zs:List qA0):Prop:=zs.length=len∧(0 < len→∃ b off,a=some ⟨b,off,none⟩∧qL1 w b off zs)
theorem qB5.below {w w':World} {a:Option Addr} {len:Nat} {zs:List qA0} (h:qB5 w a len zs) (hb:Below w.heap.size w w'):qB5 w' a len zs:=by
 refine ⟨h.1,fun hl=>?_⟩
 obtain ⟨b,off,e,hr⟩:=h.2 hl
 exact ⟨b,off,e,hr.below hb⟩
theorem qB5.at {w:World} {a:Option Addr} {len:Nat} {zs:List qA0} (h:qB5 w a len zs) {k:Nat} (hk:k < len) :
  ∃ b off r,a=some ⟨b,off,none⟩∧zs[k]? = some r∧qC2 w b (off+k * 8) r:=by
 obtain ⟨b,off,e,hr⟩:=h.2 (by omega)
 have hl:=h.1
 exact ⟨b,off,zs[k]'(by omega),e,List.getElem?_eq_getElem (by omega),hr k _ (List.getElem?_eq_getElem (by omega))⟩
theorem qB5.here {w:World} {b off len:Nat} {zs:List qA0} (h:qB5 w (some ⟨b,off,none⟩) len zs) {k:Nat} (hk:k < len):∃ r,zs[k]? = some r∧qC2 w b (off+k * 8) r:=by
 obtain ⟨b',off',r,e,h1,h2⟩:=h.at hk
 cases e
 exact ⟨r,h1,h2⟩
theorem qB5.cut {w:World} {a:Option Addr} {len:Nat} {zs:List qA0} (h:qB5 w a len zs) {k:Nat} (hk:k≤len):qB5 w a k (zs.take k):=by
 refine ⟨by have:=h.1;simp;omega,fun hp=>?_⟩
 obtain ⟨b,off,e,hr⟩:=h.2 (by omega)
 refine ⟨b,off,e,fun j r ej=>hr j r ?_⟩
 rw [List.getElem?_take] at ej
 split at ej
 ·exact ej
 ·cases ej
theorem qB5.of {w:World} {g len:Nat} {zs:List qA0} (hl:zs.length=len) (h:qL1 w g 0 zs):qB5 w (some ⟨g,0,none⟩) len zs :=
 ⟨hl,fun _=>⟨g,0,rfl,h⟩⟩
theorem qB6 (W:World):(∀ b o,b < W.heap.size→W.drew.cell? ⟨b,o,none⟩=W.cell? ⟨b,o,none⟩)∧Below W.heap.size W W.drew :=
 ⟨fun _ _ _=>rfl,⟨rfl,rfl,rfl,Nat.le_refl _,fun _ _=>rfl⟩⟩
theorem qA7 {W w w':World} (h:(∀ b o,b < W.heap.size→w.cell? ⟨b,o,none⟩=W.cell? ⟨b,o,none⟩)∧Below W.heap.size W w) (hb:Below w.heap.size w w'):(∀ b o,b < W.heap.size→w'.cell? ⟨b,o,none⟩=W.cell? ⟨b,o,none⟩)∧Below W.heap.size W w':=by
 have hz:=h.2.size
 exact ⟨fun b o hl=>(hb.cell (p:=⟨b,o,none⟩) (by show b < w.heap.size;omega)).trans (h.1 b o hl),h.2.trans (hb.mono hz)⟩
def RulesArg (w:World) (a:Option Addr) (len:Nat) (zs:List qA0):Prop:=qB5 w a len zs∧len≤maxLen

abbrev RoI:=Int × Int
def ltR (a b:RoI):Bool:=decide (a.1 < b.1∨(a.1=b.1∧a.2 < b.2))
theorem qO4 (a:RoI):ltR a a=false:=by simp [ltR]
theorem QE5 {a b c:RoI} (h:ltR a b=true) (k:ltR b c=true):ltR a c=true:=by
 simp [ltR] at *;omega
theorem ltR_total {a b:RoI} (h:ltR a b=false) (hne:a≠b):ltR b a=true:=by
 obtain ⟨a1,a2⟩:=a
 obtain ⟨b1,b2⟩:=b
 have hne':¬ (a1=b1∧a2=b2):=fun e=>hne (by rw [e.1,e.2])
 simp [ltR] at *;omega
def SS (zs:List RoI):Prop:=zs.Pairwise (fun a b=>ltR a b=true)
theorem QY8:∀ (a b:List RoI),SS a→SS b→(∀ x,x∈a↔x∈b)→a=b
 | [],[],_,_,_=>rfl
 | [],y::ys,_,_,h=>absurd ((h y).2 (by simp)) (by simp)
 | x::xs,[],_,_,h=>absurd ((h x).1 (by simp)) (by simp)
 | x::xs,y::ys,ha,hb,h=>by
  have ha':=List.pairwise_cons.1 ha
  have hb':=List.pairwise_cons.1 hb
  have e:x=y:=by
   rcases List.mem_cons.1 ((h x).1 (by simp)) with e | e
   ·exact e
   ·rcases List.mem_cons.1 ((h y).2 (by simp)) with e2 | e2
    ·exact e2.symm
    ·have h1:=hb'.1 x e
     have h2:=ha'.1 y e2
     have:=QE5 h1 h2
     rw [qO4] at this
     cases this
  subst e
  rw [QY8 xs ys ha'.2 hb'.2 (fun z=>?_)]
  constructor
  ·intro hz
   rcases List.mem_cons.1 ((h z).1 (by simp [hz])) with e | e
   ·subst e
    have:=ha'.1 z hz
    rw [qO4] at this
    cases this
   ·exact e
  ·intro hz
   rcases List.mem_cons.1 ((h z).2 (by simp [hz])) with e | e
   ·subst e
    have:=hb'.1 z hz
    rw [qO4] at this
    cases this
   ·exact e
def bodyR (r:qA0):List RoI:=if r.k=1 then [] else if r.k=4 then [(r.oo,r.on),(r.to,r.tn)] else [(r.oo,r.on)]
def rawR (r:qA0):List RoI:=(r.ho,r.hn)::bodyR r
def rawTo (zs:List qA0) (k:Nat):List RoI:=(zs.take k).flatMap rawR
def QC9:List RoI→List Value
 | []=>[]
 | p::ps => .int .i64 p.1 :: .int .i64 p.2::QC9 ps
theorem flat2_fst:∀ (a:List RoI) (k:Nat) (p:RoI),a[k]? = some p→(QC9 a)[k * 2]? = some (.int .i64 p.1)
 | [],_,_,h=>by simp at h
 | q::qs,0,p,h=>by simp at h;subst h;rfl
 | q::qs,k+1,p,h=>by
  have:=flat2_fst qs k p (by simpa using h)
  rw [show (k+1) * 2=k * 2+1+1 by omega]
  simpa [QC9] using this
theorem flat2_snd:∀ (a:List RoI) (k:Nat) (p:RoI),a[k]? = some p→(QC9 a)[k * 2+1]? = some (.int .i64 p.2)
 | [],_,_,h=>by simp at h
 | q::qs,0,p,h=>by simp at h;subst h;rfl
 | q::qs,k+1,p,h=>by
  have:=flat2_snd qs k p (by simpa using h)
  rw [show (k+1) * 2+1=k * 2+1+1+1 by omega]
  simpa [QC9] using this

end Go.Proofs.YtdppdbihhlipeaaGreatDoor
