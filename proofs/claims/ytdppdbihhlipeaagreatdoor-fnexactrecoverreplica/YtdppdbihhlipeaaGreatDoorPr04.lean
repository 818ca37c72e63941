/- Contracts. -/
import Derived.Test.YtdppdbihhlipeaaGreatDoorPr01
import Derived.Test.YtdppdbihhlipeaaGreatDoorPr02
namespace Go.Proofs.YtdppdbihhlipeaaGreatDoor
set_option maxRecDepth 100000
set_option maxHeartbeats 8000000
open Go.RowKit
set_option linter.unusedVariables false
set_option linter.unusedSimpArgs false

abbrev RoI:=Int × Int
def ltR (a b:RoI):Bool:=decide (a.1 < b.1\/(a.1=b.1/\a.2 < b.2))
theorem qO2 (a:RoI):ltR a a=false:=by simp [ltR]
theorem QD8 {a b c:RoI} (h:ltR a b=true) (k:ltR b c=true):ltR a c=true:=by
 simp [ltR] at *;omega
theorem qGl {a b:RoI} (h:ltR a b=false) (hne:a≠b):ltR b a=true:=by
 obtain ⟨a1,a2⟩:=a;obtain ⟨b1,b2⟩:=b;have hne':¬ (a1=b1/\a2=b2):=fun e=>hne (by rw [e.1,e.2])
 simp [ltR] at *;omega
def SS (zs:List RoI):Prop:=zs.Pairwise (fun a b=>ltR a b=true)
theorem qAB:∀ (a b:List RoI),SS a->SS b->(∀ x,x∈a↔x∈b)->a=b
 | [],[],_,_,_=>rfl
 | [],y::ys,_,_,h=>absurd ((h y).2 (by simp)) (by simp)
 | x::xs,[],_,_,h=>absurd ((h x).1 (by simp)) (by simp)
 | x::xs,y::ys,ha,hb,h=>by
  have ha':=List.pairwise_cons.1 ha;have hb':=List.pairwise_cons.1 hb
  have e:x=y:=by
   rcases List.mem_cons.1 ((h x).1 (by simp)) with e | e
   ·exact e
   ·rcases List.mem_cons.1 ((h y).2 (by simp)) with e2 | e2
    ·exact e2.symm
    ·have h1:=hb'.1 x e;have h2:=ha'.1 y e2;have:=QD8 h1 h2;rw [qO2] at this;cases this
  subst e;rw [qAB xs ys ha'.2 hb'.2 (fun z=>?_)];constructor
  ·intro hz;rcases List.mem_cons.1 ((h z).1 (by simp [hz])) with e | e
   ·subst e;have:=ha'.1 z hz;rw [qO2] at this;cases this
   ·exact e
  ·intro hz;rcases List.mem_cons.1 ((h z).2 (by simp [hz])) with e | e
   ·subst e;have:=hb'.1 z hz;rw [qO2] at this;cases this
   ·exact e
def qCr (r:qA2):List RoI:=if r.k=1 then [] else if r.k=4 then [(r.oo,r.on),(r.to,r.tn)] else [(r.oo,r.on)]
def qNH (r:qA2):List RoI:=(r.ho,r.hn)::qCr r
def qNG (zs:List qA2) (k:Nat):List RoI:=(zs.take k).flatMap qNH
def QB9:List RoI->List Value
 | []=>[]
 | p::ps => .int .i64 p.1 :: .int .i64 p.2::QB9 ps
theorem qAv:∀ (a:List RoI) (k:Nat) (p:RoI),a[k]? = some p->(QB9 a)[k * 2]? = some (.int .i64 p.1)
 | [],_,_,h=>by simp at h
 | q::qs,0,p,h=>by simp at h;subst h;rfl
 | q::qs,k+1,p,h=>by
  have:=qAv qs k p (by simpa using h);rw [show (k+1) * 2=k * 2+1+1 by omega];simpa [QB9] using this
theorem qAu:∀ (a:List RoI) (k:Nat) (p:RoI),a[k]? = some p->(QB9 a)[k * 2+1]? = some (.int .i64 p.2)
 | [],_,_,h=>by simp at h
 | q::qs,0,p,h=>by simp at h;subst h;rfl
 | q::qs,k+1,p,h=>by
  have:=qAu qs k p (by simpa using h);rw [show (k+1) * 2+1=k * 2+1+1+1 by omega];simpa [QB9] using this

theorem QD5 (a b:Nat) (ha:a < 256) (hb:b < 256):bits .or .i64 (a:Int) (b:Int)=((a ||| b:Nat):Int):=by
 have hx:a ||| b < 2 ^ 8:=Nat.or_lt_two_pow (by omega) (by omega);have ea:(BitVec.ofInt 64 (a:Int)).toNat=a:=by rw [BitVec.ofInt_natCast,BitVec.toNat_ofNat];exact Nat.mod_eq_of_lt (by omega)
 have eb:(BitVec.ofInt 64 (b:Int)).toNat=b:=by rw [BitVec.ofInt_natCast,BitVec.toNat_ofNat];exact Nat.mod_eq_of_lt (by omega)
 show IntKind.i64.wrap ((BitVec.ofInt 64 (a:Int) ||| BitVec.ofInt 64 (b:Int)).toNat:Int)=_
 rw [BitVec.toNat_or,ea,eb,IntKind.wrap_i64];omega
theorem QP6 (a b:Nat) (ha:a < 256) (hb:b < 256):bits .and .i64 (a:Int) (b:Int)=((a &&& b:Nat):Int):=by
 have hx:a &&& b < 2 ^ 8:=Nat.and_lt_two_pow _ (by omega);have ea:(BitVec.ofInt 64 (a:Int)).toNat=a:=by rw [BitVec.ofInt_natCast,BitVec.toNat_ofNat];exact Nat.mod_eq_of_lt (by omega)
 have eb:(BitVec.ofInt 64 (b:Int)).toNat=b:=by rw [BitVec.ofInt_natCast,BitVec.toNat_ofNat];exact Nat.mod_eq_of_lt (by omega)
 show IntKind.i64.wrap ((BitVec.ofInt 64 (a:Int) &&& BitVec.ofInt 64 (b:Int)).toNat:Int)=_
 rw [BitVec.toNat_and,ea,eb,IntKind.wrap_i64];omega
def qK9 (s:Int):Prop:=0<=s/\s<=255
abbrev orI (a b:Int):Int:=bits .or .i64 a b
abbrev qKB (a b:Int):Int:=bits .and .i64 a b
theorem qAO {a b:Int} (ha:qK9 a) (hb:qK9 b):qK9 (orI a b):=by
 obtain ⟨A,rfl⟩:=Int.eq_ofNat_of_zero_le ha.1;obtain ⟨B,rfl⟩:=Int.eq_ofNat_of_zero_le hb.1;have h1:=ha.2;have h2:=hb.2;have hx:A ||| B < 2 ^ 8:=Nat.or_lt_two_pow (by omega) (by omega);rw [orI,QD5 A B (by omega) (by omega)];exact ⟨by omega,by omega⟩
theorem qLK {a b:Int} (ha:qK9 a) (hb:qK9 b):qK9 (qKB a b):=by
 obtain ⟨A,rfl⟩:=Int.eq_ofNat_of_zero_le ha.1;obtain ⟨B,rfl⟩:=Int.eq_ofNat_of_zero_le hb.1;have h1:=ha.2;have h2:=hb.2;have hx:A &&& B < 2 ^ 8:=Nat.and_lt_two_pow _ (by omega);rw [qKB,QP6 A B (by omega) (by omega)];exact ⟨by omega,by omega⟩
theorem QO2 {a b:Int} (ha:qK9 a) (hb:qK9 b) (p:Int):qI5 (orI a b) p=(qI5 a p || qI5 b p):=by
 obtain ⟨A,rfl⟩:=Int.eq_ofNat_of_zero_le ha.1;obtain ⟨B,rfl⟩:=Int.eq_ofNat_of_zero_le hb.1;have h1:=ha.2;have h2:=hb.2;rw [orI,QD5 A B (by omega) (by omega)];simp [qI5]
theorem qJH {a b:Int} (ha:qK9 a) (hb:qK9 b) (p:Int):qI5 (qKB a b) p=(qI5 a p&&qI5 b p):=by
 obtain ⟨A,rfl⟩:=Int.eq_ofNat_of_zero_le ha.1;obtain ⟨B,rfl⟩:=Int.eq_ofNat_of_zero_le hb.1;have h1:=ha.2;have h2:=hb.2;rw [qKB,QP6 A B (by omega) (by omega)];simp [qI5]
theorem QE2 (p:Int):qI5 0 p=false:=by simp [qI5]
theorem qFw {a b:Int} (ha:qK9 a) (hb:qK9 b) (h:∀ p,1<=p->p<=8->qI5 a p=qI5 b p):a=b:=by
 obtain ⟨A,rfl⟩:=Int.eq_ofNat_of_zero_le ha.1;obtain ⟨B,rfl⟩:=Int.eq_ofNat_of_zero_le hb.1;have h1:=ha.2;have h2:=hb.2
 have e:A=B:=by
  apply Nat.eq_of_testBit_eq;intro i;by_cases q:i < 8
  ·have:=h ((i:Int)+1) (by omega) (by omega);simpa [qI5] using this
  ·have hi:256<=2 ^ i:=by
    have : 2 ^ 8<=2 ^ i:=Nat.pow_le_pow_right (by omega) (by omega);omega
   rw [Nat.testBit_lt_two_pow (by omega),Nat.testBit_lt_two_pow (by omega)]
 rw [e]
theorem qId {a b:Int} (ha:qK9 a) (hb:qK9 b):a<=orI a b:=by
 obtain ⟨A,rfl⟩:=Int.eq_ofNat_of_zero_le ha.1;obtain ⟨B,rfl⟩:=Int.eq_ofNat_of_zero_le hb.1;have h1:=ha.2;have h2:=hb.2;rw [orI,QD5 A B (by omega) (by omega)];have : A<=A ||| B:=Nat.left_le_or;omega
theorem qLn {a b:Int} (ha:qK9 a) (hb:qK9 b) (h:1<=b):1<=orI a b:=by
 obtain ⟨A,rfl⟩:=Int.eq_ofNat_of_zero_le ha.1;obtain ⟨B,rfl⟩:=Int.eq_ofNat_of_zero_le hb.1;have h1:=ha.2;have h2:=hb.2;rw [orI,QD5 A B (by omega) (by omega)];have : B<=A ||| B:=Nat.right_le_or;omega
theorem qLI {p:Int} (h0:1<=p) (h1:p<=8):qK9 (qFT p):=by
 have hi:2 ^ (p - 1).toNat<=2 ^ 7:=Nat.pow_le_pow_right (by omega) (by omega);unfold qFT qK9;generalize 2 ^ (p - 1).toNat=n at *
 omega
theorem qJG {p q:Int} (h0:1<=p) (k0:1<=q):qI5 (qFT p) q=decide (q=p):=by
 unfold qFT qI5;rw [Int.toNat_natCast,Nat.testBit_two_pow];by_cases e:q=p
 ·subst e;simp
 ·rw [decide_eq_false e,decide_eq_false];omega
abbrev GrI:=RoI × Int
def ofG:List GrI->RoI->Int
 | [],_=>0
 | x::xs,r=>if x.1=r then x.2 else ofG xs r
def QJ1:List GrI->RoI->Int->List GrI
 | [],r,s=>[(r,s)]
 | x::xs,r,s=>if x.1=r then (r,orI x.2 s)::xs else if ltR r x.1=true then (r,s)::x::xs else x::QJ1 xs r s
structure SG (gs:List GrI):Prop where
 up:gs.Pairwise (fun a b=>ltR a.1 b.1=true)
 ro:∀ x∈gs,qD6 x.1.1 x.1.2=true
 st:∀ x∈gs,1<=x.2/\x.2<=255
theorem qLf:SG []:=⟨List.Pairwise.nil,fun _ h=>by simp at h,fun _ h=>by simp at h⟩
theorem SG.tail {x:GrI} {xs:List GrI} (h:SG (x::xs)):SG xs:=⟨(List.pairwise_cons.1 h.up).2,fun y hy=>h.ro y (by simp [hy]),fun y hy=>h.st y (by simp [hy])⟩
theorem qY5 {gs:List GrI} (h:SG gs) (r:RoI):qK9 (ofG gs r):=by
 induction gs with
 | nil=>exact ⟨by simp [ofG],by simp [ofG]⟩
 | cons x xs ih =>
  unfold ofG;split
  ·have:=h.st x (by simp);exact ⟨by omega,by omega⟩
  ·exact ih h.tail
theorem qDZ {gs:List GrI} {r:RoI} (h:∀ x∈gs,x.1≠r):ofG gs r=0:=by
 induction gs with
 | nil=>rfl
 | cons x xs ih =>
  unfold ofG;rw [if_neg (h x (by simp))];exact ih (fun y hy=>h y (by simp [hy]))
theorem qBy {gs:List GrI} (h:SG gs) {x:GrI} (hx:x∈gs):ofG gs x.1=x.2:=by
 induction gs with
 | nil=>cases hx
 | cons y ys ih =>
  unfold ofG;rcases List.mem_cons.1 hx with rfl | hx'
  ·simp
  ·have:=(List.pairwise_cons.1 h.up).1 x hx';rw [if_neg (fun e=>by rw [e,qO2] at this;cases this)];exact ih h.tail hx'
theorem qIg {gs:List GrI} {r:RoI} (h:ofG gs r≠0):(r,ofG gs r)∈gs:=by
 induction gs with
 | nil=>exact absurd rfl h
 | cons y ys ih =>
  unfold ofG at h ⊢
  split
  ·rename_i e;rw [<- e];simp
  ·rename_i e;rw [if_neg e] at h;exact List.mem_cons_of_mem _ (ih h)
theorem qLh {a b:List GrI} (ha:SG a) (hb:SG b) (h:∀ r,ofG a r=ofG b r):a=b:=by
 have key:∀ {c:List GrI},SG c->∀ r,r∈c.map Prod.fst↔ofG c r≠0:=by
  intro c hc r;constructor
  ·intro hr;obtain ⟨x,hx,rfl⟩:=List.mem_map.1 hr;rw [qBy hc hx];have:=hc.st x hx;omega
  ·intro hr;exact List.mem_map.2 ⟨_,qIg hr,rfl⟩
 have e:a.map Prod.fst=b.map Prod.fst:=by
  refine qAB _ _ (List.pairwise_map.2 ha.up) (List.pairwise_map.2 hb.up) (fun r=>?_);rw [key ha r,key hb r,h r]
 have back:∀ {c:List GrI},SG c->c=(c.map Prod.fst).map (fun r=>(r,ofG c r)):=by
  intro c hc;rw [List.map_map];conv=>lhs;rw [<- List.map_id c]
  refine List.map_congr_left (fun x hx=>?_);simp [qBy hc hx]
 rw [back ha,back hb,e];exact List.map_congr_left (fun r _=>by rw [h r])
theorem qKv {gs:List GrI} {r:RoI} {s:Int} {q:RoI} (hq:ltR q r=true) (h:∀ x∈gs,ltR q x.1=true):∀ x∈QJ1 gs r s,ltR q x.1=true:=by
 induction gs with
 | nil =>
  intro x hx;simp [QJ1] at hx;rw [hx];exact hq
 | cons y ys ih =>
  intro x hx;unfold QJ1 at hx;split at hx
  ·rcases List.mem_cons.1 hx with rfl | hx'
   ·exact hq
   ·exact h x (by simp [hx'])
  ·split at hx
   ·rcases List.mem_cons.1 hx with rfl | hx'
    ·exact hq
    ·exact h x hx'
   ·rcases List.mem_cons.1 hx with rfl | hx'
    ·exact h x (by simp)
    ·exact ih (fun z hz=>h z (by simp [hz])) x hx'
theorem qLg {gs:List GrI} (h:SG gs) {r:RoI} {s:Int} (hr:qD6 r.1 r.2=true) (hs:1<=s/\s<=255):SG (QJ1 gs r s):=by
 induction gs with
 | nil=>exact ⟨by simp [QJ1],fun x hx=>by simp [QJ1] at hx;rw [hx];exact hr,fun x hx=>by simp [QJ1] at hx;rw [hx];exact hs⟩
 | cons y ys ih =>
  have hp:=List.pairwise_cons.1 h.up;have hy:=h.st y (by simp);unfold QJ1;split
  ·rename_i e;refine ⟨List.pairwise_cons.2 ⟨fun x hx=>by rw [<- e];exact hp.1 x hx,hp.2⟩,fun x hx=>?_,fun x hx=>?_⟩
   ·rcases List.mem_cons.1 hx with rfl | hx'
    ·exact hr
    ·exact h.ro x (by simp [hx'])
   ·rcases List.mem_cons.1 hx with rfl | hx'
    ·exact ⟨qLn ⟨by omega,by omega⟩ ⟨by omega,by omega⟩ hs.1,(qAO (a:=y.2) (b:=s) ⟨by omega,by omega⟩ ⟨by omega,by omega⟩).2⟩
    ·exact h.st x (by simp [hx'])
  ·split
   ·rename_i e q;refine ⟨List.pairwise_cons.2 ⟨fun x hx=>?_,h.up⟩,fun x hx=>?_,fun x hx=>?_⟩
    ·rcases List.mem_cons.1 hx with rfl | hx'
     ·exact q
     ·exact QD8 q (hp.1 x hx')
    ·rcases List.mem_cons.1 hx with rfl | hx'
     ·exact hr
     ·exact h.ro x hx'
    ·rcases List.mem_cons.1 hx with rfl | hx'
     ·exact hs
     ·exact h.st x hx'
   ·rename_i e q;have i:=ih h.tail;have q2:ltR y.1 r=true:=qGl (by simpa using q) (fun e2=>e e2.symm);refine ⟨List.pairwise_cons.2 ⟨qKv q2 hp.1,i.up⟩,fun x hx=>?_,fun x hx=>?_⟩
    ·rcases List.mem_cons.1 hx with rfl | hx'
     ·exact h.ro x (by simp)
     ·exact i.ro x hx'
    ·rcases List.mem_cons.1 hx with rfl | hx'
     ·exact h.st x (by simp)
     ·exact i.st x hx'
theorem qFb {s:Int} (hs:qK9 s):orI 0 s=s:=by
 obtain ⟨B,rfl⟩:=Int.eq_ofNat_of_zero_le hs.1;have h2:=hs.2;have:=QD5 0 B (by omega) (by omega);simpa using this
theorem qKd {gs:List GrI} (h:SG gs) {r:RoI} {s:Int} (hs:1<=s/\s<=255) (r':RoI):ofG (QJ1 gs r s) r'=if r'=r then orI (ofG gs r) s else ofG gs r':=by
 induction gs with
 | nil =>
  simp only [QJ1,ofG];by_cases e:r'=r
  ·subst e;simp [qFb ⟨by omega,hs.2⟩]
  ·rw [if_neg (fun e2=>e e2.symm),if_neg e]
 | cons y ys ih =>
  have hp:=List.pairwise_cons.1 h.up;unfold QJ1;by_cases e:y.1=r
  ·rw [if_pos e];unfold ofG;by_cases e2:r'=r
   ·subst e2;simp [e]
   ·rw [if_neg (fun q=>e2 q.symm),if_neg e2,if_neg (fun q=>e2 (by rw [<- q,e]))]
  ·rw [if_neg e];by_cases q:ltR r y.1=true
   ·rw [if_pos q];by_cases e2:r'=r
    ·subst e2
     have n:ofG (y::ys) r'=0:=by
      refine qDZ (fun x hx e3=>?_)
      have : ltR r' x.1=true:=by
       rcases List.mem_cons.1 hx with rfl | hx'
       ·exact q
       ·exact QD8 q (hp.1 x hx')
      rw [e3,qO2] at this;cases this
     rw [n,if_pos rfl,qFb ⟨by omega,hs.2⟩];simp [ofG]
    ·rw [if_neg e2];show ofG ((r,s)::y::ys) r'=_
     rw [ofG,if_neg (fun q=>e2 q.symm)]
   ·rw [if_neg q,ofG,ih h.tail];by_cases e2:r'=r
    ·subst e2;simp [e,ofG]
    ·simp [e2,ofG]
theorem QS4:∀ (l:List Int) (a b:Int),l.Pairwise (· < ·)->(∀ x∈l,a<=x/\x < b)->(l.length:Int)<=max 0 (b - a)
 | [],a,b,_,_=>by simp;omega
 | x::xs,a,b,h,k=>by
  have hp:=List.pairwise_cons.1 h;have hx:=k x (by simp);have:=QS4 xs (x+1) b hp.2 (fun y hy=>⟨by have:=hp.1 y hy;omega,(k y (by simp [hy])).2⟩);simp only [List.length_cons];omega
theorem QS1 {gs:List GrI} (h:SG gs):gs.length<=40:=by
 have hb:∀ x∈gs,1<=x.1.1/\x.1.1<=8/\1<=x.1.2/\x.1.2<=5:=by
  intro x hx;have:=h.ro x hx;simp [qD6,qU0,qV1] at this;omega
 have:=QS4 (gs.map (fun x=>x.1.1 * 5+x.1.2)) 6 46 (List.pairwise_map.2 (h.up.imp_of_mem (fun {a b} ha hb' q=>?_))) (fun y hy=>?_)
 ·simp at this;omega
 ·have h1:=hb a ha;have h2:=hb b hb';simp [ltR] at q;omega
 ·obtain ⟨x,hx,rfl⟩:=List.mem_map.1 hy;have:=hb x hx;omega
def qT5 (gs:List GrI):Int:=(gs.map Prod.snd).sum
theorem qKG {gs:List GrI} (h:SG gs) {r:RoI} {s:Int} (hs:1<=s/\s<=255):qT5 gs<=qT5 (QJ1 gs r s)/\(qT5 gs=qT5 (QJ1 gs r s)->QJ1 gs r s=gs):=by
 induction gs with
 | nil=>simp [qT5,QJ1];omega
 | cons y ys ih =>
  have hy:=h.st y (by simp);have i:=ih h.tail;unfold QJ1;by_cases e:y.1=r
  ·rw [if_pos e];have:=qId (a:=y.2) (b:=s) ⟨by omega,by omega⟩ ⟨by omega,by omega⟩;simp only [qT5,List.map_cons,List.sum_cons];refine ⟨by omega,fun q=>?_⟩;have : orI y.2 s=y.2:=by omega
   rw [this,<- e]
  ·rw [if_neg e];by_cases q:ltR r y.1=true
   ·rw [if_pos q];simp only [qT5,List.map_cons,List.sum_cons];exact ⟨by omega,fun q=>by omega⟩
   ·rw [if_neg q];simp only [qT5,List.map_cons,List.sum_cons] at i ⊢
    refine ⟨by omega,fun q=>?_⟩;rw [i.2 (by omega)]
theorem qLd {gs:List GrI} (h:∀ x∈gs,1<=x.2/\x.2<=255):0<=qT5 gs/\qT5 gs<=255 * gs.length:=by
 induction gs with
 | nil=>simp [qT5]
 | cons y ys ih =>
  have hy:=h y (by simp);have i:=ih (fun x hx=>h x (by simp [hx]));simp only [qT5,List.map_cons,List.sum_cons,List.length_cons] at i ⊢
  omega
theorem qJZ {gs:List GrI} (h:SG gs):0<=qT5 gs/\qT5 gs<=10200:=by
 have:=qLd h.st;have:=QS1 h;omega
def qJ6 (r:RoI) (s:Int) (o:List GrI × Bool) (x:GrI):List GrI × Bool :=
 if x.1=r then (o.1++[(x.1,orI x.2 s)],true)
 else if o.2=false/\ltR r x.1=true then (o.1++[(r,s),x],true)
 else (o.1++[x],o.2)
def qQ8 (gs:List GrI) (r:RoI) (s:Int) (k:Nat):List GrI × Bool:=(gs.take k).foldl (qJ6 r s) ([],false)
theorem QU5 (gs:List GrI) (r:RoI) (s:Int):qQ8 gs r s 0=([],false):=by simp [qQ8]
theorem QU6 {gs:List GrI} {k:Nat} {x:GrI} (h:gs[k]? = some x) (r:RoI) (s:Int):qQ8 gs r s (k+1)=qJ6 r s (qQ8 gs r s k) x:=by
 have hk:k < gs.length:=by
  by_cases q:k < gs.length
  ·exact q
  ·rw [List.getElem?_eq_none (by omega)] at h;cases h
 have e:gs[k]=x:=by rw [List.getElem?_eq_getElem hk] at h;exact Option.some.inj h
 rw [qQ8,List.take_succ_eq_append_getElem hk,List.foldl_append,e];rfl
def QU7 (r:RoI) (s:Int) (o:List GrI × Bool):List GrI:=if o.2=true then o.1 else o.1++[(r,s)]
theorem QZ0 (r:RoI) (s:Int):∀ (gs o:List GrI),(∀ x∈gs,x.1≠r)->gs.foldl (qJ6 r s) (o,true)=(o++gs,true)
 | [],o,_=>by simp
 | x::xs,o,h=>by
  rw [List.foldl_cons];have : qJ6 r s (o,true) x=(o++[x],true):=by simp [qJ6,h x (by simp)]
  rw [this,QZ0 r s xs _ (fun y hy=>h y (by simp [hy]))];simp
theorem qEB (r:RoI) (s:Int):∀ (gs o:List GrI),SG gs->QU7 r s (gs.foldl (qJ6 r s) (o,false))=o++QJ1 gs r s
 | [],o,_=>by simp [QU7,QJ1]
 | x::xs,o,h=>by
  have hp:=List.pairwise_cons.1 h.up;rw [List.foldl_cons];by_cases e:x.1=r
  ·have : qJ6 r s (o,false) x=(o++[(r,orI x.2 s)],true):=by simp [qJ6,e]
   rw [this,QZ0 r s xs _ (fun y hy q=>by have:=hp.1 y hy;rw [q,e,qO2] at this;cases this)];simp [QU7,QJ1,e]
  ·by_cases q:ltR r x.1=true
   ·have : qJ6 r s (o,false) x=(o++[(r,s),x],true):=by simp [qJ6,e,q]
    rw [this,QZ0 r s xs _ (fun y hy q2=>by have:=QD8 q (hp.1 y hy);rw [q2,qO2] at this;cases this)];simp [QU7,QJ1,e,q]
   ·have : qJ6 r s (o,false) x=(o++[x],false):=by simp [qJ6,e,q]
    rw [this,qEB r s xs _ h.tail];simp [QJ1,e,q]
theorem qHm {gs:List GrI} (h:SG gs) (r:RoI) (s:Int):QU7 r s (qQ8 gs r s gs.length)=QJ1 gs r s:=by
 rw [qQ8,List.take_length,qEB r s gs [] h];simp

def qL7 (f:RoI->Int) (n:Int) (ys:List Int) (k:Nat):Int:=(ys.take k).foldl (fun o y=>orI o (f (y,n))) 0
theorem qCF (f:RoI->Int) (n:Int) (ys:List Int):qL7 f n ys 0=0:=by simp [qL7]
theorem qCG {ys:List Int} {k:Nat} {y:Int} (h:ys[k]? = some y) (f:RoI->Int) (n:Int):qL7 f n ys (k+1)=orI (qL7 f n ys k) (f (y,n)):=by
 have hk:k < ys.length:=by
  by_cases q:k < ys.length
  ·exact q
  ·rw [List.getElem?_eq_none (by omega)] at h;cases h
 have e:ys[k]=y:=by rw [List.getElem?_eq_getElem hk] at h;exact Option.some.inj h
 rw [qL7,List.take_succ_eq_append_getElem hk,List.foldl_append,e];rfl
theorem QE0 {f:RoI->Int} (hf:∀ r,qK9 (f r)) (n:Int):∀ (ys:List Int) (o:Int),qK9 o->qK9 (ys.foldl (fun o y=>orI o (f (y,n))) o)/\∀ p,qI5 (ys.foldl (fun o y=>orI o (f (y,n))) o) p=(qI5 o p || ys.any (fun y=>qI5 (f (y,n)) p))
 | [],o,ho=>⟨ho,fun p=>by simp⟩
 | y::ys,o,ho=>by
  have:=QE0 hf n ys (orI o (f (y,n))) (qAO ho (hf _));refine ⟨this.1,fun p=>?_⟩;rw [List.foldl_cons,this.2 p,QO2 ho (hf _),List.any_cons,Bool.or_assoc]
theorem qEp {f:RoI->Int} (hf:∀ r,qK9 (f r)) (n:Int) (ys:List Int) (k:Nat):qK9 (qL7 f n ys k):=(QE0 hf n (ys.take k) 0 ⟨by omega,by omega⟩).1
theorem qK2 {s x:Int}:∀ {k:Nat},x∈qB3 s k↔1<=x/\x<=(k:Int)/\qI5 s x=true
 | 0=>by simp [qB3];omega
 | k+1=>by
  unfold qB3;split
  ·rename_i h;rw [List.mem_append,List.mem_singleton,qK2 (k:=k)];constructor
   ·rintro (q | rfl)
    ·exact ⟨q.1,by omega,q.2.2⟩
    ·exact ⟨by omega,by omega,h⟩
   ·rintro ⟨q1,q2,q3⟩;by_cases e:x=(k:Int)+1
    ·exact .inr e
    ·exact .inl ⟨q1,by omega,q3⟩
  ·rename_i h;rw [qK2 (k:=k)];constructor
   ·rintro ⟨q1,q2,q3⟩;exact ⟨q1,by omega,q3⟩
   ·rintro ⟨q1,q2,q3⟩;by_cases e:x=(k:Int)+1
    ·subst e;exact absurd q3 h
    ·exact ⟨q1,by omega,q3⟩
theorem QT3 (s:Int):∀ k,(qB3 s k).length<=k
 | 0=>by simp [qB3]
 | k+1=>by
  have:=QT3 s k;unfold qB3;split
  ·simp;omega
  ·omega
def byF (f:RoI->Int) (r:qA2):Int :=
 if r.k=1 then qFT r.w
 else if r.k=2 then f (r.oo,r.on)
 else if r.k=4 then qKB (f (r.oo,r.on)) (f (r.to,r.tn))
 else qL7 f r.tn (qB3 (f (r.oo,r.on)) 8) (qB3 (f (r.oo,r.on)) 8).length
def qU4 (m:RoI->Int->Prop) (r:qA2) (p:Int):Prop :=
 if r.k=1 then p=r.w
 else if r.k=2 then m (r.oo,r.on) p
 else if r.k=4 then m (r.oo,r.on) p/\m (r.to,r.tn) p
 else ∃ q,1<=q/\q<=8/\m (r.oo,r.on) q/\m (q,r.tn) p
def okR (r:qA2):Prop:=qD6 r.ho r.hn=true/\(r.k=1->1<=r.w/\r.w<=8)
theorem QP3 {f:RoI->Int} (hf:∀ r,qK9 (f r)) {r:qA2} (hr:okR r):qK9 (byF f r):=by
 unfold byF;split
 ·rename_i e;exact qLI (hr.2 e).1 (hr.2 e).2
 ·split
  ·exact hf _
  ·split
   ·exact qLK (hf _) (hf _)
   ·exact qEp hf _ _ _
theorem qCp {f:RoI->Int} (hf:∀ r,qK9 (f r)) {r:qA2} (hr:okR r) {p:Int} (hp:1<=p):qI5 (byF f r) p=true↔qU4 (fun r p=>qI5 (f r) p=true) r p:=by
 unfold byF qU4;split
 ·rename_i e;rw [qJG (hr.2 e).1 hp];simp
 ·split
  ·exact Iff.rfl
  ·split
   ·rw [qJH (hf _) (hf _)];simp
   ·rw [qL7,List.take_length,(QE0 hf r.tn _ 0 ⟨by omega,by omega⟩).2 p,QE2,Bool.false_or,List.any_eq_true];constructor
    ·rintro ⟨q,hq,h⟩;have:=qK2.1 hq;exact ⟨q,this.1,this.2.1,this.2.2,h⟩
    ·rintro ⟨q,h1,h2,h3,h4⟩;exact ⟨q,qK2.2 ⟨h1,h2,h3⟩,h4⟩
theorem QT8 {m m':RoI->Int->Prop} (h:∀ r p,1<=p->m r p->m' r p) {r:qA2} {p:Int} (hp:1<=p) (g:qU4 m r p):qU4 m' r p:=by
 unfold qU4 at g ⊢
 split
 ·rename_i e;rw [if_pos e] at g;exact g
 ·rename_i e;rw [if_neg e] at g;split
  ·rename_i e;rw [if_pos e] at g;exact h _ _ hp g
  ·rename_i e;rw [if_neg e] at g;split
   ·rename_i e;rw [if_pos e] at g;exact ⟨h _ _ hp g.1,h _ _ hp g.2⟩
   ·rename_i e;rw [if_neg e] at g;obtain ⟨q,h1,h2,h3,h4⟩:=g;exact ⟨q,h1,h2,h _ _ h1 h3,h _ _ hp h4⟩
def QP9 (gs:List GrI) (r:RoI) (s:Int):List GrI:=if s=0 then gs else QJ1 gs r s
theorem qLi {gs:List GrI} (h:SG gs) {r:RoI} {s:Int} (hr:qD6 r.1 r.2=true) (hs:qK9 s):SG (QP9 gs r s):=by
 unfold QP9;split
 ·exact h
 ·have:=hs.1;exact qLg h hr ⟨by omega,hs.2⟩
theorem qKw {gs:List GrI} (h:SG gs) {r:RoI} {s:Int} (hs:qK9 s) (r':RoI) (p:Int):qI5 (ofG (QP9 gs r s) r') p=true↔qI5 (ofG gs r') p=true\/(r=r'/\qI5 s p=true):=by
 unfold QP9;split
 ·rename_i e;subst e;simp [QE2]
 ·have:=hs.1;rw [qKd h ⟨by omega,hs.2⟩];split
  ·rename_i e;subst e;rw [QO2 (qY5 h _) hs];simp
  ·rename_i e;constructor
   ·exact fun q => .inl q
   ·rintro (q | q)
    ·exact q
    ·exact absurd q.1.symm e
theorem qKH {gs:List GrI} (h:SG gs) {r:RoI} {s:Int} (hs:qK9 s):qT5 gs<=qT5 (QP9 gs r s)/\(qT5 gs=qT5 (QP9 gs r s)->QP9 gs r s=gs):=by
 unfold QP9;split
 ·exact ⟨by omega,fun _=>rfl⟩
 ·have:=hs.1;exact qKG h ⟨by omega,hs.2⟩
def qN9 (zs:List qA2) (gs:List GrI) (k:Nat):List GrI:=(zs.take k).foldl (fun o z=>QP9 o (z.ho,z.hn) (byF (ofG gs) z)) gs
def qO1 (zs:List qA2) (gs:List GrI):List GrI:=qN9 zs gs zs.length
theorem QK4 (zs:List qA2) (gs:List GrI):qN9 zs gs 0=gs:=by simp [qN9]
theorem qBc {zs:List qA2} {k:Nat} {z:qA2} (h:zs[k]? = some z) (gs:List GrI):qN9 zs gs (k+1)=QP9 (qN9 zs gs k) (z.ho,z.hn) (byF (ofG gs) z):=by
 have hk:k < zs.length:=by
  by_cases q:k < zs.length
  ·exact q
  ·rw [List.getElem?_eq_none (by omega)] at h;cases h
 have e:zs[k]=z:=by rw [List.getElem?_eq_getElem hk] at h;exact Option.some.inj h
 rw [qN9,List.take_succ_eq_append_getElem hk,List.foldl_append,e];rfl
theorem qY2 {gs:List GrI} (hg:SG gs):∀ (zs:List qA2) (o:List GrI),(∀ z∈zs,okR z)->SG o ->
  SG (zs.foldl (fun o z=>QP9 o (z.ho,z.hn) (byF (ofG gs) z)) o) /\
  (∀ r p,qI5 (ofG (zs.foldl (fun o z=>QP9 o (z.ho,z.hn) (byF (ofG gs) z)) o) r) p=true↔qI5 (ofG o r) p=true\/∃ z∈zs,(z.ho,z.hn)=r/\qI5 (byF (ofG gs) z) p=true) /\
  qT5 o<=qT5 (zs.foldl (fun o z=>QP9 o (z.ho,z.hn) (byF (ofG gs) z)) o) /\
  (qT5 o=qT5 (zs.foldl (fun o z=>QP9 o (z.ho,z.hn) (byF (ofG gs) z)) o)->zs.foldl (fun o z=>QP9 o (z.ho,z.hn) (byF (ofG gs) z)) o=o)
 | [],o,_,ho=>⟨ho,fun r p=>by simp,by simp,by simp⟩
 | z::zs,o,hz,ho=>by
  have hs:=QP3 (qY5 hg) (hz z (by simp));have h1:=qLi ho (r:=(z.ho,z.hn)) (hz z (by simp)).1 hs;have h2:=qKH ho (r:=(z.ho,z.hn)) hs;obtain ⟨i1,i2,i3,i4⟩:=qY2 hg zs _ (fun y hy=>hz y (by simp [hy])) h1;rw [List.foldl_cons];refine ⟨i1,fun r p=>?_,by omega,fun q=>?_⟩
  ·rw [i2 r p,qKw ho hs];constructor
   ·rintro ((q | q) | ⟨y,hy,q⟩)
    ·exact .inl q
    ·exact .inr ⟨z,by simp,q⟩
    ·exact .inr ⟨y,by simp [hy],q⟩
   ·rintro (q | ⟨y,hy,q⟩)
    ·exact .inl (.inl q)
    ·rcases List.mem_cons.1 hy with rfl | hy'
     ·exact .inl (.inr q)
     ·exact .inr ⟨y,hy',q⟩
  ·have q1:qT5 o=qT5 (QP9 o (z.ho,z.hn) (byF (ofG gs) z)):=by omega
   have e:=h2.2 q1;rw [i4 (by omega),e]
theorem qFu {zs:List qA2} {gs:List GrI} (hz:∀ z∈zs,okR z) (hg:SG gs):SG (qO1 zs gs):=by
 unfold qO1 qN9;rw [List.take_length];exact (qY2 hg zs gs hz hg).1
theorem qFt {zs:List qA2} {gs:List GrI} (hz:∀ z∈zs,okR z) (hg:SG gs) (k:Nat):SG (qN9 zs gs k) :=
 (qY2 hg (zs.take k) gs (fun z h=>hz z (List.mem_of_mem_take h)) hg).1
theorem qDs {zs:List qA2} {gs:List GrI} (hz:∀ z∈zs,okR z) (hg:SG gs) (r:RoI) (p:Int):qI5 (ofG (qO1 zs gs) r) p=true↔qI5 (ofG gs r) p=true\/∃ z∈zs,(z.ho,z.hn)=r/\qI5 (byF (ofG gs) z) p=true:=by
 unfold qO1 qN9;rw [List.take_length];exact (qY2 hg zs gs hz hg).2.1 r p
theorem qDH {zs:List qA2} {gs:List GrI} (hz:∀ z∈zs,okR z) (hg:SG gs):qT5 gs<=qT5 (qO1 zs gs)/\(qT5 gs=qT5 (qO1 zs gs)->qO1 zs gs=gs):=by
 unfold qO1 qN9;rw [List.take_length];exact (qY2 hg zs gs hz hg).2.2
def itG (zs:List qA2):Nat->List GrI
 | 0=>[]
 | n+1=>qO1 zs (itG zs n)
theorem QH7 {zs:List qA2} (hz:∀ z∈zs,okR z):∀ n,SG (itG zs n)
 | 0=>qLf
 | n+1=>qFu hz (QH7 hz n)
def InN (zs:List qA2) (n:Nat) (r:RoI) (p:Int):Prop:=qI5 (ofG (itG zs n) r) p=true
theorem QX1 {zs:List qA2} (hz:∀ z∈zs,okR z) (n:Nat) (r:RoI) {p:Int} (hp:1<=p):InN zs (n+1) r p↔InN zs n r p\/∃ z∈zs,(z.ho,z.hn)=r/\qU4 (InN zs n) z p:=by
 unfold InN;rw [itG,qDs hz (QH7 hz n)];refine or_congr_right (exists_congr (fun z=>and_congr_right (fun h=>and_congr_right (fun _=>?_))));exact qCp (qY5 (QH7 hz n)) (hz z h) hp
theorem QJ2 {zs:List qA2} (hz:∀ z∈zs,okR z) {n k:Nat} (h:n<=k) {r:RoI} {p:Int} (hp:1<=p) (g:InN zs n r p):InN zs k r p:=by
 induction h with
 | refl=>exact g
 | step _ ih=>exact (QX1 hz _ r hp).2 (.inl ih)
def Has (zs:List qA2) (r:RoI) (p:Int):Prop:=∃ n,InN zs n r p
theorem qHK {zs:List qA2} (hz:∀ z∈zs,okR z) {m:RoI->Int->Prop} (h:∀ z∈zs,∀ p,1<=p->qU4 m z p->m (z.ho,z.hn) p) {r:RoI} {p:Int} (hp:1<=p) (g:Has zs r p):m r p:=by
 obtain ⟨n,g⟩:=g;induction n generalizing r p with
 | zero=>simp [InN,itG,ofG,QE2] at g
 | succ n ih =>
  rcases (QX1 hz n r hp).1 g with q | ⟨z,h1,h2,h3⟩
  ·exact ih hp q
  ·rw [<- h2];exact h z h1 p hp (QT8 (fun r p hp q=>ih hp q) hp h3)
theorem qHN {zs:List qA2} (hz:∀ z∈zs,okR z) {z:qA2} (h:z∈zs) {p:Int} (hp:1<=p) (g:qU4 (Has zs) z p):Has zs (z.ho,z.hn) p:=by
 have key:∃ n,qU4 (InN zs n) z p:=by
  unfold qU4 at g ⊢
  by_cases e1:z.k=1
  ·simp only [if_pos e1] at g ⊢;exact ⟨0,g⟩
  ·simp only [if_neg e1] at g ⊢
   by_cases e2:z.k=2
   ·simp only [if_pos e2] at g ⊢;exact g
   ·simp only [if_neg e2] at g ⊢
    by_cases e4:z.k=4
    ·simp only [if_pos e4] at g ⊢
     obtain ⟨⟨a,ha⟩,b,hb⟩:=g;exact ⟨a+b,QJ2 hz (by omega) hp ha,QJ2 hz (by omega) hp hb⟩
    ·simp only [if_neg e4] at g ⊢
     obtain ⟨q,h1,h2,⟨a,ha⟩,b,hb⟩:=g;exact ⟨a+b,q,h1,h2,QJ2 hz (by omega) h1 ha,QJ2 hz (by omega) hp hb⟩
 obtain ⟨n,g⟩:=key;exact ⟨n+1,(QX1 hz n _ hp).2 (.inr ⟨z,h,rfl,g⟩)⟩
structure QJ9 (zs:List qA2) (gs:List GrI):Prop where
 sg:SG gs
 al:∀ r p,1<=p->p<=8->(qI5 (ofG gs r) p=true↔Has zs r p)
theorem QP7 {zs:List qA2} {a b:List GrI} (ha:QJ9 zs a) (hb:QJ9 zs b):a=b:=by
 refine qLh ha.sg hb.sg (fun r=>qFw (qY5 ha.sg r) (qY5 hb.sg r) (fun p h0 h1=>?_));rw [Bool.eq_iff_iff,ha.al r p h0 h1,hb.al r p h0 h1]
theorem qHk {zs:List qA2} (hz:∀ z∈zs,okR z) {gs:List GrI} (hg:SG gs) (hs:∀ r p,1<=p->qI5 (ofG gs r) p=true->Has zs r p) (hc:∀ z∈zs,∀ p,1<=p->qI5 (byF (ofG gs) z) p=true->qI5 (ofG gs (z.ho,z.hn)) p=true):QJ9 zs gs:=by
 refine ⟨hg,fun r p h0 _=>⟨hs r p h0,fun g=>?_⟩⟩;refine qHK (m:=fun r p=>qI5 (ofG gs r) p=true) hz (fun z h p hp q=>?_) h0 g;exact hc z h p hp ((qCp (qY5 hg) (hz z h) hp).2 q)
theorem qHl {zs:List qA2} (hz:∀ z∈zs,okR z) {n:Nat} (h:qO1 zs (itG zs n)=itG zs n):QJ9 zs (itG zs n):=by
 refine qHk hz (QH7 hz n) (fun r p _ q=>⟨n,q⟩) (fun z hzz p _ q=>?_);have:=(qDs hz (QH7 hz n) (z.ho,z.hn) p).2 (.inr ⟨z,hzz,rfl,q⟩);rw [h] at this;exact this
theorem qJs {zs:List qA2} (hz:∀ z∈zs,okR z):∀ (n:Nat),(∀ k,k < n->qO1 zs (itG zs k)≠itG zs k)->(n:Int)<=qT5 (itG zs n)
 | 0,_=>by simp [itG,qT5]
 | n+1,h=>by
  have i:=qJs hz n (fun k hk=>h k (by omega));have s:=qDH hz (QH7 hz n);have : qT5 (itG zs n)≠qT5 (itG zs (n+1)):=fun e=>h n (by omega) (s.2 e)
  have:=s.1;simp only [itG] at *
  omega
theorem qMw {zs:List qA2} (hz:∀ z∈zs,okR z) {n:Nat} (h:∀ k,k < n->qO1 zs (itG zs k)≠itG zs k):n<=10200:=by
 have:=qJs hz n h;have:=(qJZ (QH7 hz n)).2;omega
theorem qKu {zs:List qA2} (hz:∀ z∈zs,okR z):∃ n,n<=10200/\qO1 zs (itG zs n)=itG zs n:=by
 refine Classical.byContradiction (fun hno=>?_);have:=qMw (zs:=zs) hz (n:=10201) (fun k hk e=>hno ⟨k,by omega,e⟩);omega

theorem qDW {r:qA2} (h:qA8 r=0):okR r/\1<=r.k/\r.k<=4:=by
 unfold qA8 at h;by_cases hk:1<=r.k/\r.k<=4
 ·rw [if_neg (fun q=>q hk)] at h;cases hr:qD6 r.ho r.hn
  ·simp [hr] at h
  ·refine ⟨⟨hr,fun e=>?_⟩,hk⟩;rw [if_neg (by rw [hr];simp)] at h;cases hb:QP5 r
   ·simp [hb] at h
   ·cases hh:QE3 r
    ·simp [hb,hh] at h
    ·unfold QE3 at hh;rw [if_pos e] at hh;simpa [qU0] using hh
 ·rw [if_pos hk] at h;cases h
theorem QL5 {zs:List qA2}:∀ k,qL0 zs k=0->∀ j z,j < k->zs[j]? = some z->qA8 z=0
 | 0,_,j,_,hj,_=>by omega
 | k+1,h,j,z,hj,hz=>by
  have h0:qL0 zs k=0:=by
   by_cases q:qL0 zs k=0
   ·exact q
   ·exact absurd (qQ9 zs k (k+1) _ q rfl (by omega)) (by rw [h];exact fun e=>q e.symm)
  by_cases e:j=k
  ·subst e;by_cases q:qA8 z=0
   ·exact q
   ·rw [QD2 zs j z hz h0 q] at h;exact h
  ·exact QL5 k h0 j z (by omega) hz
theorem qGM {zs:List qA2} (h:qD1 zs=0):zs.length<=16/\∀ z∈zs,okR z/\1<=z.k/\z.k<=4:=by
 unfold qD1 at h;split at h
 ·cases h
 ·refine ⟨by omega,fun z hz=>?_⟩;obtain ⟨j,hj⟩:=List.mem_iff_getElem?.1 hz
  have hl:j < zs.length:=by
   by_cases q:j < zs.length
   ·exact q
   ·rw [List.getElem?_eq_none (by omega)] at hj;cases hj
  exact qDW (QL5 _ h j z hl hj)
