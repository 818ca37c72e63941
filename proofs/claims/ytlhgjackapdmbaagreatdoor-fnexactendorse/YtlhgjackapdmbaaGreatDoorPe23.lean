/- Contracts. -/
import Derived.Test.YtlhgjackapdmbaaGreatDoorPe02
import Derived.Test.YtlhgjackapdmbaaGreatDoorPe03
namespace Go.Proofs.YtlhgjackapdmbaaGreatDoor
set_option maxRecDepth 100000
set_option maxHeartbeats 8000000
open Go.RowKit
set_option linter.unusedVariables false
set_option linter.unusedSimpArgs false

theorem QD7 (a b:Nat) (ha:a < 256) (hb:b < 256):bits .or .i64 (a:Int) (b:Int)=((a ||| b:Nat):Int):=by
 have hx:a ||| b < 2 ^ 8:=Nat.or_lt_two_pow (by omega) (by omega)
 have ea:(BitVec.ofInt 64 (a:Int)).toNat=a:=by rw [BitVec.ofInt_natCast,BitVec.toNat_ofNat];exact Nat.mod_eq_of_lt (by omega)
 have eb:(BitVec.ofInt 64 (b:Int)).toNat=b:=by rw [BitVec.ofInt_natCast,BitVec.toNat_ofNat];exact Nat.mod_eq_of_lt (by omega)
 show IntKind.i64.wrap ((BitVec.ofInt 64 (a:Int) ||| BitVec.ofInt 64 (b:Int)).toNat:Int)=_
 rw [BitVec.toNat_or,ea,eb,IntKind.wrap_i64]
 omega
theorem QN9 (a b:Nat) (ha:a < 256) (hb:b < 256):bits .and .i64 (a:Int) (b:Int)=((a &&& b:Nat):Int):=by
 have hx:a &&& b < 2 ^ 8:=Nat.and_lt_two_pow _ (by omega)
 have ea:(BitVec.ofInt 64 (a:Int)).toNat=a:=by rw [BitVec.ofInt_natCast,BitVec.toNat_ofNat];exact Nat.mod_eq_of_lt (by omega)
 have eb:(BitVec.ofInt 64 (b:Int)).toNat=b:=by rw [BitVec.ofInt_natCast,BitVec.toNat_ofNat];exact Nat.mod_eq_of_lt (by omega)
 show IntKind.i64.wrap ((BitVec.ofInt 64 (a:Int) &&& BitVec.ofInt 64 (b:Int)).toNat:Int)=_
 rw [BitVec.toNat_and,ea,eb,IntKind.wrap_i64]
 omega
def qL2 (s:Int):Prop:=0≤s∧s≤255
abbrev orI (a b:Int):Int:=bits .or .i64 a b
abbrev andI (a b:Int):Int:=bits .and .i64 a b
theorem QZ1 {a b:Int} (ha:qL2 a) (hb:qL2 b):qL2 (orI a b):=by
 obtain ⟨A,rfl⟩:=Int.eq_ofNat_of_zero_le ha.1
 obtain ⟨B,rfl⟩:=Int.eq_ofNat_of_zero_le hb.1
 have h1:=ha.2
 have h2:=hb.2
 have hx:A ||| B < 2 ^ 8:=Nat.or_lt_two_pow (by omega) (by omega)
 rw [orI,QD7 A B (by omega) (by omega)]
 exact ⟨by omega,by omega⟩
theorem and_set {a b:Int} (ha:qL2 a) (hb:qL2 b):qL2 (andI a b):=by
 obtain ⟨A,rfl⟩:=Int.eq_ofNat_of_zero_le ha.1
 obtain ⟨B,rfl⟩:=Int.eq_ofNat_of_zero_le hb.1
 have h1:=ha.2
 have h2:=hb.2
 have hx:A &&& B < 2 ^ 8:=Nat.and_lt_two_pow _ (by omega)
 rw [andI,QN9 A B (by omega) (by omega)]
 exact ⟨by omega,by omega⟩
theorem QM6 {a b:Int} (ha:qL2 a) (hb:qL2 b) (p:Int):qJ0 (orI a b) p=(qJ0 a p || qJ0 b p):=by
 obtain ⟨A,rfl⟩:=Int.eq_ofNat_of_zero_le ha.1
 obtain ⟨B,rfl⟩:=Int.eq_ofNat_of_zero_le hb.1
 have h1:=ha.2
 have h2:=hb.2
 rw [orI,QD7 A B (by omega) (by omega)]
 simp [qJ0]
theorem hasI_and {a b:Int} (ha:qL2 a) (hb:qL2 b) (p:Int):qJ0 (andI a b) p=(qJ0 a p&&qJ0 b p):=by
 obtain ⟨A,rfl⟩:=Int.eq_ofNat_of_zero_le ha.1
 obtain ⟨B,rfl⟩:=Int.eq_ofNat_of_zero_le hb.1
 have h1:=ha.2
 have h2:=hb.2
 rw [andI,QN9 A B (by omega) (by omega)]
 simp [qJ0]
theorem QE3 (p:Int):qJ0 0 p=false:=by simp [qJ0]
theorem set_ext {a b:Int} (ha:qL2 a) (hb:qL2 b) (h:∀ p,1≤p→p≤8→qJ0 a p=qJ0 b p):a=b:=by
 obtain ⟨A,rfl⟩:=Int.eq_ofNat_of_zero_le ha.1
 obtain ⟨B,rfl⟩:=Int.eq_ofNat_of_zero_le hb.1
 have h1:=ha.2
 have h2:=hb.2
 have e:A=B:=by
  apply Nat.eq_of_testBit_eq
  intro i
  by_cases q:i < 8
  ·have:=h ((i:Int)+1) (by omega) (by omega)
   simpa [qJ0] using this
  ·have hi:256≤2 ^ i:=by
    have : 2 ^ 8≤2 ^ i:=Nat.pow_le_pow_right (by omega) (by omega)
    omega
   rw [Nat.testBit_lt_two_pow (by omega),Nat.testBit_lt_two_pow (by omega)]
 rw [e]
theorem or_le {a b:Int} (ha:qL2 a) (hb:qL2 b):a≤orI a b:=by
 obtain ⟨A,rfl⟩:=Int.eq_ofNat_of_zero_le ha.1
 obtain ⟨B,rfl⟩:=Int.eq_ofNat_of_zero_le hb.1
 have h1:=ha.2
 have h2:=hb.2
 rw [orI,QD7 A B (by omega) (by omega)]
 have : A≤A ||| B:=Nat.left_le_or
 omega
theorem or_pos {a b:Int} (ha:qL2 a) (hb:qL2 b) (h:1≤b):1≤orI a b:=by
 obtain ⟨A,rfl⟩:=Int.eq_ofNat_of_zero_le ha.1
 obtain ⟨B,rfl⟩:=Int.eq_ofNat_of_zero_le hb.1
 have h1:=ha.2
 have h2:=hb.2
 rw [orI,QD7 A B (by omega) (by omega)]
 have : B≤A ||| B:=Nat.right_le_or
 omega
theorem bit_set {p:Int} (h0:1≤p) (h1:p≤8):qL2 (bitI p):=by
 have hi:2 ^ (p - 1).toNat≤2 ^ 7:=Nat.pow_le_pow_right (by omega) (by omega)
 unfold bitI qL2
 generalize 2 ^ (p - 1).toNat=n at *
 omega
theorem hasI_bit {p q:Int} (h0:1≤p) (k0:1≤q):qJ0 (bitI p) q=decide (q=p):=by
 unfold bitI qJ0
 rw [Int.toNat_natCast,Nat.testBit_two_pow]
 by_cases e:q=p
 ·subst e;simp
 ·rw [decide_eq_false e,decide_eq_false]
  omega
abbrev GrI:=RoI × Int
def ofG:List GrI→RoI→Int
 | [],_=>0
 | x::xs,r=>if x.1=r then x.2 else ofG xs r
def QI3:List GrI→RoI→Int→List GrI
 | [],r,s=>[(r,s)]
 | x::xs,r,s=>if x.1=r then (r,orI x.2 s)::xs else if ltR r x.1=true then (r,s)::x::xs else x::QI3 xs r s
structure SG (gs:List GrI):Prop where
 up:gs.Pairwise (fun a b=>ltR a.1 b.1=true)
 ro:∀ x∈gs,qD3 x.1.1 x.1.2=true
 st:∀ x∈gs,1≤x.2∧x.2≤255
theorem sg_nil:SG []:=⟨List.Pairwise.nil,fun _ h=>by simp at h,fun _ h=>by simp at h⟩
theorem SG.tail {x:GrI} {xs:List GrI} (h:SG (x::xs)):SG xs:=⟨(List.pairwise_cons.1 h.up).2,fun y hy=>h.ro y (by simp [hy]),fun y hy=>h.st y (by simp [hy])⟩
theorem qY6 {gs:List GrI} (h:SG gs) (r:RoI):qL2 (ofG gs r):=by
 induction gs with
 | nil=>exact ⟨by simp [ofG],by simp [ofG]⟩
 | cons x xs ih =>
  unfold ofG
  split
  ·have:=h.st x (by simp)
   exact ⟨by omega,by omega⟩
  ·exact ih h.tail
theorem ofG_none {gs:List GrI} {r:RoI} (h:∀ x∈gs,x.1≠r):ofG gs r=0:=by
 induction gs with
 | nil=>rfl
 | cons x xs ih =>
  unfold ofG
  rw [if_neg (h x (by simp))]
  exact ih (fun y hy=>h y (by simp [hy]))
theorem ofG_mem {gs:List GrI} (h:SG gs) {x:GrI} (hx:x∈gs):ofG gs x.1=x.2:=by
 induction gs with
 | nil=>cases hx
 | cons y ys ih =>
  unfold ofG
  rcases List.mem_cons.1 hx with rfl | hx'
  ·simp
  ·have:=(List.pairwise_cons.1 h.up).1 x hx'
   rw [if_neg (fun e=>by rw [e,qO9] at this;cases this)]
   exact ih h.tail hx'
theorem ofG_some {gs:List GrI} {r:RoI} (h:ofG gs r≠0):(r,ofG gs r)∈gs:=by
 induction gs with
 | nil=>exact absurd rfl h
 | cons y ys ih =>
  unfold ofG at h ⊢
  split
  ·rename_i e
   rw [← e]
   simp
  ·rename_i e
   rw [if_neg e] at h
   exact List.mem_cons_of_mem _ (ih h)
theorem sg_ext {a b:List GrI} (ha:SG a) (hb:SG b) (h:∀ r,ofG a r=ofG b r):a=b:=by
 have key:∀ {c:List GrI},SG c→∀ r,r∈c.map Prod.fst↔ofG c r≠0:=by
  intro c hc r
  constructor
  ·intro hr
   obtain ⟨x,hx,rfl⟩:=List.mem_map.1 hr
   rw [ofG_mem hc hx]
   have:=hc.st x hx
   omega
  ·intro hr
   exact List.mem_map.2 ⟨_,ofG_some hr,rfl⟩
 have e:a.map Prod.fst=b.map Prod.fst:=by
  refine QX9 _ _ (List.pairwise_map.2 ha.up) (List.pairwise_map.2 hb.up) (fun r=>?_)
  rw [key ha r,key hb r,h r]
 have back:∀ {c:List GrI},SG c→c=(c.map Prod.fst).map (fun r=>(r,ofG c r)):=by
  intro c hc
  rw [List.map_map]
  conv=>lhs;rw [← List.map_id c]
  refine List.map_congr_left (fun x hx=>?_)
  simp [ofG_mem hc hx]
 rw [back ha,back hb,e]
 exact List.map_congr_left (fun r _=>by rw [h r])
theorem insG_lo {gs:List GrI} {r:RoI} {s:Int} {q:RoI} (hq:ltR q r=true) (h:∀ x∈gs,ltR q x.1=true):∀ x∈QI3 gs r s,ltR q x.1=true:=by
 induction gs with
 | nil =>
  intro x hx
  simp [QI3] at hx
  rw [hx];exact hq
 | cons y ys ih =>
  intro x hx
  unfold QI3 at hx
  split at hx
  ·rcases List.mem_cons.1 hx with rfl | hx'
   ·exact hq
   ·exact h x (by simp [hx'])
  ·split at hx
   ·rcases List.mem_cons.1 hx with rfl | hx'
    ·exact hq
    ·exact h x hx'
   ·rcases List.mem_cons.1 hx with rfl | hx'
    ·exact h x (by simp)
    ·exact ih (fun z hz=>h z (by simp [hz])) x hx'
theorem sg_ins {gs:List GrI} (h:SG gs) {r:RoI} {s:Int} (hr:qD3 r.1 r.2=true) (hs:1≤s∧s≤255):SG (QI3 gs r s):=by
 induction gs with
 | nil=>exact ⟨by simp [QI3],fun x hx=>by simp [QI3] at hx;rw [hx];exact hr,fun x hx=>by simp [QI3] at hx;rw [hx];exact hs⟩
 | cons y ys ih =>
  have hp:=List.pairwise_cons.1 h.up
  have hy:=h.st y (by simp)
  unfold QI3
  split
  ·rename_i e
   refine ⟨List.pairwise_cons.2 ⟨fun x hx=>by rw [← e];exact hp.1 x hx,hp.2⟩,fun x hx=>?_,fun x hx=>?_⟩
   ·rcases List.mem_cons.1 hx with rfl | hx'
    ·exact hr
    ·exact h.ro x (by simp [hx'])
   ·rcases List.mem_cons.1 hx with rfl | hx'
    ·exact ⟨or_pos ⟨by omega,by omega⟩ ⟨by omega,by omega⟩ hs.1,(QZ1 (a:=y.2) (b:=s) ⟨by omega,by omega⟩ ⟨by omega,by omega⟩).2⟩
    ·exact h.st x (by simp [hx'])
  ·split
   ·rename_i e q
    refine ⟨List.pairwise_cons.2 ⟨fun x hx=>?_,h.up⟩,fun x hx=>?_,fun x hx=>?_⟩
    ·rcases List.mem_cons.1 hx with rfl | hx'
     ·exact q
     ·exact QD9 q (hp.1 x hx')
    ·rcases List.mem_cons.1 hx with rfl | hx'
     ·exact hr
     ·exact h.ro x hx'
    ·rcases List.mem_cons.1 hx with rfl | hx'
     ·exact hs
     ·exact h.st x hx'
   ·rename_i e q
    have i:=ih h.tail
    have q2:ltR y.1 r=true:=ltR_total (by simpa using q) (fun e2=>e e2.symm)
    refine ⟨List.pairwise_cons.2 ⟨insG_lo q2 hp.1,i.up⟩,fun x hx=>?_,fun x hx=>?_⟩
    ·rcases List.mem_cons.1 hx with rfl | hx'
     ·exact h.ro x (by simp)
     ·exact i.ro x hx'
    ·rcases List.mem_cons.1 hx with rfl | hx'
     ·exact h.st x (by simp)
     ·exact i.st x hx'
theorem zero_or {s:Int} (hs:qL2 s):orI 0 s=s:=by
 obtain ⟨B,rfl⟩:=Int.eq_ofNat_of_zero_le hs.1
 have h2:=hs.2
 have:=QD7 0 B (by omega) (by omega)
 simpa using this
theorem ofG_ins {gs:List GrI} (h:SG gs) {r:RoI} {s:Int} (hs:1≤s∧s≤255) (r':RoI):ofG (QI3 gs r s) r'=if r'=r then orI (ofG gs r) s else ofG gs r':=by
 induction gs with
 | nil =>
  simp only [QI3,ofG]
  by_cases e:r'=r
  ·subst e;simp [zero_or ⟨by omega,hs.2⟩]
  ·rw [if_neg (fun e2=>e e2.symm),if_neg e]
 | cons y ys ih =>
  have hp:=List.pairwise_cons.1 h.up
  unfold QI3
  by_cases e:y.1=r
  ·rw [if_pos e]
   unfold ofG
   by_cases e2:r'=r
   ·subst e2;simp [e]
   ·rw [if_neg (fun q=>e2 q.symm),if_neg e2,if_neg (fun q=>e2 (by rw [← q,e]))]
  ·rw [if_neg e]
   by_cases q:ltR r y.1=true
   ·rw [if_pos q]
    by_cases e2:r'=r
    ·subst e2
     have n:ofG (y::ys) r'=0:=by
      refine ofG_none (fun x hx e3=>?_)
      have : ltR r' x.1=true:=by
       rcases List.mem_cons.1 hx with rfl | hx'
       ·exact q
       ·exact QD9 q (hp.1 x hx')
      rw [e3,qO9] at this
      cases this
     rw [n,if_pos rfl,zero_or ⟨by omega,hs.2⟩]
     simp [ofG]
    ·rw [if_neg e2]
     show ofG ((r,s)::y::ys) r'=_
     rw [ofG,if_neg (fun q=>e2 q.symm)]
   ·rw [if_neg q,ofG,ih h.tail]
    by_cases e2:r'=r
    ·subst e2
     simp [e,ofG]
    ·simp [e2,ofG]
theorem QQ5:∀ (l:List Int) (a b:Int),l.Pairwise (· < ·)→(∀ x∈l,a≤x∧x < b)→(l.length:Int)≤max 0 (b - a)
 | [],a,b,_,_=>by simp;omega
 | x::xs,a,b,h,k=>by
  have hp:=List.pairwise_cons.1 h
  have hx:=k x (by simp)
  have:=QQ5 xs (x+1) b hp.2 (fun y hy=>⟨by have:=hp.1 y hy;omega,(k y (by simp [hy])).2⟩)
  simp only [List.length_cons]
  omega
theorem QQ2 {gs:List GrI} (h:SG gs):gs.length≤40:=by
 have hb:∀ x∈gs,1≤x.1.1∧x.1.1≤8∧1≤x.1.2∧x.1.2≤5:=by
  intro x hx
  have:=h.ro x hx
  simp [qD3,qU5,qV6] at this
  omega
 have:=QQ5 (gs.map (fun x=>x.1.1 * 5+x.1.2)) 6 46 (List.pairwise_map.2 (h.up.imp_of_mem (fun {a b} ha hb' q=>?_))) (fun y hy=>?_)
 ·simp at this;omega
 ·have h1:=hb a ha
  have h2:=hb b hb'
  simp [ltR] at q
  omega
 ·obtain ⟨x,hx,rfl⟩:=List.mem_map.1 hy
  have:=hb x hx
  omega
def qU1 (gs:List GrI):Int:=(gs.map Prod.snd).sum
theorem sum_ins {gs:List GrI} (h:SG gs) {r:RoI} {s:Int} (hs:1≤s∧s≤255):qU1 gs≤qU1 (QI3 gs r s)∧(qU1 gs=qU1 (QI3 gs r s)→QI3 gs r s=gs):=by
 induction gs with
 | nil=>simp [qU1,QI3];omega
 | cons y ys ih =>
  have hy:=h.st y (by simp)
  have i:=ih h.tail
  unfold QI3
  by_cases e:y.1=r
  ·rw [if_pos e]
   have:=or_le (a:=y.2) (b:=s) ⟨by omega,by omega⟩ ⟨by omega,by omega⟩
   simp only [qU1,List.map_cons,List.sum_cons]
   refine ⟨by omega,fun q=>?_⟩
   have : orI y.2 s=y.2:=by omega
   rw [this,← e]
  ·rw [if_neg e]
   by_cases q:ltR r y.1=true
   ·rw [if_pos q]
    simp only [qU1,List.map_cons,List.sum_cons]
    exact ⟨by omega,fun q=>by omega⟩
   ·rw [if_neg q]
    simp only [qU1,List.map_cons,List.sum_cons] at i ⊢
    refine ⟨by omega,fun q=>?_⟩
    rw [i.2 (by omega)]
theorem sum_bd {gs:List GrI} (h:∀ x∈gs,1≤x.2∧x.2≤255):0≤qU1 gs∧qU1 gs≤255 * gs.length:=by
 induction gs with
 | nil=>simp [qU1]
 | cons y ys ih =>
  have hy:=h y (by simp)
  have i:=ih (fun x hx=>h x (by simp [hx]))
  simp only [qU1,List.map_cons,List.sum_cons,List.length_cons] at i ⊢
  omega
theorem sum_le {gs:List GrI} (h:SG gs):0≤qU1 gs∧qU1 gs≤10200:=by
 have:=sum_bd h.st
 have:=QQ2 h
 omega
def qK5 (r:RoI) (s:Int) (o:List GrI × Bool) (x:GrI):List GrI × Bool :=
 if x.1=r then (o.1++[(x.1,orI x.2 s)],true)
 else if o.2=false∧ltR r x.1=true then (o.1++[(r,s),x],true)
 else (o.1++[x],o.2)
def qR5 (gs:List GrI) (r:RoI) (s:Int) (k:Nat):List GrI × Bool:=(gs.take k).foldl (qK5 r s) ([],false)
theorem QS6 (gs:List GrI) (r:RoI) (s:Int):qR5 gs r s 0=([],false):=by simp [qR5]
theorem QS7 {gs:List GrI} {k:Nat} {x:GrI} (h:gs[k]? = some x) (r:RoI) (s:Int):qR5 gs r s (k+1)=qK5 r s (qR5 gs r s k) x:=by
 have hk:k < gs.length:=by
  by_cases q:k < gs.length
  ·exact q
  ·rw [List.getElem?_eq_none (by omega)] at h;cases h
 have e:gs[k]=x:=by rw [List.getElem?_eq_getElem hk] at h;exact Option.some.inj h
 rw [qR5,List.take_succ_eq_append_getElem hk,List.foldl_append,e]
 rfl
def QS8 (r:RoI) (s:Int) (o:List GrI × Bool):List GrI:=if o.2=true then o.1 else o.1++[(r,s)]
theorem QW8 (r:RoI) (s:Int):∀ (gs o:List GrI),(∀ x∈gs,x.1≠r)→gs.foldl (qK5 r s) (o,true)=(o++gs,true)
 | [],o,_=>by simp
 | x::xs,o,h=>by
  rw [List.foldl_cons]
  have : qK5 r s (o,true) x=(o++[x],true):=by simp [qK5,h x (by simp)]
  rw [this,QW8 r s xs _ (fun y hy=>h y (by simp [hy]))]
  simp
theorem add_fold (r:RoI) (s:Int):∀ (gs o:List GrI),SG gs→QS8 r s (gs.foldl (qK5 r s) (o,false))=o++QI3 gs r s
 | [],o,_=>by simp [QS8,QI3]
 | x::xs,o,h=>by
  have hp:=List.pairwise_cons.1 h.up
  rw [List.foldl_cons]
  by_cases e:x.1=r
  ·have : qK5 r s (o,false) x=(o++[(r,orI x.2 s)],true):=by simp [qK5,e]
   rw [this,QW8 r s xs _ (fun y hy q=>by have:=hp.1 y hy;rw [q,e,qO9] at this;cases this)]
   simp [QS8,QI3,e]
  ·by_cases q:ltR r x.1=true
   ·have : qK5 r s (o,false) x=(o++[(r,s),x],true):=by simp [qK5,e,q]
    rw [this,QW8 r s xs _ (fun y hy q2=>by have:=QD9 q (hp.1 y hy);rw [q2,qO9] at this;cases this)]
    simp [QS8,QI3,e,q]
   ·have : qK5 r s (o,false) x=(o++[x],false):=by simp [qK5,e,q]
    rw [this,add_fold r s xs _ h.tail]
    simp [QI3,e,q]
theorem addTo_all {gs:List GrI} (h:SG gs) (r:RoI) (s:Int):QS8 r s (qR5 gs r s gs.length)=QI3 gs r s:=by
 rw [qR5,List.take_length,add_fold r s gs [] h]
 simp

def qL7 (f:RoI→Int) (n:Int) (ys:List Int) (k:Nat):Int:=(ys.take k).foldl (fun o y=>orI o (f (y,n))) 0
theorem linkTo_zero (f:RoI→Int) (n:Int) (ys:List Int):qL7 f n ys 0=0:=by simp [qL7]
theorem linkTo_succ {ys:List Int} {k:Nat} {y:Int} (h:ys[k]? = some y) (f:RoI→Int) (n:Int):qL7 f n ys (k+1)=orI (qL7 f n ys k) (f (y,n)):=by
 have hk:k < ys.length:=by
  by_cases q:k < ys.length
  ·exact q
  ·rw [List.getElem?_eq_none (by omega)] at h;cases h
 have e:ys[k]=y:=by rw [List.getElem?_eq_getElem hk] at h;exact Option.some.inj h
 rw [qL7,List.take_succ_eq_append_getElem hk,List.foldl_append,e]
 rfl
theorem QE1 {f:RoI→Int} (hf:∀ r,qL2 (f r)) (n:Int):∀ (ys:List Int) (o:Int),qL2 o→qL2 (ys.foldl (fun o y=>orI o (f (y,n))) o)∧∀ p,qJ0 (ys.foldl (fun o y=>orI o (f (y,n))) o) p=(qJ0 o p || ys.any (fun y=>qJ0 (f (y,n)) p))
 | [],o,ho=>⟨ho,fun p=>by simp⟩
 | y::ys,o,ho=>by
  have:=QE1 hf n ys (orI o (f (y,n))) (QZ1 ho (hf _))
  refine ⟨this.1,fun p=>?_⟩
  rw [List.foldl_cons,this.2 p,QM6 ho (hf _),List.any_cons,Bool.or_assoc]
theorem linkTo_set {f:RoI→Int} (hf:∀ r,qL2 (f r)) (n:Int) (ys:List Int) (k:Nat):qL2 (qL7 f n ys k):=(QE1 hf n (ys.take k) 0 ⟨by omega,by omega⟩).1
theorem qK8 {s x:Int}:∀ {k:Nat},x∈qB2 s k↔1≤x∧x≤(k:Int)∧qJ0 s x=true
 | 0=>by simp [qB2];omega
 | k+1=>by
  unfold qB2
  split
  ·rename_i h
   rw [List.mem_append,List.mem_singleton,qK8 (k:=k)]
   constructor
   ·rintro (q | rfl)
    ·exact ⟨q.1,by omega,q.2.2⟩
    ·exact ⟨by omega,by omega,h⟩
   ·rintro ⟨q1,q2,q3⟩
    by_cases e:x=(k:Int)+1
    ·exact .inr e
    ·exact .inl ⟨q1,by omega,q3⟩
  ·rename_i h
   rw [qK8 (k:=k)]
   constructor
   ·rintro ⟨q1,q2,q3⟩
    exact ⟨q1,by omega,q3⟩
   ·rintro ⟨q1,q2,q3⟩
    by_cases e:x=(k:Int)+1
    ·subst e;exact absurd q3 h
    ·exact ⟨q1,by omega,q3⟩
theorem QR5 (s:Int):∀ k,(qB2 s k).length≤k
 | 0=>by simp [qB2]
 | k+1=>by
  have:=QR5 s k
  unfold qB2
  split
  ·simp;omega
  ·omega
def byF (f:RoI→Int) (r:qA1):Int :=
 if r.k=1 then bitI r.w
 else if r.k=2 then f (r.oo,r.on)
 else if r.k=4 then andI (f (r.oo,r.on)) (f (r.to,r.tn))
 else qL7 f r.tn (qB2 (f (r.oo,r.on)) 8) (qB2 (f (r.oo,r.on)) 8).length
def qU9 (m:RoI→Int→Prop) (r:qA1) (p:Int):Prop :=
 if r.k=1 then p=r.w
 else if r.k=2 then m (r.oo,r.on) p
 else if r.k=4 then m (r.oo,r.on) p∧m (r.to,r.tn) p
 else ∃ q,1≤q∧q≤8∧m (r.oo,r.on) q∧m (q,r.tn) p
def okR (r:qA1):Prop:=qD3 r.ho r.hn=true∧(r.k=1→1≤r.w∧r.w≤8)
theorem QN6 {f:RoI→Int} (hf:∀ r,qL2 (f r)) {r:qA1} (hr:okR r):qL2 (byF f r):=by
 unfold byF
 split
 ·rename_i e
  exact bit_set (hr.2 e).1 (hr.2 e).2
 ·split
  ·exact hf _
  ·split
   ·exact and_set (hf _) (hf _)
   ·exact linkTo_set hf _ _ _
theorem byF_has {f:RoI→Int} (hf:∀ r,qL2 (f r)) {r:qA1} (hr:okR r) {p:Int} (hp:1≤p):qJ0 (byF f r) p=true↔qU9 (fun r p=>qJ0 (f r) p=true) r p:=by
 unfold byF qU9
 split
 ·rename_i e
  rw [hasI_bit (hr.2 e).1 hp]
  simp
 ·split
  ·exact Iff.rfl
  ·split
   ·rw [hasI_and (hf _) (hf _)]
    simp
   ·rw [qL7,List.take_length,(QE1 hf r.tn _ 0 ⟨by omega,by omega⟩).2 p,QE3,Bool.false_or,List.any_eq_true]
    constructor
    ·rintro ⟨q,hq,h⟩
     have:=qK8.1 hq
     exact ⟨q,this.1,this.2.1,this.2.2,h⟩
    ·rintro ⟨q,h1,h2,h3,h4⟩
     exact ⟨q,qK8.2 ⟨h1,h2,h3⟩,h4⟩
theorem QS0 {m m':RoI→Int→Prop} (h:∀ r p,1≤p→m r p→m' r p) {r:qA1} {p:Int} (hp:1≤p) (g:qU9 m r p):qU9 m' r p:=by
 unfold qU9 at g ⊢
 split
 ·rename_i e;rw [if_pos e] at g;exact g
 ·rename_i e
  rw [if_neg e] at g
  split
  ·rename_i e;rw [if_pos e] at g;exact h _ _ hp g
  ·rename_i e
   rw [if_neg e] at g
   split
   ·rename_i e;rw [if_pos e] at g;exact ⟨h _ _ hp g.1,h _ _ hp g.2⟩
   ·rename_i e
    rw [if_neg e] at g
    obtain ⟨q,h1,h2,h3,h4⟩:=g
    exact ⟨q,h1,h2,h _ _ h1 h3,h _ _ hp h4⟩
def QO2 (gs:List GrI) (r:RoI) (s:Int):List GrI:=if s=0 then gs else QI3 gs r s
theorem sg_add {gs:List GrI} (h:SG gs) {r:RoI} {s:Int} (hr:qD3 r.1 r.2=true) (hs:qL2 s):SG (QO2 gs r s):=by
 unfold QO2
 split
 ·exact h
 ·have:=hs.1
  exact sg_ins h hr ⟨by omega,hs.2⟩
theorem has_add {gs:List GrI} (h:SG gs) {r:RoI} {s:Int} (hs:qL2 s) (r':RoI) (p:Int):qJ0 (ofG (QO2 gs r s) r') p=true↔qJ0 (ofG gs r') p=true∨(r=r'∧qJ0 s p=true):=by
 unfold QO2
 split
 ·rename_i e
  subst e
  simp [QE3]
 ·have:=hs.1
  rw [ofG_ins h ⟨by omega,hs.2⟩]
  split
  ·rename_i e
   subst e
   rw [QM6 (qY6 h _) hs]
   simp
  ·rename_i e
   constructor
   ·exact fun q => .inl q
   ·rintro (q | q)
    ·exact q
    ·exact absurd q.1.symm e
theorem sum_add {gs:List GrI} (h:SG gs) {r:RoI} {s:Int} (hs:qL2 s):qU1 gs≤qU1 (QO2 gs r s)∧(qU1 gs=qU1 (QO2 gs r s)→QO2 gs r s=gs):=by
 unfold QO2
 split
 ·exact ⟨by omega,fun _=>rfl⟩
 ·have:=hs.1
  exact sum_ins h ⟨by omega,hs.2⟩
def qO3 (zs:List qA1) (gs:List GrI) (k:Nat):List GrI:=(zs.take k).foldl (fun o z=>QO2 o (z.ho,z.hn) (byF (ofG gs) z)) gs
def qO8 (zs:List qA1) (gs:List GrI):List GrI:=qO3 zs gs zs.length
theorem QJ6 (zs:List qA1) (gs:List GrI):qO3 zs gs 0=gs:=by simp [qO3]
theorem stepTo_succ {zs:List qA1} {k:Nat} {z:qA1} (h:zs[k]? = some z) (gs:List GrI):qO3 zs gs (k+1)=QO2 (qO3 zs gs k) (z.ho,z.hn) (byF (ofG gs) z):=by
 have hk:k < zs.length:=by
  by_cases q:k < zs.length
  ·exact q
  ·rw [List.getElem?_eq_none (by omega)] at h;cases h
 have e:zs[k]=z:=by rw [List.getElem?_eq_getElem hk] at h;exact Option.some.inj h
 rw [qO3,List.take_succ_eq_append_getElem hk,List.foldl_append,e]
 rfl
theorem qY3 {gs:List GrI} (hg:SG gs):∀ (zs:List qA1) (o:List GrI),(∀ z∈zs,okR z)→SG o →
  SG (zs.foldl (fun o z=>QO2 o (z.ho,z.hn) (byF (ofG gs) z)) o) ∧
  (∀ r p,qJ0 (ofG (zs.foldl (fun o z=>QO2 o (z.ho,z.hn) (byF (ofG gs) z)) o) r) p=true↔qJ0 (ofG o r) p=true∨∃ z∈zs,(z.ho,z.hn)=r∧qJ0 (byF (ofG gs) z) p=true) ∧
  qU1 o≤qU1 (zs.foldl (fun o z=>QO2 o (z.ho,z.hn) (byF (ofG gs) z)) o) ∧
  (qU1 o=qU1 (zs.foldl (fun o z=>QO2 o (z.ho,z.hn) (byF (ofG gs) z)) o)→zs.foldl (fun o z=>QO2 o (z.ho,z.hn) (byF (ofG gs) z)) o=o)
 | [],o,_,ho=>⟨ho,fun r p=>by simp,by simp,by simp⟩
 | z::zs,o,hz,ho=>by
  have hs:=QN6 (qY6 hg) (hz z (by simp))
  have h1:=sg_add ho (r:=(z.ho,z.hn)) (hz z (by simp)).1 hs
  have h2:=sum_add ho (r:=(z.ho,z.hn)) hs
  obtain ⟨i1,i2,i3,i4⟩:=qY3 hg zs _ (fun y hy=>hz y (by simp [hy])) h1
  rw [List.foldl_cons]
  refine ⟨i1,fun r p=>?_,by omega,fun q=>?_⟩
  ·rw [i2 r p,has_add ho hs]
   constructor
   ·rintro ((q | q) | ⟨y,hy,q⟩)
    ·exact .inl q
    ·exact .inr ⟨z,by simp,q⟩
    ·exact .inr ⟨y,by simp [hy],q⟩
   ·rintro (q | ⟨y,hy,q⟩)
    ·exact .inl (.inl q)
    ·rcases List.mem_cons.1 hy with rfl | hy'
     ·exact .inl (.inr q)
     ·exact .inr ⟨y,hy',q⟩
  ·have q1:qU1 o=qU1 (QO2 o (z.ho,z.hn) (byF (ofG gs) z)):=by omega
   have e:=h2.2 q1
   rw [i4 (by omega),e]
theorem sg_step {zs:List qA1} {gs:List GrI} (hz:∀ z∈zs,okR z) (hg:SG gs):SG (qO8 zs gs):=by
 unfold qO8 qO3
 rw [List.take_length]
 exact (qY3 hg zs gs hz hg).1
theorem sg_stepTo {zs:List qA1} {gs:List GrI} (hz:∀ z∈zs,okR z) (hg:SG gs) (k:Nat):SG (qO3 zs gs k) :=
 (qY3 hg (zs.take k) gs (fun z h=>hz z (List.mem_of_mem_take h)) hg).1
theorem has_step {zs:List qA1} {gs:List GrI} (hz:∀ z∈zs,okR z) (hg:SG gs) (r:RoI) (p:Int):qJ0 (ofG (qO8 zs gs) r) p=true↔qJ0 (ofG gs r) p=true∨∃ z∈zs,(z.ho,z.hn)=r∧qJ0 (byF (ofG gs) z) p=true:=by
 unfold qO8 qO3
 rw [List.take_length]
 exact (qY3 hg zs gs hz hg).2.1 r p
theorem sum_step {zs:List qA1} {gs:List GrI} (hz:∀ z∈zs,okR z) (hg:SG gs):qU1 gs≤qU1 (qO8 zs gs)∧(qU1 gs=qU1 (qO8 zs gs)→qO8 zs gs=gs):=by
 unfold qO8 qO3
 rw [List.take_length]
 exact (qY3 hg zs gs hz hg).2.2
def itG (zs:List qA1):Nat→List GrI
 | 0=>[]
 | n+1=>qO8 zs (itG zs n)
theorem QH0 {zs:List qA1} (hz:∀ z∈zs,okR z):∀ n,SG (itG zs n)
 | 0=>sg_nil
 | n+1=>sg_step hz (QH0 hz n)
def InN (zs:List qA1) (n:Nat) (r:RoI) (p:Int):Prop:=qJ0 (ofG (itG zs n) r) p=true
theorem QU7 {zs:List qA1} (hz:∀ z∈zs,okR z) (n:Nat) (r:RoI) {p:Int} (hp:1≤p):InN zs (n+1) r p↔InN zs n r p∨∃ z∈zs,(z.ho,z.hn)=r∧qU9 (InN zs n) z p:=by
 unfold InN
 rw [itG,has_step hz (QH0 hz n)]
 refine or_congr_right (exists_congr (fun z=>and_congr_right (fun h=>and_congr_right (fun _=>?_))))
 exact byF_has (qY6 (QH0 hz n)) (hz z h) hp
theorem QI4 {zs:List qA1} (hz:∀ z∈zs,okR z) {n k:Nat} (h:n≤k) {r:RoI} {p:Int} (hp:1≤p) (g:InN zs n r p):InN zs k r p:=by
 induction h with
 | refl=>exact g
 | step _ ih=>exact (QU7 hz _ r hp).2 (.inl ih)
def Has (zs:List qA1) (r:RoI) (p:Int):Prop:=∃ n,InN zs n r p
theorem has_least {zs:List qA1} (hz:∀ z∈zs,okR z) {m:RoI→Int→Prop} (h:∀ z∈zs,∀ p,1≤p→qU9 m z p→m (z.ho,z.hn) p) {r:RoI} {p:Int} (hp:1≤p) (g:Has zs r p):m r p:=by
 obtain ⟨n,g⟩:=g
 induction n generalizing r p with
 | zero=>simp [InN,itG,ofG,QE3] at g
 | succ n ih =>
  rcases (QU7 hz n r hp).1 g with q | ⟨z,h1,h2,h3⟩
  ·exact ih hp q
  ·rw [← h2]
   exact h z h1 p hp (QS0 (fun r p hp q=>ih hp q) hp h3)
theorem gives_has {zs:List qA1} (hz:∀ z∈zs,okR z) {z:qA1} (h:z∈zs) {p:Int} (hp:1≤p) (g:qU9 (Has zs) z p):Has zs (z.ho,z.hn) p:=by
 have key:∃ n,qU9 (InN zs n) z p:=by
  unfold qU9 at g ⊢
  by_cases e1:z.k=1
  ·simp only [if_pos e1] at g ⊢;exact ⟨0,g⟩
  ·simp only [if_neg e1] at g ⊢
   by_cases e2:z.k=2
   ·simp only [if_pos e2] at g ⊢;exact g
   ·simp only [if_neg e2] at g ⊢
    by_cases e4:z.k=4
    ·simp only [if_pos e4] at g ⊢
     obtain ⟨⟨a,ha⟩,b,hb⟩:=g
     exact ⟨a+b,QI4 hz (by omega) hp ha,QI4 hz (by omega) hp hb⟩
    ·simp only [if_neg e4] at g ⊢
     obtain ⟨q,h1,h2,⟨a,ha⟩,b,hb⟩:=g
     exact ⟨a+b,q,h1,h2,QI4 hz (by omega) h1 ha,QI4 hz (by omega) hp hb⟩
 obtain ⟨n,g⟩:=key
 exact ⟨n+1,(QU7 hz n _ hp).2 (.inr ⟨z,h,rfl,g⟩)⟩
structure QJ0 (zs:List qA1) (gs:List GrI):Prop where
 sg:SG gs
 al:∀ r p,1≤p→p≤8→(qJ0 (ofG gs r) p=true↔Has zs r p)
theorem QO0 {zs:List qA1} {a b:List GrI} (ha:QJ0 zs a) (hb:QJ0 zs b):a=b:=by
 refine sg_ext ha.sg hb.sg (fun r=>set_ext (qY6 ha.sg r) (qY6 hb.sg r) (fun p h0 h1=>?_))
 rw [Bool.eq_iff_iff,ha.al r p h0 h1,hb.al r p h0 h1]
theorem allG_of {zs:List qA1} (hz:∀ z∈zs,okR z) {gs:List GrI} (hg:SG gs) (hs:∀ r p,1≤p→qJ0 (ofG gs r) p=true→Has zs r p) (hc:∀ z∈zs,∀ p,1≤p→qJ0 (byF (ofG gs) z) p=true→qJ0 (ofG gs (z.ho,z.hn)) p=true):QJ0 zs gs:=by
 refine ⟨hg,fun r p h0 _=>⟨hs r p h0,fun g=>?_⟩⟩
 refine has_least (m:=fun r p=>qJ0 (ofG gs r) p=true) hz (fun z h p hp q=>?_) h0 g
 exact hc z h p hp ((byF_has (qY6 hg) (hz z h) hp).2 q)
theorem allG_it {zs:List qA1} (hz:∀ z∈zs,okR z) {n:Nat} (h:qO8 zs (itG zs n)=itG zs n):QJ0 zs (itG zs n):=by
 refine allG_of hz (QH0 hz n) (fun r p _ q=>⟨n,q⟩) (fun z hzz p _ q=>?_)
 have:=(has_step hz (QH0 hz n) (z.ho,z.hn) p).2 (.inr ⟨z,hzz,rfl,q⟩)
 rw [h] at this
 exact this
theorem it_sum {zs:List qA1} (hz:∀ z∈zs,okR z):∀ (n:Nat),(∀ k,k < n→qO8 zs (itG zs k)≠itG zs k)→(n:Int)≤qU1 (itG zs n)
 | 0,_=>by simp [itG,qU1]
 | n+1,h=>by
  have i:=it_sum hz n (fun k hk=>h k (by omega))
  have s:=sum_step hz (QH0 hz n)
  have : qU1 (itG zs n)≠qU1 (itG zs (n+1)):=fun e=>h n (by omega) (s.2 e)
  have:=s.1
  simp only [itG] at *
  omega
theorem it_bd {zs:List qA1} (hz:∀ z∈zs,okR z) {n:Nat} (h:∀ k,k < n→qO8 zs (itG zs k)≠itG zs k):n≤10200:=by
 have:=it_sum hz n h
 have:=(sum_le (QH0 hz n)).2
 omega
theorem it_ends {zs:List qA1} (hz:∀ z∈zs,okR z):∃ n,n≤10200∧qO8 zs (itG zs n)=itG zs n:=by
 refine Classical.byContradiction (fun hno=>?_)
 have:=it_bd (zs:=zs) hz (n:=10201) (fun k hk e=>hno ⟨k,by omega,e⟩)
 omega

theorem okR_of {r:qA1} (h:qA8 r=0):okR r∧1≤r.k∧r.k≤4:=by
 unfold qA8 at h
 by_cases hk:1≤r.k∧r.k≤4
 ·rw [if_neg (fun q=>q hk)] at h
  cases hr:qD3 r.ho r.hn
  ·simp [hr] at h
  ·refine ⟨⟨hr,fun e=>?_⟩,hk⟩
   rw [if_neg (by rw [hr];simp)] at h
   cases hb:QN8 r
   ·simp [hb] at h
   ·cases hh:QE4 r
    ·simp [hb,hh] at h
    ·unfold QE4 at hh
     rw [if_pos e] at hh
     simpa [qU5] using hh
 ·rw [if_pos hk] at h;cases h
theorem QK4 {zs:List qA1}:∀ k,qL3 zs k=0→∀ j z,j < k→zs[j]? = some z→qA8 z=0
 | 0,_,j,_,hj,_=>by omega
 | k+1,h,j,z,hj,hz=>by
  have h0:qL3 zs k=0:=by
   by_cases q:qL3 zs k=0
   ·exact q
   ·exact absurd (qR6 zs k (k+1) _ q rfl (by omega)) (by rw [h];exact fun e=>q e.symm)
  by_cases e:j=k
  ·subst e
   by_cases q:qA8 z=0
   ·exact q
   ·rw [QD6 zs j z hz h0 q] at h;exact h
  ·exact QK4 k h0 j z (by omega) hz
theorem pol_ok {zs:List qA1} (h:qC7 zs=0):zs.length≤16∧∀ z∈zs,okR z∧1≤z.k∧z.k≤4:=by
 unfold qC7 at h
 split at h
 ·cases h
 ·refine ⟨by omega,fun z hz=>?_⟩
  obtain ⟨j,hj⟩:=List.mem_iff_getElem?.1 hz
  have hl:j < zs.length:=by
   by_cases q:j < zs.length
   ·exact q
   ·rw [List.getElem?_eq_none (by omega)] at hj;cases hj
  exact okR_of (QK4 _ h j z hl hj)

theorem QD8 {α:Type} [DecidableEq α]:∀ (l L:List α),l.Nodup→(∀ x∈l,x∈L)→l.length≤L.length
 | [],_,_,_=>by simp
 | x::xs,L,h,hs=>by
  have h':=List.nodup_cons.1 h
  have hx:x∈L:=hs x (by simp)
  have:=QD8 xs (L.erase x) h'.2 (fun y hy=>(List.mem_erase_of_ne (fun e=>h'.1 (by rw [← e];exact hy))).2 (hs y (by simp [hy])))
  rw [List.length_erase_of_mem hx] at this
  have : 0 < L.length:=List.length_pos_of_mem hx
  simp only [List.length_cons]
  omega
theorem sum_mono {α:Type} (f g:α→Int):∀ (l:List α),(∀ x∈l,f x≤g x)→(l.map f).sum≤(l.map g).sum
 | [],_=>by simp
 | x::xs,h=>by
  have:=sum_mono f g xs (fun y hy=>h y (by simp [hy]))
  have:=h x (by simp)
  simp only [List.map_cons,List.sum_cons]
  omega
theorem QQ1 {α:Type} (f g:α→Int) (a:α):∀ (l:List α),(∀ x∈l,f x≤g x)→a∈l→f a < g a→(l.map f).sum < (l.map g).sum
 | [],_,h,_=>by cases h
 | x::xs,h,ha,hlt=>by
  have hx:=h x (by simp)
  have hm:=sum_mono f g xs (fun y hy=>h y (by simp [hy]))
  simp only [List.map_cons,List.sum_cons]
  rcases List.mem_cons.1 ha with rfl | ha'
  ·omega
  ·have:=QQ1 f g a xs (fun y hy=>h y (by simp [hy])) ha' hlt
   omega
def QW7:List RoI:=(List.range 8).flatMap (fun (i:Nat)=>(List.range 5).map (fun (j:Nat)=>((((i:Int)+1),((j:Int)+1)):RoI)))
theorem allRo_len:QW7.length=40:=by decide
theorem QL3 {r:RoI} (h:qD3 r.1 r.2=true):r∈QW7:=by
 obtain ⟨a,b⟩:=r
 simp [qD3,qU5,qV6] at h
 unfold QW7
 rw [List.mem_flatMap]
 obtain ⟨⟨h1,h2⟩,h3,h4⟩:=h
 obtain ⟨i,rfl⟩:∃ i:Nat,a=(i:Int)+1:=⟨(a - 1).toNat,by omega⟩
 obtain ⟨j,rfl⟩:∃ j:Nat,b=(j:Int)+1:=⟨(b - 1).toNat,by omega⟩
 have hi:i < 8:=by omega
 have hj:j < 5:=by omega
 exact ⟨i,List.mem_range.2 hi,List.mem_map.2 ⟨j,List.mem_range.2 hj,rfl⟩⟩
structure FN (f:RoI→Int):Prop where
 st:∀ r,qL2 (f r)
 ro:∀ r,f r≠0→qD3 r.1 r.2=true
def zeroF:RoI→Int:=fun _=>0
def qS6 (f:RoI→Int) (r:RoI) (s:Int):RoI→Int:=fun r'=>if r'=r then orI (f r) s else f r'
theorem fn_zero:FN zeroF:=⟨fun _=>⟨Int.le_refl _,show (0:Int)≤255 by decide⟩,fun _ h=>absurd rfl h⟩
theorem fn_give {f:RoI→Int} (h:FN f) {r:RoI} (hr:qD3 r.1 r.2=true) {s:Int} (hs:qL2 s):FN (qS6 f r s):=by
 refine ⟨fun r'=>?_,fun r' hn=>?_⟩
 ·unfold qS6
  split
  ·exact QZ1 (h.st _) hs
  ·exact h.st _
 ·unfold qS6 at hn
  split at hn
  ·rename_i e;rw [e];exact hr
  ·exact h.ro _ hn
theorem or_same {a b:Int} (ha:qL2 a) (hb:qL2 b):orI a b=a↔∀ p,1≤p→qJ0 b p=true→qJ0 a p=true:=by
 constructor
 ·intro e p _ q
  have:=QM6 ha hb p
  rw [e,q,Bool.or_true] at this
  exact this
 ·intro h
  refine set_ext (QZ1 ha hb) ha (fun p h0 _=>?_)
  rw [QM6 ha hb]
  cases q:qJ0 b p
  ·simp
  ·rw [h p h0 q];rfl
theorem QM7 {f:RoI→Int} (h:FN f) (r:RoI) {s:Int} (hs:qL2 s) (r':RoI) (p:Int):qJ0 (qS6 f r s r') p=true↔qJ0 (f r') p=true∨(r'=r∧qJ0 s p=true):=by
 unfold qS6
 split
 ·rename_i e
  subst e
  rw [QM6 (h.st _) hs]
  simp
 ·rename_i e
  simp [e]
theorem give_same {f:RoI→Int} {r:RoI} {s:Int} (e:orI (f r) s=f r):qS6 f r s=f:=by
 funext r'
 unfold qS6
 split
 ·rename_i q;subst q;exact e
 ·rfl
theorem sg_keys {f:RoI→Int} (hf:FN f) {rs:List RoI} (hs:SS rs) (hm:∀ r,r∈rs↔f r≠0):SG (rs.map (fun r=>(r,f r)))∧ofG (rs.map (fun r=>(r,f r)))=f:=by
 have h1:SG (rs.map (fun r=>(r,f r))):=by
  refine ⟨List.pairwise_map.2 hs,fun x hx=>?_,fun x hx=>?_⟩
  ·obtain ⟨r,hr,rfl⟩:=List.mem_map.1 hx
   exact hf.ro r ((hm r).1 hr)
  ·obtain ⟨r,hr,rfl⟩:=List.mem_map.1 hx
   have:=(hm r).1 hr
   have:=hf.st r
   unfold qL2 at this
   show 1≤f r∧f r≤255
   omega
 refine ⟨h1,funext fun r=>?_⟩
 by_cases q:f r=0
 ·rw [q]
  refine ofG_none (fun x hx e=>?_)
  obtain ⟨r',hr,rfl⟩:=List.mem_map.1 hx
  exact (hm r').1 hr (by rw [show r'=r from e];exact q)
 ·exact ofG_mem h1 (x:=(r,f r)) (List.mem_map.2 ⟨r,(hm r).2 q,rfl⟩)
def sumF (f:RoI→Int):Int:=(QW7.map f).sum
theorem sumF_bd {f:RoI→Int} (h:FN f):0≤sumF f∧sumF f≤10200:=by
 have e1:∀ (l:List RoI),0≤(l.map f).sum∧(l.map f).sum≤255 * l.length:=by
  intro l
  induction l with
  | nil=>simp
  | cons x xs ih =>
   have:=h.st x
   unfold qL2 at this
   simp only [List.map_cons,List.sum_cons,List.length_cons]
   omega
 have:=e1 QW7
 rw [allRo_len] at this
 unfold sumF
 omega
theorem sumF_give {f:RoI→Int} (h:FN f) {r:RoI} (hr:qD3 r.1 r.2=true) {s:Int} (hs:qL2 s) (hn:orI (f r) s≠f r):sumF f < sumF (qS6 f r s):=by
 refine QQ1 f _ r QW7 (fun x _=>?_) (QL3 hr) ?_
 ·unfold qS6
  split
  ·rename_i e;subst e;exact or_le (h.st _) hs
  ·exact Int.le_refl _
 ·have:=or_le (h.st r) hs
  unfold qS6
  rw [if_pos rfl]
  omega
def qH1 (z:qA1) (h:RoI):Bool:=decide (z.k=3∧z.tn=h.2) || decide (h∈bodyR z)
theorem QZ9 {f g:RoI→Int} {n:Int} (h:∀ y,f (y,n)=g (y,n)) (ys:List Int) (k:Nat):qL7 f n ys k=qL7 g n ys k:=by
 have : (fun (o:Int) (y:Int)=>orI o (f (y,n)))=fun o y=>orI o (g (y,n)):=by
  funext o y
  rw [h y]
 unfold qL7
 rw [this]
theorem by_still {f:RoI→Int} {z:qA1} {h:RoI} {s:Int} (hk:1≤z.k∧z.k≤4) (hl:qH1 z h=false):byF (qS6 f h s) z=byF f z:=by
 unfold qH1 at hl
 rw [Bool.or_eq_false_iff] at hl
 obtain ⟨h1,h2⟩:=hl
 have h1:=of_decide_eq_false h1
 have h2:=of_decide_eq_false h2
 unfold bodyR at h2
 have off:∀ r,r≠h→qS6 f h s r=f r:=fun r e=>if_neg e
 unfold byF
 by_cases e1:z.k=1
 ·simp only [if_pos e1]
 ·simp only [if_neg e1] at h2 ⊢
  by_cases e2:z.k=2
  ·simp only [if_pos e2]
   rw [if_neg (by omega)] at h2
   exact off _ (fun e=>h2 (by rw [e];simp))
  ·simp only [if_neg e2]
   by_cases e4:z.k=4
   ·simp only [if_pos e4] at h2 ⊢
    rw [off _ (fun e=>h2 (by rw [e];simp)),off _ (fun e=>h2 (by rw [e];simp))]
   ·simp only [if_neg e4] at h2 ⊢
    have e3:z.k=3:=by omega
    rw [off (z.oo,z.on) (fun e=>h2 (by rw [e];simp))]
    exact QZ9 (fun y=>off _ (fun e=>h1 ⟨e3,by rw [← e]⟩)) _ _
def qF3 (zs:List qA1) (h:RoI) (ws:List qA1) (k:Nat):List qA1:=(zs.take k).foldl (fun o z=>if qH1 z h=true∧z ∉ o then o++[z] else o) ws
theorem QB5 {zs:List qA1} {k:Nat} {z:qA1} (e:zs[k]? = some z) (h:RoI) (ws:List qA1):qF3 zs h ws (k+1)=if qH1 z h=true∧z ∉ qF3 zs h ws k then qF3 zs h ws k++[z] else qF3 zs h ws k:=by
 have hk:k < zs.length:=by
  by_cases q:k < zs.length
  ·exact q
  ·rw [List.getElem?_eq_none (by omega)] at e;cases e
 have e:zs[k]=z:=by rw [List.getElem?_eq_getElem hk] at e;exact Option.some.inj e
 rw [qF3,List.take_succ_eq_append_getElem hk,List.foldl_append,e]
 rfl
theorem QC9 (h:RoI) (all:List qA1):∀ (zs ws:List qA1),(∀ z∈zs,z∈all)→(∀ z∈ws,z∈all)→ws.Nodup →
  let o:=zs.foldl (fun o z=>if qH1 z h=true∧z ∉ o then o++[z] else o) ws
  o.Nodup∧(∀ z∈o,z∈all)∧(∀ z∈ws,z∈o)∧(∀ z∈zs,qH1 z h=true→z∈o)
 | [],ws,_,hs,hn=>⟨hn,hs,fun _ q=>q,fun _ q=>by cases q⟩
 | x::xs,ws,hz,hs,hn=>by
  have hx:x∈all:=hz x (by simp)
  by_cases q:qH1 x h=true∧x ∉ ws
  ·have hn':(ws++[x]).Nodup:=List.nodup_append.2 ⟨hn,by simp,fun a ha b hb e=>q.2 (by simp at hb;rw [← hb,← e];exact ha)⟩
   have hs':∀ z∈ws++[x],z∈all:=fun z hzz=>by
    rcases List.mem_append.1 hzz with q | q
    ·exact hs z q
    ·simp at q;rw [q];exact hx
   obtain ⟨i1,i2,i3,i4⟩:=QC9 h all xs (ws++[x]) (fun z hzz=>hz z (by simp [hzz])) hs' hn'
   rw [List.foldl_cons,if_pos q]
   refine ⟨i1,i2,fun z hzz=>i3 z (by simp [hzz]),fun z hzz hl=>?_⟩
   rcases List.mem_cons.1 hzz with rfl | hzz'
   ·exact i3 z (by simp)
   ·exact i4 z hzz' hl
  ·obtain ⟨i1,i2,i3,i4⟩:=QC9 h all xs ws (fun z hzz=>hz z (by simp [hzz])) hs hn
   rw [List.foldl_cons,if_neg q]
   refine ⟨i1,i2,i3,fun z hzz hl=>?_⟩
   rcases List.mem_cons.1 hzz with rfl | hzz'
   ·exact i3 z (Classical.byContradiction fun e=>q ⟨hl,e⟩)
   ·exact i4 z hzz' hl
structure Work (zs:List qA1) (f:RoI→Int) (ws:List qA1):Prop where
 fn:FN f
 has:∀ r p,1≤p→qJ0 (f r) p=true→Has zs r p
 sub:∀ z∈ws,z∈zs
 nd:ws.Nodup
 done:∀ z∈zs,z ∉ ws→∀ p,1≤p→qJ0 (byF f z) p=true→qJ0 (f (z.ho,z.hn)) p=true
theorem Work.len {zs:List qA1} {f:RoI→Int} {ws:List qA1} (h:Work zs f ws):ws.length≤zs.length:=QD8 _ _ h.nd h.sub
theorem work_start {zs:List qA1} (hn:zs.Nodup):Work zs zeroF zs :=
 ⟨fn_zero,fun r p _ q=>by simp [zeroF,QE3] at q,fun _ q=>q,hn,fun z h1 h2=>absurd h1 h2⟩
theorem work_stay {zs:List qA1} {f:RoI→Int} {z:qA1} {ws:List qA1} (h:Work zs f (z::ws)) (hok:okR z) (e:orI (f (z.ho,z.hn)) (byF f z)=f (z.ho,z.hn)):Work zs f ws:=by
 refine ⟨h.fn,h.has,fun x hx=>h.sub x (by simp [hx]),(List.nodup_cons.1 h.nd).2,fun x h1 h2 p hp q=>?_⟩
 by_cases ex:x=z
 ·subst ex
  exact (or_same (h.fn.st _) (QN6 h.fn.st hok)).1 e p hp q
 ·exact h.done x h1 (fun m=>by rcases List.mem_cons.1 m with m | m;exact ex m;exact h2 m) p hp q
theorem work_grow {zs:List qA1} (hz:∀ z∈zs,okR z∧1≤z.k∧z.k≤4) {f:RoI→Int} {z:qA1} {ws:List qA1} (h:Work zs f (z::ws)) :
  Work zs (qS6 f (z.ho,z.hn) (byF f z)) (qF3 zs (z.ho,z.hn) ws zs.length):=by
 have hok:∀ z∈zs,okR z:=fun z q=>(hz z q).1
 have hzz:z∈zs:=h.sub z (by simp)
 have hs:=QN6 h.fn.st (hok z hzz)
 have hf:=fn_give h.fn (r:=(z.ho,z.hn)) (hok z hzz).1 hs
 have hnd:=List.nodup_cons.1 h.nd
 have w:=QC9 (z.ho,z.hn) zs zs ws (fun _ q=>q) (fun x hx=>h.sub x (by simp [hx])) hnd.2
 have ew:qF3 zs (z.ho,z.hn) ws zs.length=zs.foldl (fun o x=>if qH1 x (z.ho,z.hn)=true∧x ∉ o then o++[x] else o) ws:=by
  unfold qF3
  rw [List.take_length]
 rw [ew]
 obtain ⟨w1,w2,w3,w4⟩:=w
 refine ⟨hf,fun r p hp q=>?_,w2,w1,fun x hx hx2 p hp q=>?_⟩
 ·rcases (QM7 h.fn _ hs r p).1 q with q | ⟨e,q⟩
  ·exact h.has r p hp q
  ·rw [e]
   exact gives_has hok hzz hp (QS0 (fun r p hp q=>h.has r p hp q) hp ((byF_has h.fn.st (hok z hzz) hp).1 q))
 ·have hl:qH1 x (z.ho,z.hn)=false:=by
   cases e:qH1 x (z.ho,z.hn)
   ·rfl
   ·exact absurd (w4 x hx e) hx2
  rw [by_still (hz x hx).2 hl] at q
  by_cases ex:x=z
  ·subst ex
   exact (QM7 h.fn _ hs _ p).2 (.inr ⟨rfl,q⟩)
  ·refine (QM7 h.fn _ hs _ p).2 (.inl (h.done x hx (fun m=>?_) p hp q))
   rcases List.mem_cons.1 m with m | m
   ·exact ex m
   ·exact hx2 (w3 x m)
theorem work_end {zs:List qA1} (hz:∀ z∈zs,okR z) {f:RoI→Int} (h:Work zs f []) {gs:List GrI} (hg:SG gs) (e:ofG gs=f):QJ0 zs gs:=by
 subst e
 exact allG_of hz hg h.has (fun z hzz p hp q=>h.done z hzz (by simp) p hp q)

end Go.Proofs.YtlhgjackapdmbaaGreatDoor
