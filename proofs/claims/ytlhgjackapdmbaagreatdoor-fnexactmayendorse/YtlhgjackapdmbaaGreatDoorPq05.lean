/- Contracts. -/
import Derived.Test.YtlhgjackapdmbaaGreatDoorPq02
import Derived.Test.YtlhgjackapdmbaaGreatDoorPq03
namespace Go.Proofs.YtlhgjackapdmbaaGreatDoor
set_option maxRecDepth 100000
set_option maxHeartbeats 8000000
open Go.RowKit
set_option linter.unusedVariables false
set_option linter.unusedSimpArgs false

abbrev RoI:=Int × Int
def ltR (a b:RoI):Bool:=decide (a.1 < b.1∨(a.1=b.1∧a.2 < b.2))
theorem qN2 (a:RoI):ltR a a=false:=by simp [ltR]
theorem QC2 {a b c:RoI} (h:ltR a b=true) (k:ltR b c=true):ltR a c=true:=by
 simp [ltR] at *;omega
theorem ltR_total {a b:RoI} (h:ltR a b=false) (hne:a≠b):ltR b a=true:=by
 obtain ⟨a1,a2⟩:=a
 obtain ⟨b1,b2⟩:=b
 have hne':¬ (a1=b1∧a2=b2):=fun e=>hne (by rw [e.1,e.2])
 simp [ltR] at *;omega
def SS (zs:List RoI):Prop:=zs.Pairwise (fun a b=>ltR a b=true)
theorem QV4:∀ (a b:List RoI),SS a→SS b→(∀ x,x∈a↔x∈b)→a=b
 | [],[],_,_,_=>rfl
 | [],y::ys,_,_,h=>absurd ((h y).2 (by simp)) (by simp)
 | x::xs,[],_,_,h=>absurd ((h x).1 (by simp)) (by simp)
 | x::xs,y::ys,ha,hb,h=>by
  have ha':=List.pairwise_cons.1 ha
  have hb':=List.pairwise_cons.1 hb
  have e:x=y:=by
   rcases List.mem_cons.1 ((h x).1 (by simp)) with e | e
   ·exact e
   ·rcases List.mem_cons.1 ((h y).2 (by simp)) with e2 | e2
    ·exact e2.symm
    ·have h1:=hb'.1 x e
     have h2:=ha'.1 y e2
     have:=QC2 h1 h2
     rw [qN2] at this
     cases this
  subst e
  rw [QV4 xs ys ha'.2 hb'.2 (fun z=>?_)]
  constructor
  ·intro hz
   rcases List.mem_cons.1 ((h z).1 (by simp [hz])) with e | e
   ·subst e
    have:=ha'.1 z hz
    rw [qN2] at this
    cases this
   ·exact e
  ·intro hz
   rcases List.mem_cons.1 ((h z).2 (by simp [hz])) with e | e
   ·subst e
    have:=hb'.1 z hz
    rw [qN2] at this
    cases this
   ·exact e
def bodyR (r:qA0):List RoI:=if r.k=1 then [] else if r.k=4 then [(r.oo,r.on),(r.to,r.tn)] else [(r.oo,r.on)]
def rawR (r:qA0):List RoI:=(r.ho,r.hn)::bodyR r
def rawTo (zs:List qA0) (k:Nat):List RoI:=(zs.take k).flatMap rawR
def QA8:List RoI→List Value
 | []=>[]
 | p::ps => .int .i64 p.1 :: .int .i64 p.2::QA8 ps
theorem QY9:∀ (a:List RoI) (k:Nat) (p:RoI),a[k]? = some p→(QA8 a)[k * 2]? = some (.int .i64 p.1)
 | [],_,_,h=>by simp at h
 | q::qs,0,p,h=>by simp at h;subst h;rfl
 | q::qs,k+1,p,h=>by
  have:=QY9 qs k p (by simpa using h)
  rw [show (k+1) * 2=k * 2+1+1 by omega]
  simpa [QA8] using this
theorem QY8:∀ (a:List RoI) (k:Nat) (p:RoI),a[k]? = some p→(QA8 a)[k * 2+1]? = some (.int .i64 p.2)
 | [],_,_,h=>by simp at h
 | q::qs,0,p,h=>by simp at h;subst h;rfl
 | q::qs,k+1,p,h=>by
  have:=QY8 qs k p (by simpa using h)
  rw [show (k+1) * 2+1=k * 2+1+1+1 by omega]
  simpa [QA8] using this

theorem QC0 (a b:Nat) (ha:a < 256) (hb:b < 256):bits .or .i64 (a:Int) (b:Int)=((a ||| b:Nat):Int):=by
 have hx:a ||| b < 2 ^ 8:=Nat.or_lt_two_pow (by omega) (by omega)
 have ea:(BitVec.ofInt 64 (a:Int)).toNat=a:=by rw [BitVec.ofInt_natCast,BitVec.toNat_ofNat];exact Nat.mod_eq_of_lt (by omega)
 have eb:(BitVec.ofInt 64 (b:Int)).toNat=b:=by rw [BitVec.ofInt_natCast,BitVec.toNat_ofNat];exact Nat.mod_eq_of_lt (by omega)
 show IntKind.i64.wrap ((BitVec.ofInt 64 (a:Int) ||| BitVec.ofInt 64 (b:Int)).toNat:Int)=_
 rw [BitVec.toNat_or,ea,eb,IntKind.wrap_i64]
 omega
theorem QM0 (a b:Nat) (ha:a < 256) (hb:b < 256):bits .and .i64 (a:Int) (b:Int)=((a &&& b:Nat):Int):=by
 have hx:a &&& b < 2 ^ 8:=Nat.and_lt_two_pow _ (by omega)
 have ea:(BitVec.ofInt 64 (a:Int)).toNat=a:=by rw [BitVec.ofInt_natCast,BitVec.toNat_ofNat];exact Nat.mod_eq_of_lt (by omega)
 have eb:(BitVec.ofInt 64 (b:Int)).toNat=b:=by rw [BitVec.ofInt_natCast,BitVec.toNat_ofNat];exact Nat.mod_eq_of_lt (by omega)
 show IntKind.i64.wrap ((BitVec.ofInt 64 (a:Int) &&& BitVec.ofInt 64 (b:Int)).toNat:Int)=_
 rw [BitVec.toNat_and,ea,eb,IntKind.wrap_i64]
 omega
def qJ8 (s:Int):Prop:=0≤s∧s≤255
abbrev orI (a b:Int):Int:=bits .or .i64 a b
abbrev andI (a b:Int):Int:=bits .and .i64 a b
theorem QW6 {a b:Int} (ha:qJ8 a) (hb:qJ8 b):qJ8 (orI a b):=by
 obtain ⟨A,rfl⟩:=Int.eq_ofNat_of_zero_le ha.1
 obtain ⟨B,rfl⟩:=Int.eq_ofNat_of_zero_le hb.1
 have h1:=ha.2
 have h2:=hb.2
 have hx:A ||| B < 2 ^ 8:=Nat.or_lt_two_pow (by omega) (by omega)
 rw [orI,QC0 A B (by omega) (by omega)]
 exact ⟨by omega,by omega⟩
theorem and_set {a b:Int} (ha:qJ8 a) (hb:qJ8 b):qJ8 (andI a b):=by
 obtain ⟨A,rfl⟩:=Int.eq_ofNat_of_zero_le ha.1
 obtain ⟨B,rfl⟩:=Int.eq_ofNat_of_zero_le hb.1
 have h1:=ha.2
 have h2:=hb.2
 have hx:A &&& B < 2 ^ 8:=Nat.and_lt_two_pow _ (by omega)
 rw [andI,QM0 A B (by omega) (by omega)]
 exact ⟨by omega,by omega⟩
theorem QK8 {a b:Int} (ha:qJ8 a) (hb:qJ8 b) (p:Int):qH9 (orI a b) p=(qH9 a p || qH9 b p):=by
 obtain ⟨A,rfl⟩:=Int.eq_ofNat_of_zero_le ha.1
 obtain ⟨B,rfl⟩:=Int.eq_ofNat_of_zero_le hb.1
 have h1:=ha.2
 have h2:=hb.2
 rw [orI,QC0 A B (by omega) (by omega)]
 simp [qH9]
theorem hasI_and {a b:Int} (ha:qJ8 a) (hb:qJ8 b) (p:Int):qH9 (andI a b) p=(qH9 a p&&qH9 b p):=by
 obtain ⟨A,rfl⟩:=Int.eq_ofNat_of_zero_le ha.1
 obtain ⟨B,rfl⟩:=Int.eq_ofNat_of_zero_le hb.1
 have h1:=ha.2
 have h2:=hb.2
 rw [andI,QM0 A B (by omega) (by omega)]
 simp [qH9]
theorem QC6 (p:Int):qH9 0 p=false:=by simp [qH9]
theorem set_ext {a b:Int} (ha:qJ8 a) (hb:qJ8 b) (h:∀ p,1≤p→p≤8→qH9 a p=qH9 b p):a=b:=by
 obtain ⟨A,rfl⟩:=Int.eq_ofNat_of_zero_le ha.1
 obtain ⟨B,rfl⟩:=Int.eq_ofNat_of_zero_le hb.1
 have h1:=ha.2
 have h2:=hb.2
 have e:A=B:=by
  apply Nat.eq_of_testBit_eq
  intro i
  by_cases q:i < 8
  ·have:=h ((i:Int)+1) (by omega) (by omega)
   simpa [qH9] using this
  ·have hi:256≤2 ^ i:=by
    have : 2 ^ 8≤2 ^ i:=Nat.pow_le_pow_right (by omega) (by omega)
    omega
   rw [Nat.testBit_lt_two_pow (by omega),Nat.testBit_lt_two_pow (by omega)]
 rw [e]
theorem or_le {a b:Int} (ha:qJ8 a) (hb:qJ8 b):a≤orI a b:=by
 obtain ⟨A,rfl⟩:=Int.eq_ofNat_of_zero_le ha.1
 obtain ⟨B,rfl⟩:=Int.eq_ofNat_of_zero_le hb.1
 have h1:=ha.2
 have h2:=hb.2
 rw [orI,QC0 A B (by omega) (by omega)]
 have : A≤A ||| B:=Nat.left_le_or
 omega
theorem or_pos {a b:Int} (ha:qJ8 a) (hb:qJ8 b) (h:1≤b):1≤orI a b:=by
 obtain ⟨A,rfl⟩:=Int.eq_ofNat_of_zero_le ha.1
 obtain ⟨B,rfl⟩:=Int.eq_ofNat_of_zero_le hb.1
 have h1:=ha.2
 have h2:=hb.2
 rw [orI,QC0 A B (by omega) (by omega)]
 have : B≤A ||| B:=Nat.right_le_or
 omega
theorem bit_set {p:Int} (h0:1≤p) (h1:p≤8):qJ8 (bitI p):=by
 have hi:2 ^ (p - 1).toNat≤2 ^ 7:=Nat.pow_le_pow_right (by omega) (by omega)
 unfold bitI qJ8
 generalize 2 ^ (p - 1).toNat=n at *
 omega
theorem hasI_bit {p q:Int} (h0:1≤p) (k0:1≤q):qH9 (bitI p) q=decide (q=p):=by
 unfold bitI qH9
 rw [Int.toNat_natCast,Nat.testBit_two_pow]
 by_cases e:q=p
 ·subst e;simp
 ·rw [decide_eq_false e,decide_eq_false]
  omega
abbrev GrI:=RoI × Int
def ofG:List GrI→RoI→Int
 | [],_=>0
 | x::xs,r=>if x.1=r then x.2 else ofG xs r
def QG6:List GrI→RoI→Int→List GrI
 | [],r,s=>[(r,s)]
 | x::xs,r,s=>if x.1=r then (r,orI x.2 s)::xs else if ltR r x.1=true then (r,s)::x::xs else x::QG6 xs r s
structure SG (gs:List GrI):Prop where
 up:gs.Pairwise (fun a b=>ltR a.1 b.1=true)
 ro:∀ x∈gs,qC8 x.1.1 x.1.2=true
 st:∀ x∈gs,1≤x.2∧x.2≤255
theorem sg_nil:SG []:=⟨List.Pairwise.nil,fun _ h=>by simp at h,fun _ h=>by simp at h⟩
theorem SG.tail {x:GrI} {xs:List GrI} (h:SG (x::xs)):SG xs:=⟨(List.pairwise_cons.1 h.up).2,fun y hy=>h.ro y (by simp [hy]),fun y hy=>h.st y (by simp [hy])⟩
theorem qX1 {gs:List GrI} (h:SG gs) (r:RoI):qJ8 (ofG gs r):=by
 induction gs with
 | nil=>exact ⟨by simp [ofG],by simp [ofG]⟩
 | cons x xs ih =>
  unfold ofG
  split
  ·have:=h.st x (by simp)
   exact ⟨by omega,by omega⟩
  ·exact ih h.tail
theorem ofG_none {gs:List GrI} {r:RoI} (h:∀ x∈gs,x.1≠r):ofG gs r=0:=by
 induction gs with
 | nil=>rfl
 | cons x xs ih =>
  unfold ofG
  rw [if_neg (h x (by simp))]
  exact ih (fun y hy=>h y (by simp [hy]))
theorem ofG_mem {gs:List GrI} (h:SG gs) {x:GrI} (hx:x∈gs):ofG gs x.1=x.2:=by
 induction gs with
 | nil=>cases hx
 | cons y ys ih =>
  unfold ofG
  rcases List.mem_cons.1 hx with rfl | hx'
  ·simp
  ·have:=(List.pairwise_cons.1 h.up).1 x hx'
   rw [if_neg (fun e=>by rw [e,qN2] at this;cases this)]
   exact ih h.tail hx'
theorem ofG_some {gs:List GrI} {r:RoI} (h:ofG gs r≠0):(r,ofG gs r)∈gs:=by
 induction gs with
 | nil=>exact absurd rfl h
 | cons y ys ih =>
  unfold ofG at h ⊢
  split
  ·rename_i e
   rw [← e]
   simp
  ·rename_i e
   rw [if_neg e] at h
   exact List.mem_cons_of_mem _ (ih h)
theorem sg_ext {a b:List GrI} (ha:SG a) (hb:SG b) (h:∀ r,ofG a r=ofG b r):a=b:=by
 have key:∀ {c:List GrI},SG c→∀ r,r∈c.map Prod.fst↔ofG c r≠0:=by
  intro c hc r
  constructor
  ·intro hr
   obtain ⟨x,hx,rfl⟩:=List.mem_map.1 hr
   rw [ofG_mem hc hx]
   have:=hc.st x hx
   omega
  ·intro hr
   exact List.mem_map.2 ⟨_,ofG_some hr,rfl⟩
 have e:a.map Prod.fst=b.map Prod.fst:=by
  refine QV4 _ _ (List.pairwise_map.2 ha.up) (List.pairwise_map.2 hb.up) (fun r=>?_)
  rw [key ha r,key hb r,h r]
 have back:∀ {c:List GrI},SG c→c=(c.map Prod.fst).map (fun r=>(r,ofG c r)):=by
  intro c hc
  rw [List.map_map]
  conv=>lhs;rw [← List.map_id c]
  refine List.map_congr_left (fun x hx=>?_)
  simp [ofG_mem hc hx]
 rw [back ha,back hb,e]
 exact List.map_congr_left (fun r _=>by rw [h r])
theorem insG_lo {gs:List GrI} {r:RoI} {s:Int} {q:RoI} (hq:ltR q r=true) (h:∀ x∈gs,ltR q x.1=true):∀ x∈QG6 gs r s,ltR q x.1=true:=by
 induction gs with
 | nil =>
  intro x hx
  simp [QG6] at hx
  rw [hx];exact hq
 | cons y ys ih =>
  intro x hx
  unfold QG6 at hx
  split at hx
  ·rcases List.mem_cons.1 hx with rfl | hx'
   ·exact hq
   ·exact h x (by simp [hx'])
  ·split at hx
   ·rcases List.mem_cons.1 hx with rfl | hx'
    ·exact hq
    ·exact h x hx'
   ·rcases List.mem_cons.1 hx with rfl | hx'
    ·exact h x (by simp)
    ·exact ih (fun z hz=>h z (by simp [hz])) x hx'
theorem sg_ins {gs:List GrI} (h:SG gs) {r:RoI} {s:Int} (hr:qC8 r.1 r.2=true) (hs:1≤s∧s≤255):SG (QG6 gs r s):=by
 induction gs with
 | nil=>exact ⟨by simp [QG6],fun x hx=>by simp [QG6] at hx;rw [hx];exact hr,fun x hx=>by simp [QG6] at hx;rw [hx];exact hs⟩
 | cons y ys ih =>
  have hp:=List.pairwise_cons.1 h.up
  have hy:=h.st y (by simp)
  unfold QG6
  split
  ·rename_i e
   refine ⟨List.pairwise_cons.2 ⟨fun x hx=>by rw [← e];exact hp.1 x hx,hp.2⟩,fun x hx=>?_,fun x hx=>?_⟩
   ·rcases List.mem_cons.1 hx with rfl | hx'
    ·exact hr
    ·exact h.ro x (by simp [hx'])
   ·rcases List.mem_cons.1 hx with rfl | hx'
    ·exact ⟨or_pos ⟨by omega,by omega⟩ ⟨by omega,by omega⟩ hs.1,(QW6 (a:=y.2) (b:=s) ⟨by omega,by omega⟩ ⟨by omega,by omega⟩).2⟩
    ·exact h.st x (by simp [hx'])
  ·split
   ·rename_i e q
    refine ⟨List.pairwise_cons.2 ⟨fun x hx=>?_,h.up⟩,fun x hx=>?_,fun x hx=>?_⟩
    ·rcases List.mem_cons.1 hx with rfl | hx'
     ·exact q
     ·exact QC2 q (hp.1 x hx')
    ·rcases List.mem_cons.1 hx with rfl | hx'
     ·exact hr
     ·exact h.ro x hx'
    ·rcases List.mem_cons.1 hx with rfl | hx'
     ·exact hs
     ·exact h.st x hx'
   ·rename_i e q
    have i:=ih h.tail
    have q2:ltR y.1 r=true:=ltR_total (by simpa using q) (fun e2=>e e2.symm)
    refine ⟨List.pairwise_cons.2 ⟨insG_lo q2 hp.1,i.up⟩,fun x hx=>?_,fun x hx=>?_⟩
    ·rcases List.mem_cons.1 hx with rfl | hx'
     ·exact h.ro x (by simp)
     ·exact i.ro x hx'
    ·rcases List.mem_cons.1 hx with rfl | hx'
     ·exact h.st x (by simp)
     ·exact i.st x hx'
theorem zero_or {s:Int} (hs:qJ8 s):orI 0 s=s:=by
 obtain ⟨B,rfl⟩:=Int.eq_ofNat_of_zero_le hs.1
 have h2:=hs.2
 have:=QC0 0 B (by omega) (by omega)
 simpa using this
theorem ofG_ins {gs:List GrI} (h:SG gs) {r:RoI} {s:Int} (hs:1≤s∧s≤255) (r':RoI):ofG (QG6 gs r s) r'=if r'=r then orI (ofG gs r) s else ofG gs r':=by
 induction gs with
 | nil =>
  simp only [QG6,ofG]
  by_cases e:r'=r
  ·subst e;simp [zero_or ⟨by omega,hs.2⟩]
  ·rw [if_neg (fun e2=>e e2.symm),if_neg e]
 | cons y ys ih =>
  have hp:=List.pairwise_cons.1 h.up
  unfold QG6
  by_cases e:y.1=r
  ·rw [if_pos e]
   unfold ofG
   by_cases e2:r'=r
   ·subst e2;simp [e]
   ·rw [if_neg (fun q=>e2 q.symm),if_neg e2,if_neg (fun q=>e2 (by rw [← q,e]))]
  ·rw [if_neg e]
   by_cases q:ltR r y.1=true
   ·rw [if_pos q]
    by_cases e2:r'=r
    ·subst e2
     have n:ofG (y::ys) r'=0:=by
      refine ofG_none (fun x hx e3=>?_)
      have : ltR r' x.1=true:=by
       rcases List.mem_cons.1 hx with rfl | hx'
       ·exact q
       ·exact QC2 q (hp.1 x hx')
      rw [e3,qN2] at this
      cases this
     rw [n,if_pos rfl,zero_or ⟨by omega,hs.2⟩]
     simp [ofG]
    ·rw [if_neg e2]
     show ofG ((r,s)::y::ys) r'=_
     rw [ofG,if_neg (fun q=>e2 q.symm)]
   ·rw [if_neg q,ofG,ih h.tail]
    by_cases e2:r'=r
    ·subst e2
     simp [e,ofG]
    ·simp [e2,ofG]
theorem QO3:∀ (l:List Int) (a b:Int),l.Pairwise (· < ·)→(∀ x∈l,a≤x∧x < b)→(l.length:Int)≤max 0 (b - a)
 | [],a,b,_,_=>by simp;omega
 | x::xs,a,b,h,k=>by
  have hp:=List.pairwise_cons.1 h
  have hx:=k x (by simp)
  have:=QO3 xs (x+1) b hp.2 (fun y hy=>⟨by have:=hp.1 y hy;omega,(k y (by simp [hy])).2⟩)
  simp only [List.length_cons]
  omega
theorem QO0 {gs:List GrI} (h:SG gs):gs.length≤40:=by
 have hb:∀ x∈gs,1≤x.1.1∧x.1.1≤8∧1≤x.1.2∧x.1.2≤5:=by
  intro x hx
  have:=h.ro x hx
  simp [qC8,qT1,qU0] at this
  omega
 have:=QO3 (gs.map (fun x=>x.1.1 * 5+x.1.2)) 6 46 (List.pairwise_map.2 (h.up.imp_of_mem (fun {a b} ha hb' q=>?_))) (fun y hy=>?_)
 ·simp at this;omega
 ·have h1:=hb a ha
  have h2:=hb b hb'
  simp [ltR] at q
  omega
 ·obtain ⟨x,hx,rfl⟩:=List.mem_map.1 hy
  have:=hb x hx
  omega
def qS7 (gs:List GrI):Int:=(gs.map Prod.snd).sum
theorem sum_ins {gs:List GrI} (h:SG gs) {r:RoI} {s:Int} (hs:1≤s∧s≤255):qS7 gs≤qS7 (QG6 gs r s)∧(qS7 gs=qS7 (QG6 gs r s)→QG6 gs r s=gs):=by
 induction gs with
 | nil=>simp [qS7,QG6];omega
 | cons y ys ih =>
  have hy:=h.st y (by simp)
  have i:=ih h.tail
  unfold QG6
  by_cases e:y.1=r
  ·rw [if_pos e]
   have:=or_le (a:=y.2) (b:=s) ⟨by omega,by omega⟩ ⟨by omega,by omega⟩
   simp only [qS7,List.map_cons,List.sum_cons]
   refine ⟨by omega,fun q=>?_⟩
   have : orI y.2 s=y.2:=by omega
   rw [this,← e]
  ·rw [if_neg e]
   by_cases q:ltR r y.1=true
   ·rw [if_pos q]
    simp only [qS7,List.map_cons,List.sum_cons]
    exact ⟨by omega,fun q=>by omega⟩
   ·rw [if_neg q]
    simp only [qS7,List.map_cons,List.sum_cons] at i ⊢
    refine ⟨by omega,fun q=>?_⟩
    rw [i.2 (by omega)]
theorem sum_bd {gs:List GrI} (h:∀ x∈gs,1≤x.2∧x.2≤255):0≤qS7 gs∧qS7 gs≤255 * gs.length:=by
 induction gs with
 | nil=>simp [qS7]
 | cons y ys ih =>
  have hy:=h y (by simp)
  have i:=ih (fun x hx=>h x (by simp [hx]))
  simp only [qS7,List.map_cons,List.sum_cons,List.length_cons] at i ⊢
  omega
theorem sum_le {gs:List GrI} (h:SG gs):0≤qS7 gs∧qS7 gs≤10200:=by
 have:=sum_bd h.st
 have:=QO0 h
 omega
def qJ3 (r:RoI) (s:Int) (o:List GrI × Bool) (x:GrI):List GrI × Bool :=
 if x.1=r then (o.1++[(x.1,orI x.2 s)],true)
 else if o.2=false∧ltR r x.1=true then (o.1++[(r,s),x],true)
 else (o.1++[x],o.2)
def qQ1 (gs:List GrI) (r:RoI) (s:Int) (k:Nat):List GrI × Bool:=(gs.take k).foldl (qJ3 r s) ([],false)
theorem QQ2 (gs:List GrI) (r:RoI) (s:Int):qQ1 gs r s 0=([],false):=by simp [qQ1]
theorem QQ3 {gs:List GrI} {k:Nat} {x:GrI} (h:gs[k]? = some x) (r:RoI) (s:Int):qQ1 gs r s (k+1)=qJ3 r s (qQ1 gs r s k) x:=by
 have hk:k < gs.length:=by
  by_cases q:k < gs.length
  ·exact q
  ·rw [List.getElem?_eq_none (by omega)] at h;cases h
 have e:gs[k]=x:=by rw [List.getElem?_eq_getElem hk] at h;exact Option.some.inj h
 rw [qQ1,List.take_succ_eq_append_getElem hk,List.foldl_append,e]
 rfl
def QQ4 (r:RoI) (s:Int) (o:List GrI × Bool):List GrI:=if o.2=true then o.1 else o.1++[(r,s)]
theorem QU4 (r:RoI) (s:Int):∀ (gs o:List GrI),(∀ x∈gs,x.1≠r)→gs.foldl (qJ3 r s) (o,true)=(o++gs,true)
 | [],o,_=>by simp
 | x::xs,o,h=>by
  rw [List.foldl_cons]
  have : qJ3 r s (o,true) x=(o++[x],true):=by simp [qJ3,h x (by simp)]
  rw [this,QU4 r s xs _ (fun y hy=>h y (by simp [hy]))]
  simp
theorem add_fold (r:RoI) (s:Int):∀ (gs o:List GrI),SG gs→QQ4 r s (gs.foldl (qJ3 r s) (o,false))=o++QG6 gs r s
 | [],o,_=>by simp [QQ4,QG6]
 | x::xs,o,h=>by
  have hp:=List.pairwise_cons.1 h.up
  rw [List.foldl_cons]
  by_cases e:x.1=r
  ·have : qJ3 r s (o,false) x=(o++[(r,orI x.2 s)],true):=by simp [qJ3,e]
   rw [this,QU4 r s xs _ (fun y hy q=>by have:=hp.1 y hy;rw [q,e,qN2] at this;cases this)]
   simp [QQ4,QG6,e]
  ·by_cases q:ltR r x.1=true
   ·have : qJ3 r s (o,false) x=(o++[(r,s),x],true):=by simp [qJ3,e,q]
    rw [this,QU4 r s xs _ (fun y hy q2=>by have:=QC2 q (hp.1 y hy);rw [q2,qN2] at this;cases this)]
    simp [QQ4,QG6,e,q]
   ·have : qJ3 r s (o,false) x=(o++[x],false):=by simp [qJ3,e,q]
    rw [this,add_fold r s xs _ h.tail]
    simp [QG6,e,q]
theorem addTo_all {gs:List GrI} (h:SG gs) (r:RoI) (s:Int):QQ4 r s (qQ1 gs r s gs.length)=QG6 gs r s:=by
 rw [qQ1,List.take_length,add_fold r s gs [] h]
 simp

end Go.Proofs.YtlhgjackapdmbaaGreatDoor
