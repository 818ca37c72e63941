/- Contracts. -/
import Derived.Test.YtlhgjackapdmbaaGreatDoorPe45
import Derived.Test.YtlhgjackapdmbaaGreatDoorPe47
import Derived.Test.YtlhgjackapdmbaaGreatDoorPe50
import Derived.Test.YtlhgjackapdmbaaGreatDoorPe49
namespace Go.Proofs.YtlhgjackapdmbaaGreatDoor
set_option maxRecDepth 100000
set_option maxHeartbeats 40000000
open Go.RowKit
set_option linter.unusedVariables false
set_option linter.unusedSimpArgs false

theorem QT3 (E:qI1) (r:qH5) (a:Option Addr) (m cap:Nat) (cs:List qA5) (x:StI) (w:World) (hr:qE7 w r) (hN:qK0 r) (hsm:∀ p,r.la=some p→∃ b0 o0,p=⟨b0,o0,none⟩∧b0 < w.heap.size) (hle:qL6 1048576 r) (hc:qA7 w a m cs) (hcl:qF5 1048576 cs) (hm:m≤1048576) (hEC:qB8 cs=0→qO2 E cs) :
  Calls Tryz.prog 26 #[.agg #[.int .i64 r.i,.int .i64 r.u,.slice r.sa r.sn r.sc,.slice r.la r.ln r.lc],.slice a m cap,.agg #[.int .i64 x.k,.int .i64 x.e,.int .i64 x.f,.int .i64 x.s,.int .i64 x.n]] w fun d w'=>RepA (qJ9 E cs r x) r.i r.u (qI6 r.ss x) (qG5 E r.ss r.ls x) w d w':=by
 obtain ⟨V,hV⟩:∃ V,V=((w.alloc (.cells #[.int .i64 r.i,.int .i64 r.u,.slice r.sa r.sn r.sc,.slice r.la r.ln r.lc] 33)).alloc (.cells #[.int .i64 x.k,.int .i64 x.e,.int .i64 x.f,.int .i64 x.s,.int .i64 x.n] 43)).alloc (.cells #[.int .i64 0,.int .i64 0,.int .i64 0,.slice none 0 0,.slice none 0 0] 47):=⟨_,rfl⟩
 have Z0:Hid (EV w r x V):=by show EV _ _ _ _;rw [hV];exact EV.new w r x
 obtain ⟨k,hk⟩:∃ k,qM3 E cs r=k:=⟨_,rfl⟩
 obtain ⟨S,hS⟩:∃ S,qI6 r.ss x=S:=⟨_,rfl⟩
 obtain ⟨L,hL⟩:∃ L,qG5 E r.ss r.ls x=L:=⟨_,rfl⟩
 obtain ⟨K,hK⟩:∃ K,qJ9 E cs r x=K:=⟨_,rfl⟩
 have HF:Hid (Calls Tryz.prog 33 #[.pointer (some ⟨w.heap.size,0,none⟩),.slice a m cap] V fun d w'=>d = .returned (.int .i64 k)∧Below V.heap.size V w'):=by
  show Calls _ _ _ _ _
  rw [← hk]
  exact l8Fault_c E _ r a m cap cs V Z0.out.rb (hr.below Z0.out.bl) hle (hc.below Z0.out.bl) hcl hm hEC
 have HEN:Hid (k=0→∀ W,EV w r x W→Calls Tryz.prog 49 #[.agg #[.int .i64 r.i,.int .i64 r.u,.slice r.sa r.sn r.sc,.slice r.la r.ln r.lc],.slice a m cap,.agg #[.int .i64 x.k,.int .i64 x.e,.int .i64 x.f,.int .i64 x.s,.int .i64 x.n]] W fun d w'=>EndS r K S L W d w'):=fun q W hW=>by
  obtain ⟨q1,q2⟩:=rep_ok (hk.trans q)
  have c1:=qU0 q1
  have hl:=hc.len
  have p:=QF3 r.sn r.ls (by rw [hr.said.1];exact Nat.le_refl _) q2
  rw [List.take_of_length_le (by rw [hr.said.1];exact Nat.le_refl _)] at p
  have z:=QG3 E r a m cap cs x W (hr.below hW.bl) hN (fun p' e=>by obtain ⟨b0,o0,e1,h1⟩:=hsm p' e;exact ⟨b0,o0,e1,Nat.lt_of_lt_of_le h1 hW.bl.size⟩) (hc.below hW.bl) (hEC q1) (by omega) (by omega) p
  have e:qE1 E r.ss r.ls x=K:=by rw [← hK];unfold qJ9;rw [hk,if_pos q]
  rw [e,hS,hL] at z
  exact z
 have HK3:Hid (k≠0→K=k):=fun q=>by rw [← hK];unfold qJ9;rw [hk,if_neg q]
 rw [hK,hS,hL]
 have hxa:=Z0.out.xa
 clear hk hr hN hsm hle hc hcl hEC hK hS hL hxa
 go_enter Tryz.func26,Tryz.ntmps26
 go_upto_region 1 with fail
 rw [← hV]
 clear hV
 go_wp2_with fail
 refine HF.out.mono ?_
 rintro d w1 ⟨rfl,hb1⟩
 have Z1:=qC8 (Z0.out.below hb1)
 clear hb1 Z0 HF
 by_cases hk:k=0
 ·have HE2:=qC8 (HEN.out hk w1 Z1.out)
  subst hk
  obtain ⟨v0,v1,v2,v3⟩:=Z1.out.rb
  obtain ⟨x0,x1,x2,x3,x4⟩:=Z1.out.xa
  simp only [Nat.zero_add] at x0 x1 x2 x3 x4
  have hvl:w.heap.size < w1.heap.size:=by have:=Z1.out.lt;omega
  have hxl:w.heap.size+1 < w1.heap.size:=by have:=Z1.out.lt;omega
  go_wp2_with fail
  refine HE2.out.mono ?_
  rintro d w2 ⟨hb2,h1,h2⟩
  have Z2:=qC8 (Z1.out.below hb2)
  have hs1:=Z1.out.lt
  have hs0:=Z1.out.bl.size
  clear hb2 Z1 HE2 HEN v0 v1 v2 v3 x0 x1 x2 x3 x4 hvl hxl
  have z0:=Z2.out.rs.1 0 _ rfl
  have z1:=Z2.out.rs.1 1 _ rfl
  have z2:=Z2.out.rs.1 2 _ rfl
  have z3:=Z2.out.rs.1 3 _ rfl
  have z4:=Z2.out.rs.1 4 _ rfl
  have f0:=Z2.out.rs.2 0
  have f1:=Z2.out.rs.2 1
  have f2:=Z2.out.rs.2 2
  have f3:=Z2.out.rs.2 3
  have f4:=Z2.out.rs.2 4
  have hzl:=Z2.out.lt
  by_cases hK0:K=0
  ·obtain ⟨sa,sc,la,lc,rfl,ho1,ho2⟩:=h2 hK0
   subst hK0
   have O1:=qC8 ho1
   have O2:=qC8 ho2
   clear h1 h2 ho1 ho2
   go_wp2_with fail
   refine bodyPost_ret (v:=.agg #[.int .i64 0,.int .i64 r.i,.int .i64 r.u,.slice sa S.length sc,.slice la L.length lc]) (by simp [results,Tryz.results26,go_sem,z0,z1,z2,z3,z4,hzl]) rfl ?_
   refine ⟨((((Z2.out.bl.setCell (by show w.heap.size≤w.heap.size+2;omega) _).setCell (by show w.heap.size≤w.heap.size+2;omega) _).setCell (by show w.heap.size≤w.heap.size+2;omega) _).setCell (by show w.heap.size≤w.heap.size+2;omega) _).setCell (by show w.heap.size≤w.heap.size+2;omega) _,fun q=>absurd rfl q,fun _=>⟨sa,sc,la,lc,rfl,qA2 (qC5 O1.out hs0) (fun g e=>?_),qA2 (qA9 O2.out hs0) (fun g e=>?_)⟩⟩
   ·obtain ⟨cur,hcc,hgg⟩:=qD4 O1.out e
    rw [Below.heap_setCell _ _ _ _ (by show g≠w.heap.size+2;omega),Below.heap_setCell _ _ _ _ (by show g≠w.heap.size+2;omega),Below.heap_setCell _ _ _ _ (by show g≠w.heap.size+2;omega),Below.heap_setCell _ _ _ _ (by show g≠w.heap.size+2;omega),Below.heap_setCell _ _ _ _ (by show g≠w.heap.size+2;omega)]
   ·obtain ⟨cur,hcc,hgg⟩:=qD2 O2.out e
    rw [Below.heap_setCell _ _ _ _ (by show g≠w.heap.size+2;omega),Below.heap_setCell _ _ _ _ (by show g≠w.heap.size+2;omega),Below.heap_setCell _ _ _ _ (by show g≠w.heap.size+2;omega),Below.heap_setCell _ _ _ _ (by show g≠w.heap.size+2;omega),Below.heap_setCell _ _ _ _ (by show g≠w.heap.size+2;omega)]
  ·obtain rfl:=h1 hK0
   clear h1 h2
   go_wp2_with fail
   refine bodyPost_ret (v:=.agg #[.int .i64 K,.int .i64 0,.int .i64 0,.slice none 0 0,.slice none 0 0]) (by simp [results,Tryz.results26,go_sem,z0,z1,z2,z3,z4,hzl]) rfl ?_
   exact ⟨((((Z2.out.bl.setCell (by show w.heap.size≤w.heap.size+2;omega) _).setCell (by show w.heap.size≤w.heap.size+2;omega) _).setCell (by show w.heap.size≤w.heap.size+2;omega) _).setCell (by show w.heap.size≤w.heap.size+2;omega) _).setCell (by show w.heap.size≤w.heap.size+2;omega) _,fun _=>rfl,fun q=>absurd q hK0⟩
 ·have kb:(k != 0)=true:=by simp [hk]
  have HK4:=qC8 (HK3.out hk)
  have z0:=Z1.out.rs.1 0 _ rfl
  have z1:=Z1.out.rs.1 1 _ rfl
  have z2:=Z1.out.rs.1 2 _ rfl
  have z3:=Z1.out.rs.1 3 _ rfl
  have z4:=Z1.out.rs.1 4 _ rfl
  have f0:=Z1.out.rs.2 0
  have f1:=Z1.out.rs.2 1
  have f2:=Z1.out.rs.2 2
  have f3:=Z1.out.rs.2 3
  have f4:=Z1.out.rs.2 4
  have hzl:=Z1.out.lt
  go_wp2_with fail
  refine bodyPost_ret (v:=.agg #[.int .i64 k,.int .i64 0,.int .i64 0,.slice none 0 0,.slice none 0 0]) (by simp [results,Tryz.results26,go_sem,z0,z1,z2,z3,z4,hzl]) rfl ?_
  rw [HK4.out]
  exact ⟨((((Z1.out.bl.setCell (by show w.heap.size≤w.heap.size+2;omega) _).setCell (by show w.heap.size≤w.heap.size+2;omega) _).setCell (by show w.heap.size≤w.heap.size+2;omega) _).setCell (by show w.heap.size≤w.heap.size+2;omega) _).setCell (by show w.heap.size≤w.heap.size+2;omega) _,fun _=>rfl,fun q=>absurd q hk⟩

theorem qO4.env {cs ds:List qA5} {E:qI1} (h:qO4 cs ds) (hE:qO2 E cs) (hl:qF5 1048576 ds):qO2 E ds:=by
 refine ⟨?_,fun p d hd=>?_⟩
 ·rw [hE.es]
  refine List.ext_getElem? (fun j=>?_)
  rw [List.getElem?_map,List.getElem?_map]
  cases e:ds[j]? with
  | none =>
   have : ds.length≤j:=by simpa using e
   rw [List.getElem?_eq_none (by rw [← h.ln];exact this)]
  | some d =>
   obtain ⟨c,hc,hs⟩:=h.get e
   rw [hc]
   simp [hs.e]
 ·obtain ⟨c,hc,hs⟩:=h.get hd
  obtain ⟨⟨_,_,_,h4⟩,gs,g1,g2,g3⟩:=hE.cf p c hc
  exact ⟨⟨hl.le p d hd,(hl.rc p d hd).1,(hl.rc p d hd).2,(code_same hs).trans h4⟩,gs,by rw [hs.zs];exact g1,fun f s=>by rw [hs.ps];exact g2 f s,by rw [hs.cs];exact g3⟩
theorem QY4 {E:qI1} {cs ds:List qA5} {w:World} {L:Nat} {r y:qH5} (h:qO4 cs ds) (hy:qH3 w L r y):qM3 E ds y=qM3 E cs r:=by
 unfold qM3 qI7 f0C
 rw [h.cfs,h.f0,hy.i,hy.u,hy.sn,hy.ss,hy.ls]
theorem eqCopies {L L':Nat} {r y z:qH5} (w:World) (hy:qH3 w L r y) (hz:qH3 w L' r z) (hl:r.ss.length=r.sn∧r.ls.length=r.ln) (hle:qL6 1048576 r) :
  Calls Tryz.prog 14 #[.agg #[.int .i64 y.i,.int .i64 y.u,.slice y.sa y.sn y.sc,.slice y.la y.ln y.lc],.agg #[.int .i64 z.i,.int .i64 z.u,.slice z.sa z.sn z.sc,.slice z.la z.ln z.lc]] w fun e w'=>e = .returned (.bool true)∧Below w.heap.size w w':=by
 have i1:=hy.isIn hl.1 hl.2
 have i2:=hz.isIn hl.1 hl.2
 have a1:=i1.said
 have a2:=i2.said
 have b1:=i1.locks
 have b2:=i2.locks
 rw [hy.sn,hy.ss] at a1
 rw [hz.sn,hz.ss] at a2
 rw [hy.ln,hy.ls] at b1
 rw [hz.ln,hz.ls] at b2
 rw [hy.i,hz.i,hy.u,hz.u,hy.sn,hz.sn,hy.ln,hz.ln]
 exact QB3 r.i r.u y.sa z.sa r.sn y.sc z.sc r.ss y.la z.la r.ln y.lc z.lc r.ls w hle.said hle.locks a1 a2 b1 b2

theorem QN4 {E:qI1} {cs ds:List qA5} {w:World} {L:Nat} {r y:qH5} (x:StI) (h:qO4 cs ds) (hy:qH3 w L r y):qJ9 E ds y x=qJ9 E cs r x:=by
 unfold qJ9
 rw [QY4 h hy,hy.ss,hy.ls]
theorem newNil {w:World} {L:Nat} {r y:qH5} (h:qH3 w L r y):qK0 y:=by
 obtain ⟨g,e,_⟩:=h.la
 exact ⟨fun q=>absurd (h.sa.symm.trans q) (by simp),fun q=>absurd (e.symm.trans q) (by simp)⟩
theorem newAt {w:World} {L:Nat} {r y:qH5} (h:qH3 w L r y):∀ p,y.la=some p→∃ b0 o0,p=⟨b0,o0,none⟩∧b0 < w.heap.size:=fun p q=>by
 obtain ⟨g,e,_,hg,_⟩:=h.la
 rw [e] at q
 cases q
 exact ⟨g,0,rfl,hg⟩

def qX6 (K n:Nat):List LkI:=(List.range n).map fun j=>(⟨((K+4 * j:Nat):Int),((K+1+4 * j:Nat):Int),((K+2+4 * j:Nat):Int),((K+3+4 * j:Nat):Int)⟩:LkI)
theorem mkLkK_len (K n:Nat):(qX6 K n).length=n:=by simp [qX6]
theorem mkLkK_at (K n j:Nat) (h:j < n):(qX6 K n)[j]? = some (⟨((K+4 * j:Nat):Int),((K+1+4 * j:Nat):Int),((K+2+4 * j:Nat):Int),((K+3+4 * j:Nat):Int)⟩:LkI):=by simp [qX6,h]
theorem QZ7 (K B:Nat) (hK:K≤10000000) (a:Option Addr) (n cap:Nat) (zs:List LkI) (w:World) (hz:n=zs.length) (hn:n≤1048576) (h:qA4 w B (.slice a n cap) zs) :
  Calls Tryz.prog 44 #[.slice a n cap,.int .i64 (K:Int)] w fun e w'=>e = .returned (.int .i64 ((K:Int)+4 * (n:Int)))∧qA4 w' B (.slice a n cap) (qX6 K n)∧w.grownBy w' (Value.slice a n cap).ownBlock:=by
 have HO:Hid (qA4 w B (.slice a n cap) zs):=h
 have HZ:Hid (n=zs.length):=hz
 clear h hz
 have hn':(n:Int)≤1048576:=by omega
 have hK':(K:Int)≤10000000:=by omega
 have hK0:(0:Int)≤(K:Int):=by omega
 go_enter Tryz.func44,Tryz.ntmps44
 go_wp2
 go_loopw [1,5] (fun q i wr=>∃ (j:Nat) (es:List LkI),j≤n∧i = .int .i64 (j:Int)∧q = .int .i64 ((K:Int)+4 * (j:Int))∧n=es.length∧qA4 wr B (.slice a n cap) es∧(∀ m,m < j→es[m]? = some (⟨((K+4 * m:Nat):Int),((K+1+4 * m:Nat):Int),((K+2+4 * m:Nat):Int),((K+3+4 * m:Nat):Int)⟩:LkI))∧w.grownBy wr (Value.slice a n cap).ownBlock)
  (fun _ i _=>n - (intOf i).toNat)
 case atStart=>exact ⟨0,zs,Nat.zero_le _,rfl,rfl,HZ.out,HO.out,fun m hm=>by omega,qM8 _ _⟩
 case round =>
  obtain ⟨j,es,hj,rfl,rfl,hes,hown,hys,hgr⟩:=hrel
  have HE:Hid (n=es.length):=hes
  clear hes
  by_cases hlt:j < n
  ·obtain ⟨g,ha⟩:∃ g,a=some ⟨g,0,none⟩:=by
    rcases hown.form with ⟨h1,h2⟩ | ⟨g,cap',h1,_⟩
    ·have:=HE.out;rw [h2] at this;simp at this;omega
    ·simp at h1;exact ⟨g,h1.1⟩
   subst ha
   obtain ⟨⟨v0,c0⟩,f0⟩:=hown.cell HE.out (j * 4) (by omega)
   obtain ⟨⟨v1,c1⟩,f1⟩:=hown.cell HE.out (j * 4+1) (by omega)
   obtain ⟨⟨v2,c2⟩,f2⟩:=hown.cell HE.out (j * 4+2) (by omega)
   obtain ⟨⟨v3,c3⟩,f3⟩:=hown.cell HE.out (j * 4+3) (by omega)
   have hst:=hown.put HE.out j (⟨(K:Int)+4 * (j:Int),(K:Int)+4 * (j:Int)+1,(K:Int)+4 * (j:Int)+1+1,(K:Int)+4 * (j:Int)+1+1+1⟩:LkI)
   have R:Hid (qA4 ((((wr.setCell ⟨g,j * 4,none⟩ (.int .i64 ((K:Int)+4 * (j:Int)))).setCell ⟨g,j * 4+1,none⟩ (.int .i64 ((K:Int)+4 * (j:Int)+1))).setCell ⟨g,j * 4+2,none⟩ (.int .i64 ((K:Int)+4 * (j:Int)+1+1))).setCell ⟨g,j * 4+3,none⟩ (.int .i64 ((K:Int)+4 * (j:Int)+1+1+1))) B (.slice (some ⟨g,0,none⟩) n cap) (es.set j (⟨(K:Int)+4 * (j:Int),(K:Int)+4 * (j:Int)+1,(K:Int)+4 * (j:Int)+1+1,(K:Int)+4 * (j:Int)+1+1+1⟩:LkI))∧(∀ m,m < j+1→(es.set j (⟨(K:Int)+4 * (j:Int),(K:Int)+4 * (j:Int)+1,(K:Int)+4 * (j:Int)+1+1,(K:Int)+4 * (j:Int)+1+1+1⟩:LkI))[m]? = some (⟨((K+4 * m:Nat):Int),((K+1+4 * m:Nat):Int),((K+2+4 * m:Nat):Int),((K+3+4 * m:Nat):Int)⟩:LkI))∧w.grownBy ((((wr.setCell ⟨g,j * 4,none⟩ (.int .i64 ((K:Int)+4 * (j:Int)))).setCell ⟨g,j * 4+1,none⟩ (.int .i64 ((K:Int)+4 * (j:Int)+1))).setCell ⟨g,j * 4+2,none⟩ (.int .i64 ((K:Int)+4 * (j:Int)+1+1))).setCell ⟨g,j * 4+3,none⟩ (.int .i64 ((K:Int)+4 * (j:Int)+1+1+1))) (some g)):=by
    refine ⟨hst.1,fun m hm=>?_,qF9 hgr hst.2⟩
    have:=HE.out
    by_cases e:m=j
    ·subst e;rw [List.getElem?_set_self (by omega)];simp only [Option.some.injEq,LkI.mk.injEq];omega
    ·rw [List.getElem?_set_ne (by omega)];exact hys m (by omega)
   clear hst hown hys hgr
   have hlt':(j:Int) < (n:Int):=by omega
   go_wp2
   refine ⟨⟨j+1,_,by omega,by go_num,?_,by rw [List.length_set];exact HE.out,R.out.1,R.out.2.1,R.out.2.2⟩,by simp [intOf];omega⟩
   congr 1
  ·have hjn:j=n:=by omega
   subst hjn
   have E:es=qX6 K j:=by
    have:=HE.out
    apply List.ext_getElem?
    intro i
    by_cases hi:i < j
    ·rw [hys i hi,mkLkK_at K j i hi]
    ·rw [List.getElem?_eq_none (by omega),List.getElem?_eq_none (by rw [mkLkK_len];omega)]
   rw [E] at hown
   go_wp2
   go_ret
   exact ⟨rfl,hown,hgr⟩
theorem heldLocksK_c (K:Nat) (hK:K≤10000000) (a:Option Addr) (n cap:Nat) (w:World) (hn:n≤1048576) (h:LkV w a (qX6 K n)) :
  Calls Tryz.prog 73 #[.slice a n cap,.int .i64 (K:Int)] w fun e w'=>e = .returned (.int .i64 ((K:Int)+4 * (n:Int)))∧w=w':=by
 have HR:Hid (LkV w a (qX6 K n)):=h
 clear h
 have hn':(n:Int)≤1048576:=by omega
 have hK':(K:Int)≤10000000:=by omega
 have hK0:(0:Int)≤(K:Int):=by omega
 go_enter Tryz.func73,Tryz.ntmps73
 go_wp2
 go_loop [1,5] (fun q i=>∃ (j:Nat),j≤n∧i = .int .i64 (j:Int)∧q = .int .i64 ((K:Int)+4 * (j:Int))) (fun _ i=>n - (intOf i).toNat)
 case atStart=>exact ⟨0,Nat.zero_le _,rfl,rfl⟩
 case round =>
  obtain ⟨j,hj,rfl,rfl⟩:=hrel
  by_cases hlt:j < n
  ·obtain ⟨g,ha,c0,c1,c2,c3⟩:=HR.out j _ (mkLkK_at K n j hlt)
   subst ha
   simp only [show ((K+4 * j:Nat):Int)=(K:Int)+4 * (j:Int) from by omega,show ((K+1+4 * j:Nat):Int)=(K:Int)+4 * (j:Int)+1 from by omega,show ((K+2+4 * j:Nat):Int)=(K:Int)+4 * (j:Int)+1+1 from by omega,show ((K+3+4 * j:Nat):Int)=(K:Int)+4 * (j:Int)+1+1+1 from by omega] at c0 c1 c2 c3
   have hlt':(j:Int) < (n:Int):=by omega
   go_wp2
   refine ⟨⟨j+1,by omega,by go_num,?_⟩,by simp [intOf];omega⟩
   congr 1
  ·have hjn:j=n:=by omega
   subst hjn
   go_wp2
   go_ret
   exact ⟨rfl,rfl⟩
theorem st_lk_ne {w:World} {B B':Nat} {v v':Value} {S:List StI} {L:List LkI} (h:qB1 w B v S) (h':qA4 w B' v' L) {g g':Nat} (e:v.ownBlock=some g) (e':v'.ownBlock=some g'):g≠g':=by
 obtain ⟨cur,hc,_⟩:=qD4 h e
 obtain ⟨cur',hc',_⟩:=qD2 h' e'
 exact qL0 hc hc' (by decide)
theorem markRep_c (lo hi:Nat) (i u:Int) (sa:Option Addr) (n sc:Nat) (S:List StI) (la:Option Addr) (m lc:Nat) (L:List LkI) (w:World) (hS:n=S.length) (hL:m=L.length) (hn:n≤1048576) (hm:m≤1048576) (h1:qB1 w lo (.slice sa n sc) S) (h2:qA4 w lo (.slice la m lc) L) (g1:∀ g,(Value.slice sa n sc).ownBlock=some g→g < hi) (g2:∀ g,(Value.slice la m lc).ownBlock=some g→g < hi) :
  Calls Tryz.prog 22 #[.agg #[.int .i64 i,.int .i64 u,.slice sa n sc,.slice la m lc],.int .i64 1] w fun e w'=>e = .returned (.int .i64 (1+5 * (n:Int)+4 * (m:Int)))∧qB1 w' lo (.slice sa n sc) (QX1 n)∧qA4 w' lo (.slice la m lc) (qX6 (1+5 * n) m)∧Chg lo hi w w':=by
 obtain ⟨V,hV⟩:∃ V,V=w.alloc (.cells #[.int .i64 i,.int .i64 u,.slice sa n sc,.slice la m lc] 33):=⟨_,rfl⟩
 have BV:Below w.heap.size w V:=by rw [hV];exact zN
 have HX:Hid (qE8 w.heap.size [.int .i64 i,.int .i64 u,.slice sa n sc,.slice la m lc] V):=by rw [hV];exact (qF2 w _ _).out
 have hVl:w.heap.size < V.heap.size:=by rw [hV];simp
 have HBV:=qC8 BV
 have HS1:Hid (qB1 V lo (.slice sa n sc) S):=h1.below BV
 have HL1:Hid (qA4 V lo (.slice la m lc) L):=h2.below BV
 have HNE:Hid (∀ g g',(Value.slice sa n sc).ownBlock=some g→(Value.slice la m lc).ownBlock=some g'→g≠g'):=fun g g' e e'=>st_lk_ne h1 h2 e e'
 have HR1:Hid (∀ g,(Value.slice sa n sc).ownBlock=some g→lo≤g∧g < hi∧g < w.heap.size):=fun g e=>by have:=QK6 h1 g e;exact ⟨this.1,g1 g e,this.2⟩
 have HR2:Hid (∀ g,(Value.slice la m lc).ownBlock=some g→lo≤g∧g < hi∧g < w.heap.size):=fun g e=>by have:=qV3 h2 g e;exact ⟨this.1,g2 g e,this.2⟩
 have HSL:Hid (n=S.length∧m=L.length):=⟨hS,hL⟩
 have x2:=HX.out 2 _ rfl
 have x3:=HX.out 3 _ rfl
 have hn':(n:Int)≤1048576:=by omega
 have hm':(m:Int)≤1048576:=by omega
 clear h1 h2 g1 g2 hS hL BV
 go_enter Tryz.func22,Tryz.ntmps22
 go_upto_region 1 with fail
 rw [← hV]
 clear hV
 go_wp2_with fail
 refine (QH2 lo sa n sc S V HSL.out.1 hn HS1.out).mono ?_
 rintro e w1 ⟨rfl,ho1,hg1⟩
 have C1:Chg lo hi V w1:=Chg.grown hg1 (fun q e=>⟨(HR1.out q e).1,(HR1.out q e).2.1⟩)
 have hk1:∀ b,b < V.heap.size→(Value.slice sa n sc).ownBlock≠some b→w1.heap[b]? = V.heap[b]? := fun b hb hne=>hg1.block b hb (fun e=>hne e.symm)
 have HO1:=qC8 ho1
 have HC1:=qC8 C1
 have HL2:Hid (qA4 w1 lo (.slice la m lc) L):=qA2 HL1.out (fun g e=>hk1 g (by have:=(HR2.out g e).2.2;omega) (fun e'=>HNE.out g g e' e rfl))
 have q3:w1.cell? ⟨w.heap.size,3,none⟩=some (.slice la m lc):=(World.cell?_of_block (a:=⟨w.heap.size,3,none⟩) (hk1 w.heap.size hVl (fun e=>by have:=(HR1.out _ e).2.2;omega))).trans x3
 have hl1:w.heap.size < w1.heap.size:=by have:=hg1.size;omega
 have hz1:=hg1.size
 clear ho1 C1 hk1 x2 x3 hg1
 have HLK:Hid (Calls Tryz.prog 44 #[.slice la m lc,.int .i64 (1+5 * (n:Int))] w1 fun e w'=>e = .returned (.int .i64 (1+5 * (n:Int)+4 * (m:Int)))∧qA4 w' lo (.slice la m lc) (qX6 (1+5 * n) m)∧w1.grownBy w' (Value.slice la m lc).ownBlock):=by
  have:=QZ7 (1+5 * n) lo (by omega) la m lc L w1 HSL.out.2 hm HL2.out
  rw [show ((1+5 * n:Nat):Int)=1+5 * (n:Int) from by omega] at this
  exact this
 go_wp2_with fail
 refine HLK.out.mono ?_
 rintro e w2 ⟨rfl,ho2,hg2⟩
 have C2:Chg lo hi w1 w2:=Chg.grown hg2 (fun q e=>⟨(HR2.out q e).1,(HR2.out q e).2.1⟩)
 have HO3:Hid (qB1 w2 lo (.slice sa n sc) (QX1 n)):=qA2 HO1.out (fun g e=>hg2.block g (by have:=(HR1.out g e).2.2;omega) (fun e'=>HNE.out g g e e'.symm rfl))
 have HO4:=qC8 ho2
 have HC2:Hid (Chg lo hi w w2):=((Chg.calls HBV.out).trans HC1.out).trans C2
 clear ho2 hg2 C2 q3 HLK
 go_wp2_with fail
 go_ret
 exact ⟨rfl,HO3.out,HO4.out,HC2.out⟩
theorem markRepR_c (lo hi:Nat) (k i u:Int) (sa:Option Addr) (n sc:Nat) (S:List StI) (la:Option Addr) (m lc:Nat) (L:List LkI) (w:World) (hS:n=S.length) (hL:m=L.length) (hn:n≤1048576) (hm:m≤1048576) (h1:qB1 w lo (.slice sa n sc) S) (h2:qA4 w lo (.slice la m lc) L) (g1:∀ g,(Value.slice sa n sc).ownBlock=some g→g < hi) (g2:∀ g,(Value.slice la m lc).ownBlock=some g→g < hi) :
  Calls Tryz.prog 24 #[.agg #[.int .i64 k,.int .i64 i,.int .i64 u,.slice sa n sc,.slice la m lc],.int .i64 1] w fun e w'=>e = .returned (.int .i64 (1+5 * (n:Int)+4 * (m:Int)))∧qB1 w' lo (.slice sa n sc) (QX1 n)∧qA4 w' lo (.slice la m lc) (qX6 (1+5 * n) m)∧Chg lo hi w w':=by
 obtain ⟨V,hV⟩:∃ V,V=w.alloc (.cells #[.int .i64 k,.int .i64 i,.int .i64 u,.slice sa n sc,.slice la m lc] 47):=⟨_,rfl⟩
 have BV:Below w.heap.size w V:=by rw [hV];exact zN
 have HM:=qC8 (markRep_c lo hi i u sa n sc S la m lc L V hS hL hn hm (h1.below BV) (h2.below BV) g1 g2)
 have HBV:=qC8 BV
 clear h1 h2 g1 g2 BV hS hL
 go_enter Tryz.func24,Tryz.ntmps24
 go_wp2_with fail
 rw [← hV]
 clear hV
 refine HM.out.mono ?_
 rintro e w1 ⟨rfl,ho1,ho2,hc⟩
 have HO1:=qC8 ho1
 have HO2:=qC8 ho2
 have HC:=qC8 ((Chg.calls HBV.out).trans hc)
 clear ho1 ho2 hc
 go_wp2_with fail
 go_ret
 exact ⟨rfl,HO1.out,HO2.out,HC.out⟩
theorem heldRep_c (i u:Int) (sa:Option Addr) (n sc:Nat) (la:Option Addr) (m lc:Nat) (w:World) (hn:n≤1048576) (hm:m≤1048576) (h1:StV w sa (QX1 n)) (h2:LkV w la (qX6 (1+5 * n) m)) :
  Calls Tryz.prog 48 #[.agg #[.int .i64 i,.int .i64 u,.slice sa n sc,.slice la m lc],.int .i64 1] w fun e w'=>e = .returned (.int .i64 (1+5 * (n:Int)+4 * (m:Int)))∧Below w.heap.size w w':=by
 obtain ⟨V,hV⟩:∃ V,V=w.alloc (.cells #[.int .i64 i,.int .i64 u,.slice sa n sc,.slice la m lc] 33):=⟨_,rfl⟩
 have BV:Below w.heap.size w V:=by rw [hV];exact zN
 have HX:Hid (qE8 w.heap.size [.int .i64 i,.int .i64 u,.slice sa n sc,.slice la m lc] V):=by rw [hV];exact (qF2 w _ _).out
 have hVl:w.heap.size < V.heap.size:=by rw [hV];simp
 have HBV:=qC8 BV
 have HS:=qC8 (QH4 sa n sc V hn (h1.below BV))
 have HLK:Hid (Calls Tryz.prog 73 #[.slice la m lc,.int .i64 (1+5 * (n:Int))] V fun e w'=>e = .returned (.int .i64 (1+5 * (n:Int)+4 * (m:Int)))∧V=w'):=by
  have:=heldLocksK_c (1+5 * n) (by omega) la m lc V hm (h2.below BV)
  rw [show ((1+5 * n:Nat):Int)=1+5 * (n:Int) from by omega] at this
  exact this
 have x2:=HX.out 2 _ rfl
 have x3:=HX.out 3 _ rfl
 have hn':(n:Int)≤1048576:=by omega
 have hm':(m:Int)≤1048576:=by omega
 have d1:decide ((1:Int)+5 * (n:Int) < 0)=false:=by simp;omega
 have d2:decide ((1:Int)+5 * (n:Int)+4 * (m:Int) < 0)=false:=by simp;omega
 clear h1 h2 BV
 go_enter Tryz.func48,Tryz.ntmps48
 go_upto_region 1 with fail
 rw [← hV]
 clear hV
 go_wp2_with fail
 refine HS.out.mono ?_
 rintro e w1 ⟨rfl,rfl⟩
 go_wp2_with fail
 refine HLK.out.mono ?_
 rintro e w1 ⟨rfl,rfl⟩
 go_wp2_with fail
 go_ret
 exact ⟨rfl,HBV.out⟩
theorem QR8 (k i u:Int) (sa:Option Addr) (n sc:Nat) (la:Option Addr) (m lc:Nat) (w:World) (hn:n≤1048576) (hm:m≤1048576) (h1:StV w sa (QX1 n)) (h2:LkV w la (qX6 (1+5 * n) m)) :
  Calls Tryz.prog 25 #[.agg #[.int .i64 k,.int .i64 i,.int .i64 u,.slice sa n sc,.slice la m lc],.int .i64 1] w fun e w'=>e = .returned (.int .i64 (1+5 * (n:Int)+4 * (m:Int)))∧Below w.heap.size w w':=by
 obtain ⟨V,hV⟩:∃ V,V=w.alloc (.cells #[.int .i64 k,.int .i64 i,.int .i64 u,.slice sa n sc,.slice la m lc] 47):=⟨_,rfl⟩
 have BV:Below w.heap.size w V:=by rw [hV];exact zN
 have HM:=qC8 (heldRep_c i u sa n sc la m lc V hn hm (h1.below BV) (h2.below BV))
 have HBV:=qC8 BV
 have hn':(n:Int)≤1048576:=by omega
 have hm':(m:Int)≤1048576:=by omega
 have d2:decide ((1:Int)+5 * (n:Int)+4 * (m:Int) < 0)=false:=by simp;omega
 clear h1 h2 BV
 go_enter Tryz.func25,Tryz.ntmps25
 go_wp2_with fail
 rw [← hV]
 clear hV
 refine HM.out.mono ?_
 rintro e w1 ⟨rfl,hb1⟩
 have HB1:=qC8 (HBV.out.trans (hb1.mono HBV.out.size))
 clear hb1
 go_wp2_with fail
 go_ret
 exact ⟨rfl,HB1.out⟩
theorem markCopy_c (lo hi Lb:Nat) (r y:qH5) (w:World) (hle:qL6 1048576 r) (h:qH3 w Lb r y) (hlo:lo≤Lb) (hhi:∀ g,y.la=some ⟨g,0,none⟩→g < hi) (hLh:Lb < hi) :
  Calls Tryz.prog 22 #[.agg #[.int .i64 y.i,.int .i64 y.u,.slice y.sa y.sn y.sc,.slice y.la y.ln y.lc],.int .i64 1] w fun e w'=>e = .returned (.int .i64 (1+5 * (r.sn:Int)+4 * (r.ln:Int)))∧Chg lo hi w w':=by
 obtain ⟨yi,yu,ysa,ysn,ysc,yss,yla,yln,ylc,yls⟩:=y
 have hsa:=h.sa
 obtain ⟨g,hg,hg1,hg2,_,hlr⟩:=h.la
 have e1:=h.sn
 have e2:=h.ln
 simp only at hsa hg e1 e2
 subst hsa hg e1 e2
 have hgh:=hhi g rfl
 have hlt:=h.slt
 have hsr:=h.sl.2
 have hn:r.sn≤1048576:=hle.said
 have hm:r.ln≤1048576:=hle.locks
 obtain ⟨V,hV⟩:∃ V,V=w.alloc (.cells #[.int .i64 yi,.int .i64 yu,.slice (some ⟨Lb,0,none⟩) r.sn ysc,.slice (some ⟨g,0,none⟩) r.ln ylc] 33):=⟨_,rfl⟩
 have BV:Below w.heap.size w V:=by rw [hV];exact zN
 have HX:Hid (qE8 w.heap.size [.int .i64 yi,.int .i64 yu,.slice (some ⟨Lb,0,none⟩) r.sn ysc,.slice (some ⟨g,0,none⟩) r.ln ylc] V):=by rw [hV];exact (qF2 w _ _).out
 have hVl:w.heap.size < V.heap.size:=by rw [hV];simp
 have HBV:=qC8 BV
 have HSR:Hid (qJ6 V Lb r.sn):=hsr.below hlt BV
 have HLR:Hid (qJ2 V g r.ln):=hlr.below hg2 BV
 have hgV:g < V.heap.size:=by omega
 have x2:=HX.out 2 _ rfl
 have x3:=HX.out 3 _ rfl
 have hn':(r.sn:Int)≤1048576:=by omega
 have hm':(r.ln:Int)≤1048576:=by omega
 clear h hhi hsr hlr BV
 go_enter Tryz.func22,Tryz.ntmps22
 go_upto_region 1 with fail
 rw [← hV]
 clear hV
 go_wp2_with fail
 refine (QA5 Lb r.sn ysc 1 V hn (by omega) (by omega) HSR.out).mono ?_
 rintro e w1 ⟨rfl,hg1'⟩
 have C1:Chg lo hi V w1:=Chg.grown hg1' (fun q e=>by cases e;omega)
 have HLR2:Hid (qJ2 w1 g r.ln):=HLR.out.grown hgV hg1' (by simp;omega)
 have q3:w1.cell? ⟨w.heap.size,3,none⟩=some (.slice (some ⟨g,0,none⟩) r.ln ylc):=(World.cell?_of_block (a:=⟨w.heap.size,3,none⟩) (hg1'.block w.heap.size hVl (by simp;omega))).trans x3
 have hl1:w.heap.size < w1.heap.size:=by have:=hg1'.size;omega
 have HC1:=qC8 C1
 clear C1 hg1' x2 x3
 go_wp2_with fail
 refine (QL4 g r.ln ylc (1+5 * (r.sn:Int)) w1 hm (by omega) (by omega) HLR2.out).mono ?_
 rintro e w2 ⟨rfl,hg2'⟩
 have HC2:Hid (Chg lo hi w w2):=((Chg.calls HBV.out).trans HC1.out).trans (Chg.grown hg2' (fun q e=>by cases e;omega))
 clear hg2' q3
 go_wp2_with fail
 go_ret
 exact ⟨rfl,HC2.out⟩

def ifz (k v:Int):Int:=if k=0 then v else 0
def ifl {α:Type} (k:Int) (l:List α):List α:=if k=0 then l else []
theorem ifl_len {α:Type} (k:Int) (l:List α):(ifl k l).length≤l.length:=by
 unfold ifl
 split
 ·exact Nat.le_refl _
 ·simp
def RepAll (k i u:Int) (S:List StI) (L:List LkI) (w:World) (d:Ending) (w':World):Prop:=∃ (sa:Option Addr) (sc:Nat) (la:Option Addr) (lc:Nat),d = .returned (.agg #[.int .i64 k,.int .i64 i,.int .i64 u,.slice sa S.length sc,.slice la L.length lc])∧qB1 w' w.heap.size (.slice sa S.length sc) S∧qA4 w' w.heap.size (.slice la L.length lc) L∧Below w.heap.size w w'
theorem RepA.all {k i u:Int} {S:List StI} {L:List LkI} {w:World} {d:Ending} {w':World} (h:RepA k i u S L w d w'):RepAll k (ifz k i) (ifz k u) (ifl k S) (ifl k L) w d w':=by
 obtain ⟨hb,h1,h2⟩:=h
 unfold ifz ifl
 by_cases q:k=0
 ·obtain ⟨sa,sc,la,lc,e,ho1,ho2⟩:=h2 q
  rw [if_pos q,if_pos q,if_pos q,if_pos q]
  exact ⟨sa,sc,la,lc,by rw [e,q],ho1,ho2,hb⟩
 ·rw [if_neg q,if_neg q,if_neg q,if_neg q]
  exact ⟨none,0,none,0,h1 q,World.ownsRow_nil _ _ _ _,World.ownsRow_nil _ _ _ _,hb⟩
def EnvS (E:qI1) (cs:List qA5):Prop:=∀ ds,qO4 cs ds→qF5 1048576 ds→qB8 ds=0→qO2 E ds
theorem qH3.le {W:World} {Lb:Nat} {r y:qH5} (h:qH3 W Lb r y) (hle:qL6 1048576 r):qL6 1048576 y:=⟨by rw [h.sn];exact hle.said,by rw [h.ln];exact hle.locks⟩

theorem qD6.alloc {P:World→Prop} {W:World} (h:qD6 P W) (o:Obj):qD6 P (W.alloc o):=h.below (zN)
def RepN (k i u:Int) (S:List StI) (L:List LkI) (n m:Nat) (w:World) (d:Ending) (w':World):Prop:=∃ (sa:Option Addr) (sc:Nat) (la:Option Addr) (lc:Nat),d = .returned (.agg #[.int .i64 k,.int .i64 i,.int .i64 u,.slice sa n sc,.slice la m lc])∧qB1 w' w.heap.size (.slice sa n sc) S∧qA4 w' w.heap.size (.slice la m lc) L∧Below w.heap.size w w'
theorem RepAll.n {k i u:Int} {S:List StI} {L:List LkI} {n m:Nat} {w:World} {d:Ending} {w':World} (h:RepAll k i u S L w d w') (e1:S.length=n) (e2:L.length=m):RepN k i u S L n m w d w':=by
 obtain ⟨sa,sc,la,lc,h1,h2,h3,h4⟩:=h
 rw [e1] at h1 h2
 rw [e2] at h1 h3
 exact ⟨sa,sc,la,lc,h1,h2,h3,h4⟩
theorem qO6 (a:Option Addr) (n cap:Nat) (cs:List qA5) (w:World) (hn:n≤1048576) (hle:∀ (k:Nat) c,cs[k]? = some c→qD7 1048576 c) (h:qA7 w a n cs) :
  Calls Tryz.prog 12 #[.slice a n cap] w fun e w'=>∃ lo hi,e = .returned (.slice (some ⟨lo,0,none⟩) n n)∧qD6 (CpB lo hi n cs) w'∧Below w.heap.size w w' :=
 (QB7 a n cap cs w hn hle h).mono fun e w' q=>by
  obtain ⟨e1,ds,hd⟩:=q
  exact ⟨_,_,e1,hd.cpB hn h hle,hd.bl⟩
def QS9 (k iv uv:Int) (S:List StI) (L:List LkI) (n1 m1:Nat) (V:World) (s:Value) (wx:World):Prop :=
 ∃ (B lo hi:Nat) (sa:Option Addr) (sc:Nat) (la:Option Addr) (lc:Nat),s = .pointer (some ⟨B,0,none⟩)∧V.heap.size≤B∧V.heap.size≤lo∧(B < lo∨hi≤B)∧qC2 B (B+1) (qE8 B [.int .i64 k,.int .i64 iv,.int .i64 uv,.slice sa n1 sc,.slice la m1 lc]) wx∧qC2 lo hi (fun X=>qB1 X lo (.slice sa n1 sc) S) wx∧qC2 lo hi (fun X=>qA4 X lo (.slice la m1 lc) L) wx∧((∀ g,(Value.slice sa n1 sc).ownBlock=some g→g < hi)∧∀ g,(Value.slice la m1 lc).ownBlock=some g→g < hi)∧Below V.heap.size V wx
theorem QS9.post {k iv uv:Int} {S:List StI} {L:List LkI} {n1 m1:Nat} {V W0 W1:World} {sa:Option Addr} {sc:Nat} {la:Option Addr} {lc:Nat} (h1:qB1 W1 W0.heap.size (.slice sa n1 sc) S) (h2:qA4 W1 W0.heap.size (.slice la m1 lc) L) (h0:V.heap.size≤W0.heap.size) (hb:Below V.heap.size V W1) :
  QS9 k iv uv S L n1 m1 V (.pointer (some ⟨W1.heap.size,0,none⟩)) (W1.alloc (.cells #[.int .i64 k,.int .i64 iv,.int .i64 uv,.slice sa n1 sc,.slice la m1 lc] 47)):=by
 have g1:=QK6 h1
 have g2:=qV3 h2
 have e1:qC2 W0.heap.size W1.heap.size (fun X=>qB1 X W0.heap.size (.slice sa n1 sc) S) W1:=QR0 h1
 have e2:qC2 W0.heap.size W1.heap.size (fun X=>qA4 X W0.heap.size (.slice la m1 lc) L) W1:=QR0 h2
 exact ⟨W1.heap.size,W0.heap.size,W1.heap.size,sa,sc,la,lc,rfl,hb.size,h0,.inr (Nat.le_refl _),qF2 W1 _ _,e1.alloc _,e2.alloc _,⟨fun g e=>(g1 g e).2,fun g e=>(g2 g e).2⟩,hb.alloc hb.size _⟩
theorem QS9.pre {k iv uv:Int} {S:List StI} {L:List LkI} {n1 m1 q:Nat} {V W0 W1:World} {sa:Option Addr} {sc:Nat} {la:Option Addr} {lc:Nat} (hz:qG2 q [.int .i64 0,.int .i64 0,.int .i64 0,.slice none 0 0,.slice none 0 0] W1) (hq:V.heap.size≤q) (hq0:q < W0.heap.size) (hq1:q < W1.heap.size) (h1:qB1 W1 W0.heap.size (.slice sa n1 sc) S) (h2:qA4 W1 W0.heap.size (.slice la m1 lc) L) (hb:Below V.heap.size V W1) :
  QS9 k iv uv S L n1 m1 V (.pointer (some ⟨q,0,none⟩)) (((((W1.setCell ⟨q,0,none⟩ (.int .i64 k)).setCell ⟨q,1,none⟩ (.int .i64 iv)).setCell ⟨q,2,none⟩ (.int .i64 uv)).setCell ⟨q,3,none⟩ (.slice sa n1 sc)).setCell ⟨q,4,none⟩ (.slice la m1 lc)):=by
 have g1:=QK6 h1
 have g2:=qV3 h2
 have z:=(((((hz.put 0 (by simp) (.int .i64 k)).put 1 (by simp) (.int .i64 iv)).put 2 (by simp) (.int .i64 uv)).put 3 (by simp) (.slice sa n1 sc)).put 4 (by simp) (.slice la m1 lc))
 have kb:∀ b,b≠q→(((((W1.setCell ⟨q,0,none⟩ (.int .i64 k)).setCell ⟨q,1,none⟩ (.int .i64 iv)).setCell ⟨q,2,none⟩ (.int .i64 uv)).setCell ⟨q,3,none⟩ (.slice sa n1 sc)).setCell ⟨q,4,none⟩ (.slice la m1 lc)).heap[b]? = W1.heap[b]? := fun b hb=>by
  rw [Below.heap_setCell _ _ _ _ (by show b≠q;exact hb),Below.heap_setCell _ _ _ _ (by show b≠q;exact hb),Below.heap_setCell _ _ _ _ (by show b≠q;exact hb),Below.heap_setCell _ _ _ _ (by show b≠q;exact hb),Below.heap_setCell _ _ _ _ (by show b≠q;exact hb)]
 have sz:(((((W1.setCell ⟨q,0,none⟩ (.int .i64 k)).setCell ⟨q,1,none⟩ (.int .i64 iv)).setCell ⟨q,2,none⟩ (.int .i64 uv)).setCell ⟨q,3,none⟩ (.slice sa n1 sc)).setCell ⟨q,4,none⟩ (.slice la m1 lc)).heap.size=W1.heap.size:=by simp
 have o1:=qA2 (X':=((((W1.setCell ⟨q,0,none⟩ (.int .i64 k)).setCell ⟨q,1,none⟩ (.int .i64 iv)).setCell ⟨q,2,none⟩ (.int .i64 uv)).setCell ⟨q,3,none⟩ (.slice sa n1 sc)).setCell ⟨q,4,none⟩ (.slice la m1 lc)) (show W1.ownsRow _ _ _ _ _ _ from h1) (fun g e=>kb g (by have:=g1 g e;omega))
 have o2:=qA2 (X':=((((W1.setCell ⟨q,0,none⟩ (.int .i64 k)).setCell ⟨q,1,none⟩ (.int .i64 iv)).setCell ⟨q,2,none⟩ (.int .i64 uv)).setCell ⟨q,3,none⟩ (.slice sa n1 sc)).setCell ⟨q,4,none⟩ (.slice la m1 lc)) (show W1.ownsRow _ _ _ _ _ _ from h2) (fun g e=>kb g (by have:=g2 g e;omega))
 exact ⟨q,W0.heap.size,W1.heap.size,sa,sc,la,lc,rfl,hq,by omega,.inl hq0,qE8.hold z.1 (by rw [sz];exact hq1),qY5 o1 _ (fun g e=>(g1 g e).2) (by rw [sz];exact Nat.le_refl _),qY5 o2 _ (fun g e=>(g2 g e).2) (by rw [sz];exact Nat.le_refl _),⟨fun g e=>(g1 g e).2,fun g e=>(g2 g e).2⟩,((((hb.setCell hq _).setCell hq _).setCell hq _).setCell hq _).setCell hq _⟩
theorem QO7 {E:qI1} {lo hi n:Nat} {r y:qH5} {Lb:Nat} {cs:List qA5} {W:World} (x:StI) (hn:n≤1048576) (hE:EnvS E cs) (hle:qL6 1048576 r) (hl:r.ss.length=r.sn∧r.ls.length=r.ln) (hy:qH3 W Lb r y) (h:CpB lo hi n cs W) :
  Calls Tryz.prog 26 #[.agg #[.int .i64 y.i,.int .i64 y.u,.slice y.sa y.sn y.sc,.slice y.la y.ln y.lc],.slice (some ⟨lo,0,none⟩) n n,.agg #[.int .i64 x.k,.int .i64 x.e,.int .i64 x.f,.int .i64 x.s,.int .i64 x.n]] W fun d w'=>RepAll (qJ9 E cs r x) (ifz (qJ9 E cs r x) r.i) (ifz (qJ9 E cs r x) r.u) (ifl (qJ9 E cs r x) (qI6 r.ss x)) (ifl (qJ9 E cs r x) (qG5 E r.ss r.ls x)) W d w':=by
 obtain ⟨ds,h1,hs,h3,_,_⟩:=h
 have:=QT3 E y _ n n ds x W (hy.isIn hl.1 hl.2) (newNil hy) (newAt hy) (hy.le hle) h1 h3 hn (hE ds hs h3)
 exact this.mono fun d w' q=>by
  rw [QN4 x hs hy,hy.i,hy.u,hy.ss,hy.ls] at q
  exact q.all
theorem QP3 {E:qI1} {lo hi n:Nat} {r y:qH5} {Lb:Nat} {cs:List qA5} {W:World} (x:StI) (hn:n≤1048576) (hE:EnvS E cs) (hle:qL6 1048576 r) (hl:r.ss.length=r.sn∧r.ls.length=r.ln) (hv:qO1 0 W∧qE2 W) (hy:qH3 W Lb r y) (h:CpB lo hi n cs W) :
  Calls Tryz.prog 27 #[.agg #[.int .i64 y.i,.int .i64 y.u,.slice y.sa y.sn y.sc,.slice y.la y.ln y.lc],.slice (some ⟨lo,0,none⟩) n n,.agg #[.int .i64 x.k,.int .i64 x.e,.int .i64 x.f,.int .i64 x.s,.int .i64 x.n]] W fun d w'=>RepAll (qJ9 E cs r x) (ifz (qJ9 E cs r x) r.i) (ifz (qJ9 E cs r x) r.u) (ifl (qJ9 E cs r x) (qI6 r.ss x)) (ifl (qJ9 E cs r x) (qG5 E r.ss r.ls x)) W d w':=by
 obtain ⟨ds,h1,hs,h3,_,_⟩:=h
 have:=QV0 E y _ n n ds x W (hy.isIn hl.1 hl.2) (hy.le hle) h1 h3 hn hv.1 hv.2 (hE ds hs h3)
 exact this.mono fun d w' q=>by
  rw [QN4 x hs hy,hy.i,hy.u,hy.ss,hy.ls] at q
  exact q.all
theorem envS_any (cs:List qA5):∃ E,EnvS E cs:=by
 by_cases h:∃ ds,qO4 cs ds∧qF5 1048576 ds
 ·obtain ⟨ds1,hs,hl⟩:=h
  obtain ⟨E,hE⟩:=env_of hl
  exact ⟨E,fun ds h2 hl2 hz=>qO4.env (cs:=ds1) ⟨by rw [hs.ln,h2.ln],QQ4 hs h2⟩ (hE (by rw [hs.cfs,← h2.cfs];exact hz)) hl2⟩
 ·obtain ⟨E,_⟩:=env_of (cs:=[]) ⟨fun k c e=>by simp at e,fun k c e=>by simp at e⟩
  exact ⟨E,fun ds h1 h2 _=>absurd ⟨ds,h1,h2⟩ h⟩
theorem enS_len (E:qI1) (cs:List qA5) (r:qH5) (x:StI) (hl:r.ss.length=r.sn):(ifl (qJ9 E cs r x) (qI6 r.ss x)).length≤1048576:=by
 unfold ifl
 split
 ·rename_i h
  have h40:r.sn≤40:=by
   by_cases hr:qM3 E cs r=0
   ·unfold qM3 at hr
    split at hr
    ·split at hr
     ·split at hr
      ·omega
      ·omega
     ·omega
    ·omega
   ·unfold qJ9 at h
    rw [if_neg hr] at h
    exact absurd h hr
  unfold qI6
  split
  ·omega
  ·simp
   omega
 ·simp
theorem endL_len (k:Int) (E:qI1) (ss:List StI) (ls:List LkI) (x:StI) (hl:ls.length≤1048576):(ifl k (qG5 E ss ls x)).length≤1048576:=by
 refine Nat.le_trans (ifl_len _ _) ?_
 unfold qG5 qD9 qL1
 split
 ·exact hl
 ·split
  ·split
   ·exact Nat.le_trans tkL_len (by omega)
   ·simp
  ·exact hl

theorem Rl3_inner (r:qH5) (a:Option Addr) (n cap:Nat) (cs:List qA5) (x:StI) (w:World) (hr:qE7 w r∧qL6 maxLen r) (hc:QI9 w a n cs) (hE:qO1 0 w∧qE2 w) :
  Calls Tryz.prog 6 #[.agg #[.int .i64 r.i,.int .i64 r.u,.slice r.sa r.sn r.sc,.slice r.la r.ln r.lc],.slice a n cap,.agg #[.int .i64 x.k,.int .i64 x.e,.int .i64 x.f,.int .i64 x.s,.int .i64 x.n]] w fun e w'=>e = .returned (.bool true)∧Below w.heap.size w w':=by
 have HRI:Hid (qE7 w r):=hr.1
 have HCI:Hid (qA7 w a n cs):=hc.1
 have HER:Hid (qO1 0 w∧qE2 w):=hE
 have HRL:Hid (qL6 maxLen r):=hr.2
 have HCL:Hid (n≤maxLen∧∀ (k:Nat) c,cs[k]? = some c→qD7 maxLen c):=hc.2
 clear hr hc hE
 obtain ⟨V,hV⟩:∃ V,V=(w.alloc (.cells #[.int .i64 r.i,.int .i64 r.u,.slice r.sa r.sn r.sc,.slice r.la r.ln r.lc] 25)).alloc (.cells #[.int .i64 x.k,.int .i64 x.e,.int .i64 x.f,.int .i64 x.s,.int .i64 x.n] 41):=⟨_,rfl⟩
 have B0:Hid (Below w.heap.size w V):=by rw [hV];exact (zN).alloc (by simp) _
 have F1:Hid (qC2 (w.heap.size) (w.heap.size+1) (qE8 (w.heap.size) [.int .i64 r.i,.int .i64 r.u,.slice r.sa r.sn r.sc,.slice r.la r.ln r.lc]) V):=by rw [hV];exact (qF2 w _ _).alloc _
 have hl2:=F1.out.le
 have F3:Hid (qC2 (w.heap.size+1) (w.heap.size+1+1) (qE8 (w.heap.size+1) [.int .i64 x.k,.int .i64 x.e,.int .i64 x.f,.int .i64 x.s,.int .i64 x.n]) V):=by rw [hV];have q:=qF2 (w.alloc (.cells #[.int .i64 r.i,.int .i64 r.u,.slice r.sa r.sn r.sc,.slice r.la r.ln r.lc] 25)) #[.int .i64 x.k,.int .i64 x.e,.int .i64 x.f,.int .i64 x.s,.int .i64 x.n] 41;simp only [World.size_alloc] at q;exact q
 have hl4:=F3.out.le
 have hz0:=B0.out.size
 go_enter Tryz.func6,Tryz.ntmps6
 go_upto_region 2 with fail
 rw [← hV]
 clear hV
 have hbl0:w.heap.size < V.heap.size:=by have:=F1.out.le;omega
 have b0:=F1.out.out 0 _ rfl
 have b1:=F1.out.out 1 _ rfl
 have b2:=F1.out.out 2 _ rfl
 have b3:=F1.out.out 3 _ rfl
 go_wp2_with fail
 refine (szReplica_c r 1048576 _ HRL.out (by omega) (by omega)).mono ?_
 rintro e w5 ⟨⟨s1,rfl,hs1,hs2⟩,hb⟩
 have B6:Hid (Below w.heap.size w w5):=B0.out.trans (hb.mono B0.out.size)
 have hz7:=hb.size
 have F8:Hid (qC2 (w.heap.size) (w.heap.size+1) (qE8 (w.heap.size) [.int .i64 r.i,.int .i64 r.u,.slice r.sa r.sn r.sc,.slice r.la r.ln r.lc]) w5):=F1.out.below hb
 have F9:Hid (qC2 (w.heap.size+1) (w.heap.size+1+1) (qE8 (w.heap.size+1) [.int .i64 x.k,.int .i64 x.e,.int .i64 x.f,.int .i64 x.s,.int .i64 x.n]) w5):=F3.out.below hb
 clear B0 F1 F3
 clear hb b0 b1 b2 b3 hbl0
 by_cases hneg:s1 < 0
 ·go_wp2
  go_ret
  exact ⟨rfl,B6.out⟩
 obtain ⟨hsn,hln⟩:=hs2 (by omega)
 have hge:0≤s1:=by omega
 go_wp2_with fail
 refine (szConfigs_c a n cap cs s1 _ HCL.out.1 HCL.out.2 hge (by omega) (HCI.out.below B6.out)).mono ?_
 rintro e w10 ⟨⟨s2,rfl,hs3,hs4⟩,hb⟩
 have B11:Hid (Below w.heap.size w w10):=B6.out.trans (hb.mono B6.out.size)
 have hz12:=hb.size
 have F13:Hid (qC2 (w.heap.size) (w.heap.size+1) (qE8 (w.heap.size) [.int .i64 r.i,.int .i64 r.u,.slice r.sa r.sn r.sc,.slice r.la r.ln r.lc]) w10):=F8.out.below hb
 have F14:Hid (qC2 (w.heap.size+1) (w.heap.size+1+1) (qE8 (w.heap.size+1) [.int .i64 x.k,.int .i64 x.e,.int .i64 x.f,.int .i64 x.s,.int .i64 x.n]) w10):=F9.out.below hb
 clear B6 F8 F9
 clear hb
 by_cases hneg2:s2 < 0
 ·go_wp2
  go_ret
  exact ⟨rfl,B11.out⟩
 obtain ⟨hnl,hcl0⟩:=hs4 (by omega)
 have hge2:0≤s2:=by omega
 have hn:n≤1048576:=by omega
 have HLE1:Hid (∀ (k:Nat) c,cs[k]? = some c→qD7 1048576 c):=fun k c e=>QN5 (hcl0 k c e) (by omega)
 have HRL2:Hid (qL6 1048576 r):=⟨by omega,by omega⟩
 have HSL:Hid (r.ss.length=r.sn∧r.ls.length=r.ln):=⟨HRI.out.said.1,HRI.out.locks.1⟩
 have hsn2:r.sn≤1048576:=by omega
 have hln2:r.ln≤1048576:=by omega
 clear hs4 hcl0 hs2 hs1 HRL HCL hneg hneg2
 obtain ⟨E,hEE⟩:=envS_any cs
 have HEE:Hid (EnvS E cs):=hEE
 obtain ⟨k,hk⟩:∃ k,qJ9 E cs r x=k:=⟨_,rfl⟩
 obtain ⟨iv,hiv⟩:∃ v,ifz k r.i=v:=⟨_,rfl⟩
 obtain ⟨uv,huv⟩:∃ v,ifz k r.u=v:=⟨_,rfl⟩
 obtain ⟨S,hS⟩:∃ S,ifl k (qI6 r.ss x)=S:=⟨_,rfl⟩
 obtain ⟨L,hL⟩:∃ L,ifl k (qG5 E r.ss r.ls x)=L:=⟨_,rfl⟩
 obtain ⟨n1,hn1e⟩:∃ m,S.length=m:=⟨_,rfl⟩
 obtain ⟨m1,hm1e⟩:∃ m,L.length=m:=⟨_,rfl⟩
 have HLN:Hid (S.length=n1∧L.length=m1):=⟨hn1e,hm1e⟩
 have hn1:n1≤1048576:=by have:=enS_len E cs r x HSL.out.1;rw [hk,hS] at this;omega
 have hm1:m1≤1048576:=by have:=endL_len k E r.ss r.ls x (by rw [HSL.out.2];exact hln2);rw [hL] at this;omega
 have hn1':(n1:Int)≤1048576:=by omega
 have hm1':(m1:Int)≤1048576:=by omega
 have HSP:Hid (∀ (lo hi Lb:Nat) (y:qH5) (W:World),qH3 W Lb r y→CpB lo hi n cs W→Calls Tryz.prog 26 #[.agg #[.int .i64 y.i,.int .i64 y.u,.slice y.sa y.sn y.sc,.slice y.la y.ln y.lc],.slice (some ⟨lo,0,none⟩) n n,.agg #[.int .i64 x.k,.int .i64 x.e,.int .i64 x.f,.int .i64 x.s,.int .i64 x.n]] W fun d w'=>RepN k iv uv S L n1 m1 W d w'):=fun lo hi Lb y W h2 h3=>by
  have:=QO7 x hn HEE.out HRL2.out HSL.out h2 h3
  rw [hk,hiv,huv,hS,hL] at this
  exact this.mono fun d w' q=>q.n HLN.out.1 HLN.out.2
 have HIM:Hid (∀ (lo hi Lb:Nat) (y:qH5) (W:World),(qO1 0 W∧qE2 W)→qH3 W Lb r y→CpB lo hi n cs W→Calls Tryz.prog 27 #[.agg #[.int .i64 y.i,.int .i64 y.u,.slice y.sa y.sn y.sc,.slice y.la y.ln y.lc],.slice (some ⟨lo,0,none⟩) n n,.agg #[.int .i64 x.k,.int .i64 x.e,.int .i64 x.f,.int .i64 x.s,.int .i64 x.n]] W fun d w'=>RepN k iv uv S L n1 m1 W d w'):=fun lo hi Lb y W h1 h2 h3=>by
  have:=QP3 x hn HEE.out HRL2.out HSL.out h1 h2 h3
  rw [hk,hiv,huv,hS,hL] at this
  exact this.mono fun d w' q=>q.n HLN.out.1 HLN.out.2
 clear hEE hk hiv huv hS hL hn1e hm1e
 have hbl0:w.heap.size < w10.heap.size:=by have:=F13.out.le;omega
 have b0:=F13.out.out 0 _ rfl
 have b1:=F13.out.out 1 _ rfl
 have b2:=F13.out.out 2 _ rfl
 have b3:=F13.out.out 3 _ rfl
 have hbl1:w.heap.size+1 < w10.heap.size:=by have:=F14.out.le;omega
 have d0:=F14.out.out 0 _ rfl
 have d1:=F14.out.out 1 _ rfl
 have d2:=F14.out.out 2 _ rfl
 have d3:=F14.out.out 3 _ rfl
 have d4:=F14.out.out 4 _ rfl
 have HTO:Hid (∀ w',(∀ b o,b < w10.heap.size→w'.cell? ⟨b,o,none⟩=w10.cell? ⟨b,o,none⟩)∧Below w10.heap.size w10 w'→Below w.heap.size w w'):=fun w' q=>B11.out.trans (q.2.mono B11.out.size)
 have HBV:Hid (∀ w',(∀ b o,b < w10.heap.size→w'.cell? ⟨b,o,none⟩=w10.cell? ⟨b,o,none⟩)∧Below w10.heap.size w10 w'→Below w10.heap.size w10 w'):=fun w' q=>q.2
 go_upto_region 8 with fail
 go_cut [8] from 26 to 32 (fun s wx=>QS9 k iv uv S L n1 m1 w10 s wx)
 case first =>
  refine wp_region_held_drew (S:=fun w'=>(∀ b o,b < w10.heap.size→w'.cell? ⟨b,o,none⟩=w10.cell? ⟨b,o,none⟩)∧Below w10.heap.size w10 w') (by kernel_rfl) (qB4 _) (fun hHeld=>?_)
  refine Zk.go [0,2,4] ?_
  iterate 3
   refine Zk.st (v:=?_) rfl ?_ ?_
   rotate_left 1
   ·intro w hSw;(try dsimp only at hSw);go_simp;try (with_reducible rfl)
   try simp only [Act.put,zA,zB,zC,zD,zE,zF]
  refine Zk.fin ?_
  refine wpAnyH_ready (rs:=[1,7]) (by kernel_rfl) (by simp) ?_
  refine AllReadyH.cons rfl (fun K hK=>?_) (AllReadyH.cons rfl (fun K hK=>?_) AllReadyH.nil)
  ·go_simp
   refine (qO5 r _ HRL2.out (HRI.out.below (HTO.out _ (by assumption)))).mono ?_
   rintro d y0 ⟨yc,Lc,rfl,hLc,hyc,hby0⟩
   have hS:=qA0 (by assumption) hby0
   have hzy0:=hby0.size
   have EC:qD6 (fun X=>qH3 X Lc r yc) y0:=⟨hyc,fun X X' h hb=>h.below hb⟩
   clear hyc
   have hSy0:=hS
   refine hK.out _ _ hS (fun hHeld=>?_)
   clear hK K
   try simp only [Act.put,zA,zB,zC,zD,zE,zF]
   refine wpAnyH_ready (rs:=[3,7]) (by kernel_rfl) (by simp) ?_
   refine AllReadyH.cons rfl (fun K hK=>?_) (AllReadyH.cons rfl (fun K hK=>?_) AllReadyH.nil)
   ·go_simp
    refine (qO6 a n cap cs _ hn HLE1.out (HCI.out.below (HTO.out _ (by assumption)))).mono ?_
    rintro d y1 ⟨loc,hic,rfl,EF,hby1⟩
    have hS:=qA0 (by assumption) hby1
    have hzy1:=hby1.size
    replace EC:=(by first | exact EC | exact EC.alloc _:qD6 _ _).below hby1
    have hSy1:=hS
    refine hK.out _ _ hS (fun hHeld=>?_)
    clear hK K
    try simp only [Act.put,zA,zB,zC,zD,zE,zF]
    refine wpAnyH_ready (rs:=[5,7]) (by kernel_rfl) (by simp) ?_
    refine AllReadyH.cons rfl (fun K hK=>?_) (AllReadyH.cons rfl (fun K hK=>?_) AllReadyH.nil)
    ·go_simp
     refine (qE9 x _).mono ?_
     rintro d y2 ⟨rfl,hby2⟩
     have hS:=qA0 (by assumption) hby2
     have hzy2:=hby2.size
     replace EC:=(by first | exact EC | exact EC.alloc _:qD6 _ _).below hby2
     replace EF:=(by first | exact EF | exact EF.alloc _:qD6 _ _).below hby2
     have hSy2:=hS
     refine hK.out _ _ hS (fun hHeld=>?_)
     clear hK K
     try simp only [Act.put,zA,zB,zC,zD,zE,zF]
     refine wpAnyH_ready (rs:=[6,7]) (by kernel_rfl) (by simp) ?_
     refine AllReadyH.cons rfl (fun K hK=>?_) (AllReadyH.cons rfl (fun K hK=>?_) AllReadyH.nil)
     ·go_simp
      refine (HSP.out _ _ _ _ _ (by first | exact EC.out | exact (EC.alloc _).out) (by first | exact EF.out | exact (EF.alloc _).out)).mono ?_
      rintro d y3 ⟨za,zc,zla,zlc,rfl,ho1,ho2,hby3⟩
      have hS:=qA0 (by assumption) hby3
      have hzy3:=hby3.size
      replace EC:=(by first | exact EC | exact EC.alloc _:qD6 _ _).below hby3
      replace EF:=(by first | exact EF | exact EF.alloc _:qD6 _ _).below hby3
      have hSy3:=hS
      refine hK.out _ _ hS (fun hHeld=>?_)
      clear hK K
      try simp only [Act.put,zA,zB,zC,zD,zE,zF]
      refine Zk.rd (i:=7) rfl (fun K hK=>?_)
      go_simp
      have hS:=qL4 (by assumption) (.cells #[.int .i64 0,.int .i64 0,.int .i64 0,.slice none 0 0,.slice none 0 0] 47)
      refine hK.out _ _ hS (fun hHeld=>?_)
      clear hK K
      try simp only [Act.put,zA,zB,zC,zD,zE,zF]
      refine Zk.rd (i:=8) rfl (fun K hK=>?_)
      go_simp
      have hS:=qL4 hSy3 (.cells #[.int .i64 k,.int .i64 iv,.int .i64 uv,.slice za n1 zc,.slice zla m1 zlc] 47)
      refine hK.out _ _ hS (fun hHeld=>?_)
      clear hK K
      try simp only [Act.put,zA,zB,zC,zD,zE,zF]
      refine wpAnyH_done (by kernel_rfl) ?_ _
      go_wp2_with fail
      go_meet
      exact QS9.post ho1 ho2 (by first | exact Nat.le_refl _ | exact hSy2.2.size) hSy3.2
     ·go_simp
      have hS:=qL4 (by assumption) (.cells #[.int .i64 0,.int .i64 0,.int .i64 0,.slice none 0 0,.slice none 0 0] 47)
      refine hK.out _ _ hS (fun hHeld=>?_)
      clear hK K
      try simp only [Act.put,zA,zB,zC,zD,zE,zF]
      refine Zk.rd (i:=6) rfl (fun K hK=>?_)
      go_simp
      refine (HSP.out _ _ _ _ _ (by first | exact EC.out | exact (EC.alloc _).out) (by first | exact EF.out | exact (EF.alloc _).out)).mono ?_
      rintro d y3 ⟨za,zc,zla,zlc,rfl,ho1,ho2,hby3⟩
      have hS:=qA0 (by assumption) hby3
      have hzy3:=hby3.size
      replace EC:=(by first | exact EC | exact EC.alloc _:qD6 _ _).below hby3
      replace EF:=(by first | exact EF | exact EF.alloc _:qD6 _ _).below hby3
      have hzB:Hid (qG2 y2.heap.size [.int .i64 0,.int .i64 0,.int .i64 0,.slice none 0 0,.slice none 0 0] y3):=(qE0 _ #[.int .i64 0,.int .i64 0,.int .i64 0,.slice none 0 0,.slice none 0 0] 47).below (by simp) hby3
      have hqn:y2.heap.size < y3.heap.size:=by have q:=hby3.size;simp at q;omega
      have hgB:w10.heap.size≤y2.heap.size:=hSy2.2.size
      have nb0:=hzB.out.1 0 _ rfl
      have fb0:=hzB.out.2 0
      have nb1:=hzB.out.1 1 _ rfl
      have fb1:=hzB.out.2 1
      have nb2:=hzB.out.1 2 _ rfl
      have fb2:=hzB.out.2 2
      have nb3:=hzB.out.1 3 _ rfl
      have fb3:=hzB.out.2 3
      have nb4:=hzB.out.1 4 _ rfl
      have fb4:=hzB.out.2 4
      have hSy3:=hS
      refine hK.out _ _ hS (fun hHeld=>?_)
      clear hK K
      try simp only [Act.put,zA,zB,zC,zD,zE,zF]
      refine Zk.rd (i:=8) rfl (fun K hK=>?_)
      go_simp
      have hS:=(qB9 (qB9 (qB9 (qB9 (qB9 hSy3 (p:=⟨y2.heap.size,0,none⟩) hgB (.int .i64 k)) (p:=⟨y2.heap.size,1,none⟩) hgB (.int .i64 iv)) (p:=⟨y2.heap.size,2,none⟩) hgB (.int .i64 uv)) (p:=⟨y2.heap.size,3,none⟩) hgB (.slice za n1 zc)) (p:=⟨y2.heap.size,4,none⟩) hgB (.slice zla m1 zlc))
      refine hK.out _ _ hS (fun hHeld=>?_)
      clear hK K
      try simp only [Act.put,zA,zB,zC,zD,zE,zF]
      refine wpAnyH_done (by kernel_rfl) ?_ _
      go_wp2_with fail
      go_meet
      exact QS9.pre hzB.out hgB (by simp) hqn ho1 ho2 hSy3.2
    ·go_simp
     have hS:=qL4 (by assumption) (.cells #[.int .i64 0,.int .i64 0,.int .i64 0,.slice none 0 0,.slice none 0 0] 47)
     refine hK.out _ _ hS (fun hHeld=>?_)
     clear hK K
     try simp only [Act.put,zA,zB,zC,zD,zE,zF]
     refine Zk.rd (i:=5) rfl (fun K hK=>?_)
     go_simp
     refine (qE9 x _).mono ?_
     rintro d y2 ⟨rfl,hby2⟩
     have hS:=qA0 (by assumption) hby2
     have hzy2:=hby2.size
     replace EC:=(by first | exact EC | exact EC.alloc _:qD6 _ _).below hby2
     replace EF:=(by first | exact EF | exact EF.alloc _:qD6 _ _).below hby2
     have hzB:Hid (qG2 y1.heap.size [.int .i64 0,.int .i64 0,.int .i64 0,.slice none 0 0,.slice none 0 0] y2):=(qE0 _ #[.int .i64 0,.int .i64 0,.int .i64 0,.slice none 0 0,.slice none 0 0] 47).below (by simp) hby2
     have hqn:y1.heap.size < y2.heap.size:=by have q:=hby2.size;simp at q;omega
     have hgB:w10.heap.size≤y1.heap.size:=hSy1.2.size
     have hSy2:=hS
     refine hK.out _ _ hS (fun hHeld=>?_)
     clear hK K
     try simp only [Act.put,zA,zB,zC,zD,zE,zF]
     refine Zk.rd (i:=6) rfl (fun K hK=>?_)
     go_simp
     refine (HSP.out _ _ _ _ _ (by first | exact EC.out | exact (EC.alloc _).out) (by first | exact EF.out | exact (EF.alloc _).out)).mono ?_
     rintro d y3 ⟨za,zc,zla,zlc,rfl,ho1,ho2,hby3⟩
     have hS:=qA0 (by assumption) hby3
     have hzy3:=hby3.size
     replace EC:=(by first | exact EC | exact EC.alloc _:qD6 _ _).below hby3
     replace EF:=(by first | exact EF | exact EF.alloc _:qD6 _ _).below hby3
     have hzB:Hid (qG2 y1.heap.size [.int .i64 0,.int .i64 0,.int .i64 0,.slice none 0 0,.slice none 0 0] y3):=hzB.out.below hqn hby3
     have hqo:=hqn
     replace hqn:y1.heap.size < y3.heap.size:=by omega
     have nb0:=hzB.out.1 0 _ rfl
     have fb0:=hzB.out.2 0
     have nb1:=hzB.out.1 1 _ rfl
     have fb1:=hzB.out.2 1
     have nb2:=hzB.out.1 2 _ rfl
     have fb2:=hzB.out.2 2
     have nb3:=hzB.out.1 3 _ rfl
     have fb3:=hzB.out.2 3
     have nb4:=hzB.out.1 4 _ rfl
     have fb4:=hzB.out.2 4
     have hSy3:=hS
     refine hK.out _ _ hS (fun hHeld=>?_)
     clear hK K
     try simp only [Act.put,zA,zB,zC,zD,zE,zF]
     refine Zk.rd (i:=8) rfl (fun K hK=>?_)
     go_simp
     have hS:=(qB9 (qB9 (qB9 (qB9 (qB9 hSy3 (p:=⟨y1.heap.size,0,none⟩) hgB (.int .i64 k)) (p:=⟨y1.heap.size,1,none⟩) hgB (.int .i64 iv)) (p:=⟨y1.heap.size,2,none⟩) hgB (.int .i64 uv)) (p:=⟨y1.heap.size,3,none⟩) hgB (.slice za n1 zc)) (p:=⟨y1.heap.size,4,none⟩) hgB (.slice zla m1 zlc))
     refine hK.out _ _ hS (fun hHeld=>?_)
     clear hK K
     try simp only [Act.put,zA,zB,zC,zD,zE,zF]
     refine wpAnyH_done (by kernel_rfl) ?_ _
     go_wp2_with fail
     go_meet
     exact QS9.pre hzB.out hgB hqo hqn ho1 ho2 hSy3.2
   ·go_simp
    have hS:=qL4 (by assumption) (.cells #[.int .i64 0,.int .i64 0,.int .i64 0,.slice none 0 0,.slice none 0 0] 47)
    refine hK.out _ _ hS (fun hHeld=>?_)
    clear hK K
    try simp only [Act.put,zA,zB,zC,zD,zE,zF]
    refine Zk.rd (i:=3) rfl (fun K hK=>?_)
    go_simp
    refine (qO6 a n cap cs _ hn HLE1.out (HCI.out.below (HTO.out _ (by assumption)))).mono ?_
    rintro d y1 ⟨loc,hic,rfl,EF,hby1⟩
    have hS:=qA0 (by assumption) hby1
    have hzy1:=hby1.size
    replace EC:=(by first | exact EC | exact EC.alloc _:qD6 _ _).below hby1
    have hzB:Hid (qG2 y0.heap.size [.int .i64 0,.int .i64 0,.int .i64 0,.slice none 0 0,.slice none 0 0] y1):=(qE0 _ #[.int .i64 0,.int .i64 0,.int .i64 0,.slice none 0 0,.slice none 0 0] 47).below (by simp) hby1
    have hqn:y0.heap.size < y1.heap.size:=by have q:=hby1.size;simp at q;omega
    have hgB:w10.heap.size≤y0.heap.size:=hSy0.2.size
    have hSy1:=hS
    refine hK.out _ _ hS (fun hHeld=>?_)
    clear hK K
    try simp only [Act.put,zA,zB,zC,zD,zE,zF]
    refine Zk.rd (i:=5) rfl (fun K hK=>?_)
    go_simp
    refine (qE9 x _).mono ?_
    rintro d y2 ⟨rfl,hby2⟩
    have hS:=qA0 (by assumption) hby2
    have hzy2:=hby2.size
    replace EC:=(by first | exact EC | exact EC.alloc _:qD6 _ _).below hby2
    replace EF:=(by first | exact EF | exact EF.alloc _:qD6 _ _).below hby2
    have hzB:Hid (qG2 y0.heap.size [.int .i64 0,.int .i64 0,.int .i64 0,.slice none 0 0,.slice none 0 0] y2):=hzB.out.below hqn hby2
    have hqo:=hqn
    replace hqn:y0.heap.size < y2.heap.size:=by omega
    have hSy2:=hS
    refine hK.out _ _ hS (fun hHeld=>?_)
    clear hK K
    try simp only [Act.put,zA,zB,zC,zD,zE,zF]
    refine Zk.rd (i:=6) rfl (fun K hK=>?_)
    go_simp
    refine (HSP.out _ _ _ _ _ (by first | exact EC.out | exact (EC.alloc _).out) (by first | exact EF.out | exact (EF.alloc _).out)).mono ?_
    rintro d y3 ⟨za,zc,zla,zlc,rfl,ho1,ho2,hby3⟩
    have hS:=qA0 (by assumption) hby3
    have hzy3:=hby3.size
    replace EC:=(by first | exact EC | exact EC.alloc _:qD6 _ _).below hby3
    replace EF:=(by first | exact EF | exact EF.alloc _:qD6 _ _).below hby3
    have hzB:Hid (qG2 y0.heap.size [.int .i64 0,.int .i64 0,.int .i64 0,.slice none 0 0,.slice none 0 0] y3):=hzB.out.below hqn hby3
    have hqo:=hqn
    replace hqn:y0.heap.size < y3.heap.size:=by omega
    have nb0:=hzB.out.1 0 _ rfl
    have fb0:=hzB.out.2 0
    have nb1:=hzB.out.1 1 _ rfl
    have fb1:=hzB.out.2 1
    have nb2:=hzB.out.1 2 _ rfl
    have fb2:=hzB.out.2 2
    have nb3:=hzB.out.1 3 _ rfl
    have fb3:=hzB.out.2 3
    have nb4:=hzB.out.1 4 _ rfl
    have fb4:=hzB.out.2 4
    have hSy3:=hS
    refine hK.out _ _ hS (fun hHeld=>?_)
    clear hK K
    try simp only [Act.put,zA,zB,zC,zD,zE,zF]
    refine Zk.rd (i:=8) rfl (fun K hK=>?_)
    go_simp
    have hS:=(qB9 (qB9 (qB9 (qB9 (qB9 hSy3 (p:=⟨y0.heap.size,0,none⟩) hgB (.int .i64 k)) (p:=⟨y0.heap.size,1,none⟩) hgB (.int .i64 iv)) (p:=⟨y0.heap.size,2,none⟩) hgB (.int .i64 uv)) (p:=⟨y0.heap.size,3,none⟩) hgB (.slice za n1 zc)) (p:=⟨y0.heap.size,4,none⟩) hgB (.slice zla m1 zlc))
    refine hK.out _ _ hS (fun hHeld=>?_)
    clear hK K
    try simp only [Act.put,zA,zB,zC,zD,zE,zF]
    refine wpAnyH_done (by kernel_rfl) ?_ _
    go_wp2_with fail
    go_meet
    exact QS9.pre hzB.out hgB hqo hqn ho1 ho2 hSy3.2
  ·go_simp
   have hS:=qL4 (by assumption) (.cells #[.int .i64 0,.int .i64 0,.int .i64 0,.slice none 0 0,.slice none 0 0] 47)
   refine hK.out _ _ hS (fun hHeld=>?_)
   clear hK K
   try simp only [Act.put,zA,zB,zC,zD,zE,zF]
   refine Zk.rd (i:=1) rfl (fun K hK=>?_)
   go_simp
   refine (qO5 r _ HRL2.out (HRI.out.below (HTO.out _ (by assumption)))).mono ?_
   rintro d y0 ⟨yc,Lc,rfl,hLc,hyc,hby0⟩
   have hS:=qA0 (by assumption) hby0
   have hzy0:=hby0.size
   have EC:qD6 (fun X=>qH3 X Lc r yc) y0:=⟨hyc,fun X X' h hb=>h.below hb⟩
   clear hyc
   have hzB:Hid (qG2 w10.heap.size [.int .i64 0,.int .i64 0,.int .i64 0,.slice none 0 0,.slice none 0 0] y0):=qG2.below (W:=(w10.alloc (.cells #[.int .i64 0,.int .i64 0,.int .i64 0,.slice none 0 0,.slice none 0 0] 47)).drew) (qE0 w10 #[.int .i64 0,.int .i64 0,.int .i64 0,.slice none 0 0,.slice none 0 0] 47) (by simp) hby0
   have hqn:w10.heap.size < y0.heap.size:=by have q:=hby0.size;simp at q;omega
   have hgB:w10.heap.size≤w10.heap.size:=Nat.le_refl _
   have hSy0:=hS
   refine hK.out _ _ hS (fun hHeld=>?_)
   clear hK K
   try simp only [Act.put,zA,zB,zC,zD,zE,zF]
   refine Zk.rd (i:=3) rfl (fun K hK=>?_)
   go_simp
   refine (qO6 a n cap cs _ hn HLE1.out (HCI.out.below (HTO.out _ (by assumption)))).mono ?_
   rintro d y1 ⟨loc,hic,rfl,EF,hby1⟩
   have hS:=qA0 (by assumption) hby1
   have hzy1:=hby1.size
   replace EC:=(by first | exact EC | exact EC.alloc _:qD6 _ _).below hby1
   have hzB:Hid (qG2 w10.heap.size [.int .i64 0,.int .i64 0,.int .i64 0,.slice none 0 0,.slice none 0 0] y1):=hzB.out.below hqn hby1
   have hqo:=hqn
   replace hqn:w10.heap.size < y1.heap.size:=by omega
   have hSy1:=hS
   refine hK.out _ _ hS (fun hHeld=>?_)
   clear hK K
   try simp only [Act.put,zA,zB,zC,zD,zE,zF]
   refine Zk.rd (i:=5) rfl (fun K hK=>?_)
   go_simp
   refine (qE9 x _).mono ?_
   rintro d y2 ⟨rfl,hby2⟩
   have hS:=qA0 (by assumption) hby2
   have hzy2:=hby2.size
   replace EC:=(by first | exact EC | exact EC.alloc _:qD6 _ _).below hby2
   replace EF:=(by first | exact EF | exact EF.alloc _:qD6 _ _).below hby2
   have hzB:Hid (qG2 w10.heap.size [.int .i64 0,.int .i64 0,.int .i64 0,.slice none 0 0,.slice none 0 0] y2):=hzB.out.below hqn hby2
   have hqo:=hqn
   replace hqn:w10.heap.size < y2.heap.size:=by omega
   have hSy2:=hS
   refine hK.out _ _ hS (fun hHeld=>?_)
   clear hK K
   try simp only [Act.put,zA,zB,zC,zD,zE,zF]
   refine Zk.rd (i:=6) rfl (fun K hK=>?_)
   go_simp
   refine (HSP.out _ _ _ _ _ (by first | exact EC.out | exact (EC.alloc _).out) (by first | exact EF.out | exact (EF.alloc _).out)).mono ?_
   rintro d y3 ⟨za,zc,zla,zlc,rfl,ho1,ho2,hby3⟩
   have hS:=qA0 (by assumption) hby3
   have hzy3:=hby3.size
   replace EC:=(by first | exact EC | exact EC.alloc _:qD6 _ _).below hby3
   replace EF:=(by first | exact EF | exact EF.alloc _:qD6 _ _).below hby3
   have hzB:Hid (qG2 w10.heap.size [.int .i64 0,.int .i64 0,.int .i64 0,.slice none 0 0,.slice none 0 0] y3):=hzB.out.below hqn hby3
   have hqo:=hqn
   replace hqn:w10.heap.size < y3.heap.size:=by omega
   have nb0:=hzB.out.1 0 _ rfl
   have fb0:=hzB.out.2 0
   have nb1:=hzB.out.1 1 _ rfl
   have fb1:=hzB.out.2 1
   have nb2:=hzB.out.1 2 _ rfl
   have fb2:=hzB.out.2 2
   have nb3:=hzB.out.1 3 _ rfl
   have fb3:=hzB.out.2 3
   have nb4:=hzB.out.1 4 _ rfl
   have fb4:=hzB.out.2 4
   have hSy3:=hS
   refine hK.out _ _ hS (fun hHeld=>?_)
   clear hK K
   try simp only [Act.put,zA,zB,zC,zD,zE,zF]
   refine Zk.rd (i:=8) rfl (fun K hK=>?_)
   go_simp
   have hS:=(qB9 (qB9 (qB9 (qB9 (qB9 hSy3 (p:=⟨w10.heap.size,0,none⟩) hgB (.int .i64 k)) (p:=⟨w10.heap.size,1,none⟩) hgB (.int .i64 iv)) (p:=⟨w10.heap.size,2,none⟩) hgB (.int .i64 uv)) (p:=⟨w10.heap.size,3,none⟩) hgB (.slice za n1 zc)) (p:=⟨w10.heap.size,4,none⟩) hgB (.slice zla m1 zlc))
   refine hK.out _ _ hS (fun hHeld=>?_)
   clear hK K
   try simp only [Act.put,zA,zB,zC,zD,zE,zF]
   refine wpAnyH_done (by kernel_rfl) ?_ _
   go_wp2_with fail
   go_meet
   exact QS9.pre hzB.out hgB hqo hqn ho1 ho2 hSy3.2
 case rest =>
  obtain ⟨U15,rfl⟩:∃ U,U=wc:=⟨_,rfl⟩
  obtain ⟨rBW,rloW,rhiW,saW,scW,laW,lcW,rfl,hgeW,hglW,hsdW,hbx,ho1,ho2,hGW,hb⟩:=hcut
  have B16:Hid (Below w.heap.size w U15):=B11.out.trans (hb.mono B11.out.size)
  have hz17:=hb.size
  have F18:Hid (qC2 (w.heap.size) (w.heap.size+1) (qE8 (w.heap.size) [.int .i64 r.i,.int .i64 r.u,.slice r.sa r.sn r.sc,.slice r.la r.ln r.lc]) U15):=F13.out.below hb
  have F19:Hid (qC2 (w.heap.size+1) (w.heap.size+1+1) (qE8 (w.heap.size+1) [.int .i64 x.k,.int .i64 x.e,.int .i64 x.f,.int .i64 x.s,.int .i64 x.n]) U15):=F14.out.below hb
  clear B11 F13 F14
  have F20:Hid (qC2 (rBW) (rBW+1) (qE8 rBW [.int .i64 k,.int .i64 iv,.int .i64 uv,.slice saW n1 scW,.slice laW m1 lcW]) U15):=hbx
  have hl21:=F20.out.le
  have F22:Hid (qC2 (rloW) (rhiW) (fun X=>qB1 X rloW (.slice saW n1 scW) S) U15):=ho1
  have hl23:=F22.out.le
  have F24:Hid (qC2 (rloW) (rhiW) (fun X=>qA4 X rloW (.slice laW m1 lcW) L) U15):=ho2
  have hl25:=F24.out.le
  have GW:Hid ((∀ g,(Value.slice saW n1 scW).ownBlock=some g→g < rhiW)∧∀ g,(Value.slice laW m1 lcW).ownBlock=some g→g < rhiW):=hGW
  clear hbx ho1 ho2 hGW hb HTO HBV b0 b1 b2 b3 hbl0 d0 d1 d2 d3 d4 hbl1
  clear HSP
  have hbl0:w.heap.size < U15.heap.size:=by have:=F18.out.le;omega
  have b0:=F18.out.out 0 _ rfl
  have b1:=F18.out.out 1 _ rfl
  have b2:=F18.out.out 2 _ rfl
  have b3:=F18.out.out 3 _ rfl
  go_wp2_with fail
  refine (qO5 r _ HRL2.out (HRI.out.below B16.out)).mono ?_
  rintro e w28 ⟨y26,Lb27,rfl,hLb,hy,hb⟩
  have B29:Hid (Below w.heap.size w w28):=B16.out.trans (hb.mono B16.out.size)
  have hz30:=hb.size
  have F31:Hid (qC2 (w.heap.size) (w.heap.size+1) (qE8 (w.heap.size) [.int .i64 r.i,.int .i64 r.u,.slice r.sa r.sn r.sc,.slice r.la r.ln r.lc]) w28):=F18.out.below hb
  have F32:Hid (qC2 (w.heap.size+1) (w.heap.size+1+1) (qE8 (w.heap.size+1) [.int .i64 x.k,.int .i64 x.e,.int .i64 x.f,.int .i64 x.s,.int .i64 x.n]) w28):=F19.out.below hb
  have F33:Hid (qC2 (rBW) (rBW+1) (qE8 rBW [.int .i64 k,.int .i64 iv,.int .i64 uv,.slice saW n1 scW,.slice laW m1 lcW]) w28):=F20.out.below hb
  have F34:Hid (qC2 (rloW) (rhiW) (fun X=>qB1 X rloW (.slice saW n1 scW) S) w28):=F22.out.below hb
  have F35:Hid (qC2 (rloW) (rhiW) (fun X=>qA4 X rloW (.slice laW m1 lcW) L) w28):=F24.out.below hb
  clear B16 F18 F19 F20 F22 F24
  clear hb b0 b1 b2 b3 hbl0
  have F36:Hid (qD6 (fun X=>qH3 X Lb27 r y26) w28):=⟨hy,fun X X' h hb=>h.below hb⟩
  obtain ⟨xg0,hxg0⟩:∃ g,g=U15.heap.size:=⟨_,rfl⟩
  obtain ⟨xh0,hxh0⟩:∃ g,g=w28.heap.size:=⟨_,rfl⟩
  have HH0:Hid ((∀ g,y26.la=some ⟨g,0,none⟩→g < xh0)∧Lb27 < xh0∧xg0≤Lb27):=⟨fun g e=>by obtain ⟨b0,o0,e1,h1⟩:=newAt hy _ e;cases e1;omega,by have:=hy.slt;omega,by omega⟩
  have hgx0:U15.heap.size≤xg0∧xg0 < xh0∧xh0≤w28.heap.size:=by have:=HH0.out.2;omega
  clear hy hxg0 hxh0 hLb
  go_upto_region 10 with fail
  obtain ⟨w37,hX⟩:∃ X,X=w28.alloc (.cells #[.int .i64 y26.i,.int .i64 y26.u,.slice y26.sa y26.sn y26.sc,.slice y26.la y26.ln y26.lc] 33):=⟨_,rfl⟩
  rw [← hX]
  have hb:Below w28.heap.size w28 w37:=by rw [hX];exact zN
  have hbx:qC2 w28.heap.size (w28.heap.size+1) (qE8 w28.heap.size [.int .i64 y26.i,.int .i64 y26.u,.slice y26.sa y26.sn y26.sc,.slice y26.la y26.ln y26.lc]) w37:=by rw [hX];exact qF2 w28 #[.int .i64 y26.i,.int .i64 y26.u,.slice y26.sa y26.sn y26.sc,.slice y26.la y26.ln y26.lc] 33
  clear hX
  have B38:Hid (Below w.heap.size w w37):=B29.out.trans (hb.mono B29.out.size)
  have hz39:=hb.size
  have F40:Hid (qC2 (w.heap.size) (w.heap.size+1) (qE8 (w.heap.size) [.int .i64 r.i,.int .i64 r.u,.slice r.sa r.sn r.sc,.slice r.la r.ln r.lc]) w37):=F31.out.below hb
  have F41:Hid (qC2 (w.heap.size+1) (w.heap.size+1+1) (qE8 (w.heap.size+1) [.int .i64 x.k,.int .i64 x.e,.int .i64 x.f,.int .i64 x.s,.int .i64 x.n]) w37):=F32.out.below hb
  have F42:Hid (qC2 (rBW) (rBW+1) (qE8 rBW [.int .i64 k,.int .i64 iv,.int .i64 uv,.slice saW n1 scW,.slice laW m1 lcW]) w37):=F33.out.below hb
  have F43:Hid (qC2 (rloW) (rhiW) (fun X=>qB1 X rloW (.slice saW n1 scW) S) w37):=F34.out.below hb
  have F44:Hid (qC2 (rloW) (rhiW) (fun X=>qA4 X rloW (.slice laW m1 lcW) L) w37):=F35.out.below hb
  have F45:Hid (qD6 (fun X=>qH3 X Lb27 r y26) w37):=F36.out.below hb
  clear B29 F31 F32 F33 F34 F35 F36
  have F46:Hid (qC2 (w28.heap.size) (w28.heap.size+1) (qE8 w28.heap.size [.int .i64 y26.i,.int .i64 y26.u,.slice y26.sa y26.sn y26.sc,.slice y26.la y26.ln y26.lc]) w37):=hbx
  have hl47:=F46.out.le
  clear hbx hb
  go_wp2_with fail
  refine (QB7 a n cap cs _ hn HLE1.out (HCI.out.below B38.out)).mono ?_
  rintro e w48 ⟨rfl,dsT,hct⟩
  have hb:=hct.bl
  have hlt:=hct.lt
  have B49:Hid (Below w.heap.size w w48):=B38.out.trans (hb.mono B38.out.size)
  have hz50:=hb.size
  have F51:Hid (qC2 (w.heap.size) (w.heap.size+1) (qE8 (w.heap.size) [.int .i64 r.i,.int .i64 r.u,.slice r.sa r.sn r.sc,.slice r.la r.ln r.lc]) w48):=F40.out.below hb
  have F52:Hid (qC2 (w.heap.size+1) (w.heap.size+1+1) (qE8 (w.heap.size+1) [.int .i64 x.k,.int .i64 x.e,.int .i64 x.f,.int .i64 x.s,.int .i64 x.n]) w48):=F41.out.below hb
  have F53:Hid (qC2 (rBW) (rBW+1) (qE8 rBW [.int .i64 k,.int .i64 iv,.int .i64 uv,.slice saW n1 scW,.slice laW m1 lcW]) w48):=F42.out.below hb
  have F54:Hid (qC2 (rloW) (rhiW) (fun X=>qB1 X rloW (.slice saW n1 scW) S) w48):=F43.out.below hb
  have F55:Hid (qC2 (rloW) (rhiW) (fun X=>qA4 X rloW (.slice laW m1 lcW) L) w48):=F44.out.below hb
  have F56:Hid (qD6 (fun X=>qH3 X Lb27 r y26) w48):=F45.out.below hb
  have F57:Hid (qC2 (w28.heap.size) (w28.heap.size+1) (qE8 w28.heap.size [.int .i64 y26.i,.int .i64 y26.u,.slice y26.sa y26.sn y26.sc,.slice y26.la y26.ln y26.lc]) w48):=F46.out.below hb
  clear B38 F40 F41 F42 F43 F44 F45 F46
  obtain ⟨xg1,hxg1⟩:∃ g,g=w37.heap.size:=⟨_,rfl⟩
  obtain ⟨xh1,hxh1⟩:∃ g,g=w48.heap.size:=⟨_,rfl⟩
  have hgx1:w37.heap.size≤xg1∧xg1 < xh1∧xh1≤w48.heap.size:=by omega
  have F58:Hid (qD6 (CpB xg1 xh1 n cs) w48):=by rw [hxg1,hxh1];exact hct.cpB hn HCI.out HLE1.out
  have F59:Hid (qC2 (xg1) (xh1) (fun X=>∃ ds,TabL xg1 xh1 X xg1 n ds) w48):=by rw [hxg1,hxh1];exact hct.tabH hn HCI.out HLE1.out
  have hl60:=F59.out.le
  rw [← hxg1]
  clear hb hlt hct hxg1 hxh1
  have hxbl:w28.heap.size < w48.heap.size:=by have:=F57.out.le;omega
  have xb0:=F57.out.out 0 _ rfl
  have xb1:=F57.out.out 1 _ rfl
  have xb2:=F57.out.out 2 _ rfl
  have xb3:=F57.out.out 3 _ rfl
  have hbl1:w.heap.size+1 < w48.heap.size:=by have:=F52.out.le;omega
  have d0:=F52.out.out 0 _ rfl
  have d1:=F52.out.out 1 _ rfl
  have d2:=F52.out.out 2 _ rfl
  have d3:=F52.out.out 3 _ rfl
  have d4:=F52.out.out 4 _ rfl
  have HTO:Hid (∀ w',(∀ b o,b < w48.heap.size→w'.cell? ⟨b,o,none⟩=w48.cell? ⟨b,o,none⟩)∧Below w48.heap.size w48 w'→Below w.heap.size w w'):=fun w' q=>B49.out.trans (q.2.mono B49.out.size)
  have HBV:Hid (∀ w',(∀ b o,b < w48.heap.size→w'.cell? ⟨b,o,none⟩=w48.cell? ⟨b,o,none⟩)∧Below w48.heap.size w48 w'→Below w48.heap.size w48 w'):=fun w' q=>q.2
  go_upto_region 11 with fail
  go_cut [11] from 37 to 41 (fun s wx=>QS9 k iv uv S L n1 m1 w48 s wx)
  case first =>
   refine wp_region_held_drew (S:=fun w'=>(∀ b o,b < w48.heap.size→w'.cell? ⟨b,o,none⟩=w48.cell? ⟨b,o,none⟩)∧Below w48.heap.size w48 w') (by kernel_rfl) (qB4 _) (fun hHeld=>?_)
   refine Zk.go [0,1,2] ?_
   iterate 3
    refine Zk.st (v:=?_) rfl ?_ ?_
    rotate_left 1
    ·intro w hSw;(try dsimp only at hSw);go_simp;try (with_reducible rfl)
    try simp only [Act.put,zA,zB,zC,zD,zE,zF]
   refine Zk.fin ?_
   refine wpAnyH_ready (rs:=[3,5]) (by kernel_rfl) (by simp) ?_
   refine AllReadyH.cons rfl (fun K hK=>?_) (AllReadyH.cons rfl (fun K hK=>?_) AllReadyH.nil)
   ·go_simp
    refine (qE9 x _).mono ?_
    rintro d y0 ⟨rfl,hby0⟩
    have hS:=qA0 (by assumption) hby0
    have hzy0:=hby0.size
    have hSy0:=hS
    refine hK.out _ _ hS (fun hHeld=>?_)
    clear hK K
    try simp only [Act.put,zA,zB,zC,zD,zE,zF]
    refine wpAnyH_ready (rs:=[4,5]) (by kernel_rfl) (by simp) ?_
    refine AllReadyH.cons rfl (fun K hK=>?_) (AllReadyH.cons rfl (fun K hK=>?_) AllReadyH.nil)
    ·go_simp
     refine (HIM.out _ _ _ _ _ ⟨HER.out.1.below (HTO.out _ (by assumption)),HER.out.2.below (HTO.out _ (by assumption))⟩ (F56.out.below (HBV.out _ (by assumption))).out (F58.out.below (HBV.out _ (by assumption))).out).mono ?_
     rintro d y1 ⟨za,zc,zla,zlc,rfl,ho1,ho2,hby1⟩
     have hS:=qA0 (by assumption) hby1
     have hzy1:=hby1.size
     have hSy1:=hS
     refine hK.out _ _ hS (fun hHeld=>?_)
     clear hK K
     try simp only [Act.put,zA,zB,zC,zD,zE,zF]
     refine Zk.rd (i:=5) rfl (fun K hK=>?_)
     go_simp
     have hS:=qL4 (by assumption) (.cells #[.int .i64 0,.int .i64 0,.int .i64 0,.slice none 0 0,.slice none 0 0] 47)
     refine hK.out _ _ hS (fun hHeld=>?_)
     clear hK K
     try simp only [Act.put,zA,zB,zC,zD,zE,zF]
     refine Zk.rd (i:=6) rfl (fun K hK=>?_)
     go_simp
     have hS:=qL4 hSy1 (.cells #[.int .i64 k,.int .i64 iv,.int .i64 uv,.slice za n1 zc,.slice zla m1 zlc] 47)
     refine hK.out _ _ hS (fun hHeld=>?_)
     clear hK K
     try simp only [Act.put,zA,zB,zC,zD,zE,zF]
     refine wpAnyH_done (by kernel_rfl) ?_ _
     go_wp2_with fail
     go_meet
     exact QS9.post ho1 ho2 (by first | exact Nat.le_refl _ | exact hSy0.2.size) hSy1.2
    ·go_simp
     have hS:=qL4 (by assumption) (.cells #[.int .i64 0,.int .i64 0,.int .i64 0,.slice none 0 0,.slice none 0 0] 47)
     refine hK.out _ _ hS (fun hHeld=>?_)
     clear hK K
     try simp only [Act.put,zA,zB,zC,zD,zE,zF]
     refine Zk.rd (i:=4) rfl (fun K hK=>?_)
     go_simp
     refine (HIM.out _ _ _ _ _ ⟨HER.out.1.below (HTO.out _ (by assumption)),HER.out.2.below (HTO.out _ (by assumption))⟩ (F56.out.below (HBV.out _ (by assumption))).out (F58.out.below (HBV.out _ (by assumption))).out).mono ?_
     rintro d y1 ⟨za,zc,zla,zlc,rfl,ho1,ho2,hby1⟩
     have hS:=qA0 (by assumption) hby1
     have hzy1:=hby1.size
     have hzB:Hid (qG2 y0.heap.size [.int .i64 0,.int .i64 0,.int .i64 0,.slice none 0 0,.slice none 0 0] y1):=(qE0 _ #[.int .i64 0,.int .i64 0,.int .i64 0,.slice none 0 0,.slice none 0 0] 47).below (by simp) hby1
     have hqn:y0.heap.size < y1.heap.size:=by have q:=hby1.size;simp at q;omega
     have hgB:w48.heap.size≤y0.heap.size:=hSy0.2.size
     have nb0:=hzB.out.1 0 _ rfl
     have fb0:=hzB.out.2 0
     have nb1:=hzB.out.1 1 _ rfl
     have fb1:=hzB.out.2 1
     have nb2:=hzB.out.1 2 _ rfl
     have fb2:=hzB.out.2 2
     have nb3:=hzB.out.1 3 _ rfl
     have fb3:=hzB.out.2 3
     have nb4:=hzB.out.1 4 _ rfl
     have fb4:=hzB.out.2 4
     have hSy1:=hS
     refine hK.out _ _ hS (fun hHeld=>?_)
     clear hK K
     try simp only [Act.put,zA,zB,zC,zD,zE,zF]
     refine Zk.rd (i:=6) rfl (fun K hK=>?_)
     go_simp
     have hS:=(qB9 (qB9 (qB9 (qB9 (qB9 hSy1 (p:=⟨y0.heap.size,0,none⟩) hgB (.int .i64 k)) (p:=⟨y0.heap.size,1,none⟩) hgB (.int .i64 iv)) (p:=⟨y0.heap.size,2,none⟩) hgB (.int .i64 uv)) (p:=⟨y0.heap.size,3,none⟩) hgB (.slice za n1 zc)) (p:=⟨y0.heap.size,4,none⟩) hgB (.slice zla m1 zlc))
     refine hK.out _ _ hS (fun hHeld=>?_)
     clear hK K
     try simp only [Act.put,zA,zB,zC,zD,zE,zF]
     refine wpAnyH_done (by kernel_rfl) ?_ _
     go_wp2_with fail
     go_meet
     exact QS9.pre hzB.out hgB (by simp) hqn ho1 ho2 hSy1.2
   ·go_simp
    have hS:=qL4 (by assumption) (.cells #[.int .i64 0,.int .i64 0,.int .i64 0,.slice none 0 0,.slice none 0 0] 47)
    refine hK.out _ _ hS (fun hHeld=>?_)
    clear hK K
    try simp only [Act.put,zA,zB,zC,zD,zE,zF]
    refine Zk.rd (i:=3) rfl (fun K hK=>?_)
    go_simp
    refine (qE9 x _).mono ?_
    rintro d y0 ⟨rfl,hby0⟩
    have hS:=qA0 (by assumption) hby0
    have hzy0:=hby0.size
    have hzB:Hid (qG2 w48.heap.size [.int .i64 0,.int .i64 0,.int .i64 0,.slice none 0 0,.slice none 0 0] y0):=qG2.below (W:=(w48.alloc (.cells #[.int .i64 0,.int .i64 0,.int .i64 0,.slice none 0 0,.slice none 0 0] 47)).drew) (qE0 w48 #[.int .i64 0,.int .i64 0,.int .i64 0,.slice none 0 0,.slice none 0 0] 47) (by simp) hby0
    have hqn:w48.heap.size < y0.heap.size:=by have q:=hby0.size;simp at q;omega
    have hgB:w48.heap.size≤w48.heap.size:=Nat.le_refl _
    have hSy0:=hS
    refine hK.out _ _ hS (fun hHeld=>?_)
    clear hK K
    try simp only [Act.put,zA,zB,zC,zD,zE,zF]
    refine Zk.rd (i:=4) rfl (fun K hK=>?_)
    go_simp
    refine (HIM.out _ _ _ _ _ ⟨HER.out.1.below (HTO.out _ (by assumption)),HER.out.2.below (HTO.out _ (by assumption))⟩ (F56.out.below (HBV.out _ (by assumption))).out (F58.out.below (HBV.out _ (by assumption))).out).mono ?_
    rintro d y1 ⟨za,zc,zla,zlc,rfl,ho1,ho2,hby1⟩
    have hS:=qA0 (by assumption) hby1
    have hzy1:=hby1.size
    have hzB:Hid (qG2 w48.heap.size [.int .i64 0,.int .i64 0,.int .i64 0,.slice none 0 0,.slice none 0 0] y1):=hzB.out.below hqn hby1
    have hqo:=hqn
    replace hqn:w48.heap.size < y1.heap.size:=by omega
    have nb0:=hzB.out.1 0 _ rfl
    have fb0:=hzB.out.2 0
    have nb1:=hzB.out.1 1 _ rfl
    have fb1:=hzB.out.2 1
    have nb2:=hzB.out.1 2 _ rfl
    have fb2:=hzB.out.2 2
    have nb3:=hzB.out.1 3 _ rfl
    have fb3:=hzB.out.2 3
    have nb4:=hzB.out.1 4 _ rfl
    have fb4:=hzB.out.2 4
    have hSy1:=hS
    refine hK.out _ _ hS (fun hHeld=>?_)
    clear hK K
    try simp only [Act.put,zA,zB,zC,zD,zE,zF]
    refine Zk.rd (i:=6) rfl (fun K hK=>?_)
    go_simp
    have hS:=(qB9 (qB9 (qB9 (qB9 (qB9 hSy1 (p:=⟨w48.heap.size,0,none⟩) hgB (.int .i64 k)) (p:=⟨w48.heap.size,1,none⟩) hgB (.int .i64 iv)) (p:=⟨w48.heap.size,2,none⟩) hgB (.int .i64 uv)) (p:=⟨w48.heap.size,3,none⟩) hgB (.slice za n1 zc)) (p:=⟨w48.heap.size,4,none⟩) hgB (.slice zla m1 zlc))
    refine hK.out _ _ hS (fun hHeld=>?_)
    clear hK K
    try simp only [Act.put,zA,zB,zC,zD,zE,zF]
    refine wpAnyH_done (by kernel_rfl) ?_ _
    go_wp2_with fail
    go_meet
    exact QS9.pre hzB.out hgB hqo hqn ho1 ho2 hSy1.2
  case rest =>
   obtain ⟨U61,rfl⟩:∃ U,U=wc:=⟨_,rfl⟩
   obtain ⟨rBI,rloI,rhiI,saI,scI,laI,lcI,rfl,hgeI,hglI,hsdI,hbx,ho1,ho2,hGI,hb⟩:=hcut
   have B62:Hid (Below w.heap.size w U61):=B49.out.trans (hb.mono B49.out.size)
   have hz63:=hb.size
   have F64:Hid (qC2 (w.heap.size) (w.heap.size+1) (qE8 (w.heap.size) [.int .i64 r.i,.int .i64 r.u,.slice r.sa r.sn r.sc,.slice r.la r.ln r.lc]) U61):=F51.out.below hb
   have F65:Hid (qC2 (w.heap.size+1) (w.heap.size+1+1) (qE8 (w.heap.size+1) [.int .i64 x.k,.int .i64 x.e,.int .i64 x.f,.int .i64 x.s,.int .i64 x.n]) U61):=F52.out.below hb
   have F66:Hid (qC2 (rBW) (rBW+1) (qE8 rBW [.int .i64 k,.int .i64 iv,.int .i64 uv,.slice saW n1 scW,.slice laW m1 lcW]) U61):=F53.out.below hb
   have F67:Hid (qC2 (rloW) (rhiW) (fun X=>qB1 X rloW (.slice saW n1 scW) S) U61):=F54.out.below hb
   have F68:Hid (qC2 (rloW) (rhiW) (fun X=>qA4 X rloW (.slice laW m1 lcW) L) U61):=F55.out.below hb
   have F69:Hid (qD6 (fun X=>qH3 X Lb27 r y26) U61):=F56.out.below hb
   have F70:Hid (qC2 (w28.heap.size) (w28.heap.size+1) (qE8 w28.heap.size [.int .i64 y26.i,.int .i64 y26.u,.slice y26.sa y26.sn y26.sc,.slice y26.la y26.ln y26.lc]) U61):=F57.out.below hb
   have F71:Hid (qD6 (CpB xg1 xh1 n cs) U61):=F58.out.below hb
   have F72:Hid (qC2 (xg1) (xh1) (fun X=>∃ ds,TabL xg1 xh1 X xg1 n ds) U61):=F59.out.below hb
   clear B49 F51 F52 F53 F54 F55 F56 F57 F58 F59
   have F73:Hid (qC2 (rBI) (rBI+1) (qE8 rBI [.int .i64 k,.int .i64 iv,.int .i64 uv,.slice saI n1 scI,.slice laI m1 lcI]) U61):=hbx
   have hl74:=F73.out.le
   have F75:Hid (qC2 (rloI) (rhiI) (fun X=>qB1 X rloI (.slice saI n1 scI) S) U61):=ho1
   have hl76:=F75.out.le
   have F77:Hid (qC2 (rloI) (rhiI) (fun X=>qA4 X rloI (.slice laI m1 lcI) L) U61):=ho2
   have hl78:=F77.out.le
   have GI:Hid ((∀ g,(Value.slice saI n1 scI).ownBlock=some g→g < rhiI)∧∀ g,(Value.slice laI m1 lcI).ownBlock=some g→g < rhiI):=hGI
   clear hbx ho1 ho2 hGI hb HTO HBV xb0 xb1 xb2 xb3 hxbl d0 d1 d2 d3 d4 hbl1
   have hpl:rBI < U61.heap.size:=by have:=F73.out.le;omega
   have p0:=F73.out.out 0 _ rfl
   have p1:=F73.out.out 1 _ rfl
   have p2:=F73.out.out 2 _ rfl
   have p3:=F73.out.out 3 _ rfl
   have p4:=F73.out.out 4 _ rfl
   have hql:rBW < U61.heap.size:=by have:=F66.out.le;omega
   have q0:=F66.out.out 0 _ rfl
   have q1:=F66.out.out 1 _ rfl
   have q2:=F66.out.out 2 _ rfl
   have q3:=F66.out.out 3 _ rfl
   have q4:=F66.out.out 4 _ rfl
   go_wp2_with fail
   refine (qZ1 k iv uv saI saW n1 scI scW S laI laW m1 lcI lcW L _ hn1 hm1 ((qB1.view F75.out.out).isIn HLN.out.1) ((qB1.view F67.out.out).isIn HLN.out.1) ((qA4.view F77.out.out).isIn HLN.out.2) ((qA4.view F68.out.out).isIn HLN.out.2)).mono ?_
   rintro e w79 ⟨rfl,hb⟩
   clear p0 p1 p2 p3 p4 hpl q0 q1 q2 q3 q4 hql
   have B80:Hid (Below w.heap.size w w79):=B62.out.trans (hb.mono B62.out.size)
   have hz81:=hb.size
   have F82:Hid (qC2 (w.heap.size) (w.heap.size+1) (qE8 (w.heap.size) [.int .i64 r.i,.int .i64 r.u,.slice r.sa r.sn r.sc,.slice r.la r.ln r.lc]) w79):=F64.out.below hb
   have F83:Hid (qC2 (w.heap.size+1) (w.heap.size+1+1) (qE8 (w.heap.size+1) [.int .i64 x.k,.int .i64 x.e,.int .i64 x.f,.int .i64 x.s,.int .i64 x.n]) w79):=F65.out.below hb
   have F84:Hid (qC2 (rBW) (rBW+1) (qE8 rBW [.int .i64 k,.int .i64 iv,.int .i64 uv,.slice saW n1 scW,.slice laW m1 lcW]) w79):=F66.out.below hb
   have F85:Hid (qC2 (rloW) (rhiW) (fun X=>qB1 X rloW (.slice saW n1 scW) S) w79):=F67.out.below hb
   have F86:Hid (qC2 (rloW) (rhiW) (fun X=>qA4 X rloW (.slice laW m1 lcW) L) w79):=F68.out.below hb
   have F87:Hid (qD6 (fun X=>qH3 X Lb27 r y26) w79):=F69.out.below hb
   have F88:Hid (qC2 (w28.heap.size) (w28.heap.size+1) (qE8 w28.heap.size [.int .i64 y26.i,.int .i64 y26.u,.slice y26.sa y26.sn y26.sc,.slice y26.la y26.ln y26.lc]) w79):=F70.out.below hb
   have F89:Hid (qD6 (CpB xg1 xh1 n cs) w79):=F71.out.below hb
   have F90:Hid (qC2 (xg1) (xh1) (fun X=>∃ ds,TabL xg1 xh1 X xg1 n ds) w79):=F72.out.below hb
   have F91:Hid (qC2 (rBI) (rBI+1) (qE8 rBI [.int .i64 k,.int .i64 iv,.int .i64 uv,.slice saI n1 scI,.slice laI m1 lcI]) w79):=F73.out.below hb
   have F92:Hid (qC2 (rloI) (rhiI) (fun X=>qB1 X rloI (.slice saI n1 scI) S) w79):=F75.out.below hb
   have F93:Hid (qC2 (rloI) (rhiI) (fun X=>qA4 X rloI (.slice laI m1 lcI) L) w79):=F77.out.below hb
   clear B62 F64 F65 F66 F67 F68 F69 F70 F71 F72 F73 F75 F77
   clear hb
   have hbl0:w.heap.size < w79.heap.size:=by have:=F82.out.le;omega
   have b0:=F82.out.out 0 _ rfl
   have b1:=F82.out.out 1 _ rfl
   have b2:=F82.out.out 2 _ rfl
   have b3:=F82.out.out 3 _ rfl
   have hxbl:w28.heap.size < w79.heap.size:=by have:=F88.out.le;omega
   have xb0:=F88.out.out 0 _ rfl
   have xb1:=F88.out.out 1 _ rfl
   have xb2:=F88.out.out 2 _ rfl
   have xb3:=F88.out.out 3 _ rfl
   have HBV:Hid (∀ w2,Below w79.heap.size w79 w2→Below w.heap.size w w2):=fun w2 q=>B80.out.trans (q.mono B80.out.size)
   have HCQ:Hid (qD6 (fun X=>qH3 X Lb27 r y26) w79):=⟨F87.out.out,fun X X' h hb=>h.below hb⟩
   go_upto_region 14 with fail
   refine wp_region_held_drew (S:=fun w'=>(∀ b o,b < w79.heap.size→w'.cell? ⟨b,o,none⟩=w79.cell? ⟨b,o,none⟩)∧Below w79.heap.size w79 w') (by kernel_rfl) (qB4 _) (fun hHeld=>?_)
   refine Zk.go [0,1] ?_
   iterate 2
    refine Zk.st (v:=?_) rfl ?_ ?_
    rotate_left 1
    ·intro w hSw;(try dsimp only at hSw);go_simp;try (with_reducible rfl)
    try simp only [Act.put,zA,zB,zC,zD,zE,zF]
   refine Zk.fin ?_
   refine Zk.rd (i:=2) rfl (fun K hK=>?_)
   go_simp
   refine (qO5 r _ HRL2.out (HRI.out.below (HBV.out _ hHeld.2))).mono ?_
   rintro d wA ⟨y3,L3,rfl,hL3,hy3,hbA⟩
   have hS:=qA0 hHeld hbA
   have Y3:=qC8 hy3
   clear hy3
   refine hK.out _ _ hS (fun hHeld=>?_)
   clear hK K
   try simp only [Act.put,zA,zB,zC,zD,zE,zF]
   refine Zk.rd (i:=3) rfl (fun K hK=>?_)
   go_simp
   refine (eqCopies _ (HCQ.out.below hHeld.2).out Y3.out HSL.out HRL2.out).mono ?_
   rintro d wB ⟨rfl,hbB⟩
   have hS:=qA0 hHeld hbB
   refine hK.out _ _ hS (fun hHeld=>?_)
   clear hK K
   try simp only [Act.put,zA,zB,zC,zD,zE,zF]
   refine Zk.go [4] ?_
   refine Zk.st (v:=?_) rfl ?_ ?_
   rotate_left 1
   ·intro w hSw;(try dsimp only at hSw);go_simp;try (with_reducible rfl)
   try simp only [Act.put,zA,zB,zC,zD,zE,zF]
   refine Zk.fin ?_
   refine wpAnyH_done (by kernel_rfl) ?_ _
   have hbK:=hS.2
   clear hS hbB hbA hHeld Y3 hL3 HBV HCQ b0 b1 b2 b3 hbl0 xb0 xb1 xb2 xb3 hxbl
   have B94:Hid (Below w.heap.size w wB):=B80.out.trans (hbK.mono B80.out.size)
   have hz95:=hbK.size
   have F96:Hid (qC2 (w.heap.size) (w.heap.size+1) (qE8 (w.heap.size) [.int .i64 r.i,.int .i64 r.u,.slice r.sa r.sn r.sc,.slice r.la r.ln r.lc]) wB):=F82.out.below hbK
   have F97:Hid (qC2 (w.heap.size+1) (w.heap.size+1+1) (qE8 (w.heap.size+1) [.int .i64 x.k,.int .i64 x.e,.int .i64 x.f,.int .i64 x.s,.int .i64 x.n]) wB):=F83.out.below hbK
   have F98:Hid (qC2 (rBW) (rBW+1) (qE8 rBW [.int .i64 k,.int .i64 iv,.int .i64 uv,.slice saW n1 scW,.slice laW m1 lcW]) wB):=F84.out.below hbK
   have F99:Hid (qC2 (rloW) (rhiW) (fun X=>qB1 X rloW (.slice saW n1 scW) S) wB):=F85.out.below hbK
   have F100:Hid (qC2 (rloW) (rhiW) (fun X=>qA4 X rloW (.slice laW m1 lcW) L) wB):=F86.out.below hbK
   have F101:Hid (qD6 (fun X=>qH3 X Lb27 r y26) wB):=F87.out.below hbK
   have F102:Hid (qC2 (w28.heap.size) (w28.heap.size+1) (qE8 w28.heap.size [.int .i64 y26.i,.int .i64 y26.u,.slice y26.sa y26.sn y26.sc,.slice y26.la y26.ln y26.lc]) wB):=F88.out.below hbK
   have F103:Hid (qD6 (CpB xg1 xh1 n cs) wB):=F89.out.below hbK
   have F104:Hid (qC2 (xg1) (xh1) (fun X=>∃ ds,TabL xg1 xh1 X xg1 n ds) wB):=F90.out.below hbK
   have F105:Hid (qC2 (rBI) (rBI+1) (qE8 rBI [.int .i64 k,.int .i64 iv,.int .i64 uv,.slice saI n1 scI,.slice laI m1 lcI]) wB):=F91.out.below hbK
   have F106:Hid (qC2 (rloI) (rhiI) (fun X=>qB1 X rloI (.slice saI n1 scI) S) wB):=F92.out.below hbK
   have F107:Hid (qC2 (rloI) (rhiI) (fun X=>qA4 X rloI (.slice laI m1 lcI) L) wB):=F93.out.below hbK
   clear B80 F82 F83 F84 F85 F86 F87 F88 F89 F90 F91 F92 F93
   clear hbK
   go_wp2_with fail
   refine (QB7 a n cap cs _ hn HLE1.out (HCI.out.below B94.out)).mono ?_
   rintro e w108 ⟨rfl,dsT,hct⟩
   have hb:=hct.bl
   have hlt:=hct.lt
   have B109:Hid (Below w.heap.size w w108):=B94.out.trans (hb.mono B94.out.size)
   have hz110:=hb.size
   have F111:Hid (qC2 (w.heap.size) (w.heap.size+1) (qE8 (w.heap.size) [.int .i64 r.i,.int .i64 r.u,.slice r.sa r.sn r.sc,.slice r.la r.ln r.lc]) w108):=F96.out.below hb
   have F112:Hid (qC2 (w.heap.size+1) (w.heap.size+1+1) (qE8 (w.heap.size+1) [.int .i64 x.k,.int .i64 x.e,.int .i64 x.f,.int .i64 x.s,.int .i64 x.n]) w108):=F97.out.below hb
   have F113:Hid (qC2 (rBW) (rBW+1) (qE8 rBW [.int .i64 k,.int .i64 iv,.int .i64 uv,.slice saW n1 scW,.slice laW m1 lcW]) w108):=F98.out.below hb
   have F114:Hid (qC2 (rloW) (rhiW) (fun X=>qB1 X rloW (.slice saW n1 scW) S) w108):=F99.out.below hb
   have F115:Hid (qC2 (rloW) (rhiW) (fun X=>qA4 X rloW (.slice laW m1 lcW) L) w108):=F100.out.below hb
   have F116:Hid (qD6 (fun X=>qH3 X Lb27 r y26) w108):=F101.out.below hb
   have F117:Hid (qC2 (w28.heap.size) (w28.heap.size+1) (qE8 w28.heap.size [.int .i64 y26.i,.int .i64 y26.u,.slice y26.sa y26.sn y26.sc,.slice y26.la y26.ln y26.lc]) w108):=F102.out.below hb
   have F118:Hid (qD6 (CpB xg1 xh1 n cs) w108):=F103.out.below hb
   have F119:Hid (qC2 (xg1) (xh1) (fun X=>∃ ds,TabL xg1 xh1 X xg1 n ds) w108):=F104.out.below hb
   have F120:Hid (qC2 (rBI) (rBI+1) (qE8 rBI [.int .i64 k,.int .i64 iv,.int .i64 uv,.slice saI n1 scI,.slice laI m1 lcI]) w108):=F105.out.below hb
   have F121:Hid (qC2 (rloI) (rhiI) (fun X=>qB1 X rloI (.slice saI n1 scI) S) w108):=F106.out.below hb
   have F122:Hid (qC2 (rloI) (rhiI) (fun X=>qA4 X rloI (.slice laI m1 lcI) L) w108):=F107.out.below hb
   clear B94 F96 F97 F98 F99 F100 F101 F102 F103 F104 F105 F106 F107
   have F123:Hid (qD6 (CpB (wB.heap.size) (w108.heap.size) n cs) w108):=hct.cpB hn HCI.out HLE1.out
   clear hb hct hlt
   go_wp2_with fail
   refine (eqCpB_c _ _ hn F118.out.out F123.out.out).mono ?_
   rintro e w124 ⟨rfl,hb⟩
   clear F123
   have B125:Hid (Below w.heap.size w w124):=B109.out.trans (hb.mono B109.out.size)
   have hz126:=hb.size
   have F127:Hid (qC2 (w.heap.size) (w.heap.size+1) (qE8 (w.heap.size) [.int .i64 r.i,.int .i64 r.u,.slice r.sa r.sn r.sc,.slice r.la r.ln r.lc]) w124):=F111.out.below hb
   have F128:Hid (qC2 (w.heap.size+1) (w.heap.size+1+1) (qE8 (w.heap.size+1) [.int .i64 x.k,.int .i64 x.e,.int .i64 x.f,.int .i64 x.s,.int .i64 x.n]) w124):=F112.out.below hb
   have F129:Hid (qC2 (rBW) (rBW+1) (qE8 rBW [.int .i64 k,.int .i64 iv,.int .i64 uv,.slice saW n1 scW,.slice laW m1 lcW]) w124):=F113.out.below hb
   have F130:Hid (qC2 (rloW) (rhiW) (fun X=>qB1 X rloW (.slice saW n1 scW) S) w124):=F114.out.below hb
   have F131:Hid (qC2 (rloW) (rhiW) (fun X=>qA4 X rloW (.slice laW m1 lcW) L) w124):=F115.out.below hb
   have F132:Hid (qD6 (fun X=>qH3 X Lb27 r y26) w124):=F116.out.below hb
   have F133:Hid (qC2 (w28.heap.size) (w28.heap.size+1) (qE8 w28.heap.size [.int .i64 y26.i,.int .i64 y26.u,.slice y26.sa y26.sn y26.sc,.slice y26.la y26.ln y26.lc]) w124):=F117.out.below hb
   have F134:Hid (qD6 (CpB xg1 xh1 n cs) w124):=F118.out.below hb
   have F135:Hid (qC2 (xg1) (xh1) (fun X=>∃ ds,TabL xg1 xh1 X xg1 n ds) w124):=F119.out.below hb
   have F136:Hid (qC2 (rBI) (rBI+1) (qE8 rBI [.int .i64 k,.int .i64 iv,.int .i64 uv,.slice saI n1 scI,.slice laI m1 lcI]) w124):=F120.out.below hb
   have F137:Hid (qC2 (rloI) (rhiI) (fun X=>qB1 X rloI (.slice saI n1 scI) S) w124):=F121.out.below hb
   have F138:Hid (qC2 (rloI) (rhiI) (fun X=>qA4 X rloI (.slice laI m1 lcI) L) w124):=F122.out.below hb
   clear B109 F111 F112 F113 F114 F115 F116 F117 F118 F119 F120 F121 F122
   clear hb
   have hNB:w.heap.size≤w124.heap.size:=B125.out.size
   have hxbl:w28.heap.size < w124.heap.size:=by have:=F133.out.le;omega
   have xb0:=F133.out.out 0 _ rfl
   have xb1:=F133.out.out 1 _ rfl
   have xb2:=F133.out.out 2 _ rfl
   have xb3:=F133.out.out 3 _ rfl
   go_wp2_with fail
   refine (markCopy_c xg0 xh0 Lb27 r y26 _ HRL2.out F132.out.out HH0.out.2.2 HH0.out.1 HH0.out.2.1).mono ?_
   rintro e w139 ⟨rfl,hch⟩
   clear xb0 xb1 xb2 xb3 hxbl
   have B140:Hid (Below w.heap.size w w139):=QN7 B125.out hch (by have:=hNB;omega) B125.out.size
   have hz141:=hch.size
   have F142:Hid (qC2 (w.heap.size) (w.heap.size+1) (qE8 (w.heap.size) [.int .i64 r.i,.int .i64 r.u,.slice r.sa r.sn r.sc,.slice r.la r.ln r.lc]) w139):=F127.out.chg hch (by omega)
   have F143:Hid (qC2 (w.heap.size+1) (w.heap.size+1+1) (qE8 (w.heap.size+1) [.int .i64 x.k,.int .i64 x.e,.int .i64 x.f,.int .i64 x.s,.int .i64 x.n]) w139):=F128.out.chg hch (by omega)
   have F144:Hid (qC2 (rBW) (rBW+1) (qE8 rBW [.int .i64 k,.int .i64 iv,.int .i64 uv,.slice saW n1 scW,.slice laW m1 lcW]) w139):=F129.out.chg hch (by omega)
   have F145:Hid (qC2 (rloW) (rhiW) (fun X=>qB1 X rloW (.slice saW n1 scW) S) w139):=F130.out.chg hch (by omega)
   have F146:Hid (qC2 (rloW) (rhiW) (fun X=>qA4 X rloW (.slice laW m1 lcW) L) w139):=F131.out.chg hch (by omega)
   have F147:Hid (qC2 (w28.heap.size) (w28.heap.size+1) (qE8 w28.heap.size [.int .i64 y26.i,.int .i64 y26.u,.slice y26.sa y26.sn y26.sc,.slice y26.la y26.ln y26.lc]) w139):=F133.out.chg hch (by omega)
   have F148:Hid (qC2 (xg1) (xh1) (fun X=>∃ ds,TabL xg1 xh1 X xg1 n ds) w139):=F135.out.chg hch (by omega)
   have F149:Hid (qC2 (rBI) (rBI+1) (qE8 rBI [.int .i64 k,.int .i64 iv,.int .i64 uv,.slice saI n1 scI,.slice laI m1 lcI]) w139):=F136.out.chg hch (by omega)
   have F150:Hid (qC2 (rloI) (rhiI) (fun X=>qB1 X rloI (.slice saI n1 scI) S) w139):=F137.out.chg hch (by omega)
   have F151:Hid (qC2 (rloI) (rhiI) (fun X=>qA4 X rloI (.slice laI m1 lcI) L) w139):=F138.out.chg hch (by omega)
   clear B125 F127 F128 F129 F130 F131 F133 F135 F136 F137 F138 F132
   clear hch F134
   have hsnI:(r.sn:Int)≤1048576:=by omega
   have hlnI:(r.ln:Int)≤1048576:=by omega
   go_wp2_with fail
   refine (markTab_c _ (1+5 * (r.sn:Int)+4 * (r.ln:Int)) hn (by omega) (by omega) F148.out.out).mono ?_
   rintro e w152 ⟨kk,rfl,hkk,hch⟩
   have B153:Hid (Below w.heap.size w w152):=QN7 B140.out hch (by have:=hNB;omega) B140.out.size
   have hz154:=hch.size
   have F155:Hid (qC2 (w.heap.size) (w.heap.size+1) (qE8 (w.heap.size) [.int .i64 r.i,.int .i64 r.u,.slice r.sa r.sn r.sc,.slice r.la r.ln r.lc]) w152):=F142.out.chg hch (by omega)
   have F156:Hid (qC2 (w.heap.size+1) (w.heap.size+1+1) (qE8 (w.heap.size+1) [.int .i64 x.k,.int .i64 x.e,.int .i64 x.f,.int .i64 x.s,.int .i64 x.n]) w152):=F143.out.chg hch (by omega)
   have F157:Hid (qC2 (rBW) (rBW+1) (qE8 rBW [.int .i64 k,.int .i64 iv,.int .i64 uv,.slice saW n1 scW,.slice laW m1 lcW]) w152):=F144.out.chg hch (by omega)
   have F158:Hid (qC2 (rloW) (rhiW) (fun X=>qB1 X rloW (.slice saW n1 scW) S) w152):=F145.out.chg hch (by omega)
   have F159:Hid (qC2 (rloW) (rhiW) (fun X=>qA4 X rloW (.slice laW m1 lcW) L) w152):=F146.out.chg hch (by omega)
   have F160:Hid (qC2 (w28.heap.size) (w28.heap.size+1) (qE8 w28.heap.size [.int .i64 y26.i,.int .i64 y26.u,.slice y26.sa y26.sn y26.sc,.slice y26.la y26.ln y26.lc]) w152):=F147.out.chg hch (by omega)
   have F161:Hid (qC2 (rBI) (rBI+1) (qE8 rBI [.int .i64 k,.int .i64 iv,.int .i64 uv,.slice saI n1 scI,.slice laI m1 lcI]) w152):=F149.out.chg hch (by omega)
   have F162:Hid (qC2 (rloI) (rhiI) (fun X=>qB1 X rloI (.slice saI n1 scI) S) w152):=F150.out.chg hch (by omega)
   have F163:Hid (qC2 (rloI) (rhiI) (fun X=>qA4 X rloI (.slice laI m1 lcI) L) w152):=F151.out.chg hch (by omega)
   clear B140 F142 F143 F144 F145 F146 F147 F149 F150 F151 F148
   clear hch
   have hk0:decide (kk < 0)=false:=by simp;omega
   have hpl:rBI < w152.heap.size:=by have:=F161.out.le;omega
   have p0:=F161.out.out 0 _ rfl
   have p1:=F161.out.out 1 _ rfl
   have p2:=F161.out.out 2 _ rfl
   have p3:=F161.out.out 3 _ rfl
   have p4:=F161.out.out 4 _ rfl
   have hql:rBW < w152.heap.size:=by have:=F157.out.le;omega
   have q0:=F157.out.out 0 _ rfl
   have q1:=F157.out.out 1 _ rfl
   have q2:=F157.out.out 2 _ rfl
   have q3:=F157.out.out 3 _ rfl
   have q4:=F157.out.out 4 _ rfl
   go_wp2_with fail
   refine (qZ1 k iv uv saI saW n1 scI scW S laI laW m1 lcI lcW L _ hn1 hm1 ((qB1.view F162.out.out).isIn HLN.out.1) ((qB1.view F158.out.out).isIn HLN.out.1) ((qA4.view F163.out.out).isIn HLN.out.2) ((qA4.view F159.out.out).isIn HLN.out.2)).mono ?_
   rintro e w164 ⟨rfl,hb⟩
   clear p0 p1 p2 p3 p4 hpl q0 q1 q2 q3 q4 hql
   have B165:Hid (Below w.heap.size w w164):=B153.out.trans (hb.mono B153.out.size)
   have hz166:=hb.size
   have F167:Hid (qC2 (w.heap.size) (w.heap.size+1) (qE8 (w.heap.size) [.int .i64 r.i,.int .i64 r.u,.slice r.sa r.sn r.sc,.slice r.la r.ln r.lc]) w164):=F155.out.below hb
   have F168:Hid (qC2 (w.heap.size+1) (w.heap.size+1+1) (qE8 (w.heap.size+1) [.int .i64 x.k,.int .i64 x.e,.int .i64 x.f,.int .i64 x.s,.int .i64 x.n]) w164):=F156.out.below hb
   have F169:Hid (qC2 (rBW) (rBW+1) (qE8 rBW [.int .i64 k,.int .i64 iv,.int .i64 uv,.slice saW n1 scW,.slice laW m1 lcW]) w164):=F157.out.below hb
   have F170:Hid (qC2 (rloW) (rhiW) (fun X=>qB1 X rloW (.slice saW n1 scW) S) w164):=F158.out.below hb
   have F171:Hid (qC2 (rloW) (rhiW) (fun X=>qA4 X rloW (.slice laW m1 lcW) L) w164):=F159.out.below hb
   have F172:Hid (qC2 (w28.heap.size) (w28.heap.size+1) (qE8 w28.heap.size [.int .i64 y26.i,.int .i64 y26.u,.slice y26.sa y26.sn y26.sc,.slice y26.la y26.ln y26.lc]) w164):=F160.out.below hb
   have F173:Hid (qC2 (rBI) (rBI+1) (qE8 rBI [.int .i64 k,.int .i64 iv,.int .i64 uv,.slice saI n1 scI,.slice laI m1 lcI]) w164):=F161.out.below hb
   have F174:Hid (qC2 (rloI) (rhiI) (fun X=>qB1 X rloI (.slice saI n1 scI) S) w164):=F162.out.below hb
   have F175:Hid (qC2 (rloI) (rhiI) (fun X=>qA4 X rloI (.slice laI m1 lcI) L) w164):=F163.out.below hb
   clear B153 F155 F156 F157 F158 F159 F160 F161 F162 F163
   clear hb
   have hpl:rBI < w164.heap.size:=by have:=F173.out.le;omega
   have p0:=F173.out.out 0 _ rfl
   have p1:=F173.out.out 1 _ rfl
   have p2:=F173.out.out 2 _ rfl
   have p3:=F173.out.out 3 _ rfl
   have p4:=F173.out.out 4 _ rfl
   go_wp2_with fail
   refine (markRepR_c rloI rhiI k iv uv saI n1 scI S laI m1 lcI L _ HLN.out.1.symm HLN.out.2.symm hn1 hm1 F174.out.out F175.out.out GI.out.1 GI.out.2).mono ?_
   rintro e w176 ⟨rfl,ho1,ho2,hch⟩
   clear p0 p1 p2 p3 p4 hpl
   have B177:Hid (Below w.heap.size w w176):=QN7 B165.out hch (by have:=hNB;omega) B165.out.size
   have hz178:=hch.size
   have F179:Hid (qC2 (w.heap.size) (w.heap.size+1) (qE8 (w.heap.size) [.int .i64 r.i,.int .i64 r.u,.slice r.sa r.sn r.sc,.slice r.la r.ln r.lc]) w176):=F167.out.chg hch (by omega)
   have F180:Hid (qC2 (w.heap.size+1) (w.heap.size+1+1) (qE8 (w.heap.size+1) [.int .i64 x.k,.int .i64 x.e,.int .i64 x.f,.int .i64 x.s,.int .i64 x.n]) w176):=F168.out.chg hch (by omega)
   have F181:Hid (qC2 (rBW) (rBW+1) (qE8 rBW [.int .i64 k,.int .i64 iv,.int .i64 uv,.slice saW n1 scW,.slice laW m1 lcW]) w176):=F169.out.chg hch (by omega)
   have F182:Hid (qC2 (rloW) (rhiW) (fun X=>qB1 X rloW (.slice saW n1 scW) S) w176):=F170.out.chg hch (by omega)
   have F183:Hid (qC2 (rloW) (rhiW) (fun X=>qA4 X rloW (.slice laW m1 lcW) L) w176):=F171.out.chg hch (by omega)
   have F184:Hid (qC2 (w28.heap.size) (w28.heap.size+1) (qE8 w28.heap.size [.int .i64 y26.i,.int .i64 y26.u,.slice y26.sa y26.sn y26.sc,.slice y26.la y26.ln y26.lc]) w176):=F172.out.chg hch (by omega)
   have F185:Hid (qC2 (rBI) (rBI+1) (qE8 rBI [.int .i64 k,.int .i64 iv,.int .i64 uv,.slice saI n1 scI,.slice laI m1 lcI]) w176):=F173.out.chg hch (by omega)
   clear B165 F167 F168 F169 F170 F171 F172 F173 F174 F175
   have F186:Hid (qC2 (rloI) (rhiI) (fun X=>qB1 X rloI (.slice saI n1 scI) (QX1 n1)) w176):=qY5 (by have:=ho1;exact this) _ GI.out.1 (by omega)
   have hl187:=F186.out.le
   have F188:Hid (qC2 (rloI) (rhiI) (fun X=>qA4 X rloI (.slice laI m1 lcI) (qX6 (1+5 * n1) m1)) w176):=qY5 (by have:=ho2;exact this) _ GI.out.2 (by omega)
   have hl189:=F188.out.le
   clear ho1 ho2 hch
   have hq0:decide ((1:Int)+5 * (n1:Int)+4 * (m1:Int) < 0)=false:=by simp;omega
   have hpl:rBI < w176.heap.size:=by have:=F185.out.le;omega
   have p0:=F185.out.out 0 _ rfl
   have p1:=F185.out.out 1 _ rfl
   have p2:=F185.out.out 2 _ rfl
   have p3:=F185.out.out 3 _ rfl
   have p4:=F185.out.out 4 _ rfl
   go_wp2_with fail
   refine (QR8 k iv uv saI n1 scI laI m1 lcI _ hn1 hm1 (qB1.view F186.out.out) (qA4.view F188.out.out)).mono ?_
   rintro e w190 ⟨rfl,hb⟩
   clear p0 p1 p2 p3 p4 hpl
   have B191:Hid (Below w.heap.size w w190):=B177.out.trans (hb.mono B177.out.size)
   have hz192:=hb.size
   have F193:Hid (qC2 (w.heap.size) (w.heap.size+1) (qE8 (w.heap.size) [.int .i64 r.i,.int .i64 r.u,.slice r.sa r.sn r.sc,.slice r.la r.ln r.lc]) w190):=F179.out.below hb
   have F194:Hid (qC2 (w.heap.size+1) (w.heap.size+1+1) (qE8 (w.heap.size+1) [.int .i64 x.k,.int .i64 x.e,.int .i64 x.f,.int .i64 x.s,.int .i64 x.n]) w190):=F180.out.below hb
   have F195:Hid (qC2 (rBW) (rBW+1) (qE8 rBW [.int .i64 k,.int .i64 iv,.int .i64 uv,.slice saW n1 scW,.slice laW m1 lcW]) w190):=F181.out.below hb
   have F196:Hid (qC2 (rloW) (rhiW) (fun X=>qB1 X rloW (.slice saW n1 scW) S) w190):=F182.out.below hb
   have F197:Hid (qC2 (rloW) (rhiW) (fun X=>qA4 X rloW (.slice laW m1 lcW) L) w190):=F183.out.below hb
   have F198:Hid (qC2 (w28.heap.size) (w28.heap.size+1) (qE8 w28.heap.size [.int .i64 y26.i,.int .i64 y26.u,.slice y26.sa y26.sn y26.sc,.slice y26.la y26.ln y26.lc]) w190):=F184.out.below hb
   have F199:Hid (qC2 (rBI) (rBI+1) (qE8 rBI [.int .i64 k,.int .i64 iv,.int .i64 uv,.slice saI n1 scI,.slice laI m1 lcI]) w190):=F185.out.below hb
   have F200:Hid (qC2 (rloI) (rhiI) (fun X=>qB1 X rloI (.slice saI n1 scI) (QX1 n1)) w190):=F186.out.below hb
   have F201:Hid (qC2 (rloI) (rhiI) (fun X=>qA4 X rloI (.slice laI m1 lcI) (qX6 (1+5 * n1) m1)) w190):=F188.out.below hb
   clear B177 F179 F180 F181 F182 F183 F184 F185 F186 F188
   clear hb
   have hbl0:w.heap.size < w190.heap.size:=by have:=F193.out.le;omega
   have b0:=F193.out.out 0 _ rfl
   have b1:=F193.out.out 1 _ rfl
   have b2:=F193.out.out 2 _ rfl
   have b3:=F193.out.out 3 _ rfl
   have hbl1:w.heap.size+1 < w190.heap.size:=by have:=F194.out.le;omega
   have d0:=F194.out.out 0 _ rfl
   have d1:=F194.out.out 1 _ rfl
   have d2:=F194.out.out 2 _ rfl
   have d3:=F194.out.out 3 _ rfl
   have d4:=F194.out.out 4 _ rfl
   have HTO:Hid (∀ w',(∀ b o,b < w190.heap.size→w'.cell? ⟨b,o,none⟩=w190.cell? ⟨b,o,none⟩)∧Below w190.heap.size w190 w'→Below w.heap.size w w'):=fun w' q=>B191.out.trans (q.2.mono B191.out.size)
   have HBV:Hid (∀ w',(∀ b o,b < w190.heap.size→w'.cell? ⟨b,o,none⟩=w190.cell? ⟨b,o,none⟩)∧Below w190.heap.size w190 w'→Below w190.heap.size w190 w'):=fun w' q=>q.2
   go_upto_region 31 with fail
   go_cut [15] from 81 to 87 (fun s wx=>QS9 k iv uv S L n1 m1 w190 s wx)
   case first =>
    refine wp_region_held_drew (S:=fun w'=>(∀ b o,b < w190.heap.size→w'.cell? ⟨b,o,none⟩=w190.cell? ⟨b,o,none⟩)∧Below w190.heap.size w190 w') (by kernel_rfl) (qB4 _) (fun hHeld=>?_)
    refine Zk.go [0,2,4] ?_
    iterate 3
     refine Zk.st (v:=?_) rfl ?_ ?_
     rotate_left 1
     ·intro w hSw;(try dsimp only at hSw);go_simp;try (with_reducible rfl)
     try simp only [Act.put,zA,zB,zC,zD,zE,zF]
    refine Zk.fin ?_
    refine wpAnyH_ready (rs:=[1,7]) (by kernel_rfl) (by simp) ?_
    refine AllReadyH.cons rfl (fun K hK=>?_) (AllReadyH.cons rfl (fun K hK=>?_) AllReadyH.nil)
    ·go_simp
     refine (qO5 r _ HRL2.out (HRI.out.below (HTO.out _ (by assumption)))).mono ?_
     rintro d y0 ⟨yc,Lc,rfl,hLc,hyc,hby0⟩
     have hS:=qA0 (by assumption) hby0
     have hzy0:=hby0.size
     have EC:qD6 (fun X=>qH3 X Lc r yc) y0:=⟨hyc,fun X X' h hb=>h.below hb⟩
     clear hyc
     have hSy0:=hS
     refine hK.out _ _ hS (fun hHeld=>?_)
     clear hK K
     try simp only [Act.put,zA,zB,zC,zD,zE,zF]
     refine wpAnyH_ready (rs:=[3,7]) (by kernel_rfl) (by simp) ?_
     refine AllReadyH.cons rfl (fun K hK=>?_) (AllReadyH.cons rfl (fun K hK=>?_) AllReadyH.nil)
     ·go_simp
      refine (qO6 a n cap cs _ hn HLE1.out (HCI.out.below (HTO.out _ (by assumption)))).mono ?_
      rintro d y1 ⟨loc,hic,rfl,EF,hby1⟩
      have hS:=qA0 (by assumption) hby1
      have hzy1:=hby1.size
      replace EC:=(by first | exact EC | exact EC.alloc _:qD6 _ _).below hby1
      have hSy1:=hS
      refine hK.out _ _ hS (fun hHeld=>?_)
      clear hK K
      try simp only [Act.put,zA,zB,zC,zD,zE,zF]
      refine wpAnyH_ready (rs:=[5,7]) (by kernel_rfl) (by simp) ?_
      refine AllReadyH.cons rfl (fun K hK=>?_) (AllReadyH.cons rfl (fun K hK=>?_) AllReadyH.nil)
      ·go_simp
       refine (qE9 x _).mono ?_
       rintro d y2 ⟨rfl,hby2⟩
       have hS:=qA0 (by assumption) hby2
       have hzy2:=hby2.size
       replace EC:=(by first | exact EC | exact EC.alloc _:qD6 _ _).below hby2
       replace EF:=(by first | exact EF | exact EF.alloc _:qD6 _ _).below hby2
       have hSy2:=hS
       refine hK.out _ _ hS (fun hHeld=>?_)
       clear hK K
       try simp only [Act.put,zA,zB,zC,zD,zE,zF]
       refine wpAnyH_ready (rs:=[6,7]) (by kernel_rfl) (by simp) ?_
       refine AllReadyH.cons rfl (fun K hK=>?_) (AllReadyH.cons rfl (fun K hK=>?_) AllReadyH.nil)
       ·go_simp
        refine (HIM.out _ _ _ _ _ ⟨HER.out.1.below (HTO.out _ (by assumption)),HER.out.2.below (HTO.out _ (by assumption))⟩ (by first | exact EC.out | exact (EC.alloc _).out) (by first | exact EF.out | exact (EF.alloc _).out)).mono ?_
        rintro d y3 ⟨za,zc,zla,zlc,rfl,ho1,ho2,hby3⟩
        have hS:=qA0 (by assumption) hby3
        have hzy3:=hby3.size
        replace EC:=(by first | exact EC | exact EC.alloc _:qD6 _ _).below hby3
        replace EF:=(by first | exact EF | exact EF.alloc _:qD6 _ _).below hby3
        have hSy3:=hS
        refine hK.out _ _ hS (fun hHeld=>?_)
        clear hK K
        try simp only [Act.put,zA,zB,zC,zD,zE,zF]
        refine Zk.rd (i:=7) rfl (fun K hK=>?_)
        go_simp
        have hS:=qL4 (by assumption) (.cells #[.int .i64 0,.int .i64 0,.int .i64 0,.slice none 0 0,.slice none 0 0] 47)
        refine hK.out _ _ hS (fun hHeld=>?_)
        clear hK K
        try simp only [Act.put,zA,zB,zC,zD,zE,zF]
        refine Zk.rd (i:=8) rfl (fun K hK=>?_)
        go_simp
        have hS:=qL4 hSy3 (.cells #[.int .i64 k,.int .i64 iv,.int .i64 uv,.slice za n1 zc,.slice zla m1 zlc] 47)
        refine hK.out _ _ hS (fun hHeld=>?_)
        clear hK K
        try simp only [Act.put,zA,zB,zC,zD,zE,zF]
        refine wpAnyH_done (by kernel_rfl) ?_ _
        go_wp2_with fail
        go_meet
        exact QS9.post ho1 ho2 (by first | exact Nat.le_refl _ | exact hSy2.2.size) hSy3.2
       ·go_simp
        have hS:=qL4 (by assumption) (.cells #[.int .i64 0,.int .i64 0,.int .i64 0,.slice none 0 0,.slice none 0 0] 47)
        refine hK.out _ _ hS (fun hHeld=>?_)
        clear hK K
        try simp only [Act.put,zA,zB,zC,zD,zE,zF]
        refine Zk.rd (i:=6) rfl (fun K hK=>?_)
        go_simp
        refine (HIM.out _ _ _ _ _ ⟨HER.out.1.below (HTO.out _ (by assumption)),HER.out.2.below (HTO.out _ (by assumption))⟩ (by first | exact EC.out | exact (EC.alloc _).out) (by first | exact EF.out | exact (EF.alloc _).out)).mono ?_
        rintro d y3 ⟨za,zc,zla,zlc,rfl,ho1,ho2,hby3⟩
        have hS:=qA0 (by assumption) hby3
        have hzy3:=hby3.size
        replace EC:=(by first | exact EC | exact EC.alloc _:qD6 _ _).below hby3
        replace EF:=(by first | exact EF | exact EF.alloc _:qD6 _ _).below hby3
        have hzB:Hid (qG2 y2.heap.size [.int .i64 0,.int .i64 0,.int .i64 0,.slice none 0 0,.slice none 0 0] y3):=(qE0 _ #[.int .i64 0,.int .i64 0,.int .i64 0,.slice none 0 0,.slice none 0 0] 47).below (by simp) hby3
        have hqn:y2.heap.size < y3.heap.size:=by have q:=hby3.size;simp at q;omega
        have hgB:w190.heap.size≤y2.heap.size:=hSy2.2.size
        have nb0:=hzB.out.1 0 _ rfl
        have fb0:=hzB.out.2 0
        have nb1:=hzB.out.1 1 _ rfl
        have fb1:=hzB.out.2 1
        have nb2:=hzB.out.1 2 _ rfl
        have fb2:=hzB.out.2 2
        have nb3:=hzB.out.1 3 _ rfl
        have fb3:=hzB.out.2 3
        have nb4:=hzB.out.1 4 _ rfl
        have fb4:=hzB.out.2 4
        have hSy3:=hS
        refine hK.out _ _ hS (fun hHeld=>?_)
        clear hK K
        try simp only [Act.put,zA,zB,zC,zD,zE,zF]
        refine Zk.rd (i:=8) rfl (fun K hK=>?_)
        go_simp
        have hS:=(qB9 (qB9 (qB9 (qB9 (qB9 hSy3 (p:=⟨y2.heap.size,0,none⟩) hgB (.int .i64 k)) (p:=⟨y2.heap.size,1,none⟩) hgB (.int .i64 iv)) (p:=⟨y2.heap.size,2,none⟩) hgB (.int .i64 uv)) (p:=⟨y2.heap.size,3,none⟩) hgB (.slice za n1 zc)) (p:=⟨y2.heap.size,4,none⟩) hgB (.slice zla m1 zlc))
        refine hK.out _ _ hS (fun hHeld=>?_)
        clear hK K
        try simp only [Act.put,zA,zB,zC,zD,zE,zF]
        refine wpAnyH_done (by kernel_rfl) ?_ _
        go_wp2_with fail
        go_meet
        exact QS9.pre hzB.out hgB (by simp) hqn ho1 ho2 hSy3.2
      ·go_simp
       have hS:=qL4 (by assumption) (.cells #[.int .i64 0,.int .i64 0,.int .i64 0,.slice none 0 0,.slice none 0 0] 47)
       refine hK.out _ _ hS (fun hHeld=>?_)
       clear hK K
       try simp only [Act.put,zA,zB,zC,zD,zE,zF]
       refine Zk.rd (i:=5) rfl (fun K hK=>?_)
       go_simp
       refine (qE9 x _).mono ?_
       rintro d y2 ⟨rfl,hby2⟩
       have hS:=qA0 (by assumption) hby2
       have hzy2:=hby2.size
       replace EC:=(by first | exact EC | exact EC.alloc _:qD6 _ _).below hby2
       replace EF:=(by first | exact EF | exact EF.alloc _:qD6 _ _).below hby2
       have hzB:Hid (qG2 y1.heap.size [.int .i64 0,.int .i64 0,.int .i64 0,.slice none 0 0,.slice none 0 0] y2):=(qE0 _ #[.int .i64 0,.int .i64 0,.int .i64 0,.slice none 0 0,.slice none 0 0] 47).below (by simp) hby2
       have hqn:y1.heap.size < y2.heap.size:=by have q:=hby2.size;simp at q;omega
       have hgB:w190.heap.size≤y1.heap.size:=hSy1.2.size
       have hSy2:=hS
       refine hK.out _ _ hS (fun hHeld=>?_)
       clear hK K
       try simp only [Act.put,zA,zB,zC,zD,zE,zF]
       refine Zk.rd (i:=6) rfl (fun K hK=>?_)
       go_simp
       refine (HIM.out _ _ _ _ _ ⟨HER.out.1.below (HTO.out _ (by assumption)),HER.out.2.below (HTO.out _ (by assumption))⟩ (by first | exact EC.out | exact (EC.alloc _).out) (by first | exact EF.out | exact (EF.alloc _).out)).mono ?_
       rintro d y3 ⟨za,zc,zla,zlc,rfl,ho1,ho2,hby3⟩
       have hS:=qA0 (by assumption) hby3
       have hzy3:=hby3.size
       replace EC:=(by first | exact EC | exact EC.alloc _:qD6 _ _).below hby3
       replace EF:=(by first | exact EF | exact EF.alloc _:qD6 _ _).below hby3
       have hzB:Hid (qG2 y1.heap.size [.int .i64 0,.int .i64 0,.int .i64 0,.slice none 0 0,.slice none 0 0] y3):=hzB.out.below hqn hby3
       have hqo:=hqn
       replace hqn:y1.heap.size < y3.heap.size:=by omega
       have nb0:=hzB.out.1 0 _ rfl
       have fb0:=hzB.out.2 0
       have nb1:=hzB.out.1 1 _ rfl
       have fb1:=hzB.out.2 1
       have nb2:=hzB.out.1 2 _ rfl
       have fb2:=hzB.out.2 2
       have nb3:=hzB.out.1 3 _ rfl
       have fb3:=hzB.out.2 3
       have nb4:=hzB.out.1 4 _ rfl
       have fb4:=hzB.out.2 4
       have hSy3:=hS
       refine hK.out _ _ hS (fun hHeld=>?_)
       clear hK K
       try simp only [Act.put,zA,zB,zC,zD,zE,zF]
       refine Zk.rd (i:=8) rfl (fun K hK=>?_)
       go_simp
       have hS:=(qB9 (qB9 (qB9 (qB9 (qB9 hSy3 (p:=⟨y1.heap.size,0,none⟩) hgB (.int .i64 k)) (p:=⟨y1.heap.size,1,none⟩) hgB (.int .i64 iv)) (p:=⟨y1.heap.size,2,none⟩) hgB (.int .i64 uv)) (p:=⟨y1.heap.size,3,none⟩) hgB (.slice za n1 zc)) (p:=⟨y1.heap.size,4,none⟩) hgB (.slice zla m1 zlc))
       refine hK.out _ _ hS (fun hHeld=>?_)
       clear hK K
       try simp only [Act.put,zA,zB,zC,zD,zE,zF]
       refine wpAnyH_done (by kernel_rfl) ?_ _
       go_wp2_with fail
       go_meet
       exact QS9.pre hzB.out hgB hqo hqn ho1 ho2 hSy3.2
     ·go_simp
      have hS:=qL4 (by assumption) (.cells #[.int .i64 0,.int .i64 0,.int .i64 0,.slice none 0 0,.slice none 0 0] 47)
      refine hK.out _ _ hS (fun hHeld=>?_)
      clear hK K
      try simp only [Act.put,zA,zB,zC,zD,zE,zF]
      refine Zk.rd (i:=3) rfl (fun K hK=>?_)
      go_simp
      refine (qO6 a n cap cs _ hn HLE1.out (HCI.out.below (HTO.out _ (by assumption)))).mono ?_
      rintro d y1 ⟨loc,hic,rfl,EF,hby1⟩
      have hS:=qA0 (by assumption) hby1
      have hzy1:=hby1.size
      replace EC:=(by first | exact EC | exact EC.alloc _:qD6 _ _).below hby1
      have hzB:Hid (qG2 y0.heap.size [.int .i64 0,.int .i64 0,.int .i64 0,.slice none 0 0,.slice none 0 0] y1):=(qE0 _ #[.int .i64 0,.int .i64 0,.int .i64 0,.slice none 0 0,.slice none 0 0] 47).below (by simp) hby1
      have hqn:y0.heap.size < y1.heap.size:=by have q:=hby1.size;simp at q;omega
      have hgB:w190.heap.size≤y0.heap.size:=hSy0.2.size
      have hSy1:=hS
      refine hK.out _ _ hS (fun hHeld=>?_)
      clear hK K
      try simp only [Act.put,zA,zB,zC,zD,zE,zF]
      refine Zk.rd (i:=5) rfl (fun K hK=>?_)
      go_simp
      refine (qE9 x _).mono ?_
      rintro d y2 ⟨rfl,hby2⟩
      have hS:=qA0 (by assumption) hby2
      have hzy2:=hby2.size
      replace EC:=(by first | exact EC | exact EC.alloc _:qD6 _ _).below hby2
      replace EF:=(by first | exact EF | exact EF.alloc _:qD6 _ _).below hby2
      have hzB:Hid (qG2 y0.heap.size [.int .i64 0,.int .i64 0,.int .i64 0,.slice none 0 0,.slice none 0 0] y2):=hzB.out.below hqn hby2
      have hqo:=hqn
      replace hqn:y0.heap.size < y2.heap.size:=by omega
      have hSy2:=hS
      refine hK.out _ _ hS (fun hHeld=>?_)
      clear hK K
      try simp only [Act.put,zA,zB,zC,zD,zE,zF]
      refine Zk.rd (i:=6) rfl (fun K hK=>?_)
      go_simp
      refine (HIM.out _ _ _ _ _ ⟨HER.out.1.below (HTO.out _ (by assumption)),HER.out.2.below (HTO.out _ (by assumption))⟩ (by first | exact EC.out | exact (EC.alloc _).out) (by first | exact EF.out | exact (EF.alloc _).out)).mono ?_
      rintro d y3 ⟨za,zc,zla,zlc,rfl,ho1,ho2,hby3⟩
      have hS:=qA0 (by assumption) hby3
      have hzy3:=hby3.size
      replace EC:=(by first | exact EC | exact EC.alloc _:qD6 _ _).below hby3
      replace EF:=(by first | exact EF | exact EF.alloc _:qD6 _ _).below hby3
      have hzB:Hid (qG2 y0.heap.size [.int .i64 0,.int .i64 0,.int .i64 0,.slice none 0 0,.slice none 0 0] y3):=hzB.out.below hqn hby3
      have hqo:=hqn
      replace hqn:y0.heap.size < y3.heap.size:=by omega
      have nb0:=hzB.out.1 0 _ rfl
      have fb0:=hzB.out.2 0
      have nb1:=hzB.out.1 1 _ rfl
      have fb1:=hzB.out.2 1
      have nb2:=hzB.out.1 2 _ rfl
      have fb2:=hzB.out.2 2
      have nb3:=hzB.out.1 3 _ rfl
      have fb3:=hzB.out.2 3
      have nb4:=hzB.out.1 4 _ rfl
      have fb4:=hzB.out.2 4
      have hSy3:=hS
      refine hK.out _ _ hS (fun hHeld=>?_)
      clear hK K
      try simp only [Act.put,zA,zB,zC,zD,zE,zF]
      refine Zk.rd (i:=8) rfl (fun K hK=>?_)
      go_simp
      have hS:=(qB9 (qB9 (qB9 (qB9 (qB9 hSy3 (p:=⟨y0.heap.size,0,none⟩) hgB (.int .i64 k)) (p:=⟨y0.heap.size,1,none⟩) hgB (.int .i64 iv)) (p:=⟨y0.heap.size,2,none⟩) hgB (.int .i64 uv)) (p:=⟨y0.heap.size,3,none⟩) hgB (.slice za n1 zc)) (p:=⟨y0.heap.size,4,none⟩) hgB (.slice zla m1 zlc))
      refine hK.out _ _ hS (fun hHeld=>?_)
      clear hK K
      try simp only [Act.put,zA,zB,zC,zD,zE,zF]
      refine wpAnyH_done (by kernel_rfl) ?_ _
      go_wp2_with fail
      go_meet
      exact QS9.pre hzB.out hgB hqo hqn ho1 ho2 hSy3.2
    ·go_simp
     have hS:=qL4 (by assumption) (.cells #[.int .i64 0,.int .i64 0,.int .i64 0,.slice none 0 0,.slice none 0 0] 47)
     refine hK.out _ _ hS (fun hHeld=>?_)
     clear hK K
     try simp only [Act.put,zA,zB,zC,zD,zE,zF]
     refine Zk.rd (i:=1) rfl (fun K hK=>?_)
     go_simp
     refine (qO5 r _ HRL2.out (HRI.out.below (HTO.out _ (by assumption)))).mono ?_
     rintro d y0 ⟨yc,Lc,rfl,hLc,hyc,hby0⟩
     have hS:=qA0 (by assumption) hby0
     have hzy0:=hby0.size
     have EC:qD6 (fun X=>qH3 X Lc r yc) y0:=⟨hyc,fun X X' h hb=>h.below hb⟩
     clear hyc
     have hzB:Hid (qG2 w190.heap.size [.int .i64 0,.int .i64 0,.int .i64 0,.slice none 0 0,.slice none 0 0] y0):=qG2.below (W:=(w190.alloc (.cells #[.int .i64 0,.int .i64 0,.int .i64 0,.slice none 0 0,.slice none 0 0] 47)).drew) (qE0 w190 #[.int .i64 0,.int .i64 0,.int .i64 0,.slice none 0 0,.slice none 0 0] 47) (by simp) hby0
     have hqn:w190.heap.size < y0.heap.size:=by have q:=hby0.size;simp at q;omega
     have hgB:w190.heap.size≤w190.heap.size:=Nat.le_refl _
     have hSy0:=hS
     refine hK.out _ _ hS (fun hHeld=>?_)
     clear hK K
     try simp only [Act.put,zA,zB,zC,zD,zE,zF]
     refine Zk.rd (i:=3) rfl (fun K hK=>?_)
     go_simp
     refine (qO6 a n cap cs _ hn HLE1.out (HCI.out.below (HTO.out _ (by assumption)))).mono ?_
     rintro d y1 ⟨loc,hic,rfl,EF,hby1⟩
     have hS:=qA0 (by assumption) hby1
     have hzy1:=hby1.size
     replace EC:=(by first | exact EC | exact EC.alloc _:qD6 _ _).below hby1
     have hzB:Hid (qG2 w190.heap.size [.int .i64 0,.int .i64 0,.int .i64 0,.slice none 0 0,.slice none 0 0] y1):=hzB.out.below hqn hby1
     have hqo:=hqn
     replace hqn:w190.heap.size < y1.heap.size:=by omega
     have hSy1:=hS
     refine hK.out _ _ hS (fun hHeld=>?_)
     clear hK K
     try simp only [Act.put,zA,zB,zC,zD,zE,zF]
     refine Zk.rd (i:=5) rfl (fun K hK=>?_)
     go_simp
     refine (qE9 x _).mono ?_
     rintro d y2 ⟨rfl,hby2⟩
     have hS:=qA0 (by assumption) hby2
     have hzy2:=hby2.size
     replace EC:=(by first | exact EC | exact EC.alloc _:qD6 _ _).below hby2
     replace EF:=(by first | exact EF | exact EF.alloc _:qD6 _ _).below hby2
     have hzB:Hid (qG2 w190.heap.size [.int .i64 0,.int .i64 0,.int .i64 0,.slice none 0 0,.slice none 0 0] y2):=hzB.out.below hqn hby2
     have hqo:=hqn
     replace hqn:w190.heap.size < y2.heap.size:=by omega
     have hSy2:=hS
     refine hK.out _ _ hS (fun hHeld=>?_)
     clear hK K
     try simp only [Act.put,zA,zB,zC,zD,zE,zF]
     refine Zk.rd (i:=6) rfl (fun K hK=>?_)
     go_simp
     refine (HIM.out _ _ _ _ _ ⟨HER.out.1.below (HTO.out _ (by assumption)),HER.out.2.below (HTO.out _ (by assumption))⟩ (by first | exact EC.out | exact (EC.alloc _).out) (by first | exact EF.out | exact (EF.alloc _).out)).mono ?_
     rintro d y3 ⟨za,zc,zla,zlc,rfl,ho1,ho2,hby3⟩
     have hS:=qA0 (by assumption) hby3
     have hzy3:=hby3.size
     replace EC:=(by first | exact EC | exact EC.alloc _:qD6 _ _).below hby3
     replace EF:=(by first | exact EF | exact EF.alloc _:qD6 _ _).below hby3
     have hzB:Hid (qG2 w190.heap.size [.int .i64 0,.int .i64 0,.int .i64 0,.slice none 0 0,.slice none 0 0] y3):=hzB.out.below hqn hby3
     have hqo:=hqn
     replace hqn:w190.heap.size < y3.heap.size:=by omega
     have nb0:=hzB.out.1 0 _ rfl
     have fb0:=hzB.out.2 0
     have nb1:=hzB.out.1 1 _ rfl
     have fb1:=hzB.out.2 1
     have nb2:=hzB.out.1 2 _ rfl
     have fb2:=hzB.out.2 2
     have nb3:=hzB.out.1 3 _ rfl
     have fb3:=hzB.out.2 3
     have nb4:=hzB.out.1 4 _ rfl
     have fb4:=hzB.out.2 4
     have hSy3:=hS
     refine hK.out _ _ hS (fun hHeld=>?_)
     clear hK K
     try simp only [Act.put,zA,zB,zC,zD,zE,zF]
     refine Zk.rd (i:=8) rfl (fun K hK=>?_)
     go_simp
     have hS:=(qB9 (qB9 (qB9 (qB9 (qB9 hSy3 (p:=⟨w190.heap.size,0,none⟩) hgB (.int .i64 k)) (p:=⟨w190.heap.size,1,none⟩) hgB (.int .i64 iv)) (p:=⟨w190.heap.size,2,none⟩) hgB (.int .i64 uv)) (p:=⟨w190.heap.size,3,none⟩) hgB (.slice za n1 zc)) (p:=⟨w190.heap.size,4,none⟩) hgB (.slice zla m1 zlc))
     refine hK.out _ _ hS (fun hHeld=>?_)
     clear hK K
     try simp only [Act.put,zA,zB,zC,zD,zE,zF]
     refine wpAnyH_done (by kernel_rfl) ?_ _
     go_wp2_with fail
     go_meet
     exact QS9.pre hzB.out hgB hqo hqn ho1 ho2 hSy3.2
   case rest =>
    obtain ⟨U202,rfl⟩:∃ U,U=wc:=⟨_,rfl⟩
    obtain ⟨rBH,rloH,rhiH,saH,scH,laH,lcH,rfl,hgeH,hglH,hsdH,hbx,ho1,ho2,hGH,hb⟩:=hcut
    have B203:Hid (Below w.heap.size w U202):=B191.out.trans (hb.mono B191.out.size)
    have hz204:=hb.size
    have F205:Hid (qC2 (w.heap.size) (w.heap.size+1) (qE8 (w.heap.size) [.int .i64 r.i,.int .i64 r.u,.slice r.sa r.sn r.sc,.slice r.la r.ln r.lc]) U202):=F193.out.below hb
    have F206:Hid (qC2 (w.heap.size+1) (w.heap.size+1+1) (qE8 (w.heap.size+1) [.int .i64 x.k,.int .i64 x.e,.int .i64 x.f,.int .i64 x.s,.int .i64 x.n]) U202):=F194.out.below hb
    have F207:Hid (qC2 (rBW) (rBW+1) (qE8 rBW [.int .i64 k,.int .i64 iv,.int .i64 uv,.slice saW n1 scW,.slice laW m1 lcW]) U202):=F195.out.below hb
    have F208:Hid (qC2 (rloW) (rhiW) (fun X=>qB1 X rloW (.slice saW n1 scW) S) U202):=F196.out.below hb
    have F209:Hid (qC2 (rloW) (rhiW) (fun X=>qA4 X rloW (.slice laW m1 lcW) L) U202):=F197.out.below hb
    have F210:Hid (qC2 (w28.heap.size) (w28.heap.size+1) (qE8 w28.heap.size [.int .i64 y26.i,.int .i64 y26.u,.slice y26.sa y26.sn y26.sc,.slice y26.la y26.ln y26.lc]) U202):=F198.out.below hb
    have F211:Hid (qC2 (rBI) (rBI+1) (qE8 rBI [.int .i64 k,.int .i64 iv,.int .i64 uv,.slice saI n1 scI,.slice laI m1 lcI]) U202):=F199.out.below hb
    have F212:Hid (qC2 (rloI) (rhiI) (fun X=>qB1 X rloI (.slice saI n1 scI) (QX1 n1)) U202):=F200.out.below hb
    have F213:Hid (qC2 (rloI) (rhiI) (fun X=>qA4 X rloI (.slice laI m1 lcI) (qX6 (1+5 * n1) m1)) U202):=F201.out.below hb
    clear B191 F193 F194 F195 F196 F197 F198 F199 F200 F201
    have F214:Hid (qC2 (rBH) (rBH+1) (qE8 rBH [.int .i64 k,.int .i64 iv,.int .i64 uv,.slice saH n1 scH,.slice laH m1 lcH]) U202):=hbx
    have hl215:=F214.out.le
    have F216:Hid (qC2 (rloH) (rhiH) (fun X=>qB1 X rloH (.slice saH n1 scH) S) U202):=ho1
    have hl217:=F216.out.le
    have F218:Hid (qC2 (rloH) (rhiH) (fun X=>qA4 X rloH (.slice laH m1 lcH) L) U202):=ho2
    have hl219:=F218.out.le
    have GH:Hid ((∀ g,(Value.slice saH n1 scH).ownBlock=some g→g < rhiH)∧∀ g,(Value.slice laH m1 lcH).ownBlock=some g→g < rhiH):=hGH
    clear hbx ho1 ho2 hGH hb HTO HBV b0 b1 b2 b3 hbl0 d0 d1 d2 d3 d4 hbl1
    have hpl:rBH < U202.heap.size:=by have:=F214.out.le;omega
    have p0:=F214.out.out 0 _ rfl
    have p1:=F214.out.out 1 _ rfl
    have p2:=F214.out.out 2 _ rfl
    have p3:=F214.out.out 3 _ rfl
    have p4:=F214.out.out 4 _ rfl
    have hql:rBW < U202.heap.size:=by have:=F207.out.le;omega
    have q0:=F207.out.out 0 _ rfl
    have q1:=F207.out.out 1 _ rfl
    have q2:=F207.out.out 2 _ rfl
    have q3:=F207.out.out 3 _ rfl
    have q4:=F207.out.out 4 _ rfl
    go_wp2_with fail
    refine (qZ1 k iv uv saH saW n1 scH scW S laH laW m1 lcH lcW L _ hn1 hm1 ((qB1.view F216.out.out).isIn HLN.out.1) ((qB1.view F208.out.out).isIn HLN.out.1) ((qA4.view F218.out.out).isIn HLN.out.2) ((qA4.view F209.out.out).isIn HLN.out.2)).mono ?_
    rintro e w220 ⟨rfl,hb⟩
    clear p0 p1 p2 p3 p4 hpl q0 q1 q2 q3 q4 hql
    have B221:Hid (Below w.heap.size w w220):=B203.out.trans (hb.mono B203.out.size)
    have hz222:=hb.size
    have F223:Hid (qC2 (w.heap.size) (w.heap.size+1) (qE8 (w.heap.size) [.int .i64 r.i,.int .i64 r.u,.slice r.sa r.sn r.sc,.slice r.la r.ln r.lc]) w220):=F205.out.below hb
    have F224:Hid (qC2 (w.heap.size+1) (w.heap.size+1+1) (qE8 (w.heap.size+1) [.int .i64 x.k,.int .i64 x.e,.int .i64 x.f,.int .i64 x.s,.int .i64 x.n]) w220):=F206.out.below hb
    have F225:Hid (qC2 (rBW) (rBW+1) (qE8 rBW [.int .i64 k,.int .i64 iv,.int .i64 uv,.slice saW n1 scW,.slice laW m1 lcW]) w220):=F207.out.below hb
    have F226:Hid (qC2 (rloW) (rhiW) (fun X=>qB1 X rloW (.slice saW n1 scW) S) w220):=F208.out.below hb
    have F227:Hid (qC2 (rloW) (rhiW) (fun X=>qA4 X rloW (.slice laW m1 lcW) L) w220):=F209.out.below hb
    have F228:Hid (qC2 (w28.heap.size) (w28.heap.size+1) (qE8 w28.heap.size [.int .i64 y26.i,.int .i64 y26.u,.slice y26.sa y26.sn y26.sc,.slice y26.la y26.ln y26.lc]) w220):=F210.out.below hb
    have F229:Hid (qC2 (rBI) (rBI+1) (qE8 rBI [.int .i64 k,.int .i64 iv,.int .i64 uv,.slice saI n1 scI,.slice laI m1 lcI]) w220):=F211.out.below hb
    have F230:Hid (qC2 (rloI) (rhiI) (fun X=>qB1 X rloI (.slice saI n1 scI) (QX1 n1)) w220):=F212.out.below hb
    have F231:Hid (qC2 (rloI) (rhiI) (fun X=>qA4 X rloI (.slice laI m1 lcI) (qX6 (1+5 * n1) m1)) w220):=F213.out.below hb
    have F232:Hid (qC2 (rBH) (rBH+1) (qE8 rBH [.int .i64 k,.int .i64 iv,.int .i64 uv,.slice saH n1 scH,.slice laH m1 lcH]) w220):=F214.out.below hb
    have F233:Hid (qC2 (rloH) (rhiH) (fun X=>qB1 X rloH (.slice saH n1 scH) S) w220):=F216.out.below hb
    have F234:Hid (qC2 (rloH) (rhiH) (fun X=>qA4 X rloH (.slice laH m1 lcH) L) w220):=F218.out.below hb
    clear B203 F205 F206 F207 F208 F209 F210 F211 F212 F213 F214 F216 F218
    clear hb
    have hpl:rBI < w220.heap.size:=by have:=F229.out.le;omega
    have p0:=F229.out.out 0 _ rfl
    have p1:=F229.out.out 1 _ rfl
    have p2:=F229.out.out 2 _ rfl
    have p3:=F229.out.out 3 _ rfl
    have p4:=F229.out.out 4 _ rfl
    go_wp2_with fail
    refine (QR8 k iv uv saI n1 scI laI m1 lcI _ hn1 hm1 (qB1.view F230.out.out) (qA4.view F231.out.out)).mono ?_
    rintro e w235 ⟨rfl,hb⟩
    clear p0 p1 p2 p3 p4 hpl
    have B236:Hid (Below w.heap.size w w235):=B221.out.trans (hb.mono B221.out.size)
    have hz237:=hb.size
    have F238:Hid (qC2 (w.heap.size) (w.heap.size+1) (qE8 (w.heap.size) [.int .i64 r.i,.int .i64 r.u,.slice r.sa r.sn r.sc,.slice r.la r.ln r.lc]) w235):=F223.out.below hb
    have F239:Hid (qC2 (w.heap.size+1) (w.heap.size+1+1) (qE8 (w.heap.size+1) [.int .i64 x.k,.int .i64 x.e,.int .i64 x.f,.int .i64 x.s,.int .i64 x.n]) w235):=F224.out.below hb
    have F240:Hid (qC2 (rBW) (rBW+1) (qE8 rBW [.int .i64 k,.int .i64 iv,.int .i64 uv,.slice saW n1 scW,.slice laW m1 lcW]) w235):=F225.out.below hb
    have F241:Hid (qC2 (rloW) (rhiW) (fun X=>qB1 X rloW (.slice saW n1 scW) S) w235):=F226.out.below hb
    have F242:Hid (qC2 (rloW) (rhiW) (fun X=>qA4 X rloW (.slice laW m1 lcW) L) w235):=F227.out.below hb
    have F243:Hid (qC2 (w28.heap.size) (w28.heap.size+1) (qE8 w28.heap.size [.int .i64 y26.i,.int .i64 y26.u,.slice y26.sa y26.sn y26.sc,.slice y26.la y26.ln y26.lc]) w235):=F228.out.below hb
    have F244:Hid (qC2 (rBI) (rBI+1) (qE8 rBI [.int .i64 k,.int .i64 iv,.int .i64 uv,.slice saI n1 scI,.slice laI m1 lcI]) w235):=F229.out.below hb
    have F245:Hid (qC2 (rloI) (rhiI) (fun X=>qB1 X rloI (.slice saI n1 scI) (QX1 n1)) w235):=F230.out.below hb
    have F246:Hid (qC2 (rloI) (rhiI) (fun X=>qA4 X rloI (.slice laI m1 lcI) (qX6 (1+5 * n1) m1)) w235):=F231.out.below hb
    have F247:Hid (qC2 (rBH) (rBH+1) (qE8 rBH [.int .i64 k,.int .i64 iv,.int .i64 uv,.slice saH n1 scH,.slice laH m1 lcH]) w235):=F232.out.below hb
    have F248:Hid (qC2 (rloH) (rhiH) (fun X=>qB1 X rloH (.slice saH n1 scH) S) w235):=F233.out.below hb
    have F249:Hid (qC2 (rloH) (rhiH) (fun X=>qA4 X rloH (.slice laH m1 lcH) L) w235):=F234.out.below hb
    clear B221 F223 F224 F225 F226 F227 F228 F229 F230 F231 F232 F233 F234
    clear hb
    go_wp2
    go_ret
    exact ⟨rfl,B236.out⟩

end Go.Proofs.YtlhgjackapdmbaaGreatDoor
