/- Contracts. -/
import Derived.Test.YtdghpccmdnnenaaGreatDoorPx15
import Derived.Test.YtdghpccmdnnenaaGreatDoorPx12
namespace Go.Proofs.YtdghpccmdnnenaaGreatDoor
set_option maxRecDepth 100000
set_option maxHeartbeats 8000000
open Go.RowKit Go.Proofs.Tryz
set_option linter.unusedVariables false
set_option linter.unusedSimpArgs false
def qD4:List StI->List Value
 | []=>[]
 | p::ps => iv p.k :: iv p.e :: iv p.f :: iv p.s :: iv p.n::qD4 ps
theorem qN7(a b:List StI):qD4 (a++b)=qD4 a++qD4 b:=by
 induction a with
 | nil=>rfl
 | cons p ps ih=>simp[qD4,ih]
theorem QJ2(a:List StI):(qD4 a).length=a.length*5:=by
 induction a with
 | nil=>rfl
 | cons p ps ih=>simp[qD4,ih];omega
theorem QR5:∀(a:List StI) (k:Nat) (p:StI),a[k]?=some p->(qD4 a)[k*5]?=some (iv p.k)/\(qD4 a)[k*5+1]?=some (iv p.e)/\(qD4 a)[k*5+2]?=some (iv p.f)/\(qD4 a)[k*5+3]?=some (iv p.s)/\(qD4 a)[k*5+4]?=some (iv p.n)
 | [],_,_,h=>by simp at h
 | q::qs,0,p,h=>by simp at h;subst h;exact⟨rfl,rfl,rfl,rfl,rfl⟩
 | q::qs,k+1,p,h=>by
  have:=QR5 qs k p (by simpa using h);rw[show (k+1)*5=k*5+1+1+1+1+1 by omega,show k*5+1+1+1+1+1+1=(k*5+1)+1+1+1+1+1 by omega,show k*5+1+1+1+1+1+2=(k*5+2)+1+1+1+1+1 by omega,show k*5+1+1+1+1+1+3=(k*5+3)+1+1+1+1+1 by omega,show k*5+1+1+1+1+1+4=(k*5+4)+1+1+1+1+1 by omega];simpa[qD4] using this
theorem qO5(a:List StI):∀u∈qD4 a,u.oneCell'=true:=by
 induction a with
 | nil=>simp[qD4]
 | cons p ps ih =>
  intro u hu;simp only[qD4,gX]at hu;rcases hu with rfl|rfl|rfl|rfl|rfl | hu
  .rfl
  .rfl
  .rfl
  .rfl
  .rfl
  .exact ih u hu
def qF0(w:World)(B:Nat)(v:Value)(gs:List StI):Prop:=w.ownsRow B 50 5 v gs.length (qD4 gs)
theorem qF0.shape{w:World}{B:Nat}{v:Value}{gs:List StI}(h:qF0 w B v gs)(hv:v≠.slice none 0 0):∃g cap,v=.slice (some ⟨g,0,none⟩) gs.length cap:=by
 have h0:w.ownsRow B 50 5 v gs.length (qD4 gs):=h;rcases h0.2 with⟨h',_⟩ | ⟨g,cap,cur,h',_⟩
 .exact absurd h' hv
 .exact⟨g,cap,h'⟩
theorem qF0.below{w w':World}{B:Nat}{v:Value}{gs:List StI}(h:qF0 w B v gs)(hb:Below w.heap.size w w'):qF0 w' B v gs :=
 World.ownsRow.kept (row:=none) h ⟨hb.os,hb.tape,hb.output,hb.size,fun k hk _=>hb.block k hk⟩ (by cases v.ownBlock <;> simp)
theorem qC9{w:World}{B B':Nat}{v:Value}{gs:List StI}(h:qF0 w B v gs)(hb:B'<=B):qF0 w B' v gs:=by
 have h0:w.ownsRow B 50 5 v gs.length (qD4 gs):=h;refine⟨h0.1,?_⟩;rcases h0.2 with h' | ⟨g,cap,cur,e,hg,rest⟩
 .exact .inl h'
 .exact .inr ⟨g,cap,cur,e,jF hb hg,rest⟩
theorem QV9{w:World}{B:Nat}{v:Value}{es:List StI}{x:StI}(h:w.ownsRow B 50 5 v (es.length+1) (qD4 es++[iv x.k,iv x.e,iv x.f,iv x.s,iv x.n])):qF0 w B v (es++[x]):=by
 unfold qF0;rw[jD,qN7];exact h
theorem qCr{w1 Z w':World}{B:Nat}{v:Value}{es:List StI}(ho:qF0 Z B v es)(hb:Below B w1 Z)(hg:Z.grownBy w' v.ownBlock)(hB:B<=Z.heap.size):Below B w1 w':=by
 have h0:Z.ownsRow B 50 5 v es.length (qD4 es):=ho;exact hb.grown hg hB (fun j hj=>(h0.lt j hj).1)
def StV(w:World)(a:Option Addr)(zs:List StI):Prop:=∀k p,zs[k]?=some p->∃g,a=some ⟨g,0,none⟩/\qM9 w g (k*5) p
theorem StV.isIn{w:World}{a:Option Addr}{n:Nat}{zs:List StI}(hn:zs.length=n)(h:StV w a zs):qL2 w a n zs:=by
 refine⟨hn,fun hp=>?_⟩;obtain⟨g,ha,_⟩:=h 0 _ (gA (by omega));refine⟨g,0,ha,fun k x e=>?_⟩;obtain⟨g',ha',hx⟩:=h k x e;rw[ha]at ha';cases ha';rw[gG];exact hx
theorem qF0.view{w:World}{B:Nat}{a:Option Addr}{n cap:Nat}{zs:List StI}(h:qF0 w B (.slice a n cap) zs):StV w a zs:=by
 intro k p e
 have hk:k<zs.length:=by
  by_cases q:k<zs.length
  .exact q
  .rw[gE (by omega)]at e;cases e
 have h0:w.ownsRow B 50 5 (.slice a n cap) zs.length (qD4 zs):=h;rcases h0.2 with⟨h',h''⟩ | ⟨g,cap',cur,h',_⟩
 .omega
 .simp at h';obtain⟨rfl,rfl,rfl⟩:=h';obtain⟨f0,f1,f2,f3,f4⟩:=QR5 zs k p e;exact⟨g,rfl,(h0.cellAt (k*5) (by omega)).trans f0,(h0.cellAt (k*5+1) (by omega)).trans f1,(h0.cellAt (k*5+2) (by omega)).trans f2,(h0.cellAt (k*5+3) (by omega)).trans f3,(h0.cellAt (k*5+4) (by omega)).trans f4⟩
theorem qF0.form{w:World}{B:Nat}{v:Value}{zs:List StI}(h:qF0 w B v zs):(v=.slice none 0 0/\zs=[])\/∃g cap,v=.slice (some ⟨g,0,none⟩) zs.length cap/\B<=g/\g<w.heap.size/\zs.length<=cap/\cap<=maxLen:=by
 have h0:w.ownsRow B 50 5 v zs.length (qD4 zs):=h;rcases h0.2 with⟨h',h''⟩ | ⟨g,cap',cur,h',hb,hg,hc,hm,_⟩
 .exact .inl ⟨h',List.length_eq_zero_iff.1 h''⟩
 .exact .inr ⟨g,cap',h',hb,(gN.1 hg).1,hc,hm⟩
theorem qP7.below{w w':World}{g n:Nat}(h:qP7 w g n)(hg:g<w.heap.size)(hb:Below w.heap.size w w'):qP7 w' g n :=
 ⟨fun j hj=>by obtain⟨v,e⟩:=h.1 j hj;exact⟨v,(hb.cell (p:=⟨g,j,none⟩) hg).trans e⟩,fun j=>(hb.frozen (p:=⟨g,j,none⟩) hg).trans (h.2 j)⟩
theorem qP7.grown{w w':World}{g n:Nat}{row:Option Nat}(h:qP7 w g n)(hg:g<w.heap.size)(hr:w.grownBy w' row)(hne:some g≠row):qP7 w' g n :=
 ⟨fun j hj=>by obtain⟨v,e⟩:=h.1 j hj;exact⟨v,hr.cell e hne⟩,fun j=>by
  have:=h.2 j;unfold World.frozen? at this ⊢
  simp only at this ⊢
  rw[hr.block g hg hne];exact this⟩
structure qD2 where
 i:Int
 u:Int
 sa:Option Addr
 sn:Nat
 sc:Nat
 ss:List StI
 la:Option Addr
 ln:Nat
 lc:Nat
 ls:List LkI
deriving Inhabited
structure qE7 (w:World) (r:qD2):Prop where
 said:qL2 w r.sa r.sn r.ss
 locks:qJ9 w r.la r.ln r.ls
theorem qE7.below{w w':World}{r:qD2}(h:qE7 w r)(hb:Below w.heap.size w w'):qE7 w' r:=⟨h.said.below hb,h.locks.below hb⟩
structure qH2 (m:Nat) (r:qD2):Prop where
 said:r.sn<=m
 locks:r.ln<=m
structure qZ4 (w:World) (L:Nat) (r y:qD2):Prop where
 i:y.i=r.i
 u:y.u=r.u
 sn:y.sn=r.sn
 ln:y.ln=r.ln
 sc:y.sc=r.sn
 lc:y.lc=r.ln
 ss:y.ss=r.ss
 ls:y.ls=r.ls
 sa:y.sa=some ⟨L,0,none⟩
 la:∃g,y.la=some ⟨g,0,none⟩/\L<g/\g<w.heap.size/\QC0 w g r.ls/\qP8 w g r.ln
 sl:QB6 w L r.ss/\qP7 w L r.sn
 slt:L<w.heap.size
theorem qZ4.below{w w':World}{L:Nat}{r y:qD2}(h:qZ4 w L r y)(hb:Below w.heap.size w w'):qZ4 w' L r y:=by
 obtain⟨g,e,h1,h2,h3,h4⟩:=h.la;exact⟨h.i,h.u,h.sn,h.ln,h.sc,h.lc,h.ss,h.ls,h.sa,⟨g,e,h1,by have:=hb.size;omega,h3.below hb,h4.below h2 hb⟩,⟨h.sl.1.below hb,h.sl.2.below h.slt hb⟩,by have:=hb.size;have:=h.slt;omega⟩
theorem qZ4.isIn{w:World}{L:Nat}{r y:qD2}(h:qZ4 w L r y)(h1:r.ss.length=r.sn)(h2:r.ls.length=r.ln):qE7 w y:=by
 obtain⟨g,e,_,_,h3,_⟩:=h.la;refine⟨?_,?_⟩
 .rw[h.sa,h.sn,h.ss];exact qL2.of h1 h.sl.1
 .rw[e,h.ln,h.ls];exact qJ9.of h2 h3
structure qS4 (w:World) (b:Nat) (u0 u1 u2 u3:Value):Prop where
 c0:w.cell? ⟨b,0,none⟩=some u0
 c1:w.cell? ⟨b,1,none⟩=some u1
 c2:w.cell? ⟨b,2,none⟩=some u2
 c3:w.cell? ⟨b,3,none⟩=some u3
 fz:∀j,w.frozen? ⟨b,j,none⟩=false
theorem qS4.lt{w:World}{b:Nat}{u0 u1 u2 u3:Value}(h:qS4 w b u0 u1 u2 u3):b<w.heap.size:=zL w ⟨b,0,none⟩ h.c0
theorem qS4.below{w w':World}{b:Nat}{u0 u1 u2 u3:Value}(h:qS4 w b u0 u1 u2 u3)(hb:Below w.heap.size w w'):qS4 w' b u0 u1 u2 u3 :=
 ⟨(hb.cell (p:=⟨b,0,none⟩) h.lt).trans h.c0,(hb.cell (p:=⟨b,1,none⟩) h.lt).trans h.c1,(hb.cell (p:=⟨b,2,none⟩) h.lt).trans h.c2,(hb.cell (p:=⟨b,3,none⟩) h.lt).trans h.c3,fun j=>(hb.frozen (p:=⟨b,j,none⟩) h.lt).trans (h.fz j)⟩
theorem qS4.new(w:World)(u0 u1 u2 u3:Value)(t:TypeId):qS4 (w.alloc (.cells #[u0,u1,u2,u3] t)) w.heap.size u0 u1 u2 u3:=⟨by simp,by simp,by simp,by simp,fun j=>by simp[go_sem]⟩
theorem qS4.put2{w:World}{b:Nat}{u0 u1 u2 u3:Value}(h:qS4 w b u0 u1 u2 u3)(v:Value):qS4 (w.setCell ⟨b,2,none⟩ v) b u0 u1 v u3:=by
 obtain⟨h0,h1,h2,h3,hf⟩:=h;refine⟨?_,?_,?_,?_,fun j=>by simp[hf]⟩ <;> simp[go_sem,h0,h1,h2,h3]
theorem qS4.put3{w:World}{b:Nat}{u0 u1 u2 u3:Value}(h:qS4 w b u0 u1 u2 u3)(v:Value):qS4 (w.setCell ⟨b,3,none⟩ v) b u0 u1 u2 v:=by
 obtain⟨h0,h1,h2,h3,hf⟩:=h;refine⟨?_,?_,?_,?_,fun j=>by simp[hf]⟩ <;> simp[go_sem,h0,h1,h2,h3]
theorem qG6(w:World)(q o:Nat)(v:Value):w.grownBy (w.setCell ⟨q,o,none⟩ v) (some q):=by
 refine⟨rfl,rfl,rfl,by simp,fun i hi hne=>?_⟩;have hq:i≠q:=fun e=>hne (by rw[e])
 rw[kE _ _ _ _ hq]
theorem qM6{w w1 w2:World}{row:Option Nat}(h:w.grownBy w1 row)(h':w1.grownBy w2 row):w.grownBy w2 row :=
 ⟨h'.os.trans h.os,h'.tape.trans h.tape,h'.output.trans h.output,jF h.size h'.size,fun i hi hne=>by rw[h'.block i (gD hi h.size) hne];exact h.block i hi hne⟩
theorem qS4.grown{w w':World}{b:Nat}{u0 u1 u2 u3:Value}{row:Option Nat}(h:qS4 w b u0 u1 u2 u3)(hg:w.grownBy w' row)(hne:some b≠row):qS4 w' b u0 u1 u2 u3 :=
 ⟨hg.cell h.c0 hne,hg.cell h.c1 hne,hg.cell h.c2 hne,hg.cell h.c3 hne,fun j=>by
  have:=h.fz j;unfold World.frozen? at this ⊢
  rw[hg.block b h.lt hne];exact this⟩
theorem QB6.grown{w w':World}{g:Nat}{gs:List StI}{row:Option Nat}(h:QB6 w g gs)(hg:w.grownBy w' row)(hne:some g≠row):QB6 w' g gs:=fun k x e=>by
 obtain⟨h0,h1,h2,h3,h4⟩:=h k x e;exact⟨hg.cell h0 hne,hg.cell h1 hne,hg.cell h2 hne,hg.cell h3 hne,hg.cell h4 hne⟩
theorem QC0.grown{w w':World}{g:Nat}{gs:List LkI}{row:Option Nat}(h:QC0 w g gs)(hg:w.grownBy w' row)(hne:some g≠row):QC0 w' g gs:=fun k x e=>by
 obtain⟨h0,h1,h2,h3⟩:=h k x e;exact⟨hg.cell h0 hne,hg.cell h1 hne,hg.cell h2 hne,hg.cell h3 hne⟩
theorem qCV(r:qD2)(w:World)(hle:qH2 1048576 r)(h:qE7 w r):
  Calls prog 85 #[.agg #[.int .i64 r.i,.int .i64 r.u,.slice r.sa r.sn r.sc,.slice r.la r.ln r.lc]] w fun e w'=>∃(y:qD2) (L:Nat),e=.returned (.agg #[.int .i64 y.i,.int .i64 y.u,.slice y.sa y.sn y.sc,.slice y.la y.ln y.lc])/\w.heap.size<=L/\qZ4 w' L r y/\Below w.heap.size w w':=by
 have H:Hid (qE7 w r):=h;have HLE:Hid (qH2 1048576 r):=hle;clear h hle;obtain⟨V0,hV0⟩:∃V,V=w.alloc (.cells #[.int .i64 r.i,.int .i64 r.u,.slice r.sa r.sn r.sc,.slice r.la r.ln r.lc] 109):=⟨_,rfl⟩;obtain⟨V1,hV1⟩:∃V,V=V0.alloc (.cells #[.int .i64 0,.int .i64 0,.slice none 0 0,.slice none 0 0] 115):=⟨_,rfl⟩;obtain⟨V,hV⟩:∃V,V=V1.alloc (.cells #[.int .i64 r.i,.int .i64 r.u,.slice none 0 0,.slice none 0 0] 115):=⟨_,rfl⟩;have z0:V0.heap.size=w.heap.size+1:=by rw[hV0];simp
 have z1:V1.heap.size=w.heap.size+1+1:=by rw[hV1];simp[z0]
 have z2:V.heap.size=w.heap.size+1+1+1:=by rw[hV];simp[z1]
 have b0:Below w.heap.size w V0:=by rw[hV0];exact zN
 have b1:Below V0.heap.size V0 V1:=by rw[hV1];exact zN
 have b2:Below V1.heap.size V1 V:=by rw[hV];exact zN
 have X0:qS4 V w.heap.size (.int .i64 r.i) (.int .i64 r.u) (.slice r.sa r.sn r.sc) (.slice r.la r.ln r.lc):=by
  have q:qS4 V0 w.heap.size (.int .i64 r.i) (.int .i64 r.u) (.slice r.sa r.sn r.sc) (.slice r.la r.ln r.lc):=by rw[hV0];exact qS4.new _ _ _ _ _ _
  exact (q.below b1).below b2
 have Y0:qS4 V (w.heap.size+1) (.int .i64 0) (.int .i64 0) (.slice none 0 0) (.slice none 0 0):=by
  have q:qS4 V1 V0.heap.size (.int .i64 0) (.int .i64 0) (.slice none 0 0) (.slice none 0 0):=by rw[hV1];exact qS4.new _ _ _ _ _ _
  rw[z0]at q;exact q.below b2
 have O0:qS4 V (w.heap.size+1+1) (.int .i64 r.i) (.int .i64 r.u) (.slice none 0 0) (.slice none 0 0):=by
  have q:qS4 V V1.heap.size (.int .i64 r.i) (.int .i64 r.u) (.slice none 0 0) (.slice none 0 0):=by rw[hV];exact qS4.new _ _ _ _ _ _
  rw[z1]at q;exact q
 have B0:Hid (Below w.heap.size w V):=(b0.trans (b1.mono b0.size)).trans (b2.mono (by omega));have HV:Hid (V=((w.alloc (.cells #[.int .i64 r.i,.int .i64 r.u,.slice r.sa r.sn r.sc,.slice r.la r.ln r.lc] 109)).alloc (.cells #[.int .i64 0,.int .i64 0,.slice none 0 0,.slice none 0 0] 115)).alloc (.cells #[.int .i64 r.i,.int .i64 r.u,.slice none 0 0,.slice none 0 0] 115)):=by rw[hV,hV1,hV0];exact rfl
 have Z2:Hid (V.heap.size=w.heap.size+1+1+1):=z2;have XX:Hid (qS4 V w.heap.size (.int .i64 r.i) (.int .i64 r.u) (.slice r.sa r.sn r.sc) (.slice r.la r.ln r.lc)/\qS4 V (w.heap.size+1) (.int .i64 0) (.int .i64 0) (.slice none 0 0) (.slice none 0 0)/\qS4 V (w.heap.size+1+1) (.int .i64 r.i) (.int .i64 r.u) (.slice none 0 0) (.slice none 0 0)):=⟨X0,Y0,O0⟩;clear hV hV1 hV0 z0 z1 z2 b0 b1 b2 X0 Y0 O0 V0 V1;go_enter func85,ntmps85;go_wp2_with fail
 rw[<- HV.out];clear HV;refine (QI3 r.sa r.sn r.sc r.ss V HLE.out.said (H.out.said.below B0.out)).mono ?_;rintro e w1 ⟨rfl,hat1,hlt1,hb1,hroom1⟩;obtain⟨X1,Y1,O1⟩:=XX.out;have X1:=X1.below hb1;have Y1:=Y1.below hb1;have O1:=O1.below hb1;have B1:Below w.heap.size w w1:=B0.out.trans (hb1.mono B0.out.size);have hz1:w.heap.size+1+1+1<=w1.heap.size:=by have:=Z2.out;have:=hb1.size;omega
 obtain⟨U,hU⟩:∃U,U=w1.setCell ⟨w.heap.size+1+1,2,none⟩ (.slice (some ⟨V.heap.size,0,none⟩) r.sn r.sn):=⟨_,rfl⟩;have gU:w1.grownBy U (some (w.heap.size+1+1)):=by rw[hU];exact qG6 _ _ _ _
 have BU:Hid (Below w.heap.size w U):=by rw[hU];exact B1.setCell (by show w.heap.size<=w.heap.size+1+1;omega) _
 have XU:Hid (qS4 U w.heap.size (.int .i64 r.i) (.int .i64 r.u) (.slice r.sa r.sn r.sc) (.slice r.la r.ln r.lc)/\qS4 U (w.heap.size+1) (.int .i64 0) (.int .i64 0) (.slice none 0 0) (.slice none 0 0)/\qS4 U (w.heap.size+1+1) (.int .i64 r.i) (.int .i64 r.u) (.slice (some ⟨V.heap.size,0,none⟩) r.sn r.sn) (.slice none 0 0)):=by
  refine⟨X1.grown gU (fun e=>by injection e;omega),Y1.grown gU (fun e=>by injection e;omega),?_⟩;rw[hU];exact O1.put2 _
 have SU:Hid (QB6 U V.heap.size r.ss/\qP7 U V.heap.size r.sn/\V.heap.size<U.heap.size):=by
  have hne:some V.heap.size≠some (w.heap.size+1+1):=fun e=>by injection e;have:=Z2.out;omega
  exact⟨hat1.grown gU hne,hroom1.grown hlt1 gU hne,by have:=gU.size;omega⟩
 obtain⟨x0,x1,x2,x3,_⟩:=X1;obtain⟨o0,o1,o2,o3,of⟩:=O1;have of2:=of 2;have hlo:w.heap.size+1+1<w1.heap.size:=by omega
 have hlx:w.heap.size<w1.heap.size:=by omega
 clear hat1 hroom1 hb1 Y1 B1 gU XX of;go_wp2_with fail
 rw[<- hU];clear hU x0 x1 x2 x3 o0 o1 o2 o3 of2 hlo hlx;refine (qAx r.la r.ln r.lc r.ls U HLE.out.locks (H.out.locks.below BU.out)).mono ?_;rintro e w2 ⟨rfl,hat2,hlt2,hb2,hroom2⟩;obtain⟨X2,Y2,O2⟩:=XU.out;have X2:=X2.below hb2;have Y2:=Y2.below hb2;have O2:=O2.below hb2;have B2:Below w.heap.size w w2:=BU.out.trans (hb2.mono BU.out.size);have hz2:w.heap.size+1+1+1<=w2.heap.size:=by have:=SU.out.2.2;have:=Z2.out;have:=hb2.size;omega
 obtain⟨T,hT⟩:∃T,T=w2.setCell ⟨w.heap.size+1+1,3,none⟩ (.slice (some ⟨U.heap.size,0,none⟩) r.ln r.ln):=⟨_,rfl⟩;have gT:w2.grownBy T (some (w.heap.size+1+1)):=by rw[hT];exact qG6 _ _ _ _
 have BT:Below w.heap.size w T:=by rw[hT];exact B2.setCell (by show w.heap.size<=w.heap.size+1+1;omega) _
 have YT:=Y2.grown gT (fun e=>by injection e;omega);have OT:qS4 T (w.heap.size+1+1) (.int .i64 r.i) (.int .i64 r.u) (.slice (some ⟨V.heap.size,0,none⟩) r.sn r.sn) (.slice (some ⟨U.heap.size,0,none⟩) r.ln r.ln):=by rw[hT];exact O2.put3 _
 have ST:Hid (QB6 T V.heap.size r.ss/\qP7 T V.heap.size r.sn/\V.heap.size<T.heap.size/\QC0 T U.heap.size r.ls/\qP8 T U.heap.size r.ln/\U.heap.size<T.heap.size/\V.heap.size<U.heap.size/\w.heap.size+1+1<V.heap.size):=by
  have hz:=Z2.out;have hs:=SU.out;have hne:some V.heap.size≠some (w.heap.size+1+1):=fun e=>by injection e;omega
  have hne2:some U.heap.size≠some (w.heap.size+1+1):=fun e=>by injection e;omega
  have hsz:=gT.size;have hbz:=hb2.size;exact⟨(hs.1.below hb2).grown gT hne,(hs.2.1.below hs.2.2 hb2).grown (by omega) gT hne,by omega,hat2.grown gT hne2,hroom2.grown hlt2 gT hne2,by omega,hs.2.2,by omega⟩
 obtain⟨x0,x1,x2,x3,_⟩:=X2;obtain⟨o0,o1,o2,o3,of⟩:=O2;have of3:=of 3;have hlo:w.heap.size+1+1<w2.heap.size:=by omega
 have hlx:w.heap.size<w2.heap.size:=by omega
 obtain⟨p0,p1,p2,p3,_⟩:=OT;obtain⟨y0,y1,y2,y3,yf⟩:=YT;have f0:=yf 0;have f1:=yf 1;have f2:=yf 2;have f3:=yf 3;have BT':Hid (Below w.heap.size w T):=BT;clear hat2 hroom2 hb2 Y2 B2 gT XU of BT yf SU BU;go_upto_region 6 with fail
 rw[<- hT];clear hT x0 x1 x2 x3 o0 o1 o2 o3 of3;have g4:Hid (T.grownBy ((((T.setCell ⟨w.heap.size+1,0,none⟩ (.int .i64 r.i)).setCell ⟨w.heap.size+1,1,none⟩ (.int .i64 r.u)).setCell ⟨w.heap.size+1,2,none⟩ (.slice (some ⟨V.heap.size,0,none⟩) r.sn r.sn)).setCell ⟨w.heap.size+1,3,none⟩ (.slice (some ⟨U.heap.size,0,none⟩) r.ln r.ln)) (some (w.heap.size+1))):=qM6 (qM6 (qM6 (qG6 _ _ _ _) (qG6 _ _ _ _)) (qG6 _ _ _ _)) (qG6 _ _ _ _);have b4:Hid (Below w.heap.size w ((((T.setCell ⟨w.heap.size+1,0,none⟩ (.int .i64 r.i)).setCell ⟨w.heap.size+1,1,none⟩ (.int .i64 r.u)).setCell ⟨w.heap.size+1,2,none⟩ (.slice (some ⟨V.heap.size,0,none⟩) r.sn r.sn)).setCell ⟨w.heap.size+1,3,none⟩ (.slice (some ⟨U.heap.size,0,none⟩) r.ln r.ln))):=(((BT'.out.setCell (by show w.heap.size<=w.heap.size+1;omega) _).setCell (by show w.heap.size<=w.heap.size+1;omega) _).setCell (by show w.heap.size<=w.heap.size+1;omega) _).setCell (by show w.heap.size<=w.heap.size+1;omega) _;go_wp2;refine bodyPost_ret (v:=.agg #[.int .i64 r.i,.int .i64 r.u,.slice (some ⟨V.heap.size,0,none⟩) r.sn r.sn,.slice (some ⟨U.heap.size,0,none⟩) r.ln r.ln]) (by simp[results,results85,go_sem,y0,y1,y2,y3]) rfl ?_;refine⟨⟨r.i,r.u,some ⟨V.heap.size,0,none⟩,r.sn,r.sn,r.ss,some ⟨U.heap.size,0,none⟩,r.ln,r.ln,r.ls⟩,V.heap.size,rfl,by have:=ST.out;omega,?_,b4.out⟩;obtain⟨s1,s2,s3,s4,s5,s6,s7,s8⟩:=ST.out;have hne:some V.heap.size≠some (w.heap.size+1):=fun e=>by injection e;omega
 have hne2:some U.heap.size≠some (w.heap.size+1):=fun e=>by injection e;omega
 have hsz:=g4.out.size;exact⟨rfl,rfl,rfl,rfl,rfl,rfl,rfl,rfl,rfl,⟨U.heap.size,rfl,s7,by omega,s4.grown g4.out hne2,s5.grown s6 g4.out hne2⟩,⟨s1.grown g4.out hne,s2.grown s3 g4.out hne⟩,by omega⟩
section
attribute [local go_sem ↓] QU7
def qJ5(w:World)(b:Nat)(r:qD2):Prop:=w.cell? ⟨b,0,none⟩=some (iv r.i)/\w.cell? ⟨b,1,none⟩=some (iv r.u)/\w.cell? ⟨b,2,none⟩=some (.slice r.sa r.sn r.sc)/\w.cell? ⟨b,3,none⟩=some (.slice r.la r.ln r.lc)
theorem qJ5.lt{w:World}{b:Nat}{r:qD2}(h:qJ5 w b r):b<w.heap.size:=zL w ⟨b,0,none⟩ h.1
theorem qJ5.below{w w':World}{b:Nat}{r:qD2}(h:qJ5 w b r)(hb:Below w.heap.size w w'):qJ5 w' b r :=
 ⟨(hb.cell (p:=⟨b,0,none⟩) h.lt).trans h.1,(hb.cell (p:=⟨b,1,none⟩) h.lt).trans h.2.1,(hb.cell (p:=⟨b,2,none⟩) h.lt).trans h.2.2.1,(hb.cell (p:=⟨b,3,none⟩) h.lt).trans h.2.2.2⟩
def qI2(w:World)(b o:Nat)(r:qD2):Prop:=w.cell? ⟨b,o,none⟩=some (iv r.i)/\w.cell? ⟨b,o+1,none⟩=some (iv r.u)/\w.cell? ⟨b,o+2,none⟩=some (.slice r.sa r.sn r.sc)/\w.cell? ⟨b,o+3,none⟩=some (.slice r.la r.ln r.lc)
theorem qI2.lt{w:World}{b o:Nat}{r:qD2}(h:qI2 w b o r):b<w.heap.size:=zL w ⟨b,o,none⟩ h.1
theorem qI2.below{w w':World}{b o:Nat}{r:qD2}(h:qI2 w b o r)(hb:Below w.heap.size w w'):qI2 w' b o r :=
 ⟨(hb.cell (p:=⟨b,o,none⟩) h.lt).trans h.1,(hb.cell (p:=⟨b,o+1,none⟩) h.lt).trans h.2.1,(hb.cell (p:=⟨b,o+2,none⟩) h.lt).trans h.2.2.1,(hb.cell (p:=⟨b,o+3,none⟩) h.lt).trans h.2.2.2⟩
theorem qJ5.new(w:World)(r:qD2)(t:TypeId):qJ5 (w.alloc (.cells #[iv r.i,iv r.u,.slice r.sa r.sn r.sc,.slice r.la r.ln r.lc] t)) w.heap.size r:=⟨by simp,by simp,by simp,by simp⟩
theorem qEh(b:Nat)(r:qD2)(k e:Int)(w:World)(hx:qJ5 w b r)(h:qL2 w r.sa r.sn r.ss)(hn:r.sn<=1048576):
  CP 238 #[.pointer (some ⟨b,0,none⟩),iv k,iv e] w fun d w'=>d=.returned (.bool (qR5 r.ss k e))/\Below w.heap.size w w':=by
 obtain⟨i,u,sa,n,sc,said,la,ln,lc,ls⟩:=r;simp only at hx h hn ⊢
 have HZ:=hJJ h.1;have H:=hJJ h;have hbl:=hx.lt;obtain⟨_,_,x2,_⟩:=hx;have X2:=hJJ x2;clear h x2;have hn':(n:Int)<=1048576:=by omega
 rw[qEl];obtain⟨t,ht⟩:∃t,(qI6 said k e).isSome=t:=⟨_,rfl⟩;have HT:=hJJ ht;rw[ht];clear ht;go_enter func238,ntmps238;go_wp2;go_loopw [7] (fun i wr=>∃j:Nat,j<=n/\i=iv (j:Int)/\(qI6 (said.drop j) k e).isSome=t/\Below w.heap.size w wr) (fun i _=>n-(intOf i).toNat)
 case atStart=>exact⟨0,gH _,rfl,HT.out,gC _ _⟩
 case round =>
  obtain⟨j,hj,rfl,hp,hnx⟩:=hrel;have x2:=(hnx.cell (p:=⟨b,2,none⟩) hbl).trans X2.out;have hbw2:b<wr.heap.size:=gD hbl hnx.size;by_cases hlt:j<n
  .obtain⟨g,off,x,rfl,hs,hxa,hgl⟩:=H.out.at hlt
   rw[QE6 hs]at hp;obtain⟨g0,g1,g2,g3,g4⟩:=hxa.below hnx hgl;have hbw:g<wr.heap.size:=gD hgl hnx.size;have hlt':(j:Int)<(n:Int):=by omega
   clear hs hxa;by_cases q1:x.k=k
   .have b1:(x.k==k)=true:=by simp[q1]
    by_cases q2:x.e=e
    .have b2:(x.e==e)=true:=by simp[q2]
     rw[gK ⟨q1,q2⟩]at hp;have HP:=hJJ hp;clear hp q1 q2;go_wp2;go_ret;exact⟨by rw[<- HP.out];rfl,hnx⟩
    .have b2:(x.e==e)=false:=by simp[q2]
     rw[gI (fun q=>q2 q.2)]at hp;have HP:=hJJ hp;clear hp q1 q2;go_wp2;exact⟨⟨j+1,by omega,by go_num,HP.out,hnx⟩,by simp[intOf];omega⟩
   .have b1:(x.k==k)=false:=by simp[q1]
    rw[gI (fun q=>q1 q.1)]at hp;have HP:=hJJ hp;clear hp q1;go_wp2;exact⟨⟨j+1,by omega,by go_num,HP.out,hnx⟩,by simp[intOf];omega⟩
  .have hkn:j=n:=by omega
   subst hkn;rw[jH (by rw[HZ.out];exact gB _)]at hp;have HP:=hJJ hp;clear hp;go_wp2;go_ret;exact⟨by rw[<- HP.out];rfl,hnx⟩
theorem QC7(b:Nat)(r:qD2)(e:Int)(w:World)(hx:qJ5 w b r)(h:qL2 w r.sa r.sn r.ss)(hn:r.sn<=1048576):
  CP 235 #[.pointer (some ⟨b,0,none⟩),iv e] w fun d w'=>d=.returned (.bool (qV1 r.ss e))/\Below w.heap.size w w':=by
 have HK:Hid (∀(k:Int) (w2:World),Below w.heap.size w w2->CP 238 #[.pointer (some ⟨b,0,none⟩),iv k,iv e] w2 fun d w'=>d=.returned (.bool (qR5 r.ss k e))/\Below w2.heap.size w2 w'):=fun k w2 hb=>qEh b r k e w2 (hx.below hb) (h.below hb) hn
 clear hx h;unfold qV1;cases q:qR5 r.ss 3 e
 .have HQ:Hid (qR5 r.ss 3 e=false):=q;clear q;obtain⟨t,ht⟩:∃t,qR5 r.ss 4 e=t:=⟨_,rfl⟩;have HT:=hJJ ht;rw[ht,Bool.false_or];clear ht;go_enter func235,ntmps235;go_wp2_with fail
  refine (HK.out 3 _ (gC _ _)).mono ?_;rintro d w1 ⟨rfl,hb1⟩;rw[HQ.out];go_wp2_with fail
  refine (HK.out 4 _ hb1).mono ?_;rintro d w2 ⟨rfl,hb2⟩;rw[HT.out];go_wp2;go_ret;exact⟨rfl,hb1.trans (hb2.mono hb1.size)⟩
 .have HQ:Hid (qR5 r.ss 3 e=true):=q;clear q;rw[Bool.true_or];go_enter func235,ntmps235;go_wp2_with fail
  refine (HK.out 3 _ (gC _ _)).mono ?_;rintro d w1 ⟨rfl,hb1⟩;rw[HQ.out];go_wp2;go_ret;exact⟨rfl,hb1⟩
theorem qK7(b:Nat)(r:qD2)(y:StI)(w:World)(hx:qJ5 w b r)(h:qL2 w r.sa r.sn r.ss)(hn:r.sn<=1048576):
  CP 101 #[.pointer (some ⟨b,0,none⟩),.agg #[iv y.k,iv y.e,iv y.f,iv y.s,iv y.n]] w fun d w'=>d=.returned (.bool (qC4 r.ss y))/\Below w.heap.size w w':=by
 obtain⟨i,u,sa,n,sc,said,la,ln,lc,ls⟩:=r;simp only at hx h hn ⊢
 have HZ:=hJJ h.1;obtain⟨w0,hw0⟩:∃w0,w0=w.alloc (.cells #[iv y.k,iv y.e,iv y.f,iv y.s,iv y.n] 50):=⟨_,rfl⟩;have hb0:Below w.heap.size w w0:=by rw[hw0];exact zN
 have hs0:w.heap.size<w0.heap.size:=by rw[hw0];simp
 have HB0:=hJJ hb0;have H:Hid (qL2 w0 sa n said):=h.below hb0;have HY:Hid (qM9 w0 w.heap.size 0 y):=by rw[hw0];exact qM9.new w y _
 have hbl:=(hx.below hb0).lt;obtain⟨_,_,x2,_⟩:=hx.below hb0;have X2:=hJJ x2;clear h x2 hx hb0;have hn':(n:Int)<=1048576:=by omega
 obtain⟨t,ht⟩:∃t,qC4 said y=t:=⟨_,rfl⟩;have HT:=hJJ ht;rw[ht];clear ht;go_enter func101,ntmps101;go_wp2;rw[<- hw0];clear hw0;go_loopw [5] (fun i wr=>∃j:Nat,j<=n/\i=iv (j:Int)/\qC4 (said.drop j) y=t/\Below w0.heap.size w0 wr) (fun i _=>n-(intOf i).toNat)
 case atStart=>exact⟨0,gH _,rfl,HT.out,gC _ _⟩
 case round =>
  obtain⟨j,hj,rfl,hp,hnx⟩:=hrel;have x2:=(hnx.cell (p:=⟨b,2,none⟩) hbl).trans X2.out;have hbw2:b<wr.heap.size:=gD hbl hnx.size;have BN:Hid (Below w.heap.size w wr):=HB0.out.trans (hnx.mono (by omega));by_cases hlt:j<n
  .obtain⟨g,off,x,rfl,hs,hxa,hgl⟩:=H.out.at hlt
   rw[qFc hs]at hp;obtain⟨g0,g1,g2,g3,g4⟩:=hxa.below hnx hgl;obtain⟨y0,y1,y2,y3,y4⟩:=HY.out.below hnx hs0;simp only[gG]at y0 y1 y2 y3 y4;have hbw:g<wr.heap.size:=gD hgl hnx.size;have hyw:w.heap.size<wr.heap.size:=gD hs0 hnx.size;have hlt':(j:Int)<(n:Int):=by omega
   clear hs hxa;cases q:qJ1 x y
   .rw[q,Bool.false_or]at hp;have HP:=hJJ hp;clear hp;go_wp2;go_quiet (fail)
    go_wp2;exact⟨⟨j+1,by omega,by go_num,HP.out,below_drewN hnx _⟩,by simp[intOf];omega⟩
   .rw[q,Bool.true_or]at hp;have HP:=hJJ hp;clear hp;go_wp2;go_quiet (fail)
    go_wp2;go_ret;exact⟨by rw[<- HP.out];rfl,below_drewN BN.out _⟩
  .have hkn:j=n:=by omega
   subst hkn;rw[jH (by rw[HZ.out];exact gB _)]at hp;have HP:=hJJ hp;clear hp;go_wp2;go_ret;exact⟨by rw[<- HP.out];rfl,BN.out⟩
def QB9(said:List StI)(k e i:Int):Prop:=(i = -1/\qI6 said k e=none)\/∃(j:Nat) (x:StI),i=(j:Int)/\said[j]?=some x/\qI6 said k e=some x
theorem qHT(bk be:Nat)(x:StI)(k e:Int)(w:World)(hk:w.cell? ⟨bk,0,none⟩=some (iv k))(he:w.cell? ⟨be,0,none⟩=some (iv e)):
  CP 286 #[.agg #[iv x.k,iv x.e,iv x.f,iv x.s,iv x.n],.pointer (some ⟨bk,0,none⟩),.pointer (some ⟨be,0,none⟩)] w fun d w'=>d=.returned (.bool (decide (x.k=k/\x.e=e)))/\Below w.heap.size w w':=by
 have hkl:=zL w ⟨bk,0,none⟩ hk;have hel:=zL w ⟨be,0,none⟩ he;by_cases q1:x.k=k
 .have b1:(x.k==k)=true:=by simp[q1]
  by_cases q2:x.e=e
  .have b2:(x.e==e)=true:=by simp[q2]
   rw[jQ ⟨q1,q2⟩];clear q1 q2;go_enter func286,ntmps286;go_wp2;go_ret;exact⟨rfl,by go_grown⟩
  .have b2:(x.e==e)=false:=by simp[q2]
   rw[jL (fun q=>q2 q.2)];clear q1 q2;go_enter func286,ntmps286;go_wp2;go_ret;exact⟨rfl,by go_grown⟩
 .have b1:(x.k==k)=false:=by simp[q1]
  rw[jL (fun q=>q1 q.1)];clear q1;go_enter func286,ntmps286;go_wp2;go_ret;exact⟨rfl,by go_grown⟩
theorem qCh(bk be:Nat)(a:Option Addr)(n cap:Nat)(said:List StI)(k e:Int)(w:World)(hn:n<=1048576)(h:qL2 w a n said)(hk:w.cell? ⟨bk,0,none⟩=some (iv k))(he:w.cell? ⟨be,0,none⟩=some (iv e)):
  CP 150 #[.slice a n cap,.func (.func 286) #[] #[.pointer (some ⟨bk,0,none⟩),.pointer (some ⟨be,0,none⟩)]] w fun d w'=>(∃i:Int,d=.returned (iv i)/\QB9 said k e i)/\Below w.heap.size w w':=by
 have HZ:=hJJ h.1;have H:=hJJ h;have hkl:=zL w ⟨bk,0,none⟩ hk;have hel:=zL w ⟨be,0,none⟩ he;have HC:Hid (∀(x:StI) (w2:World),Below w.heap.size w w2->CP 286 #[.agg #[iv x.k,iv x.e,iv x.f,iv x.s,iv x.n],.pointer (some ⟨bk,0,none⟩),.pointer (some ⟨be,0,none⟩)] w2 fun d w'=>d=.returned (.bool (decide (x.k=k/\x.e=e)))/\Below w2.heap.size w2 w'):=fun x w2 hb=>qHT bk be x k e w2 ((hb.cell (p:=⟨bk,0,none⟩) hkl).trans hk) ((hb.cell (p:=⟨be,0,none⟩) hel).trans he)
 clear h hk he hkl hel;have hn':(n:Int)<=1048576:=by omega
 go_enter func150,ntmps150;go_wp2_with fail
 go_loopw [8] (fun i wr=>∃j:Nat,j<=n/\i=iv (j:Int)/\Hid (qI6 (said.drop j) k e=qI6 said k e)/\Below w.heap.size w wr) (fun i _=>n-(intOf i).toNat)
 case atStart=>exact⟨0,gH _,rfl,by show qI6 (said.drop 0) k e=_;rw[List.drop_zero],gC _ _⟩
 case round =>
  obtain⟨j,hj,rfl,HP,hnx⟩:=hrel;by_cases hlt:j<n
  .obtain⟨g,off,x,rfl,hs,hxa,hgl⟩:=H.out.at hlt
   have HS:=hJJ hs;have HD:=QE6 hs k e;obtain⟨g0,g1,g2,g3,g4⟩:=hxa.below hnx hgl;have hbw:g<wr.heap.size:=gD hgl hnx.size;have hlt':(j:Int)<(n:Int):=by omega
   clear hs hxa;by_cases q:x.k=k/\x.e=e
   .have HI:Hid (QB9 said k e (j:Int)):=.inr ⟨j,x,rfl,HS.out,by rw[<- HP.out,HD,gK q]⟩;have HQ:Hid (decide (x.k=k/\x.e=e)=true):=jQ q;clear q HD;go_wp2_with fail
    refine (HC.out x _ hnx).mono ?_;rintro d w1 ⟨rfl,hb1⟩;rw[HQ.out];go_wp2;go_ret;exact⟨⟨_,rfl,HI.out⟩,hnx.trans (hb1.mono hnx.size)⟩
   .have HN:Hid (qI6 (said.drop (j+1)) k e=qI6 said k e):=by show _=_;rw[<- HP.out,HD,gI q]
    have HQ:Hid (decide (x.k=k/\x.e=e)=false):=jL q;clear q HD;go_wp2_with fail
    refine (HC.out x _ hnx).mono ?_;rintro d w1 ⟨rfl,hb1⟩;rw[HQ.out];go_wp2;exact⟨⟨j+1,by omega,by go_num,HN,hnx.trans (hb1.mono hnx.size)⟩,by simp[intOf];omega⟩
  .have hkn:j=n:=by omega
   subst hkn;have HI:Hid (QB9 said k e (-1)):=.inl ⟨rfl,by rw[<- HP.out,jH (by rw[HZ.out];exact gB _)];rfl⟩;go_wp2;go_ret;exact⟨⟨_,rfl,HI.out⟩,hnx⟩
theorem QZ7(a:Option Addr)(n cap:Nat)(said:List StI)(k e:Int)(w:World)(hn:n<=1048576)(h:qL2 w a n said):
  CP 276 #[.slice a n cap,iv k,iv e] w fun d w'=>(∃i:Int,d=.returned (iv i)/\QB9 said k e i)/\Below w.heap.size w w':=by
 obtain⟨W,hW⟩:∃W,W=(w.alloc (.cells #[iv k] 2)).alloc (.cells #[iv e] 2):=⟨_,rfl⟩;have B0:Below w.heap.size w W:=by rw[hW];exact (zN).alloc (by simp) _
 have c0:W.cell? ⟨w.heap.size,0,none⟩=some (iv k):=by rw[hW];simp
 have c1:W.cell? ⟨w.heap.size+1,0,none⟩=some (iv e):=by rw[hW];simp
 have HC:Hid (CP 150 #[.slice a n cap,.func (.func 286) #[] #[.pointer (some ⟨w.heap.size,0,none⟩),.pointer (some ⟨w.heap.size+1,0,none⟩)]] W fun d w'=>(∃i:Int,d=.returned (iv i)/\QB9 said k e i)/\Below W.heap.size W w'):=qCh _ _ a n cap said k e W hn (h.below B0) c0 c1;clear h c0 c1;have hmf:∀(fn:Fn) (first cap:Array Value) (w:World),(Instr.makeFunc fn first cap).run prog w=.ok (.func fn first cap) w:=fun _ _ _ _=>rfl
 go_enter func276,ntmps276;go_wp2_with fail
 rw[<- hW];clear hW;refine HC.out.mono ?_;rintro d w1 ⟨⟨i,rfl,hi⟩,hb1⟩;go_wp2;go_ret;exact⟨⟨i,rfl,hi⟩,B0.trans (hb1.mono B0.size)⟩
end
theorem QM4{said:List StI}{k e i:Int}(h:QB9 said k e i):decide (0<=i)=qR5 said k e:=by
 rw[qEl];rcases h with⟨rfl,q⟩ | ⟨j,x,rfl,_,q⟩
 .rw[q];rfl
 .rw[q];simp
theorem qGL(a:Option Addr)(n cap:Nat)(said:List StI)(e:Int)(w:World)(hn:n<=1048576)(h:qL2 w a n said):
  CP 277 #[.slice a n cap,iv e] w fun d w'=>d=.returned (.bool (qV1 said e))/\Below w.heap.size w w':=by
 have HK:Hid (∀(k:Int) (w2:World),Below w.heap.size w w2->CP 276 #[.slice a n cap,iv k,iv e] w2 fun d w'=>(∃i:Int,d=.returned (iv i)/\QB9 said k e i)/\Below w2.heap.size w2 w'):=fun k w2 hb=>QZ7 a n cap said k e w2 hn (h.below hb)
 clear h;unfold qV1;cases q:qR5 said 3 e
 .have HQ:Hid (qR5 said 3 e=false):=q;clear q;obtain⟨t,ht⟩:∃t,qR5 said 4 e=t:=⟨_,rfl⟩;have HT:=hJJ ht;rw[ht,Bool.false_or];clear ht;go_enter func277,ntmps277;go_wp2_with fail
  refine (HK.out 3 _ (gC _ _)).mono ?_;rintro d w1 ⟨⟨i,rfl,hi⟩,hb1⟩;have h1:=QM4 hi;rw[HQ.out]at h1;clear hi;go_wp2_with fail
  refine (HK.out 4 _ hb1).mono ?_;rintro d w2 ⟨⟨i2,rfl,hi2⟩,hb2⟩;have h2:=QM4 hi2;rw[HT.out]at h2;have H2:=hJJ h2;clear hi2 h1 h2;go_wp2;go_ret;exact⟨by rw[<- H2.out];rfl,hb1.trans (hb2.mono hb1.size)⟩
 .have HQ:Hid (qR5 said 3 e=true):=q;clear q;rw[Bool.true_or];go_enter func277,ntmps277;go_wp2_with fail
  refine (HK.out 3 _ (gC _ _)).mono ?_;rintro d w1 ⟨⟨i,rfl,hi⟩,hb1⟩;have h1:=QM4 hi;rw[HQ.out]at h1;clear hi;go_wp2;go_ret;exact⟨rfl,hb1⟩
theorem qAz(r:qD2)(l:Int)(w:World)(h0:(r.sn:Int)+(r.ln:Int)<=l)(hl:l<=1048576):
  CP 78 #[.agg #[iv r.i,iv r.u,.slice r.sa r.sn r.sc,.slice r.la r.ln r.lc],iv l] w fun e w'=>e=.returned (iv (l-r.sn-r.ln))/\Below w.heap.size w w':=by
 have h1:(r.sn:Int)<=l:=by omega
 have h2:¬ (l-(r.sn:Int)<0):=by omega
 have h3:¬ (l-(r.sn:Int)-(r.ln:Int)<0):=by omega
 go_enter func78,ntmps78;go_wp2_with go_in
 go_ret;exact⟨rfl,by go_grown⟩
theorem QT1(r:qD2)(l:Int)(w:World)(hm:r.sn<=maxLen)(h0:l<(r.sn:Int))(hl0:0<=l)(hl:l<=1048576):
  CP 78 #[.agg #[iv r.i,iv r.u,.slice r.sa r.sn r.sc,.slice r.la r.ln r.lc],iv l] w fun e w'=>e=.returned (iv (-1))/\Below w.heap.size w w':=by
 unfold maxLen at hm;have hm':(r.sn:Int)<=9223372036854775807:=by omega
 clear hm;go_enter func78,ntmps78;go_wp2_with go_in
 go_ret;exact⟨rfl,by go_grown⟩
theorem QN4(r:qD2)(l:Int)(w:World)(h1:(r.sn:Int)<=l)(hm:r.ln<=maxLen)(h0:l<(r.sn:Int)+(r.ln:Int))(hl:l<=1048576):
  CP 78 #[.agg #[iv r.i,iv r.u,.slice r.sa r.sn r.sc,.slice r.la r.ln r.lc],iv l] w fun e w'=>e=.returned (iv (-1))/\Below w.heap.size w w':=by
 unfold maxLen at hm;have hm':(r.ln:Int)<=9223372036854775807:=by omega
 clear hm;go_enter func78,ntmps78;go_wp2_with go_in
 go_ret;exact⟨rfl,by go_grown⟩
theorem qCZ(r:qD2)(l:Int)(w:World)(hm:qH2 maxLen r)(hl0:0<=l)(hl:l<=1048576):
  CP 78 #[.agg #[iv r.i,iv r.u,.slice r.sa r.sn r.sc,.slice r.la r.ln r.lc],iv l] w fun e w'=>(∃v:Int,e=.returned (iv v)/\v<=l/\(0<=v->(r.sn:Int)<=l/\(r.ln:Int)<=l))/\Below w.heap.size w w':=by
 by_cases h1:(r.sn:Int)<=l
 .by_cases h2:(r.sn:Int)+(r.ln:Int)<=l
  .exact (qAz r l w h2 hl).mono fun e w' h=>⟨⟨_,h.1,by omega,fun _=>by omega⟩,h.2⟩
  .exact (QN4 r l w h1 hm.locks (by omega) hl).mono fun e w' h=>⟨⟨_,h.1,by omega,fun q=>by omega⟩,h.2⟩
 .exact (QT1 r l w hm.said (by omega) hl0 hl).mono fun e w' h=>⟨⟨_,h.1,by omega,fun q=>by omega⟩,h.2⟩
def QM5(pss:List (List qC6)):Nat->Int
 | 0=>0
 | k+1=>if QM5 pss k≠0 then QM5 pss k else match pss[k]? with
  | none=>0
  | some x=>qN3 x
def qK2(pss:List (List qC6)):Int:=if 4<pss.length then 2 else QM5 pss pss.length
theorem QR3(zs:List (List qC6))(k m:Nat)(c:Int)(hc:c≠0)(h:QM5 zs k=c)(hm:k<=m):QM5 zs m=c:=by
  induction m with
  | zero => obtain rfl:k=0:=by omega
            exact h
  | succ m ih =>
    by_cases e:k=m+1
    . subst e;exact h
    . have:=ih (by omega);simp only[QM5,this];rw[gK hc]
theorem QR4{zs:List (List qC6)}{k:Nat}{x:List qC6}(hk:zs[k]?=some x)(h0:QM5 zs k=0):QM5 zs (k+1)=qN3 x:=by
 simp[QM5,h0,hk]
theorem qV8{fs:List qG7}{k:Nat}{x:qG7}(h:fs[k]?=some x):(qA3 fs)[k]?=some x.ps:=by
 unfold qA3;rw[jI,h];rfl
theorem QC4(fs:List qG7):(qA3 fs).length=fs.length:=by unfold qA3;simp
def qH6(e f:Int)(zs:List qA1)(pss:List (List qC6))(cs:List Int):Int:=if inR e 1 9=false then 3 else if inR f 1 2=false then 3 else orJ (qC3 zs) (orJ (qK2 pss) (qG2 cs))
theorem QJ5{e f:Int}{zs:List qA1}{pss:List (List qC6)}{cs:List Int}(h:qH6 e f zs pss cs=0):inR e 1 9=true/\inR f 1 2=true/\qC3 zs=0/\qK2 pss=0/\qG2 cs=0:=by
 unfold qH6 at h;split at h
 .cases h
 .split at h
  .cases h
  .rename_i q1 q2;unfold orJ at h;split at h
   .split at h
    .exact⟨by simpa using q1,by simpa using q2,by assumption,by assumption,h⟩
    .exact absurd h (by assumption)
   .exact absurd h (by assumption)
theorem qDV{pss:List (List qC6)}(h:qK2 pss=0):pss.length<=4/\∀(k:Nat) (x:List qC6),pss[k]?=some x->qN3 x=0:=by
 unfold qK2 at h;split at h
 .cases h
 .refine⟨by omega,fun k x e=>?_⟩
  have hk:k<pss.length:=by
   by_cases q:k<pss.length
   .exact q
   .rw[gE (by omega)]at e;cases e
  have key:∀j,j<=pss.length->QM5 pss j=0:=fun j hj=>by
   by_cases q:QM5 pss j=0
   .exact q
   .have:=QR3 pss j pss.length _ q rfl hj;rw[this]at h;exact absurd h q
  have h1:=key (k+1) (by omega);rw[QR4 e (key k (by omega))]at h1;exact h1
theorem qMZ(g:Nat)(c d f:Int)(w:World)(h0:w.cell? ⟨g,0,none⟩=some (iv c))(h1:w.cell? ⟨g,1,none⟩=some (iv d))(h2:w.cell? ⟨g,2,none⟩=some (iv f)):
  CP 64 #[.slice (some ⟨g,0,none⟩) 3 3] w fun e w'=>e=.returned (iv (orJ c (orJ d f)))/\w=w':=by
 go_enter func64,ntmps64;go_wp2;go_loop [8] (fun i=>∃k:Nat,k<=3/\i=iv (k:Int)/\(1<=k->c=0)/\(2<=k->d=0)/\(3<=k->f=0)) (fun i=>3-(intOf i).toNat)
 case atStart=>exact⟨0,by omega,rfl,fun h=>by omega,fun h=>by omega,fun h=>by omega⟩
 case round =>
  obtain⟨k,hk,rfl,hc,hd,hf⟩:=hrel;have hk':k=0\/k=1\/k=2\/k=3:=by omega
  rcases hk' with rfl|rfl|rfl|rfl
  .clear hc hd hf;by_cases e:c=0
   .have b:(c != 0)=false:=by simp[e]
    have HE:=hJJ e;clear e;go_wp2;exact⟨⟨1,by omega,by go_num,fun _=>HE.out,fun h=>by omega,fun h=>by omega⟩,by simp[intOf]⟩
   .have b:(c != 0)=true:=by simp[e]
    go_wp2;go_ret;exact⟨by simp[orJ,e],rfl⟩
  .have HC:Hid (c=0):=hc (by omega);clear hc hd hf;by_cases e:d=0
   .have b:(d != 0)=false:=by simp[e]
    have HE:=hJJ e;clear e;go_wp2;exact⟨⟨2,by omega,by go_num,fun _=>HC.out,fun _=>HE.out,fun h=>by omega⟩,by simp[intOf]⟩
   .have b:(d != 0)=true:=by simp[e]
    go_wp2;go_ret;exact⟨by simp[orJ,HC.out,e],rfl⟩
  .have HC:Hid (c=0):=hc (by omega);have HD:Hid (d=0):=hd (by omega);clear hc hd hf;by_cases e:f=0
   .have b:(f != 0)=false:=by simp[e]
    have HE:=hJJ e;clear e;go_wp2;exact⟨⟨3,by omega,by go_num,fun _=>HC.out,fun _=>HD.out,fun _=>HE.out⟩,by simp[intOf]⟩
   .have b:(f != 0)=true:=by simp[e]
    go_wp2;go_ret;exact⟨by simp[orJ,HC.out,HD.out],rfl⟩
  .have HC:Hid (c=0):=hc (by omega);have HD:Hid (d=0):=hd (by omega);have HF:Hid (f=0):=hf (by omega);clear hc hd hf;go_wp2;go_ret;exact⟨by simp[orJ,HC.out,HD.out,HF.out],rfl⟩
theorem qIX{W w:World}(h:(∀b o,b<W.heap.size->w.cell? ⟨b,o,none⟩=W.cell? ⟨b,o,none⟩)/\Below W.heap.size W w)(o:Obj):(∀b i,b<W.heap.size->(w.alloc o).cell? ⟨b,i,none⟩=W.cell? ⟨b,i,none⟩)/\Below W.heap.size W (w.alloc o) :=
 qA0 h (zN)
theorem qBj(a:Option Addr)(n cap:Nat)(fs:List qG7)(w:World)(hn:n<=1048576)(hle:qM3 1048576 fs)(h:qF7 w a n fs):
  CP 219 #[.slice a n cap] w fun e w'=>e=.returned (iv (qK2 (qA3 fs)))/\Below w.heap.size w w':=by
 have H:=hJJ h;have HZ:Hid ((qA3 fs).length=n):=by show (qA3 fs).length=n;rw[QC4];exact h.1
 have HLE:=hJJ hle;clear h hle;by_cases h4:4<n
 .have HC:Hid (qK2 (qA3 fs)=2):=by show qK2 (qA3 fs)=2;unfold qK2;rw[gK (by rw[HZ.out];exact h4)]
  have h4':(4:Int)<(n:Int):=by omega
  go_enter func219,ntmps219;go_wp2;go_ret;exact⟨by rw[HC.out];rfl,gC _ _⟩
 .have HC:Hid (qK2 (qA3 fs)=QM5 (qA3 fs) n):=by show qK2 (qA3 fs)=QM5 (qA3 fs) n;unfold qK2;rw[gI (by rw[HZ.out];exact h4),HZ.out]
  have h4':(n:Int)<=4:=by omega
  rw[HC.out];go_enter func219,ntmps219;go_wp2;go_loopw [11] (fun i wr=>∃k:Nat,k<=n/\i=iv (k:Int)/\QM5 (qA3 fs) k=0/\Below w.heap.size w wr) (fun i _=>n-(intOf i).toNat)
  case atStart=>exact⟨0,gH _,rfl,rfl,gC _ _⟩
  case round =>
   obtain⟨k,hk,rfl,hz,hnx⟩:=hrel;have HK:=hJJ hz;clear hz;by_cases hlt:k<n
   .obtain⟨b,off,x,rfl,hs,hr⟩:=H.out.at hlt
    have HS:Hid ((qA3 fs)[k]?=some x.ps):=qV8 hs;have hx:x.n<=1048576:=HLE.out k x hs;have hb:b<w.heap.size:=hr.lt;have hc:=(hr.below hnx).1;have HP:Hid (qC1 wr x.a x.n x.ps):=(hr.below hnx).2;clear hs hr;have hlt':(k:Int)<(n:Int):=by omega
    have hA:Below wr.heap.size wr (wr.alloc (.cells #[.slice x.a x.n x.cap] 160)):=zN;obtain⟨q,hq⟩:∃q,qN3 x.ps=q:=⟨_,rfl⟩;go_wp2_with fail
    refine (qZ2 x.a x.n x.cap x.ps _ (by unfold maxLen;omega) (HP.out.below hA)).mono ?_;rintro e w1 ⟨rfl,hb1⟩;rw[hq];have hb01:Below w.heap.size w w1:=hnx.trans ((hA.trans (hb1.mono hA.size)).mono hnx.size);have HQ:Hid (QM5 (qA3 fs) (k+1)=q):=by show QM5 (qA3 fs) (k+1)=q;rw[QR4 HS.out HK.out];exact hq
    clear hc hq hA hb1;by_cases q0:q=0
    .have qb:(q != 0)=false:=by simp[q0]
     have HQ0:=hJJ q0;clear q0;go_wp2;exact⟨⟨k+1,by omega,by go_num,by rw[HQ.out];exact HQ0.out,hb01⟩,by simp[intOf];omega⟩
    .have qb:(q != 0)=true:=by simp[q0]
     have HE:Hid (QM5 (qA3 fs) n=q):=QR3 _ _ _ _ q0 HQ.out (by omega);go_wp2;go_ret;exact⟨by rw[HE.out];rfl,hb01⟩
   .have hkn:k=n:=by omega
    subst hkn;go_wp2;go_ret;exact⟨by rw[HK.out];rfl,hnx⟩
theorem qCC(a:Option Addr)(n cap:Nat)(zs:List Int)(w:World)(h:qD0 w a n zs):
  CP 220 #[.slice a n cap] w fun e w'=>e=.returned (iv (qG2 zs))/\w=w':=by
 have HI:=hJJ h;clear h;go_enter func220,ntmps220;go_wp2_with (go_at_call 202;refine (qF9 _ _ _ zs _ HI.out).mono ?_;rintro e w' ⟨rfl,rfl⟩)
 go_ret;exact⟨rfl,rfl⟩
theorem qIp(c:qA5)(w:World):CP 186 #[.agg #[iv c.e,iv c.f,.slice c.ra c.rn c.rc,.slice c.fa c.fn c.fc,.slice c.ca c.cn c.cc]] w fun e w'=>e=.returned (.agg #[.slice c.ca c.cn c.cc,iv c.e,iv c.f,.slice c.ra c.rn c.rc,.slice c.fa c.fn c.fc])/\Below w.heap.size w w':=by
 go_enter func186,ntmps186;go_wp2;go_returns
 exact⟨rfl,by go_grown⟩
theorem qBu(c:qA5)(w:World)(hle:qE2 1048576 c)(hrc:c.rn<=c.rc)(hrm:c.rc<=maxLen)(h:qF4 w c):
  CP 187 #[.agg #[.slice c.ca c.cn c.cc,iv c.e,iv c.f,.slice c.ra c.rn c.rc,.slice c.fa c.fn c.fc]] w fun e w'=>e=.returned (iv (qH6 c.e c.f c.zs (qA3 c.fs) c.cs))/\Below w.heap.size w w':=by
 obtain⟨t1,h1⟩:∃t,inR c.e 1 9=t:=⟨_,rfl⟩;obtain⟨t2,h2⟩:∃t,inR c.f 1 2=t:=⟨_,rfl⟩;have H1:=hJJ h1;have H2:=hJJ h2;cases t1
 .have HV:Hid (qH6 c.e c.f c.zs (qA3 c.fs) c.cs=3):=by show qH6 _ _ _ _ _=3;unfold qH6;rw[gK h1]
  clear h1 h2 h;go_enter func187,ntmps187;go_wp2_with (first | (go_at_call 163;refine (qI4 _ _).mono ?_;rintro e w' ⟨rfl,rfl⟩;rw[H1.out]))
  go_ret;exact⟨by rw[HV.out];rfl,by go_grown⟩
 .cases t2
  .have HV:Hid (qH6 c.e c.f c.zs (qA3 c.fs) c.cs=3):=by show qH6 _ _ _ _ _=3;unfold qH6;rw[gI (by simp[h1]),gK h2]
   clear h1 h2 h;go_enter func187,ntmps187;go_wp2_with (first | (go_at_call 163;refine (qI4 _ _).mono ?_;rintro e w' ⟨rfl,rfl⟩;rw[H1.out]) | (go_at_call 217;refine (QX2 _ _).mono ?_;rintro e w' ⟨rfl,rfl⟩;rw[H2.out]))
   go_ret;exact⟨by rw[HV.out];rfl,by go_grown⟩
  .have HV:Hid (qH6 c.e c.f c.zs (qA3 c.fs) c.cs=orJ (qC3 c.zs) (orJ (qK2 (qA3 c.fs)) (qG2 c.cs))):=by show qH6 _ _ _ _ _=_;unfold qH6;rw[gI (by simp[h1]),gI (by simp[h2])]
   rw[HV.out];obtain⟨W,hW⟩:∃W,W=w.alloc (.cells #[.slice c.ca c.cn c.cc,iv c.e,iv c.f,.slice c.ra c.rn c.rc,.slice c.fa c.fn c.fc] 242):=⟨_,rfl⟩;have hs:W.heap.size=w.heap.size+1:=by rw[hW];simp
   have B0:Below w.heap.size w W:=by rw[hW];exact zN
   have c0:W.cell? ⟨w.heap.size,0,none⟩=some (.slice c.ca c.cn c.cc):=by rw[hW];simp
   have c3:W.cell? ⟨w.heap.size,3,none⟩=some (.slice c.ra c.rn c.rc):=by rw[hW];simp
   have c4:W.cell? ⟨w.heap.size,4,none⟩=some (.slice c.fa c.fn c.fc):=by rw[hW];simp
   have HP:Hid (∀w2:World,(∀b o,b<W.heap.size->w2.cell? ⟨b,o,none⟩=W.cell? ⟨b,o,none⟩)/\Below W.heap.size W w2->CP 218 #[.slice c.ra c.rn c.rc] w2 fun e w'=>e=.returned (iv (qC3 c.zs))/\Below w2.heap.size w2 w'):=fun w2 q=>qW5 c.ra c.rn c.rc c.zs w2 hle.rules hrc hrm (h.rules.below (B0.trans (q.2.mono (by omega))))
   have HF:Hid (∀w2:World,(∀b o,b<W.heap.size->w2.cell? ⟨b,o,none⟩=W.cell? ⟨b,o,none⟩)/\Below W.heap.size W w2->CP 219 #[.slice c.fa c.fn c.fc] w2 fun e w'=>e=.returned (iv (qK2 (qA3 c.fs)))/\Below w2.heap.size w2 w'):=fun w2 q=>qBj c.fa c.fn c.fc c.fs w2 hle.forms hle.parts (h.forms.below (B0.trans (q.2.mono (by omega))))
   have HK:Hid (∀w2:World,(∀b o,b<W.heap.size->w2.cell? ⟨b,o,none⟩=W.cell? ⟨b,o,none⟩)/\Below W.heap.size W w2->CP 220 #[.slice c.ca c.cn c.cc] w2 fun e w'=>e=.returned (iv (qG2 c.cs))/\Below w2.heap.size w2 w'):=fun w2 q=>(qCC c.ca c.cn c.cc c.cs w2 (h.classes.below (B0.trans (q.2.mono (by omega))))).mono fun e w' hh=>⟨hh.1,hh.2 ▸ gC _ _⟩
   clear h hle h1 h2;generalize qC3 c.zs=p at HP ⊢
   generalize qK2 (qA3 c.fs)=q at HF ⊢
   generalize qG2 c.cs=r at HK ⊢
   go_enter func187,ntmps187;go_wp2_with (first | (go_at_call 163;refine (qI4 _ _).mono ?_;rintro e w' ⟨rfl,rfl⟩;rw[H1.out]) | (go_at_call 217;refine (QX2 _ _).mono ?_;rintro e w' ⟨rfl,rfl⟩;rw[H2.out]))
   rw[<- hW];clear hW
   go_region_held3 (fun w'=>(∀b o,b<W.heap.size->w'.cell? ⟨b,o,none⟩=W.cell? ⟨b,o,none⟩)/\Below W.heap.size W w') (first | exact hS | exact qA8 _ | exact qIX (by assumption) _)
    (first | (go_at_call 218;refine (HP.out _ (by assumption)).mono ?_;rintro e w' ⟨rfl,hb2⟩;have hS:=qA0 (by assumption) hb2) | (go_at_call 219;refine (HF.out _ (by assumption)).mono ?_;rintro e w' ⟨rfl,hb2⟩;have hS:=qA0 (by assumption) hb2) | (go_at_call 220;refine (HK.out _ (by assumption)).mono ?_;rintro e w' ⟨rfl,hb2⟩;have hS:=qA0 (by assumption) hb2) | (go_at_call 64;refine (qMZ _ p q r _ ?_ ?_ ?_).mono ?_;(· simp[go_sem]);(· simp[go_sem]);(· simp[go_sem]);rintro e w' ⟨rfl,rfl⟩))
   all_goals
    have hS3:=qIX hS (.cells #[iv p,iv q,iv r] 2);go_wp2;go_ret;exact⟨rfl,B0.trans (hS3.2.mono (by omega))⟩
theorem qW6(c:qA5)(w:World)(hle:qE2 1048576 c)(hrc:c.rn<=c.rc)(hrm:c.rc<=maxLen)(h:qF4 w c):
  CP 141 #[.agg #[iv c.e,iv c.f,.slice c.ra c.rn c.rc,.slice c.fa c.fn c.fc,.slice c.ca c.cn c.cc]] w fun e w'=>e=.returned (iv (qH6 c.e c.f c.zs (qA3 c.fs) c.cs))/\Below w.heap.size w w':=by
 have H:=hJJ h;have HLE:=hJJ hle;clear h hle;have hA:Below w.heap.size w (w.alloc (.cells #[iv c.e,iv c.f,.slice c.ra c.rn c.rc,.slice c.fa c.fn c.fc,.slice c.ca c.cn c.cc] 92)):=zN;obtain⟨v,hv⟩:∃v,qH6 c.e c.f c.zs (qA3 c.fs) c.cs=v:=⟨_,rfl⟩;rw[hv];have HF:Hid (∀w2:World,Below w.heap.size w w2->CP 187 #[.agg #[.slice c.ca c.cn c.cc,iv c.e,iv c.f,.slice c.ra c.rn c.rc,.slice c.fa c.fn c.fc]] w2 fun e w'=>e=.returned (iv v)/\Below w2.heap.size w2 w'):=fun w2 q=>by rw[<- hv];exact qBu c w2 HLE.out hrc hrm (H.out.below q)
 clear hv;go_enter func141,ntmps141;go_wp2_with fail
 refine (qIp c _).mono ?_;rintro e w1 ⟨rfl,hb1⟩;have hB1:Below w.heap.size w w1:=hA.trans (hb1.mono hA.size);clear hA hb1;go_wp2_with fail
 refine (HF.out _ hB1).mono ?_;rintro e w2 ⟨rfl,hb2⟩;have hB2:Below w.heap.size w w2:=hB1.trans (hb2.mono hB1.size);clear hb2 hB1;go_wp2;go_ret;exact⟨rfl,hB2⟩
def qH4(w:World)(g o:Nat)(c:qA5):Prop:=w.cell? ⟨g,o,none⟩=some (iv c.e)/\w.cell? ⟨g,o+1,none⟩=some (iv c.f)/\w.cell? ⟨g,o+2,none⟩=some (.slice c.ra c.rn c.rc)/\w.cell? ⟨g,o+3,none⟩=some (.slice c.fa c.fn c.fc)/\w.cell? ⟨g,o+4,none⟩=some (.slice c.ca c.cn c.cc)
theorem qH4.lt{w:World}{g o:Nat}{c:qA5}(h:qH4 w g o c):g<w.heap.size:=zL w ⟨g,o,none⟩ h.1
theorem qH4.below{w w':World}{g o:Nat}{c:qA5}(h:qH4 w g o c)(hb:Below w.heap.size w w'):qH4 w' g o c:=by
 obtain⟨h0,h1,h2,h3,h4⟩:=h;have hl:=zL w ⟨g,o,none⟩ h0;exact⟨(hb.cell (p:=⟨g,o,none⟩) hl).trans h0,(hb.cell (p:=⟨g,o+1,none⟩) hl).trans h1,(hb.cell (p:=⟨g,o+2,none⟩) hl).trans h2,(hb.cell (p:=⟨g,o+3,none⟩) hl).trans h3,(hb.cell (p:=⟨g,o+4,none⟩) hl).trans h4⟩
theorem qIL(g o:Nat)(c:qA5)(w:World)(hle:qE2 1048576 c)(hk:qH4 w g o c)(h:qF4 w c):
  CP 130 #[.pointer (some ⟨g,o,none⟩)] w fun e w'=>e=.returned (iv (qH6 c.e c.f c.zs (qA3 c.fs) c.cs))/\Below w.heap.size w w':=by
 obtain⟨t1,h1⟩:∃t,inR c.e 1 9=t:=⟨_,rfl⟩;obtain⟨t2,h2⟩:∃t,inR c.f 1 2=t:=⟨_,rfl⟩;have H1:=hJJ h1;have H2:=hJJ h2;have hg:g<w.heap.size:=hk.lt;have HK:=hJJ hk;obtain⟨k0,k1,k2,k3,k4⟩:=hk;cases t1
 .have HV:Hid (qH6 c.e c.f c.zs (qA3 c.fs) c.cs=3):=by show qH6 _ _ _ _ _=3;unfold qH6;rw[gK h1]
  clear h1 h2 h;go_enter func130,ntmps130;go_wp2_with (first | (go_at_call 110;refine (qU1 _ _).mono ?_;rintro e w' ⟨rfl,rfl⟩;rw[H1.out]))
  go_ret;exact⟨by rw[HV.out];rfl,by go_grown⟩
 .cases t2
  .have HV:Hid (qH6 c.e c.f c.zs (qA3 c.fs) c.cs=3):=by show qH6 _ _ _ _ _=3;unfold qH6;rw[gI (by simp[h1]),gK h2]
   clear h1 h2 h;go_enter func130,ntmps130;go_wp2_with (first | (go_at_call 110;refine (qU1 _ _).mono ?_;rintro e w' ⟨rfl,rfl⟩;rw[H1.out]) | (go_at_call 177;refine (qIM _ _).mono ?_;rintro e w' ⟨rfl,rfl⟩;rw[H2.out]))
   go_ret;exact⟨by rw[HV.out];rfl,by go_grown⟩
  .have HV:Hid (qH6 c.e c.f c.zs (qA3 c.fs) c.cs=orJ (qC3 c.zs) (orJ (qK2 (qA3 c.fs)) (qG2 c.cs))):=by show qH6 _ _ _ _ _=_;unfold qH6;rw[gI (by simp[h1]),gI (by simp[h2])]
   rw[HV.out];have HLE:=hJJ hle;have H:=hJJ h;clear h1 h2 h hle;obtain⟨p,hp⟩:∃p,qC3 c.zs=p:=⟨_,rfl⟩;obtain⟨r,hr⟩:∃r,qG2 c.cs=r:=⟨_,rfl⟩;have HP:Hid (CP 178 #[.slice c.ra c.rn c.rc] w fun e w'=>e=.returned (iv p)/\Below w.heap.size w w'):=by rw[<- hp];exact qIR c.ra c.rn c.rc c.zs w HLE.out.rules H.out.rules
   have HR:Hid (∀w2:World,Below w.heap.size w w2->CP 180 #[.slice c.ca c.cn c.cc] w2 fun e w'=>e=.returned (iv r)/\w2=w'):=fun w2 q=>by rw[<- hr];exact qDE c.ca c.cn c.cc c.cs w2 (H.out.classes.below q)
   rw[hp,hr];clear hp hr;have HZ:Hid ((qA3 c.fs).length=c.fn):=by show (qA3 c.fs).length=c.fn;rw[QC4];exact H.out.forms.1
   have hfn:(c.fn:Int)<=1048576:=by have:=HLE.out.forms;omega
   go_enter func130,ntmps130;go_wp2_with (first | (go_at_call 110;refine (qU1 _ _).mono ?_;rintro e w' ⟨rfl,rfl⟩;rw[H1.out]) | (go_at_call 177;refine (qIM _ _).mono ?_;rintro e w' ⟨rfl,rfl⟩;rw[H2.out]) | fail)
   refine HP.out.mono ?_;rintro e w1 ⟨rfl,hb1⟩;obtain⟨d0,d1,d2,d3,d4⟩:=HK.out.below hb1;have hg1:g<w1.heap.size:=by have:=hb1.size;omega
   clear k0 k1 k2 k3 k4 d0 d1 d2;by_cases p0:p=0
   .have pb:(p != 0)=false:=by simp[p0]
    have HPO:Hid (∀x,orJ p x=x):=fun x=>by simp[orJ,p0]
    clear p0;by_cases h4:4<c.fn
    .have HC:Hid (qK2 (qA3 c.fs)=2):=by show qK2 (qA3 c.fs)=2;unfold qK2;rw[gK (by rw[HZ.out];exact h4)]
     have h4':(4:Int)<(c.fn:Int):=by omega
     go_wp2;go_ret;exact⟨by rw[HPO.out,HC.out];rfl,hb1⟩
    .have HC:Hid (qK2 (qA3 c.fs)=QM5 (qA3 c.fs) c.fn):=by show qK2 (qA3 c.fs)=QM5 (qA3 c.fs) c.fn;unfold qK2;rw[gI (by rw[HZ.out];exact h4),HZ.out]
     have h4':(c.fn:Int)<=4:=by omega
     go_wp2;go_loopw [4] (fun i wr=>∃k:Nat,k<=c.fn/\i=iv (k:Int)/\QM5 (qA3 c.fs) k=0/\Below w.heap.size w wr) (fun i _=>c.fn-(intOf i).toNat)
     case atStart=>exact⟨0,gH _,rfl,rfl,hb1⟩
     case round =>
      obtain⟨k,hk,rfl,hz,hnx⟩:=hrel;have HK0:=hJJ hz;obtain⟨m0,m1,m2,m3,m4⟩:=HK.out.below hnx;have hgr:g<wr.heap.size:=by have:=hnx.size;omega
      clear hz d3 d4 m0 m1 m2;by_cases hlt:k<c.fn
      .obtain⟨b,off,x,hfa,hs,hr⟩:=H.out.forms.at hlt
       have HS:Hid ((qA3 c.fs)[k]?=some x.ps):=qV8 hs;have hx:x.n<=1048576:=HLE.out.parts k x hs;have hb:b<w.heap.size:=hr.lt;have hc:=(hr.below hnx).1;have HPI:Hid (qC1 wr x.a x.n x.ps):=(hr.below hnx).2;rw[hfa]at m3;have hbr:b<wr.heap.size:=by have:=hnx.size;omega
       clear hs hr hfa;have hlt':(k:Int)<(c.fn:Int):=by omega
       obtain⟨q,hq⟩:∃q,qN3 x.ps=q:=⟨_,rfl⟩;go_wp2_with fail
       refine (qIQ x.a x.n x.cap x.ps _ (by unfold maxLen;omega) HPI.out).mono ?_;rintro e w2 ⟨rfl,hb2⟩;rw[hq];have hb02:Below w.heap.size w w2:=hnx.trans (hb2.mono hnx.size);have HQ:Hid (QM5 (qA3 c.fs) (k+1)=q):=by show QM5 (qA3 c.fs) (k+1)=q;rw[QR4 HS.out HK0.out];exact hq
       clear hc hq hb2 m3 m4;by_cases q0:q=0
       .have qb:(q != 0)=false:=by simp[q0]
        have HQ0:=hJJ q0;clear q0;go_wp2;exact⟨⟨k+1,by omega,by go_num,by rw[HQ.out];exact HQ0.out,hb02⟩,by simp[intOf];omega⟩
       .have qb:(q != 0)=true:=by simp[q0]
        have HE:Hid (orJ (qK2 (qA3 c.fs)) r=q):=by
         show orJ _ _=_
         rw[HC.out,QR3 _ _ c.fn _ q0 HQ.out (by omega)];simp[orJ,q0]
        go_wp2;go_ret;exact⟨by rw[HPO.out,HE.out];rfl,hb02⟩
      .have hkn:k=c.fn:=by omega
       have HE:Hid (orJ (qK2 (qA3 c.fs)) r=r):=by
        show orJ _ _=_
        rw[HC.out,<- hkn,HK0.out];simp[orJ]
       have hlt':¬ ((k:Int)<(c.fn:Int)):=by omega
       clear hkn;go_wp2_with fail
       refine (HR.out _ hnx).mono ?_;rintro e w2 ⟨rfl,rfl⟩;go_wp2;go_ret;exact⟨by rw[HPO.out,HE.out];rfl,hnx⟩
   .have pb:(p != 0)=true:=by simp[p0]
    have HPO:Hid (∀x,orJ p x=p):=fun x=>by simp[orJ,p0]
    clear p0;go_wp2;go_ret;exact⟨by rw[HPO.out];rfl,hb1⟩
structure qA7 (w:World) (a:Option Addr) (n:Nat) (cs:List qA5):Prop where
 len:cs.length=n
 row:0<n->∃b off,a=some ⟨b,off,none⟩/\∀k c,cs[k]?=some c->qH4 w b (off+k*5) c
 each:∀(k:Nat) c,cs[k]?=some c->qF4 w c
theorem qA7.below{w w':World}{a:Option Addr}{n:Nat}{cs:List qA5}(h:qA7 w a n cs)(hb:Below w.heap.size w w'):qA7 w' a n cs :=
 ⟨h.len,fun hp=>by
  obtain⟨b,off,e,hr⟩:=h.row hp;exact⟨b,off,e,fun k c q=>(hr k c q).below hb⟩,fun k c q=>(h.each k c q).below hb⟩
theorem qA7.at{w:World}{a:Option Addr}{n:Nat}{cs:List qA5}(h:qA7 w a n cs){k:Nat}(hk:k<n):∃b off c,a=some ⟨b,off,none⟩/\cs[k]?=some c/\qH4 w b (off+k*5) c/\qF4 w c:=by
 obtain⟨b,off,e,hr⟩:=h.row (by omega);have hx:=gA (l:=cs) (i:=k) (by rw[h.len];exact hk);exact⟨b,off,_,e,hx,hr k _ hx,h.each k _ hx⟩
structure qG4 (m:Nat) (cs:List qA5):Prop where
 le:∀(k:Nat) c,cs[k]?=some c->qE2 m c
 rc:∀(k:Nat) c,cs[k]?=some c->c.rn<=c.rc/\c.rc<=maxLen
def qV5(c:qA5):Int:=qH6 c.e c.f c.zs (qA3 c.fs) c.cs
def qJ8(cs:List qA5):Nat->Int
 | 0=>0
 | k+1=>if qJ8 cs k=0 then (match cs[k]? with
  | none=>0
  | some c=>if qV5 c=0 then (if c.f=(cs[0]?.getD default).f then 0 else 1) else qV5 c) else qJ8 cs k
def qB1(cs:List qA5):Int:=if cs.length<1\/8<cs.length then 2 else qJ8 cs cs.length
theorem qS2(cs:List qA5)(k m:Nat)(d:Int)(hd:d≠0)(h:qJ8 cs k=d)(hm:k<=m):qJ8 cs m=d:=by
  induction m with
  | zero => obtain rfl:k=0:=by omega
            exact h
  | succ m ih =>
    by_cases e:k=m+1
    . subst e;exact h
    . have:=ih (by omega);rw[qJ8,this,gI hd]
theorem QC9{cs:List qA5}{k:Nat}{c:qA5}(hc:cs[k]?=some c)(h0:qJ8 cs k=0):qJ8 cs (k+1)=if qV5 c=0 then (if c.f=(cs[0]?.getD default).f then 0 else 1) else qV5 c:=by
 rw[qJ8,h0,gK rfl,hc]
theorem qT1{cs:List qA5}(h:qB1 cs=0):1<=cs.length/\cs.length<=8/\∀(k:Nat) c,cs[k]?=some c->qV5 c=0/\c.f=(cs[0]?.getD default).f:=by
 unfold qB1 at h;by_cases hl:cs.length<1\/8<cs.length
 .rw[gK hl]at h;omega
 .rw[gI hl]at h;refine⟨by omega,by omega,fun k c hc=>?_⟩
  have hk:k<cs.length:=by
   by_cases q:k<cs.length
   .exact q
   .rw[gE (by omega)]at hc;cases hc
  have h0:qJ8 cs k=0:=by
   by_cases q:qJ8 cs k=0
   .exact q
   .have:=qS2 cs k cs.length _ q rfl (by omega);rw[this]at h;exact absurd h q
  have h1:qJ8 cs (k+1)=0:=by
   by_cases q:qJ8 cs (k+1)=0
   .exact q
   .have:=qS2 cs (k+1) cs.length _ q rfl (by omega);rw[this]at h;exact absurd h q
  rw[QC9 hc h0]at h1;by_cases q:qV5 c=0
  .rw[gK q]at h1;by_cases r:c.f=(cs[0]?.getD default).f
   .exact⟨q,r⟩
   .rw[gI r]at h1;omega
  .rw[gI q]at h1;exact absurd h1 q
theorem qK0(a:Option Addr)(n cap:Nat)(cs:List qA5)(w:World)(hn:n<=1048576)(hle:qG4 1048576 cs)(h:qA7 w a n cs):
  CP 79 #[.slice a n cap] w fun e w'=>e=.returned (iv (qB1 cs))/\Below w.heap.size w w':=by
 have H:=hJJ h;have HLE:=hJJ hle;have HZ:=hJJ h.len;have hn':(n:Int)<=1048576:=by omega
 clear h hle;by_cases h1:n<1
 .have HC:Hid (qB1 cs=2):=by show qB1 cs=2;unfold qB1;rw[gK (.inl (by rw[HZ.out];exact h1))]
  have hn0:n=0:=by omega
  subst hn0;rw[HC.out];go_enter func79,ntmps79;go_wp2;go_ret;exact⟨rfl,gC _ _⟩
 .by_cases h8:8<n
  .have HC:Hid (qB1 cs=2):=by show qB1 cs=2;unfold qB1;rw[gK (.inr (by rw[HZ.out];exact h8))]
   have h1':¬ ((n:Int)<1):=by omega
   have h8':(8:Int)<(n:Int):=by omega
   rw[HC.out];go_enter func79,ntmps79;go_wp2;go_ret;exact⟨rfl,gC _ _⟩
  .have h1':¬ ((n:Int)<1):=by omega
   have h8':¬ ((8:Int)<(n:Int)):=by omega
   have HC:Hid (qB1 cs=qJ8 cs n):=by show qB1 cs=_;unfold qB1;rw[gI (by rw[HZ.out];omega),HZ.out]
   obtain⟨b0,off0,c0,rfl,hc0,hat0,_⟩:=H.out.at (show 0<n by omega)
   have HC0:Hid ((cs[0]?.getD default).f=c0.f):=by show (cs[0]?.getD default).f=_;rw[hc0];rfl
   have HAT0:Hid (qH4 w b0 off0 c0):=by have:=hat0;rw[kJ,jS]at this;exact this
   clear hc0 hat0;rw[HC.out];go_enter func79,ntmps79;go_wp2;go_loopw [3] (fun i wr=>∃k:Nat,k<=n/\i=iv (k:Int)/\qJ8 cs k=0/\Below w.heap.size w wr) (fun i _=>n-(intOf i).toNat)
   case atStart=>exact⟨0,gH _,rfl,rfl,gC _ _⟩
   case round =>
    obtain⟨k,hk,rfl,hz,hnx⟩:=hrel;have HK0:=hJJ hz;clear hz;by_cases hlt:k<n
    .obtain⟨b,off,c,e,hc,hat,hin⟩:=H.out.at hlt
     cases e;have HS:=hJJ hc;have hlt':(k:Int)<(n:Int):=by omega
     have HA:Hid (qH4 wr b0 (off0+k*5) c/\qF4 wr c/\qE2 1048576 c):=⟨hat.below hnx,hin.below hnx,HLE.out.le k c hc⟩;have HN:Hid (qJ8 cs (k+1)=if qV5 c=0 then (if c.f=c0.f then 0 else 1) else qV5 c):=by show qJ8 cs (k+1)=_;rw[QC9 hc HK0.out,HC0.out]
     clear hc hat hin;obtain⟨q,hq⟩:∃q,qV5 c=q:=⟨_,rfl⟩;rw[hq]at HN;have HQ:Hid (CP 130 #[.pointer (some ⟨b0,off0+k*5,none⟩)] wr fun e w'=>e=.returned (iv q)/\Below wr.heap.size wr w'):=by rw[<- hq];exact qIL b0 (off0+k*5) c wr HA.out.2.2 HA.out.1 HA.out.2.1
     clear hq;go_wp2_with fail
     refine HQ.out.mono ?_;rintro e w1 ⟨rfl,hb1⟩;have B1:Below w.heap.size w w1:=hnx.trans (hb1.mono hnx.size);by_cases q0:q=0
     .have qb:(q != 0)=false:=by simp[q0]
      rw[gK q0]at HN;have hA1:=HA.out.1.below hb1;have hl1:=hA1.lt;obtain⟨x0,x1,_⟩:=hA1;have hB1:=HAT0.out.below B1;obtain⟨y0,y1,_⟩:=hB1;by_cases hf:c.f=c0.f
      .have fb:(c.f != c0.f)=false:=by simp[hf]
       rw[gK hf]at HN;clear q0 hf;go_wp2;go_quiet (fail)
       go_wp2;exact⟨⟨k+1,by omega,by go_num,HN.out,below_drewN B1 _⟩,by simp[intOf];omega⟩
      .have fb:(c.f != c0.f)=true:=by simp[hf]
       rw[gI hf]at HN;have HE:Hid (qJ8 cs n=1):=qS2 cs (k+1) n 1 (by omega) HN.out (by omega);clear q0 hf;go_wp2;go_quiet (fail)
       go_wp2;go_ret;exact⟨by rw[HE.out];rfl,below_drewN B1 _⟩
     .have qb:(q != 0)=true:=by simp[q0]
      rw[gI q0]at HN;have HE:Hid (qJ8 cs n=q):=qS2 cs (k+1) n q q0 HN.out (by omega);clear q0;go_wp2;go_ret;exact⟨by rw[HE.out];rfl,B1⟩
    .have hkn:k=n:=by omega
     have hlt':¬ ((k:Int)<(n:Int)):=by omega
     have HE:Hid (qJ8 cs n=0):=by rw[<- hkn];exact HK0.out
     clear hkn;go_wp2;go_ret;exact⟨by rw[HE.out];rfl,hnx⟩
abbrev KR(W W':World):Prop:=(∀b o,b<W.heap.size->W'.cell? ⟨b,o,none⟩=W.cell? ⟨b,o,none⟩)/\Below W.heap.size W W'
theorem qEj{E:qH3}{cs:List qA5}{c0:qA5}(hE:E.es=cs.map (·.e))(h0:cs[0]?=some c0)(said:List StI)(e:Int):qB7 E said e=if e=c0.e then 0 else qEb (qI6 said 4 (e-1)):=by
 unfold qB7;rw[hE]
 have : (cs.map (·.e)).headD 0=c0.e:=by
  cases cs with
  | nil=>cases h0
  | cons x r=>simp at h0;subst h0;rfl
 rw[this]
theorem QQ3(E:qH3)(b:Nat)(r:qD2)(a:Option Addr)(m cap:Nat)(cs:List qA5)(e:Int)(w:World)(hE:E.es=cs.map (·.e))(hx:qJ5 w b r)(h:qL2 w r.sa r.sn r.ss)(hn:r.sn<=1048576)(hc:qA7 w a m cs)(hm:0<m)(hm8:m<=8)(he:1<=e/\e<=9):
  CP 212 #[.pointer (some ⟨b,0,none⟩),.slice a m cap,iv e] w fun d w'=>d=.returned (iv (qB7 E r.ss e))/\Below w.heap.size w w':=by
 obtain⟨g0,off0,c0,rfl,hc0,hat0,_⟩:=hc.at hm
 rw[qEj hE hc0];have hg0:=hat0.lt;obtain⟨v0,_⟩:=hat0;simp only[kJ,jS]at v0;clear hc hE hc0;obtain⟨i,u,sa,n,sc,said,la,ln,lc,ls⟩:=r;simp only at hx h hn ⊢
 have HZ:=hJJ h.1;have H:=hJJ h;have hbl:=hx.lt;obtain⟨_,_,x2,_⟩:=hx;have X2:=hJJ x2;clear h x2;have hn':(n:Int)<=1048576:=by omega
 have hm':(0:Int)<(m:Int):=by omega
 by_cases q0:e=c0.e
 .have b0:(e==c0.e)=true:=by simp[q0]
  rw[gK q0];clear q0;go_enter func212,ntmps212;go_wp2;go_ret;exact⟨rfl,gC _ _⟩
 .have b0:(e==c0.e)=false:=by simp[q0]
  rw[gI q0];clear q0;obtain⟨t,ht⟩:∃t,qI6 said 4 (e-1)=t:=⟨_,rfl⟩;have HT:=hJJ ht;rw[ht];clear ht;obtain⟨v,hv⟩:∃v:Int,qEb t=v:=⟨_,rfl⟩;have HV:=hJJ hv;rw[hv];clear hv;obtain⟨he1,he9⟩:=he;go_enter func212,ntmps212;go_wp2;clear v0 b0;go_loopw [7] (fun i wr=>∃j:Nat,j<=n/\i=iv (j:Int)/\qI6 (said.drop j) 4 (e-1)=t/\Below w.heap.size w wr) (fun i _=>n-(intOf i).toNat)
  case atStart=>exact⟨0,gH _,rfl,HT.out,gC _ _⟩
  case round =>
   obtain⟨j,hj,rfl,hp,hnx⟩:=hrel;have x2:=(hnx.cell (p:=⟨b,2,none⟩) hbl).trans X2.out;have hbw2:b<wr.heap.size:=gD hbl hnx.size;by_cases hlt:j<n
   .obtain⟨g,off,x,rfl,hs,hxa,hgl⟩:=H.out.at hlt
    rw[QE6 hs]at hp;obtain⟨y0,y1,y2,y3,y4⟩:=hxa.below hnx hgl;have hbw:g<wr.heap.size:=gD hgl hnx.size;have hlt':(j:Int)<(n:Int):=by omega
    clear hs hxa;by_cases q1:x.k=4
    .have b1:(x.k==4)=true:=by simp[q1]
     by_cases q2:x.e=e-1
     .have b2:(x.e==e-1)=true:=by simp[q2]
      rw[gK ⟨q1,q2⟩]at hp;have HP:Hid (x.n=v):=by have:=HV.out;rw[<- hp]at this;exact this
      clear hp q1 q2;go_wp2;go_ret;exact⟨by rw[<- HP.out];rfl,hnx⟩
     .have b2:(x.e==e-1)=false:=by simp[q2]
      rw[gI (fun q=>q2 q.2)]at hp;have HP:=hJJ hp;clear hp q1 q2;go_wp2;exact⟨⟨j+1,by omega,by go_num,HP.out,hnx⟩,by simp[intOf];omega⟩
    .have b1:(x.k==4)=false:=by simp[q1]
     rw[gI (fun q=>q1 q.1)]at hp;have HP:=hJJ hp;clear hp q1;go_wp2;exact⟨⟨j+1,by omega,by go_num,HP.out,hnx⟩,by simp[intOf];omega⟩
   .have hkn:j=n:=by omega
    subst hkn;rw[jH (by rw[HZ.out];exact gB _)]at hp;have HP:Hid ((-1:Int)=v):=by have:=HV.out;rw[<- hp]at this;exact this
    clear hp;go_wp2;go_ret;exact⟨by rw[<- HP.out];rfl,hnx⟩
theorem qOG{E:qH3}{cs:List qA5}(hE:E.es=cs.map (·.e)){k:Nat}{c:qA5}(hc:cs[k]?=some c):E.es[k]?.getD 0=c.e:=by
 rw[hE,jI,hc];rfl
theorem qEg(E:qH3)(b:Nat)(r:qD2)(a:Option Addr)(m cap:Nat)(cs:List qA5)(bx:Nat)(x:StI)(w:World)(hE:E.es=cs.map (·.e))(hr:qJ5 w b r)(h:qL2 w r.sa r.sn r.ss)(hn:r.sn<=1048576)(hc:qA7 w a m cs)(hm8:m<=8)(hx:qM9 w bx 0 x)(he:1<=x.e/\x.e<=9)(hxn:0<=x.n/\x.n<=7):
  CP 214 #[.pointer (some ⟨b,0,none⟩),.slice a m cap,.pointer (some ⟨bx,0,none⟩)] w fun d w'=>d=.returned (iv (qC7 E r.ss x))/\Below w.heap.size w w':=by
 have HK:Hid (∀w2,KR w w2->CP 238 #[.pointer (some ⟨b,0,none⟩),iv x.k,iv x.e] w2 fun d w'=>d=.returned (.bool (qR5 r.ss x.k x.e))/\Below w2.heap.size w2 w'):=fun w2 q=>qEh b r x.k x.e w2 (hr.below q.2) (h.below q.2) hn
 have hbx:bx<w.heap.size:=zL w ⟨bx,0,none⟩ (by simpa using hx.1);have HC:=hJJ hc;have HL:Hid (E.es.length=m):=by show E.es.length=m;rw[hE,kD];exact hc.len
 have HE:=hJJ hE;have HX:=hJJ hx;obtain⟨x0,x1,x2,x3,x4⟩:=hx;simp only[gG]at x0 x1 x2 x3 x4;clear hr h hc hE x2 x3;have hm':(m:Int)<=8:=by omega
 obtain⟨he1,he9⟩:=he;obtain⟨hn0,hn7⟩:=hxn;cases hk:qR5 r.ss x.k x.e
 .rw[hk]at HK;by_cases hl:(m:Int)<=x.n
  .have HV:Hid (qC7 E r.ss x=3):=by show qC7 E r.ss x=3;unfold qC7;rw[gI (by rw[hk];simp),gK (by rw[HL.out];exact hl)]
   rw[HV.out];clear hk;go_enter func214,ntmps214;go_upto_region 1 with fail
   go_region_held3 (fun w'=>KR w w') (first | exact hS | exact qA8 _)
    (first | (go_at_call 238;refine (HK.out _ (by assumption)).mono ?_;rintro d w' ⟨rfl,hb2⟩;have hS:=qA0 (by assumption) hb2))
   go_wp2;go_ret;exact⟨rfl,hS.2⟩
  .obtain⟨k,hk'⟩:∃k:Nat,x.n=(k:Int):=gP hn0;have hkm:k<m:=by omega
   obtain⟨g,off,c,rfl,hck,hat,_⟩:=HC.out.at hkm
   have hes:=qOG HE.out hck;have hgl:=hat.lt;have HAT:=hJJ hat;by_cases hce:c.e=x.e+1
   .have HV:Hid (qC7 E r.ss x=0):=by show qC7 E r.ss x=0;unfold qC7;rw[gI (by rw[hk];simp),gI (by rw[HL.out];exact hl),hk',kS,hes,gI (by rw[hce];simp)]
    have hceb:(c.e != x.e+1)=false:=by simp[hce]
    rw[HV.out];rw[hk']at x4 hl;have HX4:=hJJ hk';clear hk hce hck hat hes hk' hn0 hn7;have hl':¬ ((m:Int)<=(k:Int)):=hl;have hlt':(k:Int)<(m:Int):=by omega
    go_enter func214,ntmps214;go_upto_region 1 with fail
    go_region_held3 (fun w'=>KR w w') (first | exact hS | exact qA8 _)
     (first | (go_at_call 238;refine (HK.out _ (by assumption)).mono ?_;rintro d w' ⟨rfl,hb2⟩;have hS:=qA0 (by assumption) hb2))
    obtain⟨y0,y1,_⟩:=HAT.out;go_wp2;go_quiet (fail)
    go_wp2;go_ret;exact⟨rfl,below_drewN hS.2 _⟩
   .have HV:Hid (qC7 E r.ss x=10):=by show qC7 E r.ss x=10;unfold qC7;rw[gI (by rw[hk];simp),gI (by rw[HL.out];exact hl),hk',kS,hes,gK hce]
    have hceb:(c.e != x.e+1)=true:=by simp[hce]
    rw[HV.out];rw[hk']at x4 hl;have HX4:=hJJ hk';clear hk hce hck hat hes hk' hn0 hn7;have hl':¬ ((m:Int)<=(k:Int)):=hl;have hlt':(k:Int)<(m:Int):=by omega
    go_enter func214,ntmps214;go_upto_region 1 with fail
    go_region_held3 (fun w'=>KR w w') (first | exact hS | exact qA8 _)
     (first | (go_at_call 238;refine (HK.out _ (by assumption)).mono ?_;rintro d w' ⟨rfl,hb2⟩;have hS:=qA0 (by assumption) hb2))
    obtain⟨y0,y1,_⟩:=HAT.out;go_wp2;go_quiet (fail)
    go_wp2;go_ret;exact⟨rfl,below_drewN hS.2 _⟩
 .rw[hk]at HK;have HV:Hid (qC7 E r.ss x=6):=by show qC7 E r.ss x=6;unfold qC7;rw[gK hk]
  rw[HV.out];clear hk;go_enter func214,ntmps214;go_upto_region 1 with fail
  go_region_held3 (fun w'=>KR w w') (first | exact hS | exact qA8 _)
   (first | (go_at_call 238;refine (HK.out _ (by assumption)).mono ?_;rintro d w' ⟨rfl,hb2⟩;have hS:=qA0 (by assumption) hb2))
  go_wp2;go_ret;exact⟨rfl,hS.2⟩
section
attribute [local go_sem ↓] QU7
theorem qBQ{said:List StI}{x:StI}{k:Nat}:x∈said.take k↔∃j,j<k/\said[j]?=some x:=by
 rw[List.mem_take_iff_getElem];constructor
 .rintro⟨j,hj,e⟩;exact⟨j,by omega,by rw[gA (by omega),e]⟩
 .rintro⟨j,hj,e⟩
  have hl:j<said.length:=by
   by_cases q:j<said.length
   .exact q
   .rw[gE (by omega)]at e;cases e
  rw[gA hl]at e;exact⟨j,by omega,gJ e⟩
theorem qFW(a:Option Addr)(n cap:Nat)(zs:List StI)(r:StI)(w:World)(hn:n<=1048576)(h:qL2 w a n zs):
  CP 167 #[.slice a n cap,.agg #[iv r.k,iv r.e,iv r.f,iv r.s,iv r.n]] w fun e w'=>(∃i:Int,e=.returned (iv i)/\((0<=i/\r∈zs)\/(i = -1/\¬ r∈zs)))/\Below w.heap.size w w':=by
 have hz:=hJJ h.1;have hn':(n:Int)<=1048576:=by omega
 obtain⟨w0,hw0⟩:∃w0,w0=w.alloc (.cells #[iv r.k,iv r.e,iv r.f,iv r.s,iv r.n] 50):=⟨_,rfl⟩;have hb0:Below w.heap.size w w0:=by rw[hw0];exact zN
 have hs0:w.heap.size<w0.heap.size:=by rw[hw0];simp
 have HB0:=hJJ hb0;have H:Hid (qL2 w0 a n zs):=h.below hb0;have HY:Hid (qM9 w0 w.heap.size 0 r):=by rw[hw0];exact qM9.new w r _
 clear h hb0;go_enter func167,ntmps167;go_wp2;rw[<- hw0];clear hw0;go_loopw [8] (fun i wr=>∃k:Nat,k<=n/\i=iv (k:Int)/\¬ r∈zs.take k/\Below w0.heap.size w0 wr) (fun i _=>n-(intOf i).toNat)
 case atStart=>exact⟨0,gH _,rfl,by simp,gC _ _⟩
 case round =>
  obtain⟨k,hk,rfl,hm,hnx⟩:=hrel;have HM:=hJJ hm;have BN:Hid (Below w.heap.size w wr):=HB0.out.trans (hnx.mono (by omega));clear hm;by_cases hlt:k<n
  .obtain⟨g,off,x,rfl,hs,hxa,hgl⟩:=H.out.at hlt
   have HS:=hJJ hs;obtain⟨g0,g1,g2,g3,g4⟩:=hxa.below hnx hgl;obtain⟨y0,y1,y2,y3,y4⟩:=HY.out.below hnx hs0;simp only[gG]at y0 y1 y2 y3 y4;have hbw:g<wr.heap.size:=gD hgl hnx.size;have hyw:w.heap.size<wr.heap.size:=gD hs0 hnx.size;have hlt':(k:Int)<(n:Int):=by omega
   clear hs hxa;cases hsame:qJ1 r x
   .have HN:Hid (¬ r∈zs.take (k+1)):=by
     show ¬ r∈zs.take (k+1)
     rw[qBQ];rintro⟨j,hj,hjs⟩;by_cases e:j=k
     .subst e;rw[HS.out]at hjs;simp[qJ1]at hsame;exact hsame (gJ hjs).symm
     .exact HM.out (qBQ.2 ⟨j,by omega,hjs⟩)
    go_wp2;go_quiet (fail)
    go_wp2;exact⟨⟨k+1,by omega,by go_num,HN.out,below_drewN hnx _⟩,by simp[intOf];omega⟩
   .have HI:Hid (r∈zs):=by
     show r∈zs
     simp[qJ1]at hsame;subst hsame;exact gO HS.out
    go_wp2;go_quiet (fail)
    go_wp2;go_ret;exact⟨⟨_,rfl,Or.inl ⟨by omega,HI.out⟩⟩,below_drewN BN.out _⟩
  .have hkn:k=n:=by omega
   subst hkn
   have HN:Hid (¬ r∈zs):=by
    have:=HM.out;rw[gV (by rw[hz.out];exact gB _)]at this;exact this
   go_wp2;go_ret;exact⟨⟨_,rfl,Or.inr ⟨rfl,HN.out⟩⟩,BN.out⟩
theorem qE8(a:Option Addr)(n cap:Nat)(zs:List StI)(r:StI)(w:World)(hn:n<=1048576)(h:qL2 w a n zs):
  CP 115 #[.slice a n cap,.agg #[iv r.k,iv r.e,iv r.f,iv r.s,iv r.n]] w fun e w'=>e=.returned (.bool (qC4 zs r))/\Below w.heap.size w w':=by
 have H:Hid (qL2 (w.alloc (.cells #[iv r.k,iv r.e,iv r.f,iv r.s,iv r.n] 50)) a n zs):=h.below (zN);clear h;go_enter func115,ntmps115;go_wp2_with fail
 refine (qFW a n cap zs r _ hn H.out).mono ?_;rintro e w1 ⟨⟨i,rfl,hi⟩,hb1⟩
 have HX:Hid (decide (0<=i)=qC4 zs r):=by
  show decide (0<=i)=qC4 zs r
  cases q:qC4 zs r
  .have hq:¬ r∈zs:=fun m=>by rw[qBF.2 m]at q;cases q
   rcases hi with⟨_,h2⟩ | ⟨rfl,_⟩
   .exact absurd h2 hq
   .rfl
  .have hq:=qBF.1 q;rcases hi with⟨h1,_⟩ | ⟨_,h2⟩
   .simp[h1]
   .exact absurd hq h2
 clear hi;go_wp2;go_ret;exact⟨by rw[HX.out];rfl,qD5 hb1⟩
structure QB7 (w:World) (b:Nat) (cv sv lv:Value):Prop where
 c0:w.cell? ⟨b,0,none⟩=some cv
 c1:w.cell? ⟨b,1,none⟩=some sv
 c2:w.cell? ⟨b,2,none⟩=some lv
 fz:∀j,w.frozen? ⟨b,j,none⟩=false
theorem QB7.lt{w:World}{b:Nat}{cv sv lv:Value}(h:QB7 w b cv sv lv):b<w.heap.size:=zL w ⟨b,0,none⟩ h.c0
theorem QB7.below{w w':World}{b:Nat}{cv sv lv:Value}(h:QB7 w b cv sv lv)(hb:Below w.heap.size w w'):QB7 w' b cv sv lv :=
 ⟨(hb.cell (p:=⟨b,0,none⟩) h.lt).trans h.c0,(hb.cell (p:=⟨b,1,none⟩) h.lt).trans h.c1,(hb.cell (p:=⟨b,2,none⟩) h.lt).trans h.c2,fun j=>(hb.frozen (p:=⟨b,j,none⟩) h.lt).trans (h.fz j)⟩
theorem qBg(b:Nat)(cv lv:Value)(sa:Option Addr)(n sc:Nat)(said:List StI)(x:StI)(w:World)(hs:QB7 w b cv (.slice sa n sc) lv)(hn:n<=1048576)(h:qL2 w sa n said):
  CP 278 #[.pointer (some ⟨b,0,none⟩),.agg #[iv x.k,iv x.e,iv x.f,iv x.s,iv x.n]] w fun d w'=>d=.returned (.bool (qC4 said (qT6 x)))/\Below w.heap.size w w':=by
 obtain⟨V,hV⟩:∃V,V=w.alloc (.cells #[iv x.k,iv x.e,iv x.f,iv x.s,iv x.n] 50):=⟨_,rfl⟩;have B0:Below w.heap.size w V:=by rw[hV];exact zN
 have HX:qM9 V w.heap.size 0 x:=by rw[hV];exact qM9.new w x _
 have hwl:w.heap.size<V.heap.size:=by rw[hV];simp
 have hS:=hs.below B0;have hbl:=hS.lt;have c1:=hS.c1;have HC:Hid (∀w2,KR V w2->CP 115 #[.slice sa n sc,.agg #[iv 2,iv x.e,iv x.f,iv x.s,iv 0]] w2 fun e w'=>e=.returned (.bool (qC4 said (qT6 x)))/\Below w2.heap.size w2 w'):=fun w2 q=>qE8 sa n sc said (qT6 x) w2 hn ((h.below B0).below q.2)
 obtain⟨x0,x1,x2,x3,x4⟩:=HX;simp only[gG]at x0 x1 x2 x3 x4;clear h hs hS;go_enter func278,ntmps278;go_upto_region 1 with fail
 rw[<- hV];clear hV
 go_region_held3 (fun w'=>KR V w') (first | exact hS | exact qA8 _)
  (first | (go_at_call 287;refine (qFf x _).mono ?_;rintro d w' ⟨rfl,hb2⟩;have hS:=qA0 (by assumption) hb2) | (go_at_call 115;refine (HC.out _ (by assumption)).mono ?_;rintro d w' ⟨rfl,hb2⟩;have hS:=qA0 (by assumption) hb2))
 go_wp2;go_ret;exact⟨rfl,B0.trans (hS.2.mono B0.size)⟩
end
def QI0(cs:List qA5)(p:Int)(d:Ending):Prop:=(p<0->d=.returned (.tuple #[.agg #[iv 0,iv 0,.slice none 0 0,.slice none 0 0,.slice none 0 0],.bool false]))/\(∀c,0<=p->cs[p.toNat]?=some c->d=.returned (.tuple #[.agg #[iv c.e,iv c.f,.slice c.ra c.rn c.rc,.slice c.fa c.fn c.fc,.slice c.ca c.cn c.cc],.bool true]))
theorem qM7(E:qH3)(b:Nat)(lv:Value)(sa:Option Addr)(n sc:Nat)(said:List StI)(a:Option Addr)(m cap:Nat)(cs:List qA5)(e:Int)(w:World)(hE:E.es=cs.map (·.e))(hs:QB7 w b (.slice a m cap) (.slice sa n sc) lv)(h:qL2 w sa n said)(hn:n<=1048576)(hc:qA7 w a m cs)(hm:0<m)(hm8:m<=8)(he:1<=e/\e<=9)(hk:∀x∈said,x.k=4->0<=x.n/\x.n<(m:Int)):
  CP 260 #[.pointer (some ⟨b,0,none⟩),iv e] w fun d w'=>QI0 cs (qB7 E said e) d/\Below w.heap.size w w':=by
 obtain⟨g0,off0,c0,rfl,hc0,hat0,_⟩:=hc.at hm
 rw[qEj hE hc0];obtain⟨V,hV⟩:∃V,V=w.alloc (.cells #[iv 0,iv 0,.slice none 0 0,.slice none 0 0,.slice none 0 0] 92):=⟨_,rfl⟩;have HV:=hJJ hV;have B0:Below w.heap.size w V:=by rw[hV];exact zN
 have hwl:w.heap.size<V.heap.size:=by rw[hV];simp
 have R0:Hid ((V.cell? ⟨w.heap.size,0,none⟩=some (iv 0)/\V.cell? ⟨w.heap.size,1,none⟩=some (iv 0)/\V.cell? ⟨w.heap.size,2,none⟩=some (.slice none 0 0)/\V.cell? ⟨w.heap.size,3,none⟩=some (.slice none 0 0)/\V.cell? ⟨w.heap.size,4,none⟩=some (.slice none 0 0))/\∀j,V.frozen? ⟨w.heap.size,j,none⟩=false):=by rw[hV];exact⟨⟨by simp,by simp,by simp,by simp,by simp⟩,fun j=>by simp[go_sem]⟩
 have hS:=hs.below B0;have hSw:=hS.lt;have hbw:b<w.heap.size:=hs.lt;have HS:=hJJ hS;have c0':=hs.c0;have c1':=hs.c1;have hat:=hat0;have hg0:=hat.lt;have hg0w:g0<w.heap.size:=hat0.lt;obtain⟨v0,v1,v2,v3,v4⟩:=hat;simp only[kJ,jS]at v0 v1 v2 v3 v4;have HC:Hid (qA7 V (some ⟨g0,off0,none⟩) m cs):=hc.below B0;have HST:Hid (qL2 V sa n said):=h.below B0;have HB0:=hJJ B0;have HC0:=hJJ hc0;have HKN:=hJJ hk;have hm':(0:Int)<(m:Int):=by omega
 clear hS hs h hc hat0 hE hc0 hk hV B0;by_cases q0:e=c0.e
 .have b0:(e==c0.e)=true:=by simp[q0]
  rw[gK q0];clear q0;obtain⟨⟨r0,r1,r2,r3,r4⟩,rf⟩:=R0.out;have f0:=rf 0;have f1:=rf 1;have f2:=rf 2;have f3:=rf 3;have f4:=rf 4;clear rf;have hne:g0≠w.heap.size:=by omega
  go_enter func260,ntmps260;go_wp2_with fail
  refine gQ (v:=.tuple #[.agg #[iv c0.e,iv c0.f,.slice c0.ra c0.rn c0.rc,.slice c0.fa c0.fn c0.fc,.slice c0.ca c0.cn c0.cc],.bool true]) (by simp[results,results260,go_sem,r0,r1,r2,r3,r4]) rfl ⟨⟨fun q=>by omega,fun c _ hc=>?_⟩,?_⟩
  .rw[show ((0:Int)).toNat=0 by rfl,HC0.out]at hc;cases hc;rfl
  .exact zN
 .have b0:(e==c0.e)=false:=by simp[q0]
  rw[gI q0];clear q0 v1 v2 v3 v4;obtain⟨he1,he9⟩:=he;go_enter func260,ntmps260;go_wp2_with fail
  rw[<- HV.out];refine (QZ7 sa n sc said 4 (e-1) _ hn HST.out).mono ?_;rintro d w1 ⟨⟨i,rfl,hi⟩,hb1⟩;have B1:Hid (Below w.heap.size w w1):=HB0.out.trans (hb1.mono HB0.out.size);have hz1:=hb1.size;have hwl1:w.heap.size<w1.heap.size:=by omega
  have R1:(w1.cell? ⟨w.heap.size,0,none⟩=some (iv 0)/\w1.cell? ⟨w.heap.size,1,none⟩=some (iv 0)/\w1.cell? ⟨w.heap.size,2,none⟩=some (.slice none 0 0)/\w1.cell? ⟨w.heap.size,3,none⟩=some (.slice none 0 0)/\w1.cell? ⟨w.heap.size,4,none⟩=some (.slice none 0 0))/\∀j,w1.frozen? ⟨w.heap.size,j,none⟩=false:=by
   obtain⟨⟨r0,r1,r2,r3,r4⟩,rf⟩:=R0.out;exact⟨⟨(hb1.cell (p:=⟨w.heap.size,0,none⟩) hwl).trans r0,(hb1.cell (p:=⟨w.heap.size,1,none⟩) hwl).trans r1,(hb1.cell (p:=⟨w.heap.size,2,none⟩) hwl).trans r2,(hb1.cell (p:=⟨w.heap.size,3,none⟩) hwl).trans r3,(hb1.cell (p:=⟨w.heap.size,4,none⟩) hwl).trans r4⟩,fun j=>(hb1.frozen (p:=⟨w.heap.size,j,none⟩) hwl).trans (rf j)⟩
  obtain⟨⟨r0,r1,r2,r3,r4⟩,rf⟩:=R1;have f0:=rf 0;have f1:=rf 1;have f2:=rf 2;have f3:=rf 3;have f4:=rf 4;have S1:=HS.out.below hb1;have s0:=S1.c0;have s1:=S1.c1;have hSw1:=S1.lt;have HC1:Hid (qA7 w1 (some ⟨g0,off0,none⟩) m cs):=HC.out.below hb1;have HST1:Hid (qL2 w1 sa n said):=HST.out.below hb1;clear rf S1 hb1 R0 HS HC HST c0' c1' v0 hSw;rcases hi with⟨rfl,hno⟩ | ⟨j,x,rfl,hj,hat⟩
  .have HNO:Hid (qI6 said 4 (e-1)=none):=hno;clear hno;go_wp2_with fail
   rw[HNO.out];refine gQ (v:=.tuple #[.agg #[iv 0,iv 0,.slice none 0 0,.slice none 0 0,.slice none 0 0],.bool false]) (by simp[results,results260,go_sem,r0,r1,r2,r3,r4]) rfl ⟨⟨fun q=>rfl,fun c q _=>by have h0:(0:Int) <= -1:=q;omega⟩,?_⟩;exact B1.out.setCell (gB _) _ |>.setCell (gB _) _ |>.setCell (gB _) _ |>.setCell (gB _) _ |>.setCell (gB _) _
  .have HAT:Hid (qI6 said 4 (e-1)=some x):=hat
   have hjn:j<n:=by
    have:=HST1.out.1;by_cases q:j<said.length
    .omega
    .rw[gE (by omega)]at hj;cases hj
   have hp:=List.find?_some hat;simp only[jY,jV]at hp;have hxn:=HKN.out x (gO hj) hp.1;obtain⟨k,hk⟩:∃k:Nat,x.n=(k:Int):=gP hxn.1;have hkm:k<m:=by omega
   obtain⟨gs,os,x',rfl,hx',hxa,hgs⟩:=HST1.out.at hjn
   rw[hj]at hx';cases hx';obtain⟨g,off,c,e',hck,hca,_⟩:=HC1.out.at hkm
   cases e';have hgc:=hca.lt;have y4:=hxa.2.2.2.2;rw[hk]at y4;obtain⟨u0,u1,u2,u3,u4⟩:=hca;have hjn':(j:Int)<(n:Int):=by omega
   have hkm':(k:Int)<(m:Int):=by omega
   have hn':(n:Int)<=1048576:=by omega
   have HCK:=hJJ hck;have HXK:=hJJ hk;have hgne:g0≠w.heap.size:=by omega
   clear hat hj hp hxn hk hxa hck;go_upto_region 6 with fail
   go_region
   go_wp2_with fail
   rw[HAT.out];refine gQ (v:=.tuple #[.agg #[iv c.e,iv c.f,.slice c.ra c.rn c.rc,.slice c.fa c.fn c.fc,.slice c.ca c.cn c.cc],.bool true]) (by simp[results,results260,go_sem,r0,r1,r2,r3,r4]) rfl ⟨⟨fun q=>by have h0:x.n<0:=q;have:=HXK.out;omega,fun c' _ hc=>?_⟩,?_⟩
   .have h0:cs[x.n.toNat]?=some c':=hc;rw[HXK.out,kS,HCK.out]at h0;cases h0;rfl
   .exact (B1.out.setCell (gB _) _ |>.setCell (gB _) _ |>.setCell (gB _) _ |>.setCell (gB _) _ |>.setCell (gB _) _).drew
def nfC(cs:List qA5)(e n:Int):Int:=if n<0\/(cs.length:Int)<=n then 3 else if (cs[n.toNat]?.getD default).e≠e+1 then 10 else 0
theorem qCt(a:Option Addr)(m cap:Nat)(cs:List qA5)(e n:Int)(w:World)(hm:m<=1048576)(he:0<=e/\e<=100)(hc:qA7 w a m cs):
  CP 201 #[.slice a m cap,iv e,iv n] w fun d w'=>d=.returned (iv (nfC cs e n))/\Below w.heap.size w w':=by
 have HC:=hJJ hc;have HL:=hJJ hc.len;have hm':(m:Int)<=1048576:=by omega
 obtain⟨he0,he1⟩:=he;clear hc;by_cases h0:n<0
 .have HV:Hid (nfC cs e n=3):=by show nfC cs e n=3;unfold nfC;rw[gK (.inl h0)]
  rw[HV.out];have hb:decide (n<0)=true:=by simp[h0]
  go_enter func201,ntmps201;go_wp2;go_ret;exact⟨rfl,gC _ _⟩
 .have hb:decide (n<0)=false:=by simp;omega
  by_cases h1:(m:Int)<=n
  .have HV:Hid (nfC cs e n=3):=by show nfC cs e n=3;unfold nfC;rw[gK (.inr (by rw[HL.out];exact h1))]
   rw[HV.out];have hb1:decide ((m:Int)<=n)=true:=by simp[h1]
   go_enter func201,ntmps201;go_wp2;go_ret;exact⟨rfl,gC _ _⟩
  .obtain⟨k,rfl⟩:∃k:Nat,n=(k:Int):=gP (by omega);have hkm:k<m:=by omega
   have hb1:decide ((m:Int)<=(k:Int))=false:=by simp;omega
   obtain⟨g,off,c,rfl,hck,hat,_⟩:=HC.out.at hkm
   have HV:Hid (nfC cs e (k:Int)=if c.e≠e+1 then 10 else 0):=by show nfC _ _ _=_;unfold nfC;rw[gI (by rw[HL.out];omega),kS,hck];rfl
   have hgl:=hat.lt;obtain⟨y0,_⟩:=hat;have hlt':(k:Int)<(m:Int):=by omega
   by_cases hce:c.e=e+1
   .have hceb:(c.e != e+1)=false:=by simp[hce]
    rw[HV.out,gI (by simp[hce])];clear hce hck h0 h1;go_enter func201,ntmps201;go_wp2;go_ret;exact⟨rfl,gC _ _⟩
   .have hceb:(c.e != e+1)=true:=by simp[hce]
    rw[HV.out,gK hce];clear hce hck h0 h1;go_enter func201,ntmps201;go_wp2;go_ret;exact⟨rfl,gC _ _⟩
theorem qMb{E:qH3}{cs:List qA5}{said:List StI}{x:StI}(hE:E.es=cs.map (·.e))(hn:0<=x.n)(hk:qR5 said x.k x.e=false):qC7 E said x=nfC cs x.e x.n:=by
 have hl:E.es.length=cs.length:=by rw[hE,kD]
 have hl:E.es.length=cs.length:=hl;by_cases h1:(cs.length:Int)<=x.n
 .have e1:nfC cs x.e x.n=3:=by unfold nfC;rw[gK (.inr h1)]
  rw[e1];unfold qC7;rw[gI (by rw[hk];simp),gK (by rw[hl];exact h1)]
 .have e2:nfC cs x.e x.n=if (cs[x.n.toNat]?.getD default).e≠x.e+1 then 10 else 0:=by unfold nfC;rw[gI (by omega)]
  have hlt:x.n.toNat<cs.length:=by omega
  have hc:cs[x.n.toNat]?=some cs[x.n.toNat]:=gA hlt;rw[e2];unfold qC7;rw[gI (by rw[hk];simp),gI (by rw[hl];exact h1),qOG hE hc,hc];rfl
theorem qLJ(E:qH3)(b:Nat)(lv:Value)(sa:Option Addr)(n sc:Nat)(said:List StI)(a:Option Addr)(m cap:Nat)(cs:List qA5)(x:StI)(w:World)(hE:E.es=cs.map (·.e))(hs:QB7 w b (.slice a m cap) (.slice sa n sc) lv)(h:qL2 w sa n said)(hn:n<=1048576)(hc:qA7 w a m cs)(hm8:m<=8)(he:1<=x.e/\x.e<=9)(hxn:0<=x.n/\x.n<=7):
  CP 262 #[.pointer (some ⟨b,0,none⟩),.agg #[iv x.k,iv x.e,iv x.f,iv x.s,iv x.n]] w fun d w'=>d=.returned (iv (qC7 E said x))/\Below w.heap.size w w':=by
 obtain⟨V,hV⟩:∃V,V=w.alloc (.cells #[iv x.k,iv x.e,iv x.f,iv x.s,iv x.n] 50):=⟨_,rfl⟩;have HV:=hJJ hV;have B0:Below w.heap.size w V:=by rw[hV];exact zN
 have hwl:w.heap.size<V.heap.size:=by rw[hV];simp
 have HX:qM9 V w.heap.size 0 x:=by rw[hV];exact qM9.new w x _
 have hS0:=hs.below B0;have hbl:=hS0.lt;have c0':=hS0.c0;have c1':=hS0.c1;have HSO:Hid (∀w2,KR V w2->CP 276 #[.slice sa n sc,iv x.k,iv x.e] w2 fun d w'=>(∃i:Int,d=.returned (iv i)/\QB9 said x.k x.e i)/\Below w2.heap.size w2 w'):=fun w2 q=>QZ7 sa n sc said x.k x.e w2 hn ((h.below B0).below q.2)
 have HC1:Hid (qA7 V a m cs):=hc.below B0;have HB0:=hJJ B0;have HL:Hid (E.es.length=m):=by show E.es.length=m;rw[hE,kD];exact hc.len
 have HE:=hJJ hE;have hm':(m:Int)<=8:=by omega
 obtain⟨he1,he9⟩:=he;obtain⟨hn0,hn7⟩:=hxn;obtain⟨x0,r1,x2,x3,r4⟩:=HX;simp only[gG]at x0 r1 r4;clear hs h hc hE B0 hS0 x2 x3;obtain⟨v,hv⟩:∃v,qC7 E said x=v:=⟨_,rfl⟩;have HVE:=hJJ hv;rw[hv];clear hv;go_enter func262,ntmps262;go_upto_region 1 with fail
 rw[<- hV];clear hV HV
 go_region_held3 (fun w'=>KR V w') (first | exact hS | exact qA8 _)
  (first | (go_at_call 276;refine (HSO.out _ (by assumption)).mono ?_;rintro d w' ⟨⟨i,rfl,hi⟩,hb2⟩;have hS:=qA0 (by assumption) hb2))
 have hsl:=QM4 hi;by_cases hi0:0<=i
 .have HV':Hid (v=6):=by show v=6;rw[<- HVE.out];unfold qC7;rw[gK (by rw[<- hsl];exact jQ hi0)]
  clear hi hsl;go_wp2_with fail
  go_ret;exact⟨by rw[HV'.out];rfl,HB0.out.trans (hS.2.mono HB0.out.size)⟩
 .have hkf:qR5 said x.k x.e=false:=by rw[<- hsl];exact jL hi0
  clear hi hsl
  have HNF:Hid (∀w2,KR V w2->CP 201 #[.slice a m cap,iv x.e,iv x.n] w2 fun d w'=>d=.returned (iv v)/\Below w2.heap.size w2 w'):=fun w2 q=>by
   rw[<- HVE.out,qMb HE.out hn0 hkf];exact qCt a m cap cs x.e x.n w2 (by omega) ⟨by omega,by omega⟩ (HC1.out.below q.2)
  clear hkf;go_wp2_with fail
  go_region_held3 (fun w'=>KR V w') (first | exact hS | exact qA0 hS (gC _ _).drew | exact qA8 _)
   (first | (go_at_call 201;refine (HNF.out _ (by assumption)).mono ?_;rintro d w' ⟨rfl,hb2⟩;have hS:=qA0 (by assumption) hb2))
  go_wp2_with fail
  go_ret;exact⟨rfl,HB0.out.trans (hS.2.mono HB0.out.size)⟩
