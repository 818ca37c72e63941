/- Contracts. -/
import Derived.Test.YtdghpccmdnnenaaGreatDoorPx29
import Derived.Test.YtdghpccmdnnenaaGreatDoorPx41
import Derived.Test.YtdghpccmdnnenaaGreatDoorPx42
namespace Go.Proofs.YtdghpccmdnnenaaGreatDoor
set_option maxRecDepth 100000
set_option maxHeartbeats 8000000
open Go.RowKit Go.Proofs.Tryz
set_option linter.unusedVariables false
set_option linter.unusedSimpArgs false
theorem qI3{w:World}{T o q p:Nat}{v u:Value}(hq:q<T)(h:w.cell? ⟨T,o,none⟩=some u):(w.setCell ⟨q,p,none⟩ v).cell? ⟨T,o,none⟩=some u:=by
 rw[gF (h:=fun e=>by have:=jA Addr.block e;simp at this;omega)];exact h
structure QT0 (T:Nat) (w:World) (n:Nat) (cs ds:List qA5):Prop where
 ln:ds.length=n
 sm:∀(j:Nat) c d,cs[j]?=some c->ds[j]?=some d->qH0 c d
 ca:∀(j:Nat) d,ds[j]?=some d->qH4 w T (j*5) d
 nw:∀(j:Nat) d,ds[j]?=some d->CfN w (T+1) d
 lt:T<w.heap.size
theorem qQ5.at{w0 w:World}{n:Nat}{cs ds:List qA5}(h:qQ5 w0 w n cs ds n):QT0 w0.heap.size w n cs ds:=⟨h.ln,h.sm,h.ca,h.nw,h.lt⟩
theorem QT0.below{T:Nat}{w w':World}{n:Nat}{cs ds:List qA5}(h:QT0 T w n cs ds)(hb:Below w.heap.size w w'):QT0 T w' n cs ds :=
 ⟨h.ln,h.sm,fun j d e=>(h.ca j d e).below hb,fun j d e=>⟨(h.nw j d e).rd.below hb,(h.nw j d e).nw.below hb⟩,gD h.lt hb.size⟩
theorem QT0.set{T q o:Nat}{w:World}{n:Nat}{cs ds:List qA5}(h:QT0 T w n cs ds)(hq:q<T)(v:Value):QT0 T (w.setCell ⟨q,o,none⟩ v) n cs ds :=
 ⟨h.ln,h.sm,fun j d e=>by
  obtain⟨a0,a1,a2,a3,a4⟩:=h.ca j d e;exact⟨qI3 hq a0,qI3 hq a1,qI3 hq a2,qI3 hq a3,qI3 hq a4⟩,fun j d e=>(h.nw j d e).set (by omega),by simpa using h.lt⟩
theorem QT0.isIn{T:Nat}{w:World}{n:Nat}{cs ds:List qA5}(h:QT0 T w n cs ds):qA7 w (some ⟨T,0,none⟩) n ds :=
 ⟨h.ln,fun _=>⟨_,0,rfl,fun k c e=>by rw[gG];exact h.ca k c e⟩,fun k c e=>(h.nw k c e).rd⟩
theorem QT0.same{T:Nat}{w:World}{n:Nat}{cs ds:List qA5}(h:QT0 T w n cs ds)(hc:cs.length=n):qQ8 cs ds:=⟨h.ln.trans hc.symm,h.sm⟩
theorem QT0.le{T:Nat}{w wA:World}{a:Option Addr}{n:Nat}{cs ds:List qA5}(h:QT0 T w n cs ds)(hi:qA7 wA a n cs)(hl:∀(k:Nat) c,cs[k]?=some c->qE2 1048576 c):qG4 1048576 ds:=by
 have hS:=h.same hi.len;refine⟨fun k d e=>?_,fun k d e=>?_⟩
 .obtain⟨c,hc,hs⟩:=hS.get e;exact hs.le (hi.each k c hc) (h.nw k d e).rd (hl k c hc)
 .obtain⟨c,hc,hs⟩:=hS.get e;have q:=(h.nw k d e).nw.rules.1;have hl2:=(hs.le (hi.each k c hc) (h.nw k d e).rd (hl k c hc)).rules;refine⟨(h.nw k d e).nw.cap,?_⟩;rw[q];unfold maxLen;omega
structure qCQ (T:Nat) (w:World) (n:Nat) (rs ds:List qD2):Prop where
 ln:ds.length=n
 nw:∀(j:Nat) r d,rs[j]?=some r->ds[j]?=some d->∃L,T<L/\qZ4 w L r d
 ca:∀(j:Nat) d,ds[j]?=some d->qI2 w T (j*4) d
 lt:T<w.heap.size
theorem QL3.at{w0 w:World}{n:Nat}{rs ds:List qD2}(h:QL3 w0 w n rs ds n):qCQ w0.heap.size w n rs ds:=⟨h.ln,h.nw,h.ca,h.lt⟩
theorem qCQ.below{T:Nat}{w w':World}{n:Nat}{rs ds:List qD2}(h:qCQ T w n rs ds)(hb:Below w.heap.size w w'):qCQ T w' n rs ds :=
 ⟨h.ln,fun j r d e1 e2=>by
  obtain⟨L,q1,q2⟩:=h.nw j r d e1 e2;exact⟨L,q1,q2.below hb⟩,fun j d e=>(h.ca j d e).below hb,gD h.lt hb.size⟩
theorem qCQ.set{T q o:Nat}{w:World}{n:Nat}{rs ds:List qD2}(h:qCQ T w n rs ds)(hq:q<T)(v:Value):qCQ T (w.setCell ⟨q,o,none⟩ v) n rs ds :=
 ⟨h.ln,fun j r d e1 e2=>by
  obtain⟨L,q1,q2⟩:=h.nw j r d e1 e2;exact⟨L,q1,q2.grown (qG6 w q o v) (by omega)⟩,fun j d e=>by
  obtain⟨a0,a1,a2,a3⟩:=h.ca j d e;exact⟨qI3 hq a0,qI3 hq a1,qI3 hq a2,qI3 hq a3⟩,by simpa using h.lt⟩
theorem qCQ.same{T:Nat}{w:World}{n:Nat}{rs ds:List qD2}(h:qCQ T w n rs ds)(hl:rs.length=n):qX3 rs ds :=
 ⟨h.ln.trans hl.symm,fun j r d e1 e2=>by
  obtain⟨L,_,q⟩:=h.nw j r d e1 e2;exact⟨q.i,q.u,q.sn,q.ln,q.sc,q.lc,q.ss,q.ls⟩⟩
theorem qCQ.isIn{T:Nat}{w wA:World}{a:Option Addr}{n:Nat}{rs ds:List qD2}(h:qCQ T w n rs ds)(h0:qZ9 wA a n rs):qZ9 w (some ⟨T,0,none⟩) n ds :=
 ⟨h.ln,fun _=>⟨_,0,rfl,fun k c e=>by rw[gG];exact h.ca k c e⟩,fun k d e=>by
  obtain⟨r,e1,_⟩:=(h.same h0.len).get e;obtain⟨L,_,q⟩:=h.nw k r d e1 e;exact q.isIn (h0.each k r e1).said.1 (h0.each k r e1).locks.1⟩
theorem qY6{w:World}{T q o:Nat}{zs:List Int}(h:qQ9 w T zs)(hq:q<T)(v:Value):qQ9 (w.setCell ⟨q,o,none⟩ v) T zs:=fun k x e=>qI3 hq (h k x e)
theorem QN7{w:World}{T q o:Nat}{zs:List ShI}(h:QB8 w T zs)(hq:q<T)(v:Value):QB8 (w.setCell ⟨q,o,none⟩ v) T zs:=fun k x e=>by
 obtain⟨a0,a1,a2,a3,a4,a5⟩:=h k x e;exact⟨qI3 hq a0,qI3 hq a1,qI3 hq a2,qI3 hq a3,qI3 hq a4,qI3 hq a5⟩
structure qLG (m:Nat) (c:ClI):Prop where
 cn:c.cn<=m
 cl:∀(k:Nat) x,c.cs[k]?=some x->qE2 m x
 bn:c.bn<=m
 rn:c.rn<=m
 rl:∀(k:Nat) r,c.rs[k]?=some r->qH2 m r
 zn:c.zn<=m
structure qJM (c y:ClI) (W:World):Prop where
 is:qCR W y
 le:qFK y
 cs:qQ8 c.cs y.cs
 bs:y.bs=c.bs
 rs:qX3 c.rs y.rs
 zs:y.zs=c.zs
 cn:y.cn=c.cn
 bn:y.bn=c.bn
 rn:y.rn=c.rn
 zn:y.zn=c.zn
theorem qJM.below{c y:ClI}{w w':World}(h:qJM c y w)(hb:Below w.heap.size w w'):qJM c y w':=⟨h.is.below hb,h.le,h.cs,h.bs,h.rs,h.zs,h.cn,h.bn,h.rn,h.zn⟩
theorem qCb(c:ClI)(left:Int)(w:World)(hm:qLG maxLen c)(h0:0<=left)(h1:left<=1048576)(h:qCR w c):
  CP 11 #[.agg #[.slice c.ca c.cn c.cc,.slice c.ba c.bn c.bc,.slice c.ra c.rn c.rc,.slice c.za c.zn c.zc],iv left] w fun e w'=>(∃v:Int,e=.returned (iv v)/\v<=left/\(0<=v->qLG 1048576 c))/\Below w.heap.size w w':=by
 obtain⟨V,hV⟩:∃V,V=w.alloc (.cells #[.slice c.ca c.cn c.cc,.slice c.ba c.bn c.bc,.slice c.ra c.rn c.rc,.slice c.za c.zn c.zc] 27):=⟨_,rfl⟩;obtain⟨q,hq⟩:∃q,q=w.heap.size:=⟨_,rfl⟩;have BV:Hid (Below w.heap.size w V):=by show Below _ _ _;rw[hV];exact zN
 have XB:Hid (∀W,Below V.heap.size V W->qT3 W q c):=fun W hb=>by
  have : qT3 V q c:=by rw[hV,hq];exact qT3.new w c _
  exact this.below hb
 have HI:=qB4 (h.below BV.out);have HM:=qB4 hm;clear h hm;go_enter func11,ntmps11;go_upto_region 1 with fail
 rw[<- hV,<- hq];clear hV hq;obtain⟨x0,x1,x2,x3⟩:=XB.out V (gC _ _);have hql:q<V.heap.size:=zL V _ x0;go_wp2_with fail
 refine (qCa c.ca c.cn c.cc c.cs left V HM.out.cn HM.out.cl h0 h1 HI.out.ci).mono ?_;rintro e w1 ⟨⟨v1,rfl,hv1,hw1⟩,hb1⟩;have HW1:=qB4 hw1;have B1:=qB4 hb1;clear hw1 hb1 x0 x1 x2 x3 hql;by_cases n1:v1<0
 .go_wp2;go_ret;exact⟨⟨-1,rfl,by omega,fun q=>by omega⟩,BV.out.trans (B1.out.mono BV.out.size)⟩
 obtain⟨x0,x1,x2,x3⟩:=XB.out w1 B1.out;have hql:q<w1.heap.size:=zL w1 _ x0;go_wp2_with fail
 refine (qHB c.ba c.bn c.bc v1 w1 HM.out.bn (by omega) (by omega)).mono ?_;rintro e w2 ⟨⟨v2,rfl,hv2,_,hw2⟩,rfl⟩;have HW2:=qB4 hw2;clear hw2;by_cases n2:v2<0
 .go_wp2;go_ret;exact⟨⟨-1,rfl,by omega,fun q=>by omega⟩,BV.out.trans (B1.out.mono BV.out.size)⟩
 go_wp2_with fail
 refine (qAy c.ra c.rn c.rc c.rs v2 w1 HM.out.rn HM.out.rl (by omega) (by omega) (HI.out.ri.below B1.out)).mono ?_;rintro e w3 ⟨⟨v3,rfl,hv3,hw3⟩,hb3⟩;have HW3:=qB4 hw3;have B3:=qB4 (B1.out.trans (hb3.mono B1.out.size));clear hw3 hb3 x0 x1 x2 x3 hql;by_cases n3:v3<0
 .go_wp2;go_ret;exact⟨⟨-1,rfl,by omega,fun q=>by omega⟩,BV.out.trans (B3.out.mono BV.out.size)⟩
 obtain⟨x0,x1,x2,x3⟩:=XB.out w3 B3.out;have hql:q<w3.heap.size:=zL w3 _ x0;go_wp2_with fail
 refine (qFT c.za c.zn c.zc v3 w3 HM.out.zn (by omega) (by omega)).mono ?_;rintro e w4 ⟨⟨v4,rfl,hv4,hw4⟩,hb4⟩;have HW4:=qB4 hw4;have B4:=qB4 (B3.out.trans (hb4.mono B3.out.size));clear hw4 hb4 x0 x1 x2 x3 hql;by_cases n4:v4<0
 .go_wp2;go_ret;exact⟨⟨-1,rfl,by omega,fun q=>by omega⟩,BV.out.trans (B4.out.mono BV.out.size)⟩
 go_wp2;go_ret;refine⟨⟨v4,rfl,by omega,fun q=>⟨?_,fun k x e=>?_,HW2.out (by omega),?_,fun k r e=>?_,HW4.out q⟩⟩,BV.out.trans (B4.out.mono BV.out.size)⟩
 .have:=(HW1.out (by omega)).1;omega
 .exact QR9 ((HW1.out (by omega)).2 k x e) (by omega)
 .have:=(HW3.out (by omega)).1;omega
 .exact qFg ((HW3.out (by omega)).2 k r e) (by omega)
theorem qS4.put0{w:World}{b:Nat}{u0 u1 u2 u3:Value}(h:qS4 w b u0 u1 u2 u3)(v:Value):qS4 (w.setCell ⟨b,0,none⟩ v) b v u1 u2 u3:=by
 obtain⟨h0,h1,h2,h3,hf⟩:=h;refine⟨?_,?_,?_,?_,fun j=>by simp[hf]⟩ <;> simp[go_sem,h0,h1,h2,h3]
theorem qS4.put1{w:World}{b:Nat}{u0 u1 u2 u3:Value}(h:qS4 w b u0 u1 u2 u3)(v:Value):qS4 (w.setCell ⟨b,1,none⟩ v) b u0 v u2 u3:=by
 obtain⟨h0,h1,h2,h3,hf⟩:=h;refine⟨?_,?_,?_,?_,fun j=>by simp[hf]⟩ <;> simp[go_sem,h0,h1,h2,h3]
structure qFJ (w0 w:World) (c:ClI) (o0 o1 o2 o3:Value):Prop where
 bx:qS4 w w0.heap.size (.slice c.ca c.cn c.cc) (.slice c.ba c.bn c.bc) (.slice c.ra c.rn c.rc) (.slice c.za c.zn c.zc)
 ry:qS4 w (w0.heap.size+1) (.slice none 0 0) (.slice none 0 0) (.slice none 0 0) (.slice none 0 0)
 ob:qS4 w (w0.heap.size+1+1) o0 o1 o2 o3
 bl:Below w0.heap.size w0 w
 lt:w0.heap.size+1+1<w.heap.size
theorem qFJ.below{w0 w w':World}{c:ClI}{o0 o1 o2 o3:Value}(h:qFJ w0 w c o0 o1 o2 o3)(hb:Below w.heap.size w w'):qFJ w0 w' c o0 o1 o2 o3 :=
 ⟨h.bx.below hb,h.ry.below hb,h.ob.below hb,h.bl.trans (hb.mono h.bl.size),gD h.lt hb.size⟩
theorem qFJ.to{w0 w:World}{c:ClI}{o0 o1 o2 o3 p0 p1 p2 p3:Value}(h:qFJ w0 w c o0 o1 o2 o3)(j:Nat)(v:Value)(hp:qS4 (w.setCell ⟨w0.heap.size+1+1,j,none⟩ v) (w0.heap.size+1+1) p0 p1 p2 p3):qFJ w0 (w.setCell ⟨w0.heap.size+1+1,j,none⟩ v) c p0 p1 p2 p3 :=
 ⟨h.bx.grown (qG6 _ _ _ _) (fun e=>by injection e;omega),h.ry.grown (qG6 _ _ _ _) (fun e=>by injection e;omega),hp,h.bl.setCell (by show w0.heap.size<=w0.heap.size+1+1;omega) _,by simpa using h.lt⟩
theorem qFJ.new(w:World)(c:ClI):qFJ w (((w.alloc (.cells #[.slice c.ca c.cn c.cc,.slice c.ba c.bn c.bc,.slice c.ra c.rn c.rc,.slice c.za c.zn c.zc] 27)).alloc (.cells #[.slice none 0 0,.slice none 0 0,.slice none 0 0,.slice none 0 0] 34)).alloc (.cells #[.slice none 0 0,.slice none 0 0,.slice none 0 0,.slice none 0 0] 34)) c (.slice none 0 0) (.slice none 0 0) (.slice none 0 0) (.slice none 0 0):=by
 have a1:qS4 (w.alloc (.cells #[.slice c.ca c.cn c.cc,.slice c.ba c.bn c.bc,.slice c.ra c.rn c.rc,.slice c.za c.zn c.zc] 27)) w.heap.size (.slice c.ca c.cn c.cc) (.slice c.ba c.bn c.bc) (.slice c.ra c.rn c.rc) (.slice c.za c.zn c.zc):=qS4.new _ _ _ _ _ _;have b1:Below w.heap.size w (w.alloc (.cells #[.slice c.ca c.cn c.cc,.slice c.ba c.bn c.bc,.slice c.ra c.rn c.rc,.slice c.za c.zn c.zc] 27)):=zN;generalize hA:w.alloc (.cells #[.slice c.ca c.cn c.cc,.slice c.ba c.bn c.bc,.slice c.ra c.rn c.rc,.slice c.za c.zn c.zc] 27)=A at a1 b1 ⊢
 have zA:A.heap.size=w.heap.size+1:=by rw[<- hA];simp
 have a2:qS4 (A.alloc (.cells #[.slice none 0 0,.slice none 0 0,.slice none 0 0,.slice none 0 0] 34)) A.heap.size (.slice none 0 0) (.slice none 0 0) (.slice none 0 0) (.slice none 0 0):=qS4.new _ _ _ _ _ _;have b2:Below A.heap.size A (A.alloc (.cells #[.slice none 0 0,.slice none 0 0,.slice none 0 0,.slice none 0 0] 34)):=zN;generalize hB:A.alloc (.cells #[.slice none 0 0,.slice none 0 0,.slice none 0 0,.slice none 0 0] 34)=B at a2 b2 ⊢
 have zB:B.heap.size=w.heap.size+1+1:=by rw[<- hB];simp[zA]
 have a3:qS4 (B.alloc (.cells #[.slice none 0 0,.slice none 0 0,.slice none 0 0,.slice none 0 0] 34)) B.heap.size (.slice none 0 0) (.slice none 0 0) (.slice none 0 0) (.slice none 0 0):=qS4.new _ _ _ _ _ _;have b3:Below B.heap.size B (B.alloc (.cells #[.slice none 0 0,.slice none 0 0,.slice none 0 0,.slice none 0 0] 34)):=zN;rw[zA]at a2;rw[zB]at a3;exact⟨(a1.below b2).below b3,a2.below b3,a3,(b1.trans (b2.mono b1.size)).trans (b3.mono (by omega)),by simp[zB]⟩
theorem QE2(c:ClI)(w:World)(hm:qLG 1048576 c)(h:qCR w c):
  CP 13 #[.agg #[.slice c.ca c.cn c.cc,.slice c.ba c.bn c.bc,.slice c.ra c.rn c.rc,.slice c.za c.zn c.zc]] w fun e w'=>∃y:ClI,e=.returned (.agg #[.slice y.ca y.cn y.cc,.slice y.ba y.bn y.bc,.slice y.ra y.rn y.rc,.slice y.za y.zn y.zc])/\qJM c y w'/\Below w.heap.size w w':=by
 obtain⟨V,hV⟩:∃V,V=(((w.alloc (.cells #[.slice c.ca c.cn c.cc,.slice c.ba c.bn c.bc,.slice c.ra c.rn c.rc,.slice c.za c.zn c.zc] 27)).alloc (.cells #[.slice none 0 0,.slice none 0 0,.slice none 0 0,.slice none 0 0] 34)).alloc (.cells #[.slice none 0 0,.slice none 0 0,.slice none 0 0,.slice none 0 0] 34)):=⟨_,rfl⟩;have Z0:Hid (qFJ w V c (.slice none 0 0) (.slice none 0 0) (.slice none 0 0) (.slice none 0 0)):=by rw[hV];exact qFJ.new w c
 have HI:=qB4 h;have HM:=qB4 hm;clear h hm;go_enter func13,ntmps13;go_upto_region 2 with fail
 rw[<- hV];clear hV;obtain⟨x0,x1,x2,x3,_⟩:=Z0.out.bx;obtain⟨o0,o1,o2,o3,of⟩:=Z0.out.ob;have hof:=of 0;have hx:=Z0.out.lt;have hx0:w.heap.size<V.heap.size:=by omega
 clear of;go_wp2_with fail
 refine (qCW c.ca c.cn c.cc c.cs V HM.out.cn HM.out.cl (HI.out.ci.below Z0.out.bl)).mono ?_;rintro e w1 ⟨rfl,ds,hd⟩;obtain⟨T1,hT1⟩:∃T,T=V.heap.size:=⟨_,rfl⟩;have HT1:Hid (w.heap.size+1+1<T1):=by show _<_;rw[hT1];exact Z0.out.lt
 have hb0:Below V.heap.size V w1:=hd.bl;have Y0:=qB4 (Z0.out.below hb0);have G0:Hid (QT0 T1 w1 c.cn c.cs ds):=by show _;rw[hT1];exact hd.at
 obtain⟨o0,o1,o2,o3,of⟩:=Y0.out.ob;have hof:=of 0;have hlo:=Y0.out.lt;clear of x0 x1 x2 x3 hx0 hx;obtain⟨U1,hU1⟩:∃U,U=w1.setCell ⟨w.heap.size+1+1,0,none⟩ (.slice (some ⟨T1,0,none⟩) c.cn c.cn):=⟨_,rfl⟩;have Z1:Hid (qFJ w U1 c (.slice (some ⟨T1,0,none⟩) c.cn c.cn) (.slice none 0 0) (.slice none 0 0) (.slice none 0 0)):=by rw[hU1];exact Y0.out.to 0 _ (Y0.out.ob.put0 _)
 have F00:Hid (QT0 T1 U1 c.cn c.cs ds):=by rw[hU1];exact G0.out.set HT1.out _
 go_upto_region 3 with fail
 rw[<- hT1];rw[<- hU1];clear hU1 hT1 hb0 o0 o1 o2 o3 hof hlo hd Y0 G0;obtain⟨x0,x1,x2,x3,_⟩:=Z1.out.bx;have hx:=Z1.out.lt;have hx0:w.heap.size<U1.heap.size:=by omega
 go_wp2_with fail
 refine (qJY c.ba c.bn c.bc c.bs U1 HM.out.bn (HI.out.bi.below Z1.out.bl)).mono ?_;rintro e w2 ⟨rfl,hat,hlt,hb⟩;obtain⟨T2,hT2⟩:∃T,T=U1.heap.size:=⟨_,rfl⟩;have HT2:Hid (w.heap.size+1+1<T2):=by show _<_;rw[hT2];exact Z1.out.lt
 have hb1:Below U1.heap.size U1 w2:=hb;have Y1:=qB4 (Z1.out.below hb1);have G1:Hid (qQ9 w2 T2 c.bs):=by show _;rw[hT2];exact hat
 have G10:Hid (QT0 T1 w2 c.cn c.cs ds):=F00.out.below hb1;obtain⟨o0,o1,o2,o3,of⟩:=Y1.out.ob;have hof:=of 1;have hlo:=Y1.out.lt;clear of x0 x1 x2 x3 hx0 hx;obtain⟨U2,hU2⟩:∃U,U=w2.setCell ⟨w.heap.size+1+1,1,none⟩ (.slice (some ⟨T2,0,none⟩) c.bn c.bn):=⟨_,rfl⟩;have Z2:Hid (qFJ w U2 c (.slice (some ⟨T1,0,none⟩) c.cn c.cn) (.slice (some ⟨T2,0,none⟩) c.bn c.bn) (.slice none 0 0) (.slice none 0 0)):=by rw[hU2];exact Y1.out.to 1 _ (Y1.out.ob.put1 _)
 have F11:Hid (qQ9 U2 T2 c.bs):=by rw[hU2];exact qY6 G1.out HT2.out _
 have F10:Hid (QT0 T1 U2 c.cn c.cs ds):=by rw[hU2];exact G10.out.set HT1.out _
 go_upto_region 4 with fail
 rw[<- hT2];rw[<- hU2];clear hU2 hT2 hb1 o0 o1 o2 o3 hof hlo hat hlt hb Y1 G1 G10 F00;obtain⟨x0,x1,x2,x3,_⟩:=Z2.out.bx;have hx:=Z2.out.lt;have hx0:w.heap.size<U2.heap.size:=by omega
 go_wp2_with fail
 refine (qAv c.ra c.rn c.rc c.rs U2 HM.out.rn HM.out.rl (HI.out.ri.below Z2.out.bl)).mono ?_;rintro e w3 ⟨rfl,rs',hd⟩;obtain⟨T3,hT3⟩:∃T,T=U2.heap.size:=⟨_,rfl⟩;have HT3:Hid (w.heap.size+1+1<T3):=by show _<_;rw[hT3];exact Z2.out.lt
 have hb2:Below U2.heap.size U2 w3:=hd.bl;have Y2:=qB4 (Z2.out.below hb2);have G2:Hid (qCQ T3 w3 c.rn c.rs rs'):=by show _;rw[hT3];exact hd.at
 have G21:Hid (qQ9 w3 T2 c.bs):=F11.out.below hb2;have G20:Hid (QT0 T1 w3 c.cn c.cs ds):=F10.out.below hb2;obtain⟨o0,o1,o2,o3,of⟩:=Y2.out.ob;have hof:=of 2;have hlo:=Y2.out.lt;clear of x0 x1 x2 x3 hx0 hx;obtain⟨U3,hU3⟩:∃U,U=w3.setCell ⟨w.heap.size+1+1,2,none⟩ (.slice (some ⟨T3,0,none⟩) c.rn c.rn):=⟨_,rfl⟩;have Z3:Hid (qFJ w U3 c (.slice (some ⟨T1,0,none⟩) c.cn c.cn) (.slice (some ⟨T2,0,none⟩) c.bn c.bn) (.slice (some ⟨T3,0,none⟩) c.rn c.rn) (.slice none 0 0)):=by rw[hU3];exact Y2.out.to 2 _ (Y2.out.ob.put2 _)
 have F22:Hid (qCQ T3 U3 c.rn c.rs rs'):=by rw[hU3];exact G2.out.set HT3.out _
 have F21:Hid (qQ9 U3 T2 c.bs):=by rw[hU3];exact qY6 G21.out HT2.out _
 have F20:Hid (QT0 T1 U3 c.cn c.cs ds):=by rw[hU3];exact G20.out.set HT1.out _
 go_upto_region 5 with fail
 rw[<- hT3];rw[<- hU3];clear hU3 hT3 hb2 o0 o1 o2 o3 hof hlo hd Y2 G2 G21 G20 F11 F10;obtain⟨x0,x1,x2,x3,_⟩:=Z3.out.bx;have hx:=Z3.out.lt;have hx0:w.heap.size<U3.heap.size:=by omega
 go_wp2_with fail
 refine (qFP c.za c.zn c.zc c.zs U3 HM.out.zn (HI.out.zi.below Z3.out.bl)).mono ?_;rintro e w4 ⟨rfl,hat,hlt,hb⟩;obtain⟨T4,hT4⟩:∃T,T=U3.heap.size:=⟨_,rfl⟩;have HT4:Hid (w.heap.size+1+1<T4):=by show _<_;rw[hT4];exact Z3.out.lt
 have hb3:Below U3.heap.size U3 w4:=hb;have Y3:=qB4 (Z3.out.below hb3);have G3:Hid (QB8 w4 T4 c.zs):=by show _;rw[hT4];exact hat
 have G32:Hid (qCQ T3 w4 c.rn c.rs rs'):=F22.out.below hb3;have G31:Hid (qQ9 w4 T2 c.bs):=F21.out.below hb3;have G30:Hid (QT0 T1 w4 c.cn c.cs ds):=F20.out.below hb3;obtain⟨o0,o1,o2,o3,of⟩:=Y3.out.ob;have hof:=of 3;have hlo:=Y3.out.lt;clear of x0 x1 x2 x3 hx0 hx;obtain⟨U4,hU4⟩:∃U,U=w4.setCell ⟨w.heap.size+1+1,3,none⟩ (.slice (some ⟨T4,0,none⟩) c.zn c.zn):=⟨_,rfl⟩;have Z4:Hid (qFJ w U4 c (.slice (some ⟨T1,0,none⟩) c.cn c.cn) (.slice (some ⟨T2,0,none⟩) c.bn c.bn) (.slice (some ⟨T3,0,none⟩) c.rn c.rn) (.slice (some ⟨T4,0,none⟩) c.zn c.zn)):=by rw[hU4];exact Y3.out.to 3 _ (Y3.out.ob.put3 _)
 have F33:Hid (QB8 U4 T4 c.zs):=by rw[hU4];exact QN7 G3.out HT4.out _
 have F32:Hid (qCQ T3 U4 c.rn c.rs rs'):=by rw[hU4];exact G32.out.set HT3.out _
 have F31:Hid (qQ9 U4 T2 c.bs):=by rw[hU4];exact qY6 G31.out HT2.out _
 have F30:Hid (QT0 T1 U4 c.cn c.cs ds):=by rw[hU4];exact G30.out.set HT1.out _
 go_upto_region 6 with fail
 rw[<- hT4];rw[<- hU4];clear hU4 hT4 hb3 o0 o1 o2 o3 hof hlo hat hlt hb Y3 G3 G32 G31 G30 F22 F21 F20;obtain⟨o0,o1,o2,o3,_⟩:=Z4.out.ob;obtain⟨y0,y1,y2,y3,yf⟩:=Z4.out.ry;have f0:=yf 0;have f1:=yf 1;have f2:=yf 2;have f3:=yf 3;have hx:=Z4.out.lt;have hx1:w.heap.size+1<U4.heap.size:=by omega
 clear yf;have b4:Hid (Below w.heap.size w ((((U4.setCell ⟨w.heap.size+1,0,none⟩ (.slice (some ⟨T1,0,none⟩) c.cn c.cn)).setCell ⟨w.heap.size+1,1,none⟩ (.slice (some ⟨T2,0,none⟩) c.bn c.bn)).setCell ⟨w.heap.size+1,2,none⟩ (.slice (some ⟨T3,0,none⟩) c.rn c.rn)).setCell ⟨w.heap.size+1,3,none⟩ (.slice (some ⟨T4,0,none⟩) c.zn c.zn))):=(((Z4.out.bl.setCell (by show w.heap.size<=w.heap.size+1;omega) _).setCell (by show w.heap.size<=w.heap.size+1;omega) _).setCell (by show w.heap.size<=w.heap.size+1;omega) _).setCell (by show w.heap.size<=w.heap.size+1;omega) _;have L0:Hid (QT0 T1 ((((U4.setCell ⟨w.heap.size+1,0,none⟩ (.slice (some ⟨T1,0,none⟩) c.cn c.cn)).setCell ⟨w.heap.size+1,1,none⟩ (.slice (some ⟨T2,0,none⟩) c.bn c.bn)).setCell ⟨w.heap.size+1,2,none⟩ (.slice (some ⟨T3,0,none⟩) c.rn c.rn)).setCell ⟨w.heap.size+1,3,none⟩ (.slice (some ⟨T4,0,none⟩) c.zn c.zn)) c.cn c.cs ds):=((((F30.out).set (by have:=HT1.out;omega) _).set (by have:=HT1.out;omega) _).set (by have:=HT1.out;omega) _).set (by have:=HT1.out;omega) _;have L1:Hid (qQ9 ((((U4.setCell ⟨w.heap.size+1,0,none⟩ (.slice (some ⟨T1,0,none⟩) c.cn c.cn)).setCell ⟨w.heap.size+1,1,none⟩ (.slice (some ⟨T2,0,none⟩) c.bn c.bn)).setCell ⟨w.heap.size+1,2,none⟩ (.slice (some ⟨T3,0,none⟩) c.rn c.rn)).setCell ⟨w.heap.size+1,3,none⟩ (.slice (some ⟨T4,0,none⟩) c.zn c.zn)) T2 c.bs):=qY6 (qY6 (qY6 (qY6 (F31.out) (by have:=HT2.out;omega) _) (by have:=HT2.out;omega) _) (by have:=HT2.out;omega) _) (by have:=HT2.out;omega) _;have L2:Hid (qCQ T3 ((((U4.setCell ⟨w.heap.size+1,0,none⟩ (.slice (some ⟨T1,0,none⟩) c.cn c.cn)).setCell ⟨w.heap.size+1,1,none⟩ (.slice (some ⟨T2,0,none⟩) c.bn c.bn)).setCell ⟨w.heap.size+1,2,none⟩ (.slice (some ⟨T3,0,none⟩) c.rn c.rn)).setCell ⟨w.heap.size+1,3,none⟩ (.slice (some ⟨T4,0,none⟩) c.zn c.zn)) c.rn c.rs rs'):=((((F32.out).set (by have:=HT3.out;omega) _).set (by have:=HT3.out;omega) _).set (by have:=HT3.out;omega) _).set (by have:=HT3.out;omega) _;have L3:Hid (QB8 ((((U4.setCell ⟨w.heap.size+1,0,none⟩ (.slice (some ⟨T1,0,none⟩) c.cn c.cn)).setCell ⟨w.heap.size+1,1,none⟩ (.slice (some ⟨T2,0,none⟩) c.bn c.bn)).setCell ⟨w.heap.size+1,2,none⟩ (.slice (some ⟨T3,0,none⟩) c.rn c.rn)).setCell ⟨w.heap.size+1,3,none⟩ (.slice (some ⟨T4,0,none⟩) c.zn c.zn)) T4 c.zs):=QN7 (QN7 (QN7 (QN7 (F33.out) (by have:=HT4.out;omega) _) (by have:=HT4.out;omega) _) (by have:=HT4.out;omega) _) (by have:=HT4.out;omega) _;have HL:Hid (c.bs.length=c.bn/\c.zs.length=c.zn/\c.cs.length=c.cn/\c.rs.length=c.rn):=⟨HI.out.bi.1,HI.out.zi.1,HI.out.ci.len,HI.out.ri.len⟩;go_wp2;refine gQ (v:=.agg #[.slice (some ⟨T1,0,none⟩) c.cn c.cn,.slice (some ⟨T2,0,none⟩) c.bn c.bn,.slice (some ⟨T3,0,none⟩) c.rn c.rn,.slice (some ⟨T4,0,none⟩) c.zn c.zn]) (by simp[results,results13,go_sem,y0,y1,y2,y3,hx1]) rfl ?_;refine⟨⟨some ⟨T1,0,none⟩,c.cn,c.cn,ds,some ⟨T2,0,none⟩,c.bn,c.bn,c.bs,some ⟨T3,0,none⟩,c.rn,c.rn,rs',some ⟨T4,0,none⟩,c.zn,c.zn,c.zs⟩,rfl,?_,b4.out⟩;have s1:=L0.out.same HL.out.2.2.1;have s2:=L2.out.same HL.out.2.2.2;refine⟨⟨L0.out.isIn,qD0.of HL.out.1 L1.out,L2.out.isIn HI.out.ri,qX6.of HL.out.2.1 L3.out⟩,⟨HM.out.cn,?_,HM.out.bn,HM.out.rn,s2.le HM.out.rl,fun k r e=>?_,HM.out.zn,⟨gB _,jF HM.out.zn (by unfold maxLen;omega)⟩,⟨gB _,jF HM.out.cn (by unfold maxLen;omega)⟩⟩,s1,rfl,s2,rfl,rfl,rfl,rfl,rfl⟩
 .exact L0.out.le HI.out.ci HM.out.cl
 .obtain⟨r0,e0,q⟩:=s2.get e;have q1:=(HM.out.rl k r0 e0).said;refine⟨by rw[q.sn,q.sc];exact gB _,?_⟩;rw[q.sc];exact jF q1 (by unfold maxLen;omega)
theorem QF1{α β:Type}{g:α->Int}{g':β->Int}:∀ {l:List α} {l':List β},l'.length=l.length->(∀(j:Nat) a b,l[j]?=some a->l'[j]?=some b->g' b=g a)->qD6 g' l'=qD6 g l
 | [],[],_,_=>rfl
 | [],_::_,h,_=>by simp at h
 | _::_,[],h,_=>by simp at h
 | a::l,b::l',h,hg=>by
  have e:=hg 0 a b rfl rfl;have ih:=QF1 (g:=g) (g':=g') (l:=l) (l':=l') (by simpa using h) (fun j a' b' h1 h2=>hg (j+1) a' b' h1 h2);unfold qD6;rw[e,ih]
theorem qX3.tail{r d:qD2}{rs ds:List qD2}(h:qX3 (r::rs) (d::ds)):qAk r d/\qX3 rs ds :=
 ⟨h.sm 0 r d rfl rfl,⟨by have:=h.ln;simpa using this,fun j r' d' h1 h2=>h.sm (j+1) r' d' h1 h2⟩⟩
theorem QU6(i:Int)(x:StI):∀ {rs ds:List qD2},qX3 rs ds->qEH (QD1 ds i) x=qEH (QD1 rs i) x
 | [],[],_=>rfl
 | [],_::_,h=>by have:=h.ln;simp at this
 | _::_,[],h=>by have:=h.ln;simp at this
 | r::rs,d::ds,h=>by
  obtain⟨q,h'⟩:=h.tail;have ih:=QU6 i x h';unfold QD1 at ih ⊢
  rw[List.find?_cons,List.find?_cons,q.i];by_cases e:r.i=i
  .simp only[e,decide_true];show qC4 (d.ss.take d.u.toNat) x=qC4 (r.ss.take r.u.toNat) x
   rw[q.ss,q.u]
  .simp only[e,decide_false];exact ih
theorem qEu:∀ {rs ds:List qD2},qX3 rs ds->ds.map (·.i)=rs.map (·.i)
 | [],[],_=>rfl
 | [],_::_,h=>by have:=h.ln;simp at this
 | _::_,[],h=>by have:=h.ln;simp at this
 | r::rs,d::ds,h=>by
  obtain⟨q,h'⟩:=h.tail;rw[List.map_cons,List.map_cons,qEu h',q.i]
theorem qHa{E:qH3}{cs ds:List qA5}{r d:qD2}(h:qQ8 cs ds)(q:qAk r d):qD7 E ds d=qD7 E cs r:=by
 unfold qD7 qI0 f0C;rw[h.cfs,h.f0,q.i,q.u,q.sn,q.ss,q.ls]
theorem QQ6{E:qH3}{c y:ClI}{W:World}(h:qJM c y W):QD7 E y.cs y.bs y.rs y.zs=QD7 E c.cs c.bs c.rs c.zs:=by
 have f0:f0C y.cs=f0C c.cs:=h.cs.f0;have a1:qW7 y.cs y.bs=qW7 c.cs c.bs:=by unfold qW7;rw[h.cs.cfs,f0,h.bs]
 have a2:qR3 E y.cs y.bs y.rs=qR3 E c.cs c.bs c.rs:=by
  unfold qR3;rw[qEu h.rs,f0,h.bs,QF1 (g:=qD7 E c.cs) (g':=qD7 E y.cs) h.rs.ln (fun j a b h1 h2=>qHa h.cs (h.rs.sm j a b h1 h2))]
 have a3:QT2 (f0C y.cs) y.bs y.rs y.zs=QT2 (f0C c.cs) c.bs c.rs c.zs:=by
  unfold QT2;rw[f0,h.zs,h.bs];have : qJ0 c.bs y.rs=qJ0 c.bs c.rs:=funext (fun z=>by unfold qJ0 qZ0;rw[QU6 z.r z.st h.rs]);rw[this]
 have a4:tkC (f0C y.cs) y.rs y.zs=tkC (f0C c.cs) c.rs c.zs:=by
  unfold tkC;rw[f0,h.zs];exact QF1 h.rs.ln (fun j a b h1 h2=>by unfold QI5;rw[(h.rs.sm j a b h1 h2).ss])
 unfold QD7;rw[a1,a2,a3,a4]
theorem qDg(c y z:ClI)(w:World)(hm:qLG 1048576 c)(hy:qJM c y w)(hz:qJM c z w):
  CP 15 #[.agg #[.slice y.ca y.cn y.cc,.slice y.ba y.bn y.bc,.slice y.ra y.rn y.rc,.slice y.za y.zn y.zc],.agg #[.slice z.ca z.cn z.cc,.slice z.ba z.bn z.bc,.slice z.ra z.rn z.rc,.slice z.za z.zn z.zc]] w fun e w'=>e=.returned (.bool true)/\Below w.heap.size w w':=by
 obtain⟨V,hV⟩:∃V,V=(w.alloc (.cells #[.slice y.ca y.cn y.cc,.slice y.ba y.bn y.bc,.slice y.ra y.rn y.rc,.slice y.za y.zn y.zc] 34)).alloc (.cells #[.slice z.ca z.cn z.cc,.slice z.ba z.bn z.bc,.slice z.ra z.rn z.rc,.slice z.za z.zn z.zc] 34):=⟨_,rfl⟩;have bv:Below w.heap.size w V:=by rw[hV];exact (zN).alloc (by simp) _
 have BV:=qB4 bv
 have XB:Hid (∀W,Below V.heap.size V W->qT3 W w.heap.size y/\qT3 W (w.heap.size+1) z):=fun W hb=>by
  have q1:qT3 V w.heap.size y:=by rw[hV];exact (qT3.new w y _).below (zN)
  have q2:qT3 V (w.heap.size+1) z:=by
   have:=qT3.new (w.alloc (.cells #[.slice y.ca y.cn y.cc,.slice y.ba y.bn y.bc,.slice y.ra y.rn y.rc,.slice y.za y.zn y.zc] 34)) z 34;rw[jC]at this;rw[hV];exact this
  exact⟨q1.below hb,q2.below hb⟩
 have HY:=qB4 (hy.below bv);have HZ:=qB4 (hz.below bv);have hcn:z.cn=y.cn:=hz.cn.trans hy.cn.symm;have hbn:z.bn=y.bn:=hz.bn.trans hy.bn.symm;have hrn:z.rn=y.rn:=hz.rn.trans hy.rn.symm;have hzn:z.zn=y.zn:=hz.zn.trans hy.zn.symm;have HBS:Hid (y.bs=c.bs/\z.bs=c.bs/\y.zs=c.zs/\z.zs=c.zs):=⟨hy.bs,hz.bs,hy.zs,hz.zs⟩
 have HE1:Hid (∀W,Below V.heap.size V W->CP 49 #[.slice y.ca y.cn y.cc,.slice z.ca y.cn z.cc] W fun e w'=>e=.returned (.bool true)/\Below W.heap.size W w'):=fun W q=>by
  have i2:=(HZ.out.is.ci.below q);rw[hcn]at i2;exact QT9 y.ca z.ca y.cn y.cc z.cc y.cs z.cs W HY.out.le.cn HY.out.le.cl.le (fun j c' d h1 h2=>QV1 HY.out.cs HZ.out.cs j c' d h1 h2) (HY.out.is.ci.below q) i2
 have HE2:Hid (∀W,Below V.heap.size V W->CP 50 #[.slice y.ba y.bn y.bc,.slice z.ba y.bn z.bc] W fun e w'=>e=.returned (.bool true)/\Below W.heap.size W w'):=fun W q=>by
  have i1:=(HY.out.is.bi.below q);have i2:=(HZ.out.is.bi.below q);rw[HBS.out.1]at i1;rw[hbn,HBS.out.2.1]at i2;exact QK1 y.ba z.ba y.bn y.bc z.bc c.bs W HY.out.le.bn i1 i2
 have HE3:Hid (∀W,Below V.heap.size V W->CP 51 #[.slice y.ra y.rn y.rc,.slice z.ra y.rn z.rc] W fun e w'=>e=.returned (.bool true)/\Below W.heap.size W w'):=fun W q=>by
  have i2:=(HZ.out.is.ri.below q);rw[hrn]at i2;exact QR8 y.ra z.ra y.rn y.rc z.rc c.rs y.rs z.rs W HY.out.le.rn HY.out.le.rl HY.out.rs HZ.out.rs (HY.out.is.ri.below q) i2
 have HE4:Hid (∀W,Below V.heap.size V W->CP 52 #[.slice y.za y.zn y.zc,.slice z.za y.zn z.zc] W fun e w'=>e=.returned (.bool true)/\Below W.heap.size W w'):=fun W q=>by
  have i1:=(HY.out.is.zi.below q);have i2:=(HZ.out.is.zi.below q);rw[HBS.out.2.2.1]at i1;rw[hzn,HBS.out.2.2.2]at i2;exact qAV y.za z.za y.zn y.zc z.zc c.zs W HY.out.le.zn i1 i2
 have HN:Hid (z.cn=y.cn/\z.bn=y.bn/\z.rn=y.rn/\z.zn=y.zn):=⟨hcn,hbn,hrn,hzn⟩;clear hm hy hz bv hcn hbn hrn hzn HBS;go_enter func15,ntmps15;go_upto_region 1 with fail
 rw[<- hV];clear hV;obtain⟨⟨x0,x1,x2,x3⟩,⟨z0,z1,z2,z3⟩⟩:=XB.out V (gC _ _);rw[HN.out.1]at z0;have hxl:w.heap.size<V.heap.size:=zL V _ x0;have hzl:w.heap.size+1<V.heap.size:=zL V _ z0;go_wp2_with fail
 refine (HE1.out V (gC _ _)).mono ?_;rintro e w1 ⟨rfl,hb1⟩;have B1:=qB4 hb1;clear hb1 x0 x1 x2 x3 z0 z1 z2 z3 hxl hzl;obtain⟨⟨x0,x1,x2,x3⟩,⟨z0,z1,z2,z3⟩⟩:=XB.out w1 B1.out;rw[HN.out.2.1]at z1;have hxl:w.heap.size<w1.heap.size:=zL w1 _ x0;have hzl:w.heap.size+1<w1.heap.size:=zL w1 _ z0;go_wp2_with fail
 refine (HE2.out w1 B1.out).mono ?_;rintro e w2 ⟨rfl,hb2⟩;have B2:=qB4 (B1.out.trans (hb2.mono B1.out.size));clear hb2 x0 x1 x2 x3 z0 z1 z2 z3 hxl hzl;obtain⟨⟨x0,x1,x2,x3⟩,⟨z0,z1,z2,z3⟩⟩:=XB.out w2 B2.out;rw[HN.out.2.2.1]at z2;have hxl:w.heap.size<w2.heap.size:=zL w2 _ x0;have hzl:w.heap.size+1<w2.heap.size:=zL w2 _ z0;go_wp2_with fail
 refine (HE3.out w2 B2.out).mono ?_;rintro e w3 ⟨rfl,hb3⟩;have B3:=qB4 (B2.out.trans (hb3.mono B2.out.size));clear hb3 x0 x1 x2 x3 z0 z1 z2 z3 hxl hzl;obtain⟨⟨x0,x1,x2,x3⟩,⟨z0,z1,z2,z3⟩⟩:=XB.out w3 B3.out;rw[HN.out.2.2.2]at z3;have hxl:w.heap.size<w3.heap.size:=zL w3 _ x0;have hzl:w.heap.size+1<w3.heap.size:=zL w3 _ z0;go_wp2_with fail
 refine (HE4.out w3 B3.out).mono ?_;rintro e w4 ⟨rfl,hb4⟩;have B4:=qB4 (B3.out.trans (hb4.mono B3.out.size));clear hb4 x0 x1 x2 x3 z0 z1 z2 z3 hxl hzl;go_wp2;go_ret;exact⟨rfl,BV.out.trans (B4.out.mono BV.out.size)⟩
