/- Contracts. -/
import Derived.Test.YtdghpccmdnnenaaGreatDoorPx23
namespace Go.Proofs.YtdghpccmdnnenaaGreatDoor
set_option maxRecDepth 100000
set_option maxHeartbeats 8000000
open Go.RowKit Go.Proofs.Tryz
set_option linter.unusedVariables false
set_option linter.unusedSimpArgs false
theorem QT8(i u:Int)(sa sa':Option Addr)(n c c':Nat)(ss:List StI)(la la':Option Addr)(m d d':Nat)(ls:List LkI)(w:World)(hn:n<=1048576)(hm:m<=1048576)(h1:qL2 w sa n ss)(h2:qL2 w sa' n ss)(h3:qJ9 w la m ls)(h4:qJ9 w la' m ls):
  CP 99 #[.agg #[iv i,iv u,.slice sa n c,.slice la m d],.agg #[iv i,iv u,.slice sa' n c',.slice la' m d']] w fun e w'=>e=.returned (.bool true)/\Below w.heap.size w w':=by
 obtain⟨V,hV⟩:∃V,V=(w.alloc (.cells #[iv i,iv u,.slice sa n c,.slice la m d] 115)).alloc (.cells #[iv i,iv u,.slice sa' n c',.slice la' m d'] 115):=⟨_,rfl⟩;have B0:Below w.heap.size w V:=by rw[hV];exact (zN).alloc (by simp) _
 have x2:V.cell? ⟨w.heap.size,3,none⟩=some (.slice la m d):=by rw[hV];simp
 have y2:V.cell? ⟨w.heap.size+1,3,none⟩=some (.slice la' m d'):=by rw[hV];simp
 have hz:V.heap.size=w.heap.size+1+1:=by rw[hV];simp
 have HS:Hid (CP 55 #[.slice sa n c,.slice sa' n c'] V fun e w'=>e=.returned (.bool true)/\Below V.heap.size V w'):=QJ3 sa sa' n c c' ss V hn (h1.below B0) (h2.below B0);have HL:Hid (∀w2,Below w.heap.size w w2->CP 154 #[.slice la m d,.slice la' m d'] w2 fun e w'=>e=.returned (.bool true)/\Below w2.heap.size w2 w'):=fun w2 hb=>qBs la la' m d d' ls w2 hm (h3.below hb) (h4.below hb)
 have XX:Hid (V.cell? ⟨w.heap.size,3,none⟩=some (.slice la m d)/\V.cell? ⟨w.heap.size+1,3,none⟩=some (.slice la' m d')/\V.heap.size=w.heap.size+1+1):=⟨x2,y2,hz⟩;clear h1 h2 h3 h4 x2 y2 hz;go_enter func99,ntmps99;go_wp2_with fail
 rw[<- hV];clear hV;refine HS.out.mono ?_;rintro e w1 ⟨rfl,hb1⟩;obtain⟨x3,y3,hz⟩:=XX.out;have x3:=(hb1.cell (p:=⟨w.heap.size,3,none⟩) (by show w.heap.size<V.heap.size;omega)).trans x3;have y3:=(hb1.cell (p:=⟨w.heap.size+1,3,none⟩) (by show w.heap.size+1<V.heap.size;omega)).trans y3;have B1:=B0.trans (hb1.mono B0.size);have l1:w.heap.size<w1.heap.size:=by have:=hb1.size;omega
 have l2:w.heap.size+1<w1.heap.size:=by have:=hb1.size;omega
 clear hz hb1;go_wp2_with fail
 refine (HL.out _ B1).mono ?_;rintro e w2 ⟨rfl,hb2⟩;clear x3 y3 l1 l2;go_wp2;go_ret;exact⟨rfl,B1.trans (hb2.mono B1.size)⟩
structure qZ9 (w:World) (a:Option Addr) (n:Nat) (rs:List qD2):Prop where
 len:rs.length=n
 row:0<n->∃b off,a=some ⟨b,off,none⟩/\∀k r,rs[k]?=some r->qI2 w b (off+k*4) r
 each:∀(k:Nat) r,rs[k]?=some r->qE7 w r
theorem qZ9.below{w w':World}{a:Option Addr}{n:Nat}{rs:List qD2}(h:qZ9 w a n rs)(hb:Below w.heap.size w w'):qZ9 w' a n rs :=
 ⟨h.len,fun hp=>by
  obtain⟨b,off,e,hr⟩:=h.row hp;exact⟨b,off,e,fun k c q=>(hr k c q).below hb⟩,fun k c q=>(h.each k c q).below hb⟩
theorem qZ9.at{w:World}{a:Option Addr}{n:Nat}{rs:List qD2}(h:qZ9 w a n rs){k:Nat}(hk:k<n):∃b off r,a=some ⟨b,off,none⟩/\rs[k]?=some r/\qI2 w b (off+k*4) r/\qE7 w r:=by
 obtain⟨b,off,e,hr⟩:=h.row (by omega);have hx:=gA (l:=rs) (i:=k) (by rw[h.len];exact hk);exact⟨b,off,_,e,hx,hr k _ hx,h.each k _ hx⟩
theorem qFg{m m':Nat}{r:qD2}(h:qH2 m r)(hm:m<=m'):qH2 m' r:=⟨jF h.said hm,jF h.locks hm⟩
theorem qAy(a:Option Addr)(n cap:Nat)(fs:List qD2)(l:Int)(w:World)(hn:n<=maxLen)(hle:∀(k:Nat) c,fs[k]?=some c->qH2 maxLen c)(h0:0<=l)(h1:l<=1048576)(h:qZ9 w a n fs):
  CP 38 #[.slice a n cap,iv l] w fun e w'=>(∃r:Int,e=.returned (iv r)/\r<=l/\(0<=r->(n:Int)<=l/\(∀(k:Nat) c,fs[k]?=some c->qH2 l.toNat c)))/\Below w.heap.size w w':=by
 have H:=hJJ h;have HZ:=hJJ h.len;have HLE:=hJJ hle;have hn':(n:Int)<=9223372036854775807:=by unfold maxLen at hn;omega
 clear h hle hn;by_cases hlt:(n:Int)<=l
 .go_enter func38,ntmps38;go_wp2
  go_loopw [1,5] (fun q i wr=>∃(k:Nat) (r:Int),k<=n/\i=iv (k:Int)/\q=iv r/\0<=r/\r<=l/\(∀j x,j<k->fs[j]?=some x->qH2 l.toNat x)/\Below w.heap.size w wr)
   (fun _ i _=>n-(intOf i).toNat)
  case atStart=>exact⟨0,_,gH _,rfl,rfl,by omega,by omega,fun j x hj=>by omega,gC _ _⟩
  case round =>
   obtain⟨k,r,hk,rfl,rfl,hr0,hr1,hok,hnx⟩:=hrel;have HOK:=hJJ hok;clear hok;by_cases hkn:k<n
   .obtain⟨b,off,x,rfl,hs,hr,_⟩:=H.out.at hkn
    have HS:=hJJ hs;have hx:qH2 maxLen x:=HLE.out k x hs;have hb:b<w.heap.size:=hr.lt;obtain⟨c0,c1,c2,c3⟩:=hr.below hnx;clear hs hr;have hkn':(k:Int)<(n:Int):=by omega
    go_wp2_with fail
    refine (qCZ x r _ hx hr0 (by omega)).mono ?_;rintro e w1 ⟨⟨r',rfl,hr'1,hr'2⟩,hb1⟩;have hb01:Below w.heap.size w w1:=hnx.trans (hb1.mono hnx.size);by_cases hneg:r'<0
    .clear c0 c1 c2 c3;go_wp2;go_ret;exact⟨⟨_,rfl,by omega,fun q=>by omega⟩,hb01⟩
    .have HN:Hid (∀j y,j<k+1->fs[j]?=some y->qH2 l.toNat y):=fun j y hj hy=>by
      by_cases e:j=k
      .subst e;rw[HS.out]at hy;cases hy;obtain⟨q1,q2⟩:=hr'2 (by omega);exact⟨by omega,by omega⟩
      .exact HOK.out j y (by omega) hy
     have hge:0<=r':=by omega
     clear c0 c1 c2 c3 hr'2;go_wp2;exact⟨⟨k+1,r',by omega,by go_num,rfl,hge,by omega,HN.out,hb01⟩,by simp[intOf];omega⟩
   .have hkn':k=n:=by omega
    subst hkn'
    have HQ:Hid (∀(k:Nat) c,fs[k]?=some c->qH2 l.toNat c):=fun j x hj=>by
     have : j<k:=by
      by_cases q:j<k
      .exact q
      .rw[gE (by rw[HZ.out];omega)]at hj;cases hj
     exact HOK.out j x this hj
    go_wp2;go_ret;exact⟨⟨r,rfl,hr1,fun _=>⟨hlt,HQ.out⟩⟩,hnx⟩
 .have hlt':l<(n:Int):=by omega
  go_enter func38,ntmps38;go_wp2;go_ret;exact⟨⟨_,rfl,by omega,fun q=>by omega⟩,by go_grown⟩
theorem Tryz.infoRp:(prog.info? 115).map (fun i=>(i.zero,i.size,i.bytes))=some (some (.agg #[iv 0,iv 0,.slice none 0 0,.slice none 0 0]),4,64):=by kernel_rfl
abbrev qLC(w:World)(B o:Nat)(d:qD2):World:=(((w.setCell ⟨B,o,none⟩ (iv d.i)).setCell ⟨B,o+1,none⟩ (iv d.u)).setCell ⟨B,o+2,none⟩ (.slice d.sa d.sn d.sc)).setCell ⟨B,o+3,none⟩ (.slice d.la d.ln d.lc)
theorem qGi(w:World)(B o:Nat)(d:qD2)(q:Addr)(h:∀j,j<4->q≠⟨B,o+j,none⟩):(qLC w B o d).cell? q=w.cell? q:=by
 have h0:q≠⟨B,o,none⟩:=h 0 (by omega);unfold qLC;rw[gF (h:=fun e=>h 3 (by omega) e.symm),gF (h:=fun e=>h 2 (by omega) e.symm),gF (h:=fun e=>h 1 (by omega) e.symm),gF (h:=fun e=>h0 e.symm)]
theorem qNP(w:World)(B o:Nat)(d:qD2)(h:∀j,j<4->∃v,w.cell? ⟨B,o+j,none⟩=some v):qI2 (qLC w B o d) B o d:=by
 obtain⟨v0,h0⟩:=h 0 (by omega);obtain⟨v1,h1⟩:=h 1 (by omega);obtain⟨v2,h2⟩:=h 2 (by omega);obtain⟨v3,h3⟩:=h 3 (by omega);rw[jS]at h0;unfold qI2 qLC;refine⟨?_,?_,?_,?_⟩ <;> simp[go_sem,h0,h1,h2,h3]
theorem qGj(w:World)(B o:Nat)(d:qD2):w.grownBy (qLC w B o d) (some B):=qM6 (qM6 (qM6 (qG6 _ _ _ _) (qG6 _ _ _ _)) (qG6 _ _ _ _)) (qG6 _ _ _ _)
theorem qZ4.grown{w w':World}{L b:Nat}{r y:qD2}(h:qZ4 w L r y)(hg:w.grownBy w' (some b))(hb:b<L):qZ4 w' L r y:=by
 obtain⟨g,e,h1,h2,h3,h4⟩:=h.la;have n1:some L≠some b:=fun e=>by injection e;omega
 have n2:some g≠some b:=fun e=>by injection e;omega
 have hz:=hg.size;have hl:=h.slt;exact⟨h.i,h.u,h.sn,h.ln,h.sc,h.lc,h.ss,h.ls,h.sa,⟨g,e,h1,by omega,h3.grown hg n2,h4.grown h2 hg n2⟩,⟨h.sl.1.grown hg n1,h.sl.2.grown hl hg n1⟩,by omega⟩
structure QL3 (w0 w:World) (n:Nat) (rs ds:List qD2) (k:Nat):Prop where
 ln:ds.length=k
 nw:∀(j:Nat) r d,rs[j]?=some r->ds[j]?=some d->∃L,w0.heap.size<L/\qZ4 w L r d
 ca:∀(j:Nat) d,ds[j]?=some d->qI2 w w0.heap.size (j*4) d
 rm:(∀j,j<n*4->∃v,w.cell? ⟨w0.heap.size,j,none⟩=some v)/\∀j,w.frozen? ⟨w0.heap.size,j,none⟩=false
 lt:w0.heap.size<w.heap.size
 bl:Below w0.heap.size w0 w
theorem QL3.below{w0 w w':World}{n:Nat}{rs ds:List qD2}{k:Nat}(h:QL3 w0 w n rs ds k)(hb:Below w.heap.size w w'):QL3 w0 w' n rs ds k :=
 ⟨h.ln,fun j r d e1 e2=>by
  obtain⟨L,q1,q2⟩:=h.nw j r d e1 e2;exact⟨L,q1,q2.below hb⟩,fun j d e=>(h.ca j d e).below hb,⟨fun j hj=>by obtain⟨v,e⟩:=h.rm.1 j hj;exact⟨v,(hb.cell (p:=⟨w0.heap.size,j,none⟩) h.lt).trans e⟩,fun j=>(hb.frozen (p:=⟨w0.heap.size,j,none⟩) h.lt).trans (h.rm.2 j)⟩,gD h.lt hb.size,h.bl.trans (hb.mono h.bl.size)⟩
theorem QL3.put{w0 w:World}{n:Nat}{rs ds:List qD2}{k:Nat}(h:QL3 w0 w n rs ds k)(hk:k<n){r d:qD2}(hc:rs[k]?=some r){L:Nat}(hL:w0.heap.size<L)(hd:qZ4 w L r d):QL3 w0 (qLC w w0.heap.size (k*4) d) n rs (ds++[d]) (k+1):=by
 have hl:=h.ln
 have at1:∀(j:Nat) x,(ds++[d])[j]?=some x->(j<k/\ds[j]?=some x)\/(j=k/\x=d):=fun j x e=>by
  by_cases hj:j<k
  .rw[kY (by omega)]at e;exact .inl ⟨hj,e⟩
  .have hjk:j=k:=by
    have:=(gY.1 e).1;simp at this;omega
   subst hjk;rw[<- hl,kN (gB _),Nat.sub_self]at e;simp at e;exact .inr ⟨rfl,e.symm⟩
 have hg:=qGj w w0.heap.size (k*4) d;refine⟨by simp[hl],fun j r' x e1 e2=>?_,fun j x e=>?_,⟨fun j hj=>?_,fun j=>?_⟩,by simpa using h.lt,(((h.bl.setCell (gB _) _).setCell (gB _) _).setCell (gB _) _).setCell (gB _) _⟩
 .rcases at1 j x e2 with⟨_,q⟩ | ⟨rfl,rfl⟩
  .obtain⟨L',q1,q2⟩:=h.nw j r' x e1 q;exact⟨L',q1,q2.grown hg q1⟩
  .rw[hc]at e1;cases e1;exact⟨L,hL,hd.grown hg hL⟩
 .rcases at1 j x e with⟨hj,q⟩ | ⟨rfl,rfl⟩
  .obtain⟨a0,a1,a2,a3⟩:=h.ca j x q;have o:∀i,i<4->(qLC w w0.heap.size (k*4) d).cell? ⟨w0.heap.size,j*4+i,none⟩=w.cell? ⟨w0.heap.size,j*4+i,none⟩:=fun i hi=>qGi w _ _ d _ (fun i' hi' e=>by have:=jA Addr.off e;simp at this;omega)
   exact⟨(o 0 (by omega)).trans a0,(o 1 (by omega)).trans a1,(o 2 (by omega)).trans a2,(o 3 (by omega)).trans a3⟩
  .exact qNP w _ _ x (fun i hi=>h.rm.1 _ (by omega))
 .obtain⟨v,e⟩:=h.rm.1 j hj
  have s1:∀(W:World) (p:Addr) (u:Value) (q:Addr),(∃v,W.cell? q=some v)->∃v,(W.setCell p u).cell? q=some v:=fun W p u q ⟨v,e⟩=>by
   by_cases hp:q=p
   .subst hp;exact⟨u,by simp[go_sem,e]⟩
   .exact⟨v,by rw[gF (h:=fun e=>hp e.symm)];exact e⟩
  exact s1 _ _ _ _ (s1 _ _ _ _ (s1 _ _ _ _ (s1 _ _ _ _ ⟨v,e⟩)))
 .unfold qLC;simp only[jE];exact h.rm.2 j
theorem qAv(a:Option Addr)(n cap:Nat)(rs:List qD2)(w:World)(hn:n<=1048576)(hle:∀(k:Nat) c,rs[k]?=some c->qH2 1048576 c)(h:qZ9 w a n rs):
  CP 43 #[.slice a n cap] w fun e w'=>e=.returned (.slice (some ⟨w.heap.size,0,none⟩) n n)/\∃ds,QL3 w w' n rs ds n:=by
 obtain⟨i0,hi,hz0,hz1,hz2⟩:=jT Tryz.infoRp;obtain⟨wm,hmk,hownm,hgrm⟩:=run_make_full (P:=prog) (w:=w) w.heap.size 31 115 i0 (.agg #[iv 0,iv 0,.slice none 0 0,.slice none 0 0]) 4 underlying31 hi hz0 hz1 .i64 .i64 n (by rw[hz2];omega) (by unfold maxLen;omega) (gB _);have H:=hJJ h;have HLE:=hJJ hle;clear h hle
 have HM:Hid (QL3 w wm n rs [] 0):=by
  refine⟨rfl,fun j c d _ e=>by simp at e,fun j d e=>by simp at e,⟨fun j hj=>?_,fun j=>hownm.frozenAt j⟩,(hownm.lt _ rfl).2,(gC _ _).grown hgrm (gB _) (fun k e=>by cases e)⟩;have hl:=hownm.1;exact⟨_,(hownm.cellAt j (by omega)).trans (gA (by omega))⟩
 clear hownm hgrm;have hn':(n:Int)<=1048576:=by omega
 go_enter func43,ntmps43;go_wp2;go_loopw [4] (fun i wr=>∃(k:Nat) (ds:List qD2),k<=n/\i=iv (k:Int)/\Hid (QL3 w wr n rs ds k)) (fun i _=>n-(intOf i).toNat)
 case atStart=>exact⟨0,[],gH _,rfl,HM⟩
 case round =>
  obtain⟨k,ds,hk,rfl,HK⟩:=hrel;by_cases hlt:k<n
  .have hlt':(k:Int)<(n:Int):=by omega
   obtain⟨b,off,c,rfl,hs,hr,hci⟩:=H.out.at hlt
   have HS:=hJJ hs;have hb:b<wr.heap.size:=gD hr.lt HK.out.bl.size;have HCI:Hid (qE7 wr c):=hci.below HK.out.bl;obtain⟨c0,c1,c2,c3⟩:=hr.below HK.out.bl;have hx:=HLE.out k c hs;clear hs hr hci;go_wp2_with fail
   refine (qCV c _ hx HCI.out).mono ?_;rintro e w1 ⟨d,L,rfl,hL,hdn,hb1⟩;have K1:=HK.out.below hb1;have K2:Hid (QL3 w (qLC w1 w.heap.size (k*4) d) n rs (ds++[d]) (k+1)):=K1.put hlt HS.out (by have:=HK.out.lt;omega) hdn;have hl1:=K1.lt;obtain⟨u0,e0⟩:=K1.rm.1 (k*4) (by omega);obtain⟨u1,e1⟩:=K1.rm.1 (k*4+1) (by omega);obtain⟨u2,e2⟩:=K1.rm.1 (k*4+2) (by omega);obtain⟨u3,e3⟩:=K1.rm.1 (k*4+3) (by omega);have f0:=K1.rm.2 (k*4);have f1:=K1.rm.2 (k*4+1);have f2:=K1.rm.2 (k*4+2);have f3:=K1.rm.2 (k*4+3);clear K1 hdn hb1 c0 c1 c2 c3 HK hL;go_wp2_with fail
   exact⟨⟨k+1,ds++[d],by omega,by go_num,K2⟩,by simp[intOf];omega⟩
  .have hkn:k=n:=by omega
   subst hkn;go_wp2_with fail
   go_ret;exact⟨rfl,ds,HK.out⟩
structure qAk (r d:qD2):Prop where
 i:d.i=r.i
 u:d.u=r.u
 sn:d.sn=r.sn
 ln:d.ln=r.ln
 sc:d.sc=r.sn
 lc:d.lc=r.ln
 ss:d.ss=r.ss
 ls:d.ls=r.ls
structure qX3 (rs ds:List qD2):Prop where
 ln:ds.length=rs.length
 sm:∀(j:Nat) r d,rs[j]?=some r->ds[j]?=some d->qAk r d
theorem qX3.get{rs ds:List qD2}(h:qX3 rs ds){j:Nat}{d:qD2}(e:ds[j]?=some d):∃r,rs[j]?=some r/\qAk r d:=by
 have hj:j<rs.length:=by rw[<- h.ln];exact (gY.1 e).1
 exact⟨_,gA hj,h.sm j _ d (gA hj) e⟩
theorem qX3.le{rs ds:List qD2}(h:qX3 rs ds)(hle:∀(k:Nat) c,rs[k]?=some c->qH2 1048576 c):∀(k:Nat) c,ds[k]?=some c->qH2 1048576 c:=fun k d e=>by
 obtain⟨r,e1,q⟩:=h.get e;exact⟨by rw[q.sn];exact (hle k r e1).said,by rw[q.ln];exact (hle k r e1).locks⟩
theorem QR8(a b:Option Addr)(n ca cb:Nat)(cs ds es:List qD2)(w:World)(hn:n<=1048576)(hle:∀(k:Nat) c,ds[k]?=some c->qH2 1048576 c)(hs1:qX3 cs ds)(hs2:qX3 cs es)(h:qZ9 w a n ds)(h':qZ9 w b n es):
  CP 51 #[.slice a n ca,.slice b n cb] w fun e w'=>e=.returned (.bool true)/\Below w.heap.size w w':=by
 have HA:=hJJ h;have HB:=hJJ h';have HLE:=hJJ hle
 have HSM:Hid (∀(j:Nat) d e,ds[j]?=some d->es[j]?=some e->d.i=e.i/\d.u=e.u/\d.sn=e.sn/\d.ln=e.ln/\d.ss=e.ss/\d.ls=e.ls):=fun j d e q1 q2=>by
  obtain⟨r,e1,s1⟩:=hs1.get q1;have s2:=hs2.sm j r e e1 q2;exact⟨s1.i.trans s2.i.symm,s1.u.trans s2.u.symm,s1.sn.trans s2.sn.symm,s1.ln.trans s2.ln.symm,s1.ss.trans s2.ss.symm,s1.ls.trans s2.ls.symm⟩
 clear h h' hle hs1 hs2;have hn':(n:Int)<=1048576:=by omega
 go_enter func51,ntmps51;go_wp2;go_loopw [5] (fun i wr=>∃k:Nat,k<=n/\i=iv (k:Int)/\Below w.heap.size w wr) (fun i _=>n-(intOf i).toNat)
 case atStart=>exact⟨0,gH _,rfl,gC _ _⟩
 case round =>
  obtain⟨k,hk,rfl,hnx⟩:=hrel;by_cases hlt:k<n
  .obtain⟨b1,o1,s,e1,hs1,hr1,hi1⟩:=HA.out.at hlt
   obtain⟨b2,o2,s2,e2,hs2,hr2,hi2⟩:=HB.out.at hlt
   subst e1 e2;have hb1:b1<wr.heap.size:=gD hr1.lt hnx.size;have hb2:b2<wr.heap.size:=gD hr2.lt hnx.size;obtain⟨h0,h1,h2,h3⟩:=hr1.below hnx;obtain⟨g0,g1,g2,g3⟩:=hr2.below hnx
   have HEQ:Hid (∀W,Below wr.heap.size wr W->CP 99 #[.agg #[iv s.i,iv s.u,.slice s.sa s.sn s.sc,.slice s.la s.ln s.lc],.agg #[iv s2.i,iv s2.u,.slice s2.sa s2.sn s2.sc,.slice s2.la s2.ln s2.lc]] W fun e w'=>e=.returned (.bool true)/\Below W.heap.size W w'):=by
    obtain⟨p1,p2,p3,p4,p5,p6⟩:=HSM.out k s s2 hs1 hs2;have q1:=HLE.out k s hs1;intro W hW;have i1:=(hi1.below hnx).below hW;have i2:=(hi2.below hnx).below hW;have a2:=i2.said;have b2:=i2.locks;rw[<- p3,<- p5]at a2;rw[<- p4,<- p6]at b2;rw[<- p1,<- p2,<- p3,<- p4];exact QT8 s.i s.u s.sa s2.sa s.sn s.sc s2.sc s.ss s.la s2.la s.ln s.lc s2.lc s.ls W q1.said q1.locks i1.said a2 i1.locks b2
   have hlt':(k:Int)<(n:Int):=by omega
   clear hr1 hr2 hi1 hi2 hs1 hs2;go_wp2
   go_region_held3 (fun w'=>(∀b o,b<wr.heap.size->w'.cell? ⟨b,o,none⟩=wr.cell? ⟨b,o,none⟩)/\Below wr.heap.size wr w') (first | exact hS | exact qA8 _)
    (first | (go_at_call 99;refine (HEQ.out _ (by first | exact hHeld.2 | exact (gC _ _).drew)).mono ?_;rintro e w' ⟨rfl,hbz⟩;have hS:=qA0 (by assumption) hbz))
   go_wp2;exact⟨⟨k+1,by omega,by go_num,hnx.trans (hS.2.mono hnx.size)⟩,by simp[intOf];omega⟩
  .have hkn:k=n:=by omega
   subst hkn;go_wp2;go_ret;exact⟨rfl,hnx⟩
theorem qBw(E:qH3)(b B:Nat)(a:Option Addr)(m cap:Nat)(cs:List qA5)(sa:Option Addr)(sc:Nat)(said:List StI)(la:Option Addr)(lc:Nat)(ls:List LkI)(x:StI)(w:World)(hS:qG8 w b B (.slice a m cap) sa sc said la lc ls)(hEC:qN0 E cs)(hSt:qT7 w B a m cs)(hm:0<m)(hm8:m<=8)(hRp:RpS E said ls)(hst:qB5 x=0)(hsx:qC4 said x=true):
  CP 244 #[.pointer (some ⟨b,0,none⟩),.agg #[iv x.k,iv x.e,iv x.f,iv x.s,iv x.n]] w fun d w'=>d=.returned (iv 0)/\qG8 w' b B (.slice a m cap) sa sc said la lc ls/\Below B w w':=by
 obtain⟨⟨hk1,hk2⟩,⟨he1,he2⟩,⟨hn1,hn2⟩,_⟩:=qH1 hst;have hlen:=hRp.len;have hrows:=hS.rows;have hbl:=hS.lt;have HST:=hJJ hSt;have HEC:=hJJ hEC;have HRP:=hJJ hRp;have hml:cs.length=m:=(hSt w (gC _ _)).1.1
 have HNX:Hid (∀x∈said,x.k=4->0<=x.n/\x.n<(m:Int)):=fun y hy hk=>by
  have:=hRp.nx y hy hk;rw[hEC.es,kD,hml]at this;exact this
 obtain⟨V,hV⟩:∃V,V=qE1 w b x:=⟨_,rfl⟩;have HV:=hJJ hV;have E0:qN1 w.heap.size b x 0 V:=by rw[hV];exact qN1.new w b x
 have B0:Below w.heap.size w V:=by rw[hV];exact qE1.below w b x
 have HS0:Hid (qG8 V b B (.slice a m cap) sa sc said la lc ls):=hS.below B0;have HB0:=hJJ B0;have HE0:=hJJ E0;have hBb:=hS.hb;have HF:Hid (∀W:World,CP 65 #[.agg #[iv x.k,iv x.e,iv x.f,iv x.s,iv x.n]] W fun e w'=>e=.returned (iv 0)/\Below W.heap.size W w'):=fun W=>by rw[<- hst];exact qB8 x W
 have HCN:Hid (∀W:World,qG8 W b B (.slice a m cap) sa sc said la lc ls->CP 115 #[.slice sa said.length sc,.agg #[iv x.k,iv x.e,iv x.f,iv x.s,iv x.n]] W fun e w'=>e=.returned (.bool true)/\Below W.heap.size W w'):=fun W q=>by rw[<- hsx];exact qE8 sa said.length sc said x W (by omega) q.stIn
 have HSE:=hJJ hS;have hmf:∀(fn:Fn) (first cap:Array Value) (w:World),(Instr.makeFunc fn first cap).run prog w=.ok (.func fn first cap) w:=fun _ _ _ _=>rfl
 have HRW:=hJJ hrows;clear hS hEC hSt hRp B0 hV E0 hst hsx hrows hml;go_enter func244,ntmps244;go_wp2_with fail
 rw[show ((w.alloc (.cells #[.pointer (some ⟨b,0,none⟩)] 299)).alloc (.cells #[iv x.k,iv x.e,iv x.f,iv x.s,iv x.n] 50)).alloc (.cells #[iv 0] 2)=V from HV.out.symm];refine (HF.out _).mono ?_;rintro d w1 ⟨rfl,hb1⟩;have E1:=HE0.out.below hb1;have e1:=E1.c;have f1:=E1.f;have l1:=E1.lt;have E2:=E1.put 0
 have S2:qG8 (w1.setCell ⟨w.heap.size+1+1,0,none⟩ (iv 0)) b B (.slice a m cap) sa sc said la lc ls:=(HS0.out.below hb1).other (fun g hg=>by
  show g≠w.heap.size+1+1
  rcases hg with q | q | q
  .have:=HRW.out.1 g q;omega
  .have:=HRW.out.2 g q;omega
  .omega) _
 have B2:Hid (Below B w (w1.setCell ⟨w.heap.size+1+1,0,none⟩ (iv 0))):=((HB0.out.trans (hb1.mono HB0.out.size)).mono (by omega)).setCell (by show B<=w.heap.size+1+1;omega) _;go_upto_region 2 with fail
 generalize w1.setCell ⟨w.heap.size+1+1,0,none⟩ (iv 0)=w2 at *
 clear e1 f1 l1 E1 hb1;refine gL (S:=fun w'=>qN1 w.heap.size b x 0 w'/\qG8 w' b B (.slice a m cap) sa sc said la lc ls) (by kernel_rfl) (⟨E2.below (gC _ _).drew,S2.below (gC _ _).drew⟩) (fun hHeld=>?_);refine Zk.go [0,1,2,3,4,5,6,7] ?_
 iterate 8
  refine Zk.st (v:=?_) rfl ?_ ?_;rotate_left 1
  .intro w hSw;have p0:=hSw.1.s;have p1:=hSw.1.x0;have p2:=hSw.1.x1;have p3:=hSw.1.x2;have p4:=hSw.1.x3;have p5:=hSw.1.x4;have p6:=hSw.1.c;have p7:=hSw.2.spk.c1;clear hSw;go_simp;try (with_reducible rfl)
  try simp only[Act.put,zA,zB,zC,zD,zE,zF]
 refine Zk.fin ?_;refine Zk.rd (i:=8) rfl (fun K hK=>?_);go_simp;refine (HCN.out _ hHeld.2).mono ?_;rintro d w3 ⟨rfl,hb3⟩;have hS:qN1 w.heap.size b x 0 w3/\qG8 w3 b B (.slice a m cap) sa sc said la lc ls:=⟨hHeld.1.below hb3,hHeld.2.below hb3⟩;have hB3:Below B w w3:=B2.out.drew.trans (hb3.mono (by have:=B2.out.size;show B<=w2.heap.size;omega));refine hK.out _ _ hS (fun hHeld=>?_);clear hK K;try simp only[Act.put,zA,zB,zC,zD,zE,zF]
 refine Zk.go [9] ?_;refine Zk.st (v:=?_) rfl ?_ ?_;rotate_left 1
 .intro w hSw;have p0:=hSw.1.s;have p1:=hSw.1.x0;have p2:=hSw.1.x1;have p3:=hSw.1.x2;have p4:=hSw.1.x3;have p5:=hSw.1.x4;have p6:=hSw.1.c;have p7:=hSw.2.spk.c1;clear hSw;go_simp;try (with_reducible rfl)
 try simp only[Act.put,zA,zB,zC,zD,zE,zF]
 refine Zk.fin ?_;refine gZ (by kernel_rfl) ?_ _;have p6:=hS.1.c;have p6f:=hS.1.f;have p6l:=hS.1.lt
 have S4:qG8 (w3.setCell ⟨w.heap.size+1+1,0,none⟩ (iv 0)) b B (.slice a m cap) sa sc said la lc ls:=hS.2.other (fun g hg=>by
  show g≠w.heap.size+1+1
  rcases hg with q | q | q
  .have:=HRW.out.1 g q;omega
  .have:=HRW.out.2 g q;omega
  .omega) _
 have B4:=hB3.setCell (p:=⟨w.heap.size+1+1,0,none⟩) (by show B<=w.heap.size+1+1;omega) (iv 0);have H4:=qB4 S4;clear hHeld hS hB3 hb3 E2 S2 B2 S4;go_wp2_with fail
 exact gQ (v:=iv 0) (by simp[results,results244,go_sem,p6,p6l]) rfl ⟨rfl,H4.out,B4⟩
def qPK(E:qH3)(w:World)(b B:Nat)(cv:Value)(sa:Option Addr)(sc:Nat)(said:List StI)(la:Option Addr)(lc:Nat)(ls:List LkI)(x:StI)(d:Ending)(w':World):Prop :=
 d=.returned (iv (qF3 E said ls x))/\Below B w w'/\((qF3 E said ls x≠0\/qC4 said x=true)->qG8 w' b B cv sa sc said la lc ls)/\(qF3 E said ls x=0->qC4 said x=false->∃sa' sc' la' lc',qG8 w' b B cv sa' sc' (said++[x]) la' lc' (qE4 E said ls x))
theorem QK2{E:qH3}{w:World}{b B:Nat}{cv:Value}{sa:Option Addr}{sc:Nat}{said:List StI}{la:Option Addr}{lc:Nat}{ls:List LkI}{x:StI}{k:Int}{L:List LkI}{d:Ending}{w':World}(hst:qB5 x=0)(hsx:qC4 said x=false)(hk:qF6 E said ls x=k)(hL:k=0->qE4 E said ls x=L)(h:qLE w b B cv sa sc said la lc ls x k L d w'):qPK E w b B cv sa sc said la lc ls x d w':=by
 have e:qF3 E said ls x=k:=by
  unfold qF3;rw[gK hst,hsx,gI (by decide),hk]
 obtain⟨h1,h2,h3,h4⟩:=h;refine⟨by rw[e];exact h1,h4,fun q=>?_,fun q _=>?_⟩
 .rw[e,hsx]at q;exact h2 (q.elim id (fun q=>by cases q))
 .rw[e]at q;rw[hL q];exact h3 q
theorem qIq(E:qH3)(b B:Nat)(a:Option Addr)(m cap:Nat)(cs:List qA5)(sa:Option Addr)(sc:Nat)(said:List StI)(la:Option Addr)(lc:Nat)(ls:List LkI)(x:StI)(w:World)(hS:qG8 w b B (.slice a m cap) sa sc said la lc ls)(hEC:qN0 E cs)(hSt:qT7 w B a m cs)(hm:0<m)(hm8:m<=8)(hRp:RpS E said ls):
  CP 244 #[.pointer (some ⟨b,0,none⟩),.agg #[iv x.k,iv x.e,iv x.f,iv x.s,iv x.n]] w fun d w'=>qPK E w b B (.slice a m cap) sa sc said la lc ls x d w':=by
 have hlen:=hRp.len;have hBw:B<=w.heap.size:=jF hS.hb (Nat.le_of_lt hS.lt);by_cases hst:qB5 x=0
 .cases hsx:qC4 said x
  .have hml:cs.length=m:=(hSt w (gC _ _)).1.1;have hel:E.es.length=m:=by rw[hEC.es,kD,hml]
   obtain⟨⟨hk1,hk2⟩,_⟩:=qH1 hst;rcases qEk hRp (by omega) x.e with hkn | ⟨hp0,hpl⟩
   .have hneg:qB7 E said x.e<0:=by omega
    refine (qBx E b B a m cap cs sa sc said la lc ls x w hS hEC hSt hm hm8 hRp hst hsx hneg []).mono fun d w' h=>QK2 hst hsx ?_ (fun q=>by cases q) h
    unfold qF6;rw[gK hneg]
   .obtain⟨c,hpc⟩:∃c,cs[(qB7 E said x.e).toNat]?=some c:=⟨_,gA (by omega)⟩;have hneg:¬ qB7 E said x.e<0:=by omega
    by_cases h40:40<=said.length
    .refine (qBz E b B a m cap cs sa sc said la lc ls x w hS hEC hSt hm hm8 hRp hst hsx c hp0 hpc h40 []).mono fun d w' h=>QK2 hst hsx ?_ (fun q=>by cases q) h
     unfold qF6;rw[gI hneg,gK h40]
    .by_cases k1:x.k=1
     .obtain⟨_,gs,hg,hal,hcl⟩:=hEC.cf _ c hpc
      have hnk:qF6 E said ls x=qH5 E said ls (qB7 E said x.e).toNat x:=by
       unfold qF6;rw[gI hneg,gI h40,gK k1]
      have hnl:qE4 E said ls x=qL4 ls c.cs x.e x.f x.s:=by
       unfold qE4;rw[gK k1,hcl]
      cases hse:(qV1 said x.e || qC4 said (qT6 x))
      .cases hw:alW (qA3 c.fs) gs x.f x.s
       .refine (QU1 E b B a m cap cs sa sc said la lc ls x w hS hEC hSt hm hm8 hRp hst hsx c hp0 hpc (by omega) k1 gs hg hse hw []).mono fun d w' h=>QK2 hst hsx ?_ (fun q=>by cases q) h
        rw[hnk];unfold qH5;rw[gI (by rw[hse];decide),hal,hw,gK rfl]
       .refine (qAX E b B a m cap cs sa sc said la lc ls x w hS hEC hSt hm hm8 hRp hst hsx c hp0 hpc (by omega) k1 gs hg hse hw _ rfl _ rfl).mono fun d w' h=>QK2 hst hsx ?_ (fun q=>hnl) h
        rw[hnk];unfold qH5;rw[gI (by rw[hse];decide),hal,hw,gI (by decide),hcl]
      .refine (qDh E b B a m cap cs sa sc said la lc ls x w hS hEC hSt hm hm8 hRp hst hsx c hp0 hpc (by omega) k1 gs hg hse []).mono fun d w' h=>QK2 hst hsx ?_ (fun q=>by cases q) h
       rw[hnk];unfold qH5;rw[gK hse]
     .have hnl:qE4 E said ls x=ls:=by
       unfold qE4;rw[gI k1]
      by_cases k2:x.k=2
      .refine (QU0 E b B a m cap cs sa sc said la lc ls x w hS hEC hSt hm hm8 hRp hst hsx c hp0 hpc (by omega) k2).mono fun d w' h=>QK2 hst hsx ?_ (fun _=>hnl) h
       unfold qF6;rw[gI hneg,gI h40,gI k1,gK k2]
      .have hnk:qF6 E said ls x=qC7 E said x:=by
        unfold qF6;rw[gI hneg,gI h40,gI k1,gI k2]
       by_cases k3:x.k=3
       .exact (qBy E b B a m cap cs sa sc said la lc ls x w hS hEC hSt hm hm8 hRp hst hsx c hp0 hpc (by omega) k3 _ rfl).mono fun d w' h=>QK2 hst hsx hnk (fun _=>hnl) h
       .exact (qBv E b B a m cap cs sa sc said la lc ls x w hS hEC hSt hm hm8 hRp hst hsx c hp0 hpc (by omega) (by omega) _ rfl).mono fun d w' h=>QK2 hst hsx hnk (fun _=>hnl) h
  .refine (qBw E b B a m cap cs sa sc said la lc ls x w hS hEC hSt hm hm8 hRp hst hsx).mono fun d w' h=>?_
   have e:qF3 E said ls x=0:=by
    unfold qF3;rw[gK hst,gK hsx]
   exact⟨by rw[e];exact h.1,h.2.2,fun _=>h.2.1,fun _ q=>by rw[hsx]at q;cases q⟩
 .refine (qAY b _ _ sa said.length sc said x w hS.spk hS.stIn (by omega) hst).mono fun d w' h=>?_
  have e:qF3 E said ls x=qB5 x:=by
   unfold qF3;rw[gI hst]
  exact⟨by rw[e];exact h.1,h.2.mono hBw,fun _=>hS.below h.2,fun q _=>absurd (e ▸ q) hst⟩
theorem qEv(W:World)(o:Obj):(W.alloc o).heap[W.heap.size]?=some o:=by
 show (W.heap.push o)[W.heap.size]?=_
 simp
def qOq(a:Option Addr)(m cap:Nat)(xs:List StI)(n:Nat)(o:Option (List LkI))(w:World)(d:Ending)(w':World):Prop :=
 Below w.heap.size w w'/\(∀ls,o=some ls->∃(sa:Option Addr) (sc:Nat) (la:Option Addr) (lc:Nat),d=.returned (.tuple #[.agg #[.slice a m cap,.slice sa n sc,.slice la ls.length lc],.bool true])/\qF0 w' (w.heap.size+1) (.slice sa n sc) xs/\qB2 w' (w.heap.size+1) (.slice la ls.length lc) ls)/\(o=none->∃(sa:Option Addr) (sn sc:Nat) (la:Option Addr) (ln lc:Nat),d=.returned (.tuple #[.agg #[.slice a m cap,.slice sa sn sc,.slice la ln lc],.bool false]))
structure EUL (E:qH3) (w:World) (b B:Nat) (cv:Value) (xs:List StI) (k:Nat) (ls:List LkI) (wr:World):Prop where
 pl:qF5 E xs k=some ls
 sp:∃sa sc la lc,qG8 wr b B cv sa sc (xs.take k) la lc ls
 bl:Below B w wr
def UpR(E:qH3)(w:World)(b B:Nat)(cv:Value)(xs:List StI)(n:Nat)(d:Ending)(w':World):Prop :=
 d=.returned (.tuple #[])/\∃(k:Nat) (ls:List LkI),k<=n/\EUL E w b B cv xs k ls w'/\(k=n\/qF5 E xs (k+1)=none)
theorem UpR.mk{E:qH3}{w:World}{b B:Nat}{cv:Value}{xs:List StI}{n:Nat}{w':World}{k:Nat}{ls:List LkI}(hk:k<=n)(h:EUL E w b B cv xs k ls w')(he:k=n\/qF5 E xs (k+1)=none):UpR E w b B cv xs n (.returned (.tuple #[])) w':=⟨rfl,k,ls,hk,h,he⟩
theorem QL8{E:qH3}{xs:List StI}{k:Nat}{ls:List LkI}{x:StI}(h:qF5 E xs k=some ls)(hx:xs[k]?=some x)(q:qF3 E (xs.take k) ls x≠0\/qC4 (xs.take k) x=true):qF5 E xs (k+1)=none:=by
 rw[QO7 h hx];rcases q with q | q
 .split
  .rfl
  .first | rfl | rw[gI q]
 .rw[gK q]
theorem qBM{E:qH3}{xs:List StI}{k:Nat}{ls:List LkI}{x:StI}(h:qF5 E xs k=some ls)(hx:xs[k]?=some x)(q:qF3 E (xs.take k) ls x=0)(q2:qC4 (xs.take k) x=false):qF5 E xs (k+1)=some (qE4 E (xs.take k) ls x):=by
 rw[QO7 h hx,q2,gI (by decide),gK q]
theorem qAZ(E:qH3)(b B:Nat)(a:Option Addr)(m cap:Nat)(cs:List qA5)(s0:Option Addr)(sc0:Nat)(l0:Option Addr)(lc0:Nat)(sa:Option Addr)(n sc:Nat)(xs:List StI)(w:World)(hS:qG8 w b B (.slice a m cap) s0 sc0 [] l0 lc0 [])(hEC:qN0 E cs)(hSt:qT7 w B a m cs)(hm:0<m)(hm8:m<=8)(h:∀W,Below B w W->qL2 W sa n xs)(hn:n<=1048576):
  CP 223 #[.pointer (some ⟨b,0,none⟩),.slice sa n sc] w fun d w'=>UpR E w b B (.slice a m cap) xs n d w':=by
 have HEC:=hJJ hEC;have HST:=hJJ hSt;have HX:=hJJ h;have hn':(n:Int)<=1048576:=by omega
 have hxl:xs.length=n:=(h w (gC _ _)).1;have HXL:=hJJ hxl;have L0:Hid (EUL E w b B (.slice a m cap) xs 0 [] w):=⟨rfl,⟨s0,sc0,l0,lc0,hS⟩,gC _ _⟩;clear hEC hSt h hxl hS;go_enter func223,ntmps223;go_wp2_with fail
 go_loopw [9] (fun i wr=>∃(k:Nat) (ls:List LkI),k<=n/\i=iv (k:Int)/\Hid (EUL E w b B (.slice a m cap) xs k ls wr)) (fun i _=>n-(intOf i).toNat)
 case atStart=>exact⟨0,[],gH _,rfl,L0⟩
 case round =>
  clear L0;obtain⟨k,ls,hk,rfl,LK⟩:=hrel;obtain⟨ta,tc,la,lc,hsp⟩:=LK.out.sp;have SP:=hJJ hsp;have hBw:B<=wr.heap.size:=Nat.le_of_lt (Nat.lt_of_le_of_lt hsp.hb hsp.lt);clear hsp;by_cases hlt:k<n
  .have hlt':(k:Int)<(n:Int):=by omega
   obtain⟨bx,off,x,ea,hx,hat,hbl⟩:=(HX.out wr LK.out.bl).at hlt
   subst ea;have HXK:=hJJ hx;clear hx;obtain⟨e,he⟩:∃e,qF3 E (xs.take k) ls x=e:=⟨_,rfl⟩;have HE:=hJJ he;have hRp:RpS E (xs.take k) ls:=QO6 k ls (by have:=HXL.out;omega) LK.out.pl;obtain⟨Y,hY⟩:∃Y,Y=wr.alloc (.cells #[iv x.k,iv x.e,iv x.f,iv x.s,iv x.n] 50):=⟨_,rfl⟩;have AY:Below wr.heap.size wr Y:=by rw[hY];exact zN
   have BY:Below B w Y:=LK.out.bl.trans (AY.mono hBw);have HB:=hJJ BY;have HPL:=hJJ LK.out.pl;have SY:Hid (qG8 Y b B (.slice a m cap) ta tc (xs.take k) la lc ls):=SP.out.below AY;have HYK:Hid ((xs.take k).length=k):=by show _=_;rw[kI];have:=HXL.out;omega
   have HEN:Hid (CP 244 #[.pointer (some ⟨b,0,none⟩),.agg #[iv x.k,iv x.e,iv x.f,iv x.s,iv x.n]] Y fun d w'=>d=.returned (iv e)/\Below B Y w'/\((e≠0\/qC4 (xs.take k) x=true)->qG8 w' b B (.slice a m cap) ta tc (xs.take k) la lc ls)/\(e=0->qC4 (xs.take k) x=false->∃sa' sc' la' lc',qG8 w' b B (.slice a m cap) sa' sc' (xs.take k++[x]) la' lc' (qE4 E (xs.take k) ls x))):=by
    have q:=qIq E b B a m cap cs ta tc (xs.take k) la lc ls x Y SY.out HEC.out (fun W hW=>HST.out W (BY.trans hW)) hm hm8 hRp;unfold qPK at q;rw[he]at q;exact q
   obtain⟨h0,h1,h2,h3,h4⟩:=hat;clear LK SP hRp he BY AY;go_upto_region 3 with fail
   rw[<- hY];have y0:Y.cell? ⟨wr.heap.size,0,none⟩=some (iv x.k):=by rw[hY];simp[go_sem]
   have y1:Y.cell? ⟨wr.heap.size,1,none⟩=some (iv x.e):=by rw[hY];simp[go_sem]
   have y2:Y.cell? ⟨wr.heap.size,2,none⟩=some (iv x.f):=by rw[hY];simp[go_sem]
   have y3:Y.cell? ⟨wr.heap.size,3,none⟩=some (iv x.s):=by rw[hY];simp[go_sem]
   have y4:Y.cell? ⟨wr.heap.size,4,none⟩=some (iv x.n):=by rw[hY];simp[go_sem]
   have hyl:=zL _ _ y0
   have s1:Y.cell? ⟨b,1,none⟩=some (.slice ta k tc):=by
    have q:=SY.out.spk.c1;rw[HYK.out]at q;exact q
   have hsl:=SY.out.lt;clear hY h0 h1 h2 h3 h4 SY;go_wp2_with fail
   refine HEN.out.mono ?_;rintro d w2 ⟨rfl,hb2,hs1,hs2⟩;clear HEN y0 y1 y2 y3 y4 s1 hsl;have B2:Hid (Below B w w2):=HB.out.trans hb2;clear HB hb2;by_cases e0:e=0
   .subst e0;cases hsx:qC4 (xs.take k) x
    .obtain⟨sa',sc',la',lc',hS⟩:=hs2 rfl hsx;have hpm:=qBM HPL.out HXK.out HE.out hsx;have ht:xs.take (k+1)=xs.take k++[x]:=by rw[List.take_add_one,HXK.out];rfl
     have S3:Hid (EUL E w b B (.slice a m cap) xs (k+1) (qE4 E (xs.take k) ls x) w2):=⟨hpm,⟨sa',sc',la',lc',by rw[ht];exact hS⟩,B2.out⟩
     have s1:w2.cell? ⟨b,1,none⟩=some (.slice sa' (k+1) sc'):=by
      have q:=hS.spk.c1;rw[jD,HYK.out]at q;exact q
     have hsl:=hS.lt;have hne:(((k:Int)+1)==(k:Int))=false:=by simp;omega
     clear hs1 hs2 hS hpm ht hsx;go_wp2_with fail
     exact⟨⟨k+1,_,by omega,by go_num,S3⟩,by simp[intOf];omega⟩
    .have hS:=hs1 (.inr hsx);have hpn:qF5 E xs (k+1)=none:=QL8 HPL.out HXK.out (.inr hsx);have S3:Hid (EUL E w b B (.slice a m cap) xs k ls w2):=⟨HPL.out,⟨ta,tc,la,lc,hS⟩,B2.out⟩
     have s1:w2.cell? ⟨b,1,none⟩=some (.slice ta k tc):=by
      have q:=hS.spk.c1;rw[HYK.out]at q;exact q
     have hsl:=hS.lt;have HPN:=qB4 hpn;clear hs1 hs2 hS hpn hsx;go_wp2_with fail
     first | go_end0 | go_returns
     exact UpR.mk hk S3.out (.inr HPN.out)
   .have eb:(e != 0)=true:=by simp[e0]
    have hS:=hs1 (.inl e0);have hpn:qF5 E xs (k+1)=none:=QL8 HPL.out HXK.out (.inl (by rw[HE.out];exact e0));have S3:Hid (EUL E w b B (.slice a m cap) xs k ls w2):=⟨HPL.out,⟨ta,tc,la,lc,hS⟩,B2.out⟩;have HPN:=qB4 hpn;clear hs1 hs2 hpn hS;go_wp2_with fail
    first | go_end0 | go_returns
    exact UpR.mk hk S3.out (.inr HPN.out)
  .have hkn:k=n:=by omega
   have hlt':¬ ((k:Int)<(n:Int)):=by omega
   clear SP;go_wp2_with fail
   first | go_end0 | go_returns
   exact UpR.mk hk LK.out (.inl hkn)
theorem QE3(E:qH3)(a:Option Addr)(m cap:Nat)(cs:List qA5)(sa:Option Addr)(n sc:Nat)(xs:List StI)(w:World)(hEC:qN0 E cs)(hSt:qT7 w w.heap.size a m cs)(hm:0<m)(hm8:m<=8)(h:qL2 w sa n xs)(hn:n<=1048576):
  CP 192 #[.slice a m cap,.slice sa n sc] w fun d w'=>qOq a m cap xs n (qF5 E xs n) w d w':=by
 have hn':(n:Int)<=1048576:=by omega
 have HXL:=hJJ h.1;obtain⟨V,hV⟩:∃V,V=(w.alloc (.cells #[.slice none 0 0,.slice none 0 0,.slice none 0 0] 183)).alloc (.cells #[.slice a m cap,.slice none 0 0,.slice none 0 0] 183):=⟨_,rfl⟩;have A0:Below w.heap.size w V:=by rw[hV];exact (zN).alloc (by simp) _
 have S0:qG8 V (w.heap.size+1) (w.heap.size+1) (.slice a m cap) none 0 [] none 0 []:=by
  refine⟨?_,jB _ _ _ _,jB _ _ _ _,gB _⟩;rw[hV];have e:w.heap.size+1=(w.alloc (.cells #[.slice none 0 0,.slice none 0 0,.slice none 0 0] 183)).heap.size:=by simp
  have q:=qEv (w.alloc (.cells #[.slice none 0 0,.slice none 0 0,.slice none 0 0] 183)) (.cells #[.slice a m cap,.slice none 0 0,.slice none 0 0] 183);rw[<- e]at q;exact q
 have XB:Hid (qJ2 w.heap.size [.slice none 0 0,.slice none 0 0,.slice none 0 0] V):=by
  rw[hV];exact qJ2.below (qI5 w _ _) (by simp) (zN)
 have HUP:Hid (CP 223 #[.pointer (some ⟨w.heap.size+1,0,none⟩),.slice sa n sc] V fun d w'=>UpR E V (w.heap.size+1) (w.heap.size+1) (.slice a m cap) xs n d w'):=qAZ E (w.heap.size+1) (w.heap.size+1) a m cap cs none 0 none 0 sa n sc xs V S0 hEC (fun W hW=>hSt W (A0.trans (hW.mono (kF _)))) hm hm8 (fun W hW=>h.below (A0.trans (hW.mono (kF _)))) hn;have HA0:=qB4 A0;clear hEC hSt h A0 S0;go_enter func192,ntmps192;go_upto_region 2 with fail
 rw[<- hV];clear hV;go_wp2_with fail
 refine HUP.out.mono ?_;unfold UpR;rintro d w2 ⟨rfl,k,ls,hk,hEU,hend⟩;obtain⟨ta,tc,la,lc,hsp⟩:=hEU.sp;have B2:Hid (Below w.heap.size w w2):=HA0.out.trans (hEU.bl.mono (kF _));have X2:qJ2 w.heap.size [.slice none 0 0,.slice none 0 0,.slice none 0 0] w2:=⟨fun j v e=>(jO (w:=V) (w':=w2) (a:=⟨w.heap.size,j,none⟩) (hEU.bl.block _ (Nat.lt_succ_self _))).trans (XB.out.1 j v e),fun j=>(World.frozen?_of_block (w:=V) (w':=w2) (a:=⟨w.heap.size,j,none⟩) (hEU.bl.block _ (Nat.lt_succ_self _))).trans (XB.out.2 j)⟩;have HYK:Hid ((xs.take k).length=k):=by show _=_;rw[kI];have:=HXL.out;omega
 have SP:=qB4 hsp;have HPL:=qB4 hEU.pl;have HND:=qB4 hend;clear hEU hend HUP XB HA0;have s0:=hsp.spk.c0
 have s1:w2.cell? ⟨w.heap.size+1,1,none⟩=some (.slice ta k tc):=by
  have q:=hsp.spk.c1;rw[HYK.out]at q;exact q
 have s2:=hsp.spk.c2;have hsl:=hsp.lt;have hwl:w.heap.size<w2.heap.size:=Nat.lt_trans (Nat.lt_succ_self _) hsl;have u0:=X2.1 0 _ rfl;have u1:=X2.1 1 _ rfl;have u2:=X2.1 2 _ rfl;have f0:=X2.2 0;have f1:=X2.2 1;have f2:=X2.2 2
 have O1:Hid (qF0 w2 (w.heap.size+1) (.slice ta k tc) (xs.take k)):=by
  have q:=SP.out.ow;rw[HYK.out]at q;exact q
 obtain⟨t,ht⟩:∃t,((k:Int)==(n:Int))=t:=⟨_,rfl⟩;have HT:=qB4 ht;clear hsp X2;go_upto_region 3 with fail
 go_region
 clear ht;go_wp2_with fail
 refine gQ (v:=.tuple #[.agg #[.slice a m cap,.slice ta k tc,.slice la ls.length lc],.bool t]) (by simp[results,results192,go_sem,u0,u1,u2,hwl]) rfl ?_;refine⟨(((B2.out.setCell (gB _) _).setCell (gB _) _).setCell (gB _) _).drew,fun q hq=>?_,fun hq=>?_⟩
 .have hkn:k=n:=HND.out.elim id (fun e=>by
   by_cases c:k=n
   .exact c
   .rw[QC3 e (by omega)]at hq;cases hq)
  subst hkn;rw[HPL.out]at hq;cases hq;have htk:xs.take k=xs:=by rw[<- HXL.out];exact kQ
  have ht:t=true:=by rw[<- HT.out];simp
  subst ht;refine⟨ta,tc,la,lc,rfl,?_,?_⟩
  .have q:=qA4 (X':=(((w2.setCell ⟨w.heap.size,0,none⟩ (.slice a m cap)).setCell ⟨w.heap.size,1,none⟩ (.slice ta k tc)).setCell ⟨w.heap.size,2,none⟩ (.slice la ls.length lc)).drew) O1.out (fun g e=>by
    obtain⟨cur,hc,hg⟩:=qE0 O1.out e;show ((((w2.setCell _ _).setCell _ _).setCell _ _)).heap[g]?=_
    rw[zS (by show g≠w.heap.size;omega),zS (by show g≠w.heap.size;omega),zS (by show g≠w.heap.size;omega)])
   rw[htk]at q;exact q
  .exact qA4 SP.out.lk (fun g e=>by
    obtain⟨cur,hc,hg⟩:=qD8 SP.out.lk e;show ((((w2.setCell _ _).setCell _ _).setCell _ _)).heap[g]?=_
    rw[zS (by show g≠w.heap.size;omega),zS (by show g≠w.heap.size;omega),zS (by show g≠w.heap.size;omega)])
 .have hkn:¬ k=n:=fun e=>by rw[<- e,HPL.out]at hq;cases hq
  have ht:t=false:=by rw[<- HT.out];simp;omega
  subst ht;exact⟨_,_,_,_,_,_,rfl⟩
theorem qH9(a:Option Addr)(n cap:Nat)(cs:List qA5)(w:World)(hn:n<=1048576)(hle:qG4 1048576 cs)(h:qA7 w a n cs):
  CP 87 #[.slice a n cap] w fun e w'=>e=.returned (iv (qB1 cs))/\Below w.heap.size w w':=by
 have H:=hJJ h;have HLE:=hJJ hle;have HZ:=hJJ h.len;have hn':(n:Int)<=1048576:=by omega
 clear h hle;by_cases h1:n<1
 .have HC:Hid (qB1 cs=2):=by show qB1 cs=2;unfold qB1;rw[gK (.inl (by rw[HZ.out];exact h1))]
  have hn0:n=0:=by omega
  subst hn0;rw[HC.out];go_enter func87,ntmps87;go_wp2;go_ret;exact⟨rfl,gC _ _⟩
 .by_cases h8:8<n
  .have HC:Hid (qB1 cs=2):=by show qB1 cs=2;unfold qB1;rw[gK (.inr (by rw[HZ.out];exact h8))]
   have h1':¬ ((n:Int)<1):=by omega
   have h8':(8:Int)<(n:Int):=by omega
   rw[HC.out];go_enter func87,ntmps87;go_wp2;go_ret;exact⟨rfl,gC _ _⟩
  .have h1':¬ ((n:Int)<1):=by omega
   have h8':¬ ((8:Int)<(n:Int)):=by omega
   have HC:Hid (qB1 cs=qJ8 cs n):=by show qB1 cs=_;unfold qB1;rw[gI (by rw[HZ.out];omega),HZ.out]
   obtain⟨b0,off0,c0,rfl,hc0,hat0,_⟩:=H.out.at (show 0<n by omega)
   have HC0:Hid ((cs[0]?.getD default).f=c0.f):=by show (cs[0]?.getD default).f=_;rw[hc0];rfl
   have HAT0:Hid (qH4 w b0 off0 c0):=by have:=hat0;rw[kJ,jS]at this;exact this
   clear hc0 hat0;rw[HC.out];go_enter func87,ntmps87;go_wp2;go_loopw [16] (fun i wr=>∃k:Nat,k<=n/\i=iv (k:Int)/\qJ8 cs k=0/\Below w.heap.size w wr) (fun i _=>n-(intOf i).toNat)
   case atStart=>exact⟨0,gH _,rfl,rfl,gC _ _⟩
   case round =>
    obtain⟨k,hk,rfl,hz,hnx⟩:=hrel;have HK0:=hJJ hz;clear hz;by_cases hlt:k<n
    .obtain⟨b,off,c,e,hc,hat,hin⟩:=H.out.at hlt
     cases e;have hlt':(k:Int)<(n:Int):=by omega
     have hA:=hat.below hnx;have hl:=hA.lt;obtain⟨u0,u1,u2,u3,u4⟩:=hA;have HN:Hid (qJ8 cs (k+1)=if qV5 c=0 then (if c.f=c0.f then 0 else 1) else qV5 c):=by show qJ8 cs (k+1)=_;rw[QC9 hc HK0.out,HC0.out]
     obtain⟨V,hV⟩:∃V,V=wr.alloc (.cells #[iv c.e,iv c.f,.slice c.ra c.rn c.rc,.slice c.fa c.fn c.fc,.slice c.ca c.cn c.cc] 92):=⟨_,rfl⟩;have BV:Below wr.heap.size wr V:=by rw[hV];exact zN
     have BW:Below w.heap.size w V:=hnx.trans (BV.mono hnx.size);have KV:Hid (qR0 V wr.heap.size c):=by rw[hV];exact qR0.new wr c _
     obtain⟨q,hq⟩:∃q,qV5 c=q:=⟨_,rfl⟩;rw[hq]at HN;have HQ:Hid (CP 141 #[.agg #[iv c.e,iv c.f,.slice c.ra c.rn c.rc,.slice c.fa c.fn c.fc,.slice c.ca c.cn c.cc]] V fun e w'=>e=.returned (iv q)/\Below V.heap.size V w'):=by rw[<- hq];exact qW6 c V (HLE.out.le k c hc) (HLE.out.rc k c hc).1 (HLE.out.rc k c hc).2 (hin.below BW)
     clear hq hc hat hin;go_wp2_with fail
     rw[<- hV];clear hV u0 u1 u2 u3 u4;refine HQ.out.mono ?_;rintro e w1 ⟨rfl,hb1⟩;have B1:Below w.heap.size w w1:=BW.trans (hb1.mono BW.size);by_cases q0:q=0
     .have qb:(q != 0)=false:=by simp[q0]
      rw[gK q0]at HN;have hK:=KV.out.below hb1;have hl1:=hK.lt;obtain⟨x0,x1,_⟩:=hK;have hB1:=HAT0.out.below B1;have hl0:=hB1.lt;obtain⟨y0,y1,_⟩:=hB1;by_cases hf:c.f=c0.f
      .have fb:(c.f != c0.f)=false:=by simp[hf]
       rw[gK hf]at HN;clear q0 hf;go_wp2;go_quiet (fail)
       go_wp2;exact⟨⟨k+1,by omega,by go_num,HN.out,below_drewN B1 _⟩,by simp[intOf];omega⟩
      .have fb:(c.f != c0.f)=true:=by simp[hf]
       rw[gI hf]at HN;have HE:Hid (qJ8 cs n=1):=qS2 cs (k+1) n 1 (by omega) HN.out (by omega);clear q0 hf;go_wp2;go_quiet (fail)
       go_wp2;go_ret;exact⟨by rw[HE.out];rfl,below_drewN B1 _⟩
     .have qb:(q != 0)=true:=by simp[q0]
      rw[gI q0]at HN;have HE:Hid (qJ8 cs n=q):=qS2 cs (k+1) n q q0 HN.out (by omega);clear q0;go_wp2;go_ret;exact⟨by rw[HE.out];rfl,B1⟩
    .have hkn:k=n:=by omega
     have hlt':¬ ((k:Int)<(n:Int)):=by omega
     have HE:Hid (qJ8 cs n=0):=by rw[<- hkn];exact HK0.out
     clear hkn;go_wp2;go_ret;exact⟨by rw[HE.out];rfl,hnx⟩
section
theorem qBD(a0 a1 a2 a3 b0 b1 b2 b3:Int):decide ((⟨a0,a1,a2,a3⟩:LkI)=⟨b0,b1,b2,b3⟩)=(a0==b0&&a1==b1&&a2==b2&&a3==b3):=by
 rw[kX];simp only[jV,LkI.mk.injEq,jY,beq_iff_eq,and_assoc]
theorem qFI(r s:LkI)(w:World):(binOp .neq 171 (.agg #[iv r.e,iv r.c,iv r.p,iv r.f]) (.agg #[iv s.e,iv s.c,iv s.p,iv s.f])).run prog w=.ok (.bool (!decide (r=s))) w:=by
 obtain⟨a0,a1,a2,a3⟩:=r;obtain⟨b0,b1,b2,b3⟩:=s;simp only;rw[qBD];cases e0:(a0==b0)
 .simp[go_sem,e0]
 cases e1:(a1==b1)
 .simp[go_sem,e0,e1]
 cases e2:(a2==b2)
 .simp[go_sem,e0,e1,e2]
 cases e3:(a3==b3)
 .simp[go_sem,e0,e1,e2,e3]
 .simp[go_sem,e0,e1,e2,e3]
attribute [local go_sem ↓] qFI
theorem QN6(a b:Option Addr)(n m ca cb:Nat)(xs ys:List LkI)(w:World)(hn:n<=1048576)(hm:m<=1048576)(h:qJ9 w a n xs)(h':qJ9 w b m ys):
  CP 193 #[.slice a n ca,.slice b m cb] w fun e w'=>e=.returned (.bool (decide (xs=ys)))/\Below w.heap.size w w':=by
 have H:=hJJ h;have H':=hJJ h';have HX:=hJJ h.1;have HY:=hJJ h'.1;clear h h';have hn':(n:Int)<=1048576:=by omega
 have hm':(m:Int)<=1048576:=by omega
 by_cases hnm:n=m
 .subst hnm;obtain⟨t,ht⟩:∃t,decide (xs=ys)=t:=⟨_,rfl⟩;have HT:=hJJ ht;rw[ht];clear ht;go_enter func193,ntmps193;go_wp2;go_loopw [13] (fun i wr=>∃k:Nat,k<=n/\i=iv (k:Int)/\xs.take k=ys.take k/\∃q,wr=w.drewN q) (fun i _=>n-(intOf i).toNat)
  case atStart=>exact⟨0,gH _,rfl,by simp,0,rfl⟩
  case round =>
   obtain⟨k,hk,rfl,htk,q,rfl⟩:=hrel;have HTK:=hJJ htk;clear htk;by_cases hlt:k<n
   .obtain⟨b1,o1,s,e1,hs,hr,_⟩:=H.out.at hlt
    obtain⟨b2,o2,s2,e2,hs2,hr2,_⟩:=H'.out.at hlt
    subst e1 e2;have HS:=hJJ hs;have HS2:=hJJ hs2;have hb1:b1<w.heap.size:=zL w ⟨b1,_,none⟩ hr.1;have hb2:b2<w.heap.size:=zL w ⟨b2,_,none⟩ hr2.1;clear hs hs2;obtain⟨h0,h1,h2,h3⟩:=hr;obtain⟨g0,g1,g2,g3⟩:=hr2;have hlt':(k:Int)<(n:Int):=by omega
    by_cases hsame:s=s2
    .have HN:Hid (xs.take (k+1)=ys.take (k+1)):=by
      show xs.take (k+1)=ys.take (k+1)
      rw[List.take_add_one,List.take_add_one,HTK.out,HS.out,HS2.out,hsame]
     have hd:decide (s=s2)=true:=jQ hsame;skip
     clear hsame;go_wp2;go_quiet (fail)
     go_wp2;exact⟨⟨k+1,by omega,by go_num,HN.out,_,rfl⟩,by simp[intOf];omega⟩
    .have HE:Hid (t=false):=by
      show t=false
      rw[<- HT.out];refine jL (fun e=>hsame ?_);have h1:=HS.out;rw[e,HS2.out]at h1;exact (gJ h1).symm
     have hd:decide (s=s2)=false:=jL hsame;skip
     clear hsame;go_wp2;go_quiet (fail)
     go_wp2;go_ret;exact⟨by rw[HE.out];rfl,bdN (bdN (gC _ _) _) _⟩
   .have hkn:k=n:=by omega
    subst hkn
    have HE:Hid (t=true):=by
     show t=true
     rw[<- HT.out];refine jQ ?_;have:=HTK.out;rw[gV (by rw[HX.out];exact gB _),gV (by rw[HY.out];exact gB _)]at this;exact this
    go_wp2;go_ret;exact⟨by rw[HE.out];rfl,bdN (gC _ _) _⟩
 .have HE:Hid (decide (xs=ys)=false):=jL (fun e=>hnm (by rw[<- HX.out,<- HY.out,e]));rw[HE.out];have hnb:((n:Int) != (m:Int))=true:=by simp;omega
  have hnm':¬ ((n:Int)=(m:Int)):=by omega
  go_enter func193,ntmps193;go_wp2;go_ret;exact⟨rfl,gC _ _⟩
end
theorem qFY(a:Option Addr)(n cap:Nat)(us:List Int)(y:Int)(w:World)(hn:n<=1048576)(h:qD0 w a n us):
  CP 222 #[.slice a n cap,iv y] w fun e w'=>(∃i:Int,e=.returned (iv i)/\decide (0<=i)=decide (y∈us))/\w=w':=by
 have H:=hJJ h;have HZ:=hJJ h.1;have hn':(n:Int)<=1048576:=by omega
 clear h;go_enter func222,ntmps222;go_wp2;go_loop [8] (fun i=>∃k:Nat,k<=n/\i=iv (k:Int)/\¬ y∈us.take k) (fun i=>n-(intOf i).toNat)
 case atStart=>exact⟨0,gH _,rfl,by simp⟩
 case round =>
  obtain⟨k,hk,rfl,hm⟩:=hrel;have HM:=hJJ hm;clear hm;by_cases hlt:k<n
  .obtain⟨b,off,p,rfl,hp,hpa,hbl⟩:=H.out.at hlt
   have hlt':(k:Int)<(n:Int):=by omega
   by_cases e:p=y
   .have eb:(y==p)=true:=by simp[e]
    have HI:Hid (decide (y∈us)=true):=by show _=_;simp;rw[<- e];exact gO hp
    clear hp e;go_wp2;go_ret;exact⟨⟨(k:Int),rfl,by have h9:=kK HI.out;simp[h9]⟩,rfl⟩
   .have eb:(y==p)=false:=by simp;exact fun q=>e q.symm
    have HN:Hid (¬ y∈us.take (k+1)):=qEa HM.out hp e;clear hp e;go_wp2;exact⟨⟨k+1,by omega,by go_num,HN.out⟩,by simp[intOf];omega⟩
  .have hkn:k=n:=by omega
   subst hkn
   have HN:Hid (decide (y∈us)=false):=by
    have:=HM.out;rw[gV (by rw[HZ.out];exact gB _)]at this;show _=_
    simp[this]
   go_wp2;go_ret;exact⟨⟨-1,rfl,by have h9:=of_decide_eq_false HN.out;simp[h9]⟩,rfl⟩
theorem QZ3(a:Option Addr)(n cap:Nat)(us:List Int)(y:Int)(w:World)(hn:n<=1048576)(h:qD0 w a n us):
  CP 190 #[.slice a n cap,iv y] w fun e w'=>e=.returned (.bool (decide (y∈us)))/\w=w':=by
 go_enter func190,ntmps190;go_wp2_with fail
 refine (qFY a n cap us y _ hn h).mono ?_;rintro e w1 ⟨⟨i,rfl,hi⟩,rfl⟩;have HI:=hJJ hi;clear hi;go_wp2;go_ret;exact⟨by rw[<- HI.out];rfl,rfl⟩
