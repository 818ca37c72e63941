/- Contracts. -/
import Derived.Test.YtdghpccmdnnenaaGreatDoorPx26
import Derived.Test.YtdghpccmdnnenaaGreatDoorPx27
import Derived.Test.YtdghpccmdnnenaaGreatDoorPx28
namespace Go.Proofs.YtdghpccmdnnenaaGreatDoor
set_option maxRecDepth 100000
set_option maxHeartbeats 8000000
open Go.RowKit Go.Proofs.Tryz
set_option linter.unusedVariables false
set_option linter.unusedSimpArgs false
def qD6{α:Type}(g:α->Int):List α->Int
 | []=>0
 | x::xs=>if g x=0 then qD6 g xs else g x
theorem qO7{α:Type}(g:α->Int){l:List α}{j:Nat}{x:α}(h:l[j]?=some x):qD6 g (l.drop j)=if g x=0 then qD6 g (l.drop (j+1)) else g x:=by
 have hj:j<l.length:=(gY.1 h).1;rw[List.drop_eq_getElem_cons hj]
 have e:l[j]=x:=by
  have:=(gY.1 h).2;exact this
 rw[e];rfl
theorem QX9{α:Type}{g:α->Int}:∀ {l:List α},qD6 g l=0->∀x∈l,g x=0
 | [],_,x,h=>(List.not_mem_nil h).elim
 | y::l,h,x,hx=>by
  unfold qD6 at h;by_cases e:g y=0
  .rw[gK e]at h;rcases gX.1 hx with rfl | q
   .exact e
   .exact QX9 h x q
  .rw[gI e]at h;exact absurd h e
def qC8(us:List Int):Nat->List Int
 | 0=>[]
 | k+1=>if ((k:Int)+1)∈us then qC8 us k else qC8 us k++[(k:Int)+1]
theorem qW8(us:List Int):∀k,(qC8 us k).length<=k
 | 0=>gB _
 | k+1=>by
  have:=qW8 us k;unfold qC8;split
  .omega
  .simp;omega
theorem QC6{us:List Int}{y:Int}:∀ {k:Nat},y∈qC8 us k↔1<=y/\y<=(k:Int)/\¬ y∈us
 | 0=>⟨fun h=>(List.not_mem_nil h).elim,fun h=>by omega⟩
 | k+1=>by
  have ih:=QC6 (us:=us) (y:=y) (k:=k);unfold qC8;split
  .rename_i q;rw[ih];constructor
   .rintro⟨h1,h2,h3⟩;exact⟨h1,by omega,h3⟩
   .rintro⟨h1,h2,h3⟩;refine⟨h1,?_,h3⟩;by_cases e:y=(k:Int)+1
    .subst e;exact absurd q h3
    .omega
  .rename_i q;rw[kL,ih,List.mem_singleton];constructor
   .rintro (⟨h1,h2,h3⟩ | rfl)
    .exact⟨h1,by omega,h3⟩
    .exact⟨by omega,by omega,q⟩
   .rintro⟨h1,h2,h3⟩;by_cases e:y=(k:Int)+1
    .exact .inr e
    .exact .inl ⟨h1,by omega,h3⟩
def qO0(f:Int)(us:List Int):List Int:=qC8 us (3*f+1).toNat
def QD1(rs:List qD2)(i:Int):Option qD2:=rs.find? (fun r=>decide (r.i=i))
def qEH(o:Option qD2)(x:StI):Bool:=match o with
 | some r=>qC4 (r.ss.take r.u.toNat) x
 | none=>true
def qZ0(us:List Int)(rs:List qD2)(z:ShI):Bool:=decide (z.r∈us) || qEH (QD1 rs z.r) z.st
def qJ0(us:List Int)(rs:List qD2)(z:ShI):Int:=if z.k=4 then 1 else if qZ0 us rs z=true then 0 else 7
def QH8(x:StI):StI:=⟨3,x.e,0,0,x.n⟩
def qH8(f:Int)(zs:List ShI)(x:StI):Bool:=decide (x.k=4) && !isB f zs (QH8 x)
def QI5(f:Int)(zs:List ShI)(r:qD2):Int:=if r.ss.any (qH8 f zs)=true then 7 else 0
def qW7(cs:List qA5)(us:List Int):Int:=if qB1 cs=0 then qX2 (f0C cs) us else qB1 cs
def qR3(E:qH3)(cs:List qA5)(us:List Int)(rs:List qD2):Int:=if rs.map (·.i)=qO0 (f0C cs) us then qD6 (qD7 E cs) rs else 1
def QT2(f:Int)(us:List Int)(rs:List qD2)(zs:List ShI):Int:=if qF2 f zs=0 then qD6 (qJ0 us rs) zs else qF2 f zs
def tkC(f:Int)(rs:List qD2)(zs:List ShI):Int:=qD6 (QI5 f zs) rs
def QD7(E:qH3)(cs:List qA5)(us:List Int)(rs:List qD2)(zs:List ShI):Int :=
 if qW7 cs us=0 then (if qR3 E cs us rs=0 then (if QT2 (f0C cs) us rs zs=0 then tkC (f0C cs) rs zs else QT2 (f0C cs) us rs zs) else qR3 E cs us rs) else qW7 cs us
structure ClI where
 ca:Option Addr
 cn:Nat
 cc:Nat
 cs:List qA5
 ba:Option Addr
 bn:Nat
 bc:Nat
 bs:List Int
 ra:Option Addr
 rn:Nat
 rc:Nat
 rs:List qD2
 za:Option Addr
 zn:Nat
 zc:Nat
 zs:List ShI
deriving Inhabited
structure qCR (w:World) (c:ClI):Prop where
 ci:qA7 w c.ca c.cn c.cs
 bi:qD0 w c.ba c.bn c.bs
 ri:qZ9 w c.ra c.rn c.rs
 zi:qX6 w c.za c.zn c.zs
theorem qCR.below{w w':World}{c:ClI}(h:qCR w c)(hb:Below w.heap.size w w'):qCR w' c:=⟨h.ci.below hb,h.bi.below hb,h.ri.below hb,h.zi.below hb⟩
structure qFK (c:ClI):Prop where
 cn:c.cn<=1048576
 cl:qG4 1048576 c.cs
 bn:c.bn<=1048576
 rn:c.rn<=1048576
 rl:∀(k:Nat) r,c.rs[k]?=some r->qH2 1048576 r
 rc:∀(k:Nat) r,c.rs[k]?=some r->r.sn<=r.sc/\r.sc<=maxLen
 zn:c.zn<=1048576
 zc:c.zn<=c.zc/\c.zc<=maxLen
 cc:c.cn<=c.cc/\c.cc<=maxLen
structure qT3 (w:World) (b:Nat) (c:ClI):Prop where
 x0:w.cell? ⟨b,0,none⟩=some (.slice c.ca c.cn c.cc)
 x1:w.cell? ⟨b,1,none⟩=some (.slice c.ba c.bn c.bc)
 x2:w.cell? ⟨b,2,none⟩=some (.slice c.ra c.rn c.rc)
 x3:w.cell? ⟨b,3,none⟩=some (.slice c.za c.zn c.zc)
theorem qT3.lt{w:World}{b:Nat}{c:ClI}(h:qT3 w b c):b<w.heap.size:=zL w ⟨b,0,none⟩ h.x0
theorem qT3.below{w w':World}{b:Nat}{c:ClI}(h:qT3 w b c)(hb:Below w.heap.size w w'):qT3 w' b c :=
 ⟨(hb.cell (p:=⟨b,0,none⟩) h.lt).trans h.x0,(hb.cell (p:=⟨b,1,none⟩) h.lt).trans h.x1,(hb.cell (p:=⟨b,2,none⟩) h.lt).trans h.x2,(hb.cell (p:=⟨b,3,none⟩) h.lt).trans h.x3⟩
theorem qT3.new(w:World)(c:ClI)(t:TypeId):qT3 (w.alloc (.cells #[.slice c.ca c.cn c.cc,.slice c.ba c.bn c.bc,.slice c.ra c.rn c.rc,.slice c.za c.zn c.zc] t)) w.heap.size c:=⟨by simp,by simp,by simp,by simp⟩
structure KuI (w:World) (b:Nat) (c:ClI):Prop where
 bx:qT3 w b c
 cl:qCR w c
theorem KuI.below{w w':World}{b:Nat}{c:ClI}(h:KuI w b c)(hb:Below w.heap.size w w'):KuI w' b c:=⟨h.bx.below hb,h.cl.below hb⟩
theorem QQ9{cs:List qA5}{us:List Int}(h:qW7 cs us=0):qB1 cs=0/\qX2 (f0C cs) us=0/\1<=f0C cs/\f0C cs<=2/\1<=cs.length:=by
 unfold qW7 at h;split at h
 .rename_i hk;obtain⟨hm1,hm8,hok⟩:=qT1 hk;have e:=gA (l:=cs) (i:=0) (by omega);have hff:=qEy (hok 0 _ e).1;have hf0:f0C cs=(cs[0]'(by omega)).f:=by unfold f0C;rw[e];rfl
  exact⟨hk,h,by omega,by omega,hm1⟩
 .rename_i hk;exact absurd h hk
theorem qHY{E:qH3}{cs:List qA5}{us:List Int}{rs:List qD2}(h:qR3 E cs us rs=0):rs.map (·.i)=qO0 (f0C cs) us/\∀r∈rs,qD7 E cs r=0:=by
 unfold qR3 at h;split at h
 .rename_i q;exact⟨q,QX9 h⟩
 .cases h
theorem qHZ{E:qH3}{cs:List qA5}{r:qD2}(h:qD7 E cs r=0)(hl:r.ss.length=r.sn):(0<=r.u/\r.u<=(r.sn:Int)/\r.sn<=40)/\∀x∈r.ss,qB5 x=0:=by
 unfold qD7 at h;split at h
 .split at h
  .rename_i hb;split at h
   .cases h
   .rename_i h40;split at h
    .rename_i hp;refine⟨?_,fun x hx=>?_⟩
     .unfold qI0 at hb;simp[inR]at hb;omega
     .have:=(QO6 r.sn r.ls (by omega) hp).st x;rw[gV (by omega)]at this;exact this hx
    .cases h
  .cases h
 .rename_i q;exact absurd h q
section
theorem qGe(f:Int)(a:Option Addr)(n cap:Nat)(us:List Int)(w:World)(h1:1<=f)(h2:f<=2)(hn:n<=1048576)(h:qD0 w a n us):
  CP 88 #[.slice a n cap,iv f] w fun e w'=>e=.returned (iv (qX2 f us))/\Below w.heap.size w w':=by
 have H:=hJJ h;have HZ:=hJJ h.1;have hn':(n:Int)<=1048576:=by omega
 obtain⟨K,hK⟩:∃K,qX2 f us=K:=⟨_,rfl⟩;obtain⟨m,hm⟩:∃m,3*f+1=m:=⟨_,rfl⟩
 have HK:Hid ((if QA6 f us=true then (if f<(n:Int) then 2 else if qY1 us=true then 0 else 1) else 3)=K):=by
  show _=K
  rw[<- hK];unfold qX2;rw[h.1]
 have HRO:Hid (∀w:World,CP 142 #[iv f] w fun e w'=>e=.returned (.agg #[iv 0,iv m])/\Below w.heap.size w w'):=fun w=>by
  have q:=qM0 f w;unfold qP0 qQ6 qZ7 at q;rw[(qD3 f 1 2).2 ⟨h1,h2⟩,gK rfl,gK rfl,hm]at q;exact q
 have HM:Hid (∀(i:Int) (w:World),CP 143 #[iv i,.agg #[iv 0,iv m]] w fun e w'=>e=.returned (.bool (inR i 1 m))/\Below w.heap.size w w'):=fun i w=>by
  have q:=QH1 i 0 m w;simpa using q
 have HRI:Hid (∀W,Below w.heap.size w W->CP 144 #[.slice a n cap] W fun e w'=>e=.returned (.bool (qY1 us))/\Below W.heap.size W w'):=fun W hb=>qNo a n cap us W hn (h.below hb)
 have HA:Hid (QA6 f us=us.all (fun y=>inR y 1 m)):=by show _=_;rw[<- hm];rfl
 rw[hK];clear h hK h1 h2 hm;go_enter func88,ntmps88;go_wp2_with fail
 refine (HRO.out _).mono ?_;rintro e w1 ⟨rfl,hb1⟩;obtain⟨V,hV⟩:∃V,V=w1.alloc (.cells #[iv 0,iv m] 48):=⟨_,rfl⟩;obtain⟨q1,hq1⟩:∃q,q=w1.heap.size:=⟨_,rfl⟩;have BV:Hid (Below w.heap.size w V):=by show Below _ _ _;rw[hV];exact hb1.alloc hb1.size _
 have XV:Hid (QD0 q1 [iv 0,iv m] V/\q1<V.heap.size):=by rw[hV,hq1];exact⟨(qG3 w1 _ _).out,by simp⟩
 clear hb1;go_upto_region 2 with fail
 rw[<- hV,<- hq1];clear hV hq1 w1;go_wp2_with fail
 go_loopw [12] (fun i wr=>∃k:Nat,k<=n/\i=iv (k:Int)/\Hid (∀j x,j<k->us[j]?=some x->inR x 1 m=true)/\Below V.heap.size V wr) (fun i _=>n-(intOf i).toNat)
 case atStart=>exact⟨0,gH _,rfl,fun j x q=>by omega,gC _ _⟩
 case round =>
  obtain⟨k,hk,rfl,HJ,hnx⟩:=hrel;have BN:Hid (Below w.heap.size w wr):=BV.out.trans (hnx.mono BV.out.size);by_cases hlt:k<n
  .obtain⟨b,off,x,rfl,hx,hxa,hbl⟩:=H.out.at hlt
   have x0:=(BN.out.cell (p:=⟨b,off+k,none⟩) hbl).trans hxa;have hbw:b<wr.heap.size:=gD hbl BN.out.size;have hlt':(k:Int)<(n:Int):=by omega
   have HX:=hJJ hx;have y0:=(((QD0.hold XV.out.1 XV.out.2).below hnx).out) 0 _ rfl;have y1:=(((QD0.hold XV.out.1 XV.out.2).below hnx).out) 1 _ rfl;have hqw:q1<wr.heap.size:=gD XV.out.2 hnx.size;obtain⟨t,ht⟩:∃t,inR x 1 m=t:=⟨_,rfl⟩;have HT:=hJJ ht;have HC:Hid (∀w:World,CP 143 #[iv x,.agg #[iv 0,iv m]] w fun e w'=>e=.returned (.bool t)/\Below w.heap.size w w'):=fun w=>by rw[<- ht];exact HM.out x w
   clear hx hxa ht;go_wp2_with fail
   refine (HC.out _).mono ?_;rintro e w2 ⟨rfl,hb2⟩;have B2:Hid (Below V.heap.size V w2):=hnx.trans (hb2.mono hnx.size);clear x0 y0 y1 hbw hqw;cases t
   .have HE:Hid (K=3):=by
     show K=3
     rw[<- HK.out]
     have : QA6 f us=false:=by
      rw[HA.out];cases z:us.all (fun y=>inR y 1 m)
      .rfl
      .have:=List.all_eq_true.1 z x (gO HX.out);rw[HT.out]at this;cases this
     rw[this];rfl
    clear HK;go_wp2;go_ret;exact⟨by rw[HE.out];rfl,BV.out.trans (B2.out.mono BV.out.size)⟩
   .have HN:Hid (∀j y,j<k+1->us[j]?=some y->inR y 1 m=true):=fun j y q1 q2=>by
     by_cases e:j=k
     .subst e;rw[HX.out]at q2;cases q2;exact HT.out
     .exact HJ.out j y (by omega) q2
    go_wp2;exact⟨⟨k+1,by omega,by go_num,HN,B2.out⟩,by simp[intOf];omega⟩
  .have hkn:k=n:=by omega
   have HK2:Hid ((if f<(n:Int) then 2 else if qY1 us=true then 0 else 1)=K):=by
    show _=K
    rw[<- HK.out]
    have : QA6 f us=true:=by
     rw[HA.out];refine List.all_eq_true.2 (fun y hy=>?_);obtain⟨q,hq,e⟩:=List.mem_iff_getElem.1 hy;exact HJ.out q y (by have:=HZ.out;omega) (by rw[gA hq,e])
    rw[this,gK rfl]
   subst hkn;clear HK HJ hnx;by_cases q1:f<(k:Int)
   .have HE:Hid (K=2):=by show K=2;rw[<- HK2.out,gK q1]
    clear HK2;go_wp2;go_ret;exact⟨by rw[HE.out];rfl,BN.out⟩
   have HK3:Hid ((if qY1 us=true then 0 else 1)=K):=by show _=K;rw[<- HK2.out,gI q1]
   clear HK2;obtain⟨t,ht⟩:∃t,qY1 us=t:=⟨_,rfl⟩;have HR2:Hid (CP 144 #[.slice a k cap] wr fun e w'=>e=.returned (.bool t)/\Below wr.heap.size wr w'):=by rw[<- ht];exact HRI.out wr BN.out
   have HT:=hJJ ht;clear ht;go_wp2_with fail
   refine HR2.out.mono ?_;rintro e w2 ⟨rfl,hb2⟩;have B2:Hid (Below w.heap.size w w2):=BN.out.trans (hb2.mono BN.out.size);clear hb2 HR2;cases t
   .have HE:Hid (K=1):=by show K=1;rw[<- HK3.out,HT.out];rfl
    clear HK3;go_wp2;go_ret;exact⟨by rw[HE.out];rfl,B2.out⟩
   .have HE:Hid (K=0):=by show K=0;rw[<- HK3.out,HT.out];rfl
    clear HK3;go_wp2;go_ret;exact⟨by rw[HE.out];rfl,B2.out⟩
theorem qKY(b:Nat)(c:ClI)(w:World)(h:KuI w b c)(hn:0<c.cn):
  CP 89 #[.pointer (some ⟨b,0,none⟩)] w fun e w'=>e=.returned (iv (f0C c.cs))/\w=w':=by
 obtain⟨ca,cn,cc,cs,ba,bn,bc,bs,ra,rn,rc,rs,za,zn,zc,zs⟩:=c;obtain⟨⟨x0,x1,x2,x3⟩,⟨ci,bi,ri,zi⟩⟩:=h;simp only at x0 x1 x2 x3 ci bi ri zi hn ⊢
 obtain⟨g,off,c0,rfl,hc0,hat,_⟩:=ci.at hn
 obtain⟨v0,v1,v2,v3,v4⟩:=hat;simp only[kJ,jS]at v0 v1 v2 v3 v4;have hgl:g<w.heap.size:=zL w _ v0;have hbl:b<w.heap.size:=zL w _ x0;have hf0:f0C cs=c0.f:=by unfold f0C;rw[hc0];rfl
 rw[hf0];have hn':(0:Int)<(cn:Int):=by omega
 clear hf0 hc0 ci bi ri zi;go_enter func89,ntmps89;go_wp2;go_ret;exact⟨rfl,rfl⟩
theorem qIZ(b:Nat)(c:ClI)(i:Int)(w:World)(h:KuI w b c)(hn:c.bn<=1048576):
  CP 145 #[.pointer (some ⟨b,0,none⟩),iv i] w fun e w'=>e=.returned (.bool (decide (i∈c.bs)))/\w=w':=by
 obtain⟨ca,cn,cc,cs,ba,bn,bc,bs,ra,rn,rc,rs,za,zn,zc,zs⟩:=c;obtain⟨⟨x0,x1,x2,x3⟩,⟨ci,bi,ri,zi⟩⟩:=h;simp only at x0 x1 x2 x3 ci bi ri zi hn ⊢
 have hbl:b<w.heap.size:=zL w _ x0;have HC:=qB4 (QZ3 ba bn bc bs i w hn bi);clear ci bi ri zi;go_enter func145,ntmps145;go_wp2_with fail
 refine HC.out.mono ?_;rintro e w1 ⟨rfl,rfl⟩;go_wp2;go_ret;exact⟨rfl,rfl⟩
theorem qKX(b:Nat)(c:ClI)(w:World)(h:KuI w b c)(hle:qFK c):
  CP 45 #[.pointer (some ⟨b,0,none⟩)] w fun e w'=>e=.returned (iv (qW7 c.cs c.bs))/\Below w.heap.size w w':=by
 obtain⟨ca,cn,cc,cs,ba,bn,bc,bs,ra,rn,rc,rs,za,zn,zc,zs⟩:=c;have HB:Hid (∀W,Below w.heap.size w W->KuI W b ⟨ca,cn,cc,cs,ba,bn,bc,bs,ra,rn,rc,rs,za,zn,zc,zs⟩):=fun W q=>h.below q
 obtain⟨⟨x0,x1,x2,x3⟩,⟨ci,bi,ri,zi⟩⟩:=h;obtain⟨l1,l2,l3,l4,l5,l6,l7,l8⟩:=hle;simp only at x0 x1 x2 x3 ci bi ri zi l1 l2 l3 l4 l5 l6 l7 l8 ⊢
 have hbl:b<w.heap.size:=zL w _ x0;have HCF:=qB4 (qH9 ca cn cc cs w l1 l2 ci);unfold qW7;have HZ:=hJJ ci.len;have HBI:=hJJ bi;by_cases hk:qB1 cs=0
 .rw[gK hk];rw[hk]at HCF;obtain⟨hm1,hm8,hok⟩:=qT1 hk;have e0:=gA (l:=cs) (i:=0) (by omega)
  have hff:1<=f0C cs/\f0C cs<=2:=by
   have:=qEy (hok 0 _ e0).1;have hf0:f0C cs=(cs[0]'(by omega)).f:=by unfold f0C;rw[e0];rfl
   rw[hf0];exact this
  have hcn:0<cn:=by have:=HZ.out;omega
  have HF:Hid (∀W,Below w.heap.size w W->CP 89 #[.pointer (some ⟨b,0,none⟩)] W fun e w'=>e=.returned (iv (f0C cs))/\Below W.heap.size W w'):=fun W q=>(qKY b _ W (HB.out W q) hcn).mono fun e w' z=>⟨z.1,by rw[<- z.2];exact gC _ _⟩
  have HBF:Hid (∀W,Below w.heap.size w W->CP 88 #[.slice ba bn bc,iv (f0C cs)] W fun e w'=>e=.returned (iv (qX2 (f0C cs) bs))/\Below W.heap.size W w'):=fun W q=>qGe _ ba bn bc bs W hff.1 hff.2 l3 (HBI.out.below q)
  obtain⟨f,hf⟩:∃f,f0C cs=f:=⟨_,rfl⟩;rw[hf]at HF HBF ⊢
  obtain⟨k,hkk⟩:∃k,qX2 f bs=k:=⟨_,rfl⟩;rw[hkk]at HBF ⊢
  clear ci bi ri zi hk hm1 hm8 hok e0 hff hf hkk l2 l5 l6;go_enter func45,ntmps45;go_wp2_with fail
  refine HCF.out.mono ?_;rintro e w1 ⟨rfl,hb1⟩;obtain⟨y0,y1,y2,y3⟩:=(HB.out _ hb1).bx;have hbw:b<w1.heap.size:=gD hbl hb1.size;have B1:=qB4 hb1;clear x0 x1 x2 x3 hbl hb1 HCF;go_upto_region 4 with fail
  go_region_held3 (fun w'=>(∀b o,b<w1.heap.size->w'.cell? ⟨b,o,none⟩=w1.cell? ⟨b,o,none⟩)/\Below w1.heap.size w1 w') (first | exact hS | exact qA8 _)
   (first
    | (go_at_call 89;refine (HF.out _ (B1.out.trans ((by first | exact hHeld.2 | exact hS.2 | exact (gC _ _).drew:Below w1.heap.size w1 _).mono B1.out.size))).mono ?_;rintro e w' ⟨rfl,hbz⟩;have hS:=qA0 (by assumption) hbz)
    | (go_at_call 88;refine (HBF.out _ (B1.out.trans ((by first | exact hHeld.2 | exact hS.2 | exact (gC _ _).drew:Below w1.heap.size w1 _).mono B1.out.size))).mono ?_;rintro e w' ⟨rfl,hbz⟩;have hS:=qA0 (by assumption) hbz))
  go_wp2;go_ret;exact⟨rfl,B1.out.trans (hS.2.mono B1.out.size)⟩
 .rw[gI hk];obtain⟨k,hkk⟩:∃k,qB1 cs=k:=⟨_,rfl⟩;rw[hkk]at HCF hk ⊢
  have kb:(k != 0)=true:=by simp[hk]
  clear ci bi ri zi hkk hk l2 l5 l6;go_enter func45,ntmps45;go_wp2_with fail
  refine HCF.out.mono ?_;rintro e w1 ⟨rfl,hb1⟩;have B1:=qB4 hb1;clear hb1 HCF;go_wp2;go_ret;exact⟨rfl,B1.out⟩
theorem qHp{w:World}{B:Nat}{a:Option Addr}{m cap:Nat}{ys:List Int}(h:qX7 w B (.slice a m cap) ys)(hm:ys.length=m):qD0 w a m ys:=by
 refine⟨hm,fun hp=>?_⟩;rcases h.2 with⟨_,h2⟩ | ⟨g,cp,cur,h1,_⟩
 .have:=h.1;rw[h2]at this;simp at this;omega
 .simp at h1;obtain⟨rfl,_,_⟩:=h1;subst hm;have h0:w.ownsRow B 2 1 (.slice (some ⟨g,0,none⟩) ys.length cap) ys.length (ys.map (Value.int .i64)):=h;refine⟨g,0,rfl,fun k x e=>?_⟩;have hk:k<ys.length:=(gY.1 e).1;have:=h0.cellAt k (show k<ys.length*1 by omega);rw[gG,this,jI,e];rfl
attribute [local go_sem] qGU in
theorem qIe(b:Nat)(c:ClI)(w:World)(h:KuI w b c)(hle:qFK c)(hn:0<c.cn)(hf1:1<=f0C c.cs)(hf2:f0C c.cs<=2):
  CP 92 #[.pointer (some ⟨b,0,none⟩)] w fun e w'=>∃(a:Option Addr) (cap:Nat),e=.returned (.slice a (qO0 (f0C c.cs) c.bs).length cap)/\qD0 w' a (qO0 (f0C c.cs) c.bs).length (qO0 (f0C c.cs) c.bs)/\Below w.heap.size w w':=by
 have HB:Hid (∀W,Below w.heap.size w W->KuI W b c):=fun W q=>h.below q
 have HF:=qB4 (qKY b c w h hn);have HBD:Hid (∀(i:Int) W,Below w.heap.size w W->CP 145 #[.pointer (some ⟨b,0,none⟩),iv i] W fun e w'=>e=.returned (.bool (decide (i∈c.bs)))/\W=w'):=fun i W q=>qIZ b c i W (HB.out W q) hle.bn
 obtain⟨f,hf⟩:∃f,f0C c.cs=f:=⟨_,rfl⟩;obtain⟨us,hus⟩:∃us,c.bs=us:=⟨_,rfl⟩;rw[hf]at HF hf1 hf2 ⊢
 rw[hus]at HBD ⊢
 obtain⟨m,hm⟩:∃m:Nat,(m:Int)=3*f+1:=⟨(3*f+1).toNat,by omega⟩;have hm7:m<=7:=by omega
 have HG:Hid (qO0 f us=qC8 us m):=by show _=_;unfold qO0;rw[<- hm];rfl
 have HRO:Hid (∀w:World,CP 142 #[iv f] w fun e w'=>e=.returned (.agg #[iv 0,iv (m:Int)])/\Below w.heap.size w w'):=fun w=>by
  have q:=qM0 f w;unfold qP0 qQ6 qZ7 at q;rw[(qD3 f 1 2).2 ⟨hf1,hf2⟩,gK rfl,gK rfl,<- hm]at q;exact q
 obtain⟨i0,hi,hz0,hz1,hz2⟩:=jT Tryz.infoI2;rw[HG.out];clear h hle hn hf hus hf1 hf2 hm HB c;go_enter func92,ntmps92;go_wp2_with fail
 refine HF.out.mono ?_;rintro e w1 ⟨rfl,rfl⟩;go_wp2_with fail
 refine (HRO.out _).mono ?_;rintro e w2 ⟨rfl,hb2⟩;have B2:=qB4 hb2;clear hb2 HF;go_wp2_with fail
 go_loopw [3,10] (fun v i wr=>∃(k:Nat) (a:Option Addr) (cp:Nat),k<=m/\i=iv (k:Int)/\v=.slice a (qC8 us k).length cp/\qX7 wr w.heap.size (.slice a (qC8 us k).length cp) (qC8 us k)/\Below w.heap.size w wr) (fun _ i _=>m-(intOf i).toNat)
 case atStart=>exact⟨0,none,0,gH _,rfl,rfl,jB _ _ _ _,B2.out⟩
 case round =>
  obtain⟨k,a,cp,hk,rfl,rfl,hown,hnx⟩:=hrel;have HO:=hJJ hown;have BN:=qB4 hnx;clear hown;by_cases hlt:k<m
  .have hlt':(k:Int)<(m:Int):=by omega
   have hw1:IntKind.i64.wrap ((k:Int)+1)=(k:Int)+1:=by rw[kG];omega
   have HNX:Hid (qC8 us (k+1)=if ((k:Int)+1)∈us then qC8 us k else qC8 us k++[(k:Int)+1]):=rfl;have HL:Hid ((qC8 us k).length<=k):=qW8 us k;obtain⟨t,ht⟩:∃t,decide (((k:Int)+1)∈us)=t:=⟨_,rfl⟩;have HC:Hid (CP 145 #[.pointer (some ⟨b,0,none⟩),iv ((k:Int)+1)] wr fun e w'=>e=.returned (.bool t)/\wr=w'):=by rw[<- ht];exact HBD.out _ wr hnx
   cases t
   .have hno:¬ ((k:Int)+1)∈us:=by simpa using ht
    have HN2:Hid (qC8 us (k+1)=qC8 us k++[(k:Int)+1]):=by show _=_;rw[HNX.out,gI hno]
    obtain⟨ys,hys⟩:∃ys,qC8 us k=ys:=⟨_,rfl⟩;have HYS:=hJJ hys;rw[hys]at HO HN2 HL ⊢
    obtain⟨q,hq⟩:∃q,ys.length=q:=⟨_,rfl⟩;have HQ:=hJJ hq;have hqk:q<=k:=by rw[<- hq];exact HL.out
    have HOW:Hid (wr.ownsRow w.heap.size 2 1 (.slice a q cp) q (ys.map (Value.int .i64))):=by have:=HO.out;unfold qX7 at this;rw[hq]at this;exact this
    rw[hq];clear ht hno hys hq HO HNX HL hnx;have hUs:=BN.out.size;go_wp2_with fail
    refine HC.out.mono ?_;rintro e w3 ⟨rfl,rfl⟩
    go_wp2_with (first
     | (at_builtin;refine jG _ rfl _ _ 23 rfl w.heap.size 2 i0 (iv 0) 1 8 underlying23 hi hz0 hz1 hz2 rfl (by decide) _ _ _ rfl (HOW.out.alloc _) ⟨wr.heap.size,0,none⟩ 1 1 [iv ((k:Int)+1)] rfl rfl ?c1 ?c2 ?c3 ?c4 ?c5 ?_)
     | fail)
    case c1 =>
     intro j u hj;match j,hj with
     | 0,hj=>simp at hj;subst hj;simp[Addr.add]
    case c2=>intro u hu;simp at hu;subst hu;rfl
    case c3=>unfold maxLen;omega
    case c4=>omega
    case c5=>simp;omega
    intro v' w9 hown' hgrow hnil
    have HN3:Hid (qX7 w9 w.heap.size v' (qC8 us (k+1))/\Below w.heap.size w w9):=by
     refine⟨?_,(BN.out.alloc BN.out.size _).grown hgrow (by simp;omega) (fun j hj=>(HOW.out.lt j hj).1)⟩;show w9.ownsRow _ _ _ _ _ _
     rw[HN2.out,jD,HQ.out,List.map_append];exact hown'
    obtain⟨g',c',rfl⟩:∃g c,v'=.slice (some ⟨g,0,none⟩) (q+1) c:=by
     rcases hown'.2 with⟨_,h2⟩ | ⟨g,cq,cur,h1,_⟩
     .have:=hown'.1;rw[h2]at this;simp at this
     .exact⟨g,cq,h1⟩
    have HL3:Hid (q+1=(qC8 us (k+1)).length):=by show _=_;rw[HN2.out,jD,HQ.out];rfl
    clear hnil hown' hgrow;go_wp2_with fail
    exact⟨⟨k+1,some ⟨g',0,none⟩,c',by omega,by go_num,by rw[<- HL3.out],by rw[<- HL3.out];exact HN3.out.1,HN3.out.2⟩,by simp[intOf];omega⟩
   .have hin:((k:Int)+1)∈us:=kK ht;have HN2:Hid (qC8 us (k+1)=qC8 us k):=by show _=_;rw[HNX.out,gK hin]
    obtain⟨q,hq⟩:∃q,(qC8 us k).length=q:=⟨_,rfl⟩;have HQ:=hJJ hq;rw[hq]at HO ⊢
    clear ht hin HNX HL hnx hq;go_wp2_with fail
    refine HC.out.mono ?_;rintro e w3 ⟨rfl,rfl⟩;go_wp2_with fail
    exact⟨⟨k+1,a,cp,by omega,by go_num,by rw[HN2.out,HQ.out],by rw[HN2.out,HQ.out];exact HO.out,BN.out⟩,by simp[intOf];omega⟩
  .have hkm:k=m:=by omega
   subst hkm;have HI:Hid (qD0 wr a (qC8 us k).length (qC8 us k)):=qHp HO.out rfl;clear HO hnx;go_wp2_with fail
   go_ret;exact⟨a,cp,rfl,HI.out,BN.out⟩
end
theorem qIA{rs:List qD2}{us:List Int}(hl:rs.length=us.length)(h:∀(k:Nat) r y,rs[k]?=some r->us[k]?=some y->r.i=y):rs.map (·.i)=us:=by
 refine List.ext_getElem? (fun k=>?_);rw[jI];cases e:rs[k]? with
 | none =>
  have : rs.length<=k:=by simpa using e
  rw[gE (by omega)];rfl
 | some r =>
  have hk:=(gY.1 e).1;have e2:=gA (l:=us) (i:=k) (by omega);rw[e2];show some r.i=_
  rw[h k r _ e e2]
theorem qHz{rs:List qD2}{us:List Int}{k:Nat}{r:qD2}{y:Int}(h1:rs[k]?=some r)(h2:us[k]?=some y)(h:¬ r.i=y):¬ rs.map (·.i)=us:=fun e=>by
 rw[<- e,jI,h1]at h2;exact h (gJ h2)
theorem qNA(r:qD2)(i:Int)(w:World):CP 90 #[.agg #[iv r.i,iv r.u,.slice r.sa r.sn r.sc,.slice r.la r.ln r.lc],iv i] w fun e w'=>e=.returned (.bool (r.i==i))/\Below w.heap.size w w':=by
 obtain⟨V,hV⟩:∃V,V=w.alloc (.cells #[iv r.i,iv r.u,.slice r.sa r.sn r.sc,.slice r.la r.ln r.lc] 115):=⟨_,rfl⟩;have BV:Hid (Below w.heap.size w V):=by show Below _ _ _;rw[hV];exact zN
 have x0:V.cell? ⟨w.heap.size,0,none⟩=some (iv r.i):=by rw[hV];simp
 have hv:w.heap.size<V.heap.size:=by rw[hV];simp
 go_enter func90,ntmps90;go_upto_region 1 with fail
 rw[<- hV];clear hV;go_wp2;go_ret;exact⟨rfl,BV.out⟩
theorem qKk(a:Option Addr)(n cap:Nat)(rs:List qD2)(b:Option Addr)(m cb:Nat)(us:List Int)(w:World)(hn:n<=1048576)(hm:m<=1048576)(h:qZ9 w a n rs)(h':qD0 w b m us):
  CP 91 #[.slice a n cap,.slice b m cb,.func (.func 90) #[] #[]] w fun e w'=>e=.returned (.bool (decide (rs.map (·.i)=us)))/\Below w.heap.size w w':=by
 have H:=qB4 h;have H':=qB4 h';have HZ:Hid (rs.length=n/\us.length=m):=⟨h.len,h'.1⟩;have hn':(n:Int)<=1048576:=by omega
 have hm':(m:Int)<=1048576:=by omega
 obtain⟨t,ht⟩:∃t,decide (rs.map (·.i)=us)=t:=⟨_,rfl⟩;have HT:=hJJ ht;rw[ht];clear h h' ht;by_cases hl:n=m
 .subst hl;go_enter func91,ntmps91;go_wp2_with fail
  go_loopw [17] (fun i wr=>∃j:Nat,j<=n/\i=iv (j:Int)/\Hid (∀(k:Nat) r y,k<j->rs[k]?=some r->us[k]?=some y->r.i=y)/\Below w.heap.size w wr) (fun i _=>n-(intOf i).toNat)
  case atStart=>exact⟨0,gH _,rfl,fun k r y q=>by omega,gC _ _⟩
  case round =>
   obtain⟨j,hj,rfl,HJ,hnx⟩:=hrel;have BN:=qB4 hnx;by_cases hlt:j<n
   .obtain⟨g,off,r,rfl,hr,hra,_⟩:=H.out.at hlt
    obtain⟨g',off',y,rfl,hy,hya,hgl'⟩:=H'.out.at hlt
    have hgl:g<w.heap.size:=hra.lt;have hgw:g<wr.heap.size:=gD hgl hnx.size;have hgw':g'<wr.heap.size:=gD hgl' hnx.size;have hlt':(j:Int)<(n:Int):=by omega
    obtain⟨c0,c1,c2,c3⟩:=hra.below hnx;have y0:=(hnx.cell (p:=⟨g',off'+j,none⟩) hgl').trans hya;have HX:Hid (rs[j]?=some r/\us[j]?=some y):=⟨hr,hy⟩;obtain⟨V,hV⟩:∃V,V=wr.alloc (.cells #[iv r.i,iv r.u,.slice r.sa r.sn r.sc,.slice r.la r.ln r.lc] 115):=⟨_,rfl⟩;obtain⟨q,hq⟩:∃q,q=wr.heap.size:=⟨_,rfl⟩;have bv:Below wr.heap.size wr V:=by rw[hV];exact zN
    have BV:=qB4 (BN.out.trans (bv.mono BN.out.size));have YV:Hid (V.cell? ⟨g',off'+j,none⟩=some (iv y)/\g'<V.heap.size):=⟨(bv.cell (p:=⟨g',off'+j,none⟩) hgw').trans y0,gD hgw' bv.size⟩;have XV:Hid (qJ5 V q r/\q<V.heap.size):=by rw[hV,hq];exact⟨qJ5.new wr r _,by simp⟩
    obtain⟨s,hs⟩:∃s,(r.i==y)=s:=⟨_,rfl⟩;have HS:=hJJ hs;have HC:Hid (∀W,CP 90 #[.agg #[iv r.i,iv r.u,.slice r.sa r.sn r.sc,.slice r.la r.ln r.lc],iv y] W fun e w'=>e=.returned (.bool s)/\Below W.heap.size W w'):=fun W=>by rw[<- hs];exact qNA r y W
    clear hr hy hra hya hnx bv hs hgl hgl';go_upto_region 6 with fail
    rw[<- hV,<- hq];clear hV hq c0 c1 c2 c3 y0 hgw hgw' BN wr;obtain⟨z0,z1,z2,z3⟩:=XV.out.1;have hqv:=XV.out.2;have y0:=YV.out.1;have hgv:=YV.out.2;go_wp2_with fail
    refine (HC.out _).mono ?_;rintro e w2 ⟨rfl,hb2⟩;have B2:=qB4 (BV.out.trans (hb2.mono BV.out.size));clear hb2 z0 z1 z2 z3 hqv y0 hgv;cases s
    .have HE:Hid (t=false):=by
      show t=false
      rw[<- HT.out];exact jL (qHz HX.out.1 HX.out.2 (by have:=HS.out;simpa using this))
     go_wp2;go_ret;exact⟨by rw[HE.out];rfl,B2.out⟩
    .have HN:Hid (∀(k:Nat) r' y',k<j+1->rs[k]?=some r'->us[k]?=some y'->r'.i=y'):=fun k r' y' q1 q2 q3=>by
      by_cases e:k=j
      .subst e;rw[HX.out.1]at q2;rw[HX.out.2]at q3;cases q2;cases q3;have:=HS.out;simpa using this
      .exact HJ.out k r' y' (by omega) q2 q3
     go_wp2;exact⟨⟨j+1,by omega,by go_num,HN,B2.out⟩,by simp[intOf];omega⟩
   .have hjn:j=n:=by omega
    subst hjn
    have HE:Hid (t=true):=by
     show t=true
     rw[<- HT.out];refine jQ (qIA (by rw[HZ.out.1,HZ.out.2]) (fun k r y e1 e2=>HJ.out k r y ?_ e1 e2));have:=(gY.1 e1).1;rw[HZ.out.1]at this;exact this
    go_wp2;go_ret;exact⟨by rw[HE.out];rfl,BN.out⟩
 .have HE:Hid (t=false):=by
   show t=false
   rw[<- HT.out];refine jL (fun e=>hl ?_);have:=jA List.length e;rw[kD,HZ.out.1,HZ.out.2]at this;exact this
  have hl':¬ (n:Int)=(m:Int):=by omega
  have hb:((n:Int) != (m:Int))=true:=by simp[hl']
  go_enter func91,ntmps91;go_wp2;go_ret;exact⟨by rw[HE.out];rfl,by go_grown⟩
theorem qKW(E:qH3)(b:Nat)(c:ClI)(w:World)(h:KuI w b c)(hle:qFK c)(hk:qW7 c.cs c.bs=0)(hEC:qB1 c.cs=0->qN0 E c.cs)(hEr:qM4 0 w)(hH:qD9 w):
  CP 46 #[.pointer (some ⟨b,0,none⟩)] w fun e w'=>e=.returned (iv (qR3 E c.cs c.bs c.rs))/\Below w.heap.size w w':=by
 obtain⟨hcf,_,f1,f2,hl1⟩:=QQ9 hk;have hcn:0<c.cn:=by have:=h.cl.ci.len;omega
 have HGI:Hid (∀W,Below w.heap.size w W->CP 92 #[.pointer (some ⟨b,0,none⟩)] W fun e w'=>∃(a:Option Addr) (cap:Nat),e=.returned (.slice a (qO0 (f0C c.cs) c.bs).length cap)/\qD0 w' a (qO0 (f0C c.cs) c.bs).length (qO0 (f0C c.cs) c.bs)/\Below W.heap.size W w'):=fun W q=>qIe b c W (h.below q) hle hcn f1 f2
 have HM:Hid ((qO0 (f0C c.cs) c.bs).length<=7):=by
  show _<=7
  have:=qW8 c.bs (3*f0C c.cs+1).toNat;unfold qO0;omega
 obtain⟨ca,cn,cc,cs,ba,bn,bc,bs,ra,rn,rc,rs,za,zn,zc,zs⟩:=c;simp only at hcf f1 f2 hl1 hcn HGI HM;have HB:Hid (∀W,Below w.heap.size w W->KuI W b ⟨ca,cn,cc,cs,ba,bn,bc,bs,ra,rn,rc,rs,za,zn,zc,zs⟩):=fun W q=>h.below q
 obtain⟨l1,l2,l3,l4,l5,l6,l7,l8⟩:=hle;simp only at l1 l2 l3 l4 l5 l6 l7 l8 ⊢
 obtain⟨M,hM⟩:∃M,qO0 (f0C cs) bs=M:=⟨_,rfl⟩;have HMM:=hJJ hM;rw[hM]at HGI HM;have HEF:Hid (∀W a cap,Below w.heap.size w W->qD0 W a M.length M->CP 91 #[.slice ra rn rc,.slice a M.length cap,.func (.func 90) #[] #[]] W fun e w'=>e=.returned (.bool (decide (rs.map (·.i)=M)))/\Below W.heap.size W w'):=fun W a cap q hi=>qKk ra rn rc rs a M.length cap M W l4 (by have:=HM.out;omega) (HB.out W q).cl.ri hi
 have HRF:Hid (∀W r,Below w.heap.size w W->qE7 W r->qH2 1048576 r->CP 93 #[.agg #[iv r.i,iv r.u,.slice r.sa r.sn r.sc,.slice r.la r.ln r.lc],.slice ca cn cc] W fun d w'=>d=.returned (iv (qD7 E cs r))/\Below W.heap.size W w'):=fun W r q hr hl=>QH2 E r ca cn cc cs W hr hl (HB.out W q).cl.ci l2 l1 (hEr.below q) (hH.below q) hEC
 obtain⟨K,hK⟩:∃K,qR3 E cs bs rs=K:=⟨_,rfl⟩;have HK:Hid ((if rs.map (·.i)=M then qD6 (qD7 E cs) rs else 1)=K):=by show _=K;rw[<- hK];unfold qR3;rw[hM]
 have HZ:Hid (rs.length=rn):=(HB.out w (gC _ _)).cl.ri.len;have HRL:=hJJ l5;have hn':(rn:Int)<=1048576:=by omega
 obtain⟨t,ht⟩:∃t,decide (rs.map (·.i)=M)=t:=⟨_,rfl⟩;have HT:=hJJ ht;rw[ht]at HEF;obtain⟨m,hm⟩:∃m,M.length=m:=⟨_,rfl⟩;rw[hm]at HGI HEF;rw[hK];obtain⟨x0,x1,x2,x3⟩:=h.bx;simp only at x0 x1 x2 x3;have hbl:b<w.heap.size:=zL w _ x0;clear h hk hEC hEr hH hcf f1 f2 hl1 hcn hM hm hK l1 l2 l3 l5 l6 l7 l8 ht HM;go_enter func46,ntmps46;go_upto_region 2 with fail
 refine gL (S:=fun w'=>(∀b o,b<w.heap.size->w'.cell? ⟨b,o,none⟩=w.cell? ⟨b,o,none⟩)/\Below w.heap.size w w') (by kernel_rfl) (qA8 _) (fun hHeld=>?_);refine Zk.go [0,1,2,3,4,6] ?_
 iterate 6
  refine Zk.st (v:=?_) rfl ?_ ?_;rotate_left 1
  .intro w hSw;(try dsimp only at hSw);go_simp;try (with_reducible rfl)
  try simp only[Act.put,zA,zB,zC,zD,zE,zF]
 refine Zk.fin ?_;refine Zk.rd (i:=5) rfl (fun K hK=>?_);go_simp;refine (HGI.out _ hHeld.2).mono ?_;rintro d wA ⟨ga,gc,rfl,hgi,hbA⟩;have hS:=qA0 hHeld hbA;have GI:=qB4 hgi;clear hgi;refine hK.out _ _ hS (fun hHeld=>?_);clear hK K;try simp only[Act.put,zA,zB,zC,zD,zE,zF]
 refine Zk.rd (i:=7) rfl (fun K hK=>?_);go_simp;refine (HEF.out _ ga gc hHeld.2 GI.out).mono ?_;rintro d wB ⟨rfl,hbB⟩;have hS:=qA0 hHeld hbB;refine hK.out _ _ hS (fun hHeld=>?_);clear hK K;try simp only[Act.put,zA,zB,zC,zD,zE,zF]
 refine Zk.go [8] ?_;refine Zk.st (v:=?_) rfl ?_ ?_;rotate_left 1
 .intro w hSw;(try dsimp only at hSw);go_simp;try (with_reducible rfl)
 try simp only[Act.put,zA,zB,zC,zD,zE,zF]
 refine Zk.fin ?_;refine gZ (by kernel_rfl) ?_ _;have B2:=qB4 hHeld.2;clear hS hHeld GI x0 x1 x2 x3;cases t
 .have HE:Hid (K=1):=by show K=1;rw[<- HK.out,gI (of_decide_eq_false HT.out)]
  go_wp2;go_ret;exact⟨by rw[HE.out];rfl,B2.out⟩
 .have HE:Hid (qD6 (qD7 E cs) rs=K):=by show _=K;rw[<- HK.out,gK (kK HT.out)]
  obtain⟨V,hV⟩:∃V,V=wB:=⟨_,rfl⟩;obtain⟨x0,x1,x2,x3⟩:=(HB.out _ B2.out).bx;simp only at x0 x1 x2 x3;have hbv:b<wB.heap.size:=gD hbl B2.out.size;clear HK HT HGI HEF HMM hV V;go_wp2_with fail
  go_loopw [20] (fun i wr=>∃j:Nat,j<=rn/\i=iv (j:Int)/\Hid (qD6 (qD7 E cs) (rs.drop j)=K)/\Below wB.heap.size wB wr) (fun i _=>rn-(intOf i).toNat)
  case atStart=>exact⟨0,gH _,rfl,HE.out,gC _ _⟩
  case round =>
   obtain⟨j,hj,rfl,HJ,hnx⟩:=hrel;have HNX:=qB4 hnx;have BN:=qB4 (B2.out.trans (hnx.mono B2.out.size));clear x0 x1 x2 x3 hbv;by_cases hlt:j<rn
   .obtain⟨g,off,r,rfl,hr,hra,hri⟩:=(HB.out _ BN.out).cl.ri.at hlt
    obtain⟨x0,x1,x2,x3⟩:=(HB.out _ BN.out).bx;simp only at x0 x1 x2 x3;have hbw:b<wr.heap.size:=zL wr _ x0;have hgw:g<wr.heap.size:=hra.lt;have hlt':(j:Int)<(rn:Int):=by omega
    obtain⟨c0,c1,c2,c3⟩:=hra;have HJ2:Hid ((if qD7 E cs r=0 then qD6 (qD7 E cs) (rs.drop (j+1)) else qD7 E cs r)=K):=by show _=K;rw[<- HJ.out,qO7 _ hr]
    obtain⟨k,hk⟩:∃k,qD7 E cs r=k:=⟨_,rfl⟩
    have HRC:Hid (∀W,Below wr.heap.size wr W->CP 93 #[.agg #[iv r.i,iv r.u,.slice r.sa r.sn r.sc,.slice r.la r.ln r.lc],.slice ca cn cc] W fun d w'=>d=.returned (iv k)/\Below W.heap.size W w'):=by
     have q5:=HRL.out j r hr;intro W q;rw[<- hk];exact HRF.out W r (BN.out.trans (q.mono BN.out.size)) (hri.below q) q5
    rw[hk]at HJ2;clear hr hri hk HJ hnx;go_upto_region 7 with fail
    go_region_held3 (fun w'=>(∀b o,b<wr.heap.size->w'.cell? ⟨b,o,none⟩=wr.cell? ⟨b,o,none⟩)/\Below wr.heap.size wr w') (first | exact hS | exact qA8 _)
     (first | (go_at_call 93;refine (HRC.out _ (by first | exact hHeld.2 | exact hS.2 | exact (gC _ _).drew)).mono ?_;rintro e w' ⟨rfl,hbz⟩;have hS:=qA0 (by assumption) hbz))
    have B3:=qB4 (BN.out.trans (hS.2.mono BN.out.size));have B4:=qB4 hS.2;clear hS x0 x1 x2 x3 c0 c1 c2 c3 hbw hgw;by_cases k0:k=0
    .have HN:Hid (qD6 (qD7 E cs) (rs.drop (j+1))=K):=by show _=K;rw[<- HJ2.out,gK k0]
     subst k0;go_wp2;exact⟨⟨j+1,by omega,by go_num,HN,HNX.out.trans (B4.out.mono HNX.out.size)⟩,by simp[intOf];omega⟩
    .have HN:Hid (k=K):=by show _=K;rw[<- HJ2.out,gI k0]
     have kb:(k != 0)=true:=by simp[k0]
     clear HJ2 k0;go_wp2;go_ret;exact⟨by rw[<- HN.out];rfl,B3.out⟩
   .have hjn:j=rn:=by omega
    subst hjn;have HE2:Hid (K=0):=by show K=0;rw[<- HJ.out,jH (by rw[HZ.out];exact gB _)];rfl
    go_wp2;go_ret;exact⟨by rw[HE2.out];rfl,BN.out⟩
def QL0(i:Int):List qD2->Nat->Int
 | [],_ => -1
 | r::rs,j=>if r.i=i then (j:Int) else QL0 i rs (j+1)
theorem qBf{rs:List qD2}{j:Nat}{r:qD2}(h:rs[j]?=some r)(i:Int):QL0 i (rs.drop j) j=if r.i=i then (j:Int) else QL0 i (rs.drop (j+1)) (j+1):=by
 have hj:j<rs.length:=(gY.1 h).1;rw[List.drop_eq_getElem_cons hj];have e:rs[j]=r:=(gY.1 h).2;rw[e];rfl
theorem QQ8(i:Int):∀(rs:List qD2) (j:Nat),(QL0 i rs j = -1/\QD1 rs i=none)\/∃(k:Nat) (r:qD2),QL0 i rs j=((j+k:Nat):Int)/\rs[k]?=some r/\QD1 rs i=some r
 | [],j => .inl ⟨rfl,rfl⟩
 | r::rs,j=>by
  by_cases e:r.i=i
  .exact .inr ⟨0,r,by unfold QL0;rw[gK e];rfl,rfl,by unfold QD1;rw[List.find?_cons];simp[e]⟩
  .have ea:QD1 (r::rs) i=QD1 rs i:=by unfold QD1;rw[List.find?_cons];simp[e]
   have ei:QL0 i (r::rs) j=QL0 i rs (j+1):=by show (if r.i=i then (j:Int) else QL0 i rs (j+1))=_;rw[gI e]
   rw[ea,ei];rcases QQ8 i rs (j+1)with q | ⟨k,r',q1,q2,q3⟩
   .exact .inl q
   .exact .inr ⟨k+1,r',by rw[q1];congr 1;omega,q2,q3⟩
theorem QV3{rs:List qD2}{M:List Int}{i:Int}(h:rs.map (·.i)=M)(hi:i∈M):∃r,QD1 rs i=some r:=by
 cases e:QD1 rs i with
 | some r=>exact⟨r,rfl⟩
 | none =>
  rw[<- h]at hi;obtain⟨r,hr,e2⟩:=kU.1 hi;unfold QD1 at e;have:=List.find?_eq_none.1 e r hr;simp at this;exact absurd e2 this
theorem qNf{w:World}{a:Option Addr}{n m:Nat}{gs:List StI}(h:qL2 w a n gs)(hm:m<=n):qL2 w a m (gs.take m):=by
 refine⟨by rw[kI,h.1];omega,fun hp=>?_⟩;obtain⟨b,off,e,q⟩:=h.2 (by omega);refine⟨b,off,e,fun k x hx=>q k x ?_⟩;rw[jJ]at hx;split at hx
 .exact hx
 .cases hx
theorem qHk(b:Nat)(c:ClI)(i:Int)(w:World)(h:KuI w b c)(hn:c.rn<=1048576):
  CP 149 #[.pointer (some ⟨b,0,none⟩),iv i] w fun e w'=>e=.returned (iv (QL0 i c.rs 0))/\w=w':=by
 obtain⟨ca,cn,cc,cs,ba,bn,bc,bs,ra,rn,rc,rs,za,zn,zc,zs⟩:=c;obtain⟨⟨x0,x1,x2,x3⟩,⟨ci,bi,ri,zi⟩⟩:=h;simp only at x0 x1 x2 x3 ci bi ri zi hn ⊢
 have hbl:b<w.heap.size:=zL w _ x0;have H:=qB4 ri;have HZ:=hJJ ri.len;have hn':(rn:Int)<=1048576:=by omega
 obtain⟨K,hK⟩:∃K,QL0 i rs 0=K:=⟨_,rfl⟩;have HK:=hJJ hK;rw[hK];clear ci bi ri zi hK;go_enter func149,ntmps149;go_wp2;go_loop [11] (fun q=>∃j:Nat,j<=rn/\q=iv (j:Int)/\QL0 i (rs.drop j) j=K) (fun q=>rn-(intOf q).toNat)
 case atStart=>exact⟨0,gH _,rfl,HK.out⟩
 case round =>
  obtain⟨j,hj,rfl,hp⟩:=hrel;by_cases hlt:j<rn
  .obtain⟨g,off,r,rfl,hr,hra,_⟩:=H.out.at hlt
   rw[qBf hr]at hp;have HP:=hJJ hp;have hgl:g<w.heap.size:=hra.lt;obtain⟨c0,c1,c2,c3⟩:=hra;have hlt':(j:Int)<(rn:Int):=by omega
   clear hr hp;by_cases e:r.i=i
   .have eb:(r.i==i)=true:=by simp[e]
    have HE:Hid ((j:Int)=K):=by show _=K;rw[<- HP.out,gK e]
    clear HP e;go_wp2;go_ret;exact⟨by rw[<- HE.out];rfl,rfl⟩
   .have eb:(r.i==i)=false:=by simp[e]
    have HE:Hid (QL0 i (rs.drop (j+1)) (j+1)=K):=by show _=K;rw[<- HP.out,gI e]
    clear HP e;go_wp2;exact⟨⟨j+1,by omega,by go_num,HE.out⟩,by simp[intOf];omega⟩
  .have hjn:j=rn:=by omega
   subst hjn;rw[jH (by rw[HZ.out];exact gB _)]at hp;have HE:=hJJ hp;clear hp;go_wp2;go_ret;exact⟨by rw[<- HE.out];rfl,rfl⟩
theorem qJd(r:qD2)(u:Nat)(w:World)(hu:r.u=(u:Int))(h1:u<=r.sn)(h2:r.sn<=r.sc)(h3:r.sc<=maxLen):
  CP 116 #[.agg #[iv r.i,iv r.u,.slice r.sa r.sn r.sc,.slice r.la r.ln r.lc]] w fun e w'=>e=.returned (.slice r.sa u r.sc)/\Below w.heap.size w w':=by
 obtain⟨V,hV⟩:∃V,V=w.alloc (.cells #[iv r.i,iv r.u,.slice r.sa r.sn r.sc,.slice r.la r.ln r.lc] 115):=⟨_,rfl⟩;have BV:Hid (Below w.heap.size w V):=by show Below _ _ _;rw[hV];exact zN
 have XV:qJ5 V w.heap.size r:=by rw[hV];exact qJ5.new w r _
 have hv:w.heap.size<V.heap.size:=by rw[hV];simp
 obtain⟨x0,x1,x2,x3⟩:=XV;rw[hu]at x1;have h4:(u:Int)<=(r.sc:Int):=by omega
 have h5:(0:Int)<=(u:Int):=by omega
 have h6:(r.sc:Int)<=9223372036854775807:=by unfold maxLen at h3;omega
 clear hu h1 h2 h3;go_enter func116,ntmps116;go_upto_region 1 with fail
 rw[<- hV];clear hV;go_wp2_with fail
 go_ret;exact⟨rfl,BV.out⟩
structure qY9 (bs:List Int) (rs:List qD2) (z:ShI):Prop where
 st:¬ z.r∈bs->∃r,QD1 rs z.r=some r
 le:∀r∈rs,0<=r.u/\r.u<=(r.sn:Int)
theorem qJe(b:Nat)(c:ClI)(z:ShI)(w:World)(h:KuI w b c)(hle:qFK c)(hz:qY9 c.bs c.rs z):
  CP 95 #[.pointer (some ⟨b,0,none⟩),.agg #[iv z.r,iv z.k,iv z.e,iv z.f,iv z.s,iv z.n]] w fun e w'=>e=.returned (.bool (qZ0 c.bs c.rs z))/\Below w.heap.size w w':=by
 obtain⟨V,hV⟩:∃V,V=w.alloc (.cells #[iv z.r,iv z.k,iv z.e,iv z.f,iv z.s,iv z.n] 121):=⟨_,rfl⟩;have BV:Hid (Below w.heap.size w V):=by show Below _ _ _;rw[hV];exact zN
 have ZV:Hid (QH9 V w.heap.size 0 z/\w.heap.size<V.heap.size):=by rw[hV];exact⟨QH9.new w z _,by simp⟩
 have HBI:Hid (∀W,Below w.heap.size w W->CP 145 #[.pointer (some ⟨b,0,none⟩),iv z.r] W fun e w'=>e=.returned (.bool (decide (z.r∈c.bs)))/\W=w'):=fun W q=>qIZ b c z.r W (h.below q) hle.bn
 have HPL0:Hid (∀W,Below w.heap.size w W->CP 149 #[.pointer (some ⟨b,0,none⟩),iv z.r] W fun e w'=>e=.returned (iv (QL0 z.r c.rs 0))/\W=w'):=fun W q=>qHk b c z.r W (h.below q) hle.rn
 obtain⟨ca,cn,cc,cs,ba,bn,bc,bs,ra,rn,rc,rs,za,zn,zc,zs⟩:=c;have HB:Hid (∀W,Below w.heap.size w W->KuI W b ⟨ca,cn,cc,cs,ba,bn,bc,bs,ra,rn,rc,rs,za,zn,zc,zs⟩):=fun W q=>h.below q
 simp only at HBI HPL0 hz ⊢
 have HR:=qB4 hz;have HRC:Hid (∀(k:Nat) r,rs[k]?=some r->r.sn<=r.sc/\r.sc<=maxLen/\r.sn<=1048576):=fun k r e=>⟨(hle.rc k r e).1,(hle.rc k r e).2,(hle.rl k r e).said⟩
 obtain⟨t,ht⟩:∃t,decide (z.r∈bs)=t:=⟨_,rfl⟩;have HT:=hJJ ht;obtain⟨K,hK⟩:∃K,qZ0 bs rs z=K:=⟨_,rfl⟩;have HK:Hid ((t || qEH (QD1 rs z.r) z.st)=K):=by show _=K;rw[<- hK,<- ht];rfl
 rw[ht]at HBI;rw[hK];clear h hle hz ht hK;go_enter func95,ntmps95;go_upto_region 1 with fail
 rw[<- hV];clear hV;obtain⟨z0,z1,z2,z3,z4,z5⟩:=ZV.out.1;simp only[gG]at z0 z1 z2 z3 z4 z5;have hzv:=ZV.out.2;go_wp2_with fail
 refine (HBI.out _ BV.out).mono ?_;rintro e w1 ⟨rfl,rfl⟩;cases t
 .have hno:¬ z.r∈bs:=of_decide_eq_false HT.out;obtain⟨r,hr⟩:=HR.out.st hno;rcases QQ8 z.r rs 0 with⟨_,q⟩ | ⟨k,r',q1,q2,q3⟩
  .rw[hr]at q;cases q
  .rw[hr]at q3;cases q3;rw[gG]at q1;have hlt:k<rn:=by have hz:rs.length=rn:=(HB.out w (gC _ _)).cl.ri.len;have:=(gY.1 q2).1;omega
   obtain⟨g,off,r2,rfl,hr2,hra,hri⟩:=(HB.out _ BV.out).cl.ri.at hlt
   rw[q2]at hr2;cases hr2;obtain⟨x0,x1,x2,x3⟩:=(HB.out _ BV.out).bx;simp only at x0 x1 x2 x3;have hbl:b<V.heap.size:=zL V _ x0;have hgl:g<V.heap.size:=hra.lt;have hlt':(k:Int)<(rn:Int):=by omega
   obtain⟨u0,u1⟩:=HR.out.le r (gO q2);obtain⟨u,hu⟩:∃u:Nat,r.u=(u:Int):=gP u0;obtain⟨s1,s2,s3⟩:=HRC.out k r q2;have hus:u<=r.sn:=by omega
   have HPL:Hid (∀W,Below V.heap.size V W->CP 149 #[.pointer (some ⟨b,0,none⟩),iv z.r] W fun e w'=>e=.returned (iv (k:Int))/\W=w'):=fun W q=>by rw[<- q1];exact HPL0.out W (BV.out.trans (q.mono BV.out.size))
   have HSU:Hid (∀W,CP 116 #[.agg #[iv r.i,iv r.u,.slice r.sa r.sn r.sc,.slice r.la r.ln r.lc]] W fun e w'=>e=.returned (.slice r.sa u r.sc)/\Below W.heap.size W w'):=fun W=>qJd r u W hu hus s1 s2
   have HE:Hid (qC4 (r.ss.take u) z.st=K):=by
    show _=K
    rw[<- HK.out,hr];show _=qC4 (r.ss.take r.u.toNat) z.st
    rw[hu,kS]
   have HCN:Hid (∀W,Below V.heap.size V W->CP 115 #[.slice r.sa u r.sc,.agg #[iv z.k,iv z.e,iv z.f,iv z.s,iv z.n]] W fun e w'=>e=.returned (.bool (qC4 (r.ss.take u) z.st))/\Below W.heap.size W w'):=fun W q=>qE8 r.sa u r.sc (r.ss.take u) z.st W (by omega) (qNf (hri.below q).said hus)
   obtain⟨c0,c1,c2,c3⟩:=hra;clear hno hr q1 q2 hri hu u0 u1 s1 s2 s3 hus HK HT HR HRC HPL0 HBI;go_upto_region 3 with fail
   refine gL (S:=fun w'=>(∀b o,b<V.heap.size->w'.cell? ⟨b,o,none⟩=V.cell? ⟨b,o,none⟩)/\Below V.heap.size V w') (by kernel_rfl) (qA8 _) (fun hHeld=>?_);refine Zk.go [0,1,2,3,4,5,6,11,12] ?_
   iterate 9
    refine Zk.st (v:=?_) rfl ?_ ?_;rotate_left 1
    .intro w hSw;(try dsimp only at hSw);go_simp;try (with_reducible rfl)
    try simp only[Act.put,zA,zB,zC,zD,zE,zF]
   refine Zk.fin ?_;refine Zk.rd (i:=7) rfl (fun K hK=>?_);go_simp;refine (HPL.out _ hHeld.2).mono ?_;rintro d wA ⟨rfl,rfl⟩;have hS:=hHeld;refine hK.out _ _ hS (fun hHeld=>?_);clear hK K;try simp only[Act.put,zA,zB,zC,zD,zE,zF]
   refine Zk.go [8,9] ?_
   iterate 2
    refine Zk.st (v:=?_) rfl ?_ ?_;rotate_left 1
    .intro w hSw;(try dsimp only at hSw);go_simp;try (with_reducible rfl)
    try simp only[Act.put,zA,zB,zC,zD,zE,zF]
   refine Zk.fin ?_;refine Zk.rd (i:=10) rfl (fun K hK=>?_);go_simp;refine (HSU.out _).mono ?_;rintro d wA ⟨rfl,hbA⟩;have hS:=qA0 hHeld hbA;refine hK.out _ _ hS (fun hHeld=>?_);clear hK K;try simp only[Act.put,zA,zB,zC,zD,zE,zF]
   refine Zk.rd (i:=13) rfl (fun K hK=>?_);go_simp;refine (HCN.out _ hHeld.2).mono ?_;rintro d wB ⟨rfl,hbB⟩;have hS:=qA0 hHeld hbB;refine hK.out _ _ hS (fun hHeld=>?_);clear hK K;try simp only[Act.put,zA,zB,zC,zD,zE,zF]
   refine Zk.rd (i:=14) rfl (fun K hK=>?_);go_simp;refine hK.out _ _ (by assumption) (fun hHeld=>?_);clear hK K;try simp only[Act.put,zA,zB,zC,zD,zE,zF]
   refine gZ (by kernel_rfl) ?_ _;have B2:=qB4 (BV.out.trans (hHeld.2.mono BV.out.size));clear hS hHeld;go_wp2;go_ret;exact⟨by rw[<- HE.out];rfl,B2.out⟩
 .have HE:Hid (true=K):=by show _=K;rw[<- HK.out];rfl
  go_wp2;go_ret;exact⟨by rw[<- HE.out];rfl,BV.out⟩
theorem qGJ(E:qH3)(b:Nat)(c:ClI)(w:World)(h:KuI w b c)(hle:qFK c)(hk:qW7 c.cs c.bs=0)(hr:qR3 E c.cs c.bs c.rs=0):
  CP 47 #[.pointer (some ⟨b,0,none⟩)] w fun e w'=>e=.returned (iv (QT2 (f0C c.cs) c.bs c.rs c.zs))/\Below w.heap.size w w':=by
 obtain⟨hcf,_,f1,f2,hl1⟩:=QQ9 hk;obtain⟨hmp,hrc⟩:=qHY hr;have hcn:0<c.cn:=by have:=h.cl.ci.len;omega
 have HF:Hid (∀W,Below w.heap.size w W->CP 89 #[.pointer (some ⟨b,0,none⟩)] W fun e w'=>e=.returned (iv (f0C c.cs))/\Below W.heap.size W w'):=fun W q=>(qKY b c W (h.below q) hcn).mono fun e w' z=>⟨z.1,by rw[<- z.2];exact gC _ _⟩
 have HSF:Hid (∀W,Below w.heap.size w W->CP 94 #[.slice c.za c.zn c.zc,iv (f0C c.cs)] W fun e w'=>e=.returned (iv (qF2 (f0C c.cs) c.zs))/\Below W.heap.size W w'):=fun W q=>qW4 c.za c.zn c.zc c.zs (f0C c.cs) W hle.zn hle.zc.1 hle.zc.2 (h.cl.zi.below q)
 have HRT:Hid (qF2 (f0C c.cs) c.zs=0->∀z∈c.zs,qY9 c.bs c.rs z):=fun q z hz=>by
  obtain⟨_,_,q3⟩:=qJl q;obtain⟨q4,q5⟩:=(qD3 _ _ _).1 (q3 z hz).1;refine⟨fun hno=>QV3 hmp ?_,fun r hr=>?_⟩
  .unfold qO0;refine QC6.2 ⟨q4,by omega,hno⟩
  .obtain⟨k,e⟩:=jW.1 hr;have:=qHZ (hrc r hr) (h.cl.ri.each k r e).said.1;exact⟨this.1.1,this.1.2.1⟩
 have HST:Hid (∀z W,Below w.heap.size w W->qY9 c.bs c.rs z->CP 95 #[.pointer (some ⟨b,0,none⟩),.agg #[iv z.r,iv z.k,iv z.e,iv z.f,iv z.s,iv z.n]] W fun e w'=>e=.returned (.bool (qZ0 c.bs c.rs z))/\Below W.heap.size W w'):=fun z W q hz=>qJe b c z W (h.below q) hle hz
 obtain⟨ca,cn,cc,cs,ba,bn,bc,bs,ra,rn,rc,rs,za,zn,zc,zs⟩:=c;have HB:Hid (∀W,Below w.heap.size w W->KuI W b ⟨ca,cn,cc,cs,ba,bn,bc,bs,ra,rn,rc,rs,za,zn,zc,zs⟩):=fun W q=>h.below q
 simp only at HF HSF HRT HST f1 f2 ⊢
 have hzn:zn<=1048576:=hle.zn;have hn':(zn:Int)<=1048576:=by omega
 have HZ:=hJJ h.cl.zi.1;obtain⟨f,hf⟩:∃f,f0C cs=f:=⟨_,rfl⟩;rw[hf]at HF HSF HRT f1 f2 ⊢
 obtain⟨s,hs⟩:∃s,qF2 f zs=s:=⟨_,rfl⟩;obtain⟨K,hK⟩:∃K,QT2 f bs rs zs=K:=⟨_,rfl⟩;have HK:Hid ((if s=0 then qD6 (qJ0 bs rs) zs else s)=K):=by show _=K;rw[<- hK,<- hs];rfl
 rw[hs]at HSF HRT;rw[hK];obtain⟨x0,x1,x2,x3⟩:=h.bx;simp only at x0 x1 x2 x3;have hbl:b<w.heap.size:=zL w _ x0;clear h hle hk hr hcf hl1 hmp hrc hcn f1 f2 hf hs hK hzn;go_enter func47,ntmps47;go_upto_region 1 with fail
 go_region_held3 (fun w'=>(∀b o,b<w.heap.size->w'.cell? ⟨b,o,none⟩=w.cell? ⟨b,o,none⟩)/\Below w.heap.size w w') (first | exact hS | exact qA8 _)
  (first
   | (go_at_call 89;refine (HF.out _ (by first | exact hHeld.2 | exact hS.2 | exact (gC _ _).drew)).mono ?_;rintro e w' ⟨rfl,hbz⟩;have hS:=qA0 (by assumption) hbz)
   | (go_at_call 94;refine (HSF.out _ (by first | exact hHeld.2 | exact hS.2 | exact (gC _ _).drew)).mono ?_;rintro e w' ⟨rfl,hbz⟩;have hS:=qA0 (by assumption) hbz))
 have B1:=qB4 hS.2;clear hS x0 x1 x2 x3 hbl HF HSF;by_cases s0:s=0
 .have HR2:Hid (∀z∈zs,qY9 bs rs z):=HRT.out s0;have HE:Hid (qD6 (qJ0 bs rs) zs=K):=by show _=K;rw[<- HK.out,gK s0]
  subst s0;clear HK HRT;rename_i V _;obtain⟨x0,x1,x2,x3⟩:=(HB.out _ B1.out).bx;simp only at x0 x1 x2 x3;have hbv:b<_:=zL _ _ x0;go_wp2_with fail
  go_loopw [21] (fun i wr=>∃j:Nat,j<=zn/\i=iv (j:Int)/\Hid (qD6 (qJ0 bs rs) (zs.drop j)=K)/\Hid (Below w.heap.size w wr)) (fun i _=>zn-(intOf i).toNat)
  case atStart=>exact⟨0,gH _,rfl,HE.out,B1⟩
  case round =>
   obtain⟨j,hj,rfl,HJ,BN⟩:=hrel;clear x0 x1 x2 x3 hbv B1;by_cases hlt:j<zn
   .obtain⟨g,off,z,e2,hz,hza,hgl⟩:=(HB.out _ BN.out).cl.zi.at hlt
    simp only at e2;subst e2;have HJ2:Hid ((if qJ0 bs rs z=0 then qD6 (qJ0 bs rs) (zs.drop (j+1)) else qJ0 bs rs z)=K):=by show _=K;rw[<- HJ.out,qO7 _ hz]
    have HZR:Hid (qY9 bs rs z):=HR2.out z (gO hz);obtain⟨c0,c1,c2,c3,c4,c5⟩:=hza;have hlt':(j:Int)<(zn:Int):=by omega
    obtain⟨V,hV⟩:∃V,V=wr.alloc (.cells #[iv z.r,iv z.k,iv z.e,iv z.f,iv z.s,iv z.n] 121):=⟨_,rfl⟩;obtain⟨q,hq⟩:∃q,q=wr.heap.size:=⟨_,rfl⟩;have BV:=qB4 (BN.out.trans (by rw[hV];exact (gC _ _).alloc BN.out.size _:Below w.heap.size wr V));have ZV:Hid (QH9 V q 0 z/\q<V.heap.size):=by rw[hV,hq];exact⟨QH9.new wr z _,by simp⟩
    obtain⟨t,ht⟩:∃t,qZ0 bs rs z=t:=⟨_,rfl⟩
    have HJ3:Hid ((if z.k=4 then 1 else if t=true then qD6 (qJ0 bs rs) (zs.drop (j+1)) else 7)=K):=by
     show _=K
     rw[<- HJ2.out];unfold qJ0;rw[ht];by_cases e4:z.k=4
     .simp[e4]
     .cases t <;> simp[e4]
    have HST2:Hid (CP 95 #[.pointer (some ⟨b,0,none⟩),.agg #[iv z.r,iv z.k,iv z.e,iv z.f,iv z.s,iv z.n]] V fun e w'=>e=.returned (.bool t)/\Below V.heap.size V w'):=by show Calls _ _ _ _ _;rw[<- ht];exact HST.out z V BV.out HZR.out
    obtain⟨x0,x1,x2,x3⟩:=(HB.out _ BN.out).bx;simp only at x0 x1 x2 x3;have hbw:b<wr.heap.size:=zL wr _ x0;clear hz ht HJ HJ2 HZR;go_upto_region 7 with fail
    rw[<- hV,<- hq];clear hV hq x0 x1 x2 x3 hbw c0 c1 c2 c3 c4 c5 hgl BN wr;obtain⟨z0,z1,z2,z3,z4,z5⟩:=ZV.out.1;simp only[gG]at z0 z1 z2 z3 z4 z5;have hqv:=ZV.out.2;by_cases e4:z.k=4
    .have b4:(z.k==4)=true:=by simp[e4]
     have HN:Hid (1=K):=by show _=K;rw[<- HJ3.out,gK e4]
     clear e4 HJ3;go_wp2_with fail
     go_ret;exact⟨by rw[<- HN.out];rfl,BV.out⟩
    .have b4:(z.k==4)=false:=by simp[e4]
     have HN:Hid ((if t=true then qD6 (qJ0 bs rs) (zs.drop (j+1)) else 7)=K):=by show _=K;rw[<- HJ3.out,gI e4]
     clear e4 HJ3;go_wp2_with fail
     refine HST2.out.mono ?_;rintro e w2 ⟨rfl,hb2⟩;have B2:=qB4 (BV.out.trans (hb2.mono BV.out.size));clear hb2 z0 z1 z2 z3 z4 z5 hqv;cases t
     .have HE2:Hid (7=K):=HN.out;go_wp2;go_ret;exact⟨by rw[<- HE2.out];rfl,B2.out⟩
     .have HE2:Hid (qD6 (qJ0 bs rs) (zs.drop (j+1))=K):=HN.out;clear HN;go_wp2;exact⟨⟨j+1,by omega,by go_num,HE2,B2⟩,by simp[intOf];omega⟩
   .have hjn:j=zn:=by omega
    subst hjn;have HE2:Hid (K=0):=by show K=0;rw[<- HJ.out,jH (by rw[HZ.out];exact gB _)];rfl
    go_wp2;go_ret;exact⟨by rw[HE2.out];rfl,BN.out⟩
 .have kb:(s != 0)=true:=by simp[s0]
  have HE:Hid (s=K):=by show _=K;rw[<- HK.out,gI s0]
  clear s0 HK HRT;go_wp2;go_ret;exact⟨by rw[<- HE.out];rfl,B1.out⟩
