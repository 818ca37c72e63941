/- Contracts. -/
import Derived.Test.YtdghpccmdnnenaaGreatDoorPx27
namespace Go.Proofs.YtdghpccmdnnenaaGreatDoor
set_option maxRecDepth 100000
set_option maxHeartbeats 8000000
open Go.RowKit Go.Proofs.Tryz
set_option linter.unusedVariables false
set_option linter.unusedSimpArgs false
section
open Go.RowKit Go.Maps
theorem QW3{w w':World}{Bd g j:Nat}{ys:List Int}(h:∀q y,ys[q]?=some y->w.cell? ⟨g,q,none⟩=some (iv y))(hg:g<Bd)(hb:Below Bd w w'):∀q u,((ys.take j).map (Value.int .i64))[q]?=some u->w'.cell? ((⟨g,0,none⟩:Addr).add q)=some u:=by
 intro q u hq;rw[jI]at hq;obtain⟨y,hy,rfl⟩:=Option.map_eq_some_iff.1 hq;rw[jJ]at hy;split at hy
 .rw[gR,gG,hb.cell (p:=⟨g,q,none⟩) hg];exact h q y hy
 .cases hy
theorem QW4{w w':World}{Bd g j:Nat}{ys:List Int}(h:∀q y,ys[q]?=some y->w.cell? ⟨g,q,none⟩=some (iv y))(hg:g<Bd)(hb:Below Bd w w'):∀q u,((ys.drop j).map (Value.int .i64))[q]?=some u->w'.cell? ((⟨g,j,none⟩:Addr).add q)=some u:=by
 intro q u hq;rw[jI]at hq;obtain⟨y,hy,rfl⟩:=Option.map_eq_some_iff.1 hq;rw[List.getElem?_drop]at hy;rw[gR,hb.cell (p:=⟨g,j+q,none⟩) hg];exact h (j+q) y hy
theorem qY3{w:World}{b:Nat}{v:Value}{n:Nat}{xs:List Value}(h:w.ownsRow b 2 1 v n xs)(hv:v≠.slice none 0 0):∃g cap,v=.slice (some ⟨g,0,none⟩) n cap:=by
 rcases h.2 with⟨h',_⟩ | ⟨g,cap,cur,h',_⟩
 .exact absurd h' hv
 .exact⟨g,cap,h'⟩
theorem qFr{w:World}{B g m cap:Nat}{ys:List Int}(h:qX7 w B (.slice (some ⟨g,0,none⟩) m cap) ys)(hm:ys.length=m):∀q y,ys[q]?=some y->w.cell? ⟨g,q,none⟩=some (iv y):=fun q y e=>by
 subst hm
 have hq:q<ys.length:=by
  by_cases c:q<ys.length
  .exact c
  .rw[gE (by omega)]at e;cases e
 have h0:w.ownsRow B 2 1 (.slice (some ⟨g,0,none⟩) ys.length cap) ys.length (ys.map (Value.int .i64)):=h;have:=h0.cellAt q (show q<ys.length*1 by omega);rw[this,jI,e];rfl
theorem QI8{w:World}{B g m cap:Nat}{ys:List Int}(h:qX7 w B (.slice (some ⟨g,0,none⟩) m cap) ys):B<=g/\g<w.heap.size/\ys.length=m/\m<=cap/\cap<=maxLen:=by
 have h0:w.ownsRow B 2 1 (.slice (some ⟨g,0,none⟩) m cap) ys.length (ys.map (Value.int .i64)):=h;have hl:=h0.lt g rfl;rcases h0.2 with⟨h1,_⟩ | ⟨g',cap',cur,h1,_,_,h3,h4,_⟩
 .simp at h1
 .simp at h1;exact⟨hl.1,hl.2,by omega,by omega,by omega⟩
theorem QW1{w w':World}{B:Nat}{v:Value}{ys:List Int}(h:qX7 w B v ys)(hb:Below w.heap.size w w'):qX7 w' B v ys:=((QV8 h).below hb).out
theorem kpQ{B:Nat}{w w':World}(hb:Below B w w'):(∀b o,b<B->w'.cell? ⟨b,o,none⟩=w.cell? ⟨b,o,none⟩)/\Below B w w' :=
 ⟨fun b o h=>hb.cell (p:=⟨b,o,none⟩) h,hb⟩
theorem qU0{P:Program}{w:World}{ops:Array Oper}{o:Oper}{a:Act}{K:Act->World->Prop}{Q:Exit->Act->World->Prop}{E:Prop}(hgd:o.guard=none)(s x:Operand)(t:TypeId)(ho:o.op=.call { callee:=.builtin .append,args:=#[s,x],argTypes:=#[t,t] })(base:Nat)(e:TypeId)(i:TypeInfo)(z:Value)(size bytes:Nat)(ht:P.underlying t=some (.slice e))(hi:P.info? e=some i)(hz:i.zero=some z)(hsize:i.size=size)(hby:i.bytes=bytes)(hzs:z.cells.size=size)(hsz:0<size)(v:Value)(n:Nat)(xs:List Value)(hs:a.eval s=v)(hown:w.ownsRow base e size v n xs)(ad:Addr)(m c:Nat)(news:List Value)(hx:a.eval x=.slice (some ad) m c)(hl:news.length=m*size)(hnews:∀j u,news[j]?=some u->w.cell? (ad.add j)=some u)(h1:∀u∈news,u.oneCell'=true)(h63:n+m<=maxLen)(hbytes:(n+m)*bytes<=140737488355328)(hbase:base<=w.heap.size)(h:∀v' w',w'.ownsRow base e size v' (n+m) (xs++news)->w.grownBy w' v.ownBlock->(v'=.slice none 0 0↔v=.slice none 0 0/\m=0)->K (a.put o.dst v') w'):
  if Region.wanted o (yielded ops a.tmps)=true then Oper.wp P o a w K Q else E:=by
 have hw:Region.wanted o (yielded ops a.tmps)=true:=by simp[Region.wanted,hgd]
 rw[gK hw];exact wp_append_own w s x t ho base e i z size bytes ht hi hz hsize hby hzs hsz v n xs hs hown ad m c news hx hl hnews h1 h63 hbytes hbase h
theorem qDC(a:Option Addr)(n cap:Nat)(zs:List ShI)(x:StI)(w:World)(hn:n<=1000)(h:qX6 w a n zs):
  CP 155 #[.slice a n cap,.agg #[iv x.k,iv x.e,iv x.f,iv x.s,iv x.n]] w fun e w'=>∃(g c:Nat),e=.returned (.slice (some ⟨g,0,none⟩) (sgL zs x).length c)/\qX7 w' w.heap.size (.slice (some ⟨g,0,none⟩) (sgL zs x).length c) (sgL zs x)/\Below w.heap.size w w':=by
 have HZ:=hJJ h.1;have hn':(n:Int)<=1000:=by omega
 obtain⟨i0,hi,hz0,hz1,hz2⟩:=jT Tryz.infoI2;obtain⟨V,hV⟩:∃V,V=w.alloc (.cells #[iv x.k,iv x.e,iv x.f,iv x.s,iv x.n] 50):=⟨_,rfl⟩;have BV:Below w.heap.size w V:=by rw[hV];exact zN
 have HX:Hid (qM9 V w.heap.size 0 x):=by rw[hV];exact qM9.new w x _
 have hwV:w.heap.size<V.heap.size:=by rw[hV];simp
 have HBV:=hJJ BV;have HS:Hid (qX6 V a n zs):=h.below BV;obtain⟨W,hW⟩:∃W,W=V.alloc (.cells #[] 2):=⟨_,rfl⟩;have OW:Hid (qX7 W V.heap.size (.slice (some ⟨V.heap.size,0,none⟩) 0 0) []):=by rw[hW];exact kH (base:=V.heap.size) (e:=2) (size:=1) V #[] 0 (gB _) (gH _) rfl
 have BW:Hid (Below V.heap.size V W):=by rw[hW];exact zN
 have HE:Hid (W=(w.alloc (.cells #[iv x.k,iv x.e,iv x.f,iv x.s,iv x.n] 50)).alloc (.cells #[] 2)/\V.heap.size=w.heap.size+1):=⟨by rw[hW,hV],by rw[hV];simp⟩;clear h BV hV hW;go_enter func155,ntmps155;go_wp2;rw[<- HE.out.1,<- HE.out.2];go_loopw [5,6] (fun v i wr=>∃(k g c:Nat),k<=n/\i=iv (k:Int)/\v=.slice (some ⟨g,0,none⟩) (qX5 zs x k).length c/\qX7 wr V.heap.size (.slice (some ⟨g,0,none⟩) (qX5 zs x k).length c) (qX5 zs x k)/\Below V.heap.size V wr) (fun _ i _=>n-(intOf i).toNat)
 case atStart=>exact⟨0,V.heap.size,0,gH _,rfl,rfl,OW.out,BW.out⟩
 case round =>
  obtain⟨k,g,cap1,hk,rfl,rfl,hown,hvx⟩:=hrel;obtain⟨ys,hys⟩:∃ys,qX5 zs x k=ys:=⟨_,rfl⟩;have HYS:=hJJ hys;rw[hys]at hown ⊢
  obtain⟨m,hm⟩:∃m,ys.length=m:=⟨_,rfl⟩;have HM:=hJJ hm;rw[hm]at hown ⊢
  have hmk:m<=1000:=by have:=qEJ zs x k;rw[hys,hm]at this;omega
  have hmk':(m:Int)<=1000:=by omega
  obtain⟨p1,p2,p3,p4,p5⟩:=QI8 hown;have HCP:Hid (m<=cap1/\cap1<=maxLen):=⟨p4,p5⟩;by_cases hlt:k<n
  .obtain⟨b,off,z,rfl,hz,hza,hbl⟩:=HS.out.at hlt
   have hlt':(k:Int)<(n:Int):=by omega
   have hk0:(0:Int)<=(k:Int):=by omega
   obtain⟨U,hU⟩:∃U,U=wr:=⟨_,rfl⟩;rw[<- hU]at hown hvx p2 ⊢
   clear hU;have HO:=hJJ hown;have HR:Hid (∀q y,ys[q]?=some y->U.cell? ⟨g,q,none⟩=some (iv y)):=qFr hown hm;have hgU:g<U.heap.size:=p2;have BVU:=hJJ hvx;have BU:=hJJ hvx;have hblU:b<U.heap.size:=gD hbl hvx.size;have HZA:=hJJ hza;obtain⟨d0,d1,d2,d3,d4,d5⟩:=hza.below hvx hbl;obtain⟨x0,x1,x2,x3,x4⟩:=HX.out.below hvx hwV;simp only[gG]at x0 x1 x2 x3 x4;have hwU:w.heap.size<U.heap.size:=gD hwV hvx.size;cases hsame:qJ1 z.st x
   .have hse:∀w:World,(binOp .neq 50 (.agg #[iv z.k,iv z.e,iv z.f,iv z.s,iv z.n]) (.agg #[iv x.k,iv x.e,iv x.f,iv x.s,iv x.n])).run prog w=.ok (.bool true) w:=fun w=>by have:=qHG z.st x w;rw[hsame]at this;exact this
    have HN:Hid (qX5 zs x (k+1)=ys):=by show _=_;rw[QN9 hz hsame];exact HYS.out
    clear hz hza hown hys hm hsame p1 p2 p3 p4 p5;go_wp2;go_quiet (fail)
    have HEND:Hid (∀q,qX7 (U.drewN q) V.heap.size (.slice (some ⟨g,0,none⟩) m cap1) ys/\Below V.heap.size V (U.drewN q)):=fun q=>⟨QW1 HO.out (below_drewN (gC _ _) _),below_drewN BVU.out _⟩
    go_wp2;exact⟨⟨k+1,g,cap1,by omega,by go_num,by rw[HN.out,HM.out],by rw[HN.out,HM.out];exact (HEND.out _).1,(HEND.out _).2⟩,by simp[intOf];omega⟩
   .have hse:∀w:World,(binOp .neq 50 (.agg #[iv z.k,iv z.e,iv z.f,iv z.s,iv z.n]) (.agg #[iv x.k,iv x.e,iv x.f,iv x.s,iv x.n])).run prog w=.ok (.bool false) w:=fun w=>by have:=qHG z.st x w;rw[hsame]at this;exact this
    have HN:Hid (qX5 zs x (k+1)=qCO z.r ys):=by show _=_;rw[QZ5 hz hsame,HYS.out]
    clear hz hza hown hys hm hsame p1 p2 p3 p4 p5;obtain⟨K,hK⟩:∃K,atI z.r ys=K:=⟨_,rfl⟩;have HK:Hid (K<=ys.length/\(∀j y,j<K->ys[j]?=some y->y<z.r)/\∀y,ys[K]?=some y->¬ y<z.r):=⟨hK ▸ qOS _ _,hK ▸ qOR _ _,hK ▸ qKt _ _⟩;by_cases hf:ys[K]?=some z.r
    .have HAT:Hid (ys[K]?=some z.r):=hf;have HNX:Hid (qX5 zs x (k+1)=ys):=by show _=_;rw[HN.out];exact QX0 _ _ (by rw[hK];exact hf)
     have hKm:K<m:=by
      have hq:K<ys.length:=by
       by_cases q:K<ys.length
       .exact q
       .rw[gE (by omega)]at hf;cases hf
      have:=HM.out;omega
     clear hf hK;go_wp2;go_quiet (fail)
     go_wp2;go_loopw [7] (fun i wr=>∃j:Nat,j<=K/\i=iv (j:Int)/\Below U.heap.size U wr) (fun i _=>K-(intOf i).toNat)
     case atStart=>exact⟨0,gH _,rfl,below_drewN (gC _ _) _⟩
     case round =>
      obtain⟨j,hj,rfl,hjx⟩:=hrel;obtain⟨d0,d1,d2,d3,d4,d5⟩:=(HZA.out.below BU.out hbl).below hjx hblU;by_cases hjK:j<K
      .obtain⟨y,hy⟩:∃y,ys[j]?=some y:=⟨_,gA (by have:=HK.out.1;omega)⟩;have hyr:y<z.r:=HK.out.2.1 j y hjK hy;have e0:=(hjx.cell (p:=⟨g,j,none⟩) hgU).trans (HR.out j y hy);have hjm:(j:Int)<(m:Int):=by have:=HK.out.1;have:=HM.out;omega
       have hj0:(0:Int)<=(j:Int):=by omega
       have b1:decide ((j:Int)<(m:Int))=true:=by simp;omega
       have b2:decide (y<z.r)=true:=by simp[hyr]
       clear hy;go_wp2;go_quiet (fail)
       go_wp2;exact⟨⟨j+1,by omega,by go_num,below_drewN hjx _⟩,by simp[intOf];omega⟩
      .have hjj:j=K:=by omega
       subst hjj;have hj0:(0:Int)<=(j:Int):=by omega
       have hjm:(j:Int)<(m:Int):=by omega
       have b1:decide ((j:Int)<(m:Int))=true:=by simp;omega
       have b2:decide (z.r<z.r)=false:=by simp
       have b3:(z.r==z.r)=true:=by simp
       have e0:=(hjx.cell (p:=⟨g,j,none⟩) hgU).trans (HR.out j z.r HAT.out);go_wp2;go_quiet (fail)
       go_wp2;go_quiet (fail)
       have HEND:Hid (∀q,qX7 (wr.drewN q) V.heap.size (.slice (some ⟨g,0,none⟩) m cap1) ys/\Below V.heap.size V (wr.drewN q)):=fun q=>⟨QW1 HO.out (below_drewN hjx _),BVU.out.trans ((below_drewN hjx _).mono BVU.out.size)⟩
       go_wp2;exact⟨⟨k+1,g,cap1,by omega,by go_num,by rw[HNX.out,HM.out],by rw[HNX.out,HM.out];exact (HEND.out _).1,(HEND.out _).2⟩,by simp[intOf];omega⟩
    .have HNX:Hid (qX5 zs x (k+1)=ys.take K++[z.r]++ys.drop K):=by
      show _=_
      rw[HN.out];have:=qEs z.r ys (by rw[hK];exact hf);rw[hK]at this;exact this
     by_cases hKm:K=m
     .have hKm1:m<=K:=by omega
      have hKm2:K<=m:=by omega
      clear hf hK hKm;go_wp2;go_quiet (fail)
      go_wp2;go_loopw [7] (fun i wr=>∃j:Nat,j<=K/\i=iv (j:Int)/\Below U.heap.size U wr) (fun i _=>K-(intOf i).toNat)
      case atStart=>exact⟨0,gH _,rfl,below_drewN (gC _ _) _⟩
      case round =>
       obtain⟨j,hj,rfl,hjx⟩:=hrel;obtain⟨d0,d1,d2,d3,d4,d5⟩:=(HZA.out.below BU.out hbl).below hjx hblU;by_cases hjK:j<K
       .obtain⟨y,hy⟩:∃y,ys[j]?=some y:=⟨_,gA (by have:=HK.out.1;omega)⟩;have hyr:y<z.r:=HK.out.2.1 j y hjK hy;have e0:=(hjx.cell (p:=⟨g,j,none⟩) hgU).trans (HR.out j y hy);have hjm:(j:Int)<(m:Int):=by have:=HK.out.1;have:=HM.out;omega
        have hj0:(0:Int)<=(j:Int):=by omega
        have b1:decide ((j:Int)<(m:Int))=true:=by simp;omega
        have b2:decide (y<z.r)=true:=by simp[hyr]
        clear hy;go_wp2;go_quiet (fail)
        go_wp2;exact⟨⟨j+1,by omega,by go_num,below_drewN hjx _⟩,by simp[intOf];omega⟩
       .have hjj:j=K:=by omega
        subst hjj;have hjm:j=m:=by omega
        subst hjm;have b1:decide ((j:Int)<(j:Int))=false:=by simp
        go_wp2;go_quiet (fail)
        obtain⟨nq1,rfl⟩:∃q,q=nq:=⟨_,rfl⟩;go_wp2;go_quiet (fail)
        have hbj:=hjx;obtain⟨w5,hw5⟩:∃w5,w5=(wr.drewN nq1).drewN nq:=⟨_,rfl⟩;rw[<- hw5];have BV5:Hid (Below V.heap.size V w5):=by rw[hw5];exact BVU.out.trans ((below_drewN (below_drewN hjx _) _).mono BVU.out.size)
        have BU5:Below U.heap.size U w5:=by rw[hw5];exact below_drewN (below_drewN hjx _) _
        obtain⟨c0,_,_,_,_,_⟩:=(HZA.out.below BU.out hbl).below BU5 hblU;have HR5:Hid (∀q y,ys[q]?=some y->w5.cell? ⟨g,q,none⟩=some (iv y)):=fun q y e=>(BU5.cell (p:=⟨g,q,none⟩) hgU).trans (HR.out q y e)
        have hg5:g<w5.heap.size:=gD hgU BU5.size;have hb5:b<w5.heap.size:=gD hblU BU5.size;clear hw5 hbj d0 d1 d2 d3 d4 d5;have H5:Hid ((w5.alloc (.cells #[] 2)).ownsRow w5.heap.size 2 1 (.slice (some ⟨w5.heap.size,0,none⟩) 0 0) 0 []):=kH (base:=w5.heap.size) (e:=2) (size:=1) w5 #[] 0 (gB _) (gH _) rfl;have hkc:(j:Int)<=(cap1:Int):=by have:=HCP.out;omega
        have hkm:(j:Int)<=(j:Int):=by omega
        have hj0':(0:Int)<=(j:Int):=by omega
        go_wp2_with (first
         | (at_builtin;refine jG _ rfl _ _ 23 rfl w5.heap.size 2 i0 (iv 0) 1 8 underlying23 hi hz0 hz1 hz2 rfl (by decide) (.slice (some ⟨w5.heap.size,0,none⟩) 0 0) 0 [] rfl H5.out ⟨g,0,none⟩ j cap1 ((ys.take j).map (Value.int .i64)) rfl (by rw[kD,kI,HM.out];omega) (QW3 HR5.out hg5 (zN)) (fun u hu=>by obtain⟨q,_,rfl⟩:=kU.1 hu;rfl) (by unfold maxLen;omega) (by omega) (by simp) ?_))
        intro v6 w6 hown6 hgrow6 hnil6;obtain⟨g6,cap6,hv6⟩:=qY3 hown6 hnil6;(try simp only[gG]at hv6)
        subst hv6
        have H6:Hid (w6.ownsRow w5.heap.size 2 1 (.slice (some ⟨g6,0,none⟩) j cap6) j ((ys.take j).map (Value.int .i64))):=by
         show w6.ownsRow w5.heap.size 2 1 _ j _
         rw[List.map_take];have h0:=hown6;(try simp only[gG,kR,List.map_take]at h0)
         exact h0
        have BW6:Hid (Below w5.heap.size w5 w6):=((gC w5.heap.size w5).alloc (gB _) _).grown hgrow6 (by simp) (fun q e=>by simp[Value.ownBlock]at e;omega);have hz6:w5.heap.size+1<=w6.heap.size:=by have:=hgrow6.size;simp at this;omega
        have s0:w6.cell? ⟨b,off+k*6,none⟩=some (iv z.r):=(BW6.out.cell (p:=⟨b,off+k*6,none⟩) hb5).trans c0;clear hown6 hgrow6 hnil6 H5 c0;go_wp2_with fail
        refine gL (S:=fun w'=>(∀b o,b<w5.heap.size->w'.cell? ⟨b,o,none⟩=w6.cell? ⟨b,o,none⟩)/\Below w5.heap.size w6 w') (by kernel_rfl) (kpQ ⟨rfl,rfl,rfl,gB _,fun _ _=>rfl⟩) (fun hHeld=>?_);refine Zk.go [0,1,2,3,4,5,8,9,10] ?_
        iterate 9
         refine Zk.st (v:=?_) rfl ?_ ?_;rotate_left 1
         .intro w hSw;(try dsimp only at hSw);go_simp;try (with_reducible rfl)
         try simp only[Act.put,zA,zB,zC,zD,zE,zF]
        refine Zk.fin ?_;refine Zk.rd (i:=6) rfl (fun K hK=>?_);go_simp;have hS:=kpQ (hHeld.2.alloc (by show w5.heap.size<=w6.heap.size;omega) (.cells #[iv z.r] 2));refine hK.out _ _ hS (fun hHeld=>?_);clear hK K;try simp only[Act.put,zA,zB,zC,zD,zE,zF]
        refine wpAnyH_ready (rs:=[7]) (by kernel_rfl) (by simp) ?_;refine kC rfl (fun K hK=>?_) mB;refine qU0 rfl (.tmp 62) (.tmp 68) 23 rfl w5.heap.size 2 i0 (iv 0) 1 8 underlying23 hi hz0 hz1 hz2 rfl (by decide) (.slice (some ⟨g6,0,none⟩) j cap6) j ((ys.take j).map (Value.int .i64)) (by rfl) (H6.out.alloc _) ⟨w6.heap.size,0,none⟩ 1 1 [iv z.r] (by rfl) (by rfl) (fun q u hq=>by match q,hq with | 0,hq=>simp at hq;subst hq;simp[Addr.add]) (fun u hu=>by simp at hu;subst hu;rfl) (by unfold maxLen;omega) (by omega) (by show w5.heap.size<=(w6.alloc _).heap.size;simp;omega) ?_;intro v7 w7 hown7 hgrow7 hnil7;have hS:=kpQ (hHeld.2.grown hgrow7 (by show w5.heap.size<=(w6.alloc _).heap.size;simp;omega) (fun q e=>by have:=(H6.out.lt q e).1;omega));have H7:=hJJ hown7;have N7:Hid (v7≠.slice none 0 0):=fun e=>by have:=(hnil7.1 e).1;simp at this
        clear hown7 hnil7 hgrow7;refine hK.out _ _ hS (fun hHeld=>?_);clear hK K;try simp only[Act.put,zA,zB,zC,zD,zE,zF]
        refine wpAnyH_ready (rs:=[11]) (by kernel_rfl) (by simp) ?_;refine kC rfl (fun K hK=>?_) mB;have hsl:(if cap1=j then (some ⟨g,0,none⟩:Option Addr) else some ⟨g,j,none⟩)=some (if cap1=j then ⟨g,0,none⟩ else ⟨g,j,none⟩):=by split <;> rfl
        have hnw:∀q u,((ys.drop j).map (Value.int .i64))[q]?=some u->w7.cell? ((if cap1=j then (⟨g,0,none⟩:Addr) else ⟨g,j,none⟩).add q)=some u:=by
         by_cases hck:cap1=j
         .intro q u hq;rw[jH (by rw[HM.out];have:=HCP.out.1;omega)]at hq;simp at hq
         .rw[gI hck];exact QW4 HR5.out hg5 (BW6.out.trans (hHeld.2.mono (by omega)))
        refine qU0 rfl (.tmp 69) (.tmp 72) 23 rfl w5.heap.size 2 i0 (iv 0) 1 8 underlying23 hi hz0 hz1 hz2 rfl (by decide) v7 (j+1) ((ys.take j).map (Value.int .i64)++[iv z.r]) (by rfl) H7.out _ 0 (cap1-j) ((ys.drop j).map (Value.int .i64)) (by rw[<- hsl];rfl) (by rw[kD,kW,HM.out];omega) hnw (fun u hu=>by obtain⟨q,_,rfl⟩:=kU.1 hu;rfl) (by unfold maxLen;omega) (by omega) (by have h1:=hHeld.2.size;omega) ?_;intro v8 w8 hown8 hgrow8 hnil8;have hS:=kpQ (hHeld.2.grown hgrow8 (by have h1:=hHeld.2.size;omega) (fun q e=>by have:=(H7.out.lt q e).1;omega));have H8:=hJJ hown8;have N8:Hid (v8≠.slice none 0 0):=fun e=>N7.out (hnil8.1 e).1
        clear hown8 hnil8 hgrow8;refine hK.out _ _ hS (fun hHeld=>?_);clear hK K;try simp only[Act.put,zA,zB,zC,zD,zE,zF]
        refine Zk.rd (i:=12) rfl (fun K hK=>?_);go_simp;refine hK.out _ _ (by assumption) (fun hHeld=>?_);clear hK K;try simp only[Act.put,zA,zB,zC,zD,zE,zF]
        refine gZ (by kernel_rfl) ?_ _;obtain⟨g8,cap8,hv8⟩:=qY3 H8.out N8.out;subst hv8;have BF:Hid (Below V.heap.size V w8):=(BV5.out.trans (BW6.out.mono BV5.out.size)).trans (hHeld.2.mono (by have:=BV5.out.size;omega));have E3:Hid (j+1+0=(qX5 zs x (k+1)).length):=by show j+1+0=_;rw[HNX.out];have:=HM.out;simp;omega
        have HF:Hid (qX7 w8 V.heap.size (.slice (some ⟨g8,0,none⟩) (j+1+0) cap8) (qX5 zs x (k+1))):=by
         have h8:=H8.out;refine QG3 (B:=w5.heap.size) ?_ (BV5.out.size);show World.ownsRow _ w5.heap.size 2 1 _ (qX5 zs x (k+1)).length ((qX5 zs x (k+1)).map (Value.int .i64))
         rw[<- E3.out,HNX.out,List.map_append,List.map_append];exact h8
        clear hsl hnw H8 N8 H7 N7 hHeld;go_wp2_with fail
        exact⟨⟨k+1,g8,cap8,by omega,by go_num,by rw[<- E3.out],by rw[<- E3.out];exact HF.out,BF.out⟩,by simp[intOf];omega⟩
     .have hKl:K<m:=by have:=HK.out.1;have:=HM.out;omega
      have HAT:Hid (∃y,ys[K]?=some y/\¬ y<z.r/\y≠z.r):=by
       obtain⟨y,hy⟩:∃y,ys[K]?=some y:=⟨_,gA (by have:=HM.out;omega)⟩;exact⟨y,hy,HK.out.2.2 y hy,fun e=>hf (by rw[<- e];exact hy)⟩
      clear hf hK hKm;go_wp2;go_quiet (fail)
      go_wp2;go_loopw [7] (fun i wr=>∃j:Nat,j<=K/\i=iv (j:Int)/\Below U.heap.size U wr) (fun i _=>K-(intOf i).toNat)
      case atStart=>exact⟨0,gH _,rfl,below_drewN (gC _ _) _⟩
      case round =>
       obtain⟨j,hj,rfl,hjx⟩:=hrel;obtain⟨d0,d1,d2,d3,d4,d5⟩:=(HZA.out.below BU.out hbl).below hjx hblU;by_cases hjK:j<K
       .obtain⟨y,hy⟩:∃y,ys[j]?=some y:=⟨_,gA (by have:=HK.out.1;omega)⟩;have hyr:y<z.r:=HK.out.2.1 j y hjK hy;have e0:=(hjx.cell (p:=⟨g,j,none⟩) hgU).trans (HR.out j y hy);have hjm:(j:Int)<(m:Int):=by have:=HK.out.1;have:=HM.out;omega
        have hj0:(0:Int)<=(j:Int):=by omega
        have b1:decide ((j:Int)<(m:Int))=true:=by simp;omega
        have b2:decide (y<z.r)=true:=by simp[hyr]
        clear hy;go_wp2;go_quiet (fail)
        go_wp2;exact⟨⟨j+1,by omega,by go_num,below_drewN hjx _⟩,by simp[intOf];omega⟩
       .have hjj:j=K:=by omega
        subst hjj;have hj0:(0:Int)<=(j:Int):=by omega
        have hjm:(j:Int)<(m:Int):=by omega
        have b1:decide ((j:Int)<(m:Int))=true:=by simp;omega
        obtain⟨y,hy,hyr,hyn⟩:=HAT.out;have b2:decide (y<z.r)=false:=by simp;omega
        have b3:(y==z.r)=false:=by simpa using hyn
        have e0:=(hjx.cell (p:=⟨g,j,none⟩) hgU).trans (HR.out j y hy);clear hy hyr hyn;go_wp2;go_quiet (fail)
        obtain⟨nq1,rfl⟩:∃q,q=nq:=⟨_,rfl⟩;go_wp2;go_quiet (fail)
        have hbj:=hjx;obtain⟨w5,hw5⟩:∃w5,w5=(wr.drewN nq1).drewN nq:=⟨_,rfl⟩;rw[<- hw5];have BV5:Hid (Below V.heap.size V w5):=by rw[hw5];exact BVU.out.trans ((below_drewN (below_drewN hjx _) _).mono BVU.out.size)
        have BU5:Below U.heap.size U w5:=by rw[hw5];exact below_drewN (below_drewN hjx _) _
        obtain⟨c0,_,_,_,_,_⟩:=(HZA.out.below BU.out hbl).below BU5 hblU;have HR5:Hid (∀q y,ys[q]?=some y->w5.cell? ⟨g,q,none⟩=some (iv y)):=fun q y e=>(BU5.cell (p:=⟨g,q,none⟩) hgU).trans (HR.out q y e)
        have hg5:g<w5.heap.size:=gD hgU BU5.size;have hb5:b<w5.heap.size:=gD hblU BU5.size;clear hw5 hbj d0 d1 d2 d3 d4 d5;have H5:Hid ((w5.alloc (.cells #[] 2)).ownsRow w5.heap.size 2 1 (.slice (some ⟨w5.heap.size,0,none⟩) 0 0) 0 []):=kH (base:=w5.heap.size) (e:=2) (size:=1) w5 #[] 0 (gB _) (gH _) rfl;have hkc:(j:Int)<=(cap1:Int):=by have:=HCP.out;omega
        have hkm:(j:Int)<=(m:Int):=by omega
        have hj0':(0:Int)<=(j:Int):=by omega
        go_wp2_with (first
         | (at_builtin;refine jG _ rfl _ _ 23 rfl w5.heap.size 2 i0 (iv 0) 1 8 underlying23 hi hz0 hz1 hz2 rfl (by decide) (.slice (some ⟨w5.heap.size,0,none⟩) 0 0) 0 [] rfl H5.out ⟨g,0,none⟩ j cap1 ((ys.take j).map (Value.int .i64)) rfl (by rw[kD,kI,HM.out];omega) (QW3 HR5.out hg5 (zN)) (fun u hu=>by obtain⟨q,_,rfl⟩:=kU.1 hu;rfl) (by unfold maxLen;omega) (by omega) (by simp) ?_))
        intro v6 w6 hown6 hgrow6 hnil6;obtain⟨g6,cap6,hv6⟩:=qY3 hown6 hnil6;(try simp only[gG]at hv6)
        subst hv6
        have H6:Hid (w6.ownsRow w5.heap.size 2 1 (.slice (some ⟨g6,0,none⟩) j cap6) j ((ys.take j).map (Value.int .i64))):=by
         show w6.ownsRow w5.heap.size 2 1 _ j _
         rw[List.map_take];have h0:=hown6;(try simp only[gG,kR,List.map_take]at h0)
         exact h0
        have BW6:Hid (Below w5.heap.size w5 w6):=((gC w5.heap.size w5).alloc (gB _) _).grown hgrow6 (by simp) (fun q e=>by simp[Value.ownBlock]at e;omega);have hz6:w5.heap.size+1<=w6.heap.size:=by have:=hgrow6.size;simp at this;omega
        have s0:w6.cell? ⟨b,off+k*6,none⟩=some (iv z.r):=(BW6.out.cell (p:=⟨b,off+k*6,none⟩) hb5).trans c0;clear hown6 hgrow6 hnil6 H5 c0;go_wp2_with fail
        refine gL (S:=fun w'=>(∀b o,b<w5.heap.size->w'.cell? ⟨b,o,none⟩=w6.cell? ⟨b,o,none⟩)/\Below w5.heap.size w6 w') (by kernel_rfl) (kpQ ⟨rfl,rfl,rfl,gB _,fun _ _=>rfl⟩) (fun hHeld=>?_);refine Zk.go [0,1,2,3,4,5,8,9,10] ?_
        iterate 9
         refine Zk.st (v:=?_) rfl ?_ ?_;rotate_left 1
         .intro w hSw;(try dsimp only at hSw);go_simp;try (with_reducible rfl)
         try simp only[Act.put,zA,zB,zC,zD,zE,zF]
        refine Zk.fin ?_;refine Zk.rd (i:=6) rfl (fun K hK=>?_);go_simp;have hS:=kpQ (hHeld.2.alloc (by show w5.heap.size<=w6.heap.size;omega) (.cells #[iv z.r] 2));refine hK.out _ _ hS (fun hHeld=>?_);clear hK K;try simp only[Act.put,zA,zB,zC,zD,zE,zF]
        refine wpAnyH_ready (rs:=[7]) (by kernel_rfl) (by simp) ?_;refine kC rfl (fun K hK=>?_) mB;refine qU0 rfl (.tmp 62) (.tmp 68) 23 rfl w5.heap.size 2 i0 (iv 0) 1 8 underlying23 hi hz0 hz1 hz2 rfl (by decide) (.slice (some ⟨g6,0,none⟩) j cap6) j ((ys.take j).map (Value.int .i64)) (by rfl) (H6.out.alloc _) ⟨w6.heap.size,0,none⟩ 1 1 [iv z.r] (by rfl) (by rfl) (fun q u hq=>by match q,hq with | 0,hq=>simp at hq;subst hq;simp[Addr.add]) (fun u hu=>by simp at hu;subst hu;rfl) (by unfold maxLen;omega) (by omega) (by show w5.heap.size<=(w6.alloc _).heap.size;simp;omega) ?_;intro v7 w7 hown7 hgrow7 hnil7;have hS:=kpQ (hHeld.2.grown hgrow7 (by show w5.heap.size<=(w6.alloc _).heap.size;simp;omega) (fun q e=>by have:=(H6.out.lt q e).1;omega));have H7:=hJJ hown7;have N7:Hid (v7≠.slice none 0 0):=fun e=>by have:=(hnil7.1 e).1;simp at this
        clear hown7 hnil7 hgrow7;refine hK.out _ _ hS (fun hHeld=>?_);clear hK K;try simp only[Act.put,zA,zB,zC,zD,zE,zF]
        refine wpAnyH_ready (rs:=[11]) (by kernel_rfl) (by simp) ?_;refine kC rfl (fun K hK=>?_) mB;have hsl:(if cap1=j then (some ⟨g,0,none⟩:Option Addr) else some ⟨g,j,none⟩)=some (if cap1=j then ⟨g,0,none⟩ else ⟨g,j,none⟩):=by split <;> rfl
        have hnw:∀q u,((ys.drop j).map (Value.int .i64))[q]?=some u->w7.cell? ((if cap1=j then (⟨g,0,none⟩:Addr) else ⟨g,j,none⟩).add q)=some u:=by
         by_cases hck:cap1=j
         .intro q u hq;rw[jH (by rw[HM.out];have:=HCP.out.1;omega)]at hq;simp at hq
         .rw[gI hck];exact QW4 HR5.out hg5 (BW6.out.trans (hHeld.2.mono (by omega)))
        refine qU0 rfl (.tmp 69) (.tmp 72) 23 rfl w5.heap.size 2 i0 (iv 0) 1 8 underlying23 hi hz0 hz1 hz2 rfl (by decide) v7 (j+1) ((ys.take j).map (Value.int .i64)++[iv z.r]) (by rfl) H7.out _ (m-j) (cap1-j) ((ys.drop j).map (Value.int .i64)) (by rw[<- hsl];rfl) (by rw[kD,kW,HM.out];omega) hnw (fun u hu=>by obtain⟨q,_,rfl⟩:=kU.1 hu;rfl) (by unfold maxLen;omega) (by omega) (by have h1:=hHeld.2.size;omega) ?_;intro v8 w8 hown8 hgrow8 hnil8;have hS:=kpQ (hHeld.2.grown hgrow8 (by have h1:=hHeld.2.size;omega) (fun q e=>by have:=(H7.out.lt q e).1;omega));have H8:=hJJ hown8;have N8:Hid (v8≠.slice none 0 0):=fun e=>N7.out (hnil8.1 e).1
        clear hown8 hnil8 hgrow8;refine hK.out _ _ hS (fun hHeld=>?_);clear hK K;try simp only[Act.put,zA,zB,zC,zD,zE,zF]
        refine Zk.rd (i:=12) rfl (fun K hK=>?_);go_simp;refine hK.out _ _ (by assumption) (fun hHeld=>?_);clear hK K;try simp only[Act.put,zA,zB,zC,zD,zE,zF]
        refine gZ (by kernel_rfl) ?_ _;obtain⟨g8,cap8,hv8⟩:=qY3 H8.out N8.out;subst hv8;have BF:Hid (Below V.heap.size V w8):=(BV5.out.trans (BW6.out.mono BV5.out.size)).trans (hHeld.2.mono (by have:=BV5.out.size;omega));have E3:Hid (j+1+(m-j)=(qX5 zs x (k+1)).length):=by show j+1+(m-j)=_;rw[HNX.out];have:=HM.out;simp;omega
        have HF:Hid (qX7 w8 V.heap.size (.slice (some ⟨g8,0,none⟩) (j+1+(m-j)) cap8) (qX5 zs x (k+1))):=by
         have h8:=H8.out;refine QG3 (B:=w5.heap.size) ?_ (BV5.out.size);show World.ownsRow _ w5.heap.size 2 1 _ (qX5 zs x (k+1)).length ((qX5 zs x (k+1)).map (Value.int .i64))
         rw[<- E3.out,HNX.out,List.map_append,List.map_append];exact h8
        clear hsl hnw H8 N8 H7 N7 hHeld;go_wp2_with fail
        exact⟨⟨k+1,g8,cap8,by omega,by go_num,by rw[<- E3.out],by rw[<- E3.out];exact HF.out,BF.out⟩,by simp[intOf];omega⟩
  .have hkn:k=n:=by omega
   have hlt':¬ ((k:Int)<(n:Int)):=by omega
   have HF:Hid ((sgL zs x).length=m/\sgL zs x=ys):=by
    have e:sgL zs x=ys:=by unfold sgL;rw[HZ.out,<- hkn];exact HYS.out
    exact⟨by rw[e];exact hm,e⟩
   have HO:Hid (qX7 wr w.heap.size (.slice (some ⟨g,0,none⟩) m cap1) ys):=QG3 hown (by omega);clear hown hys hm p1 p2 p3 p4 p5 hkn;go_wp2;go_ret;exact⟨g,cap1,by rw[HF.out.1];rfl,by rw[HF.out.1,HF.out.2];exact HO.out,HBV.out.trans (hvx.mono HBV.out.size)⟩
end
section
open Go.RowKit Go.Maps
def qDy(fn:Nat)(a:Option Addr)(n cap:Nat)(x:StI)(c:Int)(ys:List Int)(w:World):Prop:=Calls prog fn #[.slice a n cap,.agg #[iv x.k,iv x.e,iv x.f,iv x.s,iv x.n]] w fun e w'=>∃(ra:Option Addr) (rc:Nat),e=.returned (.agg #[iv c,.slice ra ys.length rc])/\w'.ownsRow w.heap.size 2 1 (.slice ra ys.length rc) ys.length (ys.map (Value.int .i64))/\Below w.heap.size w w'
theorem qGx(w:World)(x:StI)(T R:TypeId):∃V,V=(w.alloc (.cells #[iv x.k,iv x.e,iv x.f,iv x.s,iv x.n] T)).alloc (.cells #[iv 0,.slice none 0 0] R)/\Below w.heap.size w V/\V.heap.size=w.heap.size+1+1/\qM9 V w.heap.size 0 x/\qJ2 (w.heap.size+1) [iv 0,.slice none 0 0] V:=by
 refine⟨_,rfl,(zN).alloc (by simp) _,by simp,?_,?_⟩
 .exact (qM9.new w x T).below (zN) (by simp)
 .have q:=qI5 (w.alloc (.cells #[iv x.k,iv x.e,iv x.f,iv x.s,iv x.n] T)) #[iv 0,.slice none 0 0] R;simp only[jC]at q;exact q
theorem qOv{zs:List ShI}(h:∀z∈zs,QX3 z.r)(x:StI):∀i∈sgL zs x,QX3 i:=fun i hi=>h _ ((qMe zs x i).1 hi)
theorem qMu{zs:List ShI}{x:StI}{ys:List Int}(hr:∀z∈zs,QX3 z.r)(hu:Up ys)(hk:QL4 (fun i=>decide (i∈sgL zs x)) ys):ys=sgL zs x:=by
 refine qGv hu (qNn zs x) (fun i=>⟨fun hi=>?_,fun hi=>?_⟩)
 .have:=(hk.2.2 i (hk.2.1 i hi)).1 hi;exact kK this
 .exact (hk.2.2 i (qOv hr x i hi)).2 (jQ hi)
theorem qAL(a:Option Addr)(n cap:Nat)(zs:List ShI)(x:StI)(w:World)(hn:n<=1048576)(hr:∀z∈zs,QX3 z.r)(h:qX6 w a n zs):qDy 224 a n cap x (QU9 zs x) (qHO zs x) w:=by
 unfold qDy;obtain⟨V,hV,BV,hVs,hst,hbx⟩:=qGx w x 50 141;have HZ:=hJJ h.1;have hn':(n:Int)<=1048576:=by omega
 obtain⟨c,hc⟩:∃c,QU9 zs x=c:=⟨_,rfl⟩;obtain⟨ys,hys⟩:∃ys,qHO zs x=ys:=⟨_,rfl⟩;rw[hc,hys];have HC:Hid (c=if 120<n then 2 else qB5 x):=by show c=_;rw[<- hc];unfold QU9;rw[HZ.out]
 have HY:Hid (ys=if c=0 then sgL zs x else []):=by show ys=_;rw[<- hys,<- hc];rfl
 have HS:Hid (qX6 V a n zs):=h.below BV;have HB:=hJJ hbx;have HX:=hJJ hst;have HSZ:=hJJ hVs;have HW:=hJJ hr;clear h hc hys hVs hr;by_cases hl:120<n
 .have HC2:Hid (c=2/\ys=[]):=by
   have e:c=2:=by rw[HC.out,gK hl]
   exact⟨e,by rw[HY.out,gI (by omega)]⟩
  have hl':(120:Int)<(n:Int):=by omega
  rw[HC2.out.1,HC2.out.2];clear hV BV hst hbx HS HB HSZ HC HY;go_enter func224,ntmps224;go_wp2;go_returns
  exact⟨none,0,rfl,jB _ _ _ _,by go_grown⟩
 .have hl':¬ ((120:Int)<(n:Int)):=by omega
  have HC2:Hid (c=qB5 x):=by show c=_;rw[HC.out,gI hl]
  have HF:Hid (CP 65 #[.agg #[iv x.k,iv x.e,iv x.f,iv x.s,iv x.n]] V fun e w'=>e=.returned (iv c)/\Below V.heap.size V w'):=by rw[HC2.out];exact qB8 x V
  have hVl:w.heap.size+1<V.heap.size:=by have:=HSZ.out;omega
  have hVw:w.heap.size<V.heap.size:=by omega
  obtain⟨x0,x1,x2,x3,x4⟩:=hst;simp only[gG]at x0 x1 x2 x3 x4;by_cases c0:c=0
  .have cb:(c != 0)=false:=by simp[c0]
   have HY2:Hid (ys=sgL zs x/\c=0):=⟨by rw[HY.out,gK c0],c0⟩;clear c0 HY HC HC2 hbx;go_enter func224,ntmps224;go_wp2_with fail
   rw[<- hV];clear hV;refine HF.out.mono ?_;rintro e w1 ⟨rfl,hb1⟩;have BW1:=hJJ hb1;have hz1:=hb1.size;have hmk:(Instr.makeMap 301 none).run prog w1=.ok (.map (some w1.heap.size)) (w1.alloc (.map #[] 0)):=run_makeMap _ w1;obtain⟨M,hM⟩:∃M,M=w1.alloc (.map #[] 0):=⟨_,rfl⟩;have BM:Hid (Below w1.heap.size w1 M):=by rw[hM];exact zN
   have SM0:Hid (SM M w1.heap.size 0 (fun _=>false)):=by rw[hM];exact qMI w1
   rw[<- hM]at hmk;clear hM x0 x1 x2 x3 x4 hb1;go_wp2_with fail
   go_loopw [22] (fun i wr=>∃k:Nat,k<=n/\i=iv (k:Int)/\SM wr w1.heap.size k (fun i=>decide (i∈qX5 zs x k))/\Below w1.heap.size w1 wr) (fun i _=>n-(intOf i).toNat)
   case atStart=>exact⟨0,gH _,rfl,SM0.out.cong (fun i=>by simp[qX5]),BM.out⟩
   case round =>
    obtain⟨k,hk,rfl,hsm,hwx⟩:=hrel;have hvx:Below V.heap.size V wr:=BW1.out.trans (hwx.mono hz1);by_cases hlt:k<n
    .obtain⟨b,off,z,rfl,hz,hza,hbl⟩:=HS.out.at hlt
     have hltk:(k:Int)<(n:Int):=by omega
     obtain⟨d0,d1,d2,d3,d4,d5⟩:=hza.below hvx hbl;obtain⟨Y,hY⟩:∃Y,Y=wr.alloc (.cells #[iv z.r,iv z.k,iv z.e,iv z.f,iv z.s,iv z.n] 121):=⟨_,rfl⟩;have hsl:=hsm.lt;have SY:SM Y w1.heap.size k (fun i=>decide (i∈qX5 zs x k)):=by rw[hY];exact hsm.below hsl (zN)
     have BY:Below w1.heap.size w1 Y:=by rw[hY];exact hwx.alloc hwx.size _
     obtain⟨y0,y1,y2,y3,y4⟩:=HX.out.below hvx hVw;simp only[gG]at y0 y1 y2 y3 y4;have hwl:w.heap.size<wr.heap.size:=gD hVw hvx.size;cases hsame:qJ1 z.st x
     .have HN:Hid (SM Y w1.heap.size (k+1) (fun i=>decide (i∈qX5 zs x (k+1)))):=(SY.le (by omega)).cong (fun i=>by rw[QN9 hz hsame]);have hse:∀w:World,(binOp .eql 50 (.agg #[iv z.k,iv z.e,iv z.f,iv z.s,iv z.n]) (.agg #[iv x.k,iv x.e,iv x.f,iv x.s,iv x.n])).run prog w=.ok (.bool false) w:=fun w=>by have:=QU7 z.st x w;rw[hsame]at this;exact this
      clear hz hza hsame SY hsm;go_wp2;rw[<- hY];exact⟨⟨k+1,by omega,by go_num,HN.out,BY⟩,by simp[intOf];omega⟩
     .have HP:Hid (CP 245 #[.map (some w1.heap.size),iv z.r] Y fun e w'=>e=.returned (.tuple #[])/\SM w' w1.heap.size (k+1) (fun i=>decide (i∈qX5 zs x (k+1)))/\Y.grownBy w' (some w1.heap.size)) :=
       (qMH w1.heap.size k _ z.r Y SY (by omega) (HW.out z (gO hz))).mono fun e w' hh=>⟨hh.1,hh.2.1.cong (fun i=>by
        unfold qNp;rw[QZ5 hz hsame,kX];simp only[Bool.or_eq_true,jV,qAF]),hh.2.2⟩
      have hse:∀w:World,(binOp .eql 50 (.agg #[iv z.k,iv z.e,iv z.f,iv z.s,iv z.n]) (.agg #[iv x.k,iv x.e,iv x.f,iv x.s,iv x.n])).run prog w=.ok (.bool true) w:=fun w=>by have:=QU7 z.st x w;rw[hsame]at this;exact this
      clear hz hza hsame SY hsm;go_wp2_with fail
      rw[<- hY];refine HP.out.mono ?_;rintro e w2 ⟨rfl,hsm2,hg2⟩;have B2:Below w1.heap.size w1 w2:=BY.grown hg2 BY.size (fun q e=>by cases e;exact gB _);clear hg2 hY HP;go_wp2;exact⟨⟨k+1,by omega,by go_num,hsm2,B2⟩,by simp[intOf];omega⟩
    .have hkn:k=n:=by omega
     subst hkn;have hltk:¬ ((k:Int)<(k:Int)):=by omega
     have SME:Hid (SM wr w1.heap.size k (fun i=>decide (i∈sgL zs x))):=hsm.cong (fun i=>by unfold sgL;rw[HZ.out])
     have HL:Hid (CP 246 #[.map (some w1.heap.size),.func (.func 189) #[] #[]] wr fun e W'=>∃v us,e=.returned v/\us=ys/\qX7 W' wr.heap.size v us/\Below wr.heap.size wr W') :=
      (qMK w1.heap.size k _ wr (by omega) SME.out (fun us hk=>by
       have h1:=QW2 us (sgL zs x) hk.1 (fun i hi=>kK ((hk.2.2 i (hk.2.1 i hi)).1 hi));have:=qCg zs x;have:=HZ.out
       omega)).mono fun e W' hh=>by
        obtain⟨v,us,e1,hu,hk,ho,hb⟩:=hh;exact⟨v,us,e1,by rw[qMu HW.out hu hk,HY2.out.1],ho,hb⟩
     have BWR:Hid (Below w.heap.size w wr):=BV.trans (hvx.mono BV.size);have XR:Hid (qJ2 (w.heap.size+1) [iv 0,.slice none 0 0] wr):=HB.out.below (by omega) hvx;have hwr:w.heap.size+1<wr.heap.size:=gD hVl hvx.size;clear hsm;go_wp2_with fail
     refine HL.out.mono ?_;rintro e w2 ⟨v,us,rfl,rfl,ho,hb2⟩;have BW2:Below w.heap.size w w2:=BWR.out.trans (hb2.mono BWR.out.size);have X2:=XR.out.below (by omega) hb2;have d0:=X2.1 0 _ rfl;have d1:=X2.1 1 _ rfl;have e0:=X2.2 0;have e1:=X2.2 1;have hw2:w.heap.size+1<w2.heap.size:=gD hwr hb2.size
     obtain⟨ra,rc,hv⟩:∃ra rc,v=.slice ra us.length rc:=by
      have ho0:w2.ownsRow wr.heap.size 2 1 v us.length (us.map (Value.int .i64)):=ho;rcases ho0.2 with⟨h1,h2⟩ | ⟨g,cp,cur,h1,_⟩
      .exact⟨none,0,by rw[h1,h2]⟩
      .exact⟨_,_,h1⟩
     subst hv;obtain⟨m,hm⟩:∃m,us.length=m:=⟨_,rfl⟩;have HO:Hid (qX7 w2 wr.heap.size (.slice ra m rc) us/\us.length=m):=⟨by rw[<- hm];exact ho,hm⟩;rw[hm];have HC0:=hJJ HY2.out.2;have HSZ2:=hJJ hwr;clear ho hm X2 hb2 HL HF HS HB HY2;go_wp2;refine gQ (v:=.agg #[iv 0,.slice ra m rc]) (by simp[results,results224,go_sem,d0,d1,hw2]) rfl ⟨ra,rc,by rw[HC0.out,HO.out.2],?_,?_⟩
     .rw[HO.out.2];have h0:w2.ownsRow wr.heap.size 2 1 (.slice ra m rc) us.length (us.map (Value.int .i64)):=HO.out.1;rw[HO.out.2]at h0;have h1:=qN4 (qN4 h0 (a:=⟨w.heap.size+1,0,none⟩) HSZ2.out (iv 0)) (a:=⟨w.heap.size+1,1,none⟩) HSZ2.out (.slice ra m rc);rcases h1 with⟨k1,k2⟩
      refine⟨k1,?_⟩;rcases k2 with k2 | ⟨g',cap',cur,e,hg,rest⟩
      .exact .inl k2
      .exact .inr ⟨g',cap',cur,e,by have:=HSZ2.out;omega,rest⟩
     .exact (BW2.setCell (by show w.heap.size<=w.heap.size+1;omega) _).setCell (by show w.heap.size<=w.heap.size+1;omega) _
  .have cb:(c != 0)=true:=by simp[c0]
   have HY2:Hid (ys=[]):=by show ys=[];rw[HY.out,gI c0]
   rw[HY2.out];clear c0 HY HC HC2 hbx;go_enter func224,ntmps224;go_wp2_with fail
   rw[<- hV];clear hV;refine HF.out.mono ?_;rintro e w1 ⟨rfl,hb1⟩;have X1:=HB.out.below (by omega) hb1;have b0:=X1.1 0 _ rfl;have b1:=X1.1 1 _ rfl;have f0:=X1.2 0;have f1:=X1.2 1;have BW1:Below w.heap.size w w1:=BV.trans (hb1.mono BV.size);have hVl1:w.heap.size+1<w1.heap.size:=gD hVl hb1.size;clear X1 hb1 x0 x1 x2 x3 x4;go_wp2;refine gQ (v:=.agg #[iv c,.slice none 0 0]) (by simp[results,results224,go_sem,b0,b1,hVl1]) rfl ⟨none,0,rfl,jB _ _ _ _,?_⟩;exact (BW1.setCell (by show w.heap.size<=w.heap.size+1;omega) _).setCell (by show w.heap.size<=w.heap.size+1;omega) _
end
section
open Go.RowKit Go.Maps
attribute [local go_sem] qIm qGU
def cbX(f:Int)(zs:List ShI)(x:StI):StI:=if QS0 f zs x=0 then x else ⟨0,0,0,0,0⟩
def cbL(f:Int)(zs:List ShI)(x:StI):List Int:=if QS0 f zs x=0 then (sgL zs x).take (2*f+1).toNat else []
def qDz(fn:Nat)(a:Option Addr)(n cap:Nat)(f:Int)(x:StI)(c:Int)(cx:StI)(ys:List Int)(w:World):Prop:=Calls prog fn #[.slice a n cap,iv f,.agg #[iv x.k,iv x.e,iv x.f,iv x.s,iv x.n]] w fun e w'=>∃(ra:Option Addr) (rc:Nat),e=.returned (.agg #[iv c,iv cx.k,iv cx.e,iv cx.f,iv cx.s,iv cx.n,.slice ra ys.length rc])/\w'.ownsRow w.heap.size 2 1 (.slice ra ys.length rc) ys.length (ys.map (Value.int .i64))/\Below w.heap.size w w'
theorem qFM(w:World)(x:StI)(T R:TypeId):∃V,V=(w.alloc (.cells #[iv x.k,iv x.e,iv x.f,iv x.s,iv x.n] T)).alloc (.cells #[iv 0,iv 0,iv 0,iv 0,iv 0,iv 0,.slice none 0 0] R)/\Below w.heap.size w V/\V.heap.size=w.heap.size+1+1/\qM9 V w.heap.size 0 x/\qJ2 (w.heap.size+1) [iv 0,iv 0,iv 0,iv 0,iv 0,iv 0,.slice none 0 0] V:=by
 refine⟨_,rfl,(zN).alloc (by simp) _,by simp,?_,?_⟩
 .exact (qM9.new w x T).below (zN) (by simp)
 .have q:=qI5 (w.alloc (.cells #[iv x.k,iv x.e,iv x.f,iv x.s,iv x.n] T)) #[iv 0,iv 0,iv 0,iv 0,iv 0,iv 0,.slice none 0 0] R;simp only[jC]at q;exact q
theorem qFo{w:World}{B:Nat}{g m q k:Nat}{ys:List Int}(h:qX7 w B (.slice (some ⟨g,0,none⟩) m q) ys)(hk:k<=m):w.ownsRow B 2 1 (.slice (some ⟨g,0,none⟩) k q) k ((ys.take k).map (Value.int .i64)):=by
 have hp:=QI8 h;have h0:w.ownsRow B 2 1 (.slice (some ⟨g,0,none⟩) m q) ys.length (ys.map (Value.int .i64)):=h;refine⟨by simp;omega,?_⟩;rcases h0.2 with⟨h1,_⟩ | ⟨g',cap',cur,h1,hg,hb,h3,h4,h5,h6⟩
 .simp at h1
 .simp at h1;obtain⟨rfl,_,rfl⟩:=h1;refine .inr ⟨g,q,cur,rfl,hg,hb,by omega,h4,h5,?_⟩;rw[List.map_take,<- h6,List.take_take];congr 1;omega
theorem qHo{w:World}{B:Nat}{t:TypeId}{sz:Nat}{v:Value}{n:Nat}{xs:List Value}(h:w.ownsRow B t sz v n xs):w.drew.ownsRow B t sz v n xs:=qA4 h (fun _ _=>rfl)
theorem qPQ{w:World}{base:Nat}{e:TypeId}{size:Nat}{v:Value}{n:Nat}{xs:List Value}(h:w.ownsRow base e size v n xs)(b:Nat)(hb:b<base)(v0 v1 v2 v3 v4 v5 v6:Value):(((((((w.setCell ⟨b,0,none⟩ v0).setCell ⟨b,1,none⟩ v1).setCell ⟨b,2,none⟩ v2).setCell ⟨b,3,none⟩ v3).setCell ⟨b,4,none⟩ v4).setCell ⟨b,5,none⟩ v5).setCell ⟨b,6,none⟩ v6).ownsRow base e size v n xs:=(qN4 (qN4 (qN4 (qN4 (qN4 (qN4 (qN4 h (a:=⟨b,0,none⟩) hb v0) (a:=⟨b,1,none⟩) hb v1) (a:=⟨b,2,none⟩) hb v2) (a:=⟨b,3,none⟩) hb v3) (a:=⟨b,4,none⟩) hb v4) (a:=⟨b,5,none⟩) hb v5) (a:=⟨b,6,none⟩) hb v6)
theorem qOP{B:Nat}{w0 w:World}(h:Below B w0 w)(b:Nat)(hb:B<=b)(v0 v1 v2 v3 v4 v5 v6:Value):Below B w0 (((((((w.setCell ⟨b,0,none⟩ v0).setCell ⟨b,1,none⟩ v1).setCell ⟨b,2,none⟩ v2).setCell ⟨b,3,none⟩ v3).setCell ⟨b,4,none⟩ v4).setCell ⟨b,5,none⟩ v5).setCell ⟨b,6,none⟩ v6):=(((((((h.setCell hb v0).setCell hb v1).setCell hb v2).setCell hb v3).setCell hb v4).setCell hb v5).setCell hb v6)
theorem qEe{w:World}{B B':Nat}{t:TypeId}{sz:Nat}{v:Value}{n:Nat}{xs:List Value}(h:w.ownsRow B t sz v n xs)(hB:B'<=B):w.ownsRow B' t sz v n xs:=by
 refine⟨h.1,?_⟩;rcases h.2 with q | ⟨g,cap,cur,e,hg,rest⟩
 .exact .inl q
 .exact .inr ⟨g,cap,cur,e,jF hB hg,rest⟩
end
section
open Go.RowKit Go.Maps
attribute [local go_sem] qIm qGU
theorem qAO(a:Option Addr)(n cap:Nat)(zs:List ShI)(f:Int)(x:StI)(w:World)(hn:n<=1048576)(hcap:n<=cap)(hcm:cap<=maxLen)(h:qX6 w a n zs):qDz 195 a n cap f x (QS0 f zs x) (cbX f zs x) (cbL f zs x) w:=by
 unfold qDz;obtain⟨V,hV,BV,hVs,hst,hbx⟩:=qFM w x 50 252;have HZ:=hJJ h.1;have hn':(n:Int)<=1048576:=by omega
 obtain⟨c,hc⟩:∃c,QS0 f zs x=c:=⟨_,rfl⟩;obtain⟨cx,hcx⟩:∃cx,cbX f zs x=cx:=⟨_,rfl⟩;obtain⟨ys,hys⟩:∃ys,cbL f zs x=ys:=⟨_,rfl⟩;rw[hc,hcx,hys];obtain⟨s,hs⟩:∃s,qF2 f zs=s:=⟨_,rfl⟩;obtain⟨t,ht⟩:∃t,qB5 x=t:=⟨_,rfl⟩;have HC:Hid (c=if s=0 then (if t=0 then (if ((sgL zs x).length:Int)<2*f+1 then 7 else 0) else t) else s):=by show c=_;rw[<- hc,<- hs,<- ht];rfl
 have HX:Hid (cx=if c=0 then x else ⟨0,0,0,0,0⟩):=by show cx=_;rw[<- hcx,<- hc];rfl
 have HY:Hid (ys=if c=0 then (sgL zs x).take (2*f+1).toNat else []):=by show ys=_;rw[<- hys,<- hc];rfl
 have HBAD:Hid (c≠0->cx=⟨0,0,0,0,0⟩/\ys=[]):=fun q=>⟨by rw[HX.out,gI q],by rw[HY.out,gI q]⟩
 have HS:Hid (qX6 V a n zs):=h.below BV;have HB:=hJJ hbx;have HXA:=hJJ hst;have HSZ:=hJJ hVs;have hVl0:w.heap.size+1<V.heap.size:=by omega
 have HF:Hid (CP 94 #[.slice a n cap,iv f] V fun e w'=>e=.returned (iv s)/\Below V.heap.size V w'):=by have:=qW4 a n cap zs f V hn hcap hcm HS.out;rw[hs]at this;exact this
 by_cases s0:s=0
 .have sb:(s != 0)=false:=by simp[s0]
  have hok:=qJl (hs.trans s0);obtain⟨hf1,hf2⟩:=(qD3 _ _ _).1 hok.1;have hn2:n<=120:=by have:=HZ.out;omega
  have hwf:∀z∈zs,QX3 z.r:=fun z hz=>by have:=(qD3 _ _ _).1 (hok.2.2 z hz).1;exact qMy (by omega) (by omega)
  have hsc:QU9 zs x=t:=by unfold QU9;rw[gI (by have:=HZ.out;omega),ht]
  obtain⟨us,hus⟩:∃us,qHO zs x=us:=⟨_,rfl⟩;obtain⟨m,hm⟩:∃m,us.length=m:=⟨_,rfl⟩
  have HG:Hid (∀w2,Below V.heap.size V w2->CP 224 #[.slice a n cap,.agg #[iv x.k,iv x.e,iv x.f,iv x.s,iv x.n]] w2 fun e w'=>∃(ra:Option Addr) (rc:Nat),e=.returned (.agg #[iv t,.slice ra m rc])/\w'.ownsRow w2.heap.size 2 1 (.slice ra m rc) m (us.map (Value.int .i64))/\Below w2.heap.size w2 w'):=fun w2 hb=>by
   have:=qAL a n cap zs x w2 hn hwf (HS.out.below hb);unfold qDy at this;rw[hsc,hus,hm]at this;exact this
  have HUS:Hid (us.length=m/\(t=0->us=sgL zs x)):=⟨hm,fun q=>by rw[<- hus];unfold qHO;rw[gK (hsc.trans q)]⟩
  have hml:m<=120:=by
   have h1:us.length<=(sgL zs x).length:=by rw[<- hus];unfold qHO;split <;> simp
   have:=qCg zs x;have:=HZ.out;omega
  have hml':(m:Int)<=120:=by omega
  have e1:qQ6 f=0:=by unfold qQ6;rw[gK hok.1]
  have e2:qZ7 2 f=2*f+1:=by unfold qZ7;rw[gK hok.1]
  have HNF:Hid (∀w:World,qP0 147 f (qQ6 f) (qZ7 2 f) w):=QK0 f;rw[e1,e2]at HNF;unfold qP0 at HNF;obtain⟨d,hd⟩:∃d:Nat,2*f+1=(d:Int):=⟨(2*f+1).toNat,by omega⟩;rw[hd]at HNF;have HD:Hid (2*f+1=(d:Int)/\(2*f+1).toNat=d/\3<=d):=⟨hd,by omega,by omega⟩;have hd3:(3:Int)<=(d:Int):=by omega
  clear hc hcx hys hs hok h hst hbx hVs hwf hsc hus hm e1 e2 hd;have hVw:w.heap.size<V.heap.size:=by omega
  obtain⟨x0,x1,x2,x3,x4⟩:=HXA.out;by_cases t0:t=0
  .have tb:(t != 0)=false:=by simp[t0]
   have HC2:Hid (c=if (m:Int)<(d:Int) then 7 else 0):=by show c=_;rw[HC.out,gK s0,gK t0,<- HUS.out.2 t0,HUS.out.1,HD.out.1]
   have HT0:=hJJ t0;clear s0 t0 ht HC x0 x1 x2 x3 x4;go_enter func195,ntmps195;go_wp2_with fail
   rw[<- hV];clear hV;refine HF.out.mono ?_;rintro e w1 ⟨rfl,hb1⟩;obtain⟨x0,x1,x2,x3,x4⟩:=HXA.out.below hb1 hVw;simp only[gG]at x0 x1 x2 x3 x4;go_wp2_with fail
   refine (HG.out _ hb1).mono ?_;rintro e w2' ⟨ra,q,rfl,ho,hb2⟩;have hz1:=hb1.size;have hz2:=hb2.size;obtain⟨w3,hw3⟩:∃w3,w3=w2'.alloc (.cells #[iv t,.slice ra m q] 141):=⟨_,rfl⟩;have X3:Hid (QD0 w2'.heap.size [iv t,.slice ra m q] w3):=by rw[hw3];exact (qG3 w2' _ _).out
   have hl3:w2'.heap.size<w3.heap.size:=by rw[hw3];simp
   have hb3:Below V.heap.size V w3:=by rw[hw3];exact (hb1.trans (hb2.mono hz1)).alloc (by omega) _
   have HO3:Hid (w3.ownsRow V.heap.size 2 1 (.slice ra m q) m (us.map (Value.int .i64))):=by rw[hw3];exact (qEe ho hz1).alloc _
   clear x0 x1 x2 x3 x4 ho hb1 hb2;have y0:=X3.out 0 _ rfl;have y1:=X3.out 1 _ rfl;go_upto_region 5 with fail
   rw[<- hw3];clear hw3;go_wp2_with fail
   refine (HNF.out _).mono ?_;rintro e w2 ⟨rfl,hb4⟩;have hz4:=hb4.size;have z0:=(hb4.cell (p:=⟨w2'.heap.size,0,none⟩) hl3).trans y0;have z1:=(hb4.cell (p:=⟨w2'.heap.size,1,none⟩) hl3).trans y1;have hl4:w2'.heap.size<w2.heap.size:=by omega
   have HO4:Hid (w2.ownsRow V.heap.size 2 1 (.slice ra m q) m (us.map (Value.int .i64))):=((QV8 HO3.out).below hb4).out;have hb12:Below V.heap.size V w2:=hb3.trans (hb4.mono hb3.size);clear y0 y1 hb3 hb4 X3;have XB:=HB.out.below (by have:=HSZ.out;omega) hb12;have b0:=XB.1 0 _ rfl;have b1:=XB.1 1 _ rfl;have b2:=XB.1 2 _ rfl;have b3:=XB.1 3 _ rfl;have b4:=XB.1 4 _ rfl;have b5:=XB.1 5 _ rfl;have b6:=XB.1 6 _ rfl;have f0:=XB.2 0;have f1:=XB.2 1;have f2:=XB.2 2;have f3:=XB.2 3;have f4:=XB.2 4;have f5:=XB.2 5;have f6:=XB.2 6;have BWX:Below w.heap.size w w2:=BV.trans (hb12.mono BV.size);have hVl:w.heap.size+1<w2.heap.size:=by have:=hb12.size;omega
   clear XB;by_cases hlt:(m:Int)<(d:Int)
   .have HR:Hid (cx=⟨0,0,0,0,0⟩/\ys=[]):=HBAD.out (by rw[HC2.out,gK hlt];omega);have H7:Hid (c=7):=by show c=7;rw[HC2.out,gK hlt]
    go_wp2;refine gQ (v:=.agg #[iv 7,iv 0,iv 0,iv 0,iv 0,iv 0,.slice none 0 0]) (by simp[results,results195,go_sem,b0,b1,b2,b3,b4,b5,b6,hVl]) rfl ⟨none,0,by rw[H7.out,HR.out.1,HR.out.2];rfl,by rw[HR.out.2];exact jB _ _ _ _,?_⟩;have hw1:w.heap.size<=w.heap.size+1:=by omega
    exact (((((((BWX.setCell hw1 _).setCell hw1 _).setCell hw1 _).setCell hw1 _).setCell hw1 _).setCell hw1 _).setCell hw1 _)
   .have H0:Hid (c=0):=by show c=0;rw[HC2.out,gI hlt]
    have hdm:d<=m:=by omega
    obtain⟨g,hra⟩:∃g,ra=some ⟨g,0,none⟩:=by
     rcases HO4.out.2 with⟨h1,h2⟩ | ⟨g,cp,cur,h1,_⟩
     .omega
     .simp at h1;exact⟨g,h1.1⟩
    subst hra
    have HO:Hid (qX7 w2 V.heap.size (.slice (some ⟨g,0,none⟩) m q) (sgL zs x)):=by
     have:=HO4.out;rw[HUS.out.2 HT0.out]at this;show w2.ownsRow _ _ _ _ _ _
     have e3:(sgL zs x).length=m:=by rw[<- HUS.out.2 HT0.out];exact HUS.out.1
     rw[e3];exact this
    have hq:=QI8 HO.out
    have HR:Hid (c=0/\cx=x/\ys=(sgL zs x).take d/\ys.length=d):=by
     have e1:ys=(sgL zs x).take d:=by rw[HY.out,gK H0.out,HD.out.2.1]
     exact⟨H0.out,by rw[HX.out,gK H0.out],e1,by rw[e1,kI];have:=hq.2.2.1;omega⟩
    obtain⟨x0,x1,x2,x3,x4⟩:=HXA.out.below hb12 hVw;simp only[gG]at x0 x1 x2 x3 x4;have BW2:=BWX;have hw2:=hVl;have hdq:(d:Int)<=(q:Int):=by omega
    have hd0:(0:Int)<=(d:Int):=by omega
    have hwx:w.heap.size<w2.heap.size:=by omega
    have HBS:Hid (w.heap.size+1<V.heap.size):=by have:=HSZ.out;show _<_;omega
    have HFO:Hid (w2.ownsRow V.heap.size 2 1 (.slice (some ⟨g,0,none⟩) d q) d (((sgL zs x).take d).map (Value.int .i64))):=qFo HO.out hdm;have HFB:=hJJ BW2;have HLE:Hid (w.heap.size<=V.heap.size/\w.heap.size<=w.heap.size+1):=⟨by have:=HSZ.out;omega,by omega⟩;go_wp2;go_region
    all_goals go_wp2_with fail
    all_goals
     refine gQ (v:=.agg #[iv 0,iv x.k,iv x.e,iv x.f,iv x.s,iv x.n,.slice (some ⟨g,0,none⟩) d q]) (by simp[results,results195,go_sem,b0,b1,b2,b3,b4,b5,b6,hw2]) rfl ⟨some ⟨g,0,none⟩,q,?_,?_,?_⟩
     .rw[HR.out.1,HR.out.2.1,HR.out.2.2.2]
     .rw[HR.out.2.2.2,HR.out.2.2.1];exact qHo (qEe (qPQ HFO.out _ HBS.out _ _ _ _ _ _ _) HLE.out.1)
     .exact (qOP HFB.out _ HLE.out.2 _ _ _ _ _ _ _).drew
  .have tb:(t != 0)=true:=by simp[t0]
   have HE:Hid (c=t):=by show c=t;rw[HC.out,gK s0,gI t0]
   have HR:Hid (cx=⟨0,0,0,0,0⟩/\ys=[]):=HBAD.out (by rw[HE.out];exact t0);clear s0 t0 ht HC x0 x1 x2 x3 x4;go_enter func195,ntmps195;go_wp2_with fail
   rw[<- hV];clear hV;refine HF.out.mono ?_;rintro e w1 ⟨rfl,hb1⟩;obtain⟨x0,x1,x2,x3,x4⟩:=HXA.out.below hb1 hVw;simp only[gG]at x0 x1 x2 x3 x4;go_wp2_with fail
   refine (HG.out _ hb1).mono ?_;rintro e w2' ⟨ra,q,rfl,ho,hb2⟩;have hz1:=hb1.size;have hz2:=hb2.size;obtain⟨w3,hw3⟩:∃w3,w3=w2'.alloc (.cells #[iv t,.slice ra m q] 141):=⟨_,rfl⟩;have X3:Hid (QD0 w2'.heap.size [iv t,.slice ra m q] w3):=by rw[hw3];exact (qG3 w2' _ _).out
   have hl3:w2'.heap.size<w3.heap.size:=by rw[hw3];simp
   have hb3:Below V.heap.size V w3:=by rw[hw3];exact (hb1.trans (hb2.mono hz1)).alloc (by omega) _
   clear x0 x1 x2 x3 x4 ho hb1 hb2;have y0:=X3.out 0 _ rfl;have y1:=X3.out 1 _ rfl;go_upto_region 5 with fail
   rw[<- hw3];clear hw3;have XB:=HB.out.below (by have:=HSZ.out;omega) hb3;have b0:=XB.1 0 _ rfl;have b1:=XB.1 1 _ rfl;have b2:=XB.1 2 _ rfl;have b3:=XB.1 3 _ rfl;have b4:=XB.1 4 _ rfl;have b5:=XB.1 5 _ rfl;have b6:=XB.1 6 _ rfl;have f0:=XB.2 0;have f1:=XB.2 1;have f2:=XB.2 2;have f3:=XB.2 3;have f4:=XB.2 4;have f5:=XB.2 5;have f6:=XB.2 6;have BWX:Below w.heap.size w w3:=BV.trans (hb3.mono BV.size);have hVl:w.heap.size+1<w3.heap.size:=by have:=hb3.size;omega
   clear XB hb3;go_wp2;refine gQ (v:=.agg #[iv t,iv 0,iv 0,iv 0,iv 0,iv 0,.slice none 0 0]) (by simp[results,results195,go_sem,b0,b1,b2,b3,b4,b5,b6,hVl]) rfl ⟨none,0,by rw[HE.out,HR.out.1,HR.out.2];rfl,by rw[HR.out.2];exact jB _ _ _ _,?_⟩;have hw1:w.heap.size<=w.heap.size+1:=by omega
   exact (((((((BWX.setCell hw1 _).setCell hw1 _).setCell hw1 _).setCell hw1 _).setCell hw1 _).setCell hw1 _).setCell hw1 _)
 .have sb:(s != 0)=true:=by simp[s0]
  have HE:Hid (c=s):=by show c=s;rw[HC.out,gI s0]
  have HR:Hid (cx=⟨0,0,0,0,0⟩/\ys=[]):=HBAD.out (by rw[HE.out];exact s0);clear s0 hs ht HC hc hcx hys h hst hbx hVs;go_enter func195,ntmps195;go_wp2_with fail
  rw[<- hV];clear hV;refine HF.out.mono ?_;rintro e w1 ⟨rfl,hb1⟩;have XB:=HB.out.below (by have:=HSZ.out;omega) hb1;have b0:=XB.1 0 _ rfl;have b1:=XB.1 1 _ rfl;have b2:=XB.1 2 _ rfl;have b3:=XB.1 3 _ rfl;have b4:=XB.1 4 _ rfl;have b5:=XB.1 5 _ rfl;have b6:=XB.1 6 _ rfl;have f0:=XB.2 0;have f1:=XB.2 1;have f2:=XB.2 2;have f3:=XB.2 3;have f4:=XB.2 4;have f5:=XB.2 5;have f6:=XB.2 6;have BWX:Below w.heap.size w w1:=BV.trans (hb1.mono BV.size);have hVl:w.heap.size+1<w1.heap.size:=by have:=hb1.size;omega
  clear XB hb1;go_wp2;refine gQ (v:=.agg #[iv s,iv 0,iv 0,iv 0,iv 0,iv 0,.slice none 0 0]) (by simp[results,results195,go_sem,b0,b1,b2,b3,b4,b5,b6,hVl]) rfl ⟨none,0,by rw[HE.out,HR.out.1,HR.out.2];rfl,by rw[HR.out.2];exact jB _ _ _ _,?_⟩;have hw1:w.heap.size<=w.heap.size+1:=by omega
  exact (((((((BWX.setCell hw1 _).setCell hw1 _).setCell hw1 _).setCell hw1 _).setCell hw1 _).setCell hw1 _).setCell hw1 _)
theorem qPE(c a b d e k:Int)(v:Value)(w:World):(Instr.field 252 (.agg #[iv c,iv a,iv b,iv d,iv e,iv k,v]) 0).run prog w=.ok (iv c) w:=by kernel_rfl
def qAo(fn:Nat)(a:Option Addr)(n cap:Nat)(f:Int)(x:StI)(t:Bool)(w:World):Prop:=Calls prog fn #[.slice a n cap,iv f,.agg #[iv x.k,iv x.e,iv x.f,iv x.s,iv x.n]] w fun e w'=>e=.returned (.bool t)/\Below w.heap.size w w'
attribute [local go_sem] qPE in
theorem qBb(a:Option Addr)(n cap:Nat)(zs:List ShI)(f:Int)(x:StI)(w:World)(hn:n<=1048576)(hcap:n<=cap)(hcm:cap<=maxLen)(h:qX6 w a n zs):qAo 151 a n cap f x (isB f zs x) w:=by
 unfold qAo;obtain⟨V,hV⟩:∃V,V=w.alloc (.cells #[iv x.k,iv x.e,iv x.f,iv x.s,iv x.n] 50):=⟨_,rfl⟩;have BV:Below w.heap.size w V:=by rw[hV];exact zN
 have HCB:=qAO a n cap zs f x V hn hcap hcm (h.below BV);unfold qDz at HCB;obtain⟨c,hc⟩:∃c,QS0 f zs x=c:=⟨_,rfl⟩;unfold isB;rw[hc]at HCB ⊢
 have HH:Hid _:=HCB;clear HCB h hc;go_enter func151,ntmps151;go_wp2_with fail
 rw[<- hV];clear hV;refine Calls.mono HH.out ?_;rintro e w1 ⟨ra,rc,rfl,_,hb1⟩;go_wp2;go_ret;exact⟨rfl,BV.trans (hb1.mono BV.size)⟩
theorem qFy(a:Option Addr)(n cap:Nat)(zs:List ShI)(f:Int)(x:StI)(w:World)(hn:n<=120)(hf1:1<=f)(hf2:f<=2)(h:qX6 w a n zs):qAo 102 a n cap f x (decide (2*f+1<=((sgL zs x).length:Int))) w:=by
 unfold qAo;obtain⟨V,hV⟩:∃V,V=w.alloc (.cells #[iv x.k,iv x.e,iv x.f,iv x.s,iv x.n] 50):=⟨_,rfl⟩;have BV:Below w.heap.size w V:=by rw[hV];exact zN
 have HL:Hid _:=qDC a n cap zs x V (by omega) (h.below BV);have hl:(sgL zs x).length<=120:=by have:=qCg zs x;have:=h.1;omega
 obtain⟨m,hm⟩:∃m,(sgL zs x).length=m:=⟨_,rfl⟩;rw[hm]at HL hl ⊢
 have hl':(m:Int)<=120:=by omega
 clear h hm;go_enter func102,ntmps102;go_wp2_with fail
 rw[<- hV];clear hV;refine Calls.mono HL.out ?_;rintro e w1 ⟨g,q,rfl,_,hb1⟩;go_wp2;go_ret;exact⟨rfl,BV.trans (hb1.mono BV.size)⟩
end
