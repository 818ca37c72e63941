/- Contracts. -/
import Derived.Test.YtdghpccmdnnenaaGreatDoorPx29
import Derived.Test.YtdghpccmdnnenaaGreatDoorPx30
namespace Go.Proofs.YtdghpccmdnnenaaGreatDoor
set_option maxRecDepth 100000
set_option maxHeartbeats 8000000
open Go.RowKit Go.Proofs.Tryz
set_option linter.unusedVariables false
set_option linter.unusedSimpArgs false
theorem qIU(f:Int)(a:Option Addr)(n cap:Nat)(us:List Int)(w:World)(f1:1<=f)(f2:f<=2)(hn:n<=1048576)(h:qD0 w a n us):
  CP 81 #[iv f,.slice a n cap] w fun e w'=>∃(ga:Option Addr) (gc:Nat),e=.returned (.slice ga (qO0 f us).length gc)/\qD0 w' ga (qO0 f us).length (qO0 f us)/\Below w.heap.size w w':=by
 have HA:Hid (∀y W,Below w.heap.size w W->CP 132 #[.slice a n cap,iv y] W fun e w'=>e=.returned (.bool (decide (y∈us)))/\W=w'):=fun y W q=>qIK a n cap us y W hn (h.below q)
 obtain⟨m,hm⟩:∃m:Nat,(m:Int)=3*f+1:=⟨(3*f+1).toNat,by omega⟩;have hm7:m<=7:=by omega
 have HG:Hid (qO0 f us=qC8 us m):=by show _=_;unfold qO0;rw[<- hm];rfl
 have hw3:IntKind.i64.wrap (3*f)=3*f:=by rw[kG];omega
 have hw4:IntKind.i64.wrap (3*f+1)=(m:Int):=by rw[kG];omega
 obtain⟨i0,hi,hz0,hz1,hz2⟩:=jT Tryz.infoI2;obtain⟨W,hW⟩:∃W,W=w.alloc (.cells #[] 2):=⟨_,rfl⟩;have OW:Hid (qX7 W w.heap.size (.slice (some ⟨w.heap.size,0,none⟩) 0 0) []):=by rw[hW];exact kH (base:=w.heap.size) (e:=2) (size:=1) w #[] 0 (gB _) (gH _) rfl
 have BW:Hid (Below w.heap.size w W):=by show Below _ _ _;rw[hW];exact zN
 rw[HG.out];clear h f1 f2 hm;go_enter func81,ntmps81;go_upto_region 2 with fail
 rw[<- hW];clear hW;go_wp2_with fail
 go_loopw [5,6] (fun v i wr=>∃(k:Nat) (ga:Option Addr) (cp:Nat),k<=m/\i=iv ((k:Int)+1)/\v=.slice ga (qC8 us k).length cp/\qX7 wr w.heap.size (.slice ga (qC8 us k).length cp) (qC8 us k)/\Below w.heap.size w wr) (fun _ i _=>m+1-(intOf i).toNat)
 case atStart=>exact⟨0,_,0,gH _,rfl,rfl,OW.out,BW.out⟩
 case round =>
  obtain⟨k,ga,cp,hk,rfl,rfl,hown,hnx⟩:=hrel;have HO:=hJJ hown;have BN:=qB4 hnx;clear hown;by_cases hlt:k<m
  .have hlt':(k:Int)+1<=(m:Int):=by omega
   have hw1:IntKind.i64.wrap ((k:Int)+1+1)=(k:Int)+1+1:=by rw[kG];omega
   have HNX:Hid (qC8 us (k+1)=if ((k:Int)+1)∈us then qC8 us k else qC8 us k++[(k:Int)+1]):=rfl;have HL:Hid ((qC8 us k).length<=k):=qW8 us k;obtain⟨y,hy⟩:∃y,(k:Int)+1=y:=⟨_,rfl⟩;have HY:=hJJ hy;obtain⟨t,ht⟩:∃t,decide (y∈us)=t:=⟨_,rfl⟩;have HC:Hid (CP 132 #[.slice a n cap,iv y] wr fun e w'=>e=.returned (.bool t)/\wr=w'):=by rw[<- ht];exact HA.out _ wr hnx
   rw[hy]at HNX hw1 hlt' ⊢
   cases t
   .have hno:¬ y∈us:=by simpa using ht
    have HN2:Hid (qC8 us (k+1)=qC8 us k++[y]):=by show _=_;rw[HNX.out,gI hno]
    obtain⟨ys,hys⟩:∃ys,qC8 us k=ys:=⟨_,rfl⟩;rw[hys]at HO HN2 HL ⊢
    obtain⟨q,hq⟩:∃q,ys.length=q:=⟨_,rfl⟩;have HQ:=hJJ hq;have hqk:q<=k:=by rw[<- hq];exact HL.out
    have HOW:Hid (wr.ownsRow w.heap.size 2 1 (.slice ga q cp) q (ys.map (Value.int .i64))):=by have:=HO.out;unfold qX7 at this;rw[hq]at this;exact this
    rw[hq];clear ht hno hys hq HO HNX HL hnx hy;have hUs:=BN.out.size;go_wp2_with fail
    refine HC.out.mono ?_;rintro e w3 ⟨rfl,rfl⟩
    go_wp2_with (first
     | (at_builtin;refine jG _ rfl _ _ 23 rfl w.heap.size 2 i0 (iv 0) 1 8 underlying23 hi hz0 hz1 hz2 rfl (by decide) _ _ _ rfl (HOW.out.alloc _) ⟨wr.heap.size,0,none⟩ 1 1 [iv y] rfl rfl ?c1 ?c2 ?c3 ?c4 ?c5 ?_)
     | fail)
    case c1 =>
     intro j u hj;match j,hj with
     | 0,hj=>simp at hj;subst hj;simp[Addr.add]
    case c2=>intro u hu;simp at hu;subst hu;rfl
    case c3=>unfold maxLen;omega
    case c4=>omega
    case c5=>simp;omega
    intro v' w9 hown' hgrow hnil
    have HN3:Hid (qX7 w9 w.heap.size v' (qC8 us (k+1))/\Below w.heap.size w w9):=by
     refine⟨?_,(BN.out.alloc BN.out.size _).grown hgrow (by simp;omega) (fun j hj=>(HOW.out.lt j hj).1)⟩;show w9.ownsRow _ _ _ _ _ _
     rw[HN2.out,jD,HQ.out,List.map_append];exact hown'
    obtain⟨g',c',rfl⟩:∃g c,v'=.slice (some ⟨g,0,none⟩) (q+1) c:=by
     rcases hown'.2 with⟨_,h2⟩ | ⟨g,cq,cur,h1,_⟩
     .have:=hown'.1;rw[h2]at this;simp at this
     .exact⟨g,cq,h1⟩
    have HL3:Hid (q+1=(qC8 us (k+1)).length):=by show _=_;rw[HN2.out,jD,HQ.out];rfl
    clear hnil hown' hgrow;go_wp2_with fail
    exact⟨⟨k+1,some ⟨g',0,none⟩,c',by omega,by rw[<- HY.out];go_num,by rw[<- HL3.out],by rw[<- HL3.out];exact HN3.out.1,HN3.out.2⟩,by have:=HY.out;simp[intOf];omega⟩
   .have hin:y∈us:=kK ht;have HN2:Hid (qC8 us (k+1)=qC8 us k):=by show _=_;rw[HNX.out,gK hin]
    obtain⟨q,hq⟩:∃q,(qC8 us k).length=q:=⟨_,rfl⟩;have HQ:=hJJ hq;rw[hq]at HO ⊢
    clear ht hin HNX HL hnx hq hy;go_wp2_with fail
    refine HC.out.mono ?_;rintro e w3 ⟨rfl,rfl⟩;go_wp2_with fail
    exact⟨⟨k+1,ga,cp,by omega,by rw[<- HY.out];go_num,by rw[HN2.out,HQ.out],by rw[HN2.out,HQ.out];exact HO.out,BN.out⟩,by have:=HY.out;simp[intOf];omega⟩
  .have hkm:k=m:=by omega
   subst hkm;have hgt:¬ (k:Int)+1<=(k:Int):=by omega
   have HI:Hid (qD0 wr ga (qC8 us k).length (qC8 us k)):=qHp HO.out rfl;clear HO hnx;go_wp2_with fail
   go_ret;first | exact⟨ga,cp,rfl,HI.out,BN.out⟩ | exact⟨ga,⟨cp,rfl⟩,HI.out,BN.out⟩
theorem qMt(b:Nat)(c:ClI)(i:Int)(w:World)(h:KuI w b c)(hn:c.rn<=1048576):
  CP 135 #[.pointer (some ⟨b,0,none⟩),iv i] w fun e w'=>e=.returned (iv (QL0 i c.rs 0))/\w=w':=by
 obtain⟨ca,cn,cc,cs,ba,bn,bc,bs,ra,rn,rc,rs,za,zn,zc,zs⟩:=c;obtain⟨⟨x0,x1,x2,x3⟩,⟨ci,bi,ri,zi⟩⟩:=h;simp only at x0 x1 x2 x3 ci bi ri zi hn ⊢
 have hbl:b<w.heap.size:=zL w _ x0;have H:=qB4 ri;have HZ:=hJJ ri.len;have hn':(rn:Int)<=1048576:=by omega
 obtain⟨K,hK⟩:∃K,QL0 i rs 0=K:=⟨_,rfl⟩;have HK:=hJJ hK;rw[hK];clear ci bi ri zi hK;go_enter func135,ntmps135;go_wp2;go_loop [5] (fun q=>∃j:Nat,j<=rn/\q=iv (j:Int)/\QL0 i (rs.drop j) j=K) (fun q=>rn-(intOf q).toNat)
 case atStart=>exact⟨0,gH _,rfl,HK.out⟩
 case round =>
  obtain⟨j,hj,rfl,hp⟩:=hrel;by_cases hlt:j<rn
  .obtain⟨g,off,r,rfl,hr,hra,_⟩:=H.out.at hlt
   rw[qBf hr]at hp;have HP:=hJJ hp;have hgl:g<w.heap.size:=hra.lt;obtain⟨c0,c1,c2,c3⟩:=hra;have hlt':(j:Int)<(rn:Int):=by omega
   clear hr hp;by_cases e:r.i=i
   .have eb:(r.i==i)=true:=by simp[e]
    have HE:Hid ((j:Int)=K):=by show _=K;rw[<- HP.out,gK e]
    clear HP e;go_wp2;go_ret;exact⟨by rw[<- HE.out];rfl,rfl⟩
   .have eb:(r.i==i)=false:=by simp[e]
    have HE:Hid (QL0 i (rs.drop (j+1)) (j+1)=K):=by show _=K;rw[<- HP.out,gI e]
    clear HP e;go_wp2;exact⟨⟨j+1,by omega,by go_num,HE.out⟩,by simp[intOf];omega⟩
  .have hjn:j=rn:=by omega
   subst hjn;rw[jH (by rw[HZ.out];exact gB _)]at hp;have HE:=hJJ hp;clear hp;go_wp2;go_ret;exact⟨by rw[<- HE.out];rfl,rfl⟩
theorem qGH(b:Nat)(c:ClI)(x:StI)(w:World)(h:KuI w b c)(hcn:0<c.cn)(hz:c.zn<=120)(f1:1<=f0C c.cs)(f2:f0C c.cs<=2):
  CP 136 #[.pointer (some ⟨b,0,none⟩),.agg #[iv x.k,iv x.e,iv x.f,iv x.s,iv x.n]] w fun e w'=>e=.returned (.bool (decide (2*f0C c.cs+1<=((sgL c.zs ⟨3,x.e,x.f,x.s,x.n⟩).length:Int))))/\Below w.heap.size w w':=by
 obtain⟨V,hV⟩:∃V,V=w.alloc (.cells #[iv 3,iv x.e,iv x.f,iv x.s,iv x.n] 50):=⟨_,rfl⟩;have BV:Hid (Below w.heap.size w V):=by show Below _ _ _;rw[hV];exact zN
 have y0:V.cell? ⟨w.heap.size,0,none⟩=some (iv 3):=by rw[hV];simp
 have y1:V.cell? ⟨w.heap.size,1,none⟩=some (iv x.e):=by rw[hV];simp
 have y2:V.cell? ⟨w.heap.size,2,none⟩=some (iv x.f):=by rw[hV];simp
 have y3:V.cell? ⟨w.heap.size,3,none⟩=some (iv x.s):=by rw[hV];simp
 have y4:V.cell? ⟨w.heap.size,4,none⟩=some (iv x.n):=by rw[hV];simp
 have hyv:w.heap.size<V.heap.size:=by rw[hV];simp
 have HIS:Hid (∀W,Below V.heap.size V W->CP 102 #[.slice c.za c.zn c.zc,iv (f0C c.cs),.agg #[iv 3,iv x.e,iv x.f,iv x.s,iv x.n]] W fun e w'=>e=.returned (.bool (decide (2*f0C c.cs+1<=((sgL c.zs ⟨3,x.e,x.f,x.s,x.n⟩).length:Int))))/\Below W.heap.size W w'):=fun W q=>qFy c.za c.zn c.zc c.zs (f0C c.cs) ⟨3,x.e,x.f,x.s,x.n⟩ W hz f1 f2 (h.cl.zi.below (BV.out.trans (q.mono BV.out.size)))
 have HX:=qB4 (h.below BV.out);obtain⟨ca,cn,cc,cs,ba,bn,bc,bs,ra,rn,rc,rs,za,zn,zc,zs⟩:=c;simp only at HIS HX hcn ⊢
 obtain⟨g,off,c0,e0,hc0,hat,_⟩:=HX.out.cl.ci.at hcn
 simp only at e0;subst e0;obtain⟨v0,v1,v2,v3,v4⟩:=hat;simp only[kJ,jS]at v0 v1 v2 v3 v4;have hgl:g<V.heap.size:=zL V _ v0;have hf0:f0C cs=c0.f:=by unfold f0C;simp only at hc0;rw[hc0];rfl
 obtain⟨t,ht⟩:∃t,decide (2*f0C cs+1<=((sgL zs ⟨3,x.e,x.f,x.s,x.n⟩).length:Int))=t:=⟨_,rfl⟩;rw[ht]at HIS ⊢
 rw[hf0]at HIS;obtain⟨x0,x1,x2,x3⟩:=HX.out.bx;simp only at x0 x1 x2 x3;have hbl:b<V.heap.size:=zL V _ x0;have hcn':(0:Int)<(cn:Int):=by omega
 clear h hc0 hf0 ht f1 f2 hz HX;go_enter func136,ntmps136;go_upto_region 2 with fail
 rw[<- hV];clear hV;refine gL (S:=fun w'=>(∀b o,b<V.heap.size->w'.cell? ⟨b,o,none⟩=V.cell? ⟨b,o,none⟩)/\Below V.heap.size V w') (by kernel_rfl) (qA8 _) (fun hHeld=>?_);refine Zk.go [0,1,2,3,4,5,6,7,8,9,10,11] ?_
 iterate 12
  refine Zk.st (v:=?_) rfl ?_ ?_;rotate_left 1
  .intro w hSw;(try dsimp only at hSw);go_simp;try (with_reducible rfl)
  try simp only[Act.put,zA,zB,zC,zD,zE,zF]
 refine Zk.fin ?_;refine Zk.rd (i:=12) rfl (fun K hK=>?_);go_simp;refine (HIS.out _ hHeld.2).mono ?_;rintro d wB ⟨rfl,hbB⟩;have hS:=qA0 hHeld hbB;refine hK.out _ _ hS (fun hHeld=>?_);clear hK K;try simp only[Act.put,zA,zB,zC,zD,zE,zF]
 refine Zk.rd (i:=13) rfl (fun K hK=>?_);go_simp;refine hK.out _ _ (by assumption) (fun hHeld=>?_);clear hK K;try simp only[Act.put,zA,zB,zC,zD,zE,zF]
 refine gZ (by kernel_rfl) ?_ _;have B2:=qB4 (BV.out.trans (hHeld.2.mono BV.out.size));clear hS hHeld;go_wp2;go_ret;exact⟨rfl,B2.out⟩
