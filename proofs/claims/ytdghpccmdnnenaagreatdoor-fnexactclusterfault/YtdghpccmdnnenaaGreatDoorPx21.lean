/- Contracts. -/
import Derived.Test.YtdghpccmdnnenaaGreatDoorPx19
import Derived.Lib.SlMapEqual
import Derived.Laws.IdiomRangeMap
import Derived.Test.YtdghpccmdnnenaaGreatDoorPx12
namespace Go.Proofs.YtdghpccmdnnenaaGreatDoor
set_option maxRecDepth 100000
set_option maxHeartbeats 8000000
open Go.RowKit Go.Proofs.Tryz
set_option linter.unusedVariables false
set_option linter.unusedSimpArgs false
section
open Go.RowKit Go.Maps
theorem qKS(a:Option Addr)(n cap:Nat)(zs:List qA1)(gs:List GrI)(w:World)(h:qB9 w a n zs)(hc:qC3 zs=0)(hg:QM8 zs gs):
  CP 171 #[.slice a n cap] w fun e w'=>∃g l cap',e=.returned (.slice (some ⟨g,0,none⟩) l cap')/\QF2 w' (some ⟨g,0,none⟩) l gs/\l<=40/\Below w.heap.size w w':=by
 refine (qMp a n cap zs w h (by have:=qHj h.1 hc;omega) (qHh hc).2).mono ?_;rintro e w' ⟨g,l,cap',gs',rfl,h1,h2,h3,h4,hb⟩;obtain rfl:=QS4 h2 hg;exact⟨g,l,cap',rfl,h4.read h1,by have:=QU8 hg.sg;omega,hb⟩
end
theorem Tryz.info4:(prog.info? 4).map (fun i=>(i.zero,i.size,i.bytes))=some (some (.bool false),1,1):=by kernel_rfl
theorem Tryz.info156:(prog.info? 156).map (fun i=>(i.zero,i.size,i.bytes))=some (some (.slice none 0 0),1,24):=by kernel_rfl
def QA0(w:World)(g:Nat)(T:TS):Prop:=∀x,x<256->w.cell? ⟨g,x,none⟩=some (.bool (T x))
theorem QA0.lt{w:World}{g:Nat}{T:TS}(h:QA0 w g T):g<w.heap.size:=zL w ⟨g,0,none⟩ (h 0 (by omega))
theorem QA0.below{w w':World}{g:Nat}{T:TS}(h:QA0 w g T)(hb:Below w.heap.size w w'):QA0 w' g T:=fun x hx=>(hb.cell (p:=⟨g,x,none⟩) h.lt).trans (h x hx)
theorem QA0.kept{w w':World}{g:Nat}{T:TS}{row:Option Nat}(h:QA0 w g T)(hg:w.grownBy w' row)(hne:some g≠row):QA0 w' g T:=fun x hx=>hg.cell (h x hx) hne
theorem QA0.put{w:World}{g:Nat}{T:TS}(h:QA0 w g T){i:Nat}(hi:i<256):QA0 (w.setCell ⟨g,i,none⟩ (.bool true)) g (QL7 T i):=fun x hx=>by
 unfold QL7;by_cases e:x=i
 .subst e;rw[gK rfl];simp[go_sem,h x hx]
 .rw[gI e,gF (h:=fun q=>e (by have:=jA Addr.off q;simp at this;omega))];exact h x hx
theorem QA0.ext{w:World}{g:Nat}{T U:TS}(h:QA0 w g T)(e:∀x,x<256->T x=U x):QA0 w g U:=fun x hx=>by rw[<- e x hx];exact h x hx
def slV(g:Nat):Value:=.slice (some ⟨g,0,none⟩) 256 256
structure L4 (W:World) (ts:List TS) (gsl:List Nat) (v:Value) (wr:World):Prop where
 ow:wr.ownsRow W.heap.size 156 1 v ts.length (gsl.map slV)
 ln:gsl.length=ts.length
 rw:∀(i g:Nat) (T:TS),gsl[i]?=some g->ts[i]?=some T->QA0 wr g T
 ne:∀g∈gsl,v.ownBlock≠some g
 bl:Below W.heap.size W wr
 vn:v≠.slice none 0 0
theorem L4.below{W:World}{ts:List TS}{gsl:List Nat}{v:Value}{wr wr':World}(h:L4 W ts gsl v wr)(hb:Below wr.heap.size wr wr'):L4 W ts gsl v wr':=by
 refine⟨?_,h.ln,fun i g T e1 e2=>(h.rw i g T e1 e2).below hb,h.ne,h.bl.trans (hb.mono h.bl.size),h.vn⟩;exact h.ow.kept (row:=none) ⟨hb.os,hb.tape,hb.output,hb.size,fun k hk _=>hb.block k hk⟩ (by rcases h.ow.2 with⟨e,_⟩ | ⟨g,cap,cur,e,_⟩;exact .inl (by rw[e];rfl);exact .inr (by rw[e];simp[Value.ownBlock]))
theorem L4.shape{W:World}{ts:List TS}{gsl:List Nat}{v:Value}{wr:World}(h:L4 W ts gsl v wr):∃b cap,v=.slice (some ⟨b,0,none⟩) ts.length cap:=by
 rcases h.ow.2 with⟨e,_⟩ | ⟨g,cap,cur,e,_⟩
 .exact absurd e h.vn
 .exact⟨g,cap,e⟩
theorem L4.at{W:World}{ts:List TS}{gsl:List Nat}{b n cap:Nat}{wr:World}(h:L4 W ts gsl (.slice (some ⟨b,0,none⟩) n cap) wr){i:Nat}{T:TS}(e:ts[i]?=some T):∃g,wr.cell? ⟨b,i,none⟩=some (.slice (some ⟨g,0,none⟩) 256 256)/\QA0 wr g T/\gsl[i]?=some g:=by
 have hi:i<ts.length:=by
  by_cases q:i<ts.length
  .exact q
  .rw[gE (by omega)]at e;cases e
 have hg:gsl[i]?=some (gsl[i]'(by rw[h.ln];exact hi)):=gA _;refine⟨_,?_,h.rw i _ T hg e,hg⟩
 obtain rfl:n=ts.length:=by
  rcases h.ow.2 with⟨e',_⟩ | ⟨g,cap',cur,e',_⟩
  .exact absurd e' h.vn
  .simp at e';exact e'.2.1
 rw[h.ow.cellAt i (by omega),jI,hg];rfl
theorem L4.next{W:World}{ts:List TS}{gsl:List Nat}{v v':Value}{wr w':World}{o:Obj}{h:Nat}{T:TS}(H:L4 W ts gsl v wr)(hT:QA0 wr h T)(hv:v.ownBlock≠some h)(hown':w'.ownsRow W.heap.size 156 1 v' (ts.length+1) (gsl.map slV++[slV h]))(hgrow:(wr.alloc o).grownBy w' v.ownBlock)(hn:v'≠.slice none 0 0):
  L4 W (ts++[T]) (gsl++[h]) v' w':=by
 have A1:Below wr.heap.size wr (wr.alloc o):=zN
 have rows:∀(i g:Nat) (U:TS),(gsl++[h])[i]?=some g->(ts++[T])[i]?=some U->QA0 w' g U:=by
  intro i g U e1 e2;by_cases hi:i<gsl.length
  .rw[kY hi]at e1;rw[kY (by rw[<- H.ln];exact hi)]at e2;exact ((H.rw i g U e1 e2).below A1).kept hgrow (fun e=>H.ne g (gO e1) e.symm)
  .have hil:i=gsl.length:=by
    by_cases q:i<(gsl++[h]).length
    .simp at q;omega
    .rw[gE (by omega)]at e1;cases e1
   subst hil;rw[kN (gB _),Nat.sub_self]at e1;rw[H.ln,kN (gB _),Nat.sub_self]at e2;simp at e1 e2;subst e1 e2;exact (hT.below A1).kept hgrow (fun e=>hv e.symm)
 refine⟨by simpa using hown',by simp[H.ln],rows,fun g hg e=>?_,(H.bl.alloc H.bl.size o).grown hgrow (by have:=H.bl.size;simp;omega) (fun j hj=>(H.ow.lt j hj).1),hn⟩;obtain⟨i,hi⟩:=jW.1 hg
 have hil:i<(gsl++[h]).length:=by
  by_cases q:i<(gsl++[h]).length
  .exact q
  .rw[gE (by omega)]at hi;cases hi
 obtain⟨u,hu⟩:∃u,(ts++[T])[i]?=some u:=⟨_,gA (by simp at hil ⊢;have:=H.ln;omega)⟩;have hr:=rows i g u hi hu 0 (by omega);clear rows hu hi;rcases hown'.2 with⟨e0,_⟩ | ⟨b,cap,cur,e0,_⟩
 .exact hn e0
 .rw[e0]at e hown';simp[Value.ownBlock]at e;subst e;have hc:=hown'.cellAt 0 (by omega);rw[hr]at hc;cases hgl:gsl with
  | nil=>rw[hgl]at hc;simp[slV]at hc
  | cons x xs=>rw[hgl]at hc;simp[slV]at hc
theorem qKF(w:World):∃wm,(Instr.makeSlice 156 (iv 256) (iv 256)).run prog w=.ok (.slice (some ⟨w.heap.size,0,none⟩) 256 256) wm/\QA0 wm w.heap.size noT/\(∀j,wm.frozen? ⟨w.heap.size,j,none⟩=false)/\w.heap.size<wm.heap.size/\Below w.heap.size w wm:=by
 obtain⟨i0,hi,hz0,hz1,hz2⟩:=jT Tryz.info4;obtain⟨wm,hmk,hownm,hgrm⟩:=run_make_full (P:=prog) (w:=w) w.heap.size 156 4 i0 (.bool false) 1 underlying156 hi hz0 hz1 .i64 .i64 256 (by rw[hz2];omega) (by unfold maxLen;omega) (gB _);refine⟨wm,hmk,fun x hx=>?_,fun j=>hownm.frozenAt j,(hownm.lt _ rfl).2,(gC _ _).grown hgrm (gB _) (fun k e=>by cases e)⟩;rw[hownm.cellAt x (by omega)];simp[madeCells,Value.cells,noT];exact⟨x,by simp[hx],by simp[Nat.mod_one]⟩
theorem qKB(s:Int):(qB3 s 8).foldl (fun T p=>QL7 T (2 ^ (p-1).toNat)) noT=qHr s:=by
 funext x
 rw[kX];unfold qHr;rw[qEP,List.any_eq_true];constructor
 .rintro (q | ⟨p,hp,e⟩)
  .cases q
  .obtain⟨h0,h1,h2⟩:=qK6.1 hp;refine⟨(p-1).toNat,List.mem_range.2 (by omega),?_⟩;rw[jY];refine⟨by simp[e],?_⟩;rw[show (((p-1).toNat:Nat):Int)+1=p by omega];exact h2
 .rintro⟨p,hp,e⟩;rw[jY]at e;have hp:=List.mem_range.1 hp;exact .inr ⟨(p:Int)+1,qK6.2 ⟨by omega,by omega,e.2⟩,by simpa using e.1⟩
theorem qKP(a:Option Addr)(n cap:Nat)(zs:List qA1)(a':Option Addr)(m cap':Nat)(ps:List qC6)(gs:List GrI)(w:World)(h:qB9 w a n zs)(hc:qC3 zs=0)(hg:QM8 zs gs)(hp:qC1 w a' m ps)(hpc:qN3 ps=0):
  CP 123 #[.slice a n cap,.slice a' m cap'] w fun e w'=>∃g,e=.returned (.slice (some ⟨g,0,none⟩) 256 256)/\QA0 w' g (qS6 (ofG gs) ps)/\Below w.heap.size w w':=by
 have hm8:m<=8:=by have:=(QV6 hpc).2.1;have:=hp.1;omega
 have hm1:1<=m:=by have:=(QV6 hpc).1;have:=hp.1;omega
 have HP:=hJJ hp;have HPA:Hid (∀k x,ps[k]?=some x->qJ7 k x=0):=(QV6 hpc).2.2;have HST:Hid (∀q,qL0 (ofG gs q)):=fun q=>QA7 hg.sg q
 have HA:Hid (CP 171 #[.slice a n cap] w fun e w'=>∃g l cap',e=.returned (.slice (some ⟨g,0,none⟩) l cap')/\QF2 w' (some ⟨g,0,none⟩) l gs/\l<=40/\Below w.heap.size w w'):=qKS a n cap zs gs w h hc hg;obtain⟨i0,hi,hz0,hz1,hz2⟩:=jT Tryz.info156;clear h hp hc hg hpc;go_enter func123,ntmps123;go_wp2_with fail
 refine (HA.out).mono ?_;rintro e W ⟨gg,lg,cg,rfl,hgr,hlg,hbW⟩;have HGr:=hJJ hgr;have HPW:Hid (qC1 W a' m ps):=HP.out.below hbW;have HL0:Hid (L4 W [] [] (.slice (some ⟨W.heap.size,0,none⟩) 0 0) (W.alloc (.cells #[] 156))):=⟨kH W #[] 0 (gB _) (gH _) rfl,rfl,fun i g T e=>by simp at e,fun g hg=>by simp at hg,zN,by simp⟩;clear hgr HA HP;go_wp2_with fail
 have hmm:(m:Int)<=8:=by omega
 go_loopw [6,7] (fun v i wr=>∃(k:Nat) (gsl:List Nat),k<=m/\i=iv (k:Int)/\Hid (L4 W (qC0 (ofG gs) ps k) gsl v wr)) (fun _ i _=>m-(intOf i).toNat)
 case atStart=>exact⟨0,[],gH _,rfl,HL0⟩
 case round =>
  obtain⟨k,gsl,hk,rfl,HT⟩:=hrel;have hkl:(qC0 (ofG gs) ps k).length=k:=qS5 _ ps k (by have:=HPW.out.1;omega);obtain⟨vb,vc,hve⟩:=HT.out.shape;rw[hkl]at hve;subst hve;by_cases hlt:k<m
  .obtain⟨pg,off,x,ea,hx,hpa⟩:=HPW.out.at hlt
   subst ea;have HX:=hJJ hx;have h0:qJ7 k x=0:=HPA.out k x hx;obtain⟨g0,g1,g2,g3,g4⟩:=hpa.below HT.out.bl;clear hx hpa;have hlt':(k:Int)<(m:Int):=by omega
   obtain⟨X,hX⟩:∃X,X=wr.alloc (.cells #[iv x.k,iv x.ro,iv x.rn,iv x.l,iv x.r] 219):=⟨_,rfl⟩;have AX:Below wr.heap.size wr X:=by rw[hX];exact zN
   have hXs:X.heap.size=wr.heap.size+1:=by rw[hX];simp
   have hpx:qX4 X wr.heap.size 0 x:=by rw[hX];simp[qX4]
   obtain⟨Y,hmk,hY,hfY,hsY,hbY⟩:=qKF X;have HPX:Hid (qX4 Y wr.heap.size 0 x):=hpx.below hbY;have HPX0:=hJJ hpx;clear hpx;have HTX:Hid (L4 W (qC0 (ofG gs) ps k) gsl (.slice (some ⟨vb,0,none⟩) k vc) X):=HT.out.below AX;have HRY:Hid (QA0 Y X.heap.size noT/\∀j,Y.frozen? ⟨X.heap.size,j,none⟩=false):=⟨hY,hfY⟩;have hvX:vb<X.heap.size:=(HTX.out.ow.lt vb rfl).2;clear hY hfY AX;have HE:Hid (qC0 (ofG gs) ps (k+1)=qC0 (ofG gs) ps k++[qQ0 (ofG gs) (qC0 (ofG gs) ps k) x]):=by rw[qT8 HX.out];trivial
   rw[hX]at hmk;go_upto_region 8 with fail
   clear hmk hX g0 g1 g2 g3 g4;have HTY:Hid (L4 W (qC0 (ofG gs) ps k) gsl (.slice (some ⟨vb,0,none⟩) k vc) Y):=HTX.out.below hbY;have HGY:Hid (QF2 Y (some ⟨gg,0,none⟩) lg gs):=HGr.out.below HTY.out.bl;obtain⟨q,hq0⟩:∃q,q=wr.heap.size+1:=⟨_,rfl⟩;have hq:q=X.heap.size:=by omega
   obtain⟨P,hPq⟩:∃P,P=wr.heap.size:=⟨_,rfl⟩;have hPl:P<q:=by omega
   have hvq:(Value.slice (some ⟨vb,0,none⟩) k vc).ownBlock≠some q:=by simp[Value.ownBlock];omega
   rw[<- hq]at HRY hsY;rw[<- hq0];rw[<- hPq]at HPX HPX0 ⊢
   have hvl:vb<q:=by omega
   have hgl:∀(i g:Nat),gsl[i]?=some g->g<q:=fun i g e=>by
    obtain⟨u,hu⟩:∃u,(qC0 (ofG gs) ps k)[i]?=some u:=⟨_,gA (by
     have:=HTX.out.ln;by_cases qq:i<gsl.length
     .omega
     .rw[gE (by omega)]at e;cases e)⟩
    have:=(HTX.out.rw i g u e hu).lt;omega
   have HGL:=hJJ hgl;have HYX:Hid (Below q X Y):=by rw[hq];exact hbY
   have HXQ:=hJJ hq;clear hgl hPq hbY HT hq hq0 hXs hvX;obtain⟨p0,p1,p2,p3,p4⟩:=HPX.out;simp only[gG]at p0 p1 p2 p3 p4;by_cases ek:x.k=1
   .have b1:(x.k==1)=true:=by simp[ek]
    obtain⟨v,hv⟩:∃v,v=ofG gs (x.ro,x.rn):=⟨_,rfl⟩;have hvs:qL0 v:=by rw[hv];exact HST.out _
    have HO:Hid (qQ0 (ofG gs) (qC0 (ofG gs) ps k) x=qHr v):=by unfold qQ0;rw[gK ek,hv];trivial
    clear ek h0;go_wp2_with fail
    refine (QQ5 _ _ _ gs (x.ro,x.rn) _ HGY.out (by omega)).mono ?_;rintro e Z1 ⟨rfl,hz1'⟩;rw[<- hv];clear hv;go_wp2_with fail
    refine (qAH v hvs.1 hvs.2 _).mono ?_;rintro e Z ⟨lg1,lc1,rfl,hown,hz2'⟩;have hbZ:Below Y.heap.size Y Z:=hz1'.trans (hz2'.mono hz1'.size);have HLr:Hid (qGh Z (some ⟨lg1,0,none⟩) (qB3 v 8).length (qB3 v 8)):=qCj hown;have hlq:q<lg1:=by have:=(hown.lt lg1 rfl).1;have:=hz1'.size;omega
    have HRZ:Hid (QA0 Z q noT/\∀j,Z.frozen? ⟨q,j,none⟩=false):=⟨HRY.out.1.below hbZ,fun j=>(hbZ.frozen (p:=⟨q,j,none⟩) HRY.out.1.lt).trans (HRY.out.2 j)⟩;have HBZ:Hid (Below q X Z):=HYX.out.trans (hbZ.mono (by have:=HYX.out.size;omega));obtain⟨ll,hll⟩:∃ll,ll=qB3 v 8:=⟨_,rfl⟩;have HLL:=hJJ hll;have hll8:ll.length<=8:=by rw[hll];exact QA9 v 8
    rw[<- hll]at HLr ⊢
    clear hown hz1' hz2' hbZ HTY HGY HRY HYX hll p0 p1 p2 p3 p4 HPX;have hll':(ll.length:Int)<=8:=by omega
    go_wp2_with fail
    go_loopw [11] (fun i wj=>∃(j:Nat) (T:TS),j<=ll.length/\i=iv (j:Int)/\Hid ((QA0 wj q T/\∀o,wj.frozen? ⟨q,o,none⟩=false)/\qGh wj (some ⟨lg1,0,none⟩) ll.length ll/\Below q X wj/\T=(ll.take j).foldl (fun T p=>QL7 T (2 ^ (p-1).toNat)) noT)) (fun i _=>ll.length-(intOf i).toNat)
    case atStart=>exact⟨0,noT,gH _,rfl,HRZ.out,HLr.out,HBZ.out,by simp⟩
    case round =>
     obtain⟨j,T,hj,rfl,HJ⟩:=hrel;by_cases hjl:j<ll.length
     .obtain⟨⟨hrow,hfro⟩,hli,hbj,hT⟩:=HJ.out;obtain⟨lb,lo,le,lc⟩:=hli.2 j hjl;cases le;simp only[gG]at lc;obtain⟨y,hy⟩:∃y,y=ll[j]?.getD 0:=⟨_,rfl⟩;rw[<- hy]at lc;have hyj:ll[j]?=some y:=by rw[hy,gA hjl];rfl
      have hym:1<=y/\y<=8:=by
       have:=gO hyj;rw[HLL.out]at this;obtain⟨u1,u2,_⟩:=qK6.1 this;exact⟨u1,by omega⟩
      obtain⟨z,hz⟩:∃z,z=2 ^ (y-1).toNat:=⟨_,rfl⟩;have hz256:z<256:=by rw[hz];exact Nat.pow_lt_pow_right (by omega) (show (y-1).toNat<8 by omega)
      have hbz:qGd y=(z:Int):=by rw[hz];rfl
      have cz:wr.cell? ⟨q,z,none⟩=some (.bool (T z)):=hrow z hz256;have fz:=hfro z;have hz':(z:Int)<256:=by omega
      have hjl':(j:Int)<(ll.length:Int):=by omega
      have HJ2:Hid ((QA0 (wr.setCell ⟨q,z,none⟩ (.bool true)) q (QL7 T z)/\∀o,(wr.setCell ⟨q,z,none⟩ (.bool true)).frozen? ⟨q,o,none⟩=false)/\qGh (wr.setCell ⟨q,z,none⟩ (.bool true)) (some ⟨lg1,0,none⟩) ll.length ll/\Below q X (wr.setCell ⟨q,z,none⟩ (.bool true))/\QL7 T z=(ll.take (j+1)).foldl (fun T p=>QL7 T (2 ^ (p-1).toNat)) noT):=by
       refine⟨⟨hrow.put hz256,fun o=>by rw[jE];exact hfro o⟩,⟨hli.1,fun i hi'=>?_⟩,hbj.setCell (p:=⟨q,z,none⟩) (gB _) _,?_⟩
       .obtain⟨b2,o2,e2,c2⟩:=hli.2 i hi';cases e2;exact⟨lg1,0,rfl,by rw[gF (h:=fun e=>by have:=jA Addr.block e;simp at this;omega)];exact c2⟩
       .rw[hT,List.take_add_one,hyj];simp[List.foldl_append,hz]
      clear HJ hrow hfro hli hbj hT hy hyj hz;go_wp2_with (first | (go_at_call 174;refine (qIT y hym.1 hym.2 _).mono ?_;rintro e wb ⟨rfl,rfl⟩;rw[hbz]) | fail)
      exact⟨⟨j+1,QL7 T z,by omega,by go_num,HJ2⟩,by simp[intOf];omega⟩
     .have hje:j=ll.length:=by omega
      subst hje;obtain⟨V,hV⟩:∃V,V=wr:=⟨_,rfl⟩;rw[<- hV]at HJ ⊢
      have HLV:Hid (L4 W (qC0 (ofG gs) ps k) gsl (.slice (some ⟨vb,0,none⟩) k vc) V):=HTX.out.below (by rw[<- HXQ.out];exact HJ.out.2.2.1)
      have HRV:Hid (QA0 V q (qHr v)):=by
       obtain⟨⟨hrow,_⟩,_,_,hT⟩:=HJ.out;rw[kQ,HLL.out,qKB]at hT;rw[<- hT];exact hrow
      clear HJ hV
      go_wp2_with (first
       | (at_builtin;refine jG _ rfl _ _ 217 rfl W.heap.size 156 i0 (.slice none 0 0) 1 24 underlying217 hi hz0 hz1 hz2 rfl (by decide) _ _ _ rfl (HLV.out.ow.alloc _) ⟨V.heap.size,0,none⟩ 1 1 [slV q] rfl rfl ?c1 ?c2 ?c3 ?c4 ?c5 ?_)
       | fail)
      case c1 =>
       intro j u hj;match j,hj with
       | 0,hj=>simp at hj;subst hj;simp[Addr.add,slV]
      case c2=>intro u hu;simp at hu;subst hu;rfl
      case c3=>rw[hkl];unfold maxLen;omega
      case c4=>rw[hkl];omega
      case c5=>have:=HLV.out.bl.size;simp;omega
      intro v' w9 hown' hgrow hnil;have hnn':v'≠.slice none 0 0:=hnil;have HN:Hid (L4 W (qC0 (ofG gs) ps (k+1)) (gsl++[q]) v' w9):=by rw[HE.out,HO.out];exact HLV.out.next HRV.out hvq (by rw[hkl];exact hown') hgrow hnn'
      clear hnil hown' hgrow hnn';go_wp2_with fail
      exact⟨⟨k+1,gsl++[q],by omega,by go_num,HN⟩,by simp[intOf];omega⟩
   .have b1:(x.k==1)=false:=by simp[ek]
    obtain⟨l,r,hl,hr,hxl,hxr,hk23⟩:∃l r:Nat,l<k/\r<k/\x.l=(l:Int)/\x.r=(r:Int)/\(x.k=2\/x.k=3):=by
     unfold qJ7 at h0;by_cases qk:1<=x.k/\x.k<=3
     .rw[gI (by omega),gI ek]at h0;split at h0
      .cases h0
      .split at h0
       .cases h0
       .rename_i q1;split at h0
        .cases h0
        .rename_i q2;exact⟨x.l.toNat,x.r.toNat,by omega,by omega,by omega,by omega,by omega⟩
     .rw[gK qk]at h0;cases h0
    obtain⟨L,hL⟩:∃L,(qC0 (ofG gs) ps k)[l]?=some L:=⟨_,gA (by omega)⟩;obtain⟨R,hR⟩:∃R,(qC0 (ofG gs) ps k)[r]?=some R:=⟨_,gA (by omega)⟩;obtain⟨ap,hap⟩:∃ap,decide (x.k=3)=ap:=⟨_,rfl⟩
    have HO:Hid (qQ0 (ofG gs) (qC0 (ofG gs) ps k) x=QU2 ap L R):=by
     unfold qQ0;rw[gI ek,hxl,hxr,kS,kS,hL,hR,hap];trivial
    have hk2:(x.k==2) = !ap:=by
     rw[<- hap];rcases hk23 with e | e <;> simp[e]
    obtain⟨gl,cl,hrl,hgl1⟩:=HTX.out.at hL
    obtain⟨gr',cr,hrr,hgr1⟩:=HTX.out.at hR
    have HK:Hid (∀X':World,Below q X X'->(X'.cell? ⟨P,0,none⟩=some (iv x.k)/\X'.cell? ⟨P,3,none⟩=some (iv x.l)/\X'.cell? ⟨P,4,none⟩=some (iv x.r))/\(X'.cell? ⟨vb,l,none⟩=some (.slice (some ⟨gl,0,none⟩) 256 256)/\QA0 X' gl L)/\X'.cell? ⟨vb,r,none⟩=some (.slice (some ⟨gr',0,none⟩) 256 256)/\QA0 X' gr' R):=fun X' hb=>by
     obtain⟨q0,_,_,q3,q4⟩:=HPX0.out;simp only[gG]at q0 q3 q4;rw[HXQ.out]at hb;have kk:∀(b o:Nat) (u:Value),X.cell? ⟨b,o,none⟩=some u->X'.cell? ⟨b,o,none⟩=some u:=fun b o u e=>(hb.cell (p:=⟨b,o,none⟩) (zL X ⟨b,o,none⟩ e)).trans e
     exact⟨⟨kk _ _ _ q0,kk _ _ _ q3,kk _ _ _ q4⟩,⟨kk _ _ _ cl,hrl.below hb⟩,kk _ _ _ cr,hrr.below hb⟩
    have hl':(l:Int)<(k:Int):=by omega
    have hr':(r:Int)<(k:Int):=by omega
    clear ek h0 hL hR hap hk23 cl hrl cr hrr hgl1 hgr1 p0 p1 p2 p3 p4 HPX HPX0 HTY HGY;have HST0:Hid ((QA0 Y q noT/\∀j,Y.frozen? ⟨q,j,none⟩=false)/\Below q X Y):=⟨HRY.out,HYX.out⟩;obtain⟨y0,y3,y4⟩:=(HK.out Y HYX.out).1;clear HRY HYX;go_wp2_with fail
    clear y0 y3 y4;go_loopw [12] (fun i wj=>∃(c:Nat) (T:TS),c<=256/\i=iv (c:Int)/\Hid (((QA0 wj q T/\∀j,wj.frozen? ⟨q,j,none⟩=false)/\Below q X wj)/\qAq ap L R c 0 T)) (fun i _=>256-(intOf i).toNat)
    case atStart=>exact⟨0,noT,by omega,rfl,HST0.out,QY0 ap L R⟩
    case round =>
     obtain⟨c,T,hc,rfl,HC⟩:=hrel;by_cases hcl:c<256
     .have hcl':(c:Int)<256:=by omega
      obtain⟨V0,hV0⟩:∃V0,V0=wr:=⟨_,rfl⟩;rw[<- hV0]at HC ⊢
      clear hV0;go_wp2_with fail
      go_loopw [13] (fun i wj=>∃(d:Nat) (U:TS),d<=256/\i=iv (d:Int)/\Hid (((QA0 wj q U/\∀j,wj.frozen? ⟨q,j,none⟩=false)/\Below q X wj)/\qAq ap L R c d U)) (fun i _=>256-(intOf i).toNat)
      case atStart=>exact⟨0,T,by omega,rfl,HC⟩
      case round =>
       obtain⟨d,U,hd,rfl,HD⟩:=hrel;obtain⟨⟨y0,y3,y4⟩,⟨yl,hlr⟩,yr,hrr⟩:=HK.out wr HD.out.1.2;by_cases hdl:d<256
       .have hdl':(d:Int)<256:=by omega
        have cL:=hlr c hcl;have cR:=hrr d hdl;obtain⟨lv,hlv⟩:∃lv,L c=lv:=⟨_,rfl⟩;have HLc:=hJJ hlv;rw[hlv]at cL;clear hlv hlr hrr;cases lv
        .have HN:Hid (((QA0 wr q U/\∀j,wr.frozen? ⟨q,j,none⟩=false)/\Below q X wr)/\qAq ap L R (c+1) 0 U):=⟨HD.out.1,qCH HD.out.2 HLc.out⟩;go_wp2_with fail
         exact⟨⟨c+1,U,by omega,by go_num,HN⟩,by simp[intOf];omega⟩
        .obtain⟨rv,hrv⟩:∃rv,R d=rv:=⟨_,rfl⟩;rw[hrv]at cR;have hand:bits .and .i64 (c:Int) (d:Int)=((c &&& d:Nat):Int):=QS3 c d hcl hdl;have hor:bits .or .i64 (c:Int) (d:Int)=((c ||| d:Nat):Int):=QG4 c d hcl hdl;have hx256:c ||| d<256:=Nat.or_lt_two_pow (n:=8) hcl hdl;obtain⟨qb,hqb⟩:∃qb,((c &&& d) != 0)=qb:=⟨_,rfl⟩;have hqb':((((c &&& d:Nat):Int))==0) = !qb:=by rw[<- hqb];rw[kX];simp
         have hok:qFs ap c d = !(ap&&qb):=by unfold qFs;rw[hqb]
         have hn0:(R d&&qFs ap c d)=(rv && !(ap&&qb)):=by rw[hrv,hok]
         have HN0:=hJJ hn0;obtain⟨xx,hxx⟩:∃xx,xx=c ||| d:=⟨_,rfl⟩;have HXX:=hJJ hxx;rw[<- hxx]at hor hx256;have hx':(xx:Int)<256:=by omega
         have cx:wr.cell? ⟨q,xx,none⟩=some (.bool (U xx)):=HD.out.1.1.1 xx hx256;have fx:=HD.out.1.1.2 xx
         have HPut:Hid ((rv && !(ap&&qb))=true->((QA0 (wr.setCell ⟨q,xx,none⟩ (.bool true)) q (QL7 U xx)/\∀j,(wr.setCell ⟨q,xx,none⟩ (.bool true)).frozen? ⟨q,j,none⟩=false)/\Below q X (wr.setCell ⟨q,xx,none⟩ (.bool true)))/\qAq ap L R c (d+1) (QL7 U xx)):=fun e =>
          ⟨⟨⟨HD.out.1.1.1.put hx256,fun j=>by rw[jE];exact HD.out.1.1.2 j⟩,HD.out.1.2.setCell (p:=⟨q,xx,none⟩) (gB _) _⟩,by rw[HXX.out];exact qAc HD.out.2 hcl hdl HLc.out (HN0.out.trans e)⟩
         have HNo:Hid ((rv && !(ap&&qb))=false->((QA0 wr q U/\∀j,wr.frozen? ⟨q,j,none⟩=false)/\Below q X wr)/\qAq ap L R c (d+1) U):=fun e=>⟨HD.out.1,qDn HD.out.2 (HN0.out.trans e)⟩
         generalize hyy:((c &&& d:Nat):Int)=yy at hand hqb';clear hyy hrv hqb hok hn0 hxx HXX HN0 HD;cases rv
         .have HN:=HNo.out (by simp);have HN':Hid _:=HN;clear HN HPut HNo;go_wp2_with fail
          exact⟨⟨d+1,U,by omega,by go_num,HN'⟩,by simp[intOf];omega⟩
         .cases ap
          .have HN:=HPut.out (by simp);have HN':Hid _:=HN;clear HN HPut HNo;go_wp2_with fail
           exact⟨⟨d+1,QL7 U xx,by omega,by go_num,HN'⟩,by simp[intOf];omega⟩
          .cases qb
           .have HN:=HPut.out (by simp);have HN':Hid _:=HN;clear HN HPut HNo;go_wp2_with fail
            exact⟨⟨d+1,QL7 U xx,by omega,by go_num,HN'⟩,by simp[intOf];omega⟩
           .have HN:=HNo.out (by simp);have HN':Hid _:=HN;clear HN HPut HNo;go_wp2_with fail
            exact⟨⟨d+1,U,by omega,by go_num,HN'⟩,by simp[intOf];omega⟩
       .have hde:d=256:=by omega
        subst hde;have HN:Hid (((QA0 wr q U/\∀j,wr.frozen? ⟨q,j,none⟩=false)/\Below q X wr)/\qAq ap L R (c+1) 0 U):=⟨HD.out.1,qCI HD.out.2⟩;clear hlr hrr;go_wp2_with fail
        exact⟨⟨c+1,U,by omega,by go_num,HN⟩,by simp[intOf];omega⟩
     .have hce:c=256:=by omega
      subst hce;obtain⟨V,hV⟩:∃V,V=wr:=⟨_,rfl⟩;rw[<- hV]at HC ⊢
      have HLV:Hid (L4 W (qC0 (ofG gs) ps k) gsl (.slice (some ⟨vb,0,none⟩) k vc) V):=HTX.out.below (by rw[<- HXQ.out];exact HC.out.1.2);have HRV:Hid (QA0 V q (QU2 ap L R)):=HC.out.1.1.1.ext (qFE HC.out.2);clear HC hV
      go_wp2_with (first
       | (at_builtin;refine jG _ rfl _ _ 217 rfl W.heap.size 156 i0 (.slice none 0 0) 1 24 underlying217 hi hz0 hz1 hz2 rfl (by decide) _ _ _ rfl (HLV.out.ow.alloc _) ⟨V.heap.size,0,none⟩ 1 1 [slV q] rfl rfl ?c1 ?c2 ?c3 ?c4 ?c5 ?_)
       | fail)
      case c1 =>
       intro j u hj;match j,hj with
       | 0,hj=>simp at hj;subst hj;simp[Addr.add,slV]
      case c2=>intro u hu;simp at hu;subst hu;rfl
      case c3=>rw[hkl];unfold maxLen;omega
      case c4=>rw[hkl];omega
      case c5=>have:=HLV.out.bl.size;simp;omega
      intro v' w9 hown' hgrow hnil;have hnn':v'≠.slice none 0 0:=hnil;have HN:Hid (L4 W (qC0 (ofG gs) ps (k+1)) (gsl++[q]) v' w9):=by rw[HE.out,HO.out];exact HLV.out.next HRV.out hvq (by rw[hkl];exact hown') hgrow hnn'
      clear hnil hown' hgrow hnn';go_wp2_with fail
      exact⟨⟨k+1,gsl++[q],by omega,by go_num,HN⟩,by simp[intOf];omega⟩
  .have hke:k=m:=by omega
   subst hke
   have hlast:(qC0 (ofG gs) ps k)[k-1]?=some (qS6 (ofG gs) ps):=by
    unfold qS6;rw[HPW.out.1,gA (by omega)];rfl
   obtain⟨gl,cl,hrl,_⟩:=HT.out.at hlast
   have HRL:=hJJ hrl;have HBF:Hid (Below w.heap.size w wr):=hbW.trans (HT.out.bl.mono hbW.size);have hkm:((k:Int)-1)=((k-1:Nat):Int):=by omega
   have hk1:(((k-1:Nat):Nat):Int)<(k:Int):=by omega
   obtain⟨k1,hk1e⟩:∃k1,k1=k-1:=⟨_,rfl⟩;rw[<- hk1e]at cl hkm hk1;clear hrl hlast hk1e;go_wp2_with fail
   go_ret;exact⟨gl,rfl,HRL.out,HBF.out⟩
