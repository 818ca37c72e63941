/- Contracts. -/
import Derived.Test.YtdghpccmdnnenaaGreatDoorPx02
import Derived.Test.YtdghpccmdnnenaaGreatDoorPx07
import Derived.Test.YtdghpccmdnnenaaGreatDoorPx08
import Derived.Test.YtdghpccmdnnenaaGreatDoorPx09
import Derived.Test.YtdghpccmdnnenaaGreatDoorPx04
import Derived.Maps.Own
import Derived.Maps.OwnSet
import Derived.Maps.Ext
import Derived.Maps.RangeWalk
import Derived.DeepKeys4
import Derived.WideKeyEntry
import Derived.BigRegion
import Derived.RegionIn
import Derived.BigRegionIn
import Derived.Deep.RegionWith
import Derived.Shelf.SlMaps.Clone
namespace Go.Proofs.YtdghpccmdnnenaaGreatDoor
set_option maxRecDepth 100000
set_option maxHeartbeats 8000000
open Go.RowKit Go.Proofs.Tryz
set_option linter.unusedVariables false
set_option linter.unusedSimpArgs false
def qAp(w:World)(B:Nat)(x y:Value):Prop:=w.cell? ⟨B,0,none⟩=some x/\w.cell? ⟨B,1,none⟩=some y
theorem qAp.lt{w:World}{B:Nat}{x y:Value}(h:qAp w B x y):B<w.heap.size:=zL w ⟨B,0,none⟩ h.1
theorem qAp.below{w w':World}{B:Nat}{x y:Value}(h:qAp w B x y)(hb:Below w.heap.size w w'):qAp w' B x y :=
 ⟨(hb.cell (p:=⟨B,0,none⟩) h.lt).trans h.1,(hb.cell (p:=⟨B,1,none⟩) h.lt).trans h.2⟩
theorem qAp.grown{w w':World}{B:Nat}{x y:Value}{row:Option Nat}(h:qAp w B x y)(hg:w.grownBy w' row)(hne:some B≠row):qAp w' B x y :=
 ⟨hg.cell h.1 hne,hg.cell h.2 hne⟩
theorem qAp.new(w:World)(x y:Value)(t:TypeId):qAp (w.alloc (.cells #[x,y] t)) w.heap.size x y:=⟨by simp,by simp⟩
theorem qU2(r:qA1)(t:TypeId)(v:Value)(w:World)(hk:1<=r.k/\r.k<=4)(HO:Hid (∀w:World,CP 253 #[.agg #[iv r.k,iv r.ho,iv r.hn,iv r.w,iv r.oo,iv r.on,iv r.to,iv r.tn]] w fun e w'=>e=.returned (.iface t v)/\Below w.heap.size w w'))(HF:Hid (∀w:World,CP 256 #[.iface t v] w fun e w'=>e=.returned (iv (if QH5 r=true then 0 else 3))/\Below w.heap.size w w')):
  CP 240 #[.agg #[iv r.k,iv r.ho,iv r.hn,iv r.w,iv r.oo,iv r.on,iv r.to,iv r.tn]] w fun e w'=>e=.returned (iv (qA6 r))/\Below w.heap.size w w':=by
 have hX:Hid (qC2 (w.alloc (Obj.cells #[iv r.k,iv r.ho,iv r.hn,iv r.w,iv r.oo,iv r.on,iv r.to,iv r.tn] 208)) w.heap.size 0 r):=qC2.new w r _;cases hr:qD1 r.ho r.hn
 .have E:Hid (qA6 r=3):=by show qA6 r=3;simp[qA6,hk,hr]
  have hc:qE9 r.ho r.hn=3:=by simp[qE9,hr]
  have hb:Below (w.alloc (Obj.cells #[iv r.k,iv r.ho,iv r.hn,iv r.w,iv r.oo,iv r.on,iv r.to,iv r.tn] 208)).heap.size (w.alloc (Obj.cells #[iv r.k,iv r.ho,iv r.hn,iv r.w,iv r.oo,iv r.on,iv r.to,iv r.tn] 208)) (w.alloc (Obj.cells #[iv r.k,iv r.ho,iv r.hn,iv r.w,iv r.oo,iv r.on,iv r.to,iv r.tn] 208)):=gC _ _;obtain⟨h0,h1,h2,h3,h4,h5,h6,h7⟩:=hX.out;simp only[gG]at h0 h1 h2 h3 h4 h5 h6 h7;go_enter func240,ntmps240;go_wp2_with (first | (go_at_call 253;refine (HO.out _).mono ?_;rintro e w1 ⟨rfl,hb1⟩;replace hb:=hb.trans (hb1.mono hb.size);clear h0 h1 h2 h3 h4 h5 h6 h7 hb1;obtain⟨h0,h1,h2,h3,h4,h5,h6,h7⟩:=hX.out.below hb;simp only[gG]at h0 h1 h2 h3 h4 h5 h6 h7) | (go_at_call 254;refine (qC5 _ _ _).mono ?_;rintro e w1 ⟨rfl,hb1⟩;replace hb:=hb.trans (hb1.mono hb.size);clear h0 h1 h2 h3 h4 h5 h6 h7 hb1;obtain⟨h0,h1,h2,h3,h4,h5,h6,h7⟩:=hX.out.below hb;simp only[gG]at h0 h1 h2 h3 h4 h5 h6 h7;rw[hc]))
  go_ret;exact⟨by rw[E.out];rfl,qD5 hb⟩
 .have hc:qE9 r.ho r.hn=0:=by simp[qE9,hr]
  cases hbr:QS2 r
  .have E:Hid (qA6 r=1):=by show qA6 r=1;simp[qA6,hk,hr,hbr]
   have hb:Below (w.alloc (Obj.cells #[iv r.k,iv r.ho,iv r.hn,iv r.w,iv r.oo,iv r.on,iv r.to,iv r.tn] 208)).heap.size (w.alloc (Obj.cells #[iv r.k,iv r.ho,iv r.hn,iv r.w,iv r.oo,iv r.on,iv r.to,iv r.tn] 208)) (w.alloc (Obj.cells #[iv r.k,iv r.ho,iv r.hn,iv r.w,iv r.oo,iv r.on,iv r.to,iv r.tn] 208)):=gC _ _;obtain⟨h0,h1,h2,h3,h4,h5,h6,h7⟩:=hX.out;simp only[gG]at h0 h1 h2 h3 h4 h5 h6 h7;go_enter func240,ntmps240;go_wp2_with (first | (go_at_call 253;refine (HO.out _).mono ?_;rintro e w1 ⟨rfl,hb1⟩;replace hb:=hb.trans (hb1.mono hb.size);clear h0 h1 h2 h3 h4 h5 h6 h7 hb1;obtain⟨h0,h1,h2,h3,h4,h5,h6,h7⟩:=hX.out.below hb;simp only[gG]at h0 h1 h2 h3 h4 h5 h6 h7) | (go_at_call 254;refine (qC5 _ _ _).mono ?_;rintro e w1 ⟨rfl,hb1⟩;replace hb:=hb.trans (hb1.mono hb.size);clear h0 h1 h2 h3 h4 h5 h6 h7 hb1;obtain⟨h0,h1,h2,h3,h4,h5,h6,h7⟩:=hX.out.below hb;simp only[gG]at h0 h1 h2 h3 h4 h5 h6 h7;rw[hc]) | (go_at_call 255;refine (QX4 r hk _).mono ?_;rintro e w1 ⟨rfl,hb1⟩;replace hb:=hb.trans (hb1.mono hb.size);clear h0 h1 h2 h3 h4 h5 h6 h7 hb1;obtain⟨h0,h1,h2,h3,h4,h5,h6,h7⟩:=hX.out.below hb;simp only[gG]at h0 h1 h2 h3 h4 h5 h6 h7;rw[hbr]))
   go_ret;exact⟨by rw[E.out];rfl,qD5 hb⟩
  .have E:Hid (qA6 r=if QH5 r=true then 0 else 3):=by show qA6 r=if QH5 r=true then 0 else 3;simp[qA6,hk,hr,hbr];cases QH5 r <;> rfl
   obtain⟨c,hcc⟩:∃c:Int,c=if QH5 r=true then 0 else 3:=⟨_,rfl⟩;rw[<- hcc]at HF E;clear hcc;have hb:Below (w.alloc (Obj.cells #[iv r.k,iv r.ho,iv r.hn,iv r.w,iv r.oo,iv r.on,iv r.to,iv r.tn] 208)).heap.size (w.alloc (Obj.cells #[iv r.k,iv r.ho,iv r.hn,iv r.w,iv r.oo,iv r.on,iv r.to,iv r.tn] 208)) (w.alloc (Obj.cells #[iv r.k,iv r.ho,iv r.hn,iv r.w,iv r.oo,iv r.on,iv r.to,iv r.tn] 208)):=gC _ _;obtain⟨h0,h1,h2,h3,h4,h5,h6,h7⟩:=hX.out;simp only[gG]at h0 h1 h2 h3 h4 h5 h6 h7;go_enter func240,ntmps240;go_wp2_with (first | (go_at_call 253;refine (HO.out _).mono ?_;rintro e w1 ⟨rfl,hb1⟩;replace hb:=hb.trans (hb1.mono hb.size);clear h0 h1 h2 h3 h4 h5 h6 h7 hb1;obtain⟨h0,h1,h2,h3,h4,h5,h6,h7⟩:=hX.out.below hb;simp only[gG]at h0 h1 h2 h3 h4 h5 h6 h7) | (go_at_call 254;refine (qC5 _ _ _).mono ?_;rintro e w1 ⟨rfl,hb1⟩;replace hb:=hb.trans (hb1.mono hb.size);clear h0 h1 h2 h3 h4 h5 h6 h7 hb1;obtain⟨h0,h1,h2,h3,h4,h5,h6,h7⟩:=hX.out.below hb;simp only[gG]at h0 h1 h2 h3 h4 h5 h6 h7;rw[hc]) | (go_at_call 255;refine (QX4 r hk _).mono ?_;rintro e w1 ⟨rfl,hb1⟩;replace hb:=hb.trans (hb1.mono hb.size);clear h0 h1 h2 h3 h4 h5 h6 h7 hb1;obtain⟨h0,h1,h2,h3,h4,h5,h6,h7⟩:=hX.out.below hb;simp only[gG]at h0 h1 h2 h3 h4 h5 h6 h7;rw[hbr]) | (go_at_call 256;refine (HF.out _).mono ?_;rintro e w1 ⟨rfl,hb1⟩;replace hb:=hb.trans (hb1.mono hb.size);clear h0 h1 h2 h3 h4 h5 h6 h7 hb1;obtain⟨h0,h1,h2,h3,h4,h5,h6,h7⟩:=hX.out.below hb;simp only[gG]at h0 h1 h2 h3 h4 h5 h6 h7))
   go_ret;exact⟨by rw[E.out];rfl,qD5 hb⟩
theorem QQ7(r:qA1)(w:World):
  CP 240 #[.agg #[iv r.k,iv r.ho,iv r.hn,iv r.w,iv r.oo,iv r.on,iv r.to,iv r.tn]] w fun e w' =>
   e=.returned (iv (qA6 r))/\Below w.heap.size w w':=by
 by_cases hk:1<=r.k/\r.k<=4
 .have hk':r.k=1\/r.k=2\/r.k=3\/r.k=4:=by omega
  rcases hk' with e | e | e | e
  .have e2:QH5 r=qV2 r.w:=by simp[QH5,e]
   exact qU2 r _ _ w hk (qAf r e) (fun w=>by rw[e2];exact qDs r.w w)
  .have e2:QH5 r=qD1 r.oo r.on:=by simp[QH5,e]
   exact qU2 r _ _ w hk (qAe r e) (fun w=>by rw[e2];exact qDr r.oo r.on w)
  .have e2:QH5 r=(qD1 r.oo r.on&&qW1 r.tn):=by simp[QH5,e]
   exact qU2 r _ _ w hk (QM7 r e) (fun w=>by rw[e2];exact qDq r.oo r.on r.tn w)
  .have e2:QH5 r=(qD1 r.oo r.on&&qD1 r.to r.tn):=by simp[QH5,e]
   exact qU2 r _ _ w hk (qAd r e) (fun w=>by rw[e2];exact qDp r.oo r.on r.to r.tn w)
 .have E:Hid (qA6 r=1):=by show qA6 r=1;simp[qA6,hk]
  go_enter func240,ntmps240;go_wp2_with (first | (go_at_call 253;refine (qKs r hk _).mono ?_;rintro e w1 ⟨rfl,hb1⟩))
  go_ret;exact⟨by rw[E.out];rfl,qD5 hb1⟩
theorem qAA(a:Option Addr)(n cap:Nat)(w:World)(hn:n<=1048576)(h16:16<n):
  CP 218 #[.slice a n cap] w fun e w'=>e=.returned (iv 2)/\Below w.heap.size w w':=by
 have h':(16:Int)<(n:Int):=by omega
 go_enter func218,ntmps218;go_wp2;go_ret;exact⟨rfl,gC _ _⟩
theorem qBL(a:Option Addr)(n cap:Nat)(zs:List qA1)(c:Int)(w:World)(h16:n<=16)(hcap:n<=cap)(hcm:cap<=maxLen)(h:qB9 w a n zs)(hc:qL1 zs n=c):
  CP 218 #[.slice a n cap] w fun e w'=>e=.returned (iv c)/\Below w.heap.size w w':=by
 have H:=hJJ h;have hz:=hJJ h.1;have HC:=hJJ hc;clear h hc;have h':¬ ((16:Int)<(n:Int)):=by omega
 go_enter func218,ntmps218;go_wp2;go_loopw [11] (fun i wr=>∃k:Nat,k<=n/\i=iv (k:Int)/\qL1 zs k=0/\Below w.heap.size w wr) (fun i _=>n-(intOf i).toNat)
 case atStart=>exact⟨0,gH _,rfl,rfl,gC _ _⟩
 case round =>
  obtain⟨k,hk,rfl,hp,hnx⟩:=hrel;have HP:=hJJ hp;clear hp;by_cases hlt:k<n
  .obtain⟨b,off,r,rfl,hs,hr⟩:=H.out.at hlt
   have HS:=hJJ hs;clear hs;obtain⟨h0,h1,h2,h3,h4,h5,h6,h7⟩:=hr.below hnx;clear hr;have hlt':(k:Int)<(n:Int):=by omega
   go_wp2_with fail
   refine (QQ7 r _).mono ?_;rintro e w1 ⟨rfl,hb1⟩;have hz1:=hb1.size;simp only[jC]at hz1;have hnx1:Below w.heap.size w w1:=hnx.trans ((qD5 hb1).mono hnx.size);have hlt1:wr.heap.size<w1.heap.size:=by omega
   have hR:Hid (qC2 w1 wr.heap.size 0 r):=(qC2.new wr r _).below hb1;clear h0 h1 h2 h3 h4 h5 h6 h7 hb1;by_cases hcode:qA6 r=0
   .rw[hcode];have HO:=hJJ hcode;clear hcode;have HX:Hid (qB9 w1 (some ⟨b,off,none⟩) k (zs.take k)):=(H.out.cut hk).below hnx1;have hkc:(k:Int)<=(cap:Int):=by omega
    have hk0:(0:Int)<=(k:Int):=by omega
    obtain⟨h0,h1,h2,h3,h4,h5,h6,h7⟩:=hR.out;simp only[gG]at h0 h1 h2 h3 h4 h5 h6 h7;obtain⟨t,ht⟩:∃t,t=decide (r∈zs.take k):=⟨_,rfl⟩;have HC2:Hid (∀w2:World,(∀b o,b<w1.heap.size->w2.cell? ⟨b,o,none⟩=w1.cell? ⟨b,o,none⟩)/\Below w1.heap.size w1 w2->CP 241 #[.slice (some ⟨b,off,none⟩) k cap,.agg #[iv r.k,iv r.ho,iv r.hn,iv r.w,iv r.oo,iv r.on,iv r.to,iv r.tn]] w2 fun e w'=>e=.returned (.bool t)/\Below w2.heap.size w2 w'):=fun w2 hb=>by rw[ht];exact QJ7 _ _ _ _ r w2 (by omega) (HX.out.below hb.2)
    have HT:=hJJ ht;clear ht;cases t
    .have HN:Hid (qL1 zs (k+1)=0):=QV7 zs k r HS.out HP.out HO.out (by simpa using HT.out);go_wp2
     go_region_held3 (fun w'=>(∀b o,b<w1.heap.size->w'.cell? ⟨b,o,none⟩=w1.cell? ⟨b,o,none⟩)/\Below w1.heap.size w1 w') (first | exact hS | exact qA8 _)
      (first | (go_at_call 241;refine (HC2.out _ (by assumption)).mono ?_;rintro e w' ⟨rfl,hb2⟩;have hS:=qA0 (by assumption) hb2))
     go_wp2;exact⟨⟨k+1,by omega,by go_num,HN.out,hnx1.trans (hS.2.mono hnx1.size)⟩,by simp[intOf];omega⟩
    .have HI:Hid (c=6):=HC.out.symm.trans (qS0 zs (k+1) n 6 (by decide) (QI7 zs k r HS.out HP.out HO.out (by simpa using HT.out)) (by omega));go_wp2
     go_region_held3 (fun w'=>(∀b o,b<w1.heap.size->w'.cell? ⟨b,o,none⟩=w1.cell? ⟨b,o,none⟩)/\Below w1.heap.size w1 w') (first | exact hS | exact qA8 _)
      (first | (go_at_call 241;refine (HC2.out _ (by assumption)).mono ?_;rintro e w' ⟨rfl,hb2⟩;have hS:=qA0 (by assumption) hb2))
     go_wp2;go_ret;exact⟨by rw[HI.out];rfl,hnx1.trans (hS.2.mono hnx1.size)⟩
   .have E:Hid (c=qA6 r):=(HC.out.symm.trans (qS0 zs (k+1) n _ hcode (QG2 zs k r HS.out HP.out hcode) (by omega)));obtain⟨d,hd⟩:∃d,d=qA6 r:=⟨_,rfl⟩;rw[<- hd]at hcode E ⊢
    clear hd;have hne:(d != 0)=true:=by simpa using hcode
    go_wp2;go_ret;exact⟨by rw[E.out];rfl,hnx1⟩
  .have hkn:k=n:=by omega
   subst hkn;have E:Hid (c=0):=HC.out.symm.trans HP.out;go_wp2;go_ret;exact⟨by rw[E.out];rfl,hnx⟩
theorem qW5(a:Option Addr)(n cap:Nat)(zs:List qA1)(w:World)(hn:n<=1048576)(hcap:n<=cap)(hcm:cap<=maxLen)(h:qB9 w a n zs):
  CP 218 #[.slice a n cap] w fun e w'=>e=.returned (iv (qC3 zs))/\Below w.heap.size w w':=by
 have hz:=h.1;by_cases h16:16<n
 .have e:qC3 zs=2:=by simp[qC3,hz,h16]
  rw[e];exact qAA a n cap w hn h16
 .have e:qC3 zs=qL1 zs n:=by simp[qC3,hz,h16]
  rw[e];exact qBL a n cap zs _ w (by omega) hcap hcm h rfl
theorem QG5{α:Type}[DecidableEq α]:∀(l L:List α),l.Nodup->(∀x∈l,x∈L)->l.length<=L.length
 | [],_,_,_=>by simp
 | x::xs,L,h,hs=>by
  have h':=List.nodup_cons.1 h;have hx:x∈L:=hs x (by simp);have:=QG5 xs (L.erase x) h'.2 (fun y hy=>(List.mem_erase_of_ne (fun e=>h'.1 (by rw[<- e];exact hy))).2 (hs y (by simp[hy])));rw[List.length_erase_of_mem hx]at this;have : 0<L.length:=List.length_pos_of_mem hx;simp only[jX];omega
theorem qEF{α:Type}(f g:α->Int):∀(l:List α),(∀x∈l,f x<=g x)->(l.map f).sum<=(l.map g).sum
 | [],_=>by simp
 | x::xs,h=>by
  have:=qEF f g xs (fun y hy=>h y (by simp[hy]));have:=h x (by simp);simp only[List.map_cons,List.sum_cons];omega
theorem QU5{α:Type}(f g:α->Int)(a:α):∀(l:List α),(∀x∈l,f x<=g x)->a∈l->f a<g a->(l.map f).sum<(l.map g).sum
 | [],_,h,_=>by cases h
 | x::xs,h,ha,hlt=>by
  have hx:=h x (by simp);have hm:=qEF f g xs (fun y hy=>h y (by simp[hy]));simp only[List.map_cons,List.sum_cons];rcases gX.1 ha with rfl | ha'
  .omega
  .have:=QU5 f g a xs (fun y hy=>h y (by simp[hy])) ha' hlt;omega
def qAi:List RoI:=(List.range 8).flatMap (fun (i:Nat)=>(List.range 5).map (fun (j:Nat)=>((((i:Int)+1),((j:Int)+1)):RoI)))
theorem qCJ:qAi.length=40:=by decide
theorem QP5{r:RoI}(h:qD1 r.1 r.2=true):r∈qAi:=by
 obtain⟨a,b⟩:=r;simp[qD1,qV2,qW1]at h;unfold qAi;rw[List.mem_flatMap];obtain⟨⟨h1,h2⟩,h3,h4⟩:=h;obtain⟨i,rfl⟩:∃i:Nat,a=(i:Int)+1:=⟨(a-1).toNat,by omega⟩;obtain⟨j,rfl⟩:∃j:Nat,b=(j:Int)+1:=⟨(b-1).toNat,by omega⟩;have hi:i<8:=by omega
 have hj:j<5:=by omega
 exact⟨i,List.mem_range.2 hi,kU.2 ⟨j,List.mem_range.2 hj,rfl⟩⟩
structure FN (f:RoI->Int):Prop where
 st:∀r,qL0 (f r)
 ro:∀r,f r≠0->qD1 r.1 r.2=true
def qCS:RoI->Int:=fun _=>0
def qT0(f:RoI->Int)(r:RoI)(s:Int):RoI->Int:=fun r'=>if r'=r then orI (f r) s else f r'
theorem qIl:FN qCS:=⟨fun _=>⟨Int.le_refl _,show (0:Int)<=255 by decide⟩,fun _ h=>absurd rfl h⟩
theorem qNE{f:RoI->Int}(h:FN f){r:RoI}(hr:qD1 r.1 r.2=true){s:Int}(hs:qL0 s):FN (qT0 f r s):=by
 refine⟨fun r'=>?_,fun r' hn=>?_⟩
 .unfold qT0;split
  .exact qBO (h.st _) hs
  .exact h.st _
 .unfold qT0 at hn;split at hn
  .rename_i e;rw[e];exact hr
  .exact h.ro _ hn
theorem qMY{a b:Int}(ha:qL0 a)(hb:qL0 b):orI a b=a↔∀p,1<=p->qI8 b p=true->qI8 a p=true:=by
 constructor
 .intro e p _ q;have:=QR0 ha hb p;rw[e,q,Bool.or_true]at this;exact this
 .intro h;refine qHQ (qBO ha hb) ha (fun p h0 _=>?_);rw[QR0 ha hb];cases q:qI8 b p
  .simp
  .rw[h p h0 q];rfl
theorem QR1{f:RoI->Int}(h:FN f)(r:RoI){s:Int}(hs:qL0 s)(r':RoI)(p:Int):qI8 (qT0 f r s r') p=true↔qI8 (f r') p=true\/(r'=r/\qI8 s p=true):=by
 unfold qT0;split
 .rename_i e;subst e;rw[QR0 (h.st _) hs];simp
 .rename_i e;simp[e]
theorem qBi{f:RoI->Int}{r:RoI}{s:Int}(e:orI (f r) s=f r):qT0 f r s=f:=by
 funext r'
 unfold qT0;split
 .rename_i q;subst q;exact e
 .rfl
theorem qMN{f:RoI->Int}(hf:FN f){rs:List RoI}(hs:SS rs)(hm:∀r,r∈rs↔f r≠0):SG (rs.map (fun r=>(r,f r)))/\ofG (rs.map (fun r=>(r,f r)))=f:=by
 have h1:SG (rs.map (fun r=>(r,f r))):=by
  refine⟨List.pairwise_map.2 hs,fun x hx=>?_,fun x hx=>?_⟩
  .obtain⟨r,hr,rfl⟩:=kU.1 hx;exact hf.ro r ((hm r).1 hr)
  .obtain⟨r,hr,rfl⟩:=kU.1 hx;have:=(hm r).1 hr;have:=hf.st r;unfold qL0 at this;show 1<=f r/\f r<=255
   omega
 refine⟨h1,funext fun r=>?_⟩;by_cases q:f r=0
 .rw[q];refine qEY (fun x hx e=>?_);obtain⟨r',hr,rfl⟩:=kU.1 hx;exact (hm r').1 hr (by rw[show r'=r from e];exact q)
 .exact qCs h1 (x:=(r,f r)) (kU.2 ⟨r,(hm r).2 q,rfl⟩)
def qEG(f:RoI->Int):Int:=(qAi.map f).sum
theorem qHF{f:RoI->Int}(h:FN f):0<=qEG f/\qEG f<=10200:=by
 have e1:∀(l:List RoI),0<=(l.map f).sum/\(l.map f).sum<=255*l.length:=by
  intro l;induction l with
  | nil=>simp
  | cons x xs ih =>
   have:=h.st x;unfold qL0 at this;simp only[List.map_cons,List.sum_cons,jX];omega
 have:=e1 qAi;rw[qCJ]at this;unfold qEG;omega
theorem qHE{f:RoI->Int}(h:FN f){r:RoI}(hr:qD1 r.1 r.2=true){s:Int}(hs:qL0 s)(hn:orI (f r) s≠f r):qEG f<qEG (qT0 f r s):=by
 refine QU5 f _ r qAi (fun x _=>?_) (QP5 hr) ?_
 .unfold qT0;split
  .rename_i e;subst e;exact qJz (h.st _) hs
  .exact Int.le_refl _
 .have:=qJz (h.st r) hs;unfold qT0;rw[gK rfl];omega
def qG5(z:qA1)(h:RoI):Bool:=decide (z.k=3/\z.tn=h.2) || decide (h∈qDo z)
theorem qBS{f g:RoI->Int}{n:Int}(h:∀y,f (y,n)=g (y,n))(ys:List Int)(k:Nat):qL5 f n ys k=qL5 g n ys k:=by
 have : (fun (o:Int) (y:Int)=>orI o (f (y,n)))=fun o y=>orI o (g (y,n)):=by
  funext o y
  rw[h y]
 unfold qL5;rw[this]
theorem qKq{f:RoI->Int}{z:qA1}{h:RoI}{s:Int}(hk:1<=z.k/\z.k<=4)(hl:qG5 z h=false):byF (qT0 f h s) z=byF f z:=by
 unfold qG5 at hl;rw[Bool.or_eq_false_iff]at hl;obtain⟨h1,h2⟩:=hl;have h1:=of_decide_eq_false h1;have h2:=of_decide_eq_false h2;unfold qDo at h2;have off:∀r,r≠h->qT0 f h s r=f r:=fun r e=>gI e
 unfold byF;by_cases e1:z.k=1
 .simp only[gK e1]
 .simp only[gI e1]at h2 ⊢
  by_cases e2:z.k=2
  .simp only[gK e2];rw[gI (by omega)]at h2;exact off _ (fun e=>h2 (by rw[e];simp))
  .simp only[gI e2];by_cases e4:z.k=4
   .simp only[gK e4]at h2 ⊢
    rw[off _ (fun e=>h2 (by rw[e];simp)),off _ (fun e=>h2 (by rw[e];simp))]
   .simp only[gI e4]at h2 ⊢
    have e3:z.k=3:=by omega
    rw[off (z.oo,z.on) (fun e=>h2 (by rw[e];simp))];exact qBS (fun y=>off _ (fun e=>h1 ⟨e3,by rw[<- e]⟩)) _ _
def qF1(zs:List qA1)(h:RoI)(ws:List qA1)(k:Nat):List qA1:=(zs.take k).foldl (fun o z=>if qG5 z h=true/\z ∉ o then o++[z] else o) ws
theorem QE0{zs:List qA1}{k:Nat}{z:qA1}(e:zs[k]?=some z)(h:RoI)(ws:List qA1):qF1 zs h ws (k+1)=if qG5 z h=true/\z ∉ qF1 zs h ws k then qF1 zs h ws k++[z] else qF1 zs h ws k:=by
 have hk:k<zs.length:=by
  by_cases q:k<zs.length
  .exact q
  .rw[gE (by omega)]at e;cases e
 have e:zs[k]=z:=by rw[gA hk]at e;exact gJ e
 rw[qF1,jR hk,List.foldl_append,e];rfl
theorem QF5(h:RoI)(all:List qA1):∀(zs ws:List qA1),(∀z∈zs,z∈all)->(∀z∈ws,z∈all)->ws.Nodup ->
  let o:=zs.foldl (fun o z=>if qG5 z h=true/\z ∉ o then o++[z] else o) ws
  o.Nodup/\(∀z∈o,z∈all)/\(∀z∈ws,z∈o)/\(∀z∈zs,qG5 z h=true->z∈o)
 | [],ws,_,hs,hn=>⟨hn,hs,fun _ q=>q,fun _ q=>by cases q⟩
 | x::xs,ws,hz,hs,hn=>by
  have hx:x∈all:=hz x (by simp);by_cases q:qG5 x h=true/\x ∉ ws
  .have hn':(ws++[x]).Nodup:=List.nodup_append.2 ⟨hn,by simp,fun a ha b hb e=>q.2 (by simp at hb;rw[<- hb,<- e];exact ha)⟩
   have hs':∀z∈ws++[x],z∈all:=fun z hzz=>by
    rcases kL.1 hzz with q | q
    .exact hs z q
    .simp at q;rw[q];exact hx
   obtain⟨i1,i2,i3,i4⟩:=QF5 h all xs (ws++[x]) (fun z hzz=>hz z (by simp[hzz])) hs' hn';rw[List.foldl_cons,gK q];refine⟨i1,i2,fun z hzz=>i3 z (by simp[hzz]),fun z hzz hl=>?_⟩;rcases gX.1 hzz with rfl | hzz'
   .exact i3 z (by simp)
   .exact i4 z hzz' hl
  .obtain⟨i1,i2,i3,i4⟩:=QF5 h all xs ws (fun z hzz=>hz z (by simp[hzz])) hs hn;rw[List.foldl_cons,gI q];refine⟨i1,i2,i3,fun z hzz hl=>?_⟩;rcases gX.1 hzz with rfl | hzz'
   .exact i3 z (Classical.byContradiction fun e=>q ⟨hl,e⟩)
   .exact i4 z hzz' hl
structure qCP (zs:List qA1) (f:RoI->Int) (ws:List qA1):Prop where
 fn:FN f
 has:∀r p,1<=p->qI8 (f r) p=true->Has zs r p
 sub:∀z∈ws,z∈zs
 nd:ws.Nodup
 done:∀z∈zs,z ∉ ws->∀p,1<=p->qI8 (byF f z) p=true->qI8 (f (z.ho,z.hn)) p=true
theorem qCP.len{zs:List qA1}{f:RoI->Int}{ws:List qA1}(h:qCP zs f ws):ws.length<=zs.length:=QG5 _ _ h.nd h.sub
theorem qFL{zs:List qA1}(hn:zs.Nodup):qCP zs qCS zs :=
 ⟨qIl,fun r p _ q=>by simp[qCS,QH4]at q,fun _ q=>q,hn,fun z h1 h2=>absurd h1 h2⟩
theorem qGt{zs:List qA1}{f:RoI->Int}{z:qA1}{ws:List qA1}(h:qCP zs f (z::ws))(hok:okR z)(e:orI (f (z.ho,z.hn)) (byF f z)=f (z.ho,z.hn)):qCP zs f ws:=by
 refine⟨h.fn,h.has,fun x hx=>h.sub x (by simp[hx]),(List.nodup_cons.1 h.nd).2,fun x h1 h2 p hp q=>?_⟩;by_cases ex:x=z
 .subst ex;exact (qMY (h.fn.st _) (QS1 h.fn.st hok)).1 e p hp q
 .exact h.done x h1 (fun m=>by rcases gX.1 m with m | m;exact ex m;exact h2 m) p hp q
theorem qGu{zs:List qA1}(hz:∀z∈zs,okR z/\1<=z.k/\z.k<=4){f:RoI->Int}{z:qA1}{ws:List qA1}(h:qCP zs f (z::ws)):
  qCP zs (qT0 f (z.ho,z.hn) (byF f z)) (qF1 zs (z.ho,z.hn) ws zs.length):=by
 have hok:∀z∈zs,okR z:=fun z q=>(hz z q).1
 have hzz:z∈zs:=h.sub z (by simp);have hs:=QS1 h.fn.st (hok z hzz);have hf:=qNE h.fn (r:=(z.ho,z.hn)) (hok z hzz).1 hs;have hnd:=List.nodup_cons.1 h.nd;have w:=QF5 (z.ho,z.hn) zs zs ws (fun _ q=>q) (fun x hx=>h.sub x (by simp[hx])) hnd.2
 have ew:qF1 zs (z.ho,z.hn) ws zs.length=zs.foldl (fun o x=>if qG5 x (z.ho,z.hn)=true/\x ∉ o then o++[x] else o) ws:=by
  unfold qF1;rw[kQ]
 rw[ew];obtain⟨w1,w2,w3,w4⟩:=w;refine⟨hf,fun r p hp q=>?_,w2,w1,fun x hx hx2 p hp q=>?_⟩
 .rcases (QR1 h.fn _ hs r p).1 q with q | ⟨e,q⟩
  .exact h.has r p hp q
  .rw[e];exact qIf hok hzz hp (QX5 (fun r p hp q=>h.has r p hp q) hp ((qDm h.fn.st (hok z hzz) hp).1 q))
 .have hl:qG5 x (z.ho,z.hn)=false:=by
   cases e:qG5 x (z.ho,z.hn)
   .rfl
   .exact absurd (w4 x hx e) hx2
  rw[qKq (hz x hx).2 hl]at q;by_cases ex:x=z
  .subst ex;exact (QR1 h.fn _ hs _ p).2 (.inr ⟨rfl,q⟩)
  .refine (QR1 h.fn _ hs _ p).2 (.inl (h.done x hx (fun m=>?_) p hp q));rcases gX.1 m with m | m
   .exact ex m
   .exact hx2 (w3 x m)
theorem qJO{zs:List qA1}(hz:∀z∈zs,okR z){f:RoI->Int}(h:qCP zs f []){gs:List GrI}(hg:SG gs)(e:ofG gs=f):QM8 zs gs:=by
 subst e;exact qJH hz hg h.has (fun z hzz p hp q=>h.done z hzz (by simp) p hp q)
section
open Go.RowKit Go.Maps
open Go.ChangeMaps (setBlock heap_setBlock_same heap_setBlock_other)
theorem QJ8:prog.underlying 306=some (.map 206 310):=by kernel_rfl
theorem qLS:prog.underlying 310=some (.int .u8):=by kernel_rfl
theorem qMc:laidOutB prog=true:=by kernel_rfl
theorem qLT:(206:TypeId)<prog.types.size:=kK (by kernel_rfl)
theorem qOy:prog.keyTypeAt 2 206=true:=by kernel_rfl
theorem qNt:2+1<=10000:=by omega
theorem qZ1:WideMaps.KeyLaw prog 206:=by
 refine deep_law_laid (m:=2) qMc qNt qLT qOy ?_;rw[underlying206]
theorem QL9:Keyed prog 206:=Keyed.of_law qZ1
theorem qAD(w:World):(zeroValue 310).run prog w=.ok (.int .u8 0) w:=by kernel_rfl
theorem qAE:prog.cellsOf 206=2:=by kernel_rfl
theorem qKD:prog.cellsOf 2=1:=by kernel_rfl
theorem qMd:prog.keyType 206=true:=by kernel_rfl
theorem qEc:∃d,prog.types.size+1=d+2:=by
 have h:206<prog.types.size:=qLT;generalize prog.types.size=n at h ⊢
 exact⟨n-1,by omega⟩
abbrev roV(r:RoI):Value:=.agg #[iv r.1,iv r.2]
def roW(r:RoI):Prop:=(Lit.int .i64 r.1).wf=true/\(Lit.int .i64 r.2).wf=true
def qGp(r:RoI):Lit:=.string (keyBytes [.int .i64 r.1,.int .i64 r.2])
theorem QO1{r:RoI}(h:qD1 r.1 r.2=true):roW r:=by
 simp[qD1,qV2,qW1]at h;constructor
 .simp[Lit.wf,IntKind.min,IntKind.max,IntKind.signed,IntKind.bits];omega
 .simp[Lit.wf,IntKind.min,IntKind.max,IntKind.signed,IntKind.bits];omega
theorem qAI(d:Nat)(v:Value):prog.keyLits (d+1) 2 [v]=match v with | .int q n=>if q=.i64/\(Lit.int .i64 n).wf=true then some [.int .i64 n] else none | _=>none:=by
 cases v <;> simp[Program.keyLits,underlying2]
theorem qEm(d:Nat)(a b:Value):prog.keyLits (d+2) 206 [a,b]=(prog.keyLits (d+1) 2 [a]).bind fun x=>(prog.keyLits (d+1) 2 [b]).map fun y=>x++y:=by
 generalize hx:prog.keyLits (d+1) 2 [a]=x;generalize hy:prog.keyLits (d+1) 2 [b]=y;conv=>lhs;unfold Program.keyLits
 simp only[underlying206];simp[qAE,qKD,List.mapM_cons,hx,hy];cases x <;> simp
 cases y <;> simp
theorem qQ7{r:RoI}(h:roW r):keyOf prog 206 (roV r)=some (qGp r):=by
 obtain⟨d,hd⟩:=qEc;unfold keyOf;simp only[underlying206];simp[qMd,Value.formed,underlying206,qAE,Value.cells,hd,qEm,qAI,h.1,h.2,qGp]
theorem qMv{v:Value}{kl:Lit}(h:keyOf prog 206 v=some kl):∃r,roW r/\v=roV r/\kl=qGp r:=by
 obtain⟨d,hd⟩:=qEc;unfold keyOf at h;simp only[underlying206]at h;split at h
 .rename_i hc;rw[Bool.and_eq_true]at hc;have hf:=hc.2;cases v <;> simp[Value.formed,underlying206,qAE]at hf
  rename_i xs
  obtain⟨a,b,rfl⟩:∃a b,xs=#[a,b]:=by
   rcases xs with⟨l⟩
   match l,hf with
   | [a,b],_=>exact⟨a,b,rfl⟩
  rw[hd,show (Value.cells (.agg #[a,b])).toList=[a,b] from rfl,qEm,qAI,qAI]at h;obtain⟨ls,h1,rfl⟩:=Option.map_eq_some_iff.1 h;obtain⟨l1,hx,h2⟩:=Option.bind_eq_some_iff.1 h1;obtain⟨l2,hy,rfl⟩:=Option.map_eq_some_iff.1 h2;cases a <;> simp at hx
  cases b <;> simp at hy
  obtain⟨⟨rfl,wx⟩,rfl⟩:=hx;obtain⟨⟨rfl,wy⟩,rfl⟩:=hy;exact⟨(_,_),⟨wx,wy⟩,rfl,rfl⟩
 .cases h
theorem qEo{a b:RoI}(ha:roW a)(hb:roW b)(h:qGp a=qGp b):a=b:=by
 have:=QL9.inj (qQ7 ha) (h ▸ qQ7 hb);simp at this;exact Prod.ext this.1 this.2
theorem qAJ(r:RoI):WideAt.IsKeyLit (qGp r):=trivial
structure qOp (D:DataW Unit) (f:RoI->Int):Prop where
 at':∀r,roW r->D.atKey (qGp r) (.lit (.int .u8 0))=.lit (.int .u8 (f r))
 has:∀r,roW r->Maps.has D (qGp r)=decide (f r≠0)
noncomputable abbrev elU:Value->Option (DataW Unit × List MemPlace):=plainElem Tryz.prog 310
theorem qNH{s:Int}(h:qL0 s):elU (.int .u8 s)=some (.lit (.int .u8 s),[]):=by
 refine plainElem_int qLS ?_;have:=h.1;have:=h.2;simp[Lit.wf,IntKind.min,IntKind.max,IntKind.signed,IntKind.bits];omega
def GM(w:World)(b:Nat)(f:RoI->Int):Prop:=FN f/\∃D n,w.ownsMap prog 206 elU b n D/\qOp D f
theorem GM.fn{w:World}{b:Nat}{f:RoI->Int}(h:GM w b f):FN f:=h.1
theorem GM.lt{w:World}{b:Nat}{f:RoI->Int}(h:GM w b f):b<w.heap.size:=by
 obtain⟨_,D,n,ho,_⟩:=h;exact ho.lt
theorem qQ1{w w':World}{b b':Nat}{f:RoI->Int}(h:GM w b f)(e:w'.heap[b']?=w.heap[b]?):GM w' b' f:=by
 obtain⟨h1,D,n,⟨es,clock,hb,F,hs,hD⟩,hv⟩:=h;exact⟨h1,D,n,⟨es,clock,e.trans hb,F,hs,hD⟩,hv⟩
theorem GM.below{w w':World}{b k:Nat}{f:RoI->Int}(h:GM w b f)(hk:b<k)(hb:Below k w w'):GM w' b f:=qQ1 h (hb.block b hk)
theorem qJx{w:World}{b n:Nat}{D:DataW Unit}{f:RoI->Int}(hf:FN f)(ho:w.ownsMap prog 206 elU b n D)(hv:qOp D f):w.ownsMap prog 206 elU b 40 D/\Maps.size D<=40:=by
 obtain⟨es',hD',hne,_⟩:=ho.entries QL9;obtain⟨es,clock,hb,F,hs,hD⟩:=ho
 have hlen:Maps.size D=es.size:=by
  rw[hD];show ((es.toList.map _).foldr DataW.insert []).length=_
  rw[length_sorted];simp
 have hkeys:∀p∈es',∃r,qD1 r.1 r.2=true/\p.1=qGp r:=by
  intro p hp
  have hp':p∈es.toList.map (WideElems.rg prog 206 elU):=by
   rw[hD]at hD';have:=(DataW.map.inj hD').symm;rw[this]at hp;exact mem_sorted.1 hp
  obtain⟨v,hvv⟩:=fit_keys F p hp';obtain⟨r,hr,_,e⟩:=qMv hvv;refine⟨r,?_,e⟩;refine hf.ro r ?_;have h1:=hv.has r hr;rw[hD',has_eq]at h1;have : (es'.any fun p=>p.1.sameKey (qGp r))=true:=List.any_eq_true.2 ⟨p,hp,by rw[e];exact WideAt.sameKey_self (qAJ r)⟩;rw[this]at h1;exact kK h1.symm
 have h40:es'.length<=40:=by
  have hnd:(es'.map Prod.fst).Nodup:=List.pairwise_map.2 hne
  have:=@QG5 Lit (fun _ _=>Classical.propDecidable _) (es'.map Prod.fst) (qAi.map qGp) hnd (fun x hx=>by
   obtain⟨p,hp,rfl⟩:=kU.1 hx;obtain⟨r,hr,e⟩:=hkeys p hp;rw[e];exact kU.2 ⟨r,QP5 hr,rfl⟩)
  simpa[qCJ] using this
 have hsz:Maps.size D<=40:=by rw[hD',size_eq];exact h40
 exact⟨⟨es,clock,hb,F,by omega,hD⟩,hsz⟩
theorem qNB(w:World):GM (w.alloc (.map #[] 0)) w.heap.size qCS:=by
 refine⟨qIl,.map [],0,World.ownsMap_made w _ _ _,⟨fun r _=>?_,fun r _=>?_⟩⟩
 .rfl
 .rfl
theorem QE9{w:World}{b:Nat}{f:RoI->Int}(h:GM w b f){r:RoI}(hr:roW r):(Instr.lookup 306 (.map (some b)) (roV r) false).run prog w=.ok (.int .u8 (f r)) w:=by
 obtain⟨_,D,n,ho,hv⟩:=h;obtain⟨c,h1,h2,_⟩:=ho.lookup_int QL9 QJ8 qLS (qAD w) (qQ7 hr);rw[hv.at' r hr]at h2;cases h2;exact h1
def qJn(f:RoI->Int)(r:RoI)(s:Int):RoI->Int:=fun r'=>if r'=r then s else f r'
theorem qJP{D:DataW Unit}{f:RoI->Int}(hm:IsMap D)(h:qOp D f){r:RoI}(hr:roW r){s:Int}(hs:s≠0):qOp (D.put (qGp r) (.lit (.int .u8 s))) (qJn f r s):=by
 refine⟨fun r' hr'=>?_,fun r' hr'=>?_⟩
 .by_cases e:r'=r
  .subst e;rw[atKey_put_same hm (qAJ _),qJn,gK rfl]
  .rw[atKey_put_other (fun q=>e (qEo hr' hr q)),h.at' r' hr',qJn,gI e]
 .by_cases e:r'=r
  .subst e;rw[has_put_same hm (qAJ _),qJn,gK rfl];simp[hs]
  .rw[has_put_other (fun q=>e (qEo hr' hr q)),h.has r' hr',qJn,gI e]
end
section
open Go.RowKit Go.Maps
open Go.ChangeMaps (setBlock heap_setBlock_same heap_setBlock_other)
theorem qMg{w:World}{b:Nat}{es:Array MapEntry}{clock:Nat}(hb:w.heap[b]?=some (.map es clock))(hk:∀e∈es.toList,∃l,keyOf prog 206 e.key=some l){r:RoI}(hr:roW r){v:Value}(hv:∀e∈es.toList,e.key=roV r->e.val=v)(hex:∃e∈es.toList,e.key=roV r):(Instr.lookup 306 (.map (some b)) (roV r) false).run prog w=.ok v w:=by
 rcases qZ1.find w (qQ7 hr) es.toList hk with⟨_,h2⟩ | ⟨j,e0,h1,h2,h3⟩
 .obtain⟨e,he,hke⟩:=hex;exact absurd hke (h2 e he)
 .have:=hv e0 (gO h2) h3;simp[Instr.lookup,run_underlying QJ8,MapKept.run_getObj_map hb,qZ1.check w _ (qQ7 hr),h1,Result.andThen,this]
structure qNQ (b:Nat) (f:RoI->Int) (r:RoI) (es es1:Array MapEntry) (clock clock1 st:Nat):Prop where
 look0:∀W:World,W.heap[b]?=some (.map es clock)->(Instr.lookup 306 (.map (some b)) (roV r) false).run prog W=.ok (.int .u8 (f r)) W
 ask:∀W:World,W.heap[b]?=some (.map es clock)->(Instr.mapEntry 306 (.map (some b)) (roV r)).run prog W=.ok (.tuple #[.int .u8 (f r),goInt st]) (setBlock W b (.map es1 clock1))
 look1:∀W:World,W.heap[b]?=some (.map es1 clock1)->(Instr.lookup 306 (.map (some b)) (roV r) false).run prog W=.ok (.int .u8 (f r)) W
 write:∀(W:World) (s:Int),W.heap[b]?=some (.map es1 clock1)->qL0 s->s≠0->∃es2 clock2,(Instr.entryStore 306 (.map (some b)) (goInt st) (.int .u8 s)).run prog W=.ok () (setBlock W b (.map es2 clock2))/\GM (setBlock W b (.map es2 clock2)) b (qJn f r s)
theorem qOF{w:World}{b:Nat}{f:RoI->Int}(h:GM w b f):∃es clock,w.heap[b]?=some (.map es clock)/\∀W:World,W.heap[b]?=some (.map es clock)->GM W b f:=by
 obtain⟨h1,D,n,⟨es,clock,hb,F,hs,hD⟩,hv⟩:=h;exact⟨es,clock,hb,fun W hW=>⟨h1,D,n,⟨es,clock,hW,F,hs,hD⟩,hv⟩⟩
theorem qKl{w:World}{b:Nat}{f:RoI->Int}(h:GM w b f){r:RoI}(hr:qD1 r.1 r.2=true):∃es es1 clock clock1 st,w.heap[b]?=some (.map es clock)/\qNQ b f r es es1 clock clock1 st:=by
  have hrw:=QO1 hr;obtain⟨es,clock,hb,hGM⟩:=qOF h;obtain⟨hfn,D,n,ho,hv⟩:=h;have ho40:=(qJx hfn ho hv).1;obtain⟨es',clock',hb',F,hsz,hD⟩:=ho40;rw[hb]at hb';cases hb';have hl0:∀W:World,W.heap[b]?=some (.map es clock)->(Instr.lookup 306 (.map (some b)) (roV r) false).run prog W=.ok (.int .u8 (f r)) W:=fun W hW=>QE9 (hGM W hW) hrw
  have hkeys:∀e∈es.toList,∃l,keyOf prog 206 e.key=some l:=F.keys;obtain⟨s1,s2,s3⟩:=(MapKept.stamped_iff es clock).1 F.stamped;-- what is written, out of the law of the two steps
  have wr:∀(es1:Array MapEntry) (clock1 st:Nat),(∀(w2:World) (val:Value),w2.heap[b]?=some (.map es1 clock1)->∃es' clock',(Instr.entryStore 306 (.map (some b)) (goInt st) val).run prog w2=.ok () (setBlock w2 b (.map es' clock')) /\
        (Instr.mapUpdate 306 (.map (some b)) (roV r) val).run prog w=.ok () (setBlock w b (.map es' clock'))) ->
      ∀(W:World) (s:Int),W.heap[b]?=some (.map es1 clock1)->qL0 s->s≠0->∃es2 clock2,(Instr.entryStore 306 (.map (some b)) (goInt st) (.int .u8 s)).run prog W=.ok () (setBlock W b (.map es2 clock2))/\GM (setBlock W b (.map es2 clock2)) b (qJn f r s):=by
    intro es1 clock1 st h3 W s hW hs hs0;obtain⟨es2,clock2,h4,h5⟩:=h3 W (.int .u8 s) hW;have ho40:w.ownsMap prog 206 elU b 40 D:=⟨es,clock,hb,F,hsz,hD⟩;obtain⟨w',h6,h7,_⟩:=ho40.update QL9 QJ8 (by unfold maxLen;omega) (qQ7 hrw) (qNH hs);rw[h5]at h6;cases h6;refine⟨es2,clock2,h4,?_⟩;refine qQ1 (w:=setBlock w b (.map es2 clock2)) (b:=b) ?_ (by rw[heap_setBlock_same hW,heap_setBlock_same hb]);refine⟨⟨fun r'=>?_,fun r' hn=>?_⟩,_,_,h7,qJP ?_ hv hrw hs0⟩
    . unfold qJn;split
      . exact hs
      . exact hfn.st _
    . unfold qJn at hn;split at hn
      . rename_i e;rw[e];exact hr
      . exact hfn.ro _ hn
    . exact⟨_,hD⟩
  obtain⟨v0,st,es1,clock1,h1,h2,h3⟩:=WideElems.entry_then_store qZ1 QJ8 qAD hb F (qQ7 hrw);have h3':=wr es1 clock1 st h3;clear h3 wr;rcases qZ1.find w (qQ7 hrw) es.toList hkeys with⟨g1,g2⟩ | ⟨j,e0,g1,g2,g3⟩
  . -- the key is not there
    have ez:f r=0:=by
      have:=hl0 w hb;simp[Instr.lookup,run_underlying QJ8,MapKept.run_getObj_map hb,qZ1.check w _ (qQ7 hrw),g1,qAD,Result.andThen]at this;exact this.symm
    have run:∀W:World,W.heap[b]?=some (.map es clock)->(Instr.mapEntry 306 (.map (some b)) (roV r)).run prog W=.ok (.tuple #[.int .u8 0,goInt clock]) (setBlock W b (.map (es.push ⟨roV r,.int .u8 0,clock⟩) (clock+1))):=by
      intro W hW;rcases qZ1.find W (qQ7 hrw) es.toList hkeys with⟨q1,q2⟩ | ⟨j,e0,q1,q2,q3⟩
      . simp[Instr.mapEntry,run_underlying QJ8,MapKept.run_getObj_map hW,qZ1.check W false (qQ7 hrw),q1,qAD,MapKept.run_setObj_map _ hW,Result.andThen,setBlock]
      . exact absurd q3 (g2 e0 (gO q2))
    have e1:=run w hb;rw[h1]at e1;have e2:=(Result.ok.inj e1).2;have e3:=(Result.ok.inj e1).1
    have e4:es1=es.push ⟨roV r,.int .u8 0,clock⟩/\clock1=clock+1:=by
      have : (setBlock w b (.map es1 clock1)).heap[b]?=(setBlock w b (.map (es.push ⟨roV r,.int .u8 0,clock⟩) (clock+1))).heap[b]? := by rw[e2]
      rw[heap_setBlock_same hb,heap_setBlock_same hb]at this;exact⟨(Obj.map.inj (gJ this)).1,(Obj.map.inj (gJ this)).2⟩
    obtain⟨rfl,rfl⟩:=e4
    have e5:st=clock:=by
      simp[goInt]at e3;omega
    rw[e5]at h3';refine⟨es,_,clock,_,_,hb,⟨hl0,fun W hW=>by rw[run W hW,ez],fun W hW=>?_,h3'⟩⟩;refine qMg hW (fun e he=>?_) hrw (fun e he hke=>?_) ⟨⟨roV r,.int .u8 0,clock⟩,by simp,rfl⟩
    . simp at he;rcases he with he | rfl
      . exact hkeys e (by simpa using he)
      . exact⟨_,qQ7 hrw⟩
    . simp at he;rcases he with he | rfl
      . exact absurd hke (g2 e (by simpa using he))
      . rw[ez]
  . -- the key is there
    have hj:es[j]?=some e0:=by simpa using g2
    have hm0:e0∈es.toList:=gO g2
    have hval:e0.val=.int .u8 (f r):=by
      have:=hl0 w hb;simp[Instr.lookup,run_underlying QJ8,MapKept.run_getObj_map hb,qZ1.check w _ (qQ7 hrw),g1,Result.andThen]at this;exact this
    have hsame:es.modify j (fun e=>{ e with key:=roV r })=es:=by
      apply Array.ext';rw[Array.toList_modify,ChangeMaps.modify_eq_set _ _ _ _ g2];have : ({ e0 with key:=roV r }:MapEntry)=e0:=by rw[<- g3]
      rw[this];exact WideElems.set_self _ _ _ g2
    have run:∀W:World,W.heap[b]?=some (.map es clock)->(Instr.mapEntry 306 (.map (some b)) (roV r)).run prog W=.ok (.tuple #[.int .u8 (f r),goInt e0.born]) (setBlock W b (.map es clock)):=by
      intro W hW;rcases qZ1.find W (qQ7 hrw) es.toList hkeys with⟨q1,q2⟩ | ⟨j',e0',q1,q2,q3⟩
      . exact absurd g3 (q2 e0 hm0)
      . have hj':es[j']?=some e0':=by simpa using q2
        have ee:e0'=e0:=entry_eq_of_key s3 (gO q2) hm0 (q3.trans g3.symm);subst ee
        have hsame':es.modify j' (fun e=>{ e with key:=roV r })=es:=by
          apply Array.ext';rw[Array.toList_modify,ChangeMaps.modify_eq_set _ _ _ _ q2];have : ({ e0' with key:=roV r }:MapEntry)=e0':=by rw[<- g3]
          rw[this];exact WideElems.set_self _ _ _ q2
        simp[Instr.mapEntry,run_underlying QJ8,MapKept.run_getObj_map hW,qZ1.check W false (qQ7 hrw),q1,hj',q3,qZ1.stays W (qQ7 hrw),hsame',MapKept.run_setObj_map _ hW,Result.andThen,setBlock,hval]
    have e1:=run w hb;rw[h1]at e1;have e2:=(Result.ok.inj e1).2;have e3:=(Result.ok.inj e1).1
    have e4:es1=es/\clock1=clock:=by
      have : (setBlock w b (.map es1 clock1)).heap[b]?=(setBlock w b (.map es clock)).heap[b]? := by rw[e2]
      rw[heap_setBlock_same hb,heap_setBlock_same hb]at this;exact⟨(Obj.map.inj (gJ this)).1,(Obj.map.inj (gJ this)).2⟩
    obtain⟨rfl,rfl⟩:=e4
    have e5:st=e0.born:=by
      simp[goInt]at e3;omega
    rw[e5]at h3';exact⟨_,_,_,_,_,hb,⟨hl0,run,hl0,h3'⟩⟩
theorem qNV(a b:Int)(ha:qL0 a)(hb:qL0 b):bits .or .u8 a b=orI a b:=by
 obtain⟨A,rfl⟩:=gP ha.1;obtain⟨B,rfl⟩:=gP hb.1;have h1:=ha.2;have h2:=hb.2;have hx:A ||| B<2 ^ 8:=Nat.or_lt_two_pow (by omega) (by omega);rw[orI,QG4 A B (by omega) (by omega)];have ea:(BitVec.ofInt 8 (A:Int)).toNat=A:=by rw[kZ,BitVec.toNat_ofNat];exact Nat.mod_eq_of_lt (by omega)
 have eb:(BitVec.ofInt 8 (B:Int)).toNat=B:=by rw[kZ,BitVec.toNat_ofNat];exact Nat.mod_eq_of_lt (by omega)
 show IntKind.u8.wrap ((BitVec.ofInt 8 (A:Int) ||| BitVec.ofInt 8 (B:Int)).toNat:Int)=_
 rw[BitVec.toNat_or,ea,eb,IntKind.wrap_u8];omega
theorem qNX(a b:Int)(ha:qL0 a)(hb:qL0 b):bits .and .u8 a b=qLk a b:=by
 obtain⟨A,rfl⟩:=gP ha.1;obtain⟨B,rfl⟩:=gP hb.1;have h1:=ha.2;have h2:=hb.2;have hx:A &&& B<2 ^ 8:=Nat.and_lt_two_pow _ (by omega);rw[qLk,QS3 A B (by omega) (by omega)];have ea:(BitVec.ofInt 8 (A:Int)).toNat=A:=by rw[kZ,BitVec.toNat_ofNat];exact Nat.mod_eq_of_lt (by omega)
 have eb:(BitVec.ofInt 8 (B:Int)).toNat=B:=by rw[kZ,BitVec.toNat_ofNat];exact Nat.mod_eq_of_lt (by omega)
 show IntKind.u8.wrap ((BitVec.ofInt 8 (A:Int) &&& BitVec.ofInt 8 (B:Int)).toNat:Int)=_
 rw[BitVec.toNat_and,ea,eb,IntKind.wrap_u8];omega
theorem qNW(s c:Int)(hs:qL0 s)(hc:qL0 c):0<=bits .andNot .u8 s c/\bits .andNot .u8 s c<=255/\(bits .andNot .u8 s c=0↔orI c s=c):=by
 obtain⟨S,rfl⟩:=gP hs.1;obtain⟨C,rfl⟩:=gP hc.1;have h1:=hs.2;have h2:=hc.2;have ea:(BitVec.ofInt 8 (S:Int)).toNat=S:=by rw[kZ,BitVec.toNat_ofNat];exact Nat.mod_eq_of_lt (by omega)
 have eb:(BitVec.ofInt 8 (C:Int)).toNat=C:=by rw[kZ,BitVec.toNat_ofNat];exact Nat.mod_eq_of_lt (by omega)
 have e:bits .andNot .u8 (S:Int) (C:Int)=IntKind.u8.wrap ((BitVec.ofInt 8 (S:Int) &&& ~~~ (BitVec.ofInt 8 (C:Int))).toNat:Int):=rfl;have hlt:=(BitVec.ofInt 8 (S:Int) &&& ~~~ (BitVec.ofInt 8 (C:Int))).isLt
 have e2:bits .andNot .u8 (S:Int) (C:Int)=((BitVec.ofInt 8 (S:Int) &&& ~~~ (BitVec.ofInt 8 (C:Int))).toNat:Int):=by
  rw[e,IntKind.wrap_u8];omega
 refine⟨by rw[e2];omega,by rw[e2];omega,?_⟩;rw[e2,orI,QG4 C S (by omega) (by omega)]
 have key:(BitVec.ofInt 8 (S:Int) &&& ~~~ (BitVec.ofInt 8 (C:Int))).toNat=0↔C ||| S=C:=by
  constructor
  .intro h;apply Nat.eq_of_testBit_eq;intro i;rw[Nat.testBit_or];by_cases q:i<8
   .have hb:(BitVec.ofInt 8 (S:Int) &&& ~~~ (BitVec.ofInt 8 (C:Int))).toNat.testBit i=false:=by rw[h];simp
    rw[BitVec.testBit_toNat,BitVec.getLsbD_and,BitVec.getLsbD_not,<- BitVec.testBit_toNat,<- BitVec.testBit_toNat,ea,eb]at hb;simp[q]at hb;cases c1:S.testBit i
    .simp
    .simp[hb c1]
   .have hi:256<=2 ^ i:=by
     have : 2 ^ 8<=2 ^ i:=Nat.pow_le_pow_right (by omega) (by omega);omega
    rw[Nat.testBit_lt_two_pow (show S<2 ^ i by omega)];simp
  .intro h;apply Nat.eq_of_testBit_eq;intro i;rw[BitVec.testBit_toNat,BitVec.getLsbD_and,BitVec.getLsbD_not,<- BitVec.testBit_toNat,<- BitVec.testBit_toNat,ea,eb];have hb:(C ||| S).testBit i=C.testBit i:=by rw[h]
   rw[Nat.testBit_or]at hb;cases c1:S.testBit i
   .simp
   .rw[c1]at hb;simp at hb;simp[hb]
 constructor
 .intro h;rw[key.1 (by omega)]
 .intro h;have:=key.2 (by omega);omega
end
section
open Go.RowKit Go.Maps
open Go.ChangeMaps (setBlock heap_setBlock_same heap_setBlock_other)
theorem QD9(w:World)(o:Obj){i:Nat}(h:i<w.heap.size):(w.alloc o).heap[i]?=w.heap[i]? := (MapKept.heap_alloc w o).2 i h
theorem qEx{w:World}{b:Nat}{es es':Array MapEntry}{c c':Nat}(hb:w.heap[b]?=some (.map es c)):w.grownBy (setBlock w b (.map es' c')) (some b) :=
 ⟨rfl,rfl,rfl,by simp[setBlock],fun i _ hi=>heap_setBlock_other hb _ (fun e=>hi (by rw[e]))⟩
theorem qKi(w:World):w.grownBy w.drew none:=⟨rfl,rfl,rfl,gB _,fun _ _ _=>rfl⟩
theorem QR2{a b c:World}{j:Nat}(h:a.grownBy b (some j))(k:b.grownBy c (some j)):a.grownBy c (some j):=h.andThen k (fun _ e => .inr e)
theorem qOE(b:Nat)(f:RoI->Int)(r:RoI)(s:Int)(w:World)(h:GM w b f)(hr:qD1 r.1 r.2=true)(hs:qL0 s):
  CP 266 #[.map (some b),.agg #[iv r.1,iv r.2],.int .u8 s] w fun e w'=>e=.returned (.bool (!decide (orI (f r) s=f r)))/\GM w' b (qT0 f r s)/\w.grownBy w' (some b):=by
 obtain⟨es,es1,clock,clock1,st,hb,E⟩:=qKl h hr;have hlt:=h.lt;have hfn:=h.fn;have hn:=qNW s (f r) hs (hfn.st r);have hba:(w.alloc (.cells #[iv r.1,iv r.2] 206)).heap[b]?=some (.map es clock):=(QD9 w _ hlt).trans hb;have hl0:=E.look0 _ hba;by_cases hsame:orI (f r) s=f r
 .have hz:=hn.2.2.2 hsame;go_enter func266,ntmps266;go_wp2;go_ret;rw[jQ hsame,qBi hsame];exact⟨rfl,qQ1 h (QD9 w _ hlt),(World.grownBy_alloc w _ none).but _⟩
 .obtain⟨g,hg⟩:∃g,bits .andNot .u8 s (f r)=g:=⟨_,rfl⟩;have hg0:g≠0:=fun e=>hsame (hn.2.2.1 (hg.trans e))
  clear hn;go_enter func266,ntmps266;go_wp2;have c0:(w.alloc (.cells #[iv r.1,iv r.2] 206)).cell? ⟨w.heap.size,0,none⟩=some (iv r.1):=by unfold World.cell?;rw[(MapKept.heap_alloc w _).1];rfl
  have c1:(w.alloc (.cells #[iv r.1,iv r.2] 206)).cell? ⟨w.heap.size,1,none⟩=some (iv r.2):=by unfold World.cell?;rw[(MapKept.heap_alloc w _).1];rfl
  have hgr:w.grownBy (w.alloc (.cells #[iv r.1,iv r.2] 206)) none:=World.grownBy_alloc w _ none;generalize w.alloc (.cells #[iv r.1,iv r.2] 206)=w1 at *
  have hso:qL0 (orI (f r) s):=qBO (hfn.st r) hs;have hor:bits .or .u8 (f r) s=orI (f r) s:=qNV _ _ (hfn.st r) hs;have hs0:orI (f r) s≠0:=fun e=>hsame (by have:=qJz (hfn.st r) hs;have:=(hfn.st r).1;omega)
  have a1:=E.ask w1.drew hba;have l0:=E.look0 w1.drew hba;have hb2:(setBlock w1.drew b (.map es1 clock1)).heap[b]?=some (.map es1 clock1):=heap_setBlock_same (w:=w1.drew) hba _;have l1:=E.look1 _ hb2;obtain⟨es2,clock2,w2,hgm⟩:=E.write _ _ hb2 hso hs0;have k3:w1.drew.grownBy (setBlock w1.drew b (.map es1 clock1)) (some b):=qEx (w:=w1.drew) hba;generalize setBlock w1.drew b (.map es1 clock1)=w3 at *
  have k4:w3.grownBy (setBlock w3 b (.map es2 clock2)) (some b):=qEx hb2;generalize setBlock w3 b (.map es2 clock2)=w4 at *
  have k5:w.grownBy w4 (some b):=QR2 (QR2 (QR2 (hgr.but _) ((qKi w1).but _)) k3) k4;clear hgr k3 k4;have w2':(Instr.entryStore 306 (.map (some b)) (iv (st:Int)) (.int .u8 (orI (f r) s))).run prog w3=.ok () w4:=w2;clear E w2;go_region
  go_wp2;go_ret;rw[jL hsame];exact⟨rfl,hgm,k5⟩
end
section
open Go.RowKit Go.Shelf Go.Maps
attribute [local go_sem] Oper.semAt_some
attribute [local go_sem] QN1
set_option linter.unusedVariables false
set_option linter.unusedSimpArgs false
def qFH(f:RoI->Int)(nm:Int)(pre:List P8):Int:=(pre.map (·.1)).foldl (fun o y=>orI o (f (y,nm))) 0
theorem qJK(f:RoI->Int)(nm:Int)(pre:List P8)(x:P8):qFH f nm (pre++[x])=orI (qFH f nm pre) (f (x.1,nm)):=by
 simp[qFH,List.foldl_append]
theorem qKy{f:RoI->Int}(hf:FN f)(nm:Int)(pre:List P8):qL0 (qFH f nm pre):=by
 unfold qFH;exact (QG9 hf.st nm _ 0 ⟨by omega,by omega⟩).1
theorem qKK(n:Nat)(hn:3<=n)(b:Nat)(f:RoI->Int)(s nm:Int)(w:World)(h:GM w b f)(hs:qL0 s)(n0:1<=nm)(n1:nm<=5):
  CallsIn Fence.wide n prog 283 #[.map (some b),.int .u8 s,iv nm] w fun e W'=>e=.returned (.int .u8 (qL5 f nm (qB3 s 8) (qB3 s 8).length))/\Below w.heap.size w W':=by
 have h1:1<=n:=by omega
 have s0:=hs.1;have s1:=hs.2;have hfn:=h.fn;have hlt:=h.lt;refine callsIn_of_wp_marks func283 rfl trivial ?_ rfl;simp only[ntmps283,kO,jX,List.length_nil,Nat.reduceAdd,Nat.reduceSub,Array.replicate_succ,Array.replicate_zero,List.push_toArray,List.append_toArray,kR,List.cons_append];gi_wp2_with (gi_at_call 269;refine (qCl _ _ _).mono ?_;rintro e w' ⟨rfl,rfl⟩)
 have bM:=Boxed.new w 306 (.map (some b));have bN:=Boxed.new (w.alloc (.cells #[.map (some b)] 306)) 2 (iv nm);rw[jC]at bN;have bA:=Boxed.new ((w.alloc (.cells #[.map (some b)] 306)).alloc (.cells #[iv nm] 2)) 310 (.int .u8 0);rw[jC,jC]at bA;have bS:=Boxed.new (((w.alloc (.cells #[.map (some b)] 306)).alloc (.cells #[iv nm] 2)).alloc (.cells #[.int .u8 0] 310)) 310 (.int .u8 s);rw[jC,jC,jC]at bS;have bM':=((bM.alloc (.cells #[iv nm] 2)).alloc (.cells #[.int .u8 0] 310)).alloc (.cells #[.int .u8 s] 310);have bN':=(bN.alloc (.cells #[.int .u8 0] 310)).alloc (.cells #[.int .u8 s] 310);have bA':=bA.alloc (.cells #[.int .u8 s] 310);obtain⟨W0,hW0⟩:∃W0,(((w.alloc (.cells #[.map (some b)] 306)).alloc (.cells #[iv nm] 2)).alloc (.cells #[.int .u8 0] 310)).alloc (.cells #[.int .u8 s] 310)=W0:=⟨_,rfl⟩;have hsz:W0.heap.size=w.heap.size+4:=by rw[<- hW0];simp
 have hB0:Below w.heap.size w W0:=by rw[<- hW0];exact ((((gC _ w).alloc (gB _) _).alloc (by simp) _).alloc (by simp;omega) _).alloc (by simp;omega) _
 rw[hW0]at bS bA' bM' bN' ⊢
 have HB0:=hJJ hB0;have hG0:=h.below hlt hB0;clear bA bM bN hW0 hB0
 refine wpIn_rangeFunc_ownG rfl h1 (gf:=285) (lb:=#[.pointer (some ⟨w.heap.size+1+1+1,0,none⟩)]) rfl trivial (enters_of func285 (by kernel_rfl) rfl)
  (QO4 (n-1) (by omega) (w.heap.size+1+1+1) s s0 s1 W0 (by omega) bS.cell) (Kp:=QC1 (w.heap.size+1+1+1)) (fun h k=>Eq.trans k h) (fun W l o o' hl h _ _=>World.putObj_heap_other (by omega)) (gC _ _) (fun _=>rfl)
  (fun pre W=>(Boxed W (w.heap.size+1+1) 310 (.int .u8 (qFH f nm pre))/\Boxed W (w.heap.size+1+1+1) 310 (.int .u8 s))/\Below (w.heap.size+1+1) W0 W)
  (fun _ _ _=>False)
  (OwnFrom.and (OwnFrom.and (Own.from (boxed_own _ _ (fun pre => .int .u8 (qFH f nm pre))) _) (Own.from (boxed_own _ _ (fun _ => .int .u8 s)) _)) (ownFrom_below (by omega) (by omega)))
  (fun _ _ _ _ _ hs _ _=>hs)
  ⟨⟨bA',bS⟩,gC _ _⟩
  (fun x=>{ tmps:=#[.map (some b),.int .u8 s,iv nm,.pointer (some ⟨w.heap.size,0,none⟩),undef,.pointer (some ⟨w.heap.size+1,0,none⟩),.int .u8 0,.pointer (some ⟨w.heap.size+1+1,0,none⟩),iv x.1,.int .u8 s,.func (.func 285) #[] #[.pointer (some ⟨w.heap.size+1+1+1,0,none⟩)],iv x.1,undef,undef,undef,undef,undef,undef,undef,undef],defers:=[] }) ?assign ?body ?done ?stop
 case assign =>
  intro l x W K hK;gi_wp2
  exact hK
 case body =>
  rintro l pre x W ⟨⟨hA,hS⟩,hB⟩ hlt';have cA:W.drew.cell? ⟨w.heap.size+1+1,0,none⟩=some (.int .u8 (qFH f nm pre)):=hA.cell;have fA:W.drew.frozen? ⟨w.heap.size+1+1,0,none⟩=false:=hA.frozen;have cM:W.drew.cell? ⟨w.heap.size,0,none⟩=some (.map (some b)):=(hB.cell (p:=⟨w.heap.size,0,none⟩) (by simp;omega)).trans bM'.cell;have cN:W.drew.cell? ⟨w.heap.size+1,0,none⟩=some (iv nm):=(hB.cell (p:=⟨w.heap.size+1,0,none⟩) (by simp)).trans bN'.cell;have hG:=hG0.below (k:=w.heap.size+1+1) (by omega) hB;have hlk:(Instr.lookup 306 (.map (some b)) (.agg #[iv x.1,iv nm]) false).run prog W.drew=.ok (.int .u8 (f (x.1,nm))) W.drew:=QE9 (w:=W.drew) (qQ1 hG rfl) (r:=(x.1,nm)) (QO1 (by have:=x.2;simp[qD1,qV2,qW1];omega));have hor:bits .or .u8 (qFH f nm pre) (f (x.1,nm))=qFH f nm (pre++[x]):=by rw[qJK];exact qNV _ _ (qKy hfn nm pre) (hfn.st _)
  have hA':Boxed W.drew (w.heap.size+1+1) 310 (.int .u8 (qFH f nm pre)):=hA;have hS':Boxed W.drew (w.heap.size+1+1+1) 310 (.int .u8 s):=hS;gi_wp2
  gi_region
  all_goals exact⟨((KeepsOthers.drew W).trans (KeepsOthers.setCell W.drew ⟨w.heap.size+1+1,0,none⟩ _)).from _,(hS'.other (by omega) _).trans hS.symm,⟨hA'.set _,hS'.other (by omega) _⟩,(hB.drew).setCell (p:=⟨w.heap.size+1+1,0,none⟩) (gB _) _⟩
 case done =>
  rintro D ys W hD hys ⟨⟨hA,_⟩,hB⟩ hK;have cA:=hA.cell;gi_wp2
  refine⟨by simp,.inl ⟨_,_,rfl,run_takeDeferred hK,?_⟩⟩;refine⟨.int .u8 (qFH f nm ys),?res,?val,?below⟩
  case res=>simp[results,results283,go_sem]
  case val =>
   have : qFH f nm ys=qL5 f nm (qB3 s 8) (qB3 s 8).length:=by
    unfold qFH qL5;rw[kQ,hys]
   rw[this]
  case below=>exact (HB0.out.trans (hB.mono (by omega))).trans (belowK_b (w:=w) (gB _) _ D _ _ (by omega) hK rfl rfl)
 case stop =>
  rintro D c pre W _ _ h _;exact h.elim
theorem qKL(b:Nat)(f:RoI->Int)(s nm:Int)(w:World)(h:GM w b f)(hs:qL0 s)(n0:1<=nm)(n1:nm<=5):
  CP 283 #[.map (some b),.int .u8 s,iv nm] w fun e W'=>e=.returned (.int .u8 (qL5 f nm (qB3 s 8) (qB3 s 8).length))/\Below w.heap.size w W' :=
 callsIn_wide.1 (qKK 3 (gB _) b f s nm w h hs n0 n1)
end
section
open Go.RowKit Go.Maps
attribute [local go_sem] qOm qOl qOk qOj qOi qOh qOg qOf qOe qOd qOc qOb qOa qOZ qOY qOX
theorem qMf(w:World){ops:Array Oper}{rest:List Oper}{o:Oper}{a:Act}{Q:Exit->Act->World->Prop}(hg:o.guard=none)(m x:Operand)(hop:o.op=Op.lookup 306 m x false)(b:Nat)(f:RoI->Int)(r:RoI)(hm:a.eval m=.map (some b))(hx:a.eval x=.agg #[iv r.1,iv r.2]){w1:World}(hG:GM w1 b f)(hB:Below w1.heap.size w1 w)(hr:roW r)(hK:wpList prog ops Q rest (a.put o.dst (.int .u8 (f r))) w):wpList prog ops Q (o::rest) a w:=by
 refine wpList_plain hg fun K' hK'=>?_
 have hrun:=QE9 (hG.below hG.lt hB) hr;unfold Oper.wp;simp only[roV]at hrun;simp[execOp,hop,hm,hx,hrun,Result.andThen];exact hK' _ _ hK
theorem qFF{w w1:World}{o:Obj}(h:Below (w.alloc o).heap.size (w.alloc o) w1):Below w.heap.size w w1:=(zN).trans (h.mono (by simp))
theorem qY0{r:qA1}(h:qA6 r=0):1<=r.k/\r.k<=4/\qD1 r.ho r.hn=true/\QH5 r=true:=by
 unfold qA6 at h;split at h
 .cases h
 .rename_i h1;split at h
  .cases h
  .rename_i h2;split at h
   .cases h
   .split at h
    .cases h
    .rename_i h4;exact⟨by omega,by omega,by simpa using h2,by simpa using h4⟩
theorem qNc(b:Nat)(f:RoI->Int)(r:qA1)(w:World)(h:GM w b f)(hc:qA6 r=0)(e1:r.k=1):
  CP 267 #[.map (some b),.agg #[iv r.k,iv r.ho,iv r.hn,iv r.w,iv r.oo,iv r.on,iv r.to,iv r.tn]] w fun e w'=>e=.returned (.int .u8 (byF f r))/\Below w.heap.size w w':=by
 have hh:=(qY0 hc).2.2.2;have hp:1<=r.w/\r.w<=8:=by simpa[QH5,e1,qV2] using hh
 have eb:byF f r=qGd r.w:=by simp[byF,e1]
 rw[eb];have E1:=hJJ e1;clear hh eb hc e1;go_enter func267,ntmps267;go_wp2_with (first | (go_at_call 253;refine (qAf r E1.out _).mono ?_;rintro e w1 ⟨rfl,hb0⟩;have hb:=qFF hb0;clear hb0) | (go_at_call 270;refine (qAg r.w hp.1 hp.2 _).mono ?_;rintro e w2 ⟨rfl,rfl⟩) | go_in)
 go_ret;exact⟨rfl,hb.alloc hb.size _⟩
theorem qNb(b:Nat)(f:RoI->Int)(r:qA1)(w:World)(h:GM w b f)(hc:qA6 r=0)(e1:r.k=2):
  CP 267 #[.map (some b),.agg #[iv r.k,iv r.ho,iv r.hn,iv r.w,iv r.oo,iv r.on,iv r.to,iv r.tn]] w fun e w'=>e=.returned (.int .u8 (byF f r))/\Below w.heap.size w w':=by
 have hh:=(qY0 hc).2.2.2;have hp:qD1 r.oo r.on=true:=by simpa[QH5,e1] using hh
 have eb:byF f r=f (r.oo,r.on):=by simp[byF,e1]
 rw[eb];have E1:=hJJ e1;clear hh eb hc e1;go_enter func267,ntmps267;go_wp2_with (first | (go_at_call 253;refine (qAe r E1.out _).mono ?_;rintro e w1 ⟨rfl,hb0⟩;have hb:=qFF hb0;clear hb0) | (at_lookup;refine qMf _ rfl _ _ rfl b f (r.oo,r.on) rfl rfl h (hb.alloc hb.size _) (QO1 hp) ?_) | go_in)
 go_ret;exact⟨rfl,hb.alloc hb.size _⟩
theorem qNa(b:Nat)(f:RoI->Int)(r:qA1)(w:World)(h:GM w b f)(hc:qA6 r=0)(e1:r.k=3):
  CP 267 #[.map (some b),.agg #[iv r.k,iv r.ho,iv r.hn,iv r.w,iv r.oo,iv r.on,iv r.to,iv r.tn]] w fun e w'=>e=.returned (.int .u8 (byF f r))/\Below w.heap.size w w':=by
 have hh:=(qY0 hc).2.2.2;have hp:qD1 r.oo r.on=true/\1<=r.tn/\r.tn<=5:=by simpa[QH5,e1,qW1] using hh
 have eb:byF f r=qL5 f r.tn (qB3 (f (r.oo,r.on)) 8) (qB3 (f (r.oo,r.on)) 8).length:=by simp[byF,e1]
 rw[eb];have E1:=hJJ e1;clear hh eb hc e1;go_enter func267,ntmps267;go_wp2_with (first | (go_at_call 253;refine (QM7 r E1.out _).mono ?_;rintro e w1 ⟨rfl,hb0⟩;have hb:=qFF hb0;clear hb0) | go_in)
 have hB1:=hb.alloc hb.size (.cells #[iv r.oo,iv r.on,iv r.tn] 339);have hG1:=h.below h.lt hB1;have hl:=QE9 (w:=(w1.alloc (.cells #[iv r.oo,iv r.on,iv r.tn] 339)).drew) (qQ1 hG1 rfl) (QO1 (r:=(r.oo,r.on)) hp.1);simp only[roV]at hl;have HG:Hid (GM (w1.alloc (.cells #[iv r.oo,iv r.on,iv r.tn] 339)).drew b f):=qQ1 hG1 rfl;have HB:=hJJ hB1.drew;have HS:Hid (qL0 (f (r.oo,r.on))):=h.fn.st _;clear hB1 hG1 h hb;go_region_with (first | (go_at_call 283;refine (qKL b f (f (r.oo,r.on)) r.tn _ HG.out HS.out hp.2.1 hp.2.2).mono ?_;rintro e w2 ⟨rfl,hb2⟩))
 all_goals go_wp2
 all_goals go_ret
 all_goals exact⟨rfl,HB.out.trans (hb2.mono HB.out.size)⟩
theorem qNZ(b:Nat)(f:RoI->Int)(r:qA1)(w:World)(h:GM w b f)(hc:qA6 r=0)(e1:r.k=4):
  CP 267 #[.map (some b),.agg #[iv r.k,iv r.ho,iv r.hn,iv r.w,iv r.oo,iv r.on,iv r.to,iv r.tn]] w fun e w'=>e=.returned (.int .u8 (byF f r))/\Below w.heap.size w w':=by
 have hh:=(qY0 hc).2.2.2;have hp:qD1 r.oo r.on=true/\qD1 r.to r.tn=true:=by simpa[QH5,e1] using hh
 have eb:byF f r=bits .and .u8 (f (r.oo,r.on)) (f (r.to,r.tn)):=by simp[byF,e1,qNX _ _ (h.fn.st _) (h.fn.st _)]
 rw[eb];have E1:=hJJ e1;clear hh eb hc e1;go_enter func267,ntmps267;go_wp2_with (first | (go_at_call 253;refine (qAd r E1.out _).mono ?_;rintro e w1 ⟨rfl,hb0⟩;have hb:=qFF hb0;clear hb0) | go_in)
 have hB1:=hb.alloc hb.size (.cells #[iv r.oo,iv r.on,iv r.to,iv r.tn] 341);have hG1:=h.below h.lt hB1;have hl1:=fun m=>QE9 (w:=(w1.alloc (.cells #[iv r.oo,iv r.on,iv r.to,iv r.tn] 341)).drewN m) (qQ1 hG1 rfl) (QO1 (r:=(r.oo,r.on)) hp.1)
 have hl2:=fun m=>QE9 (w:=(w1.alloc (.cells #[iv r.oo,iv r.on,iv r.to,iv r.tn] 341)).drewN m) (qQ1 hG1 rfl) (QO1 (r:=(r.to,r.tn)) hp.2)
 simp only[roV]at hl1 hl2;have HB:=hJJ hB1;clear hB1 hG1 h hb;go_quiet (fail)
 go_wp2;go_ret;exact⟨rfl,bdN HB.out _⟩
end
section
open Go.RowKit Go.Maps Go.Proofs
theorem qNY(b:Nat)(f:RoI->Int)(r:qA1)(w:World)(h:GM w b f)(hc:qA6 r=0):
  CP 267 #[.map (some b),.agg #[iv r.k,iv r.ho,iv r.hn,iv r.w,iv r.oo,iv r.on,iv r.to,iv r.tn]] w fun e w'=>e=.returned (.int .u8 (byF f r))/\Below w.heap.size w w':=by
 have hk:=qY0 hc;have h4:r.k=1\/r.k=2\/r.k=3\/r.k=4:=by omega
 rcases h4 with e | e | e | e
 .exact qNc b f r w h hc e
 .exact qNb b f r w h hc e
 .exact qNa b f r w h hc e
 .exact qNZ b f r w h hc e
theorem Below.turn{B:Nat}{w w1 w2:World}{b:Nat}(h:Below B w w1)(hB:B<=w1.heap.size)(hb:B<=b)(hg:w1.grownBy w2 (some b)):Below B w w2:=h.grown hg hB (fun k e=>by cases e;exact hb)
end
