/- Contracts. -/
import Derived.Test.YtdghpccmdnnenaaGreatDoorPx03
import Derived.Test.YtdghpccmdnnenaaGreatDoorPx05
import Derived.Test.YtdghpccmdnnenaaGreatDoorPx10
import Derived.Laws.AppendOwnNone
import Derived.ArgAppend
import Derived.Lib.SliceRun
namespace Go.Proofs.YtdghpccmdnnenaaGreatDoor
set_option maxRecDepth 100000
set_option maxHeartbeats 8000000
open Go.RowKit Go.Proofs.Tryz
set_option linter.unusedVariables false
set_option linter.unusedSimpArgs false
def qAn(f:Nat)(v:Value)(xs:List RoI):Prop:=∀w:World,Calls prog f #[v] w fun e w'=>∃g:Nat,e=.returned (.slice (some ⟨g,0,none⟩) xs.length xs.length)/\(∀j u,(QF0 xs)[j]?=some u->w'.cell? ((⟨g,0,none⟩:Addr).add j)=some u)/\Below w.heap.size w w'
theorem qMV(x:Int)(w:World):CP 352 #[.agg #[iv x]] w fun e w'=>e=.returned (.slice none 0 0)/\Below w.heap.size w w':=by
 go_enter func352,ntmps352;go_wp2;go_ret;exact⟨rfl,by go_grown⟩
theorem qLR{w':World}{g:Nat}{o n:Int}(h0:w'.cell? ⟨g,0,none⟩=some (iv o))(h1:w'.cell? ⟨g,1,none⟩=some (iv n)):∀j u,(QF0 [(o,n)])[j]?=some u->w'.cell? ((⟨g,0,none⟩:Addr).add j)=some u:=by
 intro j u hj;rw[gR,gG];match j,hj with
 | 0,hj=>simp[QF0]at hj;subst hj;exact h0
 | 1,hj=>simp[QF0]at hj;subst hj;exact h1
theorem qLQ{w':World}{g:Nat}{o n p m:Int}(h0:w'.cell? ⟨g,0,none⟩=some (iv o))(h1:w'.cell? ⟨g,1,none⟩=some (iv n))(h2:w'.cell? ⟨g,2,none⟩=some (iv p))(h3:w'.cell? ⟨g,3,none⟩=some (iv m)):∀j u,(QF0 [(o,n),(p,m)])[j]?=some u->w'.cell? ((⟨g,0,none⟩:Addr).add j)=some u:=by
 intro j u hj;rw[gR,gG];match j,hj with
 | 0,hj=>simp[QF0]at hj;subst hj;exact h0
 | 1,hj=>simp[QF0]at hj;subst hj;exact h1
 | 2,hj=>simp[QF0]at hj;subst hj;exact h2
 | 3,hj=>simp[QF0]at hj;subst hj;exact h3
theorem qMU(o n:Int):qAn 353 (.agg #[iv o,iv n]) [(o,n)]:=by
 intro w;go_enter func353,ntmps353;go_wp2;go_ret;exact⟨_,rfl,qLR (by simp) (by simp),by go_grown⟩
theorem qMT(o n d:Int):qAn 354 (.agg #[iv o,iv n,iv d]) [(o,n)]:=by
 intro w;go_enter func354,ntmps354;go_wp2;go_ret;exact⟨_,rfl,qLR (by simp) (by simp),by go_grown⟩
theorem qMS(o n p m:Int):qAn 355 (.agg #[iv o,iv n,iv p,iv m]) [(o,n),(p,m)]:=by
 intro w;go_enter func355,ntmps355;go_wp2;try go_quiet (fail)
 go_wp2;go_ret
 first
  | exact⟨_,rfl,qLQ (by simp) (by simp) (by simp) (by simp),by go_grown⟩
  | exact⟨_,rfl,qLQ (by simp[go_sem]) (by simp[go_sem]) (by simp[go_sem]) (by simp[go_sem]),bdN (by go_grown) _⟩
section
def QS7(w:World)(a:Option Addr)(n:Nat)(xs:List RoI):Prop:=xs.length=n/\(0<n->∃b off,a=some ⟨b,off,none⟩/\∀k r,xs[k]?=some r->w.cell? ⟨b,off+k*2,none⟩=some (iv r.1)/\w.cell? ⟨b,off+k*2+1,none⟩=some (iv r.2))
theorem QS7.below{w w':World}{a:Option Addr}{n:Nat}{xs:List RoI}(h:QS7 w a n xs)(hb:Below w.heap.size w w'):QS7 w' a n xs:=by
 refine⟨h.1,fun hn=>?_⟩;obtain⟨b,off,e,k⟩:=h.2 hn;refine⟨b,off,e,fun j r hr=>?_⟩;obtain⟨h1,h2⟩:=k j r hr;exact⟨(hb.cell (p:=⟨b,off+j*2,none⟩) (zL w ⟨b,off+j*2,none⟩ h1)).trans h1,(hb.cell (p:=⟨b,off+j*2+1,none⟩) (zL w ⟨b,off+j*2+1,none⟩ h2)).trans h2⟩
theorem QZ8{w:World}{g:Nat}{xs:List RoI}(h:∀j u,(QF0 xs)[j]?=some u->w.cell? ((⟨g,0,none⟩:Addr).add j)=some u):QS7 w (some ⟨g,0,none⟩) xs.length xs:=by
 refine⟨rfl,fun _=>⟨g,0,rfl,fun k r hr=>?_⟩⟩;have h1:=h _ _ (qBo xs k r hr);have h2:=h _ _ (qBn xs k r hr);rw[gR]at h1 h2;rw[gG]at h1 h2 ⊢
 exact⟨h1,h2⟩
theorem qBR(zs:List RoI)(k:Nat)(r:RoI):r∈zs.take k↔∃j,j<k/\zs[j]?=some r:=by
 rw[jW];constructor
 .rintro⟨j,hj⟩;rw[jJ]at hj;by_cases h:j<k
  .rw[gK h]at hj;exact⟨j,h,hj⟩
  .rw[gI h]at hj;cases hj
 .rintro⟨j,h,hj⟩;exact⟨j,by rw[jJ,gK h];exact hj⟩
attribute [local go_sem ↓] qEM
theorem qFX(a:Option Addr)(n cap:Nat)(zs:List RoI)(r:RoI)(w:World)(hn:n<=1048576)(h:QS7 w a n zs):
  CP 295 #[.slice a n cap,.agg #[iv r.1,iv r.2]] w fun e w'=>(∃i:Int,e=.returned (iv i)/\((0<=i/\r∈zs)\/(i = -1/\¬ r∈zs)))/\Below w.heap.size w w':=by
 have H:=hJJ h;have hz:=hJJ h.1;clear h;have hn':(n:Int)<=1048576:=by omega
 go_enter func295,ntmps295;go_wp2;go_loopw [8] (fun i wr=>∃k:Nat,k<=n/\i=iv (k:Int)/\¬ r∈zs.take k/\∃m,wr=(w.alloc (.cells #[iv r.1,iv r.2] 206)).drewN m) (fun i _=>n-(intOf i).toNat)
 case atStart=>exact⟨0,gH _,rfl,by simp,0,rfl⟩
 case round =>
  obtain⟨k,hk,rfl,hm,m,rfl⟩:=hrel;have HM:=hJJ hm;clear hm;by_cases hlt:k<n
  .obtain⟨b,off,rfl,hcells⟩:=H.out.2 (by omega);obtain⟨s,hs⟩:∃s,zs[k]?=some s:=⟨_,gA (by rw[hz.out];exact hlt)⟩;obtain⟨h0,h1⟩:=hcells k s hs;have HS:=hJJ hs;clear hs hcells;have hb:b<w.heap.size:=zL w ⟨b,off+k*2,none⟩ h0;have b0:(w.alloc (.cells #[iv r.1,iv r.2] 206)).cell? ⟨w.heap.size,0,none⟩=some (iv r.1):=by simp
   have b1:(w.alloc (.cells #[iv r.1,iv r.2] 206)).cell? ⟨w.heap.size,1,none⟩=some (iv r.2):=by simp
   have hlt':(k:Int)<(n:Int):=by omega
   cases hsame:qGq r s
   .have HN:Hid (¬ r∈zs.take (k+1)):=by
     show ¬ r∈zs.take (k+1)
     rw[qBR];rintro⟨j,hj,hjs⟩;by_cases e:j=k
     .subst e;rw[HS.out]at hjs;have:=(qU6 r s).2 (gJ hjs).symm;rw[hsame]at this;cases this
     .exact HM.out ((qBR _ _ _).2 ⟨j,by omega,hjs⟩)
    go_wp2;go_quiet (fail)
    go_wp2;exact⟨⟨k+1,by omega,by go_num,HN.out,_,rfl⟩,by simp[intOf];omega⟩
   .have HI:Hid (r∈zs):=by
     show r∈zs
     rw[(qU6 r s).1 hsame];exact gO HS.out
    go_wp2;go_quiet (fail)
    go_wp2;go_ret;exact⟨⟨_,rfl,Or.inl ⟨by omega,HI.out⟩⟩,by first | exact bdN (zN) _ | exact bdN (bdN (zN) _) _⟩
  .have hkn:k=n:=by omega
   subst hkn
   have HN:Hid (¬ r∈zs):=by
    have:=HM.out;rw[gV (by rw[hz.out];exact gB _)]at this;exact this
   go_wp2;go_ret;exact⟨⟨_,rfl,Or.inr ⟨rfl,HN.out⟩⟩,bdN (by go_grown) _⟩
theorem qR1(a:Option Addr)(n cap:Nat)(zs:List RoI)(r:RoI)(w:World)(hn:n<=1048576)(h:QS7 w a n zs):
  CP 284 #[.slice a n cap,.agg #[iv r.1,iv r.2]] w fun e w'=>e=.returned (.bool (decide (r∈zs)))/\Below w.heap.size w w':=by
 have H:Hid (QS7 (w.alloc (.cells #[iv r.1,iv r.2] 206)) a n zs):=h.below (zN);clear h;go_enter func284,ntmps284;go_wp2_with fail
 refine (qFX a n cap zs r _ hn H.out).mono ?_;rintro e w1 ⟨⟨i,rfl,hi⟩,hb1⟩
 have HX:Hid (decide (0<=i)=decide (r∈zs)):=by
  show decide (0<=i)=decide (r∈zs)
  rcases hi with⟨h1,h2⟩ | ⟨rfl,h2⟩
  .simp[h1,h2]
  .simp[h2]
 clear hi;go_wp2;go_ret;exact⟨by rw[HX.out];rfl,qD5 hb1⟩
attribute [local go_sem] qOm qOl qOk qOj qOi qOh qOg qOf qOe qOd qOc qOb qOa qOZ qOY qOX
theorem qCG{w w1:World}{o1:Obj}{h0 h1:Value}{t:TypeId}(hb:Below ((w.alloc o1).alloc (.cells #[h0,h1] t)).heap.size ((w.alloc o1).alloc (.cells #[h0,h1] t)) w1):
  w1.cell? ⟨w.heap.size+1,0,none⟩=some h0/\w1.cell? ⟨w.heap.size+1,1,none⟩=some h1/\w.heap.size+2<=w1.heap.size/\Below w.heap.size w w1:=by
 have hz:=hb.size;simp only[jC]at hz;refine⟨(hb.cell (p:=⟨w.heap.size+1,0,none⟩) (by simp)).trans (by simp),(hb.cell (p:=⟨w.heap.size+1,1,none⟩) (by simp)).trans (by simp),hz,qD5 (qD5 hb)⟩
theorem qFD{w w1:World}{h0 h1:Value}{b:Nat}(o:Obj)(c0:w1.cell? ⟨b,0,none⟩=some h0)(c1:w1.cell? ⟨b,1,none⟩=some h1)(hz:b<w1.heap.size)(hb:Below w.heap.size w w1):
  ∃W,w1.alloc o=W/\W.cell? ⟨b,0,none⟩=some h0/\W.cell? ⟨b,1,none⟩=some h1/\b<W.heap.size/\Below w.heap.size w W:=by
 have hA:Below w1.heap.size w1 (w1.alloc o):=zN;exact⟨_,rfl,(hA.cell (p:=⟨b,0,none⟩) hz).trans c0,(hA.cell (p:=⟨b,1,none⟩) hz).trans c1,gD hz hA.size,hb.alloc hb.size _⟩
theorem qMn(r:qA1)(h:RoI)(w:World)(e1:r.k=1):
  CP 268 #[.agg #[iv r.k,iv r.ho,iv r.hn,iv r.w,iv r.oo,iv r.on,iv r.to,iv r.tn],.agg #[iv h.1,iv h.2]] w fun e w'=>e=.returned (.bool (qG5 r h))/\Below w.heap.size w w':=by
 obtain⟨t,ht⟩:∃t,qG5 r h=t:=⟨_,rfl⟩;have HT:Hid (decide (h∈([]:List RoI))=t):=by rw[<- ht];show _=qG5 r h;simp[qG5,qDo,e1]
 rw[ht];have E1:=hJJ e1;clear e1 ht;go_enter func268,ntmps268;go_wp2_with (first | (go_at_call 253;refine (qAf r E1.out _).mono ?_;rintro e w1 ⟨rfl,hb0⟩;obtain⟨c0,c1,hz,hb⟩:=qCG hb0;clear hb0) | go_in)
 obtain⟨W,hW,p0,p1,hzW,hbW⟩:=qFD (.cells #[iv 0,iv 0,iv 0] 339) c0 c1 (by omega) hb;rw[hW];clear hW c0 c1 hz hb
 go_region_with (first
  | (go_at_call 352;refine (qMV _ _).mono ?_;rintro e w2 ⟨rfl,hb2⟩;have q0:w2.cell? ⟨w.heap.size+1,0,none⟩=some (iv h.1):=(hb2.cell (p:=⟨w.heap.size+1,0,none⟩) hzW).trans p0;have q1:w2.cell? ⟨w.heap.size+1,1,none⟩=some (iv h.2):=(hb2.cell (p:=⟨w.heap.size+1,1,none⟩) hzW).trans p1)
  | (go_at_call 284;refine (qR1 none 0 0 [] h _ (by omega) ⟨rfl,fun q=>by omega⟩).mono ?_;rintro e w3 ⟨he3,hb3⟩;rw[HT.out]at he3;subst he3))
 all_goals go_wp2
 all_goals go_ret
 all_goals exact⟨rfl,(hbW.drew.trans (hb2.mono hbW.size)).trans (hb3.mono (jF hbW.size hb2.size))⟩
theorem qMm(r:qA1)(h:RoI)(w:World)(e1:r.k=2):
  CP 268 #[.agg #[iv r.k,iv r.ho,iv r.hn,iv r.w,iv r.oo,iv r.on,iv r.to,iv r.tn],.agg #[iv h.1,iv h.2]] w fun e w'=>e=.returned (.bool (qG5 r h))/\Below w.heap.size w w':=by
 obtain⟨t,ht⟩:∃t,qG5 r h=t:=⟨_,rfl⟩;have HT:Hid (decide (h∈[(r.oo,r.on)])=t):=by rw[<- ht];show _=qG5 r h;simp[qG5,qDo,e1]
 rw[ht];have E1:=hJJ e1;clear e1 ht;go_enter func268,ntmps268;go_wp2_with (first | (go_at_call 253;refine (qAe r E1.out _).mono ?_;rintro e w1 ⟨rfl,hb0⟩;obtain⟨c0,c1,hz,hb⟩:=qCG hb0;clear hb0) | go_in)
 obtain⟨W,hW,p0,p1,hzW,hbW⟩:=qFD (.cells #[iv 0,iv 0,iv 0] 339) c0 c1 (by omega) hb;rw[hW];clear hW c0 c1 hz hb
 go_region_with (first
  | (go_at_call 353;refine (qMU _ _ _).mono ?_;rintro e w2 ⟨g,rfl,hc2,hb2⟩;have HC2:Hid (QS7 w2 (some ⟨g,0,none⟩) ([(r.oo,r.on)]).length ([(r.oo,r.on)])):=QZ8 hc2;clear hc2;have q0:w2.cell? ⟨w.heap.size+1,0,none⟩=some (iv h.1):=(hb2.cell (p:=⟨w.heap.size+1,0,none⟩) hzW).trans p0;have q1:w2.cell? ⟨w.heap.size+1,1,none⟩=some (iv h.2):=(hb2.cell (p:=⟨w.heap.size+1,1,none⟩) hzW).trans p1)
  | (go_at_call 284;refine (qR1 _ _ _ [(r.oo,r.on)] h _ (by simp) HC2.out).mono ?_;rintro e w3 ⟨he3,hb3⟩;rw[HT.out]at he3;subst he3))
 all_goals go_wp2
 all_goals go_ret
 all_goals exact⟨rfl,(hbW.drew.trans (hb2.mono hbW.size)).trans (hb3.mono (jF hbW.size hb2.size))⟩
theorem qMl(r:qA1)(h:RoI)(w:World)(e1:r.k=3)(e3:r.tn≠h.2):
  CP 268 #[.agg #[iv r.k,iv r.ho,iv r.hn,iv r.w,iv r.oo,iv r.on,iv r.to,iv r.tn],.agg #[iv h.1,iv h.2]] w fun e w'=>e=.returned (.bool (qG5 r h))/\Below w.heap.size w w':=by
 obtain⟨t,ht⟩:∃t,qG5 r h=t:=⟨_,rfl⟩;have HT:Hid (decide (h∈[(r.oo,r.on)])=t):=by rw[<- ht];show _=qG5 r h;simp[qG5,qDo,e1,e3]
 rw[ht];have b3:(r.tn==h.2)=false:=by simp[e3]
 have E1:=hJJ e1;clear e1 ht e3;go_enter func268,ntmps268;go_wp2_with (first | (go_at_call 253;refine (QM7 r E1.out _).mono ?_;rintro e w1 ⟨rfl,hb0⟩;obtain⟨c0,c1,hz,hb⟩:=qCG hb0;clear hb0;have hlt1:w.heap.size+1<w1.heap.size:=by omega) | go_in)
 obtain⟨W,hW,p0,p1,hzW,hbW⟩:=qFD (.cells #[iv r.oo,iv r.on,iv r.tn] 339) c0 c1 (by omega) hb;rw[hW];clear hW c0 c1 hz hb hlt1
 go_region_with (first
  | (go_at_call 354;refine (qMT _ _ _ _).mono ?_;rintro e w2 ⟨g,rfl,hc2,hb2⟩;have HC2:Hid (QS7 w2 (some ⟨g,0,none⟩) ([(r.oo,r.on)]).length ([(r.oo,r.on)])):=QZ8 hc2;clear hc2;have q0:w2.cell? ⟨w.heap.size+1,0,none⟩=some (iv h.1):=(hb2.cell (p:=⟨w.heap.size+1,0,none⟩) hzW).trans p0;have q1:w2.cell? ⟨w.heap.size+1,1,none⟩=some (iv h.2):=(hb2.cell (p:=⟨w.heap.size+1,1,none⟩) hzW).trans p1)
  | (go_at_call 284;refine (qR1 _ _ _ [(r.oo,r.on)] h _ (by simp) HC2.out).mono ?_;rintro e w3 ⟨he3,hb3⟩;rw[HT.out]at he3;subst he3))
 all_goals go_wp2
 all_goals go_ret
 all_goals exact⟨rfl,(hbW.drew.trans (hb2.mono hbW.size)).trans (hb3.mono (jF hbW.size hb2.size))⟩
theorem qMk(r:qA1)(h:RoI)(w:World)(e1:r.k=4):
  CP 268 #[.agg #[iv r.k,iv r.ho,iv r.hn,iv r.w,iv r.oo,iv r.on,iv r.to,iv r.tn],.agg #[iv h.1,iv h.2]] w fun e w'=>e=.returned (.bool (qG5 r h))/\Below w.heap.size w w':=by
 obtain⟨t,ht⟩:∃t,qG5 r h=t:=⟨_,rfl⟩;have HT:Hid (decide (h∈[(r.oo,r.on),(r.to,r.tn)])=t):=by rw[<- ht];show _=qG5 r h;simp[qG5,qDo,e1]
 rw[ht];have E1:=hJJ e1;clear e1 ht;go_enter func268,ntmps268;go_wp2_with (first | (go_at_call 253;refine (qAd r E1.out _).mono ?_;rintro e w1 ⟨rfl,hb0⟩;obtain⟨c0,c1,hz,hb⟩:=qCG hb0;clear hb0) | go_in)
 obtain⟨W,hW,p0,p1,hzW,hbW⟩:=qFD (.cells #[iv 0,iv 0,iv 0] 339) c0 c1 (by omega) hb;rw[hW];clear hW c0 c1 hz hb
 go_region_with (first
  | (go_at_call 355;refine (qMS _ _ _ _ _).mono ?_;rintro e w2 ⟨g,rfl,hc2,hb2⟩;have HC2:Hid (QS7 w2 (some ⟨g,0,none⟩) ([(r.oo,r.on),(r.to,r.tn)]).length ([(r.oo,r.on),(r.to,r.tn)])):=QZ8 hc2;clear hc2;have q0:w2.cell? ⟨w.heap.size+1,0,none⟩=some (iv h.1):=(hb2.cell (p:=⟨w.heap.size+1,0,none⟩) hzW).trans p0;have q1:w2.cell? ⟨w.heap.size+1,1,none⟩=some (iv h.2):=(hb2.cell (p:=⟨w.heap.size+1,1,none⟩) hzW).trans p1)
  | (go_at_call 284;refine (qR1 _ _ _ [(r.oo,r.on),(r.to,r.tn)] h _ (by simp) HC2.out).mono ?_;rintro e w3 ⟨he3,hb3⟩;rw[HT.out]at he3;subst he3))
 all_goals go_wp2
 all_goals go_ret
 all_goals exact⟨rfl,(hbW.drew.trans (hb2.mono hbW.size)).trans (hb3.mono (jF hbW.size hb2.size))⟩
theorem qKM(r:qA1)(h:RoI)(w:World)(e1:r.k=3)(e3:r.tn=h.2):
  CP 268 #[.agg #[iv r.k,iv r.ho,iv r.hn,iv r.w,iv r.oo,iv r.on,iv r.to,iv r.tn],.agg #[iv h.1,iv h.2]] w fun e w'=>e=.returned (.bool (qG5 r h))/\Below w.heap.size w w':=by
 have E:qG5 r h=true:=by simp[qG5,e1,e3]
 rw[E];have b3:(r.tn==h.2)=true:=by simp[e3]
 have E1:=hJJ e1;clear e1 E e3;go_enter func268,ntmps268;go_wp2_with (first | (go_at_call 253;refine (QM7 r E1.out _).mono ?_;rintro e w1 ⟨rfl,hb0⟩;obtain⟨c0,c1,hz,hb⟩:=qCG hb0;clear hb0;have hlt1:w.heap.size+1<w1.heap.size:=by omega) | go_in)
 go_ret;exact⟨rfl,hb.alloc hb.size _⟩
theorem qIH(r:qA1)(h:RoI)(w:World)(hk:1<=r.k/\r.k<=4):
  CP 268 #[.agg #[iv r.k,iv r.ho,iv r.hn,iv r.w,iv r.oo,iv r.on,iv r.to,iv r.tn],.agg #[iv h.1,iv h.2]] w fun e w'=>e=.returned (.bool (qG5 r h))/\Below w.heap.size w w':=by
 have h4:r.k=1\/r.k=2\/r.k=3\/r.k=4:=by omega
 rcases h4 with e | e | e | e
 .exact qMn r h w e
 .exact qMm r h w e
 .by_cases q:r.tn=h.2
  .exact qKM r h w e q
  .exact qMl r h w e q
 .exact qMk r h w e
end
theorem Tryz.under89:prog.underlying 89=some (.slice 208):=by kernel_rfl
def qZ6(r:qA1):List Value:=[iv r.k,iv r.ho,iv r.hn,iv r.w,iv r.oo,iv r.on,iv r.to,iv r.tn]
def qR8:List qA1->List Value
 | []=>[]
 | r::rs=>qZ6 r++qR8 rs
theorem qX0:∀zs:List qA1,(qR8 zs).length=zs.length*8
 | []=>rfl
 | r::rs=>by simp[qR8,qZ6,qX0 rs];omega
theorem QR7:∀zs:List qA1,∀u∈qR8 zs,u.oneCell'=true
 | [],u,h=>by simp[qR8]at h
 | r::rs,u,h=>by
  rcases kL.1 h with q | q
  .simp[qZ6]at q;rcases q with rfl|rfl|rfl|rfl|rfl|rfl|rfl|rfl <;> rfl
  .exact QR7 rs u q
theorem qAT:∀(zs:List qA1) (k:Nat) (r:qA1),zs[k]?=some r->∀i,i<8->(qR8 zs)[k*8+i]?=(qZ6 r)[i]?
 | [],k,r,h,i,hi=>by simp at h
 | z::zs,0,r,h,i,hi=>by
  simp at h;subst h;rw[qR8,kY (by simp[qZ6];omega)];simp
 | z::zs,k+1,r,h,i,hi=>by
  have:=qAT zs k r (by simpa using h) i hi;rw[qR8,kN (by simp[qZ6];omega),show (k+1)*8+i-(qZ6 z).length=k*8+i by simp[qZ6];omega];exact this
theorem qFd{w:World}{g off:Nat}{zs:List qA1}(h:∀j u,(qR8 zs)[j]?=some u->w.cell? ⟨g,off+j,none⟩=some u):qL3 w g off zs:=by
 intro k r hr
 have q:∀i,i<8->∀u,(qZ6 r)[i]?=some u->w.cell? ⟨g,off+k*8+i,none⟩=some u:=fun i hi u hu=>by
  have:=h (k*8+i) u ((qAT zs k r hr i hi).trans hu);rwa [<- Nat.add_assoc]at this
 exact⟨q 0 (by omega) _ rfl,q 1 (by omega) _ rfl,q 2 (by omega) _ rfl,q 3 (by omega) _ rfl,q 4 (by omega) _ rfl,q 5 (by omega) _ rfl,q 6 (by omega) _ rfl,q 7 (by omega) _ rfl⟩
theorem qFe{w:World}{g o:Nat}{r:qA1}(h:qC2 w g o r):∀j u,(qZ6 r)[j]?=some u->w.cell? ⟨g,o+j,none⟩=some u:=by
 obtain⟨h0,h1,h2,h3,h4,h5,h6,h7⟩:=h;intro j u hu;match j,hu with
 | 0,hu=>simp[qZ6]at hu;subst hu;exact h0
 | 1,hu=>simp[qZ6]at hu;subst hu;exact h1
 | 2,hu=>simp[qZ6]at hu;subst hu;exact h2
 | 3,hu=>simp[qZ6]at hu;subst hu;exact h3
 | 4,hu=>simp[qZ6]at hu;subst hu;exact h4
 | 5,hu=>simp[qZ6]at hu;subst hu;exact h5
 | 6,hu=>simp[qZ6]at hu;subst hu;exact h6
 | 7,hu=>simp[qZ6]at hu;subst hu;exact h7
 | j+8,hu=>simp[qZ6]at hu
theorem QO0{w:World}{g off:Nat}{zs:List qA1}(h:qL3 w g off zs):∀j u,(qR8 zs)[j]?=some u->w.cell? ⟨g,off+j,none⟩=some u:=by
 intro j u hu
 have hj:j<zs.length*8:=by
  rw[<- qX0];by_cases q:j<(qR8 zs).length
  .exact q
  .rw[gE (by omega)]at hu;cases hu
 have hk:j / 8<zs.length:=by omega
 have hr:=gA hk;have e:=qAT zs (j / 8) _ hr (j % 8) (by omega);rw[show j / 8*8+j % 8=j by omega]at e;have:=qFe (h (j / 8) _ hr) (j % 8) u (e.symm.trans hu);rwa [show off+j / 8*8+j % 8=off+j by omega]at this
structure QAt (w:World) (B g off cap:Nat) (ws:List qA1):Prop where
 old:B<=g
 lt:g<w.heap.size
 at':qL3 w g off ws
 le:ws.length<=cap
 room:∀j,j<cap*8->(w.cell? ⟨g,off+j,none⟩).isSome=true/\w.frozen? ⟨g,off+j,none⟩=false
def Q1(w:World)(B:Nat)(v:Value)(ws:List qA1):Prop:=∃g off cap,v=.slice (some ⟨g,off,none⟩) ws.length cap/\QAt w B g off cap ws
theorem QAt.kept{w w':World}{B g off cap:Nat}{ws:List qA1}(h:QAt w B g off cap ws)(hs:w.heap.size<=w'.heap.size)(hb:w'.heap[g]?=w.heap[g]?):QAt w' B g off cap ws:=by
 have hc:∀o,w'.cell? ⟨g,o,none⟩=w.cell? ⟨g,o,none⟩:=fun o=>jO hb
 have hf:∀o,w'.frozen? ⟨g,o,none⟩=w.frozen? ⟨g,o,none⟩:=fun o=>by simp[World.frozen?,hb]
 refine⟨h.old,gD h.lt hs,fun k r hr=>?_,h.le,fun j hj=>?_⟩
 .obtain⟨h0,h1,h2,h3,h4,h5,h6,h7⟩:=h.at' k r hr;exact⟨(hc _).trans h0,(hc _).trans h1,(hc _).trans h2,(hc _).trans h3,(hc _).trans h4,(hc _).trans h5,(hc _).trans h6,(hc _).trans h7⟩
 .rw[hc,hf];exact h.room j hj
theorem QAt.below{w w':World}{B g off cap:Nat}{ws:List qA1}(h:QAt w B g off cap ws){K:Nat}(hK:g<K)(hb:Below K w w'):QAt w' B g off cap ws:=h.kept hb.size (hb.block g hK)
theorem QAt.pop{w:World}{B g off cap:Nat}{z:qA1}{ws:List qA1}(h:QAt w B g off cap (z::ws)):QAt w B g (off+8) (cap-1) ws:=by
 have hl:=h.le;simp only[jX]at hl;refine⟨h.old,h.lt,fun k r hr=>?_,by omega,fun j hj=>?_⟩
 .have:=h.at' (k+1) r (by simpa using hr);rwa [show off+(k+1)*8=off+8+k*8 by omega]at this
 .have:=h.room (8+j) (by omega);rwa [<- Nat.add_assoc]at this
theorem QAt.empty{w:World}{B g off off':Nat}(h:QAt w B g off 0 []):QAt w B g off' 0 [] :=
 ⟨h.old,h.lt,fun k r hr=>by simp at hr,gB _,fun j hj=>by omega⟩
theorem qEO{w:World}{B:Nat}{v:Value}{ws:List qA1}(h:w.ownsRow B 208 8 v ws.length (qR8 ws))(hn:v≠.slice none 0 0):Q1 w B v ws:=by
 rcases h.2 with⟨q,_⟩ | ⟨g,cap,cur,rfl,hB,hg,hnc,hcm,hsz,htk⟩
 .exact absurd q hn
 .refine⟨g,0,cap,rfl,hB,(h.lt g rfl).2,qFd (fun j u hu=>?_),hnc,fun j hj=>?_⟩
  .rw[gG]
   have hj:j<ws.length*8:=by
    rw[<- qX0];by_cases q:j<(qR8 ws).length
    .exact q
    .rw[gE (by omega)]at hu;cases hu
   exact (h.cellAt j hj).trans hu
  .rw[gG];refine⟨?_,by simp[World.frozen?,hg]⟩;simp[World.cell?,hg];omega
theorem qKn(a:Option Addr)(n cap:Nat)(zs:List qA1)(w:World)(hn:n<=1000)(h:qB9 w a n zs):
  CP 265 #[.slice a n cap] w fun e w'=>∃v,e=.returned v/\(n=0->∃a' c',v=.slice a' 0 c')/\(0<n->Q1 w' w.heap.size v zs)/\Below w.heap.size w w':=by
 obtain⟨i0,hi,hz0,hz1,hz2⟩:=jT Tryz.info208;have HZ:=hJJ h.1;cases a with
 | none =>
  have hn0:n=0:=by
   by_cases q:0<n
   .obtain⟨_,_,e,_⟩:=h.2 q;cases e
   .omega
  subst hn0;clear h;have hq:=fun w=>Go.Lib.run_eql_slice_nil (P:=prog) w 89 _ (none:Option Addr) 0 cap 0 0 Tryz.under89
  go_enter func265,ntmps265;go_wp2;go_ret;exact⟨_,rfl,fun _=>⟨_,_,rfl⟩,fun q=>by omega,gC _ _⟩
 | some ad =>
  have HC:Hid (∀j u,(qR8 zs)[j]?=some u->(w.alloc (.cells #[] 208)).cell? (ad.add j)=some u):=by
   intro j u hu
   have hj:j<zs.length*8:=by
    rw[<- qX0];by_cases q:j<(qR8 zs).length
    .exact q
    .rw[gE (by omega)]at hu;cases hu
   have hz:=h.1;obtain⟨b,off,e,hat⟩:=h.2 (by omega);cases e;rw[gR];have h1:=QO0 hat j u hu;exact (((gC _ w).alloc (gB _) _).cell (p:=⟨b,off+j,none⟩) (zL w ⟨b,off+j,none⟩ h1)).trans h1
  clear h;have hq:=fun w=>Go.Lib.run_eql_slice_nil (P:=prog) w 89 _ (some ad) n cap 0 0 Tryz.under89
  go_enter func265,ntmps265;go_wp2_with (first | (at_builtin;refine jG _ rfl _ _ 89 rfl w.heap.size 208 i0 (.agg #[iv 0,iv 0,iv 0,iv 0,iv 0,iv 0,iv 0,iv 0]) 8 64 Tryz.under89 hi hz0 hz1 hz2 rfl (by decide) (.slice (some ⟨w.heap.size,0,none⟩) 0 0) 0 [] rfl ?c0 ad n cap (qR8 zs) rfl ?cl ?c1 ?c2 ?c3 ?c4 ?c5 ?_))
  case c0=>exact kH w #[] 0 (gB _) (gH _) rfl
  case cl=>rw[qX0,HZ.out]
  case c1=>exact HC.out
  case c2=>exact QR7 zs
  case c3=>unfold maxLen;omega
  case c4=>omega
  case c5=>simp
  .intro v1 w1 hown hgrow hnil;have hnn:v1≠.slice none 0 0:=by first | exact hnil | simpa using hnil
   have R1:w1.ownsRow w.heap.size 208 8 v1 zs.length (qR8 zs):=by
    rw[HZ.out];simpa using hown
   have R2:Below w.heap.size w w1:=(zN).grown hgrow (by simp) (fun j hj=>by simp[Value.ownBlock]at hj;omega);have hq:=qEO R1 hnn;have HQ:=hJJ hq;clear R1 hown hgrow hnil hnn hq;go_wp2;go_ret;refine⟨v1,rfl,fun q=>?_,fun _=>HQ.out,R2⟩;obtain⟨g,off,c,e,_⟩:=HQ.out;rw[HZ.out,q]at e;exact⟨_,_,e⟩
