/- Contracts. -/
import Derived.Test.YtdghpccmdnnenaaGreatDoorPx11
import Derived.Lib.Overlaps
import Derived.Lib.AppendZerosOnto
import Derived.Laws.Externs
import Derived.Laws.IdiomCopy
import Derived.Laws.NewBlocks
import Derived.Shelf.Spec.SlicesInsert
import Derived.Shelf.Spec.SlicesInsertGrow
import Derived.LaidEql
import Derived.Stop.Asserts
import Derived.RowKitTokens
import Derived.OpenVars
import Derived.Stop.LaidErr
import Derived.LaidLaws
import Derived.Test.YtdghpccmdnnenaaGreatDoorPx13
import Derived.Shelf.SlSortCmp.WholeK
import Derived.Sort.OwnSorted
namespace Go.Proofs.YtdghpccmdnnenaaGreatDoor
set_option maxRecDepth 100000
set_option maxHeartbeats 8000000
open Go.RowKit Go.Proofs.Tryz
set_option linter.unusedVariables false
set_option linter.unusedSimpArgs false
theorem qBh(s p:Int)(h0:0<=s)(h1:s<=15)(p0:1<=p)(p1:p<=4)(w:World):
  CP 227 #[iv s,iv p] w fun e w'=>e=.returned (.bool (qI8 s p))/\w=w':=by
 have hp:p=1\/p=2\/p=3\/p=4:=by omega
 rcases hp with rfl|rfl|rfl|rfl
 .have e1:=qQ4 s 1 h0 (by omega) (by omega) (by omega);simp at e1;go_enter func227,ntmps227;go_wp2;go_ret;exact⟨rfl,rfl⟩
 .have e1:=qQ4 s 2 h0 (by omega) (by omega) (by omega);simp at e1;go_enter func227,ntmps227;go_wp2;go_ret;exact⟨rfl,rfl⟩
 .have e1:=qQ4 s 3 h0 (by omega) (by omega) (by omega);simp at e1;go_enter func227,ntmps227;go_wp2;go_ret;exact⟨rfl,rfl⟩
 .have e1:=qQ4 s 4 h0 (by omega) (by omega) (by omega);simp at e1;go_enter func227,ntmps227;go_wp2;go_ret;exact⟨rfl,rfl⟩
theorem qOC:∀n:Fin 16,∀k:Fin 4,(bits .and .i64 (((n.val:Nat):Int) / ((2 ^ k.val:Nat):Int)) 1==1)=n.val.testBit k.val:=by
 decide +kernel
theorem qEt(s p:Int)(h0:0<=s)(h1:s<=15)(p0:1<=p)(p1:p<=4):(bits .and .i64 (s / ((2 ^ (p-1).toNat:Nat):Int)) 1==1)=qI8 s p:=by
 obtain⟨n,rfl⟩:=gP h0;have:=qOC ⟨n,by omega⟩ ⟨(p-1).toNat,by omega⟩;simpa[qI8] using this
theorem qLY(s p:Int)(h0:0<=s)(h1:s<=15)(p0:1<=p)(p1:p<=4)(w:World):
  CP 168 #[iv s,iv p] w fun e w'=>e=.returned (.bool (qI8 s p))/\w=w':=by
 have hp:p=1\/p=2\/p=3\/p=4:=by omega
 rcases hp with rfl|rfl|rfl|rfl
 .have e1:Hid ((bits .and .i64 s 1==1)=qI8 s 1):=by have:=qEt s 1 h0 h1 (by omega) (by omega);simp at this;exact this
  go_enter func168,ntmps168;go_wp2;go_ret;exact⟨by rw[<- e1.out];rfl,rfl⟩
 .have e1:Hid ((bits .and .i64 (s / 2) 1==1)=qI8 s 2):=by have:=qEt s 2 h0 h1 (by omega) (by omega);simp at this;exact this
  go_enter func168,ntmps168;go_wp2;go_ret;exact⟨by rw[<- e1.out];rfl,rfl⟩
 .have e1:Hid ((bits .and .i64 (s / 4) 1==1)=qI8 s 3):=by have:=qEt s 3 h0 h1 (by omega) (by omega);simp at this;exact this
  go_enter func168,ntmps168;go_wp2;go_ret;exact⟨by rw[<- e1.out];rfl,rfl⟩
 .have e1:Hid ((bits .and .i64 (s / 8) 1==1)=qI8 s 4):=by have:=qEt s 4 h0 h1 (by omega) (by omega);simp at this;exact this
  go_enter func168,ntmps168;go_wp2;go_ret;exact⟨by rw[<- e1.out];rfl,rfl⟩
def qOO(zs:List Int)(a b:Int):Bool:=zs.any (fun c=>qI8 c a&&qI8 c b)
def qLf(zs:List Int)(a b:Int):Bool:=(a != b)&&qOO zs a b
def qLe(zs:List Int)(a b:Int):Bool:=(qG2 zs==0)&&(inR a 1 4&&(inR b 1 4&&qLf zs a b))
theorem qON{zs:List Int}{k:Nat}{x:Int}(h:∀x∈zs,inR x 0 15=true)(hx:zs[k]?=some x):0<=x/\x<=15:=(qD3 _ _ _).1 (h x (gO hx))
def qF8(e f:Int)(k:Nat)(ps:List Int):List LkI:=ps.map (fun p=>(⟨e,(k:Int),p,f⟩:LkI))
def qS9(zs:List Int)(e f s:Int)(k:Nat):List LkI:=if qI8 (zs[k]?.getD 0) f=true then qF8 e f k (qB3 s 8) else []
def qB6(zs:List Int)(e f s:Int):Nat->List LkI
 | 0=>[]
 | k+1=>qB6 zs e f s k++qS9 zs e f s k
theorem qCw(zs:List Int)(e f s:Int)(k:Nat):(qS9 zs e f s k).length<=8:=by
 unfold qS9;split
 .simpa[qF8] using QA9 s 8
 .simp
theorem qW0(zs:List Int)(e f s:Int):∀k,(qB6 zs e f s k).length<=k*8
 | 0=>by simp[qB6]
 | k+1=>by
  have h1:=qW0 zs e f s k;have h2:=qCw zs e f s k;simp only[qB6,jD];omega
def qE5(zs:List Int)(e f s:Int):Int:=if qG2 zs=0 then (if (inR e 1 9&&(inR f 1 4&&inR s 0 255))=true then 0 else 3) else qG2 zs
theorem QP1{zs:List Int}{e f s:Int}(h:qE5 zs e f s=0):qG2 zs=0/\inR e 1 9=true/\inR f 1 4=true/\inR s 0 255=true:=by
 unfold qE5 at h;split at h
 .rename_i q;split at h
  .rename_i q2;simp only[jY]at q2;exact⟨q,q2.1,q2.2.1,q2.2.2⟩
  .cases h
 .exact absurd h (by assumption)
theorem qHu{zs:List Int}{e f s:Int}(h0:qG2 zs=0)(h1:inR e 1 9=true)(h2:inR f 1 4=true)(h3:inR s 0 255=true):qE5 zs e f s=0:=by
 simp[qE5,h0,h1,h2,h3]
theorem qCF(W:World)(b:Nat)(hb:b=W.heap.size)(u0 u1 u2 u3:Value)(T:TypeId):∀j u,[u0,u1,u2,u3][j]?=some u->(W.alloc (.cells #[u0,u1,u2,u3] T)).cell? ((⟨b,0,none⟩:Addr).add j)=some u:=by
 subst hb;intro j u hj;match j,hj with
 | 0,hj=>simp at hj;subst hj;simp[Addr.add]
 | 1,hj=>simp at hj;subst hj;simp[Addr.add]
 | 2,hj=>simp at hj;subst hj;simp[Addr.add]
 | 3,hj=>simp at hj;subst hj;simp[Addr.add]
theorem qKI{w:World}{B B' gl m cl:Nat}{v:Value}{gs:List LkI}{xs:List Value}(h:qB2 w B v gs)(k:w.ownsRow B' 2 1 (.slice (some ⟨gl,0,none⟩) m cl) m xs):v.ownBlock≠some gl:=by
 intro e;have h0:w.ownsRow B 171 4 v gs.length (qA2 gs):=h;rcases h0.2 with⟨h',_⟩ | ⟨g,cap,cur,h',_,hg,_⟩
 .rw[h']at e;cases e
 .rw[h']at e;simp[Value.ownBlock]at e;subst e;rcases k.2 with⟨k',_⟩ | ⟨g',cap',cur',k',_,kg,_⟩
  .cases k'
  .simp at k';obtain⟨rfl,_⟩:=k';rw[hg]at kg;simp at kg
theorem qKd{w:World}{B gl n c:Nat}{L:List Int}(h:w.ownsRow B 2 1 (.slice (some ⟨gl,0,none⟩) n c) n (L.map (Value.int .i64))){k:Nat}{x:Int}(hx:L[k]?=some x)(hk:k<n):w.cell? ⟨gl,k,none⟩=some (iv x):=by
 rw[h.cellAt k (by omega)];simp[hx]
theorem qCx{L:List Int}{e f p:Int}{k m:Nat}(h:L[m]?=some p):qF8 e f k (L.take (m+1))=qF8 e f k (L.take m)++[⟨e,(k:Int),p,f⟩]:=by
 have hm:m<L.length:=by
  by_cases q:m<L.length
  .exact q
  .rw[gE (by omega)]at h;cases h
 have : L[m]=p:=by rw[gA hm]at h;exact gJ h
 rw[jR hm,this];simp[qF8]
theorem qIO(a:Option Addr)(n cap:Nat)(zs:List Int)(e f s:Int)(w:World)(h:qD0 w a n zs)(hcl:∀x∈zs,inR x 0 15=true)(hn:n<=4)(f0:1<=f)(f1:f<=4)(s0:0<=s)(s1:s<=255):
  CP 237 #[.slice a n cap,iv e,iv f,iv s] w fun r w'=>∃g c,r=.returned (.slice (some ⟨g,0,none⟩) (qB6 zs e f s n).length c)/\qB2 w' w.heap.size (.slice (some ⟨g,0,none⟩) (qB6 zs e f s n).length c) (qB6 zs e f s n)/\Below w.heap.size w w':=by
 obtain⟨i0,hi,hz0,hz1,hz2⟩:=jT Tryz.info171;have hn':(n:Int)<=4:=by omega
 have HZ:=hJJ h.1;have HK:=hJJ hcl;obtain⟨w1,hw1⟩:∃w1,w1=w.alloc (.cells #[] 171):=⟨_,rfl⟩;have hb1:Below w.heap.size w w1:=by rw[hw1];exact zN
 have HO1:Hid (qB2 w1 w.heap.size (.slice (some ⟨w.heap.size,0,none⟩) 0 0) []):=by rw[hw1];exact kH w #[] 0 (gB _) (gH _) rfl
 have HI1:Hid (qD0 w1 a n zs):=h.below hb1;have HB1:=hJJ hb1;have HAL0:Hid (∀b off,a=some ⟨b,off,none⟩->n=0\/b<w.heap.size):=qOB h;clear h hcl hb1;go_enter func237,ntmps237;go_wp2_with fail
 rw[<- hw1];clear hw1;refine (qAH s s0 s1 _).mono ?_;rintro r w2 ⟨gl,cl,rfl,hown2,hb2⟩;obtain⟨L,hL⟩:∃L,qB3 s 8=L:=⟨_,rfl⟩;rw[hL]at hown2 ⊢
 have hL8:L.length<=8:=by rw[<- hL];exact QA9 s 8
 have hL8':(L.length:Int)<=8:=by omega
 have HLL:=hJJ hL;have HIL:=hJJ hown2;have HAL:=hJJ HAL0.out;have HO2:Hid (qB2 w2 w.heap.size (.slice (some ⟨w.heap.size,0,none⟩) 0 0) []):=HO1.out.below hb2;have HI2:Hid (qD0 w2 a n zs):=HI1.out.below hb2;have HB2:Hid (Below w.heap.size w w2):=HB1.out.trans (hb2.mono HB1.out.size);have hsz2:w.heap.size<=w2.heap.size:=HB2.out.size;clear hown2 hb2 hL HO1 HI1 HB1;go_wp2;go_loopw [9,11] (fun v i wr=>∃k:Nat,k<=n/\i=iv (k:Int)/\qB2 wr w.heap.size v (qB6 zs e f s k)/\v≠.slice none 0 0/\Below w.heap.size w wr/\qD0 wr a n zs/\wr.ownsRow w1.heap.size 2 1 (.slice (some ⟨gl,0,none⟩) L.length cl) L.length (L.map (Value.int .i64))) (fun _ i _=>n-(intOf i).toNat)
 case atStart=>exact⟨0,gH _,rfl,HO2.out,by simp,HB2.out,HI2.out,HIL.out⟩
 case round =>
  obtain⟨k,hk,rfl,hown,hnn,hnx,hia,hil⟩:=hrel;have HO:=hJJ hown;have HNN:=hJJ hnn;have HNX:=hJJ hnx;have HIA:=hJJ hia;have HIL2:=hJJ hil;clear hown hnn hnx hia hil;by_cases hlt:k<n
  .have hlt':(k:Int)<(n:Int):=by omega
   obtain⟨x,hx⟩:∃x,zs[k]?=some x:=⟨_,gA (by rw[HZ.out];exact hlt)⟩;obtain⟨x0,x1⟩:=qON HK.out hx;have HX:=hJJ hx;obtain⟨t,ht⟩:∃t,qI8 x f=t:=⟨_,rfl⟩;have HT:=hJJ ht;clear hx ht;cases t
   .have HN:Hid (qB6 zs e f s (k+1)=qB6 zs e f s k):=by show qB6 zs e f s (k+1)=_;simp[qB6,qS9,HX.out,HT.out]
    go_wp2;go_loopw [9,12] (fun v j wq=>v=u9/\j=iv 0/\wq=wr) (fun _ _ _=>0)
    case atStart=>exact⟨rfl,rfl,rfl⟩
    case round =>
     obtain⟨rfl,rfl,rfl⟩:=hrel;by_cases hl0:0<L.length
     .have hl0':(0:Int)<(L.length:Int):=by omega
      obtain⟨b,off,y,e2,hy,c0,hbl⟩:=HIA.out.at hlt
      subst e2;rw[HX.out]at hy;cases hy;go_wp2_with (go_at_call 168;refine (qLY _ _ (by omega) (by omega) (by omega) (by omega) _).mono ?_;rintro e w' ⟨rfl,rfl⟩;rw[HT.out])
      exact⟨⟨k+1,by omega,by go_num,by rw[HN.out];exact HO.out,HNN.out,HNX.out,HIA.out,HIL2.out⟩,by simp[intOf];omega⟩
     .have hl0':¬ ((0:Int)<(L.length:Int)):=by omega
      go_wp2;exact⟨⟨k+1,by omega,by go_num,by rw[HN.out];exact HO.out,HNN.out,HNX.out,HIA.out,HIL2.out⟩,by simp[intOf];omega⟩
   .have HN:Hid (qB6 zs e f s (k+1)=qB6 zs e f s k++qF8 e f k L):=by show qB6 zs e f s (k+1)=_;simp[qB6,qS9,HX.out,HT.out,HLL.out]
    go_wp2;go_loopw [9,12] (fun v j wq=>∃m:Nat,m<=L.length/\j=iv (m:Int)/\qB2 wq w.heap.size v (qB6 zs e f s k++qF8 e f k (L.take m))/\v≠.slice none 0 0/\Below w.heap.size w wq/\qD0 wq a n zs/\wq.ownsRow w1.heap.size 2 1 (.slice (some ⟨gl,0,none⟩) L.length cl) L.length (L.map (Value.int .i64))) (fun _ j _=>L.length-(intOf j).toNat)
    case atStart=>exact⟨0,gH _,rfl,by simpa[qF8] using HO.out,HNN.out,HNX.out,HIA.out,HIL2.out⟩
    case round =>
     obtain⟨m,hm,rfl,hown,hnn,hnx,hia,hil⟩:=hrel;have HO3:=hJJ hown;have HNN3:=hJJ hnn;have HNX3:=hJJ hnx;have HIA3:=hJJ hia;have HIL3:=hJJ hil;clear hown hnn hnx hia hil HO HNN HNX HIA HIL2;by_cases hlm:m<L.length
     .obtain⟨b,off,y,e2,hy,c0,hbl⟩:=HIA3.out.at hlt
      rw[HX.out]at hy;cases hy;have hp:L[m]?=some L[m]:=gA hlm;generalize L[m]=p at hp;have c1:=qKd HIL3.out hp hlm;have hlm':(m:Int)<(L.length:Int):=by omega
      have HP:Hid (qB6 zs e f s k++qF8 e f k (L.take (m+1))=(qB6 zs e f s k++qF8 e f k (L.take m))++[⟨e,(k:Int),p,f⟩]):=by
       show qB6 zs e f s k++qF8 e f k (L.take (m+1))=_
       rw[qCx hp,List.append_assoc]
      have HLE:Hid ((qB6 zs e f s k++qF8 e f k (L.take m)).length<=40):=by
       show (qB6 zs e f s k++qF8 e f k (L.take m)).length<=40
       have:=qW0 zs e f s k;simp[qF8];omega
      generalize qB6 zs e f s k++qF8 e f k (L.take m)=es at HO3 HP HLE;have hsw:=HNX3.out.size;have HA:=hJJ e2;subst e2;clear hp;go_wp2_with (first | (go_at_call 168;refine (qLY _ _ (by omega) (by omega) (by omega) (by omega) _).mono ?_;rintro e w' ⟨rfl,rfl⟩;rw[HT.out]) | (at_builtin;refine jG _ rfl _ _ 113 rfl w.heap.size 171 i0 (.agg #[iv 0,iv 0,iv 0,iv 0]) 4 32 Tryz.under113 hi hz0 hz1 hz2 rfl (by decide) u9 (es.length) (qA2 es) rfl ?c0 ⟨_,0,none⟩ 1 1 [iv e,iv (k:Int),iv p,iv f] rfl rfl ?c1 ?c2 ?c3 ?c4 ?c5 ?_))
      case c0=>exact HO3.out.below (zN)
      case c1=>exact qCF _ _ (by first | rfl | simp) _ _ _ _ _
      case c2=>intro u hu;simp at hu;rcases hu with rfl|rfl|rfl|rfl <;> rfl
      case c3=>have:=HLE.out;unfold maxLen;omega
      case c4=>have:=HLE.out;omega
      case c5=>simp;omega
      .intro v' w' hown' hgrow hnil;have B0:Below wr.heap.size wr (wr.alloc (.cells #[iv e,iv (k:Int),iv p,iv f] 171)):=zN
       have hlt9:∀q,u9.ownBlock=some q->w.heap.size<=q:=fun q e9=>by
        have h0:wr.ownsRow w.heap.size 171 4 u9 es.length (qA2 es):=HO3.out;exact (h0.lt q e9).1
       have R1:Hid (qB2 w' w.heap.size v' (es++[⟨e,(k:Int),p,f⟩])):=qV9 (x:=⟨e,(k:Int),p,f⟩) hown';have R2:Hid (Below w.heap.size w w'):=QE5 (HO3.out.below B0) (HNX3.out.alloc hsw _) hgrow (by simp;omega);have R3:Hid (qD0 w' (some ⟨b,off,none⟩) n zs):=qGM (HIA3.out.below B0) hgrow HAL.out hlt9;have R4:Hid (w'.ownsRow w1.heap.size 2 1 (.slice (some ⟨gl,0,none⟩) L.length cl) L.length (L.map (Value.int .i64))):=World.ownsRow.kept (HIL3.out.alloc _) hgrow (.inr (fun q=>qKI HO3.out HIL3.out (by rw[<- q];rfl)));have hnn':v'≠.slice none 0 0:=by first | exact hnil | simpa using hnil
       clear hown' hgrow hnil B0 hlt9;go_wp2;exact⟨⟨m+1,by omega,by go_num,by rw[HP.out];exact R1.out,hnn',R2.out,R3.out,R4.out⟩,by simp[intOf];omega⟩
     .have hlm':¬ ((m:Int)<(L.length:Int)):=by omega
      have HE:Hid (qB6 zs e f s (k+1)=qB6 zs e f s k++qF8 e f k (L.take m)):=by show qB6 zs e f s (k+1)=_;rw[HN.out,gV (by omega)]
      go_wp2;exact⟨⟨k+1,by omega,by go_num,by rw[HE.out];exact HO3.out,HNN3.out,HNX3.out,HIA3.out,HIL3.out⟩,by simp[intOf];omega⟩
  .have hkn:k=n:=by omega
   subst hkn;obtain⟨g,c,e9⟩:=HO.out.shape HNN.out;subst e9;go_wp2;go_ret;exact⟨g,c,rfl,HO.out,HNX.out⟩
def qCA(gs:List LkI)(x:LkI):Nat:=(gs.takeWhile (fun y=>ltL y x)).length
theorem QY9{gs:List LkI}{x:LkI}:∀ {i:Nat},QS8 gs x i->(gs.takeWhile (fun y=>ltL y x)).length=i:=by
 induction gs with
 | nil=>intro i h;have:=h.1;simp at this;simp[this]
 | cons y ys ih =>
  intro i h;cases i with
  | zero =>
   have:=h.2.2 0 y (gB _) rfl;simp[List.takeWhile_cons,this]
  | succ i =>
   have h0:=h.2.1 0 y (by omega) rfl;have h1:QS8 ys x i:=⟨by have:=h.1;simp at this;omega,fun k z hk hz=>h.2.1 (k+1) z (by omega) (by simpa using hz),fun k z hk hz=>h.2.2 (k+1) z (by omega) (by simpa using hz)⟩;simp[List.takeWhile_cons,h0,ih h1]
theorem qDi{gs:List LkI}{x:LkI}{i:Nat}(h:QS8 gs x i):qCA gs x=i:=QY9 h
theorem qIr{gs:List LkI}(hs:SL gs)(x:LkI):QS8 gs x (qCA gs x):=by
 unfold qCA;induction gs with
 | nil=>exact⟨by simp,fun k y hk hy=>by simp at hy,fun k y hk hy=>by simp at hy⟩
 | cons y ys ih =>
  have hp:=jN.1 hs;have h1:=ih hp.2;cases q:ltL y x
  .simp only[List.takeWhile_cons,q];refine⟨by simp,fun k z hk hz=>by simp at hk,fun k z hk hz=>?_⟩;cases k with
   | zero=>simp at hz;rw[<- hz];exact q
   | succ k =>
    have hm:z∈ys:=gO (by simpa using hz);cases q2:ltL z x
    .rfl
    .rw[QG8 (hp.1 z hm) q2]at q;cases q
  .simp only[List.takeWhile_cons,q,if_true,jX];refine⟨by have:=h1.1;simp;omega,fun k z hk hz=>?_,fun k z hk hz=>?_⟩
   .cases k with
    | zero=>simp at hz;rw[<- hz];exact q
    | succ k=>exact h1.2.1 k z (by omega) (by simpa using hz)
   .cases k with
    | zero=>omega
    | succ k=>exact h1.2.2 k z (by omega) (by simpa using hz)
def QD6(gs:List LkI)(x:LkI):List LkI:=gs.take (qCA gs x)++x::gs.drop (qCA gs x)
theorem QG0(gs:List LkI)(x:LkI):(QD6 gs x).length=gs.length+1:=by
 unfold QD6;simp only[jD,jX,kI,kW];have : qCA gs x<=gs.length:=by unfold qCA;exact (List.takeWhile_prefix _).length_le
 omega
theorem QM0{gs:List LkI}{x y:LkI}:y∈QD6 gs x↔y=x\/y∈gs:=by
 unfold QD6;rw[kL,gX]
 have h:y∈gs↔y∈gs.take (qCA gs x)\/y∈gs.drop (qCA gs x):=by
  rw[<- kL,List.take_append_drop]
 rw[h];constructor
 .rintro (h | h | h)
  .exact .inr (.inl h)
  .exact .inl h
  .exact .inr (.inr h)
 .rintro (h | h | h)
  .exact .inr (.inl h)
  .exact .inl h
  .exact .inr (.inr h)
def qNU(x y:LkI):Prop:=x.e=y.e/\x.c=y.c/\x.p=y.p
theorem qIC{x y:LkI}(h:ltL x y=false)(hk:¬ qNU x y):ltL y x=true:=by
 unfold qNU at hk;simp only[ltL,jV,decide_eq_false_iff_not]at *
 omega
theorem qAS{gs:List LkI}(ho:∀x∈gs,okL x=true){t:LkI}:qE6 gs t.e t.c t.p=0↔∀x∈gs,¬ qNU x t:=by
 induction gs with
 | nil=>simp[qE6]
 | cons y ys ih =>
  have h1:=ih (fun x hx=>ho x (by simp[hx]));unfold qE6;by_cases q:y.e=t.e/\y.c=t.c/\y.p=t.p
  .rw[gK q];have hy:=ho y (by simp);simp[okL,inR]at hy;constructor
   .intro h;omega
   .intro h;exact absurd q (h y (by simp))
  .rw[gI q,h1];constructor
   .intro h x hx;rcases gX.1 hx with rfl | hx
    .exact q
    .exact h x hx
   .intro h x hx;exact h x (by simp[hx])
theorem qMW{gs:List LkI}(hs:SL gs)(ho:∀x∈gs,okL x=true){t:LkI}(h:qE6 gs t.e t.c t.p=0):SL (QD6 gs t):=by
 have hn:=(qAS ho).1 h;have hc:=qIr hs t;unfold SL QD6;have hlen:qCA gs t<=gs.length:=hc.1
 have hT:∀a∈gs.take (qCA gs t),ltL a t=true:=by
  intro a ha;obtain⟨k,hk⟩:=jW.1 ha;rw[jJ]at hk;split at hk
  .exact hc.2.1 k a (by assumption) hk
  .cases hk
 have hD:∀a∈gs.drop (qCA gs t),ltL t a=true:=by
  intro a ha;obtain⟨k,hk⟩:=jW.1 ha;rw[List.getElem?_drop]at hk;exact qIC (hc.2.2 _ a (by omega) hk) (hn a (gO hk))
 have hp:(gs.take (qCA gs t)++gs.drop (qCA gs t)).Pairwise (fun a b=>ltL a b=true):=by rw[List.take_append_drop];exact hs
 obtain⟨p1,p2,p3⟩:=List.pairwise_append.1 hp;refine List.pairwise_append.2 ⟨p1,jN.2 ⟨hD,p2⟩,fun a ha b hb=>?_⟩;rcases gX.1 hb with rfl | hb
 .exact hT a ha
 .exact p3 a ha b hb
theorem qW9(y:LkI)(ys:List LkI)(e c p:Int):qE6 (y::ys) e c p=if y.e=e/\y.c=c/\y.p=p then y.f else qE6 ys e c p:=rfl
theorem qBk(a b:List LkI)(e c p:Int):qE6 (a++b) e c p=if (∃x∈a,x.e=e/\x.c=c/\x.p=p) then qE6 a e c p else qE6 b e c p:=by
 induction a with
 | nil=>simp
 | cons y ys ih =>
  rw[List.cons_append,qW9,qW9];by_cases q:y.e=e/\y.c=c/\y.p=p
  .rw[gK q,gK ⟨y,by simp,q⟩,gK q]
  .rw[gI q,ih];by_cases r:∃x∈ys,x.e=e/\x.c=c/\x.p=p
   .rw[gK r,gK (by obtain⟨x,hx,h⟩:=r;exact⟨x,by simp[hx],h⟩),gI q]
   .rw[gI r,gI (by
     rintro⟨x,hx,h⟩;rcases gX.1 hx with hx | hx
     .subst hx;exact q h
     .exact r ⟨x,hx,h⟩)]
theorem qIj{gs:List LkI}{x t:LkI}(h:¬ qNU x t):qE6 (QD6 gs x) t.e t.c t.p=qE6 gs t.e t.c t.p:=by
 unfold qNU at h;unfold QD6;rw[qBk]
 have e1:qE6 (x::gs.drop (qCA gs x)) t.e t.c t.p=qE6 (gs.drop (qCA gs x)) t.e t.c t.p:=by
  rw[qW9,gI h]
 rw[e1,<- qBk,List.take_append_drop]
def qO2(locks all:List LkI)(x:LkI):Option (List LkI):=if qE6 locks x.e x.c x.p=0 then some (QD6 all x) else if qE6 locks x.e x.c x.p=x.f then some all else none
def qJ4(locks needs:List LkI):Nat->Option (List LkI)
 | 0=>some locks
 | k+1=>match qJ4 locks needs k with
  | none=>none
  | some all=>match needs[k]? with
   | none=>some all
   | some x=>qO2 locks all x
theorem qJ3{locks needs all:List LkI}{k:Nat}{x:LkI}(h:qJ4 locks needs k=some all)(hx:needs[k]?=some x):qJ4 locks needs (k+1)=qO2 locks all x:=by
 simp[qJ4,h,hx]
theorem qT9{locks needs:List LkI}{k m:Nat}(h:qJ4 locks needs k=none)(hm:k<=m):qJ4 locks needs m=none:=by
  induction m with
  | zero => obtain rfl:k=0:=by omega
            exact h
  | succ m ih =>
    by_cases e:k=m+1
    . subst e;exact h
    . simp[qJ4,ih (by omega)]
theorem QF8(locks all:List LkI)(x:LkI):(qE6 locks x.e x.c x.p=0/\qO2 locks all x=some (QD6 all x))\/(qE6 locks x.e x.c x.p≠0/\qE6 locks x.e x.c x.p=x.f/\qO2 locks all x=some all)\/(qE6 locks x.e x.c x.p≠0/\qE6 locks x.e x.c x.p≠x.f/\qO2 locks all x=none):=by
 unfold qO2;by_cases h0:qE6 locks x.e x.c x.p=0
 .exact .inl ⟨h0,by rw[gK h0]⟩
 .by_cases h1:qE6 locks x.e x.c x.p=x.f
  .exact .inr (.inl ⟨h0,h1,by rw[gI h0,gK h1]⟩)
  .exact .inr (.inr ⟨h0,h1,by rw[gI h0,gI h1]⟩)
structure TkS (locks needs:List LkI) (k:Nat) (all:List LkI):Prop where
 tk:qJ4 locks needs k=some all
 sl:SL all
 ok:∀x∈all,okL x=true
 len:all.length<=locks.length+k
 low:locks.length<=all.length
 same:∀j x,k<=j->needs[j]?=some x->qE6 all x.e x.c x.p=qE6 locks x.e x.c x.p
 old:∀x∈locks,x∈all
theorem TkS.zero{locks:List LkI}(needs:List LkI)(hs:SL locks)(ho:∀x∈locks,okL x=true):TkS locks needs 0 locks :=
 ⟨rfl,hs,ho,by omega,by omega,fun _ _ _ _=>rfl,fun _ h=>h⟩
theorem TkS.stay{locks needs all:List LkI}{k:Nat}{x:LkI}(h:TkS locks needs k all)(hx:needs[k]?=some x)(h0:qE6 locks x.e x.c x.p≠0)(h1:qE6 locks x.e x.c x.p=x.f):TkS locks needs (k+1) all :=
 ⟨by rw[qJ3 h.tk hx,qO2,gI h0,gK h1],h.sl,h.ok,by have:=h.len;omega,h.low,fun j y hj hy=>h.same j y (by omega) hy,h.old⟩
theorem TkS.put{locks needs all:List LkI}{k:Nat}{x:LkI}(h:TkS locks needs k all)(hn:SL needs)(hx:needs[k]?=some x)(hok:okL x=true)(h0:qE6 locks x.e x.c x.p=0):TkS locks needs (k+1) (QD6 all x):=by
 have hf:qE6 all x.e x.c x.p=0:=(h.same k x (gB _) hx).trans h0;refine⟨by rw[qJ3 h.tk hx,qO2,gK h0],qMW h.sl h.ok hf,fun y hy=>?_,by rw[QG0];have:=h.len;omega,by rw[QG0];have:=h.low;omega,fun j y hj hy=>?_,fun y hy=>QM0.2 (.inr (h.old y hy))⟩
 .rcases QM0.1 hy with rfl | hy
  .exact hok
  .exact h.ok y hy
 .have hkl:k<needs.length:=by
   by_cases q:k<needs.length
   .exact q
   .rw[gE (by omega)]at hx;cases hx
  have hjl:j<needs.length:=by
   by_cases q:j<needs.length
   .exact q
   .rw[gE (by omega)]at hy;cases hy
  have hlt:=jU.1 hn k j hkl hjl (by omega);rw[gA hkl]at hx;rw[gA hjl]at hy;rw[gJ hx,gJ hy]at hlt;rw[qIj (by unfold qNU;simp only[ltL,jV]at hlt;omega)];exact h.same j y (by omega) (by rw[gA hjl];exact hy)
theorem QQ1(s:Int):∀k,(qB3 s k).Pairwise (fun a b=>a<b)/\∀x∈qB3 s k,1<=x/\x<=(k:Int)
 | 0=>by simp[qB3]
 | k+1=>by
  obtain⟨h1,h2⟩:=QQ1 s k;unfold qB3;split
  .refine⟨List.pairwise_append.2 ⟨h1,by simp,fun a ha b hb=>?_⟩,fun x hx=>?_⟩
   .simp at hb;have:=h2 a ha;omega
   .rcases kL.1 hx with q | q
    .have:=h2 x q;omega
    .simp at q;omega
  .exact⟨h1,fun x hx=>by have:=h2 x hx;omega⟩
theorem qHv(e f:Int)(k:Nat){ps:List Int}(h:ps.Pairwise (fun a b=>a<b)):SL (qF8 e f k ps):=by
 unfold SL qF8;rw[List.pairwise_map];exact h.imp (fun {a b} q=>by simp[ltL,q])
theorem QP4{zs:List Int}{e f s:Int}{k:Nat}{x:LkI}(h:x∈qS9 zs e f s k):x.e=e/\x.c=(k:Int)/\(1<=x.p/\x.p<=8)/\x.f=f:=by
 unfold qS9 at h;split at h
 .simp only[qF8,kU]at h;obtain⟨p,hp,rfl⟩:=h;exact⟨rfl,rfl,(QQ1 s 8).2 p hp,rfl⟩
 .cases h
theorem QP2(zs:List Int)(e f s:Int):∀k,SL (qB6 zs e f s k)/\∀x∈qB6 zs e f s k,x.e=e/\(0<=x.c/\x.c<(k:Int))/\(1<=x.p/\x.p<=8)/\x.f=f
 | 0=>by simp[qB6,SL]
 | k+1=>by
  obtain⟨h1,h2⟩:=QP2 zs e f s k;unfold qB6;refine⟨List.pairwise_append.2 ⟨h1,?_,fun a ha b hb=>?_⟩,fun x hx=>?_⟩
  .unfold qS9;split
   .exact qHv e f k (QQ1 s 8).1
   .exact List.Pairwise.nil
  .have ga:=h2 a ha;have gb:=QP4 hb;simp only[ltL,jV];omega
  .rcases kL.1 hx with q | q
   .have:=h2 x q;omega
   .have:=QP4 q;omega
theorem qAC{zs:List Int}{e f s:Int}(h:qE5 zs e f s=0):SL (qB6 zs e f s zs.length)/\∀x∈qB6 zs e f s zs.length,okL x=true:=by
 obtain⟨h0,h1,h2,h3⟩:=QP1 h;obtain⟨u1,u2⟩:=QP2 zs e f s zs.length;refine⟨u1,fun x hx=>?_⟩;have hl:=(qGc h0).1;obtain⟨q1,q2,q3,q4⟩:=u2 x hx;rw[qD3]at h1 h2;simp only[okL,jY,qD3];omega
def qI9(locks needs:List LkI):Int:=match qJ4 locks needs needs.length with
 | none=>6
 | some all=>if 200<all.length then 2 else 0
def tkL(locks needs:List LkI):List LkI:=match qJ4 locks needs needs.length with
 | none=>[]
 | some all=>if 200<all.length then [] else all
theorem QF7{locks needs:List LkI}{k:Nat}(h:qJ4 locks needs k=none)(hk:k<=needs.length):qI9 locks needs=6/\tkL locks needs=[]:=by
 have:=qT9 h hk;simp[qI9,tkL,this]
theorem QY8{locks needs all:List LkI}(h:qJ4 locks needs needs.length=some all)(hm:200<all.length):qI9 locks needs=2/\tkL locks needs=[]:=by
 simp[qI9,tkL,h,hm]
theorem QI4{locks needs all:List LkI}(h:qJ4 locks needs needs.length=some all)(hm:¬ 200<all.length):qI9 locks needs=0/\tkL locks needs=all:=by
 simp[qI9,tkL,h,hm]
theorem qDT{gs:List LkI}(hs:SL gs)(ho:∀x∈gs,okL x=true){t:LkI}{i:Nat}{b:Bool}(h:QS8 gs t i)(hb:b=true↔∃x,gs[i]?=some x/\cfL x t=0):(b=false/\qE6 gs t.e t.c t.p=0)\/(b=true/\∃x,gs[i]?=some x/\qE6 gs t.e t.c t.p=x.f/\x.f≠0):=by
 have hf:=qFn hs h;cases b
 .refine .inl ⟨rfl,?_⟩;rw[hf];cases hi:gs[i]? with
  | none=>rfl
  | some x =>
   show (if cfL x t=0 then x.f else 0)=0
   rw[gI];intro q;have:=hb.2 ⟨x,hi,q⟩;cases this
 .obtain⟨x,hx,q⟩:=hb.1 rfl;refine .inr ⟨rfl,x,hx,?_,?_⟩
  .rw[hf,hx];show (if cfL x t=0 then x.f else 0)=x.f
   rw[gK q]
  .have:=ho x (gO hx);simp[okL,inR]at this;omega
theorem qDW(a:List LkI):∀k,qA2 (a.take k)=(qA2 a).take (k*4):=by
 induction a with
 | nil=>intro k;simp[qA2]
 | cons p ps ih =>
  intro k;cases k with
  | zero=>simp[qA2]
  | succ k =>
   rw[show (k+1)*4=k*4+1+1+1+1 by omega];simp[qA2,ih]
theorem qDX(a:List LkI):∀k,qA2 (a.drop k)=(qA2 a).drop (k*4):=by
 induction a with
 | nil=>intro k;simp[qA2]
 | cons p ps ih =>
  intro k;cases k with
  | zero=>simp
  | succ k =>
   rw[show (k+1)*4=k*4+1+1+1+1 by omega];simp[qA2,ih]
theorem qCu{w w':World}{B Bd g n cap k:Nat}{gs:List LkI}(hz:n=gs.length)(h:qB2 w B (.slice (some ⟨g,0,none⟩) n cap) gs)(hg:g<Bd)(hb:Below Bd w w')(hk:k<=n):∀j u,(qA2 (gs.take k))[j]?=some u->w'.cell? ((⟨g,0,none⟩:Addr).add j)=some u:=by
 intro j u hj;subst hz;have h0:w.ownsRow B 171 4 (.slice (some ⟨g,0,none⟩) gs.length cap) gs.length (qA2 gs):=h
 have hjl:j<k*4:=by
  by_cases q:j<k*4
  .exact q
  .rw[gE (by rw[qG0,kI];omega)]at hj;cases hj
 rw[gR,gG,hb.cell (p:=⟨g,j,none⟩) hg,h0.cellAt j (by omega)];rw[qDW,jJ,gK hjl]at hj;exact hj
theorem qCv{w w':World}{B Bd g n cap k:Nat}{gs:List LkI}(hz:n=gs.length)(h:qB2 w B (.slice (some ⟨g,0,none⟩) n cap) gs)(hg:g<Bd)(hb:Below Bd w w')(hk:k<=n):∀j u,(qA2 (gs.drop k))[j]?=some u->w'.cell? ((⟨g,k*4,none⟩:Addr).add j)=some u:=by
 intro j u hj;subst hz;have h0:w.ownsRow B 171 4 (.slice (some ⟨g,0,none⟩) gs.length cap) gs.length (qA2 gs):=h
 have hjl:j<(gs.length-k)*4:=by
  by_cases q:j<(gs.length-k)*4
  .exact q
  .rw[gE (by rw[qG0,kW];omega)]at hj;cases hj
 rw[gR,hb.cell (p:=⟨g,k*4+j,none⟩) hg,h0.cellAt (k*4+j) (by omega)];rw[qDX,List.getElem?_drop]at hj;exact hj
theorem qU3{w:World}{b:Nat}{v:Value}{n:Nat}{xs:List Value}(h:w.ownsRow b 171 4 v n xs)(hv:v≠.slice none 0 0):∃g cap,v=.slice (some ⟨g,0,none⟩) n cap:=by
 rcases h.2 with⟨h',_⟩ | ⟨g,cap,cur,h',_⟩
 .exact absurd h' hv
 .exact⟨g,cap,h'⟩
theorem kpL{B:Nat}{w w':World}(hb:Below B w w'):(∀b o,b<B->w'.cell? ⟨b,o,none⟩=w.cell? ⟨b,o,none⟩)/\Below B w w' :=
 ⟨fun b o h=>hb.cell (p:=⟨b,o,none⟩) h,hb⟩
theorem qL8{P:Program}{w:World}{ops:Array Oper}{o:Oper}{a:Act}{K:Act->World->Prop}{Q:Exit->Act->World->Prop}{E:Prop}(hgd:o.guard=none)(s x:Operand)(t:TypeId)(ho:o.op=.call { callee:=.builtin .append,args:=#[s,x],argTypes:=#[t,t] })(base:Nat)(e:TypeId)(i:TypeInfo)(z:Value)(size bytes:Nat)(ht:P.underlying t=some (.slice e))(hi:P.info? e=some i)(hz:i.zero=some z)(hsize:i.size=size)(hby:i.bytes=bytes)(hzs:z.cells.size=size)(hsz:0<size)(v:Value)(n:Nat)(xs:List Value)(hs:a.eval s=v)(hown:w.ownsRow base e size v n xs)(ad:Addr)(m c:Nat)(news:List Value)(hx:a.eval x=.slice (some ad) m c)(hl:news.length=m*size)(hnews:∀j u,news[j]?=some u->w.cell? (ad.add j)=some u)(h1:∀u∈news,u.oneCell'=true)(h63:n+m<=maxLen)(hbytes:(n+m)*bytes<=140737488355328)(hbase:base<=w.heap.size)(h:∀v' w',w'.ownsRow base e size v' (n+m) (xs++news)->w.grownBy w' v.ownBlock->(v'=.slice none 0 0↔v=.slice none 0 0/\m=0)->K (a.put o.dst v') w'):
  if Region.wanted o (yielded ops a.tmps)=true then Oper.wp P o a w K Q else E:=by
 have hw:Region.wanted o (yielded ops a.tmps)=true:=by simp[Region.wanted,hgd]
 rw[gK hw];exact wp_append_own w s x t ho base e i z size bytes ht hi hz hsize hby hzs hsz v n xs hs hown ad m c news hx hl hnews h1 h63 hbytes hbase h
theorem qIN(B g n cap:Nat)(gs:List LkI)(x:LkI)(w:World)(hz:n=gs.length)(hn:n<=1000)(h:qB2 w B (.slice (some ⟨g,0,none⟩) n cap) gs)(hs:SL gs)(hB:B<=w.heap.size):
  CP 252 #[.slice (some ⟨g,0,none⟩) n cap,.agg #[iv x.e,iv x.c,iv x.p,iv x.f]] w fun e w'=>∃(g' cap':Nat),e=.returned (.slice (some ⟨g',0,none⟩) (n+1) cap')/\qB2 w' w.heap.size (.slice (some ⟨g',0,none⟩) (n+1) cap') (QD6 gs x)/\Below w.heap.size w w':=by
 have HO:=hJJ h;have HZ:=hJJ hz;have HS:=hJJ hs
 have hgl:g<w.heap.size:=by
  rcases h.form with⟨h1,_⟩ | ⟨g',cap',h1,_,h3,_⟩
  .simp at h1
  .simp at h1;omega
 have hcap:n<=cap/\cap<=maxLen:=by
  rcases h.form with⟨h1,_⟩ | ⟨g',cap',h1,_,h3,h4,h5⟩
  .simp at h1
  .simp at h1;omega
 have HIN:Hid (qJ9 w (some ⟨g,0,none⟩) n gs):=(h.view).isIn hz.symm;clear h hz hs;obtain⟨i0,hi,hz0,hz1,hz2⟩:=jT Tryz.info171;have hn':(n:Int)<=1000:=by omega
 have hcn:(n:Int)<=(cap:Int):=by omega
 obtain⟨W,hW⟩:∃W,W=w.alloc (.cells #[iv x.e,iv x.c,iv x.p,iv x.f] 171):=⟨_,rfl⟩;have HW:=hJJ hW;have hzW:W.heap.size=w.heap.size+1:=by rw[hW];simp
 have B0:Hid (Below w.heap.size w W):=by rw[hW];exact zN
 have R0:Hid (QF3 W w.heap.size 0 x):=by rw[hW];simp[Hid,QF3]
 clear hW;go_enter func252,ntmps252;go_upto_block 0 with fail
 go_cut [5] (fun s5 wx=>∃(k:Nat) (w5:World),w5=wx/\k<=n/\s5=iv (k:Int)/\QS8 gs x k/\Below W.heap.size W w5)
 case first =>
  go_wp2_with fail
  rw[<- HW.out];go_loopw [5] (fun i wr=>∃k:Nat,k<=n/\i=iv (k:Int)/\(∀j y,j<k->gs[j]?=some y->ltL y x=true)/\Below W.heap.size W wr) (fun i _=>n-(intOf i).toNat)
  case atStart=>exact⟨0,gH _,rfl,fun j y hj=>by omega,gC _ _⟩
  case round =>
   obtain⟨k,hk,rfl,hlo,hbr⟩:=hrel;have HL:=hJJ hlo;have HBR:=hJJ hbr;have hzr:=hbr.size;clear hlo;by_cases hlt:k<n
   .have hlt':decide ((k:Int)<(n:Int))=true:=by simp;omega
    have hltk:(k:Int)<(n:Int):=by omega
    obtain⟨b1,o1,y,e1,hy,hr,hb1⟩:=HIN.out.at hlt
    obtain⟨c0,c1,c2,c3⟩:=(hr.below B0.out hb1).below hbr (by omega);cases e1;obtain⟨r0,r1,r2,r3⟩:=R0.out.below hbr (by omega);simp only[gG]at r0 r1 r2 r3 c0 c1 c2 c3;have HY:=hJJ hy;clear hy hbr hr;obtain⟨t,ht⟩:∃t,ltL y x=t:=⟨_,rfl⟩;have HA:Hid (∀w:World,CP 271 #[.agg #[iv y.e,iv y.c,iv y.p,iv y.f],.agg #[iv x.e,iv x.c,iv x.p,iv x.f]] w fun e w'=>e=.returned (.bool t)/\Below w.heap.size w w'):=fun w=>by rw[<- ht];exact qIP y x w
    have HT:=hJJ ht;clear ht;have hwr:w.heap.size<wr.heap.size:=by omega
    have hgr:g<wr.heap.size:=by omega
    go_wp2_with fail
    go_region_held3 (fun w'=>(∀b o,b<wr.heap.size->w'.cell? ⟨b,o,none⟩=wr.cell? ⟨b,o,none⟩)/\Below wr.heap.size wr w') (first | exact hS | exact qA8 _)
     (first | (go_at_call 271;refine (HA.out _).mono ?_;rintro e w' ⟨rfl,hb9⟩;have hS:=qA0 (by assumption) hb9))
    cases t
    .go_wp2_with fail
     go_meet
     case rel=>exact⟨k,_,rfl,hk,rfl,⟨by rw[<- HZ.out];exact hk,HL.out,qLd HS.out HY.out HT.out⟩,HBR.out.trans (hS.2.mono hzr)⟩
    .go_wp2;exact⟨⟨k+1,by omega,by go_num,qLc HS.out HY.out HT.out,HBR.out.trans (hS.2.mono hzr)⟩,by simp[intOf];omega⟩
   .have hkn:k=n:=by omega
    subst hkn;have hlt':decide ((k:Int)<(k:Int))=false:=by simp
    go_wp2_with fail
    go_quiet (fail)
    go_wp2_with fail
    go_meet
    case rel=>exact⟨k,_,rfl,gB _,rfl,⟨by rw[<- HZ.out];exact gB _,HL.out,fun j y hj hy=>by rw[gE (by rw[<- HZ.out];exact hj)]at hy;cases hy⟩,below_drewN HBR.out _⟩
 case rest =>
  obtain⟨k,w5,rfl,hk,rfl,hcutk,hb5⟩:=hcut;have HCUT:=hJJ hcutk;have BW:Hid (Below w.heap.size w w5):=B0.out.trans (hb5.mono (by omega));obtain⟨r0,r1,r2,r3⟩:=R0.out.below hb5 (by omega);simp only[gG]at r0 r1 r2 r3;have hz5:=hb5.size;clear hcutk hb5;have hw5:w.heap.size<w5.heap.size:=by omega
  have H5:Hid ((w5.alloc (.cells #[] 171)).ownsRow w5.heap.size 171 4 (.slice (some ⟨w5.heap.size,0,none⟩) 0 0) 0 []):=kH (base:=w5.heap.size) (e:=171) (size:=4) w5 #[] 0 (gB _) (gH _) rfl;have hkc:(k:Int)<=(cap:Int):=by omega
  have hkn:(k:Int)<=(n:Int):=by omega
  have hk0:(0:Int)<=(k:Int):=by omega
  go_wp2_with (first
   | (at_builtin;refine jG _ rfl _ _ 113 rfl w5.heap.size 171 i0 (.agg #[iv 0,iv 0,iv 0,iv 0]) 4 32 underlying113 hi hz0 hz1 hz2 rfl (by decide) (.slice (some ⟨w5.heap.size,0,none⟩) 0 0) 0 [] rfl H5.out ⟨g,0,none⟩ k cap (qA2 (gs.take k)) rfl (by rw[qG0,kI,<- HZ.out];omega) (qCu HZ.out HO.out hgl (BW.out.alloc (by omega) _) hk) (qO6 _) (by unfold maxLen;omega) (by omega) (by simp) ?_))
  intro v6 w6 hown6 hgrow6 hnil6;obtain⟨g6,cap6,hv6⟩:=qU3 hown6 hnil6;subst hv6
  have H6:Hid (w6.ownsRow w5.heap.size 171 4 (.slice (some ⟨g6,0,none⟩) k cap6) k (qA2 (gs.take k))):=by
   have h0:=hown6;try simp only[gG,kR]at h0
   exact h0
  have BW6:Hid (Below w.heap.size w w6):=(BW.out.alloc (by omega) _).grown hgrow6 (by simp;omega) (fun q e=>by simp[Value.ownBlock]at e;omega);have hz6:w5.heap.size+1<=w6.heap.size:=by have:=hgrow6.size;simp at this;omega
  have s0:w6.cell? ⟨w.heap.size,0,none⟩=some (iv x.e):=hgrow6.cell ((World.cell?_alloc_past _ _ _ (by show w.heap.size<w5.heap.size;omega)).trans r0) (by simp[Value.ownBlock];omega);have s1:w6.cell? ⟨w.heap.size,1,none⟩=some (iv x.c):=hgrow6.cell ((World.cell?_alloc_past _ _ _ (by show w.heap.size<w5.heap.size;omega)).trans r1) (by simp[Value.ownBlock];omega);have s2:w6.cell? ⟨w.heap.size,2,none⟩=some (iv x.p):=hgrow6.cell ((World.cell?_alloc_past _ _ _ (by show w.heap.size<w5.heap.size;omega)).trans r2) (by simp[Value.ownBlock];omega);have s3:w6.cell? ⟨w.heap.size,3,none⟩=some (iv x.f):=hgrow6.cell ((World.cell?_alloc_past _ _ _ (by show w.heap.size<w5.heap.size;omega)).trans r3) (by simp[Value.ownBlock];omega);clear hown6 hgrow6 hnil6 H5 r0 r1 r2 r3;go_wp2_with fail
  refine gL (S:=(fun w'=>(∀b o,b<w5.heap.size->w'.cell? ⟨b,o,none⟩=w6.cell? ⟨b,o,none⟩)/\Below w5.heap.size w6 w')) (by kernel_rfl) (kpL ⟨rfl,rfl,rfl,gB _,fun _ _=>rfl⟩) (fun hHeld=>?_);refine Zk.go [0,1,4,5,6] ?_
  iterate 5
   refine Zk.st (v:=?_) rfl ?_ ?_;rotate_left 1
   .intro w hSw;(try dsimp only at hSw);go_simp;try (with_reducible rfl)
   try simp only[Act.put,zA,zB,zC,zD,zE,zF]
  refine Zk.fin ?_;refine Zk.rd (i:=2) rfl (fun K hK=>?_);go_simp;have hS:=kpL (hHeld.2.alloc (by show w5.heap.size<=w6.heap.size;omega) (.cells #[iv x.e,iv x.c,iv x.p,iv x.f] 171));refine hK.out _ _ hS (fun hHeld=>?_);clear hK K;try simp only[Act.put,zA,zB,zC,zD,zE,zF]
  refine wpAnyH_ready (rs:=[3]) (by kernel_rfl) (by simp) ?_;refine kC rfl (fun K hK=>?_) mB;refine qL8 rfl (.tmp 26) (.tmp 28) 113 rfl w5.heap.size 171 i0 (.agg #[iv 0,iv 0,iv 0,iv 0]) 4 32 underlying113 hi hz0 hz1 hz2 rfl (by decide) (.slice (some ⟨g6,0,none⟩) k cap6) k (qA2 (gs.take k)) (by rfl) (H6.out.alloc _) ⟨w6.heap.size,0,none⟩ 1 1 [iv x.e,iv x.c,iv x.p,iv x.f] (by rfl) (by rfl) (fun j u hj=>by match j,hj with | 0,hj=>simp at hj;subst hj;simp[Addr.add] | 1,hj=>simp at hj;subst hj;simp[Addr.add] | 2,hj=>simp at hj;subst hj;simp[Addr.add] | 3,hj=>simp at hj;subst hj;simp[Addr.add]) (fun u hu=>by simp at hu;rcases hu with rfl|rfl|rfl|rfl <;> rfl) (by unfold maxLen;omega) (by omega) (by show w5.heap.size<=(w6.alloc _).heap.size;simp;omega) ?_;intro v7 w7 hown7 hgrow7 hnil7;have hS:=kpL (hHeld.2.grown hgrow7 (by show w5.heap.size<=(w6.alloc _).heap.size;simp;omega) (fun q e=>by have:=(H6.out.lt q e).1;omega));have H7:=hJJ hown7;have N7:Hid (v7≠.slice none 0 0):=fun e=>by have:=(hnil7.1 e).1;simp at this
  clear hown7 hnil7 hgrow7;refine hK.out _ _ hS (fun hHeld=>?_);clear hK K;try simp only[Act.put,zA,zB,zC,zD,zE,zF]
  refine wpAnyH_ready (rs:=[7]) (by kernel_rfl) (by simp) ?_;refine kC rfl (fun K hK=>?_) mB;have hsl:(if cap=k then (some ⟨g,0,none⟩:Option Addr) else some ⟨g,k*4,none⟩)=some (if cap=k then ⟨g,0,none⟩ else ⟨g,k*4,none⟩):=by split <;> rfl
  have hnw:∀j u,(qA2 (gs.drop k))[j]?=some u->w7.cell? ((if cap=k then (⟨g,0,none⟩:Addr) else ⟨g,k*4,none⟩).add j)=some u:=by
   by_cases hck:cap=k
   .intro j u hj;rw[jH (by rw[<- HZ.out];omega)]at hj;simp[qA2]at hj
   .rw[gI hck];exact qCv HZ.out HO.out hgl (BW6.out.trans (hHeld.2.mono (by omega))) hk
  refine qL8 rfl (.tmp 29) (.tmp 32) 113 rfl w5.heap.size 171 i0 (.agg #[iv 0,iv 0,iv 0,iv 0]) 4 32 underlying113 hi hz0 hz1 hz2 rfl (by decide) v7 (k+1) (qA2 (gs.take k)++[iv x.e,iv x.c,iv x.p,iv x.f]) (by rfl) H7.out _ (n-k) (cap-k) (qA2 (gs.drop k)) (by rw[<- hsl];rfl) (by rw[qG0,kW,HZ.out]) hnw (qO6 _) (by unfold maxLen;omega) (by omega) (by have h1:=hHeld.2.size;omega) ?_;intro v8 w8 hown8 hgrow8 hnil8;have hS:=kpL (hHeld.2.grown hgrow8 (by have h1:=hHeld.2.size;omega) (fun q e=>by have:=(H7.out.lt q e).1;omega));have H8:=hJJ hown8;have N8:Hid (v8≠.slice none 0 0):=fun e=>N7.out (hnil8.1 e).1
  clear hown8 hnil8 hgrow8;refine hK.out _ _ hS (fun hHeld=>?_);clear hK K;try simp only[Act.put,zA,zB,zC,zD,zE,zF]
  refine Zk.rd (i:=8) rfl (fun K hK=>?_);go_simp;refine hK.out _ _ (by assumption) (fun hHeld=>?_);clear hK K;try simp only[Act.put,zA,zB,zC,zD,zE,zF]
  refine gZ (by kernel_rfl) ?_ _;obtain⟨g8,cap8,hv8⟩:=qU3 H8.out N8.out;subst hv8;have BF:Hid (Below w.heap.size w w8):=BW6.out.trans (hHeld.2.mono (by omega));have E3:Hid (k+1+(n-k)=n+1):=by show k+1+(n-k)=n+1;omega
  have HF:Hid (qB2 w8 w.heap.size (.slice (some ⟨g8,0,none⟩) (n+1) cap8) (QD6 gs x)):=by
   have h8:=H8.out;rw[E3.out]at h8;have e1:qA2 (QD6 gs x)=qA2 (gs.take k)++[iv x.e,iv x.c,iv x.p,iv x.f]++qA2 (gs.drop k):=by unfold QD6;rw[qDi HCUT.out,qR7];simp[qA2]
   refine qB0 (B:=w5.heap.size) ?_ (by omega);show World.ownsRow _ w5.heap.size 171 4 _ (QD6 gs x).length (qA2 (QD6 gs x))
   rw[e1,QG0,<- HZ.out];exact h8
  clear hsl hnw H8 N8 H7 N7 hHeld;go_wp2_with fail
  all_goals
   go_ret;exact⟨g8,cap8,by show Ending.returned (Value.slice (some ⟨g8,0,none⟩) (k+1+(n-k)) cap8)=_;rw[E3.out],HF.out,BF.out⟩
section
open Go.RowKit Go.Shelf
attribute [local go_sem] Oper.semAt_some
attribute [local go_sem] QN1
set_option linter.unusedVariables false
set_option linter.unusedSimpArgs false
theorem qLN(s:Int)(w:World):CP 165 #[iv s] w fun e w'=>e=.returned (iv (if inR s 0 255=true then 0 else 3))/\w=w':=by
 by_cases q0:s<0
 .rw[gI (by simp[inR];omega)];go_enter func165,ntmps165;go_wp2;go_ret;exact⟨rfl,rfl⟩
 .by_cases q1:256<=s
  .rw[gI (by simp[inR];omega)];go_enter func165,ntmps165;go_wp2;go_ret;exact⟨rfl,rfl⟩
  .rw[gK (by simp[inR];omega)];go_enter func165,ntmps165;go_wp2;go_ret;exact⟨rfl,rfl⟩
abbrev mkD(D:Nat):Deferred:={ target:=.collected D,args:=#[] }
def qJL(B:Nat)(Ds:List Nat)(W:World):Prop:=Ds.Nodup/\∀D∈Ds,B<D/\W.heap[D]?=some (.deferred (some []))
theorem QJ9{F:Fence}{n:Nat}{P:Program}{fn:Func}{tmps:Array Value}{R:Ending->World->Prop}{B:Nat}{S:World->Prop}(hS:∀W D,S W->B<D->W.heap[D]?=some (.deferred (some []))->S (W.putObj D (.deferred none)))(hR:∀W,S W->LeavesIn F n P fn tmps R [] .returning W):∀(Ds:List Nat) (W:World),qJL B Ds W->S W->LeavesInM F n P fn tmps R (Ds.map mkD) .returning W
 | [],W,_,h=>hR W h
 | D::Ds,W,hm,h=>by
  obtain⟨hnd,hall⟩:=hm;obtain⟨hD,hK⟩:=hall D (by simp);refine⟨by simp,.inl ⟨D,_,rfl,run_takeDeferred hK,?_⟩⟩;refine QJ9 hS hR Ds _ ⟨(List.nodup_cons.1 hnd).2,fun E hE=>⟨(hall E (by simp[hE])).1,?_⟩⟩ (hS W D h hD hK);have hne:E≠D:=fun q=>(List.nodup_cons.1 hnd).1 (q ▸ hE)
  exact (World.putObj_heap_other hne).trans (hall E (by simp[hE])).2
structure NI (w W:World) (e f:Int) (es:List LkI) (Ds:List Nat):Prop where
 be:Boxed W w.heap.size 2 (.int .i64 e)
 bf:Boxed W (w.heap.size+1) 2 (.int .i64 f)
 rs:W.heap[w.heap.size+1+1]?=some (.cells #[.int .i64 0,.slice none 0 0] 272 (0,0))
 nb:∃v,Boxed W (w.heap.size+1+1+1) 113 v/\W.ownsRow (w.heap.size+1+1+1) 171 4 v es.length (qA2 es)
 bl:Below w.heap.size w W
 mq:qJL (w.heap.size+1+1+1) Ds W
theorem NI.box{w W:World}{e f:Int}{es:List LkI}{Ds:List Nat}(h:NI w W e f es Ds)(o:Obj):NI w (W.alloc o) e f es Ds:=by
 obtain⟨v,hv,hr⟩:=h.nb;have hb:Below W.heap.size W (W.alloc o):=zN;exact⟨h.be.alloc o,h.bf.alloc o,(hb.block _ (by have:=(gN.1 h.rs).1;omega)).trans h.rs,⟨v,hv.alloc o,hr.alloc o⟩,h.bl.alloc h.bl.size o,h.mq.1,fun D hD=>⟨(h.mq.2 D hD).1,(hb.block _ (gN.1 (h.mq.2 D hD).2).1).trans (h.mq.2 D hD).2⟩⟩
def qCN(fn:Nat)(a:Option Addr)(n cap:Nat)(ep fo se c:Int)(ys:List LkI)(w:World):Prop:=Calls prog fn #[.slice a n cap,iv ep,iv fo,iv se] w fun r w'=>∃(a':Option Addr) (cap':Nat),r=.returned (.agg #[iv c,.slice a' ys.length cap'])/\qB2 w' w.heap.size (.slice a' ys.length cap') ys/\Below w.heap.size w w'
theorem qDQ(rm:Nat)(hrm:3<=rm)(a:Option Addr)(n cap:Nat)(zs:List Int)(e f s:Int)(w:World)(h:qD0 w a n zs)(hc:qE5 zs e f s=0):
  CallsIn Fence.wide rm prog 289 #[.slice a n cap,iv e,iv f,iv s] w fun r w'=>∃(a':Option Addr) (cap':Nat),r=.returned (.agg #[iv 0,.slice a' (qB6 zs e f s n).length cap'])/\qB2 w' w.heap.size (.slice a' (qB6 zs e f s n).length cap') (qB6 zs e f s n)/\Below w.heap.size w w':=by
 have h1:1<=rm:=by omega
 obtain⟨hcl,he,hf,hs⟩:=QP1 hc;have HC:=hJJ hcl;have HE:=hJJ he;have HF:=hJJ hf;have HS:=hJJ hs;obtain⟨f0,f1⟩:=(qD3 _ _ _).1 hf;obtain⟨s0,s1⟩:=(qD3 _ _ _).1 hs;have HZ:=hJJ h.1;have hn:n<=4:=by rw[<- HZ.out];exact (qGc hcl).1
 have HK:Hid (∀x∈zs,inR x 0 15=true):=(qGc hcl).2;have hn':(n:Int)<=4:=by omega
 have hs2:s<(256:Int):=by omega
 obtain⟨i0,hi,hz0,hz1,hz2⟩:=jT Tryz.info171;have HI1:Hid (qD0 (((w.alloc (.cells #[iv e] 2)).alloc (.cells #[iv f] 2)).alloc (.cells #[iv 0,.slice none 0 0] 272)) a n zs):=h.below ((((gC _ w).alloc (gB _) _).alloc (by simp) _).alloc (by simp;omega) _);have h0:=h;clear hcl he hf hs hc h;refine callsIn_of_wp_marks func289 rfl trivial ?_ rfl;simp only[ntmps289,kO,jX,List.length_nil,Nat.reduceAdd,Nat.reduceSub,Array.replicate_succ,Array.replicate_zero,List.push_toArray,List.append_toArray,kR,List.cons_append];gi_wp2_with (first | (gi_at_call 202;refine (callsIn_wide.2 (qF9 _ _ _ zs _ HI1.out)).mono ?_;rintro r w' ⟨rfl,rfl⟩;rw[HC.out]) | (gi_at_call 163;refine (callsIn_wide.2 (qI4 _ _)).mono ?_;rintro r w' ⟨rfl,rfl⟩;rw[HE.out]) | (gi_at_call 164;refine (callsIn_wide.2 (QE7 _ _)).mono ?_;rintro r w' ⟨rfl,rfl⟩;rw[HF.out]) | (gi_at_call 165;refine (callsIn_wide.2 (qLN _ _)).mono ?_;rintro r w' ⟨rfl,rfl⟩;rw[HS.out,gK rfl]))
 have hI0:NI w ((((w.alloc (.cells #[iv e] 2)).alloc (.cells #[iv f] 2)).alloc (.cells #[iv 0,.slice none 0 0] 272)).alloc (.cells #[.slice none 0 0] 113)) e f (qB6 zs e f s 0) []:=by
  have b1:=Boxed.new w 2 (iv e);have b2:=Boxed.new (w.alloc (.cells #[iv e] 2)) 2 (iv f);rw[jC]at b2;have b3:=World.alloc_heap_new ((w.alloc (.cells #[iv e] 2)).alloc (.cells #[iv f] 2)) (.cells #[iv 0,.slice none 0 0] 272);rw[jC,jC]at b3;have b4:=Boxed.new (((w.alloc (.cells #[iv e] 2)).alloc (.cells #[iv f] 2)).alloc (.cells #[iv 0,.slice none 0 0] 272)) 113 (.slice none 0 0);rw[jC,jC,jC]at b4;exact⟨((b1.alloc _).alloc _).alloc _,(b2.alloc _).alloc _,(Below.heap_alloc _ _ _ (by simp)).trans b3,⟨_,b4,jB _ _ _ _⟩,((((gC _ w).alloc (gB _) _).alloc (by simp) _).alloc (by simp;omega) _).alloc (by simp;omega) _,by simp,fun D hD=>by simp at hD⟩
 have HIN:=hJJ h0;generalize (((w.alloc (.cells #[iv e] 2)).alloc (.cells #[iv f] 2)).alloc (.cells #[iv 0,.slice none 0 0] 272)).alloc (.cells #[.slice none 0 0] 113)=W0 at hI0 ⊢
 clear HI1 HC HE HF HS h0;refine wpIn_loop (fun a' W=>∃(k:Nat) (Ds:List Nat) (u11 u12 u13 u37 u38 u39 u40 u41 u42 u43 u44 u45 u46 u47 u48 u49 u50 u51 u52 u53 u54 u55 u56 u57:Value),k<=n/\a' = { tmps:=#[.slice a n cap,iv e,iv f,iv s,undef,.pointer (some ⟨w.heap.size,0,none⟩),.pointer (some ⟨w.heap.size+1,0,none⟩),undef,.pointer (some ⟨w.heap.size+1+1,0,none⟩),iv 0,.pointer (some ⟨w.heap.size+1+1+1,0,none⟩),u11,u12,u13,.slice a n cap,iv 0,iv 0,.bool false,undef,undef,iv e,.bool true,.bool false,.bool false,iv f,.bool true,.bool false,.bool false,.bool false,iv s,iv 0,.bool false,.bool false,undef,.slice a n cap,iv (n:Int),iv (k:Int),u37,u38,u39,u40,u41,u42,u43,u44,u45,u46,u47,u48,u49,u50,u51,u52,u53,u54,u55,u56,u57,undef,undef],defers:=Ds.map mkD }/\NI w W e f (qB6 zs e f s k) Ds) (fun a' _=>n-(intOf (a'.tmps.getD 36 undef)).toNat) ⟨0,[],_,_,_,_,_,_,_,_,_,_,_,_,_,_,_,_,_,_,_,_,_,_,_,_,gH _,rfl,hI0⟩ ?_;rintro _ wr ⟨k,Ds,u11,u12,u13,u37,u38,u39,u40,u41,u42,u43,u44,u45,u46,u47,u48,u49,u50,u51,u52,u53,u54,u55,u56,u57,hk,rfl,hI⟩;have HNI:=hJJ hI;clear hI hI0;by_cases hlt:k<n
 .have hlt':(k:Int)<(n:Int):=by omega
  obtain⟨b,off,x,e2,hx,c0,hbl⟩:=(HIN.out).at hlt
  have hc0:wr.cell? ⟨b,off+k,none⟩=some (iv x):=(HNI.out.bl.cell (p:=⟨b,off+k,none⟩) hbl).trans c0;obtain⟨x0,x1⟩:=qON HK.out hx;have HX:=hJJ hx;have cF:(wr.alloc (.cells #[iv (k:Int)] 3)).cell? ⟨w.heap.size+1,0,none⟩=some (iv f):=(HNI.out.bf.alloc _).cell;have hbw:b<wr.heap.size:=gD hbl HNI.out.bl.size;subst e2;clear hx c0;obtain⟨t,ht⟩:∃t,qI8 x f=t:=⟨_,rfl⟩;have HT:=hJJ ht;clear ht;cases t
  .have HN:Hid (qB6 zs e f s (k+1)=qB6 zs e f s k):=by show qB6 zs e f s (k+1)=_;simp[qB6,qS9,HX.out,HT.out]
   gi_wp2_with (gi_at_call 227;refine (callsIn_wide.2 (qBh _ _ (by omega) (by omega) (by omega) (by omega) _)).mono ?_;rintro r w' ⟨rfl,rfl⟩;rw[HT.out])
   exact⟨⟨k+1,Ds,_,_,_,_,_,_,_,_,_,_,_,_,_,_,_,_,_,_,_,_,_,_,_,_,by omega,rfl,by rw[HN.out];exact HNI.out.box _⟩,by simp[intOf];omega⟩
  .have HN:Hid (qB6 zs e f s (k+1)=qB6 zs e f s k++qF8 e f k (qB3 s 8)):=by show qB6 zs e f s (k+1)=_;simp[qB6,qS9,HX.out,HT.out]
   have HLE:Hid ((qB6 zs e f s k).length<=32):=by have:=qW0 zs e f s k;show (qB6 zs e f s k).length<=32;omega
   gi_wp2_with (first | (gi_at_call 227;refine (callsIn_wide.2 (qBh _ _ (by omega) (by omega) (by omega) (by omega) _)).mono ?_;rintro r w' ⟨rfl,rfl⟩;rw[HT.out]) | (gi_at_call 269;refine (qCl _ _ _).mono ?_;rintro r w' ⟨rfl,rfl⟩))
   have bP:=(Boxed.new wr 3 (iv (k:Int))).alloc (.cells #[.int .u8 s] 310);have bS:=Boxed.new (wr.alloc (.cells #[iv (k:Int)] 3)) 310 (.int .u8 s);rw[jC]at bS;have hNI:=(HNI.out.box (.cells #[iv (k:Int)] 3)).box (.cells #[.int .u8 s] 310);obtain⟨W1,hW1⟩:∃W1,(wr.alloc (.cells #[iv (k:Int)] 3)).alloc (.cells #[.int .u8 s] 310)=W1:=⟨_,rfl⟩;have hsz:W1.heap.size=wr.heap.size+2:=by rw[<- hW1];simp
   rw[hW1]at bP bS hNI ⊢
   clear hW1 cF hc0;obtain⟨v0,hv0,hr0⟩:=hNI.nb;have hNBlt:=hv0.lt;have hNBwr:w.heap.size+1+1+1<wr.heap.size:=by obtain⟨v9,hv9,_⟩:=HNI.out.nb;exact hv9.lt
   obtain⟨es,hes⟩:∃es,qB6 zs e f s k=es:=⟨_,rfl⟩;have HN2:Hid (qB6 zs e f s (k+1)=es++qF8 e f k (qB3 s 8)):=by show qB6 zs e f s (k+1)=_;rw[HN.out,hes]
   have HLE2:Hid (es.length<=32):=by show es.length<=32;rw[<- hes];exact HLE.out
   rw[hes]at hr0;have HB1:Hid (NI w W1 e f es Ds):=by rw[hes]at hNI;exact hNI
   clear hes HN HLE hNI HNI;have hmk:∀D∈Ds,D<W1.heap.size/\W1.heap[D]?=some (.deferred (some [])):=fun D hD=>⟨(gN.1 (HB1.out.mq.2 D hD).2).1,(HB1.out.mq.2 D hD).2⟩
   have hOM:OwnFrom W1.heap.size (fun (_:List Int) W=>∀D∈Ds,W.heap[D]?=some (.deferred (some []))):=fun _ X Y row hs hg hr D hD=>(hg.block D (gN.1 (hs D hD)).1 (fun q=>by have:=(hr D q.symm).1;have:=(hmk D hD).1;omega)).trans (hs D hD)
   refine wpIn_rangeFunc_ownG rfl h1 (gf:=285) (lb:=#[.pointer (some ⟨wr.heap.size+1,0,none⟩)]) rfl trivial (enters_of func285 (by kernel_rfl) rfl)
    (qFl (rm-1) (by omega) (wr.heap.size+1) s s0 s1 W1 (by omega) bS.cell) (Kp:=QC1 (wr.heap.size+1)) (fun h k=>Eq.trans k h) (fun W l o o' hl h _ _=>World.putObj_heap_other (by omega)) (gC _ _) (fun _=>rfl)
    (fun pre W=>((∃v,Boxed W (w.heap.size+1+1+1) 113 v/\W.ownsRow (w.heap.size+1+1+1) 171 4 v (es++qF8 e f k pre).length (qA2 (es++qF8 e f k pre))/\True)/\(Boxed W wr.heap.size 3 (iv (k:Int))/\Boxed W (wr.heap.size+1) 310 (.int .u8 s)))/\(Below (w.heap.size+1+1+1) W1 W/\∀D∈Ds,W.heap[D]?=some (.deferred (some []))))
    (fun _ _ _=>False)
    (OwnFrom.and (OwnFrom.and (Own.from (holdsRow_own (w.heap.size+1+1+1) (w.heap.size+1+1+1) 113 171 4 (fun pre:List Int=>(es++qF8 e f k pre).length) (fun pre=>qA2 (es++qF8 e f k pre)) (fun _ _=>True)) _) (OwnFrom.and (Own.from (boxed_own _ _ (fun _ => iv (k:Int))) _) (Own.from (boxed_own _ _ (fun _ => .int .u8 s)) _))) (OwnFrom.and (ownFrom_below (by omega) (by omega)) hOM))
    (fun _ _ _ _ _ hs _ _=>hs)
    ⟨⟨⟨v0,hv0,by simpa[qF8] using hr0,trivial⟩,bP,bS⟩,gC _ _,fun D hD=>(hmk D hD).2⟩
    (fun y=>{ tmps:=#[.slice (some ⟨b,off,none⟩) n cap,iv e,iv f,iv s,undef,.pointer (some ⟨w.heap.size,0,none⟩),.pointer (some ⟨w.heap.size+1,0,none⟩),undef,.pointer (some ⟨w.heap.size+1+1,0,none⟩),iv 0,.pointer (some ⟨w.heap.size+1+1+1,0,none⟩),.pointer (some ⟨wr.heap.size,0,none⟩),iv x,iv y,.slice (some ⟨b,off,none⟩) n cap,iv 0,iv 0,.bool false,undef,undef,iv e,.bool true,.bool false,.bool false,iv f,.bool true,.bool false,.bool false,.bool false,iv s,iv 0,.bool false,.bool false,undef,.slice (some ⟨b,off,none⟩) n cap,iv (n:Int),iv (k:Int),.bool true,iv (k:Int),.pointer (some ⟨b,off+k,none⟩),iv x,iv x,iv f,.bool true,.bool false,iv s,.int .u8 s,.func (.func 285) #[] #[.pointer (some ⟨wr.heap.size+1,0,none⟩)],iv y,u49,u50,u51,u52,u53,u54,u55,u56,u57,undef,undef],defers:=[] }) ?assign ?body ?done ?stop
   case assign =>
    intro l y W K hK;gi_wp2
    exact hK
   case body =>
    rintro l pre y W ⟨⟨⟨v,hv,hrow,_⟩,hP,hS⟩,hB,hM⟩ hlt9;have hc:=hv.cell;have hcP:=hP.cell;have hcE:W.cell? ⟨w.heap.size,0,none⟩=some (iv e):=(hB.cell (p:=⟨w.heap.size,0,none⟩) (by simp;omega)).trans HB1.out.be.cell;have hcF:W.cell? ⟨w.heap.size+1,0,none⟩=some (iv f):=(hB.cell (p:=⟨w.heap.size+1,0,none⟩) (by simp)).trans HB1.out.bf.cell;have hl8:=QA9 s 8;have hle:=HLE2.out;have hlen:(es++qF8 e f k pre).length<=40:=by simp[qF8];omega
    have hnx:es++qF8 e f k (pre++[y])=(es++qF8 e f k pre)++[⟨e,(k:Int),y,f⟩]:=by simp[qF8]
    generalize es++qF8 e f k pre=fs at hrow hlen hnx;gi_wp2_with (gi_at_builtin;refine wpListIn_append_own _ rfl _ _ 113 rfl (w.heap.size+1+1+1) 171 i0 (.agg #[iv 0,iv 0,iv 0,iv 0]) 4 32 Tryz.under113 hi hz0 hz1 hz2 rfl (by decide) _ _ _ rfl (hrow.alloc _) ⟨W.heap.size,0,none⟩ 1 1 [iv e,iv (k:Int),iv y,iv f] rfl rfl (qCF _ _ rfl _ _ _ _ _) (by intro u hu;simp at hu;rcases hu with rfl|rfl|rfl|rfl <;> rfl) (by unfold maxLen;omega) (by omega) (by have:=hB.size;simp;omega) ?_;intro v' w1 hown' hgrow _;obtain⟨g',cap',rfl⟩:=ownsRow_succ hown';obtain⟨hv1,hv2,hr2,hk2,hb2⟩:=hv.appended (by decide) hrow (by have:=hB.size;omega) (gB _) hown' hgrow;have hc1:=hv1.cell;have hf1:=hv1.frozen;have hP1:=((hP.alloc _).kept hgrow (hP.not_row (by decide) hrow)).other (B':=w.heap.size+1+1+1) (by omega) (.slice (some ⟨g',0,none⟩) (fs.length+1) cap');have hS1:=((hS.alloc _).kept hgrow (hS.not_row (by decide) hrow)).other (B':=w.heap.size+1+1+1) (by omega) (.slice (some ⟨g',0,none⟩) (fs.length+1) cap'))
    exact⟨hk2.from _,hS1.trans hS.symm,⟨⟨_,hv2,by rw[hnx];exact qV9 (x:=⟨e,(k:Int),y,f⟩) hr2,trivial⟩,hP1,hS1⟩,hB.trans hb2,fun D hD=>hk2.same D _ (hM D hD) rfl⟩
   case done =>
    rintro D ys W hD rfl ⟨⟨⟨v,hv,hrow,_⟩,_,_⟩,hB,hM⟩ hK
    have R:Hid (NI w W e f (qB6 zs e f s (k+1)) (D::Ds)):=by
     refine⟨(hB.block _ (by omega)).trans HB1.out.be,(hB.block _ (by omega)).trans HB1.out.bf,(hB.block _ (by omega)).trans HB1.out.rs,⟨v,hv,by rw[HN2.out];exact hrow⟩,HB1.out.bl.trans (hB.mono (by omega)),List.nodup_cons.2 ⟨fun q=>by have:=(hmk D q).1;omega,HB1.out.mq.1⟩,fun E hE=>?_⟩;rcases gX.1 hE with rfl | q
     .exact⟨by omega,hK⟩
     .exact⟨(HB1.out.mq.2 E q).1,hM E q⟩
    gi_wp2
    exact⟨⟨k+1,D::Ds,_,_,_,_,_,_,_,_,_,_,_,_,_,_,_,_,_,_,_,_,_,_,_,_,by omega,rfl,R.out⟩,by simp[intOf];omega⟩
   case stop =>
    rintro D c pre W _ _ h _;exact h.elim
 .have hkn:k=n:=by omega
  subst hkn;obtain⟨v,hv,hrow⟩:=HNI.out.nb;obtain⟨a',cap',rfl⟩:=qB2.slice (show qB2 wr (w.heap.size+1+1+1) v (qB6 zs e f s k) from hrow);have cN:=hv.cell;have r0:wr.cell? ⟨w.heap.size+1+1,0,none⟩=some (iv 0):=by simp[World.cell?,HNI.out.rs]
  have r1:wr.cell? ⟨w.heap.size+1+1,1,none⟩=some (.slice none 0 0):=by simp[World.cell?,HNI.out.rs]
  have q0:wr.frozen? ⟨w.heap.size+1+1,0,none⟩=false:=by simp[World.frozen?,HNI.out.rs]
  have q1:wr.frozen? ⟨w.heap.size+1+1,1,none⟩=false:=by simp[World.frozen?,HNI.out.rs]
  have hmq:=HNI.out.mq;have hbl:=HNI.out.bl;gi_wp2
  refine QJ9 (B:=w.heap.size+1+1+1) (S:=fun X=>X.cell? ⟨w.heap.size+1+1,0,none⟩=some (iv 0)/\X.cell? ⟨w.heap.size+1+1,1,none⟩=some (.slice a' (qB6 zs e f s k).length cap')/\qB2 X (w.heap.size+1+1+1) (.slice a' (qB6 zs e f s k).length cap') (qB6 zs e f s k)/\Below w.heap.size w X) ?hS ?hR Ds _ ?hM ?h0
  case hS =>
   rintro X D ⟨c0,c1,ho,hb⟩ hD hX;have hne:w.heap.size+1+1≠D:=by omega
   exact⟨(jO (a:=⟨w.heap.size+1+1,0,none⟩) (World.putObj_heap_other hne)).trans c0,(jO (a:=⟨w.heap.size+1+1,1,none⟩) (World.putObj_heap_other hne)).trans c1,ownsRow_putObj ho _ hX rfl,hb.trans (belowK_b (w:=w) (gB _) _ D _ _ (by omega) hX rfl rfl)⟩
  case hR =>
   rintro X ⟨c0,c1,ho,hb⟩;exact⟨.agg #[iv 0,.slice a' (qB6 zs e f s k).length cap'],by simp[results,results289,go_sem,c0,c1],a',cap',rfl,qB0 ho (by omega),hb⟩
  case hM=>exact⟨hmq.1,fun D hD=>⟨(hmq.2 D hD).1,by
   have h1:=(KeepsOthers.setCell wr ⟨w.heap.size+1+1,0,none⟩ (iv 0)).same D _ (hmq.2 D hD).2 rfl;exact (KeepsOthers.setCell (wr.setCell ⟨w.heap.size+1+1,0,none⟩ (iv 0)) ⟨w.heap.size+1+1,1,none⟩ _).same D _ h1 rfl⟩⟩
  case h0 =>
   refine⟨?_,?_,?_,?_⟩
   .rw[gF _ _ _ _ (by simp)];exact World.cell?_setCell_same' _ _ _ (by rw[r0];rfl)
   .exact World.cell?_setCell_same' _ _ _ (by rw[gF _ _ _ _ (by simp),r1];rfl)
   .exact ownsRow_setCell_below (ownsRow_setCell_below hrow (by simp) _) (by simp) _
   .exact (hbl.setCell (p:=⟨w.heap.size+1+1,0,none⟩) (by simp;omega) _).setCell (p:=⟨w.heap.size+1+1,1,none⟩) (by simp;omega) _
theorem qBc(a:Option Addr)(n cap:Nat)(zs:List Int)(e f s:Int)(w:World)(h:qD0 w a n zs)(hc:qE5 zs e f s=0):qCN 289 a n cap e f s 0 (qB6 zs e f s n) w :=
 callsIn_wide.1 (qDQ 3 (gB _) a n cap zs e f s w h hc)
theorem qAN(a:Option Addr)(n cap:Nat)(zs:List Int)(e f s c:Int)(w:World)(h:qD0 w a n zs)(hc:qE5 zs e f s=c)(h0:c≠0):qCN 289 a n cap e f s c [] w:=by
 have HI1:Hid (qD0 (((w.alloc (.cells #[iv e] 2)).alloc (.cells #[iv f] 2)).alloc (.cells #[iv 0,.slice none 0 0] 272)) a n zs):=h.below ((((gC _ w).alloc (gB _) _).alloc (by simp) _).alloc (by simp;omega) _);have HB1:Hid (Below w.heap.size w (((w.alloc (.cells #[iv e] 2)).alloc (.cells #[iv f] 2)).alloc (.cells #[iv 0,.slice none 0 0] 272))):=(((gC _ w).alloc (gB _) _).alloc (by simp) _).alloc (by simp;omega) _;clear h;obtain⟨d,hd⟩:∃d,qG2 zs=d:=⟨_,rfl⟩;have HD:=hJJ hd;unfold qCN;by_cases d0:d=0
 .subst d0;obtain⟨t1,h1⟩:∃t,inR e 1 9=t:=⟨_,rfl⟩;obtain⟨t2,h2⟩:∃t,inR f 1 4=t:=⟨_,rfl⟩;obtain⟨t3,h3⟩:∃t,inR s 0 255=t:=⟨_,rfl⟩;have HV:Hid (c=if (t1&&(t2&&t3))=true then 0 else 3):=by show c=_;rw[<- hc,qE5,gK hd,h1,h2,h3]
  have H1:=hJJ h1;have H2:=hJJ h2;have H3:=hJJ h3;have H0:=hJJ h0;clear hc hd h1 h2 h3 h0;cases t1
  .obtain rfl:c=3:=HV.out;go_enter func289,ntmps289;go_wp2_with (first | (go_at_call 202;refine (qF9 _ _ _ zs _ HI1.out).mono ?_;rintro e w' ⟨rfl,rfl⟩;rw[HD.out]) | (go_at_call 163;refine (qI4 _ _).mono ?_;rintro e w' ⟨rfl,rfl⟩;rw[H1.out]))
   refine gQ (v:=.agg #[iv 3,.slice none 0 0]) (by simp[results,results289,go_sem]) rfl ⟨none,0,rfl,jB _ _ _ _,?_⟩;exact (((gC _ w).alloc (gB _) _).alloc (by simp) _).alloc (by simp;omega) _
  cases t2
  .obtain rfl:c=3:=HV.out;go_enter func289,ntmps289;go_wp2_with (first | (go_at_call 202;refine (qF9 _ _ _ zs _ HI1.out).mono ?_;rintro e w' ⟨rfl,rfl⟩;rw[HD.out]) | (go_at_call 163;refine (qI4 _ _).mono ?_;rintro e w' ⟨rfl,rfl⟩;rw[H1.out]) | (go_at_call 164;refine (QE7 _ _).mono ?_;rintro e w' ⟨rfl,rfl⟩;rw[H2.out]))
   refine gQ (v:=.agg #[iv 3,.slice none 0 0]) (by simp[results,results289,go_sem]) rfl ⟨none,0,rfl,jB _ _ _ _,?_⟩;exact (((gC _ w).alloc (gB _) _).alloc (by simp) _).alloc (by simp;omega) _
  cases t3
  .obtain rfl:c=3:=HV.out;go_enter func289,ntmps289;go_wp2_with (first | (go_at_call 202;refine (qF9 _ _ _ zs _ HI1.out).mono ?_;rintro e w' ⟨rfl,rfl⟩;rw[HD.out]) | (go_at_call 163;refine (qI4 _ _).mono ?_;rintro e w' ⟨rfl,rfl⟩;rw[H1.out]) | (go_at_call 164;refine (QE7 _ _).mono ?_;rintro e w' ⟨rfl,rfl⟩;rw[H2.out]) | (go_at_call 165;refine (qLN _ _).mono ?_;rintro e w' ⟨rfl,rfl⟩;rw[H3.out,gI (by simp)]))
   refine gQ (v:=.agg #[iv 3,.slice none 0 0]) (by simp[results,results289,go_sem]) rfl ⟨none,0,rfl,jB _ _ _ _,?_⟩;exact (((gC _ w).alloc (gB _) _).alloc (by simp) _).alloc (by simp;omega) _
  .exact absurd HV.out H0.out
 .have HV:Hid (d=c):=by show d=c;rw[<- hc,qE5,gI (by rw[hd];exact d0),hd]
  obtain rfl:d=c:=HV.out;have db:(d != 0)=true:=by simp[d0]
  clear hc hd d0 h0;go_enter func289,ntmps289;go_wp2_with (first | (go_at_call 202;refine (qF9 _ _ _ zs _ HI1.out).mono ?_;rintro e w' ⟨rfl,rfl⟩;rw[HD.out]))
  refine gQ (v:=.agg #[iv d,.slice none 0 0]) (by simp[results,results289,go_sem]) rfl ⟨none,0,rfl,jB _ _ _ _,?_⟩;exact (((gC _ w).alloc (gB _) _).alloc (by simp) _).alloc (by simp;omega) _
end
theorem QO9{w:World}{b o n:Nat}{gs:List LkI}(h:qJ9 w (some ⟨b,o,none⟩) n gs):∀j u,(qA2 gs)[j]?=some u->w.cell? ((⟨b,o,none⟩:Addr).add j)=some u:=by
 intro j u hj
 have hjl:j<gs.length*4:=by
  by_cases q:j<gs.length*4
  .exact q
  .rw[gE (by rw[qG0];omega)]at hj;cases hj
 have hk:j / 4<gs.length:=by omega
 obtain⟨b',o',e',hc⟩:=h.2 (by have:=h.1;omega);cases e';have hp:=hc (j / 4) _ (gA hk);obtain⟨f0,f1,f2,f3⟩:=QR6 gs (j / 4) _ (gA hk);obtain⟨p0,p1,p2,p3⟩:=hp;rw[gR];have hr:j=j / 4*4\/j=j / 4*4+1\/j=j / 4*4+2\/j=j / 4*4+3:=by omega
 rcases hr with e | e | e | e
 .rw[e]at hj ⊢;rw[f0]at hj;cases hj;exact p0
 .rw[e]at hj ⊢;rw[show (j / 4*4+1)=j / 4*4+1 from rfl]at hj;rw[f1]at hj;cases hj;rw[<- Nat.add_assoc];exact p1
 .rw[e]at hj ⊢;rw[f2]at hj;cases hj;rw[<- Nat.add_assoc];exact p2
 .rw[e]at hj ⊢;rw[f3]at hj;cases hj;rw[<- Nat.add_assoc];exact p3
structure TT (w wr:World) (bo:Nat) (all:List LkI) (g cap:Nat):Prop where
 ow:qB2 wr w.heap.size (.slice (some ⟨g,0,none⟩) all.length cap) all
 x0:wr.cell? ⟨bo,0,none⟩=some (.int .i64 0)
 x1:wr.cell? ⟨bo,1,none⟩=some (.slice (some ⟨g,0,none⟩) all.length cap)
 f0:wr.frozen? ⟨bo,0,none⟩=false
 f1:wr.frozen? ⟨bo,1,none⟩=false
 ne:g≠bo
 bg:w.heap.size<bo
 gg:w.heap.size<g
 r0:wr.cell? ⟨w.heap.size,0,none⟩=some (.int .i64 0)
 r1:wr.cell? ⟨w.heap.size,1,none⟩=some (.slice none 0 0)
 e0:wr.frozen? ⟨w.heap.size,0,none⟩=false
 e1:wr.frozen? ⟨w.heap.size,1,none⟩=false
 bel:Below w.heap.size w wr
theorem TT.lt{w wr:World}{bo:Nat}{all:List LkI}{g cap:Nat}(h:TT w wr bo all g cap):bo<wr.heap.size:=zL wr ⟨bo,0,none⟩ h.x0
theorem TT.below{w wr wr':World}{bo:Nat}{all:List LkI}{g cap:Nat}(h:TT w wr bo all g cap)(hb:Below wr.heap.size wr wr'):TT w wr' bo all g cap:=by
 have hl:=h.lt;have hw:w.heap.size<wr.heap.size:=by have:=h.bg;omega
 exact⟨h.ow.below hb,(hb.cell (p:=⟨bo,0,none⟩) hl).trans h.x0,(hb.cell (p:=⟨bo,1,none⟩) hl).trans h.x1,(hb.frozen (p:=⟨bo,0,none⟩) hl).trans h.f0,(hb.frozen (p:=⟨bo,1,none⟩) hl).trans h.f1,h.ne,h.bg,h.gg,(hb.cell (p:=⟨w.heap.size,0,none⟩) hw).trans h.r0,(hb.cell (p:=⟨w.heap.size,1,none⟩) hw).trans h.r1,(hb.frozen (p:=⟨w.heap.size,0,none⟩) hw).trans h.e0,(hb.frozen (p:=⟨w.heap.size,1,none⟩) hw).trans h.e1,h.bel.trans (hb.mono h.bel.size)⟩
theorem qR6{w w':World}{row:Option Nat}{b j:Nat}(hg:w.grownBy w' row)(hb:b<w.heap.size)(hne:some b≠row)(h:w.frozen? ⟨b,j,none⟩=false):w'.frozen? ⟨b,j,none⟩=false:=by
 unfold World.frozen? at h ⊢
 simp only at h ⊢
 rw[hg.block b hb hne];exact h
theorem qY8(w:World)(q:Nat)(u v:Value):w.grownBy ((w.setCell ⟨q,0,none⟩ u).setCell ⟨q,1,none⟩ v) (some q):=by
 refine⟨rfl,rfl,rfl,by simp,fun i hi hne=>?_⟩;have hq:i≠q:=fun e=>hne (by rw[e])
 rw[kE _ _ _ _ hq,kE _ _ _ _ hq]
theorem qId(w:World)(q o:Nat)(v:Value):w.grownBy (w.setCell ⟨q,o,none⟩ v) (some q):=by
 refine⟨rfl,rfl,rfl,by simp,fun i hi hne=>?_⟩;have hq:i≠q:=fun e=>hne (by rw[e])
 rw[kE _ _ _ _ hq]
theorem TT.put{w wr:World}{bo:Nat}{all all':List LkI}{g cap g' cap':Nat}(h:TT w wr bo all g cap)(ho:qB2 wr w.heap.size (.slice (some ⟨g',0,none⟩) all'.length cap') all')(hne:g'≠bo)(hg:w.heap.size<g'):TT w (wr.setCell ⟨bo,1,none⟩ (.slice (some ⟨g',0,none⟩) all'.length cap')) bo all' g' cap':=by
 have hwb:w.heap.size≠bo:=by have:=h.bg;omega
 have k1:=qId wr bo 1 (.slice (some ⟨g',0,none⟩) all'.length cap');refine⟨World.ownsRow.kept (row:=some bo) ho k1 (.inr (by simp[Value.ownBlock];exact hne)),?_,?_,by simp[h.f0],by simp[h.f1],hne,h.bg,hg,?_,?_,by simp[h.e0],by simp[h.e1],h.bel.setCell (Nat.le_of_lt h.bg) _⟩
 .rw[gF _ _ _ _ (by simp)];exact h.x0
 .exact World.cell?_setCell_same _ _ _ h.x1
 .rw[gF _ _ _ _ (by first | (simp;done) | (simp;omega))];exact h.r0
 .rw[gF _ _ _ _ (by first | (simp;done) | (simp;omega))];exact h.r1
def qH7(fn:Nat)(args:Array Value)(c:Int)(L:List LkI)(w:World):Prop:=Calls prog fn args w fun r w'=>∃(a':Option Addr) (cap':Nat),r=.returned (.agg #[iv c,.slice a' L.length cap'])/\qB2 w' w.heap.size (.slice a' L.length cap') L/\Below w.heap.size w w'
theorem qKO(b0 o0 n cap:Nat)(b:Option Addr)(m cap2:Nat)(gs ys:List LkI)(w:World)(hn:n<=200)(hm:m<=100)(h:qJ9 w (some ⟨b0,o0,none⟩) n gs)(hb0:b0<w.heap.size)(hy:qJ9 w b m ys)(hs:SL gs)(ho:∀x∈gs,okL x=true)(hys:SL ys)(hyo:∀x∈ys,okL x=true):
  qH7 236 #[.slice (some ⟨b0,o0,none⟩) n cap,.slice b m cap2] (qI9 gs ys) (tkL gs ys) w:=by
 have HG:=hJJ h;have HY:=hJJ hy;have HYS:=hJJ hys;have HYO:=hJJ hyo;have HZ:=hJJ h.1;have HM:=hJJ hy.1;have HS0:Hid (TkS gs ys 0 gs):=TkS.zero ys hs ho;obtain⟨i0,hi,hz0,hz1,hz2⟩:=jT Tryz.info171;have hm':(m:Int)<=100:=by omega
 obtain⟨c,hc⟩:∃c,qI9 gs ys=c:=⟨_,rfl⟩;obtain⟨L,hL⟩:∃L,tkL gs ys=L:=⟨_,rfl⟩;have HC:=hJJ hc;have HL:=hJJ hL;rw[hc,hL];obtain⟨W,hW⟩:∃W,W=w.alloc (.cells #[iv 0,.slice none 0 0] 272):=⟨_,rfl⟩;have HW:=hJJ hW;have hzW:W.heap.size=w.heap.size+1:=by rw[hW];simp
 have B0:Hid (Below w.heap.size w W):=by rw[hW];exact zN
 have D0:Hid (W.cell? ⟨w.heap.size,0,none⟩=some (iv 0)/\W.cell? ⟨w.heap.size,1,none⟩=some (.slice none 0 0)/\W.frozen? ⟨w.heap.size,0,none⟩=false/\W.frozen? ⟨w.heap.size,1,none⟩=false):=by rw[hW];exact⟨by go_cell,by go_cell,by simp[go_sem],by simp[go_sem]⟩
 have H5:Hid ((W.alloc (.cells #[] 171)).ownsRow (w.heap.size+1) 171 4 (.slice (some ⟨w.heap.size+1,0,none⟩) 0 0) 0 []):=by
  have h0:=kH (base:=w.heap.size+1) (e:=171) (size:=4) W #[] 0 (by omega) (gH _) rfl;rw[hzW]at h0;exact h0
 have G5:Hid (qJ9 (W.alloc (.cells #[] 171)) (some ⟨b0,o0,none⟩) n gs):=(h.below B0.out).below (zN);clear h hy hs ho hys hyo hc hL hW;unfold qH7;go_enter func236,ntmps236;go_upto_region 1 with fail
 rw[<- HW.out]
 go_wp2_with (first
  | (at_builtin;refine jG _ rfl _ _ 113 rfl (w.heap.size+1) 171 i0 (.agg #[iv 0,iv 0,iv 0,iv 0]) 4 32 underlying113 hi hz0 hz1 hz2 rfl (by decide) (.slice (some ⟨w.heap.size+1,0,none⟩) 0 0) 0 [] rfl H5.out ⟨b0,o0,none⟩ n cap (qA2 gs) rfl (by rw[qG0,HZ.out]) (QO9 G5.out) (qO6 _) (by unfold maxLen;omega) (by omega) (by simp;omega) ?_)
  | fail)
 intro v6 w6 hown6 hgrow6 hnil6;obtain⟨g6,cap6,hv6⟩:=qU3 hown6 (fun e=>by first | exact hnil6 e | (have:=hnil6.1 e;simp at this));have E6:v6=.slice (some ⟨g6,0,none⟩) n cap6:=by first | exact hv6 | (rw[hv6];congr 1;omega)
 clear hv6;subst E6;have BW6:Below w.heap.size w w6:=(B0.out.alloc (by omega) _).grown hgrow6 (by simp;omega) (fun q e=>by simp[Value.ownBlock]at e;omega);have hg6:=hown6.lt g6 rfl;have hne6:some w.heap.size≠(Value.slice (some ⟨w.heap.size+1,0,none⟩) 0 0).ownBlock:=by simp[Value.ownBlock]
 have k0:(W.alloc (.cells #[] 171)).cell? ⟨w.heap.size,0,none⟩=some (iv 0):=(kM _ _ ⟨w.heap.size,0,none⟩ (by simp only;omega)).trans D0.out.1;have k1:(W.alloc (.cells #[] 171)).cell? ⟨w.heap.size,1,none⟩=some (.slice none 0 0):=(kM _ _ ⟨w.heap.size,1,none⟩ (by simp only;omega)).trans D0.out.2.1;have k2:(W.alloc (.cells #[] 171)).frozen? ⟨w.heap.size,0,none⟩=false:=(World.frozen?_alloc_old _ _ ⟨w.heap.size,0,none⟩ (by simp only;omega)).trans D0.out.2.2.1;have k3:(W.alloc (.cells #[] 171)).frozen? ⟨w.heap.size,1,none⟩=false:=(World.frozen?_alloc_old _ _ ⟨w.heap.size,1,none⟩ (by simp only;omega)).trans D0.out.2.2.2;have A6:Below w6.heap.size w6 (w6.alloc (.cells #[iv 0,.slice (some ⟨g6,0,none⟩) n cap6] 272)):=zN;have hlw:w.heap.size<w6.heap.size:=by have:=hg6.2;have:=hg6.1;omega
 have hla:w.heap.size<(W.alloc (.cells #[] 171)).heap.size:=by simp;omega
 have T6:Hid (TT w (w6.alloc (.cells #[iv 0,.slice (some ⟨g6,0,none⟩) n cap6] 272)) w6.heap.size gs g6 cap6):=by
  have ho6:qB2 w6 w.heap.size (.slice (some ⟨g6,0,none⟩) n cap6) gs:=by
   refine qB0 (B:=w.heap.size+1) ?_ (by omega);show World.ownsRow _ _ 171 4 _ gs.length (qA2 gs)
   rw[HZ.out];have h7:=hown6;try simp only[gG,kR]at h7
   exact h7
  rw[<- HZ.out]at ho6 A6 ⊢
  exact⟨ho6.below A6,by simp,by simp,by simp[go_sem],by simp[go_sem],by have:=hg6.2;omega,hlw,by have:=hg6.1;omega,(A6.cell (p:=⟨w.heap.size,0,none⟩) hlw).trans (hgrow6.cell k0 hne6),(A6.cell (p:=⟨w.heap.size,1,none⟩) hlw).trans (hgrow6.cell k1 hne6),(A6.frozen (p:=⟨w.heap.size,0,none⟩) hlw).trans (qR6 hgrow6 hla hne6 k2),(A6.frozen (p:=⟨w.heap.size,1,none⟩) hlw).trans (qR6 hgrow6 hla hne6 k3),BW6.trans (A6.mono BW6.size)⟩
 clear hown6 hgrow6 hnil6 k0 k1 k2 k3 A6 BW6 hne6 hla H5 G5 D0;go_wp2_with fail
 generalize w6.alloc (.cells #[iv 0,.slice (some ⟨g6,0,none⟩) n cap6] 272)=w7 at T6 ⊢
 generalize hbo:w6.heap.size=bo at T6 ⊢
 clear hbo;go_loopw [6] (fun i wr=>∃(k:Nat) (all:List LkI) (g cp:Nat),k<=m/\i=iv (k:Int)/\Hid (TkS gs ys k all/\TT w wr bo all g cp)) (fun i _=>m-(intOf i).toNat)
 case atStart=>exact⟨0,gs,g6,cap6,gH _,rfl,HS0.out,T6.out⟩
 case round =>
  obtain⟨k,all,g,cp,hk,rfl,HK⟩:=hrel;by_cases hlt:k<m
  .have hlt':(k:Int)<(m:Int):=by omega
   obtain⟨b1,o1,y,e1,hy,hr,hb1⟩:=HY.out.at hlt
   subst e1;obtain⟨c0,c1,c2,c3⟩:=hr.below HK.out.2.bel hb1;have HYK:=hJJ hy;have A1:Below wr.heap.size wr (wr.alloc (.cells #[iv y.e,iv y.c,iv y.p,iv y.f] 171)):=zN;have T1:Hid (TT w (wr.alloc (.cells #[iv y.e,iv y.c,iv y.p,iv y.f] 171)) bo all g cp):=HK.out.2.below A1;have Y1:Hid (QF3 (wr.alloc (.cells #[iv y.e,iv y.c,iv y.p,iv y.f] 171)) wr.heap.size 0 y):=by simp[Hid,QF3]
   have hzb:wr.heap.size<(wr.alloc (.cells #[iv y.e,iv y.c,iv y.p,iv y.f] 171)).heap.size:=by simp
   clear hy hr A1;go_upto_region 6 with fail
   clear c0 c1 c2 c3;generalize wr.alloc (.cells #[iv y.e,iv y.c,iv y.p,iv y.f] 171)=w1 at T1 Y1 hzb ⊢
   obtain⟨y0,y1,y2,y3⟩:=Y1.out;simp only[gG]at y0 y1 y2 y3;go_wp2_with fail
   refine (qLX _ n cap gs y.e y.c y.p _ (HG.out.below T1.out.bel) (by omega)).mono ?_;rintro e w2 ⟨rfl,hb2⟩;have T2:Hid (TT w w2 bo all g cp):=T1.out.below hb2;have Y2:Hid (QF3 w2 wr.heap.size 0 y):=Y1.out.below hb2 hzb;have hzb2:wr.heap.size<w2.heap.size:=by have:=hb2.size;omega
   clear hb2 T1 Y1 hzb y0 y1 y2 y3;obtain⟨y0,y1,y2,y3⟩:=Y2.out;simp only[gG]at y0 y1 y2 y3;obtain⟨F,hF⟩:∃F,qE6 gs y.e y.c y.p=F:=⟨_,rfl⟩;have HF:=hJJ hF;rw[hF];clear hF;by_cases f0:F=0
   .subst f0;have HN:Hid (TkS gs ys (k+1) (QD6 all y)):=HK.out.1.put HYS.out HYK.out (HYO.out y (gO HYK.out)) HF.out;obtain⟨x0,x1⟩:w2.cell? ⟨bo,0,none⟩=some (iv 0)/\w2.cell? ⟨bo,1,none⟩=some (.slice (some ⟨g,0,none⟩) all.length cp):=⟨T2.out.x0,T2.out.x1⟩;have hlen:all.length<=300:=by have:=HK.out.1.len;have:=HZ.out;omega
    go_wp2_with fail
    refine (qIN w.heap.size g all.length cp all y _ rfl (by omega) T2.out.ow HK.out.1.sl T2.out.bel.size).mono ?_;rintro e w3 ⟨g',cp',rfl,ho3,hb3⟩;have T3:Hid (TT w w3 bo all g cp):=T2.out.below hb3;have hl3:all.length+1=(QD6 all y).length:=(QG0 all y).symm
    have HP:Hid (TT w (w3.setCell ⟨bo,1,none⟩ (.slice (some ⟨g',0,none⟩) (all.length+1) cp')) bo (QD6 all y) g' cp'):=by
     have hg':=(QO8 ho3 g' rfl).1;rw[hl3]at ho3 ⊢
     exact T3.out.put (qB0 ho3 T2.out.bel.size) (by have:=T2.out.lt;omega) (by have:=T2.out.lt;have:=T2.out.bg;omega)
    have q1:=T3.out.x1;have q2:=T3.out.f1;clear ho3 hb3 T2 T3 x0 x1 y0 y1 y2 y3 hl3;go_wp2_with fail
    exact⟨⟨k+1,QD6 all y,g',cp',by omega,by go_num,HN.out,HP.out⟩,by simp[intOf];omega⟩
   .have b0':(F != 0)=true:=by simpa using f0
    have b1':(F==0)=false:=by simpa using f0
    by_cases f1:F=y.f
    .have b2':(F != y.f)=false:=by simp[f1]
     have HN:Hid (TkS gs ys (k+1) all):=HK.out.1.stay HYK.out (by rw[HF.out];exact f0) (by rw[HF.out];exact f1);clear f0 f1;go_wp2_with fail
     exact⟨⟨k+1,all,g,cp,by omega,by go_num,HN.out,T2.out⟩,by simp[intOf];omega⟩
    .have b2':(F != y.f)=true:=by simpa using f1
     have HN:Hid (c=6/\L=[]):=by
      have h1:qJ4 gs ys (k+1)=none:=by
       rw[qJ3 HK.out.1.tk HYK.out,qO2,gI (by rw[HF.out];exact f0),gI (by rw[HF.out];exact f1)]
      have:=QF7 h1 (by rw[HM.out];omega);rw[HC.out,HL.out]at this;exact this
     obtain⟨r0,r1⟩:w2.cell? ⟨w.heap.size,0,none⟩=some (iv 0)/\w2.cell? ⟨w.heap.size,1,none⟩=some (.slice none 0 0):=⟨T2.out.r0,T2.out.r1⟩;have e0:=T2.out.e0;have e1:=T2.out.e1;clear f0 f1;go_wp2_with fail
     obtain⟨hc6,hL6⟩:=HN.out;rw[hc6,hL6];refine gQ (v:=.agg #[iv 6,.slice none 0 0]) (by simp[results,results236,go_sem,r0,r1]) rfl ⟨none,0,rfl,jB _ _ _ _,?_⟩;exact (T2.out.bel.setCell (gB _) _).setCell (gB _) _
  .have hkm:k=m:=by omega
   subst hkm;obtain⟨x0,x1⟩:wr.cell? ⟨bo,0,none⟩=some (iv 0)/\wr.cell? ⟨bo,1,none⟩=some (.slice (some ⟨g,0,none⟩) all.length cp):=⟨HK.out.2.x0,HK.out.2.x1⟩;obtain⟨r0,r1⟩:wr.cell? ⟨w.heap.size,0,none⟩=some (iv 0)/\wr.cell? ⟨w.heap.size,1,none⟩=some (.slice none 0 0):=⟨HK.out.2.r0,HK.out.2.r1⟩;have e0:=HK.out.2.e0;have e1:=HK.out.2.e1;have htk:qJ4 gs ys ys.length=some all:=by rw[HM.out];exact HK.out.1.tk
   by_cases h200:200<all.length
   .have hl2:(200:Int)<(all.length:Int):=by omega
    have HN:Hid (c=2/\L=[]):=by
     have:=QY8 htk h200;rw[HC.out,HL.out]at this;exact this
    clear htk;go_wp2_with fail
    obtain⟨hc6,hL6⟩:=HN.out;rw[hc6,hL6];refine gQ (v:=.agg #[iv 2,.slice none 0 0]) (by simp[results,results236,go_sem,r0,r1]) rfl ⟨none,0,rfl,jB _ _ _ _,?_⟩;exact (HK.out.2.bel.setCell (gB _) _).setCell (gB _) _
   .have hl2:(all.length:Int)<=200:=by omega
    have HN:Hid (c=0/\L=all):=by
     have:=QI4 htk h200;rw[HC.out,HL.out]at this;exact this
    clear htk;go_wp2_with fail
    obtain⟨hc6,hL6⟩:=HN.out;rw[hc6,hL6];refine gQ (v:=.agg #[iv 0,.slice (some ⟨g,0,none⟩) all.length cp]) (by simp[results,results236,go_sem,r0,r1]) rfl ⟨some ⟨g,0,none⟩,cp,rfl,?_,?_⟩
    .have k1:=qY8 wr w.heap.size (iv 0) (.slice (some ⟨g,0,none⟩) all.length cp);exact World.ownsRow.kept (row:=some w.heap.size) HK.out.2.ow k1 (.inr (by have:=HK.out.2.gg;simp[Value.ownBlock];omega))
    .exact (HK.out.2.bel.setCell (gB _) _).setCell (gB _) _
def qE3(gs:List LkI)(zs:List Int)(e f s:Int):Int:=if qJ6 gs=0 then (if qE5 zs e f s=0 then qI9 gs (qB6 zs e f s zs.length) else qE5 zs e f s) else qJ6 gs
def qL4(gs:List LkI)(zs:List Int)(e f s:Int):List LkI:=if qJ6 gs=0/\qE5 zs e f s=0 then tkL gs (qB6 zs e f s zs.length) else []
theorem qGF(b:Option Addr)(m cap2:Nat)(ys:List LkI)(w:World)(hm:m<=100)(hy:qJ9 w b m ys)(hys:SL ys)(hyo:∀x∈ys,okL x=true):
  qH7 236 #[.slice none 0 0,.slice b m cap2] (qI9 [] ys) (tkL [] ys) w:=by
 have h:qJ9 w none 0 ([]:List LkI):=⟨rfl,fun h=>by omega⟩;have hs:SL ([]:List LkI):=List.Pairwise.nil;have ho:∀x∈([]:List LkI),okL x=true:=by simp
 have HG:=hJJ h;have HY:=hJJ hy;have HYS:=hJJ hys;have HYO:=hJJ hyo;have HZ:=hJJ h.1;have HM:=hJJ hy.1;have HS0:Hid (TkS ([]:List LkI) ys 0 ([]:List LkI)):=TkS.zero ys hs ho;obtain⟨i0,hi,hz0,hz1,hz2⟩:=jT Tryz.info171;have hm':(m:Int)<=100:=by omega
 obtain⟨c,hc⟩:∃c,qI9 ([]:List LkI) ys=c:=⟨_,rfl⟩;obtain⟨L,hL⟩:∃L,tkL ([]:List LkI) ys=L:=⟨_,rfl⟩;have HC:=hJJ hc;have HL:=hJJ hL;rw[hc,hL];obtain⟨W,hW⟩:∃W,W=w.alloc (.cells #[iv 0,.slice none 0 0] 272):=⟨_,rfl⟩;have HW:=hJJ hW;have hzW:W.heap.size=w.heap.size+1:=by rw[hW];simp
 have B0:Hid (Below w.heap.size w W):=by rw[hW];exact zN
 have D0:Hid (W.cell? ⟨w.heap.size,0,none⟩=some (iv 0)/\W.cell? ⟨w.heap.size,1,none⟩=some (.slice none 0 0)/\W.frozen? ⟨w.heap.size,0,none⟩=false/\W.frozen? ⟨w.heap.size,1,none⟩=false):=by rw[hW];exact⟨by go_cell,by go_cell,by simp[go_sem],by simp[go_sem]⟩
 have H5:Hid ((W.alloc (.cells #[] 171)).ownsRow (w.heap.size+1) 171 4 (.slice (some ⟨w.heap.size+1,0,none⟩) 0 0) 0 []):=by
  have h0:=kH (base:=w.heap.size+1) (e:=171) (size:=4) W #[] 0 (by omega) (gH _) rfl;rw[hzW]at h0;exact h0
 have G5:Hid (qJ9 (W.alloc (.cells #[] 171)) none 0 ([]:List LkI)):=(h.below B0.out).below (zN);clear h hy hs ho hys hyo hc hL hW;unfold qH7;go_enter func236,ntmps236;go_upto_region 1 with fail
 rw[<- HW.out]
 go_wp2_with (first
  | (at_builtin;refine wpList_append_own_none rfl _ _ 113 rfl (w.heap.size+1) 171 i0 4 underlying113 hi (.slice (some ⟨w.heap.size+1,0,none⟩) 0 0) 0 [] rfl H5.out rfl ?_)
  | fail)
 obtain⟨w6,hw6⟩:∃w6,w6=W.alloc (.cells #[] 171):=⟨_,rfl⟩;have hown6:=H5.out;have hgrow6:=QC8 (W.alloc (.cells #[] 171)) (Value.slice (some ⟨w.heap.size+1,0,none⟩) 0 0).ownBlock;rw[<- hw6]at hown6;have hgrow6':(W.alloc (.cells #[] 171)).grownBy w6 (Value.slice (some ⟨w.heap.size+1,0,none⟩) 0 0).ownBlock:=by rw[hw6];exact QC8 _ _
 clear hgrow6;have hgrow6:=hgrow6';clear hgrow6'
 have HS6:Hid (w6.heap.size=w.heap.size+1+1):=by
  show w6.heap.size=_
  rw[hw6];simp;omega
 rw[<- hw6];have BW6:Below w.heap.size w w6:=(B0.out.alloc (by omega) _).grown hgrow6 (by simp;omega) (fun q e=>by simp[Value.ownBlock]at e;omega);have hg6:=hown6.lt (w.heap.size+1) rfl;have hne6:some w.heap.size≠(Value.slice (some ⟨w.heap.size+1,0,none⟩) 0 0).ownBlock:=by simp[Value.ownBlock]
 have k0:(W.alloc (.cells #[] 171)).cell? ⟨w.heap.size,0,none⟩=some (iv 0):=(kM _ _ ⟨w.heap.size,0,none⟩ (by simp only;omega)).trans D0.out.1;have k1:(W.alloc (.cells #[] 171)).cell? ⟨w.heap.size,1,none⟩=some (.slice none 0 0):=(kM _ _ ⟨w.heap.size,1,none⟩ (by simp only;omega)).trans D0.out.2.1;have k2:(W.alloc (.cells #[] 171)).frozen? ⟨w.heap.size,0,none⟩=false:=(World.frozen?_alloc_old _ _ ⟨w.heap.size,0,none⟩ (by simp only;omega)).trans D0.out.2.2.1;have k3:(W.alloc (.cells #[] 171)).frozen? ⟨w.heap.size,1,none⟩=false:=(World.frozen?_alloc_old _ _ ⟨w.heap.size,1,none⟩ (by simp only;omega)).trans D0.out.2.2.2;have A6:Below w6.heap.size w6 (w6.alloc (.cells #[iv 0,.slice (some ⟨w.heap.size+1,0,none⟩) 0 0] 272)):=zN;have hlw:w.heap.size<w6.heap.size:=by have:=hg6.2;have:=hg6.1;omega
 have hla:w.heap.size<(W.alloc (.cells #[] 171)).heap.size:=by simp;omega
 have T6:Hid (TT w (w6.alloc (.cells #[iv 0,.slice (some ⟨w.heap.size+1,0,none⟩) 0 0] 272)) w6.heap.size ([]:List LkI) (w.heap.size+1) 0):=by
  have ho6:qB2 w6 w.heap.size (.slice (some ⟨w.heap.size+1,0,none⟩) 0 0) ([]:List LkI):=qB0 (B:=w.heap.size+1) hown6 (by omega);exact⟨ho6.below A6,by simp,by simp,by simp[go_sem],by simp[go_sem],by have:=hg6.2;omega,hlw,by have:=hg6.1;omega,(A6.cell (p:=⟨w.heap.size,0,none⟩) hlw).trans (hgrow6.cell k0 hne6),(A6.cell (p:=⟨w.heap.size,1,none⟩) hlw).trans (hgrow6.cell k1 hne6),(A6.frozen (p:=⟨w.heap.size,0,none⟩) hlw).trans (qR6 hgrow6 hla hne6 k2),(A6.frozen (p:=⟨w.heap.size,1,none⟩) hlw).trans (qR6 hgrow6 hla hne6 k3),BW6.trans (A6.mono BW6.size)⟩
 clear hown6 hgrow6 k0 k1 k2 k3 A6 BW6 hne6 hla H5 G5 D0;go_wp2_with fail
 generalize w6.alloc (.cells #[iv 0,.slice (some ⟨w.heap.size+1,0,none⟩) 0 0] 272)=w7 at T6 ⊢
 rw[HS6.out]at T6;generalize hbo:w.heap.size+1+1=bo at T6 ⊢
 clear hbo hw6;go_loopw [6] (fun i wr=>∃(k:Nat) (all:List LkI) (g cp:Nat),k<=m/\i=iv (k:Int)/\Hid (TkS ([]:List LkI) ys k all/\TT w wr bo all g cp)) (fun i _=>m-(intOf i).toNat)
 case atStart=>exact⟨0,([]:List LkI),(w.heap.size+1),0,gH _,rfl,HS0.out,T6.out⟩
 case round =>
  obtain⟨k,all,g,cp,hk,rfl,HK⟩:=hrel;by_cases hlt:k<m
  .have hlt':(k:Int)<(m:Int):=by omega
   obtain⟨b1,o1,y,e1,hy,hr,hb1⟩:=HY.out.at hlt
   subst e1;obtain⟨c0,c1,c2,c3⟩:=hr.below HK.out.2.bel hb1;have HYK:=hJJ hy;have A1:Below wr.heap.size wr (wr.alloc (.cells #[iv y.e,iv y.c,iv y.p,iv y.f] 171)):=zN;have T1:Hid (TT w (wr.alloc (.cells #[iv y.e,iv y.c,iv y.p,iv y.f] 171)) bo all g cp):=HK.out.2.below A1;have Y1:Hid (QF3 (wr.alloc (.cells #[iv y.e,iv y.c,iv y.p,iv y.f] 171)) wr.heap.size 0 y):=by simp[Hid,QF3]
   have hzb:wr.heap.size<(wr.alloc (.cells #[iv y.e,iv y.c,iv y.p,iv y.f] 171)).heap.size:=by simp
   clear hy hr A1;go_upto_region 6 with fail
   clear c0 c1 c2 c3;generalize wr.alloc (.cells #[iv y.e,iv y.c,iv y.p,iv y.f] 171)=w1 at T1 Y1 hzb ⊢
   obtain⟨y0,y1,y2,y3⟩:=Y1.out;simp only[gG]at y0 y1 y2 y3;go_wp2_with fail
   refine (qLX _ 0 0 ([]:List LkI) y.e y.c y.p _ (HG.out.below T1.out.bel) (by omega)).mono ?_;rintro e w2 ⟨rfl,hb2⟩;have T2:Hid (TT w w2 bo all g cp):=T1.out.below hb2;have Y2:Hid (QF3 w2 wr.heap.size 0 y):=Y1.out.below hb2 hzb;have hzb2:wr.heap.size<w2.heap.size:=by have:=hb2.size;omega
   clear hb2 T1 Y1 hzb y0 y1 y2 y3;obtain⟨y0,y1,y2,y3⟩:=Y2.out;simp only[gG]at y0 y1 y2 y3;obtain⟨F,hF⟩:∃F,qE6 ([]:List LkI) y.e y.c y.p=F:=⟨_,rfl⟩;have HF:=hJJ hF;rw[hF];clear hF;by_cases f0:F=0
   .subst f0;have HN:Hid (TkS ([]:List LkI) ys (k+1) (QD6 all y)):=HK.out.1.put HYS.out HYK.out (HYO.out y (gO HYK.out)) HF.out;obtain⟨x0,x1⟩:w2.cell? ⟨bo,0,none⟩=some (iv 0)/\w2.cell? ⟨bo,1,none⟩=some (.slice (some ⟨g,0,none⟩) all.length cp):=⟨T2.out.x0,T2.out.x1⟩;have hlen:all.length<=300:=by have:=HK.out.1.len;have:=HZ.out;omega
    go_wp2_with fail
    refine (qIN w.heap.size g all.length cp all y _ rfl (by omega) T2.out.ow HK.out.1.sl T2.out.bel.size).mono ?_;rintro e w3 ⟨g',cp',rfl,ho3,hb3⟩;have T3:Hid (TT w w3 bo all g cp):=T2.out.below hb3;have hl3:all.length+1=(QD6 all y).length:=(QG0 all y).symm
    have HP:Hid (TT w (w3.setCell ⟨bo,1,none⟩ (.slice (some ⟨g',0,none⟩) (all.length+1) cp')) bo (QD6 all y) g' cp'):=by
     have hg':=(QO8 ho3 g' rfl).1;rw[hl3]at ho3 ⊢
     exact T3.out.put (qB0 ho3 T2.out.bel.size) (by have:=T2.out.lt;omega) (by have:=T2.out.lt;have:=T2.out.bg;omega)
    have q1:=T3.out.x1;have q2:=T3.out.f1;clear ho3 hb3 T2 T3 x0 x1 y0 y1 y2 y3 hl3;go_wp2_with fail
    exact⟨⟨k+1,QD6 all y,g',cp',by omega,by go_num,HN.out,HP.out⟩,by simp[intOf];omega⟩
   .have b0':(F != 0)=true:=by simpa using f0
    have b1':(F==0)=false:=by simpa using f0
    by_cases f1:F=y.f
    .have b2':(F != y.f)=false:=by simp[f1]
     have HN:Hid (TkS ([]:List LkI) ys (k+1) all):=HK.out.1.stay HYK.out (by rw[HF.out];exact f0) (by rw[HF.out];exact f1);clear f0 f1;go_wp2_with fail
     exact⟨⟨k+1,all,g,cp,by omega,by go_num,HN.out,T2.out⟩,by simp[intOf];omega⟩
    .have b2':(F != y.f)=true:=by simpa using f1
     have HN:Hid (c=6/\L=[]):=by
      have h1:qJ4 ([]:List LkI) ys (k+1)=none:=by
       rw[qJ3 HK.out.1.tk HYK.out,qO2,gI (by rw[HF.out];exact f0),gI (by rw[HF.out];exact f1)]
      have:=QF7 h1 (by rw[HM.out];omega);rw[HC.out,HL.out]at this;exact this
     obtain⟨r0,r1⟩:w2.cell? ⟨w.heap.size,0,none⟩=some (iv 0)/\w2.cell? ⟨w.heap.size,1,none⟩=some (.slice none 0 0):=⟨T2.out.r0,T2.out.r1⟩;have e0:=T2.out.e0;have e1:=T2.out.e1;clear f0 f1;go_wp2_with fail
     obtain⟨hc6,hL6⟩:=HN.out;rw[hc6,hL6];refine gQ (v:=.agg #[iv 6,.slice none 0 0]) (by simp[results,results236,go_sem,r0,r1]) rfl ⟨none,0,rfl,jB _ _ _ _,?_⟩;exact (T2.out.bel.setCell (gB _) _).setCell (gB _) _
  .have hkm:k=m:=by omega
   subst hkm;obtain⟨x0,x1⟩:wr.cell? ⟨bo,0,none⟩=some (iv 0)/\wr.cell? ⟨bo,1,none⟩=some (.slice (some ⟨g,0,none⟩) all.length cp):=⟨HK.out.2.x0,HK.out.2.x1⟩;obtain⟨r0,r1⟩:wr.cell? ⟨w.heap.size,0,none⟩=some (iv 0)/\wr.cell? ⟨w.heap.size,1,none⟩=some (.slice none 0 0):=⟨HK.out.2.r0,HK.out.2.r1⟩;have e0:=HK.out.2.e0;have e1:=HK.out.2.e1;have htk:qJ4 ([]:List LkI) ys ys.length=some all:=by rw[HM.out];exact HK.out.1.tk
   by_cases h200:200<all.length
   .have hl2:(200:Int)<(all.length:Int):=by omega
    have HN:Hid (c=2/\L=[]):=by
     have:=QY8 htk h200;rw[HC.out,HL.out]at this;exact this
    clear htk;go_wp2_with fail
    obtain⟨hc6,hL6⟩:=HN.out;rw[hc6,hL6];refine gQ (v:=.agg #[iv 2,.slice none 0 0]) (by simp[results,results236,go_sem,r0,r1]) rfl ⟨none,0,rfl,jB _ _ _ _,?_⟩;exact (HK.out.2.bel.setCell (gB _) _).setCell (gB _) _
   .have hl2:(all.length:Int)<=200:=by omega
    have HN:Hid (c=0/\L=all):=by
     have:=QI4 htk h200;rw[HC.out,HL.out]at this;exact this
    clear htk;go_wp2_with fail
    obtain⟨hc6,hL6⟩:=HN.out;rw[hc6,hL6];refine gQ (v:=.agg #[iv 0,.slice (some ⟨g,0,none⟩) all.length cp]) (by simp[results,results236,go_sem,r0,r1]) rfl ⟨some ⟨g,0,none⟩,cp,rfl,?_,?_⟩
    .have k1:=qY8 wr w.heap.size (iv 0) (.slice (some ⟨g,0,none⟩) all.length cp);exact World.ownsRow.kept (row:=some w.heap.size) HK.out.2.ow k1 (.inr (by have:=HK.out.2.gg;simp[Value.ownBlock];omega))
    .exact (HK.out.2.bel.setCell (gB _) _).setCell (gB _) _
section
open Go.RowKit Go.Shelf Go.Lib
theorem qN2{P:Program}(w:World)(dT sT ty elem:TypeId)(k b o dLen dCap:Nat)(a:Addr)(sLen sCap:Nat)(cs:List Value)(hu:P.underlying dT=some (.slice elem))(hs:(P.info? elem).map (·.size)=some k)(q:Nat)(hq:Nat.min sLen dLen=q)(hn:cs.length=q*k)(hsrc:∀j v,cs[j]?=some v->w.cell? (a.add j)=some v)(hc:∀j,j<cs.length->(w.cell? ⟨b,o+j,none⟩).isSome=true)(hf:∀j,j<cs.length->w.frozen? ⟨b,o+j,none⟩=false)(h1:∀v∈cs,v.oneCell'=true):
  (Builtin.copy_ #[dT,sT] ty #[.slice (some ⟨b,o,none⟩) dLen dCap,.slice (some a) sLen sCap]).run P w=.ok (goInt q) (w.setCells b o cs):=by
 have hl:=run_loadCells_list (P:=P) w a cs hsrc;have hst:=run_storeCells_cells (P:=P) b o cs 0 w (by simpa using hc) (by simpa using hf) h1;cases hq':P.info? elem with
 | none=>simp[hq']at hs
 | some i =>
  have hi:i.size=k:=by simpa[hq'] using hs
  simp[Builtin.copy_,run_underlying hu,Builtin.lenOf,Builtin.firstCells,sizeOf,typeInfo,hq',hi,hq,<- hn,hl,hst]
theorem qBY(g n c i vb:Nat)(cs vs:List Value)(w:World)(hi:i<n)(hn:n<=1000)(hroom:n+1<=c)(hc63:c<=9223372036854775807)(hvb:vb≠g)(hcl:cs.length=n*4)(hvl:vs.length=4)(hcs:∀j v,cs[j]?=some v->w.cell? ⟨g,j,none⟩=some v)(hsp:∀j,j<(n+1)*4->(w.cell? ⟨g,j,none⟩).isSome=true)(hfz:∀j,j<(n+1)*4->w.frozen? ⟨g,j,none⟩=false)(hvs:∀j v,vs[j]?=some v->w.cell? ⟨vb,j,none⟩=some v)(h1c:∀v∈cs,v.oneCell'=true)(h1v:∀v∈vs,v.oneCell'=true)(tA tB:TypeId)(kA kB:Nat)(hsa:w.shape? vb=some (tA,kA))(hsb:w.shape? g=some (tB,kB))(hkB:kB≠0)(hfa:w.frozen? ⟨vb,0,none⟩=false)(hfe:w.frozen? ⟨vb,kA,none⟩=false):
  CP 300 #[.slice (some ⟨g,0,none⟩) n c,iv (i:Int),.slice (some ⟨vb,0,none⟩) 1 1] w fun e w' =>
   e=.returned (.slice (some ⟨g,0,none⟩) (n+1) c)/\w'=(w.drew.setCells g ((i+1)*4) (cs.drop (i*4))).setCells g (i*4) vs:=by
 obtain⟨i0,hi0,hz0,hz1,hz2⟩:=jT Tryz.info171;have hsz:(prog.info? 171).map (·.size)=some 4:=by rw[hi0];simp[hz1]
 have q2:¬ ((i:Int)=(n:Int)):=by omega
 have hin:(i:Int)<=(n:Int):=by omega
 have hi0':(0:Int)<=(i:Int):=by omega
 have hcn:(n:Int)+1<=(c:Int):=by omega
 have hci:¬ (c=i):=by omega
 have hci1:¬ (c=i+1):=by omega
 have hnc:(n:Int)<=(c:Int):=by omega
 have hii:(i:Int)+1<=(n:Int)+1:=by omega
 have hov:∀(a:Addr) lb cb (W:World),a.block=g->W=w->(callFunc 314 #[.slice (some ⟨vb,0,none⟩) 1 1,.slice (some a) lb cb]).run prog W=.ok (.value (.bool false)) W:=fun a lb cb W ha hW=>by
  subst hW
  rw[jK func314 (by kernel_rfl) (by kernel_rfl) (by kernel_rfl) (e:=Extern.SlicesOverlaps.overlaps #[113,113] #[4]) (by kernel_rfl),
   Lib.run_overlaps_apart W 113 4 171 underlying113 4 sizeOf171 ⟨vb,0,none⟩ a 1 1 lb cb (by rw[ha];exact hvb) tA tB kA kB hsa (by rw[ha];exact hsb) hkB hfa hfe]
  rfl
 have htn:((i:Int)+1).toNat=i+1:=by omega
 have mixed:prog.follows Departure.mixedOrders=true:=by kernel_rfl
 have hw1:IntKind.i64.wrap ((i:Int)+1)=(i:Int)+1:=by rw[kG];omega
 have hb1:(0:Int)<=(i:Int)+1:=by omega
 have hb3:(i:Int)<=(n:Int)+1:=by omega
 have hdl:(cs.drop (i*4)).length=(n-i)*4:=by rw[kW,hcl];omega
 have hcp1:∀ty o1 o2 dl dc sl sc,o1=(i+1)*4->o2=i*4->Nat.min sl dl=n-i->(Builtin.copy_ #[113,113] ty #[.slice (some ⟨g,o1,none⟩) dl dc,.slice (some ⟨g,o2,none⟩) sl sc]).run prog w.drew=.ok (goInt (n-i:Nat)) (w.drew.setCells g ((i+1)*4) (cs.drop (i*4))):=fun ty o1 o2 dl dc sl sc e1 e2 hmin=>by
  subst e1 e2
  exact qN2 w.drew _ _ ty 171 4 g ((i+1)*4) dl dc ⟨g,i*4,none⟩ sl sc (cs.drop (i*4)) underlying113 hsz (n-i) hmin hdl
   (fun j v hj=>by rw[gR];exact hcs (i*4+j) v (by rwa [List.getElem?_drop]at hj))
   (fun j hj=>hsp _ (by omega)) (fun j hj=>hfz _ (by omega)) (fun v hv=>h1c v (List.mem_of_mem_drop hv))
 obtain⟨W1,hW1⟩:∃W1,W1=w.drew.setCells g ((i+1)*4) (cs.drop (i*4)):=⟨_,rfl⟩
 have hsp1:∀k,k<(n+1)*4->(W1.cell? ⟨g,k,none⟩).isSome=true:=fun k hk=>by
  rw[hW1];exact isSome_setCells g (cs.drop (i*4)) ((i+1)*4) w.drew (fun j hj=>hsp ((i+1)*4+j) (by omega)) k (hsp k hk)
 have hcp2:∀(W:World),(∀x,W.cell? x=W1.cell? x)->(∀x,W.frozen? x=W1.frozen? x)->∀ty o2 dl dc,o2=i*4->Nat.min 1 dl=1->(Builtin.copy_ #[113,113] ty #[.slice (some ⟨g,o2,none⟩) dl dc,.slice (some ⟨vb,0,none⟩) 1 1]).run prog W=.ok (goInt (1:Nat)) (W.setCells g (i*4) vs):=fun W hWc hWf ty o2 dl dc e2 hmin=>by
  subst e2
  exact qN2 W _ _ ty 171 4 g (i*4) dl dc ⟨vb,0,none⟩ 1 1 vs underlying113 hsz 1 hmin (by rw[hvl])
   (fun j v hj=>by
    rw[gR,gG,hWc,hW1,World.cell?_setCells_out g _ _ _ _ (fun h _=>absurd h hvb)];exact hvs j v hj)
   (fun j hj=>by rw[hWc];exact hsp1 _ (by omega)) (fun j hj=>by rw[hWf,hW1,World.frozen?_setCells];exact hfz _ (by omega)) h1v
 rw[<- hW1]at hcp1;have m1:Nat.min (n+1-i) (n-i)=n-i:=by simp only[Nat.min_def];split <;> omega
 have m2:Nat.min 1 (n+1-i)=1:=by simp only[Nat.min_def];split <;> omega
 go_enter func300,ntmps300;go_wp2_with fail
 go_region_law_o (refine step_copy_runI rfl _ _ 113 113 rfl _ _ (by simp[Act.eval,Act.put]) (by simp[Act.eval,Act.put]) (hcp1 _ _ _ _ _ _ _ (by first | rfl | omega) (by first | rfl | omega) (by first | exact m1 | (simp only[Nat.min_def];split <;> omega))) ?_)
 go_wp2_with (at_builtin;refine wpList_copy_runI _ rfl _ _ 113 113 rfl _ _ rfl rfl (hcp2 _ (fun _=>rfl) (fun _=>rfl) _ _ _ _ (by first | rfl | omega) (by first | exact m2 | (simp only[Nat.min_def];split <;> omega))) ?_)
 go_ret;first | exact⟨rfl,rfl⟩ | exact⟨rfl,by rw[hW1]⟩
end
section
open Go.RowKit Go.Shelf Go.Lib
def QZ6:List Value->Nat->List Value->List Value
 | fs,_,[]=>fs
 | fs,o,v::r=>QZ6 (fs.set o v) (o+1) r
theorem QA4:∀(vs a b c:List Value),b.length=vs.length->QZ6 (a++b++c) a.length vs=a++vs++c
 | [],a,b,c,h=>by
  have : b=[]:=List.eq_nil_of_length_eq_zero h;simp[QZ6,this]
 | v::r,a,[],c,h=>by simp at h
 | v::r,a,b0::b,c,h=>by
  have e1:(a++b0::b++c).set a.length v=(a++[v])++b++c:=by
   rw[List.append_assoc,List.set_append_right _ _ (gB _),Nat.sub_self];simp
  have e2:=QA4 r (a++[v]) b c (by simpa using h);rw[QZ6,e1,show a.length+1=(a++[v]).length by simp,e2];simp
theorem qY4(vs:List Value):∀(w:World) (B g n cap:Nat) (fs:List Value) (o:Nat),w.ownsRow B 171 4 (.slice (some ⟨g,0,none⟩) n cap) n fs ->
  (w.setCells g o vs).ownsRow B 171 4 (.slice (some ⟨g,0,none⟩) n cap) n (QZ6 fs o vs)/\w.grownBy (w.setCells g o vs) (some g):=by
 induction vs with
 | nil=>intro w B g n cap fs o h;exact⟨h,QC8 _ _⟩
 | cons v r ih =>
  intro w B g n cap fs o h;have h1:=h.stored o v;have h2:=ih _ B g n cap _ (o+1) h1.1;exact⟨h2.1,qAR h1.2 h2.2⟩
theorem qU5(all:List LkI)(i:Nat)(hi:i<=all.length):qA2 all=qA2 (all.take i)++qA2 (all.drop i)/\(qA2 (all.take i)).length=i*4/\(qA2 (all.drop i)).length=(all.length-i)*4:=by
 refine⟨by rw[<- qR7,List.take_append_drop],?_,?_⟩
 .rw[qG0,kI,Nat.min_eq_left hi]
 .rw[qG0,kW]
theorem qGV(all:List LkI)(i:Nat)(hi:i<=all.length):(qA2 all).take (i*4)=qA2 (all.take i)/\(qA2 all).drop (i*4)=qA2 (all.drop i):=by
 obtain⟨e,l1,l2⟩:=qU5 all i hi;rw[e];exact⟨by rw[List.take_append_of_le_length (by omega),gV (by omega)],by rw[List.drop_append_of_le_length (by omega),jH (by omega),kR]⟩
def vLk(x:LkI):List Value:=[iv x.e,iv x.c,iv x.p,iv x.f]
theorem QX7(all:List LkI)(i:Nat)(x:LkI):qA2 (all.take i++x::all.drop i)=qA2 (all.take i)++vLk x++qA2 (all.drop i):=by
 rw[qR7];simp[qA2,vLk]
theorem qII(all:List LkI)(i:Nat)(x:LkI)(hi:i<=all.length)(ys:List Value)(hy:ys.length=4):
  QZ6 (QZ6 (qA2 all++ys) ((i+1)*4) (qA2 (all.drop i))) (i*4) (vLk x)=qA2 (all.take i++x::all.drop i):=by
 obtain⟨e,l1,l2⟩:=qU5 all i hi;have hL:(qA2 all++ys).length=(all.length+1)*4:=by rw[jD,qG0,hy];omega
 have s1:=QA4 (qA2 (all.drop i)) ((qA2 all++ys).take ((i+1)*4)) ((qA2 all++ys).drop ((i+1)*4)) [] (by rw[kW,hL,l2];omega);rw[List.append_nil,List.append_nil,List.take_append_drop,kI,hL,Nat.min_eq_left (by omega)]at s1;rw[s1]
 have t1:(qA2 all++ys).take ((i+1)*4)=qA2 (all.take i)++((qA2 all++ys).take ((i+1)*4)).drop (i*4):=by
  have h:=List.take_append_drop (i*4) ((qA2 all++ys).take ((i+1)*4));rw[List.take_take,Nat.min_eq_left (by omega),e,List.append_assoc,List.take_append_of_le_length (by omega),gV (by omega),<- List.append_assoc,<- e]at h;exact h.symm
 have s2:=QA4 (vLk x) (qA2 (all.take i)) (((qA2 all++ys).take ((i+1)*4)).drop (i*4)) (qA2 (all.drop i)) (by rw[kW,kI,hL,Nat.min_eq_left (by omega)];simp[vLk];omega);rw[<- t1,l1]at s2;rw[s2,QX7]
theorem qKN(all:List LkI)(i:Nat)(x:LkI)(hi:i<=all.length)(zs:List Value)(hz:zs.length=(all.length+1-i)*4):
  QZ6 (QZ6 (qA2 (all.take i)++zs) (i*4) (vLk x)) ((i+1)*4) (qA2 (all.drop i))=qA2 (all.take i++x::all.drop i):=by
 obtain⟨e,l1,l2⟩:=qU5 all i hi;have s1:=QA4 (vLk x) (qA2 (all.take i)) (zs.take 4) (zs.drop 4) (by rw[kI];simp[vLk];omega);rw[List.append_assoc,List.take_append_drop,l1]at s1;rw[s1];have s2:=QA4 (qA2 (all.drop i)) (qA2 (all.take i)++vLk x) (zs.drop 4) [] (by rw[kW,l2,hz];omega);rw[List.append_nil,List.append_nil,jD,l1,show (vLk x).length=4 from rfl,show i*4+4=(i+1)*4 by omega]at s2;rw[s2,QX7]
theorem QU4{w:World}{vb:Nat}{x:LkI}(h:QF3 w vb 0 x):∀j v,(vLk x)[j]?=some v->w.cell? ⟨vb,j,none⟩=some v:=by
 intro j v hj;obtain⟨h0,h1,h2,h3⟩:=h;match j with
 | 0=>simp[vLk]at hj;subst hj;exact h0
 | 1=>simp[vLk]at hj;subst hj;exact h1
 | 2=>simp[vLk]at hj;subst hj;exact h2
 | 3=>simp[vLk]at hj;subst hj;exact h3
 | k+4=>simp[vLk]at hj
theorem QI2(x:LkI):∀v∈vLk x,v.oneCell'=true:=by
 intro v hv;simp[vLk]at hv;rcases hv with e | e | e | e <;> subst e <;> rfl
theorem qDO(g n c i vb:Nat)(cs vs:List Value)(w:World)(hi:i<n)(hn:n<=1000)(hnc:n<=c)(hroom:c<n+1)(hcl:cs.length=n*4)(hvl:vs.length=4)(hcs:∀j v,cs[j]?=some v->w.cell? ⟨g,j,none⟩=some v)(hvs:∀j v,vs[j]?=some v->w.cell? ⟨vb,j,none⟩=some v)(h1c:∀v∈cs,v.oneCell'=true)(h1v:∀v∈vs,v.oneCell'=true):
  CP 300 #[.slice (some ⟨g,0,none⟩) n c,iv (i:Int),.slice (some ⟨vb,0,none⟩) 1 1] w fun e w' =>
   e=.returned (.slice (some ⟨w.heap.size,0,none⟩) (n+1) (grownCap w (n+1) c 171)) /\
   w'=(((w.alloc (.cells ((cs.take (i*4)).toArray++Builtin.zeroCells (Value.agg #[iv 0,iv 0,iv 0,iv 0]).cells (n+1-i)++Builtin.zeroCells (Value.agg #[iv 0,iv 0,iv 0,iv 0]).cells (grownCap w (n+1) c 171-(n+1))) 171)).drew.setCells w.heap.size (i*4) vs).drew).setCells w.heap.size ((i+1)*4) (cs.drop (i*4)):=by
 obtain⟨i0,hi0,hz0,hzs,hzb⟩:=jT Tryz.info171;have hsz:(prog.info? 171).map (·.size)=some 4:=by rw[hi0];simp[hzs]
 have mixed:prog.follows Departure.mixedOrders=true:=by kernel_rfl
 have hz2:¬ ((i:Int)=(n:Int)):=by omega
 have hz3:(c:Int)<(n:Int)+1:=by omega
 have hbw:g<w.heap.size:=block_lt_of_cell (hcs 0 _ (gA (by omega)));have hvw:vb<w.heap.size:=block_lt_of_cell (hvs 0 _ (gA (by omega)));have hkk:(n:Int)+1-(i:Int)=((n+1-i:Nat):Int):=by omega
 have hik:i+(n+1-i)=n+1:=by omega
 have hold:(Builtin.firstCells i0.size i (.slice (some ⟨g,0,none⟩) i c)).run prog w.drew=.ok (cs.take (i*4)).toArray w.drew:=by
  rw[hzs]
  exact run_firstCells_some w.drew 4 i ⟨g,0,none⟩ i c (cs.take (i*4)) (by rw[kI];omega) (fun j v hj=>by
   rw[gR,gG];rw[jJ]at hj;split at hj
   .exact hcs j v hj
   .cases hj)
 have hrz:∀ty,(Builtin.append_ #[113,3] ty #[.slice (some ⟨g,0,none⟩) i c,iv ((n:Int)+1-(i:Int))]).run prog w =
   .ok (.slice (some ⟨w.heap.size,0,none⟩) (n+1) (grownCap w (n+1) c 171)) (w.drew.alloc (.cells ((cs.take (i*4)).toArray++Builtin.zeroCells (Value.agg #[iv 0,iv 0,iv 0,iv 0]).cells (n+1-i)++Builtin.zeroCells (Value.agg #[iv 0,iv 0,iv 0,iv 0]).cells (grownCap w (n+1) c 171-(n+1))) 171)):=fun ty=>by
  have h:=Lib.run_append_grow_zeros w 113 3 ty 171 i0 _ .i64 .i64 underlying113 (by kernel_rfl) hi0 hz0 (some ⟨g,0,none⟩) i c (cs.take (i*4)) hold (n+1-i) (by omega) (by omega) (by omega) (by omega) (by rw[hzb];omega) (by rw[hzb,hik];exact growslice_fits hroom (by omega));rw[hik]at h;rw[hkk];exact h
 obtain⟨G,hG⟩:∃G,G=grownCap w (n+1) c 171:=⟨_,rfl⟩;obtain⟨ROW,hROW⟩:∃ROW:Array Value,ROW=(cs.take (i*4)).toArray++Builtin.zeroCells (Value.agg #[iv 0,iv 0,iv 0,iv 0]).cells (n+1-i)++Builtin.zeroCells (Value.agg #[iv 0,iv 0,iv 0,iv 0]).cells (G-(n+1)):=⟨_,rfl⟩;rw[<- hG]at hrz ⊢
 rw[<- hROW]at hrz ⊢
 have hGn:n+1<=G:=by rw[hG];exact grownCap_ge w _ _ _
 have hRl:(n+1)*4<=ROW.size:=by
  rw[hROW];simp[Builtin.zeroCells,Value.cells];omega
 obtain⟨W1,hW1⟩:∃W1,W1=w.drew.alloc (.cells ROW 171):=⟨_,rfl⟩;rw[<- hW1]at hrz
 have hN:∀j,j<(n+1)*4->(W1.cell? ⟨w.heap.size,j,none⟩).isSome=true:=fun j hj=>by
  rw[hW1,World.cell?_alloc_at (w:=w.drew) ROW _ w.heap.size j rfl,Array.getElem?_eq_getElem (by omega)];rfl
 have hNf:∀j,W1.frozen? ⟨w.heap.size,j,none⟩=false:=fun j=>by rw[hW1];exact World.frozen?_alloc_at (w:=w.drew) ROW _ w.heap.size j rfl
 have hOb:∀j v,w.cell? ⟨g,j,none⟩=some v->W1.cell? ⟨g,j,none⟩=some v:=fun j v h=>by rw[hW1,World.cell?_alloc_past (w:=w.drew) _ g j hbw];exact h
 have hOv:∀j v,w.cell? ⟨vb,j,none⟩=some v->W1.cell? ⟨vb,j,none⟩=some v:=fun j v h=>by rw[hW1,World.cell?_alloc_past (w:=w.drew) _ vb j hvw];exact h
 have hcpA:∀(W:World),(∀x,W.cell? x=W1.cell? x)->(∀x,W.frozen? x=W1.frozen? x)->∀ty o1 dl dc,o1=i*4->dl=n+1-i->(Builtin.copy_ #[113,113] ty #[.slice (some ⟨w.heap.size,o1,none⟩) dl dc,.slice (some ⟨vb,0,none⟩) 1 1]).run prog W=.ok (goInt (1:Nat)) (W.setCells w.heap.size (i*4) vs):=fun W hWc hWf ty o1 dl dc e1 e2=>by
  subst e1 e2
  exact qN2 W _ _ ty 171 4 w.heap.size (i*4) (n+1-i) dc ⟨vb,0,none⟩ 1 1 vs underlying113 hsz 1 (by simp only[Nat.min_def];split <;> omega) (by rw[hvl])
   (fun j v hj=>by rw[gR,gG,hWc];exact hOv _ v (hvs j v hj))
   (fun j hj=>by rw[hWc];exact hN _ (by omega)) (fun j hj=>by rw[hWf];exact hNf _) h1v
 have hG63:G<=9223372036854775807:=by
  have:=grownCap_le_maxLen w (n+1) c 171 (by unfold maxLen;omega);rw[<- hG]at this;unfold maxLen at this;omega
 have hGi:¬ (G=i):=by omega
 have hGim:¬ (G=i+1):=by omega
 have hci:¬ (c=i):=by omega
 have hbN:g≠w.heap.size:=by omega
 have hdl:(cs.drop (i*4)).length=(n-i)*4:=by rw[kW,hcl];omega
 have hcpB:∀(W:World),(∀x,W.cell? x=(W1.setCells w.heap.size (i*4) vs).cell? x)->(∀x,W.frozen? x=(W1.setCells w.heap.size (i*4) vs).frozen? x)->∀ty o1 o2 dl dc sl sc,o1=(i+1)*4->o2=i*4->dl=n-i->sl=n-i->(Builtin.copy_ #[113,113] ty #[.slice (some ⟨w.heap.size,o1,none⟩) dl dc,.slice (some ⟨g,o2,none⟩) sl sc]).run prog W=.ok (goInt (n-i:Nat)) (W.setCells w.heap.size ((i+1)*4) (cs.drop (i*4))):=fun W hWc hWf ty o1 o2 dl dc sl sc e1 e2 e3 e4=>by
  subst e1 e2 e3 e4
  exact qN2 W _ _ ty 171 4 w.heap.size ((i+1)*4) (n-i) dc ⟨g,i*4,none⟩ (n-i) sc (cs.drop (i*4)) underlying113 hsz (n-i) (by simp only[Nat.min_def];split <;> omega) hdl
   (fun j v hj=>by
    rw[gR,hWc,World.cell?_setCells_out _ _ _ _ _ (fun h _=>absurd h hbN)];exact hOb _ v (hcs (i*4+j) v (by rwa [List.getElem?_drop]at hj)))
   (fun j hj=>by rw[hWc];exact isSome_setCells _ _ _ _ (fun t ht=>hN _ (by omega)) _ (hN _ (by omega)))
   (fun j hj=>by rw[hWf,World.frozen?_setCells];exact hNf _) (fun v hv=>h1c v (List.mem_of_mem_drop hv))
 subst hW1;have hE1:∀x,((w.alloc (.cells ROW 171)).drew).cell? x=(w.drew.alloc (.cells ROW 171)).cell? x:=fun x=>rfl
 have hE2:∀x,((w.alloc (.cells ROW 171)).drew).frozen? x=(w.drew.alloc (.cells ROW 171)).frozen? x:=fun x=>rfl
 have hF1:∀x,(((w.alloc (.cells ROW 171)).drew.setCells w.heap.size (i*4) vs).drew).cell? x=((w.drew.alloc (.cells ROW 171)).setCells w.heap.size (i*4) vs).cell? x:=fun x=>rfl
 have hF2:∀x,(((w.alloc (.cells ROW 171)).drew.setCells w.heap.size (i*4) vs).drew).frozen? x=((w.drew.alloc (.cells ROW 171)).setCells w.heap.size (i*4) vs).frozen? x:=fun x=>rfl
 have hw1:IntKind.i64.wrap ((i:Int)+1)=(i:Int)+1:=by rw[kG];omega
 have hb1:(0:Int)<=(i:Int)+1:=by omega
 have hin:i<=n:=by omega
 have htn:((i:Int)+1).toNat=i+1:=by omega
 have hb3:(i:Int)<=(n:Int):=by omega
 clear hkk hik hold hROW hG hRl;go_enter func300,ntmps300
 go_wp2_with (first
  | (at_builtin;refine Lib.wpList_append_run _ rfl _ _ _ _ rfl _ _ rfl rfl _ _ (hrz _) ?_)
  | (at_builtin;refine wpList_copy_runI _ rfl _ _ 113 113 rfl _ _ rfl rfl (hcpA _ hE1 hE2 _ _ _ _ (by first | rfl | omega) (by first | rfl | omega)) ?_))
 go_region_law_o (refine step_copy_runI rfl _ _ 113 113 rfl (.slice (some ⟨w.heap.size,(i+1)*4,none⟩) (n-i) (G-(i+1))) (.slice (some ⟨g,i*4,none⟩) (n-i) (c-i)) (by simp[Act.eval,Act.put]) (by simp[Act.eval,Act.put]) (hcpB _ hF1 hF2 3 _ _ _ (G-(i+1)) _ (c-i) rfl rfl rfl rfl) ?_)
 go_wp2;go_ret;exact⟨rfl,rfl⟩
end
section
open Go.RowKit Go.Shelf Go.Lib
def qPN(B:Nat)(row:Option Nat)(L:List LkI)(w:World)(e:Ending)(w':World):Prop:=∃g' cap':Nat,e=.returned (.slice (some ⟨g',0,none⟩) L.length cap')/\qB2 w' B (.slice (some ⟨g',0,none⟩) L.length cap') L/\w.grownBy w' row
theorem qGN(B:Nat)(a:Option Addr)(n cap vb:Nat)(all:List LkI)(x:LkI)(w:World)(hl:n=all.length)(hn:n<=1000)(hB:B<=w.heap.size)(h:qB2 w B (.slice a n cap) all)(hx:QF3 w vb 0 x):
  CP 300 #[.slice a n cap,iv (n:Int),.slice (some ⟨vb,0,none⟩) 1 1] w (qPN B (Value.slice a n cap).ownBlock (all++[x]) w):=by
 obtain⟨i0,hi0,hz0,hz1,hz2⟩:=jT Tryz.info171;have HO:Hid (w.ownsRow B 171 4 (.slice a n cap) n (qA2 all)):=by have h':=h;unfold qB2 at h';rw[<- hl]at h';exact h'
 have HL:=hJJ hl
 have hcn:n<=cap:=by
  rcases h.form with⟨e,e2⟩ | ⟨g,c2,e,_,_,k,_⟩
  .cases e;exact gH _
  .cases e;rw[hl];exact k
 have hnone:a=none->cap=0/\n=0:=fun e=>by
  rcases h.form with⟨e,e2⟩ | ⟨g,c2,e',_,_,k,_⟩
  .cases e;exact⟨rfl,rfl⟩
  .cases e';cases e
 have hc63:cap<=9223372036854775807:=by
  rcases h.2 with⟨e,e2⟩ | ⟨g,c2,cur,e,_,_,_,k,_⟩
  .cases e;omega
  .cases e;unfold maxLen at k;omega
 have hn':(n:Int)<=1000:=by omega
 have mixed:prog.follows Departure.mixedOrders=true:=by kernel_rfl
 clear h hl;cases a with
 | none =>
  obtain⟨e1,e2⟩:=hnone rfl;subst e1 e2;go_enter func300,ntmps300;go_wp2_with (at_builtin;refine jG _ rfl _ _ 113 rfl B 171 i0 (.agg #[iv 0,iv 0,iv 0,iv 0]) 4 32 underlying113 hi0 hz0 hz1 hz2 rfl (by decide) _ 0 (qA2 all) rfl HO.out ⟨vb,0,none⟩ 1 1 (vLk x) rfl rfl (fun j u hj=>by rw[gR,gG];exact QU4 hx j u hj) (QI2 x) (by unfold maxLen;omega) (by omega) hB ?_)
  intro v' w' hO hG hV;have hO':qB2 w' B v' (all++[x]):=qV9 (by rw[<- HL.out];exact hO);obtain⟨g',cap',e'⟩:=hO'.shape hV;subst e';go_wp2;go_ret;exact⟨g',cap',rfl,hO',hG⟩
 | some ad =>
  by_cases hcz:cap=n
  .subst hcz;go_enter func300,ntmps300;go_wp2_with (at_builtin;refine jG _ rfl _ _ 113 rfl B 171 i0 (.agg #[iv 0,iv 0,iv 0,iv 0]) 4 32 underlying113 hi0 hz0 hz1 hz2 rfl (by decide) _ cap (qA2 all) rfl HO.out ⟨vb,0,none⟩ 1 1 (vLk x) rfl rfl (fun j u hj=>by rw[gR,gG];exact QU4 hx j u hj) (QI2 x) (by unfold maxLen;omega) (by omega) hB ?_)
   intro v' w' hO hG hV;have hO':qB2 w' B v' (all++[x]):=qV9 (by rw[<- HL.out];exact hO);obtain⟨g',cap',e'⟩:=hO'.shape hV;subst e';go_wp2;go_ret;exact⟨g',cap',rfl,hO',hG⟩
  .go_enter func300,ntmps300;go_wp2_with (at_builtin;refine jG _ rfl _ _ 113 rfl B 171 i0 (.agg #[iv 0,iv 0,iv 0,iv 0]) 4 32 underlying113 hi0 hz0 hz1 hz2 rfl (by decide) _ n (qA2 all) rfl HO.out ⟨vb,0,none⟩ 1 1 (vLk x) rfl rfl (fun j u hj=>by rw[gR,gG];exact QU4 hx j u hj) (QI2 x) (by unfold maxLen;omega) (by omega) hB ?_)
   intro v' w' hO hG hV;have hO':qB2 w' B v' (all++[x]):=qV9 (by rw[<- HL.out];exact hO);obtain⟨g',cap',e'⟩:=hO'.shape hV;subst e';go_wp2;go_ret;exact⟨g',cap',rfl,hO',hG⟩
theorem qJy{w:World}{B g n cap:Nat}{xs:List Value}(h:w.ownsRow B 171 4 (.slice (some ⟨g,0,none⟩) n cap) n xs)(hc:n+1<=cap):∃ys,ys.length=4/\w.ownsRow B 171 4 (.slice (some ⟨g,0,none⟩) (n+1) cap) (n+1) (xs++ys)/\(∀j,j<(n+1)*4->(w.cell? ⟨g,j,none⟩).isSome=true)/\w.shape? g=some (171,cap*4):=by
 rcases h.2 with⟨e0,_⟩ | ⟨g',cap',cur,e0,hb,hg,hn,hm,hs,ht⟩
 .cases e0
 .injection e0 with e1 _ e3
  injection e1 with e1
  injection e1 with e1
  subst e1;subst e3;refine⟨(cur.toList.drop (n*4)).take 4,?_,⟨?_,.inr ⟨g,cap,cur,rfl,hb,hg,hc,hm,hs,?_⟩⟩,?_,?_⟩
  .rw[kI,kW,Array.length_toList,hs];omega
  .rw[jD,h.1,kI,kW,Array.length_toList,hs];omega
  .rw[<- ht,Nat.add_mul,Nat.one_mul,List.take_add]
  .intro j hj;simp[World.cell?,hg];omega
  .simp[World.shape?,hg,hs]
theorem qLP{w:World}{B g n cap:Nat}{xs:List Value}(h:w.ownsRow B 171 4 (.slice (some ⟨g,0,none⟩) n cap) n xs):∀j v,xs[j]?=some v->w.cell? ⟨g,j,none⟩=some v:=fun j v hj=>by
 have hk:j<xs.length:=by
  by_cases q:j<xs.length
  .exact q
  .rw[gE (by omega)]at hj;cases hj
 rw[h.cellAt j (by have:=h.1;omega)];exact hj
theorem qGO(B:Nat)(a:Option Addr)(n cap i vb:Nat)(all:List LkI)(x:LkI)(w:World)(hl:n=all.length)(hi:i<=n)(hn:n<=1000)(hB:B<=w.heap.size)(h:qB2 w B (.slice a n cap) all)(hx:QF3 w vb 0 x)(tA:TypeId)(hsa:w.shape? vb=some (tA,4))(hf:∀j,w.frozen? ⟨vb,j,none⟩=false)(hne:a≠some ⟨vb,0,none⟩):
  CP 300 #[.slice a n cap,iv (i:Int),.slice (some ⟨vb,0,none⟩) 1 1] w (qPN B (Value.slice a n cap).ownBlock (all.take i++x::all.drop i) w):=by
 by_cases hin:i=n
 .subst hin;have e1:all.take i++x::all.drop i=all++[x]:=by rw[gV (by omega),jH (by omega)]
  rw[e1];exact qGN B a i cap vb all x w hl hn hB h hx
 .have hlt:i<n:=by omega
  have hO:w.ownsRow B 171 4 (.slice a n cap) n (qA2 all):=by have h':=h;unfold qB2 at h';rw[<- hl]at h';exact h'
  obtain⟨g,c2,e,hBg,hgw,hcc,_⟩:∃g c2,Value.slice a n cap=.slice (some ⟨g,0,none⟩) n c2/\B<=g/\g<w.heap.size/\n<=c2/\c2<=maxLen:=by
   rcases hO.2 with⟨e,e2⟩ | ⟨g,c2,cur,e,k1,k2,k3,k4,_⟩
   .omega
   .exact⟨g,c2,e,k1,(gN.1 k2).1,k3,k4⟩
  cases e;have hvg:vb≠g:=fun e=>hne (by rw[e])
  have hlen:(all.take i++x::all.drop i).length=n+1:=by simp[hl];omega
  have hcut:=qGV all i (by omega);by_cases hr:n+1<=cap
  .obtain⟨ys,hy,hO2,hsp,hsh⟩:=qJy hO hr;refine (qBY g n cap i vb (qA2 all) (vLk x) w hlt hn hr (by unfold maxLen at *;omega) hvg (by rw[qG0,hl]) rfl (qLP hO) hsp (fun j _=>hO.frozenAt j) (QU4 hx) (qO6 _) (QI2 x) tA 171 4 (cap * 4) hsa hsh (by omega) (hf 0) (hf 4)).mono ?_;rintro e w' ⟨rfl,rfl⟩;have k1:=qY4 ((qA2 all).drop (i * 4)) w.drew B g (n+1) cap (qA2 all++ys) ((i+1) * 4) hO2.drew;have k2:=qY4 (vLk x) _ B g (n+1) cap _ (i * 4) k1.1;have k3:=k2.1;rw[hcut.2,qII all i x (by omega) ys hy]at k3;refine⟨g,cap,by rw[hlen],?_,?_⟩
   .unfold qB2;rw[hlen,hcut.2];exact k3
   .exact qAR (a:=w) (b:=w.drew) ⟨rfl,rfl,rfl,gB _,fun _ _ _=>rfl⟩ (qAR k1.2 k2.2)
  .refine (qDO g n cap i vb (qA2 all) (vLk x) w hlt hn hcc (by omega) (by rw[qG0,hl]) rfl (qLP hO) (QU4 hx) (qO6 _) (QI2 x)).mono ?_;rintro e w' ⟨rfl,rfl⟩;obtain⟨G,hG⟩:∃G,G=grownCap w (n+1) cap 171:=⟨_,rfl⟩;have hGn:n+1<=G:=by rw[hG];exact grownCap_ge w _ _ _
   have hGm:G<=maxLen:=by rw[hG];exact grownCap_le_maxLen w (n+1) cap 171 (by unfold maxLen;omega)
   rw[<- hG];obtain⟨zs,hzs⟩:∃zs,zs=Builtin.zeroCells (Value.agg #[iv 0,iv 0,iv 0,iv 0]).cells (n+1 - i):=⟨_,rfl⟩;obtain⟨us,hus⟩:∃us,us=Builtin.zeroCells (Value.agg #[iv 0,iv 0,iv 0,iv 0]).cells (G - (n+1)):=⟨_,rfl⟩;have hzl:zs.size=(n+1 - i) * 4:=by rw[hzs];simp[Builtin.zeroCells,Value.cells]
   have hul:us.size=(G - (n+1)) * 4:=by rw[hus];simp[Builtin.zeroCells,Value.cells]
   rw[<- hzs,<- hus,hcut.1,hcut.2];have htl:(qA2 (all.take i)).length=i * 4:=(qU5 all i (by omega)).2.1
   have hO2:(w.alloc (.cells ((qA2 (all.take i)).toArray++zs++us) 171)).ownsRow B 171 4 (.slice (some ⟨w.heap.size,0,none⟩) (n+1) G) (n+1) (qA2 (all.take i)++zs.toList):=by
    refine⟨by rw[jD,htl,Array.length_toList,hzl];omega,.inr ⟨w.heap.size,G,(qA2 (all.take i)).toArray++zs++us,rfl,hB,heap_alloc_new w _,hGn,hGm,?_,?_⟩⟩
    .rw[Array.size_append,Array.size_append,hzl,hul,kO,htl];omega
    .rw[Array.toList_append,Array.toList_append,List.take_append_of_le_length (by rw[jD,Array.length_toList,Array.length_toList,hzl,kO,htl];omega),gV (by rw[jD,Array.length_toList,Array.length_toList,hzl,kO,htl];omega)]
   have k0:=World.grownBy_alloc w (.cells ((qA2 (all.take i)).toArray++zs++us) 171) (some g);obtain⟨Z,hZ⟩:∃Z,Z=w.alloc (.cells ((qA2 (all.take i)).toArray++zs++us) 171):=⟨_,rfl⟩;rw[<- hZ]at hO2 k0 ⊢
   have k1:=qY4 (vLk x) Z.drew B w.heap.size (n+1) G _ (i * 4) hO2.drew;obtain⟨Z1,hZ1⟩:∃Z1,Z1=Z.drew.setCells w.heap.size (i * 4) (vLk x):=⟨_,rfl⟩;rw[<- hZ1]at k1 ⊢
   have k2:=qY4 (qA2 (all.drop i)) Z1.drew B w.heap.size (n+1) G _ ((i+1) * 4) k1.1.drew;obtain⟨Z2,hZ2⟩:∃Z2,Z2=Z1.drew.setCells w.heap.size ((i+1) * 4) (qA2 (all.drop i)):=⟨_,rfl⟩;rw[<- hZ2]at k2 ⊢
   have k3:=k2.1;rw[qKN all i x (by omega) zs.toList (by rw[Array.length_toList,hzl,hl])]at k3;refine⟨w.heap.size,G,by rw[hlen],?_,?_⟩
   .unfold qB2;rw[hlen];exact k3
   .refine⟨k2.2.os.trans (k1.2.os.trans k0.os),k2.2.tape.trans (k1.2.tape.trans k0.tape),k2.2.output.trans (k1.2.output.trans k0.output),?_,fun k hk hne=>?_⟩
    .exact jF k0.size (jF k1.2.size k2.2.size)
    .have hkw:some k≠some w.heap.size:=fun e=>by injection e;omega
     have q0:=k0.block k hk hne;have q1:=k1.2.block k (gD hk k0.size) hkw;have q2:=k2.2.block k (gD hk (jF k0.size k1.2.size)) hkw;exact q2.trans (q1.trans q0)
def qPT(L:List LkI)(w:World)(e:Ending)(w':World):Prop:=∃(a':Option Addr) (cap':Nat),e=.returned (.slice a' L.length cap')/\qB2 w' w.heap.size (.slice a' L.length cap') L/\Below w.heap.size w w'
end
section
open Go.RowKit Go.Extern.Stop Go.Stop Go.Extern
theorem Tryz.valueOfP(t:Addr)(w:World):(ReflectliteValue.unpack (.iface 377 (.pointer (some t)))).run prog w
  = .ok (.agg #[.pointer (some ⟨2,377,none⟩),.pointer (some ⟨w.heap.size,0,none⟩),.int .u64 150]) (w.alloc (.cells #[.pointer (some t)] 377)):=by kernel_rfl
theorem Tryz.typeP (a:Addr) (w:World):(ReflectliteValue.methodAny (ReflectliteValue.valueError "reflectlite.Value.Type" 0) (fun t _ _ _=>ReflectliteType.toType t) #[.agg #[.pointer (some ⟨2,377,none⟩),.pointer (some a),.int .u64 150]]).run prog w
  = .ok (.iface 410 (.agg #[.pointer (some ⟨2,377,none⟩)])) w:=by kernel_rfl
theorem Tryz.methodKind (h:Value) (w:World):(Go.method 562 410 (.agg #[h]) "Kind").run prog w=.ok (345,h) w:=by kernel_rfl
theorem Tryz.kindP(w:World):((ReflectliteType.abiMethod fun t=>(fun a:Nat=>Value.int IntKind.u8 (a:Int)) <$> Rtype.kind t) #[.pointer (some ⟨2,377,none⟩)]).run prog w=.ok (.int .u8 22) w:=by kernel_rfl
theorem Tryz.kindT(w:World):((ReflectliteType.abiMethod fun t=>(fun a:Nat=>Value.int IntKind.u8 (a:Int)) <$> Rtype.kind t) #[.pointer (some ⟨2,373,none⟩)]).run prog w=.ok (.int .u8 25) w:=by kernel_rfl
theorem rlm(z:Sem Value)(f:TypeId->Addr->Nat->Nat->Sem Value)(v:Value):
  ReflectliteValue.method z f #[v]=(do match <- ReflectliteValue.parts v with | none=>z | some (t,a,fl)=>f t a fl (fl % 32)):=rfl
theorem Tryz.partsP(a:Addr)(w:World):(ReflectliteValue.parts (.agg #[.pointer (some ⟨2,377,none⟩),.pointer (some a),.int .u64 150])).run prog w=.ok (some (377,a,150)) w:=by kernel_rfl
theorem Tryz.underP:prog.underlying 377=some (.pointer 373):=by kernel_rfl
theorem Tryz.isNilP (a p:Addr) (W:World) (ha:W.cell? a=some (.pointer (some p))) :
  (ReflectliteValue.method (ReflectliteValue.valueError "reflectlite.Value.IsNil" 0) ReflectliteValue.isNil #[.agg #[.pointer (some ⟨2,377,none⟩),.pointer (some a),.int .u64 150]]).run prog W=.ok (.bool false) W:=by
 rw[rlm];simp only[Sem.run_bind,Tryz.partsP,Result.andThen];simp[ReflectliteValue.isNil,loadVar,isAgg,underlying,Tryz.underP,ha,Result.andThen]
theorem Tryz.methodElem (h:Value) (w:World):(Go.method 562 410 (.agg #[h]) "Elem").run prog w=.ok (365,.agg #[h]) w:=by kernel_rfl
theorem Tryz.methodImplements (h:Value) (w:World):(Go.method 562 410 (.agg #[h]) "Implements").run prog w=.ok (366,.agg #[h]) w:=by kernel_rfl
theorem Tryz.methodAssignableTo (h:Value) (w:World):(Go.method 562 410 (.agg #[h]) "AssignableTo").run prog w=.ok (363,.agg #[h]) w:=by kernel_rfl
theorem Tryz.elemP(w:World):(ReflectliteType.method ReflectliteType.elem #[.agg #[.pointer (some ⟨2,377,none⟩)]]).run prog w=.ok (.iface 410 (.agg #[.pointer (some ⟨2,373,none⟩)])) w:=by kernel_rfl
theorem Tryz.implementsT (w:World):(ReflectliteType.relation "Implements" ReflectliteType.implements_ #[.agg #[.pointer (some ⟨2,373,none⟩)],.iface 410 (.agg #[.pointer (some ⟨2,358,none⟩)])]).run prog w=.ok (.bool true) w:=by kernel_rfl
theorem Tryz.typeOfT(v:Value)(w:World):(ReflectliteType.typeOf #[.iface 373 v]).run prog w=.ok (.iface 410 (.agg #[.pointer (some ⟨2,373,none⟩)])) w:=by kernel_rfl
theorem Tryz.typeOfN(v:Value)(w:World):(ReflectliteType.typeOf #[.iface 375 v]).run prog w=.ok (.iface 410 (.agg #[.pointer (some ⟨2,375,none⟩)])) w:=by kernel_rfl
theorem Tryz.typeOfS(v:Value)(w:World):(ReflectliteType.typeOf #[.iface 427 v]).run prog w=.ok (.iface 410 (.agg #[.pointer (some ⟨2,427,none⟩)])) w:=by kernel_rfl
theorem Tryz.assignT (w:World):(ReflectliteType.relation "AssignableTo" ReflectliteType.assignableTo #[.agg #[.pointer (some ⟨2,373,none⟩)],.iface 410 (.agg #[.pointer (some ⟨2,373,none⟩)])]).run prog w=.ok (.bool true) w:=by kernel_rfl
theorem Tryz.assignN (w:World):(ReflectliteType.relation "AssignableTo" ReflectliteType.assignableTo #[.agg #[.pointer (some ⟨2,375,none⟩)],.iface 410 (.agg #[.pointer (some ⟨2,373,none⟩)])]).run prog w=.ok (.bool false) w:=by kernel_rfl
theorem Tryz.assignS (w:World):(ReflectliteType.relation "AssignableTo" ReflectliteType.assignableTo #[.agg #[.pointer (some ⟨2,427,none⟩)],.iface 410 (.agg #[.pointer (some ⟨2,373,none⟩)])]).run prog w=.ok (.bool false) w:=by kernel_rfl
theorem Tryz.valueOfT(x:LkI)(w:World):(ReflectliteValue.unpack (.iface 373 (.agg #[iv x.e,iv x.c,iv x.p,iv x.f]))).run prog w
  = .ok (.agg #[.pointer (some ⟨2,373,none⟩),.pointer (some ⟨w.heap.size,0,none⟩),.int .u64 153]) (w.alloc (.cells #[iv x.e,iv x.c,iv x.p,iv x.f] 373)):=by kernel_rfl
theorem Tryz.elemOfP(w:World):(Rtype.elem? 377).run prog w=.ok (some 373) w:=by kernel_rfl
theorem Tryz.mkT(p:Addr)(w:World):(ReflectliteValue.mk 373 p ReflectliteValue.flagAddr).run prog w=.ok (.agg #[.pointer (some ⟨2,373,none⟩),.pointer (some p),.int .u64 409]) w:=by kernel_rfl
theorem Tryz.elemVP (a p:Addr) (W:World) (ha:W.cell? a=some (.pointer (some p))) :
  (ReflectliteValue.method (ReflectliteValue.valueError "reflectlite.Value.Elem" 0) ReflectliteValue.elem #[.agg #[.pointer (some ⟨2,377,none⟩),.pointer (some a),.int .u64 150]]).run prog W
   = .ok (.agg #[.pointer (some ⟨2,373,none⟩),.pointer (some p),.int .u64 409]) W:=by
 rw[rlm];simp only[Sem.run_bind,Tryz.partsP,Result.andThen];simp[ReflectliteValue.elem,loadVar,isAgg,underlying,Tryz.underP,ha,Result.andThen,Tryz.elemOfP,Tryz.mkT]
theorem rls (v x:Value):ReflectliteValue.set #[v,x]=(do
  let (some (dst,a,fl),some (src,b,_)):=(<- ReflectliteValue.parts v,<- ReflectliteValue.parts x)
   | unsupported (.noEntry "extern/(internal/reflectlite.Value).Set.zeroValue")
  if fl / ReflectliteValue.flagAddr % 2==0 then unsupported (.noEntry "extern/(internal/reflectlite.Value).Set.unaddressable")
  let val <- loadVar src b
  if <- Rtype.directlyAssignable dst src then storeVar dst a val
  else if <- Rtype.implements dst src then
   if (<- Rtype.kind src)==20 then
    match val with
    | .nilIface=>unsupported (.noEntry "extern/reflectlite: a nil value of one interface type handed on as a value of another")
    | _=>storeVar dst a val
   else storeVar dst a (.iface src val)
  else panicString ("reflectlite.Set: value of type " ++ (<- Rtype.spelt src) ++ " is not assignable to type " ++ (<- Rtype.spelt dst))
  pure (.tuple #[])):=rfl
theorem Tryz.partsTa(a:Addr)(w:World):(ReflectliteValue.parts (.agg #[.pointer (some ⟨2,373,none⟩),.pointer (some a),.int .u64 409])).run prog w=.ok (some (373,a,409)) w:=by kernel_rfl
theorem Tryz.partsT(a:Addr)(w:World):(ReflectliteValue.parts (.agg #[.pointer (some ⟨2,373,none⟩),.pointer (some a),.int .u64 153])).run prog w=.ok (some (373,a,153)) w:=by kernel_rfl
theorem Tryz.directT(w:World):(Rtype.directlyAssignable 373 373).run prog w=.ok true w:=by kernel_rfl
theorem Tryz.sizeT(w:World):(sizeOf 373).run prog w=.ok 4 w:=by kernel_rfl
theorem Tryz.isAggT(w:World):(isAgg 373).run prog w=.ok true w:=by kernel_rfl
theorem Tryz.setT(tb b:Nat)(x:LkI)(W:World)(hb:QF3 W b 0 x)(ht:∀j,j<4->(W.cell? ⟨tb,0+j,none⟩).isSome=true)(hf:∀j,j<4->W.frozen? ⟨tb,0+j,none⟩=false):
  (ReflectliteValue.set #[.agg #[.pointer (some ⟨2,373,none⟩),.pointer (some ⟨tb,0,none⟩),.int .u64 409],.agg #[.pointer (some ⟨2,373,none⟩),.pointer (some ⟨b,0,none⟩),.int .u64 153]]).run prog W
   = .ok (.tuple #[]) (W.setCells tb 0 (vLk x)):=by
 have hl:=run_loadCells_list (P:=prog) W ⟨b,0,none⟩ (vLk x) (fun j v hj=>by rw[gR,gG];exact QU4 hb j v hj);have hs:=run_storeCells_cells (P:=prog) tb 0 (vLk x) 0 W (by simpa[vLk] using ht) (by simpa[vLk] using hf) (QI2 x);have hlen:(vLk x).length=4:=rfl;rw[hlen]at hl
 have hlv:(loadVar 373 ⟨b,0,none⟩).run prog W=.ok (.agg (vLk x).toArray) W:=by
  simp[loadVar,Tryz.isAggT,Tryz.sizeT,hl,Result.andThen]
 have hsv:(storeVar 373 ⟨tb,0,none⟩ (.agg (vLk x).toArray)).run prog W=.ok () (W.setCells tb 0 (vLk x)):=by
  have hc:(Value.agg (vLk x).toArray).cells=(vLk x).toArray:=rfl;simp[storeVar,hc,Tryz.sizeT,hlen,Result.andThen,hs]
 rw[rls];simp only[Sem.run_bind,Tryz.partsTa,Tryz.partsT,Result.andThen];simp[ReflectliteValue.flagAddr,hlv,Result.andThen,Tryz.directT,hsv]
end
section
open Go.ChangeShapes Go.WideShapes Go.RowKit
def qM4(g:Nat)(w:World):Prop:=∃a:Addr,w.cell? ⟨g,0,none⟩=some (.iface 427 (.pointer (some a)))
theorem qM4.below{g:Nat}{w w':World}(h:qM4 g w)(hb:Below w.heap.size w w'):qM4 g w':=by
 obtain⟨a,h⟩:=h;exact⟨a,(hb.cell (p:=⟨g,0,none⟩) (zL w ⟨g,0,none⟩ h)).trans h⟩
theorem Tryz.cellsES:prog.cellsOf 450=1:=by kernel_rfl
theorem Tryz.cellsStr:prog.cellsOf 9=1:=by kernel_rfl
theorem qLK : "*" ++ "errors.errorString" = "*errors.errorString" := by decide
theorem Tryz.rowES (u:TypeId) (h:prog.typeName? 3 u=some "*errors.errorString"):u=427 :=
 typeName_ptr_named (nm := "errors.errorString") (by rw[qLK];kernel_rfl) (by kernel_rfl) (by decide) u (by rw[qLK];exact h)
theorem qJQ{H:Type}{enc:TypeId × Value->H}{P:Program}{w:World}{sp:Nat->Bool}{n:String}{gs:List (DataW H)}{ps:List MemPlace}(h:DataW.TrodVars enc P w sp [n] gs ps):∃g,gs=[g]:=by
 rcases gs with _ | ⟨g,_ | ⟨g2,r⟩⟩
 .exact h.elim
 .exact⟨g,rfl⟩
 .obtain⟨_,_,_,_,_,_,_,_,_,_,hs,_⟩:=h;exact hs.elim
end
section
open Go.RowKit Go.Sort Go.Proofs Go.Lib
def qPM(x y:Int):Int:=if x<y then -1 else if y<x then 1 else 0
def orC(c d:Int):Int:=if c=0 then d else c
def cfR(p q:RoI):Int:=orC (qPM p.1 q.1) (qPM p.2 q.2)
end
def qR2(s:Int):Bool:=decide (0<=s)&&decide (s<=255)
section
open Go.RowKit Go.Sort
theorem QV0(s:Int)(w:World):CP 165 #[iv s] w fun e w'=>e=.returned (iv (if qR2 s=true then 0 else 3))/\w=w':=by
 by_cases h0:0<=s
 .by_cases h1:s<=255
  .have h2:s<(256:Int):=by omega
   rw[show (if qR2 s=true then (0:Int) else 3)=0 by simp[qR2,h0,h1]];go_enter func165,ntmps165;go_wp2;go_ret;exact⟨rfl,rfl⟩
  .have h2:(256:Int)<=s:=by omega
   rw[show (if qR2 s=true then (0:Int) else 3)=3 by simp[qR2,h1]];go_enter func165,ntmps165;go_wp2;go_ret;exact⟨rfl,rfl⟩
 .have h2:s<(0:Int):=by omega
  rw[show (if qR2 s=true then (0:Int) else 3)=3 by simp[qR2,h0]];go_enter func165,ntmps165;go_wp2;go_ret;exact⟨rfl,rfl⟩
end
theorem qMs(s:Int)(w:World):CP 122 #[iv s] w fun e w'=>e=.returned (.bool (qR2 s))/\w=w':=by
 unfold qR2;cases h0:decide (0<=s)
 .go_enter func122,ntmps122;go_wp2;go_ret;exact⟨by simp,rfl⟩
 .have h0':=kK h0;cases h1:decide (s<=255)
  all_goals
   go_enter func122,ntmps122;go_wp2;go_ret;exact⟨by simp,rfl⟩
