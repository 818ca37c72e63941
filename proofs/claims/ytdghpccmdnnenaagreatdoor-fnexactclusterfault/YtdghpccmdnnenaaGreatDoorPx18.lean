/- Contracts. -/
import Derived.Test.YtdghpccmdnnenaaGreatDoorPx13
import Derived.Test.YtdghpccmdnnenaaGreatDoorPx11
namespace Go.Proofs.YtdghpccmdnnenaaGreatDoor
set_option maxRecDepth 100000
set_option maxHeartbeats 8000000
open Go.RowKit Go.Proofs.Tryz
set_option linter.unusedVariables false
set_option linter.unusedSimpArgs false
section
open Go.RowKit Go.Maps
theorem qHi{zs:List qA1}(h:qC3 zs=0):zs.Nodup:=by
 unfold qC3 at h;split at h
 .cases h
 .have key:∀k,k<=zs.length->qL1 zs k=0->(zs.take k).Nodup:=by
   intro k;induction k with
   | zero=>intro _ _;simp
   | succ k ih =>
    intro hk hp
    have h0:qL1 zs k=0:=by
     by_cases q:qL1 zs k=0
     .exact q
     .exact absurd (qS0 zs k (k+1) _ q rfl (by omega)) (by rw[hp];exact fun e=>q e.symm)
    have hr:zs[k]?=some zs[k]:=gA (by omega)
    have hnm:¬ zs[k]∈zs.take k:=fun q=>by
     by_cases e:qA6 zs[k]=0
     .rw[QI7 zs k _ hr h0 e q]at hp;cases hp
     .rw[QG2 zs k _ hr h0 e]at hp;exact e hp
    rw[jR (by omega)];exact List.nodup_append.2 ⟨ih (by omega) h0,by simp,fun x hx y hy e=>hnm (by simp at hy;rw[<- hy,<- e];exact hx)⟩
  have:=key zs.length (gB _) h;rwa [kQ]at this
theorem QG1{zs:List qA1}(h:qC3 zs=0):∀z∈zs,qA6 z=0:=by
 unfold qC3 at h;split at h
 .cases h
 .intro z hz;obtain⟨j,hj⟩:=jW.1 hz
  have hl:j<zs.length:=by
   by_cases q:j<zs.length
   .exact q
   .rw[gE (by omega)]at hj;cases hj
  exact QO5 _ h j z hl hj
def QS(W:World)(b g5:Nat)(v:Value)(ws:List qA1):Prop:=∃g off c,v=.slice (some ⟨g,off,none⟩) ws.length c/\QAt W b g off c ws/\g≠g5/\g≠b
structure QU3 (w:World) (b g5:Nat) (f:RoI->Int) (W:World):Prop where
 below:Below w.heap.size w W
 gm:GM W b f
 room:qN9 W g5 1
 lt5:g5<W.heap.size
 ne5:g5≠b
 old5:w.heap.size<=g5
 oldb:w.heap.size<=b
def qFw(f:RoI->Int)(x:Nat):Nat:=(10200-qEG f).toNat*1000+x
def atL(w:World)(zs:List qA1)(a:Option Addr)(n cap b g5 l m:Nat)(t:Act)(W:World):Prop :=
  ∃(f:RoI->Int) (ws:List qA1) (v4 u1 u6 u7 u8 u9 u10 u11 u12 u13 u14 u15 u16 u17 u18 u19 u20 u21 u22 u23 u24 u25 u26 u27 u28 u29 u30 u31 u32 u33 u34 u35 u36 u37 u38 u39 u40 u41 u42 u43 u44 u45 u46 u47:Value),t = { tmps:=#[.slice a n cap,u1,.map none,.map (some b),v4,.pointer (some ⟨g5,0,none⟩),u6,u7,u8,u9,u10,u11,u12,u13,u14,u15,u16,u17,u18,u19,u20,u21,u22,u23,u24,u25,u26,u27,u28,u29,u30,u31,u32,u33,u34,u35,u36,u37,u38,u39,u40,u41,u42,u43,u44,u45,u46,u47],defers:=[] }/\QU3 w b g5 f W /\
    ((l=0/\(∃av cv,v4=.slice av ws.length cv)/\(ws≠[]->QS W b g5 v4 ws)/\qCP zs f ws/\m=qFw f (2*ws.length+1)) \/
     (l=1/\QS W b g5 v4 ws/\m=qFw f 500/\∃z f0,qC2 W g5 0 z/\qCP zs f0 (z::ws)/\f=qT0 f0 (z.ho,z.hn) (byF f0 z)))
abbrev qHe(W:World)(g:Nat)(s:qA1):World:=((((((((W.setCell ⟨g,0,none⟩ (iv s.k)).setCell ⟨g,1,none⟩ (iv s.ho)).setCell ⟨g,2,none⟩ (iv s.hn)).setCell ⟨g,3,none⟩ (iv s.w)).setCell ⟨g,4,none⟩ (iv s.oo)).setCell ⟨g,5,none⟩ (iv s.on)).setCell ⟨g,6,none⟩ (iv s.to)).setCell ⟨g,7,none⟩ (iv s.tn))
theorem qJt(W:World)(g:Nat)(s:qA1):qHe W g s=qJN W g 0 s:=by
 show qHe W g s=((((((((W.setCell ⟨g,0,none⟩ (iv s.k)).setCell ⟨g,0+1,none⟩ (iv s.ho)).setCell ⟨g,0+2,none⟩ (iv s.hn)).setCell ⟨g,0+3,none⟩ (iv s.w)).setCell ⟨g,0+4,none⟩ (iv s.oo)).setCell ⟨g,0+5,none⟩ (iv s.on)).setCell ⟨g,0+6,none⟩ (iv s.to)).setCell ⟨g,0+7,none⟩ (iv s.tn))
 simp only[gG]
theorem qCk(W:World)(g:Nat)(s:qA1)(i:Nat)(h:i≠g):(qHe W g s).heap[i]?=W.heap[i]? := by
 rw[kE _ _ _ i h,kE _ _ _ i h,kE _ _ _ i h,kE _ _ _ i h,kE _ _ _ i h,kE _ _ _ i h,kE _ _ _ i h,kE _ _ _ i h]
theorem qFj(W:World)(g:Nat)(s:qA1):(qHe W g s).heap.size=W.heap.size:=by simp only[jP]
theorem qMP{w:World}{b g5:Nat}{f:RoI->Int}{W X:World}(h:QU3 w b g5 f W)(z:qA1)(hX:X=qHe W g5 z):
  QU3 w b g5 f X.drew/\qC2 X.drew g5 0 z/\(∀i,i≠g5->X.drew.heap[i]?=W.heap[i]?)/\X.drew.heap.size=W.heap.size:=by
 have e:X=qJN W g5 0 z:=hX.trans (qJt W g5 z);have ho:∀i,i≠g5->X.heap[i]?=W.heap[i]? := fun i hi=>by rw[hX];exact qCk W g5 z i hi
 have hz:X.heap.size=W.heap.size:=by rw[hX];exact qFj W g5 z
 have hbw:Below w.heap.size w X:=by rw[e];exact QV4 (o:=0) h.below h.old5 z
 have hroom:=h.room;have hd:qL3 W g5 0 (([z]:List qA1).take 0):=fun k r e=>by simp at e
 have hr:=qBK hroom hd (show ([z]:List qA1)[0]?=some z from rfl) (Nat.zero_lt_one);rw[kJ,<- e]at hr;clear e hX
 have hr2:qC2 X g5 0 z:=by
  have:=hr.2 0 z rfl;rwa [kJ,jS]at this
 have hl5:=h.lt5;exact⟨⟨hbw.drew,qQ1 h.gm (ho b h.ne5.symm),hr.1,by show g5<X.heap.size;omega,h.ne5,h.old5,h.oldb⟩,hr2,ho,hz⟩
theorem qHx{f:RoI->Int}(x y:Nat)(h:x<y):qFw f x<qFw f y:=by unfold qFw;omega
theorem qHy{f g:RoI->Int}(hf:FN f)(hg:FN g)(h:qEG f<qEG g)(x y:Nat)(hx:x<=900):qFw g x<qFw f y:=by
 have h1:=qHF hf;have h2:=qHF hg;have e1:=Int.toNat_of_nonneg (a:=10200 - qEG f) (by omega);have e2:=Int.toNat_of_nonneg (a:=10200 - qEG g) (by omega);unfold qFw;generalize (10200 - qEG f).toNat=A at *
 generalize (10200 - qEG g).toNat=B at *
 omega
theorem qEK{w:World}{b g5:Nat}{f f':RoI->Int}{W W2 W3:World}(h:QU3 w b g5 f W)(hb:Below W.heap.size W W2)(hg:W2.grownBy W3 (some b))(hG:GM W3 b f'):
  QU3 w b g5 f' W3/\(∀i,i≠b->i<W.heap.size->W3.heap[i]?=W.heap[i]?)/\W.heap.size<=W3.heap.size:=by
 have hs:=hb.size;have hs2:=hg.size;have ho:∀i,i≠b->i<W.heap.size->W3.heap[i]?=W.heap[i]? := fun i hi hl=>(hg.block i (by omega) (fun e=>hi (gJ e))).trans (hb.block i hl)
 have h5:=ho g5 h.ne5 h.lt5;refine⟨⟨?_,hG,⟨fun j hj=>?_,fun j=>?_⟩,by have:=h.lt5;omega,h.ne5,h.old5,h.oldb⟩,ho,by omega⟩
 .exact Below.turn (h.below.trans (hb.mono h.below.size)) (by have:=h.below.size;omega) h.oldb hg
 .rw[jO (a:=⟨g5,j,none⟩) h5];exact h.room.1 j hj
 .have:=h.room.2 j;simpa[World.frozen?,h5] using this
theorem qS7{W W':World}{g:Nat}{z:qA1}(h:qC2 W g 0 z)(hb:W'.heap[g]?=W.heap[g]?):qC2 W' g 0 z:=by
 obtain⟨h0,h1,h2,h3,h4,h5,h6,h7⟩:=h;have hc:∀o,W'.cell? ⟨g,o,none⟩=W.cell? ⟨g,o,none⟩:=fun o=>jO hb
 exact⟨(hc _).trans h0,(hc _).trans h1,(hc _).trans h2,(hc _).trans h3,(hc _).trans h4,(hc _).trans h5,(hc _).trans h6,(hc _).trans h7⟩
theorem qV0(b:Nat)(i:Nat)(h:i≠b):∀(vs:List Value) (o:Nat) (w:World),(w.setCells b o vs).heap[i]?=w.heap[i]?
 | [],_,_=>rfl
 | v::r,o,w=>by rw[World.setCells,qV0 b i h r,kE _ _ _ i h]
theorem qX9(b:Nat):∀(vs:List Value) (o:Nat) (w:World),(w.setCells b o vs).heap.size=w.heap.size
 | [],_,_=>rfl
 | v::r,o,w=>by rw[World.setCells,qX9 b r,jP]
theorem QD5{B b:Nat}{w0:World}(hB:B<=b):∀(vs:List Value) (o:Nat) (w:World),Below B w0 w->Below B w0 (w.setCells b o vs)
 | [],_,_,h=>h
 | v::r,o,w,h=>by rw[World.setCells];exact QD5 hB r _ _ (h.setCell (p:=⟨b,o,none⟩) hB v)
theorem QAt.push{w:World}{B g off c:Nat}{ws:List qA1}(h:QAt w B g off c ws)(y:qA1)(hc:ws.length+1<=c):QAt (w.setCells g (off+ws.length*8) (qZ6 y)) B g off c (ws++[y]):=by
 have hin:∀j,j<(qZ6 y).length->(w.cell? ⟨g,off+ws.length*8+j,none⟩).isSome=true:=fun j hj=>by
  have:=(h.room (ws.length*8+j) (by simp[qZ6]at hj;omega)).1;rwa [<- Nat.add_assoc]at this
 have cin:=World.cell?_setCells_in g (qZ6 y) (off+ws.length*8) w hin;have cout:∀o,(o<off+ws.length*8\/off+ws.length*8+8<=o)->(w.setCells g (off+ws.length*8) (qZ6 y)).cell? ⟨g,o,none⟩=w.cell? ⟨g,o,none⟩:=fun o ho=>World.cell?_setCells_out g _ _ w ⟨g,o,none⟩ (fun _ _=>by simpa[qZ6] using ho)
 refine⟨h.old,by rw[qX9];exact h.lt,fun k r hr=>?_,by simp;omega,fun j hj=>⟨?_,?_⟩⟩
 .by_cases e:k<ws.length
  .rw[kY e]at hr;obtain⟨h0,h1,h2,h3,h4,h5,h6,h7⟩:=h.at' k r hr;exact⟨(cout _ (by omega)).trans h0,(cout _ (by omega)).trans h1,(cout _ (by omega)).trans h2,(cout _ (by omega)).trans h3,(cout _ (by omega)).trans h4,(cout _ (by omega)).trans h5,(cout _ (by omega)).trans h6,(cout _ (by omega)).trans h7⟩
  .have hk:k=ws.length:=by
    by_cases q:k<(ws++[y]).length
    .simp at q;omega
    .rw[gE (by omega)]at hr;cases hr
   subst hk;simp at hr;subst hr;have q:∀i (hi:i<8),(w.setCells g (off+ws.length*8) (qZ6 y)).cell? ⟨g,off+ws.length*8+i,none⟩=some ((qZ6 y)[i]'(by simp[qZ6];omega)):=fun i hi=>cin i (by simp[qZ6];omega)
   exact⟨q 0 (by omega),q 1 (by omega),q 2 (by omega),q 3 (by omega),q 4 (by omega),q 5 (by omega),q 6 (by omega),q 7 (by omega)⟩
 .by_cases e:ws.length*8<=j/\j<ws.length*8+8
  .have:=cin (j-ws.length*8) (by simp[qZ6];omega);rw[show off+ws.length*8+(j-ws.length*8)=off+j by omega]at this;rw[this];rfl
  .rw[cout _ (by omega)];exact (h.room j hj).1
 .rw[World.frozen?_setCells];exact (h.room j hj).2
theorem QU3.after{w:World}{b g5:Nat}{f:RoI->Int}{W W':World}(h:QU3 w b g5 f W)(hb:Below W.heap.size W W'):QU3 w b g5 f W':=by
 have h5:=hb.block g5 h.lt5;refine⟨h.below.trans (hb.mono h.below.size),h.gm.below h.gm.lt hb,⟨fun j hj=>?_,fun j=>?_⟩,gD h.lt5 hb.size,h.ne5,h.old5,h.oldb⟩
 .rw[jO (a:=⟨g5,j,none⟩) h5];exact h.room.1 j hj
 .have:=h.room.2 j;simpa[World.frozen?,h5] using this
theorem QU3.write{w:World}{b g5:Nat}{f:RoI->Int}{W:World}(h:QU3 w b g5 f W){g:Nat}(hg:w.heap.size<=g)(hne5:g≠g5)(hneb:g≠b)(o:Nat)(vs:List Value):QU3 w b g5 f (W.setCells g o vs):=by
 have ho:∀i,i≠g->(W.setCells g o vs).heap[i]?=W.heap[i]? := fun i hi=>qV0 g i hi vs o W
 refine⟨QD5 hg vs o W h.below,qQ1 h.gm (ho b hneb.symm),⟨fun j hj=>?_,fun j=>?_⟩,by rw[qX9];exact h.lt5,h.ne5,h.old5,h.oldb⟩
 .rw[jO (a:=⟨g5,j,none⟩) (ho g5 hne5.symm)];exact h.room.1 j hj
 .rw[World.frozen?_setCells];exact h.room.2 j
theorem QX8:∀(a:List qA1) (y:qA1),qR8 (a++[y])=qR8 a++qZ6 y
 | [],y=>by simp[qR8]
 | z::zs,y=>by simp[qR8,QX8 zs y]
theorem QY5{zs:List qA1}{f:RoI->Int}{z:qA1}{ws:List qA1}(h:qCP zs f (z::ws))(r:RoI)(k:Nat):(qF1 zs r ws k).length<=zs.length:=by
 have w:=QF5 r zs (zs.take k) ws (fun x hx=>List.mem_of_mem_take hx) (fun x hx=>h.sub x (by simp[hx])) (List.nodup_cons.1 h.nd).2;exact QG5 _ _ w.1 w.2.1
theorem qHt{W':World}{B b g5:Nat}{v:Value}{ws:List qA1}(h:W'.ownsRow B 208 8 v ws.length (qR8 ws))(hne:ws≠[])(hb:b<B)(h5:g5<B):QS W' b g5 v ws:=by
 have hn:v≠.slice none 0 0:=fun e=>by
  rcases h.2 with⟨_,q⟩ | ⟨g,cap,cur,q,_⟩
  .exact hne (List.eq_nil_of_length_eq_zero q)
  .rw[e]at q;cases q
 obtain⟨g,off,c,e,q⟩:=qEO h hn;have:=q.old;exact⟨g,off,c,e,⟨by omega,q.lt,q.at',q.le,q.room⟩,by omega,by omega⟩
end
section
open Go.RowKit Go.Maps
theorem qJm(a:Option Addr)(n cap:Nat)(zs:List qA1)(w:World)(hr:qB9 w a n zs)(hn:n<=16)(hp:qC3 zs=0):
  CP 248 #[.slice a n cap] w fun e w'=>∃b f,e=.returned (.map (some b))/\GM w' b f/\qCP zs f []/\w.heap.size<=b/\Below w.heap.size w w':=by
 have HR:=hJJ hr;have HP:=hJJ hp;clear hr hp;obtain⟨i0,hi,hz0,hz1,hz2⟩:=jT Tryz.info208;go_enter func248,ntmps248;go_wp2;refine qAr (fun l m t W=>∃g5,atL w zs a n cap w.heap.size g5 l m t W) rfl rfl ?hJ ?first ?core0 ?core1
 case hJ =>
  rintro l m t W ⟨g5,f,ws,v4,u1,u6,u7,u8,u9,u10,u11,u12,u13,u14,u15,u16,u17,u18,u19,u20,u21,u22,u23,u24,u25,u26,u27,u28,u29,u30,u31,u32,u33,u34,u35,u36,u37,u38,u39,u40,u41,u42,u43,u44,u45,u46,u47,e,hs,(⟨rfl,_⟩ | ⟨rfl,_⟩)⟩
  .exact .inl rfl
  .exact .inr rfl
 case first =>
  intro pass;have HPs:=hJJ pass;have h1:Below w.heap.size w (w.alloc (.map #[] 0)):=zN;have hG1:=qNB w;have hs1:(w.alloc (.map #[] 0)).heap.size=w.heap.size+1:=jC _ _;have HR1:=HR.out.below h1;have hmk:(Instr.makeMap 306 none).run prog w=.ok (.map (some w.heap.size)) (w.alloc (.map #[] 0)):=run_makeMap _ w;generalize hw1:w.alloc (.map #[] 0)=w1 at *
  have hnd:=qHi HP.out;have hzl:=HR.out.1;go_wp2_with (first | (go_at_call 265;refine (qKn a n cap zs w1 (by omega) HR1).mono ?_;rintro e w2 ⟨v,rfl,hv0,hvq,hb2⟩) | go_in)
  go_step3
  rename_i hK0;refine hK0 _ _ ?_;clear hK0;have hz2':=hb2.size;have hA:Below w2.heap.size w2 (w2.alloc (.cells #[iv 0,iv 0,iv 0,iv 0,iv 0,iv 0,iv 0,iv 0] 208)):=zN;have hb02:Below w.heap.size w w2:=h1.trans (hb2.mono (by omega));refine qGs (Q:=qV3 (fun l' a' w'=>∃m',m'<qFw qCS (2 * zs.length+1)/\∃g5,atL w zs a n cap w.heap.size g5 l' m' a' w') _) ?_ (qBW (fun l a w q=>q.elim (fun m' q2=>⟨m',q2.2⟩)));refine HPs.out (qFw qCS (2 * zs.length+1)) _ _ ?_;refine⟨w2.heap.size,qCS,zs,v,_,_,_,_,_,_,_,_,_,_,_,_,_,_,_,_,_,_,_,_,_,_,_,_,_,_,_,_,_,_,_,_,_,_,_,_,_,_,_,_,_,_,_,rfl,⟨hb02.trans (hA.mono (by omega)),(hG1.below hG1.lt hb2).below (by omega) hA,⟨fun j hj=>?_,fun j=>?_⟩,by simp,by omega,by omega,gB _⟩,.inl ⟨rfl,?_,fun hne=>?_,qFL hnd,rfl⟩⟩
  .have hj8:j=0\/j=1\/j=2\/j=3\/j=4\/j=5\/j=6\/j=7:=by omega
   rcases hj8 with rfl|rfl|rfl|rfl|rfl|rfl|rfl|rfl <;> exact⟨iv 0,by unfold World.cell?;rw[World.alloc_heap_new];rfl⟩
  .unfold World.frozen?;rw[World.alloc_heap_new];simp
  .by_cases q:n=0
   .obtain⟨a',c',e⟩:=hv0 q;exact⟨a',c',by rw[e,hzl,q]⟩
   .obtain⟨g,off,c,e,_⟩:=hvq (by omega);exact⟨_,_,e⟩
  .have hnp:0<n:=by
    rw[<- hzl];exact List.length_pos_iff.2 hne
   obtain⟨g,off,c,e,q⟩:=hvq hnp;have:=q.old;have:=q.lt;exact⟨g,off,c,e,⟨by omega,(q.below q.lt hA).lt,(q.below q.lt hA).at',q.le,(q.below q.lt hA).room⟩,by omega,by omega⟩
 case core0 =>
  rintro m t W ⟨g5,f,ws,v4,u1,u6,u7,u8,u9,u10,u11,u12,u13,u14,u15,u16,u17,u18,u19,u20,u21,u22,u23,u24,u25,u26,u27,u28,u29,u30,u31,u32,u33,u34,u35,u36,u37,u38,u39,u40,u41,u42,u43,u44,u45,u46,u47,rfl,hs,(⟨_,⟨av,cv,rfl⟩,hq,hw,rfl⟩ | ⟨q,_⟩)⟩
  case inr=>cases q
  rcases ws with _ | ⟨z,ws⟩
  .have HS:Hid (QU3 w w.heap.size g5 f W):=hs;have HW:=hJJ hw;clear hs hw hq;skip
   go_wp2;simp only[qV3];go_ret;exact⟨w.heap.size,f,rfl,HS.out.gm,HW.out,gB _,HS.out.below⟩
  .obtain⟨g,off,c,e,Q,hne5,hneb⟩:=hq (by simp);simp only[jX]at e;cases e;obtain⟨k,hk⟩:∃k,ws.length=k:=⟨_,rfl⟩;have HK:=hJJ hk;have hkc:k+1<=cv:=by have:=Q.le;simp only[jX]at this;omega
   have hlz:k+1<=16:=by
    have:=hw.len;simp only[jX]at this;have:=HR.out.1;omega
   simp only[jX,hk];obtain⟨h0,h1,h2,h3,h4,h5,h6,h7⟩:=Q.at' 0 z rfl;simp only[kJ,jS]at h0 h1 h2 h3 h4 h5 h6 h7;obtain⟨v0,c0⟩:=hs.room.1 0 (by omega);obtain⟨v1,c1⟩:=hs.room.1 1 (by omega);obtain⟨v2,c2⟩:=hs.room.1 2 (by omega);obtain⟨v3,c3⟩:=hs.room.1 3 (by omega);obtain⟨v4,c4⟩:=hs.room.1 4 (by omega);obtain⟨v5,c5⟩:=hs.room.1 5 (by omega);obtain⟨v6,c6⟩:=hs.room.1 6 (by omega);obtain⟨v7,c7⟩:=hs.room.1 7 (by omega);have f0:=hs.room.2 0;have f1:=hs.room.2 1;have f2:=hs.room.2 2;have f3:=hs.room.2 3;have f4:=hs.room.2 4;have f5:=hs.room.2 5;have f6:=hs.room.2 6;have f7:=hs.room.2 7;have HS:=hJJ hs;have HW:=hJJ hw;have HQ:=hJJ Q;have i0':(0:Int)<(k:Int)+1:=by omega
   have i1:(1:Int)<=(k:Int)+1:=by omega
   have i2:(k:Int)+1<=(cv:Int):=by omega
   have i3:(k:Int)+1<=16:=by omega
   clear hs hw hq Q hk;skip
   go_wp2;go_region
   obtain⟨X,hX⟩:∃X,X=((((((((W.setCell ⟨g5,0,none⟩ (iv z.k)).setCell ⟨g5,1,none⟩ (iv z.ho)).setCell ⟨g5,2,none⟩ (iv z.hn)).setCell ⟨g5,3,none⟩ (iv z.w)).setCell ⟨g5,4,none⟩ (iv z.oo)).setCell ⟨g5,5,none⟩ (iv z.on)).setCell ⟨g5,6,none⟩ (iv z.to)).setCell ⟨g5,7,none⟩ (iv z.tn)):=⟨_,rfl⟩;obtain⟨S1,R1,O1,Z1⟩:=qMP HS.out z hX;rw[<- hX];clear hX;obtain⟨av',hav⟩:∃av',(if cv=1 then (some ⟨g,off,none⟩:Option Addr) else some ⟨g,off+8,none⟩)=av':=⟨_,rfl⟩;rw[hav]
   have HAV:Hid (∀X':World,QAt X' w.heap.size g off cv (z::ws)->QS X' w.heap.size g5 (.slice av' k (cv - 1)) ws):=fun X' q=>by
    rw[<- hav];by_cases e:cv=1
    .have hk0:k=0:=by omega
     have hw0:ws=[]:=List.eq_nil_of_length_eq_zero (by rw[HK.out];exact hk0);subst hw0;refine⟨g,off,0,by rw[gK e,e,hk0];rfl,?_,hne5,hneb⟩;have q2:=q.pop;rw[e]at q2;exact q2.empty
    .exact⟨g,off+8,cv - 1,by rw[gI e,HK.out],q.pop,hne5,hneb⟩
   clear hav;obtain⟨W1,hW1⟩:∃W1,X.drew=W1:=⟨_,rfl⟩;rw[hW1]at S1 R1 O1 Z1 ⊢
   have HS1:=hJJ S1;have Q1':QAt W1 w.heap.size g off cv (z::ws):=HQ.out.kept (by omega) (O1 g hne5);have HQ1:=hJJ Q1';have HR1:=hJJ R1;obtain⟨d0,d1,d2,d3,d4,d5,d6,d7⟩:=R1;simp only[gG]at d0 d1 d2 d3 d4 d5 d6 d7;have hlt5:g5<W1.heap.size:=S1.lt5;have hcz:qA6 z=0:=QG1 HP.out z (HW.out.sub z (by simp));have hB:qD1 z.ho z.hn=true/\okR z:=⟨(qY0 hcz).2.2.1,(qEV hcz).1⟩;obtain⟨t,ht⟩:∃t,(!decide (orI (f (z.ho,z.hn)) (byF f z)=f (z.ho,z.hn)))=t:=⟨_,rfl⟩;have HT:Hid (∀X:World,Below W1.heap.size W1 X->CP 267 #[.map (some w.heap.size),.agg #[iv z.k,iv z.ho,iv z.hn,iv z.w,iv z.oo,iv z.on,iv z.to,iv z.tn]] X fun e w'=>e=.returned (.int .u8 (byF f z))/\Below X.heap.size X w'):=fun X hX=>qNY w.heap.size f z X (HS1.out.gm.below HS1.out.gm.lt hX) hcz
   have HV:Hid (∀X:World,Below W1.heap.size W1 X->CP 266 #[.map (some w.heap.size),.agg #[iv z.ho,iv z.hn],.int .u8 (byF f z)] X fun e w'=>e=.returned (.bool t)/\GM w' w.heap.size (qT0 f (z.ho,z.hn) (byF f z))/\X.grownBy w' (some w.heap.size)):=fun X hX =>
    (qOE w.heap.size f (z.ho,z.hn) (byF f z) X (HS1.out.gm.below HS1.out.gm.lt hX) hB.1 (QS1 HS1.out.gm.fn.st hB.2)).mono (fun e w' q=>⟨by rw[q.1,ht],q.2.1,q.2.2⟩)
   have HH:Hid ((!decide (orI (f (z.ho,z.hn)) (byF f z)=f (z.ho,z.hn)))=t/\okR z):=⟨ht,hB.2⟩;clear h0 h1 h2 h3 h4 h5 h6 h7 c0 c1 c2 c3 c4 c5 c6 c7 f0 f1 f2 f3 f4 f5 f6 f7 S1 O1 Q1' hW1 ht hB hcz;cases t
   .go_wp2
    go_region_with (first
     | (go_at_call 267;refine (HT.out W1.drew (gC _ W1).drew).mono ?_;rintro e W2 ⟨rfl,hb2d⟩;have hb2:Below W1.heap.size W1 W2:=(gC _ W1).drew.trans hb2d;clear hb2d;have q1:=(hb2.cell (p:=⟨g5,1,none⟩) hlt5).trans d1;have q2:=(hb2.cell (p:=⟨g5,2,none⟩) hlt5).trans d2)
     | (go_at_call 266;refine (HV.out _ hb2).mono ?_;rintro e W3 ⟨rfl,hG3,hg3⟩))
    all_goals go_wp2
    all_goals go_step3
    all_goals
     have hsame:qT0 f (z.ho,z.hn) (byF f z)=f:=qBi (by simpa using HH.out.1);have heq:orI (f (z.ho,z.hn)) (byF f z)=f (z.ho,z.hn):=by simpa using HH.out.1
     rw[hsame]at hG3;obtain⟨S3,O3,Z3⟩:=qEK HS1.out hb2 hg3 hG3;exact⟨qFw f (2 * ws.length+1),qHx _ _ (by have:=HK.out;omega),g5,f,ws,_,_,_,_,_,_,_,_,_,_,_,_,_,_,_,_,_,_,_,_,_,_,_,_,_,_,_,_,_,_,_,_,_,_,_,_,_,_,_,_,_,_,_,_,rfl,S3,.inl ⟨rfl,⟨_,_,by rw[HK.out]⟩,fun hne=>HAV.out W3 (HQ1.out.kept (by omega) (O3 g hneb HQ1.out.lt)),qGt HW.out HH.out.2 heq,rfl⟩⟩
   .go_wp2
    go_region_with (first
     | (go_at_call 267;refine (HT.out W1.drew (gC _ W1).drew).mono ?_;rintro e W2 ⟨rfl,hb2d⟩;have hb2:Below W1.heap.size W1 W2:=(gC _ W1).drew.trans hb2d;clear hb2d;have q1:=(hb2.cell (p:=⟨g5,1,none⟩) hlt5).trans d1;have q2:=(hb2.cell (p:=⟨g5,2,none⟩) hlt5).trans d2)
     | (go_at_call 266;refine (HV.out _ hb2).mono ?_;rintro e W3 ⟨rfl,hG3,hg3⟩))
    all_goals go_wp2
    all_goals go_step3
    all_goals
     have hneq:orI (f (z.ho,z.hn)) (byF f z)≠f (z.ho,z.hn):=by simpa using HH.out.1
     obtain⟨S3,O3,Z3⟩:=qEK HS1.out hb2 hg3 hG3;have hgr:qEG f<qEG (qT0 f (z.ho,z.hn) (byF f z)):=qHE HS1.out.gm.fn HH.out.2.1 (QS1 HS1.out.gm.fn.st HH.out.2) hneq;exact⟨qFw (qT0 f (z.ho,z.hn) (byF f z)) 500,qHy HS1.out.gm.fn hG3.fn hgr _ _ (by omega),g5,qT0 f (z.ho,z.hn) (byF f z),ws,_,_,_,_,_,_,_,_,_,_,_,_,_,_,_,_,_,_,_,_,_,_,_,_,_,_,_,_,_,_,_,_,_,_,_,_,_,_,_,_,_,_,_,_,rfl,S3,.inr ⟨rfl,HAV.out W3 (HQ1.out.kept (by omega) (O3 g hneb HQ1.out.lt)),rfl,z,f,qS7 HR1.out (O3 g5 HS1.out.ne5 hlt5),HW.out,rfl⟩⟩
 case core1 =>
  rintro m t W ⟨g5,f,ws,v4,u1,u6,u7,u8,u9,u10,u11,u12,u13,u14,u15,u16,u17,u18,u19,u20,u21,u22,u23,u24,u25,u26,u27,u28,u29,u30,u31,u32,u33,u34,u35,u36,u37,u38,u39,u40,u41,u42,u43,u44,u45,u46,u47,rfl,hs,(⟨q,_⟩ | ⟨_,hq,rfl,z,f0,hz,hw,rfl⟩)⟩
  case inl=>cases q
  have HS0:=hJJ hs;have HW:=hJJ hw;have HQ0:=hJJ hq;have HZ0:=hJJ hz;have hn':(n:Int)<=16:=by omega
  obtain⟨f,hf⟩:∃f,qT0 f0 (z.ho,z.hn) (byF f0 z)=f:=⟨_,rfl⟩;have HF:=hJJ hf;rw[hf]at HS0;rw[hf];clear hs hw hq hz hf;skip
  go_wp2;go_loopw [4,29] (fun v i wr=>∃k:Nat,k<=n/\i=iv (k:Int)/\QU3 w w.heap.size g5 f wr/\QS wr w.heap.size g5 v (qF1 zs (z.ho,z.hn) ws k)/\qC2 wr g5 0 z) (fun _ i _=>n - (intOf i).toNat)
  case atStart=>exact⟨0,gH _,rfl,HS0.out,by simpa[qF1] using HQ0.out,HZ0.out⟩
  case round =>
   obtain⟨k,hk,rfl,hs,hq,hz⟩:=hrel;by_cases hlt:k<n
   .obtain⟨bl,ol,y,rfl,hy,hyx⟩:=HR.out.at hlt
    obtain⟨g,off,c,rfl,Q,hne5,hneb⟩:=hq;obtain⟨L,hL⟩:∃L,(qF1 zs (z.ho,z.hn) ws k).length=L:=⟨_,rfl⟩;have HL:=hJJ hL;rw[hL];have HY:=hJJ hy;obtain⟨h0,h1,h2,h3,h4,h5,h6,h7⟩:=hyx.below hs.below;obtain⟨w2,hw2⟩:∃w2,w2=wr.alloc (.cells #[iv y.k,iv y.ho,iv y.hn,iv y.w,iv y.oo,iv y.on,iv y.to,iv y.tn] 208):=⟨_,rfl⟩;have hA:Below wr.heap.size wr w2:=by rw[hw2];exact zN
    have R2:qC2 w2 wr.heap.size 0 y:=by rw[hw2];exact qC2.new wr y _
    have hsz2:w2.heap.size=wr.heap.size+1:=by rw[hw2];simp
    have HS2:Hid (QU3 w w.heap.size g5 f w2):=hs.after hA;have HQ2:Hid (QAt w2 w.heap.size g off c (qF1 zs (z.ho,z.hn) ws k)):=Q.below Q.lt hA;have HZ2:Hid (qC2 w2 g5 0 z):=qS7 hz (hA.block g5 hs.lt5);have hlt':(k:Int)<(n:Int):=by omega
    have hyk:1<=y.k/\y.k<=4:=by have:=qY0 (QG1 HP.out y (gO hy));exact⟨this.1,this.2.1⟩
    have HY2:=hJJ R2;obtain⟨_,zc1,zc2,_⟩:=hz;simp only[gG]at zc1 zc2;have hl5:g5<wr.heap.size:=hs.lt5;clear hs Q hyx hL hy hA R2;go_wp2_with fail
    rw[<- hw2];clear hw2 h0 h1 h2 h3 h4 h5 h6 h7 zc1 zc2;obtain⟨t,ht⟩:∃t,qG5 y (z.ho,z.hn)=t:=⟨_,rfl⟩;refine (qIH y (z.ho,z.hn) _ hyk).mono ?_;rintro e w3 ⟨rfl,hb3⟩;rw[ht];have HT:=hJJ ht;have HS3:Hid (QU3 w w.heap.size g5 f w3):=HS2.out.after hb3;have HQ3:Hid (QAt w3 w.heap.size g off c (qF1 zs (z.ho,z.hn) ws k)):=HQ2.out.below HQ2.out.lt hb3;have HZ3:Hid (qC2 w3 g5 0 z):=qS7 HZ2.out (hb3.block g5 HS2.out.lt5);have Y3:qC2 w3 wr.heap.size 0 y:=HY2.out.below hb3;have HY3:=hJJ Y3;obtain⟨y0,y1,y2,y3,y4,y5,y6,y7⟩:=Y3;simp only[gG]at y0 y1 y2 y3 y4 y5 y6 y7;have hsz3:=hb3.size;clear ht hb3;cases t
    .have HE:Hid (qF1 zs (z.ho,z.hn) ws (k+1)=qF1 zs (z.ho,z.hn) ws k):=by
      show qF1 zs (z.ho,z.hn) ws (k+1)=_
      rw[QE0 HY.out,gI (fun q=>by rw[HT.out]at q;cases q.1)]
     go_wp2;exact⟨⟨k+1,by omega,by go_num,HS3.out,⟨g,off,c,by rw[HE.out,HL.out],by rw[HE.out];exact HQ3.out,hne5,hneb⟩,HZ3.out⟩,by simp[intOf];omega⟩
    .go_wp2_with fail
     obtain⟨u,hu⟩:∃u,decide (y∈qF1 zs (z.ho,z.hn) ws k)=u:=⟨_,rfl⟩;refine (QJ7 (some ⟨g,off,none⟩) L c (qF1 zs (z.ho,z.hn) ws k) y _ ?_ ⟨HL.out,fun _=>⟨g,off,rfl,HQ3.out.at'⟩⟩).mono ?_
     .have:=QY5 HW.out (z.ho,z.hn) k;have:=HL.out;have:=HR.out.1;omega
     rintro e w4 ⟨rfl,hb4⟩;rw[hu];have HU:=hJJ hu;have HS4:Hid (QU3 w w.heap.size g5 f w4):=HS3.out.after hb4;have HQ4:Hid (QAt w4 w.heap.size g off c (qF1 zs (z.ho,z.hn) ws k)):=HQ3.out.below HQ3.out.lt hb4;have HZ4:Hid (qC2 w4 g5 0 z):=qS7 HZ3.out (hb4.block g5 HS3.out.lt5);have Y4:qC2 w4 wr.heap.size 0 y:=HY3.out.below hb4;have HY4:=hJJ Y4;obtain⟨x0,x1,x2,x3,x4,x5,x6,x7⟩:=Y4;simp only[gG]at x0 x1 x2 x3 x4 x5 x6 x7;have hsz4:=hb4.size;clear hu hb4 y0 y1 y2 y3 y4 y5 y6 y7;cases u
     .have HE:Hid (qF1 zs (z.ho,z.hn) ws (k+1)=qF1 zs (z.ho,z.hn) ws k++[y]):=by
       show qF1 zs (z.ho,z.hn) ws (k+1)=_
       rw[QE0 HY.out,gK ⟨HT.out,of_decide_eq_false HU.out⟩]
      have hL16:L<=16:=by
       have:=QY5 HW.out (z.ho,z.hn) k;have:=HL.out;have:=HR.out.1;omega
      have hA5:Below w4.heap.size w4 (w4.alloc (.cells #[iv y.k,iv y.ho,iv y.hn,iv y.w,iv y.oo,iv y.on,iv y.to,iv y.tn] 208)):=zN;have HB5:=hJJ hA5;have HQ5:Hid (QAt (w4.alloc (.cells #[iv y.k,iv y.ho,iv y.hn,iv y.w,iv y.oo,iv y.on,iv y.to,iv y.tn] 208)) w.heap.size g off c (qF1 zs (z.ho,z.hn) ws k)):=HQ4.out.below HQ4.out.lt hA5;have HS5:Hid (QU3 w w.heap.size g5 f (w4.alloc (.cells #[iv y.k,iv y.ho,iv y.hn,iv y.w,iv y.oo,iv y.on,iv y.to,iv y.tn] 208))):=HS4.out.after hA5;have HZ5:Hid (qC2 (w4.alloc (.cells #[iv y.k,iv y.ho,iv y.hn,iv y.w,iv y.oo,iv y.on,iv y.to,iv y.tn] 208)) g5 0 z):=qS7 HZ4.out (hA5.block g5 HS4.out.lt5);have HNW:Hid (∀j u,(qZ6 y)[j]?=some u->(w4.alloc (.cells #[iv y.k,iv y.ho,iv y.hn,iv y.w,iv y.oo,iv y.on,iv y.to,iv y.tn] 208)).cell? ((⟨w4.heap.size,0,none⟩:Addr).add j)=some u):=World.news_of_block (World.alloc_heap_new w4 _);clear hA5;go_wp2_with (first | (at_builtin;refine wpList_append_arg _ rfl _ _ 89 rfl 208 i0 (.agg #[iv 0,iv 0,iv 0,iv 0,iv 0,iv 0,iv 0,iv 0]) 8 64 Tryz.under89 hi hz0 hz1 hz2 rfl (by decide) g off L c (qR8 (qF1 zs (z.ho,z.hn) ws k)) rfl ?lo ?olds ⟨w4.heap.size,0,none⟩ 1 1 (qZ6 y) rfl rfl HNW.out ?c2 ?spare ?ml ?bt ?room ?grow) | go_in)
      case lo=>rw[qX0,HL.out]
      case olds=>exact QO0 HQ5.out.at'
      case c2=>exact fun u hu=>QR7 [y] u (by simpa[qR8] using hu)
      case spare =>
       intro hle j hj;have:=HQ5.out.room (L * 8+j) (by simp[qZ6]at hj;omega);rwa [<- Nat.add_assoc]at this
      case ml=>unfold maxLen;omega
      case bt=>omega
      case room =>
       intro hle;have Q6:=HQ5.out.push y (by rw[HL.out];exact hle);rw[HL.out]at Q6;have HQ6:=hJJ Q6;have S6:=HS5.out.write (jF HS5.out.oldb HQ5.out.old) hne5 hneb (off+L * 8) (qZ6 y);have Z6:=qS7 HZ5.out (qV0 g g5 hne5.symm (qZ6 y) (off+L * 8) _);generalize World.setCells _ g (off+L * 8) (qZ6 y)=w6 at *
       go_wp2;exact⟨⟨k+1,by omega,by go_num,S6,⟨g,off,c,by rw[HE.out];simp[HL.out],by rw[HE.out];exact Q6,hne5,hneb⟩,Z6⟩,by simp[intOf];omega⟩
      case grow =>
       intro hlt6 v' w6 ho6 hg6;rw[<- QX8,<- HE.out]at ho6;have hl6:(qF1 zs (z.ho,z.hn) ws (k+1)).length=L+1:=by rw[HE.out];simp[HL.out]
       rw[<- hl6]at ho6;have hlt4:w4.heap.size<(w4.alloc (.cells #[iv y.k,iv y.ho,iv y.hn,iv y.w,iv y.oo,iv y.on,iv y.to,iv y.tn] 208)).heap.size:=by simp
       have HQ6:Hid (QS w6 w.heap.size g5 v' (qF1 zs (z.ho,z.hn) ws (k+1))):=qHt ho6 (fun e=>by rw[e]at hl6;simp at hl6) (by have:=HS4.out.gm.lt;omega) (by have:=HS4.out.lt5;omega);have hb6:Below (w4.alloc (.cells #[iv y.k,iv y.ho,iv y.hn,iv y.w,iv y.oo,iv y.on,iv y.to,iv y.tn] 208)).heap.size (w4.alloc (.cells #[iv y.k,iv y.ho,iv y.hn,iv y.w,iv y.oo,iv y.on,iv y.to,iv y.tn] 208)) w6:=(gC _ _).grown hg6 (gB _) (fun q e=>by cases e);have S6:=HS5.out.after hb6;have Z6:=qS7 HZ5.out (hb6.block g5 HS5.out.lt5);clear ho6 hg6 hb6;go_wp2;exact⟨⟨k+1,by omega,by go_num,S6,HQ6.out,Z6⟩,by simp[intOf];omega⟩
     .have HE:Hid (qF1 zs (z.ho,z.hn) ws (k+1)=qF1 zs (z.ho,z.hn) ws k):=by
       show qF1 zs (z.ho,z.hn) ws (k+1)=_
       rw[QE0 HY.out,gI (fun q=>q.2 (kK HU.out))]
      go_wp2;exact⟨⟨k+1,by omega,by go_num,HS4.out,⟨g,off,c,by rw[HE.out,HL.out],by rw[HE.out];exact HQ4.out,hne5,hneb⟩,HZ4.out⟩,by simp[intOf];omega⟩
   .have hkn:k=n:=by omega
    subst hkn;have HQ:=hJJ hq;have HSe:=hJJ hs
    have HWe:Hid (qCP zs f (qF1 zs (z.ho,z.hn) ws k)):=by
     have h1:=qGu (fun y hy=>⟨(qEV (QG1 HP.out y hy)).1,(qEV (QG1 HP.out y hy)).2⟩) HW.out;rw[HF.out,HR.out.1]at h1;exact h1
    have hL16:(qF1 zs (z.ho,z.hn) ws k).length<=16:=by
     have:=QY5 HW.out (z.ho,z.hn) k;have:=HR.out.1;omega
    clear hs hq hz;go_wp2;go_step3
    obtain⟨g,off,c,hv,hrest⟩:=HQ.out;exact⟨qFw f (2 * (qF1 zs (z.ho,z.hn) ws k).length+1),qHx _ _ (by omega),g5,f,qF1 zs (z.ho,z.hn) ws k,u4,_,_,_,_,_,_,_,_,_,_,_,_,_,_,_,_,_,_,_,_,_,_,_,_,_,_,_,_,_,_,_,_,_,_,_,_,_,_,_,_,_,_,_,rfl,HSe.out,.inl ⟨rfl,⟨_,_,hv⟩,fun _=>HQ.out,HWe.out,rfl⟩⟩
end
