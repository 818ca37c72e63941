/- Contracts. -/
import Derived.Test.YtdghpccmdnnenaaGreatDoorPx12
import Derived.Test.YtdghpccmdnnenaaGreatDoorPx19
import Derived.Deep.MidRow
namespace Go.Proofs.YtdghpccmdnnenaaGreatDoor
set_option maxRecDepth 100000
set_option maxHeartbeats 8000000
open Go.RowKit Go.Proofs.Tryz
set_option linter.unusedVariables false
set_option linter.unusedSimpArgs false
section
open Go.RowKit Go.Maps
def qZ8(T:TS):List Value:=(List.range 256).map fun i=>Value.bool (T i)
theorem qL9(T:TS):(qZ8 T).length=256:=by simp[qZ8]
theorem qKG(T:TS):(qZ8 T).toArray=qG9 T:=rfl
theorem qJF(T:TS):(qG9 T).toList=qZ8 T:=by simp[qG9,qZ8]
theorem qEd(T:TS):∀v∈qZ8 T,v.oneCell'=true:=by
 intro v hv;simp[qZ8]at hv;obtain⟨i,_,rfl⟩:=hv;rfl
theorem qHP(a:Option Addr)(n cap:Nat)(zs:List qA1)(gs:List GrI)(w:World)(h:qB9 w a n zs)(hc:qC3 zs=0)(hg:QM8 zs gs):
  CP 248 #[.slice a n cap] w fun e w'=>∃b,e=.returned (.map (some b))/\GM w' b (ofG gs)/\w.heap.size<=b/\Below w.heap.size w w':=by
 refine (qJm a n cap zs w h (qHj h.1 hc) hc).mono ?_;rintro e w' ⟨b,f,rfl,hG,hWk,hb,hb2⟩;obtain⟨gs',h1,h2⟩:=qNC hG;have:=QS4 (qJO (fun z hz=>((qHh hc).2 z hz).1) hWk h1 h2) hg;exact⟨b,rfl,by rw[<- this,h2];exact hG,hb,hb2⟩
theorem qP3{B:Nat}{w0:World}(g:Nat)(hg:B<=g):∀(vs:List Value) (o:Nat) (w:World),Below B w0 w->Below B w0 (w.setCells g o vs)
 | [],_,_,h=>h
 | v::r,o,w,h=>qP3 g hg r (o+1) _ (h.setCell (p:=⟨g,o,none⟩) hg v)
theorem qX8(g:Nat):∀(vs:List Value) (o:Nat) (w:World),(w.setCells g o vs).heap.size=w.heap.size
 | [],_,_=>rfl
 | v::r,o,w=>(qX8 g r (o+1) _).trans (jP _ _ _)
theorem qY7(g:Nat){i:Nat}(hi:i≠g):∀(vs:List Value) (o:Nat) (w:World),(w.setCells g o vs).heap[i]?=w.heap[i]?
 | [],_,_=>rfl
 | v::r,o,w=>(qY7 g hi r (o+1) _).trans (kE _ _ _ _ hi)
theorem qM1{w w':World}{b o n:Nat}(h:w.there b o n)(hb:Below w.heap.size w w'):w'.there b o n:=fun j hj=>by
 obtain⟨h1,h2⟩:=h j hj;obtain⟨u,hu⟩:=Option.isSome_iff_exists.1 h1;have hl:=zL w _ hu;exact⟨by rw[hb.cell (p:=⟨b,o+j,none⟩) hl];exact h1,by rw[hb.frozen (p:=⟨b,o+j,none⟩) hl];exact h2⟩
theorem qY2{w w':World}{b o:Nat}{cs:List Value}(h:w.rangeAt b o cs)(hb:Below w.heap.size w w'):w'.rangeAt b o cs:=fun j v hv =>
 (hb.cell (p:=⟨b,o+j,none⟩) (zL w _ (h j v hv))).trans (h j v hv)
structure TB (w:World) (A b:Nat) (f:RoI->Int) (ts:List TS) (T:TS) (wr:World):Prop where
 gm:GM wr b f
 bA:b<A
 wA:w.heap.size<A
 ah:∀i U,ts[i]?=some U->wr.rangeAt A (i*256) (qZ8 U)
 aa:wr.there A 0 2048
 tl:wr.rangeAt (A+1) 0 (qZ8 T)
 tt:wr.there (A+1) 0 256
 rt:wr.there w.heap.size 0 256
 bl:Below w.heap.size w wr
 sz:A+1<wr.heap.size
theorem TB.below{w:World}{A b:Nat}{f:RoI->Int}{ts:List TS}{T:TS}{wr wr':World}(h:TB w A b f ts T wr)(hb:Below wr.heap.size wr wr'):TB w A b f ts T wr' :=
 ⟨h.gm.below h.gm.lt hb,h.bA,h.wA,fun i U e=>qY2 (h.ah i U e) hb,qM1 h.aa hb,qY2 h.tl hb,qM1 h.tt hb,qM1 h.rt hb,h.bl.trans (hb.mono h.bl.size),gD h.sz hb.size⟩
theorem TB.told{w:World}{A b:Nat}{f:RoI->Int}{ts:List TS}{T:TS}{wr:World}(h:TB w A b f ts T wr)(U:TS):TB w A b f ts U (wr.setCells (A+1) 0 (qZ8 U)) :=
 ⟨qQ1 h.gm (qY7 _ (by have:=h.bA;omega) _ _ _),h.bA,h.wA,fun i V e=>World.rangeAt_setCells_apart (h.ah i V e) _ _ _ (.inl (by omega)),World.there_setCells h.aa _ _ _,World.rangeAt_setCells_same _ _ _ _ (by rw[qL9];exact h.tt),World.there_setCells h.tt _ _ _,World.there_setCells h.rt _ _ _,qP3 _ (by have:=h.wA;omega) _ _ _ h.bl,by rw[qX8];exact h.sz⟩
theorem TB.ahead{w:World}{A b:Nat}{f:RoI->Int}{ts:List TS}{T:TS}{wr:World}(h:TB w A b f ts T wr){k:Nat}(hk:ts.length=k)(h8:k<8):TB w A b f (ts++[T]) T (wr.setCells A (k*256) (qZ8 T)):=by
 refine⟨qQ1 h.gm (qY7 _ (by have:=h.bA;omega) _ _ _),h.bA,h.wA,fun i V e=>?_,World.there_setCells h.aa _ _ _,World.rangeAt_setCells_apart h.tl _ _ _ (.inl (by omega)),World.there_setCells h.tt _ _ _,World.there_setCells h.rt _ _ _,qP3 _ (by have:=h.wA;omega) _ _ _ h.bl,by rw[qX8];exact h.sz⟩;by_cases hi:i<k
 .rw[kY (by omega)]at e;exact World.rangeAt_setCells_apart (h.ah i V e) _ _ _ (.inr (.inl (by rw[qL9];omega)))
 .have hik:i=k:=by
   by_cases q:i<(ts++[T]).length
   .simp at q;omega
   .rw[gE (by omega)]at e;cases e
  subst hik;rw[kN (by omega),hk,Nat.sub_self]at e;simp at e;subst e;refine World.rangeAt_setCells_same _ _ _ _ (fun j hj=>?_);rw[qL9]at hj;have:=h.aa (i*256+j) (by omega);simpa using this
theorem qOo:prog.underlying 308=some (.array 8 287):=by kernel_rfl
theorem qNO:(prog.info? 308).map (fun i=>(i.zero,i.size))=some (some (.agg (Array.replicate 2048 (Value.bool false))),2048):=by kernel_rfl
theorem qNN(w:World):(zeroValue 308).run prog w=.ok (.agg (Array.replicate 2048 (Value.bool false))) w:=(zero_of_info qNO).1 w
theorem QN3(w:World)(c:Array Value)(t:TypeId):(w.alloc (.cells c t)).there w.heap.size 0 c.size:=fun j hj=>by
 have h:(w.alloc (.cells c t)).heap[w.heap.size]?=some (.cells c t (0,0)):=heap_alloc_last w _;refine⟨?_,by unfold World.frozen?;simp only[h];simp⟩;rw[cell_of_row _ _ (0+j) c t (0,0) h,gG,Array.getElem?_eq_getElem hj];rfl
theorem qHc(w:World)(T:TS)(t:TypeId):(w.alloc (.cells (qG9 T) t)).rangeAt w.heap.size 0 (qZ8 T):=fun j v hv=>by
 have h:(w.alloc (.cells (qG9 T) t)).heap[w.heap.size]?=some (.cells (qG9 T) t (0,0)):=heap_alloc_last w _;rw[cell_of_row _ _ (0+j) (qG9 T) t (0,0) h,gG,<- hv,<- qKG];simp
theorem QC2{w:World}{g o:Nat}(h:w.there g o 256)(T:TS):(storeCells ⟨g,o,none⟩ (qG9 T).toList).run prog w=.ok () (w.setCells g o (qZ8 T)):=by
 have:=run_storeCells_cells (P:=prog) g o (qZ8 T) 0 w (fun j hj=>by rw[qL9]at hj;simpa using (h j hj).1) (fun j hj=>by rw[qL9]at hj;simpa using (h j hj).2) (qEd T);rw[qJF];simpa using this
theorem QP8{w:World}{g o:Nat}{T:TS}(h:w.rangeAt g o (qZ8 T)):(Instr.loadAt 287 (.pointer (some ⟨g,o,none⟩))).run prog w=.ok (.agg (qG9 T)) w :=
 run_loadAt_mid w g o _ (qZ8 T) _ h QF6 rfl (by rw[qL9];exact QE1)
theorem qJa(w w1:World)(b:Nat)(f:RoI->Int)(hG:GM w1 b f)(hb:w.heap.size<w1.heap.size)(ht:w1.there w.heap.size 0 256)(hbl:Below w.heap.size w w1):
  TB w w1.heap.size b f [] noT ((w1.alloc (.cells (Array.replicate 2048 (Value.bool false)) 308)).alloc (.cells (qG9 noT) 287)):=by
 have A1:Below w1.heap.size w1 (w1.alloc (.cells (Array.replicate 2048 (Value.bool false)) 308)):=zN;have A2:Below (w1.alloc (.cells (Array.replicate 2048 (Value.bool false)) 308)).heap.size (w1.alloc (.cells (Array.replicate 2048 (Value.bool false)) 308)) ((w1.alloc (.cells (Array.replicate 2048 (Value.bool false)) 308)).alloc (.cells (qG9 noT) 287)):=zN;have t1:=QN3 w1 (Array.replicate 2048 (Value.bool false)) 308;rw[Array.size_replicate]at t1;have t2:=QN3 (w1.alloc (.cells (Array.replicate 2048 (Value.bool false)) 308)) (qG9 noT) 287;have r2:=qHc (w1.alloc (.cells (Array.replicate 2048 (Value.bool false)) 308)) noT 287;rw[qI7]at t2;have A3:=A1.trans (A2.mono (by simp));refine⟨hG.below hG.lt A3,hG.lt,hb,fun i U e=>by simp at e,qM1 t1 A2,?_,?_,qM1 ht A3,hbl.trans (A3.mono (by omega)),by simp⟩
 .rw[jC]at r2;exact r2
 .rw[jC]at t2;exact t2
theorem qFN(L R:TS)(ap:Bool)(w:World):
  CP 250 #[.agg (qZ8 L).toArray,.agg (qZ8 R).toArray,.bool ap] w fun e w'=>e=.returned (.agg (qZ8 (QU2 ap L R)).toArray)/\Below w.heap.size w w':=qFO L R ap w
abbrev SR(w:World)(A b:Nat)(f:RoI->Int)(ts:List TS)(P:Nat)(x:qC6)(l r:Nat)(L R:List Value)(w':World):Prop :=
 (w'.cell? ⟨P,0,none⟩=some (iv x.k)/\w'.cell? ⟨P,3,none⟩=some (iv x.l)/\w'.cell? ⟨P,4,none⟩=some (iv x.r))/\w'.rangeAt A (l*256) L/\w'.rangeAt A (r*256) R/\w'.there (A+1) 0 256/\∃T,TB w A b f ts T w'
theorem qEI{w:World}{A b:Nat}{f:RoI->Int}{ts:List TS}{P:Nat}{x:qC6}{l r:Nat}{L R:List Value}{w1 w2:World}(h:SR w A b f ts P x l r L R w1)(hb:Below w1.heap.size w1 w2):SR w A b f ts P x l r L R w2:=by
 obtain⟨⟨h0,h3,h4⟩,hl,hr,ht,T,hT⟩:=h;have key:∀(o:Nat) (v:Value),w1.cell? ⟨P,o,none⟩=some v->w2.cell? ⟨P,o,none⟩=some v:=fun o v e=>(hb.cell (p:=⟨P,o,none⟩) (zL w1 ⟨P,o,none⟩ e)).trans e
 exact⟨⟨key _ _ h0,key _ _ h3,key _ _ h4⟩,qY2 hl hb,qY2 hr hb,qM1 ht hb,T,hT.below hb⟩
theorem qMF{w:World}{A b:Nat}{f:RoI->Int}{ts:List TS}{P:Nat}{x:qC6}{l r:Nat}{L R:List Value}{w1:World}(h:SR w A b f ts P x l r L R w1):SR w A b f ts P x l r L R w1.drew :=
 qEI h (gC _ _).drew
theorem qJf{w:World}{A b:Nat}{f:RoI->Int}{ts:List TS}{P:Nat}{x:qC6}{l r:Nat}{L R:List Value}{w1:World}(h:SR w A b f ts P x l r L R w1)(hP:P≠A+1){cU:List Value}{U:TS}(hU:cU=qZ8 U):SR w A b f ts P x l r L R (w1.setCells (A+1) 0 cU):=by
 subst hU;obtain⟨⟨h0,h3,h4⟩,hl,hr,ht,T,hT⟩:=h
 have key:∀(o:Nat) (v:Value),w1.cell? ⟨P,o,none⟩=some v->(w1.setCells (A+1) 0 (qZ8 U)).cell? ⟨P,o,none⟩=some v:=fun o v e=>by
  rw[World.cell?_setCells_out (A+1) (qZ8 U) 0 w1 ⟨P,o,none⟩ (fun hb _=>absurd hb hP)];exact e
 exact⟨⟨key _ _ h0,key _ _ h3,key _ _ h4⟩,World.rangeAt_setCells_apart hl _ _ _ (.inl (by omega)),World.rangeAt_setCells_apart hr _ _ _ (.inl (by omega)),World.there_setCells ht _ _ _,U,hT.told U⟩
theorem qJU(a:Option Addr)(n cap:Nat)(zs:List qA1)(a':Option Addr)(m cap':Nat)(ps:List qC6)(gs:List GrI)(w:World)(h:qB9 w a n zs)(hc:qC3 zs=0)(hg:QM8 zs gs)(hp:qC1 w a' m ps)(hpc:qN3 ps=0):
  CP 231 #[.slice a n cap,.slice a' m cap'] w fun e w'=>e=.returned (.agg (qG9 (qS6 (ofG gs) ps)))/\Below w.heap.size w w':=by
 have hz:=qCU;have hz8:=qNN;have hm8:m<=8:=by have:=(QV6 hpc).2.1;have:=hp.1;omega
 have hm1:1<=m:=by have:=(QV6 hpc).1;have:=hp.1;omega
 have HR:=hJJ h;have HP:=hJJ hp;have HPA:Hid (∀k x,ps[k]?=some x->qJ7 k x=0):=(QV6 hpc).2.2;clear h hp;obtain⟨f,hf⟩:∃f,f=ofG gs:=⟨_,rfl⟩;rw[<- hf]
 have HS:Hid (∀w2:World,Below w.heap.size w w2->CP 248 #[.slice a n cap] w2 fun e w'=>∃b,e=.returned (.map (some b))/\GM w' b f/\w2.heap.size<=b/\Below w2.heap.size w2 w'):=fun w2 hb=>by
  rw[hf];exact qHP a n cap zs gs w2 (HR.out.below hb) hc hg
 clear hf hg hc hpc;go_enter func231,ntmps231;go_wp2_with (first | (go_at_call 248;refine (HS.out _ (zN)).mono ?_;rintro e w1 ⟨b,rfl,hG1,hgb,hb1⟩) | fail)
 have hb1w:Below w.heap.size w w1:=(zN).trans (hb1.mono (by simp));have TB0:Hid (TB w w1.heap.size b f [] noT ((w1.alloc (.cells (Array.replicate 2048 (Value.bool false)) 308)).alloc (.cells (qG9 noT) 287))):=qJa w w1 b f hG1 (by have:=hb1.size;simp at this;omega) (qM1 (by have:=QN3 w (qG9 noT) 287;rw[qI7]at this;exact this) hb1) hb1w;clear hz hz8 hG1 hgb hb1 hb1w HS HR;obtain⟨A,hA⟩:∃A,A=w1.heap.size:=⟨_,rfl⟩;rw[<- hA]at TB0 ⊢
 clear hA;go_loopw [14] (fun i wr=>∃(k:Nat) (T:TS),k<=m/\i=iv (k:Int)/\Hid (TB w A b f (qC0 f ps k) T wr)/\Hid (1<=k->(qC0 f ps k)[k-1]?=some T)) (fun i _=>m-(intOf i).toNat)
 case atStart=>exact⟨0,noT,gH _,rfl,TB0,fun h=>absurd h (by omega)⟩
 case round =>
  obtain⟨k,T,hk,rfl,HT,HL⟩:=hrel;have hmm:(m:Int)<=8:=by omega
  by_cases hlt:k<m
  .obtain⟨g,off,x,ea,hx,hpa⟩:=HP.out.at hlt
   subst ea;have HX:=hJJ hx;have h0:qJ7 k x=0:=HPA.out k x hx;obtain⟨g0,g1,g2,g3,g4⟩:=(hpa.below (HT.out.bl));clear hx hpa;have hlt':(k:Int)<(m:Int):=by omega
   by_cases ek:x.k=1
   .have b1:(x.k==1)=true:=by simp[ek]
    have hr:qD1 x.ro x.rn=true:=by
     cases q:qD1 x.ro x.rn
     .simp[qJ7,ek,q]at h0
     .rfl
    have HO:Hid (qQ0 f (qC0 f ps k) x=qHr (f (x.ro,x.rn))):=by unfold qQ0;rw[gK ek];trivial
    clear ek h0;have hG:=HT.out.gm;obtain⟨v,hv⟩:∃v,v=f (x.ro,x.rn):=⟨_,rfl⟩;obtain⟨U,hU⟩:∃U,U=qHr v:=⟨_,rfl⟩;have HSg:Hid (∀X:World,CP 249 #[.int .u8 v] X fun e W'=>e=.returned (.agg (qG9 U))/\Below X.heap.size X W'):=fun X=>by rw[hU];exact qHL v X (by rw[hv];exact hG.fn.st _)
    have HO2:Hid (qQ0 f (qC0 f ps k) x=U):=by rw[hU,hv];exact HO.out
    have HLK:Hid (∀X:World,Below wr.heap.size wr X->(Instr.lookup 306 (.map (some b)) (.agg #[iv x.ro,iv x.rn]) false).run prog X=.ok (.int .u8 v) X):=fun X hX=>by rw[hv];exact QE9 (hG.below hG.lt hX) (r:=(x.ro,x.rn)) (QO1 hr)
    clear hU hv HO hG;have A5:Below wr.heap.size wr (wr.alloc (.cells #[iv x.k,iv x.ro,iv x.rn,iv x.l,iv x.r] 219)):=zN;have HT5:Hid (TB w A b f (qC0 f ps k) T (wr.alloc (.cells #[iv x.k,iv x.ro,iv x.rn,iv x.l,iv x.r] 219))):=HT.out.below A5;have hlk:=HLK.out _ A5;clear A5;go_upto_region 10 with (first | (go_at_call 249;refine (HSg.out _).mono ?_;rintro e w2 ⟨rfl,hb2⟩;have HT2:Hid (TB w A b f (qC0 f ps k) T w2):=HT5.out.below hb2;have hst:=QC2 HT2.out.tt U) | fail)
    have HTV:Hid (TB w A b f (qC0 f ps k) U (w2.setCells (A+1) 0 (qZ8 U))):=HT2.out.told U;have HBV:Hid (HT2=HT2):=rfl;clear hst hlk HLK HSg HBV g0 g1 g2 g3 g4;generalize w2.setCells (A+1) 0 (qZ8 U)=V at HTV ⊢
    clear HT2 HT5 hb2;have hld:=QP8 HTV.out.tl;have hst2:(storeCells ⟨A,k*256,none⟩ (qG9 U).toList).run prog V=.ok () (V.setCells A (k*256) (qZ8 U)):=QC2 (fun j hj=>by have:=HTV.out.aa (k*256+j) (by omega);simpa using this) U;go_wp2_with fail
    unfold Oper.wp;simp[execOp,Act.eval,hld,Result.andThen];rw[Oper.upon_value];clear hld;have hkl:(qC0 f ps k).length=k:=qS5 f ps k (by have:=HP.out.1;omega);have HE:Hid (qC0 f ps (k+1)=qC0 f ps k++[U]):=by rw[qT8 HX.out,HO2.out];trivial
    have HTE:Hid (TB w A b f (qC0 f ps (k+1)) U (V.setCells A (k*256) (qZ8 U))):=by rw[HE.out];exact HTV.out.ahead hkl (by omega)
    have HLE:Hid (1<=k+1->(qC0 f ps (k+1))[k+1-1]?=some U):=fun _=>by rw[HE.out,Nat.add_sub_cancel,kN (by omega),hkl,Nat.sub_self];rfl
    clear hkl HTV HE;go_wp2_with fail
    exact⟨⟨k+1,U,by omega,by go_num,HTE,HLE⟩,by simp[intOf];omega⟩
   .have b1:(x.k==1)=false:=by simp[ek]
    obtain⟨l,r,hl,hr,hxl,hxr⟩:∃l r:Nat,l<k/\r<k/\x.l=(l:Int)/\x.r=(r:Int):=by
     unfold qJ7 at h0;rw[gI (by intro q;rw[gK q]at h0;cases h0),gI ek]at h0;split at h0
     .cases h0
     .split at h0
      .cases h0
      .rename_i q1;split at h0
       .cases h0
       .rename_i q2;exact⟨x.l.toNat,x.r.toNat,by omega,by omega,by omega,by omega⟩
    have hkl:(qC0 f ps k).length=k:=qS5 f ps k (by have:=HP.out.1;omega);obtain⟨L,hL⟩:∃L,(qC0 f ps k)[l]?=some L:=⟨_,gA (by omega)⟩;obtain⟨R,hR⟩:∃R,(qC0 f ps k)[r]?=some R:=⟨_,gA (by omega)⟩;obtain⟨ap,hap⟩:∃ap,(x.k==3)=ap:=⟨_,rfl⟩;obtain⟨U,hU⟩:∃U,U=QU2 ap L R:=⟨_,rfl⟩
    have HO2:Hid (qQ0 f (qC0 f ps k) x=U):=by
     unfold qQ0;rw[gI ek,hxl,hxr,kS,kS,hL,hR,hU,<- hap];have : decide (x.k=3)=(x.k==3):=by rw[kX];simp
     rw[this];trivial
    obtain⟨cL,hcL⟩:∃c,c=qZ8 L:=⟨_,rfl⟩;obtain⟨cR,hcR⟩:∃c,c=qZ8 R:=⟨_,rfl⟩;obtain⟨cU,hcU⟩:∃c,c=qZ8 U:=⟨_,rfl⟩;have HCU:=hJJ hcU;have HTo:Hid (∀X:World,CP 250 #[.agg cL.toArray,.agg cR.toArray,.bool ap] X fun e w'=>e=.returned (.agg cU.toArray)/\Below X.heap.size X w'):=fun X=>by rw[hcL,hcR,hcU,hU];exact qFN L R ap X
    have A5:Below wr.heap.size wr (wr.alloc (.cells #[iv x.k,iv x.ro,iv x.rn,iv x.l,iv x.r] 219)):=zN;have HT5:Hid (TB w A b f (qC0 f ps k) T (wr.alloc (.cells #[iv x.k,iv x.ro,iv x.rn,iv x.l,iv x.r] 219))):=HT.out.below A5;have HS5:Hid (SR w A b f (qC0 f ps k) wr.heap.size x l r cL cR (wr.alloc (.cells #[iv x.k,iv x.ro,iv x.rn,iv x.l,iv x.r] 219))):=⟨⟨by simp,by simp,by simp⟩,by rw[hcL];exact HT5.out.ah l L hL,by rw[hcR];exact HT5.out.ah r R hR,HT5.out.tt,T,HT5.out⟩;have hPA:wr.heap.size≠A+1:=by have:=HT.out.sz;omega
    have HXL:Hid (x.l=(l:Int)/\x.r=(r:Int)):=⟨hxl,hxr⟩;clear ek h0 hL hR hU hkl A5 hxl hxr;go_upto_region 9 with fail
    clear g0 g1 g2 g3 g4;generalize wr.alloc (.cells #[iv x.k,iv x.ro,iv x.rn,iv x.l,iv x.r] 219)=X5 at HT5 HS5 ⊢
    obtain⟨P,hPP⟩:∃P,P=wr.heap.size:=⟨_,rfl⟩;rw[<- hPP]at HS5 hPA ⊢
    clear hPP HT5;obtain⟨hxl,hxr⟩:=HXL.out;have hu:=QF6;have hi:(prog.info? 287).map (·.size)=some cU.length:=by rw[hcU,qL9];exact QE1
    have hiL:(prog.info? 287).map (·.size)=some cL.length:=by rw[hcL,qL9];exact QE1
    have hiR:(prog.info? 287).map (·.size)=some cR.length:=by rw[hcR,qL9];exact QE1
    have hln:cU.length=256:=by rw[hcU];exact qL9 U
    have hon:∀v∈cU,v.oneCell'=true:=by rw[hcU];exact qEd U
    clear hcL hcR hcU;have hl':(l:Int)<8:=by omega
    have hr':(r:Int)<8:=by omega
    have hl0:(0:Int)<=(l:Int):=by omega
    have hr0:(0:Int)<=(r:Int):=by omega
    refine gL (S:=fun w'=>(w'.cell? ⟨P,0,none⟩=some (iv x.k)/\w'.cell? ⟨P,3,none⟩=some (iv x.l)/\w'.cell? ⟨P,4,none⟩=some (iv x.r))/\w'.rangeAt A (l*256) cL/\w'.rangeAt A (r*256) cR/\w'.there (A+1) 0 256/\∃T,TB w A b f (qC0 f ps k) T w') (by kernel_rfl) (qMF HS5.out) (fun hHeld=>?_);refine Zk.go [0,1,2] ?_
    iterate 3
     refine Zk.st (v:=?_) rfl ?_ ?_;rotate_left 1
     .intro w hSw;(try dsimp only at hSw);go_simp;try (with_reducible rfl)
     try simp only[Act.put,zA,zB,zC,zD,zE,zF]
    refine Zk.fin ?_;refine wpAnyH_take (i:=3) (v:=.agg cL.toArray) rfl (by kernel_rfl) (by kernel_rfl) (by kernel_rfl) (fun _ _ _ h=>h) (yieldsIf_load_mid (by rfl) _ _ rfl A (l*256) rfl cL _ (fun w hSw=>hSw.2.1) hu rfl hiL) (by assumption) ?_;try simp only[Act.put,zA,zB,zC,zD,zE,zF]
    refine Zk.go [4,5,6] ?_
    iterate 3
     refine Zk.st (v:=?_) rfl ?_ ?_;rotate_left 1
     .intro w hSw;(try dsimp only at hSw);go_simp;try (with_reducible rfl)
     try simp only[Act.put,zA,zB,zC,zD,zE,zF]
    refine Zk.fin ?_;refine wpAnyH_take (i:=7) (v:=.agg cR.toArray) rfl (by kernel_rfl) (by kernel_rfl) (by kernel_rfl) (fun _ _ _ h=>h) (yieldsIf_load_mid (by rfl) _ _ rfl A (r*256) rfl cR _ (fun w hSw=>hSw.2.2.1) hu rfl hiR) (by assumption) ?_;try simp only[Act.put,zA,zB,zC,zD,zE,zF]
    refine Zk.go [8,9,10] ?_
    iterate 3
     refine Zk.st (v:=?_) rfl ?_ ?_;rotate_left 1
     .intro w hSw;(try dsimp only at hSw);go_simp;try (with_reducible rfl)
     try simp only[Act.put,zA,zB,zC,zD,zE,zF]
    refine Zk.fin ?_;refine Zk.rd (i:=11) rfl (fun K hK=>?_);go_simp;refine (HTo.out _).mono ?_;rintro e w2 ⟨rfl,hb2⟩;have hS:=qEI (by assumption) hb2;have HS2:=hJJ hS;refine hK.out _ _ hS (fun hHeld=>?_);clear hK K;try simp only[Act.put,zA,zB,zC,zD,zE,zF]
    refine wpAnyH_ready (rs:=[12]) (by kernel_rfl) (by simp) ?_;refine kC rfl (fun K hK=>?_) mB;rw[gK (by rfl)];refine wp_store_mid _ _ _ rfl _ _ (List.toArray _) rfl rfl ?_ (by rw[kO];exact hi) (all_oneCell_toArray hon) ?_
    .rw[kO,hln];exact HS2.out.2.2.2.1
    simp only[Act.put,List.setIfInBounds_toArray,List.set_cons_zero,List.set_cons_succ,List.toList_toArray];have hS:=qJf HS2.out hPA HCU.out;refine hK.out _ _ hS (fun hHeld=>?_);clear hK K;try simp only[Act.put,zA,zB,zC,zD,zE,zF]
    refine gZ (by kernel_rfl) ?_ _;obtain⟨T2,hT2⟩:=HS2.out.2.2.2.2;have HTV:Hid (TB w A b f (qC0 f ps k) U (w2.setCells (A+1) 0 cU)):=by rw[HCU.out];exact hT2.told U
    clear hT2 hS HS2 hHeld hb2 HS5 HTo;generalize w2.setCells (A+1) 0 cU=V at HTV ⊢
    clear hu hi hiL hiR hln hon;have hld:=QP8 HTV.out.tl;have hst2:(storeCells ⟨A,k*256,none⟩ (qG9 U).toList).run prog V=.ok () (V.setCells A (k*256) (qZ8 U)):=QC2 (fun j hj=>by have:=HTV.out.aa (k*256+j) (by omega);simpa using this) U;go_wp2_with fail
    unfold Oper.wp;simp[execOp,Act.eval,hld,Result.andThen];rw[Oper.upon_value];clear hld;have hkl:(qC0 f ps k).length=k:=qS5 f ps k (by have:=HP.out.1;omega);have HE:Hid (qC0 f ps (k+1)=qC0 f ps k++[U]):=by rw[qT8 HX.out,HO2.out];trivial
    have HTE:Hid (TB w A b f (qC0 f ps (k+1)) U (V.setCells A (k*256) (qZ8 U))):=by rw[HE.out];exact HTV.out.ahead hkl (by omega)
    have HLE:Hid (1<=k+1->(qC0 f ps (k+1))[k+1-1]?=some U):=fun _=>by rw[HE.out,Nat.add_sub_cancel,kN (by omega),hkl,Nat.sub_self];rfl
    clear hkl HTV HE;go_wp2_with fail
    exact⟨⟨k+1,U,by omega,by go_num,HTE,HLE⟩,by simp[intOf];omega⟩
  .have hke:k=m:=by omega
   subst hke
   have heq:qS6 f ps=T:=by
    unfold qS6;rw[HP.out.1,HL.out (by omega)];rfl
   have HEq:Hid (qG9 (qS6 f ps)=qG9 T):=by rw[heq];trivial
   clear heq;have hld:=QP8 HT.out.tl;have hst:=QC2 HT.out.rt T
   have hl2:(loadVar 287 ⟨w.heap.size,0,none⟩).run prog (wr.setCells w.heap.size 0 (qZ8 T))=.ok (.agg (qG9 T)) (wr.setCells w.heap.size 0 (qZ8 T)) :=
    run_loadVar_mid _ _ _ _ (qZ8 T) _ (World.rangeAt_setCells_same _ _ _ _ (by rw[qL9];exact HT.out.rt)) QF6 rfl (by rw[qL9];exact QE1)
   go_wp2_with fail
   unfold Oper.wp;simp[execOp,Act.eval,hld,Result.andThen];rw[Oper.upon_value];have HBf:Hid (Below w.heap.size w (wr.setCells w.heap.size 0 (qZ8 T))):=qP3 _ (gB _) _ _ _ HT.out.bl;clear hld;generalize wr.setCells w.heap.size 0 (qZ8 T)=V at HBf hst hl2;have hcs:=qI7 T;generalize qG9 T=cT at hst hl2 HEq hcs ⊢
   go_wp2_with fail
   refine gQ (v:=.agg cT) ?_ rfl ⟨by rw[HEq.out],HBf.out⟩;simp[results,results231,asAddr,Result.andThen,hl2]
end
