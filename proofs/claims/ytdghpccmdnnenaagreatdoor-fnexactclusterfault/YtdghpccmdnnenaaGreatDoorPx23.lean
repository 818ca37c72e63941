/- Contracts. -/
import Derived.Test.YtdghpccmdnnenaaGreatDoorPx22
namespace Go.Proofs.YtdghpccmdnnenaaGreatDoor
set_option maxRecDepth 100000
set_option maxHeartbeats 8000000
open Go.RowKit Go.Proofs.Tryz
set_option linter.unusedVariables false
set_option linter.unusedSimpArgs false
section
variable {P:Program} {ops:Array Oper} {Q:Exit->Act->World->Prop} {md:Region.Mode} {S:World->Prop}
theorem Zk.stc{i:Nat}{l:List Nat}{oi:Oper}{v:Value}{fuel:Nat}{listed:Array Bool}{a:Act}{w:World}(hi:ops[i]?=some oi)(hy:∀w,S w->(execOp a.eval oi).run P w=.ok (.value v) w)(h:Zk l (wpAnyH P md ops Q S fuel (listed.setIfInBounds i true) (a.put oi.dst v) w))(hs:Region.noSelect ops=true:=by kernel_rfl)(hf:Region.free md ops listed i=true:=by kernel_rfl)(hr:(Region.ready md ops listed).contains i=true:=by kernel_rfl)(hQ:∀c a w,Q (.panic c) (a.put oi.dst v) w->Q (.panic c) a w:=by exact fun _ _ _ h=>nomatch h.1)(hw:Region.wanted oi (yielded ops a.tmps)=true:=by kernel_rfl)(hS:S w:=by assumption):Zk (i::l) (wpAnyH P md ops Q S (fuel+1) listed a w) :=
  wpAnyH_take hi hs hf hr hQ (Or.inl ⟨hw,hy⟩) hS h
theorem Zk.unc{i:Nat}{l:List Nat}{oi:Oper}{fuel:Nat}{listed:Array Bool}{a:Act}{w:World}(hi:ops[i]?=some oi)(h:Zk l (wpAnyH P md ops Q S fuel (listed.setIfInBounds i true) (a.put oi.dst undef) w))(hs:Region.noSelect ops=true:=by kernel_rfl)(hf:Region.free md ops listed i=true:=by kernel_rfl)(hr:(Region.ready md ops listed).contains i=true:=by kernel_rfl)(hQ:∀c a w,Q (.panic c) (a.put oi.dst undef) w->Q (.panic c) a w:=by exact fun _ _ _ h=>nomatch h.1)(hw:Region.wanted oi (yielded ops a.tmps)=false:=by kernel_rfl)(hS:S w:=by assumption):Zk (i::l) (wpAnyH P md ops Q S (fuel+1) listed a w) :=
  wpAnyH_take hi hs hf hr hQ (Or.inr ⟨hw,rfl⟩) hS h
end
theorem qB4{p:Prop}(h:p):Hid p:=h
structure qN0 (E:qH3) (cs:List qA5):Prop where
 es:E.es=cs.map (·.e)
 cf:∀p c,cs[p]?=some c->(qE2 1048576 c/\c.rn<=c.rc/\c.rc<=maxLen/\qV5 c=0)/\∃gs,QM8 c.zs gs/\(∀f s,E.al p f s=alW (qA3 c.fs) gs f s)/\E.cl p=c.cs
theorem qA7.conf{w:World}{a:Option Addr}{n:Nat}{cs:List qA5}(h:qA7 w a n cs){p:Nat}{c:qA5}(hc:cs[p]?=some c):qF4 w c:=by
 have hp:p<n:=by
  have h1:=(gY.1 hc).1;have h2:=h.1;omega
 obtain⟨b,off,c',_,e,_,hi⟩:=h.at hp
 rw[e]at hc;cases hc;exact hi
def qT7(w:World)(B:Nat)(a:Option Addr)(m:Nat)(cs:List qA5):Prop:=∀W,Below B w W->qA7 W a m cs/\qM4 0 W/\qD9 W
def qLE(w:World)(b B:Nat)(cv:Value)(sa:Option Addr)(sc:Nat)(said:List StI)(la:Option Addr)(lc:Nat)(ls:List LkI)(x:StI)(k:Int)(ls':List LkI)(d:Ending)(w':World):Prop :=
 d=.returned (iv k)/\(k≠0->qG8 w' b B cv sa sc said la lc ls)/\(k=0->∃sa' sc' la' lc',qG8 w' b B cv sa' sc' (said++[x]) la' lc' ls')/\Below B w w'
theorem qG8.stIn{w:World}{b B:Nat}{cv:Value}{sa:Option Addr}{sc:Nat}{said:List StI}{la:Option Addr}{lc:Nat}{ls:List LkI}(h:qG8 w b B cv sa sc said la lc ls):qL2 w sa said.length said:=StV.isIn rfl h.ow.view
theorem EW.stIn{w:World}{n bb b B:Nat}{x:StI}{c:Int}{cv:Value}{sa:Option Addr}{sc:Nat}{said:List StI}{lv:Value}{la:Option Addr}{lc:Nat}{ls:List LkI}{W:World}(h:EW w n bb b B x c cv sa sc said lv la lc ls W):qL2 W sa said.length said:=StV.isIn rfl h.ow.view
theorem qG8.other{w:World}{b B:Nat}{cv:Value}{sa:Option Addr}{sc:Nat}{said:List StI}{la:Option Addr}{lc:Nat}{ls:List LkI}(h:qG8 w b B cv sa sc said la lc ls){p:Addr}(hp:∀g,(Value.slice sa said.length sc).ownBlock=some g\/(Value.slice la ls.length lc).ownBlock=some g\/g=b->g≠p.block)(v:Value):qG8 (w.setCell p v) b B cv sa sc said la lc ls :=
 ⟨(zS (hp b (.inr (.inr rfl)))).trans h.bk,qA4 h.ow (fun g e=>zS (hp g (.inl e))),qA4 h.lk (fun g e=>zS (hp g (.inr (.inl e)))),h.hb⟩
theorem qG8.rows{w:World}{b B:Nat}{cv:Value}{sa:Option Addr}{sc:Nat}{said:List StI}{la:Option Addr}{lc:Nat}{ls:List LkI}(h:qG8 w b B cv sa sc said la lc ls):(∀g,(Value.slice sa said.length sc).ownBlock=some g->g<w.heap.size)/\(∀g,(Value.slice la ls.length lc).ownBlock=some g->g<w.heap.size) :=
 ⟨fun g e=>by obtain⟨cur,hc,_⟩:=qE0 h.ow e;exact (gN.1 hc).1,fun g e=>by obtain⟨cur,hc,_⟩:=qD8 h.lk e;exact (gN.1 hc).1⟩
theorem qBx(E:qH3)(b B:Nat)(a:Option Addr)(m cap:Nat)(cs:List qA5)(sa:Option Addr)(sc:Nat)(said:List StI)(la:Option Addr)(lc:Nat)(ls:List LkI)(x:StI)(w:World)(hS:qG8 w b B (.slice a m cap) sa sc said la lc ls)(hEC:qN0 E cs)(hSt:qT7 w B a m cs)(hm:0<m)(hm8:m<=8)(hRp:RpS E said ls)(hst:qB5 x=0)(hsx:qC4 said x=false)(hneg:qB7 E said x.e<0)(lx:List LkI):
  CP 244 #[.pointer (some ⟨b,0,none⟩),.agg #[iv x.k,iv x.e,iv x.f,iv x.s,iv x.n]] w fun d w'=>qLE w b B (.slice a m cap) sa sc said la lc ls x 4 lx d w':=by
 obtain⟨⟨hk1,hk2⟩,⟨he1,he2⟩,⟨hn1,hn2⟩,_⟩:=qH1 hst;have hlen:=hRp.len;have hrows:=hS.rows;have hbl:=hS.lt;have HST:=hJJ hSt;have HEC:=hJJ hEC;have HRP:=hJJ hRp;have hml:cs.length=m:=(hSt w (gC _ _)).1.1
 have HNX:Hid (∀x∈said,x.k=4->0<=x.n/\x.n<(m:Int)):=fun y hy hk=>by
  have:=hRp.nx y hy hk;rw[hEC.es,kD,hml]at this;exact this
 obtain⟨V,hV⟩:∃V,V=qE1 w b x:=⟨_,rfl⟩;have HV:=hJJ hV;have E0:qN1 w.heap.size b x 0 V:=by rw[hV];exact qN1.new w b x
 have B0:Below w.heap.size w V:=by rw[hV];exact qE1.below w b x
 have HS0:Hid (qG8 V b B (.slice a m cap) sa sc said la lc ls):=hS.below B0;have HB0:=hJJ B0;have HE0:=hJJ E0;have hBb:=hS.hb;have HF:Hid (∀W:World,CP 65 #[.agg #[iv x.k,iv x.e,iv x.f,iv x.s,iv x.n]] W fun e w'=>e=.returned (iv 0)/\Below W.heap.size W w'):=fun W=>by rw[<- hst];exact qB8 x W
 have HCN:Hid (∀W:World,qG8 W b B (.slice a m cap) sa sc said la lc ls->CP 115 #[.slice sa said.length sc,.agg #[iv x.k,iv x.e,iv x.f,iv x.s,iv x.n]] W fun e w'=>e=.returned (.bool false)/\Below W.heap.size W w'):=fun W q=>by rw[<- hsx];exact qE8 sa said.length sc said x W (by omega) q.stIn
 have HSE:=hJJ hS;have HKN:Hid (∀(bb:Nat) (W:World),EW w w.heap.size bb b B x 0 (.slice a m cap) sa sc said (.slice la ls.length lc) la lc ls W->CP 260 #[.pointer (some ⟨b,0,none⟩),iv x.e] W fun d w'=>QI0 cs (qB7 E said x.e) d/\Below W.heap.size W w'):=fun bb W q=>qM7 E b _ sa said.length sc said a m cap cs x.e W HEC.out.es q.spk q.stIn (by omega) (HST.out _ q.bl).1 hm hm8 ⟨he1,he2⟩ HNX.out
 have hmf:∀(fn:Fn) (first cap:Array Value) (w:World),(Instr.makeFunc fn first cap).run prog w=.ok (.func fn first cap) w:=fun _ _ _ _=>rfl
 have HRW:=hJJ hrows;clear hS hEC hSt hRp B0 hV E0 hst hsx hrows hml;go_enter_defers func244,ntmps244
 go_wp2_with fail
 rw[show ((w.alloc (.cells #[.pointer (some ⟨b,0,none⟩)] 299)).alloc (.cells #[iv x.k,iv x.e,iv x.f,iv x.s,iv x.n] 50)).alloc (.cells #[iv 0] 2)=V from HV.out.symm];refine (HF.out _).mono ?_;rintro d w1 ⟨rfl,hb1⟩;have E1:=HE0.out.below hb1;have e1:=E1.c;have f1:=E1.f;have l1:=E1.lt;have E2:=E1.put 0
 have S2:qG8 (w1.setCell ⟨w.heap.size+1+1,0,none⟩ (iv 0)) b B (.slice a m cap) sa sc said la lc ls:=(HS0.out.below hb1).other (fun g hg=>by
  show g≠w.heap.size+1+1
  rcases hg with q | q | q
  .have:=HRW.out.1 g q;omega
  .have:=HRW.out.2 g q;omega
  .omega) _
 have B2:Hid (Below B w (w1.setCell ⟨w.heap.size+1+1,0,none⟩ (iv 0))):=((HB0.out.trans (hb1.mono HB0.out.size)).mono (by omega)).setCell (by show B<=w.heap.size+1+1;omega) _;go_upto_region 2 with fail
 generalize w1.setCell ⟨w.heap.size+1+1,0,none⟩ (iv 0)=w2 at *
 clear e1 f1 l1 E1 hb1;refine QA1 ?_;refine gL (S:=fun w'=>qN1 w.heap.size b x 0 w'/\qG8 w' b B (.slice a m cap) sa sc said la lc ls) (by kernel_rfl) (⟨E2.below (gC _ _).drew,S2.below (gC _ _).drew⟩) (fun hHeld=>?_);refine Zk.go [0,1,2,3,4,5,6,7] ?_
 iterate 8
  refine Zk.stc (v:=?_) rfl ?_ ?_;rotate_left 1
  .intro w hSw;have p0:=hSw.1.s;have p1:=hSw.1.x0;have p2:=hSw.1.x1;have p3:=hSw.1.x2;have p4:=hSw.1.x3;have p5:=hSw.1.x4;have p6:=hSw.1.c;have p7:=hSw.2.spk.c1;clear hSw;go_simp;try (with_reducible rfl)
  try simp only[Act.put,zA,zB,zC,zD,zE,zF]
 refine Zk.fin ?_;refine Zk.rd (i:=8) rfl (fun K hK=>?_);go_simp;refine (HCN.out _ hHeld.2).mono ?_;rintro d w3 ⟨rfl,hb3⟩;have hS:qN1 w.heap.size b x 0 w3/\qG8 w3 b B (.slice a m cap) sa sc said la lc ls:=⟨hHeld.1.below hb3,hHeld.2.below hb3⟩;have hB3:Below B w w3:=B2.out.drew.trans (hb3.mono (by have:=B2.out.size;show B<=w2.heap.size;omega));refine hK.out _ _ hS (fun hHeld=>?_);clear hK K;try simp only[Act.put,zA,zB,zC,zD,zE,zF]
 refine Zk.go [9] ?_;refine Zk.stc (v:=?_) rfl ?_ ?_;rotate_left 1
 .intro w hSw;have p0:=hSw.1.s;have p1:=hSw.1.x0;have p2:=hSw.1.x1;have p3:=hSw.1.x2;have p4:=hSw.1.x3;have p5:=hSw.1.x4;have p6:=hSw.1.c;have p7:=hSw.2.spk.c1;clear hSw;go_simp;try (with_reducible rfl)
 try simp only[Act.put,zA,zB,zC,zD,zE,zF]
 refine Zk.fin ?_;refine gZ (by kernel_rfl) ?_ _;refine⟨rfl,?_⟩;have hE3:=hS.1;have hS3:=hS.2;have l3:=hE3.lt;obtain⟨W,hW⟩:∃W,W=w3.alloc (.cells #[.slice la ls.length lc] 113):=⟨_,rfl⟩;have A3:Below w3.heap.size w3 W:=by rw[hW];exact zN
 have X0:Hid (EW w w.heap.size w3.heap.size b B x 0 (.slice a m cap) sa sc said (.slice la ls.length lc) la lc ls W):=by
  refine⟨hE3.below A3,by rw[hW];simp[go_sem],(A3.block b hS3.lt).trans hS3.bk,hS3.ow.below A3,hS3.lk.below A3,hBb,hbl,l3,hB3.trans (A3.mono (by have:=hB3.size;omega)),HRW.out.1,HRW.out.2⟩
 have p0:=hE3.s;have p1:=hE3.x0;have p2:=hE3.x1;have p3:=hE3.x2;have p4:=hE3.x3;have p5:=hE3.x4;have p6:=hE3.c;have p7:=hS3.spk.c2;have p8:=hS3.lt;clear hHeld hS hE3 hS3 hB3 A3 hb3 E2 S2 B2;go_upto_region 6 with fail
 rw[<- hW];clear hW p0 p1 p2 p3 p4 p5 p6 p7 p8;have p0:=X0.out.e.s;have p2:=X0.out.e.x1;go_wp2_with fail
 refine (HKN.out _ _ X0.out).mono ?_;rintro d w4 ⟨hkn,hb4⟩;have X1:=qB4 (X0.out.below hb4);clear hb4 X0 p0 p2 l3;obtain rfl:=hkn.1 hneg;have X2:=qB4 (X1.out.below ((gC _ _).alloc (gB _) (.cells #[iv 0,iv 0,.slice none 0 0,.slice none 0 0,.slice none 0 0] 92)));clear hkn X1;have p0:=X2.out.e.s;have p1:=X2.out.e.x0;have p2:=X2.out.e.x1;have p3:=X2.out.e.x2;have p4:=X2.out.e.x3;have p5:=X2.out.e.x4;have p6:=X2.out.e.c;have p6f:=X2.out.e.f;have p6l:=X2.out.e.lt;have p7:=X2.out.spk.c1;have p8:=X2.out.lt;have pcl:=X2.out.bn;have X3:=qB4 (X2.out.code 4);go_wp2_with fail
 refine leaves_cons (f:=259) (args:=#[.pointer (some ⟨w.heap.size+1+1,0,none⟩),.pointer (some ⟨w3.heap.size,0,none⟩),.pointer (some ⟨w.heap.size,0,none⟩),.pointer (some ⟨w.heap.size+1,0,none⟩)]) (by simp) (by simp[go_sem]) ?_;refine (X3.out.off_bad (by first | assumption | decide) _).mono ?_;rintro d u' w'' ⟨rfl,rfl,hcc,hS9,hB9⟩;exact⟨_,by simp[results,results244,go_sem,hcc],rfl,fun _=>hS9,fun h=>absurd h (by first | assumption | decide),hB9⟩
theorem qBz(E:qH3)(b B:Nat)(a:Option Addr)(m cap:Nat)(cs:List qA5)(sa:Option Addr)(sc:Nat)(said:List StI)(la:Option Addr)(lc:Nat)(ls:List LkI)(x:StI)(w:World)(hS:qG8 w b B (.slice a m cap) sa sc said la lc ls)(hEC:qN0 E cs)(hSt:qT7 w B a m cs)(hm:0<m)(hm8:m<=8)(hRp:RpS E said ls)(hst:qB5 x=0)(hsx:qC4 said x=false)(c:qA5)(hp0:0<=qB7 E said x.e)(hpc:cs[(qB7 E said x.e).toNat]?=some c)(h40:40<=said.length)(lx:List LkI):
  CP 244 #[.pointer (some ⟨b,0,none⟩),.agg #[iv x.k,iv x.e,iv x.f,iv x.s,iv x.n]] w fun d w'=>qLE w b B (.slice a m cap) sa sc said la lc ls x 2 lx d w':=by
 obtain⟨⟨hk1,hk2⟩,⟨he1,he2⟩,⟨hn1,hn2⟩,_⟩:=qH1 hst;have hlen:=hRp.len;have hrows:=hS.rows;have hbl:=hS.lt;have HST:=hJJ hSt;have HEC:=hJJ hEC;have HRP:=hJJ hRp;have hml:cs.length=m:=(hSt w (gC _ _)).1.1
 have HNX:Hid (∀x∈said,x.k=4->0<=x.n/\x.n<(m:Int)):=fun y hy hk=>by
  have:=hRp.nx y hy hk;rw[hEC.es,kD,hml]at this;exact this
 obtain⟨V,hV⟩:∃V,V=qE1 w b x:=⟨_,rfl⟩;have HV:=hJJ hV;have E0:qN1 w.heap.size b x 0 V:=by rw[hV];exact qN1.new w b x
 have B0:Below w.heap.size w V:=by rw[hV];exact qE1.below w b x
 have HS0:Hid (qG8 V b B (.slice a m cap) sa sc said la lc ls):=hS.below B0;have HB0:=hJJ B0;have HE0:=hJJ E0;have hBb:=hS.hb;have HF:Hid (∀W:World,CP 65 #[.agg #[iv x.k,iv x.e,iv x.f,iv x.s,iv x.n]] W fun e w'=>e=.returned (iv 0)/\Below W.heap.size W w'):=fun W=>by rw[<- hst];exact qB8 x W
 have HCN:Hid (∀W:World,qG8 W b B (.slice a m cap) sa sc said la lc ls->CP 115 #[.slice sa said.length sc,.agg #[iv x.k,iv x.e,iv x.f,iv x.s,iv x.n]] W fun e w'=>e=.returned (.bool false)/\Below W.heap.size W w'):=fun W q=>by rw[<- hsx];exact qE8 sa said.length sc said x W (by omega) q.stIn
 have HSE:=hJJ hS;have HKN:Hid (∀(bb:Nat) (W:World),EW w w.heap.size bb b B x 0 (.slice a m cap) sa sc said (.slice la ls.length lc) la lc ls W->CP 260 #[.pointer (some ⟨b,0,none⟩),iv x.e] W fun d w'=>QI0 cs (qB7 E said x.e) d/\Below W.heap.size W w'):=fun bb W q=>qM7 E b _ sa said.length sc said a m cap cs x.e W HEC.out.es q.spk q.stIn (by omega) (HST.out _ q.bl).1 hm hm8 ⟨he1,he2⟩ HNX.out
 have h40':(40:Int)<=(said.length:Int):=by omega
 have hmf:∀(fn:Fn) (first cap:Array Value) (w:World),(Instr.makeFunc fn first cap).run prog w=.ok (.func fn first cap) w:=fun _ _ _ _=>rfl
 have HRW:=hJJ hrows;clear hS hEC hSt hRp B0 hV E0 hst hsx hrows hml;go_enter_defers func244,ntmps244
 go_wp2_with fail
 rw[show ((w.alloc (.cells #[.pointer (some ⟨b,0,none⟩)] 299)).alloc (.cells #[iv x.k,iv x.e,iv x.f,iv x.s,iv x.n] 50)).alloc (.cells #[iv 0] 2)=V from HV.out.symm];refine (HF.out _).mono ?_;rintro d w1 ⟨rfl,hb1⟩;have E1:=HE0.out.below hb1;have e1:=E1.c;have f1:=E1.f;have l1:=E1.lt;have E2:=E1.put 0
 have S2:qG8 (w1.setCell ⟨w.heap.size+1+1,0,none⟩ (iv 0)) b B (.slice a m cap) sa sc said la lc ls:=(HS0.out.below hb1).other (fun g hg=>by
  show g≠w.heap.size+1+1
  rcases hg with q | q | q
  .have:=HRW.out.1 g q;omega
  .have:=HRW.out.2 g q;omega
  .omega) _
 have B2:Hid (Below B w (w1.setCell ⟨w.heap.size+1+1,0,none⟩ (iv 0))):=((HB0.out.trans (hb1.mono HB0.out.size)).mono (by omega)).setCell (by show B<=w.heap.size+1+1;omega) _;go_upto_region 2 with fail
 generalize w1.setCell ⟨w.heap.size+1+1,0,none⟩ (iv 0)=w2 at *
 clear e1 f1 l1 E1 hb1;refine QA1 ?_;refine gL (S:=fun w'=>qN1 w.heap.size b x 0 w'/\qG8 w' b B (.slice a m cap) sa sc said la lc ls) (by kernel_rfl) (⟨E2.below (gC _ _).drew,S2.below (gC _ _).drew⟩) (fun hHeld=>?_);refine Zk.go [0,1,2,3,4,5,6,7] ?_
 iterate 8
  refine Zk.stc (v:=?_) rfl ?_ ?_;rotate_left 1
  .intro w hSw;have p0:=hSw.1.s;have p1:=hSw.1.x0;have p2:=hSw.1.x1;have p3:=hSw.1.x2;have p4:=hSw.1.x3;have p5:=hSw.1.x4;have p6:=hSw.1.c;have p7:=hSw.2.spk.c1;clear hSw;go_simp;try (with_reducible rfl)
  try simp only[Act.put,zA,zB,zC,zD,zE,zF]
 refine Zk.fin ?_;refine Zk.rd (i:=8) rfl (fun K hK=>?_);go_simp;refine (HCN.out _ hHeld.2).mono ?_;rintro d w3 ⟨rfl,hb3⟩;have hS:qN1 w.heap.size b x 0 w3/\qG8 w3 b B (.slice a m cap) sa sc said la lc ls:=⟨hHeld.1.below hb3,hHeld.2.below hb3⟩;have hB3:Below B w w3:=B2.out.drew.trans (hb3.mono (by have:=B2.out.size;show B<=w2.heap.size;omega));refine hK.out _ _ hS (fun hHeld=>?_);clear hK K;try simp only[Act.put,zA,zB,zC,zD,zE,zF]
 refine Zk.go [9] ?_;refine Zk.stc (v:=?_) rfl ?_ ?_;rotate_left 1
 .intro w hSw;have p0:=hSw.1.s;have p1:=hSw.1.x0;have p2:=hSw.1.x1;have p3:=hSw.1.x2;have p4:=hSw.1.x3;have p5:=hSw.1.x4;have p6:=hSw.1.c;have p7:=hSw.2.spk.c1;clear hSw;go_simp;try (with_reducible rfl)
 try simp only[Act.put,zA,zB,zC,zD,zE,zF]
 refine Zk.fin ?_;refine gZ (by kernel_rfl) ?_ _;refine⟨rfl,?_⟩;have hE3:=hS.1;have hS3:=hS.2;have l3:=hE3.lt;obtain⟨W,hW⟩:∃W,W=w3.alloc (.cells #[.slice la ls.length lc] 113):=⟨_,rfl⟩;have A3:Below w3.heap.size w3 W:=by rw[hW];exact zN
 have X0:Hid (EW w w.heap.size w3.heap.size b B x 0 (.slice a m cap) sa sc said (.slice la ls.length lc) la lc ls W):=by
  refine⟨hE3.below A3,by rw[hW];simp[go_sem],(A3.block b hS3.lt).trans hS3.bk,hS3.ow.below A3,hS3.lk.below A3,hBb,hbl,l3,hB3.trans (A3.mono (by have:=hB3.size;omega)),HRW.out.1,HRW.out.2⟩
 have p0:=hE3.s;have p1:=hE3.x0;have p2:=hE3.x1;have p3:=hE3.x2;have p4:=hE3.x3;have p5:=hE3.x4;have p6:=hE3.c;have p7:=hS3.spk.c2;have p8:=hS3.lt;clear hHeld hS hE3 hS3 hB3 A3 hb3 E2 S2 B2;go_upto_region 6 with fail
 rw[<- hW];clear hW p0 p1 p2 p3 p4 p5 p6 p7 p8;have p0:=X0.out.e.s;have p2:=X0.out.e.x1;go_wp2_with fail
 refine (HKN.out _ _ X0.out).mono ?_;rintro d w4 ⟨hkn,hb4⟩;have X1:=qB4 (X0.out.below hb4);clear hb4 X0 p0 p2 l3;obtain rfl:=hkn.2 c hp0 hpc;have X2:=qB4 (X1.out.below ((gC _ _).alloc (gB _) (.cells #[iv c.e,iv c.f,.slice c.ra c.rn c.rc,.slice c.fa c.fn c.fc,.slice c.ca c.cn c.cc] 92)));clear hkn X1;have p0:=X2.out.e.s;have p1:=X2.out.e.x0;have p2:=X2.out.e.x1;have p3:=X2.out.e.x2;have p4:=X2.out.e.x3;have p5:=X2.out.e.x4;have p6:=X2.out.e.c;have p6f:=X2.out.e.f;have p6l:=X2.out.e.lt;have p7:=X2.out.spk.c1;have p8:=X2.out.lt;have pcl:=X2.out.bn;have X3:=qB4 (X2.out.code 2);go_wp2_with fail
 refine leaves_cons (f:=259) (args:=#[.pointer (some ⟨w.heap.size+1+1,0,none⟩),.pointer (some ⟨w3.heap.size,0,none⟩),.pointer (some ⟨w.heap.size,0,none⟩),.pointer (some ⟨w.heap.size+1,0,none⟩)]) (by simp) (by simp[go_sem]) ?_;refine (X3.out.off_bad (by first | assumption | decide) _).mono ?_;rintro d u' w'' ⟨rfl,rfl,hcc,hS9,hB9⟩;exact⟨_,by simp[results,results244,go_sem,hcc],rfl,fun _=>hS9,fun h=>absurd h (by first | assumption | decide),hB9⟩
theorem QU0(E:qH3)(b B:Nat)(a:Option Addr)(m cap:Nat)(cs:List qA5)(sa:Option Addr)(sc:Nat)(said:List StI)(la:Option Addr)(lc:Nat)(ls:List LkI)(x:StI)(w:World)(hS:qG8 w b B (.slice a m cap) sa sc said la lc ls)(hEC:qN0 E cs)(hSt:qT7 w B a m cs)(hm:0<m)(hm8:m<=8)(hRp:RpS E said ls)(hst:qB5 x=0)(hsx:qC4 said x=false)(c:qA5)(hp0:0<=qB7 E said x.e)(hpc:cs[(qB7 E said x.e).toNat]?=some c)(h40:said.length<40)(hk2':x.k=2):
  CP 244 #[.pointer (some ⟨b,0,none⟩),.agg #[iv x.k,iv x.e,iv x.f,iv x.s,iv x.n]] w fun d w'=>qLE w b B (.slice a m cap) sa sc said la lc ls x 0 ls d w':=by
 obtain⟨⟨hk1,hk2⟩,⟨he1,he2⟩,⟨hn1,hn2⟩,_⟩:=qH1 hst;have hlen:=hRp.len;have hrows:=hS.rows;have hbl:=hS.lt;have HST:=hJJ hSt;have HEC:=hJJ hEC;have HRP:=hJJ hRp;have hml:cs.length=m:=(hSt w (gC _ _)).1.1
 have HNX:Hid (∀x∈said,x.k=4->0<=x.n/\x.n<(m:Int)):=fun y hy hk=>by
  have:=hRp.nx y hy hk;rw[hEC.es,kD,hml]at this;exact this
 obtain⟨V,hV⟩:∃V,V=qE1 w b x:=⟨_,rfl⟩;have HV:=hJJ hV;have E0:qN1 w.heap.size b x 0 V:=by rw[hV];exact qN1.new w b x
 have B0:Below w.heap.size w V:=by rw[hV];exact qE1.below w b x
 have HS0:Hid (qG8 V b B (.slice a m cap) sa sc said la lc ls):=hS.below B0;have HB0:=hJJ B0;have HE0:=hJJ E0;have hBb:=hS.hb;have HF:Hid (∀W:World,CP 65 #[.agg #[iv x.k,iv x.e,iv x.f,iv x.s,iv x.n]] W fun e w'=>e=.returned (iv 0)/\Below W.heap.size W w'):=fun W=>by rw[<- hst];exact qB8 x W
 have HCN:Hid (∀W:World,qG8 W b B (.slice a m cap) sa sc said la lc ls->CP 115 #[.slice sa said.length sc,.agg #[iv x.k,iv x.e,iv x.f,iv x.s,iv x.n]] W fun e w'=>e=.returned (.bool false)/\Below W.heap.size W w'):=fun W q=>by rw[<- hsx];exact qE8 sa said.length sc said x W (by omega) q.stIn
 have HSE:=hJJ hS;have HKN:Hid (∀(bb:Nat) (W:World),EW w w.heap.size bb b B x 0 (.slice a m cap) sa sc said (.slice la ls.length lc) la lc ls W->CP 260 #[.pointer (some ⟨b,0,none⟩),iv x.e] W fun d w'=>QI0 cs (qB7 E said x.e) d/\Below W.heap.size W w'):=fun bb W q=>qM7 E b _ sa said.length sc said a m cap cs x.e W HEC.out.es q.spk q.stIn (by omega) (HST.out _ q.bl).1 hm hm8 ⟨he1,he2⟩ HNX.out
 have h40':(said.length:Int)<40:=by omega
 have k1:(x.k==1)=false:=by simp[hk2']
 have k3:(x.k==3)=false:=by simp[hk2']
 have k4:(x.k==4)=false:=by simp[hk2']
 clear hk2';have hmf:∀(fn:Fn) (first cap:Array Value) (w:World),(Instr.makeFunc fn first cap).run prog w=.ok (.func fn first cap) w:=fun _ _ _ _=>rfl
 have HRW:=hJJ hrows;clear hS hEC hSt hRp B0 hV E0 hst hsx hrows hml;go_enter_defers func244,ntmps244
 go_wp2_with fail
 rw[show ((w.alloc (.cells #[.pointer (some ⟨b,0,none⟩)] 299)).alloc (.cells #[iv x.k,iv x.e,iv x.f,iv x.s,iv x.n] 50)).alloc (.cells #[iv 0] 2)=V from HV.out.symm];refine (HF.out _).mono ?_;rintro d w1 ⟨rfl,hb1⟩;have E1:=HE0.out.below hb1;have e1:=E1.c;have f1:=E1.f;have l1:=E1.lt;have E2:=E1.put 0
 have S2:qG8 (w1.setCell ⟨w.heap.size+1+1,0,none⟩ (iv 0)) b B (.slice a m cap) sa sc said la lc ls:=(HS0.out.below hb1).other (fun g hg=>by
  show g≠w.heap.size+1+1
  rcases hg with q | q | q
  .have:=HRW.out.1 g q;omega
  .have:=HRW.out.2 g q;omega
  .omega) _
 have B2:Hid (Below B w (w1.setCell ⟨w.heap.size+1+1,0,none⟩ (iv 0))):=((HB0.out.trans (hb1.mono HB0.out.size)).mono (by omega)).setCell (by show B<=w.heap.size+1+1;omega) _;go_upto_region 2 with fail
 generalize w1.setCell ⟨w.heap.size+1+1,0,none⟩ (iv 0)=w2 at *
 clear e1 f1 l1 E1 hb1;refine QA1 ?_;refine gL (S:=fun w'=>qN1 w.heap.size b x 0 w'/\qG8 w' b B (.slice a m cap) sa sc said la lc ls) (by kernel_rfl) (⟨E2.below (gC _ _).drew,S2.below (gC _ _).drew⟩) (fun hHeld=>?_);refine Zk.go [0,1,2,3,4,5,6,7] ?_
 iterate 8
  refine Zk.stc (v:=?_) rfl ?_ ?_;rotate_left 1
  .intro w hSw;have p0:=hSw.1.s;have p1:=hSw.1.x0;have p2:=hSw.1.x1;have p3:=hSw.1.x2;have p4:=hSw.1.x3;have p5:=hSw.1.x4;have p6:=hSw.1.c;have p7:=hSw.2.spk.c1;clear hSw;go_simp;try (with_reducible rfl)
  try simp only[Act.put,zA,zB,zC,zD,zE,zF]
 refine Zk.fin ?_;refine Zk.rd (i:=8) rfl (fun K hK=>?_);go_simp;refine (HCN.out _ hHeld.2).mono ?_;rintro d w3 ⟨rfl,hb3⟩;have hS:qN1 w.heap.size b x 0 w3/\qG8 w3 b B (.slice a m cap) sa sc said la lc ls:=⟨hHeld.1.below hb3,hHeld.2.below hb3⟩;have hB3:Below B w w3:=B2.out.drew.trans (hb3.mono (by have:=B2.out.size;show B<=w2.heap.size;omega));refine hK.out _ _ hS (fun hHeld=>?_);clear hK K;try simp only[Act.put,zA,zB,zC,zD,zE,zF]
 refine Zk.go [9] ?_;refine Zk.stc (v:=?_) rfl ?_ ?_;rotate_left 1
 .intro w hSw;have p0:=hSw.1.s;have p1:=hSw.1.x0;have p2:=hSw.1.x1;have p3:=hSw.1.x2;have p4:=hSw.1.x3;have p5:=hSw.1.x4;have p6:=hSw.1.c;have p7:=hSw.2.spk.c1;clear hSw;go_simp;try (with_reducible rfl)
 try simp only[Act.put,zA,zB,zC,zD,zE,zF]
 refine Zk.fin ?_;refine gZ (by kernel_rfl) ?_ _;refine⟨rfl,?_⟩;have hE3:=hS.1;have hS3:=hS.2;have l3:=hE3.lt;obtain⟨W,hW⟩:∃W,W=w3.alloc (.cells #[.slice la ls.length lc] 113):=⟨_,rfl⟩;have A3:Below w3.heap.size w3 W:=by rw[hW];exact zN
 have X0:Hid (EW w w.heap.size w3.heap.size b B x 0 (.slice a m cap) sa sc said (.slice la ls.length lc) la lc ls W):=by
  refine⟨hE3.below A3,by rw[hW];simp[go_sem],(A3.block b hS3.lt).trans hS3.bk,hS3.ow.below A3,hS3.lk.below A3,hBb,hbl,l3,hB3.trans (A3.mono (by have:=hB3.size;omega)),HRW.out.1,HRW.out.2⟩
 have p0:=hE3.s;have p1:=hE3.x0;have p2:=hE3.x1;have p3:=hE3.x2;have p4:=hE3.x3;have p5:=hE3.x4;have p6:=hE3.c;have p7:=hS3.spk.c2;have p8:=hS3.lt;clear hHeld hS hE3 hS3 hB3 A3 hb3 E2 S2 B2;go_upto_region 6 with fail
 rw[<- hW];clear hW p0 p1 p2 p3 p4 p5 p6 p7 p8;have p0:=X0.out.e.s;have p2:=X0.out.e.x1;go_wp2_with fail
 refine (HKN.out _ _ X0.out).mono ?_;rintro d w4 ⟨hkn,hb4⟩;have X1:=qB4 (X0.out.below hb4);clear hb4 X0 p0 p2 l3;obtain rfl:=hkn.2 c hp0 hpc;have X2:=qB4 (X1.out.below ((gC _ _).alloc (gB _) (.cells #[iv c.e,iv c.f,.slice c.ra c.rn c.rc,.slice c.fa c.fn c.fc,.slice c.ca c.cn c.cc] 92)));clear hkn X1;have p0:=X2.out.e.s;have p1:=X2.out.e.x0;have p2:=X2.out.e.x1;have p3:=X2.out.e.x2;have p4:=X2.out.e.x3;have p5:=X2.out.e.x4;have p6:=X2.out.e.c;have p6f:=X2.out.e.f;have p6l:=X2.out.e.lt;have p7:=X2.out.spk.c1;have p8:=X2.out.lt;have pcl:=X2.out.bn;have X3:=qB4 (X2.out.code 0);go_wp2_with fail
 refine leaves_cons (f:=259) (args:=#[.pointer (some ⟨w.heap.size+1+1,0,none⟩),.pointer (some ⟨w3.heap.size,0,none⟩),.pointer (some ⟨w.heap.size,0,none⟩),.pointer (some ⟨w.heap.size+1,0,none⟩)]) (by simp) (by simp[go_sem]) ?_;refine (X3.out.off_ok X3.out.lk (by omega) _).mono ?_;rintro d u' w'' ⟨rfl,rfl,hcc,hS9,hB9⟩;exact⟨_,by simp[results,results244,go_sem,hcc],rfl,fun h=>absurd rfl h,fun _=>by obtain⟨q1,q2,q⟩:=hS9;exact⟨q1,q2,_,_,q⟩,hB9⟩
theorem qBy(E:qH3)(b B:Nat)(a:Option Addr)(m cap:Nat)(cs:List qA5)(sa:Option Addr)(sc:Nat)(said:List StI)(la:Option Addr)(lc:Nat)(ls:List LkI)(x:StI)(w:World)(hS:qG8 w b B (.slice a m cap) sa sc said la lc ls)(hEC:qN0 E cs)(hSt:qT7 w B a m cs)(hm:0<m)(hm8:m<=8)(hRp:RpS E said ls)(hst:qB5 x=0)(hsx:qC4 said x=false)(c:qA5)(hp0:0<=qB7 E said x.e)(hpc:cs[(qB7 E said x.e).toNat]?=some c)(h40:said.length<40)(hk3:x.k=3)(k:Int)(hk:qC7 E said x=k):
  CP 244 #[.pointer (some ⟨b,0,none⟩),.agg #[iv x.k,iv x.e,iv x.f,iv x.s,iv x.n]] w fun d w'=>qLE w b B (.slice a m cap) sa sc said la lc ls x k ls d w':=by
 obtain⟨⟨hk1,hk2⟩,⟨he1,he2⟩,⟨hn1,hn2⟩,_⟩:=qH1 hst;have hlen:=hRp.len;have hrows:=hS.rows;have hbl:=hS.lt;have HST:=hJJ hSt;have HEC:=hJJ hEC;have HRP:=hJJ hRp;have hml:cs.length=m:=(hSt w (gC _ _)).1.1
 have HNX:Hid (∀x∈said,x.k=4->0<=x.n/\x.n<(m:Int)):=fun y hy hk=>by
  have:=hRp.nx y hy hk;rw[hEC.es,kD,hml]at this;exact this
 obtain⟨V,hV⟩:∃V,V=qE1 w b x:=⟨_,rfl⟩;have HV:=hJJ hV;have E0:qN1 w.heap.size b x 0 V:=by rw[hV];exact qN1.new w b x
 have B0:Below w.heap.size w V:=by rw[hV];exact qE1.below w b x
 have HS0:Hid (qG8 V b B (.slice a m cap) sa sc said la lc ls):=hS.below B0;have HB0:=hJJ B0;have HE0:=hJJ E0;have hBb:=hS.hb;have HF:Hid (∀W:World,CP 65 #[.agg #[iv x.k,iv x.e,iv x.f,iv x.s,iv x.n]] W fun e w'=>e=.returned (iv 0)/\Below W.heap.size W w'):=fun W=>by rw[<- hst];exact qB8 x W
 have HCN:Hid (∀W:World,qG8 W b B (.slice a m cap) sa sc said la lc ls->CP 115 #[.slice sa said.length sc,.agg #[iv x.k,iv x.e,iv x.f,iv x.s,iv x.n]] W fun e w'=>e=.returned (.bool false)/\Below W.heap.size W w'):=fun W q=>by rw[<- hsx];exact qE8 sa said.length sc said x W (by omega) q.stIn
 have HSE:=hJJ hS;have HKN:Hid (∀(bb:Nat) (W:World),EW w w.heap.size bb b B x 0 (.slice a m cap) sa sc said (.slice la ls.length lc) la lc ls W->CP 260 #[.pointer (some ⟨b,0,none⟩),iv x.e] W fun d w'=>QI0 cs (qB7 E said x.e) d/\Below W.heap.size W w'):=fun bb W q=>qM7 E b _ sa said.length sc said a m cap cs x.e W HEC.out.es q.spk q.stIn (by omega) (HST.out _ q.bl).1 hm hm8 ⟨he1,he2⟩ HNX.out
 have h40':(said.length:Int)<40:=by omega
 have k1:(x.k==1)=false:=by simp[hk3]
 have k3:(x.k==3)=true:=by simp[hk3]
 clear hk3;have HSP:Hid (∀(bb:Nat) (W:World),EW w w.heap.size bb b B x 0 (.slice a m cap) sa sc said (.slice la ls.length lc) la lc ls W->CP 262 #[.pointer (some ⟨b,0,none⟩),.agg #[iv x.k,iv x.e,iv x.f,iv x.s,iv x.n]] W fun d w'=>d=.returned (iv k)/\Below W.heap.size W w'):=fun bb W q=>by rw[<- hk];exact qLJ E b _ sa said.length sc said a m cap cs x W HEC.out.es q.spk q.stIn (by omega) (HST.out _ q.bl).1 hm8 ⟨he1,he2⟩ ⟨hn1,hn2⟩
 clear hk;have hmf:∀(fn:Fn) (first cap:Array Value) (w:World),(Instr.makeFunc fn first cap).run prog w=.ok (.func fn first cap) w:=fun _ _ _ _=>rfl
 have HRW:=hJJ hrows;clear hS hEC hSt hRp B0 hV E0 hst hsx hrows hml;go_enter_defers func244,ntmps244
 go_wp2_with fail
 rw[show ((w.alloc (.cells #[.pointer (some ⟨b,0,none⟩)] 299)).alloc (.cells #[iv x.k,iv x.e,iv x.f,iv x.s,iv x.n] 50)).alloc (.cells #[iv 0] 2)=V from HV.out.symm];refine (HF.out _).mono ?_;rintro d w1 ⟨rfl,hb1⟩;have E1:=HE0.out.below hb1;have e1:=E1.c;have f1:=E1.f;have l1:=E1.lt;have E2:=E1.put 0
 have S2:qG8 (w1.setCell ⟨w.heap.size+1+1,0,none⟩ (iv 0)) b B (.slice a m cap) sa sc said la lc ls:=(HS0.out.below hb1).other (fun g hg=>by
  show g≠w.heap.size+1+1
  rcases hg with q | q | q
  .have:=HRW.out.1 g q;omega
  .have:=HRW.out.2 g q;omega
  .omega) _
 have B2:Hid (Below B w (w1.setCell ⟨w.heap.size+1+1,0,none⟩ (iv 0))):=((HB0.out.trans (hb1.mono HB0.out.size)).mono (by omega)).setCell (by show B<=w.heap.size+1+1;omega) _;go_upto_region 2 with fail
 generalize w1.setCell ⟨w.heap.size+1+1,0,none⟩ (iv 0)=w2 at *
 clear e1 f1 l1 E1 hb1;refine QA1 ?_;refine gL (S:=fun w'=>qN1 w.heap.size b x 0 w'/\qG8 w' b B (.slice a m cap) sa sc said la lc ls) (by kernel_rfl) (⟨E2.below (gC _ _).drew,S2.below (gC _ _).drew⟩) (fun hHeld=>?_);refine Zk.go [0,1,2,3,4,5,6,7] ?_
 iterate 8
  refine Zk.stc (v:=?_) rfl ?_ ?_;rotate_left 1
  .intro w hSw;have p0:=hSw.1.s;have p1:=hSw.1.x0;have p2:=hSw.1.x1;have p3:=hSw.1.x2;have p4:=hSw.1.x3;have p5:=hSw.1.x4;have p6:=hSw.1.c;have p7:=hSw.2.spk.c1;clear hSw;go_simp;try (with_reducible rfl)
  try simp only[Act.put,zA,zB,zC,zD,zE,zF]
 refine Zk.fin ?_;refine Zk.rd (i:=8) rfl (fun K hK=>?_);go_simp;refine (HCN.out _ hHeld.2).mono ?_;rintro d w3 ⟨rfl,hb3⟩;have hS:qN1 w.heap.size b x 0 w3/\qG8 w3 b B (.slice a m cap) sa sc said la lc ls:=⟨hHeld.1.below hb3,hHeld.2.below hb3⟩;have hB3:Below B w w3:=B2.out.drew.trans (hb3.mono (by have:=B2.out.size;show B<=w2.heap.size;omega));refine hK.out _ _ hS (fun hHeld=>?_);clear hK K;try simp only[Act.put,zA,zB,zC,zD,zE,zF]
 refine Zk.go [9] ?_;refine Zk.stc (v:=?_) rfl ?_ ?_;rotate_left 1
 .intro w hSw;have p0:=hSw.1.s;have p1:=hSw.1.x0;have p2:=hSw.1.x1;have p3:=hSw.1.x2;have p4:=hSw.1.x3;have p5:=hSw.1.x4;have p6:=hSw.1.c;have p7:=hSw.2.spk.c1;clear hSw;go_simp;try (with_reducible rfl)
 try simp only[Act.put,zA,zB,zC,zD,zE,zF]
 refine Zk.fin ?_;refine gZ (by kernel_rfl) ?_ _;refine⟨rfl,?_⟩;have hE3:=hS.1;have hS3:=hS.2;have l3:=hE3.lt;obtain⟨W,hW⟩:∃W,W=w3.alloc (.cells #[.slice la ls.length lc] 113):=⟨_,rfl⟩;have A3:Below w3.heap.size w3 W:=by rw[hW];exact zN
 have X0:Hid (EW w w.heap.size w3.heap.size b B x 0 (.slice a m cap) sa sc said (.slice la ls.length lc) la lc ls W):=by
  refine⟨hE3.below A3,by rw[hW];simp[go_sem],(A3.block b hS3.lt).trans hS3.bk,hS3.ow.below A3,hS3.lk.below A3,hBb,hbl,l3,hB3.trans (A3.mono (by have:=hB3.size;omega)),HRW.out.1,HRW.out.2⟩
 have p0:=hE3.s;have p1:=hE3.x0;have p2:=hE3.x1;have p3:=hE3.x2;have p4:=hE3.x3;have p5:=hE3.x4;have p6:=hE3.c;have p7:=hS3.spk.c2;have p8:=hS3.lt;clear hHeld hS hE3 hS3 hB3 A3 hb3 E2 S2 B2;go_upto_region 6 with fail
 rw[<- hW];clear hW p0 p1 p2 p3 p4 p5 p6 p7 p8;have p0:=X0.out.e.s;have p2:=X0.out.e.x1;go_wp2_with fail
 refine (HKN.out _ _ X0.out).mono ?_;rintro d w4 ⟨hkn,hb4⟩;have X1:=qB4 (X0.out.below hb4);clear hb4 X0 p0 p2 l3;obtain rfl:=hkn.2 c hp0 hpc;have X2:=qB4 (X1.out.below ((gC _ _).alloc (gB _) (.cells #[iv c.e,iv c.f,.slice c.ra c.rn c.rc,.slice c.fa c.fn c.fc,.slice c.ca c.cn c.cc] 92)));clear hkn X1;have p0:=X2.out.e.s;have p1:=X2.out.e.x0;have p2:=X2.out.e.x1;have p3:=X2.out.e.x2;have p4:=X2.out.e.x3;have p5:=X2.out.e.x4;have p6:=X2.out.e.c;have p6f:=X2.out.e.f;have p6l:=X2.out.e.lt;have p7:=X2.out.spk.c1;have p8:=X2.out.lt;have pcl:=X2.out.bn;go_wp2_with fail
 refine (HSP.out _ _ X2.out).mono ?_;rintro d w5 ⟨rfl,hb5⟩;clear p0 p1 p2 p3 p4 p5 p6 p6f p6l p7 p8 pcl;have X5:=qB4 (X2.out.below hb5);have p6:=X5.out.e.c;have p6f:=X5.out.e.f;have p6l:=X5.out.e.lt;have X6:=qB4 (X5.out.code k);by_cases hk0:k=0
 .subst hk0;go_wp2_with fail
  refine leaves_cons (f:=259) (args:=#[.pointer (some ⟨w.heap.size+1+1,0,none⟩),.pointer (some ⟨w3.heap.size,0,none⟩),.pointer (some ⟨w.heap.size,0,none⟩),.pointer (some ⟨w.heap.size+1,0,none⟩)]) (by simp) (by simp[go_sem]) ?_;refine (X6.out.off_ok X6.out.lk (by omega) _).mono ?_;rintro d u' w'' ⟨rfl,rfl,hcc,hS9,hB9⟩;exact⟨_,by simp[results,results244,go_sem,hcc],rfl,fun h=>absurd rfl h,fun _=>by obtain⟨q1,q2,q⟩:=hS9;exact⟨q1,q2,_,_,q⟩,hB9⟩
 .go_wp2_with fail
  refine leaves_cons (f:=259) (args:=#[.pointer (some ⟨w.heap.size+1+1,0,none⟩),.pointer (some ⟨w3.heap.size,0,none⟩),.pointer (some ⟨w.heap.size,0,none⟩),.pointer (some ⟨w.heap.size+1,0,none⟩)]) (by simp) (by simp[go_sem]) ?_;refine (X6.out.off_bad (by first | assumption | decide) _).mono ?_;rintro d u' w'' ⟨rfl,rfl,hcc,hS9,hB9⟩;exact⟨_,by simp[results,results244,go_sem,hcc],rfl,fun _=>hS9,fun h=>absurd h (by first | assumption | decide),hB9⟩
theorem qBv(E:qH3)(b B:Nat)(a:Option Addr)(m cap:Nat)(cs:List qA5)(sa:Option Addr)(sc:Nat)(said:List StI)(la:Option Addr)(lc:Nat)(ls:List LkI)(x:StI)(w:World)(hS:qG8 w b B (.slice a m cap) sa sc said la lc ls)(hEC:qN0 E cs)(hSt:qT7 w B a m cs)(hm:0<m)(hm8:m<=8)(hRp:RpS E said ls)(hst:qB5 x=0)(hsx:qC4 said x=false)(c:qA5)(hp0:0<=qB7 E said x.e)(hpc:cs[(qB7 E said x.e).toNat]?=some c)(h40:said.length<40)(hk4:x.k=4)(k:Int)(hk:qC7 E said x=k):
  CP 244 #[.pointer (some ⟨b,0,none⟩),.agg #[iv x.k,iv x.e,iv x.f,iv x.s,iv x.n]] w fun d w'=>qLE w b B (.slice a m cap) sa sc said la lc ls x k ls d w':=by
 obtain⟨⟨hk1,hk2⟩,⟨he1,he2⟩,⟨hn1,hn2⟩,_⟩:=qH1 hst;have hlen:=hRp.len;have hrows:=hS.rows;have hbl:=hS.lt;have HST:=hJJ hSt;have HEC:=hJJ hEC;have HRP:=hJJ hRp;have hml:cs.length=m:=(hSt w (gC _ _)).1.1
 have HNX:Hid (∀x∈said,x.k=4->0<=x.n/\x.n<(m:Int)):=fun y hy hk=>by
  have:=hRp.nx y hy hk;rw[hEC.es,kD,hml]at this;exact this
 obtain⟨V,hV⟩:∃V,V=qE1 w b x:=⟨_,rfl⟩;have HV:=hJJ hV;have E0:qN1 w.heap.size b x 0 V:=by rw[hV];exact qN1.new w b x
 have B0:Below w.heap.size w V:=by rw[hV];exact qE1.below w b x
 have HS0:Hid (qG8 V b B (.slice a m cap) sa sc said la lc ls):=hS.below B0;have HB0:=hJJ B0;have HE0:=hJJ E0;have hBb:=hS.hb;have HF:Hid (∀W:World,CP 65 #[.agg #[iv x.k,iv x.e,iv x.f,iv x.s,iv x.n]] W fun e w'=>e=.returned (iv 0)/\Below W.heap.size W w'):=fun W=>by rw[<- hst];exact qB8 x W
 have HCN:Hid (∀W:World,qG8 W b B (.slice a m cap) sa sc said la lc ls->CP 115 #[.slice sa said.length sc,.agg #[iv x.k,iv x.e,iv x.f,iv x.s,iv x.n]] W fun e w'=>e=.returned (.bool false)/\Below W.heap.size W w'):=fun W q=>by rw[<- hsx];exact qE8 sa said.length sc said x W (by omega) q.stIn
 have HSE:=hJJ hS;have HKN:Hid (∀(bb:Nat) (W:World),EW w w.heap.size bb b B x 0 (.slice a m cap) sa sc said (.slice la ls.length lc) la lc ls W->CP 260 #[.pointer (some ⟨b,0,none⟩),iv x.e] W fun d w'=>QI0 cs (qB7 E said x.e) d/\Below W.heap.size W w'):=fun bb W q=>qM7 E b _ sa said.length sc said a m cap cs x.e W HEC.out.es q.spk q.stIn (by omega) (HST.out _ q.bl).1 hm hm8 ⟨he1,he2⟩ HNX.out
 have h40':(said.length:Int)<40:=by omega
 have k1:(x.k==1)=false:=by simp[hk4]
 have k3:(x.k==3)=false:=by simp[hk4]
 have k4:(x.k==4)=true:=by simp[hk4]
 clear hk4;have HSP:Hid (∀(bb:Nat) (W:World),EW w w.heap.size bb b B x 0 (.slice a m cap) sa sc said (.slice la ls.length lc) la lc ls W->CP 262 #[.pointer (some ⟨b,0,none⟩),.agg #[iv x.k,iv x.e,iv x.f,iv x.s,iv x.n]] W fun d w'=>d=.returned (iv k)/\Below W.heap.size W w'):=fun bb W q=>by rw[<- hk];exact qLJ E b _ sa said.length sc said a m cap cs x W HEC.out.es q.spk q.stIn (by omega) (HST.out _ q.bl).1 hm8 ⟨he1,he2⟩ ⟨hn1,hn2⟩
 clear hk;have hmf:∀(fn:Fn) (first cap:Array Value) (w:World),(Instr.makeFunc fn first cap).run prog w=.ok (.func fn first cap) w:=fun _ _ _ _=>rfl
 have HRW:=hJJ hrows;clear hS hEC hSt hRp B0 hV E0 hst hsx hrows hml;go_enter_defers func244,ntmps244
 go_wp2_with fail
 rw[show ((w.alloc (.cells #[.pointer (some ⟨b,0,none⟩)] 299)).alloc (.cells #[iv x.k,iv x.e,iv x.f,iv x.s,iv x.n] 50)).alloc (.cells #[iv 0] 2)=V from HV.out.symm];refine (HF.out _).mono ?_;rintro d w1 ⟨rfl,hb1⟩;have E1:=HE0.out.below hb1;have e1:=E1.c;have f1:=E1.f;have l1:=E1.lt;have E2:=E1.put 0
 have S2:qG8 (w1.setCell ⟨w.heap.size+1+1,0,none⟩ (iv 0)) b B (.slice a m cap) sa sc said la lc ls:=(HS0.out.below hb1).other (fun g hg=>by
  show g≠w.heap.size+1+1
  rcases hg with q | q | q
  .have:=HRW.out.1 g q;omega
  .have:=HRW.out.2 g q;omega
  .omega) _
 have B2:Hid (Below B w (w1.setCell ⟨w.heap.size+1+1,0,none⟩ (iv 0))):=((HB0.out.trans (hb1.mono HB0.out.size)).mono (by omega)).setCell (by show B<=w.heap.size+1+1;omega) _;go_upto_region 2 with fail
 generalize w1.setCell ⟨w.heap.size+1+1,0,none⟩ (iv 0)=w2 at *
 clear e1 f1 l1 E1 hb1;refine QA1 ?_;refine gL (S:=fun w'=>qN1 w.heap.size b x 0 w'/\qG8 w' b B (.slice a m cap) sa sc said la lc ls) (by kernel_rfl) (⟨E2.below (gC _ _).drew,S2.below (gC _ _).drew⟩) (fun hHeld=>?_);refine Zk.go [0,1,2,3,4,5,6,7] ?_
 iterate 8
  refine Zk.stc (v:=?_) rfl ?_ ?_;rotate_left 1
  .intro w hSw;have p0:=hSw.1.s;have p1:=hSw.1.x0;have p2:=hSw.1.x1;have p3:=hSw.1.x2;have p4:=hSw.1.x3;have p5:=hSw.1.x4;have p6:=hSw.1.c;have p7:=hSw.2.spk.c1;clear hSw;go_simp;try (with_reducible rfl)
  try simp only[Act.put,zA,zB,zC,zD,zE,zF]
 refine Zk.fin ?_;refine Zk.rd (i:=8) rfl (fun K hK=>?_);go_simp;refine (HCN.out _ hHeld.2).mono ?_;rintro d w3 ⟨rfl,hb3⟩;have hS:qN1 w.heap.size b x 0 w3/\qG8 w3 b B (.slice a m cap) sa sc said la lc ls:=⟨hHeld.1.below hb3,hHeld.2.below hb3⟩;have hB3:Below B w w3:=B2.out.drew.trans (hb3.mono (by have:=B2.out.size;show B<=w2.heap.size;omega));refine hK.out _ _ hS (fun hHeld=>?_);clear hK K;try simp only[Act.put,zA,zB,zC,zD,zE,zF]
 refine Zk.go [9] ?_;refine Zk.stc (v:=?_) rfl ?_ ?_;rotate_left 1
 .intro w hSw;have p0:=hSw.1.s;have p1:=hSw.1.x0;have p2:=hSw.1.x1;have p3:=hSw.1.x2;have p4:=hSw.1.x3;have p5:=hSw.1.x4;have p6:=hSw.1.c;have p7:=hSw.2.spk.c1;clear hSw;go_simp;try (with_reducible rfl)
 try simp only[Act.put,zA,zB,zC,zD,zE,zF]
 refine Zk.fin ?_;refine gZ (by kernel_rfl) ?_ _;refine⟨rfl,?_⟩;have hE3:=hS.1;have hS3:=hS.2;have l3:=hE3.lt;obtain⟨W,hW⟩:∃W,W=w3.alloc (.cells #[.slice la ls.length lc] 113):=⟨_,rfl⟩;have A3:Below w3.heap.size w3 W:=by rw[hW];exact zN
 have X0:Hid (EW w w.heap.size w3.heap.size b B x 0 (.slice a m cap) sa sc said (.slice la ls.length lc) la lc ls W):=by
  refine⟨hE3.below A3,by rw[hW];simp[go_sem],(A3.block b hS3.lt).trans hS3.bk,hS3.ow.below A3,hS3.lk.below A3,hBb,hbl,l3,hB3.trans (A3.mono (by have:=hB3.size;omega)),HRW.out.1,HRW.out.2⟩
 have p0:=hE3.s;have p1:=hE3.x0;have p2:=hE3.x1;have p3:=hE3.x2;have p4:=hE3.x3;have p5:=hE3.x4;have p6:=hE3.c;have p7:=hS3.spk.c2;have p8:=hS3.lt;clear hHeld hS hE3 hS3 hB3 A3 hb3 E2 S2 B2;go_upto_region 6 with fail
 rw[<- hW];clear hW p0 p1 p2 p3 p4 p5 p6 p7 p8;have p0:=X0.out.e.s;have p2:=X0.out.e.x1;go_wp2_with fail
 refine (HKN.out _ _ X0.out).mono ?_;rintro d w4 ⟨hkn,hb4⟩;have X1:=qB4 (X0.out.below hb4);clear hb4 X0 p0 p2 l3;obtain rfl:=hkn.2 c hp0 hpc;have X2:=qB4 (X1.out.below ((gC _ _).alloc (gB _) (.cells #[iv c.e,iv c.f,.slice c.ra c.rn c.rc,.slice c.fa c.fn c.fc,.slice c.ca c.cn c.cc] 92)));clear hkn X1;have p0:=X2.out.e.s;have p1:=X2.out.e.x0;have p2:=X2.out.e.x1;have p3:=X2.out.e.x2;have p4:=X2.out.e.x3;have p5:=X2.out.e.x4;have p6:=X2.out.e.c;have p6f:=X2.out.e.f;have p6l:=X2.out.e.lt;have p7:=X2.out.spk.c1;have p8:=X2.out.lt;have pcl:=X2.out.bn;go_wp2_with fail
 refine (HSP.out _ _ X2.out).mono ?_;rintro d w5 ⟨rfl,hb5⟩;clear p0 p1 p2 p3 p4 p5 p6 p6f p6l p7 p8 pcl;have X5:=qB4 (X2.out.below hb5);have p6:=X5.out.e.c;have p6f:=X5.out.e.f;have p6l:=X5.out.e.lt;have X6:=qB4 (X5.out.code k);by_cases hk0:k=0
 .subst hk0;go_wp2_with fail
  refine leaves_cons (f:=259) (args:=#[.pointer (some ⟨w.heap.size+1+1,0,none⟩),.pointer (some ⟨w3.heap.size,0,none⟩),.pointer (some ⟨w.heap.size,0,none⟩),.pointer (some ⟨w.heap.size+1,0,none⟩)]) (by simp) (by simp[go_sem]) ?_;refine (X6.out.off_ok X6.out.lk (by omega) _).mono ?_;rintro d u' w'' ⟨rfl,rfl,hcc,hS9,hB9⟩;exact⟨_,by simp[results,results244,go_sem,hcc],rfl,fun h=>absurd rfl h,fun _=>by obtain⟨q1,q2,q⟩:=hS9;exact⟨q1,q2,_,_,q⟩,hB9⟩
 .go_wp2_with fail
  refine leaves_cons (f:=259) (args:=#[.pointer (some ⟨w.heap.size+1+1,0,none⟩),.pointer (some ⟨w3.heap.size,0,none⟩),.pointer (some ⟨w.heap.size,0,none⟩),.pointer (some ⟨w.heap.size+1,0,none⟩)]) (by simp) (by simp[go_sem]) ?_;refine (X6.out.off_bad (by first | assumption | decide) _).mono ?_;rintro d u' w'' ⟨rfl,rfl,hcc,hS9,hB9⟩;exact⟨_,by simp[results,results244,go_sem,hcc],rfl,fun _=>hS9,fun h=>absurd h (by first | assumption | decide),hB9⟩
theorem qDh(E:qH3)(b B:Nat)(a:Option Addr)(m cap:Nat)(cs:List qA5)(sa:Option Addr)(sc:Nat)(said:List StI)(la:Option Addr)(lc:Nat)(ls:List LkI)(x:StI)(w:World)(hS:qG8 w b B (.slice a m cap) sa sc said la lc ls)(hEC:qN0 E cs)(hSt:qT7 w B a m cs)(hm:0<m)(hm8:m<=8)(hRp:RpS E said ls)(hst:qB5 x=0)(hsx:qC4 said x=false)(c:qA5)(hp0:0<=qB7 E said x.e)(hpc:cs[(qB7 E said x.e).toNat]?=some c)(h40:said.length<40)(hk1':x.k=1)(gs:List GrI)(hg:QM8 c.zs gs)(hse:(qV1 said x.e || qC4 said (qT6 x))=true)(lx:List LkI):
  CP 244 #[.pointer (some ⟨b,0,none⟩),.agg #[iv x.k,iv x.e,iv x.f,iv x.s,iv x.n]] w fun d w'=>qLE w b B (.slice a m cap) sa sc said la lc ls x 9 lx d w':=by
 obtain⟨⟨hk1,hk2⟩,⟨he1,he2⟩,⟨hn1,hn2⟩,_⟩:=qH1 hst;have hlen:=hRp.len;have hrows:=hS.rows;have hbl:=hS.lt;have HST:=hJJ hSt;have HEC:=hJJ hEC;have HRP:=hJJ hRp;have hml:cs.length=m:=(hSt w (gC _ _)).1.1
 have HNX:Hid (∀x∈said,x.k=4->0<=x.n/\x.n<(m:Int)):=fun y hy hk=>by
  have:=hRp.nx y hy hk;rw[hEC.es,kD,hml]at this;exact this
 obtain⟨V,hV⟩:∃V,V=qE1 w b x:=⟨_,rfl⟩;have HV:=hJJ hV;have E0:qN1 w.heap.size b x 0 V:=by rw[hV];exact qN1.new w b x
 have B0:Below w.heap.size w V:=by rw[hV];exact qE1.below w b x
 have HS0:Hid (qG8 V b B (.slice a m cap) sa sc said la lc ls):=hS.below B0;have HB0:=hJJ B0;have HE0:=hJJ E0;have hBb:=hS.hb;have HF:Hid (∀W:World,CP 65 #[.agg #[iv x.k,iv x.e,iv x.f,iv x.s,iv x.n]] W fun e w'=>e=.returned (iv 0)/\Below W.heap.size W w'):=fun W=>by rw[<- hst];exact qB8 x W
 have HCN:Hid (∀W:World,qG8 W b B (.slice a m cap) sa sc said la lc ls->CP 115 #[.slice sa said.length sc,.agg #[iv x.k,iv x.e,iv x.f,iv x.s,iv x.n]] W fun e w'=>e=.returned (.bool false)/\Below W.heap.size W w'):=fun W q=>by rw[<- hsx];exact qE8 sa said.length sc said x W (by omega) q.stIn
 have HSE:=hJJ hS;have HKN:Hid (∀(bb:Nat) (W:World),EW w w.heap.size bb b B x 0 (.slice a m cap) sa sc said (.slice la ls.length lc) la lc ls W->CP 260 #[.pointer (some ⟨b,0,none⟩),iv x.e] W fun d w'=>QI0 cs (qB7 E said x.e) d/\Below W.heap.size W w'):=fun bb W q=>qM7 E b _ sa said.length sc said a m cap cs x.e W HEC.out.es q.spk q.stIn (by omega) (HST.out _ q.bl).1 hm hm8 ⟨he1,he2⟩ HNX.out
 have h40':(said.length:Int)<40:=by omega
 have k1:(x.k==1)=true:=by simp[hk1']
 clear hk1'
 have HIS:Hid (∀(bb:Nat) (W:World),EW w w.heap.size bb b B x 0 (.slice a m cap) sa sc said (.slice la ls.length lc) la lc ls W->CP 261 #[.pointer (some ⟨b,0,none⟩),.agg #[iv c.e,iv c.f,.slice c.ra c.rn c.rc,.slice c.fa c.fn c.fc,.slice c.ca c.cn c.cc],.agg #[iv x.k,iv x.e,iv x.f,iv x.s,iv x.n]] W fun d w'=>d=.returned (iv 9)/\Below W.heap.size W w'):=fun bb W q=>by
  obtain⟨⟨h1,h2,h3,h4⟩,_⟩:=HEC.out.cf _ c hpc;refine (qDK B b _ sa said.length sc said la lc ls c gs x W q.spk q.stIn (by omega) q.lk h1 h2 h3 (((HST.out _ q.bl).1).conf hpc) h4 hg (HST.out _ q.bl).2.1 (HST.out _ q.bl).2.2).mono ?_;rintro d w' ⟨r1,r2,r3⟩;exact r1 hse
 clear hse;have hmf:∀(fn:Fn) (first cap:Array Value) (w:World),(Instr.makeFunc fn first cap).run prog w=.ok (.func fn first cap) w:=fun _ _ _ _=>rfl
 have HRW:=hJJ hrows;clear hS hEC hSt hRp B0 hV E0 hst hsx hrows hml;go_enter_defers func244,ntmps244
 go_wp2_with fail
 rw[show ((w.alloc (.cells #[.pointer (some ⟨b,0,none⟩)] 299)).alloc (.cells #[iv x.k,iv x.e,iv x.f,iv x.s,iv x.n] 50)).alloc (.cells #[iv 0] 2)=V from HV.out.symm];refine (HF.out _).mono ?_;rintro d w1 ⟨rfl,hb1⟩;have E1:=HE0.out.below hb1;have e1:=E1.c;have f1:=E1.f;have l1:=E1.lt;have E2:=E1.put 0
 have S2:qG8 (w1.setCell ⟨w.heap.size+1+1,0,none⟩ (iv 0)) b B (.slice a m cap) sa sc said la lc ls:=(HS0.out.below hb1).other (fun g hg=>by
  show g≠w.heap.size+1+1
  rcases hg with q | q | q
  .have:=HRW.out.1 g q;omega
  .have:=HRW.out.2 g q;omega
  .omega) _
 have B2:Hid (Below B w (w1.setCell ⟨w.heap.size+1+1,0,none⟩ (iv 0))):=((HB0.out.trans (hb1.mono HB0.out.size)).mono (by omega)).setCell (by show B<=w.heap.size+1+1;omega) _;go_upto_region 2 with fail
 generalize w1.setCell ⟨w.heap.size+1+1,0,none⟩ (iv 0)=w2 at *
 clear e1 f1 l1 E1 hb1;refine QA1 ?_;refine gL (S:=fun w'=>qN1 w.heap.size b x 0 w'/\qG8 w' b B (.slice a m cap) sa sc said la lc ls) (by kernel_rfl) (⟨E2.below (gC _ _).drew,S2.below (gC _ _).drew⟩) (fun hHeld=>?_);refine Zk.go [0,1,2,3,4,5,6,7] ?_
 iterate 8
  refine Zk.stc (v:=?_) rfl ?_ ?_;rotate_left 1
  .intro w hSw;have p0:=hSw.1.s;have p1:=hSw.1.x0;have p2:=hSw.1.x1;have p3:=hSw.1.x2;have p4:=hSw.1.x3;have p5:=hSw.1.x4;have p6:=hSw.1.c;have p7:=hSw.2.spk.c1;clear hSw;go_simp;try (with_reducible rfl)
  try simp only[Act.put,zA,zB,zC,zD,zE,zF]
 refine Zk.fin ?_;refine Zk.rd (i:=8) rfl (fun K hK=>?_);go_simp;refine (HCN.out _ hHeld.2).mono ?_;rintro d w3 ⟨rfl,hb3⟩;have hS:qN1 w.heap.size b x 0 w3/\qG8 w3 b B (.slice a m cap) sa sc said la lc ls:=⟨hHeld.1.below hb3,hHeld.2.below hb3⟩;have hB3:Below B w w3:=B2.out.drew.trans (hb3.mono (by have:=B2.out.size;show B<=w2.heap.size;omega));refine hK.out _ _ hS (fun hHeld=>?_);clear hK K;try simp only[Act.put,zA,zB,zC,zD,zE,zF]
 refine Zk.go [9] ?_;refine Zk.stc (v:=?_) rfl ?_ ?_;rotate_left 1
 .intro w hSw;have p0:=hSw.1.s;have p1:=hSw.1.x0;have p2:=hSw.1.x1;have p3:=hSw.1.x2;have p4:=hSw.1.x3;have p5:=hSw.1.x4;have p6:=hSw.1.c;have p7:=hSw.2.spk.c1;clear hSw;go_simp;try (with_reducible rfl)
 try simp only[Act.put,zA,zB,zC,zD,zE,zF]
 refine Zk.fin ?_;refine gZ (by kernel_rfl) ?_ _;refine⟨rfl,?_⟩;have hE3:=hS.1;have hS3:=hS.2;have l3:=hE3.lt;obtain⟨W,hW⟩:∃W,W=w3.alloc (.cells #[.slice la ls.length lc] 113):=⟨_,rfl⟩;have A3:Below w3.heap.size w3 W:=by rw[hW];exact zN
 have X0:Hid (EW w w.heap.size w3.heap.size b B x 0 (.slice a m cap) sa sc said (.slice la ls.length lc) la lc ls W):=by
  refine⟨hE3.below A3,by rw[hW];simp[go_sem],(A3.block b hS3.lt).trans hS3.bk,hS3.ow.below A3,hS3.lk.below A3,hBb,hbl,l3,hB3.trans (A3.mono (by have:=hB3.size;omega)),HRW.out.1,HRW.out.2⟩
 have p0:=hE3.s;have p1:=hE3.x0;have p2:=hE3.x1;have p3:=hE3.x2;have p4:=hE3.x3;have p5:=hE3.x4;have p6:=hE3.c;have p7:=hS3.spk.c2;have p8:=hS3.lt;clear hHeld hS hE3 hS3 hB3 A3 hb3 E2 S2 B2;go_upto_region 6 with fail
 rw[<- hW];clear hW p0 p1 p2 p3 p4 p5 p6 p7 p8;have p0:=X0.out.e.s;have p2:=X0.out.e.x1;go_wp2_with fail
 refine (HKN.out _ _ X0.out).mono ?_;rintro d w4 ⟨hkn,hb4⟩;have X1:=qB4 (X0.out.below hb4);clear hb4 X0 p0 p2 l3;obtain rfl:=hkn.2 c hp0 hpc;have X2:=qB4 (X1.out.below ((gC _ _).alloc (gB _) (.cells #[iv c.e,iv c.f,.slice c.ra c.rn c.rc,.slice c.fa c.fn c.fc,.slice c.ca c.cn c.cc] 92)));clear hkn X1;have p0:=X2.out.e.s;have p1:=X2.out.e.x0;have p2:=X2.out.e.x1;have p3:=X2.out.e.x2;have p4:=X2.out.e.x3;have p5:=X2.out.e.x4;have p6:=X2.out.e.c;have p6f:=X2.out.e.f;have p6l:=X2.out.e.lt;have p7:=X2.out.spk.c1;have p8:=X2.out.lt;have pcl:=X2.out.bn;go_wp2_with fail
 refine (HIS.out _ _ X2.out).mono ?_;rintro d w5 ⟨rfl,hb5⟩;clear p0 p1 p2 p3 p4 p5 p6 p6f p6l p7 p8 pcl;have X5:=qB4 (X2.out.below hb5);have p6:=X5.out.e.c;have p6f:=X5.out.e.f;have p6l:=X5.out.e.lt;have X6:=qB4 (X5.out.code 9);go_wp2_with fail
 refine leaves_cons (f:=259) (args:=#[.pointer (some ⟨w.heap.size+1+1,0,none⟩),.pointer (some ⟨w3.heap.size,0,none⟩),.pointer (some ⟨w.heap.size,0,none⟩),.pointer (some ⟨w.heap.size+1,0,none⟩)]) (by simp) (by simp[go_sem]) ?_;refine (X6.out.off_bad (by first | assumption | decide) _).mono ?_;rintro d u' w'' ⟨rfl,rfl,hcc,hS9,hB9⟩;exact⟨_,by simp[results,results244,go_sem,hcc],rfl,fun _=>hS9,fun h=>absurd h (by first | assumption | decide),hB9⟩
theorem QU1(E:qH3)(b B:Nat)(a:Option Addr)(m cap:Nat)(cs:List qA5)(sa:Option Addr)(sc:Nat)(said:List StI)(la:Option Addr)(lc:Nat)(ls:List LkI)(x:StI)(w:World)(hS:qG8 w b B (.slice a m cap) sa sc said la lc ls)(hEC:qN0 E cs)(hSt:qT7 w B a m cs)(hm:0<m)(hm8:m<=8)(hRp:RpS E said ls)(hst:qB5 x=0)(hsx:qC4 said x=false)(c:qA5)(hp0:0<=qB7 E said x.e)(hpc:cs[(qB7 E said x.e).toNat]?=some c)(h40:said.length<40)(hk1':x.k=1)(gs:List GrI)(hg:QM8 c.zs gs)(hse:(qV1 said x.e || qC4 said (qT6 x))=false)(hal:alW (qA3 c.fs) gs x.f x.s=false)(lx:List LkI):
  CP 244 #[.pointer (some ⟨b,0,none⟩),.agg #[iv x.k,iv x.e,iv x.f,iv x.s,iv x.n]] w fun d w'=>qLE w b B (.slice a m cap) sa sc said la lc ls x 8 lx d w':=by
 obtain⟨⟨hk1,hk2⟩,⟨he1,he2⟩,⟨hn1,hn2⟩,_⟩:=qH1 hst;have hlen:=hRp.len;have hrows:=hS.rows;have hbl:=hS.lt;have HST:=hJJ hSt;have HEC:=hJJ hEC;have HRP:=hJJ hRp;have hml:cs.length=m:=(hSt w (gC _ _)).1.1
 have HNX:Hid (∀x∈said,x.k=4->0<=x.n/\x.n<(m:Int)):=fun y hy hk=>by
  have:=hRp.nx y hy hk;rw[hEC.es,kD,hml]at this;exact this
 obtain⟨V,hV⟩:∃V,V=qE1 w b x:=⟨_,rfl⟩;have HV:=hJJ hV;have E0:qN1 w.heap.size b x 0 V:=by rw[hV];exact qN1.new w b x
 have B0:Below w.heap.size w V:=by rw[hV];exact qE1.below w b x
 have HS0:Hid (qG8 V b B (.slice a m cap) sa sc said la lc ls):=hS.below B0;have HB0:=hJJ B0;have HE0:=hJJ E0;have hBb:=hS.hb;have HF:Hid (∀W:World,CP 65 #[.agg #[iv x.k,iv x.e,iv x.f,iv x.s,iv x.n]] W fun e w'=>e=.returned (iv 0)/\Below W.heap.size W w'):=fun W=>by rw[<- hst];exact qB8 x W
 have HCN:Hid (∀W:World,qG8 W b B (.slice a m cap) sa sc said la lc ls->CP 115 #[.slice sa said.length sc,.agg #[iv x.k,iv x.e,iv x.f,iv x.s,iv x.n]] W fun e w'=>e=.returned (.bool false)/\Below W.heap.size W w'):=fun W q=>by rw[<- hsx];exact qE8 sa said.length sc said x W (by omega) q.stIn
 have HSE:=hJJ hS;have HKN:Hid (∀(bb:Nat) (W:World),EW w w.heap.size bb b B x 0 (.slice a m cap) sa sc said (.slice la ls.length lc) la lc ls W->CP 260 #[.pointer (some ⟨b,0,none⟩),iv x.e] W fun d w'=>QI0 cs (qB7 E said x.e) d/\Below W.heap.size W w'):=fun bb W q=>qM7 E b _ sa said.length sc said a m cap cs x.e W HEC.out.es q.spk q.stIn (by omega) (HST.out _ q.bl).1 hm hm8 ⟨he1,he2⟩ HNX.out
 have h40':(said.length:Int)<40:=by omega
 have k1:(x.k==1)=true:=by simp[hk1']
 clear hk1'
 have HIS:Hid (∀(bb:Nat) (W:World),EW w w.heap.size bb b B x 0 (.slice a m cap) sa sc said (.slice la ls.length lc) la lc ls W->CP 261 #[.pointer (some ⟨b,0,none⟩),.agg #[iv c.e,iv c.f,.slice c.ra c.rn c.rc,.slice c.fa c.fn c.fc,.slice c.ca c.cn c.cc],.agg #[iv x.k,iv x.e,iv x.f,iv x.s,iv x.n]] W fun d w'=>d=.returned (iv 8)/\Below W.heap.size W w'):=fun bb W q=>by
  obtain⟨⟨h1,h2,h3,h4⟩,_⟩:=HEC.out.cf _ c hpc;refine (qDK B b _ sa said.length sc said la lc ls c gs x W q.spk q.stIn (by omega) q.lk h1 h2 h3 (((HST.out _ q.bl).1).conf hpc) h4 hg (HST.out _ q.bl).2.1 (HST.out _ q.bl).2.2).mono ?_;rintro d w' ⟨r1,r2,r3⟩;exact r2 hse hal
 clear hse hal;have hmf:∀(fn:Fn) (first cap:Array Value) (w:World),(Instr.makeFunc fn first cap).run prog w=.ok (.func fn first cap) w:=fun _ _ _ _=>rfl
 have HRW:=hJJ hrows;clear hS hEC hSt hRp B0 hV E0 hst hsx hrows hml;go_enter_defers func244,ntmps244
 go_wp2_with fail
 rw[show ((w.alloc (.cells #[.pointer (some ⟨b,0,none⟩)] 299)).alloc (.cells #[iv x.k,iv x.e,iv x.f,iv x.s,iv x.n] 50)).alloc (.cells #[iv 0] 2)=V from HV.out.symm];refine (HF.out _).mono ?_;rintro d w1 ⟨rfl,hb1⟩;have E1:=HE0.out.below hb1;have e1:=E1.c;have f1:=E1.f;have l1:=E1.lt;have E2:=E1.put 0
 have S2:qG8 (w1.setCell ⟨w.heap.size+1+1,0,none⟩ (iv 0)) b B (.slice a m cap) sa sc said la lc ls:=(HS0.out.below hb1).other (fun g hg=>by
  show g≠w.heap.size+1+1
  rcases hg with q | q | q
  .have:=HRW.out.1 g q;omega
  .have:=HRW.out.2 g q;omega
  .omega) _
 have B2:Hid (Below B w (w1.setCell ⟨w.heap.size+1+1,0,none⟩ (iv 0))):=((HB0.out.trans (hb1.mono HB0.out.size)).mono (by omega)).setCell (by show B<=w.heap.size+1+1;omega) _;go_upto_region 2 with fail
 generalize w1.setCell ⟨w.heap.size+1+1,0,none⟩ (iv 0)=w2 at *
 clear e1 f1 l1 E1 hb1;refine QA1 ?_;refine gL (S:=fun w'=>qN1 w.heap.size b x 0 w'/\qG8 w' b B (.slice a m cap) sa sc said la lc ls) (by kernel_rfl) (⟨E2.below (gC _ _).drew,S2.below (gC _ _).drew⟩) (fun hHeld=>?_);refine Zk.go [0,1,2,3,4,5,6,7] ?_
 iterate 8
  refine Zk.stc (v:=?_) rfl ?_ ?_;rotate_left 1
  .intro w hSw;have p0:=hSw.1.s;have p1:=hSw.1.x0;have p2:=hSw.1.x1;have p3:=hSw.1.x2;have p4:=hSw.1.x3;have p5:=hSw.1.x4;have p6:=hSw.1.c;have p7:=hSw.2.spk.c1;clear hSw;go_simp;try (with_reducible rfl)
  try simp only[Act.put,zA,zB,zC,zD,zE,zF]
 refine Zk.fin ?_;refine Zk.rd (i:=8) rfl (fun K hK=>?_);go_simp;refine (HCN.out _ hHeld.2).mono ?_;rintro d w3 ⟨rfl,hb3⟩;have hS:qN1 w.heap.size b x 0 w3/\qG8 w3 b B (.slice a m cap) sa sc said la lc ls:=⟨hHeld.1.below hb3,hHeld.2.below hb3⟩;have hB3:Below B w w3:=B2.out.drew.trans (hb3.mono (by have:=B2.out.size;show B<=w2.heap.size;omega));refine hK.out _ _ hS (fun hHeld=>?_);clear hK K;try simp only[Act.put,zA,zB,zC,zD,zE,zF]
 refine Zk.go [9] ?_;refine Zk.stc (v:=?_) rfl ?_ ?_;rotate_left 1
 .intro w hSw;have p0:=hSw.1.s;have p1:=hSw.1.x0;have p2:=hSw.1.x1;have p3:=hSw.1.x2;have p4:=hSw.1.x3;have p5:=hSw.1.x4;have p6:=hSw.1.c;have p7:=hSw.2.spk.c1;clear hSw;go_simp;try (with_reducible rfl)
 try simp only[Act.put,zA,zB,zC,zD,zE,zF]
 refine Zk.fin ?_;refine gZ (by kernel_rfl) ?_ _;refine⟨rfl,?_⟩;have hE3:=hS.1;have hS3:=hS.2;have l3:=hE3.lt;obtain⟨W,hW⟩:∃W,W=w3.alloc (.cells #[.slice la ls.length lc] 113):=⟨_,rfl⟩;have A3:Below w3.heap.size w3 W:=by rw[hW];exact zN
 have X0:Hid (EW w w.heap.size w3.heap.size b B x 0 (.slice a m cap) sa sc said (.slice la ls.length lc) la lc ls W):=by
  refine⟨hE3.below A3,by rw[hW];simp[go_sem],(A3.block b hS3.lt).trans hS3.bk,hS3.ow.below A3,hS3.lk.below A3,hBb,hbl,l3,hB3.trans (A3.mono (by have:=hB3.size;omega)),HRW.out.1,HRW.out.2⟩
 have p0:=hE3.s;have p1:=hE3.x0;have p2:=hE3.x1;have p3:=hE3.x2;have p4:=hE3.x3;have p5:=hE3.x4;have p6:=hE3.c;have p7:=hS3.spk.c2;have p8:=hS3.lt;clear hHeld hS hE3 hS3 hB3 A3 hb3 E2 S2 B2;go_upto_region 6 with fail
 rw[<- hW];clear hW p0 p1 p2 p3 p4 p5 p6 p7 p8;have p0:=X0.out.e.s;have p2:=X0.out.e.x1;go_wp2_with fail
 refine (HKN.out _ _ X0.out).mono ?_;rintro d w4 ⟨hkn,hb4⟩;have X1:=qB4 (X0.out.below hb4);clear hb4 X0 p0 p2 l3;obtain rfl:=hkn.2 c hp0 hpc;have X2:=qB4 (X1.out.below ((gC _ _).alloc (gB _) (.cells #[iv c.e,iv c.f,.slice c.ra c.rn c.rc,.slice c.fa c.fn c.fc,.slice c.ca c.cn c.cc] 92)));clear hkn X1;have p0:=X2.out.e.s;have p1:=X2.out.e.x0;have p2:=X2.out.e.x1;have p3:=X2.out.e.x2;have p4:=X2.out.e.x3;have p5:=X2.out.e.x4;have p6:=X2.out.e.c;have p6f:=X2.out.e.f;have p6l:=X2.out.e.lt;have p7:=X2.out.spk.c1;have p8:=X2.out.lt;have pcl:=X2.out.bn;go_wp2_with fail
 refine (HIS.out _ _ X2.out).mono ?_;rintro d w5 ⟨rfl,hb5⟩;clear p0 p1 p2 p3 p4 p5 p6 p6f p6l p7 p8 pcl;have X5:=qB4 (X2.out.below hb5);have p6:=X5.out.e.c;have p6f:=X5.out.e.f;have p6l:=X5.out.e.lt;have X6:=qB4 (X5.out.code 8);go_wp2_with fail
 refine leaves_cons (f:=259) (args:=#[.pointer (some ⟨w.heap.size+1+1,0,none⟩),.pointer (some ⟨w3.heap.size,0,none⟩),.pointer (some ⟨w.heap.size,0,none⟩),.pointer (some ⟨w.heap.size+1,0,none⟩)]) (by simp) (by simp[go_sem]) ?_;refine (X6.out.off_bad (by first | assumption | decide) _).mono ?_;rintro d u' w'' ⟨rfl,rfl,hcc,hS9,hB9⟩;exact⟨_,by simp[results,results244,go_sem,hcc],rfl,fun _=>hS9,fun h=>absurd h (by first | assumption | decide),hB9⟩
theorem qAX(E:qH3)(b B:Nat)(a:Option Addr)(m cap:Nat)(cs:List qA5)(sa:Option Addr)(sc:Nat)(said:List StI)(la:Option Addr)(lc:Nat)(ls:List LkI)(x:StI)(w:World)(hS:qG8 w b B (.slice a m cap) sa sc said la lc ls)(hEC:qN0 E cs)(hSt:qT7 w B a m cs)(hm:0<m)(hm8:m<=8)(hRp:RpS E said ls)(hst:qB5 x=0)(hsx:qC4 said x=false)(c:qA5)(hp0:0<=qB7 E said x.e)(hpc:cs[(qB7 E said x.e).toNat]?=some c)(h40:said.length<40)(hk1':x.k=1)(gs:List GrI)(hg:QM8 c.zs gs)(hse:(qV1 said x.e || qC4 said (qT6 x))=false)(hal:alW (qA3 c.fs) gs x.f x.s=true)(k:Int)(hk:qE3 ls c.cs x.e x.f x.s=k)(L:List LkI)(hL:qL4 ls c.cs x.e x.f x.s=L):
  CP 244 #[.pointer (some ⟨b,0,none⟩),.agg #[iv x.k,iv x.e,iv x.f,iv x.s,iv x.n]] w fun d w'=>qLE w b B (.slice a m cap) sa sc said la lc ls x k L d w':=by
 obtain⟨⟨hk1,hk2⟩,⟨he1,he2⟩,⟨hn1,hn2⟩,_⟩:=qH1 hst;have hlen:=hRp.len;have hrows:=hS.rows;have hbl:=hS.lt;have HST:=hJJ hSt;have HEC:=hJJ hEC;have HRP:=hJJ hRp;have hml:cs.length=m:=(hSt w (gC _ _)).1.1
 have HNX:Hid (∀x∈said,x.k=4->0<=x.n/\x.n<(m:Int)):=fun y hy hk=>by
  have:=hRp.nx y hy hk;rw[hEC.es,kD,hml]at this;exact this
 obtain⟨V,hV⟩:∃V,V=qE1 w b x:=⟨_,rfl⟩;have HV:=hJJ hV;have E0:qN1 w.heap.size b x 0 V:=by rw[hV];exact qN1.new w b x
 have B0:Below w.heap.size w V:=by rw[hV];exact qE1.below w b x
 have HS0:Hid (qG8 V b B (.slice a m cap) sa sc said la lc ls):=hS.below B0;have HB0:=hJJ B0;have HE0:=hJJ E0;have hBb:=hS.hb;have HF:Hid (∀W:World,CP 65 #[.agg #[iv x.k,iv x.e,iv x.f,iv x.s,iv x.n]] W fun e w'=>e=.returned (iv 0)/\Below W.heap.size W w'):=fun W=>by rw[<- hst];exact qB8 x W
 have HCN:Hid (∀W:World,qG8 W b B (.slice a m cap) sa sc said la lc ls->CP 115 #[.slice sa said.length sc,.agg #[iv x.k,iv x.e,iv x.f,iv x.s,iv x.n]] W fun e w'=>e=.returned (.bool false)/\Below W.heap.size W w'):=fun W q=>by rw[<- hsx];exact qE8 sa said.length sc said x W (by omega) q.stIn
 have HSE:=hJJ hS;have HKN:Hid (∀(bb:Nat) (W:World),EW w w.heap.size bb b B x 0 (.slice a m cap) sa sc said (.slice la ls.length lc) la lc ls W->CP 260 #[.pointer (some ⟨b,0,none⟩),iv x.e] W fun d w'=>QI0 cs (qB7 E said x.e) d/\Below W.heap.size W w'):=fun bb W q=>qM7 E b _ sa said.length sc said a m cap cs x.e W HEC.out.es q.spk q.stIn (by omega) (HST.out _ q.bl).1 hm hm8 ⟨he1,he2⟩ HNX.out
 have h40':(said.length:Int)<40:=by omega
 have k1:(x.k==1)=true:=by simp[hk1']
 clear hk1'
 have HIS:Hid (∀(bb:Nat) (W:World),EW w w.heap.size bb b B x 0 (.slice a m cap) sa sc said (.slice la ls.length lc) la lc ls W->CP 261 #[.pointer (some ⟨b,0,none⟩),.agg #[iv c.e,iv c.f,.slice c.ra c.rn c.rc,.slice c.fa c.fn c.fc,.slice c.ca c.cn c.cc],.agg #[iv x.k,iv x.e,iv x.f,iv x.s,iv x.n]] W fun d w'=>qLn b k L W d w'):=fun bb W q=>by
  obtain⟨⟨h1,h2,h3,h4⟩,_⟩:=HEC.out.cf _ c hpc;refine (qDK B b _ sa said.length sc said la lc ls c gs x W q.spk q.stIn (by omega) q.lk h1 h2 h3 (((HST.out _ q.bl).1).conf hpc) h4 hg (HST.out _ q.bl).2.1 (HST.out _ q.bl).2.2).mono ?_;rintro d w' ⟨r1,r2,r3⟩;rw[<- hk,<- hL];exact r3 hse hal
 clear hse hal hk hL;have hmf:∀(fn:Fn) (first cap:Array Value) (w:World),(Instr.makeFunc fn first cap).run prog w=.ok (.func fn first cap) w:=fun _ _ _ _=>rfl
 have HRW:=hJJ hrows;clear hS hEC hSt hRp B0 hV E0 hst hsx hrows hml;go_enter_defers func244,ntmps244
 go_wp2_with fail
 rw[show ((w.alloc (.cells #[.pointer (some ⟨b,0,none⟩)] 299)).alloc (.cells #[iv x.k,iv x.e,iv x.f,iv x.s,iv x.n] 50)).alloc (.cells #[iv 0] 2)=V from HV.out.symm];refine (HF.out _).mono ?_;rintro d w1 ⟨rfl,hb1⟩;have E1:=HE0.out.below hb1;have e1:=E1.c;have f1:=E1.f;have l1:=E1.lt;have E2:=E1.put 0
 have S2:qG8 (w1.setCell ⟨w.heap.size+1+1,0,none⟩ (iv 0)) b B (.slice a m cap) sa sc said la lc ls:=(HS0.out.below hb1).other (fun g hg=>by
  show g≠w.heap.size+1+1
  rcases hg with q | q | q
  .have:=HRW.out.1 g q;omega
  .have:=HRW.out.2 g q;omega
  .omega) _
 have B2:Hid (Below B w (w1.setCell ⟨w.heap.size+1+1,0,none⟩ (iv 0))):=((HB0.out.trans (hb1.mono HB0.out.size)).mono (by omega)).setCell (by show B<=w.heap.size+1+1;omega) _;go_upto_region 2 with fail
 generalize w1.setCell ⟨w.heap.size+1+1,0,none⟩ (iv 0)=w2 at *
 clear e1 f1 l1 E1 hb1;refine QA1 ?_;refine gL (S:=fun w'=>qN1 w.heap.size b x 0 w'/\qG8 w' b B (.slice a m cap) sa sc said la lc ls) (by kernel_rfl) (⟨E2.below (gC _ _).drew,S2.below (gC _ _).drew⟩) (fun hHeld=>?_);refine Zk.go [0,1,2,3,4,5,6,7] ?_
 iterate 8
  refine Zk.stc (v:=?_) rfl ?_ ?_;rotate_left 1
  .intro w hSw;have p0:=hSw.1.s;have p1:=hSw.1.x0;have p2:=hSw.1.x1;have p3:=hSw.1.x2;have p4:=hSw.1.x3;have p5:=hSw.1.x4;have p6:=hSw.1.c;have p7:=hSw.2.spk.c1;clear hSw;go_simp;try (with_reducible rfl)
  try simp only[Act.put,zA,zB,zC,zD,zE,zF]
 refine Zk.fin ?_;refine Zk.rd (i:=8) rfl (fun K hK=>?_);go_simp;refine (HCN.out _ hHeld.2).mono ?_;rintro d w3 ⟨rfl,hb3⟩;have hS:qN1 w.heap.size b x 0 w3/\qG8 w3 b B (.slice a m cap) sa sc said la lc ls:=⟨hHeld.1.below hb3,hHeld.2.below hb3⟩;have hB3:Below B w w3:=B2.out.drew.trans (hb3.mono (by have:=B2.out.size;show B<=w2.heap.size;omega));refine hK.out _ _ hS (fun hHeld=>?_);clear hK K;try simp only[Act.put,zA,zB,zC,zD,zE,zF]
 refine Zk.go [9] ?_;refine Zk.stc (v:=?_) rfl ?_ ?_;rotate_left 1
 .intro w hSw;have p0:=hSw.1.s;have p1:=hSw.1.x0;have p2:=hSw.1.x1;have p3:=hSw.1.x2;have p4:=hSw.1.x3;have p5:=hSw.1.x4;have p6:=hSw.1.c;have p7:=hSw.2.spk.c1;clear hSw;go_simp;try (with_reducible rfl)
 try simp only[Act.put,zA,zB,zC,zD,zE,zF]
 refine Zk.fin ?_;refine gZ (by kernel_rfl) ?_ _;refine⟨rfl,?_⟩;have hE3:=hS.1;have hS3:=hS.2;have l3:=hE3.lt;obtain⟨W,hW⟩:∃W,W=w3.alloc (.cells #[.slice la ls.length lc] 113):=⟨_,rfl⟩;have A3:Below w3.heap.size w3 W:=by rw[hW];exact zN
 have X0:Hid (EW w w.heap.size w3.heap.size b B x 0 (.slice a m cap) sa sc said (.slice la ls.length lc) la lc ls W):=by
  refine⟨hE3.below A3,by rw[hW];simp[go_sem],(A3.block b hS3.lt).trans hS3.bk,hS3.ow.below A3,hS3.lk.below A3,hBb,hbl,l3,hB3.trans (A3.mono (by have:=hB3.size;omega)),HRW.out.1,HRW.out.2⟩
 have p0:=hE3.s;have p1:=hE3.x0;have p2:=hE3.x1;have p3:=hE3.x2;have p4:=hE3.x3;have p5:=hE3.x4;have p6:=hE3.c;have p7:=hS3.spk.c2;have p8:=hS3.lt;clear hHeld hS hE3 hS3 hB3 A3 hb3 E2 S2 B2;go_upto_region 6 with fail
 rw[<- hW];clear hW p0 p1 p2 p3 p4 p5 p6 p7 p8;have p0:=X0.out.e.s;have p2:=X0.out.e.x1;go_wp2_with fail
 refine (HKN.out _ _ X0.out).mono ?_;rintro d w4 ⟨hkn,hb4⟩;have X1:=qB4 (X0.out.below hb4);clear hb4 X0 p0 p2 l3;obtain rfl:=hkn.2 c hp0 hpc;have X2:=qB4 (X1.out.below ((gC _ _).alloc (gB _) (.cells #[iv c.e,iv c.f,.slice c.ra c.rn c.rc,.slice c.fa c.fn c.fc,.slice c.ca c.cn c.cc] 92)));clear hkn X1;have p0:=X2.out.e.s;have p1:=X2.out.e.x0;have p2:=X2.out.e.x1;have p3:=X2.out.e.x2;have p4:=X2.out.e.x3;have p5:=X2.out.e.x4;have p6:=X2.out.e.c;have p6f:=X2.out.e.f;have p6l:=X2.out.e.lt;have p7:=X2.out.spk.c1;have p8:=X2.out.lt;have pcl:=X2.out.bn;go_wp2_with fail
 refine (HIS.out _ _ X2.out).mono ?_;rintro d w5 ⟨w6,la',lc',rfl,ho6,hb6,rfl⟩;clear p0 p1 p2 p3 p4 p5 p6 p6f p6l p7 p8 pcl;have Y6:=qB4 (X2.out.below hb6);have hlW:=X2.out.e.lt;have hbW:=X2.out.bn;have hBW:=X2.out.hb
 have O6:Hid (qB2 (w6.setCell ⟨b,2,none⟩ (.slice la' L.length lc')) B (.slice la' L.length lc') L/\∀g,(Value.slice la' L.length lc').ownBlock=some g->w.heap.size+1+1<g):=by
  refine⟨qA4 (qB0 ho6 (by omega)) (fun g e=>?_),fun g e=>?_⟩
  .obtain⟨cur,hc,_⟩:=qD8 ho6 e;exact zS (qL7 hc Y6.out.bk (by decide))
  .obtain⟨cur,hc,hg'⟩:=qD8 ho6 e;omega
 have X5:=qB4 (Y6.out.lock (.slice la' L.length lc'));clear ho6 hb6 Y6;have p6:=X5.out.e.c;have p6f:=X5.out.e.f;have p6l:=X5.out.e.lt;have X6:=qB4 (X5.out.code k);have O7:Hid (qB2 ((w6.setCell ⟨b,2,none⟩ (.slice la' L.length lc')).setCell ⟨w.heap.size+1+1,0,none⟩ (iv k)) B (.slice la' L.length lc') L):=qA4 O6.out.1 (fun g e=>zS (by have:=O6.out.2 g e;show g≠w.heap.size+1+1;omega));by_cases hk0:k=0
 .subst hk0;go_wp2_with fail
  refine leaves_cons (f:=259) (args:=#[.pointer (some ⟨w.heap.size+1+1,0,none⟩),.pointer (some ⟨w3.heap.size,0,none⟩),.pointer (some ⟨w.heap.size,0,none⟩),.pointer (some ⟨w.heap.size+1,0,none⟩)]) (by simp) (by simp[go_sem]) ?_;refine (X6.out.off_ok O7.out (by omega) _).mono ?_;rintro d u' w'' ⟨rfl,rfl,hcc,hS9,hB9⟩;exact⟨_,by simp[results,results244,go_sem,hcc],rfl,fun h=>absurd rfl h,fun _=>by obtain⟨q1,q2,q⟩:=hS9;exact⟨q1,q2,_,_,q⟩,hB9⟩
 .go_wp2_with fail
  refine leaves_cons (f:=259) (args:=#[.pointer (some ⟨w.heap.size+1+1,0,none⟩),.pointer (some ⟨w3.heap.size,0,none⟩),.pointer (some ⟨w.heap.size,0,none⟩),.pointer (some ⟨w.heap.size+1,0,none⟩)]) (by simp) (by simp[go_sem]) ?_;refine (X6.out.off_bad (by first | assumption | decide) _).mono ?_;rintro d u' w'' ⟨rfl,rfl,hcc,hS9,hB9⟩;exact⟨_,by simp[results,results244,go_sem,hcc],rfl,fun _=>hS9,fun h=>absurd h (by first | assumption | decide),hB9⟩
