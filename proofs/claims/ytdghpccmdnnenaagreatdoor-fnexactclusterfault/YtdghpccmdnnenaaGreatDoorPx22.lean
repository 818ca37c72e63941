/- Contracts. -/
import Derived.Test.YtdghpccmdnnenaaGreatDoorPx20
import Derived.Test.YtdghpccmdnnenaaGreatDoorPx21
import Derived.Test.YtdghpccmdnnenaaGreatDoorPx16
import Derived.Test.YtdghpccmdnnenaaGreatDoorPx17
import Derived.Defers
namespace Go.Proofs.YtdghpccmdnnenaaGreatDoor
set_option maxRecDepth 100000
set_option maxHeartbeats 8000000
open Go.RowKit Go.Proofs.Tryz
set_option linter.unusedVariables false
set_option linter.unusedSimpArgs false
def qP2(zs:List qA1)(ps:List qC6):Int:=orC (qC3 zs) (qN3 ps)
theorem QP6{zs:List qA1}{ps:List qC6}(h:qP2 zs ps=0):qC3 zs=0/\qN3 ps=0:=by
 unfold qP2 orC at h;split at h
 .rename_i q;exact⟨q,h⟩
 .rename_i q;exact absurd h q
theorem qGR(a:Option Addr)(n cap:Nat)(zs:List qA1)(a':Option Addr)(m cap':Nat)(ps:List qC6)(w:World)(hn:n<=1048576)(hm:m<=1048576)(hcap:n<=cap)(hcm:cap<=maxLen)(h:qB9 w a n zs)(h':qC1 w a' m ps):
  CP 230 #[.slice a n cap,.slice a' m cap'] w fun e w'=>e=.returned (iv (qP2 zs ps))/\Below w.heap.size w w':=by
 have HP:Hid (∀w2:World,Below w.heap.size w w2->CP 218 #[.slice a n cap] w2 fun e w'=>e=.returned (iv (qC3 zs))/\Below w2.heap.size w2 w'):=fun w2 q=>qW5 a n cap zs w2 hn hcap hcm (h.below q)
 have HQ:Hid (∀w2:World,Below w.heap.size w w2->CP 242 #[.slice a' m cap'] w2 fun e w'=>e=.returned (iv (qN3 ps))/\Below w2.heap.size w2 w'):=fun w2 q=>qZ2 a' m cap' ps w2 (by unfold maxLen;omega) (h'.below q)
 unfold qP2;generalize qC3 zs=p at HP;generalize qN3 ps=q at HQ;clear h h';go_enter func230,ntmps230;go_wp2_with fail
 refine (HP.out _ (gC _ _)).mono ?_;rintro e w1 ⟨rfl,hb1⟩;go_wp2_with fail
 refine (HQ.out _ hb1).mono ?_;rintro e w2 ⟨rfl,hb2'⟩;have hb2:Below w.heap.size w w2:=hb1.trans (hb2'.mono hb1.size);have hb3:Below w.heap.size w (w2.alloc (.cells #[iv p,iv q] 2)):=hb2.alloc hb2.size _;go_wp2_with (first | (go_at_call 64;refine (qNr _ p q _ ?_ ?_).mono ?_;(· simp[go_sem]);(· simp[go_sem]);rintro e w' ⟨rfl,rfl⟩) | fail)
 go_ret;exact⟨rfl,hb3⟩
theorem qGP(cT:Array Value)(x:Nat)(v:Value)(hx:x<256)(hs:cT.size=256)(hc:cT[x]?=some v)(hv:v.oneCell'=true)(w:World):(Instr.index 287 (.agg cT) (iv (x:Int))).run prog w=.ok v w:=by
 have h1:(0:Int)<=(x:Int):=by omega
 have h2:(x:Int)<256:=by omega
 simp[Instr.index,run_underlying QF6,go_sem,h1,h2,hs,hc];intro h;omega
def qLp(f:Nat)(a:Option Addr)(n cap:Nat)(a':Option Addr)(m cap':Nat)(s:Int)(t:Bool)(w:World):Prop:=Calls prog f #[.slice a n cap,.slice a' m cap',iv s] w fun e w'=>e=.returned (.bool t)/\Below w.heap.size w w'
def qOT(zs:List qA1)(ps:List qC6)(gs:List GrI)(s:Int):Bool:=decide (qP2 zs ps=0)&&qR2 s&&qS6 (ofG gs) ps s.toNat
theorem qBe(a:Option Addr)(n cap:Nat)(zs:List qA1)(a':Option Addr)(m cap':Nat)(ps:List qC6)(gs:List GrI)(s:Int)(w:World)(hn:n<=1048576)(hm:m<=1048576)(hcap:n<=cap)(hcm:cap<=maxLen)(h:qB9 w a n zs)(h':qC1 w a' m ps)(hg:qC3 zs=0->QM8 zs gs):
  qLp 207 a n cap a' m cap' s (qOT zs ps gs s) w:=by
 have HM:Hid (CP 230 #[.slice a n cap,.slice a' m cap'] w fun e w'=>e=.returned (iv (qP2 zs ps))/\Below w.heap.size w w'):=qGR a n cap zs a' m cap' ps w hn hm hcap hcm h h';have HT:Hid (qP2 zs ps=0->∀w2:World,Below w.heap.size w w2->CP 231 #[.slice a n cap,.slice a' m cap'] w2 fun e w'=>e=.returned (.agg (qG9 (qS6 (ofG gs) ps)))/\Below w2.heap.size w2 w'):=fun hc w2 q=>qJU a n cap zs a' m cap' ps gs w2 (h.below q) (QP6 hc).1 (hg (QP6 hc).1) (h'.below q) (QP6 hc).2
 clear h h' hg;unfold qOT;generalize qP2 zs ps=c at HM HT;generalize qS6 (ofG gs) ps=T at HT;unfold qLp;by_cases hc:c=0
 .have hcb:(c==0)=true:=by simp[hc]
  rw[show decide (c=0)=true from jQ hc,Bool.true_and];cases hs:qR2 s
  .have hf:(if qR2 s=true then (0:Int) else 3)=3:=by simp[hs]
   rw[Bool.false_and];clear hc;go_enter func207,ntmps207;go_wp2_with fail
   refine (HM.out).mono ?_;rintro e w1 ⟨rfl,hb1⟩;go_wp2_with (first | (go_at_call 165;refine (QV0 s _).mono ?_;rintro e w2 ⟨rfl,rfl⟩;rw[hf]) | fail)
   go_ret;exact⟨rfl,hb1⟩
  .have hf:(if qR2 s=true then (0:Int) else 3)=0:=by simp[hs]
   rw[Bool.true_and];obtain⟨x,rfl⟩:∃x:Nat,s=(x:Int):=⟨s.toNat,by simp[qR2]at hs;omega⟩;have hx:x<256:=by simp[qR2]at hs;omega
   have hx':(x:Int)<256:=by omega
   rw[kS];have HT2:Hid _:=HT.out hc;have cx:=QB5 T hx;have csz:=qI7 T;generalize qG9 T=cT at HT2 cx csz;clear hc hs;go_enter func207,ntmps207;go_wp2_with fail
   refine (HM.out).mono ?_;rintro e w1 ⟨rfl,hb1⟩;go_wp2_with (first | (go_at_call 165;refine (QV0 _ _).mono ?_;rintro e w2 ⟨rfl,rfl⟩;rw[hf]) | fail)
   refine (HT2.out _ hb1).mono ?_;rintro e w3 ⟨rfl,hb3⟩;have hix:=qGP cT x _ hx csz cx rfl w3;go_wp2_with fail
   go_ret;exact⟨rfl,hb1.trans (hb3.mono hb1.size)⟩
 .have hcb:(c==0)=false:=by simp[hc]
  rw[show decide (c=0)=false from jL hc,Bool.false_and,Bool.false_and];clear hc;go_enter func207,ntmps207;go_wp2_with fail
  refine (HM.out).mono ?_;rintro e w1 ⟨rfl,hb1⟩;go_wp2_with fail
  go_ret;exact⟨rfl,hb1⟩
def alW(pss:List (List qC6))(gs:List GrI)(f s:Int):Bool:=inR f 1 (pss.length:Int)&&(qR2 s&&(match pss[(f-1).toNat]? with
 | none=>false
 | some ps=>qS6 (ofG gs) ps s.toNat))
def alB(code:Int)(pss:List (List qC6))(gs:List GrI)(f s:Int):Bool:=decide (code=0)&&alW pss gs f s
def qDx(fn:Nat)(c:qA5)(f s:Int)(t:Bool)(w:World):Prop:=Calls prog fn #[.agg #[iv c.e,iv c.f,.slice c.ra c.rn c.rc,.slice c.fa c.fn c.fc,.slice c.ca c.cn c.cc],iv f,iv s] w fun e w'=>e=.returned (.bool t)/\Below w.heap.size w w'
theorem qDt{pss:List (List qC6)}{gs:List GrI}{f s:Int}(h:inR f 1 (pss.length:Int)=false):alW pss gs f s=false:=by unfold alW;rw[h,Bool.false_and]
theorem qNM{pss:List (List qC6)}{gs:List GrI}{f s:Int}(h:qR2 s=false):alW pss gs f s=false:=by unfold alW;rw[h,Bool.false_and,Bool.and_false]
theorem qLl{pss:List (List qC6)}{gs:List GrI}{k:Nat}{s:Int}{ps:List qC6}(h:pss[k]?=some ps):alW pss gs ((k:Int)+1) s=(qR2 s&&qS6 (ofG gs) ps s.toNat):=by
 have hk:k<pss.length:=by
  by_cases q:k<pss.length
  .exact q
  .rw[gE (by omega)]at h;cases h
 unfold alW;rw[show inR ((k:Int)+1) 1 (pss.length:Int)=true by simp[inR];omega,Bool.true_and,show ((k:Int)+1-1).toNat=k by omega,h]
theorem qBd(c:qA5)(gs:List GrI)(f s:Int)(w:World)(hle:qE2 1048576 c)(hrc:c.rn<=c.rc)(hrm:c.rc<=maxLen)(h:qF4 w c)(hg:qC3 c.zs=0->QM8 c.zs gs):
  qDx 175 c f s (alB (qH6 c.e c.f c.zs (qA3 c.fs) c.cs) (qA3 c.fs) gs f s) w:=by
 obtain⟨W,hW⟩:∃W,W=w.alloc (.cells #[iv c.e,iv c.f,.slice c.ra c.rn c.rc,.slice c.fa c.fn c.fc,.slice c.ca c.cn c.cc] 92):=⟨_,rfl⟩;have B0:Below w.heap.size w W:=by rw[hW];exact zN
 have K0:Hid (qR0 W w.heap.size c):=by rw[hW];exact qR0.new w c _
 obtain⟨v,hv⟩:∃v,qH6 c.e c.f c.zs (qA3 c.fs) c.cs=v:=⟨_,rfl⟩;have HF:Hid (CP 141 #[.agg #[iv c.e,iv c.f,.slice c.ra c.rn c.rc,.slice c.fa c.fn c.fc,.slice c.ca c.cn c.cc]] W fun e w'=>e=.returned (iv v)/\Below W.heap.size W w'):=by rw[<- hv];exact qW6 c W hle hrc hrm (h.below B0)
 have H:=hJJ h;have HLE:=hJJ hle;have HZ:Hid ((qA3 c.fs).length=c.fn):=by show (qA3 c.fs).length=c.fn;rw[QC4];exact h.forms.1
 have hfn:(c.fn:Int)<=1048576:=by have:=hle.forms;omega
 rw[hv];unfold qDx;by_cases v0:v=0
 .have hz:=QJ5 (hv.trans v0);have HG:Hid (QM8 c.zs gs):=hg hz.2.2.1;have HPT:Hid (qC3 c.zs=0/\∀(k:Nat) (x:List qC6),(qA3 c.fs)[k]?=some x->qN3 x=0):=⟨hz.2.2.1,(qDV hz.2.2.2.1).2⟩;have vb:(v != 0)=false:=by simp[v0]
  have HB:Hid (alB v (qA3 c.fs) gs f s=alW (qA3 c.fs) gs f s):=by show alB _ _ _ _ _=_;unfold alB;rw[show decide (v=0)=true from jQ v0,Bool.true_and]
  rw[HB.out];clear h hle hv hg hz v0;by_cases f1:f<1
  .have HV:Hid (alW (qA3 c.fs) gs f s=false):=qDt (by simp[inR];omega);rw[HV.out];go_enter func175,ntmps175;go_wp2_with fail
   rw[<- hW];clear hW;refine HF.out.mono ?_;rintro e w1 ⟨rfl,hb1⟩;have B1:Below w.heap.size w w1:=B0.trans (hb1.mono B0.size);clear hb1 B0;go_wp2;go_ret;exact⟨rfl,B1⟩
  .by_cases f2:(c.fn:Int)<f
   .have HV:Hid (alW (qA3 c.fs) gs f s=false):=qDt (by rw[HZ.out];simp[inR];omega);rw[HV.out];go_enter func175,ntmps175;go_wp2_with fail
    rw[<- hW];clear hW;refine HF.out.mono ?_;rintro e w1 ⟨rfl,hb1⟩;have B1:Below w.heap.size w w1:=B0.trans (hb1.mono B0.size);obtain⟨d0,d1,d2,d3,d4⟩:=K0.out.below hb1;have hl1:=(K0.out.below hb1).lt;clear hb1 B0 d0 d1 d2 d4;go_wp2;go_ret;exact⟨rfl,B1⟩
   .obtain⟨k,rfl⟩:∃k:Nat,f=(k:Int)+1:=⟨(f-1).toNat,by omega⟩;have hk:k<c.fn:=by omega
    have hk':(k:Int)+1<=(c.fn:Int):=by omega
    have hk2:(k:Int)<(c.fn:Int):=by omega
    have hjw:IntKind.i64.wrap ((k:Int)+1-1)=(k:Int):=by rw[kG];omega
    have hjw2:IntKind.i64.wrap (k:Int)=(k:Int):=by rw[kG];omega
    clear f1 f2;obtain⟨b,off,x,hfa,hs,hr⟩:=H.out.forms.at hk
    have HV:Hid (alW (qA3 c.fs) gs ((k:Int)+1) s=qOT c.zs x.ps gs s):=by
     show alW _ _ _ _=_
     rw[qLl (qV8 hs)];unfold qOT;rw[show decide (qP2 c.zs x.ps=0)=true from jQ (by unfold qP2 orC;rw[gK HPT.out.1];exact HPT.out.2 k _ (qV8 hs)),Bool.true_and]
    rw[HV.out];have hxn:=HLE.out.parts k x hs;obtain⟨t,ht⟩:∃t,qOT c.zs x.ps gs s=t:=⟨_,rfl⟩;have HA:Hid (∀w2:World,Below w.heap.size w w2->CP 207 #[.slice c.ra c.rn c.rc,.slice x.a x.n x.cap,iv s] w2 fun e w'=>e=.returned (.bool t)/\Below w2.heap.size w2 w'):=fun w2 q=>by rw[<- ht];exact qBe c.ra c.rn c.rc c.zs x.a x.n x.cap x.ps gs s w2 HLE.out.rules hxn hrc hrm (H.out.rules.below q) ((hr.below q).2) (fun _=>HG.out)
    rw[ht];have HX:=hJJ hr;have HFA:=hJJ hfa;clear hs hr ht hfa;go_enter func175,ntmps175;go_wp2_with fail
    rw[<- hW];clear hW;refine HF.out.mono ?_;rintro e w1 ⟨rfl,hb1⟩;have B1:Below w.heap.size w w1:=B0.trans (hb1.mono B0.size);obtain⟨d0,d1,d2,d3,d4⟩:=K0.out.below hb1;have hl1:=(K0.out.below hb1).lt;have hx1:=(HX.out.below B1).1;have hbl:b<w1.heap.size:=(HX.out.below B1).lt;rw[HFA.out]at d3;clear hb1 B0 d0 d1 d4;go_wp2;have HA1:Hid (∀w':World,((∀b o,b<w1.heap.size->w'.cell? ⟨b,o,none⟩=w1.cell? ⟨b,o,none⟩)/\Below w1.heap.size w1 w')->CP 207 #[.slice c.ra c.rn c.rc,.slice x.a x.n x.cap,iv s] w' fun e w''=>e=.returned (.bool t)/\Below w'.heap.size w' w''):=fun w' q=>HA.out w' (B1.trans (q.2.mono B1.size))
    go_region_held3 (fun w'=>(∀b o,b<w1.heap.size->w'.cell? ⟨b,o,none⟩=w1.cell? ⟨b,o,none⟩)/\Below w1.heap.size w1 w') (first | exact hS | exact qA8 _)
     (first | (go_at_call 207;refine (HA1.out _ (by assumption)).mono ?_;rintro e w' ⟨rfl,hb2⟩;have hS:=qA0 (by assumption) hb2))
    go_wp2;go_ret;exact⟨rfl,B1.trans (hS.2.mono B1.size)⟩
 .have vb:(v != 0)=true:=by simp[v0]
  have HB:Hid (alB v (qA3 c.fs) gs f s=false):=by show alB _ _ _ _ _=_;unfold alB;rw[show decide (v=0)=false from jL v0,Bool.false_and]
  rw[HB.out];clear h hle hv hg v0;go_enter func175,ntmps175;go_wp2_with fail
  rw[<- hW];clear hW;refine HF.out.mono ?_;rintro e w1 ⟨rfl,hb1⟩;have B1:Below w.heap.size w w1:=B0.trans (hb1.mono B0.size);clear hb1 B0;go_wp2;go_ret;exact⟨rfl,B1⟩
theorem qLZ{W w:World}(h:KR W w){p:Addr}(hp:W.heap.size<=p.block)(v:Value):KR W (w.setCell p v) :=
 ⟨fun b o hl=>(h.2.setCell hp v).cell (p:=⟨b,o,none⟩) hl,h.2.setCell hp v⟩
def qLn(b:Nat)(code:Int)(L:List LkI)(w:World)(d:Ending)(w':World):Prop:=∃(w1:World) (la:Option Addr) (lc:Nat),d=.returned (iv code)/\qB2 w1 w.heap.size (.slice la L.length lc) L/\Below w.heap.size w w1/\w'=w1.setCell ⟨b,2,none⟩ (.slice la L.length lc)
theorem qDK(B b:Nat)(cv:Value)(sa:Option Addr)(n sc:Nat)(said:List StI)(la:Option Addr)(lc:Nat)(ls:List LkI)(c:qA5)(gs:List GrI)(x:StI)(w:World)(hs:QB7 w b cv (.slice sa n sc) (.slice la ls.length lc))(h:qL2 w sa n said)(hn:n<=1048576)(hl:qB2 w B (.slice la ls.length lc) ls)(hle:qE2 1048576 c)(hrc:c.rn<=c.rc)(hrm:c.rc<=maxLen)(hc:qF4 w c)(hc0:qV5 c=0)(hg:QM8 c.zs gs)(hE:qM4 0 w)(hH:qD9 w):
    CP 261 #[.pointer (some ⟨b,0,none⟩),.agg #[iv c.e,iv c.f,.slice c.ra c.rn c.rc,.slice c.fa c.fn c.fc,.slice c.ca c.cn c.cc],.agg #[iv x.k,iv x.e,iv x.f,iv x.s,iv x.n]] w fun d w' =>
      ((qV1 said x.e || qC4 said (qT6 x))=true->d=.returned (iv 9)/\Below w.heap.size w w')
      /\ ((qV1 said x.e || qC4 said (qT6 x))=false->alW (qA3 c.fs) gs x.f x.s=false->d=.returned (iv 8)/\Below w.heap.size w w')
      /\ ((qV1 said x.e || qC4 said (qT6 x))=false->alW (qA3 c.fs) gs x.f x.s=true->qLn b (qE3 ls c.cs x.e x.f x.s) (qL4 ls c.cs x.e x.f x.s) w d w'):=by
  obtain⟨V,hV⟩:∃V,V=(w.alloc (.cells #[iv c.e,iv c.f,.slice c.ra c.rn c.rc,.slice c.fa c.fn c.fc,.slice c.ca c.cn c.cc] 92)).alloc (.cells #[iv x.k,iv x.e,iv x.f,iv x.s,iv x.n] 50):=⟨_,rfl⟩;have B1:Below w.heap.size w (w.alloc (.cells #[iv c.e,iv c.f,.slice c.ra c.rn c.rc,.slice c.fa c.fn c.fc,.slice c.ca c.cn c.cc] 92)):=zN;have B0:Below w.heap.size w V:=by rw[hV];exact B1.alloc B1.size _
  have hz:V.heap.size=w.heap.size+2:=by rw[hV];simp
  have hz0:w.heap.size<V.heap.size:=by omega
  have hz1:w.heap.size+1<V.heap.size:=by omega
  have HZ:=hJJ hz;clear hz
  have HX:qM9 V (w.heap.size+1) 0 x:=by
    have:=qM9.new (w.alloc (.cells #[iv c.e,iv c.f,.slice c.ra c.rn c.rc,.slice c.fa c.fn c.fc,.slice c.ca c.cn c.cc] 92)) x 50;rw[hV];simpa using this
  have KC:(V.cell? ⟨w.heap.size,0,none⟩=some (iv c.e)/\V.cell? ⟨w.heap.size,1,none⟩=some (iv c.f)/\V.cell? ⟨w.heap.size,2,none⟩=some (.slice c.ra c.rn c.rc)/\V.cell? ⟨w.heap.size,3,none⟩=some (.slice c.fa c.fn c.fc)/\V.cell? ⟨w.heap.size,4,none⟩=some (.slice c.ca c.cn c.cc)):=by rw[hV];exact⟨by simp,by simp,by simp,by simp,by simp⟩
  have hS0:=hs.below B0;have hbl:=hS0.lt;have hbw:=hs.lt;have c1':=hS0.c1;have c2':=hS0.c2;have cf:=hS0.fz 2;have HIS:Hid (∀w2,KR V w2->CP 277 #[.slice sa n sc,iv x.e] w2 fun d w'=>d=.returned (.bool (qV1 said x.e))/\Below w2.heap.size w2 w'):=fun w2 q=>qGL sa n sc said x.e w2 hn ((h.below B0).below q.2)
  have HHR:Hid (∀w2,KR V w2->CP 278 #[.pointer (some ⟨b,0,none⟩),.agg #[iv x.k,iv x.e,iv x.f,iv x.s,iv x.n]] w2 fun d w'=>d=.returned (.bool (qC4 said (qT6 x)))/\Below w2.heap.size w2 w'):=fun w2 q=>qBg b cv _ sa n sc said x w2 (hS0.below q.2) hn ((h.below B0).below q.2)
  have HAL:Hid (∀w2,KR V w2->qDx 175 c x.f x.s (alW (qA3 c.fs) gs x.f x.s) w2):=fun w2 q=>by
    have:=qBd c gs x.f x.s w2 hle hrc hrm ((hc.below B0).below q.2) (fun _=>hg)
    have e0:alB (qH6 c.e c.f c.zs (qA3 c.fs) c.cs) (qA3 c.fs) gs x.f x.s=alW (qA3 c.fs) gs x.f x.s:=by
      unfold alB;rw[show decide (qH6 c.e c.f c.zs (qA3 c.fs) c.cs=0)=true from jQ hc0,Bool.true_and]
    rw[e0]at this;exact this
  have HTK:Hid (∀w2,KR V w2->qH7 279 #[.slice la ls.length lc,.slice c.ca c.cn c.cc,iv x.e,iv x.f,iv x.s] (qE3 ls c.cs x.e x.f x.s) (qL4 ls c.cs x.e x.f x.s) w2):=fun w2 q=>qBZ B la lc c.ca c.cn c.cc ls c.cs x.e x.f x.s w2 ((hl.below B0).below q.2) ((hc.below B0).below q.2).classes ((hE.below B0).below q.2) ((hH.below B0).below q.2)
  have HB0:=hJJ B0;obtain⟨x0,x1,x2,x3,x4⟩:=HX;simp only[gG]at x0 x1 x2 x3 x4;obtain⟨k0,k1,k2,k3,k4⟩:=KC;generalize qV1 said x.e=v1 at *
  generalize qC4 said (qT6 x)=v2 at *
  generalize alW (qA3 c.fs) gs x.f x.s=v3 at *
  generalize qE3 ls c.cs x.e x.f x.s=tc at *
  generalize qL4 ls c.cs x.e x.f x.s=tl at *
  clear hs h hl hle hrc hrm hc hc0 hg hE hH B0 B1 hS0;go_enter func261,ntmps261;go_upto_region 1 with fail
  rw[<- hV];clear hV;cases v1
  . cases v2
    . go_region_held3 (fun w'=>KR V w') (first | exact hS | exact qA8 _)
        (first | (go_at_call 277;refine (HIS.out _ (by assumption)).mono ?_;rintro d w' ⟨rfl,hb2⟩;have hS:=qA0 (by assumption) hb2)
               | (go_at_call 278;refine (HHR.out _ (by assumption)).mono ?_;rintro d w' ⟨rfl,hb2⟩;have hS:=qA0 (by assumption) hb2))
      have hzS:=hS.2.size;cases v3
      . go_wp2_with fail
        refine (HAL.out _ hS).mono ?_;rintro d w3 ⟨rfl,hb3⟩;have hS3:=qA0 hS hb3;go_wp2_with fail
        go_ret;exact⟨rfl,HB0.out.trans (hS3.2.mono HB0.out.size)⟩
      . go_wp2_with fail
        refine (HAL.out _ hS).mono ?_;rintro d w3 ⟨rfl,hb3⟩;have hS3:=qA0 hS hb3;clear hS hb3;go_upto_region 5 with fail
        -- by hand 5
        refine gL (S:=fun w'=>KR V w') (by kernel_rfl) (qA0 hS3 (gC _ _).drew) (fun hHeld=>?_);refine Zk.go [0,1,2,3,4,5,6,7,8,9,10,11] ?_
        iterate 12
          refine Zk.st (v:=?_) rfl ?_ ?_;rotate_left 1
          . intro w hSw;(try dsimp only at hSw);go_simp;try (with_reducible rfl)
          try simp only[Act.put,zA,zB,zC,zD,zE,zF]
        refine Zk.fin ?_;refine wpAnyH_ready (rs:=[12,13]) (by kernel_rfl) (by simp) ?_;refine kC rfl (fun K hK=>?_) (kC rfl (fun K hK=>?_) mB)
        . go_simp;refine (HTK.out _ (by assumption)).mono ?_;rintro d w4 ⟨la4,lc4,rfl,how4,hb4⟩;have hS:=qA0 (by assumption) hb4;have hS4:=hS;have hz4:=hb4.size;have hb4':=hb4.size;refine hK.out _ _ hS (fun hHeld=>?_);clear hK K;try simp only[Act.put,zA,zB,zC,zD,zE,zF]
          refine Zk.rd (i:=13) rfl (fun K hK=>?_);go_simp;have hS:=qIW (by assumption) (.cells #[iv 0,.slice none 0 0] 272);refine hK.out _ _ hS (fun hHeld=>?_);clear hK K;try simp only[Act.put,zA,zB,zC,zD,zE,zF]
          refine Zk.rd (i:=14) rfl (fun K hK=>?_);go_simp;have hS:=qIW hS4 (.cells #[iv tc,.slice la4 tl.length lc4] 272);refine hK.out _ _ hS (fun hHeld=>?_);clear hK K;try simp only[Act.put,zA,zB,zC,zD,zE,zF]
          refine gZ (by kernel_rfl) ?_ _;have hV3:=hS3.2.size;have hne:b≠w4.heap.size:=by have:=hS4.2.size;omega
          have hne':w4.heap.size≠b:=Ne.symm hne;have y0:(w4.alloc (.cells #[iv tc,.slice la4 tl.length lc4] 272)).cell? ⟨w4.heap.size,0,none⟩=some (iv tc):=by simp
          have y1:(w4.alloc (.cells #[iv tc,.slice la4 tl.length lc4] 272)).cell? ⟨w4.heap.size,1,none⟩=some (.slice la4 tl.length lc4):=by simp
          have yo:qB2 (w4.alloc (.cells #[iv tc,.slice la4 tl.length lc4] 272)) w.heap.size (.slice la4 tl.length lc4) tl:=qB0 (how4.alloc _) (by show w.heap.size<=w3.heap.size;omega);have yl:w4.heap.size<(w4.alloc (.cells #[iv tc,.slice la4 tl.length lc4] 272)).heap.size:=by simp
          have ybl:b<(w4.alloc (.cells #[iv tc,.slice la4 tl.length lc4] 272)).heap.size:=by have:=hS4.2.size;simp;omega
          clear hb4' how4 hb4;generalize w4.alloc (.cells #[iv tc,.slice la4 tl.length lc4] 272)=Y at *
          have yf:Y.frozen? ⟨b,2,none⟩=false:=(hS.2.frozen (p:=⟨b,2,none⟩) hbl).trans cf;have yc:Y.cell? ⟨b,2,none⟩=some (.slice la ls.length lc):=(hS.1 b 2 hbl).trans c2';have HY:Hid (qB2 Y w.heap.size (.slice la4 tl.length lc4) tl/\Below w.heap.size w Y):=⟨yo,HB0.out.trans (hS.2.mono HB0.out.size)⟩;clear yo;go_wp2_with fail
          go_ret;exact⟨_,la4,lc4,rfl,HY.out.1,HY.out.2,rfl⟩
        . go_simp;have hS:=qIW (by assumption) (.cells #[iv 0,.slice none 0 0] 272);refine hK.out _ _ hS (fun hHeld=>?_);clear hK K;try simp only[Act.put,zA,zB,zC,zD,zE,zF]
          refine Zk.rd (i:=12) rfl (fun K hK=>?_);go_simp;refine (HTK.out _ (by assumption)).mono ?_;rintro d w4 ⟨la4,lc4,rfl,how4,hb4⟩;have hS:=qA0 (by assumption) hb4;have hS4:=hS;have hz4:=hb4.size;have hb4':=hb4.size;have n0:w4.cell? ⟨w3.heap.size,0,none⟩=some (iv 0):=(hb4.cell (p:=⟨w3.heap.size,0,none⟩) (by simp)).trans (by simp);have n1:w4.cell? ⟨w3.heap.size,1,none⟩=some (.slice none 0 0):=(hb4.cell (p:=⟨w3.heap.size,1,none⟩) (by simp)).trans (by simp);have f0:w4.frozen? ⟨w3.heap.size,0,none⟩=false:=(hb4.frozen (p:=⟨w3.heap.size,0,none⟩) (by simp)).trans (by simp[go_sem]);have f1:w4.frozen? ⟨w3.heap.size,1,none⟩=false:=(hb4.frozen (p:=⟨w3.heap.size,1,none⟩) (by simp)).trans (by simp[go_sem]);have hlw:w3.heap.size<w4.heap.size:=by simp at hb4';omega
          refine hK.out _ _ hS (fun hHeld=>?_);clear hK K;try simp only[Act.put,zA,zB,zC,zD,zE,zF]
          refine Zk.rd (i:=14) rfl (fun K hK=>?_);go_simp;have hS:=qLZ (qLZ hS4 (p:=⟨w3.heap.size,0,none⟩) hS3.2.size (iv tc)) (p:=⟨w3.heap.size,1,none⟩) hS3.2.size (.slice la4 tl.length lc4);refine hK.out _ _ hS (fun hHeld=>?_);clear hK K;try simp only[Act.put,zA,zB,zC,zD,zE,zF]
          refine gZ (by kernel_rfl) ?_ _;have hV3:=hS3.2.size;have hne:b≠w3.heap.size:=by have:=hS4.2.size;omega
          have hne':w3.heap.size≠b:=Ne.symm hne;have y0:((w4.setCell ⟨w3.heap.size,0,none⟩ (iv tc)).setCell ⟨w3.heap.size,1,none⟩ (.slice la4 tl.length lc4)).cell? ⟨w3.heap.size,0,none⟩=some (iv tc):=by simp[go_sem,n0,n1,hlw]
          have y1:((w4.setCell ⟨w3.heap.size,0,none⟩ (iv tc)).setCell ⟨w3.heap.size,1,none⟩ (.slice la4 tl.length lc4)).cell? ⟨w3.heap.size,1,none⟩=some (.slice la4 tl.length lc4):=by simp[go_sem,n0,n1,hlw]
          have yo:qB2 ((w4.setCell ⟨w3.heap.size,0,none⟩ (iv tc)).setCell ⟨w3.heap.size,1,none⟩ (.slice la4 tl.length lc4)) w.heap.size (.slice la4 tl.length lc4) tl:=qB0 (ownsRow_setCell_below (ownsRow_setCell_below how4 (a:=⟨w3.heap.size,0,none⟩) (by simp) _) (a:=⟨w3.heap.size,1,none⟩) (by simp) _) (by simp;omega);have yl:w3.heap.size<((w4.setCell ⟨w3.heap.size,0,none⟩ (iv tc)).setCell ⟨w3.heap.size,1,none⟩ (.slice la4 tl.length lc4)).heap.size:=by simp[hlw]
          have ybl:b<((w4.setCell ⟨w3.heap.size,0,none⟩ (iv tc)).setCell ⟨w3.heap.size,1,none⟩ (.slice la4 tl.length lc4)).heap.size:=by have:=hS4.2.size;simp;omega
          clear n0 n1 f0 f1 hlw hb4' how4 hb4;generalize (w4.setCell ⟨w3.heap.size,0,none⟩ (iv tc)).setCell ⟨w3.heap.size,1,none⟩ (.slice la4 tl.length lc4)=Y at *
          have yf:Y.frozen? ⟨b,2,none⟩=false:=(hS.2.frozen (p:=⟨b,2,none⟩) hbl).trans cf;have yc:Y.cell? ⟨b,2,none⟩=some (.slice la ls.length lc):=(hS.1 b 2 hbl).trans c2';have HY:Hid (qB2 Y w.heap.size (.slice la4 tl.length lc4) tl/\Below w.heap.size w Y):=⟨yo,HB0.out.trans (hS.2.mono HB0.out.size)⟩;clear yo;go_wp2_with fail
          go_ret;exact⟨_,la4,lc4,rfl,HY.out.1,HY.out.2,rfl⟩
        -- end 5
    . go_region_held3 (fun w'=>KR V w') (first | exact hS | exact qA8 _)
        (first | (go_at_call 277;refine (HIS.out _ (by assumption)).mono ?_;rintro d w' ⟨rfl,hb2⟩;have hS:=qA0 (by assumption) hb2)
               | (go_at_call 278;refine (HHR.out _ (by assumption)).mono ?_;rintro d w' ⟨rfl,hb2⟩;have hS:=qA0 (by assumption) hb2))
      go_wp2;go_ret;exact And.intro (fun _=>⟨rfl,HB0.out.trans (hS.2.mono HB0.out.size)⟩) (And.intro (fun q=>Bool.noConfusion q) (fun q=>Bool.noConfusion q))
  . skip
    -- by hand 1
    refine gL (S:=fun w'=>KR V w') (by kernel_rfl) (qA8 _) (fun hHeld=>?_);refine Zk.go [0,1,2,3,4,5] ?_
    iterate 6
      refine Zk.st (v:=?_) rfl ?_ ?_;rotate_left 1
      . intro w hSw;(try dsimp only at hSw);go_simp;try (with_reducible rfl)
      try simp only[Act.put,zA,zB,zC,zD,zE,zF]
    refine Zk.fin ?_;refine Zk.rd (i:=6) rfl (fun K hK=>?_);go_simp;refine (HIS.out _ (by assumption)).mono ?_;rintro d w' ⟨rfl,hb2⟩;have hS:=qA0 (by assumption) hb2;refine hK.out _ _ hS (fun hHeld=>?_);clear hK K;try simp only[Act.put,zA,zB,zC,zD,zE,zF]
    refine Zk.go [7,8,9,10,11] ?_;refine Zk.st (v:=?_) rfl ?_ ?_;rotate_left 1
    . intro w hSw;(try dsimp only at hSw);go_simp;try (with_reducible rfl)
    try simp only[Act.put,zA,zB,zC,zD,zE,zF]
    iterate 3 (refine Zk.un rfl ?_;try simp only[Act.put,zA,zB,zC,zD,zE,zF])
    refine Zk.st (v:=?_) rfl ?_ ?_;rotate_left 1
    . intro w hSw;(try dsimp only at hSw);go_simp;try (with_reducible rfl)
    try simp only[Act.put,zA,zB,zC,zD,zE,zF]
    refine Zk.fin ?_;refine gZ (by kernel_rfl) ?_ _;-- end 1
    go_wp2;go_ret;exact And.intro (fun _=>⟨rfl,HB0.out.trans (hS.2.mono HB0.out.size)⟩) (And.intro (fun q=>Bool.noConfusion q) (fun q=>Bool.noConfusion q))
theorem qFi(bc bb bs bx b:Nat)(c:Int)(cv sv lv:Value)(ba:Option Addr)(bn bcap:Nat)(u:FrameMode)(w:World)(hc:w.cell? ⟨bc,0,none⟩=some (iv c))(hc0:c≠0)(hb:w.cell? ⟨bb,0,none⟩=some (.slice ba bn bcap))(hsb:w.cell? ⟨bs,0,none⟩=some (.pointer (some ⟨b,0,none⟩)))(hs:QB7 w b cv sv lv):
  CallsD prog 259 #[.pointer (some ⟨bc,0,none⟩),.pointer (some ⟨bb,0,none⟩),.pointer (some ⟨bs,0,none⟩),.pointer (some ⟨bx,0,none⟩)] u w fun d u' w'=>u'=u/\d=.returned (.tuple #[])/\w'=w.setCell ⟨b,2,none⟩ (.slice ba bn bcap):=by
 have cb:(c != 0)=true:=by simp[hc0]
 have c2:=hs.c2;have f2:=hs.fz 2;have l0:=zL w _ hc;have l1:=zL w _ hb;have l2:=zL w _ hsb;have l3:=hs.lt;clear hs hc0;refine callsD_of_wp func259 rfl ?_;simp[ntmps259,Array.replicate];go_wp2_with fail
 first | go_end0 | go_returns | go_ret
 exact⟨rfl,rfl⟩
structure PO (bs bx b:Nat) (x:StI) (cv lv:Value) (w:World):Prop where
 s:w.cell? ⟨bs,0,none⟩=some (.pointer (some ⟨b,0,none⟩))
 x0:w.cell? ⟨bx,0,none⟩=some (.int .i64 x.k)
 x1:w.cell? ⟨bx,1,none⟩=some (.int .i64 x.e)
 x2:w.cell? ⟨bx,2,none⟩=some (.int .i64 x.f)
 x3:w.cell? ⟨bx,3,none⟩=some (.int .i64 x.s)
 x4:w.cell? ⟨bx,4,none⟩=some (.int .i64 x.n)
 c0:w.cell? ⟨b,0,none⟩=some cv
 c1:∃sv,w.cell? ⟨b,1,none⟩=some sv
 c2:w.cell? ⟨b,2,none⟩=some lv
 fz:∀j,w.frozen? ⟨b,j,none⟩=false
 ns:bs≠b
 nx:bx≠b
theorem PO.lt{bs bx b:Nat}{x:StI}{cv lv:Value}{w:World}(h:PO bs bx b x cv lv w):b<w.heap.size:=zL w ⟨b,0,none⟩ h.c0
theorem PO.same{bs bx b:Nat}{x:StI}{cv lv:Value}{w w':World}(h:PO bs bx b x cv lv w)(k0:w'.heap[b]?=w.heap[b]?)(k1:w'.heap[bs]?=w.heap[bs]?)(k2:w'.heap[bx]?=w.heap[bx]?):PO bs bx b x cv lv w':=by
 have q0:∀o,w'.cell? ⟨b,o,none⟩=w.cell? ⟨b,o,none⟩:=fun o=>jO k0
 have q1:∀o,w'.cell? ⟨bs,o,none⟩=w.cell? ⟨bs,o,none⟩:=fun o=>jO k1
 have q2:∀o,w'.cell? ⟨bx,o,none⟩=w.cell? ⟨bx,o,none⟩:=fun o=>jO k2
 obtain⟨sv,h1⟩:=h.c1;exact⟨(q1 0).trans h.s,(q2 0).trans h.x0,(q2 1).trans h.x1,(q2 2).trans h.x2,(q2 3).trans h.x3,(q2 4).trans h.x4,(q0 0).trans h.c0,⟨sv,(q0 1).trans h1⟩,(q0 2).trans h.c2,fun j=>(World.frozen?_of_block (a:=⟨b,j,none⟩) k0).trans (h.fz j),h.ns,h.nx⟩
theorem PO.below{bs bx b:Nat}{x:StI}{cv lv:Value}{w w':World}(h:PO bs bx b x cv lv w)(hb:Below w.heap.size w w'):PO bs bx b x cv lv w' :=
 h.same (hb.block b h.lt) (hb.block bs (zL w _ h.s)) (hb.block bx (zL w _ h.x0))
theorem PO.grown{bs bx b:Nat}{x:StI}{cv lv:Value}{w w':World}{row:Option Nat}(h:PO bs bx b x cv lv w)(hg:w.grownBy w' row)(h0:some b≠row)(h1:some bs≠row)(h2:some bx≠row):PO bs bx b x cv lv w' :=
 h.same (hg.block b h.lt h0) (hg.block bs (zL w _ h.s) h1) (hg.block bx (zL w _ h.x0) h2)
theorem PO.put{bs bx b:Nat}{x:StI}{cv lv:Value}{w:World}(h:PO bs bx b x cv lv w)(v:Value):PO bs bx b x cv lv (w.setCell ⟨b,1,none⟩ v):=by
 obtain⟨sv,h1⟩:=h.c1;have n1:=h.ns;have n2:=h.nx;exact⟨by simp[go_sem,h.s,n1,n1.symm],by simp[go_sem,h.x0,n2,n2.symm],by simp[go_sem,h.x1,n2,n2.symm],by simp[go_sem,h.x2,n2,n2.symm],by simp[go_sem,h.x3,n2,n2.symm],by simp[go_sem,h.x4,n2,n2.symm],by simp[go_sem,h.c0],⟨v,by simp[go_sem,h1]⟩,by simp[go_sem,h.c2],fun j=>by simp[h.fz],n1,n2⟩
theorem qHd(B bc bb bs bx b:Nat)(x:StI)(cv lv:Value)(sa:Option Addr)(n sc:Nat)(said:List StI)(u:FrameMode)(w:World)(hc:w.cell? ⟨bc,0,none⟩=some (iv 0))(h:PO bs bx b x cv lv w)(hsv:w.cell? ⟨b,1,none⟩=some (.slice sa n sc))(hz:said.length=n)(hn:n<=1000)(ho:qF0 w B (.slice sa n sc) said)(hB:B<=w.heap.size)(hnb:∀q,some q=(Value.slice sa n sc).ownBlock->q=b\/q=bs\/q=bx->False):
  CallsD prog 259 #[.pointer (some ⟨bc,0,none⟩),.pointer (some ⟨bb,0,none⟩),.pointer (some ⟨bs,0,none⟩),.pointer (some ⟨bx,0,none⟩)] u w fun d u' w'=>u'=u/\d=.returned (.tuple #[])/\∃w1 g c,qF0 w1 B (.slice (some ⟨g,0,none⟩) (n+1) c) (said++[x])/\(w.alloc (.cells #[iv x.k,iv x.e,iv x.f,iv x.s,iv x.n] 50)).drew.grownBy w1 (Value.slice sa n sc).ownBlock/\w'=w1.setCell ⟨b,1,none⟩ (.slice (some ⟨g,0,none⟩) (n+1) c):=by
 obtain⟨i0,hi,hz0,hz1,hz2⟩:=jT Tryz.info50;have H0:=h;have HO:Hid (w.ownsRow B 50 5 (.slice sa n sc) n (qD4 said)):=by have h':=ho;unfold qF0 at h';rw[hz]at h';exact h'
 have HZ:=hJJ hz;have l0:=zL w _ hc;have l1:=zL w _ h.s;have l2:=zL w _ h.x0;have l3:=h.lt;clear ho h;refine callsD_of_wp func259 rfl ?_;simp[ntmps259,Array.replicate];go_upto_region 2 with fail
 refine gL (S:=fun w'=>PO bs bx b x cv lv w') (by kernel_rfl) (PO.below H0 (gC _ _).drew) (fun hHeld=>?_);refine Zk.go [0,1,2,3,5] ?_
 iterate 5
  refine Zk.st (v:=?_) rfl ?_ ?_;rotate_left 1
  .intro w hSw;have p0:=hSw.s;have p2:=hSw.x0;have p3:=hSw.x1;have p4:=hSw.x2;have p5:=hSw.x3;have p6:=hSw.x4;clear hSw;go_simp;try (with_reducible rfl)
  try simp only[Act.put,zA,zB,zC,zD,zE,zF]
 refine Zk.fin ?_;refine wpAnyH_ready (rs:=[4,6]) (by kernel_rfl) (by simp) ?_;refine kC rfl (fun K hK=>?_) (kC rfl (fun K hK=>?_) mB)
 .go_simp;have hS:=hHeld;refine hK.out _ _ hS (fun hHeld=>?_);clear hK K;try simp only[Act.put,zA,zB,zC,zD,zE,zF]
  refine Zk.rd (i:=6) rfl (fun K hK=>?_);go_simp;have hS:PO bs bx b x cv lv (w.alloc (.cells #[iv x.k,iv x.e,iv x.f,iv x.s,iv x.n] 50)).drew:=(PO.below H0 (zN)).below (gC _ _).drew;refine hK.out _ _ hS (fun hHeld=>?_);clear hK K;try simp only[Act.put,zA,zB,zC,zD,zE,zF]
  refine wpAnyH_ready (rs:=[7]) (by kernel_rfl) (by simp) ?_;refine kC rfl (fun K hK=>?_) mB;refine qL8 rfl (.tmp 14) (.tmp 16) 38 rfl B 50 i0 (.agg #[iv 0,iv 0,iv 0,iv 0,iv 0]) 5 40 underlying38 hi hz0 hz1 hz2 rfl (by decide) (.slice sa n sc) n (qD4 said) (by rfl) (World.ownsRow.drew (HO.out.alloc _)) ⟨w.heap.size,0,none⟩ 1 1 [iv x.k,iv x.e,iv x.f,iv x.s,iv x.n] (by rfl) (by rfl) (fun j u hj=>by match j,hj with | 0,hj=>simp at hj;subst hj;simp[Addr.add] | 1,hj=>simp at hj;subst hj;simp[Addr.add] | 2,hj=>simp at hj;subst hj;simp[Addr.add] | 3,hj=>simp at hj;subst hj;simp[Addr.add] | 4,hj=>simp at hj;subst hj;simp[Addr.add] | j+5,hj=>simp at hj) (qO5 [x]) (by unfold maxLen;omega) (by omega) (by show B<=(w.alloc _).heap.size;simp;omega) ?_;intro v7 w7 hown7 hgrow7 hnil7;have hS:PO bs bx b x cv lv w7:=PO.grown hHeld hgrow7 (fun e=>hnb b e (.inl rfl)) (fun e=>hnb bs e (.inr (.inl rfl))) (fun e=>hnb bx e (.inr (.inr rfl)));have H7:Hid (qF0 w7 B v7 (said++[x])):=QV9 (by rw[HZ.out];exact hown7);have G7:=hJJ hgrow7;have N7:v7≠.slice none 0 0:=fun e=>by have:=(hnil7.1 e).2;simp at this
  obtain⟨g7,c7,hv7⟩:=H7.out.shape N7;rw[jD,HZ.out,show n + [x].length=n+1 from rfl]at hv7;subst hv7;clear N7;have hS7:=hS;obtain⟨sv7,b7⟩:=hS.c1;have f7:=hS.fz 1;have l7:=hS.lt;clear hown7 hnil7 hgrow7;refine hK.out _ _ hS (fun hHeld=>?_);clear hK K;try simp only[Act.put,zA,zB,zC,zD,zE,zF]
  refine Zk.go [8,9] ?_
  iterate 2
   refine Zk.st (v:=?_) rfl ?_ ?_;rotate_left 1
   .intro w hSw;have p0:=hSw.s;have p2:=hSw.x0;have p3:=hSw.x1;have p4:=hSw.x2;have p5:=hSw.x3;have p6:=hSw.x4;clear hSw;go_simp;try (with_reducible rfl)
   try simp only[Act.put,zA,zB,zC,zD,zE,zF]
  refine Zk.fin ?_;refine Zk.rd (i:=10) rfl (fun K hK=>?_);go_simp;have hS:=hS7.put (.slice (some ⟨g7,0,none⟩) (n+1) c7);refine hK.out _ _ hS (fun hHeld=>?_);clear hK K;try simp only[Act.put,zA,zB,zC,zD,zE,zF]
  refine gZ (by kernel_rfl) ?_ _;go_wp2_with fail
  first | go_end0 | go_returns | go_ret
  exact⟨rfl,w7,g7,c7,H7.out,G7.out,rfl⟩
 .go_simp;have hS:PO bs bx b x cv lv (w.alloc (.cells #[iv x.k,iv x.e,iv x.f,iv x.s,iv x.n] 50)).drew:=(PO.below H0 (zN)).below (gC _ _).drew;refine hK.out _ _ hS (fun hHeld=>?_);clear hK K;try simp only[Act.put,zA,zB,zC,zD,zE,zF]
  refine Zk.rd (i:=4) rfl (fun K hK=>?_);go_simp;have hS:=hHeld;refine hK.out _ _ hS (fun hHeld=>?_);clear hK K;try simp only[Act.put,zA,zB,zC,zD,zE,zF]
  refine wpAnyH_ready (rs:=[7]) (by kernel_rfl) (by simp) ?_;refine kC rfl (fun K hK=>?_) mB;refine qL8 rfl (.tmp 14) (.tmp 16) 38 rfl B 50 i0 (.agg #[iv 0,iv 0,iv 0,iv 0,iv 0]) 5 40 underlying38 hi hz0 hz1 hz2 rfl (by decide) (.slice sa n sc) n (qD4 said) (by rfl) (World.ownsRow.drew (HO.out.alloc _)) ⟨w.heap.size,0,none⟩ 1 1 [iv x.k,iv x.e,iv x.f,iv x.s,iv x.n] (by rfl) (by rfl) (fun j u hj=>by match j,hj with | 0,hj=>simp at hj;subst hj;simp[Addr.add] | 1,hj=>simp at hj;subst hj;simp[Addr.add] | 2,hj=>simp at hj;subst hj;simp[Addr.add] | 3,hj=>simp at hj;subst hj;simp[Addr.add] | 4,hj=>simp at hj;subst hj;simp[Addr.add] | j+5,hj=>simp at hj) (qO5 [x]) (by unfold maxLen;omega) (by omega) (by show B<=(w.alloc _).heap.size;simp;omega) ?_;intro v7 w7 hown7 hgrow7 hnil7;have hS:PO bs bx b x cv lv w7:=PO.grown hHeld hgrow7 (fun e=>hnb b e (.inl rfl)) (fun e=>hnb bs e (.inr (.inl rfl))) (fun e=>hnb bx e (.inr (.inr rfl)));have H7:Hid (qF0 w7 B v7 (said++[x])):=QV9 (by rw[HZ.out];exact hown7);have G7:=hJJ hgrow7;have N7:v7≠.slice none 0 0:=fun e=>by have:=(hnil7.1 e).2;simp at this
  obtain⟨g7,c7,hv7⟩:=H7.out.shape N7;rw[jD,HZ.out,show n + [x].length=n+1 from rfl]at hv7;subst hv7;clear N7;have hS7:=hS;obtain⟨sv7,b7⟩:=hS.c1;have f7:=hS.fz 1;have l7:=hS.lt;clear hown7 hnil7 hgrow7;refine hK.out _ _ hS (fun hHeld=>?_);clear hK K;try simp only[Act.put,zA,zB,zC,zD,zE,zF]
  refine Zk.go [8,9] ?_
  iterate 2
   refine Zk.st (v:=?_) rfl ?_ ?_;rotate_left 1
   .intro w hSw;have p0:=hSw.s;have p2:=hSw.x0;have p3:=hSw.x1;have p4:=hSw.x2;have p5:=hSw.x3;have p6:=hSw.x4;clear hSw;go_simp;try (with_reducible rfl)
   try simp only[Act.put,zA,zB,zC,zD,zE,zF]
  refine Zk.fin ?_;refine Zk.rd (i:=10) rfl (fun K hK=>?_);go_simp;have hS:=hS7.put (.slice (some ⟨g7,0,none⟩) (n+1) c7);refine hK.out _ _ hS (fun hHeld=>?_);clear hK K;try simp only[Act.put,zA,zB,zC,zD,zE,zF]
  refine gZ (by kernel_rfl) ?_ _;go_wp2_with fail
  first | go_end0 | go_returns | go_ret
  exact⟨rfl,w7,g7,c7,H7.out,G7.out,rfl⟩
structure qN1 (n b:Nat) (x:StI) (c:Int) (w:World):Prop where
 s:w.cell? ⟨n,0,none⟩=some (.pointer (some ⟨b,0,none⟩))
 x0:w.cell? ⟨n+1,0,none⟩=some (.int .i64 x.k)
 x1:w.cell? ⟨n+1,1,none⟩=some (.int .i64 x.e)
 x2:w.cell? ⟨n+1,2,none⟩=some (.int .i64 x.f)
 x3:w.cell? ⟨n+1,3,none⟩=some (.int .i64 x.s)
 x4:w.cell? ⟨n+1,4,none⟩=some (.int .i64 x.n)
 c:w.cell? ⟨n+1+1,0,none⟩=some (.int .i64 c)
 f:w.frozen? ⟨n+1+1,0,none⟩=false
theorem qN1.lt{n b:Nat}{x:StI}{c:Int}{w:World}(h:qN1 n b x c w):n+1+1<w.heap.size:=zL w ⟨n+1+1,0,none⟩ h.c
theorem qN1.below{n b:Nat}{x:StI}{c:Int}{w w':World}(h:qN1 n b x c w)(hb:Below w.heap.size w w'):qN1 n b x c w':=by
 have h2:=h.lt;have k0:∀o,w'.cell? ⟨n,o,none⟩=w.cell? ⟨n,o,none⟩:=fun o=>hb.cell (p:=⟨n,o,none⟩) (by show n<w.heap.size;omega)
 have k1:∀o,w'.cell? ⟨n+1,o,none⟩=w.cell? ⟨n+1,o,none⟩:=fun o=>hb.cell (p:=⟨n+1,o,none⟩) (by show n+1<w.heap.size;omega)
 exact⟨(k0 0).trans h.s,(k1 0).trans h.x0,(k1 1).trans h.x1,(k1 2).trans h.x2,(k1 3).trans h.x3,(k1 4).trans h.x4,(hb.cell (p:=⟨n+1+1,0,none⟩) h2).trans h.c,(hb.frozen (p:=⟨n+1+1,0,none⟩) h2).trans h.f⟩
theorem qN1.put{n b:Nat}{x:StI}{c:Int}{w:World}(h:qN1 n b x c w)(c':Int):qN1 n b x c' (w.setCell ⟨n+1+1,0,none⟩ (iv c')) :=
 ⟨by simp[go_sem,h.s],by simp[go_sem,h.x0],by simp[go_sem,h.x1],by simp[go_sem,h.x2],by simp[go_sem,h.x3],by simp[go_sem,h.x4],by simp[go_sem,h.c],by simp[h.f]⟩
abbrev qE1(w:World)(b:Nat)(x:StI):World:=((w.alloc (.cells #[.pointer (some ⟨b,0,none⟩)] 299)).alloc (.cells #[iv x.k,iv x.e,iv x.f,iv x.s,iv x.n] 50)).alloc (.cells #[iv 0] 2)
theorem qN1.new(w:World)(b:Nat)(x:StI):qN1 w.heap.size b x 0 (qE1 w b x) :=
 ⟨by unfold qE1;simp[go_sem],by unfold qE1;simp[go_sem],by unfold qE1;simp[go_sem],by unfold qE1;simp[go_sem],by unfold qE1;simp[go_sem],by unfold qE1;simp[go_sem],by unfold qE1;simp[go_sem],by unfold qE1;simp[go_sem]⟩
theorem qE1.below(w:World)(b:Nat)(x:StI):Below w.heap.size w (qE1 w b x) :=
 ((zN).alloc (by simp) _).alloc (by simp;omega) _
theorem qAY(b:Nat)(cv lv:Value)(sa:Option Addr)(n sc:Nat)(said:List StI)(x:StI)(w:World)(hs:QB7 w b cv (.slice sa n sc) lv)(h:qL2 w sa n said)(hn:n<=1048576)(hc:qB5 x≠0):
  CP 244 #[.pointer (some ⟨b,0,none⟩),.agg #[iv x.k,iv x.e,iv x.f,iv x.s,iv x.n]] w fun d w'=>d=.returned (iv (qB5 x))/\Below w.heap.size w w':=by
 obtain⟨V,hV⟩:∃V,V=qE1 w b x:=⟨_,rfl⟩;have HV:=hJJ hV;have E0:qN1 w.heap.size b x 0 V:=by rw[hV];exact qN1.new w b x
 have B0:Below w.heap.size w V:=by rw[hV];exact qE1.below w b x
 have hbl:=hs.lt;have HS0:Hid (QB7 V b cv (.slice sa n sc) lv):=hs.below B0;have HI0:Hid (qL2 V sa n said):=h.below B0;have HB0:=hJJ B0;have HE0:=hJJ E0;have hcb:(qB5 x != 0)=true:=by simp[hc]
 clear hs h B0 hV E0;go_enter func244,ntmps244;go_wp2_with fail
 rw[show ((w.alloc (.cells #[.pointer (some ⟨b,0,none⟩)] 299)).alloc (.cells #[iv x.k,iv x.e,iv x.f,iv x.s,iv x.n] 50)).alloc (.cells #[iv 0] 2)=V from HV.out.symm];refine (qB8 x _).mono ?_;rintro d w1 ⟨rfl,hb1⟩;have E1:=HE0.out.below hb1;have e1:=E1.c;have f1:=E1.f;have l1:=E1.lt;have E2:=E1.put (qB5 x);have hlt2:b≠w.heap.size+1+1:=by omega
 have S2:QB7 (w1.setCell ⟨w.heap.size+1+1,0,none⟩ (iv (qB5 x))) b cv (.slice sa n sc) lv:=by
  have q:=HS0.out.below hb1;exact⟨by simp[go_sem,q.c0,hlt2,hlt2.symm],by simp[go_sem,q.c1,hlt2,hlt2.symm],by simp[go_sem,q.c2,hlt2,hlt2.symm],fun j=>by simp[q.fz]⟩
 have B2:Hid (Below w.heap.size w (w1.setCell ⟨w.heap.size+1+1,0,none⟩ (iv (qB5 x)))):=(HB0.out.trans (hb1.mono HB0.out.size)).setCell (by show w.heap.size<=w.heap.size+1+1;omega) _;go_upto_region 2 with fail
 generalize w1.setCell ⟨w.heap.size+1+1,0,none⟩ (iv (qB5 x))=w2 at *
 clear e1 f1 l1 E1 hb1;refine gL (S:=fun w'=>qN1 w.heap.size b x (qB5 x) w'/\QB7 w' b cv (.slice sa n sc) lv) (by kernel_rfl) (⟨E2.below (gC _ _).drew,S2.below (gC _ _).drew⟩) (fun hHeld=>?_);refine Zk.go [0,1,2,3,4,5,6,7,8,9] ?_
 iterate 3
  refine Zk.st (v:=?_) rfl ?_ ?_;rotate_left 1
  .intro w hSw;have p0:=hSw.1.s;have p1:=hSw.1.x0;have p2:=hSw.1.x1;have p3:=hSw.1.x2;have p4:=hSw.1.x3;have p5:=hSw.1.x4;have p6:=hSw.1.c;have p7:=hSw.2.c1;clear hSw;go_simp;try (with_reducible rfl)
  try simp only[Act.put,zA,zB,zC,zD,zE,zF]
 iterate 6 (refine Zk.un rfl ?_;try simp only[Act.put,zA,zB,zC,zD,zE,zF])
 refine Zk.st (v:=?_) rfl ?_ ?_;rotate_left 1
 .intro w hSw;have p0:=hSw.1.s;have p1:=hSw.1.x0;have p2:=hSw.1.x1;have p3:=hSw.1.x2;have p4:=hSw.1.x3;have p5:=hSw.1.x4;have p6:=hSw.1.c;have p7:=hSw.2.c1;clear hSw;go_simp;try (with_reducible rfl)
 try simp only[Act.put,zA,zB,zC,zD,zE,zF]
 refine Zk.fin ?_;refine gZ (by kernel_rfl) ?_ _;have p6:=hHeld.1.c;have p7:=hHeld.1.f;have p8:=hHeld.1.lt;have p9:w2.cell? ⟨w.heap.size+1+1,0,none⟩=some (iv (qB5 x)):=E2.c;go_wp2_with fail
 refine gQ (v:=iv (qB5 x)) (by simp[results,results244,go_sem,p9,p8]) rfl ⟨rfl,?_⟩;exact (B2.out.drew).setCell (by show w.heap.size<=w.heap.size+1+1;omega) _
theorem QA1{P:Program}{c:Code}{Q:Exit->Act->World->Prop}{a:Act}{w:World}(h:c.wp P (fun e a w=>e=.normal/\Q .normal a w) a w):c.wp P Q a w :=
 Code.wp_mono (fun e a w h=>by obtain⟨rfl,h⟩:=h;exact h) h
theorem qA9{w:World}{b:Nat}{cs:Array Value}{t:TypeId}(h:w.heap[b]?=some (.cells cs t (0,0)))(j:Nat):w.cell? ⟨b,j,none⟩=cs[j]? := by simp[World.cell?,h]
theorem QB4{w:World}{b:Nat}{cs:Array Value}{t:TypeId}(h:w.heap[b]?=some (.cells cs t (0,0)))(j:Nat):w.frozen? ⟨b,j,none⟩=false:=by simp[World.frozen?,h]
theorem qL7{w:World}{g b:Nat}{c c':Array Value}{t t':TypeId}(h:w.heap[g]?=some (.cells c t (0,0)))(h':w.heap[b]?=some (.cells c' t' (0,0)))(ht:t≠t'):g≠b:=by
 rintro rfl;have:=gJ (h.symm.trans h');injection this with _ e _
 exact ht e
theorem qQ3{w:World}{g k:Nat}{C:Array Value}{t:TypeId}{fr:Nat × Nat}{v:Value}(h:w.heap[g]?=some (.cells C t fr)):(w.setCell ⟨g,k,none⟩ v).heap[g]?=some (.cells (C.setIfInBounds k v) t fr):=by
 obtain⟨hlt,hk⟩:=gN.1 h;show (w.heap.modify g _)[g]?=_
 rw[Array.getElem?_eq_getElem (by rw[Array.size_modify];exact hlt),Array.getElem_modify_self,hk];rfl
theorem qE0{w:World}{B:Nat}{v:Value}{gs:List StI}(h:qF0 w B v gs){g:Nat}(e:v.ownBlock=some g):∃cur,w.heap[g]?=some (.cells cur 50 (0,0))/\B<=g:=by
 have h0:w.ownsRow B 50 5 v gs.length (qD4 gs):=h;rcases h0.2 with q | ⟨g',cap,cur,e1,hg,hb,rest⟩
 .rw[q.1]at e;simp[Value.ownBlock]at e
 .rw[e1]at e;simp[Value.ownBlock]at e;subst e;exact⟨cur,hb,hg⟩
theorem qD8{w:World}{B:Nat}{v:Value}{gs:List LkI}(h:qB2 w B v gs){g:Nat}(e:v.ownBlock=some g):∃cur,w.heap[g]?=some (.cells cur 171 (0,0))/\B<=g:=by
 have h0:w.ownsRow B 171 4 v gs.length (qA2 gs):=h;rcases h0.2 with q | ⟨g',cap,cur,e1,hg,hb,rest⟩
 .rw[q.1]at e;simp[Value.ownBlock]at e
 .rw[e1]at e;simp[Value.ownBlock]at e;subst e;exact⟨cur,hb,hg⟩
structure qG8 (w:World) (b B:Nat) (cv:Value) (sa:Option Addr) (sc:Nat) (said:List StI) (la:Option Addr) (lc:Nat) (ls:List LkI):Prop where
 bk:w.heap[b]?=some (.cells #[cv,.slice sa said.length sc,.slice la ls.length lc] 183 (0,0))
 ow:qF0 w B (.slice sa said.length sc) said
 lk:qB2 w B (.slice la ls.length lc) ls
 hb:B<=b
theorem qG8.lt{w:World}{b B:Nat}{cv:Value}{sa:Option Addr}{sc:Nat}{said:List StI}{la:Option Addr}{lc:Nat}{ls:List LkI}(h:qG8 w b B cv sa sc said la lc ls):b<w.heap.size:=(gN.1 h.bk).1
theorem qG8.spk{w:World}{b B:Nat}{cv:Value}{sa:Option Addr}{sc:Nat}{said:List StI}{la:Option Addr}{lc:Nat}{ls:List LkI}(h:qG8 w b B cv sa sc said la lc ls):QB7 w b cv (.slice sa said.length sc) (.slice la ls.length lc) :=
 ⟨by rw[qA9 h.bk];rfl,by rw[qA9 h.bk];rfl,by rw[qA9 h.bk];rfl,fun j=>QB4 h.bk j⟩
theorem qG8.below{w w':World}{b B:Nat}{cv:Value}{sa:Option Addr}{sc:Nat}{said:List StI}{la:Option Addr}{lc:Nat}{ls:List LkI}(h:qG8 w b B cv sa sc said la lc ls)(hb:Below w.heap.size w w'):qG8 w' b B cv sa sc said la lc ls :=
 ⟨(hb.block b h.lt).trans h.bk,h.ow.below hb,h.lk.below hb,h.hb⟩
theorem qHH{w:World}{b B:Nat}{cv lv:Value}{sa:Option Addr}{sc:Nat}{said:List StI}{la:Option Addr}{lc:Nat}{ls:List LkI}(hbk:w.heap[b]?=some (.cells #[cv,.slice sa said.length sc,lv] 183 (0,0)))(how:qF0 w B (.slice sa said.length sc) said)(hlk:qB2 w B (.slice la ls.length lc) ls)(hB:B<=b):qG8 (w.setCell ⟨b,2,none⟩ (.slice la ls.length lc)) b B cv sa sc said la lc ls:=by
 refine⟨qQ3 hbk,qA4 how (fun g e=>?_),qA4 hlk (fun g e=>?_),hB⟩
 .obtain⟨cur,hc,_⟩:=qE0 how e;exact zS (qL7 hc hbk (by decide))
 .obtain⟨cur,hc,_⟩:=qD8 hlk e;exact zS (qL7 hc hbk (by decide))
theorem qJg{w:World}{b B:Nat}{cv sv:Value}{sa:Option Addr}{sc:Nat}{said:List StI}{la:Option Addr}{lc:Nat}{ls:List LkI}(hbk:w.heap[b]?=some (.cells #[cv,sv,.slice la ls.length lc] 183 (0,0)))(how:qF0 w B (.slice sa said.length sc) said)(hlk:qB2 w B (.slice la ls.length lc) ls)(hB:B<=b):qG8 (w.setCell ⟨b,1,none⟩ (.slice sa said.length sc)) b B cv sa sc said la lc ls:=by
 refine⟨qQ3 hbk,qA4 how (fun g e=>?_),qA4 hlk (fun g e=>?_),hB⟩
 .obtain⟨cur,hc,_⟩:=qE0 how e;exact zS (qL7 hc hbk (by decide))
 .obtain⟨cur,hc,_⟩:=qD8 hlk e;exact zS (qL7 hc hbk (by decide))
structure EW (w:World) (n bb b B:Nat) (x:StI) (c:Int) (cv:Value) (sa:Option Addr) (sc:Nat) (said:List StI) (lv:Value) (la:Option Addr) (lc:Nat) (ls:List LkI) (W:World):Prop where
 e:qN1 n b x c W
 bf:W.cell? ⟨bb,0,none⟩=some (.slice la ls.length lc)
 bk:W.heap[b]?=some (.cells #[cv,.slice sa said.length sc,lv] 183 (0,0))
 ow:qF0 W B (.slice sa said.length sc) said
 lk:qB2 W B (.slice la ls.length lc) ls
 hb:B<=b
 bn:b<n
 nb:n+1+1<bb
 bl:Below B w W
 so:∀g,(Value.slice sa said.length sc).ownBlock=some g->g<n
 lo:∀g,(Value.slice la ls.length lc).ownBlock=some g->g<n
theorem EW.lt{w:World}{n bb b B:Nat}{x:StI}{c:Int}{cv:Value}{sa:Option Addr}{sc:Nat}{said:List StI}{lv:Value}{la:Option Addr}{lc:Nat}{ls:List LkI}{W:World}(h:EW w n bb b B x c cv sa sc said lv la lc ls W):b<W.heap.size:=(gN.1 h.bk).1
theorem EW.spk{w:World}{n bb b B:Nat}{x:StI}{c:Int}{cv:Value}{sa:Option Addr}{sc:Nat}{said:List StI}{lv:Value}{la:Option Addr}{lc:Nat}{ls:List LkI}{W:World}(h:EW w n bb b B x c cv sa sc said lv la lc ls W):QB7 W b cv (.slice sa said.length sc) lv :=
 ⟨by rw[qA9 h.bk];rfl,by rw[qA9 h.bk];rfl,by rw[qA9 h.bk];rfl,fun j=>QB4 h.bk j⟩
theorem EW.below{w:World}{n bb b B:Nat}{x:StI}{c:Int}{cv:Value}{sa:Option Addr}{sc:Nat}{said:List StI}{lv:Value}{la:Option Addr}{lc:Nat}{ls:List LkI}{W W':World}(h:EW w n bb b B x c cv sa sc said lv la lc ls W)(hb:Below W.heap.size W W'):EW w n bb b B x c cv sa sc said lv la lc ls W' :=
 ⟨h.e.below hb,(hb.cell (p:=⟨bb,0,none⟩) (zL W _ h.bf)).trans h.bf,(hb.block b h.lt).trans h.bk,h.ow.below hb,h.lk.below hb,h.hb,h.bn,h.nb,h.bl.trans (hb.mono (jF h.hb (Nat.le_of_lt h.lt))),h.so,h.lo⟩
theorem EW.code{w:World}{n bb b B:Nat}{x:StI}{c:Int}{cv:Value}{sa:Option Addr}{sc:Nat}{said:List StI}{lv:Value}{la:Option Addr}{lc:Nat}{ls:List LkI}{W:World}(h:EW w n bb b B x c cv sa sc said lv la lc ls W)(c':Int):EW w n bb b B x c' cv sa sc said lv la lc ls (W.setCell ⟨n+1+1,0,none⟩ (iv c')):=by
 have n1:=h.bn;have n2:=h.nb;have n3:=h.hb;refine⟨h.e.put c',by rw[gF (h:=fun e=>by have:=jA Addr.block e;simp at this;omega)];exact h.bf,(zS (by show b≠n+1+1;omega)).trans h.bk,qA4 h.ow (fun g e=>zS (by have:=h.so g e;show g≠n+1+1;omega)),qA4 h.lk (fun g e=>zS (by have:=h.lo g e;show g≠n+1+1;omega)),h.hb,h.bn,h.nb,h.bl.setCell (by show B<=n+1+1;omega) _,h.so,h.lo⟩
theorem EW.lock{w:World}{n bb b B:Nat}{x:StI}{c:Int}{cv:Value}{sa:Option Addr}{sc:Nat}{said:List StI}{lv:Value}{la:Option Addr}{lc:Nat}{ls:List LkI}{W:World}(h:EW w n bb b B x c cv sa sc said lv la lc ls W)(v:Value):EW w n bb b B x c cv sa sc said v la lc ls (W.setCell ⟨b,2,none⟩ v):=by
 have n1:=h.bn;have n2:=h.nb;have q:=h.e;have d0:b≠n:=by omega
 have d1:b≠n+1:=by omega
 have d2:b≠n+1+1:=by omega
 refine⟨⟨by simp[go_sem,q.s,d0,d0.symm],by simp[go_sem,q.x0,d1,d1.symm],by simp[go_sem,q.x1,d1,d1.symm],by simp[go_sem,q.x2,d1,d1.symm],by simp[go_sem,q.x3,d1,d1.symm],by simp[go_sem,q.x4,d1,d1.symm],by simp[go_sem,q.c,d2,d2.symm],by simp[q.f]⟩,by rw[gF (h:=fun e=>by have:=jA Addr.block e;simp at this;omega)];exact h.bf,qQ3 h.bk,qA4 h.ow (fun g e=>?_),qA4 h.lk (fun g e=>?_),h.hb,h.bn,h.nb,h.bl.setCell h.hb _,h.so,h.lo⟩
 .obtain⟨cur,hc,_⟩:=qE0 h.ow e;exact zS (qL7 hc h.bk (by decide))
 .obtain⟨cur,hc,_⟩:=qD8 h.lk e;exact zS (qL7 hc h.bk (by decide))
theorem EW.off_bad{w:World}{n bb b B:Nat}{x:StI}{c:Int}{cv:Value}{sa:Option Addr}{sc:Nat}{said:List StI}{lv:Value}{la:Option Addr}{lc:Nat}{ls:List LkI}{W:World}(h:EW w n bb b B x c cv sa sc said lv la lc ls W)(hc:c≠0)(u:FrameMode):
  CallsD prog 259 #[.pointer (some ⟨n+1+1,0,none⟩),.pointer (some ⟨bb,0,none⟩),.pointer (some ⟨n,0,none⟩),.pointer (some ⟨n+1,0,none⟩)] u W fun d u' w'=>u'=u/\d=.returned (.tuple #[])/\w'.cell? ⟨n+1+1,0,none⟩=some (iv c)/\qG8 w' b B cv sa sc said la lc ls/\Below B w w':=by
 refine (qFi (n+1+1) bb n (n+1) b c cv _ lv la ls.length lc u W h.e.c hc h.bf h.e.s h.spk).mono ?_;rintro d u' w' ⟨rfl,rfl,rfl⟩;exact⟨rfl,rfl,(h.lock _).e.c,qHH h.bk h.ow h.lk h.hb,h.bl.setCell h.hb _⟩
theorem EW.off_ok{w:World}{n bb b B:Nat}{x:StI}{cv:Value}{sa:Option Addr}{sc:Nat}{said:List StI}{la:Option Addr}{lc:Nat}{ls:List LkI}{la':Option Addr}{lc':Nat}{ls':List LkI}{W:World}(h:EW w n bb b B x 0 cv sa sc said (.slice la' ls'.length lc') la lc ls W)(hl:qB2 W B (.slice la' ls'.length lc') ls')(hn:said.length<=1000)(u:FrameMode):
  CallsD prog 259 #[.pointer (some ⟨n+1+1,0,none⟩),.pointer (some ⟨bb,0,none⟩),.pointer (some ⟨n,0,none⟩),.pointer (some ⟨n+1,0,none⟩)] u W fun d u' w'=>u'=u/\d=.returned (.tuple #[])/\w'.cell? ⟨n+1+1,0,none⟩=some (iv 0)/\(∃sa' sc',qG8 w' b B cv sa' sc' (said++[x]) la' lc' ls')/\Below B w w':=by
 have n1:=h.bn;have n2:=h.nb;have q:=h.e;have hBW:B<=W.heap.size:=jF h.hb (Nat.le_of_lt h.lt)
 have hne:∀g,(Value.slice sa said.length sc).ownBlock=some g->g≠b:=fun g e=>by
  obtain⟨cur,hc,_⟩:=qE0 h.ow e;exact qL7 hc h.bk (by decide)
 refine (qHd B (n+1+1) bb n (n+1) b x cv (.slice la' ls'.length lc') sa said.length sc said u W q.c ⟨q.s,q.x0,q.x1,q.x2,q.x3,q.x4,h.spk.c0,⟨_,h.spk.c1⟩,h.spk.c2,h.spk.fz,by omega,by omega⟩ h.spk.c1 rfl hn h.ow hBW (fun g e hq=>?_)).mono ?_
 .have a1:=hne g e.symm;have a2:=h.so g e.symm;omega
 rintro d u' w' ⟨rfl,rfl,w1,g,cc,ho1,hg1,rfl⟩;have A0:Below W.heap.size W (W.alloc (.cells #[iv x.k,iv x.e,iv x.f,iv x.s,iv x.n] 50)).drew:=(zN).drew;have h1:=h.below A0;have hl1:=hl.below A0;have hne':some b≠(Value.slice sa said.length sc).ownBlock:=fun e=>hne b e.symm rfl
 have bk1:w1.heap[b]?=some (.cells #[cv,.slice sa said.length sc,.slice la' ls'.length lc'] 183 (0,0)):=(hg1.block b h1.lt hne').trans h1.bk
 have hl2:qB2 w1 B (.slice la' ls'.length lc') ls':=qA4 hl1 (fun k e=>by
  obtain⟨cur,hc,_⟩:=qD8 hl1 e;refine hg1.block k (gN.1 hc).1 (fun e2=>?_);obtain⟨cur2,hc2,_⟩:=qE0 h1.ow e2.symm;exact qL7 hc2 hc (by decide) rfl)
 have eL:said.length+1=(said++[x]).length:=by simp
 have ho2:qF0 w1 B (.slice (some ⟨g,0,none⟩) (said++[x]).length cc) (said++[x]):=by rw[<- eL];exact ho1
 have c2:w1.cell? ⟨n+1+1,0,none⟩=some (iv 0):=by
  have hb2:=h1.e.lt;refine (jO (w:=_) (w':=w1) (a:=⟨n+1+1,0,none⟩) (hg1.block (n+1+1) hb2 (fun e=>?_))).trans h1.e.c;have:=h.so _ e.symm;omega
 have B1:Below B w w1:=qCr h1.ow h1.bl hg1 (jF hBW A0.size);have e2:(Value.slice (some ⟨g,0,none⟩) (said.length+1) cc)=.slice (some ⟨g,0,none⟩) (said++[x]).length cc:=by rw[eL]
 rw[e2];exact⟨rfl,rfl,by rw[gF (h:=fun e=>by have:=jA Addr.block e;simp at this;omega)];exact c2,⟨_,_,qJg bk1 ho2 hl2 h.hb⟩,B1.setCell h.hb _⟩
