/- Contracts. -/
import Derived.Test.YtdppdbihhlipeaaGreatDoorPr37
import Derived.Test.YtdppdbihhlipeaaGreatDoorPr38
import Derived.Test.YtdppdbihhlipeaaGreatDoorPr30
import Derived.Test.YtdppdbihhlipeaaGreatDoorPr26
import Derived.Test.YtdppdbihhlipeaaGreatDoorPr14
namespace Go.Proofs.YtdppdbihhlipeaaGreatDoor
set_option maxRecDepth 100000
set_option maxHeartbeats 8000000
open Go.RowKit
set_option linter.unusedVariables false
set_option linter.unusedSimpArgs false

def qO8 (zs:List qA2) (ps:List qD4):Int:=orC (qD1 zs) (qN2 ps)
theorem QN1 {zs:List qA2} {ps:List qD4} (h:qO8 zs ps=0):qD1 zs=0/\qN2 ps=0:=by
 unfold qO8 orC at h;split at h
 ·rename_i q;exact ⟨q,h⟩
 ·rename_i q;exact absurd h q
theorem qFH (a:Option Addr) (n cap:Nat) (zs:List qA2) (a':Option Addr) (m cap':Nat) (ps:List qD4) (w:World) (hn:n<=1048576) (hm:m<=1048576) (hcap:n<=cap) (hcm:cap<=maxLen) (h:qB8 w a n zs) (h':qC7 w a' m ps) :
  Calls Tryz.prog 184 #[.slice a n cap,.slice a' m cap'] w fun e w'=>e = .returned (.int .i64 (qO8 zs ps))/\Below w.heap.size w w':=by
 have HP:Hid (∀ w2:World,Below w.heap.size w w2->Calls Tryz.prog 164 #[.slice a n cap] w2 fun e w'=>e = .returned (.int .i64 (qD1 zs))/\Below w2.heap.size w2 w'):=fun w2 q=>qV3 a n cap zs w2 hn hcap hcm (h.below q)
 have HQ:Hid (∀ w2:World,Below w.heap.size w w2->Calls Tryz.prog 182 #[.slice a' m cap'] w2 fun e w'=>e = .returned (.int .i64 (qN2 ps))/\Below w2.heap.size w2 w'):=fun w2 q=>qX1 a' m cap' ps w2 (by unfold maxLen;omega) (h'.below q)
 unfold qO8;generalize qD1 zs=p at HP;generalize qN2 ps=q at HQ;clear h h';go_enter Tryz.func184,Tryz.ntmps184;go_wp2_with fail
 refine (HP.out _ (Below.refl _ _)).mono ?_;rintro e w1 ⟨rfl,hb1⟩;go_wp2_with fail
 refine (HQ.out _ hb1).mono ?_;rintro e w2 ⟨rfl,hb2'⟩;have hb2:Below w.heap.size w w2:=hb1.trans (hb2'.mono hb1.size);have hb3:Below w.heap.size w (w2.alloc (.cells #[.int .i64 p,.int .i64 q] 2)):=hb2.alloc hb2.size _;go_wp2_with (first | (go_at_call 163;refine (qLo _ p q _ ?_ ?_).mono ?_;(· simp [go_sem]);(· simp [go_sem]);rintro e w' ⟨rfl,rfl⟩) | fail)
 go_ret;exact ⟨rfl,hb3⟩
theorem qFE (cT:Array Value) (x:Nat) (v:Value) (hx:x < 256) (hs:cT.size=256) (hc:cT[x]? = some v) (hv:v.oneCell'=true) (w:World):(Instr.index 251 (.agg cT) (.int .i64 (x:Int))).run Tryz.prog w = .ok v w:=by
 have h1:(0:Int)<=(x:Int):=by omega
 have h2:(x:Int) < 256:=by omega
 simp [Instr.index,run_underlying QC4,go_sem,h1,h2,hs,hc];intro h;omega
def qKE (f:Nat) (a:Option Addr) (n cap:Nat) (a':Option Addr) (m cap':Nat) (s:Int) (t:Bool) (w:World):Prop:=Calls Tryz.prog f #[.slice a n cap,.slice a' m cap',.int .i64 s] w fun e w'=>e = .returned (.bool t)/\Below w.heap.size w w'
def qMM (zs:List qA2) (ps:List qD4) (gs:List GrI) (s:Int):Bool:=decide (qO8 zs ps=0)&&qQ2 s&&qR7 (ofG gs) ps s.toNat
theorem qAk (a:Option Addr) (n cap:Nat) (zs:List qA2) (a':Option Addr) (m cap':Nat) (ps:List qD4) (gs:List GrI) (s:Int) (w:World) (hn:n<=1048576) (hm:m<=1048576) (hcap:n<=cap) (hcm:cap<=maxLen) (h:qB8 w a n zs) (h':qC7 w a' m ps) (hg:qD1 zs=0->QJ9 zs gs) :
  qKE 170 a n cap a' m cap' s (qMM zs ps gs s) w:=by
 have HM:Hid (Calls Tryz.prog 184 #[.slice a n cap,.slice a' m cap'] w fun e w'=>e = .returned (.int .i64 (qO8 zs ps))/\Below w.heap.size w w'):=qFH a n cap zs a' m cap' ps w hn hm hcap hcm h h';have HT:Hid (qO8 zs ps=0->∀ w2:World,Below w.heap.size w w2->Calls Tryz.prog 185 #[.slice a n cap,.slice a' m cap'] w2 fun e w'=>e = .returned (.agg (qH2 (qR7 (ofG gs) ps)))/\Below w2.heap.size w2 w'):=fun hc w2 q=>qHz a n cap zs a' m cap' ps gs w2 (h.below q) (QN1 hc).1 (hg (QN1 hc).1) (h'.below q) (QN1 hc).2
 clear h h' hg;unfold qMM;generalize qO8 zs ps=c at HM HT;generalize qR7 (ofG gs) ps=T at HT;unfold qKE;by_cases hc:c=0
 ·have hcb:(c==0)=true:=by simp [hc]
  rw [show decide (c=0)=true from decide_eq_true hc,Bool.true_and];cases hs:qQ2 s
  ·have hf:(if qQ2 s=true then (0:Int) else 3)=3:=by simp [hs]
   rw [Bool.false_and];clear hc;go_enter Tryz.func170,Tryz.ntmps170;go_wp2_with fail
   refine (HM.out).mono ?_;rintro e w1 ⟨rfl,hb1⟩;go_wp2_with (first | (go_at_call 151;refine (QS2 s _).mono ?_;rintro e w2 ⟨rfl,rfl⟩;rw [hf]) | fail)
   go_ret;exact ⟨rfl,hb1⟩
  ·have hf:(if qQ2 s=true then (0:Int) else 3)=0:=by simp [hs]
   rw [Bool.true_and];obtain ⟨x,rfl⟩:∃ x:Nat,s=(x:Int):=⟨s.toNat,by simp [qQ2] at hs;omega⟩;have hx:x < 256:=by simp [qQ2] at hs;omega
   have hx':(x:Int) < 256:=by omega
   rw [Int.toNat_natCast];have HT2:Hid _:=HT.out hc;have cx:=qZ0 T hx;have csz:=qI3 T;generalize qH2 T=cT at HT2 cx csz;clear hc hs;go_enter Tryz.func170,Tryz.ntmps170;go_wp2_with fail
   refine (HM.out).mono ?_;rintro e w1 ⟨rfl,hb1⟩;go_wp2_with (first | (go_at_call 151;refine (QS2 _ _).mono ?_;rintro e w2 ⟨rfl,rfl⟩;rw [hf]) | fail)
   refine (HT2.out _ hb1).mono ?_;rintro e w3 ⟨rfl,hb3⟩;have hix:=qFE cT x _ hx csz cx rfl w3;go_wp2_with fail
   go_ret;exact ⟨rfl,hb1.trans (hb3.mono hb1.size)⟩
 ·have hcb:(c==0)=false:=by simp [hc]
  rw [show decide (c=0)=false from decide_eq_false hc,Bool.false_and,Bool.false_and];clear hc;go_enter Tryz.func170,Tryz.ntmps170;go_wp2_with fail
  refine (HM.out).mono ?_;rintro e w1 ⟨rfl,hb1⟩;go_wp2_with fail
  go_ret;exact ⟨rfl,hb1⟩

def alW (pss:List (List qD4)) (gs:List GrI) (f s:Int):Bool:=inR f 1 (pss.length:Int)&&(qQ2 s&&(match pss[(f - 1).toNat]? with
 | none=>false
 | some ps=>qR7 (ofG gs) ps s.toNat))
def alB (code:Int) (pss:List (List qD4)) (gs:List GrI) (f s:Int):Bool:=decide (code=0)&&alW pss gs f s
def qCz (fn:Nat) (c:qA4) (f s:Int) (t:Bool) (w:World):Prop:=Calls Tryz.prog fn #[.agg #[.int .i64 c.e,.int .i64 c.f,.slice c.ra c.rn c.rc,.slice c.fa c.fn c.fc,.slice c.ca c.cn c.cc],.int .i64 f,.int .i64 s] w fun e w'=>e = .returned (.bool t)/\Below w.heap.size w w'
theorem qCw {pss:List (List qD4)} {gs:List GrI} {f s:Int} (h:inR f 1 (pss.length:Int)=false):alW pss gs f s=false:=by unfold alW;rw [h,Bool.false_and]
theorem qLL {pss:List (List qD4)} {gs:List GrI} {f s:Int} (h:qQ2 s=false):alW pss gs f s=false:=by unfold alW;rw [h,Bool.false_and,Bool.and_false]
theorem qKC {pss:List (List qD4)} {gs:List GrI} {k:Nat} {s:Int} {ps:List qD4} (h:pss[k]? = some ps):alW pss gs ((k:Int)+1) s=(qQ2 s&&qR7 (ofG gs) ps s.toNat):=by
 have hk:k < pss.length:=by
  by_cases q:k < pss.length
  ·exact q
  ·rw [List.getElem?_eq_none (by omega)] at h;cases h
 unfold alW;rw [show inR ((k:Int)+1) 1 (pss.length:Int)=true by simp [inR];omega,Bool.true_and,show ((k:Int)+1 - 1).toNat=k by omega,h]
theorem qAj (c:qA4) (gs:List GrI) (f s:Int) (w:World) (hle:qE0 1048576 c) (hrc:c.rn<=c.rc) (hrm:c.rc<=maxLen) (h:qF5 w c) (hg:qD1 c.zs=0->QJ9 c.zs gs) :
  qCz 142 c f s (alB (qH5 c.e c.f c.zs (qA5 c.fs) c.cs) (qA5 c.fs) gs f s) w:=by
 obtain ⟨W,hW⟩:∃ W,W=w.alloc (.cells #[.int .i64 c.e,.int .i64 c.f,.slice c.ra c.rn c.rc,.slice c.fa c.fn c.fc,.slice c.ca c.cn c.cc] 71):=⟨_,rfl⟩;have B0:Below w.heap.size w W:=by rw [hW];exact zN
 have K0:Hid (qQ0 W w.heap.size c):=by rw [hW];exact qQ0.new w c _
 obtain ⟨v,hv⟩:∃ v,qH5 c.e c.f c.zs (qA5 c.fs) c.cs=v:=⟨_,rfl⟩;have HF:Hid (Calls Tryz.prog 105 #[.agg #[.int .i64 c.e,.int .i64 c.f,.slice c.ra c.rn c.rc,.slice c.fa c.fn c.fc,.slice c.ca c.cn c.cc]] W fun e w'=>e = .returned (.int .i64 v)/\Below W.heap.size W w'):=by rw [<- hv];exact qV4 c W hle hrc hrm (h.below B0)
 have H:Hid (qF5 w c):=h;have HLE:Hid (qE0 1048576 c):=hle;have HZ:Hid ((qA5 c.fs).length=c.fn):=by show (qA5 c.fs).length=c.fn;rw [qZ5];exact h.forms.1
 have hfn:(c.fn:Int)<=1048576:=by have:=hle.forms;omega
 rw [hv];unfold qCz;by_cases v0:v=0
 ·have hz:=QG1 (hv.trans v0);have HG:Hid (QJ9 c.zs gs):=hg hz.2.2.1;have HPT:Hid (qD1 c.zs=0/\∀ (k:Nat) (x:List qD4),(qA5 c.fs)[k]? = some x->qN2 x=0):=⟨hz.2.2.1,(qCZ hz.2.2.2.1).2⟩;have vb:(v != 0)=false:=by simp [v0]
  have HB:Hid (alB v (qA5 c.fs) gs f s=alW (qA5 c.fs) gs f s):=by show alB _ _ _ _ _=_;unfold alB;rw [show decide (v=0)=true from decide_eq_true v0,Bool.true_and]
  rw [HB.out];clear h hle hv hg hz v0;by_cases f1:f < 1
  ·have HV:Hid (alW (qA5 c.fs) gs f s=false):=qCw (by simp [inR];omega);rw [HV.out];go_enter Tryz.func142,Tryz.ntmps142;go_wp2_with fail
   rw [<- hW];clear hW;refine HF.out.mono ?_;rintro e w1 ⟨rfl,hb1⟩;have B1:Below w.heap.size w w1:=B0.trans (hb1.mono B0.size);clear hb1 B0;go_wp2;go_ret;exact ⟨rfl,B1⟩
  ·by_cases f2:(c.fn:Int) < f
   ·have HV:Hid (alW (qA5 c.fs) gs f s=false):=qCw (by rw [HZ.out];simp [inR];omega);rw [HV.out];go_enter Tryz.func142,Tryz.ntmps142;go_wp2_with fail
    rw [<- hW];clear hW;refine HF.out.mono ?_;rintro e w1 ⟨rfl,hb1⟩;have B1:Below w.heap.size w w1:=B0.trans (hb1.mono B0.size);obtain ⟨d0,d1,d2,d3,d4⟩:=K0.out.below hb1;have hl1:=(K0.out.below hb1).lt;clear hb1 B0 d0 d1 d2 d4;go_wp2;go_ret;exact ⟨rfl,B1⟩
   ·obtain ⟨k,rfl⟩:∃ k:Nat,f=(k:Int)+1:=⟨(f - 1).toNat,by omega⟩;have hk:k < c.fn:=by omega
    have hk':(k:Int)+1<=(c.fn:Int):=by omega
    have hk2:(k:Int) < (c.fn:Int):=by omega
    have hjw:IntKind.i64.wrap ((k:Int)+1 - 1)=(k:Int):=by rw [IntKind.wrap_i64];omega
    have hjw2:IntKind.i64.wrap (k:Int)=(k:Int):=by rw [IntKind.wrap_i64];omega
    clear f1 f2;obtain ⟨b,off,x,hfa,hs,hr⟩:=H.out.forms.at hk
    have HV:Hid (alW (qA5 c.fs) gs ((k:Int)+1) s=qMM c.zs x.ps gs s):=by
     show alW _ _ _ _=_
     rw [qKC (qU8 hs)];unfold qMM;rw [show decide (qO8 c.zs x.ps=0)=true from decide_eq_true (by unfold qO8 orC;rw [if_pos HPT.out.1];exact HPT.out.2 k _ (qU8 hs)),Bool.true_and]
    rw [HV.out];have hxn:=HLE.out.parts k x hs;obtain ⟨t,ht⟩:∃ t,qMM c.zs x.ps gs s=t:=⟨_,rfl⟩;have HA:Hid (∀ w2:World,Below w.heap.size w w2->Calls Tryz.prog 170 #[.slice c.ra c.rn c.rc,.slice x.a x.n x.cap,.int .i64 s] w2 fun e w'=>e = .returned (.bool t)/\Below w2.heap.size w2 w'):=fun w2 q=>by rw [<- ht];exact qAk c.ra c.rn c.rc c.zs x.a x.n x.cap x.ps gs s w2 HLE.out.rules hxn hrc hrm (H.out.rules.below q) ((hr.below q).2) (fun _=>HG.out)
    rw [ht];have HX:Hid (QH5 w b (off+k) x):=hr;have HFA:Hid (c.fa=some ⟨b,off,none⟩):=hfa;clear hs hr ht hfa;go_enter Tryz.func142,Tryz.ntmps142;go_wp2_with fail
    rw [<- hW];clear hW;refine HF.out.mono ?_;rintro e w1 ⟨rfl,hb1⟩;have B1:Below w.heap.size w w1:=B0.trans (hb1.mono B0.size);obtain ⟨d0,d1,d2,d3,d4⟩:=K0.out.below hb1;have hl1:=(K0.out.below hb1).lt;have hx1:=(HX.out.below B1).1;have hbl:b < w1.heap.size:=(HX.out.below B1).lt;rw [HFA.out] at d3;clear hb1 B0 d0 d1 d4;go_wp2;have HA1:Hid (∀ w':World,((∀ b o,b < w1.heap.size->w'.cell? ⟨b,o,none⟩=w1.cell? ⟨b,o,none⟩)/\Below w1.heap.size w1 w')->Calls Tryz.prog 170 #[.slice c.ra c.rn c.rc,.slice x.a x.n x.cap,.int .i64 s] w' fun e w''=>e = .returned (.bool t)/\Below w'.heap.size w' w''):=fun w' q=>HA.out w' (B1.trans (q.2.mono B1.size))
    go_region_held3 (fun w'=>(∀ b o,b < w1.heap.size->w'.cell? ⟨b,o,none⟩=w1.cell? ⟨b,o,none⟩)/\Below w1.heap.size w1 w') (first | exact hS | exact qC1 _)
     (first | (go_at_call 170;refine (HA1.out _ (by assumption)).mono ?_;rintro e w' ⟨rfl,hb2⟩;have hS:=qA9 (by assumption) hb2))
    go_wp2;go_ret;exact ⟨rfl,B1.trans (hS.2.mono B1.size)⟩
 ·have vb:(v != 0)=true:=by simp [v0]
  have HB:Hid (alB v (qA5 c.fs) gs f s=false):=by show alB _ _ _ _ _=_;unfold alB;rw [show decide (v=0)=false from decide_eq_false v0,Bool.false_and]
  rw [HB.out];clear h hle hv hg v0;go_enter Tryz.func142,Tryz.ntmps142;go_wp2_with fail
  rw [<- hW];clear hW;refine HF.out.mono ?_;rintro e w1 ⟨rfl,hb1⟩;have B1:Below w.heap.size w w1:=B0.trans (hb1.mono B0.size);clear hb1 B0;go_wp2;go_ret;exact ⟨rfl,B1⟩

theorem qJr {W w:World} (h:KR W w) {p:Addr} (hp:W.heap.size<=p.block) (v:Value):KR W (w.setCell p v) :=
 ⟨fun b o hl=>(h.2.setCell hp v).cell (p:=⟨b,o,none⟩) hl,h.2.setCell hp v⟩
def qKD (b:Nat) (code:Int) (L:List LkI) (w:World) (d:Ending) (w':World):Prop:=∃ (w1:World) (la:Option Addr) (lc:Nat),d = .returned (.int .i64 code)/\qA7 w1 w.heap.size (.slice la L.length lc) L/\Below w.heap.size w w1/\w'=w1.setCell ⟨b,2,none⟩ (.slice la L.length lc)
theorem qCN (B b:Nat) (cv:Value) (sa:Option Addr) (n sc:Nat) (said:List StI) (la:Option Addr) (lc:Nat) (ls:List LkI) (c:qA4) (gs:List GrI) (x:StI) (w:World) (hs:qX8 w b cv (.slice sa n sc) (.slice la ls.length lc)) (h:qN8 w sa n said) (hn:n<=1048576) (hl:qA7 w B (.slice la ls.length lc) ls) (hle:qE0 1048576 c) (hrc:c.rn<=c.rc) (hrm:c.rc<=maxLen) (hc:qF5 w c) (hc0:qU3 c=0) (hg:QJ9 c.zs gs) (hE:qG2 1 w) (hH:qE2 w) :
    Calls Tryz.prog 111 #[.pointer (some ⟨b,0,none⟩),.agg #[.int .i64 c.e,.int .i64 c.f,.slice c.ra c.rn c.rc,.slice c.fa c.fn c.fc,.slice c.ca c.cn c.cc],.agg #[.int .i64 x.k,.int .i64 x.e,.int .i64 x.f,.int .i64 x.s,.int .i64 x.n]] w fun d w' =>
      ((qT8 said x.e || qD9 said (qS3 x))=true->d = .returned (.int .i64 9)/\Below w.heap.size w w')
      /\ ((qT8 said x.e || qD9 said (qS3 x))=false->alW (qA5 c.fs) gs x.f x.s=false->d = .returned (.int .i64 8)/\Below w.heap.size w w')
      /\ ((qT8 said x.e || qD9 said (qS3 x))=false->alW (qA5 c.fs) gs x.f x.s=true->qKD b (qE4 ls c.cs x.e x.f x.s) (qL5 ls c.cs x.e x.f x.s) w d w'):=by
  obtain ⟨V,hV⟩:∃ V,V=(w.alloc (.cells #[.int .i64 c.e,.int .i64 c.f,.slice c.ra c.rn c.rc,.slice c.fa c.fn c.fc,.slice c.ca c.cn c.cc] 71)).alloc (.cells #[.int .i64 x.k,.int .i64 x.e,.int .i64 x.f,.int .i64 x.s,.int .i64 x.n] 85):=⟨_,rfl⟩;have B1:Below w.heap.size w (w.alloc (.cells #[.int .i64 c.e,.int .i64 c.f,.slice c.ra c.rn c.rc,.slice c.fa c.fn c.fc,.slice c.ca c.cn c.cc] 71)):=zN;have B0:Below w.heap.size w V:=by rw [hV];exact B1.alloc B1.size _
  have hz:V.heap.size=w.heap.size+2:=by rw [hV];simp
  have hz0:w.heap.size < V.heap.size:=by omega
  have hz1:w.heap.size+1 < V.heap.size:=by omega
  have HZ:Hid (V.heap.size=w.heap.size+2):=hz;clear hz
  have HX:qL3 V (w.heap.size+1) 0 x:=by
    have:=qL3.new (w.alloc (.cells #[.int .i64 c.e,.int .i64 c.f,.slice c.ra c.rn c.rc,.slice c.fa c.fn c.fc,.slice c.ca c.cn c.cc] 71)) x 85;rw [hV];simpa using this
  have KC:(V.cell? ⟨w.heap.size,0,none⟩=some (.int .i64 c.e)/\V.cell? ⟨w.heap.size,1,none⟩=some (.int .i64 c.f)/\V.cell? ⟨w.heap.size,2,none⟩=some (.slice c.ra c.rn c.rc)/\V.cell? ⟨w.heap.size,3,none⟩=some (.slice c.fa c.fn c.fc)/\V.cell? ⟨w.heap.size,4,none⟩=some (.slice c.ca c.cn c.cc)):=by rw [hV];exact ⟨by simp,by simp,by simp,by simp,by simp⟩
  have hS0:=hs.below B0;have hbl:=hS0.lt;have hbw:=hs.lt;have c1':=hS0.c1;have c2':=hS0.c2;have cf:=hS0.fz 2;have HIS:Hid (∀ w2,KR V w2->Calls Tryz.prog 140 #[.slice sa n sc,.int .i64 x.e] w2 fun d w'=>d = .returned (.bool (qT8 said x.e))/\Below w2.heap.size w2 w'):=fun w2 q=>qEz sa n sc said x.e w2 hn ((h.below B0).below q.2)
  have HHR:Hid (∀ w2,KR V w2->Calls Tryz.prog 141 #[.pointer (some ⟨b,0,none⟩),.agg #[.int .i64 x.k,.int .i64 x.e,.int .i64 x.f,.int .i64 x.s,.int .i64 x.n]] w2 fun d w'=>d = .returned (.bool (qD9 said (qS3 x)))/\Below w2.heap.size w2 w'):=fun w2 q=>qAm b cv _ sa n sc said x w2 (hS0.below q.2) hn ((h.below B0).below q.2)
  have HAL:Hid (∀ w2,KR V w2->qCz 142 c x.f x.s (alW (qA5 c.fs) gs x.f x.s) w2):=fun w2 q=>by
    have:=qAj c gs x.f x.s w2 hle hrc hrm ((hc.below B0).below q.2) (fun _=>hg)
    have e0:alB (qH5 c.e c.f c.zs (qA5 c.fs) c.cs) (qA5 c.fs) gs x.f x.s=alW (qA5 c.fs) gs x.f x.s:=by
      unfold alB;rw [show decide (qH5 c.e c.f c.zs (qA5 c.fs) c.cs=0)=true from decide_eq_true hc0,Bool.true_and]
    rw [e0] at this;exact this
  have HTK:Hid (∀ w2,KR V w2->qH6 143 #[.slice la ls.length lc,.slice c.ca c.cn c.cc,.int .i64 x.e,.int .i64 x.f,.int .i64 x.s] (qE4 ls c.cs x.e x.f x.s) (qL5 ls c.cs x.e x.f x.s) w2):=fun w2 q=>qAf B la lc c.ca c.cn c.cc ls c.cs x.e x.f x.s w2 ((hl.below B0).below q.2) ((hc.below B0).below q.2).classes ((hE.below B0).below q.2) ((hH.below B0).below q.2)
  have HB0:Hid (Below w.heap.size w V):=B0;obtain ⟨x0,x1,x2,x3,x4⟩:=HX;simp only [Nat.zero_add] at x0 x1 x2 x3 x4;obtain ⟨k0,k1,k2,k3,k4⟩:=KC;generalize qT8 said x.e=v1 at *
  generalize qD9 said (qS3 x)=v2 at *
  generalize alW (qA5 c.fs) gs x.f x.s=v3 at *
  generalize qE4 ls c.cs x.e x.f x.s=tc at *
  generalize qL5 ls c.cs x.e x.f x.s=tl at *
  clear hs h hl hle hrc hrm hc hc0 hg hE hH B0 B1 hS0;go_enter Tryz.func111,Tryz.ntmps111;go_upto_region 1 with fail
  rw [<- hV];clear hV;cases v1
  · cases v2
    · go_region_held3 (fun w'=>KR V w') (first | exact hS | exact qC1 _)
        (first | (go_at_call 140;refine (HIS.out _ (by assumption)).mono ?_;rintro d w' ⟨rfl,hb2⟩;have hS:=qA9 (by assumption) hb2)
               | (go_at_call 141;refine (HHR.out _ (by assumption)).mono ?_;rintro d w' ⟨rfl,hb2⟩;have hS:=qA9 (by assumption) hb2))
      have hzS:=hS.2.size;cases v3
      · go_wp2_with fail
        refine (HAL.out _ hS).mono ?_;rintro d w3 ⟨rfl,hb3⟩;have hS3:=qA9 hS hb3;go_wp2_with fail
        go_ret;exact ⟨rfl,HB0.out.trans (hS3.2.mono HB0.out.size)⟩
      · go_wp2_with fail
        refine (HAL.out _ hS).mono ?_;rintro d w3 ⟨rfl,hb3⟩;have hS3:=qA9 hS hb3;clear hS hb3;go_upto_region 5 with fail
        -- by hand 5
        refine wp_region_held_drew (S:=fun w'=>KR V w') (by kernel_rfl) (qA9 hS3 (Below.refl _ _).drew) (fun hHeld=>?_);refine Zk.go [0,1,2,3,4,5,6,7,8,9,10,11] ?_
        iterate 12
          refine Zk.st (v:=?_) rfl ?_ ?_;rotate_left 1
          · intro w hSw;(try dsimp only at hSw);go_simp;try (with_reducible rfl)
          try simp only [Act.put,zA,zB,zC,zD,zE,zF]
        refine Zk.fin ?_;refine wpAnyH_ready (rs:=[12,13]) (by kernel_rfl) (by simp) ?_;refine AllReadyH.cons rfl (fun K hK=>?_) (AllReadyH.cons rfl (fun K hK=>?_) AllReadyH.nil)
        · go_simp;refine (HTK.out _ (by assumption)).mono ?_;rintro d w4 ⟨la4,lc4,rfl,how4,hb4⟩;have hS:=qA9 (by assumption) hb4;have hS4:=hS;have hz4:=hb4.size;have hb4':=hb4.size;refine hK.out _ _ hS (fun hHeld=>?_);clear hK K;try simp only [Act.put,zA,zB,zC,zD,zE,zF]
          refine Zk.rd (i:=13) rfl (fun K hK=>?_);go_simp;have hS:=qHC (by assumption) (.cells #[.int .i64 0,.slice none 0 0] 135);refine hK.out _ _ hS (fun hHeld=>?_);clear hK K;try simp only [Act.put,zA,zB,zC,zD,zE,zF]
          refine Zk.rd (i:=14) rfl (fun K hK=>?_);go_simp;have hS:=qHC hS4 (.cells #[.int .i64 tc,.slice la4 tl.length lc4] 135);refine hK.out _ _ hS (fun hHeld=>?_);clear hK K;try simp only [Act.put,zA,zB,zC,zD,zE,zF]
          refine wpAnyH_done (by kernel_rfl) ?_ _;have hV3:=hS3.2.size;have hne:b≠w4.heap.size:=by have:=hS4.2.size;omega
          have hne':w4.heap.size≠b:=Ne.symm hne;have y0:(w4.alloc (.cells #[.int .i64 tc,.slice la4 tl.length lc4] 135)).cell? ⟨w4.heap.size,0,none⟩=some (.int .i64 tc):=by simp
          have y1:(w4.alloc (.cells #[.int .i64 tc,.slice la4 tl.length lc4] 135)).cell? ⟨w4.heap.size,1,none⟩=some (.slice la4 tl.length lc4):=by simp
          have yo:qA7 (w4.alloc (.cells #[.int .i64 tc,.slice la4 tl.length lc4] 135)) w.heap.size (.slice la4 tl.length lc4) tl:=qB0 (how4.alloc _) (by show w.heap.size<=w3.heap.size;omega);have yl:w4.heap.size < (w4.alloc (.cells #[.int .i64 tc,.slice la4 tl.length lc4] 135)).heap.size:=by simp
          have ybl:b < (w4.alloc (.cells #[.int .i64 tc,.slice la4 tl.length lc4] 135)).heap.size:=by have:=hS4.2.size;simp;omega
          clear hb4' how4 hb4;generalize w4.alloc (.cells #[.int .i64 tc,.slice la4 tl.length lc4] 135)=Y at *
          have yf:Y.frozen? ⟨b,2,none⟩=false:=(hS.2.frozen (p:=⟨b,2,none⟩) hbl).trans cf;have yc:Y.cell? ⟨b,2,none⟩=some (.slice la ls.length lc):=(hS.1 b 2 hbl).trans c2';have HY:Hid (qA7 Y w.heap.size (.slice la4 tl.length lc4) tl/\Below w.heap.size w Y):=⟨yo,HB0.out.trans (hS.2.mono HB0.out.size)⟩;clear yo;go_wp2_with fail
          go_ret;exact ⟨_,la4,lc4,rfl,HY.out.1,HY.out.2,rfl⟩
        · go_simp;have hS:=qHC (by assumption) (.cells #[.int .i64 0,.slice none 0 0] 135);refine hK.out _ _ hS (fun hHeld=>?_);clear hK K;try simp only [Act.put,zA,zB,zC,zD,zE,zF]
          refine Zk.rd (i:=12) rfl (fun K hK=>?_);go_simp;refine (HTK.out _ (by assumption)).mono ?_;rintro d w4 ⟨la4,lc4,rfl,how4,hb4⟩;have hS:=qA9 (by assumption) hb4;have hS4:=hS;have hz4:=hb4.size;have hb4':=hb4.size;have n0:w4.cell? ⟨w3.heap.size,0,none⟩=some (.int .i64 0):=(hb4.cell (p:=⟨w3.heap.size,0,none⟩) (by simp)).trans (by simp);have n1:w4.cell? ⟨w3.heap.size,1,none⟩=some (.slice none 0 0):=(hb4.cell (p:=⟨w3.heap.size,1,none⟩) (by simp)).trans (by simp);have f0:w4.frozen? ⟨w3.heap.size,0,none⟩=false:=(hb4.frozen (p:=⟨w3.heap.size,0,none⟩) (by simp)).trans (by simp [go_sem]);have f1:w4.frozen? ⟨w3.heap.size,1,none⟩=false:=(hb4.frozen (p:=⟨w3.heap.size,1,none⟩) (by simp)).trans (by simp [go_sem]);have hlw:w3.heap.size < w4.heap.size:=by simp at hb4';omega
          refine hK.out _ _ hS (fun hHeld=>?_);clear hK K;try simp only [Act.put,zA,zB,zC,zD,zE,zF]
          refine Zk.rd (i:=14) rfl (fun K hK=>?_);go_simp;have hS:=qJr (qJr hS4 (p:=⟨w3.heap.size,0,none⟩) hS3.2.size (.int .i64 tc)) (p:=⟨w3.heap.size,1,none⟩) hS3.2.size (.slice la4 tl.length lc4);refine hK.out _ _ hS (fun hHeld=>?_);clear hK K;try simp only [Act.put,zA,zB,zC,zD,zE,zF]
          refine wpAnyH_done (by kernel_rfl) ?_ _;have hV3:=hS3.2.size;have hne:b≠w3.heap.size:=by have:=hS4.2.size;omega
          have hne':w3.heap.size≠b:=Ne.symm hne;have y0:((w4.setCell ⟨w3.heap.size,0,none⟩ (.int .i64 tc)).setCell ⟨w3.heap.size,1,none⟩ (.slice la4 tl.length lc4)).cell? ⟨w3.heap.size,0,none⟩=some (.int .i64 tc):=by simp [go_sem,n0,n1,hlw]
          have y1:((w4.setCell ⟨w3.heap.size,0,none⟩ (.int .i64 tc)).setCell ⟨w3.heap.size,1,none⟩ (.slice la4 tl.length lc4)).cell? ⟨w3.heap.size,1,none⟩=some (.slice la4 tl.length lc4):=by simp [go_sem,n0,n1,hlw]
          have yo:qA7 ((w4.setCell ⟨w3.heap.size,0,none⟩ (.int .i64 tc)).setCell ⟨w3.heap.size,1,none⟩ (.slice la4 tl.length lc4)) w.heap.size (.slice la4 tl.length lc4) tl:=qB0 (ownsRow_setCell_below (ownsRow_setCell_below how4 (a:=⟨w3.heap.size,0,none⟩) (by simp) _) (a:=⟨w3.heap.size,1,none⟩) (by simp) _) (by simp;omega);have yl:w3.heap.size < ((w4.setCell ⟨w3.heap.size,0,none⟩ (.int .i64 tc)).setCell ⟨w3.heap.size,1,none⟩ (.slice la4 tl.length lc4)).heap.size:=by simp [hlw]
          have ybl:b < ((w4.setCell ⟨w3.heap.size,0,none⟩ (.int .i64 tc)).setCell ⟨w3.heap.size,1,none⟩ (.slice la4 tl.length lc4)).heap.size:=by have:=hS4.2.size;simp;omega
          clear n0 n1 f0 f1 hlw hb4' how4 hb4;generalize (w4.setCell ⟨w3.heap.size,0,none⟩ (.int .i64 tc)).setCell ⟨w3.heap.size,1,none⟩ (.slice la4 tl.length lc4)=Y at *
          have yf:Y.frozen? ⟨b,2,none⟩=false:=(hS.2.frozen (p:=⟨b,2,none⟩) hbl).trans cf;have yc:Y.cell? ⟨b,2,none⟩=some (.slice la ls.length lc):=(hS.1 b 2 hbl).trans c2';have HY:Hid (qA7 Y w.heap.size (.slice la4 tl.length lc4) tl/\Below w.heap.size w Y):=⟨yo,HB0.out.trans (hS.2.mono HB0.out.size)⟩;clear yo;go_wp2_with fail
          go_ret;exact ⟨_,la4,lc4,rfl,HY.out.1,HY.out.2,rfl⟩
        -- end 5
    · go_region_held3 (fun w'=>KR V w') (first | exact hS | exact qC1 _)
        (first | (go_at_call 140;refine (HIS.out _ (by assumption)).mono ?_;rintro d w' ⟨rfl,hb2⟩;have hS:=qA9 (by assumption) hb2)
               | (go_at_call 141;refine (HHR.out _ (by assumption)).mono ?_;rintro d w' ⟨rfl,hb2⟩;have hS:=qA9 (by assumption) hb2))
      go_wp2;go_ret;exact And.intro (fun _=>⟨rfl,HB0.out.trans (hS.2.mono HB0.out.size)⟩) (And.intro (fun q=>Bool.noConfusion q) (fun q=>Bool.noConfusion q))
  · skip
    -- by hand 1
    refine wp_region_held_drew (S:=fun w'=>KR V w') (by kernel_rfl) (qC1 _) (fun hHeld=>?_);refine Zk.go [0,1,2,3,4,5] ?_
    iterate 6
      refine Zk.st (v:=?_) rfl ?_ ?_;rotate_left 1
      · intro w hSw;(try dsimp only at hSw);go_simp;try (with_reducible rfl)
      try simp only [Act.put,zA,zB,zC,zD,zE,zF]
    refine Zk.fin ?_;refine Zk.rd (i:=6) rfl (fun K hK=>?_);go_simp;refine (HIS.out _ (by assumption)).mono ?_;rintro d w' ⟨rfl,hb2⟩;have hS:=qA9 (by assumption) hb2;refine hK.out _ _ hS (fun hHeld=>?_);clear hK K;try simp only [Act.put,zA,zB,zC,zD,zE,zF]
    refine Zk.go [7,8,9,10,11] ?_;refine Zk.st (v:=?_) rfl ?_ ?_;rotate_left 1
    · intro w hSw;(try dsimp only at hSw);go_simp;try (with_reducible rfl)
    try simp only [Act.put,zA,zB,zC,zD,zE,zF]
    iterate 3 (refine Zk.un rfl ?_;try simp only [Act.put,zA,zB,zC,zD,zE,zF])
    refine Zk.st (v:=?_) rfl ?_ ?_;rotate_left 1
    · intro w hSw;(try dsimp only at hSw);go_simp;try (with_reducible rfl)
    try simp only [Act.put,zA,zB,zC,zD,zE,zF]
    refine Zk.fin ?_;refine wpAnyH_done (by kernel_rfl) ?_ _;-- end 1
    go_wp2;go_ret;exact And.intro (fun _=>⟨rfl,HB0.out.trans (hS.2.mono HB0.out.size)⟩) (And.intro (fun q=>Bool.noConfusion q) (fun q=>Bool.noConfusion q))

theorem qEZ (bc bb bs bx b:Nat) (c:Int) (cv sv lv:Value) (ba:Option Addr) (bn bcap:Nat) (u:FrameMode) (w:World) (hc:w.cell? ⟨bc,0,none⟩=some (.int .i64 c)) (hc0:c≠0) (hb:w.cell? ⟨bb,0,none⟩=some (.slice ba bn bcap)) (hsb:w.cell? ⟨bs,0,none⟩=some (.pointer (some ⟨b,0,none⟩))) (hs:qX8 w b cv sv lv) :
  CallsD Tryz.prog 109 #[.pointer (some ⟨bc,0,none⟩),.pointer (some ⟨bb,0,none⟩),.pointer (some ⟨bs,0,none⟩),.pointer (some ⟨bx,0,none⟩)] u w fun d u' w'=>u'=u/\d = .returned (.tuple #[])/\w'=w.setCell ⟨b,2,none⟩ (.slice ba bn bcap):=by
 have cb:(c != 0)=true:=by simp [hc0]
 have c2:=hs.c2;have f2:=hs.fz 2;have l0:=zL w _ hc;have l1:=zL w _ hb;have l2:=zL w _ hsb;have l3:=hs.lt;clear hs hc0;refine callsD_of_wp Tryz.func109 rfl ?_;simp [Tryz.ntmps109,Array.replicate];go_wp2_with fail
 first | go_end0 | go_returns | go_ret
 exact ⟨rfl,rfl⟩

structure PO (bs bx b:Nat) (x:StI) (cv lv:Value) (w:World):Prop where
 s:w.cell? ⟨bs,0,none⟩=some (.pointer (some ⟨b,0,none⟩))
 x0:w.cell? ⟨bx,0,none⟩=some (.int .i64 x.k)
 x1:w.cell? ⟨bx,1,none⟩=some (.int .i64 x.e)
 x2:w.cell? ⟨bx,2,none⟩=some (.int .i64 x.f)
 x3:w.cell? ⟨bx,3,none⟩=some (.int .i64 x.s)
 x4:w.cell? ⟨bx,4,none⟩=some (.int .i64 x.n)
 c0:w.cell? ⟨b,0,none⟩=some cv
 c1:∃ sv,w.cell? ⟨b,1,none⟩=some sv
 c2:w.cell? ⟨b,2,none⟩=some lv
 fz:∀ j,w.frozen? ⟨b,j,none⟩=false
 ns:bs≠b
 nx:bx≠b
theorem PO.lt {bs bx b:Nat} {x:StI} {cv lv:Value} {w:World} (h:PO bs bx b x cv lv w):b < w.heap.size:=zL w ⟨b,0,none⟩ h.c0
theorem PO.same {bs bx b:Nat} {x:StI} {cv lv:Value} {w w':World} (h:PO bs bx b x cv lv w) (k0:w'.heap[b]? = w.heap[b]?) (k1:w'.heap[bs]? = w.heap[bs]?) (k2:w'.heap[bx]? = w.heap[bx]?):PO bs bx b x cv lv w':=by
 have q0:∀ o,w'.cell? ⟨b,o,none⟩=w.cell? ⟨b,o,none⟩:=fun o=>World.cell?_of_block k0
 have q1:∀ o,w'.cell? ⟨bs,o,none⟩=w.cell? ⟨bs,o,none⟩:=fun o=>World.cell?_of_block k1
 have q2:∀ o,w'.cell? ⟨bx,o,none⟩=w.cell? ⟨bx,o,none⟩:=fun o=>World.cell?_of_block k2
 obtain ⟨sv,h1⟩:=h.c1;exact ⟨(q1 0).trans h.s,(q2 0).trans h.x0,(q2 1).trans h.x1,(q2 2).trans h.x2,(q2 3).trans h.x3,(q2 4).trans h.x4,(q0 0).trans h.c0,⟨sv,(q0 1).trans h1⟩,(q0 2).trans h.c2,fun j=>(World.frozen?_of_block (a:=⟨b,j,none⟩) k0).trans (h.fz j),h.ns,h.nx⟩
theorem PO.below {bs bx b:Nat} {x:StI} {cv lv:Value} {w w':World} (h:PO bs bx b x cv lv w) (hb:Below w.heap.size w w'):PO bs bx b x cv lv w' :=
 h.same (hb.block b h.lt) (hb.block bs (zL w _ h.s)) (hb.block bx (zL w _ h.x0))
theorem PO.grown {bs bx b:Nat} {x:StI} {cv lv:Value} {w w':World} {row:Option Nat} (h:PO bs bx b x cv lv w) (hg:w.grownBy w' row) (h0:some b≠row) (h1:some bs≠row) (h2:some bx≠row):PO bs bx b x cv lv w' :=
 h.same (hg.block b h.lt h0) (hg.block bs (zL w _ h.s) h1) (hg.block bx (zL w _ h.x0) h2)
theorem PO.put {bs bx b:Nat} {x:StI} {cv lv:Value} {w:World} (h:PO bs bx b x cv lv w) (v:Value):PO bs bx b x cv lv (w.setCell ⟨b,1,none⟩ v):=by
 obtain ⟨sv,h1⟩:=h.c1;have n1:=h.ns;have n2:=h.nx;exact ⟨by simp [go_sem,h.s,n1,n1.symm],by simp [go_sem,h.x0,n2,n2.symm],by simp [go_sem,h.x1,n2,n2.symm],by simp [go_sem,h.x2,n2,n2.symm],by simp [go_sem,h.x3,n2,n2.symm],by simp [go_sem,h.x4,n2,n2.symm],by simp [go_sem,h.c0],⟨v,by simp [go_sem,h1]⟩,by simp [go_sem,h.c2],fun j=>by simp [h.fz],n1,n2⟩
theorem qGI (B bc bb bs bx b:Nat) (x:StI) (cv lv:Value) (sa:Option Addr) (n sc:Nat) (said:List StI) (u:FrameMode) (w:World) (hc:w.cell? ⟨bc,0,none⟩=some (.int .i64 0)) (h:PO bs bx b x cv lv w) (hsv:w.cell? ⟨b,1,none⟩=some (.slice sa n sc)) (hz:said.length=n) (hn:n<=1000) (ho:qB2 w B (.slice sa n sc) said) (hB:B<=w.heap.size) (hnb:∀ q,some q=(Value.slice sa n sc).ownBlock->q=b\/q=bs\/q=bx->False) :
  CallsD Tryz.prog 109 #[.pointer (some ⟨bc,0,none⟩),.pointer (some ⟨bb,0,none⟩),.pointer (some ⟨bs,0,none⟩),.pointer (some ⟨bx,0,none⟩)] u w fun d u' w'=>u'=u/\d = .returned (.tuple #[])/\∃ w1 g c,qB2 w1 B (.slice (some ⟨g,0,none⟩) (n+1) c) (said++[x])/\(w.alloc (.cells #[.int .i64 x.k,.int .i64 x.e,.int .i64 x.f,.int .i64 x.s,.int .i64 x.n] 85)).drew.grownBy w1 (Value.slice sa n sc).ownBlock/\w'=w1.setCell ⟨b,1,none⟩ (.slice (some ⟨g,0,none⟩) (n+1) c):=by
 obtain ⟨i0,hi,hz0,hz1,hz2⟩:=info_parts Tryz.info85;have H0:=h;have HO:Hid (w.ownsRow B 85 5 (.slice sa n sc) n (qC3 said)):=by have h':=ho;unfold qB2 at h';rw [hz] at h';exact h'
 have HZ:Hid (said.length=n):=hz;have l0:=zL w _ hc;have l1:=zL w _ h.s;have l2:=zL w _ h.x0;have l3:=h.lt;clear ho h;refine callsD_of_wp Tryz.func109 rfl ?_;simp [Tryz.ntmps109,Array.replicate];go_upto_region 2 with fail
 refine wp_region_held_drew (S:=fun w'=>PO bs bx b x cv lv w') (by kernel_rfl) (PO.below H0 (Below.refl _ _).drew) (fun hHeld=>?_);refine Zk.go [0,1,2,3,5] ?_
 iterate 5
  refine Zk.st (v:=?_) rfl ?_ ?_;rotate_left 1
  ·intro w hSw;have p0:=hSw.s;have p2:=hSw.x0;have p3:=hSw.x1;have p4:=hSw.x2;have p5:=hSw.x3;have p6:=hSw.x4;clear hSw;go_simp;try (with_reducible rfl)
  try simp only [Act.put,zA,zB,zC,zD,zE,zF]
 refine Zk.fin ?_;refine wpAnyH_ready (rs:=[4,6]) (by kernel_rfl) (by simp) ?_;refine AllReadyH.cons rfl (fun K hK=>?_) (AllReadyH.cons rfl (fun K hK=>?_) AllReadyH.nil)
 ·go_simp;have hS:=hHeld;refine hK.out _ _ hS (fun hHeld=>?_);clear hK K;try simp only [Act.put,zA,zB,zC,zD,zE,zF]
  refine Zk.rd (i:=6) rfl (fun K hK=>?_);go_simp;have hS:PO bs bx b x cv lv (w.alloc (.cells #[.int .i64 x.k,.int .i64 x.e,.int .i64 x.f,.int .i64 x.s,.int .i64 x.n] 85)).drew:=(PO.below H0 (zN)).below (Below.refl _ _).drew;refine hK.out _ _ hS (fun hHeld=>?_);clear hK K;try simp only [Act.put,zA,zB,zC,zD,zE,zF]
  refine wpAnyH_ready (rs:=[7]) (by kernel_rfl) (by simp) ?_;refine AllReadyH.cons rfl (fun K hK=>?_) AllReadyH.nil;refine qM0 rfl (.tmp 14) (.tmp 16) 33 rfl B 85 i0 (.agg #[.int .i64 0,.int .i64 0,.int .i64 0,.int .i64 0,.int .i64 0]) 5 40 Tryz.underlying33 hi hz0 hz1 hz2 rfl (by decide) (.slice sa n sc) n (qC3 said) (by rfl) (World.ownsRow.drew (HO.out.alloc _)) ⟨w.heap.size,0,none⟩ 1 1 [.int .i64 x.k,.int .i64 x.e,.int .i64 x.f,.int .i64 x.s,.int .i64 x.n] (by rfl) (by rfl) (fun j u hj=>by match j,hj with | 0,hj=>simp at hj;subst hj;simp [Addr.add] | 1,hj=>simp at hj;subst hj;simp [Addr.add] | 2,hj=>simp at hj;subst hj;simp [Addr.add] | 3,hj=>simp at hj;subst hj;simp [Addr.add] | 4,hj=>simp at hj;subst hj;simp [Addr.add] | j+5,hj=>simp at hj) (qO3 [x]) (by unfold maxLen;omega) (by omega) (by show B<=(w.alloc _).heap.size;simp;omega) ?_;intro v7 w7 hown7 hgrow7 hnil7;have hS:PO bs bx b x cv lv w7:=PO.grown hHeld hgrow7 (fun e=>hnb b e (.inl rfl)) (fun e=>hnb bs e (.inr (.inl rfl))) (fun e=>hnb bx e (.inr (.inr rfl)));have H7:Hid (qB2 w7 B v7 (said++[x])):=QF5 (by rw [HZ.out];exact hown7);have G7:Hid ((w.alloc (.cells #[.int .i64 x.k,.int .i64 x.e,.int .i64 x.f,.int .i64 x.s,.int .i64 x.n] 85)).drew.grownBy w7 (Value.slice sa n sc).ownBlock):=hgrow7;have N7:v7 ≠ .slice none 0 0:=fun e=>by have:=(hnil7.1 e).2;simp at this
  obtain ⟨g7,c7,hv7⟩:=H7.out.shape N7;rw [List.length_append,HZ.out,show n + [x].length=n+1 from rfl] at hv7;subst hv7;clear N7;have hS7:=hS;obtain ⟨sv7,b7⟩:=hS.c1;have f7:=hS.fz 1;have l7:=hS.lt;clear hown7 hnil7 hgrow7;refine hK.out _ _ hS (fun hHeld=>?_);clear hK K;try simp only [Act.put,zA,zB,zC,zD,zE,zF]
  refine Zk.go [8,9] ?_
  iterate 2
   refine Zk.st (v:=?_) rfl ?_ ?_;rotate_left 1
   ·intro w hSw;have p0:=hSw.s;have p2:=hSw.x0;have p3:=hSw.x1;have p4:=hSw.x2;have p5:=hSw.x3;have p6:=hSw.x4;clear hSw;go_simp;try (with_reducible rfl)
   try simp only [Act.put,zA,zB,zC,zD,zE,zF]
  refine Zk.fin ?_;refine Zk.rd (i:=10) rfl (fun K hK=>?_);go_simp;have hS:=hS7.put (.slice (some ⟨g7,0,none⟩) (n+1) c7);refine hK.out _ _ hS (fun hHeld=>?_);clear hK K;try simp only [Act.put,zA,zB,zC,zD,zE,zF]
  refine wpAnyH_done (by kernel_rfl) ?_ _;go_wp2_with fail
  first | go_end0 | go_returns | go_ret
  exact ⟨rfl,w7,g7,c7,H7.out,G7.out,rfl⟩
 ·go_simp;have hS:PO bs bx b x cv lv (w.alloc (.cells #[.int .i64 x.k,.int .i64 x.e,.int .i64 x.f,.int .i64 x.s,.int .i64 x.n] 85)).drew:=(PO.below H0 (zN)).below (Below.refl _ _).drew;refine hK.out _ _ hS (fun hHeld=>?_);clear hK K;try simp only [Act.put,zA,zB,zC,zD,zE,zF]
  refine Zk.rd (i:=4) rfl (fun K hK=>?_);go_simp;have hS:=hHeld;refine hK.out _ _ hS (fun hHeld=>?_);clear hK K;try simp only [Act.put,zA,zB,zC,zD,zE,zF]
  refine wpAnyH_ready (rs:=[7]) (by kernel_rfl) (by simp) ?_;refine AllReadyH.cons rfl (fun K hK=>?_) AllReadyH.nil;refine qM0 rfl (.tmp 14) (.tmp 16) 33 rfl B 85 i0 (.agg #[.int .i64 0,.int .i64 0,.int .i64 0,.int .i64 0,.int .i64 0]) 5 40 Tryz.underlying33 hi hz0 hz1 hz2 rfl (by decide) (.slice sa n sc) n (qC3 said) (by rfl) (World.ownsRow.drew (HO.out.alloc _)) ⟨w.heap.size,0,none⟩ 1 1 [.int .i64 x.k,.int .i64 x.e,.int .i64 x.f,.int .i64 x.s,.int .i64 x.n] (by rfl) (by rfl) (fun j u hj=>by match j,hj with | 0,hj=>simp at hj;subst hj;simp [Addr.add] | 1,hj=>simp at hj;subst hj;simp [Addr.add] | 2,hj=>simp at hj;subst hj;simp [Addr.add] | 3,hj=>simp at hj;subst hj;simp [Addr.add] | 4,hj=>simp at hj;subst hj;simp [Addr.add] | j+5,hj=>simp at hj) (qO3 [x]) (by unfold maxLen;omega) (by omega) (by show B<=(w.alloc _).heap.size;simp;omega) ?_;intro v7 w7 hown7 hgrow7 hnil7;have hS:PO bs bx b x cv lv w7:=PO.grown hHeld hgrow7 (fun e=>hnb b e (.inl rfl)) (fun e=>hnb bs e (.inr (.inl rfl))) (fun e=>hnb bx e (.inr (.inr rfl)));have H7:Hid (qB2 w7 B v7 (said++[x])):=QF5 (by rw [HZ.out];exact hown7);have G7:Hid ((w.alloc (.cells #[.int .i64 x.k,.int .i64 x.e,.int .i64 x.f,.int .i64 x.s,.int .i64 x.n] 85)).drew.grownBy w7 (Value.slice sa n sc).ownBlock):=hgrow7;have N7:v7 ≠ .slice none 0 0:=fun e=>by have:=(hnil7.1 e).2;simp at this
  obtain ⟨g7,c7,hv7⟩:=H7.out.shape N7;rw [List.length_append,HZ.out,show n + [x].length=n+1 from rfl] at hv7;subst hv7;clear N7;have hS7:=hS;obtain ⟨sv7,b7⟩:=hS.c1;have f7:=hS.fz 1;have l7:=hS.lt;clear hown7 hnil7 hgrow7;refine hK.out _ _ hS (fun hHeld=>?_);clear hK K;try simp only [Act.put,zA,zB,zC,zD,zE,zF]
  refine Zk.go [8,9] ?_
  iterate 2
   refine Zk.st (v:=?_) rfl ?_ ?_;rotate_left 1
   ·intro w hSw;have p0:=hSw.s;have p2:=hSw.x0;have p3:=hSw.x1;have p4:=hSw.x2;have p5:=hSw.x3;have p6:=hSw.x4;clear hSw;go_simp;try (with_reducible rfl)
   try simp only [Act.put,zA,zB,zC,zD,zE,zF]
  refine Zk.fin ?_;refine Zk.rd (i:=10) rfl (fun K hK=>?_);go_simp;have hS:=hS7.put (.slice (some ⟨g7,0,none⟩) (n+1) c7);refine hK.out _ _ hS (fun hHeld=>?_);clear hK K;try simp only [Act.put,zA,zB,zC,zD,zE,zF]
  refine wpAnyH_done (by kernel_rfl) ?_ _;go_wp2_with fail
  first | go_end0 | go_returns | go_ret
  exact ⟨rfl,w7,g7,c7,H7.out,G7.out,rfl⟩

structure qN0 (n b:Nat) (x:StI) (c:Int) (w:World):Prop where
 s:w.cell? ⟨n,0,none⟩=some (.pointer (some ⟨b,0,none⟩))
 x0:w.cell? ⟨n+1,0,none⟩=some (.int .i64 x.k)
 x1:w.cell? ⟨n+1,1,none⟩=some (.int .i64 x.e)
 x2:w.cell? ⟨n+1,2,none⟩=some (.int .i64 x.f)
 x3:w.cell? ⟨n+1,3,none⟩=some (.int .i64 x.s)
 x4:w.cell? ⟨n+1,4,none⟩=some (.int .i64 x.n)
 c:w.cell? ⟨n+1+1,0,none⟩=some (.int .i64 c)
 f:w.frozen? ⟨n+1+1,0,none⟩=false
theorem qN0.lt {n b:Nat} {x:StI} {c:Int} {w:World} (h:qN0 n b x c w):n+1+1 < w.heap.size:=zL w ⟨n+1+1,0,none⟩ h.c
theorem qN0.below {n b:Nat} {x:StI} {c:Int} {w w':World} (h:qN0 n b x c w) (hb:Below w.heap.size w w'):qN0 n b x c w':=by
 have h2:=h.lt;have k0:∀ o,w'.cell? ⟨n,o,none⟩=w.cell? ⟨n,o,none⟩:=fun o=>hb.cell (p:=⟨n,o,none⟩) (by show n < w.heap.size;omega)
 have k1:∀ o,w'.cell? ⟨n+1,o,none⟩=w.cell? ⟨n+1,o,none⟩:=fun o=>hb.cell (p:=⟨n+1,o,none⟩) (by show n+1 < w.heap.size;omega)
 exact ⟨(k0 0).trans h.s,(k1 0).trans h.x0,(k1 1).trans h.x1,(k1 2).trans h.x2,(k1 3).trans h.x3,(k1 4).trans h.x4,(hb.cell (p:=⟨n+1+1,0,none⟩) h2).trans h.c,(hb.frozen (p:=⟨n+1+1,0,none⟩) h2).trans h.f⟩
theorem qN0.put {n b:Nat} {x:StI} {c:Int} {w:World} (h:qN0 n b x c w) (c':Int):qN0 n b x c' (w.setCell ⟨n+1+1,0,none⟩ (.int .i64 c')) :=
 ⟨by simp [go_sem,h.s],by simp [go_sem,h.x0],by simp [go_sem,h.x1],by simp [go_sem,h.x2],by simp [go_sem,h.x3],by simp [go_sem,h.x4],by simp [go_sem,h.c],by simp [h.f]⟩
abbrev qE3 (w:World) (b:Nat) (x:StI):World:=((w.alloc (.cells #[.pointer (some ⟨b,0,none⟩)] 145)).alloc (.cells #[.int .i64 x.k,.int .i64 x.e,.int .i64 x.f,.int .i64 x.s,.int .i64 x.n] 85)).alloc (.cells #[.int .i64 0] 2)
theorem qN0.new (w:World) (b:Nat) (x:StI):qN0 w.heap.size b x 0 (qE3 w b x) :=
 ⟨by unfold qE3;simp [go_sem],by unfold qE3;simp [go_sem],by unfold qE3;simp [go_sem],by unfold qE3;simp [go_sem],by unfold qE3;simp [go_sem],by unfold qE3;simp [go_sem],by unfold qE3;simp [go_sem],by unfold qE3;simp [go_sem]⟩
theorem qE3.below (w:World) (b:Nat) (x:StI):Below w.heap.size w (qE3 w b x) :=
 ((zN).alloc (by simp) _).alloc (by simp;omega) _
theorem QY1 (b:Nat) (cv lv:Value) (sa:Option Addr) (n sc:Nat) (said:List StI) (x:StI) (w:World) (hs:qX8 w b cv (.slice sa n sc) lv) (h:qN8 w sa n said) (hn:n<=1048576) (hc:qB5 x≠0) :
  Calls Tryz.prog 84 #[.pointer (some ⟨b,0,none⟩),.agg #[.int .i64 x.k,.int .i64 x.e,.int .i64 x.f,.int .i64 x.s,.int .i64 x.n]] w fun d w'=>d = .returned (.int .i64 (qB5 x))/\Below w.heap.size w w':=by
 obtain ⟨V,hV⟩:∃ V,V=qE3 w b x:=⟨_,rfl⟩;have HV:Hid (V=qE3 w b x):=hV;have E0:qN0 w.heap.size b x 0 V:=by rw [hV];exact qN0.new w b x
 have B0:Below w.heap.size w V:=by rw [hV];exact qE3.below w b x
 have hbl:=hs.lt;have HS0:Hid (qX8 V b cv (.slice sa n sc) lv):=hs.below B0;have HI0:Hid (qN8 V sa n said):=h.below B0;have HB0:Hid (Below w.heap.size w V):=B0;have HE0:Hid (qN0 w.heap.size b x 0 V):=E0;have hcb:(qB5 x != 0)=true:=by simp [hc]
 clear hs h B0 hV E0;go_enter Tryz.func84,Tryz.ntmps84;go_wp2_with fail
 rw [show ((w.alloc (.cells #[.pointer (some ⟨b,0,none⟩)] 145)).alloc (.cells #[.int .i64 x.k,.int .i64 x.e,.int .i64 x.f,.int .i64 x.s,.int .i64 x.n] 85)).alloc (.cells #[.int .i64 0] 2)=V from HV.out.symm];refine (qB7 x _).mono ?_;rintro d w1 ⟨rfl,hb1⟩;have E1:=HE0.out.below hb1;have e1:=E1.c;have f1:=E1.f;have l1:=E1.lt;have E2:=E1.put (qB5 x);have hlt2:b≠w.heap.size+1+1:=by omega
 have S2:qX8 (w1.setCell ⟨w.heap.size+1+1,0,none⟩ (.int .i64 (qB5 x))) b cv (.slice sa n sc) lv:=by
  have q:=HS0.out.below hb1;exact ⟨by simp [go_sem,q.c0,hlt2,hlt2.symm],by simp [go_sem,q.c1,hlt2,hlt2.symm],by simp [go_sem,q.c2,hlt2,hlt2.symm],fun j=>by simp [q.fz]⟩
 have B2:Hid (Below w.heap.size w (w1.setCell ⟨w.heap.size+1+1,0,none⟩ (.int .i64 (qB5 x)))):=(HB0.out.trans (hb1.mono HB0.out.size)).setCell (by show w.heap.size<=w.heap.size+1+1;omega) _;go_upto_region 2 with fail
 generalize w1.setCell ⟨w.heap.size+1+1,0,none⟩ (.int .i64 (qB5 x))=w2 at *
 clear e1 f1 l1 E1 hb1;refine wp_region_held_drew (S:=fun w'=>qN0 w.heap.size b x (qB5 x) w'/\qX8 w' b cv (.slice sa n sc) lv) (by kernel_rfl) (⟨E2.below (Below.refl _ _).drew,S2.below (Below.refl _ _).drew⟩) (fun hHeld=>?_);refine Zk.go [0,1,2,3,4,5,6,7,8,9] ?_
 iterate 3
  refine Zk.st (v:=?_) rfl ?_ ?_;rotate_left 1
  ·intro w hSw;have p0:=hSw.1.s;have p1:=hSw.1.x0;have p2:=hSw.1.x1;have p3:=hSw.1.x2;have p4:=hSw.1.x3;have p5:=hSw.1.x4;have p6:=hSw.1.c;have p7:=hSw.2.c1;clear hSw;go_simp;try (with_reducible rfl)
  try simp only [Act.put,zA,zB,zC,zD,zE,zF]
 iterate 6 (refine Zk.un rfl ?_;try simp only [Act.put,zA,zB,zC,zD,zE,zF])
 refine Zk.st (v:=?_) rfl ?_ ?_;rotate_left 1
 ·intro w hSw;have p0:=hSw.1.s;have p1:=hSw.1.x0;have p2:=hSw.1.x1;have p3:=hSw.1.x2;have p4:=hSw.1.x3;have p5:=hSw.1.x4;have p6:=hSw.1.c;have p7:=hSw.2.c1;clear hSw;go_simp;try (with_reducible rfl)
 try simp only [Act.put,zA,zB,zC,zD,zE,zF]
 refine Zk.fin ?_;refine wpAnyH_done (by kernel_rfl) ?_ _;have p6:=hHeld.1.c;have p7:=hHeld.1.f;have p8:=hHeld.1.lt;have p9:w2.cell? ⟨w.heap.size+1+1,0,none⟩=some (.int .i64 (qB5 x)):=E2.c;go_wp2_with fail
 refine bodyPost_ret (v:=.int .i64 (qB5 x)) (by simp [results,Tryz.results84,go_sem,p9,p8]) rfl ⟨rfl,?_⟩;exact (B2.out.drew).setCell (by show w.heap.size<=w.heap.size+1+1;omega) _

theorem qY0 {P:Program} {c:Code} {Q:Exit->Act->World->Prop} {a:Act} {w:World} (h:c.wp P (fun e a w=>e = .normal/\Q .normal a w) a w):c.wp P Q a w :=
 Code.wp_mono (fun e a w h=>by obtain ⟨rfl,h⟩:=h;exact h) h
theorem qA1 {w:World} {b:Nat} {cs:Array Value} {t:TypeId} (h:w.heap[b]? = some (.cells cs t (0,0))) (j:Nat):w.cell? ⟨b,j,none⟩=cs[j]? := by simp [World.cell?,h]
theorem qL9 {w:World} {b:Nat} {cs:Array Value} {t:TypeId} (h:w.heap[b]? = some (.cells cs t (0,0))) (j:Nat):w.frozen? ⟨b,j,none⟩=false:=by simp [World.frozen?,h]
theorem qK7 {w:World} {g b:Nat} {c c':Array Value} {t t':TypeId} (h:w.heap[g]? = some (.cells c t (0,0))) (h':w.heap[b]? = some (.cells c' t' (0,0))) (ht:t≠t'):g≠b:=by
 rintro rfl;have:=Option.some.inj (h.symm.trans h');injection this with _ e _
 exact ht e
theorem qL1 {w:World} {g k:Nat} {C:Array Value} {t:TypeId} {fr:Nat × Nat} {v:Value} (h:w.heap[g]? = some (.cells C t fr)):(w.setCell ⟨g,k,none⟩ v).heap[g]? = some (.cells (C.setIfInBounds k v) t fr):=by
 obtain ⟨hlt,hk⟩:=Array.getElem?_eq_some_iff.1 h;show (w.heap.modify g _)[g]? = _
 rw [Array.getElem?_eq_getElem (by rw [Array.size_modify];exact hlt),Array.getElem_modify_self,hk];rfl
theorem qC5 {w:World} {B:Nat} {v:Value} {gs:List StI} (h:qB2 w B v gs) {g:Nat} (e:v.ownBlock=some g):∃ cur,w.heap[g]? = some (.cells cur 85 (0,0))/\B<=g:=by
 have h0:w.ownsRow B 85 5 v gs.length (qC3 gs):=h;rcases h0.2 with q | ⟨g',cap,cur,e1,hg,hb,rest⟩
 ·rw [q.1] at e;simp [Value.ownBlock] at e
 ·rw [e1] at e;simp [Value.ownBlock] at e;subst e;exact ⟨cur,hb,hg⟩
theorem qC6 {w:World} {B:Nat} {v:Value} {gs:List LkI} (h:qA7 w B v gs) {g:Nat} (e:v.ownBlock=some g):∃ cur,w.heap[g]? = some (.cells cur 103 (0,0))/\B<=g:=by
 have h0:w.ownsRow B 103 4 v gs.length (qA3 gs):=h;rcases h0.2 with q | ⟨g',cap,cur,e1,hg,hb,rest⟩
 ·rw [q.1] at e;simp [Value.ownBlock] at e
 ·rw [e1] at e;simp [Value.ownBlock] at e;subst e;exact ⟨cur,hb,hg⟩
structure qG9 (w:World) (b B:Nat) (cv:Value) (sa:Option Addr) (sc:Nat) (said:List StI) (la:Option Addr) (lc:Nat) (ls:List LkI):Prop where
 bk:w.heap[b]? = some (.cells #[cv,.slice sa said.length sc,.slice la ls.length lc] 91 (0,0))
 ow:qB2 w B (.slice sa said.length sc) said
 lk:qA7 w B (.slice la ls.length lc) ls
 hb:B<=b
theorem qG9.lt {w:World} {b B:Nat} {cv:Value} {sa:Option Addr} {sc:Nat} {said:List StI} {la:Option Addr} {lc:Nat} {ls:List LkI} (h:qG9 w b B cv sa sc said la lc ls):b < w.heap.size:=(Array.getElem?_eq_some_iff.1 h.bk).1
theorem qG9.spk {w:World} {b B:Nat} {cv:Value} {sa:Option Addr} {sc:Nat} {said:List StI} {la:Option Addr} {lc:Nat} {ls:List LkI} (h:qG9 w b B cv sa sc said la lc ls):qX8 w b cv (.slice sa said.length sc) (.slice la ls.length lc) :=
 ⟨by rw [qA1 h.bk];rfl,by rw [qA1 h.bk];rfl,by rw [qA1 h.bk];rfl,fun j=>qL9 h.bk j⟩
theorem qG9.below {w w':World} {b B:Nat} {cv:Value} {sa:Option Addr} {sc:Nat} {said:List StI} {la:Option Addr} {lc:Nat} {ls:List LkI} (h:qG9 w b B cv sa sc said la lc ls) (hb:Below w.heap.size w w'):qG9 w' b B cv sa sc said la lc ls :=
 ⟨(hb.block b h.lt).trans h.bk,h.ow.below hb,h.lk.below hb,h.hb⟩
theorem qFp {w:World} {b B:Nat} {cv lv:Value} {sa:Option Addr} {sc:Nat} {said:List StI} {la:Option Addr} {lc:Nat} {ls:List LkI} (hbk:w.heap[b]? = some (.cells #[cv,.slice sa said.length sc,lv] 91 (0,0))) (how:qB2 w B (.slice sa said.length sc) said) (hlk:qA7 w B (.slice la ls.length lc) ls) (hB:B<=b):qG9 (w.setCell ⟨b,2,none⟩ (.slice la ls.length lc)) b B cv sa sc said la lc ls:=by
 refine ⟨qL1 hbk,qA0 how (fun g e=>?_),qA0 hlk (fun g e=>?_),hB⟩
 ·obtain ⟨cur,hc,_⟩:=qC5 how e;exact Below.heap_setCell _ _ _ _ (qK7 hc hbk (by decide))
 ·obtain ⟨cur,hc,_⟩:=qC6 hlk e;exact Below.heap_setCell _ _ _ _ (qK7 hc hbk (by decide))
theorem qIH {w:World} {b B:Nat} {cv sv:Value} {sa:Option Addr} {sc:Nat} {said:List StI} {la:Option Addr} {lc:Nat} {ls:List LkI} (hbk:w.heap[b]? = some (.cells #[cv,sv,.slice la ls.length lc] 91 (0,0))) (how:qB2 w B (.slice sa said.length sc) said) (hlk:qA7 w B (.slice la ls.length lc) ls) (hB:B<=b):qG9 (w.setCell ⟨b,1,none⟩ (.slice sa said.length sc)) b B cv sa sc said la lc ls:=by
 refine ⟨qL1 hbk,qA0 how (fun g e=>?_),qA0 hlk (fun g e=>?_),hB⟩
 ·obtain ⟨cur,hc,_⟩:=qC5 how e;exact Below.heap_setCell _ _ _ _ (qK7 hc hbk (by decide))
 ·obtain ⟨cur,hc,_⟩:=qC6 hlk e;exact Below.heap_setCell _ _ _ _ (qK7 hc hbk (by decide))
structure EW (w:World) (n bb b B:Nat) (x:StI) (c:Int) (cv:Value) (sa:Option Addr) (sc:Nat) (said:List StI) (lv:Value) (la:Option Addr) (lc:Nat) (ls:List LkI) (W:World):Prop where
 e:qN0 n b x c W
 bf:W.cell? ⟨bb,0,none⟩=some (.slice la ls.length lc)
 bk:W.heap[b]? = some (.cells #[cv,.slice sa said.length sc,lv] 91 (0,0))
 ow:qB2 W B (.slice sa said.length sc) said
 lk:qA7 W B (.slice la ls.length lc) ls
 hb:B<=b
 bn:b < n
 nb:n+1+1 < bb
 bl:Below B w W
 so:∀ g,(Value.slice sa said.length sc).ownBlock=some g->g < n
 lo:∀ g,(Value.slice la ls.length lc).ownBlock=some g->g < n
theorem EW.lt {w:World} {n bb b B:Nat} {x:StI} {c:Int} {cv:Value} {sa:Option Addr} {sc:Nat} {said:List StI} {lv:Value} {la:Option Addr} {lc:Nat} {ls:List LkI} {W:World} (h:EW w n bb b B x c cv sa sc said lv la lc ls W):b < W.heap.size:=(Array.getElem?_eq_some_iff.1 h.bk).1
theorem EW.spk {w:World} {n bb b B:Nat} {x:StI} {c:Int} {cv:Value} {sa:Option Addr} {sc:Nat} {said:List StI} {lv:Value} {la:Option Addr} {lc:Nat} {ls:List LkI} {W:World} (h:EW w n bb b B x c cv sa sc said lv la lc ls W):qX8 W b cv (.slice sa said.length sc) lv :=
 ⟨by rw [qA1 h.bk];rfl,by rw [qA1 h.bk];rfl,by rw [qA1 h.bk];rfl,fun j=>qL9 h.bk j⟩
theorem EW.below {w:World} {n bb b B:Nat} {x:StI} {c:Int} {cv:Value} {sa:Option Addr} {sc:Nat} {said:List StI} {lv:Value} {la:Option Addr} {lc:Nat} {ls:List LkI} {W W':World} (h:EW w n bb b B x c cv sa sc said lv la lc ls W) (hb:Below W.heap.size W W'):EW w n bb b B x c cv sa sc said lv la lc ls W' :=
 ⟨h.e.below hb,(hb.cell (p:=⟨bb,0,none⟩) (zL W _ h.bf)).trans h.bf,(hb.block b h.lt).trans h.bk,h.ow.below hb,h.lk.below hb,h.hb,h.bn,h.nb,h.bl.trans (hb.mono (Nat.le_trans h.hb (Nat.le_of_lt h.lt))),h.so,h.lo⟩
theorem EW.code {w:World} {n bb b B:Nat} {x:StI} {c:Int} {cv:Value} {sa:Option Addr} {sc:Nat} {said:List StI} {lv:Value} {la:Option Addr} {lc:Nat} {ls:List LkI} {W:World} (h:EW w n bb b B x c cv sa sc said lv la lc ls W) (c':Int):EW w n bb b B x c' cv sa sc said lv la lc ls (W.setCell ⟨n+1+1,0,none⟩ (.int .i64 c')):=by
 have n1:=h.bn;have n2:=h.nb;have n3:=h.hb;refine ⟨h.e.put c',by rw [World.cell?_setCell_other (h:=fun e=>by have:=congrArg Addr.block e;simp at this;omega)];exact h.bf,(Below.heap_setCell _ _ _ _ (by show b≠n+1+1;omega)).trans h.bk,qA0 h.ow (fun g e=>Below.heap_setCell _ _ _ _ (by have:=h.so g e;show g≠n+1+1;omega)),qA0 h.lk (fun g e=>Below.heap_setCell _ _ _ _ (by have:=h.lo g e;show g≠n+1+1;omega)),h.hb,h.bn,h.nb,h.bl.setCell (by show B<=n+1+1;omega) _,h.so,h.lo⟩
theorem EW.lock {w:World} {n bb b B:Nat} {x:StI} {c:Int} {cv:Value} {sa:Option Addr} {sc:Nat} {said:List StI} {lv:Value} {la:Option Addr} {lc:Nat} {ls:List LkI} {W:World} (h:EW w n bb b B x c cv sa sc said lv la lc ls W) (v:Value):EW w n bb b B x c cv sa sc said v la lc ls (W.setCell ⟨b,2,none⟩ v):=by
 have n1:=h.bn;have n2:=h.nb;have q:=h.e;have d0:b≠n:=by omega
 have d1:b≠n+1:=by omega
 have d2:b≠n+1+1:=by omega
 refine ⟨⟨by simp [go_sem,q.s,d0,d0.symm],by simp [go_sem,q.x0,d1,d1.symm],by simp [go_sem,q.x1,d1,d1.symm],by simp [go_sem,q.x2,d1,d1.symm],by simp [go_sem,q.x3,d1,d1.symm],by simp [go_sem,q.x4,d1,d1.symm],by simp [go_sem,q.c,d2,d2.symm],by simp [q.f]⟩,by rw [World.cell?_setCell_other (h:=fun e=>by have:=congrArg Addr.block e;simp at this;omega)];exact h.bf,qL1 h.bk,qA0 h.ow (fun g e=>?_),qA0 h.lk (fun g e=>?_),h.hb,h.bn,h.nb,h.bl.setCell h.hb _,h.so,h.lo⟩
 ·obtain ⟨cur,hc,_⟩:=qC5 h.ow e;exact Below.heap_setCell _ _ _ _ (qK7 hc h.bk (by decide))
 ·obtain ⟨cur,hc,_⟩:=qC6 h.lk e;exact Below.heap_setCell _ _ _ _ (qK7 hc h.bk (by decide))
theorem EW.off_bad {w:World} {n bb b B:Nat} {x:StI} {c:Int} {cv:Value} {sa:Option Addr} {sc:Nat} {said:List StI} {lv:Value} {la:Option Addr} {lc:Nat} {ls:List LkI} {W:World} (h:EW w n bb b B x c cv sa sc said lv la lc ls W) (hc:c≠0) (u:FrameMode) :
  CallsD Tryz.prog 109 #[.pointer (some ⟨n+1+1,0,none⟩),.pointer (some ⟨bb,0,none⟩),.pointer (some ⟨n,0,none⟩),.pointer (some ⟨n+1,0,none⟩)] u W fun d u' w'=>u'=u/\d = .returned (.tuple #[])/\w'.cell? ⟨n+1+1,0,none⟩=some (.int .i64 c)/\qG9 w' b B cv sa sc said la lc ls/\Below B w w':=by
 refine (qEZ (n+1+1) bb n (n+1) b c cv _ lv la ls.length lc u W h.e.c hc h.bf h.e.s h.spk).mono ?_;rintro d u' w' ⟨rfl,rfl,rfl⟩;exact ⟨rfl,rfl,(h.lock _).e.c,qFp h.bk h.ow h.lk h.hb,h.bl.setCell h.hb _⟩
theorem EW.off_ok {w:World} {n bb b B:Nat} {x:StI} {cv:Value} {sa:Option Addr} {sc:Nat} {said:List StI} {la:Option Addr} {lc:Nat} {ls:List LkI} {la':Option Addr} {lc':Nat} {ls':List LkI} {W:World} (h:EW w n bb b B x 0 cv sa sc said (.slice la' ls'.length lc') la lc ls W) (hl:qA7 W B (.slice la' ls'.length lc') ls') (hn:said.length<=1000) (u:FrameMode) :
  CallsD Tryz.prog 109 #[.pointer (some ⟨n+1+1,0,none⟩),.pointer (some ⟨bb,0,none⟩),.pointer (some ⟨n,0,none⟩),.pointer (some ⟨n+1,0,none⟩)] u W fun d u' w'=>u'=u/\d = .returned (.tuple #[])/\w'.cell? ⟨n+1+1,0,none⟩=some (.int .i64 0)/\(∃ sa' sc',qG9 w' b B cv sa' sc' (said++[x]) la' lc' ls')/\Below B w w':=by
 have n1:=h.bn;have n2:=h.nb;have q:=h.e;have hBW:B<=W.heap.size:=Nat.le_trans h.hb (Nat.le_of_lt h.lt)
 have hne:∀ g,(Value.slice sa said.length sc).ownBlock=some g->g≠b:=fun g e=>by
  obtain ⟨cur,hc,_⟩:=qC5 h.ow e;exact qK7 hc h.bk (by decide)
 refine (qGI B (n+1+1) bb n (n+1) b x cv (.slice la' ls'.length lc') sa said.length sc said u W q.c ⟨q.s,q.x0,q.x1,q.x2,q.x3,q.x4,h.spk.c0,⟨_,h.spk.c1⟩,h.spk.c2,h.spk.fz,by omega,by omega⟩ h.spk.c1 rfl hn h.ow hBW (fun g e hq=>?_)).mono ?_
 ·have a1:=hne g e.symm;have a2:=h.so g e.symm;omega
 rintro d u' w' ⟨rfl,rfl,w1,g,cc,ho1,hg1,rfl⟩;have A0:Below W.heap.size W (W.alloc (.cells #[.int .i64 x.k,.int .i64 x.e,.int .i64 x.f,.int .i64 x.s,.int .i64 x.n] 85)).drew:=(zN).drew;have h1:=h.below A0;have hl1:=hl.below A0;have hne':some b≠(Value.slice sa said.length sc).ownBlock:=fun e=>hne b e.symm rfl
 have bk1:w1.heap[b]? = some (.cells #[cv,.slice sa said.length sc,.slice la' ls'.length lc'] 91 (0,0)):=(hg1.block b h1.lt hne').trans h1.bk
 have hl2:qA7 w1 B (.slice la' ls'.length lc') ls':=qA0 hl1 (fun k e=>by
  obtain ⟨cur,hc,_⟩:=qC6 hl1 e;refine hg1.block k (Array.getElem?_eq_some_iff.1 hc).1 (fun e2=>?_);obtain ⟨cur2,hc2,_⟩:=qC5 h1.ow e2.symm;exact qK7 hc2 hc (by decide) rfl)
 have eL:said.length+1=(said++[x]).length:=by simp
 have ho2:qB2 w1 B (.slice (some ⟨g,0,none⟩) (said++[x]).length cc) (said++[x]):=by rw [<- eL];exact ho1
 have c2:w1.cell? ⟨n+1+1,0,none⟩=some (.int .i64 0):=by
  have hb2:=h1.e.lt;refine (World.cell?_of_block (w:=_) (w':=w1) (a:=⟨n+1+1,0,none⟩) (hg1.block (n+1+1) hb2 (fun e=>?_))).trans h1.e.c;have:=h.so _ e.symm;omega
 have B1:Below B w w1:=qBx h1.ow h1.bl hg1 (Nat.le_trans hBW A0.size);have e2:(Value.slice (some ⟨g,0,none⟩) (said.length+1) cc) = .slice (some ⟨g,0,none⟩) (said++[x]).length cc:=by rw [eL]
 rw [e2];exact ⟨rfl,rfl,by rw [World.cell?_setCell_other (h:=fun e=>by have:=congrArg Addr.block e;simp at this;omega)];exact c2,⟨_,_,qIH bk1 ho2 hl2 h.hb⟩,B1.setCell h.hb _⟩
