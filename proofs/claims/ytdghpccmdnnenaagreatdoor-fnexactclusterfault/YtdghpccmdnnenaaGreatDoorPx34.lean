/- Contracts. -/
import Derived.Test.YtdghpccmdnnenaaGreatDoorPx22
namespace Go.Proofs.YtdghpccmdnnenaaGreatDoor
set_option maxRecDepth 100000
set_option maxHeartbeats 8000000
open Go.RowKit Go.Proofs.Tryz
set_option linter.unusedVariables false
set_option linter.unusedSimpArgs false
theorem qIu(v lo hi:Int)(t:Bool)(h:inR v lo hi=t)(w:World):CP 109 #[iv v,iv lo,iv hi] w fun e w'=>e=.returned (.bool t)/\w'=w:=by
 rw[<- h];exact (qT5 v lo hi w).mono fun e w' hh=>⟨hh.1,hh.2.symm⟩
theorem qLM(v:Int)(t:Bool)(h:qR2 v=t)(w:World):CP 122 #[iv v] w fun e w'=>e=.returned (.bool t)/\w'=w:=by
 rw[<- h];exact (qMs v w).mono fun e w' hh=>⟨hh.1,hh.2.symm⟩
theorem QW8(g o:Nat)(c:qA5)(gs:List GrI)(f s:Int)(w:World)(hle:qE2 1048576 c)(hk:qH4 w g o c)(h:qF4 w c)(hg:QM8 c.zs gs)(hpol:qC3 c.zs=0)(hpt:∀(k:Nat) (x:List qC6),(qA3 c.fs)[k]?=some x->qN3 x=0):
  CP 73 #[.pointer (some ⟨g,o,none⟩),iv f,iv s] w fun e w'=>e=.returned (.bool (alW (qA3 c.fs) gs f s))/\Below w.heap.size w w':=by
 have HZ:Hid ((qA3 c.fs).length=c.fn):=by show (qA3 c.fs).length=c.fn;rw[QC4];exact h.forms.1
 have hfn:(c.fn:Int)<=1048576:=by have:=hle.forms;omega
 have hgl:=hk.lt;obtain⟨k0,k1,k2,k3,k4⟩:=hk;cases q1:inR f 1 (c.fn:Int)
 .have HV:Hid (alW (qA3 c.fs) gs f s=false):=qDt (by rw[HZ.out];exact q1);rw[HV.out];have HQ:=hJJ q1;clear q1 h hle hg hpol hpt;go_enter func73,ntmps73;go_wp2;go_quiet ((go_at_call 109;exact Calls.quiet_of_same (qIu _ _ _ false HQ.out _)))
  go_wp2;go_ret;exact⟨rfl,below_drewN (gC _ _) _⟩
 .obtain⟨f1,f2⟩:=(qD3 _ _ _).1 q1;have HQ:=hJJ q1;cases q2:qR2 s
  .have HV:Hid (alW (qA3 c.fs) gs f s=false):=qNM q2;rw[HV.out];have HQ2:=hJJ q2;clear q1 q2 h hle hg hpol hpt;go_enter func73,ntmps73;go_wp2;go_quiet ((first | (go_at_call 109;exact Calls.quiet_of_same (qIu _ _ _ true HQ.out _)) | (go_at_call 122;exact Calls.quiet_of_same (qLM _ false HQ2.out _))))
   go_wp2;go_ret;exact⟨rfl,below_drewN (gC _ _) _⟩
  .have HQ2:Hid (qR2 s=true):=q2;obtain⟨k,rfl⟩:∃k:Nat,f=(k:Int)+1:=⟨(f-1).toNat,by omega⟩;have hk:k<c.fn:=by omega
   have hk':(k:Int)+1<=(c.fn:Int):=by omega
   have hk2:(k:Int)<(c.fn:Int):=by omega
   have hjw:IntKind.i64.wrap ((k:Int)+1-1)=(k:Int):=by rw[kG];omega
   have hjw2:IntKind.i64.wrap (k:Int)=(k:Int):=by rw[kG];omega
   obtain⟨x,rfl⟩:∃x:Nat,s=(x:Int):=⟨s.toNat,by simp[qR2]at q2;omega⟩;have hx:x<256:=by simp[qR2]at q2;omega
   have hx':(x:Int)<256:=by omega
   obtain⟨b,off,p,hfa,hs,hr⟩:=h.forms.at hk
   have HV:Hid (alW (qA3 c.fs) gs ((k:Int)+1) (x:Int)=qS6 (ofG gs) p.ps x):=by
    show alW _ _ _ _=_
    rw[qLl (qV8 hs),q2,Bool.true_and,kS]
   rw[HV.out];obtain⟨T,hT⟩:∃T,qS6 (ofG gs) p.ps=T:=⟨_,rfl⟩;have HT:Hid (∀w':World,((∀b o,b<w.heap.size->w'.cell? ⟨b,o,none⟩=w.cell? ⟨b,o,none⟩)/\Below w.heap.size w w')->CP 123 #[.slice c.ra c.rn c.rc,.slice p.a p.n p.cap] w' fun e w''=>∃g,e=.returned (.slice (some ⟨g,0,none⟩) 256 256)/\QA0 w'' g T/\Below w'.heap.size w' w''):=fun w' q=>by rw[<- hT];exact qKP c.ra c.rn c.rc c.zs p.a p.n p.cap p.ps gs w' (h.rules.below q.2) hpol hg (hr.below q.2).2 (hpt k _ (qV8 hs))
   rw[hT];have hc:=hr.1;have hbl:=hr.lt;rw[hfa]at k3;clear q1 q2 h hle hg hpol hpt hs hr hfa hT f1 f2 k0 k1 k4;go_enter func73,ntmps73;go_wp2;refine gL (S:=fun w'=>(∀b o,b<w.heap.size->w'.cell? ⟨b,o,none⟩=w.cell? ⟨b,o,none⟩)/\Below w.heap.size w w') (by kernel_rfl) (qA8 _) (fun hHeld=>?_);refine Zk.go [0,1,2,3,4,5] ?_
   iterate 6
    refine Zk.st (v:=?_) rfl ?_ ?_;rotate_left 1
    .intro w hSw;(try dsimp only at hSw);go_simp;try (with_reducible rfl)
    try simp only[Act.put,zA,zB,zC,zD,zE,zF]
   refine Zk.fin ?_;refine Zk.rd (i:=6) rfl (fun K hK=>?_);go_simp;refine (qIu _ _ _ true HQ.out _).mono ?_;rintro e wA ⟨rfl,rfl⟩;have hS:=hHeld;refine hK.out _ _ hS (fun hHeld=>?_);clear hK K;try simp only[Act.put,zA,zB,zC,zD,zE,zF]
   refine Zk.go [7,8] ?_
   iterate 2
    refine Zk.st (v:=?_) rfl ?_ ?_;rotate_left 1
    .intro w hSw;(try dsimp only at hSw);go_simp;try (with_reducible rfl)
    try simp only[Act.put,zA,zB,zC,zD,zE,zF]
   refine Zk.fin ?_;refine Zk.rd (i:=9) rfl (fun K hK=>?_);go_simp;refine (qLM _ true HQ2.out _).mono ?_;rintro e wB ⟨rfl,rfl⟩;have hS:=hHeld;refine hK.out _ _ hS (fun hHeld=>?_);clear hK K;try simp only[Act.put,zA,zB,zC,zD,zE,zF]
   refine Zk.go [10,11,12,13,14,15,16,17,18,19,20,21,22,23,24,26] ?_
   iterate 16
    refine Zk.st (v:=?_) rfl ?_ ?_;rotate_left 1
    .intro w hSw;(try dsimp only at hSw);go_simp;try (with_reducible rfl)
    try simp only[Act.put,zA,zB,zC,zD,zE,zF]
   refine Zk.fin ?_;refine Zk.rd (i:=25) rfl (fun K hK=>?_);go_simp;refine (HT.out _ hHeld).mono ?_;rintro e wC ⟨g',rfl,hrow,hbC⟩;have cx:=hrow x hx;have hgl':=hrow.lt;have hS:=qA0 hHeld hbC;clear hrow;refine hK.out _ _ hS (fun hHeld=>?_);clear hK K;try simp only[Act.put,zA,zB,zC,zD,zE,zF]
   refine Zk.go [27] ?_;refine Zk.st (v:=?_) rfl ?_ ?_;rotate_left 1
   .intro w hSw;(try dsimp only at hSw);go_simp;try (with_reducible rfl)
   try simp only[Act.put,zA,zB,zC,zD,zE,zF]
   refine Zk.fin ?_;refine Zk.rd (i:=28) rfl (fun K hK=>?_);go_simp;refine hK.out _ _ hS (fun hHeld=>?_);clear hK K;try simp only[Act.put,zA,zB,zC,zD,zE,zF]
   refine Zk.go [29] ?_;refine Zk.st (v:=?_) rfl ?_ ?_;rotate_left 1
   .intro w hSw;(try dsimp only at hSw);go_simp;try (with_reducible rfl)
   try simp only[Act.put,zA,zB,zC,zD,zE,zF]
   refine Zk.fin ?_;refine Zk.rd (i:=30) rfl (fun K hK=>?_);go_simp;refine hK.out _ _ (by assumption) (fun hHeld=>?_);clear hK K;try simp only[Act.put,zA,zB,zC,zD,zE,zF]
   refine gZ (by kernel_rfl) ?_ _;go_wp2;go_ret;exact⟨rfl,hHeld.2⟩
