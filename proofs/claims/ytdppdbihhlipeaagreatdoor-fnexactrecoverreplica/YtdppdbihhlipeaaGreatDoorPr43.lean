/- Contracts. -/
import Derived.Test.YtdppdbihhlipeaaGreatDoorPr39
import Derived.LaidHandle
namespace Go.Proofs.YtdppdbihhlipeaaGreatDoor
set_option maxRecDepth 100000
set_option maxHeartbeats 8000000
open Go.RowKit
set_option linter.unusedVariables false
set_option linter.unusedSimpArgs false

theorem qHc (v lo hi:Int) (t:Bool) (h:inR v lo hi=t) (w:World):Calls Tryz.prog 57 #[.int .i64 v,.int .i64 lo,.int .i64 hi] w fun e w'=>e = .returned (.bool t)/\w'=w:=by
 rw [<- h];exact (qX7 v lo hi w).mono fun e w' hh=>⟨hh.1,hh.2.symm⟩
theorem qJc (v:Int) (t:Bool) (h:qQ2 v=t) (w:World):Calls Tryz.prog 125 #[.int .i64 v] w fun e w'=>e = .returned (.bool t)/\w'=w:=by
 rw [<- h];exact (qKs v w).mono fun e w' hh=>⟨hh.1,hh.2.symm⟩

theorem QT4 (g o:Nat) (c:qA4) (gs:List GrI) (f s:Int) (w:World) (hle:qE0 1048576 c) (hk:qI4 w g o c) (h:qF5 w c) (hg:QJ9 c.zs gs) (hpol:qD1 c.zs=0) (hpt:∀ (k:Nat) (x:List qD4),(qA5 c.fs)[k]? = some x->qN2 x=0) :
  Calls Tryz.prog 98 #[.pointer (some ⟨g,o,none⟩),.int .i64 f,.int .i64 s] w fun e w'=>e = .returned (.bool (alW (qA5 c.fs) gs f s))/\Below w.heap.size w w':=by
 have HZ:Hid ((qA5 c.fs).length=c.fn):=by show (qA5 c.fs).length=c.fn;rw [qZ5];exact h.forms.1
 have hfn:(c.fn:Int)<=1048576:=by have:=hle.forms;omega
 have hgl:=hk.lt;obtain ⟨k0,k1,k2,k3,k4⟩:=hk;cases q1:inR f 1 (c.fn:Int)
 ·have HV:Hid (alW (qA5 c.fs) gs f s=false):=qCw (by rw [HZ.out];exact q1);rw [HV.out];have HQ:Hid (inR f 1 (c.fn:Int)=false):=q1;clear q1 h hle hg hpol hpt;go_enter Tryz.func98,Tryz.ntmps98;go_wp2;go_quiet ((go_at_call 57;exact Calls.quiet_of_same (qHc _ _ _ false HQ.out _)))
  go_wp2;go_ret;exact ⟨rfl,below_drewN (Below.refl _ _) _⟩
 ·obtain ⟨f1,f2⟩:=(qE7 _ _ _).1 q1;have HQ:Hid (inR f 1 (c.fn:Int)=true):=q1;cases q2:qQ2 s
  ·have HV:Hid (alW (qA5 c.fs) gs f s=false):=qLL q2;rw [HV.out];have HQ2:Hid (qQ2 s=false):=q2;clear q1 q2 h hle hg hpol hpt;go_enter Tryz.func98,Tryz.ntmps98;go_wp2;go_quiet ((first | (go_at_call 57;exact Calls.quiet_of_same (qHc _ _ _ true HQ.out _)) | (go_at_call 125;exact Calls.quiet_of_same (qJc _ false HQ2.out _))))
   go_wp2;go_ret;exact ⟨rfl,below_drewN (Below.refl _ _) _⟩
  ·have HQ2:Hid (qQ2 s=true):=q2;obtain ⟨k,rfl⟩:∃ k:Nat,f=(k:Int)+1:=⟨(f - 1).toNat,by omega⟩;have hk:k < c.fn:=by omega
   have hk':(k:Int)+1<=(c.fn:Int):=by omega
   have hk2:(k:Int) < (c.fn:Int):=by omega
   have hjw:IntKind.i64.wrap ((k:Int)+1 - 1)=(k:Int):=by rw [IntKind.wrap_i64];omega
   have hjw2:IntKind.i64.wrap (k:Int)=(k:Int):=by rw [IntKind.wrap_i64];omega
   obtain ⟨x,rfl⟩:∃ x:Nat,s=(x:Int):=⟨s.toNat,by simp [qQ2] at q2;omega⟩;have hx:x < 256:=by simp [qQ2] at q2;omega
   have hx':(x:Int) < 256:=by omega
   obtain ⟨b,off,p,hfa,hs,hr⟩:=h.forms.at hk
   have HV:Hid (alW (qA5 c.fs) gs ((k:Int)+1) (x:Int)=qR7 (ofG gs) p.ps x):=by
    show alW _ _ _ _=_
    rw [qKC (qU8 hs),q2,Bool.true_and,Int.toNat_natCast]
   rw [HV.out];obtain ⟨T,hT⟩:∃ T,qR7 (ofG gs) p.ps=T:=⟨_,rfl⟩;have HT:Hid (∀ w':World,((∀ b o,b < w.heap.size->w'.cell? ⟨b,o,none⟩=w.cell? ⟨b,o,none⟩)/\Below w.heap.size w w')->Calls Tryz.prog 126 #[.slice c.ra c.rn c.rc,.slice p.a p.n p.cap] w' fun e w''=>∃ g,e = .returned (.slice (some ⟨g,0,none⟩) 256 256)/\qX9 w'' g T/\Below w'.heap.size w' w''):=fun w' q=>by rw [<- hT];exact qIu c.ra c.rn c.rc c.zs p.a p.n p.cap p.ps gs w' (h.rules.below q.2) hpol hg (hr.below q.2).2 (hpt k _ (qU8 hs))
   rw [hT];have hc:=hr.1;have hbl:=hr.lt;rw [hfa] at k3;clear q1 q2 h hle hg hpol hpt hs hr hfa hT f1 f2 k0 k1 k4;go_enter Tryz.func98,Tryz.ntmps98;go_wp2;refine wp_region_held_drew (S:=fun w'=>(∀ b o,b < w.heap.size->w'.cell? ⟨b,o,none⟩=w.cell? ⟨b,o,none⟩)/\Below w.heap.size w w') (by kernel_rfl) (qC1 _) (fun hHeld=>?_);refine Zk.go [0,1,2,3,4,5] ?_
   iterate 6
    refine Zk.st (v:=?_) rfl ?_ ?_;rotate_left 1
    ·intro w hSw;(try dsimp only at hSw);go_simp;try (with_reducible rfl)
    try simp only [Act.put,zA,zB,zC,zD,zE,zF]
   refine Zk.fin ?_;refine Zk.rd (i:=6) rfl (fun K hK=>?_);go_simp;refine (qHc _ _ _ true HQ.out _).mono ?_;rintro e wA ⟨rfl,rfl⟩;have hS:=hHeld;refine hK.out _ _ hS (fun hHeld=>?_);clear hK K;try simp only [Act.put,zA,zB,zC,zD,zE,zF]
   refine Zk.go [7,8] ?_
   iterate 2
    refine Zk.st (v:=?_) rfl ?_ ?_;rotate_left 1
    ·intro w hSw;(try dsimp only at hSw);go_simp;try (with_reducible rfl)
    try simp only [Act.put,zA,zB,zC,zD,zE,zF]
   refine Zk.fin ?_;refine Zk.rd (i:=9) rfl (fun K hK=>?_);go_simp;refine (qJc _ true HQ2.out _).mono ?_;rintro e wB ⟨rfl,rfl⟩;have hS:=hHeld;refine hK.out _ _ hS (fun hHeld=>?_);clear hK K;try simp only [Act.put,zA,zB,zC,zD,zE,zF]
   refine Zk.go [10,11,12,13,14,15,16,17,18,19,20,21,22,23,24,26] ?_
   iterate 16
    refine Zk.st (v:=?_) rfl ?_ ?_;rotate_left 1
    ·intro w hSw;(try dsimp only at hSw);go_simp;try (with_reducible rfl)
    try simp only [Act.put,zA,zB,zC,zD,zE,zF]
   refine Zk.fin ?_;refine Zk.rd (i:=25) rfl (fun K hK=>?_);go_simp;refine (HT.out _ hHeld).mono ?_;rintro e wC ⟨g',rfl,hrow,hbC⟩;have cx:=hrow x hx;have hgl':=hrow.lt;have hS:=qA9 hHeld hbC;clear hrow;refine hK.out _ _ hS (fun hHeld=>?_);clear hK K;try simp only [Act.put,zA,zB,zC,zD,zE,zF]
   refine Zk.go [27] ?_;refine Zk.st (v:=?_) rfl ?_ ?_;rotate_left 1
   ·intro w hSw;(try dsimp only at hSw);go_simp;try (with_reducible rfl)
   try simp only [Act.put,zA,zB,zC,zD,zE,zF]
   refine Zk.fin ?_;refine Zk.rd (i:=28) rfl (fun K hK=>?_);go_simp;refine hK.out _ _ hS (fun hHeld=>?_);clear hK K;try simp only [Act.put,zA,zB,zC,zD,zE,zF]
   refine Zk.go [29] ?_;refine Zk.st (v:=?_) rfl ?_ ?_;rotate_left 1
   ·intro w hSw;(try dsimp only at hSw);go_simp;try (with_reducible rfl)
   try simp only [Act.put,zA,zB,zC,zD,zE,zF]
   refine Zk.fin ?_;refine Zk.rd (i:=30) rfl (fun K hK=>?_);go_simp;refine hK.out _ _ (by assumption) (fun hHeld=>?_);clear hK K;try simp only [Act.put,zA,zB,zC,zD,zE,zF]
   refine wpAnyH_done (by kernel_rfl) ?_ _;go_wp2;go_ret;exact ⟨rfl,hHeld.2⟩

theorem Tryz.gM:Tryz.prog.globalNamed "loop.example/g00338/impl.errManyLocks" = some 1:=by kernel_rfl
theorem Tryz.gMT:(Tryz.prog.globals[1]?).map (·.type)=some 238:=by kernel_rfl
theorem qLC {text:List UInt8} {r:List (String × DataW Unit)} {W:World} (h:laidMet Tryz.prog (("loop.example/g00338/impl.errManyLocks", .iface "*errors.errorString" (.ptr (.agg [.lit (.string text)])))::r) W):qG2 1 W:=by
 obtain ⟨a,s,hv,_⟩:=laid_sentinel h Tryz.gM Tryz.gMT Tryz.underlying238 Tryz.rowES Tryz.underlying338 Tryz.underlying361 rfl rfl Tryz.underlying9 Tryz.cellsES Tryz.cellsStr;exact ⟨a,by simpa using World.var?_cell Tryz.gM hv 0⟩
theorem Tryz.et:Tryz.prog.globalNamed "errors.errorType" = some 2:=by kernel_rfl
theorem Tryz.rt:(Tryz.prog.cutTypes.find? (·.1 == "internal/reflectlite.rtype")).map (·.2)=some 320:=by kernel_rfl
theorem Tryz.oneRow:((List.range 373).filter fun t=>Tryz.prog.rowNamed t [101,114,114,111,114])=[238]:=by kernel_rfl
theorem Tryz.sizeTs:Tryz.prog.types.size=373:=by kernel_rfl
theorem qHL {laid:List (String × DataW Unit)} {W:World} (hm:("errors.errorType", .iface "internal/reflectlite.rtype" (.agg [.ptr (.lit (.string [101,114,114,111,114]))]))∈laid) (h:handlesMet Tryz.prog laid W):qE2 W:=by
 obtain ⟨name,u,ty,e1,e2,e3,e4,e5⟩:=h _ (by
  first
   | exact hm
   | exact List.mem_filter.2 ⟨hm,rfl⟩)
 have en:name=[101,114,114,111,114]:=(Option.some.inj e1).symm;subst en;obtain rfl:=Option.some.inj (Tryz.rt.symm.trans e2);have hm:ty∈(List.range 373).filter fun t=>Tryz.prog.rowNamed t [101,114,114,111,114]:=List.mem_filter.2 ⟨List.mem_range.2 (by rw [<- Tryz.sizeTs];exact e3),e4⟩;rw [Tryz.oneRow] at hm;obtain rfl:=List.mem_singleton.1 hm;have hh:typeHandle Tryz.prog 238 = .pointer (some ⟨3,238,none⟩):=by kernel_rfl
 rw [hh] at e5;unfold qE2;simpa using World.var?_cell Tryz.et e5 0
structure P1 (w W:World) (bx:Nat) (c:Int) (a1:Option Addr) (cap1:Nat) (ys:List LkI):Prop where
 bel:Below w.heap.size w W
 x:qBU W bx (.int .i64 c) (.slice a1 ys.length cap1)
 v:LkV W a1 ys
 lo:w.heap.size<=bx
 hi:bx < W.heap.size
 al:∀ g,a1=some ⟨g,0,none⟩->g < bx
structure P2 (W:World) (gl len:Nat) (zs:List LkI) (gi lb:Nat) (vs:List Int):Prop where
 la:qMz W gl zs
 lr:qMO W gl len
 ia:qHq W gi vs
 ir:qH9 W gi lb
 ll:gl < W.heap.size
 li:gi < W.heap.size
structure P3 (W:World) (B bz hi:Nat) (c:Int) (a2:Option Addr) (cap2:Nat) (ys:List LkI):Prop where
 x:qBU W bz (.int .i64 c) (.slice a2 ys.length cap2)
 o:qA7 W B (.slice a2 ys.length cap2) ys
 bl:B<=bz
 al:∀ q,(Value.slice a2 ys.length cap2).ownBlock=some q->q < bz
