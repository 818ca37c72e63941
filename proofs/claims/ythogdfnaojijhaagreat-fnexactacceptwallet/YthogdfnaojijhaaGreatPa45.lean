/- Contracts. -/
import Derived.Test.YthogdfnaojijhaaGreatPa43
import Derived.Test.YthogdfnaojijhaaGreatPa41
import Derived.Test.YthogdfnaojijhaaGreatPa44
namespace Go.Proofs.YthogdfnaojijhaaGreat
set_option maxRecDepth 100000
set_option maxHeartbeats 8000000
open Go.RowKit
set_option linter.unusedVariables false
set_option linter.unusedSimpArgs false

def qI4 (zs:List qA0) (ps:List qB3):Int:=orC (qA7 zs) (qH0 ps)
theorem qZ3 {zs:List qA0} {ps:List qB3} (h:qI4 zs ps=0):qA7 zs=0∧qH0 ps=0:=by
 unfold qI4 orC at h
 split at h
 ·rename_i q;exact ⟨q,h⟩
 ·rename_i q;exact absurd h q
theorem implMany_c (a:Option Addr) (n cap:Nat) (zs:List qA0) (a':Option Addr) (m cap':Nat) (ps:List qB3) (w:World) (hn:n≤1048576) (hm:m≤1048576) (hcap:n≤cap) (hcm:cap≤maxLen) (h:qA4 w a n zs) (h':qA9 w a' m ps) :
  Calls Tryz.prog 134 #[.slice a n cap,.slice a' m cap'] w fun e w'=>e = .returned (.int .i64 (qI4 zs ps))∧Below w.heap.size w w':=by
 have HP:Hid (∀ w2:World,Below w.heap.size w w2→Calls Tryz.prog 158 #[.slice a n cap] w2 fun e w'=>e = .returned (.int .i64 (qA7 zs))∧Below w2.heap.size w2 w'):=fun w2 q=>qN5 a n cap zs w2 hn hcap hcm (h.below q)
 have HQ:Hid (∀ w2:World,Below w.heap.size w w2→Calls Tryz.prog 161 #[.slice a' m cap'] w2 fun e w'=>e = .returned (.int .i64 (qH0 ps))∧Below w2.heap.size w2 w'):=fun w2 q=>qP1 a' m cap' ps w2 (by unfold maxLen;omega) (h'.below q)
 unfold qI4
 generalize qA7 zs=p at HP
 generalize qH0 ps=q at HQ
 clear h h'
 go_enter Tryz.func134,Tryz.ntmps134
 go_wp2_with fail
 refine (HP.out _ (Below.refl _ _)).mono ?_
 rintro e w1 ⟨rfl,hb1⟩
 go_wp2_with fail
 refine (HQ.out _ hb1).mono ?_
 rintro e w2 ⟨rfl,hb2'⟩
 have hb2:Below w.heap.size w w2:=hb1.trans (hb2'.mono hb1.size)
 have hb3:Below w.heap.size w (w2.alloc (.cells #[.int .i64 p,.int .i64 q] 2)):=hb2.alloc hb2.size _
 go_wp2_with (first | (go_at_call 97;refine (or64_c _ p q _ ?_ ?_).mono ?_;(· simp [go_sem]);(· simp [go_sem]);rintro e w' ⟨rfl,rfl⟩) | fail)
 go_ret
 exact ⟨rfl,hb3⟩
theorem index_told (cT:Array Value) (x:Nat) (v:Value) (hx:x < 256) (hs:cT.size=256) (hc:cT[x]? = some v) (hv:v.oneCell'=true) (w:World):(Instr.index 207 (.agg cT) (.int .i64 (x:Int))).run Tryz.prog w = .ok v w:=by
 have h1:(0:Int)≤(x:Int):=by omega
 have h2:(x:Int) < 256:=by omega
 simp [Instr.index,run_underlying qT0,go_sem,h1,h2,hs,hc]
 intro h;omega
def GivesA (f:Nat) (a:Option Addr) (n cap:Nat) (a':Option Addr) (m cap':Nat) (s:Int) (t:Bool) (w:World):Prop:=Calls Tryz.prog f #[.slice a n cap,.slice a' m cap',.int .i64 s] w fun e w'=>e = .returned (.bool t)∧Below w.heap.size w w'
def admB (zs:List qA0) (ps:List qB3) (gs:List GrI) (s:Int):Bool:=decide (qI4 zs ps=0)&&qJ9 s&&qK8 (ofG gs) ps s.toNat
theorem QM4 (a:Option Addr) (n cap:Nat) (zs:List qA0) (a':Option Addr) (m cap':Nat) (ps:List qB3) (gs:List GrI) (s:Int) (w:World) (hn:n≤1048576) (hm:m≤1048576) (hcap:n≤cap) (hcm:cap≤maxLen) (h:qA4 w a n zs) (h':qA9 w a' m ps) (hg:qA7 zs=0→QD0 zs gs) :
  GivesA 101 a n cap a' m cap' s (admB zs ps gs s) w:=by
 have HM:Hid (Calls Tryz.prog 134 #[.slice a n cap,.slice a' m cap'] w fun e w'=>e = .returned (.int .i64 (qI4 zs ps))∧Below w.heap.size w w'):=implMany_c a n cap zs a' m cap' ps w hn hm hcap hcm h h'
 have HT:Hid (qI4 zs ps=0→∀ w2:World,Below w.heap.size w w2→Calls Tryz.prog 136 #[.slice a n cap,.slice a' m cap'] w2 fun e w'=>e = .returned (.agg (qD4 (qK8 (ofG gs) ps)))∧Below w2.heap.size w2 w'):=fun hc w2 q=>toldBy_c a n cap zs a' m cap' ps gs w2 (h.below q) (qZ3 hc).1 (hg (qZ3 hc).1) (h'.below q) (qZ3 hc).2
 clear h h' hg
 unfold admB
 generalize qI4 zs ps=c at HM HT
 generalize qK8 (ofG gs) ps=T at HT
 unfold GivesA
 by_cases hc:c=0
 ·have hcb:(c==0)=true:=by simp [hc]
  rw [show decide (c=0)=true from decide_eq_true hc,Bool.true_and]
  cases hs:qJ9 s
  ·have hf:(if qJ9 s=true then (0:Int) else 3)=3:=by simp [hs]
   rw [Bool.false_and]
   clear hc
   go_enter Tryz.func101,Tryz.ntmps101
   go_wp2_with fail
   refine (HM.out).mono ?_
   rintro e w1 ⟨rfl,hb1⟩
   go_wp2_with (first | (go_at_call 135;refine (QD4 s _).mono ?_;rintro e w2 ⟨rfl,rfl⟩;rw [hf]) | fail)
   go_ret
   exact ⟨rfl,hb1⟩
  ·have hf:(if qJ9 s=true then (0:Int) else 3)=0:=by simp [hs]
   rw [Bool.true_and]
   obtain ⟨x,rfl⟩:∃ x:Nat,s=(x:Int):=⟨s.toNat,by simp [qJ9] at hs;omega⟩
   have hx:x < 256:=by simp [qJ9] at hs;omega
   have hx':(x:Int) < 256:=by omega
   rw [Int.toNat_natCast]
   have HT2:Hid _:=HT.out hc
   have cx:=qQ4 T hx
   have csz:=qD8 T
   generalize qD4 T=cT at HT2 cx csz
   clear hc hs
   go_enter Tryz.func101,Tryz.ntmps101
   go_wp2_with fail
   refine (HM.out).mono ?_
   rintro e w1 ⟨rfl,hb1⟩
   go_wp2_with (first | (go_at_call 135;refine (QD4 _ _).mono ?_;rintro e w2 ⟨rfl,rfl⟩;rw [hf]) | fail)
   refine (HT2.out _ hb1).mono ?_
   rintro e w3 ⟨rfl,hb3⟩
   have hix:=index_told cT x _ hx csz cx rfl w3
   go_wp2_with fail
   go_ret
   exact ⟨rfl,hb1.trans (hb3.mono hb1.size)⟩
 ·have hcb:(c==0)=false:=by simp [hc]
  rw [show decide (c=0)=false from decide_eq_false hc,Bool.false_and,Bool.false_and]
  clear hc
  go_enter Tryz.func101,Tryz.ntmps101
  go_wp2_with fail
  refine (HM.out).mono ?_
  rintro e w1 ⟨rfl,hb1⟩
  go_wp2_with fail
  go_ret
  exact ⟨rfl,hb1⟩

def alW (pss:List (List qB3)) (gs:List GrI) (f s:Int):Bool:=inR f 1 (pss.length:Int)&&(qJ9 s&&(match pss[(f - 1).toNat]? with
 | none=>false
 | some ps=>qK8 (ofG gs) ps s.toNat))
def alB (code:Int) (pss:List (List qB3)) (gs:List GrI) (f s:Int):Bool:=decide (code=0)&&alW pss gs f s
def GivesWC (fn:Nat) (c:qA3) (f s:Int) (t:Bool) (w:World):Prop:=Calls Tryz.prog fn #[.agg #[.int .i64 c.e,.int .i64 c.f,.slice c.ra c.rn c.rc,.slice c.fa c.fn c.fc,.slice c.ca c.cn c.cc],.int .i64 f,.int .i64 s] w fun e w'=>e = .returned (.bool t)∧Below w.heap.size w w'
theorem QT2 {pss:List (List qB3)} {gs:List GrI} {f s:Int} (h:inR f 1 (pss.length:Int)=false):alW pss gs f s=false:=by unfold alW;rw [h,Bool.false_and]
theorem alW_set {pss:List (List qB3)} {gs:List GrI} {f s:Int} (h:qJ9 s=false):alW pss gs f s=false:=by unfold alW;rw [h,Bool.false_and,Bool.and_false]
theorem alW_in {pss:List (List qB3)} {gs:List GrI} {k:Nat} {s:Int} {ps:List qB3} (h:pss[k]? = some ps):alW pss gs ((k:Int)+1) s=(qJ9 s&&qK8 (ofG gs) ps s.toNat):=by
 have hk:k < pss.length:=by
  by_cases q:k < pss.length
  ·exact q
  ·rw [List.getElem?_eq_none (by omega)] at h;cases h
 unfold alW
 rw [show inR ((k:Int)+1) 1 (pss.length:Int)=true by simp [inR];omega,Bool.true_and,show ((k:Int)+1 - 1).toNat=k by omega,h]
theorem QM3 (c:qA3) (gs:List GrI) (f s:Int) (w:World) (hle:qB7 1048576 c) (hrc:c.rn≤c.rc) (hrm:c.rc≤maxLen) (h:qC9 w c) (hg:qA7 c.zs=0→QD0 c.zs gs) :
  GivesWC 56 c f s (alB (qD3 c.e c.f c.zs (qA1 c.fs) c.cs) (qA1 c.fs) gs f s) w:=by
 obtain ⟨W,hW⟩:∃ W,W=w.alloc (.cells #[.int .i64 c.e,.int .i64 c.f,.slice c.ra c.rn c.rc,.slice c.fa c.fn c.fc,.slice c.ca c.cn c.cc] 72):=⟨_,rfl⟩
 have B0:Below w.heap.size w W:=by rw [hW];exact zN
 have K0:Hid (qJ7 W w.heap.size c):=by rw [hW];exact qJ7.new w c _
 obtain ⟨v,hv⟩:∃ v,qD3 c.e c.f c.zs (qA1 c.fs) c.cs=v:=⟨_,rfl⟩
 have HF:Hid (Calls Tryz.prog 100 #[.agg #[.int .i64 c.e,.int .i64 c.f,.slice c.ra c.rn c.rc,.slice c.fa c.fn c.fc,.slice c.ca c.cn c.cc]] W fun e w'=>e = .returned (.int .i64 v)∧Below W.heap.size W w'):=by rw [← hv];exact qN6 c W hle hrc hrm (h.below B0)
 have H:Hid (qC9 w c):=h
 have HLE:Hid (qB7 1048576 c):=hle
 have HZ:Hid ((qA1 c.fs).length=c.fn):=by show (qA1 c.fs).length=c.fn;rw [qQ8];exact h.forms.1
 have hfn:(c.fn:Int)≤1048576:=by have:=hle.forms;omega
 rw [hv]
 unfold GivesWC
 by_cases v0:v=0
 ·have hz:=QS4 (hv.trans v0)
  have HG:Hid (QD0 c.zs gs):=hg hz.2.2.1
  have HPT:Hid (qA7 c.zs=0∧∀ (k:Nat) (x:List qB3),(qA1 c.fs)[k]? = some x→qH0 x=0):=⟨hz.2.2.1,(fm_zero hz.2.2.2.1).2⟩
  have vb:(v != 0)=false:=by simp [v0]
  have HB:Hid (alB v (qA1 c.fs) gs f s=alW (qA1 c.fs) gs f s):=by show alB _ _ _ _ _=_;unfold alB;rw [show decide (v=0)=true from decide_eq_true v0,Bool.true_and]
  rw [HB.out]
  clear h hle hv hg hz v0
  by_cases f1:f < 1
  ·have HV:Hid (alW (qA1 c.fs) gs f s=false):=QT2 (by simp [inR];omega)
   rw [HV.out]
   go_enter Tryz.func56,Tryz.ntmps56
   go_wp2_with fail
   rw [← hW]
   clear hW
   refine HF.out.mono ?_
   rintro e w1 ⟨rfl,hb1⟩
   have B1:Below w.heap.size w w1:=B0.trans (hb1.mono B0.size)
   clear hb1 B0
   go_wp2
   go_ret
   exact ⟨rfl,B1⟩
  ·by_cases f2:(c.fn:Int) < f
   ·have HV:Hid (alW (qA1 c.fs) gs f s=false):=QT2 (by rw [HZ.out];simp [inR];omega)
    rw [HV.out]
    go_enter Tryz.func56,Tryz.ntmps56
    go_wp2_with fail
    rw [← hW]
    clear hW
    refine HF.out.mono ?_
    rintro e w1 ⟨rfl,hb1⟩
    have B1:Below w.heap.size w w1:=B0.trans (hb1.mono B0.size)
    obtain ⟨d0,d1,d2,d3,d4⟩:=K0.out.below hb1
    have hl1:=(K0.out.below hb1).lt
    clear hb1 B0 d0 d1 d2 d4
    go_wp2
    go_ret
    exact ⟨rfl,B1⟩
   ·obtain ⟨k,rfl⟩:∃ k:Nat,f=(k:Int)+1:=⟨(f - 1).toNat,by omega⟩
    have hk:k < c.fn:=by omega
    have hk':(k:Int)+1≤(c.fn:Int):=by omega
    have hk2:(k:Int) < (c.fn:Int):=by omega
    have hjw:IntKind.i64.wrap ((k:Int)+1 - 1)=(k:Int):=by rw [IntKind.wrap_i64];omega
    have hjw2:IntKind.i64.wrap (k:Int)=(k:Int):=by rw [IntKind.wrap_i64];omega
    clear f1 f2
    obtain ⟨b,off,x,hfa,hs,hr⟩:=H.out.forms.at hk
    have HV:Hid (alW (qA1 c.fs) gs ((k:Int)+1) s=admB c.zs x.ps gs s):=by
     show alW _ _ _ _=_
     rw [alW_in (qN2 hs)]
     unfold admB
     rw [show decide (qI4 c.zs x.ps=0)=true from decide_eq_true (by unfold qI4 orC;rw [if_pos HPT.out.1];exact HPT.out.2 k _ (qN2 hs)),Bool.true_and]
    rw [HV.out]
    have hxn:=HLE.out.parts k x hs
    obtain ⟨t,ht⟩:∃ t,admB c.zs x.ps gs s=t:=⟨_,rfl⟩
    have HA:Hid (∀ w2:World,Below w.heap.size w w2→Calls Tryz.prog 101 #[.slice c.ra c.rn c.rc,.slice x.a x.n x.cap,.int .i64 s] w2 fun e w'=>e = .returned (.bool t)∧Below w2.heap.size w2 w'):=fun w2 q=>by rw [← ht];exact QM4 c.ra c.rn c.rc c.zs x.a x.n x.cap x.ps gs s w2 HLE.out.rules hxn hrc hrm (H.out.rules.below q) ((hr.below q).2) (fun _=>HG.out)
    rw [ht]
    have HX:Hid (qW7 w b (off+k) x):=hr
    have HFA:Hid (c.fa=some ⟨b,off,none⟩):=hfa
    clear hs hr ht hfa
    go_enter Tryz.func56,Tryz.ntmps56
    go_wp2_with fail
    rw [← hW]
    clear hW
    refine HF.out.mono ?_
    rintro e w1 ⟨rfl,hb1⟩
    have B1:Below w.heap.size w w1:=B0.trans (hb1.mono B0.size)
    obtain ⟨d0,d1,d2,d3,d4⟩:=K0.out.below hb1
    have hl1:=(K0.out.below hb1).lt
    have hx1:=(HX.out.below B1).1
    have hbl:b < w1.heap.size:=(HX.out.below B1).lt
    rw [HFA.out] at d3
    clear hb1 B0 d0 d1 d4
    go_wp2
    have HA1:Hid (∀ w':World,((∀ b o,b < w1.heap.size→w'.cell? ⟨b,o,none⟩=w1.cell? ⟨b,o,none⟩)∧Below w1.heap.size w1 w')→Calls Tryz.prog 101 #[.slice c.ra c.rn c.rc,.slice x.a x.n x.cap,.int .i64 s] w' fun e w''=>e = .returned (.bool t)∧Below w'.heap.size w' w''):=fun w' q=>HA.out w' (B1.trans (q.2.mono B1.size))
    go_region_held3 (fun w'=>(∀ b o,b < w1.heap.size→w'.cell? ⟨b,o,none⟩=w1.cell? ⟨b,o,none⟩)∧Below w1.heap.size w1 w') (first | exact hS | exact qB6 _)
     (first | (go_at_call 101;refine (HA1.out _ (by assumption)).mono ?_;rintro e w' ⟨rfl,hb2⟩;have hS:=qA8 (by assumption) hb2))
    go_wp2
    go_ret
    exact ⟨rfl,B1.trans (hS.2.mono B1.size)⟩
 ·have vb:(v != 0)=true:=by simp [v0]
  have HB:Hid (alB v (qA1 c.fs) gs f s=false):=by show alB _ _ _ _ _=_;unfold alB;rw [show decide (v=0)=false from decide_eq_false v0,Bool.false_and]
  rw [HB.out]
  clear h hle hv hg v0
  go_enter Tryz.func56,Tryz.ntmps56
  go_wp2_with fail
  rw [← hW]
  clear hW
  refine HF.out.mono ?_
  rintro e w1 ⟨rfl,hb1⟩
  have B1:Below w.heap.size w w1:=B0.trans (hb1.mono B0.size)
  clear hb1 B0
  go_wp2
  go_ret
  exact ⟨rfl,B1⟩

end Go.Proofs.YthogdfnaojijhaaGreat
