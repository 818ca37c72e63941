/- Contracts. -/
import Derived.Test.YtlhgjackapdmbaaGreatDoorPq36
import Derived.Test.YtlhgjackapdmbaaGreatDoorPq37
import Derived.Test.YtlhgjackapdmbaaGreatDoorPq38
import Derived.Test.YtlhgjackapdmbaaGreatDoorPq25
namespace Go.Proofs.YtlhgjackapdmbaaGreatDoor
set_option maxRecDepth 100000
set_option maxHeartbeats 8000000
open Go.RowKit
set_option linter.unusedVariables false
set_option linter.unusedSimpArgs false

def qN8 (zs:List qA0) (ps:List qC6):Int:=orC (qC4 zs) (qM0 ps)
theorem QJ7 {zs:List qA0} {ps:List qC6} (h:qN8 zs ps=0):qC4 zs=0∧qM0 ps=0:=by
 unfold qN8 orC at h
 split at h
 ·rename_i q;exact ⟨q,h⟩
 ·rename_i q;exact absurd h q
theorem implMany_c (a:Option Addr) (n cap:Nat) (zs:List qA0) (a':Option Addr) (m cap':Nat) (ps:List qC6) (w:World) (hn:n≤1048576) (hm:m≤1048576) (hcap:n≤cap) (hcm:cap≤maxLen) (h:qB5 w a n zs) (h':qB9 w a' m ps) :
  Calls Tryz.prog 157 #[.slice a n cap,.slice a' m cap'] w fun e w'=>e = .returned (.int .i64 (qN8 zs ps))∧Below w.heap.size w w':=by
 have HP:Hid (∀ w2:World,Below w.heap.size w w2→Calls Tryz.prog 148 #[.slice a n cap] w2 fun e w'=>e = .returned (.int .i64 (qC4 zs))∧Below w2.heap.size w2 w'):=fun w2 q=>qU2 a n cap zs w2 hn hcap hcm (h.below q)
 have HQ:Hid (∀ w2:World,Below w.heap.size w w2→Calls Tryz.prog 173 #[.slice a' m cap'] w2 fun e w'=>e = .returned (.int .i64 (qM0 ps))∧Below w2.heap.size w2 w'):=fun w2 q=>qV9 a' m cap' ps w2 (by unfold maxLen;omega) (h'.below q)
 unfold qN8
 generalize qC4 zs=p at HP
 generalize qM0 ps=q at HQ
 clear h h'
 go_enter Tryz.func157,Tryz.ntmps157
 go_wp2_with fail
 refine (HP.out _ (Below.refl _ _)).mono ?_
 rintro e w1 ⟨rfl,hb1⟩
 go_wp2_with fail
 refine (HQ.out _ hb1).mono ?_
 rintro e w2 ⟨rfl,hb2'⟩
 have hb2:Below w.heap.size w w2:=hb1.trans (hb2'.mono hb1.size)
 have hb3:Below w.heap.size w (w2.alloc (.cells #[.int .i64 p,.int .i64 q] 2)):=hb2.alloc hb2.size _
 go_wp2_with (first | (go_at_call 147;refine (or64_c _ p q _ ?_ ?_).mono ?_;(· simp [go_sem]);(· simp [go_sem]);rintro e w' ⟨rfl,rfl⟩) | fail)
 go_ret
 exact ⟨rfl,hb3⟩
theorem index_told (cT:Array Value) (x:Nat) (v:Value) (hx:x < 256) (hs:cT.size=256) (hc:cT[x]? = some v) (hv:v.oneCell'=true) (w:World):(Instr.index 214 (.agg cT) (.int .i64 (x:Int))).run Tryz.prog w = .ok v w:=by
 have h1:(0:Int)≤(x:Int):=by omega
 have h2:(x:Int) < 256:=by omega
 simp [Instr.index,run_underlying QB3,go_sem,h1,h2,hs,hc]
 intro h;omega
def GivesA (f:Nat) (a:Option Addr) (n cap:Nat) (a':Option Addr) (m cap':Nat) (s:Int) (t:Bool) (w:World):Prop:=Calls Tryz.prog f #[.slice a n cap,.slice a' m cap',.int .i64 s] w fun e w'=>e = .returned (.bool t)∧Below w.heap.size w w'
def admB (zs:List qA0) (ps:List qC6) (gs:List GrI) (s:Int):Bool:=decide (qN8 zs ps=0)&&qP5 s&&qQ8 (ofG gs) ps s.toNat
theorem QY0 (a:Option Addr) (n cap:Nat) (zs:List qA0) (a':Option Addr) (m cap':Nat) (ps:List qC6) (gs:List GrI) (s:Int) (w:World) (hn:n≤1048576) (hm:m≤1048576) (hcap:n≤cap) (hcm:cap≤maxLen) (h:qB5 w a n zs) (h':qB9 w a' m ps) (hg:qC4 zs=0→QH3 zs gs) :
  GivesA 138 a n cap a' m cap' s (admB zs ps gs s) w:=by
 have HM:Hid (Calls Tryz.prog 157 #[.slice a n cap,.slice a' m cap'] w fun e w'=>e = .returned (.int .i64 (qN8 zs ps))∧Below w.heap.size w w'):=implMany_c a n cap zs a' m cap' ps w hn hm hcap hcm h h'
 have HT:Hid (qN8 zs ps=0→∀ w2:World,Below w.heap.size w w2→Calls Tryz.prog 158 #[.slice a n cap,.slice a' m cap'] w2 fun e w'=>e = .returned (.agg (qG4 (qQ8 (ofG gs) ps)))∧Below w2.heap.size w2 w'):=fun hc w2 q=>toldBy_c a n cap zs a' m cap' ps gs w2 (h.below q) (QJ7 hc).1 (hg (QJ7 hc).1) (h'.below q) (QJ7 hc).2
 clear h h' hg
 unfold admB
 generalize qN8 zs ps=c at HM HT
 generalize qQ8 (ofG gs) ps=T at HT
 unfold GivesA
 by_cases hc:c=0
 ·have hcb:(c==0)=true:=by simp [hc]
  rw [show decide (c=0)=true from decide_eq_true hc,Bool.true_and]
  cases hs:qP5 s
  ·have hf:(if qP5 s=true then (0:Int) else 3)=3:=by simp [hs]
   rw [Bool.false_and]
   clear hc
   go_enter Tryz.func138,Tryz.ntmps138
   go_wp2_with fail
   refine (HM.out).mono ?_
   rintro e w1 ⟨rfl,hb1⟩
   go_wp2_with (first | (go_at_call 133;refine (QO1 s _).mono ?_;rintro e w2 ⟨rfl,rfl⟩;rw [hf]) | fail)
   go_ret
   exact ⟨rfl,hb1⟩
  ·have hf:(if qP5 s=true then (0:Int) else 3)=0:=by simp [hs]
   rw [Bool.true_and]
   obtain ⟨x,rfl⟩:∃ x:Nat,s=(x:Int):=⟨s.toNat,by simp [qP5] at hs;omega⟩
   have hx:x < 256:=by simp [qP5] at hs;omega
   have hx':(x:Int) < 256:=by omega
   rw [Int.toNat_natCast]
   have HT2:Hid _:=HT.out hc
   have cx:=qX7 T hx
   have csz:=qH7 T
   generalize qG4 T=cT at HT2 cx csz
   clear hc hs
   go_enter Tryz.func138,Tryz.ntmps138
   go_wp2_with fail
   refine (HM.out).mono ?_
   rintro e w1 ⟨rfl,hb1⟩
   go_wp2_with (first | (go_at_call 133;refine (QO1 _ _).mono ?_;rintro e w2 ⟨rfl,rfl⟩;rw [hf]) | fail)
   refine (HT2.out _ hb1).mono ?_
   rintro e w3 ⟨rfl,hb3⟩
   have hix:=index_told cT x _ hx csz cx rfl w3
   go_wp2_with fail
   go_ret
   exact ⟨rfl,hb1.trans (hb3.mono hb1.size)⟩
 ·have hcb:(c==0)=false:=by simp [hc]
  rw [show decide (c=0)=false from decide_eq_false hc,Bool.false_and,Bool.false_and]
  clear hc
  go_enter Tryz.func138,Tryz.ntmps138
  go_wp2_with fail
  refine (HM.out).mono ?_
  rintro e w1 ⟨rfl,hb1⟩
  go_wp2_with fail
  go_ret
  exact ⟨rfl,hb1⟩

def alW (pss:List (List qC6)) (gs:List GrI) (f s:Int):Bool:=inR f 1 (pss.length:Int)&&(qP5 s&&(match pss[(f - 1).toNat]? with
 | none=>false
 | some ps=>qQ8 (ofG gs) ps s.toNat))
def alB (code:Int) (pss:List (List qC6)) (gs:List GrI) (f s:Int):Bool:=decide (code=0)&&alW pss gs f s
def GivesWC (fn:Nat) (c:qA5) (f s:Int) (t:Bool) (w:World):Prop:=Calls Tryz.prog fn #[.agg #[.int .i64 c.e,.int .i64 c.f,.slice c.ra c.rn c.rc,.slice c.fa c.fn c.fc,.slice c.ca c.cn c.cc],.int .i64 f,.int .i64 s] w fun e w'=>e = .returned (.bool t)∧Below w.heap.size w w'
theorem alW_out {pss:List (List qC6)} {gs:List GrI} {f s:Int} (h:inR f 1 (pss.length:Int)=false):alW pss gs f s=false:=by unfold alW;rw [h,Bool.false_and]
theorem alW_set {pss:List (List qC6)} {gs:List GrI} {f s:Int} (h:qP5 s=false):alW pss gs f s=false:=by unfold alW;rw [h,Bool.false_and,Bool.and_false]
theorem alW_in {pss:List (List qC6)} {gs:List GrI} {k:Nat} {s:Int} {ps:List qC6} (h:pss[k]? = some ps):alW pss gs ((k:Int)+1) s=(qP5 s&&qQ8 (ofG gs) ps s.toNat):=by
 have hk:k < pss.length:=by
  by_cases q:k < pss.length
  ·exact q
  ·rw [List.getElem?_eq_none (by omega)] at h;cases h
 unfold alW
 rw [show inR ((k:Int)+1) 1 (pss.length:Int)=true by simp [inR];omega,Bool.true_and,show ((k:Int)+1 - 1).toNat=k by omega,h]
theorem QX9 (c:qA5) (gs:List GrI) (f s:Int) (w:World) (hle:qD4 1048576 c) (hrc:c.rn≤c.rc) (hrm:c.rc≤maxLen) (h:qE8 w c) (hg:qC4 c.zs=0→QH3 c.zs gs) :
  GivesWC 109 c f s (alB (qG8 c.e c.f c.zs (qA2 c.fs) c.cs) (qA2 c.fs) gs f s) w:=by
 obtain ⟨W,hW⟩:∃ W,W=w.alloc (.cells #[.int .i64 c.e,.int .i64 c.f,.slice c.ra c.rn c.rc,.slice c.fa c.fn c.fc,.slice c.ca c.cn c.cc] 71):=⟨_,rfl⟩
 have B0:Below w.heap.size w W:=by rw [hW];exact zN
 have K0:Hid (qP3 W w.heap.size c):=by rw [hW];exact qP3.new w c _
 obtain ⟨v,hv⟩:∃ v,qG8 c.e c.f c.zs (qA2 c.fs) c.cs=v:=⟨_,rfl⟩
 have HF:Hid (Calls Tryz.prog 90 #[.agg #[.int .i64 c.e,.int .i64 c.f,.slice c.ra c.rn c.rc,.slice c.fa c.fn c.fc,.slice c.ca c.cn c.cc]] W fun e w'=>e = .returned (.int .i64 v)∧Below W.heap.size W w'):=by rw [← hv];exact qU3 c W hle hrc hrm (h.below B0)
 have H:Hid (qE8 w c):=h
 have HLE:Hid (qD4 1048576 c):=hle
 have HZ:Hid ((qA2 c.fs).length=c.fn):=by show (qA2 c.fs).length=c.fn;rw [qY4];exact h.forms.1
 have hfn:(c.fn:Int)≤1048576:=by have:=hle.forms;omega
 rw [hv]
 unfold GivesWC
 by_cases v0:v=0
 ·have hz:=QE3 (hv.trans v0)
  have HG:Hid (QH3 c.zs gs):=hg hz.2.2.1
  have HPT:Hid (qC4 c.zs=0∧∀ (k:Nat) (x:List qC6),(qA2 c.fs)[k]? = some x→qM0 x=0):=⟨hz.2.2.1,(fm_zero hz.2.2.2.1).2⟩
  have vb:(v != 0)=false:=by simp [v0]
  have HB:Hid (alB v (qA2 c.fs) gs f s=alW (qA2 c.fs) gs f s):=by show alB _ _ _ _ _=_;unfold alB;rw [show decide (v=0)=true from decide_eq_true v0,Bool.true_and]
  rw [HB.out]
  clear h hle hv hg hz v0
  by_cases f1:f < 1
  ·have HV:Hid (alW (qA2 c.fs) gs f s=false):=alW_out (by simp [inR];omega)
   rw [HV.out]
   go_enter Tryz.func109,Tryz.ntmps109
   go_wp2_with fail
   rw [← hW]
   clear hW
   refine HF.out.mono ?_
   rintro e w1 ⟨rfl,hb1⟩
   have B1:Below w.heap.size w w1:=B0.trans (hb1.mono B0.size)
   clear hb1 B0
   go_wp2
   go_ret
   exact ⟨rfl,B1⟩
  ·by_cases f2:(c.fn:Int) < f
   ·have HV:Hid (alW (qA2 c.fs) gs f s=false):=alW_out (by rw [HZ.out];simp [inR];omega)
    rw [HV.out]
    go_enter Tryz.func109,Tryz.ntmps109
    go_wp2_with fail
    rw [← hW]
    clear hW
    refine HF.out.mono ?_
    rintro e w1 ⟨rfl,hb1⟩
    have B1:Below w.heap.size w w1:=B0.trans (hb1.mono B0.size)
    obtain ⟨d0,d1,d2,d3,d4⟩:=K0.out.below hb1
    have hl1:=(K0.out.below hb1).lt
    clear hb1 B0 d0 d1 d2 d4
    go_wp2
    go_ret
    exact ⟨rfl,B1⟩
   ·obtain ⟨k,rfl⟩:∃ k:Nat,f=(k:Int)+1:=⟨(f - 1).toNat,by omega⟩
    have hk:k < c.fn:=by omega
    have hk':(k:Int)+1≤(c.fn:Int):=by omega
    have hk2:(k:Int) < (c.fn:Int):=by omega
    have hjw:IntKind.i64.wrap ((k:Int)+1 - 1)=(k:Int):=by rw [IntKind.wrap_i64];omega
    have hjw2:IntKind.i64.wrap (k:Int)=(k:Int):=by rw [IntKind.wrap_i64];omega
    clear f1 f2
    obtain ⟨b,off,x,hfa,hs,hr⟩:=H.out.forms.at hk
    have HV:Hid (alW (qA2 c.fs) gs ((k:Int)+1) s=admB c.zs x.ps gs s):=by
     show alW _ _ _ _=_
     rw [alW_in (qT7 hs)]
     unfold admB
     rw [show decide (qN8 c.zs x.ps=0)=true from decide_eq_true (by unfold qN8 orC;rw [if_pos HPT.out.1];exact HPT.out.2 k _ (qT7 hs)),Bool.true_and]
    rw [HV.out]
    have hxn:=HLE.out.parts k x hs
    obtain ⟨t,ht⟩:∃ t,admB c.zs x.ps gs s=t:=⟨_,rfl⟩
    have HA:Hid (∀ w2:World,Below w.heap.size w w2→Calls Tryz.prog 138 #[.slice c.ra c.rn c.rc,.slice x.a x.n x.cap,.int .i64 s] w2 fun e w'=>e = .returned (.bool t)∧Below w2.heap.size w2 w'):=fun w2 q=>by rw [← ht];exact QY0 c.ra c.rn c.rc c.zs x.a x.n x.cap x.ps gs s w2 HLE.out.rules hxn hrc hrm (H.out.rules.below q) ((hr.below q).2) (fun _=>HG.out)
    rw [ht]
    have HX:Hid (QF1 w b (off+k) x):=hr
    have HFA:Hid (c.fa=some ⟨b,off,none⟩):=hfa
    clear hs hr ht hfa
    go_enter Tryz.func109,Tryz.ntmps109
    go_wp2_with fail
    rw [← hW]
    clear hW
    refine HF.out.mono ?_
    rintro e w1 ⟨rfl,hb1⟩
    have B1:Below w.heap.size w w1:=B0.trans (hb1.mono B0.size)
    obtain ⟨d0,d1,d2,d3,d4⟩:=K0.out.below hb1
    have hl1:=(K0.out.below hb1).lt
    have hx1:=(HX.out.below B1).1
    have hbl:b < w1.heap.size:=(HX.out.below B1).lt
    rw [HFA.out] at d3
    clear hb1 B0 d0 d1 d4
    go_wp2
    have HA1:Hid (∀ w':World,((∀ b o,b < w1.heap.size→w'.cell? ⟨b,o,none⟩=w1.cell? ⟨b,o,none⟩)∧Below w1.heap.size w1 w')→Calls Tryz.prog 138 #[.slice c.ra c.rn c.rc,.slice x.a x.n x.cap,.int .i64 s] w' fun e w''=>e = .returned (.bool t)∧Below w'.heap.size w' w''):=fun w' q=>HA.out w' (B1.trans (q.2.mono B1.size))
    go_region_held3 (fun w'=>(∀ b o,b < w1.heap.size→w'.cell? ⟨b,o,none⟩=w1.cell? ⟨b,o,none⟩)∧Below w1.heap.size w1 w') (first | exact hS | exact qB3 _)
     (first | (go_at_call 138;refine (HA1.out _ (by assumption)).mono ?_;rintro e w' ⟨rfl,hb2⟩;have hS:=qA4 (by assumption) hb2))
    go_wp2
    go_ret
    exact ⟨rfl,B1.trans (hS.2.mono B1.size)⟩
 ·have vb:(v != 0)=true:=by simp [v0]
  have HB:Hid (alB v (qA2 c.fs) gs f s=false):=by show alB _ _ _ _ _=_;unfold alB;rw [show decide (v=0)=false from decide_eq_false v0,Bool.false_and]
  rw [HB.out]
  clear h hle hv hg v0
  go_enter Tryz.func109,Tryz.ntmps109
  go_wp2_with fail
  rw [← hW]
  clear hW
  refine HF.out.mono ?_
  rintro e w1 ⟨rfl,hb1⟩
  have B1:Below w.heap.size w w1:=B0.trans (hb1.mono B0.size)
  clear hb1 B0
  go_wp2
  go_ret
  exact ⟨rfl,B1⟩

end Go.Proofs.YtlhgjackapdmbaaGreatDoor
