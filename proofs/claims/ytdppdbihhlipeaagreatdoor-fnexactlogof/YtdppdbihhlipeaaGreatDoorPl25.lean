/- Contracts. -/
import Derived.Test.YtdppdbihhlipeaaGreatDoorPl24
import Derived.Test.YtdppdbihhlipeaaGreatDoorPl21
import Derived.Lib.BitFns
namespace Go.Proofs.YtdppdbihhlipeaaGreatDoor
set_option maxRecDepth 100000
set_option maxHeartbeats 8000000
open Go.RowKit
set_option linter.unusedVariables false
set_option linter.unusedSimpArgs false

theorem iBad_c (v:Int) (w:World):Calls Tryz.prog 162 #[.int .i64 v] w fun e w'=>e = .returned (.bool (inR v 1 2))∧w=w':=by
 unfold inR
 cases h0:decide (1≤v)
 ·go_enter Tryz.func162,Tryz.ntmps162
  go_wp2
  go_ret
  exact ⟨by simp,rfl⟩
 ·cases h1:decide (v≤2)
  all_goals
   go_enter Tryz.func162,Tryz.ntmps162
   go_wp2
   go_ret
   exact ⟨by simp,rfl⟩
theorem l6F_c (v:Int) (w:World):Calls Tryz.prog 114 #[.int .i64 v] w fun e w'=>e = .returned (.bool (inR v 1 2))∧w=w':=by
 go_enter Tryz.func114,Tryz.ntmps114
 go_wp2_with (go_at_call 57;refine (qY0 _ _ _ _).mono ?_;rintro e w' ⟨rfl,rfl⟩)
 go_ret
 exact ⟨rfl,rfl⟩
def GivesNF (fn:Nat) (f c v:Int) (w:World):Prop:=Calls Tryz.prog fn #[.int .i64 f] w fun e w'=>e = .returned (.agg #[.int .i64 c,.int .i64 v])∧Below w.heap.size w w'
def nfCode (f:Int):Int:=if inR f 1 2=true then 0 else 3
def nfVal (k f:Int):Int:=if inR f 1 2=true then k * f+1 else 0
theorem QH9 (f:Int) (w:World):GivesNF 107 f (nfCode f) (nfVal 3 f) w:=by
 unfold GivesNF nfCode nfVal
 cases h:inR f 1 2
 ·have H:Hid (inR f 1 2=false):=h
  clear h
  simp only [Bool.false_eq_true,if_false]
  go_enter Tryz.func107,Tryz.ntmps107
  go_wp2_with (first | (go_at_call 162;refine (iBad_c _ _).mono ?_;rintro e w' ⟨rfl,rfl⟩;rw [H.out]) | go_in)
  go_returns
  exact ⟨rfl,by go_grown⟩
 ·have H:Hid (inR f 1 2=true):=h
  obtain ⟨h1,h2⟩:=(qE4 f 1 2).1 h
  clear h
  simp only [if_true]
  go_enter Tryz.func107,Tryz.ntmps107
  go_wp2_with (first | (go_at_call 162;refine (iBad_c _ _).mono ?_;rintro e w' ⟨rfl,rfl⟩;rw [H.out]) | go_in)
  go_returns
  exact ⟨rfl,by go_grown⟩

def QJ1 (pss:List (List qC6)):Nat→Int
 | 0=>0
 | k+1=>if QJ1 pss k≠0 then QJ1 pss k else match pss[k]? with
  | none=>0
  | some x=>qN0 x
def qK0 (pss:List (List qC6)):Int:=if 4 < pss.length then 2 else QJ1 pss pss.length
theorem QN4 (zs:List (List qC6)) (k m:Nat) (c:Int) (hc:c≠0) (h:QJ1 zs k=c) (hm:k≤m):QJ1 zs m=c:=by
  induction m with
  | zero => obtain rfl:k=0:=by omega
            exact h
  | succ m ih =>
    by_cases e:k=m+1
    · subst e;exact h
    · have:=ih (by omega)
      simp only [QJ1,this]
      rw [if_pos hc]
theorem QN5 {zs:List (List qC6)} {k:Nat} {x:List qC6} (hk:zs[k]? = some x) (h0:QJ1 zs k=0):QJ1 zs (k+1)=qN0 x:=by
 simp [QJ1,h0,hk]
theorem qV1 {fs:List qE8} {k:Nat} {x:qE8} (h:fs[k]? = some x):(qA3 fs)[k]? = some x.ps:=by
 unfold qA3
 rw [List.getElem?_map,h]
 rfl
theorem QA5 (fs:List qE8):(qA3 fs).length=fs.length:=by unfold qA3;simp
def qH2 (e f:Int) (zs:List qA0) (pss:List (List qC6)) (cs:List Int):Int:=if inR e 1 9=false then 3 else if inR f 1 2=false then 3 else orJ (qC3 zs) (orJ (qK0 pss) (qG3 cs))
theorem QG6 {e f:Int} {zs:List qA0} {pss:List (List qC6)} {cs:List Int} (h:qH2 e f zs pss cs=0):inR e 1 9=true∧inR f 1 2=true∧qC3 zs=0∧qK0 pss=0∧qG3 cs=0:=by
 unfold qH2 at h
 split at h
 ·cases h
 ·split at h
  ·cases h
  ·rename_i q1 q2
   unfold orJ at h
   split at h
   ·split at h
    ·exact ⟨by simpa using q1,by simpa using q2,by assumption,by assumption,h⟩
    ·exact absurd h (by assumption)
   ·exact absurd h (by assumption)
theorem fm_zero {pss:List (List qC6)} (h:qK0 pss=0):pss.length≤4∧∀ (k:Nat) (x:List qC6),pss[k]? = some x→qN0 x=0:=by
 unfold qK0 at h
 split at h
 ·cases h
 ·refine ⟨by omega,fun k x e=>?_⟩
  have hk:k < pss.length:=by
   by_cases q:k < pss.length
   ·exact q
   ·rw [List.getElem?_eq_none (by omega)] at e;cases e
  have key:∀ j,j≤pss.length→QJ1 pss j=0:=fun j hj=>by
   by_cases q:QJ1 pss j=0
   ·exact q
   ·have:=QN4 pss j pss.length _ q rfl hj
    rw [this] at h
    exact absurd h q
  have h1:=key (k+1) (by omega)
  rw [QN5 e (key k (by omega))] at h1
  exact h1
theorem or364_c (g:Nat) (c d f:Int) (w:World) (h0:w.cell? ⟨g,0,none⟩=some (.int .i64 c)) (h1:w.cell? ⟨g,1,none⟩=some (.int .i64 d)) (h2:w.cell? ⟨g,2,none⟩=some (.int .i64 f)) :
  Calls Tryz.prog 163 #[.slice (some ⟨g,0,none⟩) 3 3] w fun e w'=>e = .returned (.int .i64 (orJ c (orJ d f)))∧w=w':=by
 go_enter Tryz.func163,Tryz.ntmps163
 go_wp2
 go_loop [8] (fun i=>∃ k:Nat,k≤3∧i = .int .i64 (k:Int)∧(1≤k→c=0)∧(2≤k→d=0)∧(3≤k→f=0)) (fun i=>3 - (intOf i).toNat)
 case atStart=>exact ⟨0,by omega,rfl,fun h=>by omega,fun h=>by omega,fun h=>by omega⟩
 case round =>
  obtain ⟨k,hk,rfl,hc,hd,hf⟩:=hrel
  have hk':k=0∨k=1∨k=2∨k=3:=by omega
  rcases hk' with rfl | rfl | rfl | rfl
  ·clear hc hd hf
   by_cases e:c=0
   ·have b:(c != 0)=false:=by simp [e]
    have HE:Hid (c=0):=e
    clear e
    go_wp2
    exact ⟨⟨1,by omega,by go_num,fun _=>HE.out,fun h=>by omega,fun h=>by omega⟩,by simp [intOf]⟩
   ·have b:(c != 0)=true:=by simp [e]
    go_wp2
    go_ret
    exact ⟨by simp [orJ,e],rfl⟩
  ·have HC:Hid (c=0):=hc (by omega)
   clear hc hd hf
   by_cases e:d=0
   ·have b:(d != 0)=false:=by simp [e]
    have HE:Hid (d=0):=e
    clear e
    go_wp2
    exact ⟨⟨2,by omega,by go_num,fun _=>HC.out,fun _=>HE.out,fun h=>by omega⟩,by simp [intOf]⟩
   ·have b:(d != 0)=true:=by simp [e]
    go_wp2
    go_ret
    exact ⟨by simp [orJ,HC.out,e],rfl⟩
  ·have HC:Hid (c=0):=hc (by omega)
   have HD:Hid (d=0):=hd (by omega)
   clear hc hd hf
   by_cases e:f=0
   ·have b:(f != 0)=false:=by simp [e]
    have HE:Hid (f=0):=e
    clear e
    go_wp2
    exact ⟨⟨3,by omega,by go_num,fun _=>HC.out,fun _=>HD.out,fun _=>HE.out⟩,by simp [intOf]⟩
   ·have b:(f != 0)=true:=by simp [e]
    go_wp2
    go_ret
    exact ⟨by simp [orJ,HC.out,HD.out],rfl⟩
  ·have HC:Hid (c=0):=hc (by omega)
   have HD:Hid (d=0):=hd (by omega)
   have HF:Hid (f=0):=hf (by omega)
   clear hc hd hf
   go_wp2
   go_ret
   exact ⟨by simp [orJ,HC.out,HD.out,HF.out],rfl⟩
theorem kpC_new {W w:World} (h:(∀ b o,b < W.heap.size→w.cell? ⟨b,o,none⟩=W.cell? ⟨b,o,none⟩)∧Below W.heap.size W w) (o:Obj):(∀ b i,b < W.heap.size→(w.alloc o).cell? ⟨b,i,none⟩=W.cell? ⟨b,i,none⟩)∧Below W.heap.size W (w.alloc o) :=
 qA7 h (zN)
theorem formsFault_c (a:Option Addr) (n cap:Nat) (fs:List qE8) (w:World) (hn:n≤1048576) (hle:qM4 1048576 fs) (h:qF7 w a n fs) :
  Calls Tryz.prog 165 #[.slice a n cap] w fun e w'=>e = .returned (.int .i64 (qK0 (qA3 fs)))∧Below w.heap.size w w':=by
 have H:Hid (qF7 w a n fs):=h
 have HZ:Hid ((qA3 fs).length=n):=by show (qA3 fs).length=n;rw [QA5];exact h.1
 have HLE:Hid (qM4 1048576 fs):=hle
 clear h hle
 by_cases h4:4 < n
 ·have HC:Hid (qK0 (qA3 fs)=2):=by show qK0 (qA3 fs)=2;unfold qK0;rw [if_pos (by rw [HZ.out];exact h4)]
  have h4':(4:Int) < (n:Int):=by omega
  go_enter Tryz.func165,Tryz.ntmps165
  go_wp2
  go_ret
  exact ⟨by rw [HC.out];rfl,Below.refl _ _⟩
 ·have HC:Hid (qK0 (qA3 fs)=QJ1 (qA3 fs) n):=by show qK0 (qA3 fs)=QJ1 (qA3 fs) n;unfold qK0;rw [if_neg (by rw [HZ.out];exact h4),HZ.out]
  have h4':(n:Int)≤4:=by omega
  rw [HC.out]
  go_enter Tryz.func165,Tryz.ntmps165
  go_wp2
  go_loopw [11] (fun i wr=>∃ k:Nat,k≤n∧i = .int .i64 (k:Int)∧QJ1 (qA3 fs) k=0∧Below w.heap.size w wr) (fun i _=>n - (intOf i).toNat)
  case atStart=>exact ⟨0,Nat.zero_le _,rfl,rfl,Below.refl _ _⟩
  case round =>
   obtain ⟨k,hk,rfl,hz,hnx⟩:=hrel
   have HK:Hid (QJ1 (qA3 fs) k=0):=hz
   clear hz
   by_cases hlt:k < n
   ·obtain ⟨b,off,x,rfl,hs,hr⟩:=H.out.at hlt
    have HS:Hid ((qA3 fs)[k]? = some x.ps):=qV1 hs
    have hx:x.n≤1048576:=HLE.out k x hs
    have hb:b < w.heap.size:=hr.lt
    have hc:=(hr.below hnx).1
    have HP:Hid (qC0 wr x.a x.n x.ps):=(hr.below hnx).2
    clear hs hr
    have hlt':(k:Int) < (n:Int):=by omega
    have hA:Below wr.heap.size wr (wr.alloc (.cells #[.slice x.a x.n x.cap] 129)):=zN
    obtain ⟨q,hq⟩:∃ q,qN0 x.ps=q:=⟨_,rfl⟩
    go_wp2_with fail
    refine (qX5 x.a x.n x.cap x.ps _ (by unfold maxLen;omega) (HP.out.below hA)).mono ?_
    rintro e w1 ⟨rfl,hb1⟩
    rw [hq]
    have hb01:Below w.heap.size w w1:=hnx.trans ((hA.trans (hb1.mono hA.size)).mono hnx.size)
    have HQ:Hid (QJ1 (qA3 fs) (k+1)=q):=by show QJ1 (qA3 fs) (k+1)=q;rw [QN5 HS.out HK.out];exact hq
    clear hc hq hA hb1
    by_cases q0:q=0
    ·have qb:(q != 0)=false:=by simp [q0]
     have HQ0:Hid (q=0):=q0
     clear q0
     go_wp2
     exact ⟨⟨k+1,by omega,by go_num,by rw [HQ.out];exact HQ0.out,hb01⟩,by simp [intOf];omega⟩
    ·have qb:(q != 0)=true:=by simp [q0]
     have HE:Hid (QJ1 (qA3 fs) n=q):=QN4 _ _ _ _ q0 HQ.out (by omega)
     go_wp2
     go_ret
     exact ⟨by rw [HE.out];rfl,hb01⟩
   ·have hkn:k=n:=by omega
    subst hkn
    go_wp2
    go_ret
    exact ⟨by rw [HK.out];rfl,hnx⟩
theorem classFault_c (a:Option Addr) (n cap:Nat) (zs:List Int) (w:World) (h:qF8 w a n zs) :
  Calls Tryz.prog 166 #[.slice a n cap] w fun e w'=>e = .returned (.int .i64 (qG3 zs))∧w=w':=by
 have HI:Hid (qF8 w a n zs):=h
 clear h
 go_enter Tryz.func166,Tryz.ntmps166
 go_wp2_with (go_at_call 183;refine (qG0 _ _ _ zs _ HI.out).mono ?_;rintro e w' ⟨rfl,rfl⟩)
 go_ret
 exact ⟨rfl,rfl⟩
theorem epochOf_c (c:qA1) (w:World):Calls Tryz.prog 135 #[.agg #[.int .i64 c.e,.int .i64 c.f,.slice c.ra c.rn c.rc,.slice c.fa c.fn c.fc,.slice c.ca c.cn c.cc]] w fun e w'=>e = .returned (.agg #[.slice c.ca c.cn c.cc,.int .i64 c.e,.int .i64 c.f,.slice c.ra c.rn c.rc,.slice c.fa c.fn c.fc])∧Below w.heap.size w w':=by
 go_enter Tryz.func135,Tryz.ntmps135
 go_wp2
 go_returns
 exact ⟨rfl,by go_grown⟩
theorem epochFault_c (c:qA1) (w:World) (hle:qD3 1048576 c) (hrc:c.rn≤c.rc) (hrm:c.rc≤maxLen) (h:qF2 w c) :
  Calls Tryz.prog 136 #[.agg #[.slice c.ca c.cn c.cc,.int .i64 c.e,.int .i64 c.f,.slice c.ra c.rn c.rc,.slice c.fa c.fn c.fc]] w fun e w'=>e = .returned (.int .i64 (qH2 c.e c.f c.zs (qA3 c.fs) c.cs))∧Below w.heap.size w w':=by
 obtain ⟨t1,h1⟩:∃ t,inR c.e 1 9=t:=⟨_,rfl⟩
 obtain ⟨t2,h2⟩:∃ t,inR c.f 1 2=t:=⟨_,rfl⟩
 have H1:Hid (inR c.e 1 9=t1):=h1
 have H2:Hid (inR c.f 1 2=t2):=h2
 cases t1
 ·have HV:Hid (qH2 c.e c.f c.zs (qA3 c.fs) c.cs=3):=by show qH2 _ _ _ _ _=3;unfold qH2;rw [if_pos h1]
  clear h1 h2 h
  go_enter Tryz.func136,Tryz.ntmps136
  go_wp2_with (first | (go_at_call 149;refine (qH9 _ _).mono ?_;rintro e w' ⟨rfl,rfl⟩;rw [H1.out]))
  go_ret
  exact ⟨by rw [HV.out];rfl,by go_grown⟩
 ·cases t2
  ·have HV:Hid (qH2 c.e c.f c.zs (qA3 c.fs) c.cs=3):=by show qH2 _ _ _ _ _=3;unfold qH2;rw [if_neg (by simp [h1]),if_pos h2]
   clear h1 h2 h
   go_enter Tryz.func136,Tryz.ntmps136
   go_wp2_with (first | (go_at_call 149;refine (qH9 _ _).mono ?_;rintro e w' ⟨rfl,rfl⟩;rw [H1.out]) | (go_at_call 162;refine (iBad_c _ _).mono ?_;rintro e w' ⟨rfl,rfl⟩;rw [H2.out]))
   go_ret
   exact ⟨by rw [HV.out];rfl,by go_grown⟩
  ·have HV:Hid (qH2 c.e c.f c.zs (qA3 c.fs) c.cs=orJ (qC3 c.zs) (orJ (qK0 (qA3 c.fs)) (qG3 c.cs))):=by show qH2 _ _ _ _ _=_;unfold qH2;rw [if_neg (by simp [h1]),if_neg (by simp [h2])]
   rw [HV.out]
   obtain ⟨W,hW⟩:∃ W,W=w.alloc (.cells #[.slice c.ca c.cn c.cc,.int .i64 c.e,.int .i64 c.f,.slice c.ra c.rn c.rc,.slice c.fa c.fn c.fc] 205):=⟨_,rfl⟩
   have hs:W.heap.size=w.heap.size+1:=by rw [hW];simp
   have B0:Below w.heap.size w W:=by rw [hW];exact zN
   have c0:W.cell? ⟨w.heap.size,0,none⟩=some (.slice c.ca c.cn c.cc):=by rw [hW];simp
   have c3:W.cell? ⟨w.heap.size,3,none⟩=some (.slice c.ra c.rn c.rc):=by rw [hW];simp
   have c4:W.cell? ⟨w.heap.size,4,none⟩=some (.slice c.fa c.fn c.fc):=by rw [hW];simp
   have HP:Hid (∀ w2:World,(∀ b o,b < W.heap.size→w2.cell? ⟨b,o,none⟩=W.cell? ⟨b,o,none⟩)∧Below W.heap.size W w2→Calls Tryz.prog 164 #[.slice c.ra c.rn c.rc] w2 fun e w'=>e = .returned (.int .i64 (qC3 c.zs))∧Below w2.heap.size w2 w'):=fun w2 q=>qV7 c.ra c.rn c.rc c.zs w2 hle.rules hrc hrm (h.rules.below (B0.trans (q.2.mono (by omega))))
   have HF:Hid (∀ w2:World,(∀ b o,b < W.heap.size→w2.cell? ⟨b,o,none⟩=W.cell? ⟨b,o,none⟩)∧Below W.heap.size W w2→Calls Tryz.prog 165 #[.slice c.fa c.fn c.fc] w2 fun e w'=>e = .returned (.int .i64 (qK0 (qA3 c.fs)))∧Below w2.heap.size w2 w'):=fun w2 q=>formsFault_c c.fa c.fn c.fc c.fs w2 hle.forms hle.parts (h.forms.below (B0.trans (q.2.mono (by omega))))
   have HK:Hid (∀ w2:World,(∀ b o,b < W.heap.size→w2.cell? ⟨b,o,none⟩=W.cell? ⟨b,o,none⟩)∧Below W.heap.size W w2→Calls Tryz.prog 166 #[.slice c.ca c.cn c.cc] w2 fun e w'=>e = .returned (.int .i64 (qG3 c.cs))∧Below w2.heap.size w2 w'):=fun w2 q=>(classFault_c c.ca c.cn c.cc c.cs w2 (h.classes.below (B0.trans (q.2.mono (by omega))))).mono fun e w' hh=>⟨hh.1,hh.2 ▸ Below.refl _ _⟩
   clear h hle h1 h2
   generalize qC3 c.zs=p at HP ⊢
   generalize qK0 (qA3 c.fs)=q at HF ⊢
   generalize qG3 c.cs=r at HK ⊢
   go_enter Tryz.func136,Tryz.ntmps136
   go_wp2_with (first | (go_at_call 149;refine (qH9 _ _).mono ?_;rintro e w' ⟨rfl,rfl⟩;rw [H1.out]) | (go_at_call 162;refine (iBad_c _ _).mono ?_;rintro e w' ⟨rfl,rfl⟩;rw [H2.out]))
   rw [← hW]
   clear hW
   go_region_held3 (fun w'=>(∀ b o,b < W.heap.size→w'.cell? ⟨b,o,none⟩=W.cell? ⟨b,o,none⟩)∧Below W.heap.size W w') (first | exact hS | exact qB6 _ | exact kpC_new (by assumption) _)
    (first | (go_at_call 164;refine (HP.out _ (by assumption)).mono ?_;rintro e w' ⟨rfl,hb2⟩;have hS:=qA7 (by assumption) hb2) | (go_at_call 165;refine (HF.out _ (by assumption)).mono ?_;rintro e w' ⟨rfl,hb2⟩;have hS:=qA7 (by assumption) hb2) | (go_at_call 166;refine (HK.out _ (by assumption)).mono ?_;rintro e w' ⟨rfl,hb2⟩;have hS:=qA7 (by assumption) hb2) | (go_at_call 163;refine (or364_c _ p q r _ ?_ ?_ ?_).mono ?_;(· simp [go_sem]);(· simp [go_sem]);(· simp [go_sem]);rintro e w' ⟨rfl,rfl⟩))
   all_goals
    have hS3:=kpC_new hS (.cells #[.int .i64 p,.int .i64 q,.int .i64 r] 2)
    go_wp2
    go_ret
    exact ⟨rfl,B0.trans (hS3.2.mono (by omega))⟩
theorem qV8 (c:qA1) (w:World) (hle:qD3 1048576 c) (hrc:c.rn≤c.rc) (hrm:c.rc≤maxLen) (h:qF2 w c) :
  Calls Tryz.prog 105 #[.agg #[.int .i64 c.e,.int .i64 c.f,.slice c.ra c.rn c.rc,.slice c.fa c.fn c.fc,.slice c.ca c.cn c.cc]] w fun e w'=>e = .returned (.int .i64 (qH2 c.e c.f c.zs (qA3 c.fs) c.cs))∧Below w.heap.size w w':=by
 have H:Hid (qF2 w c):=h
 have HLE:Hid (qD3 1048576 c):=hle
 clear h hle
 have hA:Below w.heap.size w (w.alloc (.cells #[.int .i64 c.e,.int .i64 c.f,.slice c.ra c.rn c.rc,.slice c.fa c.fn c.fc,.slice c.ca c.cn c.cc] 71)):=zN
 obtain ⟨v,hv⟩:∃ v,qH2 c.e c.f c.zs (qA3 c.fs) c.cs=v:=⟨_,rfl⟩
 rw [hv]
 have HF:Hid (∀ w2:World,Below w.heap.size w w2→Calls Tryz.prog 136 #[.agg #[.slice c.ca c.cn c.cc,.int .i64 c.e,.int .i64 c.f,.slice c.ra c.rn c.rc,.slice c.fa c.fn c.fc]] w2 fun e w'=>e = .returned (.int .i64 v)∧Below w2.heap.size w2 w'):=fun w2 q=>by rw [← hv];exact epochFault_c c w2 HLE.out hrc hrm (H.out.below q)
 clear hv
 go_enter Tryz.func105,Tryz.ntmps105
 go_wp2_with fail
 refine (epochOf_c c _).mono ?_
 rintro e w1 ⟨rfl,hb1⟩
 have hB1:Below w.heap.size w w1:=hA.trans (hb1.mono hA.size)
 clear hA hb1
 go_wp2_with fail
 refine (HF.out _ hB1).mono ?_
 rintro e w2 ⟨rfl,hb2⟩
 have hB2:Below w.heap.size w w2:=hB1.trans (hb2.mono hB1.size)
 clear hb2 hB1
 go_wp2
 go_ret
 exact ⟨rfl,hB2⟩

def qI2 (w:World) (g o:Nat) (c:qA1):Prop:=w.cell? ⟨g,o,none⟩=some (.int .i64 c.e)∧w.cell? ⟨g,o+1,none⟩=some (.int .i64 c.f)∧w.cell? ⟨g,o+2,none⟩=some (.slice c.ra c.rn c.rc)∧w.cell? ⟨g,o+3,none⟩=some (.slice c.fa c.fn c.fc)∧w.cell? ⟨g,o+4,none⟩=some (.slice c.ca c.cn c.cc)
theorem qI2.lt {w:World} {g o:Nat} {c:qA1} (h:qI2 w g o c):g < w.heap.size:=zL w ⟨g,o,none⟩ h.1
theorem qI2.below {w w':World} {g o:Nat} {c:qA1} (h:qI2 w g o c) (hb:Below w.heap.size w w'):qI2 w' g o c:=by
 obtain ⟨h0,h1,h2,h3,h4⟩:=h
 have hl:=zL w ⟨g,o,none⟩ h0
 exact ⟨(hb.cell (p:=⟨g,o,none⟩) hl).trans h0,(hb.cell (p:=⟨g,o+1,none⟩) hl).trans h1,(hb.cell (p:=⟨g,o+2,none⟩) hl).trans h2,(hb.cell (p:=⟨g,o+3,none⟩) hl).trans h3,(hb.cell (p:=⟨g,o+4,none⟩) hl).trans h4⟩
theorem l6Fault_o (g o:Nat) (c:qA1) (w:World) (hle:qD3 1048576 c) (hk:qI2 w g o c) (h:qF2 w c) :
  Calls Tryz.prog 88 #[.pointer (some ⟨g,o,none⟩)] w fun e w'=>e = .returned (.int .i64 (qH2 c.e c.f c.zs (qA3 c.fs) c.cs))∧Below w.heap.size w w':=by
 obtain ⟨t1,h1⟩:∃ t,inR c.e 1 9=t:=⟨_,rfl⟩
 obtain ⟨t2,h2⟩:∃ t,inR c.f 1 2=t:=⟨_,rfl⟩
 have H1:Hid (inR c.e 1 9=t1):=h1
 have H2:Hid (inR c.f 1 2=t2):=h2
 have hg:g < w.heap.size:=hk.lt
 have HK:Hid (qI2 w g o c):=hk
 obtain ⟨k0,k1,k2,k3,k4⟩:=hk
 cases t1
 ·have HV:Hid (qH2 c.e c.f c.zs (qA3 c.fs) c.cs=3):=by show qH2 _ _ _ _ _=3;unfold qH2;rw [if_pos h1]
  clear h1 h2 h
  go_enter Tryz.func88,Tryz.ntmps88
  go_wp2_with (first | (go_at_call 89;refine (qT2 _ _).mono ?_;rintro e w' ⟨rfl,rfl⟩;rw [H1.out]))
  go_ret
  exact ⟨by rw [HV.out];rfl,by go_grown⟩
 ·cases t2
  ·have HV:Hid (qH2 c.e c.f c.zs (qA3 c.fs) c.cs=3):=by show qH2 _ _ _ _ _=3;unfold qH2;rw [if_neg (by simp [h1]),if_pos h2]
   clear h1 h2 h
   go_enter Tryz.func88,Tryz.ntmps88
   go_wp2_with (first | (go_at_call 89;refine (qT2 _ _).mono ?_;rintro e w' ⟨rfl,rfl⟩;rw [H1.out]) | (go_at_call 114;refine (l6F_c _ _).mono ?_;rintro e w' ⟨rfl,rfl⟩;rw [H2.out]))
   go_ret
   exact ⟨by rw [HV.out];rfl,by go_grown⟩
  ·have HV:Hid (qH2 c.e c.f c.zs (qA3 c.fs) c.cs=orJ (qC3 c.zs) (orJ (qK0 (qA3 c.fs)) (qG3 c.cs))):=by show qH2 _ _ _ _ _=_;unfold qH2;rw [if_neg (by simp [h1]),if_neg (by simp [h2])]
   rw [HV.out]
   have HLE:Hid (qD3 1048576 c):=hle
   have H:Hid (qF2 w c):=h
   clear h1 h2 h hle
   obtain ⟨p,hp⟩:∃ p,qC3 c.zs=p:=⟨_,rfl⟩
   obtain ⟨r,hr⟩:∃ r,qG3 c.cs=r:=⟨_,rfl⟩
   have HP:Hid (Calls Tryz.prog 115 #[.slice c.ra c.rn c.rc] w fun e w'=>e = .returned (.int .i64 p)∧Below w.heap.size w w'):=by rw [← hp];exact l2Fault_c c.ra c.rn c.rc c.zs w HLE.out.rules H.out.rules
   have HR:Hid (∀ w2:World,Below w.heap.size w w2→Calls Tryz.prog 117 #[.slice c.ca c.cn c.cc] w2 fun e w'=>e = .returned (.int .i64 r)∧w2=w'):=fun w2 q=>by rw [← hr];exact l5Classes_c c.ca c.cn c.cc c.cs w2 (H.out.classes.below q)
   rw [hp,hr]
   clear hp hr
   have HZ:Hid ((qA3 c.fs).length=c.fn):=by show (qA3 c.fs).length=c.fn;rw [QA5];exact H.out.forms.1
   have hfn:(c.fn:Int)≤1048576:=by have:=HLE.out.forms;omega
   go_enter Tryz.func88,Tryz.ntmps88
   go_wp2_with (first | (go_at_call 89;refine (qT2 _ _).mono ?_;rintro e w' ⟨rfl,rfl⟩;rw [H1.out]) | (go_at_call 114;refine (l6F_c _ _).mono ?_;rintro e w' ⟨rfl,rfl⟩;rw [H2.out]) | fail)
   refine HP.out.mono ?_
   rintro e w1 ⟨rfl,hb1⟩
   obtain ⟨d0,d1,d2,d3,d4⟩:=HK.out.below hb1
   have hg1:g < w1.heap.size:=by have:=hb1.size;omega
   clear k0 k1 k2 k3 k4 d0 d1 d2
   by_cases p0:p=0
   ·have pb:(p != 0)=false:=by simp [p0]
    have HPO:Hid (∀ x,orJ p x=x):=fun x=>by simp [orJ,p0]
    clear p0
    by_cases h4:4 < c.fn
    ·have HC:Hid (qK0 (qA3 c.fs)=2):=by show qK0 (qA3 c.fs)=2;unfold qK0;rw [if_pos (by rw [HZ.out];exact h4)]
     have h4':(4:Int) < (c.fn:Int):=by omega
     go_wp2
     go_ret
     exact ⟨by rw [HPO.out,HC.out];rfl,hb1⟩
    ·have HC:Hid (qK0 (qA3 c.fs)=QJ1 (qA3 c.fs) c.fn):=by show qK0 (qA3 c.fs)=QJ1 (qA3 c.fs) c.fn;unfold qK0;rw [if_neg (by rw [HZ.out];exact h4),HZ.out]
     have h4':(c.fn:Int)≤4:=by omega
     go_wp2
     go_loopw [4] (fun i wr=>∃ k:Nat,k≤c.fn∧i = .int .i64 (k:Int)∧QJ1 (qA3 c.fs) k=0∧Below w.heap.size w wr) (fun i _=>c.fn - (intOf i).toNat)
     case atStart=>exact ⟨0,Nat.zero_le _,rfl,rfl,hb1⟩
     case round =>
      obtain ⟨k,hk,rfl,hz,hnx⟩:=hrel
      have HK0:Hid (QJ1 (qA3 c.fs) k=0):=hz
      obtain ⟨m0,m1,m2,m3,m4⟩:=HK.out.below hnx
      have hgr:g < wr.heap.size:=by have:=hnx.size;omega
      clear hz d3 d4 m0 m1 m2
      by_cases hlt:k < c.fn
      ·obtain ⟨b,off,x,hfa,hs,hr⟩:=H.out.forms.at hlt
       have HS:Hid ((qA3 c.fs)[k]? = some x.ps):=qV1 hs
       have hx:x.n≤1048576:=HLE.out.parts k x hs
       have hb:b < w.heap.size:=hr.lt
       have hc:=(hr.below hnx).1
       have HPI:Hid (qC0 wr x.a x.n x.ps):=(hr.below hnx).2
       rw [hfa] at m3
       have hbr:b < wr.heap.size:=by have:=hnx.size;omega
       clear hs hr hfa
       have hlt':(k:Int) < (c.fn:Int):=by omega
       obtain ⟨q,hq⟩:∃ q,qN0 x.ps=q:=⟨_,rfl⟩
       go_wp2_with fail
       refine (l4Fault_c x.a x.n x.cap x.ps _ (by unfold maxLen;omega) HPI.out).mono ?_
       rintro e w2 ⟨rfl,hb2⟩
       rw [hq]
       have hb02:Below w.heap.size w w2:=hnx.trans (hb2.mono hnx.size)
       have HQ:Hid (QJ1 (qA3 c.fs) (k+1)=q):=by show QJ1 (qA3 c.fs) (k+1)=q;rw [QN5 HS.out HK0.out];exact hq
       clear hc hq hb2 m3 m4
       by_cases q0:q=0
       ·have qb:(q != 0)=false:=by simp [q0]
        have HQ0:Hid (q=0):=q0
        clear q0
        go_wp2
        exact ⟨⟨k+1,by omega,by go_num,by rw [HQ.out];exact HQ0.out,hb02⟩,by simp [intOf];omega⟩
       ·have qb:(q != 0)=true:=by simp [q0]
        have HE:Hid (orJ (qK0 (qA3 c.fs)) r=q):=by
         show orJ _ _=_
         rw [HC.out,QN4 _ _ c.fn _ q0 HQ.out (by omega)]
         simp [orJ,q0]
        go_wp2
        go_ret
        exact ⟨by rw [HPO.out,HE.out];rfl,hb02⟩
      ·have hkn:k=c.fn:=by omega
       have HE:Hid (orJ (qK0 (qA3 c.fs)) r=r):=by
        show orJ _ _=_
        rw [HC.out,← hkn,HK0.out]
        simp [orJ]
       have hlt':¬ ((k:Int) < (c.fn:Int)):=by omega
       clear hkn
       go_wp2_with fail
       refine (HR.out _ hnx).mono ?_
       rintro e w2 ⟨rfl,rfl⟩
       go_wp2
       go_ret
       exact ⟨by rw [HPO.out,HE.out];rfl,hnx⟩
   ·have pb:(p != 0)=true:=by simp [p0]
    have HPO:Hid (∀ x,orJ p x=p):=fun x=>by simp [orJ,p0]
    clear p0
    go_wp2
    go_ret
    exact ⟨by rw [HPO.out];rfl,hb1⟩

structure qA5 (w:World) (a:Option Addr) (n:Nat) (cs:List qA1):Prop where
 len:cs.length=n
 row:0 < n→∃ b off,a=some ⟨b,off,none⟩∧∀ k c,cs[k]? = some c→qI2 w b (off+k * 5) c
 each:∀ (k:Nat) c,cs[k]? = some c→qF2 w c
theorem qA5.below {w w':World} {a:Option Addr} {n:Nat} {cs:List qA1} (h:qA5 w a n cs) (hb:Below w.heap.size w w'):qA5 w' a n cs :=
 ⟨h.len,fun hp=>by
  obtain ⟨b,off,e,hr⟩:=h.row hp
  exact ⟨b,off,e,fun k c q=>(hr k c q).below hb⟩,fun k c q=>(h.each k c q).below hb⟩
theorem qA5.at {w:World} {a:Option Addr} {n:Nat} {cs:List qA1} (h:qA5 w a n cs) {k:Nat} (hk:k < n):∃ b off c,a=some ⟨b,off,none⟩∧cs[k]? = some c∧qI2 w b (off+k * 5) c∧qF2 w c:=by
 obtain ⟨b,off,e,hr⟩:=h.row (by omega)
 have hx:=List.getElem?_eq_getElem (l:=cs) (i:=k) (by rw [h.len];exact hk)
 exact ⟨b,off,_,e,hx,hr k _ hx,h.each k _ hx⟩
structure qF1 (m:Nat) (cs:List qA1):Prop where
 le:∀ (k:Nat) c,cs[k]? = some c→qD3 m c
 rc:∀ (k:Nat) c,cs[k]? = some c→c.rn≤c.rc∧c.rc≤maxLen
def qU7 (c:qA1):Int:=qH2 c.e c.f c.zs (qA3 c.fs) c.cs
def qJ7 (cs:List qA1):Nat→Int
 | 0=>0
 | k+1=>if qJ7 cs k=0 then (match cs[k]? with
  | none=>0
  | some c=>if qU7 c=0 then (if c.f=(cs[0]?.getD default).f then 0 else 1) else qU7 c) else qJ7 cs k
def qB9 (cs:List qA1):Int:=if cs.length < 1∨8 < cs.length then 2 else qJ7 cs cs.length
theorem qR7 (cs:List qA1) (k m:Nat) (d:Int) (hd:d≠0) (h:qJ7 cs k=d) (hm:k≤m):qJ7 cs m=d:=by
  induction m with
  | zero => obtain rfl:k=0:=by omega
            exact h
  | succ m ih =>
    by_cases e:k=m+1
    · subst e;exact h
    · have:=ih (by omega)
      rw [qJ7,this,if_neg hd]
theorem QA9 {cs:List qA1} {k:Nat} {c:qA1} (hc:cs[k]? = some c) (h0:qJ7 cs k=0):qJ7 cs (k+1)=if qU7 c=0 then (if c.f=(cs[0]?.getD default).f then 0 else 1) else qU7 c:=by
 rw [qJ7,h0,if_pos rfl,hc]
theorem qX7 {cs:List qA1} (h:qB9 cs=0):1≤cs.length∧cs.length≤8∧∀ (k:Nat) c,cs[k]? = some c→qU7 c=0∧c.f=(cs[0]?.getD default).f:=by
 unfold qB9 at h
 by_cases hl:cs.length < 1∨8 < cs.length
 ·rw [if_pos hl] at h;omega
 ·rw [if_neg hl] at h
  refine ⟨by omega,by omega,fun k c hc=>?_⟩
  have hk:k < cs.length:=by
   by_cases q:k < cs.length
   ·exact q
   ·rw [List.getElem?_eq_none (by omega)] at hc;cases hc
  have h0:qJ7 cs k=0:=by
   by_cases q:qJ7 cs k=0
   ·exact q
   ·have:=qR7 cs k cs.length _ q rfl (by omega);rw [this] at h;exact absurd h q
  have h1:qJ7 cs (k+1)=0:=by
   by_cases q:qJ7 cs (k+1)=0
   ·exact q
   ·have:=qR7 cs (k+1) cs.length _ q rfl (by omega);rw [this] at h;exact absurd h q
  rw [QA9 hc h0] at h1
  by_cases q:qU7 c=0
  ·rw [if_pos q] at h1
   by_cases r:c.f=(cs[0]?.getD default).f
   ·exact ⟨q,r⟩
   ·rw [if_neg r] at h1;omega
  ·rw [if_neg q] at h1;exact absurd h1 q
theorem qM3 (a:Option Addr) (n cap:Nat) (cs:List qA1) (w:World) (hn:n≤1048576) (hle:qF1 1048576 cs) (h:qA5 w a n cs) :
  Calls Tryz.prog 56 #[.slice a n cap] w fun e w'=>e = .returned (.int .i64 (qB9 cs))∧Below w.heap.size w w':=by
 have H:Hid (qA5 w a n cs):=h
 have HLE:Hid (qF1 1048576 cs):=hle
 have HZ:Hid (cs.length=n):=h.len
 have hn':(n:Int)≤1048576:=by omega
 clear h hle
 by_cases h1:n < 1
 ·have HC:Hid (qB9 cs=2):=by show qB9 cs=2;unfold qB9;rw [if_pos (.inl (by rw [HZ.out];exact h1))]
  have hn0:n=0:=by omega
  subst hn0
  rw [HC.out]
  go_enter Tryz.func56,Tryz.ntmps56
  go_wp2
  go_ret
  exact ⟨rfl,Below.refl _ _⟩
 ·by_cases h8:8 < n
  ·have HC:Hid (qB9 cs=2):=by show qB9 cs=2;unfold qB9;rw [if_pos (.inr (by rw [HZ.out];exact h8))]
   have h1':¬ ((n:Int) < 1):=by omega
   have h8':(8:Int) < (n:Int):=by omega
   rw [HC.out]
   go_enter Tryz.func56,Tryz.ntmps56
   go_wp2
   go_ret
   exact ⟨rfl,Below.refl _ _⟩
  ·have h1':¬ ((n:Int) < 1):=by omega
   have h8':¬ ((8:Int) < (n:Int)):=by omega
   have HC:Hid (qB9 cs=qJ7 cs n):=by show qB9 cs=_;unfold qB9;rw [if_neg (by rw [HZ.out];omega),HZ.out]
   obtain ⟨b0,off0,c0,rfl,hc0,hat0,_⟩:=H.out.at (show 0 < n by omega)
   have HC0:Hid ((cs[0]?.getD default).f=c0.f):=by show (cs[0]?.getD default).f=_;rw [hc0];rfl
   have HAT0:Hid (qI2 w b0 off0 c0):=by have:=hat0;rw [Nat.zero_mul,Nat.add_zero] at this;exact this
   clear hc0 hat0
   rw [HC.out]
   go_enter Tryz.func56,Tryz.ntmps56
   go_wp2
   go_loopw [3] (fun i wr=>∃ k:Nat,k≤n∧i = .int .i64 (k:Int)∧qJ7 cs k=0∧Below w.heap.size w wr) (fun i _=>n - (intOf i).toNat)
   case atStart=>exact ⟨0,Nat.zero_le _,rfl,rfl,Below.refl _ _⟩
   case round =>
    obtain ⟨k,hk,rfl,hz,hnx⟩:=hrel
    have HK0:Hid (qJ7 cs k=0):=hz
    clear hz
    by_cases hlt:k < n
    ·obtain ⟨b,off,c,e,hc,hat,hin⟩:=H.out.at hlt
     cases e
     have HS:Hid (cs[k]? = some c):=hc
     have hlt':(k:Int) < (n:Int):=by omega
     have HA:Hid (qI2 wr b0 (off0+k * 5) c∧qF2 wr c∧qD3 1048576 c):=⟨hat.below hnx,hin.below hnx,HLE.out.le k c hc⟩
     have HN:Hid (qJ7 cs (k+1)=if qU7 c=0 then (if c.f=c0.f then 0 else 1) else qU7 c):=by show qJ7 cs (k+1)=_;rw [QA9 hc HK0.out,HC0.out]
     clear hc hat hin
     obtain ⟨q,hq⟩:∃ q,qU7 c=q:=⟨_,rfl⟩
     rw [hq] at HN
     have HQ:Hid (Calls Tryz.prog 88 #[.pointer (some ⟨b0,off0+k * 5,none⟩)] wr fun e w'=>e = .returned (.int .i64 q)∧Below wr.heap.size wr w'):=by rw [← hq];exact l6Fault_o b0 (off0+k * 5) c wr HA.out.2.2 HA.out.1 HA.out.2.1
     clear hq
     go_wp2_with fail
     refine HQ.out.mono ?_
     rintro e w1 ⟨rfl,hb1⟩
     have B1:Below w.heap.size w w1:=hnx.trans (hb1.mono hnx.size)
     by_cases q0:q=0
     ·have qb:(q != 0)=false:=by simp [q0]
      rw [if_pos q0] at HN
      have hA1:=HA.out.1.below hb1
      have hl1:=hA1.lt
      obtain ⟨x0,x1,_⟩:=hA1
      have hB1:=HAT0.out.below B1
      obtain ⟨y0,y1,_⟩:=hB1
      by_cases hf:c.f=c0.f
      ·have fb:(c.f != c0.f)=false:=by simp [hf]
       rw [if_pos hf] at HN
       clear q0 hf
       go_wp2
       go_quiet (fail)
       go_wp2
       exact ⟨⟨k+1,by omega,by go_num,HN.out,below_drewN B1 _⟩,by simp [intOf];omega⟩
      ·have fb:(c.f != c0.f)=true:=by simp [hf]
       rw [if_neg hf] at HN
       have HE:Hid (qJ7 cs n=1):=qR7 cs (k+1) n 1 (by omega) HN.out (by omega)
       clear q0 hf
       go_wp2
       go_quiet (fail)
       go_wp2
       go_ret
       exact ⟨by rw [HE.out];rfl,below_drewN B1 _⟩
     ·have qb:(q != 0)=true:=by simp [q0]
      rw [if_neg q0] at HN
      have HE:Hid (qJ7 cs n=q):=qR7 cs (k+1) n q q0 HN.out (by omega)
      clear q0
      go_wp2
      go_ret
      exact ⟨by rw [HE.out];rfl,B1⟩
    ·have hkn:k=n:=by omega
     have hlt':¬ ((k:Int) < (n:Int)):=by omega
     have HE:Hid (qJ7 cs n=0):=by rw [← hkn];exact HK0.out
     clear hkn
     go_wp2
     go_ret
     exact ⟨by rw [HE.out];rfl,hnx⟩

def nfC (cs:List qA1) (e n:Int):Int:=if n < 0∨(cs.length:Int)≤n then 3 else if (cs[n.toNat]?.getD default).e≠e+1 then 10 else 0
theorem nextFault_c (a:Option Addr) (m cap:Nat) (cs:List qA1) (e n:Int) (w:World) (hm:m≤1048576) (he:0≤e∧e≤100) (hc:qA5 w a m cs) :
  Calls Tryz.prog 144 #[.slice a m cap,.int .i64 e,.int .i64 n] w fun d w'=>d = .returned (.int .i64 (nfC cs e n))∧Below w.heap.size w w':=by
 have HC:Hid (qA5 w a m cs):=hc
 have HL:Hid (cs.length=m):=hc.len
 have hm':(m:Int)≤1048576:=by omega
 obtain ⟨he0,he1⟩:=he
 clear hc
 by_cases h0:n < 0
 ·have HV:Hid (nfC cs e n=3):=by show nfC cs e n=3;unfold nfC;rw [if_pos (.inl h0)]
  rw [HV.out]
  have hb:decide (n < 0)=true:=by simp [h0]
  go_enter Tryz.func144,Tryz.ntmps144
  go_wp2
  go_ret
  exact ⟨rfl,Below.refl _ _⟩
 ·have hb:decide (n < 0)=false:=by simp;omega
  by_cases h1:(m:Int)≤n
  ·have HV:Hid (nfC cs e n=3):=by show nfC cs e n=3;unfold nfC;rw [if_pos (.inr (by rw [HL.out];exact h1))]
   rw [HV.out]
   have hb1:decide ((m:Int)≤n)=true:=by simp [h1]
   go_enter Tryz.func144,Tryz.ntmps144
   go_wp2
   go_ret
   exact ⟨rfl,Below.refl _ _⟩
  ·obtain ⟨k,rfl⟩:∃ k:Nat,n=(k:Int):=Int.eq_ofNat_of_zero_le (by omega)
   have hkm:k < m:=by omega
   have hb1:decide ((m:Int)≤(k:Int))=false:=by simp;omega
   obtain ⟨g,off,c,rfl,hck,hat,_⟩:=HC.out.at hkm
   have HV:Hid (nfC cs e (k:Int)=if c.e≠e+1 then 10 else 0):=by show nfC _ _ _=_;unfold nfC;rw [if_neg (by rw [HL.out];omega),Int.toNat_natCast,hck];rfl
   have hgl:=hat.lt
   obtain ⟨y0,_⟩:=hat
   have hlt':(k:Int) < (m:Int):=by omega
   by_cases hce:c.e=e+1
   ·have hceb:(c.e != e+1)=false:=by simp [hce]
    rw [HV.out,if_neg (by simp [hce])]
    clear hce hck h0 h1
    go_enter Tryz.func144,Tryz.ntmps144
    go_wp2
    go_ret
    exact ⟨rfl,Below.refl _ _⟩
   ·have hceb:(c.e != e+1)=true:=by simp [hce]
    rw [HV.out,if_pos hce]
    clear hce hck h0 h1
    go_enter Tryz.func144,Tryz.ntmps144
    go_wp2
    go_ret
    exact ⟨rfl,Below.refl _ _⟩

end Go.Proofs.YtdppdbihhlipeaaGreatDoor
