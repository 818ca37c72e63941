/- Contracts. -/
import Derived.Test.YthogdfnaojijhaaGreatPa15
import Derived.Test.YthogdfnaojijhaaGreatPa18
import Derived.Test.YthogdfnaojijhaaGreatPa19
namespace Go.Proofs.YthogdfnaojijhaaGreat
set_option maxRecDepth 100000
set_option maxHeartbeats 8000000
open Go.RowKit
set_option linter.unusedVariables false
set_option linter.unusedSimpArgs false

def qX7 (pss:List (List qB3)):Nat→Int
 | 0=>0
 | k+1=>if qX7 pss k≠0 then qX7 pss k else match pss[k]? with
  | none=>0
  | some x=>qH0 x
def qE7 (pss:List (List qB3)):Int:=if 4 < pss.length then 2 else qX7 pss pss.length
theorem QA2 (zs:List (List qB3)) (k m:Nat) (c:Int) (hc:c≠0) (h:qX7 zs k=c) (hm:k≤m):qX7 zs m=c:=by
  induction m with
  | zero => obtain rfl:k=0:=by omega
            exact h
  | succ m ih =>
    by_cases e:k=m+1
    · subst e;exact h
    · have:=ih (by omega)
      simp only [qX7,this]
      rw [if_pos hc]
theorem QA3 {zs:List (List qB3)} {k:Nat} {x:List qB3} (hk:zs[k]? = some x) (h0:qX7 zs k=0):qX7 zs (k+1)=qH0 x:=by
 simp [qX7,h0,hk]
theorem qN2 {fs:List qC6} {k:Nat} {x:qC6} (h:fs[k]? = some x):(qA1 fs)[k]? = some x.ps:=by
 unfold qA1
 rw [List.getElem?_map,h]
 rfl
theorem qQ8 (fs:List qC6):(qA1 fs).length=fs.length:=by unfold qA1;simp
def qD3 (e f:Int) (zs:List qA0) (pss:List (List qB3)) (cs:List Int):Int:=if inR e 1 9=false then 3 else if inR f 1 2=false then 3 else orJ (qA7 zs) (orJ (qE7 pss) (qE8 cs))
theorem QS4 {e f:Int} {zs:List qA0} {pss:List (List qB3)} {cs:List Int} (h:qD3 e f zs pss cs=0):inR e 1 9=true∧inR f 1 2=true∧qA7 zs=0∧qE7 pss=0∧qE8 cs=0:=by
 unfold qD3 at h
 split at h
 ·cases h
 ·split at h
  ·cases h
  ·rename_i q1 q2
   unfold orJ at h
   split at h
   ·split at h
    ·exact ⟨by simpa using q1,by simpa using q2,by assumption,by assumption,h⟩
    ·exact absurd h (by assumption)
   ·exact absurd h (by assumption)
theorem fm_zero {pss:List (List qB3)} (h:qE7 pss=0):pss.length≤4∧∀ (k:Nat) (x:List qB3),pss[k]? = some x→qH0 x=0:=by
 unfold qE7 at h
 split at h
 ·cases h
 ·refine ⟨by omega,fun k x e=>?_⟩
  have hk:k < pss.length:=by
   by_cases q:k < pss.length
   ·exact q
   ·rw [List.getElem?_eq_none (by omega)] at e;cases e
  have key:∀ j,j≤pss.length→qX7 pss j=0:=fun j hj=>by
   by_cases q:qX7 pss j=0
   ·exact q
   ·have:=QA2 pss j pss.length _ q rfl hj
    rw [this] at h
    exact absurd h q
  have h1:=key (k+1) (by omega)
  rw [QA3 e (key k (by omega))] at h1
  exact h1
theorem or364_c (g:Nat) (c d f:Int) (w:World) (h0:w.cell? ⟨g,0,none⟩=some (.int .i64 c)) (h1:w.cell? ⟨g,1,none⟩=some (.int .i64 d)) (h2:w.cell? ⟨g,2,none⟩=some (.int .i64 f)) :
  Calls Tryz.prog 97 #[.slice (some ⟨g,0,none⟩) 3 3] w fun e w'=>e = .returned (.int .i64 (orJ c (orJ d f)))∧w=w':=by
 go_enter Tryz.func97,Tryz.ntmps97
 go_wp2
 go_loop [8] (fun i=>∃ k:Nat,k≤3∧i = .int .i64 (k:Int)∧(1≤k→c=0)∧(2≤k→d=0)∧(3≤k→f=0)) (fun i=>3 - (intOf i).toNat)
 case atStart=>exact ⟨0,by omega,rfl,fun h=>by omega,fun h=>by omega,fun h=>by omega⟩
 case round =>
  obtain ⟨k,hk,rfl,hc,hd,hf⟩:=hrel
  have hk':k=0∨k=1∨k=2∨k=3:=by omega
  rcases hk' with rfl | rfl | rfl | rfl
  ·clear hc hd hf
   by_cases e:c=0
   ·have b:(c != 0)=false:=by simp [e]
    have HE:Hid (c=0):=e
    clear e
    go_wp2
    exact ⟨⟨1,by omega,by go_num,fun _=>HE.out,fun h=>by omega,fun h=>by omega⟩,by simp [intOf]⟩
   ·have b:(c != 0)=true:=by simp [e]
    go_wp2
    go_ret
    exact ⟨by simp [orJ,e],rfl⟩
  ·have HC:Hid (c=0):=hc (by omega)
   clear hc hd hf
   by_cases e:d=0
   ·have b:(d != 0)=false:=by simp [e]
    have HE:Hid (d=0):=e
    clear e
    go_wp2
    exact ⟨⟨2,by omega,by go_num,fun _=>HC.out,fun _=>HE.out,fun h=>by omega⟩,by simp [intOf]⟩
   ·have b:(d != 0)=true:=by simp [e]
    go_wp2
    go_ret
    exact ⟨by simp [orJ,HC.out,e],rfl⟩
  ·have HC:Hid (c=0):=hc (by omega)
   have HD:Hid (d=0):=hd (by omega)
   clear hc hd hf
   by_cases e:f=0
   ·have b:(f != 0)=false:=by simp [e]
    have HE:Hid (f=0):=e
    clear e
    go_wp2
    exact ⟨⟨3,by omega,by go_num,fun _=>HC.out,fun _=>HD.out,fun _=>HE.out⟩,by simp [intOf]⟩
   ·have b:(f != 0)=true:=by simp [e]
    go_wp2
    go_ret
    exact ⟨by simp [orJ,HC.out,HD.out],rfl⟩
  ·have HC:Hid (c=0):=hc (by omega)
   have HD:Hid (d=0):=hd (by omega)
   have HF:Hid (f=0):=hf (by omega)
   clear hc hd hf
   go_wp2
   go_ret
   exact ⟨by simp [orJ,HC.out,HD.out,HF.out],rfl⟩
theorem kpC_new {W w:World} (h:(∀ b o,b < W.heap.size→w.cell? ⟨b,o,none⟩=W.cell? ⟨b,o,none⟩)∧Below W.heap.size W w) (o:Obj):(∀ b i,b < W.heap.size→(w.alloc o).cell? ⟨b,i,none⟩=W.cell? ⟨b,i,none⟩)∧Below W.heap.size W (w.alloc o) :=
 qA8 h (zN)
theorem QM8 (a:Option Addr) (n cap:Nat) (fs:List qC6) (w:World) (hn:n≤1048576) (hle:qG4 1048576 fs) (h:qC5 w a n fs) :
  Calls Tryz.prog 159 #[.slice a n cap] w fun e w'=>e = .returned (.int .i64 (qE7 (qA1 fs)))∧Below w.heap.size w w':=by
 have H:Hid (qC5 w a n fs):=h
 have HZ:Hid ((qA1 fs).length=n):=by show (qA1 fs).length=n;rw [qQ8];exact h.1
 have HLE:Hid (qG4 1048576 fs):=hle
 clear h hle
 by_cases h4:4 < n
 ·have HC:Hid (qE7 (qA1 fs)=2):=by show qE7 (qA1 fs)=2;unfold qE7;rw [if_pos (by rw [HZ.out];exact h4)]
  have h4':(4:Int) < (n:Int):=by omega
  go_enter Tryz.func159,Tryz.ntmps159
  go_wp2
  go_ret
  exact ⟨by rw [HC.out];rfl,Below.refl _ _⟩
 ·have HC:Hid (qE7 (qA1 fs)=qX7 (qA1 fs) n):=by show qE7 (qA1 fs)=qX7 (qA1 fs) n;unfold qE7;rw [if_neg (by rw [HZ.out];exact h4),HZ.out]
  have h4':(n:Int)≤4:=by omega
  rw [HC.out]
  go_enter Tryz.func159,Tryz.ntmps159
  go_wp2
  go_loopw [11] (fun i wr=>∃ k:Nat,k≤n∧i = .int .i64 (k:Int)∧qX7 (qA1 fs) k=0∧Below w.heap.size w wr) (fun i _=>n - (intOf i).toNat)
  case atStart=>exact ⟨0,Nat.zero_le _,rfl,rfl,Below.refl _ _⟩
  case round =>
   obtain ⟨k,hk,rfl,hz,hnx⟩:=hrel
   have HK:Hid (qX7 (qA1 fs) k=0):=hz
   clear hz
   by_cases hlt:k < n
   ·obtain ⟨b,off,x,rfl,hs,hr⟩:=H.out.at hlt
    have HS:Hid ((qA1 fs)[k]? = some x.ps):=qN2 hs
    have hx:x.n≤1048576:=HLE.out k x hs
    have hb:b < w.heap.size:=hr.lt
    have hc:=(hr.below hnx).1
    have HP:Hid (qA9 wr x.a x.n x.ps):=(hr.below hnx).2
    clear hs hr
    have hlt':(k:Int) < (n:Int):=by omega
    have hA:Below wr.heap.size wr (wr.alloc (.cells #[.slice x.a x.n x.cap] 153)):=zN
    obtain ⟨q,hq⟩:∃ q,qH0 x.ps=q:=⟨_,rfl⟩
    go_wp2_with fail
    refine (qP1 x.a x.n x.cap x.ps _ (by unfold maxLen;omega) (HP.out.below hA)).mono ?_
    rintro e w1 ⟨rfl,hb1⟩
    rw [hq]
    have hb01:Below w.heap.size w w1:=hnx.trans ((hA.trans (hb1.mono hA.size)).mono hnx.size)
    have HQ:Hid (qX7 (qA1 fs) (k+1)=q):=by show qX7 (qA1 fs) (k+1)=q;rw [QA3 HS.out HK.out];exact hq
    clear hc hq hA hb1
    by_cases q0:q=0
    ·have qb:(q != 0)=false:=by simp [q0]
     have HQ0:Hid (q=0):=q0
     clear q0
     go_wp2
     exact ⟨⟨k+1,by omega,by go_num,by rw [HQ.out];exact HQ0.out,hb01⟩,by simp [intOf];omega⟩
    ·have qb:(q != 0)=true:=by simp [q0]
     have HE:Hid (qX7 (qA1 fs) n=q):=QA2 _ _ _ _ q0 HQ.out (by omega)
     go_wp2
     go_ret
     exact ⟨by rw [HE.out];rfl,hb01⟩
   ·have hkn:k=n:=by omega
    subst hkn
    go_wp2
    go_ret
    exact ⟨by rw [HK.out];rfl,hnx⟩
theorem QO0 (a:Option Addr) (n cap:Nat) (zs:List Int) (w:World) (h:qC1 w a n zs) :
  Calls Tryz.prog 160 #[.slice a n cap] w fun e w'=>e = .returned (.int .i64 (qE8 zs))∧w=w':=by
 have HI:Hid (qC1 w a n zs):=h
 clear h
 go_enter Tryz.func160,Tryz.ntmps160
 go_wp2_with (go_at_call 177;refine (qU3 _ _ _ zs _ HI.out).mono ?_;rintro e w' ⟨rfl,rfl⟩)
 go_ret
 exact ⟨rfl,rfl⟩
theorem epochOf_c (c:qA3) (w:World):Calls Tryz.prog 132 #[.agg #[.int .i64 c.e,.int .i64 c.f,.slice c.ra c.rn c.rc,.slice c.fa c.fn c.fc,.slice c.ca c.cn c.cc]] w fun e w'=>e = .returned (.agg #[.slice c.ca c.cn c.cc,.int .i64 c.e,.int .i64 c.f,.slice c.ra c.rn c.rc,.slice c.fa c.fn c.fc])∧Below w.heap.size w w':=by
 go_enter Tryz.func132,Tryz.ntmps132
 go_wp2
 go_returns
 exact ⟨rfl,by go_grown⟩
theorem QN8 (c:qA3) (w:World) (hle:qB7 1048576 c) (hrc:c.rn≤c.rc) (hrm:c.rc≤maxLen) (h:qC9 w c) :
  Calls Tryz.prog 133 #[.agg #[.slice c.ca c.cn c.cc,.int .i64 c.e,.int .i64 c.f,.slice c.ra c.rn c.rc,.slice c.fa c.fn c.fc]] w fun e w'=>e = .returned (.int .i64 (qD3 c.e c.f c.zs (qA1 c.fs) c.cs))∧Below w.heap.size w w':=by
 obtain ⟨t1,h1⟩:∃ t,inR c.e 1 9=t:=⟨_,rfl⟩
 obtain ⟨t2,h2⟩:∃ t,inR c.f 1 2=t:=⟨_,rfl⟩
 have H1:Hid (inR c.e 1 9=t1):=h1
 have H2:Hid (inR c.f 1 2=t2):=h2
 cases t1
 ·have HV:Hid (qD3 c.e c.f c.zs (qA1 c.fs) c.cs=3):=by show qD3 _ _ _ _ _=3;unfold qD3;rw [if_pos h1]
  clear h1 h2 h
  go_enter Tryz.func133,Tryz.ntmps133
  go_wp2_with (first | (go_at_call 145;refine (qM0 _ _).mono ?_;rintro e w' ⟨rfl,rfl⟩;rw [H1.out]))
  go_ret
  exact ⟨by rw [HV.out];rfl,by go_grown⟩
 ·cases t2
  ·have HV:Hid (qD3 c.e c.f c.zs (qA1 c.fs) c.cs=3):=by show qD3 _ _ _ _ _=3;unfold qD3;rw [if_neg (by simp [h1]),if_pos h2]
   clear h1 h2 h
   go_enter Tryz.func133,Tryz.ntmps133
   go_wp2_with (first | (go_at_call 145;refine (qM0 _ _).mono ?_;rintro e w' ⟨rfl,rfl⟩;rw [H1.out]) | (go_at_call 152;refine (QE4 _ _).mono ?_;rintro e w' ⟨rfl,rfl⟩;rw [H2.out]))
   go_ret
   exact ⟨by rw [HV.out];rfl,by go_grown⟩
  ·have HV:Hid (qD3 c.e c.f c.zs (qA1 c.fs) c.cs=orJ (qA7 c.zs) (orJ (qE7 (qA1 c.fs)) (qE8 c.cs))):=by show qD3 _ _ _ _ _=_;unfold qD3;rw [if_neg (by simp [h1]),if_neg (by simp [h2])]
   rw [HV.out]
   obtain ⟨W,hW⟩:∃ W,W=w.alloc (.cells #[.slice c.ca c.cn c.cc,.int .i64 c.e,.int .i64 c.f,.slice c.ra c.rn c.rc,.slice c.fa c.fn c.fc] 203):=⟨_,rfl⟩
   have hs:W.heap.size=w.heap.size+1:=by rw [hW];simp
   have B0:Below w.heap.size w W:=by rw [hW];exact zN
   have c0:W.cell? ⟨w.heap.size,0,none⟩=some (.slice c.ca c.cn c.cc):=by rw [hW];simp
   have c3:W.cell? ⟨w.heap.size,3,none⟩=some (.slice c.ra c.rn c.rc):=by rw [hW];simp
   have c4:W.cell? ⟨w.heap.size,4,none⟩=some (.slice c.fa c.fn c.fc):=by rw [hW];simp
   have HP:Hid (∀ w2:World,(∀ b o,b < W.heap.size→w2.cell? ⟨b,o,none⟩=W.cell? ⟨b,o,none⟩)∧Below W.heap.size W w2→Calls Tryz.prog 158 #[.slice c.ra c.rn c.rc] w2 fun e w'=>e = .returned (.int .i64 (qA7 c.zs))∧Below w2.heap.size w2 w'):=fun w2 q=>qN5 c.ra c.rn c.rc c.zs w2 hle.rules hrc hrm (h.rules.below (B0.trans (q.2.mono (by omega))))
   have HF:Hid (∀ w2:World,(∀ b o,b < W.heap.size→w2.cell? ⟨b,o,none⟩=W.cell? ⟨b,o,none⟩)∧Below W.heap.size W w2→Calls Tryz.prog 159 #[.slice c.fa c.fn c.fc] w2 fun e w'=>e = .returned (.int .i64 (qE7 (qA1 c.fs)))∧Below w2.heap.size w2 w'):=fun w2 q=>QM8 c.fa c.fn c.fc c.fs w2 hle.forms hle.parts (h.forms.below (B0.trans (q.2.mono (by omega))))
   have HK:Hid (∀ w2:World,(∀ b o,b < W.heap.size→w2.cell? ⟨b,o,none⟩=W.cell? ⟨b,o,none⟩)∧Below W.heap.size W w2→Calls Tryz.prog 160 #[.slice c.ca c.cn c.cc] w2 fun e w'=>e = .returned (.int .i64 (qE8 c.cs))∧Below w2.heap.size w2 w'):=fun w2 q=>(QO0 c.ca c.cn c.cc c.cs w2 (h.classes.below (B0.trans (q.2.mono (by omega))))).mono fun e w' hh=>⟨hh.1,hh.2 ▸ Below.refl _ _⟩
   clear h hle h1 h2
   generalize qA7 c.zs=p at HP ⊢
   generalize qE7 (qA1 c.fs)=q at HF ⊢
   generalize qE8 c.cs=r at HK ⊢
   go_enter Tryz.func133,Tryz.ntmps133
   go_wp2_with (first | (go_at_call 145;refine (qM0 _ _).mono ?_;rintro e w' ⟨rfl,rfl⟩;rw [H1.out]) | (go_at_call 152;refine (QE4 _ _).mono ?_;rintro e w' ⟨rfl,rfl⟩;rw [H2.out]))
   rw [← hW]
   clear hW
   go_region_held3 (fun w'=>(∀ b o,b < W.heap.size→w'.cell? ⟨b,o,none⟩=W.cell? ⟨b,o,none⟩)∧Below W.heap.size W w') (first | exact hS | exact qB6 _ | exact kpC_new (by assumption) _)
    (first | (go_at_call 158;refine (HP.out _ (by assumption)).mono ?_;rintro e w' ⟨rfl,hb2⟩;have hS:=qA8 (by assumption) hb2) | (go_at_call 159;refine (HF.out _ (by assumption)).mono ?_;rintro e w' ⟨rfl,hb2⟩;have hS:=qA8 (by assumption) hb2) | (go_at_call 160;refine (HK.out _ (by assumption)).mono ?_;rintro e w' ⟨rfl,hb2⟩;have hS:=qA8 (by assumption) hb2) | (go_at_call 97;refine (or364_c _ p q r _ ?_ ?_ ?_).mono ?_;(· simp [go_sem]);(· simp [go_sem]);(· simp [go_sem]);rintro e w' ⟨rfl,rfl⟩))
   all_goals
    have hS3:=kpC_new hS (.cells #[.int .i64 p,.int .i64 q,.int .i64 r] 2)
    go_wp2
    go_ret
    exact ⟨rfl,B0.trans (hS3.2.mono (by omega))⟩
theorem qN6 (c:qA3) (w:World) (hle:qB7 1048576 c) (hrc:c.rn≤c.rc) (hrm:c.rc≤maxLen) (h:qC9 w c) :
  Calls Tryz.prog 100 #[.agg #[.int .i64 c.e,.int .i64 c.f,.slice c.ra c.rn c.rc,.slice c.fa c.fn c.fc,.slice c.ca c.cn c.cc]] w fun e w'=>e = .returned (.int .i64 (qD3 c.e c.f c.zs (qA1 c.fs) c.cs))∧Below w.heap.size w w':=by
 have H:Hid (qC9 w c):=h
 have HLE:Hid (qB7 1048576 c):=hle
 clear h hle
 have hA:Below w.heap.size w (w.alloc (.cells #[.int .i64 c.e,.int .i64 c.f,.slice c.ra c.rn c.rc,.slice c.fa c.fn c.fc,.slice c.ca c.cn c.cc] 72)):=zN
 obtain ⟨v,hv⟩:∃ v,qD3 c.e c.f c.zs (qA1 c.fs) c.cs=v:=⟨_,rfl⟩
 rw [hv]
 have HF:Hid (∀ w2:World,Below w.heap.size w w2→Calls Tryz.prog 133 #[.agg #[.slice c.ca c.cn c.cc,.int .i64 c.e,.int .i64 c.f,.slice c.ra c.rn c.rc,.slice c.fa c.fn c.fc]] w2 fun e w'=>e = .returned (.int .i64 v)∧Below w2.heap.size w2 w'):=fun w2 q=>by rw [← hv];exact QN8 c w2 HLE.out hrc hrm (H.out.below q)
 clear hv
 go_enter Tryz.func100,Tryz.ntmps100
 go_wp2_with fail
 refine (epochOf_c c _).mono ?_
 rintro e w1 ⟨rfl,hb1⟩
 have hB1:Below w.heap.size w w1:=hA.trans (hb1.mono hA.size)
 clear hA hb1
 go_wp2_with fail
 refine (HF.out _ hB1).mono ?_
 rintro e w2 ⟨rfl,hb2⟩
 have hB2:Below w.heap.size w w2:=hB1.trans (hb2.mono hB1.size)
 clear hb2 hB1
 go_wp2
 go_ret
 exact ⟨rfl,hB2⟩

def qE2 (w:World) (g o:Nat) (c:qA3):Prop:=w.cell? ⟨g,o,none⟩=some (.int .i64 c.e)∧w.cell? ⟨g,o+1,none⟩=some (.int .i64 c.f)∧w.cell? ⟨g,o+2,none⟩=some (.slice c.ra c.rn c.rc)∧w.cell? ⟨g,o+3,none⟩=some (.slice c.fa c.fn c.fc)∧w.cell? ⟨g,o+4,none⟩=some (.slice c.ca c.cn c.cc)
theorem qE2.lt {w:World} {g o:Nat} {c:qA3} (h:qE2 w g o c):g < w.heap.size:=zL w ⟨g,o,none⟩ h.1
theorem qE2.below {w w':World} {g o:Nat} {c:qA3} (h:qE2 w g o c) (hb:Below w.heap.size w w'):qE2 w' g o c:=by
 obtain ⟨h0,h1,h2,h3,h4⟩:=h
 have hl:=zL w ⟨g,o,none⟩ h0
 exact ⟨(hb.cell (p:=⟨g,o,none⟩) hl).trans h0,(hb.cell (p:=⟨g,o+1,none⟩) hl).trans h1,(hb.cell (p:=⟨g,o+2,none⟩) hl).trans h2,(hb.cell (p:=⟨g,o+3,none⟩) hl).trans h3,(hb.cell (p:=⟨g,o+4,none⟩) hl).trans h4⟩
theorem l6Fault_o (g o:Nat) (c:qA3) (w:World) (hle:qB7 1048576 c) (hk:qE2 w g o c) (h:qC9 w c) :
  Calls Tryz.prog 105 #[.pointer (some ⟨g,o,none⟩)] w fun e w'=>e = .returned (.int .i64 (qD3 c.e c.f c.zs (qA1 c.fs) c.cs))∧Below w.heap.size w w':=by
 obtain ⟨t1,h1⟩:∃ t,inR c.e 1 9=t:=⟨_,rfl⟩
 obtain ⟨t2,h2⟩:∃ t,inR c.f 1 2=t:=⟨_,rfl⟩
 have H1:Hid (inR c.e 1 9=t1):=h1
 have H2:Hid (inR c.f 1 2=t2):=h2
 have hg:g < w.heap.size:=hk.lt
 have HK:Hid (qE2 w g o c):=hk
 obtain ⟨k0,k1,k2,k3,k4⟩:=hk
 cases t1
 ·have HV:Hid (qD3 c.e c.f c.zs (qA1 c.fs) c.cs=3):=by show qD3 _ _ _ _ _=3;unfold qD3;rw [if_pos h1]
  clear h1 h2 h
  go_enter Tryz.func105,Tryz.ntmps105
  go_wp2_with (first | (go_at_call 66;refine (qL7 _ _).mono ?_;rintro e w' ⟨rfl,rfl⟩;rw [H1.out]))
  go_ret
  exact ⟨by rw [HV.out];rfl,by go_grown⟩
 ·cases t2
  ·have HV:Hid (qD3 c.e c.f c.zs (qA1 c.fs) c.cs=3):=by show qD3 _ _ _ _ _=3;unfold qD3;rw [if_neg (by simp [h1]),if_pos h2]
   clear h1 h2 h
   go_enter Tryz.func105,Tryz.ntmps105
   go_wp2_with (first | (go_at_call 66;refine (qL7 _ _).mono ?_;rintro e w' ⟨rfl,rfl⟩;rw [H1.out]) | (go_at_call 106;refine (l6F_c _ _).mono ?_;rintro e w' ⟨rfl,rfl⟩;rw [H2.out]))
   go_ret
   exact ⟨by rw [HV.out];rfl,by go_grown⟩
  ·have HV:Hid (qD3 c.e c.f c.zs (qA1 c.fs) c.cs=orJ (qA7 c.zs) (orJ (qE7 (qA1 c.fs)) (qE8 c.cs))):=by show qD3 _ _ _ _ _=_;unfold qD3;rw [if_neg (by simp [h1]),if_neg (by simp [h2])]
   rw [HV.out]
   have HLE:Hid (qB7 1048576 c):=hle
   have H:Hid (qC9 w c):=h
   clear h1 h2 h hle
   obtain ⟨p,hp⟩:∃ p,qA7 c.zs=p:=⟨_,rfl⟩
   obtain ⟨r,hr⟩:∃ r,qE8 c.cs=r:=⟨_,rfl⟩
   have HP:Hid (Calls Tryz.prog 139 #[.slice c.ra c.rn c.rc] w fun e w'=>e = .returned (.int .i64 p)∧Below w.heap.size w w'):=by rw [← hp];exact l2Fault_c c.ra c.rn c.rc c.zs w HLE.out.rules H.out.rules
   have HR:Hid (∀ w2:World,Below w.heap.size w w2→Calls Tryz.prog 141 #[.slice c.ca c.cn c.cc] w2 fun e w'=>e = .returned (.int .i64 r)∧w2=w'):=fun w2 q=>by rw [← hr];exact QR1 c.ca c.cn c.cc c.cs w2 (H.out.classes.below q)
   rw [hp,hr]
   clear hp hr
   have HZ:Hid ((qA1 c.fs).length=c.fn):=by show (qA1 c.fs).length=c.fn;rw [qQ8];exact H.out.forms.1
   have hfn:(c.fn:Int)≤1048576:=by have:=HLE.out.forms;omega
   go_enter Tryz.func105,Tryz.ntmps105
   go_wp2_with (first | (go_at_call 66;refine (qL7 _ _).mono ?_;rintro e w' ⟨rfl,rfl⟩;rw [H1.out]) | (go_at_call 106;refine (l6F_c _ _).mono ?_;rintro e w' ⟨rfl,rfl⟩;rw [H2.out]) | fail)
   refine HP.out.mono ?_
   rintro e w1 ⟨rfl,hb1⟩
   obtain ⟨d0,d1,d2,d3,d4⟩:=HK.out.below hb1
   have hg1:g < w1.heap.size:=by have:=hb1.size;omega
   clear k0 k1 k2 k3 k4 d0 d1 d2
   by_cases p0:p=0
   ·have pb:(p != 0)=false:=by simp [p0]
    have HPO:Hid (∀ x,orJ p x=x):=fun x=>by simp [orJ,p0]
    clear p0
    by_cases h4:4 < c.fn
    ·have HC:Hid (qE7 (qA1 c.fs)=2):=by show qE7 (qA1 c.fs)=2;unfold qE7;rw [if_pos (by rw [HZ.out];exact h4)]
     have h4':(4:Int) < (c.fn:Int):=by omega
     go_wp2
     go_ret
     exact ⟨by rw [HPO.out,HC.out];rfl,hb1⟩
    ·have HC:Hid (qE7 (qA1 c.fs)=qX7 (qA1 c.fs) c.fn):=by show qE7 (qA1 c.fs)=qX7 (qA1 c.fs) c.fn;unfold qE7;rw [if_neg (by rw [HZ.out];exact h4),HZ.out]
     have h4':(c.fn:Int)≤4:=by omega
     go_wp2
     go_loopw [4] (fun i wr=>∃ k:Nat,k≤c.fn∧i = .int .i64 (k:Int)∧qX7 (qA1 c.fs) k=0∧Below w.heap.size w wr) (fun i _=>c.fn - (intOf i).toNat)
     case atStart=>exact ⟨0,Nat.zero_le _,rfl,rfl,hb1⟩
     case round =>
      obtain ⟨k,hk,rfl,hz,hnx⟩:=hrel
      have HK0:Hid (qX7 (qA1 c.fs) k=0):=hz
      obtain ⟨m0,m1,m2,m3,m4⟩:=HK.out.below hnx
      have hgr:g < wr.heap.size:=by have:=hnx.size;omega
      clear hz d3 d4 m0 m1 m2
      by_cases hlt:k < c.fn
      ·obtain ⟨b,off,x,hfa,hs,hr⟩:=H.out.forms.at hlt
       have HS:Hid ((qA1 c.fs)[k]? = some x.ps):=qN2 hs
       have hx:x.n≤1048576:=HLE.out.parts k x hs
       have hb:b < w.heap.size:=hr.lt
       have hc:=(hr.below hnx).1
       have HPI:Hid (qA9 wr x.a x.n x.ps):=(hr.below hnx).2
       rw [hfa] at m3
       have hbr:b < wr.heap.size:=by have:=hnx.size;omega
       clear hs hr hfa
       have hlt':(k:Int) < (c.fn:Int):=by omega
       obtain ⟨q,hq⟩:∃ q,qH0 x.ps=q:=⟨_,rfl⟩
       go_wp2_with fail
       refine (l4Fault_c x.a x.n x.cap x.ps _ (by unfold maxLen;omega) HPI.out).mono ?_
       rintro e w2 ⟨rfl,hb2⟩
       rw [hq]
       have hb02:Below w.heap.size w w2:=hnx.trans (hb2.mono hnx.size)
       have HQ:Hid (qX7 (qA1 c.fs) (k+1)=q):=by show qX7 (qA1 c.fs) (k+1)=q;rw [QA3 HS.out HK0.out];exact hq
       clear hc hq hb2 m3 m4
       by_cases q0:q=0
       ·have qb:(q != 0)=false:=by simp [q0]
        have HQ0:Hid (q=0):=q0
        clear q0
        go_wp2
        exact ⟨⟨k+1,by omega,by go_num,by rw [HQ.out];exact HQ0.out,hb02⟩,by simp [intOf];omega⟩
       ·have qb:(q != 0)=true:=by simp [q0]
        have HE:Hid (orJ (qE7 (qA1 c.fs)) r=q):=by
         show orJ _ _=_
         rw [HC.out,QA2 _ _ c.fn _ q0 HQ.out (by omega)]
         simp [orJ,q0]
        go_wp2
        go_ret
        exact ⟨by rw [HPO.out,HE.out];rfl,hb02⟩
      ·have hkn:k=c.fn:=by omega
       have HE:Hid (orJ (qE7 (qA1 c.fs)) r=r):=by
        show orJ _ _=_
        rw [HC.out,← hkn,HK0.out]
        simp [orJ]
       have hlt':¬ ((k:Int) < (c.fn:Int)):=by omega
       clear hkn
       go_wp2_with fail
       refine (HR.out _ hnx).mono ?_
       rintro e w2 ⟨rfl,rfl⟩
       go_wp2
       go_ret
       exact ⟨by rw [HPO.out,HE.out];rfl,hnx⟩
   ·have pb:(p != 0)=true:=by simp [p0]
    have HPO:Hid (∀ x,orJ p x=p):=fun x=>by simp [orJ,p0]
    clear p0
    go_wp2
    go_ret
    exact ⟨by rw [HPO.out];rfl,hb1⟩

structure qB1 (w:World) (a:Option Addr) (n:Nat) (cs:List qA3):Prop where
 len:cs.length=n
 row:0 < n→∃ b off,a=some ⟨b,off,none⟩∧∀ k c,cs[k]? = some c→qE2 w b (off+k * 5) c
 each:∀ (k:Nat) c,cs[k]? = some c→qC9 w c
theorem qB1.below {w w':World} {a:Option Addr} {n:Nat} {cs:List qA3} (h:qB1 w a n cs) (hb:Below w.heap.size w w'):qB1 w' a n cs :=
 ⟨h.len,fun hp=>by
  obtain ⟨b,off,e,hr⟩:=h.row hp
  exact ⟨b,off,e,fun k c q=>(hr k c q).below hb⟩,fun k c q=>(h.each k c q).below hb⟩
theorem qB1.at {w:World} {a:Option Addr} {n:Nat} {cs:List qA3} (h:qB1 w a n cs) {k:Nat} (hk:k < n):∃ b off c,a=some ⟨b,off,none⟩∧cs[k]? = some c∧qE2 w b (off+k * 5) c∧qC9 w c:=by
 obtain ⟨b,off,e,hr⟩:=h.row (by omega)
 have hx:=List.getElem?_eq_getElem (l:=cs) (i:=k) (by rw [h.len];exact hk)
 exact ⟨b,off,_,e,hx,hr k _ hx,h.each k _ hx⟩
structure qH4 (m:Nat) (cs:List qA3):Prop where
 le:∀ (k:Nat) c,cs[k]? = some c→qB7 m c
 rc:∀ (k:Nat) c,cs[k]? = some c→c.rn≤c.rc∧c.rc≤maxLen
def qO7 (c:qA3):Int:=qD3 c.e c.f c.zs (qA1 c.fs) c.cs
def qE6 (cs:List qA3):Nat→Int
 | 0=>0
 | k+1=>if qE6 cs k=0 then (match cs[k]? with
  | none=>0
  | some c=>if qO7 c=0 then (if c.f=(cs[0]?.getD default).f then 0 else 1) else qO7 c) else qE6 cs k
def qB5 (cs:List qA3):Int:=if cs.length < 1∨8 < cs.length then 2 else qE6 cs cs.length
theorem qK6 (cs:List qA3) (k m:Nat) (d:Int) (hd:d≠0) (h:qE6 cs k=d) (hm:k≤m):qE6 cs m=d:=by
  induction m with
  | zero => obtain rfl:k=0:=by omega
            exact h
  | succ m ih =>
    by_cases e:k=m+1
    · subst e;exact h
    · have:=ih (by omega)
      rw [qE6,this,if_neg hd]
theorem qR1 {cs:List qA3} {k:Nat} {c:qA3} (hc:cs[k]? = some c) (h0:qE6 cs k=0):qE6 cs (k+1)=if qO7 c=0 then (if c.f=(cs[0]?.getD default).f then 0 else 1) else qO7 c:=by
 rw [qE6,h0,if_pos rfl,hc]
theorem qW5 {cs:List qA3} (h:qB5 cs=0):1≤cs.length∧cs.length≤8∧∀ (k:Nat) c,cs[k]? = some c→qO7 c=0∧c.f=(cs[0]?.getD default).f:=by
 unfold qB5 at h
 by_cases hl:cs.length < 1∨8 < cs.length
 ·rw [if_pos hl] at h;omega
 ·rw [if_neg hl] at h
  refine ⟨by omega,by omega,fun k c hc=>?_⟩
  have hk:k < cs.length:=by
   by_cases q:k < cs.length
   ·exact q
   ·rw [List.getElem?_eq_none (by omega)] at hc;cases hc
  have h0:qE6 cs k=0:=by
   by_cases q:qE6 cs k=0
   ·exact q
   ·have:=qK6 cs k cs.length _ q rfl (by omega);rw [this] at h;exact absurd h q
  have h1:qE6 cs (k+1)=0:=by
   by_cases q:qE6 cs (k+1)=0
   ·exact q
   ·have:=qK6 cs (k+1) cs.length _ q rfl (by omega);rw [this] at h;exact absurd h q
  rw [qR1 hc h0] at h1
  by_cases q:qO7 c=0
  ·rw [if_pos q] at h1
   by_cases r:c.f=(cs[0]?.getD default).f
   ·exact ⟨q,r⟩
   ·rw [if_neg r] at h1;omega
  ·rw [if_neg q] at h1;exact absurd h1 q
theorem QR0 (a:Option Addr) (n cap:Nat) (cs:List qA3) (w:World) (hn:n≤1048576) (hle:qH4 1048576 cs) (h:qB1 w a n cs) :
  Calls Tryz.prog 63 #[.slice a n cap] w fun e w'=>e = .returned (.int .i64 (qB5 cs))∧Below w.heap.size w w':=by
 have H:Hid (qB1 w a n cs):=h
 have HLE:Hid (qH4 1048576 cs):=hle
 have HZ:Hid (cs.length=n):=h.len
 have hn':(n:Int)≤1048576:=by omega
 clear h hle
 by_cases h1:n < 1
 ·have HC:Hid (qB5 cs=2):=by show qB5 cs=2;unfold qB5;rw [if_pos (.inl (by rw [HZ.out];exact h1))]
  have hn0:n=0:=by omega
  subst hn0
  rw [HC.out]
  go_enter Tryz.func63,Tryz.ntmps63
  go_wp2
  go_ret
  exact ⟨rfl,Below.refl _ _⟩
 ·by_cases h8:8 < n
  ·have HC:Hid (qB5 cs=2):=by show qB5 cs=2;unfold qB5;rw [if_pos (.inr (by rw [HZ.out];exact h8))]
   have h1':¬ ((n:Int) < 1):=by omega
   have h8':(8:Int) < (n:Int):=by omega
   rw [HC.out]
   go_enter Tryz.func63,Tryz.ntmps63
   go_wp2
   go_ret
   exact ⟨rfl,Below.refl _ _⟩
  ·have h1':¬ ((n:Int) < 1):=by omega
   have h8':¬ ((8:Int) < (n:Int)):=by omega
   have HC:Hid (qB5 cs=qE6 cs n):=by show qB5 cs=_;unfold qB5;rw [if_neg (by rw [HZ.out];omega),HZ.out]
   obtain ⟨b0,off0,c0,rfl,hc0,hat0,_⟩:=H.out.at (show 0 < n by omega)
   have HC0:Hid ((cs[0]?.getD default).f=c0.f):=by show (cs[0]?.getD default).f=_;rw [hc0];rfl
   have HAT0:Hid (qE2 w b0 off0 c0):=by have:=hat0;rw [Nat.zero_mul,Nat.add_zero] at this;exact this
   clear hc0 hat0
   rw [HC.out]
   go_enter Tryz.func63,Tryz.ntmps63
   go_wp2
   go_loopw [3] (fun i wr=>∃ k:Nat,k≤n∧i = .int .i64 (k:Int)∧qE6 cs k=0∧Below w.heap.size w wr) (fun i _=>n - (intOf i).toNat)
   case atStart=>exact ⟨0,Nat.zero_le _,rfl,rfl,Below.refl _ _⟩
   case round =>
    obtain ⟨k,hk,rfl,hz,hnx⟩:=hrel
    have HK0:Hid (qE6 cs k=0):=hz
    clear hz
    by_cases hlt:k < n
    ·obtain ⟨b,off,c,e,hc,hat,hin⟩:=H.out.at hlt
     cases e
     have HS:Hid (cs[k]? = some c):=hc
     have hlt':(k:Int) < (n:Int):=by omega
     have HA:Hid (qE2 wr b0 (off0+k * 5) c∧qC9 wr c∧qB7 1048576 c):=⟨hat.below hnx,hin.below hnx,HLE.out.le k c hc⟩
     have HN:Hid (qE6 cs (k+1)=if qO7 c=0 then (if c.f=c0.f then 0 else 1) else qO7 c):=by show qE6 cs (k+1)=_;rw [qR1 hc HK0.out,HC0.out]
     clear hc hat hin
     obtain ⟨q,hq⟩:∃ q,qO7 c=q:=⟨_,rfl⟩
     rw [hq] at HN
     have HQ:Hid (Calls Tryz.prog 105 #[.pointer (some ⟨b0,off0+k * 5,none⟩)] wr fun e w'=>e = .returned (.int .i64 q)∧Below wr.heap.size wr w'):=by rw [← hq];exact l6Fault_o b0 (off0+k * 5) c wr HA.out.2.2 HA.out.1 HA.out.2.1
     clear hq
     go_wp2_with fail
     refine HQ.out.mono ?_
     rintro e w1 ⟨rfl,hb1⟩
     have B1:Below w.heap.size w w1:=hnx.trans (hb1.mono hnx.size)
     by_cases q0:q=0
     ·have qb:(q != 0)=false:=by simp [q0]
      rw [if_pos q0] at HN
      have hA1:=HA.out.1.below hb1
      have hl1:=hA1.lt
      obtain ⟨x0,x1,_⟩:=hA1
      have hB1:=HAT0.out.below B1
      obtain ⟨y0,y1,_⟩:=hB1
      by_cases hf:c.f=c0.f
      ·have fb:(c.f != c0.f)=false:=by simp [hf]
       rw [if_pos hf] at HN
       clear q0 hf
       go_wp2
       go_quiet (fail)
       go_wp2
       exact ⟨⟨k+1,by omega,by go_num,HN.out,below_drewN B1 _⟩,by simp [intOf];omega⟩
      ·have fb:(c.f != c0.f)=true:=by simp [hf]
       rw [if_neg hf] at HN
       have HE:Hid (qE6 cs n=1):=qK6 cs (k+1) n 1 (by omega) HN.out (by omega)
       clear q0 hf
       go_wp2
       go_quiet (fail)
       go_wp2
       go_ret
       exact ⟨by rw [HE.out];rfl,below_drewN B1 _⟩
     ·have qb:(q != 0)=true:=by simp [q0]
      rw [if_neg q0] at HN
      have HE:Hid (qE6 cs n=q):=qK6 cs (k+1) n q q0 HN.out (by omega)
      clear q0
      go_wp2
      go_ret
      exact ⟨by rw [HE.out];rfl,B1⟩
    ·have hkn:k=n:=by omega
     have hlt':¬ ((k:Int) < (n:Int)):=by omega
     have HE:Hid (qE6 cs n=0):=by rw [← hkn];exact HK0.out
     clear hkn
     go_wp2
     go_ret
     exact ⟨by rw [HE.out];rfl,hnx⟩

def eAt (cs:List qA3) (p:Nat):Int:=(cs[p]?.getD default).e
def qP8 (l:List Nat):Nat:=l[l.length - 1]?.getD 0
theorem last_app (l:List Nat) (i:Nat):qP8 (l++[i])=i:=by
 unfold qP8
 simp

theorem QC7 (a:Option Addr) (n cap:Nat) (cs:List qA3) (w:World) (hn:n≤1048576) (hle:qH4 1048576 cs) (h:qB1 w a n cs) :
  Calls Tryz.prog 109 #[.slice a n cap] w fun e w'=>e = .returned (.int .i64 (qB5 cs))∧Below w.heap.size w w':=by
 have H:Hid (qB1 w a n cs):=h
 have HLE:Hid (qH4 1048576 cs):=hle
 have HZ:Hid (cs.length=n):=h.len
 have hn':(n:Int)≤1048576:=by omega
 clear h hle
 by_cases h1:n < 1
 ·have HC:Hid (qB5 cs=2):=by show qB5 cs=2;unfold qB5;rw [if_pos (.inl (by rw [HZ.out];exact h1))]
  have hn0:n=0:=by omega
  subst hn0
  rw [HC.out]
  go_enter Tryz.func109,Tryz.ntmps109
  go_wp2
  go_ret
  exact ⟨rfl,Below.refl _ _⟩
 ·by_cases h8:8 < n
  ·have HC:Hid (qB5 cs=2):=by show qB5 cs=2;unfold qB5;rw [if_pos (.inr (by rw [HZ.out];exact h8))]
   have h1':¬ ((n:Int) < 1):=by omega
   have h8':(8:Int) < (n:Int):=by omega
   rw [HC.out]
   go_enter Tryz.func109,Tryz.ntmps109
   go_wp2
   go_ret
   exact ⟨rfl,Below.refl _ _⟩
  ·have h1':¬ ((n:Int) < 1):=by omega
   have h8':¬ ((8:Int) < (n:Int)):=by omega
   have HC:Hid (qB5 cs=qE6 cs n):=by show qB5 cs=_;unfold qB5;rw [if_neg (by rw [HZ.out];omega),HZ.out]
   obtain ⟨b0,off0,c0,rfl,hc0,hat0,_⟩:=H.out.at (show 0 < n by omega)
   have HC0:Hid ((cs[0]?.getD default).f=c0.f):=by show (cs[0]?.getD default).f=_;rw [hc0];rfl
   have HAT0:Hid (qE2 w b0 off0 c0):=by have:=hat0;rw [Nat.zero_mul,Nat.add_zero] at this;exact this
   clear hc0 hat0
   rw [HC.out]
   go_enter Tryz.func109,Tryz.ntmps109
   go_wp2
   go_loopw [16] (fun i wr=>∃ k:Nat,k≤n∧i = .int .i64 (k:Int)∧qE6 cs k=0∧Below w.heap.size w wr) (fun i _=>n - (intOf i).toNat)
   case atStart=>exact ⟨0,Nat.zero_le _,rfl,rfl,Below.refl _ _⟩
   case round =>
    obtain ⟨k,hk,rfl,hz,hnx⟩:=hrel
    have HK0:Hid (qE6 cs k=0):=hz
    clear hz
    by_cases hlt:k < n
    ·obtain ⟨b,off,c,e,hc,hat,hin⟩:=H.out.at hlt
     cases e
     have hlt':(k:Int) < (n:Int):=by omega
     have hA:=hat.below hnx
     have hl:=hA.lt
     obtain ⟨u0,u1,u2,u3,u4⟩:=hA
     have HN:Hid (qE6 cs (k+1)=if qO7 c=0 then (if c.f=c0.f then 0 else 1) else qO7 c):=by show qE6 cs (k+1)=_;rw [qR1 hc HK0.out,HC0.out]
     obtain ⟨V,hV⟩:∃ V,V=wr.alloc (.cells #[.int .i64 c.e,.int .i64 c.f,.slice c.ra c.rn c.rc,.slice c.fa c.fn c.fc,.slice c.ca c.cn c.cc] 72):=⟨_,rfl⟩
     have BV:Below wr.heap.size wr V:=by rw [hV];exact zN
     have BW:Below w.heap.size w V:=hnx.trans (BV.mono hnx.size)
     have KV:Hid (qJ7 V wr.heap.size c):=by rw [hV];exact qJ7.new wr c _
     obtain ⟨q,hq⟩:∃ q,qO7 c=q:=⟨_,rfl⟩
     rw [hq] at HN
     have HQ:Hid (Calls Tryz.prog 100 #[.agg #[.int .i64 c.e,.int .i64 c.f,.slice c.ra c.rn c.rc,.slice c.fa c.fn c.fc,.slice c.ca c.cn c.cc]] V fun e w'=>e = .returned (.int .i64 q)∧Below V.heap.size V w'):=by rw [← hq];exact qN6 c V (HLE.out.le k c hc) (HLE.out.rc k c hc).1 (HLE.out.rc k c hc).2 (hin.below BW)
     clear hq hc hat hin
     go_wp2_with fail
     rw [← hV]
     clear hV u0 u1 u2 u3 u4
     refine HQ.out.mono ?_
     rintro e w1 ⟨rfl,hb1⟩
     have B1:Below w.heap.size w w1:=BW.trans (hb1.mono BW.size)
     by_cases q0:q=0
     ·have qb:(q != 0)=false:=by simp [q0]
      rw [if_pos q0] at HN
      have hK:=KV.out.below hb1
      have hl1:=hK.lt
      obtain ⟨x0,x1,_⟩:=hK
      have hB1:=HAT0.out.below B1
      have hl0:=hB1.lt
      obtain ⟨y0,y1,_⟩:=hB1
      by_cases hf:c.f=c0.f
      ·have fb:(c.f != c0.f)=false:=by simp [hf]
       rw [if_pos hf] at HN
       clear q0 hf
       go_wp2
       go_quiet (fail)
       go_wp2
       exact ⟨⟨k+1,by omega,by go_num,HN.out,below_drewN B1 _⟩,by simp [intOf];omega⟩
      ·have fb:(c.f != c0.f)=true:=by simp [hf]
       rw [if_neg hf] at HN
       have HE:Hid (qE6 cs n=1):=qK6 cs (k+1) n 1 (by omega) HN.out (by omega)
       clear q0 hf
       go_wp2
       go_quiet (fail)
       go_wp2
       go_ret
       exact ⟨by rw [HE.out];rfl,below_drewN B1 _⟩
     ·have qb:(q != 0)=true:=by simp [q0]
      rw [if_neg q0] at HN
      have HE:Hid (qE6 cs n=q):=qK6 cs (k+1) n q q0 HN.out (by omega)
      clear q0
      go_wp2
      go_ret
      exact ⟨by rw [HE.out];rfl,B1⟩
    ·have hkn:k=n:=by omega
     have hlt':¬ ((k:Int) < (n:Int)):=by omega
     have HE:Hid (qE6 cs n=0):=by rw [← hkn];exact HK0.out
     clear hkn
     go_wp2
     go_ret
     exact ⟨by rw [HE.out];rfl,hnx⟩

def qG0 (cs:List qA3) (zs:List ShI):Int:=if qB5 cs=0 then qB9 (cs[0]?.getD default).f zs else qB5 cs
theorem qH5 {p:Prop} (h:p):Hid p:=h
theorem l12Asked_c (a:Option Addr) (n cap:Nat) (cs:List qA3) (b:Option Addr) (m cap':Nat) (zs:List ShI) (w:World) (hn:n≤1048576) (hle:qH4 1048576 cs) (h:qB1 w a n cs) (hm:m≤1048576) (hcap:m≤cap') (hcm:cap'≤maxLen) (h':qD9 w b m zs) :
  Calls Tryz.prog 25 #[.slice a n cap,.slice b m cap'] w fun e w'=>e = .returned (.int .i64 (qG0 cs zs))∧Below w.heap.size w w':=by
 obtain ⟨k,hk⟩:∃ k,qB5 cs=k:=⟨_,rfl⟩
 have HC:=QR0 a n cap cs w hn hle h
 rw [hk] at HC
 have HC:=qH5 HC
 obtain ⟨v,hv⟩:∃ v,qG0 cs zs=v:=⟨_,rfl⟩
 have HV:Hid (qG0 cs zs=v):=hv
 have HK:Hid (qB5 cs=k):=hk
 have H:Hid (qB1 w a n cs):=h
 have H':Hid (qD9 w b m zs):=h'
 rw [hv]
 clear h h' hv hk
 by_cases k0:k=0
 ·subst k0
  obtain ⟨h1,h2,h3⟩:=qW5 HK.out
  have hn0:0 < n:=by rw [← H.out.len];omega
  obtain ⟨b0,off0,c0,rfl,hc0,hat0,_⟩:=H.out.at hn0
  have HV2:Hid (v=qB9 c0.f zs):=by show v=_;rw [← HV.out];unfold qG0;rw [if_pos HK.out,hc0];rfl
  have HAT:Hid (qE2 w b0 off0 c0):=by have:=hat0;rw [Nat.zero_mul,Nat.add_zero] at this;exact this
  have hn0':(0:Int) < (n:Int):=by omega
  clear h1 h2 h3 hc0 hat0
  go_enter Tryz.func25,Tryz.ntmps25
  go_wp2_with fail
  refine HC.out.mono ?_
  rintro e w1 ⟨rfl,hb1⟩
  have HB1:Hid (Below w.heap.size w w1):=hb1
  obtain ⟨y0,y1,_⟩:=HAT.out.below hb1
  have hl0:=zL w1 _ y1
  have HF:=l9Fault_c b m cap' zs c0.f w1 hm hcap hcm (qD9.below H'.out hb1)
  rw [← HV2.out] at HF
  have HF:=qH5 HF
  clear hb1 y0
  go_wp2_with fail
  refine HF.out.mono ?_
  rintro e w2 ⟨rfl,hb2⟩
  go_wp2_with fail
  go_ret
  exact ⟨rfl,HB1.out.trans (hb2.mono HB1.out.size)⟩
 ·have kb:(k != 0)=true:=by simp [k0]
  have HV2:Hid (v=k):=by show v=k;rw [← HV.out,← HK.out];unfold qG0;rw [if_neg (by rw [HK.out];exact k0)]
  rw [HV2.out]
  go_enter Tryz.func25,Tryz.ntmps25
  go_wp2_with fail
  refine HC.out.mono ?_
  rintro e w1 ⟨rfl,hb1⟩
  go_wp2_with fail
  go_ret
  exact ⟨rfl,hb1⟩
structure qM2 (w:World) (Pb L:Nat) (l:List Nat) (g c:Nat):Prop where
 bx:w.heap[Pb]? = some (.cells #[.slice (some ⟨g,0,none⟩) l.length c] 130 (0,0))
 ow:w.ownsRow L 2 1 (.slice (some ⟨g,0,none⟩) l.length c) l.length (l.map (fun p:Nat=>Value.int .i64 (p:Int)))
theorem qM2.below {w w':World} {Pb L:Nat} {l:List Nat} {g c:Nat} (h:qM2 w Pb L l g c) (hb:Below w.heap.size w w'):qM2 w' Pb L l g c :=
 ⟨(hb.block Pb (Array.getElem?_eq_some_iff.1 h.bx).1).trans h.bx,World.ownsRow.kept (row:=none) h.ow ⟨hb.os,hb.tape,hb.output,hb.size,fun k hk _=>hb.block k hk⟩ (.inr (by simp [Value.ownBlock]))⟩
theorem QZ6 (Pb L g c:Nat) (l:List Nat) (w:World) (hl:0 < l.length) (hl2:l.length≤1000) (h:qM2 w Pb L l g c) :
  Calls Tryz.prog 110 #[.pointer (some ⟨Pb,0,none⟩)] w fun e w'=>e = .returned (.int .i64 (qP8 l:Int))∧Below w.heap.size w w':=by
 obtain ⟨n,hn⟩:∃ n,l.length=n+1:=⟨l.length - 1,by omega⟩
 have hx:l[n]? = some (qP8 l):=by
  unfold qP8
  rw [hn,show n+1 - 1=n by omega,List.getElem?_eq_getElem (by omega)]
  rfl
 have hc1:w.cell? ⟨g,n,none⟩=some (.int .i64 (qP8 l:Int)):=by
  rw [h.ow.cellAt n (by omega),List.getElem?_map,hx]
  rfl
 have hc0:w.cell? ⟨Pb,0,none⟩=some (.slice (some ⟨g,0,none⟩) (n+1) c):=by
  have:=h.bx
  rw [hn] at this
  unfold World.cell?
  simp only
  rw [this]
  simp
 have hgl:=zL w _ hc1
 have hpl:=zL w _ hc0
 obtain ⟨x,hxe⟩:∃ x:Int,(qP8 l:Int)=x:=⟨_,rfl⟩
 rw [hxe] at hc1 ⊢
 have hn':(n:Int)≤1000:=by omega
 have hn0:(0:Int)≤(n:Int):=by omega
 have hw1:IntKind.i64.wrap (n:Int)=(n:Int):=by rw [IntKind.wrap_i64];omega
 have hnt:((n:Int)).toNat=n:=Int.toNat_natCast n
 clear h hx hxe hn hl hl2
 go_enter Tryz.func110,Tryz.ntmps110
 go_wp2
 go_quiet (fail)
 go_wp2
 go_ret
 exact ⟨rfl,below_drewN (Below.refl _ _) _⟩
theorem QZ7 (w:World):Calls Tryz.prog 73 #[.int .i64 0] w fun e w'=>∃ g,e = .returned (.agg #[.slice (some ⟨g,0,none⟩) 1 1])∧w'.ownsRow (w.heap.size+1) 2 1 (.slice (some ⟨g,0,none⟩) 1 1) 1 [.int .i64 0]∧Below w.heap.size w w':=by
 obtain ⟨V,hV⟩:∃ V,V=w.alloc (.cells #[.slice none 0 0] 130):=⟨_,rfl⟩
 have b0:Below w.heap.size w V:=by rw [hV];exact zN
 have hs:V.heap.size=w.heap.size+1:=by rw [hV];simp
 have r0:V.cell? ⟨w.heap.size,0,none⟩=some (.slice none 0 0):=by rw [hV];simp
 have f0:V.frozen? ⟨w.heap.size,0,none⟩=false:=by rw [hV];simp
 have O0:Hid ((V.alloc (.cells #[.int .i64 0] 2)).ownsRow (w.heap.size+1) 2 1 (.slice (some ⟨V.heap.size,0,none⟩) 1 1) 1 [.int .i64 0]):=World.ownsRow_lit (base:=w.heap.size+1) (e:=2) (size:=1) V #[.int .i64 0] 1 (by omega) (by unfold maxLen;omega) rfl
 have HB:Hid (Below w.heap.size w V):=b0
 have hl:w.heap.size < V.heap.size:=by omega
 have HS:Hid (V.heap.size=w.heap.size+1):=hs
 clear b0 hs
 go_enter Tryz.func73,Tryz.ntmps73
 go_upto_region 1 with fail
 rw [← hV]
 clear hV
 go_wp2_with fail
 refine bodyPost_ret (v:=.agg #[.slice (some ⟨V.heap.size,0,none⟩) 1 1]) (by simp [results,Tryz.results73,go_sem,r0,hl]) rfl ?_
 have hO:=World.ownsRow_lit (base:=w.heap.size+1) (e:=2) (size:=1) (V.setCell ⟨w.heap.size,0,none⟩ (.slice (some ⟨V.heap.size,0,none⟩) 1 1)) #[.int .i64 0] 1 (by have:=HS.out;simp;omega) (by unfold maxLen;omega) rfl
 have hBl:Below w.heap.size w (V.setCell ⟨w.heap.size,0,none⟩ (.slice (some ⟨V.heap.size,0,none⟩) 1 1)):=HB.out.setCell (Nat.le_refl _) _
 exact ⟨V.heap.size,rfl,by simpa using hO,hBl.alloc hBl.size _⟩
/- QL3 is not written yet. -/

def nfC (cs:List qA3) (e n:Int):Int:=if n < 0∨(cs.length:Int)≤n then 3 else if (cs[n.toNat]?.getD default).e≠e+1 then 10 else 0
theorem QQ7 (a:Option Addr) (m cap:Nat) (cs:List qA3) (e n:Int) (w:World) (hm:m≤1048576) (he:0≤e∧e≤100) (hc:qB1 w a m cs) :
  Calls Tryz.prog 112 #[.slice a m cap,.int .i64 e,.int .i64 n] w fun d w'=>d = .returned (.int .i64 (nfC cs e n))∧Below w.heap.size w w':=by
 have HC:Hid (qB1 w a m cs):=hc
 have HL:Hid (cs.length=m):=hc.len
 have hm':(m:Int)≤1048576:=by omega
 obtain ⟨he0,he1⟩:=he
 clear hc
 by_cases h0:n < 0
 ·have HV:Hid (nfC cs e n=3):=by show nfC cs e n=3;unfold nfC;rw [if_pos (.inl h0)]
  rw [HV.out]
  have hb:decide (n < 0)=true:=by simp [h0]
  go_enter Tryz.func112,Tryz.ntmps112
  go_wp2
  go_ret
  exact ⟨rfl,Below.refl _ _⟩
 ·have hb:decide (n < 0)=false:=by simp;omega
  by_cases h1:(m:Int)≤n
  ·have HV:Hid (nfC cs e n=3):=by show nfC cs e n=3;unfold nfC;rw [if_pos (.inr (by rw [HL.out];exact h1))]
   rw [HV.out]
   have hb1:decide ((m:Int)≤n)=true:=by simp [h1]
   go_enter Tryz.func112,Tryz.ntmps112
   go_wp2
   go_ret
   exact ⟨rfl,Below.refl _ _⟩
  ·obtain ⟨k,rfl⟩:∃ k:Nat,n=(k:Int):=Int.eq_ofNat_of_zero_le (by omega)
   have hkm:k < m:=by omega
   have hb1:decide ((m:Int)≤(k:Int))=false:=by simp;omega
   obtain ⟨g,off,c,rfl,hck,hat,_⟩:=HC.out.at hkm
   have HV:Hid (nfC cs e (k:Int)=if c.e≠e+1 then 10 else 0):=by show nfC _ _ _=_;unfold nfC;rw [if_neg (by rw [HL.out];omega),Int.toNat_natCast,hck];rfl
   have hgl:=hat.lt
   obtain ⟨y0,_⟩:=hat
   have hlt':(k:Int) < (m:Int):=by omega
   by_cases hce:c.e=e+1
   ·have hceb:(c.e != e+1)=false:=by simp [hce]
    rw [HV.out,if_neg (by simp [hce])]
    clear hce hck h0 h1
    go_enter Tryz.func112,Tryz.ntmps112
    go_wp2
    go_ret
    exact ⟨rfl,Below.refl _ _⟩
   ·have hceb:(c.e != e+1)=true:=by simp [hce]
    rw [HV.out,if_pos hce]
    clear hce hck h0 h1
    go_enter Tryz.func112,Tryz.ntmps112
    go_wp2
    go_ret
    exact ⟨rfl,Below.refl _ _⟩

end Go.Proofs.YthogdfnaojijhaaGreat
