/- Contracts. -/
import Derived.Test.YtdppdbihhlipeaaGreatDoorPr08
import Derived.Test.YtdppdbihhlipeaaGreatDoorPr28
import Derived.Test.YtdppdbihhlipeaaGreatDoorPr24
import Derived.Test.YtdppdbihhlipeaaGreatDoorPr23
import Derived.Lib.BitFns
namespace Go.Proofs.YtdppdbihhlipeaaGreatDoor
set_option maxRecDepth 100000
set_option maxHeartbeats 8000000
open Go.RowKit
set_option linter.unusedVariables false
set_option linter.unusedSimpArgs false

theorem qDr (v:Int) (w:World):Calls Tryz.prog 162 #[.int .i64 v] w fun e w'=>e = .returned (.bool (inR v 1 2))/\w=w':=by
 unfold inR;cases h0:decide (1<=v)
 ·go_enter Tryz.func162,Tryz.ntmps162;go_wp2;go_ret;exact ⟨by simp,rfl⟩
 ·cases h1:decide (v<=2)
  all_goals
   go_enter Tryz.func162,Tryz.ntmps162;go_wp2;go_ret;exact ⟨by simp,rfl⟩
theorem qLs (v:Int) (w:World):Calls Tryz.prog 114 #[.int .i64 v] w fun e w'=>e = .returned (.bool (inR v 1 2))/\w=w':=by
 go_enter Tryz.func114,Tryz.ntmps114;go_wp2_with (go_at_call 57;refine (qX7 _ _ _ _).mono ?_;rintro e w' ⟨rfl,rfl⟩)
 go_ret;exact ⟨rfl,rfl⟩
def qDB (fn:Nat) (f c v:Int) (w:World):Prop:=Calls Tryz.prog fn #[.int .i64 f] w fun e w'=>e = .returned (.agg #[.int .i64 c,.int .i64 v])/\Below w.heap.size w w'
def qGb (f:Int):Int:=if inR f 1 2=true then 0 else 3
def qKf (k f:Int):Int:=if inR f 1 2=true then k * f+1 else 0
theorem QI0 (f:Int) (w:World):qDB 107 f (qGb f) (qKf 3 f) w:=by
 unfold qDB qGb qKf;cases h:inR f 1 2
 ·have H:Hid (inR f 1 2=false):=h;clear h;simp only [Bool.false_eq_true,if_false];go_enter Tryz.func107,Tryz.ntmps107;go_wp2_with (first | (go_at_call 162;refine (qDr _ _).mono ?_;rintro e w' ⟨rfl,rfl⟩;rw [H.out]) | go_in)
  go_returns
  exact ⟨rfl,by go_grown⟩
 ·have H:Hid (inR f 1 2=true):=h;obtain ⟨h1,h2⟩:=(qE7 f 1 2).1 h;clear h;simp only [if_true];go_enter Tryz.func107,Tryz.ntmps107;go_wp2_with (first | (go_at_call 162;refine (qDr _ _).mono ?_;rintro e w' ⟨rfl,rfl⟩;rw [H.out]) | go_in)
  go_returns
  exact ⟨rfl,by go_grown⟩

section
attribute [local go_sem ↓] qDN
theorem qJe (p q:RoI) (w:World):(binOp .neq 123 (.agg #[.int .i64 p.1,.int .i64 p.2]) (.agg #[.int .i64 q.1,.int .i64 q.2])).run Tryz.prog w = .ok (.bool (!qFa p q)) w:=by
 obtain ⟨a0,a1⟩:=p;obtain ⟨b0,b1⟩:=q;simp only [qFa];cases e0:(a0==b0)
 ·simp [go_sem,e0]
 cases e1:(a1==b1)
 ·simp [go_sem,e0,e1]
 ·simp [go_sem,e0,e1]
theorem qN4 (v lo hi:Int) (w:World):Calls Tryz.prog 57 #[.int .i64 v,.int .i64 lo,.int .i64 hi] w fun e w'=>e = .returned (.bool (decide (lo<=v)&&decide (v<=hi)))/\w=w':=by
 cases h0:decide (lo<=v)
 ·go_enter Tryz.func57,Tryz.ntmps57;go_wp2;go_ret;exact ⟨by simp,rfl⟩
 ·cases h1:decide (v<=hi)
  all_goals
   go_enter Tryz.func57,Tryz.ntmps57;go_wp2;go_ret;exact ⟨by simp,rfl⟩
theorem qAd (v:Int) (k:Nat) (hk:k<=1000) (w:World):Calls Tryz.prog 219 #[.int .i64 v,.int .i64 (k:Int)] w fun e w'=>e = .returned (.bool (decide (0<=v)&&decide (v < (k:Int))))/\w=w':=by
 have hk':(k:Int)<=1000:=by omega
 cases h0:decide (0<=v)
 ·go_enter Tryz.func219,Tryz.ntmps219;go_wp2;go_ret;exact ⟨by simp,rfl⟩
 ·cases h1:decide (v < (k:Int))
  all_goals
   go_enter Tryz.func219,Tryz.ntmps219;go_wp2;go_ret;exact ⟨by simp,rfl⟩
theorem qBt (x:qD4) (k:Nat) (w:World) (hk:k<=1000) (e1:x.k=1) :
  Calls Tryz.prog 201 #[.agg #[.int .i64 x.k,.int .i64 x.ro,.int .i64 x.rn,.int .i64 x.l,.int .i64 x.r],.int .i64 (k:Int)] w fun e w'=>e = .returned (.int .i64 (qJ1 k x))/\Below w.heap.size w w':=by
 have hk':(k:Int)<=1000:=by omega
 have b1:(x.k==1)=true:=by simp [e1]
 obtain ⟨t,ht⟩:∃ t,qD6 x.ro x.rn=t:=⟨_,rfl⟩;cases t
 ·have hp:qJ1 k x=3:=by simp [qJ1,e1,ht]
  have hc:qF1 x.ro x.rn=3:=by simp [qF1,ht]
  rw [hp];clear e1 ht hp;go_enter Tryz.func201,Tryz.ntmps201;go_wp2_with (first | (go_at_call 197;refine (qD3 _ _ _).mono ?_;rintro e w1 ⟨rfl,hb1⟩;rw [hc]) | fail)
  go_ret;exact ⟨rfl,qC8 hb1⟩
 ·have hc:qF1 x.ro x.rn=0:=by simp [qF1,ht]
  obtain ⟨u,hu⟩:∃ u,(x.l != 0)=u:=⟨_,rfl⟩;obtain ⟨v,hv⟩:∃ v,(x.r != 0)=v:=⟨_,rfl⟩
  have hp:qJ1 k x=if (u || v)=true then 1 else 0:=by
   rw [<- hu,<- hv];simp only [qJ1,e1,ht];by_cases q1:x.l=0 <;> by_cases q2:x.r=0 <;> simp [q1,q2]
  rw [hp];clear e1 ht hp;cases u <;> cases v
  all_goals
   go_enter Tryz.func201,Tryz.ntmps201;go_wp2_with (first | (go_at_call 197;refine (qD3 _ _ _).mono ?_;rintro e w1 ⟨rfl,hb1⟩;rw [hc];have q3:w1.cell? ⟨w.heap.size,3,none⟩=some (.int .i64 x.l):=(hb1.cell (p:=⟨w.heap.size,3,none⟩) (by simp)).trans (by simp);have q4:w1.cell? ⟨w.heap.size,4,none⟩=some (.int .i64 x.r):=(hb1.cell (p:=⟨w.heap.size,4,none⟩) (by simp)).trans (by simp)) | fail)
   go_ret;exact ⟨rfl,qC8 hb1⟩
theorem QW2 (x:qD4) (k:Nat) (w:World) (e1:¬ (1<=x.k/\x.k<=3)) :
  Calls Tryz.prog 201 #[.agg #[.int .i64 x.k,.int .i64 x.ro,.int .i64 x.rn,.int .i64 x.l,.int .i64 x.r],.int .i64 (k:Int)] w fun e w'=>e = .returned (.int .i64 (qJ1 k x))/\Below w.heap.size w w':=by
 have b1:(x.k==1)=false:=by simp;omega
 have b2:(x.k==2)=false:=by simp;omega
 have b3:(x.k==3)=false:=by simp;omega
 have hp:qJ1 k x=1:=by simp only [qJ1,if_pos e1]
 rw [hp];clear e1 hp;go_enter Tryz.func201,Tryz.ntmps201;go_wp2_with fail
 go_ret;exact ⟨rfl,by go_grown⟩
theorem qBs (x:qD4) (k:Nat) (w:World) (hk:k<=1000) (e1:x.k=2\/x.k=3) :
  Calls Tryz.prog 201 #[.agg #[.int .i64 x.k,.int .i64 x.ro,.int .i64 x.rn,.int .i64 x.l,.int .i64 x.r],.int .i64 (k:Int)] w fun e w'=>e = .returned (.int .i64 (qJ1 k x))/\Below w.heap.size w w':=by
 have hk':(k:Int)<=1000:=by omega
 have b1:(x.k==1)=false:=by simp;omega
 obtain ⟨u,hu⟩:∃ u,(decide (0<=x.l)&&decide (x.l < (k:Int)))=u:=⟨_,rfl⟩;obtain ⟨v,hv⟩:∃ v,(decide (0<=x.r)&&decide (x.r < (k:Int)))=v:=⟨_,rfl⟩;obtain ⟨t,ht⟩:∃ t,qFa (x.ro,x.rn) (0,0)=t:=⟨_,rfl⟩
 have hp:qJ1 k x=if t=false then 1 else if u=false then 3 else if v=false then 3 else 0:=by
  have ek:¬ x.k=1:=by omega
  unfold qJ1;rw [if_neg (by omega),if_neg ek];have h1:t=true↔(x.ro=0/\x.rn=0):=by rw [<- ht,qT3];simp
  have h2:u=true↔(0<=x.l/\x.l < (k:Int)):=by rw [<- hu];simp
  have h3:v=true↔(0<=x.r/\x.r < (k:Int)):=by rw [<- hv];simp
  simp only [<- h1,<- h2,<- h3];cases t <;> cases u <;> cases v <;> simp
 rw [hp];have hn:∀ w,(binOp .neq 123 (.agg #[.int .i64 x.ro,.int .i64 x.rn]) (.agg #[.int .i64 0,.int .i64 0])).run Tryz.prog w = .ok (.bool (!t)) w:=fun w=>by rw [<- ht];exact qJe (x.ro,x.rn) (0,0) w
 have HU:Hid ((decide (0<=x.l)&&decide (x.l < (k:Int)))=u):=hu;have HV:Hid ((decide (0<=x.r)&&decide (x.r < (k:Int)))=v):=hv;clear hp ht hu hv;rcases e1 with e1 | e1
 ·have b2:(x.k==2)=true:=by simp;omega
  clear e1;cases t
  ·go_enter Tryz.func201,Tryz.ntmps201;go_wp2_with fail
   go_ret;exact ⟨rfl,by go_grown⟩
  ·cases u <;> cases v
   all_goals
    go_enter Tryz.func201,Tryz.ntmps201;go_wp2_with (first | (go_at_call 219;refine (qAd _ _ hk _).mono ?_;rintro e w1 ⟨rfl,rfl⟩;first | rw [HU.out] | rw [HV.out]) | fail)
    go_ret;exact ⟨rfl,by go_grown⟩
 ·have b2:(x.k==2)=false:=by simp;omega
  have b3:(x.k==3)=true:=by simp;omega
  clear e1;cases t
  ·go_enter Tryz.func201,Tryz.ntmps201;go_wp2_with fail
   go_ret;exact ⟨rfl,by go_grown⟩
  ·cases u <;> cases v
   all_goals
    go_enter Tryz.func201,Tryz.ntmps201;go_wp2_with (first | (go_at_call 219;refine (qAd _ _ hk _).mono ?_;rintro e w1 ⟨rfl,rfl⟩;first | rw [HU.out] | rw [HV.out]) | fail)
    go_ret;exact ⟨rfl,by go_grown⟩
theorem qBr (x:qD4) (k:Nat) (w:World) (hk:k<=1000) :
  Calls Tryz.prog 201 #[.agg #[.int .i64 x.k,.int .i64 x.ro,.int .i64 x.rn,.int .i64 x.l,.int .i64 x.r],.int .i64 (k:Int)] w fun e w'=>e = .returned (.int .i64 (qJ1 k x))/\Below w.heap.size w w':=by
 by_cases h:1<=x.k/\x.k<=3
 ·by_cases h1:x.k=1
  ·exact qBt x k w hk h1
  ·exact qBs x k w hk (by omega)
 ·exact QW2 x k w h
theorem QX3 (a:Option Addr) (n cap:Nat) (zs:List qD4) (c:Int) (w:World) (h1:1<=n) (h8:n<=8) (h:qC7 w a n zs) (hc:QH8 zs n=c) :
  Calls Tryz.prog 182 #[.slice a n cap] w fun e w'=>e = .returned (.int .i64 c)/\Below w.heap.size w w':=by
 have H:Hid (qC7 w a n zs):=h;have HC:Hid (QH8 zs n=c):=hc;clear h hc;have hn1:¬ ((n:Int) < 1):=by omega
 have hn8:¬ ((8:Int) < (n:Int)):=by omega
 have hn':(n:Int)<=8:=by omega
 go_enter Tryz.func182,Tryz.ntmps182;go_wp2;go_loopw [16] (fun i wr=>∃ k:Nat,k<=n/\i = .int .i64 (k:Int)/\QH8 zs k=0/\Below w.heap.size w wr) (fun i _=>n - (intOf i).toNat)
 case atStart=>exact ⟨0,Nat.zero_le _,rfl,rfl,Below.refl _ _⟩
 case round =>
  obtain ⟨k,hk,rfl,hp,hnx⟩:=hrel;have HP:Hid (QH8 zs k=0):=hp;clear hp;by_cases hlt:k < n
  ·obtain ⟨b,off,x,rfl,hs,hx⟩:=H.out.at hlt
   have HN:Hid (QH8 zs (k+1)=qJ1 k x):=QL3 hs HP.out;clear hs;obtain ⟨g0,g1,g2,g3,g4⟩:=hx.below hnx;clear hx;have hlt':(k:Int) < (n:Int):=by omega
   go_wp2_with fail
   refine (qBr x k _ (by omega)).mono ?_;rintro e w1 ⟨rfl,hb1⟩;have hnx1:Below w.heap.size w w1:=hnx.trans ((qC8 hb1).mono hnx.size);clear hb1 g0 g1 g2 g3 g4;by_cases hz:qJ1 k x=0
   ·have HE:Hid (QH8 zs (k+1)=0):=HN.out.trans hz;rw [hz];clear hz;go_wp2;exact ⟨⟨k+1,by omega,by go_num,HE.out,hnx1⟩,by simp [intOf];omega⟩
   ·have E:Hid (c=qJ1 k x):=HC.out.symm.trans (QL2 zs (k+1) n _ hz HN.out (by omega));have hzb:(qJ1 k x != 0)=true:=by simpa using hz
    clear hz;go_wp2;go_ret;exact ⟨by rw [E.out];rfl,hnx1⟩
  ·have hkn:k=n:=by omega
   subst hkn;go_wp2;go_ret;exact ⟨by rw [<- HC.out,HP.out];rfl,hnx⟩
theorem qX1 (a:Option Addr) (n cap:Nat) (zs:List qD4) (w:World) (hm:n<=maxLen) (h:qC7 w a n zs) :
  Calls Tryz.prog 182 #[.slice a n cap] w fun e w'=>e = .returned (.int .i64 (qN2 zs))/\Below w.heap.size w w':=by
 have hl:=h.1;unfold maxLen at hm;have hm':(n:Int)<=9223372036854775807:=by omega
 unfold qN2;rw [hl];by_cases h1:n < 1
 ·have h1':(n:Int) < 1:=by omega
  rw [if_pos h1];clear h hl h1;go_enter Tryz.func182,Tryz.ntmps182;go_wp2;go_ret;exact ⟨rfl,Below.refl _ _⟩
 ·rw [if_neg h1];by_cases h8:8 < n
  ·have h1':¬ ((n:Int) < 1):=by omega
   have h8':(8:Int) < (n:Int):=by omega
   rw [if_pos h8];clear h hl h1 h8;go_enter Tryz.func182,Tryz.ntmps182;go_wp2;go_ret;exact ⟨rfl,Below.refl _ _⟩
  ·rw [if_neg h8];exact QX3 a n cap zs _ w (by omega) (by omega) h rfl
end

theorem qCK (a:Option Addr) (n cap:Nat) (zs:List qD4) (c:Int) (w:World) (h1:1<=n) (h8:n<=8) (h:qC7 w a n zs) (hc:QH8 zs n=c) :
  Calls Tryz.prog 116 #[.slice a n cap] w fun e w'=>e = .returned (.int .i64 c)/\Below w.heap.size w w':=by
 have H:Hid (qC7 w a n zs):=h;have HC:Hid (QH8 zs n=c):=hc;clear h hc;have hn1:¬ ((n:Int) < 1):=by omega
 have hn8:¬ ((8:Int) < (n:Int)):=by omega
 have hn':(n:Int)<=8:=by omega
 go_enter Tryz.func116,Tryz.ntmps116;go_wp2;go_loopw [3] (fun i wr=>∃ k:Nat,k<=n/\i = .int .i64 (k:Int)/\QH8 zs k=0/\Below w.heap.size w wr) (fun i _=>n - (intOf i).toNat)
 case atStart=>exact ⟨0,Nat.zero_le _,rfl,rfl,Below.refl _ _⟩
 case round =>
  obtain ⟨k,hk,rfl,hp,hnx⟩:=hrel;have HP:Hid (QH8 zs k=0):=hp;clear hp;by_cases hlt:k < n
  ·obtain ⟨b,off,x,rfl,hs,hx⟩:=H.out.at hlt
   have HN:Hid (QH8 zs (k+1)=qJ1 k x):=QL3 hs HP.out;have HST:Hid (∀ d:Int,qJ1 k x=d->d≠0->c=d):=fun d e q=>HC.out.symm.trans (QL2 zs (k+1) n d q (HN.out.trans e) (by omega))
   clear hs;obtain ⟨g0,g1,g2,g3,g4⟩:=hx.below hnx;clear hx;have hlt':(k:Int) < (n:Int):=by omega
   have hk8:(k:Int)<=8:=by omega
   have A5:Below w.heap.size w (wr.alloc (.cells #[.int .i64 x.k,.int .i64 x.ro,.int .i64 x.rn,.int .i64 x.l,.int .i64 x.r] 162)):=hnx.alloc hnx.size _;obtain ⟨t0,ht0⟩:∃ t0,(decide (1<=x.k)&&decide (x.k<=3))=t0:=⟨_,rfl⟩;have HK:Hid ((decide (1<=x.k)&&decide (x.k<=3))=t0):=ht0;cases t0
   ·have E:Hid (c=1):=HST.out 1 (by unfold qJ1;rw [if_pos (by simp at ht0;omega)]) (by decide);clear ht0;go_wp2_with (first | (go_at_call 57;refine (qN4 _ _ _ _).mono ?_;rintro e w1 ⟨rfl,rfl⟩;rw [HK.out]) | fail)
    go_ret;exact ⟨by rw [E.out];rfl,A5⟩
   ·simp at ht0;by_cases ek:x.k=1
    ·have b1:(x.k==1)=true:=by simp [ek]
     obtain ⟨t,ht⟩:∃ t,qD6 x.ro x.rn=t:=⟨_,rfl⟩;have HT:Hid (qD6 x.ro x.rn=t):=ht;cases t
     ·have E:Hid (c=3):=HST.out 3 (by simp [qJ1,ek,ht]) (by decide);clear ht0 ek ht;go_wp2_with (first | (go_at_call 57;refine (qN4 _ _ _ _).mono ?_;rintro e w1 ⟨rfl,rfl⟩;rw [HK.out]) | (go_at_call 146;refine (qQ3 _ _ _).mono ?_;rintro e w2 ⟨rfl,hb2⟩;rw [HT.out]) | fail)
      go_ret;exact ⟨by rw [E.out];rfl,hnx.trans ((qC8 hb2).mono hnx.size)⟩
     ·obtain ⟨u,hu⟩:∃ u,(x.l != 0)=u:=⟨_,rfl⟩;obtain ⟨v,hv⟩:∃ v,(x.r != 0)=v:=⟨_,rfl⟩
      have hp:qJ1 k x=if (u || v)=true then 1 else 0:=by
       rw [<- hu,<- hv];simp only [qJ1,ek,ht];by_cases q1:x.l=0 <;> by_cases q2:x.r=0 <;> simp [q1,q2]
      have HPP:Hid (qJ1 k x=if (u || v)=true then 1 else 0):=hp;clear ht0 ek ht hp;cases u <;> cases v
      ·have HE:Hid (QH8 zs (k+1)=0):=HN.out.trans HPP.out;go_wp2_with (first | (go_at_call 57;refine (qN4 _ _ _ _).mono ?_;rintro e w1 ⟨rfl,rfl⟩;rw [HK.out]) | (go_at_call 146;refine (qQ3 _ _ _).mono ?_;rintro e w2 ⟨rfl,hb2⟩;rw [HT.out];have q3:w2.cell? ⟨wr.heap.size,3,none⟩=some (.int .i64 x.l):=(hb2.cell (p:=⟨wr.heap.size,3,none⟩) (by simp)).trans (by simp);have q4:w2.cell? ⟨wr.heap.size,4,none⟩=some (.int .i64 x.r):=(hb2.cell (p:=⟨wr.heap.size,4,none⟩) (by simp)).trans (by simp)) | fail)
       exact ⟨⟨k+1,by omega,by go_num,HE.out,hnx.trans ((qC8 hb2).mono hnx.size)⟩,by simp [intOf];omega⟩
      all_goals
       have E:Hid (c=1):=HST.out 1 HPP.out (by decide);go_wp2_with (first | (go_at_call 57;refine (qN4 _ _ _ _).mono ?_;rintro e w1 ⟨rfl,rfl⟩;rw [HK.out]) | (go_at_call 146;refine (qQ3 _ _ _).mono ?_;rintro e w2 ⟨rfl,hb2⟩;rw [HT.out];have q3:w2.cell? ⟨wr.heap.size,3,none⟩=some (.int .i64 x.l):=(hb2.cell (p:=⟨wr.heap.size,3,none⟩) (by simp)).trans (by simp);have q4:w2.cell? ⟨wr.heap.size,4,none⟩=some (.int .i64 x.r):=(hb2.cell (p:=⟨wr.heap.size,4,none⟩) (by simp)).trans (by simp)) | fail)
       go_ret;exact ⟨by rw [E.out];rfl,hnx.trans ((qC8 hb2).mono hnx.size)⟩
    ·have b1:(x.k==1)=false:=by simp [ek]
     obtain ⟨u,hu⟩:∃ u,(decide (0<=x.l)&&decide (x.l<=(k:Int) - 1))=u:=⟨_,rfl⟩;obtain ⟨v,hv⟩:∃ v,(decide (0<=x.r)&&decide (x.r<=(k:Int) - 1))=v:=⟨_,rfl⟩;obtain ⟨t,ht⟩:∃ t,qFa (x.ro,x.rn) (0,0)=t:=⟨_,rfl⟩
     have hp:qJ1 k x=if t=false then 1 else if u=false then 3 else if v=false then 3 else 0:=by
      unfold qJ1;rw [if_neg (by omega),if_neg ek];have h1:t=true↔(x.ro=0/\x.rn=0):=by rw [<- ht,qT3];simp
      have h2:u=true↔(0<=x.l/\x.l < (k:Int)):=by rw [<- hu];simp;omega
      have h3:v=true↔(0<=x.r/\x.r < (k:Int)):=by rw [<- hv];simp;omega
      simp only [<- h1,<- h2,<- h3];cases t <;> cases u <;> cases v <;> simp
     have hn:∀ w,(binOp .neq 123 (.agg #[.int .i64 x.ro,.int .i64 x.rn]) (.agg #[.int .i64 0,.int .i64 0])).run Tryz.prog w = .ok (.bool (!t)) w:=fun w=>by rw [<- ht];exact qJe (x.ro,x.rn) (0,0) w
     have HPP:Hid (qJ1 k x=if t=false then 1 else if u=false then 3 else if v=false then 3 else 0):=hp;have HU:Hid ((decide (0<=x.l)&&decide (x.l<=(k:Int) - 1))=u):=hu;have HV:Hid ((decide (0<=x.r)&&decide (x.r<=(k:Int) - 1))=v):=hv;have A7:Below w.heap.size w ((wr.alloc (.cells #[.int .i64 x.k,.int .i64 x.ro,.int .i64 x.rn,.int .i64 x.l,.int .i64 x.r] 162)).alloc (.cells #[.int .i64 0,.int .i64 0] 123)):=A5.alloc A5.size _;clear ht0 ek ht hu hv hp;cases t
     ·have E:Hid (c=1):=HST.out 1 HPP.out (by decide);go_wp2_with (first | (go_at_call 57;refine (qN4 _ _ _ _).mono ?_;rintro e w1 ⟨rfl,rfl⟩;rw [HK.out]) | fail)
      go_ret;exact ⟨by rw [E.out];rfl,A7⟩
     ·cases u
      ·have E:Hid (c=3):=HST.out 3 HPP.out (by decide);go_wp2_with (first | (go_at_call 57;refine (qN4 _ _ _ _).mono ?_;rintro e w1 ⟨rfl,rfl⟩;first | rw [HK.out] | rw [HU.out] | rw [HV.out]) | fail)
       go_ret;exact ⟨by rw [E.out];rfl,A7⟩
      ·cases v
       ·have E:Hid (c=3):=HST.out 3 HPP.out (by decide);go_wp2_with (first | (go_at_call 57;refine (qN4 _ _ _ _).mono ?_;rintro e w1 ⟨rfl,rfl⟩;first | rw [HK.out] | rw [HU.out] | rw [HV.out]) | fail)
        go_ret;exact ⟨by rw [E.out];rfl,A7⟩
       ·have HE:Hid (QH8 zs (k+1)=0):=HN.out.trans HPP.out;go_wp2_with (first | (go_at_call 57;refine (qN4 _ _ _ _).mono ?_;rintro e w1 ⟨rfl,rfl⟩;first | rw [HK.out] | rw [HU.out] | rw [HV.out]) | fail)
        exact ⟨⟨k+1,by omega,by go_num,HE.out,A7⟩,by simp [intOf];omega⟩
  ·have hkn:k=n:=by omega
   subst hkn;go_wp2;go_ret;exact ⟨by rw [<- HC.out,HP.out];rfl,hnx⟩
theorem qGx (a:Option Addr) (n cap:Nat) (zs:List qD4) (w:World) (hm:n<=maxLen) (h:qC7 w a n zs) :
  Calls Tryz.prog 116 #[.slice a n cap] w fun e w'=>e = .returned (.int .i64 (qN2 zs))/\Below w.heap.size w w':=by
 have hl:=h.1;unfold maxLen at hm;have hm':(n:Int)<=9223372036854775807:=by omega
 unfold qN2;rw [hl];by_cases h1:n < 1
 ·have h1':(n:Int) < 1:=by omega
  rw [if_pos h1];clear h hl h1;go_enter Tryz.func116,Tryz.ntmps116;go_wp2;go_ret;exact ⟨rfl,Below.refl _ _⟩
 ·rw [if_neg h1];by_cases h8:8 < n
  ·have h1':¬ ((n:Int) < 1):=by omega
   have h8':(8:Int) < (n:Int):=by omega
   rw [if_pos h8];clear h hl h1 h8;go_enter Tryz.func116,Tryz.ntmps116;go_wp2;go_ret;exact ⟨rfl,Below.refl _ _⟩
  ·rw [if_neg h8];exact qCK a n cap zs _ w (by omega) (by omega) h rfl

def QJ5 (pss:List (List qD4)):Nat->Int
 | 0=>0
 | k+1=>if QJ5 pss k≠0 then QJ5 pss k else match pss[k]? with
  | none=>0
  | some x=>qN2 x
def qJ5 (pss:List (List qD4)):Int:=if 4 < pss.length then 2 else QJ5 pss pss.length
theorem QO6 (zs:List (List qD4)) (k m:Nat) (c:Int) (hc:c≠0) (h:QJ5 zs k=c) (hm:k<=m):QJ5 zs m=c:=by
  induction m with
  | zero => obtain rfl:k=0:=by omega
            exact h
  | succ m ih =>
    by_cases e:k=m+1
    · subst e;exact h
    · have:=ih (by omega);simp only [QJ5,this];rw [if_pos hc]
theorem QO7 {zs:List (List qD4)} {k:Nat} {x:List qD4} (hk:zs[k]? = some x) (h0:QJ5 zs k=0):QJ5 zs (k+1)=qN2 x:=by
 simp [QJ5,h0,hk]
theorem qU8 {fs:List qF2} {k:Nat} {x:qF2} (h:fs[k]? = some x):(qA5 fs)[k]? = some x.ps:=by
 unfold qA5;rw [List.getElem?_map,h];rfl
theorem qZ5 (fs:List qF2):(qA5 fs).length=fs.length:=by unfold qA5;simp
def qH5 (e f:Int) (zs:List qA2) (pss:List (List qD4)) (cs:List Int):Int:=if inR e 1 9=false then 3 else if inR f 1 2=false then 3 else orJ (qD1 zs) (orJ (qJ5 pss) (qG6 cs))
theorem QG1 {e f:Int} {zs:List qA2} {pss:List (List qD4)} {cs:List Int} (h:qH5 e f zs pss cs=0):inR e 1 9=true/\inR f 1 2=true/\qD1 zs=0/\qJ5 pss=0/\qG6 cs=0:=by
 unfold qH5 at h;split at h
 ·cases h
 ·split at h
  ·cases h
  ·rename_i q1 q2;unfold orJ at h;split at h
   ·split at h
    ·exact ⟨by simpa using q1,by simpa using q2,by assumption,by assumption,h⟩
    ·exact absurd h (by assumption)
   ·exact absurd h (by assumption)
theorem qCZ {pss:List (List qD4)} (h:qJ5 pss=0):pss.length<=4/\∀ (k:Nat) (x:List qD4),pss[k]? = some x->qN2 x=0:=by
 unfold qJ5 at h;split at h
 ·cases h
 ·refine ⟨by omega,fun k x e=>?_⟩
  have hk:k < pss.length:=by
   by_cases q:k < pss.length
   ·exact q
   ·rw [List.getElem?_eq_none (by omega)] at e;cases e
  have key:∀ j,j<=pss.length->QJ5 pss j=0:=fun j hj=>by
   by_cases q:QJ5 pss j=0
   ·exact q
   ·have:=QO6 pss j pss.length _ q rfl hj;rw [this] at h;exact absurd h q
  have h1:=key (k+1) (by omega);rw [QO7 e (key k (by omega))] at h1;exact h1
theorem qKc (g:Nat) (c d f:Int) (w:World) (h0:w.cell? ⟨g,0,none⟩=some (.int .i64 c)) (h1:w.cell? ⟨g,1,none⟩=some (.int .i64 d)) (h2:w.cell? ⟨g,2,none⟩=some (.int .i64 f)) :
  Calls Tryz.prog 163 #[.slice (some ⟨g,0,none⟩) 3 3] w fun e w'=>e = .returned (.int .i64 (orJ c (orJ d f)))/\w=w':=by
 go_enter Tryz.func163,Tryz.ntmps163;go_wp2;go_loop [8] (fun i=>∃ k:Nat,k<=3/\i = .int .i64 (k:Int)/\(1<=k->c=0)/\(2<=k->d=0)/\(3<=k->f=0)) (fun i=>3 - (intOf i).toNat)
 case atStart=>exact ⟨0,by omega,rfl,fun h=>by omega,fun h=>by omega,fun h=>by omega⟩
 case round =>
  obtain ⟨k,hk,rfl,hc,hd,hf⟩:=hrel;have hk':k=0\/k=1\/k=2\/k=3:=by omega
  rcases hk' with rfl | rfl | rfl | rfl
  ·clear hc hd hf;by_cases e:c=0
   ·have b:(c != 0)=false:=by simp [e]
    have HE:Hid (c=0):=e;clear e;go_wp2;exact ⟨⟨1,by omega,by go_num,fun _=>HE.out,fun h=>by omega,fun h=>by omega⟩,by simp [intOf]⟩
   ·have b:(c != 0)=true:=by simp [e]
    go_wp2;go_ret;exact ⟨by simp [orJ,e],rfl⟩
  ·have HC:Hid (c=0):=hc (by omega);clear hc hd hf;by_cases e:d=0
   ·have b:(d != 0)=false:=by simp [e]
    have HE:Hid (d=0):=e;clear e;go_wp2;exact ⟨⟨2,by omega,by go_num,fun _=>HC.out,fun _=>HE.out,fun h=>by omega⟩,by simp [intOf]⟩
   ·have b:(d != 0)=true:=by simp [e]
    go_wp2;go_ret;exact ⟨by simp [orJ,HC.out,e],rfl⟩
  ·have HC:Hid (c=0):=hc (by omega);have HD:Hid (d=0):=hd (by omega);clear hc hd hf;by_cases e:f=0
   ·have b:(f != 0)=false:=by simp [e]
    have HE:Hid (f=0):=e;clear e;go_wp2;exact ⟨⟨3,by omega,by go_num,fun _=>HC.out,fun _=>HD.out,fun _=>HE.out⟩,by simp [intOf]⟩
   ·have b:(f != 0)=true:=by simp [e]
    go_wp2;go_ret;exact ⟨by simp [orJ,HC.out,HD.out],rfl⟩
  ·have HC:Hid (c=0):=hc (by omega);have HD:Hid (d=0):=hd (by omega);have HF:Hid (f=0):=hf (by omega);clear hc hd hf;go_wp2;go_ret;exact ⟨by simp [orJ,HC.out,HD.out,HF.out],rfl⟩
theorem qHD {W w:World} (h:(∀ b o,b < W.heap.size->w.cell? ⟨b,o,none⟩=W.cell? ⟨b,o,none⟩)/\Below W.heap.size W w) (o:Obj):(∀ b i,b < W.heap.size->(w.alloc o).cell? ⟨b,i,none⟩=W.cell? ⟨b,i,none⟩)/\Below W.heap.size W (w.alloc o) :=
 qA9 h (zN)
theorem qAq (a:Option Addr) (n cap:Nat) (fs:List qF2) (w:World) (hn:n<=1048576) (hle:qM5 1048576 fs) (h:qF9 w a n fs) :
  Calls Tryz.prog 165 #[.slice a n cap] w fun e w'=>e = .returned (.int .i64 (qJ5 (qA5 fs)))/\Below w.heap.size w w':=by
 have H:Hid (qF9 w a n fs):=h;have HZ:Hid ((qA5 fs).length=n):=by show (qA5 fs).length=n;rw [qZ5];exact h.1
 have HLE:Hid (qM5 1048576 fs):=hle;clear h hle;by_cases h4:4 < n
 ·have HC:Hid (qJ5 (qA5 fs)=2):=by show qJ5 (qA5 fs)=2;unfold qJ5;rw [if_pos (by rw [HZ.out];exact h4)]
  have h4':(4:Int) < (n:Int):=by omega
  go_enter Tryz.func165,Tryz.ntmps165;go_wp2;go_ret;exact ⟨by rw [HC.out];rfl,Below.refl _ _⟩
 ·have HC:Hid (qJ5 (qA5 fs)=QJ5 (qA5 fs) n):=by show qJ5 (qA5 fs)=QJ5 (qA5 fs) n;unfold qJ5;rw [if_neg (by rw [HZ.out];exact h4),HZ.out]
  have h4':(n:Int)<=4:=by omega
  rw [HC.out];go_enter Tryz.func165,Tryz.ntmps165;go_wp2;go_loopw [11] (fun i wr=>∃ k:Nat,k<=n/\i = .int .i64 (k:Int)/\QJ5 (qA5 fs) k=0/\Below w.heap.size w wr) (fun i _=>n - (intOf i).toNat)
  case atStart=>exact ⟨0,Nat.zero_le _,rfl,rfl,Below.refl _ _⟩
  case round =>
   obtain ⟨k,hk,rfl,hz,hnx⟩:=hrel;have HK:Hid (QJ5 (qA5 fs) k=0):=hz;clear hz;by_cases hlt:k < n
   ·obtain ⟨b,off,x,rfl,hs,hr⟩:=H.out.at hlt
    have HS:Hid ((qA5 fs)[k]? = some x.ps):=qU8 hs;have hx:x.n<=1048576:=HLE.out k x hs;have hb:b < w.heap.size:=hr.lt;have hc:=(hr.below hnx).1;have HP:Hid (qC7 wr x.a x.n x.ps):=(hr.below hnx).2;clear hs hr;have hlt':(k:Int) < (n:Int):=by omega
    have hA:Below wr.heap.size wr (wr.alloc (.cells #[.slice x.a x.n x.cap] 129)):=zN;obtain ⟨q,hq⟩:∃ q,qN2 x.ps=q:=⟨_,rfl⟩;go_wp2_with fail
    refine (qX1 x.a x.n x.cap x.ps _ (by unfold maxLen;omega) (HP.out.below hA)).mono ?_;rintro e w1 ⟨rfl,hb1⟩;rw [hq];have hb01:Below w.heap.size w w1:=hnx.trans ((hA.trans (hb1.mono hA.size)).mono hnx.size);have HQ:Hid (QJ5 (qA5 fs) (k+1)=q):=by show QJ5 (qA5 fs) (k+1)=q;rw [QO7 HS.out HK.out];exact hq
    clear hc hq hA hb1;by_cases q0:q=0
    ·have qb:(q != 0)=false:=by simp [q0]
     have HQ0:Hid (q=0):=q0;clear q0;go_wp2;exact ⟨⟨k+1,by omega,by go_num,by rw [HQ.out];exact HQ0.out,hb01⟩,by simp [intOf];omega⟩
    ·have qb:(q != 0)=true:=by simp [q0]
     have HE:Hid (QJ5 (qA5 fs) n=q):=QO6 _ _ _ _ q0 HQ.out (by omega);go_wp2;go_ret;exact ⟨by rw [HE.out];rfl,hb01⟩
   ·have hkn:k=n:=by omega
    subst hkn;go_wp2;go_ret;exact ⟨by rw [HK.out];rfl,hnx⟩
theorem qBJ (a:Option Addr) (n cap:Nat) (zs:List Int) (w:World) (h:qC9 w a n zs) :
  Calls Tryz.prog 166 #[.slice a n cap] w fun e w'=>e = .returned (.int .i64 (qG6 zs))/\w=w':=by
 have HI:Hid (qC9 w a n zs):=h;clear h;go_enter Tryz.func166,Tryz.ntmps166;go_wp2_with (go_at_call 183;refine (qG4 _ _ _ zs _ HI.out).mono ?_;rintro e w' ⟨rfl,rfl⟩)
 go_ret;exact ⟨rfl,rfl⟩
theorem qHX (c:qA4) (w:World):Calls Tryz.prog 135 #[.agg #[.int .i64 c.e,.int .i64 c.f,.slice c.ra c.rn c.rc,.slice c.fa c.fn c.fc,.slice c.ca c.cn c.cc]] w fun e w'=>e = .returned (.agg #[.slice c.ca c.cn c.cc,.int .i64 c.e,.int .i64 c.f,.slice c.ra c.rn c.rc,.slice c.fa c.fn c.fc])/\Below w.heap.size w w':=by
 go_enter Tryz.func135,Tryz.ntmps135;go_wp2;go_returns
 exact ⟨rfl,by go_grown⟩
theorem qBA (c:qA4) (w:World) (hle:qE0 1048576 c) (hrc:c.rn<=c.rc) (hrm:c.rc<=maxLen) (h:qF5 w c) :
  Calls Tryz.prog 136 #[.agg #[.slice c.ca c.cn c.cc,.int .i64 c.e,.int .i64 c.f,.slice c.ra c.rn c.rc,.slice c.fa c.fn c.fc]] w fun e w'=>e = .returned (.int .i64 (qH5 c.e c.f c.zs (qA5 c.fs) c.cs))/\Below w.heap.size w w':=by
 obtain ⟨t1,h1⟩:∃ t,inR c.e 1 9=t:=⟨_,rfl⟩;obtain ⟨t2,h2⟩:∃ t,inR c.f 1 2=t:=⟨_,rfl⟩;have H1:Hid (inR c.e 1 9=t1):=h1;have H2:Hid (inR c.f 1 2=t2):=h2;cases t1
 ·have HV:Hid (qH5 c.e c.f c.zs (qA5 c.fs) c.cs=3):=by show qH5 _ _ _ _ _=3;unfold qH5;rw [if_pos h1]
  clear h1 h2 h;go_enter Tryz.func136,Tryz.ntmps136;go_wp2_with (first | (go_at_call 149;refine (qI0 _ _).mono ?_;rintro e w' ⟨rfl,rfl⟩;rw [H1.out]))
  go_ret;exact ⟨by rw [HV.out];rfl,by go_grown⟩
 ·cases t2
  ·have HV:Hid (qH5 c.e c.f c.zs (qA5 c.fs) c.cs=3):=by show qH5 _ _ _ _ _=3;unfold qH5;rw [if_neg (by simp [h1]),if_pos h2]
   clear h1 h2 h;go_enter Tryz.func136,Tryz.ntmps136;go_wp2_with (first | (go_at_call 149;refine (qI0 _ _).mono ?_;rintro e w' ⟨rfl,rfl⟩;rw [H1.out]) | (go_at_call 162;refine (qDr _ _).mono ?_;rintro e w' ⟨rfl,rfl⟩;rw [H2.out]))
   go_ret;exact ⟨by rw [HV.out];rfl,by go_grown⟩
  ·have HV:Hid (qH5 c.e c.f c.zs (qA5 c.fs) c.cs=orJ (qD1 c.zs) (orJ (qJ5 (qA5 c.fs)) (qG6 c.cs))):=by show qH5 _ _ _ _ _=_;unfold qH5;rw [if_neg (by simp [h1]),if_neg (by simp [h2])]
   rw [HV.out];obtain ⟨W,hW⟩:∃ W,W=w.alloc (.cells #[.slice c.ca c.cn c.cc,.int .i64 c.e,.int .i64 c.f,.slice c.ra c.rn c.rc,.slice c.fa c.fn c.fc] 205):=⟨_,rfl⟩;have hs:W.heap.size=w.heap.size+1:=by rw [hW];simp
   have B0:Below w.heap.size w W:=by rw [hW];exact zN
   have c0:W.cell? ⟨w.heap.size,0,none⟩=some (.slice c.ca c.cn c.cc):=by rw [hW];simp
   have c3:W.cell? ⟨w.heap.size,3,none⟩=some (.slice c.ra c.rn c.rc):=by rw [hW];simp
   have c4:W.cell? ⟨w.heap.size,4,none⟩=some (.slice c.fa c.fn c.fc):=by rw [hW];simp
   have HP:Hid (∀ w2:World,(∀ b o,b < W.heap.size->w2.cell? ⟨b,o,none⟩=W.cell? ⟨b,o,none⟩)/\Below W.heap.size W w2->Calls Tryz.prog 164 #[.slice c.ra c.rn c.rc] w2 fun e w'=>e = .returned (.int .i64 (qD1 c.zs))/\Below w2.heap.size w2 w'):=fun w2 q=>qV3 c.ra c.rn c.rc c.zs w2 hle.rules hrc hrm (h.rules.below (B0.trans (q.2.mono (by omega))))
   have HF:Hid (∀ w2:World,(∀ b o,b < W.heap.size->w2.cell? ⟨b,o,none⟩=W.cell? ⟨b,o,none⟩)/\Below W.heap.size W w2->Calls Tryz.prog 165 #[.slice c.fa c.fn c.fc] w2 fun e w'=>e = .returned (.int .i64 (qJ5 (qA5 c.fs)))/\Below w2.heap.size w2 w'):=fun w2 q=>qAq c.fa c.fn c.fc c.fs w2 hle.forms hle.parts (h.forms.below (B0.trans (q.2.mono (by omega))))
   have HK:Hid (∀ w2:World,(∀ b o,b < W.heap.size->w2.cell? ⟨b,o,none⟩=W.cell? ⟨b,o,none⟩)/\Below W.heap.size W w2->Calls Tryz.prog 166 #[.slice c.ca c.cn c.cc] w2 fun e w'=>e = .returned (.int .i64 (qG6 c.cs))/\Below w2.heap.size w2 w'):=fun w2 q=>(qBJ c.ca c.cn c.cc c.cs w2 (h.classes.below (B0.trans (q.2.mono (by omega))))).mono fun e w' hh=>⟨hh.1,hh.2 ▸ Below.refl _ _⟩
   clear h hle h1 h2;generalize qD1 c.zs=p at HP ⊢
   generalize qJ5 (qA5 c.fs)=q at HF ⊢
   generalize qG6 c.cs=r at HK ⊢
   go_enter Tryz.func136,Tryz.ntmps136;go_wp2_with (first | (go_at_call 149;refine (qI0 _ _).mono ?_;rintro e w' ⟨rfl,rfl⟩;rw [H1.out]) | (go_at_call 162;refine (qDr _ _).mono ?_;rintro e w' ⟨rfl,rfl⟩;rw [H2.out]))
   rw [<- hW];clear hW
   go_region_held3 (fun w'=>(∀ b o,b < W.heap.size->w'.cell? ⟨b,o,none⟩=W.cell? ⟨b,o,none⟩)/\Below W.heap.size W w') (first | exact hS | exact qC1 _ | exact qHD (by assumption) _)
    (first | (go_at_call 164;refine (HP.out _ (by assumption)).mono ?_;rintro e w' ⟨rfl,hb2⟩;have hS:=qA9 (by assumption) hb2) | (go_at_call 165;refine (HF.out _ (by assumption)).mono ?_;rintro e w' ⟨rfl,hb2⟩;have hS:=qA9 (by assumption) hb2) | (go_at_call 166;refine (HK.out _ (by assumption)).mono ?_;rintro e w' ⟨rfl,hb2⟩;have hS:=qA9 (by assumption) hb2) | (go_at_call 163;refine (qKc _ p q r _ ?_ ?_ ?_).mono ?_;(· simp [go_sem]);(· simp [go_sem]);(· simp [go_sem]);rintro e w' ⟨rfl,rfl⟩))
   all_goals
    have hS3:=qHD hS (.cells #[.int .i64 p,.int .i64 q,.int .i64 r] 2);go_wp2;go_ret;exact ⟨rfl,B0.trans (hS3.2.mono (by omega))⟩
theorem qV4 (c:qA4) (w:World) (hle:qE0 1048576 c) (hrc:c.rn<=c.rc) (hrm:c.rc<=maxLen) (h:qF5 w c) :
  Calls Tryz.prog 105 #[.agg #[.int .i64 c.e,.int .i64 c.f,.slice c.ra c.rn c.rc,.slice c.fa c.fn c.fc,.slice c.ca c.cn c.cc]] w fun e w'=>e = .returned (.int .i64 (qH5 c.e c.f c.zs (qA5 c.fs) c.cs))/\Below w.heap.size w w':=by
 have H:Hid (qF5 w c):=h;have HLE:Hid (qE0 1048576 c):=hle;clear h hle;have hA:Below w.heap.size w (w.alloc (.cells #[.int .i64 c.e,.int .i64 c.f,.slice c.ra c.rn c.rc,.slice c.fa c.fn c.fc,.slice c.ca c.cn c.cc] 71)):=zN;obtain ⟨v,hv⟩:∃ v,qH5 c.e c.f c.zs (qA5 c.fs) c.cs=v:=⟨_,rfl⟩;rw [hv];have HF:Hid (∀ w2:World,Below w.heap.size w w2->Calls Tryz.prog 136 #[.agg #[.slice c.ca c.cn c.cc,.int .i64 c.e,.int .i64 c.f,.slice c.ra c.rn c.rc,.slice c.fa c.fn c.fc]] w2 fun e w'=>e = .returned (.int .i64 v)/\Below w2.heap.size w2 w'):=fun w2 q=>by rw [<- hv];exact qBA c w2 HLE.out hrc hrm (H.out.below q)
 clear hv;go_enter Tryz.func105,Tryz.ntmps105;go_wp2_with fail
 refine (qHX c _).mono ?_;rintro e w1 ⟨rfl,hb1⟩;have hB1:Below w.heap.size w w1:=hA.trans (hb1.mono hA.size);clear hA hb1;go_wp2_with fail
 refine (HF.out _ hB1).mono ?_;rintro e w2 ⟨rfl,hb2⟩;have hB2:Below w.heap.size w w2:=hB1.trans (hb2.mono hB1.size);clear hb2 hB1;go_wp2;go_ret;exact ⟨rfl,hB2⟩

def qI4 (w:World) (g o:Nat) (c:qA4):Prop:=w.cell? ⟨g,o,none⟩=some (.int .i64 c.e)/\w.cell? ⟨g,o+1,none⟩=some (.int .i64 c.f)/\w.cell? ⟨g,o+2,none⟩=some (.slice c.ra c.rn c.rc)/\w.cell? ⟨g,o+3,none⟩=some (.slice c.fa c.fn c.fc)/\w.cell? ⟨g,o+4,none⟩=some (.slice c.ca c.cn c.cc)
theorem qI4.lt {w:World} {g o:Nat} {c:qA4} (h:qI4 w g o c):g < w.heap.size:=zL w ⟨g,o,none⟩ h.1
theorem qI4.below {w w':World} {g o:Nat} {c:qA4} (h:qI4 w g o c) (hb:Below w.heap.size w w'):qI4 w' g o c:=by
 obtain ⟨h0,h1,h2,h3,h4⟩:=h;have hl:=zL w ⟨g,o,none⟩ h0;exact ⟨(hb.cell (p:=⟨g,o,none⟩) hl).trans h0,(hb.cell (p:=⟨g,o+1,none⟩) hl).trans h1,(hb.cell (p:=⟨g,o+2,none⟩) hl).trans h2,(hb.cell (p:=⟨g,o+3,none⟩) hl).trans h3,(hb.cell (p:=⟨g,o+4,none⟩) hl).trans h4⟩
theorem qGt (g o:Nat) (c:qA4) (w:World) (hle:qE0 1048576 c) (hk:qI4 w g o c) (h:qF5 w c) :
  Calls Tryz.prog 88 #[.pointer (some ⟨g,o,none⟩)] w fun e w'=>e = .returned (.int .i64 (qH5 c.e c.f c.zs (qA5 c.fs) c.cs))/\Below w.heap.size w w':=by
 obtain ⟨t1,h1⟩:∃ t,inR c.e 1 9=t:=⟨_,rfl⟩;obtain ⟨t2,h2⟩:∃ t,inR c.f 1 2=t:=⟨_,rfl⟩;have H1:Hid (inR c.e 1 9=t1):=h1;have H2:Hid (inR c.f 1 2=t2):=h2;have hg:g < w.heap.size:=hk.lt;have HK:Hid (qI4 w g o c):=hk;obtain ⟨k0,k1,k2,k3,k4⟩:=hk;cases t1
 ·have HV:Hid (qH5 c.e c.f c.zs (qA5 c.fs) c.cs=3):=by show qH5 _ _ _ _ _=3;unfold qH5;rw [if_pos h1]
  clear h1 h2 h;go_enter Tryz.func88,Tryz.ntmps88;go_wp2_with (first | (go_at_call 89;refine (qS7 _ _).mono ?_;rintro e w' ⟨rfl,rfl⟩;rw [H1.out]))
  go_ret;exact ⟨by rw [HV.out];rfl,by go_grown⟩
 ·cases t2
  ·have HV:Hid (qH5 c.e c.f c.zs (qA5 c.fs) c.cs=3):=by show qH5 _ _ _ _ _=3;unfold qH5;rw [if_neg (by simp [h1]),if_pos h2]
   clear h1 h2 h;go_enter Tryz.func88,Tryz.ntmps88;go_wp2_with (first | (go_at_call 89;refine (qS7 _ _).mono ?_;rintro e w' ⟨rfl,rfl⟩;rw [H1.out]) | (go_at_call 114;refine (qLs _ _).mono ?_;rintro e w' ⟨rfl,rfl⟩;rw [H2.out]))
   go_ret;exact ⟨by rw [HV.out];rfl,by go_grown⟩
  ·have HV:Hid (qH5 c.e c.f c.zs (qA5 c.fs) c.cs=orJ (qD1 c.zs) (orJ (qJ5 (qA5 c.fs)) (qG6 c.cs))):=by show qH5 _ _ _ _ _=_;unfold qH5;rw [if_neg (by simp [h1]),if_neg (by simp [h2])]
   rw [HV.out];have HLE:Hid (qE0 1048576 c):=hle;have H:Hid (qF5 w c):=h;clear h1 h2 h hle;obtain ⟨p,hp⟩:∃ p,qD1 c.zs=p:=⟨_,rfl⟩;obtain ⟨r,hr⟩:∃ r,qG6 c.cs=r:=⟨_,rfl⟩;have HP:Hid (Calls Tryz.prog 115 #[.slice c.ra c.rn c.rc] w fun e w'=>e = .returned (.int .i64 p)/\Below w.heap.size w w'):=by rw [<- hp];exact qGy c.ra c.rn c.rc c.zs w HLE.out.rules H.out.rules
   have HR:Hid (∀ w2:World,Below w.heap.size w w2->Calls Tryz.prog 117 #[.slice c.ca c.cn c.cc] w2 fun e w'=>e = .returned (.int .i64 r)/\w2=w'):=fun w2 q=>by rw [<- hr];exact qCJ c.ca c.cn c.cc c.cs w2 (H.out.classes.below q)
   rw [hp,hr];clear hp hr;have HZ:Hid ((qA5 c.fs).length=c.fn):=by show (qA5 c.fs).length=c.fn;rw [qZ5];exact H.out.forms.1
   have hfn:(c.fn:Int)<=1048576:=by have:=HLE.out.forms;omega
   go_enter Tryz.func88,Tryz.ntmps88;go_wp2_with (first | (go_at_call 89;refine (qS7 _ _).mono ?_;rintro e w' ⟨rfl,rfl⟩;rw [H1.out]) | (go_at_call 114;refine (qLs _ _).mono ?_;rintro e w' ⟨rfl,rfl⟩;rw [H2.out]) | fail)
   refine HP.out.mono ?_;rintro e w1 ⟨rfl,hb1⟩;obtain ⟨d0,d1,d2,d3,d4⟩:=HK.out.below hb1;have hg1:g < w1.heap.size:=by have:=hb1.size;omega
   clear k0 k1 k2 k3 k4 d0 d1 d2;by_cases p0:p=0
   ·have pb:(p != 0)=false:=by simp [p0]
    have HPO:Hid (∀ x,orJ p x=x):=fun x=>by simp [orJ,p0]
    clear p0;by_cases h4:4 < c.fn
    ·have HC:Hid (qJ5 (qA5 c.fs)=2):=by show qJ5 (qA5 c.fs)=2;unfold qJ5;rw [if_pos (by rw [HZ.out];exact h4)]
     have h4':(4:Int) < (c.fn:Int):=by omega
     go_wp2;go_ret;exact ⟨by rw [HPO.out,HC.out];rfl,hb1⟩
    ·have HC:Hid (qJ5 (qA5 c.fs)=QJ5 (qA5 c.fs) c.fn):=by show qJ5 (qA5 c.fs)=QJ5 (qA5 c.fs) c.fn;unfold qJ5;rw [if_neg (by rw [HZ.out];exact h4),HZ.out]
     have h4':(c.fn:Int)<=4:=by omega
     go_wp2;go_loopw [4] (fun i wr=>∃ k:Nat,k<=c.fn/\i = .int .i64 (k:Int)/\QJ5 (qA5 c.fs) k=0/\Below w.heap.size w wr) (fun i _=>c.fn - (intOf i).toNat)
     case atStart=>exact ⟨0,Nat.zero_le _,rfl,rfl,hb1⟩
     case round =>
      obtain ⟨k,hk,rfl,hz,hnx⟩:=hrel;have HK0:Hid (QJ5 (qA5 c.fs) k=0):=hz;obtain ⟨m0,m1,m2,m3,m4⟩:=HK.out.below hnx;have hgr:g < wr.heap.size:=by have:=hnx.size;omega
      clear hz d3 d4 m0 m1 m2;by_cases hlt:k < c.fn
      ·obtain ⟨b,off,x,hfa,hs,hr⟩:=H.out.forms.at hlt
       have HS:Hid ((qA5 c.fs)[k]? = some x.ps):=qU8 hs;have hx:x.n<=1048576:=HLE.out.parts k x hs;have hb:b < w.heap.size:=hr.lt;have hc:=(hr.below hnx).1;have HPI:Hid (qC7 wr x.a x.n x.ps):=(hr.below hnx).2;rw [hfa] at m3;have hbr:b < wr.heap.size:=by have:=hnx.size;omega
       clear hs hr hfa;have hlt':(k:Int) < (c.fn:Int):=by omega
       obtain ⟨q,hq⟩:∃ q,qN2 x.ps=q:=⟨_,rfl⟩;go_wp2_with fail
       refine (qGx x.a x.n x.cap x.ps _ (by unfold maxLen;omega) HPI.out).mono ?_;rintro e w2 ⟨rfl,hb2⟩;rw [hq];have hb02:Below w.heap.size w w2:=hnx.trans (hb2.mono hnx.size);have HQ:Hid (QJ5 (qA5 c.fs) (k+1)=q):=by show QJ5 (qA5 c.fs) (k+1)=q;rw [QO7 HS.out HK0.out];exact hq
       clear hc hq hb2 m3 m4;by_cases q0:q=0
       ·have qb:(q != 0)=false:=by simp [q0]
        have HQ0:Hid (q=0):=q0;clear q0;go_wp2;exact ⟨⟨k+1,by omega,by go_num,by rw [HQ.out];exact HQ0.out,hb02⟩,by simp [intOf];omega⟩
       ·have qb:(q != 0)=true:=by simp [q0]
        have HE:Hid (orJ (qJ5 (qA5 c.fs)) r=q):=by
         show orJ _ _=_
         rw [HC.out,QO6 _ _ c.fn _ q0 HQ.out (by omega)];simp [orJ,q0]
        go_wp2;go_ret;exact ⟨by rw [HPO.out,HE.out];rfl,hb02⟩
      ·have hkn:k=c.fn:=by omega
       have HE:Hid (orJ (qJ5 (qA5 c.fs)) r=r):=by
        show orJ _ _=_
        rw [HC.out,<- hkn,HK0.out];simp [orJ]
       have hlt':¬ ((k:Int) < (c.fn:Int)):=by omega
       clear hkn;go_wp2_with fail
       refine (HR.out _ hnx).mono ?_;rintro e w2 ⟨rfl,rfl⟩;go_wp2;go_ret;exact ⟨by rw [HPO.out,HE.out];rfl,hnx⟩
   ·have pb:(p != 0)=true:=by simp [p0]
    have HPO:Hid (∀ x,orJ p x=p):=fun x=>by simp [orJ,p0]
    clear p0;go_wp2;go_ret;exact ⟨by rw [HPO.out];rfl,hb1⟩

structure qA6 (w:World) (a:Option Addr) (n:Nat) (cs:List qA4):Prop where
 len:cs.length=n
 row:0 < n->∃ b off,a=some ⟨b,off,none⟩/\∀ k c,cs[k]? = some c->qI4 w b (off+k * 5) c
 each:∀ (k:Nat) c,cs[k]? = some c->qF5 w c
theorem qA6.below {w w':World} {a:Option Addr} {n:Nat} {cs:List qA4} (h:qA6 w a n cs) (hb:Below w.heap.size w w'):qA6 w' a n cs :=
 ⟨h.len,fun hp=>by
  obtain ⟨b,off,e,hr⟩:=h.row hp;exact ⟨b,off,e,fun k c q=>(hr k c q).below hb⟩,fun k c q=>(h.each k c q).below hb⟩
theorem qA6.at {w:World} {a:Option Addr} {n:Nat} {cs:List qA4} (h:qA6 w a n cs) {k:Nat} (hk:k < n):∃ b off c,a=some ⟨b,off,none⟩/\cs[k]? = some c/\qI4 w b (off+k * 5) c/\qF5 w c:=by
 obtain ⟨b,off,e,hr⟩:=h.row (by omega);have hx:=List.getElem?_eq_getElem (l:=cs) (i:=k) (by rw [h.len];exact hk);exact ⟨b,off,_,e,hx,hr k _ hx,h.each k _ hx⟩
structure qG0 (m:Nat) (cs:List qA4):Prop where
 le:∀ (k:Nat) c,cs[k]? = some c->qE0 m c
 rc:∀ (k:Nat) c,cs[k]? = some c->c.rn<=c.rc/\c.rc<=maxLen
def qU3 (c:qA4):Int:=qH5 c.e c.f c.zs (qA5 c.fs) c.cs
def qJ2 (cs:List qA4):Nat->Int
 | 0=>0
 | k+1=>if qJ2 cs k=0 then (match cs[k]? with
  | none=>0
  | some c=>if qU3 c=0 then (if c.f=(cs[0]?.getD default).f then 0 else 1) else qU3 c) else qJ2 cs k
def qC4 (cs:List qA4):Int:=if cs.length < 1\/8 < cs.length then 2 else qJ2 cs cs.length
theorem qR2 (cs:List qA4) (k m:Nat) (d:Int) (hd:d≠0) (h:qJ2 cs k=d) (hm:k<=m):qJ2 cs m=d:=by
  induction m with
  | zero => obtain rfl:k=0:=by omega
            exact h
  | succ m ih =>
    by_cases e:k=m+1
    · subst e;exact h
    · have:=ih (by omega);rw [qJ2,this,if_neg hd]
theorem QA0 {cs:List qA4} {k:Nat} {c:qA4} (hc:cs[k]? = some c) (h0:qJ2 cs k=0):qJ2 cs (k+1)=if qU3 c=0 then (if c.f=(cs[0]?.getD default).f then 0 else 1) else qU3 c:=by
 rw [qJ2,h0,if_pos rfl,hc]
theorem qT4 {cs:List qA4} (h:qC4 cs=0):1<=cs.length/\cs.length<=8/\∀ (k:Nat) c,cs[k]? = some c->qU3 c=0/\c.f=(cs[0]?.getD default).f:=by
 unfold qC4 at h;by_cases hl:cs.length < 1\/8 < cs.length
 ·rw [if_pos hl] at h;omega
 ·rw [if_neg hl] at h;refine ⟨by omega,by omega,fun k c hc=>?_⟩
  have hk:k < cs.length:=by
   by_cases q:k < cs.length
   ·exact q
   ·rw [List.getElem?_eq_none (by omega)] at hc;cases hc
  have h0:qJ2 cs k=0:=by
   by_cases q:qJ2 cs k=0
   ·exact q
   ·have:=qR2 cs k cs.length _ q rfl (by omega);rw [this] at h;exact absurd h q
  have h1:qJ2 cs (k+1)=0:=by
   by_cases q:qJ2 cs (k+1)=0
   ·exact q
   ·have:=qR2 cs (k+1) cs.length _ q rfl (by omega);rw [this] at h;exact absurd h q
  rw [QA0 hc h0] at h1;by_cases q:qU3 c=0
  ·rw [if_pos q] at h1;by_cases r:c.f=(cs[0]?.getD default).f
   ·exact ⟨q,r⟩
   ·rw [if_neg r] at h1;omega
  ·rw [if_neg q] at h1;exact absurd h1 q
theorem qM4 (a:Option Addr) (n cap:Nat) (cs:List qA4) (w:World) (hn:n<=1048576) (hle:qG0 1048576 cs) (h:qA6 w a n cs) :
  Calls Tryz.prog 56 #[.slice a n cap] w fun e w'=>e = .returned (.int .i64 (qC4 cs))/\Below w.heap.size w w':=by
 have H:Hid (qA6 w a n cs):=h;have HLE:Hid (qG0 1048576 cs):=hle;have HZ:Hid (cs.length=n):=h.len;have hn':(n:Int)<=1048576:=by omega
 clear h hle;by_cases h1:n < 1
 ·have HC:Hid (qC4 cs=2):=by show qC4 cs=2;unfold qC4;rw [if_pos (.inl (by rw [HZ.out];exact h1))]
  have hn0:n=0:=by omega
  subst hn0;rw [HC.out];go_enter Tryz.func56,Tryz.ntmps56;go_wp2;go_ret;exact ⟨rfl,Below.refl _ _⟩
 ·by_cases h8:8 < n
  ·have HC:Hid (qC4 cs=2):=by show qC4 cs=2;unfold qC4;rw [if_pos (.inr (by rw [HZ.out];exact h8))]
   have h1':¬ ((n:Int) < 1):=by omega
   have h8':(8:Int) < (n:Int):=by omega
   rw [HC.out];go_enter Tryz.func56,Tryz.ntmps56;go_wp2;go_ret;exact ⟨rfl,Below.refl _ _⟩
  ·have h1':¬ ((n:Int) < 1):=by omega
   have h8':¬ ((8:Int) < (n:Int)):=by omega
   have HC:Hid (qC4 cs=qJ2 cs n):=by show qC4 cs=_;unfold qC4;rw [if_neg (by rw [HZ.out];omega),HZ.out]
   obtain ⟨b0,off0,c0,rfl,hc0,hat0,_⟩:=H.out.at (show 0 < n by omega)
   have HC0:Hid ((cs[0]?.getD default).f=c0.f):=by show (cs[0]?.getD default).f=_;rw [hc0];rfl
   have HAT0:Hid (qI4 w b0 off0 c0):=by have:=hat0;rw [Nat.zero_mul,Nat.add_zero] at this;exact this
   clear hc0 hat0;rw [HC.out];go_enter Tryz.func56,Tryz.ntmps56;go_wp2;go_loopw [3] (fun i wr=>∃ k:Nat,k<=n/\i = .int .i64 (k:Int)/\qJ2 cs k=0/\Below w.heap.size w wr) (fun i _=>n - (intOf i).toNat)
   case atStart=>exact ⟨0,Nat.zero_le _,rfl,rfl,Below.refl _ _⟩
   case round =>
    obtain ⟨k,hk,rfl,hz,hnx⟩:=hrel;have HK0:Hid (qJ2 cs k=0):=hz;clear hz;by_cases hlt:k < n
    ·obtain ⟨b,off,c,e,hc,hat,hin⟩:=H.out.at hlt
     cases e;have HS:Hid (cs[k]? = some c):=hc;have hlt':(k:Int) < (n:Int):=by omega
     have HA:Hid (qI4 wr b0 (off0+k * 5) c/\qF5 wr c/\qE0 1048576 c):=⟨hat.below hnx,hin.below hnx,HLE.out.le k c hc⟩;have HN:Hid (qJ2 cs (k+1)=if qU3 c=0 then (if c.f=c0.f then 0 else 1) else qU3 c):=by show qJ2 cs (k+1)=_;rw [QA0 hc HK0.out,HC0.out]
     clear hc hat hin;obtain ⟨q,hq⟩:∃ q,qU3 c=q:=⟨_,rfl⟩;rw [hq] at HN;have HQ:Hid (Calls Tryz.prog 88 #[.pointer (some ⟨b0,off0+k * 5,none⟩)] wr fun e w'=>e = .returned (.int .i64 q)/\Below wr.heap.size wr w'):=by rw [<- hq];exact qGt b0 (off0+k * 5) c wr HA.out.2.2 HA.out.1 HA.out.2.1
     clear hq;go_wp2_with fail
     refine HQ.out.mono ?_;rintro e w1 ⟨rfl,hb1⟩;have B1:Below w.heap.size w w1:=hnx.trans (hb1.mono hnx.size);by_cases q0:q=0
     ·have qb:(q != 0)=false:=by simp [q0]
      rw [if_pos q0] at HN;have hA1:=HA.out.1.below hb1;have hl1:=hA1.lt;obtain ⟨x0,x1,_⟩:=hA1;have hB1:=HAT0.out.below B1;obtain ⟨y0,y1,_⟩:=hB1;by_cases hf:c.f=c0.f
      ·have fb:(c.f != c0.f)=false:=by simp [hf]
       rw [if_pos hf] at HN;clear q0 hf;go_wp2;go_quiet (fail)
       go_wp2;exact ⟨⟨k+1,by omega,by go_num,HN.out,below_drewN B1 _⟩,by simp [intOf];omega⟩
      ·have fb:(c.f != c0.f)=true:=by simp [hf]
       rw [if_neg hf] at HN;have HE:Hid (qJ2 cs n=1):=qR2 cs (k+1) n 1 (by omega) HN.out (by omega);clear q0 hf;go_wp2;go_quiet (fail)
       go_wp2;go_ret;exact ⟨by rw [HE.out];rfl,below_drewN B1 _⟩
     ·have qb:(q != 0)=true:=by simp [q0]
      rw [if_neg q0] at HN;have HE:Hid (qJ2 cs n=q):=qR2 cs (k+1) n q q0 HN.out (by omega);clear q0;go_wp2;go_ret;exact ⟨by rw [HE.out];rfl,B1⟩
    ·have hkn:k=n:=by omega
     have hlt':¬ ((k:Int) < (n:Int)):=by omega
     have HE:Hid (qJ2 cs n=0):=by rw [<- hkn];exact HK0.out
     clear hkn;go_wp2;go_ret;exact ⟨by rw [HE.out];rfl,hnx⟩

def nfC (cs:List qA4) (e n:Int):Int:=if n < 0\/(cs.length:Int)<=n then 3 else if (cs[n.toNat]?.getD default).e≠e+1 then 10 else 0
theorem qBz (a:Option Addr) (m cap:Nat) (cs:List qA4) (e n:Int) (w:World) (hm:m<=1048576) (he:0<=e/\e<=100) (hc:qA6 w a m cs) :
  Calls Tryz.prog 144 #[.slice a m cap,.int .i64 e,.int .i64 n] w fun d w'=>d = .returned (.int .i64 (nfC cs e n))/\Below w.heap.size w w':=by
 have HC:Hid (qA6 w a m cs):=hc;have HL:Hid (cs.length=m):=hc.len;have hm':(m:Int)<=1048576:=by omega
 obtain ⟨he0,he1⟩:=he;clear hc;by_cases h0:n < 0
 ·have HV:Hid (nfC cs e n=3):=by show nfC cs e n=3;unfold nfC;rw [if_pos (.inl h0)]
  rw [HV.out];have hb:decide (n < 0)=true:=by simp [h0]
  go_enter Tryz.func144,Tryz.ntmps144;go_wp2;go_ret;exact ⟨rfl,Below.refl _ _⟩
 ·have hb:decide (n < 0)=false:=by simp;omega
  by_cases h1:(m:Int)<=n
  ·have HV:Hid (nfC cs e n=3):=by show nfC cs e n=3;unfold nfC;rw [if_pos (.inr (by rw [HL.out];exact h1))]
   rw [HV.out];have hb1:decide ((m:Int)<=n)=true:=by simp [h1]
   go_enter Tryz.func144,Tryz.ntmps144;go_wp2;go_ret;exact ⟨rfl,Below.refl _ _⟩
  ·obtain ⟨k,rfl⟩:∃ k:Nat,n=(k:Int):=Int.eq_ofNat_of_zero_le (by omega);have hkm:k < m:=by omega
   have hb1:decide ((m:Int)<=(k:Int))=false:=by simp;omega
   obtain ⟨g,off,c,rfl,hck,hat,_⟩:=HC.out.at hkm
   have HV:Hid (nfC cs e (k:Int)=if c.e≠e+1 then 10 else 0):=by show nfC _ _ _=_;unfold nfC;rw [if_neg (by rw [HL.out];omega),Int.toNat_natCast,hck];rfl
   have hgl:=hat.lt;obtain ⟨y0,_⟩:=hat;have hlt':(k:Int) < (m:Int):=by omega
   by_cases hce:c.e=e+1
   ·have hceb:(c.e != e+1)=false:=by simp [hce]
    rw [HV.out,if_neg (by simp [hce])];clear hce hck h0 h1;go_enter Tryz.func144,Tryz.ntmps144;go_wp2;go_ret;exact ⟨rfl,Below.refl _ _⟩
   ·have hceb:(c.e != e+1)=true:=by simp [hce]
    rw [HV.out,if_pos hce];clear hce hck h0 h1;go_enter Tryz.func144,Tryz.ntmps144;go_wp2;go_ret;exact ⟨rfl,Below.refl _ _⟩
