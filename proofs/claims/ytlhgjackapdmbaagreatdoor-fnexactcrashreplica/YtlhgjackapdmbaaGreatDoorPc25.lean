/- Contracts. -/
import Derived.Test.YtlhgjackapdmbaaGreatDoorPc19
import Derived.Test.YtlhgjackapdmbaaGreatDoorPc24
import Derived.Test.YtlhgjackapdmbaaGreatDoorPc08
namespace Go.Proofs.YtlhgjackapdmbaaGreatDoor
set_option maxRecDepth 100000
set_option maxHeartbeats 8000000
open Go.RowKit
set_option linter.unusedVariables false
set_option linter.unusedSimpArgs false

section
attribute [local go_sem ↓] ro_eql
theorem ro_neq (p q:RoI) (w:World):(binOp .neq 112 (.agg #[.int .i64 p.1,.int .i64 p.2]) (.agg #[.int .i64 q.1,.int .i64 q.2])).run Tryz.prog w = .ok (.bool (!eqRo p q)) w:=by
 obtain ⟨a0,a1⟩:=p
 obtain ⟨b0,b1⟩:=q
 simp only [eqRo]
 cases e0:(a0==b0)
 ·simp [go_sem,e0]
 cases e1:(a1==b1)
 ·simp [go_sem,e0,e1]
 ·simp [go_sem,e0,e1]
theorem qL6 (v lo hi:Int) (w:World):Calls Tryz.prog 51 #[.int .i64 v,.int .i64 lo,.int .i64 hi] w fun e w'=>e = .returned (.bool (decide (lo≤v)&&decide (v≤hi)))∧w=w':=by
 cases h0:decide (lo≤v)
 ·go_enter Tryz.func51,Tryz.ntmps51
  go_wp2
  go_ret
  exact ⟨by simp,rfl⟩
 ·cases h1:decide (v≤hi)
  all_goals
   go_enter Tryz.func51,Tryz.ntmps51
   go_wp2
   go_ret
   exact ⟨by simp,rfl⟩
theorem isAhead_c (v:Int) (k:Nat) (hk:k≤1000) (w:World):Calls Tryz.prog 210 #[.int .i64 v,.int .i64 (k:Int)] w fun e w'=>e = .returned (.bool (decide (0≤v)&&decide (v < (k:Int))))∧w=w':=by
 have hk':(k:Int)≤1000:=by omega
 cases h0:decide (0≤v)
 ·go_enter Tryz.func210,Tryz.ntmps210
  go_wp2
  go_ret
  exact ⟨by simp,rfl⟩
 ·cases h1:decide (v < (k:Int))
  all_goals
   go_enter Tryz.func210,Tryz.ntmps210
   go_wp2
   go_ret
   exact ⟨by simp,rfl⟩
theorem partFault_1 (x:qD0) (k:Nat) (w:World) (hk:k≤1000) (e1:x.k=1) :
  Calls Tryz.prog 196 #[.agg #[.int .i64 x.k,.int .i64 x.ro,.int .i64 x.rn,.int .i64 x.l,.int .i64 x.r],.int .i64 (k:Int)] w fun e w'=>e = .returned (.int .i64 (qJ9 k x))∧Below w.heap.size w w':=by
 have hk':(k:Int)≤1000:=by omega
 have b1:(x.k==1)=true:=by simp [e1]
 obtain ⟨t,ht⟩:∃ t,qD3 x.ro x.rn=t:=⟨_,rfl⟩
 cases t
 ·have hp:qJ9 k x=3:=by simp [qJ9,e1,ht]
  have hc:qE8 x.ro x.rn=3:=by simp [qE8,ht]
  rw [hp]
  clear e1 ht hp
  go_enter Tryz.func196,Tryz.ntmps196
  go_wp2_with (first | (go_at_call 192;refine (qC9 _ _ _).mono ?_;rintro e w1 ⟨rfl,hb1⟩;rw [hc]) | fail)
  go_ret
  exact ⟨rfl,qD5 hb1⟩
 ·have hc:qE8 x.ro x.rn=0:=by simp [qE8,ht]
  obtain ⟨u,hu⟩:∃ u,(x.l != 0)=u:=⟨_,rfl⟩
  obtain ⟨v,hv⟩:∃ v,(x.r != 0)=v:=⟨_,rfl⟩
  have hp:qJ9 k x=if (u || v)=true then 1 else 0:=by
   rw [← hu,← hv]
   simp only [qJ9,e1,ht]
   by_cases q1:x.l=0 <;> by_cases q2:x.r=0 <;> simp [q1,q2]
  rw [hp]
  clear e1 ht hp
  cases u <;> cases v
  all_goals
   go_enter Tryz.func196,Tryz.ntmps196
   go_wp2_with (first | (go_at_call 192;refine (qC9 _ _ _).mono ?_;rintro e w1 ⟨rfl,hb1⟩;rw [hc];have q3:w1.cell? ⟨w.heap.size,3,none⟩=some (.int .i64 x.l):=(hb1.cell (p:=⟨w.heap.size,3,none⟩) (by simp)).trans (by simp);have q4:w1.cell? ⟨w.heap.size,4,none⟩=some (.int .i64 x.r):=(hb1.cell (p:=⟨w.heap.size,4,none⟩) (by simp)).trans (by simp)) | fail)
   go_ret
   exact ⟨rfl,qD5 hb1⟩
theorem QU1 (x:qD0) (k:Nat) (w:World) (e1:¬ (1≤x.k∧x.k≤3)) :
  Calls Tryz.prog 196 #[.agg #[.int .i64 x.k,.int .i64 x.ro,.int .i64 x.rn,.int .i64 x.l,.int .i64 x.r],.int .i64 (k:Int)] w fun e w'=>e = .returned (.int .i64 (qJ9 k x))∧Below w.heap.size w w':=by
 have b1:(x.k==1)=false:=by simp;omega
 have b2:(x.k==2)=false:=by simp;omega
 have b3:(x.k==3)=false:=by simp;omega
 have hp:qJ9 k x=1:=by simp only [qJ9,if_pos e1]
 rw [hp]
 clear e1 hp
 go_enter Tryz.func196,Tryz.ntmps196
 go_wp2_with fail
 go_ret
 exact ⟨rfl,by go_grown⟩
theorem partFault_2 (x:qD0) (k:Nat) (w:World) (hk:k≤1000) (e1:x.k=2∨x.k=3) :
  Calls Tryz.prog 196 #[.agg #[.int .i64 x.k,.int .i64 x.ro,.int .i64 x.rn,.int .i64 x.l,.int .i64 x.r],.int .i64 (k:Int)] w fun e w'=>e = .returned (.int .i64 (qJ9 k x))∧Below w.heap.size w w':=by
 have hk':(k:Int)≤1000:=by omega
 have b1:(x.k==1)=false:=by simp;omega
 obtain ⟨u,hu⟩:∃ u,(decide (0≤x.l)&&decide (x.l < (k:Int)))=u:=⟨_,rfl⟩
 obtain ⟨v,hv⟩:∃ v,(decide (0≤x.r)&&decide (x.r < (k:Int)))=v:=⟨_,rfl⟩
 obtain ⟨t,ht⟩:∃ t,eqRo (x.ro,x.rn) (0,0)=t:=⟨_,rfl⟩
 have hp:qJ9 k x=if t=false then 1 else if u=false then 3 else if v=false then 3 else 0:=by
  have ek:¬ x.k=1:=by omega
  unfold qJ9
  rw [if_neg (by omega),if_neg ek]
  have h1:t=true↔(x.ro=0∧x.rn=0):=by rw [← ht,qT9];simp
  have h2:u=true↔(0≤x.l∧x.l < (k:Int)):=by rw [← hu];simp
  have h3:v=true↔(0≤x.r∧x.r < (k:Int)):=by rw [← hv];simp
  simp only [← h1,← h2,← h3]
  cases t <;> cases u <;> cases v <;> simp
 rw [hp]
 have hn:∀ w,(binOp .neq 112 (.agg #[.int .i64 x.ro,.int .i64 x.rn]) (.agg #[.int .i64 0,.int .i64 0])).run Tryz.prog w = .ok (.bool (!t)) w:=fun w=>by rw [← ht];exact ro_neq (x.ro,x.rn) (0,0) w
 have HU:Hid ((decide (0≤x.l)&&decide (x.l < (k:Int)))=u):=hu
 have HV:Hid ((decide (0≤x.r)&&decide (x.r < (k:Int)))=v):=hv
 clear hp ht hu hv
 rcases e1 with e1 | e1
 ·have b2:(x.k==2)=true:=by simp;omega
  clear e1
  cases t
  ·go_enter Tryz.func196,Tryz.ntmps196
   go_wp2_with fail
   go_ret
   exact ⟨rfl,by go_grown⟩
  ·cases u <;> cases v
   all_goals
    go_enter Tryz.func196,Tryz.ntmps196
    go_wp2_with (first | (go_at_call 210;refine (isAhead_c _ _ hk _).mono ?_;rintro e w1 ⟨rfl,rfl⟩;first | rw [HU.out] | rw [HV.out]) | fail)
    go_ret
    exact ⟨rfl,by go_grown⟩
 ·have b2:(x.k==2)=false:=by simp;omega
  have b3:(x.k==3)=true:=by simp;omega
  clear e1
  cases t
  ·go_enter Tryz.func196,Tryz.ntmps196
   go_wp2_with fail
   go_ret
   exact ⟨rfl,by go_grown⟩
  ·cases u <;> cases v
   all_goals
    go_enter Tryz.func196,Tryz.ntmps196
    go_wp2_with (first | (go_at_call 210;refine (isAhead_c _ _ hk _).mono ?_;rintro e w1 ⟨rfl,rfl⟩;first | rw [HU.out] | rw [HV.out]) | fail)
    go_ret
    exact ⟨rfl,by go_grown⟩
theorem partFault_c (x:qD0) (k:Nat) (w:World) (hk:k≤1000) :
  Calls Tryz.prog 196 #[.agg #[.int .i64 x.k,.int .i64 x.ro,.int .i64 x.rn,.int .i64 x.l,.int .i64 x.r],.int .i64 (k:Int)] w fun e w'=>e = .returned (.int .i64 (qJ9 k x))∧Below w.heap.size w w':=by
 by_cases h:1≤x.k∧x.k≤3
 ·by_cases h1:x.k=1
  ·exact partFault_1 x k w hk h1
  ·exact partFault_2 x k w hk (by omega)
 ·exact QU1 x k w h
theorem QU9 (a:Option Addr) (n cap:Nat) (zs:List qD0) (c:Int) (w:World) (h1:1≤n) (h8:n≤8) (h:qC3 w a n zs) (hc:QH2 zs n=c) :
  Calls Tryz.prog 173 #[.slice a n cap] w fun e w'=>e = .returned (.int .i64 c)∧Below w.heap.size w w':=by
 have H:Hid (qC3 w a n zs):=h
 have HC:Hid (QH2 zs n=c):=hc
 clear h hc
 have hn1:¬ ((n:Int) < 1):=by omega
 have hn8:¬ ((8:Int) < (n:Int)):=by omega
 have hn':(n:Int)≤8:=by omega
 go_enter Tryz.func173,Tryz.ntmps173
 go_wp2
 go_loopw [16] (fun i wr=>∃ k:Nat,k≤n∧i = .int .i64 (k:Int)∧QH2 zs k=0∧Below w.heap.size w wr) (fun i _=>n - (intOf i).toNat)
 case atStart=>exact ⟨0,Nat.zero_le _,rfl,rfl,Below.refl _ _⟩
 case round =>
  obtain ⟨k,hk,rfl,hp,hnx⟩:=hrel
  have HP:Hid (QH2 zs k=0):=hp
  clear hp
  by_cases hlt:k < n
  ·obtain ⟨b,off,x,rfl,hs,hx⟩:=H.out.at hlt
   have HN:Hid (QH2 zs (k+1)=qJ9 k x):=QK3 hs HP.out
   clear hs
   obtain ⟨g0,g1,g2,g3,g4⟩:=hx.below hnx
   clear hx
   have hlt':(k:Int) < (n:Int):=by omega
   go_wp2_with fail
   refine (partFault_c x k _ (by omega)).mono ?_
   rintro e w1 ⟨rfl,hb1⟩
   have hnx1:Below w.heap.size w w1:=hnx.trans ((qD5 hb1).mono hnx.size)
   clear hb1 g0 g1 g2 g3 g4
   by_cases hz:qJ9 k x=0
   ·have HE:Hid (QH2 zs (k+1)=0):=HN.out.trans hz
    rw [hz]
    clear hz
    go_wp2
    exact ⟨⟨k+1,by omega,by go_num,HE.out,hnx1⟩,by simp [intOf];omega⟩
   ·have E:Hid (c=qJ9 k x):=HC.out.symm.trans (QK2 zs (k+1) n _ hz HN.out (by omega))
    have hzb:(qJ9 k x != 0)=true:=by simpa using hz
    clear hz
    go_wp2
    go_ret
    exact ⟨by rw [E.out];rfl,hnx1⟩
  ·have hkn:k=n:=by omega
   subst hkn
   go_wp2
   go_ret
   exact ⟨by rw [← HC.out,HP.out];rfl,hnx⟩
theorem qX9 (a:Option Addr) (n cap:Nat) (zs:List qD0) (w:World) (hm:n≤maxLen) (h:qC3 w a n zs) :
  Calls Tryz.prog 173 #[.slice a n cap] w fun e w'=>e = .returned (.int .i64 (qN3 zs))∧Below w.heap.size w w':=by
 have hl:=h.1
 unfold maxLen at hm
 have hm':(n:Int)≤9223372036854775807:=by omega
 unfold qN3
 rw [hl]
 by_cases h1:n < 1
 ·have h1':(n:Int) < 1:=by omega
  rw [if_pos h1]
  clear h hl h1
  go_enter Tryz.func173,Tryz.ntmps173
  go_wp2
  go_ret
  exact ⟨rfl,Below.refl _ _⟩
 ·rw [if_neg h1]
  by_cases h8:8 < n
  ·have h1':¬ ((n:Int) < 1):=by omega
   have h8':(8:Int) < (n:Int):=by omega
   rw [if_pos h8]
   clear h hl h1 h8
   go_enter Tryz.func173,Tryz.ntmps173
   go_wp2
   go_ret
   exact ⟨rfl,Below.refl _ _⟩
  ·rw [if_neg h8]
   exact QU9 a n cap zs _ w (by omega) (by omega) h rfl
end

theorem l4Fault_few (a:Option Addr) (n cap:Nat) (zs:List qD0) (c:Int) (w:World) (h1:1≤n) (h8:n≤8) (h:qC3 w a n zs) (hc:QH2 zs n=c) :
  Calls Tryz.prog 115 #[.slice a n cap] w fun e w'=>e = .returned (.int .i64 c)∧Below w.heap.size w w':=by
 have H:Hid (qC3 w a n zs):=h
 have HC:Hid (QH2 zs n=c):=hc
 clear h hc
 have hn1:¬ ((n:Int) < 1):=by omega
 have hn8:¬ ((8:Int) < (n:Int)):=by omega
 have hn':(n:Int)≤8:=by omega
 go_enter Tryz.func115,Tryz.ntmps115
 go_wp2
 go_loopw [3] (fun i wr=>∃ k:Nat,k≤n∧i = .int .i64 (k:Int)∧QH2 zs k=0∧Below w.heap.size w wr) (fun i _=>n - (intOf i).toNat)
 case atStart=>exact ⟨0,Nat.zero_le _,rfl,rfl,Below.refl _ _⟩
 case round =>
  obtain ⟨k,hk,rfl,hp,hnx⟩:=hrel
  have HP:Hid (QH2 zs k=0):=hp
  clear hp
  by_cases hlt:k < n
  ·obtain ⟨b,off,x,rfl,hs,hx⟩:=H.out.at hlt
   have HN:Hid (QH2 zs (k+1)=qJ9 k x):=QK3 hs HP.out
   have HST:Hid (∀ d:Int,qJ9 k x=d→d≠0→c=d):=fun d e q=>HC.out.symm.trans (QK2 zs (k+1) n d q (HN.out.trans e) (by omega))
   clear hs
   obtain ⟨g0,g1,g2,g3,g4⟩:=hx.below hnx
   clear hx
   have hlt':(k:Int) < (n:Int):=by omega
   have hk8:(k:Int)≤8:=by omega
   have A5:Below w.heap.size w (wr.alloc (.cells #[.int .i64 x.k,.int .i64 x.ro,.int .i64 x.rn,.int .i64 x.l,.int .i64 x.r] 151)):=hnx.alloc hnx.size _
   obtain ⟨t0,ht0⟩:∃ t0,(decide (1≤x.k)&&decide (x.k≤3))=t0:=⟨_,rfl⟩
   have HK:Hid ((decide (1≤x.k)&&decide (x.k≤3))=t0):=ht0
   cases t0
   ·have E:Hid (c=1):=HST.out 1 (by unfold qJ9;rw [if_pos (by simp at ht0;omega)]) (by decide)
    clear ht0
    go_wp2_with (first | (go_at_call 51;refine (qL6 _ _ _ _).mono ?_;rintro e w1 ⟨rfl,rfl⟩;rw [HK.out]) | fail)
    go_ret
    exact ⟨by rw [E.out];rfl,A5⟩
   ·simp at ht0
    by_cases ek:x.k=1
    ·have b1:(x.k==1)=true:=by simp [ek]
     obtain ⟨t,ht⟩:∃ t,qD3 x.ro x.rn=t:=⟨_,rfl⟩
     have HT:Hid (qD3 x.ro x.rn=t):=ht
     cases t
     ·have E:Hid (c=3):=HST.out 3 (by simp [qJ9,ek,ht]) (by decide)
      clear ht0 ek ht
      go_wp2_with (first | (go_at_call 51;refine (qL6 _ _ _ _).mono ?_;rintro e w1 ⟨rfl,rfl⟩;rw [HK.out]) | (go_at_call 144;refine (qQ7 _ _ _).mono ?_;rintro e w2 ⟨rfl,hb2⟩;rw [HT.out]) | fail)
      go_ret
      exact ⟨by rw [E.out];rfl,hnx.trans ((qD5 hb2).mono hnx.size)⟩
     ·obtain ⟨u,hu⟩:∃ u,(x.l != 0)=u:=⟨_,rfl⟩
      obtain ⟨v,hv⟩:∃ v,(x.r != 0)=v:=⟨_,rfl⟩
      have hp:qJ9 k x=if (u || v)=true then 1 else 0:=by
       rw [← hu,← hv]
       simp only [qJ9,ek,ht]
       by_cases q1:x.l=0 <;> by_cases q2:x.r=0 <;> simp [q1,q2]
      have HPP:Hid (qJ9 k x=if (u || v)=true then 1 else 0):=hp
      clear ht0 ek ht hp
      cases u <;> cases v
      ·have HE:Hid (QH2 zs (k+1)=0):=HN.out.trans HPP.out
       go_wp2_with (first | (go_at_call 51;refine (qL6 _ _ _ _).mono ?_;rintro e w1 ⟨rfl,rfl⟩;rw [HK.out]) | (go_at_call 144;refine (qQ7 _ _ _).mono ?_;rintro e w2 ⟨rfl,hb2⟩;rw [HT.out];have q3:w2.cell? ⟨wr.heap.size,3,none⟩=some (.int .i64 x.l):=(hb2.cell (p:=⟨wr.heap.size,3,none⟩) (by simp)).trans (by simp);have q4:w2.cell? ⟨wr.heap.size,4,none⟩=some (.int .i64 x.r):=(hb2.cell (p:=⟨wr.heap.size,4,none⟩) (by simp)).trans (by simp)) | fail)
       exact ⟨⟨k+1,by omega,by go_num,HE.out,hnx.trans ((qD5 hb2).mono hnx.size)⟩,by simp [intOf];omega⟩
      all_goals
       have E:Hid (c=1):=HST.out 1 HPP.out (by decide)
       go_wp2_with (first | (go_at_call 51;refine (qL6 _ _ _ _).mono ?_;rintro e w1 ⟨rfl,rfl⟩;rw [HK.out]) | (go_at_call 144;refine (qQ7 _ _ _).mono ?_;rintro e w2 ⟨rfl,hb2⟩;rw [HT.out];have q3:w2.cell? ⟨wr.heap.size,3,none⟩=some (.int .i64 x.l):=(hb2.cell (p:=⟨wr.heap.size,3,none⟩) (by simp)).trans (by simp);have q4:w2.cell? ⟨wr.heap.size,4,none⟩=some (.int .i64 x.r):=(hb2.cell (p:=⟨wr.heap.size,4,none⟩) (by simp)).trans (by simp)) | fail)
       go_ret
       exact ⟨by rw [E.out];rfl,hnx.trans ((qD5 hb2).mono hnx.size)⟩
    ·have b1:(x.k==1)=false:=by simp [ek]
     obtain ⟨u,hu⟩:∃ u,(decide (0≤x.l)&&decide (x.l≤(k:Int) - 1))=u:=⟨_,rfl⟩
     obtain ⟨v,hv⟩:∃ v,(decide (0≤x.r)&&decide (x.r≤(k:Int) - 1))=v:=⟨_,rfl⟩
     obtain ⟨t,ht⟩:∃ t,eqRo (x.ro,x.rn) (0,0)=t:=⟨_,rfl⟩
     have hp:qJ9 k x=if t=false then 1 else if u=false then 3 else if v=false then 3 else 0:=by
      unfold qJ9
      rw [if_neg (by omega),if_neg ek]
      have h1:t=true↔(x.ro=0∧x.rn=0):=by rw [← ht,qT9];simp
      have h2:u=true↔(0≤x.l∧x.l < (k:Int)):=by rw [← hu];simp;omega
      have h3:v=true↔(0≤x.r∧x.r < (k:Int)):=by rw [← hv];simp;omega
      simp only [← h1,← h2,← h3]
      cases t <;> cases u <;> cases v <;> simp
     have hn:∀ w,(binOp .neq 112 (.agg #[.int .i64 x.ro,.int .i64 x.rn]) (.agg #[.int .i64 0,.int .i64 0])).run Tryz.prog w = .ok (.bool (!t)) w:=fun w=>by rw [← ht];exact ro_neq (x.ro,x.rn) (0,0) w
     have HPP:Hid (qJ9 k x=if t=false then 1 else if u=false then 3 else if v=false then 3 else 0):=hp
     have HU:Hid ((decide (0≤x.l)&&decide (x.l≤(k:Int) - 1))=u):=hu
     have HV:Hid ((decide (0≤x.r)&&decide (x.r≤(k:Int) - 1))=v):=hv
     have A7:Below w.heap.size w ((wr.alloc (.cells #[.int .i64 x.k,.int .i64 x.ro,.int .i64 x.rn,.int .i64 x.l,.int .i64 x.r] 151)).alloc (.cells #[.int .i64 0,.int .i64 0] 112)):=A5.alloc A5.size _
     clear ht0 ek ht hu hv hp
     cases t
     ·have E:Hid (c=1):=HST.out 1 HPP.out (by decide)
      go_wp2_with (first | (go_at_call 51;refine (qL6 _ _ _ _).mono ?_;rintro e w1 ⟨rfl,rfl⟩;rw [HK.out]) | fail)
      go_ret
      exact ⟨by rw [E.out];rfl,A7⟩
     ·cases u
      ·have E:Hid (c=3):=HST.out 3 HPP.out (by decide)
       go_wp2_with (first | (go_at_call 51;refine (qL6 _ _ _ _).mono ?_;rintro e w1 ⟨rfl,rfl⟩;first | rw [HK.out] | rw [HU.out] | rw [HV.out]) | fail)
       go_ret
       exact ⟨by rw [E.out];rfl,A7⟩
      ·cases v
       ·have E:Hid (c=3):=HST.out 3 HPP.out (by decide)
        go_wp2_with (first | (go_at_call 51;refine (qL6 _ _ _ _).mono ?_;rintro e w1 ⟨rfl,rfl⟩;first | rw [HK.out] | rw [HU.out] | rw [HV.out]) | fail)
        go_ret
        exact ⟨by rw [E.out];rfl,A7⟩
       ·have HE:Hid (QH2 zs (k+1)=0):=HN.out.trans HPP.out
        go_wp2_with (first | (go_at_call 51;refine (qL6 _ _ _ _).mono ?_;rintro e w1 ⟨rfl,rfl⟩;first | rw [HK.out] | rw [HU.out] | rw [HV.out]) | fail)
        exact ⟨⟨k+1,by omega,by go_num,HE.out,A7⟩,by simp [intOf];omega⟩
  ·have hkn:k=n:=by omega
   subst hkn
   go_wp2
   go_ret
   exact ⟨by rw [← HC.out,HP.out];rfl,hnx⟩
theorem l4Fault_c (a:Option Addr) (n cap:Nat) (zs:List qD0) (w:World) (hm:n≤maxLen) (h:qC3 w a n zs) :
  Calls Tryz.prog 115 #[.slice a n cap] w fun e w'=>e = .returned (.int .i64 (qN3 zs))∧Below w.heap.size w w':=by
 have hl:=h.1
 unfold maxLen at hm
 have hm':(n:Int)≤9223372036854775807:=by omega
 unfold qN3
 rw [hl]
 by_cases h1:n < 1
 ·have h1':(n:Int) < 1:=by omega
  rw [if_pos h1]
  clear h hl h1
  go_enter Tryz.func115,Tryz.ntmps115
  go_wp2
  go_ret
  exact ⟨rfl,Below.refl _ _⟩
 ·rw [if_neg h1]
  by_cases h8:8 < n
  ·have h1':¬ ((n:Int) < 1):=by omega
   have h8':(8:Int) < (n:Int):=by omega
   rw [if_pos h8]
   clear h hl h1 h8
   go_enter Tryz.func115,Tryz.ntmps115
   go_wp2
   go_ret
   exact ⟨rfl,Below.refl _ _⟩
  ·rw [if_neg h8]
   exact l4Fault_few a n cap zs _ w (by omega) (by omega) h rfl

section
open Go.RowKit Go.ChangeShapes Go.WideShapes
def LkArg (w:World) (a:Option Addr) (len:Nat) (zs:List LkI):Prop:=qJ8 w a len zs∧len≤maxLen
theorem cells64Lk:Tryz.prog.cellsOf 2=1:=by kernel_rfl
theorem Tryz.cells100:Tryz.prog.cellsOf 100=4:=by kernel_rfl
theorem listLk {α:Type} {l:List α} (h:l.length=4):∃ c0 c1 c2 c3,l=[c0,c1,c2,c3]:=by
 match l,h with
 | [c0,c1,c2,c3],_=>exact ⟨c0,c1,c2,c3,rfl⟩
theorem lock_list {H:Type} {enc:TypeId × Value→H} {w:World} {base:Nat} {spare:Nat→Bool} {held:Bool} {fuel:Nat} {cs:List Value} {x:DataW H × List MemPlace} (h:DataW.trod enc Tryz.prog w base spare held fuel 100 cs=some x) :
  ∃ r:LkI,cs=[.int .i64 r.e,.int .i64 r.c,.int .i64 r.p,.int .i64 r.f]:=by
 obtain ⟨xs,n,_,_,hl,hlen,hf⟩:=DataW.trod_struct Tryz.underlying100 h
 rw [Tryz.cells100] at hl
 obtain ⟨c0,c1,c2,c3,rfl⟩:=listLk hl
 obtain ⟨y0,y1,y2,y3,rfl⟩:=listLk hlen
 have h0:=hf 0 _ rfl
 have h1:=hf 1 _ rfl
 have h2:=hf 2 _ rfl
 have h3:=hf 3 _ rfl
 simp [cells64Lk] at h0 h1 h2 h3
 obtain ⟨b0,e0,_,_⟩:=DataW.trod_int Tryz.underlying2 h0
 obtain ⟨b1,e1,_,_⟩:=DataW.trod_int Tryz.underlying2 h1
 obtain ⟨b2,e2,_,_⟩:=DataW.trod_int Tryz.underlying2 h2
 obtain ⟨b3,e3,_,_⟩:=DataW.trod_int Tryz.underlying2 h3
 simp at e0 e1 e2 e3
 subst e0 e1 e2 e3
 exact ⟨⟨b0,b1,b2,b3⟩,rfl⟩
theorem cellsLk {w:World} {base:Nat} {a:Addr} {r:LkI} (h:w.cells? base a 4=some [.int .i64 r.e,.int .i64 r.c,.int .i64 r.p,.int .i64 r.f]):a.spot=none∧QC6 w a.block a.off r:=by
 have e:List.range 4=[0,1,2,3]:=rfl
 unfold World.cells? at h
 split at h
 ·rw [e] at h
  simp only [List.mapM_cons,List.mapM_nil,Option.bind_eq_bind,Option.bind_eq_some_iff,Option.pure_def,Option.some.injEq,List.cons.injEq] at h
  obtain ⟨x0,h0,y0,⟨x1,h1,y1,⟨x2,h2,y2,⟨x3,h3,y3,rfl,e3⟩,e2⟩,e1⟩,e0,ee⟩:=h
  subst e0
  rw [← e1] at ee
  simp only [List.cons.injEq] at ee
  obtain ⟨rfl,ee⟩:=ee
  rw [← e2] at ee
  simp only [List.cons.injEq] at ee
  obtain ⟨rfl,ee⟩:=ee
  rw [← e3] at ee
  simp only [List.cons.injEq] at ee
  obtain ⟨rfl,_⟩:=ee
  obtain ⟨b,off,spot⟩:=a
  have hspot:spot=none:=by simpa [Addr.add] using World.cell?_spot h0
  subst hspot
  simp only [Addr.add] at h0 h1 h2 h3
  exact ⟨rfl,by simpa using h0,by simpa using h1,by simpa using h2,by simpa using h3⟩
 ·cases h
theorem locks_shape {H:Type} {enc:TypeId × Value→H} {w:World} {base:Nat} {spare:Nat→Bool} {held:Bool} {fuel:Nat} {a0:Option Addr} {len cap:Nat} {x:DataW H × List MemPlace} (h:DataW.trod enc Tryz.prog w base spare held fuel 23 [.slice a0 len cap]=some x) :
  ∃ zs:List LkI,LkArg w a0 len zs:=by
 rcases Go.Deep.open_slice Tryz.underlying23 h with ⟨hcs,_⟩ | ⟨a,l,c,m,n,D,Pl,hcs,hb,hl,hm,hmm,_,hel⟩
 ·simp at hcs
  obtain ⟨rfl,rfl,rfl⟩:=hcs
  exact ⟨[],⟨rfl,fun h=>by omega⟩,Nat.zero_le _⟩
 ·simp at hcs
  obtain ⟨rfl,rfl,rfl⟩:=hcs
  have hle:len≤m:=by rw [hmm];split <;> omega
  rw [Tryz.cells100] at hel
  have hk:∀ i,i < len→∃ r:LkI,w.cells? base (a.add (i * 4)) 4=some [.int .i64 r.e,.int .i64 r.c,.int .i64 r.p,.int .i64 r.f]:=fun i hi=>by
   obtain ⟨cs',hc,ht⟩:=hel i (by omega)
   obtain ⟨r,rfl⟩:=lock_list ht
   exact ⟨r,hc⟩
  obtain ⟨f,hf⟩:=Go.Deep.choose_lt hk
  refine ⟨(List.range len).map f,⟨by simp,fun hp=>?_⟩,Nat.le_trans hl hm⟩
  obtain ⟨hsp,_⟩:=cellsLk (hf 0 hp)
  obtain ⟨b,off,spot⟩:=a
  simp [Addr.add] at hsp
  subst hsp
  refine ⟨b,off,rfl,fun k r e=>?_⟩
  have hkl:k < len:=by
   by_cases q:k < len
   ·exact q
   ·rw [List.getElem?_eq_none (by simp;omega)] at e;cases e
  rw [List.getElem?_map,List.getElem?_range hkl] at e
  simp at e
  subst e
  obtain ⟨_,hr⟩:=cellsLk (hf k hkl)
  have : ((⟨b,off,none⟩:Addr).add (k * 4))=⟨b,off+k * 4,none⟩:=Go.WideShapes.add_plain ..
  rw [this] at hr
  exact hr
end

end Go.Proofs.YtlhgjackapdmbaaGreatDoor
