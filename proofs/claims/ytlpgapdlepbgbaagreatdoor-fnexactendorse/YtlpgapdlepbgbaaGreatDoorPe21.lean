/- Contracts. -/
import Derived.Test.YtlpgapdlepbgbaaGreatDoorPe12
import Derived.Test.YtlpgapdlepbgbaaGreatDoorPe15
namespace Go.Proofs.YtlpgapdlepbgbaaGreatDoor
set_option maxRecDepth 100000
set_option maxHeartbeats 8000000
open Go.RowKit
set_option linter.unusedVariables false
set_option linter.unusedSimpArgs false

section
attribute [local go_sem ↓] ro_eql
theorem ro_neq (p q:RoI) (w:World):(binOp .neq 125 (.agg #[.int .i64 p.1,.int .i64 p.2]) (.agg #[.int .i64 q.1,.int .i64 q.2])).run Tryz.prog w = .ok (.bool (!eqRo p q)) w:=by
 obtain ⟨a0,a1⟩:=p
 obtain ⟨b0,b1⟩:=q
 simp only [eqRo]
 cases e0:(a0==b0)
 ·simp [go_sem,e0]
 cases e1:(a1==b1)
 ·simp [go_sem,e0,e1]
 ·simp [go_sem,e0,e1]
theorem qN7 (v lo hi:Int) (w:World):Calls Tryz.prog 51 #[.int .i64 v,.int .i64 lo,.int .i64 hi] w fun e w'=>e = .returned (.bool (decide (lo≤v)&&decide (v≤hi)))∧w=w':=by
 cases h0:decide (lo≤v)
 ·go_enter Tryz.func51,Tryz.ntmps51
  go_wp2
  go_ret
  exact ⟨by simp,rfl⟩
 ·cases h1:decide (v≤hi)
  all_goals
   go_enter Tryz.func51,Tryz.ntmps51
   go_wp2
   go_ret
   exact ⟨by simp,rfl⟩
theorem isAhead_c (v:Int) (k:Nat) (hk:k≤1000) (w:World):Calls Tryz.prog 209 #[.int .i64 v,.int .i64 (k:Int)] w fun e w'=>e = .returned (.bool (decide (0≤v)&&decide (v < (k:Int))))∧w=w':=by
 have hk':(k:Int)≤1000:=by omega
 cases h0:decide (0≤v)
 ·go_enter Tryz.func209,Tryz.ntmps209
  go_wp2
  go_ret
  exact ⟨by simp,rfl⟩
 ·cases h1:decide (v < (k:Int))
  all_goals
   go_enter Tryz.func209,Tryz.ntmps209
   go_wp2
   go_ret
   exact ⟨by simp,rfl⟩
theorem partFault_1 (x:qD0) (k:Nat) (w:World) (hk:k≤1000) (e1:x.k=1) :
  Calls Tryz.prog 195 #[.agg #[.int .i64 x.k,.int .i64 x.ro,.int .i64 x.rn,.int .i64 x.l,.int .i64 x.r],.int .i64 (k:Int)] w fun e w'=>e = .returned (.int .i64 (qK2 k x))∧Below w.heap.size w w':=by
 have hk':(k:Int)≤1000:=by omega
 have b1:(x.k==1)=true:=by simp [e1]
 obtain ⟨t,ht⟩:∃ t,qD3 x.ro x.rn=t:=⟨_,rfl⟩
 cases t
 ·have hp:qK2 k x=3:=by simp [qK2,e1,ht]
  have hc:qF0 x.ro x.rn=3:=by simp [qF0,ht]
  rw [hp]
  clear e1 ht hp
  go_enter Tryz.func195,Tryz.ntmps195
  go_wp2_with (first | (go_at_call 191;refine (qC9 _ _ _).mono ?_;rintro e w1 ⟨rfl,hb1⟩;rw [hc]) | fail)
  go_ret
  exact ⟨rfl,qD5 hb1⟩
 ·have hc:qF0 x.ro x.rn=0:=by simp [qF0,ht]
  obtain ⟨u,hu⟩:∃ u,(x.l != 0)=u:=⟨_,rfl⟩
  obtain ⟨v,hv⟩:∃ v,(x.r != 0)=v:=⟨_,rfl⟩
  have hp:qK2 k x=if (u || v)=true then 1 else 0:=by
   rw [← hu,← hv]
   simp only [qK2,e1,ht]
   by_cases q1:x.l=0 <;> by_cases q2:x.r=0 <;> simp [q1,q2]
  rw [hp]
  clear e1 ht hp
  cases u <;> cases v
  all_goals
   go_enter Tryz.func195,Tryz.ntmps195
   go_wp2_with (first | (go_at_call 191;refine (qC9 _ _ _).mono ?_;rintro e w1 ⟨rfl,hb1⟩;rw [hc];have q3:w1.cell? ⟨w.heap.size,3,none⟩=some (.int .i64 x.l):=(hb1.cell (p:=⟨w.heap.size,3,none⟩) (by simp)).trans (by simp);have q4:w1.cell? ⟨w.heap.size,4,none⟩=some (.int .i64 x.r):=(hb1.cell (p:=⟨w.heap.size,4,none⟩) (by simp)).trans (by simp)) | fail)
   go_ret
   exact ⟨rfl,qD5 hb1⟩
theorem QT9 (x:qD0) (k:Nat) (w:World) (e1:¬ (1≤x.k∧x.k≤3)) :
  Calls Tryz.prog 195 #[.agg #[.int .i64 x.k,.int .i64 x.ro,.int .i64 x.rn,.int .i64 x.l,.int .i64 x.r],.int .i64 (k:Int)] w fun e w'=>e = .returned (.int .i64 (qK2 k x))∧Below w.heap.size w w':=by
 have b1:(x.k==1)=false:=by simp;omega
 have b2:(x.k==2)=false:=by simp;omega
 have b3:(x.k==3)=false:=by simp;omega
 have hp:qK2 k x=1:=by simp only [qK2,if_pos e1]
 rw [hp]
 clear e1 hp
 go_enter Tryz.func195,Tryz.ntmps195
 go_wp2_with fail
 go_ret
 exact ⟨rfl,by go_grown⟩
theorem partFault_2 (x:qD0) (k:Nat) (w:World) (hk:k≤1000) (e1:x.k=2∨x.k=3) :
  Calls Tryz.prog 195 #[.agg #[.int .i64 x.k,.int .i64 x.ro,.int .i64 x.rn,.int .i64 x.l,.int .i64 x.r],.int .i64 (k:Int)] w fun e w'=>e = .returned (.int .i64 (qK2 k x))∧Below w.heap.size w w':=by
 have hk':(k:Int)≤1000:=by omega
 have b1:(x.k==1)=false:=by simp;omega
 obtain ⟨u,hu⟩:∃ u,(decide (0≤x.l)&&decide (x.l < (k:Int)))=u:=⟨_,rfl⟩
 obtain ⟨v,hv⟩:∃ v,(decide (0≤x.r)&&decide (x.r < (k:Int)))=v:=⟨_,rfl⟩
 obtain ⟨t,ht⟩:∃ t,eqRo (x.ro,x.rn) (0,0)=t:=⟨_,rfl⟩
 have hp:qK2 k x=if t=false then 1 else if u=false then 3 else if v=false then 3 else 0:=by
  have ek:¬ x.k=1:=by omega
  unfold qK2
  rw [if_neg (by omega),if_neg ek]
  have h1:t=true↔(x.ro=0∧x.rn=0):=by rw [← ht,qT9];simp
  have h2:u=true↔(0≤x.l∧x.l < (k:Int)):=by rw [← hu];simp
  have h3:v=true↔(0≤x.r∧x.r < (k:Int)):=by rw [← hv];simp
  simp only [← h1,← h2,← h3]
  cases t <;> cases u <;> cases v <;> simp
 rw [hp]
 have hn:∀ w,(binOp .neq 125 (.agg #[.int .i64 x.ro,.int .i64 x.rn]) (.agg #[.int .i64 0,.int .i64 0])).run Tryz.prog w = .ok (.bool (!t)) w:=fun w=>by rw [← ht];exact ro_neq (x.ro,x.rn) (0,0) w
 have HU:Hid ((decide (0≤x.l)&&decide (x.l < (k:Int)))=u):=hu
 have HV:Hid ((decide (0≤x.r)&&decide (x.r < (k:Int)))=v):=hv
 clear hp ht hu hv
 rcases e1 with e1 | e1
 ·have b2:(x.k==2)=true:=by simp;omega
  clear e1
  cases t
  ·go_enter Tryz.func195,Tryz.ntmps195
   go_wp2_with fail
   go_ret
   exact ⟨rfl,by go_grown⟩
  ·cases u <;> cases v
   all_goals
    go_enter Tryz.func195,Tryz.ntmps195
    go_wp2_with (first | (go_at_call 209;refine (isAhead_c _ _ hk _).mono ?_;rintro e w1 ⟨rfl,rfl⟩;first | rw [HU.out] | rw [HV.out]) | fail)
    go_ret
    exact ⟨rfl,by go_grown⟩
 ·have b2:(x.k==2)=false:=by simp;omega
  have b3:(x.k==3)=true:=by simp;omega
  clear e1
  cases t
  ·go_enter Tryz.func195,Tryz.ntmps195
   go_wp2_with fail
   go_ret
   exact ⟨rfl,by go_grown⟩
  ·cases u <;> cases v
   all_goals
    go_enter Tryz.func195,Tryz.ntmps195
    go_wp2_with (first | (go_at_call 209;refine (isAhead_c _ _ hk _).mono ?_;rintro e w1 ⟨rfl,rfl⟩;first | rw [HU.out] | rw [HV.out]) | fail)
    go_ret
    exact ⟨rfl,by go_grown⟩
theorem partFault_c (x:qD0) (k:Nat) (w:World) (hk:k≤1000) :
  Calls Tryz.prog 195 #[.agg #[.int .i64 x.k,.int .i64 x.ro,.int .i64 x.rn,.int .i64 x.l,.int .i64 x.r],.int .i64 (k:Int)] w fun e w'=>e = .returned (.int .i64 (qK2 k x))∧Below w.heap.size w w':=by
 by_cases h:1≤x.k∧x.k≤3
 ·by_cases h1:x.k=1
  ·exact partFault_1 x k w hk h1
  ·exact partFault_2 x k w hk (by omega)
 ·exact QT9 x k w h
theorem QU8 (a:Option Addr) (n cap:Nat) (zs:List qD0) (c:Int) (w:World) (h1:1≤n) (h8:n≤8) (h:qC1 w a n zs) (hc:QH1 zs n=c) :
  Calls Tryz.prog 172 #[.slice a n cap] w fun e w'=>e = .returned (.int .i64 c)∧Below w.heap.size w w':=by
 have H:Hid (qC1 w a n zs):=h
 have HC:Hid (QH1 zs n=c):=hc
 clear h hc
 have hn1:¬ ((n:Int) < 1):=by omega
 have hn8:¬ ((8:Int) < (n:Int)):=by omega
 have hn':(n:Int)≤8:=by omega
 go_enter Tryz.func172,Tryz.ntmps172
 go_wp2
 go_loopw [16] (fun i wr=>∃ k:Nat,k≤n∧i = .int .i64 (k:Int)∧QH1 zs k=0∧Below w.heap.size w wr) (fun i _=>n - (intOf i).toNat)
 case atStart=>exact ⟨0,Nat.zero_le _,rfl,rfl,Below.refl _ _⟩
 case round =>
  obtain ⟨k,hk,rfl,hp,hnx⟩:=hrel
  have HP:Hid (QH1 zs k=0):=hp
  clear hp
  by_cases hlt:k < n
  ·obtain ⟨b,off,x,rfl,hs,hx⟩:=H.out.at hlt
   have HN:Hid (QH1 zs (k+1)=qK2 k x):=QK2 hs HP.out
   clear hs
   obtain ⟨g0,g1,g2,g3,g4⟩:=hx.below hnx
   clear hx
   have hlt':(k:Int) < (n:Int):=by omega
   go_wp2_with fail
   refine (partFault_c x k _ (by omega)).mono ?_
   rintro e w1 ⟨rfl,hb1⟩
   have hnx1:Below w.heap.size w w1:=hnx.trans ((qD5 hb1).mono hnx.size)
   clear hb1 g0 g1 g2 g3 g4
   by_cases hz:qK2 k x=0
   ·have HE:Hid (QH1 zs (k+1)=0):=HN.out.trans hz
    rw [hz]
    clear hz
    go_wp2
    exact ⟨⟨k+1,by omega,by go_num,HE.out,hnx1⟩,by simp [intOf];omega⟩
   ·have E:Hid (c=qK2 k x):=HC.out.symm.trans (QK1 zs (k+1) n _ hz HN.out (by omega))
    have hzb:(qK2 k x != 0)=true:=by simpa using hz
    clear hz
    go_wp2
    go_ret
    exact ⟨by rw [E.out];rfl,hnx1⟩
  ·have hkn:k=n:=by omega
   subst hkn
   go_wp2
   go_ret
   exact ⟨by rw [← HC.out,HP.out];rfl,hnx⟩
theorem qX3 (a:Option Addr) (n cap:Nat) (zs:List qD0) (w:World) (hm:n≤maxLen) (h:qC1 w a n zs) :
  Calls Tryz.prog 172 #[.slice a n cap] w fun e w'=>e = .returned (.int .i64 (qN4 zs))∧Below w.heap.size w w':=by
 have hl:=h.1
 unfold maxLen at hm
 have hm':(n:Int)≤9223372036854775807:=by omega
 unfold qN4
 rw [hl]
 by_cases h1:n < 1
 ·have h1':(n:Int) < 1:=by omega
  rw [if_pos h1]
  clear h hl h1
  go_enter Tryz.func172,Tryz.ntmps172
  go_wp2
  go_ret
  exact ⟨rfl,Below.refl _ _⟩
 ·rw [if_neg h1]
  by_cases h8:8 < n
  ·have h1':¬ ((n:Int) < 1):=by omega
   have h8':(8:Int) < (n:Int):=by omega
   rw [if_pos h8]
   clear h hl h1 h8
   go_enter Tryz.func172,Tryz.ntmps172
   go_wp2
   go_ret
   exact ⟨rfl,Below.refl _ _⟩
  ·rw [if_neg h8]
   exact QU8 a n cap zs _ w (by omega) (by omega) h rfl
end

theorem l4Fault_few (a:Option Addr) (n cap:Nat) (zs:List qD0) (c:Int) (w:World) (h1:1≤n) (h8:n≤8) (h:qC1 w a n zs) (hc:QH1 zs n=c) :
  Calls Tryz.prog 115 #[.slice a n cap] w fun e w'=>e = .returned (.int .i64 c)∧Below w.heap.size w w':=by
 have H:Hid (qC1 w a n zs):=h
 have HC:Hid (QH1 zs n=c):=hc
 clear h hc
 have hn1:¬ ((n:Int) < 1):=by omega
 have hn8:¬ ((8:Int) < (n:Int)):=by omega
 have hn':(n:Int)≤8:=by omega
 go_enter Tryz.func115,Tryz.ntmps115
 go_wp2
 go_loopw [3] (fun i wr=>∃ k:Nat,k≤n∧i = .int .i64 (k:Int)∧QH1 zs k=0∧Below w.heap.size w wr) (fun i _=>n - (intOf i).toNat)
 case atStart=>exact ⟨0,Nat.zero_le _,rfl,rfl,Below.refl _ _⟩
 case round =>
  obtain ⟨k,hk,rfl,hp,hnx⟩:=hrel
  have HP:Hid (QH1 zs k=0):=hp
  clear hp
  by_cases hlt:k < n
  ·obtain ⟨b,off,x,rfl,hs,hx⟩:=H.out.at hlt
   have HN:Hid (QH1 zs (k+1)=qK2 k x):=QK2 hs HP.out
   have HST:Hid (∀ d:Int,qK2 k x=d→d≠0→c=d):=fun d e q=>HC.out.symm.trans (QK1 zs (k+1) n d q (HN.out.trans e) (by omega))
   clear hs
   obtain ⟨g0,g1,g2,g3,g4⟩:=hx.below hnx
   clear hx
   have hlt':(k:Int) < (n:Int):=by omega
   have hk8:(k:Int)≤8:=by omega
   have A5:Below w.heap.size w (wr.alloc (.cells #[.int .i64 x.k,.int .i64 x.ro,.int .i64 x.rn,.int .i64 x.l,.int .i64 x.r] 166)):=hnx.alloc hnx.size _
   obtain ⟨t0,ht0⟩:∃ t0,(decide (1≤x.k)&&decide (x.k≤3))=t0:=⟨_,rfl⟩
   have HK:Hid ((decide (1≤x.k)&&decide (x.k≤3))=t0):=ht0
   cases t0
   ·have E:Hid (c=1):=HST.out 1 (by unfold qK2;rw [if_pos (by simp at ht0;omega)]) (by decide)
    clear ht0
    go_wp2_with (first | (go_at_call 51;refine (qN7 _ _ _ _).mono ?_;rintro e w1 ⟨rfl,rfl⟩;rw [HK.out]) | fail)
    go_ret
    exact ⟨by rw [E.out];rfl,A5⟩
   ·simp at ht0
    by_cases ek:x.k=1
    ·have b1:(x.k==1)=true:=by simp [ek]
     obtain ⟨t,ht⟩:∃ t,qD3 x.ro x.rn=t:=⟨_,rfl⟩
     have HT:Hid (qD3 x.ro x.rn=t):=ht
     cases t
     ·have E:Hid (c=3):=HST.out 3 (by simp [qK2,ek,ht]) (by decide)
      clear ht0 ek ht
      go_wp2_with (first | (go_at_call 51;refine (qN7 _ _ _ _).mono ?_;rintro e w1 ⟨rfl,rfl⟩;rw [HK.out]) | (go_at_call 143;refine (qR0 _ _ _).mono ?_;rintro e w2 ⟨rfl,hb2⟩;rw [HT.out]) | fail)
      go_ret
      exact ⟨by rw [E.out];rfl,hnx.trans ((qD5 hb2).mono hnx.size)⟩
     ·obtain ⟨u,hu⟩:∃ u,(x.l != 0)=u:=⟨_,rfl⟩
      obtain ⟨v,hv⟩:∃ v,(x.r != 0)=v:=⟨_,rfl⟩
      have hp:qK2 k x=if (u || v)=true then 1 else 0:=by
       rw [← hu,← hv]
       simp only [qK2,ek,ht]
       by_cases q1:x.l=0 <;> by_cases q2:x.r=0 <;> simp [q1,q2]
      have HPP:Hid (qK2 k x=if (u || v)=true then 1 else 0):=hp
      clear ht0 ek ht hp
      cases u <;> cases v
      ·have HE:Hid (QH1 zs (k+1)=0):=HN.out.trans HPP.out
       go_wp2_with (first | (go_at_call 51;refine (qN7 _ _ _ _).mono ?_;rintro e w1 ⟨rfl,rfl⟩;rw [HK.out]) | (go_at_call 143;refine (qR0 _ _ _).mono ?_;rintro e w2 ⟨rfl,hb2⟩;rw [HT.out];have q3:w2.cell? ⟨wr.heap.size,3,none⟩=some (.int .i64 x.l):=(hb2.cell (p:=⟨wr.heap.size,3,none⟩) (by simp)).trans (by simp);have q4:w2.cell? ⟨wr.heap.size,4,none⟩=some (.int .i64 x.r):=(hb2.cell (p:=⟨wr.heap.size,4,none⟩) (by simp)).trans (by simp)) | fail)
       exact ⟨⟨k+1,by omega,by go_num,HE.out,hnx.trans ((qD5 hb2).mono hnx.size)⟩,by simp [intOf];omega⟩
      all_goals
       have E:Hid (c=1):=HST.out 1 HPP.out (by decide)
       go_wp2_with (first | (go_at_call 51;refine (qN7 _ _ _ _).mono ?_;rintro e w1 ⟨rfl,rfl⟩;rw [HK.out]) | (go_at_call 143;refine (qR0 _ _ _).mono ?_;rintro e w2 ⟨rfl,hb2⟩;rw [HT.out];have q3:w2.cell? ⟨wr.heap.size,3,none⟩=some (.int .i64 x.l):=(hb2.cell (p:=⟨wr.heap.size,3,none⟩) (by simp)).trans (by simp);have q4:w2.cell? ⟨wr.heap.size,4,none⟩=some (.int .i64 x.r):=(hb2.cell (p:=⟨wr.heap.size,4,none⟩) (by simp)).trans (by simp)) | fail)
       go_ret
       exact ⟨by rw [E.out];rfl,hnx.trans ((qD5 hb2).mono hnx.size)⟩
    ·have b1:(x.k==1)=false:=by simp [ek]
     obtain ⟨u,hu⟩:∃ u,(decide (0≤x.l)&&decide (x.l≤(k:Int) - 1))=u:=⟨_,rfl⟩
     obtain ⟨v,hv⟩:∃ v,(decide (0≤x.r)&&decide (x.r≤(k:Int) - 1))=v:=⟨_,rfl⟩
     obtain ⟨t,ht⟩:∃ t,eqRo (x.ro,x.rn) (0,0)=t:=⟨_,rfl⟩
     have hp:qK2 k x=if t=false then 1 else if u=false then 3 else if v=false then 3 else 0:=by
      unfold qK2
      rw [if_neg (by omega),if_neg ek]
      have h1:t=true↔(x.ro=0∧x.rn=0):=by rw [← ht,qT9];simp
      have h2:u=true↔(0≤x.l∧x.l < (k:Int)):=by rw [← hu];simp;omega
      have h3:v=true↔(0≤x.r∧x.r < (k:Int)):=by rw [← hv];simp;omega
      simp only [← h1,← h2,← h3]
      cases t <;> cases u <;> cases v <;> simp
     have hn:∀ w,(binOp .neq 125 (.agg #[.int .i64 x.ro,.int .i64 x.rn]) (.agg #[.int .i64 0,.int .i64 0])).run Tryz.prog w = .ok (.bool (!t)) w:=fun w=>by rw [← ht];exact ro_neq (x.ro,x.rn) (0,0) w
     have HPP:Hid (qK2 k x=if t=false then 1 else if u=false then 3 else if v=false then 3 else 0):=hp
     have HU:Hid ((decide (0≤x.l)&&decide (x.l≤(k:Int) - 1))=u):=hu
     have HV:Hid ((decide (0≤x.r)&&decide (x.r≤(k:Int) - 1))=v):=hv
     have A7:Below w.heap.size w ((wr.alloc (.cells #[.int .i64 x.k,.int .i64 x.ro,.int .i64 x.rn,.int .i64 x.l,.int .i64 x.r] 166)).alloc (.cells #[.int .i64 0,.int .i64 0] 125)):=A5.alloc A5.size _
     clear ht0 ek ht hu hv hp
     cases t
     ·have E:Hid (c=1):=HST.out 1 HPP.out (by decide)
      go_wp2_with (first | (go_at_call 51;refine (qN7 _ _ _ _).mono ?_;rintro e w1 ⟨rfl,rfl⟩;rw [HK.out]) | fail)
      go_ret
      exact ⟨by rw [E.out];rfl,A7⟩
     ·cases u
      ·have E:Hid (c=3):=HST.out 3 HPP.out (by decide)
       go_wp2_with (first | (go_at_call 51;refine (qN7 _ _ _ _).mono ?_;rintro e w1 ⟨rfl,rfl⟩;first | rw [HK.out] | rw [HU.out] | rw [HV.out]) | fail)
       go_ret
       exact ⟨by rw [E.out];rfl,A7⟩
      ·cases v
       ·have E:Hid (c=3):=HST.out 3 HPP.out (by decide)
        go_wp2_with (first | (go_at_call 51;refine (qN7 _ _ _ _).mono ?_;rintro e w1 ⟨rfl,rfl⟩;first | rw [HK.out] | rw [HU.out] | rw [HV.out]) | fail)
        go_ret
        exact ⟨by rw [E.out];rfl,A7⟩
       ·have HE:Hid (QH1 zs (k+1)=0):=HN.out.trans HPP.out
        go_wp2_with (first | (go_at_call 51;refine (qN7 _ _ _ _).mono ?_;rintro e w1 ⟨rfl,rfl⟩;first | rw [HK.out] | rw [HU.out] | rw [HV.out]) | fail)
        exact ⟨⟨k+1,by omega,by go_num,HE.out,A7⟩,by simp [intOf];omega⟩
  ·have hkn:k=n:=by omega
   subst hkn
   go_wp2
   go_ret
   exact ⟨by rw [← HC.out,HP.out];rfl,hnx⟩
theorem l4Fault_c (a:Option Addr) (n cap:Nat) (zs:List qD0) (w:World) (hm:n≤maxLen) (h:qC1 w a n zs) :
  Calls Tryz.prog 115 #[.slice a n cap] w fun e w'=>e = .returned (.int .i64 (qN4 zs))∧Below w.heap.size w w':=by
 have hl:=h.1
 unfold maxLen at hm
 have hm':(n:Int)≤9223372036854775807:=by omega
 unfold qN4
 rw [hl]
 by_cases h1:n < 1
 ·have h1':(n:Int) < 1:=by omega
  rw [if_pos h1]
  clear h hl h1
  go_enter Tryz.func115,Tryz.ntmps115
  go_wp2
  go_ret
  exact ⟨rfl,Below.refl _ _⟩
 ·rw [if_neg h1]
  by_cases h8:8 < n
  ·have h1':¬ ((n:Int) < 1):=by omega
   have h8':(8:Int) < (n:Int):=by omega
   rw [if_pos h8]
   clear h hl h1 h8
   go_enter Tryz.func115,Tryz.ntmps115
   go_wp2
   go_ret
   exact ⟨rfl,Below.refl _ _⟩
  ·rw [if_neg h8]
   exact l4Fault_few a n cap zs _ w (by omega) (by omega) h rfl

end Go.Proofs.YtlpgapdlepbgbaaGreatDoor
