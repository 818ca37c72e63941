/- Contracts. -/
import Derived.Test.YthogdfnaojijhaaGreatPa14
namespace Go.Proofs.YthogdfnaojijhaaGreat
set_option maxRecDepth 100000
set_option maxHeartbeats 8000000
open Go.RowKit
set_option linter.unusedVariables false
set_option linter.unusedSimpArgs false

theorem QR2 (a:Option Addr) (n cap:Nat) (zs:List qB3) (c:Int) (w:World) (h1:1≤n) (h8:n≤8) (h:qA9 w a n zs) (hc:qW9 zs n=c) :
  Calls Tryz.prog 140 #[.slice a n cap] w fun e w'=>e = .returned (.int .i64 c)∧Below w.heap.size w w':=by
 have H:Hid (qA9 w a n zs):=h
 have HC:Hid (qW9 zs n=c):=hc
 clear h hc
 have hn1:¬ ((n:Int) < 1):=by omega
 have hn8:¬ ((8:Int) < (n:Int)):=by omega
 have hn':(n:Int)≤8:=by omega
 go_enter Tryz.func140,Tryz.ntmps140
 go_wp2
 go_loopw [3] (fun i wr=>∃ k:Nat,k≤n∧i = .int .i64 (k:Int)∧qW9 zs k=0∧Below w.heap.size w wr) (fun i _=>n - (intOf i).toNat)
 case atStart=>exact ⟨0,Nat.zero_le _,rfl,rfl,Below.refl _ _⟩
 case round =>
  obtain ⟨k,hk,rfl,hp,hnx⟩:=hrel
  have HP:Hid (qW9 zs k=0):=hp
  clear hp
  by_cases hlt:k < n
  ·obtain ⟨b,off,x,rfl,hs,hx⟩:=H.out.at hlt
   have HN:Hid (qW9 zs (k+1)=qE5 k x):=qY9 hs HP.out
   have HST:Hid (∀ d:Int,qE5 k x=d→d≠0→c=d):=fun d e q=>HC.out.symm.trans (qY8 zs (k+1) n d q (HN.out.trans e) (by omega))
   clear hs
   obtain ⟨g0,g1,g2,g3,g4⟩:=hx.below hnx
   clear hx
   have hlt':(k:Int) < (n:Int):=by omega
   have hk8:(k:Int)≤8:=by omega
   have A5:Below w.heap.size w (wr.alloc (.cells #[.int .i64 x.k,.int .i64 x.ro,.int .i64 x.rn,.int .i64 x.l,.int .i64 x.r] 193)):=hnx.alloc hnx.size _
   obtain ⟨t0,ht0⟩:∃ t0,(decide (1≤x.k)&&decide (x.k≤3))=t0:=⟨_,rfl⟩
   have HK:Hid ((decide (1≤x.k)&&decide (x.k≤3))=t0):=ht0
   cases t0
   ·have E:Hid (c=1):=HST.out 1 (by unfold qE5;rw [if_pos (by simp at ht0;omega)]) (by decide)
    clear ht0
    go_wp2_with (first | (go_at_call 65;refine (qW2 _ _ _ _).mono ?_;rintro e w1 ⟨rfl,rfl⟩;rw [HK.out]) | fail)
    go_ret
    exact ⟨by rw [E.out];rfl,A5⟩
   ·simp at ht0
    by_cases ek:x.k=1
    ·have b1:(x.k==1)=true:=by simp [ek]
     obtain ⟨t,ht⟩:∃ t,qB4 x.ro x.rn=t:=⟨_,rfl⟩
     have HT:Hid (qB4 x.ro x.rn=t):=ht
     cases t
     ·have E:Hid (c=3):=HST.out 3 (by simp [qE5,ek,ht]) (by decide)
      clear ht0 ek ht
      go_wp2_with (first | (go_at_call 65;refine (qW2 _ _ _ _).mono ?_;rintro e w1 ⟨rfl,rfl⟩;rw [HK.out]) | (go_at_call 166;refine (qK0 _ _ _).mono ?_;rintro e w2 ⟨rfl,hb2⟩;rw [HT.out]) | fail)
      go_ret
      exact ⟨by rw [E.out];rfl,hnx.trans ((qC0 hb2).mono hnx.size)⟩
     ·obtain ⟨u,hu⟩:∃ u,(x.l != 0)=u:=⟨_,rfl⟩
      obtain ⟨v,hv⟩:∃ v,(x.r != 0)=v:=⟨_,rfl⟩
      have hp:qE5 k x=if (u || v)=true then 1 else 0:=by
       rw [← hu,← hv]
       simp only [qE5,ek,ht]
       by_cases q1:x.l=0 <;> by_cases q2:x.r=0 <;> simp [q1,q2]
      have HPP:Hid (qE5 k x=if (u || v)=true then 1 else 0):=hp
      clear ht0 ek ht hp
      cases u <;> cases v
      ·have HE:Hid (qW9 zs (k+1)=0):=HN.out.trans HPP.out
       go_wp2_with (first | (go_at_call 65;refine (qW2 _ _ _ _).mono ?_;rintro e w1 ⟨rfl,rfl⟩;rw [HK.out]) | (go_at_call 166;refine (qK0 _ _ _).mono ?_;rintro e w2 ⟨rfl,hb2⟩;rw [HT.out];have q3:w2.cell? ⟨wr.heap.size,3,none⟩=some (.int .i64 x.l):=(hb2.cell (p:=⟨wr.heap.size,3,none⟩) (by simp)).trans (by simp);have q4:w2.cell? ⟨wr.heap.size,4,none⟩=some (.int .i64 x.r):=(hb2.cell (p:=⟨wr.heap.size,4,none⟩) (by simp)).trans (by simp)) | fail)
       exact ⟨⟨k+1,by omega,by go_num,HE.out,hnx.trans ((qC0 hb2).mono hnx.size)⟩,by simp [intOf];omega⟩
      all_goals
       have E:Hid (c=1):=HST.out 1 HPP.out (by decide)
       go_wp2_with (first | (go_at_call 65;refine (qW2 _ _ _ _).mono ?_;rintro e w1 ⟨rfl,rfl⟩;rw [HK.out]) | (go_at_call 166;refine (qK0 _ _ _).mono ?_;rintro e w2 ⟨rfl,hb2⟩;rw [HT.out];have q3:w2.cell? ⟨wr.heap.size,3,none⟩=some (.int .i64 x.l):=(hb2.cell (p:=⟨wr.heap.size,3,none⟩) (by simp)).trans (by simp);have q4:w2.cell? ⟨wr.heap.size,4,none⟩=some (.int .i64 x.r):=(hb2.cell (p:=⟨wr.heap.size,4,none⟩) (by simp)).trans (by simp)) | fail)
       go_ret
       exact ⟨by rw [E.out];rfl,hnx.trans ((qC0 hb2).mono hnx.size)⟩
    ·have b1:(x.k==1)=false:=by simp [ek]
     obtain ⟨u,hu⟩:∃ u,(decide (0≤x.l)&&decide (x.l≤(k:Int) - 1))=u:=⟨_,rfl⟩
     obtain ⟨v,hv⟩:∃ v,(decide (0≤x.r)&&decide (x.r≤(k:Int) - 1))=v:=⟨_,rfl⟩
     obtain ⟨t,ht⟩:∃ t,eqRo (x.ro,x.rn) (0,0)=t:=⟨_,rfl⟩
     have hp:qE5 k x=if t=false then 1 else if u=false then 3 else if v=false then 3 else 0:=by
      unfold qE5
      rw [if_neg (by omega),if_neg ek]
      have h1:t=true↔(x.ro=0∧x.rn=0):=by rw [← ht,qM1];simp
      have h2:u=true↔(0≤x.l∧x.l < (k:Int)):=by rw [← hu];simp;omega
      have h3:v=true↔(0≤x.r∧x.r < (k:Int)):=by rw [← hv];simp;omega
      simp only [← h1,← h2,← h3]
      cases t <;> cases u <;> cases v <;> simp
     have hn:∀ w,(binOp .neq 147 (.agg #[.int .i64 x.ro,.int .i64 x.rn]) (.agg #[.int .i64 0,.int .i64 0])).run Tryz.prog w = .ok (.bool (!t)) w:=fun w=>by rw [← ht];exact ro_neq (x.ro,x.rn) (0,0) w
     have HPP:Hid (qE5 k x=if t=false then 1 else if u=false then 3 else if v=false then 3 else 0):=hp
     have HU:Hid ((decide (0≤x.l)&&decide (x.l≤(k:Int) - 1))=u):=hu
     have HV:Hid ((decide (0≤x.r)&&decide (x.r≤(k:Int) - 1))=v):=hv
     have A7:Below w.heap.size w ((wr.alloc (.cells #[.int .i64 x.k,.int .i64 x.ro,.int .i64 x.rn,.int .i64 x.l,.int .i64 x.r] 193)).alloc (.cells #[.int .i64 0,.int .i64 0] 147)):=A5.alloc A5.size _
     clear ht0 ek ht hu hv hp
     cases t
     ·have E:Hid (c=1):=HST.out 1 HPP.out (by decide)
      go_wp2_with (first | (go_at_call 65;refine (qW2 _ _ _ _).mono ?_;rintro e w1 ⟨rfl,rfl⟩;rw [HK.out]) | fail)
      go_ret
      exact ⟨by rw [E.out];rfl,A7⟩
     ·cases u
      ·have E:Hid (c=3):=HST.out 3 HPP.out (by decide)
       go_wp2_with (first | (go_at_call 65;refine (qW2 _ _ _ _).mono ?_;rintro e w1 ⟨rfl,rfl⟩;first | rw [HK.out] | rw [HU.out] | rw [HV.out]) | fail)
       go_ret
       exact ⟨by rw [E.out];rfl,A7⟩
      ·cases v
       ·have E:Hid (c=3):=HST.out 3 HPP.out (by decide)
        go_wp2_with (first | (go_at_call 65;refine (qW2 _ _ _ _).mono ?_;rintro e w1 ⟨rfl,rfl⟩;first | rw [HK.out] | rw [HU.out] | rw [HV.out]) | fail)
        go_ret
        exact ⟨by rw [E.out];rfl,A7⟩
       ·have HE:Hid (qW9 zs (k+1)=0):=HN.out.trans HPP.out
        go_wp2_with (first | (go_at_call 65;refine (qW2 _ _ _ _).mono ?_;rintro e w1 ⟨rfl,rfl⟩;first | rw [HK.out] | rw [HU.out] | rw [HV.out]) | fail)
        exact ⟨⟨k+1,by omega,by go_num,HE.out,A7⟩,by simp [intOf];omega⟩
  ·have hkn:k=n:=by omega
   subst hkn
   go_wp2
   go_ret
   exact ⟨by rw [← HC.out,HP.out];rfl,hnx⟩
theorem l4Fault_c (a:Option Addr) (n cap:Nat) (zs:List qB3) (w:World) (hm:n≤maxLen) (h:qA9 w a n zs) :
  Calls Tryz.prog 140 #[.slice a n cap] w fun e w'=>e = .returned (.int .i64 (qH0 zs))∧Below w.heap.size w w':=by
 have hl:=h.1
 unfold maxLen at hm
 have hm':(n:Int)≤9223372036854775807:=by omega
 unfold qH0
 rw [hl]
 by_cases h1:n < 1
 ·have h1':(n:Int) < 1:=by omega
  rw [if_pos h1]
  clear h hl h1
  go_enter Tryz.func140,Tryz.ntmps140
  go_wp2
  go_ret
  exact ⟨rfl,Below.refl _ _⟩
 ·rw [if_neg h1]
  by_cases h8:8 < n
  ·have h1':¬ ((n:Int) < 1):=by omega
   have h8':(8:Int) < (n:Int):=by omega
   rw [if_pos h8]
   clear h hl h1 h8
   go_enter Tryz.func140,Tryz.ntmps140
   go_wp2
   go_ret
   exact ⟨rfl,Below.refl _ _⟩
  ·rw [if_neg h8]
   exact QR2 a n cap zs _ w (by omega) (by omega) h rfl

end Go.Proofs.YthogdfnaojijhaaGreat
