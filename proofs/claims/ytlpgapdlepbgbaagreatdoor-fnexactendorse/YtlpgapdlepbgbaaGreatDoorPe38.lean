/- Contracts. -/
import Derived.Test.YtlpgapdlepbgbaaGreatDoorPe37
namespace Go.Proofs.YtlpgapdlepbgbaaGreatDoor
set_option maxRecDepth 100000
set_option maxHeartbeats 8000000
open Go.RowKit
set_option linter.unusedVariables false
set_option linter.unusedSimpArgs false

theorem qJ7 (a:Option Addr) (n cap:Nat) (cs:List qA4) (w:World) (hn:n≤1048576) (hle:qF5 1048576 cs) (h:qA7 w a n cs) :
  Calls Tryz.prog 63 #[.slice a n cap] w fun e w'=>e = .returned (.int .i64 (qB8 cs))∧Below w.heap.size w w':=by
 have H:Hid (qA7 w a n cs):=h
 have HLE:Hid (qF5 1048576 cs):=hle
 have HZ:Hid (cs.length=n):=h.len
 have hn':(n:Int)≤1048576:=by omega
 clear h hle
 by_cases h1:n < 1
 ·have HC:Hid (qB8 cs=2):=by show qB8 cs=2;unfold qB8;rw [if_pos (.inl (by rw [HZ.out];exact h1))]
  have hn0:n=0:=by omega
  subst hn0
  rw [HC.out]
  go_enter Tryz.func63,Tryz.ntmps63
  go_wp2
  go_ret
  exact ⟨rfl,Below.refl _ _⟩
 ·by_cases h8:8 < n
  ·have HC:Hid (qB8 cs=2):=by show qB8 cs=2;unfold qB8;rw [if_pos (.inr (by rw [HZ.out];exact h8))]
   have h1':¬ ((n:Int) < 1):=by omega
   have h8':(8:Int) < (n:Int):=by omega
   rw [HC.out]
   go_enter Tryz.func63,Tryz.ntmps63
   go_wp2
   go_ret
   exact ⟨rfl,Below.refl _ _⟩
  ·have h1':¬ ((n:Int) < 1):=by omega
   have h8':¬ ((8:Int) < (n:Int)):=by omega
   have HC:Hid (qB8 cs=qK3 cs n):=by show qB8 cs=_;unfold qB8;rw [if_neg (by rw [HZ.out];omega),HZ.out]
   obtain ⟨b0,off0,c0,rfl,hc0,hat0,_⟩:=H.out.at (show 0 < n by omega)
   have HC0:Hid ((cs[0]?.getD default).f=c0.f):=by show (cs[0]?.getD default).f=_;rw [hc0];rfl
   have HAT0:Hid (qI9 w b0 off0 c0):=by have:=hat0;rw [Nat.zero_mul,Nat.add_zero] at this;exact this
   clear hc0 hat0
   rw [HC.out]
   go_enter Tryz.func63,Tryz.ntmps63
   go_wp2
   go_loopw [16] (fun i wr=>∃ k:Nat,k≤n∧i = .int .i64 (k:Int)∧qK3 cs k=0∧Below w.heap.size w wr) (fun i _=>n - (intOf i).toNat)
   case atStart=>exact ⟨0,Nat.zero_le _,rfl,rfl,Below.refl _ _⟩
   case round =>
    obtain ⟨k,hk,rfl,hz,hnx⟩:=hrel
    have HK0:Hid (qK3 cs k=0):=hz
    clear hz
    by_cases hlt:k < n
    ·obtain ⟨b,off,c,e,hc,hat,hin⟩:=H.out.at hlt
     cases e
     have hlt':(k:Int) < (n:Int):=by omega
     have hA:=hat.below hnx
     have hl:=hA.lt
     obtain ⟨u0,u1,u2,u3,u4⟩:=hA
     have HN:Hid (qK3 cs (k+1)=if qU8 c=0 then (if c.f=c0.f then 0 else 1) else qU8 c):=by show qK3 cs (k+1)=_;rw [QA4 hc HK0.out,HC0.out]
     obtain ⟨V,hV⟩:∃ V,V=wr.alloc (.cells #[.int .i64 c.e,.int .i64 c.f,.slice c.ra c.rn c.rc,.slice c.fa c.fn c.fc,.slice c.ca c.cn c.cc] 71):=⟨_,rfl⟩
     have BV:Below wr.heap.size wr V:=by rw [hV];exact zN
     have BW:Below w.heap.size w V:=hnx.trans (BV.mono hnx.size)
     have KV:Hid (qQ7 V wr.heap.size c):=by rw [hV];exact qQ7.new wr c _
     obtain ⟨q,hq⟩:∃ q,qU8 c=q:=⟨_,rfl⟩
     rw [hq] at HN
     have HQ:Hid (Calls Tryz.prog 90 #[.agg #[.int .i64 c.e,.int .i64 c.f,.slice c.ra c.rn c.rc,.slice c.fa c.fn c.fc,.slice c.ca c.cn c.cc]] V fun e w'=>e = .returned (.int .i64 q)∧Below V.heap.size V w'):=by rw [← hq];exact qV9 c V (HLE.out.le k c hc) (HLE.out.rc k c hc).1 (HLE.out.rc k c hc).2 (hin.below BW)
     clear hq hc hat hin
     go_wp2_with fail
     rw [← hV]
     clear hV u0 u1 u2 u3 u4
     refine HQ.out.mono ?_
     rintro e w1 ⟨rfl,hb1⟩
     have B1:Below w.heap.size w w1:=BW.trans (hb1.mono BW.size)
     by_cases q0:q=0
     ·have qb:(q != 0)=false:=by simp [q0]
      rw [if_pos q0] at HN
      have hK:=KV.out.below hb1
      have hl1:=hK.lt
      obtain ⟨x0,x1,_⟩:=hK
      have hB1:=HAT0.out.below B1
      have hl0:=hB1.lt
      obtain ⟨y0,y1,_⟩:=hB1
      by_cases hf:c.f=c0.f
      ·have fb:(c.f != c0.f)=false:=by simp [hf]
       rw [if_pos hf] at HN
       clear q0 hf
       go_wp2
       go_quiet (fail)
       go_wp2
       exact ⟨⟨k+1,by omega,by go_num,HN.out,below_drewN B1 _⟩,by simp [intOf];omega⟩
      ·have fb:(c.f != c0.f)=true:=by simp [hf]
       rw [if_neg hf] at HN
       have HE:Hid (qK3 cs n=1):=qR9 cs (k+1) n 1 (by omega) HN.out (by omega)
       clear q0 hf
       go_wp2
       go_quiet (fail)
       go_wp2
       go_ret
       exact ⟨by rw [HE.out];rfl,below_drewN B1 _⟩
     ·have qb:(q != 0)=true:=by simp [q0]
      rw [if_neg q0] at HN
      have HE:Hid (qK3 cs n=q):=qR9 cs (k+1) n q q0 HN.out (by omega)
      clear q0
      go_wp2
      go_ret
      exact ⟨by rw [HE.out];rfl,B1⟩
    ·have hkn:k=n:=by omega
     have hlt':¬ ((k:Int) < (n:Int)):=by omega
     have HE:Hid (qK3 cs n=0):=by rw [← hkn];exact HK0.out
     clear hkn
     go_wp2
     go_ret
     exact ⟨by rw [HE.out];rfl,hnx⟩

theorem QB4 (i u:Int) (sa sa':Option Addr) (n c c':Nat) (ss:List StI) (la la':Option Addr) (m d d':Nat) (ls:List LkI) (w:World) (hn:n≤1048576) (hm:m≤1048576) (h1:qM5 w sa n ss) (h2:qM5 w sa' n ss) (h3:qK1 w la m ls) (h4:qK1 w la' m ls) :
  Calls Tryz.prog 14 #[.agg #[.int .i64 i,.int .i64 u,.slice sa n c,.slice la m d],.agg #[.int .i64 i,.int .i64 u,.slice sa' n c',.slice la' m d']] w fun e w'=>e = .returned (.bool true)∧Below w.heap.size w w':=by
 obtain ⟨V,hV⟩:∃ V,V=(w.alloc (.cells #[.int .i64 i,.int .i64 u,.slice sa n c,.slice la m d] 33)).alloc (.cells #[.int .i64 i,.int .i64 u,.slice sa' n c',.slice la' m d'] 33):=⟨_,rfl⟩
 have B0:Below w.heap.size w V:=by rw [hV];exact (zN).alloc (by simp) _
 have x2:V.cell? ⟨w.heap.size,3,none⟩=some (.slice la m d):=by rw [hV];simp
 have y2:V.cell? ⟨w.heap.size+1,3,none⟩=some (.slice la' m d'):=by rw [hV];simp
 have hz:V.heap.size=w.heap.size+1+1:=by rw [hV];simp
 have HS:Hid (Calls Tryz.prog 38 #[.slice sa n c,.slice sa' n c'] V fun e w'=>e = .returned (.bool true)∧Below V.heap.size V w'):=QF7 sa sa' n c c' ss V hn (h1.below B0) (h2.below B0)
 have HL:Hid (∀ w2,Below w.heap.size w w2→Calls Tryz.prog 39 #[.slice la m d,.slice la' m d'] w2 fun e w'=>e = .returned (.bool true)∧Below w2.heap.size w2 w'):=fun w2 hb=>eqLocks_same la la' m d d' ls w2 hm (h3.below hb) (h4.below hb)
 have XX:Hid (V.cell? ⟨w.heap.size,3,none⟩=some (.slice la m d)∧V.cell? ⟨w.heap.size+1,3,none⟩=some (.slice la' m d')∧V.heap.size=w.heap.size+1+1):=⟨x2,y2,hz⟩
 clear h1 h2 h3 h4 x2 y2 hz
 go_enter Tryz.func14,Tryz.ntmps14
 go_wp2_with fail
 rw [← hV]
 clear hV
 refine HS.out.mono ?_
 rintro e w1 ⟨rfl,hb1⟩
 obtain ⟨x3,y3,hz⟩:=XX.out
 have x3:=(hb1.cell (p:=⟨w.heap.size,3,none⟩) (by show w.heap.size < V.heap.size;omega)).trans x3
 have y3:=(hb1.cell (p:=⟨w.heap.size+1,3,none⟩) (by show w.heap.size+1 < V.heap.size;omega)).trans y3
 have B1:=B0.trans (hb1.mono B0.size)
 have l1:w.heap.size < w1.heap.size:=by have:=hb1.size;omega
 have l2:w.heap.size+1 < w1.heap.size:=by have:=hb1.size;omega
 clear hz hb1
 go_wp2_with fail
 refine (HL.out _ B1).mono ?_
 rintro e w2 ⟨rfl,hb2⟩
 clear x3 y3 l1 l2
 go_wp2
 go_ret
 exact ⟨rfl,B1.trans (hb2.mono B1.size)⟩
theorem qZ1 (k i u:Int) (sa sa':Option Addr) (n c c':Nat) (ss:List StI) (la la':Option Addr) (m d d':Nat) (ls:List LkI) (w:World) (hn:n≤1048576) (hm:m≤1048576) (h1:qM5 w sa n ss) (h2:qM5 w sa' n ss) (h3:qK1 w la m ls) (h4:qK1 w la' m ls) :
  Calls Tryz.prog 19 #[.agg #[.int .i64 k,.int .i64 i,.int .i64 u,.slice sa n c,.slice la m d],.agg #[.int .i64 k,.int .i64 i,.int .i64 u,.slice sa' n c',.slice la' m d']] w fun e w'=>e = .returned (.bool true)∧Below w.heap.size w w':=by
 obtain ⟨V,hV⟩:∃ V,V=(w.alloc (.cells #[.int .i64 k,.int .i64 i,.int .i64 u,.slice sa n c,.slice la m d] 43)).alloc (.cells #[.int .i64 k,.int .i64 i,.int .i64 u,.slice sa' n c',.slice la' m d'] 43):=⟨_,rfl⟩
 have B0:Below w.heap.size w V:=by rw [hV];exact (zN).alloc (by simp) _
 have HS:Hid (Calls Tryz.prog 14 #[.agg #[.int .i64 i,.int .i64 u,.slice sa n c,.slice la m d],.agg #[.int .i64 i,.int .i64 u,.slice sa' n c',.slice la' m d']] V fun e w'=>e = .returned (.bool true)∧Below V.heap.size V w'):=QB4 i u sa sa' n c c' ss la la' m d d' ls V hn hm (h1.below B0) (h2.below B0) (h3.below B0) (h4.below B0)
 clear h1 h2 h3 h4
 go_enter Tryz.func19,Tryz.ntmps19
 go_wp2_with fail
 rw [← hV]
 clear hV
 refine HS.out.mono ?_
 rintro e w1 ⟨rfl,hb1⟩
 go_wp2
 go_ret
 exact ⟨rfl,B0.trans (hb1.mono B0.size)⟩

section
theorem QY1 (a0 a1 a2 a3 b0 b1 b2 b3:Int):decide ((⟨a0,a1,a2,a3⟩:LkI)=⟨b0,b1,b2,b3⟩)=(a0==b0&&a1==b1&&a2==b2&&a3==b3):=by
 rw [Bool.eq_iff_iff]
 simp only [decide_eq_true_eq,LkI.mk.injEq,Bool.and_eq_true,beq_iff_eq,and_assoc]
theorem Lock_neq (r s:LkI) (w:World):(binOp .neq 98 (.agg #[.int .i64 r.e,.int .i64 r.c,.int .i64 r.p,.int .i64 r.f]) (.agg #[.int .i64 s.e,.int .i64 s.c,.int .i64 s.p,.int .i64 s.f])).run Tryz.prog w = .ok (.bool (!decide (r=s))) w:=by
 obtain ⟨a0,a1,a2,a3⟩:=r
 obtain ⟨b0,b1,b2,b3⟩:=s
 simp only
 rw [QY1]
 cases e0:(a0==b0)
 ·simp [go_sem,e0]
 cases e1:(a1==b1)
 ·simp [go_sem,e0,e1]
 cases e2:(a2==b2)
 ·simp [go_sem,e0,e1,e2]
 cases e3:(a3==b3)
 ·simp [go_sem,e0,e1,e2,e3]
 ·simp [go_sem,e0,e1,e2,e3]
attribute [local go_sem ↓] Lock_neq
theorem QJ8 (a b:Option Addr) (n m ca cb:Nat) (xs ys:List LkI) (w:World) (hn:n≤1048576) (hm:m≤1048576) (h:qK1 w a n xs) (h':qK1 w b m ys) :
  Calls Tryz.prog 65 #[.slice a n ca,.slice b m cb] w fun e w'=>e = .returned (.bool (decide (xs=ys)))∧Below w.heap.size w w':=by
 have H:Hid (qK1 w a n xs):=h
 have H':Hid (qK1 w b m ys):=h'
 have HX:Hid (xs.length=n):=h.1
 have HY:Hid (ys.length=m):=h'.1
 clear h h'
 have hn':(n:Int)≤1048576:=by omega
 have hm':(m:Int)≤1048576:=by omega
 by_cases hnm:n=m
 ·subst hnm
  obtain ⟨t,ht⟩:∃ t,decide (xs=ys)=t:=⟨_,rfl⟩
  have HT:Hid (decide (xs=ys)=t):=ht
  rw [ht]
  clear ht
  go_enter Tryz.func65,Tryz.ntmps65
  go_wp2
  go_loopw [13] (fun i wr=>∃ k:Nat,k≤n∧i = .int .i64 (k:Int)∧xs.take k=ys.take k∧∃ q,wr=w.drewN q) (fun i _=>n - (intOf i).toNat)
  case atStart=>exact ⟨0,Nat.zero_le _,rfl,by simp,0,rfl⟩
  case round =>
   obtain ⟨k,hk,rfl,htk,q,rfl⟩:=hrel
   have HTK:Hid (xs.take k=ys.take k):=htk
   clear htk
   by_cases hlt:k < n
   ·obtain ⟨b1,o1,s,e1,hs,hr,_⟩:=H.out.at hlt
    obtain ⟨b2,o2,s2,e2,hs2,hr2,_⟩:=H'.out.at hlt
    subst e1 e2
    have HS:Hid (xs[k]? = some s):=hs
    have HS2:Hid (ys[k]? = some s2):=hs2
    have hb1:b1 < w.heap.size:=zL w ⟨b1,_,none⟩ hr.1
    have hb2:b2 < w.heap.size:=zL w ⟨b2,_,none⟩ hr2.1
    clear hs hs2
    obtain ⟨h0,h1,h2,h3⟩:=hr
    obtain ⟨g0,g1,g2,g3⟩:=hr2
    have hlt':(k:Int) < (n:Int):=by omega
    by_cases hsame:s=s2
    ·have HN:Hid (xs.take (k+1)=ys.take (k+1)):=by
      show xs.take (k+1)=ys.take (k+1)
      rw [List.take_add_one,List.take_add_one,HTK.out,HS.out,HS2.out,hsame]
     have hd:decide (s=s2)=true:=decide_eq_true hsame
     skip
     clear hsame
     go_wp2
     go_quiet (fail)
     go_wp2
     exact ⟨⟨k+1,by omega,by go_num,HN.out,_,rfl⟩,by simp [intOf];omega⟩
    ·have HE:Hid (t=false):=by
      show t=false
      rw [← HT.out]
      refine decide_eq_false (fun e=>hsame ?_)
      have h1:=HS.out
      rw [e,HS2.out] at h1
      exact (Option.some.inj h1).symm
     have hd:decide (s=s2)=false:=decide_eq_false hsame
     skip
     clear hsame
     go_wp2
     go_quiet (fail)
     go_wp2
     go_ret
     exact ⟨by rw [HE.out];rfl,bdN (bdN (Below.refl _ _) _) _⟩
   ·have hkn:k=n:=by omega
    subst hkn
    have HE:Hid (t=true):=by
     show t=true
     rw [← HT.out]
     refine decide_eq_true ?_
     have:=HTK.out
     rw [List.take_of_length_le (by rw [HX.out];exact Nat.le_refl _),List.take_of_length_le (by rw [HY.out];exact Nat.le_refl _)] at this
     exact this
    go_wp2
    go_ret
    exact ⟨by rw [HE.out];rfl,bdN (Below.refl _ _) _⟩
 ·have HE:Hid (decide (xs=ys)=false):=decide_eq_false (fun e=>hnm (by rw [← HX.out,← HY.out,e]))
  rw [HE.out]
  have hnb:((n:Int) != (m:Int))=true:=by simp;omega
  have hnm':¬ ((n:Int)=(m:Int)):=by omega
  go_enter Tryz.func65,Tryz.ntmps65
  go_wp2
  go_ret
  exact ⟨rfl,Below.refl _ _⟩
end

theorem isRepId_c (i c v:Int) (w:World):Calls Tryz.prog 91 #[.int .i64 i,.agg #[.int .i64 c,.int .i64 v]] w fun e w'=>e = .returned (.bool (decide (c=0)&&inR i 1 v))∧Below w.heap.size w w':=by
 have hB:Below w.heap.size w (w.alloc (.cells #[.int .i64 c,.int .i64 v] 146)):=zN
 unfold inR
 by_cases q0:c=0
 ·have b0:(c==0)=true:=by simp [q0]
  by_cases q1:1≤i
  ·by_cases q2:i≤v
   ·have e:(decide (c=0)&&(decide (1≤i)&&decide (i≤v)))=true:=by simp [q0,q1,q2]
    rw [e]
    clear e q0
    go_enter Tryz.func91,Tryz.ntmps91
    go_wp2
    go_ret
    exact ⟨rfl,hB⟩
   ·have e:(decide (c=0)&&(decide (1≤i)&&decide (i≤v)))=false:=by simp [q0,q1,q2]
    rw [e]
    clear e q0
    go_enter Tryz.func91,Tryz.ntmps91
    go_wp2
    go_ret
    exact ⟨rfl,hB⟩
  ·have e:(decide (c=0)&&(decide (1≤i)&&decide (i≤v)))=false:=by simp [q1]
   rw [e]
   clear e q0
   go_enter Tryz.func91,Tryz.ntmps91
   go_wp2
   go_ret
   exact ⟨rfl,hB⟩
 ·have b0:(c==0)=false:=by simp [q0]
  have e:(decide (c=0)&&(decide (1≤i)&&decide (i≤v)))=false:=by simp [q0]
  rw [e]
  clear e q0
  go_enter Tryz.func91,Tryz.ntmps91
  go_wp2
  go_ret
  exact ⟨rfl,hB⟩
/-- A replica's number and what is sure of it are in their bounds. -/
def qI7 (f:Int) (r:qH4):Bool:=inR r.i 1 (3 * f+1)&&inR r.u 0 (r.sn:Int)
theorem qS4 (f:Int) (hf:1≤f∧f≤2) (r:qH4) (w:World) (hsn:r.sn≤1048576) :
  Calls Tryz.prog 64 #[.agg #[.int .i64 r.i,.int .i64 r.u,.slice r.sa r.sn r.sc,.slice r.la r.ln r.lc],.int .i64 f] w fun e w'=>e = .returned (.bool (qI7 f r))∧Below w.heap.size w w':=by
 obtain ⟨t,ht⟩:∃ t,qI7 f r=t:=⟨_,rfl⟩
 rw [ht]
 have hfr:inR f 1 2=true:=by simp [inR];omega
 have HN:Hid (∀ W:World,Calls Tryz.prog 92 #[.int .i64 f] W fun e w'=>e = .returned (.agg #[.int .i64 0,.int .i64 (3 * f+1)])∧Below W.heap.size W w'):=fun W=>by
  have q:=QH3 f W
  unfold GivesNF nfCode nfVal at q
  rw [if_pos hfr,if_pos hfr] at q
  exact q
 obtain ⟨t1,ht1⟩:∃ t1,inR r.i 1 (3 * f+1)=t1:=⟨_,rfl⟩
 have HI:Hid (∀ W:World,Calls Tryz.prog 91 #[.int .i64 r.i,.agg #[.int .i64 0,.int .i64 (3 * f+1)]] W fun e w'=>e = .returned (.bool t1)∧Below W.heap.size W w'):=fun W=>by
  have q:=isRepId_c r.i 0 (3 * f+1) W
  rw [ht1,show decide ((0:Int)=0)=true from rfl,Bool.true_and] at q
  exact q
 obtain ⟨V,hV⟩:∃ V,V=w.alloc (.cells #[.int .i64 r.i,.int .i64 r.u,.slice r.sa r.sn r.sc,.slice r.la r.ln r.lc] 33):=⟨_,rfl⟩
 have BV:Hid (Below w.heap.size w V):=by show Below _ _ _;rw [hV];exact zN
 have XV:qE8 w.heap.size [.int .i64 r.i,.int .i64 r.u,.slice r.sa r.sn r.sc,.slice r.la r.ln r.lc] V:=by rw [hV];exact (qF2 w _ _).out
 have hVl:w.heap.size < V.heap.size:=by rw [hV];simp
 have v0:=XV 0 _ rfl
 have v1:=XV 1 _ rfl
 have v2:=XV 2 _ rfl
 have v3:=XV 3 _ rfl
 have hsn':(r.sn:Int)≤1048576:=by omega
 clear XV hfr
 cases t1
 ·obtain rfl:t=false:=by rw [← ht];unfold qI7;rw [ht1];rfl
  clear ht ht1
  go_enter Tryz.func64,Tryz.ntmps64
  go_upto_region 1 with fail
  rw [← hV]
  clear hV
  refine wp_region_held_drew (S:=fun w'=>(∀ b o,b < V.heap.size→w'.cell? ⟨b,o,none⟩=V.cell? ⟨b,o,none⟩)∧Below V.heap.size V w') (by kernel_rfl) (qB4 _) (fun hHeld=>?_)
  refine Zk.go [0,1,2] ?_
  iterate 3
   refine Zk.st (v:=?_) rfl ?_ ?_
   rotate_left 1
   ·intro w hSw;(try dsimp only at hSw);go_simp;try (with_reducible rfl)
   try simp only [Act.put,zA,zB,zC,zD,zE,zF]
  refine Zk.fin ?_
  refine Zk.rd (i:=3) rfl (fun K hK=>?_)
  go_simp
  refine (HN.out _).mono ?_
  rintro d wA ⟨rfl,hbA⟩
  have hS:=qA0 hHeld hbA
  refine hK.out _ _ hS (fun hHeld=>?_)
  clear hK K
  try simp only [Act.put,zA,zB,zC,zD,zE,zF]
  refine Zk.rd (i:=4) rfl (fun K hK=>?_)
  go_simp
  refine (HI.out _).mono ?_
  rintro d wB ⟨rfl,hbB⟩
  have hS:=qA0 hHeld hbB
  refine hK.out _ _ hS (fun hHeld=>?_)
  clear hK K
  try simp only [Act.put,zA,zB,zC,zD,zE,zF]
  refine Zk.go [5,6,7,8,9,10,11,12,13,14,15,16,17] ?_
  refine Zk.st (v:=?_) rfl ?_ ?_
  rotate_left 1
  ·intro w hSw;(try dsimp only at hSw);go_simp;try (with_reducible rfl)
  try simp only [Act.put,zA,zB,zC,zD,zE,zF]
  iterate 3 (refine Zk.un rfl ?_;try simp only [Act.put,zA,zB,zC,zD,zE,zF])
  iterate 2
   refine Zk.st (v:=?_) rfl ?_ ?_
   rotate_left 1
   ·intro w hSw;(try dsimp only at hSw);go_simp;try (with_reducible rfl)
   try simp only [Act.put,zA,zB,zC,zD,zE,zF]
  iterate 6 (refine Zk.un rfl ?_;try simp only [Act.put,zA,zB,zC,zD,zE,zF])
  refine Zk.st (v:=?_) rfl ?_ ?_
  rotate_left 1
  ·intro w hSw;(try dsimp only at hSw);go_simp;try (with_reducible rfl)
  try simp only [Act.put,zA,zB,zC,zD,zE,zF]
  refine Zk.fin ?_
  refine Zk.rd (i:=18) rfl (fun K hK=>?_)
  go_simp
  refine hK.out _ _ (by assumption) (fun hHeld=>?_)
  clear hK K
  try simp only [Act.put,zA,zB,zC,zD,zE,zF]
  refine wpAnyH_done (by kernel_rfl) ?_ _
  go_wp2
  go_ret
  exact ⟨rfl,BV.out.trans (hHeld.2.mono BV.out.size)⟩
 ·by_cases hu:0≤r.u
  ·by_cases hu2:r.u≤(r.sn:Int)
   ·obtain rfl:t=true:=by rw [← ht];unfold qI7;rw [ht1];simp [inR,hu,hu2]
    clear ht ht1
    go_enter Tryz.func64,Tryz.ntmps64
    go_upto_region 1 with fail
    rw [← hV]
    clear hV
    refine wp_region_held_drew (S:=fun w'=>(∀ b o,b < V.heap.size→w'.cell? ⟨b,o,none⟩=V.cell? ⟨b,o,none⟩)∧Below V.heap.size V w') (by kernel_rfl) (qB4 _) (fun hHeld=>?_)
    refine Zk.go [0,1,2] ?_
    iterate 3
     refine Zk.st (v:=?_) rfl ?_ ?_
     rotate_left 1
     ·intro w hSw;(try dsimp only at hSw);go_simp;try (with_reducible rfl)
     try simp only [Act.put,zA,zB,zC,zD,zE,zF]
    refine Zk.fin ?_
    refine Zk.rd (i:=3) rfl (fun K hK=>?_)
    go_simp
    refine (HN.out _).mono ?_
    rintro d wA ⟨rfl,hbA⟩
    have hS:=qA0 hHeld hbA
    refine hK.out _ _ hS (fun hHeld=>?_)
    clear hK K
    try simp only [Act.put,zA,zB,zC,zD,zE,zF]
    refine Zk.rd (i:=4) rfl (fun K hK=>?_)
    go_simp
    refine (HI.out _).mono ?_
    rintro d wB ⟨rfl,hbB⟩
    have hS:=qA0 hHeld hbB
    refine hK.out _ _ hS (fun hHeld=>?_)
    clear hK K
    try simp only [Act.put,zA,zB,zC,zD,zE,zF]
    refine Zk.go [5,6,7,8,9,10,11,12,13,14,15,16,17] ?_
    iterate 13
     refine Zk.st (v:=?_) rfl ?_ ?_
     rotate_left 1
     ·intro w hSw;(try dsimp only at hSw);go_simp;try (with_reducible rfl)
     try simp only [Act.put,zA,zB,zC,zD,zE,zF]
    refine Zk.fin ?_
    refine Zk.rd (i:=18) rfl (fun K hK=>?_)
    go_simp
    refine hK.out _ _ (by assumption) (fun hHeld=>?_)
    clear hK K
    try simp only [Act.put,zA,zB,zC,zD,zE,zF]
    refine wpAnyH_done (by kernel_rfl) ?_ _
    go_wp2
    go_ret
    exact ⟨rfl,BV.out.trans (hHeld.2.mono BV.out.size)⟩
   ·obtain rfl:t=false:=by rw [← ht];unfold qI7;rw [ht1];simp [inR,hu,hu2]
    clear ht ht1
    go_enter Tryz.func64,Tryz.ntmps64
    go_upto_region 1 with fail
    rw [← hV]
    clear hV
    refine wp_region_held_drew (S:=fun w'=>(∀ b o,b < V.heap.size→w'.cell? ⟨b,o,none⟩=V.cell? ⟨b,o,none⟩)∧Below V.heap.size V w') (by kernel_rfl) (qB4 _) (fun hHeld=>?_)
    refine Zk.go [0,1,2] ?_
    iterate 3
     refine Zk.st (v:=?_) rfl ?_ ?_
     rotate_left 1
     ·intro w hSw;(try dsimp only at hSw);go_simp;try (with_reducible rfl)
     try simp only [Act.put,zA,zB,zC,zD,zE,zF]
    refine Zk.fin ?_
    refine Zk.rd (i:=3) rfl (fun K hK=>?_)
    go_simp
    refine (HN.out _).mono ?_
    rintro d wA ⟨rfl,hbA⟩
    have hS:=qA0 hHeld hbA
    refine hK.out _ _ hS (fun hHeld=>?_)
    clear hK K
    try simp only [Act.put,zA,zB,zC,zD,zE,zF]
    refine Zk.rd (i:=4) rfl (fun K hK=>?_)
    go_simp
    refine (HI.out _).mono ?_
    rintro d wB ⟨rfl,hbB⟩
    have hS:=qA0 hHeld hbB
    refine hK.out _ _ hS (fun hHeld=>?_)
    clear hK K
    try simp only [Act.put,zA,zB,zC,zD,zE,zF]
    refine Zk.go [5,6,7,8,9,10,11,12,13,14,15,16,17] ?_
    iterate 13
     refine Zk.st (v:=?_) rfl ?_ ?_
     rotate_left 1
     ·intro w hSw;(try dsimp only at hSw);go_simp;try (with_reducible rfl)
     try simp only [Act.put,zA,zB,zC,zD,zE,zF]
    refine Zk.fin ?_
    refine Zk.rd (i:=18) rfl (fun K hK=>?_)
    go_simp
    refine hK.out _ _ (by assumption) (fun hHeld=>?_)
    clear hK K
    try simp only [Act.put,zA,zB,zC,zD,zE,zF]
    refine wpAnyH_done (by kernel_rfl) ?_ _
    go_wp2
    go_ret
    exact ⟨rfl,BV.out.trans (hHeld.2.mono BV.out.size)⟩
  ·obtain rfl:t=false:=by rw [← ht];unfold qI7;rw [ht1];simp [inR,hu]
   clear ht ht1
   go_enter Tryz.func64,Tryz.ntmps64
   go_upto_region 1 with fail
   rw [← hV]
   clear hV
   refine wp_region_held_drew (S:=fun w'=>(∀ b o,b < V.heap.size→w'.cell? ⟨b,o,none⟩=V.cell? ⟨b,o,none⟩)∧Below V.heap.size V w') (by kernel_rfl) (qB4 _) (fun hHeld=>?_)
   refine Zk.go [0,1,2] ?_
   iterate 3
    refine Zk.st (v:=?_) rfl ?_ ?_
    rotate_left 1
    ·intro w hSw;(try dsimp only at hSw);go_simp;try (with_reducible rfl)
    try simp only [Act.put,zA,zB,zC,zD,zE,zF]
   refine Zk.fin ?_
   refine Zk.rd (i:=3) rfl (fun K hK=>?_)
   go_simp
   refine (HN.out _).mono ?_
   rintro d wA ⟨rfl,hbA⟩
   have hS:=qA0 hHeld hbA
   refine hK.out _ _ hS (fun hHeld=>?_)
   clear hK K
   try simp only [Act.put,zA,zB,zC,zD,zE,zF]
   refine Zk.rd (i:=4) rfl (fun K hK=>?_)
   go_simp
   refine (HI.out _).mono ?_
   rintro d wB ⟨rfl,hbB⟩
   have hS:=qA0 hHeld hbB
   refine hK.out _ _ hS (fun hHeld=>?_)
   clear hK K
   try simp only [Act.put,zA,zB,zC,zD,zE,zF]
   refine Zk.go [5,6,7,8,9,10,11,12,13,14,15,16,17] ?_
   iterate 6
    refine Zk.st (v:=?_) rfl ?_ ?_
    rotate_left 1
    ·intro w hSw;(try dsimp only at hSw);go_simp;try (with_reducible rfl)
    try simp only [Act.put,zA,zB,zC,zD,zE,zF]
   iterate 6 (refine Zk.un rfl ?_;try simp only [Act.put,zA,zB,zC,zD,zE,zF])
   refine Zk.st (v:=?_) rfl ?_ ?_
   rotate_left 1
   ·intro w hSw;(try dsimp only at hSw);go_simp;try (with_reducible rfl)
   try simp only [Act.put,zA,zB,zC,zD,zE,zF]
   refine Zk.fin ?_
   refine Zk.rd (i:=18) rfl (fun K hK=>?_)
   go_simp
   refine hK.out _ _ (by assumption) (fun hHeld=>?_)
   clear hK K
   try simp only [Act.put,zA,zB,zC,zD,zE,zF]
   refine wpAnyH_done (by kernel_rfl) ?_ _
   go_wp2
   go_ret
   exact ⟨rfl,BV.out.trans (hHeld.2.mono BV.out.size)⟩

end Go.Proofs.YtlpgapdlepbgbaaGreatDoor
