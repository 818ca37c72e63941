/- Contracts. -/
import Derived.Test.YtlhgjackapdmbaaGreatDoorPe40
import Derived.Test.YtlhgjackapdmbaaGreatDoorPe41
namespace Go.Proofs.YtlhgjackapdmbaaGreatDoor
set_option maxRecDepth 100000
set_option maxHeartbeats 8000000
open Go.RowKit
set_option linter.unusedVariables false
set_option linter.unusedSimpArgs false

theorem QB3 (i u:Int) (sa sa':Option Addr) (n c c':Nat) (ss:List StI) (la la':Option Addr) (m d d':Nat) (ls:List LkI) (w:World) (hn:n≤1048576) (hm:m≤1048576) (h1:qM5 w sa n ss) (h2:qM5 w sa' n ss) (h3:qK1 w la m ls) (h4:qK1 w la' m ls) :
  Calls Tryz.prog 14 #[.agg #[.int .i64 i,.int .i64 u,.slice sa n c,.slice la m d],.agg #[.int .i64 i,.int .i64 u,.slice sa' n c',.slice la' m d']] w fun e w'=>e = .returned (.bool true)∧Below w.heap.size w w':=by
 obtain ⟨V,hV⟩:∃ V,V=(w.alloc (.cells #[.int .i64 i,.int .i64 u,.slice sa n c,.slice la m d] 33)).alloc (.cells #[.int .i64 i,.int .i64 u,.slice sa' n c',.slice la' m d'] 33):=⟨_,rfl⟩
 have B0:Below w.heap.size w V:=by rw [hV];exact (zN).alloc (by simp) _
 have x2:V.cell? ⟨w.heap.size,3,none⟩=some (.slice la m d):=by rw [hV];simp
 have y2:V.cell? ⟨w.heap.size+1,3,none⟩=some (.slice la' m d'):=by rw [hV];simp
 have hz:V.heap.size=w.heap.size+1+1:=by rw [hV];simp
 have HS:Hid (Calls Tryz.prog 38 #[.slice sa n c,.slice sa' n c'] V fun e w'=>e = .returned (.bool true)∧Below V.heap.size V w'):=QF7 sa sa' n c c' ss V hn (h1.below B0) (h2.below B0)
 have HL:Hid (∀ w2,Below w.heap.size w w2→Calls Tryz.prog 39 #[.slice la m d,.slice la' m d'] w2 fun e w'=>e = .returned (.bool true)∧Below w2.heap.size w2 w'):=fun w2 hb=>eqLocks_same la la' m d d' ls w2 hm (h3.below hb) (h4.below hb)
 have XX:Hid (V.cell? ⟨w.heap.size,3,none⟩=some (.slice la m d)∧V.cell? ⟨w.heap.size+1,3,none⟩=some (.slice la' m d')∧V.heap.size=w.heap.size+1+1):=⟨x2,y2,hz⟩
 clear h1 h2 h3 h4 x2 y2 hz
 go_enter Tryz.func14,Tryz.ntmps14
 go_wp2_with fail
 rw [← hV]
 clear hV
 refine HS.out.mono ?_
 rintro e w1 ⟨rfl,hb1⟩
 obtain ⟨x3,y3,hz⟩:=XX.out
 have x3:=(hb1.cell (p:=⟨w.heap.size,3,none⟩) (by show w.heap.size < V.heap.size;omega)).trans x3
 have y3:=(hb1.cell (p:=⟨w.heap.size+1,3,none⟩) (by show w.heap.size+1 < V.heap.size;omega)).trans y3
 have B1:=B0.trans (hb1.mono B0.size)
 have l1:w.heap.size < w1.heap.size:=by have:=hb1.size;omega
 have l2:w.heap.size+1 < w1.heap.size:=by have:=hb1.size;omega
 clear hz hb1
 go_wp2_with fail
 refine (HL.out _ B1).mono ?_
 rintro e w2 ⟨rfl,hb2⟩
 clear x3 y3 l1 l2
 go_wp2
 go_ret
 exact ⟨rfl,B1.trans (hb2.mono B1.size)⟩
theorem qZ1 (k i u:Int) (sa sa':Option Addr) (n c c':Nat) (ss:List StI) (la la':Option Addr) (m d d':Nat) (ls:List LkI) (w:World) (hn:n≤1048576) (hm:m≤1048576) (h1:qM5 w sa n ss) (h2:qM5 w sa' n ss) (h3:qK1 w la m ls) (h4:qK1 w la' m ls) :
  Calls Tryz.prog 21 #[.agg #[.int .i64 k,.int .i64 i,.int .i64 u,.slice sa n c,.slice la m d],.agg #[.int .i64 k,.int .i64 i,.int .i64 u,.slice sa' n c',.slice la' m d']] w fun e w'=>e = .returned (.bool true)∧Below w.heap.size w w':=by
 obtain ⟨V,hV⟩:∃ V,V=(w.alloc (.cells #[.int .i64 k,.int .i64 i,.int .i64 u,.slice sa n c,.slice la m d] 47)).alloc (.cells #[.int .i64 k,.int .i64 i,.int .i64 u,.slice sa' n c',.slice la' m d'] 47):=⟨_,rfl⟩
 have B0:Below w.heap.size w V:=by rw [hV];exact (zN).alloc (by simp) _
 have HS:Hid (Calls Tryz.prog 14 #[.agg #[.int .i64 i,.int .i64 u,.slice sa n c,.slice la m d],.agg #[.int .i64 i,.int .i64 u,.slice sa' n c',.slice la' m d']] V fun e w'=>e = .returned (.bool true)∧Below V.heap.size V w'):=QB3 i u sa sa' n c c' ss la la' m d d' ls V hn hm (h1.below B0) (h2.below B0) (h3.below B0) (h4.below B0)
 clear h1 h2 h3 h4
 go_enter Tryz.func21,Tryz.ntmps21
 go_wp2_with fail
 rw [← hV]
 clear hV
 refine HS.out.mono ?_
 rintro e w1 ⟨rfl,hb1⟩
 go_wp2
 go_ret
 exact ⟨rfl,B0.trans (hb1.mono B0.size)⟩

section
theorem QY1 (a0 a1 a2 a3 b0 b1 b2 b3:Int):decide ((⟨a0,a1,a2,a3⟩:LkI)=⟨b0,b1,b2,b3⟩)=(a0==b0&&a1==b1&&a2==b2&&a3==b3):=by
 rw [Bool.eq_iff_iff]
 simp only [decide_eq_true_eq,LkI.mk.injEq,Bool.and_eq_true,beq_iff_eq,and_assoc]
theorem Lock_neq (r s:LkI) (w:World):(binOp .neq 98 (.agg #[.int .i64 r.e,.int .i64 r.c,.int .i64 r.p,.int .i64 r.f]) (.agg #[.int .i64 s.e,.int .i64 s.c,.int .i64 s.p,.int .i64 s.f])).run Tryz.prog w = .ok (.bool (!decide (r=s))) w:=by
 obtain ⟨a0,a1,a2,a3⟩:=r
 obtain ⟨b0,b1,b2,b3⟩:=s
 simp only
 rw [QY1]
 cases e0:(a0==b0)
 ·simp [go_sem,e0]
 cases e1:(a1==b1)
 ·simp [go_sem,e0,e1]
 cases e2:(a2==b2)
 ·simp [go_sem,e0,e1,e2]
 cases e3:(a3==b3)
 ·simp [go_sem,e0,e1,e2,e3]
 ·simp [go_sem,e0,e1,e2,e3]
attribute [local go_sem ↓] Lock_neq
theorem QJ8 (a b:Option Addr) (n m ca cb:Nat) (xs ys:List LkI) (w:World) (hn:n≤1048576) (hm:m≤1048576) (h:qK1 w a n xs) (h':qK1 w b m ys) :
  Calls Tryz.prog 65 #[.slice a n ca,.slice b m cb] w fun e w'=>e = .returned (.bool (decide (xs=ys)))∧Below w.heap.size w w':=by
 have H:Hid (qK1 w a n xs):=h
 have H':Hid (qK1 w b m ys):=h'
 have HX:Hid (xs.length=n):=h.1
 have HY:Hid (ys.length=m):=h'.1
 clear h h'
 have hn':(n:Int)≤1048576:=by omega
 have hm':(m:Int)≤1048576:=by omega
 by_cases hnm:n=m
 ·subst hnm
  obtain ⟨t,ht⟩:∃ t,decide (xs=ys)=t:=⟨_,rfl⟩
  have HT:Hid (decide (xs=ys)=t):=ht
  rw [ht]
  clear ht
  go_enter Tryz.func65,Tryz.ntmps65
  go_wp2
  go_loopw [13] (fun i wr=>∃ k:Nat,k≤n∧i = .int .i64 (k:Int)∧xs.take k=ys.take k∧∃ q,wr=w.drewN q) (fun i _=>n - (intOf i).toNat)
  case atStart=>exact ⟨0,Nat.zero_le _,rfl,by simp,0,rfl⟩
  case round =>
   obtain ⟨k,hk,rfl,htk,q,rfl⟩:=hrel
   have HTK:Hid (xs.take k=ys.take k):=htk
   clear htk
   by_cases hlt:k < n
   ·obtain ⟨b1,o1,s,e1,hs,hr,_⟩:=H.out.at hlt
    obtain ⟨b2,o2,s2,e2,hs2,hr2,_⟩:=H'.out.at hlt
    subst e1 e2
    have HS:Hid (xs[k]? = some s):=hs
    have HS2:Hid (ys[k]? = some s2):=hs2
    have hb1:b1 < w.heap.size:=zL w ⟨b1,_,none⟩ hr.1
    have hb2:b2 < w.heap.size:=zL w ⟨b2,_,none⟩ hr2.1
    clear hs hs2
    obtain ⟨h0,h1,h2,h3⟩:=hr
    obtain ⟨g0,g1,g2,g3⟩:=hr2
    have hlt':(k:Int) < (n:Int):=by omega
    by_cases hsame:s=s2
    ·have HN:Hid (xs.take (k+1)=ys.take (k+1)):=by
      show xs.take (k+1)=ys.take (k+1)
      rw [List.take_add_one,List.take_add_one,HTK.out,HS.out,HS2.out,hsame]
     have hd:decide (s=s2)=true:=decide_eq_true hsame
     skip
     clear hsame
     go_wp2
     go_quiet (fail)
     go_wp2
     exact ⟨⟨k+1,by omega,by go_num,HN.out,_,rfl⟩,by simp [intOf];omega⟩
    ·have HE:Hid (t=false):=by
      show t=false
      rw [← HT.out]
      refine decide_eq_false (fun e=>hsame ?_)
      have h1:=HS.out
      rw [e,HS2.out] at h1
      exact (Option.some.inj h1).symm
     have hd:decide (s=s2)=false:=decide_eq_false hsame
     skip
     clear hsame
     go_wp2
     go_quiet (fail)
     go_wp2
     go_ret
     exact ⟨by rw [HE.out];rfl,bdN (bdN (Below.refl _ _) _) _⟩
   ·have hkn:k=n:=by omega
    subst hkn
    have HE:Hid (t=true):=by
     show t=true
     rw [← HT.out]
     refine decide_eq_true ?_
     have:=HTK.out
     rw [List.take_of_length_le (by rw [HX.out];exact Nat.le_refl _),List.take_of_length_le (by rw [HY.out];exact Nat.le_refl _)] at this
     exact this
    go_wp2
    go_ret
    exact ⟨by rw [HE.out];rfl,bdN (Below.refl _ _) _⟩
 ·have HE:Hid (decide (xs=ys)=false):=decide_eq_false (fun e=>hnm (by rw [← HX.out,← HY.out,e]))
  rw [HE.out]
  have hnb:((n:Int) != (m:Int))=true:=by simp;omega
  have hnm':¬ ((n:Int)=(m:Int)):=by omega
  go_enter Tryz.func65,Tryz.ntmps65
  go_wp2
  go_ret
  exact ⟨rfl,Below.refl _ _⟩
end

theorem isRepId_c (i c v:Int) (w:World):Calls Tryz.prog 91 #[.int .i64 i,.agg #[.int .i64 c,.int .i64 v]] w fun e w'=>e = .returned (.bool (decide (c=0)&&inR i 1 v))∧Below w.heap.size w w':=by
 have hB:Below w.heap.size w (w.alloc (.cells #[.int .i64 c,.int .i64 v] 146)):=zN
 unfold inR
 by_cases q0:c=0
 ·have b0:(c==0)=true:=by simp [q0]
  by_cases q1:1≤i
  ·by_cases q2:i≤v
   ·have e:(decide (c=0)&&(decide (1≤i)&&decide (i≤v)))=true:=by simp [q0,q1,q2]
    rw [e]
    clear e q0
    go_enter Tryz.func91,Tryz.ntmps91
    go_wp2
    go_ret
    exact ⟨rfl,hB⟩
   ·have e:(decide (c=0)&&(decide (1≤i)&&decide (i≤v)))=false:=by simp [q0,q1,q2]
    rw [e]
    clear e q0
    go_enter Tryz.func91,Tryz.ntmps91
    go_wp2
    go_ret
    exact ⟨rfl,hB⟩
  ·have e:(decide (c=0)&&(decide (1≤i)&&decide (i≤v)))=false:=by simp [q1]
   rw [e]
   clear e q0
   go_enter Tryz.func91,Tryz.ntmps91
   go_wp2
   go_ret
   exact ⟨rfl,hB⟩
 ·have b0:(c==0)=false:=by simp [q0]
  have e:(decide (c=0)&&(decide (1≤i)&&decide (i≤v)))=false:=by simp [q0]
  rw [e]
  clear e q0
  go_enter Tryz.func91,Tryz.ntmps91
  go_wp2
  go_ret
  exact ⟨rfl,hB⟩
/-- A replica's number and what is sure of it are in their bounds. -/
def qI7 (f:Int) (r:qH5):Bool:=inR r.i 1 (3 * f+1)&&inR r.u 0 (r.sn:Int)
theorem qS4 (f:Int) (hf:1≤f∧f≤2) (r:qH5) (w:World) (hsn:r.sn≤1048576) :
  Calls Tryz.prog 64 #[.agg #[.int .i64 r.i,.int .i64 r.u,.slice r.sa r.sn r.sc,.slice r.la r.ln r.lc],.int .i64 f] w fun e w'=>e = .returned (.bool (qI7 f r))∧Below w.heap.size w w':=by
 obtain ⟨t,ht⟩:∃ t,qI7 f r=t:=⟨_,rfl⟩
 rw [ht]
 have hfr:inR f 1 2=true:=by simp [inR];omega
 have HN:Hid (∀ W:World,Calls Tryz.prog 92 #[.int .i64 f] W fun e w'=>e = .returned (.agg #[.int .i64 0,.int .i64 (3 * f+1)])∧Below W.heap.size W w'):=fun W=>by
  have q:=QH3 f W
  unfold GivesNF nfCode nfVal at q
  rw [if_pos hfr,if_pos hfr] at q
  exact q
 obtain ⟨t1,ht1⟩:∃ t1,inR r.i 1 (3 * f+1)=t1:=⟨_,rfl⟩
 have HI:Hid (∀ W:World,Calls Tryz.prog 91 #[.int .i64 r.i,.agg #[.int .i64 0,.int .i64 (3 * f+1)]] W fun e w'=>e = .returned (.bool t1)∧Below W.heap.size W w'):=fun W=>by
  have q:=isRepId_c r.i 0 (3 * f+1) W
  rw [ht1,show decide ((0:Int)=0)=true from rfl,Bool.true_and] at q
  exact q
 obtain ⟨V,hV⟩:∃ V,V=w.alloc (.cells #[.int .i64 r.i,.int .i64 r.u,.slice r.sa r.sn r.sc,.slice r.la r.ln r.lc] 33):=⟨_,rfl⟩
 have BV:Hid (Below w.heap.size w V):=by show Below _ _ _;rw [hV];exact zN
 have XV:qE8 w.heap.size [.int .i64 r.i,.int .i64 r.u,.slice r.sa r.sn r.sc,.slice r.la r.ln r.lc] V:=by rw [hV];exact (qF2 w _ _).out
 have hVl:w.heap.size < V.heap.size:=by rw [hV];simp
 have v0:=XV 0 _ rfl
 have v1:=XV 1 _ rfl
 have v2:=XV 2 _ rfl
 have v3:=XV 3 _ rfl
 have hsn':(r.sn:Int)≤1048576:=by omega
 clear XV hfr
 cases t1
 ·obtain rfl:t=false:=by rw [← ht];unfold qI7;rw [ht1];rfl
  clear ht ht1
  go_enter Tryz.func64,Tryz.ntmps64
  go_upto_region 1 with fail
  rw [← hV]
  clear hV
  refine wp_region_held_drew (S:=fun w'=>(∀ b o,b < V.heap.size→w'.cell? ⟨b,o,none⟩=V.cell? ⟨b,o,none⟩)∧Below V.heap.size V w') (by kernel_rfl) (qB4 _) (fun hHeld=>?_)
  refine Zk.go [0,1,2] ?_
  iterate 3
   refine Zk.st (v:=?_) rfl ?_ ?_
   rotate_left 1
   ·intro w hSw;(try dsimp only at hSw);go_simp;try (with_reducible rfl)
   try simp only [Act.put,zA,zB,zC,zD,zE,zF]
  refine Zk.fin ?_
  refine Zk.rd (i:=3) rfl (fun K hK=>?_)
  go_simp
  refine (HN.out _).mono ?_
  rintro d wA ⟨rfl,hbA⟩
  have hS:=qA0 hHeld hbA
  refine hK.out _ _ hS (fun hHeld=>?_)
  clear hK K
  try simp only [Act.put,zA,zB,zC,zD,zE,zF]
  refine Zk.rd (i:=4) rfl (fun K hK=>?_)
  go_simp
  refine (HI.out _).mono ?_
  rintro d wB ⟨rfl,hbB⟩
  have hS:=qA0 hHeld hbB
  refine hK.out _ _ hS (fun hHeld=>?_)
  clear hK K
  try simp only [Act.put,zA,zB,zC,zD,zE,zF]
  refine Zk.go [5,6,7,8,9,10,11,12,13,14,15,16,17] ?_
  refine Zk.st (v:=?_) rfl ?_ ?_
  rotate_left 1
  ·intro w hSw;(try dsimp only at hSw);go_simp;try (with_reducible rfl)
  try simp only [Act.put,zA,zB,zC,zD,zE,zF]
  iterate 3 (refine Zk.un rfl ?_;try simp only [Act.put,zA,zB,zC,zD,zE,zF])
  iterate 2
   refine Zk.st (v:=?_) rfl ?_ ?_
   rotate_left 1
   ·intro w hSw;(try dsimp only at hSw);go_simp;try (with_reducible rfl)
   try simp only [Act.put,zA,zB,zC,zD,zE,zF]
  iterate 6 (refine Zk.un rfl ?_;try simp only [Act.put,zA,zB,zC,zD,zE,zF])
  refine Zk.st (v:=?_) rfl ?_ ?_
  rotate_left 1
  ·intro w hSw;(try dsimp only at hSw);go_simp;try (with_reducible rfl)
  try simp only [Act.put,zA,zB,zC,zD,zE,zF]
  refine Zk.fin ?_
  refine Zk.rd (i:=18) rfl (fun K hK=>?_)
  go_simp
  refine hK.out _ _ (by assumption) (fun hHeld=>?_)
  clear hK K
  try simp only [Act.put,zA,zB,zC,zD,zE,zF]
  refine wpAnyH_done (by kernel_rfl) ?_ _
  go_wp2
  go_ret
  exact ⟨rfl,BV.out.trans (hHeld.2.mono BV.out.size)⟩
 ·by_cases hu:0≤r.u
  ·by_cases hu2:r.u≤(r.sn:Int)
   ·obtain rfl:t=true:=by rw [← ht];unfold qI7;rw [ht1];simp [inR,hu,hu2]
    clear ht ht1
    go_enter Tryz.func64,Tryz.ntmps64
    go_upto_region 1 with fail
    rw [← hV]
    clear hV
    refine wp_region_held_drew (S:=fun w'=>(∀ b o,b < V.heap.size→w'.cell? ⟨b,o,none⟩=V.cell? ⟨b,o,none⟩)∧Below V.heap.size V w') (by kernel_rfl) (qB4 _) (fun hHeld=>?_)
    refine Zk.go [0,1,2] ?_
    iterate 3
     refine Zk.st (v:=?_) rfl ?_ ?_
     rotate_left 1
     ·intro w hSw;(try dsimp only at hSw);go_simp;try (with_reducible rfl)
     try simp only [Act.put,zA,zB,zC,zD,zE,zF]
    refine Zk.fin ?_
    refine Zk.rd (i:=3) rfl (fun K hK=>?_)
    go_simp
    refine (HN.out _).mono ?_
    rintro d wA ⟨rfl,hbA⟩
    have hS:=qA0 hHeld hbA
    refine hK.out _ _ hS (fun hHeld=>?_)
    clear hK K
    try simp only [Act.put,zA,zB,zC,zD,zE,zF]
    refine Zk.rd (i:=4) rfl (fun K hK=>?_)
    go_simp
    refine (HI.out _).mono ?_
    rintro d wB ⟨rfl,hbB⟩
    have hS:=qA0 hHeld hbB
    refine hK.out _ _ hS (fun hHeld=>?_)
    clear hK K
    try simp only [Act.put,zA,zB,zC,zD,zE,zF]
    refine Zk.go [5,6,7,8,9,10,11,12,13,14,15,16,17] ?_
    iterate 13
     refine Zk.st (v:=?_) rfl ?_ ?_
     rotate_left 1
     ·intro w hSw;(try dsimp only at hSw);go_simp;try (with_reducible rfl)
     try simp only [Act.put,zA,zB,zC,zD,zE,zF]
    refine Zk.fin ?_
    refine Zk.rd (i:=18) rfl (fun K hK=>?_)
    go_simp
    refine hK.out _ _ (by assumption) (fun hHeld=>?_)
    clear hK K
    try simp only [Act.put,zA,zB,zC,zD,zE,zF]
    refine wpAnyH_done (by kernel_rfl) ?_ _
    go_wp2
    go_ret
    exact ⟨rfl,BV.out.trans (hHeld.2.mono BV.out.size)⟩
   ·obtain rfl:t=false:=by rw [← ht];unfold qI7;rw [ht1];simp [inR,hu,hu2]
    clear ht ht1
    go_enter Tryz.func64,Tryz.ntmps64
    go_upto_region 1 with fail
    rw [← hV]
    clear hV
    refine wp_region_held_drew (S:=fun w'=>(∀ b o,b < V.heap.size→w'.cell? ⟨b,o,none⟩=V.cell? ⟨b,o,none⟩)∧Below V.heap.size V w') (by kernel_rfl) (qB4 _) (fun hHeld=>?_)
    refine Zk.go [0,1,2] ?_
    iterate 3
     refine Zk.st (v:=?_) rfl ?_ ?_
     rotate_left 1
     ·intro w hSw;(try dsimp only at hSw);go_simp;try (with_reducible rfl)
     try simp only [Act.put,zA,zB,zC,zD,zE,zF]
    refine Zk.fin ?_
    refine Zk.rd (i:=3) rfl (fun K hK=>?_)
    go_simp
    refine (HN.out _).mono ?_
    rintro d wA ⟨rfl,hbA⟩
    have hS:=qA0 hHeld hbA
    refine hK.out _ _ hS (fun hHeld=>?_)
    clear hK K
    try simp only [Act.put,zA,zB,zC,zD,zE,zF]
    refine Zk.rd (i:=4) rfl (fun K hK=>?_)
    go_simp
    refine (HI.out _).mono ?_
    rintro d wB ⟨rfl,hbB⟩
    have hS:=qA0 hHeld hbB
    refine hK.out _ _ hS (fun hHeld=>?_)
    clear hK K
    try simp only [Act.put,zA,zB,zC,zD,zE,zF]
    refine Zk.go [5,6,7,8,9,10,11,12,13,14,15,16,17] ?_
    iterate 13
     refine Zk.st (v:=?_) rfl ?_ ?_
     rotate_left 1
     ·intro w hSw;(try dsimp only at hSw);go_simp;try (with_reducible rfl)
     try simp only [Act.put,zA,zB,zC,zD,zE,zF]
    refine Zk.fin ?_
    refine Zk.rd (i:=18) rfl (fun K hK=>?_)
    go_simp
    refine hK.out _ _ (by assumption) (fun hHeld=>?_)
    clear hK K
    try simp only [Act.put,zA,zB,zC,zD,zE,zF]
    refine wpAnyH_done (by kernel_rfl) ?_ _
    go_wp2
    go_ret
    exact ⟨rfl,BV.out.trans (hHeld.2.mono BV.out.size)⟩
  ·obtain rfl:t=false:=by rw [← ht];unfold qI7;rw [ht1];simp [inR,hu]
   clear ht ht1
   go_enter Tryz.func64,Tryz.ntmps64
   go_upto_region 1 with fail
   rw [← hV]
   clear hV
   refine wp_region_held_drew (S:=fun w'=>(∀ b o,b < V.heap.size→w'.cell? ⟨b,o,none⟩=V.cell? ⟨b,o,none⟩)∧Below V.heap.size V w') (by kernel_rfl) (qB4 _) (fun hHeld=>?_)
   refine Zk.go [0,1,2] ?_
   iterate 3
    refine Zk.st (v:=?_) rfl ?_ ?_
    rotate_left 1
    ·intro w hSw;(try dsimp only at hSw);go_simp;try (with_reducible rfl)
    try simp only [Act.put,zA,zB,zC,zD,zE,zF]
   refine Zk.fin ?_
   refine Zk.rd (i:=3) rfl (fun K hK=>?_)
   go_simp
   refine (HN.out _).mono ?_
   rintro d wA ⟨rfl,hbA⟩
   have hS:=qA0 hHeld hbA
   refine hK.out _ _ hS (fun hHeld=>?_)
   clear hK K
   try simp only [Act.put,zA,zB,zC,zD,zE,zF]
   refine Zk.rd (i:=4) rfl (fun K hK=>?_)
   go_simp
   refine (HI.out _).mono ?_
   rintro d wB ⟨rfl,hbB⟩
   have hS:=qA0 hHeld hbB
   refine hK.out _ _ hS (fun hHeld=>?_)
   clear hK K
   try simp only [Act.put,zA,zB,zC,zD,zE,zF]
   refine Zk.go [5,6,7,8,9,10,11,12,13,14,15,16,17] ?_
   iterate 6
    refine Zk.st (v:=?_) rfl ?_ ?_
    rotate_left 1
    ·intro w hSw;(try dsimp only at hSw);go_simp;try (with_reducible rfl)
    try simp only [Act.put,zA,zB,zC,zD,zE,zF]
   iterate 6 (refine Zk.un rfl ?_;try simp only [Act.put,zA,zB,zC,zD,zE,zF])
   refine Zk.st (v:=?_) rfl ?_ ?_
   rotate_left 1
   ·intro w hSw;(try dsimp only at hSw);go_simp;try (with_reducible rfl)
   try simp only [Act.put,zA,zB,zC,zD,zE,zF]
   refine Zk.fin ?_
   refine Zk.rd (i:=18) rfl (fun K hK=>?_)
   go_simp
   refine hK.out _ _ (by assumption) (fun hHeld=>?_)
   clear hK K
   try simp only [Act.put,zA,zB,zC,zD,zE,zF]
   refine wpAnyH_done (by kernel_rfl) ?_ _
   go_wp2
   go_ret
   exact ⟨rfl,BV.out.trans (hHeld.2.mono BV.out.size)⟩

def f0C (cs:List qA5):Int:=(cs[0]?.getD default).f
def qM3 (E:qI1) (cs:List qA5) (r:qH5):Int:=if qB8 cs=0 then (if qI7 (f0C cs) r=true then (if 40 < r.sn then 2 else if qF6 E r.ss r.sn=some r.ls then 0 else 10) else 3) else qB8 cs
structure RW (w:World) (r:qH5) (W:World):Prop where
 bx:qE8 w.heap.size [.int .i64 r.i,.int .i64 r.u,.slice r.sa r.sn r.sc,.slice r.la r.ln r.lc] W
 rs:qG2 (w.heap.size+1) [.slice none 0 0,.slice none 0 0,.slice none 0 0] W
 lt:w.heap.size+1 < W.heap.size
 bl:Below w.heap.size w W
theorem RW.below {w:World} {r:qH5} {W W':World} (h:RW w r W) (hb:Below W.heap.size W W'):RW w r W' :=
 ⟨((qE8.hold h.bx (Nat.lt_of_succ_lt h.lt)).below hb).out,qG2.below h.rs h.lt hb,Nat.lt_of_lt_of_le h.lt hb.size,h.bl.trans (hb.mono h.bl.size)⟩
theorem RW.new (w:World) (r:qH5):RW w r ((w.alloc (.cells #[.int .i64 r.i,.int .i64 r.u,.slice r.sa r.sn r.sc,.slice r.la r.ln r.lc] 33)).alloc (.cells #[.slice none 0 0,.slice none 0 0,.slice none 0 0] 74)):=by
 have e:w.heap.size+1=(w.alloc (.cells #[.int .i64 r.i,.int .i64 r.u,.slice r.sa r.sn r.sc,.slice r.la r.ln r.lc] 33)).heap.size:=by simp
 refine ⟨((qF2 w _ _).below (zN)).out,?_,by simp,(zN).alloc (by simp) _⟩
 rw [e]
 exact qE0 _ _ _
def RebR (r:qH5) (a:Option Addr) (m cap:Nat) (k:Int) (w:World) (d:Ending) (w':World):Prop :=
 Below w.heap.size w w'∧(k≠0→d = .returned (.tuple #[.agg #[.slice none 0 0,.slice none 0 0,.slice none 0 0],.int .i64 k]))∧(k=0→∃ (sa:Option Addr) (sc:Nat) (la:Option Addr) (lc:Nat),d = .returned (.tuple #[.agg #[.slice a m cap,.slice sa r.sn sc,.slice la r.ln lc],.int .i64 0])∧qB1 w' w.heap.size (.slice sa r.sn sc) r.ss∧qA4 w' w.heap.size (.slice la r.ln lc) r.ls)
theorem f_of {c:qA5} (h:qU8 c=0):1≤c.f∧c.f≤2:=by
 have:=(QF9 h).2.1
 simpa [inR] using this
theorem QY7 (E:qI1) (r:qH5) (a:Option Addr) (m cap:Nat) (cs:List qA5) (w:World) (hr:qE7 w r) (hle:qL6 1048576 r) (hc:qA7 w a m cs) (hcl:qF5 1048576 cs) (hm:m≤1048576) (hEr:qO1 0 w) (hH:qE2 w) (k:Int) (hk:qB8 cs=k) (hk0:k≠0) :
  Calls Tryz.prog 37 #[.agg #[.int .i64 r.i,.int .i64 r.u,.slice r.sa r.sn r.sc,.slice r.la r.ln r.lc],.slice a m cap] w fun d w'=>RebR r a m cap k w d w':=by
 have hsn:=hle.said
 have hln:=hle.locks
 have hsn':(r.sn:Int)≤1048576:=by omega
 have HCF:Hid (∀ W:World,Below w.heap.size w W→Calls Tryz.prog 63 #[.slice a m cap] W fun e w'=>e = .returned (.int .i64 k)∧Below W.heap.size W w'):=fun W hb=>by rw [← hk];exact qJ7 a m cap cs W hm hcl (hc.below hb)
 obtain ⟨V,hV⟩:∃ V,V=(w.alloc (.cells #[.int .i64 r.i,.int .i64 r.u,.slice r.sa r.sn r.sc,.slice r.la r.ln r.lc] 33)).alloc (.cells #[.slice none 0 0,.slice none 0 0,.slice none 0 0] 74):=⟨_,rfl⟩
 have W0:Hid (RW w r V):=by show RW w r V;rw [hV];exact RW.new w r
 have kb:(k != 0)=true:=by simp [hk0]
 clear hr hc hcl hEr hH hk hle
 go_enter Tryz.func37,Tryz.ntmps37
 go_upto_region 1 with fail
 rw [← hV]
 clear hV
 go_wp2_with fail
 refine (HCF.out _ W0.out.bl).mono ?_
 rintro d w1 ⟨rfl,hb1⟩
 have W1b:=qC8 (W0.out.below hb1)
 clear hb1 W0 HCF
 have u0:=W1b.out.rs.1 0 _ rfl
 have u1:=W1b.out.rs.1 1 _ rfl
 have u2:=W1b.out.rs.1 2 _ rfl
 have f0:=W1b.out.rs.2 0
 have f1:=W1b.out.rs.2 1
 have f2:=W1b.out.rs.2 2
 have hul:=W1b.out.lt
 go_wp2_with fail
 refine bodyPost_ret (v:=.tuple #[.agg #[.slice none 0 0,.slice none 0 0,.slice none 0 0],.int .i64 k]) (by simp [results,Tryz.results37,go_sem,u0,u1,u2,hul]) rfl ?_
 exact ⟨((W1b.out.bl.setCell (Nat.le_succ _) _).setCell (Nat.le_succ _) _).setCell (Nat.le_succ _) _,fun _=>rfl,fun q=>absurd q (by first | assumption | decide)⟩
theorem QO8 (E:qI1) (r:qH5) (a:Option Addr) (m cap:Nat) (cs:List qA5) (w:World) (hr:qE7 w r) (hle:qL6 1048576 r) (hc:qA7 w a m cs) (hcl:qF5 1048576 cs) (hm:m≤1048576) (hEr:qO1 0 w) (hH:qE2 w) (hk:qB8 cs=0) (hbd:qI7 (f0C cs) r=false) :
  Calls Tryz.prog 37 #[.agg #[.int .i64 r.i,.int .i64 r.u,.slice r.sa r.sn r.sc,.slice r.la r.ln r.lc],.slice a m cap] w fun d w'=>RebR r a m cap 3 w d w':=by
 have hsn:=hle.said
 have hln:=hle.locks
 have hsn':(r.sn:Int)≤1048576:=by omega
 have HCF:Hid (∀ W:World,Below w.heap.size w W→Calls Tryz.prog 63 #[.slice a m cap] W fun e w'=>e = .returned (.int .i64 0)∧Below W.heap.size W w'):=fun W hb=>by rw [← hk];exact qJ7 a m cap cs W hm hcl (hc.below hb)
 obtain ⟨V,hV⟩:∃ V,V=(w.alloc (.cells #[.int .i64 r.i,.int .i64 r.u,.slice r.sa r.sn r.sc,.slice r.la r.ln r.lc] 33)).alloc (.cells #[.slice none 0 0,.slice none 0 0,.slice none 0 0] 74):=⟨_,rfl⟩
 have W0:Hid (RW w r V):=by show RW w r V;rw [hV];exact RW.new w r
 obtain ⟨hm1,hm8,hok⟩:=qU0 hk
 have hml:cs.length=m:=hc.len
 have hm0:0 < m:=by omega
 have hm0':(0:Int) < (m:Int):=by omega
 obtain ⟨g,off,c0,rfl,hc0,hat,_⟩:=hc.at hm0
 obtain ⟨v0,v1,v2,v3,v4⟩:=hat
 simp only [Nat.zero_mul,Nat.add_zero] at v0 v1 v2 v3 v4
 have hgl:=zL w _ v0
 have hf0:f0C cs=c0.f:=by unfold f0C;rw [hc0];rfl
 have hff:1≤c0.f∧c0.f≤2:=f_of (hok 0 c0 hc0).1
 have HIB:Hid (∀ W:World,Calls Tryz.prog 64 #[.agg #[.int .i64 r.i,.int .i64 r.u,.slice r.sa r.sn r.sc,.slice r.la r.ln r.lc],.int .i64 c0.f] W fun e w'=>e = .returned (.bool false)∧Below W.heap.size W w'):=fun W=>by rw [← hbd,hf0];exact qS4 c0.f hff r W hsn
 have V1:Hid (∀ W:World,Below w.heap.size w W→W.cell? ⟨g,off+1,none⟩=some (.int .i64 c0.f)):=fun W hb=>(hb.cell (p:=⟨g,off+1,none⟩) hgl).trans v1
 clear hok v0 v1 v2 v3 v4 hc0 hf0 hff hbd hml
 clear hr hc hcl hEr hH hk hle
 go_enter Tryz.func37,Tryz.ntmps37
 go_upto_region 1 with fail
 rw [← hV]
 clear hV
 go_wp2_with fail
 refine (HCF.out _ W0.out.bl).mono ?_
 rintro d w1 ⟨rfl,hb1⟩
 have W1b:=qC8 (W0.out.below hb1)
 clear hb1 W0 HCF
 have x0:=W1b.out.bx 0 _ rfl
 have x1:=W1b.out.bx 1 _ rfl
 have x2:=W1b.out.bx 2 _ rfl
 have x3:=W1b.out.bx 3 _ rfl
 have y1:=V1.out _ W1b.out.bl
 have hxl:w.heap.size < w1.heap.size:=Nat.lt_of_succ_lt W1b.out.lt
 have hgl1:g < w1.heap.size:=Nat.lt_of_lt_of_le hgl W1b.out.bl.size
 go_upto_region 4 with fail
 refine wp_region_held_drew (S:=fun w'=>(∀ b o,b < w1.heap.size→w'.cell? ⟨b,o,none⟩=w1.cell? ⟨b,o,none⟩)∧Below w1.heap.size w1 w') (by kernel_rfl) (qB4 _) (fun hHeld=>?_)
 refine Zk.go [0,1,2,3,4] ?_
 iterate 5
  refine Zk.st (v:=?_) rfl ?_ ?_
  rotate_left 1
  ·intro w hSw;(try dsimp only at hSw);go_simp;try (with_reducible rfl)
  try simp only [Act.put,zA,zB,zC,zD,zE,zF]
 refine Zk.fin ?_
 refine Zk.rd (i:=5) rfl (fun K hK=>?_)
 go_simp
 refine (HIB.out _).mono ?_
 rintro d w2 ⟨rfl,hb2⟩
 have hS:=qA0 hHeld hb2
 refine hK.out _ _ hS (fun hHeld=>?_)
 clear hK K
 try simp only [Act.put,zA,zB,zC,zD,zE,zF]
 refine Zk.go [6] ?_
 refine Zk.st (v:=?_) rfl ?_ ?_
 rotate_left 1
 ·intro w hSw;(try dsimp only at hSw);go_simp;try (with_reducible rfl)
 try simp only [Act.put,zA,zB,zC,zD,zE,zF]
 refine Zk.fin ?_
 refine wpAnyH_done (by kernel_rfl) ?_ _
 have W2b:=qC8 (W1b.out.below hS.2)
 clear hHeld hS W1b x0 x1 x2 x3 y1 hb2 HIB hxl hgl1
 have u0:=W2b.out.rs.1 0 _ rfl
 have u1:=W2b.out.rs.1 1 _ rfl
 have u2:=W2b.out.rs.1 2 _ rfl
 have f0:=W2b.out.rs.2 0
 have f1:=W2b.out.rs.2 1
 have f2:=W2b.out.rs.2 2
 have hul:=W2b.out.lt
 go_wp2_with fail
 refine bodyPost_ret (v:=.tuple #[.agg #[.slice none 0 0,.slice none 0 0,.slice none 0 0],.int .i64 3]) (by simp [results,Tryz.results37,go_sem,u0,u1,u2,hul]) rfl ?_
 exact ⟨((W2b.out.bl.setCell (Nat.le_succ _) _).setCell (Nat.le_succ _) _).setCell (Nat.le_succ _) _,fun _=>rfl,fun q=>absurd q (by first | assumption | decide)⟩
theorem QY6 (E:qI1) (r:qH5) (a:Option Addr) (m cap:Nat) (cs:List qA5) (w:World) (hr:qE7 w r) (hle:qL6 1048576 r) (hc:qA7 w a m cs) (hcl:qF5 1048576 cs) (hm:m≤1048576) (hEr:qO1 0 w) (hH:qE2 w) (hk:qB8 cs=0) (hbd:qI7 (f0C cs) r=true) (h40:40 < r.sn) :
  Calls Tryz.prog 37 #[.agg #[.int .i64 r.i,.int .i64 r.u,.slice r.sa r.sn r.sc,.slice r.la r.ln r.lc],.slice a m cap] w fun d w'=>RebR r a m cap 2 w d w':=by
 have hsn:=hle.said
 have hln:=hle.locks
 have hsn':(r.sn:Int)≤1048576:=by omega
 have HCF:Hid (∀ W:World,Below w.heap.size w W→Calls Tryz.prog 63 #[.slice a m cap] W fun e w'=>e = .returned (.int .i64 0)∧Below W.heap.size W w'):=fun W hb=>by rw [← hk];exact qJ7 a m cap cs W hm hcl (hc.below hb)
 obtain ⟨V,hV⟩:∃ V,V=(w.alloc (.cells #[.int .i64 r.i,.int .i64 r.u,.slice r.sa r.sn r.sc,.slice r.la r.ln r.lc] 33)).alloc (.cells #[.slice none 0 0,.slice none 0 0,.slice none 0 0] 74):=⟨_,rfl⟩
 have W0:Hid (RW w r V):=by show RW w r V;rw [hV];exact RW.new w r
 obtain ⟨hm1,hm8,hok⟩:=qU0 hk
 have hml:cs.length=m:=hc.len
 have hm0:0 < m:=by omega
 have hm0':(0:Int) < (m:Int):=by omega
 obtain ⟨g,off,c0,rfl,hc0,hat,_⟩:=hc.at hm0
 obtain ⟨v0,v1,v2,v3,v4⟩:=hat
 simp only [Nat.zero_mul,Nat.add_zero] at v0 v1 v2 v3 v4
 have hgl:=zL w _ v0
 have hf0:f0C cs=c0.f:=by unfold f0C;rw [hc0];rfl
 have hff:1≤c0.f∧c0.f≤2:=f_of (hok 0 c0 hc0).1
 have HIB:Hid (∀ W:World,Calls Tryz.prog 64 #[.agg #[.int .i64 r.i,.int .i64 r.u,.slice r.sa r.sn r.sc,.slice r.la r.ln r.lc],.int .i64 c0.f] W fun e w'=>e = .returned (.bool true)∧Below W.heap.size W w'):=fun W=>by rw [← hbd,hf0];exact qS4 c0.f hff r W hsn
 have V1:Hid (∀ W:World,Below w.heap.size w W→W.cell? ⟨g,off+1,none⟩=some (.int .i64 c0.f)):=fun W hb=>(hb.cell (p:=⟨g,off+1,none⟩) hgl).trans v1
 have h40':(40:Int) < (r.sn:Int):=by omega
 clear hok v0 v1 v2 v3 v4 hc0 hf0 hff hbd hml
 clear hr hc hcl hEr hH hk hle
 go_enter Tryz.func37,Tryz.ntmps37
 go_upto_region 1 with fail
 rw [← hV]
 clear hV
 go_wp2_with fail
 refine (HCF.out _ W0.out.bl).mono ?_
 rintro d w1 ⟨rfl,hb1⟩
 have W1b:=qC8 (W0.out.below hb1)
 clear hb1 W0 HCF
 have x0:=W1b.out.bx 0 _ rfl
 have x1:=W1b.out.bx 1 _ rfl
 have x2:=W1b.out.bx 2 _ rfl
 have x3:=W1b.out.bx 3 _ rfl
 have y1:=V1.out _ W1b.out.bl
 have hxl:w.heap.size < w1.heap.size:=Nat.lt_of_succ_lt W1b.out.lt
 have hgl1:g < w1.heap.size:=Nat.lt_of_lt_of_le hgl W1b.out.bl.size
 go_upto_region 4 with fail
 refine wp_region_held_drew (S:=fun w'=>(∀ b o,b < w1.heap.size→w'.cell? ⟨b,o,none⟩=w1.cell? ⟨b,o,none⟩)∧Below w1.heap.size w1 w') (by kernel_rfl) (qB4 _) (fun hHeld=>?_)
 refine Zk.go [0,1,2,3,4] ?_
 iterate 5
  refine Zk.st (v:=?_) rfl ?_ ?_
  rotate_left 1
  ·intro w hSw;(try dsimp only at hSw);go_simp;try (with_reducible rfl)
  try simp only [Act.put,zA,zB,zC,zD,zE,zF]
 refine Zk.fin ?_
 refine Zk.rd (i:=5) rfl (fun K hK=>?_)
 go_simp
 refine (HIB.out _).mono ?_
 rintro d w2 ⟨rfl,hb2⟩
 have hS:=qA0 hHeld hb2
 refine hK.out _ _ hS (fun hHeld=>?_)
 clear hK K
 try simp only [Act.put,zA,zB,zC,zD,zE,zF]
 refine Zk.go [6] ?_
 refine Zk.st (v:=?_) rfl ?_ ?_
 rotate_left 1
 ·intro w hSw;(try dsimp only at hSw);go_simp;try (with_reducible rfl)
 try simp only [Act.put,zA,zB,zC,zD,zE,zF]
 refine Zk.fin ?_
 refine wpAnyH_done (by kernel_rfl) ?_ _
 have W2b:=qC8 (W1b.out.below hS.2)
 clear hHeld hS W1b x0 x1 x2 x3 y1 hb2 HIB hxl hgl1
 have x2:=W2b.out.bx 2 _ rfl
 have hxl:w.heap.size < w2.heap.size:=Nat.lt_of_succ_lt W2b.out.lt
 have u0:=W2b.out.rs.1 0 _ rfl
 have u1:=W2b.out.rs.1 1 _ rfl
 have u2:=W2b.out.rs.1 2 _ rfl
 have f0:=W2b.out.rs.2 0
 have f1:=W2b.out.rs.2 1
 have f2:=W2b.out.rs.2 2
 have hul:=W2b.out.lt
 go_wp2_with fail
 refine bodyPost_ret (v:=.tuple #[.agg #[.slice none 0 0,.slice none 0 0,.slice none 0 0],.int .i64 2]) (by simp [results,Tryz.results37,go_sem,u0,u1,u2,hul]) rfl ?_
 exact ⟨((W2b.out.bl.setCell (Nat.le_succ _) _).setCell (Nat.le_succ _) _).setCell (Nat.le_succ _) _,fun _=>rfl,fun q=>absurd q (by first | assumption | decide)⟩
theorem QY5 (E:qI1) (r:qH5) (a:Option Addr) (m cap:Nat) (cs:List qA5) (w:World) (hr:qE7 w r) (hle:qL6 1048576 r) (hc:qA7 w a m cs) (hcl:qF5 1048576 cs) (hm:m≤1048576) (hEr:qO1 0 w) (hH:qE2 w) (hk:qB8 cs=0) (hEC:qO2 E cs) (hbd:qI7 (f0C cs) r=true) (h40:r.sn≤40) (o:Option (List LkI)) (ho:qF6 E r.ss r.sn=o) (hno:o=none) :
  Calls Tryz.prog 37 #[.agg #[.int .i64 r.i,.int .i64 r.u,.slice r.sa r.sn r.sc,.slice r.la r.ln r.lc],.slice a m cap] w fun d w'=>RebR r a m cap 10 w d w':=by
 have hsn:=hle.said
 have hln:=hle.locks
 have hsn':(r.sn:Int)≤1048576:=by omega
 have HCF:Hid (∀ W:World,Below w.heap.size w W→Calls Tryz.prog 63 #[.slice a m cap] W fun e w'=>e = .returned (.int .i64 0)∧Below W.heap.size W w'):=fun W hb=>by rw [← hk];exact qJ7 a m cap cs W hm hcl (hc.below hb)
 obtain ⟨V,hV⟩:∃ V,V=(w.alloc (.cells #[.int .i64 r.i,.int .i64 r.u,.slice r.sa r.sn r.sc,.slice r.la r.ln r.lc] 33)).alloc (.cells #[.slice none 0 0,.slice none 0 0,.slice none 0 0] 74):=⟨_,rfl⟩
 have W0:Hid (RW w r V):=by show RW w r V;rw [hV];exact RW.new w r
 obtain ⟨hm1,hm8,hok⟩:=qU0 hk
 have hml:cs.length=m:=hc.len
 have hm0:0 < m:=by omega
 have hm0':(0:Int) < (m:Int):=by omega
 obtain ⟨g,off,c0,rfl,hc0,hat,_⟩:=hc.at hm0
 obtain ⟨v0,v1,v2,v3,v4⟩:=hat
 simp only [Nat.zero_mul,Nat.add_zero] at v0 v1 v2 v3 v4
 have hgl:=zL w _ v0
 have hf0:f0C cs=c0.f:=by unfold f0C;rw [hc0];rfl
 have hff:1≤c0.f∧c0.f≤2:=f_of (hok 0 c0 hc0).1
 have HIB:Hid (∀ W:World,Calls Tryz.prog 64 #[.agg #[.int .i64 r.i,.int .i64 r.u,.slice r.sa r.sn r.sc,.slice r.la r.ln r.lc],.int .i64 c0.f] W fun e w'=>e = .returned (.bool true)∧Below W.heap.size W w'):=fun W=>by rw [← hbd,hf0];exact qS4 c0.f hff r W hsn
 have V1:Hid (∀ W:World,Below w.heap.size w W→W.cell? ⟨g,off+1,none⟩=some (.int .i64 c0.f)):=fun W hb=>(hb.cell (p:=⟨g,off+1,none⟩) hgl).trans v1
 have h40':(r.sn:Int)≤40:=by omega
 have HSP:Hid (∀ W:World,Below w.heap.size w W→Calls Tryz.prog 53 #[.slice (some ⟨g,off,none⟩) m cap,.slice r.sa r.sn r.sc] W fun d w'=>SpkR (some ⟨g,off,none⟩) m cap r.ss r.sn o W d w'):=fun W hb=>by
  rw [← ho]
  exact QB8 E _ m cap cs r.sa r.sn r.sc r.ss W hEC (fun W' hb'=>⟨hc.below (hb.trans (hb'.mono hb.size)),hEr.below (hb.trans (hb'.mono hb.size)),hH.below (hb.trans (hb'.mono hb.size))⟩) hm0 (by omega) (hr.said.below hb) hsn
 have HLR:Hid (∀ W:World,Below w.heap.size w W→qK1 W r.la r.ln r.ls):=fun W hb=>hr.locks.below hb
 have HLN:Hid (r.ls.length=r.ln):=hr.locks.1
 clear ho hEC
 clear hok v0 v1 v2 v3 v4 hc0 hf0 hff hbd hml
 clear hr hc hcl hEr hH hk hle
 go_enter Tryz.func37,Tryz.ntmps37
 go_upto_region 1 with fail
 rw [← hV]
 clear hV
 go_wp2_with fail
 refine (HCF.out _ W0.out.bl).mono ?_
 rintro d w1 ⟨rfl,hb1⟩
 have W1b:=qC8 (W0.out.below hb1)
 clear hb1 W0 HCF
 have x0:=W1b.out.bx 0 _ rfl
 have x1:=W1b.out.bx 1 _ rfl
 have x2:=W1b.out.bx 2 _ rfl
 have x3:=W1b.out.bx 3 _ rfl
 have y1:=V1.out _ W1b.out.bl
 have hxl:w.heap.size < w1.heap.size:=Nat.lt_of_succ_lt W1b.out.lt
 have hgl1:g < w1.heap.size:=Nat.lt_of_lt_of_le hgl W1b.out.bl.size
 go_upto_region 4 with fail
 refine wp_region_held_drew (S:=fun w'=>(∀ b o,b < w1.heap.size→w'.cell? ⟨b,o,none⟩=w1.cell? ⟨b,o,none⟩)∧Below w1.heap.size w1 w') (by kernel_rfl) (qB4 _) (fun hHeld=>?_)
 refine Zk.go [0,1,2,3,4] ?_
 iterate 5
  refine Zk.st (v:=?_) rfl ?_ ?_
  rotate_left 1
  ·intro w hSw;(try dsimp only at hSw);go_simp;try (with_reducible rfl)
  try simp only [Act.put,zA,zB,zC,zD,zE,zF]
 refine Zk.fin ?_
 refine Zk.rd (i:=5) rfl (fun K hK=>?_)
 go_simp
 refine (HIB.out _).mono ?_
 rintro d w2 ⟨rfl,hb2⟩
 have hS:=qA0 hHeld hb2
 refine hK.out _ _ hS (fun hHeld=>?_)
 clear hK K
 try simp only [Act.put,zA,zB,zC,zD,zE,zF]
 refine Zk.go [6] ?_
 refine Zk.st (v:=?_) rfl ?_ ?_
 rotate_left 1
 ·intro w hSw;(try dsimp only at hSw);go_simp;try (with_reducible rfl)
 try simp only [Act.put,zA,zB,zC,zD,zE,zF]
 refine Zk.fin ?_
 refine wpAnyH_done (by kernel_rfl) ?_ _
 have W2b:=qC8 (W1b.out.below hS.2)
 clear hHeld hS W1b x0 x1 x2 x3 y1 hb2 HIB hxl hgl1
 have x2:=W2b.out.bx 2 _ rfl
 have hxl:w.heap.size < w2.heap.size:=Nat.lt_of_succ_lt W2b.out.lt
 go_wp2_with fail
 refine (HSP.out _ W2b.out.bl).mono ?_
 rintro d w3 ⟨hb3,hs1,hs2⟩
 have W3b:=qC8 (W2b.out.below hb3)
 clear x2 hxl
 obtain ⟨qa,qn,qc,ra,rn,rc,rfl⟩:=hs2 hno
 have W4b:=qC8 (W3b.out.below ((Below.refl _ _).alloc (Nat.le_refl _) (.cells #[.slice (some ⟨g,off,none⟩) m cap,.slice qa qn qc,.slice ra rn rc] 74)))
 clear hs1 hs2 hb3 W3b W2b
 have u0:=W4b.out.rs.1 0 _ rfl
 have u1:=W4b.out.rs.1 1 _ rfl
 have u2:=W4b.out.rs.1 2 _ rfl
 have f0:=W4b.out.rs.2 0
 have f1:=W4b.out.rs.2 1
 have f2:=W4b.out.rs.2 2
 have hul:=W4b.out.lt
 go_wp2_with fail
 refine bodyPost_ret (v:=.tuple #[.agg #[.slice none 0 0,.slice none 0 0,.slice none 0 0],.int .i64 10]) (by simp [results,Tryz.results37,go_sem,u0,u1,u2,hul]) rfl ?_
 exact ⟨((W4b.out.bl.setCell (Nat.le_succ _) _).setCell (Nat.le_succ _) _).setCell (Nat.le_succ _) _,fun _=>rfl,fun q=>absurd q (by first | assumption | decide)⟩
theorem QT7 (E:qI1) (r:qH5) (a:Option Addr) (m cap:Nat) (cs:List qA5) (w:World) (hr:qE7 w r) (hle:qL6 1048576 r) (hc:qA7 w a m cs) (hcl:qF5 1048576 cs) (hm:m≤1048576) (hEr:qO1 0 w) (hH:qE2 w) (hk:qB8 cs=0) (hEC:qO2 E cs) (hbd:qI7 (f0C cs) r=true) (h40:r.sn≤40) (o:Option (List LkI)) (ho:qF6 E r.ss r.sn=o) (ls:List LkI) (hso:o=some ls) (hll:ls.length≤1048576) (hde:decide (ls=r.ls)=false) :
  Calls Tryz.prog 37 #[.agg #[.int .i64 r.i,.int .i64 r.u,.slice r.sa r.sn r.sc,.slice r.la r.ln r.lc],.slice a m cap] w fun d w'=>RebR r a m cap 10 w d w':=by
 have hsn:=hle.said
 have hln:=hle.locks
 have hsn':(r.sn:Int)≤1048576:=by omega
 have HCF:Hid (∀ W:World,Below w.heap.size w W→Calls Tryz.prog 63 #[.slice a m cap] W fun e w'=>e = .returned (.int .i64 0)∧Below W.heap.size W w'):=fun W hb=>by rw [← hk];exact qJ7 a m cap cs W hm hcl (hc.below hb)
 obtain ⟨V,hV⟩:∃ V,V=(w.alloc (.cells #[.int .i64 r.i,.int .i64 r.u,.slice r.sa r.sn r.sc,.slice r.la r.ln r.lc] 33)).alloc (.cells #[.slice none 0 0,.slice none 0 0,.slice none 0 0] 74):=⟨_,rfl⟩
 have W0:Hid (RW w r V):=by show RW w r V;rw [hV];exact RW.new w r
 obtain ⟨hm1,hm8,hok⟩:=qU0 hk
 have hml:cs.length=m:=hc.len
 have hm0:0 < m:=by omega
 have hm0':(0:Int) < (m:Int):=by omega
 obtain ⟨g,off,c0,rfl,hc0,hat,_⟩:=hc.at hm0
 obtain ⟨v0,v1,v2,v3,v4⟩:=hat
 simp only [Nat.zero_mul,Nat.add_zero] at v0 v1 v2 v3 v4
 have hgl:=zL w _ v0
 have hf0:f0C cs=c0.f:=by unfold f0C;rw [hc0];rfl
 have hff:1≤c0.f∧c0.f≤2:=f_of (hok 0 c0 hc0).1
 have HIB:Hid (∀ W:World,Calls Tryz.prog 64 #[.agg #[.int .i64 r.i,.int .i64 r.u,.slice r.sa r.sn r.sc,.slice r.la r.ln r.lc],.int .i64 c0.f] W fun e w'=>e = .returned (.bool true)∧Below W.heap.size W w'):=fun W=>by rw [← hbd,hf0];exact qS4 c0.f hff r W hsn
 have V1:Hid (∀ W:World,Below w.heap.size w W→W.cell? ⟨g,off+1,none⟩=some (.int .i64 c0.f)):=fun W hb=>(hb.cell (p:=⟨g,off+1,none⟩) hgl).trans v1
 have h40':(r.sn:Int)≤40:=by omega
 have HSP:Hid (∀ W:World,Below w.heap.size w W→Calls Tryz.prog 53 #[.slice (some ⟨g,off,none⟩) m cap,.slice r.sa r.sn r.sc] W fun d w'=>SpkR (some ⟨g,off,none⟩) m cap r.ss r.sn o W d w'):=fun W hb=>by
  rw [← ho]
  exact QB8 E _ m cap cs r.sa r.sn r.sc r.ss W hEC (fun W' hb'=>⟨hc.below (hb.trans (hb'.mono hb.size)),hEr.below (hb.trans (hb'.mono hb.size)),hH.below (hb.trans (hb'.mono hb.size))⟩) hm0 (by omega) (hr.said.below hb) hsn
 have HLR:Hid (∀ W:World,Below w.heap.size w W→qK1 W r.la r.ln r.ls):=fun W hb=>hr.locks.below hb
 have HLN:Hid (r.ls.length=r.ln):=hr.locks.1
 have HEQ:Hid (∀ (W:World) (la:Option Addr) (lc:Nat),qK1 W la ls.length ls→Below w.heap.size w W→Calls Tryz.prog 65 #[.slice la ls.length lc,.slice r.la r.ln r.lc] W fun e w'=>e = .returned (.bool false)∧Below W.heap.size W w'):=fun W la lc hl hb=>by
  have q:=QJ8 la r.la ls.length r.ln lc r.lc ls r.ls W hll hln hl (HLR.out _ hb)
  rw [hde] at q
  exact q
 clear ho hEC hde
 clear hok v0 v1 v2 v3 v4 hc0 hf0 hff hbd hml
 clear hr hc hcl hEr hH hk hle
 go_enter Tryz.func37,Tryz.ntmps37
 go_upto_region 1 with fail
 rw [← hV]
 clear hV
 go_wp2_with fail
 refine (HCF.out _ W0.out.bl).mono ?_
 rintro d w1 ⟨rfl,hb1⟩
 have W1b:=qC8 (W0.out.below hb1)
 clear hb1 W0 HCF
 have x0:=W1b.out.bx 0 _ rfl
 have x1:=W1b.out.bx 1 _ rfl
 have x2:=W1b.out.bx 2 _ rfl
 have x3:=W1b.out.bx 3 _ rfl
 have y1:=V1.out _ W1b.out.bl
 have hxl:w.heap.size < w1.heap.size:=Nat.lt_of_succ_lt W1b.out.lt
 have hgl1:g < w1.heap.size:=Nat.lt_of_lt_of_le hgl W1b.out.bl.size
 go_upto_region 4 with fail
 refine wp_region_held_drew (S:=fun w'=>(∀ b o,b < w1.heap.size→w'.cell? ⟨b,o,none⟩=w1.cell? ⟨b,o,none⟩)∧Below w1.heap.size w1 w') (by kernel_rfl) (qB4 _) (fun hHeld=>?_)
 refine Zk.go [0,1,2,3,4] ?_
 iterate 5
  refine Zk.st (v:=?_) rfl ?_ ?_
  rotate_left 1
  ·intro w hSw;(try dsimp only at hSw);go_simp;try (with_reducible rfl)
  try simp only [Act.put,zA,zB,zC,zD,zE,zF]
 refine Zk.fin ?_
 refine Zk.rd (i:=5) rfl (fun K hK=>?_)
 go_simp
 refine (HIB.out _).mono ?_
 rintro d w2 ⟨rfl,hb2⟩
 have hS:=qA0 hHeld hb2
 refine hK.out _ _ hS (fun hHeld=>?_)
 clear hK K
 try simp only [Act.put,zA,zB,zC,zD,zE,zF]
 refine Zk.go [6] ?_
 refine Zk.st (v:=?_) rfl ?_ ?_
 rotate_left 1
 ·intro w hSw;(try dsimp only at hSw);go_simp;try (with_reducible rfl)
 try simp only [Act.put,zA,zB,zC,zD,zE,zF]
 refine Zk.fin ?_
 refine wpAnyH_done (by kernel_rfl) ?_ _
 have W2b:=qC8 (W1b.out.below hS.2)
 clear hHeld hS W1b x0 x1 x2 x3 y1 hb2 HIB hxl hgl1
 have x2:=W2b.out.bx 2 _ rfl
 have hxl:w.heap.size < w2.heap.size:=Nat.lt_of_succ_lt W2b.out.lt
 go_wp2_with fail
 refine (HSP.out _ W2b.out.bl).mono ?_
 rintro d w3 ⟨hb3,hs1,hs2⟩
 have W3b:=qC8 (W2b.out.below hb3)
 clear x2 hxl
 obtain ⟨sa,sc,la,lc,rfl,ho1,ho2⟩:=hs1 ls hso
 have O1:=qC8 (ho1.below (w':=w3.alloc (.cells #[.slice (some ⟨g,off,none⟩) m cap,.slice sa r.sn sc,.slice la ls.length lc] 74)) (zN))
 have O2:=qC8 (ho2.below (w':=w3.alloc (.cells #[.slice (some ⟨g,off,none⟩) m cap,.slice sa r.sn sc,.slice la ls.length lc] 74)) (zN))
 have W4b:=qC8 (W3b.out.below ((Below.refl _ _).alloc (Nat.le_refl _) (.cells #[.slice (some ⟨g,off,none⟩) m cap,.slice sa r.sn sc,.slice la ls.length lc] 74)))
 have B2s:=W2b.out.bl.size
 have B2l:=W2b.out.lt
 obtain ⟨Y,hY⟩:∃ Y,Y=w3.alloc (.cells #[.slice (some ⟨g,off,none⟩) m cap,.slice sa r.sn sc,.slice la ls.length lc] 74):=⟨_,rfl⟩
 have XY:Hid (qE8 w3.heap.size [.slice (some ⟨g,off,none⟩) m cap,.slice sa r.sn sc,.slice la ls.length lc] Y∧w3.heap.size < Y.heap.size):=by rw [hY];exact ⟨(qF2 w3 _ _).out,by simp⟩
 rw [← hY] at O1 O2 W4b
 clear hs1 hs2 hb3 W3b W2b ho1 ho2
 go_upto_region 9 with fail
 rw [← hY]
 clear hY
 generalize w3.heap.size=q3 at XY ⊢
 have s0:=XY.out.1 0 _ rfl
 have s1:=XY.out.1 1 _ rfl
 have s2:=XY.out.1 2 _ rfl
 have hsl:=XY.out.2
 have x3:=W4b.out.bx 3 _ rfl
 have hxl:w.heap.size < Y.heap.size:=Nat.lt_of_succ_lt W4b.out.lt
 go_wp2_with fail
 refine (HEQ.out _ _ lc (LkV.isIn rfl O2.out.view) W4b.out.bl).mono ?_
 rintro d w5 ⟨rfl,hb5⟩
 have W5b:=qC8 (W4b.out.below hb5)
 clear s0 s1 s2 hsl x3 hxl
 have u0:=W5b.out.rs.1 0 _ rfl
 have u1:=W5b.out.rs.1 1 _ rfl
 have u2:=W5b.out.rs.1 2 _ rfl
 have f0:=W5b.out.rs.2 0
 have f1:=W5b.out.rs.2 1
 have f2:=W5b.out.rs.2 2
 have hul:=W5b.out.lt
 go_wp2_with fail
 refine bodyPost_ret (v:=.tuple #[.agg #[.slice none 0 0,.slice none 0 0,.slice none 0 0],.int .i64 10]) (by simp [results,Tryz.results37,go_sem,u0,u1,u2,hul]) rfl ?_
 exact ⟨((W5b.out.bl.setCell (Nat.le_succ _) _).setCell (Nat.le_succ _) _).setCell (Nat.le_succ _) _,fun _=>rfl,fun q=>absurd q (by first | assumption | decide)⟩
theorem rebuild_ok (E:qI1) (r:qH5) (a:Option Addr) (m cap:Nat) (cs:List qA5) (w:World) (hr:qE7 w r) (hle:qL6 1048576 r) (hc:qA7 w a m cs) (hcl:qF5 1048576 cs) (hm:m≤1048576) (hEr:qO1 0 w) (hH:qE2 w) (hk:qB8 cs=0) (hEC:qO2 E cs) (hbd:qI7 (f0C cs) r=true) (h40:r.sn≤40) (o:Option (List LkI)) (ho:qF6 E r.ss r.sn=o) (ls:List LkI) (hso:o=some ls) (hll:ls.length≤1048576) (hls:ls=r.ls) (hde:decide (ls=r.ls)=true) :
  Calls Tryz.prog 37 #[.agg #[.int .i64 r.i,.int .i64 r.u,.slice r.sa r.sn r.sc,.slice r.la r.ln r.lc],.slice a m cap] w fun d w'=>RebR r a m cap 0 w d w':=by
 have hsn:=hle.said
 have hln:=hle.locks
 have hsn':(r.sn:Int)≤1048576:=by omega
 have HCF:Hid (∀ W:World,Below w.heap.size w W→Calls Tryz.prog 63 #[.slice a m cap] W fun e w'=>e = .returned (.int .i64 0)∧Below W.heap.size W w'):=fun W hb=>by rw [← hk];exact qJ7 a m cap cs W hm hcl (hc.below hb)
 obtain ⟨V,hV⟩:∃ V,V=(w.alloc (.cells #[.int .i64 r.i,.int .i64 r.u,.slice r.sa r.sn r.sc,.slice r.la r.ln r.lc] 33)).alloc (.cells #[.slice none 0 0,.slice none 0 0,.slice none 0 0] 74):=⟨_,rfl⟩
 have W0:Hid (RW w r V):=by show RW w r V;rw [hV];exact RW.new w r
 obtain ⟨hm1,hm8,hok⟩:=qU0 hk
 have hml:cs.length=m:=hc.len
 have hm0:0 < m:=by omega
 have hm0':(0:Int) < (m:Int):=by omega
 obtain ⟨g,off,c0,rfl,hc0,hat,_⟩:=hc.at hm0
 obtain ⟨v0,v1,v2,v3,v4⟩:=hat
 simp only [Nat.zero_mul,Nat.add_zero] at v0 v1 v2 v3 v4
 have hgl:=zL w _ v0
 have hf0:f0C cs=c0.f:=by unfold f0C;rw [hc0];rfl
 have hff:1≤c0.f∧c0.f≤2:=f_of (hok 0 c0 hc0).1
 have HIB:Hid (∀ W:World,Calls Tryz.prog 64 #[.agg #[.int .i64 r.i,.int .i64 r.u,.slice r.sa r.sn r.sc,.slice r.la r.ln r.lc],.int .i64 c0.f] W fun e w'=>e = .returned (.bool true)∧Below W.heap.size W w'):=fun W=>by rw [← hbd,hf0];exact qS4 c0.f hff r W hsn
 have V1:Hid (∀ W:World,Below w.heap.size w W→W.cell? ⟨g,off+1,none⟩=some (.int .i64 c0.f)):=fun W hb=>(hb.cell (p:=⟨g,off+1,none⟩) hgl).trans v1
 have h40':(r.sn:Int)≤40:=by omega
 have HSP:Hid (∀ W:World,Below w.heap.size w W→Calls Tryz.prog 53 #[.slice (some ⟨g,off,none⟩) m cap,.slice r.sa r.sn r.sc] W fun d w'=>SpkR (some ⟨g,off,none⟩) m cap r.ss r.sn o W d w'):=fun W hb=>by
  rw [← ho]
  exact QB8 E _ m cap cs r.sa r.sn r.sc r.ss W hEC (fun W' hb'=>⟨hc.below (hb.trans (hb'.mono hb.size)),hEr.below (hb.trans (hb'.mono hb.size)),hH.below (hb.trans (hb'.mono hb.size))⟩) hm0 (by omega) (hr.said.below hb) hsn
 have HLR:Hid (∀ W:World,Below w.heap.size w W→qK1 W r.la r.ln r.ls):=fun W hb=>hr.locks.below hb
 have HLN:Hid (r.ls.length=r.ln):=hr.locks.1
 have HEQ:Hid (∀ (W:World) (la:Option Addr) (lc:Nat),qK1 W la ls.length ls→Below w.heap.size w W→Calls Tryz.prog 65 #[.slice la ls.length lc,.slice r.la r.ln r.lc] W fun e w'=>e = .returned (.bool true)∧Below W.heap.size W w'):=fun W la lc hl hb=>by
  have q:=QJ8 la r.la ls.length r.ln lc r.lc ls r.ls W hll hln hl (HLR.out _ hb)
  rw [hde] at q
  exact q
 have HLS:Hid (ls=r.ls):=hls
 clear ho hEC hde hls
 clear hok v0 v1 v2 v3 v4 hc0 hf0 hff hbd hml
 clear hr hc hcl hEr hH hk hle
 go_enter Tryz.func37,Tryz.ntmps37
 go_upto_region 1 with fail
 rw [← hV]
 clear hV
 go_wp2_with fail
 refine (HCF.out _ W0.out.bl).mono ?_
 rintro d w1 ⟨rfl,hb1⟩
 have W1b:=qC8 (W0.out.below hb1)
 clear hb1 W0 HCF
 have x0:=W1b.out.bx 0 _ rfl
 have x1:=W1b.out.bx 1 _ rfl
 have x2:=W1b.out.bx 2 _ rfl
 have x3:=W1b.out.bx 3 _ rfl
 have y1:=V1.out _ W1b.out.bl
 have hxl:w.heap.size < w1.heap.size:=Nat.lt_of_succ_lt W1b.out.lt
 have hgl1:g < w1.heap.size:=Nat.lt_of_lt_of_le hgl W1b.out.bl.size
 go_upto_region 4 with fail
 refine wp_region_held_drew (S:=fun w'=>(∀ b o,b < w1.heap.size→w'.cell? ⟨b,o,none⟩=w1.cell? ⟨b,o,none⟩)∧Below w1.heap.size w1 w') (by kernel_rfl) (qB4 _) (fun hHeld=>?_)
 refine Zk.go [0,1,2,3,4] ?_
 iterate 5
  refine Zk.st (v:=?_) rfl ?_ ?_
  rotate_left 1
  ·intro w hSw;(try dsimp only at hSw);go_simp;try (with_reducible rfl)
  try simp only [Act.put,zA,zB,zC,zD,zE,zF]
 refine Zk.fin ?_
 refine Zk.rd (i:=5) rfl (fun K hK=>?_)
 go_simp
 refine (HIB.out _).mono ?_
 rintro d w2 ⟨rfl,hb2⟩
 have hS:=qA0 hHeld hb2
 refine hK.out _ _ hS (fun hHeld=>?_)
 clear hK K
 try simp only [Act.put,zA,zB,zC,zD,zE,zF]
 refine Zk.go [6] ?_
 refine Zk.st (v:=?_) rfl ?_ ?_
 rotate_left 1
 ·intro w hSw;(try dsimp only at hSw);go_simp;try (with_reducible rfl)
 try simp only [Act.put,zA,zB,zC,zD,zE,zF]
 refine Zk.fin ?_
 refine wpAnyH_done (by kernel_rfl) ?_ _
 have W2b:=qC8 (W1b.out.below hS.2)
 clear hHeld hS W1b x0 x1 x2 x3 y1 hb2 HIB hxl hgl1
 have x2:=W2b.out.bx 2 _ rfl
 have hxl:w.heap.size < w2.heap.size:=Nat.lt_of_succ_lt W2b.out.lt
 go_wp2_with fail
 refine (HSP.out _ W2b.out.bl).mono ?_
 rintro d w3 ⟨hb3,hs1,hs2⟩
 have W3b:=qC8 (W2b.out.below hb3)
 clear x2 hxl
 obtain ⟨sa,sc,la,lc,rfl,ho1,ho2⟩:=hs1 ls hso
 have O1:=qC8 (ho1.below (w':=w3.alloc (.cells #[.slice (some ⟨g,off,none⟩) m cap,.slice sa r.sn sc,.slice la ls.length lc] 74)) (zN))
 have O2:=qC8 (ho2.below (w':=w3.alloc (.cells #[.slice (some ⟨g,off,none⟩) m cap,.slice sa r.sn sc,.slice la ls.length lc] 74)) (zN))
 have W4b:=qC8 (W3b.out.below ((Below.refl _ _).alloc (Nat.le_refl _) (.cells #[.slice (some ⟨g,off,none⟩) m cap,.slice sa r.sn sc,.slice la ls.length lc] 74)))
 have B2s:=W2b.out.bl.size
 have B2l:=W2b.out.lt
 obtain ⟨Y,hY⟩:∃ Y,Y=w3.alloc (.cells #[.slice (some ⟨g,off,none⟩) m cap,.slice sa r.sn sc,.slice la ls.length lc] 74):=⟨_,rfl⟩
 have XY:Hid (qE8 w3.heap.size [.slice (some ⟨g,off,none⟩) m cap,.slice sa r.sn sc,.slice la ls.length lc] Y∧w3.heap.size < Y.heap.size):=by rw [hY];exact ⟨(qF2 w3 _ _).out,by simp⟩
 rw [← hY] at O1 O2 W4b
 clear hs1 hs2 hb3 W3b W2b ho1 ho2
 go_upto_region 9 with fail
 rw [← hY]
 clear hY
 generalize w3.heap.size=q3 at XY ⊢
 have s0:=XY.out.1 0 _ rfl
 have s1:=XY.out.1 1 _ rfl
 have s2:=XY.out.1 2 _ rfl
 have hsl:=XY.out.2
 have x3:=W4b.out.bx 3 _ rfl
 have hxl:w.heap.size < Y.heap.size:=Nat.lt_of_succ_lt W4b.out.lt
 go_wp2_with fail
 refine (HEQ.out _ _ lc (LkV.isIn rfl O2.out.view) W4b.out.bl).mono ?_
 rintro d w5 ⟨rfl,hb5⟩
 have W5b:=qC8 (W4b.out.below hb5)
 have X5:qE8 q3 [.slice (some ⟨g,off,none⟩) m cap,.slice sa r.sn sc,.slice la ls.length lc] w5:=((qE8.hold XY.out.1 XY.out.2).below hb5).out
 have O5:=qC8 (O1.out.below hb5)
 have P5:=qC8 (O2.out.below hb5)
 have hq5:q3 < w5.heap.size:=Nat.lt_of_lt_of_le XY.out.2 hb5.size
 clear s0 s1 s2 hsl x3 hxl
 have s0:=X5 0 _ rfl
 have s1:=X5 1 _ rfl
 have s2:=X5 2 _ rfl
 have u0:=W5b.out.rs.1 0 _ rfl
 have u1:=W5b.out.rs.1 1 _ rfl
 have u2:=W5b.out.rs.1 2 _ rfl
 have f0:=W5b.out.rs.2 0
 have f1:=W5b.out.rs.2 1
 have f2:=W5b.out.rs.2 2
 have hul:=W5b.out.lt
 clear X5
 go_wp2_with fail
 refine bodyPost_ret (v:=.tuple #[.agg #[.slice (some ⟨g,off,none⟩) m cap,.slice sa r.sn sc,.slice la ls.length lc],.int .i64 0]) (by simp [results,Tryz.results37,go_sem,u0,u1,u2,hul]) rfl ?_
 refine ⟨((W5b.out.bl.setCell (Nat.le_succ _) _).setCell (Nat.le_succ _) _).setCell (Nat.le_succ _) _,fun q=>absurd rfl q,fun _=>?_⟩
 have hls:=HLS.out
 subst hls
 rw [HLN.out]
 refine ⟨sa,sc,la,lc,rfl,qA2 (qC5 O5.out (by omega)) (fun g' e=>?_),qA2 (?_:qA4 w5 w.heap.size (.slice la r.ln lc) r.ls) (fun g' e=>?_)⟩
 ·obtain ⟨cur,hcc,hgg⟩:=qD4 O5.out e
  have h0:=W5b.out.lt
  rw [Below.heap_setCell _ _ _ _ (by show g'≠w.heap.size+1;omega),Below.heap_setCell _ _ _ _ (by show g'≠w.heap.size+1;omega),Below.heap_setCell _ _ _ _ (by show g'≠w.heap.size+1;omega)]
 ·have:=qA9 P5.out (show w.heap.size≤_ by omega)
  rw [HLN.out] at this
  exact this
 ·have P6:=P5.out
  rw [HLN.out] at P6
  obtain ⟨cur,hcc,hgg⟩:=qD2 P6 e
  rw [Below.heap_setCell _ _ _ _ (by show g'≠w.heap.size+1;omega),Below.heap_setCell _ _ _ _ (by show g'≠w.heap.size+1;omega),Below.heap_setCell _ _ _ _ (by show g'≠w.heap.size+1;omega)]

theorem play_len {E:qI1} {xs:List StI}:∀ (k:Nat) (ls:List LkI),qF6 E xs k=some ls→k≤xs.length→ls.length≤1048576:=fun k ls h hk=>by
 have:=(QF3 k ls hk h).lk
 exact Nat.le_trans (QF5 this).1 (by omega)
theorem rebuild_c (E:qI1) (r:qH5) (a:Option Addr) (m cap:Nat) (cs:List qA5) (w:World) (hr:qE7 w r) (hle:qL6 1048576 r) (hc:qA7 w a m cs) (hcl:qF5 1048576 cs) (hm:m≤1048576) (hEr:qO1 0 w) (hH:qE2 w) (hEC:qB8 cs=0→qO2 E cs) :
  Calls Tryz.prog 37 #[.agg #[.int .i64 r.i,.int .i64 r.u,.slice r.sa r.sn r.sc,.slice r.la r.ln r.lc],.slice a m cap] w fun d w'=>RebR r a m cap (qM3 E cs r) w d w':=by
 unfold qM3
 by_cases hk:qB8 cs=0
 ·rw [if_pos hk]
  cases hb:qI7 (f0C cs) r
  ·rw [if_neg (by decide)]
   exact QO8 E r a m cap cs w hr hle hc hcl hm hEr hH hk hb
  ·rw [if_pos rfl]
   by_cases h40:40 < r.sn
   ·rw [if_pos h40]
    exact QY6 E r a m cap cs w hr hle hc hcl hm hEr hH hk hb h40
   ·rw [if_neg h40]
    cases ho:qF6 E r.ss r.sn with
    | none =>
     rw [if_neg (by intro q;cases q)]
     exact QY5 E r a m cap cs w hr hle hc hcl hm hEr hH hk (hEC hk) hb (by omega) _ ho rfl
    | some ls =>
     have hll:ls.length≤1048576:=play_len r.sn ls ho (by rw [hr.said.1];exact Nat.le_refl _)
     by_cases e:ls=r.ls
     ·rw [if_pos (by rw [e])]
      exact rebuild_ok E r a m cap cs w hr hle hc hcl hm hEr hH hk (hEC hk) hb (by omega) _ ho ls rfl hll e (decide_eq_true e)
     ·rw [if_neg (fun q=>e (Option.some.inj q))]
      exact QT7 E r a m cap cs w hr hle hc hcl hm hEr hH hk (hEC hk) hb (by omega) _ ho ls rfl hll (decide_eq_false e)
 ·rw [if_neg hk]
  exact QY7 E r a m cap cs w hr hle hc hcl hm hEr hH _ rfl hk

end Go.Proofs.YtlhgjackapdmbaaGreatDoor
