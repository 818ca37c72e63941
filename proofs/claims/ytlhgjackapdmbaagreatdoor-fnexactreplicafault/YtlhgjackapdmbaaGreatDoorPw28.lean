/- Contracts. -/
import Derived.Test.YtlhgjackapdmbaaGreatDoorPw24
namespace Go.Proofs.YtlhgjackapdmbaaGreatDoor
set_option maxRecDepth 100000
set_option maxHeartbeats 8000000
open Go.RowKit
set_option linter.unusedVariables false
set_option linter.unusedSimpArgs false

theorem QG5 {said:List StI} {k e i:Int} (h:qX6 said k e i):decide (0≤i)=qP4 said k e:=by
 rw [kindB_at]
 rcases h with ⟨rfl,q⟩ | ⟨j,x,rfl,_,q⟩
 ·rw [q];rfl
 ·rw [q];simp
theorem isSealed_c (a:Option Addr) (n cap:Nat) (said:List StI) (e:Int) (w:World) (hn:n≤1048576) (h:qL3 w a n said) :
  Calls Tryz.prog 107 #[.slice a n cap,.int .i64 e] w fun d w'=>d = .returned (.bool (qS7 said e))∧Below w.heap.size w w':=by
 have HK:Hid (∀ (k:Int) (w2:World),Below w.heap.size w w2→Calls Tryz.prog 106 #[.slice a n cap,.int .i64 k,.int .i64 e] w2 fun d w'=>(∃ i:Int,d = .returned (.int .i64 i)∧qX6 said k e i)∧Below w2.heap.size w2 w'):=fun k w2 hb=>QQ7 a n cap said k e w2 hn (h.below hb)
 clear h
 unfold qS7
 cases q:qP4 said 3 e
 ·have HQ:Hid (qP4 said 3 e=false):=q
  clear q
  obtain ⟨t,ht⟩:∃ t,qP4 said 4 e=t:=⟨_,rfl⟩
  have HT:Hid (qP4 said 4 e=t):=ht
  rw [ht,Bool.false_or]
  clear ht
  go_enter Tryz.func107,Tryz.ntmps107
  go_wp2_with fail
  refine (HK.out 3 _ (Below.refl _ _)).mono ?_
  rintro d w1 ⟨⟨i,rfl,hi⟩,hb1⟩
  have h1:=QG5 hi
  rw [HQ.out] at h1
  clear hi
  go_wp2_with fail
  refine (HK.out 4 _ hb1).mono ?_
  rintro d w2 ⟨⟨i2,rfl,hi2⟩,hb2⟩
  have h2:=QG5 hi2
  rw [HT.out] at h2
  have H2:Hid (decide (0≤i2)=t):=h2
  clear hi2 h1 h2
  go_wp2
  go_ret
  exact ⟨by rw [← H2.out];rfl,hb1.trans (hb2.mono hb1.size)⟩
 ·have HQ:Hid (qP4 said 3 e=true):=q
  clear q
  rw [Bool.true_or]
  go_enter Tryz.func107,Tryz.ntmps107
  go_wp2_with fail
  refine (HK.out 3 _ (Below.refl _ _)).mono ?_
  rintro d w1 ⟨⟨i,rfl,hi⟩,hb1⟩
  have h1:=QG5 hi
  rw [HQ.out] at h1
  clear hi
  go_wp2
  go_ret
  exact ⟨rfl,hb1⟩
theorem QU9 (r:qH2) (l:Int) (w:World) (h0:(r.sn:Int)+(r.ln:Int)≤l) (hl:l≤1048576) :
  Calls Tryz.prog 8 #[.agg #[.int .i64 r.i,.int .i64 r.u,.slice r.sa r.sn r.sc,.slice r.la r.ln r.lc],.int .i64 l] w fun e w'=>e = .returned (.int .i64 (l - r.sn - r.ln))∧Below w.heap.size w w':=by
 have h1:(r.sn:Int)≤l:=by omega
 have h2:¬ (l - (r.sn:Int) < 0):=by omega
 have h3:¬ (l - (r.sn:Int) - (r.ln:Int) < 0):=by omega
 go_enter Tryz.func8,Tryz.ntmps8
 go_wp2_with go_in
 go_ret
 exact ⟨rfl,by go_grown⟩
theorem QM2 (r:qH2) (l:Int) (w:World) (hm:r.sn≤maxLen) (h0:l < (r.sn:Int)) (hl0:0≤l) (hl:l≤1048576) :
  Calls Tryz.prog 8 #[.agg #[.int .i64 r.i,.int .i64 r.u,.slice r.sa r.sn r.sc,.slice r.la r.ln r.lc],.int .i64 l] w fun e w'=>e = .returned (.int .i64 (-1))∧Below w.heap.size w w':=by
 unfold maxLen at hm
 have hm':(r.sn:Int)≤9223372036854775807:=by omega
 clear hm
 go_enter Tryz.func8,Tryz.ntmps8
 go_wp2_with go_in
 go_ret
 exact ⟨rfl,by go_grown⟩
theorem QH5 (r:qH2) (l:Int) (w:World) (h1:(r.sn:Int)≤l) (hm:r.ln≤maxLen) (h0:l < (r.sn:Int)+(r.ln:Int)) (hl:l≤1048576) :
  Calls Tryz.prog 8 #[.agg #[.int .i64 r.i,.int .i64 r.u,.slice r.sa r.sn r.sc,.slice r.la r.ln r.lc],.int .i64 l] w fun e w'=>e = .returned (.int .i64 (-1))∧Below w.heap.size w w':=by
 unfold maxLen at hm
 have hm':(r.ln:Int)≤9223372036854775807:=by omega
 clear hm
 go_enter Tryz.func8,Tryz.ntmps8
 go_wp2_with go_in
 go_ret
 exact ⟨rfl,by go_grown⟩
theorem szReplica_c (r:qH2) (l:Int) (w:World) (hm:qM3 maxLen r) (hl0:0≤l) (hl:l≤1048576) :
  Calls Tryz.prog 8 #[.agg #[.int .i64 r.i,.int .i64 r.u,.slice r.sa r.sn r.sc,.slice r.la r.ln r.lc],.int .i64 l] w fun e w'=>(∃ v:Int,e = .returned (.int .i64 v)∧v≤l∧(0≤v→(r.sn:Int)≤l∧(r.ln:Int)≤l))∧Below w.heap.size w w':=by
 by_cases h1:(r.sn:Int)≤l
 ·by_cases h2:(r.sn:Int)+(r.ln:Int)≤l
  ·exact (QU9 r l w h2 hl).mono fun e w' h=>⟨⟨_,h.1,by omega,fun _=>by omega⟩,h.2⟩
  ·exact (QH5 r l w h1 hm.locks (by omega) hl).mono fun e w' h=>⟨⟨_,h.1,by omega,fun q=>by omega⟩,h.2⟩
 ·exact (QM2 r l w hm.said (by omega) hl0 hl).mono fun e w' h=>⟨⟨_,h.1,by omega,fun q=>by omega⟩,h.2⟩

theorem st_form {x:StI} (hk:inR x.k 1 4=true) (h:x.k < 3):qC0 x=if x.n=0 then (if inR x.e 1 9=false then 3 else if inR x.f 1 4=false then 3 else if inR x.s 1 255=false then 3 else 0) else 1:=by
 obtain ⟨k,e,f,s,n⟩:=x
 simp only at hk h ⊢
 have hf:QF5 k=true:=by rw [qF7] at hk;have : k=1∨k=2:=(by omega);rcases this with rfl | rfl <;> rfl
 have ho:ownB ⟨k,e,f,s,n⟩=decide (n=0):=by
  unfold ownB ownI
  simp only [hf,if_true,qN7]
  simp [eq_comm]
 unfold qC0 rngB
 simp only [hk,ho,hf]
 by_cases h0:n=0
 ·subst h0
  cases inR e 1 9 <;> cases inR f 1 4 <;> cases inR s 1 255 <;> simp
 ·simp [h0]
theorem st_next {x:StI} (hk:inR x.k 1 4=true) (h:3≤x.k):qC0 x=if x.f=0∧x.s=0 then (if inR x.e 1 9=false then 3 else if inR x.n 0 7=false then 3 else 0) else 1:=by
 obtain ⟨k,e,f,s,n⟩:=x
 simp only at hk h ⊢
 have hf:QF5 k=false:=by rw [qF7] at hk;have : k=3∨k=4:=(by omega);rcases this with rfl | rfl <;> rfl
 have ho:ownB ⟨k,e,f,s,n⟩=decide (f=0∧s=0):=by
  unfold ownB ownI
  simp only [hf,qN7]
  simp
 unfold qC0 rngB
 simp only [hk,ho,hf]
 by_cases h0:f=0∧s=0
 ·obtain ⟨rfl,rfl⟩:=h0
  cases inR e 1 9 <;> cases inR n 0 7 <;> simp
 ·simp [h0]
theorem in07:inR 0 0 7=true:=rfl
theorem qL8 (b o:Nat) (x:StI) (w:World) (h:qR0 w b o x):Calls Tryz.prog 74 #[.pointer (some ⟨b,o,none⟩)] w fun e w'=>e = .returned (.int .i64 (qC0 x))∧w=w':=by
 obtain ⟨x0,x1,x2,x3,x4⟩:=h
 cases hk:inR x.k 1 4
 ·have hC:qC0 x=1:=by unfold qC0;rw [if_pos hk]
  rw [hC]
  clear hC
  go_enter Tryz.func74,Tryz.ntmps74
  go_wp2_with (first | (go_at_call 51;refine (qV9 _ _ _ _).mono ?_;rintro e w' ⟨rfl,rfl⟩;rw [hk]))
  go_ret
  exact ⟨rfl,rfl⟩
 ·by_cases h3:3≤x.k
  ·rw [st_next hk h3]
   by_cases f0:x.f=0
   ·by_cases s0:x.s=0
    ·rw [if_pos ⟨f0,s0⟩]
     rw [f0] at x2
     rw [s0] at x3
     clear f0 s0
     cases he:inR x.e 1 9
     ·go_enter Tryz.func74,Tryz.ntmps74
      go_wp2_with (first | (go_at_call 51;refine (qV9 _ _ _ _).mono ?_;rintro e w' ⟨rfl,rfl⟩;rw [hk]) | (go_at_call 95;refine (qR7 _ _).mono ?_;rintro e w' ⟨rfl,rfl⟩;rw [he]))
      go_ret
      exact ⟨rfl,rfl⟩
     ·cases hn:inR x.n 0 7
      all_goals
       go_enter Tryz.func74,Tryz.ntmps74
       go_wp2_with (first | (go_at_call 51;refine (qV9 _ _ _ _).mono ?_;rintro e w' ⟨rfl,rfl⟩;rw [hk]) | (go_at_call 95;refine (qR7 _ _).mono ?_;rintro e w' ⟨rfl,rfl⟩;rw [he]) | (go_at_call 51;refine (qV9 _ _ _ _).mono ?_;rintro e w' ⟨rfl,rfl⟩;rw [hn]))
       go_ret
       exact ⟨rfl,rfl⟩
    ·rw [if_neg (fun q=>s0 q.2)]
     rw [f0] at x2
     have sb:(x.s != 0)=true:=by simpa using s0
     clear f0 s0
     go_enter Tryz.func74,Tryz.ntmps74
     go_wp2_with (first | (go_at_call 51;refine (qV9 _ _ _ _).mono ?_;rintro e w' ⟨rfl,rfl⟩;rw [hk]))
     go_ret
     exact ⟨rfl,rfl⟩
   ·rw [if_neg (fun q=>f0 q.1)]
    have fb:(x.f != 0)=true:=by simpa using f0
    clear f0
    go_enter Tryz.func74,Tryz.ntmps74
    go_wp2_with (first | (go_at_call 51;refine (qV9 _ _ _ _).mono ?_;rintro e w' ⟨rfl,rfl⟩;rw [hk]))
    go_ret
    exact ⟨rfl,rfl⟩
  ·have h3':x.k < 3:=by omega
   rw [st_form hk h3']
   clear h3
   by_cases n0:x.n=0
   ·rw [if_pos n0]
    rw [n0] at x4
    clear n0
    have hn:=in07
    cases he:inR x.e 1 9
    ·go_enter Tryz.func74,Tryz.ntmps74
     go_wp2_with (first | (go_at_call 51;refine (qV9 _ _ _ _).mono ?_;rintro e w' ⟨rfl,rfl⟩;rw [hk]) | (go_at_call 95;refine (qR7 _ _).mono ?_;rintro e w' ⟨rfl,rfl⟩;rw [he]))
     go_ret
     exact ⟨rfl,rfl⟩
    ·cases hf:inR x.f 1 4
     ·go_enter Tryz.func74,Tryz.ntmps74
      go_wp2_with (first | (go_at_call 51;refine (qV9 _ _ _ _).mono ?_;rintro e w' ⟨rfl,rfl⟩;rw [hk]) | (go_at_call 95;refine (qR7 _ _).mono ?_;rintro e w' ⟨rfl,rfl⟩;rw [he]) | (go_at_call 96;refine (sForm_c _ _).mono ?_;rintro e w' ⟨rfl,rfl⟩;rw [hf]))
      go_ret
      exact ⟨rfl,rfl⟩
     ·cases hs:inR x.s 1 255
      all_goals
       go_enter Tryz.func74,Tryz.ntmps74
       go_wp2_with (first | (go_at_call 51;refine (qV9 _ _ _ _).mono ?_;rintro e w' ⟨rfl,rfl⟩;rw [hk]) | (go_at_call 95;refine (qR7 _ _).mono ?_;rintro e w' ⟨rfl,rfl⟩;rw [he]) | (go_at_call 96;refine (sForm_c _ _).mono ?_;rintro e w' ⟨rfl,rfl⟩;rw [hf]) | (go_at_call 51;refine (qV9 _ _ _ _).mono ?_;rintro e w' ⟨rfl,rfl⟩;rw [hs]) | (go_at_call 51;refine (qV9 _ _ _ _).mono ?_;rintro e w' ⟨rfl,rfl⟩;rw [hn]))
       go_ret
       exact ⟨rfl,rfl⟩
   ·rw [if_neg n0]
    have nb:(x.n != 0)=true:=by simpa using n0
    clear n0
    go_enter Tryz.func74,Tryz.ntmps74
    go_wp2_with (first | (go_at_call 51;refine (qV9 _ _ _ _).mono ?_;rintro e w' ⟨rfl,rfl⟩;rw [hk]))
    go_ret
    exact ⟨rfl,rfl⟩

end Go.Proofs.YtlhgjackapdmbaaGreatDoor
