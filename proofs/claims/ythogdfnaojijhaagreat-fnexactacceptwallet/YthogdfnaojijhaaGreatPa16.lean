/- Contracts. -/
import Derived.Test.YthogdfnaojijhaaGreatPa07
namespace Go.Proofs.YthogdfnaojijhaaGreat
set_option maxRecDepth 100000
set_option maxHeartbeats 8000000
open Go.RowKit
set_option linter.unusedVariables false
set_option linter.unusedSimpArgs false

def swT (k:Int):ByteArray:=if k=1 then ⟨#[105,115,115,117,101]⟩ else if k=2 then ⟨#[114,101,118,111,107,101]⟩ else if k=3 then ⟨#[110,101,120,116]⟩ else if k=4 then ⟨#[116,97,107,101]⟩ else ⟨#[]⟩
def QM9 (k:Int):Bool:=decide (k=1) || decide (k=2)
def ownI (x:StI):StI:=if QM9 x.k=true then ⟨x.k,x.e,x.f,x.s,0⟩ else ⟨x.k,x.e,0,0,x.n⟩
def qE3 (x y:StI):Bool:=decide (x=y)
def ownB (x:StI):Bool:=qE3 x (ownI x)
def rngB (x:StI):Bool:=if inR x.e 1 9=false then false else if QM9 x.k=true then (if inR x.f 1 4=false then false else inR x.s 1 255) else inR x.n 0 7
def qB8 (x:StI):Int:=if inR x.k 1 4=false then 1 else if ownB x=false then 1 else if rngB x=false then 3 else 0
theorem QK8 (k:Int) (w:World):Calls Tryz.prog 114 #[.int .i64 k] w fun e w'=>e = .returned (.string (swT k))∧w=w':=by
 unfold swT
 by_cases h1:k=1
 ·subst h1;go_enter Tryz.func114,Tryz.ntmps114;go_wp2;go_ret;exact ⟨rfl,rfl⟩
 by_cases h2:k=2
 ·subst h2;go_enter Tryz.func114,Tryz.ntmps114;go_wp2;go_ret;exact ⟨rfl,rfl⟩
 by_cases h3:k=3
 ·subst h3;go_enter Tryz.func114,Tryz.ntmps114;go_wp2;go_ret;exact ⟨rfl,rfl⟩
 by_cases h4:k=4
 ·subst h4;go_enter Tryz.func114,Tryz.ntmps114;go_wp2;go_ret;exact ⟨rfl,rfl⟩
 rw [if_neg h1,if_neg h2,if_neg h3,if_neg h4]
 go_enter Tryz.func114,Tryz.ntmps114;go_wp2;go_ret;exact ⟨rfl,rfl⟩
theorem byteNe_of {a b:ByteArray} (h:a≠b):(a.toList==b.toList)=false:=by
 rw [beq_eq_false_iff_ne]
 intro e
 rw [ByteArray.toList_eq,ByteArray.toList_eq] at e
 exact h (WideShapes.bytes_inj e)
theorem sw_in {k:Int} (h:inR k 1 4=true):swT k≠⟨#[]⟩:=by
 rw [qD2] at h
 have : k=1∨k=2∨k=3∨k=4:=by omega
 rcases this with rfl | rfl | rfl | rfl <;> (intro e;have:=congrArg (fun b:ByteArray=>b.data.size) e;simp [swT] at this)
theorem sw_out {k:Int} (h:inR k 1 4=false):swT k=⟨#[]⟩:=by
 have h':¬ (1≤k∧k≤4):=fun q=>by rw [← qD2,h] at q;cases q
 unfold swT
 rw [if_neg (by omega),if_neg (by omega),if_neg (by omega),if_neg (by omega)]
theorem qN0 (k:Int) (w:World):Calls Tryz.prog 144 #[.int .i64 k] w fun e w'=>e = .returned (.bool (QM9 k))∧w=w':=by
 unfold QM9
 by_cases h1:k=1
 ·subst h1;go_enter Tryz.func144,Tryz.ntmps144;go_wp2;go_ret;exact ⟨rfl,rfl⟩
 by_cases h2:k=2
 ·subst h2;go_enter Tryz.func144,Tryz.ntmps144;go_wp2;go_ret;exact ⟨rfl,rfl⟩
 go_enter Tryz.func144,Tryz.ntmps144;go_wp2;go_ret;exact ⟨by simp [h1,h2],rfl⟩
theorem isNext_c (v:Int) (w:World):Calls Tryz.prog 147 #[.int .i64 v] w fun e w'=>e = .returned (.bool (inR v 0 7))∧w=w':=by
 unfold inR
 cases h0:decide (0≤v)
 ·go_enter Tryz.func147,Tryz.ntmps147
  go_wp2
  go_ret
  exact ⟨by simp,rfl⟩
 ·cases h1:decide (v≤7)
  all_goals
   go_enter Tryz.func147,Tryz.ntmps147
   go_wp2
   go_ret
   exact ⟨by simp,rfl⟩
def qM4 (v:Int):Int:=if inR v 0 255=true then 0 else 3
theorem QR5 (v:Int) (w:World):Calls Tryz.prog 135 #[.int .i64 v] w fun e w'=>e = .returned (.int .i64 (qM4 v))∧w=w':=by
 by_cases q0:0≤v
 ·by_cases q1:v < 256
  ·have e0:qM4 v=0:=by unfold qM4;rw [if_pos ((qD2 _ _ _).2 ⟨by omega,by omega⟩)]
   rw [e0]
   clear e0
   go_enter Tryz.func135,Tryz.ntmps135
   go_wp2
   go_ret
   exact ⟨rfl,rfl⟩
  ·have e0:qM4 v=3:=by unfold qM4;rw [if_neg (fun h=>by rw [qD2] at h;omega)]
   rw [e0]
   clear e0
   have q2:(256:Int)≤v:=by omega
   go_enter Tryz.func135,Tryz.ntmps135
   go_wp2
   go_ret
   exact ⟨rfl,rfl⟩
 ·have e0:qM4 v=3:=by unfold qM4;rw [if_neg (fun h=>by rw [qD2] at h;omega)]
  rw [e0]
  clear e0
  have q2:v < (0:Int):=by omega
  go_enter Tryz.func135,Tryz.ntmps135
  go_wp2
  go_ret
  exact ⟨rfl,rfl⟩
theorem own_c (x:StI) (w:World):Calls Tryz.prog 115 #[.agg #[.int .i64 x.k,.int .i64 x.e,.int .i64 x.f,.int .i64 x.s,.int .i64 x.n]] w fun e w'=>e = .returned (.agg #[.int .i64 (ownI x).k,.int .i64 (ownI x).e,.int .i64 (ownI x).f,.int .i64 (ownI x).s,.int .i64 (ownI x).n])∧Below w.heap.size w w':=by
 unfold ownI
 cases hk:QM9 x.k
 all_goals
  go_enter Tryz.func115,Tryz.ntmps115
  go_wp2_with (go_at_call 144;refine (qN0 _ _).mono ?_;rintro e w' ⟨rfl,rfl⟩;rw [hk])
  go_returns
  exact ⟨rfl,by go_grown⟩
theorem sameSt_mk (a0 a1 a2 a3 a4 b0 b1 b2 b3 b4:Int):qE3 ⟨a0,a1,a2,a3,a4⟩ ⟨b0,b1,b2,b3,b4⟩=(a0==b0&&a1==b1&&a2==b2&&a3==b3&&a4==b4):=by
 unfold qE3
 rw [Bool.eq_iff_iff]
 simp only [decide_eq_true_eq,StI.mk.injEq,Bool.and_eq_true,beq_iff_eq]
 constructor
 ·rintro ⟨h0,h1,h2,h3,h4⟩;exact ⟨⟨⟨⟨h0,h1⟩,h2⟩,h3⟩,h4⟩
 ·rintro ⟨⟨⟨⟨h0,h1⟩,h2⟩,h3⟩,h4⟩;exact ⟨h0,h1,h2,h3,h4⟩
theorem QK5 (x y:StI) (w:World):(binOp .eql 29 (.agg #[.int .i64 x.k,.int .i64 x.e,.int .i64 x.f,.int .i64 x.s,.int .i64 x.n]) (.agg #[.int .i64 y.k,.int .i64 y.e,.int .i64 y.f,.int .i64 y.s,.int .i64 y.n])).run Tryz.prog w = .ok (.bool (qE3 x y)) w:=by
 obtain ⟨a0,a1,a2,a3,a4⟩:=x
 obtain ⟨b0,b1,b2,b3,b4⟩:=y
 simp only
 rw [sameSt_mk]
 cases e0:(a0==b0)
 ·simp [go_sem,e0]
 cases e1:(a1==b1)
 ·simp [go_sem,e0,e1]
 cases e2:(a2==b2)
 ·simp [go_sem,e0,e1,e2]
 cases e3:(a3==b3)
 ·simp [go_sem,e0,e1,e2,e3]
 cases e4:(a4==b4)
 ·simp [go_sem,e0,e1,e2,e3,e4]
 ·simp [go_sem,e0,e1,e2,e3,e4]

theorem qX1.new (w:World) (x:StI) (t:TypeId):qX1 (w.alloc (.cells #[.int .i64 x.k,.int .i64 x.e,.int .i64 x.f,.int .i64 x.s,.int .i64 x.n] t)) w.heap.size 0 x:=by
 simp [qX1]
theorem inBounds_c (x:StI) (w:World):Calls Tryz.prog 116 #[.agg #[.int .i64 x.k,.int .i64 x.e,.int .i64 x.f,.int .i64 x.s,.int .i64 x.n]] w fun e w'=>e = .returned (.bool (rngB x))∧Below w.heap.size w w':=by
 obtain ⟨xk,xe,xf,xs,xn⟩:=x
 unfold rngB
 simp only
 cases he:inR xe 1 9
 ·go_enter Tryz.func116,Tryz.ntmps116
  go_wp2_with (go_at_call 145;refine (qM0 _ _).mono ?_;rintro e w' ⟨rfl,rfl⟩;rw [he])
  go_ret
  exact ⟨rfl,by go_grown⟩
 ·cases hk:QM9 xk
  ·cases hn:inR xn 0 7
   all_goals
    go_enter Tryz.func116,Tryz.ntmps116
    go_wp2_with (first
     | (go_at_call 145;refine (qM0 _ _).mono ?_;rintro e w' ⟨rfl,rfl⟩;rw [he])
     | (go_at_call 144;refine (qN0 _ _).mono ?_;rintro e w' ⟨rfl,rfl⟩;rw [hk])
     | (go_at_call 147;refine (isNext_c _ _).mono ?_;rintro e w' ⟨rfl,rfl⟩;rw [hn]))
    go_ret
    exact ⟨rfl,by go_grown⟩
  ·cases hf:inR xf 1 4
   ·go_enter Tryz.func116,Tryz.ntmps116
    go_wp2_with (first
     | (go_at_call 145;refine (qM0 _ _).mono ?_;rintro e w' ⟨rfl,rfl⟩;rw [he])
     | (go_at_call 144;refine (qN0 _ _).mono ?_;rintro e w' ⟨rfl,rfl⟩;rw [hk])
     | (go_at_call 146;refine (QR6 _ _).mono ?_;rintro e w' ⟨rfl,rfl⟩;rw [hf]))
    go_ret
    exact ⟨rfl,by go_grown⟩
   ·by_cases hs:xs=0
    ·subst hs
     go_enter Tryz.func116,Tryz.ntmps116
     go_wp2_with (first
      | (go_at_call 145;refine (qM0 _ _).mono ?_;rintro e w' ⟨rfl,rfl⟩;rw [he])
      | (go_at_call 144;refine (qN0 _ _).mono ?_;rintro e w' ⟨rfl,rfl⟩;rw [hk])
      | (go_at_call 146;refine (QR6 _ _).mono ?_;rintro e w' ⟨rfl,rfl⟩;rw [hf]))
     go_ret
     exact ⟨rfl,by go_grown⟩
    ·have hsb:(xs != 0)=true:=by simpa using hs
     obtain ⟨c,hc⟩:∃ c,qM4 xs=c:=⟨_,rfl⟩
     have HV:Hid (inR xs 1 255=(c==0)):=by
      show inR xs 1 255=(c==0)
      rw [← hc]
      unfold qM4
      rw [Bool.eq_iff_iff,qD2]
      by_cases q:inR xs 0 255=true
      ·rw [if_pos q]
       rw [qD2] at q
       simp
       omega
      ·rw [if_neg q]
       rw [qD2] at q
       simp
       omega
     have HC:Hid (qM4 xs=c):=hc
     clear hc hs
     go_enter Tryz.func116,Tryz.ntmps116
     go_wp2_with (first
      | (go_at_call 145;refine (qM0 _ _).mono ?_;rintro e w' ⟨rfl,rfl⟩;rw [he])
      | (go_at_call 144;refine (qN0 _ _).mono ?_;rintro e w' ⟨rfl,rfl⟩;rw [hk])
      | (go_at_call 146;refine (QR6 _ _).mono ?_;rintro e w' ⟨rfl,rfl⟩;rw [hf])
      | (go_at_call 135;refine (QR5 _ _).mono ?_;rintro e w' ⟨rfl,rfl⟩;rw [HC.out]))
     go_ret
     exact ⟨by rw [HV.out];rfl,by go_grown⟩
theorem st_neq (x y:StI) (w:World):(binOp .neq 29 (.agg #[.int .i64 x.k,.int .i64 x.e,.int .i64 x.f,.int .i64 x.s,.int .i64 x.n]) (.agg #[.int .i64 y.k,.int .i64 y.e,.int .i64 y.f,.int .i64 y.s,.int .i64 y.n])).run Tryz.prog w = .ok (.bool (!(qE3 x y))) w:=by
 have h:=QK5 x y w
 simp only [binOp,Sem.run_bind] at h ⊢
 revert h
 cases (Op.equal 29 (.agg #[.int .i64 x.k,.int .i64 x.e,.int .i64 x.f,.int .i64 x.s,.int .i64 x.n]) (.agg #[.int .i64 y.k,.int .i64 y.e,.int .i64 y.f,.int .i64 y.s,.int .i64 y.n])).run Tryz.prog w <;> simp [Result.andThen]
theorem qD7 (x:StI) (w:World):Calls Tryz.prog 77 #[.agg #[.int .i64 x.k,.int .i64 x.e,.int .i64 x.f,.int .i64 x.s,.int .i64 x.n]] w fun e w'=>e = .returned (.int .i64 (qB8 x))∧Below w.heap.size w w':=by
  obtain ⟨W,hW⟩:∃ W,W=w.alloc (.cells #[.int .i64 x.k,.int .i64 x.e,.int .i64 x.f,.int .i64 x.s,.int .i64 x.n] 29):=⟨_,rfl⟩
  have B0:Below w.heap.size w W:=by rw [hW];exact zN
  have hz:w.heap.size < W.heap.size:=by rw [hW];simp
  have HX:Hid (qX1 W w.heap.size 0 x):=by rw [hW];exact qX1.new w x _
  have HWE:Hid (W=w.alloc (.cells #[.int .i64 x.k,.int .i64 x.e,.int .i64 x.f,.int .i64 x.s,.int .i64 x.n] 29)):=hW
  clear hW
  cases hk:inR x.k 1 4
  · have HT:Hid (swT x.k=⟨#[]⟩):=sw_out hk
    have hC:Hid (qB8 x=1):=by show qB8 x=1;unfold qB8;rw [if_pos hk]
    rw [hC.out]
    clear hk
    go_enter Tryz.func77,Tryz.ntmps77
    go_wp2_with fail
    rw [← HWE.out]
    obtain ⟨x0,x1,x2,x3,x4⟩:=HX.out
    simp only [Nat.zero_add] at x0 x1 x2 x3 x4
    refine wp_region_held_drew (S:=fun w'=>(∀ b o,b < W.heap.size→w'.cell? ⟨b,o,none⟩=W.cell? ⟨b,o,none⟩)∧Below W.heap.size W w') (by kernel_rfl) (qB6 _) (fun hHeld=>?_)
    refine Zk.go [0,1] ?_
    iterate 2
      refine Zk.st (v:=?_) rfl ?_ ?_
      rotate_left 1
      · intro w hSw;(try dsimp only at hSw);go_simp;try (with_reducible rfl)
      try simp only [Act.put,zA,zB,zC,zD,zE,zF]
    refine Zk.fin ?_
    refine Zk.rd (i:=2) rfl (fun K hK=>?_)
    go_simp
    refine (QK8 _ _).mono ?_
    rintro e w' ⟨rfl,rfl⟩
    rw [HT.out]
    have hS:=hHeld
    refine hK.out _ _ hS (fun hHeld=>?_)
    clear hK K
    try simp only [Act.put,zA,zB,zC,zD,zE,zF]
    refine Zk.go [3,4,5,6,7,8,9] ?_
    iterate 2
      refine Zk.st (v:=?_) rfl ?_ ?_
      rotate_left 1
      · intro w hSw;(try dsimp only at hSw);go_simp;try (with_reducible rfl)
      try simp only [Act.put,zA,zB,zC,zD,zE,zF]
    iterate 4 (refine Zk.un rfl ?_;try simp only [Act.put,zA,zB,zC,zD,zE,zF])
    refine Zk.st (v:=?_) rfl ?_ ?_
    rotate_left 1
    · intro w hSw;(try dsimp only at hSw);go_simp;try (with_reducible rfl)
    try simp only [Act.put,zA,zB,zC,zD,zE,zF]
    refine Zk.fin ?_
    refine wpAnyH_done (by kernel_rfl) ?_ _
    go_wp2
    go_ret
    exact ⟨rfl,B0.trans (hHeld.2.mono B0.size)⟩
  · have hT0:=byteNe_of (sw_in hk)
    obtain ⟨T,hT⟩:∃ T,swT x.k=T:=⟨_,rfl⟩
    have HT:Hid (swT x.k=T):=hT
    have hw:T.toList.isEmpty=false:=by
      rw [hT] at hT0
      cases q:T.toList with
      | nil=>rw [q] at hT0;simp at hT0
      | cons a as'=>rfl
    obtain ⟨y,hy⟩:∃ y,ownI x=y:=⟨_,rfl⟩
    have HO:=own_c x
    rw [hy] at HO
    have HOO:Hid (∀ w:World,Calls Tryz.prog 115 #[.agg #[.int .i64 x.k,.int .i64 x.e,.int .i64 x.f,.int .i64 x.s,.int .i64 x.n]] w fun e w'=>e = .returned (.agg #[.int .i64 y.k,.int .i64 y.e,.int .i64 y.f,.int .i64 y.s,.int .i64 y.n])∧Below w.heap.size w w'):=HO
    have HB:Hid (∀ w:World,Calls Tryz.prog 116 #[.agg #[.int .i64 x.k,.int .i64 x.e,.int .i64 x.f,.int .i64 x.s,.int .i64 x.n]] w fun e w'=>e = .returned (.bool (rngB x))∧Below w.heap.size w w'):=inBounds_c x
    have hE:∀ w:World,_:=fun w=>st_neq x y w
    have hob:ownB x=qE3 x y:=by unfold ownB;rw [hy]
    obtain ⟨t,ht⟩:∃ t,qE3 x y=t:=⟨_,rfl⟩
    obtain ⟨r,hr⟩:∃ r,rngB x=r:=⟨_,rfl⟩
    have HC:Hid (qB8 x=if t=false then 1 else if r=false then 3 else 0):=by show qB8 x=_;unfold qB8;rw [if_neg (by rw [hk];simp),hob,ht,hr]
    rw [ht] at hE
    rw [hr] at HB
    rw [HC.out]
    clear HO hob hk hT0 hT hy ht hr
    go_enter Tryz.func77,Tryz.ntmps77
    go_wp2_with fail
    rw [← HWE.out]
    obtain ⟨x0,x1,x2,x3,x4⟩:=HX.out
    simp only [Nat.zero_add] at x0 x1 x2 x3 x4
    go_region_held3 (fun w'=>(∀ b o,b < W.heap.size→w'.cell? ⟨b,o,none⟩=W.cell? ⟨b,o,none⟩)∧Below W.heap.size W w') (first | exact hS | exact qB6 _)
      (first | (go_at_call 114;refine (QK8 _ _).mono ?_;rintro e w' ⟨rfl,rfl⟩;rw [HT.out])
             | (go_at_call 115;refine (HOO.out _).mono ?_;rintro e w' ⟨rfl,hb1⟩;have hS:=qA8 (by assumption) hb1))
    cases t
    · go_wp2
      go_ret
      exact ⟨rfl,B0.trans (hS.2.mono B0.size)⟩
    · obtain ⟨x0,x1,x2,x3,x4⟩:=HX.out.below hS.2 hz
      simp only [Nat.zero_add] at x0 x1 x2 x3 x4
      go_wp2_with fail
      refine (HB.out _).mono ?_
      rintro e w2 ⟨rfl,hb2⟩
      cases r
      all_goals
        go_wp2
        go_ret
        exact ⟨rfl,(B0.trans (hS.2.mono B0.size)).trans (hb2.mono (by have:=hS.2.size;omega))⟩

end Go.Proofs.YthogdfnaojijhaaGreat
