/- Contracts. -/
import Derived.Test.YtlhgjackapdmbaaGreatDoorPw22
import Derived.Test.YtlhgjackapdmbaaGreatDoorPw10
import Derived.Test.YtlhgjackapdmbaaGreatDoorPw20
import Derived.Shelf.SlSortCmp.WholeK
import Derived.Sort.OwnSorted
namespace Go.Proofs.YtlhgjackapdmbaaGreatDoor
set_option maxRecDepth 100000
set_option maxHeartbeats 8000000
open Go.RowKit
set_option linter.unusedVariables false
set_option linter.unusedSimpArgs false

def swT (k:Int):ByteArray:=if k=1 then ⟨#[105,115,115,117,101]⟩ else if k=2 then ⟨#[114,101,118,111,107,101]⟩ else if k=3 then ⟨#[110,101,120,116]⟩ else if k=4 then ⟨#[116,97,107,101]⟩ else ⟨#[]⟩
def QF5 (k:Int):Bool:=decide (k=1) || decide (k=2)
def ownI (x:StI):StI:=if QF5 x.k=true then ⟨x.k,x.e,x.f,x.s,0⟩ else ⟨x.k,x.e,0,0,x.n⟩
def qN7 (x y:StI):Bool:=decide (x=y)
def ownB (x:StI):Bool:=qN7 x (ownI x)
def rngB (x:StI):Bool:=if inR x.e 1 9=false then false else if QF5 x.k=true then (if inR x.f 1 4=false then false else inR x.s 1 255) else inR x.n 0 7
def qC0 (x:StI):Int:=if inR x.k 1 4=false then 1 else if ownB x=false then 1 else if rngB x=false then 3 else 0
theorem QV1 (k:Int) (w:World):Calls Tryz.prog 102 #[.int .i64 k] w fun e w'=>e = .returned (.string (swT k))∧w=w':=by
 unfold swT
 by_cases h1:k=1
 ·subst h1;go_enter Tryz.func102,Tryz.ntmps102;go_wp2;go_ret;exact ⟨rfl,rfl⟩
 by_cases h2:k=2
 ·subst h2;go_enter Tryz.func102,Tryz.ntmps102;go_wp2;go_ret;exact ⟨rfl,rfl⟩
 by_cases h3:k=3
 ·subst h3;go_enter Tryz.func102,Tryz.ntmps102;go_wp2;go_ret;exact ⟨rfl,rfl⟩
 by_cases h4:k=4
 ·subst h4;go_enter Tryz.func102,Tryz.ntmps102;go_wp2;go_ret;exact ⟨rfl,rfl⟩
 rw [if_neg h1,if_neg h2,if_neg h3,if_neg h4]
 go_enter Tryz.func102,Tryz.ntmps102;go_wp2;go_ret;exact ⟨rfl,rfl⟩
theorem byteNe_of {a b:ByteArray} (h:a≠b):(a.toList==b.toList)=false:=by
 rw [beq_eq_false_iff_ne]
 intro e
 rw [ByteArray.toList_eq,ByteArray.toList_eq] at e
 exact h (WideShapes.bytes_inj e)
theorem sw_in {k:Int} (h:inR k 1 4=true):swT k≠⟨#[]⟩:=by
 rw [qF7] at h
 have : k=1∨k=2∨k=3∨k=4:=by omega
 rcases this with rfl | rfl | rfl | rfl <;> (intro e;have:=congrArg (fun b:ByteArray=>b.data.size) e;simp [swT] at this)
theorem sw_out {k:Int} (h:inR k 1 4=false):swT k=⟨#[]⟩:=by
 have h':¬ (1≤k∧k≤4):=fun q=>by rw [← qF7,h] at q;cases q
 unfold swT
 rw [if_neg (by omega),if_neg (by omega),if_neg (by omega),if_neg (by omega)]
theorem qT3 (k:Int) (w:World):Calls Tryz.prog 130 #[.int .i64 k] w fun e w'=>e = .returned (.bool (QF5 k))∧w=w':=by
 unfold QF5
 by_cases h1:k=1
 ·subst h1;go_enter Tryz.func130,Tryz.ntmps130;go_wp2;go_ret;exact ⟨rfl,rfl⟩
 by_cases h2:k=2
 ·subst h2;go_enter Tryz.func130,Tryz.ntmps130;go_wp2;go_ret;exact ⟨rfl,rfl⟩
 go_enter Tryz.func130,Tryz.ntmps130;go_wp2;go_ret;exact ⟨by simp [h1,h2],rfl⟩
theorem isNext_c (v:Int) (w:World):Calls Tryz.prog 134 #[.int .i64 v] w fun e w'=>e = .returned (.bool (inR v 0 7))∧w=w':=by
 unfold inR
 cases h0:decide (0≤v)
 ·go_enter Tryz.func134,Tryz.ntmps134
  go_wp2
  go_ret
  exact ⟨by simp,rfl⟩
 ·cases h1:decide (v≤7)
  all_goals
   go_enter Tryz.func134,Tryz.ntmps134
   go_wp2
   go_ret
   exact ⟨by simp,rfl⟩
def qS5 (v:Int):Int:=if inR v 0 255=true then 0 else 3
theorem iSetFault_c (v:Int) (w:World):Calls Tryz.prog 133 #[.int .i64 v] w fun e w'=>e = .returned (.int .i64 (qS5 v))∧w=w':=by
 by_cases q0:0≤v
 ·by_cases q1:v < 256
  ·have e0:qS5 v=0:=by unfold qS5;rw [if_pos ((qF7 _ _ _).2 ⟨by omega,by omega⟩)]
   rw [e0]
   clear e0
   go_enter Tryz.func133,Tryz.ntmps133
   go_wp2
   go_ret
   exact ⟨rfl,rfl⟩
  ·have e0:qS5 v=3:=by unfold qS5;rw [if_neg (fun h=>by rw [qF7] at h;omega)]
   rw [e0]
   clear e0
   have q2:(256:Int)≤v:=by omega
   go_enter Tryz.func133,Tryz.ntmps133
   go_wp2
   go_ret
   exact ⟨rfl,rfl⟩
 ·have e0:qS5 v=3:=by unfold qS5;rw [if_neg (fun h=>by rw [qF7] at h;omega)]
  rw [e0]
  clear e0
  have q2:v < (0:Int):=by omega
  go_enter Tryz.func133,Tryz.ntmps133
  go_wp2
  go_ret
  exact ⟨rfl,rfl⟩
theorem own_c (x:StI) (w:World):Calls Tryz.prog 103 #[.agg #[.int .i64 x.k,.int .i64 x.e,.int .i64 x.f,.int .i64 x.s,.int .i64 x.n]] w fun e w'=>e = .returned (.agg #[.int .i64 (ownI x).k,.int .i64 (ownI x).e,.int .i64 (ownI x).f,.int .i64 (ownI x).s,.int .i64 (ownI x).n])∧Below w.heap.size w w':=by
 unfold ownI
 cases hk:QF5 x.k
 all_goals
  go_enter Tryz.func103,Tryz.ntmps103
  go_wp2_with (go_at_call 130;refine (qT3 _ _).mono ?_;rintro e w' ⟨rfl,rfl⟩;rw [hk])
  go_returns
  exact ⟨rfl,by go_grown⟩
theorem sameSt_mk (a0 a1 a2 a3 a4 b0 b1 b2 b3 b4:Int):qN7 ⟨a0,a1,a2,a3,a4⟩ ⟨b0,b1,b2,b3,b4⟩=(a0==b0&&a1==b1&&a2==b2&&a3==b3&&a4==b4):=by
 unfold qN7
 rw [Bool.eq_iff_iff]
 simp only [decide_eq_true_eq,StI.mk.injEq,Bool.and_eq_true,beq_iff_eq]
 constructor
 ·rintro ⟨h0,h1,h2,h3,h4⟩;exact ⟨⟨⟨⟨h0,h1⟩,h2⟩,h3⟩,h4⟩
 ·rintro ⟨⟨⟨⟨h0,h1⟩,h2⟩,h3⟩,h4⟩;exact ⟨h0,h1,h2,h3,h4⟩
theorem st_eql (x y:StI) (w:World):(binOp .eql 43 (.agg #[.int .i64 x.k,.int .i64 x.e,.int .i64 x.f,.int .i64 x.s,.int .i64 x.n]) (.agg #[.int .i64 y.k,.int .i64 y.e,.int .i64 y.f,.int .i64 y.s,.int .i64 y.n])).run Tryz.prog w = .ok (.bool (qN7 x y)) w:=by
 obtain ⟨a0,a1,a2,a3,a4⟩:=x
 obtain ⟨b0,b1,b2,b3,b4⟩:=y
 simp only
 rw [sameSt_mk]
 cases e0:(a0==b0)
 ·simp [go_sem,e0]
 cases e1:(a1==b1)
 ·simp [go_sem,e0,e1]
 cases e2:(a2==b2)
 ·simp [go_sem,e0,e1,e2]
 cases e3:(a3==b3)
 ·simp [go_sem,e0,e1,e2,e3]
 cases e4:(a4==b4)
 ·simp [go_sem,e0,e1,e2,e3,e4]
 ·simp [go_sem,e0,e1,e2,e3,e4]

theorem qR0.new (w:World) (x:StI) (t:TypeId):qR0 (w.alloc (.cells #[.int .i64 x.k,.int .i64 x.e,.int .i64 x.f,.int .i64 x.s,.int .i64 x.n] t)) w.heap.size 0 x:=by
 simp [qR0]
theorem inBounds_c (x:StI) (w:World):Calls Tryz.prog 104 #[.agg #[.int .i64 x.k,.int .i64 x.e,.int .i64 x.f,.int .i64 x.s,.int .i64 x.n]] w fun e w'=>e = .returned (.bool (rngB x))∧Below w.heap.size w w':=by
 obtain ⟨xk,xe,xf,xs,xn⟩:=x
 unfold rngB
 simp only
 cases he:inR xe 1 9
 ·go_enter Tryz.func104,Tryz.ntmps104
  go_wp2_with (go_at_call 131;refine (qH1 _ _).mono ?_;rintro e w' ⟨rfl,rfl⟩;rw [he])
  go_ret
  exact ⟨rfl,by go_grown⟩
 ·cases hk:QF5 xk
  ·cases hn:inR xn 0 7
   all_goals
    go_enter Tryz.func104,Tryz.ntmps104
    go_wp2_with (first
     | (go_at_call 131;refine (qH1 _ _).mono ?_;rintro e w' ⟨rfl,rfl⟩;rw [he])
     | (go_at_call 130;refine (qT3 _ _).mono ?_;rintro e w' ⟨rfl,rfl⟩;rw [hk])
     | (go_at_call 134;refine (isNext_c _ _).mono ?_;rintro e w' ⟨rfl,rfl⟩;rw [hn]))
    go_ret
    exact ⟨rfl,by go_grown⟩
  ·cases hf:inR xf 1 4
   ·go_enter Tryz.func104,Tryz.ntmps104
    go_wp2_with (first
     | (go_at_call 131;refine (qH1 _ _).mono ?_;rintro e w' ⟨rfl,rfl⟩;rw [he])
     | (go_at_call 130;refine (qT3 _ _).mono ?_;rintro e w' ⟨rfl,rfl⟩;rw [hk])
     | (go_at_call 132;refine (QA1 _ _).mono ?_;rintro e w' ⟨rfl,rfl⟩;rw [hf]))
    go_ret
    exact ⟨rfl,by go_grown⟩
   ·by_cases hs:xs=0
    ·subst hs
     go_enter Tryz.func104,Tryz.ntmps104
     go_wp2_with (first
      | (go_at_call 131;refine (qH1 _ _).mono ?_;rintro e w' ⟨rfl,rfl⟩;rw [he])
      | (go_at_call 130;refine (qT3 _ _).mono ?_;rintro e w' ⟨rfl,rfl⟩;rw [hk])
      | (go_at_call 132;refine (QA1 _ _).mono ?_;rintro e w' ⟨rfl,rfl⟩;rw [hf]))
     go_ret
     exact ⟨rfl,by go_grown⟩
    ·have hsb:(xs != 0)=true:=by simpa using hs
     obtain ⟨c,hc⟩:∃ c,qS5 xs=c:=⟨_,rfl⟩
     have HV:Hid (inR xs 1 255=(c==0)):=by
      show inR xs 1 255=(c==0)
      rw [← hc]
      unfold qS5
      rw [Bool.eq_iff_iff,qF7]
      by_cases q:inR xs 0 255=true
      ·rw [if_pos q]
       rw [qF7] at q
       simp
       omega
      ·rw [if_neg q]
       rw [qF7] at q
       simp
       omega
     have HC:Hid (qS5 xs=c):=hc
     clear hc hs
     go_enter Tryz.func104,Tryz.ntmps104
     go_wp2_with (first
      | (go_at_call 131;refine (qH1 _ _).mono ?_;rintro e w' ⟨rfl,rfl⟩;rw [he])
      | (go_at_call 130;refine (qT3 _ _).mono ?_;rintro e w' ⟨rfl,rfl⟩;rw [hk])
      | (go_at_call 132;refine (QA1 _ _).mono ?_;rintro e w' ⟨rfl,rfl⟩;rw [hf])
      | (go_at_call 133;refine (iSetFault_c _ _).mono ?_;rintro e w' ⟨rfl,rfl⟩;rw [HC.out]))
     go_ret
     exact ⟨by rw [HV.out];rfl,by go_grown⟩
theorem st_neq (x y:StI) (w:World):(binOp .neq 43 (.agg #[.int .i64 x.k,.int .i64 x.e,.int .i64 x.f,.int .i64 x.s,.int .i64 x.n]) (.agg #[.int .i64 y.k,.int .i64 y.e,.int .i64 y.f,.int .i64 y.s,.int .i64 y.n])).run Tryz.prog w = .ok (.bool (!(qN7 x y))) w:=by
 have h:=st_eql x y w
 simp only [binOp,Sem.run_bind] at h ⊢
 revert h
 cases (Op.equal 43 (.agg #[.int .i64 x.k,.int .i64 x.e,.int .i64 x.f,.int .i64 x.s,.int .i64 x.n]) (.agg #[.int .i64 y.k,.int .i64 y.e,.int .i64 y.f,.int .i64 y.s,.int .i64 y.n])).run Tryz.prog w <;> simp [Result.andThen]
theorem qB8 (x:StI) (w:World):Calls Tryz.prog 79 #[.agg #[.int .i64 x.k,.int .i64 x.e,.int .i64 x.f,.int .i64 x.s,.int .i64 x.n]] w fun e w'=>e = .returned (.int .i64 (qC0 x))∧Below w.heap.size w w':=by
  obtain ⟨W,hW⟩:∃ W,W=w.alloc (.cells #[.int .i64 x.k,.int .i64 x.e,.int .i64 x.f,.int .i64 x.s,.int .i64 x.n] 43):=⟨_,rfl⟩
  have B0:Below w.heap.size w W:=by rw [hW];exact zN
  have hz:w.heap.size < W.heap.size:=by rw [hW];simp
  have HX:Hid (qR0 W w.heap.size 0 x):=by rw [hW];exact qR0.new w x _
  have HWE:Hid (W=w.alloc (.cells #[.int .i64 x.k,.int .i64 x.e,.int .i64 x.f,.int .i64 x.s,.int .i64 x.n] 43)):=hW
  clear hW
  cases hk:inR x.k 1 4
  · have HT:Hid (swT x.k=⟨#[]⟩):=sw_out hk
    have hC:Hid (qC0 x=1):=by show qC0 x=1;unfold qC0;rw [if_pos hk]
    rw [hC.out]
    clear hk
    go_enter Tryz.func79,Tryz.ntmps79
    go_wp2_with fail
    rw [← HWE.out]
    obtain ⟨x0,x1,x2,x3,x4⟩:=HX.out
    simp only [Nat.zero_add] at x0 x1 x2 x3 x4
    refine wp_region_held_drew (S:=fun w'=>(∀ b o,b < W.heap.size→w'.cell? ⟨b,o,none⟩=W.cell? ⟨b,o,none⟩)∧Below W.heap.size W w') (by kernel_rfl) (qB5 _) (fun hHeld=>?_)
    refine Zk.go [0,1] ?_
    iterate 2
      refine Zk.st (v:=?_) rfl ?_ ?_
      rotate_left 1
      · intro w hSw;(try dsimp only at hSw);go_simp;try (with_reducible rfl)
      try simp only [Act.put,zA,zB,zC,zD,zE,zF]
    refine Zk.fin ?_
    refine Zk.rd (i:=2) rfl (fun K hK=>?_)
    go_simp
    refine (QV1 _ _).mono ?_
    rintro e w' ⟨rfl,rfl⟩
    rw [HT.out]
    have hS:=hHeld
    refine hK.out _ _ hS (fun hHeld=>?_)
    clear hK K
    try simp only [Act.put,zA,zB,zC,zD,zE,zF]
    refine Zk.go [3,4,5,6,7,8,9] ?_
    iterate 2
      refine Zk.st (v:=?_) rfl ?_ ?_
      rotate_left 1
      · intro w hSw;(try dsimp only at hSw);go_simp;try (with_reducible rfl)
      try simp only [Act.put,zA,zB,zC,zD,zE,zF]
    iterate 4 (refine Zk.un rfl ?_;try simp only [Act.put,zA,zB,zC,zD,zE,zF])
    refine Zk.st (v:=?_) rfl ?_ ?_
    rotate_left 1
    · intro w hSw;(try dsimp only at hSw);go_simp;try (with_reducible rfl)
    try simp only [Act.put,zA,zB,zC,zD,zE,zF]
    refine Zk.fin ?_
    refine wpAnyH_done (by kernel_rfl) ?_ _
    go_wp2
    go_ret
    exact ⟨rfl,B0.trans (hHeld.2.mono B0.size)⟩
  · have hT0:=byteNe_of (sw_in hk)
    obtain ⟨T,hT⟩:∃ T,swT x.k=T:=⟨_,rfl⟩
    have HT:Hid (swT x.k=T):=hT
    have hw:T.toList.isEmpty=false:=by
      rw [hT] at hT0
      cases q:T.toList with
      | nil=>rw [q] at hT0;simp at hT0
      | cons a as'=>rfl
    obtain ⟨y,hy⟩:∃ y,ownI x=y:=⟨_,rfl⟩
    have HO:=own_c x
    rw [hy] at HO
    have HOO:Hid (∀ w:World,Calls Tryz.prog 103 #[.agg #[.int .i64 x.k,.int .i64 x.e,.int .i64 x.f,.int .i64 x.s,.int .i64 x.n]] w fun e w'=>e = .returned (.agg #[.int .i64 y.k,.int .i64 y.e,.int .i64 y.f,.int .i64 y.s,.int .i64 y.n])∧Below w.heap.size w w'):=HO
    have HB:Hid (∀ w:World,Calls Tryz.prog 104 #[.agg #[.int .i64 x.k,.int .i64 x.e,.int .i64 x.f,.int .i64 x.s,.int .i64 x.n]] w fun e w'=>e = .returned (.bool (rngB x))∧Below w.heap.size w w'):=inBounds_c x
    have hE:∀ w:World,_:=fun w=>st_neq x y w
    have hob:ownB x=qN7 x y:=by unfold ownB;rw [hy]
    obtain ⟨t,ht⟩:∃ t,qN7 x y=t:=⟨_,rfl⟩
    obtain ⟨r,hr⟩:∃ r,rngB x=r:=⟨_,rfl⟩
    have HC:Hid (qC0 x=if t=false then 1 else if r=false then 3 else 0):=by show qC0 x=_;unfold qC0;rw [if_neg (by rw [hk];simp),hob,ht,hr]
    rw [ht] at hE
    rw [hr] at HB
    rw [HC.out]
    clear HO hob hk hT0 hT hy ht hr
    go_enter Tryz.func79,Tryz.ntmps79
    go_wp2_with fail
    rw [← HWE.out]
    obtain ⟨x0,x1,x2,x3,x4⟩:=HX.out
    simp only [Nat.zero_add] at x0 x1 x2 x3 x4
    go_region_held3 (fun w'=>(∀ b o,b < W.heap.size→w'.cell? ⟨b,o,none⟩=W.cell? ⟨b,o,none⟩)∧Below W.heap.size W w') (first | exact hS | exact qB5 _)
      (first | (go_at_call 102;refine (QV1 _ _).mono ?_;rintro e w' ⟨rfl,rfl⟩;rw [HT.out])
             | (go_at_call 103;refine (HOO.out _).mono ?_;rintro e w' ⟨rfl,hb1⟩;have hS:=qA6 (by assumption) hb1))
    cases t
    · go_wp2
      go_ret
      exact ⟨rfl,B0.trans (hS.2.mono B0.size)⟩
    · obtain ⟨x0,x1,x2,x3,x4⟩:=HX.out.below hS.2 hz
      simp only [Nat.zero_add] at x0 x1 x2 x3 x4
      go_wp2_with fail
      refine (HB.out _).mono ?_
      rintro e w2 ⟨rfl,hb2⟩
      cases r
      all_goals
        go_wp2
        go_ret
        exact ⟨rfl,(B0.trans (hS.2.mono B0.size)).trans (hb2.mono (by have:=hS.2.size;omega))⟩

section
open Go.RowKit Go.Sort Go.Proofs Go.Lib
def cmpI (x y:Int):Int:=if x < y then -1 else if y < x then 1 else 0
def orC (c d:Int):Int:=if c=0 then d else c
def cfR (p q:RoI):Int:=orC (cmpI p.1 q.1) (cmpI p.2 q.2)
end

end Go.Proofs.YtlhgjackapdmbaaGreatDoor
