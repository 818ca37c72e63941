/- Contracts. -/
import Derived.Test.YtlpgapdlepbgbaaGreatDoorPe10
namespace Go.Proofs.YtlpgapdlepbgbaaGreatDoor
set_option maxRecDepth 100000
set_option maxHeartbeats 8000000
open Go.RowKit
set_option linter.unusedVariables false
set_option linter.unusedSimpArgs false

def swT (k:Int):ByteArray:=if k=1 then ⟨#[105,115,115,117,101]⟩ else if k=2 then ⟨#[114,101,118,111,107,101]⟩ else if k=3 then ⟨#[110,101,120,116]⟩ else if k=4 then ⟨#[116,97,107,101]⟩ else ⟨#[]⟩
def QH5 (k:Int):Bool:=decide (k=1) || decide (k=2)
def ownI (x:StI):StI:=if QH5 x.k=true then ⟨x.k,x.e,x.f,x.s,0⟩ else ⟨x.k,x.e,0,0,x.n⟩
def qP8 (x y:StI):Bool:=decide (x=y)
def ownB (x:StI):Bool:=qP8 x (ownI x)
def rngB (x:StI):Bool:=if inR x.e 1 9=false then false else if QH5 x.k=true then (if inR x.f 1 4=false then false else inR x.s 1 255) else inR x.n 0 7
def qC3 (x:StI):Int:=if inR x.k 1 4=false then 1 else if ownB x=false then 1 else if rngB x=false then 3 else 0
theorem QY0 (k:Int) (w:World):Calls Tryz.prog 102 #[.int .i64 k] w fun e w'=>e = .returned (.string (swT k))∧w=w':=by
 unfold swT
 by_cases h1:k=1
 ·subst h1;go_enter Tryz.func102,Tryz.ntmps102;go_wp2;go_ret;exact ⟨rfl,rfl⟩
 by_cases h2:k=2
 ·subst h2;go_enter Tryz.func102,Tryz.ntmps102;go_wp2;go_ret;exact ⟨rfl,rfl⟩
 by_cases h3:k=3
 ·subst h3;go_enter Tryz.func102,Tryz.ntmps102;go_wp2;go_ret;exact ⟨rfl,rfl⟩
 by_cases h4:k=4
 ·subst h4;go_enter Tryz.func102,Tryz.ntmps102;go_wp2;go_ret;exact ⟨rfl,rfl⟩
 rw [if_neg h1,if_neg h2,if_neg h3,if_neg h4]
 go_enter Tryz.func102,Tryz.ntmps102;go_wp2;go_ret;exact ⟨rfl,rfl⟩
theorem byteNe_of {a b:ByteArray} (h:a≠b):(a.toList==b.toList)=false:=by
 rw [beq_eq_false_iff_ne]
 intro e
 rw [ByteArray.toList_eq,ByteArray.toList_eq] at e
 exact h (WideShapes.bytes_inj e)
theorem sw_in {k:Int} (h:inR k 1 4=true):swT k≠⟨#[]⟩:=by
 rw [qG9] at h
 have : k=1∨k=2∨k=3∨k=4:=by omega
 rcases this with rfl | rfl | rfl | rfl <;> (intro e;have:=congrArg (fun b:ByteArray=>b.data.size) e;simp [swT] at this)
theorem sw_out {k:Int} (h:inR k 1 4=false):swT k=⟨#[]⟩:=by
 have h':¬ (1≤k∧k≤4):=fun q=>by rw [← qG9,h] at q;cases q
 unfold swT
 rw [if_neg (by omega),if_neg (by omega),if_neg (by omega),if_neg (by omega)]
theorem qV1 (k:Int) (w:World):Calls Tryz.prog 130 #[.int .i64 k] w fun e w'=>e = .returned (.bool (QH5 k))∧w=w':=by
 unfold QH5
 by_cases h1:k=1
 ·subst h1;go_enter Tryz.func130,Tryz.ntmps130;go_wp2;go_ret;exact ⟨rfl,rfl⟩
 by_cases h2:k=2
 ·subst h2;go_enter Tryz.func130,Tryz.ntmps130;go_wp2;go_ret;exact ⟨rfl,rfl⟩
 go_enter Tryz.func130,Tryz.ntmps130;go_wp2;go_ret;exact ⟨by simp [h1,h2],rfl⟩
theorem isNext_c (v:Int) (w:World):Calls Tryz.prog 134 #[.int .i64 v] w fun e w'=>e = .returned (.bool (inR v 0 7))∧w=w':=by
 unfold inR
 cases h0:decide (0≤v)
 ·go_enter Tryz.func134,Tryz.ntmps134
  go_wp2
  go_ret
  exact ⟨by simp,rfl⟩
 ·cases h1:decide (v≤7)
  all_goals
   go_enter Tryz.func134,Tryz.ntmps134
   go_wp2
   go_ret
   exact ⟨by simp,rfl⟩
def qU2 (v:Int):Int:=if inR v 0 255=true then 0 else 3
theorem iSetFault_c (v:Int) (w:World):Calls Tryz.prog 133 #[.int .i64 v] w fun e w'=>e = .returned (.int .i64 (qU2 v))∧w=w':=by
 by_cases q0:0≤v
 ·by_cases q1:v < 256
  ·have e0:qU2 v=0:=by unfold qU2;rw [if_pos ((qG9 _ _ _).2 ⟨by omega,by omega⟩)]
   rw [e0]
   clear e0
   go_enter Tryz.func133,Tryz.ntmps133
   go_wp2
   go_ret
   exact ⟨rfl,rfl⟩
  ·have e0:qU2 v=3:=by unfold qU2;rw [if_neg (fun h=>by rw [qG9] at h;omega)]
   rw [e0]
   clear e0
   have q2:(256:Int)≤v:=by omega
   go_enter Tryz.func133,Tryz.ntmps133
   go_wp2
   go_ret
   exact ⟨rfl,rfl⟩
 ·have e0:qU2 v=3:=by unfold qU2;rw [if_neg (fun h=>by rw [qG9] at h;omega)]
  rw [e0]
  clear e0
  have q2:v < (0:Int):=by omega
  go_enter Tryz.func133,Tryz.ntmps133
  go_wp2
  go_ret
  exact ⟨rfl,rfl⟩
theorem own_c (x:StI) (w:World):Calls Tryz.prog 103 #[.agg #[.int .i64 x.k,.int .i64 x.e,.int .i64 x.f,.int .i64 x.s,.int .i64 x.n]] w fun e w'=>e = .returned (.agg #[.int .i64 (ownI x).k,.int .i64 (ownI x).e,.int .i64 (ownI x).f,.int .i64 (ownI x).s,.int .i64 (ownI x).n])∧Below w.heap.size w w':=by
 unfold ownI
 cases hk:QH5 x.k
 all_goals
  go_enter Tryz.func103,Tryz.ntmps103
  go_wp2_with (go_at_call 130;refine (qV1 _ _).mono ?_;rintro e w' ⟨rfl,rfl⟩;rw [hk])
  go_returns
  exact ⟨rfl,by go_grown⟩
theorem sameSt_mk (a0 a1 a2 a3 a4 b0 b1 b2 b3 b4:Int):qP8 ⟨a0,a1,a2,a3,a4⟩ ⟨b0,b1,b2,b3,b4⟩=(a0==b0&&a1==b1&&a2==b2&&a3==b3&&a4==b4):=by
 unfold qP8
 rw [Bool.eq_iff_iff]
 simp only [decide_eq_true_eq,StI.mk.injEq,Bool.and_eq_true,beq_iff_eq]
 constructor
 ·rintro ⟨h0,h1,h2,h3,h4⟩;exact ⟨⟨⟨⟨h0,h1⟩,h2⟩,h3⟩,h4⟩
 ·rintro ⟨⟨⟨⟨h0,h1⟩,h2⟩,h3⟩,h4⟩;exact ⟨h0,h1,h2,h3,h4⟩
theorem st_eql (x y:StI) (w:World):(binOp .eql 45 (.agg #[.int .i64 x.k,.int .i64 x.e,.int .i64 x.f,.int .i64 x.s,.int .i64 x.n]) (.agg #[.int .i64 y.k,.int .i64 y.e,.int .i64 y.f,.int .i64 y.s,.int .i64 y.n])).run Tryz.prog w = .ok (.bool (qP8 x y)) w:=by
 obtain ⟨a0,a1,a2,a3,a4⟩:=x
 obtain ⟨b0,b1,b2,b3,b4⟩:=y
 simp only
 rw [sameSt_mk]
 cases e0:(a0==b0)
 ·simp [go_sem,e0]
 cases e1:(a1==b1)
 ·simp [go_sem,e0,e1]
 cases e2:(a2==b2)
 ·simp [go_sem,e0,e1,e2]
 cases e3:(a3==b3)
 ·simp [go_sem,e0,e1,e2,e3]
 cases e4:(a4==b4)
 ·simp [go_sem,e0,e1,e2,e3,e4]
 ·simp [go_sem,e0,e1,e2,e3,e4]

def qR1 (said:List StI) (k e:Int):Bool:=said.any (fun x=>decide (x.k=k)&&decide (x.e=e))
def qI5 (said:List StI) (k e:Int):Option StI:=said.find? (fun x=>decide (x.k=k)&&decide (x.e=e))
def qU4 (said:List StI) (e:Int):Bool:=qR1 said 3 e || qR1 said 4 e
def qT0 (x:StI):StI:=⟨2,x.e,x.f,x.s,0⟩
def qD8 (said:List StI) (x:StI):Bool:=said.any (fun y=>qP8 y x)
theorem QY3 {said:List StI} {x:StI}:qD8 said x=true↔x∈said:=by
 unfold qD8 qP8
 rw [List.any_eq_true]
 constructor
 ·rintro ⟨y,hy,h⟩
  have : y=x:=of_decide_eq_true h
  subst this;exact hy
 ·intro h
  exact ⟨x,h,decide_eq_true rfl⟩
theorem QC2 {said:List StI} {j:Nat} {x:StI} (h:said[j]? = some x) (k e:Int):qI5 (said.drop j) k e=if x.k=k∧x.e=e then some x else qI5 (said.drop (j+1)) k e:=by
 have hl:j < said.length:=by
  by_cases q:j < said.length
  ·exact q
  ·rw [List.getElem?_eq_none (by omega)] at h;cases h
 rw [List.getElem?_eq_getElem hl] at h
 rw [List.drop_eq_getElem_cons hl,Option.some.inj h]
 unfold qI5
 rw [List.find?_cons]
 by_cases q:x.k=k∧x.e=e
 ·rw [if_pos q];simp [q.1,q.2]
 ·rw [if_neg q]
  have : (decide (x.k=k)&&decide (x.e=e))=false:=by
   rw [Bool.and_eq_false_iff]
   by_cases q1:x.k=k
   ·exact .inr (decide_eq_false (fun q2=>q ⟨q1,q2⟩))
   ·exact .inl (decide_eq_false q1)
  rw [this]
theorem kindB_at (said:List StI) (k e:Int):qR1 said k e=(qI5 said k e).isSome:=by
 unfold qR1 qI5
 induction said with
 | nil=>rfl
 | cons x r ih =>
  rw [List.any_cons,List.find?_cons]
  cases (decide (x.k=k)&&decide (x.e=e))
  ·simpa using ih
  ·simp
theorem saidB_drop {said:List StI} {j:Nat} {x:StI} (h:said[j]? = some x) (y:StI):qD8 (said.drop j) y=(qP8 x y || qD8 (said.drop (j+1)) y):=by
 have hl:j < said.length:=by
  by_cases q:j < said.length
  ·exact q
  ·rw [List.getElem?_eq_none (by omega)] at h;cases h
 rw [List.getElem?_eq_getElem hl] at h
 rw [List.drop_eq_getElem_cons hl,Option.some.inj h]
 unfold qD8
 rw [List.any_cons]

theorem qS7.new (w:World) (x:StI) (t:TypeId):qS7 (w.alloc (.cells #[.int .i64 x.k,.int .i64 x.e,.int .i64 x.f,.int .i64 x.s,.int .i64 x.n] t)) w.heap.size 0 x:=by
 simp [qS7]
theorem inBounds_c (x:StI) (w:World):Calls Tryz.prog 104 #[.agg #[.int .i64 x.k,.int .i64 x.e,.int .i64 x.f,.int .i64 x.s,.int .i64 x.n]] w fun e w'=>e = .returned (.bool (rngB x))∧Below w.heap.size w w':=by
 obtain ⟨xk,xe,xf,xs,xn⟩:=x
 unfold rngB
 simp only
 cases he:inR xe 1 9
 ·go_enter Tryz.func104,Tryz.ntmps104
  go_wp2_with (go_at_call 131;refine (qI4 _ _).mono ?_;rintro e w' ⟨rfl,rfl⟩;rw [he])
  go_ret
  exact ⟨rfl,by go_grown⟩
 ·cases hk:QH5 xk
  ·cases hn:inR xn 0 7
   all_goals
    go_enter Tryz.func104,Tryz.ntmps104
    go_wp2_with (first
     | (go_at_call 131;refine (qI4 _ _).mono ?_;rintro e w' ⟨rfl,rfl⟩;rw [he])
     | (go_at_call 130;refine (qV1 _ _).mono ?_;rintro e w' ⟨rfl,rfl⟩;rw [hk])
     | (go_at_call 134;refine (isNext_c _ _).mono ?_;rintro e w' ⟨rfl,rfl⟩;rw [hn]))
    go_ret
    exact ⟨rfl,by go_grown⟩
  ·cases hf:inR xf 1 4
   ·go_enter Tryz.func104,Tryz.ntmps104
    go_wp2_with (first
     | (go_at_call 131;refine (qI4 _ _).mono ?_;rintro e w' ⟨rfl,rfl⟩;rw [he])
     | (go_at_call 130;refine (qV1 _ _).mono ?_;rintro e w' ⟨rfl,rfl⟩;rw [hk])
     | (go_at_call 132;refine (QC3 _ _).mono ?_;rintro e w' ⟨rfl,rfl⟩;rw [hf]))
    go_ret
    exact ⟨rfl,by go_grown⟩
   ·by_cases hs:xs=0
    ·subst hs
     go_enter Tryz.func104,Tryz.ntmps104
     go_wp2_with (first
      | (go_at_call 131;refine (qI4 _ _).mono ?_;rintro e w' ⟨rfl,rfl⟩;rw [he])
      | (go_at_call 130;refine (qV1 _ _).mono ?_;rintro e w' ⟨rfl,rfl⟩;rw [hk])
      | (go_at_call 132;refine (QC3 _ _).mono ?_;rintro e w' ⟨rfl,rfl⟩;rw [hf]))
     go_ret
     exact ⟨rfl,by go_grown⟩
    ·have hsb:(xs != 0)=true:=by simpa using hs
     obtain ⟨c,hc⟩:∃ c,qU2 xs=c:=⟨_,rfl⟩
     have HV:Hid (inR xs 1 255=(c==0)):=by
      show inR xs 1 255=(c==0)
      rw [← hc]
      unfold qU2
      rw [Bool.eq_iff_iff,qG9]
      by_cases q:inR xs 0 255=true
      ·rw [if_pos q]
       rw [qG9] at q
       simp
       omega
      ·rw [if_neg q]
       rw [qG9] at q
       simp
       omega
     have HC:Hid (qU2 xs=c):=hc
     clear hc hs
     go_enter Tryz.func104,Tryz.ntmps104
     go_wp2_with (first
      | (go_at_call 131;refine (qI4 _ _).mono ?_;rintro e w' ⟨rfl,rfl⟩;rw [he])
      | (go_at_call 130;refine (qV1 _ _).mono ?_;rintro e w' ⟨rfl,rfl⟩;rw [hk])
      | (go_at_call 132;refine (QC3 _ _).mono ?_;rintro e w' ⟨rfl,rfl⟩;rw [hf])
      | (go_at_call 133;refine (iSetFault_c _ _).mono ?_;rintro e w' ⟨rfl,rfl⟩;rw [HC.out]))
     go_ret
     exact ⟨by rw [HV.out];rfl,by go_grown⟩
theorem st_neq (x y:StI) (w:World):(binOp .neq 45 (.agg #[.int .i64 x.k,.int .i64 x.e,.int .i64 x.f,.int .i64 x.s,.int .i64 x.n]) (.agg #[.int .i64 y.k,.int .i64 y.e,.int .i64 y.f,.int .i64 y.s,.int .i64 y.n])).run Tryz.prog w = .ok (.bool (!(qP8 x y))) w:=by
 have h:=st_eql x y w
 simp only [binOp,Sem.run_bind] at h ⊢
 revert h
 cases (Op.equal 45 (.agg #[.int .i64 x.k,.int .i64 x.e,.int .i64 x.f,.int .i64 x.s,.int .i64 x.n]) (.agg #[.int .i64 y.k,.int .i64 y.e,.int .i64 y.f,.int .i64 y.s,.int .i64 y.n])).run Tryz.prog w <;> simp [Result.andThen]
theorem qC0 (x:StI) (w:World):Calls Tryz.prog 76 #[.agg #[.int .i64 x.k,.int .i64 x.e,.int .i64 x.f,.int .i64 x.s,.int .i64 x.n]] w fun e w'=>e = .returned (.int .i64 (qC3 x))∧Below w.heap.size w w':=by
  obtain ⟨W,hW⟩:∃ W,W=w.alloc (.cells #[.int .i64 x.k,.int .i64 x.e,.int .i64 x.f,.int .i64 x.s,.int .i64 x.n] 45):=⟨_,rfl⟩
  have B0:Below w.heap.size w W:=by rw [hW];exact zN
  have hz:w.heap.size < W.heap.size:=by rw [hW];simp
  have HX:Hid (qS7 W w.heap.size 0 x):=by rw [hW];exact qS7.new w x _
  have HWE:Hid (W=w.alloc (.cells #[.int .i64 x.k,.int .i64 x.e,.int .i64 x.f,.int .i64 x.s,.int .i64 x.n] 45)):=hW
  clear hW
  cases hk:inR x.k 1 4
  · have HT:Hid (swT x.k=⟨#[]⟩):=sw_out hk
    have hC:Hid (qC3 x=1):=by show qC3 x=1;unfold qC3;rw [if_pos hk]
    rw [hC.out]
    clear hk
    go_enter Tryz.func76,Tryz.ntmps76
    go_wp2_with fail
    rw [← HWE.out]
    obtain ⟨x0,x1,x2,x3,x4⟩:=HX.out
    simp only [Nat.zero_add] at x0 x1 x2 x3 x4
    refine wp_region_held_drew (S:=fun w'=>(∀ b o,b < W.heap.size→w'.cell? ⟨b,o,none⟩=W.cell? ⟨b,o,none⟩)∧Below W.heap.size W w') (by kernel_rfl) (qB4 _) (fun hHeld=>?_)
    refine Zk.go [0,1] ?_
    iterate 2
      refine Zk.st (v:=?_) rfl ?_ ?_
      rotate_left 1
      · intro w hSw;(try dsimp only at hSw);go_simp;try (with_reducible rfl)
      try simp only [Act.put,zA,zB,zC,zD,zE,zF]
    refine Zk.fin ?_
    refine Zk.rd (i:=2) rfl (fun K hK=>?_)
    go_simp
    refine (QY0 _ _).mono ?_
    rintro e w' ⟨rfl,rfl⟩
    rw [HT.out]
    have hS:=hHeld
    refine hK.out _ _ hS (fun hHeld=>?_)
    clear hK K
    try simp only [Act.put,zA,zB,zC,zD,zE,zF]
    refine Zk.go [3,4,5,6,7,8,9] ?_
    iterate 2
      refine Zk.st (v:=?_) rfl ?_ ?_
      rotate_left 1
      · intro w hSw;(try dsimp only at hSw);go_simp;try (with_reducible rfl)
      try simp only [Act.put,zA,zB,zC,zD,zE,zF]
    iterate 4 (refine Zk.un rfl ?_;try simp only [Act.put,zA,zB,zC,zD,zE,zF])
    refine Zk.st (v:=?_) rfl ?_ ?_
    rotate_left 1
    · intro w hSw;(try dsimp only at hSw);go_simp;try (with_reducible rfl)
    try simp only [Act.put,zA,zB,zC,zD,zE,zF]
    refine Zk.fin ?_
    refine wpAnyH_done (by kernel_rfl) ?_ _
    go_wp2
    go_ret
    exact ⟨rfl,B0.trans (hHeld.2.mono B0.size)⟩
  · have hT0:=byteNe_of (sw_in hk)
    obtain ⟨T,hT⟩:∃ T,swT x.k=T:=⟨_,rfl⟩
    have HT:Hid (swT x.k=T):=hT
    have hw:T.toList.isEmpty=false:=by
      rw [hT] at hT0
      cases q:T.toList with
      | nil=>rw [q] at hT0;simp at hT0
      | cons a as'=>rfl
    obtain ⟨y,hy⟩:∃ y,ownI x=y:=⟨_,rfl⟩
    have HO:=own_c x
    rw [hy] at HO
    have HOO:Hid (∀ w:World,Calls Tryz.prog 103 #[.agg #[.int .i64 x.k,.int .i64 x.e,.int .i64 x.f,.int .i64 x.s,.int .i64 x.n]] w fun e w'=>e = .returned (.agg #[.int .i64 y.k,.int .i64 y.e,.int .i64 y.f,.int .i64 y.s,.int .i64 y.n])∧Below w.heap.size w w'):=HO
    have HB:Hid (∀ w:World,Calls Tryz.prog 104 #[.agg #[.int .i64 x.k,.int .i64 x.e,.int .i64 x.f,.int .i64 x.s,.int .i64 x.n]] w fun e w'=>e = .returned (.bool (rngB x))∧Below w.heap.size w w'):=inBounds_c x
    have hE:∀ w:World,_:=fun w=>st_neq x y w
    have hob:ownB x=qP8 x y:=by unfold ownB;rw [hy]
    obtain ⟨t,ht⟩:∃ t,qP8 x y=t:=⟨_,rfl⟩
    obtain ⟨r,hr⟩:∃ r,rngB x=r:=⟨_,rfl⟩
    have HC:Hid (qC3 x=if t=false then 1 else if r=false then 3 else 0):=by show qC3 x=_;unfold qC3;rw [if_neg (by rw [hk];simp),hob,ht,hr]
    rw [ht] at hE
    rw [hr] at HB
    rw [HC.out]
    clear HO hob hk hT0 hT hy ht hr
    go_enter Tryz.func76,Tryz.ntmps76
    go_wp2_with fail
    rw [← HWE.out]
    obtain ⟨x0,x1,x2,x3,x4⟩:=HX.out
    simp only [Nat.zero_add] at x0 x1 x2 x3 x4
    go_region_held3 (fun w'=>(∀ b o,b < W.heap.size→w'.cell? ⟨b,o,none⟩=W.cell? ⟨b,o,none⟩)∧Below W.heap.size W w') (first | exact hS | exact qB4 _)
      (first | (go_at_call 102;refine (QY0 _ _).mono ?_;rintro e w' ⟨rfl,rfl⟩;rw [HT.out])
             | (go_at_call 103;refine (HOO.out _).mono ?_;rintro e w' ⟨rfl,hb1⟩;have hS:=qA0 (by assumption) hb1))
    cases t
    · go_wp2
      go_ret
      exact ⟨rfl,B0.trans (hS.2.mono B0.size)⟩
    · obtain ⟨x0,x1,x2,x3,x4⟩:=HX.out.below hS.2 hz
      simp only [Nat.zero_add] at x0 x1 x2 x3 x4
      go_wp2_with fail
      refine (HB.out _).mono ?_
      rintro e w2 ⟨rfl,hb2⟩
      cases r
      all_goals
        go_wp2
        go_ret
        exact ⟨rfl,(B0.trans (hS.2.mono B0.size)).trans (hb2.mono (by have:=hS.2.size;omega))⟩

section
attribute [local go_sem ↓] st_eql
def qG8 (w:World) (b:Nat) (r:qH4):Prop:=w.cell? ⟨b,0,none⟩=some (.int .i64 r.i)∧w.cell? ⟨b,1,none⟩=some (.int .i64 r.u)∧w.cell? ⟨b,2,none⟩=some (.slice r.sa r.sn r.sc)∧w.cell? ⟨b,3,none⟩=some (.slice r.la r.ln r.lc)
theorem qG8.lt {w:World} {b:Nat} {r:qH4} (h:qG8 w b r):b < w.heap.size:=zL w ⟨b,0,none⟩ h.1
theorem qG8.below {w w':World} {b:Nat} {r:qH4} (h:qG8 w b r) (hb:Below w.heap.size w w'):qG8 w' b r :=
 ⟨(hb.cell (p:=⟨b,0,none⟩) h.lt).trans h.1,(hb.cell (p:=⟨b,1,none⟩) h.lt).trans h.2.1,(hb.cell (p:=⟨b,2,none⟩) h.lt).trans h.2.2.1,(hb.cell (p:=⟨b,3,none⟩) h.lt).trans h.2.2.2⟩
theorem qG8.new (w:World) (r:qH4) (t:TypeId):qG8 (w.alloc (.cells #[.int .i64 r.i,.int .i64 r.u,.slice r.sa r.sn r.sc,.slice r.la r.ln r.lc] t)) w.heap.size r:=⟨by simp,by simp,by simp,by simp⟩
theorem l8Kind_c (b:Nat) (r:qH4) (k e:Int) (w:World) (hx:qG8 w b r) (h:qM5 w r.sa r.sn r.ss) (hn:r.sn≤1048576) :
  Calls Tryz.prog 101 #[.pointer (some ⟨b,0,none⟩),.int .i64 k,.int .i64 e] w fun d w'=>d = .returned (.bool (qR1 r.ss k e))∧Below w.heap.size w w':=by
 obtain ⟨i,u,sa,n,sc,said,la,ln,lc,ls⟩:=r
 simp only at hx h hn ⊢
 have HZ:Hid (said.length=n):=h.1
 have H:Hid (qM5 w sa n said):=h
 have hbl:=hx.lt
 obtain ⟨_,_,x2,_⟩:=hx
 have X2:Hid (w.cell? ⟨b,2,none⟩=some (.slice sa n sc)):=x2
 clear h x2
 have hn':(n:Int)≤1048576:=by omega
 rw [kindB_at]
 obtain ⟨t,ht⟩:∃ t,(qI5 said k e).isSome=t:=⟨_,rfl⟩
 have HT:Hid ((qI5 said k e).isSome=t):=ht
 rw [ht]
 clear ht
 go_enter Tryz.func101,Tryz.ntmps101
 go_wp2
 go_loopw [7] (fun i wr=>∃ j:Nat,j≤n∧i = .int .i64 (j:Int)∧(qI5 (said.drop j) k e).isSome=t∧Below w.heap.size w wr) (fun i _=>n - (intOf i).toNat)
 case atStart=>exact ⟨0,Nat.zero_le _,rfl,HT.out,Below.refl _ _⟩
 case round =>
  obtain ⟨j,hj,rfl,hp,hnx⟩:=hrel
  have x2:=(hnx.cell (p:=⟨b,2,none⟩) hbl).trans X2.out
  have hbw2:b < wr.heap.size:=Nat.lt_of_lt_of_le hbl hnx.size
  by_cases hlt:j < n
  ·obtain ⟨g,off,x,rfl,hs,hxa,hgl⟩:=H.out.at hlt
   rw [QC2 hs] at hp
   obtain ⟨g0,g1,g2,g3,g4⟩:=hxa.below hnx hgl
   have hbw:g < wr.heap.size:=Nat.lt_of_lt_of_le hgl hnx.size
   have hlt':(j:Int) < (n:Int):=by omega
   clear hs hxa
   by_cases q1:x.k=k
   ·have b1:(x.k==k)=true:=by simp [q1]
    by_cases q2:x.e=e
    ·have b2:(x.e==e)=true:=by simp [q2]
     rw [if_pos ⟨q1,q2⟩] at hp
     have HP:Hid (true=t):=hp
     clear hp q1 q2
     go_wp2
     go_ret
     exact ⟨by rw [← HP.out];rfl,hnx⟩
    ·have b2:(x.e==e)=false:=by simp [q2]
     rw [if_neg (fun q=>q2 q.2)] at hp
     have HP:Hid ((qI5 (said.drop (j+1)) k e).isSome=t):=hp
     clear hp q1 q2
     go_wp2
     exact ⟨⟨j+1,by omega,by go_num,HP.out,hnx⟩,by simp [intOf];omega⟩
   ·have b1:(x.k==k)=false:=by simp [q1]
    rw [if_neg (fun q=>q1 q.1)] at hp
    have HP:Hid ((qI5 (said.drop (j+1)) k e).isSome=t):=hp
    clear hp q1
    go_wp2
    exact ⟨⟨j+1,by omega,by go_num,HP.out,hnx⟩,by simp [intOf];omega⟩
  ·have hkn:j=n:=by omega
   subst hkn
   rw [List.drop_of_length_le (by rw [HZ.out];exact Nat.le_refl _)] at hp
   have HP:Hid (false=t):=hp
   clear hp
   go_wp2
   go_ret
   exact ⟨by rw [← HP.out];rfl,hnx⟩
theorem QA2 (b:Nat) (r:qH4) (e:Int) (w:World) (hx:qG8 w b r) (h:qM5 w r.sa r.sn r.ss) (hn:r.sn≤1048576) :
  Calls Tryz.prog 97 #[.pointer (some ⟨b,0,none⟩),.int .i64 e] w fun d w'=>d = .returned (.bool (qU4 r.ss e))∧Below w.heap.size w w':=by
 have HK:Hid (∀ (k:Int) (w2:World),Below w.heap.size w w2→Calls Tryz.prog 101 #[.pointer (some ⟨b,0,none⟩),.int .i64 k,.int .i64 e] w2 fun d w'=>d = .returned (.bool (qR1 r.ss k e))∧Below w2.heap.size w2 w'):=fun k w2 hb=>l8Kind_c b r k e w2 (hx.below hb) (h.below hb) hn
 clear hx h
 unfold qU4
 cases q:qR1 r.ss 3 e
 ·have HQ:Hid (qR1 r.ss 3 e=false):=q
  clear q
  obtain ⟨t,ht⟩:∃ t,qR1 r.ss 4 e=t:=⟨_,rfl⟩
  have HT:Hid (qR1 r.ss 4 e=t):=ht
  rw [ht,Bool.false_or]
  clear ht
  go_enter Tryz.func97,Tryz.ntmps97
  go_wp2_with fail
  refine (HK.out 3 _ (Below.refl _ _)).mono ?_
  rintro d w1 ⟨rfl,hb1⟩
  rw [HQ.out]
  go_wp2_with fail
  refine (HK.out 4 _ hb1).mono ?_
  rintro d w2 ⟨rfl,hb2⟩
  rw [HT.out]
  go_wp2
  go_ret
  exact ⟨rfl,hb1.trans (hb2.mono hb1.size)⟩
 ·have HQ:Hid (qR1 r.ss 3 e=true):=q
  clear q
  rw [Bool.true_or]
  go_enter Tryz.func97,Tryz.ntmps97
  go_wp2_with fail
  refine (HK.out 3 _ (Below.refl _ _)).mono ?_
  rintro d w1 ⟨rfl,hb1⟩
  rw [HQ.out]
  go_wp2
  go_ret
  exact ⟨rfl,hb1⟩
theorem qM1 (b:Nat) (r:qH4) (y:StI) (w:World) (hx:qG8 w b r) (h:qM5 w r.sa r.sn r.ss) (hn:r.sn≤1048576) :
  Calls Tryz.prog 72 #[.pointer (some ⟨b,0,none⟩),.agg #[.int .i64 y.k,.int .i64 y.e,.int .i64 y.f,.int .i64 y.s,.int .i64 y.n]] w fun d w'=>d = .returned (.bool (qD8 r.ss y))∧Below w.heap.size w w':=by
 obtain ⟨i,u,sa,n,sc,said,la,ln,lc,ls⟩:=r
 simp only at hx h hn ⊢
 have HZ:Hid (said.length=n):=h.1
 obtain ⟨w0,hw0⟩:∃ w0,w0=w.alloc (.cells #[.int .i64 y.k,.int .i64 y.e,.int .i64 y.f,.int .i64 y.s,.int .i64 y.n] 45):=⟨_,rfl⟩
 have hb0:Below w.heap.size w w0:=by rw [hw0];exact zN
 have hs0:w.heap.size < w0.heap.size:=by rw [hw0];simp
 have HB0:Hid (Below w.heap.size w w0):=hb0
 have H:Hid (qM5 w0 sa n said):=h.below hb0
 have HY:Hid (qS7 w0 w.heap.size 0 y):=by rw [hw0];exact qS7.new w y _
 have hbl:=(hx.below hb0).lt
 obtain ⟨_,_,x2,_⟩:=hx.below hb0
 have X2:Hid (w0.cell? ⟨b,2,none⟩=some (.slice sa n sc)):=x2
 clear h x2 hx hb0
 have hn':(n:Int)≤1048576:=by omega
 obtain ⟨t,ht⟩:∃ t,qD8 said y=t:=⟨_,rfl⟩
 have HT:Hid (qD8 said y=t):=ht
 rw [ht]
 clear ht
 go_enter Tryz.func72,Tryz.ntmps72
 go_wp2
 rw [← hw0]
 clear hw0
 go_loopw [5] (fun i wr=>∃ j:Nat,j≤n∧i = .int .i64 (j:Int)∧qD8 (said.drop j) y=t∧Below w0.heap.size w0 wr) (fun i _=>n - (intOf i).toNat)
 case atStart=>exact ⟨0,Nat.zero_le _,rfl,HT.out,Below.refl _ _⟩
 case round =>
  obtain ⟨j,hj,rfl,hp,hnx⟩:=hrel
  have x2:=(hnx.cell (p:=⟨b,2,none⟩) hbl).trans X2.out
  have hbw2:b < wr.heap.size:=Nat.lt_of_lt_of_le hbl hnx.size
  have BN:Hid (Below w.heap.size w wr):=HB0.out.trans (hnx.mono (by omega))
  by_cases hlt:j < n
  ·obtain ⟨g,off,x,rfl,hs,hxa,hgl⟩:=H.out.at hlt
   rw [saidB_drop hs] at hp
   obtain ⟨g0,g1,g2,g3,g4⟩:=hxa.below hnx hgl
   obtain ⟨y0,y1,y2,y3,y4⟩:=HY.out.below hnx hs0
   simp only [Nat.zero_add] at y0 y1 y2 y3 y4
   have hbw:g < wr.heap.size:=Nat.lt_of_lt_of_le hgl hnx.size
   have hyw:w.heap.size < wr.heap.size:=Nat.lt_of_lt_of_le hs0 hnx.size
   have hlt':(j:Int) < (n:Int):=by omega
   clear hs hxa
   cases q:qP8 x y
   ·rw [q,Bool.false_or] at hp
    have HP:Hid (qD8 (said.drop (j+1)) y=t):=hp
    clear hp
    go_wp2
    go_quiet (fail)
    go_wp2
    exact ⟨⟨j+1,by omega,by go_num,HP.out,below_drewN hnx _⟩,by simp [intOf];omega⟩
   ·rw [q,Bool.true_or] at hp
    have HP:Hid (true=t):=hp
    clear hp
    go_wp2
    go_quiet (fail)
    go_wp2
    go_ret
    exact ⟨by rw [← HP.out];rfl,below_drewN BN.out _⟩
  ·have hkn:j=n:=by omega
   subst hkn
   rw [List.drop_of_length_le (by rw [HZ.out];exact Nat.le_refl _)] at hp
   have HP:Hid (false=t):=hp
   clear hp
   go_wp2
   go_ret
   exact ⟨by rw [← HP.out];rfl,BN.out⟩
def qZ5 (said:List StI) (k e i:Int):Prop:=(i = -1∧qI5 said k e=none)∨∃ (j:Nat) (x:StI),i=(j:Int)∧said[j]? = some x∧qI5 said k e=some x
theorem saidOf1_c (bk be:Nat) (x:StI) (k e:Int) (w:World) (hk:w.cell? ⟨bk,0,none⟩=some (.int .i64 k)) (he:w.cell? ⟨be,0,none⟩=some (.int .i64 e)) :
  Calls Tryz.prog 136 #[.agg #[.int .i64 x.k,.int .i64 x.e,.int .i64 x.f,.int .i64 x.s,.int .i64 x.n],.pointer (some ⟨bk,0,none⟩),.pointer (some ⟨be,0,none⟩)] w fun d w'=>d = .returned (.bool (decide (x.k=k∧x.e=e)))∧Below w.heap.size w w':=by
 have hkl:=zL w ⟨bk,0,none⟩ hk
 have hel:=zL w ⟨be,0,none⟩ he
 by_cases q1:x.k=k
 ·have b1:(x.k==k)=true:=by simp [q1]
  by_cases q2:x.e=e
  ·have b2:(x.e==e)=true:=by simp [q2]
   rw [decide_eq_true ⟨q1,q2⟩]
   clear q1 q2
   go_enter Tryz.func136,Tryz.ntmps136
   go_wp2
   go_ret
   exact ⟨rfl,by go_grown⟩
  ·have b2:(x.e==e)=false:=by simp [q2]
   rw [decide_eq_false (fun q=>q2 q.2)]
   clear q1 q2
   go_enter Tryz.func136,Tryz.ntmps136
   go_wp2
   go_ret
   exact ⟨rfl,by go_grown⟩
 ·have b1:(x.k==k)=false:=by simp [q1]
  rw [decide_eq_false (fun q=>q1 q.1)]
  clear q1
  go_enter Tryz.func136,Tryz.ntmps136
  go_wp2
  go_ret
  exact ⟨rfl,by go_grown⟩
theorem saidIndex_c (bk be:Nat) (a:Option Addr) (n cap:Nat) (said:List StI) (k e:Int) (w:World) (hn:n≤1048576) (h:qM5 w a n said) (hk:w.cell? ⟨bk,0,none⟩=some (.int .i64 k)) (he:w.cell? ⟨be,0,none⟩=some (.int .i64 e)) :
  Calls Tryz.prog 135 #[.slice a n cap,.func (.func 136) #[] #[.pointer (some ⟨bk,0,none⟩),.pointer (some ⟨be,0,none⟩)]] w fun d w'=>(∃ i:Int,d = .returned (.int .i64 i)∧qZ5 said k e i)∧Below w.heap.size w w':=by
 have HZ:Hid (said.length=n):=h.1
 have H:Hid (qM5 w a n said):=h
 have hkl:=zL w ⟨bk,0,none⟩ hk
 have hel:=zL w ⟨be,0,none⟩ he
 have HC:Hid (∀ (x:StI) (w2:World),Below w.heap.size w w2→Calls Tryz.prog 136 #[.agg #[.int .i64 x.k,.int .i64 x.e,.int .i64 x.f,.int .i64 x.s,.int .i64 x.n],.pointer (some ⟨bk,0,none⟩),.pointer (some ⟨be,0,none⟩)] w2 fun d w'=>d = .returned (.bool (decide (x.k=k∧x.e=e)))∧Below w2.heap.size w2 w'):=fun x w2 hb=>saidOf1_c bk be x k e w2 ((hb.cell (p:=⟨bk,0,none⟩) hkl).trans hk) ((hb.cell (p:=⟨be,0,none⟩) hel).trans he)
 clear h hk he hkl hel
 have hn':(n:Int)≤1048576:=by omega
 go_enter Tryz.func135,Tryz.ntmps135
 go_wp2_with fail
 go_loopw [8] (fun i wr=>∃ j:Nat,j≤n∧i = .int .i64 (j:Int)∧Hid (qI5 (said.drop j) k e=qI5 said k e)∧Below w.heap.size w wr) (fun i _=>n - (intOf i).toNat)
 case atStart=>exact ⟨0,Nat.zero_le _,rfl,by show qI5 (said.drop 0) k e=_;rw [List.drop_zero],Below.refl _ _⟩
 case round =>
  obtain ⟨j,hj,rfl,HP,hnx⟩:=hrel
  by_cases hlt:j < n
  ·obtain ⟨g,off,x,rfl,hs,hxa,hgl⟩:=H.out.at hlt
   have HS:Hid (said[j]? = some x):=hs
   have HD:=QC2 hs k e
   obtain ⟨g0,g1,g2,g3,g4⟩:=hxa.below hnx hgl
   have hbw:g < wr.heap.size:=Nat.lt_of_lt_of_le hgl hnx.size
   have hlt':(j:Int) < (n:Int):=by omega
   clear hs hxa
   by_cases q:x.k=k∧x.e=e
   ·have HI:Hid (qZ5 said k e (j:Int)):=.inr ⟨j,x,rfl,HS.out,by rw [← HP.out,HD,if_pos q]⟩
    have HQ:Hid (decide (x.k=k∧x.e=e)=true):=decide_eq_true q
    clear q HD
    go_wp2_with fail
    refine (HC.out x _ hnx).mono ?_
    rintro d w1 ⟨rfl,hb1⟩
    rw [HQ.out]
    go_wp2
    go_ret
    exact ⟨⟨_,rfl,HI.out⟩,hnx.trans (hb1.mono hnx.size)⟩
   ·have HN:Hid (qI5 (said.drop (j+1)) k e=qI5 said k e):=by show _=_;rw [← HP.out,HD,if_neg q]
    have HQ:Hid (decide (x.k=k∧x.e=e)=false):=decide_eq_false q
    clear q HD
    go_wp2_with fail
    refine (HC.out x _ hnx).mono ?_
    rintro d w1 ⟨rfl,hb1⟩
    rw [HQ.out]
    go_wp2
    exact ⟨⟨j+1,by omega,by go_num,HN,hnx.trans (hb1.mono hnx.size)⟩,by simp [intOf];omega⟩
  ·have hkn:j=n:=by omega
   subst hkn
   have HI:Hid (qZ5 said k e (-1)):=.inl ⟨rfl,by rw [← HP.out,List.drop_of_length_le (by rw [HZ.out];exact Nat.le_refl _)];rfl⟩
   go_wp2
   go_ret
   exact ⟨⟨_,rfl,HI.out⟩,hnx⟩
theorem QT5 (a:Option Addr) (n cap:Nat) (said:List StI) (k e:Int) (w:World) (hn:n≤1048576) (h:qM5 w a n said) :
  Calls Tryz.prog 106 #[.slice a n cap,.int .i64 k,.int .i64 e] w fun d w'=>(∃ i:Int,d = .returned (.int .i64 i)∧qZ5 said k e i)∧Below w.heap.size w w':=by
 obtain ⟨W,hW⟩:∃ W,W=(w.alloc (.cells #[.int .i64 k] 2)).alloc (.cells #[.int .i64 e] 2):=⟨_,rfl⟩
 have B0:Below w.heap.size w W:=by rw [hW];exact (zN).alloc (by simp) _
 have c0:W.cell? ⟨w.heap.size,0,none⟩=some (.int .i64 k):=by rw [hW];simp
 have c1:W.cell? ⟨w.heap.size+1,0,none⟩=some (.int .i64 e):=by rw [hW];simp
 have HC:Hid (Calls Tryz.prog 135 #[.slice a n cap,.func (.func 136) #[] #[.pointer (some ⟨w.heap.size,0,none⟩),.pointer (some ⟨w.heap.size+1,0,none⟩)]] W fun d w'=>(∃ i:Int,d = .returned (.int .i64 i)∧qZ5 said k e i)∧Below W.heap.size W w'):=saidIndex_c _ _ a n cap said k e W hn (h.below B0) c0 c1
 clear h c0 c1
 have hmf:∀ (fn:Fn) (first cap:Array Value) (w:World),(Instr.makeFunc fn first cap).run Tryz.prog w = .ok (.func fn first cap) w:=fun _ _ _ _=>rfl
 go_enter Tryz.func106,Tryz.ntmps106
 go_wp2_with fail
 rw [← hW]
 clear hW
 refine HC.out.mono ?_
 rintro d w1 ⟨⟨i,rfl,hi⟩,hb1⟩
 go_wp2
 go_ret
 exact ⟨⟨i,rfl,hi⟩,B0.trans (hb1.mono B0.size)⟩
end

theorem tk_steps {locks needs:List LkI} (hs:SL locks) (ho:∀ x∈locks,okL x=true) (hn:SL needs) (hno:∀ x∈needs,okL x=true):∀ k,k≤needs.length→qJ4 locks needs k=none∨∃ all,TkS locks needs k all
 | 0,_ => .inr ⟨locks,TkS.zero needs hs ho⟩
 | k+1,hk=>by
  rcases tk_steps hs ho hn hno k (by omega) with h | ⟨all,h⟩
  ·exact .inl (qT3 h (by omega))
  ·have hx:=List.getElem?_eq_getElem (l:=needs) (i:=k) (by omega)
   have hok:=hno _ (List.mem_of_getElem? hx)
   rcases QD2 locks all needs[k] with ⟨h0,_⟩ | ⟨h0,h1,_⟩ | ⟨h0,h1,h2⟩
   ·exact .inr ⟨_,h.put hn hx hok h0⟩
   ·exact .inr ⟨_,h.stay hx h0 h1⟩
   ·exact .inl (by rw [qJ3 h.tk hx];exact h2)

theorem qZ0:∀ {gs:List LkI} {x:LkI},SL gs→x∈gs→qE7 gs x.e x.c x.p=x.f
 | y::r,x,hs,hx=>by
  have hs':=List.pairwise_cons.1 hs
  rw [qW0]
  by_cases q:y.e=x.e∧y.c=x.c∧y.p=x.p
  ·rw [if_pos q]
   rcases List.mem_cons.1 hx with rfl | h
   ·rfl
   ·have hlt:=hs'.1 x h
    simp only [ltL,decide_eq_true_eq] at hlt
    omega
  ·rw [if_neg q]
   rcases List.mem_cons.1 hx with rfl | h
   ·exact absurd ⟨rfl,rfl,rfl⟩ q
   ·exact qZ0 hs'.2 h
theorem QL1:∀ {gs:List LkI} {x:LkI},qE7 gs x.e x.c x.p=x.f→x.f≠0→x∈gs
 | [],x,h,h0=>absurd h.symm h0
 | y::r,x,h,h0=>by
  rw [qW0] at h
  by_cases q:y.e=x.e∧y.c=x.c∧y.p=x.p
  ·rw [if_pos q] at h
   have : y=x:=by
    cases x;cases y
    simp_all
   rw [this]
   exact List.mem_cons_self
  ·rw [if_neg q] at h
   exact List.mem_cons_of_mem _ (QL1 h h0)
theorem okL_form {x:LkI} (h:okL x=true):x.f≠0:=by
 simp [okL,inR] at h
 omega
theorem tk_needs {locks needs:List LkI} (hs:SL locks) (ho:∀ x∈locks,okL x=true) (hn:SL needs) (hno:∀ x∈needs,okL x=true):∀ k,k≤needs.length→∀ all,qJ4 locks needs k=some all→TkS locks needs k all∧∀ j x,j < k→needs[j]? = some x→x∈all
 | 0,_,all,h=>by
  have : locks=all:=Option.some.inj h
  subst this
  exact ⟨TkS.zero needs hs ho,fun j x hj _=>by omega⟩
 | k+1,hk,all,h=>by
  have hx:=List.getElem?_eq_getElem (l:=needs) (i:=k) (by omega)
  have hok:=hno _ (List.mem_of_getElem? hx)
  rcases tk_steps hs ho hn hno k (by omega) with q | ⟨all0,q⟩
  ·rw [qT3 q (by omega)] at h;cases h
  ·have ih:=(tk_needs hs ho hn hno k (by omega) all0 q.tk).2
   rw [qJ3 q.tk hx] at h
   rcases QD2 locks all0 needs[k] with ⟨h0,h1⟩ | ⟨h0,h1,h2⟩ | ⟨h0,h1,h2⟩
   ·rw [h1] at h
    have e:QB1 all0 needs[k]=all:=Option.some.inj h
    subst e
    refine ⟨q.put hn hx hok h0,fun j x hj hjx=>?_⟩
    by_cases e:j=k
    ·subst e
     rw [hx] at hjx
     cases hjx
     exact QI1.2 (.inl rfl)
    ·exact QI1.2 (.inr (ih j x (by omega) hjx))
   ·rw [h2] at h
    have e:all0=all:=Option.some.inj h
    subst e
    refine ⟨q.stay hx h0 h1,fun j x hj hjx=>?_⟩
    by_cases e:j=k
    ·subst e
     rw [hx] at hjx
     cases hjx
     exact q.old _ (QL1 h1 (okL_form hok))
    ·exact ih j x (by omega) hjx
   ·rw [h2] at h;cases h
theorem tk_again {all needs:List LkI} (hs:SL all) (hno:∀ x∈needs,okL x=true) (hm:∀ x∈needs,x∈all):∀ k,k≤needs.length→qJ4 all needs k=some all
 | 0,_=>rfl
 | k+1,hk=>by
  have hx:=List.getElem?_eq_getElem (l:=needs) (i:=k) (by omega)
  have hmem:=List.mem_of_getElem? hx
  have hf:=qZ0 hs (hm _ hmem)
  have h0:=okL_form (hno _ hmem)
  rw [qJ3 (tk_again hs hno hm k (by omega)) hx,qO8,if_neg (by rw [hf];exact h0),if_pos hf]
theorem tk_refused {locks needs:List LkI} {j:Nat} {x:LkI} (hx:needs[j]? = some x) (h0:qE7 locks x.e x.c x.p≠0) (h1:qE7 locks x.e x.c x.p≠x.f):qJ1 locks needs=6:=by
 have hj:j < needs.length:=by
  by_cases q:j < needs.length
  ·exact q
  ·rw [List.getElem?_eq_none (by omega)] at hx;cases hx
 have hn:qJ4 locks needs (j+1)=none:=by
  cases h:qJ4 locks needs j with
  | none=>exact qT3 h (by omega)
  | some all=>rw [qJ3 h hx,qO8,if_neg h0,if_neg h1]
 exact (QD1 hn (by omega)).1

theorem lk_of {gs:List LkI} (hl:gs.length≤200) (hs:SL gs) (ho:∀ x∈gs,okL x=true):qJ8 gs=0:=by
 have key:∀ k,k≤gs.length→QI2 gs k=0:=by
  intro k
  induction k with
  | zero=>intro _;rfl
  | succ k ih =>
   intro hk
   have hx:=List.getElem?_eq_getElem (l:=gs) (i:=k) (by omega)
   rw [QL9 hx (ih (by omega)),QF6]
   refine ⟨ho _ (List.mem_of_getElem? hx),?_⟩
   cases k with
   | zero=>rfl
   | succ j =>
    have hy:=List.getElem?_eq_getElem (l:=gs) (i:=j) (by omega)
    rw [prevL_of hy]
    exact List.pairwise_iff_getElem.1 hs j (j+1) (by omega) (by omega) (by omega)
 unfold qJ8
 rw [if_neg (by omega)]
 exact key _ (Nat.le_refl _)
theorem QR7 {s p:Int}:∀ {k:Nat},1≤p→p≤(k:Int)→qJ0 s p=true→p∈qB2 s k
 | 0,h1,h2,_=>by omega
 | k+1,h1,h2,h=>by
  by_cases e:p=(k:Int)+1
  ·subst e
   rw [qV7 s k h]
   simp
  ·have ih:=QR7 (s:=s) (p:=p) (k:=k) h1 (by omega) h
   unfold qB2
   split
   ·exact List.mem_append.2 (.inl ih)
   ·exact ih
theorem QF4 {zs:List Int} {e f s p z:Int} {k:Nat} (hz:zs[k]? = some z) (hf:qJ0 z f=true) (h1:1≤p) (h2:p≤8) (hp:qJ0 s p=true):∀ n,k < n→(⟨e,(k:Int),p,f⟩:LkI)∈qB3 zs e f s n
 | 0,h=>by omega
 | n+1,h=>by
  unfold qB3
  by_cases e':k=n
  ·subst e'
   refine List.mem_append.2 (.inr ?_)
   unfold qS5
   rw [hz,if_pos (by simpa using hf)]
   unfold qG3
   exact List.mem_map.2 ⟨p,QR7 h1 (by simpa using h2) hp,rfl⟩
  ·exact List.mem_append.2 (.inl (QF4 hz hf h1 h2 hp n (by omega)))
theorem some_bit:∀ n:Fin 256,n.val=0∨∃ k:Fin 8,n.val.testBit k.val=true:=by decide +kernel
theorem some_in {s:Int} (h0:0≤s) (h1:s≤255) (hs:s≠0):∃ p:Int,1≤p∧p≤8∧qJ0 s p=true:=by
 obtain ⟨n,rfl⟩:=Int.eq_ofNat_of_zero_le h0
 rcases some_bit ⟨n,by omega⟩ with h | ⟨k,h⟩
 ·simp only at h;omega
 ·refine ⟨(k.val:Int)+1,by omega,by have:=k.isLt;omega,?_⟩
  simpa [qJ0] using h
theorem classes_law {L:List LkI} {zs:List Int} {e f s:Int} (h:qE5 L zs e f s=0) :
  qE6 zs e f s=0∧qJ8 (qL1 L zs e f s)=0∧(qL1 L zs e f s).length≤200∧(∀ x∈qB3 zs e f s zs.length,qE7 (qL1 L zs e f s) e x.c x.p=f)∧(∀ x∈L,qE7 (qL1 L zs e f s) x.e x.c x.p=x.f)∧L.length≤200
   ∧ qE5 (qL1 L zs e f s) zs e f s=0∧qL1 (qL1 L zs e f s) zs e f s=qL1 L zs e f s∧(∀ o,clashV zs f o=true→s≠0→qE5 (qL1 L zs e f s) zs e o s=6):=by
 have hk:qJ8 L=0:=by
  by_cases q:qJ8 L=0
  ·exact q
  ·unfold qE5 at h;rw [if_neg q] at h;exact absurd h q
 have hn:qE6 zs e f s=0:=by
  by_cases q:qE6 zs e f s=0
  ·exact q
  ·unfold qE5 at h;rw [if_pos hk,if_neg q] at h;exact absurd h q
 have ht:qJ1 L (qB3 zs e f s zs.length)=0:=by unfold qE5 at h;rw [if_pos hk,if_pos hn] at h;exact h
 have hR:qL1 L zs e f s=tkL L (qB3 zs e f s zs.length):=by unfold qL1;rw [if_pos ⟨hk,hn⟩]
 obtain ⟨l1,l2,l3⟩:=QF5 hk
 obtain ⟨n1,n2⟩:=QU0 hn
 obtain ⟨n0,ne,nf,ns⟩:=QK9 hn
 cases ha:qJ4 L (qB3 zs e f s zs.length) (qB3 zs e f s zs.length).length with
 | none=>rw [(QD1 ha (Nat.le_refl _)).1] at ht;cases ht
 | some all =>
  have hm:¬ 200 < all.length:=fun q=>by rw [(QT1 ha q).1] at ht;cases ht
  have hRa:qL1 L zs e f s=all:=by rw [hR];exact (QF0 ha hm).2
  obtain ⟨T,hin⟩:=tk_needs l2 l3 n1 n2 _ (Nat.le_refl _) all ha
  have hmem:∀ x∈qB3 zs e f s zs.length,x∈all:=fun x hx=>by
   obtain ⟨j,hj,e'⟩:=List.getElem_of_mem hx
   exact hin j x hj (by rw [List.getElem?_eq_getElem hj,e'])
  have hlk:qJ8 all=0:=lk_of (by omega) T.sl T.ok
  have hag:=tk_again T.sl n2 hmem (qB3 zs e f s zs.length).length (Nat.le_refl _)
  rw [hRa]
  refine ⟨hn,hlk,by omega,fun x hx=>?_,fun x hx=>qZ0 T.sl (T.old x hx),l1,?_,?_,fun o hc hs0=>?_⟩
  ·have q:=(QL0 zs e f s zs.length).2 x hx
   have:=qZ0 T.sl (hmem x hx)
   rw [q.1,q.2.2.2] at this
   exact this
  ·unfold qE5;rw [if_pos hlk,if_pos hn];exact (QF0 hag hm).1
  ·unfold qL1;rw [if_pos ⟨hlk,hn⟩];exact (QF0 hag hm).2
  ·simp only [clashV,clashB,bothB,Bool.and_eq_true,List.any_eq_true,beq_iff_eq,bne_iff_ne] at hc
   obtain ⟨_,_,ho,hne,z,hz,hzf,hzo⟩:=hc
   obtain ⟨k,hkl,hzk⟩:=List.getElem_of_mem hz
   have hzk':zs[k]? = some z:=by rw [List.getElem?_eq_getElem hkl,hzk]
   rw [qG9] at ns
   obtain ⟨p,p1,p2,hp⟩:=some_in ns.1 ns.2 hs0
   have m1:=hmem _ (QF4 (e:=e) hzk' hzf p1 p2 hp zs.length hkl)
   have m2:=QF4 (e:=e) hzk' hzo p1 p2 hp zs.length hkl
   have f1:qE7 all e (k:Int) p=f:=qZ0 T.sl m1
   obtain ⟨j,hj,ej⟩:=List.getElem_of_mem m2
   have hno:qE6 zs e o s=0:=need_of n0 ne ho (by rw [qG9];exact ns)
   unfold qE5
   rw [if_pos hlk,if_pos hno]
   rw [qG9] at nf
   exact tk_refused (j:=j) (x:=⟨e,(k:Int),p,o⟩) (by rw [List.getElem?_eq_getElem hj,ej]) (by show qE7 all e (k:Int) p≠0;rw [f1];omega) (by show qE7 all e (k:Int) p≠o;rw [f1];exact hne)

structure qI1 where
 es:List Int
 al:Nat→Int→Int→Bool
 cl:Nat→List Int
def nextOf (o:Option StI):Int:=match o with
 | some y=>y.n
 | none => -1
def qB5 (E:qI1) (said:List StI) (e:Int):Int:=if e=E.es.headD 0 then 0 else nextOf (qI5 said 4 (e - 1))
def qD1 (E:qI1) (said:List StI) (x:StI):Int:=if qR1 said x.k x.e=true then 6 else if (E.es.length:Int)≤x.n then 3 else if E.es[x.n.toNat]?.getD 0≠x.e+1 then 10 else 0
def qH7 (E:qI1) (said:List StI) (locks:List LkI) (p:Nat) (x:StI):Int:=if (qU4 said x.e || qD8 said (qT0 x))=true then 9 else if E.al p x.f x.s=false then 8 else qE5 locks (E.cl p) x.e x.f x.s
def qG0 (E:qI1) (said:List StI) (locks:List LkI) (x:StI):Int:=if qB5 E said x.e < 0 then 4 else if 40≤said.length then 2 else if x.k=1 then qH7 E said locks (qB5 E said x.e).toNat x else if x.k=2 then 0 else qD1 E said x
def qE2 (E:qI1) (said:List StI) (locks:List LkI) (x:StI):Int:=if qC3 x=0 then (if qD8 said x=true then 0 else qG0 E said locks x) else qC3 x
def qE0 (E:qI1) (said:List StI) (locks:List LkI) (x:StI):List LkI:=if x.k=1 then qL1 locks (E.cl (qB5 E said x.e).toNat) x.e x.f x.s else locks
def qI6 (said:List StI) (x:StI):List StI:=if qD8 said x=true then said else said++[x]
def qG5 (E:qI1) (said:List StI) (locks:List LkI) (x:StI):List LkI:=if qD8 said x=true then locks else qE0 E said locks x
def qF6 (E:qI1) (xs:List StI):Nat→Option (List LkI)
 | 0=>some []
 | k+1=>match qF6 E xs k with
  | none=>none
  | some ls=>match xs[k]? with
   | none=>some ls
   | some x=>if qD8 (xs.take k) x=true then none else if qE2 E (xs.take k) ls x=0 then some (qE0 E (xs.take k) ls x) else none
theorem qZ9 {E:qI1} {xs:List StI} {k m:Nat} (h:qF6 E xs k=none) (hm:k≤m):qF6 E xs m=none:=by
  induction m with
  | zero => obtain rfl:k=0:=by omega
            exact h
  | succ m ih =>
    by_cases e:k=m+1
    · subst e;exact h
    · simp [qF6,ih (by omega)]
theorem QK5 {E:qI1} {xs:List StI} {k:Nat} {ls:List LkI} {x:StI} (h:qF6 E xs k=some ls) (hx:xs[k]? = some x):qF6 E xs (k+1)=if qD8 (xs.take k) x=true then none else if qE2 E (xs.take k) ls x=0 then some (qE0 E (xs.take k) ls x) else none:=by
 simp [qF6,h,hx]
structure RpS (E:qI1) (said:List StI) (ls:List LkI):Prop where
 lk:qJ8 ls=0
 st:∀ x∈said,qC3 x=0
 nx:∀ x∈said,x.k=4→0≤x.n∧x.n < (E.es.length:Int)
 len:said.length≤40
theorem RpS.nil (E:qI1):RpS E [] []:=⟨rfl,fun x h=>(List.not_mem_nil h).elim,fun x h=>(List.not_mem_nil h).elim,Nat.zero_le _⟩
theorem st_zero {x:StI} (h:qC3 x=0):inR x.k 1 4=true∧ownB x=true∧rngB x=true:=by
 unfold qC3 at h
 cases h1:inR x.k 1 4 with
 | false=>rw [h1] at h;simp at h
 | true =>
  cases h2:ownB x with
  | false=>rw [h1,h2] at h;simp at h
  | true =>
   cases h3:rngB x with
   | false=>rw [h1,h2,h3] at h;simp at h
   | true=>exact ⟨rfl,rfl,rfl⟩
theorem qI2 {x:StI} (h:qC3 x=0):(1≤x.k∧x.k≤4)∧(1≤x.e∧x.e≤9)∧(0≤x.n∧x.n≤7)∧(0≤x.f∧x.f≤4)∧(0≤x.s∧x.s≤255)∧(x.k≤2→1≤x.f∧1≤x.s∧x.n=0)∧(3≤x.k→x.f=0∧x.s=0):=by
 obtain ⟨h1,h2,h3⟩:=st_zero h
 rw [qG9] at h1
 have h2':x=ownI x:=by
  have : qP8 x (ownI x)=true:=h2
  exact of_decide_eq_true this
 unfold rngB at h3
 cases q:inR x.e 1 9 with
 | false=>rw [q] at h3;simp at h3
 | true =>
  rw [q] at h3
  rw [qG9] at q
  unfold ownI at h2'
  cases f:QH5 x.k with
  | true =>
   rw [f] at h3 h2'
   simp only [Bool.true_eq_false, ↓reduceIte] at h3 h2'
   have hn:x.n=0:=by rw [h2']
   cases g:inR x.f 1 4 with
   | false=>rw [g] at h3;simp at h3
   | true =>
    rw [g] at h3
    simp only [Bool.true_eq_false, ↓reduceIte] at h3
    rw [qG9] at g h3
    have hk:x.k=1∨x.k=2:=by simpa [QH5] using f
    omega
  | false =>
   rw [f] at h3 h2'
   simp only [Bool.true_eq_false,Bool.false_eq_true, ↓reduceIte] at h3 h2'
   rw [qG9] at h3
   have hf:x.f=0:=by rw [h2']
   have hs:x.s=0:=by rw [h2']
   have hk:¬ (x.k=1∨x.k=2):=by
    intro q
    have : QH5 x.k=true:=by simpa [QH5] using q
    rw [this] at f;cases f
   omega
theorem take_lk {L:List LkI} {zs:List Int} {e f s:Int} (h:qE5 L zs e f s=0):qJ8 (qL1 L zs e f s)=0:=(classes_law h).2.1
theorem QK8 {E:qI1} {said:List StI} {ls:List LkI} {x:StI} (hc:qG0 E said ls x=0):¬ qB5 E said x.e < 0∧¬ 40≤said.length∧(x.k=1→qH7 E said ls (qB5 E said x.e).toNat x=0)∧(x.k≠1→x.k≠2→qD1 E said x=0):=by
 unfold qG0 at hc
 by_cases h1:qB5 E said x.e < 0
 ·rw [if_pos h1] at hc;omega
 ·rw [if_neg h1] at hc
  by_cases h2:40≤said.length
  ·rw [if_pos h2] at hc;omega
  ·rw [if_neg h2] at hc
   refine ⟨h1,h2,fun q=>?_,fun q q2=>?_⟩
   ·rw [if_pos q] at hc;exact hc
   ·rw [if_neg q,if_neg q2] at hc;exact hc
theorem issue_parts {E:qI1} {said:List StI} {ls:List LkI} {p:Nat} {x:StI} (hc:qH7 E said ls p x=0):(qU4 said x.e || qD8 said (qT0 x))=false∧E.al p x.f x.s=true∧qE5 ls (E.cl p) x.e x.f x.s=0:=by
 unfold qH7 at hc
 cases h1:(qU4 said x.e || qD8 said (qT0 x)) with
 | true=>rw [if_pos h1] at hc;omega
 | false =>
  rw [if_neg (by rw [h1];simp)] at hc
  cases h2:E.al p x.f x.s with
  | false=>rw [if_pos h2] at hc;omega
  | true=>rw [if_neg (by rw [h2];simp)] at hc;exact ⟨rfl,rfl,hc⟩
theorem next_parts {E:qI1} {said:List StI} {x:StI} (hc:qD1 E said x=0):qR1 said x.k x.e=false∧x.n < (E.es.length:Int)∧E.es[x.n.toNat]?.getD 0=x.e+1:=by
 unfold qD1 at hc
 cases h1:qR1 said x.k x.e with
 | true=>rw [if_pos h1] at hc;omega
 | false =>
  rw [if_neg (by rw [h1];simp)] at hc
  by_cases h2:(E.es.length:Int)≤x.n
  ·rw [if_pos h2] at hc;omega
  ·rw [if_neg h2] at hc
   by_cases h3:E.es[x.n.toNat]?.getD 0=x.e+1
   ·exact ⟨rfl,by omega,h3⟩
   ·rw [if_pos h3] at hc;omega
theorem new_lk {E:qI1} {said:List StI} {ls:List LkI} {x:StI} (h:RpS E said ls) (hc:qG0 E said ls x=0):qJ8 (qE0 E said ls x)=0:=by
 unfold qE0
 by_cases q:x.k=1
 ·rw [if_pos q]
  exact take_lk (issue_parts ((QK8 hc).2.2.1 q)).2.2
 ·rw [if_neg q];exact h.lk
theorem RpS.next {E:qI1} {said:List StI} {ls:List LkI} {x:StI} (h:RpS E said ls) (hs:qC3 x=0) (hc:qG0 E said ls x=0):RpS E (said++[x]) (qE0 E said ls x):=by
 have hl:=(QK8 hc).2.1
 refine ⟨new_lk h hc,fun y hy=>?_,fun y hy hk=>?_,by rw [List.length_append];simp;omega⟩
 ·rcases List.mem_append.1 hy with q | q
  ·exact h.st y q
  ·rw [List.mem_singleton] at q;rw [q];exact hs
 ·rcases List.mem_append.1 hy with q | q
  ·exact h.nx y q hk
  ·rw [List.mem_singleton] at q
   subst q
   exact ⟨(qI2 hs).2.2.1.1,(next_parts ((QK8 hc).2.2.2 (by omega) (by omega))).2.1⟩
theorem end_new {E:qI1} {said:List StI} {ls:List LkI} {x:StI} (hn:qD8 said x=false) (hc:qE2 E said ls x=0):qC3 x=0∧qG0 E said ls x=0:=by
 unfold qE2 at hc
 split at hc
 ·rename_i q
  rw [hn] at hc
  simp only [Bool.false_eq_true, ↓reduceIte] at hc
  exact ⟨q,hc⟩
 ·rename_i q;exact absurd hc q
theorem QF3 {E:qI1} {xs:List StI}:∀ k ls,k≤xs.length→qF6 E xs k=some ls→RpS E (xs.take k) ls
 | 0,ls,_,h=>by
  have : ([]:List LkI)=ls:=Option.some.inj h
  subst this
  simpa using RpS.nil E
 | k+1,ls,hk,h=>by
  cases hp:qF6 E xs k with
  | none=>rw [qZ9 hp (by omega)] at h;cases h
  | some l0 =>
   have hx:=List.getElem?_eq_getElem (l:=xs) (i:=k) (by omega)
   have ih:=QF3 k l0 (by omega) hp
   rw [QK5 hp hx] at h
   split at h
   ·cases h
   ·rename_i hn
    split at h
    ·rename_i hc
     have e:qE0 E (xs.take k) l0 xs[k]=ls:=Option.some.inj h
     subst e
     have hn':qD8 (xs.take k) xs[k]=false:=by simpa using hn
     obtain ⟨q1,q2⟩:=end_new hn' hc
     rw [List.take_succ_eq_append_getElem (by omega)]
     exact ih.next q1 q2
    ·cases h
theorem known_in {E:qI1} {said:List StI} {ls:List LkI} (h:RpS E said ls) (hE:0 < E.es.length) (e:Int):qB5 E said e = -1∨(0≤qB5 E said e∧qB5 E said e < (E.es.length:Int)):=by
 unfold qB5
 split
 ·exact .inr ⟨by omega,by omega⟩
 ·cases hk:qI5 said 4 (e - 1) with
  | none=>exact .inl rfl
  | some y =>
   have hm:=List.mem_of_find?_eq_some hk
   have hp:=List.find?_some hk
   simp only [Bool.and_eq_true,decide_eq_true_eq] at hp
   exact .inr (h.nx y hm hp.1)

theorem QI5 {said:List StI} {k e i:Int} (h:qZ5 said k e i):decide (0≤i)=qR1 said k e:=by
 rw [kindB_at]
 rcases h with ⟨rfl,q⟩ | ⟨j,x,rfl,_,q⟩
 ·rw [q];rfl
 ·rw [q];simp
theorem isSealed_c (a:Option Addr) (n cap:Nat) (said:List StI) (e:Int) (w:World) (hn:n≤1048576) (h:qM5 w a n said) :
  Calls Tryz.prog 107 #[.slice a n cap,.int .i64 e] w fun d w'=>d = .returned (.bool (qU4 said e))∧Below w.heap.size w w':=by
 have HK:Hid (∀ (k:Int) (w2:World),Below w.heap.size w w2→Calls Tryz.prog 106 #[.slice a n cap,.int .i64 k,.int .i64 e] w2 fun d w'=>(∃ i:Int,d = .returned (.int .i64 i)∧qZ5 said k e i)∧Below w2.heap.size w2 w'):=fun k w2 hb=>QT5 a n cap said k e w2 hn (h.below hb)
 clear h
 unfold qU4
 cases q:qR1 said 3 e
 ·have HQ:Hid (qR1 said 3 e=false):=q
  clear q
  obtain ⟨t,ht⟩:∃ t,qR1 said 4 e=t:=⟨_,rfl⟩
  have HT:Hid (qR1 said 4 e=t):=ht
  rw [ht,Bool.false_or]
  clear ht
  go_enter Tryz.func107,Tryz.ntmps107
  go_wp2_with fail
  refine (HK.out 3 _ (Below.refl _ _)).mono ?_
  rintro d w1 ⟨⟨i,rfl,hi⟩,hb1⟩
  have h1:=QI5 hi
  rw [HQ.out] at h1
  clear hi
  go_wp2_with fail
  refine (HK.out 4 _ hb1).mono ?_
  rintro d w2 ⟨⟨i2,rfl,hi2⟩,hb2⟩
  have h2:=QI5 hi2
  rw [HT.out] at h2
  have H2:Hid (decide (0≤i2)=t):=h2
  clear hi2 h1 h2
  go_wp2
  go_ret
  exact ⟨by rw [← H2.out];rfl,hb1.trans (hb2.mono hb1.size)⟩
 ·have HQ:Hid (qR1 said 3 e=true):=q
  clear q
  rw [Bool.true_or]
  go_enter Tryz.func107,Tryz.ntmps107
  go_wp2_with fail
  refine (HK.out 3 _ (Below.refl _ _)).mono ?_
  rintro d w1 ⟨⟨i,rfl,hi⟩,hb1⟩
  have h1:=QI5 hi
  rw [HQ.out] at h1
  clear hi
  go_wp2
  go_ret
  exact ⟨rfl,hb1⟩
theorem QX8 (r:qH4) (l:Int) (w:World) (h0:(r.sn:Int)+(r.ln:Int)≤l) (hl:l≤1048576) :
  Calls Tryz.prog 8 #[.agg #[.int .i64 r.i,.int .i64 r.u,.slice r.sa r.sn r.sc,.slice r.la r.ln r.lc],.int .i64 l] w fun e w'=>e = .returned (.int .i64 (l - r.sn - r.ln))∧Below w.heap.size w w':=by
 have h1:(r.sn:Int)≤l:=by omega
 have h2:¬ (l - (r.sn:Int) < 0):=by omega
 have h3:¬ (l - (r.sn:Int) - (r.ln:Int) < 0):=by omega
 go_enter Tryz.func8,Tryz.ntmps8
 go_wp2_with go_in
 go_ret
 exact ⟨rfl,by go_grown⟩
theorem QO6 (r:qH4) (l:Int) (w:World) (hm:r.sn≤maxLen) (h0:l < (r.sn:Int)) (hl0:0≤l) (hl:l≤1048576) :
  Calls Tryz.prog 8 #[.agg #[.int .i64 r.i,.int .i64 r.u,.slice r.sa r.sn r.sc,.slice r.la r.ln r.lc],.int .i64 l] w fun e w'=>e = .returned (.int .i64 (-1))∧Below w.heap.size w w':=by
 unfold maxLen at hm
 have hm':(r.sn:Int)≤9223372036854775807:=by omega
 clear hm
 go_enter Tryz.func8,Tryz.ntmps8
 go_wp2_with go_in
 go_ret
 exact ⟨rfl,by go_grown⟩
theorem QJ5 (r:qH4) (l:Int) (w:World) (h1:(r.sn:Int)≤l) (hm:r.ln≤maxLen) (h0:l < (r.sn:Int)+(r.ln:Int)) (hl:l≤1048576) :
  Calls Tryz.prog 8 #[.agg #[.int .i64 r.i,.int .i64 r.u,.slice r.sa r.sn r.sc,.slice r.la r.ln r.lc],.int .i64 l] w fun e w'=>e = .returned (.int .i64 (-1))∧Below w.heap.size w w':=by
 unfold maxLen at hm
 have hm':(r.ln:Int)≤9223372036854775807:=by omega
 clear hm
 go_enter Tryz.func8,Tryz.ntmps8
 go_wp2_with go_in
 go_ret
 exact ⟨rfl,by go_grown⟩
theorem szReplica_c (r:qH4) (l:Int) (w:World) (hm:qL7 maxLen r) (hl0:0≤l) (hl:l≤1048576) :
  Calls Tryz.prog 8 #[.agg #[.int .i64 r.i,.int .i64 r.u,.slice r.sa r.sn r.sc,.slice r.la r.ln r.lc],.int .i64 l] w fun e w'=>(∃ v:Int,e = .returned (.int .i64 v)∧v≤l∧(0≤v→(r.sn:Int)≤l∧(r.ln:Int)≤l))∧Below w.heap.size w w':=by
 by_cases h1:(r.sn:Int)≤l
 ·by_cases h2:(r.sn:Int)+(r.ln:Int)≤l
  ·exact (QX8 r l w h2 hl).mono fun e w' h=>⟨⟨_,h.1,by omega,fun _=>by omega⟩,h.2⟩
  ·exact (QJ5 r l w h1 hm.locks (by omega) hl).mono fun e w' h=>⟨⟨_,h.1,by omega,fun q=>by omega⟩,h.2⟩
 ·exact (QO6 r l w hm.said (by omega) hl0 hl).mono fun e w' h=>⟨⟨_,h.1,by omega,fun q=>by omega⟩,h.2⟩

theorem st_form {x:StI} (hk:inR x.k 1 4=true) (h:x.k < 3):qC3 x=if x.n=0 then (if inR x.e 1 9=false then 3 else if inR x.f 1 4=false then 3 else if inR x.s 1 255=false then 3 else 0) else 1:=by
 obtain ⟨k,e,f,s,n⟩:=x
 simp only at hk h ⊢
 have hf:QH5 k=true:=by rw [qG9] at hk;have : k=1∨k=2:=(by omega);rcases this with rfl | rfl <;> rfl
 have ho:ownB ⟨k,e,f,s,n⟩=decide (n=0):=by
  unfold ownB ownI
  simp only [hf,if_true,qP8]
  simp [eq_comm]
 unfold qC3 rngB
 simp only [hk,ho,hf]
 by_cases h0:n=0
 ·subst h0
  cases inR e 1 9 <;> cases inR f 1 4 <;> cases inR s 1 255 <;> simp
 ·simp [h0]
theorem st_next {x:StI} (hk:inR x.k 1 4=true) (h:3≤x.k):qC3 x=if x.f=0∧x.s=0 then (if inR x.e 1 9=false then 3 else if inR x.n 0 7=false then 3 else 0) else 1:=by
 obtain ⟨k,e,f,s,n⟩:=x
 simp only at hk h ⊢
 have hf:QH5 k=false:=by rw [qG9] at hk;have : k=3∨k=4:=(by omega);rcases this with rfl | rfl <;> rfl
 have ho:ownB ⟨k,e,f,s,n⟩=decide (f=0∧s=0):=by
  unfold ownB ownI
  simp only [hf,qP8]
  simp
 unfold qC3 rngB
 simp only [hk,ho,hf]
 by_cases h0:f=0∧s=0
 ·obtain ⟨rfl,rfl⟩:=h0
  cases inR e 1 9 <;> cases inR n 0 7 <;> simp
 ·simp [h0]
theorem in07:inR 0 0 7=true:=rfl
theorem qN6 (b o:Nat) (x:StI) (w:World) (h:qS7 w b o x):Calls Tryz.prog 71 #[.pointer (some ⟨b,o,none⟩)] w fun e w'=>e = .returned (.int .i64 (qC3 x))∧w=w':=by
 obtain ⟨x0,x1,x2,x3,x4⟩:=h
 cases hk:inR x.k 1 4
 ·have hC:qC3 x=1:=by unfold qC3;rw [if_pos hk]
  rw [hC]
  clear hC
  go_enter Tryz.func71,Tryz.ntmps71
  go_wp2_with (first | (go_at_call 51;refine (qX8 _ _ _ _).mono ?_;rintro e w' ⟨rfl,rfl⟩;rw [hk]))
  go_ret
  exact ⟨rfl,rfl⟩
 ·by_cases h3:3≤x.k
  ·rw [st_next hk h3]
   by_cases f0:x.f=0
   ·by_cases s0:x.s=0
    ·rw [if_pos ⟨f0,s0⟩]
     rw [f0] at x2
     rw [s0] at x3
     clear f0 s0
     cases he:inR x.e 1 9
     ·go_enter Tryz.func71,Tryz.ntmps71
      go_wp2_with (first | (go_at_call 51;refine (qX8 _ _ _ _).mono ?_;rintro e w' ⟨rfl,rfl⟩;rw [hk]) | (go_at_call 95;refine (qT4 _ _).mono ?_;rintro e w' ⟨rfl,rfl⟩;rw [he]))
      go_ret
      exact ⟨rfl,rfl⟩
     ·cases hn:inR x.n 0 7
      all_goals
       go_enter Tryz.func71,Tryz.ntmps71
       go_wp2_with (first | (go_at_call 51;refine (qX8 _ _ _ _).mono ?_;rintro e w' ⟨rfl,rfl⟩;rw [hk]) | (go_at_call 95;refine (qT4 _ _).mono ?_;rintro e w' ⟨rfl,rfl⟩;rw [he]) | (go_at_call 51;refine (qX8 _ _ _ _).mono ?_;rintro e w' ⟨rfl,rfl⟩;rw [hn]))
       go_ret
       exact ⟨rfl,rfl⟩
    ·rw [if_neg (fun q=>s0 q.2)]
     rw [f0] at x2
     have sb:(x.s != 0)=true:=by simpa using s0
     clear f0 s0
     go_enter Tryz.func71,Tryz.ntmps71
     go_wp2_with (first | (go_at_call 51;refine (qX8 _ _ _ _).mono ?_;rintro e w' ⟨rfl,rfl⟩;rw [hk]))
     go_ret
     exact ⟨rfl,rfl⟩
   ·rw [if_neg (fun q=>f0 q.1)]
    have fb:(x.f != 0)=true:=by simpa using f0
    clear f0
    go_enter Tryz.func71,Tryz.ntmps71
    go_wp2_with (first | (go_at_call 51;refine (qX8 _ _ _ _).mono ?_;rintro e w' ⟨rfl,rfl⟩;rw [hk]))
    go_ret
    exact ⟨rfl,rfl⟩
  ·have h3':x.k < 3:=by omega
   rw [st_form hk h3']
   clear h3
   by_cases n0:x.n=0
   ·rw [if_pos n0]
    rw [n0] at x4
    clear n0
    have hn:=in07
    cases he:inR x.e 1 9
    ·go_enter Tryz.func71,Tryz.ntmps71
     go_wp2_with (first | (go_at_call 51;refine (qX8 _ _ _ _).mono ?_;rintro e w' ⟨rfl,rfl⟩;rw [hk]) | (go_at_call 95;refine (qT4 _ _).mono ?_;rintro e w' ⟨rfl,rfl⟩;rw [he]))
     go_ret
     exact ⟨rfl,rfl⟩
    ·cases hf:inR x.f 1 4
     ·go_enter Tryz.func71,Tryz.ntmps71
      go_wp2_with (first | (go_at_call 51;refine (qX8 _ _ _ _).mono ?_;rintro e w' ⟨rfl,rfl⟩;rw [hk]) | (go_at_call 95;refine (qT4 _ _).mono ?_;rintro e w' ⟨rfl,rfl⟩;rw [he]) | (go_at_call 96;refine (sForm_c _ _).mono ?_;rintro e w' ⟨rfl,rfl⟩;rw [hf]))
      go_ret
      exact ⟨rfl,rfl⟩
     ·cases hs:inR x.s 1 255
      all_goals
       go_enter Tryz.func71,Tryz.ntmps71
       go_wp2_with (first | (go_at_call 51;refine (qX8 _ _ _ _).mono ?_;rintro e w' ⟨rfl,rfl⟩;rw [hk]) | (go_at_call 95;refine (qT4 _ _).mono ?_;rintro e w' ⟨rfl,rfl⟩;rw [he]) | (go_at_call 96;refine (sForm_c _ _).mono ?_;rintro e w' ⟨rfl,rfl⟩;rw [hf]) | (go_at_call 51;refine (qX8 _ _ _ _).mono ?_;rintro e w' ⟨rfl,rfl⟩;rw [hs]) | (go_at_call 51;refine (qX8 _ _ _ _).mono ?_;rintro e w' ⟨rfl,rfl⟩;rw [hn]))
       go_ret
       exact ⟨rfl,rfl⟩
   ·rw [if_neg n0]
    have nb:(x.n != 0)=true:=by simpa using n0
    clear n0
    go_enter Tryz.func71,Tryz.ntmps71
    go_wp2_with (first | (go_at_call 51;refine (qX8 _ _ _ _).mono ?_;rintro e w' ⟨rfl,rfl⟩;rw [hk]))
    go_ret
    exact ⟨rfl,rfl⟩

end Go.Proofs.YtlpgapdlepbgbaaGreatDoor
