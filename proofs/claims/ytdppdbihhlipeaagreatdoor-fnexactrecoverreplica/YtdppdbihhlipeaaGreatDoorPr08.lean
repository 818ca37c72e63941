/- Contracts. -/
import Derived.Test.YtdppdbihhlipeaaGreatDoorPr06
import Derived.Test.YtdppdbihhlipeaaGreatDoorPr07
import Derived.Deep.CutBlock
namespace Go.Proofs.YtdppdbihhlipeaaGreatDoor
set_option maxRecDepth 100000
set_option maxHeartbeats 8000000
open Go.RowKit
set_option linter.unusedVariables false
set_option linter.unusedSimpArgs false

def qG6 (zs:List Int):Int:=if 4 < zs.length then 2 else if zs.all (fun c=>inR c 0 15)=true then 0 else 3
theorem QG0 {zs:List Int} {k:Nat} {x:Int} (hl:zs.length<=4) (hx:zs[k]? = some x) (hb:inR x 0 15=false):qG6 zs=3:=by
 unfold qG6;rw [if_neg (by omega),if_neg];intro h;have:=List.all_eq_true.1 h x (List.mem_of_getElem? hx);rw [hb] at this;cases this
theorem qBK {zs:List Int} (hl:zs.length<=4) (h:∀ (k:Nat) (x:Int),k < zs.length->zs[k]? = some x->inR x 0 15=true):qG6 zs=0:=by
 unfold qG6;rw [if_neg (by omega),if_pos];refine List.all_eq_true.2 (fun x hx=>?_);obtain ⟨k,hk⟩:=List.mem_iff_getElem?.1 hx
 exact h k x (by
  by_cases q:k < zs.length
  ·exact q
  ·rw [List.getElem?_eq_none (by omega)] at hk;cases hk) hk
theorem qFR {zs:List Int} (h:qG6 zs=0):zs.length<=4/\∀ x∈zs,inR x 0 15=true:=by
 unfold qG6 at h;split at h
 ·cases h
 ·split at h
  ·rename_i q1 q2;exact ⟨by omega,List.all_eq_true.1 q2⟩
  ·cases h
theorem qE7 (v lo hi:Int):inR v lo hi=true↔lo<=v/\v<=hi:=by simp [inR]
theorem qX7 (v lo hi:Int) (w:World):Calls Tryz.prog 57 #[.int .i64 v,.int .i64 lo,.int .i64 hi] w fun e w'=>e = .returned (.bool (inR v lo hi))/\w=w':=by
 unfold inR;cases h0:decide (lo<=v)
 ·go_enter Tryz.func57,Tryz.ntmps57;go_wp2;go_ret;exact ⟨by simp,rfl⟩
 ·cases h1:decide (v<=hi)
  all_goals
   go_enter Tryz.func57,Tryz.ntmps57;go_wp2;go_ret;exact ⟨by simp,rfl⟩
theorem qFz (v:Int) (w:World):Calls Tryz.prog 90 #[.int .i64 v] w fun e w'=>e = .returned (.bool (inR v 1 4))/\w=w':=by
 go_enter Tryz.func90,Tryz.ntmps90;go_wp2_with (go_at_call 57;refine (qX7 _ _ _ _).mono ?_;rintro e w' ⟨rfl,rfl⟩)
 go_ret;exact ⟨rfl,rfl⟩
theorem qS7 (v:Int) (w:World):Calls Tryz.prog 89 #[.int .i64 v] w fun e w'=>e = .returned (.bool (inR v 1 9))/\w=w':=by
 go_enter Tryz.func89,Tryz.ntmps89;go_wp2_with (go_at_call 57;refine (qX7 _ _ _ _).mono ?_;rintro e w' ⟨rfl,rfl⟩)
 go_ret;exact ⟨rfl,rfl⟩
theorem QB6 (v:Int) (w:World):Calls Tryz.prog 150 #[.int .i64 v] w fun e w'=>e = .returned (.bool (inR v 1 4))/\w=w':=by
 unfold inR;cases h0:decide (1<=v)
 ·go_enter Tryz.func150,Tryz.ntmps150;go_wp2;go_ret;exact ⟨by simp,rfl⟩
 ·cases h1:decide (v<=4)
  all_goals
   go_enter Tryz.func150,Tryz.ntmps150;go_wp2;go_ret;exact ⟨by simp,rfl⟩
theorem qI0 (v:Int) (w:World):Calls Tryz.prog 149 #[.int .i64 v] w fun e w'=>e = .returned (.bool (inR v 1 9))/\w=w':=by
 unfold inR;cases h0:decide (1<=v)
 ·go_enter Tryz.func149,Tryz.ntmps149;go_wp2;go_ret;exact ⟨by simp,rfl⟩
 ·cases h1:decide (v<=9)
  all_goals
   go_enter Tryz.func149,Tryz.ntmps149;go_wp2;go_ret;exact ⟨by simp,rfl⟩
theorem qHI (v:Int) (w:World):Calls Tryz.prog 206 #[.int .i64 v] w fun e w'=>e = .returned (.bool (inR v 1 8))/\w=w':=by
 unfold inR;cases h0:decide (1<=v)
 ·go_enter Tryz.func206,Tryz.ntmps206;go_wp2;go_ret;exact ⟨by simp,rfl⟩
 ·cases h1:decide (v<=8)
  all_goals
   go_enter Tryz.func206,Tryz.ntmps206;go_wp2;go_ret;exact ⟨by simp,rfl⟩
theorem QX5 (v:Int) (w:World):Calls Tryz.prog 205 #[.int .i64 v] w fun e w'=>e = .returned (.bool (inR v 0 3))/\w=w':=by
 by_cases q0:0<=v
 ·by_cases q1:v < 4
  ·have e0:inR v 0 3=true:=by simp [inR];omega
   rw [e0];clear e0;go_enter Tryz.func205,Tryz.ntmps205;go_wp2;go_ret;exact ⟨rfl,rfl⟩
  ·have e0:inR v 0 3=false:=by simp [inR];omega
   rw [e0];clear e0;go_enter Tryz.func205,Tryz.ntmps205;go_wp2;go_ret;exact ⟨rfl,rfl⟩
 ·have e0:inR v 0 3=false:=by simp [inR];omega
  rw [e0];clear e0;go_enter Tryz.func205,Tryz.ntmps205;go_wp2;go_ret;exact ⟨rfl,rfl⟩
theorem qG4 (a:Option Addr) (n cap:Nat) (zs:List Int) (w:World) (h:qC9 w a n zs) :
  Calls Tryz.prog 183 #[.slice a n cap] w fun e w'=>e = .returned (.int .i64 (qG6 zs))/\w=w':=by
 have HZ:Hid (zs.length=n):=h.1;have HI:Hid (qC9 w a n zs):=h;clear h;by_cases h4:4 < n
 ·have hc:qG6 zs=2:=by unfold qG6;rw [if_pos (by rw [HZ.out];exact h4)]
  rw [hc];clear hc;have h4':(4:Int) < (n:Int):=by omega
  go_enter Tryz.func183,Tryz.ntmps183;go_wp2;go_ret;exact ⟨rfl,rfl⟩
 ·have h4':(n:Int)<=4:=by omega
  go_enter Tryz.func183,Tryz.ntmps183;go_wp2;go_loop [10] (fun i=>∃ k:Nat,k<=n/\i = .int .i64 (k:Int)/\∀ (j:Nat) (x:Int),j < k->zs[j]? = some x->inR x 0 15=true) (fun i=>n - (intOf i).toNat)
  case atStart=>exact ⟨0,Nat.zero_le _,rfl,fun j x hj=>by omega⟩
  case round =>
   obtain ⟨k,hk,rfl,hok⟩:=hrel;have HOK:Hid (∀ (j:Nat) (x:Int),j < k->zs[j]? = some x->inR x 0 15=true):=hok;clear hok;by_cases hlt:k < n
   ·obtain ⟨b,off,x,e,hx,hc,hb⟩:=HI.out.at hlt
    subst e;have HX:Hid (zs[k]? = some x):=hx;clear hx;have hlt':(k:Int) < (n:Int):=by omega
    by_cases q0:x < 0
    ·have HB:Hid (qG6 zs=3):=QG0 (by rw [HZ.out];omega) HX.out (by simp [inR];omega);go_wp2;go_ret;exact ⟨by rw [HB.out];rfl,rfl⟩
    ·by_cases q1:16<=x
     ·have HB:Hid (qG6 zs=3):=QG0 (by rw [HZ.out];omega) HX.out (by simp [inR];omega);go_wp2;go_ret;exact ⟨by rw [HB.out];rfl,rfl⟩
     ·have HN:Hid (∀ (j:Nat) (y:Int),j < k+1->zs[j]? = some y->inR y 0 15=true):=fun j y hj hy=>by
       by_cases e:j=k
       ·subst e;rw [HX.out] at hy;cases hy;simp [inR];omega
       ·exact HOK.out j y (by omega) hy
      go_wp2;go_round
      case rel=>exact ⟨k+1,by omega,by go_num,HN.out⟩
      case measure=>simp [intOf];omega
   ·have hkn:k=n:=by omega
    subst hkn;have HB:Hid (qG6 zs=0):=qBK (by rw [HZ.out];omega) (fun j x hj hx=>HOK.out j x (by rw [HZ.out] at hj;exact hj) hx);go_wp2;go_ret;exact ⟨by rw [HB.out];rfl,rfl⟩
theorem qCJ (a:Option Addr) (n cap:Nat) (zs:List Int) (w:World) (h:qC9 w a n zs) :
  Calls Tryz.prog 117 #[.slice a n cap] w fun e w'=>e = .returned (.int .i64 (qG6 zs))/\w=w':=by
 have HZ:Hid (zs.length=n):=h.1;have HI:Hid (qC9 w a n zs):=h;clear h;by_cases h4:4 < n
 ·have hc:qG6 zs=2:=by unfold qG6;rw [if_pos (by rw [HZ.out];exact h4)]
  rw [hc];clear hc;have h4':(4:Int) < (n:Int):=by omega
  go_enter Tryz.func117,Tryz.ntmps117;go_wp2;go_ret;exact ⟨rfl,rfl⟩
 ·have h4':(n:Int)<=4:=by omega
  go_enter Tryz.func117,Tryz.ntmps117;go_wp2;go_loop [3] (fun i=>∃ k:Nat,k<=n/\i = .int .i64 (k:Int)/\∀ (j:Nat) (x:Int),j < k->zs[j]? = some x->inR x 0 15=true) (fun i=>n - (intOf i).toNat)
  case atStart=>exact ⟨0,Nat.zero_le _,rfl,fun j x hj=>by omega⟩
  case round =>
   obtain ⟨k,hk,rfl,hok⟩:=hrel;have HOK:Hid (∀ (j:Nat) (x:Int),j < k->zs[j]? = some x->inR x 0 15=true):=hok;clear hok;by_cases hlt:k < n
   ·obtain ⟨b,off,x,e,hx,hc,hb⟩:=HI.out.at hlt
    subst e;have HX:Hid (zs[k]? = some x):=hx;clear hx;have hlt':(k:Int) < (n:Int):=by omega
    by_cases q0:inR x 0 15=true
    ·have HN:Hid (∀ (j:Nat) (y:Int),j < k+1->zs[j]? = some y->inR y 0 15=true):=fun j y hj hy=>by
      by_cases e:j=k
      ·subst e;rw [HX.out] at hy;cases hy;exact q0
      ·exact HOK.out j y (by omega) hy
     have HQ:Hid (inR x 0 15=true):=q0;clear q0;go_wp2_with (go_at_call 57;refine (qX7 _ _ _ _).mono ?_;rintro e w' ⟨rfl,rfl⟩;rw [HQ.out])
     go_round
     case rel=>exact ⟨k+1,by omega,by go_num,HN.out⟩
     case measure=>simp [intOf];omega
    ·have HQ:Hid (inR x 0 15=false):=by show inR x 0 15=false;simpa using q0
     clear q0;have HB:Hid (qG6 zs=3):=QG0 (by rw [HZ.out];omega) HX.out HQ.out;go_wp2_with (go_at_call 57;refine (qX7 _ _ _ _).mono ?_;rintro e w' ⟨rfl,rfl⟩;rw [HQ.out])
     go_ret;exact ⟨by rw [HB.out];rfl,rfl⟩
   ·have hkn:k=n:=by omega
    subst hkn;have HB:Hid (qG6 zs=0):=qBK (by rw [HZ.out];omega) (fun j x hj hx=>HOK.out j x (by rw [HZ.out] at hj;exact hj) hx);go_wp2;go_ret;exact ⟨by rw [HB.out];rfl,rfl⟩

theorem QE9.new (w:World) (x:LkI) (t:TypeId):QE9 (w.alloc (.cells #[.int .i64 x.e,.int .i64 x.c,.int .i64 x.p,.int .i64 x.f] t)) w.heap.size 0 x:=⟨by simp,by simp,by simp,by simp⟩
theorem qLH (x y:Int) (w:World):Calls Tryz.prog 208 #[.int .i64 x,.int .i64 y] w fun e w'=>e = .returned (.int .i64 (qFQ x y))/\w=w':=by
 unfold qFQ;by_cases h1:x < y
 ·go_enter Tryz.func208,Tryz.ntmps208;go_wp2;go_ret;exact ⟨by simp [h1],rfl⟩
 ·by_cases h2:y < x
  ·go_enter Tryz.func208,Tryz.ntmps208;go_wp2;go_ret;exact ⟨by simp [h1,h2],rfl⟩
  ·go_enter Tryz.func208,Tryz.ntmps208;go_wp2;go_ret;exact ⟨by simp [h1,h2],rfl⟩
theorem qMq (g:Nat) (c d f:Int) (w:World) (h0:w.cell? ⟨g,0,none⟩=some (.int .i64 c)) (h1:w.cell? ⟨g,1,none⟩=some (.int .i64 d)) (h2:w.cell? ⟨g,2,none⟩=some (.int .i64 f)) :
  Calls Tryz.prog 207 #[.slice (some ⟨g,0,none⟩) 3 3] w fun e w'=>e = .returned (.int .i64 (orJ c (orJ d f)))/\w=w':=by
 go_enter Tryz.func207,Tryz.ntmps207;go_wp2;go_loop [8] (fun i=>∃ k:Nat,k<=3/\i = .int .i64 (k:Int)/\(1<=k->c=0)/\(2<=k->d=0)/\(3<=k->f=0)) (fun i=>3 - (intOf i).toNat)
 case atStart=>exact ⟨0,by omega,rfl,fun h=>by omega,fun h=>by omega,fun h=>by omega⟩
 case round =>
  obtain ⟨k,hk,rfl,hc,hd,hf⟩:=hrel;have hk':k=0\/k=1\/k=2\/k=3:=by omega
  rcases hk' with rfl | rfl | rfl | rfl
  ·clear hc hd hf;by_cases e:c=0
   ·have b:(c != 0)=false:=by simp [e]
    have HE:Hid (c=0):=e;clear e;go_wp2;exact ⟨⟨1,by omega,by go_num,fun _=>HE.out,fun h=>by omega,fun h=>by omega⟩,by simp [intOf]⟩
   ·have b:(c != 0)=true:=by simp [e]
    go_wp2;go_ret;exact ⟨by simp [orJ,e],rfl⟩
  ·have HC:Hid (c=0):=hc (by omega);clear hc hd hf;by_cases e:d=0
   ·have b:(d != 0)=false:=by simp [e]
    have HE:Hid (d=0):=e;clear e;go_wp2;exact ⟨⟨2,by omega,by go_num,fun _=>HC.out,fun _=>HE.out,fun h=>by omega⟩,by simp [intOf]⟩
   ·have b:(d != 0)=true:=by simp [e]
    go_wp2;go_ret;exact ⟨by simp [orJ,HC.out,e],rfl⟩
  ·have HC:Hid (c=0):=hc (by omega);have HD:Hid (d=0):=hd (by omega);clear hc hd hf;by_cases e:f=0
   ·have b:(f != 0)=false:=by simp [e]
    have HE:Hid (f=0):=e;clear e;go_wp2;exact ⟨⟨3,by omega,by go_num,fun _=>HC.out,fun _=>HD.out,fun _=>HE.out⟩,by simp [intOf]⟩
   ·have b:(f != 0)=true:=by simp [e]
    go_wp2;go_ret;exact ⟨by simp [orJ,HC.out,HD.out],rfl⟩
  ·have HC:Hid (c=0):=hc (by omega);have HD:Hid (d=0):=hd (by omega);have HF:Hid (f=0):=hf (by omega);clear hc hd hf;go_wp2;go_ret;exact ⟨by simp [orJ,HC.out,HD.out,HF.out],rfl⟩
def Six (w:World) (b:Nat) (x y:LkI):Prop:=(w.cell? ⟨b,0,none⟩=some (.int .i64 x.e)/\w.cell? ⟨b,1,none⟩=some (.int .i64 x.c)/\w.cell? ⟨b,2,none⟩=some (.int .i64 x.p))/\(w.cell? ⟨b+1,0,none⟩=some (.int .i64 y.e)/\w.cell? ⟨b+1,1,none⟩=some (.int .i64 y.c)/\w.cell? ⟨b+1,2,none⟩=some (.int .i64 y.p))
theorem qU2 (x y:LkI) (W:World):Calls Tryz.prog 187 #[.agg #[.int .i64 x.e,.int .i64 x.c,.int .i64 x.p,.int .i64 x.f],.agg #[.int .i64 y.e,.int .i64 y.c,.int .i64 y.p,.int .i64 y.f]] W fun e w'=>e = .returned (.int .i64 (cfL x y))/\Below W.heap.size W w':=by
 have HF:Hid (cfL x y=orJ (qFQ x.e y.e) (orJ (qFQ x.c y.c) (qFQ x.p y.p))):=rfl;go_enter Tryz.func187,Tryz.ntmps187;go_wp2
 go_region_held3 (fun w'=>((w'.cell? ⟨W.heap.size,0,none⟩=some (.int .i64 x.e)/\w'.cell? ⟨W.heap.size,1,none⟩=some (.int .i64 x.c)/\w'.cell? ⟨W.heap.size,2,none⟩=some (.int .i64 x.p))/\(w'.cell? ⟨W.heap.size+1,0,none⟩=some (.int .i64 y.e)/\w'.cell? ⟨W.heap.size+1,1,none⟩=some (.int .i64 y.c)/\w'.cell? ⟨W.heap.size+1,2,none⟩=some (.int .i64 y.p)))) (first | assumption | (refine ⟨⟨?_,?_,?_⟩,?_,?_,?_⟩ <;> simp [go_sem]))
  (first | (go_at_call 208;refine (qLH _ _ _).mono ?_;rintro e w' ⟨rfl,rfl⟩) | (go_at_call 207;refine (qMq _ (qFQ x.e y.e) (qFQ x.c y.c) (qFQ x.p y.p) _ ?_ ?_ ?_).mono ?_;(· simp [go_sem]);(· simp [go_sem]);(· simp [go_sem]);rintro e w' ⟨rfl,rfl⟩))
 all_goals go_wp2
 all_goals go_ret
 all_goals exact ⟨by rw [HF.out];rfl,by go_grown⟩
theorem qGw (x y:LkI) (w:World):Calls Tryz.prog 157 #[.agg #[.int .i64 x.e,.int .i64 x.c,.int .i64 x.p,.int .i64 x.f],.agg #[.int .i64 y.e,.int .i64 y.c,.int .i64 y.p,.int .i64 y.f]] w fun e w'=>e = .returned (.bool (ltL x y))/\Below w.heap.size w w':=by
 by_cases q1:x.e=y.e
 ·have b1:(x.e != y.e)=false:=by simp [q1]
  by_cases q2:x.c=y.c
  ·have b2:(x.c != y.c)=false:=by simp [q2]
   have HV:Hid (ltL x y=decide (x.p < y.p)):=by show ltL x y=_;simp [ltL,q1,q2]
   clear q1 q2;go_enter Tryz.func157,Tryz.ntmps157;go_wp2;go_ret;exact ⟨by rw [HV.out];rfl,by go_grown⟩
  ·have b2:(x.c != y.c)=true:=by simp [q2]
   have HV:Hid (ltL x y=decide (x.c < y.c)):=by show ltL x y=_;simp [ltL,q1,q2]
   clear q1 q2;go_enter Tryz.func157,Tryz.ntmps157;go_wp2;go_ret;exact ⟨by rw [HV.out];rfl,by go_grown⟩
 ·have b1:(x.e != y.e)=true:=by simp [q1]
  have HV:Hid (ltL x y=decide (x.e < y.e)):=by show ltL x y=_;simp [ltL,q1]
  clear q1;go_enter Tryz.func157,Tryz.ntmps157;go_wp2;go_ret;exact ⟨by rw [HV.out];rfl,by go_grown⟩
theorem qJC (x:LkI) (w:World):Calls Tryz.prog 186 #[.agg #[.int .i64 x.e,.int .i64 x.c,.int .i64 x.p,.int .i64 x.f]] w fun e w'=>e = .returned (.bool (okL x))/\Below w.heap.size w w':=by
 obtain ⟨t1,h1⟩:∃ t,inR x.e 1 9=t:=⟨_,rfl⟩;obtain ⟨t2,h2⟩:∃ t,inR x.c 0 3=t:=⟨_,rfl⟩;obtain ⟨t3,h3⟩:∃ t,inR x.p 1 8=t:=⟨_,rfl⟩;obtain ⟨t4,h4⟩:∃ t,inR x.f 1 4=t:=⟨_,rfl⟩;have HV:Hid (okL x=(t1&&t2&&t3&&t4)):=by show okL x=_;rw [okL,h1,h2,h3,h4]
 have H1:Hid (inR x.e 1 9=t1):=h1;have H2:Hid (inR x.c 0 3=t2):=h2;have H3:Hid (inR x.p 1 8=t3):=h3;have H4:Hid (inR x.f 1 4=t4):=h4;clear h1 h2 h3 h4;cases t1
 ·go_enter Tryz.func186,Tryz.ntmps186;go_wp2_with (first | (go_at_call 149;refine (qI0 _ _).mono ?_;rintro e w' ⟨rfl,rfl⟩;rw [H1.out]))
  go_ret;exact ⟨by rw [HV.out];rfl,by go_grown⟩
 ·cases t2
  ·go_enter Tryz.func186,Tryz.ntmps186;go_wp2_with (first | (go_at_call 149;refine (qI0 _ _).mono ?_;rintro e w' ⟨rfl,rfl⟩;rw [H1.out]) | (go_at_call 205;refine (QX5 _ _).mono ?_;rintro e w' ⟨rfl,rfl⟩;rw [H2.out]))
   go_ret;exact ⟨by rw [HV.out];rfl,by go_grown⟩
  ·cases t3
   ·go_enter Tryz.func186,Tryz.ntmps186;go_wp2_with (first | (go_at_call 149;refine (qI0 _ _).mono ?_;rintro e w' ⟨rfl,rfl⟩;rw [H1.out]) | (go_at_call 205;refine (QX5 _ _).mono ?_;rintro e w' ⟨rfl,rfl⟩;rw [H2.out]) | (go_at_call 206;refine (qHI _ _).mono ?_;rintro e w' ⟨rfl,rfl⟩;rw [H3.out]))
    go_ret;exact ⟨by rw [HV.out];rfl,by go_grown⟩
   ·cases t4
    all_goals
     go_enter Tryz.func186,Tryz.ntmps186;go_wp2_with (first | (go_at_call 149;refine (qI0 _ _).mono ?_;rintro e w' ⟨rfl,rfl⟩;rw [H1.out]) | (go_at_call 205;refine (QX5 _ _).mono ?_;rintro e w' ⟨rfl,rfl⟩;rw [H2.out]) | (go_at_call 206;refine (qHI _ _).mono ?_;rintro e w' ⟨rfl,rfl⟩;rw [H3.out]) | (go_at_call 150;refine (QB6 _ _).mono ?_;rintro e w' ⟨rfl,rfl⟩;rw [H4.out]))
     go_ret;exact ⟨by rw [HV.out];rfl,by go_grown⟩

theorem qDS {gs:List LkI} {j:Nat} {x y:LkI} (h:gs[j]? = some y):qEd gs (j+1) x=ltL y x:=by simp [qEd,h]
theorem qIl {gs:List LkI} {k n:Nat} {x:LkI} {c:Int} (hc:QJ0 gs n=c) (hn:QJ0 gs (k+1)=QQ9 gs k x) (hk:k < n) (h:okL x=false):c=3 :=
 hc.symm.trans (QN4 gs (k+1) n 3 (by decide) (by rw [hn];simp [QQ9,h]) (by omega))
theorem QQ8 (a:Option Addr) (n cap:Nat) (gs:List LkI) (c:Int) (w:World) (h200:n<=200) (h:qK8 w a n gs) (hc:QJ0 gs n=c) :
  Calls Tryz.prog 171 #[.slice a n cap] w fun e w'=>e = .returned (.int .i64 c)/\Below w.heap.size w w':=by
 have H:Hid (qK8 w a n gs):=h;have HC:Hid (QJ0 gs n=c):=hc;clear h hc;have h':¬ ((200:Int) < (n:Int)):=by omega
 have hn':(n:Int)<=200:=by omega
 go_enter Tryz.func171,Tryz.ntmps171;go_wp2;go_loopw [10] (fun i wr=>∃ k:Nat,k<=n/\i = .int .i64 (k:Int)/\QJ0 gs k=0/\Below w.heap.size w wr) (fun i _=>n - (intOf i).toNat)
 case atStart=>exact ⟨0,Nat.zero_le _,rfl,rfl,Below.refl _ _⟩
 case round =>
  obtain ⟨k,hk,rfl,hp,hnx⟩:=hrel;have HP:Hid (QJ0 gs k=0):=hp;clear hp;by_cases hlt:k < n
  ·obtain ⟨b,off,x,rfl,hs,hx,hbl⟩:=H.out.at hlt
   have HN:Hid (QJ0 gs (k+1)=QQ9 gs k x):=QN5 hs HP.out;clear hs;obtain ⟨g0,g1,g2,g3⟩:=hx.below hnx hbl;have hbw:b < wr.heap.size:=Nat.lt_of_lt_of_le hbl hnx.size;have hlt':(k:Int) < (n:Int):=by omega
   obtain ⟨t,ht⟩:∃ t,okL x=t:=⟨_,rfl⟩;have HT:Hid (okL x=t):=ht;clear ht;go_wp2_with fail
   refine (qJC x _).mono ?_;rintro e w1 ⟨rfl,hb1⟩;rw [HT.out];have hz1:=hb1.size;simp only [World.size_alloc] at hz1;have hnx1:Below w.heap.size w w1:=hnx.trans ((qC8 hb1).mono hnx.size);have hlt1:wr.heap.size < w1.heap.size:=by omega
   have b0:w1.cell? ⟨wr.heap.size,0,none⟩=some (.int .i64 x.e):=(hb1.cell (p:=⟨wr.heap.size,0,none⟩) (by simp)).trans (by simp);have b1:w1.cell? ⟨wr.heap.size,1,none⟩=some (.int .i64 x.c):=(hb1.cell (p:=⟨wr.heap.size,1,none⟩) (by simp)).trans (by simp);have b2:w1.cell? ⟨wr.heap.size,2,none⟩=some (.int .i64 x.p):=(hb1.cell (p:=⟨wr.heap.size,2,none⟩) (by simp)).trans (by simp);have b3:w1.cell? ⟨wr.heap.size,3,none⟩=some (.int .i64 x.f):=(hb1.cell (p:=⟨wr.heap.size,3,none⟩) (by simp)).trans (by simp);have hold:∀ o,w1.cell? ⟨b,o,none⟩=wr.cell? ⟨b,o,none⟩:=fun o=>((qC8 hb1).cell (p:=⟨b,o,none⟩) hbw)
   clear hb1 g0 g1 g2 g3;cases t
   ·have E:Hid (c=3):=qIl HC.out HN.out hlt HT.out;clear hold;go_wp2;go_ret;exact ⟨by rw [E.out];rfl,hnx1⟩
   obtain rfl | ⟨j,rfl⟩:k=0\/∃ j,k=j+1:=by cases k;exact .inl rfl;exact .inr ⟨_,rfl⟩
   ·have HE:Hid (QJ0 gs 1=0):=HN.out.trans (QF8.2 ⟨HT.out,rfl⟩);clear hold;go_wp2;go_quiet (fail)
    go_wp2;exact ⟨⟨0+1,by omega,by go_num,HE.out,below_drewN hnx1 _⟩,by simp [intOf];omega⟩
   ·obtain ⟨b',off',y,e',hy,hyx,_⟩:=H.out.at (k:=j) (by omega)
    cases e';obtain ⟨q0,q1,q2,q3⟩:=hyx.below hnx hbl;have HV2:Hid (QQ9 gs (j+1) x=if ltL y x=false then 1 else 0):=by show QQ9 gs (j+1) x=_;simp [QQ9,HT.out,qDS hy]
    have y0:=(hold _).trans q0;have y1:=(hold _).trans q1;have y2:=(hold _).trans q2;have y3:=(hold _).trans q3;clear hyx hy hold q0 q1 q2 q3;have hbv:b < w1.heap.size:=by omega
    have hj1:(j:Int) < (n:Int):=by omega
    have hj0:(0:Int)<=(j:Int):=by omega
    have hjw:IntKind.i64.wrap ((j:Int)+1 - 1)=(j:Int):=by rw [IntKind.wrap_i64];omega
    have hjw2:IntKind.i64.wrap (j:Int)=(j:Int):=by rw [IntKind.wrap_i64];omega
    have hjw3:IntKind.i64.wrap (((j+1:Nat):Int) - 1)=(j:Int):=by rw [IntKind.wrap_i64];omega
    have hpos1:(0:Int) < (j:Int)+1:=by omega
    go_wp2;obtain ⟨v,hv⟩:∃ v,cfL y x=v:=⟨_,rfl⟩;have HCm:Hid (∀ w2:World,Calls Tryz.prog 187 #[.agg #[.int .i64 y.e,.int .i64 y.c,.int .i64 y.p,.int .i64 y.f],.agg #[.int .i64 x.e,.int .i64 x.c,.int .i64 x.p,.int .i64 x.f]] w2 fun e w'=>e = .returned (.int .i64 v)/\Below w2.heap.size w2 w'):=fun w2=>by rw [<- hv];exact qU2 y x w2
    have hge:(v < 0)↔ltL y x=true:=by rw [<- hv];exact qHe y x
    by_cases hpos:0<=v
    ·have E:Hid (c=1):=HC.out.symm.trans (QN4 gs (j+1+1) n 1 (by decide) (by rw [HN.out,HV2.out,if_pos (by cases q:ltL y x;rfl;have:=hge.2 q;omega)]) (by omega));clear hge hv
     go_region_held3 (fun w'=>(∀ b o,b < w1.heap.size->w'.cell? ⟨b,o,none⟩=w1.cell? ⟨b,o,none⟩)/\Below w1.heap.size w1 w') (first | exact hS | exact qC1 _)
      (first | (go_at_call 187;refine (HCm.out _).mono ?_;rintro e w' ⟨rfl,hb2⟩;have hS:=qA9 (by assumption) hb2))
     go_wp2;go_ret;exact ⟨by rw [E.out];rfl,hnx1.trans (hS.2.mono hnx1.size)⟩
    ·have hneg:v < 0:=by omega
     have HE:Hid (QJ0 gs (j+1+1)=0):=by show QJ0 gs (j+1+1)=0;rw [HN.out,HV2.out,if_neg (by rw [hge.1 hneg];simp)]
     clear hge hv hpos
     go_region_held3 (fun w'=>(∀ b o,b < w1.heap.size->w'.cell? ⟨b,o,none⟩=w1.cell? ⟨b,o,none⟩)/\Below w1.heap.size w1 w') (first | exact hS | exact qC1 _)
      (first | (go_at_call 187;refine (HCm.out _).mono ?_;rintro e w' ⟨rfl,hb2⟩;have hS:=qA9 (by assumption) hb2))
     go_wp2;exact ⟨⟨j+1+1,by omega,by go_num,HE.out,hnx1.trans (hS.2.mono hnx1.size)⟩,by simp [intOf];omega⟩
  ·have hkn:k=n:=by omega
   subst hkn;have E:Hid (c=0):=HC.out.symm.trans HP.out;go_wp2;go_ret;exact ⟨by rw [E.out];rfl,hnx⟩
theorem QN2 (a:Option Addr) (n cap:Nat) (w:World) (h200:200 < n) :
  Calls Tryz.prog 171 #[.slice a n cap] w fun e w'=>e = .returned (.int .i64 2)/\Below w.heap.size w w':=by
 have h':(200:Int) < (n:Int):=by omega
 go_enter Tryz.func171,Tryz.ntmps171;go_wp2;go_ret;exact ⟨rfl,Below.refl _ _⟩
theorem qX2 (a:Option Addr) (n cap:Nat) (gs:List LkI) (w:World) (h:qK8 w a n gs) :
  Calls Tryz.prog 171 #[.slice a n cap] w fun e w'=>e = .returned (.int .i64 (qJ0 gs))/\Below w.heap.size w w':=by
 have hz:=h.1;by_cases h40:200 < n
 ·have e:qJ0 gs=2:=by simp [qJ0,hz,h40]
  rw [e];exact QN2 a n cap w h40
 ·have e:qJ0 gs=QJ0 gs n:=by simp [qJ0,hz,h40]
  rw [e];exact QQ8 a n cap gs _ w (by omega) h rfl
