/- Contracts. -/
import Derived.Test.YtdppdbihhlipeaaGreatDoorPl19
import Derived.Test.YtdppdbihhlipeaaGreatDoorPl20
import Derived.Test.YtdppdbihhlipeaaGreatDoorPl17
import Derived.Test.YtdppdbihhlipeaaGreatDoorPl18
import Derived.Test.YtdppdbihhlipeaaGreatDoorPl05
import Derived.Deep.AppendLies
import Derived.Deep.DeepCutAuto
import Derived.Deep.CutBlock
import Derived.Laws.AppendOwnNone
namespace Go.Proofs.YtdppdbihhlipeaaGreatDoor
set_option maxRecDepth 100000
set_option maxHeartbeats 8000000
open Go.RowKit
set_option linter.unusedVariables false
set_option linter.unusedSimpArgs false

section
attribute [local go_sem] ta11 ta12 ta13 ta14 ta21 ta22 ta23 ta24 ta31 ta32 ta33 ta34 ta41 ta42 ta43 ta44
theorem bodyFault_4 (o n p m:Int) (w:World) :
  Calls Tryz.prog 199 #[.iface 309 (.agg #[.int .i64 o,.int .i64 n,.int .i64 p,.int .i64 m])] w fun e w' =>
   e = .returned (.int .i64 (if (qC9 o n&&qC9 p m)=true then 0 else 3))∧Below w.heap.size w w':=by
 cases hr:qC9 o n
 ·have hc:qE6 o n=3:=by simp [qE6,hr]
  go_enter Tryz.func199,Tryz.ntmps199
  go_wp2
  refine wp_loop_rounds 3 ?_
  rw [rounds_succ]
  go_wp2_with (first | (go_at_call 197;refine (qC5 _ _ _).mono ?_;rintro e w1 ⟨rfl,hb1⟩;rw [hc]) | go_in)
  go_ret
  exact ⟨rfl,qM7 hb1⟩
 ·have hc:qE6 o n=0:=by simp [qE6,hr]
  cases hp:qC9 p m
  all_goals
   have hd:qE6 p m=if qC9 p m=true then 0 else 3:=rfl
   simp only [hp,if_true,Bool.false_eq_true,if_false] at hd
   go_enter Tryz.func199,Tryz.ntmps199
   go_wp2
   refine wp_loop_rounds 3 ?_
   rw [rounds_succ]
   go_wp2_with (first | (go_at_call 197;refine (qC5 _ _ _).mono ?_;rintro e w1 ⟨rfl,hb1⟩;rw [hc]) | go_in)
   rw [rounds_succ]
   have hz1:=hb1.size
   simp only [World.size_alloc] at hz1
   have hlt:w.heap.size+1 < w1.heap.size:=by omega
   have q0:w1.cell? ⟨w.heap.size+1,2,none⟩=some (.int .i64 p):=by rw [(bcell2 hb1).1 (w.heap.size+1) 2 (by simp)];go_cell
   have q1:w1.cell? ⟨w.heap.size+1,3,none⟩=some (.int .i64 m):=by rw [(bcell2 hb1).1 (w.heap.size+1) 3 (by simp)];go_cell
   go_wp2_with (first | (go_at_call 197;refine (qC5 _ _ _).mono ?_;rintro e w2 ⟨rfl,hb2⟩;rw [hd]) | go_in)
   first
    | (go_ret;exact ⟨rfl,(qM7 hb1).trans ((qC1 hb2).mono (by omega))⟩)
    | (rw [rounds_succ];go_wp2;go_ret;exact ⟨rfl,(qM7 hb1).trans ((qC1 hb2).mono (by omega))⟩)
end

theorem qT3 (r:qA0) (t:TypeId) (v:Value) (w:World) (hk:1≤r.k∧r.k≤4)
  (HO:Hid (∀ w:World,Calls Tryz.prog 196 #[.agg #[.int .i64 r.k,.int .i64 r.ho,.int .i64 r.hn,.int .i64 r.w,.int .i64 r.oo,.int .i64 r.on,.int .i64 r.to,.int .i64 r.tn]] w fun e w'=>e = .returned (.iface t v)∧Below w.heap.size w w'))
  (HF:Hid (∀ w:World,Calls Tryz.prog 199 #[.iface t v] w fun e w'=>e = .returned (.int .i64 (if QF1 r=true then 0 else 3))∧Below w.heap.size w w')) :
  Calls Tryz.prog 180 #[.agg #[.int .i64 r.k,.int .i64 r.ho,.int .i64 r.hn,.int .i64 r.w,.int .i64 r.oo,.int .i64 r.on,.int .i64 r.to,.int .i64 r.tn]] w fun e w'=>e = .returned (.int .i64 (qA6 r))∧Below w.heap.size w w':=by
 have hX:Hid (qC2 (w.alloc (Obj.cells #[.int .i64 r.k,.int .i64 r.ho,.int .i64 r.hn,.int .i64 r.w,.int .i64 r.oo,.int .i64 r.on,.int .i64 r.to,.int .i64 r.tn] 125)) w.heap.size 0 r):=qC2.new w r _
 cases hr:qC9 r.ho r.hn
 ·have E:Hid (qA6 r=3):=by show qA6 r=3;simp [qA6,hk,hr]
  have hc:qE6 r.ho r.hn=3:=by simp [qE6,hr]
  have hb:Below (w.alloc (Obj.cells #[.int .i64 r.k,.int .i64 r.ho,.int .i64 r.hn,.int .i64 r.w,.int .i64 r.oo,.int .i64 r.on,.int .i64 r.to,.int .i64 r.tn] 125)).heap.size (w.alloc (Obj.cells #[.int .i64 r.k,.int .i64 r.ho,.int .i64 r.hn,.int .i64 r.w,.int .i64 r.oo,.int .i64 r.on,.int .i64 r.to,.int .i64 r.tn] 125)) (w.alloc (Obj.cells #[.int .i64 r.k,.int .i64 r.ho,.int .i64 r.hn,.int .i64 r.w,.int .i64 r.oo,.int .i64 r.on,.int .i64 r.to,.int .i64 r.tn] 125)):=Below.refl _ _
  obtain ⟨h0,h1,h2,h3,h4,h5,h6,h7⟩:=hX.out
  simp only [Nat.zero_add] at h0 h1 h2 h3 h4 h5 h6 h7
  go_enter Tryz.func180,Tryz.ntmps180
  go_wp2_with (first | (go_at_call 196;refine (HO.out _).mono ?_;rintro e w1 ⟨rfl,hb1⟩;replace hb:=hb.trans (hb1.mono hb.size);clear h0 h1 h2 h3 h4 h5 h6 h7 hb1;obtain ⟨h0,h1,h2,h3,h4,h5,h6,h7⟩:=hX.out.below hb;simp only [Nat.zero_add] at h0 h1 h2 h3 h4 h5 h6 h7) | (go_at_call 197;refine (qC5 _ _ _).mono ?_;rintro e w1 ⟨rfl,hb1⟩;replace hb:=hb.trans (hb1.mono hb.size);clear h0 h1 h2 h3 h4 h5 h6 h7 hb1;obtain ⟨h0,h1,h2,h3,h4,h5,h6,h7⟩:=hX.out.below hb;simp only [Nat.zero_add] at h0 h1 h2 h3 h4 h5 h6 h7;rw [hc]))
  go_ret
  exact ⟨by rw [E.out];rfl,qC1 hb⟩
 ·have hc:qE6 r.ho r.hn=0:=by simp [qE6,hr]
  cases hbr:QO4 r
  ·have E:Hid (qA6 r=1):=by show qA6 r=1;simp [qA6,hk,hr,hbr]
   have hb:Below (w.alloc (Obj.cells #[.int .i64 r.k,.int .i64 r.ho,.int .i64 r.hn,.int .i64 r.w,.int .i64 r.oo,.int .i64 r.on,.int .i64 r.to,.int .i64 r.tn] 125)).heap.size (w.alloc (Obj.cells #[.int .i64 r.k,.int .i64 r.ho,.int .i64 r.hn,.int .i64 r.w,.int .i64 r.oo,.int .i64 r.on,.int .i64 r.to,.int .i64 r.tn] 125)) (w.alloc (Obj.cells #[.int .i64 r.k,.int .i64 r.ho,.int .i64 r.hn,.int .i64 r.w,.int .i64 r.oo,.int .i64 r.on,.int .i64 r.to,.int .i64 r.tn] 125)):=Below.refl _ _
   obtain ⟨h0,h1,h2,h3,h4,h5,h6,h7⟩:=hX.out
   simp only [Nat.zero_add] at h0 h1 h2 h3 h4 h5 h6 h7
   go_enter Tryz.func180,Tryz.ntmps180
   go_wp2_with (first | (go_at_call 196;refine (HO.out _).mono ?_;rintro e w1 ⟨rfl,hb1⟩;replace hb:=hb.trans (hb1.mono hb.size);clear h0 h1 h2 h3 h4 h5 h6 h7 hb1;obtain ⟨h0,h1,h2,h3,h4,h5,h6,h7⟩:=hX.out.below hb;simp only [Nat.zero_add] at h0 h1 h2 h3 h4 h5 h6 h7) | (go_at_call 197;refine (qC5 _ _ _).mono ?_;rintro e w1 ⟨rfl,hb1⟩;replace hb:=hb.trans (hb1.mono hb.size);clear h0 h1 h2 h3 h4 h5 h6 h7 hb1;obtain ⟨h0,h1,h2,h3,h4,h5,h6,h7⟩:=hX.out.below hb;simp only [Nat.zero_add] at h0 h1 h2 h3 h4 h5 h6 h7;rw [hc]) | (go_at_call 198;refine (QS5 r hk _).mono ?_;rintro e w1 ⟨rfl,hb1⟩;replace hb:=hb.trans (hb1.mono hb.size);clear h0 h1 h2 h3 h4 h5 h6 h7 hb1;obtain ⟨h0,h1,h2,h3,h4,h5,h6,h7⟩:=hX.out.below hb;simp only [Nat.zero_add] at h0 h1 h2 h3 h4 h5 h6 h7;rw [hbr]))
   go_ret
   exact ⟨by rw [E.out];rfl,qC1 hb⟩
  ·have E:Hid (qA6 r=if QF1 r=true then 0 else 3):=by show qA6 r=if QF1 r=true then 0 else 3;simp [qA6,hk,hr,hbr];cases QF1 r <;> rfl
   obtain ⟨c,hcc⟩:∃ c:Int,c=if QF1 r=true then 0 else 3:=⟨_,rfl⟩
   rw [← hcc] at HF E
   clear hcc
   have hb:Below (w.alloc (Obj.cells #[.int .i64 r.k,.int .i64 r.ho,.int .i64 r.hn,.int .i64 r.w,.int .i64 r.oo,.int .i64 r.on,.int .i64 r.to,.int .i64 r.tn] 125)).heap.size (w.alloc (Obj.cells #[.int .i64 r.k,.int .i64 r.ho,.int .i64 r.hn,.int .i64 r.w,.int .i64 r.oo,.int .i64 r.on,.int .i64 r.to,.int .i64 r.tn] 125)) (w.alloc (Obj.cells #[.int .i64 r.k,.int .i64 r.ho,.int .i64 r.hn,.int .i64 r.w,.int .i64 r.oo,.int .i64 r.on,.int .i64 r.to,.int .i64 r.tn] 125)):=Below.refl _ _
   obtain ⟨h0,h1,h2,h3,h4,h5,h6,h7⟩:=hX.out
   simp only [Nat.zero_add] at h0 h1 h2 h3 h4 h5 h6 h7
   go_enter Tryz.func180,Tryz.ntmps180
   go_wp2_with (first | (go_at_call 196;refine (HO.out _).mono ?_;rintro e w1 ⟨rfl,hb1⟩;replace hb:=hb.trans (hb1.mono hb.size);clear h0 h1 h2 h3 h4 h5 h6 h7 hb1;obtain ⟨h0,h1,h2,h3,h4,h5,h6,h7⟩:=hX.out.below hb;simp only [Nat.zero_add] at h0 h1 h2 h3 h4 h5 h6 h7) | (go_at_call 197;refine (qC5 _ _ _).mono ?_;rintro e w1 ⟨rfl,hb1⟩;replace hb:=hb.trans (hb1.mono hb.size);clear h0 h1 h2 h3 h4 h5 h6 h7 hb1;obtain ⟨h0,h1,h2,h3,h4,h5,h6,h7⟩:=hX.out.below hb;simp only [Nat.zero_add] at h0 h1 h2 h3 h4 h5 h6 h7;rw [hc]) | (go_at_call 198;refine (QS5 r hk _).mono ?_;rintro e w1 ⟨rfl,hb1⟩;replace hb:=hb.trans (hb1.mono hb.size);clear h0 h1 h2 h3 h4 h5 h6 h7 hb1;obtain ⟨h0,h1,h2,h3,h4,h5,h6,h7⟩:=hX.out.below hb;simp only [Nat.zero_add] at h0 h1 h2 h3 h4 h5 h6 h7;rw [hbr]) | (go_at_call 199;refine (HF.out _).mono ?_;rintro e w1 ⟨rfl,hb1⟩;replace hb:=hb.trans (hb1.mono hb.size);clear h0 h1 h2 h3 h4 h5 h6 h7 hb1;obtain ⟨h0,h1,h2,h3,h4,h5,h6,h7⟩:=hX.out.below hb;simp only [Nat.zero_add] at h0 h1 h2 h3 h4 h5 h6 h7))
   go_ret
   exact ⟨by rw [E.out];rfl,qC1 hb⟩
theorem QN0 (r:qA0) (w:World) :
  Calls Tryz.prog 180 #[.agg #[.int .i64 r.k,.int .i64 r.ho,.int .i64 r.hn,.int .i64 r.w,.int .i64 r.oo,.int .i64 r.on,.int .i64 r.to,.int .i64 r.tn]] w fun e w' =>
   e = .returned (.int .i64 (qA6 r))∧Below w.heap.size w w':=by
 by_cases hk:1≤r.k∧r.k≤4
 ·have hk':r.k=1∨r.k=2∨r.k=3∨r.k=4:=by omega
  rcases hk' with e | e | e | e
  ·have e2:QF1 r=qU4 r.w:=by simp [QF1,e]
   exact qT3 r _ _ w hk (QX2 r e) (fun w=>by rw [e2];exact bodyFault_1 r.w w)
  ·have e2:QF1 r=qC9 r.oo r.on:=by simp [QF1,e]
   exact qT3 r _ _ w hk (QX1 r e) (fun w=>by rw [e2];exact bodyFault_2 r.oo r.on w)
  ·have e2:QF1 r=(qC9 r.oo r.on&&qV5 r.tn):=by simp [QF1,e]
   exact qT3 r _ _ w hk (QJ3 r e) (fun w=>by rw [e2];exact bodyFault_3 r.oo r.on r.tn w)
  ·have e2:QF1 r=(qC9 r.oo r.on&&qC9 r.to r.tn):=by simp [QF1,e]
   exact qT3 r _ _ w hk (QX0 r e) (fun w=>by rw [e2];exact bodyFault_4 r.oo r.on r.to r.tn w)
 ·have E:Hid (qA6 r=1):=by show qA6 r=1;simp [qA6,hk]
  go_enter Tryz.func180,Tryz.ntmps180
  go_wp2_with (first | (go_at_call 196;refine (bodyOf_0 r hk _).mono ?_;rintro e w1 ⟨rfl,hb1⟩))
  go_ret
  exact ⟨by rw [E.out];rfl,qC1 hb1⟩

theorem QU5 (a:Option Addr) (n cap:Nat) (w:World) (hn:n≤1048576) (h16:16 < n) :
  Calls Tryz.prog 164 #[.slice a n cap] w fun e w'=>e = .returned (.int .i64 2)∧Below w.heap.size w w':=by
 have h':(16:Int) < (n:Int):=by omega
 go_enter Tryz.func164,Tryz.ntmps164
 go_wp2
 go_ret
 exact ⟨rfl,Below.refl _ _⟩
theorem QZ8 (a:Option Addr) (n cap:Nat) (zs:List qA0) (c:Int) (w:World) (h16:n≤16) (hcap:n≤cap) (hcm:cap≤maxLen) (h:qB5 w a n zs) (hc:qL0 zs n=c) :
  Calls Tryz.prog 164 #[.slice a n cap] w fun e w'=>e = .returned (.int .i64 c)∧Below w.heap.size w w':=by
 have H:Hid (qB5 w a n zs):=h
 have hz:Hid (zs.length=n):=h.1
 have HC:Hid (qL0 zs n=c):=hc
 clear h hc
 have h':¬ ((16:Int) < (n:Int)):=by omega
 go_enter Tryz.func164,Tryz.ntmps164
 go_wp2
 go_loopw [11] (fun i wr=>∃ k:Nat,k≤n∧i = .int .i64 (k:Int)∧qL0 zs k=0∧Below w.heap.size w wr) (fun i _=>n - (intOf i).toNat)
 case atStart=>exact ⟨0,Nat.zero_le _,rfl,rfl,Below.refl _ _⟩
 case round =>
  obtain ⟨k,hk,rfl,hp,hnx⟩:=hrel
  have HP:Hid (qL0 zs k=0):=hp
  clear hp
  by_cases hlt:k < n
  ·obtain ⟨b,off,r,rfl,hs,hr⟩:=H.out.at hlt
   have HS:Hid (zs[k]? = some r):=hs
   clear hs
   obtain ⟨h0,h1,h2,h3,h4,h5,h6,h7⟩:=hr.below hnx
   clear hr
   have hlt':(k:Int) < (n:Int):=by omega
   go_wp2_with fail
   refine (QN0 r _).mono ?_
   rintro e w1 ⟨rfl,hb1⟩
   have hz1:=hb1.size
   simp only [World.size_alloc] at hz1
   have hnx1:Below w.heap.size w w1:=hnx.trans ((qC1 hb1).mono hnx.size)
   have hlt1:wr.heap.size < w1.heap.size:=by omega
   have hR:Hid (qC2 w1 wr.heap.size 0 r):=(qC2.new wr r _).below hb1
   clear h0 h1 h2 h3 h4 h5 h6 h7 hb1
   by_cases hcode:qA6 r=0
   ·rw [hcode]
    have HO:Hid (qA6 r=0):=hcode
    clear hcode
    have HX:Hid (qB5 w1 (some ⟨b,off,none⟩) k (zs.take k)):=(H.out.cut hk).below hnx1
    have hkc:(k:Int)≤(cap:Int):=by omega
    have hk0:(0:Int)≤(k:Int):=by omega
    obtain ⟨h0,h1,h2,h3,h4,h5,h6,h7⟩:=hR.out
    simp only [Nat.zero_add] at h0 h1 h2 h3 h4 h5 h6 h7
    obtain ⟨t,ht⟩:∃ t,t=decide (r∈zs.take k):=⟨_,rfl⟩
    have HC2:Hid (∀ w2:World,(∀ b o,b < w1.heap.size→w2.cell? ⟨b,o,none⟩=w1.cell? ⟨b,o,none⟩)∧Below w1.heap.size w1 w2→Calls Tryz.prog 181 #[.slice (some ⟨b,off,none⟩) k cap,.agg #[.int .i64 r.k,.int .i64 r.ho,.int .i64 r.hn,.int .i64 r.w,.int .i64 r.oo,.int .i64 r.on,.int .i64 r.to,.int .i64 r.tn]] w2 fun e w'=>e = .returned (.bool t)∧Below w2.heap.size w2 w'):=fun w2 hb=>by rw [ht];exact QG9 _ _ _ _ r w2 (by omega) (HX.out.below hb.2)
    have HT:Hid (t=decide (r∈zs.take k)):=ht
    clear ht
    cases t
    ·have HN:Hid (qL0 zs (k+1)=0):=QR7 zs k r HS.out HP.out HO.out (by simpa using HT.out)
     go_wp2
     go_region_held3 (fun w'=>(∀ b o,b < w1.heap.size→w'.cell? ⟨b,o,none⟩=w1.cell? ⟨b,o,none⟩)∧Below w1.heap.size w1 w') (first | exact hS | exact qB6 _)
      (first | (go_at_call 181;refine (HC2.out _ (by assumption)).mono ?_;rintro e w' ⟨rfl,hb2⟩;have hS:=qA7 (by assumption) hb2))
     go_wp2
     exact ⟨⟨k+1,by omega,by go_num,HN.out,hnx1.trans (hS.2.mono hnx1.size)⟩,by simp [intOf];omega⟩
    ·have HI:Hid (c=6):=HC.out.symm.trans (qR3 zs (k+1) n 6 (by decide) (QF9 zs k r HS.out HP.out HO.out (by simpa using HT.out)) (by omega))
     go_wp2
     go_region_held3 (fun w'=>(∀ b o,b < w1.heap.size→w'.cell? ⟨b,o,none⟩=w1.cell? ⟨b,o,none⟩)∧Below w1.heap.size w1 w') (first | exact hS | exact qB6 _)
      (first | (go_at_call 181;refine (HC2.out _ (by assumption)).mono ?_;rintro e w' ⟨rfl,hb2⟩;have hS:=qA7 (by assumption) hb2))
     go_wp2
     go_ret
     exact ⟨by rw [HI.out];rfl,hnx1.trans (hS.2.mono hnx1.size)⟩
   ·have E:Hid (c=qA6 r):=(HC.out.symm.trans (qR3 zs (k+1) n _ hcode (QE1 zs k r HS.out HP.out hcode) (by omega)))
    obtain ⟨d,hd⟩:∃ d,d=qA6 r:=⟨_,rfl⟩
    rw [← hd] at hcode E ⊢
    clear hd
    have hne:(d != 0)=true:=by simpa using hcode
    go_wp2
    go_ret
    exact ⟨by rw [E.out];rfl,hnx1⟩
  ·have hkn:k=n:=by omega
   subst hkn
   have E:Hid (c=0):=HC.out.symm.trans HP.out
   go_wp2
   go_ret
   exact ⟨by rw [E.out];rfl,hnx⟩
theorem qV7 (a:Option Addr) (n cap:Nat) (zs:List qA0) (w:World) (hn:n≤1048576) (hcap:n≤cap) (hcm:cap≤maxLen) (h:qB5 w a n zs) :
  Calls Tryz.prog 164 #[.slice a n cap] w fun e w'=>e = .returned (.int .i64 (qC3 zs))∧Below w.heap.size w w':=by
 have hz:=h.1
 by_cases h16:16 < n
 ·have e:qC3 zs=2:=by simp [qC3,hz,h16]
  rw [e]
  exact QU5 a n cap w hn h16
 ·have e:qC3 zs=qL0 zs n:=by simp [qC3,hz,h16]
  rw [e]
  exact QZ8 a n cap zs _ w (by omega) hcap hcm h rfl

def QX8 (f:Nat) (v:Value) (xs:List RoI):Prop:=∀ w:World,Calls Tryz.prog f #[v] w fun e w'=>∃ g:Nat,e = .returned (.slice (some ⟨g,0,none⟩) xs.length xs.length)∧(∀ j u,(QC9 xs)[j]? = some u→w'.cell? ((⟨g,0,none⟩:Addr).add j)=some u)∧Below w.heap.size w w'
theorem roles_1 (x:Int) (w:World):Calls Tryz.prog 260 #[.agg #[.int .i64 x]] w fun e w'=>e = .returned (.slice none 0 0)∧Below w.heap.size w w':=by
 go_enter Tryz.func260,Tryz.ntmps260
 go_wp2
 go_ret
 exact ⟨rfl,by go_grown⟩
theorem news_1 {w':World} {g:Nat} {o n:Int} (h0:w'.cell? ⟨g,0,none⟩=some (.int .i64 o)) (h1:w'.cell? ⟨g,1,none⟩=some (.int .i64 n)):∀ j u,(QC9 [(o,n)])[j]? = some u→w'.cell? ((⟨g,0,none⟩:Addr).add j)=some u:=by
 intro j u hj
 rw [Go.WideShapes.add_plain,Nat.zero_add]
 match j,hj with
 | 0,hj=>simp [QC9] at hj;subst hj;exact h0
 | 1,hj=>simp [QC9] at hj;subst hj;exact h1
theorem news_2 {w':World} {g:Nat} {o n p m:Int} (h0:w'.cell? ⟨g,0,none⟩=some (.int .i64 o)) (h1:w'.cell? ⟨g,1,none⟩=some (.int .i64 n)) (h2:w'.cell? ⟨g,2,none⟩=some (.int .i64 p)) (h3:w'.cell? ⟨g,3,none⟩=some (.int .i64 m)):∀ j u,(QC9 [(o,n),(p,m)])[j]? = some u→w'.cell? ((⟨g,0,none⟩:Addr).add j)=some u:=by
 intro j u hj
 rw [Go.WideShapes.add_plain,Nat.zero_add]
 match j,hj with
 | 0,hj=>simp [QC9] at hj;subst hj;exact h0
 | 1,hj=>simp [QC9] at hj;subst hj;exact h1
 | 2,hj=>simp [QC9] at hj;subst hj;exact h2
 | 3,hj=>simp [QC9] at hj;subst hj;exact h3
theorem roles_2 (o n:Int):QX8 261 (.agg #[.int .i64 o,.int .i64 n]) [(o,n)]:=by
 intro w
 go_enter Tryz.func261,Tryz.ntmps261
 go_wp2
 go_ret
 exact ⟨_,rfl,news_1 (by simp) (by simp),by go_grown⟩
theorem roles_3 (o n d:Int):QX8 262 (.agg #[.int .i64 o,.int .i64 n,.int .i64 d]) [(o,n)]:=by
 intro w
 go_enter Tryz.func262,Tryz.ntmps262
 go_wp2
 go_ret
 exact ⟨_,rfl,news_1 (by simp) (by simp),by go_grown⟩
theorem roles_4 (o n p m:Int):QX8 263 (.agg #[.int .i64 o,.int .i64 n,.int .i64 p,.int .i64 m]) [(o,n),(p,m)]:=by
 intro w
 go_enter Tryz.func263,Tryz.ntmps263
 go_wp2
 try go_quiet (fail)
 go_wp2
 go_ret
 first
  | exact ⟨_,rfl,news_2 (by simp) (by simp) (by simp) (by simp),by go_grown⟩
  | exact ⟨_,rfl,news_2 (by simp [go_sem]) (by simp [go_sem]) (by simp [go_sem]) (by simp [go_sem]),bdN (by go_grown) _⟩

end Go.Proofs.YtdppdbihhlipeaaGreatDoor
