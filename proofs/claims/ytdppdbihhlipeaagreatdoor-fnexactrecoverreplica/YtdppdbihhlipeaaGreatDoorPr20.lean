/- Contracts. -/
import Derived.Test.YtdppdbihhlipeaaGreatDoorPr05
import Derived.Scope
import Derived.ScopeJumps
import Derived.WalkMore
namespace Go.Proofs.YtdppdbihhlipeaaGreatDoor
set_option maxRecDepth 100000
set_option maxHeartbeats 8000000
open Go.RowKit
set_option linter.unusedVariables false
set_option linter.unusedSimpArgs false

section
attribute [local go_sem ↓] qDM
theorem qFq (a:Option Addr) (n cap:Nat) (zs:List qA2) (r:qA2) (w:World) (hn:n<=1048576) (h:qB8 w a n zs) :
  Calls Tryz.prog 200 #[.slice a n cap,.agg #[.int .i64 r.k,.int .i64 r.ho,.int .i64 r.hn,.int .i64 r.w,.int .i64 r.oo,.int .i64 r.on,.int .i64 r.to,.int .i64 r.tn]] w fun e w'=>(∃ i:Int,e = .returned (.int .i64 i)/\((0<=i/\r∈zs)\/(i = -1/\¬ r∈zs)))/\Below w.heap.size w w':=by
 have H:Hid (qB8 w a n zs):=h;have hz:Hid (zs.length=n):=h.1;clear h;have hn':(n:Int)<=1048576:=by omega
 have HB:Hid (qD0 (w.alloc (.cells #[.int .i64 r.k,.int .i64 r.ho,.int .i64 r.hn,.int .i64 r.w,.int .i64 r.oo,.int .i64 r.on,.int .i64 r.to,.int .i64 r.tn] 125)) w.heap.size 0 r):=qD0.new w r _;go_enter Tryz.func200,Tryz.ntmps200;go_wp2;go_loopw [8] (fun i wr=>∃ k:Nat,k<=n/\i = .int .i64 (k:Int)/\¬ r∈zs.take k/\∃ m,wr=(w.alloc (.cells #[.int .i64 r.k,.int .i64 r.ho,.int .i64 r.hn,.int .i64 r.w,.int .i64 r.oo,.int .i64 r.on,.int .i64 r.to,.int .i64 r.tn] 125)).drewN m) (fun i _=>n - (intOf i).toNat)
 case atStart=>exact ⟨0,Nat.zero_le _,rfl,by simp,0,rfl⟩
 case round =>
  obtain ⟨k,hk,rfl,hm,m,rfl⟩:=hrel;have HM:Hid (¬ r∈zs.take k):=hm;clear hm;by_cases hlt:k < n
  ·obtain ⟨b,off,s,rfl,hs,hr⟩:=H.out.at hlt
   have HS:Hid (zs[k]? = some s):=hs;clear hs;have hb:b < w.heap.size:=zL w ⟨b,off+k * 8,none⟩ hr.1;obtain ⟨h0,h1,h2,h3,h4,h5,h6,h7⟩:=hr;obtain ⟨b0,b1,b2,b3,b4,b5,b6,b7⟩:=HB.out;simp only [Nat.zero_add] at b0 b1 b2 b3 b4 b5 b6 b7;have hlt':(k:Int) < (n:Int):=by omega
   cases hsame:QF2 r s
   ·have HF:Hid (QF2 r s=false):=hsame
    have HN:Hid (¬ r∈zs.take (k+1)):=by
     show ¬ r∈zs.take (k+1)
     rw [qP1];rintro ⟨j,hj,hjs⟩;by_cases e:j=k
     ·subst e;rw [HS.out] at hjs;simp [QF2] at hsame;exact hsame (Option.some.inj hjs).symm
     ·exact HM.out ((qP1 _ _ _).2 ⟨j,by omega,hjs⟩)
    clear hsame;have hsame:QF2 r s=false:=HF.out;go_wp2;go_quiet (fail)
    go_wp2;exact ⟨⟨k+1,by omega,by go_num,HN.out,_,rfl⟩,by simp [intOf];omega⟩
   ·have HI:Hid (r∈zs):=by
     show r∈zs
     simp [QF2] at hsame;subst hsame;exact List.mem_of_getElem? HS.out
    go_wp2;go_quiet (fail)
    go_wp2;go_ret;exact ⟨⟨_,rfl,Or.inl ⟨by omega,HI.out⟩⟩,by first | exact bdN (zN) _ | exact bdN (bdN (zN) _) _⟩
  ·have hkn:k=n:=by omega
   subst hkn
   have HN:Hid (¬ r∈zs):=by
    have:=HM.out;rw [List.take_of_length_le (by rw [hz.out];exact Nat.le_refl _)] at this;exact this
   go_wp2;go_ret;exact ⟨⟨_,rfl,Or.inr ⟨rfl,HN.out⟩⟩,bdN (by go_grown) _⟩
theorem QG3 (a:Option Addr) (n cap:Nat) (zs:List qA2) (r:qA2) (w:World) (hn:n<=1048576) (h:qB8 w a n zs) :
  Calls Tryz.prog 181 #[.slice a n cap,.agg #[.int .i64 r.k,.int .i64 r.ho,.int .i64 r.hn,.int .i64 r.w,.int .i64 r.oo,.int .i64 r.on,.int .i64 r.to,.int .i64 r.tn]] w fun e w'=>e = .returned (.bool (decide (r∈zs)))/\Below w.heap.size w w':=by
 have H:Hid (qB8 (w.alloc (.cells #[.int .i64 r.k,.int .i64 r.ho,.int .i64 r.hn,.int .i64 r.w,.int .i64 r.oo,.int .i64 r.on,.int .i64 r.to,.int .i64 r.tn] 125)) a n zs):=h.below (zN);clear h;have HB:Hid (qD0 (w.alloc (.cells #[.int .i64 r.k,.int .i64 r.ho,.int .i64 r.hn,.int .i64 r.w,.int .i64 r.oo,.int .i64 r.on,.int .i64 r.to,.int .i64 r.tn] 125)) w.heap.size 0 r):=qD0.new w r _;obtain ⟨b0,b1,b2,b3,b4,b5,b6,b7⟩:=HB.out;simp only [Nat.zero_add] at b0 b1 b2 b3 b4 b5 b6 b7;go_enter Tryz.func181,Tryz.ntmps181;go_wp2_with fail
 refine (qFq a n cap zs r _ hn H.out).mono ?_;rintro e w1 ⟨⟨i,rfl,hi⟩,hb1⟩
 have HX:Hid (decide (0<=i)=decide (r∈zs)):=by
  show decide (0<=i)=decide (r∈zs)
  rcases hi with ⟨h1,h2⟩ | ⟨rfl,h2⟩
  ·simp [h1,h2]
  ·simp [h2]
 clear hi b0 b1 b2 b3 b4 b5 b6 b7;go_wp2;go_ret;exact ⟨by rw [HX.out];rfl,qC8 hb1⟩
end

section
open Go
def qU1 (J:Nat->Act->World->Prop) (Q:Exit->Act->World->Prop):Exit->Act->World->Prop
 | .goto l,a,w=>J l a w
 | e,a,w=>Q e a w
theorem qFc {P:Program} {c:Code} {Q Q':Exit->Act->World->Prop} {a:Act} {w:World} (h:c.wp P Q a w) (hq:∀ e a w,Q e a w->Q' e a w):c.wp P Q' a w:=by
 intro b k cs;obtain ⟨e,a',w',h1,h2⟩:=h b k cs;exact ⟨e,a',w',hq e a' w' h1,h2⟩
theorem QK0 {P:Program} {c:Code} {Q:Exit->Act->World->Prop} {a:Act} {w:World} (rest:Nat->Code) (J:Nat->Nat->Act->World->Prop) (hf:∀ l m a w,J l m a w->findLabel c l=some (rest l))
  (first:c.wp P (qU1 (fun l a' w'=>∃ m,J l m a' w') Q) a w)
  (pass:∀ l m a w,J l m a w->(rest l).wp P (qU1 (fun l' a' w'=>∃ m',m' < m/\J l' m' a' w') Q) a w):(Code.scope c).wp P Q a w:=by
 intro b k cs
 have again:∀ m l a w,J l m a w->∃ e a' w',Q e a' w'/\Arrives P (lone (b.at a (.code (rest l) :: .inScope c::k)) cs w) b k cs e a' w':=by
  intro m;induction m using Nat.strongRecOn with
  | _ m ih =>
   intro l a w hJ;obtain ⟨e,a1,w1,hq,har⟩:=pass l m a w hJ b (.inScope c::k) cs;cases e with
   | goto l' =>
    obtain ⟨m',hlt,hJ'⟩:=hq;obtain ⟨e2,a2,w2,hq2,har2⟩:=ih m' hlt l' a1 w1 hJ';have hg:gotoIn l' (.inScope c::k)=some (.code (rest l') :: .inScope c::k):=by simp [gotoIn,hf l' m' a1 w1 hJ']
    exact ⟨e2,a2,w2,hq2,.of_steps (har _ hg) har2⟩
   | normal=>exact ⟨.normal,a1,w1,hq,Steps.trans har (.one step_inScope)⟩
   | exit id=>exact ⟨.exit id,a1,w1,hq,fun k' hk=>har k' (by simp [exitTo,hk])⟩
   | ret=>exact ⟨_,a1,w1,hq,har⟩
   | panic ch=>exact ⟨_,a1,w1,hq,har⟩
   | outgrown=>exact ⟨_,a1,w1,hq,har⟩
 obtain ⟨e,a1,w1,hq,har⟩:=first b (.inScope c::k) cs;cases e with
 | goto l =>
  obtain ⟨m,hJ⟩:=hq;obtain ⟨e2,a2,w2,hq2,har2⟩:=again m l a1 w1 hJ;have hg:gotoIn l (.inScope c::k)=some (.code (rest l) :: .inScope c::k):=by simp [gotoIn,hf l m a1 w1 hJ]
  exact ⟨e2,a2,w2,hq2,.of_steps (.head step_scope (har _ hg)) har2⟩
 | normal=>exact ⟨.normal,a1,w1,hq,.head step_scope (Steps.trans har (.one step_inScope))⟩
 | exit id=>exact ⟨.exit id,a1,w1,hq,fun k' hk => .head step_scope (har k' (by simp [exitTo,hk]))⟩
 | ret=>exact ⟨_,a1,w1,hq,.of_steps (.one step_scope) har⟩
 | panic ch=>exact ⟨_,a1,w1,hq,.of_steps (.one step_scope) har⟩
 | outgrown=>exact ⟨_,a1,w1,hq,.of_steps (.one step_scope) har⟩
theorem qAc {J:Nat->Act->World->Prop} {J':Nat->Act->World->Prop} {Q:Exit->Act->World->Prop} (h:∀ l a w,J l a w->J' l a w):∀ e a w,qU1 J Q e a w->qU1 J' Q e a w
 | .goto l,a,w,q=>h l a w q
 | .normal,_,_,q=>q
 | .exit _,_,_,q=>q
 | .ret,_,_,q=>q
 | .panic _,_,_,q=>q
 | .outgrown,_,_,q=>q
def two (x y:Code):Nat->Code
 | 0=>x
 | _=>y
theorem QZ6 {P:Program} {c r0 r1:Code} {Q:Exit->Act->World->Prop} {a:Act} {w:World} (J:Nat->Nat->Act->World->Prop) (hf0:findLabel c 0=some (Code.seq .skip r0)) (hf1:findLabel c 1=some (Code.seq .skip r1)) (hJ:∀ l m a w,J l m a w->l=0\/l=1)
  (first:(∀ m a w,J 0 m a w->r0.wp P (qU1 (fun l' a' w'=>∃ m',m' < m/\J l' m' a' w') Q) a w)->c.wp P (qU1 (fun l a' w'=>∃ m,J l m a' w') Q) a w)
  (core0:∀ m a w,J 0 m a w->r0.wp P (qU1 (fun l' a' w'=>∃ m',m' < m/\J l' m' a' w') Q) a w)
  (core1:∀ m a w,J 1 m a w->r1.wp P (qU1 (fun l' a' w'=>∃ m',m' < m/\J l' m' a' w') Q) a w):(Code.scope c).wp P Q a w:=by
 refine QK0 (two (Code.seq .skip r0) (Code.seq .skip r1)) J ?_ (first core0) ?_
 ·intro l m a w h;rcases hJ l m a w h with rfl | rfl
  ·exact hf0
  ·exact hf1
 ·intro l m a w h;rcases hJ l m a w h with rfl | rfl
  ·exact wp_seq (wp_skip (core0 m a w h))
  ·exact wp_seq (wp_skip (core1 m a w h))
end
