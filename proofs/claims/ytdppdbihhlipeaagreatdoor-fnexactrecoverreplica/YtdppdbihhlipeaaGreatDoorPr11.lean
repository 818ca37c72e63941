/- Contracts. -/
import Derived.Test.YtdppdbihhlipeaaGreatDoorPr08
namespace Go.Proofs.YtdppdbihhlipeaaGreatDoor
set_option maxRecDepth 100000
set_option maxHeartbeats 8000000
open Go.RowKit
set_option linter.unusedVariables false
set_option linter.unusedSimpArgs false

theorem qJt {gs:List LkI} (hs:SL gs) {m:Nat} {x t:LkI} (hx:gs[m]? = some x) (h:ltL x t=true):∀ (k:Nat) (y:LkI),k < m+1->gs[k]? = some y->ltL y t=true:=by
 intro k y hk hy;by_cases e:k=m
 ·subst e;rw [hx] at hy;cases hy;exact h
 ·have hm:m < gs.length:=by
   by_cases q:m < gs.length
   ·exact q
   ·rw [List.getElem?_eq_none (by omega)] at hx;cases hx
  have h1:=List.pairwise_iff_getElem.1 hs k m (by omega) hm (by omega);rw [List.getElem?_eq_getElem hm] at hx;rw [List.getElem?_eq_getElem (by omega)] at hy;rw [Option.some.inj hx,Option.some.inj hy] at h1;exact QD9 h1 h
theorem qJu {gs:List LkI} (hs:SL gs) {m:Nat} {x t:LkI} (hx:gs[m]? = some x) (h:ltL x t=false):∀ (k:Nat) (y:LkI),m<=k->gs[k]? = some y->ltL y t=false:=by
 intro k y hk hy;by_cases e:k=m
 ·subst e;rw [hx] at hy;cases hy;exact h
 ·have hk2:k < gs.length:=by
   by_cases q:k < gs.length
   ·exact q
   ·rw [List.getElem?_eq_none (by omega)] at hy;cases hy
  have h1:=List.pairwise_iff_getElem.1 hs m k (by omega) hk2 (by omega);rw [List.getElem?_eq_getElem (by omega)] at hx;rw [List.getElem?_eq_getElem hk2] at hy;rw [Option.some.inj hx,Option.some.inj hy] at h1;cases q:ltL y t
  ·rfl
  ·rw [QD9 h1 q] at h;cases h
def qNA (gs:List LkI) (t:LkI) (w:World) (e:Ending) (w':World):Prop:=∃ (i:Nat) (b:Bool),e = .returned (.tuple #[.int .i64 (i:Int),.bool b])/\QQ2 gs t i/\(b=true↔∃ x,gs[i]? = some x/\cfL x t=0)/\Below w.heap.size w w'
theorem qIL (a:Option Addr) (n cap:Nat) (gs:List LkI) (t:LkI) (w:World) (h:qK8 w a n gs) (hs:SL gs) (hn:n<=1048576) :
  Calls Tryz.prog 191 #[.slice a n cap,.agg #[.int .i64 t.e,.int .i64 t.c,.int .i64 t.p,.int .i64 t.f],.func (.func 187) #[] #[]] w fun e w'=>qNA gs t w e w':=by
 have HZ:Hid (gs.length=n):=h.1;have HL:Hid (SL gs):=hs;have hn':(n:Int)<=1048576:=by omega
 obtain ⟨w0,hw0⟩:∃ w0,w0=w.alloc (.cells #[.int .i64 t.e,.int .i64 t.c,.int .i64 t.p,.int .i64 t.f] 103):=⟨_,rfl⟩;have hb0:Below w.heap.size w w0:=by rw [hw0];exact zN
 have hs0:w.heap.size < w0.heap.size:=by rw [hw0];simp
 have H:Hid (qK8 w0 a n gs):=h.below hb0;have HB0:Hid (Below w.heap.size w w0):=hb0;have HT:Hid (QE9 w0 w.heap.size 0 t):=by rw [hw0];exact QE9.new _ _ _
 clear h hs hb0;go_enter Tryz.func191,Tryz.ntmps191;go_wp2_with fail
 rw [<- hw0];clear hw0;go_loopw [9,10] (fun p q wr=>∃ (i j:Nat),i<=j/\j<=n/\p = .int .i64 (i:Int)/\q = .int .i64 (j:Int)/\(∀ (k:Nat) (x:LkI),k < i->gs[k]? = some x->ltL x t=true)/\(∀ (k:Nat) (x:LkI),j<=k->gs[k]? = some x->ltL x t=false)/\Below w0.heap.size w0 wr) (fun p q _=>(intOf q).toNat - (intOf p).toNat)
 case atStart=>exact ⟨0,n,Nat.zero_le _,Nat.le_refl _,rfl,rfl,fun k x hk=>by omega,(fun k x hk hx=>by rw [List.getElem?_eq_none (by rw [HZ.out];exact hk)] at hx;cases hx),Below.refl _ _⟩
 case round =>
  obtain ⟨i,j,hij,hjn,rfl,rfl,hlo,hhi,hnx⟩:=hrel;have HLO:Hid (∀ (k:Nat) (x:LkI),k < i->gs[k]? = some x->ltL x t=true):=hlo;have HHI:Hid (∀ (k:Nat) (x:LkI),j<=k->gs[k]? = some x->ltL x t=false):=hhi;clear hlo hhi;obtain ⟨t0,t1,t2,t3⟩:=HT.out.below hnx hs0;rw [Nat.zero_add] at t1 t2 t3;by_cases hlt:i < j
  ·obtain ⟨b,off,x,rfl,hx,hxa,hbl⟩:=H.out.at (show (i+j) / 2 < n by omega)
   obtain ⟨x0,x1,x2,x3⟩:=hxa.below hnx hbl;have HX:Hid (gs[(i+j) / 2]? = some x):=hx;have hbw:b < wr.heap.size:=Nat.lt_of_lt_of_le hbl hnx.size;have hwl:w.heap.size < wr.heap.size:=Nat.lt_of_lt_of_le hs0 hnx.size;clear hx hxa;have hlt':(i:Int) < (j:Int):=by omega
   have hj':(j:Int)<=1048576:=by omega
   have hm0:(0:Int)<=((i:Int)+(j:Int)) / 2:=by omega
   have hm1:((i:Int)+(j:Int)) / 2 < (n:Int):=by omega
   have hmN:(((i:Int)+(j:Int)) / 2).toNat=(i+j) / 2:=by omega
   rw [<- hmN] at x0 x1 x2 x3;clear hmN;obtain ⟨v,hv⟩:∃ v,cfL x t=v:=⟨_,rfl⟩;have HCm:Hid (∀ w2:World,Calls Tryz.prog 187 #[.agg #[.int .i64 x.e,.int .i64 x.c,.int .i64 x.p,.int .i64 x.f],.agg #[.int .i64 t.e,.int .i64 t.c,.int .i64 t.p,.int .i64 t.f]] w2 fun e w'=>e = .returned (.int .i64 v)/\Below w2.heap.size w2 w'):=fun w2=>by rw [<- hv];exact qU2 x t w2
   have hge:(v < 0)↔ltL x t=true:=by rw [<- hv];exact qHe x t
   have HGE:Hid ((v < 0)↔ltL x t=true):=hge;clear hv hge;go_upto_region 5 with fail
   by_cases hneg:v < 0
   ·have HLO2:Hid (∀ (k:Nat) (y:LkI),k < (i+j) / 2+1->gs[k]? = some y->ltL y t=true):=qJt HL.out HX.out (HGE.out.1 hneg)
    go_region_held3 (fun w'=>(∀ b o,b < wr.heap.size->w'.cell? ⟨b,o,none⟩=wr.cell? ⟨b,o,none⟩)/\Below wr.heap.size wr w') (first | exact hS | exact qC1 _)
     (first | (go_at_call 187;refine (HCm.out _).mono ?_;rintro e w' ⟨rfl,hb2⟩;have hS:=qA9 (by assumption) hb2))
    go_wp2;exact ⟨⟨(i+j) / 2+1,j,by omega,hjn,by rw [show ((i:Int)+(j:Int)) / 2+1=(((i+j) / 2+1:Nat):Int) by omega],rfl,HLO2.out,HHI.out,hnx.trans (hS.2.mono hnx.size)⟩,by simp [intOf];omega⟩
   ·have HHI2:Hid (∀ (k:Nat) (y:LkI),(i+j) / 2<=k->gs[k]? = some y->ltL y t=false):=qJu HL.out HX.out (by cases q:ltL x t;rfl;exact absurd (HGE.out.2 q) hneg)
    go_region_held3 (fun w'=>(∀ b o,b < wr.heap.size->w'.cell? ⟨b,o,none⟩=wr.cell? ⟨b,o,none⟩)/\Below wr.heap.size wr w') (first | exact hS | exact qC1 _)
     (first | (go_at_call 187;refine (HCm.out _).mono ?_;rintro e w' ⟨rfl,hb2⟩;have hS:=qA9 (by assumption) hb2))
    go_wp2;exact ⟨⟨i,(i+j) / 2,by omega,by omega,rfl,by rw [show ((i:Int)+(j:Int)) / 2=(((i+j) / 2:Nat):Int) by omega],HLO.out,HHI2.out,hnx.trans (hS.2.mono hnx.size)⟩,by simp [intOf];omega⟩
  ·obtain rfl:j=i:=by omega
   have HCU:Hid (QQ2 gs t j):=⟨by rw [HZ.out];exact hjn,HLO.out,HHI.out⟩;clear HLO HHI;by_cases hlt2:j < n
   ·obtain ⟨b,off,x,rfl,hx,hxa,hbl⟩:=H.out.at hlt2
    obtain ⟨x0,x1,x2,x3⟩:=hxa.below hnx hbl;have HX:Hid (gs[j]? = some x):=hx;have hbw:b < wr.heap.size:=Nat.lt_of_lt_of_le hbl hnx.size;have hwl:w.heap.size < wr.heap.size:=Nat.lt_of_lt_of_le hs0 hnx.size;clear hx hxa;have hlt':(j:Int) < (n:Int):=by omega
    obtain ⟨v,hv⟩:∃ v,cfL x t=v:=⟨_,rfl⟩;have HCm:Hid (∀ w2:World,Calls Tryz.prog 187 #[.agg #[.int .i64 x.e,.int .i64 x.c,.int .i64 x.p,.int .i64 x.f],.agg #[.int .i64 t.e,.int .i64 t.c,.int .i64 t.p,.int .i64 t.f]] w2 fun e w'=>e = .returned (.int .i64 v)/\Below w2.heap.size w2 w'):=fun w2=>by rw [<- hv];exact qU2 x t w2
    have HF:Hid ((v==0)=true↔∃ y,gs[j]? = some y/\cfL y t=0):=by
     refine ⟨fun q=>⟨x,HX.out,by rw [hv];simpa using q⟩,fun ⟨y,hy,q⟩=>?_⟩;rw [HX.out] at hy;cases hy;rw [hv] at q;simp [q]
    clear hv;go_upto_region 8 with fail
    go_region_held3 (fun w'=>(∀ b o,b < wr.heap.size->w'.cell? ⟨b,o,none⟩=wr.cell? ⟨b,o,none⟩)/\Below wr.heap.size wr w') (first | exact hS | exact qC1 _)
     (first | (go_at_call 187;refine (HCm.out _).mono ?_;rintro e w' ⟨rfl,hb2⟩;have hS:=qA9 (by assumption) hb2))
    go_wp2;refine bodyPost_ret (v:=.tuple #[.int .i64 (j:Int),.bool (v==0)]) (by simp [results,Tryz.results191,go_sem]) rfl ?_;exact ⟨j,v==0,rfl,HCU.out,HF.out,HB0.out.trans ((hnx.trans (hS.2.mono hnx.size)).mono (by omega))⟩
   ·have HF:Hid (false=true↔∃ y,gs[j]? = some y/\cfL y t=0):=by
     refine ⟨(fun q=>by cases q),fun ⟨y,hy,q⟩=>?_⟩;rw [List.getElem?_eq_none (by rw [HZ.out];omega)] at hy;cases hy
    have hlt':¬ ((j:Int) < (n:Int)):=by omega
    go_upto_region 8 with fail
    go_quiet (fail)
    go_wp2;refine bodyPost_ret (v:=.tuple #[.int .i64 (j:Int),.bool false]) (by simp [results,Tryz.results191,go_sem]) rfl ?_;exact ⟨j,false,rfl,HCU.out,HF.out,HB0.out.trans ((below_drewN hnx _).mono (by omega))⟩

theorem qJp (a:Option Addr) (n cap:Nat) (gs:List LkI) (e0 c0 p0:Int) (w:World) (h:qK8 w a n gs) (hn:n<=1048576) :
  Calls Tryz.prog 127 #[.slice a n cap,.int .i64 e0,.int .i64 c0,.int .i64 p0] w fun e w'=>e = .returned (.int .i64 (qE8 gs e0 c0 p0))/\Below w.heap.size w w':=by
 have HZ:Hid (gs.length=n):=h.1;have H:Hid (qK8 w a n gs):=h;clear h;have hn':(n:Int)<=1048576:=by omega
 obtain ⟨r,hr⟩:∃ r,qE8 gs e0 c0 p0=r:=⟨_,rfl⟩;have HR:Hid (qE8 gs e0 c0 p0=r):=hr;rw [hr];clear hr;go_enter Tryz.func127,Tryz.ntmps127;go_wp2;go_loopw [9] (fun i wr=>∃ k:Nat,k<=n/\i = .int .i64 (k:Int)/\qE8 (gs.drop k) e0 c0 p0=r/\Below w.heap.size w wr) (fun i _=>n - (intOf i).toNat)
 case atStart=>exact ⟨0,Nat.zero_le _,rfl,HR.out,Below.refl _ _⟩
 case round =>
  obtain ⟨k,hk,rfl,hp,hnx⟩:=hrel;by_cases hlt:k < n
  ·obtain ⟨b,off,x,rfl,hs,hx,hbl⟩:=H.out.at hlt
   rw [qFJ hs] at hp;obtain ⟨g0,g1,g2,g3⟩:=hx.below hnx hbl;have hbw:b < wr.heap.size:=Nat.lt_of_lt_of_le hbl hnx.size;have hlt':(k:Int) < (n:Int):=by omega
   clear hs hx;by_cases q1:x.e=e0
   ·have b1:(x.e==e0)=true:=by simp [q1]
    by_cases q2:x.c=c0
    ·have b2:(x.c==c0)=true:=by simp [q2]
     by_cases q3:x.p=p0
     ·have b3:(x.p==p0)=true:=by simp [q3]
      rw [if_pos ⟨q1,q2,q3⟩] at hp;have HP:Hid (x.f=r):=hp;clear hp q1 q2 q3;go_wp2;go_ret;exact ⟨by rw [<- HP.out];rfl,hnx.alloc hnx.size _⟩
     ·have b3:(x.p==p0)=false:=by simp [q3]
      rw [if_neg (fun q=>q3 q.2.2)] at hp;have HP:Hid (qE8 (gs.drop (k+1)) e0 c0 p0=r):=hp;clear hp q1 q2 q3;go_wp2;exact ⟨⟨k+1,by omega,by go_num,HP.out,hnx.alloc hnx.size _⟩,by simp [intOf];omega⟩
    ·have b2:(x.c==c0)=false:=by simp [q2]
     rw [if_neg (fun q=>q2 q.2.1)] at hp;have HP:Hid (qE8 (gs.drop (k+1)) e0 c0 p0=r):=hp;clear hp q1 q2;go_wp2;exact ⟨⟨k+1,by omega,by go_num,HP.out,hnx.alloc hnx.size _⟩,by simp [intOf];omega⟩
   ·have b1:(x.e==e0)=false:=by simp [q1]
    rw [if_neg (fun q=>q1 q.1)] at hp;have HP:Hid (qE8 (gs.drop (k+1)) e0 c0 p0=r):=hp;clear hp q1;go_wp2;exact ⟨⟨k+1,by omega,by go_num,HP.out,hnx.alloc hnx.size _⟩,by simp [intOf];omega⟩
  ·have hkn:k=n:=by omega
   subst hkn;rw [List.drop_of_length_le (by rw [HZ.out];exact Nat.le_refl _)] at hp;have HP:Hid ((0:Int)=r):=hp;clear hp;go_wp2;go_ret;exact ⟨by rw [<- HP.out];rfl,hnx⟩
