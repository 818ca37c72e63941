/- Contracts. -/
import Derived.Test.YtdghpccmdnnenaaGreatDoorPx02
import Derived.Test.YtdghpccmdnnenaaGreatDoorPx04
namespace Go.Proofs.YtdghpccmdnnenaaGreatDoor
set_option maxRecDepth 100000
set_option maxHeartbeats 8000000
open Go.RowKit Go.Proofs.Tryz
set_option linter.unusedVariables false
set_option linter.unusedSimpArgs false
section
attribute [local go_sem ↓] qEL
theorem qBV(a:Option Addr)(n cap:Nat)(w:World)(hn:n<=1048576)(h16:16<n):
  CP 178 #[.slice a n cap] w fun e w'=>e=.returned (iv 2)/\Below w.heap.size w w':=by
 have h':(16:Int)<(n:Int):=by omega
 go_enter func178,ntmps178;go_wp2;go_ret;exact⟨rfl,gC _ _⟩
theorem qDG(a:Option Addr)(n cap:Nat)(zs:List qA1)(c:Int)(w:World)(h16:n<=16)(h:qB9 w a n zs)(hc:qL1 zs n=c):
  CP 178 #[.slice a n cap] w fun e w'=>e=.returned (iv c)/\Below w.heap.size w w':=by
 have H:=hJJ h;have hz:=hJJ h.1;have HC:=hJJ hc;clear h hc;have h':¬ ((16:Int)<(n:Int)):=by omega
 go_enter func178,ntmps178;go_wp2;go_loopw [3] (fun i wr=>∃k:Nat,k<=n/\i=iv (k:Int)/\qL1 zs k=0/\Below w.heap.size w wr) (fun i _=>n-(intOf i).toNat)
 case atStart=>exact⟨0,gH _,rfl,rfl,gC _ _⟩
 case round =>
  obtain⟨k,hk,rfl,hp,hnx⟩:=hrel;have HP:=hJJ hp;clear hp;by_cases hlt:k<n
  .obtain⟨b,off,r,rfl,hs,hr⟩:=H.out.at hlt
   have HS:=hJJ hs;clear hs;have hr1:Hid (qC2 wr b (off+k*8) r):=hr.below hnx;clear hr;have hlt':(k:Int)<(n:Int):=by omega
   go_wp2_with fail
   refine (qKT b (off+k*8) r _ hr1.out).mono ?_;rintro e w1 ⟨rfl,hb1⟩;have hnx1:Below w.heap.size w w1:=hnx.trans (hb1.mono hnx.size);have hr2:Hid (qC2 w1 b (off+k*8) r):=hr1.out.below hb1;clear hr1 hb1 hnx;by_cases hcode:qA6 r=0
   .rw[hcode];have HO:=hJJ hcode;clear hcode;go_wp2;go_loopw [5] (fun i2 wq=>∃j:Nat,j<=k/\i2=iv (j:Int)/\¬ r∈zs.take j/\∃m,wq=w1.drewN m) (fun i2 _=>k-(intOf i2).toNat)
    case atStart=>exact⟨0,gH _,rfl,by simp,0,rfl⟩
    case round =>
     obtain⟨j,hj,rfl,hm,m,rfl⟩:=hrel;have HM:=hJJ hm;clear hm;by_cases hjk:j<k
     .obtain⟨s,hs2,hq⟩:=H.out.here (show j<n by omega);have HS2:=hJJ hs2;clear hs2;obtain⟨h0,h1,h2,h3,h4,h5,h6,h7⟩:=hr2.out;obtain⟨g0,g1,g2,g3,g4,g5,g6,g7⟩:=hq.below hnx1;clear hq;have hjk':(j:Int)<(k:Int):=by omega
      cases hsame:QI6 s r
      .have HF:Hid (QI6 s r=false):=hsame
       have HN:Hid (¬ r∈zs.take (j+1)):=by
        show ¬ r∈zs.take (j+1)
        rw[qP5];rintro⟨i,hi,his⟩;by_cases e:i=j
        .subst e;rw[HS2.out]at his;simp[QI6]at hsame;exact hsame (gJ his)
        .exact HM.out ((qP5 _ _ _).2 ⟨i,by omega,his⟩)
       clear hsame;have hsame:QI6 s r=false:=HF.out;go_wp2;go_quiet (fail)
       go_wp2;exact⟨⟨j+1,by omega,by go_num,HN.out,_,rfl⟩,by simp[intOf];omega⟩
      .have HI:Hid (c=6):=by
        show c=6
        simp[QI6]at hsame;subst hsame;exact HC.out.symm.trans (qS0 zs (k+1) n 6 (by decide) (QI7 zs k s HS.out HP.out HO.out ((qP5 _ _ _).2 ⟨j,hjk,HS2.out⟩)) (by omega))
       go_wp2;go_quiet (fail)
       go_wp2;go_ret;exact⟨by rw[HI.out];rfl,by first | exact bdN hnx1 _ | exact bdN (bdN hnx1 _) _⟩
     .have hjn:j=k:=by omega
      subst hjn;have HN:Hid (qL1 zs (j+1)=0):=QV7 zs j r HS.out HP.out HO.out HM.out;go_wp2;exact⟨⟨j+1,by omega,by go_num,HN.out,by first | exact hnx1 | exact bdN hnx1 _⟩,by simp[intOf];omega⟩
   .have E:Hid (c=qA6 r):=(HC.out.symm.trans (qS0 zs (k+1) n _ hcode (QG2 zs k r HS.out HP.out hcode) (by omega)));obtain⟨d,hd⟩:∃d,d=qA6 r:=⟨_,rfl⟩;rw[<- hd]at hcode E ⊢
    clear hd;have hne:(d != 0)=true:=by simpa using hcode
    go_wp2;go_ret;exact⟨by rw[E.out];rfl,hnx1⟩
  .have hkn:k=n:=by omega
   subst hkn;have E:Hid (c=0):=HC.out.symm.trans HP.out;go_wp2;go_ret;exact⟨by rw[E.out];rfl,hnx⟩
theorem qIR(a:Option Addr)(n cap:Nat)(zs:List qA1)(w:World)(hn:n<=1048576)(h:qB9 w a n zs):
  CP 178 #[.slice a n cap] w fun e w'=>e=.returned (iv (qC3 zs))/\Below w.heap.size w w':=by
 have hz:=h.1;by_cases h16:16<n
 .have e:qC3 zs=2:=by simp[qC3,hz,h16]
  rw[e];exact qBV a n cap w hn h16
 .have e:qC3 zs=qL1 zs n:=by simp[qC3,hz,h16]
  rw[e];exact qDG a n cap zs _ w (by omega) h rfl
end
