/- Contracts. -/
import Derived.Test.YtdghpccmdnnenaaGreatDoorPx16
namespace Go.Proofs.YtdghpccmdnnenaaGreatDoor
set_option maxRecDepth 100000
set_option maxHeartbeats 8000000
open Go.RowKit Go.Proofs.Tryz
set_option linter.unusedVariables false
set_option linter.unusedSimpArgs false
theorem QR9{m m':Nat}{c:qA5}(h:qE2 m c)(hm:m<=m'):qE2 m' c:=by
 obtain⟨a1,a2,a3,a4⟩:=h;exact⟨by omega,by omega,fun k x e=>jF (a3 k x e) hm,by omega⟩
theorem qCa(a:Option Addr)(n cap:Nat)(fs:List qA5)(l:Int)(w:World)(hn:n<=maxLen)(hle:∀(k:Nat) c,fs[k]?=some c->qE2 maxLen c)(h0:0<=l)(h1:l<=1048576)(h:qA7 w a n fs):
  CP 36 #[.slice a n cap,iv l] w fun e w'=>(∃r:Int,e=.returned (iv r)/\r<=l/\(0<=r->(n:Int)<=l/\(∀(k:Nat) c,fs[k]?=some c->qE2 l.toNat c)))/\Below w.heap.size w w':=by
 have H:=hJJ h;have HZ:=hJJ h.len;have HLE:=hJJ hle;have hn':(n:Int)<=9223372036854775807:=by unfold maxLen at hn;omega
 clear h hle hn;by_cases hlt:(n:Int)<=l
 .go_enter func36,ntmps36;go_wp2
  go_loopw [1,5] (fun q i wr=>∃(k:Nat) (r:Int),k<=n/\i=iv (k:Int)/\q=iv r/\0<=r/\r<=l/\(∀j x,j<k->fs[j]?=some x->qE2 l.toNat x)/\Below w.heap.size w wr)
   (fun _ i _=>n-(intOf i).toNat)
  case atStart=>exact⟨0,_,gH _,rfl,rfl,by omega,by omega,fun j x hj=>by omega,gC _ _⟩
  case round =>
   obtain⟨k,r,hk,rfl,rfl,hr0,hr1,hok,hnx⟩:=hrel;have HOK:=hJJ hok;clear hok;by_cases hkn:k<n
   .obtain⟨b,off,x,rfl,hs,hr,hci⟩:=H.out.at hkn
    have HS:=hJJ hs;have hx:qE2 maxLen x:=HLE.out k x hs;have HCI:Hid (qF4 wr x):=((H.out.below (hnx.mono (gB _))).each k x hs);have hb:b<w.heap.size:=hr.lt;obtain⟨c0,c1,c2,c3,c4⟩:=hr.below hnx;clear hs hr hci;have hkn':(k:Int)<(n:Int):=by omega
    go_wp2_with fail
    refine (qFU x r _ hx hr0 (by omega) HCI.out).mono ?_;rintro e w1 ⟨⟨r',rfl,hr'1,hr'2⟩,hb1⟩;have hb01:Below w.heap.size w w1:=hnx.trans (hb1.mono hnx.size);by_cases hneg:r'<0
    .clear c0 c1 c2 c3 c4;go_wp2;go_ret;exact⟨⟨_,rfl,by omega,fun q=>by omega⟩,hb01⟩
    .have HN:Hid (∀j y,j<k+1->fs[j]?=some y->qE2 l.toNat y):=fun j y hj hy=>by
      by_cases e:j=k
      .subst e;rw[HS.out]at hy;cases hy;exact QR9 (hr'2 (by omega)) (by omega)
      .exact HOK.out j y (by omega) hy
     have hge:0<=r':=by omega
     clear c0 c1 c2 c3 c4 hr'2;go_wp2;exact⟨⟨k+1,r',by omega,by go_num,rfl,hge,by omega,HN.out,hb01⟩,by simp[intOf];omega⟩
   .have hkn':k=n:=by omega
    subst hkn'
    have HQ:Hid (∀(k:Nat) c,fs[k]?=some c->qE2 l.toNat c):=fun j x hj=>by
     have : j<k:=by
      by_cases q:j<k
      .exact q
      .rw[gE (by rw[HZ.out];omega)]at hj;cases hj
     exact HOK.out j x this hj
    go_wp2;go_ret;exact⟨⟨r,rfl,hr1,fun _=>⟨hlt,HQ.out⟩⟩,hnx⟩
 .have hlt':l<(n:Int):=by omega
  go_enter func36,ntmps36;go_wp2;go_ret;exact⟨⟨_,rfl,by omega,fun q=>by omega⟩,by go_grown⟩
