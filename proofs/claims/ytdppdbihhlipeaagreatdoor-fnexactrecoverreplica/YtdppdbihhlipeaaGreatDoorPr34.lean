/- Contracts. -/
import Derived.Test.YtdppdbihhlipeaaGreatDoorPr32
import Derived.Test.YtdppdbihhlipeaaGreatDoorPr23
import Derived.Test.YtdppdbihhlipeaaGreatDoorPr24
import Derived.ArgAppend
import Derived.Lib.SliceRun
namespace Go.Proofs.YtdppdbihhlipeaaGreatDoor
set_option maxRecDepth 100000
set_option maxHeartbeats 8000000
open Go.RowKit
set_option linter.unusedVariables false
set_option linter.unusedSimpArgs false

section
def QQ0 (w:World) (a:Option Addr) (n:Nat) (xs:List RoI):Prop:=xs.length=n/\(0 < n->∃ b off,a=some ⟨b,off,none⟩/\∀ k r,xs[k]? = some r->w.cell? ⟨b,off+k * 2,none⟩=some (.int .i64 r.1)/\w.cell? ⟨b,off+k * 2+1,none⟩=some (.int .i64 r.2))
theorem QQ0.below {w w':World} {a:Option Addr} {n:Nat} {xs:List RoI} (h:QQ0 w a n xs) (hb:Below w.heap.size w w'):QQ0 w' a n xs:=by
 refine ⟨h.1,fun hn=>?_⟩;obtain ⟨b,off,e,k⟩:=h.2 hn;refine ⟨b,off,e,fun j r hr=>?_⟩;obtain ⟨h1,h2⟩:=k j r hr;exact ⟨(hb.cell (p:=⟨b,off+j * 2,none⟩) (zL w ⟨b,off+j * 2,none⟩ h1)).trans h1,(hb.cell (p:=⟨b,off+j * 2+1,none⟩) (zL w ⟨b,off+j * 2+1,none⟩ h2)).trans h2⟩
theorem QV7 {w:World} {g:Nat} {xs:List RoI} (h:∀ j u,(QB9 xs)[j]? = some u->w.cell? ((⟨g,0,none⟩:Addr).add j)=some u):QQ0 w (some ⟨g,0,none⟩) xs.length xs:=by
 refine ⟨rfl,fun _=>⟨g,0,rfl,fun k r hr=>?_⟩⟩;have h1:=h _ _ (qAv xs k r hr);have h2:=h _ _ (qAu xs k r hr);rw [Go.WideShapes.add_plain] at h1 h2;rw [Nat.zero_add] at h1 h2 ⊢
 exact ⟨h1,h2⟩
theorem qAR (zs:List RoI) (k:Nat) (r:RoI):r∈zs.take k↔∃ j,j < k/\zs[j]? = some r:=by
 rw [List.mem_iff_getElem?];constructor
 ·rintro ⟨j,hj⟩;rw [List.getElem?_take] at hj;by_cases h:j < k
  ·rw [if_pos h] at hj;exact ⟨j,h,hj⟩
  ·rw [if_neg h] at hj;cases hj
 ·rintro ⟨j,h,hj⟩;exact ⟨j,by rw [List.getElem?_take,if_pos h];exact hj⟩
attribute [local go_sem ↓] qDN
theorem qEQ (a:Option Addr) (n cap:Nat) (zs:List RoI) (r:RoI) (w:World) (hn:n<=1048576) (h:QQ0 w a n zs) :
  Calls Tryz.prog 232 #[.slice a n cap,.agg #[.int .i64 r.1,.int .i64 r.2]] w fun e w'=>(∃ i:Int,e = .returned (.int .i64 i)/\((0<=i/\r∈zs)\/(i = -1/\¬ r∈zs)))/\Below w.heap.size w w':=by
 have H:Hid (QQ0 w a n zs):=h;have hz:Hid (zs.length=n):=h.1;clear h;have hn':(n:Int)<=1048576:=by omega
 go_enter Tryz.func232,Tryz.ntmps232;go_wp2;go_loopw [8] (fun i wr=>∃ k:Nat,k<=n/\i = .int .i64 (k:Int)/\¬ r∈zs.take k/\∃ m,wr=(w.alloc (.cells #[.int .i64 r.1,.int .i64 r.2] 123)).drewN m) (fun i _=>n - (intOf i).toNat)
 case atStart=>exact ⟨0,Nat.zero_le _,rfl,by simp,0,rfl⟩
 case round =>
  obtain ⟨k,hk,rfl,hm,m,rfl⟩:=hrel;have HM:Hid (¬ r∈zs.take k):=hm;clear hm;by_cases hlt:k < n
  ·obtain ⟨b,off,rfl,hcells⟩:=H.out.2 (by omega);obtain ⟨s,hs⟩:∃ s,zs[k]? = some s:=⟨_,List.getElem?_eq_getElem (by rw [hz.out];exact hlt)⟩;obtain ⟨h0,h1⟩:=hcells k s hs;have HS:Hid (zs[k]? = some s):=hs;clear hs hcells;have hb:b < w.heap.size:=zL w ⟨b,off+k * 2,none⟩ h0;have b0:(w.alloc (.cells #[.int .i64 r.1,.int .i64 r.2] 123)).cell? ⟨w.heap.size,0,none⟩=some (.int .i64 r.1):=by simp
   have b1:(w.alloc (.cells #[.int .i64 r.1,.int .i64 r.2] 123)).cell? ⟨w.heap.size,1,none⟩=some (.int .i64 r.2):=by simp
   have hlt':(k:Int) < (n:Int):=by omega
   cases hsame:qFa r s
   ·have HN:Hid (¬ r∈zs.take (k+1)):=by
     show ¬ r∈zs.take (k+1)
     rw [qAR];rintro ⟨j,hj,hjs⟩;by_cases e:j=k
     ·subst e;rw [HS.out] at hjs;have:=(qT3 r s).2 (Option.some.inj hjs).symm;rw [hsame] at this;cases this
     ·exact HM.out ((qAR _ _ _).2 ⟨j,by omega,hjs⟩)
    go_wp2;go_quiet (fail)
    go_wp2;exact ⟨⟨k+1,by omega,by go_num,HN.out,_,rfl⟩,by simp [intOf];omega⟩
   ·have HI:Hid (r∈zs):=by
     show r∈zs
     rw [(qT3 r s).1 hsame];exact List.mem_of_getElem? HS.out
    go_wp2;go_quiet (fail)
    go_wp2;go_ret;exact ⟨⟨_,rfl,Or.inl ⟨by omega,HI.out⟩⟩,by first | exact bdN (zN) _ | exact bdN (bdN (zN) _) _⟩
  ·have hkn:k=n:=by omega
   subst hkn
   have HN:Hid (¬ r∈zs):=by
    have:=HM.out;rw [List.take_of_length_le (by rw [hz.out];exact Nat.le_refl _)] at this;exact this
   go_wp2;go_ret;exact ⟨⟨_,rfl,Or.inr ⟨rfl,HN.out⟩⟩,bdN (by go_grown) _⟩
theorem qQ1 (a:Option Addr) (n cap:Nat) (zs:List RoI) (r:RoI) (w:World) (hn:n<=1048576) (h:QQ0 w a n zs) :
  Calls Tryz.prog 230 #[.slice a n cap,.agg #[.int .i64 r.1,.int .i64 r.2]] w fun e w'=>e = .returned (.bool (decide (r∈zs)))/\Below w.heap.size w w':=by
 have H:Hid (QQ0 (w.alloc (.cells #[.int .i64 r.1,.int .i64 r.2] 123)) a n zs):=h.below (zN);clear h;go_enter Tryz.func230,Tryz.ntmps230;go_wp2_with fail
 refine (qEQ a n cap zs r _ hn H.out).mono ?_;rintro e w1 ⟨⟨i,rfl,hi⟩,hb1⟩
 have HX:Hid (decide (0<=i)=decide (r∈zs)):=by
  show decide (0<=i)=decide (r∈zs)
  rcases hi with ⟨h1,h2⟩ | ⟨rfl,h2⟩
  ·simp [h1,h2]
  ·simp [h2]
 clear hi;go_wp2;go_ret;exact ⟨by rw [HX.out];rfl,qC8 hb1⟩
attribute [local go_sem] qMf qMe qMd qMc qMb qMa qMZ qMY qMX qMW qMV qMU qMT qMS qMR qMQ
theorem qBM {w w1:World} {o1:Obj} {h0 h1:Value} {t:TypeId} (hb:Below ((w.alloc o1).alloc (.cells #[h0,h1] t)).heap.size ((w.alloc o1).alloc (.cells #[h0,h1] t)) w1) :
  w1.cell? ⟨w.heap.size+1,0,none⟩=some h0/\w1.cell? ⟨w.heap.size+1,1,none⟩=some h1/\w.heap.size+2<=w1.heap.size/\Below w.heap.size w w1:=by
 have hz:=hb.size;simp only [World.size_alloc] at hz;refine ⟨(hb.cell (p:=⟨w.heap.size+1,0,none⟩) (by simp)).trans (by simp),(hb.cell (p:=⟨w.heap.size+1,1,none⟩) (by simp)).trans (by simp),hz,qC8 (qC8 hb)⟩
theorem qDx {w w1:World} {h0 h1:Value} {b:Nat} (o:Obj) (c0:w1.cell? ⟨b,0,none⟩=some h0) (c1:w1.cell? ⟨b,1,none⟩=some h1) (hz:b < w1.heap.size) (hb:Below w.heap.size w w1) :
  ∃ W,w1.alloc o=W/\W.cell? ⟨b,0,none⟩=some h0/\W.cell? ⟨b,1,none⟩=some h1/\b < W.heap.size/\Below w.heap.size w W:=by
 have hA:Below w1.heap.size w1 (w1.alloc o):=zN;exact ⟨_,rfl,(hA.cell (p:=⟨b,0,none⟩) hz).trans c0,(hA.cell (p:=⟨b,1,none⟩) hz).trans c1,Nat.lt_of_lt_of_le hz hA.size,hb.alloc hb.size _⟩
theorem qKo (r:qA2) (h:RoI) (w:World) (e1:r.k=1) :
  Calls Tryz.prog 223 #[.agg #[.int .i64 r.k,.int .i64 r.ho,.int .i64 r.hn,.int .i64 r.w,.int .i64 r.oo,.int .i64 r.on,.int .i64 r.to,.int .i64 r.tn],.agg #[.int .i64 h.1,.int .i64 h.2]] w fun e w'=>e = .returned (.bool (qG8 r h))/\Below w.heap.size w w':=by
 obtain ⟨t,ht⟩:∃ t,qG8 r h=t:=⟨_,rfl⟩;have HT:Hid (decide (h∈([]:List RoI))=t):=by rw [<- ht];show _=qG8 r h;simp [qG8,qCr,e1]
 rw [ht];have E1:Hid (r.k=1):=e1;clear e1 ht;go_enter Tryz.func223,Tryz.ntmps223;go_wp2_with (first | (go_at_call 196;refine (QY6 r E1.out _).mono ?_;rintro e w1 ⟨rfl,hb0⟩;obtain ⟨c0,c1,hz,hb⟩:=qBM hb0;clear hb0) | go_in)
 obtain ⟨W,hW,p0,p1,hzW,hbW⟩:=qDx (.cells #[.int .i64 0,.int .i64 0,.int .i64 0] 307) c0 c1 (by omega) hb;rw [hW];clear hW c0 c1 hz hb
 go_region_with (first
  | (go_at_call 260;refine (qKW _ _).mono ?_;rintro e w2 ⟨rfl,hb2⟩;have q0:w2.cell? ⟨w.heap.size+1,0,none⟩=some (.int .i64 h.1):=(hb2.cell (p:=⟨w.heap.size+1,0,none⟩) hzW).trans p0;have q1:w2.cell? ⟨w.heap.size+1,1,none⟩=some (.int .i64 h.2):=(hb2.cell (p:=⟨w.heap.size+1,1,none⟩) hzW).trans p1)
  | (go_at_call 230;refine (qQ1 none 0 0 [] h _ (by omega) ⟨rfl,fun q=>by omega⟩).mono ?_;rintro e w3 ⟨he3,hb3⟩;rw [HT.out] at he3;subst he3))
 all_goals go_wp2
 all_goals go_ret
 all_goals exact ⟨rfl,(hbW.drew.trans (hb2.mono hbW.size)).trans (hb3.mono (Nat.le_trans hbW.size hb2.size))⟩
theorem qKn (r:qA2) (h:RoI) (w:World) (e1:r.k=2) :
  Calls Tryz.prog 223 #[.agg #[.int .i64 r.k,.int .i64 r.ho,.int .i64 r.hn,.int .i64 r.w,.int .i64 r.oo,.int .i64 r.on,.int .i64 r.to,.int .i64 r.tn],.agg #[.int .i64 h.1,.int .i64 h.2]] w fun e w'=>e = .returned (.bool (qG8 r h))/\Below w.heap.size w w':=by
 obtain ⟨t,ht⟩:∃ t,qG8 r h=t:=⟨_,rfl⟩;have HT:Hid (decide (h∈[(r.oo,r.on)])=t):=by rw [<- ht];show _=qG8 r h;simp [qG8,qCr,e1]
 rw [ht];have E1:Hid (r.k=2):=e1;clear e1 ht;go_enter Tryz.func223,Tryz.ntmps223;go_wp2_with (first | (go_at_call 196;refine (QY5 r E1.out _).mono ?_;rintro e w1 ⟨rfl,hb0⟩;obtain ⟨c0,c1,hz,hb⟩:=qBM hb0;clear hb0) | go_in)
 obtain ⟨W,hW,p0,p1,hzW,hbW⟩:=qDx (.cells #[.int .i64 0,.int .i64 0,.int .i64 0] 307) c0 c1 (by omega) hb;rw [hW];clear hW c0 c1 hz hb
 go_region_with (first
  | (go_at_call 261;refine (qKV _ _ _).mono ?_;rintro e w2 ⟨g,rfl,hc2,hb2⟩;have HC2:Hid (QQ0 w2 (some ⟨g,0,none⟩) ([(r.oo,r.on)]).length ([(r.oo,r.on)])):=QV7 hc2;clear hc2;have q0:w2.cell? ⟨w.heap.size+1,0,none⟩=some (.int .i64 h.1):=(hb2.cell (p:=⟨w.heap.size+1,0,none⟩) hzW).trans p0;have q1:w2.cell? ⟨w.heap.size+1,1,none⟩=some (.int .i64 h.2):=(hb2.cell (p:=⟨w.heap.size+1,1,none⟩) hzW).trans p1)
  | (go_at_call 230;refine (qQ1 _ _ _ [(r.oo,r.on)] h _ (by simp) HC2.out).mono ?_;rintro e w3 ⟨he3,hb3⟩;rw [HT.out] at he3;subst he3))
 all_goals go_wp2
 all_goals go_ret
 all_goals exact ⟨rfl,(hbW.drew.trans (hb2.mono hbW.size)).trans (hb3.mono (Nat.le_trans hbW.size hb2.size))⟩
theorem qKm (r:qA2) (h:RoI) (w:World) (e1:r.k=3) (e3:r.tn≠h.2) :
  Calls Tryz.prog 223 #[.agg #[.int .i64 r.k,.int .i64 r.ho,.int .i64 r.hn,.int .i64 r.w,.int .i64 r.oo,.int .i64 r.on,.int .i64 r.to,.int .i64 r.tn],.agg #[.int .i64 h.1,.int .i64 h.2]] w fun e w'=>e = .returned (.bool (qG8 r h))/\Below w.heap.size w w':=by
 obtain ⟨t,ht⟩:∃ t,qG8 r h=t:=⟨_,rfl⟩;have HT:Hid (decide (h∈[(r.oo,r.on)])=t):=by rw [<- ht];show _=qG8 r h;simp [qG8,qCr,e1,e3]
 rw [ht];have b3:(r.tn==h.2)=false:=by simp [e3]
 have E1:Hid (r.k=3):=e1;clear e1 ht e3;go_enter Tryz.func223,Tryz.ntmps223;go_wp2_with (first | (go_at_call 196;refine (QJ7 r E1.out _).mono ?_;rintro e w1 ⟨rfl,hb0⟩;obtain ⟨c0,c1,hz,hb⟩:=qBM hb0;clear hb0;have hlt1:w.heap.size+1 < w1.heap.size:=by omega) | go_in)
 obtain ⟨W,hW,p0,p1,hzW,hbW⟩:=qDx (.cells #[.int .i64 r.oo,.int .i64 r.on,.int .i64 r.tn] 307) c0 c1 (by omega) hb;rw [hW];clear hW c0 c1 hz hb hlt1
 go_region_with (first
  | (go_at_call 262;refine (qKU _ _ _ _).mono ?_;rintro e w2 ⟨g,rfl,hc2,hb2⟩;have HC2:Hid (QQ0 w2 (some ⟨g,0,none⟩) ([(r.oo,r.on)]).length ([(r.oo,r.on)])):=QV7 hc2;clear hc2;have q0:w2.cell? ⟨w.heap.size+1,0,none⟩=some (.int .i64 h.1):=(hb2.cell (p:=⟨w.heap.size+1,0,none⟩) hzW).trans p0;have q1:w2.cell? ⟨w.heap.size+1,1,none⟩=some (.int .i64 h.2):=(hb2.cell (p:=⟨w.heap.size+1,1,none⟩) hzW).trans p1)
  | (go_at_call 230;refine (qQ1 _ _ _ [(r.oo,r.on)] h _ (by simp) HC2.out).mono ?_;rintro e w3 ⟨he3,hb3⟩;rw [HT.out] at he3;subst he3))
 all_goals go_wp2
 all_goals go_ret
 all_goals exact ⟨rfl,(hbW.drew.trans (hb2.mono hbW.size)).trans (hb3.mono (Nat.le_trans hbW.size hb2.size))⟩
theorem qKl (r:qA2) (h:RoI) (w:World) (e1:r.k=4) :
  Calls Tryz.prog 223 #[.agg #[.int .i64 r.k,.int .i64 r.ho,.int .i64 r.hn,.int .i64 r.w,.int .i64 r.oo,.int .i64 r.on,.int .i64 r.to,.int .i64 r.tn],.agg #[.int .i64 h.1,.int .i64 h.2]] w fun e w'=>e = .returned (.bool (qG8 r h))/\Below w.heap.size w w':=by
 obtain ⟨t,ht⟩:∃ t,qG8 r h=t:=⟨_,rfl⟩;have HT:Hid (decide (h∈[(r.oo,r.on),(r.to,r.tn)])=t):=by rw [<- ht];show _=qG8 r h;simp [qG8,qCr,e1]
 rw [ht];have E1:Hid (r.k=4):=e1;clear e1 ht;go_enter Tryz.func223,Tryz.ntmps223;go_wp2_with (first | (go_at_call 196;refine (QY4 r E1.out _).mono ?_;rintro e w1 ⟨rfl,hb0⟩;obtain ⟨c0,c1,hz,hb⟩:=qBM hb0;clear hb0) | go_in)
 obtain ⟨W,hW,p0,p1,hzW,hbW⟩:=qDx (.cells #[.int .i64 0,.int .i64 0,.int .i64 0] 307) c0 c1 (by omega) hb;rw [hW];clear hW c0 c1 hz hb
 go_region_with (first
  | (go_at_call 263;refine (qKT _ _ _ _ _).mono ?_;rintro e w2 ⟨g,rfl,hc2,hb2⟩;have HC2:Hid (QQ0 w2 (some ⟨g,0,none⟩) ([(r.oo,r.on),(r.to,r.tn)]).length ([(r.oo,r.on),(r.to,r.tn)])):=QV7 hc2;clear hc2;have q0:w2.cell? ⟨w.heap.size+1,0,none⟩=some (.int .i64 h.1):=(hb2.cell (p:=⟨w.heap.size+1,0,none⟩) hzW).trans p0;have q1:w2.cell? ⟨w.heap.size+1,1,none⟩=some (.int .i64 h.2):=(hb2.cell (p:=⟨w.heap.size+1,1,none⟩) hzW).trans p1)
  | (go_at_call 230;refine (qQ1 _ _ _ [(r.oo,r.on),(r.to,r.tn)] h _ (by simp) HC2.out).mono ?_;rintro e w3 ⟨he3,hb3⟩;rw [HT.out] at he3;subst he3))
 all_goals go_wp2
 all_goals go_ret
 all_goals exact ⟨rfl,(hbW.drew.trans (hb2.mono hbW.size)).trans (hb3.mono (Nat.le_trans hbW.size hb2.size))⟩
theorem qIq (r:qA2) (h:RoI) (w:World) (e1:r.k=3) (e3:r.tn=h.2) :
  Calls Tryz.prog 223 #[.agg #[.int .i64 r.k,.int .i64 r.ho,.int .i64 r.hn,.int .i64 r.w,.int .i64 r.oo,.int .i64 r.on,.int .i64 r.to,.int .i64 r.tn],.agg #[.int .i64 h.1,.int .i64 h.2]] w fun e w'=>e = .returned (.bool (qG8 r h))/\Below w.heap.size w w':=by
 have E:qG8 r h=true:=by simp [qG8,e1,e3]
 rw [E];have b3:(r.tn==h.2)=true:=by simp [e3]
 have E1:Hid (r.k=3):=e1;clear e1 E e3;go_enter Tryz.func223,Tryz.ntmps223;go_wp2_with (first | (go_at_call 196;refine (QJ7 r E1.out _).mono ?_;rintro e w1 ⟨rfl,hb0⟩;obtain ⟨c0,c1,hz,hb⟩:=qBM hb0;clear hb0;have hlt1:w.heap.size+1 < w1.heap.size:=by omega) | go_in)
 go_ret;exact ⟨rfl,hb.alloc hb.size _⟩
theorem qGq (r:qA2) (h:RoI) (w:World) (hk:1<=r.k/\r.k<=4) :
  Calls Tryz.prog 223 #[.agg #[.int .i64 r.k,.int .i64 r.ho,.int .i64 r.hn,.int .i64 r.w,.int .i64 r.oo,.int .i64 r.on,.int .i64 r.to,.int .i64 r.tn],.agg #[.int .i64 h.1,.int .i64 h.2]] w fun e w'=>e = .returned (.bool (qG8 r h))/\Below w.heap.size w w':=by
 have h4:r.k=1\/r.k=2\/r.k=3\/r.k=4:=by omega
 rcases h4 with e | e | e | e
 ·exact qKo r h w e
 ·exact qKn r h w e
 ·by_cases q:r.tn=h.2
  ·exact qIq r h w e q
  ·exact qKm r h w e q
 ·exact qKl r h w e
end

theorem Tryz.under68:Tryz.prog.underlying 68=some (.slice 125):=by kernel_rfl
def qX4 (r:qA2):List Value:=[.int .i64 r.k,.int .i64 r.ho,.int .i64 r.hn,.int .i64 r.w,.int .i64 r.oo,.int .i64 r.on,.int .i64 r.to,.int .i64 r.tn]
def qQ7:List qA2->List Value
 | []=>[]
 | r::rs=>qX4 r++qQ7 rs
theorem qV6:∀ zs:List qA2,(qQ7 zs).length=zs.length * 8
 | []=>rfl
 | r::rs=>by simp [qQ7,qX4,qV6 rs];omega
theorem QP0:∀ zs:List qA2,∀ u∈qQ7 zs,u.oneCell'=true
 | [],u,h=>by simp [qQ7] at h
 | r::rs,u,h=>by
  rcases List.mem_append.1 h with q | q
  ·simp [qX4] at q;rcases q with rfl | rfl | rfl | rfl | rfl | rfl | rfl | rfl <;> rfl
  ·exact QP0 rs u q
theorem QX7:∀ (zs:List qA2) (k:Nat) (r:qA2),zs[k]? = some r->∀ i,i < 8->(qQ7 zs)[k * 8+i]? = (qX4 r)[i]?
 | [],k,r,h,i,hi=>by simp at h
 | z::zs,0,r,h,i,hi=>by
  simp at h;subst h;rw [qQ7,List.getElem?_append_left (by simp [qX4];omega)];simp
 | z::zs,k+1,r,h,i,hi=>by
  have:=QX7 zs k r (by simpa using h) i hi;rw [qQ7,List.getElem?_append_right (by simp [qX4];omega),show (k+1) * 8+i - (qX4 z).length=k * 8+i by simp [qX4];omega];exact this
theorem qEU {w:World} {g off:Nat} {zs:List qA2} (h:∀ j u,(qQ7 zs)[j]? = some u->w.cell? ⟨g,off+j,none⟩=some u):qL2 w g off zs:=by
 intro k r hr
 have q:∀ i,i < 8->∀ u,(qX4 r)[i]? = some u->w.cell? ⟨g,off+k * 8+i,none⟩=some u:=fun i hi u hu=>by
  have:=h (k * 8+i) u ((QX7 zs k r hr i hi).trans hu);rwa [<- Nat.add_assoc] at this
 exact ⟨q 0 (by omega) _ rfl,q 1 (by omega) _ rfl,q 2 (by omega) _ rfl,q 3 (by omega) _ rfl,q 4 (by omega) _ rfl,q 5 (by omega) _ rfl,q 6 (by omega) _ rfl,q 7 (by omega) _ rfl⟩
theorem qEV {w:World} {g o:Nat} {r:qA2} (h:qD0 w g o r):∀ j u,(qX4 r)[j]? = some u->w.cell? ⟨g,o+j,none⟩=some u:=by
 obtain ⟨h0,h1,h2,h3,h4,h5,h6,h7⟩:=h;intro j u hu;match j,hu with
 | 0,hu=>simp [qX4] at hu;subst hu;exact h0
 | 1,hu=>simp [qX4] at hu;subst hu;exact h1
 | 2,hu=>simp [qX4] at hu;subst hu;exact h2
 | 3,hu=>simp [qX4] at hu;subst hu;exact h3
 | 4,hu=>simp [qX4] at hu;subst hu;exact h4
 | 5,hu=>simp [qX4] at hu;subst hu;exact h5
 | 6,hu=>simp [qX4] at hu;subst hu;exact h6
 | 7,hu=>simp [qX4] at hu;subst hu;exact h7
 | j+8,hu=>simp [qX4] at hu
theorem QK9 {w:World} {g off:Nat} {zs:List qA2} (h:qL2 w g off zs):∀ j u,(qQ7 zs)[j]? = some u->w.cell? ⟨g,off+j,none⟩=some u:=by
 intro j u hu
 have hj:j < zs.length * 8:=by
  rw [<- qV6];by_cases q:j < (qQ7 zs).length
  ·exact q
  ·rw [List.getElem?_eq_none (by omega)] at hu;cases hu
 have hk:j / 8 < zs.length:=by omega
 have hr:=List.getElem?_eq_getElem hk;have e:=QX7 zs (j / 8) _ hr (j % 8) (by omega);rw [show j / 8 * 8+j % 8=j by omega] at e;have:=qEV (h (j / 8) _ hr) (j % 8) u (e.symm.trans hu);rwa [show off+j / 8 * 8+j % 8=off+j by omega] at this
structure QAt (w:World) (B g off cap:Nat) (ws:List qA2):Prop where
 old:B<=g
 lt:g < w.heap.size
 at':qL2 w g off ws
 le:ws.length<=cap
 room:∀ j,j < cap * 8->(w.cell? ⟨g,off+j,none⟩).isSome=true/\w.frozen? ⟨g,off+j,none⟩=false
def Q1 (w:World) (B:Nat) (v:Value) (ws:List qA2):Prop:=∃ g off cap,v = .slice (some ⟨g,off,none⟩) ws.length cap/\QAt w B g off cap ws
theorem QAt.kept {w w':World} {B g off cap:Nat} {ws:List qA2} (h:QAt w B g off cap ws) (hs:w.heap.size<=w'.heap.size) (hb:w'.heap[g]? = w.heap[g]?):QAt w' B g off cap ws:=by
 have hc:∀ o,w'.cell? ⟨g,o,none⟩=w.cell? ⟨g,o,none⟩:=fun o=>World.cell?_of_block hb
 have hf:∀ o,w'.frozen? ⟨g,o,none⟩=w.frozen? ⟨g,o,none⟩:=fun o=>by simp [World.frozen?,hb]
 refine ⟨h.old,Nat.lt_of_lt_of_le h.lt hs,fun k r hr=>?_,h.le,fun j hj=>?_⟩
 ·obtain ⟨h0,h1,h2,h3,h4,h5,h6,h7⟩:=h.at' k r hr;exact ⟨(hc _).trans h0,(hc _).trans h1,(hc _).trans h2,(hc _).trans h3,(hc _).trans h4,(hc _).trans h5,(hc _).trans h6,(hc _).trans h7⟩
 ·rw [hc,hf];exact h.room j hj
theorem QAt.below {w w':World} {B g off cap:Nat} {ws:List qA2} (h:QAt w B g off cap ws) {K:Nat} (hK:g < K) (hb:Below K w w'):QAt w' B g off cap ws:=h.kept hb.size (hb.block g hK)
theorem QAt.pop {w:World} {B g off cap:Nat} {z:qA2} {ws:List qA2} (h:QAt w B g off cap (z::ws)):QAt w B g (off+8) (cap - 1) ws:=by
 have hl:=h.le;simp only [List.length_cons] at hl;refine ⟨h.old,h.lt,fun k r hr=>?_,by omega,fun j hj=>?_⟩
 ·have:=h.at' (k+1) r (by simpa using hr);rwa [show off+(k+1) * 8=off+8+k * 8 by omega] at this
 ·have:=h.room (8+j) (by omega);rwa [<- Nat.add_assoc] at this
theorem QAt.empty {w:World} {B g off off':Nat} (h:QAt w B g off 0 []):QAt w B g off' 0 [] :=
 ⟨h.old,h.lt,fun k r hr=>by simp at hr,Nat.le_refl _,fun j hj=>by omega⟩
theorem qDO {w:World} {B:Nat} {v:Value} {ws:List qA2} (h:w.ownsRow B 125 8 v ws.length (qQ7 ws)) (hn:v ≠ .slice none 0 0):Q1 w B v ws:=by
 rcases h.2 with ⟨q,_⟩ | ⟨g,cap,cur,rfl,hB,hg,hnc,hcm,hsz,htk⟩
 ·exact absurd q hn
 ·refine ⟨g,0,cap,rfl,hB,(h.lt g rfl).2,qEU (fun j u hu=>?_),hnc,fun j hj=>?_⟩
  ·rw [Nat.zero_add]
   have hj:j < ws.length * 8:=by
    rw [<- qV6];by_cases q:j < (qQ7 ws).length
    ·exact q
    ·rw [List.getElem?_eq_none (by omega)] at hu;cases hu
   exact (h.cellAt j hj).trans hu
  ·rw [Nat.zero_add];refine ⟨?_,by simp [World.frozen?,hg]⟩;simp [World.cell?,hg];omega
theorem qJL (a:Option Addr) (n cap:Nat) (zs:List qA2) (w:World) (hn:n<=1000) (h:qB8 w a n zs) :
  Calls Tryz.prog 220 #[.slice a n cap] w fun e w'=>∃ v,e = .returned v/\(n=0->∃ a' c',v = .slice a' 0 c')/\(0 < n->Q1 w' w.heap.size v zs)/\Below w.heap.size w w':=by
 obtain ⟨i0,hi,hz0,hz1,hz2⟩:=info_parts Tryz.info125;have HZ:Hid (zs.length=n):=h.1;cases a with
 | none =>
  have hn0:n=0:=by
   by_cases q:0 < n
   ·obtain ⟨_,_,e,_⟩:=h.2 q;cases e
   ·omega
  subst hn0;clear h;have hq:=fun w=>Go.Lib.run_eql_slice_nil (P:=Tryz.prog) w 68 _ (none:Option Addr) 0 cap 0 0 Tryz.under68
  go_enter Tryz.func220,Tryz.ntmps220;go_wp2;go_ret;exact ⟨_,rfl,fun _=>⟨_,_,rfl⟩,fun q=>by omega,Below.refl _ _⟩
 | some ad =>
  have HC:Hid (∀ j u,(qQ7 zs)[j]? = some u->(w.alloc (.cells #[] 125)).cell? (ad.add j)=some u):=by
   intro j u hu
   have hj:j < zs.length * 8:=by
    rw [<- qV6];by_cases q:j < (qQ7 zs).length
    ·exact q
    ·rw [List.getElem?_eq_none (by omega)] at hu;cases hu
   have hz:=h.1;obtain ⟨b,off,e,hat⟩:=h.2 (by omega);cases e;rw [Go.WideShapes.add_plain];have h1:=QK9 hat j u hu;exact (((Below.refl _ w).alloc (Nat.le_refl _) _).cell (p:=⟨b,off+j,none⟩) (zL w ⟨b,off+j,none⟩ h1)).trans h1
  clear h;have hq:=fun w=>Go.Lib.run_eql_slice_nil (P:=Tryz.prog) w 68 _ (some ad) n cap 0 0 Tryz.under68
  go_enter Tryz.func220,Tryz.ntmps220;go_wp2_with (first | (at_builtin;refine wpList_append_own _ rfl _ _ 68 rfl w.heap.size 125 i0 (.agg #[.int .i64 0,.int .i64 0,.int .i64 0,.int .i64 0,.int .i64 0,.int .i64 0,.int .i64 0,.int .i64 0]) 8 64 Tryz.under68 hi hz0 hz1 hz2 rfl (by decide) (.slice (some ⟨w.heap.size,0,none⟩) 0 0) 0 [] rfl ?c0 ad n cap (qQ7 zs) rfl ?cl ?c1 ?c2 ?c3 ?c4 ?c5 ?_))
  case c0=>exact World.ownsRow_lit w #[] 0 (Nat.le_refl _) (Nat.zero_le _) rfl
  case cl=>rw [qV6,HZ.out]
  case c1=>exact HC.out
  case c2=>exact QP0 zs
  case c3=>unfold maxLen;omega
  case c4=>omega
  case c5=>simp
  ·intro v1 w1 hown hgrow hnil;have hnn:v1 ≠ .slice none 0 0:=by first | exact hnil | simpa using hnil
   have R1:w1.ownsRow w.heap.size 125 8 v1 zs.length (qQ7 zs):=by
    rw [HZ.out];simpa using hown
   have R2:Below w.heap.size w w1:=(zN).grown hgrow (by simp) (fun j hj=>by simp [Value.ownBlock] at hj;omega);have hq:=qDO R1 hnn;have HQ:Hid (Q1 w1 w.heap.size v1 zs):=hq;clear R1 hown hgrow hnil hnn hq;go_wp2;go_ret;refine ⟨v1,rfl,fun q=>?_,fun _=>HQ.out,R2⟩;obtain ⟨g,off,c,e,_⟩:=HQ.out;rw [HZ.out,q] at e;exact ⟨_,_,e⟩
