/- Contracts. -/
import Derived.Test.YtdppdbihhlipeaaGreatDoorPr13
import Derived.Test.YtdppdbihhlipeaaGreatDoorPr29
namespace Go.Proofs.YtdppdbihhlipeaaGreatDoor
set_option maxRecDepth 100000
set_option maxHeartbeats 8000000
open Go.RowKit
set_option linter.unusedVariables false
set_option linter.unusedSimpArgs false

abbrev KR (W W':World):Prop:=(∀ b o,b < W.heap.size->W'.cell? ⟨b,o,none⟩=W.cell? ⟨b,o,none⟩)/\Below W.heap.size W W'
theorem qDj {E:qH1} {cs:List qA4} {c0:qA4} (hE:E.es=cs.map (·.e)) (h0:cs[0]? = some c0) (said:List StI) (e:Int):qB6 E said e=if e=c0.e then 0 else qDb (qI1 said 4 (e - 1)):=by
 unfold qB6;rw [hE]
 have : (cs.map (·.e)).headD 0=c0.e:=by
  cases cs with
  | nil=>cases h0
  | cons x r=>simp at h0;subst h0;rfl
 rw [this]
theorem QN8 (E:qH1) (b:Nat) (r:qL4) (a:Option Addr) (m cap:Nat) (cs:List qA4) (e:Int) (w:World) (hE:E.es=cs.map (·.e)) (hx:qF8 w b r) (h:qN8 w r.sa r.sn r.ss) (hn:r.sn<=1048576) (hc:qA6 w a m cs) (hm:0 < m) (hm8:m<=8) (he:1<=e/\e<=9) :
  Calls Tryz.prog 75 #[.pointer (some ⟨b,0,none⟩),.slice a m cap,.int .i64 e] w fun d w'=>d = .returned (.int .i64 (qB6 E r.ss e))/\Below w.heap.size w w':=by
 obtain ⟨g0,off0,c0,rfl,hc0,hat0,_⟩:=hc.at hm
 rw [qDj hE hc0];have hg0:=hat0.lt;obtain ⟨v0,_⟩:=hat0;simp only [Nat.zero_mul,Nat.add_zero] at v0;clear hc hE hc0;obtain ⟨i,u,sa,n,sc,said,la,ln,lc,ls⟩:=r;simp only at hx h hn ⊢
 have HZ:Hid (said.length=n):=h.1;have H:Hid (qN8 w sa n said):=h;have hbl:=hx.lt;obtain ⟨_,_,x2,_⟩:=hx;have X2:Hid (w.cell? ⟨b,2,none⟩=some (.slice sa n sc)):=x2;clear h x2;have hn':(n:Int)<=1048576:=by omega
 have hm':(0:Int) < (m:Int):=by omega
 by_cases q0:e=c0.e
 ·have b0:(e==c0.e)=true:=by simp [q0]
  rw [if_pos q0];clear q0;go_enter Tryz.func75,Tryz.ntmps75;go_wp2;go_ret;exact ⟨rfl,Below.refl _ _⟩
 ·have b0:(e==c0.e)=false:=by simp [q0]
  rw [if_neg q0];clear q0;obtain ⟨t,ht⟩:∃ t,qI1 said 4 (e - 1)=t:=⟨_,rfl⟩;have HT:Hid (qI1 said 4 (e - 1)=t):=ht;rw [ht];clear ht;obtain ⟨v,hv⟩:∃ v:Int,qDb t=v:=⟨_,rfl⟩;have HV:Hid (qDb t=v):=hv;rw [hv];clear hv;obtain ⟨he1,he9⟩:=he;go_enter Tryz.func75,Tryz.ntmps75;go_wp2;clear v0 b0;go_loopw [7] (fun i wr=>∃ j:Nat,j<=n/\i = .int .i64 (j:Int)/\qI1 (said.drop j) 4 (e - 1)=t/\Below w.heap.size w wr) (fun i _=>n - (intOf i).toNat)
  case atStart=>exact ⟨0,Nat.zero_le _,rfl,HT.out,Below.refl _ _⟩
  case round =>
   obtain ⟨j,hj,rfl,hp,hnx⟩:=hrel;have x2:=(hnx.cell (p:=⟨b,2,none⟩) hbl).trans X2.out;have hbw2:b < wr.heap.size:=Nat.lt_of_lt_of_le hbl hnx.size;by_cases hlt:j < n
   ·obtain ⟨g,off,x,rfl,hs,hxa,hgl⟩:=H.out.at hlt
    rw [QB5 hs] at hp;obtain ⟨y0,y1,y2,y3,y4⟩:=hxa.below hnx hgl;have hbw:g < wr.heap.size:=Nat.lt_of_lt_of_le hgl hnx.size;have hlt':(j:Int) < (n:Int):=by omega
    clear hs hxa;by_cases q1:x.k=4
    ·have b1:(x.k==4)=true:=by simp [q1]
     by_cases q2:x.e=e - 1
     ·have b2:(x.e==e - 1)=true:=by simp [q2]
      rw [if_pos ⟨q1,q2⟩] at hp;have HP:Hid (x.n=v):=by have:=HV.out;rw [<- hp] at this;exact this
      clear hp q1 q2;go_wp2;go_ret;exact ⟨by rw [<- HP.out];rfl,hnx⟩
     ·have b2:(x.e==e - 1)=false:=by simp [q2]
      rw [if_neg (fun q=>q2 q.2)] at hp;have HP:Hid (qI1 (said.drop (j+1)) 4 (e - 1)=t):=hp;clear hp q1 q2;go_wp2;exact ⟨⟨j+1,by omega,by go_num,HP.out,hnx⟩,by simp [intOf];omega⟩
    ·have b1:(x.k==4)=false:=by simp [q1]
     rw [if_neg (fun q=>q1 q.1)] at hp;have HP:Hid (qI1 (said.drop (j+1)) 4 (e - 1)=t):=hp;clear hp q1;go_wp2;exact ⟨⟨j+1,by omega,by go_num,HP.out,hnx⟩,by simp [intOf];omega⟩
   ·have hkn:j=n:=by omega
    subst hkn;rw [List.drop_of_length_le (by rw [HZ.out];exact Nat.le_refl _)] at hp;have HP:Hid ((-1:Int)=v):=by have:=HV.out;rw [<- hp] at this;exact this
    clear hp;go_wp2;go_ret;exact ⟨by rw [<- HP.out];rfl,hnx⟩
theorem qMD {E:qH1} {cs:List qA4} (hE:E.es=cs.map (·.e)) {k:Nat} {c:qA4} (hc:cs[k]? = some c):E.es[k]?.getD 0=c.e:=by
 rw [hE,List.getElem?_map,hc];rfl
theorem qDg (E:qH1) (b:Nat) (r:qL4) (a:Option Addr) (m cap:Nat) (cs:List qA4) (bx:Nat) (x:StI) (w:World) (hE:E.es=cs.map (·.e)) (hr:qF8 w b r) (h:qN8 w r.sa r.sn r.ss) (hn:r.sn<=1048576) (hc:qA6 w a m cs) (hm8:m<=8) (hx:qL3 w bx 0 x) (he:1<=x.e/\x.e<=9) (hxn:0<=x.n/\x.n<=7) :
  Calls Tryz.prog 77 #[.pointer (some ⟨b,0,none⟩),.slice a m cap,.pointer (some ⟨bx,0,none⟩)] w fun d w'=>d = .returned (.int .i64 (qD5 E r.ss x))/\Below w.heap.size w w':=by
 have HK:Hid (∀ w2,KR w w2->Calls Tryz.prog 101 #[.pointer (some ⟨b,0,none⟩),.int .i64 x.k,.int .i64 x.e] w2 fun d w'=>d = .returned (.bool (qQ4 r.ss x.k x.e))/\Below w2.heap.size w2 w'):=fun w2 q=>qDh b r x.k x.e w2 (hr.below q.2) (h.below q.2) hn
 have hbx:bx < w.heap.size:=zL w ⟨bx,0,none⟩ (by simpa using hx.1);have HC:Hid (qA6 w a m cs):=hc;have HL:Hid (E.es.length=m):=by show E.es.length=m;rw [hE,List.length_map];exact hc.len
 have HE:Hid (E.es=cs.map (·.e)):=hE;have HX:Hid (qL3 w bx 0 x):=hx;obtain ⟨x0,x1,x2,x3,x4⟩:=hx;simp only [Nat.zero_add] at x0 x1 x2 x3 x4;clear hr h hc hE x2 x3;have hm':(m:Int)<=8:=by omega
 obtain ⟨he1,he9⟩:=he;obtain ⟨hn0,hn7⟩:=hxn;cases hk:qQ4 r.ss x.k x.e
 ·rw [hk] at HK;by_cases hl:(m:Int)<=x.n
  ·have HV:Hid (qD5 E r.ss x=3):=by show qD5 E r.ss x=3;unfold qD5;rw [if_neg (by rw [hk];simp),if_pos (by rw [HL.out];exact hl)]
   rw [HV.out];clear hk;go_enter Tryz.func77,Tryz.ntmps77;go_upto_region 1 with fail
   go_region_held3 (fun w'=>KR w w') (first | exact hS | exact qC1 _)
    (first | (go_at_call 101;refine (HK.out _ (by assumption)).mono ?_;rintro d w' ⟨rfl,hb2⟩;have hS:=qA9 (by assumption) hb2))
   go_wp2;go_ret;exact ⟨rfl,hS.2⟩
  ·obtain ⟨k,hk'⟩:∃ k:Nat,x.n=(k:Int):=Int.eq_ofNat_of_zero_le hn0;have hkm:k < m:=by omega
   obtain ⟨g,off,c,rfl,hck,hat,_⟩:=HC.out.at hkm
   have hes:=qMD HE.out hck;have hgl:=hat.lt;have HAT:Hid (qI4 w g (off+k * 5) c):=hat;by_cases hce:c.e=x.e+1
   ·have HV:Hid (qD5 E r.ss x=0):=by show qD5 E r.ss x=0;unfold qD5;rw [if_neg (by rw [hk];simp),if_neg (by rw [HL.out];exact hl),hk',Int.toNat_natCast,hes,if_neg (by rw [hce];simp)]
    have hceb:(c.e != x.e+1)=false:=by simp [hce]
    rw [HV.out];rw [hk'] at x4 hl;have HX4:Hid (x.n=(k:Int)):=hk';clear hk hce hck hat hes hk' hn0 hn7;have hl':¬ ((m:Int)<=(k:Int)):=hl;have hlt':(k:Int) < (m:Int):=by omega
    go_enter Tryz.func77,Tryz.ntmps77;go_upto_region 1 with fail
    go_region_held3 (fun w'=>KR w w') (first | exact hS | exact qC1 _)
     (first | (go_at_call 101;refine (HK.out _ (by assumption)).mono ?_;rintro d w' ⟨rfl,hb2⟩;have hS:=qA9 (by assumption) hb2))
    obtain ⟨y0,y1,_⟩:=HAT.out;go_wp2;go_quiet (fail)
    go_wp2;go_ret;exact ⟨rfl,below_drewN hS.2 _⟩
   ·have HV:Hid (qD5 E r.ss x=10):=by show qD5 E r.ss x=10;unfold qD5;rw [if_neg (by rw [hk];simp),if_neg (by rw [HL.out];exact hl),hk',Int.toNat_natCast,hes,if_pos hce]
    have hceb:(c.e != x.e+1)=true:=by simp [hce]
    rw [HV.out];rw [hk'] at x4 hl;have HX4:Hid (x.n=(k:Int)):=hk';clear hk hce hck hat hes hk' hn0 hn7;have hl':¬ ((m:Int)<=(k:Int)):=hl;have hlt':(k:Int) < (m:Int):=by omega
    go_enter Tryz.func77,Tryz.ntmps77;go_upto_region 1 with fail
    go_region_held3 (fun w'=>KR w w') (first | exact hS | exact qC1 _)
     (first | (go_at_call 101;refine (HK.out _ (by assumption)).mono ?_;rintro d w' ⟨rfl,hb2⟩;have hS:=qA9 (by assumption) hb2))
    obtain ⟨y0,y1,_⟩:=HAT.out;go_wp2;go_quiet (fail)
    go_wp2;go_ret;exact ⟨rfl,below_drewN hS.2 _⟩
 ·rw [hk] at HK;have HV:Hid (qD5 E r.ss x=6):=by show qD5 E r.ss x=6;unfold qD5;rw [if_pos hk]
  rw [HV.out];clear hk;go_enter Tryz.func77,Tryz.ntmps77;go_upto_region 1 with fail
  go_region_held3 (fun w'=>KR w w') (first | exact hS | exact qC1 _)
   (first | (go_at_call 101;refine (HK.out _ (by assumption)).mono ?_;rintro d w' ⟨rfl,hb2⟩;have hS:=qA9 (by assumption) hb2))
  go_wp2;go_ret;exact ⟨rfl,hS.2⟩

section
attribute [local go_sem ↓] qFo
theorem qAQ {said:List StI} {x:StI} {k:Nat}:x∈said.take k↔∃ j,j < k/\said[j]? = some x:=by
 rw [List.mem_take_iff_getElem];constructor
 ·rintro ⟨j,hj,e⟩;exact ⟨j,by omega,by rw [List.getElem?_eq_getElem (by omega),e]⟩
 ·rintro ⟨j,hj,e⟩
  have hl:j < said.length:=by
   by_cases q:j < said.length
   ·exact q
   ·rw [List.getElem?_eq_none (by omega)] at e;cases e
  rw [List.getElem?_eq_getElem hl] at e;exact ⟨j,by omega,Option.some.inj e⟩
theorem qEP (a:Option Addr) (n cap:Nat) (zs:List StI) (r:StI) (w:World) (hn:n<=1048576) (h:qN8 w a n zs) :
  Calls Tryz.prog 138 #[.slice a n cap,.agg #[.int .i64 r.k,.int .i64 r.e,.int .i64 r.f,.int .i64 r.s,.int .i64 r.n]] w fun e w'=>(∃ i:Int,e = .returned (.int .i64 i)/\((0<=i/\r∈zs)\/(i = -1/\¬ r∈zs)))/\Below w.heap.size w w':=by
 have hz:Hid (zs.length=n):=h.1;have hn':(n:Int)<=1048576:=by omega
 obtain ⟨w0,hw0⟩:∃ w0,w0=w.alloc (.cells #[.int .i64 r.k,.int .i64 r.e,.int .i64 r.f,.int .i64 r.s,.int .i64 r.n] 85):=⟨_,rfl⟩;have hb0:Below w.heap.size w w0:=by rw [hw0];exact zN
 have hs0:w.heap.size < w0.heap.size:=by rw [hw0];simp
 have HB0:Hid (Below w.heap.size w w0):=hb0;have H:Hid (qN8 w0 a n zs):=h.below hb0;have HY:Hid (qL3 w0 w.heap.size 0 r):=by rw [hw0];exact qL3.new w r _
 clear h hb0;go_enter Tryz.func138,Tryz.ntmps138;go_wp2;rw [<- hw0];clear hw0;go_loopw [8] (fun i wr=>∃ k:Nat,k<=n/\i = .int .i64 (k:Int)/\¬ r∈zs.take k/\Below w0.heap.size w0 wr) (fun i _=>n - (intOf i).toNat)
 case atStart=>exact ⟨0,Nat.zero_le _,rfl,by simp,Below.refl _ _⟩
 case round =>
  obtain ⟨k,hk,rfl,hm,hnx⟩:=hrel;have HM:Hid (¬ r∈zs.take k):=hm;have BN:Hid (Below w.heap.size w wr):=HB0.out.trans (hnx.mono (by omega));clear hm;by_cases hlt:k < n
  ·obtain ⟨g,off,x,rfl,hs,hxa,hgl⟩:=H.out.at hlt
   have HS:Hid (zs[k]? = some x):=hs;obtain ⟨g0,g1,g2,g3,g4⟩:=hxa.below hnx hgl;obtain ⟨y0,y1,y2,y3,y4⟩:=HY.out.below hnx hs0;simp only [Nat.zero_add] at y0 y1 y2 y3 y4;have hbw:g < wr.heap.size:=Nat.lt_of_lt_of_le hgl hnx.size;have hyw:w.heap.size < wr.heap.size:=Nat.lt_of_lt_of_le hs0 hnx.size;have hlt':(k:Int) < (n:Int):=by omega
   clear hs hxa;cases hsame:qP0 r x
   ·have HN:Hid (¬ r∈zs.take (k+1)):=by
     show ¬ r∈zs.take (k+1)
     rw [qAQ];rintro ⟨j,hj,hjs⟩;by_cases e:j=k
     ·subst e;rw [HS.out] at hjs;simp [qP0] at hsame;exact hsame (Option.some.inj hjs).symm
     ·exact HM.out (qAQ.2 ⟨j,by omega,hjs⟩)
    go_wp2;go_quiet (fail)
    go_wp2;exact ⟨⟨k+1,by omega,by go_num,HN.out,below_drewN hnx _⟩,by simp [intOf];omega⟩
   ·have HI:Hid (r∈zs):=by
     show r∈zs
     simp [qP0] at hsame;subst hsame;exact List.mem_of_getElem? HS.out
    go_wp2;go_quiet (fail)
    go_wp2;go_ret;exact ⟨⟨_,rfl,Or.inl ⟨by omega,HI.out⟩⟩,below_drewN BN.out _⟩
  ·have hkn:k=n:=by omega
   subst hkn
   have HN:Hid (¬ r∈zs):=by
    have:=HM.out;rw [List.take_of_length_le (by rw [hz.out];exact Nat.le_refl _)] at this;exact this
   go_wp2;go_ret;exact ⟨⟨_,rfl,Or.inr ⟨rfl,HN.out⟩⟩,BN.out⟩
theorem qF6 (a:Option Addr) (n cap:Nat) (zs:List StI) (r:StI) (w:World) (hn:n<=1048576) (h:qN8 w a n zs) :
  Calls Tryz.prog 108 #[.slice a n cap,.agg #[.int .i64 r.k,.int .i64 r.e,.int .i64 r.f,.int .i64 r.s,.int .i64 r.n]] w fun e w'=>e = .returned (.bool (qD9 zs r))/\Below w.heap.size w w':=by
 have H:Hid (qN8 (w.alloc (.cells #[.int .i64 r.k,.int .i64 r.e,.int .i64 r.f,.int .i64 r.s,.int .i64 r.n] 85)) a n zs):=h.below (zN);clear h;go_enter Tryz.func108,Tryz.ntmps108;go_wp2_with fail
 refine (qEP a n cap zs r _ hn H.out).mono ?_;rintro e w1 ⟨⟨i,rfl,hi⟩,hb1⟩
 have HX:Hid (decide (0<=i)=qD9 zs r):=by
  show decide (0<=i)=qD9 zs r
  cases q:qD9 zs r
  ·have hq:¬ r∈zs:=fun m=>by rw [qAF.2 m] at q;cases q
   rcases hi with ⟨_,h2⟩ | ⟨rfl,_⟩
   ·exact absurd h2 hq
   ·rfl
  ·have hq:=qAF.1 q;rcases hi with ⟨h1,_⟩ | ⟨_,h2⟩
   ·simp [h1]
   ·exact absurd hq h2
 clear hi;go_wp2;go_ret;exact ⟨by rw [HX.out];rfl,qC8 hb1⟩
structure qX8 (w:World) (b:Nat) (cv sv lv:Value):Prop where
 c0:w.cell? ⟨b,0,none⟩=some cv
 c1:w.cell? ⟨b,1,none⟩=some sv
 c2:w.cell? ⟨b,2,none⟩=some lv
 fz:∀ j,w.frozen? ⟨b,j,none⟩=false
theorem qX8.lt {w:World} {b:Nat} {cv sv lv:Value} (h:qX8 w b cv sv lv):b < w.heap.size:=zL w ⟨b,0,none⟩ h.c0
theorem qX8.below {w w':World} {b:Nat} {cv sv lv:Value} (h:qX8 w b cv sv lv) (hb:Below w.heap.size w w'):qX8 w' b cv sv lv :=
 ⟨(hb.cell (p:=⟨b,0,none⟩) h.lt).trans h.c0,(hb.cell (p:=⟨b,1,none⟩) h.lt).trans h.c1,(hb.cell (p:=⟨b,2,none⟩) h.lt).trans h.c2,fun j=>(hb.frozen (p:=⟨b,j,none⟩) h.lt).trans (h.fz j)⟩
theorem qAm (b:Nat) (cv lv:Value) (sa:Option Addr) (n sc:Nat) (said:List StI) (x:StI) (w:World) (hs:qX8 w b cv (.slice sa n sc) lv) (hn:n<=1048576) (h:qN8 w sa n said) :
  Calls Tryz.prog 141 #[.pointer (some ⟨b,0,none⟩),.agg #[.int .i64 x.k,.int .i64 x.e,.int .i64 x.f,.int .i64 x.s,.int .i64 x.n]] w fun d w'=>d = .returned (.bool (qD9 said (qS3 x)))/\Below w.heap.size w w':=by
 obtain ⟨V,hV⟩:∃ V,V=w.alloc (.cells #[.int .i64 x.k,.int .i64 x.e,.int .i64 x.f,.int .i64 x.s,.int .i64 x.n] 85):=⟨_,rfl⟩;have B0:Below w.heap.size w V:=by rw [hV];exact zN
 have HX:qL3 V w.heap.size 0 x:=by rw [hV];exact qL3.new w x _
 have hwl:w.heap.size < V.heap.size:=by rw [hV];simp
 have hS:=hs.below B0;have hbl:=hS.lt;have c1:=hS.c1;have HC:Hid (∀ w2,KR V w2->Calls Tryz.prog 108 #[.slice sa n sc,.agg #[.int .i64 2,.int .i64 x.e,.int .i64 x.f,.int .i64 x.s,.int .i64 0]] w2 fun e w'=>e = .returned (.bool (qD9 said (qS3 x)))/\Below w2.heap.size w2 w'):=fun w2 q=>qF6 sa n sc said (qS3 x) w2 hn ((h.below B0).below q.2)
 obtain ⟨x0,x1,x2,x3,x4⟩:=HX;simp only [Nat.zero_add] at x0 x1 x2 x3 x4;clear h hs hS;go_enter Tryz.func141,Tryz.ntmps141;go_upto_region 1 with fail
 rw [<- hV];clear hV
 go_region_held3 (fun w'=>KR V w') (first | exact hS | exact qC1 _)
  (first | (go_at_call 169;refine (qEW x _).mono ?_;rintro d w' ⟨rfl,hb2⟩;have hS:=qA9 (by assumption) hb2) | (go_at_call 108;refine (HC.out _ (by assumption)).mono ?_;rintro d w' ⟨rfl,hb2⟩;have hS:=qA9 (by assumption) hb2))
 go_wp2;go_ret;exact ⟨rfl,B0.trans (hS.2.mono B0.size)⟩
end

def QE6 (cs:List qA4) (p:Int) (d:Ending):Prop:=(p < 0->d = .returned (.tuple #[.agg #[.int .i64 0,.int .i64 0,.slice none 0 0,.slice none 0 0,.slice none 0 0],.bool false]))/\(∀ c,0<=p->cs[p.toNat]? = some c->d = .returned (.tuple #[.agg #[.int .i64 c.e,.int .i64 c.f,.slice c.ra c.rn c.rc,.slice c.fa c.fn c.fc,.slice c.ca c.cn c.cc],.bool true]))
theorem qM7 (E:qH1) (b:Nat) (lv:Value) (sa:Option Addr) (n sc:Nat) (said:List StI) (a:Option Addr) (m cap:Nat) (cs:List qA4) (e:Int) (w:World) (hE:E.es=cs.map (·.e)) (hs:qX8 w b (.slice a m cap) (.slice sa n sc) lv) (h:qN8 w sa n said) (hn:n<=1048576) (hc:qA6 w a m cs) (hm:0 < m) (hm8:m<=8) (he:1<=e/\e<=9) (hk:∀ x∈said,x.k=4->0<=x.n/\x.n < (m:Int)) :
  Calls Tryz.prog 110 #[.pointer (some ⟨b,0,none⟩),.int .i64 e] w fun d w'=>QE6 cs (qB6 E said e) d/\Below w.heap.size w w':=by
 obtain ⟨g0,off0,c0,rfl,hc0,hat0,_⟩:=hc.at hm
 rw [qDj hE hc0];obtain ⟨V,hV⟩:∃ V,V=w.alloc (.cells #[.int .i64 0,.int .i64 0,.slice none 0 0,.slice none 0 0,.slice none 0 0] 71):=⟨_,rfl⟩;have HV:Hid (V=w.alloc (.cells #[.int .i64 0,.int .i64 0,.slice none 0 0,.slice none 0 0,.slice none 0 0] 71)):=hV;have B0:Below w.heap.size w V:=by rw [hV];exact zN
 have hwl:w.heap.size < V.heap.size:=by rw [hV];simp
 have R0:Hid ((V.cell? ⟨w.heap.size,0,none⟩=some (.int .i64 0)/\V.cell? ⟨w.heap.size,1,none⟩=some (.int .i64 0)/\V.cell? ⟨w.heap.size,2,none⟩=some (.slice none 0 0)/\V.cell? ⟨w.heap.size,3,none⟩=some (.slice none 0 0)/\V.cell? ⟨w.heap.size,4,none⟩=some (.slice none 0 0))/\∀ j,V.frozen? ⟨w.heap.size,j,none⟩=false):=by rw [hV];exact ⟨⟨by simp,by simp,by simp,by simp,by simp⟩,fun j=>by simp [go_sem]⟩
 have hS:=hs.below B0;have hSw:=hS.lt;have hbw:b < w.heap.size:=hs.lt;have HS:Hid (qX8 V b (.slice (some ⟨g0,off0,none⟩) m cap) (.slice sa n sc) lv):=hS;have c0':=hs.c0;have c1':=hs.c1;have hat:=hat0;have hg0:=hat.lt;have hg0w:g0 < w.heap.size:=hat0.lt;obtain ⟨v0,v1,v2,v3,v4⟩:=hat;simp only [Nat.zero_mul,Nat.add_zero] at v0 v1 v2 v3 v4;have HC:Hid (qA6 V (some ⟨g0,off0,none⟩) m cs):=hc.below B0;have HST:Hid (qN8 V sa n said):=h.below B0;have HB0:Hid (Below w.heap.size w V):=B0;have HC0:Hid (cs[0]? = some c0):=hc0;have HKN:Hid (∀ x∈said,x.k=4->0<=x.n/\x.n < (m:Int)):=hk;have hm':(0:Int) < (m:Int):=by omega
 clear hS hs h hc hat0 hE hc0 hk hV B0;by_cases q0:e=c0.e
 ·have b0:(e==c0.e)=true:=by simp [q0]
  rw [if_pos q0];clear q0;obtain ⟨⟨r0,r1,r2,r3,r4⟩,rf⟩:=R0.out;have f0:=rf 0;have f1:=rf 1;have f2:=rf 2;have f3:=rf 3;have f4:=rf 4;clear rf;have hne:g0≠w.heap.size:=by omega
  go_enter Tryz.func110,Tryz.ntmps110;go_wp2_with fail
  refine bodyPost_ret (v:=.tuple #[.agg #[.int .i64 c0.e,.int .i64 c0.f,.slice c0.ra c0.rn c0.rc,.slice c0.fa c0.fn c0.fc,.slice c0.ca c0.cn c0.cc],.bool true]) (by simp [results,Tryz.results110,go_sem,r0,r1,r2,r3,r4]) rfl ⟨⟨fun q=>by omega,fun c _ hc=>?_⟩,?_⟩
  ·rw [show ((0:Int)).toNat=0 by rfl,HC0.out] at hc;cases hc;rfl
  ·exact zN
 ·have b0:(e==c0.e)=false:=by simp [q0]
  rw [if_neg q0];clear q0 v1 v2 v3 v4;obtain ⟨he1,he9⟩:=he;go_enter Tryz.func110,Tryz.ntmps110;go_wp2_with fail
  rw [<- HV.out];refine (QV6 sa n sc said 4 (e - 1) _ hn HST.out).mono ?_;rintro d w1 ⟨⟨i,rfl,hi⟩,hb1⟩;have B1:Hid (Below w.heap.size w w1):=HB0.out.trans (hb1.mono HB0.out.size);have hz1:=hb1.size;have hwl1:w.heap.size < w1.heap.size:=by omega
  have R1:(w1.cell? ⟨w.heap.size,0,none⟩=some (.int .i64 0)/\w1.cell? ⟨w.heap.size,1,none⟩=some (.int .i64 0)/\w1.cell? ⟨w.heap.size,2,none⟩=some (.slice none 0 0)/\w1.cell? ⟨w.heap.size,3,none⟩=some (.slice none 0 0)/\w1.cell? ⟨w.heap.size,4,none⟩=some (.slice none 0 0))/\∀ j,w1.frozen? ⟨w.heap.size,j,none⟩=false:=by
   obtain ⟨⟨r0,r1,r2,r3,r4⟩,rf⟩:=R0.out;exact ⟨⟨(hb1.cell (p:=⟨w.heap.size,0,none⟩) hwl).trans r0,(hb1.cell (p:=⟨w.heap.size,1,none⟩) hwl).trans r1,(hb1.cell (p:=⟨w.heap.size,2,none⟩) hwl).trans r2,(hb1.cell (p:=⟨w.heap.size,3,none⟩) hwl).trans r3,(hb1.cell (p:=⟨w.heap.size,4,none⟩) hwl).trans r4⟩,fun j=>(hb1.frozen (p:=⟨w.heap.size,j,none⟩) hwl).trans (rf j)⟩
  obtain ⟨⟨r0,r1,r2,r3,r4⟩,rf⟩:=R1;have f0:=rf 0;have f1:=rf 1;have f2:=rf 2;have f3:=rf 3;have f4:=rf 4;have S1:=HS.out.below hb1;have s0:=S1.c0;have s1:=S1.c1;have hSw1:=S1.lt;have HC1:Hid (qA6 w1 (some ⟨g0,off0,none⟩) m cs):=HC.out.below hb1;have HST1:Hid (qN8 w1 sa n said):=HST.out.below hb1;clear rf S1 hb1 R0 HS HC HST c0' c1' v0 hSw;rcases hi with ⟨rfl,hno⟩ | ⟨j,x,rfl,hj,hat⟩
  ·have HNO:Hid (qI1 said 4 (e - 1)=none):=hno;clear hno;go_wp2_with fail
   rw [HNO.out];refine bodyPost_ret (v:=.tuple #[.agg #[.int .i64 0,.int .i64 0,.slice none 0 0,.slice none 0 0,.slice none 0 0],.bool false]) (by simp [results,Tryz.results110,go_sem,r0,r1,r2,r3,r4]) rfl ⟨⟨fun q=>rfl,fun c q _=>by have h0:(0:Int) <= -1:=q;omega⟩,?_⟩;exact B1.out.setCell (Nat.le_refl _) _ |>.setCell (Nat.le_refl _) _ |>.setCell (Nat.le_refl _) _ |>.setCell (Nat.le_refl _) _ |>.setCell (Nat.le_refl _) _
  ·have HAT:Hid (qI1 said 4 (e - 1)=some x):=hat
   have hjn:j < n:=by
    have:=HST1.out.1;by_cases q:j < said.length
    ·omega
    ·rw [List.getElem?_eq_none (by omega)] at hj;cases hj
   have hp:=List.find?_some hat;simp only [Bool.and_eq_true,decide_eq_true_eq] at hp;have hxn:=HKN.out x (List.mem_of_getElem? hj) hp.1;obtain ⟨k,hk⟩:∃ k:Nat,x.n=(k:Int):=Int.eq_ofNat_of_zero_le hxn.1;have hkm:k < m:=by omega
   obtain ⟨gs,os,x',rfl,hx',hxa,hgs⟩:=HST1.out.at hjn
   rw [hj] at hx';cases hx';obtain ⟨g,off,c,e',hck,hca,_⟩:=HC1.out.at hkm
   cases e';have hgc:=hca.lt;have y4:=hxa.2.2.2.2;rw [hk] at y4;obtain ⟨u0,u1,u2,u3,u4⟩:=hca;have hjn':(j:Int) < (n:Int):=by omega
   have hkm':(k:Int) < (m:Int):=by omega
   have hn':(n:Int)<=1048576:=by omega
   have HCK:Hid (cs[k]? = some c):=hck;have HXK:Hid (x.n=(k:Int)):=hk;have hgne:g0≠w.heap.size:=by omega
   clear hat hj hp hxn hk hxa hck;go_upto_region 6 with fail
   go_region
   go_wp2_with fail
   rw [HAT.out];refine bodyPost_ret (v:=.tuple #[.agg #[.int .i64 c.e,.int .i64 c.f,.slice c.ra c.rn c.rc,.slice c.fa c.fn c.fc,.slice c.ca c.cn c.cc],.bool true]) (by simp [results,Tryz.results110,go_sem,r0,r1,r2,r3,r4]) rfl ⟨⟨fun q=>by have h0:x.n < 0:=q;have:=HXK.out;omega,fun c' _ hc=>?_⟩,?_⟩
   ·have h0:cs[x.n.toNat]? = some c':=hc;rw [HXK.out,Int.toNat_natCast,HCK.out] at h0;cases h0;rfl
   ·exact (B1.out.setCell (Nat.le_refl _) _ |>.setCell (Nat.le_refl _) _ |>.setCell (Nat.le_refl _) _ |>.setCell (Nat.le_refl _) _ |>.setCell (Nat.le_refl _) _).drew

theorem qKe {E:qH1} {cs:List qA4} {said:List StI} {x:StI} (hE:E.es=cs.map (·.e)) (hn:0<=x.n) (hk:qQ4 said x.k x.e=false):qD5 E said x=nfC cs x.e x.n:=by
 have hl:E.es.length=cs.length:=by rw [hE,List.length_map]
 have hl:E.es.length=cs.length:=hl;by_cases h1:(cs.length:Int)<=x.n
 ·have e1:nfC cs x.e x.n=3:=by unfold nfC;rw [if_pos (.inr h1)]
  rw [e1];unfold qD5;rw [if_neg (by rw [hk];simp),if_pos (by rw [hl];exact h1)]
 ·have e2:nfC cs x.e x.n=if (cs[x.n.toNat]?.getD default).e≠x.e+1 then 10 else 0:=by unfold nfC;rw [if_neg (by omega)]
  have hlt:x.n.toNat < cs.length:=by omega
  have hc:cs[x.n.toNat]? = some cs[x.n.toNat]:=List.getElem?_eq_getElem hlt;rw [e2];unfold qD5;rw [if_neg (by rw [hk];simp),if_neg (by rw [hl];exact h1),qMD hE hc,hc];rfl
theorem qJa (E:qH1) (b:Nat) (lv:Value) (sa:Option Addr) (n sc:Nat) (said:List StI) (a:Option Addr) (m cap:Nat) (cs:List qA4) (x:StI) (w:World) (hE:E.es=cs.map (·.e)) (hs:qX8 w b (.slice a m cap) (.slice sa n sc) lv) (h:qN8 w sa n said) (hn:n<=1048576) (hc:qA6 w a m cs) (hm8:m<=8) (he:1<=x.e/\x.e<=9) (hxn:0<=x.n/\x.n<=7) :
  Calls Tryz.prog 112 #[.pointer (some ⟨b,0,none⟩),.agg #[.int .i64 x.k,.int .i64 x.e,.int .i64 x.f,.int .i64 x.s,.int .i64 x.n]] w fun d w'=>d = .returned (.int .i64 (qD5 E said x))/\Below w.heap.size w w':=by
 obtain ⟨V,hV⟩:∃ V,V=w.alloc (.cells #[.int .i64 x.k,.int .i64 x.e,.int .i64 x.f,.int .i64 x.s,.int .i64 x.n] 85):=⟨_,rfl⟩;have HV:Hid (V=w.alloc (.cells #[.int .i64 x.k,.int .i64 x.e,.int .i64 x.f,.int .i64 x.s,.int .i64 x.n] 85)):=hV;have B0:Below w.heap.size w V:=by rw [hV];exact zN
 have hwl:w.heap.size < V.heap.size:=by rw [hV];simp
 have HX:qL3 V w.heap.size 0 x:=by rw [hV];exact qL3.new w x _
 have hS0:=hs.below B0;have hbl:=hS0.lt;have c0':=hS0.c0;have c1':=hS0.c1;have HSO:Hid (∀ w2,KR V w2->Calls Tryz.prog 139 #[.slice sa n sc,.int .i64 x.k,.int .i64 x.e] w2 fun d w'=>(∃ i:Int,d = .returned (.int .i64 i)/\qZ1 said x.k x.e i)/\Below w2.heap.size w2 w'):=fun w2 q=>QV6 sa n sc said x.k x.e w2 hn ((h.below B0).below q.2)
 have HC1:Hid (qA6 V a m cs):=hc.below B0;have HB0:Hid (Below w.heap.size w V):=B0;have HL:Hid (E.es.length=m):=by show E.es.length=m;rw [hE,List.length_map];exact hc.len
 have HE:Hid (E.es=cs.map (·.e)):=hE;have hm':(m:Int)<=8:=by omega
 obtain ⟨he1,he9⟩:=he;obtain ⟨hn0,hn7⟩:=hxn;obtain ⟨x0,r1,x2,x3,r4⟩:=HX;simp only [Nat.zero_add] at x0 r1 r4;clear hs h hc hE B0 hS0 x2 x3;obtain ⟨v,hv⟩:∃ v,qD5 E said x=v:=⟨_,rfl⟩;have HVE:Hid (qD5 E said x=v):=hv;rw [hv];clear hv;go_enter Tryz.func112,Tryz.ntmps112;go_upto_region 1 with fail
 rw [<- hV];clear hV HV
 go_region_held3 (fun w'=>KR V w') (first | exact hS | exact qC1 _)
  (first | (go_at_call 139;refine (HSO.out _ (by assumption)).mono ?_;rintro d w' ⟨⟨i,rfl,hi⟩,hb2⟩;have hS:=qA9 (by assumption) hb2))
 have hsl:=QJ3 hi;by_cases hi0:0<=i
 ·have HV':Hid (v=6):=by show v=6;rw [<- HVE.out];unfold qD5;rw [if_pos (by rw [<- hsl];exact decide_eq_true hi0)]
  clear hi hsl;go_wp2_with fail
  go_ret;exact ⟨by rw [HV'.out];rfl,HB0.out.trans (hS.2.mono HB0.out.size)⟩
 ·have hkf:qQ4 said x.k x.e=false:=by rw [<- hsl];exact decide_eq_false hi0
  clear hi hsl
  have HNF:Hid (∀ w2,KR V w2->Calls Tryz.prog 144 #[.slice a m cap,.int .i64 x.e,.int .i64 x.n] w2 fun d w'=>d = .returned (.int .i64 v)/\Below w2.heap.size w2 w'):=fun w2 q=>by
   rw [<- HVE.out,qKe HE.out hn0 hkf];exact qBz a m cap cs x.e x.n w2 (by omega) ⟨by omega,by omega⟩ (HC1.out.below q.2)
  clear hkf;go_wp2_with fail
  go_region_held3 (fun w'=>KR V w') (first | exact hS | exact qA9 hS (Below.refl _ _).drew | exact qC1 _)
   (first | (go_at_call 144;refine (HNF.out _ (by assumption)).mono ?_;rintro d w' ⟨rfl,hb2⟩;have hS:=qA9 (by assumption) hb2))
  go_wp2_with fail
  go_ret;exact ⟨rfl,HB0.out.trans (hS.2.mono HB0.out.size)⟩
