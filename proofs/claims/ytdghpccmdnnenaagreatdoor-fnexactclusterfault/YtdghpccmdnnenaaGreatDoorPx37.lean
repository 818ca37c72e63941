/- Contracts. -/
import Derived.Test.YtdghpccmdnnenaaGreatDoorPx36
import Derived.Test.YtdghpccmdnnenaaGreatDoorPx26
namespace Go.Proofs.YtdghpccmdnnenaaGreatDoor
set_option maxRecDepth 100000
set_option maxHeartbeats 8000000
open Go.RowKit Go.Proofs.Tryz
set_option linter.unusedVariables false
set_option linter.unusedSimpArgs false
section
theorem QK6{z:Int}(h0:0<=z)(h1:z<=1000):IntKind.i64.wrap z=z:=by rw[kG];omega
theorem qCz{w5:World}{B q:Nat}{la:Option Addr}{lc:Nat}{ls:List LkI}(h:qB2 w5 B (.slice la ls.length lc) ls)(hq:q<B)(v0 v1 v2 v3:Value):qJ9 ((((w5.setCell ⟨q,0,none⟩ v0).setCell ⟨q,1,none⟩ v1).setCell ⟨q,2,none⟩ v2).setCell ⟨q,3,none⟩ v3) la ls.length ls:=by
 refine LkV.isIn rfl (qB2.view (B:=B) (cap:=lc) (qA4 h (fun g e=>?_)));obtain⟨cur,hcc,hgg⟩:=qD8 h e;rw[zS (by show g≠q;omega),zS (by show g≠q;omega),zS (by show g≠q;omega),zS (by show g≠q;omega)]
attribute [local go_sem ↓] qFI
theorem qDb(E:qH3)(b ob:Nat)(r:qD2)(a:Option Addr)(m cap:Nat)(cs:List qA5)(w:World)(hb:qI2 w b ob r)(hr:qE7 w r)(hle:qH2 1048576 r)(hc:qA7 w a m cs)(hcl:qG4 1048576 cs)(hm:m<=1048576)(k:Int)(hk:qB1 cs=k)(hk0:k≠0):
  CP 82 #[.pointer (some ⟨b,ob,none⟩),.slice a m cap] w fun d w'=>d=.returned (iv k)/\Below w.heap.size w w':=by
 have hsn:=hle.said;have hln:=hle.locks;have hsn':(r.sn:Int)<=1048576:=by omega
 have hln':(r.ln:Int)<=1048576:=by omega
 have HCF:Hid (CP 79 #[.slice a m cap] w fun e w'=>e=.returned (iv k)/\Below w.heap.size w w'):=by show Calls _ _ _ _ _;rw[<- hk];exact qK0 a m cap cs w hm hcl hc
 have HB:Hid (∀W,Below w.heap.size w W->qI2 W b ob r/\qE7 W r/\qA7 W a m cs):=fun W q=>⟨hb.below q,hr.below q,hc.below q⟩
 have hbl:b<w.heap.size:=hb.lt;have kb:(k != 0)=true:=by simp[hk0]
 clear hb hr hc hcl hk hle;go_enter func82,ntmps82;go_wp2_with fail
 refine HCF.out.mono ?_;rintro d w1 ⟨rfl,hb1⟩;have B1:=qB4 hb1;clear hb1 HCF;go_wp2_with fail
 go_ret;exact⟨rfl,B1.out⟩
theorem qIo(E:qH3)(b ob:Nat)(r:qD2)(a:Option Addr)(m cap:Nat)(cs:List qA5)(w:World)(hb:qI2 w b ob r)(hr:qE7 w r)(hle:qH2 1048576 r)(hc:qA7 w a m cs)(hcl:qG4 1048576 cs)(hm:m<=1048576)(hk:qB1 cs=0)(h1':inR r.i 1 (3*f0C cs+1)=false):
  CP 82 #[.pointer (some ⟨b,ob,none⟩),.slice a m cap] w fun d w'=>d=.returned (iv 3)/\Below w.heap.size w w':=by
 have hsn:=hle.said;have hln:=hle.locks;have hsn':(r.sn:Int)<=1048576:=by omega
 have hln':(r.ln:Int)<=1048576:=by omega
 have HCF:Hid (CP 79 #[.slice a m cap] w fun e w'=>e=.returned (iv 0)/\Below w.heap.size w w'):=by show Calls _ _ _ _ _;rw[<- hk];exact qK0 a m cap cs w hm hcl hc
 have HB:Hid (∀W,Below w.heap.size w W->qI2 W b ob r/\qE7 W r/\qA7 W a m cs):=fun W q=>⟨hb.below q,hr.below q,hc.below q⟩
 have hbl:b<w.heap.size:=hb.lt;obtain⟨hm1,hm8,hok⟩:=qT1 hk;have hml:cs.length=m:=hc.len;have hm0:0<m:=by omega
 have hm0':(0:Int)<(m:Int):=by omega
 obtain⟨g,off,c0,rfl,hc0,hat,_⟩:=hc.at hm0
 obtain⟨v0,v1,v2,v3,v4⟩:=hat;simp only[kJ,jS]at v0 v1 v2 v3 v4;have hgl:g<w.heap.size:=zL w _ v0;have hf0:f0C cs=c0.f:=by unfold f0C;rw[hc0];rfl
 have hff:1<=c0.f/\c0.f<=2:=qEy (hok 0 c0 hc0).1;have hw1:IntKind.i64.wrap (3*c0.f)=3*c0.f:=QK6 (by omega) (by omega);have hw2:IntKind.i64.wrap (3*c0.f+1)=3*c0.f+1:=QK6 (by omega) (by omega);have V1:Hid (∀W:World,Below w.heap.size w W->W.cell? ⟨g,off+1,none⟩=some (iv c0.f)):=fun W hb=>(hb.cell (p:=⟨g,off+1,none⟩) hgl).trans v1
 have h1:inR r.i 1 (3*c0.f+1)=false:=by rw[<- hf0];exact h1'
 have HI1:Hid (∀W:World,CP 109 #[iv r.i,iv 1,iv (3*c0.f+1)] W fun e w'=>e=.returned (.bool false)/\Below W.heap.size W w'):=fun W=>by
  have q:=qN6 r.i 1 (3*c0.f+1) W;rw[show (decide (1<=r.i)&&decide (r.i<=3*c0.f+1))=false from h1]at q;exact q.mono fun e w' h=>⟨h.1,by rw[<- h.2];exact gC _ _⟩
 clear h1 h1' hf0;clear hok v0 v1 v2 v3 v4 hc0 hff hml;clear hb hr hc hcl hk hle;go_enter func82,ntmps82;go_wp2_with fail
 refine HCF.out.mono ?_;rintro d w1 ⟨rfl,hb1⟩;have B1:=qB4 hb1;clear hb1 HCF;obtain⟨x0,x1,x2,x3⟩:=(HB.out _ B1.out).1;have y1:=V1.out _ B1.out;have hbl1:b<w1.heap.size:=gD hbl B1.out.size;have hgl1:g<w1.heap.size:=gD hgl B1.out.size;go_upto_region 4 with fail
 refine gL (S:=fun w'=>(∀b o,b<w1.heap.size->w'.cell? ⟨b,o,none⟩=w1.cell? ⟨b,o,none⟩)/\Below w1.heap.size w1 w') (by kernel_rfl) (qA8 _) (fun hHeld=>?_);refine Zk.go [0,1,2,3,4,5,6,7,8,9] ?_
 iterate 10
  refine Zk.st (v:=?_) rfl ?_ ?_;rotate_left 1
  .intro w hSw;(try dsimp only at hSw);go_simp;try (with_reducible rfl)
  try simp only[Act.put,zA,zB,zC,zD,zE,zF]
 refine Zk.fin ?_;refine Zk.rd (i:=10) rfl (fun K hK=>?_);go_simp;refine (HI1.out _).mono ?_;rintro d w2 ⟨rfl,hb2⟩;have hS:=qA0 hHeld hb2;refine hK.out _ _ hS (fun hHeld=>?_);clear hK K;try simp only[Act.put,zA,zB,zC,zD,zE,zF]
 refine Zk.go [11,12,13,14,15,16,17,18,19,20,21,22,23,24] ?_
 iterate 2
  refine Zk.st (v:=?_) rfl ?_ ?_;rotate_left 1
  .intro w hSw;(try dsimp only at hSw);go_simp;try (with_reducible rfl)
  try simp only[Act.put,zA,zB,zC,zD,zE,zF]
 iterate 11 (refine Zk.un rfl ?_;try simp only[Act.put,zA,zB,zC,zD,zE,zF])
 refine Zk.st (v:=?_) rfl ?_ ?_;rotate_left 1
 .intro w hSw;(try dsimp only at hSw);go_simp;try (with_reducible rfl)
 try simp only[Act.put,zA,zB,zC,zD,zE,zF]
 refine Zk.fin ?_;refine gZ (by kernel_rfl) ?_ _;go_wp2_with fail
 go_ret;exact⟨rfl,B1.out.trans (hHeld.2.mono B1.out.size)⟩
theorem qDY(E:qH3)(b ob:Nat)(r:qD2)(a:Option Addr)(m cap:Nat)(cs:List qA5)(w:World)(hb:qI2 w b ob r)(hr:qE7 w r)(hle:qH2 1048576 r)(hc:qA7 w a m cs)(hcl:qG4 1048576 cs)(hm:m<=1048576)(hk:qB1 cs=0)(h1':inR r.i 1 (3*f0C cs+1)=true)(h2:inR r.u 0 (r.sn:Int)=false):
  CP 82 #[.pointer (some ⟨b,ob,none⟩),.slice a m cap] w fun d w'=>d=.returned (iv 3)/\Below w.heap.size w w':=by
 have hsn:=hle.said;have hln:=hle.locks;have hsn':(r.sn:Int)<=1048576:=by omega
 have hln':(r.ln:Int)<=1048576:=by omega
 have HCF:Hid (CP 79 #[.slice a m cap] w fun e w'=>e=.returned (iv 0)/\Below w.heap.size w w'):=by show Calls _ _ _ _ _;rw[<- hk];exact qK0 a m cap cs w hm hcl hc
 have HB:Hid (∀W,Below w.heap.size w W->qI2 W b ob r/\qE7 W r/\qA7 W a m cs):=fun W q=>⟨hb.below q,hr.below q,hc.below q⟩
 have hbl:b<w.heap.size:=hb.lt;obtain⟨hm1,hm8,hok⟩:=qT1 hk;have hml:cs.length=m:=hc.len;have hm0:0<m:=by omega
 have hm0':(0:Int)<(m:Int):=by omega
 obtain⟨g,off,c0,rfl,hc0,hat,_⟩:=hc.at hm0
 obtain⟨v0,v1,v2,v3,v4⟩:=hat;simp only[kJ,jS]at v0 v1 v2 v3 v4;have hgl:g<w.heap.size:=zL w _ v0;have hf0:f0C cs=c0.f:=by unfold f0C;rw[hc0];rfl
 have hff:1<=c0.f/\c0.f<=2:=qEy (hok 0 c0 hc0).1;have hw1:IntKind.i64.wrap (3*c0.f)=3*c0.f:=QK6 (by omega) (by omega);have hw2:IntKind.i64.wrap (3*c0.f+1)=3*c0.f+1:=QK6 (by omega) (by omega);have V1:Hid (∀W:World,Below w.heap.size w W->W.cell? ⟨g,off+1,none⟩=some (iv c0.f)):=fun W hb=>(hb.cell (p:=⟨g,off+1,none⟩) hgl).trans v1
 have h1:inR r.i 1 (3*c0.f+1)=true:=by rw[<- hf0];exact h1'
 have HI1:Hid (∀W:World,CP 109 #[iv r.i,iv 1,iv (3*c0.f+1)] W fun e w'=>e=.returned (.bool true)/\Below W.heap.size W w'):=fun W=>by
  have q:=qN6 r.i 1 (3*c0.f+1) W;rw[show (decide (1<=r.i)&&decide (r.i<=3*c0.f+1))=true from h1]at q;exact q.mono fun e w' h=>⟨h.1,by rw[<- h.2];exact gC _ _⟩
 have HI2:Hid (∀W:World,CP 109 #[iv r.u,iv 0,iv (r.sn:Int)] W fun e w'=>e=.returned (.bool false)/\Below W.heap.size W w'):=fun W=>by
  have q:=qN6 r.u 0 (r.sn:Int) W;rw[show (decide (0<=r.u)&&decide (r.u<=(r.sn:Int)))=false from h2]at q;exact q.mono fun e w' h=>⟨h.1,by rw[<- h.2];exact gC _ _⟩
 clear h1 h1' h2 hf0;clear hok v0 v1 v2 v3 v4 hc0 hff hml;clear hb hr hc hcl hk hle;go_enter func82,ntmps82;go_wp2_with fail
 refine HCF.out.mono ?_;rintro d w1 ⟨rfl,hb1⟩;have B1:=qB4 hb1;clear hb1 HCF;obtain⟨x0,x1,x2,x3⟩:=(HB.out _ B1.out).1;have y1:=V1.out _ B1.out;have hbl1:b<w1.heap.size:=gD hbl B1.out.size;have hgl1:g<w1.heap.size:=gD hgl B1.out.size;go_upto_region 4 with fail
 refine gL (S:=fun w'=>(∀b o,b<w1.heap.size->w'.cell? ⟨b,o,none⟩=w1.cell? ⟨b,o,none⟩)/\Below w1.heap.size w1 w') (by kernel_rfl) (qA8 _) (fun hHeld=>?_);refine Zk.go [0,1,2,3,4,5,6,7,8,9] ?_
 iterate 10
  refine Zk.st (v:=?_) rfl ?_ ?_;rotate_left 1
  .intro w hSw;(try dsimp only at hSw);go_simp;try (with_reducible rfl)
  try simp only[Act.put,zA,zB,zC,zD,zE,zF]
 refine Zk.fin ?_;refine Zk.rd (i:=10) rfl (fun K hK=>?_);go_simp;refine (HI1.out _).mono ?_;rintro d w2 ⟨rfl,hb2⟩;have hS:=qA0 hHeld hb2;refine hK.out _ _ hS (fun hHeld=>?_);clear hK K;try simp only[Act.put,zA,zB,zC,zD,zE,zF]
 refine Zk.go [11,12,13,14,15,16,17,18,19,20,21] ?_
 iterate 11
  refine Zk.st (v:=?_) rfl ?_ ?_;rotate_left 1
  .intro w hSw;(try dsimp only at hSw);go_simp;try (with_reducible rfl)
  try simp only[Act.put,zA,zB,zC,zD,zE,zF]
 refine Zk.fin ?_;refine Zk.rd (i:=22) rfl (fun K hK=>?_);go_simp;refine (HI2.out _).mono ?_;rintro d w3 ⟨rfl,hb3⟩;have hS:=qA0 hHeld hb3;refine hK.out _ _ hS (fun hHeld=>?_);clear hK K;try simp only[Act.put,zA,zB,zC,zD,zE,zF]
 refine Zk.go [23,24] ?_
 iterate 2
  refine Zk.st (v:=?_) rfl ?_ ?_;rotate_left 1
  .intro w hSw;(try dsimp only at hSw);go_simp;try (with_reducible rfl)
  try simp only[Act.put,zA,zB,zC,zD,zE,zF]
 refine Zk.fin ?_;refine gZ (by kernel_rfl) ?_ _;go_wp2_with fail
 go_ret;exact⟨rfl,B1.out.trans (hHeld.2.mono B1.out.size)⟩
theorem qDa(E:qH3)(b ob:Nat)(r:qD2)(a:Option Addr)(m cap:Nat)(cs:List qA5)(w:World)(hb:qI2 w b ob r)(hr:qE7 w r)(hle:qH2 1048576 r)(hc:qA7 w a m cs)(hcl:qG4 1048576 cs)(hm:m<=1048576)(hk:qB1 cs=0)(h1':inR r.i 1 (3*f0C cs+1)=true)(h2:inR r.u 0 (r.sn:Int)=true)(h40:40<r.sn):
  CP 82 #[.pointer (some ⟨b,ob,none⟩),.slice a m cap] w fun d w'=>d=.returned (iv 2)/\Below w.heap.size w w':=by
 have hsn:=hle.said;have hln:=hle.locks;have hsn':(r.sn:Int)<=1048576:=by omega
 have hln':(r.ln:Int)<=1048576:=by omega
 have HCF:Hid (CP 79 #[.slice a m cap] w fun e w'=>e=.returned (iv 0)/\Below w.heap.size w w'):=by show Calls _ _ _ _ _;rw[<- hk];exact qK0 a m cap cs w hm hcl hc
 have HB:Hid (∀W,Below w.heap.size w W->qI2 W b ob r/\qE7 W r/\qA7 W a m cs):=fun W q=>⟨hb.below q,hr.below q,hc.below q⟩
 have hbl:b<w.heap.size:=hb.lt;obtain⟨hm1,hm8,hok⟩:=qT1 hk;have hml:cs.length=m:=hc.len;have hm0:0<m:=by omega
 have hm0':(0:Int)<(m:Int):=by omega
 obtain⟨g,off,c0,rfl,hc0,hat,_⟩:=hc.at hm0
 obtain⟨v0,v1,v2,v3,v4⟩:=hat;simp only[kJ,jS]at v0 v1 v2 v3 v4;have hgl:g<w.heap.size:=zL w _ v0;have hf0:f0C cs=c0.f:=by unfold f0C;rw[hc0];rfl
 have hff:1<=c0.f/\c0.f<=2:=qEy (hok 0 c0 hc0).1;have hw1:IntKind.i64.wrap (3*c0.f)=3*c0.f:=QK6 (by omega) (by omega);have hw2:IntKind.i64.wrap (3*c0.f+1)=3*c0.f+1:=QK6 (by omega) (by omega);have V1:Hid (∀W:World,Below w.heap.size w W->W.cell? ⟨g,off+1,none⟩=some (iv c0.f)):=fun W hb=>(hb.cell (p:=⟨g,off+1,none⟩) hgl).trans v1
 have h1:inR r.i 1 (3*c0.f+1)=true:=by rw[<- hf0];exact h1'
 have HI1:Hid (∀W:World,CP 109 #[iv r.i,iv 1,iv (3*c0.f+1)] W fun e w'=>e=.returned (.bool true)/\Below W.heap.size W w'):=fun W=>by
  have q:=qN6 r.i 1 (3*c0.f+1) W;rw[show (decide (1<=r.i)&&decide (r.i<=3*c0.f+1))=true from h1]at q;exact q.mono fun e w' h=>⟨h.1,by rw[<- h.2];exact gC _ _⟩
 have HI2:Hid (∀W:World,CP 109 #[iv r.u,iv 0,iv (r.sn:Int)] W fun e w'=>e=.returned (.bool true)/\Below W.heap.size W w'):=fun W=>by
  have q:=qN6 r.u 0 (r.sn:Int) W;rw[show (decide (0<=r.u)&&decide (r.u<=(r.sn:Int)))=true from h2]at q;exact q.mono fun e w' h=>⟨h.1,by rw[<- h.2];exact gC _ _⟩
 clear h1 h1' h2 hf0;have h40':(40:Int)<(r.sn:Int):=by omega
 clear hok v0 v1 v2 v3 v4 hc0 hff hml;clear hb hr hc hcl hk hle;go_enter func82,ntmps82;go_wp2_with fail
 refine HCF.out.mono ?_;rintro d w1 ⟨rfl,hb1⟩;have B1:=qB4 hb1;clear hb1 HCF;obtain⟨x0,x1,x2,x3⟩:=(HB.out _ B1.out).1;have y1:=V1.out _ B1.out;have hbl1:b<w1.heap.size:=gD hbl B1.out.size;have hgl1:g<w1.heap.size:=gD hgl B1.out.size;go_upto_region 4 with fail
 refine gL (S:=fun w'=>(∀b o,b<w1.heap.size->w'.cell? ⟨b,o,none⟩=w1.cell? ⟨b,o,none⟩)/\Below w1.heap.size w1 w') (by kernel_rfl) (qA8 _) (fun hHeld=>?_);refine Zk.go [0,1,2,3,4,5,6,7,8,9] ?_
 iterate 10
  refine Zk.st (v:=?_) rfl ?_ ?_;rotate_left 1
  .intro w hSw;(try dsimp only at hSw);go_simp;try (with_reducible rfl)
  try simp only[Act.put,zA,zB,zC,zD,zE,zF]
 refine Zk.fin ?_;refine Zk.rd (i:=10) rfl (fun K hK=>?_);go_simp;refine (HI1.out _).mono ?_;rintro d w2 ⟨rfl,hb2⟩;have hS:=qA0 hHeld hb2;refine hK.out _ _ hS (fun hHeld=>?_);clear hK K;try simp only[Act.put,zA,zB,zC,zD,zE,zF]
 refine Zk.go [11,12,13,14,15,16,17,18,19,20,21] ?_
 iterate 11
  refine Zk.st (v:=?_) rfl ?_ ?_;rotate_left 1
  .intro w hSw;(try dsimp only at hSw);go_simp;try (with_reducible rfl)
  try simp only[Act.put,zA,zB,zC,zD,zE,zF]
 refine Zk.fin ?_;refine Zk.rd (i:=22) rfl (fun K hK=>?_);go_simp;refine (HI2.out _).mono ?_;rintro d w3 ⟨rfl,hb3⟩;have hS:=qA0 hHeld hb3;refine hK.out _ _ hS (fun hHeld=>?_);clear hK K;try simp only[Act.put,zA,zB,zC,zD,zE,zF]
 refine Zk.go [23,24] ?_
 iterate 2
  refine Zk.st (v:=?_) rfl ?_ ?_;rotate_left 1
  .intro w hSw;(try dsimp only at hSw);go_simp;try (with_reducible rfl)
  try simp only[Act.put,zA,zB,zC,zD,zE,zF]
 refine Zk.fin ?_;refine gZ (by kernel_rfl) ?_ _;have B4:Hid (Below w.heap.size w w3):=B1.out.trans (hHeld.2.mono B1.out.size);clear hHeld hS hb2 hb3 x0 x1 x2 x3 y1 hbl1 hgl1 B1 HI1 HI2;obtain⟨x0,x1,x2,x3⟩:=(HB.out _ B4.out).1;have hbl3:b<w3.heap.size:=gD hbl B4.out.size;go_wp2_with fail
 go_ret;exact⟨rfl,B4.out⟩
theorem qDZ(E:qH3)(b ob:Nat)(r:qD2)(a:Option Addr)(m cap:Nat)(cs:List qA5)(w:World)(hb:qI2 w b ob r)(hr:qE7 w r)(hle:qH2 1048576 r)(hc:qA7 w a m cs)(hcl:qG4 1048576 cs)(hm:m<=1048576)(hk:qB1 cs=0)(h1':inR r.i 1 (3*f0C cs+1)=true)(h2:inR r.u 0 (r.sn:Int)=true)(hEC:qN0 E cs)(h40:r.sn<=40)(op:Option (List LkI))(hop:qF5 E r.ss r.sn=op)(hno:op=none):
  CP 82 #[.pointer (some ⟨b,ob,none⟩),.slice a m cap] w fun d w'=>d=.returned (iv 10)/\Below w.heap.size w w':=by
 have hsn:=hle.said;have hln:=hle.locks;have hsn':(r.sn:Int)<=1048576:=by omega
 have hln':(r.ln:Int)<=1048576:=by omega
 have HCF:Hid (CP 79 #[.slice a m cap] w fun e w'=>e=.returned (iv 0)/\Below w.heap.size w w'):=by show Calls _ _ _ _ _;rw[<- hk];exact qK0 a m cap cs w hm hcl hc
 have HB:Hid (∀W,Below w.heap.size w W->qI2 W b ob r/\qE7 W r/\qA7 W a m cs):=fun W q=>⟨hb.below q,hr.below q,hc.below q⟩
 have hbl:b<w.heap.size:=hb.lt;obtain⟨hm1,hm8,hok⟩:=qT1 hk;have hml:cs.length=m:=hc.len;have hm0:0<m:=by omega
 have hm0':(0:Int)<(m:Int):=by omega
 obtain⟨g,off,c0,rfl,hc0,hat,_⟩:=hc.at hm0
 obtain⟨v0,v1,v2,v3,v4⟩:=hat;simp only[kJ,jS]at v0 v1 v2 v3 v4;have hgl:g<w.heap.size:=zL w _ v0;have hf0:f0C cs=c0.f:=by unfold f0C;rw[hc0];rfl
 have hff:1<=c0.f/\c0.f<=2:=qEy (hok 0 c0 hc0).1;have hw1:IntKind.i64.wrap (3*c0.f)=3*c0.f:=QK6 (by omega) (by omega);have hw2:IntKind.i64.wrap (3*c0.f+1)=3*c0.f+1:=QK6 (by omega) (by omega);have V1:Hid (∀W:World,Below w.heap.size w W->W.cell? ⟨g,off+1,none⟩=some (iv c0.f)):=fun W hb=>(hb.cell (p:=⟨g,off+1,none⟩) hgl).trans v1
 have h1:inR r.i 1 (3*c0.f+1)=true:=by rw[<- hf0];exact h1'
 have HI1:Hid (∀W:World,CP 109 #[iv r.i,iv 1,iv (3*c0.f+1)] W fun e w'=>e=.returned (.bool true)/\Below W.heap.size W w'):=fun W=>by
  have q:=qN6 r.i 1 (3*c0.f+1) W;rw[show (decide (1<=r.i)&&decide (r.i<=3*c0.f+1))=true from h1]at q;exact q.mono fun e w' h=>⟨h.1,by rw[<- h.2];exact gC _ _⟩
 have HI2:Hid (∀W:World,CP 109 #[iv r.u,iv 0,iv (r.sn:Int)] W fun e w'=>e=.returned (.bool true)/\Below W.heap.size W w'):=fun W=>by
  have q:=qN6 r.u 0 (r.sn:Int) W;rw[show (decide (0<=r.u)&&decide (r.u<=(r.sn:Int)))=true from h2]at q;exact q.mono fun e w' h=>⟨h.1,by rw[<- h.2];exact gC _ _⟩
 clear h1 h1' h2 hf0;have h40':(r.sn:Int)<=40:=by omega
 have HPY:Hid (∀W:World,Below w.heap.size w W->CP 133 #[iv r.i,.slice (some ⟨g,off,none⟩) m cap,.slice r.sa r.sn r.sc] W fun d w'=>∃(sa:Option Addr) (sn sc:Nat) (la:Option Addr) (ln lc:Nat),d=.returned (.tuple #[.agg #[iv r.i,iv 0,.slice sa sn sc,.slice la ln lc],.bool false])/\Below W.heap.size W w'/\(∀ls,op=some ls->ln=ls.length/\qB2 w' (W.heap.size+1) (.slice la ls.length lc) ls)):=fun W hb=>by
  refine (qAG E r.i _ m cap cs r.sa r.sn r.sc r.ss W hEC (hc.below hb) hm0 (by omega) (hr.said.below hb) hsn).mono ?_;rintro d w' ⟨g1,g2,g3⟩;rw[hop]at g2 g3;obtain⟨sa,sn,sc,la,ln,lc,rfl⟩:=g3 hno;exact⟨sa,sn,sc,la,ln,lc,rfl,g1,fun ls e=>by rw[hno]at e;cases e⟩
 clear hop;clear hEC;clear hok v0 v1 v2 v3 v4 hc0 hff hml;clear hb hr hc hcl hk hle;go_enter func82,ntmps82;go_wp2_with fail
 refine HCF.out.mono ?_;rintro d w1 ⟨rfl,hb1⟩;have B1:=qB4 hb1;clear hb1 HCF;obtain⟨x0,x1,x2,x3⟩:=(HB.out _ B1.out).1;have y1:=V1.out _ B1.out;have hbl1:b<w1.heap.size:=gD hbl B1.out.size;have hgl1:g<w1.heap.size:=gD hgl B1.out.size;go_upto_region 4 with fail
 refine gL (S:=fun w'=>(∀b o,b<w1.heap.size->w'.cell? ⟨b,o,none⟩=w1.cell? ⟨b,o,none⟩)/\Below w1.heap.size w1 w') (by kernel_rfl) (qA8 _) (fun hHeld=>?_);refine Zk.go [0,1,2,3,4,5,6,7,8,9] ?_
 iterate 10
  refine Zk.st (v:=?_) rfl ?_ ?_;rotate_left 1
  .intro w hSw;(try dsimp only at hSw);go_simp;try (with_reducible rfl)
  try simp only[Act.put,zA,zB,zC,zD,zE,zF]
 refine Zk.fin ?_;refine Zk.rd (i:=10) rfl (fun K hK=>?_);go_simp;refine (HI1.out _).mono ?_;rintro d w2 ⟨rfl,hb2⟩;have hS:=qA0 hHeld hb2;refine hK.out _ _ hS (fun hHeld=>?_);clear hK K;try simp only[Act.put,zA,zB,zC,zD,zE,zF]
 refine Zk.go [11,12,13,14,15,16,17,18,19,20,21] ?_
 iterate 11
  refine Zk.st (v:=?_) rfl ?_ ?_;rotate_left 1
  .intro w hSw;(try dsimp only at hSw);go_simp;try (with_reducible rfl)
  try simp only[Act.put,zA,zB,zC,zD,zE,zF]
 refine Zk.fin ?_;refine Zk.rd (i:=22) rfl (fun K hK=>?_);go_simp;refine (HI2.out _).mono ?_;rintro d w3 ⟨rfl,hb3⟩;have hS:=qA0 hHeld hb3;refine hK.out _ _ hS (fun hHeld=>?_);clear hK K;try simp only[Act.put,zA,zB,zC,zD,zE,zF]
 refine Zk.go [23,24] ?_
 iterate 2
  refine Zk.st (v:=?_) rfl ?_ ?_;rotate_left 1
  .intro w hSw;(try dsimp only at hSw);go_simp;try (with_reducible rfl)
  try simp only[Act.put,zA,zB,zC,zD,zE,zF]
 refine Zk.fin ?_;refine gZ (by kernel_rfl) ?_ _;have B4:Hid (Below w.heap.size w w3):=B1.out.trans (hHeld.2.mono B1.out.size);clear hHeld hS hb2 hb3 x0 x1 x2 x3 y1 hbl1 hgl1 B1 HI1 HI2;obtain⟨x0,x1,x2,x3⟩:=(HB.out _ B4.out).1;have hbl3:b<w3.heap.size:=gD hbl B4.out.size;go_upto_region 8 with fail
 go_cut [6,7] from 46 to 57 (fun s6 s7 W=>s7=.bool false/\∃(q:Nat) (sa:Option Addr) (sn sc:Nat) (la:Option Addr) (ln lc:Nat),s6=.pointer (some ⟨q,0,none⟩)/\QD0 q [iv r.i,iv 0,.slice sa sn sc,.slice la ln lc] W/\q<W.heap.size/\Below w.heap.size w W/\(∀ls,op=some ls->qJ9 W la ln ls))
 case first =>
  refine gL (S:=fun w'=>(∀b o,b<w3.heap.size->w'.cell? ⟨b,o,none⟩=w3.cell? ⟨b,o,none⟩)/\Below w3.heap.size w3 w') (by kernel_rfl) (qA8 _) (fun hHeld=>?_);refine Zk.go [0,1,2,3,4,5,6,7,8] ?_
  iterate 9
   refine Zk.st (v:=?_) rfl ?_ ?_;rotate_left 1
   .intro w hSw;(try dsimp only at hSw);go_simp;try (with_reducible rfl)
   try simp only[Act.put,zA,zB,zC,zD,zE,zF]
  refine Zk.fin ?_;refine wpAnyH_ready (rs:=[9,13]) (by kernel_rfl) (by simp) ?_;refine kC rfl (fun K hK=>?_) (kC rfl (fun K hK=>?_) mB)
  .go_simp;refine (HPY.out _ (B4.out.trans (hHeld.2.mono B4.out.size))).mono ?_;rintro d w5 ⟨sa,sn,sc,la,ln,lc,rfl,hb5,hR⟩;have hS:=qA0 hHeld hb5;have hs5:=hb5.size;have hS5:=qB4 hS.2;have HRR:=qB4 hR;clear hR;have hs5':w3.heap.size<=w5.heap.size:=hs5;refine hK.out _ _ hS (fun hHeld=>?_);clear hK K;try simp only[Act.put,zA,zB,zC,zD,zE,zF]
   refine Zk.go [10,11,12] ?_
   iterate 3
    refine Zk.st (v:=?_) rfl ?_ ?_;rotate_left 1
    .intro w hSw;(try dsimp only at hSw);go_simp;try (with_reducible rfl)
    try simp only[Act.put,zA,zB,zC,zD,zE,zF]
   refine Zk.fin ?_;refine Zk.rd (i:=13) rfl (fun K hK=>?_);go_simp;have hS:=kpN (hHeld.2.alloc hHeld.2.size (.cells #[iv 0,iv 0,.slice none 0 0,.slice none 0 0] 115));refine hK.out _ _ hS (fun hHeld=>?_);clear hK K;try simp only[Act.put,zA,zB,zC,zD,zE,zF]
   refine Zk.rd (i:=14) rfl (fun K hK=>?_);go_simp;have hS:=kpN (hS5.out.alloc hS5.out.size (.cells #[iv r.i,iv 0,.slice sa sn sc,.slice la ln lc] 115));refine hK.out _ _ hS (fun hHeld=>?_);clear hK K;try simp only[Act.put,zA,zB,zC,zD,zE,zF]
   refine Zk.rd (i:=15) rfl (fun K hK=>?_);go_simp;refine hK.out _ _ (by assumption) (fun hHeld=>?_);clear hK K;try simp only[Act.put,zA,zB,zC,zD,zE,zF]
   refine gZ (by kernel_rfl) ?_ _;go_wp2_with fail
   go_meet
   have AA:Below w5.heap.size w5 (w5.alloc (.cells #[iv r.i,iv 0,.slice sa sn sc,.slice la ln lc] 115)):=zN;exact⟨rfl,w5.heap.size,sa,sn,sc,la,ln,lc,rfl,(qG3 w5 _ _).out,by simp,B4.out.trans (hS.2.mono B4.out.size),fun ls' e=>by obtain⟨h1,h2⟩:=HRR.out ls' e;subst h1;exact LkV.isIn rfl (h2.below AA).view⟩
  .go_simp;have hS:=kpN (hHeld.2.alloc hHeld.2.size (.cells #[iv 0,iv 0,.slice none 0 0,.slice none 0 0] 115));refine hK.out _ _ hS (fun hHeld=>?_);clear hK K;try simp only[Act.put,zA,zB,zC,zD,zE,zF]
   refine Zk.rd (i:=9) rfl (fun K hK=>?_);go_simp;refine (HPY.out _ (B4.out.trans (hHeld.2.mono B4.out.size))).mono ?_;rintro d w5 ⟨sa,sn,sc,la,ln,lc,rfl,hb5,hR⟩;have hS:=qA0 hHeld hb5;have hs5:=hb5.size;have hS5:=qB4 hS.2;have HRR:=qB4 hR;clear hR;have hs5':w3.heap.size+1<=w5.heap.size:=by simpa using hs5
   have XQ:qJ2 w3.heap.size [iv 0,iv 0,.slice none 0 0,.slice none 0 0] w5:=qJ2.below (qI5 w3.drew _ _) (by simp) hb5;have z0:=XQ.1 0 _ rfl;have z1:=XQ.1 1 _ rfl;have z2:=XQ.1 2 _ rfl;have z3:=XQ.1 3 _ rfl;have f0:=XQ.2 0;have f1:=XQ.2 1;have f2:=XQ.2 2;have f3:=XQ.2 3;have hql:w3.heap.size<w5.heap.size:=hs5';refine hK.out _ _ hS (fun hHeld=>?_);clear hK K;try simp only[Act.put,zA,zB,zC,zD,zE,zF]
   refine Zk.go [10,11,12] ?_
   iterate 3
    refine Zk.st (v:=?_) rfl ?_ ?_;rotate_left 1
    .intro w hSw;(try dsimp only at hSw);go_simp;try (with_reducible rfl)
    try simp only[Act.put,zA,zB,zC,zD,zE,zF]
   refine Zk.fin ?_;refine Zk.rd (i:=14) rfl (fun K hK=>?_);go_simp;have hS:=kpN ((((hHeld.2.setCell (p:=⟨w3.heap.size,0,none⟩) (gB _) (iv r.i)).setCell (p:=⟨w3.heap.size,1,none⟩) (gB _) (iv 0)).setCell (p:=⟨w3.heap.size,2,none⟩) (gB _) (.slice sa sn sc)).setCell (p:=⟨w3.heap.size,3,none⟩) (gB _) (.slice la ln lc));refine hK.out _ _ hS (fun hHeld=>?_);clear hK K;try simp only[Act.put,zA,zB,zC,zD,zE,zF]
   refine Zk.rd (i:=15) rfl (fun K hK=>?_);go_simp;refine hK.out _ _ (by assumption) (fun hHeld=>?_);clear hK K;try simp only[Act.put,zA,zB,zC,zD,zE,zF]
   refine gZ (by kernel_rfl) ?_ _;go_wp2_with fail
   go_meet
   exact⟨rfl,w3.heap.size,sa,sn,sc,la,ln,lc,rfl,((((XQ.put 0 (by simp) _).put 1 (by simp) _).put 2 (by simp) _).put 3 (by simp) _).1,by simpa using hql,B4.out.trans (hS.2.mono B4.out.size),fun ls' e=>by obtain⟨h1,h2⟩:=HRR.out ls' e;subst h1;exact qCz h2 (by first | (simp;omega) | simp) _ _ _ _⟩
 clear x0 x1 x2 x3 hbl3 B4 HPY;obtain⟨rfl,q,sa,sn,sc,la,ln,lc,rfl,hQ,hql,hBq,hLq⟩:=hcut;have B5:=qB4 hBq;have q3:=hQ 3 _ rfl;obtain⟨x0,x1,x2,x3⟩:=(HB.out _ B5.out).1;have hbl5:b<wc.heap.size:=gD hbl B5.out.size;go_upto_region 9 with fail
 go_quiet (fail)
 go_wp2_with fail
 go_ret;exact⟨rfl,bdN B5.out _⟩
theorem qGX(E:qH3)(b ob:Nat)(r:qD2)(a:Option Addr)(m cap:Nat)(cs:List qA5)(w:World)(hb:qI2 w b ob r)(hr:qE7 w r)(hle:qH2 1048576 r)(hc:qA7 w a m cs)(hcl:qG4 1048576 cs)(hm:m<=1048576)(hk:qB1 cs=0)(h1':inR r.i 1 (3*f0C cs+1)=true)(h2:inR r.u 0 (r.sn:Int)=true)(hEC:qN0 E cs)(h40:r.sn<=40)(op:Option (List LkI))(hop:qF5 E r.ss r.sn=op)(ls:List LkI)(hso:op=some ls)(hll:ls.length<=1048576)(hne:ls.length≠r.ln):
  CP 82 #[.pointer (some ⟨b,ob,none⟩),.slice a m cap] w fun d w'=>d=.returned (iv 10)/\Below w.heap.size w w':=by
 have hsn:=hle.said;have hln:=hle.locks;have hsn':(r.sn:Int)<=1048576:=by omega
 have hln':(r.ln:Int)<=1048576:=by omega
 have HCF:Hid (CP 79 #[.slice a m cap] w fun e w'=>e=.returned (iv 0)/\Below w.heap.size w w'):=by show Calls _ _ _ _ _;rw[<- hk];exact qK0 a m cap cs w hm hcl hc
 have HB:Hid (∀W,Below w.heap.size w W->qI2 W b ob r/\qE7 W r/\qA7 W a m cs):=fun W q=>⟨hb.below q,hr.below q,hc.below q⟩
 have hbl:b<w.heap.size:=hb.lt;obtain⟨hm1,hm8,hok⟩:=qT1 hk;have hml:cs.length=m:=hc.len;have hm0:0<m:=by omega
 have hm0':(0:Int)<(m:Int):=by omega
 obtain⟨g,off,c0,rfl,hc0,hat,_⟩:=hc.at hm0
 obtain⟨v0,v1,v2,v3,v4⟩:=hat;simp only[kJ,jS]at v0 v1 v2 v3 v4;have hgl:g<w.heap.size:=zL w _ v0;have hf0:f0C cs=c0.f:=by unfold f0C;rw[hc0];rfl
 have hff:1<=c0.f/\c0.f<=2:=qEy (hok 0 c0 hc0).1;have hw1:IntKind.i64.wrap (3*c0.f)=3*c0.f:=QK6 (by omega) (by omega);have hw2:IntKind.i64.wrap (3*c0.f+1)=3*c0.f+1:=QK6 (by omega) (by omega);have V1:Hid (∀W:World,Below w.heap.size w W->W.cell? ⟨g,off+1,none⟩=some (iv c0.f)):=fun W hb=>(hb.cell (p:=⟨g,off+1,none⟩) hgl).trans v1
 have h1:inR r.i 1 (3*c0.f+1)=true:=by rw[<- hf0];exact h1'
 have HI1:Hid (∀W:World,CP 109 #[iv r.i,iv 1,iv (3*c0.f+1)] W fun e w'=>e=.returned (.bool true)/\Below W.heap.size W w'):=fun W=>by
  have q:=qN6 r.i 1 (3*c0.f+1) W;rw[show (decide (1<=r.i)&&decide (r.i<=3*c0.f+1))=true from h1]at q;exact q.mono fun e w' h=>⟨h.1,by rw[<- h.2];exact gC _ _⟩
 have HI2:Hid (∀W:World,CP 109 #[iv r.u,iv 0,iv (r.sn:Int)] W fun e w'=>e=.returned (.bool true)/\Below W.heap.size W w'):=fun W=>by
  have q:=qN6 r.u 0 (r.sn:Int) W;rw[show (decide (0<=r.u)&&decide (r.u<=(r.sn:Int)))=true from h2]at q;exact q.mono fun e w' h=>⟨h.1,by rw[<- h.2];exact gC _ _⟩
 clear h1 h1' h2 hf0;have h40':(r.sn:Int)<=40:=by omega
 have HPY:Hid (∀W:World,Below w.heap.size w W->CP 133 #[iv r.i,.slice (some ⟨g,off,none⟩) m cap,.slice r.sa r.sn r.sc] W fun d w'=>∃(sa:Option Addr) (sn sc:Nat) (la:Option Addr) (ln lc:Nat),d=.returned (.tuple #[.agg #[iv r.i,iv 0,.slice sa sn sc,.slice la ln lc],.bool true])/\Below W.heap.size W w'/\(∀ls,op=some ls->ln=ls.length/\qB2 w' (W.heap.size+1) (.slice la ls.length lc) ls)):=fun W hb=>by
  refine (qAG E r.i _ m cap cs r.sa r.sn r.sc r.ss W hEC (hc.below hb) hm0 (by omega) (hr.said.below hb) hsn).mono ?_;rintro d w' ⟨g1,g2,g3⟩;rw[hop]at g2 g3;obtain⟨sa,sc,la,lc,rfl,_,ho2⟩:=g2 ls hso;exact⟨sa,r.sn,sc,la,ls.length,lc,rfl,g1,fun ls' e=>by rw[hso]at e;cases e;exact⟨rfl,ho2⟩⟩
 clear hop;clear hEC;clear hok v0 v1 v2 v3 v4 hc0 hff hml;clear hb hr hc hcl hk hle;go_enter func82,ntmps82;go_wp2_with fail
 refine HCF.out.mono ?_;rintro d w1 ⟨rfl,hb1⟩;have B1:=qB4 hb1;clear hb1 HCF;obtain⟨x0,x1,x2,x3⟩:=(HB.out _ B1.out).1;have y1:=V1.out _ B1.out;have hbl1:b<w1.heap.size:=gD hbl B1.out.size;have hgl1:g<w1.heap.size:=gD hgl B1.out.size;go_upto_region 4 with fail
 refine gL (S:=fun w'=>(∀b o,b<w1.heap.size->w'.cell? ⟨b,o,none⟩=w1.cell? ⟨b,o,none⟩)/\Below w1.heap.size w1 w') (by kernel_rfl) (qA8 _) (fun hHeld=>?_);refine Zk.go [0,1,2,3,4,5,6,7,8,9] ?_
 iterate 10
  refine Zk.st (v:=?_) rfl ?_ ?_;rotate_left 1
  .intro w hSw;(try dsimp only at hSw);go_simp;try (with_reducible rfl)
  try simp only[Act.put,zA,zB,zC,zD,zE,zF]
 refine Zk.fin ?_;refine Zk.rd (i:=10) rfl (fun K hK=>?_);go_simp;refine (HI1.out _).mono ?_;rintro d w2 ⟨rfl,hb2⟩;have hS:=qA0 hHeld hb2;refine hK.out _ _ hS (fun hHeld=>?_);clear hK K;try simp only[Act.put,zA,zB,zC,zD,zE,zF]
 refine Zk.go [11,12,13,14,15,16,17,18,19,20,21] ?_
 iterate 11
  refine Zk.st (v:=?_) rfl ?_ ?_;rotate_left 1
  .intro w hSw;(try dsimp only at hSw);go_simp;try (with_reducible rfl)
  try simp only[Act.put,zA,zB,zC,zD,zE,zF]
 refine Zk.fin ?_;refine Zk.rd (i:=22) rfl (fun K hK=>?_);go_simp;refine (HI2.out _).mono ?_;rintro d w3 ⟨rfl,hb3⟩;have hS:=qA0 hHeld hb3;refine hK.out _ _ hS (fun hHeld=>?_);clear hK K;try simp only[Act.put,zA,zB,zC,zD,zE,zF]
 refine Zk.go [23,24] ?_
 iterate 2
  refine Zk.st (v:=?_) rfl ?_ ?_;rotate_left 1
  .intro w hSw;(try dsimp only at hSw);go_simp;try (with_reducible rfl)
  try simp only[Act.put,zA,zB,zC,zD,zE,zF]
 refine Zk.fin ?_;refine gZ (by kernel_rfl) ?_ _;have B4:Hid (Below w.heap.size w w3):=B1.out.trans (hHeld.2.mono B1.out.size);clear hHeld hS hb2 hb3 x0 x1 x2 x3 y1 hbl1 hgl1 B1 HI1 HI2;obtain⟨x0,x1,x2,x3⟩:=(HB.out _ B4.out).1;have hbl3:b<w3.heap.size:=gD hbl B4.out.size;go_upto_region 8 with fail
 go_cut [6,7] from 46 to 57 (fun s6 s7 W=>s7=.bool true/\∃(q:Nat) (sa:Option Addr) (sn sc:Nat) (la:Option Addr) (ln lc:Nat),s6=.pointer (some ⟨q,0,none⟩)/\QD0 q [iv r.i,iv 0,.slice sa sn sc,.slice la ln lc] W/\q<W.heap.size/\Below w.heap.size w W/\(∀ls,op=some ls->qJ9 W la ln ls))
 case first =>
  refine gL (S:=fun w'=>(∀b o,b<w3.heap.size->w'.cell? ⟨b,o,none⟩=w3.cell? ⟨b,o,none⟩)/\Below w3.heap.size w3 w') (by kernel_rfl) (qA8 _) (fun hHeld=>?_);refine Zk.go [0,1,2,3,4,5,6,7,8] ?_
  iterate 9
   refine Zk.st (v:=?_) rfl ?_ ?_;rotate_left 1
   .intro w hSw;(try dsimp only at hSw);go_simp;try (with_reducible rfl)
   try simp only[Act.put,zA,zB,zC,zD,zE,zF]
  refine Zk.fin ?_;refine wpAnyH_ready (rs:=[9,13]) (by kernel_rfl) (by simp) ?_;refine kC rfl (fun K hK=>?_) (kC rfl (fun K hK=>?_) mB)
  .go_simp;refine (HPY.out _ (B4.out.trans (hHeld.2.mono B4.out.size))).mono ?_;rintro d w5 ⟨sa,sn,sc,la,ln,lc,rfl,hb5,hR⟩;have hS:=qA0 hHeld hb5;have hs5:=hb5.size;have hS5:=qB4 hS.2;have HRR:=qB4 hR;clear hR;have hs5':w3.heap.size<=w5.heap.size:=hs5;refine hK.out _ _ hS (fun hHeld=>?_);clear hK K;try simp only[Act.put,zA,zB,zC,zD,zE,zF]
   refine Zk.go [10,11,12] ?_
   iterate 3
    refine Zk.st (v:=?_) rfl ?_ ?_;rotate_left 1
    .intro w hSw;(try dsimp only at hSw);go_simp;try (with_reducible rfl)
    try simp only[Act.put,zA,zB,zC,zD,zE,zF]
   refine Zk.fin ?_;refine Zk.rd (i:=13) rfl (fun K hK=>?_);go_simp;have hS:=kpN (hHeld.2.alloc hHeld.2.size (.cells #[iv 0,iv 0,.slice none 0 0,.slice none 0 0] 115));refine hK.out _ _ hS (fun hHeld=>?_);clear hK K;try simp only[Act.put,zA,zB,zC,zD,zE,zF]
   refine Zk.rd (i:=14) rfl (fun K hK=>?_);go_simp;have hS:=kpN (hS5.out.alloc hS5.out.size (.cells #[iv r.i,iv 0,.slice sa sn sc,.slice la ln lc] 115));refine hK.out _ _ hS (fun hHeld=>?_);clear hK K;try simp only[Act.put,zA,zB,zC,zD,zE,zF]
   refine Zk.rd (i:=15) rfl (fun K hK=>?_);go_simp;refine hK.out _ _ (by assumption) (fun hHeld=>?_);clear hK K;try simp only[Act.put,zA,zB,zC,zD,zE,zF]
   refine gZ (by kernel_rfl) ?_ _;go_wp2_with fail
   go_meet
   have AA:Below w5.heap.size w5 (w5.alloc (.cells #[iv r.i,iv 0,.slice sa sn sc,.slice la ln lc] 115)):=zN;exact⟨rfl,w5.heap.size,sa,sn,sc,la,ln,lc,rfl,(qG3 w5 _ _).out,by simp,B4.out.trans (hS.2.mono B4.out.size),fun ls' e=>by obtain⟨h1,h2⟩:=HRR.out ls' e;subst h1;exact LkV.isIn rfl (h2.below AA).view⟩
  .go_simp;have hS:=kpN (hHeld.2.alloc hHeld.2.size (.cells #[iv 0,iv 0,.slice none 0 0,.slice none 0 0] 115));refine hK.out _ _ hS (fun hHeld=>?_);clear hK K;try simp only[Act.put,zA,zB,zC,zD,zE,zF]
   refine Zk.rd (i:=9) rfl (fun K hK=>?_);go_simp;refine (HPY.out _ (B4.out.trans (hHeld.2.mono B4.out.size))).mono ?_;rintro d w5 ⟨sa,sn,sc,la,ln,lc,rfl,hb5,hR⟩;have hS:=qA0 hHeld hb5;have hs5:=hb5.size;have hS5:=qB4 hS.2;have HRR:=qB4 hR;clear hR;have hs5':w3.heap.size+1<=w5.heap.size:=by simpa using hs5
   have XQ:qJ2 w3.heap.size [iv 0,iv 0,.slice none 0 0,.slice none 0 0] w5:=qJ2.below (qI5 w3.drew _ _) (by simp) hb5;have z0:=XQ.1 0 _ rfl;have z1:=XQ.1 1 _ rfl;have z2:=XQ.1 2 _ rfl;have z3:=XQ.1 3 _ rfl;have f0:=XQ.2 0;have f1:=XQ.2 1;have f2:=XQ.2 2;have f3:=XQ.2 3;have hql:w3.heap.size<w5.heap.size:=hs5';refine hK.out _ _ hS (fun hHeld=>?_);clear hK K;try simp only[Act.put,zA,zB,zC,zD,zE,zF]
   refine Zk.go [10,11,12] ?_
   iterate 3
    refine Zk.st (v:=?_) rfl ?_ ?_;rotate_left 1
    .intro w hSw;(try dsimp only at hSw);go_simp;try (with_reducible rfl)
    try simp only[Act.put,zA,zB,zC,zD,zE,zF]
   refine Zk.fin ?_;refine Zk.rd (i:=14) rfl (fun K hK=>?_);go_simp;have hS:=kpN ((((hHeld.2.setCell (p:=⟨w3.heap.size,0,none⟩) (gB _) (iv r.i)).setCell (p:=⟨w3.heap.size,1,none⟩) (gB _) (iv 0)).setCell (p:=⟨w3.heap.size,2,none⟩) (gB _) (.slice sa sn sc)).setCell (p:=⟨w3.heap.size,3,none⟩) (gB _) (.slice la ln lc));refine hK.out _ _ hS (fun hHeld=>?_);clear hK K;try simp only[Act.put,zA,zB,zC,zD,zE,zF]
   refine Zk.rd (i:=15) rfl (fun K hK=>?_);go_simp;refine hK.out _ _ (by assumption) (fun hHeld=>?_);clear hK K;try simp only[Act.put,zA,zB,zC,zD,zE,zF]
   refine gZ (by kernel_rfl) ?_ _;go_wp2_with fail
   go_meet
   exact⟨rfl,w3.heap.size,sa,sn,sc,la,ln,lc,rfl,((((XQ.put 0 (by simp) _).put 1 (by simp) _).put 2 (by simp) _).put 3 (by simp) _).1,by simpa using hql,B4.out.trans (hS.2.mono B4.out.size),fun ls' e=>by obtain⟨h1,h2⟩:=HRR.out ls' e;subst h1;exact qCz h2 (by first | (simp;omega) | simp) _ _ _ _⟩
 clear x0 x1 x2 x3 hbl3 B4 HPY;obtain⟨rfl,q,sa,sn,sc,la,ln,lc,rfl,hQ,hql,hBq,hLq⟩:=hcut;have B5:=qB4 hBq;have q3:=hQ 3 _ rfl;obtain⟨x0,x1,x2,x3⟩:=(HB.out _ B5.out).1;have hbl5:b<wc.heap.size:=gD hbl B5.out.size;obtain rfl:ls.length=ln:=(hLq ls hso).1;have hnb:((ls.length:Int) != (r.ln:Int))=true:=by simp;omega
 go_upto_region 9 with fail
 go_quiet (fail)
 go_wp2_with fail
 go_ret;exact⟨rfl,bdN B5.out _⟩
theorem qGY(E:qH3)(b ob:Nat)(r:qD2)(a:Option Addr)(m cap:Nat)(cs:List qA5)(w:World)(hb:qI2 w b ob r)(hr:qE7 w r)(hle:qH2 1048576 r)(hc:qA7 w a m cs)(hcl:qG4 1048576 cs)(hm:m<=1048576)(hk:qB1 cs=0)(h1':inR r.i 1 (3*f0C cs+1)=true)(h2:inR r.u 0 (r.sn:Int)=true)(hEC:qN0 E cs)(h40:r.sn<=40)(op:Option (List LkI))(hop:qF5 E r.ss r.sn=op)(ls:List LkI)(hso:op=some ls)(hll:ls.length<=1048576)(heq:ls.length=r.ln)(t:Int)(ht:(if ls=r.ls then 0 else 10)=t):
  CP 82 #[.pointer (some ⟨b,ob,none⟩),.slice a m cap] w fun d w'=>d=.returned (iv t)/\Below w.heap.size w w':=by
 have hsn:=hle.said;have hln:=hle.locks;have hsn':(r.sn:Int)<=1048576:=by omega
 have hln':(r.ln:Int)<=1048576:=by omega
 have HCF:Hid (CP 79 #[.slice a m cap] w fun e w'=>e=.returned (iv 0)/\Below w.heap.size w w'):=by show Calls _ _ _ _ _;rw[<- hk];exact qK0 a m cap cs w hm hcl hc
 have HB:Hid (∀W,Below w.heap.size w W->qI2 W b ob r/\qE7 W r/\qA7 W a m cs):=fun W q=>⟨hb.below q,hr.below q,hc.below q⟩
 have hbl:b<w.heap.size:=hb.lt;obtain⟨hm1,hm8,hok⟩:=qT1 hk;have hml:cs.length=m:=hc.len;have hm0:0<m:=by omega
 have hm0':(0:Int)<(m:Int):=by omega
 obtain⟨g,off,c0,rfl,hc0,hat,_⟩:=hc.at hm0
 obtain⟨v0,v1,v2,v3,v4⟩:=hat;simp only[kJ,jS]at v0 v1 v2 v3 v4;have hgl:g<w.heap.size:=zL w _ v0;have hf0:f0C cs=c0.f:=by unfold f0C;rw[hc0];rfl
 have hff:1<=c0.f/\c0.f<=2:=qEy (hok 0 c0 hc0).1;have hw1:IntKind.i64.wrap (3*c0.f)=3*c0.f:=QK6 (by omega) (by omega);have hw2:IntKind.i64.wrap (3*c0.f+1)=3*c0.f+1:=QK6 (by omega) (by omega);have V1:Hid (∀W:World,Below w.heap.size w W->W.cell? ⟨g,off+1,none⟩=some (iv c0.f)):=fun W hb=>(hb.cell (p:=⟨g,off+1,none⟩) hgl).trans v1
 have h1:inR r.i 1 (3*c0.f+1)=true:=by rw[<- hf0];exact h1'
 have HI1:Hid (∀W:World,CP 109 #[iv r.i,iv 1,iv (3*c0.f+1)] W fun e w'=>e=.returned (.bool true)/\Below W.heap.size W w'):=fun W=>by
  have q:=qN6 r.i 1 (3*c0.f+1) W;rw[show (decide (1<=r.i)&&decide (r.i<=3*c0.f+1))=true from h1]at q;exact q.mono fun e w' h=>⟨h.1,by rw[<- h.2];exact gC _ _⟩
 have HI2:Hid (∀W:World,CP 109 #[iv r.u,iv 0,iv (r.sn:Int)] W fun e w'=>e=.returned (.bool true)/\Below W.heap.size W w'):=fun W=>by
  have q:=qN6 r.u 0 (r.sn:Int) W;rw[show (decide (0<=r.u)&&decide (r.u<=(r.sn:Int)))=true from h2]at q;exact q.mono fun e w' h=>⟨h.1,by rw[<- h.2];exact gC _ _⟩
 clear h1 h1' h2 hf0;have h40':(r.sn:Int)<=40:=by omega
 have HPY:Hid (∀W:World,Below w.heap.size w W->CP 133 #[iv r.i,.slice (some ⟨g,off,none⟩) m cap,.slice r.sa r.sn r.sc] W fun d w'=>∃(sa:Option Addr) (sn sc:Nat) (la:Option Addr) (ln lc:Nat),d=.returned (.tuple #[.agg #[iv r.i,iv 0,.slice sa sn sc,.slice la ln lc],.bool true])/\Below W.heap.size W w'/\(∀ls,op=some ls->ln=ls.length/\qB2 w' (W.heap.size+1) (.slice la ls.length lc) ls)):=fun W hb=>by
  refine (qAG E r.i _ m cap cs r.sa r.sn r.sc r.ss W hEC (hc.below hb) hm0 (by omega) (hr.said.below hb) hsn).mono ?_;rintro d w' ⟨g1,g2,g3⟩;rw[hop]at g2 g3;obtain⟨sa,sc,la,lc,rfl,_,ho2⟩:=g2 ls hso;exact⟨sa,r.sn,sc,la,ls.length,lc,rfl,g1,fun ls' e=>by rw[hso]at e;cases e;exact⟨rfl,ho2⟩⟩
 clear hop;have HT:=hJJ ht;clear hEC ht;clear hok v0 v1 v2 v3 v4 hc0 hff hml;clear hb hr hc hcl hk hle;go_enter func82,ntmps82;go_wp2_with fail
 refine HCF.out.mono ?_;rintro d w1 ⟨rfl,hb1⟩;have B1:=qB4 hb1;clear hb1 HCF;obtain⟨x0,x1,x2,x3⟩:=(HB.out _ B1.out).1;have y1:=V1.out _ B1.out;have hbl1:b<w1.heap.size:=gD hbl B1.out.size;have hgl1:g<w1.heap.size:=gD hgl B1.out.size;go_upto_region 4 with fail
 refine gL (S:=fun w'=>(∀b o,b<w1.heap.size->w'.cell? ⟨b,o,none⟩=w1.cell? ⟨b,o,none⟩)/\Below w1.heap.size w1 w') (by kernel_rfl) (qA8 _) (fun hHeld=>?_);refine Zk.go [0,1,2,3,4,5,6,7,8,9] ?_
 iterate 10
  refine Zk.st (v:=?_) rfl ?_ ?_;rotate_left 1
  .intro w hSw;(try dsimp only at hSw);go_simp;try (with_reducible rfl)
  try simp only[Act.put,zA,zB,zC,zD,zE,zF]
 refine Zk.fin ?_;refine Zk.rd (i:=10) rfl (fun K hK=>?_);go_simp;refine (HI1.out _).mono ?_;rintro d w2 ⟨rfl,hb2⟩;have hS:=qA0 hHeld hb2;refine hK.out _ _ hS (fun hHeld=>?_);clear hK K;try simp only[Act.put,zA,zB,zC,zD,zE,zF]
 refine Zk.go [11,12,13,14,15,16,17,18,19,20,21] ?_
 iterate 11
  refine Zk.st (v:=?_) rfl ?_ ?_;rotate_left 1
  .intro w hSw;(try dsimp only at hSw);go_simp;try (with_reducible rfl)
  try simp only[Act.put,zA,zB,zC,zD,zE,zF]
 refine Zk.fin ?_;refine Zk.rd (i:=22) rfl (fun K hK=>?_);go_simp;refine (HI2.out _).mono ?_;rintro d w3 ⟨rfl,hb3⟩;have hS:=qA0 hHeld hb3;refine hK.out _ _ hS (fun hHeld=>?_);clear hK K;try simp only[Act.put,zA,zB,zC,zD,zE,zF]
 refine Zk.go [23,24] ?_
 iterate 2
  refine Zk.st (v:=?_) rfl ?_ ?_;rotate_left 1
  .intro w hSw;(try dsimp only at hSw);go_simp;try (with_reducible rfl)
  try simp only[Act.put,zA,zB,zC,zD,zE,zF]
 refine Zk.fin ?_;refine gZ (by kernel_rfl) ?_ _;have B4:Hid (Below w.heap.size w w3):=B1.out.trans (hHeld.2.mono B1.out.size);clear hHeld hS hb2 hb3 x0 x1 x2 x3 y1 hbl1 hgl1 B1 HI1 HI2;obtain⟨x0,x1,x2,x3⟩:=(HB.out _ B4.out).1;have hbl3:b<w3.heap.size:=gD hbl B4.out.size;go_upto_region 8 with fail
 go_cut [6,7] from 46 to 57 (fun s6 s7 W=>s7=.bool true/\∃(q:Nat) (sa:Option Addr) (sn sc:Nat) (la:Option Addr) (ln lc:Nat),s6=.pointer (some ⟨q,0,none⟩)/\QD0 q [iv r.i,iv 0,.slice sa sn sc,.slice la ln lc] W/\q<W.heap.size/\Below w.heap.size w W/\(∀ls,op=some ls->qJ9 W la ln ls))
 case first =>
  refine gL (S:=fun w'=>(∀b o,b<w3.heap.size->w'.cell? ⟨b,o,none⟩=w3.cell? ⟨b,o,none⟩)/\Below w3.heap.size w3 w') (by kernel_rfl) (qA8 _) (fun hHeld=>?_);refine Zk.go [0,1,2,3,4,5,6,7,8] ?_
  iterate 9
   refine Zk.st (v:=?_) rfl ?_ ?_;rotate_left 1
   .intro w hSw;(try dsimp only at hSw);go_simp;try (with_reducible rfl)
   try simp only[Act.put,zA,zB,zC,zD,zE,zF]
  refine Zk.fin ?_;refine wpAnyH_ready (rs:=[9,13]) (by kernel_rfl) (by simp) ?_;refine kC rfl (fun K hK=>?_) (kC rfl (fun K hK=>?_) mB)
  .go_simp;refine (HPY.out _ (B4.out.trans (hHeld.2.mono B4.out.size))).mono ?_;rintro d w5 ⟨sa,sn,sc,la,ln,lc,rfl,hb5,hR⟩;have hS:=qA0 hHeld hb5;have hs5:=hb5.size;have hS5:=qB4 hS.2;have HRR:=qB4 hR;clear hR;have hs5':w3.heap.size<=w5.heap.size:=hs5;refine hK.out _ _ hS (fun hHeld=>?_);clear hK K;try simp only[Act.put,zA,zB,zC,zD,zE,zF]
   refine Zk.go [10,11,12] ?_
   iterate 3
    refine Zk.st (v:=?_) rfl ?_ ?_;rotate_left 1
    .intro w hSw;(try dsimp only at hSw);go_simp;try (with_reducible rfl)
    try simp only[Act.put,zA,zB,zC,zD,zE,zF]
   refine Zk.fin ?_;refine Zk.rd (i:=13) rfl (fun K hK=>?_);go_simp;have hS:=kpN (hHeld.2.alloc hHeld.2.size (.cells #[iv 0,iv 0,.slice none 0 0,.slice none 0 0] 115));refine hK.out _ _ hS (fun hHeld=>?_);clear hK K;try simp only[Act.put,zA,zB,zC,zD,zE,zF]
   refine Zk.rd (i:=14) rfl (fun K hK=>?_);go_simp;have hS:=kpN (hS5.out.alloc hS5.out.size (.cells #[iv r.i,iv 0,.slice sa sn sc,.slice la ln lc] 115));refine hK.out _ _ hS (fun hHeld=>?_);clear hK K;try simp only[Act.put,zA,zB,zC,zD,zE,zF]
   refine Zk.rd (i:=15) rfl (fun K hK=>?_);go_simp;refine hK.out _ _ (by assumption) (fun hHeld=>?_);clear hK K;try simp only[Act.put,zA,zB,zC,zD,zE,zF]
   refine gZ (by kernel_rfl) ?_ _;go_wp2_with fail
   go_meet
   have AA:Below w5.heap.size w5 (w5.alloc (.cells #[iv r.i,iv 0,.slice sa sn sc,.slice la ln lc] 115)):=zN;exact⟨rfl,w5.heap.size,sa,sn,sc,la,ln,lc,rfl,(qG3 w5 _ _).out,by simp,B4.out.trans (hS.2.mono B4.out.size),fun ls' e=>by obtain⟨h1,h2⟩:=HRR.out ls' e;subst h1;exact LkV.isIn rfl (h2.below AA).view⟩
  .go_simp;have hS:=kpN (hHeld.2.alloc hHeld.2.size (.cells #[iv 0,iv 0,.slice none 0 0,.slice none 0 0] 115));refine hK.out _ _ hS (fun hHeld=>?_);clear hK K;try simp only[Act.put,zA,zB,zC,zD,zE,zF]
   refine Zk.rd (i:=9) rfl (fun K hK=>?_);go_simp;refine (HPY.out _ (B4.out.trans (hHeld.2.mono B4.out.size))).mono ?_;rintro d w5 ⟨sa,sn,sc,la,ln,lc,rfl,hb5,hR⟩;have hS:=qA0 hHeld hb5;have hs5:=hb5.size;have hS5:=qB4 hS.2;have HRR:=qB4 hR;clear hR;have hs5':w3.heap.size+1<=w5.heap.size:=by simpa using hs5
   have XQ:qJ2 w3.heap.size [iv 0,iv 0,.slice none 0 0,.slice none 0 0] w5:=qJ2.below (qI5 w3.drew _ _) (by simp) hb5;have z0:=XQ.1 0 _ rfl;have z1:=XQ.1 1 _ rfl;have z2:=XQ.1 2 _ rfl;have z3:=XQ.1 3 _ rfl;have f0:=XQ.2 0;have f1:=XQ.2 1;have f2:=XQ.2 2;have f3:=XQ.2 3;have hql:w3.heap.size<w5.heap.size:=hs5';refine hK.out _ _ hS (fun hHeld=>?_);clear hK K;try simp only[Act.put,zA,zB,zC,zD,zE,zF]
   refine Zk.go [10,11,12] ?_
   iterate 3
    refine Zk.st (v:=?_) rfl ?_ ?_;rotate_left 1
    .intro w hSw;(try dsimp only at hSw);go_simp;try (with_reducible rfl)
    try simp only[Act.put,zA,zB,zC,zD,zE,zF]
   refine Zk.fin ?_;refine Zk.rd (i:=14) rfl (fun K hK=>?_);go_simp;have hS:=kpN ((((hHeld.2.setCell (p:=⟨w3.heap.size,0,none⟩) (gB _) (iv r.i)).setCell (p:=⟨w3.heap.size,1,none⟩) (gB _) (iv 0)).setCell (p:=⟨w3.heap.size,2,none⟩) (gB _) (.slice sa sn sc)).setCell (p:=⟨w3.heap.size,3,none⟩) (gB _) (.slice la ln lc));refine hK.out _ _ hS (fun hHeld=>?_);clear hK K;try simp only[Act.put,zA,zB,zC,zD,zE,zF]
   refine Zk.rd (i:=15) rfl (fun K hK=>?_);go_simp;refine hK.out _ _ (by assumption) (fun hHeld=>?_);clear hK K;try simp only[Act.put,zA,zB,zC,zD,zE,zF]
   refine gZ (by kernel_rfl) ?_ _;go_wp2_with fail
   go_meet
   exact⟨rfl,w3.heap.size,sa,sn,sc,la,ln,lc,rfl,((((XQ.put 0 (by simp) _).put 1 (by simp) _).put 2 (by simp) _).put 3 (by simp) _).1,by simpa using hql,B4.out.trans (hS.2.mono B4.out.size),fun ls' e=>by obtain⟨h1,h2⟩:=HRR.out ls' e;subst h1;exact qCz h2 (by first | (simp;omega) | simp) _ _ _ _⟩
 clear x0 x1 x2 x3 hbl3 B4 HPY;obtain⟨rfl,q,sa,sn,sc,la,ln,lc,rfl,hQ,hql,hBq,hLq⟩:=hcut;have B5:=qB4 hBq;have q3:=hQ 3 _ rfl;obtain⟨x0,x1,x2,x3⟩:=(HB.out _ B5.out).1;have hbl5:b<wc.heap.size:=gD hbl B5.out.size;obtain rfl:ls.length=ln:=(hLq ls hso).1;have HL1:Hid (qJ9 wc la ls.length ls):=hLq ls hso;have HL2:Hid (qJ9 wc r.la r.ln r.ls):=(HB.out _ B5.out).2.1.locks;have HRL:=hJJ HL2.out.1;have hnb:((ls.length:Int) != (r.ln:Int))=false:=by simp[heq]
 have hll':(ls.length:Int)<=1048576:=by omega
 have HQ:Hid (∀q',(wc.drewN q').cell? ⟨q,3,none⟩=some (.slice la ls.length lc)/\(wc.drewN q').cell? ⟨b,ob+3,none⟩=some (.slice r.la r.ln r.lc)):=fun q'=>⟨q3,x3⟩
 have HEQ:=hJJ heq;go_upto_region 9 with fail
 go_quiet (fail)
 clear heq hLq;go_wp2_with fail
 go_loopw [8] (fun j wr=>∃k:Nat,k<=ls.length/\j=iv (k:Int)/\ls.take k=r.ls.take k/\∃q',wr=wc.drewN q') (fun j _=>ls.length-(intOf j).toNat)
 case atStart=>exact⟨0,gH _,rfl,by simp,_,rfl⟩
 case round =>
  obtain⟨k,hk,rfl,htk,q',rfl⟩:=hrel;have HTK:=hJJ htk;clear htk;by_cases hlt:k<ls.length
  .obtain⟨b1,o1,s,e1,hs,hr1,hb1⟩:=HL1.out.at hlt
   obtain⟨b2,o2,s2,e2,hs2,hr2,hb2⟩:=HL2.out.at (by rw[<- HEQ.out];exact hlt)
   have HE1:=hJJ e1;have HE2:=hJJ e2;have q3':wc.cell? ⟨q,3,none⟩=some (.slice (some ⟨b1,o1,none⟩) ls.length lc):=by rw[<- e1];exact q3
   have x3':wc.cell? ⟨b,ob+3,none⟩=some (.slice (some ⟨b2,o2,none⟩) r.ln r.lc):=by rw[<- e2];exact x3
   have HS:=hJJ hs;have HS2:=hJJ hs2;clear hs hs2 e1 e2 q3 x3;obtain⟨h0,h1,h2,h3⟩:=hr1;obtain⟨g0,g1,g2,g3⟩:=hr2;have hlt':(k:Int)<(ls.length:Int):=by omega
   have hlt2:(k:Int)<(r.ln:Int):=by have:=HEQ.out;omega
   by_cases hsame:s=s2
   .have HN:Hid (ls.take (k+1)=r.ls.take (k+1)):=by
     show ls.take (k+1)=r.ls.take (k+1)
     rw[List.take_add_one,List.take_add_one,HTK.out,HS.out,HS2.out,hsame]
    have hd:decide (s=s2)=true:=jQ hsame;clear hsame;go_wp2_with fail
    go_quiet (fail)
    go_wp2_with fail
    exact⟨⟨k+1,by omega,by go_num,HN.out,_,rfl⟩,by simp[intOf];omega⟩
   .have HE:Hid (t=10):=by
     show t=10
     rw[<- HT.out];refine gI (fun e=>hsame ?_);have h1:=HS.out;rw[e,HS2.out]at h1;exact (gJ h1).symm
    have hd:decide (s=s2)=false:=jL hsame;clear hsame;go_wp2_with fail
    go_quiet (fail)
    go_wp2_with fail
    go_ret;exact⟨by rw[HE.out];rfl,bdN (bdN B5.out _) _⟩
  .have hkn:k=ls.length:=by omega
   subst hkn
   have HE:Hid (t=0):=by
    show t=0
    rw[<- HT.out];refine gK ?_;have:=HTK.out;rw[kQ,HEQ.out,<- HRL.out,kQ]at this;exact this
   go_wp2_with fail
   go_ret;exact⟨by rw[HE.out];rfl,bdN B5.out _⟩
end
theorem qFz(E:qH3)(b ob:Nat)(r:qD2)(a:Option Addr)(m cap:Nat)(cs:List qA5)(w:World)(hb:qI2 w b ob r)(hr:qE7 w r)(hle:qH2 1048576 r)(hc:qA7 w a m cs)(hcl:qG4 1048576 cs)(hm:m<=1048576)(hEC:qB1 cs=0->qN0 E cs):
  CP 82 #[.pointer (some ⟨b,ob,none⟩),.slice a m cap] w fun d w'=>d=.returned (iv (qD7 E cs r))/\Below w.heap.size w w':=by
 unfold qD7;by_cases hk:qB1 cs=0
 .rw[gK hk];cases h1:inR r.i 1 (3*f0C cs+1)
  .have e:qI0 (f0C cs) r=false:=by unfold qI0;rw[h1];rfl
   rw[e,gI (by decide)];exact qIo E b ob r a m cap cs w hb hr hle hc hcl hm hk h1
  .cases h2:inR r.u 0 (r.sn:Int)
   .have e:qI0 (f0C cs) r=false:=by unfold qI0;rw[h1,h2];rfl
    rw[e,gI (by decide)];exact qDY E b ob r a m cap cs w hb hr hle hc hcl hm hk h1 h2
   .have e:qI0 (f0C cs) r=true:=by unfold qI0;rw[h1,h2];rfl
    rw[e,gK rfl];by_cases h40:40<r.sn
    .rw[gK h40];exact qDa E b ob r a m cap cs w hb hr hle hc hcl hm hk h1 h2 h40
    .rw[gI h40];cases ho:qF5 E r.ss r.sn with
     | none =>
      rw[gI (by intro q;cases q)];exact qDZ E b ob r a m cap cs w hb hr hle hc hcl hm hk h1 h2 (hEC hk) (by omega) _ ho rfl
     | some ls =>
      have hll:ls.length<=1048576:=qET r.sn ls ho (by rw[hr.said.1];exact gB _);by_cases hle':ls.length=r.ln
      .have q:=qGY E b ob r a m cap cs w hb hr hle hc hcl hm hk h1 h2 (hEC hk) (by omega) _ ho ls rfl hll hle' _ rfl;by_cases e:ls=r.ls
       .rw[gK (by rw[e])];rw[gK e]at q;exact q
       .rw[gI (fun q=>e (gJ q))];rw[gI e]at q;exact q
      .rw[gI (fun q=>hle' (by rw[gJ q];exact hr.locks.1))];exact qGX E b ob r a m cap cs w hb hr hle hc hcl hm hk h1 h2 (hEC hk) (by omega) _ ho ls rfl hll hle'
 .rw[gI hk];exact qDb E b ob r a m cap cs w hb hr hle hc hcl hm _ rfl hk
theorem qOH{cs:List qA5}(hcl:qG4 1048576 cs):∃E:qH3,qB1 cs=0->qN0 E cs:=by
 by_cases hk:qB1 cs=0
 .have hok:=(qT1 hk).2.2
  have hg:∀p:Nat,∃gs:List GrI,∀c,cs[p]?=some c->QM8 c.zs gs:=fun p=>by
   cases h:cs[p]? with
   | none=>exact⟨[],fun c e=>by cases e⟩
   | some c =>
    obtain⟨gs,q⟩:=qKw c.zs (QJ5 (hok p c h).1).2.2.1;exact⟨gs,fun c' e=>by cases e;exact q⟩
  refine⟨⟨cs.map (·.e),fun p f s=>alW (qA3 (cs[p]?.getD default).fs) (Classical.choose (hg p)) f s,fun p=>(cs[p]?.getD default).cs⟩,fun _=>⟨rfl,fun p c hc=>⟨⟨hcl.le p c hc,(hcl.rc p c hc).1,(hcl.rc p c hc).2,(hok p c hc).1⟩,Classical.choose (hg p),Classical.choose_spec (hg p) c hc,fun f s=>?_,?_⟩⟩⟩
  .show alW (qA3 (cs[p]?.getD default).fs) _ f s=_
   have e:cs[p]?.getD default=c:=by rw[hc];rfl
   rw[e]
  .show (cs[p]?.getD default).cs=c.cs
   rw[hc];rfl
 .exact⟨⟨[],fun _ _ _=>false,fun _=>[]⟩,fun q=>absurd q hk⟩
