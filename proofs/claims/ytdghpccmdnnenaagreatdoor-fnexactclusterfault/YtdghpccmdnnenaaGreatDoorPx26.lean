/- Contracts. -/
import Derived.Test.YtdghpccmdnnenaaGreatDoorPx25
namespace Go.Proofs.YtdghpccmdnnenaaGreatDoor
set_option maxRecDepth 100000
set_option maxHeartbeats 8000000
open Go.RowKit Go.Proofs.Tryz
set_option linter.unusedVariables false
set_option linter.unusedSimpArgs false
def f0C(cs:List qA5):Int:=(cs[0]?.getD default).f
def qD7(E:qH3)(cs:List qA5)(r:qD2):Int:=if qB1 cs=0 then (if qI0 (f0C cs) r=true then (if 40<r.sn then 2 else if qF5 E r.ss r.sn=some r.ls then 0 else 10) else 3) else qB1 cs
structure RW (w:World) (r:qD2) (W:World):Prop where
 bx:QD0 w.heap.size [.int .i64 r.i,.int .i64 r.u,.slice r.sa r.sn r.sc,.slice r.la r.ln r.lc] W
 rs:qJ2 (w.heap.size+1) [.slice none 0 0,.slice none 0 0,.slice none 0 0] W
 lt:w.heap.size+1<W.heap.size
 bl:Below w.heap.size w W
theorem RW.below{w:World}{r:qD2}{W W':World}(h:RW w r W)(hb:Below W.heap.size W W'):RW w r W' :=
 ⟨((QD0.hold h.bx (gS h.lt)).below hb).out,qJ2.below h.rs h.lt hb,gD h.lt hb.size,h.bl.trans (hb.mono h.bl.size)⟩
theorem RW.new(w:World)(r:qD2):RW w r ((w.alloc (.cells #[iv r.i,iv r.u,.slice r.sa r.sn r.sc,.slice r.la r.ln r.lc] 115)).alloc (.cells #[.slice none 0 0,.slice none 0 0,.slice none 0 0] 183)):=by
 have e:w.heap.size+1=(w.alloc (.cells #[iv r.i,iv r.u,.slice r.sa r.sn r.sc,.slice r.la r.ln r.lc] 115)).heap.size:=by simp
 refine⟨((qG3 w _ _).below (zN)).out,?_,by simp,(zN).alloc (by simp) _⟩;rw[e];exact qI5 _ _ _
def qLm(r:qD2)(a:Option Addr)(m cap:Nat)(k:Int)(w:World)(d:Ending)(w':World):Prop :=
 Below w.heap.size w w'/\(k≠0->d=.returned (.tuple #[.agg #[.slice none 0 0,.slice none 0 0,.slice none 0 0],iv k]))/\(k=0->∃(sa:Option Addr) (sc:Nat) (la:Option Addr) (lc:Nat),d=.returned (.tuple #[.agg #[.slice a m cap,.slice sa r.sn sc,.slice la r.ln lc],iv 0])/\qF0 w' w.heap.size (.slice sa r.sn sc) r.ss/\qB2 w' w.heap.size (.slice la r.ln lc) r.ls)
theorem qEy{c:qA5}(h:qV5 c=0):1<=c.f/\c.f<=2:=by
 have:=(QJ5 h).2.1;simpa[inR] using this
theorem qBJ(E:qH3)(r:qD2)(a:Option Addr)(m cap:Nat)(cs:List qA5)(w:World)(hr:qE7 w r)(hle:qH2 1048576 r)(hc:qA7 w a m cs)(hcl:qG4 1048576 cs)(hm:m<=1048576)(hEr:qM4 0 w)(hH:qD9 w)(k:Int)(hk:qB1 cs=k)(hk0:k≠0):
  CP 146 #[.agg #[iv r.i,iv r.u,.slice r.sa r.sn r.sc,.slice r.la r.ln r.lc],.slice a m cap] w fun d w'=>qLm r a m cap k w d w':=by
 have hsn:=hle.said;have hln:=hle.locks;have hsn':(r.sn:Int)<=1048576:=by omega
 have HCF:Hid (∀W:World,Below w.heap.size w W->CP 87 #[.slice a m cap] W fun e w'=>e=.returned (iv k)/\Below W.heap.size W w'):=fun W hb=>by rw[<- hk];exact qH9 a m cap cs W hm hcl (hc.below hb)
 obtain⟨V,hV⟩:∃V,V=(w.alloc (.cells #[iv r.i,iv r.u,.slice r.sa r.sn r.sc,.slice r.la r.ln r.lc] 115)).alloc (.cells #[.slice none 0 0,.slice none 0 0,.slice none 0 0] 183):=⟨_,rfl⟩;have W0:Hid (RW w r V):=by show RW w r V;rw[hV];exact RW.new w r
 have kb:(k != 0)=true:=by simp[hk0]
 clear hr hc hcl hEr hH hk hle;go_enter func146,ntmps146;go_upto_region 1 with fail
 rw[<- hV];clear hV;go_wp2_with fail
 refine (HCF.out _ W0.out.bl).mono ?_;rintro d w1 ⟨rfl,hb1⟩;have W1b:=qB4 (W0.out.below hb1);clear hb1 W0 HCF;have u0:=W1b.out.rs.1 0 _ rfl;have u1:=W1b.out.rs.1 1 _ rfl;have u2:=W1b.out.rs.1 2 _ rfl;have f0:=W1b.out.rs.2 0;have f1:=W1b.out.rs.2 1;have f2:=W1b.out.rs.2 2;have hul:=W1b.out.lt;go_wp2_with fail
 refine gQ (v:=.tuple #[.agg #[.slice none 0 0,.slice none 0 0,.slice none 0 0],iv k]) (by simp[results,results146,go_sem,u0,u1,u2,hul]) rfl ?_;exact⟨((W1b.out.bl.setCell (kF _) _).setCell (kF _) _).setCell (kF _) _,fun _=>rfl,fun q=>absurd q (by first | assumption | decide)⟩
theorem QT4(E:qH3)(r:qD2)(a:Option Addr)(m cap:Nat)(cs:List qA5)(w:World)(hr:qE7 w r)(hle:qH2 1048576 r)(hc:qA7 w a m cs)(hcl:qG4 1048576 cs)(hm:m<=1048576)(hEr:qM4 0 w)(hH:qD9 w)(hk:qB1 cs=0)(hbd:qI0 (f0C cs) r=false):
  CP 146 #[.agg #[iv r.i,iv r.u,.slice r.sa r.sn r.sc,.slice r.la r.ln r.lc],.slice a m cap] w fun d w'=>qLm r a m cap 3 w d w':=by
 have hsn:=hle.said;have hln:=hle.locks;have hsn':(r.sn:Int)<=1048576:=by omega
 have HCF:Hid (∀W:World,Below w.heap.size w W->CP 87 #[.slice a m cap] W fun e w'=>e=.returned (iv 0)/\Below W.heap.size W w'):=fun W hb=>by rw[<- hk];exact qH9 a m cap cs W hm hcl (hc.below hb)
 obtain⟨V,hV⟩:∃V,V=(w.alloc (.cells #[iv r.i,iv r.u,.slice r.sa r.sn r.sc,.slice r.la r.ln r.lc] 115)).alloc (.cells #[.slice none 0 0,.slice none 0 0,.slice none 0 0] 183):=⟨_,rfl⟩;have W0:Hid (RW w r V):=by show RW w r V;rw[hV];exact RW.new w r
 obtain⟨hm1,hm8,hok⟩:=qT1 hk;have hml:cs.length=m:=hc.len;have hm0:0<m:=by omega
 have hm0':(0:Int)<(m:Int):=by omega
 obtain⟨g,off,c0,rfl,hc0,hat,_⟩:=hc.at hm0
 obtain⟨v0,v1,v2,v3,v4⟩:=hat;simp only[kJ,jS]at v0 v1 v2 v3 v4;have hgl:=zL w _ v0;have hf0:f0C cs=c0.f:=by unfold f0C;rw[hc0];rfl
 have hff:1<=c0.f/\c0.f<=2:=qEy (hok 0 c0 hc0).1;have HIB:Hid (∀W:World,CP 191 #[.agg #[iv r.i,iv r.u,.slice r.sa r.sn r.sc,.slice r.la r.ln r.lc],iv c0.f] W fun e w'=>e=.returned (.bool false)/\Below W.heap.size W w'):=fun W=>by rw[<- hbd,hf0];exact qS8 c0.f hff r W hsn
 have V1:Hid (∀W:World,Below w.heap.size w W->W.cell? ⟨g,off+1,none⟩=some (iv c0.f)):=fun W hb=>(hb.cell (p:=⟨g,off+1,none⟩) hgl).trans v1
 clear hok v0 v1 v2 v3 v4 hc0 hf0 hff hbd hml;clear hr hc hcl hEr hH hk hle;go_enter func146,ntmps146;go_upto_region 1 with fail
 rw[<- hV];clear hV;go_wp2_with fail
 refine (HCF.out _ W0.out.bl).mono ?_;rintro d w1 ⟨rfl,hb1⟩;have W1b:=qB4 (W0.out.below hb1);clear hb1 W0 HCF;have x0:=W1b.out.bx 0 _ rfl;have x1:=W1b.out.bx 1 _ rfl;have x2:=W1b.out.bx 2 _ rfl;have x3:=W1b.out.bx 3 _ rfl;have y1:=V1.out _ W1b.out.bl;have hxl:w.heap.size<w1.heap.size:=gS W1b.out.lt;have hgl1:g<w1.heap.size:=gD hgl W1b.out.bl.size;go_upto_region 4 with fail
 refine gL (S:=fun w'=>(∀b o,b<w1.heap.size->w'.cell? ⟨b,o,none⟩=w1.cell? ⟨b,o,none⟩)/\Below w1.heap.size w1 w') (by kernel_rfl) (qA8 _) (fun hHeld=>?_);refine Zk.go [0,1,2,3,4] ?_
 iterate 5
  refine Zk.st (v:=?_) rfl ?_ ?_;rotate_left 1
  .intro w hSw;(try dsimp only at hSw);go_simp;try (with_reducible rfl)
  try simp only[Act.put,zA,zB,zC,zD,zE,zF]
 refine Zk.fin ?_;refine Zk.rd (i:=5) rfl (fun K hK=>?_);go_simp;refine (HIB.out _).mono ?_;rintro d w2 ⟨rfl,hb2⟩;have hS:=qA0 hHeld hb2;refine hK.out _ _ hS (fun hHeld=>?_);clear hK K;try simp only[Act.put,zA,zB,zC,zD,zE,zF]
 refine Zk.go [6] ?_;refine Zk.st (v:=?_) rfl ?_ ?_;rotate_left 1
 .intro w hSw;(try dsimp only at hSw);go_simp;try (with_reducible rfl)
 try simp only[Act.put,zA,zB,zC,zD,zE,zF]
 refine Zk.fin ?_;refine gZ (by kernel_rfl) ?_ _;have W2b:=qB4 (W1b.out.below hS.2);clear hHeld hS W1b x0 x1 x2 x3 y1 hb2 HIB hxl hgl1;have u0:=W2b.out.rs.1 0 _ rfl;have u1:=W2b.out.rs.1 1 _ rfl;have u2:=W2b.out.rs.1 2 _ rfl;have f0:=W2b.out.rs.2 0;have f1:=W2b.out.rs.2 1;have f2:=W2b.out.rs.2 2;have hul:=W2b.out.lt;go_wp2_with fail
 refine gQ (v:=.tuple #[.agg #[.slice none 0 0,.slice none 0 0,.slice none 0 0],iv 3]) (by simp[results,results146,go_sem,u0,u1,u2,hul]) rfl ?_;exact⟨((W2b.out.bl.setCell (kF _) _).setCell (kF _) _).setCell (kF _) _,fun _=>rfl,fun q=>absurd q (by first | assumption | decide)⟩
theorem qBI(E:qH3)(r:qD2)(a:Option Addr)(m cap:Nat)(cs:List qA5)(w:World)(hr:qE7 w r)(hle:qH2 1048576 r)(hc:qA7 w a m cs)(hcl:qG4 1048576 cs)(hm:m<=1048576)(hEr:qM4 0 w)(hH:qD9 w)(hk:qB1 cs=0)(hbd:qI0 (f0C cs) r=true)(h40:40<r.sn):
  CP 146 #[.agg #[iv r.i,iv r.u,.slice r.sa r.sn r.sc,.slice r.la r.ln r.lc],.slice a m cap] w fun d w'=>qLm r a m cap 2 w d w':=by
 have hsn:=hle.said;have hln:=hle.locks;have hsn':(r.sn:Int)<=1048576:=by omega
 have HCF:Hid (∀W:World,Below w.heap.size w W->CP 87 #[.slice a m cap] W fun e w'=>e=.returned (iv 0)/\Below W.heap.size W w'):=fun W hb=>by rw[<- hk];exact qH9 a m cap cs W hm hcl (hc.below hb)
 obtain⟨V,hV⟩:∃V,V=(w.alloc (.cells #[iv r.i,iv r.u,.slice r.sa r.sn r.sc,.slice r.la r.ln r.lc] 115)).alloc (.cells #[.slice none 0 0,.slice none 0 0,.slice none 0 0] 183):=⟨_,rfl⟩;have W0:Hid (RW w r V):=by show RW w r V;rw[hV];exact RW.new w r
 obtain⟨hm1,hm8,hok⟩:=qT1 hk;have hml:cs.length=m:=hc.len;have hm0:0<m:=by omega
 have hm0':(0:Int)<(m:Int):=by omega
 obtain⟨g,off,c0,rfl,hc0,hat,_⟩:=hc.at hm0
 obtain⟨v0,v1,v2,v3,v4⟩:=hat;simp only[kJ,jS]at v0 v1 v2 v3 v4;have hgl:=zL w _ v0;have hf0:f0C cs=c0.f:=by unfold f0C;rw[hc0];rfl
 have hff:1<=c0.f/\c0.f<=2:=qEy (hok 0 c0 hc0).1;have HIB:Hid (∀W:World,CP 191 #[.agg #[iv r.i,iv r.u,.slice r.sa r.sn r.sc,.slice r.la r.ln r.lc],iv c0.f] W fun e w'=>e=.returned (.bool true)/\Below W.heap.size W w'):=fun W=>by rw[<- hbd,hf0];exact qS8 c0.f hff r W hsn
 have V1:Hid (∀W:World,Below w.heap.size w W->W.cell? ⟨g,off+1,none⟩=some (iv c0.f)):=fun W hb=>(hb.cell (p:=⟨g,off+1,none⟩) hgl).trans v1
 have h40':(40:Int)<(r.sn:Int):=by omega
 clear hok v0 v1 v2 v3 v4 hc0 hf0 hff hbd hml;clear hr hc hcl hEr hH hk hle;go_enter func146,ntmps146;go_upto_region 1 with fail
 rw[<- hV];clear hV;go_wp2_with fail
 refine (HCF.out _ W0.out.bl).mono ?_;rintro d w1 ⟨rfl,hb1⟩;have W1b:=qB4 (W0.out.below hb1);clear hb1 W0 HCF;have x0:=W1b.out.bx 0 _ rfl;have x1:=W1b.out.bx 1 _ rfl;have x2:=W1b.out.bx 2 _ rfl;have x3:=W1b.out.bx 3 _ rfl;have y1:=V1.out _ W1b.out.bl;have hxl:w.heap.size<w1.heap.size:=gS W1b.out.lt;have hgl1:g<w1.heap.size:=gD hgl W1b.out.bl.size;go_upto_region 4 with fail
 refine gL (S:=fun w'=>(∀b o,b<w1.heap.size->w'.cell? ⟨b,o,none⟩=w1.cell? ⟨b,o,none⟩)/\Below w1.heap.size w1 w') (by kernel_rfl) (qA8 _) (fun hHeld=>?_);refine Zk.go [0,1,2,3,4] ?_
 iterate 5
  refine Zk.st (v:=?_) rfl ?_ ?_;rotate_left 1
  .intro w hSw;(try dsimp only at hSw);go_simp;try (with_reducible rfl)
  try simp only[Act.put,zA,zB,zC,zD,zE,zF]
 refine Zk.fin ?_;refine Zk.rd (i:=5) rfl (fun K hK=>?_);go_simp;refine (HIB.out _).mono ?_;rintro d w2 ⟨rfl,hb2⟩;have hS:=qA0 hHeld hb2;refine hK.out _ _ hS (fun hHeld=>?_);clear hK K;try simp only[Act.put,zA,zB,zC,zD,zE,zF]
 refine Zk.go [6] ?_;refine Zk.st (v:=?_) rfl ?_ ?_;rotate_left 1
 .intro w hSw;(try dsimp only at hSw);go_simp;try (with_reducible rfl)
 try simp only[Act.put,zA,zB,zC,zD,zE,zF]
 refine Zk.fin ?_;refine gZ (by kernel_rfl) ?_ _;have W2b:=qB4 (W1b.out.below hS.2);clear hHeld hS W1b x0 x1 x2 x3 y1 hb2 HIB hxl hgl1;have x2:=W2b.out.bx 2 _ rfl;have hxl:w.heap.size<w2.heap.size:=gS W2b.out.lt;have u0:=W2b.out.rs.1 0 _ rfl;have u1:=W2b.out.rs.1 1 _ rfl;have u2:=W2b.out.rs.1 2 _ rfl;have f0:=W2b.out.rs.2 0;have f1:=W2b.out.rs.2 1;have f2:=W2b.out.rs.2 2;have hul:=W2b.out.lt;go_wp2_with fail
 refine gQ (v:=.tuple #[.agg #[.slice none 0 0,.slice none 0 0,.slice none 0 0],iv 2]) (by simp[results,results146,go_sem,u0,u1,u2,hul]) rfl ?_;exact⟨((W2b.out.bl.setCell (kF _) _).setCell (kF _) _).setCell (kF _) _,fun _=>rfl,fun q=>absurd q (by first | assumption | decide)⟩
theorem qBH(E:qH3)(r:qD2)(a:Option Addr)(m cap:Nat)(cs:List qA5)(w:World)(hr:qE7 w r)(hle:qH2 1048576 r)(hc:qA7 w a m cs)(hcl:qG4 1048576 cs)(hm:m<=1048576)(hEr:qM4 0 w)(hH:qD9 w)(hk:qB1 cs=0)(hEC:qN0 E cs)(hbd:qI0 (f0C cs) r=true)(h40:r.sn<=40)(o:Option (List LkI))(ho:qF5 E r.ss r.sn=o)(hno:o=none):
  CP 146 #[.agg #[iv r.i,iv r.u,.slice r.sa r.sn r.sc,.slice r.la r.ln r.lc],.slice a m cap] w fun d w'=>qLm r a m cap 10 w d w':=by
 have hsn:=hle.said;have hln:=hle.locks;have hsn':(r.sn:Int)<=1048576:=by omega
 have HCF:Hid (∀W:World,Below w.heap.size w W->CP 87 #[.slice a m cap] W fun e w'=>e=.returned (iv 0)/\Below W.heap.size W w'):=fun W hb=>by rw[<- hk];exact qH9 a m cap cs W hm hcl (hc.below hb)
 obtain⟨V,hV⟩:∃V,V=(w.alloc (.cells #[iv r.i,iv r.u,.slice r.sa r.sn r.sc,.slice r.la r.ln r.lc] 115)).alloc (.cells #[.slice none 0 0,.slice none 0 0,.slice none 0 0] 183):=⟨_,rfl⟩;have W0:Hid (RW w r V):=by show RW w r V;rw[hV];exact RW.new w r
 obtain⟨hm1,hm8,hok⟩:=qT1 hk;have hml:cs.length=m:=hc.len;have hm0:0<m:=by omega
 have hm0':(0:Int)<(m:Int):=by omega
 obtain⟨g,off,c0,rfl,hc0,hat,_⟩:=hc.at hm0
 obtain⟨v0,v1,v2,v3,v4⟩:=hat;simp only[kJ,jS]at v0 v1 v2 v3 v4;have hgl:=zL w _ v0;have hf0:f0C cs=c0.f:=by unfold f0C;rw[hc0];rfl
 have hff:1<=c0.f/\c0.f<=2:=qEy (hok 0 c0 hc0).1;have HIB:Hid (∀W:World,CP 191 #[.agg #[iv r.i,iv r.u,.slice r.sa r.sn r.sc,.slice r.la r.ln r.lc],iv c0.f] W fun e w'=>e=.returned (.bool true)/\Below W.heap.size W w'):=fun W=>by rw[<- hbd,hf0];exact qS8 c0.f hff r W hsn
 have V1:Hid (∀W:World,Below w.heap.size w W->W.cell? ⟨g,off+1,none⟩=some (iv c0.f)):=fun W hb=>(hb.cell (p:=⟨g,off+1,none⟩) hgl).trans v1
 have h40':(r.sn:Int)<=40:=by omega
 have HSP:Hid (∀W:World,Below w.heap.size w W->CP 192 #[.slice (some ⟨g,off,none⟩) m cap,.slice r.sa r.sn r.sc] W fun d w'=>qOq (some ⟨g,off,none⟩) m cap r.ss r.sn o W d w'):=fun W hb=>by
  rw[<- ho];exact QE3 E _ m cap cs r.sa r.sn r.sc r.ss W hEC (fun W' hb'=>⟨hc.below (hb.trans (hb'.mono hb.size)),hEr.below (hb.trans (hb'.mono hb.size)),hH.below (hb.trans (hb'.mono hb.size))⟩) hm0 (by omega) (hr.said.below hb) hsn
 have HLR:Hid (∀W:World,Below w.heap.size w W->qJ9 W r.la r.ln r.ls):=fun W hb=>hr.locks.below hb
 have HLN:=hJJ hr.locks.1;clear ho hEC;clear hok v0 v1 v2 v3 v4 hc0 hf0 hff hbd hml;clear hr hc hcl hEr hH hk hle;go_enter func146,ntmps146;go_upto_region 1 with fail
 rw[<- hV];clear hV;go_wp2_with fail
 refine (HCF.out _ W0.out.bl).mono ?_;rintro d w1 ⟨rfl,hb1⟩;have W1b:=qB4 (W0.out.below hb1);clear hb1 W0 HCF;have x0:=W1b.out.bx 0 _ rfl;have x1:=W1b.out.bx 1 _ rfl;have x2:=W1b.out.bx 2 _ rfl;have x3:=W1b.out.bx 3 _ rfl;have y1:=V1.out _ W1b.out.bl;have hxl:w.heap.size<w1.heap.size:=gS W1b.out.lt;have hgl1:g<w1.heap.size:=gD hgl W1b.out.bl.size;go_upto_region 4 with fail
 refine gL (S:=fun w'=>(∀b o,b<w1.heap.size->w'.cell? ⟨b,o,none⟩=w1.cell? ⟨b,o,none⟩)/\Below w1.heap.size w1 w') (by kernel_rfl) (qA8 _) (fun hHeld=>?_);refine Zk.go [0,1,2,3,4] ?_
 iterate 5
  refine Zk.st (v:=?_) rfl ?_ ?_;rotate_left 1
  .intro w hSw;(try dsimp only at hSw);go_simp;try (with_reducible rfl)
  try simp only[Act.put,zA,zB,zC,zD,zE,zF]
 refine Zk.fin ?_;refine Zk.rd (i:=5) rfl (fun K hK=>?_);go_simp;refine (HIB.out _).mono ?_;rintro d w2 ⟨rfl,hb2⟩;have hS:=qA0 hHeld hb2;refine hK.out _ _ hS (fun hHeld=>?_);clear hK K;try simp only[Act.put,zA,zB,zC,zD,zE,zF]
 refine Zk.go [6] ?_;refine Zk.st (v:=?_) rfl ?_ ?_;rotate_left 1
 .intro w hSw;(try dsimp only at hSw);go_simp;try (with_reducible rfl)
 try simp only[Act.put,zA,zB,zC,zD,zE,zF]
 refine Zk.fin ?_;refine gZ (by kernel_rfl) ?_ _;have W2b:=qB4 (W1b.out.below hS.2);clear hHeld hS W1b x0 x1 x2 x3 y1 hb2 HIB hxl hgl1;have x2:=W2b.out.bx 2 _ rfl;have hxl:w.heap.size<w2.heap.size:=gS W2b.out.lt;go_wp2_with fail
 refine (HSP.out _ W2b.out.bl).mono ?_;rintro d w3 ⟨hb3,hs1,hs2⟩;have W3b:=qB4 (W2b.out.below hb3);clear x2 hxl;obtain⟨qa,qn,qc,ra,rn,rc,rfl⟩:=hs2 hno;have W4b:=qB4 (W3b.out.below ((gC _ _).alloc (gB _) (.cells #[.slice (some ⟨g,off,none⟩) m cap,.slice qa qn qc,.slice ra rn rc] 183)));clear hs1 hs2 hb3 W3b W2b;have u0:=W4b.out.rs.1 0 _ rfl;have u1:=W4b.out.rs.1 1 _ rfl;have u2:=W4b.out.rs.1 2 _ rfl;have f0:=W4b.out.rs.2 0;have f1:=W4b.out.rs.2 1;have f2:=W4b.out.rs.2 2;have hul:=W4b.out.lt;go_wp2_with fail
 refine gQ (v:=.tuple #[.agg #[.slice none 0 0,.slice none 0 0,.slice none 0 0],iv 10]) (by simp[results,results146,go_sem,u0,u1,u2,hul]) rfl ?_;exact⟨((W4b.out.bl.setCell (kF _) _).setCell (kF _) _).setCell (kF _) _,fun _=>rfl,fun q=>absurd q (by first | assumption | decide)⟩
theorem QZ9(E:qH3)(r:qD2)(a:Option Addr)(m cap:Nat)(cs:List qA5)(w:World)(hr:qE7 w r)(hle:qH2 1048576 r)(hc:qA7 w a m cs)(hcl:qG4 1048576 cs)(hm:m<=1048576)(hEr:qM4 0 w)(hH:qD9 w)(hk:qB1 cs=0)(hEC:qN0 E cs)(hbd:qI0 (f0C cs) r=true)(h40:r.sn<=40)(o:Option (List LkI))(ho:qF5 E r.ss r.sn=o)(ls:List LkI)(hso:o=some ls)(hll:ls.length<=1048576)(hde:decide (ls=r.ls)=false):
  CP 146 #[.agg #[iv r.i,iv r.u,.slice r.sa r.sn r.sc,.slice r.la r.ln r.lc],.slice a m cap] w fun d w'=>qLm r a m cap 10 w d w':=by
 have hsn:=hle.said;have hln:=hle.locks;have hsn':(r.sn:Int)<=1048576:=by omega
 have HCF:Hid (∀W:World,Below w.heap.size w W->CP 87 #[.slice a m cap] W fun e w'=>e=.returned (iv 0)/\Below W.heap.size W w'):=fun W hb=>by rw[<- hk];exact qH9 a m cap cs W hm hcl (hc.below hb)
 obtain⟨V,hV⟩:∃V,V=(w.alloc (.cells #[iv r.i,iv r.u,.slice r.sa r.sn r.sc,.slice r.la r.ln r.lc] 115)).alloc (.cells #[.slice none 0 0,.slice none 0 0,.slice none 0 0] 183):=⟨_,rfl⟩;have W0:Hid (RW w r V):=by show RW w r V;rw[hV];exact RW.new w r
 obtain⟨hm1,hm8,hok⟩:=qT1 hk;have hml:cs.length=m:=hc.len;have hm0:0<m:=by omega
 have hm0':(0:Int)<(m:Int):=by omega
 obtain⟨g,off,c0,rfl,hc0,hat,_⟩:=hc.at hm0
 obtain⟨v0,v1,v2,v3,v4⟩:=hat;simp only[kJ,jS]at v0 v1 v2 v3 v4;have hgl:=zL w _ v0;have hf0:f0C cs=c0.f:=by unfold f0C;rw[hc0];rfl
 have hff:1<=c0.f/\c0.f<=2:=qEy (hok 0 c0 hc0).1;have HIB:Hid (∀W:World,CP 191 #[.agg #[iv r.i,iv r.u,.slice r.sa r.sn r.sc,.slice r.la r.ln r.lc],iv c0.f] W fun e w'=>e=.returned (.bool true)/\Below W.heap.size W w'):=fun W=>by rw[<- hbd,hf0];exact qS8 c0.f hff r W hsn
 have V1:Hid (∀W:World,Below w.heap.size w W->W.cell? ⟨g,off+1,none⟩=some (iv c0.f)):=fun W hb=>(hb.cell (p:=⟨g,off+1,none⟩) hgl).trans v1
 have h40':(r.sn:Int)<=40:=by omega
 have HSP:Hid (∀W:World,Below w.heap.size w W->CP 192 #[.slice (some ⟨g,off,none⟩) m cap,.slice r.sa r.sn r.sc] W fun d w'=>qOq (some ⟨g,off,none⟩) m cap r.ss r.sn o W d w'):=fun W hb=>by
  rw[<- ho];exact QE3 E _ m cap cs r.sa r.sn r.sc r.ss W hEC (fun W' hb'=>⟨hc.below (hb.trans (hb'.mono hb.size)),hEr.below (hb.trans (hb'.mono hb.size)),hH.below (hb.trans (hb'.mono hb.size))⟩) hm0 (by omega) (hr.said.below hb) hsn
 have HLR:Hid (∀W:World,Below w.heap.size w W->qJ9 W r.la r.ln r.ls):=fun W hb=>hr.locks.below hb
 have HLN:=hJJ hr.locks.1
 have HEQ:Hid (∀(W:World) (la:Option Addr) (lc:Nat),qJ9 W la ls.length ls->Below w.heap.size w W->CP 193 #[.slice la ls.length lc,.slice r.la r.ln r.lc] W fun e w'=>e=.returned (.bool false)/\Below W.heap.size W w'):=fun W la lc hl hb=>by
  have q:=QN6 la r.la ls.length r.ln lc r.lc ls r.ls W hll hln hl (HLR.out _ hb);rw[hde]at q;exact q
 clear ho hEC hde;clear hok v0 v1 v2 v3 v4 hc0 hf0 hff hbd hml;clear hr hc hcl hEr hH hk hle;go_enter func146,ntmps146;go_upto_region 1 with fail
 rw[<- hV];clear hV;go_wp2_with fail
 refine (HCF.out _ W0.out.bl).mono ?_;rintro d w1 ⟨rfl,hb1⟩;have W1b:=qB4 (W0.out.below hb1);clear hb1 W0 HCF;have x0:=W1b.out.bx 0 _ rfl;have x1:=W1b.out.bx 1 _ rfl;have x2:=W1b.out.bx 2 _ rfl;have x3:=W1b.out.bx 3 _ rfl;have y1:=V1.out _ W1b.out.bl;have hxl:w.heap.size<w1.heap.size:=gS W1b.out.lt;have hgl1:g<w1.heap.size:=gD hgl W1b.out.bl.size;go_upto_region 4 with fail
 refine gL (S:=fun w'=>(∀b o,b<w1.heap.size->w'.cell? ⟨b,o,none⟩=w1.cell? ⟨b,o,none⟩)/\Below w1.heap.size w1 w') (by kernel_rfl) (qA8 _) (fun hHeld=>?_);refine Zk.go [0,1,2,3,4] ?_
 iterate 5
  refine Zk.st (v:=?_) rfl ?_ ?_;rotate_left 1
  .intro w hSw;(try dsimp only at hSw);go_simp;try (with_reducible rfl)
  try simp only[Act.put,zA,zB,zC,zD,zE,zF]
 refine Zk.fin ?_;refine Zk.rd (i:=5) rfl (fun K hK=>?_);go_simp;refine (HIB.out _).mono ?_;rintro d w2 ⟨rfl,hb2⟩;have hS:=qA0 hHeld hb2;refine hK.out _ _ hS (fun hHeld=>?_);clear hK K;try simp only[Act.put,zA,zB,zC,zD,zE,zF]
 refine Zk.go [6] ?_;refine Zk.st (v:=?_) rfl ?_ ?_;rotate_left 1
 .intro w hSw;(try dsimp only at hSw);go_simp;try (with_reducible rfl)
 try simp only[Act.put,zA,zB,zC,zD,zE,zF]
 refine Zk.fin ?_;refine gZ (by kernel_rfl) ?_ _;have W2b:=qB4 (W1b.out.below hS.2);clear hHeld hS W1b x0 x1 x2 x3 y1 hb2 HIB hxl hgl1;have x2:=W2b.out.bx 2 _ rfl;have hxl:w.heap.size<w2.heap.size:=gS W2b.out.lt;go_wp2_with fail
 refine (HSP.out _ W2b.out.bl).mono ?_;rintro d w3 ⟨hb3,hs1,hs2⟩;have W3b:=qB4 (W2b.out.below hb3);clear x2 hxl;obtain⟨sa,sc,la,lc,rfl,ho1,ho2⟩:=hs1 ls hso;have O1:=qB4 (ho1.below (w':=w3.alloc (.cells #[.slice (some ⟨g,off,none⟩) m cap,.slice sa r.sn sc,.slice la ls.length lc] 183)) (zN));have O2:=qB4 (ho2.below (w':=w3.alloc (.cells #[.slice (some ⟨g,off,none⟩) m cap,.slice sa r.sn sc,.slice la ls.length lc] 183)) (zN));have W4b:=qB4 (W3b.out.below ((gC _ _).alloc (gB _) (.cells #[.slice (some ⟨g,off,none⟩) m cap,.slice sa r.sn sc,.slice la ls.length lc] 183)));have B2s:=W2b.out.bl.size;have B2l:=W2b.out.lt;obtain⟨Y,hY⟩:∃Y,Y=w3.alloc (.cells #[.slice (some ⟨g,off,none⟩) m cap,.slice sa r.sn sc,.slice la ls.length lc] 183):=⟨_,rfl⟩;have XY:Hid (QD0 w3.heap.size [.slice (some ⟨g,off,none⟩) m cap,.slice sa r.sn sc,.slice la ls.length lc] Y/\w3.heap.size<Y.heap.size):=by rw[hY];exact⟨(qG3 w3 _ _).out,by simp⟩
 rw[<- hY]at O1 O2 W4b;clear hs1 hs2 hb3 W3b W2b ho1 ho2;go_upto_region 9 with fail
 rw[<- hY];clear hY;generalize w3.heap.size=q3 at XY ⊢
 have s0:=XY.out.1 0 _ rfl;have s1:=XY.out.1 1 _ rfl;have s2:=XY.out.1 2 _ rfl;have hsl:=XY.out.2;have x3:=W4b.out.bx 3 _ rfl;have hxl:w.heap.size<Y.heap.size:=gS W4b.out.lt;go_wp2_with fail
 refine (HEQ.out _ _ lc (LkV.isIn rfl O2.out.view) W4b.out.bl).mono ?_;rintro d w5 ⟨rfl,hb5⟩;have W5b:=qB4 (W4b.out.below hb5);clear s0 s1 s2 hsl x3 hxl;have u0:=W5b.out.rs.1 0 _ rfl;have u1:=W5b.out.rs.1 1 _ rfl;have u2:=W5b.out.rs.1 2 _ rfl;have f0:=W5b.out.rs.2 0;have f1:=W5b.out.rs.2 1;have f2:=W5b.out.rs.2 2;have hul:=W5b.out.lt;go_wp2_with fail
 refine gQ (v:=.tuple #[.agg #[.slice none 0 0,.slice none 0 0,.slice none 0 0],iv 10]) (by simp[results,results146,go_sem,u0,u1,u2,hul]) rfl ?_;exact⟨((W5b.out.bl.setCell (kF _) _).setCell (kF _) _).setCell (kF _) _,fun _=>rfl,fun q=>absurd q (by first | assumption | decide)⟩
theorem qFh(E:qH3)(r:qD2)(a:Option Addr)(m cap:Nat)(cs:List qA5)(w:World)(hr:qE7 w r)(hle:qH2 1048576 r)(hc:qA7 w a m cs)(hcl:qG4 1048576 cs)(hm:m<=1048576)(hEr:qM4 0 w)(hH:qD9 w)(hk:qB1 cs=0)(hEC:qN0 E cs)(hbd:qI0 (f0C cs) r=true)(h40:r.sn<=40)(o:Option (List LkI))(ho:qF5 E r.ss r.sn=o)(ls:List LkI)(hso:o=some ls)(hll:ls.length<=1048576)(hls:ls=r.ls)(hde:decide (ls=r.ls)=true):
  CP 146 #[.agg #[iv r.i,iv r.u,.slice r.sa r.sn r.sc,.slice r.la r.ln r.lc],.slice a m cap] w fun d w'=>qLm r a m cap 0 w d w':=by
 have hsn:=hle.said;have hln:=hle.locks;have hsn':(r.sn:Int)<=1048576:=by omega
 have HCF:Hid (∀W:World,Below w.heap.size w W->CP 87 #[.slice a m cap] W fun e w'=>e=.returned (iv 0)/\Below W.heap.size W w'):=fun W hb=>by rw[<- hk];exact qH9 a m cap cs W hm hcl (hc.below hb)
 obtain⟨V,hV⟩:∃V,V=(w.alloc (.cells #[iv r.i,iv r.u,.slice r.sa r.sn r.sc,.slice r.la r.ln r.lc] 115)).alloc (.cells #[.slice none 0 0,.slice none 0 0,.slice none 0 0] 183):=⟨_,rfl⟩;have W0:Hid (RW w r V):=by show RW w r V;rw[hV];exact RW.new w r
 obtain⟨hm1,hm8,hok⟩:=qT1 hk;have hml:cs.length=m:=hc.len;have hm0:0<m:=by omega
 have hm0':(0:Int)<(m:Int):=by omega
 obtain⟨g,off,c0,rfl,hc0,hat,_⟩:=hc.at hm0
 obtain⟨v0,v1,v2,v3,v4⟩:=hat;simp only[kJ,jS]at v0 v1 v2 v3 v4;have hgl:=zL w _ v0;have hf0:f0C cs=c0.f:=by unfold f0C;rw[hc0];rfl
 have hff:1<=c0.f/\c0.f<=2:=qEy (hok 0 c0 hc0).1;have HIB:Hid (∀W:World,CP 191 #[.agg #[iv r.i,iv r.u,.slice r.sa r.sn r.sc,.slice r.la r.ln r.lc],iv c0.f] W fun e w'=>e=.returned (.bool true)/\Below W.heap.size W w'):=fun W=>by rw[<- hbd,hf0];exact qS8 c0.f hff r W hsn
 have V1:Hid (∀W:World,Below w.heap.size w W->W.cell? ⟨g,off+1,none⟩=some (iv c0.f)):=fun W hb=>(hb.cell (p:=⟨g,off+1,none⟩) hgl).trans v1
 have h40':(r.sn:Int)<=40:=by omega
 have HSP:Hid (∀W:World,Below w.heap.size w W->CP 192 #[.slice (some ⟨g,off,none⟩) m cap,.slice r.sa r.sn r.sc] W fun d w'=>qOq (some ⟨g,off,none⟩) m cap r.ss r.sn o W d w'):=fun W hb=>by
  rw[<- ho];exact QE3 E _ m cap cs r.sa r.sn r.sc r.ss W hEC (fun W' hb'=>⟨hc.below (hb.trans (hb'.mono hb.size)),hEr.below (hb.trans (hb'.mono hb.size)),hH.below (hb.trans (hb'.mono hb.size))⟩) hm0 (by omega) (hr.said.below hb) hsn
 have HLR:Hid (∀W:World,Below w.heap.size w W->qJ9 W r.la r.ln r.ls):=fun W hb=>hr.locks.below hb
 have HLN:=hJJ hr.locks.1
 have HEQ:Hid (∀(W:World) (la:Option Addr) (lc:Nat),qJ9 W la ls.length ls->Below w.heap.size w W->CP 193 #[.slice la ls.length lc,.slice r.la r.ln r.lc] W fun e w'=>e=.returned (.bool true)/\Below W.heap.size W w'):=fun W la lc hl hb=>by
  have q:=QN6 la r.la ls.length r.ln lc r.lc ls r.ls W hll hln hl (HLR.out _ hb);rw[hde]at q;exact q
 have HLS:=hJJ hls;clear ho hEC hde hls;clear hok v0 v1 v2 v3 v4 hc0 hf0 hff hbd hml;clear hr hc hcl hEr hH hk hle;go_enter func146,ntmps146;go_upto_region 1 with fail
 rw[<- hV];clear hV;go_wp2_with fail
 refine (HCF.out _ W0.out.bl).mono ?_;rintro d w1 ⟨rfl,hb1⟩;have W1b:=qB4 (W0.out.below hb1);clear hb1 W0 HCF;have x0:=W1b.out.bx 0 _ rfl;have x1:=W1b.out.bx 1 _ rfl;have x2:=W1b.out.bx 2 _ rfl;have x3:=W1b.out.bx 3 _ rfl;have y1:=V1.out _ W1b.out.bl;have hxl:w.heap.size<w1.heap.size:=gS W1b.out.lt;have hgl1:g<w1.heap.size:=gD hgl W1b.out.bl.size;go_upto_region 4 with fail
 refine gL (S:=fun w'=>(∀b o,b<w1.heap.size->w'.cell? ⟨b,o,none⟩=w1.cell? ⟨b,o,none⟩)/\Below w1.heap.size w1 w') (by kernel_rfl) (qA8 _) (fun hHeld=>?_);refine Zk.go [0,1,2,3,4] ?_
 iterate 5
  refine Zk.st (v:=?_) rfl ?_ ?_;rotate_left 1
  .intro w hSw;(try dsimp only at hSw);go_simp;try (with_reducible rfl)
  try simp only[Act.put,zA,zB,zC,zD,zE,zF]
 refine Zk.fin ?_;refine Zk.rd (i:=5) rfl (fun K hK=>?_);go_simp;refine (HIB.out _).mono ?_;rintro d w2 ⟨rfl,hb2⟩;have hS:=qA0 hHeld hb2;refine hK.out _ _ hS (fun hHeld=>?_);clear hK K;try simp only[Act.put,zA,zB,zC,zD,zE,zF]
 refine Zk.go [6] ?_;refine Zk.st (v:=?_) rfl ?_ ?_;rotate_left 1
 .intro w hSw;(try dsimp only at hSw);go_simp;try (with_reducible rfl)
 try simp only[Act.put,zA,zB,zC,zD,zE,zF]
 refine Zk.fin ?_;refine gZ (by kernel_rfl) ?_ _;have W2b:=qB4 (W1b.out.below hS.2);clear hHeld hS W1b x0 x1 x2 x3 y1 hb2 HIB hxl hgl1;have x2:=W2b.out.bx 2 _ rfl;have hxl:w.heap.size<w2.heap.size:=gS W2b.out.lt;go_wp2_with fail
 refine (HSP.out _ W2b.out.bl).mono ?_;rintro d w3 ⟨hb3,hs1,hs2⟩;have W3b:=qB4 (W2b.out.below hb3);clear x2 hxl;obtain⟨sa,sc,la,lc,rfl,ho1,ho2⟩:=hs1 ls hso;have O1:=qB4 (ho1.below (w':=w3.alloc (.cells #[.slice (some ⟨g,off,none⟩) m cap,.slice sa r.sn sc,.slice la ls.length lc] 183)) (zN));have O2:=qB4 (ho2.below (w':=w3.alloc (.cells #[.slice (some ⟨g,off,none⟩) m cap,.slice sa r.sn sc,.slice la ls.length lc] 183)) (zN));have W4b:=qB4 (W3b.out.below ((gC _ _).alloc (gB _) (.cells #[.slice (some ⟨g,off,none⟩) m cap,.slice sa r.sn sc,.slice la ls.length lc] 183)));have B2s:=W2b.out.bl.size;have B2l:=W2b.out.lt;obtain⟨Y,hY⟩:∃Y,Y=w3.alloc (.cells #[.slice (some ⟨g,off,none⟩) m cap,.slice sa r.sn sc,.slice la ls.length lc] 183):=⟨_,rfl⟩;have XY:Hid (QD0 w3.heap.size [.slice (some ⟨g,off,none⟩) m cap,.slice sa r.sn sc,.slice la ls.length lc] Y/\w3.heap.size<Y.heap.size):=by rw[hY];exact⟨(qG3 w3 _ _).out,by simp⟩
 rw[<- hY]at O1 O2 W4b;clear hs1 hs2 hb3 W3b W2b ho1 ho2;go_upto_region 9 with fail
 rw[<- hY];clear hY;generalize w3.heap.size=q3 at XY ⊢
 have s0:=XY.out.1 0 _ rfl;have s1:=XY.out.1 1 _ rfl;have s2:=XY.out.1 2 _ rfl;have hsl:=XY.out.2;have x3:=W4b.out.bx 3 _ rfl;have hxl:w.heap.size<Y.heap.size:=gS W4b.out.lt;go_wp2_with fail
 refine (HEQ.out _ _ lc (LkV.isIn rfl O2.out.view) W4b.out.bl).mono ?_;rintro d w5 ⟨rfl,hb5⟩;have W5b:=qB4 (W4b.out.below hb5);have X5:QD0 q3 [.slice (some ⟨g,off,none⟩) m cap,.slice sa r.sn sc,.slice la ls.length lc] w5:=((QD0.hold XY.out.1 XY.out.2).below hb5).out;have O5:=qB4 (O1.out.below hb5);have P5:=qB4 (O2.out.below hb5);have hq5:q3<w5.heap.size:=gD XY.out.2 hb5.size;clear s0 s1 s2 hsl x3 hxl;have s0:=X5 0 _ rfl;have s1:=X5 1 _ rfl;have s2:=X5 2 _ rfl;have u0:=W5b.out.rs.1 0 _ rfl;have u1:=W5b.out.rs.1 1 _ rfl;have u2:=W5b.out.rs.1 2 _ rfl;have f0:=W5b.out.rs.2 0;have f1:=W5b.out.rs.2 1;have f2:=W5b.out.rs.2 2;have hul:=W5b.out.lt;clear X5;go_wp2_with fail
 refine gQ (v:=.tuple #[.agg #[.slice (some ⟨g,off,none⟩) m cap,.slice sa r.sn sc,.slice la ls.length lc],iv 0]) (by simp[results,results146,go_sem,u0,u1,u2,hul]) rfl ?_;refine⟨((W5b.out.bl.setCell (kF _) _).setCell (kF _) _).setCell (kF _) _,fun q=>absurd rfl q,fun _=>?_⟩;have hls:=HLS.out;subst hls;rw[HLN.out];refine⟨sa,sc,la,lc,rfl,qA4 (qC9 O5.out (by omega)) (fun g' e=>?_),qA4 (?_:qB2 w5 w.heap.size (.slice la r.ln lc) r.ls) (fun g' e=>?_)⟩
 .obtain⟨cur,hcc,hgg⟩:=qE0 O5.out e;have h0:=W5b.out.lt;rw[zS (by show g'≠w.heap.size+1;omega),zS (by show g'≠w.heap.size+1;omega),zS (by show g'≠w.heap.size+1;omega)]
 .have:=qB0 P5.out (show w.heap.size<=_ by omega);rw[HLN.out]at this;exact this
 .have P6:=P5.out;rw[HLN.out]at P6;obtain⟨cur,hcc,hgg⟩:=qD8 P6 e;rw[zS (by show g'≠w.heap.size+1;omega),zS (by show g'≠w.heap.size+1;omega),zS (by show g'≠w.heap.size+1;omega)]
theorem qET{E:qH3}{xs:List StI}:∀(k:Nat) (ls:List LkI),qF5 E xs k=some ls->k<=xs.length->ls.length<=1048576:=fun k ls h hk=>by
 have:=(QO6 k ls hk h).lk;exact jF (QJ0 this).1 (by omega)
theorem qHb(E:qH3)(r:qD2)(a:Option Addr)(m cap:Nat)(cs:List qA5)(w:World)(hr:qE7 w r)(hle:qH2 1048576 r)(hc:qA7 w a m cs)(hcl:qG4 1048576 cs)(hm:m<=1048576)(hEr:qM4 0 w)(hH:qD9 w)(hEC:qB1 cs=0->qN0 E cs):
  CP 146 #[.agg #[iv r.i,iv r.u,.slice r.sa r.sn r.sc,.slice r.la r.ln r.lc],.slice a m cap] w fun d w'=>qLm r a m cap (qD7 E cs r) w d w':=by
 unfold qD7;by_cases hk:qB1 cs=0
 .rw[gK hk];cases hb:qI0 (f0C cs) r
  .rw[gI (by decide)];exact QT4 E r a m cap cs w hr hle hc hcl hm hEr hH hk hb
  .rw[gK rfl];by_cases h40:40<r.sn
   .rw[gK h40];exact qBI E r a m cap cs w hr hle hc hcl hm hEr hH hk hb h40
   .rw[gI h40];cases ho:qF5 E r.ss r.sn with
    | none =>
     rw[gI (by intro q;cases q)];exact qBH E r a m cap cs w hr hle hc hcl hm hEr hH hk (hEC hk) hb (by omega) _ ho rfl
    | some ls =>
     have hll:ls.length<=1048576:=qET r.sn ls ho (by rw[hr.said.1];exact gB _);by_cases e:ls=r.ls
     .rw[gK (by rw[e])];exact qFh E r a m cap cs w hr hle hc hcl hm hEr hH hk (hEC hk) hb (by omega) _ ho ls rfl hll e (jQ e)
     .rw[gI (fun q=>e (gJ q))];exact QZ9 E r a m cap cs w hr hle hc hcl hm hEr hH hk (hEC hk) hb (by omega) _ ho ls rfl hll (jL e)
 .rw[gI hk];exact qBJ E r a m cap cs w hr hle hc hcl hm hEr hH _ rfl hk
theorem QH2(E:qH3)(r:qD2)(a:Option Addr)(m cap:Nat)(cs:List qA5)(w:World)(hr:qE7 w r)(hle:qH2 1048576 r)(hc:qA7 w a m cs)(hcl:qG4 1048576 cs)(hm:m<=1048576)(hEr:qM4 0 w)(hH:qD9 w)(hEC:qB1 cs=0->qN0 E cs):
  CP 93 #[.agg #[iv r.i,iv r.u,.slice r.sa r.sn r.sc,.slice r.la r.ln r.lc],.slice a m cap] w fun d w'=>d=.returned (iv (qD7 E cs r))/\Below w.heap.size w w':=by
 obtain⟨V,hV⟩:∃V,V=w.alloc (.cells #[iv r.i,iv r.u,.slice r.sa r.sn r.sc,.slice r.la r.ln r.lc] 115):=⟨_,rfl⟩;have BV:Hid (Below w.heap.size w V):=by show Below _ _ _;rw[hV];exact zN
 have XV:QD0 w.heap.size [iv r.i,iv r.u,.slice r.sa r.sn r.sc,.slice r.la r.ln r.lc] V:=by rw[hV];exact (qG3 w _ _).out
 have hVl:w.heap.size<V.heap.size:=by rw[hV];simp
 obtain⟨k,hk⟩:∃k,qD7 E cs r=k:=⟨_,rfl⟩
 have HRB:Hid (CP 146 #[.agg #[iv r.i,iv r.u,.slice r.sa r.sn r.sc,.slice r.la r.ln r.lc],.slice a m cap] V fun d w'=>qLm r a m cap k V d w'):=by
  show Calls _ _ _ _ _
  rw[<- hk];exact qHb E r a m cap cs V (hr.below BV.out) hle (hc.below BV.out) hcl hm (hEr.below BV.out) (hH.below BV.out) hEC
 rw[hk];have v0:=XV 0 _ rfl;have v1:=XV 1 _ rfl;have v2:=XV 2 _ rfl;have v3:=XV 3 _ rfl;clear XV hk hr hle hc hcl hEr hH hEC;go_enter func93,ntmps93;go_upto_region 1 with fail
 rw[<- hV];clear hV;go_wp2_with fail
 refine HRB.out.mono ?_;rintro d w1 ⟨hb1,h1,h2⟩;have B1:Hid (Below w.heap.size w w1):=BV.out.trans (hb1.mono BV.out.size);clear hb1 v0 v1 v2 v3;by_cases hk:k=0
 .obtain⟨sa,sc,la,lc,rfl,_,_⟩:=h2 hk;subst hk;clear h1 h2;go_wp2_with fail
  go_ret;exact⟨rfl,B1.out.alloc B1.out.size _⟩
 .obtain rfl:=h1 hk;clear h1 h2;go_wp2_with fail
  go_ret;exact⟨rfl,B1.out.alloc B1.out.size _⟩
