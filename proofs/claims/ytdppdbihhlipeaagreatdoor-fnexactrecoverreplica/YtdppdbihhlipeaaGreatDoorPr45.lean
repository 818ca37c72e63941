/- Contracts. -/
import Derived.Test.YtdppdbihhlipeaaGreatDoorPr42
import Derived.Test.YtdppdbihhlipeaaGreatDoorPr44
namespace Go.Proofs.YtdppdbihhlipeaaGreatDoor
set_option maxRecDepth 100000
set_option maxHeartbeats 8000000
open Go.RowKit
set_option linter.unusedVariables false
set_option linter.unusedSimpArgs false

def f0C (cs:List qA4):Int:=(cs[0]?.getD default).f
def qT9 (E:qH1) (cs:List qA4) (r:qL4):Int:=if qC4 cs=0 then (if qI2 (f0C cs) r=true then (if 40 < r.sn then 2 else if qD2 E r.ss r.sn=some r.ls then 0 else 10) else 3) else qC4 cs
structure RW (w:World) (r:qL4) (W:World):Prop where
 bx:qV9 w.heap.size [.int .i64 r.i,.int .i64 r.u,.slice r.sa r.sn r.sc,.slice r.la r.ln r.lc] W
 rs:qH0 (w.heap.size+1) [.slice none 0 0,.slice none 0 0,.slice none 0 0] W
 lt:w.heap.size+1 < W.heap.size
 bl:Below w.heap.size w W
theorem RW.below {w:World} {r:qL4} {W W':World} (h:RW w r W) (hb:Below W.heap.size W W'):RW w r W' :=
 ⟨((qV9.hold h.bx (Nat.lt_of_succ_lt h.lt)).below hb).out,qH0.below h.rs h.lt hb,Nat.lt_of_lt_of_le h.lt hb.size,h.bl.trans (hb.mono h.bl.size)⟩
theorem RW.new (w:World) (r:qL4):RW w r ((w.alloc (.cells #[.int .i64 r.i,.int .i64 r.u,.slice r.sa r.sn r.sc,.slice r.la r.ln r.lc] 36)).alloc (.cells #[.slice none 0 0,.slice none 0 0,.slice none 0 0] 91)):=by
 have e:w.heap.size+1=(w.alloc (.cells #[.int .i64 r.i,.int .i64 r.u,.slice r.sa r.sn r.sc,.slice r.la r.ln r.lc] 36)).heap.size:=by simp
 refine ⟨((qE6 w _ _).below (zN)).out,?_,by simp,(zN).alloc (by simp) _⟩;rw [e];exact qG7 _ _ _
def qJW (r:qL4) (a:Option Addr) (m cap:Nat) (k:Int) (w:World) (d:Ending) (w':World):Prop :=
 Below w.heap.size w w'/\(k≠0->d = .returned (.tuple #[.agg #[.slice none 0 0,.slice none 0 0,.slice none 0 0],.int .i64 k]))/\(k=0->∃ (sa:Option Addr) (sc:Nat) (la:Option Addr) (lc:Nat),d = .returned (.tuple #[.agg #[.slice a m cap,.slice sa r.sn sc,.slice la r.ln lc],.int .i64 0])/\qB2 w' w.heap.size (.slice sa r.sn sc) r.ss/\qA7 w' w.heap.size (.slice la r.ln lc) r.ls)
theorem qHW {c:qA4} (h:qU3 c=0):1<=c.f/\c.f<=2:=by
 have:=(QG1 h).2.1;simpa [inR] using this
theorem qAI (E:qH1) (r:qL4) (a:Option Addr) (m cap:Nat) (cs:List qA4) (w:World) (hr:qG1 w r) (hle:QC0 1048576 r) (hc:qA6 w a m cs) (hcl:qG0 1048576 cs) (hm:m<=1048576) (hEr:qG2 1 w) (hH:qE2 w) (k:Int) (hk:qC4 cs=k) (hk0:k≠0) :
  Calls Tryz.prog 49 #[.agg #[.int .i64 r.i,.int .i64 r.u,.slice r.sa r.sn r.sc,.slice r.la r.ln r.lc],.slice a m cap] w fun d w'=>qJW r a m cap k w d w':=by
 have hsn:=hle.said;have hln:=hle.locks;have hsn':(r.sn:Int)<=1048576:=by omega
 have HCF:Hid (∀ W:World,Below w.heap.size w W->Calls Tryz.prog 80 #[.slice a m cap] W fun e w'=>e = .returned (.int .i64 k)/\Below W.heap.size W w'):=fun W hb=>by rw [<- hk];exact qI9 a m cap cs W hm hcl (hc.below hb)
 obtain ⟨V,hV⟩:∃ V,V=(w.alloc (.cells #[.int .i64 r.i,.int .i64 r.u,.slice r.sa r.sn r.sc,.slice r.la r.ln r.lc] 36)).alloc (.cells #[.slice none 0 0,.slice none 0 0,.slice none 0 0] 91):=⟨_,rfl⟩;have W0:Hid (RW w r V):=by show RW w r V;rw [hV];exact RW.new w r
 have kb:(k != 0)=true:=by simp [hk0]
 clear hr hc hcl hEr hH hk hle;go_enter Tryz.func49,Tryz.ntmps49;go_upto_region 1 with fail
 rw [<- hV];clear hV;go_wp2_with fail
 refine (HCF.out _ W0.out.bl).mono ?_;rintro d w1 ⟨rfl,hb1⟩;have W1b:=qD7 (W0.out.below hb1);clear hb1 W0 HCF;have u0:=W1b.out.rs.1 0 _ rfl;have u1:=W1b.out.rs.1 1 _ rfl;have u2:=W1b.out.rs.1 2 _ rfl;have f0:=W1b.out.rs.2 0;have f1:=W1b.out.rs.2 1;have f2:=W1b.out.rs.2 2;have hul:=W1b.out.lt;go_wp2_with fail
 refine bodyPost_ret (v:=.tuple #[.agg #[.slice none 0 0,.slice none 0 0,.slice none 0 0],.int .i64 k]) (by simp [results,Tryz.results49,go_sem,u0,u1,u2,hul]) rfl ?_;exact ⟨((W1b.out.bl.setCell (Nat.le_succ _) _).setCell (Nat.le_succ _) _).setCell (Nat.le_succ _) _,fun _=>rfl,fun q=>absurd q (by first | assumption | decide)⟩
theorem QQ5 (E:qH1) (r:qL4) (a:Option Addr) (m cap:Nat) (cs:List qA4) (w:World) (hr:qG1 w r) (hle:QC0 1048576 r) (hc:qA6 w a m cs) (hcl:qG0 1048576 cs) (hm:m<=1048576) (hEr:qG2 1 w) (hH:qE2 w) (hk:qC4 cs=0) (hbd:qI2 (f0C cs) r=false) :
  Calls Tryz.prog 49 #[.agg #[.int .i64 r.i,.int .i64 r.u,.slice r.sa r.sn r.sc,.slice r.la r.ln r.lc],.slice a m cap] w fun d w'=>qJW r a m cap 3 w d w':=by
 have hsn:=hle.said;have hln:=hle.locks;have hsn':(r.sn:Int)<=1048576:=by omega
 have HCF:Hid (∀ W:World,Below w.heap.size w W->Calls Tryz.prog 80 #[.slice a m cap] W fun e w'=>e = .returned (.int .i64 0)/\Below W.heap.size W w'):=fun W hb=>by rw [<- hk];exact qI9 a m cap cs W hm hcl (hc.below hb)
 obtain ⟨V,hV⟩:∃ V,V=(w.alloc (.cells #[.int .i64 r.i,.int .i64 r.u,.slice r.sa r.sn r.sc,.slice r.la r.ln r.lc] 36)).alloc (.cells #[.slice none 0 0,.slice none 0 0,.slice none 0 0] 91):=⟨_,rfl⟩;have W0:Hid (RW w r V):=by show RW w r V;rw [hV];exact RW.new w r
 obtain ⟨hm1,hm8,hok⟩:=qT4 hk;have hml:cs.length=m:=hc.len;have hm0:0 < m:=by omega
 have hm0':(0:Int) < (m:Int):=by omega
 obtain ⟨g,off,c0,rfl,hc0,hat,_⟩:=hc.at hm0
 obtain ⟨v0,v1,v2,v3,v4⟩:=hat;simp only [Nat.zero_mul,Nat.add_zero] at v0 v1 v2 v3 v4;have hgl:=zL w _ v0;have hf0:f0C cs=c0.f:=by unfold f0C;rw [hc0];rfl
 have hff:1<=c0.f/\c0.f<=2:=qHW (hok 0 c0 hc0).1;have HIB:Hid (∀ W:World,Calls Tryz.prog 81 #[.agg #[.int .i64 r.i,.int .i64 r.u,.slice r.sa r.sn r.sc,.slice r.la r.ln r.lc],.int .i64 c0.f] W fun e w'=>e = .returned (.bool false)/\Below W.heap.size W w'):=fun W=>by rw [<- hbd,hf0];exact qR9 c0.f hff r W hsn
 have V1:Hid (∀ W:World,Below w.heap.size w W->W.cell? ⟨g,off+1,none⟩=some (.int .i64 c0.f)):=fun W hb=>(hb.cell (p:=⟨g,off+1,none⟩) hgl).trans v1
 clear hok v0 v1 v2 v3 v4 hc0 hf0 hff hbd hml;clear hr hc hcl hEr hH hk hle;go_enter Tryz.func49,Tryz.ntmps49;go_upto_region 1 with fail
 rw [<- hV];clear hV;go_wp2_with fail
 refine (HCF.out _ W0.out.bl).mono ?_;rintro d w1 ⟨rfl,hb1⟩;have W1b:=qD7 (W0.out.below hb1);clear hb1 W0 HCF;have x0:=W1b.out.bx 0 _ rfl;have x1:=W1b.out.bx 1 _ rfl;have x2:=W1b.out.bx 2 _ rfl;have x3:=W1b.out.bx 3 _ rfl;have y1:=V1.out _ W1b.out.bl;have hxl:w.heap.size < w1.heap.size:=Nat.lt_of_succ_lt W1b.out.lt;have hgl1:g < w1.heap.size:=Nat.lt_of_lt_of_le hgl W1b.out.bl.size;go_upto_region 4 with fail
 refine wp_region_held_drew (S:=fun w'=>(∀ b o,b < w1.heap.size->w'.cell? ⟨b,o,none⟩=w1.cell? ⟨b,o,none⟩)/\Below w1.heap.size w1 w') (by kernel_rfl) (qC1 _) (fun hHeld=>?_);refine Zk.go [0,1,2,3,4] ?_
 iterate 5
  refine Zk.st (v:=?_) rfl ?_ ?_;rotate_left 1
  ·intro w hSw;(try dsimp only at hSw);go_simp;try (with_reducible rfl)
  try simp only [Act.put,zA,zB,zC,zD,zE,zF]
 refine Zk.fin ?_;refine Zk.rd (i:=5) rfl (fun K hK=>?_);go_simp;refine (HIB.out _).mono ?_;rintro d w2 ⟨rfl,hb2⟩;have hS:=qA9 hHeld hb2;refine hK.out _ _ hS (fun hHeld=>?_);clear hK K;try simp only [Act.put,zA,zB,zC,zD,zE,zF]
 refine Zk.go [6] ?_;refine Zk.st (v:=?_) rfl ?_ ?_;rotate_left 1
 ·intro w hSw;(try dsimp only at hSw);go_simp;try (with_reducible rfl)
 try simp only [Act.put,zA,zB,zC,zD,zE,zF]
 refine Zk.fin ?_;refine wpAnyH_done (by kernel_rfl) ?_ _;have W2b:=qD7 (W1b.out.below hS.2);clear hHeld hS W1b x0 x1 x2 x3 y1 hb2 HIB hxl hgl1;have u0:=W2b.out.rs.1 0 _ rfl;have u1:=W2b.out.rs.1 1 _ rfl;have u2:=W2b.out.rs.1 2 _ rfl;have f0:=W2b.out.rs.2 0;have f1:=W2b.out.rs.2 1;have f2:=W2b.out.rs.2 2;have hul:=W2b.out.lt;go_wp2_with fail
 refine bodyPost_ret (v:=.tuple #[.agg #[.slice none 0 0,.slice none 0 0,.slice none 0 0],.int .i64 3]) (by simp [results,Tryz.results49,go_sem,u0,u1,u2,hul]) rfl ?_;exact ⟨((W2b.out.bl.setCell (Nat.le_succ _) _).setCell (Nat.le_succ _) _).setCell (Nat.le_succ _) _,fun _=>rfl,fun q=>absurd q (by first | assumption | decide)⟩
theorem qAH (E:qH1) (r:qL4) (a:Option Addr) (m cap:Nat) (cs:List qA4) (w:World) (hr:qG1 w r) (hle:QC0 1048576 r) (hc:qA6 w a m cs) (hcl:qG0 1048576 cs) (hm:m<=1048576) (hEr:qG2 1 w) (hH:qE2 w) (hk:qC4 cs=0) (hbd:qI2 (f0C cs) r=true) (h40:40 < r.sn) :
  Calls Tryz.prog 49 #[.agg #[.int .i64 r.i,.int .i64 r.u,.slice r.sa r.sn r.sc,.slice r.la r.ln r.lc],.slice a m cap] w fun d w'=>qJW r a m cap 2 w d w':=by
 have hsn:=hle.said;have hln:=hle.locks;have hsn':(r.sn:Int)<=1048576:=by omega
 have HCF:Hid (∀ W:World,Below w.heap.size w W->Calls Tryz.prog 80 #[.slice a m cap] W fun e w'=>e = .returned (.int .i64 0)/\Below W.heap.size W w'):=fun W hb=>by rw [<- hk];exact qI9 a m cap cs W hm hcl (hc.below hb)
 obtain ⟨V,hV⟩:∃ V,V=(w.alloc (.cells #[.int .i64 r.i,.int .i64 r.u,.slice r.sa r.sn r.sc,.slice r.la r.ln r.lc] 36)).alloc (.cells #[.slice none 0 0,.slice none 0 0,.slice none 0 0] 91):=⟨_,rfl⟩;have W0:Hid (RW w r V):=by show RW w r V;rw [hV];exact RW.new w r
 obtain ⟨hm1,hm8,hok⟩:=qT4 hk;have hml:cs.length=m:=hc.len;have hm0:0 < m:=by omega
 have hm0':(0:Int) < (m:Int):=by omega
 obtain ⟨g,off,c0,rfl,hc0,hat,_⟩:=hc.at hm0
 obtain ⟨v0,v1,v2,v3,v4⟩:=hat;simp only [Nat.zero_mul,Nat.add_zero] at v0 v1 v2 v3 v4;have hgl:=zL w _ v0;have hf0:f0C cs=c0.f:=by unfold f0C;rw [hc0];rfl
 have hff:1<=c0.f/\c0.f<=2:=qHW (hok 0 c0 hc0).1;have HIB:Hid (∀ W:World,Calls Tryz.prog 81 #[.agg #[.int .i64 r.i,.int .i64 r.u,.slice r.sa r.sn r.sc,.slice r.la r.ln r.lc],.int .i64 c0.f] W fun e w'=>e = .returned (.bool true)/\Below W.heap.size W w'):=fun W=>by rw [<- hbd,hf0];exact qR9 c0.f hff r W hsn
 have V1:Hid (∀ W:World,Below w.heap.size w W->W.cell? ⟨g,off+1,none⟩=some (.int .i64 c0.f)):=fun W hb=>(hb.cell (p:=⟨g,off+1,none⟩) hgl).trans v1
 have h40':(40:Int) < (r.sn:Int):=by omega
 clear hok v0 v1 v2 v3 v4 hc0 hf0 hff hbd hml;clear hr hc hcl hEr hH hk hle;go_enter Tryz.func49,Tryz.ntmps49;go_upto_region 1 with fail
 rw [<- hV];clear hV;go_wp2_with fail
 refine (HCF.out _ W0.out.bl).mono ?_;rintro d w1 ⟨rfl,hb1⟩;have W1b:=qD7 (W0.out.below hb1);clear hb1 W0 HCF;have x0:=W1b.out.bx 0 _ rfl;have x1:=W1b.out.bx 1 _ rfl;have x2:=W1b.out.bx 2 _ rfl;have x3:=W1b.out.bx 3 _ rfl;have y1:=V1.out _ W1b.out.bl;have hxl:w.heap.size < w1.heap.size:=Nat.lt_of_succ_lt W1b.out.lt;have hgl1:g < w1.heap.size:=Nat.lt_of_lt_of_le hgl W1b.out.bl.size;go_upto_region 4 with fail
 refine wp_region_held_drew (S:=fun w'=>(∀ b o,b < w1.heap.size->w'.cell? ⟨b,o,none⟩=w1.cell? ⟨b,o,none⟩)/\Below w1.heap.size w1 w') (by kernel_rfl) (qC1 _) (fun hHeld=>?_);refine Zk.go [0,1,2,3,4] ?_
 iterate 5
  refine Zk.st (v:=?_) rfl ?_ ?_;rotate_left 1
  ·intro w hSw;(try dsimp only at hSw);go_simp;try (with_reducible rfl)
  try simp only [Act.put,zA,zB,zC,zD,zE,zF]
 refine Zk.fin ?_;refine Zk.rd (i:=5) rfl (fun K hK=>?_);go_simp;refine (HIB.out _).mono ?_;rintro d w2 ⟨rfl,hb2⟩;have hS:=qA9 hHeld hb2;refine hK.out _ _ hS (fun hHeld=>?_);clear hK K;try simp only [Act.put,zA,zB,zC,zD,zE,zF]
 refine Zk.go [6] ?_;refine Zk.st (v:=?_) rfl ?_ ?_;rotate_left 1
 ·intro w hSw;(try dsimp only at hSw);go_simp;try (with_reducible rfl)
 try simp only [Act.put,zA,zB,zC,zD,zE,zF]
 refine Zk.fin ?_;refine wpAnyH_done (by kernel_rfl) ?_ _;have W2b:=qD7 (W1b.out.below hS.2);clear hHeld hS W1b x0 x1 x2 x3 y1 hb2 HIB hxl hgl1;have x2:=W2b.out.bx 2 _ rfl;have hxl:w.heap.size < w2.heap.size:=Nat.lt_of_succ_lt W2b.out.lt;have u0:=W2b.out.rs.1 0 _ rfl;have u1:=W2b.out.rs.1 1 _ rfl;have u2:=W2b.out.rs.1 2 _ rfl;have f0:=W2b.out.rs.2 0;have f1:=W2b.out.rs.2 1;have f2:=W2b.out.rs.2 2;have hul:=W2b.out.lt;go_wp2_with fail
 refine bodyPost_ret (v:=.tuple #[.agg #[.slice none 0 0,.slice none 0 0,.slice none 0 0],.int .i64 2]) (by simp [results,Tryz.results49,go_sem,u0,u1,u2,hul]) rfl ?_;exact ⟨((W2b.out.bl.setCell (Nat.le_succ _) _).setCell (Nat.le_succ _) _).setCell (Nat.le_succ _) _,fun _=>rfl,fun q=>absurd q (by first | assumption | decide)⟩
theorem qAG (E:qH1) (r:qL4) (a:Option Addr) (m cap:Nat) (cs:List qA4) (w:World) (hr:qG1 w r) (hle:QC0 1048576 r) (hc:qA6 w a m cs) (hcl:qG0 1048576 cs) (hm:m<=1048576) (hEr:qG2 1 w) (hH:qE2 w) (hk:qC4 cs=0) (hEC:qN7 E cs) (hbd:qI2 (f0C cs) r=true) (h40:r.sn<=40) (o:Option (List LkI)) (ho:qD2 E r.ss r.sn=o) (hno:o=none) :
  Calls Tryz.prog 49 #[.agg #[.int .i64 r.i,.int .i64 r.u,.slice r.sa r.sn r.sc,.slice r.la r.ln r.lc],.slice a m cap] w fun d w'=>qJW r a m cap 10 w d w':=by
 have hsn:=hle.said;have hln:=hle.locks;have hsn':(r.sn:Int)<=1048576:=by omega
 have HCF:Hid (∀ W:World,Below w.heap.size w W->Calls Tryz.prog 80 #[.slice a m cap] W fun e w'=>e = .returned (.int .i64 0)/\Below W.heap.size W w'):=fun W hb=>by rw [<- hk];exact qI9 a m cap cs W hm hcl (hc.below hb)
 obtain ⟨V,hV⟩:∃ V,V=(w.alloc (.cells #[.int .i64 r.i,.int .i64 r.u,.slice r.sa r.sn r.sc,.slice r.la r.ln r.lc] 36)).alloc (.cells #[.slice none 0 0,.slice none 0 0,.slice none 0 0] 91):=⟨_,rfl⟩;have W0:Hid (RW w r V):=by show RW w r V;rw [hV];exact RW.new w r
 obtain ⟨hm1,hm8,hok⟩:=qT4 hk;have hml:cs.length=m:=hc.len;have hm0:0 < m:=by omega
 have hm0':(0:Int) < (m:Int):=by omega
 obtain ⟨g,off,c0,rfl,hc0,hat,_⟩:=hc.at hm0
 obtain ⟨v0,v1,v2,v3,v4⟩:=hat;simp only [Nat.zero_mul,Nat.add_zero] at v0 v1 v2 v3 v4;have hgl:=zL w _ v0;have hf0:f0C cs=c0.f:=by unfold f0C;rw [hc0];rfl
 have hff:1<=c0.f/\c0.f<=2:=qHW (hok 0 c0 hc0).1;have HIB:Hid (∀ W:World,Calls Tryz.prog 81 #[.agg #[.int .i64 r.i,.int .i64 r.u,.slice r.sa r.sn r.sc,.slice r.la r.ln r.lc],.int .i64 c0.f] W fun e w'=>e = .returned (.bool true)/\Below W.heap.size W w'):=fun W=>by rw [<- hbd,hf0];exact qR9 c0.f hff r W hsn
 have V1:Hid (∀ W:World,Below w.heap.size w W->W.cell? ⟨g,off+1,none⟩=some (.int .i64 c0.f)):=fun W hb=>(hb.cell (p:=⟨g,off+1,none⟩) hgl).trans v1
 have h40':(r.sn:Int)<=40:=by omega
 have HSP:Hid (∀ W:World,Below w.heap.size w W->Calls Tryz.prog 82 #[.slice (some ⟨g,off,none⟩) m cap,.slice r.sa r.sn r.sc] W fun d w'=>qMj (some ⟨g,off,none⟩) m cap r.ss r.sn o W d w'):=fun W hb=>by
  rw [<- ho];exact QB1 E _ m cap cs r.sa r.sn r.sc r.ss W hEC (fun W' hb'=>⟨hc.below (hb.trans (hb'.mono hb.size)),hEr.below (hb.trans (hb'.mono hb.size)),hH.below (hb.trans (hb'.mono hb.size))⟩) hm0 (by omega) (hr.said.below hb) hsn
 have HLR:Hid (∀ W:World,Below w.heap.size w W->qK8 W r.la r.ln r.ls):=fun W hb=>hr.locks.below hb
 have HLN:Hid (r.ls.length=r.ln):=hr.locks.1;clear ho hEC;clear hok v0 v1 v2 v3 v4 hc0 hf0 hff hbd hml;clear hr hc hcl hEr hH hk hle;go_enter Tryz.func49,Tryz.ntmps49;go_upto_region 1 with fail
 rw [<- hV];clear hV;go_wp2_with fail
 refine (HCF.out _ W0.out.bl).mono ?_;rintro d w1 ⟨rfl,hb1⟩;have W1b:=qD7 (W0.out.below hb1);clear hb1 W0 HCF;have x0:=W1b.out.bx 0 _ rfl;have x1:=W1b.out.bx 1 _ rfl;have x2:=W1b.out.bx 2 _ rfl;have x3:=W1b.out.bx 3 _ rfl;have y1:=V1.out _ W1b.out.bl;have hxl:w.heap.size < w1.heap.size:=Nat.lt_of_succ_lt W1b.out.lt;have hgl1:g < w1.heap.size:=Nat.lt_of_lt_of_le hgl W1b.out.bl.size;go_upto_region 4 with fail
 refine wp_region_held_drew (S:=fun w'=>(∀ b o,b < w1.heap.size->w'.cell? ⟨b,o,none⟩=w1.cell? ⟨b,o,none⟩)/\Below w1.heap.size w1 w') (by kernel_rfl) (qC1 _) (fun hHeld=>?_);refine Zk.go [0,1,2,3,4] ?_
 iterate 5
  refine Zk.st (v:=?_) rfl ?_ ?_;rotate_left 1
  ·intro w hSw;(try dsimp only at hSw);go_simp;try (with_reducible rfl)
  try simp only [Act.put,zA,zB,zC,zD,zE,zF]
 refine Zk.fin ?_;refine Zk.rd (i:=5) rfl (fun K hK=>?_);go_simp;refine (HIB.out _).mono ?_;rintro d w2 ⟨rfl,hb2⟩;have hS:=qA9 hHeld hb2;refine hK.out _ _ hS (fun hHeld=>?_);clear hK K;try simp only [Act.put,zA,zB,zC,zD,zE,zF]
 refine Zk.go [6] ?_;refine Zk.st (v:=?_) rfl ?_ ?_;rotate_left 1
 ·intro w hSw;(try dsimp only at hSw);go_simp;try (with_reducible rfl)
 try simp only [Act.put,zA,zB,zC,zD,zE,zF]
 refine Zk.fin ?_;refine wpAnyH_done (by kernel_rfl) ?_ _;have W2b:=qD7 (W1b.out.below hS.2);clear hHeld hS W1b x0 x1 x2 x3 y1 hb2 HIB hxl hgl1;have x2:=W2b.out.bx 2 _ rfl;have hxl:w.heap.size < w2.heap.size:=Nat.lt_of_succ_lt W2b.out.lt;go_wp2_with fail
 refine (HSP.out _ W2b.out.bl).mono ?_;rintro d w3 ⟨hb3,hs1,hs2⟩;have W3b:=qD7 (W2b.out.below hb3);clear x2 hxl;obtain ⟨qa,qn,qc,ra,rn,rc,rfl⟩:=hs2 hno;have W4b:=qD7 (W3b.out.below ((Below.refl _ _).alloc (Nat.le_refl _) (.cells #[.slice (some ⟨g,off,none⟩) m cap,.slice qa qn qc,.slice ra rn rc] 91)));clear hs1 hs2 hb3 W3b W2b;have u0:=W4b.out.rs.1 0 _ rfl;have u1:=W4b.out.rs.1 1 _ rfl;have u2:=W4b.out.rs.1 2 _ rfl;have f0:=W4b.out.rs.2 0;have f1:=W4b.out.rs.2 1;have f2:=W4b.out.rs.2 2;have hul:=W4b.out.lt;go_wp2_with fail
 refine bodyPost_ret (v:=.tuple #[.agg #[.slice none 0 0,.slice none 0 0,.slice none 0 0],.int .i64 10]) (by simp [results,Tryz.results49,go_sem,u0,u1,u2,hul]) rfl ?_;exact ⟨((W4b.out.bl.setCell (Nat.le_succ _) _).setCell (Nat.le_succ _) _).setCell (Nat.le_succ _) _,fun _=>rfl,fun q=>absurd q (by first | assumption | decide)⟩
theorem QV8 (E:qH1) (r:qL4) (a:Option Addr) (m cap:Nat) (cs:List qA4) (w:World) (hr:qG1 w r) (hle:QC0 1048576 r) (hc:qA6 w a m cs) (hcl:qG0 1048576 cs) (hm:m<=1048576) (hEr:qG2 1 w) (hH:qE2 w) (hk:qC4 cs=0) (hEC:qN7 E cs) (hbd:qI2 (f0C cs) r=true) (h40:r.sn<=40) (o:Option (List LkI)) (ho:qD2 E r.ss r.sn=o) (ls:List LkI) (hso:o=some ls) (hll:ls.length<=1048576) (hde:decide (ls=r.ls)=false) :
  Calls Tryz.prog 49 #[.agg #[.int .i64 r.i,.int .i64 r.u,.slice r.sa r.sn r.sc,.slice r.la r.ln r.lc],.slice a m cap] w fun d w'=>qJW r a m cap 10 w d w':=by
 have hsn:=hle.said;have hln:=hle.locks;have hsn':(r.sn:Int)<=1048576:=by omega
 have HCF:Hid (∀ W:World,Below w.heap.size w W->Calls Tryz.prog 80 #[.slice a m cap] W fun e w'=>e = .returned (.int .i64 0)/\Below W.heap.size W w'):=fun W hb=>by rw [<- hk];exact qI9 a m cap cs W hm hcl (hc.below hb)
 obtain ⟨V,hV⟩:∃ V,V=(w.alloc (.cells #[.int .i64 r.i,.int .i64 r.u,.slice r.sa r.sn r.sc,.slice r.la r.ln r.lc] 36)).alloc (.cells #[.slice none 0 0,.slice none 0 0,.slice none 0 0] 91):=⟨_,rfl⟩;have W0:Hid (RW w r V):=by show RW w r V;rw [hV];exact RW.new w r
 obtain ⟨hm1,hm8,hok⟩:=qT4 hk;have hml:cs.length=m:=hc.len;have hm0:0 < m:=by omega
 have hm0':(0:Int) < (m:Int):=by omega
 obtain ⟨g,off,c0,rfl,hc0,hat,_⟩:=hc.at hm0
 obtain ⟨v0,v1,v2,v3,v4⟩:=hat;simp only [Nat.zero_mul,Nat.add_zero] at v0 v1 v2 v3 v4;have hgl:=zL w _ v0;have hf0:f0C cs=c0.f:=by unfold f0C;rw [hc0];rfl
 have hff:1<=c0.f/\c0.f<=2:=qHW (hok 0 c0 hc0).1;have HIB:Hid (∀ W:World,Calls Tryz.prog 81 #[.agg #[.int .i64 r.i,.int .i64 r.u,.slice r.sa r.sn r.sc,.slice r.la r.ln r.lc],.int .i64 c0.f] W fun e w'=>e = .returned (.bool true)/\Below W.heap.size W w'):=fun W=>by rw [<- hbd,hf0];exact qR9 c0.f hff r W hsn
 have V1:Hid (∀ W:World,Below w.heap.size w W->W.cell? ⟨g,off+1,none⟩=some (.int .i64 c0.f)):=fun W hb=>(hb.cell (p:=⟨g,off+1,none⟩) hgl).trans v1
 have h40':(r.sn:Int)<=40:=by omega
 have HSP:Hid (∀ W:World,Below w.heap.size w W->Calls Tryz.prog 82 #[.slice (some ⟨g,off,none⟩) m cap,.slice r.sa r.sn r.sc] W fun d w'=>qMj (some ⟨g,off,none⟩) m cap r.ss r.sn o W d w'):=fun W hb=>by
  rw [<- ho];exact QB1 E _ m cap cs r.sa r.sn r.sc r.ss W hEC (fun W' hb'=>⟨hc.below (hb.trans (hb'.mono hb.size)),hEr.below (hb.trans (hb'.mono hb.size)),hH.below (hb.trans (hb'.mono hb.size))⟩) hm0 (by omega) (hr.said.below hb) hsn
 have HLR:Hid (∀ W:World,Below w.heap.size w W->qK8 W r.la r.ln r.ls):=fun W hb=>hr.locks.below hb
 have HLN:Hid (r.ls.length=r.ln):=hr.locks.1
 have HEQ:Hid (∀ (W:World) (la:Option Addr) (lc:Nat),qK8 W la ls.length ls->Below w.heap.size w W->Calls Tryz.prog 83 #[.slice la ls.length lc,.slice r.la r.ln r.lc] W fun e w'=>e = .returned (.bool false)/\Below W.heap.size W w'):=fun W la lc hl hb=>by
  have q:=QK8 la r.la ls.length r.ln lc r.lc ls r.ls W hll hln hl (HLR.out _ hb);rw [hde] at q;exact q
 clear ho hEC hde;clear hok v0 v1 v2 v3 v4 hc0 hf0 hff hbd hml;clear hr hc hcl hEr hH hk hle;go_enter Tryz.func49,Tryz.ntmps49;go_upto_region 1 with fail
 rw [<- hV];clear hV;go_wp2_with fail
 refine (HCF.out _ W0.out.bl).mono ?_;rintro d w1 ⟨rfl,hb1⟩;have W1b:=qD7 (W0.out.below hb1);clear hb1 W0 HCF;have x0:=W1b.out.bx 0 _ rfl;have x1:=W1b.out.bx 1 _ rfl;have x2:=W1b.out.bx 2 _ rfl;have x3:=W1b.out.bx 3 _ rfl;have y1:=V1.out _ W1b.out.bl;have hxl:w.heap.size < w1.heap.size:=Nat.lt_of_succ_lt W1b.out.lt;have hgl1:g < w1.heap.size:=Nat.lt_of_lt_of_le hgl W1b.out.bl.size;go_upto_region 4 with fail
 refine wp_region_held_drew (S:=fun w'=>(∀ b o,b < w1.heap.size->w'.cell? ⟨b,o,none⟩=w1.cell? ⟨b,o,none⟩)/\Below w1.heap.size w1 w') (by kernel_rfl) (qC1 _) (fun hHeld=>?_);refine Zk.go [0,1,2,3,4] ?_
 iterate 5
  refine Zk.st (v:=?_) rfl ?_ ?_;rotate_left 1
  ·intro w hSw;(try dsimp only at hSw);go_simp;try (with_reducible rfl)
  try simp only [Act.put,zA,zB,zC,zD,zE,zF]
 refine Zk.fin ?_;refine Zk.rd (i:=5) rfl (fun K hK=>?_);go_simp;refine (HIB.out _).mono ?_;rintro d w2 ⟨rfl,hb2⟩;have hS:=qA9 hHeld hb2;refine hK.out _ _ hS (fun hHeld=>?_);clear hK K;try simp only [Act.put,zA,zB,zC,zD,zE,zF]
 refine Zk.go [6] ?_;refine Zk.st (v:=?_) rfl ?_ ?_;rotate_left 1
 ·intro w hSw;(try dsimp only at hSw);go_simp;try (with_reducible rfl)
 try simp only [Act.put,zA,zB,zC,zD,zE,zF]
 refine Zk.fin ?_;refine wpAnyH_done (by kernel_rfl) ?_ _;have W2b:=qD7 (W1b.out.below hS.2);clear hHeld hS W1b x0 x1 x2 x3 y1 hb2 HIB hxl hgl1;have x2:=W2b.out.bx 2 _ rfl;have hxl:w.heap.size < w2.heap.size:=Nat.lt_of_succ_lt W2b.out.lt;go_wp2_with fail
 refine (HSP.out _ W2b.out.bl).mono ?_;rintro d w3 ⟨hb3,hs1,hs2⟩;have W3b:=qD7 (W2b.out.below hb3);clear x2 hxl;obtain ⟨sa,sc,la,lc,rfl,ho1,ho2⟩:=hs1 ls hso;have O1:=qD7 (ho1.below (w':=w3.alloc (.cells #[.slice (some ⟨g,off,none⟩) m cap,.slice sa r.sn sc,.slice la ls.length lc] 91)) (zN));have O2:=qD7 (ho2.below (w':=w3.alloc (.cells #[.slice (some ⟨g,off,none⟩) m cap,.slice sa r.sn sc,.slice la ls.length lc] 91)) (zN));have W4b:=qD7 (W3b.out.below ((Below.refl _ _).alloc (Nat.le_refl _) (.cells #[.slice (some ⟨g,off,none⟩) m cap,.slice sa r.sn sc,.slice la ls.length lc] 91)));have B2s:=W2b.out.bl.size;have B2l:=W2b.out.lt;obtain ⟨Y,hY⟩:∃ Y,Y=w3.alloc (.cells #[.slice (some ⟨g,off,none⟩) m cap,.slice sa r.sn sc,.slice la ls.length lc] 91):=⟨_,rfl⟩;have XY:Hid (qV9 w3.heap.size [.slice (some ⟨g,off,none⟩) m cap,.slice sa r.sn sc,.slice la ls.length lc] Y/\w3.heap.size < Y.heap.size):=by rw [hY];exact ⟨(qE6 w3 _ _).out,by simp⟩
 rw [<- hY] at O1 O2 W4b;clear hs1 hs2 hb3 W3b W2b ho1 ho2;go_upto_region 9 with fail
 rw [<- hY];clear hY;generalize w3.heap.size=q3 at XY ⊢
 have s0:=XY.out.1 0 _ rfl;have s1:=XY.out.1 1 _ rfl;have s2:=XY.out.1 2 _ rfl;have hsl:=XY.out.2;have x3:=W4b.out.bx 3 _ rfl;have hxl:w.heap.size < Y.heap.size:=Nat.lt_of_succ_lt W4b.out.lt;go_wp2_with fail
 refine (HEQ.out _ _ lc (LkV.isIn rfl O2.out.view) W4b.out.bl).mono ?_;rintro d w5 ⟨rfl,hb5⟩;have W5b:=qD7 (W4b.out.below hb5);clear s0 s1 s2 hsl x3 hxl;have u0:=W5b.out.rs.1 0 _ rfl;have u1:=W5b.out.rs.1 1 _ rfl;have u2:=W5b.out.rs.1 2 _ rfl;have f0:=W5b.out.rs.2 0;have f1:=W5b.out.rs.2 1;have f2:=W5b.out.rs.2 2;have hul:=W5b.out.lt;go_wp2_with fail
 refine bodyPost_ret (v:=.tuple #[.agg #[.slice none 0 0,.slice none 0 0,.slice none 0 0],.int .i64 10]) (by simp [results,Tryz.results49,go_sem,u0,u1,u2,hul]) rfl ?_;exact ⟨((W5b.out.bl.setCell (Nat.le_succ _) _).setCell (Nat.le_succ _) _).setCell (Nat.le_succ _) _,fun _=>rfl,fun q=>absurd q (by first | assumption | decide)⟩
theorem qEX (E:qH1) (r:qL4) (a:Option Addr) (m cap:Nat) (cs:List qA4) (w:World) (hr:qG1 w r) (hle:QC0 1048576 r) (hc:qA6 w a m cs) (hcl:qG0 1048576 cs) (hm:m<=1048576) (hEr:qG2 1 w) (hH:qE2 w) (hk:qC4 cs=0) (hEC:qN7 E cs) (hbd:qI2 (f0C cs) r=true) (h40:r.sn<=40) (o:Option (List LkI)) (ho:qD2 E r.ss r.sn=o) (ls:List LkI) (hso:o=some ls) (hll:ls.length<=1048576) (hls:ls=r.ls) (hde:decide (ls=r.ls)=true) :
  Calls Tryz.prog 49 #[.agg #[.int .i64 r.i,.int .i64 r.u,.slice r.sa r.sn r.sc,.slice r.la r.ln r.lc],.slice a m cap] w fun d w'=>qJW r a m cap 0 w d w':=by
 have hsn:=hle.said;have hln:=hle.locks;have hsn':(r.sn:Int)<=1048576:=by omega
 have HCF:Hid (∀ W:World,Below w.heap.size w W->Calls Tryz.prog 80 #[.slice a m cap] W fun e w'=>e = .returned (.int .i64 0)/\Below W.heap.size W w'):=fun W hb=>by rw [<- hk];exact qI9 a m cap cs W hm hcl (hc.below hb)
 obtain ⟨V,hV⟩:∃ V,V=(w.alloc (.cells #[.int .i64 r.i,.int .i64 r.u,.slice r.sa r.sn r.sc,.slice r.la r.ln r.lc] 36)).alloc (.cells #[.slice none 0 0,.slice none 0 0,.slice none 0 0] 91):=⟨_,rfl⟩;have W0:Hid (RW w r V):=by show RW w r V;rw [hV];exact RW.new w r
 obtain ⟨hm1,hm8,hok⟩:=qT4 hk;have hml:cs.length=m:=hc.len;have hm0:0 < m:=by omega
 have hm0':(0:Int) < (m:Int):=by omega
 obtain ⟨g,off,c0,rfl,hc0,hat,_⟩:=hc.at hm0
 obtain ⟨v0,v1,v2,v3,v4⟩:=hat;simp only [Nat.zero_mul,Nat.add_zero] at v0 v1 v2 v3 v4;have hgl:=zL w _ v0;have hf0:f0C cs=c0.f:=by unfold f0C;rw [hc0];rfl
 have hff:1<=c0.f/\c0.f<=2:=qHW (hok 0 c0 hc0).1;have HIB:Hid (∀ W:World,Calls Tryz.prog 81 #[.agg #[.int .i64 r.i,.int .i64 r.u,.slice r.sa r.sn r.sc,.slice r.la r.ln r.lc],.int .i64 c0.f] W fun e w'=>e = .returned (.bool true)/\Below W.heap.size W w'):=fun W=>by rw [<- hbd,hf0];exact qR9 c0.f hff r W hsn
 have V1:Hid (∀ W:World,Below w.heap.size w W->W.cell? ⟨g,off+1,none⟩=some (.int .i64 c0.f)):=fun W hb=>(hb.cell (p:=⟨g,off+1,none⟩) hgl).trans v1
 have h40':(r.sn:Int)<=40:=by omega
 have HSP:Hid (∀ W:World,Below w.heap.size w W->Calls Tryz.prog 82 #[.slice (some ⟨g,off,none⟩) m cap,.slice r.sa r.sn r.sc] W fun d w'=>qMj (some ⟨g,off,none⟩) m cap r.ss r.sn o W d w'):=fun W hb=>by
  rw [<- ho];exact QB1 E _ m cap cs r.sa r.sn r.sc r.ss W hEC (fun W' hb'=>⟨hc.below (hb.trans (hb'.mono hb.size)),hEr.below (hb.trans (hb'.mono hb.size)),hH.below (hb.trans (hb'.mono hb.size))⟩) hm0 (by omega) (hr.said.below hb) hsn
 have HLR:Hid (∀ W:World,Below w.heap.size w W->qK8 W r.la r.ln r.ls):=fun W hb=>hr.locks.below hb
 have HLN:Hid (r.ls.length=r.ln):=hr.locks.1
 have HEQ:Hid (∀ (W:World) (la:Option Addr) (lc:Nat),qK8 W la ls.length ls->Below w.heap.size w W->Calls Tryz.prog 83 #[.slice la ls.length lc,.slice r.la r.ln r.lc] W fun e w'=>e = .returned (.bool true)/\Below W.heap.size W w'):=fun W la lc hl hb=>by
  have q:=QK8 la r.la ls.length r.ln lc r.lc ls r.ls W hll hln hl (HLR.out _ hb);rw [hde] at q;exact q
 have HLS:Hid (ls=r.ls):=hls;clear ho hEC hde hls;clear hok v0 v1 v2 v3 v4 hc0 hf0 hff hbd hml;clear hr hc hcl hEr hH hk hle;go_enter Tryz.func49,Tryz.ntmps49;go_upto_region 1 with fail
 rw [<- hV];clear hV;go_wp2_with fail
 refine (HCF.out _ W0.out.bl).mono ?_;rintro d w1 ⟨rfl,hb1⟩;have W1b:=qD7 (W0.out.below hb1);clear hb1 W0 HCF;have x0:=W1b.out.bx 0 _ rfl;have x1:=W1b.out.bx 1 _ rfl;have x2:=W1b.out.bx 2 _ rfl;have x3:=W1b.out.bx 3 _ rfl;have y1:=V1.out _ W1b.out.bl;have hxl:w.heap.size < w1.heap.size:=Nat.lt_of_succ_lt W1b.out.lt;have hgl1:g < w1.heap.size:=Nat.lt_of_lt_of_le hgl W1b.out.bl.size;go_upto_region 4 with fail
 refine wp_region_held_drew (S:=fun w'=>(∀ b o,b < w1.heap.size->w'.cell? ⟨b,o,none⟩=w1.cell? ⟨b,o,none⟩)/\Below w1.heap.size w1 w') (by kernel_rfl) (qC1 _) (fun hHeld=>?_);refine Zk.go [0,1,2,3,4] ?_
 iterate 5
  refine Zk.st (v:=?_) rfl ?_ ?_;rotate_left 1
  ·intro w hSw;(try dsimp only at hSw);go_simp;try (with_reducible rfl)
  try simp only [Act.put,zA,zB,zC,zD,zE,zF]
 refine Zk.fin ?_;refine Zk.rd (i:=5) rfl (fun K hK=>?_);go_simp;refine (HIB.out _).mono ?_;rintro d w2 ⟨rfl,hb2⟩;have hS:=qA9 hHeld hb2;refine hK.out _ _ hS (fun hHeld=>?_);clear hK K;try simp only [Act.put,zA,zB,zC,zD,zE,zF]
 refine Zk.go [6] ?_;refine Zk.st (v:=?_) rfl ?_ ?_;rotate_left 1
 ·intro w hSw;(try dsimp only at hSw);go_simp;try (with_reducible rfl)
 try simp only [Act.put,zA,zB,zC,zD,zE,zF]
 refine Zk.fin ?_;refine wpAnyH_done (by kernel_rfl) ?_ _;have W2b:=qD7 (W1b.out.below hS.2);clear hHeld hS W1b x0 x1 x2 x3 y1 hb2 HIB hxl hgl1;have x2:=W2b.out.bx 2 _ rfl;have hxl:w.heap.size < w2.heap.size:=Nat.lt_of_succ_lt W2b.out.lt;go_wp2_with fail
 refine (HSP.out _ W2b.out.bl).mono ?_;rintro d w3 ⟨hb3,hs1,hs2⟩;have W3b:=qD7 (W2b.out.below hb3);clear x2 hxl;obtain ⟨sa,sc,la,lc,rfl,ho1,ho2⟩:=hs1 ls hso;have O1:=qD7 (ho1.below (w':=w3.alloc (.cells #[.slice (some ⟨g,off,none⟩) m cap,.slice sa r.sn sc,.slice la ls.length lc] 91)) (zN));have O2:=qD7 (ho2.below (w':=w3.alloc (.cells #[.slice (some ⟨g,off,none⟩) m cap,.slice sa r.sn sc,.slice la ls.length lc] 91)) (zN));have W4b:=qD7 (W3b.out.below ((Below.refl _ _).alloc (Nat.le_refl _) (.cells #[.slice (some ⟨g,off,none⟩) m cap,.slice sa r.sn sc,.slice la ls.length lc] 91)));have B2s:=W2b.out.bl.size;have B2l:=W2b.out.lt;obtain ⟨Y,hY⟩:∃ Y,Y=w3.alloc (.cells #[.slice (some ⟨g,off,none⟩) m cap,.slice sa r.sn sc,.slice la ls.length lc] 91):=⟨_,rfl⟩;have XY:Hid (qV9 w3.heap.size [.slice (some ⟨g,off,none⟩) m cap,.slice sa r.sn sc,.slice la ls.length lc] Y/\w3.heap.size < Y.heap.size):=by rw [hY];exact ⟨(qE6 w3 _ _).out,by simp⟩
 rw [<- hY] at O1 O2 W4b;clear hs1 hs2 hb3 W3b W2b ho1 ho2;go_upto_region 9 with fail
 rw [<- hY];clear hY;generalize w3.heap.size=q3 at XY ⊢
 have s0:=XY.out.1 0 _ rfl;have s1:=XY.out.1 1 _ rfl;have s2:=XY.out.1 2 _ rfl;have hsl:=XY.out.2;have x3:=W4b.out.bx 3 _ rfl;have hxl:w.heap.size < Y.heap.size:=Nat.lt_of_succ_lt W4b.out.lt;go_wp2_with fail
 refine (HEQ.out _ _ lc (LkV.isIn rfl O2.out.view) W4b.out.bl).mono ?_;rintro d w5 ⟨rfl,hb5⟩;have W5b:=qD7 (W4b.out.below hb5);have X5:qV9 q3 [.slice (some ⟨g,off,none⟩) m cap,.slice sa r.sn sc,.slice la ls.length lc] w5:=((qV9.hold XY.out.1 XY.out.2).below hb5).out;have O5:=qD7 (O1.out.below hb5);have P5:=qD7 (O2.out.below hb5);have hq5:q3 < w5.heap.size:=Nat.lt_of_lt_of_le XY.out.2 hb5.size;clear s0 s1 s2 hsl x3 hxl;have s0:=X5 0 _ rfl;have s1:=X5 1 _ rfl;have s2:=X5 2 _ rfl;have u0:=W5b.out.rs.1 0 _ rfl;have u1:=W5b.out.rs.1 1 _ rfl;have u2:=W5b.out.rs.1 2 _ rfl;have f0:=W5b.out.rs.2 0;have f1:=W5b.out.rs.2 1;have f2:=W5b.out.rs.2 2;have hul:=W5b.out.lt;clear X5;go_wp2_with fail
 refine bodyPost_ret (v:=.tuple #[.agg #[.slice (some ⟨g,off,none⟩) m cap,.slice sa r.sn sc,.slice la ls.length lc],.int .i64 0]) (by simp [results,Tryz.results49,go_sem,u0,u1,u2,hul]) rfl ?_;refine ⟨((W5b.out.bl.setCell (Nat.le_succ _) _).setCell (Nat.le_succ _) _).setCell (Nat.le_succ _) _,fun q=>absurd rfl q,fun _=>?_⟩;have hls:=HLS.out;subst hls;rw [HLN.out];refine ⟨sa,sc,la,lc,rfl,qA0 (qC0 O5.out (by omega)) (fun g' e=>?_),qA0 (?_:qA7 w5 w.heap.size (.slice la r.ln lc) r.ls) (fun g' e=>?_)⟩
 ·obtain ⟨cur,hcc,hgg⟩:=qC5 O5.out e;have h0:=W5b.out.lt;rw [zS (by show g'≠w.heap.size+1;omega),zS (by show g'≠w.heap.size+1;omega),zS (by show g'≠w.heap.size+1;omega)]
 ·have:=qB0 P5.out (show w.heap.size<=_ by omega);rw [HLN.out] at this;exact this
 ·have P6:=P5.out;rw [HLN.out] at P6;obtain ⟨cur,hcc,hgg⟩:=qC6 P6 e;rw [zS (by show g'≠w.heap.size+1;omega),zS (by show g'≠w.heap.size+1;omega),zS (by show g'≠w.heap.size+1;omega)]

theorem QW1 {E:qH1} {xs:List StI}:∀ (k:Nat) (ls:List LkI),qD2 E xs k=some ls->k<=xs.length->ls.length<=1048576:=fun k ls h hk=>by
 have:=(QL6 k ls hk h).lk;exact Nat.le_trans (QF7 this).1 (by omega)
theorem qGE (E:qH1) (r:qL4) (a:Option Addr) (m cap:Nat) (cs:List qA4) (w:World) (hr:qG1 w r) (hle:QC0 1048576 r) (hc:qA6 w a m cs) (hcl:qG0 1048576 cs) (hm:m<=1048576) (hEr:qG2 1 w) (hH:qE2 w) (hEC:qC4 cs=0->qN7 E cs) :
  Calls Tryz.prog 49 #[.agg #[.int .i64 r.i,.int .i64 r.u,.slice r.sa r.sn r.sc,.slice r.la r.ln r.lc],.slice a m cap] w fun d w'=>qJW r a m cap (qT9 E cs r) w d w':=by
 unfold qT9;by_cases hk:qC4 cs=0
 ·rw [if_pos hk];cases hb:qI2 (f0C cs) r
  ·rw [if_neg (by decide)];exact QQ5 E r a m cap cs w hr hle hc hcl hm hEr hH hk hb
  ·rw [if_pos rfl];by_cases h40:40 < r.sn
   ·rw [if_pos h40];exact qAH E r a m cap cs w hr hle hc hcl hm hEr hH hk hb h40
   ·rw [if_neg h40];cases ho:qD2 E r.ss r.sn with
    | none =>
     rw [if_neg (by intro q;cases q)];exact qAG E r a m cap cs w hr hle hc hcl hm hEr hH hk (hEC hk) hb (by omega) _ ho rfl
    | some ls =>
     have hll:ls.length<=1048576:=QW1 r.sn ls ho (by rw [hr.said.1];exact Nat.le_refl _);by_cases e:ls=r.ls
     ·rw [if_pos (by rw [e])];exact qEX E r a m cap cs w hr hle hc hcl hm hEr hH hk (hEC hk) hb (by omega) _ ho ls rfl hll e (decide_eq_true e)
     ·rw [if_neg (fun q=>e (Option.some.inj q))];exact QV8 E r a m cap cs w hr hle hc hcl hm hEr hH hk (hEC hk) hb (by omega) _ ho ls rfl hll (decide_eq_false e)
 ·rw [if_neg hk];exact qAI E r a m cap cs w hr hle hc hcl hm hEr hH _ rfl hk

theorem qGD (b:Nat) (i u:Int) (cv:Value) (sa:Option Addr) (n sc:Nat) (la:Option Addr) (m lc:Nat) (w:World) (hs:qX8 w b cv (.slice sa n sc) (.slice la m lc)) :
  Calls Tryz.prog 51 #[.pointer (some ⟨b,0,none⟩),.int .i64 i,.int .i64 u] w fun d w'=>d = .returned (.agg #[.int .i64 0,.int .i64 i,.int .i64 u,.slice sa n sc,.slice la m lc])/\Below w.heap.size w w':=by
 have hbl:=hs.lt;obtain ⟨W,hW⟩:∃ W,W=w.alloc (.cells #[.int .i64 0,.int .i64 0,.int .i64 0,.slice none 0 0,.slice none 0 0] 48):=⟨_,rfl⟩;have A0:Below w.heap.size w W:=by rw [hW];exact zN
 have X0:qH0 w.heap.size [.int .i64 0,.int .i64 0,.int .i64 0,.slice none 0 0,.slice none 0 0] W:=by rw [hW];exact qG7 w _ _
 have hwl:w.heap.size < W.heap.size:=by rw [hW];simp
 have s1:=(hs.below A0).c1;have s2:=(hs.below A0).c2;have hbW:b < W.heap.size:=by omega
 have hne:b≠w.heap.size:=by omega
 have z0:=X0.1 0 _ rfl;have z1:=X0.1 1 _ rfl;have z2:=X0.1 2 _ rfl;have z3:=X0.1 3 _ rfl;have z4:=X0.1 4 _ rfl;have f0:=X0.2 0;have f1:=X0.2 1;have f2:=X0.2 2;have f3:=X0.2 3;have f4:=X0.2 4;have HB:=qD7 A0;clear hs A0 X0;go_enter Tryz.func51,Tryz.ntmps51;go_upto_region 1 with fail
 rw [<- hW];clear hW;go_region
 go_wp2_with fail
 refine bodyPost_ret (v:=.agg #[.int .i64 0,.int .i64 i,.int .i64 u,.slice sa n sc,.slice la m lc]) (by simp [results,Tryz.results51,go_sem,z0,z1,z2,z3,z4,hwl]) rfl ⟨rfl,?_⟩
 first
  | exact (((((HB.out.setCell (Nat.le_refl _) _).setCell (Nat.le_refl _) _).setCell (Nat.le_refl _) _).setCell (Nat.le_refl _) _).setCell (Nat.le_refl _) _).drew
  | exact ((((HB.out.drew.setCell (Nat.le_refl _) _).setCell (Nat.le_refl _) _).setCell (Nat.le_refl _) _).setCell (Nat.le_refl _) _).setCell (Nat.le_refl _) _

def qMx (k i u:Int) (S:List StI) (L:List LkI) (w:World) (d:Ending) (w':World):Prop :=
 Below w.heap.size w w'/\(k≠0->d = .returned (.agg #[.int .i64 k,.int .i64 0,.int .i64 0,.slice none 0 0,.slice none 0 0]))/\(k=0->∃ (sa:Option Addr) (sc:Nat) (la:Option Addr) (lc:Nat),d = .returned (.agg #[.int .i64 0,.int .i64 i,.int .i64 u,.slice sa S.length sc,.slice la L.length lc])/\qB2 w' w.heap.size (.slice sa S.length sc) S/\qA7 w' w.heap.size (.slice la L.length lc) L)

theorem qJf {E:qH1} {cs:List qA4} {r:qL4} (h:qT9 E cs r=0):qC4 cs=0/\qD2 E r.ss r.sn=some r.ls:=by
 unfold qT9 at h;by_cases hk:qC4 cs=0
 ·rw [if_pos hk] at h;refine ⟨hk,?_⟩;split at h
  ·split at h
   ·cases h
   ·split at h
    ·assumption
    ·cases h
  ·cases h
 ·rw [if_neg hk] at h;exact absurd h hk
