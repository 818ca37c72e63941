/- Contracts. -/
import Derived.Test.YtlpgapdlepbgbaaGreatDoorPe38
namespace Go.Proofs.YtlpgapdlepbgbaaGreatDoor
set_option maxRecDepth 100000
set_option maxHeartbeats 8000000
open Go.RowKit
set_option linter.unusedVariables false
set_option linter.unusedSimpArgs false

def f0C (cs:List qA4):Int:=(cs[0]?.getD default).f
def qM3 (E:qI1) (cs:List qA4) (r:qH4):Int:=if qB8 cs=0 then (if qI7 (f0C cs) r=true then (if 40 < r.sn then 2 else if qF6 E r.ss r.sn=some r.ls then 0 else 10) else 3) else qB8 cs
structure RW (w:World) (r:qH4) (W:World):Prop where
 bx:qE8 w.heap.size [.int .i64 r.i,.int .i64 r.u,.slice r.sa r.sn r.sc,.slice r.la r.ln r.lc] W
 rs:qG2 (w.heap.size+1) [.slice none 0 0,.slice none 0 0,.slice none 0 0] W
 lt:w.heap.size+1 < W.heap.size
 bl:Below w.heap.size w W
theorem RW.below {w:World} {r:qH4} {W W':World} (h:RW w r W) (hb:Below W.heap.size W W'):RW w r W' :=
 ⟨((qE8.hold h.bx (Nat.lt_of_succ_lt h.lt)).below hb).out,qG2.below h.rs h.lt hb,Nat.lt_of_lt_of_le h.lt hb.size,h.bl.trans (hb.mono h.bl.size)⟩
theorem RW.new (w:World) (r:qH4):RW w r ((w.alloc (.cells #[.int .i64 r.i,.int .i64 r.u,.slice r.sa r.sn r.sc,.slice r.la r.ln r.lc] 33)).alloc (.cells #[.slice none 0 0,.slice none 0 0,.slice none 0 0] 74)):=by
 have e:w.heap.size+1=(w.alloc (.cells #[.int .i64 r.i,.int .i64 r.u,.slice r.sa r.sn r.sc,.slice r.la r.ln r.lc] 33)).heap.size:=by simp
 refine ⟨((qF2 w _ _).below (zN)).out,?_,by simp,(zN).alloc (by simp) _⟩
 rw [e]
 exact qE1 _ _ _
def RebR (r:qH4) (a:Option Addr) (m cap:Nat) (k:Int) (w:World) (d:Ending) (w':World):Prop :=
 Below w.heap.size w w'∧(k≠0→d = .returned (.tuple #[.agg #[.slice none 0 0,.slice none 0 0,.slice none 0 0],.int .i64 k]))∧(k=0→∃ (sa:Option Addr) (sc:Nat) (la:Option Addr) (lc:Nat),d = .returned (.tuple #[.agg #[.slice a m cap,.slice sa r.sn sc,.slice la r.ln lc],.int .i64 0])∧qB1 w' w.heap.size (.slice sa r.sn sc) r.ss∧qA5 w' w.heap.size (.slice la r.ln lc) r.ls)
theorem f_of {c:qA4} (h:qU8 c=0):1≤c.f∧c.f≤2:=by
 have:=(QF9 h).2.1
 simpa [inR] using this
theorem QY7 (E:qI1) (r:qH4) (a:Option Addr) (m cap:Nat) (cs:List qA4) (w:World) (hr:qE3 w r) (hle:qL7 1048576 r) (hc:qA7 w a m cs) (hcl:qF5 1048576 cs) (hm:m≤1048576) (hEr:qN1 0 w) (hH:qD9 w) (k:Int) (hk:qB8 cs=k) (hk0:k≠0) :
  Calls Tryz.prog 37 #[.agg #[.int .i64 r.i,.int .i64 r.u,.slice r.sa r.sn r.sc,.slice r.la r.ln r.lc],.slice a m cap] w fun d w'=>RebR r a m cap k w d w':=by
 have hsn:=hle.said
 have hln:=hle.locks
 have hsn':(r.sn:Int)≤1048576:=by omega
 have HCF:Hid (∀ W:World,Below w.heap.size w W→Calls Tryz.prog 63 #[.slice a m cap] W fun e w'=>e = .returned (.int .i64 k)∧Below W.heap.size W w'):=fun W hb=>by rw [← hk];exact qJ7 a m cap cs W hm hcl (hc.below hb)
 obtain ⟨V,hV⟩:∃ V,V=(w.alloc (.cells #[.int .i64 r.i,.int .i64 r.u,.slice r.sa r.sn r.sc,.slice r.la r.ln r.lc] 33)).alloc (.cells #[.slice none 0 0,.slice none 0 0,.slice none 0 0] 74):=⟨_,rfl⟩
 have W0:Hid (RW w r V):=by show RW w r V;rw [hV];exact RW.new w r
 have kb:(k != 0)=true:=by simp [hk0]
 clear hr hc hcl hEr hH hk hle
 go_enter Tryz.func37,Tryz.ntmps37
 go_upto_region 1 with fail
 rw [← hV]
 clear hV
 go_wp2_with fail
 refine (HCF.out _ W0.out.bl).mono ?_
 rintro d w1 ⟨rfl,hb1⟩
 have W1b:=qC8 (W0.out.below hb1)
 clear hb1 W0 HCF
 have u0:=W1b.out.rs.1 0 _ rfl
 have u1:=W1b.out.rs.1 1 _ rfl
 have u2:=W1b.out.rs.1 2 _ rfl
 have f0:=W1b.out.rs.2 0
 have f1:=W1b.out.rs.2 1
 have f2:=W1b.out.rs.2 2
 have hul:=W1b.out.lt
 go_wp2_with fail
 refine bodyPost_ret (v:=.tuple #[.agg #[.slice none 0 0,.slice none 0 0,.slice none 0 0],.int .i64 k]) (by simp [results,Tryz.results37,go_sem,u0,u1,u2,hul]) rfl ?_
 exact ⟨((W1b.out.bl.setCell (Nat.le_succ _) _).setCell (Nat.le_succ _) _).setCell (Nat.le_succ _) _,fun _=>rfl,fun q=>absurd q (by first | assumption | decide)⟩
theorem QO8 (E:qI1) (r:qH4) (a:Option Addr) (m cap:Nat) (cs:List qA4) (w:World) (hr:qE3 w r) (hle:qL7 1048576 r) (hc:qA7 w a m cs) (hcl:qF5 1048576 cs) (hm:m≤1048576) (hEr:qN1 0 w) (hH:qD9 w) (hk:qB8 cs=0) (hbd:qI7 (f0C cs) r=false) :
  Calls Tryz.prog 37 #[.agg #[.int .i64 r.i,.int .i64 r.u,.slice r.sa r.sn r.sc,.slice r.la r.ln r.lc],.slice a m cap] w fun d w'=>RebR r a m cap 3 w d w':=by
 have hsn:=hle.said
 have hln:=hle.locks
 have hsn':(r.sn:Int)≤1048576:=by omega
 have HCF:Hid (∀ W:World,Below w.heap.size w W→Calls Tryz.prog 63 #[.slice a m cap] W fun e w'=>e = .returned (.int .i64 0)∧Below W.heap.size W w'):=fun W hb=>by rw [← hk];exact qJ7 a m cap cs W hm hcl (hc.below hb)
 obtain ⟨V,hV⟩:∃ V,V=(w.alloc (.cells #[.int .i64 r.i,.int .i64 r.u,.slice r.sa r.sn r.sc,.slice r.la r.ln r.lc] 33)).alloc (.cells #[.slice none 0 0,.slice none 0 0,.slice none 0 0] 74):=⟨_,rfl⟩
 have W0:Hid (RW w r V):=by show RW w r V;rw [hV];exact RW.new w r
 obtain ⟨hm1,hm8,hok⟩:=qU0 hk
 have hml:cs.length=m:=hc.len
 have hm0:0 < m:=by omega
 have hm0':(0:Int) < (m:Int):=by omega
 obtain ⟨g,off,c0,rfl,hc0,hat,_⟩:=hc.at hm0
 obtain ⟨v0,v1,v2,v3,v4⟩:=hat
 simp only [Nat.zero_mul,Nat.add_zero] at v0 v1 v2 v3 v4
 have hgl:=zL w _ v0
 have hf0:f0C cs=c0.f:=by unfold f0C;rw [hc0];rfl
 have hff:1≤c0.f∧c0.f≤2:=f_of (hok 0 c0 hc0).1
 have HIB:Hid (∀ W:World,Calls Tryz.prog 64 #[.agg #[.int .i64 r.i,.int .i64 r.u,.slice r.sa r.sn r.sc,.slice r.la r.ln r.lc],.int .i64 c0.f] W fun e w'=>e = .returned (.bool false)∧Below W.heap.size W w'):=fun W=>by rw [← hbd,hf0];exact qS4 c0.f hff r W hsn
 have V1:Hid (∀ W:World,Below w.heap.size w W→W.cell? ⟨g,off+1,none⟩=some (.int .i64 c0.f)):=fun W hb=>(hb.cell (p:=⟨g,off+1,none⟩) hgl).trans v1
 clear hok v0 v1 v2 v3 v4 hc0 hf0 hff hbd hml
 clear hr hc hcl hEr hH hk hle
 go_enter Tryz.func37,Tryz.ntmps37
 go_upto_region 1 with fail
 rw [← hV]
 clear hV
 go_wp2_with fail
 refine (HCF.out _ W0.out.bl).mono ?_
 rintro d w1 ⟨rfl,hb1⟩
 have W1b:=qC8 (W0.out.below hb1)
 clear hb1 W0 HCF
 have x0:=W1b.out.bx 0 _ rfl
 have x1:=W1b.out.bx 1 _ rfl
 have x2:=W1b.out.bx 2 _ rfl
 have x3:=W1b.out.bx 3 _ rfl
 have y1:=V1.out _ W1b.out.bl
 have hxl:w.heap.size < w1.heap.size:=Nat.lt_of_succ_lt W1b.out.lt
 have hgl1:g < w1.heap.size:=Nat.lt_of_lt_of_le hgl W1b.out.bl.size
 go_upto_region 4 with fail
 refine wp_region_held_drew (S:=fun w'=>(∀ b o,b < w1.heap.size→w'.cell? ⟨b,o,none⟩=w1.cell? ⟨b,o,none⟩)∧Below w1.heap.size w1 w') (by kernel_rfl) (qB4 _) (fun hHeld=>?_)
 refine Zk.go [0,1,2,3,4] ?_
 iterate 5
  refine Zk.st (v:=?_) rfl ?_ ?_
  rotate_left 1
  ·intro w hSw;(try dsimp only at hSw);go_simp;try (with_reducible rfl)
  try simp only [Act.put,zA,zB,zC,zD,zE,zF]
 refine Zk.fin ?_
 refine Zk.rd (i:=5) rfl (fun K hK=>?_)
 go_simp
 refine (HIB.out _).mono ?_
 rintro d w2 ⟨rfl,hb2⟩
 have hS:=qA0 hHeld hb2
 refine hK.out _ _ hS (fun hHeld=>?_)
 clear hK K
 try simp only [Act.put,zA,zB,zC,zD,zE,zF]
 refine Zk.go [6] ?_
 refine Zk.st (v:=?_) rfl ?_ ?_
 rotate_left 1
 ·intro w hSw;(try dsimp only at hSw);go_simp;try (with_reducible rfl)
 try simp only [Act.put,zA,zB,zC,zD,zE,zF]
 refine Zk.fin ?_
 refine wpAnyH_done (by kernel_rfl) ?_ _
 have W2b:=qC8 (W1b.out.below hS.2)
 clear hHeld hS W1b x0 x1 x2 x3 y1 hb2 HIB hxl hgl1
 have u0:=W2b.out.rs.1 0 _ rfl
 have u1:=W2b.out.rs.1 1 _ rfl
 have u2:=W2b.out.rs.1 2 _ rfl
 have f0:=W2b.out.rs.2 0
 have f1:=W2b.out.rs.2 1
 have f2:=W2b.out.rs.2 2
 have hul:=W2b.out.lt
 go_wp2_with fail
 refine bodyPost_ret (v:=.tuple #[.agg #[.slice none 0 0,.slice none 0 0,.slice none 0 0],.int .i64 3]) (by simp [results,Tryz.results37,go_sem,u0,u1,u2,hul]) rfl ?_
 exact ⟨((W2b.out.bl.setCell (Nat.le_succ _) _).setCell (Nat.le_succ _) _).setCell (Nat.le_succ _) _,fun _=>rfl,fun q=>absurd q (by first | assumption | decide)⟩
theorem QY6 (E:qI1) (r:qH4) (a:Option Addr) (m cap:Nat) (cs:List qA4) (w:World) (hr:qE3 w r) (hle:qL7 1048576 r) (hc:qA7 w a m cs) (hcl:qF5 1048576 cs) (hm:m≤1048576) (hEr:qN1 0 w) (hH:qD9 w) (hk:qB8 cs=0) (hbd:qI7 (f0C cs) r=true) (h40:40 < r.sn) :
  Calls Tryz.prog 37 #[.agg #[.int .i64 r.i,.int .i64 r.u,.slice r.sa r.sn r.sc,.slice r.la r.ln r.lc],.slice a m cap] w fun d w'=>RebR r a m cap 2 w d w':=by
 have hsn:=hle.said
 have hln:=hle.locks
 have hsn':(r.sn:Int)≤1048576:=by omega
 have HCF:Hid (∀ W:World,Below w.heap.size w W→Calls Tryz.prog 63 #[.slice a m cap] W fun e w'=>e = .returned (.int .i64 0)∧Below W.heap.size W w'):=fun W hb=>by rw [← hk];exact qJ7 a m cap cs W hm hcl (hc.below hb)
 obtain ⟨V,hV⟩:∃ V,V=(w.alloc (.cells #[.int .i64 r.i,.int .i64 r.u,.slice r.sa r.sn r.sc,.slice r.la r.ln r.lc] 33)).alloc (.cells #[.slice none 0 0,.slice none 0 0,.slice none 0 0] 74):=⟨_,rfl⟩
 have W0:Hid (RW w r V):=by show RW w r V;rw [hV];exact RW.new w r
 obtain ⟨hm1,hm8,hok⟩:=qU0 hk
 have hml:cs.length=m:=hc.len
 have hm0:0 < m:=by omega
 have hm0':(0:Int) < (m:Int):=by omega
 obtain ⟨g,off,c0,rfl,hc0,hat,_⟩:=hc.at hm0
 obtain ⟨v0,v1,v2,v3,v4⟩:=hat
 simp only [Nat.zero_mul,Nat.add_zero] at v0 v1 v2 v3 v4
 have hgl:=zL w _ v0
 have hf0:f0C cs=c0.f:=by unfold f0C;rw [hc0];rfl
 have hff:1≤c0.f∧c0.f≤2:=f_of (hok 0 c0 hc0).1
 have HIB:Hid (∀ W:World,Calls Tryz.prog 64 #[.agg #[.int .i64 r.i,.int .i64 r.u,.slice r.sa r.sn r.sc,.slice r.la r.ln r.lc],.int .i64 c0.f] W fun e w'=>e = .returned (.bool true)∧Below W.heap.size W w'):=fun W=>by rw [← hbd,hf0];exact qS4 c0.f hff r W hsn
 have V1:Hid (∀ W:World,Below w.heap.size w W→W.cell? ⟨g,off+1,none⟩=some (.int .i64 c0.f)):=fun W hb=>(hb.cell (p:=⟨g,off+1,none⟩) hgl).trans v1
 have h40':(40:Int) < (r.sn:Int):=by omega
 clear hok v0 v1 v2 v3 v4 hc0 hf0 hff hbd hml
 clear hr hc hcl hEr hH hk hle
 go_enter Tryz.func37,Tryz.ntmps37
 go_upto_region 1 with fail
 rw [← hV]
 clear hV
 go_wp2_with fail
 refine (HCF.out _ W0.out.bl).mono ?_
 rintro d w1 ⟨rfl,hb1⟩
 have W1b:=qC8 (W0.out.below hb1)
 clear hb1 W0 HCF
 have x0:=W1b.out.bx 0 _ rfl
 have x1:=W1b.out.bx 1 _ rfl
 have x2:=W1b.out.bx 2 _ rfl
 have x3:=W1b.out.bx 3 _ rfl
 have y1:=V1.out _ W1b.out.bl
 have hxl:w.heap.size < w1.heap.size:=Nat.lt_of_succ_lt W1b.out.lt
 have hgl1:g < w1.heap.size:=Nat.lt_of_lt_of_le hgl W1b.out.bl.size
 go_upto_region 4 with fail
 refine wp_region_held_drew (S:=fun w'=>(∀ b o,b < w1.heap.size→w'.cell? ⟨b,o,none⟩=w1.cell? ⟨b,o,none⟩)∧Below w1.heap.size w1 w') (by kernel_rfl) (qB4 _) (fun hHeld=>?_)
 refine Zk.go [0,1,2,3,4] ?_
 iterate 5
  refine Zk.st (v:=?_) rfl ?_ ?_
  rotate_left 1
  ·intro w hSw;(try dsimp only at hSw);go_simp;try (with_reducible rfl)
  try simp only [Act.put,zA,zB,zC,zD,zE,zF]
 refine Zk.fin ?_
 refine Zk.rd (i:=5) rfl (fun K hK=>?_)
 go_simp
 refine (HIB.out _).mono ?_
 rintro d w2 ⟨rfl,hb2⟩
 have hS:=qA0 hHeld hb2
 refine hK.out _ _ hS (fun hHeld=>?_)
 clear hK K
 try simp only [Act.put,zA,zB,zC,zD,zE,zF]
 refine Zk.go [6] ?_
 refine Zk.st (v:=?_) rfl ?_ ?_
 rotate_left 1
 ·intro w hSw;(try dsimp only at hSw);go_simp;try (with_reducible rfl)
 try simp only [Act.put,zA,zB,zC,zD,zE,zF]
 refine Zk.fin ?_
 refine wpAnyH_done (by kernel_rfl) ?_ _
 have W2b:=qC8 (W1b.out.below hS.2)
 clear hHeld hS W1b x0 x1 x2 x3 y1 hb2 HIB hxl hgl1
 have x2:=W2b.out.bx 2 _ rfl
 have hxl:w.heap.size < w2.heap.size:=Nat.lt_of_succ_lt W2b.out.lt
 have u0:=W2b.out.rs.1 0 _ rfl
 have u1:=W2b.out.rs.1 1 _ rfl
 have u2:=W2b.out.rs.1 2 _ rfl
 have f0:=W2b.out.rs.2 0
 have f1:=W2b.out.rs.2 1
 have f2:=W2b.out.rs.2 2
 have hul:=W2b.out.lt
 go_wp2_with fail
 refine bodyPost_ret (v:=.tuple #[.agg #[.slice none 0 0,.slice none 0 0,.slice none 0 0],.int .i64 2]) (by simp [results,Tryz.results37,go_sem,u0,u1,u2,hul]) rfl ?_
 exact ⟨((W2b.out.bl.setCell (Nat.le_succ _) _).setCell (Nat.le_succ _) _).setCell (Nat.le_succ _) _,fun _=>rfl,fun q=>absurd q (by first | assumption | decide)⟩
theorem QY5 (E:qI1) (r:qH4) (a:Option Addr) (m cap:Nat) (cs:List qA4) (w:World) (hr:qE3 w r) (hle:qL7 1048576 r) (hc:qA7 w a m cs) (hcl:qF5 1048576 cs) (hm:m≤1048576) (hEr:qN1 0 w) (hH:qD9 w) (hk:qB8 cs=0) (hEC:qO2 E cs) (hbd:qI7 (f0C cs) r=true) (h40:r.sn≤40) (o:Option (List LkI)) (ho:qF6 E r.ss r.sn=o) (hno:o=none) :
  Calls Tryz.prog 37 #[.agg #[.int .i64 r.i,.int .i64 r.u,.slice r.sa r.sn r.sc,.slice r.la r.ln r.lc],.slice a m cap] w fun d w'=>RebR r a m cap 10 w d w':=by
 have hsn:=hle.said
 have hln:=hle.locks
 have hsn':(r.sn:Int)≤1048576:=by omega
 have HCF:Hid (∀ W:World,Below w.heap.size w W→Calls Tryz.prog 63 #[.slice a m cap] W fun e w'=>e = .returned (.int .i64 0)∧Below W.heap.size W w'):=fun W hb=>by rw [← hk];exact qJ7 a m cap cs W hm hcl (hc.below hb)
 obtain ⟨V,hV⟩:∃ V,V=(w.alloc (.cells #[.int .i64 r.i,.int .i64 r.u,.slice r.sa r.sn r.sc,.slice r.la r.ln r.lc] 33)).alloc (.cells #[.slice none 0 0,.slice none 0 0,.slice none 0 0] 74):=⟨_,rfl⟩
 have W0:Hid (RW w r V):=by show RW w r V;rw [hV];exact RW.new w r
 obtain ⟨hm1,hm8,hok⟩:=qU0 hk
 have hml:cs.length=m:=hc.len
 have hm0:0 < m:=by omega
 have hm0':(0:Int) < (m:Int):=by omega
 obtain ⟨g,off,c0,rfl,hc0,hat,_⟩:=hc.at hm0
 obtain ⟨v0,v1,v2,v3,v4⟩:=hat
 simp only [Nat.zero_mul,Nat.add_zero] at v0 v1 v2 v3 v4
 have hgl:=zL w _ v0
 have hf0:f0C cs=c0.f:=by unfold f0C;rw [hc0];rfl
 have hff:1≤c0.f∧c0.f≤2:=f_of (hok 0 c0 hc0).1
 have HIB:Hid (∀ W:World,Calls Tryz.prog 64 #[.agg #[.int .i64 r.i,.int .i64 r.u,.slice r.sa r.sn r.sc,.slice r.la r.ln r.lc],.int .i64 c0.f] W fun e w'=>e = .returned (.bool true)∧Below W.heap.size W w'):=fun W=>by rw [← hbd,hf0];exact qS4 c0.f hff r W hsn
 have V1:Hid (∀ W:World,Below w.heap.size w W→W.cell? ⟨g,off+1,none⟩=some (.int .i64 c0.f)):=fun W hb=>(hb.cell (p:=⟨g,off+1,none⟩) hgl).trans v1
 have h40':(r.sn:Int)≤40:=by omega
 have HSP:Hid (∀ W:World,Below w.heap.size w W→Calls Tryz.prog 53 #[.slice (some ⟨g,off,none⟩) m cap,.slice r.sa r.sn r.sc] W fun d w'=>SpkR (some ⟨g,off,none⟩) m cap r.ss r.sn o W d w'):=fun W hb=>by
  rw [← ho]
  exact QB9 E _ m cap cs r.sa r.sn r.sc r.ss W hEC (fun W' hb'=>⟨hc.below (hb.trans (hb'.mono hb.size)),hEr.below (hb.trans (hb'.mono hb.size)),hH.below (hb.trans (hb'.mono hb.size))⟩) hm0 (by omega) (hr.said.below hb) hsn
 have HLR:Hid (∀ W:World,Below w.heap.size w W→qK1 W r.la r.ln r.ls):=fun W hb=>hr.locks.below hb
 have HLN:Hid (r.ls.length=r.ln):=hr.locks.1
 clear ho hEC
 clear hok v0 v1 v2 v3 v4 hc0 hf0 hff hbd hml
 clear hr hc hcl hEr hH hk hle
 go_enter Tryz.func37,Tryz.ntmps37
 go_upto_region 1 with fail
 rw [← hV]
 clear hV
 go_wp2_with fail
 refine (HCF.out _ W0.out.bl).mono ?_
 rintro d w1 ⟨rfl,hb1⟩
 have W1b:=qC8 (W0.out.below hb1)
 clear hb1 W0 HCF
 have x0:=W1b.out.bx 0 _ rfl
 have x1:=W1b.out.bx 1 _ rfl
 have x2:=W1b.out.bx 2 _ rfl
 have x3:=W1b.out.bx 3 _ rfl
 have y1:=V1.out _ W1b.out.bl
 have hxl:w.heap.size < w1.heap.size:=Nat.lt_of_succ_lt W1b.out.lt
 have hgl1:g < w1.heap.size:=Nat.lt_of_lt_of_le hgl W1b.out.bl.size
 go_upto_region 4 with fail
 refine wp_region_held_drew (S:=fun w'=>(∀ b o,b < w1.heap.size→w'.cell? ⟨b,o,none⟩=w1.cell? ⟨b,o,none⟩)∧Below w1.heap.size w1 w') (by kernel_rfl) (qB4 _) (fun hHeld=>?_)
 refine Zk.go [0,1,2,3,4] ?_
 iterate 5
  refine Zk.st (v:=?_) rfl ?_ ?_
  rotate_left 1
  ·intro w hSw;(try dsimp only at hSw);go_simp;try (with_reducible rfl)
  try simp only [Act.put,zA,zB,zC,zD,zE,zF]
 refine Zk.fin ?_
 refine Zk.rd (i:=5) rfl (fun K hK=>?_)
 go_simp
 refine (HIB.out _).mono ?_
 rintro d w2 ⟨rfl,hb2⟩
 have hS:=qA0 hHeld hb2
 refine hK.out _ _ hS (fun hHeld=>?_)
 clear hK K
 try simp only [Act.put,zA,zB,zC,zD,zE,zF]
 refine Zk.go [6] ?_
 refine Zk.st (v:=?_) rfl ?_ ?_
 rotate_left 1
 ·intro w hSw;(try dsimp only at hSw);go_simp;try (with_reducible rfl)
 try simp only [Act.put,zA,zB,zC,zD,zE,zF]
 refine Zk.fin ?_
 refine wpAnyH_done (by kernel_rfl) ?_ _
 have W2b:=qC8 (W1b.out.below hS.2)
 clear hHeld hS W1b x0 x1 x2 x3 y1 hb2 HIB hxl hgl1
 have x2:=W2b.out.bx 2 _ rfl
 have hxl:w.heap.size < w2.heap.size:=Nat.lt_of_succ_lt W2b.out.lt
 go_wp2_with fail
 refine (HSP.out _ W2b.out.bl).mono ?_
 rintro d w3 ⟨hb3,hs1,hs2⟩
 have W3b:=qC8 (W2b.out.below hb3)
 clear x2 hxl
 obtain ⟨qa,qn,qc,ra,rn,rc,rfl⟩:=hs2 hno
 have W4b:=qC8 (W3b.out.below ((Below.refl _ _).alloc (Nat.le_refl _) (.cells #[.slice (some ⟨g,off,none⟩) m cap,.slice qa qn qc,.slice ra rn rc] 74)))
 clear hs1 hs2 hb3 W3b W2b
 have u0:=W4b.out.rs.1 0 _ rfl
 have u1:=W4b.out.rs.1 1 _ rfl
 have u2:=W4b.out.rs.1 2 _ rfl
 have f0:=W4b.out.rs.2 0
 have f1:=W4b.out.rs.2 1
 have f2:=W4b.out.rs.2 2
 have hul:=W4b.out.lt
 go_wp2_with fail
 refine bodyPost_ret (v:=.tuple #[.agg #[.slice none 0 0,.slice none 0 0,.slice none 0 0],.int .i64 10]) (by simp [results,Tryz.results37,go_sem,u0,u1,u2,hul]) rfl ?_
 exact ⟨((W4b.out.bl.setCell (Nat.le_succ _) _).setCell (Nat.le_succ _) _).setCell (Nat.le_succ _) _,fun _=>rfl,fun q=>absurd q (by first | assumption | decide)⟩
theorem QT7 (E:qI1) (r:qH4) (a:Option Addr) (m cap:Nat) (cs:List qA4) (w:World) (hr:qE3 w r) (hle:qL7 1048576 r) (hc:qA7 w a m cs) (hcl:qF5 1048576 cs) (hm:m≤1048576) (hEr:qN1 0 w) (hH:qD9 w) (hk:qB8 cs=0) (hEC:qO2 E cs) (hbd:qI7 (f0C cs) r=true) (h40:r.sn≤40) (o:Option (List LkI)) (ho:qF6 E r.ss r.sn=o) (ls:List LkI) (hso:o=some ls) (hll:ls.length≤1048576) (hde:decide (ls=r.ls)=false) :
  Calls Tryz.prog 37 #[.agg #[.int .i64 r.i,.int .i64 r.u,.slice r.sa r.sn r.sc,.slice r.la r.ln r.lc],.slice a m cap] w fun d w'=>RebR r a m cap 10 w d w':=by
 have hsn:=hle.said
 have hln:=hle.locks
 have hsn':(r.sn:Int)≤1048576:=by omega
 have HCF:Hid (∀ W:World,Below w.heap.size w W→Calls Tryz.prog 63 #[.slice a m cap] W fun e w'=>e = .returned (.int .i64 0)∧Below W.heap.size W w'):=fun W hb=>by rw [← hk];exact qJ7 a m cap cs W hm hcl (hc.below hb)
 obtain ⟨V,hV⟩:∃ V,V=(w.alloc (.cells #[.int .i64 r.i,.int .i64 r.u,.slice r.sa r.sn r.sc,.slice r.la r.ln r.lc] 33)).alloc (.cells #[.slice none 0 0,.slice none 0 0,.slice none 0 0] 74):=⟨_,rfl⟩
 have W0:Hid (RW w r V):=by show RW w r V;rw [hV];exact RW.new w r
 obtain ⟨hm1,hm8,hok⟩:=qU0 hk
 have hml:cs.length=m:=hc.len
 have hm0:0 < m:=by omega
 have hm0':(0:Int) < (m:Int):=by omega
 obtain ⟨g,off,c0,rfl,hc0,hat,_⟩:=hc.at hm0
 obtain ⟨v0,v1,v2,v3,v4⟩:=hat
 simp only [Nat.zero_mul,Nat.add_zero] at v0 v1 v2 v3 v4
 have hgl:=zL w _ v0
 have hf0:f0C cs=c0.f:=by unfold f0C;rw [hc0];rfl
 have hff:1≤c0.f∧c0.f≤2:=f_of (hok 0 c0 hc0).1
 have HIB:Hid (∀ W:World,Calls Tryz.prog 64 #[.agg #[.int .i64 r.i,.int .i64 r.u,.slice r.sa r.sn r.sc,.slice r.la r.ln r.lc],.int .i64 c0.f] W fun e w'=>e = .returned (.bool true)∧Below W.heap.size W w'):=fun W=>by rw [← hbd,hf0];exact qS4 c0.f hff r W hsn
 have V1:Hid (∀ W:World,Below w.heap.size w W→W.cell? ⟨g,off+1,none⟩=some (.int .i64 c0.f)):=fun W hb=>(hb.cell (p:=⟨g,off+1,none⟩) hgl).trans v1
 have h40':(r.sn:Int)≤40:=by omega
 have HSP:Hid (∀ W:World,Below w.heap.size w W→Calls Tryz.prog 53 #[.slice (some ⟨g,off,none⟩) m cap,.slice r.sa r.sn r.sc] W fun d w'=>SpkR (some ⟨g,off,none⟩) m cap r.ss r.sn o W d w'):=fun W hb=>by
  rw [← ho]
  exact QB9 E _ m cap cs r.sa r.sn r.sc r.ss W hEC (fun W' hb'=>⟨hc.below (hb.trans (hb'.mono hb.size)),hEr.below (hb.trans (hb'.mono hb.size)),hH.below (hb.trans (hb'.mono hb.size))⟩) hm0 (by omega) (hr.said.below hb) hsn
 have HLR:Hid (∀ W:World,Below w.heap.size w W→qK1 W r.la r.ln r.ls):=fun W hb=>hr.locks.below hb
 have HLN:Hid (r.ls.length=r.ln):=hr.locks.1
 have HEQ:Hid (∀ (W:World) (la:Option Addr) (lc:Nat),qK1 W la ls.length ls→Below w.heap.size w W→Calls Tryz.prog 65 #[.slice la ls.length lc,.slice r.la r.ln r.lc] W fun e w'=>e = .returned (.bool false)∧Below W.heap.size W w'):=fun W la lc hl hb=>by
  have q:=QJ8 la r.la ls.length r.ln lc r.lc ls r.ls W hll hln hl (HLR.out _ hb)
  rw [hde] at q
  exact q
 clear ho hEC hde
 clear hok v0 v1 v2 v3 v4 hc0 hf0 hff hbd hml
 clear hr hc hcl hEr hH hk hle
 go_enter Tryz.func37,Tryz.ntmps37
 go_upto_region 1 with fail
 rw [← hV]
 clear hV
 go_wp2_with fail
 refine (HCF.out _ W0.out.bl).mono ?_
 rintro d w1 ⟨rfl,hb1⟩
 have W1b:=qC8 (W0.out.below hb1)
 clear hb1 W0 HCF
 have x0:=W1b.out.bx 0 _ rfl
 have x1:=W1b.out.bx 1 _ rfl
 have x2:=W1b.out.bx 2 _ rfl
 have x3:=W1b.out.bx 3 _ rfl
 have y1:=V1.out _ W1b.out.bl
 have hxl:w.heap.size < w1.heap.size:=Nat.lt_of_succ_lt W1b.out.lt
 have hgl1:g < w1.heap.size:=Nat.lt_of_lt_of_le hgl W1b.out.bl.size
 go_upto_region 4 with fail
 refine wp_region_held_drew (S:=fun w'=>(∀ b o,b < w1.heap.size→w'.cell? ⟨b,o,none⟩=w1.cell? ⟨b,o,none⟩)∧Below w1.heap.size w1 w') (by kernel_rfl) (qB4 _) (fun hHeld=>?_)
 refine Zk.go [0,1,2,3,4] ?_
 iterate 5
  refine Zk.st (v:=?_) rfl ?_ ?_
  rotate_left 1
  ·intro w hSw;(try dsimp only at hSw);go_simp;try (with_reducible rfl)
  try simp only [Act.put,zA,zB,zC,zD,zE,zF]
 refine Zk.fin ?_
 refine Zk.rd (i:=5) rfl (fun K hK=>?_)
 go_simp
 refine (HIB.out _).mono ?_
 rintro d w2 ⟨rfl,hb2⟩
 have hS:=qA0 hHeld hb2
 refine hK.out _ _ hS (fun hHeld=>?_)
 clear hK K
 try simp only [Act.put,zA,zB,zC,zD,zE,zF]
 refine Zk.go [6] ?_
 refine Zk.st (v:=?_) rfl ?_ ?_
 rotate_left 1
 ·intro w hSw;(try dsimp only at hSw);go_simp;try (with_reducible rfl)
 try simp only [Act.put,zA,zB,zC,zD,zE,zF]
 refine Zk.fin ?_
 refine wpAnyH_done (by kernel_rfl) ?_ _
 have W2b:=qC8 (W1b.out.below hS.2)
 clear hHeld hS W1b x0 x1 x2 x3 y1 hb2 HIB hxl hgl1
 have x2:=W2b.out.bx 2 _ rfl
 have hxl:w.heap.size < w2.heap.size:=Nat.lt_of_succ_lt W2b.out.lt
 go_wp2_with fail
 refine (HSP.out _ W2b.out.bl).mono ?_
 rintro d w3 ⟨hb3,hs1,hs2⟩
 have W3b:=qC8 (W2b.out.below hb3)
 clear x2 hxl
 obtain ⟨sa,sc,la,lc,rfl,ho1,ho2⟩:=hs1 ls hso
 have O1:=qC8 (ho1.below (w':=w3.alloc (.cells #[.slice (some ⟨g,off,none⟩) m cap,.slice sa r.sn sc,.slice la ls.length lc] 74)) (zN))
 have O2:=qC8 (ho2.below (w':=w3.alloc (.cells #[.slice (some ⟨g,off,none⟩) m cap,.slice sa r.sn sc,.slice la ls.length lc] 74)) (zN))
 have W4b:=qC8 (W3b.out.below ((Below.refl _ _).alloc (Nat.le_refl _) (.cells #[.slice (some ⟨g,off,none⟩) m cap,.slice sa r.sn sc,.slice la ls.length lc] 74)))
 have B2s:=W2b.out.bl.size
 have B2l:=W2b.out.lt
 obtain ⟨Y,hY⟩:∃ Y,Y=w3.alloc (.cells #[.slice (some ⟨g,off,none⟩) m cap,.slice sa r.sn sc,.slice la ls.length lc] 74):=⟨_,rfl⟩
 have XY:Hid (qE8 w3.heap.size [.slice (some ⟨g,off,none⟩) m cap,.slice sa r.sn sc,.slice la ls.length lc] Y∧w3.heap.size < Y.heap.size):=by rw [hY];exact ⟨(qF2 w3 _ _).out,by simp⟩
 rw [← hY] at O1 O2 W4b
 clear hs1 hs2 hb3 W3b W2b ho1 ho2
 go_upto_region 9 with fail
 rw [← hY]
 clear hY
 generalize w3.heap.size=q3 at XY ⊢
 have s0:=XY.out.1 0 _ rfl
 have s1:=XY.out.1 1 _ rfl
 have s2:=XY.out.1 2 _ rfl
 have hsl:=XY.out.2
 have x3:=W4b.out.bx 3 _ rfl
 have hxl:w.heap.size < Y.heap.size:=Nat.lt_of_succ_lt W4b.out.lt
 go_wp2_with fail
 refine (HEQ.out _ _ lc (LkV.isIn rfl O2.out.view) W4b.out.bl).mono ?_
 rintro d w5 ⟨rfl,hb5⟩
 have W5b:=qC8 (W4b.out.below hb5)
 clear s0 s1 s2 hsl x3 hxl
 have u0:=W5b.out.rs.1 0 _ rfl
 have u1:=W5b.out.rs.1 1 _ rfl
 have u2:=W5b.out.rs.1 2 _ rfl
 have f0:=W5b.out.rs.2 0
 have f1:=W5b.out.rs.2 1
 have f2:=W5b.out.rs.2 2
 have hul:=W5b.out.lt
 go_wp2_with fail
 refine bodyPost_ret (v:=.tuple #[.agg #[.slice none 0 0,.slice none 0 0,.slice none 0 0],.int .i64 10]) (by simp [results,Tryz.results37,go_sem,u0,u1,u2,hul]) rfl ?_
 exact ⟨((W5b.out.bl.setCell (Nat.le_succ _) _).setCell (Nat.le_succ _) _).setCell (Nat.le_succ _) _,fun _=>rfl,fun q=>absurd q (by first | assumption | decide)⟩
theorem rebuild_ok (E:qI1) (r:qH4) (a:Option Addr) (m cap:Nat) (cs:List qA4) (w:World) (hr:qE3 w r) (hle:qL7 1048576 r) (hc:qA7 w a m cs) (hcl:qF5 1048576 cs) (hm:m≤1048576) (hEr:qN1 0 w) (hH:qD9 w) (hk:qB8 cs=0) (hEC:qO2 E cs) (hbd:qI7 (f0C cs) r=true) (h40:r.sn≤40) (o:Option (List LkI)) (ho:qF6 E r.ss r.sn=o) (ls:List LkI) (hso:o=some ls) (hll:ls.length≤1048576) (hls:ls=r.ls) (hde:decide (ls=r.ls)=true) :
  Calls Tryz.prog 37 #[.agg #[.int .i64 r.i,.int .i64 r.u,.slice r.sa r.sn r.sc,.slice r.la r.ln r.lc],.slice a m cap] w fun d w'=>RebR r a m cap 0 w d w':=by
 have hsn:=hle.said
 have hln:=hle.locks
 have hsn':(r.sn:Int)≤1048576:=by omega
 have HCF:Hid (∀ W:World,Below w.heap.size w W→Calls Tryz.prog 63 #[.slice a m cap] W fun e w'=>e = .returned (.int .i64 0)∧Below W.heap.size W w'):=fun W hb=>by rw [← hk];exact qJ7 a m cap cs W hm hcl (hc.below hb)
 obtain ⟨V,hV⟩:∃ V,V=(w.alloc (.cells #[.int .i64 r.i,.int .i64 r.u,.slice r.sa r.sn r.sc,.slice r.la r.ln r.lc] 33)).alloc (.cells #[.slice none 0 0,.slice none 0 0,.slice none 0 0] 74):=⟨_,rfl⟩
 have W0:Hid (RW w r V):=by show RW w r V;rw [hV];exact RW.new w r
 obtain ⟨hm1,hm8,hok⟩:=qU0 hk
 have hml:cs.length=m:=hc.len
 have hm0:0 < m:=by omega
 have hm0':(0:Int) < (m:Int):=by omega
 obtain ⟨g,off,c0,rfl,hc0,hat,_⟩:=hc.at hm0
 obtain ⟨v0,v1,v2,v3,v4⟩:=hat
 simp only [Nat.zero_mul,Nat.add_zero] at v0 v1 v2 v3 v4
 have hgl:=zL w _ v0
 have hf0:f0C cs=c0.f:=by unfold f0C;rw [hc0];rfl
 have hff:1≤c0.f∧c0.f≤2:=f_of (hok 0 c0 hc0).1
 have HIB:Hid (∀ W:World,Calls Tryz.prog 64 #[.agg #[.int .i64 r.i,.int .i64 r.u,.slice r.sa r.sn r.sc,.slice r.la r.ln r.lc],.int .i64 c0.f] W fun e w'=>e = .returned (.bool true)∧Below W.heap.size W w'):=fun W=>by rw [← hbd,hf0];exact qS4 c0.f hff r W hsn
 have V1:Hid (∀ W:World,Below w.heap.size w W→W.cell? ⟨g,off+1,none⟩=some (.int .i64 c0.f)):=fun W hb=>(hb.cell (p:=⟨g,off+1,none⟩) hgl).trans v1
 have h40':(r.sn:Int)≤40:=by omega
 have HSP:Hid (∀ W:World,Below w.heap.size w W→Calls Tryz.prog 53 #[.slice (some ⟨g,off,none⟩) m cap,.slice r.sa r.sn r.sc] W fun d w'=>SpkR (some ⟨g,off,none⟩) m cap r.ss r.sn o W d w'):=fun W hb=>by
  rw [← ho]
  exact QB9 E _ m cap cs r.sa r.sn r.sc r.ss W hEC (fun W' hb'=>⟨hc.below (hb.trans (hb'.mono hb.size)),hEr.below (hb.trans (hb'.mono hb.size)),hH.below (hb.trans (hb'.mono hb.size))⟩) hm0 (by omega) (hr.said.below hb) hsn
 have HLR:Hid (∀ W:World,Below w.heap.size w W→qK1 W r.la r.ln r.ls):=fun W hb=>hr.locks.below hb
 have HLN:Hid (r.ls.length=r.ln):=hr.locks.1
 have HEQ:Hid (∀ (W:World) (la:Option Addr) (lc:Nat),qK1 W la ls.length ls→Below w.heap.size w W→Calls Tryz.prog 65 #[.slice la ls.length lc,.slice r.la r.ln r.lc] W fun e w'=>e = .returned (.bool true)∧Below W.heap.size W w'):=fun W la lc hl hb=>by
  have q:=QJ8 la r.la ls.length r.ln lc r.lc ls r.ls W hll hln hl (HLR.out _ hb)
  rw [hde] at q
  exact q
 have HLS:Hid (ls=r.ls):=hls
 clear ho hEC hde hls
 clear hok v0 v1 v2 v3 v4 hc0 hf0 hff hbd hml
 clear hr hc hcl hEr hH hk hle
 go_enter Tryz.func37,Tryz.ntmps37
 go_upto_region 1 with fail
 rw [← hV]
 clear hV
 go_wp2_with fail
 refine (HCF.out _ W0.out.bl).mono ?_
 rintro d w1 ⟨rfl,hb1⟩
 have W1b:=qC8 (W0.out.below hb1)
 clear hb1 W0 HCF
 have x0:=W1b.out.bx 0 _ rfl
 have x1:=W1b.out.bx 1 _ rfl
 have x2:=W1b.out.bx 2 _ rfl
 have x3:=W1b.out.bx 3 _ rfl
 have y1:=V1.out _ W1b.out.bl
 have hxl:w.heap.size < w1.heap.size:=Nat.lt_of_succ_lt W1b.out.lt
 have hgl1:g < w1.heap.size:=Nat.lt_of_lt_of_le hgl W1b.out.bl.size
 go_upto_region 4 with fail
 refine wp_region_held_drew (S:=fun w'=>(∀ b o,b < w1.heap.size→w'.cell? ⟨b,o,none⟩=w1.cell? ⟨b,o,none⟩)∧Below w1.heap.size w1 w') (by kernel_rfl) (qB4 _) (fun hHeld=>?_)
 refine Zk.go [0,1,2,3,4] ?_
 iterate 5
  refine Zk.st (v:=?_) rfl ?_ ?_
  rotate_left 1
  ·intro w hSw;(try dsimp only at hSw);go_simp;try (with_reducible rfl)
  try simp only [Act.put,zA,zB,zC,zD,zE,zF]
 refine Zk.fin ?_
 refine Zk.rd (i:=5) rfl (fun K hK=>?_)
 go_simp
 refine (HIB.out _).mono ?_
 rintro d w2 ⟨rfl,hb2⟩
 have hS:=qA0 hHeld hb2
 refine hK.out _ _ hS (fun hHeld=>?_)
 clear hK K
 try simp only [Act.put,zA,zB,zC,zD,zE,zF]
 refine Zk.go [6] ?_
 refine Zk.st (v:=?_) rfl ?_ ?_
 rotate_left 1
 ·intro w hSw;(try dsimp only at hSw);go_simp;try (with_reducible rfl)
 try simp only [Act.put,zA,zB,zC,zD,zE,zF]
 refine Zk.fin ?_
 refine wpAnyH_done (by kernel_rfl) ?_ _
 have W2b:=qC8 (W1b.out.below hS.2)
 clear hHeld hS W1b x0 x1 x2 x3 y1 hb2 HIB hxl hgl1
 have x2:=W2b.out.bx 2 _ rfl
 have hxl:w.heap.size < w2.heap.size:=Nat.lt_of_succ_lt W2b.out.lt
 go_wp2_with fail
 refine (HSP.out _ W2b.out.bl).mono ?_
 rintro d w3 ⟨hb3,hs1,hs2⟩
 have W3b:=qC8 (W2b.out.below hb3)
 clear x2 hxl
 obtain ⟨sa,sc,la,lc,rfl,ho1,ho2⟩:=hs1 ls hso
 have O1:=qC8 (ho1.below (w':=w3.alloc (.cells #[.slice (some ⟨g,off,none⟩) m cap,.slice sa r.sn sc,.slice la ls.length lc] 74)) (zN))
 have O2:=qC8 (ho2.below (w':=w3.alloc (.cells #[.slice (some ⟨g,off,none⟩) m cap,.slice sa r.sn sc,.slice la ls.length lc] 74)) (zN))
 have W4b:=qC8 (W3b.out.below ((Below.refl _ _).alloc (Nat.le_refl _) (.cells #[.slice (some ⟨g,off,none⟩) m cap,.slice sa r.sn sc,.slice la ls.length lc] 74)))
 have B2s:=W2b.out.bl.size
 have B2l:=W2b.out.lt
 obtain ⟨Y,hY⟩:∃ Y,Y=w3.alloc (.cells #[.slice (some ⟨g,off,none⟩) m cap,.slice sa r.sn sc,.slice la ls.length lc] 74):=⟨_,rfl⟩
 have XY:Hid (qE8 w3.heap.size [.slice (some ⟨g,off,none⟩) m cap,.slice sa r.sn sc,.slice la ls.length lc] Y∧w3.heap.size < Y.heap.size):=by rw [hY];exact ⟨(qF2 w3 _ _).out,by simp⟩
 rw [← hY] at O1 O2 W4b
 clear hs1 hs2 hb3 W3b W2b ho1 ho2
 go_upto_region 9 with fail
 rw [← hY]
 clear hY
 generalize w3.heap.size=q3 at XY ⊢
 have s0:=XY.out.1 0 _ rfl
 have s1:=XY.out.1 1 _ rfl
 have s2:=XY.out.1 2 _ rfl
 have hsl:=XY.out.2
 have x3:=W4b.out.bx 3 _ rfl
 have hxl:w.heap.size < Y.heap.size:=Nat.lt_of_succ_lt W4b.out.lt
 go_wp2_with fail
 refine (HEQ.out _ _ lc (LkV.isIn rfl O2.out.view) W4b.out.bl).mono ?_
 rintro d w5 ⟨rfl,hb5⟩
 have W5b:=qC8 (W4b.out.below hb5)
 have X5:qE8 q3 [.slice (some ⟨g,off,none⟩) m cap,.slice sa r.sn sc,.slice la ls.length lc] w5:=((qE8.hold XY.out.1 XY.out.2).below hb5).out
 have O5:=qC8 (O1.out.below hb5)
 have P5:=qC8 (O2.out.below hb5)
 have hq5:q3 < w5.heap.size:=Nat.lt_of_lt_of_le XY.out.2 hb5.size
 clear s0 s1 s2 hsl x3 hxl
 have s0:=X5 0 _ rfl
 have s1:=X5 1 _ rfl
 have s2:=X5 2 _ rfl
 have u0:=W5b.out.rs.1 0 _ rfl
 have u1:=W5b.out.rs.1 1 _ rfl
 have u2:=W5b.out.rs.1 2 _ rfl
 have f0:=W5b.out.rs.2 0
 have f1:=W5b.out.rs.2 1
 have f2:=W5b.out.rs.2 2
 have hul:=W5b.out.lt
 clear X5
 go_wp2_with fail
 refine bodyPost_ret (v:=.tuple #[.agg #[.slice (some ⟨g,off,none⟩) m cap,.slice sa r.sn sc,.slice la ls.length lc],.int .i64 0]) (by simp [results,Tryz.results37,go_sem,u0,u1,u2,hul]) rfl ?_
 refine ⟨((W5b.out.bl.setCell (Nat.le_succ _) _).setCell (Nat.le_succ _) _).setCell (Nat.le_succ _) _,fun q=>absurd rfl q,fun _=>?_⟩
 have hls:=HLS.out
 subst hls
 rw [HLN.out]
 refine ⟨sa,sc,la,lc,rfl,qA2 (qC5 O5.out (by omega)) (fun g' e=>?_),qA2 (?_:qA5 w5 w.heap.size (.slice la r.ln lc) r.ls) (fun g' e=>?_)⟩
 ·obtain ⟨cur,hcc,hgg⟩:=qD4 O5.out e
  have h0:=W5b.out.lt
  rw [Below.heap_setCell _ _ _ _ (by show g'≠w.heap.size+1;omega),Below.heap_setCell _ _ _ _ (by show g'≠w.heap.size+1;omega),Below.heap_setCell _ _ _ _ (by show g'≠w.heap.size+1;omega)]
 ·have:=qA9 P5.out (show w.heap.size≤_ by omega)
  rw [HLN.out] at this
  exact this
 ·have P6:=P5.out
  rw [HLN.out] at P6
  obtain ⟨cur,hcc,hgg⟩:=qD2 P6 e
  rw [Below.heap_setCell _ _ _ _ (by show g'≠w.heap.size+1;omega),Below.heap_setCell _ _ _ _ (by show g'≠w.heap.size+1;omega),Below.heap_setCell _ _ _ _ (by show g'≠w.heap.size+1;omega)]

theorem play_len {E:qI1} {xs:List StI}:∀ (k:Nat) (ls:List LkI),qF6 E xs k=some ls→k≤xs.length→ls.length≤1048576:=fun k ls h hk=>by
 have:=(QF3 k ls hk h).lk
 exact Nat.le_trans (QF5 this).1 (by omega)
theorem rebuild_c (E:qI1) (r:qH4) (a:Option Addr) (m cap:Nat) (cs:List qA4) (w:World) (hr:qE3 w r) (hle:qL7 1048576 r) (hc:qA7 w a m cs) (hcl:qF5 1048576 cs) (hm:m≤1048576) (hEr:qN1 0 w) (hH:qD9 w) (hEC:qB8 cs=0→qO2 E cs) :
  Calls Tryz.prog 37 #[.agg #[.int .i64 r.i,.int .i64 r.u,.slice r.sa r.sn r.sc,.slice r.la r.ln r.lc],.slice a m cap] w fun d w'=>RebR r a m cap (qM3 E cs r) w d w':=by
 unfold qM3
 by_cases hk:qB8 cs=0
 ·rw [if_pos hk]
  cases hb:qI7 (f0C cs) r
  ·rw [if_neg (by decide)]
   exact QO8 E r a m cap cs w hr hle hc hcl hm hEr hH hk hb
  ·rw [if_pos rfl]
   by_cases h40:40 < r.sn
   ·rw [if_pos h40]
    exact QY6 E r a m cap cs w hr hle hc hcl hm hEr hH hk hb h40
   ·rw [if_neg h40]
    cases ho:qF6 E r.ss r.sn with
    | none =>
     rw [if_neg (by intro q;cases q)]
     exact QY5 E r a m cap cs w hr hle hc hcl hm hEr hH hk (hEC hk) hb (by omega) _ ho rfl
    | some ls =>
     have hll:ls.length≤1048576:=play_len r.sn ls ho (by rw [hr.said.1];exact Nat.le_refl _)
     by_cases e:ls=r.ls
     ·rw [if_pos (by rw [e])]
      exact rebuild_ok E r a m cap cs w hr hle hc hcl hm hEr hH hk (hEC hk) hb (by omega) _ ho ls rfl hll e (decide_eq_true e)
     ·rw [if_neg (fun q=>e (Option.some.inj q))]
      exact QT7 E r a m cap cs w hr hle hc hcl hm hEr hH hk (hEC hk) hb (by omega) _ ho ls rfl hll (decide_eq_false e)
 ·rw [if_neg hk]
  exact QY7 E r a m cap cs w hr hle hc hcl hm hEr hH _ rfl hk

end Go.Proofs.YtlpgapdlepbgbaaGreatDoor
