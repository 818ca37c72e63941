/- Contracts. -/
import Derived.Test.YtlpgapdlepbgbaaGreatDoorPv40
namespace Go.Proofs.YtlpgapdlepbgbaaGreatDoor
set_option maxRecDepth 100000
set_option maxHeartbeats 8000000
open Go.RowKit
set_option linter.unusedVariables false
set_option linter.unusedSimpArgs false

def f0C (cs:List qA4):Int:=(cs[0]?.getD default).f
def qH0 (E:qI3) (cs:List qA4) (r:qG9):Int:=if qB8 cs=0 then (if qI1 (f0C cs) r=true then (if 40 < r.sn then 2 else if qF4 E r.ss r.sn=some r.ls then 0 else 10) else 3) else qB8 cs
structure RW (w:World) (r:qG9) (W:World):Prop where
 bx:qE5 w.heap.size [.int .i64 r.i,.int .i64 r.u,.slice r.sa r.sn r.sc,.slice r.la r.ln r.lc] W
 rs:qI6 (w.heap.size+1) [.slice none 0 0,.slice none 0 0,.slice none 0 0] W
 lt:w.heap.size+1 < W.heap.size
 bl:Below w.heap.size w W
theorem RW.below {w:World} {r:qG9} {W W':World} (h:RW w r W) (hb:Below W.heap.size W W'):RW w r W' :=
 ⟨((qE5.hold h.bx (Nat.lt_of_succ_lt h.lt)).below hb).out,qI6.below h.rs h.lt hb,Nat.lt_of_lt_of_le h.lt hb.size,h.bl.trans (hb.mono h.bl.size)⟩
theorem RW.new (w:World) (r:qG9):RW w r ((w.alloc (.cells #[.int .i64 r.i,.int .i64 r.u,.slice r.sa r.sn r.sc,.slice r.la r.ln r.lc] 33)).alloc (.cells #[.slice none 0 0,.slice none 0 0,.slice none 0 0] 74)):=by
 have e:w.heap.size+1=(w.alloc (.cells #[.int .i64 r.i,.int .i64 r.u,.slice r.sa r.sn r.sc,.slice r.la r.ln r.lc] 33)).heap.size:=by simp
 refine ⟨((qE2 w _ _).below (zN)).out,?_,by simp,(zN).alloc (by simp) _⟩
 rw [e]
 exact qH4 _ _ _
def RebR (r:qG9) (a:Option Addr) (m cap:Nat) (k:Int) (w:World) (d:Ending) (w':World):Prop :=
 Below w.heap.size w w'∧(k ≠ 0 → d = .returned (.tuple #[.agg #[.slice none 0 0,.slice none 0 0,.slice none 0 0],.int .i64 k]))∧(k=0 → ∃ (sa:Option Addr) (sc:Nat) (la:Option Addr) (lc:Nat),d = .returned (.tuple #[.agg #[.slice a m cap,.slice sa r.sn sc,.slice la r.ln lc],.int .i64 0])∧qB1 w' w.heap.size (.slice sa r.sn sc) r.ss∧qA1 w' w.heap.size (.slice la r.ln lc) r.ls)
theorem f_of {c:qA4} (h:qU2 c=0):1≤c.f∧c.f≤2:=by
 have:=(QF2 h).2.1
 simpa [inR] using this
theorem QX4 (E:qI3) (r:qG9) (a:Option Addr) (m cap:Nat) (cs:List qA4) (w:World) (hr:qD7 w r) (hle:qK5 1048576 r) (hc:qA6 w a m cs) (hcl:qF8 1048576 cs) (hm:m≤1048576) (hEr:qN5 0 w) (hH:qE4 w) (k:Int) (hk:qB8 cs=k) (hk0:k ≠ 0) :
  Calls Tryz.prog 37 #[.agg #[.int .i64 r.i,.int .i64 r.u,.slice r.sa r.sn r.sc,.slice r.la r.ln r.lc],.slice a m cap] w fun d w'=>RebR r a m cap k w d w':=by
 have hsn:=hle.said
 have hln:=hle.locks
 have hsn':(r.sn:Int)≤1048576:=by omega
 have HCF:Hid (∀ W:World,Below w.heap.size w W → Calls Tryz.prog 63 #[.slice a m cap] W fun e w'=>e = .returned (.int .i64 k)∧Below W.heap.size W w'):=fun W hb=>by rw [← hk];exact qJ4 a m cap cs W hm hcl (hc.below hb)
 obtain ⟨V,hV⟩:∃ V,V=(w.alloc (.cells #[.int .i64 r.i,.int .i64 r.u,.slice r.sa r.sn r.sc,.slice r.la r.ln r.lc] 33)).alloc (.cells #[.slice none 0 0,.slice none 0 0,.slice none 0 0] 74):=⟨_,rfl⟩
 have W0:Hid (RW w r V):=by show RW w r V;rw [hV];exact RW.new w r
 have kb:(k != 0)=true:=by simp [hk0]
 clear hr hc hcl hEr hH hk hle
 go_enter Tryz.func37,Tryz.ntmps37
 go_upto_region 1 with fail
 rw [← hV]
 clear hV
 go_wp2_with fail
 refine (HCF.out _ W0.out.bl).mono ?_
 rintro d w1 ⟨rfl,hb1⟩
 have W1b:=qC5 (W0.out.below hb1)
 clear hb1 W0 HCF
 have u0:=W1b.out.rs.1 0 _ rfl
 have u1:=W1b.out.rs.1 1 _ rfl
 have u2:=W1b.out.rs.1 2 _ rfl
 have f0:=W1b.out.rs.2 0
 have f1:=W1b.out.rs.2 1
 have f2:=W1b.out.rs.2 2
 have hul:=W1b.out.lt
 go_wp2_with fail
 refine bodyPost_ret (v:=.tuple #[.agg #[.slice none 0 0,.slice none 0 0,.slice none 0 0],.int .i64 k]) (by simp [results,Tryz.results37,go_sem,u0,u1,u2,hul]) rfl ?_
 exact ⟨((W1b.out.bl.setCell (Nat.le_succ _) _).setCell (Nat.le_succ _) _).setCell (Nat.le_succ _) _,fun _=>rfl,fun q=>absurd q (by first | assumption | decide)⟩
theorem QN9 (E:qI3) (r:qG9) (a:Option Addr) (m cap:Nat) (cs:List qA4) (w:World) (hr:qD7 w r) (hle:qK5 1048576 r) (hc:qA6 w a m cs) (hcl:qF8 1048576 cs) (hm:m≤1048576) (hEr:qN5 0 w) (hH:qE4 w) (hk:qB8 cs=0) (hbd:qI1 (f0C cs) r=false) :
  Calls Tryz.prog 37 #[.agg #[.int .i64 r.i,.int .i64 r.u,.slice r.sa r.sn r.sc,.slice r.la r.ln r.lc],.slice a m cap] w fun d w'=>RebR r a m cap 3 w d w':=by
 have hsn:=hle.said
 have hln:=hle.locks
 have hsn':(r.sn:Int)≤1048576:=by omega
 have HCF:Hid (∀ W:World,Below w.heap.size w W → Calls Tryz.prog 63 #[.slice a m cap] W fun e w'=>e = .returned (.int .i64 0)∧Below W.heap.size W w'):=fun W hb=>by rw [← hk];exact qJ4 a m cap cs W hm hcl (hc.below hb)
 obtain ⟨V,hV⟩:∃ V,V=(w.alloc (.cells #[.int .i64 r.i,.int .i64 r.u,.slice r.sa r.sn r.sc,.slice r.la r.ln r.lc] 33)).alloc (.cells #[.slice none 0 0,.slice none 0 0,.slice none 0 0] 74):=⟨_,rfl⟩
 have W0:Hid (RW w r V):=by show RW w r V;rw [hV];exact RW.new w r
 obtain ⟨hm1,hm8,hok⟩:=qX1 hk
 have hml:cs.length=m:=hc.len
 have hm0:0 < m:=by omega
 have hm0':(0:Int) < (m:Int):=by omega
 obtain ⟨g,off,c0,rfl,hc0,hat,_⟩:=hc.at hm0
 obtain ⟨v0,v1,v2,v3,v4⟩:=hat
 simp only [Nat.zero_mul,Nat.add_zero] at v0 v1 v2 v3 v4
 have hgl:=zL w _ v0
 have hf0:f0C cs=c0.f:=by unfold f0C;rw [hc0];rfl
 have hff:1≤c0.f∧c0.f≤2:=f_of (hok 0 c0 hc0).1
 have HIB:Hid (∀ W:World,Calls Tryz.prog 64 #[.agg #[.int .i64 r.i,.int .i64 r.u,.slice r.sa r.sn r.sc,.slice r.la r.ln r.lc],.int .i64 c0.f] W fun e w'=>e = .returned (.bool false)∧Below W.heap.size W w'):=fun W=>by rw [← hbd,hf0];exact qR8 c0.f hff r W hsn
 have V1:Hid (∀ W:World,Below w.heap.size w W → W.cell? ⟨g,off+1,none⟩=some (.int .i64 c0.f)):=fun W hb=>(hb.cell (p:=⟨g,off+1,none⟩) hgl).trans v1
 clear hok v0 v1 v2 v3 v4 hc0 hf0 hff hbd hml
 clear hr hc hcl hEr hH hk hle
 go_enter Tryz.func37,Tryz.ntmps37
 go_upto_region 1 with fail
 rw [← hV]
 clear hV
 go_wp2_with fail
 refine (HCF.out _ W0.out.bl).mono ?_
 rintro d w1 ⟨rfl,hb1⟩
 have W1b:=qC5 (W0.out.below hb1)
 clear hb1 W0 HCF
 have x0:=W1b.out.bx 0 _ rfl
 have x1:=W1b.out.bx 1 _ rfl
 have x2:=W1b.out.bx 2 _ rfl
 have x3:=W1b.out.bx 3 _ rfl
 have y1:=V1.out _ W1b.out.bl
 have hxl:w.heap.size < w1.heap.size:=Nat.lt_of_succ_lt W1b.out.lt
 have hgl1:g < w1.heap.size:=Nat.lt_of_lt_of_le hgl W1b.out.bl.size
 go_upto_region 4 with fail
 refine wp_region_held_drew (S:=fun w'=>(∀ b o,b < w1.heap.size → w'.cell? ⟨b,o,none⟩=w1.cell? ⟨b,o,none⟩)∧Below w1.heap.size w1 w') (by kernel_rfl) (qB6 _) (fun hHeld=>?_)
 refine Zk.go [0,1,2,3,4] ?_
 iterate 5
  refine Zk.st (v:=?_) rfl ?_ ?_
  rotate_left 1
  ·intro w hSw;(try dsimp only at hSw);go_simp;try (with_reducible rfl)
  try simp only [Act.put,zA,zB,zC,zD,zE,zF]
 refine Zk.fin ?_
 refine Zk.rd (i:=5) rfl (fun K hK=>?_)
 go_simp
 refine (HIB.out _).mono ?_
 rintro d w2 ⟨rfl,hb2⟩
 have hS:=qA8 hHeld hb2
 refine hK.out _ _ hS (fun hHeld=>?_)
 clear hK K
 try simp only [Act.put,zA,zB,zC,zD,zE,zF]
 refine Zk.go [6] ?_
 refine Zk.st (v:=?_) rfl ?_ ?_
 rotate_left 1
 ·intro w hSw;(try dsimp only at hSw);go_simp;try (with_reducible rfl)
 try simp only [Act.put,zA,zB,zC,zD,zE,zF]
 refine Zk.fin ?_
 refine wpAnyH_done (by kernel_rfl) ?_ _
 have W2b:=qC5 (W1b.out.below hS.2)
 clear hHeld hS W1b x0 x1 x2 x3 y1 hb2 HIB hxl hgl1
 have u0:=W2b.out.rs.1 0 _ rfl
 have u1:=W2b.out.rs.1 1 _ rfl
 have u2:=W2b.out.rs.1 2 _ rfl
 have f0:=W2b.out.rs.2 0
 have f1:=W2b.out.rs.2 1
 have f2:=W2b.out.rs.2 2
 have hul:=W2b.out.lt
 go_wp2_with fail
 refine bodyPost_ret (v:=.tuple #[.agg #[.slice none 0 0,.slice none 0 0,.slice none 0 0],.int .i64 3]) (by simp [results,Tryz.results37,go_sem,u0,u1,u2,hul]) rfl ?_
 exact ⟨((W2b.out.bl.setCell (Nat.le_succ _) _).setCell (Nat.le_succ _) _).setCell (Nat.le_succ _) _,fun _=>rfl,fun q=>absurd q (by first | assumption | decide)⟩
theorem QX3 (E:qI3) (r:qG9) (a:Option Addr) (m cap:Nat) (cs:List qA4) (w:World) (hr:qD7 w r) (hle:qK5 1048576 r) (hc:qA6 w a m cs) (hcl:qF8 1048576 cs) (hm:m≤1048576) (hEr:qN5 0 w) (hH:qE4 w) (hk:qB8 cs=0) (hbd:qI1 (f0C cs) r=true) (h40:40 < r.sn) :
  Calls Tryz.prog 37 #[.agg #[.int .i64 r.i,.int .i64 r.u,.slice r.sa r.sn r.sc,.slice r.la r.ln r.lc],.slice a m cap] w fun d w'=>RebR r a m cap 2 w d w':=by
 have hsn:=hle.said
 have hln:=hle.locks
 have hsn':(r.sn:Int)≤1048576:=by omega
 have HCF:Hid (∀ W:World,Below w.heap.size w W → Calls Tryz.prog 63 #[.slice a m cap] W fun e w'=>e = .returned (.int .i64 0)∧Below W.heap.size W w'):=fun W hb=>by rw [← hk];exact qJ4 a m cap cs W hm hcl (hc.below hb)
 obtain ⟨V,hV⟩:∃ V,V=(w.alloc (.cells #[.int .i64 r.i,.int .i64 r.u,.slice r.sa r.sn r.sc,.slice r.la r.ln r.lc] 33)).alloc (.cells #[.slice none 0 0,.slice none 0 0,.slice none 0 0] 74):=⟨_,rfl⟩
 have W0:Hid (RW w r V):=by show RW w r V;rw [hV];exact RW.new w r
 obtain ⟨hm1,hm8,hok⟩:=qX1 hk
 have hml:cs.length=m:=hc.len
 have hm0:0 < m:=by omega
 have hm0':(0:Int) < (m:Int):=by omega
 obtain ⟨g,off,c0,rfl,hc0,hat,_⟩:=hc.at hm0
 obtain ⟨v0,v1,v2,v3,v4⟩:=hat
 simp only [Nat.zero_mul,Nat.add_zero] at v0 v1 v2 v3 v4
 have hgl:=zL w _ v0
 have hf0:f0C cs=c0.f:=by unfold f0C;rw [hc0];rfl
 have hff:1≤c0.f∧c0.f≤2:=f_of (hok 0 c0 hc0).1
 have HIB:Hid (∀ W:World,Calls Tryz.prog 64 #[.agg #[.int .i64 r.i,.int .i64 r.u,.slice r.sa r.sn r.sc,.slice r.la r.ln r.lc],.int .i64 c0.f] W fun e w'=>e = .returned (.bool true)∧Below W.heap.size W w'):=fun W=>by rw [← hbd,hf0];exact qR8 c0.f hff r W hsn
 have V1:Hid (∀ W:World,Below w.heap.size w W → W.cell? ⟨g,off+1,none⟩=some (.int .i64 c0.f)):=fun W hb=>(hb.cell (p:=⟨g,off+1,none⟩) hgl).trans v1
 have h40':(40:Int) < (r.sn:Int):=by omega
 clear hok v0 v1 v2 v3 v4 hc0 hf0 hff hbd hml
 clear hr hc hcl hEr hH hk hle
 go_enter Tryz.func37,Tryz.ntmps37
 go_upto_region 1 with fail
 rw [← hV]
 clear hV
 go_wp2_with fail
 refine (HCF.out _ W0.out.bl).mono ?_
 rintro d w1 ⟨rfl,hb1⟩
 have W1b:=qC5 (W0.out.below hb1)
 clear hb1 W0 HCF
 have x0:=W1b.out.bx 0 _ rfl
 have x1:=W1b.out.bx 1 _ rfl
 have x2:=W1b.out.bx 2 _ rfl
 have x3:=W1b.out.bx 3 _ rfl
 have y1:=V1.out _ W1b.out.bl
 have hxl:w.heap.size < w1.heap.size:=Nat.lt_of_succ_lt W1b.out.lt
 have hgl1:g < w1.heap.size:=Nat.lt_of_lt_of_le hgl W1b.out.bl.size
 go_upto_region 4 with fail
 refine wp_region_held_drew (S:=fun w'=>(∀ b o,b < w1.heap.size → w'.cell? ⟨b,o,none⟩=w1.cell? ⟨b,o,none⟩)∧Below w1.heap.size w1 w') (by kernel_rfl) (qB6 _) (fun hHeld=>?_)
 refine Zk.go [0,1,2,3,4] ?_
 iterate 5
  refine Zk.st (v:=?_) rfl ?_ ?_
  rotate_left 1
  ·intro w hSw;(try dsimp only at hSw);go_simp;try (with_reducible rfl)
  try simp only [Act.put,zA,zB,zC,zD,zE,zF]
 refine Zk.fin ?_
 refine Zk.rd (i:=5) rfl (fun K hK=>?_)
 go_simp
 refine (HIB.out _).mono ?_
 rintro d w2 ⟨rfl,hb2⟩
 have hS:=qA8 hHeld hb2
 refine hK.out _ _ hS (fun hHeld=>?_)
 clear hK K
 try simp only [Act.put,zA,zB,zC,zD,zE,zF]
 refine Zk.go [6] ?_
 refine Zk.st (v:=?_) rfl ?_ ?_
 rotate_left 1
 ·intro w hSw;(try dsimp only at hSw);go_simp;try (with_reducible rfl)
 try simp only [Act.put,zA,zB,zC,zD,zE,zF]
 refine Zk.fin ?_
 refine wpAnyH_done (by kernel_rfl) ?_ _
 have W2b:=qC5 (W1b.out.below hS.2)
 clear hHeld hS W1b x0 x1 x2 x3 y1 hb2 HIB hxl hgl1
 have x2:=W2b.out.bx 2 _ rfl
 have hxl:w.heap.size < w2.heap.size:=Nat.lt_of_succ_lt W2b.out.lt
 have u0:=W2b.out.rs.1 0 _ rfl
 have u1:=W2b.out.rs.1 1 _ rfl
 have u2:=W2b.out.rs.1 2 _ rfl
 have f0:=W2b.out.rs.2 0
 have f1:=W2b.out.rs.2 1
 have f2:=W2b.out.rs.2 2
 have hul:=W2b.out.lt
 go_wp2_with fail
 refine bodyPost_ret (v:=.tuple #[.agg #[.slice none 0 0,.slice none 0 0,.slice none 0 0],.int .i64 2]) (by simp [results,Tryz.results37,go_sem,u0,u1,u2,hul]) rfl ?_
 exact ⟨((W2b.out.bl.setCell (Nat.le_succ _) _).setCell (Nat.le_succ _) _).setCell (Nat.le_succ _) _,fun _=>rfl,fun q=>absurd q (by first | assumption | decide)⟩
theorem QX2 (E:qI3) (r:qG9) (a:Option Addr) (m cap:Nat) (cs:List qA4) (w:World) (hr:qD7 w r) (hle:qK5 1048576 r) (hc:qA6 w a m cs) (hcl:qF8 1048576 cs) (hm:m≤1048576) (hEr:qN5 0 w) (hH:qE4 w) (hk:qB8 cs=0) (hEC:qN6 E cs) (hbd:qI1 (f0C cs) r=true) (h40:r.sn≤40) (o:Option (List LkI)) (ho:qF4 E r.ss r.sn=o) (hno:o=none) :
  Calls Tryz.prog 37 #[.agg #[.int .i64 r.i,.int .i64 r.u,.slice r.sa r.sn r.sc,.slice r.la r.ln r.lc],.slice a m cap] w fun d w'=>RebR r a m cap 10 w d w':=by
 have hsn:=hle.said
 have hln:=hle.locks
 have hsn':(r.sn:Int)≤1048576:=by omega
 have HCF:Hid (∀ W:World,Below w.heap.size w W → Calls Tryz.prog 63 #[.slice a m cap] W fun e w'=>e = .returned (.int .i64 0)∧Below W.heap.size W w'):=fun W hb=>by rw [← hk];exact qJ4 a m cap cs W hm hcl (hc.below hb)
 obtain ⟨V,hV⟩:∃ V,V=(w.alloc (.cells #[.int .i64 r.i,.int .i64 r.u,.slice r.sa r.sn r.sc,.slice r.la r.ln r.lc] 33)).alloc (.cells #[.slice none 0 0,.slice none 0 0,.slice none 0 0] 74):=⟨_,rfl⟩
 have W0:Hid (RW w r V):=by show RW w r V;rw [hV];exact RW.new w r
 obtain ⟨hm1,hm8,hok⟩:=qX1 hk
 have hml:cs.length=m:=hc.len
 have hm0:0 < m:=by omega
 have hm0':(0:Int) < (m:Int):=by omega
 obtain ⟨g,off,c0,rfl,hc0,hat,_⟩:=hc.at hm0
 obtain ⟨v0,v1,v2,v3,v4⟩:=hat
 simp only [Nat.zero_mul,Nat.add_zero] at v0 v1 v2 v3 v4
 have hgl:=zL w _ v0
 have hf0:f0C cs=c0.f:=by unfold f0C;rw [hc0];rfl
 have hff:1≤c0.f∧c0.f≤2:=f_of (hok 0 c0 hc0).1
 have HIB:Hid (∀ W:World,Calls Tryz.prog 64 #[.agg #[.int .i64 r.i,.int .i64 r.u,.slice r.sa r.sn r.sc,.slice r.la r.ln r.lc],.int .i64 c0.f] W fun e w'=>e = .returned (.bool true)∧Below W.heap.size W w'):=fun W=>by rw [← hbd,hf0];exact qR8 c0.f hff r W hsn
 have V1:Hid (∀ W:World,Below w.heap.size w W → W.cell? ⟨g,off+1,none⟩=some (.int .i64 c0.f)):=fun W hb=>(hb.cell (p:=⟨g,off+1,none⟩) hgl).trans v1
 have h40':(r.sn:Int)≤40:=by omega
 have HSP:Hid (∀ W:World,Below w.heap.size w W → Calls Tryz.prog 53 #[.slice (some ⟨g,off,none⟩) m cap,.slice r.sa r.sn r.sc] W fun d w'=>SpkR (some ⟨g,off,none⟩) m cap r.ss r.sn o W d w'):=fun W hb=>by
  rw [← ho]
  exact QB2 E _ m cap cs r.sa r.sn r.sc r.ss W hEC (fun W' hb'=>⟨hc.below (hb.trans (hb'.mono hb.size)),hEr.below (hb.trans (hb'.mono hb.size)),hH.below (hb.trans (hb'.mono hb.size))⟩) hm0 (by omega) (hr.said.below hb) hsn
 have HLR:Hid (∀ W:World,Below w.heap.size w W → qJ6 W r.la r.ln r.ls):=fun W hb=>hr.locks.below hb
 have HLN:Hid (r.ls.length=r.ln):=hr.locks.1
 clear ho hEC
 clear hok v0 v1 v2 v3 v4 hc0 hf0 hff hbd hml
 clear hr hc hcl hEr hH hk hle
 go_enter Tryz.func37,Tryz.ntmps37
 go_upto_region 1 with fail
 rw [← hV]
 clear hV
 go_wp2_with fail
 refine (HCF.out _ W0.out.bl).mono ?_
 rintro d w1 ⟨rfl,hb1⟩
 have W1b:=qC5 (W0.out.below hb1)
 clear hb1 W0 HCF
 have x0:=W1b.out.bx 0 _ rfl
 have x1:=W1b.out.bx 1 _ rfl
 have x2:=W1b.out.bx 2 _ rfl
 have x3:=W1b.out.bx 3 _ rfl
 have y1:=V1.out _ W1b.out.bl
 have hxl:w.heap.size < w1.heap.size:=Nat.lt_of_succ_lt W1b.out.lt
 have hgl1:g < w1.heap.size:=Nat.lt_of_lt_of_le hgl W1b.out.bl.size
 go_upto_region 4 with fail
 refine wp_region_held_drew (S:=fun w'=>(∀ b o,b < w1.heap.size → w'.cell? ⟨b,o,none⟩=w1.cell? ⟨b,o,none⟩)∧Below w1.heap.size w1 w') (by kernel_rfl) (qB6 _) (fun hHeld=>?_)
 refine Zk.go [0,1,2,3,4] ?_
 iterate 5
  refine Zk.st (v:=?_) rfl ?_ ?_
  rotate_left 1
  ·intro w hSw;(try dsimp only at hSw);go_simp;try (with_reducible rfl)
  try simp only [Act.put,zA,zB,zC,zD,zE,zF]
 refine Zk.fin ?_
 refine Zk.rd (i:=5) rfl (fun K hK=>?_)
 go_simp
 refine (HIB.out _).mono ?_
 rintro d w2 ⟨rfl,hb2⟩
 have hS:=qA8 hHeld hb2
 refine hK.out _ _ hS (fun hHeld=>?_)
 clear hK K
 try simp only [Act.put,zA,zB,zC,zD,zE,zF]
 refine Zk.go [6] ?_
 refine Zk.st (v:=?_) rfl ?_ ?_
 rotate_left 1
 ·intro w hSw;(try dsimp only at hSw);go_simp;try (with_reducible rfl)
 try simp only [Act.put,zA,zB,zC,zD,zE,zF]
 refine Zk.fin ?_
 refine wpAnyH_done (by kernel_rfl) ?_ _
 have W2b:=qC5 (W1b.out.below hS.2)
 clear hHeld hS W1b x0 x1 x2 x3 y1 hb2 HIB hxl hgl1
 have x2:=W2b.out.bx 2 _ rfl
 have hxl:w.heap.size < w2.heap.size:=Nat.lt_of_succ_lt W2b.out.lt
 go_wp2_with fail
 refine (HSP.out _ W2b.out.bl).mono ?_
 rintro d w3 ⟨hb3,hs1,hs2⟩
 have W3b:=qC5 (W2b.out.below hb3)
 clear x2 hxl
 obtain ⟨qa,qn,qc,ra,rn,rc,rfl⟩:=hs2 hno
 have W4b:=qC5 (W3b.out.below ((Below.refl _ _).alloc (Nat.le_refl _) (.cells #[.slice (some ⟨g,off,none⟩) m cap,.slice qa qn qc,.slice ra rn rc] 74)))
 clear hs1 hs2 hb3 W3b W2b
 have u0:=W4b.out.rs.1 0 _ rfl
 have u1:=W4b.out.rs.1 1 _ rfl
 have u2:=W4b.out.rs.1 2 _ rfl
 have f0:=W4b.out.rs.2 0
 have f1:=W4b.out.rs.2 1
 have f2:=W4b.out.rs.2 2
 have hul:=W4b.out.lt
 go_wp2_with fail
 refine bodyPost_ret (v:=.tuple #[.agg #[.slice none 0 0,.slice none 0 0,.slice none 0 0],.int .i64 10]) (by simp [results,Tryz.results37,go_sem,u0,u1,u2,hul]) rfl ?_
 exact ⟨((W4b.out.bl.setCell (Nat.le_succ _) _).setCell (Nat.le_succ _) _).setCell (Nat.le_succ _) _,fun _=>rfl,fun q=>absurd q (by first | assumption | decide)⟩
theorem QS6 (E:qI3) (r:qG9) (a:Option Addr) (m cap:Nat) (cs:List qA4) (w:World) (hr:qD7 w r) (hle:qK5 1048576 r) (hc:qA6 w a m cs) (hcl:qF8 1048576 cs) (hm:m≤1048576) (hEr:qN5 0 w) (hH:qE4 w) (hk:qB8 cs=0) (hEC:qN6 E cs) (hbd:qI1 (f0C cs) r=true) (h40:r.sn≤40) (o:Option (List LkI)) (ho:qF4 E r.ss r.sn=o) (ls:List LkI) (hso:o=some ls) (hll:ls.length≤1048576) (hde:decide (ls=r.ls)=false) :
  Calls Tryz.prog 37 #[.agg #[.int .i64 r.i,.int .i64 r.u,.slice r.sa r.sn r.sc,.slice r.la r.ln r.lc],.slice a m cap] w fun d w'=>RebR r a m cap 10 w d w':=by
 have hsn:=hle.said
 have hln:=hle.locks
 have hsn':(r.sn:Int)≤1048576:=by omega
 have HCF:Hid (∀ W:World,Below w.heap.size w W → Calls Tryz.prog 63 #[.slice a m cap] W fun e w'=>e = .returned (.int .i64 0)∧Below W.heap.size W w'):=fun W hb=>by rw [← hk];exact qJ4 a m cap cs W hm hcl (hc.below hb)
 obtain ⟨V,hV⟩:∃ V,V=(w.alloc (.cells #[.int .i64 r.i,.int .i64 r.u,.slice r.sa r.sn r.sc,.slice r.la r.ln r.lc] 33)).alloc (.cells #[.slice none 0 0,.slice none 0 0,.slice none 0 0] 74):=⟨_,rfl⟩
 have W0:Hid (RW w r V):=by show RW w r V;rw [hV];exact RW.new w r
 obtain ⟨hm1,hm8,hok⟩:=qX1 hk
 have hml:cs.length=m:=hc.len
 have hm0:0 < m:=by omega
 have hm0':(0:Int) < (m:Int):=by omega
 obtain ⟨g,off,c0,rfl,hc0,hat,_⟩:=hc.at hm0
 obtain ⟨v0,v1,v2,v3,v4⟩:=hat
 simp only [Nat.zero_mul,Nat.add_zero] at v0 v1 v2 v3 v4
 have hgl:=zL w _ v0
 have hf0:f0C cs=c0.f:=by unfold f0C;rw [hc0];rfl
 have hff:1≤c0.f∧c0.f≤2:=f_of (hok 0 c0 hc0).1
 have HIB:Hid (∀ W:World,Calls Tryz.prog 64 #[.agg #[.int .i64 r.i,.int .i64 r.u,.slice r.sa r.sn r.sc,.slice r.la r.ln r.lc],.int .i64 c0.f] W fun e w'=>e = .returned (.bool true)∧Below W.heap.size W w'):=fun W=>by rw [← hbd,hf0];exact qR8 c0.f hff r W hsn
 have V1:Hid (∀ W:World,Below w.heap.size w W → W.cell? ⟨g,off+1,none⟩=some (.int .i64 c0.f)):=fun W hb=>(hb.cell (p:=⟨g,off+1,none⟩) hgl).trans v1
 have h40':(r.sn:Int)≤40:=by omega
 have HSP:Hid (∀ W:World,Below w.heap.size w W → Calls Tryz.prog 53 #[.slice (some ⟨g,off,none⟩) m cap,.slice r.sa r.sn r.sc] W fun d w'=>SpkR (some ⟨g,off,none⟩) m cap r.ss r.sn o W d w'):=fun W hb=>by
  rw [← ho]
  exact QB2 E _ m cap cs r.sa r.sn r.sc r.ss W hEC (fun W' hb'=>⟨hc.below (hb.trans (hb'.mono hb.size)),hEr.below (hb.trans (hb'.mono hb.size)),hH.below (hb.trans (hb'.mono hb.size))⟩) hm0 (by omega) (hr.said.below hb) hsn
 have HLR:Hid (∀ W:World,Below w.heap.size w W → qJ6 W r.la r.ln r.ls):=fun W hb=>hr.locks.below hb
 have HLN:Hid (r.ls.length=r.ln):=hr.locks.1
 have HEQ:Hid (∀ (W:World) (la:Option Addr) (lc:Nat),qJ6 W la ls.length ls → Below w.heap.size w W → Calls Tryz.prog 65 #[.slice la ls.length lc,.slice r.la r.ln r.lc] W fun e w'=>e = .returned (.bool false)∧Below W.heap.size W w'):=fun W la lc hl hb=>by
  have q:=QJ0 la r.la ls.length r.ln lc r.lc ls r.ls W hll hln hl (HLR.out _ hb)
  rw [hde] at q
  exact q
 clear ho hEC hde
 clear hok v0 v1 v2 v3 v4 hc0 hf0 hff hbd hml
 clear hr hc hcl hEr hH hk hle
 go_enter Tryz.func37,Tryz.ntmps37
 go_upto_region 1 with fail
 rw [← hV]
 clear hV
 go_wp2_with fail
 refine (HCF.out _ W0.out.bl).mono ?_
 rintro d w1 ⟨rfl,hb1⟩
 have W1b:=qC5 (W0.out.below hb1)
 clear hb1 W0 HCF
 have x0:=W1b.out.bx 0 _ rfl
 have x1:=W1b.out.bx 1 _ rfl
 have x2:=W1b.out.bx 2 _ rfl
 have x3:=W1b.out.bx 3 _ rfl
 have y1:=V1.out _ W1b.out.bl
 have hxl:w.heap.size < w1.heap.size:=Nat.lt_of_succ_lt W1b.out.lt
 have hgl1:g < w1.heap.size:=Nat.lt_of_lt_of_le hgl W1b.out.bl.size
 go_upto_region 4 with fail
 refine wp_region_held_drew (S:=fun w'=>(∀ b o,b < w1.heap.size → w'.cell? ⟨b,o,none⟩=w1.cell? ⟨b,o,none⟩)∧Below w1.heap.size w1 w') (by kernel_rfl) (qB6 _) (fun hHeld=>?_)
 refine Zk.go [0,1,2,3,4] ?_
 iterate 5
  refine Zk.st (v:=?_) rfl ?_ ?_
  rotate_left 1
  ·intro w hSw;(try dsimp only at hSw);go_simp;try (with_reducible rfl)
  try simp only [Act.put,zA,zB,zC,zD,zE,zF]
 refine Zk.fin ?_
 refine Zk.rd (i:=5) rfl (fun K hK=>?_)
 go_simp
 refine (HIB.out _).mono ?_
 rintro d w2 ⟨rfl,hb2⟩
 have hS:=qA8 hHeld hb2
 refine hK.out _ _ hS (fun hHeld=>?_)
 clear hK K
 try simp only [Act.put,zA,zB,zC,zD,zE,zF]
 refine Zk.go [6] ?_
 refine Zk.st (v:=?_) rfl ?_ ?_
 rotate_left 1
 ·intro w hSw;(try dsimp only at hSw);go_simp;try (with_reducible rfl)
 try simp only [Act.put,zA,zB,zC,zD,zE,zF]
 refine Zk.fin ?_
 refine wpAnyH_done (by kernel_rfl) ?_ _
 have W2b:=qC5 (W1b.out.below hS.2)
 clear hHeld hS W1b x0 x1 x2 x3 y1 hb2 HIB hxl hgl1
 have x2:=W2b.out.bx 2 _ rfl
 have hxl:w.heap.size < w2.heap.size:=Nat.lt_of_succ_lt W2b.out.lt
 go_wp2_with fail
 refine (HSP.out _ W2b.out.bl).mono ?_
 rintro d w3 ⟨hb3,hs1,hs2⟩
 have W3b:=qC5 (W2b.out.below hb3)
 clear x2 hxl
 obtain ⟨sa,sc,la,lc,rfl,ho1,ho2⟩:=hs1 ls hso
 have O1:=qC5 (ho1.below (w':=w3.alloc (.cells #[.slice (some ⟨g,off,none⟩) m cap,.slice sa r.sn sc,.slice la ls.length lc] 74)) (zN))
 have O2:=qC5 (ho2.below (w':=w3.alloc (.cells #[.slice (some ⟨g,off,none⟩) m cap,.slice sa r.sn sc,.slice la ls.length lc] 74)) (zN))
 have W4b:=qC5 (W3b.out.below ((Below.refl _ _).alloc (Nat.le_refl _) (.cells #[.slice (some ⟨g,off,none⟩) m cap,.slice sa r.sn sc,.slice la ls.length lc] 74)))
 have B2s:=W2b.out.bl.size
 have B2l:=W2b.out.lt
 obtain ⟨Y,hY⟩:∃ Y,Y=w3.alloc (.cells #[.slice (some ⟨g,off,none⟩) m cap,.slice sa r.sn sc,.slice la ls.length lc] 74):=⟨_,rfl⟩
 have XY:Hid (qE5 w3.heap.size [.slice (some ⟨g,off,none⟩) m cap,.slice sa r.sn sc,.slice la ls.length lc] Y∧w3.heap.size < Y.heap.size):=by rw [hY];exact ⟨(qE2 w3 _ _).out,by simp⟩
 rw [← hY] at O1 O2 W4b
 clear hs1 hs2 hb3 W3b W2b ho1 ho2
 go_upto_region 9 with fail
 rw [← hY]
 clear hY
 generalize w3.heap.size=q3 at XY ⊢
 have s0:=XY.out.1 0 _ rfl
 have s1:=XY.out.1 1 _ rfl
 have s2:=XY.out.1 2 _ rfl
 have hsl:=XY.out.2
 have x3:=W4b.out.bx 3 _ rfl
 have hxl:w.heap.size < Y.heap.size:=Nat.lt_of_succ_lt W4b.out.lt
 go_wp2_with fail
 refine (HEQ.out _ _ lc (LkV.isIn rfl O2.out.view) W4b.out.bl).mono ?_
 rintro d w5 ⟨rfl,hb5⟩
 have W5b:=qC5 (W4b.out.below hb5)
 clear s0 s1 s2 hsl x3 hxl
 have u0:=W5b.out.rs.1 0 _ rfl
 have u1:=W5b.out.rs.1 1 _ rfl
 have u2:=W5b.out.rs.1 2 _ rfl
 have f0:=W5b.out.rs.2 0
 have f1:=W5b.out.rs.2 1
 have f2:=W5b.out.rs.2 2
 have hul:=W5b.out.lt
 go_wp2_with fail
 refine bodyPost_ret (v:=.tuple #[.agg #[.slice none 0 0,.slice none 0 0,.slice none 0 0],.int .i64 10]) (by simp [results,Tryz.results37,go_sem,u0,u1,u2,hul]) rfl ?_
 exact ⟨((W5b.out.bl.setCell (Nat.le_succ _) _).setCell (Nat.le_succ _) _).setCell (Nat.le_succ _) _,fun _=>rfl,fun q=>absurd q (by first | assumption | decide)⟩
theorem rebuild_ok (E:qI3) (r:qG9) (a:Option Addr) (m cap:Nat) (cs:List qA4) (w:World) (hr:qD7 w r) (hle:qK5 1048576 r) (hc:qA6 w a m cs) (hcl:qF8 1048576 cs) (hm:m≤1048576) (hEr:qN5 0 w) (hH:qE4 w) (hk:qB8 cs=0) (hEC:qN6 E cs) (hbd:qI1 (f0C cs) r=true) (h40:r.sn≤40) (o:Option (List LkI)) (ho:qF4 E r.ss r.sn=o) (ls:List LkI) (hso:o=some ls) (hll:ls.length≤1048576) (hls:ls=r.ls) (hde:decide (ls=r.ls)=true) :
  Calls Tryz.prog 37 #[.agg #[.int .i64 r.i,.int .i64 r.u,.slice r.sa r.sn r.sc,.slice r.la r.ln r.lc],.slice a m cap] w fun d w'=>RebR r a m cap 0 w d w':=by
 have hsn:=hle.said
 have hln:=hle.locks
 have hsn':(r.sn:Int)≤1048576:=by omega
 have HCF:Hid (∀ W:World,Below w.heap.size w W → Calls Tryz.prog 63 #[.slice a m cap] W fun e w'=>e = .returned (.int .i64 0)∧Below W.heap.size W w'):=fun W hb=>by rw [← hk];exact qJ4 a m cap cs W hm hcl (hc.below hb)
 obtain ⟨V,hV⟩:∃ V,V=(w.alloc (.cells #[.int .i64 r.i,.int .i64 r.u,.slice r.sa r.sn r.sc,.slice r.la r.ln r.lc] 33)).alloc (.cells #[.slice none 0 0,.slice none 0 0,.slice none 0 0] 74):=⟨_,rfl⟩
 have W0:Hid (RW w r V):=by show RW w r V;rw [hV];exact RW.new w r
 obtain ⟨hm1,hm8,hok⟩:=qX1 hk
 have hml:cs.length=m:=hc.len
 have hm0:0 < m:=by omega
 have hm0':(0:Int) < (m:Int):=by omega
 obtain ⟨g,off,c0,rfl,hc0,hat,_⟩:=hc.at hm0
 obtain ⟨v0,v1,v2,v3,v4⟩:=hat
 simp only [Nat.zero_mul,Nat.add_zero] at v0 v1 v2 v3 v4
 have hgl:=zL w _ v0
 have hf0:f0C cs=c0.f:=by unfold f0C;rw [hc0];rfl
 have hff:1≤c0.f∧c0.f≤2:=f_of (hok 0 c0 hc0).1
 have HIB:Hid (∀ W:World,Calls Tryz.prog 64 #[.agg #[.int .i64 r.i,.int .i64 r.u,.slice r.sa r.sn r.sc,.slice r.la r.ln r.lc],.int .i64 c0.f] W fun e w'=>e = .returned (.bool true)∧Below W.heap.size W w'):=fun W=>by rw [← hbd,hf0];exact qR8 c0.f hff r W hsn
 have V1:Hid (∀ W:World,Below w.heap.size w W → W.cell? ⟨g,off+1,none⟩=some (.int .i64 c0.f)):=fun W hb=>(hb.cell (p:=⟨g,off+1,none⟩) hgl).trans v1
 have h40':(r.sn:Int)≤40:=by omega
 have HSP:Hid (∀ W:World,Below w.heap.size w W → Calls Tryz.prog 53 #[.slice (some ⟨g,off,none⟩) m cap,.slice r.sa r.sn r.sc] W fun d w'=>SpkR (some ⟨g,off,none⟩) m cap r.ss r.sn o W d w'):=fun W hb=>by
  rw [← ho]
  exact QB2 E _ m cap cs r.sa r.sn r.sc r.ss W hEC (fun W' hb'=>⟨hc.below (hb.trans (hb'.mono hb.size)),hEr.below (hb.trans (hb'.mono hb.size)),hH.below (hb.trans (hb'.mono hb.size))⟩) hm0 (by omega) (hr.said.below hb) hsn
 have HLR:Hid (∀ W:World,Below w.heap.size w W → qJ6 W r.la r.ln r.ls):=fun W hb=>hr.locks.below hb
 have HLN:Hid (r.ls.length=r.ln):=hr.locks.1
 have HEQ:Hid (∀ (W:World) (la:Option Addr) (lc:Nat),qJ6 W la ls.length ls → Below w.heap.size w W → Calls Tryz.prog 65 #[.slice la ls.length lc,.slice r.la r.ln r.lc] W fun e w'=>e = .returned (.bool true)∧Below W.heap.size W w'):=fun W la lc hl hb=>by
  have q:=QJ0 la r.la ls.length r.ln lc r.lc ls r.ls W hll hln hl (HLR.out _ hb)
  rw [hde] at q
  exact q
 have HLS:Hid (ls=r.ls):=hls
 clear ho hEC hde hls
 clear hok v0 v1 v2 v3 v4 hc0 hf0 hff hbd hml
 clear hr hc hcl hEr hH hk hle
 go_enter Tryz.func37,Tryz.ntmps37
 go_upto_region 1 with fail
 rw [← hV]
 clear hV
 go_wp2_with fail
 refine (HCF.out _ W0.out.bl).mono ?_
 rintro d w1 ⟨rfl,hb1⟩
 have W1b:=qC5 (W0.out.below hb1)
 clear hb1 W0 HCF
 have x0:=W1b.out.bx 0 _ rfl
 have x1:=W1b.out.bx 1 _ rfl
 have x2:=W1b.out.bx 2 _ rfl
 have x3:=W1b.out.bx 3 _ rfl
 have y1:=V1.out _ W1b.out.bl
 have hxl:w.heap.size < w1.heap.size:=Nat.lt_of_succ_lt W1b.out.lt
 have hgl1:g < w1.heap.size:=Nat.lt_of_lt_of_le hgl W1b.out.bl.size
 go_upto_region 4 with fail
 refine wp_region_held_drew (S:=fun w'=>(∀ b o,b < w1.heap.size → w'.cell? ⟨b,o,none⟩=w1.cell? ⟨b,o,none⟩)∧Below w1.heap.size w1 w') (by kernel_rfl) (qB6 _) (fun hHeld=>?_)
 refine Zk.go [0,1,2,3,4] ?_
 iterate 5
  refine Zk.st (v:=?_) rfl ?_ ?_
  rotate_left 1
  ·intro w hSw;(try dsimp only at hSw);go_simp;try (with_reducible rfl)
  try simp only [Act.put,zA,zB,zC,zD,zE,zF]
 refine Zk.fin ?_
 refine Zk.rd (i:=5) rfl (fun K hK=>?_)
 go_simp
 refine (HIB.out _).mono ?_
 rintro d w2 ⟨rfl,hb2⟩
 have hS:=qA8 hHeld hb2
 refine hK.out _ _ hS (fun hHeld=>?_)
 clear hK K
 try simp only [Act.put,zA,zB,zC,zD,zE,zF]
 refine Zk.go [6] ?_
 refine Zk.st (v:=?_) rfl ?_ ?_
 rotate_left 1
 ·intro w hSw;(try dsimp only at hSw);go_simp;try (with_reducible rfl)
 try simp only [Act.put,zA,zB,zC,zD,zE,zF]
 refine Zk.fin ?_
 refine wpAnyH_done (by kernel_rfl) ?_ _
 have W2b:=qC5 (W1b.out.below hS.2)
 clear hHeld hS W1b x0 x1 x2 x3 y1 hb2 HIB hxl hgl1
 have x2:=W2b.out.bx 2 _ rfl
 have hxl:w.heap.size < w2.heap.size:=Nat.lt_of_succ_lt W2b.out.lt
 go_wp2_with fail
 refine (HSP.out _ W2b.out.bl).mono ?_
 rintro d w3 ⟨hb3,hs1,hs2⟩
 have W3b:=qC5 (W2b.out.below hb3)
 clear x2 hxl
 obtain ⟨sa,sc,la,lc,rfl,ho1,ho2⟩:=hs1 ls hso
 have O1:=qC5 (ho1.below (w':=w3.alloc (.cells #[.slice (some ⟨g,off,none⟩) m cap,.slice sa r.sn sc,.slice la ls.length lc] 74)) (zN))
 have O2:=qC5 (ho2.below (w':=w3.alloc (.cells #[.slice (some ⟨g,off,none⟩) m cap,.slice sa r.sn sc,.slice la ls.length lc] 74)) (zN))
 have W4b:=qC5 (W3b.out.below ((Below.refl _ _).alloc (Nat.le_refl _) (.cells #[.slice (some ⟨g,off,none⟩) m cap,.slice sa r.sn sc,.slice la ls.length lc] 74)))
 have B2s:=W2b.out.bl.size
 have B2l:=W2b.out.lt
 obtain ⟨Y,hY⟩:∃ Y,Y=w3.alloc (.cells #[.slice (some ⟨g,off,none⟩) m cap,.slice sa r.sn sc,.slice la ls.length lc] 74):=⟨_,rfl⟩
 have XY:Hid (qE5 w3.heap.size [.slice (some ⟨g,off,none⟩) m cap,.slice sa r.sn sc,.slice la ls.length lc] Y∧w3.heap.size < Y.heap.size):=by rw [hY];exact ⟨(qE2 w3 _ _).out,by simp⟩
 rw [← hY] at O1 O2 W4b
 clear hs1 hs2 hb3 W3b W2b ho1 ho2
 go_upto_region 9 with fail
 rw [← hY]
 clear hY
 generalize w3.heap.size=q3 at XY ⊢
 have s0:=XY.out.1 0 _ rfl
 have s1:=XY.out.1 1 _ rfl
 have s2:=XY.out.1 2 _ rfl
 have hsl:=XY.out.2
 have x3:=W4b.out.bx 3 _ rfl
 have hxl:w.heap.size < Y.heap.size:=Nat.lt_of_succ_lt W4b.out.lt
 go_wp2_with fail
 refine (HEQ.out _ _ lc (LkV.isIn rfl O2.out.view) W4b.out.bl).mono ?_
 rintro d w5 ⟨rfl,hb5⟩
 have W5b:=qC5 (W4b.out.below hb5)
 have X5:qE5 q3 [.slice (some ⟨g,off,none⟩) m cap,.slice sa r.sn sc,.slice la ls.length lc] w5:=((qE5.hold XY.out.1 XY.out.2).below hb5).out
 have O5:=qC5 (O1.out.below hb5)
 have P5:=qC5 (O2.out.below hb5)
 have hq5:q3 < w5.heap.size:=Nat.lt_of_lt_of_le XY.out.2 hb5.size
 clear s0 s1 s2 hsl x3 hxl
 have s0:=X5 0 _ rfl
 have s1:=X5 1 _ rfl
 have s2:=X5 2 _ rfl
 have u0:=W5b.out.rs.1 0 _ rfl
 have u1:=W5b.out.rs.1 1 _ rfl
 have u2:=W5b.out.rs.1 2 _ rfl
 have f0:=W5b.out.rs.2 0
 have f1:=W5b.out.rs.2 1
 have f2:=W5b.out.rs.2 2
 have hul:=W5b.out.lt
 clear X5
 go_wp2_with fail
 refine bodyPost_ret (v:=.tuple #[.agg #[.slice (some ⟨g,off,none⟩) m cap,.slice sa r.sn sc,.slice la ls.length lc],.int .i64 0]) (by simp [results,Tryz.results37,go_sem,u0,u1,u2,hul]) rfl ?_
 refine ⟨((W5b.out.bl.setCell (Nat.le_succ _) _).setCell (Nat.le_succ _) _).setCell (Nat.le_succ _) _,fun q=>absurd rfl q,fun _=>?_⟩
 have hls:=HLS.out
 subst hls
 rw [HLN.out]
 refine ⟨sa,sc,la,lc,rfl,qA3 (qC4 O5.out (by omega)) (fun g' e=>?_),qA3 (?_:qA1 w5 w.heap.size (.slice la r.ln lc) r.ls) (fun g' e=>?_)⟩
 ·obtain ⟨cur,hcc,hgg⟩:=qD3 O5.out e
  have h0:=W5b.out.lt
  rw [Below.heap_setCell _ _ _ _ (by show g' ≠ w.heap.size+1;omega),Below.heap_setCell _ _ _ _ (by show g' ≠ w.heap.size+1;omega),Below.heap_setCell _ _ _ _ (by show g' ≠ w.heap.size+1;omega)]
 ·have:=qB0 P5.out (show w.heap.size≤_ by omega)
  rw [HLN.out] at this
  exact this
 ·have P6:=P5.out
  rw [HLN.out] at P6
  obtain ⟨cur,hcc,hgg⟩:=qD1 P6 e
  rw [Below.heap_setCell _ _ _ _ (by show g' ≠ w.heap.size+1;omega),Below.heap_setCell _ _ _ _ (by show g' ≠ w.heap.size+1;omega),Below.heap_setCell _ _ _ _ (by show g' ≠ w.heap.size+1;omega)]

theorem play_len {E:qI3} {xs:List StI}:∀ (k:Nat) (ls:List LkI),qF4 E xs k=some ls → k≤xs.length → ls.length≤1048576:=fun k ls h hk=>by
 have:=(QS8 k ls hk h).lk
 exact Nat.le_trans (QE8 this).1 (by omega)
theorem rebuild_c (E:qI3) (r:qG9) (a:Option Addr) (m cap:Nat) (cs:List qA4) (w:World) (hr:qD7 w r) (hle:qK5 1048576 r) (hc:qA6 w a m cs) (hcl:qF8 1048576 cs) (hm:m≤1048576) (hEr:qN5 0 w) (hH:qE4 w) (hEC:qB8 cs=0 → qN6 E cs) :
  Calls Tryz.prog 37 #[.agg #[.int .i64 r.i,.int .i64 r.u,.slice r.sa r.sn r.sc,.slice r.la r.ln r.lc],.slice a m cap] w fun d w'=>RebR r a m cap (qH0 E cs r) w d w':=by
 unfold qH0
 by_cases hk:qB8 cs=0
 ·rw [if_pos hk]
  cases hb:qI1 (f0C cs) r
  ·rw [if_neg (by decide)]
   exact QN9 E r a m cap cs w hr hle hc hcl hm hEr hH hk hb
  ·rw [if_pos rfl]
   by_cases h40:40 < r.sn
   ·rw [if_pos h40]
    exact QX3 E r a m cap cs w hr hle hc hcl hm hEr hH hk hb h40
   ·rw [if_neg h40]
    cases ho:qF4 E r.ss r.sn with
    | none =>
     rw [if_neg (by intro q;cases q)]
     exact QX2 E r a m cap cs w hr hle hc hcl hm hEr hH hk (hEC hk) hb (by omega) _ ho rfl
    | some ls =>
     have hll:ls.length≤1048576:=play_len r.sn ls ho (by rw [hr.said.1];exact Nat.le_refl _)
     by_cases e:ls=r.ls
     ·rw [if_pos (by rw [e])]
      exact rebuild_ok E r a m cap cs w hr hle hc hcl hm hEr hH hk (hEC hk) hb (by omega) _ ho ls rfl hll e (decide_eq_true e)
     ·rw [if_neg (fun q=>e (Option.some.inj q))]
      exact QS6 E r a m cap cs w hr hle hc hcl hm hEr hH hk (hEC hk) hb (by omega) _ ho ls rfl hll (decide_eq_false e)
 ·rw [if_neg hk]
  exact QX4 E r a m cap cs w hr hle hc hcl hm hEr hH _ rfl hk

theorem replica_c (b:Nat) (i u:Int) (cv:Value) (sa:Option Addr) (n sc:Nat) (la:Option Addr) (m lc:Nat) (w:World) (hs:qV6 w b cv (.slice sa n sc) (.slice la m lc)) :
  Calls Tryz.prog 43 #[.pointer (some ⟨b,0,none⟩),.int .i64 i,.int .i64 u] w fun d w'=>d = .returned (.agg #[.int .i64 0,.int .i64 i,.int .i64 u,.slice sa n sc,.slice la m lc])∧Below w.heap.size w w':=by
 have hbl:=hs.lt
 obtain ⟨W,hW⟩:∃ W,W=w.alloc (.cells #[.int .i64 0,.int .i64 0,.int .i64 0,.slice none 0 0,.slice none 0 0] 43):=⟨_,rfl⟩
 have A0:Below w.heap.size w W:=by rw [hW];exact zN
 have X0:qI6 w.heap.size [.int .i64 0,.int .i64 0,.int .i64 0,.slice none 0 0,.slice none 0 0] W:=by rw [hW];exact qH4 w _ _
 have hwl:w.heap.size < W.heap.size:=by rw [hW];simp
 have s1:=(hs.below A0).c1
 have s2:=(hs.below A0).c2
 have hbW:b < W.heap.size:=by omega
 have hne:b ≠ w.heap.size:=by omega
 have z0:=X0.1 0 _ rfl
 have z1:=X0.1 1 _ rfl
 have z2:=X0.1 2 _ rfl
 have z3:=X0.1 3 _ rfl
 have z4:=X0.1 4 _ rfl
 have f0:=X0.2 0
 have f1:=X0.2 1
 have f2:=X0.2 2
 have f3:=X0.2 3
 have f4:=X0.2 4
 have HB:=qC5 A0
 clear hs A0 X0
 go_enter Tryz.func43,Tryz.ntmps43
 go_upto_region 1 with fail
 rw [← hW]
 clear hW
 go_region
 go_wp2_with fail
 refine bodyPost_ret (v:=.agg #[.int .i64 0,.int .i64 i,.int .i64 u,.slice sa n sc,.slice la m lc]) (by simp [results,Tryz.results43,go_sem,z0,z1,z2,z3,z4,hwl]) rfl ⟨rfl,?_⟩
 first
  | exact (((((HB.out.setCell (Nat.le_refl _) _).setCell (Nat.le_refl _) _).setCell (Nat.le_refl _) _).setCell (Nat.le_refl _) _).setCell (Nat.le_refl _) _).drew
  | exact ((((HB.out.drew.setCell (Nat.le_refl _) _).setCell (Nat.le_refl _) _).setCell (Nat.le_refl _) _).setCell (Nat.le_refl _) _).setCell (Nat.le_refl _) _

def RepA (k i u:Int) (S:List StI) (L:List LkI) (w:World) (d:Ending) (w':World):Prop :=
 Below w.heap.size w w'∧(k ≠ 0 → d = .returned (.agg #[.int .i64 k,.int .i64 0,.int .i64 0,.slice none 0 0,.slice none 0 0]))∧(k=0 → ∃ (sa:Option Addr) (sc:Nat) (la:Option Addr) (lc:Nat),d = .returned (.agg #[.int .i64 0,.int .i64 i,.int .i64 u,.slice sa S.length sc,.slice la L.length lc])∧qB1 w' w.heap.size (.slice sa S.length sc) S∧qA1 w' w.heap.size (.slice la L.length lc) L)
structure RZ (w:World) (r:qG9) (W:World):Prop where
 bx:qE5 w.heap.size [.int .i64 r.i,.int .i64 r.u,.slice r.sa r.sn r.sc,.slice r.la r.ln r.lc] W
 rs:qI6 (w.heap.size+1) [.int .i64 0,.int .i64 0,.int .i64 0,.slice none 0 0,.slice none 0 0] W
 lt:w.heap.size+1 < W.heap.size
 bl:Below w.heap.size w W
theorem RZ.below {w:World} {r:qG9} {W W':World} (h:RZ w r W) (hb:Below W.heap.size W W'):RZ w r W' :=
 ⟨((qE5.hold h.bx (Nat.lt_of_succ_lt h.lt)).below hb).out,qI6.below h.rs h.lt hb,Nat.lt_of_lt_of_le h.lt hb.size,h.bl.trans (hb.mono h.bl.size)⟩
theorem RZ.new (w:World) (r:qG9):RZ w r ((w.alloc (.cells #[.int .i64 r.i,.int .i64 r.u,.slice r.sa r.sn r.sc,.slice r.la r.ln r.lc] 33)).alloc (.cells #[.int .i64 0,.int .i64 0,.int .i64 0,.slice none 0 0,.slice none 0 0] 43)):=by
 have e:w.heap.size+1=(w.alloc (.cells #[.int .i64 r.i,.int .i64 r.u,.slice r.sa r.sn r.sc,.slice r.la r.ln r.lc] 33)).heap.size:=by simp
 refine ⟨((qE2 w _ _).below (zN)).out,?_,by simp,(zN).alloc (by simp) _⟩
 rw [e]
 exact qH4 _ _ _
theorem implSync_c (E:qI3) (r:qG9) (a:Option Addr) (m cap:Nat) (cs:List qA4) (w:World) (hr:qD7 w r) (hle:qK5 1048576 r) (hc:qA6 w a m cs) (hcl:qF8 1048576 cs) (hm:m≤1048576) (hEr:qN5 0 w) (hH:qE4 w) (hEC:qB8 cs=0 → qN6 E cs) :
  Calls Tryz.prog 25 #[.agg #[.int .i64 r.i,.int .i64 r.u,.slice r.sa r.sn r.sc,.slice r.la r.ln r.lc],.slice a m cap] w fun d w'=>RepA (qH0 E cs r) r.i (r.sn:Int) r.ss r.ls w d w':=by
 obtain ⟨V,hV⟩:∃ V,V=(w.alloc (.cells #[.int .i64 r.i,.int .i64 r.u,.slice r.sa r.sn r.sc,.slice r.la r.ln r.lc] 33)).alloc (.cells #[.int .i64 0,.int .i64 0,.int .i64 0,.slice none 0 0,.slice none 0 0] 43):=⟨_,rfl⟩
 have Z0:Hid (RZ w r V):=by show RZ _ _ _;rw [hV];exact RZ.new w r
 obtain ⟨k,hk⟩:∃ k,qH0 E cs r=k:=⟨_,rfl⟩
 have HSL:Hid (r.ss.length=r.sn∧r.ls.length=r.ln):=⟨hr.said.1,hr.locks.1⟩
 have HRB:Hid (Calls Tryz.prog 37 #[.agg #[.int .i64 r.i,.int .i64 r.u,.slice r.sa r.sn r.sc,.slice r.la r.ln r.lc],.slice a m cap] V fun d w'=>RebR r a m cap k V d w'):=by
  show Calls _ _ _ _ _
  rw [← hk]
  exact rebuild_c E r a m cap cs V (hr.below Z0.out.bl) hle (hc.below Z0.out.bl) hcl hm (hEr.below Z0.out.bl) (hH.below Z0.out.bl) hEC
 have hsn:(r.sn:Int)≤1048576:=by have:=hle.said;omega
 rw [hk]
 have v0:=Z0.out.bx 0 _ rfl
 have v1:=Z0.out.bx 1 _ rfl
 have v2:=Z0.out.bx 2 _ rfl
 have v3:=Z0.out.bx 3 _ rfl
 have hvl:w.heap.size < V.heap.size:=Nat.lt_of_succ_lt Z0.out.lt
 have hVs:=Z0.out.bl.size
 have HVL:Hid (w.heap.size+1 < V.heap.size):=Z0.out.lt
 clear hk hr hle hc hcl hEr hH hEC
 go_enter Tryz.func25,Tryz.ntmps25
 go_upto_region 1 with fail
 rw [← hV]
 clear hV
 go_wp2_with fail
 refine HRB.out.mono ?_
 rintro d w1 ⟨hb1,h1,h2⟩
 have Z1:=qC5 (Z0.out.below hb1)
 clear hb1 Z0 HRB v0 v1 v2 v3 hvl
 by_cases hk:k=0
 ·obtain ⟨sa,sc,la,lc,rfl,ho1,ho2⟩:=h2 hk
  subst hk
  obtain ⟨Y,hY⟩:∃ Y,Y=w1.alloc (.cells #[.slice a m cap,.slice sa r.sn sc,.slice la r.ln lc] 74):=⟨_,rfl⟩
  have AY:Below w1.heap.size w1 Y:=by rw [hY];exact zN
  have Z2:=qC5 (Z1.out.below AY)
  have S2:Hid (qV6 Y w1.heap.size (.slice a m cap) (.slice sa r.sn sc) (.slice la r.ln lc)):=by
   show qV6 _ _ _ _ _
   have q:Y.heap[w1.heap.size]? = some (.cells #[.slice a m cap,.slice sa r.sn sc,.slice la r.ln lc] 74 (0,0)):=by rw [hY];exact QU1 w1 _
   exact ⟨by rw [qA9 q];rfl,by rw [qA9 q];rfl,by rw [qA9 q];rfl,fun j=>qX2 q j⟩
  have O1:=qC5 (ho1.below AY)
  have O2:=qC5 (ho2.below AY)
  clear h1 h2 ho1 ho2 AY Z1
  go_upto_region 4 with fail
  rw [← hY]
  clear hY
  generalize w1.heap.size=q at S2 ⊢
  have s1:=S2.out.c1
  have hql:=S2.out.lt
  have v0:=Z2.out.bx 0 _ rfl
  have hvl:w.heap.size < Y.heap.size:=Nat.lt_of_succ_lt Z2.out.lt
  go_wp2_with fail
  refine (replica_c q r.i (r.sn:Int) _ sa r.sn sc la r.ln lc Y S2.out).mono ?_
  rintro e w3 ⟨rfl,hb3⟩
  have Z3:=qC5 (Z2.out.below hb3)
  have P1:=qC5 (O1.out.below hb3)
  have P2:=qC5 (O2.out.below hb3)
  clear hb3 Z2 O1 O2 S2 s1 hql v0 hvl
  have z0:=Z3.out.rs.1 0 _ rfl
  have z1:=Z3.out.rs.1 1 _ rfl
  have z2:=Z3.out.rs.1 2 _ rfl
  have z3:=Z3.out.rs.1 3 _ rfl
  have z4:=Z3.out.rs.1 4 _ rfl
  have f0:=Z3.out.rs.2 0
  have f1:=Z3.out.rs.2 1
  have f2:=Z3.out.rs.2 2
  have f3:=Z3.out.rs.2 3
  have f4:=Z3.out.rs.2 4
  have hzl:=Z3.out.lt
  go_wp2_with fail
  refine bodyPost_ret (v:=.agg #[.int .i64 0,.int .i64 r.i,.int .i64 (r.sn:Int),.slice sa r.sn sc,.slice la r.ln lc]) (by simp [results,Tryz.results25,go_sem,z0,z1,z2,z3,z4,hzl]) rfl ?_
  refine ⟨((((Z3.out.bl.setCell (Nat.le_succ _) _).setCell (Nat.le_succ _) _).setCell (Nat.le_succ _) _).setCell (Nat.le_succ _) _).setCell (Nat.le_succ _) _,fun q=>absurd rfl q,fun _=>?_⟩
  rw [HSL.out.1,HSL.out.2]
  refine ⟨sa,sc,la,lc,rfl,qA3 (qC4 P1.out hVs) (fun g e=>?_),qA3 (qB0 P2.out hVs) (fun g e=>?_)⟩
  ·obtain ⟨cur,hcc,hgg⟩:=qD3 P1.out e
   have:=HVL.out
   rw [Below.heap_setCell _ _ _ _ (by show g ≠ w.heap.size+1;omega),Below.heap_setCell _ _ _ _ (by show g ≠ w.heap.size+1;omega),Below.heap_setCell _ _ _ _ (by show g ≠ w.heap.size+1;omega),Below.heap_setCell _ _ _ _ (by show g ≠ w.heap.size+1;omega),Below.heap_setCell _ _ _ _ (by show g ≠ w.heap.size+1;omega)]
  ·obtain ⟨cur,hcc,hgg⟩:=qD1 P2.out e
   have:=HVL.out
   rw [Below.heap_setCell _ _ _ _ (by show g ≠ w.heap.size+1;omega),Below.heap_setCell _ _ _ _ (by show g ≠ w.heap.size+1;omega),Below.heap_setCell _ _ _ _ (by show g ≠ w.heap.size+1;omega),Below.heap_setCell _ _ _ _ (by show g ≠ w.heap.size+1;omega),Below.heap_setCell _ _ _ _ (by show g ≠ w.heap.size+1;omega)]
 ·obtain rfl:=h1 hk
  have kb:(k != 0)=true:=by simp [hk]
  have Z2:=qC5 (Z1.out.below ((Below.refl _ _).alloc (Nat.le_refl _) (.cells #[.slice none 0 0,.slice none 0 0,.slice none 0 0] 74)))
  clear h1 h2 Z1
  have z0:=Z2.out.rs.1 0 _ rfl
  have z1:=Z2.out.rs.1 1 _ rfl
  have z2:=Z2.out.rs.1 2 _ rfl
  have z3:=Z2.out.rs.1 3 _ rfl
  have z4:=Z2.out.rs.1 4 _ rfl
  have f0:=Z2.out.rs.2 0
  have f1:=Z2.out.rs.2 1
  have f2:=Z2.out.rs.2 2
  have f3:=Z2.out.rs.2 3
  have f4:=Z2.out.rs.2 4
  have hzl:=Z2.out.lt
  go_wp2_with fail
  refine bodyPost_ret (v:=.agg #[.int .i64 k,.int .i64 0,.int .i64 0,.slice none 0 0,.slice none 0 0]) (by simp [results,Tryz.results25,go_sem,z0,z1,z2,z3,z4,hzl]) rfl ?_
  exact ⟨((((Z2.out.bl.setCell (Nat.le_succ _) _).setCell (Nat.le_succ _) _).setCell (Nat.le_succ _) _).setCell (Nat.le_succ _) _).setCell (Nat.le_succ _) _,fun _=>rfl,fun q=>absurd q hk⟩

end Go.Proofs.YtlpgapdlepbgbaaGreatDoor
