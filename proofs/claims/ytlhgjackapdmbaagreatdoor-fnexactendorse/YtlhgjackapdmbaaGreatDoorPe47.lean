/- Contracts. -/
import Derived.Test.YtlhgjackapdmbaaGreatDoorPe46
import Derived.Test.YtlhgjackapdmbaaGreatDoorPe42
namespace Go.Proofs.YtlhgjackapdmbaaGreatDoor
set_option maxRecDepth 100000
set_option maxHeartbeats 8000000
open Go.RowKit
set_option linter.unusedVariables false
set_option linter.unusedSimpArgs false

section
theorem QG8 {z:Int} (h0:0≤z) (h1:z≤1000):IntKind.i64.wrap z=z:=by rw [IntKind.wrap_i64];omega
theorem lk_put4 {w5:World} {B q:Nat} {la:Option Addr} {lc:Nat} {ls:List LkI} (h:qA4 w5 B (.slice la ls.length lc) ls) (hq:q < B) (v0 v1 v2 v3:Value):qK1 ((((w5.setCell ⟨q,0,none⟩ v0).setCell ⟨q,1,none⟩ v1).setCell ⟨q,2,none⟩ v2).setCell ⟨q,3,none⟩ v3) la ls.length ls:=by
 refine LkV.isIn rfl (qA4.view (B:=B) (cap:=lc) (qA2 h (fun g e=>?_)))
 obtain ⟨cur,hcc,hgg⟩:=qD2 h e
 rw [Below.heap_setCell _ _ _ _ (by show g≠q;omega),Below.heap_setCell _ _ _ _ (by show g≠q;omega),Below.heap_setCell _ _ _ _ (by show g≠q;omega),Below.heap_setCell _ _ _ _ (by show g≠q;omega)]
attribute [local go_sem ↓] Lock_neq
theorem faultS_conf (E:qI1) (b:Nat) (r:qH5) (a:Option Addr) (m cap:Nat) (cs:List qA5) (w:World) (hb:qG8 w b r) (hr:qE7 w r) (hle:qL6 1048576 r) (hc:qA7 w a m cs) (hcl:qF5 1048576 cs) (hm:m≤1048576) (k:Int) (hk:qB8 cs=k) (hk0:k≠0) :
  Calls Tryz.prog 33 #[.pointer (some ⟨b,0,none⟩),.slice a m cap] w fun d w'=>d = .returned (.int .i64 k)∧Below w.heap.size w w':=by
 have hsn:=hle.said
 have hln:=hle.locks
 have hsn':(r.sn:Int)≤1048576:=by omega
 have hln':(r.ln:Int)≤1048576:=by omega
 have HCF:Hid (Calls Tryz.prog 57 #[.slice a m cap] w fun e w'=>e = .returned (.int .i64 k)∧Below w.heap.size w w'):=by show Calls _ _ _ _ _;rw [← hk];exact qM4 a m cap cs w hm hcl hc
 have HB:Hid (∀ W,Below w.heap.size w W→qG8 W b r∧qE7 W r∧qA7 W a m cs):=fun W q=>⟨hb.below q,hr.below q,hc.below q⟩
 have hbl:b < w.heap.size:=hb.lt
 have kb:(k != 0)=true:=by simp [hk0]
 clear hb hr hc hcl hk hle
 go_enter Tryz.func33,Tryz.ntmps33
 go_wp2_with fail
 refine HCF.out.mono ?_
 rintro d w1 ⟨rfl,hb1⟩
 have B1:=qC8 hb1
 clear hb1 HCF
 go_wp2_with fail
 go_ret
 exact ⟨rfl,B1.out⟩
theorem faultS_id (E:qI1) (b:Nat) (r:qH5) (a:Option Addr) (m cap:Nat) (cs:List qA5) (w:World) (hb:qG8 w b r) (hr:qE7 w r) (hle:qL6 1048576 r) (hc:qA7 w a m cs) (hcl:qF5 1048576 cs) (hm:m≤1048576) (hk:qB8 cs=0) (h1':inR r.i 1 (3 * f0C cs+1)=false) :
  Calls Tryz.prog 33 #[.pointer (some ⟨b,0,none⟩),.slice a m cap] w fun d w'=>d = .returned (.int .i64 3)∧Below w.heap.size w w':=by
 have hsn:=hle.said
 have hln:=hle.locks
 have hsn':(r.sn:Int)≤1048576:=by omega
 have hln':(r.ln:Int)≤1048576:=by omega
 have HCF:Hid (Calls Tryz.prog 57 #[.slice a m cap] w fun e w'=>e = .returned (.int .i64 0)∧Below w.heap.size w w'):=by show Calls _ _ _ _ _;rw [← hk];exact qM4 a m cap cs w hm hcl hc
 have HB:Hid (∀ W,Below w.heap.size w W→qG8 W b r∧qE7 W r∧qA7 W a m cs):=fun W q=>⟨hb.below q,hr.below q,hc.below q⟩
 have hbl:b < w.heap.size:=hb.lt
 obtain ⟨hm1,hm8,hok⟩:=qU0 hk
 have hml:cs.length=m:=hc.len
 have hm0:0 < m:=by omega
 have hm0':(0:Int) < (m:Int):=by omega
 obtain ⟨g,off,c0,rfl,hc0,hat,_⟩:=hc.at hm0
 obtain ⟨v0,v1,v2,v3,v4⟩:=hat
 simp only [Nat.zero_mul,Nat.add_zero] at v0 v1 v2 v3 v4
 have hgl:g < w.heap.size:=zL w _ v0
 have hf0:f0C cs=c0.f:=by unfold f0C;rw [hc0];rfl
 have hff:1≤c0.f∧c0.f≤2:=f_of (hok 0 c0 hc0).1
 have hw1:IntKind.i64.wrap (3 * c0.f)=3 * c0.f:=QG8 (by omega) (by omega)
 have hw2:IntKind.i64.wrap (3 * c0.f+1)=3 * c0.f+1:=QG8 (by omega) (by omega)
 have V1:Hid (∀ W:World,Below w.heap.size w W→W.cell? ⟨g,off+1,none⟩=some (.int .i64 c0.f)):=fun W hb=>(hb.cell (p:=⟨g,off+1,none⟩) hgl).trans v1
 have h1:inR r.i 1 (3 * c0.f+1)=false:=by rw [← hf0];exact h1'
 have HI1:Hid (∀ W:World,Calls Tryz.prog 51 #[.int .i64 r.i,.int .i64 1,.int .i64 (3 * c0.f+1)] W fun e w'=>e = .returned (.bool false)∧Below W.heap.size W w'):=fun W=>by
  have q:=qN6 r.i 1 (3 * c0.f+1) W
  rw [show (decide (1≤r.i)&&decide (r.i≤3 * c0.f+1))=false from h1] at q
  exact q.mono fun e w' h=>⟨h.1,by rw [← h.2];exact Below.refl _ _⟩
 clear h1 h1' hf0
 clear hok v0 v1 v2 v3 v4 hc0 hff hml
 clear hb hr hc hcl hk hle
 go_enter Tryz.func33,Tryz.ntmps33
 go_wp2_with fail
 refine HCF.out.mono ?_
 rintro d w1 ⟨rfl,hb1⟩
 have B1:=qC8 hb1
 clear hb1 HCF
 obtain ⟨x0,x1,x2,x3⟩:=(HB.out _ B1.out).1
 have y1:=V1.out _ B1.out
 have hbl1:b < w1.heap.size:=Nat.lt_of_lt_of_le hbl B1.out.size
 have hgl1:g < w1.heap.size:=Nat.lt_of_lt_of_le hgl B1.out.size
 go_upto_region 4 with fail
 refine wp_region_held_drew (S:=fun w'=>(∀ b o,b < w1.heap.size→w'.cell? ⟨b,o,none⟩=w1.cell? ⟨b,o,none⟩)∧Below w1.heap.size w1 w') (by kernel_rfl) (qB4 _) (fun hHeld=>?_)
 refine Zk.go [0,1,2,3,4,5,6,7,8,9] ?_
 iterate 10
  refine Zk.st (v:=?_) rfl ?_ ?_
  rotate_left 1
  ·intro w hSw;(try dsimp only at hSw);go_simp;try (with_reducible rfl)
  try simp only [Act.put,zA,zB,zC,zD,zE,zF]
 refine Zk.fin ?_
 refine Zk.rd (i:=10) rfl (fun K hK=>?_)
 go_simp
 refine (HI1.out _).mono ?_
 rintro d w2 ⟨rfl,hb2⟩
 have hS:=qA0 hHeld hb2
 refine hK.out _ _ hS (fun hHeld=>?_)
 clear hK K
 try simp only [Act.put,zA,zB,zC,zD,zE,zF]
 refine Zk.go [11,12,13,14,15,16,17,18,19,20,21,22,23,24] ?_
 iterate 2
  refine Zk.st (v:=?_) rfl ?_ ?_
  rotate_left 1
  ·intro w hSw;(try dsimp only at hSw);go_simp;try (with_reducible rfl)
  try simp only [Act.put,zA,zB,zC,zD,zE,zF]
 iterate 11 (refine Zk.un rfl ?_;try simp only [Act.put,zA,zB,zC,zD,zE,zF])
 refine Zk.st (v:=?_) rfl ?_ ?_
 rotate_left 1
 ·intro w hSw;(try dsimp only at hSw);go_simp;try (with_reducible rfl)
 try simp only [Act.put,zA,zB,zC,zD,zE,zF]
 refine Zk.fin ?_
 refine wpAnyH_done (by kernel_rfl) ?_ _
 go_wp2_with fail
 go_ret
 exact ⟨rfl,B1.out.trans (hHeld.2.mono B1.out.size)⟩
theorem faultS_sure (E:qI1) (b:Nat) (r:qH5) (a:Option Addr) (m cap:Nat) (cs:List qA5) (w:World) (hb:qG8 w b r) (hr:qE7 w r) (hle:qL6 1048576 r) (hc:qA7 w a m cs) (hcl:qF5 1048576 cs) (hm:m≤1048576) (hk:qB8 cs=0) (h1':inR r.i 1 (3 * f0C cs+1)=true) (h2:inR r.u 0 (r.sn:Int)=false) :
  Calls Tryz.prog 33 #[.pointer (some ⟨b,0,none⟩),.slice a m cap] w fun d w'=>d = .returned (.int .i64 3)∧Below w.heap.size w w':=by
 have hsn:=hle.said
 have hln:=hle.locks
 have hsn':(r.sn:Int)≤1048576:=by omega
 have hln':(r.ln:Int)≤1048576:=by omega
 have HCF:Hid (Calls Tryz.prog 57 #[.slice a m cap] w fun e w'=>e = .returned (.int .i64 0)∧Below w.heap.size w w'):=by show Calls _ _ _ _ _;rw [← hk];exact qM4 a m cap cs w hm hcl hc
 have HB:Hid (∀ W,Below w.heap.size w W→qG8 W b r∧qE7 W r∧qA7 W a m cs):=fun W q=>⟨hb.below q,hr.below q,hc.below q⟩
 have hbl:b < w.heap.size:=hb.lt
 obtain ⟨hm1,hm8,hok⟩:=qU0 hk
 have hml:cs.length=m:=hc.len
 have hm0:0 < m:=by omega
 have hm0':(0:Int) < (m:Int):=by omega
 obtain ⟨g,off,c0,rfl,hc0,hat,_⟩:=hc.at hm0
 obtain ⟨v0,v1,v2,v3,v4⟩:=hat
 simp only [Nat.zero_mul,Nat.add_zero] at v0 v1 v2 v3 v4
 have hgl:g < w.heap.size:=zL w _ v0
 have hf0:f0C cs=c0.f:=by unfold f0C;rw [hc0];rfl
 have hff:1≤c0.f∧c0.f≤2:=f_of (hok 0 c0 hc0).1
 have hw1:IntKind.i64.wrap (3 * c0.f)=3 * c0.f:=QG8 (by omega) (by omega)
 have hw2:IntKind.i64.wrap (3 * c0.f+1)=3 * c0.f+1:=QG8 (by omega) (by omega)
 have V1:Hid (∀ W:World,Below w.heap.size w W→W.cell? ⟨g,off+1,none⟩=some (.int .i64 c0.f)):=fun W hb=>(hb.cell (p:=⟨g,off+1,none⟩) hgl).trans v1
 have h1:inR r.i 1 (3 * c0.f+1)=true:=by rw [← hf0];exact h1'
 have HI1:Hid (∀ W:World,Calls Tryz.prog 51 #[.int .i64 r.i,.int .i64 1,.int .i64 (3 * c0.f+1)] W fun e w'=>e = .returned (.bool true)∧Below W.heap.size W w'):=fun W=>by
  have q:=qN6 r.i 1 (3 * c0.f+1) W
  rw [show (decide (1≤r.i)&&decide (r.i≤3 * c0.f+1))=true from h1] at q
  exact q.mono fun e w' h=>⟨h.1,by rw [← h.2];exact Below.refl _ _⟩
 have HI2:Hid (∀ W:World,Calls Tryz.prog 51 #[.int .i64 r.u,.int .i64 0,.int .i64 (r.sn:Int)] W fun e w'=>e = .returned (.bool false)∧Below W.heap.size W w'):=fun W=>by
  have q:=qN6 r.u 0 (r.sn:Int) W
  rw [show (decide (0≤r.u)&&decide (r.u≤(r.sn:Int)))=false from h2] at q
  exact q.mono fun e w' h=>⟨h.1,by rw [← h.2];exact Below.refl _ _⟩
 clear h1 h1' h2 hf0
 clear hok v0 v1 v2 v3 v4 hc0 hff hml
 clear hb hr hc hcl hk hle
 go_enter Tryz.func33,Tryz.ntmps33
 go_wp2_with fail
 refine HCF.out.mono ?_
 rintro d w1 ⟨rfl,hb1⟩
 have B1:=qC8 hb1
 clear hb1 HCF
 obtain ⟨x0,x1,x2,x3⟩:=(HB.out _ B1.out).1
 have y1:=V1.out _ B1.out
 have hbl1:b < w1.heap.size:=Nat.lt_of_lt_of_le hbl B1.out.size
 have hgl1:g < w1.heap.size:=Nat.lt_of_lt_of_le hgl B1.out.size
 go_upto_region 4 with fail
 refine wp_region_held_drew (S:=fun w'=>(∀ b o,b < w1.heap.size→w'.cell? ⟨b,o,none⟩=w1.cell? ⟨b,o,none⟩)∧Below w1.heap.size w1 w') (by kernel_rfl) (qB4 _) (fun hHeld=>?_)
 refine Zk.go [0,1,2,3,4,5,6,7,8,9] ?_
 iterate 10
  refine Zk.st (v:=?_) rfl ?_ ?_
  rotate_left 1
  ·intro w hSw;(try dsimp only at hSw);go_simp;try (with_reducible rfl)
  try simp only [Act.put,zA,zB,zC,zD,zE,zF]
 refine Zk.fin ?_
 refine Zk.rd (i:=10) rfl (fun K hK=>?_)
 go_simp
 refine (HI1.out _).mono ?_
 rintro d w2 ⟨rfl,hb2⟩
 have hS:=qA0 hHeld hb2
 refine hK.out _ _ hS (fun hHeld=>?_)
 clear hK K
 try simp only [Act.put,zA,zB,zC,zD,zE,zF]
 refine Zk.go [11,12,13,14,15,16,17,18,19,20,21] ?_
 iterate 11
  refine Zk.st (v:=?_) rfl ?_ ?_
  rotate_left 1
  ·intro w hSw;(try dsimp only at hSw);go_simp;try (with_reducible rfl)
  try simp only [Act.put,zA,zB,zC,zD,zE,zF]
 refine Zk.fin ?_
 refine Zk.rd (i:=22) rfl (fun K hK=>?_)
 go_simp
 refine (HI2.out _).mono ?_
 rintro d w3 ⟨rfl,hb3⟩
 have hS:=qA0 hHeld hb3
 refine hK.out _ _ hS (fun hHeld=>?_)
 clear hK K
 try simp only [Act.put,zA,zB,zC,zD,zE,zF]
 refine Zk.go [23,24] ?_
 iterate 2
  refine Zk.st (v:=?_) rfl ?_ ?_
  rotate_left 1
  ·intro w hSw;(try dsimp only at hSw);go_simp;try (with_reducible rfl)
  try simp only [Act.put,zA,zB,zC,zD,zE,zF]
 refine Zk.fin ?_
 refine wpAnyH_done (by kernel_rfl) ?_ _
 go_wp2_with fail
 go_ret
 exact ⟨rfl,B1.out.trans (hHeld.2.mono B1.out.size)⟩
theorem faultS_many (E:qI1) (b:Nat) (r:qH5) (a:Option Addr) (m cap:Nat) (cs:List qA5) (w:World) (hb:qG8 w b r) (hr:qE7 w r) (hle:qL6 1048576 r) (hc:qA7 w a m cs) (hcl:qF5 1048576 cs) (hm:m≤1048576) (hk:qB8 cs=0) (h1':inR r.i 1 (3 * f0C cs+1)=true) (h2:inR r.u 0 (r.sn:Int)=true) (h40:40 < r.sn) :
  Calls Tryz.prog 33 #[.pointer (some ⟨b,0,none⟩),.slice a m cap] w fun d w'=>d = .returned (.int .i64 2)∧Below w.heap.size w w':=by
 have hsn:=hle.said
 have hln:=hle.locks
 have hsn':(r.sn:Int)≤1048576:=by omega
 have hln':(r.ln:Int)≤1048576:=by omega
 have HCF:Hid (Calls Tryz.prog 57 #[.slice a m cap] w fun e w'=>e = .returned (.int .i64 0)∧Below w.heap.size w w'):=by show Calls _ _ _ _ _;rw [← hk];exact qM4 a m cap cs w hm hcl hc
 have HB:Hid (∀ W,Below w.heap.size w W→qG8 W b r∧qE7 W r∧qA7 W a m cs):=fun W q=>⟨hb.below q,hr.below q,hc.below q⟩
 have hbl:b < w.heap.size:=hb.lt
 obtain ⟨hm1,hm8,hok⟩:=qU0 hk
 have hml:cs.length=m:=hc.len
 have hm0:0 < m:=by omega
 have hm0':(0:Int) < (m:Int):=by omega
 obtain ⟨g,off,c0,rfl,hc0,hat,_⟩:=hc.at hm0
 obtain ⟨v0,v1,v2,v3,v4⟩:=hat
 simp only [Nat.zero_mul,Nat.add_zero] at v0 v1 v2 v3 v4
 have hgl:g < w.heap.size:=zL w _ v0
 have hf0:f0C cs=c0.f:=by unfold f0C;rw [hc0];rfl
 have hff:1≤c0.f∧c0.f≤2:=f_of (hok 0 c0 hc0).1
 have hw1:IntKind.i64.wrap (3 * c0.f)=3 * c0.f:=QG8 (by omega) (by omega)
 have hw2:IntKind.i64.wrap (3 * c0.f+1)=3 * c0.f+1:=QG8 (by omega) (by omega)
 have V1:Hid (∀ W:World,Below w.heap.size w W→W.cell? ⟨g,off+1,none⟩=some (.int .i64 c0.f)):=fun W hb=>(hb.cell (p:=⟨g,off+1,none⟩) hgl).trans v1
 have h1:inR r.i 1 (3 * c0.f+1)=true:=by rw [← hf0];exact h1'
 have HI1:Hid (∀ W:World,Calls Tryz.prog 51 #[.int .i64 r.i,.int .i64 1,.int .i64 (3 * c0.f+1)] W fun e w'=>e = .returned (.bool true)∧Below W.heap.size W w'):=fun W=>by
  have q:=qN6 r.i 1 (3 * c0.f+1) W
  rw [show (decide (1≤r.i)&&decide (r.i≤3 * c0.f+1))=true from h1] at q
  exact q.mono fun e w' h=>⟨h.1,by rw [← h.2];exact Below.refl _ _⟩
 have HI2:Hid (∀ W:World,Calls Tryz.prog 51 #[.int .i64 r.u,.int .i64 0,.int .i64 (r.sn:Int)] W fun e w'=>e = .returned (.bool true)∧Below W.heap.size W w'):=fun W=>by
  have q:=qN6 r.u 0 (r.sn:Int) W
  rw [show (decide (0≤r.u)&&decide (r.u≤(r.sn:Int)))=true from h2] at q
  exact q.mono fun e w' h=>⟨h.1,by rw [← h.2];exact Below.refl _ _⟩
 clear h1 h1' h2 hf0
 have h40':(40:Int) < (r.sn:Int):=by omega
 clear hok v0 v1 v2 v3 v4 hc0 hff hml
 clear hb hr hc hcl hk hle
 go_enter Tryz.func33,Tryz.ntmps33
 go_wp2_with fail
 refine HCF.out.mono ?_
 rintro d w1 ⟨rfl,hb1⟩
 have B1:=qC8 hb1
 clear hb1 HCF
 obtain ⟨x0,x1,x2,x3⟩:=(HB.out _ B1.out).1
 have y1:=V1.out _ B1.out
 have hbl1:b < w1.heap.size:=Nat.lt_of_lt_of_le hbl B1.out.size
 have hgl1:g < w1.heap.size:=Nat.lt_of_lt_of_le hgl B1.out.size
 go_upto_region 4 with fail
 refine wp_region_held_drew (S:=fun w'=>(∀ b o,b < w1.heap.size→w'.cell? ⟨b,o,none⟩=w1.cell? ⟨b,o,none⟩)∧Below w1.heap.size w1 w') (by kernel_rfl) (qB4 _) (fun hHeld=>?_)
 refine Zk.go [0,1,2,3,4,5,6,7,8,9] ?_
 iterate 10
  refine Zk.st (v:=?_) rfl ?_ ?_
  rotate_left 1
  ·intro w hSw;(try dsimp only at hSw);go_simp;try (with_reducible rfl)
  try simp only [Act.put,zA,zB,zC,zD,zE,zF]
 refine Zk.fin ?_
 refine Zk.rd (i:=10) rfl (fun K hK=>?_)
 go_simp
 refine (HI1.out _).mono ?_
 rintro d w2 ⟨rfl,hb2⟩
 have hS:=qA0 hHeld hb2
 refine hK.out _ _ hS (fun hHeld=>?_)
 clear hK K
 try simp only [Act.put,zA,zB,zC,zD,zE,zF]
 refine Zk.go [11,12,13,14,15,16,17,18,19,20,21] ?_
 iterate 11
  refine Zk.st (v:=?_) rfl ?_ ?_
  rotate_left 1
  ·intro w hSw;(try dsimp only at hSw);go_simp;try (with_reducible rfl)
  try simp only [Act.put,zA,zB,zC,zD,zE,zF]
 refine Zk.fin ?_
 refine Zk.rd (i:=22) rfl (fun K hK=>?_)
 go_simp
 refine (HI2.out _).mono ?_
 rintro d w3 ⟨rfl,hb3⟩
 have hS:=qA0 hHeld hb3
 refine hK.out _ _ hS (fun hHeld=>?_)
 clear hK K
 try simp only [Act.put,zA,zB,zC,zD,zE,zF]
 refine Zk.go [23,24] ?_
 iterate 2
  refine Zk.st (v:=?_) rfl ?_ ?_
  rotate_left 1
  ·intro w hSw;(try dsimp only at hSw);go_simp;try (with_reducible rfl)
  try simp only [Act.put,zA,zB,zC,zD,zE,zF]
 refine Zk.fin ?_
 refine wpAnyH_done (by kernel_rfl) ?_ _
 have B4:Hid (Below w.heap.size w w3):=B1.out.trans (hHeld.2.mono B1.out.size)
 clear hHeld hS hb2 hb3 x0 x1 x2 x3 y1 hbl1 hgl1 B1 HI1 HI2
 obtain ⟨x0,x1,x2,x3⟩:=(HB.out _ B4.out).1
 have hbl3:b < w3.heap.size:=Nat.lt_of_lt_of_le hbl B4.out.size
 go_wp2_with fail
 go_ret
 exact ⟨rfl,B4.out⟩
theorem faultS_none (E:qI1) (b:Nat) (r:qH5) (a:Option Addr) (m cap:Nat) (cs:List qA5) (w:World) (hb:qG8 w b r) (hr:qE7 w r) (hle:qL6 1048576 r) (hc:qA7 w a m cs) (hcl:qF5 1048576 cs) (hm:m≤1048576) (hk:qB8 cs=0) (h1':inR r.i 1 (3 * f0C cs+1)=true) (h2:inR r.u 0 (r.sn:Int)=true) (hEC:qO2 E cs) (h40:r.sn≤40) (op:Option (List LkI)) (hop:qF6 E r.ss r.sn=op) (hno:op=none) :
  Calls Tryz.prog 33 #[.pointer (some ⟨b,0,none⟩),.slice a m cap] w fun d w'=>d = .returned (.int .i64 10)∧Below w.heap.size w w':=by
 have hsn:=hle.said
 have hln:=hle.locks
 have hsn':(r.sn:Int)≤1048576:=by omega
 have hln':(r.ln:Int)≤1048576:=by omega
 have HCF:Hid (Calls Tryz.prog 57 #[.slice a m cap] w fun e w'=>e = .returned (.int .i64 0)∧Below w.heap.size w w'):=by show Calls _ _ _ _ _;rw [← hk];exact qM4 a m cap cs w hm hcl hc
 have HB:Hid (∀ W,Below w.heap.size w W→qG8 W b r∧qE7 W r∧qA7 W a m cs):=fun W q=>⟨hb.below q,hr.below q,hc.below q⟩
 have hbl:b < w.heap.size:=hb.lt
 obtain ⟨hm1,hm8,hok⟩:=qU0 hk
 have hml:cs.length=m:=hc.len
 have hm0:0 < m:=by omega
 have hm0':(0:Int) < (m:Int):=by omega
 obtain ⟨g,off,c0,rfl,hc0,hat,_⟩:=hc.at hm0
 obtain ⟨v0,v1,v2,v3,v4⟩:=hat
 simp only [Nat.zero_mul,Nat.add_zero] at v0 v1 v2 v3 v4
 have hgl:g < w.heap.size:=zL w _ v0
 have hf0:f0C cs=c0.f:=by unfold f0C;rw [hc0];rfl
 have hff:1≤c0.f∧c0.f≤2:=f_of (hok 0 c0 hc0).1
 have hw1:IntKind.i64.wrap (3 * c0.f)=3 * c0.f:=QG8 (by omega) (by omega)
 have hw2:IntKind.i64.wrap (3 * c0.f+1)=3 * c0.f+1:=QG8 (by omega) (by omega)
 have V1:Hid (∀ W:World,Below w.heap.size w W→W.cell? ⟨g,off+1,none⟩=some (.int .i64 c0.f)):=fun W hb=>(hb.cell (p:=⟨g,off+1,none⟩) hgl).trans v1
 have h1:inR r.i 1 (3 * c0.f+1)=true:=by rw [← hf0];exact h1'
 have HI1:Hid (∀ W:World,Calls Tryz.prog 51 #[.int .i64 r.i,.int .i64 1,.int .i64 (3 * c0.f+1)] W fun e w'=>e = .returned (.bool true)∧Below W.heap.size W w'):=fun W=>by
  have q:=qN6 r.i 1 (3 * c0.f+1) W
  rw [show (decide (1≤r.i)&&decide (r.i≤3 * c0.f+1))=true from h1] at q
  exact q.mono fun e w' h=>⟨h.1,by rw [← h.2];exact Below.refl _ _⟩
 have HI2:Hid (∀ W:World,Calls Tryz.prog 51 #[.int .i64 r.u,.int .i64 0,.int .i64 (r.sn:Int)] W fun e w'=>e = .returned (.bool true)∧Below W.heap.size W w'):=fun W=>by
  have q:=qN6 r.u 0 (r.sn:Int) W
  rw [show (decide (0≤r.u)&&decide (r.u≤(r.sn:Int)))=true from h2] at q
  exact q.mono fun e w' h=>⟨h.1,by rw [← h.2];exact Below.refl _ _⟩
 clear h1 h1' h2 hf0
 have h40':(r.sn:Int)≤40:=by omega
 have HPY:Hid (∀ W:World,Below w.heap.size w W→Calls Tryz.prog 58 #[.int .i64 r.i,.slice (some ⟨g,off,none⟩) m cap,.slice r.sa r.sn r.sc] W fun d w'=>∃ (sa:Option Addr) (sn sc:Nat) (la:Option Addr) (ln lc:Nat),d = .returned (.tuple #[.agg #[.int .i64 r.i,.int .i64 0,.slice sa sn sc,.slice la ln lc],.bool false])∧Below W.heap.size W w'∧(∀ ls,op=some ls→ln=ls.length∧qA4 w' (W.heap.size+1) (.slice la ls.length lc) ls)):=fun W hb=>by
  refine (QU3 E r.i _ m cap cs r.sa r.sn r.sc r.ss W hEC (hc.below hb) hm0 (by omega) (hr.said.below hb) hsn).mono ?_
  rintro d w' ⟨g1,g2,g3⟩
  rw [hop] at g2 g3
  obtain ⟨sa,sn,sc,la,ln,lc,rfl⟩:=g3 hno
  exact ⟨sa,sn,sc,la,ln,lc,rfl,g1,fun ls e=>by rw [hno] at e;cases e⟩
 clear hop
 clear hEC
 clear hok v0 v1 v2 v3 v4 hc0 hff hml
 clear hb hr hc hcl hk hle
 go_enter Tryz.func33,Tryz.ntmps33
 go_wp2_with fail
 refine HCF.out.mono ?_
 rintro d w1 ⟨rfl,hb1⟩
 have B1:=qC8 hb1
 clear hb1 HCF
 obtain ⟨x0,x1,x2,x3⟩:=(HB.out _ B1.out).1
 have y1:=V1.out _ B1.out
 have hbl1:b < w1.heap.size:=Nat.lt_of_lt_of_le hbl B1.out.size
 have hgl1:g < w1.heap.size:=Nat.lt_of_lt_of_le hgl B1.out.size
 go_upto_region 4 with fail
 refine wp_region_held_drew (S:=fun w'=>(∀ b o,b < w1.heap.size→w'.cell? ⟨b,o,none⟩=w1.cell? ⟨b,o,none⟩)∧Below w1.heap.size w1 w') (by kernel_rfl) (qB4 _) (fun hHeld=>?_)
 refine Zk.go [0,1,2,3,4,5,6,7,8,9] ?_
 iterate 10
  refine Zk.st (v:=?_) rfl ?_ ?_
  rotate_left 1
  ·intro w hSw;(try dsimp only at hSw);go_simp;try (with_reducible rfl)
  try simp only [Act.put,zA,zB,zC,zD,zE,zF]
 refine Zk.fin ?_
 refine Zk.rd (i:=10) rfl (fun K hK=>?_)
 go_simp
 refine (HI1.out _).mono ?_
 rintro d w2 ⟨rfl,hb2⟩
 have hS:=qA0 hHeld hb2
 refine hK.out _ _ hS (fun hHeld=>?_)
 clear hK K
 try simp only [Act.put,zA,zB,zC,zD,zE,zF]
 refine Zk.go [11,12,13,14,15,16,17,18,19,20,21] ?_
 iterate 11
  refine Zk.st (v:=?_) rfl ?_ ?_
  rotate_left 1
  ·intro w hSw;(try dsimp only at hSw);go_simp;try (with_reducible rfl)
  try simp only [Act.put,zA,zB,zC,zD,zE,zF]
 refine Zk.fin ?_
 refine Zk.rd (i:=22) rfl (fun K hK=>?_)
 go_simp
 refine (HI2.out _).mono ?_
 rintro d w3 ⟨rfl,hb3⟩
 have hS:=qA0 hHeld hb3
 refine hK.out _ _ hS (fun hHeld=>?_)
 clear hK K
 try simp only [Act.put,zA,zB,zC,zD,zE,zF]
 refine Zk.go [23,24] ?_
 iterate 2
  refine Zk.st (v:=?_) rfl ?_ ?_
  rotate_left 1
  ·intro w hSw;(try dsimp only at hSw);go_simp;try (with_reducible rfl)
  try simp only [Act.put,zA,zB,zC,zD,zE,zF]
 refine Zk.fin ?_
 refine wpAnyH_done (by kernel_rfl) ?_ _
 have B4:Hid (Below w.heap.size w w3):=B1.out.trans (hHeld.2.mono B1.out.size)
 clear hHeld hS hb2 hb3 x0 x1 x2 x3 y1 hbl1 hgl1 B1 HI1 HI2
 obtain ⟨x0,x1,x2,x3⟩:=(HB.out _ B4.out).1
 have hbl3:b < w3.heap.size:=Nat.lt_of_lt_of_le hbl B4.out.size
 go_upto_region 8 with fail
 go_cut [6,7] from 46 to 57 (fun s6 s7 W=>s7 = .bool false∧∃ (q:Nat) (sa:Option Addr) (sn sc:Nat) (la:Option Addr) (ln lc:Nat),s6 = .pointer (some ⟨q,0,none⟩)∧qE8 q [.int .i64 r.i,.int .i64 0,.slice sa sn sc,.slice la ln lc] W∧q < W.heap.size∧Below w.heap.size w W∧(∀ ls,op=some ls→qK1 W la ln ls))
 case first =>
  refine wp_region_held_drew (S:=fun w'=>(∀ b o,b < w3.heap.size→w'.cell? ⟨b,o,none⟩=w3.cell? ⟨b,o,none⟩)∧Below w3.heap.size w3 w') (by kernel_rfl) (qB4 _) (fun hHeld=>?_)
  refine Zk.go [0,1,2,3,4,5,6,7,8] ?_
  iterate 9
   refine Zk.st (v:=?_) rfl ?_ ?_
   rotate_left 1
   ·intro w hSw;(try dsimp only at hSw);go_simp;try (with_reducible rfl)
   try simp only [Act.put,zA,zB,zC,zD,zE,zF]
  refine Zk.fin ?_
  refine wpAnyH_ready (rs:=[9,13]) (by kernel_rfl) (by simp) ?_
  refine AllReadyH.cons rfl (fun K hK=>?_) (AllReadyH.cons rfl (fun K hK=>?_) AllReadyH.nil)
  ·go_simp
   refine (HPY.out _ (B4.out.trans (hHeld.2.mono B4.out.size))).mono ?_
   rintro d w5 ⟨sa,sn,sc,la,ln,lc,rfl,hb5,hR⟩
   have hS:=qA0 hHeld hb5
   have hs5:=hb5.size
   have hS5:=qC8 hS.2
   have HRR:=qC8 hR
   clear hR
   have hs5':w3.heap.size≤w5.heap.size:=hs5
   refine hK.out _ _ hS (fun hHeld=>?_)
   clear hK K
   try simp only [Act.put,zA,zB,zC,zD,zE,zF]
   refine Zk.go [10,11,12] ?_
   iterate 3
    refine Zk.st (v:=?_) rfl ?_ ?_
    rotate_left 1
    ·intro w hSw;(try dsimp only at hSw);go_simp;try (with_reducible rfl)
    try simp only [Act.put,zA,zB,zC,zD,zE,zF]
   refine Zk.fin ?_
   refine Zk.rd (i:=13) rfl (fun K hK=>?_)
   go_simp
   have hS:=kpN (hHeld.2.alloc hHeld.2.size (.cells #[.int .i64 0,.int .i64 0,.slice none 0 0,.slice none 0 0] 33))
   refine hK.out _ _ hS (fun hHeld=>?_)
   clear hK K
   try simp only [Act.put,zA,zB,zC,zD,zE,zF]
   refine Zk.rd (i:=14) rfl (fun K hK=>?_)
   go_simp
   have hS:=kpN (hS5.out.alloc hS5.out.size (.cells #[.int .i64 r.i,.int .i64 0,.slice sa sn sc,.slice la ln lc] 33))
   refine hK.out _ _ hS (fun hHeld=>?_)
   clear hK K
   try simp only [Act.put,zA,zB,zC,zD,zE,zF]
   refine Zk.rd (i:=15) rfl (fun K hK=>?_)
   go_simp
   refine hK.out _ _ (by assumption) (fun hHeld=>?_)
   clear hK K
   try simp only [Act.put,zA,zB,zC,zD,zE,zF]
   refine wpAnyH_done (by kernel_rfl) ?_ _
   go_wp2_with fail
   go_meet
   have AA:Below w5.heap.size w5 (w5.alloc (.cells #[.int .i64 r.i,.int .i64 0,.slice sa sn sc,.slice la ln lc] 33)):=zN
   exact ⟨rfl,w5.heap.size,sa,sn,sc,la,ln,lc,rfl,(qF2 w5 _ _).out,by simp,B4.out.trans (hS.2.mono B4.out.size),fun ls' e=>by obtain ⟨h1,h2⟩:=HRR.out ls' e;subst h1;exact LkV.isIn rfl (h2.below AA).view⟩
  ·go_simp
   have hS:=kpN (hHeld.2.alloc hHeld.2.size (.cells #[.int .i64 0,.int .i64 0,.slice none 0 0,.slice none 0 0] 33))
   refine hK.out _ _ hS (fun hHeld=>?_)
   clear hK K
   try simp only [Act.put,zA,zB,zC,zD,zE,zF]
   refine Zk.rd (i:=9) rfl (fun K hK=>?_)
   go_simp
   refine (HPY.out _ (B4.out.trans (hHeld.2.mono B4.out.size))).mono ?_
   rintro d w5 ⟨sa,sn,sc,la,ln,lc,rfl,hb5,hR⟩
   have hS:=qA0 hHeld hb5
   have hs5:=hb5.size
   have hS5:=qC8 hS.2
   have HRR:=qC8 hR
   clear hR
   have hs5':w3.heap.size+1≤w5.heap.size:=by simpa using hs5
   have XQ:qG2 w3.heap.size [.int .i64 0,.int .i64 0,.slice none 0 0,.slice none 0 0] w5:=qG2.below (qE0 w3.drew _ _) (by simp) hb5
   have z0:=XQ.1 0 _ rfl
   have z1:=XQ.1 1 _ rfl
   have z2:=XQ.1 2 _ rfl
   have z3:=XQ.1 3 _ rfl
   have f0:=XQ.2 0
   have f1:=XQ.2 1
   have f2:=XQ.2 2
   have f3:=XQ.2 3
   have hql:w3.heap.size < w5.heap.size:=hs5'
   refine hK.out _ _ hS (fun hHeld=>?_)
   clear hK K
   try simp only [Act.put,zA,zB,zC,zD,zE,zF]
   refine Zk.go [10,11,12] ?_
   iterate 3
    refine Zk.st (v:=?_) rfl ?_ ?_
    rotate_left 1
    ·intro w hSw;(try dsimp only at hSw);go_simp;try (with_reducible rfl)
    try simp only [Act.put,zA,zB,zC,zD,zE,zF]
   refine Zk.fin ?_
   refine Zk.rd (i:=14) rfl (fun K hK=>?_)
   go_simp
   have hS:=kpN ((((hHeld.2.setCell (p:=⟨w3.heap.size,0,none⟩) (Nat.le_refl _) (.int .i64 r.i)).setCell (p:=⟨w3.heap.size,1,none⟩) (Nat.le_refl _) (.int .i64 0)).setCell (p:=⟨w3.heap.size,2,none⟩) (Nat.le_refl _) (.slice sa sn sc)).setCell (p:=⟨w3.heap.size,3,none⟩) (Nat.le_refl _) (.slice la ln lc))
   refine hK.out _ _ hS (fun hHeld=>?_)
   clear hK K
   try simp only [Act.put,zA,zB,zC,zD,zE,zF]
   refine Zk.rd (i:=15) rfl (fun K hK=>?_)
   go_simp
   refine hK.out _ _ (by assumption) (fun hHeld=>?_)
   clear hK K
   try simp only [Act.put,zA,zB,zC,zD,zE,zF]
   refine wpAnyH_done (by kernel_rfl) ?_ _
   go_wp2_with fail
   go_meet
   exact ⟨rfl,w3.heap.size,sa,sn,sc,la,ln,lc,rfl,((((XQ.put 0 (by simp) _).put 1 (by simp) _).put 2 (by simp) _).put 3 (by simp) _).1,by simpa using hql,B4.out.trans (hS.2.mono B4.out.size),fun ls' e=>by obtain ⟨h1,h2⟩:=HRR.out ls' e;subst h1;exact lk_put4 h2 (by first | (simp;omega) | simp) _ _ _ _⟩
 clear x0 x1 x2 x3 hbl3 B4 HPY
 obtain ⟨rfl,q,sa,sn,sc,la,ln,lc,rfl,hQ,hql,hBq,hLq⟩:=hcut
 have B5:=qC8 hBq
 have q3:=hQ 3 _ rfl
 obtain ⟨x0,x1,x2,x3⟩:=(HB.out _ B5.out).1
 have hbl5:b < wc.heap.size:=Nat.lt_of_lt_of_le hbl B5.out.size
 go_upto_region 9 with fail
 go_quiet (fail)
 go_wp2_with fail
 go_ret
 exact ⟨rfl,bdN B5.out _⟩
theorem faultS_len (E:qI1) (b:Nat) (r:qH5) (a:Option Addr) (m cap:Nat) (cs:List qA5) (w:World) (hb:qG8 w b r) (hr:qE7 w r) (hle:qL6 1048576 r) (hc:qA7 w a m cs) (hcl:qF5 1048576 cs) (hm:m≤1048576) (hk:qB8 cs=0) (h1':inR r.i 1 (3 * f0C cs+1)=true) (h2:inR r.u 0 (r.sn:Int)=true) (hEC:qO2 E cs) (h40:r.sn≤40) (op:Option (List LkI)) (hop:qF6 E r.ss r.sn=op) (ls:List LkI) (hso:op=some ls) (hll:ls.length≤1048576) (hne:ls.length≠r.ln) :
  Calls Tryz.prog 33 #[.pointer (some ⟨b,0,none⟩),.slice a m cap] w fun d w'=>d = .returned (.int .i64 10)∧Below w.heap.size w w':=by
 have hsn:=hle.said
 have hln:=hle.locks
 have hsn':(r.sn:Int)≤1048576:=by omega
 have hln':(r.ln:Int)≤1048576:=by omega
 have HCF:Hid (Calls Tryz.prog 57 #[.slice a m cap] w fun e w'=>e = .returned (.int .i64 0)∧Below w.heap.size w w'):=by show Calls _ _ _ _ _;rw [← hk];exact qM4 a m cap cs w hm hcl hc
 have HB:Hid (∀ W,Below w.heap.size w W→qG8 W b r∧qE7 W r∧qA7 W a m cs):=fun W q=>⟨hb.below q,hr.below q,hc.below q⟩
 have hbl:b < w.heap.size:=hb.lt
 obtain ⟨hm1,hm8,hok⟩:=qU0 hk
 have hml:cs.length=m:=hc.len
 have hm0:0 < m:=by omega
 have hm0':(0:Int) < (m:Int):=by omega
 obtain ⟨g,off,c0,rfl,hc0,hat,_⟩:=hc.at hm0
 obtain ⟨v0,v1,v2,v3,v4⟩:=hat
 simp only [Nat.zero_mul,Nat.add_zero] at v0 v1 v2 v3 v4
 have hgl:g < w.heap.size:=zL w _ v0
 have hf0:f0C cs=c0.f:=by unfold f0C;rw [hc0];rfl
 have hff:1≤c0.f∧c0.f≤2:=f_of (hok 0 c0 hc0).1
 have hw1:IntKind.i64.wrap (3 * c0.f)=3 * c0.f:=QG8 (by omega) (by omega)
 have hw2:IntKind.i64.wrap (3 * c0.f+1)=3 * c0.f+1:=QG8 (by omega) (by omega)
 have V1:Hid (∀ W:World,Below w.heap.size w W→W.cell? ⟨g,off+1,none⟩=some (.int .i64 c0.f)):=fun W hb=>(hb.cell (p:=⟨g,off+1,none⟩) hgl).trans v1
 have h1:inR r.i 1 (3 * c0.f+1)=true:=by rw [← hf0];exact h1'
 have HI1:Hid (∀ W:World,Calls Tryz.prog 51 #[.int .i64 r.i,.int .i64 1,.int .i64 (3 * c0.f+1)] W fun e w'=>e = .returned (.bool true)∧Below W.heap.size W w'):=fun W=>by
  have q:=qN6 r.i 1 (3 * c0.f+1) W
  rw [show (decide (1≤r.i)&&decide (r.i≤3 * c0.f+1))=true from h1] at q
  exact q.mono fun e w' h=>⟨h.1,by rw [← h.2];exact Below.refl _ _⟩
 have HI2:Hid (∀ W:World,Calls Tryz.prog 51 #[.int .i64 r.u,.int .i64 0,.int .i64 (r.sn:Int)] W fun e w'=>e = .returned (.bool true)∧Below W.heap.size W w'):=fun W=>by
  have q:=qN6 r.u 0 (r.sn:Int) W
  rw [show (decide (0≤r.u)&&decide (r.u≤(r.sn:Int)))=true from h2] at q
  exact q.mono fun e w' h=>⟨h.1,by rw [← h.2];exact Below.refl _ _⟩
 clear h1 h1' h2 hf0
 have h40':(r.sn:Int)≤40:=by omega
 have HPY:Hid (∀ W:World,Below w.heap.size w W→Calls Tryz.prog 58 #[.int .i64 r.i,.slice (some ⟨g,off,none⟩) m cap,.slice r.sa r.sn r.sc] W fun d w'=>∃ (sa:Option Addr) (sn sc:Nat) (la:Option Addr) (ln lc:Nat),d = .returned (.tuple #[.agg #[.int .i64 r.i,.int .i64 0,.slice sa sn sc,.slice la ln lc],.bool true])∧Below W.heap.size W w'∧(∀ ls,op=some ls→ln=ls.length∧qA4 w' (W.heap.size+1) (.slice la ls.length lc) ls)):=fun W hb=>by
  refine (QU3 E r.i _ m cap cs r.sa r.sn r.sc r.ss W hEC (hc.below hb) hm0 (by omega) (hr.said.below hb) hsn).mono ?_
  rintro d w' ⟨g1,g2,g3⟩
  rw [hop] at g2 g3
  obtain ⟨sa,sc,la,lc,rfl,_,ho2⟩:=g2 ls hso
  exact ⟨sa,r.sn,sc,la,ls.length,lc,rfl,g1,fun ls' e=>by rw [hso] at e;cases e;exact ⟨rfl,ho2⟩⟩
 clear hop
 clear hEC
 clear hok v0 v1 v2 v3 v4 hc0 hff hml
 clear hb hr hc hcl hk hle
 go_enter Tryz.func33,Tryz.ntmps33
 go_wp2_with fail
 refine HCF.out.mono ?_
 rintro d w1 ⟨rfl,hb1⟩
 have B1:=qC8 hb1
 clear hb1 HCF
 obtain ⟨x0,x1,x2,x3⟩:=(HB.out _ B1.out).1
 have y1:=V1.out _ B1.out
 have hbl1:b < w1.heap.size:=Nat.lt_of_lt_of_le hbl B1.out.size
 have hgl1:g < w1.heap.size:=Nat.lt_of_lt_of_le hgl B1.out.size
 go_upto_region 4 with fail
 refine wp_region_held_drew (S:=fun w'=>(∀ b o,b < w1.heap.size→w'.cell? ⟨b,o,none⟩=w1.cell? ⟨b,o,none⟩)∧Below w1.heap.size w1 w') (by kernel_rfl) (qB4 _) (fun hHeld=>?_)
 refine Zk.go [0,1,2,3,4,5,6,7,8,9] ?_
 iterate 10
  refine Zk.st (v:=?_) rfl ?_ ?_
  rotate_left 1
  ·intro w hSw;(try dsimp only at hSw);go_simp;try (with_reducible rfl)
  try simp only [Act.put,zA,zB,zC,zD,zE,zF]
 refine Zk.fin ?_
 refine Zk.rd (i:=10) rfl (fun K hK=>?_)
 go_simp
 refine (HI1.out _).mono ?_
 rintro d w2 ⟨rfl,hb2⟩
 have hS:=qA0 hHeld hb2
 refine hK.out _ _ hS (fun hHeld=>?_)
 clear hK K
 try simp only [Act.put,zA,zB,zC,zD,zE,zF]
 refine Zk.go [11,12,13,14,15,16,17,18,19,20,21] ?_
 iterate 11
  refine Zk.st (v:=?_) rfl ?_ ?_
  rotate_left 1
  ·intro w hSw;(try dsimp only at hSw);go_simp;try (with_reducible rfl)
  try simp only [Act.put,zA,zB,zC,zD,zE,zF]
 refine Zk.fin ?_
 refine Zk.rd (i:=22) rfl (fun K hK=>?_)
 go_simp
 refine (HI2.out _).mono ?_
 rintro d w3 ⟨rfl,hb3⟩
 have hS:=qA0 hHeld hb3
 refine hK.out _ _ hS (fun hHeld=>?_)
 clear hK K
 try simp only [Act.put,zA,zB,zC,zD,zE,zF]
 refine Zk.go [23,24] ?_
 iterate 2
  refine Zk.st (v:=?_) rfl ?_ ?_
  rotate_left 1
  ·intro w hSw;(try dsimp only at hSw);go_simp;try (with_reducible rfl)
  try simp only [Act.put,zA,zB,zC,zD,zE,zF]
 refine Zk.fin ?_
 refine wpAnyH_done (by kernel_rfl) ?_ _
 have B4:Hid (Below w.heap.size w w3):=B1.out.trans (hHeld.2.mono B1.out.size)
 clear hHeld hS hb2 hb3 x0 x1 x2 x3 y1 hbl1 hgl1 B1 HI1 HI2
 obtain ⟨x0,x1,x2,x3⟩:=(HB.out _ B4.out).1
 have hbl3:b < w3.heap.size:=Nat.lt_of_lt_of_le hbl B4.out.size
 go_upto_region 8 with fail
 go_cut [6,7] from 46 to 57 (fun s6 s7 W=>s7 = .bool true∧∃ (q:Nat) (sa:Option Addr) (sn sc:Nat) (la:Option Addr) (ln lc:Nat),s6 = .pointer (some ⟨q,0,none⟩)∧qE8 q [.int .i64 r.i,.int .i64 0,.slice sa sn sc,.slice la ln lc] W∧q < W.heap.size∧Below w.heap.size w W∧(∀ ls,op=some ls→qK1 W la ln ls))
 case first =>
  refine wp_region_held_drew (S:=fun w'=>(∀ b o,b < w3.heap.size→w'.cell? ⟨b,o,none⟩=w3.cell? ⟨b,o,none⟩)∧Below w3.heap.size w3 w') (by kernel_rfl) (qB4 _) (fun hHeld=>?_)
  refine Zk.go [0,1,2,3,4,5,6,7,8] ?_
  iterate 9
   refine Zk.st (v:=?_) rfl ?_ ?_
   rotate_left 1
   ·intro w hSw;(try dsimp only at hSw);go_simp;try (with_reducible rfl)
   try simp only [Act.put,zA,zB,zC,zD,zE,zF]
  refine Zk.fin ?_
  refine wpAnyH_ready (rs:=[9,13]) (by kernel_rfl) (by simp) ?_
  refine AllReadyH.cons rfl (fun K hK=>?_) (AllReadyH.cons rfl (fun K hK=>?_) AllReadyH.nil)
  ·go_simp
   refine (HPY.out _ (B4.out.trans (hHeld.2.mono B4.out.size))).mono ?_
   rintro d w5 ⟨sa,sn,sc,la,ln,lc,rfl,hb5,hR⟩
   have hS:=qA0 hHeld hb5
   have hs5:=hb5.size
   have hS5:=qC8 hS.2
   have HRR:=qC8 hR
   clear hR
   have hs5':w3.heap.size≤w5.heap.size:=hs5
   refine hK.out _ _ hS (fun hHeld=>?_)
   clear hK K
   try simp only [Act.put,zA,zB,zC,zD,zE,zF]
   refine Zk.go [10,11,12] ?_
   iterate 3
    refine Zk.st (v:=?_) rfl ?_ ?_
    rotate_left 1
    ·intro w hSw;(try dsimp only at hSw);go_simp;try (with_reducible rfl)
    try simp only [Act.put,zA,zB,zC,zD,zE,zF]
   refine Zk.fin ?_
   refine Zk.rd (i:=13) rfl (fun K hK=>?_)
   go_simp
   have hS:=kpN (hHeld.2.alloc hHeld.2.size (.cells #[.int .i64 0,.int .i64 0,.slice none 0 0,.slice none 0 0] 33))
   refine hK.out _ _ hS (fun hHeld=>?_)
   clear hK K
   try simp only [Act.put,zA,zB,zC,zD,zE,zF]
   refine Zk.rd (i:=14) rfl (fun K hK=>?_)
   go_simp
   have hS:=kpN (hS5.out.alloc hS5.out.size (.cells #[.int .i64 r.i,.int .i64 0,.slice sa sn sc,.slice la ln lc] 33))
   refine hK.out _ _ hS (fun hHeld=>?_)
   clear hK K
   try simp only [Act.put,zA,zB,zC,zD,zE,zF]
   refine Zk.rd (i:=15) rfl (fun K hK=>?_)
   go_simp
   refine hK.out _ _ (by assumption) (fun hHeld=>?_)
   clear hK K
   try simp only [Act.put,zA,zB,zC,zD,zE,zF]
   refine wpAnyH_done (by kernel_rfl) ?_ _
   go_wp2_with fail
   go_meet
   have AA:Below w5.heap.size w5 (w5.alloc (.cells #[.int .i64 r.i,.int .i64 0,.slice sa sn sc,.slice la ln lc] 33)):=zN
   exact ⟨rfl,w5.heap.size,sa,sn,sc,la,ln,lc,rfl,(qF2 w5 _ _).out,by simp,B4.out.trans (hS.2.mono B4.out.size),fun ls' e=>by obtain ⟨h1,h2⟩:=HRR.out ls' e;subst h1;exact LkV.isIn rfl (h2.below AA).view⟩
  ·go_simp
   have hS:=kpN (hHeld.2.alloc hHeld.2.size (.cells #[.int .i64 0,.int .i64 0,.slice none 0 0,.slice none 0 0] 33))
   refine hK.out _ _ hS (fun hHeld=>?_)
   clear hK K
   try simp only [Act.put,zA,zB,zC,zD,zE,zF]
   refine Zk.rd (i:=9) rfl (fun K hK=>?_)
   go_simp
   refine (HPY.out _ (B4.out.trans (hHeld.2.mono B4.out.size))).mono ?_
   rintro d w5 ⟨sa,sn,sc,la,ln,lc,rfl,hb5,hR⟩
   have hS:=qA0 hHeld hb5
   have hs5:=hb5.size
   have hS5:=qC8 hS.2
   have HRR:=qC8 hR
   clear hR
   have hs5':w3.heap.size+1≤w5.heap.size:=by simpa using hs5
   have XQ:qG2 w3.heap.size [.int .i64 0,.int .i64 0,.slice none 0 0,.slice none 0 0] w5:=qG2.below (qE0 w3.drew _ _) (by simp) hb5
   have z0:=XQ.1 0 _ rfl
   have z1:=XQ.1 1 _ rfl
   have z2:=XQ.1 2 _ rfl
   have z3:=XQ.1 3 _ rfl
   have f0:=XQ.2 0
   have f1:=XQ.2 1
   have f2:=XQ.2 2
   have f3:=XQ.2 3
   have hql:w3.heap.size < w5.heap.size:=hs5'
   refine hK.out _ _ hS (fun hHeld=>?_)
   clear hK K
   try simp only [Act.put,zA,zB,zC,zD,zE,zF]
   refine Zk.go [10,11,12] ?_
   iterate 3
    refine Zk.st (v:=?_) rfl ?_ ?_
    rotate_left 1
    ·intro w hSw;(try dsimp only at hSw);go_simp;try (with_reducible rfl)
    try simp only [Act.put,zA,zB,zC,zD,zE,zF]
   refine Zk.fin ?_
   refine Zk.rd (i:=14) rfl (fun K hK=>?_)
   go_simp
   have hS:=kpN ((((hHeld.2.setCell (p:=⟨w3.heap.size,0,none⟩) (Nat.le_refl _) (.int .i64 r.i)).setCell (p:=⟨w3.heap.size,1,none⟩) (Nat.le_refl _) (.int .i64 0)).setCell (p:=⟨w3.heap.size,2,none⟩) (Nat.le_refl _) (.slice sa sn sc)).setCell (p:=⟨w3.heap.size,3,none⟩) (Nat.le_refl _) (.slice la ln lc))
   refine hK.out _ _ hS (fun hHeld=>?_)
   clear hK K
   try simp only [Act.put,zA,zB,zC,zD,zE,zF]
   refine Zk.rd (i:=15) rfl (fun K hK=>?_)
   go_simp
   refine hK.out _ _ (by assumption) (fun hHeld=>?_)
   clear hK K
   try simp only [Act.put,zA,zB,zC,zD,zE,zF]
   refine wpAnyH_done (by kernel_rfl) ?_ _
   go_wp2_with fail
   go_meet
   exact ⟨rfl,w3.heap.size,sa,sn,sc,la,ln,lc,rfl,((((XQ.put 0 (by simp) _).put 1 (by simp) _).put 2 (by simp) _).put 3 (by simp) _).1,by simpa using hql,B4.out.trans (hS.2.mono B4.out.size),fun ls' e=>by obtain ⟨h1,h2⟩:=HRR.out ls' e;subst h1;exact lk_put4 h2 (by first | (simp;omega) | simp) _ _ _ _⟩
 clear x0 x1 x2 x3 hbl3 B4 HPY
 obtain ⟨rfl,q,sa,sn,sc,la,ln,lc,rfl,hQ,hql,hBq,hLq⟩:=hcut
 have B5:=qC8 hBq
 have q3:=hQ 3 _ rfl
 obtain ⟨x0,x1,x2,x3⟩:=(HB.out _ B5.out).1
 have hbl5:b < wc.heap.size:=Nat.lt_of_lt_of_le hbl B5.out.size
 obtain rfl:ls.length=ln:=(hLq ls hso).1
 have hnb:((ls.length:Int) != (r.ln:Int))=true:=by simp;omega
 go_upto_region 9 with fail
 go_quiet (fail)
 go_wp2_with fail
 go_ret
 exact ⟨rfl,bdN B5.out _⟩
theorem faultS_cmp (E:qI1) (b:Nat) (r:qH5) (a:Option Addr) (m cap:Nat) (cs:List qA5) (w:World) (hb:qG8 w b r) (hr:qE7 w r) (hle:qL6 1048576 r) (hc:qA7 w a m cs) (hcl:qF5 1048576 cs) (hm:m≤1048576) (hk:qB8 cs=0) (h1':inR r.i 1 (3 * f0C cs+1)=true) (h2:inR r.u 0 (r.sn:Int)=true) (hEC:qO2 E cs) (h40:r.sn≤40) (op:Option (List LkI)) (hop:qF6 E r.ss r.sn=op) (ls:List LkI) (hso:op=some ls) (hll:ls.length≤1048576) (heq:ls.length=r.ln) (t:Int) (ht:(if ls=r.ls then 0 else 10)=t) :
  Calls Tryz.prog 33 #[.pointer (some ⟨b,0,none⟩),.slice a m cap] w fun d w'=>d = .returned (.int .i64 t)∧Below w.heap.size w w':=by
 have hsn:=hle.said
 have hln:=hle.locks
 have hsn':(r.sn:Int)≤1048576:=by omega
 have hln':(r.ln:Int)≤1048576:=by omega
 have HCF:Hid (Calls Tryz.prog 57 #[.slice a m cap] w fun e w'=>e = .returned (.int .i64 0)∧Below w.heap.size w w'):=by show Calls _ _ _ _ _;rw [← hk];exact qM4 a m cap cs w hm hcl hc
 have HB:Hid (∀ W,Below w.heap.size w W→qG8 W b r∧qE7 W r∧qA7 W a m cs):=fun W q=>⟨hb.below q,hr.below q,hc.below q⟩
 have hbl:b < w.heap.size:=hb.lt
 obtain ⟨hm1,hm8,hok⟩:=qU0 hk
 have hml:cs.length=m:=hc.len
 have hm0:0 < m:=by omega
 have hm0':(0:Int) < (m:Int):=by omega
 obtain ⟨g,off,c0,rfl,hc0,hat,_⟩:=hc.at hm0
 obtain ⟨v0,v1,v2,v3,v4⟩:=hat
 simp only [Nat.zero_mul,Nat.add_zero] at v0 v1 v2 v3 v4
 have hgl:g < w.heap.size:=zL w _ v0
 have hf0:f0C cs=c0.f:=by unfold f0C;rw [hc0];rfl
 have hff:1≤c0.f∧c0.f≤2:=f_of (hok 0 c0 hc0).1
 have hw1:IntKind.i64.wrap (3 * c0.f)=3 * c0.f:=QG8 (by omega) (by omega)
 have hw2:IntKind.i64.wrap (3 * c0.f+1)=3 * c0.f+1:=QG8 (by omega) (by omega)
 have V1:Hid (∀ W:World,Below w.heap.size w W→W.cell? ⟨g,off+1,none⟩=some (.int .i64 c0.f)):=fun W hb=>(hb.cell (p:=⟨g,off+1,none⟩) hgl).trans v1
 have h1:inR r.i 1 (3 * c0.f+1)=true:=by rw [← hf0];exact h1'
 have HI1:Hid (∀ W:World,Calls Tryz.prog 51 #[.int .i64 r.i,.int .i64 1,.int .i64 (3 * c0.f+1)] W fun e w'=>e = .returned (.bool true)∧Below W.heap.size W w'):=fun W=>by
  have q:=qN6 r.i 1 (3 * c0.f+1) W
  rw [show (decide (1≤r.i)&&decide (r.i≤3 * c0.f+1))=true from h1] at q
  exact q.mono fun e w' h=>⟨h.1,by rw [← h.2];exact Below.refl _ _⟩
 have HI2:Hid (∀ W:World,Calls Tryz.prog 51 #[.int .i64 r.u,.int .i64 0,.int .i64 (r.sn:Int)] W fun e w'=>e = .returned (.bool true)∧Below W.heap.size W w'):=fun W=>by
  have q:=qN6 r.u 0 (r.sn:Int) W
  rw [show (decide (0≤r.u)&&decide (r.u≤(r.sn:Int)))=true from h2] at q
  exact q.mono fun e w' h=>⟨h.1,by rw [← h.2];exact Below.refl _ _⟩
 clear h1 h1' h2 hf0
 have h40':(r.sn:Int)≤40:=by omega
 have HPY:Hid (∀ W:World,Below w.heap.size w W→Calls Tryz.prog 58 #[.int .i64 r.i,.slice (some ⟨g,off,none⟩) m cap,.slice r.sa r.sn r.sc] W fun d w'=>∃ (sa:Option Addr) (sn sc:Nat) (la:Option Addr) (ln lc:Nat),d = .returned (.tuple #[.agg #[.int .i64 r.i,.int .i64 0,.slice sa sn sc,.slice la ln lc],.bool true])∧Below W.heap.size W w'∧(∀ ls,op=some ls→ln=ls.length∧qA4 w' (W.heap.size+1) (.slice la ls.length lc) ls)):=fun W hb=>by
  refine (QU3 E r.i _ m cap cs r.sa r.sn r.sc r.ss W hEC (hc.below hb) hm0 (by omega) (hr.said.below hb) hsn).mono ?_
  rintro d w' ⟨g1,g2,g3⟩
  rw [hop] at g2 g3
  obtain ⟨sa,sc,la,lc,rfl,_,ho2⟩:=g2 ls hso
  exact ⟨sa,r.sn,sc,la,ls.length,lc,rfl,g1,fun ls' e=>by rw [hso] at e;cases e;exact ⟨rfl,ho2⟩⟩
 clear hop
 have HT:Hid ((if ls=r.ls then (0:Int) else 10)=t):=ht
 clear hEC ht
 clear hok v0 v1 v2 v3 v4 hc0 hff hml
 clear hb hr hc hcl hk hle
 go_enter Tryz.func33,Tryz.ntmps33
 go_wp2_with fail
 refine HCF.out.mono ?_
 rintro d w1 ⟨rfl,hb1⟩
 have B1:=qC8 hb1
 clear hb1 HCF
 obtain ⟨x0,x1,x2,x3⟩:=(HB.out _ B1.out).1
 have y1:=V1.out _ B1.out
 have hbl1:b < w1.heap.size:=Nat.lt_of_lt_of_le hbl B1.out.size
 have hgl1:g < w1.heap.size:=Nat.lt_of_lt_of_le hgl B1.out.size
 go_upto_region 4 with fail
 refine wp_region_held_drew (S:=fun w'=>(∀ b o,b < w1.heap.size→w'.cell? ⟨b,o,none⟩=w1.cell? ⟨b,o,none⟩)∧Below w1.heap.size w1 w') (by kernel_rfl) (qB4 _) (fun hHeld=>?_)
 refine Zk.go [0,1,2,3,4,5,6,7,8,9] ?_
 iterate 10
  refine Zk.st (v:=?_) rfl ?_ ?_
  rotate_left 1
  ·intro w hSw;(try dsimp only at hSw);go_simp;try (with_reducible rfl)
  try simp only [Act.put,zA,zB,zC,zD,zE,zF]
 refine Zk.fin ?_
 refine Zk.rd (i:=10) rfl (fun K hK=>?_)
 go_simp
 refine (HI1.out _).mono ?_
 rintro d w2 ⟨rfl,hb2⟩
 have hS:=qA0 hHeld hb2
 refine hK.out _ _ hS (fun hHeld=>?_)
 clear hK K
 try simp only [Act.put,zA,zB,zC,zD,zE,zF]
 refine Zk.go [11,12,13,14,15,16,17,18,19,20,21] ?_
 iterate 11
  refine Zk.st (v:=?_) rfl ?_ ?_
  rotate_left 1
  ·intro w hSw;(try dsimp only at hSw);go_simp;try (with_reducible rfl)
  try simp only [Act.put,zA,zB,zC,zD,zE,zF]
 refine Zk.fin ?_
 refine Zk.rd (i:=22) rfl (fun K hK=>?_)
 go_simp
 refine (HI2.out _).mono ?_
 rintro d w3 ⟨rfl,hb3⟩
 have hS:=qA0 hHeld hb3
 refine hK.out _ _ hS (fun hHeld=>?_)
 clear hK K
 try simp only [Act.put,zA,zB,zC,zD,zE,zF]
 refine Zk.go [23,24] ?_
 iterate 2
  refine Zk.st (v:=?_) rfl ?_ ?_
  rotate_left 1
  ·intro w hSw;(try dsimp only at hSw);go_simp;try (with_reducible rfl)
  try simp only [Act.put,zA,zB,zC,zD,zE,zF]
 refine Zk.fin ?_
 refine wpAnyH_done (by kernel_rfl) ?_ _
 have B4:Hid (Below w.heap.size w w3):=B1.out.trans (hHeld.2.mono B1.out.size)
 clear hHeld hS hb2 hb3 x0 x1 x2 x3 y1 hbl1 hgl1 B1 HI1 HI2
 obtain ⟨x0,x1,x2,x3⟩:=(HB.out _ B4.out).1
 have hbl3:b < w3.heap.size:=Nat.lt_of_lt_of_le hbl B4.out.size
 go_upto_region 8 with fail
 go_cut [6,7] from 46 to 57 (fun s6 s7 W=>s7 = .bool true∧∃ (q:Nat) (sa:Option Addr) (sn sc:Nat) (la:Option Addr) (ln lc:Nat),s6 = .pointer (some ⟨q,0,none⟩)∧qE8 q [.int .i64 r.i,.int .i64 0,.slice sa sn sc,.slice la ln lc] W∧q < W.heap.size∧Below w.heap.size w W∧(∀ ls,op=some ls→qK1 W la ln ls))
 case first =>
  refine wp_region_held_drew (S:=fun w'=>(∀ b o,b < w3.heap.size→w'.cell? ⟨b,o,none⟩=w3.cell? ⟨b,o,none⟩)∧Below w3.heap.size w3 w') (by kernel_rfl) (qB4 _) (fun hHeld=>?_)
  refine Zk.go [0,1,2,3,4,5,6,7,8] ?_
  iterate 9
   refine Zk.st (v:=?_) rfl ?_ ?_
   rotate_left 1
   ·intro w hSw;(try dsimp only at hSw);go_simp;try (with_reducible rfl)
   try simp only [Act.put,zA,zB,zC,zD,zE,zF]
  refine Zk.fin ?_
  refine wpAnyH_ready (rs:=[9,13]) (by kernel_rfl) (by simp) ?_
  refine AllReadyH.cons rfl (fun K hK=>?_) (AllReadyH.cons rfl (fun K hK=>?_) AllReadyH.nil)
  ·go_simp
   refine (HPY.out _ (B4.out.trans (hHeld.2.mono B4.out.size))).mono ?_
   rintro d w5 ⟨sa,sn,sc,la,ln,lc,rfl,hb5,hR⟩
   have hS:=qA0 hHeld hb5
   have hs5:=hb5.size
   have hS5:=qC8 hS.2
   have HRR:=qC8 hR
   clear hR
   have hs5':w3.heap.size≤w5.heap.size:=hs5
   refine hK.out _ _ hS (fun hHeld=>?_)
   clear hK K
   try simp only [Act.put,zA,zB,zC,zD,zE,zF]
   refine Zk.go [10,11,12] ?_
   iterate 3
    refine Zk.st (v:=?_) rfl ?_ ?_
    rotate_left 1
    ·intro w hSw;(try dsimp only at hSw);go_simp;try (with_reducible rfl)
    try simp only [Act.put,zA,zB,zC,zD,zE,zF]
   refine Zk.fin ?_
   refine Zk.rd (i:=13) rfl (fun K hK=>?_)
   go_simp
   have hS:=kpN (hHeld.2.alloc hHeld.2.size (.cells #[.int .i64 0,.int .i64 0,.slice none 0 0,.slice none 0 0] 33))
   refine hK.out _ _ hS (fun hHeld=>?_)
   clear hK K
   try simp only [Act.put,zA,zB,zC,zD,zE,zF]
   refine Zk.rd (i:=14) rfl (fun K hK=>?_)
   go_simp
   have hS:=kpN (hS5.out.alloc hS5.out.size (.cells #[.int .i64 r.i,.int .i64 0,.slice sa sn sc,.slice la ln lc] 33))
   refine hK.out _ _ hS (fun hHeld=>?_)
   clear hK K
   try simp only [Act.put,zA,zB,zC,zD,zE,zF]
   refine Zk.rd (i:=15) rfl (fun K hK=>?_)
   go_simp
   refine hK.out _ _ (by assumption) (fun hHeld=>?_)
   clear hK K
   try simp only [Act.put,zA,zB,zC,zD,zE,zF]
   refine wpAnyH_done (by kernel_rfl) ?_ _
   go_wp2_with fail
   go_meet
   have AA:Below w5.heap.size w5 (w5.alloc (.cells #[.int .i64 r.i,.int .i64 0,.slice sa sn sc,.slice la ln lc] 33)):=zN
   exact ⟨rfl,w5.heap.size,sa,sn,sc,la,ln,lc,rfl,(qF2 w5 _ _).out,by simp,B4.out.trans (hS.2.mono B4.out.size),fun ls' e=>by obtain ⟨h1,h2⟩:=HRR.out ls' e;subst h1;exact LkV.isIn rfl (h2.below AA).view⟩
  ·go_simp
   have hS:=kpN (hHeld.2.alloc hHeld.2.size (.cells #[.int .i64 0,.int .i64 0,.slice none 0 0,.slice none 0 0] 33))
   refine hK.out _ _ hS (fun hHeld=>?_)
   clear hK K
   try simp only [Act.put,zA,zB,zC,zD,zE,zF]
   refine Zk.rd (i:=9) rfl (fun K hK=>?_)
   go_simp
   refine (HPY.out _ (B4.out.trans (hHeld.2.mono B4.out.size))).mono ?_
   rintro d w5 ⟨sa,sn,sc,la,ln,lc,rfl,hb5,hR⟩
   have hS:=qA0 hHeld hb5
   have hs5:=hb5.size
   have hS5:=qC8 hS.2
   have HRR:=qC8 hR
   clear hR
   have hs5':w3.heap.size+1≤w5.heap.size:=by simpa using hs5
   have XQ:qG2 w3.heap.size [.int .i64 0,.int .i64 0,.slice none 0 0,.slice none 0 0] w5:=qG2.below (qE0 w3.drew _ _) (by simp) hb5
   have z0:=XQ.1 0 _ rfl
   have z1:=XQ.1 1 _ rfl
   have z2:=XQ.1 2 _ rfl
   have z3:=XQ.1 3 _ rfl
   have f0:=XQ.2 0
   have f1:=XQ.2 1
   have f2:=XQ.2 2
   have f3:=XQ.2 3
   have hql:w3.heap.size < w5.heap.size:=hs5'
   refine hK.out _ _ hS (fun hHeld=>?_)
   clear hK K
   try simp only [Act.put,zA,zB,zC,zD,zE,zF]
   refine Zk.go [10,11,12] ?_
   iterate 3
    refine Zk.st (v:=?_) rfl ?_ ?_
    rotate_left 1
    ·intro w hSw;(try dsimp only at hSw);go_simp;try (with_reducible rfl)
    try simp only [Act.put,zA,zB,zC,zD,zE,zF]
   refine Zk.fin ?_
   refine Zk.rd (i:=14) rfl (fun K hK=>?_)
   go_simp
   have hS:=kpN ((((hHeld.2.setCell (p:=⟨w3.heap.size,0,none⟩) (Nat.le_refl _) (.int .i64 r.i)).setCell (p:=⟨w3.heap.size,1,none⟩) (Nat.le_refl _) (.int .i64 0)).setCell (p:=⟨w3.heap.size,2,none⟩) (Nat.le_refl _) (.slice sa sn sc)).setCell (p:=⟨w3.heap.size,3,none⟩) (Nat.le_refl _) (.slice la ln lc))
   refine hK.out _ _ hS (fun hHeld=>?_)
   clear hK K
   try simp only [Act.put,zA,zB,zC,zD,zE,zF]
   refine Zk.rd (i:=15) rfl (fun K hK=>?_)
   go_simp
   refine hK.out _ _ (by assumption) (fun hHeld=>?_)
   clear hK K
   try simp only [Act.put,zA,zB,zC,zD,zE,zF]
   refine wpAnyH_done (by kernel_rfl) ?_ _
   go_wp2_with fail
   go_meet
   exact ⟨rfl,w3.heap.size,sa,sn,sc,la,ln,lc,rfl,((((XQ.put 0 (by simp) _).put 1 (by simp) _).put 2 (by simp) _).put 3 (by simp) _).1,by simpa using hql,B4.out.trans (hS.2.mono B4.out.size),fun ls' e=>by obtain ⟨h1,h2⟩:=HRR.out ls' e;subst h1;exact lk_put4 h2 (by first | (simp;omega) | simp) _ _ _ _⟩
 clear x0 x1 x2 x3 hbl3 B4 HPY
 obtain ⟨rfl,q,sa,sn,sc,la,ln,lc,rfl,hQ,hql,hBq,hLq⟩:=hcut
 have B5:=qC8 hBq
 have q3:=hQ 3 _ rfl
 obtain ⟨x0,x1,x2,x3⟩:=(HB.out _ B5.out).1
 have hbl5:b < wc.heap.size:=Nat.lt_of_lt_of_le hbl B5.out.size
 obtain rfl:ls.length=ln:=(hLq ls hso).1
 have HL1:Hid (qK1 wc la ls.length ls):=hLq ls hso
 have HL2:Hid (qK1 wc r.la r.ln r.ls):=(HB.out _ B5.out).2.1.locks
 have HRL:Hid (r.ls.length=r.ln):=HL2.out.1
 have hnb:((ls.length:Int) != (r.ln:Int))=false:=by simp [heq]
 have hll':(ls.length:Int)≤1048576:=by omega
 have HQ:Hid (∀ q',(wc.drewN q').cell? ⟨q,3,none⟩=some (.slice la ls.length lc)∧(wc.drewN q').cell? ⟨b,3,none⟩=some (.slice r.la r.ln r.lc)):=fun q'=>⟨q3,x3⟩
 have HEQ:Hid (ls.length=r.ln):=heq
 go_upto_region 9 with fail
 go_quiet (fail)
 clear heq hLq
 go_wp2_with fail
 go_loopw [8] (fun j wr=>∃ k:Nat,k≤ls.length∧j = .int .i64 (k:Int)∧ls.take k=r.ls.take k∧∃ q',wr=wc.drewN q') (fun j _=>ls.length - (intOf j).toNat)
 case atStart=>exact ⟨0,Nat.zero_le _,rfl,by simp,_,rfl⟩
 case round =>
  obtain ⟨k,hk,rfl,htk,q',rfl⟩:=hrel
  have HTK:Hid (ls.take k=r.ls.take k):=htk
  clear htk
  by_cases hlt:k < ls.length
  ·obtain ⟨b1,o1,s,e1,hs,hr1,hb1⟩:=HL1.out.at hlt
   obtain ⟨b2,o2,s2,e2,hs2,hr2,hb2⟩:=HL2.out.at (by rw [← HEQ.out];exact hlt)
   have HE1:Hid (la=some ⟨b1,o1,none⟩):=e1
   have HE2:Hid (r.la=some ⟨b2,o2,none⟩):=e2
   have q3':wc.cell? ⟨q,3,none⟩=some (.slice (some ⟨b1,o1,none⟩) ls.length lc):=by rw [← e1];exact q3
   have x3':wc.cell? ⟨b,3,none⟩=some (.slice (some ⟨b2,o2,none⟩) r.ln r.lc):=by rw [← e2];exact x3
   have HS:Hid (ls[k]? = some s):=hs
   have HS2:Hid (r.ls[k]? = some s2):=hs2
   clear hs hs2 e1 e2 q3 x3
   obtain ⟨h0,h1,h2,h3⟩:=hr1
   obtain ⟨g0,g1,g2,g3⟩:=hr2
   have hlt':(k:Int) < (ls.length:Int):=by omega
   have hlt2:(k:Int) < (r.ln:Int):=by have:=HEQ.out;omega
   by_cases hsame:s=s2
   ·have HN:Hid (ls.take (k+1)=r.ls.take (k+1)):=by
     show ls.take (k+1)=r.ls.take (k+1)
     rw [List.take_add_one,List.take_add_one,HTK.out,HS.out,HS2.out,hsame]
    have hd:decide (s=s2)=true:=decide_eq_true hsame
    clear hsame
    go_wp2_with fail
    go_quiet (fail)
    go_wp2_with fail
    exact ⟨⟨k+1,by omega,by go_num,HN.out,_,rfl⟩,by simp [intOf];omega⟩
   ·have HE:Hid (t=10):=by
     show t=10
     rw [← HT.out]
     refine if_neg (fun e=>hsame ?_)
     have h1:=HS.out
     rw [e,HS2.out] at h1
     exact (Option.some.inj h1).symm
    have hd:decide (s=s2)=false:=decide_eq_false hsame
    clear hsame
    go_wp2_with fail
    go_quiet (fail)
    go_wp2_with fail
    go_ret
    exact ⟨by rw [HE.out];rfl,bdN (bdN B5.out _) _⟩
  ·have hkn:k=ls.length:=by omega
   subst hkn
   have HE:Hid (t=0):=by
    show t=0
    rw [← HT.out]
    refine if_pos ?_
    have:=HTK.out
    rw [List.take_length,HEQ.out,← HRL.out,List.take_length] at this
    exact this
   go_wp2_with fail
   go_ret
   exact ⟨by rw [HE.out];rfl,bdN B5.out _⟩
end

theorem l8Fault_c (E:qI1) (b:Nat) (r:qH5) (a:Option Addr) (m cap:Nat) (cs:List qA5) (w:World) (hb:qG8 w b r) (hr:qE7 w r) (hle:qL6 1048576 r) (hc:qA7 w a m cs) (hcl:qF5 1048576 cs) (hm:m≤1048576) (hEC:qB8 cs=0→qO2 E cs) :
  Calls Tryz.prog 33 #[.pointer (some ⟨b,0,none⟩),.slice a m cap] w fun d w'=>d = .returned (.int .i64 (qM3 E cs r))∧Below w.heap.size w w':=by
 unfold qM3
 by_cases hk:qB8 cs=0
 ·rw [if_pos hk]
  cases h1:inR r.i 1 (3 * f0C cs+1)
  ·have e:qI7 (f0C cs) r=false:=by unfold qI7;rw [h1];rfl
   rw [e,if_neg (by decide)]
   exact faultS_id E b r a m cap cs w hb hr hle hc hcl hm hk h1
  ·cases h2:inR r.u 0 (r.sn:Int)
   ·have e:qI7 (f0C cs) r=false:=by unfold qI7;rw [h1,h2];rfl
    rw [e,if_neg (by decide)]
    exact faultS_sure E b r a m cap cs w hb hr hle hc hcl hm hk h1 h2
   ·have e:qI7 (f0C cs) r=true:=by unfold qI7;rw [h1,h2];rfl
    rw [e,if_pos rfl]
    by_cases h40:40 < r.sn
    ·rw [if_pos h40]
     exact faultS_many E b r a m cap cs w hb hr hle hc hcl hm hk h1 h2 h40
    ·rw [if_neg h40]
     cases ho:qF6 E r.ss r.sn with
     | none =>
      rw [if_neg (by intro q;cases q)]
      exact faultS_none E b r a m cap cs w hb hr hle hc hcl hm hk h1 h2 (hEC hk) (by omega) _ ho rfl
     | some ls =>
      have hll:ls.length≤1048576:=play_len r.sn ls ho (by rw [hr.said.1];exact Nat.le_refl _)
      by_cases hle':ls.length=r.ln
      ·have q:=faultS_cmp E b r a m cap cs w hb hr hle hc hcl hm hk h1 h2 (hEC hk) (by omega) _ ho ls rfl hll hle' _ rfl
       by_cases e:ls=r.ls
       ·rw [if_pos (by rw [e])]
        rw [if_pos e] at q
        exact q
       ·rw [if_neg (fun q=>e (Option.some.inj q))]
        rw [if_neg e] at q
        exact q
      ·rw [if_neg (fun q=>hle' (by rw [Option.some.inj q];exact hr.locks.1))]
       exact faultS_len E b r a m cap cs w hb hr hle hc hcl hm hk h1 h2 (hEC hk) (by omega) _ ho ls rfl hll hle'
 ·rw [if_neg hk]
  exact faultS_conf E b r a m cap cs w hb hr hle hc hcl hm _ rfl hk
theorem env_of {cs:List qA5} (hcl:qF5 1048576 cs):∃ E:qI1,qB8 cs=0→qO2 E cs:=by
 by_cases hk:qB8 cs=0
 ·have hok:=(qU0 hk).2.2
  have hg:∀ p:Nat,∃ gs:List GrI,∀ c,cs[p]? = some c→QJ0 c.zs gs:=fun p=>by
   cases h:cs[p]? with
   | none=>exact ⟨[],fun c e=>by cases e⟩
   | some c =>
    obtain ⟨gs,q⟩:=all_some c.zs (QF9 (hok p c h).1).2.2.1
    exact ⟨gs,fun c' e=>by cases e;exact q⟩
  refine ⟨⟨cs.map (·.e),fun p f s=>alW (qA6 (cs[p]?.getD default).fs) (Classical.choose (hg p)) f s,fun p=>(cs[p]?.getD default).cs⟩,fun _=>⟨rfl,fun p c hc=>⟨⟨hcl.le p c hc,(hcl.rc p c hc).1,(hcl.rc p c hc).2,(hok p c hc).1⟩,Classical.choose (hg p),Classical.choose_spec (hg p) c hc,fun f s=>?_,?_⟩⟩⟩
  ·show alW (qA6 (cs[p]?.getD default).fs) _ f s=_
   have e:cs[p]?.getD default=c:=by rw [hc];rfl
   rw [e]
  ·show (cs[p]?.getD default).cs=c.cs
   rw [hc]
   rfl
 ·exact ⟨⟨[],fun _ _ _=>false,fun _=>[]⟩,fun q=>absurd q hk⟩

end Go.Proofs.YtlhgjackapdmbaaGreatDoor
