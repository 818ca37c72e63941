/- Contracts. -/
import Derived.Test.YtlhgjackapdmbaaGreatDoorPw47
import Derived.Test.YtlhgjackapdmbaaGreatDoorPw48
import Derived.Test.YtlhgjackapdmbaaGreatDoorPw50
namespace Go.Proofs.YtlhgjackapdmbaaGreatDoor
set_option maxRecDepth 100000
set_option maxHeartbeats 8000000
open Go.RowKit
set_option linter.unusedVariables false
set_option linter.unusedSimpArgs false

section
theorem QF0 {z:Int} (h0:0≤z) (h1:z≤1000):IntKind.i64.wrap z=z:=by rw [IntKind.wrap_i64];omega
theorem lk_put4 {w5:World} {B q:Nat} {la:Option Addr} {lc:Nat} {ls:List LkI} (h:qB0 w5 B (.slice la ls.length lc) ls) (hq:q < B) (v0 v1 v2 v3:Value):qI8 ((((w5.setCell ⟨q,0,none⟩ v0).setCell ⟨q,1,none⟩ v1).setCell ⟨q,2,none⟩ v2).setCell ⟨q,3,none⟩ v3) la ls.length ls:=by
 refine LkV.isIn rfl (qB0.view (B:=B) (cap:=lc) (qA3 h (fun g e=>?_)))
 obtain ⟨cur,hcc,hgg⟩:=qD1 h e
 rw [Below.heap_setCell _ _ _ _ (by show g≠q;omega),Below.heap_setCell _ _ _ _ (by show g≠q;omega),Below.heap_setCell _ _ _ _ (by show g≠q;omega),Below.heap_setCell _ _ _ _ (by show g≠q;omega)]
attribute [local go_sem ↓] Lock_neq
theorem faultS_conf (E:qH9) (b:Nat) (r:qH2) (a:Option Addr) (m cap:Nat) (cs:List qA4) (w:World) (hb:qF0 w b r) (hr:qE0 w r) (hle:qM3 1048576 r) (hc:qA7 w a m cs) (hcl:qF9 1048576 cs) (hm:m≤1048576) (k:Int) (hk:qB7 cs=k) (hk0:k≠0) :
  Calls Tryz.prog 33 #[.pointer (some ⟨b,0,none⟩),.slice a m cap] w fun d w'=>d = .returned (.int .i64 k)∧Below w.heap.size w w':=by
 have hsn:=hle.said
 have hln:=hle.locks
 have hsn':(r.sn:Int)≤1048576:=by omega
 have hln':(r.ln:Int)≤1048576:=by omega
 have HCF:Hid (Calls Tryz.prog 57 #[.slice a m cap] w fun e w'=>e = .returned (.int .i64 k)∧Below w.heap.size w w'):=by show Calls _ _ _ _ _;rw [← hk];exact qK8 a m cap cs w hm hcl hc
 have HB:Hid (∀ W,Below w.heap.size w W→qF0 W b r∧qE0 W r∧qA7 W a m cs):=fun W q=>⟨hb.below q,hr.below q,hc.below q⟩
 have hbl:b < w.heap.size:=hb.lt
 have kb:(k != 0)=true:=by simp [hk0]
 clear hb hr hc hcl hk hle
 go_enter Tryz.func33,Tryz.ntmps33
 go_wp2_with fail
 refine HCF.out.mono ?_
 rintro d w1 ⟨rfl,hb1⟩
 have B1:=qC4 hb1
 clear hb1 HCF
 go_wp2_with fail
 go_ret
 exact ⟨rfl,B1.out⟩
theorem faultS_id (E:qH9) (b:Nat) (r:qH2) (a:Option Addr) (m cap:Nat) (cs:List qA4) (w:World) (hb:qF0 w b r) (hr:qE0 w r) (hle:qM3 1048576 r) (hc:qA7 w a m cs) (hcl:qF9 1048576 cs) (hm:m≤1048576) (hk:qB7 cs=0) (h1':inR r.i 1 (3 * f0C cs+1)=false) :
  Calls Tryz.prog 33 #[.pointer (some ⟨b,0,none⟩),.slice a m cap] w fun d w'=>d = .returned (.int .i64 3)∧Below w.heap.size w w':=by
 have hsn:=hle.said
 have hln:=hle.locks
 have hsn':(r.sn:Int)≤1048576:=by omega
 have hln':(r.ln:Int)≤1048576:=by omega
 have HCF:Hid (Calls Tryz.prog 57 #[.slice a m cap] w fun e w'=>e = .returned (.int .i64 0)∧Below w.heap.size w w'):=by show Calls _ _ _ _ _;rw [← hk];exact qK8 a m cap cs w hm hcl hc
 have HB:Hid (∀ W,Below w.heap.size w W→qF0 W b r∧qE0 W r∧qA7 W a m cs):=fun W q=>⟨hb.below q,hr.below q,hc.below q⟩
 have hbl:b < w.heap.size:=hb.lt
 obtain ⟨hm1,hm8,hok⟩:=qV6 hk
 have hml:cs.length=m:=hc.len
 have hm0:0 < m:=by omega
 have hm0':(0:Int) < (m:Int):=by omega
 obtain ⟨g,off,c0,rfl,hc0,hat,_⟩:=hc.at hm0
 obtain ⟨v0,v1,v2,v3,v4⟩:=hat
 simp only [Nat.zero_mul,Nat.add_zero] at v0 v1 v2 v3 v4
 have hgl:g < w.heap.size:=zL w _ v0
 have hf0:f0C cs=c0.f:=by unfold f0C;rw [hc0];rfl
 have hff:1≤c0.f∧c0.f≤2:=f_of (hok 0 c0 hc0).1
 have hw1:IntKind.i64.wrap (3 * c0.f)=3 * c0.f:=QF0 (by omega) (by omega)
 have hw2:IntKind.i64.wrap (3 * c0.f+1)=3 * c0.f+1:=QF0 (by omega) (by omega)
 have V1:Hid (∀ W:World,Below w.heap.size w W→W.cell? ⟨g,off+1,none⟩=some (.int .i64 c0.f)):=fun W hb=>(hb.cell (p:=⟨g,off+1,none⟩) hgl).trans v1
 have h1:inR r.i 1 (3 * c0.f+1)=false:=by rw [← hf0];exact h1'
 have HI1:Hid (∀ W:World,Calls Tryz.prog 51 #[.int .i64 r.i,.int .i64 1,.int .i64 (3 * c0.f+1)] W fun e w'=>e = .returned (.bool false)∧Below W.heap.size W w'):=fun W=>by
  have q:=qL9 r.i 1 (3 * c0.f+1) W
  rw [show (decide (1≤r.i)&&decide (r.i≤3 * c0.f+1))=false from h1] at q
  exact q.mono fun e w' h=>⟨h.1,by rw [← h.2];exact Below.refl _ _⟩
 clear h1 h1' hf0
 clear hok v0 v1 v2 v3 v4 hc0 hff hml
 clear hb hr hc hcl hk hle
 go_enter Tryz.func33,Tryz.ntmps33
 go_wp2_with fail
 refine HCF.out.mono ?_
 rintro d w1 ⟨rfl,hb1⟩
 have B1:=qC4 hb1
 clear hb1 HCF
 obtain ⟨x0,x1,x2,x3⟩:=(HB.out _ B1.out).1
 have y1:=V1.out _ B1.out
 have hbl1:b < w1.heap.size:=Nat.lt_of_lt_of_le hbl B1.out.size
 have hgl1:g < w1.heap.size:=Nat.lt_of_lt_of_le hgl B1.out.size
 go_upto_region 4 with fail
 refine wp_region_held_drew (S:=fun w'=>(∀ b o,b < w1.heap.size→w'.cell? ⟨b,o,none⟩=w1.cell? ⟨b,o,none⟩)∧Below w1.heap.size w1 w') (by kernel_rfl) (qB5 _) (fun hHeld=>?_)
 refine Zk.go [0,1,2,3,4,5,6,7,8,9] ?_
 iterate 10
  refine Zk.st (v:=?_) rfl ?_ ?_
  rotate_left 1
  ·intro w hSw;(try dsimp only at hSw);go_simp;try (with_reducible rfl)
  try simp only [Act.put,zA,zB,zC,zD,zE,zF]
 refine Zk.fin ?_
 refine Zk.rd (i:=10) rfl (fun K hK=>?_)
 go_simp
 refine (HI1.out _).mono ?_
 rintro d w2 ⟨rfl,hb2⟩
 have hS:=qA6 hHeld hb2
 refine hK.out _ _ hS (fun hHeld=>?_)
 clear hK K
 try simp only [Act.put,zA,zB,zC,zD,zE,zF]
 refine Zk.go [11,12,13,14,15,16,17,18,19,20,21,22,23,24] ?_
 iterate 2
  refine Zk.st (v:=?_) rfl ?_ ?_
  rotate_left 1
  ·intro w hSw;(try dsimp only at hSw);go_simp;try (with_reducible rfl)
  try simp only [Act.put,zA,zB,zC,zD,zE,zF]
 iterate 11 (refine Zk.un rfl ?_;try simp only [Act.put,zA,zB,zC,zD,zE,zF])
 refine Zk.st (v:=?_) rfl ?_ ?_
 rotate_left 1
 ·intro w hSw;(try dsimp only at hSw);go_simp;try (with_reducible rfl)
 try simp only [Act.put,zA,zB,zC,zD,zE,zF]
 refine Zk.fin ?_
 refine wpAnyH_done (by kernel_rfl) ?_ _
 go_wp2_with fail
 go_ret
 exact ⟨rfl,B1.out.trans (hHeld.2.mono B1.out.size)⟩
theorem faultS_sure (E:qH9) (b:Nat) (r:qH2) (a:Option Addr) (m cap:Nat) (cs:List qA4) (w:World) (hb:qF0 w b r) (hr:qE0 w r) (hle:qM3 1048576 r) (hc:qA7 w a m cs) (hcl:qF9 1048576 cs) (hm:m≤1048576) (hk:qB7 cs=0) (h1':inR r.i 1 (3 * f0C cs+1)=true) (h2:inR r.u 0 (r.sn:Int)=false) :
  Calls Tryz.prog 33 #[.pointer (some ⟨b,0,none⟩),.slice a m cap] w fun d w'=>d = .returned (.int .i64 3)∧Below w.heap.size w w':=by
 have hsn:=hle.said
 have hln:=hle.locks
 have hsn':(r.sn:Int)≤1048576:=by omega
 have hln':(r.ln:Int)≤1048576:=by omega
 have HCF:Hid (Calls Tryz.prog 57 #[.slice a m cap] w fun e w'=>e = .returned (.int .i64 0)∧Below w.heap.size w w'):=by show Calls _ _ _ _ _;rw [← hk];exact qK8 a m cap cs w hm hcl hc
 have HB:Hid (∀ W,Below w.heap.size w W→qF0 W b r∧qE0 W r∧qA7 W a m cs):=fun W q=>⟨hb.below q,hr.below q,hc.below q⟩
 have hbl:b < w.heap.size:=hb.lt
 obtain ⟨hm1,hm8,hok⟩:=qV6 hk
 have hml:cs.length=m:=hc.len
 have hm0:0 < m:=by omega
 have hm0':(0:Int) < (m:Int):=by omega
 obtain ⟨g,off,c0,rfl,hc0,hat,_⟩:=hc.at hm0
 obtain ⟨v0,v1,v2,v3,v4⟩:=hat
 simp only [Nat.zero_mul,Nat.add_zero] at v0 v1 v2 v3 v4
 have hgl:g < w.heap.size:=zL w _ v0
 have hf0:f0C cs=c0.f:=by unfold f0C;rw [hc0];rfl
 have hff:1≤c0.f∧c0.f≤2:=f_of (hok 0 c0 hc0).1
 have hw1:IntKind.i64.wrap (3 * c0.f)=3 * c0.f:=QF0 (by omega) (by omega)
 have hw2:IntKind.i64.wrap (3 * c0.f+1)=3 * c0.f+1:=QF0 (by omega) (by omega)
 have V1:Hid (∀ W:World,Below w.heap.size w W→W.cell? ⟨g,off+1,none⟩=some (.int .i64 c0.f)):=fun W hb=>(hb.cell (p:=⟨g,off+1,none⟩) hgl).trans v1
 have h1:inR r.i 1 (3 * c0.f+1)=true:=by rw [← hf0];exact h1'
 have HI1:Hid (∀ W:World,Calls Tryz.prog 51 #[.int .i64 r.i,.int .i64 1,.int .i64 (3 * c0.f+1)] W fun e w'=>e = .returned (.bool true)∧Below W.heap.size W w'):=fun W=>by
  have q:=qL9 r.i 1 (3 * c0.f+1) W
  rw [show (decide (1≤r.i)&&decide (r.i≤3 * c0.f+1))=true from h1] at q
  exact q.mono fun e w' h=>⟨h.1,by rw [← h.2];exact Below.refl _ _⟩
 have HI2:Hid (∀ W:World,Calls Tryz.prog 51 #[.int .i64 r.u,.int .i64 0,.int .i64 (r.sn:Int)] W fun e w'=>e = .returned (.bool false)∧Below W.heap.size W w'):=fun W=>by
  have q:=qL9 r.u 0 (r.sn:Int) W
  rw [show (decide (0≤r.u)&&decide (r.u≤(r.sn:Int)))=false from h2] at q
  exact q.mono fun e w' h=>⟨h.1,by rw [← h.2];exact Below.refl _ _⟩
 clear h1 h1' h2 hf0
 clear hok v0 v1 v2 v3 v4 hc0 hff hml
 clear hb hr hc hcl hk hle
 go_enter Tryz.func33,Tryz.ntmps33
 go_wp2_with fail
 refine HCF.out.mono ?_
 rintro d w1 ⟨rfl,hb1⟩
 have B1:=qC4 hb1
 clear hb1 HCF
 obtain ⟨x0,x1,x2,x3⟩:=(HB.out _ B1.out).1
 have y1:=V1.out _ B1.out
 have hbl1:b < w1.heap.size:=Nat.lt_of_lt_of_le hbl B1.out.size
 have hgl1:g < w1.heap.size:=Nat.lt_of_lt_of_le hgl B1.out.size
 go_upto_region 4 with fail
 refine wp_region_held_drew (S:=fun w'=>(∀ b o,b < w1.heap.size→w'.cell? ⟨b,o,none⟩=w1.cell? ⟨b,o,none⟩)∧Below w1.heap.size w1 w') (by kernel_rfl) (qB5 _) (fun hHeld=>?_)
 refine Zk.go [0,1,2,3,4,5,6,7,8,9] ?_
 iterate 10
  refine Zk.st (v:=?_) rfl ?_ ?_
  rotate_left 1
  ·intro w hSw;(try dsimp only at hSw);go_simp;try (with_reducible rfl)
  try simp only [Act.put,zA,zB,zC,zD,zE,zF]
 refine Zk.fin ?_
 refine Zk.rd (i:=10) rfl (fun K hK=>?_)
 go_simp
 refine (HI1.out _).mono ?_
 rintro d w2 ⟨rfl,hb2⟩
 have hS:=qA6 hHeld hb2
 refine hK.out _ _ hS (fun hHeld=>?_)
 clear hK K
 try simp only [Act.put,zA,zB,zC,zD,zE,zF]
 refine Zk.go [11,12,13,14,15,16,17,18,19,20,21] ?_
 iterate 11
  refine Zk.st (v:=?_) rfl ?_ ?_
  rotate_left 1
  ·intro w hSw;(try dsimp only at hSw);go_simp;try (with_reducible rfl)
  try simp only [Act.put,zA,zB,zC,zD,zE,zF]
 refine Zk.fin ?_
 refine Zk.rd (i:=22) rfl (fun K hK=>?_)
 go_simp
 refine (HI2.out _).mono ?_
 rintro d w3 ⟨rfl,hb3⟩
 have hS:=qA6 hHeld hb3
 refine hK.out _ _ hS (fun hHeld=>?_)
 clear hK K
 try simp only [Act.put,zA,zB,zC,zD,zE,zF]
 refine Zk.go [23,24] ?_
 iterate 2
  refine Zk.st (v:=?_) rfl ?_ ?_
  rotate_left 1
  ·intro w hSw;(try dsimp only at hSw);go_simp;try (with_reducible rfl)
  try simp only [Act.put,zA,zB,zC,zD,zE,zF]
 refine Zk.fin ?_
 refine wpAnyH_done (by kernel_rfl) ?_ _
 go_wp2_with fail
 go_ret
 exact ⟨rfl,B1.out.trans (hHeld.2.mono B1.out.size)⟩
theorem faultS_many (E:qH9) (b:Nat) (r:qH2) (a:Option Addr) (m cap:Nat) (cs:List qA4) (w:World) (hb:qF0 w b r) (hr:qE0 w r) (hle:qM3 1048576 r) (hc:qA7 w a m cs) (hcl:qF9 1048576 cs) (hm:m≤1048576) (hk:qB7 cs=0) (h1':inR r.i 1 (3 * f0C cs+1)=true) (h2:inR r.u 0 (r.sn:Int)=true) (h40:40 < r.sn) :
  Calls Tryz.prog 33 #[.pointer (some ⟨b,0,none⟩),.slice a m cap] w fun d w'=>d = .returned (.int .i64 2)∧Below w.heap.size w w':=by
 have hsn:=hle.said
 have hln:=hle.locks
 have hsn':(r.sn:Int)≤1048576:=by omega
 have hln':(r.ln:Int)≤1048576:=by omega
 have HCF:Hid (Calls Tryz.prog 57 #[.slice a m cap] w fun e w'=>e = .returned (.int .i64 0)∧Below w.heap.size w w'):=by show Calls _ _ _ _ _;rw [← hk];exact qK8 a m cap cs w hm hcl hc
 have HB:Hid (∀ W,Below w.heap.size w W→qF0 W b r∧qE0 W r∧qA7 W a m cs):=fun W q=>⟨hb.below q,hr.below q,hc.below q⟩
 have hbl:b < w.heap.size:=hb.lt
 obtain ⟨hm1,hm8,hok⟩:=qV6 hk
 have hml:cs.length=m:=hc.len
 have hm0:0 < m:=by omega
 have hm0':(0:Int) < (m:Int):=by omega
 obtain ⟨g,off,c0,rfl,hc0,hat,_⟩:=hc.at hm0
 obtain ⟨v0,v1,v2,v3,v4⟩:=hat
 simp only [Nat.zero_mul,Nat.add_zero] at v0 v1 v2 v3 v4
 have hgl:g < w.heap.size:=zL w _ v0
 have hf0:f0C cs=c0.f:=by unfold f0C;rw [hc0];rfl
 have hff:1≤c0.f∧c0.f≤2:=f_of (hok 0 c0 hc0).1
 have hw1:IntKind.i64.wrap (3 * c0.f)=3 * c0.f:=QF0 (by omega) (by omega)
 have hw2:IntKind.i64.wrap (3 * c0.f+1)=3 * c0.f+1:=QF0 (by omega) (by omega)
 have V1:Hid (∀ W:World,Below w.heap.size w W→W.cell? ⟨g,off+1,none⟩=some (.int .i64 c0.f)):=fun W hb=>(hb.cell (p:=⟨g,off+1,none⟩) hgl).trans v1
 have h1:inR r.i 1 (3 * c0.f+1)=true:=by rw [← hf0];exact h1'
 have HI1:Hid (∀ W:World,Calls Tryz.prog 51 #[.int .i64 r.i,.int .i64 1,.int .i64 (3 * c0.f+1)] W fun e w'=>e = .returned (.bool true)∧Below W.heap.size W w'):=fun W=>by
  have q:=qL9 r.i 1 (3 * c0.f+1) W
  rw [show (decide (1≤r.i)&&decide (r.i≤3 * c0.f+1))=true from h1] at q
  exact q.mono fun e w' h=>⟨h.1,by rw [← h.2];exact Below.refl _ _⟩
 have HI2:Hid (∀ W:World,Calls Tryz.prog 51 #[.int .i64 r.u,.int .i64 0,.int .i64 (r.sn:Int)] W fun e w'=>e = .returned (.bool true)∧Below W.heap.size W w'):=fun W=>by
  have q:=qL9 r.u 0 (r.sn:Int) W
  rw [show (decide (0≤r.u)&&decide (r.u≤(r.sn:Int)))=true from h2] at q
  exact q.mono fun e w' h=>⟨h.1,by rw [← h.2];exact Below.refl _ _⟩
 clear h1 h1' h2 hf0
 have h40':(40:Int) < (r.sn:Int):=by omega
 clear hok v0 v1 v2 v3 v4 hc0 hff hml
 clear hb hr hc hcl hk hle
 go_enter Tryz.func33,Tryz.ntmps33
 go_wp2_with fail
 refine HCF.out.mono ?_
 rintro d w1 ⟨rfl,hb1⟩
 have B1:=qC4 hb1
 clear hb1 HCF
 obtain ⟨x0,x1,x2,x3⟩:=(HB.out _ B1.out).1
 have y1:=V1.out _ B1.out
 have hbl1:b < w1.heap.size:=Nat.lt_of_lt_of_le hbl B1.out.size
 have hgl1:g < w1.heap.size:=Nat.lt_of_lt_of_le hgl B1.out.size
 go_upto_region 4 with fail
 refine wp_region_held_drew (S:=fun w'=>(∀ b o,b < w1.heap.size→w'.cell? ⟨b,o,none⟩=w1.cell? ⟨b,o,none⟩)∧Below w1.heap.size w1 w') (by kernel_rfl) (qB5 _) (fun hHeld=>?_)
 refine Zk.go [0,1,2,3,4,5,6,7,8,9] ?_
 iterate 10
  refine Zk.st (v:=?_) rfl ?_ ?_
  rotate_left 1
  ·intro w hSw;(try dsimp only at hSw);go_simp;try (with_reducible rfl)
  try simp only [Act.put,zA,zB,zC,zD,zE,zF]
 refine Zk.fin ?_
 refine Zk.rd (i:=10) rfl (fun K hK=>?_)
 go_simp
 refine (HI1.out _).mono ?_
 rintro d w2 ⟨rfl,hb2⟩
 have hS:=qA6 hHeld hb2
 refine hK.out _ _ hS (fun hHeld=>?_)
 clear hK K
 try simp only [Act.put,zA,zB,zC,zD,zE,zF]
 refine Zk.go [11,12,13,14,15,16,17,18,19,20,21] ?_
 iterate 11
  refine Zk.st (v:=?_) rfl ?_ ?_
  rotate_left 1
  ·intro w hSw;(try dsimp only at hSw);go_simp;try (with_reducible rfl)
  try simp only [Act.put,zA,zB,zC,zD,zE,zF]
 refine Zk.fin ?_
 refine Zk.rd (i:=22) rfl (fun K hK=>?_)
 go_simp
 refine (HI2.out _).mono ?_
 rintro d w3 ⟨rfl,hb3⟩
 have hS:=qA6 hHeld hb3
 refine hK.out _ _ hS (fun hHeld=>?_)
 clear hK K
 try simp only [Act.put,zA,zB,zC,zD,zE,zF]
 refine Zk.go [23,24] ?_
 iterate 2
  refine Zk.st (v:=?_) rfl ?_ ?_
  rotate_left 1
  ·intro w hSw;(try dsimp only at hSw);go_simp;try (with_reducible rfl)
  try simp only [Act.put,zA,zB,zC,zD,zE,zF]
 refine Zk.fin ?_
 refine wpAnyH_done (by kernel_rfl) ?_ _
 have B4:Hid (Below w.heap.size w w3):=B1.out.trans (hHeld.2.mono B1.out.size)
 clear hHeld hS hb2 hb3 x0 x1 x2 x3 y1 hbl1 hgl1 B1 HI1 HI2
 obtain ⟨x0,x1,x2,x3⟩:=(HB.out _ B4.out).1
 have hbl3:b < w3.heap.size:=Nat.lt_of_lt_of_le hbl B4.out.size
 go_wp2_with fail
 go_ret
 exact ⟨rfl,B4.out⟩
theorem faultS_none (E:qH9) (b:Nat) (r:qH2) (a:Option Addr) (m cap:Nat) (cs:List qA4) (w:World) (hb:qF0 w b r) (hr:qE0 w r) (hle:qM3 1048576 r) (hc:qA7 w a m cs) (hcl:qF9 1048576 cs) (hm:m≤1048576) (hk:qB7 cs=0) (h1':inR r.i 1 (3 * f0C cs+1)=true) (h2:inR r.u 0 (r.sn:Int)=true) (hEC:qM4 E cs) (h40:r.sn≤40) (op:Option (List LkI)) (hop:qE8 E r.ss r.sn=op) (hno:op=none) :
  Calls Tryz.prog 33 #[.pointer (some ⟨b,0,none⟩),.slice a m cap] w fun d w'=>d = .returned (.int .i64 10)∧Below w.heap.size w w':=by
 have hsn:=hle.said
 have hln:=hle.locks
 have hsn':(r.sn:Int)≤1048576:=by omega
 have hln':(r.ln:Int)≤1048576:=by omega
 have HCF:Hid (Calls Tryz.prog 57 #[.slice a m cap] w fun e w'=>e = .returned (.int .i64 0)∧Below w.heap.size w w'):=by show Calls _ _ _ _ _;rw [← hk];exact qK8 a m cap cs w hm hcl hc
 have HB:Hid (∀ W,Below w.heap.size w W→qF0 W b r∧qE0 W r∧qA7 W a m cs):=fun W q=>⟨hb.below q,hr.below q,hc.below q⟩
 have hbl:b < w.heap.size:=hb.lt
 obtain ⟨hm1,hm8,hok⟩:=qV6 hk
 have hml:cs.length=m:=hc.len
 have hm0:0 < m:=by omega
 have hm0':(0:Int) < (m:Int):=by omega
 obtain ⟨g,off,c0,rfl,hc0,hat,_⟩:=hc.at hm0
 obtain ⟨v0,v1,v2,v3,v4⟩:=hat
 simp only [Nat.zero_mul,Nat.add_zero] at v0 v1 v2 v3 v4
 have hgl:g < w.heap.size:=zL w _ v0
 have hf0:f0C cs=c0.f:=by unfold f0C;rw [hc0];rfl
 have hff:1≤c0.f∧c0.f≤2:=f_of (hok 0 c0 hc0).1
 have hw1:IntKind.i64.wrap (3 * c0.f)=3 * c0.f:=QF0 (by omega) (by omega)
 have hw2:IntKind.i64.wrap (3 * c0.f+1)=3 * c0.f+1:=QF0 (by omega) (by omega)
 have V1:Hid (∀ W:World,Below w.heap.size w W→W.cell? ⟨g,off+1,none⟩=some (.int .i64 c0.f)):=fun W hb=>(hb.cell (p:=⟨g,off+1,none⟩) hgl).trans v1
 have h1:inR r.i 1 (3 * c0.f+1)=true:=by rw [← hf0];exact h1'
 have HI1:Hid (∀ W:World,Calls Tryz.prog 51 #[.int .i64 r.i,.int .i64 1,.int .i64 (3 * c0.f+1)] W fun e w'=>e = .returned (.bool true)∧Below W.heap.size W w'):=fun W=>by
  have q:=qL9 r.i 1 (3 * c0.f+1) W
  rw [show (decide (1≤r.i)&&decide (r.i≤3 * c0.f+1))=true from h1] at q
  exact q.mono fun e w' h=>⟨h.1,by rw [← h.2];exact Below.refl _ _⟩
 have HI2:Hid (∀ W:World,Calls Tryz.prog 51 #[.int .i64 r.u,.int .i64 0,.int .i64 (r.sn:Int)] W fun e w'=>e = .returned (.bool true)∧Below W.heap.size W w'):=fun W=>by
  have q:=qL9 r.u 0 (r.sn:Int) W
  rw [show (decide (0≤r.u)&&decide (r.u≤(r.sn:Int)))=true from h2] at q
  exact q.mono fun e w' h=>⟨h.1,by rw [← h.2];exact Below.refl _ _⟩
 clear h1 h1' h2 hf0
 have h40':(r.sn:Int)≤40:=by omega
 have HPY:Hid (∀ W:World,Below w.heap.size w W→Calls Tryz.prog 58 #[.int .i64 r.i,.slice (some ⟨g,off,none⟩) m cap,.slice r.sa r.sn r.sc] W fun d w'=>∃ (sa:Option Addr) (sn sc:Nat) (la:Option Addr) (ln lc:Nat),d = .returned (.tuple #[.agg #[.int .i64 r.i,.int .i64 0,.slice sa sn sc,.slice la ln lc],.bool false])∧Below W.heap.size W w'∧(∀ ls,op=some ls→ln=ls.length∧qB0 w' (W.heap.size+1) (.slice la ls.length lc) ls)):=fun W hb=>by
  refine (QR6 E r.i _ m cap cs r.sa r.sn r.sc r.ss W hEC (hc.below hb) hm0 (by omega) (hr.said.below hb) hsn).mono ?_
  rintro d w' ⟨g1,g2,g3⟩
  rw [hop] at g2 g3
  obtain ⟨sa,sn,sc,la,ln,lc,rfl⟩:=g3 hno
  exact ⟨sa,sn,sc,la,ln,lc,rfl,g1,fun ls e=>by rw [hno] at e;cases e⟩
 clear hop
 clear hEC
 clear hok v0 v1 v2 v3 v4 hc0 hff hml
 clear hb hr hc hcl hk hle
 go_enter Tryz.func33,Tryz.ntmps33
 go_wp2_with fail
 refine HCF.out.mono ?_
 rintro d w1 ⟨rfl,hb1⟩
 have B1:=qC4 hb1
 clear hb1 HCF
 obtain ⟨x0,x1,x2,x3⟩:=(HB.out _ B1.out).1
 have y1:=V1.out _ B1.out
 have hbl1:b < w1.heap.size:=Nat.lt_of_lt_of_le hbl B1.out.size
 have hgl1:g < w1.heap.size:=Nat.lt_of_lt_of_le hgl B1.out.size
 go_upto_region 4 with fail
 refine wp_region_held_drew (S:=fun w'=>(∀ b o,b < w1.heap.size→w'.cell? ⟨b,o,none⟩=w1.cell? ⟨b,o,none⟩)∧Below w1.heap.size w1 w') (by kernel_rfl) (qB5 _) (fun hHeld=>?_)
 refine Zk.go [0,1,2,3,4,5,6,7,8,9] ?_
 iterate 10
  refine Zk.st (v:=?_) rfl ?_ ?_
  rotate_left 1
  ·intro w hSw;(try dsimp only at hSw);go_simp;try (with_reducible rfl)
  try simp only [Act.put,zA,zB,zC,zD,zE,zF]
 refine Zk.fin ?_
 refine Zk.rd (i:=10) rfl (fun K hK=>?_)
 go_simp
 refine (HI1.out _).mono ?_
 rintro d w2 ⟨rfl,hb2⟩
 have hS:=qA6 hHeld hb2
 refine hK.out _ _ hS (fun hHeld=>?_)
 clear hK K
 try simp only [Act.put,zA,zB,zC,zD,zE,zF]
 refine Zk.go [11,12,13,14,15,16,17,18,19,20,21] ?_
 iterate 11
  refine Zk.st (v:=?_) rfl ?_ ?_
  rotate_left 1
  ·intro w hSw;(try dsimp only at hSw);go_simp;try (with_reducible rfl)
  try simp only [Act.put,zA,zB,zC,zD,zE,zF]
 refine Zk.fin ?_
 refine Zk.rd (i:=22) rfl (fun K hK=>?_)
 go_simp
 refine (HI2.out _).mono ?_
 rintro d w3 ⟨rfl,hb3⟩
 have hS:=qA6 hHeld hb3
 refine hK.out _ _ hS (fun hHeld=>?_)
 clear hK K
 try simp only [Act.put,zA,zB,zC,zD,zE,zF]
 refine Zk.go [23,24] ?_
 iterate 2
  refine Zk.st (v:=?_) rfl ?_ ?_
  rotate_left 1
  ·intro w hSw;(try dsimp only at hSw);go_simp;try (with_reducible rfl)
  try simp only [Act.put,zA,zB,zC,zD,zE,zF]
 refine Zk.fin ?_
 refine wpAnyH_done (by kernel_rfl) ?_ _
 have B4:Hid (Below w.heap.size w w3):=B1.out.trans (hHeld.2.mono B1.out.size)
 clear hHeld hS hb2 hb3 x0 x1 x2 x3 y1 hbl1 hgl1 B1 HI1 HI2
 obtain ⟨x0,x1,x2,x3⟩:=(HB.out _ B4.out).1
 have hbl3:b < w3.heap.size:=Nat.lt_of_lt_of_le hbl B4.out.size
 go_upto_region 8 with fail
 go_cut [6,7] from 46 to 57 (fun s6 s7 W=>s7 = .bool false∧∃ (q:Nat) (sa:Option Addr) (sn sc:Nat) (la:Option Addr) (ln lc:Nat),s6 = .pointer (some ⟨q,0,none⟩)∧qW1 q [.int .i64 r.i,.int .i64 0,.slice sa sn sc,.slice la ln lc] W∧q < W.heap.size∧Below w.heap.size w W∧(∀ ls,op=some ls→qI8 W la ln ls))
 case first =>
  refine wp_region_held_drew (S:=fun w'=>(∀ b o,b < w3.heap.size→w'.cell? ⟨b,o,none⟩=w3.cell? ⟨b,o,none⟩)∧Below w3.heap.size w3 w') (by kernel_rfl) (qB5 _) (fun hHeld=>?_)
  refine Zk.go [0,1,2,3,4,5,6,7,8] ?_
  iterate 9
   refine Zk.st (v:=?_) rfl ?_ ?_
   rotate_left 1
   ·intro w hSw;(try dsimp only at hSw);go_simp;try (with_reducible rfl)
   try simp only [Act.put,zA,zB,zC,zD,zE,zF]
  refine Zk.fin ?_
  refine wpAnyH_ready (rs:=[9,13]) (by kernel_rfl) (by simp) ?_
  refine AllReadyH.cons rfl (fun K hK=>?_) (AllReadyH.cons rfl (fun K hK=>?_) AllReadyH.nil)
  ·go_simp
   refine (HPY.out _ (B4.out.trans (hHeld.2.mono B4.out.size))).mono ?_
   rintro d w5 ⟨sa,sn,sc,la,ln,lc,rfl,hb5,hR⟩
   have hS:=qA6 hHeld hb5
   have hs5:=hb5.size
   have hS5:=qC4 hS.2
   have HRR:=qC4 hR
   clear hR
   have hs5':w3.heap.size≤w5.heap.size:=hs5
   refine hK.out _ _ hS (fun hHeld=>?_)
   clear hK K
   try simp only [Act.put,zA,zB,zC,zD,zE,zF]
   refine Zk.go [10,11,12] ?_
   iterate 3
    refine Zk.st (v:=?_) rfl ?_ ?_
    rotate_left 1
    ·intro w hSw;(try dsimp only at hSw);go_simp;try (with_reducible rfl)
    try simp only [Act.put,zA,zB,zC,zD,zE,zF]
   refine Zk.fin ?_
   refine Zk.rd (i:=13) rfl (fun K hK=>?_)
   go_simp
   have hS:=kpN (hHeld.2.alloc hHeld.2.size (.cells #[.int .i64 0,.int .i64 0,.slice none 0 0,.slice none 0 0] 33))
   refine hK.out _ _ hS (fun hHeld=>?_)
   clear hK K
   try simp only [Act.put,zA,zB,zC,zD,zE,zF]
   refine Zk.rd (i:=14) rfl (fun K hK=>?_)
   go_simp
   have hS:=kpN (hS5.out.alloc hS5.out.size (.cells #[.int .i64 r.i,.int .i64 0,.slice sa sn sc,.slice la ln lc] 33))
   refine hK.out _ _ hS (fun hHeld=>?_)
   clear hK K
   try simp only [Act.put,zA,zB,zC,zD,zE,zF]
   refine Zk.rd (i:=15) rfl (fun K hK=>?_)
   go_simp
   refine hK.out _ _ (by assumption) (fun hHeld=>?_)
   clear hK K
   try simp only [Act.put,zA,zB,zC,zD,zE,zF]
   refine wpAnyH_done (by kernel_rfl) ?_ _
   go_wp2_with fail
   go_meet
   have AA:Below w5.heap.size w5 (w5.alloc (.cells #[.int .i64 r.i,.int .i64 0,.slice sa sn sc,.slice la ln lc] 33)):=zN
   exact ⟨rfl,w5.heap.size,sa,sn,sc,la,ln,lc,rfl,(qG3 w5 _ _).out,by simp,B4.out.trans (hS.2.mono B4.out.size),fun ls' e=>by obtain ⟨h1,h2⟩:=HRR.out ls' e;subst h1;exact LkV.isIn rfl (h2.below AA).view⟩
  ·go_simp
   have hS:=kpN (hHeld.2.alloc hHeld.2.size (.cells #[.int .i64 0,.int .i64 0,.slice none 0 0,.slice none 0 0] 33))
   refine hK.out _ _ hS (fun hHeld=>?_)
   clear hK K
   try simp only [Act.put,zA,zB,zC,zD,zE,zF]
   refine Zk.rd (i:=9) rfl (fun K hK=>?_)
   go_simp
   refine (HPY.out _ (B4.out.trans (hHeld.2.mono B4.out.size))).mono ?_
   rintro d w5 ⟨sa,sn,sc,la,ln,lc,rfl,hb5,hR⟩
   have hS:=qA6 hHeld hb5
   have hs5:=hb5.size
   have hS5:=qC4 hS.2
   have HRR:=qC4 hR
   clear hR
   have hs5':w3.heap.size+1≤w5.heap.size:=by simpa using hs5
   have XQ:qI3 w3.heap.size [.int .i64 0,.int .i64 0,.slice none 0 0,.slice none 0 0] w5:=qI3.below (qI5 w3.drew _ _) (by simp) hb5
   have z0:=XQ.1 0 _ rfl
   have z1:=XQ.1 1 _ rfl
   have z2:=XQ.1 2 _ rfl
   have z3:=XQ.1 3 _ rfl
   have f0:=XQ.2 0
   have f1:=XQ.2 1
   have f2:=XQ.2 2
   have f3:=XQ.2 3
   have hql:w3.heap.size < w5.heap.size:=hs5'
   refine hK.out _ _ hS (fun hHeld=>?_)
   clear hK K
   try simp only [Act.put,zA,zB,zC,zD,zE,zF]
   refine Zk.go [10,11,12] ?_
   iterate 3
    refine Zk.st (v:=?_) rfl ?_ ?_
    rotate_left 1
    ·intro w hSw;(try dsimp only at hSw);go_simp;try (with_reducible rfl)
    try simp only [Act.put,zA,zB,zC,zD,zE,zF]
   refine Zk.fin ?_
   refine Zk.rd (i:=14) rfl (fun K hK=>?_)
   go_simp
   have hS:=kpN ((((hHeld.2.setCell (p:=⟨w3.heap.size,0,none⟩) (Nat.le_refl _) (.int .i64 r.i)).setCell (p:=⟨w3.heap.size,1,none⟩) (Nat.le_refl _) (.int .i64 0)).setCell (p:=⟨w3.heap.size,2,none⟩) (Nat.le_refl _) (.slice sa sn sc)).setCell (p:=⟨w3.heap.size,3,none⟩) (Nat.le_refl _) (.slice la ln lc))
   refine hK.out _ _ hS (fun hHeld=>?_)
   clear hK K
   try simp only [Act.put,zA,zB,zC,zD,zE,zF]
   refine Zk.rd (i:=15) rfl (fun K hK=>?_)
   go_simp
   refine hK.out _ _ (by assumption) (fun hHeld=>?_)
   clear hK K
   try simp only [Act.put,zA,zB,zC,zD,zE,zF]
   refine wpAnyH_done (by kernel_rfl) ?_ _
   go_wp2_with fail
   go_meet
   exact ⟨rfl,w3.heap.size,sa,sn,sc,la,ln,lc,rfl,((((XQ.put 0 (by simp) _).put 1 (by simp) _).put 2 (by simp) _).put 3 (by simp) _).1,by simpa using hql,B4.out.trans (hS.2.mono B4.out.size),fun ls' e=>by obtain ⟨h1,h2⟩:=HRR.out ls' e;subst h1;exact lk_put4 h2 (by first | (simp;omega) | simp) _ _ _ _⟩
 clear x0 x1 x2 x3 hbl3 B4 HPY
 obtain ⟨rfl,q,sa,sn,sc,la,ln,lc,rfl,hQ,hql,hBq,hLq⟩:=hcut
 have B5:=qC4 hBq
 have q3:=hQ 3 _ rfl
 obtain ⟨x0,x1,x2,x3⟩:=(HB.out _ B5.out).1
 have hbl5:b < wc.heap.size:=Nat.lt_of_lt_of_le hbl B5.out.size
 go_upto_region 9 with fail
 go_quiet (fail)
 go_wp2_with fail
 go_ret
 exact ⟨rfl,bdN B5.out _⟩
theorem faultS_len (E:qH9) (b:Nat) (r:qH2) (a:Option Addr) (m cap:Nat) (cs:List qA4) (w:World) (hb:qF0 w b r) (hr:qE0 w r) (hle:qM3 1048576 r) (hc:qA7 w a m cs) (hcl:qF9 1048576 cs) (hm:m≤1048576) (hk:qB7 cs=0) (h1':inR r.i 1 (3 * f0C cs+1)=true) (h2:inR r.u 0 (r.sn:Int)=true) (hEC:qM4 E cs) (h40:r.sn≤40) (op:Option (List LkI)) (hop:qE8 E r.ss r.sn=op) (ls:List LkI) (hso:op=some ls) (hll:ls.length≤1048576) (hne:ls.length≠r.ln) :
  Calls Tryz.prog 33 #[.pointer (some ⟨b,0,none⟩),.slice a m cap] w fun d w'=>d = .returned (.int .i64 10)∧Below w.heap.size w w':=by
 have hsn:=hle.said
 have hln:=hle.locks
 have hsn':(r.sn:Int)≤1048576:=by omega
 have hln':(r.ln:Int)≤1048576:=by omega
 have HCF:Hid (Calls Tryz.prog 57 #[.slice a m cap] w fun e w'=>e = .returned (.int .i64 0)∧Below w.heap.size w w'):=by show Calls _ _ _ _ _;rw [← hk];exact qK8 a m cap cs w hm hcl hc
 have HB:Hid (∀ W,Below w.heap.size w W→qF0 W b r∧qE0 W r∧qA7 W a m cs):=fun W q=>⟨hb.below q,hr.below q,hc.below q⟩
 have hbl:b < w.heap.size:=hb.lt
 obtain ⟨hm1,hm8,hok⟩:=qV6 hk
 have hml:cs.length=m:=hc.len
 have hm0:0 < m:=by omega
 have hm0':(0:Int) < (m:Int):=by omega
 obtain ⟨g,off,c0,rfl,hc0,hat,_⟩:=hc.at hm0
 obtain ⟨v0,v1,v2,v3,v4⟩:=hat
 simp only [Nat.zero_mul,Nat.add_zero] at v0 v1 v2 v3 v4
 have hgl:g < w.heap.size:=zL w _ v0
 have hf0:f0C cs=c0.f:=by unfold f0C;rw [hc0];rfl
 have hff:1≤c0.f∧c0.f≤2:=f_of (hok 0 c0 hc0).1
 have hw1:IntKind.i64.wrap (3 * c0.f)=3 * c0.f:=QF0 (by omega) (by omega)
 have hw2:IntKind.i64.wrap (3 * c0.f+1)=3 * c0.f+1:=QF0 (by omega) (by omega)
 have V1:Hid (∀ W:World,Below w.heap.size w W→W.cell? ⟨g,off+1,none⟩=some (.int .i64 c0.f)):=fun W hb=>(hb.cell (p:=⟨g,off+1,none⟩) hgl).trans v1
 have h1:inR r.i 1 (3 * c0.f+1)=true:=by rw [← hf0];exact h1'
 have HI1:Hid (∀ W:World,Calls Tryz.prog 51 #[.int .i64 r.i,.int .i64 1,.int .i64 (3 * c0.f+1)] W fun e w'=>e = .returned (.bool true)∧Below W.heap.size W w'):=fun W=>by
  have q:=qL9 r.i 1 (3 * c0.f+1) W
  rw [show (decide (1≤r.i)&&decide (r.i≤3 * c0.f+1))=true from h1] at q
  exact q.mono fun e w' h=>⟨h.1,by rw [← h.2];exact Below.refl _ _⟩
 have HI2:Hid (∀ W:World,Calls Tryz.prog 51 #[.int .i64 r.u,.int .i64 0,.int .i64 (r.sn:Int)] W fun e w'=>e = .returned (.bool true)∧Below W.heap.size W w'):=fun W=>by
  have q:=qL9 r.u 0 (r.sn:Int) W
  rw [show (decide (0≤r.u)&&decide (r.u≤(r.sn:Int)))=true from h2] at q
  exact q.mono fun e w' h=>⟨h.1,by rw [← h.2];exact Below.refl _ _⟩
 clear h1 h1' h2 hf0
 have h40':(r.sn:Int)≤40:=by omega
 have HPY:Hid (∀ W:World,Below w.heap.size w W→Calls Tryz.prog 58 #[.int .i64 r.i,.slice (some ⟨g,off,none⟩) m cap,.slice r.sa r.sn r.sc] W fun d w'=>∃ (sa:Option Addr) (sn sc:Nat) (la:Option Addr) (ln lc:Nat),d = .returned (.tuple #[.agg #[.int .i64 r.i,.int .i64 0,.slice sa sn sc,.slice la ln lc],.bool true])∧Below W.heap.size W w'∧(∀ ls,op=some ls→ln=ls.length∧qB0 w' (W.heap.size+1) (.slice la ls.length lc) ls)):=fun W hb=>by
  refine (QR6 E r.i _ m cap cs r.sa r.sn r.sc r.ss W hEC (hc.below hb) hm0 (by omega) (hr.said.below hb) hsn).mono ?_
  rintro d w' ⟨g1,g2,g3⟩
  rw [hop] at g2 g3
  obtain ⟨sa,sc,la,lc,rfl,_,ho2⟩:=g2 ls hso
  exact ⟨sa,r.sn,sc,la,ls.length,lc,rfl,g1,fun ls' e=>by rw [hso] at e;cases e;exact ⟨rfl,ho2⟩⟩
 clear hop
 clear hEC
 clear hok v0 v1 v2 v3 v4 hc0 hff hml
 clear hb hr hc hcl hk hle
 go_enter Tryz.func33,Tryz.ntmps33
 go_wp2_with fail
 refine HCF.out.mono ?_
 rintro d w1 ⟨rfl,hb1⟩
 have B1:=qC4 hb1
 clear hb1 HCF
 obtain ⟨x0,x1,x2,x3⟩:=(HB.out _ B1.out).1
 have y1:=V1.out _ B1.out
 have hbl1:b < w1.heap.size:=Nat.lt_of_lt_of_le hbl B1.out.size
 have hgl1:g < w1.heap.size:=Nat.lt_of_lt_of_le hgl B1.out.size
 go_upto_region 4 with fail
 refine wp_region_held_drew (S:=fun w'=>(∀ b o,b < w1.heap.size→w'.cell? ⟨b,o,none⟩=w1.cell? ⟨b,o,none⟩)∧Below w1.heap.size w1 w') (by kernel_rfl) (qB5 _) (fun hHeld=>?_)
 refine Zk.go [0,1,2,3,4,5,6,7,8,9] ?_
 iterate 10
  refine Zk.st (v:=?_) rfl ?_ ?_
  rotate_left 1
  ·intro w hSw;(try dsimp only at hSw);go_simp;try (with_reducible rfl)
  try simp only [Act.put,zA,zB,zC,zD,zE,zF]
 refine Zk.fin ?_
 refine Zk.rd (i:=10) rfl (fun K hK=>?_)
 go_simp
 refine (HI1.out _).mono ?_
 rintro d w2 ⟨rfl,hb2⟩
 have hS:=qA6 hHeld hb2
 refine hK.out _ _ hS (fun hHeld=>?_)
 clear hK K
 try simp only [Act.put,zA,zB,zC,zD,zE,zF]
 refine Zk.go [11,12,13,14,15,16,17,18,19,20,21] ?_
 iterate 11
  refine Zk.st (v:=?_) rfl ?_ ?_
  rotate_left 1
  ·intro w hSw;(try dsimp only at hSw);go_simp;try (with_reducible rfl)
  try simp only [Act.put,zA,zB,zC,zD,zE,zF]
 refine Zk.fin ?_
 refine Zk.rd (i:=22) rfl (fun K hK=>?_)
 go_simp
 refine (HI2.out _).mono ?_
 rintro d w3 ⟨rfl,hb3⟩
 have hS:=qA6 hHeld hb3
 refine hK.out _ _ hS (fun hHeld=>?_)
 clear hK K
 try simp only [Act.put,zA,zB,zC,zD,zE,zF]
 refine Zk.go [23,24] ?_
 iterate 2
  refine Zk.st (v:=?_) rfl ?_ ?_
  rotate_left 1
  ·intro w hSw;(try dsimp only at hSw);go_simp;try (with_reducible rfl)
  try simp only [Act.put,zA,zB,zC,zD,zE,zF]
 refine Zk.fin ?_
 refine wpAnyH_done (by kernel_rfl) ?_ _
 have B4:Hid (Below w.heap.size w w3):=B1.out.trans (hHeld.2.mono B1.out.size)
 clear hHeld hS hb2 hb3 x0 x1 x2 x3 y1 hbl1 hgl1 B1 HI1 HI2
 obtain ⟨x0,x1,x2,x3⟩:=(HB.out _ B4.out).1
 have hbl3:b < w3.heap.size:=Nat.lt_of_lt_of_le hbl B4.out.size
 go_upto_region 8 with fail
 go_cut [6,7] from 46 to 57 (fun s6 s7 W=>s7 = .bool true∧∃ (q:Nat) (sa:Option Addr) (sn sc:Nat) (la:Option Addr) (ln lc:Nat),s6 = .pointer (some ⟨q,0,none⟩)∧qW1 q [.int .i64 r.i,.int .i64 0,.slice sa sn sc,.slice la ln lc] W∧q < W.heap.size∧Below w.heap.size w W∧(∀ ls,op=some ls→qI8 W la ln ls))
 case first =>
  refine wp_region_held_drew (S:=fun w'=>(∀ b o,b < w3.heap.size→w'.cell? ⟨b,o,none⟩=w3.cell? ⟨b,o,none⟩)∧Below w3.heap.size w3 w') (by kernel_rfl) (qB5 _) (fun hHeld=>?_)
  refine Zk.go [0,1,2,3,4,5,6,7,8] ?_
  iterate 9
   refine Zk.st (v:=?_) rfl ?_ ?_
   rotate_left 1
   ·intro w hSw;(try dsimp only at hSw);go_simp;try (with_reducible rfl)
   try simp only [Act.put,zA,zB,zC,zD,zE,zF]
  refine Zk.fin ?_
  refine wpAnyH_ready (rs:=[9,13]) (by kernel_rfl) (by simp) ?_
  refine AllReadyH.cons rfl (fun K hK=>?_) (AllReadyH.cons rfl (fun K hK=>?_) AllReadyH.nil)
  ·go_simp
   refine (HPY.out _ (B4.out.trans (hHeld.2.mono B4.out.size))).mono ?_
   rintro d w5 ⟨sa,sn,sc,la,ln,lc,rfl,hb5,hR⟩
   have hS:=qA6 hHeld hb5
   have hs5:=hb5.size
   have hS5:=qC4 hS.2
   have HRR:=qC4 hR
   clear hR
   have hs5':w3.heap.size≤w5.heap.size:=hs5
   refine hK.out _ _ hS (fun hHeld=>?_)
   clear hK K
   try simp only [Act.put,zA,zB,zC,zD,zE,zF]
   refine Zk.go [10,11,12] ?_
   iterate 3
    refine Zk.st (v:=?_) rfl ?_ ?_
    rotate_left 1
    ·intro w hSw;(try dsimp only at hSw);go_simp;try (with_reducible rfl)
    try simp only [Act.put,zA,zB,zC,zD,zE,zF]
   refine Zk.fin ?_
   refine Zk.rd (i:=13) rfl (fun K hK=>?_)
   go_simp
   have hS:=kpN (hHeld.2.alloc hHeld.2.size (.cells #[.int .i64 0,.int .i64 0,.slice none 0 0,.slice none 0 0] 33))
   refine hK.out _ _ hS (fun hHeld=>?_)
   clear hK K
   try simp only [Act.put,zA,zB,zC,zD,zE,zF]
   refine Zk.rd (i:=14) rfl (fun K hK=>?_)
   go_simp
   have hS:=kpN (hS5.out.alloc hS5.out.size (.cells #[.int .i64 r.i,.int .i64 0,.slice sa sn sc,.slice la ln lc] 33))
   refine hK.out _ _ hS (fun hHeld=>?_)
   clear hK K
   try simp only [Act.put,zA,zB,zC,zD,zE,zF]
   refine Zk.rd (i:=15) rfl (fun K hK=>?_)
   go_simp
   refine hK.out _ _ (by assumption) (fun hHeld=>?_)
   clear hK K
   try simp only [Act.put,zA,zB,zC,zD,zE,zF]
   refine wpAnyH_done (by kernel_rfl) ?_ _
   go_wp2_with fail
   go_meet
   have AA:Below w5.heap.size w5 (w5.alloc (.cells #[.int .i64 r.i,.int .i64 0,.slice sa sn sc,.slice la ln lc] 33)):=zN
   exact ⟨rfl,w5.heap.size,sa,sn,sc,la,ln,lc,rfl,(qG3 w5 _ _).out,by simp,B4.out.trans (hS.2.mono B4.out.size),fun ls' e=>by obtain ⟨h1,h2⟩:=HRR.out ls' e;subst h1;exact LkV.isIn rfl (h2.below AA).view⟩
  ·go_simp
   have hS:=kpN (hHeld.2.alloc hHeld.2.size (.cells #[.int .i64 0,.int .i64 0,.slice none 0 0,.slice none 0 0] 33))
   refine hK.out _ _ hS (fun hHeld=>?_)
   clear hK K
   try simp only [Act.put,zA,zB,zC,zD,zE,zF]
   refine Zk.rd (i:=9) rfl (fun K hK=>?_)
   go_simp
   refine (HPY.out _ (B4.out.trans (hHeld.2.mono B4.out.size))).mono ?_
   rintro d w5 ⟨sa,sn,sc,la,ln,lc,rfl,hb5,hR⟩
   have hS:=qA6 hHeld hb5
   have hs5:=hb5.size
   have hS5:=qC4 hS.2
   have HRR:=qC4 hR
   clear hR
   have hs5':w3.heap.size+1≤w5.heap.size:=by simpa using hs5
   have XQ:qI3 w3.heap.size [.int .i64 0,.int .i64 0,.slice none 0 0,.slice none 0 0] w5:=qI3.below (qI5 w3.drew _ _) (by simp) hb5
   have z0:=XQ.1 0 _ rfl
   have z1:=XQ.1 1 _ rfl
   have z2:=XQ.1 2 _ rfl
   have z3:=XQ.1 3 _ rfl
   have f0:=XQ.2 0
   have f1:=XQ.2 1
   have f2:=XQ.2 2
   have f3:=XQ.2 3
   have hql:w3.heap.size < w5.heap.size:=hs5'
   refine hK.out _ _ hS (fun hHeld=>?_)
   clear hK K
   try simp only [Act.put,zA,zB,zC,zD,zE,zF]
   refine Zk.go [10,11,12] ?_
   iterate 3
    refine Zk.st (v:=?_) rfl ?_ ?_
    rotate_left 1
    ·intro w hSw;(try dsimp only at hSw);go_simp;try (with_reducible rfl)
    try simp only [Act.put,zA,zB,zC,zD,zE,zF]
   refine Zk.fin ?_
   refine Zk.rd (i:=14) rfl (fun K hK=>?_)
   go_simp
   have hS:=kpN ((((hHeld.2.setCell (p:=⟨w3.heap.size,0,none⟩) (Nat.le_refl _) (.int .i64 r.i)).setCell (p:=⟨w3.heap.size,1,none⟩) (Nat.le_refl _) (.int .i64 0)).setCell (p:=⟨w3.heap.size,2,none⟩) (Nat.le_refl _) (.slice sa sn sc)).setCell (p:=⟨w3.heap.size,3,none⟩) (Nat.le_refl _) (.slice la ln lc))
   refine hK.out _ _ hS (fun hHeld=>?_)
   clear hK K
   try simp only [Act.put,zA,zB,zC,zD,zE,zF]
   refine Zk.rd (i:=15) rfl (fun K hK=>?_)
   go_simp
   refine hK.out _ _ (by assumption) (fun hHeld=>?_)
   clear hK K
   try simp only [Act.put,zA,zB,zC,zD,zE,zF]
   refine wpAnyH_done (by kernel_rfl) ?_ _
   go_wp2_with fail
   go_meet
   exact ⟨rfl,w3.heap.size,sa,sn,sc,la,ln,lc,rfl,((((XQ.put 0 (by simp) _).put 1 (by simp) _).put 2 (by simp) _).put 3 (by simp) _).1,by simpa using hql,B4.out.trans (hS.2.mono B4.out.size),fun ls' e=>by obtain ⟨h1,h2⟩:=HRR.out ls' e;subst h1;exact lk_put4 h2 (by first | (simp;omega) | simp) _ _ _ _⟩
 clear x0 x1 x2 x3 hbl3 B4 HPY
 obtain ⟨rfl,q,sa,sn,sc,la,ln,lc,rfl,hQ,hql,hBq,hLq⟩:=hcut
 have B5:=qC4 hBq
 have q3:=hQ 3 _ rfl
 obtain ⟨x0,x1,x2,x3⟩:=(HB.out _ B5.out).1
 have hbl5:b < wc.heap.size:=Nat.lt_of_lt_of_le hbl B5.out.size
 obtain rfl:ls.length=ln:=(hLq ls hso).1
 have hnb:((ls.length:Int) != (r.ln:Int))=true:=by simp;omega
 go_upto_region 9 with fail
 go_quiet (fail)
 go_wp2_with fail
 go_ret
 exact ⟨rfl,bdN B5.out _⟩
theorem faultS_cmp (E:qH9) (b:Nat) (r:qH2) (a:Option Addr) (m cap:Nat) (cs:List qA4) (w:World) (hb:qF0 w b r) (hr:qE0 w r) (hle:qM3 1048576 r) (hc:qA7 w a m cs) (hcl:qF9 1048576 cs) (hm:m≤1048576) (hk:qB7 cs=0) (h1':inR r.i 1 (3 * f0C cs+1)=true) (h2:inR r.u 0 (r.sn:Int)=true) (hEC:qM4 E cs) (h40:r.sn≤40) (op:Option (List LkI)) (hop:qE8 E r.ss r.sn=op) (ls:List LkI) (hso:op=some ls) (hll:ls.length≤1048576) (heq:ls.length=r.ln) (t:Int) (ht:(if ls=r.ls then 0 else 10)=t) :
  Calls Tryz.prog 33 #[.pointer (some ⟨b,0,none⟩),.slice a m cap] w fun d w'=>d = .returned (.int .i64 t)∧Below w.heap.size w w':=by
 have hsn:=hle.said
 have hln:=hle.locks
 have hsn':(r.sn:Int)≤1048576:=by omega
 have hln':(r.ln:Int)≤1048576:=by omega
 have HCF:Hid (Calls Tryz.prog 57 #[.slice a m cap] w fun e w'=>e = .returned (.int .i64 0)∧Below w.heap.size w w'):=by show Calls _ _ _ _ _;rw [← hk];exact qK8 a m cap cs w hm hcl hc
 have HB:Hid (∀ W,Below w.heap.size w W→qF0 W b r∧qE0 W r∧qA7 W a m cs):=fun W q=>⟨hb.below q,hr.below q,hc.below q⟩
 have hbl:b < w.heap.size:=hb.lt
 obtain ⟨hm1,hm8,hok⟩:=qV6 hk
 have hml:cs.length=m:=hc.len
 have hm0:0 < m:=by omega
 have hm0':(0:Int) < (m:Int):=by omega
 obtain ⟨g,off,c0,rfl,hc0,hat,_⟩:=hc.at hm0
 obtain ⟨v0,v1,v2,v3,v4⟩:=hat
 simp only [Nat.zero_mul,Nat.add_zero] at v0 v1 v2 v3 v4
 have hgl:g < w.heap.size:=zL w _ v0
 have hf0:f0C cs=c0.f:=by unfold f0C;rw [hc0];rfl
 have hff:1≤c0.f∧c0.f≤2:=f_of (hok 0 c0 hc0).1
 have hw1:IntKind.i64.wrap (3 * c0.f)=3 * c0.f:=QF0 (by omega) (by omega)
 have hw2:IntKind.i64.wrap (3 * c0.f+1)=3 * c0.f+1:=QF0 (by omega) (by omega)
 have V1:Hid (∀ W:World,Below w.heap.size w W→W.cell? ⟨g,off+1,none⟩=some (.int .i64 c0.f)):=fun W hb=>(hb.cell (p:=⟨g,off+1,none⟩) hgl).trans v1
 have h1:inR r.i 1 (3 * c0.f+1)=true:=by rw [← hf0];exact h1'
 have HI1:Hid (∀ W:World,Calls Tryz.prog 51 #[.int .i64 r.i,.int .i64 1,.int .i64 (3 * c0.f+1)] W fun e w'=>e = .returned (.bool true)∧Below W.heap.size W w'):=fun W=>by
  have q:=qL9 r.i 1 (3 * c0.f+1) W
  rw [show (decide (1≤r.i)&&decide (r.i≤3 * c0.f+1))=true from h1] at q
  exact q.mono fun e w' h=>⟨h.1,by rw [← h.2];exact Below.refl _ _⟩
 have HI2:Hid (∀ W:World,Calls Tryz.prog 51 #[.int .i64 r.u,.int .i64 0,.int .i64 (r.sn:Int)] W fun e w'=>e = .returned (.bool true)∧Below W.heap.size W w'):=fun W=>by
  have q:=qL9 r.u 0 (r.sn:Int) W
  rw [show (decide (0≤r.u)&&decide (r.u≤(r.sn:Int)))=true from h2] at q
  exact q.mono fun e w' h=>⟨h.1,by rw [← h.2];exact Below.refl _ _⟩
 clear h1 h1' h2 hf0
 have h40':(r.sn:Int)≤40:=by omega
 have HPY:Hid (∀ W:World,Below w.heap.size w W→Calls Tryz.prog 58 #[.int .i64 r.i,.slice (some ⟨g,off,none⟩) m cap,.slice r.sa r.sn r.sc] W fun d w'=>∃ (sa:Option Addr) (sn sc:Nat) (la:Option Addr) (ln lc:Nat),d = .returned (.tuple #[.agg #[.int .i64 r.i,.int .i64 0,.slice sa sn sc,.slice la ln lc],.bool true])∧Below W.heap.size W w'∧(∀ ls,op=some ls→ln=ls.length∧qB0 w' (W.heap.size+1) (.slice la ls.length lc) ls)):=fun W hb=>by
  refine (QR6 E r.i _ m cap cs r.sa r.sn r.sc r.ss W hEC (hc.below hb) hm0 (by omega) (hr.said.below hb) hsn).mono ?_
  rintro d w' ⟨g1,g2,g3⟩
  rw [hop] at g2 g3
  obtain ⟨sa,sc,la,lc,rfl,_,ho2⟩:=g2 ls hso
  exact ⟨sa,r.sn,sc,la,ls.length,lc,rfl,g1,fun ls' e=>by rw [hso] at e;cases e;exact ⟨rfl,ho2⟩⟩
 clear hop
 have HT:Hid ((if ls=r.ls then (0:Int) else 10)=t):=ht
 clear hEC ht
 clear hok v0 v1 v2 v3 v4 hc0 hff hml
 clear hb hr hc hcl hk hle
 go_enter Tryz.func33,Tryz.ntmps33
 go_wp2_with fail
 refine HCF.out.mono ?_
 rintro d w1 ⟨rfl,hb1⟩
 have B1:=qC4 hb1
 clear hb1 HCF
 obtain ⟨x0,x1,x2,x3⟩:=(HB.out _ B1.out).1
 have y1:=V1.out _ B1.out
 have hbl1:b < w1.heap.size:=Nat.lt_of_lt_of_le hbl B1.out.size
 have hgl1:g < w1.heap.size:=Nat.lt_of_lt_of_le hgl B1.out.size
 go_upto_region 4 with fail
 refine wp_region_held_drew (S:=fun w'=>(∀ b o,b < w1.heap.size→w'.cell? ⟨b,o,none⟩=w1.cell? ⟨b,o,none⟩)∧Below w1.heap.size w1 w') (by kernel_rfl) (qB5 _) (fun hHeld=>?_)
 refine Zk.go [0,1,2,3,4,5,6,7,8,9] ?_
 iterate 10
  refine Zk.st (v:=?_) rfl ?_ ?_
  rotate_left 1
  ·intro w hSw;(try dsimp only at hSw);go_simp;try (with_reducible rfl)
  try simp only [Act.put,zA,zB,zC,zD,zE,zF]
 refine Zk.fin ?_
 refine Zk.rd (i:=10) rfl (fun K hK=>?_)
 go_simp
 refine (HI1.out _).mono ?_
 rintro d w2 ⟨rfl,hb2⟩
 have hS:=qA6 hHeld hb2
 refine hK.out _ _ hS (fun hHeld=>?_)
 clear hK K
 try simp only [Act.put,zA,zB,zC,zD,zE,zF]
 refine Zk.go [11,12,13,14,15,16,17,18,19,20,21] ?_
 iterate 11
  refine Zk.st (v:=?_) rfl ?_ ?_
  rotate_left 1
  ·intro w hSw;(try dsimp only at hSw);go_simp;try (with_reducible rfl)
  try simp only [Act.put,zA,zB,zC,zD,zE,zF]
 refine Zk.fin ?_
 refine Zk.rd (i:=22) rfl (fun K hK=>?_)
 go_simp
 refine (HI2.out _).mono ?_
 rintro d w3 ⟨rfl,hb3⟩
 have hS:=qA6 hHeld hb3
 refine hK.out _ _ hS (fun hHeld=>?_)
 clear hK K
 try simp only [Act.put,zA,zB,zC,zD,zE,zF]
 refine Zk.go [23,24] ?_
 iterate 2
  refine Zk.st (v:=?_) rfl ?_ ?_
  rotate_left 1
  ·intro w hSw;(try dsimp only at hSw);go_simp;try (with_reducible rfl)
  try simp only [Act.put,zA,zB,zC,zD,zE,zF]
 refine Zk.fin ?_
 refine wpAnyH_done (by kernel_rfl) ?_ _
 have B4:Hid (Below w.heap.size w w3):=B1.out.trans (hHeld.2.mono B1.out.size)
 clear hHeld hS hb2 hb3 x0 x1 x2 x3 y1 hbl1 hgl1 B1 HI1 HI2
 obtain ⟨x0,x1,x2,x3⟩:=(HB.out _ B4.out).1
 have hbl3:b < w3.heap.size:=Nat.lt_of_lt_of_le hbl B4.out.size
 go_upto_region 8 with fail
 go_cut [6,7] from 46 to 57 (fun s6 s7 W=>s7 = .bool true∧∃ (q:Nat) (sa:Option Addr) (sn sc:Nat) (la:Option Addr) (ln lc:Nat),s6 = .pointer (some ⟨q,0,none⟩)∧qW1 q [.int .i64 r.i,.int .i64 0,.slice sa sn sc,.slice la ln lc] W∧q < W.heap.size∧Below w.heap.size w W∧(∀ ls,op=some ls→qI8 W la ln ls))
 case first =>
  refine wp_region_held_drew (S:=fun w'=>(∀ b o,b < w3.heap.size→w'.cell? ⟨b,o,none⟩=w3.cell? ⟨b,o,none⟩)∧Below w3.heap.size w3 w') (by kernel_rfl) (qB5 _) (fun hHeld=>?_)
  refine Zk.go [0,1,2,3,4,5,6,7,8] ?_
  iterate 9
   refine Zk.st (v:=?_) rfl ?_ ?_
   rotate_left 1
   ·intro w hSw;(try dsimp only at hSw);go_simp;try (with_reducible rfl)
   try simp only [Act.put,zA,zB,zC,zD,zE,zF]
  refine Zk.fin ?_
  refine wpAnyH_ready (rs:=[9,13]) (by kernel_rfl) (by simp) ?_
  refine AllReadyH.cons rfl (fun K hK=>?_) (AllReadyH.cons rfl (fun K hK=>?_) AllReadyH.nil)
  ·go_simp
   refine (HPY.out _ (B4.out.trans (hHeld.2.mono B4.out.size))).mono ?_
   rintro d w5 ⟨sa,sn,sc,la,ln,lc,rfl,hb5,hR⟩
   have hS:=qA6 hHeld hb5
   have hs5:=hb5.size
   have hS5:=qC4 hS.2
   have HRR:=qC4 hR
   clear hR
   have hs5':w3.heap.size≤w5.heap.size:=hs5
   refine hK.out _ _ hS (fun hHeld=>?_)
   clear hK K
   try simp only [Act.put,zA,zB,zC,zD,zE,zF]
   refine Zk.go [10,11,12] ?_
   iterate 3
    refine Zk.st (v:=?_) rfl ?_ ?_
    rotate_left 1
    ·intro w hSw;(try dsimp only at hSw);go_simp;try (with_reducible rfl)
    try simp only [Act.put,zA,zB,zC,zD,zE,zF]
   refine Zk.fin ?_
   refine Zk.rd (i:=13) rfl (fun K hK=>?_)
   go_simp
   have hS:=kpN (hHeld.2.alloc hHeld.2.size (.cells #[.int .i64 0,.int .i64 0,.slice none 0 0,.slice none 0 0] 33))
   refine hK.out _ _ hS (fun hHeld=>?_)
   clear hK K
   try simp only [Act.put,zA,zB,zC,zD,zE,zF]
   refine Zk.rd (i:=14) rfl (fun K hK=>?_)
   go_simp
   have hS:=kpN (hS5.out.alloc hS5.out.size (.cells #[.int .i64 r.i,.int .i64 0,.slice sa sn sc,.slice la ln lc] 33))
   refine hK.out _ _ hS (fun hHeld=>?_)
   clear hK K
   try simp only [Act.put,zA,zB,zC,zD,zE,zF]
   refine Zk.rd (i:=15) rfl (fun K hK=>?_)
   go_simp
   refine hK.out _ _ (by assumption) (fun hHeld=>?_)
   clear hK K
   try simp only [Act.put,zA,zB,zC,zD,zE,zF]
   refine wpAnyH_done (by kernel_rfl) ?_ _
   go_wp2_with fail
   go_meet
   have AA:Below w5.heap.size w5 (w5.alloc (.cells #[.int .i64 r.i,.int .i64 0,.slice sa sn sc,.slice la ln lc] 33)):=zN
   exact ⟨rfl,w5.heap.size,sa,sn,sc,la,ln,lc,rfl,(qG3 w5 _ _).out,by simp,B4.out.trans (hS.2.mono B4.out.size),fun ls' e=>by obtain ⟨h1,h2⟩:=HRR.out ls' e;subst h1;exact LkV.isIn rfl (h2.below AA).view⟩
  ·go_simp
   have hS:=kpN (hHeld.2.alloc hHeld.2.size (.cells #[.int .i64 0,.int .i64 0,.slice none 0 0,.slice none 0 0] 33))
   refine hK.out _ _ hS (fun hHeld=>?_)
   clear hK K
   try simp only [Act.put,zA,zB,zC,zD,zE,zF]
   refine Zk.rd (i:=9) rfl (fun K hK=>?_)
   go_simp
   refine (HPY.out _ (B4.out.trans (hHeld.2.mono B4.out.size))).mono ?_
   rintro d w5 ⟨sa,sn,sc,la,ln,lc,rfl,hb5,hR⟩
   have hS:=qA6 hHeld hb5
   have hs5:=hb5.size
   have hS5:=qC4 hS.2
   have HRR:=qC4 hR
   clear hR
   have hs5':w3.heap.size+1≤w5.heap.size:=by simpa using hs5
   have XQ:qI3 w3.heap.size [.int .i64 0,.int .i64 0,.slice none 0 0,.slice none 0 0] w5:=qI3.below (qI5 w3.drew _ _) (by simp) hb5
   have z0:=XQ.1 0 _ rfl
   have z1:=XQ.1 1 _ rfl
   have z2:=XQ.1 2 _ rfl
   have z3:=XQ.1 3 _ rfl
   have f0:=XQ.2 0
   have f1:=XQ.2 1
   have f2:=XQ.2 2
   have f3:=XQ.2 3
   have hql:w3.heap.size < w5.heap.size:=hs5'
   refine hK.out _ _ hS (fun hHeld=>?_)
   clear hK K
   try simp only [Act.put,zA,zB,zC,zD,zE,zF]
   refine Zk.go [10,11,12] ?_
   iterate 3
    refine Zk.st (v:=?_) rfl ?_ ?_
    rotate_left 1
    ·intro w hSw;(try dsimp only at hSw);go_simp;try (with_reducible rfl)
    try simp only [Act.put,zA,zB,zC,zD,zE,zF]
   refine Zk.fin ?_
   refine Zk.rd (i:=14) rfl (fun K hK=>?_)
   go_simp
   have hS:=kpN ((((hHeld.2.setCell (p:=⟨w3.heap.size,0,none⟩) (Nat.le_refl _) (.int .i64 r.i)).setCell (p:=⟨w3.heap.size,1,none⟩) (Nat.le_refl _) (.int .i64 0)).setCell (p:=⟨w3.heap.size,2,none⟩) (Nat.le_refl _) (.slice sa sn sc)).setCell (p:=⟨w3.heap.size,3,none⟩) (Nat.le_refl _) (.slice la ln lc))
   refine hK.out _ _ hS (fun hHeld=>?_)
   clear hK K
   try simp only [Act.put,zA,zB,zC,zD,zE,zF]
   refine Zk.rd (i:=15) rfl (fun K hK=>?_)
   go_simp
   refine hK.out _ _ (by assumption) (fun hHeld=>?_)
   clear hK K
   try simp only [Act.put,zA,zB,zC,zD,zE,zF]
   refine wpAnyH_done (by kernel_rfl) ?_ _
   go_wp2_with fail
   go_meet
   exact ⟨rfl,w3.heap.size,sa,sn,sc,la,ln,lc,rfl,((((XQ.put 0 (by simp) _).put 1 (by simp) _).put 2 (by simp) _).put 3 (by simp) _).1,by simpa using hql,B4.out.trans (hS.2.mono B4.out.size),fun ls' e=>by obtain ⟨h1,h2⟩:=HRR.out ls' e;subst h1;exact lk_put4 h2 (by first | (simp;omega) | simp) _ _ _ _⟩
 clear x0 x1 x2 x3 hbl3 B4 HPY
 obtain ⟨rfl,q,sa,sn,sc,la,ln,lc,rfl,hQ,hql,hBq,hLq⟩:=hcut
 have B5:=qC4 hBq
 have q3:=hQ 3 _ rfl
 obtain ⟨x0,x1,x2,x3⟩:=(HB.out _ B5.out).1
 have hbl5:b < wc.heap.size:=Nat.lt_of_lt_of_le hbl B5.out.size
 obtain rfl:ls.length=ln:=(hLq ls hso).1
 have HL1:Hid (qI8 wc la ls.length ls):=hLq ls hso
 have HL2:Hid (qI8 wc r.la r.ln r.ls):=(HB.out _ B5.out).2.1.locks
 have HRL:Hid (r.ls.length=r.ln):=HL2.out.1
 have hnb:((ls.length:Int) != (r.ln:Int))=false:=by simp [heq]
 have hll':(ls.length:Int)≤1048576:=by omega
 have HQ:Hid (∀ q',(wc.drewN q').cell? ⟨q,3,none⟩=some (.slice la ls.length lc)∧(wc.drewN q').cell? ⟨b,3,none⟩=some (.slice r.la r.ln r.lc)):=fun q'=>⟨q3,x3⟩
 have HEQ:Hid (ls.length=r.ln):=heq
 go_upto_region 9 with fail
 go_quiet (fail)
 clear heq hLq
 go_wp2_with fail
 go_loopw [8] (fun j wr=>∃ k:Nat,k≤ls.length∧j = .int .i64 (k:Int)∧ls.take k=r.ls.take k∧∃ q',wr=wc.drewN q') (fun j _=>ls.length - (intOf j).toNat)
 case atStart=>exact ⟨0,Nat.zero_le _,rfl,by simp,_,rfl⟩
 case round =>
  obtain ⟨k,hk,rfl,htk,q',rfl⟩:=hrel
  have HTK:Hid (ls.take k=r.ls.take k):=htk
  clear htk
  by_cases hlt:k < ls.length
  ·obtain ⟨b1,o1,s,e1,hs,hr1,hb1⟩:=HL1.out.at hlt
   obtain ⟨b2,o2,s2,e2,hs2,hr2,hb2⟩:=HL2.out.at (by rw [← HEQ.out];exact hlt)
   have HE1:Hid (la=some ⟨b1,o1,none⟩):=e1
   have HE2:Hid (r.la=some ⟨b2,o2,none⟩):=e2
   have q3':wc.cell? ⟨q,3,none⟩=some (.slice (some ⟨b1,o1,none⟩) ls.length lc):=by rw [← e1];exact q3
   have x3':wc.cell? ⟨b,3,none⟩=some (.slice (some ⟨b2,o2,none⟩) r.ln r.lc):=by rw [← e2];exact x3
   have HS:Hid (ls[k]? = some s):=hs
   have HS2:Hid (r.ls[k]? = some s2):=hs2
   clear hs hs2 e1 e2 q3 x3
   obtain ⟨h0,h1,h2,h3⟩:=hr1
   obtain ⟨g0,g1,g2,g3⟩:=hr2
   have hlt':(k:Int) < (ls.length:Int):=by omega
   have hlt2:(k:Int) < (r.ln:Int):=by have:=HEQ.out;omega
   by_cases hsame:s=s2
   ·have HN:Hid (ls.take (k+1)=r.ls.take (k+1)):=by
     show ls.take (k+1)=r.ls.take (k+1)
     rw [List.take_add_one,List.take_add_one,HTK.out,HS.out,HS2.out,hsame]
    have hd:decide (s=s2)=true:=decide_eq_true hsame
    clear hsame
    go_wp2_with fail
    go_quiet (fail)
    go_wp2_with fail
    exact ⟨⟨k+1,by omega,by go_num,HN.out,_,rfl⟩,by simp [intOf];omega⟩
   ·have HE:Hid (t=10):=by
     show t=10
     rw [← HT.out]
     refine if_neg (fun e=>hsame ?_)
     have h1:=HS.out
     rw [e,HS2.out] at h1
     exact (Option.some.inj h1).symm
    have hd:decide (s=s2)=false:=decide_eq_false hsame
    clear hsame
    go_wp2_with fail
    go_quiet (fail)
    go_wp2_with fail
    go_ret
    exact ⟨by rw [HE.out];rfl,bdN (bdN B5.out _) _⟩
  ·have hkn:k=ls.length:=by omega
   subst hkn
   have HE:Hid (t=0):=by
    show t=0
    rw [← HT.out]
    refine if_pos ?_
    have:=HTK.out
    rw [List.take_length,HEQ.out,← HRL.out,List.take_length] at this
    exact this
   go_wp2_with fail
   go_ret
   exact ⟨by rw [HE.out];rfl,bdN B5.out _⟩
end

theorem l8Fault_c (E:qH9) (b:Nat) (r:qH2) (a:Option Addr) (m cap:Nat) (cs:List qA4) (w:World) (hb:qF0 w b r) (hr:qE0 w r) (hle:qM3 1048576 r) (hc:qA7 w a m cs) (hcl:qF9 1048576 cs) (hm:m≤1048576) (hEC:qB7 cs=0→qM4 E cs) :
  Calls Tryz.prog 33 #[.pointer (some ⟨b,0,none⟩),.slice a m cap] w fun d w'=>d = .returned (.int .i64 (qM8 E cs r))∧Below w.heap.size w w':=by
 unfold qM8
 by_cases hk:qB7 cs=0
 ·rw [if_pos hk]
  cases h1:inR r.i 1 (3 * f0C cs+1)
  ·have e:qH4 (f0C cs) r=false:=by unfold qH4;rw [h1];rfl
   rw [e,if_neg (by decide)]
   exact faultS_id E b r a m cap cs w hb hr hle hc hcl hm hk h1
  ·cases h2:inR r.u 0 (r.sn:Int)
   ·have e:qH4 (f0C cs) r=false:=by unfold qH4;rw [h1,h2];rfl
    rw [e,if_neg (by decide)]
    exact faultS_sure E b r a m cap cs w hb hr hle hc hcl hm hk h1 h2
   ·have e:qH4 (f0C cs) r=true:=by unfold qH4;rw [h1,h2];rfl
    rw [e,if_pos rfl]
    by_cases h40:40 < r.sn
    ·rw [if_pos h40]
     exact faultS_many E b r a m cap cs w hb hr hle hc hcl hm hk h1 h2 h40
    ·rw [if_neg h40]
     cases ho:qE8 E r.ss r.sn with
     | none =>
      rw [if_neg (by intro q;cases q)]
      exact faultS_none E b r a m cap cs w hb hr hle hc hcl hm hk h1 h2 (hEC hk) (by omega) _ ho rfl
     | some ls =>
      have hll:ls.length≤1048576:=play_len r.sn ls ho (by rw [hr.said.1];exact Nat.le_refl _)
      by_cases hle':ls.length=r.ln
      ·have q:=faultS_cmp E b r a m cap cs w hb hr hle hc hcl hm hk h1 h2 (hEC hk) (by omega) _ ho ls rfl hll hle' _ rfl
       by_cases e:ls=r.ls
       ·rw [if_pos (by rw [e])]
        rw [if_pos e] at q
        exact q
       ·rw [if_neg (fun q=>e (Option.some.inj q))]
        rw [if_neg e] at q
        exact q
      ·rw [if_neg (fun q=>hle' (by rw [Option.some.inj q];exact hr.locks.1))]
       exact faultS_len E b r a m cap cs w hb hr hle hc hcl hm hk h1 h2 (hEC hk) (by omega) _ ho ls rfl hll hle'
 ·rw [if_neg hk]
  exact faultS_conf E b r a m cap cs w hb hr hle hc hcl hm _ rfl hk
theorem QB2 (E:qH9) (r:qH2) (a:Option Addr) (m cap:Nat) (cs:List qA4) (w:World) (hr:qE0 w r) (hle:qM3 1048576 r) (hc:qA7 w a m cs) (hcl:qF9 1048576 cs) (hm:m≤1048576) (hEC:qB7 cs=0→qM4 E cs) :
  Calls Tryz.prog 10 #[.agg #[.int .i64 r.i,.int .i64 r.u,.slice r.sa r.sn r.sc,.slice r.la r.ln r.lc],.slice a m cap] w fun d w'=>d = .returned (.int .i64 (qM8 E cs r))∧Below w.heap.size w w':=by
 obtain ⟨V,hV⟩:∃ V,V=w.alloc (.cells #[.int .i64 r.i,.int .i64 r.u,.slice r.sa r.sn r.sc,.slice r.la r.ln r.lc] 33):=⟨_,rfl⟩
 have BV:Hid (Below w.heap.size w V):=by show Below _ _ _;rw [hV];exact zN
 have XV:qF0 V w.heap.size r:=by rw [hV];exact qF0.new w r _
 obtain ⟨k,hk⟩:∃ k,qM8 E cs r=k:=⟨_,rfl⟩
 have HF:Hid (Calls Tryz.prog 33 #[.pointer (some ⟨w.heap.size,0,none⟩),.slice a m cap] V fun d w'=>d = .returned (.int .i64 k)∧Below V.heap.size V w'):=by
  show Calls _ _ _ _ _
  rw [← hk]
  exact l8Fault_c E _ r a m cap cs V XV (hr.below BV.out) hle (hc.below BV.out) hcl hm hEC
 rw [hk]
 clear XV hk hr hle hc hcl hEC
 go_enter Tryz.func10,Tryz.ntmps10
 go_upto_region 1 with fail
 rw [← hV]
 clear hV
 go_wp2_with fail
 refine HF.out.mono ?_
 rintro d w1 ⟨rfl,hb1⟩
 have B1:=qC4 (BV.out.trans (hb1.mono BV.out.size))
 clear hb1
 go_wp2_with fail
 go_ret
 exact ⟨rfl,B1.out⟩
theorem env_of {cs:List qA4} (hcl:qF9 1048576 cs):∃ E:qH9,qB7 cs=0→qM4 E cs:=by
 by_cases hk:qB7 cs=0
 ·have hok:=(qV6 hk).2.2
  have hg:∀ p:Nat,∃ gs:List GrI,∀ c,cs[p]? = some c→QH0 c.zs gs:=fun p=>by
   cases h:cs[p]? with
   | none=>exact ⟨[],fun c e=>by cases e⟩
   | some c =>
    obtain ⟨gs,q⟩:=all_some c.zs (QE1 (hok p c h).1).2.2.1
    exact ⟨gs,fun c' e=>by cases e;exact q⟩
  refine ⟨⟨cs.map (·.e),fun p f s=>alW (qA2 (cs[p]?.getD default).fs) (Classical.choose (hg p)) f s,fun p=>(cs[p]?.getD default).cs⟩,fun _=>⟨rfl,fun p c hc=>⟨⟨hcl.le p c hc,(hcl.rc p c hc).1,(hcl.rc p c hc).2,(hok p c hc).1⟩,Classical.choose (hg p),Classical.choose_spec (hg p) c hc,fun f s=>?_,?_⟩⟩⟩
  ·show alW (qA2 (cs[p]?.getD default).fs) _ f s=_
   have e:cs[p]?.getD default=c:=by rw [hc];rfl
   rw [e]
  ·show (cs[p]?.getD default).cs=c.cs
   rw [hc]
   rfl
 ·exact ⟨⟨[],fun _ _ _=>false,fun _=>[]⟩,fun q=>absurd q hk⟩

theorem qO9.env {cs ds:List qA4} {E:qH9} (h:qO9 cs ds) (hE:qM4 E cs) (hl:qF9 1048576 ds):qM4 E ds:=by
 refine ⟨?_,fun p d hd=>?_⟩
 ·rw [hE.es]
  refine List.ext_getElem? (fun j=>?_)
  rw [List.getElem?_map,List.getElem?_map]
  cases e:ds[j]? with
  | none =>
   have : ds.length≤j:=by simpa using e
   rw [List.getElem?_eq_none (by rw [← h.ln];exact this)]
  | some d =>
   obtain ⟨c,hc,hs⟩:=h.get e
   rw [hc]
   simp [hs.e]
 ·obtain ⟨c,hc,hs⟩:=h.get hd
  obtain ⟨⟨_,_,_,h4⟩,gs,g1,g2,g3⟩:=hE.cf p c hc
  exact ⟨⟨hl.le p d hd,(hl.rc p d hd).1,(hl.rc p d hd).2,(QZ8 hs).trans h4⟩,gs,by rw [hs.zs];exact g1,fun f s=>by rw [hs.ps];exact g2 f s,by rw [hs.cs];exact g3⟩
theorem QE3 {E:qH9} {cs ds:List qA4} {w:World} {L:Nat} {r y:qH2} (h:qO9 cs ds) (hy:QC7 w L r y):qM8 E ds y=qM8 E cs r:=by
 unfold qM8 qH4 f0C
 rw [h.cfs,h.f0,hy.i,hy.u,hy.sn,hy.ss,hy.ls]
theorem eqCopies {L L':Nat} {r y z:qH2} (w:World) (hy:QC7 w L r y) (hz:QC7 w L' r z) (hl:r.ss.length=r.sn∧r.ls.length=r.ln) (hle:qM3 1048576 r) :
  Calls Tryz.prog 14 #[.agg #[.int .i64 y.i,.int .i64 y.u,.slice y.sa y.sn y.sc,.slice y.la y.ln y.lc],.agg #[.int .i64 z.i,.int .i64 z.u,.slice z.sa z.sn z.sc,.slice z.la z.ln z.lc]] w fun e w'=>e = .returned (.bool true)∧Below w.heap.size w w':=by
 have i1:=hy.isIn hl.1 hl.2
 have i2:=hz.isIn hl.1 hl.2
 have a1:=i1.said
 have a2:=i2.said
 have b1:=i1.locks
 have b2:=i2.locks
 rw [hy.sn,hy.ss] at a1
 rw [hz.sn,hz.ss] at a2
 rw [hy.ln,hy.ls] at b1
 rw [hz.ln,hz.ls] at b2
 rw [hy.i,hz.i,hy.u,hz.u,hy.sn,hz.sn,hy.ln,hz.ln]
 exact QM9 r.i r.u y.sa z.sa r.sn y.sc z.sc r.ss y.la z.la r.ln y.lc z.lc r.ls w hle.said hle.locks a1 a2 b1 b2
structure RF (w:World) (r:qH2) (a:Option Addr) (n:Nat) (cs:List qA4) (W:World):Prop where
 bl:Below w.heap.size w W
 lt:w.heap.size < W.heap.size
 bx:qW1 w.heap.size [.int .i64 r.i,.int .i64 r.u,.slice r.sa r.sn r.sc,.slice r.la r.ln r.lc] W
 ri:qE0 W r
 ci:qA7 W a n cs
 er:qO2 0 W
 hh:qE3 W
theorem RF.below {w:World} {r:qH2} {a:Option Addr} {n:Nat} {cs:List qA4} {W W':World} (h:RF w r a n cs W) (hb:Below W.heap.size W W'):RF w r a n cs W' :=
 ⟨h.bl.trans (hb.mono h.bl.size),Nat.lt_of_lt_of_le h.lt hb.size,((qW1.hold h.bx h.lt).below hb).out,h.ri.below hb,h.ci.below hb,h.er.below hb,h.hh.below hb⟩
theorem QM4 (r:qH2) (a:Option Addr) (n cap:Nat) (cs:List qA4) (w:World) (hr:qE0 w r∧qM3 maxLen r) (hc:QG9 w a n cs) (hE:qO2 0 w∧qE3 w) :
  Calls Tryz.prog 3 #[.agg #[.int .i64 r.i,.int .i64 r.u,.slice r.sa r.sn r.sc,.slice r.la r.ln r.lc],.slice a n cap] w fun e w'=>e = .returned (.bool true)∧Below w.heap.size w w':=by
 obtain ⟨V,hV⟩:∃ V,V=w.alloc (.cells #[.int .i64 r.i,.int .i64 r.u,.slice r.sa r.sn r.sc,.slice r.la r.ln r.lc] 25):=⟨_,rfl⟩
 have A0:Below w.heap.size w V:=by rw [hV];exact zN
 have F0:Hid (RF w r a n cs V):=⟨A0,by rw [hV];simp,by rw [hV];exact (qG3 w _ _).out,hr.1.below A0,hc.1.below A0,hE.1.below A0,hE.2.below A0⟩
 have HRL:Hid (qM3 maxLen r):=hr.2
 have HCL:Hid (n≤maxLen∧∀ (k:Nat) c,cs[k]? = some c→qD3 maxLen c):=hc.2
 clear hr hc hE A0
 go_enter Tryz.func3,Tryz.ntmps3
 go_upto_region 2 with fail
 rw [← hV]
 clear hV
 have v0:=F0.out.bx 0 _ rfl
 have v1:=F0.out.bx 1 _ rfl
 have v2:=F0.out.bx 2 _ rfl
 have v3:=F0.out.bx 3 _ rfl
 have hvl:=F0.out.lt
 go_wp2_with fail
 refine (szReplica_c r 1048576 _ HRL.out (by omega) (by omega)).mono ?_
 rintro e w1 ⟨⟨s1,rfl,hs1,hs2⟩,hb1⟩
 have F1:=qC4 (F0.out.below hb1)
 clear hb1 F0 v0 v1 v2 v3 hvl
 by_cases hneg:s1 < 0
 ·go_wp2_with fail
  go_ret
  exact ⟨rfl,F1.out.bl⟩
 ·obtain ⟨hsn,hln⟩:=hs2 (by omega)
  have hge:0≤s1:=by omega
  go_wp2_with fail
  refine (szConfigs_c a n cap cs s1 _ HCL.out.1 HCL.out.2 hge (by omega) F1.out.ci).mono ?_
  rintro e w2 ⟨⟨s2,rfl,hs3,hs4⟩,hb2⟩
  have F2:=qC4 (F1.out.below hb2)
  clear hb2 F1
  by_cases hneg2:s2 < 0
  ·go_wp2_with fail
   go_ret
   exact ⟨rfl,F2.out.bl⟩
  ·obtain ⟨hnl,hcl0⟩:=hs4 (by omega)
   have hge2:0≤s2:=by omega
   have hn:n≤1048576:=by omega
   have hcl:∀ (k:Nat) c,cs[k]? = some c→qD3 1048576 c:=fun k c e=>QL2 (hcl0 k c e) (by omega)
   have HCC:Hid (∀ (k:Nat) c,cs[k]? = some c→qD3 1048576 c):=hcl
   have hrl:qM3 1048576 r:=⟨by omega,by omega⟩
   have hlen:cs.length=n:=F2.out.ci.len
   have HRL2:Hid (qM3 1048576 r):=hrl
   have HLEN:Hid (cs.length=n):=hlen
   clear hs4 hcl0 hcl hrl hlen hs2 HRL HCL
   have v0:=F2.out.bx 0 _ rfl
   have v1:=F2.out.bx 1 _ rfl
   have v2:=F2.out.bx 2 _ rfl
   have v3:=F2.out.bx 3 _ rfl
   have hvl:=F2.out.lt
   go_wp2_with fail
   refine (qZ5 r _ HRL2.out F2.out.ri).mono ?_
   rintro e w3 ⟨y1,L1,rfl,hL1,hy1,hb3⟩
   have F3:=qC4 (F2.out.below hb3)
   have Y3:=qC4 hy1
   clear hb3 F2 v0 v1 v2 v3 hvl hy1
   go_wp2_with fail
   refine (qZ6 a n cap cs _ hn HCC.out F3.out.ci).mono ?_
   rintro e w4 ⟨rfl,ds1,hd1⟩
   have F4:=qC4 (F3.out.below hd1.bl)
   have Y4:=qC4 (Y3.out.below hd1.bl)
   have D4:=qC4 hd1
   clear hd1 F3 Y3
   obtain ⟨E,hE1⟩:=env_of (D4.out.le hn F4.out.ci HCC.out)
   have HE1:Hid (qB7 ds1=0→qM4 E ds1):=hE1
   obtain ⟨k,hk⟩:∃ k,qM8 E cs r=k:=⟨_,rfl⟩
   have HK:Hid (qM8 E cs r=k):=hk
   have hsl:r.ss.length=r.sn∧r.ls.length=r.ln:=⟨F4.out.ri.said.1,F4.out.ri.locks.1⟩
   have HSL:Hid (r.ss.length=r.sn∧r.ls.length=r.ln):=hsl
   have HSP:Hid (Calls Tryz.prog 10 #[.agg #[.int .i64 y1.i,.int .i64 y1.u,.slice y1.sa y1.sn y1.sc,.slice y1.la y1.ln y1.lc],.slice (some ⟨w3.heap.size,0,none⟩) n n] w4 fun d w'=>d = .returned (.int .i64 k)∧Below w4.heap.size w4 w'):=by
    show Calls _ _ _ _ _
    rw [← hk,← QE3 (E:=E) (D4.out.same HLEN.out) Y4.out]
    exact QB2 E y1 _ n n ds1 w4 (Y4.out.isIn hsl.1 hsl.2) ⟨by rw [Y4.out.sn];exact HRL2.out.said,by rw [Y4.out.ln];exact HRL2.out.locks⟩ D4.out.isIn (D4.out.le hn F4.out.ci HCC.out) hn HE1.out
   clear hE1 hk hsl
   go_wp2_with fail
   refine HSP.out.mono ?_
   rintro e w5 ⟨rfl,hb5⟩
   have F5:=qC4 (F4.out.below hb5)
   have HD1:Hid (qO9 cs ds1):=D4.out.same HLEN.out
   clear hb5 F4 Y4 D4 HSP
   have v0:=F5.out.bx 0 _ rfl
   have v1:=F5.out.bx 1 _ rfl
   have v2:=F5.out.bx 2 _ rfl
   have v3:=F5.out.bx 3 _ rfl
   have hvl:=F5.out.lt
   go_wp2_with fail
   refine (qZ5 r _ HRL2.out F5.out.ri).mono ?_
   rintro e w6 ⟨y2,L2,rfl,hL2,hy2,hb6⟩
   obtain ⟨Z,hZ⟩:∃ Z,Z=w6.alloc (.cells #[.int .i64 y2.i,.int .i64 y2.u,.slice y2.sa y2.sn y2.sc,.slice y2.la y2.ln y2.lc] 33):=⟨_,rfl⟩
   have AZ:Below w6.heap.size w6 Z:=by rw [hZ];exact zN
   have F7:=qC4 ((F5.out.below hb6).below AZ)
   have Y7:=qC4 (hy2.below AZ)
   have X7:Hid (qW1 w6.heap.size [.int .i64 y2.i,.int .i64 y2.u,.slice y2.sa y2.sn y2.sc,.slice y2.la y2.ln y2.lc] Z∧w6.heap.size < Z.heap.size):=by rw [hZ];exact ⟨(qG3 w6 _ _).out,by simp⟩
   clear hb6 hy2 AZ F5 v0 v1 v2 v3 hvl
   go_upto_region 10 with fail
   rw [← hZ]
   clear hZ
   generalize w6.heap.size=q7 at X7 ⊢
   go_wp2_with fail
   refine (qZ6 a n cap cs _ hn HCC.out F7.out.ci).mono ?_
   rintro e w8 ⟨rfl,ds2,hd2⟩
   have F8:=qC4 (F7.out.below hd2.bl)
   have Y8:=qC4 (Y7.out.below hd2.bl)
   have X8:Hid (qW1 q7 [.int .i64 y2.i,.int .i64 y2.u,.slice y2.sa y2.sn y2.sc,.slice y2.la y2.ln y2.lc] w8∧q7 < w8.heap.size):=⟨((qW1.hold X7.out.1 X7.out.2).below hd2.bl).out,Nat.lt_of_lt_of_le X7.out.2 hd2.bl.size⟩
   have D8:=qC4 hd2
   have HD2:Hid (qO9 cs ds2):=hd2.same HLEN.out
   clear hd2 F7 Y7 X7
   have HIP:Hid (Calls Tryz.prog 13 #[.agg #[.int .i64 y2.i,.int .i64 y2.u,.slice y2.sa y2.sn y2.sc,.slice y2.la y2.ln y2.lc],.slice (some ⟨Z.heap.size,0,none⟩) n n] w8 fun d w'=>d = .returned (.int .i64 k)∧Below w8.heap.size w8 w'):=by
    show Calls _ _ _ _ _
    rw [← HK.out,← QE3 (E:=E) HD2.out Y8.out]
    refine QC3 E y2 _ n n ds2 w8 (Y8.out.isIn HSL.out.1 HSL.out.2) ⟨by rw [Y8.out.sn];exact HRL2.out.said,by rw [Y8.out.ln];exact HRL2.out.locks⟩ D8.out.isIn (D8.out.le hn F8.out.ci HCC.out) hn F8.out.er F8.out.hh (fun q=>?_)
    exact qO9.env (cs:=ds1) ⟨by rw [HD1.out.ln,HD2.out.ln],QN9 HD1.out HD2.out⟩ (HE1.out (by rw [HD1.out.cfs,← HD2.out.cfs];exact q)) (D8.out.le hn F8.out.ci HCC.out)
   have q0:=X8.out.1 0 _ rfl
   have q1:=X8.out.1 1 _ rfl
   have q2:=X8.out.1 2 _ rfl
   have q3:=X8.out.1 3 _ rfl
   have hq8:=X8.out.2
   go_wp2_with fail
   refine HIP.out.mono ?_
   rintro e w9 ⟨rfl,hb9⟩
   have F9:=qC4 (F8.out.below hb9)
   have Y9:=qC4 (Y8.out.below hb9)
   have X9:Hid (qW1 q7 [.int .i64 y2.i,.int .i64 y2.u,.slice y2.sa y2.sn y2.sc,.slice y2.la y2.ln y2.lc] w9∧q7 < w9.heap.size):=⟨((qW1.hold X8.out.1 X8.out.2).below hb9).out,Nat.lt_of_lt_of_le X8.out.2 hb9.size⟩
   have D9:=qC4 (D8.out.below hb9)
   clear hb9 F8 Y8 X8 D8 HIP q0 q1 q2 q3 hq8
   go_upto_region 14 with fail
   have v0:=F9.out.bx 0 _ rfl
   have v1:=F9.out.bx 1 _ rfl
   have v2:=F9.out.bx 2 _ rfl
   have v3:=F9.out.bx 3 _ rfl
   have hvl:=F9.out.lt
   have q0:=X9.out.1 0 _ rfl
   have q1:=X9.out.1 1 _ rfl
   have q2:=X9.out.1 2 _ rfl
   have q3:=X9.out.1 3 _ rfl
   have hq9:=X9.out.2
   refine wp_region_held_drew (S:=fun w'=>(∀ b o,b < w9.heap.size→w'.cell? ⟨b,o,none⟩=w9.cell? ⟨b,o,none⟩)∧Below w9.heap.size w9 w') (by kernel_rfl) (qB5 _) (fun hHeld=>?_)
   refine Zk.go [0,1] ?_
   iterate 2
    refine Zk.st (v:=?_) rfl ?_ ?_
    rotate_left 1
    ·intro w hSw;(try dsimp only at hSw);go_simp;try (with_reducible rfl)
    try simp only [Act.put,zA,zB,zC,zD,zE,zF]
   refine Zk.fin ?_
   refine Zk.rd (i:=2) rfl (fun K hK=>?_)
   go_simp
   refine (qZ5 r _ HRL2.out (F9.out.below hHeld.2).ri).mono ?_
   rintro d wA ⟨y3,L3,rfl,hL3,hy3,hbA⟩
   have hS:=qA6 hHeld hbA
   have Y3:=qC4 hy3
   clear hy3
   refine hK.out _ _ hS (fun hHeld=>?_)
   clear hK K
   try simp only [Act.put,zA,zB,zC,zD,zE,zF]
   refine Zk.rd (i:=3) rfl (fun K hK=>?_)
   go_simp
   refine (eqCopies _ (Y9.out.below hHeld.2) Y3.out HSL.out HRL2.out).mono ?_
   rintro d wB ⟨rfl,hbB⟩
   have hS:=qA6 hHeld hbB
   refine hK.out _ _ hS (fun hHeld=>?_)
   clear hK K
   try simp only [Act.put,zA,zB,zC,zD,zE,zF]
   refine Zk.go [4] ?_
   refine Zk.st (v:=?_) rfl ?_ ?_
   rotate_left 1
   ·intro w hSw;(try dsimp only at hSw);go_simp;try (with_reducible rfl)
   try simp only [Act.put,zA,zB,zC,zD,zE,zF]
   refine Zk.fin ?_
   refine wpAnyH_done (by kernel_rfl) ?_ _
   have F10:=qC4 (F9.out.below hS.2)
   have D10:=qC4 (D9.out.below hS.2)
   clear hHeld hS v0 v1 v2 v3 hvl q0 q1 q2 q3 hq9 X9 Y9 D9 F9
   go_wp2_with fail
   refine (qZ6 a n cap cs _ hn HCC.out F10.out.ci).mono ?_
   rintro e w11 ⟨rfl,ds3,hd3⟩
   have F11:=qC4 (F10.out.below hd3.bl)
   have D11:=qC4 (D10.out.below hd3.bl)
   have D3:=qC4 hd3
   clear hd3 F10 D10
   go_wp2_with fail
   refine (QN0 _ _ n n n ds2 ds3 _ hn (D11.out.le hn F11.out.ci HCC.out).le (fun j c d e1 e2=>QN9 HD2.out (D3.out.same HLEN.out) j c d e1 e2) D11.out.isIn D3.out.isIn).mono ?_
   rintro e w12 ⟨rfl,hb12⟩
   have B12:=qC4 ((F11.out.below hb12).bl)
   clear hb12
   go_wp2_with fail
   go_ret
   exact ⟨rfl,B12.out⟩

end Go.Proofs.YtlhgjackapdmbaaGreatDoor
