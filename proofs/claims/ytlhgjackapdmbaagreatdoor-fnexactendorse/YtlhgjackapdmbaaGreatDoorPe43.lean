/- Contracts. -/
import Derived.Test.YtlhgjackapdmbaaGreatDoorPe38
namespace Go.Proofs.YtlhgjackapdmbaaGreatDoor
set_option maxRecDepth 100000
set_option maxHeartbeats 8000000
open Go.RowKit
set_option linter.unusedVariables false
set_option linter.unusedSimpArgs false

theorem cinQ_c (v lo hi:Int) (t:Bool) (h:inR v lo hi=t) (w:World):Calls Tryz.prog 51 #[.int .i64 v,.int .i64 lo,.int .i64 hi] w fun e w'=>e = .returned (.bool t)∧w'=w:=by
 rw [← h]
 exact (qX8 v lo hi w).mono fun e w' hh=>⟨hh.1,hh.2.symm⟩
theorem setQ_c (v:Int) (t:Bool) (h:qQ9 v=t) (w:World):Calls Tryz.prog 124 #[.int .i64 v] w fun e w'=>e = .returned (.bool t)∧w'=w:=by
 rw [← h]
 exact (l1Set_c v w).mono fun e w' hh=>⟨hh.1,hh.2.symm⟩

theorem QR6 (g o:Nat) (c:qA5) (gs:List GrI) (f s:Int) (w:World) (hle:qD7 1048576 c) (hk:qI9 w g o c) (h:qF7 w c) (hg:QJ0 c.zs gs) (hpol:qC7 c.zs=0) (hpt:∀ (k:Nat) (x:List qD0),(qA6 c.fs)[k]? = some x→qN3 x=0) :
  Calls Tryz.prog 98 #[.pointer (some ⟨g,o,none⟩),.int .i64 f,.int .i64 s] w fun e w'=>e = .returned (.bool (alW (qA6 c.fs) gs f s))∧Below w.heap.size w w':=by
 have HZ:Hid ((qA6 c.fs).length=c.fn):=by show (qA6 c.fs).length=c.fn;rw [QA0];exact h.forms.1
 have hfn:(c.fn:Int)≤1048576:=by have:=hle.forms;omega
 have hgl:=hk.lt
 obtain ⟨k0,k1,k2,k3,k4⟩:=hk
 cases q1:inR f 1 (c.fn:Int)
 ·have HV:Hid (alW (qA6 c.fs) gs f s=false):=alW_out (by rw [HZ.out];exact q1)
  rw [HV.out]
  have HQ:Hid (inR f 1 (c.fn:Int)=false):=q1
  clear q1 h hle hg hpol hpt
  go_enter Tryz.func98,Tryz.ntmps98
  go_wp2
  go_quiet ((go_at_call 51;exact Calls.quiet_of_same (cinQ_c _ _ _ false HQ.out _)))
  go_wp2
  go_ret
  exact ⟨rfl,below_drewN (Below.refl _ _) _⟩
 ·obtain ⟨f1,f2⟩:=(qG9 _ _ _).1 q1
  have HQ:Hid (inR f 1 (c.fn:Int)=true):=q1
  cases q2:qQ9 s
  ·have HV:Hid (alW (qA6 c.fs) gs f s=false):=alW_set q2
   rw [HV.out]
   have HQ2:Hid (qQ9 s=false):=q2
   clear q1 q2 h hle hg hpol hpt
   go_enter Tryz.func98,Tryz.ntmps98
   go_wp2
   go_quiet ((first | (go_at_call 51;exact Calls.quiet_of_same (cinQ_c _ _ _ true HQ.out _)) | (go_at_call 124;exact Calls.quiet_of_same (setQ_c _ false HQ2.out _))))
   go_wp2
   go_ret
   exact ⟨rfl,below_drewN (Below.refl _ _) _⟩
  ·have HQ2:Hid (qQ9 s=true):=q2
   obtain ⟨k,rfl⟩:∃ k:Nat,f=(k:Int)+1:=⟨(f - 1).toNat,by omega⟩
   have hk:k < c.fn:=by omega
   have hk':(k:Int)+1≤(c.fn:Int):=by omega
   have hk2:(k:Int) < (c.fn:Int):=by omega
   have hjw:IntKind.i64.wrap ((k:Int)+1 - 1)=(k:Int):=by rw [IntKind.wrap_i64];omega
   have hjw2:IntKind.i64.wrap (k:Int)=(k:Int):=by rw [IntKind.wrap_i64];omega
   obtain ⟨x,rfl⟩:∃ x:Nat,s=(x:Int):=⟨s.toNat,by simp [qQ9] at q2;omega⟩
   have hx:x < 256:=by simp [qQ9] at q2;omega
   have hx':(x:Int) < 256:=by omega
   obtain ⟨b,off,p,hfa,hs,hr⟩:=h.forms.at hk
   have HV:Hid (alW (qA6 c.fs) gs ((k:Int)+1) (x:Int)=qS2 (ofG gs) p.ps x):=by
    show alW _ _ _ _=_
    rw [alW_in (qV2 hs),q2,Bool.true_and,Int.toNat_natCast]
   rw [HV.out]
   obtain ⟨T,hT⟩:∃ T,qS2 (ofG gs) p.ps=T:=⟨_,rfl⟩
   have HT:Hid (∀ w':World,((∀ b o,b < w.heap.size→w'.cell? ⟨b,o,none⟩=w.cell? ⟨b,o,none⟩)∧Below w.heap.size w w')→Calls Tryz.prog 125 #[.slice c.ra c.rn c.rc,.slice p.a p.n p.cap] w' fun e w''=>∃ g,e = .returned (.slice (some ⟨g,0,none⟩) 256 256)∧qY0 w'' g T∧Below w'.heap.size w' w''):=fun w' q=>by rw [← hT];exact l4Sets_c c.ra c.rn c.rc c.zs p.a p.n p.cap p.ps gs w' (h.rules.below q.2) hpol hg (hr.below q.2).2 (hpt k _ (qV2 hs))
   rw [hT]
   have hc:=hr.1
   have hbl:=hr.lt
   rw [hfa] at k3
   clear q1 q2 h hle hg hpol hpt hs hr hfa hT f1 f2 k0 k1 k4
   go_enter Tryz.func98,Tryz.ntmps98
   go_wp2
   refine wp_region_held_drew (S:=fun w'=>(∀ b o,b < w.heap.size→w'.cell? ⟨b,o,none⟩=w.cell? ⟨b,o,none⟩)∧Below w.heap.size w w') (by kernel_rfl) (qB4 _) (fun hHeld=>?_)
   refine Zk.go [0,1,2,3,4,5] ?_
   iterate 6
    refine Zk.st (v:=?_) rfl ?_ ?_
    rotate_left 1
    ·intro w hSw;(try dsimp only at hSw);go_simp;try (with_reducible rfl)
    try simp only [Act.put,zA,zB,zC,zD,zE,zF]
   refine Zk.fin ?_
   refine Zk.rd (i:=6) rfl (fun K hK=>?_)
   go_simp
   refine (cinQ_c _ _ _ true HQ.out _).mono ?_
   rintro e wA ⟨rfl,rfl⟩
   have hS:=hHeld
   refine hK.out _ _ hS (fun hHeld=>?_)
   clear hK K
   try simp only [Act.put,zA,zB,zC,zD,zE,zF]
   refine Zk.go [7,8] ?_
   iterate 2
    refine Zk.st (v:=?_) rfl ?_ ?_
    rotate_left 1
    ·intro w hSw;(try dsimp only at hSw);go_simp;try (with_reducible rfl)
    try simp only [Act.put,zA,zB,zC,zD,zE,zF]
   refine Zk.fin ?_
   refine Zk.rd (i:=9) rfl (fun K hK=>?_)
   go_simp
   refine (setQ_c _ true HQ2.out _).mono ?_
   rintro e wB ⟨rfl,rfl⟩
   have hS:=hHeld
   refine hK.out _ _ hS (fun hHeld=>?_)
   clear hK K
   try simp only [Act.put,zA,zB,zC,zD,zE,zF]
   refine Zk.go [10,11,12,13,14,15,16,17,18,19,20,21,22,23,24,26] ?_
   iterate 16
    refine Zk.st (v:=?_) rfl ?_ ?_
    rotate_left 1
    ·intro w hSw;(try dsimp only at hSw);go_simp;try (with_reducible rfl)
    try simp only [Act.put,zA,zB,zC,zD,zE,zF]
   refine Zk.fin ?_
   refine Zk.rd (i:=25) rfl (fun K hK=>?_)
   go_simp
   refine (HT.out _ hHeld).mono ?_
   rintro e wC ⟨g',rfl,hrow,hbC⟩
   have cx:=hrow x hx
   have hgl':=hrow.lt
   have hS:=qA0 hHeld hbC
   clear hrow
   refine hK.out _ _ hS (fun hHeld=>?_)
   clear hK K
   try simp only [Act.put,zA,zB,zC,zD,zE,zF]
   refine Zk.go [27] ?_
   refine Zk.st (v:=?_) rfl ?_ ?_
   rotate_left 1
   ·intro w hSw;(try dsimp only at hSw);go_simp;try (with_reducible rfl)
   try simp only [Act.put,zA,zB,zC,zD,zE,zF]
   refine Zk.fin ?_
   refine Zk.rd (i:=28) rfl (fun K hK=>?_)
   go_simp
   refine hK.out _ _ hS (fun hHeld=>?_)
   clear hK K
   try simp only [Act.put,zA,zB,zC,zD,zE,zF]
   refine Zk.go [29] ?_
   refine Zk.st (v:=?_) rfl ?_ ?_
   rotate_left 1
   ·intro w hSw;(try dsimp only at hSw);go_simp;try (with_reducible rfl)
   try simp only [Act.put,zA,zB,zC,zD,zE,zF]
   refine Zk.fin ?_
   refine Zk.rd (i:=30) rfl (fun K hK=>?_)
   go_simp
   refine hK.out _ _ (by assumption) (fun hHeld=>?_)
   clear hK K
   try simp only [Act.put,zA,zB,zC,zD,zE,zF]
   refine wpAnyH_done (by kernel_rfl) ?_ _
   go_wp2
   go_ret
   exact ⟨rfl,hHeld.2⟩

end Go.Proofs.YtlhgjackapdmbaaGreatDoor
