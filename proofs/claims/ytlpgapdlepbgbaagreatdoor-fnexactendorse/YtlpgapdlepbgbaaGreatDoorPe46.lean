/- Contracts. -/
import Derived.Test.YtlpgapdlepbgbaaGreatDoorPe43
import Derived.Test.YtlpgapdlepbgbaaGreatDoorPe45
namespace Go.Proofs.YtlpgapdlepbgbaaGreatDoor
set_option maxRecDepth 100000
set_option maxHeartbeats 8000000
open Go.RowKit
set_option linter.unusedVariables false
set_option linter.unusedSimpArgs false

theorem QT3 (E:qI1) (r:qH4) (a:Option Addr) (m cap:Nat) (cs:List qA4) (x:StI) (w:World) (hr:qE3 w r) (hN:qK0 r) (hsm:∀ p,r.la=some p→∃ b0 o0,p=⟨b0,o0,none⟩∧b0 < w.heap.size) (hle:qL7 1048576 r) (hc:qA7 w a m cs) (hcl:qF5 1048576 cs) (hm:m≤1048576) (hEC:qB8 cs=0→qO2 E cs) :
  Calls Tryz.prog 16 #[.agg #[.int .i64 r.i,.int .i64 r.u,.slice r.sa r.sn r.sc,.slice r.la r.ln r.lc],.slice a m cap,.agg #[.int .i64 x.k,.int .i64 x.e,.int .i64 x.f,.int .i64 x.s,.int .i64 x.n]] w fun d w'=>RepA (qJ9 E cs r x) r.i r.u (qI6 r.ss x) (qG5 E r.ss r.ls x) w d w':=by
 obtain ⟨V,hV⟩:∃ V,V=((w.alloc (.cells #[.int .i64 r.i,.int .i64 r.u,.slice r.sa r.sn r.sc,.slice r.la r.ln r.lc] 33)).alloc (.cells #[.int .i64 x.k,.int .i64 x.e,.int .i64 x.f,.int .i64 x.s,.int .i64 x.n] 45)).alloc (.cells #[.int .i64 0,.int .i64 0,.int .i64 0,.slice none 0 0,.slice none 0 0] 43):=⟨_,rfl⟩
 have Z0:Hid (EV w r x V):=by show EV _ _ _ _;rw [hV];exact EV.new w r x
 obtain ⟨k,hk⟩:∃ k,qM3 E cs r=k:=⟨_,rfl⟩
 obtain ⟨S,hS⟩:∃ S,qI6 r.ss x=S:=⟨_,rfl⟩
 obtain ⟨L,hL⟩:∃ L,qG5 E r.ss r.ls x=L:=⟨_,rfl⟩
 obtain ⟨K,hK⟩:∃ K,qJ9 E cs r x=K:=⟨_,rfl⟩
 have HF:Hid (Calls Tryz.prog 33 #[.pointer (some ⟨w.heap.size,0,none⟩),.slice a m cap] V fun d w'=>d = .returned (.int .i64 k)∧Below V.heap.size V w'):=by
  show Calls _ _ _ _ _
  rw [← hk]
  exact l8Fault_c E _ r a m cap cs V Z0.out.rb (hr.below Z0.out.bl) hle (hc.below Z0.out.bl) hcl hm hEC
 have HEN:Hid (k=0→∀ W,EV w r x W→Calls Tryz.prog 41 #[.agg #[.int .i64 r.i,.int .i64 r.u,.slice r.sa r.sn r.sc,.slice r.la r.ln r.lc],.slice a m cap,.agg #[.int .i64 x.k,.int .i64 x.e,.int .i64 x.f,.int .i64 x.s,.int .i64 x.n]] W fun d w'=>EndS r K S L W d w'):=fun q W hW=>by
  obtain ⟨q1,q2⟩:=rep_ok (hk.trans q)
  have c1:=qU0 q1
  have hl:=hc.len
  have p:=QF3 r.sn r.ls (by rw [hr.said.1];exact Nat.le_refl _) q2
  rw [List.take_of_length_le (by rw [hr.said.1];exact Nat.le_refl _)] at p
  have z:=QG3 E r a m cap cs x W (hr.below hW.bl) hN (fun p' e=>by obtain ⟨b0,o0,e1,h1⟩:=hsm p' e;exact ⟨b0,o0,e1,Nat.lt_of_lt_of_le h1 hW.bl.size⟩) (hc.below hW.bl) (hEC q1) (by omega) (by omega) p
  have e:qE2 E r.ss r.ls x=K:=by rw [← hK];unfold qJ9;rw [hk,if_pos q]
  rw [e,hS,hL] at z
  exact z
 have HK3:Hid (k≠0→K=k):=fun q=>by rw [← hK];unfold qJ9;rw [hk,if_neg q]
 rw [hK,hS,hL]
 have hxa:=Z0.out.xa
 clear hk hr hN hsm hle hc hcl hEC hK hS hL hxa
 go_enter Tryz.func16,Tryz.ntmps16
 go_upto_region 1 with fail
 rw [← hV]
 clear hV
 go_wp2_with fail
 refine HF.out.mono ?_
 rintro d w1 ⟨rfl,hb1⟩
 have Z1:=qC8 (Z0.out.below hb1)
 clear hb1 Z0 HF
 by_cases hk:k=0
 ·have HE2:=qC8 (HEN.out hk w1 Z1.out)
  subst hk
  obtain ⟨v0,v1,v2,v3⟩:=Z1.out.rb
  obtain ⟨x0,x1,x2,x3,x4⟩:=Z1.out.xa
  simp only [Nat.zero_add] at x0 x1 x2 x3 x4
  have hvl:w.heap.size < w1.heap.size:=by have:=Z1.out.lt;omega
  have hxl:w.heap.size+1 < w1.heap.size:=by have:=Z1.out.lt;omega
  go_wp2_with fail
  refine HE2.out.mono ?_
  rintro d w2 ⟨hb2,h1,h2⟩
  have Z2:=qC8 (Z1.out.below hb2)
  have hs1:=Z1.out.lt
  have hs0:=Z1.out.bl.size
  clear hb2 Z1 HE2 HEN v0 v1 v2 v3 x0 x1 x2 x3 x4 hvl hxl
  have z0:=Z2.out.rs.1 0 _ rfl
  have z1:=Z2.out.rs.1 1 _ rfl
  have z2:=Z2.out.rs.1 2 _ rfl
  have z3:=Z2.out.rs.1 3 _ rfl
  have z4:=Z2.out.rs.1 4 _ rfl
  have f0:=Z2.out.rs.2 0
  have f1:=Z2.out.rs.2 1
  have f2:=Z2.out.rs.2 2
  have f3:=Z2.out.rs.2 3
  have f4:=Z2.out.rs.2 4
  have hzl:=Z2.out.lt
  by_cases hK0:K=0
  ·obtain ⟨sa,sc,la,lc,rfl,ho1,ho2⟩:=h2 hK0
   subst hK0
   have O1:=qC8 ho1
   have O2:=qC8 ho2
   clear h1 h2 ho1 ho2
   go_wp2_with fail
   refine bodyPost_ret (v:=.agg #[.int .i64 0,.int .i64 r.i,.int .i64 r.u,.slice sa S.length sc,.slice la L.length lc]) (by simp [results,Tryz.results16,go_sem,z0,z1,z2,z3,z4,hzl]) rfl ?_
   refine ⟨((((Z2.out.bl.setCell (by show w.heap.size≤w.heap.size+2;omega) _).setCell (by show w.heap.size≤w.heap.size+2;omega) _).setCell (by show w.heap.size≤w.heap.size+2;omega) _).setCell (by show w.heap.size≤w.heap.size+2;omega) _).setCell (by show w.heap.size≤w.heap.size+2;omega) _,fun q=>absurd rfl q,fun _=>⟨sa,sc,la,lc,rfl,qA2 (qC5 O1.out hs0) (fun g e=>?_),qA2 (qA9 O2.out hs0) (fun g e=>?_)⟩⟩
   ·obtain ⟨cur,hcc,hgg⟩:=qD4 O1.out e
    rw [Below.heap_setCell _ _ _ _ (by show g≠w.heap.size+2;omega),Below.heap_setCell _ _ _ _ (by show g≠w.heap.size+2;omega),Below.heap_setCell _ _ _ _ (by show g≠w.heap.size+2;omega),Below.heap_setCell _ _ _ _ (by show g≠w.heap.size+2;omega),Below.heap_setCell _ _ _ _ (by show g≠w.heap.size+2;omega)]
   ·obtain ⟨cur,hcc,hgg⟩:=qD2 O2.out e
    rw [Below.heap_setCell _ _ _ _ (by show g≠w.heap.size+2;omega),Below.heap_setCell _ _ _ _ (by show g≠w.heap.size+2;omega),Below.heap_setCell _ _ _ _ (by show g≠w.heap.size+2;omega),Below.heap_setCell _ _ _ _ (by show g≠w.heap.size+2;omega),Below.heap_setCell _ _ _ _ (by show g≠w.heap.size+2;omega)]
  ·obtain rfl:=h1 hK0
   clear h1 h2
   go_wp2_with fail
   refine bodyPost_ret (v:=.agg #[.int .i64 K,.int .i64 0,.int .i64 0,.slice none 0 0,.slice none 0 0]) (by simp [results,Tryz.results16,go_sem,z0,z1,z2,z3,z4,hzl]) rfl ?_
   exact ⟨((((Z2.out.bl.setCell (by show w.heap.size≤w.heap.size+2;omega) _).setCell (by show w.heap.size≤w.heap.size+2;omega) _).setCell (by show w.heap.size≤w.heap.size+2;omega) _).setCell (by show w.heap.size≤w.heap.size+2;omega) _).setCell (by show w.heap.size≤w.heap.size+2;omega) _,fun _=>rfl,fun q=>absurd q hK0⟩
 ·have kb:(k != 0)=true:=by simp [hk]
  have HK4:=qC8 (HK3.out hk)
  have z0:=Z1.out.rs.1 0 _ rfl
  have z1:=Z1.out.rs.1 1 _ rfl
  have z2:=Z1.out.rs.1 2 _ rfl
  have z3:=Z1.out.rs.1 3 _ rfl
  have z4:=Z1.out.rs.1 4 _ rfl
  have f0:=Z1.out.rs.2 0
  have f1:=Z1.out.rs.2 1
  have f2:=Z1.out.rs.2 2
  have f3:=Z1.out.rs.2 3
  have f4:=Z1.out.rs.2 4
  have hzl:=Z1.out.lt
  go_wp2_with fail
  refine bodyPost_ret (v:=.agg #[.int .i64 k,.int .i64 0,.int .i64 0,.slice none 0 0,.slice none 0 0]) (by simp [results,Tryz.results16,go_sem,z0,z1,z2,z3,z4,hzl]) rfl ?_
  rw [HK4.out]
  exact ⟨((((Z1.out.bl.setCell (by show w.heap.size≤w.heap.size+2;omega) _).setCell (by show w.heap.size≤w.heap.size+2;omega) _).setCell (by show w.heap.size≤w.heap.size+2;omega) _).setCell (by show w.heap.size≤w.heap.size+2;omega) _).setCell (by show w.heap.size≤w.heap.size+2;omega) _,fun _=>rfl,fun q=>absurd q hk⟩

end Go.Proofs.YtlpgapdlepbgbaaGreatDoor
