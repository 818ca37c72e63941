/- Contracts. -/
import Derived.Test.YtlhgjackapdmbaaGreatDoorPe32
import Derived.Test.YtlhgjackapdmbaaGreatDoorPe22
import Derived.Test.YtlhgjackapdmbaaGreatDoorPe24
import Derived.ArgAppend
import Derived.Lib.SliceRun
import Derived.RangeFuncSeq
import Derived.RangeFuncGives
import Derived.Sort.MapsRangeIn
import Derived.Shelf.SlSortCmp.NoneTotal
import Derived.Deep.RegionLaw
namespace Go.Proofs.YtlhgjackapdmbaaGreatDoor
set_option maxRecDepth 100000
set_option maxHeartbeats 8000000
open Go.RowKit
set_option linter.unusedVariables false
set_option linter.unusedSimpArgs false

section
def QO3 (w:World) (a:Option Addr) (n:Nat) (xs:List RoI):Prop:=xs.length=n∧(0 < n→∃ b off,a=some ⟨b,off,none⟩∧∀ k r,xs[k]? = some r→w.cell? ⟨b,off+k * 2,none⟩=some (.int .i64 r.1)∧w.cell? ⟨b,off+k * 2+1,none⟩=some (.int .i64 r.2))
theorem QO3.below {w w':World} {a:Option Addr} {n:Nat} {xs:List RoI} (h:QO3 w a n xs) (hb:Below w.heap.size w w'):QO3 w' a n xs:=by
 refine ⟨h.1,fun hn=>?_⟩
 obtain ⟨b,off,e,k⟩:=h.2 hn
 refine ⟨b,off,e,fun j r hr=>?_⟩
 obtain ⟨h1,h2⟩:=k j r hr
 exact ⟨(hb.cell (p:=⟨b,off+j * 2,none⟩) (zL w ⟨b,off+j * 2,none⟩ h1)).trans h1,(hb.cell (p:=⟨b,off+j * 2+1,none⟩) (zL w ⟨b,off+j * 2+1,none⟩ h2)).trans h2⟩
theorem QT6 {w:World} {g:Nat} {xs:List RoI} (h:∀ j u,(QC5 xs)[j]? = some u→w.cell? ((⟨g,0,none⟩:Addr).add j)=some u):QO3 w (some ⟨g,0,none⟩) xs.length xs:=by
 refine ⟨rfl,fun _=>⟨g,0,rfl,fun k r hr=>?_⟩⟩
 have h1:=h _ _ (flat2_fst xs k r hr)
 have h2:=h _ _ (flat2_snd xs k r hr)
 rw [Go.WideShapes.add_plain] at h1 h2
 rw [Nat.zero_add] at h1 h2 ⊢
 exact ⟨h1,h2⟩
theorem QZ4 (zs:List RoI) (k:Nat) (r:RoI):r∈zs.take k↔∃ j,j < k∧zs[j]? = some r:=by
 rw [List.mem_iff_getElem?]
 constructor
 ·rintro ⟨j,hj⟩
  rw [List.getElem?_take] at hj
  by_cases h:j < k
  ·rw [if_pos h] at hj;exact ⟨j,h,hj⟩
  ·rw [if_neg h] at hj;cases hj
 ·rintro ⟨j,h,hj⟩
  exact ⟨j,by rw [List.getElem?_take,if_pos h];exact hj⟩
attribute [local go_sem ↓] ro_eql
theorem slIndexR_c (a:Option Addr) (n cap:Nat) (zs:List RoI) (r:RoI) (w:World) (hn:n≤1048576) (h:QO3 w a n zs) :
  Calls Tryz.prog 214 #[.slice a n cap,.agg #[.int .i64 r.1,.int .i64 r.2]] w fun e w'=>(∃ i:Int,e = .returned (.int .i64 i)∧((0≤i∧r∈zs)∨(i = -1∧¬ r∈zs)))∧Below w.heap.size w w':=by
 have H:Hid (QO3 w a n zs):=h
 have hz:Hid (zs.length=n):=h.1
 clear h
 have hn':(n:Int)≤1048576:=by omega
 go_enter Tryz.func214,Tryz.ntmps214
 go_wp2
 go_loopw [8] (fun i wr=>∃ k:Nat,k≤n∧i = .int .i64 (k:Int)∧¬ r∈zs.take k∧∃ m,wr=(w.alloc (.cells #[.int .i64 r.1,.int .i64 r.2] 112)).drewN m) (fun i _=>n - (intOf i).toNat)
 case atStart=>exact ⟨0,Nat.zero_le _,rfl,by simp,0,rfl⟩
 case round =>
  obtain ⟨k,hk,rfl,hm,m,rfl⟩:=hrel
  have HM:Hid (¬ r∈zs.take k):=hm
  clear hm
  by_cases hlt:k < n
  ·obtain ⟨b,off,rfl,hcells⟩:=H.out.2 (by omega)
   obtain ⟨s,hs⟩:∃ s,zs[k]? = some s:=⟨_,List.getElem?_eq_getElem (by rw [hz.out];exact hlt)⟩
   obtain ⟨h0,h1⟩:=hcells k s hs
   have HS:Hid (zs[k]? = some s):=hs
   clear hs hcells
   have hb:b < w.heap.size:=zL w ⟨b,off+k * 2,none⟩ h0
   have b0:(w.alloc (.cells #[.int .i64 r.1,.int .i64 r.2] 112)).cell? ⟨w.heap.size,0,none⟩=some (.int .i64 r.1):=by simp
   have b1:(w.alloc (.cells #[.int .i64 r.1,.int .i64 r.2] 112)).cell? ⟨w.heap.size,1,none⟩=some (.int .i64 r.2):=by simp
   have hlt':(k:Int) < (n:Int):=by omega
   cases hsame:eqRo r s
   ·have HN:Hid (¬ r∈zs.take (k+1)):=by
     show ¬ r∈zs.take (k+1)
     rw [QZ4]
     rintro ⟨j,hj,hjs⟩
     by_cases e:j=k
     ·subst e
      rw [HS.out] at hjs
      have:=(qT9 r s).2 (Option.some.inj hjs).symm
      rw [hsame] at this;cases this
     ·exact HM.out ((QZ4 _ _ _).2 ⟨j,by omega,hjs⟩)
    go_wp2
    go_quiet (fail)
    go_wp2
    exact ⟨⟨k+1,by omega,by go_num,HN.out,_,rfl⟩,by simp [intOf];omega⟩
   ·have HI:Hid (r∈zs):=by
     show r∈zs
     rw [(qT9 r s).1 hsame]
     exact List.mem_of_getElem? HS.out
    go_wp2
    go_quiet (fail)
    go_wp2
    go_ret
    exact ⟨⟨_,rfl,Or.inl ⟨by omega,HI.out⟩⟩,by first | exact bdN (zN) _ | exact bdN (bdN (zN) _) _⟩
  ·have hkn:k=n:=by omega
   subst hkn
   have HN:Hid (¬ r∈zs):=by
    have:=HM.out
    rw [List.take_of_length_le (by rw [hz.out];exact Nat.le_refl _)] at this
    exact this
   go_wp2
   go_ret
   exact ⟨⟨_,rfl,Or.inr ⟨rfl,HN.out⟩⟩,bdN (by go_grown) _⟩
theorem qQ8 (a:Option Addr) (n cap:Nat) (zs:List RoI) (r:RoI) (w:World) (hn:n≤1048576) (h:QO3 w a n zs) :
  Calls Tryz.prog 212 #[.slice a n cap,.agg #[.int .i64 r.1,.int .i64 r.2]] w fun e w'=>e = .returned (.bool (decide (r∈zs)))∧Below w.heap.size w w':=by
 have H:Hid (QO3 (w.alloc (.cells #[.int .i64 r.1,.int .i64 r.2] 112)) a n zs):=h.below (zN)
 clear h
 go_enter Tryz.func212,Tryz.ntmps212
 go_wp2_with fail
 refine (slIndexR_c a n cap zs r _ hn H.out).mono ?_
 rintro e w1 ⟨⟨i,rfl,hi⟩,hb1⟩
 have HX:Hid (decide (0≤i)=decide (r∈zs)):=by
  show decide (0≤i)=decide (r∈zs)
  rcases hi with ⟨h1,h2⟩ | ⟨rfl,h2⟩
  ·simp [h1,h2]
  ·simp [h2]
 clear hi
 go_wp2
 go_ret
 exact ⟨by rw [HX.out];rfl,qD5 hb1⟩
attribute [local go_sem] ta11 ta12 ta13 ta14 ta21 ta22 ta23 ta24 ta31 ta32 ta33 ta34 ta41 ta42 ta43 ta44
theorem boxes2 {w w1:World} {o1:Obj} {h0 h1:Value} {t:TypeId} (hb:Below ((w.alloc o1).alloc (.cells #[h0,h1] t)).heap.size ((w.alloc o1).alloc (.cells #[h0,h1] t)) w1) :
  w1.cell? ⟨w.heap.size+1,0,none⟩=some h0∧w1.cell? ⟨w.heap.size+1,1,none⟩=some h1∧w.heap.size+2≤w1.heap.size∧Below w.heap.size w w1:=by
 have hz:=hb.size
 simp only [World.size_alloc] at hz
 refine ⟨(hb.cell (p:=⟨w.heap.size+1,0,none⟩) (by simp)).trans (by simp),(hb.cell (p:=⟨w.heap.size+1,1,none⟩) (by simp)).trans (by simp),hz,qD5 (qD5 hb)⟩
theorem boxes3 {w w1:World} {h0 h1:Value} {b:Nat} (o:Obj) (c0:w1.cell? ⟨b,0,none⟩=some h0) (c1:w1.cell? ⟨b,1,none⟩=some h1) (hz:b < w1.heap.size) (hb:Below w.heap.size w w1) :
  ∃ W,w1.alloc o=W∧W.cell? ⟨b,0,none⟩=some h0∧W.cell? ⟨b,1,none⟩=some h1∧b < W.heap.size∧Below w.heap.size w W:=by
 have hA:Below w1.heap.size w1 (w1.alloc o):=zN
 exact ⟨_,rfl,(hA.cell (p:=⟨b,0,none⟩) hz).trans c0,(hA.cell (p:=⟨b,1,none⟩) hz).trans c1,Nat.lt_of_lt_of_le hz hA.size,hb.alloc hb.size _⟩
theorem leans_1 (r:qA1) (h:RoI) (w:World) (e1:r.k=1) :
  Calls Tryz.prog 202 #[.agg #[.int .i64 r.k,.int .i64 r.ho,.int .i64 r.hn,.int .i64 r.w,.int .i64 r.oo,.int .i64 r.on,.int .i64 r.to,.int .i64 r.tn],.agg #[.int .i64 h.1,.int .i64 h.2]] w fun e w'=>e = .returned (.bool (qH1 r h))∧Below w.heap.size w w':=by
 obtain ⟨t,ht⟩:∃ t,qH1 r h=t:=⟨_,rfl⟩
 have HT:Hid (decide (h∈([]:List RoI))=t):=by rw [← ht];show _=qH1 r h;simp [qH1,bodyR,e1]
 rw [ht]
 have E1:Hid (r.k=1):=e1
 clear e1 ht
 go_enter Tryz.func202,Tryz.ntmps202
 go_wp2_with (first | (go_at_call 191;refine (QW4 r E1.out _).mono ?_;rintro e w1 ⟨rfl,hb0⟩;obtain ⟨c0,c1,hz,hb⟩:=boxes2 hb0;clear hb0) | go_in)
 obtain ⟨W,hW,p0,p1,hzW,hbW⟩:=boxes3 (.cells #[.int .i64 0,.int .i64 0,.int .i64 0] 296) c0 c1 (by omega) hb
 rw [hW]
 clear hW c0 c1 hz hb
 go_region_with (first
  | (go_at_call 253;refine (roles_1 _ _).mono ?_;rintro e w2 ⟨rfl,hb2⟩;have q0:w2.cell? ⟨w.heap.size+1,0,none⟩=some (.int .i64 h.1):=(hb2.cell (p:=⟨w.heap.size+1,0,none⟩) hzW).trans p0;have q1:w2.cell? ⟨w.heap.size+1,1,none⟩=some (.int .i64 h.2):=(hb2.cell (p:=⟨w.heap.size+1,1,none⟩) hzW).trans p1)
  | (go_at_call 212;refine (qQ8 none 0 0 [] h _ (by omega) ⟨rfl,fun q=>by omega⟩).mono ?_;rintro e w3 ⟨he3,hb3⟩;rw [HT.out] at he3;subst he3))
 all_goals go_wp2
 all_goals go_ret
 all_goals exact ⟨rfl,(hbW.drew.trans (hb2.mono hbW.size)).trans (hb3.mono (Nat.le_trans hbW.size hb2.size))⟩
theorem leans_2 (r:qA1) (h:RoI) (w:World) (e1:r.k=2) :
  Calls Tryz.prog 202 #[.agg #[.int .i64 r.k,.int .i64 r.ho,.int .i64 r.hn,.int .i64 r.w,.int .i64 r.oo,.int .i64 r.on,.int .i64 r.to,.int .i64 r.tn],.agg #[.int .i64 h.1,.int .i64 h.2]] w fun e w'=>e = .returned (.bool (qH1 r h))∧Below w.heap.size w w':=by
 obtain ⟨t,ht⟩:∃ t,qH1 r h=t:=⟨_,rfl⟩
 have HT:Hid (decide (h∈[(r.oo,r.on)])=t):=by rw [← ht];show _=qH1 r h;simp [qH1,bodyR,e1]
 rw [ht]
 have E1:Hid (r.k=2):=e1
 clear e1 ht
 go_enter Tryz.func202,Tryz.ntmps202
 go_wp2_with (first | (go_at_call 191;refine (QW3 r E1.out _).mono ?_;rintro e w1 ⟨rfl,hb0⟩;obtain ⟨c0,c1,hz,hb⟩:=boxes2 hb0;clear hb0) | go_in)
 obtain ⟨W,hW,p0,p1,hzW,hbW⟩:=boxes3 (.cells #[.int .i64 0,.int .i64 0,.int .i64 0] 296) c0 c1 (by omega) hb
 rw [hW]
 clear hW c0 c1 hz hb
 go_region_with (first
  | (go_at_call 254;refine (roles_2 _ _ _).mono ?_;rintro e w2 ⟨g,rfl,hc2,hb2⟩;have HC2:Hid (QO3 w2 (some ⟨g,0,none⟩) ([(r.oo,r.on)]).length ([(r.oo,r.on)])):=QT6 hc2;clear hc2;have q0:w2.cell? ⟨w.heap.size+1,0,none⟩=some (.int .i64 h.1):=(hb2.cell (p:=⟨w.heap.size+1,0,none⟩) hzW).trans p0;have q1:w2.cell? ⟨w.heap.size+1,1,none⟩=some (.int .i64 h.2):=(hb2.cell (p:=⟨w.heap.size+1,1,none⟩) hzW).trans p1)
  | (go_at_call 212;refine (qQ8 _ _ _ [(r.oo,r.on)] h _ (by simp) HC2.out).mono ?_;rintro e w3 ⟨he3,hb3⟩;rw [HT.out] at he3;subst he3))
 all_goals go_wp2
 all_goals go_ret
 all_goals exact ⟨rfl,(hbW.drew.trans (hb2.mono hbW.size)).trans (hb3.mono (Nat.le_trans hbW.size hb2.size))⟩
theorem leans_3 (r:qA1) (h:RoI) (w:World) (e1:r.k=3) (e3:r.tn≠h.2) :
  Calls Tryz.prog 202 #[.agg #[.int .i64 r.k,.int .i64 r.ho,.int .i64 r.hn,.int .i64 r.w,.int .i64 r.oo,.int .i64 r.on,.int .i64 r.to,.int .i64 r.tn],.agg #[.int .i64 h.1,.int .i64 h.2]] w fun e w'=>e = .returned (.bool (qH1 r h))∧Below w.heap.size w w':=by
 obtain ⟨t,ht⟩:∃ t,qH1 r h=t:=⟨_,rfl⟩
 have HT:Hid (decide (h∈[(r.oo,r.on)])=t):=by rw [← ht];show _=qH1 r h;simp [qH1,bodyR,e1,e3]
 rw [ht]
 have b3:(r.tn==h.2)=false:=by simp [e3]
 have E1:Hid (r.k=3):=e1
 clear e1 ht e3
 go_enter Tryz.func202,Tryz.ntmps202
 go_wp2_with (first | (go_at_call 191;refine (QI8 r E1.out _).mono ?_;rintro e w1 ⟨rfl,hb0⟩;obtain ⟨c0,c1,hz,hb⟩:=boxes2 hb0;clear hb0;have hlt1:w.heap.size+1 < w1.heap.size:=by omega) | go_in)
 obtain ⟨W,hW,p0,p1,hzW,hbW⟩:=boxes3 (.cells #[.int .i64 r.oo,.int .i64 r.on,.int .i64 r.tn] 296) c0 c1 (by omega) hb
 rw [hW]
 clear hW c0 c1 hz hb hlt1
 go_region_with (first
  | (go_at_call 255;refine (roles_3 _ _ _ _).mono ?_;rintro e w2 ⟨g,rfl,hc2,hb2⟩;have HC2:Hid (QO3 w2 (some ⟨g,0,none⟩) ([(r.oo,r.on)]).length ([(r.oo,r.on)])):=QT6 hc2;clear hc2;have q0:w2.cell? ⟨w.heap.size+1,0,none⟩=some (.int .i64 h.1):=(hb2.cell (p:=⟨w.heap.size+1,0,none⟩) hzW).trans p0;have q1:w2.cell? ⟨w.heap.size+1,1,none⟩=some (.int .i64 h.2):=(hb2.cell (p:=⟨w.heap.size+1,1,none⟩) hzW).trans p1)
  | (go_at_call 212;refine (qQ8 _ _ _ [(r.oo,r.on)] h _ (by simp) HC2.out).mono ?_;rintro e w3 ⟨he3,hb3⟩;rw [HT.out] at he3;subst he3))
 all_goals go_wp2
 all_goals go_ret
 all_goals exact ⟨rfl,(hbW.drew.trans (hb2.mono hbW.size)).trans (hb3.mono (Nat.le_trans hbW.size hb2.size))⟩
theorem leans_4 (r:qA1) (h:RoI) (w:World) (e1:r.k=4) :
  Calls Tryz.prog 202 #[.agg #[.int .i64 r.k,.int .i64 r.ho,.int .i64 r.hn,.int .i64 r.w,.int .i64 r.oo,.int .i64 r.on,.int .i64 r.to,.int .i64 r.tn],.agg #[.int .i64 h.1,.int .i64 h.2]] w fun e w'=>e = .returned (.bool (qH1 r h))∧Below w.heap.size w w':=by
 obtain ⟨t,ht⟩:∃ t,qH1 r h=t:=⟨_,rfl⟩
 have HT:Hid (decide (h∈[(r.oo,r.on),(r.to,r.tn)])=t):=by rw [← ht];show _=qH1 r h;simp [qH1,bodyR,e1]
 rw [ht]
 have E1:Hid (r.k=4):=e1
 clear e1 ht
 go_enter Tryz.func202,Tryz.ntmps202
 go_wp2_with (first | (go_at_call 191;refine (QW2 r E1.out _).mono ?_;rintro e w1 ⟨rfl,hb0⟩;obtain ⟨c0,c1,hz,hb⟩:=boxes2 hb0;clear hb0) | go_in)
 obtain ⟨W,hW,p0,p1,hzW,hbW⟩:=boxes3 (.cells #[.int .i64 0,.int .i64 0,.int .i64 0] 296) c0 c1 (by omega) hb
 rw [hW]
 clear hW c0 c1 hz hb
 go_region_with (first
  | (go_at_call 256;refine (roles_4 _ _ _ _ _).mono ?_;rintro e w2 ⟨g,rfl,hc2,hb2⟩;have HC2:Hid (QO3 w2 (some ⟨g,0,none⟩) ([(r.oo,r.on),(r.to,r.tn)]).length ([(r.oo,r.on),(r.to,r.tn)])):=QT6 hc2;clear hc2;have q0:w2.cell? ⟨w.heap.size+1,0,none⟩=some (.int .i64 h.1):=(hb2.cell (p:=⟨w.heap.size+1,0,none⟩) hzW).trans p0;have q1:w2.cell? ⟨w.heap.size+1,1,none⟩=some (.int .i64 h.2):=(hb2.cell (p:=⟨w.heap.size+1,1,none⟩) hzW).trans p1)
  | (go_at_call 212;refine (qQ8 _ _ _ [(r.oo,r.on),(r.to,r.tn)] h _ (by simp) HC2.out).mono ?_;rintro e w3 ⟨he3,hb3⟩;rw [HT.out] at he3;subst he3))
 all_goals go_wp2
 all_goals go_ret
 all_goals exact ⟨rfl,(hbW.drew.trans (hb2.mono hbW.size)).trans (hb3.mono (Nat.le_trans hbW.size hb2.size))⟩
theorem leans_3t (r:qA1) (h:RoI) (w:World) (e1:r.k=3) (e3:r.tn=h.2) :
  Calls Tryz.prog 202 #[.agg #[.int .i64 r.k,.int .i64 r.ho,.int .i64 r.hn,.int .i64 r.w,.int .i64 r.oo,.int .i64 r.on,.int .i64 r.to,.int .i64 r.tn],.agg #[.int .i64 h.1,.int .i64 h.2]] w fun e w'=>e = .returned (.bool (qH1 r h))∧Below w.heap.size w w':=by
 have E:qH1 r h=true:=by simp [qH1,e1,e3]
 rw [E]
 have b3:(r.tn==h.2)=true:=by simp [e3]
 have E1:Hid (r.k=3):=e1
 clear e1 E e3
 go_enter Tryz.func202,Tryz.ntmps202
 go_wp2_with (first | (go_at_call 191;refine (QI8 r E1.out _).mono ?_;rintro e w1 ⟨rfl,hb0⟩;obtain ⟨c0,c1,hz,hb⟩:=boxes2 hb0;clear hb0;have hlt1:w.heap.size+1 < w1.heap.size:=by omega) | go_in)
 go_ret
 exact ⟨rfl,hb.alloc hb.size _⟩
theorem leansOn_c (r:qA1) (h:RoI) (w:World) (hk:1≤r.k∧r.k≤4) :
  Calls Tryz.prog 202 #[.agg #[.int .i64 r.k,.int .i64 r.ho,.int .i64 r.hn,.int .i64 r.w,.int .i64 r.oo,.int .i64 r.on,.int .i64 r.to,.int .i64 r.tn],.agg #[.int .i64 h.1,.int .i64 h.2]] w fun e w'=>e = .returned (.bool (qH1 r h))∧Below w.heap.size w w':=by
 have h4:r.k=1∨r.k=2∨r.k=3∨r.k=4:=by omega
 rcases h4 with e | e | e | e
 ·exact leans_1 r h w e
 ·exact leans_2 r h w e
 ·by_cases q:r.tn=h.2
  ·exact leans_3t r h w e q
  ·exact leans_3 r h w e q
 ·exact leans_4 r h w e
end

theorem Tryz.under68:Tryz.prog.underlying 68=some (.slice 114):=by kernel_rfl
def qX5 (r:qA1):List Value:=[.int .i64 r.k,.int .i64 r.ho,.int .i64 r.hn,.int .i64 r.w,.int .i64 r.oo,.int .i64 r.on,.int .i64 r.to,.int .i64 r.tn]
def qR4:List qA1→List Value
 | []=>[]
 | r::rs=>qX5 r++qR4 rs
theorem qW1:∀ zs:List qA1,(qR4 zs).length=zs.length * 8
 | []=>rfl
 | r::rs=>by simp [qR4,qX5,qW1 rs];omega
theorem QN3:∀ zs:List qA1,∀ u∈qR4 zs,u.oneCell'=true
 | [],u,h=>by simp [qR4] at h
 | r::rs,u,h=>by
  rcases List.mem_append.1 h with q | q
  ·simp [qX5] at q
   rcases q with rfl | rfl | rfl | rfl | rfl | rfl | rfl | rfl <;> rfl
  ·exact QN3 rs u q
theorem QV4:∀ (zs:List qA1) (k:Nat) (r:qA1),zs[k]? = some r→∀ i,i < 8→(qR4 zs)[k * 8+i]? = (qX5 r)[i]?
 | [],k,r,h,i,hi=>by simp at h
 | z::zs,0,r,h,i,hi=>by
  simp at h
  subst h
  rw [qR4,List.getElem?_append_left (by simp [qX5];omega)]
  simp
 | z::zs,k+1,r,h,i,hi=>by
  have:=QV4 zs k r (by simpa using h) i hi
  rw [qR4,List.getElem?_append_right (by simp [qX5];omega),show (k+1) * 8+i - (qX5 z).length=k * 8+i by simp [qX5];omega]
  exact this
theorem rulesAt_of {w:World} {g off:Nat} {zs:List qA1} (h:∀ j u,(qR4 zs)[j]? = some u→w.cell? ⟨g,off+j,none⟩=some u):qL5 w g off zs:=by
 intro k r hr
 have q:∀ i,i < 8→∀ u,(qX5 r)[i]? = some u→w.cell? ⟨g,off+k * 8+i,none⟩=some u:=fun i hi u hu=>by
  have:=h (k * 8+i) u ((QV4 zs k r hr i hi).trans hu)
  rwa [← Nat.add_assoc] at this
 exact ⟨q 0 (by omega) _ rfl,q 1 (by omega) _ rfl,q 2 (by omega) _ rfl,q 3 (by omega) _ rfl,q 4 (by omega) _ rfl,q 5 (by omega) _ rfl,q 6 (by omega) _ rfl,q 7 (by omega) _ rfl⟩
theorem rule_cells {w:World} {g o:Nat} {r:qA1} (h:qC6 w g o r):∀ j u,(qX5 r)[j]? = some u→w.cell? ⟨g,o+j,none⟩=some u:=by
 obtain ⟨h0,h1,h2,h3,h4,h5,h6,h7⟩:=h
 intro j u hu
 match j,hu with
 | 0,hu=>simp [qX5] at hu;subst hu;exact h0
 | 1,hu=>simp [qX5] at hu;subst hu;exact h1
 | 2,hu=>simp [qX5] at hu;subst hu;exact h2
 | 3,hu=>simp [qX5] at hu;subst hu;exact h3
 | 4,hu=>simp [qX5] at hu;subst hu;exact h4
 | 5,hu=>simp [qX5] at hu;subst hu;exact h5
 | 6,hu=>simp [qX5] at hu;subst hu;exact h6
 | 7,hu=>simp [qX5] at hu;subst hu;exact h7
 | j+8,hu=>simp [qX5] at hu
theorem QJ9 {w:World} {g off:Nat} {zs:List qA1} (h:qL5 w g off zs):∀ j u,(qR4 zs)[j]? = some u→w.cell? ⟨g,off+j,none⟩=some u:=by
 intro j u hu
 have hj:j < zs.length * 8:=by
  rw [← qW1]
  by_cases q:j < (qR4 zs).length
  ·exact q
  ·rw [List.getElem?_eq_none (by omega)] at hu;cases hu
 have hk:j / 8 < zs.length:=by omega
 have hr:=List.getElem?_eq_getElem hk
 have e:=QV4 zs (j / 8) _ hr (j % 8) (by omega)
 rw [show j / 8 * 8+j % 8=j by omega] at e
 have:=rule_cells (h (j / 8) _ hr) (j % 8) u (e.symm.trans hu)
 rwa [show off+j / 8 * 8+j % 8=off+j by omega] at this
structure QAt (w:World) (B g off cap:Nat) (ws:List qA1):Prop where
 old:B≤g
 lt:g < w.heap.size
 at':qL5 w g off ws
 le:ws.length≤cap
 room:∀ j,j < cap * 8→(w.cell? ⟨g,off+j,none⟩).isSome=true∧w.frozen? ⟨g,off+j,none⟩=false
def Q1 (w:World) (B:Nat) (v:Value) (ws:List qA1):Prop:=∃ g off cap,v = .slice (some ⟨g,off,none⟩) ws.length cap∧QAt w B g off cap ws
theorem QAt.kept {w w':World} {B g off cap:Nat} {ws:List qA1} (h:QAt w B g off cap ws) (hs:w.heap.size≤w'.heap.size) (hb:w'.heap[g]? = w.heap[g]?):QAt w' B g off cap ws:=by
 have hc:∀ o,w'.cell? ⟨g,o,none⟩=w.cell? ⟨g,o,none⟩:=fun o=>World.cell?_of_block hb
 have hf:∀ o,w'.frozen? ⟨g,o,none⟩=w.frozen? ⟨g,o,none⟩:=fun o=>by simp [World.frozen?,hb]
 refine ⟨h.old,Nat.lt_of_lt_of_le h.lt hs,fun k r hr=>?_,h.le,fun j hj=>?_⟩
 ·obtain ⟨h0,h1,h2,h3,h4,h5,h6,h7⟩:=h.at' k r hr
  exact ⟨(hc _).trans h0,(hc _).trans h1,(hc _).trans h2,(hc _).trans h3,(hc _).trans h4,(hc _).trans h5,(hc _).trans h6,(hc _).trans h7⟩
 ·rw [hc,hf]
  exact h.room j hj
theorem QAt.below {w w':World} {B g off cap:Nat} {ws:List qA1} (h:QAt w B g off cap ws) {K:Nat} (hK:g < K) (hb:Below K w w'):QAt w' B g off cap ws:=h.kept hb.size (hb.block g hK)
theorem QAt.pop {w:World} {B g off cap:Nat} {z:qA1} {ws:List qA1} (h:QAt w B g off cap (z::ws)):QAt w B g (off+8) (cap - 1) ws:=by
 have hl:=h.le
 simp only [List.length_cons] at hl
 refine ⟨h.old,h.lt,fun k r hr=>?_,by omega,fun j hj=>?_⟩
 ·have:=h.at' (k+1) r (by simpa using hr)
  rwa [show off+(k+1) * 8=off+8+k * 8 by omega] at this
 ·have:=h.room (8+j) (by omega)
  rwa [← Nat.add_assoc] at this
theorem QAt.empty {w:World} {B g off off':Nat} (h:QAt w B g off 0 []):QAt w B g off' 0 [] :=
 ⟨h.old,h.lt,fun k r hr=>by simp at hr,Nat.le_refl _,fun j hj=>by omega⟩
theorem q_of_row {w:World} {B:Nat} {v:Value} {ws:List qA1} (h:w.ownsRow B 114 8 v ws.length (qR4 ws)) (hn:v ≠ .slice none 0 0):Q1 w B v ws:=by
 rcases h.2 with ⟨q,_⟩ | ⟨g,cap,cur,rfl,hB,hg,hnc,hcm,hsz,htk⟩
 ·exact absurd q hn
 ·refine ⟨g,0,cap,rfl,hB,(h.lt g rfl).2,rulesAt_of (fun j u hu=>?_),hnc,fun j hj=>?_⟩
  ·rw [Nat.zero_add]
   have hj:j < ws.length * 8:=by
    rw [← qW1]
    by_cases q:j < (qR4 ws).length
    ·exact q
    ·rw [List.getElem?_eq_none (by omega)] at hu;cases hu
   exact (h.cellAt j hj).trans hu
  ·rw [Nat.zero_add]
   refine ⟨?_,by simp [World.frozen?,hg]⟩
   simp [World.cell?,hg]
   omega
theorem cloneR_c (a:Option Addr) (n cap:Nat) (zs:List qA1) (w:World) (hn:n≤1000) (h:qB6 w a n zs) :
  Calls Tryz.prog 199 #[.slice a n cap] w fun e w'=>∃ v,e = .returned v∧(n=0→∃ a' c',v = .slice a' 0 c')∧(0 < n→Q1 w' w.heap.size v zs)∧Below w.heap.size w w':=by
 obtain ⟨i0,hi,hz0,hz1,hz2⟩:=info_parts Tryz.info114
 have HZ:Hid (zs.length=n):=h.1
 cases a with
 | none =>
  have hn0:n=0:=by
   by_cases q:0 < n
   ·obtain ⟨_,_,e,_⟩:=h.2 q;cases e
   ·omega
  subst hn0
  clear h
  have hq:=fun w=>Go.Lib.run_eql_slice_nil (P:=Tryz.prog) w 68 _ (none:Option Addr) 0 cap 0 0 Tryz.under68
  go_enter Tryz.func199,Tryz.ntmps199
  go_wp2
  go_ret
  exact ⟨_,rfl,fun _=>⟨_,_,rfl⟩,fun q=>by omega,Below.refl _ _⟩
 | some ad =>
  have HC:Hid (∀ j u,(qR4 zs)[j]? = some u→(w.alloc (.cells #[] 114)).cell? (ad.add j)=some u):=by
   intro j u hu
   have hj:j < zs.length * 8:=by
    rw [← qW1]
    by_cases q:j < (qR4 zs).length
    ·exact q
    ·rw [List.getElem?_eq_none (by omega)] at hu;cases hu
   have hz:=h.1
   obtain ⟨b,off,e,hat⟩:=h.2 (by omega)
   cases e
   rw [Go.WideShapes.add_plain]
   have h1:=QJ9 hat j u hu
   exact (((Below.refl _ w).alloc (Nat.le_refl _) _).cell (p:=⟨b,off+j,none⟩) (zL w ⟨b,off+j,none⟩ h1)).trans h1
  clear h
  have hq:=fun w=>Go.Lib.run_eql_slice_nil (P:=Tryz.prog) w 68 _ (some ad) n cap 0 0 Tryz.under68
  go_enter Tryz.func199,Tryz.ntmps199
  go_wp2_with (first | (at_builtin;refine wpList_append_own _ rfl _ _ 68 rfl w.heap.size 114 i0 (.agg #[.int .i64 0,.int .i64 0,.int .i64 0,.int .i64 0,.int .i64 0,.int .i64 0,.int .i64 0,.int .i64 0]) 8 64 Tryz.under68 hi hz0 hz1 hz2 rfl (by decide) (.slice (some ⟨w.heap.size,0,none⟩) 0 0) 0 [] rfl ?c0 ad n cap (qR4 zs) rfl ?cl ?c1 ?c2 ?c3 ?c4 ?c5 ?_))
  case c0=>exact World.ownsRow_lit w #[] 0 (Nat.le_refl _) (Nat.zero_le _) rfl
  case cl=>rw [qW1,HZ.out]
  case c1=>exact HC.out
  case c2=>exact QN3 zs
  case c3=>unfold maxLen;omega
  case c4=>omega
  case c5=>simp
  ·intro v1 w1 hown hgrow hnil
   have hnn:v1 ≠ .slice none 0 0:=by first | exact hnil | simpa using hnil
   have R1:w1.ownsRow w.heap.size 114 8 v1 zs.length (qR4 zs):=by
    rw [HZ.out]
    simpa using hown
   have R2:Below w.heap.size w w1:=(zN).grown hgrow (by simp) (fun j hj=>by simp [Value.ownBlock] at hj;omega)
   have hq:=q_of_row R1 hnn
   have HQ:Hid (Q1 w1 w.heap.size v1 zs):=hq
   clear R1 hown hgrow hnil hnn hq
   go_wp2
   go_ret
   refine ⟨v1,rfl,fun q=>?_,fun _=>HQ.out,R2⟩
   obtain ⟨g,off,c,e,_⟩:=HQ.out
   rw [HZ.out,q] at e
   exact ⟨_,_,e⟩

section
open Go.RowKit Go.Maps
theorem pol_nodup {zs:List qA1} (h:qC7 zs=0):zs.Nodup:=by
 unfold qC7 at h
 split at h
 ·cases h
 ·have key:∀ k,k≤zs.length→qL3 zs k=0→(zs.take k).Nodup:=by
   intro k
   induction k with
   | zero=>intro _ _;simp
   | succ k ih =>
    intro hk hp
    have h0:qL3 zs k=0:=by
     by_cases q:qL3 zs k=0
     ·exact q
     ·exact absurd (qR6 zs k (k+1) _ q rfl (by omega)) (by rw [hp];exact fun e=>q e.symm)
    have hr:zs[k]? = some zs[k]:=List.getElem?_eq_getElem (by omega)
    have hnm:¬ zs[k]∈zs.take k:=fun q=>by
     by_cases e:qA8 zs[k]=0
     ·rw [QF2 zs k _ hr h0 e q] at hp;cases hp
     ·rw [QD6 zs k _ hr h0 e] at hp;exact e hp
    rw [List.take_succ_eq_append_getElem (by omega)]
    exact List.nodup_append.2 ⟨ih (by omega) h0,by simp,fun x hx y hy e=>hnm (by simp at hy;rw [← hy,← e];exact hx)⟩
  have:=key zs.length (Nat.le_refl _) h
  rwa [List.take_length] at this
theorem QD5 {zs:List qA1} (h:qC7 zs=0):∀ z∈zs,qA8 z=0:=by
 unfold qC7 at h
 split at h
 ·cases h
 ·intro z hz
  obtain ⟨j,hj⟩:=List.mem_iff_getElem?.1 hz
  have hl:j < zs.length:=by
   by_cases q:j < zs.length
   ·exact q
   ·rw [List.getElem?_eq_none (by omega)] at hj;cases hj
  exact QK4 _ h j z hl hj
def QS (W:World) (b g5:Nat) (v:Value) (ws:List qA1):Prop:=∃ g off c,v = .slice (some ⟨g,off,none⟩) ws.length c∧QAt W b g off c ws∧g≠g5∧g≠b
structure QP8 (w:World) (b g5:Nat) (f:RoI→Int) (W:World):Prop where
 below:Below w.heap.size w W
 gm:GM W b f
 room:qN9 W g5 1
 lt5:g5 < W.heap.size
 ne5:g5≠b
 old5:w.heap.size≤g5
 oldb:w.heap.size≤b
def meas (f:RoI→Int) (x:Nat):Nat:=(10200 - sumF f).toNat * 1000+x
def atL (w:World) (zs:List qA1) (a:Option Addr) (n cap b g5 l m:Nat) (t:Act) (W:World):Prop :=
  ∃ (f:RoI→Int) (ws:List qA1) (v4 u1 u6 u7 u8 u9 u10 u11 u12 u13 u14 u15 u16 u17 u18 u19 u20 u21 u22 u23 u24 u25 u26 u27 u28 u29 u30 u31 u32 u33 u34 u35 u36 u37 u38 u39 u40 u41 u42 u43 u44 u45 u46 u47:Value),t = { tmps:=#[.slice a n cap,u1,.map none,.map (some b),v4,.pointer (some ⟨g5,0,none⟩),u6,u7,u8,u9,u10,u11,u12,u13,u14,u15,u16,u17,u18,u19,u20,u21,u22,u23,u24,u25,u26,u27,u28,u29,u30,u31,u32,u33,u34,u35,u36,u37,u38,u39,u40,u41,u42,u43,u44,u45,u46,u47],defers:=[] }∧QP8 w b g5 f W ∧
    ((l=0∧(∃ av cv,v4 = .slice av ws.length cv)∧(ws≠[]→QS W b g5 v4 ws)∧Work zs f ws∧m=meas f (2 * ws.length+1)) ∨
     (l=1∧QS W b g5 v4 ws∧m=meas f 500∧∃ z f0,qC6 W g5 0 z∧Work zs f0 (z::ws)∧f=qS6 f0 (z.ho,z.hn) (byF f0 z)))
abbrev put8n (W:World) (g:Nat) (s:qA1):World:=((((((((W.setCell ⟨g,0,none⟩ (.int .i64 s.k)).setCell ⟨g,1,none⟩ (.int .i64 s.ho)).setCell ⟨g,2,none⟩ (.int .i64 s.hn)).setCell ⟨g,3,none⟩ (.int .i64 s.w)).setCell ⟨g,4,none⟩ (.int .i64 s.oo)).setCell ⟨g,5,none⟩ (.int .i64 s.on)).setCell ⟨g,6,none⟩ (.int .i64 s.to)).setCell ⟨g,7,none⟩ (.int .i64 s.tn))
theorem put8n_eq (W:World) (g:Nat) (s:qA1):put8n W g s=put8 W g 0 s:=by
 show put8n W g s=((((((((W.setCell ⟨g,0,none⟩ (.int .i64 s.k)).setCell ⟨g,0+1,none⟩ (.int .i64 s.ho)).setCell ⟨g,0+2,none⟩ (.int .i64 s.hn)).setCell ⟨g,0+3,none⟩ (.int .i64 s.w)).setCell ⟨g,0+4,none⟩ (.int .i64 s.oo)).setCell ⟨g,0+5,none⟩ (.int .i64 s.on)).setCell ⟨g,0+6,none⟩ (.int .i64 s.to)).setCell ⟨g,0+7,none⟩ (.int .i64 s.tn))
 simp only [Nat.zero_add]
theorem put8n_other (W:World) (g:Nat) (s:qA1) (i:Nat) (h:i≠g):(put8n W g s).heap[i]? = W.heap[i]? := by
 rw [Below.heap_setCell _ _ _ i h,Below.heap_setCell _ _ _ i h,Below.heap_setCell _ _ _ i h,Below.heap_setCell _ _ _ i h,Below.heap_setCell _ _ _ i h,Below.heap_setCell _ _ _ i h,Below.heap_setCell _ _ _ i h,Below.heap_setCell _ _ _ i h]
theorem put8n_size (W:World) (g:Nat) (s:qA1):(put8n W g s).heap.size=W.heap.size:=by simp only [World.size_setCell]
theorem set_put {w:World} {b g5:Nat} {f:RoI→Int} {W X:World} (h:QP8 w b g5 f W) (z:qA1) (hX:X=put8n W g5 z) :
  QP8 w b g5 f X.drew∧qC6 X.drew g5 0 z∧(∀ i,i≠g5→X.drew.heap[i]? = W.heap[i]?)∧X.drew.heap.size=W.heap.size:=by
 have e:X=put8 W g5 0 z:=hX.trans (put8n_eq W g5 z)
 have ho:∀ i,i≠g5→X.heap[i]? = W.heap[i]? := fun i hi=>by rw [hX];exact put8n_other W g5 z i hi
 have hz:X.heap.size=W.heap.size:=by rw [hX];exact put8n_size W g5 z
 have hbw:Below w.heap.size w X:=by rw [e];exact QQ6 (o:=0) h.below h.old5 z
 have hroom:=h.room
 have hd:qL5 W g5 0 (([z]:List qA1).take 0):=fun k r e=>by simp at e
 have hr:=QY8 hroom hd (show ([z]:List qA1)[0]? = some z from rfl) (Nat.zero_lt_one)
 rw [Nat.zero_mul,← e] at hr
 clear e hX
 have hr2:qC6 X g5 0 z:=by
  have:=hr.2 0 z rfl
  rwa [Nat.zero_mul,Nat.add_zero] at this
 have hl5:=h.lt5
 exact ⟨⟨hbw.drew,qQ2 h.gm (ho b h.ne5.symm),hr.1,by show g5 < X.heap.size;omega,h.ne5,h.old5,h.oldb⟩,hr2,ho,hz⟩
theorem meas_lt {f:RoI→Int} (x y:Nat) (h:x < y):meas f x < meas f y:=by unfold meas;omega
theorem meas_grow {f g:RoI→Int} (hf:FN f) (hg:FN g) (h:sumF f < sumF g) (x y:Nat) (hx:x≤900):meas g x < meas f y:=by
 have h1:=sumF_bd hf
 have h2:=sumF_bd hg
 have e1:=Int.toNat_of_nonneg (a:=10200 - sumF f) (by omega)
 have e2:=Int.toNat_of_nonneg (a:=10200 - sumF g) (by omega)
 unfold meas
 generalize (10200 - sumF f).toNat=A at *
 generalize (10200 - sumF g).toNat=B at *
 omega
theorem set_turn {w:World} {b g5:Nat} {f f':RoI→Int} {W W2 W3:World} (h:QP8 w b g5 f W) (hb:Below W.heap.size W W2) (hg:W2.grownBy W3 (some b)) (hG:GM W3 b f') :
  QP8 w b g5 f' W3∧(∀ i,i≠b→i < W.heap.size→W3.heap[i]? = W.heap[i]?)∧W.heap.size≤W3.heap.size:=by
 have hs:=hb.size
 have hs2:=hg.size
 have ho:∀ i,i≠b→i < W.heap.size→W3.heap[i]? = W.heap[i]? := fun i hi hl=>(hg.block i (by omega) (fun e=>hi (Option.some.inj e))).trans (hb.block i hl)
 have h5:=ho g5 h.ne5 h.lt5
 refine ⟨⟨?_,hG,⟨fun j hj=>?_,fun j=>?_⟩,by have:=h.lt5;omega,h.ne5,h.old5,h.oldb⟩,ho,by omega⟩
 ·exact Below.turn (h.below.trans (hb.mono h.below.size)) (by have:=h.below.size;omega) h.oldb hg
 ·rw [World.cell?_of_block (a:=⟨g5,j,none⟩) h5];exact h.room.1 j hj
 ·have:=h.room.2 j
  simpa [World.frozen?,h5] using this
theorem qS3 {W W':World} {g:Nat} {z:qA1} (h:qC6 W g 0 z) (hb:W'.heap[g]? = W.heap[g]?):qC6 W' g 0 z:=by
 obtain ⟨h0,h1,h2,h3,h4,h5,h6,h7⟩:=h
 have hc:∀ o,W'.cell? ⟨g,o,none⟩=W.cell? ⟨g,o,none⟩:=fun o=>World.cell?_of_block hb
 exact ⟨(hc _).trans h0,(hc _).trans h1,(hc _).trans h2,(hc _).trans h3,(hc _).trans h4,(hc _).trans h5,(hc _).trans h6,(hc _).trans h7⟩
theorem qU3 (b:Nat) (i:Nat) (h:i≠b):∀ (vs:List Value) (o:Nat) (w:World),(w.setCells b o vs).heap[i]? = w.heap[i]?
 | [],_,_=>rfl
 | v::r,o,w=>by rw [World.setCells,qU3 b i h r,Below.heap_setCell _ _ _ i h]
theorem qW5 (b:Nat):∀ (vs:List Value) (o:Nat) (w:World),(w.setCells b o vs).heap.size=w.heap.size
 | [],_,_=>rfl
 | v::r,o,w=>by rw [World.setCells,qW5 b r,World.size_setCell]
theorem QA9 {B b:Nat} {w0:World} (hB:B≤b):∀ (vs:List Value) (o:Nat) (w:World),Below B w0 w→Below B w0 (w.setCells b o vs)
 | [],_,_,h=>h
 | v::r,o,w,h=>by rw [World.setCells];exact QA9 hB r _ _ (h.setCell (p:=⟨b,o,none⟩) hB v)
theorem QAt.push {w:World} {B g off c:Nat} {ws:List qA1} (h:QAt w B g off c ws) (y:qA1) (hc:ws.length+1≤c):QAt (w.setCells g (off+ws.length * 8) (qX5 y)) B g off c (ws++[y]):=by
 have hin:∀ j,j < (qX5 y).length→(w.cell? ⟨g,off+ws.length * 8+j,none⟩).isSome=true:=fun j hj=>by
  have:=(h.room (ws.length * 8+j) (by simp [qX5] at hj;omega)).1
  rwa [← Nat.add_assoc] at this
 have cin:=World.cell?_setCells_in g (qX5 y) (off+ws.length * 8) w hin
 have cout:∀ o,(o < off+ws.length * 8∨off+ws.length * 8+8≤o)→(w.setCells g (off+ws.length * 8) (qX5 y)).cell? ⟨g,o,none⟩=w.cell? ⟨g,o,none⟩:=fun o ho=>World.cell?_setCells_out g _ _ w ⟨g,o,none⟩ (fun _ _=>by simpa [qX5] using ho)
 refine ⟨h.old,by rw [qW5];exact h.lt,fun k r hr=>?_,by simp;omega,fun j hj=>⟨?_,?_⟩⟩
 ·by_cases e:k < ws.length
  ·rw [List.getElem?_append_left e] at hr
   obtain ⟨h0,h1,h2,h3,h4,h5,h6,h7⟩:=h.at' k r hr
   exact ⟨(cout _ (by omega)).trans h0,(cout _ (by omega)).trans h1,(cout _ (by omega)).trans h2,(cout _ (by omega)).trans h3,(cout _ (by omega)).trans h4,(cout _ (by omega)).trans h5,(cout _ (by omega)).trans h6,(cout _ (by omega)).trans h7⟩
  ·have hk:k=ws.length:=by
    by_cases q:k < (ws++[y]).length
    ·simp at q;omega
    ·rw [List.getElem?_eq_none (by omega)] at hr;cases hr
   subst hk
   simp at hr
   subst hr
   have q:∀ i (hi:i < 8),(w.setCells g (off+ws.length * 8) (qX5 y)).cell? ⟨g,off+ws.length * 8+i,none⟩=some ((qX5 y)[i]'(by simp [qX5];omega)):=fun i hi=>cin i (by simp [qX5];omega)
   exact ⟨q 0 (by omega),q 1 (by omega),q 2 (by omega),q 3 (by omega),q 4 (by omega),q 5 (by omega),q 6 (by omega),q 7 (by omega)⟩
 ·by_cases e:ws.length * 8≤j∧j < ws.length * 8+8
  ·have:=cin (j - ws.length * 8) (by simp [qX5];omega)
   rw [show off+ws.length * 8+(j - ws.length * 8)=off+j by omega] at this
   rw [this];rfl
  ·rw [cout _ (by omega)]
   exact (h.room j hj).1
 ·rw [World.frozen?_setCells]
  exact (h.room j hj).2
theorem QP8.after {w:World} {b g5:Nat} {f:RoI→Int} {W W':World} (h:QP8 w b g5 f W) (hb:Below W.heap.size W W'):QP8 w b g5 f W':=by
 have h5:=hb.block g5 h.lt5
 refine ⟨h.below.trans (hb.mono h.below.size),h.gm.below h.gm.lt hb,⟨fun j hj=>?_,fun j=>?_⟩,Nat.lt_of_lt_of_le h.lt5 hb.size,h.ne5,h.old5,h.oldb⟩
 ·rw [World.cell?_of_block (a:=⟨g5,j,none⟩) h5];exact h.room.1 j hj
 ·have:=h.room.2 j
  simpa [World.frozen?,h5] using this
theorem QP8.write {w:World} {b g5:Nat} {f:RoI→Int} {W:World} (h:QP8 w b g5 f W) {g:Nat} (hg:w.heap.size≤g) (hne5:g≠g5) (hneb:g≠b) (o:Nat) (vs:List Value):QP8 w b g5 f (W.setCells g o vs):=by
 have ho:∀ i,i≠g→(W.setCells g o vs).heap[i]? = W.heap[i]? := fun i hi=>qU3 g i hi vs o W
 refine ⟨QA9 hg vs o W h.below,qQ2 h.gm (ho b hneb.symm),⟨fun j hj=>?_,fun j=>?_⟩,by rw [qW5];exact h.lt5,h.ne5,h.old5,h.oldb⟩
 ·rw [World.cell?_of_block (a:=⟨g5,j,none⟩) (ho g5 hne5.symm)];exact h.room.1 j hj
 ·rw [World.frozen?_setCells];exact h.room.2 j
theorem QS3:∀ (a:List qA1) (y:qA1),qR4 (a++[y])=qR4 a++qX5 y
 | [],y=>by simp [qR4]
 | z::zs,y=>by simp [qR4,QS3 zs y]
theorem QT0 {zs:List qA1} {f:RoI→Int} {z:qA1} {ws:List qA1} (h:Work zs f (z::ws)) (r:RoI) (k:Nat):(qF3 zs r ws k).length≤zs.length:=by
 have w:=QC9 r zs (zs.take k) ws (fun x hx=>List.mem_of_mem_take hx) (fun x hx=>h.sub x (by simp [hx])) (List.nodup_cons.1 h.nd).2
 exact QD8 _ _ w.1 w.2.1
theorem new_apart {W':World} {B b g5:Nat} {v:Value} {ws:List qA1} (h:W'.ownsRow B 114 8 v ws.length (qR4 ws)) (hne:ws≠[]) (hb:b < B) (h5:g5 < B):QS W' b g5 v ws:=by
 have hn:v ≠ .slice none 0 0:=fun e=>by
  rcases h.2 with ⟨_,q⟩ | ⟨g,cap,cur,q,_⟩
  ·exact hne (List.eq_nil_of_length_eq_zero q)
  ·rw [e] at q;cases q
 obtain ⟨g,off,c,e,q⟩:=q_of_row h hn
 have:=q.old
 exact ⟨g,off,c,e,⟨by omega,q.lt,q.at',q.le,q.room⟩,by omega,by omega⟩
end

section
open Go.RowKit Go.Maps
theorem settle_c (a:Option Addr) (n cap:Nat) (zs:List qA1) (w:World) (hr:qB6 w a n zs) (hn:n≤16) (hp:qC7 zs=0) :
  Calls Tryz.prog 176 #[.slice a n cap] w fun e w'=>∃ b f,e = .returned (.map (some b))∧GM w' b f∧Work zs f []∧w.heap.size≤b∧Below w.heap.size w w':=by
 have HR:Hid (qB6 w a n zs):=hr
 have HP:Hid (qC7 zs=0):=hp
 clear hr hp
 obtain ⟨i0,hi,hz0,hz1,hz2⟩:=info_parts Tryz.info114
 go_enter Tryz.func176,Tryz.ntmps176
 go_wp2
 refine QX3 (fun l m t W=>∃ g5,atL w zs a n cap w.heap.size g5 l m t W) rfl rfl ?hJ ?first ?core0 ?core1
 case hJ =>
  rintro l m t W ⟨g5,f,ws,v4,u1,u6,u7,u8,u9,u10,u11,u12,u13,u14,u15,u16,u17,u18,u19,u20,u21,u22,u23,u24,u25,u26,u27,u28,u29,u30,u31,u32,u33,u34,u35,u36,u37,u38,u39,u40,u41,u42,u43,u44,u45,u46,u47,e,hs,(⟨rfl,_⟩ | ⟨rfl,_⟩)⟩
  ·exact .inl rfl
  ·exact .inr rfl
 case first =>
  intro pass
  have HPs:Hid _:=pass
  have h1:Below w.heap.size w (w.alloc (.map #[] 0)):=zN
  have hG1:=gm_made w
  have hs1:(w.alloc (.map #[] 0)).heap.size=w.heap.size+1:=World.size_alloc _ _
  have HR1:=HR.out.below h1
  have hmk:(Instr.makeMap 240 none).run Tryz.prog w = .ok (.map (some w.heap.size)) (w.alloc (.map #[] 0)):=run_makeMap _ w
  generalize hw1:w.alloc (.map #[] 0)=w1 at *
  have hnd:=pol_nodup HP.out
  have hzl:=HR.out.1
  go_wp2_with (first | (go_at_call 199;refine (cloneR_c a n cap zs w1 (by omega) HR1).mono ?_;rintro e w2 ⟨v,rfl,hv0,hvq,hb2⟩) | go_in)
  go_step3
  rename_i hK0
  refine hK0 _ _ ?_
  clear hK0
  have hz2':=hb2.size
  have hA:Below w2.heap.size w2 (w2.alloc (.cells #[.int .i64 0,.int .i64 0,.int .i64 0,.int .i64 0,.int .i64 0,.int .i64 0,.int .i64 0,.int .i64 0] 114)):=zN
  have hb02:Below w.heap.size w w2:=h1.trans (hb2.mono (by omega))
  refine wp_weaken (Q:=qU6 (fun l' a' w'=>∃ m',m' < meas zeroF (2 * zs.length+1)∧∃ g5,atL w zs a n cap w.heap.size g5 l' m' a' w') _) ?_ (jumps_weaken (fun l a w q=>q.elim (fun m' q2=>⟨m',q2.2⟩)))
  refine HPs.out (meas zeroF (2 * zs.length+1)) _ _ ?_
  refine ⟨w2.heap.size,zeroF,zs,v,_,_,_,_,_,_,_,_,_,_,_,_,_,_,_,_,_,_,_,_,_,_,_,_,_,_,_,_,_,_,_,_,_,_,_,_,_,_,_,_,_,_,_,rfl,⟨hb02.trans (hA.mono (by omega)),(hG1.below hG1.lt hb2).below (by omega) hA,⟨fun j hj=>?_,fun j=>?_⟩,by simp,by omega,by omega,Nat.le_refl _⟩,.inl ⟨rfl,?_,fun hne=>?_,work_start hnd,rfl⟩⟩
  ·have hj8:j=0∨j=1∨j=2∨j=3∨j=4∨j=5∨j=6∨j=7:=by omega
   rcases hj8 with rfl | rfl | rfl | rfl | rfl | rfl | rfl | rfl <;> exact ⟨.int .i64 0,by unfold World.cell?;rw [World.alloc_heap_new];rfl⟩
  ·unfold World.frozen?
   rw [World.alloc_heap_new]
   simp
  ·by_cases q:n=0
   ·obtain ⟨a',c',e⟩:=hv0 q
    exact ⟨a',c',by rw [e,hzl,q]⟩
   ·obtain ⟨g,off,c,e,_⟩:=hvq (by omega)
    exact ⟨_,_,e⟩
  ·have hnp:0 < n:=by
    rw [← hzl]
    exact List.length_pos_iff.2 hne
   obtain ⟨g,off,c,e,q⟩:=hvq hnp
   have:=q.old
   have:=q.lt
   exact ⟨g,off,c,e,⟨by omega,(q.below q.lt hA).lt,(q.below q.lt hA).at',q.le,(q.below q.lt hA).room⟩,by omega,by omega⟩
 case core0 =>
  rintro m t W ⟨g5,f,ws,v4,u1,u6,u7,u8,u9,u10,u11,u12,u13,u14,u15,u16,u17,u18,u19,u20,u21,u22,u23,u24,u25,u26,u27,u28,u29,u30,u31,u32,u33,u34,u35,u36,u37,u38,u39,u40,u41,u42,u43,u44,u45,u46,u47,rfl,hs,(⟨_,⟨av,cv,rfl⟩,hq,hw,rfl⟩ | ⟨q,_⟩)⟩
  case inr=>cases q
  rcases ws with _ | ⟨z,ws⟩
  ·have HS:Hid (QP8 w w.heap.size g5 f W):=hs
   have HW:Hid (Work zs f []):=hw
   clear hs hw hq
   skip
   go_wp2
   simp only [qU6]
   go_ret
   exact ⟨w.heap.size,f,rfl,HS.out.gm,HW.out,Nat.le_refl _,HS.out.below⟩
  ·obtain ⟨g,off,c,e,Q,hne5,hneb⟩:=hq (by simp)
   simp only [List.length_cons] at e
   cases e
   obtain ⟨k,hk⟩:∃ k,ws.length=k:=⟨_,rfl⟩
   have HK:Hid (ws.length=k):=hk
   have hkc:k+1≤cv:=by have:=Q.le;simp only [List.length_cons] at this;omega
   have hlz:k+1≤16:=by
    have:=hw.len
    simp only [List.length_cons] at this
    have:=HR.out.1
    omega
   simp only [List.length_cons,hk]
   obtain ⟨h0,h1,h2,h3,h4,h5,h6,h7⟩:=Q.at' 0 z rfl
   simp only [Nat.zero_mul,Nat.add_zero] at h0 h1 h2 h3 h4 h5 h6 h7
   obtain ⟨v0,c0⟩:=hs.room.1 0 (by omega)
   obtain ⟨v1,c1⟩:=hs.room.1 1 (by omega)
   obtain ⟨v2,c2⟩:=hs.room.1 2 (by omega)
   obtain ⟨v3,c3⟩:=hs.room.1 3 (by omega)
   obtain ⟨v4,c4⟩:=hs.room.1 4 (by omega)
   obtain ⟨v5,c5⟩:=hs.room.1 5 (by omega)
   obtain ⟨v6,c6⟩:=hs.room.1 6 (by omega)
   obtain ⟨v7,c7⟩:=hs.room.1 7 (by omega)
   have f0:=hs.room.2 0
   have f1:=hs.room.2 1
   have f2:=hs.room.2 2
   have f3:=hs.room.2 3
   have f4:=hs.room.2 4
   have f5:=hs.room.2 5
   have f6:=hs.room.2 6
   have f7:=hs.room.2 7
   have HS:Hid (QP8 w w.heap.size g5 f W):=hs
   have HW:Hid (Work zs f (z::ws)):=hw
   have HQ:Hid (QAt W w.heap.size g off cv (z::ws)):=Q
   have i0':(0:Int) < (k:Int)+1:=by omega
   have i1:(1:Int)≤(k:Int)+1:=by omega
   have i2:(k:Int)+1≤(cv:Int):=by omega
   have i3:(k:Int)+1≤16:=by omega
   clear hs hw hq Q hk
   skip
   go_wp2
   go_region
   obtain ⟨X,hX⟩:∃ X,X=((((((((W.setCell ⟨g5,0,none⟩ (.int .i64 z.k)).setCell ⟨g5,1,none⟩ (.int .i64 z.ho)).setCell ⟨g5,2,none⟩ (.int .i64 z.hn)).setCell ⟨g5,3,none⟩ (.int .i64 z.w)).setCell ⟨g5,4,none⟩ (.int .i64 z.oo)).setCell ⟨g5,5,none⟩ (.int .i64 z.on)).setCell ⟨g5,6,none⟩ (.int .i64 z.to)).setCell ⟨g5,7,none⟩ (.int .i64 z.tn)):=⟨_,rfl⟩
   obtain ⟨S1,R1,O1,Z1⟩:=set_put HS.out z hX
   rw [← hX]
   clear hX
   obtain ⟨av',hav⟩:∃ av',(if cv=1 then (some ⟨g,off,none⟩:Option Addr) else some ⟨g,off+8,none⟩)=av':=⟨_,rfl⟩
   rw [hav]
   have HAV:Hid (∀ X':World,QAt X' w.heap.size g off cv (z::ws)→QS X' w.heap.size g5 (.slice av' k (cv - 1)) ws):=fun X' q=>by
    rw [← hav]
    by_cases e:cv=1
    ·have hk0:k=0:=by omega
     have hw0:ws=[]:=List.eq_nil_of_length_eq_zero (by rw [HK.out];exact hk0)
     subst hw0
     refine ⟨g,off,0,by rw [if_pos e,e,hk0];rfl,?_,hne5,hneb⟩
     have q2:=q.pop
     rw [e] at q2
     exact q2.empty
    ·exact ⟨g,off+8,cv - 1,by rw [if_neg e,HK.out],q.pop,hne5,hneb⟩
   clear hav
   obtain ⟨W1,hW1⟩:∃ W1,X.drew=W1:=⟨_,rfl⟩
   rw [hW1] at S1 R1 O1 Z1 ⊢
   have HS1:Hid (QP8 w w.heap.size g5 f W1):=S1
   have Q1':QAt W1 w.heap.size g off cv (z::ws):=HQ.out.kept (by omega) (O1 g hne5)
   have HQ1:Hid (QAt W1 w.heap.size g off cv (z::ws)):=Q1'
   have HR1:Hid (qC6 W1 g5 0 z):=R1
   obtain ⟨d0,d1,d2,d3,d4,d5,d6,d7⟩:=R1
   simp only [Nat.zero_add] at d0 d1 d2 d3 d4 d5 d6 d7
   have hlt5:g5 < W1.heap.size:=S1.lt5
   have hcz:qA8 z=0:=QD5 HP.out z (HW.out.sub z (by simp))
   have hB:qD3 z.ho z.hn=true∧okR z:=⟨(qW6 hcz).2.2.1,(okR_of hcz).1⟩
   obtain ⟨t,ht⟩:∃ t,(!decide (orI (f (z.ho,z.hn)) (byF f z)=f (z.ho,z.hn)))=t:=⟨_,rfl⟩
   have HT:Hid (∀ X:World,Below W1.heap.size W1 X→Calls Tryz.prog 201 #[.map (some w.heap.size),.agg #[.int .i64 z.k,.int .i64 z.ho,.int .i64 z.hn,.int .i64 z.w,.int .i64 z.oo,.int .i64 z.on,.int .i64 z.to,.int .i64 z.tn]] X fun e w'=>e = .returned (.int .u8 (byF f z))∧Below X.heap.size X w'):=fun X hX=>told_c w.heap.size f z X (HS1.out.gm.below HS1.out.gm.lt hX) hcz
   have HV:Hid (∀ X:World,Below W1.heap.size W1 X→Calls Tryz.prog 200 #[.map (some w.heap.size),.agg #[.int .i64 z.ho,.int .i64 z.hn],.int .u8 (byF f z)] X fun e w'=>e = .returned (.bool t)∧GM w' w.heap.size (qS6 f (z.ho,z.hn) (byF f z))∧X.grownBy w' (some w.heap.size)):=fun X hX =>
    (give_c w.heap.size f (z.ho,z.hn) (byF f z) X (HS1.out.gm.below HS1.out.gm.lt hX) hB.1 (QN6 HS1.out.gm.fn.st hB.2)).mono (fun e w' q=>⟨by rw [q.1,ht],q.2.1,q.2.2⟩)
   have HH:Hid ((!decide (orI (f (z.ho,z.hn)) (byF f z)=f (z.ho,z.hn)))=t∧okR z):=⟨ht,hB.2⟩
   clear h0 h1 h2 h3 h4 h5 h6 h7 c0 c1 c2 c3 c4 c5 c6 c7 f0 f1 f2 f3 f4 f5 f6 f7 S1 O1 Q1' hW1 ht hB hcz
   cases t
   ·go_wp2
    go_region_with (first
     | (go_at_call 201;refine (HT.out W1.drew (Below.refl _ W1).drew).mono ?_;rintro e W2 ⟨rfl,hb2d⟩;have hb2:Below W1.heap.size W1 W2:=(Below.refl _ W1).drew.trans hb2d;clear hb2d;have q1:=(hb2.cell (p:=⟨g5,1,none⟩) hlt5).trans d1;have q2:=(hb2.cell (p:=⟨g5,2,none⟩) hlt5).trans d2)
     | (go_at_call 200;refine (HV.out _ hb2).mono ?_;rintro e W3 ⟨rfl,hG3,hg3⟩))
    all_goals go_wp2
    all_goals go_step3
    all_goals
     have hsame:qS6 f (z.ho,z.hn) (byF f z)=f:=give_same (by simpa using HH.out.1)
     have heq:orI (f (z.ho,z.hn)) (byF f z)=f (z.ho,z.hn):=by simpa using HH.out.1
     rw [hsame] at hG3
     obtain ⟨S3,O3,Z3⟩:=set_turn HS1.out hb2 hg3 hG3
     exact ⟨meas f (2 * ws.length+1),meas_lt _ _ (by have:=HK.out;omega),g5,f,ws,_,_,_,_,_,_,_,_,_,_,_,_,_,_,_,_,_,_,_,_,_,_,_,_,_,_,_,_,_,_,_,_,_,_,_,_,_,_,_,_,_,_,_,_,rfl,S3,.inl ⟨rfl,⟨_,_,by rw [HK.out]⟩,fun hne=>HAV.out W3 (HQ1.out.kept (by omega) (O3 g hneb HQ1.out.lt)),work_stay HW.out HH.out.2 heq,rfl⟩⟩
   ·go_wp2
    go_region_with (first
     | (go_at_call 201;refine (HT.out W1.drew (Below.refl _ W1).drew).mono ?_;rintro e W2 ⟨rfl,hb2d⟩;have hb2:Below W1.heap.size W1 W2:=(Below.refl _ W1).drew.trans hb2d;clear hb2d;have q1:=(hb2.cell (p:=⟨g5,1,none⟩) hlt5).trans d1;have q2:=(hb2.cell (p:=⟨g5,2,none⟩) hlt5).trans d2)
     | (go_at_call 200;refine (HV.out _ hb2).mono ?_;rintro e W3 ⟨rfl,hG3,hg3⟩))
    all_goals go_wp2
    all_goals go_step3
    all_goals
     have hneq:orI (f (z.ho,z.hn)) (byF f z)≠f (z.ho,z.hn):=by simpa using HH.out.1
     obtain ⟨S3,O3,Z3⟩:=set_turn HS1.out hb2 hg3 hG3
     have hgr:sumF f < sumF (qS6 f (z.ho,z.hn) (byF f z)):=sumF_give HS1.out.gm.fn HH.out.2.1 (QN6 HS1.out.gm.fn.st HH.out.2) hneq
     exact ⟨meas (qS6 f (z.ho,z.hn) (byF f z)) 500,meas_grow HS1.out.gm.fn hG3.fn hgr _ _ (by omega),g5,qS6 f (z.ho,z.hn) (byF f z),ws,_,_,_,_,_,_,_,_,_,_,_,_,_,_,_,_,_,_,_,_,_,_,_,_,_,_,_,_,_,_,_,_,_,_,_,_,_,_,_,_,_,_,_,_,rfl,S3,.inr ⟨rfl,HAV.out W3 (HQ1.out.kept (by omega) (O3 g hneb HQ1.out.lt)),rfl,z,f,qS3 HR1.out (O3 g5 HS1.out.ne5 hlt5),HW.out,rfl⟩⟩
 case core1 =>
  rintro m t W ⟨g5,f,ws,v4,u1,u6,u7,u8,u9,u10,u11,u12,u13,u14,u15,u16,u17,u18,u19,u20,u21,u22,u23,u24,u25,u26,u27,u28,u29,u30,u31,u32,u33,u34,u35,u36,u37,u38,u39,u40,u41,u42,u43,u44,u45,u46,u47,rfl,hs,(⟨q,_⟩ | ⟨_,hq,rfl,z,f0,hz,hw,rfl⟩)⟩
  case inl=>cases q
  have HS0:Hid (QP8 w w.heap.size g5 (qS6 f0 (z.ho,z.hn) (byF f0 z)) W):=hs
  have HW:Hid (Work zs f0 (z::ws)):=hw
  have HQ0:Hid (QS W w.heap.size g5 v4 ws):=hq
  have HZ0:Hid (qC6 W g5 0 z):=hz
  have hn':(n:Int)≤16:=by omega
  obtain ⟨f,hf⟩:∃ f,qS6 f0 (z.ho,z.hn) (byF f0 z)=f:=⟨_,rfl⟩
  have HF:Hid (qS6 f0 (z.ho,z.hn) (byF f0 z)=f):=hf
  rw [hf] at HS0
  rw [hf]
  clear hs hw hq hz hf
  skip
  go_wp2
  go_loopw [4,29] (fun v i wr=>∃ k:Nat,k≤n∧i = .int .i64 (k:Int)∧QP8 w w.heap.size g5 f wr∧QS wr w.heap.size g5 v (qF3 zs (z.ho,z.hn) ws k)∧qC6 wr g5 0 z) (fun _ i _=>n - (intOf i).toNat)
  case atStart=>exact ⟨0,Nat.zero_le _,rfl,HS0.out,by simpa [qF3] using HQ0.out,HZ0.out⟩
  case round =>
   obtain ⟨k,hk,rfl,hs,hq,hz⟩:=hrel
   by_cases hlt:k < n
   ·obtain ⟨bl,ol,y,rfl,hy,hyx⟩:=HR.out.at hlt
    obtain ⟨g,off,c,rfl,Q,hne5,hneb⟩:=hq
    obtain ⟨L,hL⟩:∃ L,(qF3 zs (z.ho,z.hn) ws k).length=L:=⟨_,rfl⟩
    have HL:Hid ((qF3 zs (z.ho,z.hn) ws k).length=L):=hL
    rw [hL]
    have HY:Hid (zs[k]? = some y):=hy
    obtain ⟨h0,h1,h2,h3,h4,h5,h6,h7⟩:=hyx.below hs.below
    obtain ⟨w2,hw2⟩:∃ w2,w2=wr.alloc (.cells #[.int .i64 y.k,.int .i64 y.ho,.int .i64 y.hn,.int .i64 y.w,.int .i64 y.oo,.int .i64 y.on,.int .i64 y.to,.int .i64 y.tn] 114):=⟨_,rfl⟩
    have hA:Below wr.heap.size wr w2:=by rw [hw2];exact zN
    have R2:qC6 w2 wr.heap.size 0 y:=by rw [hw2];exact qC6.new wr y _
    have hsz2:w2.heap.size=wr.heap.size+1:=by rw [hw2];simp
    have HS2:Hid (QP8 w w.heap.size g5 f w2):=hs.after hA
    have HQ2:Hid (QAt w2 w.heap.size g off c (qF3 zs (z.ho,z.hn) ws k)):=Q.below Q.lt hA
    have HZ2:Hid (qC6 w2 g5 0 z):=qS3 hz (hA.block g5 hs.lt5)
    have hlt':(k:Int) < (n:Int):=by omega
    have hyk:1≤y.k∧y.k≤4:=by have:=qW6 (QD5 HP.out y (List.mem_of_getElem? hy));exact ⟨this.1,this.2.1⟩
    have HY2:Hid (qC6 w2 wr.heap.size 0 y):=R2
    obtain ⟨_,zc1,zc2,_⟩:=hz
    simp only [Nat.zero_add] at zc1 zc2
    have hl5:g5 < wr.heap.size:=hs.lt5
    clear hs Q hyx hL hy hA R2
    go_wp2_with fail
    rw [← hw2]
    clear hw2 h0 h1 h2 h3 h4 h5 h6 h7 zc1 zc2
    obtain ⟨t,ht⟩:∃ t,qH1 y (z.ho,z.hn)=t:=⟨_,rfl⟩
    refine (leansOn_c y (z.ho,z.hn) _ hyk).mono ?_
    rintro e w3 ⟨rfl,hb3⟩
    rw [ht]
    have HT:Hid (qH1 y (z.ho,z.hn)=t):=ht
    have HS3:Hid (QP8 w w.heap.size g5 f w3):=HS2.out.after hb3
    have HQ3:Hid (QAt w3 w.heap.size g off c (qF3 zs (z.ho,z.hn) ws k)):=HQ2.out.below HQ2.out.lt hb3
    have HZ3:Hid (qC6 w3 g5 0 z):=qS3 HZ2.out (hb3.block g5 HS2.out.lt5)
    have Y3:qC6 w3 wr.heap.size 0 y:=HY2.out.below hb3
    have HY3:Hid (qC6 w3 wr.heap.size 0 y):=Y3
    obtain ⟨y0,y1,y2,y3,y4,y5,y6,y7⟩:=Y3
    simp only [Nat.zero_add] at y0 y1 y2 y3 y4 y5 y6 y7
    have hsz3:=hb3.size
    clear ht hb3
    cases t
    ·have HE:Hid (qF3 zs (z.ho,z.hn) ws (k+1)=qF3 zs (z.ho,z.hn) ws k):=by
      show qF3 zs (z.ho,z.hn) ws (k+1)=_
      rw [QB5 HY.out,if_neg (fun q=>by rw [HT.out] at q;cases q.1)]
     go_wp2
     exact ⟨⟨k+1,by omega,by go_num,HS3.out,⟨g,off,c,by rw [HE.out,HL.out],by rw [HE.out];exact HQ3.out,hne5,hneb⟩,HZ3.out⟩,by simp [intOf];omega⟩
    ·go_wp2_with fail
     obtain ⟨u,hu⟩:∃ u,decide (y∈qF3 zs (z.ho,z.hn) ws k)=u:=⟨_,rfl⟩
     refine (QG0 (some ⟨g,off,none⟩) L c (qF3 zs (z.ho,z.hn) ws k) y _ ?_ ⟨HL.out,fun _=>⟨g,off,rfl,HQ3.out.at'⟩⟩).mono ?_
     ·have:=QT0 HW.out (z.ho,z.hn) k
      have:=HL.out
      have:=HR.out.1
      omega
     rintro e w4 ⟨rfl,hb4⟩
     rw [hu]
     have HU:Hid (decide (y∈qF3 zs (z.ho,z.hn) ws k)=u):=hu
     have HS4:Hid (QP8 w w.heap.size g5 f w4):=HS3.out.after hb4
     have HQ4:Hid (QAt w4 w.heap.size g off c (qF3 zs (z.ho,z.hn) ws k)):=HQ3.out.below HQ3.out.lt hb4
     have HZ4:Hid (qC6 w4 g5 0 z):=qS3 HZ3.out (hb4.block g5 HS3.out.lt5)
     have Y4:qC6 w4 wr.heap.size 0 y:=HY3.out.below hb4
     have HY4:Hid (qC6 w4 wr.heap.size 0 y):=Y4
     obtain ⟨x0,x1,x2,x3,x4,x5,x6,x7⟩:=Y4
     simp only [Nat.zero_add] at x0 x1 x2 x3 x4 x5 x6 x7
     have hsz4:=hb4.size
     clear hu hb4 y0 y1 y2 y3 y4 y5 y6 y7
     cases u
     ·have HE:Hid (qF3 zs (z.ho,z.hn) ws (k+1)=qF3 zs (z.ho,z.hn) ws k++[y]):=by
       show qF3 zs (z.ho,z.hn) ws (k+1)=_
       rw [QB5 HY.out,if_pos ⟨HT.out,of_decide_eq_false HU.out⟩]
      have hL16:L≤16:=by
       have:=QT0 HW.out (z.ho,z.hn) k
       have:=HL.out
       have:=HR.out.1
       omega
      have hA5:Below w4.heap.size w4 (w4.alloc (.cells #[.int .i64 y.k,.int .i64 y.ho,.int .i64 y.hn,.int .i64 y.w,.int .i64 y.oo,.int .i64 y.on,.int .i64 y.to,.int .i64 y.tn] 114)):=zN
      have HB5:Hid (Below w4.heap.size w4 (w4.alloc (.cells #[.int .i64 y.k,.int .i64 y.ho,.int .i64 y.hn,.int .i64 y.w,.int .i64 y.oo,.int .i64 y.on,.int .i64 y.to,.int .i64 y.tn] 114))):=hA5
      have HQ5:Hid (QAt (w4.alloc (.cells #[.int .i64 y.k,.int .i64 y.ho,.int .i64 y.hn,.int .i64 y.w,.int .i64 y.oo,.int .i64 y.on,.int .i64 y.to,.int .i64 y.tn] 114)) w.heap.size g off c (qF3 zs (z.ho,z.hn) ws k)):=HQ4.out.below HQ4.out.lt hA5
      have HS5:Hid (QP8 w w.heap.size g5 f (w4.alloc (.cells #[.int .i64 y.k,.int .i64 y.ho,.int .i64 y.hn,.int .i64 y.w,.int .i64 y.oo,.int .i64 y.on,.int .i64 y.to,.int .i64 y.tn] 114))):=HS4.out.after hA5
      have HZ5:Hid (qC6 (w4.alloc (.cells #[.int .i64 y.k,.int .i64 y.ho,.int .i64 y.hn,.int .i64 y.w,.int .i64 y.oo,.int .i64 y.on,.int .i64 y.to,.int .i64 y.tn] 114)) g5 0 z):=qS3 HZ4.out (hA5.block g5 HS4.out.lt5)
      have HNW:Hid (∀ j u,(qX5 y)[j]? = some u→(w4.alloc (.cells #[.int .i64 y.k,.int .i64 y.ho,.int .i64 y.hn,.int .i64 y.w,.int .i64 y.oo,.int .i64 y.on,.int .i64 y.to,.int .i64 y.tn] 114)).cell? ((⟨w4.heap.size,0,none⟩:Addr).add j)=some u):=World.news_of_block (World.alloc_heap_new w4 _)
      clear hA5
      go_wp2_with (first | (at_builtin;refine wpList_append_arg _ rfl _ _ 68 rfl 114 i0 (.agg #[.int .i64 0,.int .i64 0,.int .i64 0,.int .i64 0,.int .i64 0,.int .i64 0,.int .i64 0,.int .i64 0]) 8 64 Tryz.under68 hi hz0 hz1 hz2 rfl (by decide) g off L c (qR4 (qF3 zs (z.ho,z.hn) ws k)) rfl ?lo ?olds ⟨w4.heap.size,0,none⟩ 1 1 (qX5 y) rfl rfl HNW.out ?c2 ?spare ?ml ?bt ?room ?grow) | go_in)
      case lo=>rw [qW1,HL.out]
      case olds=>exact QJ9 HQ5.out.at'
      case c2=>exact fun u hu=>QN3 [y] u (by simpa [qR4] using hu)
      case spare =>
       intro hle j hj
       have:=HQ5.out.room (L * 8+j) (by simp [qX5] at hj;omega)
       rwa [← Nat.add_assoc] at this
      case ml=>unfold maxLen;omega
      case bt=>omega
      case room =>
       intro hle
       have Q6:=HQ5.out.push y (by rw [HL.out];exact hle)
       rw [HL.out] at Q6
       have HQ6:Hid _:=Q6
       have S6:=HS5.out.write (Nat.le_trans HS5.out.oldb HQ5.out.old) hne5 hneb (off+L * 8) (qX5 y)
       have Z6:=qS3 HZ5.out (qU3 g g5 hne5.symm (qX5 y) (off+L * 8) _)
       generalize World.setCells _ g (off+L * 8) (qX5 y)=w6 at *
       go_wp2
       exact ⟨⟨k+1,by omega,by go_num,S6,⟨g,off,c,by rw [HE.out];simp [HL.out],by rw [HE.out];exact Q6,hne5,hneb⟩,Z6⟩,by simp [intOf];omega⟩
      case grow =>
       intro hlt6 v' w6 ho6 hg6
       rw [← QS3,← HE.out] at ho6
       have hl6:(qF3 zs (z.ho,z.hn) ws (k+1)).length=L+1:=by rw [HE.out];simp [HL.out]
       rw [← hl6] at ho6
       have hlt4:w4.heap.size < (w4.alloc (.cells #[.int .i64 y.k,.int .i64 y.ho,.int .i64 y.hn,.int .i64 y.w,.int .i64 y.oo,.int .i64 y.on,.int .i64 y.to,.int .i64 y.tn] 114)).heap.size:=by simp
       have HQ6:Hid (QS w6 w.heap.size g5 v' (qF3 zs (z.ho,z.hn) ws (k+1))):=new_apart ho6 (fun e=>by rw [e] at hl6;simp at hl6) (by have:=HS4.out.gm.lt;omega) (by have:=HS4.out.lt5;omega)
       have hb6:Below (w4.alloc (.cells #[.int .i64 y.k,.int .i64 y.ho,.int .i64 y.hn,.int .i64 y.w,.int .i64 y.oo,.int .i64 y.on,.int .i64 y.to,.int .i64 y.tn] 114)).heap.size (w4.alloc (.cells #[.int .i64 y.k,.int .i64 y.ho,.int .i64 y.hn,.int .i64 y.w,.int .i64 y.oo,.int .i64 y.on,.int .i64 y.to,.int .i64 y.tn] 114)) w6:=(Below.refl _ _).grown hg6 (Nat.le_refl _) (fun q e=>by cases e)
       have S6:=HS5.out.after hb6
       have Z6:=qS3 HZ5.out (hb6.block g5 HS5.out.lt5)
       clear ho6 hg6 hb6
       go_wp2
       exact ⟨⟨k+1,by omega,by go_num,S6,HQ6.out,Z6⟩,by simp [intOf];omega⟩
     ·have HE:Hid (qF3 zs (z.ho,z.hn) ws (k+1)=qF3 zs (z.ho,z.hn) ws k):=by
       show qF3 zs (z.ho,z.hn) ws (k+1)=_
       rw [QB5 HY.out,if_neg (fun q=>q.2 (of_decide_eq_true HU.out))]
      go_wp2
      exact ⟨⟨k+1,by omega,by go_num,HS4.out,⟨g,off,c,by rw [HE.out,HL.out],by rw [HE.out];exact HQ4.out,hne5,hneb⟩,HZ4.out⟩,by simp [intOf];omega⟩
   ·have hkn:k=n:=by omega
    subst hkn
    have HQ:Hid (QS wr w.heap.size g5 u4 (qF3 zs (z.ho,z.hn) ws k)):=hq
    have HSe:Hid (QP8 w w.heap.size g5 f wr):=hs
    have HWe:Hid (Work zs f (qF3 zs (z.ho,z.hn) ws k)):=by
     have h1:=work_grow (fun y hy=>⟨(okR_of (QD5 HP.out y hy)).1,(okR_of (QD5 HP.out y hy)).2⟩) HW.out
     rw [HF.out,HR.out.1] at h1
     exact h1
    have hL16:(qF3 zs (z.ho,z.hn) ws k).length≤16:=by
     have:=QT0 HW.out (z.ho,z.hn) k
     have:=HR.out.1
     omega
    clear hs hq hz
    go_wp2
    go_step3
    obtain ⟨g,off,c,hv,hrest⟩:=HQ.out
    exact ⟨meas f (2 * (qF3 zs (z.ho,z.hn) ws k).length+1),meas_lt _ _ (by omega),g5,f,qF3 zs (z.ho,z.hn) ws k,u4,_,_,_,_,_,_,_,_,_,_,_,_,_,_,_,_,_,_,_,_,_,_,_,_,_,_,_,_,_,_,_,_,_,_,_,_,_,_,_,_,_,_,_,rfl,HSe.out,.inl ⟨rfl,⟨_,_,hv⟩,fun _=>HQ.out,HWe.out,rfl⟩⟩
end

theorem all_some (zs:List qA1) (hc:qC7 zs=0):∃ gs,QJ0 zs gs:=by
 have hz:∀ z∈zs,okR z:=fun z h=>((pol_ok hc).2 z h).1
 obtain ⟨n,_,h⟩:=it_ends hz
 exact ⟨_,allG_it hz h⟩
theorem pol_n16 {zs:List qA1} {n:Nat} (h:zs.length=n) (hc:qC7 zs=0):n≤16:=by
 unfold qC7 at hc
 split at hc
 ·simp at hc
 ·omega

theorem or64_c (g:Nat) (c d:Int) (w:World) (h0:w.cell? ⟨g,0,none⟩=some (.int .i64 c)) (h1:w.cell? ⟨g,1,none⟩=some (.int .i64 d)) :
  Calls Tryz.prog 147 #[.slice (some ⟨g,0,none⟩) 2 2] w fun e w'=>e = .returned (.int .i64 (orC c d))∧w=w':=by
 go_enter Tryz.func147,Tryz.ntmps147
 go_wp2
 go_loop [8] (fun i=>∃ k:Nat,k≤2∧i = .int .i64 (k:Int)∧(1≤k→c=0)∧(2≤k→d=0)) (fun i=>2 - (intOf i).toNat)
 case atStart=>exact ⟨0,by omega,rfl,fun h=>by omega,fun h=>by omega⟩
 case round =>
  obtain ⟨k,hk,rfl,hc,hd⟩:=hrel
  have hk':k=0∨k=1∨k=2:=by omega
  rcases hk' with rfl | rfl | rfl
  ·clear hc hd
   by_cases e:c=0
   ·have b:(c != 0)=false:=by simp [e]
    have HE:Hid (c=0):=e
    clear e
    go_wp2
    exact ⟨⟨1,by omega,by go_num,fun _=>HE.out,fun h=>by omega⟩,by simp [intOf]⟩
   ·have b:(c != 0)=true:=by simp [e]
    go_wp2
    go_ret
    exact ⟨by simp [orC,e],rfl⟩
  ·have HC:Hid (c=0):=hc (by omega)
   clear hc hd
   by_cases e:d=0
   ·have b:(d != 0)=false:=by simp [e]
    have HE:Hid (d=0):=e
    clear e
    go_wp2
    exact ⟨⟨2,by omega,by go_num,fun _=>HC.out,fun _=>HE.out⟩,by simp [intOf]⟩
   ·have b:(d != 0)=true:=by simp [e]
    go_wp2
    go_ret
    exact ⟨by simp [orC,HC.out],rfl⟩
  ·have HC:Hid (c=0):=hc (by omega)
   have HD:Hid (d=0):=hd (by omega)
   clear hc hd
   go_wp2
   go_ret
   exact ⟨by simp [orC,HC.out,HD.out],rfl⟩
theorem kp_new {W w:World} (h:(∀ b o,b < W.heap.size→w.cell? ⟨b,o,none⟩=W.cell? ⟨b,o,none⟩)∧Below W.heap.size W w) (o:Obj):(∀ b i,b < W.heap.size→(w.alloc o).cell? ⟨b,i,none⟩=W.cell? ⟨b,i,none⟩)∧Below W.heap.size W (w.alloc o) :=
 qA0 h (zN)
theorem allRo_ss:SS QW7:=by
 unfold SS
 decide
theorem fn_list {f:RoI→Int} (h:FN f):∃ gs,SG gs∧ofG gs=f:=by
 refine ⟨_,sg_keys h (rs:=QW7.filter (fun r=>decide (f r≠0))) ?_ (fun r=>?_)⟩
 ·exact List.Pairwise.sublist List.filter_sublist allRo_ss
 ·rw [List.mem_filter]
  exact ⟨fun q=>of_decide_eq_true q.2,fun q=>⟨QL3 (h.ro r q),decide_eq_true q⟩⟩
theorem gm_list {w:World} {b:Nat} {f:RoI→Int} (h:GM w b f):∃ gs,SG gs∧ofG gs=f:=fn_list h.fn

end Go.Proofs.YtlhgjackapdmbaaGreatDoor
