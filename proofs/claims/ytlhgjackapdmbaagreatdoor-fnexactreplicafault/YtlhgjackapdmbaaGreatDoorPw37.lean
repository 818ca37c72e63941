/- Contracts. -/
import Derived.Test.YtlhgjackapdmbaaGreatDoorPw16
import Derived.Deep.WholeRow
import Derived.Test.YtlhgjackapdmbaaGreatDoorPw32
import Derived.Test.YtlhgjackapdmbaaGreatDoorPw36
import Derived.Test.YtlhgjackapdmbaaGreatDoorPw23
namespace Go.Proofs.YtlhgjackapdmbaaGreatDoor
set_option maxRecDepth 100000
set_option maxHeartbeats 8000000
open Go.RowKit
set_option linter.unusedVariables false
set_option linter.unusedSimpArgs false

theorem l5Take_nil (b:Option Addr) (m cap2:Nat) (ys:List LkI) (w:World) (hm:m≤100) (hy:qI8 w b m ys) (hys:SL ys) (hyo:∀ x∈ys,okL x=true) :
  qG7 99 #[.slice none 0 0,.slice b m cap2] (qH8 [] ys) (tkL [] ys) w:=by
 have h:qI8 w none 0 ([]:List LkI):=⟨rfl,fun h=>by omega⟩
 have hs:SL ([]:List LkI):=List.Pairwise.nil
 have ho:∀ x∈([]:List LkI),okL x=true:=by simp
 have HG:Hid (qI8 w none 0 ([]:List LkI)):=h
 have HY:Hid (qI8 w b m ys):=hy
 have HYS:Hid (SL ys):=hys
 have HYO:Hid (∀ x∈ys,okL x=true):=hyo
 have HZ:Hid (([]:List LkI).length=0):=h.1
 have HM:Hid (ys.length=m):=hy.1
 have HS0:Hid (TkS ([]:List LkI) ys 0 ([]:List LkI)):=TkS.zero ys hs ho
 obtain ⟨i0,hi,hz0,hz1,hz2⟩:=info_parts Tryz.info98
 have hm':(m:Int)≤100:=by omega
 obtain ⟨c,hc⟩:∃ c,qH8 ([]:List LkI) ys=c:=⟨_,rfl⟩
 obtain ⟨L,hL⟩:∃ L,tkL ([]:List LkI) ys=L:=⟨_,rfl⟩
 have HC:Hid (qH8 ([]:List LkI) ys=c):=hc
 have HL:Hid (tkL ([]:List LkI) ys=L):=hL
 rw [hc,hL]
 obtain ⟨W,hW⟩:∃ W,W=w.alloc (.cells #[.int .i64 0,.slice none 0 0] 124):=⟨_,rfl⟩
 have HW:Hid (W=w.alloc (.cells #[.int .i64 0,.slice none 0 0] 124)):=hW
 have hzW:W.heap.size=w.heap.size+1:=by rw [hW];simp
 have B0:Hid (Below w.heap.size w W):=by rw [hW];exact zN
 have D0:Hid (W.cell? ⟨w.heap.size,0,none⟩=some (.int .i64 0)∧W.cell? ⟨w.heap.size,1,none⟩=some (.slice none 0 0)∧W.frozen? ⟨w.heap.size,0,none⟩=false∧W.frozen? ⟨w.heap.size,1,none⟩=false):=by rw [hW];exact ⟨by go_cell,by go_cell,by simp [go_sem],by simp [go_sem]⟩
 have H5:Hid ((W.alloc (.cells #[] 98)).ownsRow (w.heap.size+1) 98 4 (.slice (some ⟨w.heap.size+1,0,none⟩) 0 0) 0 []):=by
  have h0:=World.ownsRow_lit (base:=w.heap.size+1) (e:=98) (size:=4) W #[] 0 (by omega) (Nat.zero_le _) rfl
  rw [hzW] at h0
  exact h0
 have G5:Hid (qI8 (W.alloc (.cells #[] 98)) none 0 ([]:List LkI)):=(h.below B0.out).below (zN)
 clear h hy hs ho hys hyo hc hL hW
 unfold qG7
 go_enter Tryz.func99,Tryz.ntmps99
 go_upto_region 1 with fail
 rw [← HW.out]
 go_wp2_with (first
  | (at_builtin;refine wpList_append_own_none rfl _ _ 31 rfl (w.heap.size+1) 98 i0 4 Tryz.underlying31 hi (.slice (some ⟨w.heap.size+1,0,none⟩) 0 0) 0 [] rfl H5.out rfl ?_)
  | fail)
 obtain ⟨w6,hw6⟩:∃ w6,w6=W.alloc (.cells #[] 98):=⟨_,rfl⟩
 have hown6:=H5.out
 have hgrow6:=qY4 (W.alloc (.cells #[] 98)) (Value.slice (some ⟨w.heap.size+1,0,none⟩) 0 0).ownBlock
 rw [← hw6] at hown6
 have hgrow6':(W.alloc (.cells #[] 98)).grownBy w6 (Value.slice (some ⟨w.heap.size+1,0,none⟩) 0 0).ownBlock:=by rw [hw6];exact qY4 _ _
 clear hgrow6
 have hgrow6:=hgrow6'
 clear hgrow6'
 have HS6:Hid (w6.heap.size=w.heap.size+1+1):=by
  show w6.heap.size=_
  rw [hw6]
  simp
  omega
 rw [← hw6]
 have BW6:Below w.heap.size w w6:=(B0.out.alloc (by omega) _).grown hgrow6 (by simp;omega) (fun q e=>by simp [Value.ownBlock] at e;omega)
 have hg6:=hown6.lt (w.heap.size+1) rfl
 have hne6:some w.heap.size≠(Value.slice (some ⟨w.heap.size+1,0,none⟩) 0 0).ownBlock:=by simp [Value.ownBlock]
 have k0:(W.alloc (.cells #[] 98)).cell? ⟨w.heap.size,0,none⟩=some (.int .i64 0):=(World.cell?_alloc_lt _ _ ⟨w.heap.size,0,none⟩ (by simp only;omega)).trans D0.out.1
 have k1:(W.alloc (.cells #[] 98)).cell? ⟨w.heap.size,1,none⟩=some (.slice none 0 0):=(World.cell?_alloc_lt _ _ ⟨w.heap.size,1,none⟩ (by simp only;omega)).trans D0.out.2.1
 have k2:(W.alloc (.cells #[] 98)).frozen? ⟨w.heap.size,0,none⟩=false:=(World.frozen?_alloc_old _ _ ⟨w.heap.size,0,none⟩ (by simp only;omega)).trans D0.out.2.2.1
 have k3:(W.alloc (.cells #[] 98)).frozen? ⟨w.heap.size,1,none⟩=false:=(World.frozen?_alloc_old _ _ ⟨w.heap.size,1,none⟩ (by simp only;omega)).trans D0.out.2.2.2
 have A6:Below w6.heap.size w6 (w6.alloc (.cells #[.int .i64 0,.slice (some ⟨w.heap.size+1,0,none⟩) 0 0] 124)):=zN
 have hlw:w.heap.size < w6.heap.size:=by have:=hg6.2;have:=hg6.1;omega
 have hla:w.heap.size < (W.alloc (.cells #[] 98)).heap.size:=by simp;omega
 have T6:Hid (TT w (w6.alloc (.cells #[.int .i64 0,.slice (some ⟨w.heap.size+1,0,none⟩) 0 0] 124)) w6.heap.size ([]:List LkI) (w.heap.size+1) 0):=by
  have ho6:qB0 w6 w.heap.size (.slice (some ⟨w.heap.size+1,0,none⟩) 0 0) ([]:List LkI):=qA9 (B:=w.heap.size+1) hown6 (by omega)
  exact ⟨ho6.below A6,by simp,by simp,by simp [go_sem],by simp [go_sem],by have:=hg6.2;omega,hlw,by have:=hg6.1;omega,(A6.cell (p:=⟨w.heap.size,0,none⟩) hlw).trans (hgrow6.cell k0 hne6),(A6.cell (p:=⟨w.heap.size,1,none⟩) hlw).trans (hgrow6.cell k1 hne6),(A6.frozen (p:=⟨w.heap.size,0,none⟩) hlw).trans (qP5 hgrow6 hla hne6 k2),(A6.frozen (p:=⟨w.heap.size,1,none⟩) hlw).trans (qP5 hgrow6 hla hne6 k3),BW6.trans (A6.mono BW6.size)⟩
 clear hown6 hgrow6 k0 k1 k2 k3 A6 BW6 hne6 hla H5 G5 D0
 go_wp2_with fail
 generalize w6.alloc (.cells #[.int .i64 0,.slice (some ⟨w.heap.size+1,0,none⟩) 0 0] 124)=w7 at T6 ⊢
 rw [HS6.out] at T6
 generalize hbo:w.heap.size+1+1=bo at T6 ⊢
 clear hbo hw6
 go_loopw [6] (fun i wr=>∃ (k:Nat) (all:List LkI) (g cp:Nat),k≤m∧i = .int .i64 (k:Int)∧Hid (TkS ([]:List LkI) ys k all∧TT w wr bo all g cp)) (fun i _=>m - (intOf i).toNat)
 case atStart=>exact ⟨0,([]:List LkI),(w.heap.size+1),0,Nat.zero_le _,rfl,HS0.out,T6.out⟩
 case round =>
  obtain ⟨k,all,g,cp,hk,rfl,HK⟩:=hrel
  by_cases hlt:k < m
  ·have hlt':(k:Int) < (m:Int):=by omega
   obtain ⟨b1,o1,y,e1,hy,hr,hb1⟩:=HY.out.at hlt
   subst e1
   obtain ⟨c0,c1,c2,c3⟩:=hr.below HK.out.2.bel hb1
   have HYK:Hid (ys[k]? = some y):=hy
   have A1:Below wr.heap.size wr (wr.alloc (.cells #[.int .i64 y.e,.int .i64 y.c,.int .i64 y.p,.int .i64 y.f] 98)):=zN
   have T1:Hid (TT w (wr.alloc (.cells #[.int .i64 y.e,.int .i64 y.c,.int .i64 y.p,.int .i64 y.f] 98)) bo all g cp):=HK.out.2.below A1
   have Y1:Hid (QA6 (wr.alloc (.cells #[.int .i64 y.e,.int .i64 y.c,.int .i64 y.p,.int .i64 y.f] 98)) wr.heap.size 0 y):=by simp [Hid,QA6]
   have hzb:wr.heap.size < (wr.alloc (.cells #[.int .i64 y.e,.int .i64 y.c,.int .i64 y.p,.int .i64 y.f] 98)).heap.size:=by simp
   clear hy hr A1
   go_upto_region 6 with fail
   clear c0 c1 c2 c3
   generalize wr.alloc (.cells #[.int .i64 y.e,.int .i64 y.c,.int .i64 y.p,.int .i64 y.f] 98)=w1 at T1 Y1 hzb ⊢
   obtain ⟨y0,y1,y2,y3⟩:=Y1.out
   simp only [Nat.zero_add] at y0 y1 y2 y3
   go_wp2_with fail
   refine (l5Of_c _ 0 0 ([]:List LkI) y.e y.c y.p _ (HG.out.below T1.out.bel) (by omega)).mono ?_
   rintro e w2 ⟨rfl,hb2⟩
   have T2:Hid (TT w w2 bo all g cp):=T1.out.below hb2
   have Y2:Hid (QA6 w2 wr.heap.size 0 y):=Y1.out.below hb2 hzb
   have hzb2:wr.heap.size < w2.heap.size:=by have:=hb2.size;omega
   clear hb2 T1 Y1 hzb y0 y1 y2 y3
   obtain ⟨y0,y1,y2,y3⟩:=Y2.out
   simp only [Nat.zero_add] at y0 y1 y2 y3
   obtain ⟨F,hF⟩:∃ F,qD9 ([]:List LkI) y.e y.c y.p=F:=⟨_,rfl⟩
   have HF:Hid (qD9 ([]:List LkI) y.e y.c y.p=F):=hF
   rw [hF]
   clear hF
   by_cases f0:F=0
   ·subst f0
    have HN:Hid (TkS ([]:List LkI) ys (k+1) (qY9 all y)):=HK.out.1.put HYS.out HYK.out (HYO.out y (List.mem_of_getElem? HYK.out)) HF.out
    obtain ⟨x0,x1⟩:w2.cell? ⟨bo,0,none⟩=some (.int .i64 0)∧w2.cell? ⟨bo,1,none⟩=some (.slice (some ⟨g,0,none⟩) all.length cp):=⟨T2.out.x0,T2.out.x1⟩
    have hlen:all.length≤300:=by have:=HK.out.1.len;have:=HZ.out;omega
    go_wp2_with fail
    refine (l5Put_c w.heap.size g all.length cp all y _ rfl (by omega) T2.out.ow HK.out.1.sl T2.out.bel.size).mono ?_
    rintro e w3 ⟨g',cp',rfl,ho3,hb3⟩
    have T3:Hid (TT w w3 bo all g cp):=T2.out.below hb3
    have hl3:all.length+1=(qY9 all y).length:=(QB4 all y).symm
    have HP:Hid (TT w (w3.setCell ⟨bo,1,none⟩ (.slice (some ⟨g',0,none⟩) (all.length+1) cp')) bo (qY9 all y) g' cp'):=by
     have hg':=(QI5 ho3 g' rfl).1
     rw [hl3] at ho3 ⊢
     exact T3.out.put (qA9 ho3 T2.out.bel.size) (by have:=T2.out.lt;omega) (by have:=T2.out.lt;have:=T2.out.bg;omega)
    have q1:=T3.out.x1
    have q2:=T3.out.f1
    clear ho3 hb3 T2 T3 x0 x1 y0 y1 y2 y3 hl3
    go_wp2_with fail
    exact ⟨⟨k+1,qY9 all y,g',cp',by omega,by go_num,HN.out,HP.out⟩,by simp [intOf];omega⟩
   ·have b0':(F != 0)=true:=by simpa using f0
    have b1':(F==0)=false:=by simpa using f0
    by_cases f1:F=y.f
    ·have b2':(F != y.f)=false:=by simp [f1]
     have HN:Hid (TkS ([]:List LkI) ys (k+1) all):=HK.out.1.stay HYK.out (by rw [HF.out];exact f0) (by rw [HF.out];exact f1)
     clear f0 f1
     go_wp2_with fail
     exact ⟨⟨k+1,all,g,cp,by omega,by go_num,HN.out,T2.out⟩,by simp [intOf];omega⟩
    ·have b2':(F != y.f)=true:=by simpa using f1
     have HN:Hid (c=6∧L=[]):=by
      have h1:qI1 ([]:List LkI) ys (k+1)=none:=by
       rw [qI0 HK.out.1.tk HYK.out,qM6,if_neg (by rw [HF.out];exact f0),if_neg (by rw [HF.out];exact f1)]
      have:=QB0 h1 (by rw [HM.out];omega)
      rw [HC.out,HL.out] at this
      exact this
     obtain ⟨r0,r1⟩:w2.cell? ⟨w.heap.size,0,none⟩=some (.int .i64 0)∧w2.cell? ⟨w.heap.size,1,none⟩=some (.slice none 0 0):=⟨T2.out.r0,T2.out.r1⟩
     have e0:=T2.out.e0
     have e1:=T2.out.e1
     clear f0 f1
     go_wp2_with fail
     obtain ⟨hc6,hL6⟩:=HN.out
     rw [hc6,hL6]
     refine bodyPost_ret (v:=.agg #[.int .i64 6,.slice none 0 0]) (by simp [results,Tryz.results99,go_sem,r0,r1]) rfl ⟨none,0,rfl,World.ownsRow_nil _ _ _ _,?_⟩
     exact (T2.out.bel.setCell (Nat.le_refl _) _).setCell (Nat.le_refl _) _
  ·have hkm:k=m:=by omega
   subst hkm
   obtain ⟨x0,x1⟩:wr.cell? ⟨bo,0,none⟩=some (.int .i64 0)∧wr.cell? ⟨bo,1,none⟩=some (.slice (some ⟨g,0,none⟩) all.length cp):=⟨HK.out.2.x0,HK.out.2.x1⟩
   obtain ⟨r0,r1⟩:wr.cell? ⟨w.heap.size,0,none⟩=some (.int .i64 0)∧wr.cell? ⟨w.heap.size,1,none⟩=some (.slice none 0 0):=⟨HK.out.2.r0,HK.out.2.r1⟩
   have e0:=HK.out.2.e0
   have e1:=HK.out.2.e1
   have htk:qI1 ([]:List LkI) ys ys.length=some all:=by rw [HM.out];exact HK.out.1.tk
   by_cases h200:200 < all.length
   ·have hl2:(200:Int) < (all.length:Int):=by omega
    have HN:Hid (c=2∧L=[]):=by
     have:=QQ4 htk h200
     rw [HC.out,HL.out] at this
     exact this
    clear htk
    go_wp2_with fail
    obtain ⟨hc6,hL6⟩:=HN.out
    rw [hc6,hL6]
    refine bodyPost_ret (v:=.agg #[.int .i64 2,.slice none 0 0]) (by simp [results,Tryz.results99,go_sem,r0,r1]) rfl ⟨none,0,rfl,World.ownsRow_nil _ _ _ _,?_⟩
    exact (HK.out.2.bel.setCell (Nat.le_refl _) _).setCell (Nat.le_refl _) _
   ·have hl2:(all.length:Int)≤200:=by omega
    have HN:Hid (c=0∧L=all):=by
     have:=QD2 htk h200
     rw [HC.out,HL.out] at this
     exact this
    clear htk
    go_wp2_with fail
    obtain ⟨hc6,hL6⟩:=HN.out
    rw [hc6,hL6]
    refine bodyPost_ret (v:=.agg #[.int .i64 0,.slice (some ⟨g,0,none⟩) all.length cp]) (by simp [results,Tryz.results99,go_sem,r0,r1]) rfl ⟨some ⟨g,0,none⟩,cp,rfl,?_,?_⟩
    ·have k1:=qV2 wr w.heap.size (.int .i64 0) (.slice (some ⟨g,0,none⟩) all.length cp)
     exact World.ownsRow.kept (row:=some w.heap.size) HK.out.2.ow k1 (.inr (by have:=HK.out.2.gg;simp [Value.ownBlock];omega))
    ·exact (HK.out.2.bel.setCell (Nat.le_refl _) _).setCell (Nat.le_refl _) _

abbrev TS:=Nat→Bool
def noT:TS:=fun _=>false
def QF8 (T:TS) (x:Nat):TS:=fun y=>if y=x then true else T y
def oneT (s:Int):TS:=fun x=>(List.range 8).any fun p=>(x==2 ^ p)&&qH7 s ((p:Int)+1)
def okAB (ap:Bool) (a b:Nat):Bool := !(ap&&(a &&& b != 0))
def QN3 (ap:Bool) (L R:TS):TS:=fun x=>(List.range 256).any fun a=>L a&&(List.range 256).any fun b=>R b&&okAB ap a b&&(a ||| b==x)
theorem bothT_iff {ap:Bool} {L R:TS} {x:Nat}:QN3 ap L R x=true↔∃ a b,a < 256∧b < 256∧L a=true∧R b=true∧okAB ap a b=true∧a ||| b=x:=by
 unfold QN3
 rw [List.any_eq_true]
 constructor
 ·rintro ⟨a,ha,h⟩
  rw [Bool.and_eq_true,List.any_eq_true] at h
  obtain ⟨hL,b,hb,h⟩:=h
  rw [Bool.and_eq_true,Bool.and_eq_true] at h
  exact ⟨a,b,List.mem_range.1 ha,List.mem_range.1 hb,hL,h.1.1,h.1.2,by simpa using h.2⟩
 ·rintro ⟨a,b,ha,hb,hL,hR,ho,rfl⟩
  refine ⟨a,List.mem_range.2 ha,?_⟩
  rw [Bool.and_eq_true,List.any_eq_true]
  exact ⟨hL,b,List.mem_range.2 hb,by simp [hR,ho]⟩
def QU3 (ap:Bool) (L R:TS) (i j:Nat) (T:TS):Prop:=∀ x,x < 256→(T x=true↔∃ a b,(a < i∨a=i∧b < j)∧a < 256∧b < 256∧L a=true∧R b=true∧okAB ap a b=true∧a ||| b=x)
theorem QP7 (ap:Bool) (L R:TS):QU3 ap L R 0 0 noT:=by
 intro x hx
 constructor
 ·intro h;cases h
 ·rintro ⟨a,b,h,_⟩;omega
theorem both_skip {ap:Bool} {L R:TS} {i j:Nat} {T:TS} (h:QU3 ap L R i j T) (hl:L i=false):QU3 ap L R (i+1) 0 T:=by
 intro x hx
 rw [h x hx]
 constructor
 ·rintro ⟨a,b,h0,h1⟩
  exact ⟨a,b,by omega,h1⟩
 ·rintro ⟨a,b,h0,h1,h2,h3,h4⟩
  have : a≠i:=fun e=>by rw [e,hl] at h3;cases h3
  exact ⟨a,b,by omega,h1,h2,h3,h4⟩
theorem both_next {ap:Bool} {L R:TS} {i:Nat} {T:TS} (h:QU3 ap L R i 256 T):QU3 ap L R (i+1) 0 T:=by
 intro x hx
 rw [h x hx]
 constructor
 ·rintro ⟨a,b,h0,h1⟩
  exact ⟨a,b,by omega,h1⟩
 ·rintro ⟨a,b,h0,h1,h2,h3⟩
  exact ⟨a,b,by omega,h1,h2,h3⟩
theorem both_no {ap:Bool} {L R:TS} {i j:Nat} {T:TS} (h:QU3 ap L R i j T) (hn:(R j&&okAB ap i j)=false):QU3 ap L R i (j+1) T:=by
 intro x hx
 rw [h x hx]
 constructor
 ·rintro ⟨a,b,h0,h1⟩
  exact ⟨a,b,by omega,h1⟩
 ·rintro ⟨a,b,h0,h1,h2,h3,h4,h5,h6⟩
  have : ¬ (a=i∧b=j):=by
   rintro ⟨rfl,rfl⟩
   rw [h4,h5] at hn;cases hn
  exact ⟨a,b,by omega,h1,h2,h3,h4,h5,h6⟩
theorem QT3 {ap:Bool} {L R:TS} {i j:Nat} {T:TS} (h:QU3 ap L R i j T) (hi:i < 256) (hj:j < 256) (hL:L i=true) (hn:(R j&&okAB ap i j)=true):QU3 ap L R i (j+1) (QF8 T (i ||| j)):=by
 rw [Bool.and_eq_true] at hn
 intro x hx
 unfold QF8
 by_cases e:x=i ||| j
 ·rw [if_pos e]
  exact ⟨fun _=>⟨i,j,by omega,hi,hj,hL,hn.1,hn.2,e.symm⟩,fun _=>rfl⟩
 ·rw [if_neg e,h x hx]
  constructor
  ·rintro ⟨a,b,h0,h1⟩
   exact ⟨a,b,by omega,h1⟩
  ·rintro ⟨a,b,h0,h1,h2,h3,h4,h5,h6⟩
   have : ¬ (a=i∧b=j):=by
    rintro ⟨rfl,rfl⟩
    exact e h6.symm
   exact ⟨a,b,by omega,h1,h2,h3,h4,h5,h6⟩
theorem both_end {ap:Bool} {L R:TS} {j:Nat} {T:TS} (h:QU3 ap L R 256 j T):∀ x,x < 256→T x=QN3 ap L R x:=by
 intro x hx
 rw [Bool.eq_iff_iff,h x hx,bothT_iff]
 constructor
 ·rintro ⟨a,b,h0,h1⟩
  exact ⟨a,b,h1⟩
 ·rintro ⟨a,b,h1,h2,h3⟩
  exact ⟨a,b,.inl h1,h1,h2,h3⟩
def qG4 (T:TS):Array Value:=((List.range 256).map fun i=>Value.bool (T i)).toArray
theorem qH5 (T:TS):(qG4 T).size=256:=by simp [qG4]
theorem qX3 (T:TS) {i:Nat} (h:i < 256):(qG4 T)[i]? = some (.bool (T i)):=by simp [qG4,h]
theorem arrT_ext {T U:TS} (h:∀ x,x < 256→T x=U x):qG4 T=qG4 U:=by
 unfold qG4
 congr 1
 apply List.map_congr_left
 intro x hx
 rw [h x (List.mem_range.1 hx)]
theorem QT8 (T:TS) {i:Nat} (h:i < 256):(qG4 T).setIfInBounds i (.bool true)=qG4 (QF8 T i):=by
 apply Array.ext_getElem?
 intro j
 rw [Array.getElem?_setIfInBounds]
 by_cases hj:j < 256
 ·by_cases e:i=j
  ·subst e
   rw [if_pos rfl,if_pos (by rw [qH5];exact h),qX3 _ h];simp [QF8]
  ·rw [if_neg e,qX3 _ hj,qX3 _ hj];simp [QF8,show ¬ j=i from fun q=>e q.symm]
 ·rw [if_neg (by omega),Array.getElem?_eq_none (by rw [qH5];omega),Array.getElem?_eq_none (by rw [qH5];omega)]
theorem QP8 (T:TS):(qG4 T).all (·.oneCell')=true:=by
 rw [Array.all_eq_true']
 intro v hv
 simp [qG4] at hv
 obtain ⟨i,_,rfl⟩:=hv
 rfl
def qO4 (f:RoI→Int) (ts:List TS) (p:qC5):TS:=if p.k=1 then oneT (f (p.ro,p.rn)) else QN3 (decide (p.k=3)) (ts[p.l.toNat]?.getD noT) (ts[p.r.toNat]?.getD noT)
def qB6 (f:RoI→Int) (zs:List qC5):Nat→List TS
 | 0=>[]
 | k+1=>match zs[k]? with
  | none=>qB6 f zs k
  | some p=>qB6 f zs k++[qO4 f (qB6 f zs k) p]
theorem qR5 {zs:List qC5} {k:Nat} {p:qC5} (h:zs[k]? = some p) (f:RoI→Int):qB6 f zs (k+1)=qB6 f zs k++[qO4 f (qB6 f zs k) p]:=by
 simp [qB6,h]
theorem qQ4 (f:RoI→Int) (zs:List qC5):∀ k,k≤zs.length→(qB6 f zs k).length=k
 | 0,_=>rfl
 | k+1,h=>by
  rw [qR5 (List.getElem?_eq_getElem (show k < zs.length by omega))]
  simp [qQ4 f zs k (by omega)]
/-- What the last part tells. -/
def qQ5 (f:RoI→Int) (zs:List qC5):TS:=(qB6 f zs zs.length)[zs.length - 1]?.getD noT

theorem QA9:Tryz.prog.underlying 214=some (.array 256 4):=by kernel_rfl
theorem ts_info:(Tryz.prog.info? 214).map (fun i=>(i.zero,i.size))=some (some (.agg (qG4 noT)),256):=by kernel_rfl
theorem ts_zero (w:World):(zeroValue 214).run Tryz.prog w = .ok (.agg (qG4 noT)) w:=(zero_of_info ts_info).1 w
theorem qZ4:(Tryz.prog.info? 214).map (·.size)=some 256:=(zero_of_info ts_info).2
theorem QC6 (w:World) (o:Obj) {b:Nat} (i:Nat) (hb:b < w.heap.size):(w.alloc o).cell? ⟨b,i,none⟩=w.cell? ⟨b,i,none⟩:=((Below.refl _ _).alloc (Nat.le_refl _) o).cell (p:=⟨b,i,none⟩) hb
theorem cell_new (w:World) (c:Array Value) (t:TypeId) (i:Nat):(w.alloc (.cells c t)).cell? ⟨w.heap.size,i,none⟩=c[i]? := cell_of_row _ _ i c t (0,0) (heap_alloc_last w _)
theorem heap_old (w:World) (o:Obj) {b:Nat} (hb:b < w.heap.size):(w.alloc o).heap[b]? = w.heap[b]? := ((Below.refl _ _).alloc (Nat.le_refl _) o).block b hb
theorem QA2 {w:World} {g:Nat} {c c':Array Value} {t:TypeId} {fr:Nat × Nat} (h:w.heap[g]? = some (.cells c t fr)):(w.setRow g c').heap[g]? = some (.cells c' t fr):=by
 simp only [World.setRow]
 rw [Array.getElem?_modify,if_pos rfl,h]
 rfl
theorem qZ0 {w:World} {g i:Nat} {c':Array Value} (h:i≠g):(w.setRow g c').heap[i]? = w.heap[i]? := by
 simp only [World.setRow]
 rw [Array.getElem?_modify,if_neg (fun e=>h e.symm)]
theorem size_setRow (w:World) (g:Nat) (c':Array Value):(w.setRow g c').heap.size=w.heap.size:=by simp [World.setRow]
theorem QE7 {B:Nat} {w0 w:World} {g:Nat} (h:Below B w0 w) (hg:B≤g) (c:Array Value):Below B w0 (w.setRow g c) :=
 ⟨h.os,h.tape,h.output,by rw [size_setRow];exact h.size,fun i hi=>by rw [qZ0 (by omega)];exact h.block i hi⟩
theorem storeAt_row (w:World) (g:Nat) (old T:TS) (hg:w.heap[g]? = some (.cells (qG4 old) 214 (0,0))) :
  (Instr.storeAt 214 (.pointer (some ⟨g,0,none⟩)) (.agg (qG4 T))).run Tryz.prog w = .ok () (w.setRow g (qG4 T)):=by
 simp only [Instr.storeAt,Instr.sureAddr,Sem.run_bind,Sem.run_pure,Result.andThen]
 exact run_storeVar_row _ _ _ _ _ _ hg (by rw [qH5];exact qZ4) (by rw [qH5,qH5]) (QP8 T)
theorem qY7 (w:World) (g:Nat) (old T:TS) (hg:w.heap[g]? = some (.cells (qG4 old) 214 (0,0))) :
  (storeCells ⟨g,0,none⟩ (qG4 T).toList).run Tryz.prog w = .ok () (w.setRow g (qG4 T)):=by
 have:=run_storeCells_from (P:=Tryz.prog) g 214 (qG4 T).toList 0 (qG4 old) w hg (by rw [Nat.zero_add,qH5,Array.length_toList,qH5]) (fun v hv=>(Array.all_eq_true_iff_forall_mem.1 (QP8 T)) v (by simpa using hv))
 simpa using this
theorem qV0 (w:World) (g:Nat) (T:TS) (hg:w.heap[g]? = some (.cells (qG4 T) 214 (0,0))) :
  (loadVar 214 ⟨g,0,none⟩).run Tryz.prog w = .ok (.agg (qG4 T)) w :=
 run_loadVar_row _ _ _ _ _ _ _ hg QA9 rfl (by rw [qH5];exact qZ4)
theorem QO7 (w:World) (g:Nat) (T:TS) (hg:w.heap[g]? = some (.cells (qG4 T) 214 (0,0))) :
  (Instr.loadAt 214 (.pointer (some ⟨g,0,none⟩))).run Tryz.prog w = .ok (.agg (qG4 T)) w:=by
 simp only [Instr.loadAt,Instr.sureAddr,Sem.run_bind,Sem.run_pure,Result.andThen]
 exact qV0 w g T hg
theorem together_c (L R:TS) (ap:Bool) (w:World) :
  Calls Tryz.prog 178 #[.agg (qG4 L),.agg (qG4 R),.bool ap] w fun e w'=>e = .returned (.agg (qG4 (QN3 ap L R)))∧Below w.heap.size w w':=by
 have hz:=ts_zero
 obtain ⟨W,hW⟩:∃ W,W=((w.alloc (.cells (qG4 L) 214)).alloc (.cells (qG4 R) 214)).alloc (.cells (qG4 noT) 214):=⟨_,rfl⟩
 have hs0:w.heap.size+1+1+1=W.heap.size:=by rw [hW];simp
 have HSz:Hid (w.heap.size+1+1+1=W.heap.size):=hs0
 clear hs0
 have B0:Below w.heap.size w W:=by rw [hW];exact ((zN).alloc (by simp) _).alloc (by simp;omega) _
 have HL:Hid (∀ (o:Obj) (i:Nat),i < 256→(W.alloc o).cell? ⟨w.heap.size,i,none⟩=some (.bool (L i))):=fun o i hi=>by
  rw [hW,QC6 _ _ _ (by simp;omega),QC6 _ _ _ (by simp;omega),QC6 _ _ _ (by simp),cell_new,qX3 _ hi]
 have HR:Hid (∀ (o:Obj) (i:Nat),i < 256→(W.alloc o).cell? ⟨w.heap.size+1,i,none⟩=some (.bool (R i))):=fun o i hi=>by
  rw [hW,QC6 _ _ _ (by simp),QC6 _ _ _ (by simp)]
  have:=cell_new (w.alloc (.cells (qG4 L) 214)) (qG4 R) 214 i
  rw [World.size_alloc] at this
  rw [this,qX3 _ hi]
 have HRes:Hid (∀ o:Obj,(W.alloc o).heap[w.heap.size+1+1]? = some (.cells (qG4 noT) 214 (0,0))):=fun o=>by
  rw [hW,heap_old _ _ (by simp)]
  have:=heap_alloc_last ((w.alloc (.cells (qG4 L) 214)).alloc (.cells (qG4 R) 214)) (.cells (qG4 noT) 214)
  rw [World.size_alloc,World.size_alloc] at this
  exact this
 go_enter Tryz.func178,Tryz.ntmps178
 go_wp2_with fail
 rw [← hW]
 clear hW hz
 have hs:=HSz.out
 simp only [hs]
 go_loopw [10] (fun i wr=>∃ (k:Nat) (T:TS),k≤256∧i = .int .i64 (k:Int)∧wr=W.alloc (.cells (qG4 T) 214)∧Hid (QU3 ap L R k 0 T)) (fun i _=>256 - (intOf i).toNat)
 case atStart=>exact ⟨0,noT,by omega,rfl,rfl,QP7 ap L R⟩
 case round =>
  obtain ⟨k,T,hk,rfl,rfl,HB⟩:=hrel
  by_cases hlt:k < 256
  ·have hlt':(k:Int) < 256:=by omega
   have cL:=HL.out (.cells (qG4 T) 214) k hlt
   obtain ⟨l,hl⟩:∃ l,L k=l:=⟨_,rfl⟩
   have HLk:Hid (L k=l):=hl
   rw [hl] at cL
   clear hl
   cases l
   ·go_wp2_with fail
    exact ⟨⟨k+1,T,by omega,by go_num,rfl,both_skip HB.out HLk.out⟩,by simp [intOf];omega⟩
   ·go_wp2_with fail
    go_loopw [17] (fun j wr=>∃ (m:Nat) (U:TS),m≤256∧j = .int .i64 (m:Int)∧wr=W.alloc (.cells (qG4 U) 214)∧Hid (QU3 ap L R k m U)) (fun j _=>256 - (intOf j).toNat)
    case atStart=>exact ⟨0,T,by omega,rfl,rfl,HB⟩
    case round =>
     obtain ⟨m,U,hm,rfl,rfl,HC⟩:=hrel
     by_cases hmt:m < 256
     ·have hmt':(m:Int) < 256:=by omega
      have cR:=HR.out (.cells (qG4 U) 214) m hmt
      obtain ⟨r,hr⟩:∃ r,R m=r:=⟨_,rfl⟩
      have HRm:Hid (R m=r):=hr
      rw [hr] at cR
      have hand:bits .and .i64 (k:Int) (m:Int)=((k &&& m:Nat):Int):=QL5 k m hlt hmt
      have hor:bits .or .i64 (k:Int) (m:Int)=((k ||| m:Nat):Int):=QB7 k m hlt hmt
      have hx:k ||| m < 256:=Nat.or_lt_two_pow (n:=8) hlt hmt
      obtain ⟨q,hq⟩:∃ q,((k &&& m) != 0)=q:=⟨_,rfl⟩
      have hq':((((k &&& m:Nat):Int)) != 0)=q:=by rw [← hq];rw [Bool.eq_iff_iff];simp
      have hok:okAB ap k m = !(ap&&q):=by unfold okAB;rw [hq]
      have hn0:(R m&&okAB ap k m)=(r && !(ap&&q)):=by rw [hr,hok]
      have HN:Hid ((R m&&okAB ap k m)=(r && !(ap&&q))):=hn0
      clear hn0
      have HX:Hid (k ||| m=k ||| m):=rfl
      obtain ⟨x,hxx⟩:∃ x,x=k ||| m:=⟨_,rfl⟩
      have HXX:Hid (x=k ||| m):=hxx
      rw [← hxx] at hor hx
      have hx':(x:Int) < 256:=by omega
      have cx:(qG4 U)[x]? = some (.bool (U x)):=qX3 U hx
      generalize hy:((k &&& m:Nat):Int)=y at hand hq'
      clear hy hr hq hok hxx HX
      cases r
      ·go_wp2_with fail
       exact ⟨⟨m+1,U,by omega,by go_num,rfl,both_no HC.out HN.out⟩,by simp [intOf];omega⟩
      ·cases ap
       ·go_wp2_with fail
        refine ⟨⟨m+1,QF8 U x,by omega,by go_num,?_,?_⟩,by simp [intOf];omega⟩
        ·rw [QT8 U hx]
        ·have:=QT3 HC.out hlt hmt HLk.out HN.out
         rw [← HXX.out] at this
         exact this
       ·cases q
        ·go_wp2_with fail
         refine ⟨⟨m+1,QF8 U x,by omega,by go_num,?_,?_⟩,by simp [intOf];omega⟩
         ·rw [QT8 U hx]
         ·have:=QT3 HC.out hlt hmt HLk.out HN.out
          rw [← HXX.out] at this
          exact this
        ·go_wp2_with fail
         exact ⟨⟨m+1,U,by omega,by go_num,rfl,both_no HC.out HN.out⟩,by simp [intOf];omega⟩
     ·have hme:m=256:=by omega
      subst hme
      go_wp2_with fail
      exact ⟨⟨k+1,U,by omega,by go_num,rfl,both_next HC.out⟩,by simp [intOf];omega⟩
  ·have hke:k=256:=by omega
   subst hke
   have HE:Hid (qG4 T=qG4 (QN3 ap L R)):=arrT_ext (both_end HB.out)
   have hld:=QO7 (W.alloc (.cells (qG4 T) 214)) W.heap.size T (heap_alloc_last _ _)
   have hst:=qY7 (W.alloc (.cells (qG4 T) 214)) (w.heap.size+1+1) noT T (HRes.out _)
   go_wp2_with fail
   unfold Oper.wp
   simp [execOp,Act.eval,hld,Result.andThen]
   rw [Oper.upon_value]
   have hl2:=qV0 ((W.alloc (.cells (qG4 T) 214)).setRow (w.heap.size+1+1) (qG4 T)) (w.heap.size+1+1) T (QA2 (HRes.out _))
   go_wp2
   refine bodyPost_ret (v:=.agg (qG4 T)) ?_ rfl ⟨by rw [HE.out],?_⟩
   ·simp [results,Tryz.results178,asAddr,Result.andThen,hl2]
   ·exact QE7 (B0.alloc B0.size _) (by omega) _

section
open Go.RowKit Go.Shelf Go.Maps
attribute [local go_sem] Oper.semAt_some
attribute [local go_sem] QH3
set_option linter.unusedVariables false
set_option linter.unusedSimpArgs false
def QW2 (pre:List P8):TS:=(pre.map (·.1)).foldl (fun T p=>QF8 T (2 ^ (p - 1).toNat)) noT
theorem oneP_snoc (pre:List P8) (x:P8):QW2 (pre++[x])=QF8 (QW2 pre) (2 ^ (x.1 - 1).toNat):=by
 simp [QW2,List.foldl_append]
theorem putL_iff (ps:List Int):∀ (T:TS) (x:Nat),ps.foldl (fun T p=>QF8 T (2 ^ (p - 1).toNat)) T x=true↔T x=true∨∃ p∈ps,x=2 ^ (p - 1).toNat:=by
 induction ps with
 | nil=>intro T x;simp
 | cons q qs ih =>
  intro T x
  rw [List.foldl_cons,ih]
  unfold QF8
  by_cases e:x=2 ^ (q - 1).toNat
  ·rw [if_pos e]
   exact ⟨fun _ => .inr ⟨q,by simp,e⟩,fun _ => .inl rfl⟩
  ·rw [if_neg e]
   constructor
   ·rintro (h | ⟨p,hp,e'⟩)
    ·exact .inl h
    ·exact .inr ⟨p,by simp [hp],e'⟩
   ·rintro (h | ⟨p,hp,e'⟩)
    ·exact .inl h
    ·rcases List.mem_cons.1 hp with rfl | hp
     ·exact absurd e' e
     ·exact .inr ⟨p,hp,e'⟩
theorem oneP_end {s:Int} {ys:List P8} (h:ys.map (·.1)=qB1 s 8):QW2 ys=oneT s:=by
 funext x
 rw [Bool.eq_iff_iff]
 unfold QW2 oneT
 rw [h,putL_iff,List.any_eq_true]
 constructor
 ·rintro (q | ⟨p,hp,e⟩)
  ·cases q
  ·obtain ⟨h0,h1,h2⟩:=qJ3.1 hp
   refine ⟨(p - 1).toNat,List.mem_range.2 (by omega),?_⟩
   rw [Bool.and_eq_true]
   refine ⟨by simp [e],?_⟩
   rw [show (((p - 1).toNat:Nat):Int)+1=p by omega]
   exact h2
 ·rintro ⟨p,hp,e⟩
  rw [Bool.and_eq_true] at e
  have hp:=List.mem_range.1 hp
  exact .inr ⟨(p:Int)+1,qJ3.2 ⟨by omega,by omega,e.2⟩,by simpa using e.1⟩
def QM1 (W:World) (B:Nat) (T:TS):Prop:=W.heap[B]? = some (.cells (qG4 T) 214 (0,0))
theorem QM1.lt {W:World} {B:Nat} {T:TS} (h:QM1 W B T):B < W.heap.size:=(Array.getElem?_eq_some_iff.1 h).1
theorem QM1.kept {W W':World} {row:Option Nat} {B:Nat} {T:TS} (h:QM1 W B T) (hg:W.grownBy W' row) (hne:some B≠row):QM1 W' B T:=(hg.block B h.lt hne).trans h
theorem QM1.cell {W:World} {B:Nat} {T:TS} (h:QM1 W B T) {i:Nat} (hi:i < 256):W.cell? ⟨B,i,none⟩=some (.bool (T i)):=by
 rw [cell_of_row _ _ i _ _ _ h];exact qX3 T hi
theorem QM1.frozen {W:World} {B:Nat} {T:TS} (h:QM1 W B T) (i:Nat):W.frozen? ⟨B,i,none⟩=false:=by simp [World.frozen?,show W.heap[B]? = _ from h]
theorem QM1.below {W W':World} {B:Nat} {T:TS} (h:QM1 W B T) (hb:Below W.heap.size W W'):QM1 W' B T:=(hb.block B h.lt).trans h
theorem QM1.put {W:World} {B:Nat} {T:TS} (h:QM1 W B T) {i:Nat} (hi:i < 256):QM1 (W.setCell ⟨B,i,none⟩ (.bool true)) B (QF8 T i):=by
 obtain ⟨hlt,hk⟩:=Array.getElem?_eq_some_iff.1 h
 show (W.heap.modify B _)[B]? = _
 rw [Array.getElem?_eq_getElem (by rw [Array.size_modify];exact hlt),Array.getElem_modify_self,hk,← QT8 T hi]
 rfl
theorem rowT_own {β:Type} (B:Nat) (f:β→TS):Own (fun s W=>QM1 W B (f s)):=fun s X Y row hs hg hrow =>
 hs.kept hg (fun e'=>by obtain ⟨o,ho,hc⟩:=hrow B e'.symm;rw [show X.heap[B]? = _ from hs] at ho;cases ho;cases hc)
theorem singles_w (n:Nat) (hn:3≤n) (s:Int) (w:World) (hs:qJ6 s) :
  CallsIn Fence.wide n Tryz.prog 177 #[.int .u8 s] w fun e W'=>e = .returned (.agg (qG4 (oneT s)))∧Below w.heap.size w W':=by
 have h1:1≤n:=by omega
 have s0:=hs.1
 have s1:=hs.2
 have hz:=ts_zero
 refine callsIn_of_wp_marks Tryz.func177 rfl trivial ?_ rfl
 simp only [Tryz.ntmps177,List.size_toArray,List.length_cons,List.length_nil,Nat.reduceAdd,Nat.reduceSub,Array.replicate_succ,Array.replicate_zero,List.push_toArray,List.append_toArray,List.nil_append,List.cons_append]
 gi_wp2_with (gi_at_call 163;refine (prin_in _ _ _).mono ?_;rintro e w' ⟨rfl,rfl⟩)
 clear hz
 have bR:QM1 (w.alloc (.cells (qG4 noT) 214)) w.heap.size noT:=heap_alloc_last _ _
 have bT:QM1 ((w.alloc (.cells (qG4 noT) 214)).alloc (.cells (qG4 noT) 214)) (w.heap.size+1) noT:=by
  have:=heap_alloc_last (w.alloc (.cells (qG4 noT) 214)) (.cells (qG4 noT) 214)
  rw [World.size_alloc] at this
  exact this
 have bS:=Boxed.new ((w.alloc (.cells (qG4 noT) 214)).alloc (.cells (qG4 noT) 214)) 220 (.int .u8 s)
 rw [World.size_alloc,World.size_alloc] at bS
 have bR':QM1 (((w.alloc (.cells (qG4 noT) 214)).alloc (.cells (qG4 noT) 214)).alloc (.cells #[.int .u8 s] 220)) w.heap.size noT:=(bR.below (zN)).below (zN)
 have bT':QM1 (((w.alloc (.cells (qG4 noT) 214)).alloc (.cells (qG4 noT) 214)).alloc (.cells #[.int .u8 s] 220)) (w.heap.size+1) noT:=bT.below (zN)
 obtain ⟨W0,hW0⟩:∃ W0,((w.alloc (.cells (qG4 noT) 214)).alloc (.cells (qG4 noT) 214)).alloc (.cells #[.int .u8 s] 220)=W0:=⟨_,rfl⟩
 have hsz:W0.heap.size=w.heap.size+3:=by rw [← hW0];simp
 have hB0:Below w.heap.size w W0:=by rw [← hW0];exact (((Below.refl _ w).alloc (Nat.le_refl _) _).alloc (by simp) _).alloc (by simp;omega) _
 rw [hW0] at bS bR' bT' ⊢
 have HB0:Hid (Below w.heap.size w W0):=hB0
 clear bR bT hW0 hB0
 refine wpIn_rangeFunc_ownG rfl h1 (gf:=183) (lb:=#[.pointer (some ⟨w.heap.size+1+1,0,none⟩)]) rfl trivial (enters_of Tryz.func183 (by kernel_rfl) rfl)
  (QI2 (n - 1) (by omega) (w.heap.size+1+1) s s0 s1 W0 (by omega) bS.cell) (Kp:=qX8 (w.heap.size+1+1)) (fun h k=>Eq.trans k h) (fun W l o o' hl h _ _=>World.putObj_heap_other (by omega)) (Below.refl _ _) (fun _=>rfl)
  (fun pre W=>(QM1 W (w.heap.size+1) (QW2 pre)∧Boxed W (w.heap.size+1+1) 220 (.int .u8 s))∧Below (w.heap.size+1) W0 W)
  (fun _ _ _=>False)
  (OwnFrom.and (OwnFrom.and (Own.from (rowT_own _ (fun pre=>QW2 pre)) _) (Own.from (boxed_own _ _ (fun _ => .int .u8 s)) _)) (ownFrom_below (by omega) (by omega)))
  (fun _ _ _ _ _ hs _ _=>hs)
  ⟨⟨bT',bS⟩,Below.refl _ _⟩
  (fun x=>{ tmps:=#[.int .u8 s,undef,.pointer (some ⟨w.heap.size,0,none⟩),.pointer (some ⟨w.heap.size+1,0,none⟩),.int .i64 x.1,.int .u8 s,.func (.func 183) #[] #[.pointer (some ⟨w.heap.size+1+1,0,none⟩)],.int .i64 x.1,undef,undef,undef,undef],defers:=[] }) ?assign ?body ?done ?stop
 case assign =>
  intro l x W K hK
  gi_wp2
  exact hK
 case body =>
  rintro l pre x W ⟨⟨hA,hS⟩,hB⟩ hlt'
  have hp:=x.2
  have hbi:(2:Nat) ^ (x.1 - 1).toNat < 256:=Nat.pow_lt_pow_right (by omega) (show (x.1 - 1).toNat < 8 by omega)
  obtain ⟨q,hq⟩:∃ q,q=2 ^ (x.1 - 1).toNat:=⟨_,rfl⟩
  have HQ:Hid (q=2 ^ (x.1 - 1).toNat):=hq
  have hbq:bitI x.1=(q:Int):=by rw [hq];rfl
  rw [← hq] at hbi
  clear hq
  have cA:W.cell? ⟨w.heap.size+1,q,none⟩=some (.bool (QW2 pre q)):=hA.cell hbi
  have fA:W.frozen? ⟨w.heap.size+1,q,none⟩=false:=hA.frozen q
  have hq':(q:Int) < 256:=by omega
  have hd:1≤n - 1 - 1:=by omega
  gi_wp2_with (first | (gi_at_call 184;refine (CallsIn.inRound l (callsIn_wide.2 (QT7 x.1 hp.1 hp.2 _))).mono ?_;rintro e wb ⟨rfl,rfl⟩;rw [hbq]) | fail)
  refine ⟨(KeepsOthers.setCell W ⟨w.heap.size+1,q,none⟩ _).from _,?_,⟨?_,?_⟩,?_⟩
  ·exact Below.heap_setCell _ _ _ _ (by simp)
  ·rw [oneP_snoc,← HQ.out];exact hA.put hbi
  ·exact (Below.heap_setCell _ _ _ _ (by simp)).trans hS
  ·exact hB.setCell (p:=⟨w.heap.size+1,q,none⟩) (Nat.le_refl _) _
 case done =>
  rintro D ys W hD hys ⟨⟨hA,_⟩,hB⟩ hK
  have hld:=QO7 W (w.heap.size+1) (QW2 ys) hA
  have hRs:QM1 W w.heap.size noT:=(hB.block w.heap.size (by omega)).trans bR'
  have hst:=qY7 W w.heap.size noT (QW2 ys) hRs
  have hl2:=qV0 (W.setRow w.heap.size (qG4 (QW2 ys))) w.heap.size (QW2 ys) (QA2 hRs)
  gi_wp2
  unfold Oper.wpIn
  simp [Oper.semAt,execOp,Act.eval,hld,Result.andThen]
  refine ⟨fun f hf=>(by cases hf),?_⟩
  rw [Oper.uponIn_value]
  have hKs:(W.setRow w.heap.size (qG4 (QW2 ys))).heap[D]? = some (.deferred (some [])):=(qZ0 (by omega)).trans hK
  gi_wp2
  refine ⟨by simp,.inl ⟨_,_,rfl,run_takeDeferred hKs,?_⟩⟩
  refine ⟨.agg (qG4 (QW2 ys)),?res,?val,?below⟩
  case res =>
   have hl3:=qV0 ((W.setRow w.heap.size (qG4 (QW2 ys))).putObj D (Obj.deferred none)) w.heap.size (QW2 ys) ((World.putObj_heap_other (by omega)).trans (QA2 hRs))
   simp [results,Tryz.results177,asAddr,Result.andThen,hl3]
  case val=>rw [oneP_end hys]
  case below =>
   have h1:Below w.heap.size w (W.setRow w.heap.size (qG4 (QW2 ys))):=QE7 (HB0.out.trans (hB.mono (by omega))) (Nat.le_refl _) _
   exact h1.grown (grownBy_putObj' _ D _) h1.size (fun k e=>by cases e;omega)
 case stop =>
  rintro D c pre W _ _ h _
  exact h.elim
theorem singles_c (s:Int) (w:World) (hs:qJ6 s) :
  Calls Tryz.prog 177 #[.int .u8 s] w fun e W'=>e = .returned (.agg (qG4 (oneT s)))∧Below w.heap.size w W' :=
 callsIn_wide.1 (singles_w 3 (Nat.le_refl _) s w hs)
end

section
open Go.RowKit Go.Sort
theorem QN8 (s:Int) (w:World):Calls Tryz.prog 133 #[.int .i64 s] w fun e w'=>e = .returned (.int .i64 (if qP2 s=true then 0 else 3))∧w=w':=by
 by_cases h0:0≤s
 ·by_cases h1:s≤255
  ·have h2:s < (256:Int):=by omega
   rw [show (if qP2 s=true then (0:Int) else 3)=0 by simp [qP2,h0,h1]]
   go_enter Tryz.func133,Tryz.ntmps133
   go_wp2
   go_ret
   exact ⟨rfl,rfl⟩
  ·have h2:(256:Int)≤s:=by omega
   rw [show (if qP2 s=true then (0:Int) else 3)=3 by simp [qP2,h1]]
   go_enter Tryz.func133,Tryz.ntmps133
   go_wp2
   go_ret
   exact ⟨rfl,rfl⟩
 ·have h2:s < (0:Int):=by omega
  rw [show (if qP2 s=true then (0:Int) else 3)=3 by simp [qP2,h0]]
  go_enter Tryz.func133,Tryz.ntmps133
  go_wp2
  go_ret
  exact ⟨rfl,rfl⟩
end

end Go.Proofs.YtlhgjackapdmbaaGreatDoor
