/- Contracts. -/
import Derived.Test.YtlhgjackapdmbaaGreatDoorPe17
import Derived.Laws.AppendOwnNone
import Derived.Test.YtlhgjackapdmbaaGreatDoorRows
import Derived.OpenVars
import Derived.Stop.LaidErr
import Derived.LaidLaws
namespace Go.Proofs.YtlhgjackapdmbaaGreatDoor
set_option maxRecDepth 100000
set_option maxHeartbeats 8000000
open Go.RowKit
set_option linter.unusedVariables false
set_option linter.unusedSimpArgs false

theorem l5Take_nil (b:Option Addr) (m cap2:Nat) (ys:List LkI) (w:World) (hm:m≤100) (hy:qK1 w b m ys) (hys:SL ys) (hyo:∀ x∈ys,okL x=true) :
  qH9 99 #[.slice none 0 0,.slice b m cap2] (qJ1 [] ys) (tkL [] ys) w:=by
 have h:qK1 w none 0 ([]:List LkI):=⟨rfl,fun h=>by omega⟩
 have hs:SL ([]:List LkI):=List.Pairwise.nil
 have ho:∀ x∈([]:List LkI),okL x=true:=by simp
 have HG:Hid (qK1 w none 0 ([]:List LkI)):=h
 have HY:Hid (qK1 w b m ys):=hy
 have HYS:Hid (SL ys):=hys
 have HYO:Hid (∀ x∈ys,okL x=true):=hyo
 have HZ:Hid (([]:List LkI).length=0):=h.1
 have HM:Hid (ys.length=m):=hy.1
 have HS0:Hid (TkS ([]:List LkI) ys 0 ([]:List LkI)):=TkS.zero ys hs ho
 obtain ⟨i0,hi,hz0,hz1,hz2⟩:=info_parts Tryz.info98
 have hm':(m:Int)≤100:=by omega
 obtain ⟨c,hc⟩:∃ c,qJ1 ([]:List LkI) ys=c:=⟨_,rfl⟩
 obtain ⟨L,hL⟩:∃ L,tkL ([]:List LkI) ys=L:=⟨_,rfl⟩
 have HC:Hid (qJ1 ([]:List LkI) ys=c):=hc
 have HL:Hid (tkL ([]:List LkI) ys=L):=hL
 rw [hc,hL]
 obtain ⟨W,hW⟩:∃ W,W=w.alloc (.cells #[.int .i64 0,.slice none 0 0] 124):=⟨_,rfl⟩
 have HW:Hid (W=w.alloc (.cells #[.int .i64 0,.slice none 0 0] 124)):=hW
 have hzW:W.heap.size=w.heap.size+1:=by rw [hW];simp
 have B0:Hid (Below w.heap.size w W):=by rw [hW];exact zN
 have D0:Hid (W.cell? ⟨w.heap.size,0,none⟩=some (.int .i64 0)∧W.cell? ⟨w.heap.size,1,none⟩=some (.slice none 0 0)∧W.frozen? ⟨w.heap.size,0,none⟩=false∧W.frozen? ⟨w.heap.size,1,none⟩=false):=by rw [hW];exact ⟨by go_cell,by go_cell,by simp [go_sem],by simp [go_sem]⟩
 have H5:Hid ((W.alloc (.cells #[] 98)).ownsRow (w.heap.size+1) 98 4 (.slice (some ⟨w.heap.size+1,0,none⟩) 0 0) 0 []):=by
  have h0:=World.ownsRow_lit (base:=w.heap.size+1) (e:=98) (size:=4) W #[] 0 (by omega) (Nat.zero_le _) rfl
  rw [hzW] at h0
  exact h0
 have G5:Hid (qK1 (W.alloc (.cells #[] 98)) none 0 ([]:List LkI)):=(h.below B0.out).below (zN)
 clear h hy hs ho hys hyo hc hL hW
 unfold qH9
 go_enter Tryz.func99,Tryz.ntmps99
 go_upto_region 1 with fail
 rw [← HW.out]
 go_wp2_with (first
  | (at_builtin;refine wpList_append_own_none rfl _ _ 31 rfl (w.heap.size+1) 98 i0 4 Tryz.underlying31 hi (.slice (some ⟨w.heap.size+1,0,none⟩) 0 0) 0 [] rfl H5.out rfl ?_)
  | fail)
 obtain ⟨w6,hw6⟩:∃ w6,w6=W.alloc (.cells #[] 98):=⟨_,rfl⟩
 have hown6:=H5.out
 have hgrow6:=qM8 (W.alloc (.cells #[] 98)) (Value.slice (some ⟨w.heap.size+1,0,none⟩) 0 0).ownBlock
 rw [← hw6] at hown6
 have hgrow6':(W.alloc (.cells #[] 98)).grownBy w6 (Value.slice (some ⟨w.heap.size+1,0,none⟩) 0 0).ownBlock:=by rw [hw6];exact qM8 _ _
 clear hgrow6
 have hgrow6:=hgrow6'
 clear hgrow6'
 have HS6:Hid (w6.heap.size=w.heap.size+1+1):=by
  show w6.heap.size=_
  rw [hw6]
  simp
  omega
 rw [← hw6]
 have BW6:Below w.heap.size w w6:=(B0.out.alloc (by omega) _).grown hgrow6 (by simp;omega) (fun q e=>by simp [Value.ownBlock] at e;omega)
 have hg6:=hown6.lt (w.heap.size+1) rfl
 have hne6:some w.heap.size≠(Value.slice (some ⟨w.heap.size+1,0,none⟩) 0 0).ownBlock:=by simp [Value.ownBlock]
 have k0:(W.alloc (.cells #[] 98)).cell? ⟨w.heap.size,0,none⟩=some (.int .i64 0):=(World.cell?_alloc_lt _ _ ⟨w.heap.size,0,none⟩ (by simp only;omega)).trans D0.out.1
 have k1:(W.alloc (.cells #[] 98)).cell? ⟨w.heap.size,1,none⟩=some (.slice none 0 0):=(World.cell?_alloc_lt _ _ ⟨w.heap.size,1,none⟩ (by simp only;omega)).trans D0.out.2.1
 have k2:(W.alloc (.cells #[] 98)).frozen? ⟨w.heap.size,0,none⟩=false:=(World.frozen?_alloc_old _ _ ⟨w.heap.size,0,none⟩ (by simp only;omega)).trans D0.out.2.2.1
 have k3:(W.alloc (.cells #[] 98)).frozen? ⟨w.heap.size,1,none⟩=false:=(World.frozen?_alloc_old _ _ ⟨w.heap.size,1,none⟩ (by simp only;omega)).trans D0.out.2.2.2
 have A6:Below w6.heap.size w6 (w6.alloc (.cells #[.int .i64 0,.slice (some ⟨w.heap.size+1,0,none⟩) 0 0] 124)):=zN
 have hlw:w.heap.size < w6.heap.size:=by have:=hg6.2;have:=hg6.1;omega
 have hla:w.heap.size < (W.alloc (.cells #[] 98)).heap.size:=by simp;omega
 have T6:Hid (TT w (w6.alloc (.cells #[.int .i64 0,.slice (some ⟨w.heap.size+1,0,none⟩) 0 0] 124)) w6.heap.size ([]:List LkI) (w.heap.size+1) 0):=by
  have ho6:qA4 w6 w.heap.size (.slice (some ⟨w.heap.size+1,0,none⟩) 0 0) ([]:List LkI):=qA9 (B:=w.heap.size+1) hown6 (by omega)
  exact ⟨ho6.below A6,by simp,by simp,by simp [go_sem],by simp [go_sem],by have:=hg6.2;omega,hlw,by have:=hg6.1;omega,(A6.cell (p:=⟨w.heap.size,0,none⟩) hlw).trans (hgrow6.cell k0 hne6),(A6.cell (p:=⟨w.heap.size,1,none⟩) hlw).trans (hgrow6.cell k1 hne6),(A6.frozen (p:=⟨w.heap.size,0,none⟩) hlw).trans (qR2 hgrow6 hla hne6 k2),(A6.frozen (p:=⟨w.heap.size,1,none⟩) hlw).trans (qR2 hgrow6 hla hne6 k3),BW6.trans (A6.mono BW6.size)⟩
 clear hown6 hgrow6 k0 k1 k2 k3 A6 BW6 hne6 hla H5 G5 D0
 go_wp2_with fail
 generalize w6.alloc (.cells #[.int .i64 0,.slice (some ⟨w.heap.size+1,0,none⟩) 0 0] 124)=w7 at T6 ⊢
 rw [HS6.out] at T6
 generalize hbo:w.heap.size+1+1=bo at T6 ⊢
 clear hbo hw6
 go_loopw [6] (fun i wr=>∃ (k:Nat) (all:List LkI) (g cp:Nat),k≤m∧i = .int .i64 (k:Int)∧Hid (TkS ([]:List LkI) ys k all∧TT w wr bo all g cp)) (fun i _=>m - (intOf i).toNat)
 case atStart=>exact ⟨0,([]:List LkI),(w.heap.size+1),0,Nat.zero_le _,rfl,HS0.out,T6.out⟩
 case round =>
  obtain ⟨k,all,g,cp,hk,rfl,HK⟩:=hrel
  by_cases hlt:k < m
  ·have hlt':(k:Int) < (m:Int):=by omega
   obtain ⟨b1,o1,y,e1,hy,hr,hb1⟩:=HY.out.at hlt
   subst e1
   obtain ⟨c0,c1,c2,c3⟩:=hr.below HK.out.2.bel hb1
   have HYK:Hid (ys[k]? = some y):=hy
   have A1:Below wr.heap.size wr (wr.alloc (.cells #[.int .i64 y.e,.int .i64 y.c,.int .i64 y.p,.int .i64 y.f] 98)):=zN
   have T1:Hid (TT w (wr.alloc (.cells #[.int .i64 y.e,.int .i64 y.c,.int .i64 y.p,.int .i64 y.f] 98)) bo all g cp):=HK.out.2.below A1
   have Y1:Hid (QC7 (wr.alloc (.cells #[.int .i64 y.e,.int .i64 y.c,.int .i64 y.p,.int .i64 y.f] 98)) wr.heap.size 0 y):=by simp [Hid,QC7]
   have hzb:wr.heap.size < (wr.alloc (.cells #[.int .i64 y.e,.int .i64 y.c,.int .i64 y.p,.int .i64 y.f] 98)).heap.size:=by simp
   clear hy hr A1
   go_upto_region 6 with fail
   clear c0 c1 c2 c3
   generalize wr.alloc (.cells #[.int .i64 y.e,.int .i64 y.c,.int .i64 y.p,.int .i64 y.f] 98)=w1 at T1 Y1 hzb ⊢
   obtain ⟨y0,y1,y2,y3⟩:=Y1.out
   simp only [Nat.zero_add] at y0 y1 y2 y3
   go_wp2_with fail
   refine (l5Of_c _ 0 0 ([]:List LkI) y.e y.c y.p _ (HG.out.below T1.out.bel) (by omega)).mono ?_
   rintro e w2 ⟨rfl,hb2⟩
   have T2:Hid (TT w w2 bo all g cp):=T1.out.below hb2
   have Y2:Hid (QC7 w2 wr.heap.size 0 y):=Y1.out.below hb2 hzb
   have hzb2:wr.heap.size < w2.heap.size:=by have:=hb2.size;omega
   clear hb2 T1 Y1 hzb y0 y1 y2 y3
   obtain ⟨y0,y1,y2,y3⟩:=Y2.out
   simp only [Nat.zero_add] at y0 y1 y2 y3
   obtain ⟨F,hF⟩:∃ F,qE6 ([]:List LkI) y.e y.c y.p=F:=⟨_,rfl⟩
   have HF:Hid (qE6 ([]:List LkI) y.e y.c y.p=F):=hF
   rw [hF]
   clear hF
   by_cases f0:F=0
   ·subst f0
    have HN:Hid (TkS ([]:List LkI) ys (k+1) (QB0 all y)):=HK.out.1.put HYS.out HYK.out (HYO.out y (List.mem_of_getElem? HYK.out)) HF.out
    obtain ⟨x0,x1⟩:w2.cell? ⟨bo,0,none⟩=some (.int .i64 0)∧w2.cell? ⟨bo,1,none⟩=some (.slice (some ⟨g,0,none⟩) all.length cp):=⟨T2.out.x0,T2.out.x1⟩
    have hlen:all.length≤300:=by have:=HK.out.1.len;have:=HZ.out;omega
    go_wp2_with fail
    refine (l5Put_c w.heap.size g all.length cp all y _ rfl (by omega) T2.out.ow HK.out.1.sl T2.out.bel.size).mono ?_
    rintro e w3 ⟨g',cp',rfl,ho3,hb3⟩
    have T3:Hid (TT w w3 bo all g cp):=T2.out.below hb3
    have hl3:all.length+1=(QB0 all y).length:=(QD4 all y).symm
    have HP:Hid (TT w (w3.setCell ⟨bo,1,none⟩ (.slice (some ⟨g',0,none⟩) (all.length+1) cp')) bo (QB0 all y) g' cp'):=by
     have hg':=(qV3 ho3 g' rfl).1
     rw [hl3] at ho3 ⊢
     exact T3.out.put (qA9 ho3 T2.out.bel.size) (by have:=T2.out.lt;omega) (by have:=T2.out.lt;have:=T2.out.bg;omega)
    have q1:=T3.out.x1
    have q2:=T3.out.f1
    clear ho3 hb3 T2 T3 x0 x1 y0 y1 y2 y3 hl3
    go_wp2_with fail
    exact ⟨⟨k+1,QB0 all y,g',cp',by omega,by go_num,HN.out,HP.out⟩,by simp [intOf];omega⟩
   ·have b0':(F != 0)=true:=by simpa using f0
    have b1':(F==0)=false:=by simpa using f0
    by_cases f1:F=y.f
    ·have b2':(F != y.f)=false:=by simp [f1]
     have HN:Hid (TkS ([]:List LkI) ys (k+1) all):=HK.out.1.stay HYK.out (by rw [HF.out];exact f0) (by rw [HF.out];exact f1)
     clear f0 f1
     go_wp2_with fail
     exact ⟨⟨k+1,all,g,cp,by omega,by go_num,HN.out,T2.out⟩,by simp [intOf];omega⟩
    ·have b2':(F != y.f)=true:=by simpa using f1
     have HN:Hid (c=6∧L=[]):=by
      have h1:qJ4 ([]:List LkI) ys (k+1)=none:=by
       rw [qJ3 HK.out.1.tk HYK.out,qO7,if_neg (by rw [HF.out];exact f0),if_neg (by rw [HF.out];exact f1)]
      have:=QD1 h1 (by rw [HM.out];omega)
      rw [HC.out,HL.out] at this
      exact this
     obtain ⟨r0,r1⟩:w2.cell? ⟨w.heap.size,0,none⟩=some (.int .i64 0)∧w2.cell? ⟨w.heap.size,1,none⟩=some (.slice none 0 0):=⟨T2.out.r0,T2.out.r1⟩
     have e0:=T2.out.e0
     have e1:=T2.out.e1
     clear f0 f1
     go_wp2_with fail
     obtain ⟨hc6,hL6⟩:=HN.out
     rw [hc6,hL6]
     refine bodyPost_ret (v:=.agg #[.int .i64 6,.slice none 0 0]) (by simp [results,Tryz.results99,go_sem,r0,r1]) rfl ⟨none,0,rfl,World.ownsRow_nil _ _ _ _,?_⟩
     exact (T2.out.bel.setCell (Nat.le_refl _) _).setCell (Nat.le_refl _) _
  ·have hkm:k=m:=by omega
   subst hkm
   obtain ⟨x0,x1⟩:wr.cell? ⟨bo,0,none⟩=some (.int .i64 0)∧wr.cell? ⟨bo,1,none⟩=some (.slice (some ⟨g,0,none⟩) all.length cp):=⟨HK.out.2.x0,HK.out.2.x1⟩
   obtain ⟨r0,r1⟩:wr.cell? ⟨w.heap.size,0,none⟩=some (.int .i64 0)∧wr.cell? ⟨w.heap.size,1,none⟩=some (.slice none 0 0):=⟨HK.out.2.r0,HK.out.2.r1⟩
   have e0:=HK.out.2.e0
   have e1:=HK.out.2.e1
   have htk:qJ4 ([]:List LkI) ys ys.length=some all:=by rw [HM.out];exact HK.out.1.tk
   by_cases h200:200 < all.length
   ·have hl2:(200:Int) < (all.length:Int):=by omega
    have HN:Hid (c=2∧L=[]):=by
     have:=QT1 htk h200
     rw [HC.out,HL.out] at this
     exact this
    clear htk
    go_wp2_with fail
    obtain ⟨hc6,hL6⟩:=HN.out
    rw [hc6,hL6]
    refine bodyPost_ret (v:=.agg #[.int .i64 2,.slice none 0 0]) (by simp [results,Tryz.results99,go_sem,r0,r1]) rfl ⟨none,0,rfl,World.ownsRow_nil _ _ _ _,?_⟩
    exact (HK.out.2.bel.setCell (Nat.le_refl _) _).setCell (Nat.le_refl _) _
   ·have hl2:(all.length:Int)≤200:=by omega
    have HN:Hid (c=0∧L=all):=by
     have:=QF0 htk h200
     rw [HC.out,HL.out] at this
     exact this
    clear htk
    go_wp2_with fail
    obtain ⟨hc6,hL6⟩:=HN.out
    rw [hc6,hL6]
    refine bodyPost_ret (v:=.agg #[.int .i64 0,.slice (some ⟨g,0,none⟩) all.length cp]) (by simp [results,Tryz.results99,go_sem,r0,r1]) rfl ⟨some ⟨g,0,none⟩,cp,rfl,?_,?_⟩
    ·have k1:=qX1 wr w.heap.size (.int .i64 0) (.slice (some ⟨g,0,none⟩) all.length cp)
     exact World.ownsRow.kept (row:=some w.heap.size) HK.out.2.ow k1 (.inr (by have:=HK.out.2.gg;simp [Value.ownBlock];omega))
    ·exact (HK.out.2.bel.setCell (Nat.le_refl _) _).setCell (Nat.le_refl _) _

section
open Go.ChangeShapes Go.WideShapes Go.RowKit
def qO1 (g:Nat) (w:World):Prop:=∃ a:Addr,w.cell? ⟨g,0,none⟩=some (.iface 308 (.pointer (some a)))
theorem qO1.below {g:Nat} {w w':World} (h:qO1 g w) (hb:Below w.heap.size w w'):qO1 g w':=by
 obtain ⟨a,h⟩:=h
 exact ⟨a,(hb.cell (p:=⟨g,0,none⟩) (zL w ⟨g,0,none⟩ h)).trans h⟩
theorem Tryz.cellsES:Tryz.prog.cellsOf 332=1:=by kernel_rfl
theorem Tryz.cellsStr:Tryz.prog.cellsOf 9=1:=by kernel_rfl
theorem starES : "*" ++ "errors.errorString" = "*errors.errorString" := by decide
theorem Tryz.rowES (u:TypeId) (h:Tryz.prog.typeName? 3 u=some "*errors.errorString"):u=308 :=
 typeName_ptr_named (nm := "errors.errorString") (by rw [starES];kernel_rfl) (by kernel_rfl) (by decide) u (by rw [starES];exact h)
theorem vars_one {H:Type} {enc:TypeId × Value→H} {P:Program} {w:World} {sp:Nat→Bool} {n:String} {gs:List (DataW H)} {ps:List MemPlace} (h:DataW.TrodVars enc P w sp [n] gs ps):∃ g,gs=[g]:=by
 rcases gs with _ | ⟨g,_ | ⟨g2,r⟩⟩
 ·exact h.elim
 ·exact ⟨g,rfl⟩
 ·obtain ⟨_,_,_,_,_,_,_,_,_,_,hs,_⟩:=h
  exact hs.elim
end

end Go.Proofs.YtlhgjackapdmbaaGreatDoor
