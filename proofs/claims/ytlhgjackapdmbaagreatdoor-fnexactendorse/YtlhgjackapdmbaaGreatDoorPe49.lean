/- Contracts. -/
import Derived.Test.YtlhgjackapdmbaaGreatDoorPe48
namespace Go.Proofs.YtlhgjackapdmbaaGreatDoor
set_option maxRecDepth 100000
set_option maxHeartbeats 8000000
open Go.RowKit
set_option linter.unusedVariables false
set_option linter.unusedSimpArgs false

structure ConfK (lo hi:Nat) (w:World) (d:qA5):Prop where
 ru:d.rn≤1048576∧∃ g,d.ra=some ⟨g,0,none⟩∧lo≤g∧g < hi∧qO0 w g (d.rn * 8)
 fo:d.fn≤1048576∧∃ g,d.fa=some ⟨g,0,none⟩∧qV0 lo hi w g d.fn d.fs
 cl:d.cn≤1048576∧∃ g,d.ca=some ⟨g,0,none⟩∧lo≤g∧g < hi∧qO0 w g d.cn
theorem ConfK.mrk {lo hi:Nat} {w w':World} {d:qA5} (h:ConfK lo hi w d) (k:Mrk w w'):ConfK lo hi w' d:=by
 obtain ⟨⟨a0,g,a1,a2,a3,a4⟩,⟨b0,g',b1,b2⟩,⟨c0,g'',c1,c2,c3,c4⟩⟩:=h
 exact ⟨⟨a0,g,a1,a2,a3,a4.mrk k⟩,⟨b0,g',b1,b2.mrk k⟩,⟨c0,g'',c1,c2,c3,c4.mrk k⟩⟩
structure qQ5 (lo hi:Nat) (w:World) (T n:Nat) (ds:List qA5):Prop where
 ln:ds.length=n
 at5:∀ (j:Nat) (d:qA5),ds[j]? = some d→(∃ x,w.cell? ⟨T,j * 5,none⟩=some (.int .i64 x))∧(∃ x,w.cell? ⟨T,j * 5+1,none⟩=some (.int .i64 x))∧w.cell? ⟨T,j * 5+2,none⟩=some (.slice d.ra d.rn d.rc)∧w.cell? ⟨T,j * 5+3,none⟩=some (.slice d.fa d.fn d.fc)∧w.cell? ⟨T,j * 5+4,none⟩=some (.slice d.ca d.cn d.cc)∧ConfK lo hi w d
 fr:∀ o,w.frozen? ⟨T,o,none⟩=false
 lo:lo≤T∧T < hi
theorem qQ5.mrk {lo hi:Nat} {w w':World} {T n:Nat} {ds:List qA5} (h:qQ5 lo hi w T n ds) (k:Mrk w w'):qQ5 lo hi w' T n ds :=
 ⟨h.ln,fun j d e=>by
  obtain ⟨⟨x,h0⟩,⟨y,h1⟩,h2,h3,h4,h5⟩:=h.at5 j d e
  exact ⟨k.it _ x h0,k.it _ y h1,k.sl _ _ _ _ h2,k.sl _ _ _ _ h3,k.sl _ _ _ _ h4,h5.mrk k⟩,fun o=>(k.fr _).trans (h.fr o),h.lo⟩
theorem QO9 (lo hi T n cap:Nat) (k0:Int) (ds:List qA5) (w:World) (hn:n≤1048576) (h0:0≤k0) (h1:k0≤1000000000000000000) (h:qQ5 lo hi w T n ds) :
  Calls Tryz.prog 23 #[.slice (some ⟨T,0,none⟩) n cap,.int .i64 k0] w fun e w'=>(∃ k:Int,e = .returned (.int .i64 k)∧k0≤k∧k≤k0+5497567576066 * (n:Int))∧Mrk w w'∧Chg lo hi w w':=by
 have HO:Hid (qQ5 lo hi w T n ds):=h
 clear h
 have hn':(n:Int)≤1048576:=by omega
 go_enter Tryz.func23,Tryz.ntmps23
 go_wp2
 go_loopw [1,5] (fun q i wr=>∃ (j:Nat) (k:Int),j≤n∧i = .int .i64 (j:Int)∧q = .int .i64 k∧(k0≤k∧k≤k0+5497567576066 * (j:Int))∧Mrk w wr∧Chg lo hi w wr)
  (fun _ i _=>n - (intOf i).toNat)
 case atStart=>exact ⟨0,k0,Nat.zero_le _,rfl,rfl,⟨by omega,by omega⟩,Mrk.refl _,Chg.refl _⟩
 case round =>
  obtain ⟨j,k,hj,rfl,rfl,⟨hk0,hk1⟩,hmk,hch⟩:=hrel
  have HM:Hid (Mrk w wr∧Chg lo hi w wr):=⟨hmk,hch⟩
  have HT:Hid (qQ5 lo hi wr T n ds):=HO.out.mrk hmk
  clear hmk hch
  by_cases hlt:j < n
  ·have hlt':(j:Int) < (n:Int):=by omega
   obtain ⟨d,hd⟩:∃ d,ds[j]? = some d:=⟨_,List.getElem?_eq_getElem (by rw [HT.out.ln];exact hlt)⟩
   obtain ⟨⟨x,c0⟩,⟨y,c1⟩,c2,c3,c4,hck⟩:=HT.out.at5 j d hd
   have HCK:Hid (ConfK lo hi wr d):=hck
   obtain ⟨⟨hrn,gr,hra,_⟩,⟨hfn,gf,hfa,_⟩,⟨hcn,gc,hca,_⟩⟩:=hck
   have f0:=HT.out.fr (j * 5)
   have f1:=HT.out.fr (j * 5+1)
   have hTl:=zL wr ⟨T,j * 5,none⟩ c0
   rw [hra] at c2
   rw [hfa] at c3
   rw [hca] at c4
   obtain ⟨W2,hW2⟩:∃ W2,W2=(wr.setCell ⟨T,j * 5,none⟩ (.int .i64 k)).setCell ⟨T,j * 5+1,none⟩ (.int .i64 (k+1)):=⟨_,rfl⟩
   have M2:Mrk wr W2:=by
    rw [hW2]
    obtain ⟨z,hz⟩:=(Mrk.set c0 k).it _ _ c1
    exact (Mrk.set c0 k).trans (Mrk.set hz (k+1))
   have C2:Chg lo hi wr W2:=by
    rw [hW2]
    exact (Chg.grown (qJ5 wr T (j * 5) _) (fun q e=>by cases e;exact HT.out.lo)).trans (Chg.grown (qJ5 _ T (j * 5+1) _) (fun q e=>by cases e;exact HT.out.lo))
   have HM2:Hid (Mrk w W2∧Chg lo hi w W2):=⟨HM.out.1.trans M2,HM.out.2.trans C2⟩
   have HD:Hid (ds[j]? = some d):=hd
   clear M2 C2 hd HM
   go_upto_region 8 with fail
   rw [← hW2]
   clear hW2 c0 c1 f0 f1 hTl
   have q2:=((HO.out.mrk HM2.out.1).at5 j d HD.out).2.2.1
   rw [hra] at q2
   have hTl:=zL W2 ⟨T,j * 5+2,none⟩ q2
   obtain ⟨⟨_,gr',hra',hrlo,hrhi,hrow⟩,_,_⟩:=((HO.out.mrk HM2.out.1).at5 j d HD.out).2.2.2.2.2
   rw [hra] at hra'
   cases hra'
   have HR:Hid (qO0 W2 gr (d.rn * 8)):=hrow
   clear hrow c2 c3 c4
   go_wp2_with fail
   refine (QZ5 lo hi gr d.rn d.rc _ W2 hrn ?h0 ?h1 ⟨hrlo,hrhi⟩ HR.out).mono ?_
   case h0=>omega
   case h1=>omega
   rintro e w3 ⟨rfl,m3,h3⟩
   have HM3:Hid (Mrk w w3∧Chg lo hi w w3):=⟨HM2.out.1.trans m3,HM2.out.2.trans h3⟩
   clear m3 h3 HM2 q2 hTl HR
   have q3:=((HO.out.mrk HM3.out.1).at5 j d HD.out).2.2.2.1
   rw [hfa] at q3
   have hTl:=zL w3 ⟨T,j * 5+3,none⟩ q3
   obtain ⟨_,⟨_,gf',hfa',hft⟩,_⟩:=((HO.out.mrk HM3.out.1).at5 j d HD.out).2.2.2.2.2
   rw [hfa] at hfa'
   cases hfa'
   have HF:Hid (qV0 lo hi w3 gf d.fn d.fs):=hft
   have hrn':(d.rn:Int)≤1048576:=by omega
   clear hft
   go_wp2_with fail
   refine (QZ8 lo hi gf d.fn d.fc _ d.fs w3 hfn ?h0 ?h1 HF.out).mono ?_
   case h0=>omega
   case h1=>omega
   rintro e w4 ⟨⟨k4,rfl,k40,k41⟩,m4,h4⟩
   have HM4:Hid (Mrk w w4∧Chg lo hi w w4):=⟨HM3.out.1.trans m4,HM3.out.2.trans h4⟩
   clear m4 h4 HM3 q3 hTl HF
   have q4:=((HO.out.mrk HM4.out.1).at5 j d HD.out).2.2.2.2.1
   rw [hca] at q4
   have hTl:=zL w4 ⟨T,j * 5+4,none⟩ q4
   obtain ⟨_,_,⟨_,gc',hca',hclo,hchi,hcrow⟩⟩:=((HO.out.mrk HM4.out.1).at5 j d HD.out).2.2.2.2.2
   rw [hca] at hca'
   cases hca'
   have HC:Hid (qO0 w4 gc d.cn):=hcrow
   have hfn':(d.fn:Int)≤1048576:=by omega
   have hcn':(d.cn:Int)≤1048576:=by omega
   clear hcrow
   go_wp2_with fail
   refine (markIntsK_c lo hi gc d.cn d.cc k4 w4 hcn (by omega) (by omega) ⟨hclo,hchi⟩ HC.out).mono ?_
   rintro e w5 ⟨rfl,m5,h5⟩
   have HM5:Hid (Mrk w w5∧Chg lo hi w w5):=⟨HM4.out.1.trans m5,HM4.out.2.trans h5⟩
   clear m5 h5 HM4 q4 hTl HC
   go_wp2_with fail
   exact ⟨⟨j+1,k4+1 * (d.cn:Int),by omega,by go_num,by congr 1;omega,⟨by omega,by simp;omega⟩,HM5.out.1,HM5.out.2⟩,by simp [intOf];omega⟩
  ·have hjn:j=n:=by omega
   subst hjn
   go_wp2_with fail
   go_ret
   exact ⟨⟨k,rfl,hk0,hk1⟩,HM.out.1,HM.out.2⟩
theorem qH6.tab {w0 w:World} {n:Nat} {cs ds:List qA5} (h:qH6 w0 w n cs ds n) (hle:∀ (k:Nat) d,ds[k]? = some d→qD7 1048576 d):qQ5 w0.heap.size w.heap.size w w0.heap.size n ds:=by
 refine ⟨h.ln,fun j d e=>?_,h.rm.2,Nat.le_refl _,h.lt⟩
 obtain ⟨a0,a1,a2,a3,a4⟩:=h.ca j d e
 have hn:=h.nw j d e
 have hl:=hle j d e
 refine ⟨⟨_,a0⟩,⟨_,a1⟩,a2,a3,a4,⟨hl.rules,?_⟩,⟨hl.forms,?_⟩,⟨hl.classes,?_⟩⟩
 ·obtain ⟨_,g,hg,hlo,hhi,hroom⟩:=hn.nw.rules
  refine ⟨g,hg,by omega,hhi,fun q hq=>?_,hroom.2⟩
  have hr:=hn.rd.rules
  rw [hg] at hr
  obtain ⟨b,off,eb,hat⟩:=hr.2 (by omega)
  cases eb
  have hx:d.zs[q / 8]? = some (d.zs[q / 8]'(by rw [hr.1];omega)):=List.getElem?_eq_getElem _
  obtain ⟨c0,c1,c2,c3,c4,c5,c6,c7⟩:=hat _ _ hx
  simp only [Nat.zero_add] at c0 c1 c2 c3 c4 c5 c6 c7
  have hm:q % 8=0∨q % 8=1∨q % 8=2∨q % 8=3∨q % 8=4∨q % 8=5∨q % 8=6∨q % 8=7:=by omega
  rcases hm with hm | hm | hm | hm | hm | hm | hm | hm
  ·exact ⟨_,by rw [show q=q / 8 * 8 by omega];exact c0⟩
  ·exact ⟨_,by rw [show q=q / 8 * 8+1 by omega];exact c1⟩
  ·exact ⟨_,by rw [show q=q / 8 * 8+2 by omega];exact c2⟩
  ·exact ⟨_,by rw [show q=q / 8 * 8+3 by omega];exact c3⟩
  ·exact ⟨_,by rw [show q=q / 8 * 8+4 by omega];exact c4⟩
  ·exact ⟨_,by rw [show q=q / 8 * 8+5 by omega];exact c5⟩
  ·exact ⟨_,by rw [show q=q / 8 * 8+6 by omega];exact c6⟩
  ·exact ⟨_,by rw [show q=q / 8 * 8+7 by omega];exact c7⟩
 ·obtain ⟨_,g,hg,hlo,hhi,hroom⟩:=hn.nw.forms
  refine ⟨g,hg,hn.rd.forms.1,fun q x hx=>⟨?_,?_⟩⟩
  ·have hf:=hn.rd.forms
   rw [hg] at hf
   have hq:q < d.fn:=by rw [← hf.1];exact (List.getElem?_eq_some_iff.1 hx).1
   obtain ⟨b,off,eb,hat⟩:=hf.2 (by omega)
   cases eb
   have:=(hat q x hx).1
   rw [Nat.zero_add] at this
   exact this
  ·obtain ⟨_,gp,hgp,hplo,hphi,hproom⟩:=hn.nw.parts q x hx
   refine ⟨hl.parts q x hx,gp,hgp,by omega,hphi,fun r hr=>?_,hproom.2⟩
   have hf:=hn.rd.forms
   have hq:q < d.fn:=by rw [← hf.1];exact (List.getElem?_eq_some_iff.1 hx).1
   obtain ⟨b,off,eb,hat⟩:=hf.2 (by omega)
   have hp:=(hat q x hx).2
   rw [hgp] at hp
   obtain ⟨b',off',eb',hat'⟩:=hp.2 (by omega)
   cases eb'
   have hy:x.ps[r / 5]? = some (x.ps[r / 5]'(by rw [hp.1];omega)):=List.getElem?_eq_getElem _
   obtain ⟨c0,c1,c2,c3,c4⟩:=hat' _ _ hy
   simp only [Nat.zero_add] at c0 c1 c2 c3 c4
   have hm:r % 5=0∨r % 5=1∨r % 5=2∨r % 5=3∨r % 5=4:=by omega
   rcases hm with hm | hm | hm | hm | hm
   ·exact ⟨_,by rw [show r=r / 5 * 5 by omega];exact c0⟩
   ·exact ⟨_,by rw [show r=r / 5 * 5+1 by omega];exact c1⟩
   ·exact ⟨_,by rw [show r=r / 5 * 5+2 by omega];exact c2⟩
   ·exact ⟨_,by rw [show r=r / 5 * 5+3 by omega];exact c3⟩
   ·exact ⟨_,by rw [show r=r / 5 * 5+4 by omega];exact c4⟩
 ·obtain ⟨_,g,hg,hlo,hhi,hroom⟩:=hn.nw.classes
  refine ⟨g,hg,by omega,hhi,fun q hq=>?_,hroom.2⟩
  have hr:=hn.rd.classes
  rw [hg] at hr
  obtain ⟨b,off,eb,hat⟩:=hr.2 (by omega)
  cases eb
  have hx:d.cs[q]? = some (d.cs[q]'(by rw [hr.1];omega)):=List.getElem?_eq_getElem _
  have:=hat _ _ hx
  rw [Nat.zero_add] at this
  exact ⟨_,this⟩

theorem QP9.below {lo hi:Nat} {w w':World} {x:qF1} (h:QP9 lo hi w x) (hh:hi≤w.heap.size) (hb:Below w.heap.size w w'):QP9 lo hi w' x:=by
 obtain ⟨h0,g,h1,h2,h3,h4⟩:=h
 exact ⟨h0,g,h1,h2,h3,h4.below (by omega) hb⟩
theorem qV0.below {lo hi:Nat} {w w':World} {g n:Nat} {fs:List qF1} (h:qV0 lo hi w g n fs) (hh:hi≤w.heap.size) (hb:Below w.heap.size w w'):qV0 lo hi w' g n fs :=
 ⟨h.1,fun j x e=>⟨(hb.cell (p:=⟨g,j,none⟩) (zL w ⟨g,j,none⟩ (h.2 j x e).1)).trans (h.2 j x e).1,(h.2 j x e).2.below hh hb⟩⟩
theorem ConfK.below {lo hi:Nat} {w w':World} {d:qA5} (h:ConfK lo hi w d) (hh:hi≤w.heap.size) (hb:Below w.heap.size w w'):ConfK lo hi w' d:=by
 obtain ⟨⟨a0,g,a1,a2,a3,a4⟩,⟨b0,g',b1,b2⟩,⟨c0,g'',c1,c2,c3,c4⟩⟩:=h
 exact ⟨⟨a0,g,a1,a2,a3,a4.below (by omega) hb⟩,⟨b0,g',b1,b2.below hh hb⟩,⟨c0,g'',c1,c2,c3,c4.below (by omega) hb⟩⟩
theorem qQ5.below {lo hi:Nat} {w w':World} {T n:Nat} {ds:List qA5} (h:qQ5 lo hi w T n ds) (hh:hi≤w.heap.size) (hb:Below w.heap.size w w'):qQ5 lo hi w' T n ds:=by
 have hT:T < w.heap.size:=by have:=h.lo.2;omega
 refine ⟨h.ln,fun j d e=>?_,fun o=>(hb.frozen (p:=⟨T,o,none⟩) hT).trans (h.fr o),h.lo⟩
 obtain ⟨⟨x,h0⟩,⟨y,h1⟩,h2,h3,h4,h5⟩:=h.at5 j d e
 have k:∀ o,w'.cell? ⟨T,o,none⟩=w.cell? ⟨T,o,none⟩:=fun o=>hb.cell (p:=⟨T,o,none⟩) hT
 exact ⟨⟨x,(k _).trans h0⟩,⟨y,(k _).trans h1⟩,(k _).trans h2,(k _).trans h3,(k _).trans h4,h5.below hh hb⟩
def CpB (lo hi n:Nat) (cs:List qA5) (X:World):Prop:=∃ ds,qA7 X (some ⟨lo,0,none⟩) n ds∧qO4 cs ds∧qF5 1048576 ds∧qQ5 lo hi X lo n ds∧hi≤X.heap.size
theorem qH6.cpB {w0 w wA:World} {a:Option Addr} {n:Nat} {cs ds:List qA5} (h:qH6 w0 w n cs ds n) (hn:n≤1048576) (hi:qA7 wA a n cs) (hl:∀ (k:Nat) c,cs[k]? = some c→qD7 1048576 c):qD6 (CpB w0.heap.size w.heap.size n cs) w :=
 ⟨⟨ds,h.isIn,h.same hi.len,h.le hn hi hl,h.tab (h.le hn hi hl).1,Nat.le_refl _⟩,fun X X' hX hb=>by
  obtain ⟨es,h1,h2,h3,h4,h5⟩:=hX
  exact ⟨es,h1.below hb,h2,h3,h4.below h5 hb,Nat.le_trans h5 hb.size⟩⟩
theorem eqCpB_c {lo hi lo' hi' n:Nat} {cs:List qA5} (ca cb:Nat) {W:World} (hn:n≤1048576) (h:CpB lo hi n cs W) (h':CpB lo' hi' n cs W) :
  Calls Tryz.prog 15 #[.slice (some ⟨lo,0,none⟩) n ca,.slice (some ⟨lo',0,none⟩) n cb] W fun e w'=>e = .returned (.bool true)∧Below W.heap.size W w':=by
 obtain ⟨ds,h1,h2,h3,_,_⟩:=h
 obtain ⟨es,k1,k2,_,_,_⟩:=h'
 exact QP4 _ _ n ca cb ds es W hn h3.1 (QQ4 h2 k2) h1 k1

structure TabL (lo hi:Nat) (w:World) (T n:Nat) (ds:List qA5):Prop where
 tab:qQ5 lo hi w T n ds
 fa:∀ (j:Nat) d,ds[j]? = some d→∀ g,d.fa=some ⟨g,0,none⟩→lo≤g∧g < hi
theorem qO0.blk {w w':World} {g m:Nat} (h:qO0 w g m) (hb:w'.heap[g]? = w.heap[g]?):qO0 w' g m :=
 ⟨fun j hj=>by obtain ⟨x,e⟩:=h.1 j hj;exact ⟨x,(World.cell?_of_block (a:=⟨g,j,none⟩) hb).trans e⟩,fun j=>(World.frozen?_of_block (a:=⟨g,j,none⟩) hb).trans (h.2 j)⟩
theorem QP9.blk {lo hi:Nat} {w w':World} {x:qF1} (h:QP9 lo hi w x) (hk:∀ b,lo≤b→b < hi→w'.heap[b]? = w.heap[b]?):QP9 lo hi w' x:=by
 obtain ⟨h0,g,h1,h2,h3,h4⟩:=h
 exact ⟨h0,g,h1,h2,h3,h4.blk (hk g h2 h3)⟩
theorem TabL.blk {lo hi:Nat} {w w':World} {T n:Nat} {ds:List qA5} (h:TabL lo hi w T n ds) (hk:∀ b,lo≤b→b < hi→w'.heap[b]? = w.heap[b]?):TabL lo hi w' T n ds:=by
 have hT:=hk T h.tab.lo.1 h.tab.lo.2
 have k:∀ o,w'.cell? ⟨T,o,none⟩=w.cell? ⟨T,o,none⟩:=fun o=>World.cell?_of_block (a:=⟨T,o,none⟩) hT
 refine ⟨⟨h.tab.ln,fun j d e=>?_,fun o=>(World.frozen?_of_block (a:=⟨T,o,none⟩) hT).trans (h.tab.fr o),h.tab.lo⟩,h.fa⟩
 obtain ⟨⟨x,h0⟩,⟨y,h1⟩,h2,h3,h4,⟨⟨a0,g,a1,a2,a3,a4⟩,⟨b0,g',b1,b2⟩,⟨c0,g'',c1,c2,c3,c4⟩⟩⟩:=h.tab.at5 j d e
 have hg':=h.fa j d e g' b1
 refine ⟨⟨x,(k _).trans h0⟩,⟨y,(k _).trans h1⟩,(k _).trans h2,(k _).trans h3,(k _).trans h4,⟨⟨a0,g,a1,a2,a3,a4.blk (hk g a2 a3)⟩,⟨b0,g',b1,b2.1,fun q z hz=>⟨(World.cell?_of_block (a:=⟨g',q,none⟩) (hk g' hg'.1 hg'.2)).trans (b2.2 q z hz).1,(b2.2 q z hz).2.blk hk⟩⟩,⟨c0,g'',c1,c2,c3,c4.blk (hk g'' c2 c3)⟩⟩⟩
theorem qH6.tabH {w0 w wA:World} {a:Option Addr} {n:Nat} {cs ds:List qA5} (h:qH6 w0 w n cs ds n) (hn:n≤1048576) (hi:qA7 wA a n cs) (hl:∀ (k:Nat) c,cs[k]? = some c→qD7 1048576 c):qC2 w0.heap.size w.heap.size (fun X=>∃ ds,TabL w0.heap.size w.heap.size X w0.heap.size n ds) w:=by
 refine ⟨⟨ds,h.tab (h.le hn hi hl).1,fun j d e g hg=>?_⟩,Nat.le_refl _,fun X X' hX hk=>?_⟩
 ·obtain ⟨_,g',hg',hlo,hhi,_⟩:=(h.nw j d e).nw.forms
  rw [hg] at hg'
  cases hg'
  exact ⟨by omega,hhi⟩
 ·obtain ⟨es,h1⟩:=hX
  exact ⟨es,h1.blk hk⟩
theorem markTab_c {lo hi n:Nat} (ca:Nat) (k0:Int) {W:World} (hn:n≤1048576) (h0:0≤k0) (h1:k0≤1000000000000000000) (h:∃ ds,TabL lo hi W lo n ds) :
  Calls Tryz.prog 23 #[.slice (some ⟨lo,0,none⟩) n ca,.int .i64 k0] W fun e w'=>∃ k:Int,e = .returned (.int .i64 k)∧(k0≤k∧k≤k0+5497567576066 * (n:Int))∧Chg lo hi W w':=by
 obtain ⟨ds,h4⟩:=h
 refine (QO9 lo hi lo n ca k0 ds W hn h0 h1 h4.tab).mono ?_
 rintro e w' ⟨⟨k,rfl,k1,k2⟩,_,hc⟩
 exact ⟨k,rfl,⟨k1,k2⟩,hc⟩

end Go.Proofs.YtlhgjackapdmbaaGreatDoor
