/- Contracts. -/
import Derived.Test.YthogdfnaojijhaaGreatPa41
import Derived.Test.YthogdfnaojijhaaGreatPa31
namespace Go.Proofs.YthogdfnaojijhaaGreat
set_option maxRecDepth 100000
set_option maxHeartbeats 8000000
open Go.RowKit
set_option linter.unusedVariables false
set_option linter.unusedSimpArgs false

structure ConfK (lo hi:Nat) (w:World) (d:qA3):Prop where
 ru:d.rn≤1048576∧∃ g,d.ra=some ⟨g,0,none⟩∧lo≤g∧g < hi∧QF4 w g (d.rn * 8)
 fo:d.fn≤1048576∧∃ g,d.fa=some ⟨g,0,none⟩∧QJ5 lo hi w g d.fn d.fs
 cl:d.cn≤1048576∧∃ g,d.ca=some ⟨g,0,none⟩∧lo≤g∧g < hi∧QF4 w g d.cn
structure QB8 (lo hi:Nat) (w:World) (T n:Nat) (ds:List qA3):Prop where
 ln:ds.length=n
 at5:∀ (j:Nat) (d:qA3),ds[j]? = some d→(∃ x,w.cell? ⟨T,j * 5,none⟩=some (.int .i64 x))∧(∃ x,w.cell? ⟨T,j * 5+1,none⟩=some (.int .i64 x))∧w.cell? ⟨T,j * 5+2,none⟩=some (.slice d.ra d.rn d.rc)∧w.cell? ⟨T,j * 5+3,none⟩=some (.slice d.fa d.fn d.fc)∧w.cell? ⟨T,j * 5+4,none⟩=some (.slice d.ca d.cn d.cc)∧ConfK lo hi w d
 fr:∀ o,w.frozen? ⟨T,o,none⟩=false
 lo:lo≤T∧T < hi
theorem qE1.tab {w0 w:World} {n:Nat} {cs ds:List qA3} (h:qE1 w0 w n cs ds n) (hle:∀ (k:Nat) d,ds[k]? = some d→qB7 1048576 d):QB8 w0.heap.size w.heap.size w w0.heap.size n ds:=by
 refine ⟨h.ln,fun j d e=>?_,h.rm.2,Nat.le_refl _,h.lt⟩
 obtain ⟨a0,a1,a2,a3,a4⟩:=h.ca j d e
 have hn:=h.nw j d e
 have hl:=hle j d e
 refine ⟨⟨_,a0⟩,⟨_,a1⟩,a2,a3,a4,⟨hl.rules,?_⟩,⟨hl.forms,?_⟩,⟨hl.classes,?_⟩⟩
 ·obtain ⟨_,g,hg,hlo,hhi,hroom⟩:=hn.nw.rules
  refine ⟨g,hg,by omega,hhi,fun q hq=>?_,hroom.2⟩
  have hr:=hn.rd.rules
  rw [hg] at hr
  obtain ⟨b,off,eb,hat⟩:=hr.2 (by omega)
  cases eb
  have hx:d.zs[q / 8]? = some (d.zs[q / 8]'(by rw [hr.1];omega)):=List.getElem?_eq_getElem _
  obtain ⟨c0,c1,c2,c3,c4,c5,c6,c7⟩:=hat _ _ hx
  simp only [Nat.zero_add] at c0 c1 c2 c3 c4 c5 c6 c7
  have hm:q % 8=0∨q % 8=1∨q % 8=2∨q % 8=3∨q % 8=4∨q % 8=5∨q % 8=6∨q % 8=7:=by omega
  rcases hm with hm | hm | hm | hm | hm | hm | hm | hm
  ·exact ⟨_,by rw [show q=q / 8 * 8 by omega];exact c0⟩
  ·exact ⟨_,by rw [show q=q / 8 * 8+1 by omega];exact c1⟩
  ·exact ⟨_,by rw [show q=q / 8 * 8+2 by omega];exact c2⟩
  ·exact ⟨_,by rw [show q=q / 8 * 8+3 by omega];exact c3⟩
  ·exact ⟨_,by rw [show q=q / 8 * 8+4 by omega];exact c4⟩
  ·exact ⟨_,by rw [show q=q / 8 * 8+5 by omega];exact c5⟩
  ·exact ⟨_,by rw [show q=q / 8 * 8+6 by omega];exact c6⟩
  ·exact ⟨_,by rw [show q=q / 8 * 8+7 by omega];exact c7⟩
 ·obtain ⟨_,g,hg,hlo,hhi,hroom⟩:=hn.nw.forms
  refine ⟨g,hg,hn.rd.forms.1,fun q x hx=>⟨?_,?_⟩⟩
  ·have hf:=hn.rd.forms
   rw [hg] at hf
   have hq:q < d.fn:=by rw [← hf.1];exact (List.getElem?_eq_some_iff.1 hx).1
   obtain ⟨b,off,eb,hat⟩:=hf.2 (by omega)
   cases eb
   have:=(hat q x hx).1
   rw [Nat.zero_add] at this
   exact this
  ·obtain ⟨_,gp,hgp,hplo,hphi,hproom⟩:=hn.nw.parts q x hx
   refine ⟨hl.parts q x hx,gp,hgp,by omega,hphi,fun r hr=>?_,hproom.2⟩
   have hf:=hn.rd.forms
   have hq:q < d.fn:=by rw [← hf.1];exact (List.getElem?_eq_some_iff.1 hx).1
   obtain ⟨b,off,eb,hat⟩:=hf.2 (by omega)
   have hp:=(hat q x hx).2
   rw [hgp] at hp
   obtain ⟨b',off',eb',hat'⟩:=hp.2 (by omega)
   cases eb'
   have hy:x.ps[r / 5]? = some (x.ps[r / 5]'(by rw [hp.1];omega)):=List.getElem?_eq_getElem _
   obtain ⟨c0,c1,c2,c3,c4⟩:=hat' _ _ hy
   simp only [Nat.zero_add] at c0 c1 c2 c3 c4
   have hm:r % 5=0∨r % 5=1∨r % 5=2∨r % 5=3∨r % 5=4:=by omega
   rcases hm with hm | hm | hm | hm | hm
   ·exact ⟨_,by rw [show r=r / 5 * 5 by omega];exact c0⟩
   ·exact ⟨_,by rw [show r=r / 5 * 5+1 by omega];exact c1⟩
   ·exact ⟨_,by rw [show r=r / 5 * 5+2 by omega];exact c2⟩
   ·exact ⟨_,by rw [show r=r / 5 * 5+3 by omega];exact c3⟩
   ·exact ⟨_,by rw [show r=r / 5 * 5+4 by omega];exact c4⟩
 ·obtain ⟨_,g,hg,hlo,hhi,hroom⟩:=hn.nw.classes
  refine ⟨g,hg,by omega,hhi,fun q hq=>?_,hroom.2⟩
  have hr:=hn.rd.classes
  rw [hg] at hr
  obtain ⟨b,off,eb,hat⟩:=hr.2 (by omega)
  cases eb
  have hx:d.cs[q]? = some (d.cs[q]'(by rw [hr.1];omega)):=List.getElem?_eq_getElem _
  have:=hat _ _ hx
  rw [Nat.zero_add] at this
  exact ⟨_,this⟩

theorem FormK.below {lo hi:Nat} {w w':World} {x:qC6} (h:FormK lo hi w x) (hh:hi≤w.heap.size) (hb:Below w.heap.size w w'):FormK lo hi w' x:=by
 obtain ⟨h0,g,h1,h2,h3,h4⟩:=h
 exact ⟨h0,g,h1,h2,h3,h4.below (by omega) hb⟩
theorem QJ5.below {lo hi:Nat} {w w':World} {g n:Nat} {fs:List qC6} (h:QJ5 lo hi w g n fs) (hh:hi≤w.heap.size) (hb:Below w.heap.size w w'):QJ5 lo hi w' g n fs :=
 ⟨h.1,fun j x e=>⟨(hb.cell (p:=⟨g,j,none⟩) (zL w ⟨g,j,none⟩ (h.2 j x e).1)).trans (h.2 j x e).1,(h.2 j x e).2.below hh hb⟩⟩
theorem ConfK.below {lo hi:Nat} {w w':World} {d:qA3} (h:ConfK lo hi w d) (hh:hi≤w.heap.size) (hb:Below w.heap.size w w'):ConfK lo hi w' d:=by
 obtain ⟨⟨a0,g,a1,a2,a3,a4⟩,⟨b0,g',b1,b2⟩,⟨c0,g'',c1,c2,c3,c4⟩⟩:=h
 exact ⟨⟨a0,g,a1,a2,a3,a4.below (by omega) hb⟩,⟨b0,g',b1,b2.below hh hb⟩,⟨c0,g'',c1,c2,c3,c4.below (by omega) hb⟩⟩
theorem QB8.below {lo hi:Nat} {w w':World} {T n:Nat} {ds:List qA3} (h:QB8 lo hi w T n ds) (hh:hi≤w.heap.size) (hb:Below w.heap.size w w'):QB8 lo hi w' T n ds:=by
 have hT:T < w.heap.size:=by have:=h.lo.2;omega
 refine ⟨h.ln,fun j d e=>?_,fun o=>(hb.frozen (p:=⟨T,o,none⟩) hT).trans (h.fr o),h.lo⟩
 obtain ⟨⟨x,h0⟩,⟨y,h1⟩,h2,h3,h4,h5⟩:=h.at5 j d e
 have k:∀ o,w'.cell? ⟨T,o,none⟩=w.cell? ⟨T,o,none⟩:=fun o=>hb.cell (p:=⟨T,o,none⟩) hT
 exact ⟨⟨x,(k _).trans h0⟩,⟨y,(k _).trans h1⟩,(k _).trans h2,(k _).trans h3,(k _).trans h4,h5.below hh hb⟩
def CpB (lo hi n:Nat) (cs:List qA3) (X:World):Prop:=∃ ds,qB1 X (some ⟨lo,0,none⟩) n ds∧qE4 cs ds∧qH4 1048576 ds∧QB8 lo hi X lo n ds∧hi≤X.heap.size
theorem qE1.cpB {w0 w wA:World} {a:Option Addr} {n:Nat} {cs ds:List qA3} (h:qE1 w0 w n cs ds n) (hn:n≤1048576) (hi:qB1 wA a n cs) (hl:∀ (k:Nat) c,cs[k]? = some c→qB7 1048576 c):qO8 (CpB w0.heap.size w.heap.size n cs) w :=
 ⟨⟨ds,h.isIn,h.same hi.len,h.le hn hi hl,h.tab (h.le hn hi hl).1,Nat.le_refl _⟩,fun X X' hX hb=>by
  obtain ⟨es,h1,h2,h3,h4,h5⟩:=hX
  exact ⟨es,h1.below hb,h2,h3,h4.below h5 hb,Nat.le_trans h5 hb.size⟩⟩
theorem eqCpB_c {lo hi lo' hi' n:Nat} {cs:List qA3} (ca cb:Nat) {W:World} (hn:n≤1048576) (h:CpB lo hi n cs W) (h':CpB lo' hi' n cs W) :
  Calls Tryz.prog 13 #[.slice (some ⟨lo,0,none⟩) n ca,.slice (some ⟨lo',0,none⟩) n cb] W fun e w'=>e = .returned (.bool true)∧Below W.heap.size W w':=by
 obtain ⟨ds,h1,h2,h3,_,_⟩:=h
 obtain ⟨es,k1,k2,_,_,_⟩:=h'
 exact QC6 _ _ n ca cb ds es W hn h3.1 (QY7 h2 k2) h1 k1

theorem qE4.eAt {cs ds:List qA3} (h:qE4 cs ds) (p:Nat):eAt ds p=eAt cs p:=by
 unfold Go.Proofs.YthogdfnaojijhaaGreat.eAt
 cases e:ds[p]? with
 | none =>
  have : ds.length≤p:=by simpa using e
  have e2:cs[p]? = none:=List.getElem?_eq_none (by rw [← h.ln];exact this)
  rw [e2]
 | some d =>
  obtain ⟨c,hc,hs⟩:=h.get e
  rw [hc]
  exact hs.e
theorem qE4.ak {cs ds:List qA3} (h:qE4 cs ds) (zs:List ShI):qG0 ds zs=qG0 cs zs:=by
 unfold qG0
 rw [h.cfs,h.f0]

end Go.Proofs.YthogdfnaojijhaaGreat
