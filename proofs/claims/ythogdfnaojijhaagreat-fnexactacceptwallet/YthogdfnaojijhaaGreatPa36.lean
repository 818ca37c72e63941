/- Contracts. -/
import Derived.Test.YthogdfnaojijhaaGreatPa32
namespace Go.Proofs.YthogdfnaojijhaaGreat
set_option maxRecDepth 100000
set_option maxHeartbeats 8000000
open Go.RowKit
set_option linter.unusedVariables false
set_option linter.unusedSimpArgs false

section
open Go.RowKit Go.ChangeShapes Go.WideShapes
theorem cellsCr {w:World} {base:Nat} {a:Addr} {r:CrI} (h:w.cells? base a 6=some [.int .i64 r.k,.int .i64 r.e,.int .i64 r.f,.int .i64 r.s,.int .i64 r.n,.slice r.ga r.gn r.gc]):a.spot=none∧QB7 w a.block a.off r:=by
 have e:List.range 6=[0,1,2,3,4,5]:=rfl
 unfold World.cells? at h
 split at h
 ·rw [e] at h
  simp only [List.mapM_cons,List.mapM_nil,Option.bind_eq_bind,Option.bind_eq_some_iff,Option.pure_def,Option.some.injEq,List.cons.injEq] at h
  obtain ⟨x0,h0,y0,⟨x1,h1,y1,⟨x2,h2,y2,⟨x3,h3,y3,⟨x4,h4,y4,⟨x5,h5,y5,rfl,e5⟩,e4⟩,e3⟩,e2⟩,e1⟩,e0,ee⟩:=h
  subst e0
  rw [← e1] at ee
  simp only [List.cons.injEq] at ee
  obtain ⟨rfl,ee⟩:=ee
  rw [← e2] at ee
  simp only [List.cons.injEq] at ee
  obtain ⟨rfl,ee⟩:=ee
  rw [← e3] at ee
  simp only [List.cons.injEq] at ee
  obtain ⟨rfl,ee⟩:=ee
  rw [← e4] at ee
  simp only [List.cons.injEq] at ee
  obtain ⟨rfl,ee⟩:=ee
  rw [← e5] at ee
  simp only [List.cons.injEq] at ee
  obtain ⟨rfl,_⟩:=ee
  obtain ⟨b,off,spot⟩:=a
  have hspot:spot=none:=by simpa [Addr.add] using World.cell?_spot h0
  subst hspot
  simp only [Addr.add] at h0 h1 h2 h3 h4 h5
  exact ⟨rfl,⟨by simpa using h0,by simpa using h1,by simpa using h2,by simpa using h3,by simpa using h4⟩,by simpa using h5⟩
 ·cases h
def CrsArg (w:World) (a:Option Addr) (n:Nat) (cs:List CrI):Prop:=qK3 w a n cs∧n≤maxLen∧∀ (k:Nat) c,cs[k]? = some c→c.gn≤maxLen
theorem QA7 {H:Type} {enc:TypeId × Value→H} {w:World} {base:Nat} {spare:Nat→Bool} {held:Bool} {fuel:Nat} {a0:Option Addr} {len cap:Nat} {x:DataW H × List MemPlace} (h:DataW.trod enc Tryz.prog w base spare held fuel 50 [.slice a0 len cap]=some x) :
  ∃ cs:List CrI,CrsArg w a0 len cs:=by
 rcases Go.Deep.open_slice Tryz.underlying50 h with ⟨hcs,_⟩ | ⟨a,l,c,m,n,D,Pl,hcs,hb,hl,hm,hmm,_,hel⟩
 ·simp at hcs
  obtain ⟨rfl,rfl,rfl⟩:=hcs
  exact ⟨[],⟨rfl,fun h=>by omega,fun k c e=>by simp at e⟩,Nat.zero_le _,fun k c e=>by simp at e⟩
 ·simp at hcs
  obtain ⟨rfl,rfl,rfl⟩:=hcs
  have hle:len≤m:=by rw [hmm];split <;> omega
  rw [Tryz.cells52] at hel
  have hk:∀ i,i < len→∃ r:CrI,w.cells? base (a.add (i * 6)) 6=some [.int .i64 r.k,.int .i64 r.e,.int .i64 r.f,.int .i64 r.s,.int .i64 r.n,.slice r.ga r.gn r.gc]∧qC1 w r.ga r.gn r.zs∧r.gn≤maxLen:=fun i hi=>by
   obtain ⟨cs',hc,ht⟩:=hel i (by omega)
   obtain ⟨r,rfl,hr⟩:=QO2 ht
   exact ⟨r,hc,hr⟩
  obtain ⟨f,hf⟩:=Go.Deep.choose_lt hk
  have key:∀ (k:Nat) (r:CrI),((List.range len).map f)[k]? = some r→k < len∧r=f k:=fun k r e=>by
   have hkl:k < len:=by
    by_cases q:k < len
    ·exact q
    ·rw [List.getElem?_eq_none (by simp;omega)] at e;cases e
   rw [List.getElem?_map,List.getElem?_range hkl] at e
   simp at e
   exact ⟨hkl,e.symm⟩
  refine ⟨(List.range len).map f,⟨by simp,fun hp=>?_,fun k r e=>?_⟩,Nat.le_trans hl hm,fun k r e=>?_⟩
  ·obtain ⟨hsp,_⟩:=cellsCr (hf 0 hp).1
   obtain ⟨b,off,spot⟩:=a
   simp [Addr.add] at hsp
   subst hsp
   refine ⟨b,off,rfl,fun k r e=>?_⟩
   obtain ⟨hkl,rfl⟩:=key k r e
   obtain ⟨_,hr⟩:=cellsCr (hf k hkl).1
   have : ((⟨b,off,none⟩:Addr).add (k * 6))=⟨b,off+k * 6,none⟩:=Go.WideShapes.add_plain ..
   rw [this] at hr
   exact hr
  ·obtain ⟨hkl,rfl⟩:=key k r e
   exact (hf k hkl).2.1
  ·obtain ⟨hkl,rfl⟩:=key k r e
   exact (hf k hkl).2.2
end

theorem QT5.kept {lo hi n:Nat} {cs ds:List CrI} {X X':World} (h:QT5 lo hi n cs ds X) (hk:∀ b,lo≤b→b < hi→X'.heap[b]? = X.heap[b]?):QT5 lo hi n cs ds X':=by
 have h0:=hk lo (Nat.le_refl _) h.lh.1
 have hc:∀ o,X'.cell? ⟨lo,o,none⟩=X.cell? ⟨lo,o,none⟩:=fun o=>World.cell?_of_block (a:=⟨lo,o,none⟩) h0
 refine ⟨h.ln,h.lc,h.zl,fun j d e=>?_,fun j c d e1 e2=>?_,fun j=>(World.frozen?_of_block (a:=⟨lo,j,none⟩) h0).trans (h.fr j),h.lh.1,?_⟩
 ·obtain ⟨⟨a0,a1,a2,a3,a4⟩,a5⟩:=h.ca j d e
  exact ⟨⟨(hc _).trans a0,(hc _).trans a1,(hc _).trans a2,(hc _).trans a3,(hc _).trans a4⟩,(hc _).trans a5⟩
 ·obtain ⟨g,q,h1,h2,h3⟩:=h.nw j c d e1 e2
  exact ⟨g,q,h1,h2,(qL3.hold h3 (by have:=h.lh.2;omega)).kept X X' h3 (fun b b1 b2=>hk b (by omega) (by omega))⟩
 ·have hl:=h.lh
  have h1:=hk (hi - 1) (by omega) (by omega)
  rw [Array.getElem?_eq_getElem (show hi - 1 < X.heap.size by omega)] at h1
  have:=(Array.getElem?_eq_some_iff.1 h1).1
  omega
theorem qV0.cpH {w0 w wA:World} {a:Option Addr} {n:Nat} {cs ds:List CrI} (h:qV0 w0 w n cs ds n) (hi:qK3 wA a n cs) (hl:∀ (k:Nat) c,cs[k]? = some c→c.gn≤1048576):qD6 w0.heap.size w.heap.size (CpR w0.heap.size w.heap.size n cs) w :=
 ⟨(h.cpR hi hl).out,Nat.le_refl _,fun X X' hX hk=>by
  obtain ⟨es,h1⟩:=hX
  exact ⟨es,h1.kept hk⟩⟩
theorem QT5.chL {lo hi n:Nat} {cs ds:List CrI} {X:World} (h:QT5 lo hi n cs ds X):chL ds=chL cs:=by
 unfold Go.Proofs.YthogdfnaojijhaaGreat.chL
 apply List.ext_getElem?
 intro i
 rw [List.getElem?_map,List.getElem?_map]
 cases e:ds[i]? with
 | none =>
  have : ds.length≤i:=by simpa using e
  have e2:cs[i]? = none:=List.getElem?_eq_none (by rw [h.lc,← h.ln];exact this)
  rw [e2]
 | some d =>
  obtain ⟨c,g,hc,rfl,_⟩:=h.get e
  rw [hc]
  rfl
theorem QT5.le {lo hi n:Nat} {cs ds:List CrI} {X:World} (h:QT5 lo hi n cs ds X):∀ (k:Nat) c,ds[k]? = some c→c.gn≤1048576∧c.gn≤c.gc∧c.gc≤maxLen:=fun k d e=>by
 obtain ⟨c,g,hc,rfl,_⟩:=h.get e
 have:=(h.zl k c hc).2
 exact ⟨this,Nat.le_refl _,by show c.gn≤maxLen;unfold maxLen;omega⟩

section
open Go.RowKit Go.ChangeShapes Go.WideShapes
structure WlI where
 ca:Option Addr
 cn:Nat
 cc:Nat
 cz:List CrI
 k:Int
 e:Int
 f:Int
 s:Int
 n:Int
 ga:Option Addr
 gn:Nat
 gc:Nat
 zs:List Int
 ra:Option Addr
 rn:Nat
 rc:Nat
 rz:List CrI
abbrev WlI.c (x:WlI):CrI:=⟨x.k,x.e,x.f,x.s,x.n,x.ga,x.gn,x.gc,x.zs⟩
abbrev WlI.st (x:WlI):StI:=⟨x.k,x.e,x.f,x.s,x.n⟩
structure WlP where
 l:Nat
 g:Nat
 r:Nat
 m:Nat
 h:Nat
structure QO8 (w:World) (x:WlI):Prop where
 ch:qK3 w x.ca x.cn x.cz
 is:qC1 w x.ga x.gn x.zs
 rv:qK3 w x.ra x.rn x.rz
theorem QO8.below {w w':World} {x:WlI} (h:QO8 w x) (hb:Below w.heap.size w w'):QO8 w' x:=⟨h.ch.below hb,h.is.below hb,h.rv.below hb⟩
structure QB9 (m:Nat) (x:WlI):Prop where
 cn:x.cn≤m
 cl:∀ (k:Nat) c,x.cz[k]? = some c→c.gn≤m
 gn:x.gn≤m
 rn:x.rn≤m
 rl:∀ (k:Nat) c,x.rz[k]? = some c→c.gn≤m
theorem CpR.hold {lo hi n:Nat} {cs:List CrI} {W:World} (h:CpR lo hi n cs W):qD6 lo hi (CpR lo hi n cs) W :=
 ⟨h,by obtain ⟨ds,h1⟩:=h;exact h1.lh.2,fun X X' hX hk=>by
  obtain ⟨es,h1⟩:=hX
  exact ⟨es,h1.kept hk⟩⟩
structure CpW (p:WlP) (x:WlI) (X:World):Prop where
 ch:CpR p.l p.m x.cn x.cz X
 is:qL3 p.g x.gn x.zs X
 rv:CpR p.r p.h x.rn x.rz X
 ml:p.l < p.m
 mg:p.m≤p.g
 gr:p.g < p.r
 rh:p.r < p.h
 hx:p.h≤X.heap.size
theorem CpW.hold {p:WlP} {x:WlI} {W:World} (h:CpW p x W):qD6 p.l p.h (CpW p x) W :=
 ⟨h,h.hx,fun X X' hX hk=>by
  have a1:=(CpR.hold hX.ch).kept X X' hX.ch (fun b b1 b2=>hk b b1 (by have:=hX.mg;have:=hX.gr;have:=hX.rh;omega))
  have a2:=(qL3.hold hX.is (by have:=hX.gr;have:=hX.rh;have:=hX.hx;omega)).kept X X' hX.is (fun b b1 b2=>hk b (by have:=hX.ml;have:=hX.mg;omega) (by have:=hX.gr;have:=hX.rh;omega))
  have a3:=(CpR.hold hX.rv).kept X X' hX.rv (fun b b1 b2=>hk b (by have:=hX.ml;have:=hX.mg;have:=hX.gr;omega) b2)
  refine ⟨a1,a2,a3,hX.ml,hX.mg,hX.gr,hX.rh,?_⟩
  obtain ⟨ds,h1⟩:=a3
  exact h1.lh.2⟩
theorem qF6 (W:World) (b j:Nat) (v:Value):Chg b (b+1) W (W.setCell ⟨b,j,none⟩ v):=Chg.grown (grown_set W b j v) (fun q e=>by cases e;omega)
theorem QX9 (x:WlI) (left:Int) (w:World) (hm:QB9 maxLen x) (h0:0≤left) (h1:left≤1048576) (h:QO8 w x) :
  Calls Tryz.prog 19 #[.agg #[.slice x.ca x.cn x.cc,.int .i64 x.k,.int .i64 x.e,.int .i64 x.f,.int .i64 x.s,.int .i64 x.n,.slice x.ga x.gn x.gc,.slice x.ra x.rn x.rc],.int .i64 left] w fun e w'=>(∃ v:Int,e = .returned (.int .i64 v)∧v≤left∧(0≤v→QB9 1048576 x))∧Below w.heap.size w w':=by
 obtain ⟨V,hV⟩:∃ V,V=w.alloc (.cells #[.slice x.ca x.cn x.cc,.int .i64 x.k,.int .i64 x.e,.int .i64 x.f,.int .i64 x.s,.int .i64 x.n,.slice x.ga x.gn x.gc,.slice x.ra x.rn x.rc] 54):=⟨_,rfl⟩
 have HX:Hid (qD6 w.heap.size (w.heap.size+1) (qJ1 w.heap.size [.slice x.ca x.cn x.cc,.int .i64 x.k,.int .i64 x.e,.int .i64 x.f,.int .i64 x.s,.int .i64 x.n,.slice x.ga x.gn x.gc,.slice x.ra x.rn x.rc]) V):=by show qD6 _ _ _ _;rw [hV];exact qD0 w _ _
 have BV:Hid (Below w.heap.size w V):=by show Below _ _ _;rw [hV];exact zN
 have HI:=qC3 (h.below BV.out)
 have HM:=qC3 hm
 clear h hm
 go_enter Tryz.func19,Tryz.ntmps19
 go_wp2_with fail
 rw [← hV]
 clear hV
 refine (QK4 x.ca x.cn x.cc x.cz left V HM.out.cn HM.out.cl h0 h1 HI.out.ch).mono ?_
 rintro e w1 ⟨⟨v1,rfl,hv1,hw1⟩,hb1⟩
 have HW1:=qC3 hw1
 have B1:=qC3 (BV.out.trans (hb1.mono BV.out.size))
 have X1:=qC3 (HX.out.below hb1)
 have I1:=qC3 (HI.out.below hb1)
 clear hw1 hb1
 by_cases n1:v1 < 0
 ·go_wp2
  go_ret
  exact ⟨⟨-1,rfl,by omega,fun q=>by omega⟩,B1.out⟩
 have c1:=X1.out.out 1 _ rfl
 have c2:=X1.out.out 2 _ rfl
 have c3:=X1.out.out 3 _ rfl
 have c4:=X1.out.out 4 _ rfl
 have c5:=X1.out.out 5 _ rfl
 have c6:=X1.out.out 6 _ rfl
 have hl1:w.heap.size < w1.heap.size:=by have:=X1.out.le;omega
 go_wp2_with fail
 refine (QT9 x.c v1 w1 HM.out.gn (by omega) (by omega)).mono ?_
 rintro e w2 ⟨⟨v2,rfl,hv2,hw2⟩,hb2⟩
 have HW2:=qC3 hw2
 have B2:=qC3 (B1.out.trans (hb2.mono B1.out.size))
 have X2:=qC3 (X1.out.below hb2)
 have I2:=qC3 (I1.out.below hb2)
 clear hw2 hb2 c1 c2 c3 c4 c5 c6
 by_cases n2:v2 < 0
 ·go_wp2
  go_ret
  exact ⟨⟨-1,rfl,by omega,fun q=>by omega⟩,B2.out⟩
 have c7:=X2.out.out 7 _ rfl
 have hl2:w.heap.size < w2.heap.size:=by have:=X2.out.le;omega
 go_wp2_with fail
 refine (QK4 x.ra x.rn x.rc x.rz v2 w2 HM.out.rn HM.out.rl (by omega) (by omega) I2.out.rv).mono ?_
 rintro e w3 ⟨⟨v3,rfl,hv3,hw3⟩,hb3⟩
 have HW3:=qC3 hw3
 have B3:=qC3 (B2.out.trans (hb3.mono B2.out.size))
 clear hw3 hb3 c7
 by_cases n3:v3 < 0
 ·go_wp2
  go_ret
  exact ⟨⟨-1,rfl,by omega,fun q=>by omega⟩,B3.out⟩
 go_wp2
 go_ret
 refine ⟨⟨v3,rfl,by omega,fun q=>⟨?_,(HW1.out (by omega)).2,HW2.out (by omega),?_,(HW3.out q).2⟩⟩,B3.out⟩
 ·have:=(HW1.out (by omega)).1;omega
 ·have:=(HW3.out q).1;omega
end

section
open Go.RowKit Go.ChangeShapes Go.WideShapes
theorem qI7.kept {b:Nat} {vs:List Value} {W W':World} {l r:Nat} (h:qI7 b vs W) (hb:b < W.heap.size) (c:Chg l r W W') (d:b+1≤l∨r≤b):qI7 b vs W':=((h.hold hb).chg c d).out
theorem QX7 (x:WlI) (w:World) (hle:QB9 1048576 x) (h:QO8 w x) :
  Calls Tryz.prog 21 #[.agg #[.slice x.ca x.cn x.cc,.int .i64 x.k,.int .i64 x.e,.int .i64 x.f,.int .i64 x.s,.int .i64 x.n,.slice x.ga x.gn x.gc,.slice x.ra x.rn x.rc]] w fun e w'=>∃ p:WlP,e = .returned (.agg #[.slice (some ⟨p.l,0,none⟩) x.cn x.cn,.int .i64 x.k,.int .i64 x.e,.int .i64 x.f,.int .i64 x.s,.int .i64 x.n,.slice (some ⟨p.g,0,none⟩) x.gn x.gn,.slice (some ⟨p.r,0,none⟩) x.rn x.rn])∧w.heap.size≤p.l∧CpW p x w'∧Below w.heap.size w w':=by
 obtain ⟨V,hV⟩:∃ V,V=((w.alloc (.cells #[.slice x.ca x.cn x.cc,.int .i64 x.k,.int .i64 x.e,.int .i64 x.f,.int .i64 x.s,.int .i64 x.n,.slice x.ga x.gn x.gc,.slice x.ra x.rn x.rc] 54)).alloc (.cells #[.slice none 0 0,.int .i64 0,.int .i64 0,.int .i64 0,.int .i64 0,.int .i64 0,.slice none 0 0,.slice none 0 0] 34)).alloc (.cells #[.slice none 0 0,.int .i64 0,.int .i64 0,.int .i64 0,.int .i64 0,.int .i64 0,.slice none 0 0,.slice none 0 0] 34):=⟨_,rfl⟩
 have zV:V.heap.size=w.heap.size+1+1+1:=by rw [hV];simp
 have BV:Hid (Below w.heap.size w V):=by show Below _ _ _;rw [hV];exact ((zN).alloc (by simp) _).alloc (by simp;omega) _
 have X0:Hid (qD6 w.heap.size (w.heap.size+1) (qJ1 w.heap.size [.slice x.ca x.cn x.cc,.int .i64 x.k,.int .i64 x.e,.int .i64 x.f,.int .i64 x.s,.int .i64 x.n,.slice x.ga x.gn x.gc,.slice x.ra x.rn x.rc]) V):=by show qD6 _ _ _ _;rw [hV];exact ((qD0 w _ _).alloc _).alloc _
 have Y0:Hid (qI7 (w.heap.size+1) [.slice none 0 0,.int .i64 0,.int .i64 0,.int .i64 0,.int .i64 0,.int .i64 0,.slice none 0 0,.slice none 0 0] V):=by
  show qI7 _ _ _
  have q:=qI5 (w.alloc (.cells #[.slice x.ca x.cn x.cc,.int .i64 x.k,.int .i64 x.e,.int .i64 x.f,.int .i64 x.s,.int .i64 x.n,.slice x.ga x.gn x.gc,.slice x.ra x.rn x.rc] 54)) #[.slice none 0 0,.int .i64 0,.int .i64 0,.int .i64 0,.int .i64 0,.int .i64 0,.slice none 0 0,.slice none 0 0] 34
  rw [World.size_alloc] at q
  rw [hV]
  exact q.below (by simp) (zN)
 have O0:Hid (qI7 (w.heap.size+1+1) [.slice none 0 0,.int .i64 0,.int .i64 0,.int .i64 0,.int .i64 0,.int .i64 0,.slice none 0 0,.slice none 0 0] V):=by
  show qI7 _ _ _
  have q:=qI5 ((w.alloc (.cells #[.slice x.ca x.cn x.cc,.int .i64 x.k,.int .i64 x.e,.int .i64 x.f,.int .i64 x.s,.int .i64 x.n,.slice x.ga x.gn x.gc,.slice x.ra x.rn x.rc] 54)).alloc (.cells #[.slice none 0 0,.int .i64 0,.int .i64 0,.int .i64 0,.int .i64 0,.int .i64 0,.slice none 0 0,.slice none 0 0] 34)) #[.slice none 0 0,.int .i64 0,.int .i64 0,.int .i64 0,.int .i64 0,.int .i64 0,.slice none 0 0,.slice none 0 0] 34
  simp only [World.size_alloc] at q
  rw [hV]
  exact q
 have HW:=qC3 h
 have HI:=qC3 (h.below BV.out)
 have HL:=qC3 hle
 clear h hle
 go_enter Tryz.func21,Tryz.ntmps21
 go_wp2_with fail
 rw [← hV]
 clear hV
 refine (QK3 x.ca x.cn x.cc x.cz V HL.out.cn HL.out.cl HI.out.ch).mono ?_
 rintro e w1 ⟨rfl,ds1,hct⟩
 have hb:=hct.bl
 have HR1:Hid (qD6 V.heap.size w1.heap.size (CpR V.heap.size w1.heap.size x.cn x.cz) w1):=hct.cpH HI.out.ch HL.out.cl
 have hlt1:=hct.lt
 have B1:=qC3 (BV.out.trans (hb.mono BV.out.size))
 have X1:=qC3 (X0.out.below hb)
 have Y1:=qC3 (Y0.out.below (by omega) hb)
 have O1:=qC3 (O0.out.below (by omega) hb)
 have I1:=qC3 (HI.out.below hb)
 obtain ⟨l,hl⟩:∃ l,l=V.heap.size:=⟨_,rfl⟩
 rw [← hl] at HR1 hlt1 ⊢
 have hl0:w.heap.size+1+1+1≤l∧l≤w.heap.size+1+1+1:=by omega
 clear hb hct BV X0 Y0 O0 HI hl zV
 obtain ⟨T1,hT1⟩:∃ T,T=w1.setCell ⟨w.heap.size+1+1,0,none⟩ (.slice (some ⟨l,0,none⟩) x.cn x.cn):=⟨_,rfl⟩
 have sT1:T1.heap.size≤w1.heap.size∧w1.heap.size≤T1.heap.size:=by rw [hT1];simp
 have C1:Chg (w.heap.size+1+1) (w.heap.size+1+1+1) w1 T1:=by rw [hT1];exact qF6 _ _ _ _
 have o0:=O1.out.1 0 _ rfl
 have f0:=O1.out.2 0
 have B2:=qC3 (qU8 B1.out C1 (by omega) B1.out.size)
 have X2:=qC3 (X1.out.chg C1 (by omega))
 have Y2:=qC3 (Y1.out.kept (by omega) C1 (by omega))
 have O2:Hid (qI7 (w.heap.size+1+1) [.slice (some ⟨l,0,none⟩) x.cn x.cn,.int .i64 0,.int .i64 0,.int .i64 0,.int .i64 0,.int .i64 0,.slice none 0 0,.slice none 0 0] T1):=by show qI7 _ _ _;rw [hT1];exact O1.out.put 0 (by simp) _
 have I2:=qC3 (HW.out.below B2.out)
 have HR2:=qC3 (HR1.out.chg C1 (by omega))
 have c1:=X2.out.out 1 _ rfl
 have c2:=X2.out.out 2 _ rfl
 have c3:=X2.out.out 3 _ rfl
 have c4:=X2.out.out 4 _ rfl
 have c5:=X2.out.out 5 _ rfl
 have c6:=X2.out.out 6 _ rfl
 have hz1:=X1.out.le
 have hlo:w.heap.size+1+1 < w1.heap.size:=by omega
 have hlx:w.heap.size < T1.heap.size:=by omega
 clear C1 X1 Y1 O1 B1 I1 HR1
 go_upto_region 3 with fail
 rw [← hT1]
 clear hT1 o0 f0
 go_wp2_with fail
 refine (QT8 x.c T1 HL.out.gn I2.out.is).mono ?_
 rintro e w2 ⟨g,rfl,hge,hglt,hcp,hb2⟩
 have HG2:=qC3 (qL3.hold hcp hglt)
 have B3:=qC3 (B2.out.trans (hb2.mono B2.out.size))
 have X3:=qC3 (X2.out.below hb2)
 have Y3:=qC3 (Y2.out.below (by omega) hb2)
 have O3:=qC3 (O2.out.below (by omega) hb2)
 have HR3:=qC3 (HR2.out.below hb2)
 have hz2:=hb2.size
 clear hcp hb2 B2 X2 Y2 O2 HR2 I2 c1 c2 c3 c4 c5 c6
 obtain ⟨T2,hT2⟩:∃ T,T=(((((w2.setCell ⟨w.heap.size+1+1,1,none⟩ (.int .i64 x.k)).setCell ⟨w.heap.size+1+1,2,none⟩ (.int .i64 x.e)).setCell ⟨w.heap.size+1+1,3,none⟩ (.int .i64 x.f)).setCell ⟨w.heap.size+1+1,4,none⟩ (.int .i64 x.s)).setCell ⟨w.heap.size+1+1,5,none⟩ (.int .i64 x.n)).setCell ⟨w.heap.size+1+1,6,none⟩ (.slice (some ⟨g,0,none⟩) x.gn x.gn):=⟨_,rfl⟩
 have sT2:T2.heap.size≤w2.heap.size∧w2.heap.size≤T2.heap.size:=by rw [hT2];simp
 have C2:Chg (w.heap.size+1+1) (w.heap.size+1+1+1) w2 T2:=by rw [hT2];exact (((((qF6 _ _ _ _).trans (qF6 _ _ _ _)).trans (qF6 _ _ _ _)).trans (qF6 _ _ _ _)).trans (qF6 _ _ _ _)).trans (qF6 _ _ _ _)
 have o1:=O3.out.1 1 _ rfl
 have o2:=O3.out.1 2 _ rfl
 have o3:=O3.out.1 3 _ rfl
 have o4:=O3.out.1 4 _ rfl
 have o5:=O3.out.1 5 _ rfl
 have o6:=O3.out.1 6 _ rfl
 have f1:=O3.out.2 1
 have f2:=O3.out.2 2
 have f3:=O3.out.2 3
 have f4:=O3.out.2 4
 have f5:=O3.out.2 5
 have f6:=O3.out.2 6
 have B4:=qC3 (qU8 B3.out C2 (by omega) B3.out.size)
 have X4:=qC3 (X3.out.chg C2 (by omega))
 have Y4:=qC3 (Y3.out.kept (by omega) C2 (by omega))
 have O4:Hid (qI7 (w.heap.size+1+1) [.slice (some ⟨l,0,none⟩) x.cn x.cn,.int .i64 x.k,.int .i64 x.e,.int .i64 x.f,.int .i64 x.s,.int .i64 x.n,.slice (some ⟨g,0,none⟩) x.gn x.gn,.slice none 0 0] T2):=by
  show qI7 _ _ _
  rw [hT2]
  exact (((((O3.out.put 1 (by simp) _).put 2 (by simp) _).put 3 (by simp) _).put 4 (by simp) _).put 5 (by simp) _).put 6 (by simp) _
 have I4:=qC3 (HW.out.below B4.out)
 have HR4:=qC3 (HR3.out.chg C2 (by omega))
 have HG4:=qC3 (HG2.out.chg C2 (by omega))
 have c7:=X4.out.out 7 _ rfl
 have hlo:w.heap.size+1+1 < w2.heap.size:=by omega
 have hlx:w.heap.size < T2.heap.size:=by omega
 clear C2 X3 Y3 O3 B3 HR3 HG2
 go_upto_region 4 with fail
 rw [← hT2]
 clear hT2 o1 o2 o3 o4 o5 o6 f1 f2 f3 f4 f5 f6
 go_wp2_with fail
 refine (QK3 x.ra x.rn x.rc x.rz T2 HL.out.rn HL.out.rl I4.out.rv).mono ?_
 rintro e w3 ⟨rfl,ds3,hct⟩
 have hb:=hct.bl
 have HS5:Hid (qD6 T2.heap.size w3.heap.size (CpR T2.heap.size w3.heap.size x.rn x.rz) w3):=hct.cpH I4.out.rv HL.out.rl
 have hlt3:=hct.lt
 have B5:=qC3 (B4.out.trans (hb.mono B4.out.size))
 have Y5:=qC3 (Y4.out.below (by omega) hb)
 have O5:=qC3 (O4.out.below (by omega) hb)
 have HR5:=qC3 (HR4.out.below hb)
 have HG5:=qC3 (HG4.out.below hb)
 obtain ⟨r,hr⟩:∃ r,r=T2.heap.size:=⟨_,rfl⟩
 rw [← hr] at HS5 hlt3 ⊢
 have hz3:=hb.size
 have hr0:T2.heap.size≤r∧r≤T2.heap.size:=by omega
 clear hr
 clear hb hct X4 Y4 O4 B4 HR4 HG4 I4 c7
 obtain ⟨T3,hT3⟩:∃ T,T=w3.setCell ⟨w.heap.size+1+1,7,none⟩ (.slice (some ⟨r,0,none⟩) x.rn x.rn):=⟨_,rfl⟩
 have sT3:T3.heap.size≤w3.heap.size∧w3.heap.size≤T3.heap.size:=by rw [hT3];simp
 have C3:Chg (w.heap.size+1+1) (w.heap.size+1+1+1) w3 T3:=by rw [hT3];exact qF6 _ _ _ _
 have o7:=O5.out.1 7 _ rfl
 have f7:=O5.out.2 7
 have B6:=qC3 (qU8 B5.out C3 (by omega) B5.out.size)
 have Y6:=qC3 (Y5.out.kept (by omega) C3 (by omega))
 have O6:Hid (qI7 (w.heap.size+1+1) [.slice (some ⟨l,0,none⟩) x.cn x.cn,.int .i64 x.k,.int .i64 x.e,.int .i64 x.f,.int .i64 x.s,.int .i64 x.n,.slice (some ⟨g,0,none⟩) x.gn x.gn,.slice (some ⟨r,0,none⟩) x.rn x.rn] T3):=by show qI7 _ _ _;rw [hT3];exact O5.out.put 7 (by simp) _
 have HR6:=qC3 (HR5.out.chg C3 (by omega))
 have HG6:=qC3 (HG5.out.chg C3 (by omega))
 have HS6:=qC3 (HS5.out.chg C3 (by omega))
 have hlo:w.heap.size+1+1 < w3.heap.size:=by omega
 clear C3 Y5 O5 B5 HR5 HG5 HS5
 go_upto_region 5 with fail
 rw [← hT3]
 clear hT3 o7 f7
 have t0:=O6.out.1 0 _ rfl
 have t1:=O6.out.1 1 _ rfl
 have t2:=O6.out.1 2 _ rfl
 have t3:=O6.out.1 3 _ rfl
 have t4:=O6.out.1 4 _ rfl
 have t5:=O6.out.1 5 _ rfl
 have t6:=O6.out.1 6 _ rfl
 have t7:=O6.out.1 7 _ rfl
 have y0:=Y6.out.1 0 _ rfl
 have y1:=Y6.out.1 1 _ rfl
 have y2:=Y6.out.1 2 _ rfl
 have y3:=Y6.out.1 3 _ rfl
 have y4:=Y6.out.1 4 _ rfl
 have y5:=Y6.out.1 5 _ rfl
 have y6:=Y6.out.1 6 _ rfl
 have y7:=Y6.out.1 7 _ rfl
 have g0:=Y6.out.2 0
 have g1:=Y6.out.2 1
 have g2:=Y6.out.2 2
 have g3:=Y6.out.2 3
 have g4:=Y6.out.2 4
 have g5:=Y6.out.2 5
 have g6:=Y6.out.2 6
 have g7:=Y6.out.2 7
 have hl1:w.heap.size+1 < T3.heap.size:=by omega
 have hl2:w.heap.size+1+1 < T3.heap.size:=by omega
 have HK:Hid (∀ U:World,Chg (w.heap.size+1) (w.heap.size+1+1) T3 U→CpW ⟨l,g,r,w1.heap.size,w3.heap.size⟩ x U∧Below w.heap.size w U):=fun U hU =>
  ⟨⟨(HR6.out.chg hU (by omega)).out,(HG6.out.chg hU (by omega)).out,(HS6.out.chg hU (by omega)).out,hlt1,by show w1.heap.size≤g;omega,by show g < r;omega,hlt3,by have:=hU.size;show w3.heap.size≤_;omega⟩,qU8 B6.out hU (by omega) B6.out.size⟩
 have hll:w.heap.size≤l:=by omega
 clear Y6 O6 HR6 HG6 HS6 B6
 go_wp2
 refine bodyPost_ret (v:=.agg #[.slice (some ⟨l,0,none⟩) x.cn x.cn,.int .i64 x.k,.int .i64 x.e,.int .i64 x.f,.int .i64 x.s,.int .i64 x.n,.slice (some ⟨g,0,none⟩) x.gn x.gn,.slice (some ⟨r,0,none⟩) x.rn x.rn]) (by simp [results,Tryz.results21,go_sem,y0,y1,y2,y3,y4,y5,y6,y7,hl1]) rfl ⟨⟨l,g,r,w1.heap.size,w3.heap.size⟩,rfl,hll,HK.out _ ?_⟩
 exact (((((((qF6 _ _ _ _).trans (qF6 _ _ _ _)).trans (qF6 _ _ _ _)).trans (qF6 _ _ _ _)).trans (qF6 _ _ _ _)).trans (qF6 _ _ _ _)).trans (qF6 _ _ _ _)).trans (qF6 _ _ _ _)
end

end Go.Proofs.YthogdfnaojijhaaGreat
