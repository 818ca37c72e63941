/- Contracts. -/
import Derived.Test.YthogdfnaojijhaaGreatPa36
namespace Go.Proofs.YthogdfnaojijhaaGreat
set_option maxRecDepth 100000
set_option maxHeartbeats 8000000
open Go.RowKit
set_option linter.unusedVariables false
set_option linter.unusedSimpArgs false

section
open Go.RowKit Go.ChangeShapes Go.WideShapes
theorem qV2 (x:WlI) (w:World) (hle:QB9 1048576 x) (h:QO8 w x) :
  Calls Tryz.prog 21 #[.agg #[.slice x.ca x.cn x.cc,.int .i64 x.k,.int .i64 x.e,.int .i64 x.f,.int .i64 x.s,.int .i64 x.n,.slice x.ga x.gn x.gc,.slice x.ra x.rn x.rc]] w fun e w'=>∃ p:WlP,e = .returned (.agg #[.slice (some ⟨p.l,0,none⟩) x.cn x.cn,.int .i64 x.k,.int .i64 x.e,.int .i64 x.f,.int .i64 x.s,.int .i64 x.n,.slice (some ⟨p.g,0,none⟩) x.gn x.gn,.slice (some ⟨p.r,0,none⟩) x.rn x.rn])∧w.heap.size≤p.l∧p.l < w'.heap.size∧CpW p x w'∧Below w.heap.size w w' :=
 (QX7 x w hle h).mono (fun e w' ⟨p,h1,h2,h3,h4⟩=>⟨p,h1,h2,by have:=h3.ml;have:=h3.mg;have:=h3.gr;have:=h3.rh;have:=h3.hx;omega,h3,h4⟩)
theorem eqWallet_c (x:WlI) (p q:WlP) (w:World) (hle:QB9 1048576 x) (hz:x.zs.length=x.gn) (h:CpW p x w) (h':CpW q x w) :
  Calls Tryz.prog 23 #[.agg #[.slice (some ⟨p.l,0,none⟩) x.cn x.cn,.int .i64 x.k,.int .i64 x.e,.int .i64 x.f,.int .i64 x.s,.int .i64 x.n,.slice (some ⟨p.g,0,none⟩) x.gn x.gn,.slice (some ⟨p.r,0,none⟩) x.rn x.rn],.agg #[.slice (some ⟨q.l,0,none⟩) x.cn x.cn,.int .i64 x.k,.int .i64 x.e,.int .i64 x.f,.int .i64 x.s,.int .i64 x.n,.slice (some ⟨q.g,0,none⟩) x.gn x.gn,.slice (some ⟨q.r,0,none⟩) x.rn x.rn]] w fun e w'=>e = .returned (.bool true)∧Below w.heap.size w w':=by
 obtain ⟨V,hV⟩:∃ V,V=(w.alloc (.cells #[.slice (some ⟨p.l,0,none⟩) x.cn x.cn,.int .i64 x.k,.int .i64 x.e,.int .i64 x.f,.int .i64 x.s,.int .i64 x.n,.slice (some ⟨p.g,0,none⟩) x.gn x.gn,.slice (some ⟨p.r,0,none⟩) x.rn x.rn] 34)).alloc (.cells #[.slice (some ⟨q.l,0,none⟩) x.cn x.cn,.int .i64 x.k,.int .i64 x.e,.int .i64 x.f,.int .i64 x.s,.int .i64 x.n,.slice (some ⟨q.g,0,none⟩) x.gn x.gn,.slice (some ⟨q.r,0,none⟩) x.rn x.rn] 34):=⟨_,rfl⟩
 have BV:Hid (Below w.heap.size w V):=by show Below _ _ _;rw [hV];exact (zN).alloc (by simp) _
 have X0:Hid (qD6 w.heap.size (w.heap.size+1) (qJ1 w.heap.size [.slice (some ⟨p.l,0,none⟩) x.cn x.cn,.int .i64 x.k,.int .i64 x.e,.int .i64 x.f,.int .i64 x.s,.int .i64 x.n,.slice (some ⟨p.g,0,none⟩) x.gn x.gn,.slice (some ⟨p.r,0,none⟩) x.rn x.rn]) V):=by show qD6 _ _ _ _;rw [hV];exact (qD0 w _ _).alloc _
 have Y0:Hid (qD6 (w.heap.size+1) (w.heap.size+1+1) (qJ1 (w.heap.size+1) [.slice (some ⟨q.l,0,none⟩) x.cn x.cn,.int .i64 x.k,.int .i64 x.e,.int .i64 x.f,.int .i64 x.s,.int .i64 x.n,.slice (some ⟨q.g,0,none⟩) x.gn x.gn,.slice (some ⟨q.r,0,none⟩) x.rn x.rn]) V):=by
  show qD6 _ _ _ _
  have z:=qD0 (w.alloc (.cells #[.slice (some ⟨p.l,0,none⟩) x.cn x.cn,.int .i64 x.k,.int .i64 x.e,.int .i64 x.f,.int .i64 x.s,.int .i64 x.n,.slice (some ⟨p.g,0,none⟩) x.gn x.gn,.slice (some ⟨p.r,0,none⟩) x.rn x.rn] 34)) #[.slice (some ⟨q.l,0,none⟩) x.cn x.cn,.int .i64 x.k,.int .i64 x.e,.int .i64 x.f,.int .i64 x.s,.int .i64 x.n,.slice (some ⟨q.g,0,none⟩) x.gn x.gn,.slice (some ⟨q.r,0,none⟩) x.rn x.rn] 34
  simp only [World.size_alloc] at z
  rw [hV]
  exact z
 have P0:=qC3 (h.hold.below BV.out)
 have Q0:=qC3 (h'.hold.below BV.out)
 have HL:=qC3 hle
 have HZ:=qC3 hz
 clear h h' hle hz
 go_enter Tryz.func23,Tryz.ntmps23
 go_wp2_with fail
 rw [← hV]
 clear hV
 refine (eqCpR_c x.cn x.cn HL.out.cn P0.out.out.ch Q0.out.out.ch).mono ?_
 rintro e w1 ⟨rfl,hb1⟩
 have B1:=qC3 (BV.out.trans (hb1.mono BV.out.size))
 have X1:=qC3 (X0.out.below hb1)
 have Y1:=qC3 (Y0.out.below hb1)
 have P1:=qC3 (P0.out.below hb1)
 have Q1:=qC3 (Q0.out.below hb1)
 have c1:=X1.out.out 1 _ rfl
 have c2:=X1.out.out 2 _ rfl
 have c3:=X1.out.out 3 _ rfl
 have c4:=X1.out.out 4 _ rfl
 have c5:=X1.out.out 5 _ rfl
 have c6:=X1.out.out 6 _ rfl
 have d1:=Y1.out.out 1 _ rfl
 have d2:=Y1.out.out 2 _ rfl
 have d3:=Y1.out.out 3 _ rfl
 have d4:=Y1.out.out 4 _ rfl
 have d5:=Y1.out.out 5 _ rfl
 have d6:=Y1.out.out 6 _ rfl
 have hl1:w.heap.size < w1.heap.size:=by have:=X1.out.le;omega
 have hl2:w.heap.size+1 < w1.heap.size:=by have:=Y1.out.le;omega
 clear hb1 X0 Y0 P0 Q0
 go_wp2_with fail
 refine (QA5 x.c p.g q.g w1 HL.out.gn HZ.out P1.out.out.is.1 Q1.out.out.is.1).mono ?_
 rintro e w2 ⟨rfl,hb2⟩
 have B2:=qC3 (B1.out.trans (hb2.mono B1.out.size))
 have X2:=qC3 (X1.out.below hb2)
 have Y2:=qC3 (Y1.out.below hb2)
 have P2:=qC3 (P1.out.below hb2)
 have Q2:=qC3 (Q1.out.below hb2)
 clear c1 c2 c3 c4 c5 c6 d1 d2 d3 d4 d5 d6 hl1 hl2
 have c7:=X2.out.out 7 _ rfl
 have d7:=Y2.out.out 7 _ rfl
 have hl1:w.heap.size < w2.heap.size:=by have:=X2.out.le;omega
 have hl2:w.heap.size+1 < w2.heap.size:=by have:=Y2.out.le;omega
 clear hb2 X1 Y1 P1 Q1 B1
 go_wp2_with fail
 refine (eqCpR_c x.rn x.rn HL.out.rn P2.out.out.rv Q2.out.out.rv).mono ?_
 rintro e w3 ⟨rfl,hb3⟩
 go_wp2
 go_ret
 exact ⟨rfl,B2.out.trans (hb3.mono B2.out.size)⟩
theorem Tryz.cells54:Tryz.prog.cellsOf 54=8:=by kernel_rfl
theorem Tryz.cellsR50:Tryz.prog.cellsOf 50=1:=by kernel_rfl
theorem QE8 {H:Type} {enc:TypeId × Value→H} {w:World} {base:Nat} {spare:Nat→Bool} {held:Bool} {fuel:Nat} {cs:List Value} {x:DataW H × List MemPlace} (h:DataW.trod enc Tryz.prog w base spare held fuel 50 cs=some x) :
  ∃ a n c,cs=[.slice a n c]:=by
 rcases Go.Deep.open_slice Tryz.underlying50 h with ⟨hcs,_⟩ | ⟨a,l,c,m,n,D,Pl,hcs,_⟩
 ·exact ⟨_,_,_,hcs⟩
 ·exact ⟨_,_,_,hcs⟩
theorem list8W {α:Type} {l:List α} (h:l.length=8):∃ a b c d e f g i,l=[a,b,c,d,e,f,g,i]:=by
 match l,h with
 | [a,b,c,d,e,f,g,i],_=>exact ⟨a,b,c,d,e,f,g,i,rfl⟩
theorem list3W {α:Type} {l:List α} (h:l.length=3):∃ a b c,l=[a,b,c]:=by
 match l,h with
 | [a,b,c],_=>exact ⟨a,b,c,rfl⟩
theorem QP2 {H:Type} {enc:TypeId × Value→H} {w:World} {base:Nat} {spare:Nat→Bool} {held:Bool} {fuel:Nat} {cs:List Value} {x:DataW H × List MemPlace} (h:DataW.trod enc Tryz.prog w base spare held fuel 54 cs=some x) :
  ∃ r:WlI,cs=[.slice r.ca r.cn r.cc,.int .i64 r.k,.int .i64 r.e,.int .i64 r.f,.int .i64 r.s,.int .i64 r.n,.slice r.ga r.gn r.gc,.slice r.ra r.rn r.rc]∧QO8 w r∧QB9 maxLen r:=by
 obtain ⟨xs,n,_,_,hl,hlen,hf⟩:=DataW.trod_struct Tryz.underlying54 h
 rw [Tryz.cells54] at hl
 obtain ⟨c0,c1,c2,c3,c4,c5,c6,c7,rfl⟩:=list8W hl
 obtain ⟨y0,y1,y2,rfl⟩:=list3W hlen
 have g0:=hf 0 _ rfl
 have g1:=hf 1 _ rfl
 have g2:=hf 2 _ rfl
 simp [Tryz.cellsR50,Tryz.cells52] at g0 g1 g2
 obtain ⟨ca,cn,cc,q0⟩:=QE8 g0
 obtain ⟨r,q1,i1,i2⟩:=QO2 g1
 obtain ⟨ra,rn,rc,q2⟩:=QE8 g2
 simp at q0 q1 q2
 obtain ⟨rfl,rfl,rfl,rfl,rfl,rfl⟩:=q1
 subst q0 q2
 obtain ⟨cz,h1,h2,h3⟩:=QA7 g0
 obtain ⟨rz,k1,k2,k3⟩:=QA7 g2
 exact ⟨⟨ca,cn,cc,cz,r.k,r.e,r.f,r.s,r.n,r.ga,r.gn,r.gc,r.zs,ra,rn,rc,rz⟩,rfl,⟨h1,i1,k1⟩,⟨h2,h3,i2,k2,k3⟩⟩
theorem QK0 {H:Type} {enc:TypeId × Value→H} {w:World} {base:Nat} {spare:Nat→Bool} {held:Bool} {fuel:Nat} (cs:Array Value) {x:DataW H × List MemPlace} (h:DataW.trod enc Tryz.prog w base spare held fuel 54 cs.toList=some x) :
  ∃ r:WlI,cs = #[.slice r.ca r.cn r.cc,.int .i64 r.k,.int .i64 r.e,.int .i64 r.f,.int .i64 r.s,.int .i64 r.n,.slice r.ga r.gn r.gc,.slice r.ra r.rn r.rc]∧(QO8 w r∧QB9 maxLen r):=by
 obtain ⟨r,e,h1,h2⟩:=QP2 h
 exact ⟨r,by cases cs;simp_all,h1,h2⟩
end

end Go.Proofs.YthogdfnaojijhaaGreat
