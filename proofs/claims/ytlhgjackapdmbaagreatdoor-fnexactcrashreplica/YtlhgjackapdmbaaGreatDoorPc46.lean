/- Contracts. -/
import Derived.Test.YtlhgjackapdmbaaGreatDoorPc43
import Derived.Test.YtlhgjackapdmbaaGreatDoorPc45
import Derived.Test.YtlhgjackapdmbaaGreatDoorPc42
namespace Go.Proofs.YtlhgjackapdmbaaGreatDoor
set_option maxRecDepth 100000
set_option maxHeartbeats 8000000
open Go.RowKit
set_option linter.unusedVariables false
set_option linter.unusedSimpArgs false

theorem kpN {B:Nat} {w w':World} (hb:Below B w w'):(∀ b o,b < B→w'.cell? ⟨b,o,none⟩=w.cell? ⟨b,o,none⟩)∧Below B w w' :=
 ⟨fun b o h=>hb.cell (p:=⟨b,o,none⟩) h,hb⟩
theorem l5Take_any (a:Option Addr) (n cap:Nat) (b:Option Addr) (m cap2:Nat) (gs ys:List LkI) (w:World) (hn:n≤200) (hm:m≤100) (h:qJ8 w a n gs) (hnil:a=none→n=0∧cap=0) (hsome:∀ p,a=some p→∃ b0 o0,p=⟨b0,o0,none⟩∧b0 < w.heap.size) (hy:qJ8 w b m ys) (hs:SL gs) (ho:∀ x∈gs,okL x=true) (hys:SL ys) (hyo:∀ x∈ys,okL x=true) :
  qH7 99 #[.slice a n cap,.slice b m cap2] (qI9 gs ys) (tkL gs ys) w:=by
 cases a with
 | none =>
  obtain ⟨rfl,rfl⟩:=hnil rfl
  obtain rfl:gs=[]:=List.length_eq_zero_iff.1 h.1
  exact l5Take_nil b m cap2 ys w hm hy hys hyo
 | some p =>
  obtain ⟨b0,o0,rfl,hb0⟩:=hsome p rfl
  exact l5Take_c b0 o0 n cap b m cap2 gs ys w hn hm h hb0 hy hs ho hys hyo
structure IsA (w:World) (b:Nat) (r:qF4) (g o:Nat) (c:qA3) (gs:List GrI) (bx:Nat) (x:StI):Prop where
 rb:qG4 w b r
 ri:qD9 w r
 rn:r.sn≤1048576
 nl:r.la=none→r.ln=0∧r.lc=0
 sm:∀ p,r.la=some p→∃ b0 o0,p=⟨b0,o0,none⟩∧b0 < w.heap.size
 lk:qJ7 r.ls=0
 ca:qI7 w g o c
 ci:qF5 w c
 cl:qD8 1048576 c
 c0:qV1 c=0
 ag:QJ2 c.zs gs
 xa:qS7 w bx 0 x
 x0:qC4 x=0
 x1:x.k=1
theorem IsA.below {w w':World} {b:Nat} {r:qF4} {g o:Nat} {c:qA3} {gs:List GrI} {bx:Nat} {x:StI} (h:IsA w b r g o c gs bx x) (hb:Below w.heap.size w w'):IsA w' b r g o c gs bx x :=
 ⟨h.rb.below hb,h.ri.below hb,h.rn,h.nl,fun p e=>by obtain ⟨b0,o0,q,hl⟩:=h.sm p e;exact ⟨b0,o0,q,Nat.lt_of_lt_of_le hl hb.size⟩,h.lk,h.ca.below hb,h.ci.below hb,h.cl,h.c0,h.ag,h.xa.below hb (zL w _ h.xa.1),h.x0,h.x1⟩
theorem of_inR {v a b:Int} (h:inR v a b=true):a≤v∧v≤b:=by simpa [inR] using h
theorem kpM {n:Nat} {w4 w w':World} (h:(∀ b' o',b' < n→w.cell? ⟨b',o',none⟩=w4.cell? ⟨b',o',none⟩)∧Below n w4 w) (hb:Below w.heap.size w w') (hn:n≤w4.heap.size):(∀ b' o',b' < n→w'.cell? ⟨b',o',none⟩=w4.cell? ⟨b',o',none⟩)∧Below n w4 w' :=
 have q:=h.2.trans (hb.mono (Nat.le_trans hn h.2.size))
 ⟨fun b' o' hl=>q.cell (p:=⟨b',o',none⟩) hl,q⟩
theorem kpS {n:Nat} {w4 w:World} (h:(∀ b' o',b' < n→w.cell? ⟨b',o',none⟩=w4.cell? ⟨b',o',none⟩)∧Below n w4 w) {o:Nat} (v:Value):(∀ b' o',b' < n→(w.setCell ⟨n,o,none⟩ v).cell? ⟨b',o',none⟩=w4.cell? ⟨b',o',none⟩)∧Below n w4 (w.setCell ⟨n,o,none⟩ v) :=
 have q:=h.2.setCell (p:=⟨n,o,none⟩) (Nat.le_refl _) v
 ⟨fun b' o' hl=>q.cell (p:=⟨b',o',none⟩) hl,q⟩
theorem issueS_seal (b:Nat) (r:qF4) (g o:Nat) (c:qA3) (gs:List GrI) (bx:Nat) (x:StI) (w:World) (h:IsA w b r g o c gs bx x) (hs1:qU6 r.ss x.e=true) :
  qH7 77 #[.pointer (some ⟨b,0,none⟩),.pointer (some ⟨g,o,none⟩),.pointer (some ⟨bx,0,none⟩)] 9 [] w:=by
 unfold qH7
 have HA:Hid (∀ W,Below w.heap.size w W→IsA W b r g o c gs bx x):=fun W hb=>h.below hb
 have hbl:b < w.heap.size:=h.rb.lt
 have hgl:g < w.heap.size:=h.ca.lt
 have hxl:bx < w.heap.size:=zL w _ h.xa.1
 obtain ⟨W,hW⟩:∃ W,W=w.alloc (.cells #[.int .i64 0,.slice none 0 0] 124):=⟨_,rfl⟩
 obtain ⟨V,hV⟩:∃ V,V=(W.alloc (.cells #[.int .i64 2,.int .i64 x.e,.int .i64 x.f,.int .i64 x.s,.int .i64 0] 43)).drew:=⟨_,rfl⟩
 have hzW:W.heap.size=w.heap.size+1:=by rw [hW];simp
 have B0:Below w.heap.size w W:=by rw [hW];exact zN
 have A1:Below W.heap.size W V:=by rw [hV];exact (zN).drew
 have B1:Hid (Below w.heap.size w V):=B0.trans (A1.mono (by omega))
 have X1:Hid (qI3 w.heap.size [.int .i64 0,.slice none 0 0] V):=by
  refine qI3.below (W:=W) ?_ (by omega) A1
  rw [hW]
  exact qG7 w _ _
 have Y1:Hid (qE5 (w.heap.size+1) [.int .i64 2,.int .i64 x.e,.int .i64 x.f,.int .i64 x.s,.int .i64 0] V):=by
  have e:w.heap.size+1=W.heap.size:=hzW.symm
  rw [hV,e]
  exact (qE0 W _ _).out
 have hVl:w.heap.size+1 < V.heap.size:=by rw [hV];simp;omega
 have HXA:Hid (∀ W,Below w.heap.size w W→qS7 W bx 0 x):=fun W hb=>(h.below hb).xa
 have HSE:Hid (∀ W,Below w.heap.size w W→Calls Tryz.prog 97 #[.pointer (some ⟨b,0,none⟩),.int .i64 x.e] W fun d w'=>d = .returned (.bool true)∧Below W.heap.size W w'):=fun W hb=>by
  have q:=h.below hb
  rw [← hs1]
  exact QA4 b r x.e W q.rb q.ri.said q.rn
 clear hs1
 obtain ⟨x0,x1,x2,x3,x4⟩:=(h.below B0).xa
 simp only [Nat.zero_add] at x0 x1 x2 x3 x4
 have hxW:bx < W.heap.size:=by omega
 clear h A1 B0
 go_enter Tryz.func77,Tryz.ntmps77
 go_upto_region 1 with fail
 rw [← hW]
 clear hW
 go_region
 try rw [hzW]
 rw [← hV]
 clear hV hzW x0 x1 x2 x3 x4 hxW
 obtain ⟨x0,x1,x2,x3,x4⟩:=HXA.out _ B1.out
 simp only [Nat.zero_add] at x0 x1 x2 x3 x4
 have hxV:bx < V.heap.size:=by omega
 have y0:=Y1.out 0 _ rfl
 have y1:=Y1.out 1 _ rfl
 have y2:=Y1.out 2 _ rfl
 have y3:=Y1.out 3 _ rfl
 have y4:=Y1.out 4 _ rfl
 go_wp2_with fail
 refine (HSE.out _ B1.out).mono ?_
 rintro d w2 ⟨rfl,hb2⟩
 have X2:=qC2 (qI3.below X1.out (by omega) hb2)
 have B2:Hid (Below w.heap.size w w2):=B1.out.trans (hb2.mono B1.out.size)
 have hzl:w.heap.size < w2.heap.size:=by have:=B2.out.size;have:=hb2.size;omega
 clear x0 x1 x2 x3 x4 hxV y0 y1 y2 y3 y4
 have z0:=X2.out.1 0 _ rfl
 have z1:=X2.out.1 1 _ rfl
 have zf0:=X2.out.2 0
 have zf1:=X2.out.2 1
 go_wp2_with fail
 refine bodyPost_ret (v:=.agg #[.int .i64 9,.slice none 0 0]) (by simp [results,Tryz.results77,go_sem,z0,z1,hzl]) rfl ⟨none,0,rfl,World.ownsRow_nil _ _ _ _,?_⟩
 exact (B2.out.setCell (Nat.le_refl _) _).setCell (Nat.le_refl _) _
theorem issueS_back (b:Nat) (r:qF4) (g o:Nat) (c:qA3) (gs:List GrI) (bx:Nat) (x:StI) (w:World) (h:IsA w b r g o c gs bx x) (hs1:qU6 r.ss x.e=false) (hs2:qD7 r.ss (qT0 x)=true) :
  qH7 77 #[.pointer (some ⟨b,0,none⟩),.pointer (some ⟨g,o,none⟩),.pointer (some ⟨bx,0,none⟩)] 9 [] w:=by
 unfold qH7
 have HA:Hid (∀ W,Below w.heap.size w W→IsA W b r g o c gs bx x):=fun W hb=>h.below hb
 have hbl:b < w.heap.size:=h.rb.lt
 have hgl:g < w.heap.size:=h.ca.lt
 have hxl:bx < w.heap.size:=zL w _ h.xa.1
 obtain ⟨W,hW⟩:∃ W,W=w.alloc (.cells #[.int .i64 0,.slice none 0 0] 124):=⟨_,rfl⟩
 obtain ⟨V,hV⟩:∃ V,V=(W.alloc (.cells #[.int .i64 2,.int .i64 x.e,.int .i64 x.f,.int .i64 x.s,.int .i64 0] 43)).drew:=⟨_,rfl⟩
 have hzW:W.heap.size=w.heap.size+1:=by rw [hW];simp
 have B0:Below w.heap.size w W:=by rw [hW];exact zN
 have A1:Below W.heap.size W V:=by rw [hV];exact (zN).drew
 have B1:Hid (Below w.heap.size w V):=B0.trans (A1.mono (by omega))
 have X1:Hid (qI3 w.heap.size [.int .i64 0,.slice none 0 0] V):=by
  refine qI3.below (W:=W) ?_ (by omega) A1
  rw [hW]
  exact qG7 w _ _
 have Y1:Hid (qE5 (w.heap.size+1) [.int .i64 2,.int .i64 x.e,.int .i64 x.f,.int .i64 x.s,.int .i64 0] V):=by
  have e:w.heap.size+1=W.heap.size:=hzW.symm
  rw [hV,e]
  exact (qE0 W _ _).out
 have hVl:w.heap.size+1 < V.heap.size:=by rw [hV];simp;omega
 have HXA:Hid (∀ W,Below w.heap.size w W→qS7 W bx 0 x):=fun W hb=>(h.below hb).xa
 have HSE:Hid (∀ W,Below w.heap.size w W→Calls Tryz.prog 97 #[.pointer (some ⟨b,0,none⟩),.int .i64 x.e] W fun d w'=>d = .returned (.bool false)∧Below W.heap.size W w'):=fun W hb=>by
  have q:=h.below hb
  rw [← hs1]
  exact QA4 b r x.e W q.rb q.ri.said q.rn
 have HSD:Hid (∀ W,Below w.heap.size w W→Calls Tryz.prog 75 #[.pointer (some ⟨b,0,none⟩),.agg #[.int .i64 2,.int .i64 x.e,.int .i64 x.f,.int .i64 x.s,.int .i64 0]] W fun d w'=>d = .returned (.bool true)∧Below W.heap.size W w'):=fun W hb=>by
  have q:=h.below hb
  rw [← hs2]
  exact qM1 b r (qT0 x) W q.rb q.ri.said q.rn
 clear hs1 hs2
 obtain ⟨x0,x1,x2,x3,x4⟩:=(h.below B0).xa
 simp only [Nat.zero_add] at x0 x1 x2 x3 x4
 have hxW:bx < W.heap.size:=by omega
 clear h A1 B0
 go_enter Tryz.func77,Tryz.ntmps77
 go_upto_region 1 with fail
 rw [← hW]
 clear hW
 go_region
 try rw [hzW]
 rw [← hV]
 clear hV hzW x0 x1 x2 x3 x4 hxW
 obtain ⟨x0,x1,x2,x3,x4⟩:=HXA.out _ B1.out
 simp only [Nat.zero_add] at x0 x1 x2 x3 x4
 have hxV:bx < V.heap.size:=by omega
 have y0:=Y1.out 0 _ rfl
 have y1:=Y1.out 1 _ rfl
 have y2:=Y1.out 2 _ rfl
 have y3:=Y1.out 3 _ rfl
 have y4:=Y1.out 4 _ rfl
 go_wp2_with fail
 refine (HSE.out _ B1.out).mono ?_
 rintro d w2 ⟨rfl,hb2⟩
 have X2:=qC2 (qI3.below X1.out (by omega) hb2)
 have B2:Hid (Below w.heap.size w w2):=B1.out.trans (hb2.mono B1.out.size)
 have Y2:=qC2 (((qE5.hold Y1.out hVl).below hb2).out)
 have hl2:w.heap.size+1 < w2.heap.size:=Nat.lt_of_lt_of_le hVl hb2.size
 clear x0 x1 x2 x3 x4 hxV y0 y1 y2 y3 y4
 have y0:=Y2.out 0 _ rfl
 have y1:=Y2.out 1 _ rfl
 have y2:=Y2.out 2 _ rfl
 have y3:=Y2.out 3 _ rfl
 have y4:=Y2.out 4 _ rfl
 go_wp2_with fail
 refine (HSD.out _ B2.out).mono ?_
 rintro d w3 ⟨rfl,hb3⟩
 have X3:=qC2 (qI3.below X2.out (by omega) hb3)
 have B3:Hid (Below w.heap.size w w3):=B2.out.trans (hb3.mono B2.out.size)
 have hzl:w.heap.size < w3.heap.size:=by have:=hb3.size;omega
 clear y0 y1 y2 y3 y4 Y2
 have z0:=X3.out.1 0 _ rfl
 have z1:=X3.out.1 1 _ rfl
 have zf0:=X3.out.2 0
 have zf1:=X3.out.2 1
 go_wp2_with fail
 refine bodyPost_ret (v:=.agg #[.int .i64 9,.slice none 0 0]) (by simp [results,Tryz.results77,go_sem,z0,z1,hzl]) rfl ⟨none,0,rfl,World.ownsRow_nil _ _ _ _,?_⟩
 exact (B3.out.setCell (Nat.le_refl _) _).setCell (Nat.le_refl _) _
theorem issueS_pol (b:Nat) (r:qF4) (g o:Nat) (c:qA3) (gs:List GrI) (bx:Nat) (x:StI) (w:World) (h:IsA w b r g o c gs bx x) (hs1:qU6 r.ss x.e=false) (hs2:qD7 r.ss (qT0 x)=false) (hal:alW (qA5 c.fs) gs x.f x.s=false) :
  qH7 77 #[.pointer (some ⟨b,0,none⟩),.pointer (some ⟨g,o,none⟩),.pointer (some ⟨bx,0,none⟩)] 8 [] w:=by
 unfold qH7
 have HA:Hid (∀ W,Below w.heap.size w W→IsA W b r g o c gs bx x):=fun W hb=>h.below hb
 have hbl:b < w.heap.size:=h.rb.lt
 have hgl:g < w.heap.size:=h.ca.lt
 have hxl:bx < w.heap.size:=zL w _ h.xa.1
 obtain ⟨W,hW⟩:∃ W,W=w.alloc (.cells #[.int .i64 0,.slice none 0 0] 124):=⟨_,rfl⟩
 obtain ⟨V,hV⟩:∃ V,V=(W.alloc (.cells #[.int .i64 2,.int .i64 x.e,.int .i64 x.f,.int .i64 x.s,.int .i64 0] 43)).drew:=⟨_,rfl⟩
 have hzW:W.heap.size=w.heap.size+1:=by rw [hW];simp
 have B0:Below w.heap.size w W:=by rw [hW];exact zN
 have A1:Below W.heap.size W V:=by rw [hV];exact (zN).drew
 have B1:Hid (Below w.heap.size w V):=B0.trans (A1.mono (by omega))
 have X1:Hid (qI3 w.heap.size [.int .i64 0,.slice none 0 0] V):=by
  refine qI3.below (W:=W) ?_ (by omega) A1
  rw [hW]
  exact qG7 w _ _
 have Y1:Hid (qE5 (w.heap.size+1) [.int .i64 2,.int .i64 x.e,.int .i64 x.f,.int .i64 x.s,.int .i64 0] V):=by
  have e:w.heap.size+1=W.heap.size:=hzW.symm
  rw [hV,e]
  exact (qE0 W _ _).out
 have hVl:w.heap.size+1 < V.heap.size:=by rw [hV];simp;omega
 have HXA:Hid (∀ W,Below w.heap.size w W→qS7 W bx 0 x):=fun W hb=>(h.below hb).xa
 have HSE:Hid (∀ W,Below w.heap.size w W→Calls Tryz.prog 97 #[.pointer (some ⟨b,0,none⟩),.int .i64 x.e] W fun d w'=>d = .returned (.bool false)∧Below W.heap.size W w'):=fun W hb=>by
  have q:=h.below hb
  rw [← hs1]
  exact QA4 b r x.e W q.rb q.ri.said q.rn
 have HSD:Hid (∀ W,Below w.heap.size w W→Calls Tryz.prog 75 #[.pointer (some ⟨b,0,none⟩),.agg #[.int .i64 2,.int .i64 x.e,.int .i64 x.f,.int .i64 x.s,.int .i64 0]] W fun d w'=>d = .returned (.bool false)∧Below W.heap.size W w'):=fun W hb=>by
  have q:=h.below hb
  rw [← hs2]
  exact qM1 b r (qT0 x) W q.rb q.ri.said q.rn
 have HAL:Hid (∀ W,Below w.heap.size w W→Calls Tryz.prog 98 #[.pointer (some ⟨g,o,none⟩),.int .i64 x.f,.int .i64 x.s] W fun d w'=>d = .returned (.bool false)∧Below W.heap.size W w'):=fun W hb=>by
  have q:=h.below hb
  obtain ⟨_,_,z1,z2,_⟩:=QG0 q.c0
  rw [← hal]
  exact QR7 g o c gs x.f x.s W q.cl q.ca q.ci q.ag z1 (fun k y hy=>(fm_zero z2).2 k y hy)
 clear hs1 hs2 hal
 obtain ⟨x0,x1,x2,x3,x4⟩:=(h.below B0).xa
 simp only [Nat.zero_add] at x0 x1 x2 x3 x4
 have hxW:bx < W.heap.size:=by omega
 clear h A1 B0
 go_enter Tryz.func77,Tryz.ntmps77
 go_upto_region 1 with fail
 rw [← hW]
 clear hW
 go_region
 try rw [hzW]
 rw [← hV]
 clear hV hzW x0 x1 x2 x3 x4 hxW
 obtain ⟨x0,x1,x2,x3,x4⟩:=HXA.out _ B1.out
 simp only [Nat.zero_add] at x0 x1 x2 x3 x4
 have hxV:bx < V.heap.size:=by omega
 have y0:=Y1.out 0 _ rfl
 have y1:=Y1.out 1 _ rfl
 have y2:=Y1.out 2 _ rfl
 have y3:=Y1.out 3 _ rfl
 have y4:=Y1.out 4 _ rfl
 go_wp2_with fail
 refine (HSE.out _ B1.out).mono ?_
 rintro d w2 ⟨rfl,hb2⟩
 have X2:=qC2 (qI3.below X1.out (by omega) hb2)
 have B2:Hid (Below w.heap.size w w2):=B1.out.trans (hb2.mono B1.out.size)
 have Y2:=qC2 (((qE5.hold Y1.out hVl).below hb2).out)
 have hl2:w.heap.size+1 < w2.heap.size:=Nat.lt_of_lt_of_le hVl hb2.size
 clear x0 x1 x2 x3 x4 hxV y0 y1 y2 y3 y4
 have y0:=Y2.out 0 _ rfl
 have y1:=Y2.out 1 _ rfl
 have y2:=Y2.out 2 _ rfl
 have y3:=Y2.out 3 _ rfl
 have y4:=Y2.out 4 _ rfl
 go_wp2_with fail
 refine (HSD.out _ B2.out).mono ?_
 rintro d w3 ⟨rfl,hb3⟩
 have X3:=qC2 (qI3.below X2.out (by omega) hb3)
 have B3:Hid (Below w.heap.size w w3):=B2.out.trans (hb3.mono B2.out.size)
 have hzl:w.heap.size < w3.heap.size:=by have:=hb3.size;omega
 clear y0 y1 y2 y3 y4 Y2
 obtain ⟨x0,x1,x2,x3,x4⟩:=HXA.out _ B3.out
 simp only [Nat.zero_add] at x0 x1 x2 x3 x4
 have hxV3:bx < w3.heap.size:=by omega
 go_upto_region 4 with fail
 refine wp_region_held_drew (S:=fun w'=>(∀ b o,b < w3.heap.size→w'.cell? ⟨b,o,none⟩=w3.cell? ⟨b,o,none⟩)∧Below w3.heap.size w3 w') (by kernel_rfl) (qB6 _) (fun hHeld=>?_)
 refine Zk.go [0,1,2,3,4,5,6,7,8] ?_
 iterate 9
  refine Zk.st (v:=?_) rfl ?_ ?_
  rotate_left 1
  ·intro w hSw;(try dsimp only at hSw);go_simp;try (with_reducible rfl)
  try simp only [Act.put,zA,zB,zC,zD,zE,zF]
 refine Zk.fin ?_
 refine Zk.rd (i:=9) rfl (fun K hK=>?_)
 go_simp
 refine (HAL.out _ (B3.out.trans (hHeld.2.mono B3.out.size))).mono ?_
 rintro d w4 ⟨rfl,hb4⟩
 have hS:=qA7 hHeld hb4
 refine hK.out _ _ hS (fun hHeld=>?_)
 clear hK K
 try simp only [Act.put,zA,zB,zC,zD,zE,zF]
 refine Zk.go [10] ?_
 refine Zk.st (v:=?_) rfl ?_ ?_
 rotate_left 1
 ·intro w hSw;(try dsimp only at hSw);go_simp;try (with_reducible rfl)
 try simp only [Act.put,zA,zB,zC,zD,zE,zF]
 refine Zk.fin ?_
 refine wpAnyH_done (by kernel_rfl) ?_ _
 have X4:=qC2 (qI3.below X3.out (by omega) hS.2)
 have B4:Hid (Below w.heap.size w w4):=B3.out.trans (hS.2.mono B3.out.size)
 have hs4:=hS.2.size
 clear hHeld hS hb4 x0 x1 x2 x3 x4 hxV3
 have hzl':w.heap.size < w4.heap.size:=by omega
 clear hzl
 have hzl:=hzl'
 have z0:=X4.out.1 0 _ rfl
 have z1:=X4.out.1 1 _ rfl
 have zf0:=X4.out.2 0
 have zf1:=X4.out.2 1
 go_wp2_with fail
 refine bodyPost_ret (v:=.agg #[.int .i64 8,.slice none 0 0]) (by simp [results,Tryz.results77,go_sem,z0,z1,hzl]) rfl ⟨none,0,rfl,World.ownsRow_nil _ _ _ _,?_⟩
 exact (B4.out.setCell (Nat.le_refl _) _).setCell (Nat.le_refl _) _
theorem issueS_take (b:Nat) (r:qF4) (g o:Nat) (c:qA3) (gs:List GrI) (bx:Nat) (x:StI) (w:World) (h:IsA w b r g o c gs bx x) (hs1:qU6 r.ss x.e=false) (hs2:qD7 r.ss (qT0 x)=false) (hal:alW (qA5 c.fs) gs x.f x.s=true) :
  qH7 77 #[.pointer (some ⟨b,0,none⟩),.pointer (some ⟨g,o,none⟩),.pointer (some ⟨bx,0,none⟩)] (qE2 r.ls c.cs x.e x.f x.s) (qL4 r.ls c.cs x.e x.f x.s) w:=by
 unfold qH7
 have HA:Hid (∀ W,Below w.heap.size w W→IsA W b r g o c gs bx x):=fun W hb=>h.below hb
 have hbl:b < w.heap.size:=h.rb.lt
 have hgl:g < w.heap.size:=h.ca.lt
 have hxl:bx < w.heap.size:=zL w _ h.xa.1
 obtain ⟨W,hW⟩:∃ W,W=w.alloc (.cells #[.int .i64 0,.slice none 0 0] 124):=⟨_,rfl⟩
 obtain ⟨V,hV⟩:∃ V,V=(W.alloc (.cells #[.int .i64 2,.int .i64 x.e,.int .i64 x.f,.int .i64 x.s,.int .i64 0] 43)).drew:=⟨_,rfl⟩
 have hzW:W.heap.size=w.heap.size+1:=by rw [hW];simp
 have B0:Below w.heap.size w W:=by rw [hW];exact zN
 have A1:Below W.heap.size W V:=by rw [hV];exact (zN).drew
 have B1:Hid (Below w.heap.size w V):=B0.trans (A1.mono (by omega))
 have X1:Hid (qI3 w.heap.size [.int .i64 0,.slice none 0 0] V):=by
  refine qI3.below (W:=W) ?_ (by omega) A1
  rw [hW]
  exact qG7 w _ _
 have Y1:Hid (qE5 (w.heap.size+1) [.int .i64 2,.int .i64 x.e,.int .i64 x.f,.int .i64 x.s,.int .i64 0] V):=by
  have e:w.heap.size+1=W.heap.size:=hzW.symm
  rw [hV,e]
  exact (qE0 W _ _).out
 have hVl:w.heap.size+1 < V.heap.size:=by rw [hV];simp;omega
 have HXA:Hid (∀ W,Below w.heap.size w W→qS7 W bx 0 x):=fun W hb=>(h.below hb).xa
 have HSE:Hid (∀ W,Below w.heap.size w W→Calls Tryz.prog 97 #[.pointer (some ⟨b,0,none⟩),.int .i64 x.e] W fun d w'=>d = .returned (.bool false)∧Below W.heap.size W w'):=fun W hb=>by
  have q:=h.below hb
  rw [← hs1]
  exact QA4 b r x.e W q.rb q.ri.said q.rn
 have HSD:Hid (∀ W,Below w.heap.size w W→Calls Tryz.prog 75 #[.pointer (some ⟨b,0,none⟩),.agg #[.int .i64 2,.int .i64 x.e,.int .i64 x.f,.int .i64 x.s,.int .i64 0]] W fun d w'=>d = .returned (.bool false)∧Below W.heap.size W w'):=fun W hb=>by
  have q:=h.below hb
  rw [← hs2]
  exact qM1 b r (qT0 x) W q.rb q.ri.said q.rn
 have HAL:Hid (∀ W,Below w.heap.size w W→Calls Tryz.prog 98 #[.pointer (some ⟨g,o,none⟩),.int .i64 x.f,.int .i64 x.s] W fun d w'=>d = .returned (.bool true)∧Below W.heap.size W w'):=fun W hb=>by
  have q:=h.below hb
  obtain ⟨_,_,z1,z2,_⟩:=QG0 q.c0
  rw [← hal]
  exact QR7 g o c gs x.f x.s W q.cl q.ca q.ci q.ag z1 (fun k y hy=>(fm_zero z2).2 k y hy)
 have hnc:qE4 c.cs x.e x.f x.s=0:=by
  obtain ⟨_,⟨e0,e1⟩,_,⟨f0,f1⟩,⟨s0,s1⟩,hfs,_⟩:=qH9 h.x0
  obtain ⟨hf,hs,_⟩:=hfs (by have:=h.x1;omega)
  refine need_of (QG0 h.c0).2.2.2.2 ?_ ?_ ?_
  ·simp [inR];omega
  ·simp [inR];omega
  ·simp [inR];omega
 have hxs:=qH9 h.x0
 obtain ⟨n0,n1,n2,n3⟩:=QL0 hnc
 obtain ⟨u1,u2⟩:=QU2 hnc
 have hcm:c.cs.length=c.cn:=h.ci.classes.1
 have hc4:c.cn≤4:=by rw [← hcm];exact (cl_ok n0).1
 obtain ⟨Y,hY⟩:∃ Y,qB3 c.cs x.e x.f x.s c.cs.length=Y:=⟨_,rfl⟩
 have hYl:Y.length≤100:=by rw [← hY];have:=qV8 c.cs x.e x.f x.s c.cs.length;omega
 obtain ⟨k,hk⟩:∃ k,qE2 r.ls c.cs x.e x.f x.s=k:=⟨_,rfl⟩
 obtain ⟨L,hL⟩:∃ L,qL4 r.ls c.cs x.e x.f x.s=L:=⟨_,rfl⟩
 have hk':qI9 r.ls Y=k:=by rw [← hk,← hY];unfold qE2;rw [if_pos h.lk,if_pos hnc]
 have hL':tkL r.ls Y=L:=by rw [← hL,← hY];unfold qL4;rw [if_pos ⟨h.lk,hnc⟩]
 rw [hY] at u1 u2
 have HND:Hid (∀ W,Below w.heap.size w W→Calls Tryz.prog 100 #[.slice c.ca c.cn c.cc,.int .i64 x.e,.int .i64 x.f,.int .i64 x.s] W fun q w'=>∃ g' cc,q = .returned (.slice (some ⟨g',0,none⟩) Y.length cc)∧qA1 w' W.heap.size (.slice (some ⟨g',0,none⟩) Y.length cc) Y∧Below W.heap.size W w'):=fun W hb=>by
  have q:=l5Needs_c c.ca c.cn c.cc c.cs x.e x.f x.s W (h.below hb).ci.classes (cl_ok n0).2 hc4 (by have:=(of_inR n2);omega) (by have:=(of_inR n2);omega) (by have:=(of_inR n3);omega) (by have:=(of_inR n3);omega)
  rw [← hcm,hY,hcm] at q
  exact q
 have HTK:Hid (∀ W (g' cc:Nat),Below w.heap.size w W→qJ8 W (some ⟨g',0,none⟩) Y.length Y→qH7 99 #[.slice r.la r.ln r.lc,.slice (some ⟨g',0,none⟩) Y.length cc] k L W):=fun W g' cc hb hy=>by
  have q:=h.below hb
  have ok:=QF6 h.lk
  rw [← hk',← hL']
  exact l5Take_any r.la r.ln r.lc _ _ cc r.ls Y W (by have:=q.ri.locks.1;have:=ok.1;omega) hYl q.ri.locks q.nl q.sm hy ok.2.1 ok.2.2 u1 u2
 have HRB:Hid (∀ W,Below w.heap.size w W→qG4 W b r∧qI7 W g o c):=fun W hb=>⟨(h.below hb).rb,(h.below hb).ca⟩
 rw [hk,hL]
 clear hk hL hk' hL' hY hnc n0 n1 n2 n3 u1 u2 hcm hxs
 clear hs1 hs2 hal
 obtain ⟨x0,x1,x2,x3,x4⟩:=(h.below B0).xa
 simp only [Nat.zero_add] at x0 x1 x2 x3 x4
 have hxW:bx < W.heap.size:=by omega
 clear h A1 B0
 go_enter Tryz.func77,Tryz.ntmps77
 go_upto_region 1 with fail
 rw [← hW]
 clear hW
 go_region
 try rw [hzW]
 rw [← hV]
 clear hV hzW x0 x1 x2 x3 x4 hxW
 obtain ⟨x0,x1,x2,x3,x4⟩:=HXA.out _ B1.out
 simp only [Nat.zero_add] at x0 x1 x2 x3 x4
 have hxV:bx < V.heap.size:=by omega
 have y0:=Y1.out 0 _ rfl
 have y1:=Y1.out 1 _ rfl
 have y2:=Y1.out 2 _ rfl
 have y3:=Y1.out 3 _ rfl
 have y4:=Y1.out 4 _ rfl
 go_wp2_with fail
 refine (HSE.out _ B1.out).mono ?_
 rintro d w2 ⟨rfl,hb2⟩
 have X2:=qC2 (qI3.below X1.out (by omega) hb2)
 have B2:Hid (Below w.heap.size w w2):=B1.out.trans (hb2.mono B1.out.size)
 have Y2:=qC2 (((qE5.hold Y1.out hVl).below hb2).out)
 have hl2:w.heap.size+1 < w2.heap.size:=Nat.lt_of_lt_of_le hVl hb2.size
 clear x0 x1 x2 x3 x4 hxV y0 y1 y2 y3 y4
 have y0:=Y2.out 0 _ rfl
 have y1:=Y2.out 1 _ rfl
 have y2:=Y2.out 2 _ rfl
 have y3:=Y2.out 3 _ rfl
 have y4:=Y2.out 4 _ rfl
 go_wp2_with fail
 refine (HSD.out _ B2.out).mono ?_
 rintro d w3 ⟨rfl,hb3⟩
 have X3:=qC2 (qI3.below X2.out (by omega) hb3)
 have B3:Hid (Below w.heap.size w w3):=B2.out.trans (hb3.mono B2.out.size)
 have hzl:w.heap.size < w3.heap.size:=by have:=hb3.size;omega
 clear y0 y1 y2 y3 y4 Y2
 obtain ⟨x0,x1,x2,x3,x4⟩:=HXA.out _ B3.out
 simp only [Nat.zero_add] at x0 x1 x2 x3 x4
 have hxV3:bx < w3.heap.size:=by omega
 go_upto_region 4 with fail
 refine wp_region_held_drew (S:=fun w'=>(∀ b o,b < w3.heap.size→w'.cell? ⟨b,o,none⟩=w3.cell? ⟨b,o,none⟩)∧Below w3.heap.size w3 w') (by kernel_rfl) (qB6 _) (fun hHeld=>?_)
 refine Zk.go [0,1,2,3,4,5,6,7,8] ?_
 iterate 9
  refine Zk.st (v:=?_) rfl ?_ ?_
  rotate_left 1
  ·intro w hSw;(try dsimp only at hSw);go_simp;try (with_reducible rfl)
  try simp only [Act.put,zA,zB,zC,zD,zE,zF]
 refine Zk.fin ?_
 refine Zk.rd (i:=9) rfl (fun K hK=>?_)
 go_simp
 refine (HAL.out _ (B3.out.trans (hHeld.2.mono B3.out.size))).mono ?_
 rintro d w4 ⟨rfl,hb4⟩
 have hS:=qA7 hHeld hb4
 refine hK.out _ _ hS (fun hHeld=>?_)
 clear hK K
 try simp only [Act.put,zA,zB,zC,zD,zE,zF]
 refine Zk.go [10] ?_
 refine Zk.st (v:=?_) rfl ?_ ?_
 rotate_left 1
 ·intro w hSw;(try dsimp only at hSw);go_simp;try (with_reducible rfl)
 try simp only [Act.put,zA,zB,zC,zD,zE,zF]
 refine Zk.fin ?_
 refine wpAnyH_done (by kernel_rfl) ?_ _
 have X4:=qC2 (qI3.below X3.out (by omega) hS.2)
 have B4:Hid (Below w.heap.size w w4):=B3.out.trans (hS.2.mono B3.out.size)
 have hs4:=hS.2.size
 clear hHeld hS hb4 x0 x1 x2 x3 x4 hxV3
 obtain ⟨x0,x1,x2,x3,x4⟩:=HXA.out _ B4.out
 simp only [Nat.zero_add] at x0 x1 x2 x3 x4
 obtain ⟨⟨r0,r1,r2,r3⟩,v0,v1,v2,v3,v4⟩:=HRB.out _ B4.out
 have hbx4:bx < w4.heap.size:=by omega
 have hbb4:b < w4.heap.size:=by omega
 have hgg4:g < w4.heap.size:=by omega
 go_upto_region 6 with fail
 refine wp_region_held_drew (S:=fun w'=>(∀ b' o',b' < w.heap.size→w'.cell? ⟨b',o',none⟩=w4.cell? ⟨b',o',none⟩)∧Below w.heap.size w4 w') (by kernel_rfl) (⟨fun b' o' hb'=>rfl,(Below.refl _ _).drew⟩) (fun hHeld=>?_)
 refine Zk.go [0,1,2,3,4,5,6,7,8,9,10,11,12,13,14,15,16,17,18,19] ?_
 iterate 20
  refine Zk.st (v:=?_) rfl ?_ ?_
  rotate_left 1
  ·intro w hSw;(try dsimp only at hSw);go_simp;try (with_reducible rfl)
  try simp only [Act.put,zA,zB,zC,zD,zE,zF]
 refine Zk.fin ?_
 refine Zk.rd (i:=20) rfl (fun K hK=>?_)
 go_simp
 refine (HND.out _ (B4.out.trans hHeld.2)).mono ?_
 rintro d w5 ⟨g5,c5,rfl,ho5,hb5⟩
 have hS:=kpM hHeld hb5 (by omega)
 have P5:Hid (qJ8 w5 (some ⟨g5,0,none⟩) Y.length Y):=LkV.isIn rfl ho5.view
 have X5:=qC2 (qI3.below (qI3.below X4.out (by omega) (Below.refl _ _).drew) (by simp;omega) hb5)
 have hs5:=hb5.size
 clear ho5 hb5
 refine hK.out _ _ hS (fun hHeld=>?_)
 clear hK K
 try simp only [Act.put,zA,zB,zC,zD,zE,zF]
 refine Zk.rd (i:=21) rfl (fun K hK=>?_)
 go_simp
 have hq:=HTK.out _ g5 c5 (B4.out.trans hHeld.2) P5.out
 unfold qH7 at hq
 refine hq.mono ?_
 clear hq
 rintro d w6 ⟨la',lc',rfl,ho6,hb6⟩
 have hS:=kpM hHeld hb6 (by omega)
 have X6:=qI3.below X5.out (by simp at hs5;omega) hb6
 have O6:=qC2 ho6
 have hs6:=hb6.size
 have z0:=X6.1 0 _ rfl
 have z1:=X6.1 1 _ rfl
 have zf0:=X6.2 0
 have zf1:=X6.2 1
 have hz6:w.heap.size < w6.heap.size:=by simp at hs5;omega
 have hz5:w.heap.size < w5.heap.size:=by simp at hs5;omega
 have HX6:=qC2 X6
 clear ho6 X6
 refine hK.out _ _ hS (fun hHeld=>?_)
 clear hK K
 try simp only [Act.put,zA,zB,zC,zD,zE,zF]
 refine Zk.rd (i:=22) rfl (fun K hK=>?_)
 go_simp
 have hS:=kpS (kpS hHeld (o:=0) (.int .i64 k)) (o:=1) (.slice la' L.length lc')
 refine hK.out _ _ hS (fun hHeld=>?_)
 clear hK K
 try simp only [Act.put,zA,zB,zC,zD,zE,zF]
 refine wpAnyH_done (by kernel_rfl) ?_ _
 go_wp2_with fail
 refine bodyPost_ret (v:=.agg #[.int .i64 k,.slice la' L.length lc']) (by simp [results,Tryz.results77,go_sem,z0,z1,hz6]) rfl ⟨la',lc',rfl,qB0 (qA0 O6.out (fun g' e=>?_)) (by omega),B4.out.trans hHeld.2⟩
 obtain ⟨cur,hcc,hgg⟩:=qC6 O6.out e
 rw [Below.heap_setCell _ _ _ _ (by show g'≠w.heap.size;omega),Below.heap_setCell _ _ _ _ (by show g'≠w.heap.size;omega)]

structure EV (w:World) (r:qF4) (x:StI) (W:World):Prop where
 rb:qG4 W w.heap.size r
 xa:qS7 W (w.heap.size+1) 0 x
 rs:qI3 (w.heap.size+2) [.int .i64 0,.int .i64 0,.int .i64 0,.slice none 0 0,.slice none 0 0] W
 lt:w.heap.size+2 < W.heap.size
 bl:Below w.heap.size w W
theorem EV.below {w:World} {r:qF4} {x:StI} {W W':World} (h:EV w r x W) (hb:Below W.heap.size W W'):EV w r x W' :=
 ⟨h.rb.below hb,h.xa.below hb (by have:=h.lt;omega),qI3.below h.rs h.lt hb,Nat.lt_of_lt_of_le h.lt hb.size,h.bl.trans (hb.mono h.bl.size)⟩
theorem EV.new (w:World) (r:qF4) (x:StI):EV w r x (((w.alloc (.cells #[.int .i64 r.i,.int .i64 r.u,.slice r.sa r.sn r.sc,.slice r.la r.ln r.lc] 33)).alloc (.cells #[.int .i64 x.k,.int .i64 x.e,.int .i64 x.f,.int .i64 x.s,.int .i64 x.n] 43)).alloc (.cells #[.int .i64 0,.int .i64 0,.int .i64 0,.slice none 0 0,.slice none 0 0] 47)):=by
 obtain ⟨A,hA⟩:∃ A,A=w.alloc (.cells #[.int .i64 r.i,.int .i64 r.u,.slice r.sa r.sn r.sc,.slice r.la r.ln r.lc] 33):=⟨_,rfl⟩
 obtain ⟨B,hB⟩:∃ B,B=A.alloc (.cells #[.int .i64 x.k,.int .i64 x.e,.int .i64 x.f,.int .i64 x.s,.int .i64 x.n] 43):=⟨_,rfl⟩
 have sA:A.heap.size=w.heap.size+1:=by rw [hA];simp
 have sB:B.heap.size=w.heap.size+2:=by rw [hB];simp;omega
 have b1:Below A.heap.size A B:=by rw [hB];exact zN
 rw [← hA,← hB]
 have b2:Below B.heap.size B (B.alloc (.cells #[.int .i64 0,.int .i64 0,.int .i64 0,.slice none 0 0,.slice none 0 0] 47)):=zN
 have r0:qG4 A w.heap.size r:=by rw [hA];exact qG4.new w r _
 have x0:qS7 B (w.heap.size+1) 0 x:=by rw [hB,← sA];exact qS7.new A x _
 refine ⟨(r0.below b1).below b2,x0.below b2 (by omega),?_,by simp;omega,?_⟩
 ·rw [← sB]
  exact qG7 B _ _
 ·rw [hB,hA]
  exact ((zN).alloc (by simp) _).alloc (by simp;omega) _
structure OX (w:World) (r:qF4) (x:StI) (q gs sc:Nat) (la:Option Addr) (lc:Nat) (ls:List LkI) (W:World):Prop where
 ev:EV w r x W
 ob:W.heap[q]? = some (.cells #[.int .i64 r.i,.int .i64 r.u,.slice (some ⟨gs,0,none⟩) r.sn sc,.slice la ls.length lc] 33 (0,0))
 so:qB1 W (w.heap.size+3) (.slice (some ⟨gs,0,none⟩) r.sn sc) r.ss
 lo:qA1 W (w.heap.size+3) (.slice la ls.length lc) ls
 ql:w.heap.size+2 < q
theorem OX.qlt {w:World} {r:qF4} {x:StI} {q gs sc:Nat} {la:Option Addr} {lc:Nat} {ls:List LkI} {W:World} (h:OX w r x q gs sc la lc ls W):q < W.heap.size:=(Array.getElem?_eq_some_iff.1 h.ob).1
theorem OX.below {w:World} {r:qF4} {x:StI} {q gs sc:Nat} {la:Option Addr} {lc:Nat} {ls:List LkI} {W W':World} (h:OX w r x q gs sc la lc ls W) (hb:Below W.heap.size W W'):OX w r x q gs sc la lc ls W' :=
 ⟨h.ev.below hb,(hb.block q h.qlt).trans h.ob,h.so.below hb,h.lo.below hb,h.ql⟩
theorem OX.lock {w:World} {r:qF4} {x:StI} {q gs sc:Nat} {la:Option Addr} {lc:Nat} {ls:List LkI} {W:World} (h:OX w r x q gs sc la lc ls W) {la':Option Addr} {lc':Nat} {ls':List LkI} (hl:qA1 W (w.heap.size+3) (.slice la' ls'.length lc') ls'):OX w r x q gs sc la' lc' ls' (W.setCell ⟨q,3,none⟩ (.slice la' ls'.length lc')):=by
 have ql:=h.ql
 have e:=h.ev
 have k:∀ g,g≠q→(W.setCell ⟨q,3,none⟩ (.slice la' ls'.length lc')).heap[g]? = W.heap[g]? := fun g hg=>Below.heap_setCell _ _ _ _ hg
 refine ⟨⟨?_,?_,e.rs.other (by show q≠_;omega) _,by simpa using e.lt,e.bl.setCell (by show w.heap.size≤q;omega) _⟩,qQ0 h.ob,qA0 h.so (fun g e=>?_),qA0 hl (fun g e=>?_),h.ql⟩
 ·obtain ⟨a0,a1,a2,a3⟩:=e.rb
  have c:=fun o=>World.cell?_of_block (w:=W) (w':=W.setCell ⟨q,3,none⟩ (.slice la' ls'.length lc')) (a:=⟨w.heap.size,o,none⟩) (k w.heap.size (by omega))
  exact ⟨(c 0).trans a0,(c 1).trans a1,(c 2).trans a2,(c 3).trans a3⟩
 ·obtain ⟨a0,a1,a2,a3,a4⟩:=e.xa
  have c:=fun o=>World.cell?_of_block (w:=W) (w':=W.setCell ⟨q,3,none⟩ (.slice la' ls'.length lc')) (a:=⟨w.heap.size+1,o,none⟩) (k (w.heap.size+1) (by omega))
  exact ⟨(c _).trans a0,(c _).trans a1,(c _).trans a2,(c _).trans a3,(c _).trans a4⟩
 ·obtain ⟨cur,hc,_⟩:=qD1 h.so e
  exact k g (qK8 hc h.ob (by decide))
 ·obtain ⟨cur,hc,_⟩:=qC6 hl e
  exact k g (qK8 hc h.ob (by decide))
theorem OX.said {w:World} {r:qF4} {x:StI} {q gs sc:Nat} {la:Option Addr} {lc:Nat} {ls:List LkI} {W w':World} (h:OX w r x q gs sc la lc ls W) {v:Value} (ho:qB1 w' (w.heap.size+3) v (r.ss++[x])) (hg:W.grownBy w' (some gs)) :
  qI3 (w.heap.size+2) [.int .i64 0,.int .i64 0,.int .i64 0,.slice none 0 0,.slice none 0 0] w'∧Below w.heap.size w w'∧w'.heap[q]? = some (.cells #[.int .i64 r.i,.int .i64 r.u,.slice (some ⟨gs,0,none⟩) r.sn sc,.slice la ls.length lc] 33 (0,0))∧qA1 w' (w.heap.size+3) (.slice la ls.length lc) ls:=by
 obtain ⟨cur,hc,hgs⟩:=qD1 h.so (g:=gs) rfl
 have hq:gs≠q:=qK8 hc h.ob (by decide)
 refine ⟨qW5 h.ev.rs h.ev.lt hg (by omega),h.ev.bl.grown hg (Nat.le_trans h.ev.bl.size (Nat.le_refl _)) (fun k e=>by cases e;omega),(hg.block q h.qlt (by intro e;cases e;exact hq rfl)).trans h.ob,qA0 h.lo (fun g e=>?_)⟩
 obtain ⟨cur2,hc2,_⟩:=qC6 h.lo e
 exact hg.block g (Array.getElem?_eq_some_iff.1 hc2).1 (by intro e2;cases e2;exact qK8 hc2 hc (by decide) rfl)
theorem QH8 (W:World) (x:StI) (t:TypeId):qK9 (W.alloc (.cells #[.int .i64 x.k,.int .i64 x.e,.int .i64 x.f,.int .i64 x.s,.int .i64 x.n] t)) (some ⟨W.heap.size,0,none⟩) 1 [x] :=
 ⟨rfl,fun _=>⟨_,0,rfl,fun k y e=>by
  match k,e with
  | 0,e=>cases e;exact qS7.new W x t⟩⟩
def EndS (r:qF4) (k:Int) (S:List StI) (L:List LkI) (w:World) (d:Ending) (w':World):Prop :=
 Below w.heap.size w w'∧(k≠0→d = .returned (.agg #[.int .i64 k,.int .i64 0,.int .i64 0,.slice none 0 0,.slice none 0 0]))∧(k=0→∃ (sa:Option Addr) (sc:Nat) (la:Option Addr) (lc:Nat),d = .returned (.agg #[.int .i64 0,.int .i64 r.i,.int .i64 r.u,.slice sa S.length sc,.slice la L.length lc])∧qB1 w' w.heap.size (.slice sa S.length sc) S∧qA1 w' w.heap.size (.slice la L.length lc) L)

theorem qP5 (W:World) (o:Obj):(W.alloc o).heap[W.heap.size]? = some o:=by
 show (W.heap.push o)[W.heap.size]? = _
 simp
theorem l8End_fault (E:qH0) (r:qF4) (a:Option Addr) (m cap:Nat) (cs:List qA3) (x:StI) (w:World) (hr:qD9 w r) (hN:qL0 r) (hsm:∀ p,r.la=some p→∃ b0 o0,p=⟨b0,o0,none⟩∧b0 < w.heap.size) (hc:qA6 w a m cs) (hEC:qN0 E cs) (hm:0 < m) (hm8:m≤8) (hRp:RpS E r.ss r.ls) (k:Int) (hst:qC4 x=k) (hk0:k≠0) :
  Calls Tryz.prog 49 #[.agg #[.int .i64 r.i,.int .i64 r.u,.slice r.sa r.sn r.sc,.slice r.la r.ln r.lc],.slice a m cap,.agg #[.int .i64 x.k,.int .i64 x.e,.int .i64 x.f,.int .i64 x.s,.int .i64 x.n]] w fun d w'=>EndS r k [] [] w d w':=by
 have hsl:r.ss.length=r.sn:=hr.said.1
 have hll:r.ls.length=r.ln:=hr.locks.1
 have hs40:r.sn≤40:=by have:=hRp.len;omega
 have hl200:r.ln≤200:=by have:=(QF6 hRp.lk).1;omega
 have hs40':(r.sn:Int)≤40:=by omega
 have HR:Hid (∀ W,Below w.heap.size w W→qD9 W r∧qA6 W a m cs∧(∀ p,r.la=some p→∃ b0 o0,p=⟨b0,o0,none⟩∧b0 < W.heap.size)):=fun W hb=>⟨hr.below hb,hc.below hb,fun p e=>by obtain ⟨b0,o0,q,hl⟩:=hsm p e;exact ⟨b0,o0,q,Nat.lt_of_lt_of_le hl hb.size⟩⟩
 have HSL:Hid (r.ss.length=r.sn∧r.ls.length=r.ln):=⟨hsl,hll⟩
 have HN:Hid (qL0 r):=hN
 have HEC:Hid (qN0 E cs):=hEC
 have HRP:Hid (RpS E r.ss r.ls):=hRp
 have HF:Hid (∀ W,qS7 W (w.heap.size+1) 0 x→Calls Tryz.prog 74 #[.pointer (some ⟨w.heap.size+1,0,none⟩)] W fun e w'=>e = .returned (.int .i64 k)∧W=w'):=fun W q=>by rw [← hst];exact qN5 _ _ x W q
 obtain ⟨V,hV⟩:∃ V,V=((w.alloc (.cells #[.int .i64 r.i,.int .i64 r.u,.slice r.sa r.sn r.sc,.slice r.la r.ln r.lc] 33)).alloc (.cells #[.int .i64 x.k,.int .i64 x.e,.int .i64 x.f,.int .i64 x.s,.int .i64 x.n] 43)).alloc (.cells #[.int .i64 0,.int .i64 0,.int .i64 0,.slice none 0 0,.slice none 0 0] 47):=⟨_,rfl⟩
 have V0:Hid (EV w r x V):=by show EV w r x V;rw [hV];exact EV.new w r x
 have kb:(k != 0)=true:=by simp [hk0]
 clear hr hN hsm hc hEC hRp hsl hll hst
 go_enter Tryz.func49,Tryz.ntmps49
 go_upto_region 1 with fail
 rw [← hV]
 clear hV
 go_wp2_with fail
 refine (HF.out _ V0.out.xa).mono ?_
 rintro d w1 ⟨rfl,rfl⟩
 have z0:=V0.out.rs.1 0 _ rfl
 have z1:=V0.out.rs.1 1 _ rfl
 have z2:=V0.out.rs.1 2 _ rfl
 have z3:=V0.out.rs.1 3 _ rfl
 have z4:=V0.out.rs.1 4 _ rfl
 have f0:=V0.out.rs.2 0
 have f1:=V0.out.rs.2 1
 have f2:=V0.out.rs.2 2
 have f3:=V0.out.rs.2 3
 have f4:=V0.out.rs.2 4
 have hzl:=V0.out.lt
 go_wp2_with fail
 refine bodyPost_ret (v:=.agg #[.int .i64 k,.int .i64 0,.int .i64 0,.slice none 0 0,.slice none 0 0]) (by simp [results,Tryz.results49,go_sem,z0,z1,z2,z3,z4,hzl]) rfl ?_
 exact ⟨(((((V0.out.bl.setCell (by show w.heap.size≤w.heap.size+2;omega) _).setCell (by show w.heap.size≤w.heap.size+2;omega) _).setCell (by show w.heap.size≤w.heap.size+2;omega) _).setCell (by show w.heap.size≤w.heap.size+2;omega) _).setCell (by show w.heap.size≤w.heap.size+2;omega) _),fun _=>rfl,fun q=>absurd q (by first | assumption | decide)⟩
theorem l8End_said (E:qH0) (r:qF4) (a:Option Addr) (m cap:Nat) (cs:List qA3) (x:StI) (w:World) (hr:qD9 w r) (hN:qL0 r) (hsm:∀ p,r.la=some p→∃ b0 o0,p=⟨b0,o0,none⟩∧b0 < w.heap.size) (hc:qA6 w a m cs) (hEC:qN0 E cs) (hm:0 < m) (hm8:m≤8) (hRp:RpS E r.ss r.ls) (hst:qC4 x=0) (hsx:qD7 r.ss x=true) :
  Calls Tryz.prog 49 #[.agg #[.int .i64 r.i,.int .i64 r.u,.slice r.sa r.sn r.sc,.slice r.la r.ln r.lc],.slice a m cap,.agg #[.int .i64 x.k,.int .i64 x.e,.int .i64 x.f,.int .i64 x.s,.int .i64 x.n]] w fun d w'=>EndS r 0 r.ss r.ls w d w':=by
 have hsl:r.ss.length=r.sn:=hr.said.1
 have hll:r.ls.length=r.ln:=hr.locks.1
 have hs40:r.sn≤40:=by have:=hRp.len;omega
 have hl200:r.ln≤200:=by have:=(QF6 hRp.lk).1;omega
 have hs40':(r.sn:Int)≤40:=by omega
 have HR:Hid (∀ W,Below w.heap.size w W→qD9 W r∧qA6 W a m cs∧(∀ p,r.la=some p→∃ b0 o0,p=⟨b0,o0,none⟩∧b0 < W.heap.size)):=fun W hb=>⟨hr.below hb,hc.below hb,fun p e=>by obtain ⟨b0,o0,q,hl⟩:=hsm p e;exact ⟨b0,o0,q,Nat.lt_of_lt_of_le hl hb.size⟩⟩
 have HSL:Hid (r.ss.length=r.sn∧r.ls.length=r.ln):=⟨hsl,hll⟩
 have HN:Hid (qL0 r):=hN
 have HEC:Hid (qN0 E cs):=hEC
 have HRP:Hid (RpS E r.ss r.ls):=hRp
 have HF:Hid (∀ W,qS7 W (w.heap.size+1) 0 x→Calls Tryz.prog 74 #[.pointer (some ⟨w.heap.size+1,0,none⟩)] W fun e w'=>e = .returned (.int .i64 0)∧W=w'):=fun W q=>by rw [← hst];exact qN5 _ _ x W q
 obtain ⟨V,hV⟩:∃ V,V=((w.alloc (.cells #[.int .i64 r.i,.int .i64 r.u,.slice r.sa r.sn r.sc,.slice r.la r.ln r.lc] 33)).alloc (.cells #[.int .i64 x.k,.int .i64 x.e,.int .i64 x.f,.int .i64 x.s,.int .i64 x.n] 43)).alloc (.cells #[.int .i64 0,.int .i64 0,.int .i64 0,.slice none 0 0,.slice none 0 0] 47):=⟨_,rfl⟩
 have V0:Hid (EV w r x V):=by show EV w r x V;rw [hV];exact EV.new w r x
 have HSD:Hid (∀ W,EV w r x W→Calls Tryz.prog 75 #[.pointer (some ⟨w.heap.size,0,none⟩),.agg #[.int .i64 x.k,.int .i64 x.e,.int .i64 x.f,.int .i64 x.s,.int .i64 x.n]] W fun d w'=>d = .returned (.bool true)∧Below W.heap.size W w'):=fun W q=>by rw [← hsx];exact qM1 _ r x W q.rb (HR.out _ q.bl).1.said (by omega)
 clear hsx
 clear hr hN hsm hc hEC hRp hsl hll hst
 go_enter Tryz.func49,Tryz.ntmps49
 go_upto_region 1 with fail
 rw [← hV]
 clear hV
 go_wp2_with fail
 refine (HF.out _ V0.out.xa).mono ?_
 rintro d w1 ⟨rfl,rfl⟩
 have a0:=V0.out.rb.1
 have a1:=V0.out.rb.2.1
 have a2:=V0.out.rb.2.2.1
 have a3:=V0.out.rb.2.2.2
 have hvl:w.heap.size < V.heap.size:=by have:=V0.out.lt;omega
 have HCP:=qT7 r V (HR.out _ V0.out.bl).1 HN.out (by omega) (by omega)
 go_wp2_with fail
 refine HCP.mono ?_
 clear HCP
 rintro d w2 ⟨gs,sc,gl,lc,rfl,ho1,ho2,hb2⟩
 obtain ⟨Y,hY⟩:∃ Y,Y=w2.alloc (.cells #[.int .i64 r.i,.int .i64 r.u,.slice (some ⟨gs,0,none⟩) r.sn sc,.slice (some ⟨gl,0,none⟩) r.ln lc] 33):=⟨_,rfl⟩
 have AY:Below w2.heap.size w2 Y:=by rw [hY];exact zN
 have hvl3:=V0.out.lt
 have hs2:=hb2.size
 have O1:Hid (OX w r x w2.heap.size gs sc (some ⟨gl,0,none⟩) lc r.ls Y):=by
  refine ⟨(V0.out.below hb2).below AY,?_,qC0 (ho1.below AY) (by omega),?_,by omega⟩
  ·rw [hY,HSL.out.2]
   exact qP5 w2 _
  ·rw [HSL.out.2]
   exact qB0 (ho2.below AY) (by omega)
 have hq2:w.heap.size+2 < w2.heap.size:=by omega
 clear a0 a1 a2 a3 hvl hvl3 hs2 ho1 ho2 hb2 AY V0
 go_upto_region 5 with fail
 rw [← hY]
 clear hY
 generalize w2.heap.size=q at O1 hq2 ⊢
 obtain ⟨x0,x1,x2,x3,x4⟩:=O1.out.ev.xa
 simp only [Nat.zero_add] at x0 x1 x2 x3 x4
 have hxl:w.heap.size+1 < _:=Nat.lt_of_succ_lt O1.out.ev.lt
 go_wp2_with fail
 refine (HSD.out _ O1.out.ev).mono ?_
 rintro d w3 ⟨rfl,hb3⟩
 have O3:=qC2 (O1.out.below hb3)
 clear hb3 O1
 clear x0 x1 x2 x3 x4 hxl
 have o0:=qA9 O3.out.ob 0
 have o1:=qA9 O3.out.ob 1
 have o2:=qA9 O3.out.ob 2
 have o3:=qA9 O3.out.ob 3
 simp at o0 o1 o2 o3
 have hql:=O3.out.qlt
 have z0:=O3.out.ev.rs.1 0 _ rfl
 have z1:=O3.out.ev.rs.1 1 _ rfl
 have z2:=O3.out.ev.rs.1 2 _ rfl
 have z3:=O3.out.ev.rs.1 3 _ rfl
 have z4:=O3.out.ev.rs.1 4 _ rfl
 have f0:=O3.out.ev.rs.2 0
 have f1:=O3.out.ev.rs.2 1
 have f2:=O3.out.ev.rs.2 2
 have f3:=O3.out.ev.rs.2 3
 have f4:=O3.out.ev.rs.2 4
 have hzl:=O3.out.ev.lt
 have hqn:w.heap.size+2≠q:=by omega
 go_wp2_with fail
 refine bodyPost_ret (v:=.agg #[.int .i64 0,.int .i64 r.i,.int .i64 r.u,.slice (some ⟨gs,0,none⟩) r.sn sc,.slice (some ⟨gl,0,none⟩) r.ls.length lc]) (by simp [results,Tryz.results49,go_sem,z0,z1,z2,z3,z4,hzl]) rfl ?_
 refine ⟨(((((O3.out.ev.bl.setCell (by show w.heap.size≤w.heap.size+2;omega) _).setCell (by show w.heap.size≤w.heap.size+2;omega) _).setCell (by show w.heap.size≤w.heap.size+2;omega) _).setCell (by show w.heap.size≤w.heap.size+2;omega) _).setCell (by show w.heap.size≤w.heap.size+2;omega) _),fun q=>absurd rfl q,fun _=>?_⟩
 rw [HSL.out.1]
 refine ⟨some ⟨gs,0,none⟩,sc,some ⟨gl,0,none⟩,lc,rfl,qC0 (qA0 O3.out.so (fun g e=>?_)) (by omega),qB0 (qA0 O3.out.lo (fun g e=>?_)) (by omega)⟩
 ·obtain ⟨cur,hcc,hgg⟩:=qD1 O3.out.so e
  rw [Below.heap_setCell _ _ _ _ (by show g≠w.heap.size+2;omega),Below.heap_setCell _ _ _ _ (by show g≠w.heap.size+2;omega),Below.heap_setCell _ _ _ _ (by show g≠w.heap.size+2;omega),Below.heap_setCell _ _ _ _ (by show g≠w.heap.size+2;omega),Below.heap_setCell _ _ _ _ (by show g≠w.heap.size+2;omega)]
 ·obtain ⟨cur,hcc,hgg⟩:=qC6 O3.out.lo e
  rw [Below.heap_setCell _ _ _ _ (by show g≠w.heap.size+2;omega),Below.heap_setCell _ _ _ _ (by show g≠w.heap.size+2;omega),Below.heap_setCell _ _ _ _ (by show g≠w.heap.size+2;omega),Below.heap_setCell _ _ _ _ (by show g≠w.heap.size+2;omega),Below.heap_setCell _ _ _ _ (by show g≠w.heap.size+2;omega)]
theorem l8End_none (E:qH0) (r:qF4) (a:Option Addr) (m cap:Nat) (cs:List qA3) (x:StI) (w:World) (hr:qD9 w r) (hN:qL0 r) (hsm:∀ p,r.la=some p→∃ b0 o0,p=⟨b0,o0,none⟩∧b0 < w.heap.size) (hc:qA6 w a m cs) (hEC:qN0 E cs) (hm:0 < m) (hm8:m≤8) (hRp:RpS E r.ss r.ls) (hst:qC4 x=0) (hsx:qD7 r.ss x=false) (hneg:qB4 E r.ss x.e < 0) :
  Calls Tryz.prog 49 #[.agg #[.int .i64 r.i,.int .i64 r.u,.slice r.sa r.sn r.sc,.slice r.la r.ln r.lc],.slice a m cap,.agg #[.int .i64 x.k,.int .i64 x.e,.int .i64 x.f,.int .i64 x.s,.int .i64 x.n]] w fun d w'=>EndS r 4 [] [] w d w':=by
 have hsl:r.ss.length=r.sn:=hr.said.1
 have hll:r.ls.length=r.ln:=hr.locks.1
 have hs40:r.sn≤40:=by have:=hRp.len;omega
 have hl200:r.ln≤200:=by have:=(QF6 hRp.lk).1;omega
 have hs40':(r.sn:Int)≤40:=by omega
 have HR:Hid (∀ W,Below w.heap.size w W→qD9 W r∧qA6 W a m cs∧(∀ p,r.la=some p→∃ b0 o0,p=⟨b0,o0,none⟩∧b0 < W.heap.size)):=fun W hb=>⟨hr.below hb,hc.below hb,fun p e=>by obtain ⟨b0,o0,q,hl⟩:=hsm p e;exact ⟨b0,o0,q,Nat.lt_of_lt_of_le hl hb.size⟩⟩
 have HSL:Hid (r.ss.length=r.sn∧r.ls.length=r.ln):=⟨hsl,hll⟩
 have HN:Hid (qL0 r):=hN
 have HEC:Hid (qN0 E cs):=hEC
 have HRP:Hid (RpS E r.ss r.ls):=hRp
 have HF:Hid (∀ W,qS7 W (w.heap.size+1) 0 x→Calls Tryz.prog 74 #[.pointer (some ⟨w.heap.size+1,0,none⟩)] W fun e w'=>e = .returned (.int .i64 0)∧W=w'):=fun W q=>by rw [← hst];exact qN5 _ _ x W q
 obtain ⟨V,hV⟩:∃ V,V=((w.alloc (.cells #[.int .i64 r.i,.int .i64 r.u,.slice r.sa r.sn r.sc,.slice r.la r.ln r.lc] 33)).alloc (.cells #[.int .i64 x.k,.int .i64 x.e,.int .i64 x.f,.int .i64 x.s,.int .i64 x.n] 43)).alloc (.cells #[.int .i64 0,.int .i64 0,.int .i64 0,.slice none 0 0,.slice none 0 0] 47):=⟨_,rfl⟩
 have V0:Hid (EV w r x V):=by show EV w r x V;rw [hV];exact EV.new w r x
 obtain ⟨⟨hk1,hk2⟩,⟨he1,he2⟩,⟨hn1,hn2⟩,_⟩:=qH9 hst
 have HSD:Hid (∀ W,EV w r x W→Calls Tryz.prog 75 #[.pointer (some ⟨w.heap.size,0,none⟩),.agg #[.int .i64 x.k,.int .i64 x.e,.int .i64 x.f,.int .i64 x.s,.int .i64 x.n]] W fun d w'=>d = .returned (.bool false)∧Below W.heap.size W w'):=fun W q=>by rw [← hsx];exact qM1 _ r x W q.rb (HR.out _ q.bl).1.said (by omega)
 have HOF:Hid (∀ W,EV w r x W→Calls Tryz.prog 76 #[.pointer (some ⟨w.heap.size,0,none⟩),.slice a m cap,.int .i64 x.e] W fun d w'=>d = .returned (.int .i64 (qB4 E r.ss x.e))∧Below W.heap.size W w'):=fun W q=>QM3 E _ r a m cap cs x.e W HEC.out.es q.rb (HR.out _ q.bl).1.said (by omega) (HR.out _ q.bl).2.1 hm hm8 ⟨he1,he2⟩
 clear hsx
 clear hr hN hsm hc hEC hRp hsl hll hst
 go_enter Tryz.func49,Tryz.ntmps49
 go_upto_region 1 with fail
 rw [← hV]
 clear hV
 go_wp2_with fail
 refine (HF.out _ V0.out.xa).mono ?_
 rintro d w1 ⟨rfl,rfl⟩
 have a0:=V0.out.rb.1
 have a1:=V0.out.rb.2.1
 have a2:=V0.out.rb.2.2.1
 have a3:=V0.out.rb.2.2.2
 have hvl:w.heap.size < V.heap.size:=by have:=V0.out.lt;omega
 have HCP:=qT7 r V (HR.out _ V0.out.bl).1 HN.out (by omega) (by omega)
 go_wp2_with fail
 refine HCP.mono ?_
 clear HCP
 rintro d w2 ⟨gs,sc,gl,lc,rfl,ho1,ho2,hb2⟩
 obtain ⟨Y,hY⟩:∃ Y,Y=w2.alloc (.cells #[.int .i64 r.i,.int .i64 r.u,.slice (some ⟨gs,0,none⟩) r.sn sc,.slice (some ⟨gl,0,none⟩) r.ln lc] 33):=⟨_,rfl⟩
 have AY:Below w2.heap.size w2 Y:=by rw [hY];exact zN
 have hvl3:=V0.out.lt
 have hs2:=hb2.size
 have O1:Hid (OX w r x w2.heap.size gs sc (some ⟨gl,0,none⟩) lc r.ls Y):=by
  refine ⟨(V0.out.below hb2).below AY,?_,qC0 (ho1.below AY) (by omega),?_,by omega⟩
  ·rw [hY,HSL.out.2]
   exact qP5 w2 _
  ·rw [HSL.out.2]
   exact qB0 (ho2.below AY) (by omega)
 have hq2:w.heap.size+2 < w2.heap.size:=by omega
 clear a0 a1 a2 a3 hvl hvl3 hs2 ho1 ho2 hb2 AY V0
 go_upto_region 5 with fail
 rw [← hY]
 clear hY
 generalize w2.heap.size=q at O1 hq2 ⊢
 obtain ⟨x0,x1,x2,x3,x4⟩:=O1.out.ev.xa
 simp only [Nat.zero_add] at x0 x1 x2 x3 x4
 have hxl:w.heap.size+1 < _:=Nat.lt_of_succ_lt O1.out.ev.lt
 go_wp2_with fail
 refine (HSD.out _ O1.out.ev).mono ?_
 rintro d w3 ⟨rfl,hb3⟩
 have O3:=qC2 (O1.out.below hb3)
 clear hb3 O1
 clear x0 x1 x2 x3 x4 hxl
 obtain ⟨x0,x1,x2,x3,x4⟩:=O3.out.ev.xa
 simp only [Nat.zero_add] at x0 x1 x2 x3 x4
 have hxl:w.heap.size+1 < _:=Nat.lt_of_succ_lt O3.out.ev.lt
 go_wp2_with fail
 refine (HOF.out _ O3.out.ev).mono ?_
 rintro d w4 ⟨rfl,hb4⟩
 have O4:=qC2 (O3.out.below hb4)
 clear hb4 O3
 clear x0 x1 x2 x3 x4 hxl
 have z0:=O4.out.ev.rs.1 0 _ rfl
 have z1:=O4.out.ev.rs.1 1 _ rfl
 have z2:=O4.out.ev.rs.1 2 _ rfl
 have z3:=O4.out.ev.rs.1 3 _ rfl
 have z4:=O4.out.ev.rs.1 4 _ rfl
 have f0:=O4.out.ev.rs.2 0
 have f1:=O4.out.ev.rs.2 1
 have f2:=O4.out.ev.rs.2 2
 have f3:=O4.out.ev.rs.2 3
 have f4:=O4.out.ev.rs.2 4
 have hzl:=O4.out.ev.lt
 go_wp2_with fail
 refine bodyPost_ret (v:=.agg #[.int .i64 4,.int .i64 0,.int .i64 0,.slice none 0 0,.slice none 0 0]) (by simp [results,Tryz.results49,go_sem,z0,z1,z2,z3,z4,hzl]) rfl ?_
 exact ⟨(((((O4.out.ev.bl.setCell (by show w.heap.size≤w.heap.size+2;omega) _).setCell (by show w.heap.size≤w.heap.size+2;omega) _).setCell (by show w.heap.size≤w.heap.size+2;omega) _).setCell (by show w.heap.size≤w.heap.size+2;omega) _).setCell (by show w.heap.size≤w.heap.size+2;omega) _),fun _=>rfl,fun q=>absurd q (by first | assumption | decide)⟩
theorem l8End_many (E:qH0) (r:qF4) (a:Option Addr) (m cap:Nat) (cs:List qA3) (x:StI) (w:World) (hr:qD9 w r) (hN:qL0 r) (hsm:∀ p,r.la=some p→∃ b0 o0,p=⟨b0,o0,none⟩∧b0 < w.heap.size) (hc:qA6 w a m cs) (hEC:qN0 E cs) (hm:0 < m) (hm8:m≤8) (hRp:RpS E r.ss r.ls) (hst:qC4 x=0) (hsx:qD7 r.ss x=false) (hp0:0≤qB4 E r.ss x.e) (h40:40≤r.sn) :
  Calls Tryz.prog 49 #[.agg #[.int .i64 r.i,.int .i64 r.u,.slice r.sa r.sn r.sc,.slice r.la r.ln r.lc],.slice a m cap,.agg #[.int .i64 x.k,.int .i64 x.e,.int .i64 x.f,.int .i64 x.s,.int .i64 x.n]] w fun d w'=>EndS r 2 [] [] w d w':=by
 have hsl:r.ss.length=r.sn:=hr.said.1
 have hll:r.ls.length=r.ln:=hr.locks.1
 have hs40:r.sn≤40:=by have:=hRp.len;omega
 have hl200:r.ln≤200:=by have:=(QF6 hRp.lk).1;omega
 have hs40':(r.sn:Int)≤40:=by omega
 have HR:Hid (∀ W,Below w.heap.size w W→qD9 W r∧qA6 W a m cs∧(∀ p,r.la=some p→∃ b0 o0,p=⟨b0,o0,none⟩∧b0 < W.heap.size)):=fun W hb=>⟨hr.below hb,hc.below hb,fun p e=>by obtain ⟨b0,o0,q,hl⟩:=hsm p e;exact ⟨b0,o0,q,Nat.lt_of_lt_of_le hl hb.size⟩⟩
 have HSL:Hid (r.ss.length=r.sn∧r.ls.length=r.ln):=⟨hsl,hll⟩
 have HN:Hid (qL0 r):=hN
 have HEC:Hid (qN0 E cs):=hEC
 have HRP:Hid (RpS E r.ss r.ls):=hRp
 have HF:Hid (∀ W,qS7 W (w.heap.size+1) 0 x→Calls Tryz.prog 74 #[.pointer (some ⟨w.heap.size+1,0,none⟩)] W fun e w'=>e = .returned (.int .i64 0)∧W=w'):=fun W q=>by rw [← hst];exact qN5 _ _ x W q
 obtain ⟨V,hV⟩:∃ V,V=((w.alloc (.cells #[.int .i64 r.i,.int .i64 r.u,.slice r.sa r.sn r.sc,.slice r.la r.ln r.lc] 33)).alloc (.cells #[.int .i64 x.k,.int .i64 x.e,.int .i64 x.f,.int .i64 x.s,.int .i64 x.n] 43)).alloc (.cells #[.int .i64 0,.int .i64 0,.int .i64 0,.slice none 0 0,.slice none 0 0] 47):=⟨_,rfl⟩
 have V0:Hid (EV w r x V):=by show EV w r x V;rw [hV];exact EV.new w r x
 obtain ⟨⟨hk1,hk2⟩,⟨he1,he2⟩,⟨hn1,hn2⟩,_⟩:=qH9 hst
 have HSD:Hid (∀ W,EV w r x W→Calls Tryz.prog 75 #[.pointer (some ⟨w.heap.size,0,none⟩),.agg #[.int .i64 x.k,.int .i64 x.e,.int .i64 x.f,.int .i64 x.s,.int .i64 x.n]] W fun d w'=>d = .returned (.bool false)∧Below W.heap.size W w'):=fun W q=>by rw [← hsx];exact qM1 _ r x W q.rb (HR.out _ q.bl).1.said (by omega)
 have HOF:Hid (∀ W,EV w r x W→Calls Tryz.prog 76 #[.pointer (some ⟨w.heap.size,0,none⟩),.slice a m cap,.int .i64 x.e] W fun d w'=>d = .returned (.int .i64 (qB4 E r.ss x.e))∧Below W.heap.size W w'):=fun W q=>QM3 E _ r a m cap cs x.e W HEC.out.es q.rb (HR.out _ q.bl).1.said (by omega) (HR.out _ q.bl).2.1 hm hm8 ⟨he1,he2⟩
 have h40':(40:Int)≤(r.sn:Int):=by omega
 clear hsx
 clear hr hN hsm hc hEC hRp hsl hll hst
 go_enter Tryz.func49,Tryz.ntmps49
 go_upto_region 1 with fail
 rw [← hV]
 clear hV
 go_wp2_with fail
 refine (HF.out _ V0.out.xa).mono ?_
 rintro d w1 ⟨rfl,rfl⟩
 have a0:=V0.out.rb.1
 have a1:=V0.out.rb.2.1
 have a2:=V0.out.rb.2.2.1
 have a3:=V0.out.rb.2.2.2
 have hvl:w.heap.size < V.heap.size:=by have:=V0.out.lt;omega
 have HCP:=qT7 r V (HR.out _ V0.out.bl).1 HN.out (by omega) (by omega)
 go_wp2_with fail
 refine HCP.mono ?_
 clear HCP
 rintro d w2 ⟨gs,sc,gl,lc,rfl,ho1,ho2,hb2⟩
 obtain ⟨Y,hY⟩:∃ Y,Y=w2.alloc (.cells #[.int .i64 r.i,.int .i64 r.u,.slice (some ⟨gs,0,none⟩) r.sn sc,.slice (some ⟨gl,0,none⟩) r.ln lc] 33):=⟨_,rfl⟩
 have AY:Below w2.heap.size w2 Y:=by rw [hY];exact zN
 have hvl3:=V0.out.lt
 have hs2:=hb2.size
 have O1:Hid (OX w r x w2.heap.size gs sc (some ⟨gl,0,none⟩) lc r.ls Y):=by
  refine ⟨(V0.out.below hb2).below AY,?_,qC0 (ho1.below AY) (by omega),?_,by omega⟩
  ·rw [hY,HSL.out.2]
   exact qP5 w2 _
  ·rw [HSL.out.2]
   exact qB0 (ho2.below AY) (by omega)
 have hq2:w.heap.size+2 < w2.heap.size:=by omega
 clear a0 a1 a2 a3 hvl hvl3 hs2 ho1 ho2 hb2 AY V0
 go_upto_region 5 with fail
 rw [← hY]
 clear hY
 generalize w2.heap.size=q at O1 hq2 ⊢
 obtain ⟨x0,x1,x2,x3,x4⟩:=O1.out.ev.xa
 simp only [Nat.zero_add] at x0 x1 x2 x3 x4
 have hxl:w.heap.size+1 < _:=Nat.lt_of_succ_lt O1.out.ev.lt
 go_wp2_with fail
 refine (HSD.out _ O1.out.ev).mono ?_
 rintro d w3 ⟨rfl,hb3⟩
 have O3:=qC2 (O1.out.below hb3)
 clear hb3 O1
 clear x0 x1 x2 x3 x4 hxl
 obtain ⟨x0,x1,x2,x3,x4⟩:=O3.out.ev.xa
 simp only [Nat.zero_add] at x0 x1 x2 x3 x4
 have hxl:w.heap.size+1 < _:=Nat.lt_of_succ_lt O3.out.ev.lt
 go_wp2_with fail
 refine (HOF.out _ O3.out.ev).mono ?_
 rintro d w4 ⟨rfl,hb4⟩
 have O4:=qC2 (O3.out.below hb4)
 clear hb4 O3
 clear x0 x1 x2 x3 x4 hxl
 have a2:=O4.out.ev.rb.2.2.1
 have hal:w.heap.size < w4.heap.size:=by have:=O4.out.ev.lt;omega
 obtain ⟨x0,x1,x2,x3,x4⟩:=O4.out.ev.xa
 simp only [Nat.zero_add] at x0 x1 x2 x3 x4
 have hxl:w.heap.size+1 < _:=Nat.lt_of_succ_lt O4.out.ev.lt
 have z0:=O4.out.ev.rs.1 0 _ rfl
 have z1:=O4.out.ev.rs.1 1 _ rfl
 have z2:=O4.out.ev.rs.1 2 _ rfl
 have z3:=O4.out.ev.rs.1 3 _ rfl
 have z4:=O4.out.ev.rs.1 4 _ rfl
 have f0:=O4.out.ev.rs.2 0
 have f1:=O4.out.ev.rs.2 1
 have f2:=O4.out.ev.rs.2 2
 have f3:=O4.out.ev.rs.2 3
 have f4:=O4.out.ev.rs.2 4
 have hzl:=O4.out.ev.lt
 go_wp2_with fail
 refine bodyPost_ret (v:=.agg #[.int .i64 2,.int .i64 0,.int .i64 0,.slice none 0 0,.slice none 0 0]) (by simp [results,Tryz.results49,go_sem,z0,z1,z2,z3,z4,hzl]) rfl ?_
 exact ⟨(((((O4.out.ev.bl.setCell (by show w.heap.size≤w.heap.size+2;omega) _).setCell (by show w.heap.size≤w.heap.size+2;omega) _).setCell (by show w.heap.size≤w.heap.size+2;omega) _).setCell (by show w.heap.size≤w.heap.size+2;omega) _).setCell (by show w.heap.size≤w.heap.size+2;omega) _),fun _=>rfl,fun q=>absurd q (by first | assumption | decide)⟩
theorem l8End_revoke (E:qH0) (r:qF4) (a:Option Addr) (m cap:Nat) (cs:List qA3) (x:StI) (w:World) (hr:qD9 w r) (hN:qL0 r) (hsm:∀ p,r.la=some p→∃ b0 o0,p=⟨b0,o0,none⟩∧b0 < w.heap.size) (hc:qA6 w a m cs) (hEC:qN0 E cs) (hm:0 < m) (hm8:m≤8) (hRp:RpS E r.ss r.ls) (hst:qC4 x=0) (hsx:qD7 r.ss x=false) (hp0:0≤qB4 E r.ss x.e) (h40:r.sn < 40) (hk2':x.k=2) (S:List StI) (hS:r.ss++[x]=S) :
  Calls Tryz.prog 49 #[.agg #[.int .i64 r.i,.int .i64 r.u,.slice r.sa r.sn r.sc,.slice r.la r.ln r.lc],.slice a m cap,.agg #[.int .i64 x.k,.int .i64 x.e,.int .i64 x.f,.int .i64 x.s,.int .i64 x.n]] w fun d w'=>EndS r 0 S r.ls w d w':=by
 have hsl:r.ss.length=r.sn:=hr.said.1
 have hll:r.ls.length=r.ln:=hr.locks.1
 have hs40:r.sn≤40:=by have:=hRp.len;omega
 have hl200:r.ln≤200:=by have:=(QF6 hRp.lk).1;omega
 have hs40':(r.sn:Int)≤40:=by omega
 have HR:Hid (∀ W,Below w.heap.size w W→qD9 W r∧qA6 W a m cs∧(∀ p,r.la=some p→∃ b0 o0,p=⟨b0,o0,none⟩∧b0 < W.heap.size)):=fun W hb=>⟨hr.below hb,hc.below hb,fun p e=>by obtain ⟨b0,o0,q,hl⟩:=hsm p e;exact ⟨b0,o0,q,Nat.lt_of_lt_of_le hl hb.size⟩⟩
 have HSL:Hid (r.ss.length=r.sn∧r.ls.length=r.ln):=⟨hsl,hll⟩
 have HN:Hid (qL0 r):=hN
 have HEC:Hid (qN0 E cs):=hEC
 have HRP:Hid (RpS E r.ss r.ls):=hRp
 have HF:Hid (∀ W,qS7 W (w.heap.size+1) 0 x→Calls Tryz.prog 74 #[.pointer (some ⟨w.heap.size+1,0,none⟩)] W fun e w'=>e = .returned (.int .i64 0)∧W=w'):=fun W q=>by rw [← hst];exact qN5 _ _ x W q
 obtain ⟨V,hV⟩:∃ V,V=((w.alloc (.cells #[.int .i64 r.i,.int .i64 r.u,.slice r.sa r.sn r.sc,.slice r.la r.ln r.lc] 33)).alloc (.cells #[.int .i64 x.k,.int .i64 x.e,.int .i64 x.f,.int .i64 x.s,.int .i64 x.n] 43)).alloc (.cells #[.int .i64 0,.int .i64 0,.int .i64 0,.slice none 0 0,.slice none 0 0] 47):=⟨_,rfl⟩
 have V0:Hid (EV w r x V):=by show EV w r x V;rw [hV];exact EV.new w r x
 obtain ⟨⟨hk1,hk2⟩,⟨he1,he2⟩,⟨hn1,hn2⟩,_⟩:=qH9 hst
 have HSD:Hid (∀ W,EV w r x W→Calls Tryz.prog 75 #[.pointer (some ⟨w.heap.size,0,none⟩),.agg #[.int .i64 x.k,.int .i64 x.e,.int .i64 x.f,.int .i64 x.s,.int .i64 x.n]] W fun d w'=>d = .returned (.bool false)∧Below W.heap.size W w'):=fun W q=>by rw [← hsx];exact qM1 _ r x W q.rb (HR.out _ q.bl).1.said (by omega)
 have HOF:Hid (∀ W,EV w r x W→Calls Tryz.prog 76 #[.pointer (some ⟨w.heap.size,0,none⟩),.slice a m cap,.int .i64 x.e] W fun d w'=>d = .returned (.int .i64 (qB4 E r.ss x.e))∧Below W.heap.size W w'):=fun W q=>QM3 E _ r a m cap cs x.e W HEC.out.es q.rb (HR.out _ q.bl).1.said (by omega) (HR.out _ q.bl).2.1 hm hm8 ⟨he1,he2⟩
 have h40':(r.sn:Int) < 40:=by omega
 have k1:(x.k==1)=false:=by simp [hk2']
 have k3:(x.k==3)=false:=by simp [hk2']
 have k4:(x.k==4)=false:=by simp [hk2']
 clear hsx hk2'
 have HS:Hid (r.ss++[x]=S):=hS
 clear hS
 obtain ⟨i0,hi,hz0,hz1,hz2⟩:=info_parts Tryz.info43
 clear hr hN hsm hc hEC hRp hsl hll hst
 go_enter Tryz.func49,Tryz.ntmps49
 go_upto_region 1 with fail
 rw [← hV]
 clear hV
 go_wp2_with fail
 refine (HF.out _ V0.out.xa).mono ?_
 rintro d w1 ⟨rfl,rfl⟩
 have a0:=V0.out.rb.1
 have a1:=V0.out.rb.2.1
 have a2:=V0.out.rb.2.2.1
 have a3:=V0.out.rb.2.2.2
 have hvl:w.heap.size < V.heap.size:=by have:=V0.out.lt;omega
 have HCP:=qT7 r V (HR.out _ V0.out.bl).1 HN.out (by omega) (by omega)
 go_wp2_with fail
 refine HCP.mono ?_
 clear HCP
 rintro d w2 ⟨gs,sc,gl,lc,rfl,ho1,ho2,hb2⟩
 obtain ⟨Y,hY⟩:∃ Y,Y=w2.alloc (.cells #[.int .i64 r.i,.int .i64 r.u,.slice (some ⟨gs,0,none⟩) r.sn sc,.slice (some ⟨gl,0,none⟩) r.ln lc] 33):=⟨_,rfl⟩
 have AY:Below w2.heap.size w2 Y:=by rw [hY];exact zN
 have hvl3:=V0.out.lt
 have hs2:=hb2.size
 have O1:Hid (OX w r x w2.heap.size gs sc (some ⟨gl,0,none⟩) lc r.ls Y):=by
  refine ⟨(V0.out.below hb2).below AY,?_,qC0 (ho1.below AY) (by omega),?_,by omega⟩
  ·rw [hY,HSL.out.2]
   exact qP5 w2 _
  ·rw [HSL.out.2]
   exact qB0 (ho2.below AY) (by omega)
 have hq2:w.heap.size+2 < w2.heap.size:=by omega
 clear a0 a1 a2 a3 hvl hvl3 hs2 ho1 ho2 hb2 AY V0
 go_upto_region 5 with fail
 rw [← hY]
 clear hY
 generalize w2.heap.size=q at O1 hq2 ⊢
 obtain ⟨x0,x1,x2,x3,x4⟩:=O1.out.ev.xa
 simp only [Nat.zero_add] at x0 x1 x2 x3 x4
 have hxl:w.heap.size+1 < _:=Nat.lt_of_succ_lt O1.out.ev.lt
 go_wp2_with fail
 refine (HSD.out _ O1.out.ev).mono ?_
 rintro d w3 ⟨rfl,hb3⟩
 have O3:=qC2 (O1.out.below hb3)
 clear hb3 O1
 clear x0 x1 x2 x3 x4 hxl
 obtain ⟨x0,x1,x2,x3,x4⟩:=O3.out.ev.xa
 simp only [Nat.zero_add] at x0 x1 x2 x3 x4
 have hxl:w.heap.size+1 < _:=Nat.lt_of_succ_lt O3.out.ev.lt
 go_wp2_with fail
 refine (HOF.out _ O3.out.ev).mono ?_
 rintro d w4 ⟨rfl,hb4⟩
 have O4:=qC2 (O3.out.below hb4)
 clear hb4 O3
 clear x0 x1 x2 x3 x4 hxl
 have a2:=O4.out.ev.rb.2.2.1
 have hal:w.heap.size < w4.heap.size:=by have:=O4.out.ev.lt;omega
 obtain ⟨U,hU⟩:∃ U,U=w4.alloc (.cells #[.int .i64 x.k,.int .i64 x.e,.int .i64 x.f,.int .i64 x.s,.int .i64 x.n] 43):=⟨_,rfl⟩
 have AU:Below w4.heap.size w4 U:=by rw [hU];exact zN
 have OU:=qC2 (O4.out.below AU)
 have RU:Hid (U.ownsRow (w.heap.size+3) 43 5 (.slice (some ⟨gs,0,none⟩) r.sn sc) r.sn (qC5 r.ss)):=by
  have q:=OU.out.so
  unfold qB1 at q
  rw [HSL.out.1] at q
  exact q
 have PU:Hid (qK9 U (some ⟨w4.heap.size,0,none⟩) 1 [x]):=by show qK9 _ _ _ _;rw [hU];exact QH8 w4 x _
 have hUs:w.heap.size+3≤U.heap.size:=by have:=OU.out.ev.lt;omega
 obtain ⟨x0,x1,x2,x3,x4⟩:=O4.out.ev.xa
 simp only [Nat.zero_add] at x0 x1 x2 x3 x4
 have hxl:w.heap.size+1 < _:=Nat.lt_of_succ_lt O4.out.ev.lt
 have o2:=qA9 O4.out.ob 2
 simp at o2
 have hql:=O4.out.qlt
 have hxl2:w.heap.size+1 < w4.heap.size:=hxl
 go_upto_region 23 with fail
 go_wp2_with (first | (at_builtin;rw [← hU];refine qR9 rfl _ _ 30 rfl (w.heap.size+3) 43 i0 (.agg #[.int .i64 0,.int .i64 0,.int .i64 0,.int .i64 0,.int .i64 0]) 5 40 Tryz.underlying30 hi hz0 hz1 hz2 rfl (by decide) (.slice (some ⟨gs,0,none⟩) r.sn sc) r.sn (qC5 r.ss) rfl RU.out (by simp) (some ⟨w4.heap.size,0,none⟩) 1 1 (qC5 [x]) rfl (fun e=>by cases e) rfl (fun p e=>by cases e;exact qZ0 PU.out) (qO5 _) (by unfold maxLen;omega) (by omega) hUs ?_) | fail)
 intro v6 w6 hown6 hgrow6 hnil6
 have E6:qB1 w6 (w.heap.size+3) v6 S:=by
  rw [← HS.out]
  show World.ownsRow _ _ 43 5 _ (r.ss++[x]).length (qC5 (r.ss++[x]))
  rw [qN6,List.length_append,HSL.out.1]
  exact hown6
 obtain ⟨g6,cap6,hv6⟩:=E6.shape hnil6
 subst hv6
 have hgU:U.grownBy w6 (some gs):=by first | exact hgrow6 | (rw [hU];exact hgrow6)
 obtain ⟨Z6,B6,K6,L6⟩:=OU.out.said (by rw [HS.out];exact E6) hgU
 obtain ⟨w7,hw7⟩:∃ w7,w7=w6.setCell ⟨q,2,none⟩ (.slice (some ⟨g6,0,none⟩) S.length cap6):=⟨_,rfl⟩
 have K7:w7.heap[q]? = some (.cells #[.int .i64 r.i,.int .i64 r.u,.slice (some ⟨g6,0,none⟩) S.length cap6,.slice (some ⟨gl,0,none⟩) r.ls.length lc] 33 (0,0)):=by rw [hw7];exact qQ0 K6
 have Z7:qI3 (w.heap.size+2) [.int .i64 0,.int .i64 0,.int .i64 0,.slice none 0 0,.slice none 0 0] w7:=by rw [hw7];exact Z6.other (by show q≠_;omega) _
 have B7:Hid (Below w.heap.size w w7):=by show Below _ _ _;rw [hw7];exact B6.setCell (by show w.heap.size≤q;omega) _
 have E7:Hid (qB1 w7 (w.heap.size+3) (.slice (some ⟨g6,0,none⟩) S.length cap6) S):=by
  show qB1 _ _ _ _
  rw [hw7]
  exact qA0 E6 (fun g e=>by obtain ⟨cur,hcc,_⟩:=qD1 E6 e;exact Below.heap_setCell _ _ _ _ (qK8 hcc K6 (by decide)))
 have L7:Hid (qA1 w7 (w.heap.size+3) (.slice (some ⟨gl,0,none⟩) r.ls.length lc) r.ls):=by
  show qA1 _ _ _ _
  rw [hw7]
  exact qA0 L6 (fun g e=>by obtain ⟨cur,hcc,_⟩:=qC6 L6 e;exact Below.heap_setCell _ _ _ _ (qK8 hcc K6 (by decide)))
 have k2:=qA9 K6 2
 simp at k2
 have kf2:=qU2 K6 2
 have hq6:=(Array.getElem?_eq_some_iff.1 K6).1
 clear hown6 hgrow6 hnil6 hgU E6 Z6 B6 L6 x0 x1 x2 x3 x4 hxl hxl2 o2 hql RU PU AU OU hU O4
 go_upto_region 24 with fail
 rw [← hw7]
 clear hw7 k2 kf2 hq6
 have o0:=qA9 K7 0
 have o1:=qA9 K7 1
 have o2:=qA9 K7 2
 have o3:=qA9 K7 3
 simp at o0 o1 o2 o3
 have hql:=(Array.getElem?_eq_some_iff.1 K7).1
 have z0:=Z7.1 0 _ rfl
 have z1:=Z7.1 1 _ rfl
 have z2:=Z7.1 2 _ rfl
 have z3:=Z7.1 3 _ rfl
 have z4:=Z7.1 4 _ rfl
 have f0:=Z7.2 0
 have f1:=Z7.2 1
 have f2:=Z7.2 2
 have f3:=Z7.2 3
 have f4:=Z7.2 4
 have hzl:w.heap.size+2 < w7.heap.size:=by omega
 have hqn:w.heap.size+2≠q:=by omega
 clear K7 Z7 K6
 go_wp2_with fail
 refine bodyPost_ret (v:=.agg #[.int .i64 0,.int .i64 r.i,.int .i64 r.u,.slice (some ⟨g6,0,none⟩) S.length cap6,.slice (some ⟨gl,0,none⟩) r.ls.length lc]) (by simp [results,Tryz.results49,go_sem,z0,z1,z2,z3,z4,hzl]) rfl ?_
 refine ⟨(((((B7.out.setCell (by show w.heap.size≤w.heap.size+2;omega) _).setCell (by show w.heap.size≤w.heap.size+2;omega) _).setCell (by show w.heap.size≤w.heap.size+2;omega) _).setCell (by show w.heap.size≤w.heap.size+2;omega) _).setCell (by show w.heap.size≤w.heap.size+2;omega) _),fun q=>absurd rfl q,fun _=>?_⟩
 refine ⟨some ⟨g6,0,none⟩,cap6,(some ⟨gl,0,none⟩),lc,rfl,qC0 (qA0 E7.out (fun g e=>?_)) (by omega),qB0 (qA0 L7.out (fun g e=>?_)) (by omega)⟩
 ·obtain ⟨cur,hcc,hgg⟩:=qD1 E7.out e
  rw [Below.heap_setCell _ _ _ _ (by show g≠w.heap.size+2;omega),Below.heap_setCell _ _ _ _ (by show g≠w.heap.size+2;omega),Below.heap_setCell _ _ _ _ (by show g≠w.heap.size+2;omega),Below.heap_setCell _ _ _ _ (by show g≠w.heap.size+2;omega),Below.heap_setCell _ _ _ _ (by show g≠w.heap.size+2;omega)]
 ·obtain ⟨cur,hcc,hgg⟩:=qC6 L7.out e
  rw [Below.heap_setCell _ _ _ _ (by show g≠w.heap.size+2;omega),Below.heap_setCell _ _ _ _ (by show g≠w.heap.size+2;omega),Below.heap_setCell _ _ _ _ (by show g≠w.heap.size+2;omega),Below.heap_setCell _ _ _ _ (by show g≠w.heap.size+2;omega),Below.heap_setCell _ _ _ _ (by show g≠w.heap.size+2;omega)]
theorem l8End_next (E:qH0) (r:qF4) (a:Option Addr) (m cap:Nat) (cs:List qA3) (x:StI) (w:World) (hr:qD9 w r) (hN:qL0 r) (hsm:∀ p,r.la=some p→∃ b0 o0,p=⟨b0,o0,none⟩∧b0 < w.heap.size) (hc:qA6 w a m cs) (hEC:qN0 E cs) (hm:0 < m) (hm8:m≤8) (hRp:RpS E r.ss r.ls) (hst:qC4 x=0) (hsx:qD7 r.ss x=false) (hp0:0≤qB4 E r.ss x.e) (h40:r.sn < 40) (hk3:x.k=3) (k:Int) (hk:qD2 E r.ss x=k) (S:List StI) (hS:r.ss++[x]=S) :
  Calls Tryz.prog 49 #[.agg #[.int .i64 r.i,.int .i64 r.u,.slice r.sa r.sn r.sc,.slice r.la r.ln r.lc],.slice a m cap,.agg #[.int .i64 x.k,.int .i64 x.e,.int .i64 x.f,.int .i64 x.s,.int .i64 x.n]] w fun d w'=>EndS r k S r.ls w d w':=by
 have hsl:r.ss.length=r.sn:=hr.said.1
 have hll:r.ls.length=r.ln:=hr.locks.1
 have hs40:r.sn≤40:=by have:=hRp.len;omega
 have hl200:r.ln≤200:=by have:=(QF6 hRp.lk).1;omega
 have hs40':(r.sn:Int)≤40:=by omega
 have HR:Hid (∀ W,Below w.heap.size w W→qD9 W r∧qA6 W a m cs∧(∀ p,r.la=some p→∃ b0 o0,p=⟨b0,o0,none⟩∧b0 < W.heap.size)):=fun W hb=>⟨hr.below hb,hc.below hb,fun p e=>by obtain ⟨b0,o0,q,hl⟩:=hsm p e;exact ⟨b0,o0,q,Nat.lt_of_lt_of_le hl hb.size⟩⟩
 have HSL:Hid (r.ss.length=r.sn∧r.ls.length=r.ln):=⟨hsl,hll⟩
 have HN:Hid (qL0 r):=hN
 have HEC:Hid (qN0 E cs):=hEC
 have HRP:Hid (RpS E r.ss r.ls):=hRp
 have HF:Hid (∀ W,qS7 W (w.heap.size+1) 0 x→Calls Tryz.prog 74 #[.pointer (some ⟨w.heap.size+1,0,none⟩)] W fun e w'=>e = .returned (.int .i64 0)∧W=w'):=fun W q=>by rw [← hst];exact qN5 _ _ x W q
 obtain ⟨V,hV⟩:∃ V,V=((w.alloc (.cells #[.int .i64 r.i,.int .i64 r.u,.slice r.sa r.sn r.sc,.slice r.la r.ln r.lc] 33)).alloc (.cells #[.int .i64 x.k,.int .i64 x.e,.int .i64 x.f,.int .i64 x.s,.int .i64 x.n] 43)).alloc (.cells #[.int .i64 0,.int .i64 0,.int .i64 0,.slice none 0 0,.slice none 0 0] 47):=⟨_,rfl⟩
 have V0:Hid (EV w r x V):=by show EV w r x V;rw [hV];exact EV.new w r x
 obtain ⟨⟨hk1,hk2⟩,⟨he1,he2⟩,⟨hn1,hn2⟩,_⟩:=qH9 hst
 have HSD:Hid (∀ W,EV w r x W→Calls Tryz.prog 75 #[.pointer (some ⟨w.heap.size,0,none⟩),.agg #[.int .i64 x.k,.int .i64 x.e,.int .i64 x.f,.int .i64 x.s,.int .i64 x.n]] W fun d w'=>d = .returned (.bool false)∧Below W.heap.size W w'):=fun W q=>by rw [← hsx];exact qM1 _ r x W q.rb (HR.out _ q.bl).1.said (by omega)
 have HOF:Hid (∀ W,EV w r x W→Calls Tryz.prog 76 #[.pointer (some ⟨w.heap.size,0,none⟩),.slice a m cap,.int .i64 x.e] W fun d w'=>d = .returned (.int .i64 (qB4 E r.ss x.e))∧Below W.heap.size W w'):=fun W q=>QM3 E _ r a m cap cs x.e W HEC.out.es q.rb (HR.out _ q.bl).1.said (by omega) (HR.out _ q.bl).2.1 hm hm8 ⟨he1,he2⟩
 have h40':(r.sn:Int) < 40:=by omega
 have k1:(x.k==1)=false:=by simp [hk3]
 have k3:(x.k==3)=true:=by simp [hk3]
 clear hk3
 have HNX:Hid (∀ W,EV w r x W→Calls Tryz.prog 78 #[.pointer (some ⟨w.heap.size,0,none⟩),.slice a m cap,.pointer (some ⟨w.heap.size+1,0,none⟩)] W fun d w'=>d = .returned (.int .i64 k)∧Below W.heap.size W w'):=fun W q=>by rw [← hk];exact l8Next_c E _ r a m cap cs _ x W HEC.out.es q.rb (HR.out _ q.bl).1.said (by omega) (HR.out _ q.bl).2.1 hm8 q.xa ⟨he1,he2⟩ ⟨hn1,hn2⟩
 clear hsx hk
 have HS:Hid (r.ss++[x]=S):=hS
 clear hS
 obtain ⟨i0,hi,hz0,hz1,hz2⟩:=info_parts Tryz.info43
 clear hr hN hsm hc hEC hRp hsl hll hst
 go_enter Tryz.func49,Tryz.ntmps49
 go_upto_region 1 with fail
 rw [← hV]
 clear hV
 go_wp2_with fail
 refine (HF.out _ V0.out.xa).mono ?_
 rintro d w1 ⟨rfl,rfl⟩
 have a0:=V0.out.rb.1
 have a1:=V0.out.rb.2.1
 have a2:=V0.out.rb.2.2.1
 have a3:=V0.out.rb.2.2.2
 have hvl:w.heap.size < V.heap.size:=by have:=V0.out.lt;omega
 have HCP:=qT7 r V (HR.out _ V0.out.bl).1 HN.out (by omega) (by omega)
 go_wp2_with fail
 refine HCP.mono ?_
 clear HCP
 rintro d w2 ⟨gs,sc,gl,lc,rfl,ho1,ho2,hb2⟩
 obtain ⟨Y,hY⟩:∃ Y,Y=w2.alloc (.cells #[.int .i64 r.i,.int .i64 r.u,.slice (some ⟨gs,0,none⟩) r.sn sc,.slice (some ⟨gl,0,none⟩) r.ln lc] 33):=⟨_,rfl⟩
 have AY:Below w2.heap.size w2 Y:=by rw [hY];exact zN
 have hvl3:=V0.out.lt
 have hs2:=hb2.size
 have O1:Hid (OX w r x w2.heap.size gs sc (some ⟨gl,0,none⟩) lc r.ls Y):=by
  refine ⟨(V0.out.below hb2).below AY,?_,qC0 (ho1.below AY) (by omega),?_,by omega⟩
  ·rw [hY,HSL.out.2]
   exact qP5 w2 _
  ·rw [HSL.out.2]
   exact qB0 (ho2.below AY) (by omega)
 have hq2:w.heap.size+2 < w2.heap.size:=by omega
 clear a0 a1 a2 a3 hvl hvl3 hs2 ho1 ho2 hb2 AY V0
 go_upto_region 5 with fail
 rw [← hY]
 clear hY
 generalize w2.heap.size=q at O1 hq2 ⊢
 obtain ⟨x0,x1,x2,x3,x4⟩:=O1.out.ev.xa
 simp only [Nat.zero_add] at x0 x1 x2 x3 x4
 have hxl:w.heap.size+1 < _:=Nat.lt_of_succ_lt O1.out.ev.lt
 go_wp2_with fail
 refine (HSD.out _ O1.out.ev).mono ?_
 rintro d w3 ⟨rfl,hb3⟩
 have O3:=qC2 (O1.out.below hb3)
 clear hb3 O1
 clear x0 x1 x2 x3 x4 hxl
 obtain ⟨x0,x1,x2,x3,x4⟩:=O3.out.ev.xa
 simp only [Nat.zero_add] at x0 x1 x2 x3 x4
 have hxl:w.heap.size+1 < _:=Nat.lt_of_succ_lt O3.out.ev.lt
 go_wp2_with fail
 refine (HOF.out _ O3.out.ev).mono ?_
 rintro d w4 ⟨rfl,hb4⟩
 have O4:=qC2 (O3.out.below hb4)
 clear hb4 O3
 clear x0 x1 x2 x3 x4 hxl
 have a2:=O4.out.ev.rb.2.2.1
 have hal:w.heap.size < w4.heap.size:=by have:=O4.out.ev.lt;omega
 obtain ⟨x0,x1,x2,x3,x4⟩:=O4.out.ev.xa
 simp only [Nat.zero_add] at x0 x1 x2 x3 x4
 have hxl:w.heap.size+1 < _:=Nat.lt_of_succ_lt O4.out.ev.lt
 go_wp2_with fail
 refine (HNX.out _ O4.out.ev).mono ?_
 rintro d w5 ⟨rfl,hb5⟩
 have O5:=qC2 (O4.out.below hb5)
 clear hb5 a2 hal O4
 clear x0 x1 x2 x3 x4 hxl
 by_cases hk0:k=0
 ·subst hk0
  obtain ⟨U,hU⟩:∃ U,U=w5.alloc (.cells #[.int .i64 x.k,.int .i64 x.e,.int .i64 x.f,.int .i64 x.s,.int .i64 x.n] 43):=⟨_,rfl⟩
  have AU:Below w5.heap.size w5 U:=by rw [hU];exact zN
  have OU:=qC2 (O5.out.below AU)
  have RU:Hid (U.ownsRow (w.heap.size+3) 43 5 (.slice (some ⟨gs,0,none⟩) r.sn sc) r.sn (qC5 r.ss)):=by
   have q:=OU.out.so
   unfold qB1 at q
   rw [HSL.out.1] at q
   exact q
  have PU:Hid (qK9 U (some ⟨w5.heap.size,0,none⟩) 1 [x]):=by show qK9 _ _ _ _;rw [hU];exact QH8 w5 x _
  have hUs:w.heap.size+3≤U.heap.size:=by have:=OU.out.ev.lt;omega
  obtain ⟨x0,x1,x2,x3,x4⟩:=O5.out.ev.xa
  simp only [Nat.zero_add] at x0 x1 x2 x3 x4
  have hxl:w.heap.size+1 < _:=Nat.lt_of_succ_lt O5.out.ev.lt
  have o2:=qA9 O5.out.ob 2
  simp at o2
  have hql:=O5.out.qlt
  have hxl2:w.heap.size+1 < w5.heap.size:=hxl
  go_upto_region 23 with fail
  go_wp2_with (first | (at_builtin;rw [← hU];refine qR9 rfl _ _ 30 rfl (w.heap.size+3) 43 i0 (.agg #[.int .i64 0,.int .i64 0,.int .i64 0,.int .i64 0,.int .i64 0]) 5 40 Tryz.underlying30 hi hz0 hz1 hz2 rfl (by decide) (.slice (some ⟨gs,0,none⟩) r.sn sc) r.sn (qC5 r.ss) rfl RU.out (by simp) (some ⟨w5.heap.size,0,none⟩) 1 1 (qC5 [x]) rfl (fun e=>by cases e) rfl (fun p e=>by cases e;exact qZ0 PU.out) (qO5 _) (by unfold maxLen;omega) (by omega) hUs ?_) | fail)
  intro v6 w6 hown6 hgrow6 hnil6
  have E6:qB1 w6 (w.heap.size+3) v6 S:=by
   rw [← HS.out]
   show World.ownsRow _ _ 43 5 _ (r.ss++[x]).length (qC5 (r.ss++[x]))
   rw [qN6,List.length_append,HSL.out.1]
   exact hown6
  obtain ⟨g6,cap6,hv6⟩:=E6.shape hnil6
  subst hv6
  have hgU:U.grownBy w6 (some gs):=by first | exact hgrow6 | (rw [hU];exact hgrow6)
  obtain ⟨Z6,B6,K6,L6⟩:=OU.out.said (by rw [HS.out];exact E6) hgU
  obtain ⟨w7,hw7⟩:∃ w7,w7=w6.setCell ⟨q,2,none⟩ (.slice (some ⟨g6,0,none⟩) S.length cap6):=⟨_,rfl⟩
  have K7:w7.heap[q]? = some (.cells #[.int .i64 r.i,.int .i64 r.u,.slice (some ⟨g6,0,none⟩) S.length cap6,.slice (some ⟨gl,0,none⟩) r.ls.length lc] 33 (0,0)):=by rw [hw7];exact qQ0 K6
  have Z7:qI3 (w.heap.size+2) [.int .i64 0,.int .i64 0,.int .i64 0,.slice none 0 0,.slice none 0 0] w7:=by rw [hw7];exact Z6.other (by show q≠_;omega) _
  have B7:Hid (Below w.heap.size w w7):=by show Below _ _ _;rw [hw7];exact B6.setCell (by show w.heap.size≤q;omega) _
  have E7:Hid (qB1 w7 (w.heap.size+3) (.slice (some ⟨g6,0,none⟩) S.length cap6) S):=by
   show qB1 _ _ _ _
   rw [hw7]
   exact qA0 E6 (fun g e=>by obtain ⟨cur,hcc,_⟩:=qD1 E6 e;exact Below.heap_setCell _ _ _ _ (qK8 hcc K6 (by decide)))
  have L7:Hid (qA1 w7 (w.heap.size+3) (.slice (some ⟨gl,0,none⟩) r.ls.length lc) r.ls):=by
   show qA1 _ _ _ _
   rw [hw7]
   exact qA0 L6 (fun g e=>by obtain ⟨cur,hcc,_⟩:=qC6 L6 e;exact Below.heap_setCell _ _ _ _ (qK8 hcc K6 (by decide)))
  have k2:=qA9 K6 2
  simp at k2
  have kf2:=qU2 K6 2
  have hq6:=(Array.getElem?_eq_some_iff.1 K6).1
  clear hown6 hgrow6 hnil6 hgU E6 Z6 B6 L6 x0 x1 x2 x3 x4 hxl hxl2 o2 hql RU PU AU OU hU O5
  go_upto_region 24 with fail
  rw [← hw7]
  clear hw7 k2 kf2 hq6
  have o0:=qA9 K7 0
  have o1:=qA9 K7 1
  have o2:=qA9 K7 2
  have o3:=qA9 K7 3
  simp at o0 o1 o2 o3
  have hql:=(Array.getElem?_eq_some_iff.1 K7).1
  have z0:=Z7.1 0 _ rfl
  have z1:=Z7.1 1 _ rfl
  have z2:=Z7.1 2 _ rfl
  have z3:=Z7.1 3 _ rfl
  have z4:=Z7.1 4 _ rfl
  have f0:=Z7.2 0
  have f1:=Z7.2 1
  have f2:=Z7.2 2
  have f3:=Z7.2 3
  have f4:=Z7.2 4
  have hzl:w.heap.size+2 < w7.heap.size:=by omega
  have hqn:w.heap.size+2≠q:=by omega
  clear K7 Z7 K6
  go_wp2_with fail
  refine bodyPost_ret (v:=.agg #[.int .i64 0,.int .i64 r.i,.int .i64 r.u,.slice (some ⟨g6,0,none⟩) S.length cap6,.slice (some ⟨gl,0,none⟩) r.ls.length lc]) (by simp [results,Tryz.results49,go_sem,z0,z1,z2,z3,z4,hzl]) rfl ?_
  refine ⟨(((((B7.out.setCell (by show w.heap.size≤w.heap.size+2;omega) _).setCell (by show w.heap.size≤w.heap.size+2;omega) _).setCell (by show w.heap.size≤w.heap.size+2;omega) _).setCell (by show w.heap.size≤w.heap.size+2;omega) _).setCell (by show w.heap.size≤w.heap.size+2;omega) _),fun q=>absurd rfl q,fun _=>?_⟩
  refine ⟨some ⟨g6,0,none⟩,cap6,(some ⟨gl,0,none⟩),lc,rfl,qC0 (qA0 E7.out (fun g e=>?_)) (by omega),qB0 (qA0 L7.out (fun g e=>?_)) (by omega)⟩
  ·obtain ⟨cur,hcc,hgg⟩:=qD1 E7.out e
   rw [Below.heap_setCell _ _ _ _ (by show g≠w.heap.size+2;omega),Below.heap_setCell _ _ _ _ (by show g≠w.heap.size+2;omega),Below.heap_setCell _ _ _ _ (by show g≠w.heap.size+2;omega),Below.heap_setCell _ _ _ _ (by show g≠w.heap.size+2;omega),Below.heap_setCell _ _ _ _ (by show g≠w.heap.size+2;omega)]
  ·obtain ⟨cur,hcc,hgg⟩:=qC6 L7.out e
   rw [Below.heap_setCell _ _ _ _ (by show g≠w.heap.size+2;omega),Below.heap_setCell _ _ _ _ (by show g≠w.heap.size+2;omega),Below.heap_setCell _ _ _ _ (by show g≠w.heap.size+2;omega),Below.heap_setCell _ _ _ _ (by show g≠w.heap.size+2;omega),Below.heap_setCell _ _ _ _ (by show g≠w.heap.size+2;omega)]
 ·have kb:(k != 0)=true:=by simp [hk0]
  have z0:=O5.out.ev.rs.1 0 _ rfl
  have z1:=O5.out.ev.rs.1 1 _ rfl
  have z2:=O5.out.ev.rs.1 2 _ rfl
  have z3:=O5.out.ev.rs.1 3 _ rfl
  have z4:=O5.out.ev.rs.1 4 _ rfl
  have f0:=O5.out.ev.rs.2 0
  have f1:=O5.out.ev.rs.2 1
  have f2:=O5.out.ev.rs.2 2
  have f3:=O5.out.ev.rs.2 3
  have f4:=O5.out.ev.rs.2 4
  have hzl:=O5.out.ev.lt
  go_wp2_with fail
  refine bodyPost_ret (v:=.agg #[.int .i64 k,.int .i64 0,.int .i64 0,.slice none 0 0,.slice none 0 0]) (by simp [results,Tryz.results49,go_sem,z0,z1,z2,z3,z4,hzl]) rfl ?_
  exact ⟨(((((O5.out.ev.bl.setCell (by show w.heap.size≤w.heap.size+2;omega) _).setCell (by show w.heap.size≤w.heap.size+2;omega) _).setCell (by show w.heap.size≤w.heap.size+2;omega) _).setCell (by show w.heap.size≤w.heap.size+2;omega) _).setCell (by show w.heap.size≤w.heap.size+2;omega) _),fun _=>rfl,fun q=>absurd q (by first | assumption | decide)⟩
theorem l8End_take (E:qH0) (r:qF4) (a:Option Addr) (m cap:Nat) (cs:List qA3) (x:StI) (w:World) (hr:qD9 w r) (hN:qL0 r) (hsm:∀ p,r.la=some p→∃ b0 o0,p=⟨b0,o0,none⟩∧b0 < w.heap.size) (hc:qA6 w a m cs) (hEC:qN0 E cs) (hm:0 < m) (hm8:m≤8) (hRp:RpS E r.ss r.ls) (hst:qC4 x=0) (hsx:qD7 r.ss x=false) (hp0:0≤qB4 E r.ss x.e) (h40:r.sn < 40) (hk4:x.k=4) (k:Int) (hk:qD2 E r.ss x=k) (S:List StI) (hS:r.ss++[x]=S) :
  Calls Tryz.prog 49 #[.agg #[.int .i64 r.i,.int .i64 r.u,.slice r.sa r.sn r.sc,.slice r.la r.ln r.lc],.slice a m cap,.agg #[.int .i64 x.k,.int .i64 x.e,.int .i64 x.f,.int .i64 x.s,.int .i64 x.n]] w fun d w'=>EndS r k S r.ls w d w':=by
 have hsl:r.ss.length=r.sn:=hr.said.1
 have hll:r.ls.length=r.ln:=hr.locks.1
 have hs40:r.sn≤40:=by have:=hRp.len;omega
 have hl200:r.ln≤200:=by have:=(QF6 hRp.lk).1;omega
 have hs40':(r.sn:Int)≤40:=by omega
 have HR:Hid (∀ W,Below w.heap.size w W→qD9 W r∧qA6 W a m cs∧(∀ p,r.la=some p→∃ b0 o0,p=⟨b0,o0,none⟩∧b0 < W.heap.size)):=fun W hb=>⟨hr.below hb,hc.below hb,fun p e=>by obtain ⟨b0,o0,q,hl⟩:=hsm p e;exact ⟨b0,o0,q,Nat.lt_of_lt_of_le hl hb.size⟩⟩
 have HSL:Hid (r.ss.length=r.sn∧r.ls.length=r.ln):=⟨hsl,hll⟩
 have HN:Hid (qL0 r):=hN
 have HEC:Hid (qN0 E cs):=hEC
 have HRP:Hid (RpS E r.ss r.ls):=hRp
 have HF:Hid (∀ W,qS7 W (w.heap.size+1) 0 x→Calls Tryz.prog 74 #[.pointer (some ⟨w.heap.size+1,0,none⟩)] W fun e w'=>e = .returned (.int .i64 0)∧W=w'):=fun W q=>by rw [← hst];exact qN5 _ _ x W q
 obtain ⟨V,hV⟩:∃ V,V=((w.alloc (.cells #[.int .i64 r.i,.int .i64 r.u,.slice r.sa r.sn r.sc,.slice r.la r.ln r.lc] 33)).alloc (.cells #[.int .i64 x.k,.int .i64 x.e,.int .i64 x.f,.int .i64 x.s,.int .i64 x.n] 43)).alloc (.cells #[.int .i64 0,.int .i64 0,.int .i64 0,.slice none 0 0,.slice none 0 0] 47):=⟨_,rfl⟩
 have V0:Hid (EV w r x V):=by show EV w r x V;rw [hV];exact EV.new w r x
 obtain ⟨⟨hk1,hk2⟩,⟨he1,he2⟩,⟨hn1,hn2⟩,_⟩:=qH9 hst
 have HSD:Hid (∀ W,EV w r x W→Calls Tryz.prog 75 #[.pointer (some ⟨w.heap.size,0,none⟩),.agg #[.int .i64 x.k,.int .i64 x.e,.int .i64 x.f,.int .i64 x.s,.int .i64 x.n]] W fun d w'=>d = .returned (.bool false)∧Below W.heap.size W w'):=fun W q=>by rw [← hsx];exact qM1 _ r x W q.rb (HR.out _ q.bl).1.said (by omega)
 have HOF:Hid (∀ W,EV w r x W→Calls Tryz.prog 76 #[.pointer (some ⟨w.heap.size,0,none⟩),.slice a m cap,.int .i64 x.e] W fun d w'=>d = .returned (.int .i64 (qB4 E r.ss x.e))∧Below W.heap.size W w'):=fun W q=>QM3 E _ r a m cap cs x.e W HEC.out.es q.rb (HR.out _ q.bl).1.said (by omega) (HR.out _ q.bl).2.1 hm hm8 ⟨he1,he2⟩
 have h40':(r.sn:Int) < 40:=by omega
 have k1:(x.k==1)=false:=by simp [hk4]
 have k3:(x.k==3)=false:=by simp [hk4]
 have k4:(x.k==4)=true:=by simp [hk4]
 clear hk4
 have HNX:Hid (∀ W,EV w r x W→Calls Tryz.prog 78 #[.pointer (some ⟨w.heap.size,0,none⟩),.slice a m cap,.pointer (some ⟨w.heap.size+1,0,none⟩)] W fun d w'=>d = .returned (.int .i64 k)∧Below W.heap.size W w'):=fun W q=>by rw [← hk];exact l8Next_c E _ r a m cap cs _ x W HEC.out.es q.rb (HR.out _ q.bl).1.said (by omega) (HR.out _ q.bl).2.1 hm8 q.xa ⟨he1,he2⟩ ⟨hn1,hn2⟩
 clear hsx hk
 have HS:Hid (r.ss++[x]=S):=hS
 clear hS
 obtain ⟨i0,hi,hz0,hz1,hz2⟩:=info_parts Tryz.info43
 clear hr hN hsm hc hEC hRp hsl hll hst
 go_enter Tryz.func49,Tryz.ntmps49
 go_upto_region 1 with fail
 rw [← hV]
 clear hV
 go_wp2_with fail
 refine (HF.out _ V0.out.xa).mono ?_
 rintro d w1 ⟨rfl,rfl⟩
 have a0:=V0.out.rb.1
 have a1:=V0.out.rb.2.1
 have a2:=V0.out.rb.2.2.1
 have a3:=V0.out.rb.2.2.2
 have hvl:w.heap.size < V.heap.size:=by have:=V0.out.lt;omega
 have HCP:=qT7 r V (HR.out _ V0.out.bl).1 HN.out (by omega) (by omega)
 go_wp2_with fail
 refine HCP.mono ?_
 clear HCP
 rintro d w2 ⟨gs,sc,gl,lc,rfl,ho1,ho2,hb2⟩
 obtain ⟨Y,hY⟩:∃ Y,Y=w2.alloc (.cells #[.int .i64 r.i,.int .i64 r.u,.slice (some ⟨gs,0,none⟩) r.sn sc,.slice (some ⟨gl,0,none⟩) r.ln lc] 33):=⟨_,rfl⟩
 have AY:Below w2.heap.size w2 Y:=by rw [hY];exact zN
 have hvl3:=V0.out.lt
 have hs2:=hb2.size
 have O1:Hid (OX w r x w2.heap.size gs sc (some ⟨gl,0,none⟩) lc r.ls Y):=by
  refine ⟨(V0.out.below hb2).below AY,?_,qC0 (ho1.below AY) (by omega),?_,by omega⟩
  ·rw [hY,HSL.out.2]
   exact qP5 w2 _
  ·rw [HSL.out.2]
   exact qB0 (ho2.below AY) (by omega)
 have hq2:w.heap.size+2 < w2.heap.size:=by omega
 clear a0 a1 a2 a3 hvl hvl3 hs2 ho1 ho2 hb2 AY V0
 go_upto_region 5 with fail
 rw [← hY]
 clear hY
 generalize w2.heap.size=q at O1 hq2 ⊢
 obtain ⟨x0,x1,x2,x3,x4⟩:=O1.out.ev.xa
 simp only [Nat.zero_add] at x0 x1 x2 x3 x4
 have hxl:w.heap.size+1 < _:=Nat.lt_of_succ_lt O1.out.ev.lt
 go_wp2_with fail
 refine (HSD.out _ O1.out.ev).mono ?_
 rintro d w3 ⟨rfl,hb3⟩
 have O3:=qC2 (O1.out.below hb3)
 clear hb3 O1
 clear x0 x1 x2 x3 x4 hxl
 obtain ⟨x0,x1,x2,x3,x4⟩:=O3.out.ev.xa
 simp only [Nat.zero_add] at x0 x1 x2 x3 x4
 have hxl:w.heap.size+1 < _:=Nat.lt_of_succ_lt O3.out.ev.lt
 go_wp2_with fail
 refine (HOF.out _ O3.out.ev).mono ?_
 rintro d w4 ⟨rfl,hb4⟩
 have O4:=qC2 (O3.out.below hb4)
 clear hb4 O3
 clear x0 x1 x2 x3 x4 hxl
 have a2:=O4.out.ev.rb.2.2.1
 have hal:w.heap.size < w4.heap.size:=by have:=O4.out.ev.lt;omega
 obtain ⟨x0,x1,x2,x3,x4⟩:=O4.out.ev.xa
 simp only [Nat.zero_add] at x0 x1 x2 x3 x4
 have hxl:w.heap.size+1 < _:=Nat.lt_of_succ_lt O4.out.ev.lt
 go_wp2_with fail
 refine (HNX.out _ O4.out.ev).mono ?_
 rintro d w5 ⟨rfl,hb5⟩
 have O5:=qC2 (O4.out.below hb5)
 clear hb5 a2 hal O4
 clear x0 x1 x2 x3 x4 hxl
 by_cases hk0:k=0
 ·subst hk0
  obtain ⟨U,hU⟩:∃ U,U=w5.alloc (.cells #[.int .i64 x.k,.int .i64 x.e,.int .i64 x.f,.int .i64 x.s,.int .i64 x.n] 43):=⟨_,rfl⟩
  have AU:Below w5.heap.size w5 U:=by rw [hU];exact zN
  have OU:=qC2 (O5.out.below AU)
  have RU:Hid (U.ownsRow (w.heap.size+3) 43 5 (.slice (some ⟨gs,0,none⟩) r.sn sc) r.sn (qC5 r.ss)):=by
   have q:=OU.out.so
   unfold qB1 at q
   rw [HSL.out.1] at q
   exact q
  have PU:Hid (qK9 U (some ⟨w5.heap.size,0,none⟩) 1 [x]):=by show qK9 _ _ _ _;rw [hU];exact QH8 w5 x _
  have hUs:w.heap.size+3≤U.heap.size:=by have:=OU.out.ev.lt;omega
  obtain ⟨x0,x1,x2,x3,x4⟩:=O5.out.ev.xa
  simp only [Nat.zero_add] at x0 x1 x2 x3 x4
  have hxl:w.heap.size+1 < _:=Nat.lt_of_succ_lt O5.out.ev.lt
  have o2:=qA9 O5.out.ob 2
  simp at o2
  have hql:=O5.out.qlt
  have hxl2:w.heap.size+1 < w5.heap.size:=hxl
  go_upto_region 23 with fail
  go_wp2_with (first | (at_builtin;rw [← hU];refine qR9 rfl _ _ 30 rfl (w.heap.size+3) 43 i0 (.agg #[.int .i64 0,.int .i64 0,.int .i64 0,.int .i64 0,.int .i64 0]) 5 40 Tryz.underlying30 hi hz0 hz1 hz2 rfl (by decide) (.slice (some ⟨gs,0,none⟩) r.sn sc) r.sn (qC5 r.ss) rfl RU.out (by simp) (some ⟨w5.heap.size,0,none⟩) 1 1 (qC5 [x]) rfl (fun e=>by cases e) rfl (fun p e=>by cases e;exact qZ0 PU.out) (qO5 _) (by unfold maxLen;omega) (by omega) hUs ?_) | fail)
  intro v6 w6 hown6 hgrow6 hnil6
  have E6:qB1 w6 (w.heap.size+3) v6 S:=by
   rw [← HS.out]
   show World.ownsRow _ _ 43 5 _ (r.ss++[x]).length (qC5 (r.ss++[x]))
   rw [qN6,List.length_append,HSL.out.1]
   exact hown6
  obtain ⟨g6,cap6,hv6⟩:=E6.shape hnil6
  subst hv6
  have hgU:U.grownBy w6 (some gs):=by first | exact hgrow6 | (rw [hU];exact hgrow6)
  obtain ⟨Z6,B6,K6,L6⟩:=OU.out.said (by rw [HS.out];exact E6) hgU
  obtain ⟨w7,hw7⟩:∃ w7,w7=w6.setCell ⟨q,2,none⟩ (.slice (some ⟨g6,0,none⟩) S.length cap6):=⟨_,rfl⟩
  have K7:w7.heap[q]? = some (.cells #[.int .i64 r.i,.int .i64 r.u,.slice (some ⟨g6,0,none⟩) S.length cap6,.slice (some ⟨gl,0,none⟩) r.ls.length lc] 33 (0,0)):=by rw [hw7];exact qQ0 K6
  have Z7:qI3 (w.heap.size+2) [.int .i64 0,.int .i64 0,.int .i64 0,.slice none 0 0,.slice none 0 0] w7:=by rw [hw7];exact Z6.other (by show q≠_;omega) _
  have B7:Hid (Below w.heap.size w w7):=by show Below _ _ _;rw [hw7];exact B6.setCell (by show w.heap.size≤q;omega) _
  have E7:Hid (qB1 w7 (w.heap.size+3) (.slice (some ⟨g6,0,none⟩) S.length cap6) S):=by
   show qB1 _ _ _ _
   rw [hw7]
   exact qA0 E6 (fun g e=>by obtain ⟨cur,hcc,_⟩:=qD1 E6 e;exact Below.heap_setCell _ _ _ _ (qK8 hcc K6 (by decide)))
  have L7:Hid (qA1 w7 (w.heap.size+3) (.slice (some ⟨gl,0,none⟩) r.ls.length lc) r.ls):=by
   show qA1 _ _ _ _
   rw [hw7]
   exact qA0 L6 (fun g e=>by obtain ⟨cur,hcc,_⟩:=qC6 L6 e;exact Below.heap_setCell _ _ _ _ (qK8 hcc K6 (by decide)))
  have k2:=qA9 K6 2
  simp at k2
  have kf2:=qU2 K6 2
  have hq6:=(Array.getElem?_eq_some_iff.1 K6).1
  clear hown6 hgrow6 hnil6 hgU E6 Z6 B6 L6 x0 x1 x2 x3 x4 hxl hxl2 o2 hql RU PU AU OU hU O5
  go_upto_region 24 with fail
  rw [← hw7]
  clear hw7 k2 kf2 hq6
  have o0:=qA9 K7 0
  have o1:=qA9 K7 1
  have o2:=qA9 K7 2
  have o3:=qA9 K7 3
  simp at o0 o1 o2 o3
  have hql:=(Array.getElem?_eq_some_iff.1 K7).1
  have z0:=Z7.1 0 _ rfl
  have z1:=Z7.1 1 _ rfl
  have z2:=Z7.1 2 _ rfl
  have z3:=Z7.1 3 _ rfl
  have z4:=Z7.1 4 _ rfl
  have f0:=Z7.2 0
  have f1:=Z7.2 1
  have f2:=Z7.2 2
  have f3:=Z7.2 3
  have f4:=Z7.2 4
  have hzl:w.heap.size+2 < w7.heap.size:=by omega
  have hqn:w.heap.size+2≠q:=by omega
  clear K7 Z7 K6
  go_wp2_with fail
  refine bodyPost_ret (v:=.agg #[.int .i64 0,.int .i64 r.i,.int .i64 r.u,.slice (some ⟨g6,0,none⟩) S.length cap6,.slice (some ⟨gl,0,none⟩) r.ls.length lc]) (by simp [results,Tryz.results49,go_sem,z0,z1,z2,z3,z4,hzl]) rfl ?_
  refine ⟨(((((B7.out.setCell (by show w.heap.size≤w.heap.size+2;omega) _).setCell (by show w.heap.size≤w.heap.size+2;omega) _).setCell (by show w.heap.size≤w.heap.size+2;omega) _).setCell (by show w.heap.size≤w.heap.size+2;omega) _).setCell (by show w.heap.size≤w.heap.size+2;omega) _),fun q=>absurd rfl q,fun _=>?_⟩
  refine ⟨some ⟨g6,0,none⟩,cap6,(some ⟨gl,0,none⟩),lc,rfl,qC0 (qA0 E7.out (fun g e=>?_)) (by omega),qB0 (qA0 L7.out (fun g e=>?_)) (by omega)⟩
  ·obtain ⟨cur,hcc,hgg⟩:=qD1 E7.out e
   rw [Below.heap_setCell _ _ _ _ (by show g≠w.heap.size+2;omega),Below.heap_setCell _ _ _ _ (by show g≠w.heap.size+2;omega),Below.heap_setCell _ _ _ _ (by show g≠w.heap.size+2;omega),Below.heap_setCell _ _ _ _ (by show g≠w.heap.size+2;omega),Below.heap_setCell _ _ _ _ (by show g≠w.heap.size+2;omega)]
  ·obtain ⟨cur,hcc,hgg⟩:=qC6 L7.out e
   rw [Below.heap_setCell _ _ _ _ (by show g≠w.heap.size+2;omega),Below.heap_setCell _ _ _ _ (by show g≠w.heap.size+2;omega),Below.heap_setCell _ _ _ _ (by show g≠w.heap.size+2;omega),Below.heap_setCell _ _ _ _ (by show g≠w.heap.size+2;omega),Below.heap_setCell _ _ _ _ (by show g≠w.heap.size+2;omega)]
 ·have kb:(k != 0)=true:=by simp [hk0]
  have z0:=O5.out.ev.rs.1 0 _ rfl
  have z1:=O5.out.ev.rs.1 1 _ rfl
  have z2:=O5.out.ev.rs.1 2 _ rfl
  have z3:=O5.out.ev.rs.1 3 _ rfl
  have z4:=O5.out.ev.rs.1 4 _ rfl
  have f0:=O5.out.ev.rs.2 0
  have f1:=O5.out.ev.rs.2 1
  have f2:=O5.out.ev.rs.2 2
  have f3:=O5.out.ev.rs.2 3
  have f4:=O5.out.ev.rs.2 4
  have hzl:=O5.out.ev.lt
  go_wp2_with fail
  refine bodyPost_ret (v:=.agg #[.int .i64 k,.int .i64 0,.int .i64 0,.slice none 0 0,.slice none 0 0]) (by simp [results,Tryz.results49,go_sem,z0,z1,z2,z3,z4,hzl]) rfl ?_
  exact ⟨(((((O5.out.ev.bl.setCell (by show w.heap.size≤w.heap.size+2;omega) _).setCell (by show w.heap.size≤w.heap.size+2;omega) _).setCell (by show w.heap.size≤w.heap.size+2;omega) _).setCell (by show w.heap.size≤w.heap.size+2;omega) _).setCell (by show w.heap.size≤w.heap.size+2;omega) _),fun _=>rfl,fun q=>absurd q (by first | assumption | decide)⟩
theorem QM4 (E:qH0) (r:qF4) (a:Option Addr) (m cap:Nat) (cs:List qA3) (x:StI) (w:World) (hr:qD9 w r) (hN:qL0 r) (hsm:∀ p,r.la=some p→∃ b0 o0,p=⟨b0,o0,none⟩∧b0 < w.heap.size) (hc:qA6 w a m cs) (hEC:qN0 E cs) (hm:0 < m) (hm8:m≤8) (hRp:RpS E r.ss r.ls) (hst:qC4 x=0) (hsx:qD7 r.ss x=false) (p:Nat) (hp:qB4 E r.ss x.e=(p:Int)) (h40:r.sn < 40) (hk1':x.k=1) (c:qA3) (hpc:cs[p]? = some c) (gs:List GrI) (hg:QJ2 c.zs gs) (k:Int) (L:List LkI) (hI:∀ (b bx g o:Nat) (W:World),IsA W b r g o c gs bx x→qH7 77 #[.pointer (some ⟨b,0,none⟩),.pointer (some ⟨g,o,none⟩),.pointer (some ⟨bx,0,none⟩)] k L W) (hk0:k≠0) :
  Calls Tryz.prog 49 #[.agg #[.int .i64 r.i,.int .i64 r.u,.slice r.sa r.sn r.sc,.slice r.la r.ln r.lc],.slice a m cap,.agg #[.int .i64 x.k,.int .i64 x.e,.int .i64 x.f,.int .i64 x.s,.int .i64 x.n]] w fun d w'=>EndS r k [] [] w d w':=by
 have hsl:r.ss.length=r.sn:=hr.said.1
 have hll:r.ls.length=r.ln:=hr.locks.1
 have hs40:r.sn≤40:=by have:=hRp.len;omega
 have hl200:r.ln≤200:=by have:=(QF6 hRp.lk).1;omega
 have hs40':(r.sn:Int)≤40:=by omega
 have HR:Hid (∀ W,Below w.heap.size w W→qD9 W r∧qA6 W a m cs∧(∀ p,r.la=some p→∃ b0 o0,p=⟨b0,o0,none⟩∧b0 < W.heap.size)):=fun W hb=>⟨hr.below hb,hc.below hb,fun p e=>by obtain ⟨b0,o0,q,hl⟩:=hsm p e;exact ⟨b0,o0,q,Nat.lt_of_lt_of_le hl hb.size⟩⟩
 have HSL:Hid (r.ss.length=r.sn∧r.ls.length=r.ln):=⟨hsl,hll⟩
 have HN:Hid (qL0 r):=hN
 have HEC:Hid (qN0 E cs):=hEC
 have HRP:Hid (RpS E r.ss r.ls):=hRp
 have HF:Hid (∀ W,qS7 W (w.heap.size+1) 0 x→Calls Tryz.prog 74 #[.pointer (some ⟨w.heap.size+1,0,none⟩)] W fun e w'=>e = .returned (.int .i64 0)∧W=w'):=fun W q=>by rw [← hst];exact qN5 _ _ x W q
 obtain ⟨V,hV⟩:∃ V,V=((w.alloc (.cells #[.int .i64 r.i,.int .i64 r.u,.slice r.sa r.sn r.sc,.slice r.la r.ln r.lc] 33)).alloc (.cells #[.int .i64 x.k,.int .i64 x.e,.int .i64 x.f,.int .i64 x.s,.int .i64 x.n] 43)).alloc (.cells #[.int .i64 0,.int .i64 0,.int .i64 0,.slice none 0 0,.slice none 0 0] 47):=⟨_,rfl⟩
 have V0:Hid (EV w r x V):=by show EV w r x V;rw [hV];exact EV.new w r x
 obtain ⟨⟨hk1,hk2⟩,⟨he1,he2⟩,⟨hn1,hn2⟩,_⟩:=qH9 hst
 have HX0:Hid (qC4 x=0):=hst
 have HX1:Hid (x.k=1):=hk1'
 have HSD:Hid (∀ W,EV w r x W→Calls Tryz.prog 75 #[.pointer (some ⟨w.heap.size,0,none⟩),.agg #[.int .i64 x.k,.int .i64 x.e,.int .i64 x.f,.int .i64 x.s,.int .i64 x.n]] W fun d w'=>d = .returned (.bool false)∧Below W.heap.size W w'):=fun W q=>by rw [← hsx];exact qM1 _ r x W q.rb (HR.out _ q.bl).1.said (by omega)
 have h40':(r.sn:Int) < 40:=by omega
 have hpl:p < m:=by
  have:=(List.getElem?_eq_some_iff.1 hpc).1
  have:=hc.len
  omega
 have hpl':(p:Int) < (m:Int):=by omega
 have hp0':¬ ((p:Int) < 0):=by omega
 obtain ⟨g,off,c',rfl,hc',_,_⟩:=hc.at hpl
 obtain rfl:c=c':=Option.some.inj (hpc.symm.trans hc')
 have HIS:Hid (∀ W,EV w r x W→qH7 77 #[.pointer (some ⟨w.heap.size,0,none⟩),.pointer (some ⟨g,off+p * 5,none⟩),.pointer (some ⟨w.heap.size+1,0,none⟩)] k L W):=fun W q=>by
  obtain ⟨hr1,hc1,hs1⟩:=HR.out _ q.bl
  obtain ⟨⟨d1,_,_,d4⟩,_⟩:=HEC.out.cf _ c hpc
  obtain ⟨g',off',c'',e',hc'',hat',hci'⟩:=hc1.at hpl
  cases e'
  obtain rfl:c=c'':=Option.some.inj (hpc.symm.trans hc'')
  exact hI _ _ _ _ W ⟨q.rb,hr1,by omega,HN.out.l,hs1,HRP.out.lk,hat',hci',d1,d4,hg,q.xa,HX0.out,HX1.out⟩
 unfold qH7 at HIS
 have k1:(x.k==1)=true:=by simp [hk1']
 have HOF:Hid (∀ W,EV w r x W→Calls Tryz.prog 76 #[.pointer (some ⟨w.heap.size,0,none⟩),.slice (some ⟨g,off,none⟩) m cap,.int .i64 x.e] W fun d w'=>d = .returned (.int .i64 (p:Int))∧Below W.heap.size W w'):=fun W q=>by rw [← hp];exact QM3 E _ r _ m cap cs x.e W HEC.out.es q.rb (HR.out _ q.bl).1.said (by omega) (HR.out _ q.bl).2.1 hm hm8 ⟨he1,he2⟩
 have kb:(k != 0)=true:=by simp [hk0]
 clear hsx hI hpc hc' hk1' hp
 clear hr hN hsm hc hEC hRp hsl hll hst
 go_enter Tryz.func49,Tryz.ntmps49
 go_upto_region 1 with fail
 rw [← hV]
 clear hV
 go_wp2_with fail
 refine (HF.out _ V0.out.xa).mono ?_
 rintro d w1 ⟨rfl,rfl⟩
 have a0:=V0.out.rb.1
 have a1:=V0.out.rb.2.1
 have a2:=V0.out.rb.2.2.1
 have a3:=V0.out.rb.2.2.2
 have hvl:w.heap.size < V.heap.size:=by have:=V0.out.lt;omega
 have HCP:=qT7 r V (HR.out _ V0.out.bl).1 HN.out (by omega) (by omega)
 go_wp2_with fail
 refine HCP.mono ?_
 clear HCP
 rintro d w2 ⟨gs_,sc,gl,lc,rfl,ho1,ho2,hb2⟩
 obtain ⟨Y,hY⟩:∃ Y,Y=w2.alloc (.cells #[.int .i64 r.i,.int .i64 r.u,.slice (some ⟨gs_,0,none⟩) r.sn sc,.slice (some ⟨gl,0,none⟩) r.ln lc] 33):=⟨_,rfl⟩
 have AY:Below w2.heap.size w2 Y:=by rw [hY];exact zN
 have hvl3:=V0.out.lt
 have hs2:=hb2.size
 have O1:Hid (OX w r x w2.heap.size gs_ sc (some ⟨gl,0,none⟩) lc r.ls Y):=by
  refine ⟨(V0.out.below hb2).below AY,?_,qC0 (ho1.below AY) (by omega),?_,by omega⟩
  ·rw [hY,HSL.out.2]
   exact qP5 w2 _
  ·rw [HSL.out.2]
   exact qB0 (ho2.below AY) (by omega)
 have hq2:w.heap.size+2 < w2.heap.size:=by omega
 clear a0 a1 a2 a3 hvl hvl3 hs2 ho1 ho2 hb2 AY V0
 go_upto_region 5 with fail
 rw [← hY]
 clear hY
 generalize w2.heap.size=q at O1 hq2 ⊢
 obtain ⟨x0,x1,x2,x3,x4⟩:=O1.out.ev.xa
 simp only [Nat.zero_add] at x0 x1 x2 x3 x4
 have hxl:w.heap.size+1 < _:=Nat.lt_of_succ_lt O1.out.ev.lt
 go_wp2_with fail
 refine (HSD.out _ O1.out.ev).mono ?_
 rintro d w3 ⟨rfl,hb3⟩
 have O3:=qC2 (O1.out.below hb3)
 clear hb3 O1
 clear x0 x1 x2 x3 x4 hxl
 obtain ⟨x0,x1,x2,x3,x4⟩:=O3.out.ev.xa
 simp only [Nat.zero_add] at x0 x1 x2 x3 x4
 have hxl:w.heap.size+1 < _:=Nat.lt_of_succ_lt O3.out.ev.lt
 go_wp2_with fail
 refine (HOF.out _ O3.out.ev).mono ?_
 rintro d w4 ⟨rfl,hb4⟩
 have O4:=qC2 (O3.out.below hb4)
 clear hb4 O3
 clear x0 x1 x2 x3 x4 hxl
 have a2:=O4.out.ev.rb.2.2.1
 have hal:w.heap.size < w4.heap.size:=by have:=O4.out.ev.lt;omega
 obtain ⟨x0,x1,x2,x3,x4⟩:=O4.out.ev.xa
 simp only [Nat.zero_add] at x0 x1 x2 x3 x4
 have hxl:w.heap.size+1 < _:=Nat.lt_of_succ_lt O4.out.ev.lt
 go_wp2_with fail
 refine (HIS.out _ O4.out.ev).mono ?_
 rintro d w5 ⟨la',lc',rfl,ho5,hb5⟩
 obtain ⟨T,hT⟩:∃ T,T=w5.alloc (.cells #[.int .i64 k,.slice la' L.length lc'] 124):=⟨_,rfl⟩
 have AT:Below w5.heap.size w5 T:=by rw [hT];exact zN
 have O5:=qC2 ((O4.out.below hb5).below AT)
 have XT:Hid (qE5 w5.heap.size [.int .i64 k,.slice la' L.length lc'] T∧w5.heap.size < T.heap.size):=by rw [hT];exact ⟨(qE0 w5 _ _).out,by simp⟩
 have LT:Hid (qA1 T (w.heap.size+3) (.slice la' L.length lc') L):=qB0 (ho5.below AT) (by have:=O4.out.ev.lt;omega)
 clear hb5 ho5 AT a2 hal O4
 clear x0 x1 x2 x3 x4 hxl
 go_upto_region 15 with fail
 rw [← hT]
 clear hT
 generalize w5.heap.size=q5 at XT ⊢
 have t0:=XT.out.1 0 _ rfl
 have t1:=XT.out.1 1 _ rfl
 have htl:=XT.out.2
 have z0:=O5.out.ev.rs.1 0 _ rfl
 have z1:=O5.out.ev.rs.1 1 _ rfl
 have z2:=O5.out.ev.rs.1 2 _ rfl
 have z3:=O5.out.ev.rs.1 3 _ rfl
 have z4:=O5.out.ev.rs.1 4 _ rfl
 have f0:=O5.out.ev.rs.2 0
 have f1:=O5.out.ev.rs.2 1
 have f2:=O5.out.ev.rs.2 2
 have f3:=O5.out.ev.rs.2 3
 have f4:=O5.out.ev.rs.2 4
 have hzl:=O5.out.ev.lt
 go_wp2_with fail
 refine bodyPost_ret (v:=.agg #[.int .i64 k,.int .i64 0,.int .i64 0,.slice none 0 0,.slice none 0 0]) (by simp [results,Tryz.results49,go_sem,z0,z1,z2,z3,z4,hzl]) rfl ?_
 exact ⟨(((((O5.out.ev.bl.setCell (by show w.heap.size≤w.heap.size+2;omega) _).setCell (by show w.heap.size≤w.heap.size+2;omega) _).setCell (by show w.heap.size≤w.heap.size+2;omega) _).setCell (by show w.heap.size≤w.heap.size+2;omega) _).setCell (by show w.heap.size≤w.heap.size+2;omega) _),fun _=>rfl,fun q=>absurd q (by first | assumption | decide)⟩
theorem QP5 (E:qH0) (r:qF4) (a:Option Addr) (m cap:Nat) (cs:List qA3) (x:StI) (w:World) (hr:qD9 w r) (hN:qL0 r) (hsm:∀ p,r.la=some p→∃ b0 o0,p=⟨b0,o0,none⟩∧b0 < w.heap.size) (hc:qA6 w a m cs) (hEC:qN0 E cs) (hm:0 < m) (hm8:m≤8) (hRp:RpS E r.ss r.ls) (hst:qC4 x=0) (hsx:qD7 r.ss x=false) (p:Nat) (hp:qB4 E r.ss x.e=(p:Int)) (h40:r.sn < 40) (hk1':x.k=1) (c:qA3) (hpc:cs[p]? = some c) (gs:List GrI) (hg:QJ2 c.zs gs) (k:Int) (L:List LkI) (hI:∀ (b bx g o:Nat) (W:World),IsA W b r g o c gs bx x→qH7 77 #[.pointer (some ⟨b,0,none⟩),.pointer (some ⟨g,o,none⟩),.pointer (some ⟨bx,0,none⟩)] k L W) (hk0:k=0) (S:List StI) (hS:r.ss++[x]=S) :
  Calls Tryz.prog 49 #[.agg #[.int .i64 r.i,.int .i64 r.u,.slice r.sa r.sn r.sc,.slice r.la r.ln r.lc],.slice a m cap,.agg #[.int .i64 x.k,.int .i64 x.e,.int .i64 x.f,.int .i64 x.s,.int .i64 x.n]] w fun d w'=>EndS r 0 S L w d w':=by
 have hsl:r.ss.length=r.sn:=hr.said.1
 have hll:r.ls.length=r.ln:=hr.locks.1
 have hs40:r.sn≤40:=by have:=hRp.len;omega
 have hl200:r.ln≤200:=by have:=(QF6 hRp.lk).1;omega
 have hs40':(r.sn:Int)≤40:=by omega
 have HR:Hid (∀ W,Below w.heap.size w W→qD9 W r∧qA6 W a m cs∧(∀ p,r.la=some p→∃ b0 o0,p=⟨b0,o0,none⟩∧b0 < W.heap.size)):=fun W hb=>⟨hr.below hb,hc.below hb,fun p e=>by obtain ⟨b0,o0,q,hl⟩:=hsm p e;exact ⟨b0,o0,q,Nat.lt_of_lt_of_le hl hb.size⟩⟩
 have HSL:Hid (r.ss.length=r.sn∧r.ls.length=r.ln):=⟨hsl,hll⟩
 have HN:Hid (qL0 r):=hN
 have HEC:Hid (qN0 E cs):=hEC
 have HRP:Hid (RpS E r.ss r.ls):=hRp
 have HF:Hid (∀ W,qS7 W (w.heap.size+1) 0 x→Calls Tryz.prog 74 #[.pointer (some ⟨w.heap.size+1,0,none⟩)] W fun e w'=>e = .returned (.int .i64 0)∧W=w'):=fun W q=>by rw [← hst];exact qN5 _ _ x W q
 obtain ⟨V,hV⟩:∃ V,V=((w.alloc (.cells #[.int .i64 r.i,.int .i64 r.u,.slice r.sa r.sn r.sc,.slice r.la r.ln r.lc] 33)).alloc (.cells #[.int .i64 x.k,.int .i64 x.e,.int .i64 x.f,.int .i64 x.s,.int .i64 x.n] 43)).alloc (.cells #[.int .i64 0,.int .i64 0,.int .i64 0,.slice none 0 0,.slice none 0 0] 47):=⟨_,rfl⟩
 have V0:Hid (EV w r x V):=by show EV w r x V;rw [hV];exact EV.new w r x
 obtain ⟨⟨hk1,hk2⟩,⟨he1,he2⟩,⟨hn1,hn2⟩,_⟩:=qH9 hst
 have HX0:Hid (qC4 x=0):=hst
 have HX1:Hid (x.k=1):=hk1'
 have HSD:Hid (∀ W,EV w r x W→Calls Tryz.prog 75 #[.pointer (some ⟨w.heap.size,0,none⟩),.agg #[.int .i64 x.k,.int .i64 x.e,.int .i64 x.f,.int .i64 x.s,.int .i64 x.n]] W fun d w'=>d = .returned (.bool false)∧Below W.heap.size W w'):=fun W q=>by rw [← hsx];exact qM1 _ r x W q.rb (HR.out _ q.bl).1.said (by omega)
 have h40':(r.sn:Int) < 40:=by omega
 have hpl:p < m:=by
  have:=(List.getElem?_eq_some_iff.1 hpc).1
  have:=hc.len
  omega
 have hpl':(p:Int) < (m:Int):=by omega
 have hp0':¬ ((p:Int) < 0):=by omega
 obtain ⟨g,off,c',rfl,hc',_,_⟩:=hc.at hpl
 obtain rfl:c=c':=Option.some.inj (hpc.symm.trans hc')
 have HIS:Hid (∀ W,EV w r x W→qH7 77 #[.pointer (some ⟨w.heap.size,0,none⟩),.pointer (some ⟨g,off+p * 5,none⟩),.pointer (some ⟨w.heap.size+1,0,none⟩)] k L W):=fun W q=>by
  obtain ⟨hr1,hc1,hs1⟩:=HR.out _ q.bl
  obtain ⟨⟨d1,_,_,d4⟩,_⟩:=HEC.out.cf _ c hpc
  obtain ⟨g',off',c'',e',hc'',hat',hci'⟩:=hc1.at hpl
  cases e'
  obtain rfl:c=c'':=Option.some.inj (hpc.symm.trans hc'')
  exact hI _ _ _ _ W ⟨q.rb,hr1,by omega,HN.out.l,hs1,HRP.out.lk,hat',hci',d1,d4,hg,q.xa,HX0.out,HX1.out⟩
 unfold qH7 at HIS
 have k1:(x.k==1)=true:=by simp [hk1']
 have HOF:Hid (∀ W,EV w r x W→Calls Tryz.prog 76 #[.pointer (some ⟨w.heap.size,0,none⟩),.slice (some ⟨g,off,none⟩) m cap,.int .i64 x.e] W fun d w'=>d = .returned (.int .i64 (p:Int))∧Below W.heap.size W w'):=fun W q=>by rw [← hp];exact QM3 E _ r _ m cap cs x.e W HEC.out.es q.rb (HR.out _ q.bl).1.said (by omega) (HR.out _ q.bl).2.1 hm hm8 ⟨he1,he2⟩
 clear hsx hI hpc hc' hk1' hp
 subst hk0
 have HS:Hid (r.ss++[x]=S):=hS
 clear hS
 obtain ⟨i0,hi,hz0,hz1,hz2⟩:=info_parts Tryz.info43
 clear hr hN hsm hc hEC hRp hsl hll hst
 go_enter Tryz.func49,Tryz.ntmps49
 go_upto_region 1 with fail
 rw [← hV]
 clear hV
 go_wp2_with fail
 refine (HF.out _ V0.out.xa).mono ?_
 rintro d w1 ⟨rfl,rfl⟩
 have a0:=V0.out.rb.1
 have a1:=V0.out.rb.2.1
 have a2:=V0.out.rb.2.2.1
 have a3:=V0.out.rb.2.2.2
 have hvl:w.heap.size < V.heap.size:=by have:=V0.out.lt;omega
 have HCP:=qT7 r V (HR.out _ V0.out.bl).1 HN.out (by omega) (by omega)
 go_wp2_with fail
 refine HCP.mono ?_
 clear HCP
 rintro d w2 ⟨gs_,sc,gl,lc,rfl,ho1,ho2,hb2⟩
 obtain ⟨Y,hY⟩:∃ Y,Y=w2.alloc (.cells #[.int .i64 r.i,.int .i64 r.u,.slice (some ⟨gs_,0,none⟩) r.sn sc,.slice (some ⟨gl,0,none⟩) r.ln lc] 33):=⟨_,rfl⟩
 have AY:Below w2.heap.size w2 Y:=by rw [hY];exact zN
 have hvl3:=V0.out.lt
 have hs2:=hb2.size
 have O1:Hid (OX w r x w2.heap.size gs_ sc (some ⟨gl,0,none⟩) lc r.ls Y):=by
  refine ⟨(V0.out.below hb2).below AY,?_,qC0 (ho1.below AY) (by omega),?_,by omega⟩
  ·rw [hY,HSL.out.2]
   exact qP5 w2 _
  ·rw [HSL.out.2]
   exact qB0 (ho2.below AY) (by omega)
 have hq2:w.heap.size+2 < w2.heap.size:=by omega
 clear a0 a1 a2 a3 hvl hvl3 hs2 ho1 ho2 hb2 AY V0
 go_upto_region 5 with fail
 rw [← hY]
 clear hY
 generalize w2.heap.size=q at O1 hq2 ⊢
 obtain ⟨x0,x1,x2,x3,x4⟩:=O1.out.ev.xa
 simp only [Nat.zero_add] at x0 x1 x2 x3 x4
 have hxl:w.heap.size+1 < _:=Nat.lt_of_succ_lt O1.out.ev.lt
 go_wp2_with fail
 refine (HSD.out _ O1.out.ev).mono ?_
 rintro d w3 ⟨rfl,hb3⟩
 have O3:=qC2 (O1.out.below hb3)
 clear hb3 O1
 clear x0 x1 x2 x3 x4 hxl
 obtain ⟨x0,x1,x2,x3,x4⟩:=O3.out.ev.xa
 simp only [Nat.zero_add] at x0 x1 x2 x3 x4
 have hxl:w.heap.size+1 < _:=Nat.lt_of_succ_lt O3.out.ev.lt
 go_wp2_with fail
 refine (HOF.out _ O3.out.ev).mono ?_
 rintro d w4 ⟨rfl,hb4⟩
 have O4:=qC2 (O3.out.below hb4)
 clear hb4 O3
 clear x0 x1 x2 x3 x4 hxl
 have a2:=O4.out.ev.rb.2.2.1
 have hal:w.heap.size < w4.heap.size:=by have:=O4.out.ev.lt;omega
 obtain ⟨x0,x1,x2,x3,x4⟩:=O4.out.ev.xa
 simp only [Nat.zero_add] at x0 x1 x2 x3 x4
 have hxl:w.heap.size+1 < _:=Nat.lt_of_succ_lt O4.out.ev.lt
 go_wp2_with fail
 refine (HIS.out _ O4.out.ev).mono ?_
 rintro d w5 ⟨la',lc',rfl,ho5,hb5⟩
 obtain ⟨T,hT⟩:∃ T,T=w5.alloc (.cells #[.int .i64 0,.slice la' L.length lc'] 124):=⟨_,rfl⟩
 have AT:Below w5.heap.size w5 T:=by rw [hT];exact zN
 have O5:=qC2 ((O4.out.below hb5).below AT)
 have XT:Hid (qE5 w5.heap.size [.int .i64 0,.slice la' L.length lc'] T∧w5.heap.size < T.heap.size):=by rw [hT];exact ⟨(qE0 w5 _ _).out,by simp⟩
 have LT:Hid (qA1 T (w.heap.size+3) (.slice la' L.length lc') L):=qB0 (ho5.below AT) (by have:=O4.out.ev.lt;omega)
 clear hb5 ho5 AT a2 hal O4
 clear x0 x1 x2 x3 x4 hxl
 go_upto_region 15 with fail
 rw [← hT]
 clear hT
 generalize w5.heap.size=q5 at XT ⊢
 have t0:=XT.out.1 0 _ rfl
 have t1:=XT.out.1 1 _ rfl
 have htl:=XT.out.2
 have o3:=qA9 O5.out.ob 3
 simp at o3
 have of3:=qU2 O5.out.ob 3
 have hql:=O5.out.qlt
 obtain ⟨T2,hT2⟩:∃ T2,T2=T.setCell ⟨q,3,none⟩ (.slice la' L.length lc'):=⟨_,rfl⟩
 have O6:Hid (OX w r x q gs_ sc la' lc' L T2):=by show OX _ _ _ _ _ _ _ _ _ _;rw [hT2];exact O5.out.lock LT.out
 go_upto_region 23 with fail
 rw [← hT2]
 clear hT2 o3 of3 hql t0 t1 htl XT LT O5
 obtain ⟨U,hU⟩:∃ U,U=T2.alloc (.cells #[.int .i64 x.k,.int .i64 x.e,.int .i64 x.f,.int .i64 x.s,.int .i64 x.n] 43):=⟨_,rfl⟩
 have AU:Below T2.heap.size T2 U:=by rw [hU];exact zN
 have OU:=qC2 (O6.out.below AU)
 have RU:Hid (U.ownsRow (w.heap.size+3) 43 5 (.slice (some ⟨gs_,0,none⟩) r.sn sc) r.sn (qC5 r.ss)):=by
  have q:=OU.out.so
  unfold qB1 at q
  rw [HSL.out.1] at q
  exact q
 have PU:Hid (qK9 U (some ⟨T2.heap.size,0,none⟩) 1 [x]):=by show qK9 _ _ _ _;rw [hU];exact QH8 T2 x _
 have hUs:w.heap.size+3≤U.heap.size:=by have:=OU.out.ev.lt;omega
 obtain ⟨x0,x1,x2,x3,x4⟩:=O6.out.ev.xa
 simp only [Nat.zero_add] at x0 x1 x2 x3 x4
 have hxl:w.heap.size+1 < _:=Nat.lt_of_succ_lt O6.out.ev.lt
 have o2:=qA9 O6.out.ob 2
 simp at o2
 have hql:=O6.out.qlt
 have hxl2:w.heap.size+1 < T2.heap.size:=hxl
 go_wp2_with (first | (at_builtin;rw [← hU];refine qR9 rfl _ _ 30 rfl (w.heap.size+3) 43 i0 (.agg #[.int .i64 0,.int .i64 0,.int .i64 0,.int .i64 0,.int .i64 0]) 5 40 Tryz.underlying30 hi hz0 hz1 hz2 rfl (by decide) (.slice (some ⟨gs_,0,none⟩) r.sn sc) r.sn (qC5 r.ss) rfl RU.out (by simp) (some ⟨T2.heap.size,0,none⟩) 1 1 (qC5 [x]) rfl (fun e=>by cases e) rfl (fun p e=>by cases e;exact qZ0 PU.out) (qO5 _) (by unfold maxLen;omega) (by omega) hUs ?_) | fail)
 intro v6 w6 hown6 hgrow6 hnil6
 have E6:qB1 w6 (w.heap.size+3) v6 S:=by
  rw [← HS.out]
  show World.ownsRow _ _ 43 5 _ (r.ss++[x]).length (qC5 (r.ss++[x]))
  rw [qN6,List.length_append,HSL.out.1]
  exact hown6
 obtain ⟨g6,cap6,hv6⟩:=E6.shape hnil6
 subst hv6
 have hgU:U.grownBy w6 (some gs_):=by first | exact hgrow6 | (rw [hU];exact hgrow6)
 obtain ⟨Z6,B6,K6,L6⟩:=OU.out.said (by rw [HS.out];exact E6) hgU
 obtain ⟨w7,hw7⟩:∃ w7,w7=w6.setCell ⟨q,2,none⟩ (.slice (some ⟨g6,0,none⟩) S.length cap6):=⟨_,rfl⟩
 have K7:w7.heap[q]? = some (.cells #[.int .i64 r.i,.int .i64 r.u,.slice (some ⟨g6,0,none⟩) S.length cap6,.slice la' L.length lc'] 33 (0,0)):=by rw [hw7];exact qQ0 K6
 have Z7:qI3 (w.heap.size+2) [.int .i64 0,.int .i64 0,.int .i64 0,.slice none 0 0,.slice none 0 0] w7:=by rw [hw7];exact Z6.other (by show q≠_;omega) _
 have B7:Hid (Below w.heap.size w w7):=by show Below _ _ _;rw [hw7];exact B6.setCell (by show w.heap.size≤q;omega) _
 have E7:Hid (qB1 w7 (w.heap.size+3) (.slice (some ⟨g6,0,none⟩) S.length cap6) S):=by
  show qB1 _ _ _ _
  rw [hw7]
  exact qA0 E6 (fun g e=>by obtain ⟨cur,hcc,_⟩:=qD1 E6 e;exact Below.heap_setCell _ _ _ _ (qK8 hcc K6 (by decide)))
 have L7:Hid (qA1 w7 (w.heap.size+3) (.slice la' L.length lc') L):=by
  show qA1 _ _ _ _
  rw [hw7]
  exact qA0 L6 (fun g e=>by obtain ⟨cur,hcc,_⟩:=qC6 L6 e;exact Below.heap_setCell _ _ _ _ (qK8 hcc K6 (by decide)))
 have k2:=qA9 K6 2
 simp at k2
 have kf2:=qU2 K6 2
 have hq6:=(Array.getElem?_eq_some_iff.1 K6).1
 clear hown6 hgrow6 hnil6 hgU E6 Z6 B6 L6 x0 x1 x2 x3 x4 hxl hxl2 o2 hql RU PU AU OU hU O6
 go_upto_region 24 with fail
 rw [← hw7]
 clear hw7 k2 kf2 hq6
 have o0:=qA9 K7 0
 have o1:=qA9 K7 1
 have o2:=qA9 K7 2
 have o3:=qA9 K7 3
 simp at o0 o1 o2 o3
 have hql:=(Array.getElem?_eq_some_iff.1 K7).1
 have z0:=Z7.1 0 _ rfl
 have z1:=Z7.1 1 _ rfl
 have z2:=Z7.1 2 _ rfl
 have z3:=Z7.1 3 _ rfl
 have z4:=Z7.1 4 _ rfl
 have f0:=Z7.2 0
 have f1:=Z7.2 1
 have f2:=Z7.2 2
 have f3:=Z7.2 3
 have f4:=Z7.2 4
 have hzl:w.heap.size+2 < w7.heap.size:=by omega
 have hqn:w.heap.size+2≠q:=by omega
 clear K7 Z7 K6
 go_wp2_with fail
 refine bodyPost_ret (v:=.agg #[.int .i64 0,.int .i64 r.i,.int .i64 r.u,.slice (some ⟨g6,0,none⟩) S.length cap6,.slice la' L.length lc']) (by simp [results,Tryz.results49,go_sem,z0,z1,z2,z3,z4,hzl]) rfl ?_
 refine ⟨(((((B7.out.setCell (by show w.heap.size≤w.heap.size+2;omega) _).setCell (by show w.heap.size≤w.heap.size+2;omega) _).setCell (by show w.heap.size≤w.heap.size+2;omega) _).setCell (by show w.heap.size≤w.heap.size+2;omega) _).setCell (by show w.heap.size≤w.heap.size+2;omega) _),fun q=>absurd rfl q,fun _=>?_⟩
 refine ⟨some ⟨g6,0,none⟩,cap6,la',lc',rfl,qC0 (qA0 E7.out (fun g e=>?_)) (by omega),qB0 (qA0 L7.out (fun g e=>?_)) (by omega)⟩
 ·obtain ⟨cur,hcc,hgg⟩:=qD1 E7.out e
  rw [Below.heap_setCell _ _ _ _ (by show g≠w.heap.size+2;omega),Below.heap_setCell _ _ _ _ (by show g≠w.heap.size+2;omega),Below.heap_setCell _ _ _ _ (by show g≠w.heap.size+2;omega),Below.heap_setCell _ _ _ _ (by show g≠w.heap.size+2;omega),Below.heap_setCell _ _ _ _ (by show g≠w.heap.size+2;omega)]
 ·obtain ⟨cur,hcc,hgg⟩:=qC6 L7.out e
  rw [Below.heap_setCell _ _ _ _ (by show g≠w.heap.size+2;omega),Below.heap_setCell _ _ _ _ (by show g≠w.heap.size+2;omega),Below.heap_setCell _ _ _ _ (by show g≠w.heap.size+2;omega),Below.heap_setCell _ _ _ _ (by show g≠w.heap.size+2;omega),Below.heap_setCell _ _ _ _ (by show g≠w.heap.size+2;omega)]

theorem QI9 {r:qF4} {k:Int} {S S':List StI} {L L':List LkI} {w:World} {d:Ending} {w':World} (h:EndS r k S L w d w') (hk:k≠0):EndS r k S' L' w d w':=⟨h.1,h.2.1,fun q=>absurd q hk⟩
theorem l8EndorseS_c (E:qH0) (r:qF4) (a:Option Addr) (m cap:Nat) (cs:List qA3) (x:StI) (w:World) (hr:qD9 w r) (hN:qL0 r) (hsm:∀ p,r.la=some p→∃ b0 o0,p=⟨b0,o0,none⟩∧b0 < w.heap.size) (hc:qA6 w a m cs) (hEC:qN0 E cs) (hm:0 < m) (hm8:m≤8) (hRp:RpS E r.ss r.ls) :
  Calls Tryz.prog 49 #[.agg #[.int .i64 r.i,.int .i64 r.u,.slice r.sa r.sn r.sc,.slice r.la r.ln r.lc],.slice a m cap,.agg #[.int .i64 x.k,.int .i64 x.e,.int .i64 x.f,.int .i64 x.s,.int .i64 x.n]] w fun d w'=>EndS r (qF3 E r.ss r.ls x) (qZ5 r.ss x) (qU0 E r.ss r.ls x) w d w':=by
 have hsl:r.ss.length=r.sn:=hr.said.1
 by_cases hst:qC4 x=0
 ·cases hsx:qD7 r.ss x
  ·have eC:qF3 E r.ss r.ls x=qF8 E r.ss r.ls x:=by unfold qF3;rw [if_pos hst,hsx,if_neg (by decide)]
   have eS:qZ5 r.ss x=r.ss++[x]:=by unfold qZ5;rw [hsx,if_neg (by decide)]
   have eL:qU0 E r.ss r.ls x=qE3 E r.ss r.ls x:=by unfold qU0;rw [hsx,if_neg (by decide)]
   rw [eC,eS,eL]
   have hml:cs.length=m:=hc.len
   have hel:E.es.length=m:=by rw [hEC.es,List.length_map,hml]
   obtain ⟨⟨hk1,hk2⟩,_⟩:=qH9 hst
   rcases known_in hRp (by omega) x.e with hkn | ⟨hp0,hpl⟩
   ·have hneg:qB4 E r.ss x.e < 0:=by omega
    have e:qF8 E r.ss r.ls x=4:=by unfold qF8;rw [if_pos hneg]
    rw [e]
    exact (l8End_none E r a m cap cs x w hr hN hsm hc hEC hm hm8 hRp hst hsx hneg).mono fun d w' h=>QI9 h (by decide)
   ·have hneg:¬ qB4 E r.ss x.e < 0:=by omega
    by_cases h40:40≤r.ss.length
    ·have e:qF8 E r.ss r.ls x=2:=by unfold qF8;rw [if_neg hneg,if_pos h40]
     rw [e]
     exact (l8End_many E r a m cap cs x w hr hN hsm hc hEC hm hm8 hRp hst hsx hp0 (by omega)).mono fun d w' h=>QI9 h (by decide)
    ·by_cases k1:x.k=1
     ·obtain ⟨p,hp⟩:=Int.eq_ofNat_of_zero_le hp0
      obtain ⟨c,hpc⟩:∃ c,cs[p]? = some c:=⟨_,List.getElem?_eq_getElem (by omega)⟩
      obtain ⟨_,gs,hg,hal,hcl⟩:=hEC.cf _ c hpc
      have hnk:qF8 E r.ss r.ls x=qH5 E r.ss r.ls p x:=by
       unfold qF8
       rw [if_neg hneg,if_neg h40,if_pos k1,hp]
       rfl
      have hnl:qE3 E r.ss r.ls x=qL4 r.ls c.cs x.e x.f x.s:=by
       unfold qE3
       rw [if_pos k1,hp]
       show qL4 r.ls (E.cl p) x.e x.f x.s=_
       rw [hcl]
      have go:∀ (k:Int) (L:List LkI),qH5 E r.ss r.ls p x=k→(k=0→qL4 r.ls c.cs x.e x.f x.s=L)→(∀ (b bx g o:Nat) (W:World),IsA W b r g o c gs bx x→qH7 77 #[.pointer (some ⟨b,0,none⟩),.pointer (some ⟨g,o,none⟩),.pointer (some ⟨bx,0,none⟩)] k L W)→Calls Tryz.prog 49 #[.agg #[.int .i64 r.i,.int .i64 r.u,.slice r.sa r.sn r.sc,.slice r.la r.ln r.lc],.slice a m cap,.agg #[.int .i64 x.k,.int .i64 x.e,.int .i64 x.f,.int .i64 x.s,.int .i64 x.n]] w fun d w'=>EndS r (qF8 E r.ss r.ls x) (r.ss++[x]) (qE3 E r.ss r.ls x) w d w':=fun k L hk hL hI=>by
       rw [hnk,hk]
       by_cases hk0:k=0
       ·rw [hnl,hL hk0,hk0]
        exact QP5 E r a m cap cs x w hr hN hsm hc hEC hm hm8 hRp hst hsx p hp (by omega) k1 c hpc gs hg k L hI hk0 _ rfl
       ·exact (QM4 E r a m cap cs x w hr hN hsm hc hEC hm hm8 hRp hst hsx p hp (by omega) k1 c hpc gs hg k L hI hk0).mono fun d w' h=>QI9 h hk0
      cases h1:qU6 r.ss x.e
      ·cases h2:qD7 r.ss (qT0 x)
       ·cases hw:alW (qA5 c.fs) gs x.f x.s
        ·refine go 8 [] ?_ (fun q=>by cases q) (fun b bx g o W q=>issueS_pol b r g o c gs bx x W q h1 h2 hw)
         unfold qH5
         rw [h1,h2,if_neg (by decide),hal,hw,if_pos rfl]
        ·refine go _ _ ?_ (fun _=>rfl) (fun b bx g o W q=>issueS_take b r g o c gs bx x W q h1 h2 hw)
         unfold qH5
         rw [h1,h2,if_neg (by decide),hal,hw,if_neg (by decide),hcl]
       ·refine go 9 [] ?_ (fun q=>by cases q) (fun b bx g o W q=>issueS_back b r g o c gs bx x W q h1 h2)
        unfold qH5
        rw [h1,h2,if_pos (by decide)]
      ·refine go 9 [] ?_ (fun q=>by cases q) (fun b bx g o W q=>issueS_seal b r g o c gs bx x W q h1)
       unfold qH5
       rw [h1,Bool.true_or,if_pos rfl]
     ·have hnl:qE3 E r.ss r.ls x=r.ls:=by
       unfold qE3
       rw [if_neg k1]
      rw [hnl]
      by_cases k2:x.k=2
      ·have e:qF8 E r.ss r.ls x=0:=by unfold qF8;rw [if_neg hneg,if_neg h40,if_neg k1,if_pos k2]
       rw [e]
       exact l8End_revoke E r a m cap cs x w hr hN hsm hc hEC hm hm8 hRp hst hsx hp0 (by omega) k2 _ rfl
      ·have e:qF8 E r.ss r.ls x=qD2 E r.ss x:=by unfold qF8;rw [if_neg hneg,if_neg h40,if_neg k1,if_neg k2]
       rw [e]
       by_cases k3:x.k=3
       ·exact l8End_next E r a m cap cs x w hr hN hsm hc hEC hm hm8 hRp hst hsx hp0 (by omega) k3 _ rfl _ rfl
       ·exact l8End_take E r a m cap cs x w hr hN hsm hc hEC hm hm8 hRp hst hsx hp0 (by omega) (by omega) _ rfl _ rfl
  ·have eC:qF3 E r.ss r.ls x=0:=by unfold qF3;rw [if_pos hst,if_pos hsx]
   have eS:qZ5 r.ss x=r.ss:=by unfold qZ5;rw [if_pos hsx]
   have eL:qU0 E r.ss r.ls x=r.ls:=by unfold qU0;rw [if_pos hsx]
   rw [eC,eS,eL]
   exact l8End_said E r a m cap cs x w hr hN hsm hc hEC hm hm8 hRp hst hsx
 ·have eC:qF3 E r.ss r.ls x=qC4 x:=by unfold qF3;rw [if_neg hst]
  rw [eC]
  exact (l8End_fault E r a m cap cs x w hr hN hsm hc hEC hm hm8 hRp _ rfl hst).mono fun d w' h=>QI9 h hst

end Go.Proofs.YtlhgjackapdmbaaGreatDoor
