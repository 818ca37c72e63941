/- Contracts. -/
import Derived.Test.YthogdfnaojijhaaGreatPa28
namespace Go.Proofs.YthogdfnaojijhaaGreat
set_option maxRecDepth 100000
set_option maxHeartbeats 8000000
open Go.RowKit
set_option linter.unusedVariables false
set_option linter.unusedSimpArgs false

section
open Go.RowKit Go.ChangeShapes Go.WideShapes
structure CrI where
 k:Int
 e:Int
 f:Int
 s:Int
 n:Int
 ga:Option Addr
 gn:Nat
 gc:Nat
 zs:List Int
deriving Inhabited
abbrev CrI.st (c:CrI):StI:=⟨c.k,c.e,c.f,c.s,c.n⟩
theorem Tryz.cells52:Tryz.prog.cellsOf 52=6:=by kernel_rfl
theorem Tryz.cellsR30:Tryz.prog.cellsOf 30=1:=by kernel_rfl
theorem cell1R {w:World} {base:Nat} {a:Addr} {v:Value} (h:w.cells? base a 1=some [v]):a.spot=none∧w.cell? ⟨a.block,a.off,none⟩=some v:=by
 have e:List.range 1=[0]:=rfl
 unfold World.cells? at h
 split at h
 ·rw [e] at h
  simp only [List.mapM_cons,List.mapM_nil,Option.bind_eq_bind,Option.bind_eq_some_iff,Option.pure_def,Option.some.injEq,List.cons.injEq] at h
  obtain ⟨x0,h0,y0,rfl,rfl,_⟩:=h
  obtain ⟨b,off,spot⟩:=a
  have hspot:spot=none:=by simpa [Addr.add] using World.cell?_spot h0
  subst hspot
  simp only [Addr.add] at h0
  exact ⟨rfl,by simpa using h0⟩
 ·cases h
theorem intsR_val {H:Type} {enc:TypeId × Value→H} {w:World} {base:Nat} {spare:Nat→Bool} {held:Bool} {fuel:Nat} {cs:List Value} {x:DataW H × List MemPlace} (h:DataW.trod enc Tryz.prog w base spare held fuel 30 cs=some x) :
  ∃ a n c,cs=[.slice a n c]:=by
 rcases Go.Deep.open_slice Tryz.underlying30 h with ⟨hcs,_⟩ | ⟨a,l,c,m,n,D,Pl,hcs,_⟩
 ·exact ⟨_,_,_,hcs⟩
 ·exact ⟨_,_,_,hcs⟩
theorem QR4 {H:Type} {enc:TypeId × Value→H} {w:World} {base:Nat} {spare:Nat→Bool} {held:Bool} {fuel:Nat} {a0:Option Addr} {len cap:Nat} {x:DataW H × List MemPlace} (h:DataW.trod enc Tryz.prog w base spare held fuel 30 [.slice a0 len cap]=some x) :
  ∃ zs:List Int,qC1 w a0 len zs∧len≤maxLen:=by
 rcases Go.Deep.open_slice Tryz.underlying30 h with ⟨hcs,_⟩ | ⟨a,l,c,m,n,D,Pl,hcs,hb,hl,hm,hmm,_,hel⟩
 ·simp at hcs
  obtain ⟨rfl,rfl,rfl⟩:=hcs
  exact ⟨[],⟨rfl,fun h=>by omega⟩,Nat.zero_le _⟩
 ·simp at hcs
  obtain ⟨rfl,rfl,rfl⟩:=hcs
  have hle:len≤m:=by rw [hmm];split <;> omega
  rw [QO3] at hel
  have hk:∀ i,i < len→∃ r:Int,w.cells? base (a.add (i * 1)) 1=some [.int .i64 r]:=fun i hi=>by
   obtain ⟨cs',hc,ht⟩:=hel i (by omega)
   obtain ⟨k,e0,_,_⟩:=DataW.trod_int Tryz.underlying2 ht
   exact ⟨k,by rw [hc,e0]⟩
  obtain ⟨f,hf⟩:=Go.Deep.choose_lt hk
  refine ⟨(List.range len).map f,⟨by simp,fun hp=>?_⟩,Nat.le_trans hl hm⟩
  obtain ⟨hsp,_⟩:=cell1R (hf 0 hp)
  obtain ⟨b,off,spot⟩:=a
  simp [Addr.add] at hsp
  subst hsp
  refine ⟨b,off,rfl,fun k r e=>?_⟩
  have hkl:k < len:=by
   by_cases q:k < len
   ·exact q
   ·rw [List.getElem?_eq_none (by simp;omega)] at e;cases e
  rw [List.getElem?_map,List.getElem?_range hkl] at e
  simp at e
  subst e
  obtain ⟨_,hr⟩:=cell1R (hf k hkl)
  have : ((⟨b,off,none⟩:Addr).add (k * 1))=⟨b,off+k * 1,none⟩:=Go.WideShapes.add_plain ..
  rw [this,Nat.mul_one] at hr
  exact hr
theorem QO2 {H:Type} {enc:TypeId × Value→H} {w:World} {base:Nat} {spare:Nat→Bool} {held:Bool} {fuel:Nat} {cs:List Value} {x:DataW H × List MemPlace} (h:DataW.trod enc Tryz.prog w base spare held fuel 52 cs=some x) :
  ∃ r:CrI,cs=[.int .i64 r.k,.int .i64 r.e,.int .i64 r.f,.int .i64 r.s,.int .i64 r.n,.slice r.ga r.gn r.gc]∧qC1 w r.ga r.gn r.zs∧r.gn≤maxLen:=by
 obtain ⟨xs,n,_,_,hl,hlen,hf⟩:=DataW.trod_struct Tryz.underlying52 h
 rw [Tryz.cells52] at hl
 obtain ⟨c0,c1,c2,c3,c4,c5,rfl⟩:=listSh hl
 obtain ⟨y0,y1,rfl⟩:=list2Sh hlen
 have g0:=hf 0 _ rfl
 have g1:=hf 1 _ rfl
 simp [Tryz.cellsR30,Tryz.cells25] at g0 g1
 obtain ⟨b1,e1⟩:=qR4 g0
 obtain ⟨sa,sn,sc,q2⟩:=intsR_val g1
 simp at e1 q2
 obtain ⟨rfl,rfl,rfl,rfl,rfl⟩:=e1
 subst q2
 obtain ⟨zs,hz⟩:=QR4 g1
 exact ⟨⟨b1.k,b1.e,b1.f,b1.s,b1.n,sa,sn,sc,zs⟩,rfl,hz.1,hz.2⟩
def QC0 (g n:Nat) (zs:List ShI) (X:World):Prop:=qX2 X g zs∧qU9 X g n
theorem QC0.hold {g n:Nat} {zs:List ShI} {W:World} (h:QC0 g n zs W) (hg:g < W.heap.size):qD6 g (g+1) (QC0 g n zs) W :=
 ⟨h,hg,fun X X' hX hk=>by
  have hb:=hk g (Nat.le_refl _) (by omega)
  have hc:∀ o,X'.cell? ⟨g,o,none⟩=X.cell? ⟨g,o,none⟩:=fun o=>World.cell?_of_block (a:=⟨g,o,none⟩) hb
  refine ⟨fun k x e=>?_,fun j hj=>?_,fun j=>(World.frozen?_of_block (a:=⟨g,j,none⟩) hb).trans (hX.2.2 j)⟩
  ·obtain ⟨h0,h1,h2,h3,h4,h5⟩:=hX.1 k x e
   exact ⟨(hc _).trans h0,(hc _).trans h1,(hc _).trans h2,(hc _).trans h3,(hc _).trans h4,(hc _).trans h5⟩
  ·obtain ⟨v,e⟩:=hX.2.1 j hj
   exact ⟨v,(hc _).trans e⟩⟩
theorem QC0.cast {g g' n:Nat} {zs:List ShI} {W:World} (h:qD6 g (g+1) (QC0 g n zs) W) (e:g=g'):qD6 g' (g'+1) (QC0 g' n zs) W:=e ▸ h
theorem QY0 (a:Option Addr) (n cap:Nat) (left:Int) (w:World) (hm:n≤maxLen) (h0:0≤left) (h1:left≤1048576) :
  Calls Tryz.prog 6 #[.slice a n cap,.int .i64 left] w fun e w'=>(∃ v:Int,e = .returned (.int .i64 v)∧v≤left∧(0≤v→n≤1048576))∧Below w.heap.size w w':=by
 unfold maxLen at hm
 have hm':(n:Int)≤9223372036854775807:=by omega
 by_cases hl:left - (n:Int) < 0
 ·go_enter Tryz.func6,Tryz.ntmps6
  go_wp2
  go_ret
  exact ⟨⟨-1,rfl,by omega,fun h=>by omega⟩,Below.refl _ _⟩
 ·have hl':¬ (left - (n:Int) < 0):=hl
  go_enter Tryz.func6,Tryz.ntmps6
  go_wp2
  go_ret
  exact ⟨⟨left - n,rfl,by omega,fun h=>by omega⟩,Below.refl _ _⟩
theorem szIntsR_c (a:Option Addr) (n cap:Nat) (left:Int) (w:World) (hm:n≤maxLen) (h0:0≤left) (h1:left≤1048576) :
  Calls Tryz.prog 62 #[.slice a n cap,.int .i64 left] w fun e w'=>(∃ v:Int,e = .returned (.int .i64 v)∧v≤left ∧ -1≤v∧(0≤v→n≤1048576))∧w=w':=by
 unfold maxLen at hm
 have hm':(n:Int)≤9223372036854775807:=by omega
 by_cases hl:left - (n:Int) < 0
 ·go_enter Tryz.func62,Tryz.ntmps62
  go_wp2
  go_ret
  exact ⟨⟨-1,rfl,by omega,by omega,fun h=>by omega⟩,rfl⟩
 ·have hl':¬ (left - (n:Int) < 0):=hl
  go_enter Tryz.func62,Tryz.ntmps62
  go_wp2
  go_ret
  exact ⟨⟨left - n,rfl,by omega,by omega,fun h=>by omega⟩,rfl⟩
theorem QT9 (c:CrI) (left:Int) (w:World) (hm:c.gn≤maxLen) (h0:0≤left) (h1:left≤1048576) :
  Calls Tryz.prog 46 #[.agg #[.int .i64 c.k,.int .i64 c.e,.int .i64 c.f,.int .i64 c.s,.int .i64 c.n,.slice c.ga c.gn c.gc],.int .i64 left] w fun e w'=>(∃ v:Int,e = .returned (.int .i64 v)∧v≤left∧(0≤v→c.gn≤1048576))∧Below w.heap.size w w':=by
 have BV:Below w.heap.size w (w.alloc (.cells #[.int .i64 c.k,.int .i64 c.e,.int .i64 c.f,.int .i64 c.s,.int .i64 c.n,.slice c.ga c.gn c.gc] 52)):=zN
 go_enter Tryz.func46,Tryz.ntmps46
 go_wp2_with fail
 refine (szIntsR_c c.ga c.gn c.gc left _ hm h0 h1).mono ?_
 rintro e w1 ⟨⟨v,rfl,hv1,hv2,hv3⟩,rfl⟩
 have HV3:Hid (0≤v→c.gn≤1048576):=hv3
 clear hv3
 by_cases hneg:v < 0
 ·go_wp2
  go_ret
  exact ⟨⟨-1,rfl,by omega,fun h=>by omega⟩,BV⟩
 ·go_wp2
  go_ret
  exact ⟨⟨v,rfl,hv1,HV3.out⟩,BV⟩
theorem QT8 (c:CrI) (w:World) (hn:c.gn≤1048576) (h:qC1 w c.ga c.gn c.zs) :
  Calls Tryz.prog 52 #[.agg #[.int .i64 c.k,.int .i64 c.e,.int .i64 c.f,.int .i64 c.s,.int .i64 c.n,.slice c.ga c.gn c.gc]] w fun e w'=>∃ g:Nat,e = .returned (.agg #[.int .i64 c.k,.int .i64 c.e,.int .i64 c.f,.int .i64 c.s,.int .i64 c.n,.slice (some ⟨g,0,none⟩) c.gn c.gn])∧w.heap.size≤g∧g < w'.heap.size∧qL3 g c.gn c.zs w'∧Below w.heap.size w w':=by
 have H:Hid (qC1 w c.ga c.gn c.zs):=h
 clear h
 obtain ⟨V0,hV0⟩:∃ V,V=w.alloc (.cells #[.int .i64 c.k,.int .i64 c.e,.int .i64 c.f,.int .i64 c.s,.int .i64 c.n,.slice c.ga c.gn c.gc] 52):=⟨_,rfl⟩
 obtain ⟨V1,hV1⟩:∃ V,V=V0.alloc (.cells #[.int .i64 0,.int .i64 0,.int .i64 0,.int .i64 0,.int .i64 0,.slice none 0 0] 32):=⟨_,rfl⟩
 obtain ⟨V,hV⟩:∃ V,V=V1.alloc (.cells #[.int .i64 0,.int .i64 0,.int .i64 0,.int .i64 0,.int .i64 0,.slice none 0 0] 32):=⟨_,rfl⟩
 have z0:V0.heap.size=w.heap.size+1:=by rw [hV0];simp
 have z1:V1.heap.size=w.heap.size+1+1:=by rw [hV1];simp [z0]
 have z2:V.heap.size=w.heap.size+1+1+1:=by rw [hV];simp [z1]
 have b0:Below w.heap.size w V0:=by rw [hV0];exact zN
 have b1:Below V0.heap.size V0 V1:=by rw [hV1];exact zN
 have b2:Below V1.heap.size V1 V:=by rw [hV];exact zN
 have X0:qI7 w.heap.size [.int .i64 c.k,.int .i64 c.e,.int .i64 c.f,.int .i64 c.s,.int .i64 c.n,.slice c.ga c.gn c.gc] V:=by
  have q:qI7 w.heap.size [.int .i64 c.k,.int .i64 c.e,.int .i64 c.f,.int .i64 c.s,.int .i64 c.n,.slice c.ga c.gn c.gc] V0:=by rw [hV0];exact qI5 _ _ _
  exact (q.below (by omega) b1).below (by omega) b2
 have Y0:qI7 (w.heap.size+1) [.int .i64 0,.int .i64 0,.int .i64 0,.int .i64 0,.int .i64 0,.slice none 0 0] V:=by
  have q:qI7 V0.heap.size [.int .i64 0,.int .i64 0,.int .i64 0,.int .i64 0,.int .i64 0,.slice none 0 0] V1:=by rw [hV1];exact qI5 _ _ _
  rw [z0] at q
  exact q.below (by omega) b2
 have O0:qI7 (w.heap.size+1+1) [.int .i64 0,.int .i64 0,.int .i64 0,.int .i64 0,.int .i64 0,.slice none 0 0] V:=by
  have q:qI7 V1.heap.size [.int .i64 0,.int .i64 0,.int .i64 0,.int .i64 0,.int .i64 0,.slice none 0 0] V:=by rw [hV];exact qI5 _ _ _
  rw [z1] at q
  exact q
 have B0:Hid (Below w.heap.size w V):=(b0.trans (b1.mono b0.size)).trans (b2.mono (by omega))
 have HV:Hid (V=((w.alloc (.cells #[.int .i64 c.k,.int .i64 c.e,.int .i64 c.f,.int .i64 c.s,.int .i64 c.n,.slice c.ga c.gn c.gc] 52)).alloc (.cells #[.int .i64 0,.int .i64 0,.int .i64 0,.int .i64 0,.int .i64 0,.slice none 0 0] 32)).alloc (.cells #[.int .i64 0,.int .i64 0,.int .i64 0,.int .i64 0,.int .i64 0,.slice none 0 0] 32)):=by rw [hV,hV1,hV0];exact rfl
 have Z2:Hid (V.heap.size=w.heap.size+1+1+1):=z2
 have XX:Hid (qI7 w.heap.size [.int .i64 c.k,.int .i64 c.e,.int .i64 c.f,.int .i64 c.s,.int .i64 c.n,.slice c.ga c.gn c.gc] V∧qI7 (w.heap.size+1) [.int .i64 0,.int .i64 0,.int .i64 0,.int .i64 0,.int .i64 0,.slice none 0 0] V∧qI7 (w.heap.size+1+1) [.int .i64 0,.int .i64 0,.int .i64 0,.int .i64 0,.int .i64 0,.slice none 0 0] V):=⟨X0,Y0,O0⟩
 clear hV hV1 hV0 z0 z1 z2 b0 b1 b2 X0 Y0 O0 V0 V1
 go_enter Tryz.func52,Tryz.ntmps52
 go_wp2_with fail
 rw [← HV.out]
 clear HV
 refine (QF7 c.st V).mono ?_
 rintro e w1 ⟨rfl,hb1⟩
 have hz1:w.heap.size+1+1+1≤w1.heap.size:=by have:=Z2.out;have:=hb1.size;omega
 obtain ⟨X1,Y1,O1⟩:=XX.out
 have X1:=X1.below (by have:=Z2.out;omega) hb1
 have Y1:=Y1.below (by have:=Z2.out;omega) hb1
 have O1:=O1.below (by have:=Z2.out;omega) hb1
 have B1:Below w.heap.size w w1:=B0.out.trans (hb1.mono B0.out.size)
 obtain ⟨U,hU⟩:∃ U,U=((((w1.setCell ⟨w.heap.size+1+1,0,none⟩ (.int .i64 c.k)).setCell ⟨w.heap.size+1+1,1,none⟩ (.int .i64 c.e)).setCell ⟨w.heap.size+1+1,2,none⟩ (.int .i64 c.f)).setCell ⟨w.heap.size+1+1,3,none⟩ (.int .i64 c.s)).setCell ⟨w.heap.size+1+1,4,none⟩ (.int .i64 c.n):=⟨_,rfl⟩
 have hw2:w.heap.size≤w.heap.size+1+1:=by omega
 have BU:Hid (Below w.heap.size w U):=by rw [hU];exact ((((B1.setCell hw2 _).setCell hw2 _).setCell hw2 _).setCell hw2 _).setCell hw2 _
 have ZU:Hid (U.heap.size=w1.heap.size):=by show _=_;rw [hU];simp
 have XU:Hid (qI7 w.heap.size [.int .i64 c.k,.int .i64 c.e,.int .i64 c.f,.int .i64 c.s,.int .i64 c.n,.slice c.ga c.gn c.gc] U∧qI7 (w.heap.size+1) [.int .i64 0,.int .i64 0,.int .i64 0,.int .i64 0,.int .i64 0,.slice none 0 0] U∧qI7 (w.heap.size+1+1) [.int .i64 c.k,.int .i64 c.e,.int .i64 c.f,.int .i64 c.s,.int .i64 c.n,.slice none 0 0] U):=by
  rw [hU]
  refine ⟨((((X1.other (p:=⟨w.heap.size+1+1,0,none⟩) (by simp only;omega) _).other (p:=⟨w.heap.size+1+1,1,none⟩) (by simp only;omega) _).other (p:=⟨w.heap.size+1+1,2,none⟩) (by simp only;omega) _).other (p:=⟨w.heap.size+1+1,3,none⟩) (by simp only;omega) _).other (p:=⟨w.heap.size+1+1,4,none⟩) (by simp only;omega) _,((((Y1.other (p:=⟨w.heap.size+1+1,0,none⟩) (by simp only;omega) _).other (p:=⟨w.heap.size+1+1,1,none⟩) (by simp only;omega) _).other (p:=⟨w.heap.size+1+1,2,none⟩) (by simp only;omega) _).other (p:=⟨w.heap.size+1+1,3,none⟩) (by simp only;omega) _).other (p:=⟨w.heap.size+1+1,4,none⟩) (by simp only;omega) _,?_⟩
  exact ((((O1.put 0 (by simp) _).put 1 (by simp) _).put 2 (by simp) _).put 3 (by simp) _).put 4 (by simp) _
 have o0:=O1.1 0 _ rfl
 have o1:=O1.1 1 _ rfl
 have o2:=O1.1 2 _ rfl
 have o3:=O1.1 3 _ rfl
 have o4:=O1.1 4 _ rfl
 have f0:=O1.2 0
 have f1:=O1.2 1
 have f2:=O1.2 2
 have f3:=O1.2 3
 have f4:=O1.2 4
 have x5:=X1.1 5 _ rfl
 have hlo:w.heap.size+1+1 < w1.heap.size:=by omega
 have hlx:w.heap.size < w1.heap.size:=by omega
 clear hb1 X1 Y1 O1 B1 XX
 go_wp2_with fail
 rw [← hU]
 clear hU o0 o1 o2 o3 o4 f0 f1 f2 f3 f4 x5 hlo hlx
 refine (qY1 c.ga c.gn c.gc c.zs U hn (H.out.below BU.out)).mono ?_
 rintro e w2 ⟨rfl,hat2,hlt2,hb2,hroom2⟩
 have hzU:w.heap.size+1+1+1≤U.heap.size:=by have:=ZU.out;omega
 have hs2:=hb2.size
 obtain ⟨X2,Y2,O2⟩:=XU.out
 have Y2:=Y2.below (by omega) hb2
 have O2:=O2.below (by omega) hb2
 have B2:Below w.heap.size w w2:=BU.out.trans (hb2.mono BU.out.size)
 obtain ⟨g,hg⟩:∃ g,g=U.heap.size:=⟨_,rfl⟩
 rw [← hg] at hat2 hroom2 hlt2 ⊢
 have hgw:w.heap.size+1+1 < g:=by omega
 clear hg
 obtain ⟨T,hT⟩:∃ T,T=w2.setCell ⟨w.heap.size+1+1,5,none⟩ (.slice (some ⟨g,0,none⟩) c.gn c.gn):=⟨_,rfl⟩
 have YT:qI7 (w.heap.size+1) [.int .i64 0,.int .i64 0,.int .i64 0,.int .i64 0,.int .i64 0,.slice none 0 0] T:=by rw [hT];exact Y2.other (p:=⟨w.heap.size+1+1,5,none⟩) (by simp only;omega) _
 have OT:qI7 (w.heap.size+1+1) [.int .i64 c.k,.int .i64 c.e,.int .i64 c.f,.int .i64 c.s,.int .i64 c.n,.slice (some ⟨g,0,none⟩) c.gn c.gn] T:=by rw [hT];exact O2.put 5 (by simp) _
 have BT:Below w.heap.size w T:=by rw [hT];exact B2.setCell hw2 _
 have sT:w2.heap.size≤T.heap.size:=by rw [hT];simp
 have CT:qL3 g c.gn c.zs T:=by
  rw [hT]
  have hk:∀ j,(⟨w.heap.size+1+1,5,none⟩:Addr)≠⟨g,j,none⟩:=fun j e=>by have:=congrArg Addr.block e;simp at this;omega
  refine ⟨fun k x e=>?_,fun j hj=>?_,fun j=>by rw [World.frozen?_setCell];exact hroom2.2 j⟩
  ·rw [World.cell?_setCell_other (h:=hk k)];exact hat2 k x e
  ·obtain ⟨v,e⟩:=hroom2.1 j hj
   exact ⟨v,by rw [World.cell?_setCell_other (h:=hk j)];exact e⟩
 have HCT:Hid (qL3 g c.gn c.zs T∧Below w.heap.size w T):=⟨CT,BT⟩
 have o5:=O2.1 5 _ rfl
 have f5:=O2.2 5
 have t0:=OT.1 0 _ rfl
 have t1:=OT.1 1 _ rfl
 have t2:=OT.1 2 _ rfl
 have t3:=OT.1 3 _ rfl
 have t4:=OT.1 4 _ rfl
 have t5:=OT.1 5 _ rfl
 have y0:=YT.1 0 _ rfl
 have y1:=YT.1 1 _ rfl
 have y2:=YT.1 2 _ rfl
 have y3:=YT.1 3 _ rfl
 have y4:=YT.1 4 _ rfl
 have y5:=YT.1 5 _ rfl
 have g0:=YT.2 0
 have g1:=YT.2 1
 have g2:=YT.2 2
 have g3:=YT.2 3
 have g4:=YT.2 4
 have g5:=YT.2 5
 have hl1:w.heap.size+1 < T.heap.size:=by omega
 have hl2:w.heap.size+1+1 < T.heap.size:=by omega
 have hl3:w.heap.size+1+1 < w2.heap.size:=by omega
 have hgT:g < T.heap.size:=by omega
 clear hat2 hroom2 hb2 X2 Y2 O2 B2 OT YT BT CT XU
 go_upto_region 4 with fail
 rw [← hT]
 clear hT o5 f5
 go_wp2
 refine bodyPost_ret (v:=.agg #[.int .i64 c.k,.int .i64 c.e,.int .i64 c.f,.int .i64 c.s,.int .i64 c.n,.slice (some ⟨g,0,none⟩) c.gn c.gn]) (by simp [results,Tryz.results52,go_sem,y0,y1,y2,y3,y4,y5,hl1]) rfl ⟨g,rfl,by omega,by simp;omega,?_,?_⟩
 ·have hk:∀ i j,(⟨w.heap.size+1,i,none⟩:Addr)≠⟨g,j,none⟩:=fun i j e=>by have:=congrArg Addr.block e;simp at this;omega
  obtain ⟨⟨h1,h2,h3⟩,_⟩:=HCT.out
  refine ⟨fun k x e=>?_,fun j hj=>?_,fun j=>by simp only [World.frozen?_setCell];exact h3 j⟩
  ·rw [World.cell?_setCell_other (h:=hk 5 k),World.cell?_setCell_other (h:=hk 4 k),World.cell?_setCell_other (h:=hk 3 k),World.cell?_setCell_other (h:=hk 2 k),World.cell?_setCell_other (h:=hk 1 k),World.cell?_setCell_other (h:=hk 0 k)];exact h1 k x e
  ·obtain ⟨v,e⟩:=h2 j hj
   exact ⟨v,by rw [World.cell?_setCell_other (h:=hk 5 j),World.cell?_setCell_other (h:=hk 4 j),World.cell?_setCell_other (h:=hk 3 j),World.cell?_setCell_other (h:=hk 2 j),World.cell?_setCell_other (h:=hk 1 j),World.cell?_setCell_other (h:=hk 0 j)];exact e⟩
 ·have hw1:w.heap.size≤w.heap.size+1:=by omega
  exact (((((HCT.out.2.setCell hw1 _).setCell hw1 _).setCell hw1 _).setCell hw1 _).setCell hw1 _).setCell hw1 _
theorem QA5 (c:CrI) (g1 g2:Nat) (w:World) (hn:c.gn≤1048576) (hz:c.zs.length=c.gn) (h1:QX3 w g1 c.zs) (h2:QX3 w g2 c.zs) :
  Calls Tryz.prog 59 #[.agg #[.int .i64 c.k,.int .i64 c.e,.int .i64 c.f,.int .i64 c.s,.int .i64 c.n,.slice (some ⟨g1,0,none⟩) c.gn c.gn],.agg #[.int .i64 c.k,.int .i64 c.e,.int .i64 c.f,.int .i64 c.s,.int .i64 c.n,.slice (some ⟨g2,0,none⟩) c.gn c.gn]] w fun e w'=>e = .returned (.bool true)∧Below w.heap.size w w':=by
 obtain ⟨V,hV⟩:∃ V,V=(w.alloc (.cells #[.int .i64 c.k,.int .i64 c.e,.int .i64 c.f,.int .i64 c.s,.int .i64 c.n,.slice (some ⟨g1,0,none⟩) c.gn c.gn] 32)).alloc (.cells #[.int .i64 c.k,.int .i64 c.e,.int .i64 c.f,.int .i64 c.s,.int .i64 c.n,.slice (some ⟨g2,0,none⟩) c.gn c.gn] 32):=⟨_,rfl⟩
 have BV:Below w.heap.size w V:=by rw [hV];exact (zN).alloc (by simp) _
 have XV:Hid (qI7 w.heap.size [.int .i64 c.k,.int .i64 c.e,.int .i64 c.f,.int .i64 c.s,.int .i64 c.n,.slice (some ⟨g1,0,none⟩) c.gn c.gn] V):=by rw [hV];exact (qI5 w _ _).below (by simp) (zN)
 have YV:Hid (qI7 (w.heap.size+1) [.int .i64 c.k,.int .i64 c.e,.int .i64 c.f,.int .i64 c.s,.int .i64 c.n,.slice (some ⟨g2,0,none⟩) c.gn c.gn] V):=by
  rw [hV]
  have q:=qI5 (w.alloc (.cells #[.int .i64 c.k,.int .i64 c.e,.int .i64 c.f,.int .i64 c.s,.int .i64 c.n,.slice (some ⟨g1,0,none⟩) c.gn c.gn] 32)) #[.int .i64 c.k,.int .i64 c.e,.int .i64 c.f,.int .i64 c.s,.int .i64 c.n,.slice (some ⟨g2,0,none⟩) c.gn c.gn] 32
  simp only [World.size_alloc] at q
  exact q
 have hVs:w.heap.size+1+1≤V.heap.size:=by rw [hV];simp
 have I1:Hid (qC1 V (some ⟨g1,0,none⟩) c.gn c.zs):=(qC1.of hz h1).below BV
 have I2:Hid (qC1 V (some ⟨g2,0,none⟩) c.gn c.zs):=(qC1.of hz h2).below BV
 clear h1 h2
 go_enter Tryz.func59,Tryz.ntmps59
 go_wp2_with fail
 rw [← hV]
 clear hV
 refine (qX0 c.st _).mono ?_
 rintro e w1 ⟨rfl,hb1⟩
 have X1:=XV.out.below (by omega) hb1
 have Y1:=YV.out.below (by omega) hb1
 have x5:=X1.1 5 _ rfl
 have y5:=Y1.1 5 _ rfl
 have hs1:=hb1.size
 have J1:Hid (qC1 w1 (some ⟨g1,0,none⟩) c.gn c.zs):=I1.out.below hb1
 have J2:Hid (qC1 w1 (some ⟨g2,0,none⟩) c.gn c.zs):=I2.out.below hb1
 clear X1 Y1
 go_wp2_with fail
 refine (qW4 _ _ c.gn _ _ c.zs _ hn J1.out J2.out).mono ?_
 rintro e w2 ⟨rfl,hb2⟩
 go_wp2
 go_ret
 exact ⟨rfl,(BV.trans (hb1.mono BV.size)).trans (hb2.mono (by have:=BV.size;omega))⟩
end

structure CrO (w:World) (b o:Nat) (x:StI) (ga:Option Addr) (gn gc:Nat) (ys:List Int):Prop where
 st:qX1 w b o x
 sl:w.cell? ⟨b,o+5,none⟩=some (.slice ga gn gc)
 row:qC1 w ga gn ys
theorem CrO.lt {w:World} {b o:Nat} {x:StI} {ga:Option Addr} {gn gc:Nat} {ys:List Int} (h:CrO w b o x ga gn gc ys):b < w.heap.size:=zL w ⟨b,o+5,none⟩ h.sl
theorem CrO.below {w w':World} {b o:Nat} {x:StI} {ga:Option Addr} {gn gc:Nat} {ys:List Int} (h:CrO w b o x ga gn gc ys) (hb:Below w.heap.size w w'):CrO w' b o x ga gn gc ys :=
 ⟨h.st.below hb h.lt,(hb.cell (p:=⟨b,o+5,none⟩) h.lt).trans h.sl,h.row.below hb⟩
theorem qS2 (a:Option Addr) (n cap:Nat) (zs:List ShI) (f:Int) (cb o:Nat) (x:StI) (ga:Option Addr) (gn gc:Nat) (ys:List Int) (w:World) (hn:n≤1048576) (hgn:gn≤1048576) (hf:inR f 1 2=true) (h:qD9 w a n zs) (hc:CrO w cb o x ga gn gc ys) :
  Calls Tryz.prog 48 #[.slice a n cap,.int .i64 f,.pointer (some ⟨cb,o,none⟩)] w fun e w'=>e = .returned (.int .i64 (vfL f zs x ys))∧Below w.heap.size w w':=by
 have H:Hid (qD9 w a n zs):=h
 have HC:Hid (CrO w cb o x ga gn gc ys):=hc
 have HZ:Hid (ys.length=gn):=hc.row.1
 have hn':(n:Int)≤1048576:=by omega
 have hgn':(gn:Int)≤1048576:=by omega
 obtain ⟨hf1,hf2⟩:=(qD2 f 1 2).1 hf
 obtain ⟨c,hcc⟩:∃ c,c=vfL f zs x ys:=⟨_,rfl⟩
 rw [← hcc]
 have HV:Hid (c=vfL f zs x ys):=hcc
 obtain ⟨s,hs⟩:∃ s,qB8 x=s:=⟨_,rfl⟩
 have HSC:Hid (qB8 x=s):=hs
 have hcl:=hc.lt
 clear h hc hf hcc
 by_cases s0:s=0
 ·have sb:(s != 0)=false:=by simp [s0]
  have HV2:Hid (c=if qG9 f ys=0 then (if qG8 zs x ys=true then 0 else 7) else qG9 f ys):=by show c=_;rw [HV.out];unfold vfL;rw [hs,if_pos s0]
  clear hs s0 HV
  have hST:=HC.out.st
  go_enter Tryz.func48,Tryz.ntmps48
  go_wp2_with (first | (go_at_call 26;refine (qU0 _ _ x _ hST).mono ?_;rintro e w' ⟨rfl,rfl⟩;rw [HSC.out]))
  clear hST
  go_loopw [8] (fun i wr=>∃ m:Nat,1≤m∧(m≤gn∨m=1)∧i = .int .i64 (m:Int)∧(∀ j x y,1≤j→j < m→ys[j - 1]? = some x→ys[j]? = some y→x < y)∧Below w.heap.size w wr) (fun i _=>gn+1 - (intOf i).toNat)
  case atStart=>exact ⟨1,Nat.le_refl _,.inr rfl,rfl,fun j x y h1 h2=>by omega,Below.refl _ _⟩
  case round =>
   obtain ⟨m,hm1,hmn,rfl,hr,hnx⟩:=hrel
   have HR:Hid (∀ j x y,1≤j→j < m→ys[j - 1]? = some x→ys[j]? = some y→x < y):=hr
   clear hr
   have c5:=(HC.out.below hnx).sl
   by_cases hlt:m < gn
   ·obtain ⟨k,hk⟩:∃ k,k+1=m:=⟨m - 1,by omega⟩
    obtain ⟨b,off,p,rfl,hp,hpa,hbl⟩:=HC.out.row.at (show k < gn by omega)
    obtain ⟨b',off',y,e',hy,hya,_⟩:=HC.out.row.at hlt
    cases e'
    have c0:=(hnx.cell (p:=⟨b,off+k,none⟩) hbl).trans hpa
    have c1:=(hnx.cell (p:=⟨b,off+m,none⟩) hbl).trans hya
    have hbw:b < wr.heap.size:=Nat.lt_of_lt_of_le hbl hnx.size
    have hcw:cb < wr.heap.size:=Nat.lt_of_lt_of_le hcl hnx.size
    have hlt':(m:Int) < (gn:Int):=by omega
    have hm0:(0:Int)≤(m:Int):=by omega
    have hk0:(0:Int)≤(k:Int):=by omega
    have hkn:(k:Int) < (gn:Int):=by omega
    have hwr:IntKind.i64.wrap ((m:Int) - 1)=(k:Int):=by rw [IntKind.wrap_i64];omega
    have HX:Hid (ys[m - 1]? = some p∧ys[m]? = some y):=⟨by rw [show m - 1=k by omega];exact hp,hy⟩
    clear hp hy hpa hya hk hmn
    by_cases hxy:p < y
    ·have HN:Hid (∀ j x y,1≤j→j < m+1→ys[j - 1]? = some x→ys[j]? = some y→x < y):=fun j x' y' h1 h2 e1 e2=>by
      by_cases q:j=m
      ·subst q
       rw [HX.out.1] at e1
       rw [HX.out.2] at e2
       cases e1;cases e2;exact hxy
      ·exact HR.out j x' y' h1 (by omega) e1 e2
     have hle:¬ (y≤p):=by omega
     go_wp2
     go_quiet (fail)
     go_wp2
     exact ⟨⟨m+1,by omega,.inl (by omega),by go_num,HN.out,below_drewN hnx _⟩,by simp [intOf];omega⟩
    ·have H1:Hid (c=1):=by
      have : qP5 ys=false:=by unfold qP5;exact decide_eq_false (QU7 (k:=m) HX.out.1 HX.out.2 (by omega) hxy)
      show c=1
      rw [HV2.out]
      have e:qG9 f ys=1:=by unfold qG9;rw [if_neg (by rw [this];simp)]
      rw [e];rfl
     have hle:y≤p:=by omega
     clear hxy
     go_wp2
     go_quiet (fail)
     go_wp2
     go_ret
     exact ⟨by rw [H1.out];rfl,below_drewN hnx _⟩
   ·have hlt':¬ ((m:Int) < (gn:Int)):=by omega
    have HRB:Hid (qP5 ys=true):=by
     show qP5 ys=true
     unfold qP5
     exact decide_eq_true (QL0 HZ.out (fun j x y h1 h2 e1 e2=>HR.out j x y h1 (by omega) e1 e2))
    have HV3:Hid (c=if qH7 f ys=true then (if (gn:Int) < 2 * f+1 then 7 else (if qG8 zs x ys=true then 0 else 7)) else 3):=by
     show c=_
     rw [HV2.out]
     unfold qG9
     rw [if_pos HRB.out,HZ.out]
     cases qH7 f ys
     ·simp
     ·by_cases q:(gn:Int) < 2 * f+1
      ·simp [q]
      ·simp [q]
    clear HV2 HRB HR hm1 hmn
    obtain ⟨U,hU⟩:∃ U,U=wr:=⟨_,rfl⟩
    rw [← hU] at hnx c5 ⊢
    clear hU
    go_wp2
    clear c5
    go_loopw [9] (fun i wr=>∃ k:Nat,k≤gn∧i = .int .i64 (k:Int)∧(∀ j y,j < k→ys[j]? = some y→inR y 1 (3 * f+1)=true)∧Below w.heap.size w wr) (fun i _=>gn - (intOf i).toNat)
    case atStart=>exact ⟨0,Nat.zero_le _,rfl,fun j y h=>by omega,hnx⟩
    case round =>
     obtain ⟨k,hk,rfl,hz,hnx2⟩:=hrel
     have HK0:Hid (∀ j y,j < k→ys[j]? = some y→inR y 1 (3 * f+1)=true):=hz
     clear hz
     have c5:=(HC.out.below hnx2).sl
     by_cases hlt:k < gn
     ·obtain ⟨b,off,p,rfl,hp,hpa,hbl⟩:=HC.out.row.at hlt
      have hltk:(k:Int) < (gn:Int):=by omega
      have c0:=(hnx2.cell (p:=⟨b,off+k,none⟩) hbl).trans hpa
      obtain ⟨t,ht⟩:∃ t,inR p 1 (3 * f+1)=t:=⟨_,rfl⟩
      have HX:Hid (ys[k]? = some p∧inR p 1 (3 * f+1)=t):=⟨hp,ht⟩
      clear hp hpa ht
      cases t
      ·have HE:Hid (c=3):=by
        show c=3
        have : qH7 f ys=false:=by
         cases q:qH7 f ys
         ·rfl
         ·unfold qH7 at q
          have:=List.all_eq_true.1 q p (List.mem_of_getElem? HX.out.1)
          rw [HX.out.2] at this
          cases this
        rw [HV3.out,this];rfl
       go_wp2_with (first | (go_at_call 65;refine (qL2 _ _ _ _).mono ?_;rintro e w' ⟨rfl,rfl⟩;rw [HX.out.2]))
       go_ret
       exact ⟨by rw [HE.out];rfl,hnx2⟩
      ·have HN:Hid (∀ j y,j < k+1→ys[j]? = some y→inR y 1 (3 * f+1)=true):=fun j y h1 e1=>by
        by_cases q:j=k
        ·subst q
         rw [HX.out.1] at e1
         cases e1
         exact HX.out.2
        ·exact HK0.out j y (by omega) e1
       go_wp2_with (first | (go_at_call 65;refine (qL2 _ _ _ _).mono ?_;rintro e w' ⟨rfl,rfl⟩;rw [HX.out.2]))
       exact ⟨⟨k+1,by omega,by go_num,HN.out,hnx2⟩,by simp [intOf];omega⟩
     ·have hltk:¬ ((k:Int) < (gn:Int)):=by omega
      have HV4:c=if (gn:Int) < 2 * f+1 then 7 else (if qG8 zs x ys=true then 0 else 7):=by
       have : qH7 f ys=true:=by
        unfold qH7
        refine List.all_eq_true.2 (fun y hy=>?_)
        obtain ⟨j,hj,e⟩:=List.mem_iff_getElem.1 hy
        exact HK0.out j y (by have:=HZ.out;omega) (by rw [List.getElem?_eq_getElem hj,e])
       rw [HV3.out,this,if_pos rfl]
      clear HV3 HK0 hk
      by_cases hq:(gn:Int) < 2 * f+1
      ·have H7:Hid (c=7):=by show c=7;rw [HV4,if_pos hq]
       clear HV4
       go_wp2
       go_ret
       exact ⟨by rw [H7.out];rfl,hnx2⟩
      ·have HV5:Hid (c=if qG8 zs x ys=true then 0 else 7):=by show c=_;rw [HV4,if_neg hq]
       clear HV4
       obtain ⟨U2,hU⟩:∃ U,U=wr:=⟨_,rfl⟩
       rw [← hU] at hnx2 c5 ⊢
       clear hU
       go_wp2
       clear c5
       go_loopw [10] (fun i wr=>∃ k:Nat,k≤gn∧i = .int .i64 (k:Int)∧(∀ j y,j < k→ys[j]? = some y→qL0 zs (QY6 y x)=true)∧Below w.heap.size w wr) (fun i _=>gn - (intOf i).toNat)
       case atStart=>exact ⟨0,Nat.zero_le _,rfl,fun j y h=>by omega,hnx2⟩
       case round =>
        obtain ⟨i,hi,rfl,hz,hnx3⟩:=hrel
        have HI0:Hid (∀ j y,j < i→ys[j]? = some y→qL0 zs (QY6 y x)=true):=hz
        clear hz
        have hK:=HC.out.below hnx3
        have c5:=hK.sl
        by_cases hlt:i < gn
        ·obtain ⟨b,off,p,rfl,hp,hpa,hbl⟩:=HC.out.row.at hlt
         have hlti:(i:Int) < (gn:Int):=by omega
         have hi0:(0:Int)≤(i:Int):=by omega
         have c0:=(hnx3.cell (p:=⟨b,off+i,none⟩) hbl).trans hpa
         obtain ⟨z0,z1,z2,z3,z4⟩:=hK.st
         try simp only [Nat.zero_add] at z0 z1 z2 z3 z4
         have hbw:b < wr.heap.size:=Nat.lt_of_lt_of_le hbl hnx3.size
         have hcw:cb < wr.heap.size:=Nat.lt_of_lt_of_le hcl hnx3.size
         obtain ⟨t,ht⟩:∃ t,qL0 zs (QY6 p x)=t:=⟨_,rfl⟩
         have HX:Hid (ys[i]? = some p∧qL0 zs (QY6 p x)=t):=⟨hp,ht⟩
         have HQ:Hid (∀ w2:World,KC wr w2→Calls Tryz.prog 92 #[.slice a n cap,.agg #[.int .i64 p,.int .i64 x.k,.int .i64 x.e,.int .i64 x.f,.int .i64 x.s,.int .i64 x.n]] w2 fun e w'=>e = .returned (.bool t)∧Below w2.heap.size w2 w'):=fun w2 hb=>by
          have:=l9Has_c a n cap zs (QY6 p x) w2 hn ((H.out.below hnx3).below hb.2)
          rw [ht] at this
          exact this
         clear hp hpa ht hK
         go_wp2
         go_region_held3 (fun w'=>KC wr w') (first | exact hS | exact qB6 _)
          (first | (go_at_call 92;refine (HQ.out _ (by assumption)).mono ?_;rintro e w' ⟨rfl,hb1⟩;have hS:=qA8 (by assumption) hb1))
         have B1:=hnx3.trans (hS.2.mono hnx3.size)
         cases t
         ·have H7:Hid (c=7):=by
           show c=7
           have : qG8 zs x ys=false:=by
            cases q:qG8 zs x ys
            ·rfl
            ·unfold qG8 at q
             have:=List.all_eq_true.1 q p (List.mem_of_getElem? HX.out.1)
             rw [HX.out.2] at this
             cases this
           rw [HV5.out,this];rfl
          go_wp2
          go_ret
          exact ⟨by rw [H7.out];rfl,B1⟩
         ·have HN:Hid (∀ j y,j < i+1→ys[j]? = some y→qL0 zs (QY6 y x)=true):=fun j y h1 e1=>by
           by_cases q:j=i
           ·subst q
            rw [HX.out.1] at e1
            cases e1
            exact HX.out.2
           ·exact HI0.out j y (by omega) e1
          go_wp2
          exact ⟨⟨i+1,by omega,by go_num,HN.out,B1⟩,by simp [intOf];omega⟩
        ·have hlti:¬ ((i:Int) < (gn:Int)):=by omega
         have H0:Hid (c=0):=by
          show c=0
          have : qG8 zs x ys=true:=by
           unfold qG8
           refine List.all_eq_true.2 (fun y hy=>?_)
           obtain ⟨j,hj,e⟩:=List.mem_iff_getElem.1 hy
           exact HI0.out j y (by have:=HZ.out;omega) (by rw [List.getElem?_eq_getElem hj,e])
          rw [HV5.out,this];rfl
         go_wp2
         go_ret
         exact ⟨by rw [H0.out];rfl,hnx3⟩
 ·have sb:(s != 0)=true:=by simp [s0]
  have HE:Hid (c=s):=by show c=s;rw [HV.out];unfold vfL;rw [hs,if_neg s0]
  clear hs s0 HV
  have hST:=HC.out.st
  go_enter Tryz.func48,Tryz.ntmps48
  go_wp2_with (first | (go_at_call 26;refine (qU0 _ _ x _ hST).mono ?_;rintro e w' ⟨rfl,rfl⟩;rw [HSC.out]))
  go_ret
  exact ⟨by rw [HE.out];rfl,Below.refl _ _⟩
/-- What fill asks of a chain's certificates. -/
def chL (cr:List CrI):List (StI × List Int):=cr.map (fun c=>(c.st,c.zs))
theorem qV8 (cr:List CrI):(chL cr).length=cr.length:=by unfold chL;rw [List.length_map]

def QF4 (w:World) (g m:Nat):Prop:=(∀ j,j < m→∃ x,w.cell? ⟨g,j,none⟩=some (.int .i64 x))∧∀ j,w.frozen? ⟨g,j,none⟩=false
theorem QF4.below {w w':World} {g m:Nat} (h:QF4 w g m) (hg:g < w.heap.size) (hb:Below w.heap.size w w'):QF4 w' g m :=
 ⟨fun j hj=>by obtain ⟨x,e⟩:=h.1 j hj;exact ⟨x,(hb.cell (p:=⟨g,j,none⟩) hg).trans e⟩,fun j=>(hb.frozen (p:=⟨g,j,none⟩) hg).trans (h.2 j)⟩
structure qO8 (P:World→Prop) (W:World):Prop where
 out:P W
 kept:∀ X X':World,P X→Below X.heap.size X X'→P X'
theorem qO8.below {P:World→Prop} {W W':World} (h:qO8 P W) (hb:Below W.heap.size W W'):qO8 P W':=⟨h.kept _ _ h.out hb,h.kept⟩

section
open Go.RowKit Go.ChangeShapes Go.WideShapes
theorem Tryz.infoCr:(Tryz.prog.info? 32).map (fun i=>(i.zero,i.size,i.bytes))=some (some (.agg #[.int .i64 0,.int .i64 0,.int .i64 0,.int .i64 0,.int .i64 0,.slice none 0 0]),6,64):=by kernel_rfl
structure QB7 (w:World) (b o:Nat) (c:CrI):Prop where
 st:qX1 w b o c.st
 sl:w.cell? ⟨b,o+5,none⟩=some (.slice c.ga c.gn c.gc)
theorem QB7.lt {w:World} {b o:Nat} {c:CrI} (h:QB7 w b o c):b < w.heap.size:=zL w ⟨b,o+5,none⟩ h.sl
theorem QB7.below {w w':World} {b o:Nat} {c:CrI} (h:QB7 w b o c) (hb:Below w.heap.size w w'):QB7 w' b o c :=
 ⟨h.st.below hb h.lt,(hb.cell (p:=⟨b,o+5,none⟩) h.lt).trans h.sl⟩
structure qK3 (w:World) (a:Option Addr) (n:Nat) (cs:List CrI):Prop where
 len:cs.length=n
 row:0 < n→∃ b off,a=some ⟨b,off,none⟩∧∀ k c,cs[k]? = some c→QB7 w b (off+k * 6) c
 each:∀ (k:Nat) c,cs[k]? = some c→qC1 w c.ga c.gn c.zs
theorem qK3.below {w w':World} {a:Option Addr} {n:Nat} {cs:List CrI} (h:qK3 w a n cs) (hb:Below w.heap.size w w'):qK3 w' a n cs :=
 ⟨h.len,fun hp=>by
  obtain ⟨b,off,e,hr⟩:=h.row hp
  exact ⟨b,off,e,fun k c q=>(hr k c q).below hb⟩,fun k c q=>(h.each k c q).below hb⟩
theorem qK3.at {w:World} {a:Option Addr} {n:Nat} {cs:List CrI} (h:qK3 w a n cs) {k:Nat} (hk:k < n):∃ b off c,a=some ⟨b,off,none⟩∧cs[k]? = some c∧QB7 w b (off+k * 6) c∧qC1 w c.ga c.gn c.zs:=by
 obtain ⟨b,off,e,hr⟩:=h.row (by omega)
 have hx:=List.getElem?_eq_getElem (l:=cs) (i:=k) (by rw [h.len];exact hk)
 exact ⟨b,off,_,e,hx,hr k _ hx,h.each k _ hx⟩
theorem qC3 {p:Prop} (h:p):Hid p:=h
theorem QK4 (a:Option Addr) (n cap:Nat) (fs:List CrI) (l:Int) (w:World) (hn:n≤maxLen) (hle:∀ (k:Nat) c,fs[k]? = some c→c.gn≤maxLen) (h0:0≤l) (h1:l≤1048576) (h:qK3 w a n fs) :
  Calls Tryz.prog 45 #[.slice a n cap,.int .i64 l] w fun e w'=>(∃ r:Int,e = .returned (.int .i64 r)∧r≤l∧(0≤r→(n:Int)≤l∧(∀ (k:Nat) c,fs[k]? = some c→c.gn≤1048576)))∧Below w.heap.size w w':=by
 have H:Hid (qK3 w a n fs):=h
 have HZ:Hid (fs.length=n):=h.len
 have HLE:Hid (∀ (k:Nat) c,fs[k]? = some c→c.gn≤maxLen):=hle
 have hn':(n:Int)≤9223372036854775807:=by unfold maxLen at hn;omega
 clear h hle hn
 by_cases hlt:(n:Int)≤l
 ·go_enter Tryz.func45,Tryz.ntmps45
  go_wp2
  go_loopw [1,5] (fun q i wr=>∃ (k:Nat) (r:Int),k≤n∧i = .int .i64 (k:Int)∧q = .int .i64 r∧0≤r∧r≤l∧(∀ j x,j < k→fs[j]? = some x→x.gn≤1048576)∧Below w.heap.size w wr)
   (fun _ i _=>n - (intOf i).toNat)
  case atStart=>exact ⟨0,_,Nat.zero_le _,rfl,rfl,by omega,by omega,fun j x hj=>by omega,Below.refl _ _⟩
  case round =>
   obtain ⟨k,r,hk,rfl,rfl,hr0,hr1,hok,hnx⟩:=hrel
   have HOK:Hid (∀ j x,j < k→fs[j]? = some x→x.gn≤1048576):=hok
   clear hok
   by_cases hkn:k < n
   ·obtain ⟨b,off,x,rfl,hs,hr,hci⟩:=H.out.at hkn
    have HS:Hid (fs[k]? = some x):=hs
    have hx:x.gn≤maxLen:=HLE.out k x hs
    have hb:b < w.heap.size:=hr.lt
    obtain ⟨⟨c0,c1,c2,c3,c4⟩,c5⟩:=hr.below hnx
    clear hs hr hci
    have hkn':(k:Int) < (n:Int):=by omega
    go_wp2_with fail
    refine (QT9 x r _ hx hr0 (by omega)).mono ?_
    rintro e w1 ⟨⟨r',rfl,hr'1,hr'2⟩,hb1⟩
    have hb01:Below w.heap.size w w1:=hnx.trans (hb1.mono hnx.size)
    by_cases hneg:r' < 0
    ·clear c0 c1 c2 c3 c4 c5
     go_wp2
     go_ret
     exact ⟨⟨_,rfl,by omega,fun q=>by omega⟩,hb01⟩
    ·have HN:Hid (∀ j y,j < k+1→fs[j]? = some y→y.gn≤1048576):=fun j y hj hy=>by
      by_cases e:j=k
      ·subst e
       rw [HS.out] at hy
       cases hy
       exact hr'2 (by omega)
      ·exact HOK.out j y (by omega) hy
     have hge:0≤r':=by omega
     clear c0 c1 c2 c3 c4 c5 hr'2
     go_wp2
     exact ⟨⟨k+1,r',by omega,by go_num,rfl,hge,by omega,HN.out,hb01⟩,by simp [intOf];omega⟩
   ·have hkn':k=n:=by omega
    subst hkn'
    have HQ:Hid (∀ (k:Nat) c,fs[k]? = some c→c.gn≤1048576):=fun j x hj=>by
     have : j < k:=by
      by_cases q:j < k
      ·exact q
      ·rw [List.getElem?_eq_none (by rw [HZ.out];omega)] at hj;cases hj
     exact HOK.out j x this hj
    go_wp2
    go_ret
    exact ⟨⟨r,rfl,hr1,fun _=>⟨hlt,HQ.out⟩⟩,hnx⟩
 ·have hlt':l < (n:Int):=by omega
  go_enter Tryz.func45,Tryz.ntmps45
  go_wp2
  go_ret
  exact ⟨⟨_,rfl,by omega,fun q=>by omega⟩,by go_grown⟩
def cpOf (c:CrI) (g:Nat):CrI:=⟨c.k,c.e,c.f,c.s,c.n,some ⟨g,0,none⟩,c.gn,c.gn,c.zs⟩
abbrev RPut (w:World) (B o:Nat) (d:CrI):World:=(((((w.setCell ⟨B,o,none⟩ (.int .i64 d.k)).setCell ⟨B,o+1,none⟩ (.int .i64 d.e)).setCell ⟨B,o+2,none⟩ (.int .i64 d.f)).setCell ⟨B,o+3,none⟩ (.int .i64 d.s)).setCell ⟨B,o+4,none⟩ (.int .i64 d.n)).setCell ⟨B,o+5,none⟩ (.slice d.ga d.gn d.gc)
theorem RPut_other (w:World) (B o:Nat) (d:CrI) (q:Addr) (h:∀ j,j < 6→q≠⟨B,o+j,none⟩):(RPut w B o d).cell? q=w.cell? q:=by
 have h0:q≠⟨B,o,none⟩:=h 0 (by omega)
 unfold RPut
 rw [World.cell?_setCell_other (h:=fun e=>h 5 (by omega) e.symm),World.cell?_setCell_other (h:=fun e=>h 4 (by omega) e.symm),World.cell?_setCell_other (h:=fun e=>h 3 (by omega) e.symm),World.cell?_setCell_other (h:=fun e=>h 2 (by omega) e.symm),World.cell?_setCell_other (h:=fun e=>h 1 (by omega) e.symm),World.cell?_setCell_other (h:=fun e=>h0 e.symm)]
theorem RPut_at (w:World) (B o:Nat) (d:CrI) (h:∀ j,j < 6→∃ v,w.cell? ⟨B,o+j,none⟩=some v):QB7 (RPut w B o d) B o d:=by
 obtain ⟨v0,h0⟩:=h 0 (by omega)
 obtain ⟨v1,h1⟩:=h 1 (by omega)
 obtain ⟨v2,h2⟩:=h 2 (by omega)
 obtain ⟨v3,h3⟩:=h 3 (by omega)
 obtain ⟨v4,h4⟩:=h 4 (by omega)
 obtain ⟨v5,h5⟩:=h 5 (by omega)
 rw [Nat.add_zero] at h0
 refine ⟨⟨?_,?_,?_,?_,?_⟩,?_⟩ <;> simp [RPut,go_sem,h0,h1,h2,h3,h4,h5]
structure qV0 (w0 w:World) (n:Nat) (cs ds:List CrI) (k:Nat):Prop where
 ln:ds.length=k
 ca:∀ (j:Nat) d,ds[j]? = some d→QB7 w w0.heap.size (j * 6) d
 nw:∀ (j:Nat) c d,cs[j]? = some c→ds[j]? = some d→∃ g,d=cpOf c g∧w0.heap.size+1≤g∧g < w.heap.size∧qL3 g c.gn c.zs w
 rm:(∀ j,j < n * 6→∃ v,w.cell? ⟨w0.heap.size,j,none⟩=some v)∧∀ j,w.frozen? ⟨w0.heap.size,j,none⟩=false
 lt:w0.heap.size < w.heap.size
 bl:Below w0.heap.size w0 w
theorem qL3.below {g n:Nat} {zs:List Int} {w w':World} (h:qL3 g n zs w) (hg:g < w.heap.size) (hb:Below w.heap.size w w'):qL3 g n zs w':=((qL3.hold h hg).below hb).out
theorem qV0.below {w0 w w':World} {n:Nat} {cs ds:List CrI} {k:Nat} (h:qV0 w0 w n cs ds k) (hb:Below w.heap.size w w'):qV0 w0 w' n cs ds k :=
 ⟨h.ln,fun j d e=>(h.ca j d e).below hb,fun j c d e1 e2=>by
  obtain ⟨g,q,h1,h2,h3⟩:=h.nw j c d e1 e2
  exact ⟨g,q,h1,Nat.lt_of_lt_of_le h2 hb.size,h3.below h2 hb⟩,⟨fun j hj=>by obtain ⟨v,e⟩:=h.rm.1 j hj;exact ⟨v,(hb.cell (p:=⟨w0.heap.size,j,none⟩) h.lt).trans e⟩,fun j=>(hb.frozen (p:=⟨w0.heap.size,j,none⟩) h.lt).trans (h.rm.2 j)⟩,Nat.lt_of_lt_of_le h.lt hb.size,h.bl.trans (hb.mono h.bl.size)⟩
theorem qL3.set {g n B o:Nat} {zs:List Int} {w:World} (h:qL3 g n zs w) (hg:g≠B) (v:Value):qL3 g n zs (w.setCell ⟨B,o,none⟩ v):=by
 have k:∀ j,(⟨B,o,none⟩:Addr)≠⟨g,j,none⟩:=fun j e=>hg (by have:=congrArg Addr.block e;simpa using this.symm)
 exact ⟨fun i x e=>by rw [World.cell?_setCell_other (h:=k i)];exact h.1 i x e,fun j hj=>by
  obtain ⟨u,e⟩:=h.2.1 j hj
  exact ⟨u,by rw [World.cell?_setCell_other (h:=k j)];exact e⟩,fun j=>by rw [World.frozen?_setCell];exact h.2.2 j⟩
theorem qV0.put {w0 w:World} {n:Nat} {cs ds:List CrI} {k:Nat} (h:qV0 w0 w n cs ds k) (hk:k < n) {c d:CrI} (hc:cs[k]? = some c) (hd:∃ g,d=cpOf c g∧w0.heap.size+1≤g∧g < w.heap.size∧qL3 g c.gn c.zs w):qV0 w0 (RPut w w0.heap.size (k * 6) d) n cs (ds++[d]) (k+1):=by
 have hl:=h.ln
 have at1:∀ (j:Nat) x,(ds++[d])[j]? = some x→(j < k∧ds[j]? = some x)∨(j=k∧x=d):=fun j x e=>by
  by_cases hj:j < k
  ·rw [List.getElem?_append_left (by omega)] at e
   exact .inl ⟨hj,e⟩
  ·have hjk:j=k:=by
    have:=(List.getElem?_eq_some_iff.1 e).1
    simp at this
    omega
   subst hjk
   rw [← hl,List.getElem?_append_right (Nat.le_refl _),Nat.sub_self] at e
   simp at e
   exact .inr ⟨rfl,e.symm⟩
 have keepN:∀ (g m:Nat) (zs:List Int),w0.heap.size+1≤g→qL3 g m zs w→qL3 g m zs (RPut w w0.heap.size (k * 6) d):=fun g m zs hg hx=>by
  have hne:g≠w0.heap.size:=by omega
  exact (((((hx.set hne _).set hne _).set hne _).set hne _).set hne _).set hne _
 refine ⟨by simp [hl],fun j x e=>?_,fun j c' x e1 e2=>?_,⟨fun j hj=>?_,fun j=>?_⟩,by simpa using h.lt,(((((h.bl.setCell (Nat.le_refl _) _).setCell (Nat.le_refl _) _).setCell (Nat.le_refl _) _).setCell (Nat.le_refl _) _).setCell (Nat.le_refl _) _).setCell (Nat.le_refl _) _⟩
 ·rcases at1 j x e with ⟨hj,q⟩ | ⟨rfl,rfl⟩
  ·obtain ⟨⟨a0,a1,a2,a3,a4⟩,a5⟩:=h.ca j x q
   have o:∀ i,i < 6→(RPut w w0.heap.size (k * 6) d).cell? ⟨w0.heap.size,j * 6+i,none⟩=w.cell? ⟨w0.heap.size,j * 6+i,none⟩:=fun i hi=>RPut_other w _ _ d _ (fun i' hi' e=>by have:=congrArg Addr.off e;simp at this;omega)
   exact ⟨⟨(o 0 (by omega)).trans a0,(o 1 (by omega)).trans a1,(o 2 (by omega)).trans a2,(o 3 (by omega)).trans a3,(o 4 (by omega)).trans a4⟩,(o 5 (by omega)).trans a5⟩
  ·exact RPut_at w _ _ x (fun i hi=>h.rm.1 _ (by omega))
 ·rcases at1 j x e2 with ⟨_,q⟩ | ⟨rfl,rfl⟩
  ·obtain ⟨g,p,h1,h2,h3⟩:=h.nw j c' x e1 q
   exact ⟨g,p,h1,by simpa using h2,keepN g _ _ h1 h3⟩
  ·rw [hc] at e1
   cases e1
   obtain ⟨g,p,h1,h2,h3⟩:=hd
   exact ⟨g,p,h1,by simpa using h2,keepN g _ _ h1 h3⟩
 ·obtain ⟨v,e⟩:=h.rm.1 j hj
  have s1:∀ (W:World) (p:Addr) (u:Value) (q:Addr),(∃ v,W.cell? q=some v)→∃ v,(W.setCell p u).cell? q=some v:=fun W p u q ⟨v,e⟩=>by
   by_cases hp:q=p
   ·subst hp
    exact ⟨u,by simp [go_sem,e]⟩
   ·exact ⟨v,by rw [World.cell?_setCell_other (h:=fun e=>hp e.symm)];exact e⟩
  exact s1 _ _ _ _ (s1 _ _ _ _ (s1 _ _ _ _ (s1 _ _ _ _ (s1 _ _ _ _ (s1 _ _ _ _ ⟨v,e⟩)))))
 ·unfold RPut
  simp only [World.frozen?_setCell]
  exact h.rm.2 j
theorem QK3 (a:Option Addr) (n cap:Nat) (cs:List CrI) (w:World) (hn:n≤1048576) (hle:∀ (k:Nat) c,cs[k]? = some c→c.gn≤1048576) (h:qK3 w a n cs) :
  Calls Tryz.prog 51 #[.slice a n cap] w fun e w'=>e = .returned (.slice (some ⟨w.heap.size,0,none⟩) n n)∧∃ ds,qV0 w w' n cs ds n:=by
 obtain ⟨i0,hi,hz0,hz1,hz2⟩:=info_parts Tryz.infoCr
 obtain ⟨wm,hmk,hownm,hgrm⟩:=run_make_full (P:=Tryz.prog) (w:=w) w.heap.size 28 32 i0 (.agg #[.int .i64 0,.int .i64 0,.int .i64 0,.int .i64 0,.int .i64 0,.slice none 0 0]) 6 Tryz.underlying28 hi hz0 hz1 .i64 .i64 n (by rw [hz2];omega) (by unfold maxLen;omega) (Nat.le_refl _)
 have H:Hid (qK3 w a n cs):=h
 have HLE:Hid (∀ (k:Nat) c,cs[k]? = some c→c.gn≤1048576):=hle
 clear h hle
 have HM:Hid (qV0 w wm n cs [] 0):=by
  refine ⟨rfl,fun j d e=>by simp at e,fun j c d _ e=>by simp at e,⟨fun j hj=>?_,fun j=>hownm.frozenAt j⟩,(hownm.lt _ rfl).2,(Below.refl _ _).grown hgrm (Nat.le_refl _) (fun k e=>by cases e)⟩
  have hl:=hownm.1
  exact ⟨_,(hownm.cellAt j (by omega)).trans (List.getElem?_eq_getElem (by omega))⟩
 clear hownm hgrm
 have hn':(n:Int)≤1048576:=by omega
 go_enter Tryz.func51,Tryz.ntmps51
 go_wp2
 go_loopw [4] (fun i wr=>∃ (k:Nat) (ds:List CrI),k≤n∧i = .int .i64 (k:Int)∧Hid (qV0 w wr n cs ds k)) (fun i _=>n - (intOf i).toNat)
 case atStart=>exact ⟨0,[],Nat.zero_le _,rfl,HM⟩
 case round =>
  obtain ⟨k,ds,hk,rfl,HK⟩:=hrel
  by_cases hlt:k < n
  ·have hlt':(k:Int) < (n:Int):=by omega
   obtain ⟨b,off,c,rfl,hs,hr,hci⟩:=H.out.at hlt
   have HS:Hid (cs[k]? = some c):=hs
   have hb:b < wr.heap.size:=Nat.lt_of_lt_of_le hr.lt HK.out.bl.size
   have HCI:Hid (qC1 wr c.ga c.gn c.zs):=hci.below HK.out.bl
   obtain ⟨⟨c0,c1,c2,c3,c4⟩,c5⟩:=hr.below HK.out.bl
   have hx:=HLE.out k c hs
   clear hs hr hci
   go_wp2_with fail
   refine (QT8 c _ hx HCI.out).mono ?_
   rintro e w1 ⟨g,rfl,hg1,hg2,hcp,hb1⟩
   have K1:=HK.out.below hb1
   have K2:Hid (qV0 w (RPut w1 w.heap.size (k * 6) (cpOf c g)) n cs (ds++[cpOf c g]) (k+1)):=K1.put hlt HS.out ⟨g,rfl,by have:=HK.out.lt;omega,hg2,hcp⟩
   have hl1:=K1.lt
   obtain ⟨u0,e0⟩:=K1.rm.1 (k * 6) (by omega)
   obtain ⟨u1,e1⟩:=K1.rm.1 (k * 6+1) (by omega)
   obtain ⟨u2,e2⟩:=K1.rm.1 (k * 6+2) (by omega)
   obtain ⟨u3,e3⟩:=K1.rm.1 (k * 6+3) (by omega)
   obtain ⟨u4,e4⟩:=K1.rm.1 (k * 6+4) (by omega)
   obtain ⟨u5,e5⟩:=K1.rm.1 (k * 6+5) (by omega)
   have f0:=K1.rm.2 (k * 6)
   have f1:=K1.rm.2 (k * 6+1)
   have f2:=K1.rm.2 (k * 6+2)
   have f3:=K1.rm.2 (k * 6+3)
   have f4:=K1.rm.2 (k * 6+4)
   have f5:=K1.rm.2 (k * 6+5)
   clear K1 hg1 hg2 hcp hb1 c0 c1 c2 c3 c4 c5 HK
   go_wp2_with fail
   exact ⟨⟨k+1,ds++[cpOf c g],by omega,by go_num,K2⟩,by simp [intOf];omega⟩
  ·have hkn:k=n:=by omega
   subst hkn
   go_wp2_with fail
   go_ret
   exact ⟨rfl,ds,HK.out⟩
structure QT5 (lo hi n:Nat) (cs ds:List CrI) (X:World):Prop where
 ln:ds.length=n
 lc:cs.length=n
 zl:∀ (k:Nat) c,cs[k]? = some c→c.zs.length=c.gn∧c.gn≤1048576
 ca:∀ (j:Nat) d,ds[j]? = some d→QB7 X lo (j * 6) d
 nw:∀ (j:Nat) c d,cs[j]? = some c→ds[j]? = some d→∃ g,d=cpOf c g∧lo≤g∧g < hi∧qL3 g c.gn c.zs X
 fr:∀ j,X.frozen? ⟨lo,j,none⟩=false
 lh:lo < hi∧hi≤X.heap.size
def CpR (lo hi n:Nat) (cs:List CrI) (X:World):Prop:=∃ ds,QT5 lo hi n cs ds X
theorem QT5.below {lo hi n:Nat} {cs ds:List CrI} {X X':World} (h:QT5 lo hi n cs ds X) (hb:Below X.heap.size X X'):QT5 lo hi n cs ds X' :=
 ⟨h.ln,h.lc,h.zl,fun j d e=>(h.ca j d e).below hb,fun j c d e1 e2=>by
  obtain ⟨g,q,h1,h2,h3⟩:=h.nw j c d e1 e2
  exact ⟨g,q,h1,h2,h3.below (by have:=h.lh.2;omega) hb⟩,fun j=>(hb.frozen (p:=⟨lo,j,none⟩) (show lo < X.heap.size by have:=h.lh;omega)).trans (h.fr j),h.lh.1,Nat.le_trans h.lh.2 hb.size⟩
theorem qV0.cpR {w0 w wA:World} {a:Option Addr} {n:Nat} {cs ds:List CrI} (h:qV0 w0 w n cs ds n) (hi:qK3 wA a n cs) (hl:∀ (k:Nat) c,cs[k]? = some c→c.gn≤1048576):qO8 (CpR w0.heap.size w.heap.size n cs) w :=
 ⟨⟨ds,h.ln,hi.len,fun k c e=>⟨(hi.each k c e).1,hl k c e⟩,h.ca,fun j c d e1 e2=>by
  obtain ⟨g,q,h1,h2,h3⟩:=h.nw j c d e1 e2
  exact ⟨g,q,by omega,h2,h3⟩,h.rm.2,h.lt,Nat.le_refl _⟩,fun X X' hX hb=>by
  obtain ⟨es,h1⟩:=hX
  exact ⟨es,h1.below hb⟩⟩
theorem QT5.get {lo hi n:Nat} {cs ds:List CrI} {X:World} (h:QT5 lo hi n cs ds X) {j:Nat} {d:CrI} (e:ds[j]? = some d):∃ c g,cs[j]? = some c∧d=cpOf c g∧lo≤g∧g < hi∧qL3 g c.gn c.zs X:=by
 have hj:j < cs.length:=by have:=(List.getElem?_eq_some_iff.1 e).1;rw [h.lc,← h.ln];exact this
 obtain ⟨g,q⟩:=h.nw j _ d (List.getElem?_eq_getElem hj) e
 exact ⟨_,g,List.getElem?_eq_getElem hj,q⟩
theorem QT5.isIn {lo hi n:Nat} {cs ds:List CrI} {X:World} (h:QT5 lo hi n cs ds X):qK3 X (some ⟨lo,0,none⟩) n ds :=
 ⟨h.ln,fun _=>⟨lo,0,rfl,fun k c e=>by rw [Nat.zero_add];exact h.ca k c e⟩,fun k d e=>by
  obtain ⟨c,g,e1,rfl,_,_,h3⟩:=h.get e
  exact qC1.of (h.zl k c e1).1 h3.1⟩
theorem eqCpR_c {lo hi lo' hi' n:Nat} {cs:List CrI} (ca cb:Nat) {W:World} (hn:n≤1048576) (h:CpR lo hi n cs W) (h':CpR lo' hi' n cs W) :
  Calls Tryz.prog 58 #[.slice (some ⟨lo,0,none⟩) n ca,.slice (some ⟨lo',0,none⟩) n cb] W fun e w'=>e = .returned (.bool true)∧Below W.heap.size W w':=by
 obtain ⟨ds,h1⟩:=h
 obtain ⟨es,h2⟩:=h'
 have HA:=qC3 h1
 have HB:=qC3 h2
 have hl1:lo < W.heap.size:=by have:=h1.lh;omega
 have hl2:lo' < W.heap.size:=by have:=h2.lh;omega
 clear h1 h2
 have hn':(n:Int)≤1048576:=by omega
 go_enter Tryz.func58,Tryz.ntmps58
 go_wp2
 go_loopw [5] (fun i wr=>∃ k:Nat,k≤n∧i = .int .i64 (k:Int)∧Below W.heap.size W wr) (fun i _=>n - (intOf i).toNat)
 case atStart=>exact ⟨0,Nat.zero_le _,rfl,Below.refl _ _⟩
 case round =>
  obtain ⟨k,hk,rfl,hnx⟩:=hrel
  by_cases hlt:k < n
  ·obtain ⟨d,hd⟩:∃ d,ds[k]? = some d:=⟨_,List.getElem?_eq_getElem (by rw [HA.out.ln];exact hlt)⟩
   obtain ⟨e2,he⟩:∃ d,es[k]? = some d:=⟨_,List.getElem?_eq_getElem (by rw [HB.out.ln];exact hlt)⟩
   obtain ⟨c,g,hc,rfl,_,hg2,hcp⟩:=HA.out.get hd
   obtain ⟨c',g',hc',rfl,_,hg2',hcp'⟩:=HB.out.get he
   rw [hc] at hc'
   cases hc'
   obtain ⟨⟨p0,p1,p2,p3,p4⟩,p5⟩:=(HA.out.ca k _ hd).below hnx
   obtain ⟨⟨q0,q1,q2,q3,q4⟩,q5⟩:=(HB.out.ca k _ he).below hnx
   have hz:=HA.out.zl k c hc
   have hb1:lo < wr.heap.size:=by have:=hnx.size;omega
   have hb2:lo' < wr.heap.size:=by have:=hnx.size;omega
   have hgW:g < W.heap.size:=by have:=HA.out.lh.2;omega
   have hgW':g' < W.heap.size:=by have:=HB.out.lh.2;omega
   have HEQ:Hid (∀ V,Below wr.heap.size wr V→Calls Tryz.prog 59 #[.agg #[.int .i64 c.k,.int .i64 c.e,.int .i64 c.f,.int .i64 c.s,.int .i64 c.n,.slice (some ⟨g,0,none⟩) c.gn c.gn],.agg #[.int .i64 c.k,.int .i64 c.e,.int .i64 c.f,.int .i64 c.s,.int .i64 c.n,.slice (some ⟨g',0,none⟩) c.gn c.gn]] V fun e w'=>e = .returned (.bool true)∧Below V.heap.size V w'):=fun V hV=>by
    have hWV:Below W.heap.size W V:=hnx.trans (hV.mono hnx.size)
    exact QA5 c g g' V hz.2 hz.1 (hcp.below hgW hWV).1 (hcp'.below hgW' hWV).1
   have hlt':(k:Int) < (n:Int):=by omega
   simp only [cpOf] at p0 p1 p2 p3 p4 p5 q0 q1 q2 q3 q4 q5
   clear hd he hc hcp hcp' hz hg2 hg2'
   go_wp2
   go_region_held3 (fun w'=>(∀ b o,b < wr.heap.size→w'.cell? ⟨b,o,none⟩=wr.cell? ⟨b,o,none⟩)∧Below wr.heap.size wr w') (first | exact hS | exact qB6 _)
    (first | (go_at_call 59;refine (HEQ.out _ (by first | exact hHeld.2 | exact (Below.refl _ _).drew)).mono ?_;rintro e w' ⟨rfl,hbz⟩;have hS:=qA8 (by assumption) hbz))
   go_wp2
   exact ⟨⟨k+1,by omega,by go_num,hnx.trans (hS.2.mono hnx.size)⟩,by simp [intOf];omega⟩
  ·have hkn:k=n:=by omega
   subst hkn
   go_wp2
   go_ret
   exact ⟨rfl,hnx⟩
end

end Go.Proofs.YthogdfnaojijhaaGreat
