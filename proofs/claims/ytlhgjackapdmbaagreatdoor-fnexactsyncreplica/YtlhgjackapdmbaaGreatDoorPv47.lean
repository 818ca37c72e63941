/- Contracts. -/
import Derived.Test.YtlhgjackapdmbaaGreatDoorPv42
import Derived.OpenShut
import Derived.ChangeSame
import Derived.Deep.Slices
import Derived.Test.YtlhgjackapdmbaaGreatDoorPv46
namespace Go.Proofs.YtlhgjackapdmbaaGreatDoor
set_option maxRecDepth 100000
set_option maxHeartbeats 8000000
open Go.RowKit
set_option linter.unusedVariables false
set_option linter.unusedSimpArgs false

theorem replica_c (b:Nat) (i u:Int) (cv:Value) (sa:Option Addr) (n sc:Nat) (la:Option Addr) (m lc:Nat) (w:World) (hs:qV6 w b cv (.slice sa n sc) (.slice la m lc)) :
  Calls Tryz.prog 42 #[.pointer (some ⟨b,0,none⟩),.int .i64 i,.int .i64 u] w fun d w'=>d = .returned (.agg #[.int .i64 0,.int .i64 i,.int .i64 u,.slice sa n sc,.slice la m lc])∧Below w.heap.size w w':=by
 have hbl:=hs.lt
 obtain ⟨W,hW⟩:∃ W,W=w.alloc (.cells #[.int .i64 0,.int .i64 0,.int .i64 0,.slice none 0 0,.slice none 0 0] 47):=⟨_,rfl⟩
 have A0:Below w.heap.size w W:=by rw [hW];exact zN
 have X0:qI6 w.heap.size [.int .i64 0,.int .i64 0,.int .i64 0,.slice none 0 0,.slice none 0 0] W:=by rw [hW];exact qH4 w _ _
 have hwl:w.heap.size < W.heap.size:=by rw [hW];simp
 have s1:=(hs.below A0).c1
 have s2:=(hs.below A0).c2
 have hbW:b < W.heap.size:=by omega
 have hne:b≠w.heap.size:=by omega
 have z0:=X0.1 0 _ rfl
 have z1:=X0.1 1 _ rfl
 have z2:=X0.1 2 _ rfl
 have z3:=X0.1 3 _ rfl
 have z4:=X0.1 4 _ rfl
 have f0:=X0.2 0
 have f1:=X0.2 1
 have f2:=X0.2 2
 have f3:=X0.2 3
 have f4:=X0.2 4
 have HB:=qC5 A0
 clear hs A0 X0
 go_enter Tryz.func42,Tryz.ntmps42
 go_upto_region 1 with fail
 rw [← hW]
 clear hW
 go_region
 go_wp2_with fail
 refine bodyPost_ret (v:=.agg #[.int .i64 0,.int .i64 i,.int .i64 u,.slice sa n sc,.slice la m lc]) (by simp [results,Tryz.results42,go_sem,z0,z1,z2,z3,z4,hwl]) rfl ⟨rfl,?_⟩
 first
  | exact (((((HB.out.setCell (Nat.le_refl _) _).setCell (Nat.le_refl _) _).setCell (Nat.le_refl _) _).setCell (Nat.le_refl _) _).setCell (Nat.le_refl _) _).drew
  | exact ((((HB.out.drew.setCell (Nat.le_refl _) _).setCell (Nat.le_refl _) _).setCell (Nat.le_refl _) _).setCell (Nat.le_refl _) _).setCell (Nat.le_refl _) _

def RepA (k i u:Int) (S:List StI) (L:List LkI) (w:World) (d:Ending) (w':World):Prop :=
 Below w.heap.size w w'∧(k≠0→d = .returned (.agg #[.int .i64 k,.int .i64 0,.int .i64 0,.slice none 0 0,.slice none 0 0]))∧(k=0→∃ (sa:Option Addr) (sc:Nat) (la:Option Addr) (lc:Nat),d = .returned (.agg #[.int .i64 0,.int .i64 i,.int .i64 u,.slice sa S.length sc,.slice la L.length lc])∧qB1 w' w.heap.size (.slice sa S.length sc) S∧qA1 w' w.heap.size (.slice la L.length lc) L)
structure RZ (w:World) (r:qG9) (W:World):Prop where
 bx:qE5 w.heap.size [.int .i64 r.i,.int .i64 r.u,.slice r.sa r.sn r.sc,.slice r.la r.ln r.lc] W
 rs:qI6 (w.heap.size+1) [.int .i64 0,.int .i64 0,.int .i64 0,.slice none 0 0,.slice none 0 0] W
 lt:w.heap.size+1 < W.heap.size
 bl:Below w.heap.size w W
theorem RZ.below {w:World} {r:qG9} {W W':World} (h:RZ w r W) (hb:Below W.heap.size W W'):RZ w r W' :=
 ⟨((qE5.hold h.bx (Nat.lt_of_succ_lt h.lt)).below hb).out,qI6.below h.rs h.lt hb,Nat.lt_of_lt_of_le h.lt hb.size,h.bl.trans (hb.mono h.bl.size)⟩
theorem RZ.new (w:World) (r:qG9):RZ w r ((w.alloc (.cells #[.int .i64 r.i,.int .i64 r.u,.slice r.sa r.sn r.sc,.slice r.la r.ln r.lc] 33)).alloc (.cells #[.int .i64 0,.int .i64 0,.int .i64 0,.slice none 0 0,.slice none 0 0] 47)):=by
 have e:w.heap.size+1=(w.alloc (.cells #[.int .i64 r.i,.int .i64 r.u,.slice r.sa r.sn r.sc,.slice r.la r.ln r.lc] 33)).heap.size:=by simp
 refine ⟨((qE2 w _ _).below (zN)).out,?_,by simp,(zN).alloc (by simp) _⟩
 rw [e]
 exact qH4 _ _ _
theorem implSync_c (E:qI3) (r:qG9) (a:Option Addr) (m cap:Nat) (cs:List qA4) (w:World) (hr:qD7 w r) (hle:qK5 1048576 r) (hc:qA6 w a m cs) (hcl:qF8 1048576 cs) (hm:m≤1048576) (hEr:qN5 0 w) (hH:qE4 w) (hEC:qB8 cs=0→qN6 E cs) :
  Calls Tryz.prog 20 #[.agg #[.int .i64 r.i,.int .i64 r.u,.slice r.sa r.sn r.sc,.slice r.la r.ln r.lc],.slice a m cap] w fun d w'=>RepA (qH0 E cs r) r.i (r.sn:Int) r.ss r.ls w d w':=by
 obtain ⟨V,hV⟩:∃ V,V=(w.alloc (.cells #[.int .i64 r.i,.int .i64 r.u,.slice r.sa r.sn r.sc,.slice r.la r.ln r.lc] 33)).alloc (.cells #[.int .i64 0,.int .i64 0,.int .i64 0,.slice none 0 0,.slice none 0 0] 47):=⟨_,rfl⟩
 have Z0:Hid (RZ w r V):=by show RZ _ _ _;rw [hV];exact RZ.new w r
 obtain ⟨k,hk⟩:∃ k,qH0 E cs r=k:=⟨_,rfl⟩
 have HSL:Hid (r.ss.length=r.sn∧r.ls.length=r.ln):=⟨hr.said.1,hr.locks.1⟩
 have HRB:Hid (Calls Tryz.prog 37 #[.agg #[.int .i64 r.i,.int .i64 r.u,.slice r.sa r.sn r.sc,.slice r.la r.ln r.lc],.slice a m cap] V fun d w'=>RebR r a m cap k V d w'):=by
  show Calls _ _ _ _ _
  rw [← hk]
  exact rebuild_c E r a m cap cs V (hr.below Z0.out.bl) hle (hc.below Z0.out.bl) hcl hm (hEr.below Z0.out.bl) (hH.below Z0.out.bl) hEC
 have hsn:(r.sn:Int)≤1048576:=by have:=hle.said;omega
 rw [hk]
 have v0:=Z0.out.bx 0 _ rfl
 have v1:=Z0.out.bx 1 _ rfl
 have v2:=Z0.out.bx 2 _ rfl
 have v3:=Z0.out.bx 3 _ rfl
 have hvl:w.heap.size < V.heap.size:=Nat.lt_of_succ_lt Z0.out.lt
 have hVs:=Z0.out.bl.size
 have HVL:Hid (w.heap.size+1 < V.heap.size):=Z0.out.lt
 clear hk hr hle hc hcl hEr hH hEC
 go_enter Tryz.func20,Tryz.ntmps20
 go_upto_region 1 with fail
 rw [← hV]
 clear hV
 go_wp2_with fail
 refine HRB.out.mono ?_
 rintro d w1 ⟨hb1,h1,h2⟩
 have Z1:=qC5 (Z0.out.below hb1)
 clear hb1 Z0 HRB v0 v1 v2 v3 hvl
 by_cases hk:k=0
 ·obtain ⟨sa,sc,la,lc,rfl,ho1,ho2⟩:=h2 hk
  subst hk
  obtain ⟨Y,hY⟩:∃ Y,Y=w1.alloc (.cells #[.slice a m cap,.slice sa r.sn sc,.slice la r.ln lc] 74):=⟨_,rfl⟩
  have AY:Below w1.heap.size w1 Y:=by rw [hY];exact zN
  have Z2:=qC5 (Z1.out.below AY)
  have S2:Hid (qV6 Y w1.heap.size (.slice a m cap) (.slice sa r.sn sc) (.slice la r.ln lc)):=by
   show qV6 _ _ _ _ _
   have q:Y.heap[w1.heap.size]? = some (.cells #[.slice a m cap,.slice sa r.sn sc,.slice la r.ln lc] 74 (0,0)):=by rw [hY];exact QU1 w1 _
   exact ⟨by rw [qA9 q];rfl,by rw [qA9 q];rfl,by rw [qA9 q];rfl,fun j=>qX2 q j⟩
  have O1:=qC5 (ho1.below AY)
  have O2:=qC5 (ho2.below AY)
  clear h1 h2 ho1 ho2 AY Z1
  go_upto_region 4 with fail
  rw [← hY]
  clear hY
  generalize w1.heap.size=q at S2 ⊢
  have s1:=S2.out.c1
  have hql:=S2.out.lt
  have v0:=Z2.out.bx 0 _ rfl
  have hvl:w.heap.size < Y.heap.size:=Nat.lt_of_succ_lt Z2.out.lt
  go_wp2_with fail
  refine (replica_c q r.i (r.sn:Int) _ sa r.sn sc la r.ln lc Y S2.out).mono ?_
  rintro e w3 ⟨rfl,hb3⟩
  have Z3:=qC5 (Z2.out.below hb3)
  have P1:=qC5 (O1.out.below hb3)
  have P2:=qC5 (O2.out.below hb3)
  clear hb3 Z2 O1 O2 S2 s1 hql v0 hvl
  have z0:=Z3.out.rs.1 0 _ rfl
  have z1:=Z3.out.rs.1 1 _ rfl
  have z2:=Z3.out.rs.1 2 _ rfl
  have z3:=Z3.out.rs.1 3 _ rfl
  have z4:=Z3.out.rs.1 4 _ rfl
  have f0:=Z3.out.rs.2 0
  have f1:=Z3.out.rs.2 1
  have f2:=Z3.out.rs.2 2
  have f3:=Z3.out.rs.2 3
  have f4:=Z3.out.rs.2 4
  have hzl:=Z3.out.lt
  go_wp2_with fail
  refine bodyPost_ret (v:=.agg #[.int .i64 0,.int .i64 r.i,.int .i64 (r.sn:Int),.slice sa r.sn sc,.slice la r.ln lc]) (by simp [results,Tryz.results20,go_sem,z0,z1,z2,z3,z4,hzl]) rfl ?_
  refine ⟨((((Z3.out.bl.setCell (Nat.le_succ _) _).setCell (Nat.le_succ _) _).setCell (Nat.le_succ _) _).setCell (Nat.le_succ _) _).setCell (Nat.le_succ _) _,fun q=>absurd rfl q,fun _=>?_⟩
  rw [HSL.out.1,HSL.out.2]
  refine ⟨sa,sc,la,lc,rfl,qA3 (qC4 P1.out hVs) (fun g e=>?_),qA3 (qB0 P2.out hVs) (fun g e=>?_)⟩
  ·obtain ⟨cur,hcc,hgg⟩:=qD3 P1.out e
   have:=HVL.out
   rw [Below.heap_setCell _ _ _ _ (by show g≠w.heap.size+1;omega),Below.heap_setCell _ _ _ _ (by show g≠w.heap.size+1;omega),Below.heap_setCell _ _ _ _ (by show g≠w.heap.size+1;omega),Below.heap_setCell _ _ _ _ (by show g≠w.heap.size+1;omega),Below.heap_setCell _ _ _ _ (by show g≠w.heap.size+1;omega)]
  ·obtain ⟨cur,hcc,hgg⟩:=qD1 P2.out e
   have:=HVL.out
   rw [Below.heap_setCell _ _ _ _ (by show g≠w.heap.size+1;omega),Below.heap_setCell _ _ _ _ (by show g≠w.heap.size+1;omega),Below.heap_setCell _ _ _ _ (by show g≠w.heap.size+1;omega),Below.heap_setCell _ _ _ _ (by show g≠w.heap.size+1;omega),Below.heap_setCell _ _ _ _ (by show g≠w.heap.size+1;omega)]
 ·obtain rfl:=h1 hk
  have kb:(k != 0)=true:=by simp [hk]
  have Z2:=qC5 (Z1.out.below ((Below.refl _ _).alloc (Nat.le_refl _) (.cells #[.slice none 0 0,.slice none 0 0,.slice none 0 0] 74)))
  clear h1 h2 Z1
  have z0:=Z2.out.rs.1 0 _ rfl
  have z1:=Z2.out.rs.1 1 _ rfl
  have z2:=Z2.out.rs.1 2 _ rfl
  have z3:=Z2.out.rs.1 3 _ rfl
  have z4:=Z2.out.rs.1 4 _ rfl
  have f0:=Z2.out.rs.2 0
  have f1:=Z2.out.rs.2 1
  have f2:=Z2.out.rs.2 2
  have f3:=Z2.out.rs.2 3
  have f4:=Z2.out.rs.2 4
  have hzl:=Z2.out.lt
  go_wp2_with fail
  refine bodyPost_ret (v:=.agg #[.int .i64 k,.int .i64 0,.int .i64 0,.slice none 0 0,.slice none 0 0]) (by simp [results,Tryz.results20,go_sem,z0,z1,z2,z3,z4,hzl]) rfl ?_
  exact ⟨((((Z2.out.bl.setCell (Nat.le_succ _) _).setCell (Nat.le_succ _) _).setCell (Nat.le_succ _) _).setCell (Nat.le_succ _) _).setCell (Nat.le_succ _) _,fun _=>rfl,fun q=>absurd q hk⟩

section
open Go.RowKit Go.ChangeShapes Go.WideShapes
theorem Tryz.cells139:Tryz.prog.cellsOf 139=2:=by kernel_rfl
theorem Tryz.cells2:Tryz.prog.cellsOf 2=1:=by kernel_rfl
theorem list2 {α:Type} {l:List α} (h:l.length=2):∃ a b,l=[a,b]:=by
 match l,h with
 | [a,b],_=>exact ⟨a,b,rfl⟩
theorem list5 {α:Type} {l:List α} (h:l.length=5):∃ a b c d e,l=[a,b,c,d,e]:=by
 match l,h with
 | [a,b,c,d,e],_=>exact ⟨a,b,c,d,e,rfl⟩
theorem list8 {α:Type} {l:List α} (h:l.length=8):∃ a b c d e f g i,l=[a,b,c,d,e,f,g,i]:=by
 match l,h with
 | [a,b,c,d,e,f,g,i],_=>exact ⟨a,b,c,d,e,f,g,i,rfl⟩
theorem QC7 {H:Type} {enc:TypeId × Value→H} {w:World} {base:Nat} {spare:Nat→Bool} {held:Bool} {fuel:Nat} {cs:List Value} {x:DataW H × List MemPlace} (h:DataW.trod enc Tryz.prog w base spare held fuel 139 cs=some x) :
  ∃ o n,cs=[.int .i64 o,.int .i64 n]:=by
 obtain ⟨y0,y1,n,_,hl,h0,h1⟩:=trod_struct2 Tryz.underlying139 h
 rw [Tryz.cells139] at hl
 obtain ⟨c0,c1,rfl⟩:=list2 hl
 simp [Tryz.cells2] at h0 h1
 obtain ⟨a,e0,_,_⟩:=DataW.trod_int Tryz.underlying2 h0
 obtain ⟨b,e1,_,_⟩:=DataW.trod_int Tryz.underlying2 h1
 simp at e0 e1
 exact ⟨a,b,by rw [e0,e1]⟩
theorem Tryz.cells141:Tryz.prog.cellsOf 141=8:=by kernel_rfl
theorem rule_list {H:Type} {enc:TypeId × Value→H} {w:World} {base:Nat} {spare:Nat→Bool} {held:Bool} {fuel:Nat} {cs:List Value} {x:DataW H × List MemPlace} (h:DataW.trod enc Tryz.prog w base spare held fuel 141 cs=some x) :
  ∃ r:qA0,cs=[.int .i64 r.k,.int .i64 r.ho,.int .i64 r.hn,.int .i64 r.w,.int .i64 r.oo,.int .i64 r.on,.int .i64 r.to,.int .i64 r.tn]:=by
 obtain ⟨xs,n,_,_,hl,hlen,hf⟩:=DataW.trod_struct Tryz.underlying141 h
 rw [Tryz.cells141] at hl
 obtain ⟨c0,c1,c2,c3,c4,c5,c6,c7,rfl⟩:=list8 hl
 obtain ⟨y0,y1,y2,y3,y4,rfl⟩:=list5 hlen
 have g0:=hf 0 _ rfl
 have g1:=hf 1 _ rfl
 have g2:=hf 2 _ rfl
 have g3:=hf 3 _ rfl
 have g4:=hf 4 _ rfl
 simp [Tryz.cells2,Tryz.cells139] at g0 g1 g2 g3 g4
 obtain ⟨k,e0,_,_⟩:=DataW.trod_int Tryz.underlying2 g0
 obtain ⟨wh,e3,_,_⟩:=DataW.trod_int Tryz.underlying2 g2
 obtain ⟨ho,hn,e1⟩:=QC7 g1
 obtain ⟨oo,on,e4⟩:=QC7 g3
 obtain ⟨tw,tn,e6⟩:=QC7 g4
 simp at e0 e1 e3 e4 e6
 obtain ⟨rfl,rfl⟩:=e1
 obtain ⟨rfl,rfl⟩:=e4
 obtain ⟨rfl,rfl⟩:=e6
 subst e0 e3
 exact ⟨⟨k,ho,hn,wh,oo,on,tw,tn⟩,rfl⟩
theorem cells8 {w:World} {base:Nat} {a:Addr} {r:qA0} (h:w.cells? base a 8=some [.int .i64 r.k,.int .i64 r.ho,.int .i64 r.hn,.int .i64 r.w,.int .i64 r.oo,.int .i64 r.on,.int .i64 r.to,.int .i64 r.tn]):a.spot=none∧qC6 w a.block a.off r:=by
 have e:List.range 8=[0,1,2,3,4,5,6,7]:=rfl
 unfold World.cells? at h
 split at h
 ·rw [e] at h
  simp only [List.mapM_cons,List.mapM_nil,Option.bind_eq_bind,Option.bind_eq_some_iff,Option.pure_def,Option.some.injEq,List.cons.injEq] at h
  obtain ⟨x0,h0,y0,⟨x1,h1,y1,⟨x2,h2,y2,⟨x3,h3,y3,⟨x4,h4,y4,⟨x5,h5,y5,⟨x6,h6,y6,⟨x7,h7,y7,rfl,e7⟩,e6⟩,e5⟩,e4⟩,e3⟩,e2⟩,e1⟩,e0,ee⟩:=h
  subst e0
  rw [← e1] at ee
  simp only [List.cons.injEq] at ee
  obtain ⟨rfl,ee⟩:=ee
  rw [← e2] at ee
  simp only [List.cons.injEq] at ee
  obtain ⟨rfl,ee⟩:=ee
  rw [← e3] at ee
  simp only [List.cons.injEq] at ee
  obtain ⟨rfl,ee⟩:=ee
  rw [← e4] at ee
  simp only [List.cons.injEq] at ee
  obtain ⟨rfl,ee⟩:=ee
  rw [← e5] at ee
  simp only [List.cons.injEq] at ee
  obtain ⟨rfl,ee⟩:=ee
  rw [← e6] at ee
  simp only [List.cons.injEq] at ee
  obtain ⟨rfl,ee⟩:=ee
  rw [← e7] at ee
  simp only [List.cons.injEq] at ee
  obtain ⟨rfl,_⟩:=ee
  obtain ⟨b,off,spot⟩:=a
  have hspot:spot=none:=by simpa [Addr.add] using World.cell?_spot h0
  subst hspot
  simp only [Addr.add] at h0 h1 h2 h3 h4 h5 h6 h7
  exact ⟨rfl,by simpa using h0,by simpa using h1,by simpa using h2,by simpa using h3,by simpa using h4,by simpa using h5,by simpa using h6,by simpa using h7⟩
 ·cases h
instance:Inhabited qA0:=⟨⟨0,0,0,0,0,0,0,0⟩⟩
theorem rules_shape {H:Type} {enc:TypeId × Value→H} {w:World} {base:Nat} {spare:Nat→Bool} {held:Bool} {fuel:Nat} {a0:Option Addr} {len cap:Nat} {x:DataW H × List MemPlace} (h:DataW.trod enc Tryz.prog w base spare held fuel 59 [.slice a0 len cap]=some x) :
  ∃ zs:List qA0,RulesArg w a0 len zs:=by
 rcases Go.Deep.open_slice Tryz.underlying59 h with ⟨hcs,_⟩ | ⟨a,l,c,m,n,D,Pl,hcs,hb,hl,hm,hmm,_,hel⟩
 ·simp at hcs
  obtain ⟨rfl,rfl,rfl⟩:=hcs
  exact ⟨[],⟨rfl,fun h=>by omega⟩,Nat.zero_le _⟩
 ·simp at hcs
  obtain ⟨rfl,rfl,rfl⟩:=hcs
  have hle:len≤m:=by rw [hmm];split <;> omega
  rw [Tryz.cells141] at hel
  have hk:∀ i,i < len→∃ r:qA0,w.cells? base (a.add (i * 8)) 8=some [.int .i64 r.k,.int .i64 r.ho,.int .i64 r.hn,.int .i64 r.w,.int .i64 r.oo,.int .i64 r.on,.int .i64 r.to,.int .i64 r.tn]:=fun i hi=>by
   obtain ⟨cs',hc,ht⟩:=hel i (by omega)
   obtain ⟨r,rfl⟩:=rule_list ht
   exact ⟨r,hc⟩
  obtain ⟨f,hf⟩:=Go.Deep.choose_lt hk
  refine ⟨(List.range len).map f,⟨by simp,fun hp=>?_⟩,Nat.le_trans hl hm⟩
  obtain ⟨hsp,_⟩:=cells8 (hf 0 hp)
  obtain ⟨b,off,spot⟩:=a
  simp [Addr.add] at hsp
  subst hsp
  refine ⟨b,off,rfl,fun k r e=>?_⟩
  have hkl:k < len:=by
   by_cases q:k < len
   ·exact q
   ·rw [List.getElem?_eq_none (by simp;omega)] at e;cases e
  rw [List.getElem?_map,List.getElem?_range hkl] at e
  simp at e
  subst e
  obtain ⟨_,hr⟩:=cells8 (hf k hkl)
  have : ((⟨b,off,none⟩:Addr).add (k * 8))=⟨b,off+k * 8,none⟩:=Go.WideShapes.add_plain ..
  rw [this] at hr
  exact hr
end

section
open Go.RowKit Go.ChangeShapes Go.WideShapes
theorem Tryz.cells203:Tryz.prog.cellsOf 203=5:=by kernel_rfl
theorem list4 {α:Type} {l:List α} (h:l.length=4):∃ a b c d,l=[a,b,c,d]:=by
 match l,h with
 | [a,b,c,d],_=>exact ⟨a,b,c,d,rfl⟩
theorem part_list {H:Type} {enc:TypeId × Value→H} {w:World} {base:Nat} {spare:Nat→Bool} {held:Bool} {fuel:Nat} {cs:List Value} {x:DataW H × List MemPlace} (h:DataW.trod enc Tryz.prog w base spare held fuel 203 cs=some x) :
  ∃ r:qC9,cs=[.int .i64 r.k,.int .i64 r.ro,.int .i64 r.rn,.int .i64 r.l,.int .i64 r.r]:=by
 obtain ⟨xs,n,_,_,hl,hlen,hf⟩:=DataW.trod_struct Tryz.underlying203 h
 rw [Tryz.cells203] at hl
 obtain ⟨c0,c1,c2,c3,c4,rfl⟩:=list5 hl
 obtain ⟨y0,y1,y2,y3,rfl⟩:=list4 hlen
 have g0:=hf 0 _ rfl
 have g1:=hf 1 _ rfl
 have g2:=hf 2 _ rfl
 have g3:=hf 3 _ rfl
 simp [Tryz.cells2,Tryz.cells139] at g0 g1 g2 g3
 obtain ⟨k,e0,_,_⟩:=DataW.trod_int Tryz.underlying2 g0
 obtain ⟨lf,e3,_,_⟩:=DataW.trod_int Tryz.underlying2 g2
 obtain ⟨rt,e4,_,_⟩:=DataW.trod_int Tryz.underlying2 g3
 obtain ⟨ho,hn,e1⟩:=QC7 g1
 simp at e0 e1 e3 e4
 obtain ⟨rfl,rfl⟩:=e1
 subst e0 e3 e4
 exact ⟨⟨k,ho,hn,lf,rt⟩,rfl⟩
theorem cells5 {w:World} {base:Nat} {a:Addr} {r:qC9} (h:w.cells? base a 5=some [.int .i64 r.k,.int .i64 r.ro,.int .i64 r.rn,.int .i64 r.l,.int .i64 r.r]):a.spot=none∧qV7 w a.block a.off r:=by
 have e:List.range 5=[0,1,2,3,4]:=rfl
 unfold World.cells? at h
 split at h
 ·rw [e] at h
  simp only [List.mapM_cons,List.mapM_nil,Option.bind_eq_bind,Option.bind_eq_some_iff,Option.pure_def,Option.some.injEq,List.cons.injEq] at h
  obtain ⟨x0,h0,y0,⟨x1,h1,y1,⟨x2,h2,y2,⟨x3,h3,y3,⟨x4,h4,y4,rfl,e4⟩,e3⟩,e2⟩,e1⟩,e0,ee⟩:=h
  subst e0
  rw [← e1] at ee
  simp only [List.cons.injEq] at ee
  obtain ⟨rfl,ee⟩:=ee
  rw [← e2] at ee
  simp only [List.cons.injEq] at ee
  obtain ⟨rfl,ee⟩:=ee
  rw [← e3] at ee
  simp only [List.cons.injEq] at ee
  obtain ⟨rfl,ee⟩:=ee
  rw [← e4] at ee
  simp only [List.cons.injEq] at ee
  obtain ⟨rfl,_⟩:=ee
  obtain ⟨b,off,spot⟩:=a
  have hspot:spot=none:=by simpa [Addr.add] using World.cell?_spot h0
  subst hspot
  simp only [Addr.add] at h0 h1 h2 h3 h4
  exact ⟨rfl,by simpa using h0,by simpa using h1,by simpa using h2,by simpa using h3,by simpa using h4⟩
 ·cases h
theorem parts_shape {H:Type} {enc:TypeId × Value→H} {w:World} {base:Nat} {spare:Nat→Bool} {held:Bool} {fuel:Nat} {a0:Option Addr} {len cap:Nat} {x:DataW H × List MemPlace} (h:DataW.trod enc Tryz.prog w base spare held fuel 134 [.slice a0 len cap]=some x) :
  ∃ zs:List qC9,QV8 w a0 len zs:=by
 rcases Go.Deep.open_slice Tryz.underlying134 h with ⟨hcs,_⟩ | ⟨a,l,c,m,n,D,Pl,hcs,hb,hl,hm,hmm,_,hel⟩
 ·simp at hcs
  obtain ⟨rfl,rfl,rfl⟩:=hcs
  exact ⟨[],⟨rfl,fun h=>by omega⟩,Nat.zero_le _⟩
 ·simp at hcs
  obtain ⟨rfl,rfl,rfl⟩:=hcs
  have hle:len≤m:=by rw [hmm];split <;> omega
  rw [Tryz.cells203] at hel
  have hk:∀ i,i < len→∃ r:qC9,w.cells? base (a.add (i * 5)) 5=some [.int .i64 r.k,.int .i64 r.ro,.int .i64 r.rn,.int .i64 r.l,.int .i64 r.r]:=fun i hi=>by
   obtain ⟨cs',hc,ht⟩:=hel i (by omega)
   obtain ⟨r,rfl⟩:=part_list ht
   exact ⟨r,hc⟩
  obtain ⟨f,hf⟩:=Go.Deep.choose_lt hk
  refine ⟨(List.range len).map f,⟨by simp,fun hp=>?_⟩,Nat.le_trans hl hm⟩
  obtain ⟨hsp,_⟩:=cells5 (hf 0 hp)
  obtain ⟨b,off,spot⟩:=a
  simp [Addr.add] at hsp
  subst hsp
  refine ⟨b,off,rfl,fun k r e=>?_⟩
  have hkl:k < len:=by
   by_cases q:k < len
   ·exact q
   ·rw [List.getElem?_eq_none (by simp;omega)] at e;cases e
  rw [List.getElem?_map,List.getElem?_range hkl] at e
  simp at e
  subst e
  obtain ⟨_,hr⟩:=cells5 (hf k hkl)
  have : ((⟨b,off,none⟩:Addr).add (k * 5))=⟨b,off+k * 5,none⟩:=Go.WideShapes.add_plain ..
  rw [this] at hr
  exact hr
end

section
open Go.RowKit Go.ChangeShapes Go.WideShapes
theorem Tryz.cells136:Tryz.prog.cellsOf 136=1:=by kernel_rfl
theorem Tryz.cells63:Tryz.prog.cellsOf 63=5:=by kernel_rfl
theorem Tryz.cells134:Tryz.prog.cellsOf 134=1:=by kernel_rfl
theorem Tryz.cells59:Tryz.prog.cellsOf 59=1:=by kernel_rfl
theorem Tryz.cells60:Tryz.prog.cellsOf 60=1:=by kernel_rfl
theorem Tryz.cells61:Tryz.prog.cellsOf 61=1:=by kernel_rfl
theorem list1 {α:Type} {l:List α} (h:l.length=1):∃ a,l=[a]:=by
 match l,h with
 | [a],_=>exact ⟨a,rfl⟩
theorem cell1 {w:World} {base:Nat} {a:Addr} {v:Value} (h:w.cells? base a 1=some [v]):a.spot=none∧w.cell? ⟨a.block,a.off,none⟩=some v:=by
 have e:List.range 1=[0]:=rfl
 unfold World.cells? at h
 split at h
 ·rw [e] at h
  simp only [List.mapM_cons,List.mapM_nil,Option.bind_eq_bind,Option.bind_eq_some_iff,Option.pure_def,Option.some.injEq,List.cons.injEq] at h
  obtain ⟨x0,h0,y0,rfl,e0,ee⟩:=h
  subst e0
  obtain ⟨b,off,spot⟩:=a
  have hspot:spot=none:=by simpa [Addr.add] using World.cell?_spot h0
  subst hspot
  simp only [Addr.add] at h0
  exact ⟨rfl,by simpa using h0⟩
 ·cases h
theorem parts_val {H:Type} {enc:TypeId × Value→H} {w:World} {base:Nat} {spare:Nat→Bool} {held:Bool} {fuel:Nat} {cs:List Value} {x:DataW H × List MemPlace} (h:DataW.trod enc Tryz.prog w base spare held fuel 134 cs=some x) :
  ∃ a n c,cs=[.slice a n c]:=by
 rcases Go.Deep.open_slice Tryz.underlying134 h with ⟨hcs,_⟩ | ⟨a,l,c,m,n,D,Pl,hcs,_⟩
 ·exact ⟨_,_,_,hcs⟩
 ·exact ⟨_,_,_,hcs⟩
theorem rules_val {H:Type} {enc:TypeId × Value→H} {w:World} {base:Nat} {spare:Nat→Bool} {held:Bool} {fuel:Nat} {cs:List Value} {x:DataW H × List MemPlace} (h:DataW.trod enc Tryz.prog w base spare held fuel 59 cs=some x) :
  ∃ a n c,cs=[.slice a n c]:=by
 rcases Go.Deep.open_slice Tryz.underlying59 h with ⟨hcs,_⟩ | ⟨a,l,c,m,n,D,Pl,hcs,_⟩
 ·exact ⟨_,_,_,hcs⟩
 ·exact ⟨_,_,_,hcs⟩
theorem forms_val {H:Type} {enc:TypeId × Value→H} {w:World} {base:Nat} {spare:Nat→Bool} {held:Bool} {fuel:Nat} {cs:List Value} {x:DataW H × List MemPlace} (h:DataW.trod enc Tryz.prog w base spare held fuel 60 cs=some x) :
  ∃ a n c,cs=[.slice a n c]:=by
 rcases Go.Deep.open_slice Tryz.underlying60 h with ⟨hcs,_⟩ | ⟨a,l,c,m,n,D,Pl,hcs,_⟩
 ·exact ⟨_,_,_,hcs⟩
 ·exact ⟨_,_,_,hcs⟩
theorem ints_val {H:Type} {enc:TypeId × Value→H} {w:World} {base:Nat} {spare:Nat→Bool} {held:Bool} {fuel:Nat} {cs:List Value} {x:DataW H × List MemPlace} (h:DataW.trod enc Tryz.prog w base spare held fuel 61 cs=some x) :
  ∃ a n c,cs=[.slice a n c]:=by
 rcases Go.Deep.open_slice Tryz.underlying61 h with ⟨hcs,_⟩ | ⟨a,l,c,m,n,D,Pl,hcs,_⟩
 ·exact ⟨_,_,_,hcs⟩
 ·exact ⟨_,_,_,hcs⟩
theorem ints_shape {H:Type} {enc:TypeId × Value→H} {w:World} {base:Nat} {spare:Nat→Bool} {held:Bool} {fuel:Nat} {a0:Option Addr} {len cap:Nat} {x:DataW H × List MemPlace} (h:DataW.trod enc Tryz.prog w base spare held fuel 61 [.slice a0 len cap]=some x) :
  ∃ zs:List Int,qG5 w a0 len zs∧len≤maxLen:=by
 rcases Go.Deep.open_slice Tryz.underlying61 h with ⟨hcs,_⟩ | ⟨a,l,c,m,n,D,Pl,hcs,hb,hl,hm,hmm,_,hel⟩
 ·simp at hcs
  obtain ⟨rfl,rfl,rfl⟩:=hcs
  exact ⟨[],⟨rfl,fun h=>by omega⟩,Nat.zero_le _⟩
 ·simp at hcs
  obtain ⟨rfl,rfl,rfl⟩:=hcs
  have hle:len≤m:=by rw [hmm];split <;> omega
  rw [Tryz.cells2] at hel
  have hk:∀ i,i < len→∃ r:Int,w.cells? base (a.add (i * 1)) 1=some [.int .i64 r]:=fun i hi=>by
   obtain ⟨cs',hc,ht⟩:=hel i (by omega)
   obtain ⟨k,e0,_,_⟩:=DataW.trod_int Tryz.underlying2 ht
   exact ⟨k,by rw [hc,e0]⟩
  obtain ⟨f,hf⟩:=Go.Deep.choose_lt hk
  refine ⟨(List.range len).map f,⟨by simp,fun hp=>?_⟩,Nat.le_trans hl hm⟩
  obtain ⟨hsp,_⟩:=cell1 (hf 0 hp)
  obtain ⟨b,off,spot⟩:=a
  simp [Addr.add] at hsp
  subst hsp
  refine ⟨b,off,rfl,fun k r e=>?_⟩
  have hkl:k < len:=by
   by_cases q:k < len
   ·exact q
   ·rw [List.getElem?_eq_none (by simp;omega)] at e;cases e
  rw [List.getElem?_map,List.getElem?_range hkl] at e
  simp at e
  subst e
  obtain ⟨_,hr⟩:=cell1 (hf k hkl)
  have : ((⟨b,off,none⟩:Addr).add (k * 1))=⟨b,off+k * 1,none⟩:=Go.WideShapes.add_plain ..
  rw [this,Nat.mul_one] at hr
  exact hr
theorem form_list {H:Type} {enc:TypeId × Value→H} {w:World} {base:Nat} {spare:Nat→Bool} {held:Bool} {fuel:Nat} {cs:List Value} {x:DataW H × List MemPlace} (h:DataW.trod enc Tryz.prog w base spare held fuel 136 cs=some x) :
  ∃ r:qE7,cs=[.slice r.a r.n r.cap]∧QV8 w r.a r.n r.ps:=by
 obtain ⟨xs,n,_,_,hl,hlen,hf⟩:=DataW.trod_struct Tryz.underlying136 h
 rw [Tryz.cells136] at hl
 obtain ⟨c0,rfl⟩:=list1 hl
 obtain ⟨y0,rfl⟩:=list1 hlen
 have g0:=hf 0 _ rfl
 simp [Tryz.cells134] at g0
 obtain ⟨a,n',c',e⟩:=parts_val g0
 simp at e
 subst e
 obtain ⟨zs,hz⟩:=parts_shape g0
 exact ⟨⟨a,n',c',zs⟩,rfl,hz⟩
theorem forms_shape {H:Type} {enc:TypeId × Value→H} {w:World} {base:Nat} {spare:Nat→Bool} {held:Bool} {fuel:Nat} {a0:Option Addr} {len cap:Nat} {x:DataW H × List MemPlace} (h:DataW.trod enc Tryz.prog w base spare held fuel 60 [.slice a0 len cap]=some x) :
  ∃ fs:List qE7,qF7 w a0 len fs∧len≤maxLen∧qM0 maxLen fs:=by
 rcases Go.Deep.open_slice Tryz.underlying60 h with ⟨hcs,_⟩ | ⟨a,l,c,m,n,D,Pl,hcs,hb,hl,hm,hmm,_,hel⟩
 ·simp at hcs
  obtain ⟨rfl,rfl,rfl⟩:=hcs
  exact ⟨[],⟨rfl,fun h=>by omega⟩,Nat.zero_le _,fun k x e=>by simp at e⟩
 ·simp at hcs
  obtain ⟨rfl,rfl,rfl⟩:=hcs
  have hle:len≤m:=by rw [hmm];split <;> omega
  rw [Tryz.cells136] at hel
  have hk:∀ i,i < len→∃ r:qE7,w.cells? base (a.add (i * 1)) 1=some [.slice r.a r.n r.cap]∧QV8 w r.a r.n r.ps:=fun i hi=>by
   obtain ⟨cs',hc,ht⟩:=hel i (by omega)
   obtain ⟨r,rfl,hr⟩:=form_list ht
   exact ⟨r,hc,hr⟩
  obtain ⟨f,hf⟩:=Go.Deep.choose_lt hk
  have key:∀ (k:Nat) (r:qE7),((List.range len).map f)[k]? = some r→k < len∧r=f k:=fun k r e=>by
   have hkl:k < len:=by
    by_cases q:k < len
    ·exact q
    ·rw [List.getElem?_eq_none (by simp;omega)] at e;cases e
   rw [List.getElem?_map,List.getElem?_range hkl] at e
   simp at e
   exact ⟨hkl,e.symm⟩
  refine ⟨(List.range len).map f,⟨by simp,fun hp=>?_⟩,Nat.le_trans hl hm,fun k r e=>?_⟩
  ·obtain ⟨hsp,_⟩:=cell1 (hf 0 hp).1
   obtain ⟨b,off,spot⟩:=a
   simp [Addr.add] at hsp
   subst hsp
   refine ⟨b,off,rfl,fun k r e=>?_⟩
   obtain ⟨hkl,rfl⟩:=key k r e
   obtain ⟨_,hr⟩:=cell1 (hf k hkl).1
   have : ((⟨b,off,none⟩:Addr).add (k * 1))=⟨b,off+k * 1,none⟩:=Go.WideShapes.add_plain ..
   rw [this,Nat.mul_one] at hr
   exact ⟨hr,(hf k hkl).2.1⟩
  ·obtain ⟨hkl,rfl⟩:=key k r e
   exact (hf k hkl).2.2
theorem conf_list {H:Type} {enc:TypeId × Value→H} {w:World} {base:Nat} {spare:Nat→Bool} {held:Bool} {fuel:Nat} {cs:List Value} {x:DataW H × List MemPlace} (h:DataW.trod enc Tryz.prog w base spare held fuel 63 cs=some x) :
  ∃ c:qA4,cs=[.int .i64 c.e,.int .i64 c.f,.slice c.ra c.rn c.rc,.slice c.fa c.fn c.fc,.slice c.ca c.cn c.cc]∧qF1 w c∧qD6 maxLen c:=by
 obtain ⟨xs,n,_,_,hl,hlen,hf⟩:=DataW.trod_struct Tryz.underlying63 h
 rw [Tryz.cells63] at hl
 obtain ⟨c0,c1,c2,c3,c4,rfl⟩:=list5 hl
 obtain ⟨y0,y1,y2,y3,y4,rfl⟩:=list5 hlen
 have g0:=hf 0 _ rfl
 have g1:=hf 1 _ rfl
 have g2:=hf 2 _ rfl
 have g3:=hf 3 _ rfl
 have g4:=hf 4 _ rfl
 simp [Tryz.cells2,Tryz.cells59,Tryz.cells60,Tryz.cells61] at g0 g1 g2 g3 g4
 obtain ⟨e0,q0,_,_⟩:=DataW.trod_int Tryz.underlying2 g0
 obtain ⟨e1,q1,_,_⟩:=DataW.trod_int Tryz.underlying2 g1
 obtain ⟨ra,rn,rc,q2⟩:=rules_val g2
 obtain ⟨fa,fn,fc,q3⟩:=forms_val g3
 obtain ⟨ca,cn,cc,q4⟩:=ints_val g4
 simp at q0 q1 q2 q3 q4
 subst q0 q1 q2 q3 q4
 obtain ⟨zs,hz⟩:=rules_shape g2
 obtain ⟨fs,hf1,hf2,hf3⟩:=forms_shape g3
 obtain ⟨cs,hc1,hc2⟩:=ints_shape g4
 exact ⟨⟨e0,e1,ra,rn,rc,zs,fa,fn,fc,fs,ca,cn,cc,cs⟩,rfl,⟨hz.1,hf1,hc1⟩,⟨hz.2,hf2,hf3,hc2⟩⟩
end

section
open Go.RowKit Go.ChangeShapes Go.WideShapes
theorem cellsCf {w:World} {base:Nat} {a:Addr} {r:qA4} (h:w.cells? base a 5=some [.int .i64 r.e,.int .i64 r.f,.slice r.ra r.rn r.rc,.slice r.fa r.fn r.fc,.slice r.ca r.cn r.cc]):a.spot=none∧qI4 w a.block a.off r:=by
 have e:List.range 5=[0,1,2,3,4]:=rfl
 unfold World.cells? at h
 split at h
 ·rw [e] at h
  simp only [List.mapM_cons,List.mapM_nil,Option.bind_eq_bind,Option.bind_eq_some_iff,Option.pure_def,Option.some.injEq,List.cons.injEq] at h
  obtain ⟨x0,h0,y0,⟨x1,h1,y1,⟨x2,h2,y2,⟨x3,h3,y3,⟨x4,h4,y4,rfl,e4⟩,e3⟩,e2⟩,e1⟩,e0,ee⟩:=h
  subst e0
  rw [← e1] at ee
  simp only [List.cons.injEq] at ee
  obtain ⟨rfl,ee⟩:=ee
  rw [← e2] at ee
  simp only [List.cons.injEq] at ee
  obtain ⟨rfl,ee⟩:=ee
  rw [← e3] at ee
  simp only [List.cons.injEq] at ee
  obtain ⟨rfl,ee⟩:=ee
  rw [← e4] at ee
  simp only [List.cons.injEq] at ee
  obtain ⟨rfl,_⟩:=ee
  obtain ⟨b,off,spot⟩:=a
  have hspot:spot=none:=by simpa [Addr.add] using World.cell?_spot h0
  subst hspot
  simp only [Addr.add] at h0 h1 h2 h3 h4
  exact ⟨rfl,by simpa using h0,by simpa using h1,by simpa using h2,by simpa using h3,by simpa using h4⟩
 ·cases h
def QI2 (w:World) (a:Option Addr) (n:Nat) (cs:List qA4):Prop:=qA6 w a n cs∧n≤maxLen∧∀ (k:Nat) c,cs[k]? = some c→qD6 maxLen c
theorem QU9 {H:Type} {enc:TypeId × Value→H} {w:World} {base:Nat} {spare:Nat→Bool} {held:Bool} {fuel:Nat} {a0:Option Addr} {len cap:Nat} {x:DataW H × List MemPlace} (h:DataW.trod enc Tryz.prog w base spare held fuel 26 [.slice a0 len cap]=some x) :
  ∃ cs:List qA4,QI2 w a0 len cs:=by
 rcases Go.Deep.open_slice Tryz.underlying26 h with ⟨hcs,_⟩ | ⟨a,l,c,m,n,D,Pl,hcs,hb,hl,hm,hmm,_,hel⟩
 ·simp at hcs
  obtain ⟨rfl,rfl,rfl⟩:=hcs
  exact ⟨[],⟨rfl,fun h=>by omega,fun k c e=>by simp at e⟩,Nat.zero_le _,fun k c e=>by simp at e⟩
 ·simp at hcs
  obtain ⟨rfl,rfl,rfl⟩:=hcs
  have hle:len≤m:=by rw [hmm];split <;> omega
  rw [Tryz.cells63] at hel
  have hk:∀ i,i < len→∃ r:qA4,w.cells? base (a.add (i * 5)) 5=some [.int .i64 r.e,.int .i64 r.f,.slice r.ra r.rn r.rc,.slice r.fa r.fn r.fc,.slice r.ca r.cn r.cc]∧qF1 w r∧qD6 maxLen r:=fun i hi=>by
   obtain ⟨cs',hc,ht⟩:=hel i (by omega)
   obtain ⟨r,rfl,hr⟩:=conf_list ht
   exact ⟨r,hc,hr⟩
  obtain ⟨f,hf⟩:=Go.Deep.choose_lt hk
  have key:∀ (k:Nat) (r:qA4),((List.range len).map f)[k]? = some r→k < len∧r=f k:=fun k r e=>by
   have hkl:k < len:=by
    by_cases q:k < len
    ·exact q
    ·rw [List.getElem?_eq_none (by simp;omega)] at e;cases e
   rw [List.getElem?_map,List.getElem?_range hkl] at e
   simp at e
   exact ⟨hkl,e.symm⟩
  refine ⟨(List.range len).map f,⟨by simp,fun hp=>?_,fun k r e=>?_⟩,Nat.le_trans hl hm,fun k r e=>?_⟩
  ·obtain ⟨hsp,_⟩:=cellsCf (hf 0 hp).1
   obtain ⟨b,off,spot⟩:=a
   simp [Addr.add] at hsp
   subst hsp
   refine ⟨b,off,rfl,fun k r e=>?_⟩
   obtain ⟨hkl,rfl⟩:=key k r e
   obtain ⟨_,hr⟩:=cellsCf (hf k hkl).1
   have : ((⟨b,off,none⟩:Addr).add (k * 5))=⟨b,off+k * 5,none⟩:=Go.WideShapes.add_plain ..
   rw [this] at hr
   exact hr
  ·obtain ⟨hkl,rfl⟩:=key k r e
   exact (hf k hkl).2.1
  ·obtain ⟨hkl,rfl⟩:=key k r e
   exact (hf k hkl).2.2
end

end Go.Proofs.YtlhgjackapdmbaaGreatDoor
