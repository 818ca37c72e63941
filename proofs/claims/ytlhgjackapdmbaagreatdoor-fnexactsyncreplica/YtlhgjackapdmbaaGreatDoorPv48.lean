/- Contracts. -/
import Derived.Test.YtlhgjackapdmbaaGreatDoorPv47
import Derived.Test.YtlhgjackapdmbaaGreatDoorPv45
namespace Go.Proofs.YtlhgjackapdmbaaGreatDoor
set_option maxRecDepth 100000
set_option maxHeartbeats 8000000
open Go.RowKit
set_option linter.unusedVariables false
set_option linter.unusedSimpArgs false

theorem specSync_c (E:qI3) (r:qG9) (a:Option Addr) (m cap:Nat) (cs:List qA4) (w:World) (hr:qD7 w r) (hN:qJ3 r) (hle:qK5 1048576 r) (hc:qA6 w a m cs) (hcl:qF8 1048576 cs) (hm:m≤1048576) (hEC:qB8 cs=0→qN6 E cs) :
  Calls Tryz.prog 19 #[.agg #[.int .i64 r.i,.int .i64 r.u,.slice r.sa r.sn r.sc,.slice r.la r.ln r.lc],.slice a m cap] w fun d w'=>RepA (qH0 E cs r) r.i (r.sn:Int) r.ss r.ls w d w':=by
 obtain ⟨V,hV⟩:∃ V,V=(w.alloc (.cells #[.int .i64 r.i,.int .i64 r.u,.slice r.sa r.sn r.sc,.slice r.la r.ln r.lc] 33)).alloc (.cells #[.int .i64 0,.int .i64 0,.int .i64 0,.slice none 0 0,.slice none 0 0] 47):=⟨_,rfl⟩
 have Z0:Hid (RZ w r V):=by show RZ _ _ _;rw [hV];exact RZ.new w r
 obtain ⟨k,hk⟩:∃ k,qH0 E cs r=k:=⟨_,rfl⟩
 have HSL:Hid (r.ss.length=r.sn∧r.ls.length=r.ln):=⟨hr.said.1,hr.locks.1⟩
 have HRI:Hid (qD7 w r):=hr
 have HN:Hid (qJ3 r):=hN
 have HLE:Hid (qK5 1048576 r):=hle
 have HF:Hid (Calls Tryz.prog 33 #[.pointer (some ⟨w.heap.size,0,none⟩),.slice a m cap] V fun d w'=>d = .returned (.int .i64 k)∧Below V.heap.size V w'):=by
  show Calls _ _ _ _ _
  rw [← hk]
  exact l8Fault_c E _ r a m cap cs V ⟨Z0.out.bx 0 _ rfl,Z0.out.bx 1 _ rfl,Z0.out.bx 2 _ rfl,Z0.out.bx 3 _ rfl⟩ (hr.below Z0.out.bl) hle (hc.below Z0.out.bl) hcl hm hEC
 have hsn:(r.sn:Int)≤1048576:=by have:=hle.said;omega
 rw [hk]
 have hVs:=Z0.out.bl.size
 have HVL:Hid (w.heap.size+1 < V.heap.size):=Z0.out.lt
 clear hk hr hle hc hcl hEC hN
 go_enter Tryz.func19,Tryz.ntmps19
 go_upto_region 1 with fail
 rw [← hV]
 clear hV
 go_wp2_with fail
 refine HF.out.mono ?_
 rintro d w1 ⟨rfl,hb1⟩
 have Z1:=qC5 (Z0.out.below hb1)
 have HB1:=qC5 hb1
 clear hb1 Z0 HF
 by_cases hk:k=0
 ·subst hk
  have v0:=Z1.out.bx 0 _ rfl
  have v1:=Z1.out.bx 1 _ rfl
  have v2:=Z1.out.bx 2 _ rfl
  have v3:=Z1.out.bx 3 _ rfl
  have hvl:w.heap.size < w1.heap.size:=Nat.lt_of_succ_lt Z1.out.lt
  have HCY:=qC5 (qQ2 r w1 (HRI.out.below Z1.out.bl) HN.out HLE.out.said HLE.out.locks)
  go_wp2_with fail
  refine HCY.out.mono ?_
  rintro d w2 ⟨gs,sc,gl,lc,rfl,ho1,ho2,hb2⟩
  obtain ⟨Y,hY⟩:∃ Y,Y=w2.alloc (.cells #[.int .i64 r.i,.int .i64 r.u,.slice (some ⟨gs,0,none⟩) r.sn sc,.slice (some ⟨gl,0,none⟩) r.ln lc] 33):=⟨_,rfl⟩
  have AY:Below w2.heap.size w2 Y:=by rw [hY];exact zN
  have Z2:=qC5 ((Z1.out.below hb2).below AY)
  have YB:qI6 w2.heap.size [.int .i64 r.i,.int .i64 r.u,.slice (some ⟨gs,0,none⟩) r.sn sc,.slice (some ⟨gl,0,none⟩) r.ln lc] Y:=by rw [hY];exact qH4 w2 _ _
  have hYl:w2.heap.size < Y.heap.size:=by rw [hY];simp
  have O1:=qC5 (ho1.below AY)
  have O2:=qC5 (ho2.below AY)
  have hq1:w.heap.size+1 < w2.heap.size:=by have:=HVL.out;have:=HB1.out.size;have:=hb2.size;omega
  have g1:∀ g,(Value.slice (some ⟨gs,0,none⟩) r.sn sc).ownBlock=some g→g < w2.heap.size:=fun g e=>by
   have h0:w2.ownsRow w1.heap.size 43 5 (.slice (some ⟨gs,0,none⟩) r.sn sc) r.ss.length (qC3 r.ss):=ho1
   exact (h0.lt g e).2
  have g2:∀ g,(Value.slice (some ⟨gl,0,none⟩) r.ln lc).ownBlock=some g→g < w2.heap.size:=fun g e=>by
   have h0:w2.ownsRow w1.heap.size 98 4 (.slice (some ⟨gl,0,none⟩) r.ln lc) r.ls.length (qA2 r.ls):=ho2
   exact (h0.lt g e).2
  have HG:=qC5 (And.intro g1 g2)
  have hw1:V.heap.size≤w1.heap.size:=HB1.out.size
  clear ho1 ho2 hb2 AY Z1 HCY v0 v1 v2 v3 hvl g1 g2
  go_upto_region 5 with fail
  rw [← hY]
  clear hY
  generalize w2.heap.size=q at YB hYl hq1 HG ⊢
  have v2:=Z2.out.bx 2 _ rfl
  have hvl:w.heap.size < Y.heap.size:=Nat.lt_of_succ_lt Z2.out.lt
  have y0:=YB.1 0 _ rfl
  have y1:=YB.1 1 _ rfl
  have y2:=YB.1 2 _ rfl
  have y3:=YB.1 3 _ rfl
  have yf1:=YB.2 1
  obtain ⟨U,hU⟩:∃ U,U=Y.setCell ⟨q,1,none⟩ (.int .i64 (r.sn:Int)):=⟨_,rfl⟩
  have UB:qI6 q [.int .i64 r.i,.int .i64 (r.sn:Int),.slice (some ⟨gs,0,none⟩) r.sn sc,.slice (some ⟨gl,0,none⟩) r.ln lc] U:=by rw [hU];exact YB.put 1 (by simp) _
  have hUs:U.heap.size=Y.heap.size:=by rw [hU];simp
  have kU:∀ b,b≠q→U.heap[b]? = Y.heap[b]? := fun b hb=>by rw [hU];exact Below.heap_setCell _ _ _ _ hb
  have RU:Hid (qI6 (w.heap.size+1) [.int .i64 0,.int .i64 0,.int .i64 0,.slice none 0 0,.slice none 0 0] U):=by
   rw [hU]
   exact Z2.out.rs.other (p:=⟨q,1,none⟩) (by show q≠_;omega) _
  have BWU:Hid (Below w.heap.size w U):=by show Below _ _ _;rw [hU];exact Z2.out.bl.setCell (show w.heap.size≤q by omega) _
  have P1:Hid (qB1 U w1.heap.size (.slice (some ⟨gs,0,none⟩) r.sn sc) r.ss):=qA3 O1.out (fun g e=>kU g (by have:=HG.out.1 g e;omega))
  have P2:Hid (qA1 U w1.heap.size (.slice (some ⟨gl,0,none⟩) r.ln lc) r.ls):=qA3 O2.out (fun g e=>kU g (by have:=HG.out.2 g e;omega))
  have u0:=UB.1 0 _ rfl
  have u1:=UB.1 1 _ rfl
  have u2:=UB.1 2 _ rfl
  have u3:=UB.1 3 _ rfl
  have z0:=RU.out.1 0 _ rfl
  have z1:=RU.out.1 1 _ rfl
  have z2:=RU.out.1 2 _ rfl
  have z3:=RU.out.1 3 _ rfl
  have z4:=RU.out.1 4 _ rfl
  have f0:=RU.out.2 0
  have f1:=RU.out.2 1
  have f2:=RU.out.2 2
  have f3:=RU.out.2 3
  have f4:=RU.out.2 4
  have hzl:w.heap.size+1 < U.heap.size:=by omega
  have hql:q < U.heap.size:=by omega
  clear kU
  go_upto_region 6 with fail
  rw [← hU]
  clear hU y0 y1 y2 y3 yf1 v2
  go_wp2_with fail
  refine bodyPost_ret (v:=.agg #[.int .i64 0,.int .i64 r.i,.int .i64 (r.sn:Int),.slice (some ⟨gs,0,none⟩) r.sn sc,.slice (some ⟨gl,0,none⟩) r.ln lc]) (by simp [results,Tryz.results19,go_sem,z0,z1,z2,z3,z4,hzl]) rfl ?_
  refine ⟨((((BWU.out.setCell (Nat.le_succ _) _).setCell (Nat.le_succ _) _).setCell (Nat.le_succ _) _).setCell (Nat.le_succ _) _).setCell (Nat.le_succ _) _,fun q=>absurd rfl q,fun _=>?_⟩
  rw [HSL.out.1,HSL.out.2]
  have hlow:w.heap.size≤w1.heap.size:=by omega
  refine ⟨_,sc,_,lc,rfl,qA3 (qC4 P1.out hlow) (fun g e=>?_),qA3 (qB0 P2.out hlow) (fun g e=>?_)⟩
  ·obtain ⟨cur,hcc,hgg⟩:=qD3 P1.out e
   have:=HVL.out
   rw [Below.heap_setCell _ _ _ _ (by show g≠w.heap.size+1;omega),Below.heap_setCell _ _ _ _ (by show g≠w.heap.size+1;omega),Below.heap_setCell _ _ _ _ (by show g≠w.heap.size+1;omega),Below.heap_setCell _ _ _ _ (by show g≠w.heap.size+1;omega),Below.heap_setCell _ _ _ _ (by show g≠w.heap.size+1;omega)]
  ·obtain ⟨cur,hcc,hgg⟩:=qD1 P2.out e
   have:=HVL.out
   rw [Below.heap_setCell _ _ _ _ (by show g≠w.heap.size+1;omega),Below.heap_setCell _ _ _ _ (by show g≠w.heap.size+1;omega),Below.heap_setCell _ _ _ _ (by show g≠w.heap.size+1;omega),Below.heap_setCell _ _ _ _ (by show g≠w.heap.size+1;omega),Below.heap_setCell _ _ _ _ (by show g≠w.heap.size+1;omega)]
 ·have hkb:(k != 0)=true:=by simp [hk]
  have z0:=Z1.out.rs.1 0 _ rfl
  have z1:=Z1.out.rs.1 1 _ rfl
  have z2:=Z1.out.rs.1 2 _ rfl
  have z3:=Z1.out.rs.1 3 _ rfl
  have z4:=Z1.out.rs.1 4 _ rfl
  have f0:=Z1.out.rs.2 0
  have f1:=Z1.out.rs.2 1
  have f2:=Z1.out.rs.2 2
  have f3:=Z1.out.rs.2 3
  have f4:=Z1.out.rs.2 4
  have hzl:=Z1.out.lt
  go_wp2_with fail
  refine bodyPost_ret (v:=.agg #[.int .i64 k,.int .i64 0,.int .i64 0,.slice none 0 0,.slice none 0 0]) (by simp [results,Tryz.results19,go_sem,z0,z1,z2,z3,z4,hzl]) rfl ?_
  exact ⟨((((Z1.out.bl.setCell (Nat.le_succ _) _).setCell (Nat.le_succ _) _).setCell (Nat.le_succ _) _).setCell (Nat.le_succ _) _).setCell (Nat.le_succ _) _,fun _=>rfl,fun q=>absurd q hk⟩

section
open Go.RowKit Go.ChangeShapes Go.WideShapes
def LkArg (w:World) (a:Option Addr) (len:Nat) (zs:List LkI):Prop:=qJ6 w a len zs∧len≤maxLen
theorem cells64Lk:Tryz.prog.cellsOf 2=1:=by kernel_rfl
theorem Tryz.cells100:Tryz.prog.cellsOf 100=4:=by kernel_rfl
theorem listLk {α:Type} {l:List α} (h:l.length=4):∃ c0 c1 c2 c3,l=[c0,c1,c2,c3]:=by
 match l,h with
 | [c0,c1,c2,c3],_=>exact ⟨c0,c1,c2,c3,rfl⟩
theorem lock_list {H:Type} {enc:TypeId × Value→H} {w:World} {base:Nat} {spare:Nat→Bool} {held:Bool} {fuel:Nat} {cs:List Value} {x:DataW H × List MemPlace} (h:DataW.trod enc Tryz.prog w base spare held fuel 100 cs=some x) :
  ∃ r:LkI,cs=[.int .i64 r.e,.int .i64 r.c,.int .i64 r.p,.int .i64 r.f]:=by
 obtain ⟨xs,n,_,_,hl,hlen,hf⟩:=DataW.trod_struct Tryz.underlying100 h
 rw [Tryz.cells100] at hl
 obtain ⟨c0,c1,c2,c3,rfl⟩:=listLk hl
 obtain ⟨y0,y1,y2,y3,rfl⟩:=listLk hlen
 have h0:=hf 0 _ rfl
 have h1:=hf 1 _ rfl
 have h2:=hf 2 _ rfl
 have h3:=hf 3 _ rfl
 simp [cells64Lk] at h0 h1 h2 h3
 obtain ⟨b0,e0,_,_⟩:=DataW.trod_int Tryz.underlying2 h0
 obtain ⟨b1,e1,_,_⟩:=DataW.trod_int Tryz.underlying2 h1
 obtain ⟨b2,e2,_,_⟩:=DataW.trod_int Tryz.underlying2 h2
 obtain ⟨b3,e3,_,_⟩:=DataW.trod_int Tryz.underlying2 h3
 simp at e0 e1 e2 e3
 subst e0 e1 e2 e3
 exact ⟨⟨b0,b1,b2,b3⟩,rfl⟩
theorem cellsLk {w:World} {base:Nat} {a:Addr} {r:LkI} (h:w.cells? base a 4=some [.int .i64 r.e,.int .i64 r.c,.int .i64 r.p,.int .i64 r.f]):a.spot=none∧QC1 w a.block a.off r:=by
 have e:List.range 4=[0,1,2,3]:=rfl
 unfold World.cells? at h
 split at h
 ·rw [e] at h
  simp only [List.mapM_cons,List.mapM_nil,Option.bind_eq_bind,Option.bind_eq_some_iff,Option.pure_def,Option.some.injEq,List.cons.injEq] at h
  obtain ⟨x0,h0,y0,⟨x1,h1,y1,⟨x2,h2,y2,⟨x3,h3,y3,rfl,e3⟩,e2⟩,e1⟩,e0,ee⟩:=h
  subst e0
  rw [← e1] at ee
  simp only [List.cons.injEq] at ee
  obtain ⟨rfl,ee⟩:=ee
  rw [← e2] at ee
  simp only [List.cons.injEq] at ee
  obtain ⟨rfl,ee⟩:=ee
  rw [← e3] at ee
  simp only [List.cons.injEq] at ee
  obtain ⟨rfl,_⟩:=ee
  obtain ⟨b,off,spot⟩:=a
  have hspot:spot=none:=by simpa [Addr.add] using World.cell?_spot h0
  subst hspot
  simp only [Addr.add] at h0 h1 h2 h3
  exact ⟨rfl,by simpa using h0,by simpa using h1,by simpa using h2,by simpa using h3⟩
 ·cases h
theorem locks_shape {H:Type} {enc:TypeId × Value→H} {w:World} {base:Nat} {spare:Nat→Bool} {held:Bool} {fuel:Nat} {a0:Option Addr} {len cap:Nat} {x:DataW H × List MemPlace} (h:DataW.trod enc Tryz.prog w base spare held fuel 23 [.slice a0 len cap]=some x) :
  ∃ zs:List LkI,LkArg w a0 len zs:=by
 rcases Go.Deep.open_slice Tryz.underlying23 h with ⟨hcs,_⟩ | ⟨a,l,c,m,n,D,Pl,hcs,hb,hl,hm,hmm,_,hel⟩
 ·simp at hcs
  obtain ⟨rfl,rfl,rfl⟩:=hcs
  exact ⟨[],⟨rfl,fun h=>by omega⟩,Nat.zero_le _⟩
 ·simp at hcs
  obtain ⟨rfl,rfl,rfl⟩:=hcs
  have hle:len≤m:=by rw [hmm];split <;> omega
  rw [Tryz.cells100] at hel
  have hk:∀ i,i < len→∃ r:LkI,w.cells? base (a.add (i * 4)) 4=some [.int .i64 r.e,.int .i64 r.c,.int .i64 r.p,.int .i64 r.f]:=fun i hi=>by
   obtain ⟨cs',hc,ht⟩:=hel i (by omega)
   obtain ⟨r,rfl⟩:=lock_list ht
   exact ⟨r,hc⟩
  obtain ⟨f,hf⟩:=Go.Deep.choose_lt hk
  refine ⟨(List.range len).map f,⟨by simp,fun hp=>?_⟩,Nat.le_trans hl hm⟩
  obtain ⟨hsp,_⟩:=cellsLk (hf 0 hp)
  obtain ⟨b,off,spot⟩:=a
  simp [Addr.add] at hsp
  subst hsp
  refine ⟨b,off,rfl,fun k r e=>?_⟩
  have hkl:k < len:=by
   by_cases q:k < len
   ·exact q
   ·rw [List.getElem?_eq_none (by simp;omega)] at e;cases e
  rw [List.getElem?_map,List.getElem?_range hkl] at e
  simp at e
  subst e
  obtain ⟨_,hr⟩:=cellsLk (hf k hkl)
  have : ((⟨b,off,none⟩:Addr).add (k * 4))=⟨b,off+k * 4,none⟩:=Go.WideShapes.add_plain ..
  rw [this] at hr
  exact hr
end

end Go.Proofs.YtlhgjackapdmbaaGreatDoor
