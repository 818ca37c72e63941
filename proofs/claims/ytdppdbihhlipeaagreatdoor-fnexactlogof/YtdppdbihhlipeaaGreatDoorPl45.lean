/- Contracts. -/
import Derived.Test.YtdppdbihhlipeaaGreatDoorPl43
import Derived.Test.YtdppdbihhlipeaaGreatDoorPl44
namespace Go.Proofs.YtdppdbihhlipeaaGreatDoor
set_option maxRecDepth 100000
set_option maxHeartbeats 8000000
open Go.RowKit
set_option linter.unusedVariables false
set_option linter.unusedSimpArgs false

theorem qP5.env {cs ds:List qA1} {E:qH4} (h:qP5 cs ds) (hE:qN9 E cs) (hl:qF1 1048576 ds):qN9 E ds:=by
 refine ⟨?_,fun p d hd=>?_⟩
 ·rw [hE.es]
  refine List.ext_getElem? (fun j=>?_)
  rw [List.getElem?_map,List.getElem?_map]
  cases e:ds[j]? with
  | none =>
   have : ds.length≤j:=by simpa using e
   rw [List.getElem?_eq_none (by rw [← h.ln];exact this)]
  | some d =>
   obtain ⟨c,hc,hs⟩:=h.get e
   rw [hc]
   simp [hs.e]
 ·obtain ⟨c,hc,hs⟩:=h.get hd
  obtain ⟨⟨_,_,_,h4⟩,gs,g1,g2,g3⟩:=hE.cf p c hc
  exact ⟨⟨hl.le p d hd,(hl.rc p d hd).1,(hl.rc p d hd).2,(code_same hs).trans h4⟩,gs,by rw [hs.zs];exact g1,fun f s=>by rw [hs.ps];exact g2 f s,by rw [hs.cs];exact g3⟩
theorem QZ3 {E:qH4} {cs ds:List qA1} {w:World} {L:Nat} {r y:qG5} (h:qP5 cs ds) (hy:qF6 w L r y):qK9 E ds y=qK9 E cs r:=by
 unfold qK9 qH7 f0C
 rw [h.cfs,h.f0,hy.i,hy.u,hy.sn,hy.ss,hy.ls]
theorem eqCopies {L L':Nat} {r y z:qG5} (w:World) (hy:qF6 w L r y) (hz:qF6 w L' r z) (hl:r.ss.length=r.sn∧r.ls.length=r.ln) (hle:qK5 1048576 r) :
  Calls Tryz.prog 12 #[.agg #[.int .i64 y.i,.int .i64 y.u,.slice y.sa y.sn y.sc,.slice y.la y.ln y.lc],.agg #[.int .i64 z.i,.int .i64 z.u,.slice z.sa z.sn z.sc,.slice z.la z.ln z.lc]] w fun e w'=>e = .returned (.bool true)∧Below w.heap.size w w':=by
 have i1:=hy.isIn hl.1 hl.2
 have i2:=hz.isIn hl.1 hl.2
 have a1:=i1.said
 have a2:=i2.said
 have b1:=i1.locks
 have b2:=i2.locks
 rw [hy.sn,hy.ss] at a1
 rw [hz.sn,hz.ss] at a2
 rw [hy.ln,hy.ls] at b1
 rw [hz.ln,hz.ls] at b2
 rw [hy.i,hz.i,hy.u,hz.u,hy.sn,hz.sn,hy.ln,hz.ln]
 exact QP9 r.i r.u y.sa z.sa r.sn y.sc z.sc r.ss y.la z.la r.ln y.lc z.lc r.ls w hle.said hle.locks a1 a2 b1 b2

theorem newAt {w:World} {L:Nat} {r y:qG5} (h:qF6 w L r y):∀ p,y.la=some p→∃ b0 o0,p=⟨b0,o0,none⟩∧b0 < w.heap.size:=fun p q=>by
 obtain ⟨g,e,_,hg,_⟩:=h.la
 rw [e] at q
 cases q
 exact ⟨g,0,rfl,hg⟩

theorem markCopy_c (lo hi Lb:Nat) (r y:qG5) (w:World) (hle:qK5 1048576 r) (h:qF6 w Lb r y) (hlo:lo≤Lb) (hhi:∀ g,y.la=some ⟨g,0,none⟩→g < hi) (hLh:Lb < hi) :
  Calls Tryz.prog 14 #[.agg #[.int .i64 y.i,.int .i64 y.u,.slice y.sa y.sn y.sc,.slice y.la y.ln y.lc],.int .i64 1] w fun e w'=>e = .returned (.int .i64 (1+5 * (r.sn:Int)+4 * (r.ln:Int)))∧Chg lo hi w w':=by
 obtain ⟨yi,yu,ysa,ysn,ysc,yss,yla,yln,ylc,yls⟩:=y
 have hsa:=h.sa
 obtain ⟨g,hg,hg1,hg2,_,hlr⟩:=h.la
 have e1:=h.sn
 have e2:=h.ln
 simp only at hsa hg e1 e2
 subst hsa hg e1 e2
 have hgh:=hhi g rfl
 have hlt:=h.slt
 have hsr:=h.sl.2
 have hn:r.sn≤1048576:=hle.said
 have hm:r.ln≤1048576:=hle.locks
 obtain ⟨V,hV⟩:∃ V,V=w.alloc (.cells #[.int .i64 yi,.int .i64 yu,.slice (some ⟨Lb,0,none⟩) r.sn ysc,.slice (some ⟨g,0,none⟩) r.ln ylc] 36):=⟨_,rfl⟩
 have BV:Below w.heap.size w V:=by rw [hV];exact zN
 have HX:Hid (qE3 w.heap.size [.int .i64 yi,.int .i64 yu,.slice (some ⟨Lb,0,none⟩) r.sn ysc,.slice (some ⟨g,0,none⟩) r.ln ylc] V):=by rw [hV];exact (qD6 w _ _).out
 have hVl:w.heap.size < V.heap.size:=by rw [hV];simp
 have HBV:=qD4 BV
 have HSR:Hid (qJ2 V Lb r.sn):=hsr.below hlt BV
 have HLR:Hid (qI6 V g r.ln):=hlr.below hg2 BV
 have hgV:g < V.heap.size:=by omega
 have x2:=HX.out 2 _ rfl
 have x3:=HX.out 3 _ rfl
 have hn':(r.sn:Int)≤1048576:=by omega
 have hm':(r.ln:Int)≤1048576:=by omega
 clear h hhi hsr hlr BV
 go_enter Tryz.func14,Tryz.ntmps14
 go_upto_region 1 with fail
 rw [← hV]
 clear hV
 go_wp2_with fail
 refine (QB0 Lb r.sn ysc 1 V hn (by omega) (by omega) HSR.out).mono ?_
 rintro e w1 ⟨rfl,hg1'⟩
 have C1:Chg lo hi V w1:=Chg.grown hg1' (fun q e=>by cases e;omega)
 have HLR2:Hid (qI6 w1 g r.ln):=HLR.out.grown hgV hg1' (by simp;omega)
 have q3:w1.cell? ⟨w.heap.size,3,none⟩=some (.slice (some ⟨g,0,none⟩) r.ln ylc):=(World.cell?_of_block (a:=⟨w.heap.size,3,none⟩) (hg1'.block w.heap.size hVl (by simp;omega))).trans x3
 have hl1:w.heap.size < w1.heap.size:=by have:=hg1'.size;omega
 have HC1:=qD4 C1
 clear C1 hg1' x2 x3
 go_wp2_with fail
 refine (QL9 g r.ln ylc (1+5 * (r.sn:Int)) w1 hm (by omega) (by omega) HLR2.out).mono ?_
 rintro e w2 ⟨rfl,hg2'⟩
 have HC2:Hid (Chg lo hi w w2):=((Chg.calls HBV.out).trans HC1.out).trans (Chg.grown hg2' (fun q e=>by cases e;omega))
 clear hg2' q3
 go_wp2_with fail
 go_ret
 exact ⟨rfl,HC2.out⟩

def EnvS (E:qH4) (cs:List qA1):Prop:=∀ ds,qP5 cs ds→qF1 1048576 ds→qB9 ds=0→qN9 E ds
theorem envS_of {lo hi n:Nat} {cs:List qA1} {X:World} (h:CpB lo hi n cs X):∃ E,EnvS E cs:=by
 obtain ⟨ds1,_,hs,hl,_,_⟩:=h
 obtain ⟨E,hE⟩:=env_of hl
 refine ⟨E,fun ds h2 hl2 hz=>?_⟩
 exact qP5.env (cs:=ds1) ⟨by rw [hs.ln,h2.ln],QR1 hs h2⟩ (hE (by rw [hs.cfs,← h2.cfs];exact hz)) hl2
theorem qF6.le {W:World} {Lb:Nat} {r y:qG5} (h:qF6 W Lb r y) (hle:qK5 1048576 r):qK5 1048576 y:=⟨by rw [h.sn];exact hle.said,by rw [h.ln];exact hle.locks⟩

end Go.Proofs.YtdppdbihhlipeaaGreatDoor
