/- Contracts. -/
import Derived.Test.YtdppdbihhlipeaaGreatDoorPr36
import Derived.Test.YtdppdbihhlipeaaGreatDoorPr10
import Derived.Lib.SlMapEqual
import Derived.Laws.IdiomRangeMap
import Derived.Test.YtdppdbihhlipeaaGreatDoorPr29
import Derived.Test.YtdppdbihhlipeaaGreatDoorPr33
namespace Go.Proofs.YtdppdbihhlipeaaGreatDoor
set_option maxRecDepth 100000
set_option maxHeartbeats 8000000
open Go.RowKit
set_option linter.unusedVariables false
set_option linter.unusedSimpArgs false

section
open Go.RowKit Go.Maps
theorem qIx (a:Option Addr) (n cap:Nat) (zs:List qA2) (gs:List GrI) (w:World) (h:qB8 w a n zs) (hc:qD1 zs=0) (hg:QJ9 zs gs) :
  Calls Tryz.prog 154 #[.slice a n cap] w fun e w'=>∃ g l cap',e = .returned (.slice (some ⟨g,0,none⟩) l cap')/\QC1 w' (some ⟨g,0,none⟩) l gs/\l<=40/\Below w.heap.size w w':=by
 refine (qKp a n cap zs w h (by have:=qGO h.1 hc;omega) (qGM hc).2).mono ?_;rintro e w' ⟨g,l,cap',gs',rfl,h1,h2,h3,h4,hb⟩;obtain rfl:=QP7 h2 hg;exact ⟨g,l,cap',rfl,h4.read h1,by have:=QS1 hg.sg;omega,hb⟩
end

def qNI (k n:Nat):List Int:=(List.range n).map (fun i=>((k+i:Nat):Int))
theorem qEh {w:World} {b:Nat} {t:TypeId} {a:Option Addr} {n cap:Nat} {xs:List Value} (h:w.ownsRow b t 1 (.slice a n cap) n xs) :
  xs.length=n/\(n=0\/∃ g,a=some ⟨g,0,none⟩):=by
 refine ⟨by simpa using h.1,?_⟩;rcases h.2 with ⟨h',h0⟩ | ⟨g,cap',cur,h',_⟩
 ·exact .inl h0
 ·simp at h';exact .inr ⟨g,h'.1⟩
theorem qBh {w:World} {b:Nat} {a:Option Addr} {n cap:Nat} {zs:List Int} (h:w.ownsRow b 2 1 (.slice a n cap) n (zs.map (Value.int .i64))):QZ1 w a n zs:=by
 obtain ⟨hl,hc⟩:=qEh h;simp at hl;refine ⟨by omega,fun k hk=>?_⟩;rcases hc with h0 | ⟨g,rfl⟩
 ·omega
 ·refine ⟨g,0,rfl,?_⟩;rw [Nat.zero_add,h.cellAt k (by omega)];simp [List.getElem?_eq_getElem (show k < zs.length by omega)]

theorem Tryz.info4:(Tryz.prog.info? 4).map (fun i=>(i.zero,i.size,i.bytes))=some (some (.bool false),1,1):=by kernel_rfl
theorem Tryz.info195:(Tryz.prog.info? 195).map (fun i=>(i.zero,i.size,i.bytes))=some (some (.slice none 0 0),1,24):=by kernel_rfl
def qX9 (w:World) (g:Nat) (T:TS):Prop:=∀ x,x < 256->w.cell? ⟨g,x,none⟩=some (.bool (T x))
theorem qX9.lt {w:World} {g:Nat} {T:TS} (h:qX9 w g T):g < w.heap.size:=zL w ⟨g,0,none⟩ (h 0 (by omega))
theorem qX9.below {w w':World} {g:Nat} {T:TS} (h:qX9 w g T) (hb:Below w.heap.size w w'):qX9 w' g T:=fun x hx=>(hb.cell (p:=⟨g,x,none⟩) h.lt).trans (h x hx)
theorem qX9.kept {w w':World} {g:Nat} {T:TS} {row:Option Nat} (h:qX9 w g T) (hg:w.grownBy w' row) (hne:some g≠row):qX9 w' g T:=fun x hx=>hg.cell (h x hx) hne
theorem qX9.put {w:World} {g:Nat} {T:TS} (h:qX9 w g T) {i:Nat} (hi:i < 256):qX9 (w.setCell ⟨g,i,none⟩ (.bool true)) g (QI7 T i):=fun x hx=>by
 unfold QI7;by_cases e:x=i
 ·subst e;rw [if_pos rfl];simp [go_sem,h x hx]
 ·rw [if_neg e,World.cell?_setCell_other (h:=fun q=>e (by have:=congrArg Addr.off q;simp at this;omega))];exact h x hx
theorem qX9.ext {w:World} {g:Nat} {T U:TS} (h:qX9 w g T) (e:∀ x,x < 256->T x=U x):qX9 w g U:=fun x hx=>by rw [<- e x hx];exact h x hx
def slV (g:Nat):Value:=.slice (some ⟨g,0,none⟩) 256 256
structure L4 (W:World) (ts:List TS) (gsl:List Nat) (v:Value) (wr:World):Prop where
 ow:wr.ownsRow W.heap.size 195 1 v ts.length (gsl.map slV)
 ln:gsl.length=ts.length
 rw:∀ (i g:Nat) (T:TS),gsl[i]? = some g->ts[i]? = some T->qX9 wr g T
 ne:∀ g∈gsl,v.ownBlock≠some g
 bl:Below W.heap.size W wr
 vn:v ≠ .slice none 0 0
theorem L4.below {W:World} {ts:List TS} {gsl:List Nat} {v:Value} {wr wr':World} (h:L4 W ts gsl v wr) (hb:Below wr.heap.size wr wr'):L4 W ts gsl v wr':=by
 refine ⟨?_,h.ln,fun i g T e1 e2=>(h.rw i g T e1 e2).below hb,h.ne,h.bl.trans (hb.mono h.bl.size),h.vn⟩;exact h.ow.kept (row:=none) ⟨hb.os,hb.tape,hb.output,hb.size,fun k hk _=>hb.block k hk⟩ (by rcases h.ow.2 with ⟨e,_⟩ | ⟨g,cap,cur,e,_⟩;exact .inl (by rw [e];rfl);exact .inr (by rw [e];simp [Value.ownBlock]))
theorem L4.shape {W:World} {ts:List TS} {gsl:List Nat} {v:Value} {wr:World} (h:L4 W ts gsl v wr):∃ b cap,v = .slice (some ⟨b,0,none⟩) ts.length cap:=by
 rcases h.ow.2 with ⟨e,_⟩ | ⟨g,cap,cur,e,_⟩
 ·exact absurd e h.vn
 ·exact ⟨g,cap,e⟩
theorem L4.at {W:World} {ts:List TS} {gsl:List Nat} {b n cap:Nat} {wr:World} (h:L4 W ts gsl (.slice (some ⟨b,0,none⟩) n cap) wr) {i:Nat} {T:TS} (e:ts[i]? = some T):∃ g,wr.cell? ⟨b,i,none⟩=some (.slice (some ⟨g,0,none⟩) 256 256)/\qX9 wr g T/\gsl[i]? = some g:=by
 have hi:i < ts.length:=by
  by_cases q:i < ts.length
  ·exact q
  ·rw [List.getElem?_eq_none (by omega)] at e;cases e
 have hg:gsl[i]? = some (gsl[i]'(by rw [h.ln];exact hi)):=List.getElem?_eq_getElem _;refine ⟨_,?_,h.rw i _ T hg e,hg⟩
 obtain rfl:n=ts.length:=by
  rcases h.ow.2 with ⟨e',_⟩ | ⟨g,cap',cur,e',_⟩
  ·exact absurd e' h.vn
  ·simp at e';exact e'.2.1
 rw [h.ow.cellAt i (by omega),List.getElem?_map,hg];rfl
theorem L4.next {W:World} {ts:List TS} {gsl:List Nat} {v v':Value} {wr w':World} {o:Obj} {h:Nat} {T:TS} (H:L4 W ts gsl v wr) (hT:qX9 wr h T) (hv:v.ownBlock≠some h) (hown':w'.ownsRow W.heap.size 195 1 v' (ts.length+1) (gsl.map slV++[slV h])) (hgrow:(wr.alloc o).grownBy w' v.ownBlock) (hn:v' ≠ .slice none 0 0) :
  L4 W (ts++[T]) (gsl++[h]) v' w':=by
 have A1:Below wr.heap.size wr (wr.alloc o):=zN
 have rows:∀ (i g:Nat) (U:TS),(gsl++[h])[i]? = some g->(ts++[T])[i]? = some U->qX9 w' g U:=by
  intro i g U e1 e2;by_cases hi:i < gsl.length
  ·rw [List.getElem?_append_left hi] at e1;rw [List.getElem?_append_left (by rw [<- H.ln];exact hi)] at e2;exact ((H.rw i g U e1 e2).below A1).kept hgrow (fun e=>H.ne g (List.mem_of_getElem? e1) e.symm)
  ·have hil:i=gsl.length:=by
    by_cases q:i < (gsl++[h]).length
    ·simp at q;omega
    ·rw [List.getElem?_eq_none (by omega)] at e1;cases e1
   subst hil;rw [List.getElem?_append_right (Nat.le_refl _),Nat.sub_self] at e1;rw [H.ln,List.getElem?_append_right (Nat.le_refl _),Nat.sub_self] at e2;simp at e1 e2;subst e1 e2;exact (hT.below A1).kept hgrow (fun e=>hv e.symm)
 refine ⟨by simpa using hown',by simp [H.ln],rows,fun g hg e=>?_,(H.bl.alloc H.bl.size o).grown hgrow (by have:=H.bl.size;simp;omega) (fun j hj=>(H.ow.lt j hj).1),hn⟩;obtain ⟨i,hi⟩:=List.mem_iff_getElem?.1 hg
 have hil:i < (gsl++[h]).length:=by
  by_cases q:i < (gsl++[h]).length
  ·exact q
  ·rw [List.getElem?_eq_none (by omega)] at hi;cases hi
 obtain ⟨u,hu⟩:∃ u,(ts++[T])[i]? = some u:=⟨_,List.getElem?_eq_getElem (by simp at hil ⊢;have:=H.ln;omega)⟩;have hr:=rows i g u hi hu 0 (by omega);clear rows hu hi;rcases hown'.2 with ⟨e0,_⟩ | ⟨b,cap,cur,e0,_⟩
 ·exact hn e0
 ·rw [e0] at e hown';simp [Value.ownBlock] at e;subst e;have hc:=hown'.cellAt 0 (by omega);rw [hr] at hc;cases hgl:gsl with
  | nil=>rw [hgl] at hc;simp [slV] at hc
  | cons x xs=>rw [hgl] at hc;simp [slV] at hc
theorem qIj (w:World):∃ wm,(Instr.makeSlice 195 (.int .i64 256) (.int .i64 256)).run Tryz.prog w = .ok (.slice (some ⟨w.heap.size,0,none⟩) 256 256) wm/\qX9 wm w.heap.size noT/\(∀ j,wm.frozen? ⟨w.heap.size,j,none⟩=false)/\w.heap.size < wm.heap.size/\Below w.heap.size w wm:=by
 obtain ⟨i0,hi,hz0,hz1,hz2⟩:=info_parts Tryz.info4;obtain ⟨wm,hmk,hownm,hgrm⟩:=run_make_full (P:=Tryz.prog) (w:=w) w.heap.size 195 4 i0 (.bool false) 1 Tryz.underlying195 hi hz0 hz1 .i64 .i64 256 (by rw [hz2];omega) (by unfold maxLen;omega) (Nat.le_refl _);refine ⟨wm,hmk,fun x hx=>?_,fun j=>hownm.frozenAt j,(hownm.lt _ rfl).2,(Below.refl _ _).grown hgrm (Nat.le_refl _) (fun k e=>by cases e)⟩;rw [hownm.cellAt x (by omega)];simp [madeCells,Value.cells,noT];exact ⟨x,by simp [hx],by simp [Nat.mod_one]⟩
theorem qIf (s:Int):(qB3 s 8).foldl (fun T p=>QI7 T (2 ^ (p - 1).toNat)) noT=qGZ s:=by
 funext x
 rw [Bool.eq_iff_iff];unfold qGZ;rw [qDP,List.any_eq_true];constructor
 ·rintro (q | ⟨p,hp,e⟩)
  ·cases q
  ·obtain ⟨h0,h1,h2⟩:=qK2.1 hp;refine ⟨(p - 1).toNat,List.mem_range.2 (by omega),?_⟩;rw [Bool.and_eq_true];refine ⟨by simp [e],?_⟩;rw [show (((p - 1).toNat:Nat):Int)+1=p by omega];exact h2
 ·rintro ⟨p,hp,e⟩;rw [Bool.and_eq_true] at e;have hp:=List.mem_range.1 hp;exact .inr ⟨(p:Int)+1,qK2.2 ⟨by omega,by omega,e.2⟩,by simpa using e.1⟩
theorem qIu (a:Option Addr) (n cap:Nat) (zs:List qA2) (a':Option Addr) (m cap':Nat) (ps:List qD4) (gs:List GrI) (w:World) (h:qB8 w a n zs) (hc:qD1 zs=0) (hg:QJ9 zs gs) (hp:qC7 w a' m ps) (hpc:qN2 ps=0) :
  Calls Tryz.prog 126 #[.slice a n cap,.slice a' m cap'] w fun e w'=>∃ g,e = .returned (.slice (some ⟨g,0,none⟩) 256 256)/\qX9 w' g (qR7 (ofG gs) ps)/\Below w.heap.size w w':=by
 have hm8:m<=8:=by have:=(QS7 hpc).2.1;have:=hp.1;omega
 have hm1:1<=m:=by have:=(QS7 hpc).1;have:=hp.1;omega
 have HP:Hid (qC7 w a' m ps):=hp;have HPA:Hid (∀ k x,ps[k]? = some x->qJ1 k x=0):=(QS7 hpc).2.2;have HST:Hid (∀ q,qK9 (ofG gs q)):=fun q=>qY5 hg.sg q
 have HA:Hid (Calls Tryz.prog 154 #[.slice a n cap] w fun e w'=>∃ g l cap',e = .returned (.slice (some ⟨g,0,none⟩) l cap')/\QC1 w' (some ⟨g,0,none⟩) l gs/\l<=40/\Below w.heap.size w w'):=qIx a n cap zs gs w h hc hg;obtain ⟨i0,hi,hz0,hz1,hz2⟩:=info_parts Tryz.info195;clear h hp hc hg hpc;go_enter Tryz.func126,Tryz.ntmps126;go_wp2_with fail
 refine (HA.out).mono ?_;rintro e W ⟨gg,lg,cg,rfl,hgr,hlg,hbW⟩;have HGr:Hid (QC1 W (some ⟨gg,0,none⟩) lg gs):=hgr;have HPW:Hid (qC7 W a' m ps):=HP.out.below hbW;have HL0:Hid (L4 W [] [] (.slice (some ⟨W.heap.size,0,none⟩) 0 0) (W.alloc (.cells #[] 195))):=⟨World.ownsRow_lit W #[] 0 (Nat.le_refl _) (Nat.zero_le _) rfl,rfl,fun i g T e=>by simp at e,fun g hg=>by simp at hg,zN,by simp⟩;clear hgr HA HP;go_wp2_with fail
 have hmm:(m:Int)<=8:=by omega
 go_loopw [6,7] (fun v i wr=>∃ (k:Nat) (gsl:List Nat),k<=m/\i = .int .i64 (k:Int)/\Hid (L4 W (qC2 (ofG gs) ps k) gsl v wr)) (fun _ i _=>m - (intOf i).toNat)
 case atStart=>exact ⟨0,[],Nat.zero_le _,rfl,HL0⟩
 case round =>
  obtain ⟨k,gsl,hk,rfl,HT⟩:=hrel;have hkl:(qC2 (ofG gs) ps k).length=k:=qR6 _ ps k (by have:=HPW.out.1;omega);obtain ⟨vb,vc,hve⟩:=HT.out.shape;rw [hkl] at hve;subst hve;by_cases hlt:k < m
  ·obtain ⟨pg,off,x,ea,hx,hpa⟩:=HPW.out.at hlt
   subst ea;have HX:Hid (ps[k]? = some x):=hx;have h0:qJ1 k x=0:=HPA.out k x hx;obtain ⟨g0,g1,g2,g3,g4⟩:=hpa.below HT.out.bl;clear hx hpa;have hlt':(k:Int) < (m:Int):=by omega
   obtain ⟨X,hX⟩:∃ X,X=wr.alloc (.cells #[.int .i64 x.k,.int .i64 x.ro,.int .i64 x.rn,.int .i64 x.l,.int .i64 x.r] 162):=⟨_,rfl⟩;have AX:Below wr.heap.size wr X:=by rw [hX];exact zN
   have hXs:X.heap.size=wr.heap.size+1:=by rw [hX];simp
   have hpx:qV8 X wr.heap.size 0 x:=by rw [hX];simp [qV8]
   obtain ⟨Y,hmk,hY,hfY,hsY,hbY⟩:=qIj X;have HPX:Hid (qV8 Y wr.heap.size 0 x):=hpx.below hbY;have HPX0:Hid (qV8 X wr.heap.size 0 x):=hpx;clear hpx;have HTX:Hid (L4 W (qC2 (ofG gs) ps k) gsl (.slice (some ⟨vb,0,none⟩) k vc) X):=HT.out.below AX;have HRY:Hid (qX9 Y X.heap.size noT/\∀ j,Y.frozen? ⟨X.heap.size,j,none⟩=false):=⟨hY,hfY⟩;have hvX:vb < X.heap.size:=(HTX.out.ow.lt vb rfl).2;clear hY hfY AX;have HE:Hid (qC2 (ofG gs) ps (k+1)=qC2 (ofG gs) ps k++[qP4 (ofG gs) (qC2 (ofG gs) ps k) x]):=by rw [qS5 HX.out];trivial
   rw [hX] at hmk;go_upto_region 8 with fail
   clear hmk hX g0 g1 g2 g3 g4;have HTY:Hid (L4 W (qC2 (ofG gs) ps k) gsl (.slice (some ⟨vb,0,none⟩) k vc) Y):=HTX.out.below hbY;have HGY:Hid (QC1 Y (some ⟨gg,0,none⟩) lg gs):=HGr.out.below HTY.out.bl;obtain ⟨q,hq0⟩:∃ q,q=wr.heap.size+1:=⟨_,rfl⟩;have hq:q=X.heap.size:=by omega
   obtain ⟨P,hPq⟩:∃ P,P=wr.heap.size:=⟨_,rfl⟩;have hPl:P < q:=by omega
   have hvq:(Value.slice (some ⟨vb,0,none⟩) k vc).ownBlock≠some q:=by simp [Value.ownBlock];omega
   rw [<- hq] at HRY hsY;rw [<- hq0];rw [<- hPq] at HPX HPX0 ⊢
   have hvl:vb < q:=by omega
   have hgl:∀ (i g:Nat),gsl[i]? = some g->g < q:=fun i g e=>by
    obtain ⟨u,hu⟩:∃ u,(qC2 (ofG gs) ps k)[i]? = some u:=⟨_,List.getElem?_eq_getElem (by
     have:=HTX.out.ln;by_cases qq:i < gsl.length
     ·omega
     ·rw [List.getElem?_eq_none (by omega)] at e;cases e)⟩
    have:=(HTX.out.rw i g u e hu).lt;omega
   have HGL:Hid (∀ (i g:Nat),gsl[i]? = some g->g < q):=hgl;have HYX:Hid (Below q X Y):=by rw [hq];exact hbY
   have HXQ:Hid (q=X.heap.size):=hq;clear hgl hPq hbY HT hq hq0 hXs hvX;obtain ⟨p0,p1,p2,p3,p4⟩:=HPX.out;simp only [Nat.zero_add] at p0 p1 p2 p3 p4;by_cases ek:x.k=1
   ·have b1:(x.k==1)=true:=by simp [ek]
    obtain ⟨v,hv⟩:∃ v,v=ofG gs (x.ro,x.rn):=⟨_,rfl⟩;have hvs:qK9 v:=by rw [hv];exact HST.out _
    have HO:Hid (qP4 (ofG gs) (qC2 (ofG gs) ps k) x=qGZ v):=by unfold qP4;rw [if_pos ek,hv];trivial
    clear ek h0;go_wp2_with fail
    refine (QO0 _ _ _ gs (x.ro,x.rn) _ HGY.out (by omega)).mono ?_;rintro e Z1 ⟨rfl,hz1'⟩;rw [<- hv];clear hv;go_wp2_with fail
    refine (QW8 v hvs.1 hvs.2 _).mono ?_;rintro e Z ⟨lg1,lc1,rfl,hown,hz2'⟩;have hbZ:Below Y.heap.size Y Z:=hz1'.trans (hz2'.mono hz1'.size);have HLr:Hid (QZ1 Z (some ⟨lg1,0,none⟩) (qB3 v 8).length (qB3 v 8)):=qBh hown;have hlq:q < lg1:=by have:=(hown.lt lg1 rfl).1;have:=hz1'.size;omega
    have HRZ:Hid (qX9 Z q noT/\∀ j,Z.frozen? ⟨q,j,none⟩=false):=⟨HRY.out.1.below hbZ,fun j=>(hbZ.frozen (p:=⟨q,j,none⟩) HRY.out.1.lt).trans (HRY.out.2 j)⟩;have HBZ:Hid (Below q X Z):=HYX.out.trans (hbZ.mono (by have:=HYX.out.size;omega));obtain ⟨ll,hll⟩:∃ ll,ll=qB3 v 8:=⟨_,rfl⟩;have HLL:Hid (ll=qB3 v 8):=hll;have hll8:ll.length<=8:=by rw [hll];exact qY7 v 8
    rw [<- hll] at HLr ⊢
    clear hown hz1' hz2' hbZ HTY HGY HRY HYX hll p0 p1 p2 p3 p4 HPX;have hll':(ll.length:Int)<=8:=by omega
    go_wp2_with fail
    go_loopw [11] (fun i wj=>∃ (j:Nat) (T:TS),j<=ll.length/\i = .int .i64 (j:Int)/\Hid ((qX9 wj q T/\∀ o,wj.frozen? ⟨q,o,none⟩=false)/\QZ1 wj (some ⟨lg1,0,none⟩) ll.length ll/\Below q X wj/\T=(ll.take j).foldl (fun T p=>QI7 T (2 ^ (p - 1).toNat)) noT)) (fun i _=>ll.length - (intOf i).toNat)
    case atStart=>exact ⟨0,noT,Nat.zero_le _,rfl,HRZ.out,HLr.out,HBZ.out,by simp⟩
    case round =>
     obtain ⟨j,T,hj,rfl,HJ⟩:=hrel;by_cases hjl:j < ll.length
     ·obtain ⟨⟨hrow,hfro⟩,hli,hbj,hT⟩:=HJ.out;obtain ⟨lb,lo,le,lc⟩:=hli.2 j hjl;cases le;simp only [Nat.zero_add] at lc;obtain ⟨y,hy⟩:∃ y,y=ll[j]?.getD 0:=⟨_,rfl⟩;rw [<- hy] at lc;have hyj:ll[j]? = some y:=by rw [hy,List.getElem?_eq_getElem hjl];rfl
      have hym:1<=y/\y<=8:=by
       have:=List.mem_of_getElem? hyj;rw [HLL.out] at this;obtain ⟨u1,u2,_⟩:=qK2.1 this;exact ⟨u1,by omega⟩
      obtain ⟨z,hz⟩:∃ z,z=2 ^ (y - 1).toNat:=⟨_,rfl⟩;have hz256:z < 256:=by rw [hz];exact Nat.pow_lt_pow_right (by omega) (show (y - 1).toNat < 8 by omega)
      have hbz:qFT y=(z:Int):=by rw [hz];rfl
      have cz:wr.cell? ⟨q,z,none⟩=some (.bool (T z)):=hrow z hz256;have fz:=hfro z;have hz':(z:Int) < 256:=by omega
      have hjl':(j:Int) < (ll.length:Int):=by omega
      have HJ2:Hid ((qX9 (wr.setCell ⟨q,z,none⟩ (.bool true)) q (QI7 T z)/\∀ o,(wr.setCell ⟨q,z,none⟩ (.bool true)).frozen? ⟨q,o,none⟩=false)/\QZ1 (wr.setCell ⟨q,z,none⟩ (.bool true)) (some ⟨lg1,0,none⟩) ll.length ll/\Below q X (wr.setCell ⟨q,z,none⟩ (.bool true))/\QI7 T z=(ll.take (j+1)).foldl (fun T p=>QI7 T (2 ^ (p - 1).toNat)) noT):=by
       refine ⟨⟨hrow.put hz256,fun o=>by rw [World.frozen?_setCell];exact hfro o⟩,⟨hli.1,fun i hi'=>?_⟩,hbj.setCell (p:=⟨q,z,none⟩) (Nat.le_refl _) _,?_⟩
       ·obtain ⟨b2,o2,e2,c2⟩:=hli.2 i hi';cases e2;exact ⟨lg1,0,rfl,by rw [World.cell?_setCell_other (h:=fun e=>by have:=congrArg Addr.block e;simp at this;omega)];exact c2⟩
       ·rw [hT,List.take_add_one,hyj];simp [List.foldl_append,hz]
      clear HJ hrow hfro hli hbj hT hy hyj hz;go_wp2_with (first | (go_at_call 156;refine (qHA y hym.1 hym.2 _).mono ?_;rintro e wb ⟨rfl,rfl⟩;rw [hbz]) | fail)
      exact ⟨⟨j+1,QI7 T z,by omega,by go_num,HJ2⟩,by simp [intOf];omega⟩
     ·have hje:j=ll.length:=by omega
      subst hje;obtain ⟨V,hV⟩:∃ V,V=wr:=⟨_,rfl⟩;rw [<- hV] at HJ ⊢
      have HLV:Hid (L4 W (qC2 (ofG gs) ps k) gsl (.slice (some ⟨vb,0,none⟩) k vc) V):=HTX.out.below (by rw [<- HXQ.out];exact HJ.out.2.2.1)
      have HRV:Hid (qX9 V q (qGZ v)):=by
       obtain ⟨⟨hrow,_⟩,_,_,hT⟩:=HJ.out;rw [List.take_length,HLL.out,qIf] at hT;rw [<- hT];exact hrow
      clear HJ hV
      go_wp2_with (first
       | (at_builtin;refine wpList_append_own _ rfl _ _ 226 rfl W.heap.size 195 i0 (.slice none 0 0) 1 24 Tryz.underlying226 hi hz0 hz1 hz2 rfl (by decide) _ _ _ rfl (HLV.out.ow.alloc _) ⟨V.heap.size,0,none⟩ 1 1 [slV q] rfl rfl ?c1 ?c2 ?c3 ?c4 ?c5 ?_)
       | fail)
      case c1 =>
       intro j u hj;match j,hj with
       | 0,hj=>simp at hj;subst hj;simp [Addr.add,slV]
      case c2=>intro u hu;simp at hu;subst hu;rfl
      case c3=>rw [hkl];unfold maxLen;omega
      case c4=>rw [hkl];omega
      case c5=>have:=HLV.out.bl.size;simp;omega
      intro v' w9 hown' hgrow hnil;have hnn':v' ≠ .slice none 0 0:=hnil;have HN:Hid (L4 W (qC2 (ofG gs) ps (k+1)) (gsl++[q]) v' w9):=by rw [HE.out,HO.out];exact HLV.out.next HRV.out hvq (by rw [hkl];exact hown') hgrow hnn'
      clear hnil hown' hgrow hnn';go_wp2_with fail
      exact ⟨⟨k+1,gsl++[q],by omega,by go_num,HN⟩,by simp [intOf];omega⟩
   ·have b1:(x.k==1)=false:=by simp [ek]
    obtain ⟨l,r,hl,hr,hxl,hxr,hk23⟩:∃ l r:Nat,l < k/\r < k/\x.l=(l:Int)/\x.r=(r:Int)/\(x.k=2\/x.k=3):=by
     unfold qJ1 at h0;by_cases qk:1<=x.k/\x.k<=3
     ·rw [if_neg (by omega),if_neg ek] at h0;split at h0
      ·cases h0
      ·split at h0
       ·cases h0
       ·rename_i q1;split at h0
        ·cases h0
        ·rename_i q2;exact ⟨x.l.toNat,x.r.toNat,by omega,by omega,by omega,by omega,by omega⟩
     ·rw [if_pos qk] at h0;cases h0
    obtain ⟨L,hL⟩:∃ L,(qC2 (ofG gs) ps k)[l]? = some L:=⟨_,List.getElem?_eq_getElem (by omega)⟩;obtain ⟨R,hR⟩:∃ R,(qC2 (ofG gs) ps k)[r]? = some R:=⟨_,List.getElem?_eq_getElem (by omega)⟩;obtain ⟨ap,hap⟩:∃ ap,decide (x.k=3)=ap:=⟨_,rfl⟩
    have HO:Hid (qP4 (ofG gs) (qC2 (ofG gs) ps k) x=QR6 ap L R):=by
     unfold qP4;rw [if_neg ek,hxl,hxr,Int.toNat_natCast,Int.toNat_natCast,hL,hR,hap];trivial
    have hk2:(x.k==2) = !ap:=by
     rw [<- hap];rcases hk23 with e | e <;> simp [e]
    obtain ⟨gl,cl,hrl,hgl1⟩:=HTX.out.at hL
    obtain ⟨gr',cr,hrr,hgr1⟩:=HTX.out.at hR
    have HK:Hid (∀ X':World,Below q X X'->(X'.cell? ⟨P,0,none⟩=some (.int .i64 x.k)/\X'.cell? ⟨P,3,none⟩=some (.int .i64 x.l)/\X'.cell? ⟨P,4,none⟩=some (.int .i64 x.r))/\(X'.cell? ⟨vb,l,none⟩=some (.slice (some ⟨gl,0,none⟩) 256 256)/\qX9 X' gl L)/\X'.cell? ⟨vb,r,none⟩=some (.slice (some ⟨gr',0,none⟩) 256 256)/\qX9 X' gr' R):=fun X' hb=>by
     obtain ⟨q0,_,_,q3,q4⟩:=HPX0.out;simp only [Nat.zero_add] at q0 q3 q4;rw [HXQ.out] at hb;have kk:∀ (b o:Nat) (u:Value),X.cell? ⟨b,o,none⟩=some u->X'.cell? ⟨b,o,none⟩=some u:=fun b o u e=>(hb.cell (p:=⟨b,o,none⟩) (zL X ⟨b,o,none⟩ e)).trans e
     exact ⟨⟨kk _ _ _ q0,kk _ _ _ q3,kk _ _ _ q4⟩,⟨kk _ _ _ cl,hrl.below hb⟩,kk _ _ _ cr,hrr.below hb⟩
    have hl':(l:Int) < (k:Int):=by omega
    have hr':(r:Int) < (k:Int):=by omega
    clear ek h0 hL hR hap hk23 cl hrl cr hrr hgl1 hgr1 p0 p1 p2 p3 p4 HPX HPX0 HTY HGY;have HST0:Hid ((qX9 Y q noT/\∀ j,Y.frozen? ⟨q,j,none⟩=false)/\Below q X Y):=⟨HRY.out,HYX.out⟩;obtain ⟨y0,y3,y4⟩:=(HK.out Y HYX.out).1;clear HRY HYX;go_wp2_with fail
    clear y0 y3 y4;go_loopw [12] (fun i wj=>∃ (c:Nat) (T:TS),c<=256/\i = .int .i64 (c:Int)/\Hid (((qX9 wj q T/\∀ j,wj.frozen? ⟨q,j,none⟩=false)/\Below q X wj)/\QZ5 ap L R c 0 T)) (fun i _=>256 - (intOf i).toNat)
    case atStart=>exact ⟨0,noT,by omega,rfl,HST0.out,QU3 ap L R⟩
    case round =>
     obtain ⟨c,T,hc,rfl,HC⟩:=hrel;by_cases hcl:c < 256
     ·have hcl':(c:Int) < 256:=by omega
      obtain ⟨V0,hV0⟩:∃ V0,V0=wr:=⟨_,rfl⟩;rw [<- hV0] at HC ⊢
      clear hV0;go_wp2_with fail
      go_loopw [13] (fun i wj=>∃ (d:Nat) (U:TS),d<=256/\i = .int .i64 (d:Int)/\Hid (((qX9 wj q U/\∀ j,wj.frozen? ⟨q,j,none⟩=false)/\Below q X wj)/\QZ5 ap L R c d U)) (fun i _=>256 - (intOf i).toNat)
      case atStart=>exact ⟨0,T,by omega,rfl,HC⟩
      case round =>
       obtain ⟨d,U,hd,rfl,HD⟩:=hrel;obtain ⟨⟨y0,y3,y4⟩,⟨yl,hlr⟩,yr,hrr⟩:=HK.out wr HD.out.1.2;by_cases hdl:d < 256
       ·have hdl':(d:Int) < 256:=by omega
        have cL:=hlr c hcl;have cR:=hrr d hdl;obtain ⟨lv,hlv⟩:∃ lv,L c=lv:=⟨_,rfl⟩;have HLc:Hid (L c=lv):=hlv;rw [hlv] at cL;clear hlv hlr hrr;cases lv
        ·have HN:Hid (((qX9 wr q U/\∀ j,wr.frozen? ⟨q,j,none⟩=false)/\Below q X wr)/\QZ5 ap L R (c+1) 0 U):=⟨HD.out.1,qBN HD.out.2 HLc.out⟩;go_wp2_with fail
         exact ⟨⟨c+1,U,by omega,by go_num,HN⟩,by simp [intOf];omega⟩
        ·obtain ⟨rv,hrv⟩:∃ rv,R d=rv:=⟨_,rfl⟩;rw [hrv] at cR;have hand:bits .and .i64 (c:Int) (d:Int)=((c &&& d:Nat):Int):=QP6 c d hcl hdl;have hor:bits .or .i64 (c:Int) (d:Int)=((c ||| d:Nat):Int):=QD5 c d hcl hdl;have hx256:c ||| d < 256:=Nat.or_lt_two_pow (n:=8) hcl hdl;obtain ⟨qb,hqb⟩:∃ qb,((c &&& d) != 0)=qb:=⟨_,rfl⟩;have hqb':((((c &&& d:Nat):Int))==0) = !qb:=by rw [<- hqb];rw [Bool.eq_iff_iff];simp
         have hok:qEj ap c d = !(ap&&qb):=by unfold qEj;rw [hqb]
         have hn0:(R d&&qEj ap c d)=(rv && !(ap&&qb)):=by rw [hrv,hok]
         have HN0:Hid ((R d&&qEj ap c d)=(rv && !(ap&&qb))):=hn0;obtain ⟨xx,hxx⟩:∃ xx,xx=c ||| d:=⟨_,rfl⟩;have HXX:Hid (xx=c ||| d):=hxx;rw [<- hxx] at hor hx256;have hx':(xx:Int) < 256:=by omega
         have cx:wr.cell? ⟨q,xx,none⟩=some (.bool (U xx)):=HD.out.1.1.1 xx hx256;have fx:=HD.out.1.1.2 xx
         have HPut:Hid ((rv && !(ap&&qb))=true->((qX9 (wr.setCell ⟨q,xx,none⟩ (.bool true)) q (QI7 U xx)/\∀ j,(wr.setCell ⟨q,xx,none⟩ (.bool true)).frozen? ⟨q,j,none⟩=false)/\Below q X (wr.setCell ⟨q,xx,none⟩ (.bool true)))/\QZ5 ap L R c (d+1) (QI7 U xx)):=fun e =>
          ⟨⟨⟨HD.out.1.1.1.put hx256,fun j=>by rw [World.frozen?_setCell];exact HD.out.1.1.2 j⟩,HD.out.1.2.setCell (p:=⟨q,xx,none⟩) (Nat.le_refl _) _⟩,by rw [HXX.out];exact QY3 HD.out.2 hcl hdl HLc.out (HN0.out.trans e)⟩
         have HNo:Hid ((rv && !(ap&&qb))=false->((qX9 wr q U/\∀ j,wr.frozen? ⟨q,j,none⟩=false)/\Below q X wr)/\QZ5 ap L R c (d+1) U):=fun e=>⟨HD.out.1,qCq HD.out.2 (HN0.out.trans e)⟩
         generalize hyy:((c &&& d:Nat):Int)=yy at hand hqb';clear hyy hrv hqb hok hn0 hxx HXX HN0 HD;cases rv
         ·have HN:=HNo.out (by simp);have HN':Hid _:=HN;clear HN HPut HNo;go_wp2_with fail
          exact ⟨⟨d+1,U,by omega,by go_num,HN'⟩,by simp [intOf];omega⟩
         ·cases ap
          ·have HN:=HPut.out (by simp);have HN':Hid _:=HN;clear HN HPut HNo;go_wp2_with fail
           exact ⟨⟨d+1,QI7 U xx,by omega,by go_num,HN'⟩,by simp [intOf];omega⟩
          ·cases qb
           ·have HN:=HPut.out (by simp);have HN':Hid _:=HN;clear HN HPut HNo;go_wp2_with fail
            exact ⟨⟨d+1,QI7 U xx,by omega,by go_num,HN'⟩,by simp [intOf];omega⟩
           ·have HN:=HNo.out (by simp);have HN':Hid _:=HN;clear HN HPut HNo;go_wp2_with fail
            exact ⟨⟨d+1,U,by omega,by go_num,HN'⟩,by simp [intOf];omega⟩
       ·have hde:d=256:=by omega
        subst hde;have HN:Hid (((qX9 wr q U/\∀ j,wr.frozen? ⟨q,j,none⟩=false)/\Below q X wr)/\QZ5 ap L R (c+1) 0 U):=⟨HD.out.1,qBO HD.out.2⟩;clear hlr hrr;go_wp2_with fail
        exact ⟨⟨c+1,U,by omega,by go_num,HN⟩,by simp [intOf];omega⟩
     ·have hce:c=256:=by omega
      subst hce;obtain ⟨V,hV⟩:∃ V,V=wr:=⟨_,rfl⟩;rw [<- hV] at HC ⊢
      have HLV:Hid (L4 W (qC2 (ofG gs) ps k) gsl (.slice (some ⟨vb,0,none⟩) k vc) V):=HTX.out.below (by rw [<- HXQ.out];exact HC.out.1.2);have HRV:Hid (qX9 V q (QR6 ap L R)):=HC.out.1.1.1.ext (qDz HC.out.2);clear HC hV
      go_wp2_with (first
       | (at_builtin;refine wpList_append_own _ rfl _ _ 226 rfl W.heap.size 195 i0 (.slice none 0 0) 1 24 Tryz.underlying226 hi hz0 hz1 hz2 rfl (by decide) _ _ _ rfl (HLV.out.ow.alloc _) ⟨V.heap.size,0,none⟩ 1 1 [slV q] rfl rfl ?c1 ?c2 ?c3 ?c4 ?c5 ?_)
       | fail)
      case c1 =>
       intro j u hj;match j,hj with
       | 0,hj=>simp at hj;subst hj;simp [Addr.add,slV]
      case c2=>intro u hu;simp at hu;subst hu;rfl
      case c3=>rw [hkl];unfold maxLen;omega
      case c4=>rw [hkl];omega
      case c5=>have:=HLV.out.bl.size;simp;omega
      intro v' w9 hown' hgrow hnil;have hnn':v' ≠ .slice none 0 0:=hnil;have HN:Hid (L4 W (qC2 (ofG gs) ps (k+1)) (gsl++[q]) v' w9):=by rw [HE.out,HO.out];exact HLV.out.next HRV.out hvq (by rw [hkl];exact hown') hgrow hnn'
      clear hnil hown' hgrow hnn';go_wp2_with fail
      exact ⟨⟨k+1,gsl++[q],by omega,by go_num,HN⟩,by simp [intOf];omega⟩
  ·have hke:k=m:=by omega
   subst hke
   have hlast:(qC2 (ofG gs) ps k)[k - 1]? = some (qR7 (ofG gs) ps):=by
    unfold qR7;rw [HPW.out.1,List.getElem?_eq_getElem (by omega)];rfl
   obtain ⟨gl,cl,hrl,_⟩:=HT.out.at hlast
   have HRL:Hid (qX9 wr gl (qR7 (ofG gs) ps)):=hrl;have HBF:Hid (Below w.heap.size w wr):=hbW.trans (HT.out.bl.mono hbW.size);have hkm:((k:Int) - 1)=((k - 1:Nat):Int):=by omega
   have hk1:(((k - 1:Nat):Nat):Int) < (k:Int):=by omega
   obtain ⟨k1,hk1e⟩:∃ k1,k1=k - 1:=⟨_,rfl⟩;rw [<- hk1e] at cl hkm hk1;clear hrl hlast hk1e;go_wp2_with fail
   go_ret;exact ⟨gl,rfl,HRL.out,HBF.out⟩
