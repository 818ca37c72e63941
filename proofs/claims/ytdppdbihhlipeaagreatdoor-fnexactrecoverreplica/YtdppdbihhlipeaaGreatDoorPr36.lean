/- Contracts. -/
import Derived.Test.YtdppdbihhlipeaaGreatDoorPr34
import Derived.Test.YtdppdbihhlipeaaGreatDoorPr35
import Derived.RangeFuncSeq
import Derived.RangeFuncGives
import Derived.Sort.MapsRangeIn
import Derived.Shelf.SlSortCmp.NoneTotal
import Derived.Deep.RegionLaw
namespace Go.Proofs.YtdppdbihhlipeaaGreatDoor
set_option maxRecDepth 100000
set_option maxHeartbeats 8000000
open Go.RowKit
set_option linter.unusedVariables false
set_option linter.unusedSimpArgs false

section
open Go.RowKit Go.Maps
theorem qGN {zs:List qA2} (h:qD1 zs=0):zs.Nodup:=by
 unfold qD1 at h;split at h
 ·cases h
 ·have key:∀ k,k<=zs.length->qL0 zs k=0->(zs.take k).Nodup:=by
   intro k;induction k with
   | zero=>intro _ _;simp
   | succ k ih =>
    intro hk hp
    have h0:qL0 zs k=0:=by
     by_cases q:qL0 zs k=0
     ·exact q
     ·exact absurd (qQ9 zs k (k+1) _ q rfl (by omega)) (by rw [hp];exact fun e=>q e.symm)
    have hr:zs[k]? = some zs[k]:=List.getElem?_eq_getElem (by omega)
    have hnm:¬ zs[k]∈zs.take k:=fun q=>by
     by_cases e:qA8 zs[k]=0
     ·rw [QF4 zs k _ hr h0 e q] at hp;cases hp
     ·rw [QD2 zs k _ hr h0 e] at hp;exact e hp
    rw [List.take_succ_eq_append_getElem (by omega)];exact List.nodup_append.2 ⟨ih (by omega) h0,by simp,fun x hx y hy e=>hnm (by simp at hy;rw [<- hy,<- e];exact hx)⟩
  have:=key zs.length (Nat.le_refl _) h;rwa [List.take_length] at this
theorem QD1 {zs:List qA2} (h:qD1 zs=0):∀ z∈zs,qA8 z=0:=by
 unfold qD1 at h;split at h
 ·cases h
 ·intro z hz;obtain ⟨j,hj⟩:=List.mem_iff_getElem?.1 hz
  have hl:j < zs.length:=by
   by_cases q:j < zs.length
   ·exact q
   ·rw [List.getElem?_eq_none (by omega)] at hj;cases hj
  exact QL5 _ h j z hl hj
def QS (W:World) (b g5:Nat) (v:Value) (ws:List qA2):Prop:=∃ g off c,v = .slice (some ⟨g,off,none⟩) ws.length c/\QAt W b g off c ws/\g≠g5/\g≠b
structure QR7 (w:World) (b g5:Nat) (f:RoI->Int) (W:World):Prop where
 below:Below w.heap.size w W
 gm:GM W b f
 room:qN6 W g5 1
 lt5:g5 < W.heap.size
 ne5:g5≠b
 old5:w.heap.size<=g5
 oldb:w.heap.size<=b
def qEn (f:RoI->Int) (x:Nat):Nat:=(10200 - qDJ f).toNat * 1000+x
def atL (w:World) (zs:List qA2) (a:Option Addr) (n cap b g5 l m:Nat) (t:Act) (W:World):Prop :=
  ∃ (f:RoI->Int) (ws:List qA2) (v4 u1 u6 u7 u8 u9 u10 u11 u12 u13 u14 u15 u16 u17 u18 u19 u20 u21 u22 u23 u24 u25 u26 u27 u28 u29 u30 u31 u32 u33 u34 u35 u36 u37 u38 u39 u40 u41 u42 u43 u44 u45 u46 u47:Value),t = { tmps:=#[.slice a n cap,u1,.map none,.map (some b),v4,.pointer (some ⟨g5,0,none⟩),u6,u7,u8,u9,u10,u11,u12,u13,u14,u15,u16,u17,u18,u19,u20,u21,u22,u23,u24,u25,u26,u27,u28,u29,u30,u31,u32,u33,u34,u35,u36,u37,u38,u39,u40,u41,u42,u43,u44,u45,u46,u47],defers:=[] }/\QR7 w b g5 f W /\
    ((l=0/\(∃ av cv,v4 = .slice av ws.length cv)/\(ws≠[]->QS W b g5 v4 ws)/\qBT zs f ws/\m=qEn f (2 * ws.length+1)) \/
     (l=1/\QS W b g5 v4 ws/\m=qEn f 500/\∃ z f0,qD0 W g5 0 z/\qBT zs f0 (z::ws)/\f=qS1 f0 (z.ho,z.hn) (byF f0 z)))
abbrev qGJ (W:World) (g:Nat) (s:qA2):World:=((((((((W.setCell ⟨g,0,none⟩ (.int .i64 s.k)).setCell ⟨g,1,none⟩ (.int .i64 s.ho)).setCell ⟨g,2,none⟩ (.int .i64 s.hn)).setCell ⟨g,3,none⟩ (.int .i64 s.w)).setCell ⟨g,4,none⟩ (.int .i64 s.oo)).setCell ⟨g,5,none⟩ (.int .i64 s.on)).setCell ⟨g,6,none⟩ (.int .i64 s.to)).setCell ⟨g,7,none⟩ (.int .i64 s.tn))
theorem qIS (W:World) (g:Nat) (s:qA2):qGJ W g s=qHt W g 0 s:=by
 show qGJ W g s=((((((((W.setCell ⟨g,0,none⟩ (.int .i64 s.k)).setCell ⟨g,0+1,none⟩ (.int .i64 s.ho)).setCell ⟨g,0+2,none⟩ (.int .i64 s.hn)).setCell ⟨g,0+3,none⟩ (.int .i64 s.w)).setCell ⟨g,0+4,none⟩ (.int .i64 s.oo)).setCell ⟨g,0+5,none⟩ (.int .i64 s.on)).setCell ⟨g,0+6,none⟩ (.int .i64 s.to)).setCell ⟨g,0+7,none⟩ (.int .i64 s.tn))
 simp only [Nat.zero_add]
theorem qBj (W:World) (g:Nat) (s:qA2) (i:Nat) (h:i≠g):(qGJ W g s).heap[i]? = W.heap[i]? := by
 rw [Below.heap_setCell _ _ _ i h,Below.heap_setCell _ _ _ i h,Below.heap_setCell _ _ _ i h,Below.heap_setCell _ _ _ i h,Below.heap_setCell _ _ _ i h,Below.heap_setCell _ _ _ i h,Below.heap_setCell _ _ _ i h,Below.heap_setCell _ _ _ i h]
theorem qEa (W:World) (g:Nat) (s:qA2):(qGJ W g s).heap.size=W.heap.size:=by simp only [World.size_setCell]
theorem qKS {w:World} {b g5:Nat} {f:RoI->Int} {W X:World} (h:QR7 w b g5 f W) (z:qA2) (hX:X=qGJ W g5 z) :
  QR7 w b g5 f X.drew/\qD0 X.drew g5 0 z/\(∀ i,i≠g5->X.drew.heap[i]? = W.heap[i]?)/\X.drew.heap.size=W.heap.size:=by
 have e:X=qHt W g5 0 z:=hX.trans (qIS W g5 z);have ho:∀ i,i≠g5->X.heap[i]? = W.heap[i]? := fun i hi=>by rw [hX];exact qBj W g5 z i hi
 have hz:X.heap.size=W.heap.size:=by rw [hX];exact qEa W g5 z
 have hbw:Below w.heap.size w X:=by rw [e];exact QS5 (o:=0) h.below h.old5 z
 have hroom:=h.room;have hd:qL2 W g5 0 (([z]:List qA2).take 0):=fun k r e=>by simp at e
 have hr:=qAJ hroom hd (show ([z]:List qA2)[0]? = some z from rfl) (Nat.zero_lt_one);rw [Nat.zero_mul,<- e] at hr;clear e hX
 have hr2:qD0 X g5 0 z:=by
  have:=hr.2 0 z rfl;rwa [Nat.zero_mul,Nat.add_zero] at this
 have hl5:=h.lt5;exact ⟨⟨hbw.drew,qP5 h.gm (ho b h.ne5.symm),hr.1,by show g5 < X.heap.size;omega,h.ne5,h.old5,h.oldb⟩,hr2,ho,hz⟩
theorem qGh {f:RoI->Int} (x y:Nat) (h:x < y):qEn f x < qEn f y:=by unfold qEn;omega
theorem qGi {f g:RoI->Int} (hf:FN f) (hg:FN g) (h:qDJ f < qDJ g) (x y:Nat) (hx:x<=900):qEn g x < qEn f y:=by
 have h1:=qFl hf;have h2:=qFl hg;have e1:=Int.toNat_of_nonneg (a:=10200 - qDJ f) (by omega);have e2:=Int.toNat_of_nonneg (a:=10200 - qDJ g) (by omega);unfold qEn;generalize (10200 - qDJ f).toNat=A at *
 generalize (10200 - qDJ g).toNat=B at *
 omega
theorem qDL {w:World} {b g5:Nat} {f f':RoI->Int} {W W2 W3:World} (h:QR7 w b g5 f W) (hb:Below W.heap.size W W2) (hg:W2.grownBy W3 (some b)) (hG:GM W3 b f') :
  QR7 w b g5 f' W3/\(∀ i,i≠b->i < W.heap.size->W3.heap[i]? = W.heap[i]?)/\W.heap.size<=W3.heap.size:=by
 have hs:=hb.size;have hs2:=hg.size;have ho:∀ i,i≠b->i < W.heap.size->W3.heap[i]? = W.heap[i]? := fun i hi hl=>(hg.block i (by omega) (fun e=>hi (Option.some.inj e))).trans (hb.block i hl)
 have h5:=ho g5 h.ne5 h.lt5;refine ⟨⟨?_,hG,⟨fun j hj=>?_,fun j=>?_⟩,by have:=h.lt5;omega,h.ne5,h.old5,h.oldb⟩,ho,by omega⟩
 ·exact Below.turn (h.below.trans (hb.mono h.below.size)) (by have:=h.below.size;omega) h.oldb hg
 ·rw [World.cell?_of_block (a:=⟨g5,j,none⟩) h5];exact h.room.1 j hj
 ·have:=h.room.2 j;simpa [World.frozen?,h5] using this
theorem qR8 {W W':World} {g:Nat} {z:qA2} (h:qD0 W g 0 z) (hb:W'.heap[g]? = W.heap[g]?):qD0 W' g 0 z:=by
 obtain ⟨h0,h1,h2,h3,h4,h5,h6,h7⟩:=h;have hc:∀ o,W'.cell? ⟨g,o,none⟩=W.cell? ⟨g,o,none⟩:=fun o=>World.cell?_of_block hb
 exact ⟨(hc _).trans h0,(hc _).trans h1,(hc _).trans h2,(hc _).trans h3,(hc _).trans h4,(hc _).trans h5,(hc _).trans h6,(hc _).trans h7⟩
theorem qT7 (b:Nat) (i:Nat) (h:i≠b):∀ (vs:List Value) (o:Nat) (w:World),(w.setCells b o vs).heap[i]? = w.heap[i]?
 | [],_,_=>rfl
 | v::r,o,w=>by rw [World.setCells,qT7 b i h r,Below.heap_setCell _ _ _ i h]
theorem qW2 (b:Nat):∀ (vs:List Value) (o:Nat) (w:World),(w.setCells b o vs).heap.size=w.heap.size
 | [],_,_=>rfl
 | v::r,o,w=>by rw [World.setCells,qW2 b r,World.size_setCell]
theorem QA5 {B b:Nat} {w0:World} (hB:B<=b):∀ (vs:List Value) (o:Nat) (w:World),Below B w0 w->Below B w0 (w.setCells b o vs)
 | [],_,_,h=>h
 | v::r,o,w,h=>by rw [World.setCells];exact QA5 hB r _ _ (h.setCell (p:=⟨b,o,none⟩) hB v)
theorem QAt.push {w:World} {B g off c:Nat} {ws:List qA2} (h:QAt w B g off c ws) (y:qA2) (hc:ws.length+1<=c):QAt (w.setCells g (off+ws.length * 8) (qX4 y)) B g off c (ws++[y]):=by
 have hin:∀ j,j < (qX4 y).length->(w.cell? ⟨g,off+ws.length * 8+j,none⟩).isSome=true:=fun j hj=>by
  have:=(h.room (ws.length * 8+j) (by simp [qX4] at hj;omega)).1;rwa [<- Nat.add_assoc] at this
 have cin:=World.cell?_setCells_in g (qX4 y) (off+ws.length * 8) w hin;have cout:∀ o,(o < off+ws.length * 8\/off+ws.length * 8+8<=o)->(w.setCells g (off+ws.length * 8) (qX4 y)).cell? ⟨g,o,none⟩=w.cell? ⟨g,o,none⟩:=fun o ho=>World.cell?_setCells_out g _ _ w ⟨g,o,none⟩ (fun _ _=>by simpa [qX4] using ho)
 refine ⟨h.old,by rw [qW2];exact h.lt,fun k r hr=>?_,by simp;omega,fun j hj=>⟨?_,?_⟩⟩
 ·by_cases e:k < ws.length
  ·rw [List.getElem?_append_left e] at hr;obtain ⟨h0,h1,h2,h3,h4,h5,h6,h7⟩:=h.at' k r hr;exact ⟨(cout _ (by omega)).trans h0,(cout _ (by omega)).trans h1,(cout _ (by omega)).trans h2,(cout _ (by omega)).trans h3,(cout _ (by omega)).trans h4,(cout _ (by omega)).trans h5,(cout _ (by omega)).trans h6,(cout _ (by omega)).trans h7⟩
  ·have hk:k=ws.length:=by
    by_cases q:k < (ws++[y]).length
    ·simp at q;omega
    ·rw [List.getElem?_eq_none (by omega)] at hr;cases hr
   subst hk;simp at hr;subst hr;have q:∀ i (hi:i < 8),(w.setCells g (off+ws.length * 8) (qX4 y)).cell? ⟨g,off+ws.length * 8+i,none⟩=some ((qX4 y)[i]'(by simp [qX4];omega)):=fun i hi=>cin i (by simp [qX4];omega)
   exact ⟨q 0 (by omega),q 1 (by omega),q 2 (by omega),q 3 (by omega),q 4 (by omega),q 5 (by omega),q 6 (by omega),q 7 (by omega)⟩
 ·by_cases e:ws.length * 8<=j/\j < ws.length * 8+8
  ·have:=cin (j - ws.length * 8) (by simp [qX4];omega);rw [show off+ws.length * 8+(j - ws.length * 8)=off+j by omega] at this;rw [this];rfl
  ·rw [cout _ (by omega)];exact (h.room j hj).1
 ·rw [World.frozen?_setCells];exact (h.room j hj).2
theorem QR7.after {w:World} {b g5:Nat} {f:RoI->Int} {W W':World} (h:QR7 w b g5 f W) (hb:Below W.heap.size W W'):QR7 w b g5 f W':=by
 have h5:=hb.block g5 h.lt5;refine ⟨h.below.trans (hb.mono h.below.size),h.gm.below h.gm.lt hb,⟨fun j hj=>?_,fun j=>?_⟩,Nat.lt_of_lt_of_le h.lt5 hb.size,h.ne5,h.old5,h.oldb⟩
 ·rw [World.cell?_of_block (a:=⟨g5,j,none⟩) h5];exact h.room.1 j hj
 ·have:=h.room.2 j;simpa [World.frozen?,h5] using this
theorem QR7.write {w:World} {b g5:Nat} {f:RoI->Int} {W:World} (h:QR7 w b g5 f W) {g:Nat} (hg:w.heap.size<=g) (hne5:g≠g5) (hneb:g≠b) (o:Nat) (vs:List Value):QR7 w b g5 f (W.setCells g o vs):=by
 have ho:∀ i,i≠g->(W.setCells g o vs).heap[i]? = W.heap[i]? := fun i hi=>qT7 g i hi vs o W
 refine ⟨QA5 hg vs o W h.below,qP5 h.gm (ho b hneb.symm),⟨fun j hj=>?_,fun j=>?_⟩,by rw [qW2];exact h.lt5,h.ne5,h.old5,h.oldb⟩
 ·rw [World.cell?_of_block (a:=⟨g5,j,none⟩) (ho g5 hne5.symm)];exact h.room.1 j hj
 ·rw [World.frozen?_setCells];exact h.room.2 j
theorem QU1:∀ (a:List qA2) (y:qA2),qQ7 (a++[y])=qQ7 a++qX4 y
 | [],y=>by simp [qQ7]
 | z::zs,y=>by simp [qQ7,QU1 zs y]
theorem QU9 {zs:List qA2} {f:RoI->Int} {z:qA2} {ws:List qA2} (h:qBT zs f (z::ws)) (r:RoI) (k:Nat):(qF3 zs r ws k).length<=zs.length:=by
 have w:=QC3 r zs (zs.take k) ws (fun x hx=>List.mem_of_mem_take hx) (fun x hx=>h.sub x (by simp [hx])) (List.nodup_cons.1 h.nd).2;exact QD6 _ _ w.1 w.2.1
theorem qGc {W':World} {B b g5:Nat} {v:Value} {ws:List qA2} (h:W'.ownsRow B 125 8 v ws.length (qQ7 ws)) (hne:ws≠[]) (hb:b < B) (h5:g5 < B):QS W' b g5 v ws:=by
 have hn:v ≠ .slice none 0 0:=fun e=>by
  rcases h.2 with ⟨_,q⟩ | ⟨g,cap,cur,q,_⟩
  ·exact hne (List.eq_nil_of_length_eq_zero q)
  ·rw [e] at q;cases q
 obtain ⟨g,off,c,e,q⟩:=qDO h hn;have:=q.old;exact ⟨g,off,c,e,⟨by omega,q.lt,q.at',q.le,q.room⟩,by omega,by omega⟩
end

section
open Go.RowKit Go.Maps
theorem qIJ (a:Option Addr) (n cap:Nat) (zs:List qA2) (w:World) (hr:qB8 w a n zs) (hn:n<=16) (hp:qD1 zs=0) :
  Calls Tryz.prog 202 #[.slice a n cap] w fun e w'=>∃ b f,e = .returned (.map (some b))/\GM w' b f/\qBT zs f []/\w.heap.size<=b/\Below w.heap.size w w':=by
 have HR:Hid (qB8 w a n zs):=hr;have HP:Hid (qD1 zs=0):=hp;clear hr hp;obtain ⟨i0,hi,hz0,hz1,hz2⟩:=info_parts Tryz.info125;go_enter Tryz.func202,Tryz.ntmps202;go_wp2;refine QZ6 (fun l m t W=>∃ g5,atL w zs a n cap w.heap.size g5 l m t W) rfl rfl ?hJ ?first ?core0 ?core1
 case hJ =>
  rintro l m t W ⟨g5,f,ws,v4,u1,u6,u7,u8,u9,u10,u11,u12,u13,u14,u15,u16,u17,u18,u19,u20,u21,u22,u23,u24,u25,u26,u27,u28,u29,u30,u31,u32,u33,u34,u35,u36,u37,u38,u39,u40,u41,u42,u43,u44,u45,u46,u47,e,hs,(⟨rfl,_⟩ | ⟨rfl,_⟩)⟩
  ·exact .inl rfl
  ·exact .inr rfl
 case first =>
  intro pass;have HPs:Hid _:=pass;have h1:Below w.heap.size w (w.alloc (.map #[] 0)):=zN;have hG1:=qKx w;have hs1:(w.alloc (.map #[] 0)).heap.size=w.heap.size+1:=World.size_alloc _ _;have HR1:=HR.out.below h1;have hmk:(Instr.makeMap 280 none).run Tryz.prog w = .ok (.map (some w.heap.size)) (w.alloc (.map #[] 0)):=run_makeMap _ w;generalize hw1:w.alloc (.map #[] 0)=w1 at *
  have hnd:=qGN HP.out;have hzl:=HR.out.1;go_wp2_with (first | (go_at_call 220;refine (qJL a n cap zs w1 (by omega) HR1).mono ?_;rintro e w2 ⟨v,rfl,hv0,hvq,hb2⟩) | go_in)
  go_step3
  rename_i hK0;refine hK0 _ _ ?_;clear hK0;have hz2':=hb2.size;have hA:Below w2.heap.size w2 (w2.alloc (.cells #[.int .i64 0,.int .i64 0,.int .i64 0,.int .i64 0,.int .i64 0,.int .i64 0,.int .i64 0,.int .i64 0] 125)):=zN;have hb02:Below w.heap.size w w2:=h1.trans (hb2.mono (by omega));refine qFc (Q:=qU1 (fun l' a' w'=>∃ m',m' < qEn qBV (2 * zs.length+1)/\∃ g5,atL w zs a n cap w.heap.size g5 l' m' a' w') _) ?_ (qAc (fun l a w q=>q.elim (fun m' q2=>⟨m',q2.2⟩)));refine HPs.out (qEn qBV (2 * zs.length+1)) _ _ ?_;refine ⟨w2.heap.size,qBV,zs,v,_,_,_,_,_,_,_,_,_,_,_,_,_,_,_,_,_,_,_,_,_,_,_,_,_,_,_,_,_,_,_,_,_,_,_,_,_,_,_,_,_,_,_,rfl,⟨hb02.trans (hA.mono (by omega)),(hG1.below hG1.lt hb2).below (by omega) hA,⟨fun j hj=>?_,fun j=>?_⟩,by simp,by omega,by omega,Nat.le_refl _⟩,.inl ⟨rfl,?_,fun hne=>?_,qEH hnd,rfl⟩⟩
  ·have hj8:j=0\/j=1\/j=2\/j=3\/j=4\/j=5\/j=6\/j=7:=by omega
   rcases hj8 with rfl | rfl | rfl | rfl | rfl | rfl | rfl | rfl <;> exact ⟨.int .i64 0,by unfold World.cell?;rw [World.alloc_heap_new];rfl⟩
  ·unfold World.frozen?;rw [World.alloc_heap_new];simp
  ·by_cases q:n=0
   ·obtain ⟨a',c',e⟩:=hv0 q;exact ⟨a',c',by rw [e,hzl,q]⟩
   ·obtain ⟨g,off,c,e,_⟩:=hvq (by omega);exact ⟨_,_,e⟩
  ·have hnp:0 < n:=by
    rw [<- hzl];exact List.length_pos_iff.2 hne
   obtain ⟨g,off,c,e,q⟩:=hvq hnp;have:=q.old;have:=q.lt;exact ⟨g,off,c,e,⟨by omega,(q.below q.lt hA).lt,(q.below q.lt hA).at',q.le,(q.below q.lt hA).room⟩,by omega,by omega⟩
 case core0 =>
  rintro m t W ⟨g5,f,ws,v4,u1,u6,u7,u8,u9,u10,u11,u12,u13,u14,u15,u16,u17,u18,u19,u20,u21,u22,u23,u24,u25,u26,u27,u28,u29,u30,u31,u32,u33,u34,u35,u36,u37,u38,u39,u40,u41,u42,u43,u44,u45,u46,u47,rfl,hs,(⟨_,⟨av,cv,rfl⟩,hq,hw,rfl⟩ | ⟨q,_⟩)⟩
  case inr=>cases q
  rcases ws with _ | ⟨z,ws⟩
  ·have HS:Hid (QR7 w w.heap.size g5 f W):=hs;have HW:Hid (qBT zs f []):=hw;clear hs hw hq;skip
   go_wp2;simp only [qU1];go_ret;exact ⟨w.heap.size,f,rfl,HS.out.gm,HW.out,Nat.le_refl _,HS.out.below⟩
  ·obtain ⟨g,off,c,e,Q,hne5,hneb⟩:=hq (by simp);simp only [List.length_cons] at e;cases e;obtain ⟨k,hk⟩:∃ k,ws.length=k:=⟨_,rfl⟩;have HK:Hid (ws.length=k):=hk;have hkc:k+1<=cv:=by have:=Q.le;simp only [List.length_cons] at this;omega
   have hlz:k+1<=16:=by
    have:=hw.len;simp only [List.length_cons] at this;have:=HR.out.1;omega
   simp only [List.length_cons,hk];obtain ⟨h0,h1,h2,h3,h4,h5,h6,h7⟩:=Q.at' 0 z rfl;simp only [Nat.zero_mul,Nat.add_zero] at h0 h1 h2 h3 h4 h5 h6 h7;obtain ⟨v0,c0⟩:=hs.room.1 0 (by omega);obtain ⟨v1,c1⟩:=hs.room.1 1 (by omega);obtain ⟨v2,c2⟩:=hs.room.1 2 (by omega);obtain ⟨v3,c3⟩:=hs.room.1 3 (by omega);obtain ⟨v4,c4⟩:=hs.room.1 4 (by omega);obtain ⟨v5,c5⟩:=hs.room.1 5 (by omega);obtain ⟨v6,c6⟩:=hs.room.1 6 (by omega);obtain ⟨v7,c7⟩:=hs.room.1 7 (by omega);have f0:=hs.room.2 0;have f1:=hs.room.2 1;have f2:=hs.room.2 2;have f3:=hs.room.2 3;have f4:=hs.room.2 4;have f5:=hs.room.2 5;have f6:=hs.room.2 6;have f7:=hs.room.2 7;have HS:Hid (QR7 w w.heap.size g5 f W):=hs;have HW:Hid (qBT zs f (z::ws)):=hw;have HQ:Hid (QAt W w.heap.size g off cv (z::ws)):=Q;have i0':(0:Int) < (k:Int)+1:=by omega
   have i1:(1:Int)<=(k:Int)+1:=by omega
   have i2:(k:Int)+1<=(cv:Int):=by omega
   have i3:(k:Int)+1<=16:=by omega
   clear hs hw hq Q hk;skip
   go_wp2;go_region
   obtain ⟨X,hX⟩:∃ X,X=((((((((W.setCell ⟨g5,0,none⟩ (.int .i64 z.k)).setCell ⟨g5,1,none⟩ (.int .i64 z.ho)).setCell ⟨g5,2,none⟩ (.int .i64 z.hn)).setCell ⟨g5,3,none⟩ (.int .i64 z.w)).setCell ⟨g5,4,none⟩ (.int .i64 z.oo)).setCell ⟨g5,5,none⟩ (.int .i64 z.on)).setCell ⟨g5,6,none⟩ (.int .i64 z.to)).setCell ⟨g5,7,none⟩ (.int .i64 z.tn)):=⟨_,rfl⟩;obtain ⟨S1,R1,O1,Z1⟩:=qKS HS.out z hX;rw [<- hX];clear hX;obtain ⟨av',hav⟩:∃ av',(if cv=1 then (some ⟨g,off,none⟩:Option Addr) else some ⟨g,off+8,none⟩)=av':=⟨_,rfl⟩;rw [hav]
   have HAV:Hid (∀ X':World,QAt X' w.heap.size g off cv (z::ws)->QS X' w.heap.size g5 (.slice av' k (cv - 1)) ws):=fun X' q=>by
    rw [<- hav];by_cases e:cv=1
    ·have hk0:k=0:=by omega
     have hw0:ws=[]:=List.eq_nil_of_length_eq_zero (by rw [HK.out];exact hk0);subst hw0;refine ⟨g,off,0,by rw [if_pos e,e,hk0];rfl,?_,hne5,hneb⟩;have q2:=q.pop;rw [e] at q2;exact q2.empty
    ·exact ⟨g,off+8,cv - 1,by rw [if_neg e,HK.out],q.pop,hne5,hneb⟩
   clear hav;obtain ⟨W1,hW1⟩:∃ W1,X.drew=W1:=⟨_,rfl⟩;rw [hW1] at S1 R1 O1 Z1 ⊢
   have HS1:Hid (QR7 w w.heap.size g5 f W1):=S1;have Q1':QAt W1 w.heap.size g off cv (z::ws):=HQ.out.kept (by omega) (O1 g hne5);have HQ1:Hid (QAt W1 w.heap.size g off cv (z::ws)):=Q1';have HR1:Hid (qD0 W1 g5 0 z):=R1;obtain ⟨d0,d1,d2,d3,d4,d5,d6,d7⟩:=R1;simp only [Nat.zero_add] at d0 d1 d2 d3 d4 d5 d6 d7;have hlt5:g5 < W1.heap.size:=S1.lt5;have hcz:qA8 z=0:=QD1 HP.out z (HW.out.sub z (by simp));have hB:qD6 z.ho z.hn=true/\okR z:=⟨(qW3 hcz).2.2.1,(qDW hcz).1⟩;obtain ⟨t,ht⟩:∃ t,(!decide (orI (f (z.ho,z.hn)) (byF f z)=f (z.ho,z.hn)))=t:=⟨_,rfl⟩;have HT:Hid (∀ X:World,Below W1.heap.size W1 X->Calls Tryz.prog 222 #[.map (some w.heap.size),.agg #[.int .i64 z.k,.int .i64 z.ho,.int .i64 z.hn,.int .i64 z.w,.int .i64 z.oo,.int .i64 z.on,.int .i64 z.to,.int .i64 z.tn]] X fun e w'=>e = .returned (.int .u8 (byF f z))/\Below X.heap.size X w'):=fun X hX=>qLX w.heap.size f z X (HS1.out.gm.below HS1.out.gm.lt hX) hcz
   have HV:Hid (∀ X:World,Below W1.heap.size W1 X->Calls Tryz.prog 221 #[.map (some w.heap.size),.agg #[.int .i64 z.ho,.int .i64 z.hn],.int .u8 (byF f z)] X fun e w'=>e = .returned (.bool t)/\GM w' w.heap.size (qS1 f (z.ho,z.hn) (byF f z))/\X.grownBy w' (some w.heap.size)):=fun X hX =>
    (qMB w.heap.size f (z.ho,z.hn) (byF f z) X (HS1.out.gm.below HS1.out.gm.lt hX) hB.1 (QP3 HS1.out.gm.fn.st hB.2)).mono (fun e w' q=>⟨by rw [q.1,ht],q.2.1,q.2.2⟩)
   have HH:Hid ((!decide (orI (f (z.ho,z.hn)) (byF f z)=f (z.ho,z.hn)))=t/\okR z):=⟨ht,hB.2⟩;clear h0 h1 h2 h3 h4 h5 h6 h7 c0 c1 c2 c3 c4 c5 c6 c7 f0 f1 f2 f3 f4 f5 f6 f7 S1 O1 Q1' hW1 ht hB hcz;cases t
   ·go_wp2
    go_region_with (first
     | (go_at_call 222;refine (HT.out W1.drew (Below.refl _ W1).drew).mono ?_;rintro e W2 ⟨rfl,hb2d⟩;have hb2:Below W1.heap.size W1 W2:=(Below.refl _ W1).drew.trans hb2d;clear hb2d;have q1:=(hb2.cell (p:=⟨g5,1,none⟩) hlt5).trans d1;have q2:=(hb2.cell (p:=⟨g5,2,none⟩) hlt5).trans d2)
     | (go_at_call 221;refine (HV.out _ hb2).mono ?_;rintro e W3 ⟨rfl,hG3,hg3⟩))
    all_goals go_wp2
    all_goals go_step3
    all_goals
     have hsame:qS1 f (z.ho,z.hn) (byF f z)=f:=qAp (by simpa using HH.out.1);have heq:orI (f (z.ho,z.hn)) (byF f z)=f (z.ho,z.hn):=by simpa using HH.out.1
     rw [hsame] at hG3;obtain ⟨S3,O3,Z3⟩:=qDL HS1.out hb2 hg3 hG3;exact ⟨qEn f (2 * ws.length+1),qGh _ _ (by have:=HK.out;omega),g5,f,ws,_,_,_,_,_,_,_,_,_,_,_,_,_,_,_,_,_,_,_,_,_,_,_,_,_,_,_,_,_,_,_,_,_,_,_,_,_,_,_,_,_,_,_,_,rfl,S3,.inl ⟨rfl,⟨_,_,by rw [HK.out]⟩,fun hne=>HAV.out W3 (HQ1.out.kept (by omega) (O3 g hneb HQ1.out.lt)),qFd HW.out HH.out.2 heq,rfl⟩⟩
   ·go_wp2
    go_region_with (first
     | (go_at_call 222;refine (HT.out W1.drew (Below.refl _ W1).drew).mono ?_;rintro e W2 ⟨rfl,hb2d⟩;have hb2:Below W1.heap.size W1 W2:=(Below.refl _ W1).drew.trans hb2d;clear hb2d;have q1:=(hb2.cell (p:=⟨g5,1,none⟩) hlt5).trans d1;have q2:=(hb2.cell (p:=⟨g5,2,none⟩) hlt5).trans d2)
     | (go_at_call 221;refine (HV.out _ hb2).mono ?_;rintro e W3 ⟨rfl,hG3,hg3⟩))
    all_goals go_wp2
    all_goals go_step3
    all_goals
     have hneq:orI (f (z.ho,z.hn)) (byF f z)≠f (z.ho,z.hn):=by simpa using HH.out.1
     obtain ⟨S3,O3,Z3⟩:=qDL HS1.out hb2 hg3 hG3;have hgr:qDJ f < qDJ (qS1 f (z.ho,z.hn) (byF f z)):=qFk HS1.out.gm.fn HH.out.2.1 (QP3 HS1.out.gm.fn.st HH.out.2) hneq;exact ⟨qEn (qS1 f (z.ho,z.hn) (byF f z)) 500,qGi HS1.out.gm.fn hG3.fn hgr _ _ (by omega),g5,qS1 f (z.ho,z.hn) (byF f z),ws,_,_,_,_,_,_,_,_,_,_,_,_,_,_,_,_,_,_,_,_,_,_,_,_,_,_,_,_,_,_,_,_,_,_,_,_,_,_,_,_,_,_,_,_,rfl,S3,.inr ⟨rfl,HAV.out W3 (HQ1.out.kept (by omega) (O3 g hneb HQ1.out.lt)),rfl,z,f,qR8 HR1.out (O3 g5 HS1.out.ne5 hlt5),HW.out,rfl⟩⟩
 case core1 =>
  rintro m t W ⟨g5,f,ws,v4,u1,u6,u7,u8,u9,u10,u11,u12,u13,u14,u15,u16,u17,u18,u19,u20,u21,u22,u23,u24,u25,u26,u27,u28,u29,u30,u31,u32,u33,u34,u35,u36,u37,u38,u39,u40,u41,u42,u43,u44,u45,u46,u47,rfl,hs,(⟨q,_⟩ | ⟨_,hq,rfl,z,f0,hz,hw,rfl⟩)⟩
  case inl=>cases q
  have HS0:Hid (QR7 w w.heap.size g5 (qS1 f0 (z.ho,z.hn) (byF f0 z)) W):=hs;have HW:Hid (qBT zs f0 (z::ws)):=hw;have HQ0:Hid (QS W w.heap.size g5 v4 ws):=hq;have HZ0:Hid (qD0 W g5 0 z):=hz;have hn':(n:Int)<=16:=by omega
  obtain ⟨f,hf⟩:∃ f,qS1 f0 (z.ho,z.hn) (byF f0 z)=f:=⟨_,rfl⟩;have HF:Hid (qS1 f0 (z.ho,z.hn) (byF f0 z)=f):=hf;rw [hf] at HS0;rw [hf];clear hs hw hq hz hf;skip
  go_wp2;go_loopw [4,29] (fun v i wr=>∃ k:Nat,k<=n/\i = .int .i64 (k:Int)/\QR7 w w.heap.size g5 f wr/\QS wr w.heap.size g5 v (qF3 zs (z.ho,z.hn) ws k)/\qD0 wr g5 0 z) (fun _ i _=>n - (intOf i).toNat)
  case atStart=>exact ⟨0,Nat.zero_le _,rfl,HS0.out,by simpa [qF3] using HQ0.out,HZ0.out⟩
  case round =>
   obtain ⟨k,hk,rfl,hs,hq,hz⟩:=hrel;by_cases hlt:k < n
   ·obtain ⟨bl,ol,y,rfl,hy,hyx⟩:=HR.out.at hlt
    obtain ⟨g,off,c,rfl,Q,hne5,hneb⟩:=hq;obtain ⟨L,hL⟩:∃ L,(qF3 zs (z.ho,z.hn) ws k).length=L:=⟨_,rfl⟩;have HL:Hid ((qF3 zs (z.ho,z.hn) ws k).length=L):=hL;rw [hL];have HY:Hid (zs[k]? = some y):=hy;obtain ⟨h0,h1,h2,h3,h4,h5,h6,h7⟩:=hyx.below hs.below;obtain ⟨w2,hw2⟩:∃ w2,w2=wr.alloc (.cells #[.int .i64 y.k,.int .i64 y.ho,.int .i64 y.hn,.int .i64 y.w,.int .i64 y.oo,.int .i64 y.on,.int .i64 y.to,.int .i64 y.tn] 125):=⟨_,rfl⟩;have hA:Below wr.heap.size wr w2:=by rw [hw2];exact zN
    have R2:qD0 w2 wr.heap.size 0 y:=by rw [hw2];exact qD0.new wr y _
    have hsz2:w2.heap.size=wr.heap.size+1:=by rw [hw2];simp
    have HS2:Hid (QR7 w w.heap.size g5 f w2):=hs.after hA;have HQ2:Hid (QAt w2 w.heap.size g off c (qF3 zs (z.ho,z.hn) ws k)):=Q.below Q.lt hA;have HZ2:Hid (qD0 w2 g5 0 z):=qR8 hz (hA.block g5 hs.lt5);have hlt':(k:Int) < (n:Int):=by omega
    have hyk:1<=y.k/\y.k<=4:=by have:=qW3 (QD1 HP.out y (List.mem_of_getElem? hy));exact ⟨this.1,this.2.1⟩
    have HY2:Hid (qD0 w2 wr.heap.size 0 y):=R2;obtain ⟨_,zc1,zc2,_⟩:=hz;simp only [Nat.zero_add] at zc1 zc2;have hl5:g5 < wr.heap.size:=hs.lt5;clear hs Q hyx hL hy hA R2;go_wp2_with fail
    rw [<- hw2];clear hw2 h0 h1 h2 h3 h4 h5 h6 h7 zc1 zc2;obtain ⟨t,ht⟩:∃ t,qG8 y (z.ho,z.hn)=t:=⟨_,rfl⟩;refine (qGq y (z.ho,z.hn) _ hyk).mono ?_;rintro e w3 ⟨rfl,hb3⟩;rw [ht];have HT:Hid (qG8 y (z.ho,z.hn)=t):=ht;have HS3:Hid (QR7 w w.heap.size g5 f w3):=HS2.out.after hb3;have HQ3:Hid (QAt w3 w.heap.size g off c (qF3 zs (z.ho,z.hn) ws k)):=HQ2.out.below HQ2.out.lt hb3;have HZ3:Hid (qD0 w3 g5 0 z):=qR8 HZ2.out (hb3.block g5 HS2.out.lt5);have Y3:qD0 w3 wr.heap.size 0 y:=HY2.out.below hb3;have HY3:Hid (qD0 w3 wr.heap.size 0 y):=Y3;obtain ⟨y0,y1,y2,y3,y4,y5,y6,y7⟩:=Y3;simp only [Nat.zero_add] at y0 y1 y2 y3 y4 y5 y6 y7;have hsz3:=hb3.size;clear ht hb3;cases t
    ·have HE:Hid (qF3 zs (z.ho,z.hn) ws (k+1)=qF3 zs (z.ho,z.hn) ws k):=by
      show qF3 zs (z.ho,z.hn) ws (k+1)=_
      rw [QA9 HY.out,if_neg (fun q=>by rw [HT.out] at q;cases q.1)]
     go_wp2;exact ⟨⟨k+1,by omega,by go_num,HS3.out,⟨g,off,c,by rw [HE.out,HL.out],by rw [HE.out];exact HQ3.out,hne5,hneb⟩,HZ3.out⟩,by simp [intOf];omega⟩
    ·go_wp2_with fail
     obtain ⟨u,hu⟩:∃ u,decide (y∈qF3 zs (z.ho,z.hn) ws k)=u:=⟨_,rfl⟩;refine (QG3 (some ⟨g,off,none⟩) L c (qF3 zs (z.ho,z.hn) ws k) y _ ?_ ⟨HL.out,fun _=>⟨g,off,rfl,HQ3.out.at'⟩⟩).mono ?_
     ·have:=QU9 HW.out (z.ho,z.hn) k;have:=HL.out;have:=HR.out.1;omega
     rintro e w4 ⟨rfl,hb4⟩;rw [hu];have HU:Hid (decide (y∈qF3 zs (z.ho,z.hn) ws k)=u):=hu;have HS4:Hid (QR7 w w.heap.size g5 f w4):=HS3.out.after hb4;have HQ4:Hid (QAt w4 w.heap.size g off c (qF3 zs (z.ho,z.hn) ws k)):=HQ3.out.below HQ3.out.lt hb4;have HZ4:Hid (qD0 w4 g5 0 z):=qR8 HZ3.out (hb4.block g5 HS3.out.lt5);have Y4:qD0 w4 wr.heap.size 0 y:=HY3.out.below hb4;have HY4:Hid (qD0 w4 wr.heap.size 0 y):=Y4;obtain ⟨x0,x1,x2,x3,x4,x5,x6,x7⟩:=Y4;simp only [Nat.zero_add] at x0 x1 x2 x3 x4 x5 x6 x7;have hsz4:=hb4.size;clear hu hb4 y0 y1 y2 y3 y4 y5 y6 y7;cases u
     ·have HE:Hid (qF3 zs (z.ho,z.hn) ws (k+1)=qF3 zs (z.ho,z.hn) ws k++[y]):=by
       show qF3 zs (z.ho,z.hn) ws (k+1)=_
       rw [QA9 HY.out,if_pos ⟨HT.out,of_decide_eq_false HU.out⟩]
      have hL16:L<=16:=by
       have:=QU9 HW.out (z.ho,z.hn) k;have:=HL.out;have:=HR.out.1;omega
      have hA5:Below w4.heap.size w4 (w4.alloc (.cells #[.int .i64 y.k,.int .i64 y.ho,.int .i64 y.hn,.int .i64 y.w,.int .i64 y.oo,.int .i64 y.on,.int .i64 y.to,.int .i64 y.tn] 125)):=zN;have HB5:Hid (Below w4.heap.size w4 (w4.alloc (.cells #[.int .i64 y.k,.int .i64 y.ho,.int .i64 y.hn,.int .i64 y.w,.int .i64 y.oo,.int .i64 y.on,.int .i64 y.to,.int .i64 y.tn] 125))):=hA5;have HQ5:Hid (QAt (w4.alloc (.cells #[.int .i64 y.k,.int .i64 y.ho,.int .i64 y.hn,.int .i64 y.w,.int .i64 y.oo,.int .i64 y.on,.int .i64 y.to,.int .i64 y.tn] 125)) w.heap.size g off c (qF3 zs (z.ho,z.hn) ws k)):=HQ4.out.below HQ4.out.lt hA5;have HS5:Hid (QR7 w w.heap.size g5 f (w4.alloc (.cells #[.int .i64 y.k,.int .i64 y.ho,.int .i64 y.hn,.int .i64 y.w,.int .i64 y.oo,.int .i64 y.on,.int .i64 y.to,.int .i64 y.tn] 125))):=HS4.out.after hA5;have HZ5:Hid (qD0 (w4.alloc (.cells #[.int .i64 y.k,.int .i64 y.ho,.int .i64 y.hn,.int .i64 y.w,.int .i64 y.oo,.int .i64 y.on,.int .i64 y.to,.int .i64 y.tn] 125)) g5 0 z):=qR8 HZ4.out (hA5.block g5 HS4.out.lt5);have HNW:Hid (∀ j u,(qX4 y)[j]? = some u->(w4.alloc (.cells #[.int .i64 y.k,.int .i64 y.ho,.int .i64 y.hn,.int .i64 y.w,.int .i64 y.oo,.int .i64 y.on,.int .i64 y.to,.int .i64 y.tn] 125)).cell? ((⟨w4.heap.size,0,none⟩:Addr).add j)=some u):=World.news_of_block (World.alloc_heap_new w4 _);clear hA5;go_wp2_with (first | (at_builtin;refine wpList_append_arg _ rfl _ _ 68 rfl 125 i0 (.agg #[.int .i64 0,.int .i64 0,.int .i64 0,.int .i64 0,.int .i64 0,.int .i64 0,.int .i64 0,.int .i64 0]) 8 64 Tryz.under68 hi hz0 hz1 hz2 rfl (by decide) g off L c (qQ7 (qF3 zs (z.ho,z.hn) ws k)) rfl ?lo ?olds ⟨w4.heap.size,0,none⟩ 1 1 (qX4 y) rfl rfl HNW.out ?c2 ?spare ?ml ?bt ?room ?grow) | go_in)
      case lo=>rw [qV6,HL.out]
      case olds=>exact QK9 HQ5.out.at'
      case c2=>exact fun u hu=>QP0 [y] u (by simpa [qQ7] using hu)
      case spare =>
       intro hle j hj;have:=HQ5.out.room (L * 8+j) (by simp [qX4] at hj;omega);rwa [<- Nat.add_assoc] at this
      case ml=>unfold maxLen;omega
      case bt=>omega
      case room =>
       intro hle;have Q6:=HQ5.out.push y (by rw [HL.out];exact hle);rw [HL.out] at Q6;have HQ6:Hid _:=Q6;have S6:=HS5.out.write (Nat.le_trans HS5.out.oldb HQ5.out.old) hne5 hneb (off+L * 8) (qX4 y);have Z6:=qR8 HZ5.out (qT7 g g5 hne5.symm (qX4 y) (off+L * 8) _);generalize World.setCells _ g (off+L * 8) (qX4 y)=w6 at *
       go_wp2;exact ⟨⟨k+1,by omega,by go_num,S6,⟨g,off,c,by rw [HE.out];simp [HL.out],by rw [HE.out];exact Q6,hne5,hneb⟩,Z6⟩,by simp [intOf];omega⟩
      case grow =>
       intro hlt6 v' w6 ho6 hg6;rw [<- QU1,<- HE.out] at ho6;have hl6:(qF3 zs (z.ho,z.hn) ws (k+1)).length=L+1:=by rw [HE.out];simp [HL.out]
       rw [<- hl6] at ho6;have hlt4:w4.heap.size < (w4.alloc (.cells #[.int .i64 y.k,.int .i64 y.ho,.int .i64 y.hn,.int .i64 y.w,.int .i64 y.oo,.int .i64 y.on,.int .i64 y.to,.int .i64 y.tn] 125)).heap.size:=by simp
       have HQ6:Hid (QS w6 w.heap.size g5 v' (qF3 zs (z.ho,z.hn) ws (k+1))):=qGc ho6 (fun e=>by rw [e] at hl6;simp at hl6) (by have:=HS4.out.gm.lt;omega) (by have:=HS4.out.lt5;omega);have hb6:Below (w4.alloc (.cells #[.int .i64 y.k,.int .i64 y.ho,.int .i64 y.hn,.int .i64 y.w,.int .i64 y.oo,.int .i64 y.on,.int .i64 y.to,.int .i64 y.tn] 125)).heap.size (w4.alloc (.cells #[.int .i64 y.k,.int .i64 y.ho,.int .i64 y.hn,.int .i64 y.w,.int .i64 y.oo,.int .i64 y.on,.int .i64 y.to,.int .i64 y.tn] 125)) w6:=(Below.refl _ _).grown hg6 (Nat.le_refl _) (fun q e=>by cases e);have S6:=HS5.out.after hb6;have Z6:=qR8 HZ5.out (hb6.block g5 HS5.out.lt5);clear ho6 hg6 hb6;go_wp2;exact ⟨⟨k+1,by omega,by go_num,S6,HQ6.out,Z6⟩,by simp [intOf];omega⟩
     ·have HE:Hid (qF3 zs (z.ho,z.hn) ws (k+1)=qF3 zs (z.ho,z.hn) ws k):=by
       show qF3 zs (z.ho,z.hn) ws (k+1)=_
       rw [QA9 HY.out,if_neg (fun q=>q.2 (of_decide_eq_true HU.out))]
      go_wp2;exact ⟨⟨k+1,by omega,by go_num,HS4.out,⟨g,off,c,by rw [HE.out,HL.out],by rw [HE.out];exact HQ4.out,hne5,hneb⟩,HZ4.out⟩,by simp [intOf];omega⟩
   ·have hkn:k=n:=by omega
    subst hkn;have HQ:Hid (QS wr w.heap.size g5 u4 (qF3 zs (z.ho,z.hn) ws k)):=hq;have HSe:Hid (QR7 w w.heap.size g5 f wr):=hs
    have HWe:Hid (qBT zs f (qF3 zs (z.ho,z.hn) ws k)):=by
     have h1:=qFe (fun y hy=>⟨(qDW (QD1 HP.out y hy)).1,(qDW (QD1 HP.out y hy)).2⟩) HW.out;rw [HF.out,HR.out.1] at h1;exact h1
    have hL16:(qF3 zs (z.ho,z.hn) ws k).length<=16:=by
     have:=QU9 HW.out (z.ho,z.hn) k;have:=HR.out.1;omega
    clear hs hq hz;go_wp2;go_step3
    obtain ⟨g,off,c,hv,hrest⟩:=HQ.out;exact ⟨qEn f (2 * (qF3 zs (z.ho,z.hn) ws k).length+1),qGh _ _ (by omega),g5,f,qF3 zs (z.ho,z.hn) ws k,u4,_,_,_,_,_,_,_,_,_,_,_,_,_,_,_,_,_,_,_,_,_,_,_,_,_,_,_,_,_,_,_,_,_,_,_,_,_,_,_,_,_,_,_,rfl,HSe.out,.inl ⟨rfl,⟨_,_,hv⟩,fun _=>HQ.out,HWe.out,rfl⟩⟩
end

theorem qJR (zs:List qA2) (hc:qD1 zs=0):∃ gs,QJ9 zs gs:=by
 have hz:∀ z∈zs,okR z:=fun z h=>((qGM hc).2 z h).1
 obtain ⟨n,_,h⟩:=qKu hz;exact ⟨_,qHl hz h⟩
theorem qGO {zs:List qA2} {n:Nat} (h:zs.length=n) (hc:qD1 zs=0):n<=16:=by
 unfold qD1 at hc;split at hc
 ·simp at hc
 ·omega

theorem qLo (g:Nat) (c d:Int) (w:World) (h0:w.cell? ⟨g,0,none⟩=some (.int .i64 c)) (h1:w.cell? ⟨g,1,none⟩=some (.int .i64 d)) :
  Calls Tryz.prog 163 #[.slice (some ⟨g,0,none⟩) 2 2] w fun e w'=>e = .returned (.int .i64 (orC c d))/\w=w':=by
 go_enter Tryz.func163,Tryz.ntmps163;go_wp2;go_loop [8] (fun i=>∃ k:Nat,k<=2/\i = .int .i64 (k:Int)/\(1<=k->c=0)/\(2<=k->d=0)) (fun i=>2 - (intOf i).toNat)
 case atStart=>exact ⟨0,by omega,rfl,fun h=>by omega,fun h=>by omega⟩
 case round =>
  obtain ⟨k,hk,rfl,hc,hd⟩:=hrel;have hk':k=0\/k=1\/k=2:=by omega
  rcases hk' with rfl | rfl | rfl
  ·clear hc hd;by_cases e:c=0
   ·have b:(c != 0)=false:=by simp [e]
    have HE:Hid (c=0):=e;clear e;go_wp2;exact ⟨⟨1,by omega,by go_num,fun _=>HE.out,fun h=>by omega⟩,by simp [intOf]⟩
   ·have b:(c != 0)=true:=by simp [e]
    go_wp2;go_ret;exact ⟨by simp [orC,e],rfl⟩
  ·have HC:Hid (c=0):=hc (by omega);clear hc hd;by_cases e:d=0
   ·have b:(d != 0)=false:=by simp [e]
    have HE:Hid (d=0):=e;clear e;go_wp2;exact ⟨⟨2,by omega,by go_num,fun _=>HC.out,fun _=>HE.out⟩,by simp [intOf]⟩
   ·have b:(d != 0)=true:=by simp [e]
    go_wp2;go_ret;exact ⟨by simp [orC,HC.out],rfl⟩
  ·have HC:Hid (c=0):=hc (by omega);have HD:Hid (d=0):=hd (by omega);clear hc hd;go_wp2;go_ret;exact ⟨by simp [orC,HC.out,HD.out],rfl⟩
theorem qHC {W w:World} (h:(∀ b o,b < W.heap.size->w.cell? ⟨b,o,none⟩=W.cell? ⟨b,o,none⟩)/\Below W.heap.size W w) (o:Obj):(∀ b i,b < W.heap.size->(w.alloc o).cell? ⟨b,i,none⟩=W.cell? ⟨b,i,none⟩)/\Below W.heap.size W (w.alloc o) :=
 qA9 h (zN)
theorem qJS:SS QY9:=by
 unfold SS;decide
theorem qKz {f:RoI->Int} (h:FN f):∃ gs,SG gs/\ofG gs=f:=by
 refine ⟨_,qKR h (rs:=QY9.filter (fun r=>decide (f r≠0))) ?_ (fun r=>?_)⟩
 ·exact List.Pairwise.sublist List.filter_sublist qJS
 ·rw [List.mem_filter];exact ⟨fun q=>of_decide_eq_true q.2,fun q=>⟨QM9 (h.ro r q),decide_eq_true q⟩⟩
theorem qKy {w:World} {b:Nat} {f:RoI->Int} (h:GM w b f):∃ gs,SG gs/\ofG gs=f:=qKz h.fn
