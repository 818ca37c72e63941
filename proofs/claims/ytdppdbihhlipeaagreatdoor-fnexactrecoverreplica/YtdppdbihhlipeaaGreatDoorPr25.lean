/- Contracts. -/
import Derived.Test.YtdppdbihhlipeaaGreatDoorPr12
import Derived.Lib.Overlaps
import Derived.Lib.AppendZerosOnto
import Derived.Laws.Externs
import Derived.Laws.IdiomCopy
import Derived.Laws.NewBlocks
import Derived.Shelf.Spec.SlicesInsert
import Derived.Shelf.Spec.SlicesInsertGrow
import Derived.LaidEql
import Derived.Stop.Asserts
import Derived.RowKitTokens
namespace Go.Proofs.YtdppdbihhlipeaaGreatDoor
set_option maxRecDepth 100000
set_option maxHeartbeats 8000000
open Go.RowKit
set_option linter.unusedVariables false
set_option linter.unusedSimpArgs false

section
open Go.RowKit Go.Shelf Go.Lib
theorem qN1 {P:Program} (w:World) (dT sT ty elem:TypeId) (k b o dLen dCap:Nat) (a:Addr) (sLen sCap:Nat) (cs:List Value)
  (hu:P.underlying dT=some (.slice elem)) (hs:(P.info? elem).map (·.size)=some k) (q:Nat) (hq:Nat.min sLen dLen=q) (hn:cs.length=q * k)
  (hsrc:∀ j v,cs[j]? = some v->w.cell? (a.add j)=some v) (hc:∀ j,j < cs.length->(w.cell? ⟨b,o+j,none⟩).isSome=true) (hf:∀ j,j < cs.length->w.frozen? ⟨b,o+j,none⟩=false) (h1:∀ v∈cs,v.oneCell'=true) :
  (Builtin.copy_ #[dT,sT] ty #[.slice (some ⟨b,o,none⟩) dLen dCap,.slice (some a) sLen sCap]).run P w = .ok (goInt q) (w.setCells b o cs):=by
 have hl:=run_loadCells_list (P:=P) w a cs hsrc;have hst:=run_storeCells_cells (P:=P) b o cs 0 w (by simpa using hc) (by simpa using hf) h1;cases hq':P.info? elem with
 | none=>simp [hq'] at hs
 | some i =>
  have hi:i.size=k:=by simpa [hq'] using hs
  simp [Builtin.copy_,run_underlying hu,Builtin.lenOf,Builtin.firstCells,sizeOf,typeInfo,hq',hi,hq,<- hn,hl,hst]
theorem qAe (g n c i vb:Nat) (cs vs:List Value) (w:World) (hi:i < n) (hn:n<=1000) (hroom:n+1<=c) (hc63:c<=9223372036854775807) (hvb:vb≠g) (hcl:cs.length=n * 4) (hvl:vs.length=4)
  (hcs:∀ j v,cs[j]? = some v->w.cell? ⟨g,j,none⟩=some v) (hsp:∀ j,j < (n+1) * 4->(w.cell? ⟨g,j,none⟩).isSome=true) (hfz:∀ j,j < (n+1) * 4->w.frozen? ⟨g,j,none⟩=false)
  (hvs:∀ j v,vs[j]? = some v->w.cell? ⟨vb,j,none⟩=some v) (h1c:∀ v∈cs,v.oneCell'=true) (h1v:∀ v∈vs,v.oneCell'=true)
  (tA tB:TypeId) (kA kB:Nat) (hsa:w.shape? vb=some (tA,kA)) (hsb:w.shape? g=some (tB,kB)) (hkB:kB≠0) (hfa:w.frozen? ⟨vb,0,none⟩=false) (hfe:w.frozen? ⟨vb,kA,none⟩=false) :
  Calls Tryz.prog 192 #[.slice (some ⟨g,0,none⟩) n c,.int .i64 (i:Int),.slice (some ⟨vb,0,none⟩) 1 1] w fun e w' =>
   e = .returned (.slice (some ⟨g,0,none⟩) (n+1) c)/\w'=(w.drew.setCells g ((i+1) * 4) (cs.drop (i * 4))).setCells g (i * 4) vs:=by
 obtain ⟨i0,hi0,hz0,hz1,hz2⟩:=info_parts Tryz.info103;have hsz:(Tryz.prog.info? 103).map (·.size)=some 4:=by rw [hi0];simp [hz1]
 have q2:¬ ((i:Int)=(n:Int)):=by omega
 have hin:(i:Int)<=(n:Int):=by omega
 have hi0':(0:Int)<=(i:Int):=by omega
 have hcn:(n:Int)+1<=(c:Int):=by omega
 have hci:¬ (c=i):=by omega
 have hci1:¬ (c=i+1):=by omega
 have hnc:(n:Int)<=(c:Int):=by omega
 have hii:(i:Int)+1<=(n:Int)+1:=by omega
 have hov:∀ (a:Addr) lb cb (W:World),a.block=g->W=w->(callFunc 211 #[.slice (some ⟨vb,0,none⟩) 1 1,.slice (some a) lb cb]).run Tryz.prog W = .ok (.value (.bool false)) W:=fun a lb cb W ha hW=>by
  subst hW
  rw [run_callFunc_extern Tryz.func211 (by kernel_rfl) (by kernel_rfl) (by kernel_rfl) (e:=Extern.SlicesOverlaps.overlaps #[34,34] #[4]) (by kernel_rfl),
   Lib.run_overlaps_apart W 34 4 103 Tryz.underlying34 4 Tryz.sizeOf103 ⟨vb,0,none⟩ a 1 1 lb cb (by rw [ha];exact hvb) tA tB kA kB hsa (by rw [ha];exact hsb) hkB hfa hfe]
  rfl
 have htn:((i:Int)+1).toNat=i+1:=by omega
 have mixed:Tryz.prog.follows Departure.mixedOrders=true:=by kernel_rfl
 have hw1:IntKind.i64.wrap ((i:Int)+1)=(i:Int)+1:=by rw [IntKind.wrap_i64];omega
 have hb1:(0:Int)<=(i:Int)+1:=by omega
 have hb3:(i:Int)<=(n:Int)+1:=by omega
 have hdl:(cs.drop (i * 4)).length=(n - i) * 4:=by rw [List.length_drop,hcl];omega
 have hcp1:∀ ty o1 o2 dl dc sl sc,o1=(i+1) * 4->o2=i * 4->Nat.min sl dl=n - i->(Builtin.copy_ #[34,34] ty #[.slice (some ⟨g,o1,none⟩) dl dc,.slice (some ⟨g,o2,none⟩) sl sc]).run Tryz.prog w.drew = .ok (goInt (n - i:Nat)) (w.drew.setCells g ((i+1) * 4) (cs.drop (i * 4))):=fun ty o1 o2 dl dc sl sc e1 e2 hmin=>by
  subst e1 e2
  exact qN1 w.drew _ _ ty 103 4 g ((i+1) * 4) dl dc ⟨g,i * 4,none⟩ sl sc (cs.drop (i * 4)) Tryz.underlying34 hsz (n - i) hmin hdl
   (fun j v hj=>by rw [Go.WideShapes.add_plain];exact hcs (i * 4+j) v (by rwa [List.getElem?_drop] at hj))
   (fun j hj=>hsp _ (by omega)) (fun j hj=>hfz _ (by omega)) (fun v hv=>h1c v (List.mem_of_mem_drop hv))
 obtain ⟨W1,hW1⟩:∃ W1,W1=w.drew.setCells g ((i+1) * 4) (cs.drop (i * 4)):=⟨_,rfl⟩
 have hsp1:∀ k,k < (n+1) * 4->(W1.cell? ⟨g,k,none⟩).isSome=true:=fun k hk=>by
  rw [hW1];exact isSome_setCells g (cs.drop (i * 4)) ((i+1) * 4) w.drew (fun j hj=>hsp ((i+1) * 4+j) (by omega)) k (hsp k hk)
 have hcp2:∀ (W:World),(∀ x,W.cell? x=W1.cell? x)->(∀ x,W.frozen? x=W1.frozen? x)->∀ ty o2 dl dc,o2=i * 4->Nat.min 1 dl=1->(Builtin.copy_ #[34,34] ty #[.slice (some ⟨g,o2,none⟩) dl dc,.slice (some ⟨vb,0,none⟩) 1 1]).run Tryz.prog W = .ok (goInt (1:Nat)) (W.setCells g (i * 4) vs):=fun W hWc hWf ty o2 dl dc e2 hmin=>by
  subst e2
  exact qN1 W _ _ ty 103 4 g (i * 4) dl dc ⟨vb,0,none⟩ 1 1 vs Tryz.underlying34 hsz 1 hmin (by rw [hvl])
   (fun j v hj=>by
    rw [Go.WideShapes.add_plain,Nat.zero_add,hWc,hW1,World.cell?_setCells_out g _ _ _ _ (fun h _=>absurd h hvb)];exact hvs j v hj)
   (fun j hj=>by rw [hWc];exact hsp1 _ (by omega)) (fun j hj=>by rw [hWf,hW1,World.frozen?_setCells];exact hfz _ (by omega)) h1v
 rw [<- hW1] at hcp1;have m1:Nat.min (n+1 - i) (n - i)=n - i:=by simp only [Nat.min_def];split <;> omega
 have m2:Nat.min 1 (n+1 - i)=1:=by simp only [Nat.min_def];split <;> omega
 go_enter Tryz.func192,Tryz.ntmps192;go_wp2_with fail
 go_region_law_o (refine step_copy_runI rfl _ _ 34 34 rfl _ _ (by simp [Act.eval,Act.put]) (by simp [Act.eval,Act.put]) (hcp1 _ _ _ _ _ _ _ (by first | rfl | omega) (by first | rfl | omega) (by first | exact m1 | (simp only [Nat.min_def];split <;> omega))) ?_)
 go_wp2_with (at_builtin;refine wpList_copy_runI _ rfl _ _ 34 34 rfl _ _ rfl rfl (hcp2 _ (fun _=>rfl) (fun _=>rfl) _ _ _ _ (by first | rfl | omega) (by first | exact m2 | (simp only [Nat.min_def];split <;> omega))) ?_)
 go_ret;first | exact ⟨rfl,rfl⟩ | exact ⟨rfl,by rw [hW1]⟩
end

section
open Go.RowKit Go.Shelf Go.Lib
def QV5:List Value->Nat->List Value->List Value
 | fs,_,[]=>fs
 | fs,o,v::r=>QV5 (fs.set o v) (o+1) r
theorem qY3:∀ (vs a b c:List Value),b.length=vs.length->QV5 (a++b++c) a.length vs=a++vs++c
 | [],a,b,c,h=>by
  have : b=[]:=List.eq_nil_of_length_eq_zero h;simp [QV5,this]
 | v::r,a,[],c,h=>by simp at h
 | v::r,a,b0::b,c,h=>by
  have e1:(a++b0::b++c).set a.length v=(a++[v])++b++c:=by
   rw [List.append_assoc,List.set_append_right _ _ (Nat.le_refl _),Nat.sub_self];simp
  have e2:=qY3 r (a++[v]) b c (by simpa using h);rw [QV5,e1,show a.length+1=(a++[v]).length by simp,e2];simp
theorem qW5 (vs:List Value):∀ (w:World) (B g n cap:Nat) (fs:List Value) (o:Nat),w.ownsRow B 103 4 (.slice (some ⟨g,0,none⟩) n cap) n fs ->
  (w.setCells g o vs).ownsRow B 103 4 (.slice (some ⟨g,0,none⟩) n cap) n (QV5 fs o vs)/\w.grownBy (w.setCells g o vs) (some g):=by
 induction vs with
 | nil=>intro w B g n cap fs o h;exact ⟨h,qR1 _ _⟩
 | cons v r ih =>
  intro w B g n cap fs o h;have h1:=h.stored o v;have h2:=ih _ B g n cap _ (o+1) h1.1;exact ⟨h2.1,qM2 h1.2 h2.2⟩
theorem qT2 (all:List LkI) (i:Nat) (hi:i<=all.length):qA3 all=qA3 (all.take i)++qA3 (all.drop i)/\(qA3 (all.take i)).length=i * 4/\(qA3 (all.drop i)).length=(all.length - i) * 4:=by
 refine ⟨by rw [<- qQ6,List.take_append_drop],?_,?_⟩
 ·rw [qF4,List.length_take,Nat.min_eq_left hi]
 ·rw [qF4,List.length_drop]
theorem qFM (all:List LkI) (i:Nat) (hi:i<=all.length):(qA3 all).take (i * 4)=qA3 (all.take i)/\(qA3 all).drop (i * 4)=qA3 (all.drop i):=by
 obtain ⟨e,l1,l2⟩:=qT2 all i hi;rw [e];exact ⟨by rw [List.take_append_of_le_length (by omega),List.take_of_length_le (by omega)],by rw [List.drop_append_of_le_length (by omega),List.drop_of_length_le (by omega),List.nil_append]⟩
def vLk (x:LkI):List Value:=[.int .i64 x.e,.int .i64 x.c,.int .i64 x.p,.int .i64 x.f]
theorem QU0 (all:List LkI) (i:Nat) (x:LkI):qA3 (all.take i++x::all.drop i)=qA3 (all.take i)++vLk x++qA3 (all.drop i):=by
 rw [qQ6];simp [qA3,vLk]
theorem qGr (all:List LkI) (i:Nat) (x:LkI) (hi:i<=all.length) (ys:List Value) (hy:ys.length=4) :
  QV5 (QV5 (qA3 all++ys) ((i+1) * 4) (qA3 (all.drop i))) (i * 4) (vLk x)=qA3 (all.take i++x::all.drop i):=by
 obtain ⟨e,l1,l2⟩:=qT2 all i hi;have hL:(qA3 all++ys).length=(all.length+1) * 4:=by rw [List.length_append,qF4,hy];omega
 have s1:=qY3 (qA3 (all.drop i)) ((qA3 all++ys).take ((i+1) * 4)) ((qA3 all++ys).drop ((i+1) * 4)) [] (by rw [List.length_drop,hL,l2];omega);rw [List.append_nil,List.append_nil,List.take_append_drop,List.length_take,hL,Nat.min_eq_left (by omega)] at s1;rw [s1]
 have t1:(qA3 all++ys).take ((i+1) * 4)=qA3 (all.take i)++((qA3 all++ys).take ((i+1) * 4)).drop (i * 4):=by
  have h:=List.take_append_drop (i * 4) ((qA3 all++ys).take ((i+1) * 4));rw [List.take_take,Nat.min_eq_left (by omega),e,List.append_assoc,List.take_append_of_le_length (by omega),List.take_of_length_le (by omega),<- List.append_assoc,<- e] at h;exact h.symm
 have s2:=qY3 (vLk x) (qA3 (all.take i)) (((qA3 all++ys).take ((i+1) * 4)).drop (i * 4)) (qA3 (all.drop i)) (by rw [List.length_drop,List.length_take,hL,Nat.min_eq_left (by omega)];simp [vLk];omega);rw [<- t1,l1] at s2;rw [s2,QU0]
theorem qIr (all:List LkI) (i:Nat) (x:LkI) (hi:i<=all.length) (zs:List Value) (hz:zs.length=(all.length+1 - i) * 4) :
  QV5 (QV5 (qA3 (all.take i)++zs) (i * 4) (vLk x)) ((i+1) * 4) (qA3 (all.drop i))=qA3 (all.take i++x::all.drop i):=by
 obtain ⟨e,l1,l2⟩:=qT2 all i hi;have s1:=qY3 (vLk x) (qA3 (all.take i)) (zs.take 4) (zs.drop 4) (by rw [List.length_take];simp [vLk];omega);rw [List.append_assoc,List.take_append_drop,l1] at s1;rw [s1];have s2:=qY3 (qA3 (all.drop i)) (qA3 (all.take i)++vLk x) (zs.drop 4) [] (by rw [List.length_drop,l2,hz];omega);rw [List.append_nil,List.append_nil,List.length_append,l1,show (vLk x).length=4 from rfl,show i * 4+4=(i+1) * 4 by omega] at s2;rw [s2,QU0]
theorem QR9 {w:World} {vb:Nat} {x:LkI} (h:QE9 w vb 0 x):∀ j v,(vLk x)[j]? = some v->w.cell? ⟨vb,j,none⟩=some v:=by
 intro j v hj;obtain ⟨h0,h1,h2,h3⟩:=h;match j with
 | 0=>simp [vLk] at hj;subst hj;exact h0
 | 1=>simp [vLk] at hj;subst hj;exact h1
 | 2=>simp [vLk] at hj;subst hj;exact h2
 | 3=>simp [vLk] at hj;subst hj;exact h3
 | k+4=>simp [vLk] at hj
theorem QF0 (x:LkI):∀ v∈vLk x,v.oneCell'=true:=by
 intro v hv;simp [vLk] at hv;rcases hv with e | e | e | e <;> subst e <;> rfl
theorem qCR (g n c i vb:Nat) (cs vs:List Value) (w:World) (hi:i < n) (hn:n<=1000) (hnc:n<=c) (hroom:c < n+1) (hcl:cs.length=n * 4) (hvl:vs.length=4)
  (hcs:∀ j v,cs[j]? = some v->w.cell? ⟨g,j,none⟩=some v)
  (hvs:∀ j v,vs[j]? = some v->w.cell? ⟨vb,j,none⟩=some v) (h1c:∀ v∈cs,v.oneCell'=true) (h1v:∀ v∈vs,v.oneCell'=true) :
  Calls Tryz.prog 192 #[.slice (some ⟨g,0,none⟩) n c,.int .i64 (i:Int),.slice (some ⟨vb,0,none⟩) 1 1] w fun e w' =>
   e = .returned (.slice (some ⟨w.heap.size,0,none⟩) (n+1) (grownCap w (n+1) c 103)) /\
   w'=(((w.alloc (.cells ((cs.take (i * 4)).toArray++Builtin.zeroCells (Value.agg #[.int .i64 0,.int .i64 0,.int .i64 0,.int .i64 0]).cells (n+1 - i)++Builtin.zeroCells (Value.agg #[.int .i64 0,.int .i64 0,.int .i64 0,.int .i64 0]).cells (grownCap w (n+1) c 103 - (n+1))) 103)).drew.setCells w.heap.size (i * 4) vs).drew).setCells w.heap.size ((i+1) * 4) (cs.drop (i * 4)):=by
 obtain ⟨i0,hi0,hz0,hzs,hzb⟩:=info_parts Tryz.info103;have hsz:(Tryz.prog.info? 103).map (·.size)=some 4:=by rw [hi0];simp [hzs]
 have mixed:Tryz.prog.follows Departure.mixedOrders=true:=by kernel_rfl
 have hz2:¬ ((i:Int)=(n:Int)):=by omega
 have hz3:(c:Int) < (n:Int)+1:=by omega
 have hbw:g < w.heap.size:=block_lt_of_cell (hcs 0 _ (List.getElem?_eq_getElem (by omega)));have hvw:vb < w.heap.size:=block_lt_of_cell (hvs 0 _ (List.getElem?_eq_getElem (by omega)));have hkk:(n:Int)+1 - (i:Int)=((n+1 - i:Nat):Int):=by omega
 have hik:i+(n+1 - i)=n+1:=by omega
 have hold:(Builtin.firstCells i0.size i (.slice (some ⟨g,0,none⟩) i c)).run Tryz.prog w.drew = .ok (cs.take (i * 4)).toArray w.drew:=by
  rw [hzs]
  exact run_firstCells_some w.drew 4 i ⟨g,0,none⟩ i c (cs.take (i * 4)) (by rw [List.length_take];omega) (fun j v hj=>by
   rw [Go.WideShapes.add_plain,Nat.zero_add];rw [List.getElem?_take] at hj;split at hj
   ·exact hcs j v hj
   ·cases hj)
 have hrz:∀ ty,(Builtin.append_ #[34,3] ty #[.slice (some ⟨g,0,none⟩) i c,.int .i64 ((n:Int)+1 - (i:Int))]).run Tryz.prog w =
   .ok (.slice (some ⟨w.heap.size,0,none⟩) (n+1) (grownCap w (n+1) c 103)) (w.drew.alloc (.cells ((cs.take (i * 4)).toArray++Builtin.zeroCells (Value.agg #[.int .i64 0,.int .i64 0,.int .i64 0,.int .i64 0]).cells (n+1 - i)++Builtin.zeroCells (Value.agg #[.int .i64 0,.int .i64 0,.int .i64 0,.int .i64 0]).cells (grownCap w (n+1) c 103 - (n+1))) 103)):=fun ty=>by
  have h:=Lib.run_append_grow_zeros w 34 3 ty 103 i0 _ .i64 .i64 Tryz.underlying34 (by kernel_rfl) hi0 hz0 (some ⟨g,0,none⟩) i c (cs.take (i * 4)) hold (n+1 - i) (by omega) (by omega) (by omega) (by omega) (by rw [hzb];omega) (by rw [hzb,hik];exact growslice_fits hroom (by omega));rw [hik] at h;rw [hkk];exact h
 obtain ⟨G,hG⟩:∃ G,G=grownCap w (n+1) c 103:=⟨_,rfl⟩;obtain ⟨ROW,hROW⟩:∃ ROW:Array Value,ROW=(cs.take (i * 4)).toArray++Builtin.zeroCells (Value.agg #[.int .i64 0,.int .i64 0,.int .i64 0,.int .i64 0]).cells (n+1 - i)++Builtin.zeroCells (Value.agg #[.int .i64 0,.int .i64 0,.int .i64 0,.int .i64 0]).cells (G - (n+1)):=⟨_,rfl⟩;rw [<- hG] at hrz ⊢
 rw [<- hROW] at hrz ⊢
 have hGn:n+1<=G:=by rw [hG];exact grownCap_ge w _ _ _
 have hRl:(n+1) * 4<=ROW.size:=by
  rw [hROW];simp [Builtin.zeroCells,Value.cells];omega
 obtain ⟨W1,hW1⟩:∃ W1,W1=w.drew.alloc (.cells ROW 103):=⟨_,rfl⟩;rw [<- hW1] at hrz
 have hN:∀ j,j < (n+1) * 4->(W1.cell? ⟨w.heap.size,j,none⟩).isSome=true:=fun j hj=>by
  rw [hW1,World.cell?_alloc_at (w:=w.drew) ROW _ w.heap.size j rfl,Array.getElem?_eq_getElem (by omega)];rfl
 have hNf:∀ j,W1.frozen? ⟨w.heap.size,j,none⟩=false:=fun j=>by rw [hW1];exact World.frozen?_alloc_at (w:=w.drew) ROW _ w.heap.size j rfl
 have hOb:∀ j v,w.cell? ⟨g,j,none⟩=some v->W1.cell? ⟨g,j,none⟩=some v:=fun j v h=>by rw [hW1,World.cell?_alloc_past (w:=w.drew) _ g j hbw];exact h
 have hOv:∀ j v,w.cell? ⟨vb,j,none⟩=some v->W1.cell? ⟨vb,j,none⟩=some v:=fun j v h=>by rw [hW1,World.cell?_alloc_past (w:=w.drew) _ vb j hvw];exact h
 have hcpA:∀ (W:World),(∀ x,W.cell? x=W1.cell? x)->(∀ x,W.frozen? x=W1.frozen? x)->∀ ty o1 dl dc,o1=i * 4->dl=n+1 - i->(Builtin.copy_ #[34,34] ty #[.slice (some ⟨w.heap.size,o1,none⟩) dl dc,.slice (some ⟨vb,0,none⟩) 1 1]).run Tryz.prog W = .ok (goInt (1:Nat)) (W.setCells w.heap.size (i * 4) vs):=fun W hWc hWf ty o1 dl dc e1 e2=>by
  subst e1 e2
  exact qN1 W _ _ ty 103 4 w.heap.size (i * 4) (n+1 - i) dc ⟨vb,0,none⟩ 1 1 vs Tryz.underlying34 hsz 1 (by simp only [Nat.min_def];split <;> omega) (by rw [hvl])
   (fun j v hj=>by rw [Go.WideShapes.add_plain,Nat.zero_add,hWc];exact hOv _ v (hvs j v hj))
   (fun j hj=>by rw [hWc];exact hN _ (by omega)) (fun j hj=>by rw [hWf];exact hNf _) h1v
 have hG63:G<=9223372036854775807:=by
  have:=grownCap_le_maxLen w (n+1) c 103 (by unfold maxLen;omega);rw [<- hG] at this;unfold maxLen at this;omega
 have hGi:¬ (G=i):=by omega
 have hGim:¬ (G=i+1):=by omega
 have hci:¬ (c=i):=by omega
 have hbN:g≠w.heap.size:=by omega
 have hdl:(cs.drop (i * 4)).length=(n - i) * 4:=by rw [List.length_drop,hcl];omega
 have hcpB:∀ (W:World),(∀ x,W.cell? x=(W1.setCells w.heap.size (i * 4) vs).cell? x)->(∀ x,W.frozen? x=(W1.setCells w.heap.size (i * 4) vs).frozen? x)->∀ ty o1 o2 dl dc sl sc,o1=(i+1) * 4->o2=i * 4->dl=n - i->sl=n - i->(Builtin.copy_ #[34,34] ty #[.slice (some ⟨w.heap.size,o1,none⟩) dl dc,.slice (some ⟨g,o2,none⟩) sl sc]).run Tryz.prog W = .ok (goInt (n - i:Nat)) (W.setCells w.heap.size ((i+1) * 4) (cs.drop (i * 4))):=fun W hWc hWf ty o1 o2 dl dc sl sc e1 e2 e3 e4=>by
  subst e1 e2 e3 e4
  exact qN1 W _ _ ty 103 4 w.heap.size ((i+1) * 4) (n - i) dc ⟨g,i * 4,none⟩ (n - i) sc (cs.drop (i * 4)) Tryz.underlying34 hsz (n - i) (by simp only [Nat.min_def];split <;> omega) hdl
   (fun j v hj=>by
    rw [Go.WideShapes.add_plain,hWc,World.cell?_setCells_out _ _ _ _ _ (fun h _=>absurd h hbN)];exact hOb _ v (hcs (i * 4+j) v (by rwa [List.getElem?_drop] at hj)))
   (fun j hj=>by rw [hWc];exact isSome_setCells _ _ _ _ (fun t ht=>hN _ (by omega)) _ (hN _ (by omega)))
   (fun j hj=>by rw [hWf,World.frozen?_setCells];exact hNf _) (fun v hv=>h1c v (List.mem_of_mem_drop hv))
 subst hW1;have hE1:∀ x,((w.alloc (.cells ROW 103)).drew).cell? x=(w.drew.alloc (.cells ROW 103)).cell? x:=fun x=>rfl
 have hE2:∀ x,((w.alloc (.cells ROW 103)).drew).frozen? x=(w.drew.alloc (.cells ROW 103)).frozen? x:=fun x=>rfl
 have hF1:∀ x,(((w.alloc (.cells ROW 103)).drew.setCells w.heap.size (i * 4) vs).drew).cell? x=((w.drew.alloc (.cells ROW 103)).setCells w.heap.size (i * 4) vs).cell? x:=fun x=>rfl
 have hF2:∀ x,(((w.alloc (.cells ROW 103)).drew.setCells w.heap.size (i * 4) vs).drew).frozen? x=((w.drew.alloc (.cells ROW 103)).setCells w.heap.size (i * 4) vs).frozen? x:=fun x=>rfl
 have hw1:IntKind.i64.wrap ((i:Int)+1)=(i:Int)+1:=by rw [IntKind.wrap_i64];omega
 have hb1:(0:Int)<=(i:Int)+1:=by omega
 have hin:i<=n:=by omega
 have htn:((i:Int)+1).toNat=i+1:=by omega
 have hb3:(i:Int)<=(n:Int):=by omega
 clear hkk hik hold hROW hG hRl;go_enter Tryz.func192,Tryz.ntmps192
 go_wp2_with (first
  | (at_builtin;refine Lib.wpList_append_run _ rfl _ _ _ _ rfl _ _ rfl rfl _ _ (hrz _) ?_)
  | (at_builtin;refine wpList_copy_runI _ rfl _ _ 34 34 rfl _ _ rfl rfl (hcpA _ hE1 hE2 _ _ _ _ (by first | rfl | omega) (by first | rfl | omega)) ?_))
 go_region_law_o (refine step_copy_runI rfl _ _ 34 34 rfl (.slice (some ⟨w.heap.size,(i+1) * 4,none⟩) (n - i) (G - (i+1))) (.slice (some ⟨g,i * 4,none⟩) (n - i) (c - i)) (by simp [Act.eval,Act.put]) (by simp [Act.eval,Act.put]) (hcpB _ hF1 hF2 3 _ _ _ (G - (i+1)) _ (c - i) rfl rfl rfl rfl) ?_)
 go_wp2;go_ret;exact ⟨rfl,rfl⟩
end

section
open Go.RowKit Go.Shelf Go.Lib
def qNF (B:Nat) (row:Option Nat) (L:List LkI) (w:World) (e:Ending) (w':World):Prop:=∃ g' cap':Nat,e = .returned (.slice (some ⟨g',0,none⟩) L.length cap')/\qA7 w' B (.slice (some ⟨g',0,none⟩) L.length cap') L/\w.grownBy w' row
theorem qFC (B:Nat) (a:Option Addr) (n cap vb:Nat) (all:List LkI) (x:LkI) (w:World) (hl:n=all.length) (hn:n<=1000) (hB:B<=w.heap.size) (h:qA7 w B (.slice a n cap) all) (hx:QE9 w vb 0 x) :
  Calls Tryz.prog 192 #[.slice a n cap,.int .i64 (n:Int),.slice (some ⟨vb,0,none⟩) 1 1] w (qNF B (Value.slice a n cap).ownBlock (all++[x]) w):=by
 obtain ⟨i0,hi0,hz0,hz1,hz2⟩:=info_parts Tryz.info103;have HO:Hid (w.ownsRow B 103 4 (.slice a n cap) n (qA3 all)):=by have h':=h;unfold qA7 at h';rw [<- hl] at h';exact h'
 have HL:Hid (n=all.length):=hl
 have hcn:n<=cap:=by
  rcases h.form with ⟨e,e2⟩ | ⟨g,c2,e,_,_,k,_⟩
  ·cases e;exact Nat.zero_le _
  ·cases e;rw [hl];exact k
 have hnone:a=none->cap=0/\n=0:=fun e=>by
  rcases h.form with ⟨e,e2⟩ | ⟨g,c2,e',_,_,k,_⟩
  ·cases e;exact ⟨rfl,rfl⟩
  ·cases e';cases e
 have hc63:cap<=9223372036854775807:=by
  rcases h.2 with ⟨e,e2⟩ | ⟨g,c2,cur,e,_,_,_,k,_⟩
  ·cases e;omega
  ·cases e;unfold maxLen at k;omega
 have hn':(n:Int)<=1000:=by omega
 have mixed:Tryz.prog.follows Departure.mixedOrders=true:=by kernel_rfl
 clear h hl;cases a with
 | none =>
  obtain ⟨e1,e2⟩:=hnone rfl;subst e1 e2;go_enter Tryz.func192,Tryz.ntmps192;go_wp2_with (at_builtin;refine wpList_append_own _ rfl _ _ 34 rfl B 103 i0 (.agg #[.int .i64 0,.int .i64 0,.int .i64 0,.int .i64 0]) 4 32 Tryz.underlying34 hi0 hz0 hz1 hz2 rfl (by decide) _ 0 (qA3 all) rfl HO.out ⟨vb,0,none⟩ 1 1 (vLk x) rfl rfl (fun j u hj=>by rw [Go.WideShapes.add_plain,Nat.zero_add];exact QR9 hx j u hj) (QF0 x) (by unfold maxLen;omega) (by omega) hB ?_)
  intro v' w' hO hG hV;have hO':qA7 w' B v' (all++[x]):=qU9 (by rw [<- HL.out];exact hO);obtain ⟨g',cap',e'⟩:=hO'.shape hV;subst e';go_wp2;go_ret;exact ⟨g',cap',rfl,hO',hG⟩
 | some ad =>
  by_cases hcz:cap=n
  ·subst hcz;go_enter Tryz.func192,Tryz.ntmps192;go_wp2_with (at_builtin;refine wpList_append_own _ rfl _ _ 34 rfl B 103 i0 (.agg #[.int .i64 0,.int .i64 0,.int .i64 0,.int .i64 0]) 4 32 Tryz.underlying34 hi0 hz0 hz1 hz2 rfl (by decide) _ cap (qA3 all) rfl HO.out ⟨vb,0,none⟩ 1 1 (vLk x) rfl rfl (fun j u hj=>by rw [Go.WideShapes.add_plain,Nat.zero_add];exact QR9 hx j u hj) (QF0 x) (by unfold maxLen;omega) (by omega) hB ?_)
   intro v' w' hO hG hV;have hO':qA7 w' B v' (all++[x]):=qU9 (by rw [<- HL.out];exact hO);obtain ⟨g',cap',e'⟩:=hO'.shape hV;subst e';go_wp2;go_ret;exact ⟨g',cap',rfl,hO',hG⟩
  ·go_enter Tryz.func192,Tryz.ntmps192;go_wp2_with (at_builtin;refine wpList_append_own _ rfl _ _ 34 rfl B 103 i0 (.agg #[.int .i64 0,.int .i64 0,.int .i64 0,.int .i64 0]) 4 32 Tryz.underlying34 hi0 hz0 hz1 hz2 rfl (by decide) _ n (qA3 all) rfl HO.out ⟨vb,0,none⟩ 1 1 (vLk x) rfl rfl (fun j u hj=>by rw [Go.WideShapes.add_plain,Nat.zero_add];exact QR9 hx j u hj) (QF0 x) (by unfold maxLen;omega) (by omega) hB ?_)
   intro v' w' hO hG hV;have hO':qA7 w' B v' (all++[x]):=qU9 (by rw [<- HL.out];exact hO);obtain ⟨g',cap',e'⟩:=hO'.shape hV;subst e';go_wp2;go_ret;exact ⟨g',cap',rfl,hO',hG⟩
theorem qIb {w:World} {B g n cap:Nat} {xs:List Value} (h:w.ownsRow B 103 4 (.slice (some ⟨g,0,none⟩) n cap) n xs) (hc:n+1<=cap):∃ ys,ys.length=4/\w.ownsRow B 103 4 (.slice (some ⟨g,0,none⟩) (n+1) cap) (n+1) (xs++ys)/\(∀ j,j < (n+1) * 4->(w.cell? ⟨g,j,none⟩).isSome=true)/\w.shape? g=some (103,cap * 4):=by
 rcases h.2 with ⟨e0,_⟩ | ⟨g',cap',cur,e0,hb,hg,hn,hm,hs,ht⟩
 ·cases e0
 ·injection e0 with e1 _ e3
  injection e1 with e1
  injection e1 with e1
  subst e1;subst e3;refine ⟨(cur.toList.drop (n * 4)).take 4,?_,⟨?_,.inr ⟨g,cap,cur,rfl,hb,hg,hc,hm,hs,?_⟩⟩,?_,?_⟩
  ·rw [List.length_take,List.length_drop,Array.length_toList,hs];omega
  ·rw [List.length_append,h.1,List.length_take,List.length_drop,Array.length_toList,hs];omega
  ·rw [<- ht,Nat.add_mul,Nat.one_mul,List.take_add]
  ·intro j hj;simp [World.cell?,hg];omega
  ·simp [World.shape?,hg,hs]
theorem qJk {w:World} {B g n cap:Nat} {xs:List Value} (h:w.ownsRow B 103 4 (.slice (some ⟨g,0,none⟩) n cap) n xs):∀ j v,xs[j]? = some v->w.cell? ⟨g,j,none⟩=some v:=fun j v hj=>by
 have hk:j < xs.length:=by
  by_cases q:j < xs.length
  ·exact q
  ·rw [List.getElem?_eq_none (by omega)] at hj;cases hj
 rw [h.cellAt j (by have:=h.1;omega)];exact hj
theorem qFD (B:Nat) (a:Option Addr) (n cap i vb:Nat) (all:List LkI) (x:LkI) (w:World) (hl:n=all.length) (hi:i<=n) (hn:n<=1000) (hB:B<=w.heap.size) (h:qA7 w B (.slice a n cap) all) (hx:QE9 w vb 0 x)
  (tA:TypeId) (hsa:w.shape? vb=some (tA,4)) (hf:∀ j,w.frozen? ⟨vb,j,none⟩=false) (hne:a≠some ⟨vb,0,none⟩) :
  Calls Tryz.prog 192 #[.slice a n cap,.int .i64 (i:Int),.slice (some ⟨vb,0,none⟩) 1 1] w (qNF B (Value.slice a n cap).ownBlock (all.take i++x::all.drop i) w):=by
 by_cases hin:i=n
 ·subst hin;have e1:all.take i++x::all.drop i=all++[x]:=by rw [List.take_of_length_le (by omega),List.drop_of_length_le (by omega)]
  rw [e1];exact qFC B a i cap vb all x w hl hn hB h hx
 ·have hlt:i < n:=by omega
  have hO:w.ownsRow B 103 4 (.slice a n cap) n (qA3 all):=by have h':=h;unfold qA7 at h';rw [<- hl] at h';exact h'
  obtain ⟨g,c2,e,hBg,hgw,hcc,_⟩:∃ g c2,Value.slice a n cap = .slice (some ⟨g,0,none⟩) n c2/\B<=g/\g < w.heap.size/\n<=c2/\c2<=maxLen:=by
   rcases hO.2 with ⟨e,e2⟩ | ⟨g,c2,cur,e,k1,k2,k3,k4,_⟩
   ·omega
   ·exact ⟨g,c2,e,k1,(Array.getElem?_eq_some_iff.1 k2).1,k3,k4⟩
  cases e;have hvg:vb≠g:=fun e=>hne (by rw [e])
  have hlen:(all.take i++x::all.drop i).length=n+1:=by simp [hl];omega
  have hcut:=qFM all i (by omega);by_cases hr:n+1<=cap
  ·obtain ⟨ys,hy,hO2,hsp,hsh⟩:=qIb hO hr;refine (qAe g n cap i vb (qA3 all) (vLk x) w hlt hn hr (by unfold maxLen at *;omega) hvg (by rw [qF4,hl]) rfl (qJk hO) hsp (fun j _=>hO.frozenAt j) (QR9 hx) (qO4 _) (QF0 x) tA 103 4 (cap * 4) hsa hsh (by omega) (hf 0) (hf 4)).mono ?_;rintro e w' ⟨rfl,rfl⟩;have k1:=qW5 ((qA3 all).drop (i * 4)) w.drew B g (n+1) cap (qA3 all++ys) ((i+1) * 4) hO2.drew;have k2:=qW5 (vLk x) _ B g (n+1) cap _ (i * 4) k1.1;have k3:=k2.1;rw [hcut.2,qGr all i x (by omega) ys hy] at k3;refine ⟨g,cap,by rw [hlen],?_,?_⟩
   ·unfold qA7;rw [hlen,hcut.2];exact k3
   ·exact qM2 (a:=w) (b:=w.drew) ⟨rfl,rfl,rfl,Nat.le_refl _,fun _ _ _=>rfl⟩ (qM2 k1.2 k2.2)
  ·refine (qCR g n cap i vb (qA3 all) (vLk x) w hlt hn hcc (by omega) (by rw [qF4,hl]) rfl (qJk hO) (QR9 hx) (qO4 _) (QF0 x)).mono ?_;rintro e w' ⟨rfl,rfl⟩;obtain ⟨G,hG⟩:∃ G,G=grownCap w (n+1) cap 103:=⟨_,rfl⟩;have hGn:n+1<=G:=by rw [hG];exact grownCap_ge w _ _ _
   have hGm:G<=maxLen:=by rw [hG];exact grownCap_le_maxLen w (n+1) cap 103 (by unfold maxLen;omega)
   rw [<- hG];obtain ⟨zs,hzs⟩:∃ zs,zs=Builtin.zeroCells (Value.agg #[.int .i64 0,.int .i64 0,.int .i64 0,.int .i64 0]).cells (n+1 - i):=⟨_,rfl⟩;obtain ⟨us,hus⟩:∃ us,us=Builtin.zeroCells (Value.agg #[.int .i64 0,.int .i64 0,.int .i64 0,.int .i64 0]).cells (G - (n+1)):=⟨_,rfl⟩;have hzl:zs.size=(n+1 - i) * 4:=by rw [hzs];simp [Builtin.zeroCells,Value.cells]
   have hul:us.size=(G - (n+1)) * 4:=by rw [hus];simp [Builtin.zeroCells,Value.cells]
   rw [<- hzs,<- hus,hcut.1,hcut.2];have htl:(qA3 (all.take i)).length=i * 4:=(qT2 all i (by omega)).2.1
   have hO2:(w.alloc (.cells ((qA3 (all.take i)).toArray++zs++us) 103)).ownsRow B 103 4 (.slice (some ⟨w.heap.size,0,none⟩) (n+1) G) (n+1) (qA3 (all.take i)++zs.toList):=by
    refine ⟨by rw [List.length_append,htl,Array.length_toList,hzl];omega,.inr ⟨w.heap.size,G,(qA3 (all.take i)).toArray++zs++us,rfl,hB,heap_alloc_new w _,hGn,hGm,?_,?_⟩⟩
    ·rw [Array.size_append,Array.size_append,hzl,hul,List.size_toArray,htl];omega
    ·rw [Array.toList_append,Array.toList_append,List.take_append_of_le_length (by rw [List.length_append,Array.length_toList,Array.length_toList,hzl,List.size_toArray,htl];omega),List.take_of_length_le (by rw [List.length_append,Array.length_toList,Array.length_toList,hzl,List.size_toArray,htl];omega)]
   have k0:=World.grownBy_alloc w (.cells ((qA3 (all.take i)).toArray++zs++us) 103) (some g);obtain ⟨Z,hZ⟩:∃ Z,Z=w.alloc (.cells ((qA3 (all.take i)).toArray++zs++us) 103):=⟨_,rfl⟩;rw [<- hZ] at hO2 k0 ⊢
   have k1:=qW5 (vLk x) Z.drew B w.heap.size (n+1) G _ (i * 4) hO2.drew;obtain ⟨Z1,hZ1⟩:∃ Z1,Z1=Z.drew.setCells w.heap.size (i * 4) (vLk x):=⟨_,rfl⟩;rw [<- hZ1] at k1 ⊢
   have k2:=qW5 (qA3 (all.drop i)) Z1.drew B w.heap.size (n+1) G _ ((i+1) * 4) k1.1.drew;obtain ⟨Z2,hZ2⟩:∃ Z2,Z2=Z1.drew.setCells w.heap.size ((i+1) * 4) (qA3 (all.drop i)):=⟨_,rfl⟩;rw [<- hZ2] at k2 ⊢
   have k3:=k2.1;rw [qIr all i x (by omega) zs.toList (by rw [Array.length_toList,hzl,hl])] at k3;refine ⟨w.heap.size,G,by rw [hlen],?_,?_⟩
   ·unfold qA7;rw [hlen];exact k3
   ·refine ⟨k2.2.os.trans (k1.2.os.trans k0.os),k2.2.tape.trans (k1.2.tape.trans k0.tape),k2.2.output.trans (k1.2.output.trans k0.output),?_,fun k hk hne=>?_⟩
    ·exact Nat.le_trans k0.size (Nat.le_trans k1.2.size k2.2.size)
    ·have hkw:some k≠some w.heap.size:=fun e=>by injection e;omega
     have q0:=k0.block k hk hne;have q1:=k1.2.block k (Nat.lt_of_lt_of_le hk k0.size) hkw;have q2:=k2.2.block k (Nat.lt_of_lt_of_le hk (Nat.le_trans k0.size k1.2.size)) hkw;exact q2.trans (q1.trans q0)
def qNK (L:List LkI) (w:World) (e:Ending) (w':World):Prop:=∃ (a':Option Addr) (cap':Nat),e = .returned (.slice a' L.length cap')/\qA7 w' w.heap.size (.slice a' L.length cap') L/\Below w.heap.size w w'
end

section
open Go.RowKit Go.Extern.Stop Go.Stop Go.Extern
theorem Tryz.valueOfP (t:Addr) (w:World):(ReflectliteValue.unpack (.iface 268 (.pointer (some t)))).run Tryz.prog w
  = .ok (.agg #[.pointer (some ⟨3,268,none⟩),.pointer (some ⟨w.heap.size,0,none⟩),.int .u64 150]) (w.alloc (.cells #[.pointer (some t)] 268)):=by kernel_rfl
theorem Tryz.typeP (a:Addr) (w:World):(ReflectliteValue.methodAny (ReflectliteValue.valueError "reflectlite.Value.Type" 0) (fun t _ _ _=>ReflectliteType.toType t) #[.agg #[.pointer (some ⟨3,268,none⟩),.pointer (some a),.int .u64 150]]).run Tryz.prog w
  = .ok (.iface 320 (.agg #[.pointer (some ⟨3,268,none⟩)])) w:=by kernel_rfl
theorem Tryz.methodKind (h:Value) (w:World):(Go.method 473 320 (.agg #[h]) "Kind").run Tryz.prog w = .ok (247,h) w:=by kernel_rfl
theorem Tryz.kindP (w:World):((ReflectliteType.abiMethod fun t=>(fun a:Nat=>Value.int IntKind.u8 (a:Int)) <$> Rtype.kind t) #[.pointer (some ⟨3,268,none⟩)]).run Tryz.prog w = .ok (.int .u8 22) w:=by kernel_rfl
theorem Tryz.kindT (w:World):((ReflectliteType.abiMethod fun t=>(fun a:Nat=>Value.int IntKind.u8 (a:Int)) <$> Rtype.kind t) #[.pointer (some ⟨3,264,none⟩)]).run Tryz.prog w = .ok (.int .u8 25) w:=by kernel_rfl
theorem rlm (z:Sem Value) (f:TypeId->Addr->Nat->Nat->Sem Value) (v:Value) :
  ReflectliteValue.method z f #[v]=(do match <- ReflectliteValue.parts v with | none=>z | some (t,a,fl)=>f t a fl (fl % 32)):=rfl
theorem Tryz.partsP (a:Addr) (w:World):(ReflectliteValue.parts (.agg #[.pointer (some ⟨3,268,none⟩),.pointer (some a),.int .u64 150])).run Tryz.prog w = .ok (some (268,a,150)) w:=by kernel_rfl
theorem Tryz.underP:Tryz.prog.underlying 268=some (.pointer 264):=by kernel_rfl
theorem Tryz.isNilP (a p:Addr) (W:World) (ha:W.cell? a=some (.pointer (some p))) :
  (ReflectliteValue.method (ReflectliteValue.valueError "reflectlite.Value.IsNil" 0) ReflectliteValue.isNil #[.agg #[.pointer (some ⟨3,268,none⟩),.pointer (some a),.int .u64 150]]).run Tryz.prog W = .ok (.bool false) W:=by
 rw [rlm];simp only [Sem.run_bind,Tryz.partsP,Result.andThen];simp [ReflectliteValue.isNil,loadVar,isAgg,underlying,Tryz.underP,ha,Result.andThen]
theorem Tryz.methodElem (h:Value) (w:World):(Go.method 473 320 (.agg #[h]) "Elem").run Tryz.prog w = .ok (267,.agg #[h]) w:=by kernel_rfl
theorem Tryz.methodImplements (h:Value) (w:World):(Go.method 473 320 (.agg #[h]) "Implements").run Tryz.prog w = .ok (268,.agg #[h]) w:=by kernel_rfl
theorem Tryz.methodAssignableTo (h:Value) (w:World):(Go.method 473 320 (.agg #[h]) "AssignableTo").run Tryz.prog w = .ok (265,.agg #[h]) w:=by kernel_rfl
theorem Tryz.elemP (w:World):(ReflectliteType.method ReflectliteType.elem #[.agg #[.pointer (some ⟨3,268,none⟩)]]).run Tryz.prog w = .ok (.iface 320 (.agg #[.pointer (some ⟨3,264,none⟩)])) w:=by kernel_rfl
theorem Tryz.implementsT (w:World):(ReflectliteType.relation "Implements" ReflectliteType.implements_ #[.agg #[.pointer (some ⟨3,264,none⟩)],.iface 320 (.agg #[.pointer (some ⟨3,238,none⟩)])]).run Tryz.prog w = .ok (.bool true) w:=by kernel_rfl
theorem Tryz.typeOfT (v:Value) (w:World):(ReflectliteType.typeOf #[.iface 264 v]).run Tryz.prog w = .ok (.iface 320 (.agg #[.pointer (some ⟨3,264,none⟩)])) w:=by kernel_rfl
theorem Tryz.typeOfN (v:Value) (w:World):(ReflectliteType.typeOf #[.iface 266 v]).run Tryz.prog w = .ok (.iface 320 (.agg #[.pointer (some ⟨3,266,none⟩)])) w:=by kernel_rfl
theorem Tryz.typeOfS (v:Value) (w:World):(ReflectliteType.typeOf #[.iface 338 v]).run Tryz.prog w = .ok (.iface 320 (.agg #[.pointer (some ⟨3,338,none⟩)])) w:=by kernel_rfl
theorem Tryz.assignT (w:World):(ReflectliteType.relation "AssignableTo" ReflectliteType.assignableTo #[.agg #[.pointer (some ⟨3,264,none⟩)],.iface 320 (.agg #[.pointer (some ⟨3,264,none⟩)])]).run Tryz.prog w = .ok (.bool true) w:=by kernel_rfl
theorem Tryz.assignN (w:World):(ReflectliteType.relation "AssignableTo" ReflectliteType.assignableTo #[.agg #[.pointer (some ⟨3,266,none⟩)],.iface 320 (.agg #[.pointer (some ⟨3,264,none⟩)])]).run Tryz.prog w = .ok (.bool false) w:=by kernel_rfl
theorem Tryz.assignS (w:World):(ReflectliteType.relation "AssignableTo" ReflectliteType.assignableTo #[.agg #[.pointer (some ⟨3,338,none⟩)],.iface 320 (.agg #[.pointer (some ⟨3,264,none⟩)])]).run Tryz.prog w = .ok (.bool false) w:=by kernel_rfl
theorem Tryz.valueOfT (x:LkI) (w:World):(ReflectliteValue.unpack (.iface 264 (.agg #[.int .i64 x.e,.int .i64 x.c,.int .i64 x.p,.int .i64 x.f]))).run Tryz.prog w
  = .ok (.agg #[.pointer (some ⟨3,264,none⟩),.pointer (some ⟨w.heap.size,0,none⟩),.int .u64 153]) (w.alloc (.cells #[.int .i64 x.e,.int .i64 x.c,.int .i64 x.p,.int .i64 x.f] 264)):=by kernel_rfl
theorem Tryz.elemOfP (w:World):(Rtype.elem? 268).run Tryz.prog w = .ok (some 264) w:=by kernel_rfl
theorem Tryz.mkT (p:Addr) (w:World):(ReflectliteValue.mk 264 p ReflectliteValue.flagAddr).run Tryz.prog w = .ok (.agg #[.pointer (some ⟨3,264,none⟩),.pointer (some p),.int .u64 409]) w:=by kernel_rfl
theorem Tryz.elemVP (a p:Addr) (W:World) (ha:W.cell? a=some (.pointer (some p))) :
  (ReflectliteValue.method (ReflectliteValue.valueError "reflectlite.Value.Elem" 0) ReflectliteValue.elem #[.agg #[.pointer (some ⟨3,268,none⟩),.pointer (some a),.int .u64 150]]).run Tryz.prog W
   = .ok (.agg #[.pointer (some ⟨3,264,none⟩),.pointer (some p),.int .u64 409]) W:=by
 rw [rlm];simp only [Sem.run_bind,Tryz.partsP,Result.andThen];simp [ReflectliteValue.elem,loadVar,isAgg,underlying,Tryz.underP,ha,Result.andThen,Tryz.elemOfP,Tryz.mkT]
theorem rls (v x:Value):ReflectliteValue.set #[v,x]=(do
  let (some (dst,a,fl),some (src,b,_)):=(<- ReflectliteValue.parts v,<- ReflectliteValue.parts x)
   | unsupported (.noEntry "extern/(internal/reflectlite.Value).Set.zeroValue")
  if fl / ReflectliteValue.flagAddr % 2==0 then unsupported (.noEntry "extern/(internal/reflectlite.Value).Set.unaddressable")
  let val <- loadVar src b
  if <- Rtype.directlyAssignable dst src then storeVar dst a val
  else if <- Rtype.implements dst src then
   if (<- Rtype.kind src)==20 then
    match val with
    | .nilIface=>unsupported (.noEntry "extern/reflectlite: a nil value of one interface type handed on as a value of another")
    | _=>storeVar dst a val
   else storeVar dst a (.iface src val)
  else panicString ("reflectlite.Set: value of type " ++ (<- Rtype.spelt src) ++ " is not assignable to type " ++ (<- Rtype.spelt dst))
  pure (.tuple #[])):=rfl
theorem Tryz.partsTa (a:Addr) (w:World):(ReflectliteValue.parts (.agg #[.pointer (some ⟨3,264,none⟩),.pointer (some a),.int .u64 409])).run Tryz.prog w = .ok (some (264,a,409)) w:=by kernel_rfl
theorem Tryz.partsT (a:Addr) (w:World):(ReflectliteValue.parts (.agg #[.pointer (some ⟨3,264,none⟩),.pointer (some a),.int .u64 153])).run Tryz.prog w = .ok (some (264,a,153)) w:=by kernel_rfl
theorem Tryz.directT (w:World):(Rtype.directlyAssignable 264 264).run Tryz.prog w = .ok true w:=by kernel_rfl
theorem Tryz.sizeT (w:World):(sizeOf 264).run Tryz.prog w = .ok 4 w:=by kernel_rfl
theorem Tryz.isAggT (w:World):(isAgg 264).run Tryz.prog w = .ok true w:=by kernel_rfl
theorem Tryz.setT (tb b:Nat) (x:LkI) (W:World) (hb:QE9 W b 0 x) (ht:∀ j,j < 4->(W.cell? ⟨tb,0+j,none⟩).isSome=true) (hf:∀ j,j < 4->W.frozen? ⟨tb,0+j,none⟩=false) :
  (ReflectliteValue.set #[.agg #[.pointer (some ⟨3,264,none⟩),.pointer (some ⟨tb,0,none⟩),.int .u64 409],.agg #[.pointer (some ⟨3,264,none⟩),.pointer (some ⟨b,0,none⟩),.int .u64 153]]).run Tryz.prog W
   = .ok (.tuple #[]) (W.setCells tb 0 (vLk x)):=by
 have hl:=run_loadCells_list (P:=Tryz.prog) W ⟨b,0,none⟩ (vLk x) (fun j v hj=>by rw [Go.WideShapes.add_plain,Nat.zero_add];exact QR9 hb j v hj);have hs:=run_storeCells_cells (P:=Tryz.prog) tb 0 (vLk x) 0 W (by simpa [vLk] using ht) (by simpa [vLk] using hf) (QF0 x);have hlen:(vLk x).length=4:=rfl;rw [hlen] at hl
 have hlv:(loadVar 264 ⟨b,0,none⟩).run Tryz.prog W = .ok (.agg (vLk x).toArray) W:=by
  simp [loadVar,Tryz.isAggT,Tryz.sizeT,hl,Result.andThen]
 have hsv:(storeVar 264 ⟨tb,0,none⟩ (.agg (vLk x).toArray)).run Tryz.prog W = .ok () (W.setCells tb 0 (vLk x)):=by
  have hc:(Value.agg (vLk x).toArray).cells=(vLk x).toArray:=rfl;simp [storeVar,hc,Tryz.sizeT,hlen,Result.andThen,hs]
 rw [rls];simp only [Sem.run_bind,Tryz.partsTa,Tryz.partsT,Result.andThen];simp [ReflectliteValue.flagAddr,hlv,Result.andThen,Tryz.directT,hsv]
end
