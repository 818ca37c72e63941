/- Contracts. -/
import Derived.Test.YtlhgjackapdmbaaGreatDoorPe17
import Derived.Lib.Overlaps
import Derived.Lib.AppendZerosOnto
import Derived.Laws.Externs
import Derived.Laws.IdiomCopy
import Derived.Laws.NewBlocks
import Derived.Shelf.Spec.SlicesInsert
import Derived.Shelf.Spec.SlicesInsertGrow
import Derived.LaidEql
import Derived.Stop.Asserts
import Derived.RowKitTokens
namespace Go.Proofs.YtlhgjackapdmbaaGreatDoor
set_option maxRecDepth 100000
set_option maxHeartbeats 8000000
open Go.RowKit
set_option linter.unusedVariables false
set_option linter.unusedSimpArgs false

section
open Go.RowKit Go.Shelf Go.Lib
theorem qN2 {P:Program} (w:World) (dT sT ty elem:TypeId) (k b o dLen dCap:Nat) (a:Addr) (sLen sCap:Nat) (cs:List Value)
  (hu:P.underlying dT=some (.slice elem)) (hs:(P.info? elem).map (·.size)=some k) (q:Nat) (hq:Nat.min sLen dLen=q) (hn:cs.length=q * k)
  (hsrc:∀ j v,cs[j]? = some v→w.cell? (a.add j)=some v) (hc:∀ j,j < cs.length→(w.cell? ⟨b,o+j,none⟩).isSome=true) (hf:∀ j,j < cs.length→w.frozen? ⟨b,o+j,none⟩=false) (h1:∀ v∈cs,v.oneCell'=true) :
  (Builtin.copy_ #[dT,sT] ty #[.slice (some ⟨b,o,none⟩) dLen dCap,.slice (some a) sLen sCap]).run P w = .ok (goInt q) (w.setCells b o cs):=by
 have hl:=run_loadCells_list (P:=P) w a cs hsrc
 have hst:=run_storeCells_cells (P:=P) b o cs 0 w (by simpa using hc) (by simpa using hf) h1
 cases hq':P.info? elem with
 | none=>simp [hq'] at hs
 | some i =>
  have hi:i.size=k:=by simpa [hq'] using hs
  simp [Builtin.copy_,run_underlying hu,Builtin.lenOf,Builtin.firstCells,sizeOf,typeInfo,hq',hi,hq,← hn,hl,hst]
theorem insert_shift (g n c i vb:Nat) (cs vs:List Value) (w:World) (hi:i < n) (hn:n≤1000) (hroom:n+1≤c) (hc63:c≤9223372036854775807) (hvb:vb≠g) (hcl:cs.length=n * 4) (hvl:vs.length=4)
  (hcs:∀ j v,cs[j]? = some v→w.cell? ⟨g,j,none⟩=some v) (hsp:∀ j,j < (n+1) * 4→(w.cell? ⟨g,j,none⟩).isSome=true) (hfz:∀ j,j < (n+1) * 4→w.frozen? ⟨g,j,none⟩=false)
  (hvs:∀ j v,vs[j]? = some v→w.cell? ⟨vb,j,none⟩=some v) (h1c:∀ v∈cs,v.oneCell'=true) (h1v:∀ v∈vs,v.oneCell'=true)
  (tA tB:TypeId) (kA kB:Nat) (hsa:w.shape? vb=some (tA,kA)) (hsb:w.shape? g=some (tB,kB)) (hkB:kB≠0) (hfa:w.frozen? ⟨vb,0,none⟩=false) (hfe:w.frozen? ⟨vb,kA,none⟩=false) :
  Calls Tryz.prog 166 #[.slice (some ⟨g,0,none⟩) n c,.int .i64 (i:Int),.slice (some ⟨vb,0,none⟩) 1 1] w fun e w' =>
   e = .returned (.slice (some ⟨g,0,none⟩) (n+1) c)∧w'=(w.drew.setCells g ((i+1) * 4) (cs.drop (i * 4))).setCells g (i * 4) vs:=by
 obtain ⟨i0,hi0,hz0,hz1,hz2⟩:=info_parts Tryz.info98
 have hsz:(Tryz.prog.info? 98).map (·.size)=some 4:=by rw [hi0];simp [hz1]
 have q2:¬ ((i:Int)=(n:Int)):=by omega
 have hin:(i:Int)≤(n:Int):=by omega
 have hi0':(0:Int)≤(i:Int):=by omega
 have hcn:(n:Int)+1≤(c:Int):=by omega
 have hci:¬ (c=i):=by omega
 have hci1:¬ (c=i+1):=by omega
 have hnc:(n:Int)≤(c:Int):=by omega
 have hii:(i:Int)+1≤(n:Int)+1:=by omega
 have hov:∀ (a:Addr) lb cb (W:World),a.block=g→W=w→(callFunc 185 #[.slice (some ⟨vb,0,none⟩) 1 1,.slice (some a) lb cb]).run Tryz.prog W = .ok (.value (.bool false)) W:=fun a lb cb W ha hW=>by
  subst hW
  rw [run_callFunc_extern Tryz.func185 (by kernel_rfl) (by kernel_rfl) (by kernel_rfl) (e:=Extern.SlicesOverlaps.overlaps #[31,31] #[4]) (by kernel_rfl),
   Lib.run_overlaps_apart W 31 4 98 Tryz.underlying31 4 Tryz.sizeOf98 ⟨vb,0,none⟩ a 1 1 lb cb (by rw [ha];exact hvb) tA tB kA kB hsa (by rw [ha];exact hsb) hkB hfa hfe]
  rfl
 have htn:((i:Int)+1).toNat=i+1:=by omega
 have mixed:Tryz.prog.follows Departure.mixedOrders=true:=by kernel_rfl
 have hw1:IntKind.i64.wrap ((i:Int)+1)=(i:Int)+1:=by rw [IntKind.wrap_i64];omega
 have hb1:(0:Int)≤(i:Int)+1:=by omega
 have hb3:(i:Int)≤(n:Int)+1:=by omega
 have hdl:(cs.drop (i * 4)).length=(n - i) * 4:=by rw [List.length_drop,hcl];omega
 have hcp1:∀ ty o1 o2 dl dc sl sc,o1=(i+1) * 4→o2=i * 4→Nat.min sl dl=n - i→(Builtin.copy_ #[31,31] ty #[.slice (some ⟨g,o1,none⟩) dl dc,.slice (some ⟨g,o2,none⟩) sl sc]).run Tryz.prog w.drew = .ok (goInt (n - i:Nat)) (w.drew.setCells g ((i+1) * 4) (cs.drop (i * 4))):=fun ty o1 o2 dl dc sl sc e1 e2 hmin=>by
  subst e1 e2
  exact qN2 w.drew _ _ ty 98 4 g ((i+1) * 4) dl dc ⟨g,i * 4,none⟩ sl sc (cs.drop (i * 4)) Tryz.underlying31 hsz (n - i) hmin hdl
   (fun j v hj=>by rw [Go.WideShapes.add_plain];exact hcs (i * 4+j) v (by rwa [List.getElem?_drop] at hj))
   (fun j hj=>hsp _ (by omega)) (fun j hj=>hfz _ (by omega)) (fun v hv=>h1c v (List.mem_of_mem_drop hv))
 obtain ⟨W1,hW1⟩:∃ W1,W1=w.drew.setCells g ((i+1) * 4) (cs.drop (i * 4)):=⟨_,rfl⟩
 have hsp1:∀ k,k < (n+1) * 4→(W1.cell? ⟨g,k,none⟩).isSome=true:=fun k hk=>by
  rw [hW1]
  exact isSome_setCells g (cs.drop (i * 4)) ((i+1) * 4) w.drew (fun j hj=>hsp ((i+1) * 4+j) (by omega)) k (hsp k hk)
 have hcp2:∀ (W:World),(∀ x,W.cell? x=W1.cell? x)→(∀ x,W.frozen? x=W1.frozen? x)→∀ ty o2 dl dc,o2=i * 4→Nat.min 1 dl=1→(Builtin.copy_ #[31,31] ty #[.slice (some ⟨g,o2,none⟩) dl dc,.slice (some ⟨vb,0,none⟩) 1 1]).run Tryz.prog W = .ok (goInt (1:Nat)) (W.setCells g (i * 4) vs):=fun W hWc hWf ty o2 dl dc e2 hmin=>by
  subst e2
  exact qN2 W _ _ ty 98 4 g (i * 4) dl dc ⟨vb,0,none⟩ 1 1 vs Tryz.underlying31 hsz 1 hmin (by rw [hvl])
   (fun j v hj=>by
    rw [Go.WideShapes.add_plain,Nat.zero_add,hWc,hW1,World.cell?_setCells_out g _ _ _ _ (fun h _=>absurd h hvb)]
    exact hvs j v hj)
   (fun j hj=>by rw [hWc];exact hsp1 _ (by omega)) (fun j hj=>by rw [hWf,hW1,World.frozen?_setCells];exact hfz _ (by omega)) h1v
 rw [← hW1] at hcp1
 have m1:Nat.min (n+1 - i) (n - i)=n - i:=by simp only [Nat.min_def];split <;> omega
 have m2:Nat.min 1 (n+1 - i)=1:=by simp only [Nat.min_def];split <;> omega
 go_enter Tryz.func166,Tryz.ntmps166
 go_wp2_with fail
 go_region_law_o (refine step_copy_runI rfl _ _ 31 31 rfl _ _ (by simp [Act.eval,Act.put]) (by simp [Act.eval,Act.put]) (hcp1 _ _ _ _ _ _ _ (by first | rfl | omega) (by first | rfl | omega) (by first | exact m1 | (simp only [Nat.min_def];split <;> omega))) ?_)
 go_wp2_with (at_builtin;refine wpList_copy_runI _ rfl _ _ 31 31 rfl _ _ rfl rfl (hcp2 _ (fun _=>rfl) (fun _=>rfl) _ _ _ _ (by first | rfl | omega) (by first | exact m2 | (simp only [Nat.min_def];split <;> omega))) ?_)
 go_ret
 first | exact ⟨rfl,rfl⟩ | exact ⟨rfl,by rw [hW1]⟩
end

section
open Go.RowKit Go.Shelf Go.Lib
def QT4:List Value→Nat→List Value→List Value
 | fs,_,[]=>fs
 | fs,o,v::r=>QT4 (fs.set o v) (o+1) r
theorem qY4:∀ (vs a b c:List Value),b.length=vs.length→QT4 (a++b++c) a.length vs=a++vs++c
 | [],a,b,c,h=>by
  have : b=[]:=List.eq_nil_of_length_eq_zero h
  simp [QT4,this]
 | v::r,a,[],c,h=>by simp at h
 | v::r,a,b0::b,c,h=>by
  have e1:(a++b0::b++c).set a.length v=(a++[v])++b++c:=by
   rw [List.append_assoc,List.set_append_right _ _ (Nat.le_refl _),Nat.sub_self]
   simp
  have e2:=qY4 r (a++[v]) b c (by simpa using h)
  rw [QT4,e1,show a.length+1=(a++[v]).length by simp,e2]
  simp
theorem qW8 (vs:List Value):∀ (w:World) (B g n cap:Nat) (fs:List Value) (o:Nat),w.ownsRow B 98 4 (.slice (some ⟨g,0,none⟩) n cap) n fs →
  (w.setCells g o vs).ownsRow B 98 4 (.slice (some ⟨g,0,none⟩) n cap) n (QT4 fs o vs)∧w.grownBy (w.setCells g o vs) (some g):=by
 induction vs with
 | nil=>intro w B g n cap fs o h;exact ⟨h,qM8 _ _⟩
 | cons v r ih =>
  intro w B g n cap fs o h
  have h1:=h.stored o v
  have h2:=ih _ B g n cap _ (o+1) h1.1
  exact ⟨h2.1,qF9 h1.2 h2.2⟩
theorem qT8 (all:List LkI) (i:Nat) (hi:i≤all.length):qA3 all=qA3 (all.take i)++qA3 (all.drop i)∧(qA3 (all.take i)).length=i * 4∧(qA3 (all.drop i)).length=(all.length - i) * 4:=by
 refine ⟨by rw [← qR3,List.take_append_drop],?_,?_⟩
 ·rw [qF4,List.length_take,Nat.min_eq_left hi]
 ·rw [qF4,List.length_drop]
theorem flatLk_cut (all:List LkI) (i:Nat) (hi:i≤all.length):(qA3 all).take (i * 4)=qA3 (all.take i)∧(qA3 all).drop (i * 4)=qA3 (all.drop i):=by
 obtain ⟨e,l1,l2⟩:=qT8 all i hi
 rw [e]
 exact ⟨by rw [List.take_append_of_le_length (by omega),List.take_of_length_le (by omega)],by rw [List.drop_append_of_le_length (by omega),List.drop_of_length_le (by omega),List.nil_append]⟩
def vLk (x:LkI):List Value:=[.int .i64 x.e,.int .i64 x.c,.int .i64 x.p,.int .i64 x.f]
theorem QS2 (all:List LkI) (i:Nat) (x:LkI):qA3 (all.take i++x::all.drop i)=qA3 (all.take i)++vLk x++qA3 (all.drop i):=by
 rw [qR3]
 simp [qA3,vLk]
theorem lay_shift (all:List LkI) (i:Nat) (x:LkI) (hi:i≤all.length) (ys:List Value) (hy:ys.length=4) :
  QT4 (QT4 (qA3 all++ys) ((i+1) * 4) (qA3 (all.drop i))) (i * 4) (vLk x)=qA3 (all.take i++x::all.drop i):=by
 obtain ⟨e,l1,l2⟩:=qT8 all i hi
 have hL:(qA3 all++ys).length=(all.length+1) * 4:=by rw [List.length_append,qF4,hy];omega
 have s1:=qY4 (qA3 (all.drop i)) ((qA3 all++ys).take ((i+1) * 4)) ((qA3 all++ys).drop ((i+1) * 4)) [] (by rw [List.length_drop,hL,l2];omega)
 rw [List.append_nil,List.append_nil,List.take_append_drop,List.length_take,hL,Nat.min_eq_left (by omega)] at s1
 rw [s1]
 have t1:(qA3 all++ys).take ((i+1) * 4)=qA3 (all.take i)++((qA3 all++ys).take ((i+1) * 4)).drop (i * 4):=by
  have h:=List.take_append_drop (i * 4) ((qA3 all++ys).take ((i+1) * 4))
  rw [List.take_take,Nat.min_eq_left (by omega),e,List.append_assoc,List.take_append_of_le_length (by omega),List.take_of_length_le (by omega),← List.append_assoc,← e] at h
  exact h.symm
 have s2:=qY4 (vLk x) (qA3 (all.take i)) (((qA3 all++ys).take ((i+1) * 4)).drop (i * 4)) (qA3 (all.drop i)) (by rw [List.length_drop,List.length_take,hL,Nat.min_eq_left (by omega)];simp [vLk];omega)
 rw [← t1,l1] at s2
 rw [s2,QS2]
theorem lay_grow (all:List LkI) (i:Nat) (x:LkI) (hi:i≤all.length) (zs:List Value) (hz:zs.length=(all.length+1 - i) * 4) :
  QT4 (QT4 (qA3 (all.take i)++zs) (i * 4) (vLk x)) ((i+1) * 4) (qA3 (all.drop i))=qA3 (all.take i++x::all.drop i):=by
 obtain ⟨e,l1,l2⟩:=qT8 all i hi
 have s1:=qY4 (vLk x) (qA3 (all.take i)) (zs.take 4) (zs.drop 4) (by rw [List.length_take];simp [vLk];omega)
 rw [List.append_assoc,List.take_append_drop,l1] at s1
 rw [s1]
 have s2:=qY4 (qA3 (all.drop i)) (qA3 (all.take i)++vLk x) (zs.drop 4) [] (by rw [List.length_drop,l2,hz];omega)
 rw [List.append_nil,List.append_nil,List.length_append,l1,show (vLk x).length=4 from rfl,show i * 4+4=(i+1) * 4 by omega] at s2
 rw [s2,QS2]
theorem QQ0 {w:World} {vb:Nat} {x:LkI} (h:QC7 w vb 0 x):∀ j v,(vLk x)[j]? = some v→w.cell? ⟨vb,j,none⟩=some v:=by
 intro j v hj
 obtain ⟨h0,h1,h2,h3⟩:=h
 match j with
 | 0=>simp [vLk] at hj;subst hj;exact h0
 | 1=>simp [vLk] at hj;subst hj;exact h1
 | 2=>simp [vLk] at hj;subst hj;exact h2
 | 3=>simp [vLk] at hj;subst hj;exact h3
 | k+4=>simp [vLk] at hj
theorem QE8 (x:LkI):∀ v∈vLk x,v.oneCell'=true:=by
 intro v hv
 simp [vLk] at hv
 rcases hv with e | e | e | e <;> subst e <;> rfl
theorem insert_grow (g n c i vb:Nat) (cs vs:List Value) (w:World) (hi:i < n) (hn:n≤1000) (hnc:n≤c) (hroom:c < n+1) (hcl:cs.length=n * 4) (hvl:vs.length=4)
  (hcs:∀ j v,cs[j]? = some v→w.cell? ⟨g,j,none⟩=some v)
  (hvs:∀ j v,vs[j]? = some v→w.cell? ⟨vb,j,none⟩=some v) (h1c:∀ v∈cs,v.oneCell'=true) (h1v:∀ v∈vs,v.oneCell'=true) :
  Calls Tryz.prog 166 #[.slice (some ⟨g,0,none⟩) n c,.int .i64 (i:Int),.slice (some ⟨vb,0,none⟩) 1 1] w fun e w' =>
   e = .returned (.slice (some ⟨w.heap.size,0,none⟩) (n+1) (grownCap w (n+1) c 98)) ∧
   w'=(((w.alloc (.cells ((cs.take (i * 4)).toArray++Builtin.zeroCells (Value.agg #[.int .i64 0,.int .i64 0,.int .i64 0,.int .i64 0]).cells (n+1 - i)++Builtin.zeroCells (Value.agg #[.int .i64 0,.int .i64 0,.int .i64 0,.int .i64 0]).cells (grownCap w (n+1) c 98 - (n+1))) 98)).drew.setCells w.heap.size (i * 4) vs).drew).setCells w.heap.size ((i+1) * 4) (cs.drop (i * 4)):=by
 obtain ⟨i0,hi0,hz0,hzs,hzb⟩:=info_parts Tryz.info98
 have hsz:(Tryz.prog.info? 98).map (·.size)=some 4:=by rw [hi0];simp [hzs]
 have mixed:Tryz.prog.follows Departure.mixedOrders=true:=by kernel_rfl
 have hz2:¬ ((i:Int)=(n:Int)):=by omega
 have hz3:(c:Int) < (n:Int)+1:=by omega
 have hbw:g < w.heap.size:=block_lt_of_cell (hcs 0 _ (List.getElem?_eq_getElem (by omega)))
 have hvw:vb < w.heap.size:=block_lt_of_cell (hvs 0 _ (List.getElem?_eq_getElem (by omega)))
 have hkk:(n:Int)+1 - (i:Int)=((n+1 - i:Nat):Int):=by omega
 have hik:i+(n+1 - i)=n+1:=by omega
 have hold:(Builtin.firstCells i0.size i (.slice (some ⟨g,0,none⟩) i c)).run Tryz.prog w.drew = .ok (cs.take (i * 4)).toArray w.drew:=by
  rw [hzs]
  exact run_firstCells_some w.drew 4 i ⟨g,0,none⟩ i c (cs.take (i * 4)) (by rw [List.length_take];omega) (fun j v hj=>by
   rw [Go.WideShapes.add_plain,Nat.zero_add]
   rw [List.getElem?_take] at hj
   split at hj
   ·exact hcs j v hj
   ·cases hj)
 have hrz:∀ ty,(Builtin.append_ #[31,3] ty #[.slice (some ⟨g,0,none⟩) i c,.int .i64 ((n:Int)+1 - (i:Int))]).run Tryz.prog w =
   .ok (.slice (some ⟨w.heap.size,0,none⟩) (n+1) (grownCap w (n+1) c 98)) (w.drew.alloc (.cells ((cs.take (i * 4)).toArray++Builtin.zeroCells (Value.agg #[.int .i64 0,.int .i64 0,.int .i64 0,.int .i64 0]).cells (n+1 - i)++Builtin.zeroCells (Value.agg #[.int .i64 0,.int .i64 0,.int .i64 0,.int .i64 0]).cells (grownCap w (n+1) c 98 - (n+1))) 98)):=fun ty=>by
  have h:=Lib.run_append_grow_zeros w 31 3 ty 98 i0 _ .i64 .i64 Tryz.underlying31 (by kernel_rfl) hi0 hz0 (some ⟨g,0,none⟩) i c (cs.take (i * 4)) hold (n+1 - i) (by omega) (by omega) (by omega) (by omega) (by rw [hzb];omega) (by rw [hzb,hik];exact growslice_fits hroom (by omega))
  rw [hik] at h
  rw [hkk]
  exact h
 obtain ⟨G,hG⟩:∃ G,G=grownCap w (n+1) c 98:=⟨_,rfl⟩
 obtain ⟨ROW,hROW⟩:∃ ROW:Array Value,ROW=(cs.take (i * 4)).toArray++Builtin.zeroCells (Value.agg #[.int .i64 0,.int .i64 0,.int .i64 0,.int .i64 0]).cells (n+1 - i)++Builtin.zeroCells (Value.agg #[.int .i64 0,.int .i64 0,.int .i64 0,.int .i64 0]).cells (G - (n+1)):=⟨_,rfl⟩
 rw [← hG] at hrz ⊢
 rw [← hROW] at hrz ⊢
 have hGn:n+1≤G:=by rw [hG];exact grownCap_ge w _ _ _
 have hRl:(n+1) * 4≤ROW.size:=by
  rw [hROW]
  simp [Builtin.zeroCells,Value.cells]
  omega
 obtain ⟨W1,hW1⟩:∃ W1,W1=w.drew.alloc (.cells ROW 98):=⟨_,rfl⟩
 rw [← hW1] at hrz
 have hN:∀ j,j < (n+1) * 4→(W1.cell? ⟨w.heap.size,j,none⟩).isSome=true:=fun j hj=>by
  rw [hW1,World.cell?_alloc_at (w:=w.drew) ROW _ w.heap.size j rfl,Array.getElem?_eq_getElem (by omega)];rfl
 have hNf:∀ j,W1.frozen? ⟨w.heap.size,j,none⟩=false:=fun j=>by rw [hW1];exact World.frozen?_alloc_at (w:=w.drew) ROW _ w.heap.size j rfl
 have hOb:∀ j v,w.cell? ⟨g,j,none⟩=some v→W1.cell? ⟨g,j,none⟩=some v:=fun j v h=>by rw [hW1,World.cell?_alloc_past (w:=w.drew) _ g j hbw];exact h
 have hOv:∀ j v,w.cell? ⟨vb,j,none⟩=some v→W1.cell? ⟨vb,j,none⟩=some v:=fun j v h=>by rw [hW1,World.cell?_alloc_past (w:=w.drew) _ vb j hvw];exact h
 have hcpA:∀ (W:World),(∀ x,W.cell? x=W1.cell? x)→(∀ x,W.frozen? x=W1.frozen? x)→∀ ty o1 dl dc,o1=i * 4→dl=n+1 - i→(Builtin.copy_ #[31,31] ty #[.slice (some ⟨w.heap.size,o1,none⟩) dl dc,.slice (some ⟨vb,0,none⟩) 1 1]).run Tryz.prog W = .ok (goInt (1:Nat)) (W.setCells w.heap.size (i * 4) vs):=fun W hWc hWf ty o1 dl dc e1 e2=>by
  subst e1 e2
  exact qN2 W _ _ ty 98 4 w.heap.size (i * 4) (n+1 - i) dc ⟨vb,0,none⟩ 1 1 vs Tryz.underlying31 hsz 1 (by simp only [Nat.min_def];split <;> omega) (by rw [hvl])
   (fun j v hj=>by rw [Go.WideShapes.add_plain,Nat.zero_add,hWc];exact hOv _ v (hvs j v hj))
   (fun j hj=>by rw [hWc];exact hN _ (by omega)) (fun j hj=>by rw [hWf];exact hNf _) h1v
 have hG63:G≤9223372036854775807:=by
  have:=grownCap_le_maxLen w (n+1) c 98 (by unfold maxLen;omega)
  rw [← hG] at this
  unfold maxLen at this
  omega
 have hGi:¬ (G=i):=by omega
 have hGim:¬ (G=i+1):=by omega
 have hci:¬ (c=i):=by omega
 have hbN:g≠w.heap.size:=by omega
 have hdl:(cs.drop (i * 4)).length=(n - i) * 4:=by rw [List.length_drop,hcl];omega
 have hcpB:∀ (W:World),(∀ x,W.cell? x=(W1.setCells w.heap.size (i * 4) vs).cell? x)→(∀ x,W.frozen? x=(W1.setCells w.heap.size (i * 4) vs).frozen? x)→∀ ty o1 o2 dl dc sl sc,o1=(i+1) * 4→o2=i * 4→dl=n - i→sl=n - i→(Builtin.copy_ #[31,31] ty #[.slice (some ⟨w.heap.size,o1,none⟩) dl dc,.slice (some ⟨g,o2,none⟩) sl sc]).run Tryz.prog W = .ok (goInt (n - i:Nat)) (W.setCells w.heap.size ((i+1) * 4) (cs.drop (i * 4))):=fun W hWc hWf ty o1 o2 dl dc sl sc e1 e2 e3 e4=>by
  subst e1 e2 e3 e4
  exact qN2 W _ _ ty 98 4 w.heap.size ((i+1) * 4) (n - i) dc ⟨g,i * 4,none⟩ (n - i) sc (cs.drop (i * 4)) Tryz.underlying31 hsz (n - i) (by simp only [Nat.min_def];split <;> omega) hdl
   (fun j v hj=>by
    rw [Go.WideShapes.add_plain,hWc,World.cell?_setCells_out _ _ _ _ _ (fun h _=>absurd h hbN)]
    exact hOb _ v (hcs (i * 4+j) v (by rwa [List.getElem?_drop] at hj)))
   (fun j hj=>by rw [hWc];exact isSome_setCells _ _ _ _ (fun t ht=>hN _ (by omega)) _ (hN _ (by omega)))
   (fun j hj=>by rw [hWf,World.frozen?_setCells];exact hNf _) (fun v hv=>h1c v (List.mem_of_mem_drop hv))
 subst hW1
 have hE1:∀ x,((w.alloc (.cells ROW 98)).drew).cell? x=(w.drew.alloc (.cells ROW 98)).cell? x:=fun x=>rfl
 have hE2:∀ x,((w.alloc (.cells ROW 98)).drew).frozen? x=(w.drew.alloc (.cells ROW 98)).frozen? x:=fun x=>rfl
 have hF1:∀ x,(((w.alloc (.cells ROW 98)).drew.setCells w.heap.size (i * 4) vs).drew).cell? x=((w.drew.alloc (.cells ROW 98)).setCells w.heap.size (i * 4) vs).cell? x:=fun x=>rfl
 have hF2:∀ x,(((w.alloc (.cells ROW 98)).drew.setCells w.heap.size (i * 4) vs).drew).frozen? x=((w.drew.alloc (.cells ROW 98)).setCells w.heap.size (i * 4) vs).frozen? x:=fun x=>rfl
 have hw1:IntKind.i64.wrap ((i:Int)+1)=(i:Int)+1:=by rw [IntKind.wrap_i64];omega
 have hb1:(0:Int)≤(i:Int)+1:=by omega
 have hin:i≤n:=by omega
 have htn:((i:Int)+1).toNat=i+1:=by omega
 have hb3:(i:Int)≤(n:Int):=by omega
 clear hkk hik hold hROW hG hRl
 go_enter Tryz.func166,Tryz.ntmps166
 go_wp2_with (first
  | (at_builtin;refine Lib.wpList_append_run _ rfl _ _ _ _ rfl _ _ rfl rfl _ _ (hrz _) ?_)
  | (at_builtin;refine wpList_copy_runI _ rfl _ _ 31 31 rfl _ _ rfl rfl (hcpA _ hE1 hE2 _ _ _ _ (by first | rfl | omega) (by first | rfl | omega)) ?_))
 go_region_law_o (refine step_copy_runI rfl _ _ 31 31 rfl (.slice (some ⟨w.heap.size,(i+1) * 4,none⟩) (n - i) (G - (i+1))) (.slice (some ⟨g,i * 4,none⟩) (n - i) (c - i)) (by simp [Act.eval,Act.put]) (by simp [Act.eval,Act.put]) (hcpB _ hF1 hF2 3 _ _ _ (G - (i+1)) _ (c - i) rfl rfl rfl rfl) ?_)
 go_wp2
 go_ret
 exact ⟨rfl,rfl⟩
end

section
open Go.RowKit Go.Shelf Go.Lib
def InsR (B:Nat) (row:Option Nat) (L:List LkI) (w:World) (e:Ending) (w':World):Prop:=∃ g' cap':Nat,e = .returned (.slice (some ⟨g',0,none⟩) L.length cap')∧qA4 w' B (.slice (some ⟨g',0,none⟩) L.length cap') L∧w.grownBy w' row
theorem insert_end (B:Nat) (a:Option Addr) (n cap vb:Nat) (all:List LkI) (x:LkI) (w:World) (hl:n=all.length) (hn:n≤1000) (hB:B≤w.heap.size) (h:qA4 w B (.slice a n cap) all) (hx:QC7 w vb 0 x) :
  Calls Tryz.prog 166 #[.slice a n cap,.int .i64 (n:Int),.slice (some ⟨vb,0,none⟩) 1 1] w (InsR B (Value.slice a n cap).ownBlock (all++[x]) w):=by
 obtain ⟨i0,hi0,hz0,hz1,hz2⟩:=info_parts Tryz.info98
 have HO:Hid (w.ownsRow B 98 4 (.slice a n cap) n (qA3 all)):=by have h':=h;unfold qA4 at h';rw [← hl] at h';exact h'
 have HL:Hid (n=all.length):=hl
 have hcn:n≤cap:=by
  rcases h.form with ⟨e,e2⟩ | ⟨g,c2,e,_,_,k,_⟩
  ·cases e;exact Nat.zero_le _
  ·cases e;rw [hl];exact k
 have hnone:a=none→cap=0∧n=0:=fun e=>by
  rcases h.form with ⟨e,e2⟩ | ⟨g,c2,e',_,_,k,_⟩
  ·cases e;exact ⟨rfl,rfl⟩
  ·cases e';cases e
 have hc63:cap≤9223372036854775807:=by
  rcases h.2 with ⟨e,e2⟩ | ⟨g,c2,cur,e,_,_,_,k,_⟩
  ·cases e;omega
  ·cases e;unfold maxLen at k;omega
 have hn':(n:Int)≤1000:=by omega
 have mixed:Tryz.prog.follows Departure.mixedOrders=true:=by kernel_rfl
 clear h hl
 cases a with
 | none =>
  obtain ⟨e1,e2⟩:=hnone rfl
  subst e1 e2
  go_enter Tryz.func166,Tryz.ntmps166
  go_wp2_with (at_builtin;refine wpList_append_own _ rfl _ _ 31 rfl B 98 i0 (.agg #[.int .i64 0,.int .i64 0,.int .i64 0,.int .i64 0]) 4 32 Tryz.underlying31 hi0 hz0 hz1 hz2 rfl (by decide) _ 0 (qA3 all) rfl HO.out ⟨vb,0,none⟩ 1 1 (vLk x) rfl rfl (fun j u hj=>by rw [Go.WideShapes.add_plain,Nat.zero_add];exact QQ0 hx j u hj) (QE8 x) (by unfold maxLen;omega) (by omega) hB ?_)
  intro v' w' hO hG hV
  have hO':qA4 w' B v' (all++[x]):=qV4 (by rw [← HL.out];exact hO)
  obtain ⟨g',cap',e'⟩:=hO'.shape hV
  subst e'
  go_wp2
  go_ret
  exact ⟨g',cap',rfl,hO',hG⟩
 | some ad =>
  by_cases hcz:cap=n
  ·subst hcz
   go_enter Tryz.func166,Tryz.ntmps166
   go_wp2_with (at_builtin;refine wpList_append_own _ rfl _ _ 31 rfl B 98 i0 (.agg #[.int .i64 0,.int .i64 0,.int .i64 0,.int .i64 0]) 4 32 Tryz.underlying31 hi0 hz0 hz1 hz2 rfl (by decide) _ cap (qA3 all) rfl HO.out ⟨vb,0,none⟩ 1 1 (vLk x) rfl rfl (fun j u hj=>by rw [Go.WideShapes.add_plain,Nat.zero_add];exact QQ0 hx j u hj) (QE8 x) (by unfold maxLen;omega) (by omega) hB ?_)
   intro v' w' hO hG hV
   have hO':qA4 w' B v' (all++[x]):=qV4 (by rw [← HL.out];exact hO)
   obtain ⟨g',cap',e'⟩:=hO'.shape hV
   subst e'
   go_wp2
   go_ret
   exact ⟨g',cap',rfl,hO',hG⟩
  ·go_enter Tryz.func166,Tryz.ntmps166
   go_wp2_with (at_builtin;refine wpList_append_own _ rfl _ _ 31 rfl B 98 i0 (.agg #[.int .i64 0,.int .i64 0,.int .i64 0,.int .i64 0]) 4 32 Tryz.underlying31 hi0 hz0 hz1 hz2 rfl (by decide) _ n (qA3 all) rfl HO.out ⟨vb,0,none⟩ 1 1 (vLk x) rfl rfl (fun j u hj=>by rw [Go.WideShapes.add_plain,Nat.zero_add];exact QQ0 hx j u hj) (QE8 x) (by unfold maxLen;omega) (by omega) hB ?_)
   intro v' w' hO hG hV
   have hO':qA4 w' B v' (all++[x]):=qV4 (by rw [← HL.out];exact hO)
   obtain ⟨g',cap',e'⟩:=hO'.shape hV
   subst e'
   go_wp2
   go_ret
   exact ⟨g',cap',rfl,hO',hG⟩
theorem own_more {w:World} {B g n cap:Nat} {xs:List Value} (h:w.ownsRow B 98 4 (.slice (some ⟨g,0,none⟩) n cap) n xs) (hc:n+1≤cap):∃ ys,ys.length=4∧w.ownsRow B 98 4 (.slice (some ⟨g,0,none⟩) (n+1) cap) (n+1) (xs++ys)∧(∀ j,j < (n+1) * 4→(w.cell? ⟨g,j,none⟩).isSome=true)∧w.shape? g=some (98,cap * 4):=by
 rcases h.2 with ⟨e0,_⟩ | ⟨g',cap',cur,e0,hb,hg,hn,hm,hs,ht⟩
 ·cases e0
 ·injection e0 with e1 _ e3
  injection e1 with e1
  injection e1 with e1
  subst e1;subst e3
  refine ⟨(cur.toList.drop (n * 4)).take 4,?_,⟨?_,.inr ⟨g,cap,cur,rfl,hb,hg,hc,hm,hs,?_⟩⟩,?_,?_⟩
  ·rw [List.length_take,List.length_drop,Array.length_toList,hs];omega
  ·rw [List.length_append,h.1,List.length_take,List.length_drop,Array.length_toList,hs];omega
  ·rw [← ht,Nat.add_mul,Nat.one_mul,List.take_add]
  ·intro j hj
   simp [World.cell?,hg]
   omega
  ·simp [World.shape?,hg,hs]
theorem own_cs {w:World} {B g n cap:Nat} {xs:List Value} (h:w.ownsRow B 98 4 (.slice (some ⟨g,0,none⟩) n cap) n xs):∀ j v,xs[j]? = some v→w.cell? ⟨g,j,none⟩=some v:=fun j v hj=>by
 have hk:j < xs.length:=by
  by_cases q:j < xs.length
  ·exact q
  ·rw [List.getElem?_eq_none (by omega)] at hj;cases hj
 rw [h.cellAt j (by have:=h.1;omega)]
 exact hj
theorem insertLk_c (B:Nat) (a:Option Addr) (n cap i vb:Nat) (all:List LkI) (x:LkI) (w:World) (hl:n=all.length) (hi:i≤n) (hn:n≤1000) (hB:B≤w.heap.size) (h:qA4 w B (.slice a n cap) all) (hx:QC7 w vb 0 x)
  (tA:TypeId) (hsa:w.shape? vb=some (tA,4)) (hf:∀ j,w.frozen? ⟨vb,j,none⟩=false) (hne:a≠some ⟨vb,0,none⟩) :
  Calls Tryz.prog 166 #[.slice a n cap,.int .i64 (i:Int),.slice (some ⟨vb,0,none⟩) 1 1] w (InsR B (Value.slice a n cap).ownBlock (all.take i++x::all.drop i) w):=by
 by_cases hin:i=n
 ·subst hin
  have e1:all.take i++x::all.drop i=all++[x]:=by rw [List.take_of_length_le (by omega),List.drop_of_length_le (by omega)]
  rw [e1]
  exact insert_end B a i cap vb all x w hl hn hB h hx
 ·have hlt:i < n:=by omega
  have hO:w.ownsRow B 98 4 (.slice a n cap) n (qA3 all):=by have h':=h;unfold qA4 at h';rw [← hl] at h';exact h'
  obtain ⟨g,c2,e,hBg,hgw,hcc,_⟩:∃ g c2,Value.slice a n cap = .slice (some ⟨g,0,none⟩) n c2∧B≤g∧g < w.heap.size∧n≤c2∧c2≤maxLen:=by
   rcases hO.2 with ⟨e,e2⟩ | ⟨g,c2,cur,e,k1,k2,k3,k4,_⟩
   ·omega
   ·exact ⟨g,c2,e,k1,(Array.getElem?_eq_some_iff.1 k2).1,k3,k4⟩
  cases e
  have hvg:vb≠g:=fun e=>hne (by rw [e])
  have hlen:(all.take i++x::all.drop i).length=n+1:=by simp [hl];omega
  have hcut:=flatLk_cut all i (by omega)
  by_cases hr:n+1≤cap
  ·obtain ⟨ys,hy,hO2,hsp,hsh⟩:=own_more hO hr
   refine (insert_shift g n cap i vb (qA3 all) (vLk x) w hlt hn hr (by unfold maxLen at *;omega) hvg (by rw [qF4,hl]) rfl (own_cs hO) hsp (fun j _=>hO.frozenAt j) (QQ0 hx) (qP1 _) (QE8 x) tA 98 4 (cap * 4) hsa hsh (by omega) (hf 0) (hf 4)).mono ?_
   rintro e w' ⟨rfl,rfl⟩
   have k1:=qW8 ((qA3 all).drop (i * 4)) w.drew B g (n+1) cap (qA3 all++ys) ((i+1) * 4) hO2.drew
   have k2:=qW8 (vLk x) _ B g (n+1) cap _ (i * 4) k1.1
   have k3:=k2.1
   rw [hcut.2,lay_shift all i x (by omega) ys hy] at k3
   refine ⟨g,cap,by rw [hlen],?_,?_⟩
   ·unfold qA4
    rw [hlen,hcut.2]
    exact k3
   ·exact qF9 (a:=w) (b:=w.drew) ⟨rfl,rfl,rfl,Nat.le_refl _,fun _ _ _=>rfl⟩ (qF9 k1.2 k2.2)
  ·refine (insert_grow g n cap i vb (qA3 all) (vLk x) w hlt hn hcc (by omega) (by rw [qF4,hl]) rfl (own_cs hO) (QQ0 hx) (qP1 _) (QE8 x)).mono ?_
   rintro e w' ⟨rfl,rfl⟩
   obtain ⟨G,hG⟩:∃ G,G=grownCap w (n+1) cap 98:=⟨_,rfl⟩
   have hGn:n+1≤G:=by rw [hG];exact grownCap_ge w _ _ _
   have hGm:G≤maxLen:=by rw [hG];exact grownCap_le_maxLen w (n+1) cap 98 (by unfold maxLen;omega)
   rw [← hG]
   obtain ⟨zs,hzs⟩:∃ zs,zs=Builtin.zeroCells (Value.agg #[.int .i64 0,.int .i64 0,.int .i64 0,.int .i64 0]).cells (n+1 - i):=⟨_,rfl⟩
   obtain ⟨us,hus⟩:∃ us,us=Builtin.zeroCells (Value.agg #[.int .i64 0,.int .i64 0,.int .i64 0,.int .i64 0]).cells (G - (n+1)):=⟨_,rfl⟩
   have hzl:zs.size=(n+1 - i) * 4:=by rw [hzs];simp [Builtin.zeroCells,Value.cells]
   have hul:us.size=(G - (n+1)) * 4:=by rw [hus];simp [Builtin.zeroCells,Value.cells]
   rw [← hzs,← hus,hcut.1,hcut.2]
   have htl:(qA3 (all.take i)).length=i * 4:=(qT8 all i (by omega)).2.1
   have hO2:(w.alloc (.cells ((qA3 (all.take i)).toArray++zs++us) 98)).ownsRow B 98 4 (.slice (some ⟨w.heap.size,0,none⟩) (n+1) G) (n+1) (qA3 (all.take i)++zs.toList):=by
    refine ⟨by rw [List.length_append,htl,Array.length_toList,hzl];omega,.inr ⟨w.heap.size,G,(qA3 (all.take i)).toArray++zs++us,rfl,hB,heap_alloc_new w _,hGn,hGm,?_,?_⟩⟩
    ·rw [Array.size_append,Array.size_append,hzl,hul,List.size_toArray,htl];omega
    ·rw [Array.toList_append,Array.toList_append,List.take_append_of_le_length (by rw [List.length_append,Array.length_toList,Array.length_toList,hzl,List.size_toArray,htl];omega),List.take_of_length_le (by rw [List.length_append,Array.length_toList,Array.length_toList,hzl,List.size_toArray,htl];omega)]
   have k0:=World.grownBy_alloc w (.cells ((qA3 (all.take i)).toArray++zs++us) 98) (some g)
   obtain ⟨Z,hZ⟩:∃ Z,Z=w.alloc (.cells ((qA3 (all.take i)).toArray++zs++us) 98):=⟨_,rfl⟩
   rw [← hZ] at hO2 k0 ⊢
   have k1:=qW8 (vLk x) Z.drew B w.heap.size (n+1) G _ (i * 4) hO2.drew
   obtain ⟨Z1,hZ1⟩:∃ Z1,Z1=Z.drew.setCells w.heap.size (i * 4) (vLk x):=⟨_,rfl⟩
   rw [← hZ1] at k1 ⊢
   have k2:=qW8 (qA3 (all.drop i)) Z1.drew B w.heap.size (n+1) G _ ((i+1) * 4) k1.1.drew
   obtain ⟨Z2,hZ2⟩:∃ Z2,Z2=Z1.drew.setCells w.heap.size ((i+1) * 4) (qA3 (all.drop i)):=⟨_,rfl⟩
   rw [← hZ2] at k2 ⊢
   have k3:=k2.1
   rw [lay_grow all i x (by omega) zs.toList (by rw [Array.length_toList,hzl,hl])] at k3
   refine ⟨w.heap.size,G,by rw [hlen],?_,?_⟩
   ·unfold qA4
    rw [hlen]
    exact k3
   ·refine ⟨k2.2.os.trans (k1.2.os.trans k0.os),k2.2.tape.trans (k1.2.tape.trans k0.tape),k2.2.output.trans (k1.2.output.trans k0.output),?_,fun k hk hne=>?_⟩
    ·exact Nat.le_trans k0.size (Nat.le_trans k1.2.size k2.2.size)
    ·have hkw:some k≠some w.heap.size:=fun e=>by injection e;omega
     have q0:=k0.block k hk hne
     have q1:=k1.2.block k (Nat.lt_of_lt_of_le hk k0.size) hkw
     have q2:=k2.2.block k (Nat.lt_of_lt_of_le hk (Nat.le_trans k0.size k1.2.size)) hkw
     exact q2.trans (q1.trans q0)
def ClnR (L:List LkI) (w:World) (e:Ending) (w':World):Prop:=∃ (a':Option Addr) (cap':Nat),e = .returned (.slice a' L.length cap')∧qA4 w' w.heap.size (.slice a' L.length cap') L∧Below w.heap.size w w'
end

section
open Go.RowKit Go.Extern.Stop Go.Stop Go.Extern
theorem Tryz.valueOfP (t:Addr) (w:World):(ReflectliteValue.unpack (.iface 231 (.pointer (some t)))).run Tryz.prog w
  = .ok (.agg #[.pointer (some ⟨2,231,none⟩),.pointer (some ⟨w.heap.size,0,none⟩),.int .u64 150]) (w.alloc (.cells #[.pointer (some t)] 231)):=by kernel_rfl
theorem Tryz.typeP (a:Addr) (w:World):(ReflectliteValue.methodAny (ReflectliteValue.valueError "reflectlite.Value.Type" 0) (fun t _ _ _=>ReflectliteType.toType t) #[.agg #[.pointer (some ⟨2,231,none⟩),.pointer (some a),.int .u64 150]]).run Tryz.prog w
  = .ok (.iface 278 (.agg #[.pointer (some ⟨2,231,none⟩)])) w:=by kernel_rfl
theorem Tryz.methodKind (h:Value) (w:World):(Go.method 444 278 (.agg #[h]) "Kind").run Tryz.prog w = .ok (229,h) w:=by kernel_rfl
theorem Tryz.kindP (w:World):((ReflectliteType.abiMethod fun t=>(fun a:Nat=>Value.int IntKind.u8 (a:Int)) <$> Rtype.kind t) #[.pointer (some ⟨2,231,none⟩)]).run Tryz.prog w = .ok (.int .u8 22) w:=by kernel_rfl
theorem Tryz.kindT (w:World):((ReflectliteType.abiMethod fun t=>(fun a:Nat=>Value.int IntKind.u8 (a:Int)) <$> Rtype.kind t) #[.pointer (some ⟨2,227,none⟩)]).run Tryz.prog w = .ok (.int .u8 25) w:=by kernel_rfl
theorem rlm (z:Sem Value) (f:TypeId→Addr→Nat→Nat→Sem Value) (v:Value) :
  ReflectliteValue.method z f #[v]=(do match ← ReflectliteValue.parts v with | none=>z | some (t,a,fl)=>f t a fl (fl % 32)):=rfl
theorem Tryz.partsP (a:Addr) (w:World):(ReflectliteValue.parts (.agg #[.pointer (some ⟨2,231,none⟩),.pointer (some a),.int .u64 150])).run Tryz.prog w = .ok (some (231,a,150)) w:=by kernel_rfl
theorem Tryz.underP:Tryz.prog.underlying 231=some (.pointer 227):=by kernel_rfl
theorem Tryz.isNilP (a p:Addr) (W:World) (ha:W.cell? a=some (.pointer (some p))) :
  (ReflectliteValue.method (ReflectliteValue.valueError "reflectlite.Value.IsNil" 0) ReflectliteValue.isNil #[.agg #[.pointer (some ⟨2,231,none⟩),.pointer (some a),.int .u64 150]]).run Tryz.prog W = .ok (.bool false) W:=by
 rw [rlm]
 simp only [Sem.run_bind,Tryz.partsP,Result.andThen]
 simp [ReflectliteValue.isNil,loadVar,isAgg,underlying,Tryz.underP,ha,Result.andThen]
theorem Tryz.methodElem (h:Value) (w:World):(Go.method 444 278 (.agg #[h]) "Elem").run Tryz.prog w = .ok (245,.agg #[h]) w:=by kernel_rfl
theorem Tryz.methodImplements (h:Value) (w:World):(Go.method 444 278 (.agg #[h]) "Implements").run Tryz.prog w = .ok (246,.agg #[h]) w:=by kernel_rfl
theorem Tryz.methodAssignableTo (h:Value) (w:World):(Go.method 444 278 (.agg #[h]) "AssignableTo").run Tryz.prog w = .ok (243,.agg #[h]) w:=by kernel_rfl
theorem Tryz.elemP (w:World):(ReflectliteType.method ReflectliteType.elem #[.agg #[.pointer (some ⟨2,231,none⟩)]]).run Tryz.prog w = .ok (.iface 278 (.agg #[.pointer (some ⟨2,227,none⟩)])) w:=by kernel_rfl
theorem Tryz.implementsT (w:World):(ReflectliteType.relation "Implements" ReflectliteType.implements_ #[.agg #[.pointer (some ⟨2,227,none⟩)],.iface 278 (.agg #[.pointer (some ⟨2,194,none⟩)])]).run Tryz.prog w = .ok (.bool true) w:=by kernel_rfl
theorem Tryz.typeOfT (v:Value) (w:World):(ReflectliteType.typeOf #[.iface 227 v]).run Tryz.prog w = .ok (.iface 278 (.agg #[.pointer (some ⟨2,227,none⟩)])) w:=by kernel_rfl
theorem Tryz.typeOfN (v:Value) (w:World):(ReflectliteType.typeOf #[.iface 229 v]).run Tryz.prog w = .ok (.iface 278 (.agg #[.pointer (some ⟨2,229,none⟩)])) w:=by kernel_rfl
theorem Tryz.typeOfS (v:Value) (w:World):(ReflectliteType.typeOf #[.iface 308 v]).run Tryz.prog w = .ok (.iface 278 (.agg #[.pointer (some ⟨2,308,none⟩)])) w:=by kernel_rfl
theorem Tryz.assignT (w:World):(ReflectliteType.relation "AssignableTo" ReflectliteType.assignableTo #[.agg #[.pointer (some ⟨2,227,none⟩)],.iface 278 (.agg #[.pointer (some ⟨2,227,none⟩)])]).run Tryz.prog w = .ok (.bool true) w:=by kernel_rfl
theorem Tryz.assignN (w:World):(ReflectliteType.relation "AssignableTo" ReflectliteType.assignableTo #[.agg #[.pointer (some ⟨2,229,none⟩)],.iface 278 (.agg #[.pointer (some ⟨2,227,none⟩)])]).run Tryz.prog w = .ok (.bool false) w:=by kernel_rfl
theorem Tryz.assignS (w:World):(ReflectliteType.relation "AssignableTo" ReflectliteType.assignableTo #[.agg #[.pointer (some ⟨2,308,none⟩)],.iface 278 (.agg #[.pointer (some ⟨2,227,none⟩)])]).run Tryz.prog w = .ok (.bool false) w:=by kernel_rfl
theorem Tryz.valueOfT (x:LkI) (w:World):(ReflectliteValue.unpack (.iface 227 (.agg #[.int .i64 x.e,.int .i64 x.c,.int .i64 x.p,.int .i64 x.f]))).run Tryz.prog w
  = .ok (.agg #[.pointer (some ⟨2,227,none⟩),.pointer (some ⟨w.heap.size,0,none⟩),.int .u64 153]) (w.alloc (.cells #[.int .i64 x.e,.int .i64 x.c,.int .i64 x.p,.int .i64 x.f] 227)):=by kernel_rfl
theorem Tryz.elemOfP (w:World):(Rtype.elem? 231).run Tryz.prog w = .ok (some 227) w:=by kernel_rfl
theorem Tryz.mkT (p:Addr) (w:World):(ReflectliteValue.mk 227 p ReflectliteValue.flagAddr).run Tryz.prog w = .ok (.agg #[.pointer (some ⟨2,227,none⟩),.pointer (some p),.int .u64 409]) w:=by kernel_rfl
theorem Tryz.elemVP (a p:Addr) (W:World) (ha:W.cell? a=some (.pointer (some p))) :
  (ReflectliteValue.method (ReflectliteValue.valueError "reflectlite.Value.Elem" 0) ReflectliteValue.elem #[.agg #[.pointer (some ⟨2,231,none⟩),.pointer (some a),.int .u64 150]]).run Tryz.prog W
   = .ok (.agg #[.pointer (some ⟨2,227,none⟩),.pointer (some p),.int .u64 409]) W:=by
 rw [rlm]
 simp only [Sem.run_bind,Tryz.partsP,Result.andThen]
 simp [ReflectliteValue.elem,loadVar,isAgg,underlying,Tryz.underP,ha,Result.andThen,Tryz.elemOfP,Tryz.mkT]
theorem rls (v x:Value):ReflectliteValue.set #[v,x]=(do
  let (some (dst,a,fl),some (src,b,_)):=(← ReflectliteValue.parts v,← ReflectliteValue.parts x)
   | unsupported (.noEntry "extern/(internal/reflectlite.Value).Set.zeroValue")
  if fl / ReflectliteValue.flagAddr % 2==0 then unsupported (.noEntry "extern/(internal/reflectlite.Value).Set.unaddressable")
  let val ← loadVar src b
  if ← Rtype.directlyAssignable dst src then storeVar dst a val
  else if ← Rtype.implements dst src then
   if (← Rtype.kind src)==20 then
    match val with
    | .nilIface=>unsupported (.noEntry "extern/reflectlite: a nil value of one interface type handed on as a value of another")
    | _=>storeVar dst a val
   else storeVar dst a (.iface src val)
  else panicString ("reflectlite.Set: value of type " ++ (← Rtype.spelt src) ++ " is not assignable to type " ++ (← Rtype.spelt dst))
  pure (.tuple #[])):=rfl
theorem Tryz.partsTa (a:Addr) (w:World):(ReflectliteValue.parts (.agg #[.pointer (some ⟨2,227,none⟩),.pointer (some a),.int .u64 409])).run Tryz.prog w = .ok (some (227,a,409)) w:=by kernel_rfl
theorem Tryz.partsT (a:Addr) (w:World):(ReflectliteValue.parts (.agg #[.pointer (some ⟨2,227,none⟩),.pointer (some a),.int .u64 153])).run Tryz.prog w = .ok (some (227,a,153)) w:=by kernel_rfl
theorem Tryz.directT (w:World):(Rtype.directlyAssignable 227 227).run Tryz.prog w = .ok true w:=by kernel_rfl
theorem Tryz.sizeT (w:World):(sizeOf 227).run Tryz.prog w = .ok 4 w:=by kernel_rfl
theorem Tryz.isAggT (w:World):(isAgg 227).run Tryz.prog w = .ok true w:=by kernel_rfl
theorem Tryz.setT (tb b:Nat) (x:LkI) (W:World) (hb:QC7 W b 0 x) (ht:∀ j,j < 4→(W.cell? ⟨tb,0+j,none⟩).isSome=true) (hf:∀ j,j < 4→W.frozen? ⟨tb,0+j,none⟩=false) :
  (ReflectliteValue.set #[.agg #[.pointer (some ⟨2,227,none⟩),.pointer (some ⟨tb,0,none⟩),.int .u64 409],.agg #[.pointer (some ⟨2,227,none⟩),.pointer (some ⟨b,0,none⟩),.int .u64 153]]).run Tryz.prog W
   = .ok (.tuple #[]) (W.setCells tb 0 (vLk x)):=by
 have hl:=run_loadCells_list (P:=Tryz.prog) W ⟨b,0,none⟩ (vLk x) (fun j v hj=>by rw [Go.WideShapes.add_plain,Nat.zero_add];exact QQ0 hb j v hj)
 have hs:=run_storeCells_cells (P:=Tryz.prog) tb 0 (vLk x) 0 W (by simpa [vLk] using ht) (by simpa [vLk] using hf) (QE8 x)
 have hlen:(vLk x).length=4:=rfl
 rw [hlen] at hl
 have hlv:(loadVar 227 ⟨b,0,none⟩).run Tryz.prog W = .ok (.agg (vLk x).toArray) W:=by
  simp [loadVar,Tryz.isAggT,Tryz.sizeT,hl,Result.andThen]
 have hsv:(storeVar 227 ⟨tb,0,none⟩ (.agg (vLk x).toArray)).run Tryz.prog W = .ok () (W.setCells tb 0 (vLk x)):=by
  have hc:(Value.agg (vLk x).toArray).cells=(vLk x).toArray:=rfl
  simp [storeVar,hc,Tryz.sizeT,hlen,Result.andThen,hs]
 rw [rls]
 simp only [Sem.run_bind,Tryz.partsTa,Tryz.partsT,Result.andThen]
 simp [ReflectliteValue.flagAddr,hlv,Result.andThen,Tryz.directT,hsv]
end

section
open Go.RowKit Go.Extern.Stop Go.Stop Go.Extern
theorem Tryz.noAsN (v:Value) (xT:TypeId) (w:World):(Instr.typeAssert (.iface 229 v) xT 283 true).run Tryz.prog w = .ok (.tuple #[.nilIface,.bool false]) w:=run_typeAssert_lacksB Tryz.underlying283 (by kernel_rfl) (by kernel_rfl) v xT w
theorem Tryz.noAsS (v:Value) (xT:TypeId) (w:World):(Instr.typeAssert (.iface 308 v) xT 283 true).run Tryz.prog w = .ok (.tuple #[.nilIface,.bool false]) w:=run_typeAssert_lacksB Tryz.underlying283 (by kernel_rfl) (by kernel_rfl) v xT w
theorem Tryz.unN (v:Value) (xT:TypeId) (w:World):(Instr.typeAssert (.iface 229 v) xT 286 true).run Tryz.prog w = .ok (.tuple #[.iface 229 v,.bool true]) w:=run_typeAssert_hasB Tryz.underlying286 (by kernel_rfl) v xT w
theorem Tryz.noUnS (v:Value) (xT:TypeId) (w:World):(Instr.typeAssert (.iface 308 v) xT 286 true).run Tryz.prog w = .ok (.tuple #[.nilIface,.bool false]) w:=run_typeAssert_lacksB Tryz.underlying286 (by kernel_rfl) (by kernel_rfl) v xT w
theorem Tryz.noUmS (v:Value) (xT:TypeId) (w:World):(Instr.typeAssert (.iface 308 v) xT 288 true).run Tryz.prog w = .ok (.tuple #[.nilIface,.bool false]) w:=run_typeAssert_lacksB Tryz.underlying288 (by kernel_rfl) (by kernel_rfl) v xT w
theorem Tryz.methodUnwrap (a b c d e:Value) (w:World):(Go.method 444 229 (.agg #[a,b,c,d,e]) "Unwrap").run Tryz.prog w = .ok (237,.agg #[a,b,c,d,e]) w:=by kernel_rfl
theorem unwrap_c (y:LkI) (v:Value) (w:World):Calls Tryz.prog 237 #[.agg #[.int .i64 y.e,.int .i64 y.c,.int .i64 y.p,.int .i64 y.f,.iface 227 v]] w fun e w'=>e = .returned (.iface 227 v)∧w'=w.alloc (.cells #[.int .i64 y.e,.int .i64 y.c,.int .i64 y.p,.int .i64 y.f,.iface 227 v] 229):=by
 go_enter Tryz.func237,Tryz.ntmps237
 go_wp2
 go_ret
 exact ⟨rfl,rfl⟩
theorem QG6 {B b:Nat} {a:World} (hb:B≤b):∀ (vs:List Value) (o:Nat) (w:World),Below B a w→Below B a (w.setCells b o vs)
 | [],_,_,h=>h
 | v::r,o,w,h=>QG6 hb r (o+1) _ (h.setCell (p:=⟨b,o,none⟩) hb v)
/-- errors.As at a needError that wraps a takenError. -/
theorem as_need (y x:LkI) (tb:Nat) (w:World) (hg:w.cell? ⟨1,0,none⟩=some (.iface 278 (.agg #[.pointer (some ⟨2,194,none⟩)]))) (ht0:∀ j,j < 4→(w.cell? ⟨tb,0+j,none⟩).isSome=true) (hf0:∀ j,j < 4→w.frozen? ⟨tb,0+j,none⟩=false) :
  Calls Tryz.prog 167 #[.iface 229 (.agg #[.int .i64 y.e,.int .i64 y.c,.int .i64 y.p,.int .i64 y.f,.iface 227 (.agg #[.int .i64 x.e,.int .i64 x.c,.int .i64 x.p,.int .i64 x.f])]),.iface 231 (.pointer (some ⟨tb,0,none⟩))] w fun ev w'=>ev = .returned (.bool true)∧Below tb w w':=by
 have h6:=@run_callFunc_extern Tryz.prog 187 _ (fun args=>ReflectliteValue.unpack (args.getD 0 (.tuple #[]))) Tryz.func187 (by kernel_rfl) (by kernel_rfl) (by kernel_rfl) (by kernel_rfl)
 have h7:=@run_callFunc_extern Tryz.prog 188 _ (ReflectliteValue.methodAny (ReflectliteValue.valueError "reflectlite.Value.Type" 0) (fun t _ _ _=>ReflectliteType.toType t)) Tryz.func188 (by kernel_rfl) (by kernel_rfl) (by kernel_rfl) (by kernel_rfl)
 have h8:=@run_callFunc_extern Tryz.prog 189 _ (ReflectliteValue.method (ReflectliteValue.valueError "reflectlite.Value.IsNil" 0) ReflectliteValue.isNil) Tryz.func189 (by kernel_rfl) (by kernel_rfl) (by kernel_rfl) (by kernel_rfl)
 have h27:=@run_callFunc_extern Tryz.prog 229 _ (ReflectliteType.abiMethod fun t=>do pure (.int .u8 (← Rtype.kind t))) Tryz.func229 (by kernel_rfl) (by kernel_rfl) (by kernel_rfl) (by kernel_rfl)
 have h37:=@run_callFunc_extern Tryz.prog 245 _ (ReflectliteType.method ReflectliteType.elem) Tryz.func245 (by kernel_rfl) (by kernel_rfl) (by kernel_rfl) (by kernel_rfl)
 have h38:=@run_callFunc_extern Tryz.prog 246 _ (ReflectliteType.relation "Implements" ReflectliteType.implements_) Tryz.func246 (by kernel_rfl) (by kernel_rfl) (by kernel_rfl) (by kernel_rfl)
 have h10:=@run_callFunc_extern Tryz.prog 205 _ ReflectliteType.typeOf Tryz.func205 (by kernel_rfl) (by kernel_rfl) (by kernel_rfl) (by kernel_rfl)
 have h35:=@run_callFunc_extern Tryz.prog 243 _ (ReflectliteType.relation "AssignableTo" ReflectliteType.assignableTo) Tryz.func243 (by kernel_rfl) (by kernel_rfl) (by kernel_rfl) (by kernel_rfl)
 have h11:=@run_callFunc_extern Tryz.prog 206 _ (ReflectliteValue.method (ReflectliteValue.valueError "reflectlite.Value.Elem" 0) ReflectliteValue.elem) Tryz.func206 (by kernel_rfl) (by kernel_rfl) (by kernel_rfl) (by kernel_rfl)
 have h12:=@run_callFunc_extern Tryz.prog 207 _ ReflectliteValue.set Tryz.func207 (by kernel_rfl) (by kernel_rfl) (by kernel_rfl) (by kernel_rfl)
 have tT:=Tryz.typeOfT
 have tN:=Tryz.typeOfN
 have mA:=Tryz.methodAssignableTo
 have aT:=Tryz.assignT
 have aN:=Tryz.assignN
 have vT:=Tryz.valueOfT
 have f6:=Tryz.valueOfP
 have f7:=Tryz.typeP
 have mK:=Tryz.methodKind
 have mE:=Tryz.methodElem
 have mI:=Tryz.methodImplements
 have kP:=Tryz.kindP
 have kT:=Tryz.kindT
 have eP:=Tryz.elemP
 have iT:=Tryz.implementsT
 have nA:=Tryz.noAsN
 have uN:=Tryz.unN
 have mU:=Tryz.methodUnwrap
 have htl:tb < w.heap.size:=by
  have:=ht0 0 (by omega)
  obtain ⟨v,hv⟩:=Option.isSome_iff_exists.1 this
  exact zL w ⟨tb,0+0,none⟩ hv
 have hgl:1 < w.heap.size:=zL w _ hg
 obtain ⟨W2,hW2⟩:∃ W2,W2=(w.alloc (.cells #[.pointer (some ⟨tb,0,none⟩)] 231)).alloc (.cells #[.pointer (some ⟨2,231,none⟩),.pointer (some ⟨w.heap.size,0,none⟩),.int .u64 150] 253):=⟨_,rfl⟩
 have n8:=Tryz.isNilP ⟨w.heap.size,0,none⟩ ⟨tb,0,none⟩ ((w.alloc (.cells #[.pointer (some ⟨tb,0,none⟩)] 231)).alloc (.cells #[.pointer (some ⟨2,231,none⟩),.pointer (some ⟨w.heap.size,0,none⟩),.int .u64 150] 253)) (by simp)
 have hg2:((w.alloc (.cells #[.pointer (some ⟨tb,0,none⟩)] 231)).alloc (.cells #[.pointer (some ⟨2,231,none⟩),.pointer (some ⟨w.heap.size,0,none⟩),.int .u64 150] 253)).cell? ⟨1,0,none⟩=some (.iface 278 (.agg #[.pointer (some ⟨2,194,none⟩)])):=by
  rw [World.cell?_alloc_lt _ _ ⟨1,0,none⟩ (by simp;omega),World.cell?_alloc_lt _ _ ⟨1,0,none⟩ hgl];exact hg
 obtain ⟨W4,hW4⟩:∃ W4,W4=(((w.alloc (.cells #[.pointer (some ⟨tb,0,none⟩)] 231)).alloc (.cells #[.pointer (some ⟨2,231,none⟩),.pointer (some ⟨w.heap.size,0,none⟩),.int .u64 150] 253)).alloc (.cells #[.pointer (some ⟨2,231,none⟩),.pointer (some ⟨w.heap.size,0,none⟩),.int .u64 150] 253)).alloc (.cells #[.int .i64 y.e,.int .i64 y.c,.int .i64 y.p,.int .i64 y.f,.iface 227 (.agg #[.int .i64 x.e,.int .i64 x.c,.int .i64 x.p,.int .i64 x.f])] 229):=⟨_,rfl⟩
 have hb4:Below w.heap.size w W4:=by
  rw [hW4]
  exact (((zN).alloc (by simp) _).alloc (by simp;omega) _).alloc (by simp;omega) _
 have hz4:W4.heap.size=w.heap.size+1+1+1+1:=by rw [hW4];simp
 have c0:W4.cell? ⟨w.heap.size,0,none⟩=some (.pointer (some ⟨tb,0,none⟩)):=by
  rw [hW4,World.cell?_alloc_lt _ _ ⟨w.heap.size,0,none⟩ (by simp;omega),World.cell?_alloc_lt _ _ ⟨w.heap.size,0,none⟩ (by simp;omega),World.cell?_alloc_lt _ _ ⟨w.heap.size,0,none⟩ (by simp)];simp
 have el:=Tryz.elemVP ⟨w.heap.size,0,none⟩ ⟨tb,0,none⟩ W4 c0
 have bx:∀ j v,#[Value.pointer (some ⟨2,231,none⟩),.pointer (some ⟨w.heap.size,0,none⟩),.int .u64 150][j]? = some v→W4.cell? ⟨w.heap.size+1+1,j,none⟩=some v:=fun j v hj=>by
  rw [hW4,World.cell?_alloc_lt _ _ ⟨w.heap.size+1+1,j,none⟩ (by simp),World.cell?_alloc_at _ _ _ _ (by simp)];exact hj
 have b0:=bx 0 _ rfl
 have b1:=bx 1 _ rfl
 have b2:=bx 2 _ rfl
 have hb5:Below w.heap.size w (W4.alloc (.cells #[.int .i64 x.e,.int .i64 x.c,.int .i64 x.p,.int .i64 x.f] 227)):=hb4.alloc (by omega) _
 have st:=Tryz.setT tb (w.heap.size+1+1+1+1) x (W4.alloc (.cells #[.int .i64 x.e,.int .i64 x.c,.int .i64 x.p,.int .i64 x.f] 227))
  (by rw [← hz4];exact ⟨by simp,by simp,by simp,by simp⟩)
  (fun j hj=>by rw [hb5.cell (p:=⟨tb,0+j,none⟩) htl];exact ht0 j hj)
  (fun j hj=>by rw [hb5.frozen (p:=⟨tb,0+j,none⟩) htl];exact hf0 j hj)
 have HB:Hid (Below tb w ((W4.alloc (.cells #[.int .i64 x.e,.int .i64 x.c,.int .i64 x.p,.int .i64 x.f] 227)).setCells tb 0 (vLk x))):=QG6 (by omega) _ _ _ (hb5.mono (by omega))
 have HW4:=(show Hid (_=_) from hW4)
 clear hW2 hb4 hb5 hW4 bx c0 hg ht0 hf0
 go_enter Tryz.func167,Tryz.ntmps167
 go_wp2
 refine wp_loop_rounds 2 ?_
 rw [rounds_succ]
 go_wp2_with (first
  | (go_at_call 237;refine (unwrap_c y _ _).mono ?_;rintro e w' ⟨rfl,rfl⟩)
  | fail)
 rw [← HW4.out]
 rw [rounds_succ]
 go_wp2
 go_ret
 exact ⟨rfl,HB.out⟩
/-- errors.As at an error of errors.New's make. -/
theorem as_other (q:Addr) (tb:Nat) (w:World) (hg:w.cell? ⟨1,0,none⟩=some (.iface 278 (.agg #[.pointer (some ⟨2,194,none⟩)]))) :
  Calls Tryz.prog 167 #[.iface 308 (.pointer (some q)),.iface 231 (.pointer (some ⟨tb,0,none⟩))] w fun ev w'=>ev = .returned (.bool false)∧Below w.heap.size w w':=by
 have h6:=@run_callFunc_extern Tryz.prog 187 _ (fun args=>ReflectliteValue.unpack (args.getD 0 (.tuple #[]))) Tryz.func187 (by kernel_rfl) (by kernel_rfl) (by kernel_rfl) (by kernel_rfl)
 have h7:=@run_callFunc_extern Tryz.prog 188 _ (ReflectliteValue.methodAny (ReflectliteValue.valueError "reflectlite.Value.Type" 0) (fun t _ _ _=>ReflectliteType.toType t)) Tryz.func188 (by kernel_rfl) (by kernel_rfl) (by kernel_rfl) (by kernel_rfl)
 have h8:=@run_callFunc_extern Tryz.prog 189 _ (ReflectliteValue.method (ReflectliteValue.valueError "reflectlite.Value.IsNil" 0) ReflectliteValue.isNil) Tryz.func189 (by kernel_rfl) (by kernel_rfl) (by kernel_rfl) (by kernel_rfl)
 have h27:=@run_callFunc_extern Tryz.prog 229 _ (ReflectliteType.abiMethod fun t=>do pure (.int .u8 (← Rtype.kind t))) Tryz.func229 (by kernel_rfl) (by kernel_rfl) (by kernel_rfl) (by kernel_rfl)
 have h37:=@run_callFunc_extern Tryz.prog 245 _ (ReflectliteType.method ReflectliteType.elem) Tryz.func245 (by kernel_rfl) (by kernel_rfl) (by kernel_rfl) (by kernel_rfl)
 have h38:=@run_callFunc_extern Tryz.prog 246 _ (ReflectliteType.relation "Implements" ReflectliteType.implements_) Tryz.func246 (by kernel_rfl) (by kernel_rfl) (by kernel_rfl) (by kernel_rfl)
 have h10:=@run_callFunc_extern Tryz.prog 205 _ ReflectliteType.typeOf Tryz.func205 (by kernel_rfl) (by kernel_rfl) (by kernel_rfl) (by kernel_rfl)
 have h35:=@run_callFunc_extern Tryz.prog 243 _ (ReflectliteType.relation "AssignableTo" ReflectliteType.assignableTo) Tryz.func243 (by kernel_rfl) (by kernel_rfl) (by kernel_rfl) (by kernel_rfl)
 have h11:=@run_callFunc_extern Tryz.prog 206 _ (ReflectliteValue.method (ReflectliteValue.valueError "reflectlite.Value.Elem" 0) ReflectliteValue.elem) Tryz.func206 (by kernel_rfl) (by kernel_rfl) (by kernel_rfl) (by kernel_rfl)
 have h12:=@run_callFunc_extern Tryz.prog 207 _ ReflectliteValue.set Tryz.func207 (by kernel_rfl) (by kernel_rfl) (by kernel_rfl) (by kernel_rfl)
 have tS:=Tryz.typeOfS
 have mA:=Tryz.methodAssignableTo
 have aS:=Tryz.assignS
 have f6:=Tryz.valueOfP
 have f7:=Tryz.typeP
 have mK:=Tryz.methodKind
 have mE:=Tryz.methodElem
 have mI:=Tryz.methodImplements
 have kP:=Tryz.kindP
 have kT:=Tryz.kindT
 have eP:=Tryz.elemP
 have iT:=Tryz.implementsT
 have nA:=Tryz.noAsS
 have nU:=Tryz.noUnS
 have nV:=Tryz.noUmS
 have hgl:1 < w.heap.size:=zL w _ hg
 have n8:=Tryz.isNilP ⟨w.heap.size,0,none⟩ ⟨tb,0,none⟩ ((w.alloc (.cells #[.pointer (some ⟨tb,0,none⟩)] 231)).alloc (.cells #[.pointer (some ⟨2,231,none⟩),.pointer (some ⟨w.heap.size,0,none⟩),.int .u64 150] 253)) (by simp)
 have hg2:((w.alloc (.cells #[.pointer (some ⟨tb,0,none⟩)] 231)).alloc (.cells #[.pointer (some ⟨2,231,none⟩),.pointer (some ⟨w.heap.size,0,none⟩),.int .u64 150] 253)).cell? ⟨1,0,none⟩=some (.iface 278 (.agg #[.pointer (some ⟨2,194,none⟩)])):=by
  rw [World.cell?_alloc_lt _ _ ⟨1,0,none⟩ (by simp;omega),World.cell?_alloc_lt _ _ ⟨1,0,none⟩ hgl];exact hg
 clear hg
 go_enter Tryz.func167,Tryz.ntmps167
 go_wp2
 refine wp_loop_rounds 1 ?_
 rw [rounds_succ]
 go_wp2
 go_ret
 exact ⟨rfl,((zN).alloc (by simp) _).alloc (by simp;omega) _⟩
end

end Go.Proofs.YtlhgjackapdmbaaGreatDoor
