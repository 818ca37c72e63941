/- Contracts. -/
import Derived.Test.YtlhgjackapdmbaaGreatDoorPe19
import Derived.Deep.WholeRow
import Derived.Test.YtlhgjackapdmbaaGreatDoorPe32
namespace Go.Proofs.YtlhgjackapdmbaaGreatDoor
set_option maxRecDepth 100000
set_option maxHeartbeats 8000000
open Go.RowKit
set_option linter.unusedVariables false
set_option linter.unusedSimpArgs false

abbrev TS:=Nat→Bool
def noT:TS:=fun _=>false
def QH8 (T:TS) (x:Nat):TS:=fun y=>if y=x then true else T y
def oneT (s:Int):TS:=fun x=>(List.range 8).any fun p=>(x==2 ^ p)&&qJ0 s ((p:Int)+1)
def okAB (ap:Bool) (a b:Nat):Bool := !(ap&&(a &&& b != 0))
def QP7 (ap:Bool) (L R:TS):TS:=fun x=>(List.range 256).any fun a=>L a&&(List.range 256).any fun b=>R b&&okAB ap a b&&(a ||| b==x)
theorem bothT_iff {ap:Bool} {L R:TS} {x:Nat}:QP7 ap L R x=true↔∃ a b,a < 256∧b < 256∧L a=true∧R b=true∧okAB ap a b=true∧a ||| b=x:=by
 unfold QP7
 rw [List.any_eq_true]
 constructor
 ·rintro ⟨a,ha,h⟩
  rw [Bool.and_eq_true,List.any_eq_true] at h
  obtain ⟨hL,b,hb,h⟩:=h
  rw [Bool.and_eq_true,Bool.and_eq_true] at h
  exact ⟨a,b,List.mem_range.1 ha,List.mem_range.1 hb,hL,h.1.1,h.1.2,by simpa using h.2⟩
 ·rintro ⟨a,b,ha,hb,hL,hR,ho,rfl⟩
  refine ⟨a,List.mem_range.2 ha,?_⟩
  rw [Bool.and_eq_true,List.any_eq_true]
  exact ⟨hL,b,List.mem_range.2 hb,by simp [hR,ho]⟩
def QX2 (ap:Bool) (L R:TS) (i j:Nat) (T:TS):Prop:=∀ x,x < 256→(T x=true↔∃ a b,(a < i∨a=i∧b < j)∧a < 256∧b < 256∧L a=true∧R b=true∧okAB ap a b=true∧a ||| b=x)
theorem QS4 (ap:Bool) (L R:TS):QX2 ap L R 0 0 noT:=by
 intro x hx
 constructor
 ·intro h;cases h
 ·rintro ⟨a,b,h,_⟩;omega
theorem both_skip {ap:Bool} {L R:TS} {i j:Nat} {T:TS} (h:QX2 ap L R i j T) (hl:L i=false):QX2 ap L R (i+1) 0 T:=by
 intro x hx
 rw [h x hx]
 constructor
 ·rintro ⟨a,b,h0,h1⟩
  exact ⟨a,b,by omega,h1⟩
 ·rintro ⟨a,b,h0,h1,h2,h3,h4⟩
  have : a≠i:=fun e=>by rw [e,hl] at h3;cases h3
  exact ⟨a,b,by omega,h1,h2,h3,h4⟩
theorem both_next {ap:Bool} {L R:TS} {i:Nat} {T:TS} (h:QX2 ap L R i 256 T):QX2 ap L R (i+1) 0 T:=by
 intro x hx
 rw [h x hx]
 constructor
 ·rintro ⟨a,b,h0,h1⟩
  exact ⟨a,b,by omega,h1⟩
 ·rintro ⟨a,b,h0,h1,h2,h3⟩
  exact ⟨a,b,by omega,h1,h2,h3⟩
theorem both_no {ap:Bool} {L R:TS} {i j:Nat} {T:TS} (h:QX2 ap L R i j T) (hn:(R j&&okAB ap i j)=false):QX2 ap L R i (j+1) T:=by
 intro x hx
 rw [h x hx]
 constructor
 ·rintro ⟨a,b,h0,h1⟩
  exact ⟨a,b,by omega,h1⟩
 ·rintro ⟨a,b,h0,h1,h2,h3,h4,h5,h6⟩
  have : ¬ (a=i∧b=j):=by
   rintro ⟨rfl,rfl⟩
   rw [h4,h5] at hn;cases hn
  exact ⟨a,b,by omega,h1,h2,h3,h4,h5,h6⟩
theorem QW1 {ap:Bool} {L R:TS} {i j:Nat} {T:TS} (h:QX2 ap L R i j T) (hi:i < 256) (hj:j < 256) (hL:L i=true) (hn:(R j&&okAB ap i j)=true):QX2 ap L R i (j+1) (QH8 T (i ||| j)):=by
 rw [Bool.and_eq_true] at hn
 intro x hx
 unfold QH8
 by_cases e:x=i ||| j
 ·rw [if_pos e]
  exact ⟨fun _=>⟨i,j,by omega,hi,hj,hL,hn.1,hn.2,e.symm⟩,fun _=>rfl⟩
 ·rw [if_neg e,h x hx]
  constructor
  ·rintro ⟨a,b,h0,h1⟩
   exact ⟨a,b,by omega,h1⟩
  ·rintro ⟨a,b,h0,h1,h2,h3,h4,h5,h6⟩
   have : ¬ (a=i∧b=j):=by
    rintro ⟨rfl,rfl⟩
    exact e h6.symm
   exact ⟨a,b,by omega,h1,h2,h3,h4,h5,h6⟩
theorem both_end {ap:Bool} {L R:TS} {j:Nat} {T:TS} (h:QX2 ap L R 256 j T):∀ x,x < 256→T x=QP7 ap L R x:=by
 intro x hx
 rw [Bool.eq_iff_iff,h x hx,bothT_iff]
 constructor
 ·rintro ⟨a,b,h0,h1⟩
  exact ⟨a,b,h1⟩
 ·rintro ⟨a,b,h1,h2,h3⟩
  exact ⟨a,b,.inl h1,h1,h2,h3⟩
def qH4 (T:TS):Array Value:=((List.range 256).map fun i=>Value.bool (T i)).toArray
theorem qI8 (T:TS):(qH4 T).size=256:=by simp [qH4]
theorem qZ3 (T:TS) {i:Nat} (h:i < 256):(qH4 T)[i]? = some (.bool (T i)):=by simp [qH4,h]
theorem arrT_ext {T U:TS} (h:∀ x,x < 256→T x=U x):qH4 T=qH4 U:=by
 unfold qH4
 congr 1
 apply List.map_congr_left
 intro x hx
 rw [h x (List.mem_range.1 hx)]
theorem QW6 (T:TS) {i:Nat} (h:i < 256):(qH4 T).setIfInBounds i (.bool true)=qH4 (QH8 T i):=by
 apply Array.ext_getElem?
 intro j
 rw [Array.getElem?_setIfInBounds]
 by_cases hj:j < 256
 ·by_cases e:i=j
  ·subst e
   rw [if_pos rfl,if_pos (by rw [qI8];exact h),qZ3 _ h];simp [QH8]
  ·rw [if_neg e,qZ3 _ hj,qZ3 _ hj];simp [QH8,show ¬ j=i from fun q=>e q.symm]
 ·rw [if_neg (by omega),Array.getElem?_eq_none (by rw [qI8];omega),Array.getElem?_eq_none (by rw [qI8];omega)]
theorem QS5 (T:TS):(qH4 T).all (·.oneCell')=true:=by
 rw [Array.all_eq_true']
 intro v hv
 simp [qH4] at hv
 obtain ⟨i,_,rfl⟩:=hv
 rfl
def qQ1 (f:RoI→Int) (ts:List TS) (p:qD0):TS:=if p.k=1 then oneT (f (p.ro,p.rn)) else QP7 (decide (p.k=3)) (ts[p.l.toNat]?.getD noT) (ts[p.r.toNat]?.getD noT)
def qB7 (f:RoI→Int) (zs:List qD0):Nat→List TS
 | 0=>[]
 | k+1=>match zs[k]? with
  | none=>qB7 f zs k
  | some p=>qB7 f zs k++[qQ1 f (qB7 f zs k) p]
theorem qT2 {zs:List qD0} {k:Nat} {p:qD0} (h:zs[k]? = some p) (f:RoI→Int):qB7 f zs (k+1)=qB7 f zs k++[qQ1 f (qB7 f zs k) p]:=by
 simp [qB7,h]
theorem qS1 (f:RoI→Int) (zs:List qD0):∀ k,k≤zs.length→(qB7 f zs k).length=k
 | 0,_=>rfl
 | k+1,h=>by
  rw [qT2 (List.getElem?_eq_getElem (show k < zs.length by omega))]
  simp [qS1 f zs k (by omega)]
/-- What the last part tells. -/
def qS2 (f:RoI→Int) (zs:List qD0):TS:=(qB7 f zs zs.length)[zs.length - 1]?.getD noT

theorem QD0:Tryz.prog.underlying 214=some (.array 256 4):=by kernel_rfl
theorem ts_info:(Tryz.prog.info? 214).map (fun i=>(i.zero,i.size))=some (some (.agg (qH4 noT)),256):=by kernel_rfl
theorem ts_zero (w:World):(zeroValue 214).run Tryz.prog w = .ok (.agg (qH4 noT)) w:=(zero_of_info ts_info).1 w
theorem QB6:(Tryz.prog.info? 214).map (·.size)=some 256:=(zero_of_info ts_info).2
theorem QE5 (w:World) (o:Obj) {b:Nat} (i:Nat) (hb:b < w.heap.size):(w.alloc o).cell? ⟨b,i,none⟩=w.cell? ⟨b,i,none⟩:=((Below.refl _ _).alloc (Nat.le_refl _) o).cell (p:=⟨b,i,none⟩) hb
theorem cell_new (w:World) (c:Array Value) (t:TypeId) (i:Nat):(w.alloc (.cells c t)).cell? ⟨w.heap.size,i,none⟩=c[i]? := cell_of_row _ _ i c t (0,0) (heap_alloc_last w _)
theorem heap_old (w:World) (o:Obj) {b:Nat} (hb:b < w.heap.size):(w.alloc o).heap[b]? = w.heap[b]? := ((Below.refl _ _).alloc (Nat.le_refl _) o).block b hb
theorem QC3 {w:World} {g:Nat} {c c':Array Value} {t:TypeId} {fr:Nat × Nat} (h:w.heap[g]? = some (.cells c t fr)):(w.setRow g c').heap[g]? = some (.cells c' t fr):=by
 simp only [World.setRow]
 rw [Array.getElem?_modify,if_pos rfl,h]
 rfl
theorem QB1 {w:World} {g i:Nat} {c':Array Value} (h:i≠g):(w.setRow g c').heap[i]? = w.heap[i]? := by
 simp only [World.setRow]
 rw [Array.getElem?_modify,if_neg (fun e=>h e.symm)]
theorem size_setRow (w:World) (g:Nat) (c':Array Value):(w.setRow g c').heap.size=w.heap.size:=by simp [World.setRow]
theorem QG5 {B:Nat} {w0 w:World} {g:Nat} (h:Below B w0 w) (hg:B≤g) (c:Array Value):Below B w0 (w.setRow g c) :=
 ⟨h.os,h.tape,h.output,by rw [size_setRow];exact h.size,fun i hi=>by rw [QB1 (by omega)];exact h.block i hi⟩
theorem storeAt_row (w:World) (g:Nat) (old T:TS) (hg:w.heap[g]? = some (.cells (qH4 old) 214 (0,0))) :
  (Instr.storeAt 214 (.pointer (some ⟨g,0,none⟩)) (.agg (qH4 T))).run Tryz.prog w = .ok () (w.setRow g (qH4 T)):=by
 simp only [Instr.storeAt,Instr.sureAddr,Sem.run_bind,Sem.run_pure,Result.andThen]
 exact run_storeVar_row _ _ _ _ _ _ hg (by rw [qI8];exact QB6) (by rw [qI8,qI8]) (QS5 T)
theorem QA7 (w:World) (g:Nat) (old T:TS) (hg:w.heap[g]? = some (.cells (qH4 old) 214 (0,0))) :
  (storeCells ⟨g,0,none⟩ (qH4 T).toList).run Tryz.prog w = .ok () (w.setRow g (qH4 T)):=by
 have:=run_storeCells_from (P:=Tryz.prog) g 214 (qH4 T).toList 0 (qH4 old) w hg (by rw [Nat.zero_add,qI8,Array.length_toList,qI8]) (fun v hv=>(Array.all_eq_true_iff_forall_mem.1 (QS5 T)) v (by simpa using hv))
 simpa using this
theorem qW9 (w:World) (g:Nat) (T:TS) (hg:w.heap[g]? = some (.cells (qH4 T) 214 (0,0))) :
  (loadVar 214 ⟨g,0,none⟩).run Tryz.prog w = .ok (.agg (qH4 T)) w :=
 run_loadVar_row _ _ _ _ _ _ _ hg QD0 rfl (by rw [qI8];exact QB6)
theorem QR3 (w:World) (g:Nat) (T:TS) (hg:w.heap[g]? = some (.cells (qH4 T) 214 (0,0))) :
  (Instr.loadAt 214 (.pointer (some ⟨g,0,none⟩))).run Tryz.prog w = .ok (.agg (qH4 T)) w:=by
 simp only [Instr.loadAt,Instr.sureAddr,Sem.run_bind,Sem.run_pure,Result.andThen]
 exact qW9 w g T hg
theorem together_c (L R:TS) (ap:Bool) (w:World) :
  Calls Tryz.prog 178 #[.agg (qH4 L),.agg (qH4 R),.bool ap] w fun e w'=>e = .returned (.agg (qH4 (QP7 ap L R)))∧Below w.heap.size w w':=by
 have hz:=ts_zero
 obtain ⟨W,hW⟩:∃ W,W=((w.alloc (.cells (qH4 L) 214)).alloc (.cells (qH4 R) 214)).alloc (.cells (qH4 noT) 214):=⟨_,rfl⟩
 have hs0:w.heap.size+1+1+1=W.heap.size:=by rw [hW];simp
 have HSz:Hid (w.heap.size+1+1+1=W.heap.size):=hs0
 clear hs0
 have B0:Below w.heap.size w W:=by rw [hW];exact ((zN).alloc (by simp) _).alloc (by simp;omega) _
 have HL:Hid (∀ (o:Obj) (i:Nat),i < 256→(W.alloc o).cell? ⟨w.heap.size,i,none⟩=some (.bool (L i))):=fun o i hi=>by
  rw [hW,QE5 _ _ _ (by simp;omega),QE5 _ _ _ (by simp;omega),QE5 _ _ _ (by simp),cell_new,qZ3 _ hi]
 have HR:Hid (∀ (o:Obj) (i:Nat),i < 256→(W.alloc o).cell? ⟨w.heap.size+1,i,none⟩=some (.bool (R i))):=fun o i hi=>by
  rw [hW,QE5 _ _ _ (by simp),QE5 _ _ _ (by simp)]
  have:=cell_new (w.alloc (.cells (qH4 L) 214)) (qH4 R) 214 i
  rw [World.size_alloc] at this
  rw [this,qZ3 _ hi]
 have HRes:Hid (∀ o:Obj,(W.alloc o).heap[w.heap.size+1+1]? = some (.cells (qH4 noT) 214 (0,0))):=fun o=>by
  rw [hW,heap_old _ _ (by simp)]
  have:=heap_alloc_last ((w.alloc (.cells (qH4 L) 214)).alloc (.cells (qH4 R) 214)) (.cells (qH4 noT) 214)
  rw [World.size_alloc,World.size_alloc] at this
  exact this
 go_enter Tryz.func178,Tryz.ntmps178
 go_wp2_with fail
 rw [← hW]
 clear hW hz
 have hs:=HSz.out
 simp only [hs]
 go_loopw [10] (fun i wr=>∃ (k:Nat) (T:TS),k≤256∧i = .int .i64 (k:Int)∧wr=W.alloc (.cells (qH4 T) 214)∧Hid (QX2 ap L R k 0 T)) (fun i _=>256 - (intOf i).toNat)
 case atStart=>exact ⟨0,noT,by omega,rfl,rfl,QS4 ap L R⟩
 case round =>
  obtain ⟨k,T,hk,rfl,rfl,HB⟩:=hrel
  by_cases hlt:k < 256
  ·have hlt':(k:Int) < 256:=by omega
   have cL:=HL.out (.cells (qH4 T) 214) k hlt
   obtain ⟨l,hl⟩:∃ l,L k=l:=⟨_,rfl⟩
   have HLk:Hid (L k=l):=hl
   rw [hl] at cL
   clear hl
   cases l
   ·go_wp2_with fail
    exact ⟨⟨k+1,T,by omega,by go_num,rfl,both_skip HB.out HLk.out⟩,by simp [intOf];omega⟩
   ·go_wp2_with fail
    go_loopw [17] (fun j wr=>∃ (m:Nat) (U:TS),m≤256∧j = .int .i64 (m:Int)∧wr=W.alloc (.cells (qH4 U) 214)∧Hid (QX2 ap L R k m U)) (fun j _=>256 - (intOf j).toNat)
    case atStart=>exact ⟨0,T,by omega,rfl,rfl,HB⟩
    case round =>
     obtain ⟨m,U,hm,rfl,rfl,HC⟩:=hrel
     by_cases hmt:m < 256
     ·have hmt':(m:Int) < 256:=by omega
      have cR:=HR.out (.cells (qH4 U) 214) m hmt
      obtain ⟨r,hr⟩:∃ r,R m=r:=⟨_,rfl⟩
      have HRm:Hid (R m=r):=hr
      rw [hr] at cR
      have hand:bits .and .i64 (k:Int) (m:Int)=((k &&& m:Nat):Int):=QN9 k m hlt hmt
      have hor:bits .or .i64 (k:Int) (m:Int)=((k ||| m:Nat):Int):=QD7 k m hlt hmt
      have hx:k ||| m < 256:=Nat.or_lt_two_pow (n:=8) hlt hmt
      obtain ⟨q,hq⟩:∃ q,((k &&& m) != 0)=q:=⟨_,rfl⟩
      have hq':((((k &&& m:Nat):Int)) != 0)=q:=by rw [← hq];rw [Bool.eq_iff_iff];simp
      have hok:okAB ap k m = !(ap&&q):=by unfold okAB;rw [hq]
      have hn0:(R m&&okAB ap k m)=(r && !(ap&&q)):=by rw [hr,hok]
      have HN:Hid ((R m&&okAB ap k m)=(r && !(ap&&q))):=hn0
      clear hn0
      have HX:Hid (k ||| m=k ||| m):=rfl
      obtain ⟨x,hxx⟩:∃ x,x=k ||| m:=⟨_,rfl⟩
      have HXX:Hid (x=k ||| m):=hxx
      rw [← hxx] at hor hx
      have hx':(x:Int) < 256:=by omega
      have cx:(qH4 U)[x]? = some (.bool (U x)):=qZ3 U hx
      generalize hy:((k &&& m:Nat):Int)=y at hand hq'
      clear hy hr hq hok hxx HX
      cases r
      ·go_wp2_with fail
       exact ⟨⟨m+1,U,by omega,by go_num,rfl,both_no HC.out HN.out⟩,by simp [intOf];omega⟩
      ·cases ap
       ·go_wp2_with fail
        refine ⟨⟨m+1,QH8 U x,by omega,by go_num,?_,?_⟩,by simp [intOf];omega⟩
        ·rw [QW6 U hx]
        ·have:=QW1 HC.out hlt hmt HLk.out HN.out
         rw [← HXX.out] at this
         exact this
       ·cases q
        ·go_wp2_with fail
         refine ⟨⟨m+1,QH8 U x,by omega,by go_num,?_,?_⟩,by simp [intOf];omega⟩
         ·rw [QW6 U hx]
         ·have:=QW1 HC.out hlt hmt HLk.out HN.out
          rw [← HXX.out] at this
          exact this
        ·go_wp2_with fail
         exact ⟨⟨m+1,U,by omega,by go_num,rfl,both_no HC.out HN.out⟩,by simp [intOf];omega⟩
     ·have hme:m=256:=by omega
      subst hme
      go_wp2_with fail
      exact ⟨⟨k+1,U,by omega,by go_num,rfl,both_next HC.out⟩,by simp [intOf];omega⟩
  ·have hke:k=256:=by omega
   subst hke
   have HE:Hid (qH4 T=qH4 (QP7 ap L R)):=arrT_ext (both_end HB.out)
   have hld:=QR3 (W.alloc (.cells (qH4 T) 214)) W.heap.size T (heap_alloc_last _ _)
   have hst:=QA7 (W.alloc (.cells (qH4 T) 214)) (w.heap.size+1+1) noT T (HRes.out _)
   go_wp2_with fail
   unfold Oper.wp
   simp [execOp,Act.eval,hld,Result.andThen]
   rw [Oper.upon_value]
   have hl2:=qW9 ((W.alloc (.cells (qH4 T) 214)).setRow (w.heap.size+1+1) (qH4 T)) (w.heap.size+1+1) T (QC3 (HRes.out _))
   go_wp2
   refine bodyPost_ret (v:=.agg (qH4 T)) ?_ rfl ⟨by rw [HE.out],?_⟩
   ·simp [results,Tryz.results178,asAddr,Result.andThen,hl2]
   ·exact QG5 (B0.alloc B0.size _) (by omega) _

section
open Go.RowKit Go.Shelf Go.Maps
attribute [local go_sem] Oper.semAt_some
attribute [local go_sem] QJ3
set_option linter.unusedVariables false
set_option linter.unusedSimpArgs false
def QZ2 (pre:List P8):TS:=(pre.map (·.1)).foldl (fun T p=>QH8 T (2 ^ (p - 1).toNat)) noT
theorem oneP_snoc (pre:List P8) (x:P8):QZ2 (pre++[x])=QH8 (QZ2 pre) (2 ^ (x.1 - 1).toNat):=by
 simp [QZ2,List.foldl_append]
theorem putL_iff (ps:List Int):∀ (T:TS) (x:Nat),ps.foldl (fun T p=>QH8 T (2 ^ (p - 1).toNat)) T x=true↔T x=true∨∃ p∈ps,x=2 ^ (p - 1).toNat:=by
 induction ps with
 | nil=>intro T x;simp
 | cons q qs ih =>
  intro T x
  rw [List.foldl_cons,ih]
  unfold QH8
  by_cases e:x=2 ^ (q - 1).toNat
  ·rw [if_pos e]
   exact ⟨fun _ => .inr ⟨q,by simp,e⟩,fun _ => .inl rfl⟩
  ·rw [if_neg e]
   constructor
   ·rintro (h | ⟨p,hp,e'⟩)
    ·exact .inl h
    ·exact .inr ⟨p,by simp [hp],e'⟩
   ·rintro (h | ⟨p,hp,e'⟩)
    ·exact .inl h
    ·rcases List.mem_cons.1 hp with rfl | hp
     ·exact absurd e' e
     ·exact .inr ⟨p,hp,e'⟩
theorem oneP_end {s:Int} {ys:List P8} (h:ys.map (·.1)=qB2 s 8):QZ2 ys=oneT s:=by
 funext x
 rw [Bool.eq_iff_iff]
 unfold QZ2 oneT
 rw [h,putL_iff,List.any_eq_true]
 constructor
 ·rintro (q | ⟨p,hp,e⟩)
  ·cases q
  ·obtain ⟨h0,h1,h2⟩:=qK8.1 hp
   refine ⟨(p - 1).toNat,List.mem_range.2 (by omega),?_⟩
   rw [Bool.and_eq_true]
   refine ⟨by simp [e],?_⟩
   rw [show (((p - 1).toNat:Nat):Int)+1=p by omega]
   exact h2
 ·rintro ⟨p,hp,e⟩
  rw [Bool.and_eq_true] at e
  have hp:=List.mem_range.1 hp
  exact .inr ⟨(p:Int)+1,qK8.2 ⟨by omega,by omega,e.2⟩,by simpa using e.1⟩
def QO5 (W:World) (B:Nat) (T:TS):Prop:=W.heap[B]? = some (.cells (qH4 T) 214 (0,0))
theorem QO5.lt {W:World} {B:Nat} {T:TS} (h:QO5 W B T):B < W.heap.size:=(Array.getElem?_eq_some_iff.1 h).1
theorem QO5.kept {W W':World} {row:Option Nat} {B:Nat} {T:TS} (h:QO5 W B T) (hg:W.grownBy W' row) (hne:some B≠row):QO5 W' B T:=(hg.block B h.lt hne).trans h
theorem QO5.cell {W:World} {B:Nat} {T:TS} (h:QO5 W B T) {i:Nat} (hi:i < 256):W.cell? ⟨B,i,none⟩=some (.bool (T i)):=by
 rw [cell_of_row _ _ i _ _ _ h];exact qZ3 T hi
theorem QO5.frozen {W:World} {B:Nat} {T:TS} (h:QO5 W B T) (i:Nat):W.frozen? ⟨B,i,none⟩=false:=by simp [World.frozen?,show W.heap[B]? = _ from h]
theorem QO5.below {W W':World} {B:Nat} {T:TS} (h:QO5 W B T) (hb:Below W.heap.size W W'):QO5 W' B T:=(hb.block B h.lt).trans h
theorem QO5.put {W:World} {B:Nat} {T:TS} (h:QO5 W B T) {i:Nat} (hi:i < 256):QO5 (W.setCell ⟨B,i,none⟩ (.bool true)) B (QH8 T i):=by
 obtain ⟨hlt,hk⟩:=Array.getElem?_eq_some_iff.1 h
 show (W.heap.modify B _)[B]? = _
 rw [Array.getElem?_eq_getElem (by rw [Array.size_modify];exact hlt),Array.getElem_modify_self,hk,← QW6 T hi]
 rfl
theorem rowT_own {β:Type} (B:Nat) (f:β→TS):Own (fun s W=>QO5 W B (f s)):=fun s X Y row hs hg hrow =>
 hs.kept hg (fun e'=>by obtain ⟨o,ho,hc⟩:=hrow B e'.symm;rw [show X.heap[B]? = _ from hs] at ho;cases ho;cases hc)
theorem singles_w (n:Nat) (hn:3≤n) (s:Int) (w:World) (hs:qL2 s) :
  CallsIn Fence.wide n Tryz.prog 177 #[.int .u8 s] w fun e W'=>e = .returned (.agg (qH4 (oneT s)))∧Below w.heap.size w W':=by
 have h1:1≤n:=by omega
 have s0:=hs.1
 have s1:=hs.2
 have hz:=ts_zero
 refine callsIn_of_wp_marks Tryz.func177 rfl trivial ?_ rfl
 simp only [Tryz.ntmps177,List.size_toArray,List.length_cons,List.length_nil,Nat.reduceAdd,Nat.reduceSub,Array.replicate_succ,Array.replicate_zero,List.push_toArray,List.append_toArray,List.nil_append,List.cons_append]
 gi_wp2_with (gi_at_call 163;refine (prin_in _ _ _).mono ?_;rintro e w' ⟨rfl,rfl⟩)
 clear hz
 have bR:QO5 (w.alloc (.cells (qH4 noT) 214)) w.heap.size noT:=heap_alloc_last _ _
 have bT:QO5 ((w.alloc (.cells (qH4 noT) 214)).alloc (.cells (qH4 noT) 214)) (w.heap.size+1) noT:=by
  have:=heap_alloc_last (w.alloc (.cells (qH4 noT) 214)) (.cells (qH4 noT) 214)
  rw [World.size_alloc] at this
  exact this
 have bS:=Boxed.new ((w.alloc (.cells (qH4 noT) 214)).alloc (.cells (qH4 noT) 214)) 220 (.int .u8 s)
 rw [World.size_alloc,World.size_alloc] at bS
 have bR':QO5 (((w.alloc (.cells (qH4 noT) 214)).alloc (.cells (qH4 noT) 214)).alloc (.cells #[.int .u8 s] 220)) w.heap.size noT:=(bR.below (zN)).below (zN)
 have bT':QO5 (((w.alloc (.cells (qH4 noT) 214)).alloc (.cells (qH4 noT) 214)).alloc (.cells #[.int .u8 s] 220)) (w.heap.size+1) noT:=bT.below (zN)
 obtain ⟨W0,hW0⟩:∃ W0,((w.alloc (.cells (qH4 noT) 214)).alloc (.cells (qH4 noT) 214)).alloc (.cells #[.int .u8 s] 220)=W0:=⟨_,rfl⟩
 have hsz:W0.heap.size=w.heap.size+3:=by rw [← hW0];simp
 have hB0:Below w.heap.size w W0:=by rw [← hW0];exact (((Below.refl _ w).alloc (Nat.le_refl _) _).alloc (by simp) _).alloc (by simp;omega) _
 rw [hW0] at bS bR' bT' ⊢
 have HB0:Hid (Below w.heap.size w W0):=hB0
 clear bR bT hW0 hB0
 refine wpIn_rangeFunc_ownG rfl h1 (gf:=183) (lb:=#[.pointer (some ⟨w.heap.size+1+1,0,none⟩)]) rfl trivial (enters_of Tryz.func183 (by kernel_rfl) rfl)
  (QK3 (n - 1) (by omega) (w.heap.size+1+1) s s0 s1 W0 (by omega) bS.cell) (Kp:=qZ7 (w.heap.size+1+1)) (fun h k=>Eq.trans k h) (fun W l o o' hl h _ _=>World.putObj_heap_other (by omega)) (Below.refl _ _) (fun _=>rfl)
  (fun pre W=>(QO5 W (w.heap.size+1) (QZ2 pre)∧Boxed W (w.heap.size+1+1) 220 (.int .u8 s))∧Below (w.heap.size+1) W0 W)
  (fun _ _ _=>False)
  (OwnFrom.and (OwnFrom.and (Own.from (rowT_own _ (fun pre=>QZ2 pre)) _) (Own.from (boxed_own _ _ (fun _ => .int .u8 s)) _)) (ownFrom_below (by omega) (by omega)))
  (fun _ _ _ _ _ hs _ _=>hs)
  ⟨⟨bT',bS⟩,Below.refl _ _⟩
  (fun x=>{ tmps:=#[.int .u8 s,undef,.pointer (some ⟨w.heap.size,0,none⟩),.pointer (some ⟨w.heap.size+1,0,none⟩),.int .i64 x.1,.int .u8 s,.func (.func 183) #[] #[.pointer (some ⟨w.heap.size+1+1,0,none⟩)],.int .i64 x.1,undef,undef,undef,undef],defers:=[] }) ?assign ?body ?done ?stop
 case assign =>
  intro l x W K hK
  gi_wp2
  exact hK
 case body =>
  rintro l pre x W ⟨⟨hA,hS⟩,hB⟩ hlt'
  have hp:=x.2
  have hbi:(2:Nat) ^ (x.1 - 1).toNat < 256:=Nat.pow_lt_pow_right (by omega) (show (x.1 - 1).toNat < 8 by omega)
  obtain ⟨q,hq⟩:∃ q,q=2 ^ (x.1 - 1).toNat:=⟨_,rfl⟩
  have HQ:Hid (q=2 ^ (x.1 - 1).toNat):=hq
  have hbq:bitI x.1=(q:Int):=by rw [hq];rfl
  rw [← hq] at hbi
  clear hq
  have cA:W.cell? ⟨w.heap.size+1,q,none⟩=some (.bool (QZ2 pre q)):=hA.cell hbi
  have fA:W.frozen? ⟨w.heap.size+1,q,none⟩=false:=hA.frozen q
  have hq':(q:Int) < 256:=by omega
  have hd:1≤n - 1 - 1:=by omega
  gi_wp2_with (first | (gi_at_call 184;refine (CallsIn.inRound l (callsIn_wide.2 (QW5 x.1 hp.1 hp.2 _))).mono ?_;rintro e wb ⟨rfl,rfl⟩;rw [hbq]) | fail)
  refine ⟨(KeepsOthers.setCell W ⟨w.heap.size+1,q,none⟩ _).from _,?_,⟨?_,?_⟩,?_⟩
  ·exact Below.heap_setCell _ _ _ _ (by simp)
  ·rw [oneP_snoc,← HQ.out];exact hA.put hbi
  ·exact (Below.heap_setCell _ _ _ _ (by simp)).trans hS
  ·exact hB.setCell (p:=⟨w.heap.size+1,q,none⟩) (Nat.le_refl _) _
 case done =>
  rintro D ys W hD hys ⟨⟨hA,_⟩,hB⟩ hK
  have hld:=QR3 W (w.heap.size+1) (QZ2 ys) hA
  have hRs:QO5 W w.heap.size noT:=(hB.block w.heap.size (by omega)).trans bR'
  have hst:=QA7 W w.heap.size noT (QZ2 ys) hRs
  have hl2:=qW9 (W.setRow w.heap.size (qH4 (QZ2 ys))) w.heap.size (QZ2 ys) (QC3 hRs)
  gi_wp2
  unfold Oper.wpIn
  simp [Oper.semAt,execOp,Act.eval,hld,Result.andThen]
  refine ⟨fun f hf=>(by cases hf),?_⟩
  rw [Oper.uponIn_value]
  have hKs:(W.setRow w.heap.size (qH4 (QZ2 ys))).heap[D]? = some (.deferred (some [])):=(QB1 (by omega)).trans hK
  gi_wp2
  refine ⟨by simp,.inl ⟨_,_,rfl,run_takeDeferred hKs,?_⟩⟩
  refine ⟨.agg (qH4 (QZ2 ys)),?res,?val,?below⟩
  case res =>
   have hl3:=qW9 ((W.setRow w.heap.size (qH4 (QZ2 ys))).putObj D (Obj.deferred none)) w.heap.size (QZ2 ys) ((World.putObj_heap_other (by omega)).trans (QC3 hRs))
   simp [results,Tryz.results177,asAddr,Result.andThen,hl3]
  case val=>rw [oneP_end hys]
  case below =>
   have h1:Below w.heap.size w (W.setRow w.heap.size (qH4 (QZ2 ys))):=QG5 (HB0.out.trans (hB.mono (by omega))) (Nat.le_refl _) _
   exact h1.grown (grownBy_putObj' _ D _) h1.size (fun k e=>by cases e;omega)
 case stop =>
  rintro D c pre W _ _ h _
  exact h.elim
theorem singles_c (s:Int) (w:World) (hs:qL2 s) :
  Calls Tryz.prog 177 #[.int .u8 s] w fun e W'=>e = .returned (.agg (qH4 (oneT s)))∧Below w.heap.size w W' :=
 callsIn_wide.1 (singles_w 3 (Nat.le_refl _) s w hs)
end

end Go.Proofs.YtlhgjackapdmbaaGreatDoor
