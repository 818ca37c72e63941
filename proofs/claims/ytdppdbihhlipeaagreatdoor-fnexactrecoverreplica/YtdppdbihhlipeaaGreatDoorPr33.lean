/- Contracts. -/
import Derived.Test.YtdppdbihhlipeaaGreatDoorPr28
import Derived.Deep.WholeRow
import Derived.Test.YtdppdbihhlipeaaGreatDoorPr32
namespace Go.Proofs.YtdppdbihhlipeaaGreatDoor
set_option maxRecDepth 100000
set_option maxHeartbeats 8000000
open Go.RowKit
set_option linter.unusedVariables false
set_option linter.unusedSimpArgs false

theorem QC4:Tryz.prog.underlying 251=some (.array 256 4):=by kernel_rfl
theorem qFg:(Tryz.prog.info? 251).map (fun i=>(i.zero,i.size))=some (some (.agg (qH2 noT)),256):=by kernel_rfl
theorem qBY (w:World):(zeroValue 251).run Tryz.prog w = .ok (.agg (qH2 noT)) w:=(zero_of_info qFg).1 w
theorem QB0:(Tryz.prog.info? 251).map (·.size)=some 256:=(zero_of_info qFg).2
theorem QE5 (w:World) (o:Obj) {b:Nat} (i:Nat) (hb:b < w.heap.size):(w.alloc o).cell? ⟨b,i,none⟩=w.cell? ⟨b,i,none⟩:=((Below.refl _ _).alloc (Nat.le_refl _) o).cell (p:=⟨b,i,none⟩) hb
theorem qDw (w:World) (c:Array Value) (t:TypeId) (i:Nat):(w.alloc (.cells c t)).cell? ⟨w.heap.size,i,none⟩=c[i]? := cell_of_row _ _ i c t (0,0) (heap_alloc_last w _)
theorem qJF (w:World) (o:Obj) {b:Nat} (hb:b < w.heap.size):(w.alloc o).heap[b]? = w.heap[b]? := ((Below.refl _ _).alloc (Nat.le_refl _) o).block b hb
theorem QB7 {w:World} {g:Nat} {c c':Array Value} {t:TypeId} {fr:Nat × Nat} (h:w.heap[g]? = some (.cells c t fr)):(w.setRow g c').heap[g]? = some (.cells c' t fr):=by
 simp only [World.setRow];rw [Array.getElem?_modify,if_pos rfl,h];rfl
theorem QA7 {w:World} {g i:Nat} {c':Array Value} (h:i≠g):(w.setRow g c').heap[i]? = w.heap[i]? := by
 simp only [World.setRow];rw [Array.getElem?_modify,if_neg (fun e=>h e.symm)]
theorem qBe (w:World) (g:Nat) (c':Array Value):(w.setRow g c').heap.size=w.heap.size:=by simp [World.setRow]
theorem below_setRow {B:Nat} {w0 w:World} {g:Nat} (h:Below B w0 w) (hg:B<=g) (c:Array Value):Below B w0 (w.setRow g c) :=
 ⟨h.os,h.tape,h.output,by rw [qBe];exact h.size,fun i hi=>by rw [QA7 (by omega)];exact h.block i hi⟩
theorem qKM (w:World) (g:Nat) (old T:TS) (hg:w.heap[g]? = some (.cells (qH2 old) 251 (0,0))) :
  (Instr.storeAt 251 (.pointer (some ⟨g,0,none⟩)) (.agg (qH2 T))).run Tryz.prog w = .ok () (w.setRow g (qH2 T)):=by
 simp only [Instr.storeAt,Instr.sureAddr,Sem.run_bind,Sem.run_pure,Result.andThen];exact run_storeVar_row _ _ _ _ _ _ hg (by rw [qI3];exact QB0) (by rw [qI3,qI3]) (QU4 T)
theorem QA4 (w:World) (g:Nat) (old T:TS) (hg:w.heap[g]? = some (.cells (qH2 old) 251 (0,0))) :
  (storeCells ⟨g,0,none⟩ (qH2 T).toList).run Tryz.prog w = .ok () (w.setRow g (qH2 T)):=by
 have:=run_storeCells_from (P:=Tryz.prog) g 251 (qH2 T).toList 0 (qH2 old) w hg (by rw [Nat.zero_add,qI3,Array.length_toList,qI3]) (fun v hv=>(Array.all_eq_true_iff_forall_mem.1 (QU4 T)) v (by simpa using hv));simpa using this
theorem qW6 (w:World) (g:Nat) (T:TS) (hg:w.heap[g]? = some (.cells (qH2 T) 251 (0,0))) :
  (loadVar 251 ⟨g,0,none⟩).run Tryz.prog w = .ok (.agg (qH2 T)) w :=
 run_loadVar_row _ _ _ _ _ _ _ hg QC4 rfl (by rw [qI3];exact QB0)
theorem QT1 (w:World) (g:Nat) (T:TS) (hg:w.heap[g]? = some (.cells (qH2 T) 251 (0,0))) :
  (Instr.loadAt 251 (.pointer (some ⟨g,0,none⟩))).run Tryz.prog w = .ok (.agg (qH2 T)) w:=by
 simp only [Instr.loadAt,Instr.sureAddr,Sem.run_bind,Sem.run_pure,Result.andThen];exact qW6 w g T hg
theorem qEK (L R:TS) (ap:Bool) (w:World) :
  Calls Tryz.prog 204 #[.agg (qH2 L),.agg (qH2 R),.bool ap] w fun e w'=>e = .returned (.agg (qH2 (QR6 ap L R)))/\Below w.heap.size w w':=by
 have hz:=qBY;obtain ⟨W,hW⟩:∃ W,W=((w.alloc (.cells (qH2 L) 251)).alloc (.cells (qH2 R) 251)).alloc (.cells (qH2 noT) 251):=⟨_,rfl⟩;have hs0:w.heap.size+1+1+1=W.heap.size:=by rw [hW];simp
 have HSz:Hid (w.heap.size+1+1+1=W.heap.size):=hs0;clear hs0;have B0:Below w.heap.size w W:=by rw [hW];exact ((zN).alloc (by simp) _).alloc (by simp;omega) _
 have HL:Hid (∀ (o:Obj) (i:Nat),i < 256->(W.alloc o).cell? ⟨w.heap.size,i,none⟩=some (.bool (L i))):=fun o i hi=>by
  rw [hW,QE5 _ _ _ (by simp;omega),QE5 _ _ _ (by simp;omega),QE5 _ _ _ (by simp),qDw,qZ0 _ hi]
 have HR:Hid (∀ (o:Obj) (i:Nat),i < 256->(W.alloc o).cell? ⟨w.heap.size+1,i,none⟩=some (.bool (R i))):=fun o i hi=>by
  rw [hW,QE5 _ _ _ (by simp),QE5 _ _ _ (by simp)];have:=qDw (w.alloc (.cells (qH2 L) 251)) (qH2 R) 251 i;rw [World.size_alloc] at this;rw [this,qZ0 _ hi]
 have HRes:Hid (∀ o:Obj,(W.alloc o).heap[w.heap.size+1+1]? = some (.cells (qH2 noT) 251 (0,0))):=fun o=>by
  rw [hW,qJF _ _ (by simp)];have:=heap_alloc_last ((w.alloc (.cells (qH2 L) 251)).alloc (.cells (qH2 R) 251)) (.cells (qH2 noT) 251);rw [World.size_alloc,World.size_alloc] at this;exact this
 go_enter Tryz.func204,Tryz.ntmps204;go_wp2_with fail
 rw [<- hW];clear hW hz;have hs:=HSz.out;simp only [hs];go_loopw [10] (fun i wr=>∃ (k:Nat) (T:TS),k<=256/\i = .int .i64 (k:Int)/\wr=W.alloc (.cells (qH2 T) 251)/\Hid (QZ5 ap L R k 0 T)) (fun i _=>256 - (intOf i).toNat)
 case atStart=>exact ⟨0,noT,by omega,rfl,rfl,QU3 ap L R⟩
 case round =>
  obtain ⟨k,T,hk,rfl,rfl,HB⟩:=hrel;by_cases hlt:k < 256
  ·have hlt':(k:Int) < 256:=by omega
   have cL:=HL.out (.cells (qH2 T) 251) k hlt;obtain ⟨l,hl⟩:∃ l,L k=l:=⟨_,rfl⟩;have HLk:Hid (L k=l):=hl;rw [hl] at cL;clear hl;cases l
   ·go_wp2_with fail
    exact ⟨⟨k+1,T,by omega,by go_num,rfl,qBN HB.out HLk.out⟩,by simp [intOf];omega⟩
   ·go_wp2_with fail
    go_loopw [17] (fun j wr=>∃ (m:Nat) (U:TS),m<=256/\j = .int .i64 (m:Int)/\wr=W.alloc (.cells (qH2 U) 251)/\Hid (QZ5 ap L R k m U)) (fun j _=>256 - (intOf j).toNat)
    case atStart=>exact ⟨0,T,by omega,rfl,rfl,HB⟩
    case round =>
     obtain ⟨m,U,hm,rfl,rfl,HC⟩:=hrel;by_cases hmt:m < 256
     ·have hmt':(m:Int) < 256:=by omega
      have cR:=HR.out (.cells (qH2 U) 251) m hmt;obtain ⟨r,hr⟩:∃ r,R m=r:=⟨_,rfl⟩;have HRm:Hid (R m=r):=hr;rw [hr] at cR;have hand:bits .and .i64 (k:Int) (m:Int)=((k &&& m:Nat):Int):=QP6 k m hlt hmt;have hor:bits .or .i64 (k:Int) (m:Int)=((k ||| m:Nat):Int):=QD5 k m hlt hmt;have hx:k ||| m < 256:=Nat.or_lt_two_pow (n:=8) hlt hmt;obtain ⟨q,hq⟩:∃ q,((k &&& m) != 0)=q:=⟨_,rfl⟩;have hq':((((k &&& m:Nat):Int)) != 0)=q:=by rw [<- hq];rw [Bool.eq_iff_iff];simp
      have hok:qEj ap k m = !(ap&&q):=by unfold qEj;rw [hq]
      have hn0:(R m&&qEj ap k m)=(r && !(ap&&q)):=by rw [hr,hok]
      have HN:Hid ((R m&&qEj ap k m)=(r && !(ap&&q))):=hn0;clear hn0;have HX:Hid (k ||| m=k ||| m):=rfl;obtain ⟨x,hxx⟩:∃ x,x=k ||| m:=⟨_,rfl⟩;have HXX:Hid (x=k ||| m):=hxx;rw [<- hxx] at hor hx;have hx':(x:Int) < 256:=by omega
      have cx:(qH2 U)[x]? = some (.bool (U x)):=qZ0 U hx;generalize hy:((k &&& m:Nat):Int)=y at hand hq';clear hy hr hq hok hxx HX;cases r
      ·go_wp2_with fail
       exact ⟨⟨m+1,U,by omega,by go_num,rfl,qCq HC.out HN.out⟩,by simp [intOf];omega⟩
      ·cases ap
       ·go_wp2_with fail
        refine ⟨⟨m+1,QI7 U x,by omega,by go_num,?_,?_⟩,by simp [intOf];omega⟩
        ·rw [QY8 U hx]
        ·have:=QY3 HC.out hlt hmt HLk.out HN.out;rw [<- HXX.out] at this;exact this
       ·cases q
        ·go_wp2_with fail
         refine ⟨⟨m+1,QI7 U x,by omega,by go_num,?_,?_⟩,by simp [intOf];omega⟩
         ·rw [QY8 U hx]
         ·have:=QY3 HC.out hlt hmt HLk.out HN.out;rw [<- HXX.out] at this;exact this
        ·go_wp2_with fail
         exact ⟨⟨m+1,U,by omega,by go_num,rfl,qCq HC.out HN.out⟩,by simp [intOf];omega⟩
     ·have hme:m=256:=by omega
      subst hme;go_wp2_with fail
      exact ⟨⟨k+1,U,by omega,by go_num,rfl,qBO HC.out⟩,by simp [intOf];omega⟩
  ·have hke:k=256:=by omega
   subst hke;have HE:Hid (qH2 T=qH2 (QR6 ap L R)):=qJQ (qDz HB.out);have hld:=QT1 (W.alloc (.cells (qH2 T) 251)) W.heap.size T (heap_alloc_last _ _);have hst:=QA4 (W.alloc (.cells (qH2 T) 251)) (w.heap.size+1+1) noT T (HRes.out _);go_wp2_with fail
   unfold Oper.wp;simp [execOp,Act.eval,hld,Result.andThen];rw [Oper.upon_value];have hl2:=qW6 ((W.alloc (.cells (qH2 T) 251)).setRow (w.heap.size+1+1) (qH2 T)) (w.heap.size+1+1) T (QB7 (HRes.out _));go_wp2;refine bodyPost_ret (v:=.agg (qH2 T)) ?_ rfl ⟨by rw [HE.out],?_⟩
   ·simp [results,Tryz.results204,asAddr,Result.andThen,hl2]
   ·exact below_setRow (B0.alloc B0.size _) (by omega) _

section
open Go.RowKit Go.Shelf Go.Maps
attribute [local go_sem] Oper.semAt_some
attribute [local go_sem] QK2
set_option linter.unusedVariables false
set_option linter.unusedSimpArgs false
def qAP (pre:List P8):TS:=(pre.map (·.1)).foldl (fun T p=>QI7 T (2 ^ (p - 1).toNat)) noT
theorem qGa (pre:List P8) (x:P8):qAP (pre++[x])=QI7 (qAP pre) (2 ^ (x.1 - 1).toNat):=by
 simp [qAP,List.foldl_append]
theorem qDP (ps:List Int):∀ (T:TS) (x:Nat),ps.foldl (fun T p=>QI7 T (2 ^ (p - 1).toNat)) T x=true↔T x=true\/∃ p∈ps,x=2 ^ (p - 1).toNat:=by
 induction ps with
 | nil=>intro T x;simp
 | cons q qs ih =>
  intro T x;rw [List.foldl_cons,ih];unfold QI7;by_cases e:x=2 ^ (q - 1).toNat
  ·rw [if_pos e];exact ⟨fun _ => .inr ⟨q,by simp,e⟩,fun _ => .inl rfl⟩
  ·rw [if_neg e];constructor
   ·rintro (h | ⟨p,hp,e'⟩)
    ·exact .inl h
    ·exact .inr ⟨p,by simp [hp],e'⟩
   ·rintro (h | ⟨p,hp,e'⟩)
    ·exact .inl h
    ·rcases List.mem_cons.1 hp with rfl | hp
     ·exact absurd e' e
     ·exact .inr ⟨p,hp,e'⟩
theorem qIe {s:Int} {ys:List P8} (h:ys.map (·.1)=qB3 s 8):qAP ys=qGZ s:=by
 funext x
 rw [Bool.eq_iff_iff];unfold qAP qGZ;rw [h,qDP,List.any_eq_true];constructor
 ·rintro (q | ⟨p,hp,e⟩)
  ·cases q
  ·obtain ⟨h0,h1,h2⟩:=qK2.1 hp;refine ⟨(p - 1).toNat,List.mem_range.2 (by omega),?_⟩;rw [Bool.and_eq_true];refine ⟨by simp [e],?_⟩;rw [show (((p - 1).toNat:Nat):Int)+1=p by omega];exact h2
 ·rintro ⟨p,hp,e⟩;rw [Bool.and_eq_true] at e;have hp:=List.mem_range.1 hp;exact .inr ⟨(p:Int)+1,qK2.2 ⟨by omega,by omega,e.2⟩,by simpa using e.1⟩
def QQ3 (W:World) (B:Nat) (T:TS):Prop:=W.heap[B]? = some (.cells (qH2 T) 251 (0,0))
theorem QQ3.lt {W:World} {B:Nat} {T:TS} (h:QQ3 W B T):B < W.heap.size:=(Array.getElem?_eq_some_iff.1 h).1
theorem QQ3.kept {W W':World} {row:Option Nat} {B:Nat} {T:TS} (h:QQ3 W B T) (hg:W.grownBy W' row) (hne:some B≠row):QQ3 W' B T:=(hg.block B h.lt hne).trans h
theorem QQ3.cell {W:World} {B:Nat} {T:TS} (h:QQ3 W B T) {i:Nat} (hi:i < 256):W.cell? ⟨B,i,none⟩=some (.bool (T i)):=by
 rw [cell_of_row _ _ i _ _ _ h];exact qZ0 T hi
theorem QQ3.frozen {W:World} {B:Nat} {T:TS} (h:QQ3 W B T) (i:Nat):W.frozen? ⟨B,i,none⟩=false:=by simp [World.frozen?,show W.heap[B]? = _ from h]
theorem QQ3.below {W W':World} {B:Nat} {T:TS} (h:QQ3 W B T) (hb:Below W.heap.size W W'):QQ3 W' B T:=(hb.block B h.lt).trans h
theorem QQ3.put {W:World} {B:Nat} {T:TS} (h:QQ3 W B T) {i:Nat} (hi:i < 256):QQ3 (W.setCell ⟨B,i,none⟩ (.bool true)) B (QI7 T i):=by
 obtain ⟨hlt,hk⟩:=Array.getElem?_eq_some_iff.1 h;show (W.heap.modify B _)[B]? = _
 rw [Array.getElem?_eq_getElem (by rw [Array.size_modify];exact hlt),Array.getElem_modify_self,hk,<- QY8 T hi];rfl
theorem qIN {β:Type} (B:Nat) (f:β->TS):Own (fun s W=>QQ3 W B (f s)):=fun s X Y row hs hg hrow =>
 hs.kept hg (fun e'=>by obtain ⟨o,ho,hc⟩:=hrow B e'.symm;rw [show X.heap[B]? = _ from hs] at ho;cases ho;cases hc)
theorem qFr (n:Nat) (hn:3<=n) (s:Int) (w:World) (hs:qK9 s) :
  CallsIn Fence.wide n Tryz.prog 203 #[.int .u8 s] w fun e W'=>e = .returned (.agg (qH2 (qGZ s)))/\Below w.heap.size w W':=by
 have h1:1<=n:=by omega
 have s0:=hs.1;have s1:=hs.2;have hz:=qBY;refine callsIn_of_wp_marks Tryz.func203 rfl trivial ?_ rfl;simp only [Tryz.ntmps203,List.size_toArray,List.length_cons,List.length_nil,Nat.reduceAdd,Nat.reduceSub,Array.replicate_succ,Array.replicate_zero,List.push_toArray,List.append_toArray,List.nil_append,List.cons_append];gi_wp2_with (gi_at_call 189;refine (qBk _ _ _).mono ?_;rintro e w' ⟨rfl,rfl⟩)
 clear hz;have bR:QQ3 (w.alloc (.cells (qH2 noT) 251)) w.heap.size noT:=heap_alloc_last _ _
 have bT:QQ3 ((w.alloc (.cells (qH2 noT) 251)).alloc (.cells (qH2 noT) 251)) (w.heap.size+1) noT:=by
  have:=heap_alloc_last (w.alloc (.cells (qH2 noT) 251)) (.cells (qH2 noT) 251);rw [World.size_alloc] at this;exact this
 have bS:=Boxed.new ((w.alloc (.cells (qH2 noT) 251)).alloc (.cells (qH2 noT) 251)) 257 (.int .u8 s);rw [World.size_alloc,World.size_alloc] at bS;have bR':QQ3 (((w.alloc (.cells (qH2 noT) 251)).alloc (.cells (qH2 noT) 251)).alloc (.cells #[.int .u8 s] 257)) w.heap.size noT:=(bR.below (zN)).below (zN);have bT':QQ3 (((w.alloc (.cells (qH2 noT) 251)).alloc (.cells (qH2 noT) 251)).alloc (.cells #[.int .u8 s] 257)) (w.heap.size+1) noT:=bT.below (zN);obtain ⟨W0,hW0⟩:∃ W0,((w.alloc (.cells (qH2 noT) 251)).alloc (.cells (qH2 noT) 251)).alloc (.cells #[.int .u8 s] 257)=W0:=⟨_,rfl⟩;have hsz:W0.heap.size=w.heap.size+3:=by rw [<- hW0];simp
 have hB0:Below w.heap.size w W0:=by rw [<- hW0];exact (((Below.refl _ w).alloc (Nat.le_refl _) _).alloc (by simp) _).alloc (by simp;omega) _
 rw [hW0] at bS bR' bT' ⊢
 have HB0:Hid (Below w.heap.size w W0):=hB0;clear bR bT hW0 hB0
 refine wpIn_rangeFunc_ownG rfl h1 (gf:=209) (lb:=#[.pointer (some ⟨w.heap.size+1+1,0,none⟩)]) rfl trivial (enters_of Tryz.func209 (by kernel_rfl) rfl)
  (QL4 (n - 1) (by omega) (w.heap.size+1+1) s s0 s1 W0 (by omega) bS.cell) (Kp:=qZ2 (w.heap.size+1+1)) (fun h k=>Eq.trans k h) (fun W l o o' hl h _ _=>World.putObj_heap_other (by omega)) (Below.refl _ _) (fun _=>rfl)
  (fun pre W=>(QQ3 W (w.heap.size+1) (qAP pre)/\Boxed W (w.heap.size+1+1) 257 (.int .u8 s))/\Below (w.heap.size+1) W0 W)
  (fun _ _ _=>False)
  (OwnFrom.and (OwnFrom.and (Own.from (qIN _ (fun pre=>qAP pre)) _) (Own.from (boxed_own _ _ (fun _ => .int .u8 s)) _)) (ownFrom_below (by omega) (by omega)))
  (fun _ _ _ _ _ hs _ _=>hs)
  ⟨⟨bT',bS⟩,Below.refl _ _⟩
  (fun x=>{ tmps:=#[.int .u8 s,undef,.pointer (some ⟨w.heap.size,0,none⟩),.pointer (some ⟨w.heap.size+1,0,none⟩),.int .i64 x.1,.int .u8 s,.func (.func 209) #[] #[.pointer (some ⟨w.heap.size+1+1,0,none⟩)],.int .i64 x.1,undef,undef,undef,undef],defers:=[] }) ?assign ?body ?done ?stop
 case assign =>
  intro l x W K hK;gi_wp2
  exact hK
 case body =>
  rintro l pre x W ⟨⟨hA,hS⟩,hB⟩ hlt';have hp:=x.2;have hbi:(2:Nat) ^ (x.1 - 1).toNat < 256:=Nat.pow_lt_pow_right (by omega) (show (x.1 - 1).toNat < 8 by omega);obtain ⟨q,hq⟩:∃ q,q=2 ^ (x.1 - 1).toNat:=⟨_,rfl⟩;have HQ:Hid (q=2 ^ (x.1 - 1).toNat):=hq;have hbq:qFT x.1=(q:Int):=by rw [hq];rfl
  rw [<- hq] at hbi;clear hq;have cA:W.cell? ⟨w.heap.size+1,q,none⟩=some (.bool (qAP pre q)):=hA.cell hbi;have fA:W.frozen? ⟨w.heap.size+1,q,none⟩=false:=hA.frozen q;have hq':(q:Int) < 256:=by omega
  have hd:1<=n - 1 - 1:=by omega
  gi_wp2_with (first | (gi_at_call 210;refine (CallsIn.inRound l (callsIn_wide.2 (QY7 x.1 hp.1 hp.2 _))).mono ?_;rintro e wb ⟨rfl,rfl⟩;rw [hbq]) | fail)
  refine ⟨(KeepsOthers.setCell W ⟨w.heap.size+1,q,none⟩ _).from _,?_,⟨?_,?_⟩,?_⟩
  ·exact Below.heap_setCell _ _ _ _ (by simp)
  ·rw [qGa,<- HQ.out];exact hA.put hbi
  ·exact (Below.heap_setCell _ _ _ _ (by simp)).trans hS
  ·exact hB.setCell (p:=⟨w.heap.size+1,q,none⟩) (Nat.le_refl _) _
 case done =>
  rintro D ys W hD hys ⟨⟨hA,_⟩,hB⟩ hK;have hld:=QT1 W (w.heap.size+1) (qAP ys) hA;have hRs:QQ3 W w.heap.size noT:=(hB.block w.heap.size (by omega)).trans bR';have hst:=QA4 W w.heap.size noT (qAP ys) hRs;have hl2:=qW6 (W.setRow w.heap.size (qH2 (qAP ys))) w.heap.size (qAP ys) (QB7 hRs);gi_wp2
  unfold Oper.wpIn;simp [Oper.semAt,execOp,Act.eval,hld,Result.andThen];refine ⟨fun f hf=>(by cases hf),?_⟩;rw [Oper.uponIn_value];have hKs:(W.setRow w.heap.size (qH2 (qAP ys))).heap[D]? = some (.deferred (some [])):=(QA7 (by omega)).trans hK;gi_wp2
  refine ⟨by simp,.inl ⟨_,_,rfl,run_takeDeferred hKs,?_⟩⟩;refine ⟨.agg (qH2 (qAP ys)),?res,?val,?below⟩
  case res =>
   have hl3:=qW6 ((W.setRow w.heap.size (qH2 (qAP ys))).putObj D (Obj.deferred none)) w.heap.size (qAP ys) ((World.putObj_heap_other (by omega)).trans (QB7 hRs));simp [results,Tryz.results203,asAddr,Result.andThen,hl3]
  case val=>rw [qIe hys]
  case below =>
   have h1:Below w.heap.size w (W.setRow w.heap.size (qH2 (qAP ys))):=below_setRow (HB0.out.trans (hB.mono (by omega))) (Nat.le_refl _) _;exact h1.grown (grownBy_putObj' _ D _) h1.size (fun k e=>by cases e;omega)
 case stop =>
  rintro D c pre W _ _ h _;exact h.elim
theorem qFs (s:Int) (w:World) (hs:qK9 s) :
  Calls Tryz.prog 203 #[.int .u8 s] w fun e W'=>e = .returned (.agg (qH2 (qGZ s)))/\Below w.heap.size w W' :=
 callsIn_wide.1 (qFr 3 (Nat.le_refl _) s w hs)
end
