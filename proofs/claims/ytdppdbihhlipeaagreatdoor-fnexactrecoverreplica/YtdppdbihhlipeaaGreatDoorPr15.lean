/- Contracts. -/
import Derived.Test.YtdppdbihhlipeaaGreatDoorPr14
import Derived.Laws.CopyRow
import Derived.Laws.CopyOwn
import Derived.Laws.IdiomCopy
import Derived.Shelf.Spec.SlicesInsert
import Derived.Deep.WholeRow
namespace Go.Proofs.YtdppdbihhlipeaaGreatDoor
set_option maxRecDepth 100000
set_option maxHeartbeats 8000000
open Go.RowKit
set_option linter.unusedVariables false
set_option linter.unusedSimpArgs false

theorem qGY {w:World} {B:Nat} {a:Option Addr} {n cap:Nat} {zs:List Int} (hn:zs.length=n) (h:w.ownsRow B 2 1 (.slice a n cap) n (zs.map (Value.int .i64))):qC9 w a n zs:=by
 refine ⟨hn,fun hp=>?_⟩;rcases h.2 with ⟨_,h0⟩ | ⟨g,cap',cur,e,_⟩
 ·omega
 ·simp at e;obtain ⟨rfl,rfl⟩:=e;refine ⟨g,0,rfl,fun k x hx=>?_⟩
  have hk:k < n:=by
   by_cases q:k < n
   ·exact q
   ·rw [List.getElem?_eq_none (by omega)] at hx;cases hx
  rw [Nat.zero_add,h.cellAt k (by omega),List.getElem?_map,hx];rfl

theorem qT1 {p:Prop} (h:p):Hid p:=h
def vI (zs:List Int):List Value:=zs.map (Value.int .i64)
theorem QZ8 (zs:List Int):(vI zs).length=zs.length:=by simp [vI]
theorem qMm {zs:List Int} {k:Nat} {x:Int} (h:zs[k]? = some x):(vI zs)[k]? = some (.int .i64 x):=by simp [vI,h]
theorem qMl {zs:List Int} {k:Nat} {v:Value} (h:(vI zs)[k]? = some v):∃ x,zs[k]? = some x/\v = .int .i64 x:=by
 unfold vI at h;rw [List.getElem?_map] at h;cases q:zs[k]? with
 | none=>rw [q] at h;cases h
 | some x=>rw [q] at h;exact ⟨x,rfl,(Option.some.inj h).symm⟩
theorem qDD (zs:List Int):∀ v∈vI zs,v.oneCell'=true:=by
 intro v hv;obtain ⟨x,_,rfl⟩:=List.mem_map.1 hv;rfl
def qIR (zs:List Int) (o:Nat) (ys:List Int):List Int:=zs.take o++ys++zs.drop (o+ys.length)
theorem qLT (zs ys:List Int) (o:Nat):vI (qIR zs o ys)=(vI zs).take o++vI ys++(vI zs).drop (o+(vI ys).length):=by
 simp [vI,qIR,List.map_take,List.map_drop]
theorem qIQ {zs ys:List Int} {o:Nat} (h:o+ys.length<=zs.length):(qIR zs o ys).length=zs.length:=by
 simp [qIR,List.length_take,List.length_drop];omega
structure QA3 (w:World) (g:Nat) (zs:List Int):Prop where
 bk:w.heap[g]? = some (.cells (vI zs).toArray 114 (0,0))
 ln:zs.length=240
theorem QA3.lt {w:World} {g:Nat} {zs:List Int} (h:QA3 w g zs):g < w.heap.size:=(Array.getElem?_eq_some_iff.1 h.bk).1
theorem QA3.below {w w':World} {g:Nat} {zs:List Int} (h:QA3 w g zs) (hb:Below w.heap.size w w'):QA3 w' g zs:=⟨(hb.block g h.lt).trans h.bk,h.ln⟩
theorem QA3.keep {w w':World} {g:Nat} {zs:List Int} (h:QA3 w g zs) (hk:w'.heap[g]? = w.heap[g]?):QA3 w' g zs:=⟨hk.trans h.bk,h.ln⟩
theorem QA3.cell {w:World} {g:Nat} {zs:List Int} (h:QA3 w g zs) {k:Nat} {x:Int} (hx:zs[k]? = some x):w.cell? ⟨g,k,none⟩=some (.int .i64 x):=by
 unfold World.cell?;simp only;rw [h.bk];simpa using qMm hx
theorem QA3.put {w:World} {g:Nat} {zs ys:List Int} {o:Nat} (h:QA3 w g zs) (ho:o+ys.length<=240):QA3 (w.setRow g ((vI zs).toArray.toList.take o++vI ys++(vI zs).toArray.toList.drop (o+(vI ys).length)).toArray) g (qIR zs o ys):=by
 refine ⟨?_,by rw [qIQ (by have:=h.ln;omega)];exact h.ln⟩;rw [qLT];exact setRow_heap _ _ _ _ _ _ h.bk
theorem Tryz.size2:(Tryz.prog.info? 2).map (fun i=>i.size)=some 1:=by kernel_rfl
theorem Tryz.arr114:Tryz.prog.underlying 114=some (.array (Tryz.prog.arrayLen 114) (Tryz.prog.elem 114)):=by kernel_rfl
theorem Tryz.arrl114:Tryz.prog.arrayLen 114=240:=by kernel_rfl
theorem Tryz.arrs114 (W:World):(sizeOf (Tryz.prog.elem 114)).run Tryz.prog W = .ok 1 W:=by kernel_rfl
theorem qAM (g k:Nat) (hk:k < 40) (W:World):(Instr.sliceAt 114 (.pointer (some ⟨g,0,none⟩)) (some (.int .i64 ((k:Int) * 6))) none none).run Tryz.prog W = .ok (.slice (some ⟨g,k * 6,none⟩) (240 - k * 6) (240 - k * 6)) W:=by
 have h1:((k:Int) * 6).toNat=k * 6:=by omega
 rw [run_sliceAt_array_l W _ _ Tryz.arr114 .i64 _ (by omega) (by rw [Tryz.arrl114];omega),Tryz.arrs114];simp only [Result.andThen_ok,slicedAt,Tryz.arrl114,h1];rw [if_neg (by omega),Go.WideShapes.add_plain];simp
theorem qAL (g n:Nat) (hn:n<=240) (W:World):(Instr.sliceAt 114 (.pointer (some ⟨g,0,none⟩)) none (some (.int .i64 (n:Int))) none).run Tryz.prog W = .ok (.slice (some ⟨g,0,none⟩) n 240) W:=by
 have h1:((n:Int)).toNat=n:=by omega
 rw [run_sliceAt_array_h W _ _ Tryz.arr114 .i64 _ (by omega) (by rw [Tryz.arrl114];omega),Tryz.arrs114];simp only [Result.andThen_ok,slicedAt,Tryz.arrl114,h1];rw [if_neg (by omega),Go.WideShapes.add_plain];simp
def qHr (zs:List Int) (N:Nat):Prop:=N<=40/\(∀ k x,k < N->zs[k * 6]? = some x->x≠0)/\(N < 40->zs[N * 6]? = some 0)
theorem qGW (g N:Nat) (zs:List Int) (w:World) (h:QA3 w g zs) (he:qHr zs N) :
  Calls Tryz.prog 94 #[.pointer (some ⟨g,0,none⟩)] w fun e w'=>e = .returned (.int .i64 ((N * 6:Nat):Int))/\w=w':=by
 have HP:=qT1 h;have HE:=qT1 he;have hN:N<=40:=he.1;have hgl:g < w.heap.size:=h.lt;clear h he;go_enter Tryz.func94,Tryz.ntmps94;go_wp2;go_loop [3] (fun i=>∃ k:Nat,k<=N/\i = .int .i64 ((k * 6:Nat):Int)) (fun i=>240 - (intOf i).toNat)
 case atStart=>exact ⟨0,Nat.zero_le _,rfl⟩
 case round =>
  obtain ⟨k,hk,rfl⟩:=hrel;by_cases hlt:k < N
  ·obtain ⟨x,hx⟩:∃ x,zs[k * 6]? = some x:=⟨_,List.getElem?_eq_getElem (by have:=HP.out.ln;omega)⟩;have c0:=HP.out.cell hx;have h240:((k * 6:Nat):Int) < 240:=by omega
   have h0:(0:Int)<=((k * 6:Nat):Int):=by omega
   have hx0:(x != 0)=true:=by simpa using HE.out.2.1 k x hlt hx
   have hwr:IntKind.i64.wrap (((k * 6:Nat):Int)+6)=(((k+1) * 6:Nat):Int):=by rw [IntKind.wrap_i64];omega
   clear hx;generalize hm:k * 6=m at *
   go_wp2;exact ⟨⟨k+1,hlt,by simp⟩,by simp [intOf];omega⟩
  ·have hkN:k=N:=by omega
   subst hkN;by_cases h40:k < 40
   ·have c0:=HP.out.cell (HE.out.2.2 h40);have h240:((k * 6:Nat):Int) < 240:=by omega
    have h0:(0:Int)<=((k * 6:Nat):Int):=by omega
    obtain ⟨m,hm⟩:∃ m,k * 6=m:=⟨_,rfl⟩;have HM:=qT1 (show ((k:Int) * 6)=(m:Int) by omega);rw [hm] at c0 h240 h0 ⊢
    clear hm;go_wp2;go_ret;exact ⟨by rw [HM.out];rfl,rfl⟩
   ·have h240:¬ (((k * 6:Nat):Int) < 240):=by omega
    obtain ⟨m,hm⟩:∃ m,k * 6=m:=⟨_,rfl⟩;have HM:=qT1 (show ((k:Int) * 6)=(m:Int) by omega);rw [hm] at h240 ⊢
    clear hm;go_wp2;go_ret;exact ⟨by rw [HM.out];rfl,rfl⟩

theorem qAN {w:World} {B:Nat} {e:TypeId} {size:Nat} {v:Value} {n:Nat} {xs:List Value} (h:w.ownsRow B e size v n xs):∃ a c,v = .slice a n c:=by
 rcases h.2 with ⟨h',h0⟩ | ⟨g,cap,cur,h',_⟩
 ·exact ⟨none,0,by rw [h',h0]⟩
 ·exact ⟨_,_,h'⟩

def qF0:List Int:=List.replicate 240 0
theorem Tryz.infoZ114:(Tryz.prog.info? 114).map (fun i=>(i.zero,i.size))=some (some (.agg (vI qF0).toArray),240):=by kernel_rfl
theorem qBl (w:World):(zeroValue 114).run Tryz.prog w = .ok (.agg (vI qF0).toArray) w:=(zero_of_info Tryz.infoZ114).1 w
theorem qGQ (w:World) (zs:List Int) (h:zs.length=240):QA3 (w.alloc (.cells (vI zs).toArray 114)) w.heap.size zs:=by
 refine ⟨?_,h⟩;show (w.heap.push _)[w.heap.size]? = _
 simp

theorem Tryz.fld31 (c:Int) (v:Value) (w:World):(Instr.field 31 (.agg #[.int .i64 c,v]) 1).run Tryz.prog w = .ok v w:=by kernel_rfl

def qNE (t:Bool) (x:StI) (e:Ending):Prop:=(t=true->e = .returned (.agg #[.int .i64 x.k,.int .i64 x.e,.int .i64 x.f,.int .i64 x.s,.int .i64 x.n]))/\(t=false->QU8 e)
def QA1 (x:StI):List Int:=if qB5 x=0 then qBv x else []
theorem qHG (x:StI) (w:World):∃ c,QQ1 65 x c (QA1 x) w:=by
 by_cases h:qB5 x=0
 ·exact ⟨0,by unfold QA1;rw [if_pos h];exact qCT x w h⟩
 ·exact ⟨qB5 x,by unfold QA1;rw [if_neg h];exact qAh x _ w rfl h⟩
theorem qGX (x:StI):(QA1 x).length<=6:=by
 unfold QA1;split
 ·simp [qBv]
 ·simp
theorem QK6 (a:Option Addr) (n cap:Nat) (w:World) (hn:n≠6) (hE:qG2 0 w):Calls Tryz.prog 133 #[.slice a n cap] w fun e w'=>QU8 e/\Below w.heap.size w w':=by
 have HE:Hid (qG2 0 w):=hE;have hn':((n:Int)==6)=false:=by simp;omega
 clear hE;go_enter Tryz.func133,Tryz.ntmps133;go_wp2_with fail
 refine (QU2 _ (HE.out.below (zN))).mono ?_;rintro e w' ⟨⟨u,pv,rfl⟩,rfl⟩;go_wp2_with fail
 exact ⟨rfl,⟨_,_,rfl⟩,by go_grown⟩
theorem QK5 (b off cap:Nat) (z0 z1 z2 z3 z4 z5:Int) (t:Bool) (w:World) (h:qC9 w (some ⟨b,off,none⟩) 6 [z0,z1,z2,z3,z4,z5]) (hE:qG2 0 w) (ht:decide (QA1 ⟨z0,z1,z2,z3,z4⟩=[z0,z1,z2,z3,z4,z5])=t) :
  Calls Tryz.prog 133 #[.slice (some ⟨b,off,none⟩) 6 cap] w fun e w'=>qNE t ⟨z0,z1,z2,z3,z4⟩ e/\Below w.heap.size w w':=by
 have HI:Hid (qC9 w (some ⟨b,off,none⟩) 6 [z0,z1,z2,z3,z4,z5]):=h;have HE:Hid (qG2 0 w):=hE;have HT:Hid (decide (QA1 ⟨z0,z1,z2,z3,z4⟩=[z0,z1,z2,z3,z4,z5])=t):=ht;obtain ⟨b',off',e',hc⟩:=h.2 (by omega);cases e';have hb:b < w.heap.size:=zL w ⟨b,off,none⟩ (hc 0 z0 rfl);obtain ⟨W,hW⟩:∃ W,W=w.alloc (.cells #[.int .i64 0,.int .i64 0,.int .i64 0,.int .i64 0,.int .i64 0] 85):=⟨_,rfl⟩;have HW:Hid (W=w.alloc (.cells #[.int .i64 0,.int .i64 0,.int .i64 0,.int .i64 0,.int .i64 0] 85)):=hW;have B0:Below w.heap.size w W:=by rw [hW];exact zN
 have zW:W.heap.size=w.heap.size+1:=by rw [hW];simp
 have HZW:Hid (W.heap.size=w.heap.size+1):=zW;have hzW:w.heap.size < W.heap.size:=by omega
 have X0:Hid (qL3 W w.heap.size 0 qX5/\∀ j,W.frozen? ⟨w.heap.size,j,none⟩=false):=by rw [hW];exact ⟨by simp [qL3,qX5],fun j=>by simp [go_sem]⟩
 have y0:W.cell? ⟨b,off,none⟩=some (.int .i64 z0):=(B0.cell (p:=⟨b,off,none⟩) hb).trans (hc 0 z0 rfl);have y1:W.cell? ⟨b,off+1,none⟩=some (.int .i64 z1):=(B0.cell (p:=⟨b,off+1,none⟩) hb).trans (hc 1 z1 rfl);have y2:W.cell? ⟨b,off+2,none⟩=some (.int .i64 z2):=(B0.cell (p:=⟨b,off+2,none⟩) hb).trans (hc 2 z2 rfl);have y3:W.cell? ⟨b,off+3,none⟩=some (.int .i64 z3):=(B0.cell (p:=⟨b,off+3,none⟩) hb).trans (hc 3 z3 rfl);have y4:W.cell? ⟨b,off+4,none⟩=some (.int .i64 z4):=(B0.cell (p:=⟨b,off+4,none⟩) hb).trans (hc 4 z4 rfl);have y5:W.cell? ⟨b,off+5,none⟩=some (.int .i64 z5):=(B0.cell (p:=⟨b,off+5,none⟩) hb).trans (hc 5 z5 rfl);clear h hE ht hc hW zW;go_enter Tryz.func133,Tryz.ntmps133;go_wp2_with fail
 rw [<- HW.out];refine (qBG _).mono ?_;rintro e w' ⟨rfl,rfl⟩;go_wp2_with fail
 refine wp_region_held_drew (S:=fun w'=>w'.cell? ⟨b,off,none⟩=some (.int .i64 z0)/\w'.cell? ⟨b,off+1,none⟩=some (.int .i64 z1)/\w'.cell? ⟨b,off+2,none⟩=some (.int .i64 z2)/\w'.cell? ⟨b,off+3,none⟩=some (.int .i64 z3)/\w'.cell? ⟨b,off+4,none⟩=some (.int .i64 z4)/\w'.cell? ⟨b,off+5,none⟩=some (.int .i64 z5)) (by kernel_rfl) (⟨y0,y1,y2,y3,y4,y5⟩) (fun hHeld=>?_);refine Zk.go [0,1,2,3,4,5,6,7,8,9,10,11,12,13,14,15] ?_
 iterate 16
  refine Zk.st (v:=?_) rfl ?_ ?_;rotate_left 1
  ·intro w hSw;(try dsimp only at hSw);go_simp;try (with_reducible rfl)
  try simp only [Act.put,zA,zB,zC,zD,zE,zF]
 refine Zk.fin ?_;refine Zk.rd (i:=16) rfl (fun K hK=>?_);go_simp;have hS:(fun w'=>w'.cell? ⟨b,off,none⟩=some (.int .i64 z0)/\w'.cell? ⟨b,off+1,none⟩=some (.int .i64 z1)/\w'.cell? ⟨b,off+2,none⟩=some (.int .i64 z2)/\w'.cell? ⟨b,off+3,none⟩=some (.int .i64 z3)/\w'.cell? ⟨b,off+4,none⟩=some (.int .i64 z4)/\w'.cell? ⟨b,off+5,none⟩=some (.int .i64 z5)) (W.drew.alloc (.cells #[.int .i64 0,.int .i64 0,.int .i64 0,.int .i64 0,.int .i64 0] 85)):=⟨(World.cell?_alloc_lt _ _ ⟨b,off,none⟩ (by simp;omega)).trans y0,(World.cell?_alloc_lt _ _ ⟨b,off+1,none⟩ (by simp;omega)).trans y1,(World.cell?_alloc_lt _ _ ⟨b,off+2,none⟩ (by simp;omega)).trans y2,(World.cell?_alloc_lt _ _ ⟨b,off+3,none⟩ (by simp;omega)).trans y3,(World.cell?_alloc_lt _ _ ⟨b,off+4,none⟩ (by simp;omega)).trans y4,(World.cell?_alloc_lt _ _ ⟨b,off+5,none⟩ (by simp;omega)).trans y5⟩;refine hK.out _ _ hS (fun hHeld=>?_);clear hK K;try simp only [Act.put,zA,zB,zC,zD,zE,zF]
 refine Zk.rd (i:=17) rfl (fun K hK=>?_);go_simp;have hS:(fun w'=>w'.cell? ⟨b,off,none⟩=some (.int .i64 z0)/\w'.cell? ⟨b,off+1,none⟩=some (.int .i64 z1)/\w'.cell? ⟨b,off+2,none⟩=some (.int .i64 z2)/\w'.cell? ⟨b,off+3,none⟩=some (.int .i64 z3)/\w'.cell? ⟨b,off+4,none⟩=some (.int .i64 z4)/\w'.cell? ⟨b,off+5,none⟩=some (.int .i64 z5)) (W.drew.alloc (.cells #[.int .i64 z0,.int .i64 z1,.int .i64 z2,.int .i64 z3,.int .i64 z4] 85)):=⟨(World.cell?_alloc_lt _ _ ⟨b,off,none⟩ (by simp;omega)).trans y0,(World.cell?_alloc_lt _ _ ⟨b,off+1,none⟩ (by simp;omega)).trans y1,(World.cell?_alloc_lt _ _ ⟨b,off+2,none⟩ (by simp;omega)).trans y2,(World.cell?_alloc_lt _ _ ⟨b,off+3,none⟩ (by simp;omega)).trans y3,(World.cell?_alloc_lt _ _ ⟨b,off+4,none⟩ (by simp;omega)).trans y4,(World.cell?_alloc_lt _ _ ⟨b,off+5,none⟩ (by simp;omega)).trans y5⟩;refine hK.out _ _ hS (fun hHeld=>?_);clear hK K;try simp only [Act.put,zA,zB,zC,zD,zE,zF]
 refine wpAnyH_done (by kernel_rfl) ?_ _;have Z1:Hid (qL3 ((W.alloc (.cells #[.int .i64 z0,.int .i64 z1,.int .i64 z2,.int .i64 z3,.int .i64 z4] 85)).drew) W.heap.size 0 ⟨z0,z1,z2,z3,z4⟩):=qL3.new W ⟨z0,z1,z2,z3,z4⟩ _;have B1:Below W.heap.size W ((W.alloc (.cells #[.int .i64 z0,.int .i64 z1,.int .i64 z2,.int .i64 z3,.int .i64 z4] 85)).drew):=(zN).drew;have hz1:W.heap.size < ((W.alloc (.cells #[.int .i64 z0,.int .i64 z1,.int .i64 z2,.int .i64 z3,.int .i64 z4] 85)).drew).heap.size:=by simp
 have X1:Hid (qL3 ((W.alloc (.cells #[.int .i64 z0,.int .i64 z1,.int .i64 z2,.int .i64 z3,.int .i64 z4] 85)).drew) w.heap.size 0 qX5/\∀ j,((W.alloc (.cells #[.int .i64 z0,.int .i64 z1,.int .i64 z2,.int .i64 z3,.int .i64 z4] 85)).drew).frozen? ⟨w.heap.size,j,none⟩=false):=⟨X0.out.1.below B1 hzW,fun j=>(B1.frozen (p:=⟨w.heap.size,j,none⟩) hzW).trans (X0.out.2 j)⟩;have C1:Hid (Below w.heap.size w ((W.alloc (.cells #[.int .i64 z0,.int .i64 z1,.int .i64 z2,.int .i64 z3,.int .i64 z4] 85)).drew)):=B0.trans (B1.mono (by omega));go_wp2_with fail
 clear hHeld y0 y1 y2 y3 y4 y5 X0 B1;generalize (W.alloc (.cells #[.int .i64 z0,.int .i64 z1,.int .i64 z2,.int .i64 z3,.int .i64 z4] 85)).drew=V at Z1 X1 C1 hz1 ⊢
 obtain ⟨c,hP⟩:=qHG ⟨z0,z1,z2,z3,z4⟩ V;refine hP.mono ?_;clear hP;rintro e w2 ⟨a2,cap2,rfl,hown,hb2⟩;obtain ⟨L,hL⟩:∃ L,QA1 ⟨z0,z1,z2,z3,z4⟩=L:=⟨_,rfl⟩;have hLl:L.length<=6:=by rw [<- hL];exact qGX _
 rw [hL] at hown HT ⊢
 have HO:Hid (qC9 w2 a2 L.length L):=qGY rfl hown;have hb02:Below w.heap.size w w2:=C1.out.trans (hb2.mono C1.out.size);have HI2:Hid (qC9 w2 (some ⟨b,off,none⟩) 6 [z0,z1,z2,z3,z4,z5]):=HI.out.below hb02;have Z2:Hid (qL3 w2 W.heap.size 0 ⟨z0,z1,z2,z3,z4⟩):=Z1.out.below hb2 hz1;have hzv:w.heap.size < V.heap.size:=by omega
 have X2:Hid (qL3 w2 w.heap.size 0 qX5/\∀ j,w2.frozen? ⟨w.heap.size,j,none⟩=false):=⟨X1.out.1.below hb2 hzv,fun j=>(hb2.frozen (p:=⟨w.heap.size,j,none⟩) hzv).trans (X1.out.2 j)⟩;have C2:Hid (Below w.heap.size w w2):=hb02;have hz2:=hb2.size;have hz2':W.heap.size < w2.heap.size:=by omega
 have E2:Hid (qG2 0 w2):=HE.out.below hb02;have hfl:∀ w:World,_:=fun w=>Tryz.fld31 c (.slice a2 L.length cap2) w
 clear hown hb2 hb02 hL Z1 X1 C1;go_wp2_with fail
 refine (qBd a2 (some ⟨b,off,none⟩) L.length 6 cap2 cap L [z0,z1,z2,z3,z4,z5] w2 (by omega) (by omega) HO.out HI2.out).mono ?_;rintro e w3 ⟨rfl,hb3⟩;rw [HT.out];have Z3:Hid (qL3 w3 W.heap.size 0 ⟨z0,z1,z2,z3,z4⟩):=Z2.out.below hb3 hz2';have X3:Hid (qL3 w3 w.heap.size 0 qX5/\∀ j,w3.frozen? ⟨w.heap.size,j,none⟩=false):=⟨X2.out.1.below hb3 (by omega),fun j=>(hb3.frozen (p:=⟨w.heap.size,j,none⟩) (by simp only;omega)).trans (X2.out.2 j)⟩;have C3:Hid (Below w.heap.size w w3):=C2.out.trans (hb3.mono C2.out.size);have E3:Hid (qG2 0 w3):=E2.out.below hb3;have hz3:=hb3.size;clear hb3 HT HO HI2 Z2 X2 C2 E2 hfl;cases t
 ·go_wp2_with fail
  refine (QU2 _ E3.out).mono ?_;rintro e w' ⟨⟨u,pv,rfl⟩,rfl⟩;go_wp2_with fail
  exact ⟨rfl,⟨fun h=>(by cases h),fun _=>⟨_,_,rfl⟩⟩,C3.out⟩
 ·go_wp2_with fail
  refine (qBG _).mono ?_;rintro e w' ⟨rfl,rfl⟩;obtain ⟨x0,x1,x2,x3,x4⟩:=Z3.out;obtain ⟨⟨d0,d1,d2,d3,d4⟩,hf⟩:=X3.out;simp only [Nat.zero_add] at x0 x1 x2 x3 x4 d0 d1 d2 d3 d4;have f0:=hf 0;have f1:=hf 1;have f2:=hf 2;have f3:=hf 3;have f4:=hf 4;clear hf;go_wp2_with fail
  refine bodyPost_ret (v:=.agg #[.int .i64 z0,.int .i64 z1,.int .i64 z2,.int .i64 z3,.int .i64 z4]) (by simp [results,Tryz.results133,go_sem,d0,d1,d2,d3,d4]) rfl ⟨⟨fun _=>rfl,fun h=>by cases h⟩,?_⟩;exact C3.out.setCell (Nat.le_refl _) _ |>.setCell (Nat.le_refl _) _ |>.setCell (Nat.le_refl _) _ |>.setCell (Nat.le_refl _) _ |>.setCell (Nat.le_refl _) _
def QE8 (zs:List Int):Option StI:=match zs with
 | [z0,z1,z2,z3,z4,z5]=>if QA1 ⟨z0,z1,z2,z3,z4⟩=[z0,z1,z2,z3,z4,z5] then some ⟨z0,z1,z2,z3,z4⟩ else none
 | _=>none
def qFf (zs:List Int):Int:=if (QE8 zs).isSome=true then 0 else 5
def qW9 (zs:List Int):StI:=(QE8 zs).getD qX5
theorem QV0 {zs:List Int} (h:zs.length≠6):QE8 zs=none:=by
 unfold QE8;split
 ·simp at h
 ·rfl
theorem QV4 {zs:List Int} (h:zs.length=6):∃ z0 z1 z2 z3 z4 z5,zs=[z0,z1,z2,z3,z4,z5]:=by
 match zs,h with
 | [z0,z1,z2,z3,z4,z5],_=>exact ⟨z0,z1,z2,z3,z4,z5,rfl⟩
theorem QC7 (a:Option Addr) (n cap:Nat) (zs:List Int) (w:World) (h:qC9 w a n zs) (hE:qG2 0 w) :
  Calls Tryz.prog 133 #[.slice a n cap] w fun e w'=>qNE (QE8 zs).isSome (qW9 zs) e/\Below w.heap.size w w':=by
 by_cases h6:n=6
 ·subst h6;obtain ⟨z0,z1,z2,z3,z4,z5,rfl⟩:=QV4 h.1;obtain ⟨b,off,rfl,_⟩:=h.2 (by omega);have h1:=QK5 b off cap z0 z1 z2 z3 z4 z5 _ w h hE rfl;by_cases q:QA1 ⟨z0,z1,z2,z3,z4⟩=[z0,z1,z2,z3,z4,z5]
  ·have e1:QE8 [z0,z1,z2,z3,z4,z5]=some ⟨z0,z1,z2,z3,z4⟩:=if_pos q;rw [decide_eq_true q] at h1;unfold qW9;rw [e1];exact h1
  ·have e1:QE8 [z0,z1,z2,z3,z4,z5]=none:=if_neg q;rw [decide_eq_false q] at h1;rw [e1];exact h1.mono fun e w' hh=>⟨⟨fun k=>(by cases k),fun _=>hh.1.2 rfl⟩,hh.2⟩
 ·have e1:QE8 zs=none:=QV0 (by rw [h.1];exact h6);rw [e1];exact (QK6 a n cap w h6 hE).mono fun e w' hh=>⟨⟨fun k=>(by cases k),fun _=>hh.1⟩,hh.2⟩
theorem qEI (b:Nat) (a:Option Addr) (n cap:Nat) (zs:List Int) (x:StI) (w:World) (hx:w.cell? ⟨b,0,none⟩=some (.slice a n cap)) (h:qC9 w a n zs) (hE:qG2 0 w) (hu:QE8 zs=some x) :
  Calls Tryz.prog 132 #[.pointer (some ⟨b,0,none⟩)] w fun e w'=>e = .returned (.agg #[.int .i64 x.k,.int .i64 x.e,.int .i64 x.f,.int .i64 x.s,.int .i64 x.n])/\Below w.heap.size w w':=by
 have B0:Below w.heap.size w (w.alloc (.cells #[.int .i64 0,.int .i64 0,.int .i64 0,.int .i64 0,.int .i64 0] 85)):=zN;have hbl:b < w.heap.size:=zL w ⟨b,0,none⟩ hx;have HC:=QC7 a n cap zs _ (h.below B0) (hE.below B0);have HCC:Hid (Calls Tryz.prog 133 #[.slice a n cap] (w.alloc (.cells #[.int .i64 0,.int .i64 0,.int .i64 0,.int .i64 0,.int .i64 0] 85)) fun e w'=>e = .returned (.agg #[.int .i64 x.k,.int .i64 x.e,.int .i64 x.f,.int .i64 x.s,.int .i64 x.n])/\Below (w.heap.size+1) (w.alloc (.cells #[.int .i64 0,.int .i64 0,.int .i64 0,.int .i64 0,.int .i64 0] 85)) w'):=HC.mono fun e w' hh=>⟨by have:=hh.1.1 (by rw [hu];rfl);unfold qW9 at this;rw [hu] at this;exact this,by have:=hh.2;simpa using this⟩
 clear HC h hE hu B0;go_enter Tryz.func132,Tryz.ntmps132;go_wp2_with fail
 refine HCC.out.mono ?_;rintro e w1 ⟨rfl,hb1⟩;have hz:=hb1.size;simp only [World.size_alloc] at hz;have hw:w.heap.size < w1.heap.size:=by omega
 have d:∀ j,j < 5->w1.cell? ⟨w.heap.size,j,none⟩=some (.int .i64 0):=fun j hj=>(hb1.cell (p:=⟨w.heap.size,j,none⟩) (by simp)).trans (by
  match j,hj with
  | 0,_=>simp
  | 1,_=>simp
  | 2,_=>simp
  | 3,_=>simp
  | 4,_=>simp)
 have f:∀ j,w1.frozen? ⟨w.heap.size,j,none⟩=false:=fun j=>(hb1.frozen (p:=⟨w.heap.size,j,none⟩) (by simp)).trans (by simp [go_sem])
 have d0:=d 0 (by omega);have d1:=d 1 (by omega);have d2:=d 2 (by omega);have d3:=d 3 (by omega);have d4:=d 4 (by omega);have f0:=f 0;have f1:=f 1;have f2:=f 2;have f3:=f 3;have f4:=f 4;have B1:Below w.heap.size w w1:=(zN).trans (hb1.mono (by omega));clear d f hb1;go_wp2_with fail
 refine bodyPost_ret (v:=.agg #[.int .i64 x.k,.int .i64 x.e,.int .i64 x.f,.int .i64 x.s,.int .i64 x.n]) (by simp [results,Tryz.results132,go_sem,d0,d1,d2,d3,d4]) rfl ⟨rfl,?_⟩;exact B1.setCell (Nat.le_refl _) _ |>.setCell (Nat.le_refl _) _ |>.setCell (Nat.le_refl _) _ |>.setCell (Nat.le_refl _) _ |>.setCell (Nat.le_refl _) _
theorem qBX (b:Nat) (a:Option Addr) (n cap:Nat) (zs:List Int) (w:World) (hx:w.cell? ⟨b,0,none⟩=some (.slice a n cap)) (h:qC9 w a n zs) (hE:qG2 0 w) (hu:QE8 zs=none) :
  Calls Tryz.prog 132 #[.pointer (some ⟨b,0,none⟩)] w fun e w'=>QU8 e/\Below w.heap.size w w':=by
 have B0:Below w.heap.size w (w.alloc (.cells #[.int .i64 0,.int .i64 0,.int .i64 0,.int .i64 0,.int .i64 0] 85)):=zN;have hbl:b < w.heap.size:=zL w ⟨b,0,none⟩ hx;have HC:=QC7 a n cap zs _ (h.below B0) (hE.below B0);have HCC:Hid (Calls Tryz.prog 133 #[.slice a n cap] (w.alloc (.cells #[.int .i64 0,.int .i64 0,.int .i64 0,.int .i64 0,.int .i64 0] 85)) fun e w'=>QU8 e/\Below (w.heap.size+1) (w.alloc (.cells #[.int .i64 0,.int .i64 0,.int .i64 0,.int .i64 0,.int .i64 0] 85)) w'):=HC.mono fun e w' hh=>⟨hh.1.2 (by rw [hu];rfl),by have:=hh.2;simpa using this⟩
 clear HC h hE hu B0;go_enter Tryz.func132,Tryz.ntmps132;go_wp2_with fail
 refine HCC.out.mono ?_;rintro e w1 ⟨⟨u,pv,rfl⟩,hb1⟩;go_wp2_with fail
 exact ⟨rfl,⟨_,_,rfl⟩,(zN).trans (hb1.mono (by omega))⟩
def qEF (f:Nat) (a:Option Addr) (n cap:Nat) (c:Int) (x:StI) (w:World):Prop:=Calls Tryz.prog f #[.slice a n cap] w fun e w'=>e = .returned (.agg #[.int .i64 c,.int .i64 x.k,.int .i64 x.e,.int .i64 x.f,.int .i64 x.s,.int .i64 x.n])/\Below w.heap.size w w'
theorem qHY (cap:Array Value) (w:World):(callFunc 132 cap).run Tryz.prog w = .ok (.enter 132 cap) w:=by kernel_rfl
theorem QH0 (a:Option Addr) (n cap:Nat) (zs:List Int) (w:World) (h:qC9 w a n zs) (hE:qG2 0 w):qEF 102 a n cap (qFf zs) (qW9 zs) w:=by
 obtain ⟨W,hW⟩:∃ W,W=(w.alloc (.cells #[.slice a n cap] 29)).alloc (.cells #[.int .i64 0,.int .i64 0,.int .i64 0,.int .i64 0,.int .i64 0,.int .i64 0] 169):=⟨_,rfl⟩;have HW:Hid (W=(w.alloc (.cells #[.slice a n cap] 29)).alloc (.cells #[.int .i64 0,.int .i64 0,.int .i64 0,.int .i64 0,.int .i64 0,.int .i64 0] 169)):=hW;have B0:Below w.heap.size w W:=by rw [hW];exact (zN).alloc (by simp) _
 have X0:W.cell? ⟨w.heap.size,0,none⟩=some (.slice a n cap):=by rw [hW];go_cell
 have R0:Hid (qCx W (w.heap.size+1) 0 qX5):=by rw [hW,show w.heap.size+1=(w.alloc (.cells #[.slice a n cap] 29)).heap.size by simp];exact qCx.new _ _
 have HB0:Hid (Below w.heap.size w W):=B0;have hI:=h.below B0;have hE0:=hE.below B0
 have HK:Hid (Calls Tryz.prog 131 #[.func (.func 132) #[] #[.pointer (some ⟨w.heap.size,0,none⟩)]] W fun e w'=>e = .returned (.agg #[.int .i64 (qFf zs),.int .i64 (qW9 zs).k,.int .i64 (qW9 zs).e,.int .i64 (qW9 zs).f,.int .i64 (qW9 zs).s,.int .i64 (qW9 zs).n])/\Below W.heap.size W w'):=by
  cases hu:QE8 zs with
  | some x =>
   have e1:qFf zs=0:=by unfold qFf;rw [hu];rfl
   have e2:qW9 zs=x:=by unfold qW9;rw [hu];rfl
   show Calls _ _ _ _ _
   rw [e1,e2];exact QV9 132 _ x W (qHY _) (fun w2 hb=>qEI _ a n cap zs x w2 ((hb.cell (p:=⟨w.heap.size,0,none⟩) (zL W ⟨w.heap.size,0,none⟩ X0)).trans X0) (hI.below hb) (hE0.below hb) hu)
  | none =>
   have e1:qFf zs=5:=by unfold qFf;rw [hu];rfl
   have e2:qW9 zs=qX5:=by unfold qW9;rw [hu];rfl
   show Calls _ _ _ _ _
   rw [e1,e2];exact QQ6 132 _ W (qHY _) (fun w2 hb=>qBX _ a n cap zs w2 ((hb.cell (p:=⟨w.heap.size,0,none⟩) (zL W ⟨w.heap.size,0,none⟩ X0)).trans X0) (hI.below hb) (hE0.below hb) hu)
 have hmf:∀ (fn:Fn) (first cap:Array Value) (w:World),(Instr.makeFunc fn first cap).run Tryz.prog w = .ok (.func fn first cap) w:=fun _ _ _ _=>rfl
 obtain ⟨x,hx⟩:∃ x,qW9 zs=x:=⟨_,rfl⟩;obtain ⟨c,hc⟩:∃ c,qFf zs=c:=⟨_,rfl⟩;rw [hx,hc] at HK ⊢
 clear hI hE0 h hE hW B0 X0 hx hc;unfold qEF;go_enter Tryz.func102,Tryz.ntmps102;go_wp2_with fail
 rw [<- HW.out];refine HK.out.mono ?_;rintro e w1 ⟨rfl,hb1⟩;have R1:=R0.out.below hb1;have B1:Hid (Below w.heap.size w (qJU w1 (w.heap.size+1) c x)):=QG2 (HB0.out.trans (hb1.mono HB0.out.size)) (by omega) c x;have R2:Hid (qCx (qJU w1 (w.heap.size+1) c x) (w.heap.size+1) c x):=qCy R1;obtain ⟨⟨d0,d1,d2,d3,d4,d5⟩,hf⟩:=R1;have f0:=hf 0;have f1:=hf 1;have f2:=hf 2;have f3:=hf 3;have f4:=hf 4;have f5:=hf 5;clear hf hb1;go_wp2_with fail
 obtain ⟨⟨c0,c1,c2,c3,c4,c5⟩,_⟩:=R2.out;exact bodyPost_ret (v:=.agg #[.int .i64 c,.int .i64 x.k,.int .i64 x.e,.int .i64 x.f,.int .i64 x.s,.int .i64 x.n]) (by simp [results,Tryz.results102,go_sem,c0,c1,c2,c3,c4,c5]) rfl ⟨rfl,B1.out⟩

def qD8 (zs:List Int) (k:Nat):List Int:=(zs.drop (k * 6)).take 6
def rdF (zs:List Int):Nat->Nat->List StI
 | _,0=>[]
 | k,f+1=>match QE8 (qD8 zs k) with
  | none=>[]
  | some x=>x::rdF zs (k+1) f
def rdL (zs:List Int):List StI:=rdF zs 0 zs.length
theorem QL9 {zs:List Int} {k:Nat} (h:zs.length < k * 6+6):QE8 (qD8 zs k)=none:=by
 refine QV0 ?_;unfold qD8;rw [List.length_take,List.length_drop];omega
theorem qJg (zs:List Int):∀ (f k:Nat),zs.length < (k+f) * 6+6->(∀ j x,(rdF zs k f)[j]? = some x->QE8 (qD8 zs (k+j))=some x)/\QE8 (qD8 zs (k+(rdF zs k f).length))=none:=by
 intro f;induction f with
 | zero=>intro k h;exact ⟨fun j x e=>by simp [rdF] at e,by simp only [rdF,List.length_nil];exact QL9 (by omega)⟩
 | succ f ih =>
  intro k h;cases q:QE8 (qD8 zs k) with
  | none =>
   have e:rdF zs k (f+1)=[]:=by simp only [rdF,q]
   rw [e];exact ⟨fun j x e=>by simp at e,q⟩
  | some y =>
   have e:rdF zs k (f+1)=y::rdF zs (k+1) f:=by simp only [rdF,q]
   rw [e];obtain ⟨h1,h2⟩:=ih (k+1) (by omega);refine ⟨fun j x ej=>?_,?_⟩
   ·cases j with
    | zero=>simp at ej;subst ej;exact q
    | succ j =>
     rw [List.getElem?_cons_succ] at ej;have:=h1 j x ej;rw [show k+1+j=k+(j+1) by omega] at this;exact this
   ·rw [List.length_cons,show k+((rdF zs (k+1) f).length+1)=k+1+(rdF zs (k+1) f).length by omega];exact h2
theorem QF3 {zs:List Int} {k:Nat} {x:StI} (h:(rdL zs)[k]? = some x):QE8 (qD8 zs k)=some x:=by
 have:=(qJg zs zs.length 0 (by omega)).1 k x h;rwa [Nat.zero_add] at this
theorem qGF (zs:List Int):QE8 (qD8 zs (rdL zs).length)=none:=by
 have:=(qJg zs zs.length 0 (by omega)).2;rwa [Nat.zero_add] at this
theorem qBi {zs:List Int} {k:Nat} (h:k < (rdL zs).length):k * 6+6<=zs.length:=by
 have q:=QF3 (List.getElem?_eq_getElem h);by_cases e:k * 6+6<=zs.length
 ·exact e
 ·rw [QL9 (by omega)] at q;cases q
theorem QC9 {zs:List Int}:(rdL zs).length * 6<=zs.length:=by
 cases q:(rdL zs).length with
 | zero=>omega
 | succ n=>have:=qBi (zs:=zs) (k:=n) (by omega);omega
theorem qHy {zs:List Int} {x:StI} (h:QE8 zs=some x):qB5 x=0/\qBv x=zs:=by
 by_cases hl:zs.length=6
 ·obtain ⟨z0,z1,z2,z3,z4,z5,rfl⟩:=QV4 hl;unfold QE8 at h;simp only at h;by_cases q:QA1 ⟨z0,z1,z2,z3,z4⟩=[z0,z1,z2,z3,z4,z5]
  ·rw [if_pos q] at h;cases h;unfold QA1 at q;by_cases c:qB5 ⟨z0,z1,z2,z3,z4⟩=0
   ·rw [if_pos c] at q;exact ⟨c,q⟩
   ·rw [if_neg c] at q;cases q
  ·rw [if_neg q] at h;cases h
 ·rw [QV0 hl] at h;cases h
theorem QD3 {zs:List Int} {k:Nat} (h:k * 6+6<=zs.length):(qD8 zs k).length=6:=by
 unfold qD8;rw [List.length_take,List.length_drop];omega
theorem QD4 {zs:List Int} {k j:Nat} (hj:j < 6):(qD8 zs k)[j]? = zs[k * 6+j]? := by
 unfold qD8;rw [List.getElem?_take_of_lt hj,List.getElem?_drop]
def QG6 (zs:List Int) (n:Nat):List Int:=zs.take n++List.replicate (240 - n) 0
def qBp (zs:List Int):List Int:=QG6 zs ((rdL zs).length * 6)
theorem qDU {zs:List Int} {n:Nat} (h:n<=zs.length) (h2:n<=240):(QG6 zs n).length=240:=by
 unfold QG6;rw [List.length_append,List.length_take,List.length_replicate];omega
theorem qDT {zs:List Int} {n k:Nat} (h:n<=zs.length) (hk:k < n):(QG6 zs n)[k]? = zs[k]? := by
 unfold QG6;rw [List.getElem?_append_left (by rw [List.length_take];omega),List.getElem?_take_of_lt hk]
theorem qGS {zs:List Int} {n k:Nat} (h:n<=zs.length) (hk:n<=k) (h2:k < 240):(QG6 zs n)[k]? = some 0:=by
 unfold QG6;have hl:(zs.take n).length=n:=by rw [List.length_take];omega
 rw [List.getElem?_append_right (by omega),hl,List.getElem?_replicate,if_pos (by omega)]
theorem QS9 {zs:List Int} {n k:Nat} (h:n<=zs.length) (hk:k * 6+6<=n):qD8 (QG6 zs n) k=qD8 zs k:=by
 refine List.ext_getElem? (fun j=>?_);by_cases hj:j < 6
 ·rw [QD4 hj,QD4 hj,qDT h (by omega)]
 ·rw [List.getElem?_eq_none (by unfold qD8;rw [List.length_take];omega),List.getElem?_eq_none (by unfold qD8;rw [List.length_take];omega)]
theorem qIW (zs:List Int) (h:zs.length<=240):qHr (qBp zs) (rdL zs).length:=by
 have he:=QC9 (zs:=zs);refine ⟨by omega,fun k x hk hx=>?_,fun q=>?_⟩
 ·unfold qBp at hx;rw [qDT he (by omega)] at hx;obtain ⟨h1,h2⟩:=qHy (QF3 (List.getElem?_eq_getElem hk));have e:(qD8 zs k)[0]? = zs[k * 6+0]? := QD4 (by omega);rw [<- h2,Nat.add_zero,hx] at e;have:=(QK7 h1).1;simp [qBv] at e;omega
 ·unfold qBp;exact qGS he (Nat.le_refl _) (by omega)
theorem qEe {zs:List Int} {n m:Nat} (hn:n<=zs.length) (h2:n<=240) (hm:m<=n):qIR (QG6 zs n) m (List.replicate (240 - m) 0)=QG6 zs m:=by
 have hl:(zs.take n).length=n:=by rw [List.length_take];omega
 unfold qIR;rw [List.length_replicate,List.drop_of_length_le (by rw [qDU hn h2];omega),List.append_nil];unfold QG6;rw [List.take_append_of_le_length (by omega),List.take_take,Nat.min_eq_left hm]
theorem qIU:Tryz.prog.underlying 114=some (.array 240 2):=by kernel_rfl
theorem qGP:(Tryz.prog.info? 114).map (·.size)=some 240:=(zero_of_info Tryz.infoZ114).2
theorem qJ8 {zs:List Int} (h:zs.length=240):(vI zs).toArray.size=240:=by simp [QZ8,h]
theorem QM0 {w:World} {g:Nat} {zs:List Int} (h:QA3 w g zs):(loadVar 114 ⟨g,0,none⟩).run Tryz.prog w = .ok (.agg (vI zs).toArray) w :=
 run_loadVar_row _ _ _ _ _ _ _ h.bk qIU rfl (by rw [qJ8 h.ln];exact qGP)
theorem qIX {w:World} {g:Nat} {zs:List Int} (h:QA3 w g zs):(Instr.loadAt 114 (.pointer (some ⟨g,0,none⟩))).run Tryz.prog w = .ok (.agg (vI zs).toArray) w:=by
 simp only [Instr.loadAt,Instr.sureAddr,Sem.run_bind,Sem.run_pure,Result.andThen];exact QM0 h
theorem QG5 {w:World} {g:Nat} {zs ys:List Int} (h:QA3 w g zs) (hy:ys.length=240):(storeCells ⟨g,0,none⟩ (vI ys).toArray.toList).run Tryz.prog w = .ok () (w.setRow g (vI ys).toArray):=by
 have:=run_storeCells_from (P:=Tryz.prog) g 114 (vI ys).toArray.toList 0 (vI zs).toArray w h.bk (by rw [Nat.zero_add,qJ8 h.ln,Array.length_toList,qJ8 hy]) (fun v hv=>qDD ys v (by simpa using hv));simpa using this
theorem QA3.over {w:World} {g:Nat} {zs ys:List Int} (h:QA3 w g zs) (hy:ys.length=240):QA3 (w.setRow g (vI ys).toArray) g ys:=⟨setRow_heap _ _ _ _ _ _ h.bk,hy⟩
theorem qEG (n:Nat):(Builtin.zeroCells (Value.int .i64 0).cells n).toList=vI (List.replicate n 0):=by
 apply List.ext_getElem?;intro i;simp [Builtin.zeroCells,Value.cells,vI];by_cases h:i < n
 ·simp [h,Nat.mod_one]
 ·simp [h]
theorem qES (w:World) (g o n c:Nat) (zs:List Int) (hn:0 < n) (h:QA3 w g zs) (ho:o+n<=240) (ty:TypeId) :
  (Builtin.clear_ #[29] ty #[.slice (some ⟨g,o,none⟩) n c]).run Tryz.prog w = .ok (.tuple #[]) (w.setRow g ((vI zs).toArray.toList.take o++vI (List.replicate n 0)++(vI zs).toArray.toList.drop (o+(vI (List.replicate n 0)).length)).toArray):=by
 have hst:=run_storeCells_at Tryz.prog g o 114 (vI (List.replicate n 0)) 0 (vI zs).toArray w h.bk (by rw [QZ8,List.length_replicate,qJ8 h.ln];omega) (qDD _);have hv:∀ w,(zeroValue 2).run Tryz.prog w = .ok (.int .i64 0) w:=fun w=>by kernel_rfl
 simp only [Nat.add_zero] at hst;rw [<- qEG] at hst ⊢
 obtain ⟨m,rfl⟩:∃ m,n=m+1:=⟨n - 1,by omega⟩;simp [Builtin.clear_,run_underlying Tryz.underlying29,hv,hst]
theorem qET (w:World) (a:Option Addr) (c:Nat) (ty:TypeId) :
  (Builtin.clear_ #[29] ty #[.slice a 0 c]).run Tryz.prog w = .ok (.tuple #[]) w:=by
 cases a <;> simp [Builtin.clear_,run_underlying Tryz.underlying29,storeCells,Builtin.zeroCells]
