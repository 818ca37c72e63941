/- Contracts. -/
import Derived.Test.YtdppdbihhlipeaaGreatDoorPr15
namespace Go.Proofs.YtdppdbihhlipeaaGreatDoor
set_option maxRecDepth 100000
set_option maxHeartbeats 8000000
open Go.RowKit
set_option linter.unusedVariables false
set_option linter.unusedSimpArgs false

section
theorem qBm (g k:Nat) (hk:k < 40) (W:World):(Instr.sliceAt 114 (.pointer (some ⟨g,0,none⟩)) (some (.int .i64 ((k:Int) * 6))) (some (.int .i64 ((k:Int) * 6+6))) none).run Tryz.prog W = .ok (.slice (some ⟨g,k * 6,none⟩) 6 (240 - k * 6)) W:=by
 have h1:((k:Int) * 6).toNat=k * 6:=by omega
 have h2:((k:Int) * 6+6).toNat=k * 6+6:=by omega
 rw [run_sliceAt_array_lh W _ _ Tryz.arr114 .i64 .i64 _ _ (by omega) (by omega) (by rw [Tryz.arrl114];omega),Tryz.arrs114];simp only [Result.andThen_ok,slicedAt,Tryz.arrl114,h1,h2];rw [if_neg (by omega),Go.WideShapes.add_plain];simp
theorem qBo (g:Nat) (W:World):(Instr.sliceAt 114 (.pointer (some ⟨g,0,none⟩)) none none none).run Tryz.prog W = .ok (.slice (some ⟨g,0,none⟩) 240 240) W:=by
 rw [run_sliceAt_array_all W _ _ Tryz.arr114,Tryz.arrs114];simp only [Result.andThen_ok,slicedAt,Tryz.arrl114];rw [if_neg (by omega),Go.WideShapes.add_plain]
theorem qBn (g:Nat) (W:World):(Instr.sliceAt 114 (.pointer (some ⟨g,0,none⟩)) (some (.int .i64 240)) none none).run Tryz.prog W = .ok (.slice (some ⟨g,0,none⟩) 0 0) W:=by
 rw [run_sliceAt_array_l W _ _ Tryz.arr114 .i64 _ (by omega) (by rw [Tryz.arrl114];omega),Tryz.arrs114];simp only [Result.andThen_ok,slicedAt,Tryz.arrl114];simp
theorem qKZ (g k:Nat) (hk:k < 40) (w:World):Calls Tryz.prog 103 #[.pointer (some ⟨g,0,none⟩),.int .i64 ((k:Int) * 6)] w fun e w'=>e = .returned (.slice (some ⟨g,k * 6,none⟩) 6 (240 - k * 6))/\w=w':=by
 have hsl:=qBm g k hk;have hwr:IntKind.i64.wrap ((k:Int) * 6+6)=(k:Int) * 6+6:=by rw [IntKind.wrap_i64];omega
 go_enter Tryz.func103,Tryz.ntmps103;go_wp2;go_ret;exact ⟨rfl,rfl⟩
theorem QA3.piece {w:World} {g:Nat} {zs:List Int} (h:QA3 w g zs) {k:Nat} (hk:k < 40):qC9 w (some ⟨g,k * 6,none⟩) 6 (qD8 zs k):=by
 refine ⟨QD3 (by have:=h.ln;omega),fun _=>⟨g,k * 6,rfl,fun j x e=>?_⟩⟩
 have hj:j < 6:=by
  by_cases q:j < 6
  ·exact q
  ·rw [List.getElem?_eq_none (by rw [QD3 (by have:=h.ln;omega)];omega)] at e;cases e
 rw [QD4 hj] at e;exact h.cell e
structure PO4 (w:World) (P:List Int) (wr:World):Prop where
 rs:QA3 wr w.heap.size qF0
 pg:QA3 wr (w.heap.size+1) P
 bl:Below w.heap.size w wr
theorem PO4.below {w:World} {P:List Int} {wr W:World} (h:PO4 w P wr) (hb:Below wr.heap.size wr W):PO4 w P W:=⟨h.rs.below hb,h.pg.below hb,h.bl.trans (hb.mono h.bl.size)⟩
theorem PO4.new (w:World):PO4 w qF0 ((w.alloc (.cells (vI qF0).toArray 114)).alloc (.cells (vI qF0).toArray 114)):=by
 refine ⟨(qGQ w qF0 rfl).below (zN),?_,(zN).alloc (by simp) _⟩;have q:=qGQ (w.alloc (.cells (vI qF0).toArray 114)) qF0 rfl;rw [World.size_alloc] at q;exact q
theorem qBu (a:Option Addr) (n cap:Nat) (w:World) (hn:n<=1048576) (h240:240 < n) :
  Calls Tryz.prog 78 #[.slice a n cap] w fun e w'=>e = .returned (.tuple #[.agg (vI qF0).toArray,.int .i64 2])/\Below w.heap.size w w':=by
 have h240':(240:Int) < (n:Int):=by omega
 have hni:(n:Int)<=1048576:=by omega
 obtain ⟨V,hV⟩:∃ V,V=(w.alloc (.cells (vI qF0).toArray 114)).alloc (.cells (vI qF0).toArray 114):=⟨_,rfl⟩;have P0:Hid (PO4 w qF0 V):=by rw [hV];exact PO4.new w
 have hz:=qBl;have hst:=QG5 P0.out.rs (ys:=qF0) rfl;have hl2:=QM0 (P0.out.rs.over (ys:=qF0) rfl);have HB:=qT1 (below_setRow P0.out.bl (Nat.le_refl _) (vI qF0).toArray);have hcs:=qJ8 (zs:=qF0) rfl;clear P0;generalize (vI qF0).toArray=cT at hst hl2 hz hcs HB hV ⊢
 go_enter Tryz.func78,Tryz.ntmps78;go_upto_region 2 with fail
 rw [<- hV];clear hV;go_wp2_with fail
 refine bodyPost_ret (v:=.tuple #[.agg cT,.int .i64 2]) ?_ rfl ⟨rfl,HB.out⟩;simp [results,Tryz.results78,asAddr,Result.andThen,hl2]
theorem qKa (a:Option Addr) (n cap g:Nat) (zs:List Int) (V:World) (h:qC9 V a n zs) (hn:n<=240) (hP:QA3 V g qF0):∃ W1,(∀ ty,(Builtin.copy_ #[29,29] ty #[.slice (some ⟨g,0,none⟩) 240 240,.slice a n cap]).run Tryz.prog V = .ok (goInt n) W1)/\QA3 W1 g (QG6 zs n)/\Below g V W1:=by
 have hl:zs.length=n:=h.1;by_cases h0:n=0
 ·subst h0;refine ⟨V,fun ty=>run_copy_none (P:=Tryz.prog) V 29 29 ty 2 _ _ 240 240 0 cap Tryz.underlying29 Tryz.size2 (by rfl),?_,Below.refl _ _⟩;have e:QG6 zs 0=qF0:=by unfold QG6 qF0;simp
  rw [e];exact hP
 ·obtain ⟨b,off,rfl,hc⟩:=h.2 (by omega);refine ⟨V.setRow g ((vI qF0).toArray.toList.take 0++vI zs++(vI qF0).toArray.toList.drop (0+(vI zs).length)).toArray,fun ty=>?_,?_,below_setRow (Below.refl _ _) (Nat.le_refl _) _⟩
  ·have q:=run_copy_row (P:=Tryz.prog) V 29 29 ty 2 g 0 240 240 ⟨b,off,none⟩ n cap (vI qF0).toArray 114 (vI zs) Tryz.underlying29 Tryz.size2 hP.bk (by rw [QZ8,hl];show n=min n 240;omega) (fun j v e=>by
    obtain ⟨x,e1,rfl⟩:=qMl e;rw [Go.WideShapes.add_plain];exact hc j x e1) (by rw [QZ8,hl,qJ8 hP.ln];omega) (qDD zs)
   rw [q,QZ8,hl]
  ·have q:=hP.put (o:=0) (ys:=zs) (by omega)
   have e:qIR qF0 0 zs=QG6 zs n:=by
    unfold qIR QG6 qF0;rw [List.take_zero,List.nil_append,List.drop_replicate,hl,Nat.zero_add,List.take_of_length_le (by omega)]
   rw [e] at q;exact q
theorem qIV (g N n:Nat) (zs:List Int) (wc:World) (hP:QA3 wc g (QG6 zs n)) (hl:zs.length=n) (hn:n<=240) (hN:N * 6<=n):∃ a c W2,(∀ W:World,(Instr.sliceAt 114 (.pointer (some ⟨g,0,none⟩)) (some (.int .i64 ((N:Int) * 6))) none none).run Tryz.prog W = .ok (.slice a c c) W)/\(∀ ty,(Builtin.clear_ #[29] ty #[.slice a c c]).run Tryz.prog wc = .ok (.tuple #[]) W2)/\QA3 W2 g (QG6 zs (N * 6))/\Below g wc W2:=by
 by_cases h40:N < 40
 ·refine ⟨_,_,_,qAM g N h40,fun ty=>qES wc g (N * 6) (240 - N * 6) (240 - N * 6) _ (by omega) hP (by omega) ty,?_,below_setRow (Below.refl _ _) (Nat.le_refl _) _⟩;have q:=hP.put (o:=N * 6) (ys:=List.replicate (240 - N * 6) 0) (by rw [List.length_replicate];omega);rw [qEe (by omega) hn hN] at q;exact q
 ·have e:(N:Int) * 6=240:=by omega
  rw [e];refine ⟨_,_,_,qBn g,fun ty=>qET wc _ 0 ty,?_,Below.refl _ _⟩;rw [show N * 6=n by omega];exact hP
theorem Tryz.fldS169 (c a0 a1 a2 a3 a4:Int) (w:World):(Instr.field 169 (.agg #[.int .i64 c,.int .i64 a0,.int .i64 a1,.int .i64 a2,.int .i64 a3,.int .i64 a4]) 0).run Tryz.prog w = .ok (.int .i64 c) w:=by kernel_rfl
attribute [local go_sem] Tryz.fldS169
theorem qGV (a:Option Addr) (n cap:Nat) (zs:List Int) (w:World) (h:qC9 w a n zs) (hn:n<=240) (hE:qG2 0 w) :
  Calls Tryz.prog 78 #[.slice a n cap] w fun e w'=>e = .returned (.tuple #[.agg (vI (qBp zs)).toArray,.int .i64 0])/\Below w.heap.size w w':=by
 have hni:¬ ((240:Int) < (n:Int)):=by omega
 have hnl:(n:Int)<=240:=by omega
 have HL:Hid (zs.length=n):=h.1;have HE:=qT1 hE;obtain ⟨V,hV⟩:∃ V,V=(w.alloc (.cells (vI qF0).toArray 114)).alloc (.cells (vI qF0).toArray 114):=⟨_,rfl⟩;have P0:Hid (PO4 w qF0 V):=by rw [hV];exact PO4.new w
 obtain ⟨W1,hcp,hP1,hB1⟩:=qKa a n cap (w.heap.size+1) zs V (h.below P0.out.bl) hn P0.out.pg;have P1:Hid (PO4 w (QG6 zs n) W1):=⟨P0.out.rs.keep (hB1.block _ (by omega)),hP1,P0.out.bl.trans (hB1.mono (by omega))⟩;obtain ⟨N,hN⟩:∃ N,(rdL zs).length=N:=⟨_,rfl⟩;have HN:=qT1 hN;have hNn:N * 6<=n:=by have:=QC9 (zs:=zs);rw [hN,HL.out] at this;exact this
 have hz:=qBl;have hsa:=qBo (w.heap.size+1);clear h hE hP1 hB1 hN P0;go_enter Tryz.func78,Tryz.ntmps78;go_upto_region 2 with fail
 rw [<- hV];clear hV hz;go_upto_region 4 with fail
 go_upto_region 5 with (at_builtin;refine wpList_copy_runI _ rfl _ _ 29 29 rfl _ _ rfl rfl (hcp _) ?_)
 clear hcp hsa;go_upto_block 0 with fail
 go_cut [6] from 14 to 26 (fun s wx=>s = .int .i64 ((N:Int) * 6)/\Hid (PO4 w (QG6 zs n) wx))
 case first =>
  go_wp2_with fail
  go_loopw [6] (fun i wr=>∃ k:Nat,k<=N/\i = .int .i64 ((k:Int) * 6)/\Hid (PO4 w (QG6 zs n) wr)) (fun i _=>240 - (intOf i).toNat)
  case atStart=>exact ⟨0,Nat.zero_le _,rfl,P1⟩
  case round =>
   clear P1;obtain ⟨k,hk,rfl,HP⟩:=hrel;have hw6:IntKind.i64.wrap ((k:Int) * 6+6)=(k:Int) * 6+6:=by rw [IntKind.wrap_i64];omega
   by_cases hfit:(k:Int) * 6+6<=(n:Int)
   ·have hk40:k < 40:=by omega
    have HPC:=qT1 (qKZ (w.heap.size+1) k hk40 wr);obtain ⟨d,hd⟩:∃ d,qFf (qD8 zs k)=d:=⟨_,rfl⟩;have HD:=qT1 hd
    have HU:Hid (∃ x:StI,qEF 102 (some ⟨w.heap.size+1,k * 6,none⟩) 6 (240 - k * 6) d x wr):=by
     have q:=QH0 (some ⟨w.heap.size+1,k * 6,none⟩) 6 (240 - k * 6) (qD8 (QG6 zs n) k) wr (HP.out.pg.piece hk40) (HE.out.below HP.out.bl);rw [QS9 (by rw [HL.out];exact Nat.le_refl _) (by omega)] at q;rw [<- hd];exact ⟨_,q⟩
    obtain ⟨x,hU⟩:=HU.out;unfold qEF at hU;have HU2:=qT1 hU;clear hd hU HU;go_wp2_with fail
    refine HPC.out.mono ?_;rintro e w1 ⟨rfl,rfl⟩;go_wp2_with fail
    refine HU2.out.mono ?_;rintro e w2 ⟨rfl,hb2⟩;have P2:=qT1 (HP.out.below hb2);clear hb2 HU2 HPC;by_cases hkN:k < N
    ·have hd0:d=0:=by
      have e:=QF3 (List.getElem?_eq_getElem (by rw [HN.out];exact hkN):(rdL zs)[k]? = some _);rw [<- HD.out];unfold qFf;rw [e];rfl
     subst hd0;go_wp2_with fail
     exact ⟨⟨k+1,hkN,by congr 1;push_cast;omega,P2⟩,by simp [intOf];omega⟩
    ·have hkN':k=N:=by omega
     have hd5:d=5:=by
      have e:=qGF zs;rw [HN.out,<- hkN'] at e;rw [<- HD.out];unfold qFf;rw [e];rfl
     subst hd5;subst hkN';go_wp2_with fail
     go_meet
     exact ⟨rfl,P2⟩
   ·have hkN':k=N:=by
     by_cases q:k < N
     ·have:=qBi (zs:=zs) (k:=k) (by rw [HN.out];exact q);rw [HL.out] at this;omega
     ·omega
    subst hkN';go_wp2_with fail
    go_meet
    exact ⟨rfl,HP⟩
 case rest =>
  clear P1;obtain ⟨rfl,HP⟩:=hcut;obtain ⟨sa,sc,W2,hsl,hcl,hP2,hB2⟩:=qIV (w.heap.size+1) N n zs wc HP.out.pg HL.out hn hNn;have PF:Hid (PO4 w (QG6 zs (N * 6)) W2):=⟨HP.out.rs.keep (hB2.block _ (by omega)),hP2,HP.out.bl.trans (hB2.mono (by omega))⟩;have hld:=qIX PF.out.pg;have hst:=QG5 PF.out.rs (ys:=QG6 zs (N * 6)) PF.out.pg.ln;have hl2:=QM0 (PF.out.rs.over PF.out.pg.ln);have HB:=qT1 (below_setRow PF.out.bl (Nat.le_refl _) (vI (QG6 zs (N * 6))).toArray);have hcs:=qJ8 PF.out.pg.ln;obtain ⟨cT,hcT⟩:∃ c,(vI (QG6 zs (N * 6))).toArray=c:=⟨_,rfl⟩;have HEQ:Hid ((vI (qBp zs)).toArray=cT):=by show _=_;unfold qBp;rw [HN.out];exact hcT
  rw [hcT] at hld hst hl2 HB hcs;clear hcT hP2 hB2 PF HP HE;go_wp2_with fail
  unfold Oper.wp;simp [execOp,Act.eval,hld,Result.andThen];rw [Oper.upon_value];go_wp2_with fail
  refine bodyPost_ret (v:=.tuple #[.agg cT,.int .i64 0]) ?_ rfl ⟨by rw [HEQ.out],HB.out⟩;simp [results,Tryz.results78,asAddr,Result.andThen,hl2]
end
