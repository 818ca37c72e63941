/- Contracts. -/
import Derived.Test.YtlhgjackapdmbaaGreatDoorPe13
import Derived.Test.YtlhgjackapdmbaaGreatDoorPe15
import Derived.Test.YtlhgjackapdmbaaGreatDoorPe12
namespace Go.Proofs.YtlhgjackapdmbaaGreatDoor
set_option maxRecDepth 100000
set_option maxHeartbeats 8000000
open Go.RowKit
set_option linter.unusedVariables false
set_option linter.unusedSimpArgs false

section
open Go.RowKit Go.Shelf
attribute [local go_sem] Oper.semAt_some
attribute [local go_sem] QJ3
set_option linter.unusedVariables false
set_option linter.unusedSimpArgs false
theorem setF_c (s:Int) (w:World):Calls Tryz.prog 133 #[.int .i64 s] w fun e w'=>e = .returned (.int .i64 (if inR s 0 255=true then 0 else 3))∧w=w':=by
 by_cases q0:s < 0
 ·rw [if_neg (by simp [inR];omega)]
  go_enter Tryz.func133,Tryz.ntmps133
  go_wp2
  go_ret
  exact ⟨rfl,rfl⟩
 ·by_cases q1:256≤s
  ·rw [if_neg (by simp [inR];omega)]
   go_enter Tryz.func133,Tryz.ntmps133
   go_wp2
   go_ret
   exact ⟨rfl,rfl⟩
  ·rw [if_pos (by simp [inR];omega)]
   go_enter Tryz.func133,Tryz.ntmps133
   go_wp2
   go_ret
   exact ⟨rfl,rfl⟩
abbrev mkD (D:Nat):Deferred:={ target:=.collected D,args:=#[] }
def MarksIn (B:Nat) (Ds:List Nat) (W:World):Prop:=Ds.Nodup∧∀ D∈Ds,B < D∧W.heap[D]? = some (.deferred (some []))
theorem QG2 {F:Fence} {n:Nat} {P:Program} {fn:Func} {tmps:Array Value} {R:Ending→World→Prop} {B:Nat} {S:World→Prop} (hS:∀ W D,S W→B < D→W.heap[D]? = some (.deferred (some []))→S (W.putObj D (.deferred none)))
  (hR:∀ W,S W→LeavesIn F n P fn tmps R [] .returning W):∀ (Ds:List Nat) (W:World),MarksIn B Ds W→S W→LeavesInM F n P fn tmps R (Ds.map mkD) .returning W
 | [],W,_,h=>hR W h
 | D::Ds,W,hm,h=>by
  obtain ⟨hnd,hall⟩:=hm
  obtain ⟨hD,hK⟩:=hall D (by simp)
  refine ⟨by simp,.inl ⟨D,_,rfl,run_takeDeferred hK,?_⟩⟩
  refine QG2 hS hR Ds _ ⟨(List.nodup_cons.1 hnd).2,fun E hE=>⟨(hall E (by simp [hE])).1,?_⟩⟩ (hS W D h hD hK)
  have hne:E≠D:=fun q=>(List.nodup_cons.1 hnd).1 (q ▸ hE)
  exact (World.putObj_heap_other hne).trans (hall E (by simp [hE])).2
structure NI (w W:World) (e f:Int) (es:List LkI) (Ds:List Nat):Prop where
 be:Boxed W w.heap.size 2 (.int .i64 e)
 bf:Boxed W (w.heap.size+1) 2 (.int .i64 f)
 rs:W.heap[w.heap.size+1+1]? = some (.cells #[.int .i64 0,.slice none 0 0] 124 (0,0))
 nb:∃ v,Boxed W (w.heap.size+1+1+1) 31 v∧W.ownsRow (w.heap.size+1+1+1) 98 4 v es.length (qA3 es)
 bl:Below w.heap.size w W
 mq:MarksIn (w.heap.size+1+1+1) Ds W
theorem NI.box {w W:World} {e f:Int} {es:List LkI} {Ds:List Nat} (h:NI w W e f es Ds) (o:Obj):NI w (W.alloc o) e f es Ds:=by
 obtain ⟨v,hv,hr⟩:=h.nb
 have hb:Below W.heap.size W (W.alloc o):=zN
 exact ⟨h.be.alloc o,h.bf.alloc o,(hb.block _ (by have:=(Array.getElem?_eq_some_iff.1 h.rs).1;omega)).trans h.rs,⟨v,hv.alloc o,hr.alloc o⟩,h.bl.alloc h.bl.size o,h.mq.1,fun D hD=>⟨(h.mq.2 D hD).1,(hb.block _ (Array.getElem?_eq_some_iff.1 (h.mq.2 D hD).2).1).trans (h.mq.2 D hD).2⟩⟩
def GivesK (fn:Nat) (a:Option Addr) (n cap:Nat) (ep fo se c:Int) (ys:List LkI) (w:World):Prop:=Calls Tryz.prog fn #[.slice a n cap,.int .i64 ep,.int .i64 fo,.int .i64 se] w fun r w'=>∃ (a':Option Addr) (cap':Nat),r = .returned (.agg #[.int .i64 c,.slice a' ys.length cap'])∧qA4 w' w.heap.size (.slice a' ys.length cap') ys∧Below w.heap.size w w'
theorem implNeeds_w (rm:Nat) (hrm:3≤rm) (a:Option Addr) (n cap:Nat) (zs:List Int) (e f s:Int) (w:World) (h:qH0 w a n zs) (hc:qE5 zs e f s=0) :
  CallsIn Fence.wide rm Tryz.prog 140 #[.slice a n cap,.int .i64 e,.int .i64 f,.int .i64 s] w fun r w'=>∃ (a':Option Addr) (cap':Nat),r = .returned (.agg #[.int .i64 0,.slice a' (qB3 zs e f s n).length cap'])∧qA4 w' w.heap.size (.slice a' (qB3 zs e f s n).length cap') (qB3 zs e f s n)∧Below w.heap.size w w':=by
 have h1:1≤rm:=by omega
 obtain ⟨hcl,he,hf,hs⟩:=QK9 hc
 have HC:Hid (qG7 zs=0):=hcl
 have HE:Hid (inR e 1 9=true):=he
 have HF:Hid (inR f 1 4=true):=hf
 have HS:Hid (inR s 0 255=true):=hs
 obtain ⟨f0,f1⟩:=(qG9 _ _ _).1 hf
 obtain ⟨s0,s1⟩:=(qG9 _ _ _).1 hs
 have HZ:Hid (zs.length=n):=h.1
 have hn:n≤4:=by rw [← HZ.out];exact (cl_ok hcl).1
 have HK:Hid (∀ x∈zs,inR x 0 15=true):=(cl_ok hcl).2
 have hn':(n:Int)≤4:=by omega
 have hs2:s < (256:Int):=by omega
 obtain ⟨i0,hi,hz0,hz1,hz2⟩:=info_parts Tryz.info98
 have HI1:Hid (qH0 (((w.alloc (.cells #[.int .i64 e] 2)).alloc (.cells #[.int .i64 f] 2)).alloc (.cells #[.int .i64 0,.slice none 0 0] 124)) a n zs):=h.below ((((Below.refl _ w).alloc (Nat.le_refl _) _).alloc (by simp) _).alloc (by simp;omega) _)
 have h0:=h
 clear hcl he hf hs hc h
 refine callsIn_of_wp_marks Tryz.func140 rfl trivial ?_ rfl
 simp only [Tryz.ntmps140,List.size_toArray,List.length_cons,List.length_nil,Nat.reduceAdd,Nat.reduceSub,Array.replicate_succ,Array.replicate_zero,List.push_toArray,List.append_toArray,List.nil_append,List.cons_append]
 gi_wp2_with (first | (gi_at_call 161;refine (callsIn_wide.2 (qG4 _ _ _ zs _ HI1.out)).mono ?_;rintro r w' ⟨rfl,rfl⟩;rw [HC.out]) | (gi_at_call 131;refine (callsIn_wide.2 (qI4 _ _)).mono ?_;rintro r w' ⟨rfl,rfl⟩;rw [HE.out]) | (gi_at_call 132;refine (callsIn_wide.2 (QC2 _ _)).mono ?_;rintro r w' ⟨rfl,rfl⟩;rw [HF.out]) | (gi_at_call 133;refine (callsIn_wide.2 (setF_c _ _)).mono ?_;rintro r w' ⟨rfl,rfl⟩;rw [HS.out,if_pos rfl]))
 have hI0:NI w ((((w.alloc (.cells #[.int .i64 e] 2)).alloc (.cells #[.int .i64 f] 2)).alloc (.cells #[.int .i64 0,.slice none 0 0] 124)).alloc (.cells #[.slice none 0 0] 31)) e f (qB3 zs e f s 0) []:=by
  have b1:=Boxed.new w 2 (.int .i64 e)
  have b2:=Boxed.new (w.alloc (.cells #[.int .i64 e] 2)) 2 (.int .i64 f)
  rw [World.size_alloc] at b2
  have b3:=World.alloc_heap_new ((w.alloc (.cells #[.int .i64 e] 2)).alloc (.cells #[.int .i64 f] 2)) (.cells #[.int .i64 0,.slice none 0 0] 124)
  rw [World.size_alloc,World.size_alloc] at b3
  have b4:=Boxed.new (((w.alloc (.cells #[.int .i64 e] 2)).alloc (.cells #[.int .i64 f] 2)).alloc (.cells #[.int .i64 0,.slice none 0 0] 124)) 31 (.slice none 0 0)
  rw [World.size_alloc,World.size_alloc,World.size_alloc] at b4
  exact ⟨((b1.alloc _).alloc _).alloc _,(b2.alloc _).alloc _,(Below.heap_alloc _ _ _ (by simp)).trans b3,⟨_,b4,World.ownsRow_nil _ _ _ _⟩,((((Below.refl _ w).alloc (Nat.le_refl _) _).alloc (by simp) _).alloc (by simp;omega) _).alloc (by simp;omega) _,by simp,fun D hD=>by simp at hD⟩
 have HIN:Hid (qH0 w a n zs):=h0
 generalize (((w.alloc (.cells #[.int .i64 e] 2)).alloc (.cells #[.int .i64 f] 2)).alloc (.cells #[.int .i64 0,.slice none 0 0] 124)).alloc (.cells #[.slice none 0 0] 31)=W0 at hI0 ⊢
 clear HI1 HC HE HF HS h0
 refine wpIn_loop (fun a' W=>∃ (k:Nat) (Ds:List Nat) (u11 u12 u13 u37 u38 u39 u40 u41 u42 u43 u44 u45 u46 u47 u48 u49 u50 u51 u52 u53 u54 u55 u56 u57:Value),k≤n∧a' = { tmps:=#[.slice a n cap,.int .i64 e,.int .i64 f,.int .i64 s,undef,.pointer (some ⟨w.heap.size,0,none⟩),.pointer (some ⟨w.heap.size+1,0,none⟩),undef,.pointer (some ⟨w.heap.size+1+1,0,none⟩),.int .i64 0,.pointer (some ⟨w.heap.size+1+1+1,0,none⟩),u11,u12,u13,.slice a n cap,.int .i64 0,.int .i64 0,.bool false,undef,undef,.int .i64 e,.bool true,.bool false,.bool false,.int .i64 f,.bool true,.bool false,.bool false,.bool false,.int .i64 s,.int .i64 0,.bool false,.bool false,undef,.slice a n cap,.int .i64 (n:Int),.int .i64 (k:Int),u37,u38,u39,u40,u41,u42,u43,u44,u45,u46,u47,u48,u49,u50,u51,u52,u53,u54,u55,u56,u57,undef,undef],defers:=Ds.map mkD }∧NI w W e f (qB3 zs e f s k) Ds) (fun a' _=>n - (intOf (a'.tmps.getD 36 undef)).toNat) ⟨0,[],_,_,_,_,_,_,_,_,_,_,_,_,_,_,_,_,_,_,_,_,_,_,_,_,Nat.zero_le _,rfl,hI0⟩ ?_
 rintro _ wr ⟨k,Ds,u11,u12,u13,u37,u38,u39,u40,u41,u42,u43,u44,u45,u46,u47,u48,u49,u50,u51,u52,u53,u54,u55,u56,u57,hk,rfl,hI⟩
 have HNI:Hid (NI w wr e f (qB3 zs e f s k) Ds):=hI
 clear hI hI0
 by_cases hlt:k < n
 ·have hlt':(k:Int) < (n:Int):=by omega
  obtain ⟨b,off,x,e2,hx,c0,hbl⟩:=(HIN.out).at hlt
  have hc0:wr.cell? ⟨b,off+k,none⟩=some (.int .i64 x):=(HNI.out.bl.cell (p:=⟨b,off+k,none⟩) hbl).trans c0
  obtain ⟨x0,x1⟩:=cl_at HK.out hx
  have HX:Hid (zs[k]? = some x):=hx
  have cF:(wr.alloc (.cells #[.int .i64 (k:Int)] 3)).cell? ⟨w.heap.size+1,0,none⟩=some (.int .i64 f):=(HNI.out.bf.alloc _).cell
  have hbw:b < wr.heap.size:=Nat.lt_of_lt_of_le hbl HNI.out.bl.size
  subst e2
  clear hx c0
  obtain ⟨t,ht⟩:∃ t,qJ0 x f=t:=⟨_,rfl⟩
  have HT:Hid (qJ0 x f=t):=ht
  clear ht
  cases t
  ·have HN:Hid (qB3 zs e f s (k+1)=qB3 zs e f s k):=by show qB3 zs e f s (k+1)=_;simp [qB3,qS5,HX.out,HT.out]
   gi_wp2_with (gi_at_call 162;refine (callsIn_wide.2 (hasForm_c _ _ (by omega) (by omega) (by omega) (by omega) _)).mono ?_;rintro r w' ⟨rfl,rfl⟩;rw [HT.out])
   exact ⟨⟨k+1,Ds,_,_,_,_,_,_,_,_,_,_,_,_,_,_,_,_,_,_,_,_,_,_,_,_,by omega,rfl,by rw [HN.out];exact HNI.out.box _⟩,by simp [intOf];omega⟩
  ·have HN:Hid (qB3 zs e f s (k+1)=qB3 zs e f s k++qG3 e f k (qB2 s 8)):=by show qB3 zs e f s (k+1)=_;simp [qB3,qS5,HX.out,HT.out]
   have HLE:Hid ((qB3 zs e f s k).length≤32):=by have:=qV5 zs e f s k;show (qB3 zs e f s k).length≤32;omega
   gi_wp2_with (first | (gi_at_call 162;refine (callsIn_wide.2 (hasForm_c _ _ (by omega) (by omega) (by omega) (by omega) _)).mono ?_;rintro r w' ⟨rfl,rfl⟩;rw [HT.out]) | (gi_at_call 163;refine (prin_in _ _ _).mono ?_;rintro r w' ⟨rfl,rfl⟩))
   have bP:=(Boxed.new wr 3 (.int .i64 (k:Int))).alloc (.cells #[.int .u8 s] 220)
   have bS:=Boxed.new (wr.alloc (.cells #[.int .i64 (k:Int)] 3)) 220 (.int .u8 s)
   rw [World.size_alloc] at bS
   have hNI:=(HNI.out.box (.cells #[.int .i64 (k:Int)] 3)).box (.cells #[.int .u8 s] 220)
   obtain ⟨W1,hW1⟩:∃ W1,(wr.alloc (.cells #[.int .i64 (k:Int)] 3)).alloc (.cells #[.int .u8 s] 220)=W1:=⟨_,rfl⟩
   have hsz:W1.heap.size=wr.heap.size+2:=by rw [← hW1];simp
   rw [hW1] at bP bS hNI ⊢
   clear hW1 cF hc0
   obtain ⟨v0,hv0,hr0⟩:=hNI.nb
   have hNBlt:=hv0.lt
   have hNBwr:w.heap.size+1+1+1 < wr.heap.size:=by obtain ⟨v9,hv9,_⟩:=HNI.out.nb;exact hv9.lt
   obtain ⟨es,hes⟩:∃ es,qB3 zs e f s k=es:=⟨_,rfl⟩
   have HN2:Hid (qB3 zs e f s (k+1)=es++qG3 e f k (qB2 s 8)):=by show qB3 zs e f s (k+1)=_;rw [HN.out,hes]
   have HLE2:Hid (es.length≤32):=by show es.length≤32;rw [← hes];exact HLE.out
   rw [hes] at hr0
   have HB1:Hid (NI w W1 e f es Ds):=by rw [hes] at hNI;exact hNI
   clear hes HN HLE hNI HNI
   have hmk:∀ D∈Ds,D < W1.heap.size∧W1.heap[D]? = some (.deferred (some [])):=fun D hD=>⟨(Array.getElem?_eq_some_iff.1 (HB1.out.mq.2 D hD).2).1,(HB1.out.mq.2 D hD).2⟩
   have hOM:OwnFrom W1.heap.size (fun (_:List Int) W=>∀ D∈Ds,W.heap[D]? = some (.deferred (some []))):=fun _ X Y row hs hg hr D hD=>(hg.block D (Array.getElem?_eq_some_iff.1 (hs D hD)).1 (fun q=>by have:=(hr D q.symm).1;have:=(hmk D hD).1;omega)).trans (hs D hD)
   refine wpIn_rangeFunc_ownG rfl h1 (gf:=183) (lb:=#[.pointer (some ⟨wr.heap.size+1,0,none⟩)]) rfl trivial (enters_of Tryz.func183 (by kernel_rfl) rfl)
    (prin_stops (rm - 1) (by omega) (wr.heap.size+1) s s0 s1 W1 (by omega) bS.cell) (Kp:=qZ7 (wr.heap.size+1)) (fun h k=>Eq.trans k h) (fun W l o o' hl h _ _=>World.putObj_heap_other (by omega)) (Below.refl _ _) (fun _=>rfl)
    (fun pre W=>((∃ v,Boxed W (w.heap.size+1+1+1) 31 v∧W.ownsRow (w.heap.size+1+1+1) 98 4 v (es++qG3 e f k pre).length (qA3 (es++qG3 e f k pre))∧True)∧(Boxed W wr.heap.size 3 (.int .i64 (k:Int))∧Boxed W (wr.heap.size+1) 220 (.int .u8 s)))∧(Below (w.heap.size+1+1+1) W1 W∧∀ D∈Ds,W.heap[D]? = some (.deferred (some []))))
    (fun _ _ _=>False)
    (OwnFrom.and (OwnFrom.and (Own.from (holdsRow_own (w.heap.size+1+1+1) (w.heap.size+1+1+1) 31 98 4 (fun pre:List Int=>(es++qG3 e f k pre).length) (fun pre=>qA3 (es++qG3 e f k pre)) (fun _ _=>True)) _) (OwnFrom.and (Own.from (boxed_own _ _ (fun _ => .int .i64 (k:Int))) _) (Own.from (boxed_own _ _ (fun _ => .int .u8 s)) _))) (OwnFrom.and (ownFrom_below (by omega) (by omega)) hOM))
    (fun _ _ _ _ _ hs _ _=>hs)
    ⟨⟨⟨v0,hv0,by simpa [qG3] using hr0,trivial⟩,bP,bS⟩,Below.refl _ _,fun D hD=>(hmk D hD).2⟩
    (fun y=>{ tmps:=#[.slice (some ⟨b,off,none⟩) n cap,.int .i64 e,.int .i64 f,.int .i64 s,undef,.pointer (some ⟨w.heap.size,0,none⟩),.pointer (some ⟨w.heap.size+1,0,none⟩),undef,.pointer (some ⟨w.heap.size+1+1,0,none⟩),.int .i64 0,.pointer (some ⟨w.heap.size+1+1+1,0,none⟩),.pointer (some ⟨wr.heap.size,0,none⟩),.int .i64 x,.int .i64 y,.slice (some ⟨b,off,none⟩) n cap,.int .i64 0,.int .i64 0,.bool false,undef,undef,.int .i64 e,.bool true,.bool false,.bool false,.int .i64 f,.bool true,.bool false,.bool false,.bool false,.int .i64 s,.int .i64 0,.bool false,.bool false,undef,.slice (some ⟨b,off,none⟩) n cap,.int .i64 (n:Int),.int .i64 (k:Int),.bool true,.int .i64 (k:Int),.pointer (some ⟨b,off+k,none⟩),.int .i64 x,.int .i64 x,.int .i64 f,.bool true,.bool false,.int .i64 s,.int .u8 s,.func (.func 183) #[] #[.pointer (some ⟨wr.heap.size+1,0,none⟩)],.int .i64 y,u49,u50,u51,u52,u53,u54,u55,u56,u57,undef,undef],defers:=[] }) ?assign ?body ?done ?stop
   case assign =>
    intro l y W K hK
    gi_wp2
    exact hK
   case body =>
    rintro l pre y W ⟨⟨⟨v,hv,hrow,_⟩,hP,hS⟩,hB,hM⟩ hlt9
    have hc:=hv.cell
    have hcP:=hP.cell
    have hcE:W.cell? ⟨w.heap.size,0,none⟩=some (.int .i64 e):=(hB.cell (p:=⟨w.heap.size,0,none⟩) (by simp;omega)).trans HB1.out.be.cell
    have hcF:W.cell? ⟨w.heap.size+1,0,none⟩=some (.int .i64 f):=(hB.cell (p:=⟨w.heap.size+1,0,none⟩) (by simp)).trans HB1.out.bf.cell
    have hl8:=qY8 s 8
    have hle:=HLE2.out
    have hlen:(es++qG3 e f k pre).length≤40:=by simp [qG3];omega
    have hnx:es++qG3 e f k (pre++[y])=(es++qG3 e f k pre)++[⟨e,(k:Int),y,f⟩]:=by simp [qG3]
    generalize es++qG3 e f k pre=fs at hrow hlen hnx
    gi_wp2_with (gi_at_builtin;refine wpListIn_append_own _ rfl _ _ 31 rfl (w.heap.size+1+1+1) 98 i0 (.agg #[.int .i64 0,.int .i64 0,.int .i64 0,.int .i64 0]) 4 32 Tryz.under31 hi hz0 hz1 hz2 rfl (by decide) _ _ _ rfl (hrow.alloc _) ⟨W.heap.size,0,none⟩ 1 1 [.int .i64 e,.int .i64 (k:Int),.int .i64 y,.int .i64 f] rfl rfl (cell_new4 _ _ rfl _ _ _ _ _) (by intro u hu;simp at hu;rcases hu with rfl | rfl | rfl | rfl <;> rfl) (by unfold maxLen;omega) (by omega) (by have:=hB.size;simp;omega) ?_;intro v' w1 hown' hgrow _;obtain ⟨g',cap',rfl⟩:=ownsRow_succ hown';obtain ⟨hv1,hv2,hr2,hk2,hb2⟩:=hv.appended (by decide) hrow (by have:=hB.size;omega) (Nat.le_refl _) hown' hgrow;have hc1:=hv1.cell;have hf1:=hv1.frozen;have hP1:=((hP.alloc _).kept hgrow (hP.not_row (by decide) hrow)).other (B':=w.heap.size+1+1+1) (by omega) (.slice (some ⟨g',0,none⟩) (fs.length+1) cap');have hS1:=((hS.alloc _).kept hgrow (hS.not_row (by decide) hrow)).other (B':=w.heap.size+1+1+1) (by omega) (.slice (some ⟨g',0,none⟩) (fs.length+1) cap'))
    exact ⟨hk2.from _,hS1.trans hS.symm,⟨⟨_,hv2,by rw [hnx];exact qV4 (x:=⟨e,(k:Int),y,f⟩) hr2,trivial⟩,hP1,hS1⟩,hB.trans hb2,fun D hD=>hk2.same D _ (hM D hD) rfl⟩
   case done =>
    rintro D ys W hD rfl ⟨⟨⟨v,hv,hrow,_⟩,_,_⟩,hB,hM⟩ hK
    have R:Hid (NI w W e f (qB3 zs e f s (k+1)) (D::Ds)):=by
     refine ⟨(hB.block _ (by omega)).trans HB1.out.be,(hB.block _ (by omega)).trans HB1.out.bf,(hB.block _ (by omega)).trans HB1.out.rs,⟨v,hv,by rw [HN2.out];exact hrow⟩,HB1.out.bl.trans (hB.mono (by omega)),List.nodup_cons.2 ⟨fun q=>by have:=(hmk D q).1;omega,HB1.out.mq.1⟩,fun E hE=>?_⟩
     rcases List.mem_cons.1 hE with rfl | q
     ·exact ⟨by omega,hK⟩
     ·exact ⟨(HB1.out.mq.2 E q).1,hM E q⟩
    gi_wp2
    exact ⟨⟨k+1,D::Ds,_,_,_,_,_,_,_,_,_,_,_,_,_,_,_,_,_,_,_,_,_,_,_,_,by omega,rfl,R.out⟩,by simp [intOf];omega⟩
   case stop =>
    rintro D c pre W _ _ h _
    exact h.elim
 ·have hkn:k=n:=by omega
  subst hkn
  obtain ⟨v,hv,hrow⟩:=HNI.out.nb
  obtain ⟨a',cap',rfl⟩:=qA4.slice (show qA4 wr (w.heap.size+1+1+1) v (qB3 zs e f s k) from hrow)
  have cN:=hv.cell
  have r0:wr.cell? ⟨w.heap.size+1+1,0,none⟩=some (.int .i64 0):=by simp [World.cell?,HNI.out.rs]
  have r1:wr.cell? ⟨w.heap.size+1+1,1,none⟩=some (.slice none 0 0):=by simp [World.cell?,HNI.out.rs]
  have q0:wr.frozen? ⟨w.heap.size+1+1,0,none⟩=false:=by simp [World.frozen?,HNI.out.rs]
  have q1:wr.frozen? ⟨w.heap.size+1+1,1,none⟩=false:=by simp [World.frozen?,HNI.out.rs]
  have hmq:=HNI.out.mq
  have hbl:=HNI.out.bl
  gi_wp2
  refine QG2 (B:=w.heap.size+1+1+1) (S:=fun X=>X.cell? ⟨w.heap.size+1+1,0,none⟩=some (.int .i64 0)∧X.cell? ⟨w.heap.size+1+1,1,none⟩=some (.slice a' (qB3 zs e f s k).length cap')∧qA4 X (w.heap.size+1+1+1) (.slice a' (qB3 zs e f s k).length cap') (qB3 zs e f s k)∧Below w.heap.size w X) ?hS ?hR Ds _ ?hM ?h0
  case hS =>
   rintro X D ⟨c0,c1,ho,hb⟩ hD hX
   have hne:w.heap.size+1+1≠D:=by omega
   exact ⟨(World.cell?_of_block (a:=⟨w.heap.size+1+1,0,none⟩) (World.putObj_heap_other hne)).trans c0,(World.cell?_of_block (a:=⟨w.heap.size+1+1,1,none⟩) (World.putObj_heap_other hne)).trans c1,ownsRow_putObj ho _ hX rfl,hb.trans (belowK_b (w:=w) (Nat.le_refl _) _ D _ _ (by omega) hX rfl rfl)⟩
  case hR =>
   rintro X ⟨c0,c1,ho,hb⟩
   exact ⟨.agg #[.int .i64 0,.slice a' (qB3 zs e f s k).length cap'],by simp [results,Tryz.results140,go_sem,c0,c1],a',cap',rfl,qA9 ho (by omega),hb⟩
  case hM=>exact ⟨hmq.1,fun D hD=>⟨(hmq.2 D hD).1,by
   have h1:=(KeepsOthers.setCell wr ⟨w.heap.size+1+1,0,none⟩ (.int .i64 0)).same D _ (hmq.2 D hD).2 rfl
   exact (KeepsOthers.setCell (wr.setCell ⟨w.heap.size+1+1,0,none⟩ (.int .i64 0)) ⟨w.heap.size+1+1,1,none⟩ _).same D _ h1 rfl⟩⟩
  case h0 =>
   refine ⟨?_,?_,?_,?_⟩
   ·rw [World.cell?_setCell_other _ _ _ _ (by simp)]
    exact World.cell?_setCell_same' _ _ _ (by rw [r0];rfl)
   ·exact World.cell?_setCell_same' _ _ _ (by rw [World.cell?_setCell_other _ _ _ _ (by simp),r1];rfl)
   ·exact ownsRow_setCell_below (ownsRow_setCell_below hrow (by simp) _) (by simp) _
   ·exact (hbl.setCell (p:=⟨w.heap.size+1+1,0,none⟩) (by simp;omega) _).setCell (p:=⟨w.heap.size+1+1,1,none⟩) (by simp;omega) _
theorem implNeeds_ok (a:Option Addr) (n cap:Nat) (zs:List Int) (e f s:Int) (w:World) (h:qH0 w a n zs) (hc:qE5 zs e f s=0):GivesK 140 a n cap e f s 0 (qB3 zs e f s n) w :=
 callsIn_wide.1 (implNeeds_w 3 (Nat.le_refl _) a n cap zs e f s w h hc)
theorem QU9 (a:Option Addr) (n cap:Nat) (zs:List Int) (e f s c:Int) (w:World) (h:qH0 w a n zs) (hc:qE5 zs e f s=c) (h0:c≠0):GivesK 140 a n cap e f s c [] w:=by
 have HI1:Hid (qH0 (((w.alloc (.cells #[.int .i64 e] 2)).alloc (.cells #[.int .i64 f] 2)).alloc (.cells #[.int .i64 0,.slice none 0 0] 124)) a n zs):=h.below ((((Below.refl _ w).alloc (Nat.le_refl _) _).alloc (by simp) _).alloc (by simp;omega) _)
 have HB1:Hid (Below w.heap.size w (((w.alloc (.cells #[.int .i64 e] 2)).alloc (.cells #[.int .i64 f] 2)).alloc (.cells #[.int .i64 0,.slice none 0 0] 124))):=(((Below.refl _ w).alloc (Nat.le_refl _) _).alloc (by simp) _).alloc (by simp;omega) _
 clear h
 obtain ⟨d,hd⟩:∃ d,qG7 zs=d:=⟨_,rfl⟩
 have HD:Hid (qG7 zs=d):=hd
 unfold GivesK
 by_cases d0:d=0
 ·subst d0
  obtain ⟨t1,h1⟩:∃ t,inR e 1 9=t:=⟨_,rfl⟩
  obtain ⟨t2,h2⟩:∃ t,inR f 1 4=t:=⟨_,rfl⟩
  obtain ⟨t3,h3⟩:∃ t,inR s 0 255=t:=⟨_,rfl⟩
  have HV:Hid (c=if (t1&&(t2&&t3))=true then 0 else 3):=by show c=_;rw [← hc,qE5,if_pos hd,h1,h2,h3]
  have H1:Hid (inR e 1 9=t1):=h1
  have H2:Hid (inR f 1 4=t2):=h2
  have H3:Hid (inR s 0 255=t3):=h3
  have H0:Hid (c≠0):=h0
  clear hc hd h1 h2 h3 h0
  cases t1
  ·obtain rfl:c=3:=HV.out
   go_enter Tryz.func140,Tryz.ntmps140
   go_wp2_with (first | (go_at_call 161;refine (qG4 _ _ _ zs _ HI1.out).mono ?_;rintro e w' ⟨rfl,rfl⟩;rw [HD.out]) | (go_at_call 131;refine (qI4 _ _).mono ?_;rintro e w' ⟨rfl,rfl⟩;rw [H1.out]))
   refine bodyPost_ret (v:=.agg #[.int .i64 3,.slice none 0 0]) (by simp [results,Tryz.results140,go_sem]) rfl ⟨none,0,rfl,World.ownsRow_nil _ _ _ _,?_⟩
   exact (((Below.refl _ w).alloc (Nat.le_refl _) _).alloc (by simp) _).alloc (by simp;omega) _
  cases t2
  ·obtain rfl:c=3:=HV.out
   go_enter Tryz.func140,Tryz.ntmps140
   go_wp2_with (first | (go_at_call 161;refine (qG4 _ _ _ zs _ HI1.out).mono ?_;rintro e w' ⟨rfl,rfl⟩;rw [HD.out]) | (go_at_call 131;refine (qI4 _ _).mono ?_;rintro e w' ⟨rfl,rfl⟩;rw [H1.out]) | (go_at_call 132;refine (QC2 _ _).mono ?_;rintro e w' ⟨rfl,rfl⟩;rw [H2.out]))
   refine bodyPost_ret (v:=.agg #[.int .i64 3,.slice none 0 0]) (by simp [results,Tryz.results140,go_sem]) rfl ⟨none,0,rfl,World.ownsRow_nil _ _ _ _,?_⟩
   exact (((Below.refl _ w).alloc (Nat.le_refl _) _).alloc (by simp) _).alloc (by simp;omega) _
  cases t3
  ·obtain rfl:c=3:=HV.out
   go_enter Tryz.func140,Tryz.ntmps140
   go_wp2_with (first | (go_at_call 161;refine (qG4 _ _ _ zs _ HI1.out).mono ?_;rintro e w' ⟨rfl,rfl⟩;rw [HD.out]) | (go_at_call 131;refine (qI4 _ _).mono ?_;rintro e w' ⟨rfl,rfl⟩;rw [H1.out]) | (go_at_call 132;refine (QC2 _ _).mono ?_;rintro e w' ⟨rfl,rfl⟩;rw [H2.out]) | (go_at_call 133;refine (setF_c _ _).mono ?_;rintro e w' ⟨rfl,rfl⟩;rw [H3.out,if_neg (by simp)]))
   refine bodyPost_ret (v:=.agg #[.int .i64 3,.slice none 0 0]) (by simp [results,Tryz.results140,go_sem]) rfl ⟨none,0,rfl,World.ownsRow_nil _ _ _ _,?_⟩
   exact (((Below.refl _ w).alloc (Nat.le_refl _) _).alloc (by simp) _).alloc (by simp;omega) _
  ·exact absurd HV.out H0.out
 ·have HV:Hid (d=c):=by show d=c;rw [← hc,qE5,if_neg (by rw [hd];exact d0),hd]
  obtain rfl:d=c:=HV.out
  have db:(d != 0)=true:=by simp [d0]
  clear hc hd d0 h0
  go_enter Tryz.func140,Tryz.ntmps140
  go_wp2_with (first | (go_at_call 161;refine (qG4 _ _ _ zs _ HI1.out).mono ?_;rintro e w' ⟨rfl,rfl⟩;rw [HD.out]))
  refine bodyPost_ret (v:=.agg #[.int .i64 d,.slice none 0 0]) (by simp [results,Tryz.results140,go_sem]) rfl ⟨none,0,rfl,World.ownsRow_nil _ _ _ _,?_⟩
  exact (((Below.refl _ w).alloc (Nat.le_refl _) _).alloc (by simp) _).alloc (by simp;omega) _
end

end Go.Proofs.YtlhgjackapdmbaaGreatDoor
