/- Contracts. -/
import Derived.Test.YtdppdbihhlipeaaGreatDoorPl12
import Derived.Test.YtdppdbihhlipeaaGreatDoorPl08
import Derived.Test.YtdppdbihhlipeaaGreatDoorPl09
import Derived.Laws.CopyRow
import Derived.Laws.CopyOwn
import Derived.Laws.IdiomCopy
import Derived.Shelf.Spec.SlicesInsert
namespace Go.Proofs.YtdppdbihhlipeaaGreatDoor
set_option maxRecDepth 100000
set_option maxHeartbeats 8000000
open Go.RowKit
set_option linter.unusedVariables false
set_option linter.unusedSimpArgs false

theorem QC6 {p:Prop} (h:p):Hid p:=h
def vI (zs:List Int):List Value:=zs.map (Value.int .i64)
theorem QQ7 (zs:List Int):(vI zs).length=zs.length:=by simp [vI]
theorem vI_at {zs:List Int} {k:Nat} {x:Int} (h:zs[k]? = some x):(vI zs)[k]? = some (.int .i64 x):=by simp [vI,h]
theorem vI_of {zs:List Int} {k:Nat} {v:Value} (h:(vI zs)[k]? = some v):∃ x,zs[k]? = some x∧v = .int .i64 x:=by
 unfold vI at h
 rw [List.getElem?_map] at h
 cases q:zs[k]? with
 | none=>rw [q] at h;cases h
 | some x=>rw [q] at h;exact ⟨x,rfl,(Option.some.inj h).symm⟩
theorem vI_one (zs:List Int):∀ v∈vI zs,v.oneCell'=true:=by
 intro v hv
 obtain ⟨x,_,rfl⟩:=List.mem_map.1 hv
 rfl
def putZ (zs:List Int) (o:Nat) (ys:List Int):List Int:=zs.take o++ys++zs.drop (o+ys.length)
theorem vI_put (zs ys:List Int) (o:Nat):vI (putZ zs o ys)=(vI zs).take o++vI ys++(vI zs).drop (o+(vI ys).length):=by
 simp [vI,putZ,List.map_take,List.map_drop]
theorem putZ_len {zs ys:List Int} {o:Nat} (h:o+ys.length≤zs.length):(putZ zs o ys).length=zs.length:=by
 simp [putZ,List.length_take,List.length_drop];omega
structure QY0 (w:World) (g:Nat) (zs:List Int):Prop where
 bk:w.heap[g]? = some (.cells (vI zs).toArray 114 (0,0))
 ln:zs.length=240
theorem QY0.lt {w:World} {g:Nat} {zs:List Int} (h:QY0 w g zs):g < w.heap.size:=(Array.getElem?_eq_some_iff.1 h.bk).1
theorem QY0.below {w w':World} {g:Nat} {zs:List Int} (h:QY0 w g zs) (hb:Below w.heap.size w w'):QY0 w' g zs:=⟨(hb.block g h.lt).trans h.bk,h.ln⟩
theorem QY0.cell {w:World} {g:Nat} {zs:List Int} (h:QY0 w g zs) {k:Nat} {x:Int} (hx:zs[k]? = some x):w.cell? ⟨g,k,none⟩=some (.int .i64 x):=by
 unfold World.cell?
 simp only
 rw [h.bk]
 simpa using vI_at hx
theorem QY0.put {w:World} {g:Nat} {zs ys:List Int} {o:Nat} (h:QY0 w g zs) (ho:o+ys.length≤240):QY0 (w.setRow g ((vI zs).toArray.toList.take o++vI ys++(vI zs).toArray.toList.drop (o+(vI ys).length)).toArray) g (putZ zs o ys):=by
 refine ⟨?_,by rw [putZ_len (by have:=h.ln;omega)];exact h.ln⟩
 rw [vI_put]
 exact setRow_heap _ _ _ _ _ _ h.bk
theorem Tryz.size2:(Tryz.prog.info? 2).map (fun i=>i.size)=some 1:=by kernel_rfl
theorem Tryz.arr114:Tryz.prog.underlying 114=some (.array (Tryz.prog.arrayLen 114) (Tryz.prog.elem 114)):=by kernel_rfl
theorem Tryz.arrl114:Tryz.prog.arrayLen 114=240:=by kernel_rfl
theorem Tryz.arrs114 (W:World):(sizeOf (Tryz.prog.elem 114)).run Tryz.prog W = .ok 1 W:=by kernel_rfl
theorem pgSlice_from (g k:Nat) (hk:k < 40) (W:World):(Instr.sliceAt 114 (.pointer (some ⟨g,0,none⟩)) (some (.int .i64 ((k:Int) * 6))) none none).run Tryz.prog W = .ok (.slice (some ⟨g,k * 6,none⟩) (240 - k * 6) (240 - k * 6)) W:=by
 have h1:((k:Int) * 6).toNat=k * 6:=by omega
 rw [run_sliceAt_array_l W _ _ Tryz.arr114 .i64 _ (by omega) (by rw [Tryz.arrl114];omega),Tryz.arrs114]
 simp only [Result.andThen_ok,slicedAt,Tryz.arrl114,h1]
 rw [if_neg (by omega),Go.WideShapes.add_plain]
 simp
theorem pgSlice_upto (g n:Nat) (hn:n≤240) (W:World):(Instr.sliceAt 114 (.pointer (some ⟨g,0,none⟩)) none (some (.int .i64 (n:Int))) none).run Tryz.prog W = .ok (.slice (some ⟨g,0,none⟩) n 240) W:=by
 have h1:((n:Int)).toNat=n:=by omega
 rw [run_sliceAt_array_h W _ _ Tryz.arr114 .i64 _ (by omega) (by rw [Tryz.arrl114];omega),Tryz.arrs114]
 simp only [Result.andThen_ok,slicedAt,Tryz.arrl114,h1]
 rw [if_neg (by omega),Go.WideShapes.add_plain]
 simp
theorem pagePut_c (g k:Nat) (b off cap:Nat) (zs ys:List Int) (w:World) (h:QY0 w g zs) (hk:k < 40) (hy:qF8 w (some ⟨b,off,none⟩) 6 ys) :
  Calls Tryz.prog 66 #[.pointer (some ⟨g,0,none⟩),.int .i64 (k:Int),.slice (some ⟨b,off,none⟩) 6 cap] w fun e w'=>e = .returned (.tuple #[])∧QY0 w' g (putZ zs (k * 6) ys)∧Below g w w':=by
 have hl:ys.length=6:=hy.1
 obtain ⟨W',hW'⟩:∃ W',W'=w.setRow g ((vI zs).toArray.toList.take (k * 6)++vI ys++(vI zs).toArray.toList.drop (k * 6+(vI ys).length)).toArray:=⟨_,rfl⟩
 have HP:Hid (QY0 W' g (putZ zs (k * 6) ys)):=by rw [hW'];exact h.put (by omega)
 have HB:Hid (Below g w W'):=by rw [hW'];exact below_setRow (Below.refl _ _) (Nat.le_refl _) _
 have hcp:∀ ty,(Builtin.copy_ #[29,29] ty #[.slice (some ⟨g,k * 6,none⟩) (240 - k * 6) (240 - k * 6),.slice (some ⟨b,off,none⟩) 6 cap]).run Tryz.prog w = .ok (goInt 6) W':=by
  intro ty
  have q:=run_copy_row (P:=Tryz.prog) w 29 29 ty 2 g (k * 6) (240 - k * 6) (240 - k * 6) ⟨b,off,none⟩ 6 cap (vI zs).toArray 114 (vI ys) Tryz.underlying29 Tryz.size2 h.bk (by rw [QQ7,hl];show 6=min 6 (240 - k * 6);omega) (fun j v e=>by
   obtain ⟨x,e1,rfl⟩:=vI_of e
   obtain ⟨b',off',e2,e3⟩:=hy.2 (by omega)
   cases e2
   rw [Go.WideShapes.add_plain]
   exact e3 j x e1) (by rw [QQ7,hl];simp [QQ7,h.ln];omega) (vI_one ys)
  rw [hW']
  rw [QQ7,hl] at q
  rw [QQ7,hl]
  exact q
 have hsl:=pgSlice_from g k hk
 have hwr:IntKind.i64.wrap ((k:Int) * 6)=(k:Int) * 6:=by rw [IntKind.wrap_i64];omega
 clear hy h hW'
 go_enter Tryz.func66,Tryz.ntmps66
 go_wp2_with (at_builtin;refine wpList_copy_runI _ rfl _ _ 29 29 rfl _ _ rfl rfl (hcp _) ?_)
 first | go_end0 | go_returns
 exact ⟨rfl,HP.out,HB.out⟩
def EndAt (zs:List Int) (N:Nat):Prop:=N≤40∧(∀ k x,k < N→zs[k * 6]? = some x→x≠0)∧(N < 40→zs[N * 6]? = some 0)
theorem pageEnd_c (g N:Nat) (zs:List Int) (w:World) (h:QY0 w g zs) (he:EndAt zs N) :
  Calls Tryz.prog 94 #[.pointer (some ⟨g,0,none⟩)] w fun e w'=>e = .returned (.int .i64 ((N * 6:Nat):Int))∧w=w':=by
 have HP:=QC6 h
 have HE:=QC6 he
 have hN:N≤40:=he.1
 have hgl:g < w.heap.size:=h.lt
 clear h he
 go_enter Tryz.func94,Tryz.ntmps94
 go_wp2
 go_loop [3] (fun i=>∃ k:Nat,k≤N∧i = .int .i64 ((k * 6:Nat):Int)) (fun i=>240 - (intOf i).toNat)
 case atStart=>exact ⟨0,Nat.zero_le _,rfl⟩
 case round =>
  obtain ⟨k,hk,rfl⟩:=hrel
  by_cases hlt:k < N
  ·obtain ⟨x,hx⟩:∃ x,zs[k * 6]? = some x:=⟨_,List.getElem?_eq_getElem (by have:=HP.out.ln;omega)⟩
   have c0:=HP.out.cell hx
   have h240:((k * 6:Nat):Int) < 240:=by omega
   have h0:(0:Int)≤((k * 6:Nat):Int):=by omega
   have hx0:(x != 0)=true:=by simpa using HE.out.2.1 k x hlt hx
   have hwr:IntKind.i64.wrap (((k * 6:Nat):Int)+6)=(((k+1) * 6:Nat):Int):=by rw [IntKind.wrap_i64];omega
   clear hx
   generalize hm:k * 6=m at *
   go_wp2
   exact ⟨⟨k+1,hlt,by simp⟩,by simp [intOf];omega⟩
  ·have hkN:k=N:=by omega
   subst hkN
   by_cases h40:k < 40
   ·have c0:=HP.out.cell (HE.out.2.2 h40)
    have h240:((k * 6:Nat):Int) < 240:=by omega
    have h0:(0:Int)≤((k * 6:Nat):Int):=by omega
    obtain ⟨m,hm⟩:∃ m,k * 6=m:=⟨_,rfl⟩
    have HM:=QC6 (show ((k:Int) * 6)=(m:Int) by omega)
    rw [hm] at c0 h240 h0 ⊢
    clear hm
    go_wp2
    go_ret
    exact ⟨by rw [HM.out];rfl,rfl⟩
   ·have h240:¬ (((k * 6:Nat):Int) < 240):=by omega
    obtain ⟨m,hm⟩:∃ m,k * 6=m:=⟨_,rfl⟩
    have HM:=QC6 (show ((k:Int) * 6)=(m:Int) by omega)
    rw [hm] at h240 ⊢
    clear hm
    go_wp2
    go_ret
    exact ⟨by rw [HM.out];rfl,rfl⟩

theorem Tryz.infoP2:(Tryz.prog.info? 2).map (fun i=>(i.zero,i.size,i.bytes))=some (some (.int .i64 0),1,8):=by kernel_rfl
theorem qY6 {P:Program} {w:World} {ops:Array Oper} {o:Oper} {a:Act} {K:Act→World→Prop} {Q:Exit→Act→World→Prop} {E:Prop} (hgd:o.guard=none) (s x:Operand) (t:TypeId)
  (ho:o.op = .call { callee:=.builtin .append,args:=#[s,x],argTypes:=#[t,t] })
  (base:Nat) (e:TypeId) (i:TypeInfo) (z:Value) (size bytes:Nat) (ht:P.underlying t=some (.slice e)) (hi:P.info? e=some i) (hz:i.zero=some z)
  (hsize:i.size=size) (hby:i.bytes=bytes) (hzs:z.cells.size=size) (hsz:0 < size)
  (v:Value) (n:Nat) (xs:List Value) (hs:a.eval s=v) (hown:w.ownsRow base e size v n xs)
  (ad:Addr) (m c:Nat) (news:List Value) (hx:a.eval x = .slice (some ad) m c) (hl:news.length=m * size) (hnews:∀ j u,news[j]? = some u→w.cell? (ad.add j)=some u) (h1:∀ u∈news,u.oneCell'=true)
  (h63:n+m≤maxLen) (hbytes:(n+m) * bytes≤140737488355328) (hbase:base≤w.heap.size)
  (h:∀ v' w',w'.ownsRow base e size v' (n+m) (xs++news)→w.grownBy w' v.ownBlock→(v' = .slice none 0 0↔v = .slice none 0 0∧m=0)→K (a.put o.dst v') w') :
  if Region.wanted o (yielded ops a.tmps)=true then Oper.wp P o a w K Q else E:=by
 have hw:Region.wanted o (yielded ops a.tmps)=true:=by simp [Region.wanted,hgd]
 rw [if_pos hw]
 exact wp_append_own w s x t ho base e i z size bytes ht hi hz hsize hby hzs hsz v n xs hs hown ad m c news hx hl hnews h1 h63 hbytes hbase h
theorem qT4 {w:World} {B:Nat} {e:TypeId} {size:Nat} {v:Value} {n:Nat} {xs:List Value} (h:w.ownsRow B e size v n xs):∃ a c,v = .slice a n c:=by
 rcases h.2 with ⟨h',h0⟩ | ⟨g,cap,cur,h',_⟩
 ·exact ⟨none,0,by rw [h',h0]⟩
 ·exact ⟨_,_,h'⟩
theorem pageWords_c (g N:Nat) (zs:List Int) (w:World) (h:QY0 w g zs) (he:EndAt zs N) :
  Calls Tryz.prog 67 #[.pointer (some ⟨g,0,none⟩)] w fun e w'=>∃ a cap,e = .returned (.slice a (N * 6) cap)∧w'.ownsRow w.heap.size 2 1 (.slice a (N * 6) cap) (N * 6) (vI (zs.take (N * 6)))∧Below w.heap.size w w':=by
 have hN:N≤40:=he.1
 have HEN0:∀ W:World,Below w.heap.size w W→Calls Tryz.prog 94 #[.pointer (some ⟨g,0,none⟩)] W fun e w'=>e = .returned (.int .i64 ((N * 6:Nat):Int))∧W=w':=fun W hW=>pageEnd_c g N zs W (h.below hW) he
 obtain ⟨m,hm⟩:∃ m,N * 6=m:=⟨_,rfl⟩
 rw [hm] at HEN0 ⊢
 have HEN:=QC6 HEN0
 have hm2:m≤240:=by omega
 have HL:Hid ((vI (zs.take m)).length=m):=by show _=_;rw [QQ7,List.length_take];have:=h.ln;omega
 have HNW:Hid (∀ W:World,Below w.heap.size w W→∀ j u,(vI (zs.take m))[j]? = some u→W.cell? ((⟨g,0,none⟩:Addr).add j)=some u):=fun W hW j u e=>by
  obtain ⟨x,e1,rfl⟩:=vI_of e
  rw [Go.WideShapes.add_plain,Nat.zero_add]
  refine (h.below hW).cell ?_
  rw [List.getElem?_take] at e1
  split at e1
  ·exact e1
  ·cases e1
 obtain ⟨i0,hi,hz0,hz1,hz2⟩:=info_parts Tryz.infoP2
 have hsl:=pgSlice_upto g m hm2
 clear h he hm HEN0 hN
 go_enter Tryz.func67,Tryz.ntmps67
 go_upto_region 1 with fail
 refine wp_region_held_drew (S:=fun w'=>Below w.heap.size w w') (by kernel_rfl) ((Below.refl _ _).drew) (fun hHeld=>?_)
 refine Zk.go [0,1,2] ?_
 iterate 3
  refine Zk.st (v:=?_) rfl ?_ ?_
  rotate_left 1
  ·intro w hSw;(try dsimp only at hSw);go_simp;try (with_reducible rfl)
  try simp only [Act.put,zA,zB,zC,zD,zE,zF]
 refine Zk.fin ?_
 refine Zk.rd (i:=3) rfl (fun K hK=>?_)
 go_simp
 refine (HEN.out _ (by assumption)).mono ?_
 rintro d wA ⟨rfl,rfl⟩
 have hS:=hHeld
 refine hK.out _ _ hS (fun hHeld=>?_)
 clear hK K
 try simp only [Act.put,zA,zB,zC,zD,zE,zF]
 refine Zk.go [4] ?_
 refine Zk.st (v:=?_) rfl ?_ ?_
 rotate_left 1
 ·intro w hSw;(try dsimp only at hSw);go_simp;try (with_reducible rfl)
 try simp only [Act.put,zA,zB,zC,zD,zE,zF]
 refine Zk.fin ?_
 refine wpAnyH_ready (rs:=[5]) (by kernel_rfl) (by simp) ?_
 refine AllReadyH.cons rfl (fun K hK=>?_) AllReadyH.nil
 refine qY6 rfl (.const (.slice none 0 0)) (.tmp 7) 29 rfl w.heap.size 2 i0 (.int .i64 0) 1 8 Tryz.underlying29 hi hz0 hz1 hz2 rfl (by decide) (.slice none 0 0) 0 [] (by rfl) (World.ownsRow_nil _ _ _ _) ⟨g,0,none⟩ m 240 (vI (zs.take m)) (by rfl) (by rw [HL.out];omega) (HNW.out _ hHeld) (vI_one _) (by unfold maxLen;omega) (by omega) hHeld.size ?_
 intro v5 w5 hown5 hgrow5 hnil5
 have hS:Below w.heap.size w w5:=hHeld.grown hgrow5 hHeld.size (fun q e=>by cases e)
 have H5:Hid (w5.ownsRow w.heap.size 2 1 v5 m (vI (zs.take m))):=by have q:=hown5;rw [Nat.zero_add,List.nil_append] at q;exact q
 clear hown5 hnil5 hgrow5
 refine hK.out _ _ hS (fun hHeld=>?_)
 clear hK K
 try simp only [Act.put,zA,zB,zC,zD,zE,zF]
 refine Zk.rd (i:=6) rfl (fun K hK=>?_)
 go_simp
 refine hK.out _ _ (by assumption) (fun hHeld=>?_)
 clear hK K
 try simp only [Act.put,zA,zB,zC,zD,zE,zF]
 refine wpAnyH_done (by kernel_rfl) ?_ _
 have B5:=QC6 hHeld
 obtain ⟨a5,c5,hv5⟩:∃ a c,v5 = .slice a m c:=qT4 H5.out
 subst hv5
 clear hHeld hsl
 go_wp2_with fail
 go_ret
 exact ⟨a5,c5,rfl,H5.out,B5.out⟩
def qJ4 (xs:List StI) (k:Nat):List Int:=(xs.take k).flatMap QE2
theorem packL_len (x:StI):(QE2 x).length=6:=rfl
theorem qW9 {xs:List StI} {k:Nat} {x:StI} (h:xs[k]? = some x):qJ4 xs (k+1)=qJ4 xs k++QE2 x:=by
 unfold qJ4
 rw [List.take_add_one,h]
 simp
theorem qO3 {xs:List StI} {k:Nat} (h:k≤xs.length):(qJ4 xs k).length=k * 6:=by
 induction k with
 | zero=>rfl
 | succ k ih =>
  obtain ⟨x,hx⟩:∃ x,xs[k]? = some x:=⟨_,List.getElem?_eq_getElem (by omega)⟩
  rw [qW9 hx,List.length_append,ih (by omega),packL_len]
  omega
def QT0 (xs:List StI):Nat→Int
 | 0=>0
 | k+1=>if QT0 xs k=0 then (match xs[k]? with | none=>0 | some x=>qB8 x) else QT0 xs k
def qJ0 (xs:List StI):Int:=if 40 < xs.length then 2 else QT0 xs xs.length
def plL (xs:List StI):List Int:=if qJ0 xs=0 then qJ4 xs xs.length else []
theorem QN9 {xs:List StI} {k:Nat} {x:StI} (h:QT0 xs k=0) (hx:xs[k]? = some x):QT0 xs (k+1)=qB8 x:=by
 simp [QT0,h,hx]
theorem fc_stay {xs:List StI} {k m:Nat} (h:QT0 xs k≠0) (hm:k≤m):QT0 xs m=QT0 xs k:=by
  induction m with
  | zero => obtain rfl:k=0:=by omega
            rfl
  | succ m ih =>
    by_cases e:k=m+1
    · subst e;rfl
    · have q:=ih (by omega)
      simp only [QT0]
      rw [q,if_neg h]
theorem QO2 {b:Nat} {vs:List Value} {W W':World} (h:qI3 b vs W) (hk:W'.heap[b]? = W.heap[b]?):qI3 b vs W' :=
 ⟨fun j v e=>(World.cell?_of_block (w:=W) (w':=W') (a:=⟨b,j,none⟩) hk).trans (h.1 j v e),fun j=>(World.frozen?_of_block (w:=W) (w':=W') (a:=⟨b,j,none⟩) hk).trans (h.2 j)⟩
structure PLS (w:World) (xs:List StI) (k:Nat) (v:Value) (wr:World):Prop where
 rs:qI3 w.heap.size [.int .i64 0,.slice none 0 0] wr
 ot:qI3 (w.heap.size+1) [.int .i64 0,v] wr
 ow:wr.ownsRow (w.heap.size+2) 2 1 v (k * 6) (vI (qJ4 xs k))
 bl:Below w.heap.size w wr
 le:w.heap.size+2≤wr.heap.size
theorem PLS.step {w:World} {xs:List StI} {k:Nat} {v:Value} {wr:World} (h:PLS w xs k v wr) {x:StI} (hx:xs[k]? = some x) {w6:World} {v6:Value} (hb:Below (w.heap.size+2) wr w6) (how:w6.ownsRow (w.heap.size+2) 2 1 v6 (k * 6+6) (vI (qJ4 xs k)++vI (QE2 x))):PLS w xs (k+1) v6 (w6.setCell ⟨w.heap.size+1,1,none⟩ v6):=by
 refine ⟨(QO2 h.rs (hb.block _ (by omega))).other (by show w.heap.size+1≠w.heap.size;omega) _,?_,?_,?_,?_⟩
 ·have q:=(QO2 h.ot (hb.block _ (by omega))).put 1 (by simp) v6
  exact q
 ·rw [qW9 hx,show (k+1) * 6=k * 6+6 by omega]
  refine qN1 ?_ (by show w.heap.size+1 < w.heap.size+2;omega) _
  have e:vI (qJ4 xs k++QE2 x)=vI (qJ4 xs k)++vI (QE2 x):=by simp [vI]
  rw [e]
  exact how
 ·exact (h.bl.trans (hb.mono (by omega))).setCell (by show w.heap.size≤w.heap.size+1;omega) _
 ·simp only [World.size_setCell]
  exact Nat.le_trans h.le hb.size
def QG7 (f:Nat) (a:Option Addr) (n cap:Nat) (c:Int) (ys:List Int) (w:World):Prop:=Calls Tryz.prog f #[.slice a n cap] w fun e w'=>∃ a cap,e = .returned (.agg #[.int .i64 c,.slice a ys.length cap])∧w'.ownsRow w.heap.size 2 1 (.slice a ys.length cap) ys.length (ys.map (Value.int .i64))∧Below w.heap.size w w'
theorem QU0 (a:Option Addr) (n cap:Nat) (xs:List StI) (w:World) (hn:n≤1048576) (h:qL2 w a n xs):QG7 30 a n cap (qJ0 xs) (plL xs) w:=by
 have HX:=QC6 h
 have hxl:xs.length=n:=h.1
 have HXL:=QC6 hxl
 have hni:(n:Int)≤1048576:=by omega
 obtain ⟨K,hK⟩:∃ K,qJ0 xs=K:=⟨_,rfl⟩
 obtain ⟨Y,hY⟩:∃ Y,plL xs=Y:=⟨_,rfl⟩
 have HK:Hid (qJ0 xs=K∧plL xs=Y):=⟨hK,hY⟩
 unfold QG7
 rw [hK,hY]
 clear h hK hY
 by_cases h40:40 < n
 ·have h40':(40:Int) < (n:Int):=by omega
  have HE:Hid (K=2∧Y=[]):=by
   have e:qJ0 xs=2:=by unfold qJ0;rw [if_pos (by rw [HXL.out];exact h40)]
   refine ⟨by rw [← HK.out.1,e],?_⟩
   rw [← HK.out.2]
   unfold plL
   rw [e];rfl
  clear HK hxl
  go_enter Tryz.func30,Tryz.ntmps30
  go_wp2_with fail
  refine bodyPost_ret (v:=.agg #[.int .i64 2,.slice none 0 0]) (by simp [results,Tryz.results30,go_sem]) rfl ?_
  rw [HE.out.1,HE.out.2]
  exact ⟨none,0,rfl,World.ownsRow_nil _ _ _ _,by go_grown⟩
 have h40':¬ ((40:Int) < (n:Int)):=by omega
 obtain ⟨i0,hi,hz0,hz1,hz2⟩:=info_parts Tryz.infoP2
 obtain ⟨V,hV⟩:∃ V,V=(w.alloc (.cells #[.int .i64 0,.slice none 0 0] 31)).alloc (.cells #[.int .i64 0,.slice none 0 0] 31):=⟨_,rfl⟩
 have P0:Hid (PLS w xs 0 (.slice none 0 0) V):=by
  have A0:Below w.heap.size w V:=by rw [hV];exact (zN).alloc (by simp) _
  refine ⟨?_,?_,World.ownsRow_nil _ _ _ _,A0,by rw [hV];simp⟩
  ·rw [hV]
   exact qI3.below (qG8 w _ _) (by simp) (zN)
  ·rw [hV]
   have q:=qG8 (w.alloc (.cells #[.int .i64 0,.slice none 0 0] 31)) #[.int .i64 0,.slice none 0 0] 31
   simp only [World.size_alloc] at q
   exact q
 clear hxl
 go_enter Tryz.func30,Tryz.ntmps30
 go_upto_region 4 with fail
 rw [← hV]
 clear hV
 go_wp2_with fail
 go_loopw [4] (fun i wr=>∃ (k:Nat) (v:Value),k≤n∧i = .int .i64 (k:Int)∧Hid (QT0 xs k=0)∧Hid (PLS w xs k v wr)) (fun i _=>n - (intOf i).toNat)
 case atStart=>exact ⟨0,_,Nat.zero_le _,rfl,rfl,P0⟩
 case round =>
  clear P0
  obtain ⟨k,v,hk,rfl,HC,HP⟩:=hrel
  have c20:=HP.out.rs.1 0 _ rfl
  have c21:=HP.out.rs.1 1 _ rfl
  have f20:=HP.out.rs.2 0
  have f21:=HP.out.rs.2 1
  have c30:=HP.out.ot.1 0 _ rfl
  have c31:=HP.out.ot.1 1 _ rfl
  have f31:=HP.out.ot.2 1
  have h31:w.heap.size+1 < wr.heap.size:=HP.out.le
  have h21:w.heap.size < wr.heap.size:=by omega
  by_cases hlt:k < n
  ·have hlt':(k:Int) < (n:Int):=by omega
   have hk0:(0:Int)≤(k:Int):=by omega
   obtain ⟨b,off,x,ea,hx,hat,hbl⟩:=(HX.out.below HP.out.bl).at hlt
   subst ea
   have HXK:=QC6 hx
   have HXA:=QC6 hat
   obtain ⟨d,hd⟩:∃ d,qB8 x=d:=⟨_,rfl⟩
   have HD:=QC6 hd
   have HF:Hid (Calls Tryz.prog 59 #[.pointer (some ⟨b,off+k * 5,none⟩)] wr fun e w'=>e = .returned (.int .i64 d)∧wr=w'):=by rw [← hd];exact qL5 b (off+k * 5) x wr hat
   clear hx hat hd
   go_wp2_with fail
   refine HF.out.mono ?_
   rintro e w1 ⟨rfl,rfl⟩
   clear HF
   by_cases hd0:d=0
   ·subst hd0
    have HX0:Hid (qB8 x=0):=HD.out
    have HC6:Hid (QT0 xs (k+1)=0):=by show _=_;rw [QN9 HC.out HXK.out];exact HD.out
    clear c20 c21 f20 f21 c30 h21
    go_upto_region 10 with fail
    refine wp_region_held_drew (S:=fun _=>True) (by kernel_rfl) (True.intro) (fun hHeld=>?_)
    refine Zk.go [0,2,3,4] ?_
    iterate 4
     refine Zk.st (v:=?_) rfl ?_ ?_
     rotate_left 1
     ·intro w hSw;(try dsimp only at hSw);go_simp;try (with_reducible rfl)
     try simp only [Act.put,zA,zB,zC,zD,zE,zF]
    refine Zk.fin ?_
    refine wpAnyH_ready (rs:=[1,5]) (by kernel_rfl) (by simp) ?_
    refine AllReadyH.cons rfl (fun K hK=>?_) (AllReadyH.cons rfl (fun K hK=>?_) AllReadyH.nil)
    ·go_simp
     have hS:True:=True.intro
     refine hK.out _ _ hS (fun hHeld=>?_)
     clear hK K
     try simp only [Act.put,zA,zB,zC,zD,zE,zF]
     refine Zk.rd (i:=5) rfl (fun K hK=>?_)
     go_simp
     refine (l7Pack_c b (off+k * 5) x _ (HXA.out.below (Below.refl _ _).drew hbl) HX0.out).mono ?_
     rintro d wA ⟨rfl,howA,hbA⟩
     have hS:True:=True.intro
     have PA:=QC6 howA
     have OA:Hid (wA.ownsRow (w.heap.size+2) 2 1 v (k * 6) (vI (qJ4 xs k))):=((qV2 HP.out.ow).drew.below hbA).out
     have BA:Hid (Below (w.heap.size+2) wr wA):=((Below.refl _ _).drew).trans (hbA.mono HP.out.le)
     have cA:wA.cell? ⟨w.heap.size+1,1,none⟩=some v:=(BA.out.cell (p:=⟨w.heap.size+1,1,none⟩) (by show w.heap.size+1 < w.heap.size+2;omega)).trans c31
     have fA:wA.frozen? ⟨w.heap.size+1,1,none⟩=false:=(BA.out.frozen (p:=⟨w.heap.size+1,1,none⟩) (by show w.heap.size+1 < w.heap.size+2;omega)).trans f31
     have lA:w.heap.size+1 < wA.heap.size:=Nat.lt_of_lt_of_le h31 BA.out.size
     clear howA hbA
     refine hK.out _ _ hS (fun hHeld=>?_)
     clear hK K
     try simp only [Act.put,zA,zB,zC,zD,zE,zF]
     refine wpAnyH_ready (rs:=[6]) (by kernel_rfl) (by simp) ?_
     refine AllReadyH.cons rfl (fun K hK=>?_) AllReadyH.nil
     refine qY6 rfl (.tmp 26) (.tmp 30) 29 rfl (w.heap.size+2) 2 i0 (.int .i64 0) 1 8 Tryz.underlying29 hi hz0 hz1 hz2 rfl (by decide) v (k * 6) (vI (qJ4 xs k)) (by rfl) OA.out _ 6 6 (vI (QE2 x)) (by rfl) (by rfl) (PA.out.cells rfl) (vI_one _) (by unfold maxLen;omega) (by omega) (Nat.le_trans HP.out.le BA.out.size) ?_
     intro v6 w6 hown6 hgrow6 hnil6
     obtain ⟨a6,cc6,hv6⟩:=qT4 hown6
     subst hv6
     have hS:True:=True.intro
     have H6:=QC6 hown6
     have B6:Hid (Below (w.heap.size+2) wr w6):=BA.out.grown hgrow6 (Nat.le_trans HP.out.le BA.out.size) (fun q e=>(OA.out.lt q e).1)
     have c6:w6.cell? ⟨w.heap.size+1,1,none⟩=some v:=(B6.out.cell (p:=⟨w.heap.size+1,1,none⟩) (by show w.heap.size+1 < w.heap.size+2;omega)).trans c31
     have f6:w6.frozen? ⟨w.heap.size+1,1,none⟩=false:=(B6.out.frozen (p:=⟨w.heap.size+1,1,none⟩) (by show w.heap.size+1 < w.heap.size+2;omega)).trans f31
     have l6:w.heap.size+1 < w6.heap.size:=Nat.lt_of_lt_of_le h31 B6.out.size
     clear hown6 hgrow6 hnil6
     refine hK.out _ _ hS (fun hHeld=>?_)
     clear hK K
     try simp only [Act.put,zA,zB,zC,zD,zE,zF]
     refine Zk.go [7] ?_
     refine Zk.st (v:=?_) rfl ?_ ?_
     rotate_left 1
     ·intro w hSw;(try dsimp only at hSw);go_simp;try (with_reducible rfl)
     try simp only [Act.put,zA,zB,zC,zD,zE,zF]
     refine Zk.fin ?_
     refine Zk.rd (i:=8) rfl (fun K hK=>?_)
     go_simp
     have hS:True:=True.intro
     refine hK.out _ _ hS (fun hHeld=>?_)
     clear hK K
     try simp only [Act.put,zA,zB,zC,zD,zE,zF]
     refine wpAnyH_done (by kernel_rfl) ?_ _
     have HN:=QC6 (HP.out.step HXK.out B6.out H6.out)
     clear hHeld c31 f31 h31 cA fA lA c6 f6 l6
     go_wp2_with fail
     exact ⟨⟨k+1,_,by omega,by go_num,HC6,HN⟩,by simp [intOf];omega⟩
    ·go_simp
     refine (l7Pack_c b (off+k * 5) x _ (HXA.out.below (Below.refl _ _).drew hbl) HX0.out).mono ?_
     rintro d wA ⟨rfl,howA,hbA⟩
     have hS:True:=True.intro
     have PA:=QC6 howA
     have OA:Hid (wA.ownsRow (w.heap.size+2) 2 1 v (k * 6) (vI (qJ4 xs k))):=((qV2 HP.out.ow).drew.below hbA).out
     have BA:Hid (Below (w.heap.size+2) wr wA):=((Below.refl _ _).drew).trans (hbA.mono HP.out.le)
     have cA:wA.cell? ⟨w.heap.size+1,1,none⟩=some v:=(BA.out.cell (p:=⟨w.heap.size+1,1,none⟩) (by show w.heap.size+1 < w.heap.size+2;omega)).trans c31
     have fA:wA.frozen? ⟨w.heap.size+1,1,none⟩=false:=(BA.out.frozen (p:=⟨w.heap.size+1,1,none⟩) (by show w.heap.size+1 < w.heap.size+2;omega)).trans f31
     have lA:w.heap.size+1 < wA.heap.size:=Nat.lt_of_lt_of_le h31 BA.out.size
     clear howA hbA
     refine hK.out _ _ hS (fun hHeld=>?_)
     clear hK K
     try simp only [Act.put,zA,zB,zC,zD,zE,zF]
     refine Zk.rd (i:=1) rfl (fun K hK=>?_)
     go_simp
     have hS:True:=True.intro
     refine hK.out _ _ hS (fun hHeld=>?_)
     clear hK K
     try simp only [Act.put,zA,zB,zC,zD,zE,zF]
     refine wpAnyH_ready (rs:=[6]) (by kernel_rfl) (by simp) ?_
     refine AllReadyH.cons rfl (fun K hK=>?_) AllReadyH.nil
     refine qY6 rfl (.tmp 26) (.tmp 30) 29 rfl (w.heap.size+2) 2 i0 (.int .i64 0) 1 8 Tryz.underlying29 hi hz0 hz1 hz2 rfl (by decide) v (k * 6) (vI (qJ4 xs k)) (by rfl) OA.out _ 6 6 (vI (QE2 x)) (by rfl) (by rfl) (PA.out.cells rfl) (vI_one _) (by unfold maxLen;omega) (by omega) (Nat.le_trans HP.out.le BA.out.size) ?_
     intro v6 w6 hown6 hgrow6 hnil6
     obtain ⟨a6,cc6,hv6⟩:=qT4 hown6
     subst hv6
     have hS:True:=True.intro
     have H6:=QC6 hown6
     have B6:Hid (Below (w.heap.size+2) wr w6):=BA.out.grown hgrow6 (Nat.le_trans HP.out.le BA.out.size) (fun q e=>(OA.out.lt q e).1)
     have c6:w6.cell? ⟨w.heap.size+1,1,none⟩=some v:=(B6.out.cell (p:=⟨w.heap.size+1,1,none⟩) (by show w.heap.size+1 < w.heap.size+2;omega)).trans c31
     have f6:w6.frozen? ⟨w.heap.size+1,1,none⟩=false:=(B6.out.frozen (p:=⟨w.heap.size+1,1,none⟩) (by show w.heap.size+1 < w.heap.size+2;omega)).trans f31
     have l6:w.heap.size+1 < w6.heap.size:=Nat.lt_of_lt_of_le h31 B6.out.size
     clear hown6 hgrow6 hnil6
     refine hK.out _ _ hS (fun hHeld=>?_)
     clear hK K
     try simp only [Act.put,zA,zB,zC,zD,zE,zF]
     refine Zk.go [7] ?_
     refine Zk.st (v:=?_) rfl ?_ ?_
     rotate_left 1
     ·intro w hSw;(try dsimp only at hSw);go_simp;try (with_reducible rfl)
     try simp only [Act.put,zA,zB,zC,zD,zE,zF]
     refine Zk.fin ?_
     refine Zk.rd (i:=8) rfl (fun K hK=>?_)
     go_simp
     have hS:True:=True.intro
     refine hK.out _ _ hS (fun hHeld=>?_)
     clear hK K
     try simp only [Act.put,zA,zB,zC,zD,zE,zF]
     refine wpAnyH_done (by kernel_rfl) ?_ _
     have HN:=QC6 (HP.out.step HXK.out B6.out H6.out)
     clear hHeld c31 f31 h31 cA fA lA c6 f6 l6
     go_wp2_with fail
     exact ⟨⟨k+1,_,by omega,by go_num,HC6,HN⟩,by simp [intOf];omega⟩
   ·have hdb:(d != 0)=true:=by simp [hd0]
    have HE:Hid (K=d∧Y=[]):=by
     have e1:QT0 xs (k+1)=d:=by rw [QN9 HC.out HXK.out];exact HD.out
     have e:qJ0 xs=d:=by
      unfold qJ0
      rw [if_neg (by rw [HXL.out];exact h40),HXL.out,fc_stay (k:=k+1) (by rw [e1];exact hd0) hlt,e1]
     refine ⟨by rw [← HK.out.1,e],?_⟩
     rw [← HK.out.2]
     unfold plL
     rw [if_neg (by rw [e];exact hd0)]
    clear HK hd0
    go_wp2_with fail
    refine bodyPost_ret (v:=.agg #[.int .i64 d,.slice none 0 0]) (by simp [results,Tryz.results30,go_sem,c20,c21,h21]) rfl ?_
    rw [HE.out.1,HE.out.2]
    exact ⟨none,0,rfl,World.ownsRow_nil _ _ _ _,(HP.out.bl.setCell (Nat.le_refl _) _).setCell (Nat.le_refl _) _⟩
  ·have hkn:k=n:=by omega
   have hlt':¬ ((k:Int) < (n:Int)):=by omega
   obtain ⟨ra,rc,hv⟩:∃ a c,v = .slice a (k * 6) c:=qT4 HP.out.ow
   have HE:Hid (K=0∧Y=qJ4 xs k):=by
    have e:qJ0 xs=0:=by
     unfold qJ0
     rw [if_neg (by rw [HXL.out];exact h40),HXL.out,← hkn]
     exact HC.out
    refine ⟨by rw [← HK.out.1,e],?_⟩
    rw [← HK.out.2]
    unfold plL
    rw [if_pos e,HXL.out,hkn]
   have HLN:Hid ((qJ4 xs k).length=k * 6):=qO3 (by rw [HXL.out];exact hk)
   subst hv
   clear HK hkn
   go_wp2_with fail
   refine bodyPost_ret (v:=.agg #[.int .i64 0,.slice ra (k * 6) rc]) (by simp [results,Tryz.results30,go_sem,c20,c21,h21]) rfl ?_
   rw [HE.out.1,HE.out.2,HLN.out]
   refine ⟨ra,rc,rfl,?_,(HP.out.bl.setCell (Nat.le_refl _) _).setCell (Nat.le_refl _) _⟩
   refine owns_low (qN1 (qN1 HP.out.ow (by show w.heap.size < w.heap.size+2;omega) _) (by show w.heap.size < w.heap.size+2;omega) _) (by omega)

end Go.Proofs.YtdppdbihhlipeaaGreatDoor
