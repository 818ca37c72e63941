/- Contracts. -/
import Derived.Test.YtdppdbihhlipeaaGreatDoorPl36
namespace Go.Proofs.YtdppdbihhlipeaaGreatDoor
set_option maxRecDepth 100000
set_option maxHeartbeats 8000000
open Go.RowKit
set_option linter.unusedVariables false
set_option linter.unusedSimpArgs false

theorem qR8 {P:Program} {w:World} {ops:Array Oper} {rest:List Oper} {o:Oper} {a:Act} {Q:Exit→Act→World→Prop} (hgd:o.guard=none) (s x:Operand) (t:TypeId)
  (ho:o.op = .call { callee:=.builtin .append,args:=#[s,x],argTypes:=#[t,t] })
  (base:Nat) (e:TypeId) (i:TypeInfo) (z:Value) (size bytes:Nat) (ht:P.underlying t=some (.slice e)) (hi:P.info? e=some i) (hz:i.zero=some z)
  (hsize:i.size=size) (hby:i.bytes=bytes) (hzs:z.cells.size=size) (hsz:0 < size)
  (v:Value) (n:Nat) (xs:List Value) (hs:a.eval s=v) (hown:w.ownsRow base e size v n xs) (hv:v ≠ .slice none 0 0)
  (ad:Option Addr) (m c:Nat) (news:List Value) (hx:a.eval x = .slice ad m c) (hnil:ad=none→m=0∧c=0) (hl:news.length=m * size) (hnews:∀ p,ad=some p→∀ j u,news[j]? = some u→w.cell? (p.add j)=some u) (h1:∀ u∈news,u.oneCell'=true)
  (h63:n+m≤maxLen) (hbytes:(n+m) * bytes≤140737488355328) (hbase:base≤w.heap.size)
  (h:∀ v' w',w'.ownsRow base e size v' (n+m) (xs++news)→w.grownBy w' v.ownBlock→v' ≠ .slice none 0 0→wpList P ops Q rest (a.put o.dst v') w'):wpList P ops Q (o::rest) a w:=by
 cases ad with
 | none =>
  obtain ⟨rfl,rfl⟩:=hnil rfl
  obtain rfl:news=[]:=List.length_eq_zero_iff.1 (by rw [hl];omega)
  refine wpList_append_own_none hgd s x t ho base e i size ht hi v n xs hs hown hx ?_
  exact h v w (by simpa using hown) (qR5 _ _) hv
 | some p=>exact wpList_append_own w hgd s x t ho base e i z size bytes ht hi hz hsize hby hzs hsz v n xs hs hown p m c news hx hl (hnews p rfl) h1 h63 hbytes hbase (fun v' w' a1 a2 a3=>h v' w' a1 a2 (fun q=>hv (a3.1 q).1))
theorem qW1 {b B:Nat} {vs:List Value} {W W':World} (h:qI3 b vs W) (hb:b < W.heap.size) (hg:W.grownBy W' (some B)) (hne:b≠B):qI3 b vs W':=by
 have k:=hg.block b hb (by simpa using hne)
 exact ⟨fun j v e=>(World.cell?_of_block (w:=W) (w':=W') (a:=⟨b,j,none⟩) k).trans (h.1 j v e),fun j=>(World.frozen?_of_block (w:=W) (w':=W') (a:=⟨b,j,none⟩) k).trans (h.2 j)⟩
theorem qY9 {w:World} {b o n:Nat} {gs:List StI} (h:qL2 w (some ⟨b,o,none⟩) n gs):∀ j u,(qD0 gs)[j]? = some u→w.cell? ((⟨b,o,none⟩:Addr).add j)=some u:=by
 intro j u hj
 have hjl:j < gs.length * 5:=by
  by_cases q:j < gs.length * 5
  ·exact q
  ·rw [List.getElem?_eq_none (by rw [QG3];omega)] at hj;cases hj
 have hk:j / 5 < gs.length:=by omega
 obtain ⟨b',o',e',hc⟩:=h.2 (by have:=h.1;omega)
 cases e'
 have hp:=hc (j / 5) _ (List.getElem?_eq_getElem hk)
 obtain ⟨f0,f1,f2,f3,f4⟩:=QN6 gs (j / 5) _ (List.getElem?_eq_getElem hk)
 obtain ⟨p0,p1,p2,p3,p4⟩:=hp
 rw [Go.WideShapes.add_plain]
 have hr:j=j / 5 * 5∨j=j / 5 * 5+1∨j=j / 5 * 5+2∨j=j / 5 * 5+3∨j=j / 5 * 5+4:=by omega
 rcases hr with e | e | e | e | e
 ·rw [e] at hj ⊢;rw [f0] at hj;cases hj;exact p0
 ·rw [e] at hj ⊢;rw [f1] at hj;cases hj;rw [← Nat.add_assoc];exact p1
 ·rw [e] at hj ⊢;rw [f2] at hj;cases hj;rw [← Nat.add_assoc];exact p2
 ·rw [e] at hj ⊢;rw [f3] at hj;cases hj;rw [← Nat.add_assoc];exact p3
 ·rw [e] at hj ⊢;rw [f4] at hj;cases hj;rw [← Nat.add_assoc];exact p4
theorem st_news {w:World} {p:Addr} {n:Nat} {gs:List StI} (h:qL2 w (some p) n gs):∀ j u,(qD0 gs)[j]? = some u→w.cell? (p.add j)=some u:=by
 intro j u e
 have hj:j < gs.length * 5:=by
  rw [← QG3]
  exact (List.getElem?_eq_some_iff.1 e).1
 have h0:0 < n:=by have:=h.1;omega
 obtain ⟨b,off,ea,hc⟩:=h.2 h0
 obtain rfl:p=⟨b,off,none⟩:=Option.some.inj ea
 exact qY9 h j u e
theorem lk_news {w:World} {p:Addr} {n:Nat} {gs:List LkI} (h:qJ9 w (some p) n gs):∀ j u,(qA2 gs)[j]? = some u→w.cell? (p.add j)=some u:=by
 intro j u e
 have hj:j < gs.length * 4:=by
  rw [← qG1]
  exact (List.getElem?_eq_some_iff.1 e).1
 have h0:0 < n:=by have:=h.1;omega
 obtain ⟨b,off,ea,hc⟩:=h.2 h0
 obtain rfl:p=⟨b,off,none⟩:=Option.some.inj ea
 exact QL2 h j u e
structure qK7 (r:qG5):Prop where
 s:r.sa=none→r.sn=0∧r.sc=0
 l:r.la=none→r.ln=0∧r.lc=0
def CopyR (r:qG5) (w:World) (d:Ending) (w':World):Prop:=∃ (gs sc gl lc:Nat),d = .returned (.agg #[.int .i64 r.i,.int .i64 r.u,.slice (some ⟨gs,0,none⟩) r.sn sc,.slice (some ⟨gl,0,none⟩) r.ln lc])∧qE7 w' w.heap.size (.slice (some ⟨gs,0,none⟩) r.sn sc) r.ss∧qB0 w' w.heap.size (.slice (some ⟨gl,0,none⟩) r.ln lc) r.ls∧Below w.heap.size w w'
theorem qT6 (r:qG5) (w:World) (hr:qD8 w r) (hN:qK7 r) (hs:r.sn≤1048576) (hl:r.ln≤1048576) :
  Calls Tryz.prog 74 #[.agg #[.int .i64 r.i,.int .i64 r.u,.slice r.sa r.sn r.sc,.slice r.la r.ln r.lc]] w fun d w'=>CopyR r w d w':=by
 obtain ⟨i0,hi,hz0,hz1,hz2⟩:=info_parts Tryz.info85
 obtain ⟨j0,hj,hy0,hy1,hy2⟩:=info_parts Tryz.info103
 have HN:Hid (qK7 r):=hN
 have HZ:Hid (r.ss.length=r.sn∧r.ls.length=r.ln):=⟨hr.said.1,hr.locks.1⟩
 obtain ⟨W,hW⟩:∃ W,W=(w.alloc (.cells #[.int .i64 r.i,.int .i64 r.u,.slice r.sa r.sn r.sc,.slice r.la r.ln r.lc] 36)).alloc (.cells #[.int .i64 0,.int .i64 0,.slice none 0 0,.slice none 0 0] 36):=⟨_,rfl⟩
 have hzW:W.heap.size=w.heap.size+2:=by rw [hW];simp
 have B0:Hid (Below w.heap.size w W):=by show Below _ _ _;rw [hW];exact (zN).alloc (by simp) _
 have X0:qI3 w.heap.size [.int .i64 r.i,.int .i64 r.u,.slice r.sa r.sn r.sc,.slice r.la r.ln r.lc] W:=by
  rw [hW]
  exact qI3.below (qG8 w _ _) (by simp) (zN)
 have Y0:qI3 (w.heap.size+1) [.int .i64 0,.int .i64 0,.slice none 0 0,.slice none 0 0] W:=by
  have e:w.heap.size+1=(w.alloc (.cells #[.int .i64 r.i,.int .i64 r.u,.slice r.sa r.sn r.sc,.slice r.la r.ln r.lc] 36)).heap.size:=by simp
  rw [hW,e]
  exact qG8 _ _ _
 obtain ⟨W1,hW1⟩:∃ W1,W1=W.alloc (.cells #[] 85):=⟨_,rfl⟩
 have A1:Below W.heap.size W W1:=by rw [hW1];exact zN
 have hz1':W1.heap.size=w.heap.size+3:=by rw [hW1];simp;omega
 have X1:Hid (qI3 w.heap.size [.int .i64 r.i,.int .i64 r.u,.slice r.sa r.sn r.sc,.slice r.la r.ln r.lc] W1):=qI3.below X0 (by omega) A1
 have Y1:Hid (qI3 (w.heap.size+1) [.int .i64 0,.int .i64 0,.slice none 0 0,.slice none 0 0] W1):=qI3.below Y0 (by omega) A1
 have B1:Hid (Below w.heap.size w W1):=B0.out.trans (A1.mono (by omega))
 have R1:Hid (qD8 W1 r):=hr.below B1.out
 have O1:Hid (W1.ownsRow (w.heap.size+2) 85 5 (.slice (some ⟨w.heap.size+2,0,none⟩) 0 0) 0 []):=by
  have h0:=World.ownsRow_lit (base:=w.heap.size+2) (e:=85) (size:=5) W #[] 0 (by omega) (Nat.zero_le _) rfl
  rw [hzW,← hW1] at h0
  exact h0
 have u0:=X0.1 0 _ rfl
 have u1:=X0.1 1 _ rfl
 have u2:=X0.1 2 _ rfl
 have u3:=X0.1 3 _ rfl
 have hul:w.heap.size < W.heap.size:=by omega
 have HR:Hid (∀ W,Below w.heap.size w W→qD8 W r):=fun W hb=>hr.below hb
 clear hr hN A1 X0 Y0 B0
 go_enter Tryz.func74,Tryz.ntmps74
 go_upto_region 1 with fail
 rw [← hW]
 clear hW
 have q2:=X1.out.1 2 _ rfl
 have hql:w.heap.size < W1.heap.size:=by omega
 go_wp2_with (first
  | (at_builtin;rw [← hW1];refine qR8 rfl _ _ 33 rfl (w.heap.size+2) 85 i0 (.agg #[.int .i64 0,.int .i64 0,.int .i64 0,.int .i64 0,.int .i64 0]) 5 40 Tryz.underlying33 hi hz0 hz1 hz2 rfl (by decide) (.slice (some ⟨w.heap.size+2,0,none⟩) 0 0) 0 [] rfl O1.out (by simp) r.sa r.sn r.sc (qD0 r.ss) rfl HN.out.s (by rw [QG3,HZ.out.1]) (fun p e=>st_news (by rw [← e];exact R1.out.said)) (qO5 _) (by unfold maxLen;omega) (by omega) (by omega) ?_)
  | fail)
 intro v6 w6 hown6 hgrow6 hnil6
 have E6:qE7 w6 (w.heap.size+2) v6 r.ss:=by
  show World.ownsRow _ _ 85 5 _ r.ss.length (qD0 r.ss)
  rw [HZ.out.1]
  have h7:=hown6
  try simp only [Nat.zero_add,List.nil_append] at h7
  exact h7
 obtain ⟨g6,cap6,hv6⟩:=E6.shape hnil6
 rw [HZ.out.1] at hv6
 subst hv6
 have hg:W1.grownBy w6 (some (w.heap.size+2)):=by first | exact hgrow6 | (rw [hW1];exact hgrow6)
 have X6:=qW1 X1.out (by omega) hg (by omega)
 have Y6:=qW1 Y1.out (by omega) hg (by omega)
 have B6:Below w.heap.size w w6:=B1.out.grown hg (by omega) (fun q e=>by cases e;omega)
 have hz6:w.heap.size+3≤w6.heap.size:=by have:=hg.size;omega
 obtain ⟨cur6,hc6,hg6⟩:=qD5 E6 (g:=g6) rfl
 have hl6:=(Array.getElem?_eq_some_iff.1 hc6).1
 obtain ⟨w7,hw7⟩:∃ w7,w7=w6.setCell ⟨w.heap.size,2,none⟩ (.slice (some ⟨g6,0,none⟩) r.sn cap6):=⟨_,rfl⟩
 have X7:qI3 w.heap.size [.int .i64 r.i,.int .i64 r.u,.slice (some ⟨g6,0,none⟩) r.sn cap6,.slice r.la r.ln r.lc] w7:=by rw [hw7];exact X6.put 2 (by simp) _
 have Y7:qI3 (w.heap.size+1) [.int .i64 0,.int .i64 0,.slice none 0 0,.slice none 0 0] w7:=by rw [hw7];exact Y6.other (by show w.heap.size≠w.heap.size+1;omega) _
 have O7:qE7 w7 (w.heap.size+2) (.slice (some ⟨g6,0,none⟩) r.sn cap6) r.ss:=by
  rw [hw7]
  exact qA4 E6 (fun g e=>Below.heap_setCell _ _ _ _ (by simp [Value.ownBlock] at e;subst e;show g6≠w.heap.size;omega))
 have B7:Below w.heap.size w w7:=by rw [hw7];exact B6.setCell (Nat.le_refl _) _
 have hz7:w7.heap.size=w6.heap.size:=by rw [hw7];simp
 obtain ⟨W8,hW8⟩:∃ W8,W8=w7.alloc (.cells #[] 103):=⟨_,rfl⟩
 have A8:Below w7.heap.size w7 W8:=by rw [hW8];exact zN
 have hz8:W8.heap.size=w7.heap.size+1:=by rw [hW8];simp
 have X8:Hid (qI3 w.heap.size [.int .i64 r.i,.int .i64 r.u,.slice (some ⟨g6,0,none⟩) r.sn cap6,.slice r.la r.ln r.lc] W8):=qI3.below X7 (by omega) A8
 have Y8:Hid (qI3 (w.heap.size+1) [.int .i64 0,.int .i64 0,.slice none 0 0,.slice none 0 0] W8):=qI3.below Y7 (by omega) A8
 have B8:Hid (Below w.heap.size w W8):=B7.trans (A8.mono (by omega))
 have S8:Hid (qE7 W8 (w.heap.size+2) (.slice (some ⟨g6,0,none⟩) r.sn cap6) r.ss):=O7.below A8
 have R8:Hid (qD8 W8 r):=HR.out _ B8.out
 obtain ⟨q8,hq8⟩:∃ q8,w7.heap.size=q8:=⟨_,rfl⟩
 have O8:Hid (W8.ownsRow q8 103 4 (.slice (some ⟨q8,0,none⟩) 0 0) 0 []):=by
  have h0:=World.ownsRow_lit (base:=q8) (e:=103) (size:=4) w7 #[] 0 (by omega) (Nat.zero_le _) rfl
  rw [hq8,← hW8] at h0
  exact h0
 have x2:=X6.1 2 _ rfl
 have f2:=X6.2 2
 have hxl6:w.heap.size < w6.heap.size:=by omega
 clear hown6 hgrow6 hnil6 hg E6 X6 Y6 B6 Y7 O7 B7 A8 hc6 u0 u1 u2 u3 hul q2 hql X1 Y1 B1 R1 O1 hW1 hzW hz1'
 go_upto_region 2 with fail
 rw [← hw7]
 have x3:=X7.1 3 _ rfl
 have hxl7:w.heap.size < w7.heap.size:=by omega
 have y3:=X8.out.1 3 _ rfl
 have hxl8:w.heap.size < W8.heap.size:=by omega
 have hq8':w.heap.size < q8:=by omega
 have hq6:g6 < q8:=by omega
 have hz8':W8.heap.size=q8+1:=by omega
 clear hw7 X7 x2 f2 hxl6 hz7 hz6 hl6
 go_wp2_with (first
  | (at_builtin;rw [← hW8];refine qR8 rfl _ _ 34 rfl q8 103 j0 (.agg #[.int .i64 0,.int .i64 0,.int .i64 0,.int .i64 0]) 4 32 Tryz.underlying34 hj hy0 hy1 hy2 rfl (by decide) (.slice (some ⟨q8,0,none⟩) 0 0) 0 [] rfl O8.out (by simp) r.la r.ln r.lc (qA2 r.ls) rfl HN.out.l (by rw [qG1,HZ.out.2]) (fun p e=>lk_news (by rw [← e];exact R8.out.locks)) (qO6 _) (by unfold maxLen;omega) (by omega) (by omega) ?_)
  | fail)
 intro v9 w9 hown9 hgrow9 hnil9
 have E9:qB0 w9 q8 v9 r.ls:=by
  show World.ownsRow _ _ 103 4 _ r.ls.length (qA2 r.ls)
  rw [HZ.out.2]
  have h7:=hown9
  try simp only [Nat.zero_add,List.nil_append] at h7
  exact h7
 obtain ⟨g9,cap9,hv9⟩:=qT5 hown9 hnil9
 try rw [Nat.zero_add] at hv9
 subst hv9
 have hg:W8.grownBy w9 (some q8):=by first | exact hgrow9 | (rw [hW8];exact hgrow9)
 have X9:=qW1 X8.out hxl8 hg (by omega)
 have Y9:=qW1 Y8.out (by omega) hg (by omega)
 have B9:Below w.heap.size w w9:=B8.out.grown hg (by omega) (fun q e=>by cases e;omega)
 have hz9:q8+1≤w9.heap.size:=by have:=hg.size;omega
 have S9:qE7 w9 (w.heap.size+2) (.slice (some ⟨g6,0,none⟩) r.sn cap6) r.ss:=qA4 S8.out (fun g e=>by
  obtain ⟨cur,hc,_⟩:=qD5 S8.out e
  simp [Value.ownBlock] at e
  exact hg.block g (Array.getElem?_eq_some_iff.1 hc).1 (by intro q;cases q;omega))
 obtain ⟨cur9,hc9,hg9⟩:=qD1 E9 (g:=g9) rfl
 obtain ⟨wa,hwa⟩:∃ wa,wa=w9.setCell ⟨w.heap.size,3,none⟩ (.slice (some ⟨g9,0,none⟩) r.ln cap9):=⟨_,rfl⟩
 have Xa:qI3 w.heap.size [.int .i64 r.i,.int .i64 r.u,.slice (some ⟨g6,0,none⟩) r.sn cap6,.slice (some ⟨g9,0,none⟩) r.ln cap9] wa:=by rw [hwa];exact X9.put 3 (by simp) _
 have Ya:qI3 (w.heap.size+1) [.int .i64 0,.int .i64 0,.slice none 0 0,.slice none 0 0] wa:=by rw [hwa];exact Y9.other (by show w.heap.size≠w.heap.size+1;omega) _
 have Sa:Hid (qE7 wa (w.heap.size+2) (.slice (some ⟨g6,0,none⟩) r.sn cap6) r.ss):=by
  show qE7 _ _ _ _
  rw [hwa]
  exact qA4 S9 (fun g e=>Below.heap_setCell _ _ _ _ (by simp [Value.ownBlock] at e;subst e;show g6≠w.heap.size;omega))
 have La:Hid (qB0 wa q8 (.slice (some ⟨g9,0,none⟩) r.ln cap9) r.ls):=by
  show qB0 _ _ _ _
  rw [hwa]
  exact qA4 E9 (fun g e=>Below.heap_setCell _ _ _ _ (by simp [Value.ownBlock] at e;subst e;show g9≠w.heap.size;omega))
 have Ba:Hid (Below w.heap.size w wa):=by show Below _ _ _;rw [hwa];exact B9.setCell (Nat.le_refl _) _
 have hza:wa.heap.size=w9.heap.size:=by rw [hwa];simp
 have z3:=X9.1 3 _ rfl
 have f3:=X9.2 3
 have hl9:w.heap.size < w9.heap.size:=by omega
 clear hown9 hgrow9 hnil9 hg E9 X9 Y9 B9 S9 hc9 X8 Y8 B8 S8 R8 O8 x3 y3 hxl7 hxl8 hW8
 go_upto_region 3 with fail
 rw [← hwa]
 clear hwa z3 f3
 have a0:=Xa.1 0 _ rfl
 have a1:=Xa.1 1 _ rfl
 have a2:=Xa.1 2 _ rfl
 have a3:=Xa.1 3 _ rfl
 have b0:=Ya.1 0 _ rfl
 have b1:=Ya.1 1 _ rfl
 have b2:=Ya.1 2 _ rfl
 have b3:=Ya.1 3 _ rfl
 have e0:=Ya.2 0
 have e1:=Ya.2 1
 have e2:=Ya.2 2
 have e3:=Ya.2 3
 have hla:w.heap.size+1 < wa.heap.size:=by omega
 have hla0:w.heap.size < wa.heap.size:=by omega
 have hne:w.heap.size≠w.heap.size+1:=by omega
 clear Xa Ya
 go_wp2_with fail
 refine bodyPost_ret (v:=.agg #[.int .i64 r.i,.int .i64 r.u,.slice (some ⟨g6,0,none⟩) r.sn cap6,.slice (some ⟨g9,0,none⟩) r.ln cap9]) (by simp [results,Tryz.results74,go_sem,b0,b1,b2,b3,hla]) rfl ?_
 refine ⟨g6,cap6,g9,cap9,rfl,qC8 (qA4 Sa.out (fun g e=>?_)) (by omega),qA9 (qA4 La.out (fun g e=>?_)) (by omega),(((Ba.out.setCell (Nat.le_succ _) _).setCell (Nat.le_succ _) _).setCell (Nat.le_succ _) _).setCell (Nat.le_succ _) _⟩
 ·simp [Value.ownBlock] at e
  subst e
  rw [Below.heap_setCell _ _ _ _ (by show g6≠w.heap.size+1;omega),Below.heap_setCell _ _ _ _ (by show g6≠w.heap.size+1;omega),Below.heap_setCell _ _ _ _ (by show g6≠w.heap.size+1;omega),Below.heap_setCell _ _ _ _ (by show g6≠w.heap.size+1;omega)]
 ·simp [Value.ownBlock] at e
  subst e
  rw [Below.heap_setCell _ _ _ _ (by show g9≠w.heap.size+1;omega),Below.heap_setCell _ _ _ _ (by show g9≠w.heap.size+1;omega),Below.heap_setCell _ _ _ _ (by show g9≠w.heap.size+1;omega),Below.heap_setCell _ _ _ _ (by show g9≠w.heap.size+1;omega)]

theorem QO0 {m m':Nat} {c:qA1} (h:qD3 m c) (hm:m≤m'):qD3 m' c:=by
 obtain ⟨a1,a2,a3,a4⟩:=h
 exact ⟨by omega,by omega,fun k x e=>Nat.le_trans (a3 k x e) hm,by omega⟩
theorem szConfigs_c (a:Option Addr) (n cap:Nat) (fs:List qA1) (l:Int) (w:World) (hn:n≤maxLen) (hle:∀ (k:Nat) c,fs[k]? = some c→qD3 maxLen c) (h0:0≤l) (h1:l≤1048576) (h:qA5 w a n fs) :
  Calls Tryz.prog 6 #[.slice a n cap,.int .i64 l] w fun e w'=>(∃ r:Int,e = .returned (.int .i64 r)∧r≤l∧(0≤r→(n:Int)≤l∧(∀ (k:Nat) c,fs[k]? = some c→qD3 l.toNat c)))∧Below w.heap.size w w':=by
 have H:Hid (qA5 w a n fs):=h
 have HZ:Hid (fs.length=n):=h.len
 have HLE:Hid (∀ (k:Nat) c,fs[k]? = some c→qD3 maxLen c):=hle
 have hn':(n:Int)≤9223372036854775807:=by unfold maxLen at hn;omega
 clear h hle hn
 by_cases hlt:(n:Int)≤l
 ·go_enter Tryz.func6,Tryz.ntmps6
  go_wp2
  go_loopw [1,5] (fun q i wr=>∃ (k:Nat) (r:Int),k≤n∧i = .int .i64 (k:Int)∧q = .int .i64 r∧0≤r∧r≤l∧(∀ j x,j < k→fs[j]? = some x→qD3 l.toNat x)∧Below w.heap.size w wr)
   (fun _ i _=>n - (intOf i).toNat)
  case atStart=>exact ⟨0,_,Nat.zero_le _,rfl,rfl,by omega,by omega,fun j x hj=>by omega,Below.refl _ _⟩
  case round =>
   obtain ⟨k,r,hk,rfl,rfl,hr0,hr1,hok,hnx⟩:=hrel
   have HOK:Hid (∀ j x,j < k→fs[j]? = some x→qD3 l.toNat x):=hok
   clear hok
   by_cases hkn:k < n
   ·obtain ⟨b,off,x,rfl,hs,hr,hci⟩:=H.out.at hkn
    have HS:Hid (fs[k]? = some x):=hs
    have hx:qD3 maxLen x:=HLE.out k x hs
    have HCI:Hid (qF2 wr x):=((H.out.below (hnx.mono (Nat.le_refl _))).each k x hs)
    have hb:b < w.heap.size:=hr.lt
    obtain ⟨c0,c1,c2,c3,c4⟩:=hr.below hnx
    clear hs hr hci
    have hkn':(k:Int) < (n:Int):=by omega
    go_wp2_with fail
    refine (szConfig_c x r _ hx hr0 (by omega) HCI.out).mono ?_
    rintro e w1 ⟨⟨r',rfl,hr'1,hr'2⟩,hb1⟩
    have hb01:Below w.heap.size w w1:=hnx.trans (hb1.mono hnx.size)
    by_cases hneg:r' < 0
    ·clear c0 c1 c2 c3 c4
     go_wp2
     go_ret
     exact ⟨⟨_,rfl,by omega,fun q=>by omega⟩,hb01⟩
    ·have HN:Hid (∀ j y,j < k+1→fs[j]? = some y→qD3 l.toNat y):=fun j y hj hy=>by
      by_cases e:j=k
      ·subst e
       rw [HS.out] at hy
       cases hy
       exact QO0 (hr'2 (by omega)) (by omega)
      ·exact HOK.out j y (by omega) hy
     have hge:0≤r':=by omega
     clear c0 c1 c2 c3 c4 hr'2
     go_wp2
     exact ⟨⟨k+1,r',by omega,by go_num,rfl,hge,by omega,HN.out,hb01⟩,by simp [intOf];omega⟩
   ·have hkn':k=n:=by omega
    subst hkn'
    have HQ:Hid (∀ (k:Nat) c,fs[k]? = some c→qD3 l.toNat c):=fun j x hj=>by
     have : j < k:=by
      by_cases q:j < k
      ·exact q
      ·rw [List.getElem?_eq_none (by rw [HZ.out];omega)] at hj;cases hj
     exact HOK.out j x this hj
    go_wp2
    go_ret
    exact ⟨⟨r,rfl,hr1,fun _=>⟨hlt,HQ.out⟩⟩,hnx⟩
 ·have hlt':l < (n:Int):=by omega
  go_enter Tryz.func6,Tryz.ntmps6
  go_wp2
  go_ret
  exact ⟨⟨_,rfl,by omega,fun q=>by omega⟩,by go_grown⟩

theorem Tryz.infoCf:(Tryz.prog.info? 71).map (fun i=>(i.zero,i.size,i.bytes))=some (some (.agg #[.int .i64 0,.int .i64 0,.slice none 0 0,.slice none 0 0,.slice none 0 0]),5,88):=by kernel_rfl
abbrev CPut (w:World) (B o:Nat) (d:qA1):World:=((((w.setCell ⟨B,o,none⟩ (.int .i64 d.e)).setCell ⟨B,o+1,none⟩ (.int .i64 d.f)).setCell ⟨B,o+2,none⟩ (.slice d.ra d.rn d.rc)).setCell ⟨B,o+3,none⟩ (.slice d.fa d.fn d.fc)).setCell ⟨B,o+4,none⟩ (.slice d.ca d.cn d.cc)
theorem CPut_other (w:World) (B o:Nat) (d:qA1) (q:Addr) (h:∀ j,j < 5→q≠⟨B,o+j,none⟩):(CPut w B o d).cell? q=w.cell? q:=by
 have h0:q≠⟨B,o,none⟩:=h 0 (by omega)
 unfold CPut
 rw [World.cell?_setCell_other (h:=fun e=>h 4 (by omega) e.symm),World.cell?_setCell_other (h:=fun e=>h 3 (by omega) e.symm),World.cell?_setCell_other (h:=fun e=>h 2 (by omega) e.symm),World.cell?_setCell_other (h:=fun e=>h 1 (by omega) e.symm),World.cell?_setCell_other (h:=fun e=>h0 e.symm)]
theorem CPut_at (w:World) (B o:Nat) (d:qA1) (h:∀ j,j < 5→∃ v,w.cell? ⟨B,o+j,none⟩=some v):qI2 (CPut w B o d) B o d:=by
 obtain ⟨v0,h0⟩:=h 0 (by omega)
 obtain ⟨v1,h1⟩:=h 1 (by omega)
 obtain ⟨v2,h2⟩:=h 2 (by omega)
 obtain ⟨v3,h3⟩:=h 3 (by omega)
 obtain ⟨v4,h4⟩:=h 4 (by omega)
 rw [Nat.add_zero] at h0
 unfold qI2 CPut
 refine ⟨?_,?_,?_,?_,?_⟩ <;> simp [go_sem,h0,h1,h2,h3,h4]
structure qH0 (w0 w:World) (n:Nat) (cs ds:List qA1) (k:Nat):Prop where
 ln:ds.length=k
 sm:∀ (j:Nat) c d,cs[j]? = some c→ds[j]? = some d→qH5 c d
 ca:∀ (j:Nat) d,ds[j]? = some d→qI2 w w0.heap.size (j * 5) d
 nw:∀ (j:Nat) d,ds[j]? = some d→CfN w (w0.heap.size+1) d
 rm:(∀ j,j < n * 5→∃ v,w.cell? ⟨w0.heap.size,j,none⟩=some v)∧∀ j,w.frozen? ⟨w0.heap.size,j,none⟩=false
 lt:w0.heap.size < w.heap.size
 bl:Below w0.heap.size w0 w
theorem qH0.below {w0 w w':World} {n:Nat} {cs ds:List qA1} {k:Nat} (h:qH0 w0 w n cs ds k) (hb:Below w.heap.size w w'):qH0 w0 w' n cs ds k :=
 ⟨h.ln,h.sm,fun j d e=>(h.ca j d e).below hb,fun j d e=>⟨(h.nw j d e).rd.below hb,(h.nw j d e).nw.below hb⟩,⟨fun j hj=>by obtain ⟨v,e⟩:=h.rm.1 j hj;exact ⟨v,(hb.cell (p:=⟨w0.heap.size,j,none⟩) h.lt).trans e⟩,fun j=>(hb.frozen (p:=⟨w0.heap.size,j,none⟩) h.lt).trans (h.rm.2 j)⟩,Nat.lt_of_lt_of_le h.lt hb.size,h.bl.trans (hb.mono h.bl.size)⟩
theorem qH0.put {w0 w:World} {n:Nat} {cs ds:List qA1} {k:Nat} (h:qH0 w0 w n cs ds k) (hk:k < n) {c d:qA1} (hc:cs[k]? = some c) (hs:qH5 c d) (hd:CfN w (w0.heap.size+1) d):qH0 w0 (CPut w w0.heap.size (k * 5) d) n cs (ds++[d]) (k+1):=by
 have hl:=h.ln
 have at1:∀ (j:Nat) x,(ds++[d])[j]? = some x→(j < k∧ds[j]? = some x)∨(j=k∧x=d):=fun j x e=>by
  by_cases hj:j < k
  ·rw [List.getElem?_append_left (by omega)] at e
   exact .inl ⟨hj,e⟩
  ·have hjk:j=k:=by
    have:=(List.getElem?_eq_some_iff.1 e).1
    simp at this
    omega
   subst hjk
   rw [← hl,List.getElem?_append_right (Nat.le_refl _),Nat.sub_self] at e
   simp at e
   exact .inr ⟨rfl,e.symm⟩
 have hg:w0.heap.size < w0.heap.size+1:=Nat.lt_succ_self _
 have keepN:∀ x,CfN w (w0.heap.size+1) x→CfN (CPut w w0.heap.size (k * 5) d) (w0.heap.size+1) x:=fun x hx=>((((hx.set hg).set hg).set hg).set hg).set hg
 refine ⟨by simp [hl],fun j c' x e1 e2=>?_,fun j x e=>?_,fun j x e=>?_,⟨fun j hj=>?_,fun j=>?_⟩,by simpa using h.lt,((((h.bl.setCell (Nat.le_refl _) _).setCell (Nat.le_refl _) _).setCell (Nat.le_refl _) _).setCell (Nat.le_refl _) _).setCell (Nat.le_refl _) _⟩
 ·rcases at1 j x e2 with ⟨_,q⟩ | ⟨rfl,rfl⟩
  ·exact h.sm j c' x e1 q
  ·rw [hc] at e1
   cases e1
   exact hs
 ·rcases at1 j x e with ⟨hj,q⟩ | ⟨rfl,rfl⟩
  ·obtain ⟨a0,a1,a2,a3,a4⟩:=h.ca j x q
   have o:∀ i,i < 5→(CPut w w0.heap.size (k * 5) d).cell? ⟨w0.heap.size,j * 5+i,none⟩=w.cell? ⟨w0.heap.size,j * 5+i,none⟩:=fun i hi=>CPut_other w _ _ d _ (fun i' hi' e=>by have:=congrArg Addr.off e;simp at this;omega)
   exact ⟨(o 0 (by omega)).trans a0,(o 1 (by omega)).trans a1,(o 2 (by omega)).trans a2,(o 3 (by omega)).trans a3,(o 4 (by omega)).trans a4⟩
  ·exact CPut_at w _ _ x (fun i hi=>h.rm.1 _ (by omega))
 ·rcases at1 j x e with ⟨_,q⟩ | ⟨rfl,rfl⟩
  ·exact keepN x (h.nw j x q)
  ·exact keepN x hd
 ·obtain ⟨v,e⟩:=h.rm.1 j hj
  have s1:∀ (W:World) (p:Addr) (u:Value) (q:Addr),(∃ v,W.cell? q=some v)→∃ v,(W.setCell p u).cell? q=some v:=fun W p u q ⟨v,e⟩=>by
   by_cases hp:q=p
   ·subst hp
    exact ⟨u,by simp [go_sem,e]⟩
   ·exact ⟨v,by rw [World.cell?_setCell_other (h:=fun e=>hp e.symm)];exact e⟩
  exact s1 _ _ _ _ (s1 _ _ _ _ (s1 _ _ _ _ (s1 _ _ _ _ (s1 _ _ _ _ ⟨v,e⟩))))
 ·unfold CPut
  simp only [World.frozen?_setCell]
  exact h.rm.2 j
theorem qW4 (a:Option Addr) (n cap:Nat) (cs:List qA1) (w:World) (hn:n≤1048576) (hle:∀ (k:Nat) c,cs[k]? = some c→qD3 1048576 c) (h:qA5 w a n cs) :
  Calls Tryz.prog 9 #[.slice a n cap] w fun e w'=>e = .returned (.slice (some ⟨w.heap.size,0,none⟩) n n)∧∃ ds,qH0 w w' n cs ds n:=by
 obtain ⟨i0,hi,hz0,hz1,hz2⟩:=info_parts Tryz.infoCf
 obtain ⟨wm,hmk,hownm,hgrm⟩:=run_make_full (P:=Tryz.prog) (w:=w) w.heap.size 38 71 i0 (.agg #[.int .i64 0,.int .i64 0,.slice none 0 0,.slice none 0 0,.slice none 0 0]) 5 Tryz.underlying38 hi hz0 hz1 .i64 .i64 n (by rw [hz2];omega) (by unfold maxLen;omega) (Nat.le_refl _)
 have H:Hid (qA5 w a n cs):=h
 have HLE:Hid (∀ (k:Nat) c,cs[k]? = some c→qD3 1048576 c):=hle
 clear h hle
 have HM:Hid (qH0 w wm n cs [] 0):=by
  refine ⟨rfl,fun j c d _ e=>by simp at e,fun j d e=>by simp at e,fun j d e=>by simp at e,⟨fun j hj=>?_,fun j=>hownm.frozenAt j⟩,(hownm.lt _ rfl).2,(Below.refl _ _).grown hgrm (Nat.le_refl _) (fun k e=>by cases e)⟩
  have hl:=hownm.1
  exact ⟨_,(hownm.cellAt j (by omega)).trans (List.getElem?_eq_getElem (by omega))⟩
 clear hownm hgrm
 have hn':(n:Int)≤1048576:=by omega
 go_enter Tryz.func9,Tryz.ntmps9
 go_wp2
 go_loopw [4] (fun i wr=>∃ (k:Nat) (ds:List qA1),k≤n∧i = .int .i64 (k:Int)∧Hid (qH0 w wr n cs ds k)) (fun i _=>n - (intOf i).toNat)
 case atStart=>exact ⟨0,[],Nat.zero_le _,rfl,HM⟩
 case round =>
  obtain ⟨k,ds,hk,rfl,HK⟩:=hrel
  by_cases hlt:k < n
  ·have hlt':(k:Int) < (n:Int):=by omega
   obtain ⟨b,off,c,rfl,hs,hr,hci⟩:=H.out.at hlt
   have HS:Hid (cs[k]? = some c):=hs
   have hb:b < wr.heap.size:=Nat.lt_of_lt_of_le hr.lt HK.out.bl.size
   have HCI:Hid (qF2 wr c):=hci.below HK.out.bl
   obtain ⟨c0,c1,c2,c3,c4⟩:=hr.below HK.out.bl
   have hx:=HLE.out k c hs
   clear hs hr hci
   go_wp2_with fail
   refine (toConfig_c c _ hx HCI.out).mono ?_
   rintro e w1 ⟨d,rfl,hsm,hdi,hdn,hb1⟩
   have K1:=HK.out.below hb1
   have K2:Hid (qH0 w (CPut w1 w.heap.size (k * 5) d) n cs (ds++[d]) (k+1)):=K1.put hlt HS.out hsm ⟨hdi,hdn.low (by have:=HK.out.lt;omega)⟩
   have hl1:=K1.lt
   obtain ⟨u0,e0⟩:=K1.rm.1 (k * 5) (by omega)
   obtain ⟨u1,e1⟩:=K1.rm.1 (k * 5+1) (by omega)
   obtain ⟨u2,e2⟩:=K1.rm.1 (k * 5+2) (by omega)
   obtain ⟨u3,e3⟩:=K1.rm.1 (k * 5+3) (by omega)
   obtain ⟨u4,e4⟩:=K1.rm.1 (k * 5+4) (by omega)
   have f0:=K1.rm.2 (k * 5)
   have f1:=K1.rm.2 (k * 5+1)
   have f2:=K1.rm.2 (k * 5+2)
   have f3:=K1.rm.2 (k * 5+3)
   have f4:=K1.rm.2 (k * 5+4)
   clear K1 hsm hdi hdn hb1 c0 c1 c2 c3 c4 HK
   go_wp2_with fail
   exact ⟨⟨k+1,ds++[d],by omega,by go_num,K2⟩,by simp [intOf];omega⟩
  ·have hkn:k=n:=by omega
   subst hkn
   go_wp2_with fail
   go_ret
   exact ⟨rfl,ds,HK.out⟩
theorem qH0.isIn {w0 w:World} {n:Nat} {cs ds:List qA1} (h:qH0 w0 w n cs ds n):qA5 w (some ⟨w0.heap.size,0,none⟩) n ds :=
 ⟨h.ln,fun _=>⟨_,0,rfl,fun k c e=>by rw [Nat.zero_add];exact h.ca k c e⟩,fun k c e=>(h.nw k c e).rd⟩
theorem QQ0 (a b:Option Addr) (n ca cb:Nat) (cs ds:List qA1) (w:World) (hn:n≤1048576) (hle:∀ (k:Nat) c,cs[k]? = some c→qD3 1048576 c) (hs:∀ (j:Nat) c d,cs[j]? = some c→ds[j]? = some d→qH5 c d) (h:qA5 w a n cs) (h':qA5 w b n ds) :
  Calls Tryz.prog 13 #[.slice a n ca,.slice b n cb] w fun e w'=>e = .returned (.bool true)∧Below w.heap.size w w':=by
 have HA:Hid (qA5 w a n cs):=h
 have HB:Hid (qA5 w b n ds):=h'
 have HLE:Hid (∀ (k:Nat) c,cs[k]? = some c→qD3 1048576 c):=hle
 have HSM:Hid (∀ (j:Nat) c d,cs[j]? = some c→ds[j]? = some d→qH5 c d):=hs
 clear h h' hle hs
 have hn':(n:Int)≤1048576:=by omega
 go_enter Tryz.func13,Tryz.ntmps13
 go_wp2
 go_loopw [5] (fun i wr=>∃ k:Nat,k≤n∧i = .int .i64 (k:Int)∧Below w.heap.size w wr) (fun i _=>n - (intOf i).toNat)
 case atStart=>exact ⟨0,Nat.zero_le _,rfl,Below.refl _ _⟩
 case round =>
  obtain ⟨k,hk,rfl,hnx⟩:=hrel
  by_cases hlt:k < n
  ·obtain ⟨b1,o1,s,e1,hs1,hr1,hi1⟩:=HA.out.at hlt
   obtain ⟨b2,o2,s2,e2,hs2,hr2,hi2⟩:=HB.out.at hlt
   subst e1 e2
   have hb1:b1 < wr.heap.size:=Nat.lt_of_lt_of_le hr1.lt hnx.size
   have hb2:b2 < wr.heap.size:=Nat.lt_of_lt_of_le hr2.lt hnx.size
   obtain ⟨h0,h1,h2,h3,h4⟩:=hr1.below hnx
   obtain ⟨g0,g1,g2,g3,g4⟩:=hr2.below hnx
   have HEQ:Hid (∀ W,Below wr.heap.size wr W→Calls Tryz.prog 38 #[.agg #[.int .i64 s.e,.int .i64 s.f,.slice s.ra s.rn s.rc,.slice s.fa s.fn s.fc,.slice s.ca s.cn s.cc],.agg #[.int .i64 s2.e,.int .i64 s2.f,.slice s2.ra s2.rn s2.rc,.slice s2.fa s2.fn s2.fc,.slice s2.ca s2.cn s2.cc]] W fun e w'=>e = .returned (.bool true)∧Below W.heap.size W w'):=by
    have q1:=HLE.out k s hs1
    have q2:=HSM.out k s s2 hs1 hs2
    exact fun W hW=>QW4 s s2 W q1 q2 ((hi1.below hnx).below hW) ((hi2.below hnx).below hW)
   have hlt':(k:Int) < (n:Int):=by omega
   clear hr1 hr2 hi1 hi2 hs1 hs2
   go_wp2
   go_region_held3 (fun w'=>(∀ b o,b < wr.heap.size→w'.cell? ⟨b,o,none⟩=wr.cell? ⟨b,o,none⟩)∧Below wr.heap.size wr w') (first | exact hS | exact qB6 _)
    (first | (go_at_call 38;refine (HEQ.out _ (by first | exact hHeld.2 | exact (Below.refl _ _).drew)).mono ?_;rintro e w' ⟨rfl,hbz⟩;have hS:=qA7 (by assumption) hbz))
   go_wp2
   exact ⟨⟨k+1,by omega,by go_num,hnx.trans (hS.2.mono hnx.size)⟩,by simp [intOf];omega⟩
  ·have hkn:k=n:=by omega
   subst hkn
   go_wp2
   go_ret
   exact ⟨rfl,hnx⟩

structure Mrk (w w':World):Prop where
 it:∀ (a:Addr) (x:Int),w.cell? a=some (.int .i64 x)→∃ y,w'.cell? a=some (.int .i64 y)
 sl:∀ (a:Addr) (b:Option Addr) (n c:Nat),w.cell? a=some (.slice b n c)→w'.cell? a=some (.slice b n c)
 fr:∀ a,w'.frozen? a=w.frozen? a
theorem Mrk.refl (w:World):Mrk w w:=⟨fun _ x h=>⟨x,h⟩,fun _ _ _ _ h=>h,fun _=>rfl⟩
theorem Mrk.trans {a b c:World} (h:Mrk a b) (k:Mrk b c):Mrk a c :=
 ⟨fun q x e=>by obtain ⟨y,e'⟩:=h.it q x e;exact k.it q y e',fun q b n c e=>k.sl q b n c (h.sl q b n c e),fun q=>(k.fr q).trans (h.fr q)⟩
theorem Mrk.set {w:World} {a:Addr} {x:Int} (h:w.cell? a=some (.int .i64 x)) (y:Int):Mrk w (w.setCell a (.int .i64 y)):=by
 refine ⟨fun q z e=>?_,fun q b n c e=>?_,fun q=>World.frozen?_setCell ..⟩
 ·by_cases hq:q=a
  ·subst hq
   exact ⟨y,by simp [go_sem,h]⟩
  ·exact ⟨z,by rw [World.cell?_setCell_other (h:=fun e=>hq e.symm)];exact e⟩
 ·have hq:q≠a:=fun e'=>by subst e';rw [h] at e;cases e
  rw [World.cell?_setCell_other (h:=fun e=>hq e.symm)]
  exact e
def qN7 (w:World) (g m:Nat):Prop:=(∀ j,j < m→∃ x,w.cell? ⟨g,j,none⟩=some (.int .i64 x))∧∀ j,w.frozen? ⟨g,j,none⟩=false
theorem qN7.mrk {w w':World} {g m:Nat} (h:qN7 w g m) (k:Mrk w w'):qN7 w' g m :=
 ⟨fun j hj=>by obtain ⟨x,e⟩:=h.1 j hj;exact k.it _ x e,fun j=>(k.fr _).trans (h.2 j)⟩
theorem Chg.refl {lo hi:Nat} (w:World):Chg lo hi w w:=Chg.calls (Below.refl _ _)
structure MI (lo hi:Nat) (w0 w:World) (g m:Nat):Prop where
 mr:Mrk w0 w
 ch:Chg lo hi w0 w
 rw:qN7 w g m
theorem MI.set {lo hi:Nat} {w0 w:World} {g m j:Nat} (h:MI lo hi w0 w g m) (hg:lo≤g∧g < hi) (hj:j < m) (y:Int):MI lo hi w0 (w.setCell ⟨g,j,none⟩ (.int .i64 y)) g m:=by
 obtain ⟨x,e⟩:=h.rw.1 j hj
 have hm:=Mrk.set e y
 exact ⟨h.mr.trans hm,h.ch.trans (Chg.grown (qJ1 w g j _) (fun q e=>by cases e;exact hg)),h.rw.mrk hm⟩
theorem markIntsK_c (lo hi g n cap:Nat) (k0:Int) (w:World) (hn:n≤1048576) (h0:0≤k0) (h1:k0≤9000000000000000000) (hg:lo≤g∧g < hi) (h:qN7 w g (n)) :
  Calls Tryz.prog 23 #[.slice (some ⟨g,0,none⟩) n cap,.int .i64 k0] w fun e w'=>e = .returned (.int .i64 (k0+1 * (n:Int)))∧Mrk w w'∧Chg lo hi w w':=by
 have HO:Hid (MI lo hi w w g (n)):=⟨Mrk.refl w,Chg.refl w,h⟩
 clear h
 have hn':(n:Int)≤1048576:=by omega
 go_enter Tryz.func23,Tryz.ntmps23
 go_wp2
 go_loopw [1,5] (fun q i wr=>∃ (j:Nat),j≤n∧i = .int .i64 (j:Int)∧q = .int .i64 (k0+1 * (j:Int))∧MI lo hi w wr g (n))
  (fun _ i _=>n - (intOf i).toNat)
 case atStart=>exact ⟨0,Nat.zero_le _,rfl,by simp,HO.out⟩
 case round =>
  obtain ⟨j,hj,rfl,rfl,hmi⟩:=hrel
  have HG:Hid (MI lo hi w wr g (n)):=hmi
  have hroom:=hmi.rw
  clear hmi
  by_cases hlt:j < n
  ·have hlt':(j:Int) < (n:Int):=by omega
   obtain ⟨v0,c0⟩:=hroom.1 (j) (by omega)
   have f0:=hroom.2 (j)
   clear hroom
   go_wp2
   refine ⟨⟨j+1,by omega,by go_num,?_,?_⟩,by simp [intOf];omega⟩
   ·congr 1;omega
   ·exact (HG.out.set hg (show j < n by omega) _)
  ·have hjn:j=n:=by omega
   subst hjn
   clear hroom
   go_wp2
   go_ret
   exact ⟨rfl,HG.out.mr,HG.out.ch⟩
theorem qN7.below {w w':World} {g m:Nat} (h:qN7 w g m) (hg:g < w.heap.size) (hb:Below w.heap.size w w'):qN7 w' g m :=
 ⟨fun j hj=>by obtain ⟨x,e⟩:=h.1 j hj;exact ⟨x,(hb.cell (p:=⟨g,j,none⟩) hg).trans e⟩,fun j=>(hb.frozen (p:=⟨g,j,none⟩) hg).trans (h.2 j)⟩
structure qJ8 (P:World→Prop) (W:World):Prop where
 out:P W
 kept:∀ X X':World,P X→Below X.heap.size X X'→P X'
theorem qJ8.below {P:World→Prop} {W W':World} (h:qJ8 P W) (hb:Below W.heap.size W W'):qJ8 P W':=⟨h.kept _ _ h.out hb,h.kept⟩

theorem markRulesK_c (lo hi g n cap:Nat) (k0:Int) (w:World) (hn:n≤1048576) (h0:0≤k0) (h1:k0≤9000000000000000000) (hg:lo≤g∧g < hi) (h:qN7 w g (n * 8)) :
  Calls Tryz.prog 41 #[.slice (some ⟨g,0,none⟩) n cap,.int .i64 k0] w fun e w'=>e = .returned (.int .i64 (k0+8 * (n:Int)))∧Mrk w w'∧Chg lo hi w w':=by
 have HO:Hid (MI lo hi w w g (n * 8)):=⟨Mrk.refl w,Chg.refl w,h⟩
 clear h
 have hn':(n:Int)≤1048576:=by omega
 go_enter Tryz.func41,Tryz.ntmps41
 go_wp2
 go_loopw [1,5] (fun q i wr=>∃ (j:Nat),j≤n∧i = .int .i64 (j:Int)∧q = .int .i64 (k0+8 * (j:Int))∧MI lo hi w wr g (n * 8))
  (fun _ i _=>n - (intOf i).toNat)
 case atStart=>exact ⟨0,Nat.zero_le _,rfl,by simp,HO.out⟩
 case round =>
  obtain ⟨j,hj,rfl,rfl,hmi⟩:=hrel
  have HG:Hid (MI lo hi w wr g (n * 8)):=hmi
  have hroom:=hmi.rw
  clear hmi
  by_cases hlt:j < n
  ·have hlt':(j:Int) < (n:Int):=by omega
   obtain ⟨v0,c0⟩:=hroom.1 (j * 8) (by omega)
   have f0:=hroom.2 (j * 8)
   obtain ⟨v1,c1⟩:=hroom.1 (j * 8+1) (by omega)
   have f1:=hroom.2 (j * 8+1)
   obtain ⟨v2,c2⟩:=hroom.1 (j * 8+2) (by omega)
   have f2:=hroom.2 (j * 8+2)
   obtain ⟨v3,c3⟩:=hroom.1 (j * 8+3) (by omega)
   have f3:=hroom.2 (j * 8+3)
   obtain ⟨v4,c4⟩:=hroom.1 (j * 8+4) (by omega)
   have f4:=hroom.2 (j * 8+4)
   obtain ⟨v5,c5⟩:=hroom.1 (j * 8+5) (by omega)
   have f5:=hroom.2 (j * 8+5)
   obtain ⟨v6,c6⟩:=hroom.1 (j * 8+6) (by omega)
   have f6:=hroom.2 (j * 8+6)
   obtain ⟨v7,c7⟩:=hroom.1 (j * 8+7) (by omega)
   have f7:=hroom.2 (j * 8+7)
   clear hroom
   go_wp2
   refine ⟨⟨j+1,by omega,by go_num,?_,?_⟩,by simp [intOf];omega⟩
   ·congr 1;omega
   ·exact ((((((((HG.out.set hg (show j * 8 < n * 8 by omega) _).set hg (show j * 8+1 < n * 8 by omega) _).set hg (show j * 8+2 < n * 8 by omega) _).set hg (show j * 8+3 < n * 8 by omega) _).set hg (show j * 8+4 < n * 8 by omega) _).set hg (show j * 8+5 < n * 8 by omega) _).set hg (show j * 8+6 < n * 8 by omega) _).set hg (show j * 8+7 < n * 8 by omega) _)
  ·have hjn:j=n:=by omega
   subst hjn
   clear hroom
   go_wp2
   go_ret
   exact ⟨rfl,HG.out.mr,HG.out.ch⟩
theorem markPartsK_c (lo hi g n cap:Nat) (k0:Int) (w:World) (hn:n≤1048576) (h0:0≤k0) (h1:k0≤9000000000000000000) (hg:lo≤g∧g < hi) (h:qN7 w g (n * 5)) :
  Calls Tryz.prog 72 #[.slice (some ⟨g,0,none⟩) n cap,.int .i64 k0] w fun e w'=>e = .returned (.int .i64 (k0+5 * (n:Int)))∧Mrk w w'∧Chg lo hi w w':=by
 have HO:Hid (MI lo hi w w g (n * 5)):=⟨Mrk.refl w,Chg.refl w,h⟩
 clear h
 have hn':(n:Int)≤1048576:=by omega
 go_enter Tryz.func72,Tryz.ntmps72
 go_wp2
 go_loopw [1,5] (fun q i wr=>∃ (j:Nat),j≤n∧i = .int .i64 (j:Int)∧q = .int .i64 (k0+5 * (j:Int))∧MI lo hi w wr g (n * 5))
  (fun _ i _=>n - (intOf i).toNat)
 case atStart=>exact ⟨0,Nat.zero_le _,rfl,by simp,HO.out⟩
 case round =>
  obtain ⟨j,hj,rfl,rfl,hmi⟩:=hrel
  have HG:Hid (MI lo hi w wr g (n * 5)):=hmi
  have hroom:=hmi.rw
  clear hmi
  by_cases hlt:j < n
  ·have hlt':(j:Int) < (n:Int):=by omega
   obtain ⟨v0,c0⟩:=hroom.1 (j * 5) (by omega)
   have f0:=hroom.2 (j * 5)
   obtain ⟨v1,c1⟩:=hroom.1 (j * 5+1) (by omega)
   have f1:=hroom.2 (j * 5+1)
   obtain ⟨v2,c2⟩:=hroom.1 (j * 5+2) (by omega)
   have f2:=hroom.2 (j * 5+2)
   obtain ⟨v3,c3⟩:=hroom.1 (j * 5+3) (by omega)
   have f3:=hroom.2 (j * 5+3)
   obtain ⟨v4,c4⟩:=hroom.1 (j * 5+4) (by omega)
   have f4:=hroom.2 (j * 5+4)
   clear hroom
   go_wp2
   refine ⟨⟨j+1,by omega,by go_num,?_,?_⟩,by simp [intOf];omega⟩
   ·congr 1;omega
   ·exact (((((HG.out.set hg (show j * 5 < n * 5 by omega) _).set hg (show j * 5+1 < n * 5 by omega) _).set hg (show j * 5+2 < n * 5 by omega) _).set hg (show j * 5+3 < n * 5 by omega) _).set hg (show j * 5+4 < n * 5 by omega) _)
  ·have hjn:j=n:=by omega
   subst hjn
   clear hroom
   go_wp2
   go_ret
   exact ⟨rfl,HG.out.mr,HG.out.ch⟩
def QQ5 (lo hi:Nat) (w:World) (x:qE8):Prop:=x.n≤1048576∧∃ g,x.a=some ⟨g,0,none⟩∧lo≤g∧g < hi∧qN7 w g (x.n * 5)
theorem QQ5.mrk {lo hi:Nat} {w w':World} {x:qE8} (h:QQ5 lo hi w x) (k:Mrk w w'):QQ5 lo hi w' x:=by
 obtain ⟨h0,g,h1,h2,h3,h4⟩:=h
 exact ⟨h0,g,h1,h2,h3,h4.mrk k⟩
def qU9 (lo hi:Nat) (w:World) (g n:Nat) (fs:List qE8):Prop:=fs.length=n∧∀ (k:Nat) (x:qE8),fs[k]? = some x→w.cell? ⟨g,k,none⟩=some (.slice x.a x.n x.cap)∧QQ5 lo hi w x
theorem qU9.mrk {lo hi:Nat} {w w':World} {g n:Nat} {fs:List qE8} (h:qU9 lo hi w g n fs) (k:Mrk w w'):qU9 lo hi w' g n fs :=
 ⟨h.1,fun j x e=>⟨k.sl _ _ _ _ (h.2 j x e).1,(h.2 j x e).2.mrk k⟩⟩
theorem markFormsK_c (lo hi g n cap:Nat) (k0:Int) (fs:List qE8) (w:World) (hn:n≤1048576) (h0:0≤k0) (h1:k0≤8000000000000000000) (h:qU9 lo hi w g n fs) :
  Calls Tryz.prog 42 #[.slice (some ⟨g,0,none⟩) n cap,.int .i64 k0] w fun e w'=>(∃ k:Int,e = .returned (.int .i64 k)∧k0≤k∧k≤k0+5242880 * (n:Int))∧Mrk w w'∧Chg lo hi w w':=by
 have HO:Hid (qU9 lo hi w g n fs):=h
 clear h
 have hn':(n:Int)≤1048576:=by omega
 go_enter Tryz.func42,Tryz.ntmps42
 go_wp2
 go_loopw [1,5] (fun q i wr=>∃ (j:Nat) (k:Int),j≤n∧i = .int .i64 (j:Int)∧q = .int .i64 k∧(k0≤k∧k≤k0+5242880 * (j:Int))∧Mrk w wr∧Chg lo hi w wr)
  (fun _ i _=>n - (intOf i).toNat)
 case atStart=>exact ⟨0,k0,Nat.zero_le _,rfl,rfl,⟨by omega,by omega⟩,Mrk.refl _,Chg.refl _⟩
 case round =>
  obtain ⟨j,k,hj,rfl,rfl,⟨hk0,hk1⟩,hmk,hch⟩:=hrel
  have HM:Hid (Mrk w wr∧Chg lo hi w wr):=⟨hmk,hch⟩
  have HT:=HO.out.mrk hmk
  clear hmk hch
  by_cases hlt:j < n
  ·have hlt':(j:Int) < (n:Int):=by omega
   obtain ⟨x,hx⟩:∃ x,fs[j]? = some x:=⟨_,List.getElem?_eq_getElem (by rw [HT.1];exact hlt)⟩
   obtain ⟨hc,hxn,gp,hxa,hlo,hhi,hrow⟩:=HT.2 j x hx
   have HR:Hid (qN7 wr gp (x.n * 5)):=hrow
   have hgl:=zL wr ⟨g,j,none⟩ hc
   rw [hxa] at hc
   clear hx hrow HT
   go_wp2_with fail
   refine (markPartsK_c lo hi gp x.n x.cap k wr hxn (by omega) (by omega) ⟨hlo,hhi⟩ HR.out).mono ?_
   rintro d w1 ⟨rfl,hm1,hc1⟩
   have HM1:Hid (Mrk w w1∧Chg lo hi w w1):=⟨HM.out.1.trans hm1,HM.out.2.trans hc1⟩
   have hxn':(x.n:Int)≤1048576:=by omega
   clear hm1 hc1 HM hc
   go_wp2_with fail
   exact ⟨⟨j+1,k+5 * (x.n:Int),by omega,by go_num,rfl,⟨by omega,by simp;omega⟩,HM1.out.1,HM1.out.2⟩,by simp [intOf];omega⟩
  ·have hjn:j=n:=by omega
   subst hjn
   go_wp2_with fail
   go_ret
   exact ⟨⟨k,rfl,hk0,hk1⟩,HM.out.1,HM.out.2⟩

structure ConfK (lo hi:Nat) (w:World) (d:qA1):Prop where
 ru:d.rn≤1048576∧∃ g,d.ra=some ⟨g,0,none⟩∧lo≤g∧g < hi∧qN7 w g (d.rn * 8)
 fo:d.fn≤1048576∧∃ g,d.fa=some ⟨g,0,none⟩∧qU9 lo hi w g d.fn d.fs
 cl:d.cn≤1048576∧∃ g,d.ca=some ⟨g,0,none⟩∧lo≤g∧g < hi∧qN7 w g d.cn
theorem ConfK.mrk {lo hi:Nat} {w w':World} {d:qA1} (h:ConfK lo hi w d) (k:Mrk w w'):ConfK lo hi w' d:=by
 obtain ⟨⟨a0,g,a1,a2,a3,a4⟩,⟨b0,g',b1,b2⟩,⟨c0,g'',c1,c2,c3,c4⟩⟩:=h
 exact ⟨⟨a0,g,a1,a2,a3,a4.mrk k⟩,⟨b0,g',b1,b2.mrk k⟩,⟨c0,g'',c1,c2,c3,c4.mrk k⟩⟩
structure qQ1 (lo hi:Nat) (w:World) (T n:Nat) (ds:List qA1):Prop where
 ln:ds.length=n
 at5:∀ (j:Nat) (d:qA1),ds[j]? = some d→(∃ x,w.cell? ⟨T,j * 5,none⟩=some (.int .i64 x))∧(∃ x,w.cell? ⟨T,j * 5+1,none⟩=some (.int .i64 x))∧w.cell? ⟨T,j * 5+2,none⟩=some (.slice d.ra d.rn d.rc)∧w.cell? ⟨T,j * 5+3,none⟩=some (.slice d.fa d.fn d.fc)∧w.cell? ⟨T,j * 5+4,none⟩=some (.slice d.ca d.cn d.cc)∧ConfK lo hi w d
 fr:∀ o,w.frozen? ⟨T,o,none⟩=false
 lo:lo≤T∧T < hi
theorem qQ1.mrk {lo hi:Nat} {w w':World} {T n:Nat} {ds:List qA1} (h:qQ1 lo hi w T n ds) (k:Mrk w w'):qQ1 lo hi w' T n ds :=
 ⟨h.ln,fun j d e=>by
  obtain ⟨⟨x,h0⟩,⟨y,h1⟩,h2,h3,h4,h5⟩:=h.at5 j d e
  exact ⟨k.it _ x h0,k.it _ y h1,k.sl _ _ _ _ h2,k.sl _ _ _ _ h3,k.sl _ _ _ _ h4,h5.mrk k⟩,fun o=>(k.fr _).trans (h.fr o),h.lo⟩
theorem QP5 (lo hi T n cap:Nat) (k0:Int) (ds:List qA1) (w:World) (hn:n≤1048576) (h0:0≤k0) (h1:k0≤1000000000000000000) (h:qQ1 lo hi w T n ds) :
  Calls Tryz.prog 15 #[.slice (some ⟨T,0,none⟩) n cap,.int .i64 k0] w fun e w'=>(∃ k:Int,e = .returned (.int .i64 k)∧k0≤k∧k≤k0+5497567576066 * (n:Int))∧Mrk w w'∧Chg lo hi w w':=by
 have HO:Hid (qQ1 lo hi w T n ds):=h
 clear h
 have hn':(n:Int)≤1048576:=by omega
 go_enter Tryz.func15,Tryz.ntmps15
 go_wp2
 go_loopw [1,5] (fun q i wr=>∃ (j:Nat) (k:Int),j≤n∧i = .int .i64 (j:Int)∧q = .int .i64 k∧(k0≤k∧k≤k0+5497567576066 * (j:Int))∧Mrk w wr∧Chg lo hi w wr)
  (fun _ i _=>n - (intOf i).toNat)
 case atStart=>exact ⟨0,k0,Nat.zero_le _,rfl,rfl,⟨by omega,by omega⟩,Mrk.refl _,Chg.refl _⟩
 case round =>
  obtain ⟨j,k,hj,rfl,rfl,⟨hk0,hk1⟩,hmk,hch⟩:=hrel
  have HM:Hid (Mrk w wr∧Chg lo hi w wr):=⟨hmk,hch⟩
  have HT:Hid (qQ1 lo hi wr T n ds):=HO.out.mrk hmk
  clear hmk hch
  by_cases hlt:j < n
  ·have hlt':(j:Int) < (n:Int):=by omega
   obtain ⟨d,hd⟩:∃ d,ds[j]? = some d:=⟨_,List.getElem?_eq_getElem (by rw [HT.out.ln];exact hlt)⟩
   obtain ⟨⟨x,c0⟩,⟨y,c1⟩,c2,c3,c4,hck⟩:=HT.out.at5 j d hd
   have HCK:Hid (ConfK lo hi wr d):=hck
   obtain ⟨⟨hrn,gr,hra,_⟩,⟨hfn,gf,hfa,_⟩,⟨hcn,gc,hca,_⟩⟩:=hck
   have f0:=HT.out.fr (j * 5)
   have f1:=HT.out.fr (j * 5+1)
   have hTl:=zL wr ⟨T,j * 5,none⟩ c0
   rw [hra] at c2
   rw [hfa] at c3
   rw [hca] at c4
   obtain ⟨W2,hW2⟩:∃ W2,W2=(wr.setCell ⟨T,j * 5,none⟩ (.int .i64 k)).setCell ⟨T,j * 5+1,none⟩ (.int .i64 (k+1)):=⟨_,rfl⟩
   have M2:Mrk wr W2:=by
    rw [hW2]
    obtain ⟨z,hz⟩:=(Mrk.set c0 k).it _ _ c1
    exact (Mrk.set c0 k).trans (Mrk.set hz (k+1))
   have C2:Chg lo hi wr W2:=by
    rw [hW2]
    exact (Chg.grown (qJ1 wr T (j * 5) _) (fun q e=>by cases e;exact HT.out.lo)).trans (Chg.grown (qJ1 _ T (j * 5+1) _) (fun q e=>by cases e;exact HT.out.lo))
   have HM2:Hid (Mrk w W2∧Chg lo hi w W2):=⟨HM.out.1.trans M2,HM.out.2.trans C2⟩
   have HD:Hid (ds[j]? = some d):=hd
   clear M2 C2 hd HM
   go_upto_region 8 with fail
   rw [← hW2]
   clear hW2 c0 c1 f0 f1 hTl
   have q2:=((HO.out.mrk HM2.out.1).at5 j d HD.out).2.2.1
   rw [hra] at q2
   have hTl:=zL W2 ⟨T,j * 5+2,none⟩ q2
   obtain ⟨⟨_,gr',hra',hrlo,hrhi,hrow⟩,_,_⟩:=((HO.out.mrk HM2.out.1).at5 j d HD.out).2.2.2.2.2
   rw [hra] at hra'
   cases hra'
   have HR:Hid (qN7 W2 gr (d.rn * 8)):=hrow
   clear hrow c2 c3 c4
   go_wp2_with fail
   refine (markRulesK_c lo hi gr d.rn d.rc _ W2 hrn ?h0 ?h1 ⟨hrlo,hrhi⟩ HR.out).mono ?_
   case h0=>omega
   case h1=>omega
   rintro e w3 ⟨rfl,m3,h3⟩
   have HM3:Hid (Mrk w w3∧Chg lo hi w w3):=⟨HM2.out.1.trans m3,HM2.out.2.trans h3⟩
   clear m3 h3 HM2 q2 hTl HR
   have q3:=((HO.out.mrk HM3.out.1).at5 j d HD.out).2.2.2.1
   rw [hfa] at q3
   have hTl:=zL w3 ⟨T,j * 5+3,none⟩ q3
   obtain ⟨_,⟨_,gf',hfa',hft⟩,_⟩:=((HO.out.mrk HM3.out.1).at5 j d HD.out).2.2.2.2.2
   rw [hfa] at hfa'
   cases hfa'
   have HF:Hid (qU9 lo hi w3 gf d.fn d.fs):=hft
   have hrn':(d.rn:Int)≤1048576:=by omega
   clear hft
   go_wp2_with fail
   refine (markFormsK_c lo hi gf d.fn d.fc _ d.fs w3 hfn ?h0 ?h1 HF.out).mono ?_
   case h0=>omega
   case h1=>omega
   rintro e w4 ⟨⟨k4,rfl,k40,k41⟩,m4,h4⟩
   have HM4:Hid (Mrk w w4∧Chg lo hi w w4):=⟨HM3.out.1.trans m4,HM3.out.2.trans h4⟩
   clear m4 h4 HM3 q3 hTl HF
   have q4:=((HO.out.mrk HM4.out.1).at5 j d HD.out).2.2.2.2.1
   rw [hca] at q4
   have hTl:=zL w4 ⟨T,j * 5+4,none⟩ q4
   obtain ⟨_,_,⟨_,gc',hca',hclo,hchi,hcrow⟩⟩:=((HO.out.mrk HM4.out.1).at5 j d HD.out).2.2.2.2.2
   rw [hca] at hca'
   cases hca'
   have HC:Hid (qN7 w4 gc d.cn):=hcrow
   have hfn':(d.fn:Int)≤1048576:=by omega
   have hcn':(d.cn:Int)≤1048576:=by omega
   clear hcrow
   go_wp2_with fail
   refine (markIntsK_c lo hi gc d.cn d.cc k4 w4 hcn (by omega) (by omega) ⟨hclo,hchi⟩ HC.out).mono ?_
   rintro e w5 ⟨rfl,m5,h5⟩
   have HM5:Hid (Mrk w w5∧Chg lo hi w w5):=⟨HM4.out.1.trans m5,HM4.out.2.trans h5⟩
   clear m5 h5 HM4 q4 hTl HC
   go_wp2_with fail
   exact ⟨⟨j+1,k4+1 * (d.cn:Int),by omega,by go_num,by congr 1;omega,⟨by omega,by simp;omega⟩,HM5.out.1,HM5.out.2⟩,by simp [intOf];omega⟩
  ·have hjn:j=n:=by omega
   subst hjn
   go_wp2_with fail
   go_ret
   exact ⟨⟨k,rfl,hk0,hk1⟩,HM.out.1,HM.out.2⟩
theorem qH0.tab {w0 w:World} {n:Nat} {cs ds:List qA1} (h:qH0 w0 w n cs ds n) (hle:∀ (k:Nat) d,ds[k]? = some d→qD3 1048576 d):qQ1 w0.heap.size w.heap.size w w0.heap.size n ds:=by
 refine ⟨h.ln,fun j d e=>?_,h.rm.2,Nat.le_refl _,h.lt⟩
 obtain ⟨a0,a1,a2,a3,a4⟩:=h.ca j d e
 have hn:=h.nw j d e
 have hl:=hle j d e
 refine ⟨⟨_,a0⟩,⟨_,a1⟩,a2,a3,a4,⟨hl.rules,?_⟩,⟨hl.forms,?_⟩,⟨hl.classes,?_⟩⟩
 ·obtain ⟨_,g,hg,hlo,hhi,hroom⟩:=hn.nw.rules
  refine ⟨g,hg,by omega,hhi,fun q hq=>?_,hroom.2⟩
  have hr:=hn.rd.rules
  rw [hg] at hr
  obtain ⟨b,off,eb,hat⟩:=hr.2 (by omega)
  cases eb
  have hx:d.zs[q / 8]? = some (d.zs[q / 8]'(by rw [hr.1];omega)):=List.getElem?_eq_getElem _
  obtain ⟨c0,c1,c2,c3,c4,c5,c6,c7⟩:=hat _ _ hx
  simp only [Nat.zero_add] at c0 c1 c2 c3 c4 c5 c6 c7
  have hm:q % 8=0∨q % 8=1∨q % 8=2∨q % 8=3∨q % 8=4∨q % 8=5∨q % 8=6∨q % 8=7:=by omega
  rcases hm with hm | hm | hm | hm | hm | hm | hm | hm
  ·exact ⟨_,by rw [show q=q / 8 * 8 by omega];exact c0⟩
  ·exact ⟨_,by rw [show q=q / 8 * 8+1 by omega];exact c1⟩
  ·exact ⟨_,by rw [show q=q / 8 * 8+2 by omega];exact c2⟩
  ·exact ⟨_,by rw [show q=q / 8 * 8+3 by omega];exact c3⟩
  ·exact ⟨_,by rw [show q=q / 8 * 8+4 by omega];exact c4⟩
  ·exact ⟨_,by rw [show q=q / 8 * 8+5 by omega];exact c5⟩
  ·exact ⟨_,by rw [show q=q / 8 * 8+6 by omega];exact c6⟩
  ·exact ⟨_,by rw [show q=q / 8 * 8+7 by omega];exact c7⟩
 ·obtain ⟨_,g,hg,hlo,hhi,hroom⟩:=hn.nw.forms
  refine ⟨g,hg,hn.rd.forms.1,fun q x hx=>⟨?_,?_⟩⟩
  ·have hf:=hn.rd.forms
   rw [hg] at hf
   have hq:q < d.fn:=by rw [← hf.1];exact (List.getElem?_eq_some_iff.1 hx).1
   obtain ⟨b,off,eb,hat⟩:=hf.2 (by omega)
   cases eb
   have:=(hat q x hx).1
   rw [Nat.zero_add] at this
   exact this
  ·obtain ⟨_,gp,hgp,hplo,hphi,hproom⟩:=hn.nw.parts q x hx
   refine ⟨hl.parts q x hx,gp,hgp,by omega,hphi,fun r hr=>?_,hproom.2⟩
   have hf:=hn.rd.forms
   have hq:q < d.fn:=by rw [← hf.1];exact (List.getElem?_eq_some_iff.1 hx).1
   obtain ⟨b,off,eb,hat⟩:=hf.2 (by omega)
   have hp:=(hat q x hx).2
   rw [hgp] at hp
   obtain ⟨b',off',eb',hat'⟩:=hp.2 (by omega)
   cases eb'
   have hy:x.ps[r / 5]? = some (x.ps[r / 5]'(by rw [hp.1];omega)):=List.getElem?_eq_getElem _
   obtain ⟨c0,c1,c2,c3,c4⟩:=hat' _ _ hy
   simp only [Nat.zero_add] at c0 c1 c2 c3 c4
   have hm:r % 5=0∨r % 5=1∨r % 5=2∨r % 5=3∨r % 5=4:=by omega
   rcases hm with hm | hm | hm | hm | hm
   ·exact ⟨_,by rw [show r=r / 5 * 5 by omega];exact c0⟩
   ·exact ⟨_,by rw [show r=r / 5 * 5+1 by omega];exact c1⟩
   ·exact ⟨_,by rw [show r=r / 5 * 5+2 by omega];exact c2⟩
   ·exact ⟨_,by rw [show r=r / 5 * 5+3 by omega];exact c3⟩
   ·exact ⟨_,by rw [show r=r / 5 * 5+4 by omega];exact c4⟩
 ·obtain ⟨_,g,hg,hlo,hhi,hroom⟩:=hn.nw.classes
  refine ⟨g,hg,by omega,hhi,fun q hq=>?_,hroom.2⟩
  have hr:=hn.rd.classes
  rw [hg] at hr
  obtain ⟨b,off,eb,hat⟩:=hr.2 (by omega)
  cases eb
  have hx:d.cs[q]? = some (d.cs[q]'(by rw [hr.1];omega)):=List.getElem?_eq_getElem _
  have:=hat _ _ hx
  rw [Nat.zero_add] at this
  exact ⟨_,this⟩

structure qP5 (cs ds:List qA1):Prop where
 ln:ds.length=cs.length
 sm:∀ (j:Nat) c d,cs[j]? = some c→ds[j]? = some d→qH5 c d
theorem code_same {c d:qA1} (h:qH5 c d):qU7 d=qU7 c:=by
 unfold qU7
 rw [h.e,h.f,h.zs,h.ps,h.cs]
theorem qP5.get {cs ds:List qA1} (h:qP5 cs ds) {j:Nat} {d:qA1} (e:ds[j]? = some d):∃ c,cs[j]? = some c∧qH5 c d:=by
 have hj:=(List.getElem?_eq_some_iff.1 e).1
 rw [h.ln] at hj
 exact ⟨_,List.getElem?_eq_getElem hj,h.sm j _ d (List.getElem?_eq_getElem hj) e⟩
theorem qP5.f0 {cs ds:List qA1} (h:qP5 cs ds):(ds[0]?.getD default).f=(cs[0]?.getD default).f:=by
 cases e:ds[0]? with
 | none =>
  have : ds.length≤0:=by simpa using e
  have e2:cs[0]? = none:=List.getElem?_eq_none (by rw [← h.ln];exact this)
  rw [e2]
 | some d =>
  obtain ⟨c,hc,hs⟩:=h.get e
  rw [hc]
  exact hs.f
theorem QZ1 {cs ds:List qA1} (h:qP5 cs ds):∀ k,qJ7 ds k=qJ7 cs k
 | 0=>rfl
 | k+1=>by
  have ih:=QZ1 h k
  show (if qJ7 ds k=0 then (match ds[k]? with
   | none=>0
   | some c=>if qU7 c=0 then (if c.f=(ds[0]?.getD default).f then 0 else 1) else qU7 c) else qJ7 ds k)=_
  rw [ih]
  by_cases q:qJ7 cs k=0
  ·rw [if_pos q]
   cases e:ds[k]? with
   | none =>
    have : ds.length≤k:=by simpa using e
    have e2:cs[k]? = none:=List.getElem?_eq_none (by rw [← h.ln];exact this)
    rw [qJ7,if_pos q,e2]
   | some d =>
    obtain ⟨c,hc,hs⟩:=h.get e
    rw [QA9 hc q]
    simp only
    rw [code_same hs,hs.f,h.f0]
  ·rw [if_neg q,qJ7,if_neg q]
theorem qP5.cfs {cs ds:List qA1} (h:qP5 cs ds):qB9 ds=qB9 cs:=by
 unfold qB9
 rw [h.ln,QZ1 h]
theorem qH0.same {w0 w:World} {n:Nat} {cs ds:List qA1} (h:qH0 w0 w n cs ds n) (hc:cs.length=n):qP5 cs ds:=⟨h.ln.trans hc.symm,h.sm⟩
theorem qH0.le {w0 w wA:World} {a:Option Addr} {n:Nat} {cs ds:List qA1} (h:qH0 w0 w n cs ds n) (hn:n≤1048576) (hi:qA5 wA a n cs) (hl:∀ (k:Nat) c,cs[k]? = some c→qD3 1048576 c):qF1 1048576 ds:=by
 have hS:=h.same hi.len
 refine ⟨fun k d e=>?_,fun k d e=>?_⟩
 ·obtain ⟨c,hc,hs⟩:=hS.get e
  exact hs.le (hi.each k c hc) (h.nw k d e).rd (hl k c hc)
 ·obtain ⟨c,hc,hs⟩:=hS.get e
  have q:=(h.nw k d e).nw.rules.1
  have hl2:=(hs.le (hi.each k c hc) (h.nw k d e).rd (hl k c hc)).rules
  refine ⟨(h.nw k d e).nw.cap,?_⟩
  rw [q]
  unfold maxLen
  omega
theorem QR1 {cs ds es:List qA1} (h:qP5 cs ds) (g:qP5 cs es):∀ (j:Nat) c d,ds[j]? = some c→es[j]? = some d→qH5 c d:=fun j c d e1 e2=>by
 obtain ⟨x,hx,hs⟩:=h.get e1
 exact hs.trans (g.sm j x d hx e2)

theorem QQ5.below {lo hi:Nat} {w w':World} {x:qE8} (h:QQ5 lo hi w x) (hh:hi≤w.heap.size) (hb:Below w.heap.size w w'):QQ5 lo hi w' x:=by
 obtain ⟨h0,g,h1,h2,h3,h4⟩:=h
 exact ⟨h0,g,h1,h2,h3,h4.below (by omega) hb⟩
theorem qU9.below {lo hi:Nat} {w w':World} {g n:Nat} {fs:List qE8} (h:qU9 lo hi w g n fs) (hh:hi≤w.heap.size) (hb:Below w.heap.size w w'):qU9 lo hi w' g n fs :=
 ⟨h.1,fun j x e=>⟨(hb.cell (p:=⟨g,j,none⟩) (zL w ⟨g,j,none⟩ (h.2 j x e).1)).trans (h.2 j x e).1,(h.2 j x e).2.below hh hb⟩⟩
theorem ConfK.below {lo hi:Nat} {w w':World} {d:qA1} (h:ConfK lo hi w d) (hh:hi≤w.heap.size) (hb:Below w.heap.size w w'):ConfK lo hi w' d:=by
 obtain ⟨⟨a0,g,a1,a2,a3,a4⟩,⟨b0,g',b1,b2⟩,⟨c0,g'',c1,c2,c3,c4⟩⟩:=h
 exact ⟨⟨a0,g,a1,a2,a3,a4.below (by omega) hb⟩,⟨b0,g',b1,b2.below hh hb⟩,⟨c0,g'',c1,c2,c3,c4.below (by omega) hb⟩⟩
theorem qQ1.below {lo hi:Nat} {w w':World} {T n:Nat} {ds:List qA1} (h:qQ1 lo hi w T n ds) (hh:hi≤w.heap.size) (hb:Below w.heap.size w w'):qQ1 lo hi w' T n ds:=by
 have hT:T < w.heap.size:=by have:=h.lo.2;omega
 refine ⟨h.ln,fun j d e=>?_,fun o=>(hb.frozen (p:=⟨T,o,none⟩) hT).trans (h.fr o),h.lo⟩
 obtain ⟨⟨x,h0⟩,⟨y,h1⟩,h2,h3,h4,h5⟩:=h.at5 j d e
 have k:∀ o,w'.cell? ⟨T,o,none⟩=w.cell? ⟨T,o,none⟩:=fun o=>hb.cell (p:=⟨T,o,none⟩) hT
 exact ⟨⟨x,(k _).trans h0⟩,⟨y,(k _).trans h1⟩,(k _).trans h2,(k _).trans h3,(k _).trans h4,h5.below hh hb⟩
def CpB (lo hi n:Nat) (cs:List qA1) (X:World):Prop:=∃ ds,qA5 X (some ⟨lo,0,none⟩) n ds∧qP5 cs ds∧qF1 1048576 ds∧qQ1 lo hi X lo n ds∧hi≤X.heap.size
theorem qH0.cpB {w0 w wA:World} {a:Option Addr} {n:Nat} {cs ds:List qA1} (h:qH0 w0 w n cs ds n) (hn:n≤1048576) (hi:qA5 wA a n cs) (hl:∀ (k:Nat) c,cs[k]? = some c→qD3 1048576 c):qJ8 (CpB w0.heap.size w.heap.size n cs) w :=
 ⟨⟨ds,h.isIn,h.same hi.len,h.le hn hi hl,h.tab (h.le hn hi hl).1,Nat.le_refl _⟩,fun X X' hX hb=>by
  obtain ⟨es,h1,h2,h3,h4,h5⟩:=hX
  exact ⟨es,h1.below hb,h2,h3,h4.below h5 hb,Nat.le_trans h5 hb.size⟩⟩
theorem eqCpB_c {lo hi lo' hi' n:Nat} {cs:List qA1} (ca cb:Nat) {W:World} (hn:n≤1048576) (h:CpB lo hi n cs W) (h':CpB lo' hi' n cs W) :
  Calls Tryz.prog 13 #[.slice (some ⟨lo,0,none⟩) n ca,.slice (some ⟨lo',0,none⟩) n cb] W fun e w'=>e = .returned (.bool true)∧Below W.heap.size W w':=by
 obtain ⟨ds,h1,h2,h3,_,_⟩:=h
 obtain ⟨es,k1,k2,_,_,_⟩:=h'
 exact QQ0 _ _ n ca cb ds es W hn h3.1 (QR1 h2 k2) h1 k1

end Go.Proofs.YtdppdbihhlipeaaGreatDoor
