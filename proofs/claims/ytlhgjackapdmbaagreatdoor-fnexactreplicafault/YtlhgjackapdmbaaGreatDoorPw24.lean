/- Contracts. -/
import Derived.Test.YtlhgjackapdmbaaGreatDoorPw23
import Derived.Test.YtlhgjackapdmbaaGreatDoorPw11
namespace Go.Proofs.YtlhgjackapdmbaaGreatDoor
set_option maxRecDepth 100000
set_option maxHeartbeats 8000000
open Go.RowKit
set_option linter.unusedVariables false
set_option linter.unusedSimpArgs false

def qP4 (said:List StI) (k e:Int):Bool:=said.any (fun x=>decide (x.k=k)&&decide (x.e=e))
def qH3 (said:List StI) (k e:Int):Option StI:=said.find? (fun x=>decide (x.k=k)&&decide (x.e=e))
def qS7 (said:List StI) (e:Int):Bool:=qP4 said 3 e || qP4 said 4 e
def qR3 (x:StI):StI:=⟨2,x.e,x.f,x.s,0⟩
def qD2 (said:List StI) (x:StI):Bool:=said.any (fun y=>qN7 y x)
theorem QV4 {said:List StI} {x:StI}:qD2 said x=true↔x∈said:=by
 unfold qD2 qN7
 rw [List.any_eq_true]
 constructor
 ·rintro ⟨y,hy,h⟩
  have : y=x:=of_decide_eq_true h
  subst this;exact hy
 ·intro h
  exact ⟨x,h,decide_eq_true rfl⟩
theorem QA0 {said:List StI} {j:Nat} {x:StI} (h:said[j]? = some x) (k e:Int):qH3 (said.drop j) k e=if x.k=k∧x.e=e then some x else qH3 (said.drop (j+1)) k e:=by
 have hl:j < said.length:=by
  by_cases q:j < said.length
  ·exact q
  ·rw [List.getElem?_eq_none (by omega)] at h;cases h
 rw [List.getElem?_eq_getElem hl] at h
 rw [List.drop_eq_getElem_cons hl,Option.some.inj h]
 unfold qH3
 rw [List.find?_cons]
 by_cases q:x.k=k∧x.e=e
 ·rw [if_pos q];simp [q.1,q.2]
 ·rw [if_neg q]
  have : (decide (x.k=k)&&decide (x.e=e))=false:=by
   rw [Bool.and_eq_false_iff]
   by_cases q1:x.k=k
   ·exact .inr (decide_eq_false (fun q2=>q ⟨q1,q2⟩))
   ·exact .inl (decide_eq_false q1)
  rw [this]
theorem kindB_at (said:List StI) (k e:Int):qP4 said k e=(qH3 said k e).isSome:=by
 unfold qP4 qH3
 induction said with
 | nil=>rfl
 | cons x r ih =>
  rw [List.any_cons,List.find?_cons]
  cases (decide (x.k=k)&&decide (x.e=e))
  ·simpa using ih
  ·simp
theorem saidB_drop {said:List StI} {j:Nat} {x:StI} (h:said[j]? = some x) (y:StI):qD2 (said.drop j) y=(qN7 x y || qD2 (said.drop (j+1)) y):=by
 have hl:j < said.length:=by
  by_cases q:j < said.length
  ·exact q
  ·rw [List.getElem?_eq_none (by omega)] at h;cases h
 rw [List.getElem?_eq_getElem hl] at h
 rw [List.drop_eq_getElem_cons hl,Option.some.inj h]
 unfold qD2
 rw [List.any_cons]

def qC9:List StI→List Value
 | []=>[]
 | p::ps => .int .i64 p.k :: .int .i64 p.e :: .int .i64 p.f :: .int .i64 p.s :: .int .i64 p.n::qC9 ps
theorem qM0 (a b:List StI):qC9 (a++b)=qC9 a++qC9 b:=by
 induction a with
 | nil=>rfl
 | cons p ps ih=>simp [qC9,ih]
theorem QD8 (a:List StI):(qC9 a).length=a.length * 5:=by
 induction a with
 | nil=>rfl
 | cons p ps ih=>simp [qC9,ih];omega
theorem QK9:∀ (a:List StI) (k:Nat) (p:StI),a[k]? = some p→(qC9 a)[k * 5]? = some (.int .i64 p.k)∧(qC9 a)[k * 5+1]? = some (.int .i64 p.e)∧(qC9 a)[k * 5+2]? = some (.int .i64 p.f)∧(qC9 a)[k * 5+3]? = some (.int .i64 p.s)∧(qC9 a)[k * 5+4]? = some (.int .i64 p.n)
 | [],_,_,h=>by simp at h
 | q::qs,0,p,h=>by simp at h;subst h;exact ⟨rfl,rfl,rfl,rfl,rfl⟩
 | q::qs,k+1,p,h=>by
  have:=QK9 qs k p (by simpa using h)
  rw [show (k+1) * 5=k * 5+1+1+1+1+1 by omega,show k * 5+1+1+1+1+1+1=(k * 5+1)+1+1+1+1+1 by omega,show k * 5+1+1+1+1+1+2=(k * 5+2)+1+1+1+1+1 by omega,show k * 5+1+1+1+1+1+3=(k * 5+3)+1+1+1+1+1 by omega,show k * 5+1+1+1+1+1+4=(k * 5+4)+1+1+1+1+1 by omega]
  simpa [qC9] using this
theorem qN0 (a:List StI):∀ u∈qC9 a,u.oneCell'=true:=by
 induction a with
 | nil=>simp [qC9]
 | cons p ps ih =>
  intro u hu
  simp only [qC9,List.mem_cons] at hu
  rcases hu with rfl | rfl | rfl | rfl | rfl | hu
  ·rfl
  ·rfl
  ·rfl
  ·rfl
  ·rfl
  ·exact ih u hu
def qE2 (w:World) (B:Nat) (v:Value) (gs:List StI):Prop:=w.ownsRow B 43 5 v gs.length (qC9 gs)
theorem qE2.shape {w:World} {B:Nat} {v:Value} {gs:List StI} (h:qE2 w B v gs) (hv:v ≠ .slice none 0 0):∃ g cap,v = .slice (some ⟨g,0,none⟩) gs.length cap:=by
 have h0:w.ownsRow B 43 5 v gs.length (qC9 gs):=h
 rcases h0.2 with ⟨h',_⟩ | ⟨g,cap,cur,h',_⟩
 ·exact absurd h' hv
 ·exact ⟨g,cap,h'⟩
theorem qE2.below {w w':World} {B:Nat} {v:Value} {gs:List StI} (h:qE2 w B v gs) (hb:Below w.heap.size w w'):qE2 w' B v gs :=
 World.ownsRow.kept (row:=none) h ⟨hb.os,hb.tape,hb.output,hb.size,fun k hk _=>hb.block k hk⟩ (by cases v.ownBlock <;> simp)
theorem qC7 {w:World} {B B':Nat} {v:Value} {gs:List StI} (h:qE2 w B v gs) (hb:B'≤B):qE2 w B' v gs:=by
 have h0:w.ownsRow B 43 5 v gs.length (qC9 gs):=h
 refine ⟨h0.1,?_⟩
 rcases h0.2 with h' | ⟨g,cap,cur,e,hg,rest⟩
 ·exact .inl h'
 ·exact .inr ⟨g,cap,cur,e,Nat.le_trans hb hg,rest⟩
theorem QO5 {w:World} {B:Nat} {v:Value} {es:List StI} {x:StI} (h:w.ownsRow B 43 5 v (es.length+1) (qC9 es++[.int .i64 x.k,.int .i64 x.e,.int .i64 x.f,.int .i64 x.s,.int .i64 x.n])):qE2 w B v (es++[x]):=by
 unfold qE2
 rw [List.length_append,qM0]
 exact h
theorem ownSt_grown {w1 Z w':World} {B:Nat} {v:Value} {es:List StI} (ho:qE2 Z B v es) (hb:Below B w1 Z) (hg:Z.grownBy w' v.ownBlock) (hB:B≤Z.heap.size):Below B w1 w':=by
 have h0:Z.ownsRow B 43 5 v es.length (qC9 es):=ho
 exact hb.grown hg hB (fun j hj=>(h0.lt j hj).1)
def StV (w:World) (a:Option Addr) (zs:List StI):Prop:=∀ k p,zs[k]? = some p→∃ g,a=some ⟨g,0,none⟩∧qR0 w g (k * 5) p
theorem StV.isIn {w:World} {a:Option Addr} {n:Nat} {zs:List StI} (hn:zs.length=n) (h:StV w a zs):qL3 w a n zs:=by
 refine ⟨hn,fun hp=>?_⟩
 obtain ⟨g,ha,_⟩:=h 0 _ (List.getElem?_eq_getElem (by omega))
 refine ⟨g,0,ha,fun k x e=>?_⟩
 obtain ⟨g',ha',hx⟩:=h k x e
 rw [ha] at ha'
 cases ha'
 rw [Nat.zero_add]
 exact hx
theorem qE2.view {w:World} {B:Nat} {a:Option Addr} {n cap:Nat} {zs:List StI} (h:qE2 w B (.slice a n cap) zs):StV w a zs:=by
 intro k p e
 have hk:k < zs.length:=by
  by_cases q:k < zs.length
  ·exact q
  ·rw [List.getElem?_eq_none (by omega)] at e;cases e
 have h0:w.ownsRow B 43 5 (.slice a n cap) zs.length (qC9 zs):=h
 rcases h0.2 with ⟨h',h''⟩ | ⟨g,cap',cur,h',_⟩
 ·omega
 ·simp at h'
  obtain ⟨rfl,rfl,rfl⟩:=h'
  obtain ⟨f0,f1,f2,f3,f4⟩:=QK9 zs k p e
  exact ⟨g,rfl,(h0.cellAt (k * 5) (by omega)).trans f0,(h0.cellAt (k * 5+1) (by omega)).trans f1,(h0.cellAt (k * 5+2) (by omega)).trans f2,(h0.cellAt (k * 5+3) (by omega)).trans f3,(h0.cellAt (k * 5+4) (by omega)).trans f4⟩
theorem qE2.form {w:World} {B:Nat} {v:Value} {zs:List StI} (h:qE2 w B v zs):(v = .slice none 0 0∧zs=[])∨∃ g cap,v = .slice (some ⟨g,0,none⟩) zs.length cap∧B≤g∧g < w.heap.size∧zs.length≤cap∧cap≤maxLen:=by
 have h0:w.ownsRow B 43 5 v zs.length (qC9 zs):=h
 rcases h0.2 with ⟨h',h''⟩ | ⟨g,cap',cur,h',hb,hg,hc,hm,_⟩
 ·exact .inl ⟨h',List.length_eq_zero_iff.1 h''⟩
 ·exact .inr ⟨g,cap',h',hb,(Array.getElem?_eq_some_iff.1 hg).1,hc,hm⟩
theorem qO0.below {w w':World} {g n:Nat} (h:qO0 w g n) (hg:g < w.heap.size) (hb:Below w.heap.size w w'):qO0 w' g n :=
 ⟨fun j hj=>by obtain ⟨v,e⟩:=h.1 j hj;exact ⟨v,(hb.cell (p:=⟨g,j,none⟩) hg).trans e⟩,fun j=>(hb.frozen (p:=⟨g,j,none⟩) hg).trans (h.2 j)⟩
theorem qO0.grown {w w':World} {g n:Nat} {row:Option Nat} (h:qO0 w g n) (hg:g < w.heap.size) (hr:w.grownBy w' row) (hne:some g≠row):qO0 w' g n :=
 ⟨fun j hj=>by obtain ⟨v,e⟩:=h.1 j hj;exact ⟨v,hr.cell e hne⟩,fun j=>by
  have:=h.2 j
  unfold World.frozen? at this ⊢
  simp only at this ⊢
  rw [hr.block g hg hne]
  exact this⟩

structure qH2 where
 i:Int
 u:Int
 sa:Option Addr
 sn:Nat
 sc:Nat
 ss:List StI
 la:Option Addr
 ln:Nat
 lc:Nat
 ls:List LkI
deriving Inhabited
structure qE0 (w:World) (r:qH2):Prop where
 said:qL3 w r.sa r.sn r.ss
 locks:qI8 w r.la r.ln r.ls
theorem qE0.below {w w':World} {r:qH2} (h:qE0 w r) (hb:Below w.heap.size w w'):qE0 w' r:=⟨h.said.below hb,h.locks.below hb⟩
structure qM3 (m:Nat) (r:qH2):Prop where
 said:r.sn≤m
 locks:r.ln≤m
structure QC7 (w:World) (L:Nat) (r y:qH2):Prop where
 i:y.i=r.i
 u:y.u=r.u
 sn:y.sn=r.sn
 ln:y.ln=r.ln
 sc:y.sc=r.sn
 lc:y.lc=r.ln
 ss:y.ss=r.ss
 ls:y.ls=r.ls
 sa:y.sa=some ⟨L,0,none⟩
 la:∃ g,y.la=some ⟨g,0,none⟩∧L < g∧g < w.heap.size∧qX7 w g r.ls∧qO1 w g r.ln
 sl:qX4 w L r.ss∧qO0 w L r.sn
 slt:L < w.heap.size
theorem QC7.below {w w':World} {L:Nat} {r y:qH2} (h:QC7 w L r y) (hb:Below w.heap.size w w'):QC7 w' L r y:=by
 obtain ⟨g,e,h1,h2,h3,h4⟩:=h.la
 exact ⟨h.i,h.u,h.sn,h.ln,h.sc,h.lc,h.ss,h.ls,h.sa,⟨g,e,h1,by have:=hb.size;omega,h3.below hb,h4.below h2 hb⟩,⟨h.sl.1.below hb,h.sl.2.below h.slt hb⟩,by have:=hb.size;have:=h.slt;omega⟩
theorem QC7.isIn {w:World} {L:Nat} {r y:qH2} (h:QC7 w L r y) (h1:r.ss.length=r.sn) (h2:r.ls.length=r.ln):qE0 w y:=by
 obtain ⟨g,e,_,_,h3,_⟩:=h.la
 refine ⟨?_,?_⟩
 ·rw [h.sa,h.sn,h.ss];exact qL3.of h1 h.sl.1
 ·rw [e,h.ln,h.ls];exact qI8.of h2 h3
structure qZ2 (w:World) (b:Nat) (u0 u1 u2 u3:Value):Prop where
 c0:w.cell? ⟨b,0,none⟩=some u0
 c1:w.cell? ⟨b,1,none⟩=some u1
 c2:w.cell? ⟨b,2,none⟩=some u2
 c3:w.cell? ⟨b,3,none⟩=some u3
 fz:∀ j,w.frozen? ⟨b,j,none⟩=false
theorem qZ2.lt {w:World} {b:Nat} {u0 u1 u2 u3:Value} (h:qZ2 w b u0 u1 u2 u3):b < w.heap.size:=zL w ⟨b,0,none⟩ h.c0
theorem qZ2.below {w w':World} {b:Nat} {u0 u1 u2 u3:Value} (h:qZ2 w b u0 u1 u2 u3) (hb:Below w.heap.size w w'):qZ2 w' b u0 u1 u2 u3 :=
 ⟨(hb.cell (p:=⟨b,0,none⟩) h.lt).trans h.c0,(hb.cell (p:=⟨b,1,none⟩) h.lt).trans h.c1,(hb.cell (p:=⟨b,2,none⟩) h.lt).trans h.c2,(hb.cell (p:=⟨b,3,none⟩) h.lt).trans h.c3,fun j=>(hb.frozen (p:=⟨b,j,none⟩) h.lt).trans (h.fz j)⟩
theorem qZ2.new (w:World) (u0 u1 u2 u3:Value) (t:TypeId):qZ2 (w.alloc (.cells #[u0,u1,u2,u3] t)) w.heap.size u0 u1 u2 u3:=⟨by simp,by simp,by simp,by simp,fun j=>by simp [go_sem]⟩
theorem qZ2.put2 {w:World} {b:Nat} {u0 u1 u2 u3:Value} (h:qZ2 w b u0 u1 u2 u3) (v:Value):qZ2 (w.setCell ⟨b,2,none⟩ v) b u0 u1 v u3:=by
 obtain ⟨h0,h1,h2,h3,hf⟩:=h
 refine ⟨?_,?_,?_,?_,fun j=>by simp [hf]⟩ <;> simp [go_sem,h0,h1,h2,h3]
theorem qZ2.put3 {w:World} {b:Nat} {u0 u1 u2 u3:Value} (h:qZ2 w b u0 u1 u2 u3) (v:Value):qZ2 (w.setCell ⟨b,3,none⟩ v) b u0 u1 u2 v:=by
 obtain ⟨h0,h1,h2,h3,hf⟩:=h
 refine ⟨?_,?_,?_,?_,fun j=>by simp [hf]⟩ <;> simp [go_sem,h0,h1,h2,h3]
theorem qQ1 (w:World) (q o:Nat) (v:Value):w.grownBy (w.setCell ⟨q,o,none⟩ v) (some q):=by
 refine ⟨rfl,rfl,rfl,by simp,fun i hi hne=>?_⟩
 have hq:i≠q:=fun e=>hne (by rw [e])
 rw [Below.heap_setCell _ _ _ _ hq]
theorem qW9 {w w1 w2:World} {row:Option Nat} (h:w.grownBy w1 row) (h':w1.grownBy w2 row):w.grownBy w2 row :=
 ⟨h'.os.trans h.os,h'.tape.trans h.tape,h'.output.trans h.output,Nat.le_trans h.size h'.size,fun i hi hne=>by rw [h'.block i (Nat.lt_of_lt_of_le hi h.size) hne];exact h.block i hi hne⟩
theorem qZ2.grown {w w':World} {b:Nat} {u0 u1 u2 u3:Value} {row:Option Nat} (h:qZ2 w b u0 u1 u2 u3) (hg:w.grownBy w' row) (hne:some b≠row):qZ2 w' b u0 u1 u2 u3 :=
 ⟨hg.cell h.c0 hne,hg.cell h.c1 hne,hg.cell h.c2 hne,hg.cell h.c3 hne,fun j=>by
  have:=h.fz j
  unfold World.frozen? at this ⊢
  rw [hg.block b h.lt hne]
  exact this⟩
theorem qX4.grown {w w':World} {g:Nat} {gs:List StI} {row:Option Nat} (h:qX4 w g gs) (hg:w.grownBy w' row) (hne:some g≠row):qX4 w' g gs:=fun k x e=>by
 obtain ⟨h0,h1,h2,h3,h4⟩:=h k x e
 exact ⟨hg.cell h0 hne,hg.cell h1 hne,hg.cell h2 hne,hg.cell h3 hne,hg.cell h4 hne⟩
theorem qX7.grown {w w':World} {g:Nat} {gs:List LkI} {row:Option Nat} (h:qX7 w g gs) (hg:w.grownBy w' row) (hne:some g≠row):qX7 w' g gs:=fun k x e=>by
 obtain ⟨h0,h1,h2,h3⟩:=h k x e
 exact ⟨hg.cell h0 hne,hg.cell h1 hne,hg.cell h2 hne,hg.cell h3 hne⟩
theorem qZ5 (r:qH2) (w:World) (hle:qM3 1048576 r) (h:qE0 w r) :
  Calls Tryz.prog 11 #[.agg #[.int .i64 r.i,.int .i64 r.u,.slice r.sa r.sn r.sc,.slice r.la r.ln r.lc]] w fun e w'=>∃ (y:qH2) (L:Nat),e = .returned (.agg #[.int .i64 y.i,.int .i64 y.u,.slice y.sa y.sn y.sc,.slice y.la y.ln y.lc])∧w.heap.size≤L∧QC7 w' L r y∧Below w.heap.size w w':=by
 have H:Hid (qE0 w r):=h
 have HLE:Hid (qM3 1048576 r):=hle
 clear h hle
 obtain ⟨V0,hV0⟩:∃ V,V=w.alloc (.cells #[.int .i64 r.i,.int .i64 r.u,.slice r.sa r.sn r.sc,.slice r.la r.ln r.lc] 25):=⟨_,rfl⟩
 obtain ⟨V1,hV1⟩:∃ V,V=V0.alloc (.cells #[.int .i64 0,.int .i64 0,.slice none 0 0,.slice none 0 0] 33):=⟨_,rfl⟩
 obtain ⟨V,hV⟩:∃ V,V=V1.alloc (.cells #[.int .i64 r.i,.int .i64 r.u,.slice none 0 0,.slice none 0 0] 33):=⟨_,rfl⟩
 have z0:V0.heap.size=w.heap.size+1:=by rw [hV0];simp
 have z1:V1.heap.size=w.heap.size+1+1:=by rw [hV1];simp [z0]
 have z2:V.heap.size=w.heap.size+1+1+1:=by rw [hV];simp [z1]
 have b0:Below w.heap.size w V0:=by rw [hV0];exact zN
 have b1:Below V0.heap.size V0 V1:=by rw [hV1];exact zN
 have b2:Below V1.heap.size V1 V:=by rw [hV];exact zN
 have X0:qZ2 V w.heap.size (.int .i64 r.i) (.int .i64 r.u) (.slice r.sa r.sn r.sc) (.slice r.la r.ln r.lc):=by
  have q:qZ2 V0 w.heap.size (.int .i64 r.i) (.int .i64 r.u) (.slice r.sa r.sn r.sc) (.slice r.la r.ln r.lc):=by rw [hV0];exact qZ2.new _ _ _ _ _ _
  exact (q.below b1).below b2
 have Y0:qZ2 V (w.heap.size+1) (.int .i64 0) (.int .i64 0) (.slice none 0 0) (.slice none 0 0):=by
  have q:qZ2 V1 V0.heap.size (.int .i64 0) (.int .i64 0) (.slice none 0 0) (.slice none 0 0):=by rw [hV1];exact qZ2.new _ _ _ _ _ _
  rw [z0] at q
  exact q.below b2
 have O0:qZ2 V (w.heap.size+1+1) (.int .i64 r.i) (.int .i64 r.u) (.slice none 0 0) (.slice none 0 0):=by
  have q:qZ2 V V1.heap.size (.int .i64 r.i) (.int .i64 r.u) (.slice none 0 0) (.slice none 0 0):=by rw [hV];exact qZ2.new _ _ _ _ _ _
  rw [z1] at q
  exact q
 have B0:Hid (Below w.heap.size w V):=(b0.trans (b1.mono b0.size)).trans (b2.mono (by omega))
 have HV:Hid (V=((w.alloc (.cells #[.int .i64 r.i,.int .i64 r.u,.slice r.sa r.sn r.sc,.slice r.la r.ln r.lc] 25)).alloc (.cells #[.int .i64 0,.int .i64 0,.slice none 0 0,.slice none 0 0] 33)).alloc (.cells #[.int .i64 r.i,.int .i64 r.u,.slice none 0 0,.slice none 0 0] 33)):=by rw [hV,hV1,hV0];exact rfl
 have Z2:Hid (V.heap.size=w.heap.size+1+1+1):=z2
 have XX:Hid (qZ2 V w.heap.size (.int .i64 r.i) (.int .i64 r.u) (.slice r.sa r.sn r.sc) (.slice r.la r.ln r.lc)∧qZ2 V (w.heap.size+1) (.int .i64 0) (.int .i64 0) (.slice none 0 0) (.slice none 0 0)∧qZ2 V (w.heap.size+1+1) (.int .i64 r.i) (.int .i64 r.u) (.slice none 0 0) (.slice none 0 0)):=⟨X0,Y0,O0⟩
 clear hV hV1 hV0 z0 z1 z2 b0 b1 b2 X0 Y0 O0 V0 V1
 go_enter Tryz.func11,Tryz.ntmps11
 go_wp2_with fail
 rw [← HV.out]
 clear HV
 refine (QD1 r.sa r.sn r.sc r.ss V HLE.out.said (H.out.said.below B0.out)).mono ?_
 rintro e w1 ⟨rfl,hat1,hlt1,hb1,hroom1⟩
 obtain ⟨X1,Y1,O1⟩:=XX.out
 have X1:=X1.below hb1
 have Y1:=Y1.below hb1
 have O1:=O1.below hb1
 have B1:Below w.heap.size w w1:=B0.out.trans (hb1.mono B0.out.size)
 have hz1:w.heap.size+1+1+1≤w1.heap.size:=by have:=Z2.out;have:=hb1.size;omega
 obtain ⟨U,hU⟩:∃ U,U=w1.setCell ⟨w.heap.size+1+1,2,none⟩ (.slice (some ⟨V.heap.size,0,none⟩) r.sn r.sn):=⟨_,rfl⟩
 have gU:w1.grownBy U (some (w.heap.size+1+1)):=by rw [hU];exact qQ1 _ _ _ _
 have BU:Hid (Below w.heap.size w U):=by rw [hU];exact B1.setCell (by show w.heap.size≤w.heap.size+1+1;omega) _
 have XU:Hid (qZ2 U w.heap.size (.int .i64 r.i) (.int .i64 r.u) (.slice r.sa r.sn r.sc) (.slice r.la r.ln r.lc)∧qZ2 U (w.heap.size+1) (.int .i64 0) (.int .i64 0) (.slice none 0 0) (.slice none 0 0)∧qZ2 U (w.heap.size+1+1) (.int .i64 r.i) (.int .i64 r.u) (.slice (some ⟨V.heap.size,0,none⟩) r.sn r.sn) (.slice none 0 0)):=by
  refine ⟨X1.grown gU (fun e=>by injection e;omega),Y1.grown gU (fun e=>by injection e;omega),?_⟩
  rw [hU];exact O1.put2 _
 have SU:Hid (qX4 U V.heap.size r.ss∧qO0 U V.heap.size r.sn∧V.heap.size < U.heap.size):=by
  have hne:some V.heap.size≠some (w.heap.size+1+1):=fun e=>by injection e;have:=Z2.out;omega
  exact ⟨hat1.grown gU hne,hroom1.grown hlt1 gU hne,by have:=gU.size;omega⟩
 obtain ⟨x0,x1,x2,x3,_⟩:=X1
 obtain ⟨o0,o1,o2,o3,of⟩:=O1
 have of2:=of 2
 have hlo:w.heap.size+1+1 < w1.heap.size:=by omega
 have hlx:w.heap.size < w1.heap.size:=by omega
 clear hat1 hroom1 hb1 Y1 B1 gU XX of
 go_wp2_with fail
 rw [← hU]
 clear hU x0 x1 x2 x3 o0 o1 o2 o3 of2 hlo hlx
 refine (QU8 r.la r.ln r.lc r.ls U HLE.out.locks (H.out.locks.below BU.out)).mono ?_
 rintro e w2 ⟨rfl,hat2,hlt2,hb2,hroom2⟩
 obtain ⟨X2,Y2,O2⟩:=XU.out
 have X2:=X2.below hb2
 have Y2:=Y2.below hb2
 have O2:=O2.below hb2
 have B2:Below w.heap.size w w2:=BU.out.trans (hb2.mono BU.out.size)
 have hz2:w.heap.size+1+1+1≤w2.heap.size:=by have:=SU.out.2.2;have:=Z2.out;have:=hb2.size;omega
 obtain ⟨T,hT⟩:∃ T,T=w2.setCell ⟨w.heap.size+1+1,3,none⟩ (.slice (some ⟨U.heap.size,0,none⟩) r.ln r.ln):=⟨_,rfl⟩
 have gT:w2.grownBy T (some (w.heap.size+1+1)):=by rw [hT];exact qQ1 _ _ _ _
 have BT:Below w.heap.size w T:=by rw [hT];exact B2.setCell (by show w.heap.size≤w.heap.size+1+1;omega) _
 have YT:=Y2.grown gT (fun e=>by injection e;omega)
 have OT:qZ2 T (w.heap.size+1+1) (.int .i64 r.i) (.int .i64 r.u) (.slice (some ⟨V.heap.size,0,none⟩) r.sn r.sn) (.slice (some ⟨U.heap.size,0,none⟩) r.ln r.ln):=by rw [hT];exact O2.put3 _
 have ST:Hid (qX4 T V.heap.size r.ss∧qO0 T V.heap.size r.sn∧V.heap.size < T.heap.size∧qX7 T U.heap.size r.ls∧qO1 T U.heap.size r.ln∧U.heap.size < T.heap.size∧V.heap.size < U.heap.size∧w.heap.size+1+1 < V.heap.size):=by
  have hz:=Z2.out
  have hs:=SU.out
  have hne:some V.heap.size≠some (w.heap.size+1+1):=fun e=>by injection e;omega
  have hne2:some U.heap.size≠some (w.heap.size+1+1):=fun e=>by injection e;omega
  have hsz:=gT.size
  have hbz:=hb2.size
  exact ⟨(hs.1.below hb2).grown gT hne,(hs.2.1.below hs.2.2 hb2).grown (by omega) gT hne,by omega,hat2.grown gT hne2,hroom2.grown hlt2 gT hne2,by omega,hs.2.2,by omega⟩
 obtain ⟨x0,x1,x2,x3,_⟩:=X2
 obtain ⟨o0,o1,o2,o3,of⟩:=O2
 have of3:=of 3
 have hlo:w.heap.size+1+1 < w2.heap.size:=by omega
 have hlx:w.heap.size < w2.heap.size:=by omega
 obtain ⟨p0,p1,p2,p3,_⟩:=OT
 obtain ⟨y0,y1,y2,y3,yf⟩:=YT
 have f0:=yf 0
 have f1:=yf 1
 have f2:=yf 2
 have f3:=yf 3
 have BT':Hid (Below w.heap.size w T):=BT
 clear hat2 hroom2 hb2 Y2 B2 gT XU of BT yf SU BU
 go_upto_region 6 with fail
 rw [← hT]
 clear hT x0 x1 x2 x3 o0 o1 o2 o3 of3
 have g4:Hid (T.grownBy ((((T.setCell ⟨w.heap.size+1,0,none⟩ (.int .i64 r.i)).setCell ⟨w.heap.size+1,1,none⟩ (.int .i64 r.u)).setCell ⟨w.heap.size+1,2,none⟩ (.slice (some ⟨V.heap.size,0,none⟩) r.sn r.sn)).setCell ⟨w.heap.size+1,3,none⟩ (.slice (some ⟨U.heap.size,0,none⟩) r.ln r.ln)) (some (w.heap.size+1))):=qW9 (qW9 (qW9 (qQ1 _ _ _ _) (qQ1 _ _ _ _)) (qQ1 _ _ _ _)) (qQ1 _ _ _ _)
 have b4:Hid (Below w.heap.size w ((((T.setCell ⟨w.heap.size+1,0,none⟩ (.int .i64 r.i)).setCell ⟨w.heap.size+1,1,none⟩ (.int .i64 r.u)).setCell ⟨w.heap.size+1,2,none⟩ (.slice (some ⟨V.heap.size,0,none⟩) r.sn r.sn)).setCell ⟨w.heap.size+1,3,none⟩ (.slice (some ⟨U.heap.size,0,none⟩) r.ln r.ln))):=(((BT'.out.setCell (by show w.heap.size≤w.heap.size+1;omega) _).setCell (by show w.heap.size≤w.heap.size+1;omega) _).setCell (by show w.heap.size≤w.heap.size+1;omega) _).setCell (by show w.heap.size≤w.heap.size+1;omega) _
 go_wp2
 refine bodyPost_ret (v:=.agg #[.int .i64 r.i,.int .i64 r.u,.slice (some ⟨V.heap.size,0,none⟩) r.sn r.sn,.slice (some ⟨U.heap.size,0,none⟩) r.ln r.ln]) (by simp [results,Tryz.results11,go_sem,y0,y1,y2,y3]) rfl ?_
 refine ⟨⟨r.i,r.u,some ⟨V.heap.size,0,none⟩,r.sn,r.sn,r.ss,some ⟨U.heap.size,0,none⟩,r.ln,r.ln,r.ls⟩,V.heap.size,rfl,by have:=ST.out;omega,?_,b4.out⟩
 obtain ⟨s1,s2,s3,s4,s5,s6,s7,s8⟩:=ST.out
 have hne:some V.heap.size≠some (w.heap.size+1):=fun e=>by injection e;omega
 have hne2:some U.heap.size≠some (w.heap.size+1):=fun e=>by injection e;omega
 have hsz:=g4.out.size
 exact ⟨rfl,rfl,rfl,rfl,rfl,rfl,rfl,rfl,rfl,⟨U.heap.size,rfl,s7,by omega,s4.grown g4.out hne2,s5.grown s6 g4.out hne2⟩,⟨s1.grown g4.out hne,s2.grown s3 g4.out hne⟩,by omega⟩

section
attribute [local go_sem ↓] st_eql
def qF0 (w:World) (b:Nat) (r:qH2):Prop:=w.cell? ⟨b,0,none⟩=some (.int .i64 r.i)∧w.cell? ⟨b,1,none⟩=some (.int .i64 r.u)∧w.cell? ⟨b,2,none⟩=some (.slice r.sa r.sn r.sc)∧w.cell? ⟨b,3,none⟩=some (.slice r.la r.ln r.lc)
theorem qF0.lt {w:World} {b:Nat} {r:qH2} (h:qF0 w b r):b < w.heap.size:=zL w ⟨b,0,none⟩ h.1
theorem qF0.below {w w':World} {b:Nat} {r:qH2} (h:qF0 w b r) (hb:Below w.heap.size w w'):qF0 w' b r :=
 ⟨(hb.cell (p:=⟨b,0,none⟩) h.lt).trans h.1,(hb.cell (p:=⟨b,1,none⟩) h.lt).trans h.2.1,(hb.cell (p:=⟨b,2,none⟩) h.lt).trans h.2.2.1,(hb.cell (p:=⟨b,3,none⟩) h.lt).trans h.2.2.2⟩
theorem qF0.new (w:World) (r:qH2) (t:TypeId):qF0 (w.alloc (.cells #[.int .i64 r.i,.int .i64 r.u,.slice r.sa r.sn r.sc,.slice r.la r.ln r.lc] t)) w.heap.size r:=⟨by simp,by simp,by simp,by simp⟩
theorem l8Kind_c (b:Nat) (r:qH2) (k e:Int) (w:World) (hx:qF0 w b r) (h:qL3 w r.sa r.sn r.ss) (hn:r.sn≤1048576) :
  Calls Tryz.prog 101 #[.pointer (some ⟨b,0,none⟩),.int .i64 k,.int .i64 e] w fun d w'=>d = .returned (.bool (qP4 r.ss k e))∧Below w.heap.size w w':=by
 obtain ⟨i,u,sa,n,sc,said,la,ln,lc,ls⟩:=r
 simp only at hx h hn ⊢
 have HZ:Hid (said.length=n):=h.1
 have H:Hid (qL3 w sa n said):=h
 have hbl:=hx.lt
 obtain ⟨_,_,x2,_⟩:=hx
 have X2:Hid (w.cell? ⟨b,2,none⟩=some (.slice sa n sc)):=x2
 clear h x2
 have hn':(n:Int)≤1048576:=by omega
 rw [kindB_at]
 obtain ⟨t,ht⟩:∃ t,(qH3 said k e).isSome=t:=⟨_,rfl⟩
 have HT:Hid ((qH3 said k e).isSome=t):=ht
 rw [ht]
 clear ht
 go_enter Tryz.func101,Tryz.ntmps101
 go_wp2
 go_loopw [7] (fun i wr=>∃ j:Nat,j≤n∧i = .int .i64 (j:Int)∧(qH3 (said.drop j) k e).isSome=t∧Below w.heap.size w wr) (fun i _=>n - (intOf i).toNat)
 case atStart=>exact ⟨0,Nat.zero_le _,rfl,HT.out,Below.refl _ _⟩
 case round =>
  obtain ⟨j,hj,rfl,hp,hnx⟩:=hrel
  have x2:=(hnx.cell (p:=⟨b,2,none⟩) hbl).trans X2.out
  have hbw2:b < wr.heap.size:=Nat.lt_of_lt_of_le hbl hnx.size
  by_cases hlt:j < n
  ·obtain ⟨g,off,x,rfl,hs,hxa,hgl⟩:=H.out.at hlt
   rw [QA0 hs] at hp
   obtain ⟨g0,g1,g2,g3,g4⟩:=hxa.below hnx hgl
   have hbw:g < wr.heap.size:=Nat.lt_of_lt_of_le hgl hnx.size
   have hlt':(j:Int) < (n:Int):=by omega
   clear hs hxa
   by_cases q1:x.k=k
   ·have b1:(x.k==k)=true:=by simp [q1]
    by_cases q2:x.e=e
    ·have b2:(x.e==e)=true:=by simp [q2]
     rw [if_pos ⟨q1,q2⟩] at hp
     have HP:Hid (true=t):=hp
     clear hp q1 q2
     go_wp2
     go_ret
     exact ⟨by rw [← HP.out];rfl,hnx⟩
    ·have b2:(x.e==e)=false:=by simp [q2]
     rw [if_neg (fun q=>q2 q.2)] at hp
     have HP:Hid ((qH3 (said.drop (j+1)) k e).isSome=t):=hp
     clear hp q1 q2
     go_wp2
     exact ⟨⟨j+1,by omega,by go_num,HP.out,hnx⟩,by simp [intOf];omega⟩
   ·have b1:(x.k==k)=false:=by simp [q1]
    rw [if_neg (fun q=>q1 q.1)] at hp
    have HP:Hid ((qH3 (said.drop (j+1)) k e).isSome=t):=hp
    clear hp q1
    go_wp2
    exact ⟨⟨j+1,by omega,by go_num,HP.out,hnx⟩,by simp [intOf];omega⟩
  ·have hkn:j=n:=by omega
   subst hkn
   rw [List.drop_of_length_le (by rw [HZ.out];exact Nat.le_refl _)] at hp
   have HP:Hid (false=t):=hp
   clear hp
   go_wp2
   go_ret
   exact ⟨by rw [← HP.out];rfl,hnx⟩
theorem qY3 (b:Nat) (r:qH2) (e:Int) (w:World) (hx:qF0 w b r) (h:qL3 w r.sa r.sn r.ss) (hn:r.sn≤1048576) :
  Calls Tryz.prog 97 #[.pointer (some ⟨b,0,none⟩),.int .i64 e] w fun d w'=>d = .returned (.bool (qS7 r.ss e))∧Below w.heap.size w w':=by
 have HK:Hid (∀ (k:Int) (w2:World),Below w.heap.size w w2→Calls Tryz.prog 101 #[.pointer (some ⟨b,0,none⟩),.int .i64 k,.int .i64 e] w2 fun d w'=>d = .returned (.bool (qP4 r.ss k e))∧Below w2.heap.size w2 w'):=fun k w2 hb=>l8Kind_c b r k e w2 (hx.below hb) (h.below hb) hn
 clear hx h
 unfold qS7
 cases q:qP4 r.ss 3 e
 ·have HQ:Hid (qP4 r.ss 3 e=false):=q
  clear q
  obtain ⟨t,ht⟩:∃ t,qP4 r.ss 4 e=t:=⟨_,rfl⟩
  have HT:Hid (qP4 r.ss 4 e=t):=ht
  rw [ht,Bool.false_or]
  clear ht
  go_enter Tryz.func97,Tryz.ntmps97
  go_wp2_with fail
  refine (HK.out 3 _ (Below.refl _ _)).mono ?_
  rintro d w1 ⟨rfl,hb1⟩
  rw [HQ.out]
  go_wp2_with fail
  refine (HK.out 4 _ hb1).mono ?_
  rintro d w2 ⟨rfl,hb2⟩
  rw [HT.out]
  go_wp2
  go_ret
  exact ⟨rfl,hb1.trans (hb2.mono hb1.size)⟩
 ·have HQ:Hid (qP4 r.ss 3 e=true):=q
  clear q
  rw [Bool.true_or]
  go_enter Tryz.func97,Tryz.ntmps97
  go_wp2_with fail
  refine (HK.out 3 _ (Below.refl _ _)).mono ?_
  rintro d w1 ⟨rfl,hb1⟩
  rw [HQ.out]
  go_wp2
  go_ret
  exact ⟨rfl,hb1⟩
theorem qK6 (b:Nat) (r:qH2) (y:StI) (w:World) (hx:qF0 w b r) (h:qL3 w r.sa r.sn r.ss) (hn:r.sn≤1048576) :
  Calls Tryz.prog 75 #[.pointer (some ⟨b,0,none⟩),.agg #[.int .i64 y.k,.int .i64 y.e,.int .i64 y.f,.int .i64 y.s,.int .i64 y.n]] w fun d w'=>d = .returned (.bool (qD2 r.ss y))∧Below w.heap.size w w':=by
 obtain ⟨i,u,sa,n,sc,said,la,ln,lc,ls⟩:=r
 simp only at hx h hn ⊢
 have HZ:Hid (said.length=n):=h.1
 obtain ⟨w0,hw0⟩:∃ w0,w0=w.alloc (.cells #[.int .i64 y.k,.int .i64 y.e,.int .i64 y.f,.int .i64 y.s,.int .i64 y.n] 43):=⟨_,rfl⟩
 have hb0:Below w.heap.size w w0:=by rw [hw0];exact zN
 have hs0:w.heap.size < w0.heap.size:=by rw [hw0];simp
 have HB0:Hid (Below w.heap.size w w0):=hb0
 have H:Hid (qL3 w0 sa n said):=h.below hb0
 have HY:Hid (qR0 w0 w.heap.size 0 y):=by rw [hw0];exact qR0.new w y _
 have hbl:=(hx.below hb0).lt
 obtain ⟨_,_,x2,_⟩:=hx.below hb0
 have X2:Hid (w0.cell? ⟨b,2,none⟩=some (.slice sa n sc)):=x2
 clear h x2 hx hb0
 have hn':(n:Int)≤1048576:=by omega
 obtain ⟨t,ht⟩:∃ t,qD2 said y=t:=⟨_,rfl⟩
 have HT:Hid (qD2 said y=t):=ht
 rw [ht]
 clear ht
 go_enter Tryz.func75,Tryz.ntmps75
 go_wp2
 rw [← hw0]
 clear hw0
 go_loopw [5] (fun i wr=>∃ j:Nat,j≤n∧i = .int .i64 (j:Int)∧qD2 (said.drop j) y=t∧Below w0.heap.size w0 wr) (fun i _=>n - (intOf i).toNat)
 case atStart=>exact ⟨0,Nat.zero_le _,rfl,HT.out,Below.refl _ _⟩
 case round =>
  obtain ⟨j,hj,rfl,hp,hnx⟩:=hrel
  have x2:=(hnx.cell (p:=⟨b,2,none⟩) hbl).trans X2.out
  have hbw2:b < wr.heap.size:=Nat.lt_of_lt_of_le hbl hnx.size
  have BN:Hid (Below w.heap.size w wr):=HB0.out.trans (hnx.mono (by omega))
  by_cases hlt:j < n
  ·obtain ⟨g,off,x,rfl,hs,hxa,hgl⟩:=H.out.at hlt
   rw [saidB_drop hs] at hp
   obtain ⟨g0,g1,g2,g3,g4⟩:=hxa.below hnx hgl
   obtain ⟨y0,y1,y2,y3,y4⟩:=HY.out.below hnx hs0
   simp only [Nat.zero_add] at y0 y1 y2 y3 y4
   have hbw:g < wr.heap.size:=Nat.lt_of_lt_of_le hgl hnx.size
   have hyw:w.heap.size < wr.heap.size:=Nat.lt_of_lt_of_le hs0 hnx.size
   have hlt':(j:Int) < (n:Int):=by omega
   clear hs hxa
   cases q:qN7 x y
   ·rw [q,Bool.false_or] at hp
    have HP:Hid (qD2 (said.drop (j+1)) y=t):=hp
    clear hp
    go_wp2
    go_quiet (fail)
    go_wp2
    exact ⟨⟨j+1,by omega,by go_num,HP.out,below_drewN hnx _⟩,by simp [intOf];omega⟩
   ·rw [q,Bool.true_or] at hp
    have HP:Hid (true=t):=hp
    clear hp
    go_wp2
    go_quiet (fail)
    go_wp2
    go_ret
    exact ⟨by rw [← HP.out];rfl,below_drewN BN.out _⟩
  ·have hkn:j=n:=by omega
   subst hkn
   rw [List.drop_of_length_le (by rw [HZ.out];exact Nat.le_refl _)] at hp
   have HP:Hid (false=t):=hp
   clear hp
   go_wp2
   go_ret
   exact ⟨by rw [← HP.out];rfl,BN.out⟩
def qX6 (said:List StI) (k e i:Int):Prop:=(i = -1∧qH3 said k e=none)∨∃ (j:Nat) (x:StI),i=(j:Int)∧said[j]? = some x∧qH3 said k e=some x
theorem saidOf1_c (bk be:Nat) (x:StI) (k e:Int) (w:World) (hk:w.cell? ⟨bk,0,none⟩=some (.int .i64 k)) (he:w.cell? ⟨be,0,none⟩=some (.int .i64 e)) :
  Calls Tryz.prog 136 #[.agg #[.int .i64 x.k,.int .i64 x.e,.int .i64 x.f,.int .i64 x.s,.int .i64 x.n],.pointer (some ⟨bk,0,none⟩),.pointer (some ⟨be,0,none⟩)] w fun d w'=>d = .returned (.bool (decide (x.k=k∧x.e=e)))∧Below w.heap.size w w':=by
 have hkl:=zL w ⟨bk,0,none⟩ hk
 have hel:=zL w ⟨be,0,none⟩ he
 by_cases q1:x.k=k
 ·have b1:(x.k==k)=true:=by simp [q1]
  by_cases q2:x.e=e
  ·have b2:(x.e==e)=true:=by simp [q2]
   rw [decide_eq_true ⟨q1,q2⟩]
   clear q1 q2
   go_enter Tryz.func136,Tryz.ntmps136
   go_wp2
   go_ret
   exact ⟨rfl,by go_grown⟩
  ·have b2:(x.e==e)=false:=by simp [q2]
   rw [decide_eq_false (fun q=>q2 q.2)]
   clear q1 q2
   go_enter Tryz.func136,Tryz.ntmps136
   go_wp2
   go_ret
   exact ⟨rfl,by go_grown⟩
 ·have b1:(x.k==k)=false:=by simp [q1]
  rw [decide_eq_false (fun q=>q1 q.1)]
  clear q1
  go_enter Tryz.func136,Tryz.ntmps136
  go_wp2
  go_ret
  exact ⟨rfl,by go_grown⟩
theorem saidIndex_c (bk be:Nat) (a:Option Addr) (n cap:Nat) (said:List StI) (k e:Int) (w:World) (hn:n≤1048576) (h:qL3 w a n said) (hk:w.cell? ⟨bk,0,none⟩=some (.int .i64 k)) (he:w.cell? ⟨be,0,none⟩=some (.int .i64 e)) :
  Calls Tryz.prog 135 #[.slice a n cap,.func (.func 136) #[] #[.pointer (some ⟨bk,0,none⟩),.pointer (some ⟨be,0,none⟩)]] w fun d w'=>(∃ i:Int,d = .returned (.int .i64 i)∧qX6 said k e i)∧Below w.heap.size w w':=by
 have HZ:Hid (said.length=n):=h.1
 have H:Hid (qL3 w a n said):=h
 have hkl:=zL w ⟨bk,0,none⟩ hk
 have hel:=zL w ⟨be,0,none⟩ he
 have HC:Hid (∀ (x:StI) (w2:World),Below w.heap.size w w2→Calls Tryz.prog 136 #[.agg #[.int .i64 x.k,.int .i64 x.e,.int .i64 x.f,.int .i64 x.s,.int .i64 x.n],.pointer (some ⟨bk,0,none⟩),.pointer (some ⟨be,0,none⟩)] w2 fun d w'=>d = .returned (.bool (decide (x.k=k∧x.e=e)))∧Below w2.heap.size w2 w'):=fun x w2 hb=>saidOf1_c bk be x k e w2 ((hb.cell (p:=⟨bk,0,none⟩) hkl).trans hk) ((hb.cell (p:=⟨be,0,none⟩) hel).trans he)
 clear h hk he hkl hel
 have hn':(n:Int)≤1048576:=by omega
 go_enter Tryz.func135,Tryz.ntmps135
 go_wp2_with fail
 go_loopw [8] (fun i wr=>∃ j:Nat,j≤n∧i = .int .i64 (j:Int)∧Hid (qH3 (said.drop j) k e=qH3 said k e)∧Below w.heap.size w wr) (fun i _=>n - (intOf i).toNat)
 case atStart=>exact ⟨0,Nat.zero_le _,rfl,by show qH3 (said.drop 0) k e=_;rw [List.drop_zero],Below.refl _ _⟩
 case round =>
  obtain ⟨j,hj,rfl,HP,hnx⟩:=hrel
  by_cases hlt:j < n
  ·obtain ⟨g,off,x,rfl,hs,hxa,hgl⟩:=H.out.at hlt
   have HS:Hid (said[j]? = some x):=hs
   have HD:=QA0 hs k e
   obtain ⟨g0,g1,g2,g3,g4⟩:=hxa.below hnx hgl
   have hbw:g < wr.heap.size:=Nat.lt_of_lt_of_le hgl hnx.size
   have hlt':(j:Int) < (n:Int):=by omega
   clear hs hxa
   by_cases q:x.k=k∧x.e=e
   ·have HI:Hid (qX6 said k e (j:Int)):=.inr ⟨j,x,rfl,HS.out,by rw [← HP.out,HD,if_pos q]⟩
    have HQ:Hid (decide (x.k=k∧x.e=e)=true):=decide_eq_true q
    clear q HD
    go_wp2_with fail
    refine (HC.out x _ hnx).mono ?_
    rintro d w1 ⟨rfl,hb1⟩
    rw [HQ.out]
    go_wp2
    go_ret
    exact ⟨⟨_,rfl,HI.out⟩,hnx.trans (hb1.mono hnx.size)⟩
   ·have HN:Hid (qH3 (said.drop (j+1)) k e=qH3 said k e):=by show _=_;rw [← HP.out,HD,if_neg q]
    have HQ:Hid (decide (x.k=k∧x.e=e)=false):=decide_eq_false q
    clear q HD
    go_wp2_with fail
    refine (HC.out x _ hnx).mono ?_
    rintro d w1 ⟨rfl,hb1⟩
    rw [HQ.out]
    go_wp2
    exact ⟨⟨j+1,by omega,by go_num,HN,hnx.trans (hb1.mono hnx.size)⟩,by simp [intOf];omega⟩
  ·have hkn:j=n:=by omega
   subst hkn
   have HI:Hid (qX6 said k e (-1)):=.inl ⟨rfl,by rw [← HP.out,List.drop_of_length_le (by rw [HZ.out];exact Nat.le_refl _)];rfl⟩
   go_wp2
   go_ret
   exact ⟨⟨_,rfl,HI.out⟩,hnx⟩
theorem QQ7 (a:Option Addr) (n cap:Nat) (said:List StI) (k e:Int) (w:World) (hn:n≤1048576) (h:qL3 w a n said) :
  Calls Tryz.prog 106 #[.slice a n cap,.int .i64 k,.int .i64 e] w fun d w'=>(∃ i:Int,d = .returned (.int .i64 i)∧qX6 said k e i)∧Below w.heap.size w w':=by
 obtain ⟨W,hW⟩:∃ W,W=(w.alloc (.cells #[.int .i64 k] 2)).alloc (.cells #[.int .i64 e] 2):=⟨_,rfl⟩
 have B0:Below w.heap.size w W:=by rw [hW];exact (zN).alloc (by simp) _
 have c0:W.cell? ⟨w.heap.size,0,none⟩=some (.int .i64 k):=by rw [hW];simp
 have c1:W.cell? ⟨w.heap.size+1,0,none⟩=some (.int .i64 e):=by rw [hW];simp
 have HC:Hid (Calls Tryz.prog 135 #[.slice a n cap,.func (.func 136) #[] #[.pointer (some ⟨w.heap.size,0,none⟩),.pointer (some ⟨w.heap.size+1,0,none⟩)]] W fun d w'=>(∃ i:Int,d = .returned (.int .i64 i)∧qX6 said k e i)∧Below W.heap.size W w'):=saidIndex_c _ _ a n cap said k e W hn (h.below B0) c0 c1
 clear h c0 c1
 have hmf:∀ (fn:Fn) (first cap:Array Value) (w:World),(Instr.makeFunc fn first cap).run Tryz.prog w = .ok (.func fn first cap) w:=fun _ _ _ _=>rfl
 go_enter Tryz.func106,Tryz.ntmps106
 go_wp2_with fail
 rw [← hW]
 clear hW
 refine HC.out.mono ?_
 rintro d w1 ⟨⟨i,rfl,hi⟩,hb1⟩
 go_wp2
 go_ret
 exact ⟨⟨i,rfl,hi⟩,B0.trans (hb1.mono B0.size)⟩
end

end Go.Proofs.YtlhgjackapdmbaaGreatDoor
