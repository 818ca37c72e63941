/- Contracts. -/
import Derived.Test.YtlhgjackapdmbaaGreatDoorPe09
import Derived.Test.YtlhgjackapdmbaaGreatDoorPe10
namespace Go.Proofs.YtlhgjackapdmbaaGreatDoor
set_option maxRecDepth 100000
set_option maxHeartbeats 8000000
open Go.RowKit
set_option linter.unusedVariables false
set_option linter.unusedSimpArgs false

def qC4:List StI→List Value
 | []=>[]
 | p::ps => .int .i64 p.k :: .int .i64 p.e :: .int .i64 p.f :: .int .i64 p.s :: .int .i64 p.n::qC4 ps
theorem qN7 (a b:List StI):qC4 (a++b)=qC4 a++qC4 b:=by
 induction a with
 | nil=>rfl
 | cons p ps ih=>simp [qC4,ih]
theorem QA3 (a:List StI):(qC4 a).length=a.length * 5:=by
 induction a with
 | nil=>rfl
 | cons p ps ih=>simp [qC4,ih];omega
theorem QN1:∀ (a:List StI) (k:Nat) (p:StI),a[k]? = some p→(qC4 a)[k * 5]? = some (.int .i64 p.k)∧(qC4 a)[k * 5+1]? = some (.int .i64 p.e)∧(qC4 a)[k * 5+2]? = some (.int .i64 p.f)∧(qC4 a)[k * 5+3]? = some (.int .i64 p.s)∧(qC4 a)[k * 5+4]? = some (.int .i64 p.n)
 | [],_,_,h=>by simp at h
 | q::qs,0,p,h=>by simp at h;subst h;exact ⟨rfl,rfl,rfl,rfl,rfl⟩
 | q::qs,k+1,p,h=>by
  have:=QN1 qs k p (by simpa using h)
  rw [show (k+1) * 5=k * 5+1+1+1+1+1 by omega,show k * 5+1+1+1+1+1+1=(k * 5+1)+1+1+1+1+1 by omega,show k * 5+1+1+1+1+1+2=(k * 5+2)+1+1+1+1+1 by omega,show k * 5+1+1+1+1+1+3=(k * 5+3)+1+1+1+1+1 by omega,show k * 5+1+1+1+1+1+4=(k * 5+4)+1+1+1+1+1 by omega]
  simpa [qC4] using this
theorem qP0 (a:List StI):∀ u∈qC4 a,u.oneCell'=true:=by
 induction a with
 | nil=>simp [qC4]
 | cons p ps ih =>
  intro u hu
  simp only [qC4,List.mem_cons] at hu
  rcases hu with rfl | rfl | rfl | rfl | rfl | hu
  ·rfl
  ·rfl
  ·rfl
  ·rfl
  ·rfl
  ·exact ih u hu
def qB1 (w:World) (B:Nat) (v:Value) (gs:List StI):Prop:=w.ownsRow B 43 5 v gs.length (qC4 gs)
theorem qB1.shape {w:World} {B:Nat} {v:Value} {gs:List StI} (h:qB1 w B v gs) (hv:v ≠ .slice none 0 0):∃ g cap,v = .slice (some ⟨g,0,none⟩) gs.length cap:=by
 have h0:w.ownsRow B 43 5 v gs.length (qC4 gs):=h
 rcases h0.2 with ⟨h',_⟩ | ⟨g,cap,cur,h',_⟩
 ·exact absurd h' hv
 ·exact ⟨g,cap,h'⟩
theorem qB1.below {w w':World} {B:Nat} {v:Value} {gs:List StI} (h:qB1 w B v gs) (hb:Below w.heap.size w w'):qB1 w' B v gs :=
 World.ownsRow.kept (row:=none) h ⟨hb.os,hb.tape,hb.output,hb.size,fun k hk _=>hb.block k hk⟩ (by cases v.ownBlock <;> simp)
theorem qC5 {w:World} {B B':Nat} {v:Value} {gs:List StI} (h:qB1 w B v gs) (hb:B'≤B):qB1 w B' v gs:=by
 have h0:w.ownsRow B 43 5 v gs.length (qC4 gs):=h
 refine ⟨h0.1,?_⟩
 rcases h0.2 with h' | ⟨g,cap,cur,e,hg,rest⟩
 ·exact .inl h'
 ·exact .inr ⟨g,cap,cur,e,Nat.le_trans hb hg,rest⟩
theorem QR1 {w:World} {B:Nat} {v:Value} {es:List StI} {x:StI} (h:w.ownsRow B 43 5 v (es.length+1) (qC4 es++[.int .i64 x.k,.int .i64 x.e,.int .i64 x.f,.int .i64 x.s,.int .i64 x.n])):qB1 w B v (es++[x]):=by
 unfold qB1
 rw [List.length_append,qN7]
 exact h
theorem ownSt_grown {w1 Z w':World} {B:Nat} {v:Value} {es:List StI} (ho:qB1 Z B v es) (hb:Below B w1 Z) (hg:Z.grownBy w' v.ownBlock) (hB:B≤Z.heap.size):Below B w1 w':=by
 have h0:Z.ownsRow B 43 5 v es.length (qC4 es):=ho
 exact hb.grown hg hB (fun j hj=>(h0.lt j hj).1)
def StV (w:World) (a:Option Addr) (zs:List StI):Prop:=∀ k p,zs[k]? = some p→∃ g,a=some ⟨g,0,none⟩∧qS7 w g (k * 5) p
theorem StV.below {w w':World} {a:Option Addr} {zs:List StI} (h:StV w a zs) (hb:Below w.heap.size w w'):StV w' a zs:=fun k p e=>by
 obtain ⟨g,ha,h1⟩:=h k p e
 exact ⟨g,ha,h1.below hb (zL w ⟨g,k * 5,none⟩ h1.1)⟩
theorem StV.isIn {w:World} {a:Option Addr} {n:Nat} {zs:List StI} (hn:zs.length=n) (h:StV w a zs):qM5 w a n zs:=by
 refine ⟨hn,fun hp=>?_⟩
 obtain ⟨g,ha,_⟩:=h 0 _ (List.getElem?_eq_getElem (by omega))
 refine ⟨g,0,ha,fun k x e=>?_⟩
 obtain ⟨g',ha',hx⟩:=h k x e
 rw [ha] at ha'
 cases ha'
 rw [Nat.zero_add]
 exact hx
theorem qB1.view {w:World} {B:Nat} {a:Option Addr} {n cap:Nat} {zs:List StI} (h:qB1 w B (.slice a n cap) zs):StV w a zs:=by
 intro k p e
 have hk:k < zs.length:=by
  by_cases q:k < zs.length
  ·exact q
  ·rw [List.getElem?_eq_none (by omega)] at e;cases e
 have h0:w.ownsRow B 43 5 (.slice a n cap) zs.length (qC4 zs):=h
 rcases h0.2 with ⟨h',h''⟩ | ⟨g,cap',cur,h',_⟩
 ·omega
 ·simp at h'
  obtain ⟨rfl,rfl,rfl⟩:=h'
  obtain ⟨f0,f1,f2,f3,f4⟩:=QN1 zs k p e
  exact ⟨g,rfl,(h0.cellAt (k * 5) (by omega)).trans f0,(h0.cellAt (k * 5+1) (by omega)).trans f1,(h0.cellAt (k * 5+2) (by omega)).trans f2,(h0.cellAt (k * 5+3) (by omega)).trans f3,(h0.cellAt (k * 5+4) (by omega)).trans f4⟩
theorem qB1.form {w:World} {B:Nat} {v:Value} {zs:List StI} (h:qB1 w B v zs):(v = .slice none 0 0∧zs=[])∨∃ g cap,v = .slice (some ⟨g,0,none⟩) zs.length cap∧B≤g∧g < w.heap.size∧zs.length≤cap∧cap≤maxLen:=by
 have h0:w.ownsRow B 43 5 v zs.length (qC4 zs):=h
 rcases h0.2 with ⟨h',h''⟩ | ⟨g,cap',cur,h',hb,hg,hc,hm,_⟩
 ·exact .inl ⟨h',List.length_eq_zero_iff.1 h''⟩
 ·exact .inr ⟨g,cap',h',hb,(Array.getElem?_eq_some_iff.1 hg).1,hc,hm⟩
def QX1 (n:Nat):List StI:=(List.range n).map fun j=>(⟨((1+5 * j:Nat):Int),((2+5 * j:Nat):Int),((3+5 * j:Nat):Int),((4+5 * j:Nat):Int),((5+5 * j:Nat):Int)⟩:StI)
theorem mkSt_len (n:Nat):(QX1 n).length=n:=by simp [QX1]
theorem mkSt_at (n j:Nat) (h:j < n):(QX1 n)[j]? = some (⟨((1+5 * j:Nat):Int),((2+5 * j:Nat):Int),((3+5 * j:Nat):Int),((4+5 * j:Nat):Int),((5+5 * j:Nat):Int)⟩:StI):=by simp [QX1,h]
theorem flatSt_set (a:List StI) (k:Nat) (p:StI):qC4 (a.set k p)=((((((qC4 a).set (k * 5) (.int .i64 p.k)).set (k * 5+1) (.int .i64 p.e)).set (k * 5+2) (.int .i64 p.f)).set (k * 5+3) (.int .i64 p.s)).set (k * 5+4) (.int .i64 p.n)):=by
 induction a generalizing k with
 | nil=>simp [qC4]
 | cons q qs ih =>
  cases k with
  | zero=>simp [qC4]
  | succ k =>
   rw [show (k+1) * 5=k * 5+1+1+1+1+1 by omega]
   simp [qC4,ih]
theorem qB1.put {w:World} {B g cap:Nat} {zs:List StI} {n:Nat} (hn:n=zs.length) (h:qB1 w B (.slice (some ⟨g,0,none⟩) n cap) zs) (j:Nat) (p:StI) :
  qB1 (((((w.setCell ⟨g,j * 5,none⟩ (.int .i64 p.k)).setCell ⟨g,j * 5+1,none⟩ (.int .i64 p.e)).setCell ⟨g,j * 5+2,none⟩ (.int .i64 p.f)).setCell ⟨g,j * 5+3,none⟩ (.int .i64 p.s)).setCell ⟨g,j * 5+4,none⟩ (.int .i64 p.n)) B (.slice (some ⟨g,0,none⟩) n cap) (zs.set j p)∧w.grownBy (((((w.setCell ⟨g,j * 5,none⟩ (.int .i64 p.k)).setCell ⟨g,j * 5+1,none⟩ (.int .i64 p.e)).setCell ⟨g,j * 5+2,none⟩ (.int .i64 p.f)).setCell ⟨g,j * 5+3,none⟩ (.int .i64 p.s)).setCell ⟨g,j * 5+4,none⟩ (.int .i64 p.n)) (some g):=by
 subst hn
 have h0:w.ownsRow B 43 5 (.slice (some ⟨g,0,none⟩) zs.length cap) zs.length (qC4 zs):=h
 have h1:=h0.stored (j * 5) (.int .i64 p.k)
 have h2:=h1.1.stored (j * 5+1) (.int .i64 p.e)
 have h3:=h2.1.stored (j * 5+2) (.int .i64 p.f)
 have h4:=h3.1.stored (j * 5+3) (.int .i64 p.s)
 have h5:=h4.1.stored (j * 5+4) (.int .i64 p.n)
 refine ⟨?_,qF9 (qF9 (qF9 (qF9 h1.2 h2.2) h3.2) h4.2) h5.2⟩
 show World.ownsRow _ B 43 5 _ (zs.set j p).length (qC4 (zs.set j p))
 rw [flatSt_set,List.length_set]
 exact h5.1
theorem qB1.cell {w:World} {B g cap:Nat} {zs:List StI} {n:Nat} (hn:n=zs.length) (h:qB1 w B (.slice (some ⟨g,0,none⟩) n cap) zs) (j:Nat) (hj:j < n * 5):(∃ v,w.cell? ⟨g,j,none⟩=some v)∧w.frozen? ⟨g,j,none⟩=false:=by
 subst hn
 have h0:w.ownsRow B 43 5 (.slice (some ⟨g,0,none⟩) zs.length cap) zs.length (qC4 zs):=h
 exact ⟨⟨_,(h0.cellAt j hj).trans (List.getElem?_eq_getElem (by rw [QA3];exact hj))⟩,h0.frozenAt j⟩
theorem QH2 (B:Nat) (a:Option Addr) (n cap:Nat) (zs:List StI) (w:World) (hz:n=zs.length) (hn:n≤1048576) (h:qB1 w B (.slice a n cap) zs) :
  Calls Tryz.prog 43 #[.slice a n cap,.int .i64 1] w fun e w'=>e = .returned (.int .i64 (1+5 * (n:Int)))∧qB1 w' B (.slice a n cap) (QX1 n)∧w.grownBy w' (Value.slice a n cap).ownBlock:=by
 have HO:Hid (qB1 w B (.slice a n cap) zs):=h
 have HZ:Hid (n=zs.length):=hz
 clear h hz
 have hn':(n:Int)≤1048576:=by omega
 go_enter Tryz.func43,Tryz.ntmps43
 go_wp2
 go_loopw [1,5] (fun q i wr=>∃ (j:Nat) (es:List StI),j≤n∧i = .int .i64 (j:Int)∧q = .int .i64 (1+5 * (j:Int))∧n=es.length∧qB1 wr B (.slice a n cap) es∧(∀ m,m < j→es[m]? = some (⟨((1+5 * m:Nat):Int),((2+5 * m:Nat):Int),((3+5 * m:Nat):Int),((4+5 * m:Nat):Int),((5+5 * m:Nat):Int)⟩:StI))∧w.grownBy wr (Value.slice a n cap).ownBlock)
  (fun _ i _=>n - (intOf i).toNat)
 case atStart=>exact ⟨0,zs,Nat.zero_le _,rfl,rfl,HZ.out,HO.out,fun m hm=>by omega,qM8 _ _⟩
 case round =>
  obtain ⟨j,es,hj,rfl,rfl,hes,hown,hys,hgr⟩:=hrel
  have HE:Hid (n=es.length):=hes
  clear hes
  by_cases hlt:j < n
  ·obtain ⟨g,ha⟩:∃ g,a=some ⟨g,0,none⟩:=by
    rcases hown.form with ⟨h1,h2⟩ | ⟨g,cap',h1,_⟩
    ·have:=HE.out;rw [h2] at this;simp at this;omega
    ·simp at h1;exact ⟨g,h1.1⟩
   subst ha
   obtain ⟨⟨v0,c0⟩,f0⟩:=hown.cell HE.out (j * 5) (by omega)
   obtain ⟨⟨v1,c1⟩,f1⟩:=hown.cell HE.out (j * 5+1) (by omega)
   obtain ⟨⟨v2,c2⟩,f2⟩:=hown.cell HE.out (j * 5+2) (by omega)
   obtain ⟨⟨v3,c3⟩,f3⟩:=hown.cell HE.out (j * 5+3) (by omega)
   obtain ⟨⟨v4,c4⟩,f4⟩:=hown.cell HE.out (j * 5+4) (by omega)
   have hst:=hown.put HE.out j (⟨1+5 * (j:Int),1+5 * (j:Int)+1,1+5 * (j:Int)+1+1,1+5 * (j:Int)+1+1+1,1+5 * (j:Int)+1+1+1+1⟩:StI)
   have R:Hid (qB1 (((((wr.setCell ⟨g,j * 5,none⟩ (.int .i64 (1+5 * (j:Int)))).setCell ⟨g,j * 5+1,none⟩ (.int .i64 (1+5 * (j:Int)+1))).setCell ⟨g,j * 5+2,none⟩ (.int .i64 (1+5 * (j:Int)+1+1))).setCell ⟨g,j * 5+3,none⟩ (.int .i64 (1+5 * (j:Int)+1+1+1))).setCell ⟨g,j * 5+4,none⟩ (.int .i64 (1+5 * (j:Int)+1+1+1+1))) B (.slice (some ⟨g,0,none⟩) n cap) (es.set j (⟨1+5 * (j:Int),1+5 * (j:Int)+1,1+5 * (j:Int)+1+1,1+5 * (j:Int)+1+1+1,1+5 * (j:Int)+1+1+1+1⟩:StI))∧(∀ m,m < j+1→(es.set j (⟨1+5 * (j:Int),1+5 * (j:Int)+1,1+5 * (j:Int)+1+1,1+5 * (j:Int)+1+1+1,1+5 * (j:Int)+1+1+1+1⟩:StI))[m]? = some (⟨((1+5 * m:Nat):Int),((2+5 * m:Nat):Int),((3+5 * m:Nat):Int),((4+5 * m:Nat):Int),((5+5 * m:Nat):Int)⟩:StI))∧w.grownBy (((((wr.setCell ⟨g,j * 5,none⟩ (.int .i64 (1+5 * (j:Int)))).setCell ⟨g,j * 5+1,none⟩ (.int .i64 (1+5 * (j:Int)+1))).setCell ⟨g,j * 5+2,none⟩ (.int .i64 (1+5 * (j:Int)+1+1))).setCell ⟨g,j * 5+3,none⟩ (.int .i64 (1+5 * (j:Int)+1+1+1))).setCell ⟨g,j * 5+4,none⟩ (.int .i64 (1+5 * (j:Int)+1+1+1+1))) (some g)):=by
    refine ⟨hst.1,fun m hm=>?_,qF9 hgr hst.2⟩
    have:=HE.out
    by_cases e:m=j
    ·subst e;rw [List.getElem?_set_self (by omega)];simp only [Option.some.injEq,StI.mk.injEq];omega
    ·rw [List.getElem?_set_ne (by omega)];exact hys m (by omega)
   clear hst hown hys hgr
   have hlt':(j:Int) < (n:Int):=by omega
   go_wp2
   refine ⟨⟨j+1,_,by omega,by go_num,?_,by rw [List.length_set];exact HE.out,R.out.1,R.out.2.1,R.out.2.2⟩,by simp [intOf];omega⟩
   congr 1
  ·have hjn:j=n:=by omega
   subst hjn
   have E:es=QX1 j:=by
    have:=HE.out
    apply List.ext_getElem?
    intro i
    by_cases hi:i < j
    ·rw [hys i hi,mkSt_at j i hi]
    ·rw [List.getElem?_eq_none (by omega),List.getElem?_eq_none (by rw [mkSt_len];omega)]
   rw [E] at hown
   go_wp2
   go_ret
   exact ⟨rfl,hown,hgr⟩
theorem QH4 (a:Option Addr) (n cap:Nat) (w:World) (hn:n≤1048576) (h:StV w a (QX1 n)) :
  Calls Tryz.prog 72 #[.slice a n cap,.int .i64 1] w fun e w'=>e = .returned (.int .i64 (1+5 * (n:Int)))∧w=w':=by
 have HR:Hid (StV w a (QX1 n)):=h
 clear h
 have hn':(n:Int)≤1048576:=by omega
 go_enter Tryz.func72,Tryz.ntmps72
 go_wp2
 go_loop [1,5] (fun q i=>∃ (j:Nat),j≤n∧i = .int .i64 (j:Int)∧q = .int .i64 (1+5 * (j:Int))) (fun _ i=>n - (intOf i).toNat)
 case atStart=>exact ⟨0,Nat.zero_le _,rfl,rfl⟩
 case round =>
  obtain ⟨j,hj,rfl,rfl⟩:=hrel
  by_cases hlt:j < n
  ·obtain ⟨g,ha,c0,c1,c2,c3,c4⟩:=HR.out j _ (mkSt_at n j hlt)
   subst ha
   simp only [show ((1+5 * j:Nat):Int)=1+5 * (j:Int) from by omega,show ((2+5 * j:Nat):Int)=1+5 * (j:Int)+1 from by omega,show ((3+5 * j:Nat):Int)=1+5 * (j:Int)+1+1 from by omega,show ((4+5 * j:Nat):Int)=1+5 * (j:Int)+1+1+1 from by omega,show ((5+5 * j:Nat):Int)=1+5 * (j:Int)+1+1+1+1 from by omega] at c0 c1 c2 c3 c4
   have hlt':(j:Int) < (n:Int):=by omega
   go_wp2
   refine ⟨⟨j+1,by omega,by go_num,?_⟩,by simp [intOf];omega⟩
   congr 1
  ·have hjn:j=n:=by omega
   subst hjn
   go_wp2
   go_ret
   exact ⟨rfl,rfl⟩
theorem qJ6.below {w w':World} {g n:Nat} (h:qJ6 w g n) (hg:g < w.heap.size) (hb:Below w.heap.size w w'):qJ6 w' g n :=
 ⟨fun j hj=>by obtain ⟨v,e⟩:=h.1 j hj;exact ⟨v,(hb.cell (p:=⟨g,j,none⟩) hg).trans e⟩,fun j=>(hb.frozen (p:=⟨g,j,none⟩) hg).trans (h.2 j)⟩
theorem qJ6.grown {w w':World} {g n:Nat} {row:Option Nat} (h:qJ6 w g n) (hg:g < w.heap.size) (hr:w.grownBy w' row) (hne:some g≠row):qJ6 w' g n :=
 ⟨fun j hj=>by obtain ⟨v,e⟩:=h.1 j hj;exact ⟨v,hr.cell e hne⟩,fun j=>by
  have:=h.2 j
  unfold World.frozen? at this ⊢
  simp only at this ⊢
  rw [hr.block g hg hne]
  exact this⟩
theorem qJ6.set {w:World} {g n:Nat} (h:qJ6 w g n) (o:Nat) (v:Value):qJ6 (w.setCell ⟨g,o,none⟩ v) g n:=by
 refine ⟨fun j hj=>?_,fun j=>by simp only [World.frozen?_setCell];exact h.2 j⟩
 obtain ⟨u,e⟩:=h.1 j hj
 by_cases q:j=o
 ·subst q
  exact ⟨v,by simp [go_sem,e]⟩
 ·exact ⟨u,by rw [World.cell?_setCell_other (h:=fun e=>q (by have:=congrArg Addr.off e;simp at this;omega))];exact e⟩
theorem QA5 (g n cap:Nat) (k0:Int) (w:World) (hn:n≤1048576) (h0:0≤k0) (h1:k0≤100000000) (h:qJ6 w g n) :
  Calls Tryz.prog 43 #[.slice (some ⟨g,0,none⟩) n cap,.int .i64 k0] w fun e w'=>e = .returned (.int .i64 (k0+5 * (n:Int)))∧w.grownBy w' (some g):=by
 have HO:Hid (qJ6 w g n):=h
 clear h
 have hn':(n:Int)≤1048576:=by omega
 go_enter Tryz.func43,Tryz.ntmps43
 go_wp2
 go_loopw [1,5] (fun q i wr=>∃ (j:Nat),j≤n∧i = .int .i64 (j:Int)∧q = .int .i64 (k0+5 * (j:Int))∧qJ6 wr g n∧w.grownBy wr (some g))
  (fun _ i _=>n - (intOf i).toNat)
 case atStart=>exact ⟨0,Nat.zero_le _,rfl,by simp,HO.out,qM8 _ _⟩
 case round =>
  obtain ⟨j,hj,rfl,rfl,hroom,hgr⟩:=hrel
  have HG:Hid (qJ6 wr g n∧w.grownBy wr (some g)):=⟨hroom,hgr⟩
  by_cases hlt:j < n
  ·have hlt':(j:Int) < (n:Int):=by omega
   obtain ⟨v0,c0⟩:=hroom.1 (j * 5) (by omega)
   have f0:=hroom.2 (j * 5)
   obtain ⟨v1,c1⟩:=hroom.1 (j * 5+1) (by omega)
   have f1:=hroom.2 (j * 5+1)
   obtain ⟨v2,c2⟩:=hroom.1 (j * 5+2) (by omega)
   have f2:=hroom.2 (j * 5+2)
   obtain ⟨v3,c3⟩:=hroom.1 (j * 5+3) (by omega)
   have f3:=hroom.2 (j * 5+3)
   obtain ⟨v4,c4⟩:=hroom.1 (j * 5+4) (by omega)
   have f4:=hroom.2 (j * 5+4)
   clear hroom hgr
   go_wp2
   refine ⟨⟨j+1,by omega,by go_num,?_,?_,?_⟩,by simp [intOf];omega⟩
   ·congr 1;omega
   ·exact (((((HG.out.1.set _ _).set _ _).set _ _).set _ _).set _ _)
   ·exact (qF9 (qF9 (qF9 (qF9 (qF9 HG.out.2 (qJ5 _ _ _ _)) (qJ5 _ _ _ _)) (qJ5 _ _ _ _)) (qJ5 _ _ _ _)) (qJ5 _ _ _ _))
  ·have hjn:j=n:=by omega
   subst hjn
   go_wp2
   go_ret
   exact ⟨rfl,hgr⟩
theorem QK6 {W:World} {B:Nat} {a:Option Addr} {n cap:Nat} {ys:List StI} (h:qB1 W B (.slice a n cap) ys):∀ q,(Value.slice a n cap).ownBlock=some q→B≤q∧q < W.heap.size:=by
 have h0:W.ownsRow B 43 5 (.slice a n cap) ys.length (qC4 ys):=h
 exact fun q e=>h0.lt q e

structure qH5 where
 i:Int
 u:Int
 sa:Option Addr
 sn:Nat
 sc:Nat
 ss:List StI
 la:Option Addr
 ln:Nat
 lc:Nat
 ls:List LkI
deriving Inhabited
structure qE7 (w:World) (r:qH5):Prop where
 said:qM5 w r.sa r.sn r.ss
 locks:qK1 w r.la r.ln r.ls
theorem qE7.below {w w':World} {r:qH5} (h:qE7 w r) (hb:Below w.heap.size w w'):qE7 w' r:=⟨h.said.below hb,h.locks.below hb⟩
structure qL6 (m:Nat) (r:qH5):Prop where
 said:r.sn≤m
 locks:r.ln≤m
structure qH3 (w:World) (L:Nat) (r y:qH5):Prop where
 i:y.i=r.i
 u:y.u=r.u
 sn:y.sn=r.sn
 ln:y.ln=r.ln
 sc:y.sc=r.sn
 lc:y.lc=r.ln
 ss:y.ss=r.ss
 ls:y.ls=r.ls
 sa:y.sa=some ⟨L,0,none⟩
 la:∃ g,y.la=some ⟨g,0,none⟩∧L < g∧g < w.heap.size∧qZ6 w g r.ls∧qJ2 w g r.ln
 sl:qZ4 w L r.ss∧qJ6 w L r.sn
 slt:L < w.heap.size
theorem qH3.below {w w':World} {L:Nat} {r y:qH5} (h:qH3 w L r y) (hb:Below w.heap.size w w'):qH3 w' L r y:=by
 obtain ⟨g,e,h1,h2,h3,h4⟩:=h.la
 exact ⟨h.i,h.u,h.sn,h.ln,h.sc,h.lc,h.ss,h.ls,h.sa,⟨g,e,h1,by have:=hb.size;omega,h3.below hb,h4.below h2 hb⟩,⟨h.sl.1.below hb,h.sl.2.below h.slt hb⟩,by have:=hb.size;have:=h.slt;omega⟩
theorem qH3.isIn {w:World} {L:Nat} {r y:qH5} (h:qH3 w L r y) (h1:r.ss.length=r.sn) (h2:r.ls.length=r.ln):qE7 w y:=by
 obtain ⟨g,e,_,_,h3,_⟩:=h.la
 refine ⟨?_,?_⟩
 ·rw [h.sa,h.sn,h.ss];exact qM5.of h1 h.sl.1
 ·rw [e,h.ln,h.ls];exact qK1.of h2 h3
structure QB4 (w:World) (b:Nat) (u0 u1 u2 u3:Value):Prop where
 c0:w.cell? ⟨b,0,none⟩=some u0
 c1:w.cell? ⟨b,1,none⟩=some u1
 c2:w.cell? ⟨b,2,none⟩=some u2
 c3:w.cell? ⟨b,3,none⟩=some u3
 fz:∀ j,w.frozen? ⟨b,j,none⟩=false
theorem QB4.lt {w:World} {b:Nat} {u0 u1 u2 u3:Value} (h:QB4 w b u0 u1 u2 u3):b < w.heap.size:=zL w ⟨b,0,none⟩ h.c0
theorem QB4.below {w w':World} {b:Nat} {u0 u1 u2 u3:Value} (h:QB4 w b u0 u1 u2 u3) (hb:Below w.heap.size w w'):QB4 w' b u0 u1 u2 u3 :=
 ⟨(hb.cell (p:=⟨b,0,none⟩) h.lt).trans h.c0,(hb.cell (p:=⟨b,1,none⟩) h.lt).trans h.c1,(hb.cell (p:=⟨b,2,none⟩) h.lt).trans h.c2,(hb.cell (p:=⟨b,3,none⟩) h.lt).trans h.c3,fun j=>(hb.frozen (p:=⟨b,j,none⟩) h.lt).trans (h.fz j)⟩
theorem QB4.new (w:World) (u0 u1 u2 u3:Value) (t:TypeId):QB4 (w.alloc (.cells #[u0,u1,u2,u3] t)) w.heap.size u0 u1 u2 u3:=⟨by simp,by simp,by simp,by simp,fun j=>by simp [go_sem]⟩
theorem QB4.put2 {w:World} {b:Nat} {u0 u1 u2 u3:Value} (h:QB4 w b u0 u1 u2 u3) (v:Value):QB4 (w.setCell ⟨b,2,none⟩ v) b u0 u1 v u3:=by
 obtain ⟨h0,h1,h2,h3,hf⟩:=h
 refine ⟨?_,?_,?_,?_,fun j=>by simp [hf]⟩ <;> simp [go_sem,h0,h1,h2,h3]
theorem QB4.put3 {w:World} {b:Nat} {u0 u1 u2 u3:Value} (h:QB4 w b u0 u1 u2 u3) (v:Value):QB4 (w.setCell ⟨b,3,none⟩ v) b u0 u1 u2 v:=by
 obtain ⟨h0,h1,h2,h3,hf⟩:=h
 refine ⟨?_,?_,?_,?_,fun j=>by simp [hf]⟩ <;> simp [go_sem,h0,h1,h2,h3]
theorem qR8 (w:World) (q o:Nat) (v:Value):w.grownBy (w.setCell ⟨q,o,none⟩ v) (some q):=by
 refine ⟨rfl,rfl,rfl,by simp,fun i hi hne=>?_⟩
 have hq:i≠q:=fun e=>hne (by rw [e])
 rw [Below.heap_setCell _ _ _ _ hq]
theorem qY9 {w w1 w2:World} {row:Option Nat} (h:w.grownBy w1 row) (h':w1.grownBy w2 row):w.grownBy w2 row :=
 ⟨h'.os.trans h.os,h'.tape.trans h.tape,h'.output.trans h.output,Nat.le_trans h.size h'.size,fun i hi hne=>by rw [h'.block i (Nat.lt_of_lt_of_le hi h.size) hne];exact h.block i hi hne⟩
theorem QB4.grown {w w':World} {b:Nat} {u0 u1 u2 u3:Value} {row:Option Nat} (h:QB4 w b u0 u1 u2 u3) (hg:w.grownBy w' row) (hne:some b≠row):QB4 w' b u0 u1 u2 u3 :=
 ⟨hg.cell h.c0 hne,hg.cell h.c1 hne,hg.cell h.c2 hne,hg.cell h.c3 hne,fun j=>by
  have:=h.fz j
  unfold World.frozen? at this ⊢
  rw [hg.block b h.lt hne]
  exact this⟩
theorem qZ4.grown {w w':World} {g:Nat} {gs:List StI} {row:Option Nat} (h:qZ4 w g gs) (hg:w.grownBy w' row) (hne:some g≠row):qZ4 w' g gs:=fun k x e=>by
 obtain ⟨h0,h1,h2,h3,h4⟩:=h k x e
 exact ⟨hg.cell h0 hne,hg.cell h1 hne,hg.cell h2 hne,hg.cell h3 hne,hg.cell h4 hne⟩
theorem qZ6.grown {w w':World} {g:Nat} {gs:List LkI} {row:Option Nat} (h:qZ6 w g gs) (hg:w.grownBy w' row) (hne:some g≠row):qZ6 w' g gs:=fun k x e=>by
 obtain ⟨h0,h1,h2,h3⟩:=h k x e
 exact ⟨hg.cell h0 hne,hg.cell h1 hne,hg.cell h2 hne,hg.cell h3 hne⟩
theorem qO5 (r:qH5) (w:World) (hle:qL6 1048576 r) (h:qE7 w r) :
  Calls Tryz.prog 11 #[.agg #[.int .i64 r.i,.int .i64 r.u,.slice r.sa r.sn r.sc,.slice r.la r.ln r.lc]] w fun e w'=>∃ (y:qH5) (L:Nat),e = .returned (.agg #[.int .i64 y.i,.int .i64 y.u,.slice y.sa y.sn y.sc,.slice y.la y.ln y.lc])∧w.heap.size≤L∧qH3 w' L r y∧Below w.heap.size w w':=by
 have H:Hid (qE7 w r):=h
 have HLE:Hid (qL6 1048576 r):=hle
 clear h hle
 obtain ⟨V0,hV0⟩:∃ V,V=w.alloc (.cells #[.int .i64 r.i,.int .i64 r.u,.slice r.sa r.sn r.sc,.slice r.la r.ln r.lc] 25):=⟨_,rfl⟩
 obtain ⟨V1,hV1⟩:∃ V,V=V0.alloc (.cells #[.int .i64 0,.int .i64 0,.slice none 0 0,.slice none 0 0] 33):=⟨_,rfl⟩
 obtain ⟨V,hV⟩:∃ V,V=V1.alloc (.cells #[.int .i64 r.i,.int .i64 r.u,.slice none 0 0,.slice none 0 0] 33):=⟨_,rfl⟩
 have z0:V0.heap.size=w.heap.size+1:=by rw [hV0];simp
 have z1:V1.heap.size=w.heap.size+1+1:=by rw [hV1];simp [z0]
 have z2:V.heap.size=w.heap.size+1+1+1:=by rw [hV];simp [z1]
 have b0:Below w.heap.size w V0:=by rw [hV0];exact zN
 have b1:Below V0.heap.size V0 V1:=by rw [hV1];exact zN
 have b2:Below V1.heap.size V1 V:=by rw [hV];exact zN
 have X0:QB4 V w.heap.size (.int .i64 r.i) (.int .i64 r.u) (.slice r.sa r.sn r.sc) (.slice r.la r.ln r.lc):=by
  have q:QB4 V0 w.heap.size (.int .i64 r.i) (.int .i64 r.u) (.slice r.sa r.sn r.sc) (.slice r.la r.ln r.lc):=by rw [hV0];exact QB4.new _ _ _ _ _ _
  exact (q.below b1).below b2
 have Y0:QB4 V (w.heap.size+1) (.int .i64 0) (.int .i64 0) (.slice none 0 0) (.slice none 0 0):=by
  have q:QB4 V1 V0.heap.size (.int .i64 0) (.int .i64 0) (.slice none 0 0) (.slice none 0 0):=by rw [hV1];exact QB4.new _ _ _ _ _ _
  rw [z0] at q
  exact q.below b2
 have O0:QB4 V (w.heap.size+1+1) (.int .i64 r.i) (.int .i64 r.u) (.slice none 0 0) (.slice none 0 0):=by
  have q:QB4 V V1.heap.size (.int .i64 r.i) (.int .i64 r.u) (.slice none 0 0) (.slice none 0 0):=by rw [hV];exact QB4.new _ _ _ _ _ _
  rw [z1] at q
  exact q
 have B0:Hid (Below w.heap.size w V):=(b0.trans (b1.mono b0.size)).trans (b2.mono (by omega))
 have HV:Hid (V=((w.alloc (.cells #[.int .i64 r.i,.int .i64 r.u,.slice r.sa r.sn r.sc,.slice r.la r.ln r.lc] 25)).alloc (.cells #[.int .i64 0,.int .i64 0,.slice none 0 0,.slice none 0 0] 33)).alloc (.cells #[.int .i64 r.i,.int .i64 r.u,.slice none 0 0,.slice none 0 0] 33)):=by rw [hV,hV1,hV0];exact rfl
 have Z2:Hid (V.heap.size=w.heap.size+1+1+1):=z2
 have XX:Hid (QB4 V w.heap.size (.int .i64 r.i) (.int .i64 r.u) (.slice r.sa r.sn r.sc) (.slice r.la r.ln r.lc)∧QB4 V (w.heap.size+1) (.int .i64 0) (.int .i64 0) (.slice none 0 0) (.slice none 0 0)∧QB4 V (w.heap.size+1+1) (.int .i64 r.i) (.int .i64 r.u) (.slice none 0 0) (.slice none 0 0)):=⟨X0,Y0,O0⟩
 clear hV hV1 hV0 z0 z1 z2 b0 b1 b2 X0 Y0 O0 V0 V1
 go_enter Tryz.func11,Tryz.ntmps11
 go_wp2_with fail
 rw [← HV.out]
 clear HV
 refine (QE9 r.sa r.sn r.sc r.ss V HLE.out.said (H.out.said.below B0.out)).mono ?_
 rintro e w1 ⟨rfl,hat1,hlt1,hb1,hroom1⟩
 obtain ⟨X1,Y1,O1⟩:=XX.out
 have X1:=X1.below hb1
 have Y1:=Y1.below hb1
 have O1:=O1.below hb1
 have B1:Below w.heap.size w w1:=B0.out.trans (hb1.mono B0.out.size)
 have hz1:w.heap.size+1+1+1≤w1.heap.size:=by have:=Z2.out;have:=hb1.size;omega
 obtain ⟨U,hU⟩:∃ U,U=w1.setCell ⟨w.heap.size+1+1,2,none⟩ (.slice (some ⟨V.heap.size,0,none⟩) r.sn r.sn):=⟨_,rfl⟩
 have gU:w1.grownBy U (some (w.heap.size+1+1)):=by rw [hU];exact qR8 _ _ _ _
 have BU:Hid (Below w.heap.size w U):=by rw [hU];exact B1.setCell (by show w.heap.size≤w.heap.size+1+1;omega) _
 have XU:Hid (QB4 U w.heap.size (.int .i64 r.i) (.int .i64 r.u) (.slice r.sa r.sn r.sc) (.slice r.la r.ln r.lc)∧QB4 U (w.heap.size+1) (.int .i64 0) (.int .i64 0) (.slice none 0 0) (.slice none 0 0)∧QB4 U (w.heap.size+1+1) (.int .i64 r.i) (.int .i64 r.u) (.slice (some ⟨V.heap.size,0,none⟩) r.sn r.sn) (.slice none 0 0)):=by
  refine ⟨X1.grown gU (fun e=>by injection e;omega),Y1.grown gU (fun e=>by injection e;omega),?_⟩
  rw [hU];exact O1.put2 _
 have SU:Hid (qZ4 U V.heap.size r.ss∧qJ6 U V.heap.size r.sn∧V.heap.size < U.heap.size):=by
  have hne:some V.heap.size≠some (w.heap.size+1+1):=fun e=>by injection e;have:=Z2.out;omega
  exact ⟨hat1.grown gU hne,hroom1.grown hlt1 gU hne,by have:=gU.size;omega⟩
 obtain ⟨x0,x1,x2,x3,_⟩:=X1
 obtain ⟨o0,o1,o2,o3,of⟩:=O1
 have of2:=of 2
 have hlo:w.heap.size+1+1 < w1.heap.size:=by omega
 have hlx:w.heap.size < w1.heap.size:=by omega
 clear hat1 hroom1 hb1 Y1 B1 gU XX of
 go_wp2_with fail
 rw [← hU]
 clear hU x0 x1 x2 x3 o0 o1 o2 o3 of2 hlo hlx
 refine (QX7 r.la r.ln r.lc r.ls U HLE.out.locks (H.out.locks.below BU.out)).mono ?_
 rintro e w2 ⟨rfl,hat2,hlt2,hb2,hroom2⟩
 obtain ⟨X2,Y2,O2⟩:=XU.out
 have X2:=X2.below hb2
 have Y2:=Y2.below hb2
 have O2:=O2.below hb2
 have B2:Below w.heap.size w w2:=BU.out.trans (hb2.mono BU.out.size)
 have hz2:w.heap.size+1+1+1≤w2.heap.size:=by have:=SU.out.2.2;have:=Z2.out;have:=hb2.size;omega
 obtain ⟨T,hT⟩:∃ T,T=w2.setCell ⟨w.heap.size+1+1,3,none⟩ (.slice (some ⟨U.heap.size,0,none⟩) r.ln r.ln):=⟨_,rfl⟩
 have gT:w2.grownBy T (some (w.heap.size+1+1)):=by rw [hT];exact qR8 _ _ _ _
 have BT:Below w.heap.size w T:=by rw [hT];exact B2.setCell (by show w.heap.size≤w.heap.size+1+1;omega) _
 have YT:=Y2.grown gT (fun e=>by injection e;omega)
 have OT:QB4 T (w.heap.size+1+1) (.int .i64 r.i) (.int .i64 r.u) (.slice (some ⟨V.heap.size,0,none⟩) r.sn r.sn) (.slice (some ⟨U.heap.size,0,none⟩) r.ln r.ln):=by rw [hT];exact O2.put3 _
 have ST:Hid (qZ4 T V.heap.size r.ss∧qJ6 T V.heap.size r.sn∧V.heap.size < T.heap.size∧qZ6 T U.heap.size r.ls∧qJ2 T U.heap.size r.ln∧U.heap.size < T.heap.size∧V.heap.size < U.heap.size∧w.heap.size+1+1 < V.heap.size):=by
  have hz:=Z2.out
  have hs:=SU.out
  have hne:some V.heap.size≠some (w.heap.size+1+1):=fun e=>by injection e;omega
  have hne2:some U.heap.size≠some (w.heap.size+1+1):=fun e=>by injection e;omega
  have hsz:=gT.size
  have hbz:=hb2.size
  exact ⟨(hs.1.below hb2).grown gT hne,(hs.2.1.below hs.2.2 hb2).grown (by omega) gT hne,by omega,hat2.grown gT hne2,hroom2.grown hlt2 gT hne2,by omega,hs.2.2,by omega⟩
 obtain ⟨x0,x1,x2,x3,_⟩:=X2
 obtain ⟨o0,o1,o2,o3,of⟩:=O2
 have of3:=of 3
 have hlo:w.heap.size+1+1 < w2.heap.size:=by omega
 have hlx:w.heap.size < w2.heap.size:=by omega
 obtain ⟨p0,p1,p2,p3,_⟩:=OT
 obtain ⟨y0,y1,y2,y3,yf⟩:=YT
 have f0:=yf 0
 have f1:=yf 1
 have f2:=yf 2
 have f3:=yf 3
 have BT':Hid (Below w.heap.size w T):=BT
 clear hat2 hroom2 hb2 Y2 B2 gT XU of BT yf SU BU
 go_upto_region 6 with fail
 rw [← hT]
 clear hT x0 x1 x2 x3 o0 o1 o2 o3 of3
 have g4:Hid (T.grownBy ((((T.setCell ⟨w.heap.size+1,0,none⟩ (.int .i64 r.i)).setCell ⟨w.heap.size+1,1,none⟩ (.int .i64 r.u)).setCell ⟨w.heap.size+1,2,none⟩ (.slice (some ⟨V.heap.size,0,none⟩) r.sn r.sn)).setCell ⟨w.heap.size+1,3,none⟩ (.slice (some ⟨U.heap.size,0,none⟩) r.ln r.ln)) (some (w.heap.size+1))):=qY9 (qY9 (qY9 (qR8 _ _ _ _) (qR8 _ _ _ _)) (qR8 _ _ _ _)) (qR8 _ _ _ _)
 have b4:Hid (Below w.heap.size w ((((T.setCell ⟨w.heap.size+1,0,none⟩ (.int .i64 r.i)).setCell ⟨w.heap.size+1,1,none⟩ (.int .i64 r.u)).setCell ⟨w.heap.size+1,2,none⟩ (.slice (some ⟨V.heap.size,0,none⟩) r.sn r.sn)).setCell ⟨w.heap.size+1,3,none⟩ (.slice (some ⟨U.heap.size,0,none⟩) r.ln r.ln))):=(((BT'.out.setCell (by show w.heap.size≤w.heap.size+1;omega) _).setCell (by show w.heap.size≤w.heap.size+1;omega) _).setCell (by show w.heap.size≤w.heap.size+1;omega) _).setCell (by show w.heap.size≤w.heap.size+1;omega) _
 go_wp2
 refine bodyPost_ret (v:=.agg #[.int .i64 r.i,.int .i64 r.u,.slice (some ⟨V.heap.size,0,none⟩) r.sn r.sn,.slice (some ⟨U.heap.size,0,none⟩) r.ln r.ln]) (by simp [results,Tryz.results11,go_sem,y0,y1,y2,y3]) rfl ?_
 refine ⟨⟨r.i,r.u,some ⟨V.heap.size,0,none⟩,r.sn,r.sn,r.ss,some ⟨U.heap.size,0,none⟩,r.ln,r.ln,r.ls⟩,V.heap.size,rfl,by have:=ST.out;omega,?_,b4.out⟩
 obtain ⟨s1,s2,s3,s4,s5,s6,s7,s8⟩:=ST.out
 have hne:some V.heap.size≠some (w.heap.size+1):=fun e=>by injection e;omega
 have hne2:some U.heap.size≠some (w.heap.size+1):=fun e=>by injection e;omega
 have hsz:=g4.out.size
 exact ⟨rfl,rfl,rfl,rfl,rfl,rfl,rfl,rfl,rfl,⟨U.heap.size,rfl,s7,by omega,s4.grown g4.out hne2,s5.grown s6 g4.out hne2⟩,⟨s1.grown g4.out hne,s2.grown s3 g4.out hne⟩,by omega⟩

section
attribute [local go_sem ↓] st_eql
def qG8 (w:World) (b:Nat) (r:qH5):Prop:=w.cell? ⟨b,0,none⟩=some (.int .i64 r.i)∧w.cell? ⟨b,1,none⟩=some (.int .i64 r.u)∧w.cell? ⟨b,2,none⟩=some (.slice r.sa r.sn r.sc)∧w.cell? ⟨b,3,none⟩=some (.slice r.la r.ln r.lc)
theorem qG8.lt {w:World} {b:Nat} {r:qH5} (h:qG8 w b r):b < w.heap.size:=zL w ⟨b,0,none⟩ h.1
theorem qG8.below {w w':World} {b:Nat} {r:qH5} (h:qG8 w b r) (hb:Below w.heap.size w w'):qG8 w' b r :=
 ⟨(hb.cell (p:=⟨b,0,none⟩) h.lt).trans h.1,(hb.cell (p:=⟨b,1,none⟩) h.lt).trans h.2.1,(hb.cell (p:=⟨b,2,none⟩) h.lt).trans h.2.2.1,(hb.cell (p:=⟨b,3,none⟩) h.lt).trans h.2.2.2⟩
theorem qG8.new (w:World) (r:qH5) (t:TypeId):qG8 (w.alloc (.cells #[.int .i64 r.i,.int .i64 r.u,.slice r.sa r.sn r.sc,.slice r.la r.ln r.lc] t)) w.heap.size r:=⟨by simp,by simp,by simp,by simp⟩
theorem l8Kind_c (b:Nat) (r:qH5) (k e:Int) (w:World) (hx:qG8 w b r) (h:qM5 w r.sa r.sn r.ss) (hn:r.sn≤1048576) :
  Calls Tryz.prog 101 #[.pointer (some ⟨b,0,none⟩),.int .i64 k,.int .i64 e] w fun d w'=>d = .returned (.bool (qR1 r.ss k e))∧Below w.heap.size w w':=by
 obtain ⟨i,u,sa,n,sc,said,la,ln,lc,ls⟩:=r
 simp only at hx h hn ⊢
 have HZ:Hid (said.length=n):=h.1
 have H:Hid (qM5 w sa n said):=h
 have hbl:=hx.lt
 obtain ⟨_,_,x2,_⟩:=hx
 have X2:Hid (w.cell? ⟨b,2,none⟩=some (.slice sa n sc)):=x2
 clear h x2
 have hn':(n:Int)≤1048576:=by omega
 rw [kindB_at]
 obtain ⟨t,ht⟩:∃ t,(qI5 said k e).isSome=t:=⟨_,rfl⟩
 have HT:Hid ((qI5 said k e).isSome=t):=ht
 rw [ht]
 clear ht
 go_enter Tryz.func101,Tryz.ntmps101
 go_wp2
 go_loopw [7] (fun i wr=>∃ j:Nat,j≤n∧i = .int .i64 (j:Int)∧(qI5 (said.drop j) k e).isSome=t∧Below w.heap.size w wr) (fun i _=>n - (intOf i).toNat)
 case atStart=>exact ⟨0,Nat.zero_le _,rfl,HT.out,Below.refl _ _⟩
 case round =>
  obtain ⟨j,hj,rfl,hp,hnx⟩:=hrel
  have x2:=(hnx.cell (p:=⟨b,2,none⟩) hbl).trans X2.out
  have hbw2:b < wr.heap.size:=Nat.lt_of_lt_of_le hbl hnx.size
  by_cases hlt:j < n
  ·obtain ⟨g,off,x,rfl,hs,hxa,hgl⟩:=H.out.at hlt
   rw [QC1 hs] at hp
   obtain ⟨g0,g1,g2,g3,g4⟩:=hxa.below hnx hgl
   have hbw:g < wr.heap.size:=Nat.lt_of_lt_of_le hgl hnx.size
   have hlt':(j:Int) < (n:Int):=by omega
   clear hs hxa
   by_cases q1:x.k=k
   ·have b1:(x.k==k)=true:=by simp [q1]
    by_cases q2:x.e=e
    ·have b2:(x.e==e)=true:=by simp [q2]
     rw [if_pos ⟨q1,q2⟩] at hp
     have HP:Hid (true=t):=hp
     clear hp q1 q2
     go_wp2
     go_ret
     exact ⟨by rw [← HP.out];rfl,hnx⟩
    ·have b2:(x.e==e)=false:=by simp [q2]
     rw [if_neg (fun q=>q2 q.2)] at hp
     have HP:Hid ((qI5 (said.drop (j+1)) k e).isSome=t):=hp
     clear hp q1 q2
     go_wp2
     exact ⟨⟨j+1,by omega,by go_num,HP.out,hnx⟩,by simp [intOf];omega⟩
   ·have b1:(x.k==k)=false:=by simp [q1]
    rw [if_neg (fun q=>q1 q.1)] at hp
    have HP:Hid ((qI5 (said.drop (j+1)) k e).isSome=t):=hp
    clear hp q1
    go_wp2
    exact ⟨⟨j+1,by omega,by go_num,HP.out,hnx⟩,by simp [intOf];omega⟩
  ·have hkn:j=n:=by omega
   subst hkn
   rw [List.drop_of_length_le (by rw [HZ.out];exact Nat.le_refl _)] at hp
   have HP:Hid (false=t):=hp
   clear hp
   go_wp2
   go_ret
   exact ⟨by rw [← HP.out];rfl,hnx⟩
theorem QA2 (b:Nat) (r:qH5) (e:Int) (w:World) (hx:qG8 w b r) (h:qM5 w r.sa r.sn r.ss) (hn:r.sn≤1048576) :
  Calls Tryz.prog 97 #[.pointer (some ⟨b,0,none⟩),.int .i64 e] w fun d w'=>d = .returned (.bool (qU4 r.ss e))∧Below w.heap.size w w':=by
 have HK:Hid (∀ (k:Int) (w2:World),Below w.heap.size w w2→Calls Tryz.prog 101 #[.pointer (some ⟨b,0,none⟩),.int .i64 k,.int .i64 e] w2 fun d w'=>d = .returned (.bool (qR1 r.ss k e))∧Below w2.heap.size w2 w'):=fun k w2 hb=>l8Kind_c b r k e w2 (hx.below hb) (h.below hb) hn
 clear hx h
 unfold qU4
 cases q:qR1 r.ss 3 e
 ·have HQ:Hid (qR1 r.ss 3 e=false):=q
  clear q
  obtain ⟨t,ht⟩:∃ t,qR1 r.ss 4 e=t:=⟨_,rfl⟩
  have HT:Hid (qR1 r.ss 4 e=t):=ht
  rw [ht,Bool.false_or]
  clear ht
  go_enter Tryz.func97,Tryz.ntmps97
  go_wp2_with fail
  refine (HK.out 3 _ (Below.refl _ _)).mono ?_
  rintro d w1 ⟨rfl,hb1⟩
  rw [HQ.out]
  go_wp2_with fail
  refine (HK.out 4 _ hb1).mono ?_
  rintro d w2 ⟨rfl,hb2⟩
  rw [HT.out]
  go_wp2
  go_ret
  exact ⟨rfl,hb1.trans (hb2.mono hb1.size)⟩
 ·have HQ:Hid (qR1 r.ss 3 e=true):=q
  clear q
  rw [Bool.true_or]
  go_enter Tryz.func97,Tryz.ntmps97
  go_wp2_with fail
  refine (HK.out 3 _ (Below.refl _ _)).mono ?_
  rintro d w1 ⟨rfl,hb1⟩
  rw [HQ.out]
  go_wp2
  go_ret
  exact ⟨rfl,hb1⟩
theorem qM1 (b:Nat) (r:qH5) (y:StI) (w:World) (hx:qG8 w b r) (h:qM5 w r.sa r.sn r.ss) (hn:r.sn≤1048576) :
  Calls Tryz.prog 75 #[.pointer (some ⟨b,0,none⟩),.agg #[.int .i64 y.k,.int .i64 y.e,.int .i64 y.f,.int .i64 y.s,.int .i64 y.n]] w fun d w'=>d = .returned (.bool (qD8 r.ss y))∧Below w.heap.size w w':=by
 obtain ⟨i,u,sa,n,sc,said,la,ln,lc,ls⟩:=r
 simp only at hx h hn ⊢
 have HZ:Hid (said.length=n):=h.1
 obtain ⟨w0,hw0⟩:∃ w0,w0=w.alloc (.cells #[.int .i64 y.k,.int .i64 y.e,.int .i64 y.f,.int .i64 y.s,.int .i64 y.n] 43):=⟨_,rfl⟩
 have hb0:Below w.heap.size w w0:=by rw [hw0];exact zN
 have hs0:w.heap.size < w0.heap.size:=by rw [hw0];simp
 have HB0:Hid (Below w.heap.size w w0):=hb0
 have H:Hid (qM5 w0 sa n said):=h.below hb0
 have HY:Hid (qS7 w0 w.heap.size 0 y):=by rw [hw0];exact qS7.new w y _
 have hbl:=(hx.below hb0).lt
 obtain ⟨_,_,x2,_⟩:=hx.below hb0
 have X2:Hid (w0.cell? ⟨b,2,none⟩=some (.slice sa n sc)):=x2
 clear h x2 hx hb0
 have hn':(n:Int)≤1048576:=by omega
 obtain ⟨t,ht⟩:∃ t,qD8 said y=t:=⟨_,rfl⟩
 have HT:Hid (qD8 said y=t):=ht
 rw [ht]
 clear ht
 go_enter Tryz.func75,Tryz.ntmps75
 go_wp2
 rw [← hw0]
 clear hw0
 go_loopw [5] (fun i wr=>∃ j:Nat,j≤n∧i = .int .i64 (j:Int)∧qD8 (said.drop j) y=t∧Below w0.heap.size w0 wr) (fun i _=>n - (intOf i).toNat)
 case atStart=>exact ⟨0,Nat.zero_le _,rfl,HT.out,Below.refl _ _⟩
 case round =>
  obtain ⟨j,hj,rfl,hp,hnx⟩:=hrel
  have x2:=(hnx.cell (p:=⟨b,2,none⟩) hbl).trans X2.out
  have hbw2:b < wr.heap.size:=Nat.lt_of_lt_of_le hbl hnx.size
  have BN:Hid (Below w.heap.size w wr):=HB0.out.trans (hnx.mono (by omega))
  by_cases hlt:j < n
  ·obtain ⟨g,off,x,rfl,hs,hxa,hgl⟩:=H.out.at hlt
   rw [saidB_drop hs] at hp
   obtain ⟨g0,g1,g2,g3,g4⟩:=hxa.below hnx hgl
   obtain ⟨y0,y1,y2,y3,y4⟩:=HY.out.below hnx hs0
   simp only [Nat.zero_add] at y0 y1 y2 y3 y4
   have hbw:g < wr.heap.size:=Nat.lt_of_lt_of_le hgl hnx.size
   have hyw:w.heap.size < wr.heap.size:=Nat.lt_of_lt_of_le hs0 hnx.size
   have hlt':(j:Int) < (n:Int):=by omega
   clear hs hxa
   cases q:qP7 x y
   ·rw [q,Bool.false_or] at hp
    have HP:Hid (qD8 (said.drop (j+1)) y=t):=hp
    clear hp
    go_wp2
    go_quiet (fail)
    go_wp2
    exact ⟨⟨j+1,by omega,by go_num,HP.out,below_drewN hnx _⟩,by simp [intOf];omega⟩
   ·rw [q,Bool.true_or] at hp
    have HP:Hid (true=t):=hp
    clear hp
    go_wp2
    go_quiet (fail)
    go_wp2
    go_ret
    exact ⟨by rw [← HP.out];rfl,below_drewN BN.out _⟩
  ·have hkn:j=n:=by omega
   subst hkn
   rw [List.drop_of_length_le (by rw [HZ.out];exact Nat.le_refl _)] at hp
   have HP:Hid (false=t):=hp
   clear hp
   go_wp2
   go_ret
   exact ⟨by rw [← HP.out];rfl,BN.out⟩
def qZ5 (said:List StI) (k e i:Int):Prop:=(i = -1∧qI5 said k e=none)∨∃ (j:Nat) (x:StI),i=(j:Int)∧said[j]? = some x∧qI5 said k e=some x
theorem saidOf1_c (bk be:Nat) (x:StI) (k e:Int) (w:World) (hk:w.cell? ⟨bk,0,none⟩=some (.int .i64 k)) (he:w.cell? ⟨be,0,none⟩=some (.int .i64 e)) :
  Calls Tryz.prog 136 #[.agg #[.int .i64 x.k,.int .i64 x.e,.int .i64 x.f,.int .i64 x.s,.int .i64 x.n],.pointer (some ⟨bk,0,none⟩),.pointer (some ⟨be,0,none⟩)] w fun d w'=>d = .returned (.bool (decide (x.k=k∧x.e=e)))∧Below w.heap.size w w':=by
 have hkl:=zL w ⟨bk,0,none⟩ hk
 have hel:=zL w ⟨be,0,none⟩ he
 by_cases q1:x.k=k
 ·have b1:(x.k==k)=true:=by simp [q1]
  by_cases q2:x.e=e
  ·have b2:(x.e==e)=true:=by simp [q2]
   rw [decide_eq_true ⟨q1,q2⟩]
   clear q1 q2
   go_enter Tryz.func136,Tryz.ntmps136
   go_wp2
   go_ret
   exact ⟨rfl,by go_grown⟩
  ·have b2:(x.e==e)=false:=by simp [q2]
   rw [decide_eq_false (fun q=>q2 q.2)]
   clear q1 q2
   go_enter Tryz.func136,Tryz.ntmps136
   go_wp2
   go_ret
   exact ⟨rfl,by go_grown⟩
 ·have b1:(x.k==k)=false:=by simp [q1]
  rw [decide_eq_false (fun q=>q1 q.1)]
  clear q1
  go_enter Tryz.func136,Tryz.ntmps136
  go_wp2
  go_ret
  exact ⟨rfl,by go_grown⟩
theorem saidIndex_c (bk be:Nat) (a:Option Addr) (n cap:Nat) (said:List StI) (k e:Int) (w:World) (hn:n≤1048576) (h:qM5 w a n said) (hk:w.cell? ⟨bk,0,none⟩=some (.int .i64 k)) (he:w.cell? ⟨be,0,none⟩=some (.int .i64 e)) :
  Calls Tryz.prog 135 #[.slice a n cap,.func (.func 136) #[] #[.pointer (some ⟨bk,0,none⟩),.pointer (some ⟨be,0,none⟩)]] w fun d w'=>(∃ i:Int,d = .returned (.int .i64 i)∧qZ5 said k e i)∧Below w.heap.size w w':=by
 have HZ:Hid (said.length=n):=h.1
 have H:Hid (qM5 w a n said):=h
 have hkl:=zL w ⟨bk,0,none⟩ hk
 have hel:=zL w ⟨be,0,none⟩ he
 have HC:Hid (∀ (x:StI) (w2:World),Below w.heap.size w w2→Calls Tryz.prog 136 #[.agg #[.int .i64 x.k,.int .i64 x.e,.int .i64 x.f,.int .i64 x.s,.int .i64 x.n],.pointer (some ⟨bk,0,none⟩),.pointer (some ⟨be,0,none⟩)] w2 fun d w'=>d = .returned (.bool (decide (x.k=k∧x.e=e)))∧Below w2.heap.size w2 w'):=fun x w2 hb=>saidOf1_c bk be x k e w2 ((hb.cell (p:=⟨bk,0,none⟩) hkl).trans hk) ((hb.cell (p:=⟨be,0,none⟩) hel).trans he)
 clear h hk he hkl hel
 have hn':(n:Int)≤1048576:=by omega
 go_enter Tryz.func135,Tryz.ntmps135
 go_wp2_with fail
 go_loopw [8] (fun i wr=>∃ j:Nat,j≤n∧i = .int .i64 (j:Int)∧Hid (qI5 (said.drop j) k e=qI5 said k e)∧Below w.heap.size w wr) (fun i _=>n - (intOf i).toNat)
 case atStart=>exact ⟨0,Nat.zero_le _,rfl,by show qI5 (said.drop 0) k e=_;rw [List.drop_zero],Below.refl _ _⟩
 case round =>
  obtain ⟨j,hj,rfl,HP,hnx⟩:=hrel
  by_cases hlt:j < n
  ·obtain ⟨g,off,x,rfl,hs,hxa,hgl⟩:=H.out.at hlt
   have HS:Hid (said[j]? = some x):=hs
   have HD:=QC1 hs k e
   obtain ⟨g0,g1,g2,g3,g4⟩:=hxa.below hnx hgl
   have hbw:g < wr.heap.size:=Nat.lt_of_lt_of_le hgl hnx.size
   have hlt':(j:Int) < (n:Int):=by omega
   clear hs hxa
   by_cases q:x.k=k∧x.e=e
   ·have HI:Hid (qZ5 said k e (j:Int)):=.inr ⟨j,x,rfl,HS.out,by rw [← HP.out,HD,if_pos q]⟩
    have HQ:Hid (decide (x.k=k∧x.e=e)=true):=decide_eq_true q
    clear q HD
    go_wp2_with fail
    refine (HC.out x _ hnx).mono ?_
    rintro d w1 ⟨rfl,hb1⟩
    rw [HQ.out]
    go_wp2
    go_ret
    exact ⟨⟨_,rfl,HI.out⟩,hnx.trans (hb1.mono hnx.size)⟩
   ·have HN:Hid (qI5 (said.drop (j+1)) k e=qI5 said k e):=by show _=_;rw [← HP.out,HD,if_neg q]
    have HQ:Hid (decide (x.k=k∧x.e=e)=false):=decide_eq_false q
    clear q HD
    go_wp2_with fail
    refine (HC.out x _ hnx).mono ?_
    rintro d w1 ⟨rfl,hb1⟩
    rw [HQ.out]
    go_wp2
    exact ⟨⟨j+1,by omega,by go_num,HN,hnx.trans (hb1.mono hnx.size)⟩,by simp [intOf];omega⟩
  ·have hkn:j=n:=by omega
   subst hkn
   have HI:Hid (qZ5 said k e (-1)):=.inl ⟨rfl,by rw [← HP.out,List.drop_of_length_le (by rw [HZ.out];exact Nat.le_refl _)];rfl⟩
   go_wp2
   go_ret
   exact ⟨⟨_,rfl,HI.out⟩,hnx⟩
theorem QT5 (a:Option Addr) (n cap:Nat) (said:List StI) (k e:Int) (w:World) (hn:n≤1048576) (h:qM5 w a n said) :
  Calls Tryz.prog 106 #[.slice a n cap,.int .i64 k,.int .i64 e] w fun d w'=>(∃ i:Int,d = .returned (.int .i64 i)∧qZ5 said k e i)∧Below w.heap.size w w':=by
 obtain ⟨W,hW⟩:∃ W,W=(w.alloc (.cells #[.int .i64 k] 2)).alloc (.cells #[.int .i64 e] 2):=⟨_,rfl⟩
 have B0:Below w.heap.size w W:=by rw [hW];exact (zN).alloc (by simp) _
 have c0:W.cell? ⟨w.heap.size,0,none⟩=some (.int .i64 k):=by rw [hW];simp
 have c1:W.cell? ⟨w.heap.size+1,0,none⟩=some (.int .i64 e):=by rw [hW];simp
 have HC:Hid (Calls Tryz.prog 135 #[.slice a n cap,.func (.func 136) #[] #[.pointer (some ⟨w.heap.size,0,none⟩),.pointer (some ⟨w.heap.size+1,0,none⟩)]] W fun d w'=>(∃ i:Int,d = .returned (.int .i64 i)∧qZ5 said k e i)∧Below W.heap.size W w'):=saidIndex_c _ _ a n cap said k e W hn (h.below B0) c0 c1
 clear h c0 c1
 have hmf:∀ (fn:Fn) (first cap:Array Value) (w:World),(Instr.makeFunc fn first cap).run Tryz.prog w = .ok (.func fn first cap) w:=fun _ _ _ _=>rfl
 go_enter Tryz.func106,Tryz.ntmps106
 go_wp2_with fail
 rw [← hW]
 clear hW
 refine HC.out.mono ?_
 rintro d w1 ⟨⟨i,rfl,hi⟩,hb1⟩
 go_wp2
 go_ret
 exact ⟨⟨i,rfl,hi⟩,B0.trans (hb1.mono B0.size)⟩
end

theorem QI5 {said:List StI} {k e i:Int} (h:qZ5 said k e i):decide (0≤i)=qR1 said k e:=by
 rw [kindB_at]
 rcases h with ⟨rfl,q⟩ | ⟨j,x,rfl,_,q⟩
 ·rw [q];rfl
 ·rw [q];simp
theorem isSealed_c (a:Option Addr) (n cap:Nat) (said:List StI) (e:Int) (w:World) (hn:n≤1048576) (h:qM5 w a n said) :
  Calls Tryz.prog 107 #[.slice a n cap,.int .i64 e] w fun d w'=>d = .returned (.bool (qU4 said e))∧Below w.heap.size w w':=by
 have HK:Hid (∀ (k:Int) (w2:World),Below w.heap.size w w2→Calls Tryz.prog 106 #[.slice a n cap,.int .i64 k,.int .i64 e] w2 fun d w'=>(∃ i:Int,d = .returned (.int .i64 i)∧qZ5 said k e i)∧Below w2.heap.size w2 w'):=fun k w2 hb=>QT5 a n cap said k e w2 hn (h.below hb)
 clear h
 unfold qU4
 cases q:qR1 said 3 e
 ·have HQ:Hid (qR1 said 3 e=false):=q
  clear q
  obtain ⟨t,ht⟩:∃ t,qR1 said 4 e=t:=⟨_,rfl⟩
  have HT:Hid (qR1 said 4 e=t):=ht
  rw [ht,Bool.false_or]
  clear ht
  go_enter Tryz.func107,Tryz.ntmps107
  go_wp2_with fail
  refine (HK.out 3 _ (Below.refl _ _)).mono ?_
  rintro d w1 ⟨⟨i,rfl,hi⟩,hb1⟩
  have h1:=QI5 hi
  rw [HQ.out] at h1
  clear hi
  go_wp2_with fail
  refine (HK.out 4 _ hb1).mono ?_
  rintro d w2 ⟨⟨i2,rfl,hi2⟩,hb2⟩
  have h2:=QI5 hi2
  rw [HT.out] at h2
  have H2:Hid (decide (0≤i2)=t):=h2
  clear hi2 h1 h2
  go_wp2
  go_ret
  exact ⟨by rw [← H2.out];rfl,hb1.trans (hb2.mono hb1.size)⟩
 ·have HQ:Hid (qR1 said 3 e=true):=q
  clear q
  rw [Bool.true_or]
  go_enter Tryz.func107,Tryz.ntmps107
  go_wp2_with fail
  refine (HK.out 3 _ (Below.refl _ _)).mono ?_
  rintro d w1 ⟨⟨i,rfl,hi⟩,hb1⟩
  have h1:=QI5 hi
  rw [HQ.out] at h1
  clear hi
  go_wp2
  go_ret
  exact ⟨rfl,hb1⟩
theorem QX8 (r:qH5) (l:Int) (w:World) (h0:(r.sn:Int)+(r.ln:Int)≤l) (hl:l≤1048576) :
  Calls Tryz.prog 8 #[.agg #[.int .i64 r.i,.int .i64 r.u,.slice r.sa r.sn r.sc,.slice r.la r.ln r.lc],.int .i64 l] w fun e w'=>e = .returned (.int .i64 (l - r.sn - r.ln))∧Below w.heap.size w w':=by
 have h1:(r.sn:Int)≤l:=by omega
 have h2:¬ (l - (r.sn:Int) < 0):=by omega
 have h3:¬ (l - (r.sn:Int) - (r.ln:Int) < 0):=by omega
 go_enter Tryz.func8,Tryz.ntmps8
 go_wp2_with go_in
 go_ret
 exact ⟨rfl,by go_grown⟩
theorem QO6 (r:qH5) (l:Int) (w:World) (hm:r.sn≤maxLen) (h0:l < (r.sn:Int)) (hl0:0≤l) (hl:l≤1048576) :
  Calls Tryz.prog 8 #[.agg #[.int .i64 r.i,.int .i64 r.u,.slice r.sa r.sn r.sc,.slice r.la r.ln r.lc],.int .i64 l] w fun e w'=>e = .returned (.int .i64 (-1))∧Below w.heap.size w w':=by
 unfold maxLen at hm
 have hm':(r.sn:Int)≤9223372036854775807:=by omega
 clear hm
 go_enter Tryz.func8,Tryz.ntmps8
 go_wp2_with go_in
 go_ret
 exact ⟨rfl,by go_grown⟩
theorem QJ5 (r:qH5) (l:Int) (w:World) (h1:(r.sn:Int)≤l) (hm:r.ln≤maxLen) (h0:l < (r.sn:Int)+(r.ln:Int)) (hl:l≤1048576) :
  Calls Tryz.prog 8 #[.agg #[.int .i64 r.i,.int .i64 r.u,.slice r.sa r.sn r.sc,.slice r.la r.ln r.lc],.int .i64 l] w fun e w'=>e = .returned (.int .i64 (-1))∧Below w.heap.size w w':=by
 unfold maxLen at hm
 have hm':(r.ln:Int)≤9223372036854775807:=by omega
 clear hm
 go_enter Tryz.func8,Tryz.ntmps8
 go_wp2_with go_in
 go_ret
 exact ⟨rfl,by go_grown⟩
theorem szReplica_c (r:qH5) (l:Int) (w:World) (hm:qL6 maxLen r) (hl0:0≤l) (hl:l≤1048576) :
  Calls Tryz.prog 8 #[.agg #[.int .i64 r.i,.int .i64 r.u,.slice r.sa r.sn r.sc,.slice r.la r.ln r.lc],.int .i64 l] w fun e w'=>(∃ v:Int,e = .returned (.int .i64 v)∧v≤l∧(0≤v→(r.sn:Int)≤l∧(r.ln:Int)≤l))∧Below w.heap.size w w':=by
 by_cases h1:(r.sn:Int)≤l
 ·by_cases h2:(r.sn:Int)+(r.ln:Int)≤l
  ·exact (QX8 r l w h2 hl).mono fun e w' h=>⟨⟨_,h.1,by omega,fun _=>by omega⟩,h.2⟩
  ·exact (QJ5 r l w h1 hm.locks (by omega) hl).mono fun e w' h=>⟨⟨_,h.1,by omega,fun q=>by omega⟩,h.2⟩
 ·exact (QO6 r l w hm.said (by omega) hl0 hl).mono fun e w' h=>⟨⟨_,h.1,by omega,fun q=>by omega⟩,h.2⟩

end Go.Proofs.YtlhgjackapdmbaaGreatDoor
